import Derived.Test.YtjoapiafpahihabGreatBuildB
import Derived.Test.YtjoapiafpahihabGreatSeqP
namespace Go.Proofs.YtjoapiafpahihabGreat
open Go.Proofs.Tryz
open Go.RowKit Go.Joins
set_option linter.unusedVariables false
set_option linter.unusedSimpArgs false
set_option maxRecDepth 8192
theorem zyr (v s:Value) (L:Lp) (B M:List (List Int)) (gD:Int) (w:World) (hL:zE w v L) (hS:Ys w s B M) (ao:LoopIn L) (hB:Y1 B) (hM:Y1 M) :
  Calls prog 25 #[v,s,iV gD] w fun e w'=>Bw w w'/\∃va vl vc ua ul uc,e=.returned (.tuple #[.agg #[.slice va vl vc,.slice ua ul uc],iV (Xb L B M gD)])/\(Xb L B M gD=0->zK w' (.slice va vl vc) (xH L B gD.toNat (Vl L B gD.toNat (xV M)))/\yo w' (.slice ua ul uc) (zjj M (Vl L B gD.toNat (xV M)))):=by
 cases hf:xG L B M with
 | false =>
   have hw:Xb L B M gD=2:=by unfold Xb;rw [hf];rfl
   rw [hw]
   exact (zw8 v s L B M gD w hL hS hf).mono fun e w' ⟨he,hb⟩=>⟨hb,none,0,0,none,0,0,he,fun h=>absurd h (by decide)⟩
 | true =>
   by_cases ht:0<=gD/\gD<=200
   ·have hw:Xb L B M gD=0:=by unfold Xb;rw [hf,if_pos rfl,if_pos ht]
    rw [hw]
    obtain⟨tn,rfl⟩:=Int.eq_ofNat_of_zero_le ht.1
    refine (yao v s L B M tn w hL hS hf (by omega) ao hB hM).mono fun e w' ⟨ov,mv,he,h1,h2,hb⟩=>?_
    obtain⟨va,vc,rfl,-⟩:=id h1
    obtain⟨ua,uc,rfl,-⟩:=id h2
    exact⟨hb,_,_,_,_,_,_,he,fun _=>⟨h1,h2⟩⟩
   ·have hw:Xb L B M gD=3:=by unfold Xb;rw [hf,if_pos rfl,if_neg ht]
    rw [hw]
    exact (zs6 v s L B M gD w hL hS hf (by omega)).mono fun e w' ⟨he,hb⟩=>⟨hb,none,0,0,none,0,0,he,fun h=>absurd h (by decide)⟩
theorem XZ {w:World} {k0 k1:Int} {kv:Value} {K:Kn} (h:xF w (.agg #[iV k0,iV k1,kv]) K):∃ka kc,kv=.slice ka K.ops.length kc/\k0=K.pc/\k1=K.st/\Zf w (.slice ka K.ops.length kc) K.ops:=by
 obtain⟨kl,bY,af⟩:=h
 simp only [Value.agg.injEq,Array.mk.injEq,List.cons.injEq,and_true] at bY
 obtain⟨h0,h1,rfl⟩:=bY
 injection h0 with _ h0
 injection h1 with _ h1
 obtain⟨ka,kc,rfl,-⟩:=id af
 exact⟨ka,kc,rfl,h0,h1,af⟩
set_option maxHeartbeats 16000000 in
theorem zcl (hB:zgo) (hE:zgr) (hV:zgs) (hR:zt6) (p0 p1 p2 q0 q1 q2 r:Int) (L:Lp) (B M:List (List Int)) (gD:Int) (a0 a1 a2 ba ma:Option Addr) (gA gB gC bc mc:Nat) (w:World) (hL:zE w ((lv L a0 a1 a2 gA gB gC)) L) (aC:yo w (.slice ba B.length bc) B) (aD:yo w (.slice ma M.length mc) M) (ao:LoopIn L) :
  Calls prog 7 #[(lv L a0 a1 a2 gA gB gC),(tv p0 p1 p2 q0 q1 q2 r),.agg #[.slice ba B.length bc,.slice ma M.length mc],iV gD] w (Rt w (.bool true)):=by
 have aG:=Ud aC
 have aH:=Ud aD
 have bO:=z9 (fun W (h1:zE W ((lv L a0 a1 a2 gA gB gC)) L) (h2:Ys W (.agg #[.slice ba B.length bc,.slice ma M.length mc]) B M)=>zyr _ _ L B M gD W h1 h2 ao aG aH)
 have bG:=z9 (fun W (h1:zE W ((lv L a0 a1 a2 gA gB gC)) L)=>hB _ ⟨p0,p1,p2,q0,q1,q2,r⟩ L W h1)
 have cF:=z9 hE
 have cN:=z9 hV
 have cJ:=z9 hR
 have HL:=z9 hL
 have aR:=z9 aC
 have bI:=z9 aD
 have cH:=z9 ao
 have HS:Hid ((((w.alloc (.cells #[.slice a0 L.l.length gA,.slice a1 L.b.length gB,.slice a2 L.o.length gC] 25)).alloc (.cells #[iV p0,iV p1,iV p2,iV q0,iV q1,iV q2,iV r] 28)).alloc (.cells #[.slice ba B.length bc,.slice ma M.length mc] 34)).heap.size=w.heap.size+1+1+1):=by show _=_;simp
 have aS:=z9 (below_alloc3 w (.cells #[.slice a0 L.l.length gA,.slice a1 L.b.length gB,.slice a2 L.o.length gC] 25) (.cells #[iV p0,iV p1,iV p2,iV q0,iV q1,iV q2,iV r] 28) (.cells #[.slice ba B.length bc,.slice ma M.length mc] 34))
 clear hL aC aD ao aG aH
 go_enter func7,ntmps7
 go_wp2_with fail
 refine (bO.out _ (HL.out.gE aS.out) ⟨_,_,rfl,aR.out.gE aS.out,bI.out.gE aS.out⟩).mono ?_
 rintro e x1 ⟨ab,va,vl,vc,ua,ul,uc,rfl,aM⟩
 have aZ:Below (w.heap.size+1+1+1) (((w.alloc (.cells #[.slice a0 L.l.length gA,.slice a1 L.b.length gB,.slice a2 L.o.length gC] 25)).alloc (.cells #[iV p0,iV p1,iV p2,iV q0,iV q1,iV q2,iV r] 28)).alloc (.cells #[.slice ba B.length bc,.slice ma M.length mc] 34)) x1:=by rw [<-HS.out];exact ab
 have cD:=z9 aZ
 have ah:=z9 aM
 obtain⟨⟨l0,l1,l2⟩,⟨t0,t1,t2,t3,t4,t5,t6⟩,⟨s0,s1⟩,hz,hbw⟩:=Yq aZ
 have bP:=z9 hbw
 obtain⟨wv,bj⟩:∃wv,Xb L B M gD=wv:=⟨_,rfl⟩
 have aY:=z9 bj
 rw [bj] at ah ⊢
 have dD:w.heap.size<x1.heap.size:=by omega
 have dE:w.heap.size+1<x1.heap.size:=by omega
 have bF:=z9 (below_alloc1 x1 (.cells #[.slice va vl vc,.slice ua ul uc] 65))
 have cU:=z9 (bP.out.trans (bF.out.mono bP.out.size))
 clear ab aZ hbw aM bj
 go_wp2_with fail
 refine (bG.out _ (HL.out.gE cU.out)).mono ?_
 rintro e x2 ⟨ab,k0,k1,kv,oa,ol,oc,c,rfl,bg,aB⟩
 obtain⟨ka,kl,kc,rfl⟩:∃ka kl kc,kv=.slice ka kl kc:=by
  cases hm:(zY L && yj ⟨p0,p1,p2,q0,q1,q2,r⟩) with
  | false=>obtain⟨-,-,h⟩:=bg hm;obtain⟨ka,kc,h,-⟩:=XZ h;exact⟨_,_,_,h⟩
  | true =>
    rcases aB hm with ⟨-,-,-,h⟩ | ⟨-,K,O,h,-⟩
    ·obtain⟨ka,kc,h,-⟩:=XZ h;exact⟨_,_,_,h⟩
    ·obtain⟨ka,kc,h,-⟩:=XZ h;exact⟨_,_,_,h⟩
 have bJ:=z9 bg
 have aF:=z9 aB
 have e0:x2.cell? (ad x1.heap.size 0)=some (.slice va vl vc):=by rw [zf ab _ _ (by simp)];go_simp
 have e1:x2.cell? (ad x1.heap.size 1)=some (.slice ua ul uc):=by rw [zf ab _ _ (by simp)];go_simp
 have bq:x1.heap.size<x2.heap.size:=by have:=ab.size;simp at this;omega
 have aj:=z9 (bF.out.trans (ab.mono (by simp)))
 have bC:=z9 (cD.out.trans (aj.out.mono (by omega)))
 clear l0 l1 l2 t0 t1 t2 t3 t4 t5 t6 s0 s1 hz
 obtain⟨⟨l0,l1,l2⟩,⟨t0,t1,t2,t3,t4,t5,t6⟩,⟨s0,s1⟩,hz,hbw⟩:=Yq bC.out
 have bQ:=z9 hbw
 have dx:w.heap.size<x2.heap.size:=by omega
 have dy:w.heap.size+1<x2.heap.size:=by omega
 have aP:=z9 (below_alloc1 x2 (.cells #[iV k0,iV k1,.slice ka kl kc] 31))
 have ai:=z9 (bQ.out.trans (aP.out.mono bQ.out.size))
 clear ab hbw bg aB
 have dp:wv=0\/wv=2\/wv=3:=by
  have:=aY.out
  unfold Xb at this
  split at this
  ·split at this
   ·exact .inl this.symm
   ·exact .inr (.inr this.symm)
  ·exact .inr (.inl this.symm)
 rcases dp with rfl | rfl | rfl
 rotate_left
 ·go_wp2_with fail
  go_ret
  exact⟨rfl,ai.out⟩
 ·go_wp2_with fail
  go_ret
  exact⟨rfl,ai.out⟩
 by_cases ht40:40<gD
 ·go_wp2_with fail
  go_ret
  exact⟨rfl,ai.out⟩
 have df:xG L B M=true/\0<=gD:=by
  have:=aY.out
  unfold Xb at this
  split at this
  ·next h =>
   split at this
   ·next h2=>exact⟨h,h2.1⟩
   ·cases this
  ·cases this
 obtain⟨ae,dn⟩:=df
 obtain⟨hm,-⟩:=Y4 ae
 obtain⟨-,bS,dA,-⟩:=zw hm
 have cW:(0:Int)<(L.b.length:Int):=by omega
 cases hmt:yj ⟨p0,p1,p2,q0,q1,q2,r⟩ with
 | false =>
   obtain⟨rfl,rfl,-⟩:=bJ.out (by rw [hm,hmt];rfl)
   clear hm hmt ae
   go_wp2_with fail
   go_ret
   exact⟨by simp;omega,ai.out⟩
 | true =>
   rcases aF.out (by rw [hm,hmt];rfl) with ⟨rfl,ce,rfl,-⟩ | ⟨rfl,K,O,hk,hO,aA,-,-,aK,bh⟩
   ·have ce:r<5*(L.b.length:Int):=ce
    clear hm hmt ae
    go_wp2_with fail
    go_ret
    exact⟨by simp;omega,ai.out⟩
   ·obtain⟨oa2,oc2,dj,-⟩:=id hO
    injection dj with g1 g2 g3
    subst g1;subst g2;subst g3
    obtain⟨ka2,kc2,dh,bV,bW,af⟩:=XZ hk
    injection dh with g1 g2 g3
    subst g1;subst g2;subst g3
    obtain⟨pc,st,ops⟩:=K
    dsimp only at bV bW af aK bh ⊢
    subst bV;subst bW
    have aN:=zwf aA cH.out
    obtain⟨au,-⟩:=Xs aA
    obtain⟨-,-,cu,aJ,-⟩:=yP au
    obtain⟨⟨aL,dm,cx⟩,-⟩:=yz au
    have cx:1<=r:=cx
    have aL:1<=k0:=aL
    have bZ:ops.length=L.b.length:=aJ
    clear aJ
    have de:Xc L ⟨p0,p1,p2,q0,q1,q2,r⟩<=96:=by
     have h:=(zan (L:=L) hmt L.b.length).2
     show xB L ⟨p0,p1,p2,q0,q1,q2,r⟩ L.b.length<=96
     omega
    obtain⟨bU,aQ⟩:=zqb ae
    have bf:=zsg ae
    have dB:M.length<=3:=by have:=(zw hm).1;have:=(Y4 ae).2.2.1;omega
    have bH:=z9 (zq2 L ⟨p0,p1,p2,q0,q1,q2,r⟩ ⟨k0,k1,ops⟩ O B)
    have cC:XD ⟨p0,p1,p2,q0,q1,q2,r⟩ ⟨k0,k1,ops⟩ (xA L ⟨p0,p1,p2,q0,q1,q2,r⟩ ⟨k0,k1,ops⟩ O B).length M gD=0:=by
     unfold XD
     rw [bH.out,if_pos ⟨bU,by rw [aQ];exact cu,by show ((r.toNat:Nat):Int)=r;omega⟩,if_pos (by omega)]
    have aI:(gD+k1)*k0<=20000:=by
     have h1:gD*k0<=40*96:=Int.mul_le_mul (by omega) (by omega) (by omega) (by omega)
     have h2:(gD+k1)*k0=gD*k0+k1*k0:=Int.add_mul _ _ _
     have h3:k1*k0<=1200:=bh
     omega
    have cG:Hid (∀W,zE W ((lv L a0 a1 a2 gA gB gC)) L->Zf W (.slice ka ops.length kc) ops->zK W (.slice oa O.length oc) O->yo W (.slice ba B.length bc) B->Calls prog 26 #[(lv L a0 a1 a2 gA gB gC),(tv p0 p1 p2 q0 q1 q2 r),.agg #[iV k0,iV k1,.slice ka ops.length kc],.slice oa O.length oc,.slice ba B.length bc] W fun e w'=>Bw W w'/\∃ra rc,e=.returned (.tuple #[.slice ra (xA L ⟨p0,p1,p2,q0,q1,q2,r⟩ ⟨k0,k1,ops⟩ O B).length rc,iV 0])/\zK w' (.slice ra (xA L ⟨p0,p1,p2,q0,q1,q2,r⟩ ⟨k0,k1,ops⟩ O B).length rc) (xA L ⟨p0,p1,p2,q0,q1,q2,r⟩ ⟨k0,k1,ops⟩ O B)):=fun W g1 g2 g3 g4=>(cF.out _ _ _ _ ⟨p0,p1,p2,q0,q1,q2,r⟩ L ⟨k0,k1,ops⟩ O B W g1 ⟨_,rfl,g2⟩ g3 g4).mono fun e w' ⟨hb,ra,rl,rc,c,he,_,hy⟩=>by
     obtain⟨rfl,hi⟩:=hy (by rw [aA,bf];rfl)
     obtain⟨a',c',hs,-⟩:=id hi
     injection hs with y1 y2 y3
     subst y1;subst y2;subst y3
     exact⟨hb,_,_,he,hi⟩
    have bN:Hid (∀W rv,Zf W (.slice ka ops.length kc) ops->zK W rv (xA L ⟨p0,p1,p2,q0,q1,q2,r⟩ ⟨k0,k1,ops⟩ O B)->yo W (.slice ma M.length mc) M->Calls prog 27 #[(tv p0 p1 p2 q0 q1 q2 r),.agg #[iV k0,iV k1,.slice ka ops.length kc],rv,.slice ma M.length mc,iV gD] W fun e w'=>Bw W w'/\∃ra rl rc na nl nc,e=.returned (.tuple #[.slice ra rl rc,.slice na nl nc,iV 0])/\zK w' (.slice ra rl rc) (XA r.toNat (Zm ⟨p0,p1,p2,q0,q1,q2,r⟩ ⟨k0,k1,ops⟩ L.l gD (xA L ⟨p0,p1,p2,q0,q1,q2,r⟩ ⟨k0,k1,ops⟩ O B) M))/\yo w' (.slice na nl nc) (zap M (Zm ⟨p0,p1,p2,q0,q1,q2,r⟩ ⟨k0,k1,ops⟩ L.l gD (xA L ⟨p0,p1,p2,q0,q1,q2,r⟩ ⟨k0,k1,ops⟩ O B) M))):=fun W rv g2 g3 g4=>by
     have hx:=cJ.out ⟨p0,p1,p2,q0,q1,q2,r⟩ _ rv _ ⟨k0,k1,ops⟩ _ M gD W ⟨_,rfl,g2⟩ g3 g4 aN (by omega) cC aI
     refine hx.mono fun e w' ⟨ra,rc,na,nc,rl,nl,he,hb,h1,h2⟩=>?_
     rw [aQ,bH.out] at h1
     rw [aQ] at h2
     exact⟨hb,_,_,_,_,_,_,he,h1,h2⟩
    obtain⟨tn,rfl⟩:=Int.eq_ofNat_of_zero_le dn
    have aO:zap M (Zm ⟨p0,p1,p2,q0,q1,q2,r⟩ ⟨k0,k1,ops⟩ L.l (tn:Int) (xA L ⟨p0,p1,p2,q0,q1,q2,r⟩ ⟨k0,k1,ops⟩ O B) M)=zjj M (Vl L B tn (xV M)):=by
     show (List.range M.length).map (fun i=>(List.range (zv M i).length).map fun j=>_)=(List.range M.length).map (fun i=>(List.range (zv M i).length).map fun j=>_)
     refine List.map_congr_left fun i _=>List.map_congr_left fun j _=>?_
     exact zkc aA (by omega) i j
    have cw:xS L ⟨p0,p1,p2,q0,q1,q2,r⟩ ⟨k0,k1,ops⟩ O B (XA r.toNat (Zm ⟨p0,p1,p2,q0,q1,q2,r⟩ ⟨k0,k1,ops⟩ L.l (tn:Int) (xA L ⟨p0,p1,p2,q0,q1,q2,r⟩ ⟨k0,k1,ops⟩ O B) M)) tn=xH L B tn (Vl L B tn (xV M)):=zn7 aA (by omega)
    have cB:((XA r.toNat (Zm ⟨p0,p1,p2,q0,q1,q2,r⟩ ⟨k0,k1,ops⟩ L.l (tn:Int) (xA L ⟨p0,p1,p2,q0,q1,q2,r⟩ ⟨k0,k1,ops⟩ O B) M)).length:Int)=r:=by unfold XA;simp;omega
    rw [aO] at bN
    obtain⟨ay,az⟩:=ah.out rfl
    rw [Int.toNat_natCast] at ay az
    have cM:=z9 (ay.gE aj.out)
    have cL:=z9 (az.gE aj.out)
    have aU:=z9 af
    have bM:=z9 hO
    have cI:Hid (∀W rv (R:List Int),R=XA r.toNat (Zm ⟨p0,p1,p2,q0,q1,q2,r⟩ ⟨k0,k1,ops⟩ L.l (tn:Int) (xA L ⟨p0,p1,p2,q0,q1,q2,r⟩ ⟨k0,k1,ops⟩ O B) M)->zE W ((lv L a0 a1 a2 gA gB gC)) L->Zf W (.slice ka ops.length kc) ops->zK W (.slice oa O.length oc) O->yo W (.slice ba B.length bc) B->zK W rv R->Calls prog 28 #[(lv L a0 a1 a2 gA gB gC),(tv p0 p1 p2 q0 q1 q2 r),.agg #[iV k0,iV k1,.slice ka ops.length kc],.slice oa O.length oc,.slice ba B.length bc,rv,iV (tn:Int)] W fun e w'=>Bw W w'/\∃ra rl rc,e=.returned (.tuple #[.slice ra rl rc,iV 0])/\zK w' (.slice ra rl rc) (xH L B tn (Vl L B tn (xV M)))):=fun W rv R hRe g1 g2 g3 g4 g5=>(cN.out _ _ _ _ _ ⟨p0,p1,p2,q0,q1,q2,r⟩ L ⟨k0,k1,ops⟩ O B R (tn:Int) W g1 ⟨_,rfl,g2⟩ g3 g4 g5).mono fun e w' ⟨hb,ra,rl,rc,c,he,_,_,hy⟩=>by
     obtain⟨rfl,hi⟩:=hy (by rw [aA,bf,hRe,decide_eq_true cB];rfl) (yf (by omega))
     rw [hRe,cw] at hi
     exact⟨hb,_,_,_,he,hi⟩
    have aV:Hid (((ops.length:Int) != (L.b.length:Int))=false):=by show _=_;simp [bZ]
    have di:¬L.b=[]:=fun h=>by rw [h] at bS;exact absurd bS (by decide)
    generalize Zm ⟨p0,p1,p2,q0,q1,q2,r⟩ ⟨k0,k1,ops⟩ L.l (tn:Int) (xA L ⟨p0,p1,p2,q0,q1,q2,r⟩ ⟨k0,k1,ops⟩ O B) M=pk at *
    generalize xA L ⟨p0,p1,p2,q0,q1,q2,r⟩ ⟨k0,k1,ops⟩ O B=en at *
    generalize XA r.toNat pk=rg at *
    generalize Vl L B tn (xV M)=rs at *
    have dC:((L.b.length:Int) == 0)=false:=beq_eq_false_iff_ne.2 (by omega)
    clear hk hO aA af aN au cu bU aQ bf cC aI aO cw cB ay az hm hmt ae bZ bO bG bJ aF ah aY aK bh de
    go_wp2_with fail
    refine (cG.out _ (HL.out.gE ai.out) (aU.out.gE aP.out) (bM.out.gE aP.out) (aR.out.gE ai.out)).mono ?_
    rintro e x3 ⟨ab,ra,rc,rfl,bT⟩
    have ag:=z9 (aP.out.trans (ab.mono (by simp)))
    have d0:x3.cell? (ad x2.heap.size 0)=sI k0:=by rw [zf ab _ _ (by simp)];go_simp
    have d1:x3.cell? (ad x2.heap.size 1)=sI k1:=by rw [zf ab _ _ (by simp)];go_simp
    have d2:x3.cell? (ad x2.heap.size 2)=some (.slice ka ops.length kc):=by rw [zf ab _ _ (by simp)];go_simp
    have bz:x2.heap.size<x3.heap.size:=by have:=ab.size;simp at this;omega
    rw [<-zf ag.out _ _ bq] at e0 e1
    have aT:=z9 bT
    have bD:=z9 (bC.out.trans (ag.out.mono (by omega)))
    clear l0 l1 l2 t0 t1 t2 t3 t4 t5 t6 s0 s1 hz
    obtain⟨⟨l0,l1,l2⟩,⟨t0,t1,t2,t3,t4,t5,t6⟩,⟨s0,s1⟩,hz,hbw⟩:=Yq bD.out
    have cO:=z9 hbw
    clear ab hbw bT
    go_wp2_with fail
    refine (bN.out _ _ (aU.out.gE ag.out) aT.out (bI.out.gE cO.out)).mono ?_
    rintro e x4 ⟨ab,ra4,rl4,rc4,na4,nl4,nc4,rfl,cA,aO⟩
    have an:=z9 (ag.out.trans (ab.mono (by omega)))
    have aW:=z9 cA
    have aX:=z9 aO
    have dt:=ab.size
    rw [<-zf ab _ _ bz] at d0 d1 d2
    rw [<-zf ab _ _ (show x1.heap.size<x3.heap.size by omega)] at e0 e1
    have bE:=z9 (bD.out.trans (ab.mono (by omega)))
    clear l0 l1 l2 t0 t1 t2 t3 t4 t5 t6 s0 s1 hz
    obtain⟨⟨l0,l1,l2⟩,⟨t0,t1,t2,t3,t4,t5,t6⟩,⟨s0,s1⟩,hz,hbw⟩:=Yq bE.out
    have bR:=z9 hbw
    clear ab hbw cA aO
    go_wp2_with fail
    refine (cI.out _ _ rg rfl (HL.out.gE bR.out) (aU.out.gE an.out) (bM.out.gE an.out) (aR.out.gE bR.out) aW.out).mono ?_
    rintro e x5 ⟨ab,ra5,rl5,rc5,rfl,cg⟩
    have aE:=z9 (an.out.trans (ab.mono (by omega)))
    have dw:=ab.size
    rw [<-zf ab _ _ (show x2.heap.size<x4.heap.size by omega)] at d0 d1 d2
    rw [<-zf ab _ _ (show x1.heap.size<x4.heap.size by omega)] at e0 e1
    have bK:=z9 (VE _ _ _ _ x5 cg (cM.out.gE aE.out))
    have bL:Hid (∀n,Calls prog 30 #[_,_] (x5.drewN n) fun e w'=>e=.returned (.bool (decide (zjj M rs=zjj M rs)))/\∃m,w'=(x5.drewN n).drewN m):=fun n=>zt0 _ _ _ _ _ ((aX.out.gE ab).gE (below_draws _ _ n)) ((cL.out.gE aE.out).gE (below_draws _ _ n))
    rw [decide_eq_true rfl] at bK bL
    have cE:=z9 (bE.out.trans (ab.mono (by omega)))
    clear l0 l1 l2 t0 t1 t2 t3 t4 t5 t6 s0 s1 hz
    obtain⟨⟨l0,l1,l2⟩,⟨t0,t1,t2,t3,t4,t5,t6⟩,⟨s0,s1⟩,hz,hbw⟩:=Yq cE.out
    have cS:=z9 hbw
    have dq:x1.heap.size<x5.heap.size:=by omega
    have dr:x2.heap.size<x5.heap.size:=by omega
    clear ab hbw cg
    have dg:=aV.out
    go_wp2_with fail
    refine bK.out.mono ?_
    rintro e x6 ⟨rfl,n6,rfl⟩
    go_wp2_with fail
    refine (bL.out n6).mono ?_
    rintro e x7 ⟨rfl,n7,rfl⟩
    go_wp2_with fail
    go_ret
    exact⟨rfl,cS.out.trans (below_draws _ _ _)⟩
theorem buildRuns_any (hB:zgo) (hE:zgr) (hV:zgs) (hR:zt6) (v sv:Value) (t:Tg) (L:Lp) (B M:List (List Int)) (gD:Int) (w:World) (hL:zE w v L) (hS:Ys w sv B M) (ao:LoopIn L):Calls prog 7 #[v,.agg t.cells,sv,iV gD] w (Rt w (.bool true)):=by
 have cY:=hL
 obtain⟨v0,v1,v2,rfl,⟨a0,gA,rfl,-⟩,⟨a1,gB,rfl,-⟩,⟨a2,gC,rfl,-⟩⟩:=cY
 obtain⟨b0,m0,rfl,aC,aD⟩:=hS
 have cX:=aC
 obtain⟨ba,bc,rfl,-⟩:=cX
 have cZ:=aD
 obtain⟨ma,mc,rfl,-⟩:=cZ
 obtain⟨p0,p1,p2,q0,q1,q2,r⟩:=t
 exact zcl hB hE hV hR p0 p1 p2 q0 q1 q2 r L B M gD a0 a1 a2 ba ma gA gB gC bc mc w hL aC aD ao
end Go.Proofs.YtjoapiafpahihabGreat
