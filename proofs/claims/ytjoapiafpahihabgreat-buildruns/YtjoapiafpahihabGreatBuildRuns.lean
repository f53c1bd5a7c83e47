import Derived.Test.YtjoapiafpahihabGreatBuildB
import Derived.Test.YtjoapiafpahihabGreatSeqP
namespace Go.Proofs.YtjoapiafpahihabGreat
open Go.Proofs.Tryz
open Go.RowKit Go.Joins
set_option linter.unusedVariables false
set_option linter.unusedSimpArgs false
set_option maxRecDepth 8192
theorem zyr (v s:Value) (L:Lp) (B M:List (List Int)) (gD:Int) (w:World) (hL:zE w v L) (hS:Ys w s B M) (hLI:LoopIn L) (hB:Y1 B) (hM:Y1 M) :
  Calls prog 25 #[v,s,iV gD] w fun e w'=>Bw w w'/\∃va vl vc ua ul uc,e=.returned (.tuple #[.agg #[.slice va vl vc,.slice ua ul uc],iV (Xb L B M gD)])/\(Xb L B M gD=0->zK w' (.slice va vl vc) (xH L B gD.toNat (Vl L B gD.toNat (xV M)))/\yo w' (.slice ua ul uc) (zjj M (Vl L B gD.toNat (xV M)))):=by
 cases hf:xG L B M with
 | false =>
   have hw:Xb L B M gD=2:=by unfold Xb;rw [hf];rfl
   rw [hw]
   exact (zw8 v s L B M gD w hL hS hf).mono fun e w' ⟨he,hb⟩=>⟨hb,none,0,0,none,0,0,he,fun h=>absurd h (by decide)⟩
 | true =>
   by_cases ht:0<=gD/\gD<=200
   ·have hw:Xb L B M gD=0:=by unfold Xb;rw [hf,if_pos rfl,if_pos ht]
    rw [hw]
    obtain⟨tn,rfl⟩:=Int.eq_ofNat_of_zero_le ht.1
    refine (yao v s L B M tn w hL hS hf (by omega) hLI hB hM).mono fun e w' ⟨ov,mv,he,h1,h2,hb⟩=>?_
    obtain⟨va,vc,rfl,-⟩:=id h1
    obtain⟨ua,uc,rfl,-⟩:=id h2
    exact⟨hb,_,_,_,_,_,_,he,fun _=>⟨h1,h2⟩⟩
   ·have hw:Xb L B M gD=3:=by unfold Xb;rw [hf,if_pos rfl,if_neg ht]
    rw [hw]
    exact (zs6 v s L B M gD w hL hS hf (by omega)).mono fun e w' ⟨he,hb⟩=>⟨hb,none,0,0,none,0,0,he,fun h=>absurd h (by decide)⟩
theorem XZ {w:World} {k0 k1:Int} {kv:Value} {K:Kn} (h:xF w (.agg #[iV k0,iV k1,kv]) K):∃ka kc,kv=.slice ka K.ops.length kc/\k0=K.pc/\k1=K.st/\Zf w (.slice ka K.ops.length kc) K.ops:=by
 obtain⟨kl,hkl,hops⟩:=h
 simp only [Value.agg.injEq,Array.mk.injEq,List.cons.injEq,and_true] at hkl
 obtain⟨h0,h1,rfl⟩:=hkl
 injection h0 with _ h0
 injection h1 with _ h1
 obtain⟨ka,kc,rfl,-⟩:=id hops
 exact⟨ka,kc,rfl,h0,h1,hops⟩
set_option maxHeartbeats 16000000 in
theorem zcl (hB:zgo) (hE:zgr) (hV:zgs) (hR:zt6) (p0 p1 p2 q0 q1 q2 r:Int) (L:Lp) (B M:List (List Int)) (gD:Int) (a0 a1 a2 ba ma:Option Addr) (gA gB gC bc mc:Nat) (w:World) (hL:zE w ((lv L a0 a1 a2 gA gB gC)) L) (hBR:yo w (.slice ba B.length bc) B) (hMR:yo w (.slice ma M.length mc) M) (hLI:LoopIn L) :
  Calls prog 7 #[(lv L a0 a1 a2 gA gB gC),(tv p0 p1 p2 q0 q1 q2 r),.agg #[.slice ba B.length bc,.slice ma M.length mc],iV gD] w (Rt w (.bool true)):=by
 have hBin:=Ud hBR
 have hMin:=Ud hMR
 have HSQ:=z9 (fun W (h1:zE W ((lv L a0 a1 a2 gA gB gC)) L) (h2:Ys W (.agg #[.slice ba B.length bc,.slice ma M.length mc]) B M)=>zyr _ _ L B M gD W h1 h2 hLI hBin hMin)
 have HBC:=z9 (fun W (h1:zE W ((lv L a0 a1 a2 gA gB gC)) L)=>hB _ ⟨p0,p1,p2,q0,q1,q2,r⟩ L W h1)
 have HEC:=z9 hE
 have HVC:=z9 hV
 have HRC:=z9 hR
 have HL:=z9 hL
 have HBR:=z9 hBR
 have HMR:=z9 hMR
 have HLI:=z9 hLI
 have HS:Hid ((((w.alloc (.cells #[.slice a0 L.l.length gA,.slice a1 L.b.length gB,.slice a2 L.o.length gC] 25)).alloc (.cells #[iV p0,iV p1,iV p2,iV q0,iV q1,iV q2,iV r] 28)).alloc (.cells #[.slice ba B.length bc,.slice ma M.length mc] 34)).heap.size=w.heap.size+1+1+1):=by show _=_;simp
 have HBZ:=z9 (below_alloc3 w (.cells #[.slice a0 L.l.length gA,.slice a1 L.b.length gB,.slice a2 L.o.length gC] 25) (.cells #[iV p0,iV p1,iV p2,iV q0,iV q1,iV q2,iV r] 28) (.cells #[.slice ba B.length bc,.slice ma M.length mc] 34))
 clear hL hBR hMR hLI hBin hMin
 go_enter func7,ntmps7
 go_wp2_with fail
 refine (HSQ.out _ (HL.out.gE HBZ.out) ⟨_,_,rfl,HBR.out.gE HBZ.out,HMR.out.gE HBZ.out⟩).mono ?_
 rintro e x1 ⟨hbx,va,vl,vc,ua,ul,uc,rfl,hres⟩
 have hb1:Below (w.heap.size+1+1+1) (((w.alloc (.cells #[.slice a0 L.l.length gA,.slice a1 L.b.length gB,.slice a2 L.o.length gC] 25)).alloc (.cells #[iV p0,iV p1,iV p2,iV q0,iV q1,iV q2,iV r] 28)).alloc (.cells #[.slice ba B.length bc,.slice ma M.length mc] 34)) x1:=by rw [<-HS.out];exact hbx
 have HB1:=z9 hb1
 have HRES:=z9 hres
 obtain⟨⟨l0,l1,l2⟩,⟨t0,t1,t2,t3,t4,t5,t6⟩,⟨s0,s1⟩,hz,hbw⟩:=Yq hb1
 have HW1:=z9 hbw
 obtain⟨wv,hwv⟩:∃wv,Xb L B M gD=wv:=⟨_,rfl⟩
 have HWV:=z9 hwv
 rw [hwv] at HRES ⊢
 have hza:w.heap.size<x1.heap.size:=by omega
 have hzb:w.heap.size+1<x1.heap.size:=by omega
 have HBA:=z9 (below_alloc1 x1 (.cells #[.slice va vl vc,.slice ua ul uc] 65))
 have HWA:=z9 (HW1.out.trans (HBA.out.mono HW1.out.size))
 clear hbx hb1 hbw hres hwv
 go_wp2_with fail
 refine (HBC.out _ (HL.out.gE HWA.out)).mono ?_
 rintro e x2 ⟨hbx,k0,k1,kv,oa,ol,oc,c,rfl,hno,hyes⟩
 obtain⟨ka,kl,kc,rfl⟩:∃ka kl kc,kv=.slice ka kl kc:=by
  cases hm:(zY L && yj ⟨p0,p1,p2,q0,q1,q2,r⟩) with
  | false=>obtain⟨-,-,h⟩:=hno hm;obtain⟨ka,kc,h,-⟩:=XZ h;exact⟨_,_,_,h⟩
  | true =>
    rcases hyes hm with ⟨-,-,-,h⟩ | ⟨-,K,O,h,-⟩
    ·obtain⟨ka,kc,h,-⟩:=XZ h;exact⟨_,_,_,h⟩
    ·obtain⟨ka,kc,h,-⟩:=XZ h;exact⟨_,_,_,h⟩
 have HNO:=z9 hno
 have HYES:=z9 hyes
 have e0:x2.cell? (ad x1.heap.size 0)=some (.slice va vl vc):=by rw [zf hbx _ _ (by simp)];go_simp
 have e1:x2.cell? (ad x1.heap.size 1)=some (.slice ua ul uc):=by rw [zf hbx _ _ (by simp)];go_simp
 have hx12:x1.heap.size<x2.heap.size:=by have:=hbx.size;simp at this;omega
 have HX12:=z9 (HBA.out.trans (hbx.mono (by simp)))
 have HB2:=z9 (HB1.out.trans (HX12.out.mono (by omega)))
 clear l0 l1 l2 t0 t1 t2 t3 t4 t5 t6 s0 s1 hz
 obtain⟨⟨l0,l1,l2⟩,⟨t0,t1,t2,t3,t4,t5,t6⟩,⟨s0,s1⟩,hz,hbw⟩:=Yq HB2.out
 have HW2:=z9 hbw
 have hza2:w.heap.size<x2.heap.size:=by omega
 have hzb2:w.heap.size+1<x2.heap.size:=by omega
 have HBK:=z9 (below_alloc1 x2 (.cells #[iV k0,iV k1,.slice ka kl kc] 31))
 have HWK:=z9 (HW2.out.trans (HBK.out.mono HW2.out.size))
 clear hbx hbw hno hyes
 have hw3:wv=0\/wv=2\/wv=3:=by
  have:=HWV.out
  unfold Xb at this
  split at this
  ·split at this
   ·exact .inl this.symm
   ·exact .inr (.inr this.symm)
  ·exact .inr (.inl this.symm)
 rcases hw3 with rfl | rfl | rfl
 rotate_left
 ·go_wp2_with fail
  go_ret
  exact⟨rfl,HWK.out⟩
 ·go_wp2_with fail
  go_ret
  exact⟨rfl,HWK.out⟩
 by_cases ht40:40<gD
 ·go_wp2_with fail
  go_ret
  exact⟨rfl,HWK.out⟩
 have hft:xG L B M=true/\0<=gD:=by
  have:=HWV.out
  unfold Xb at this
  split at this
  ·next h =>
   split at this
   ·next h2=>exact⟨h,h2.1⟩
   ·cases this
  ·cases this
 obtain⟨hfit,ht0⟩:=hft
 obtain⟨hm,-⟩:=Y4 hfit
 obtain⟨-,h1n,h16,-⟩:=zw hm
 have h1ni:(0:Int)<(L.b.length:Int):=by omega
 cases hmt:yj ⟨p0,p1,p2,q0,q1,q2,r⟩ with
 | false =>
   obtain⟨rfl,rfl,-⟩:=HNO.out (by rw [hm,hmt];rfl)
   clear hm hmt hfit
   go_wp2_with fail
   go_ret
   exact⟨by simp;omega,HWK.out⟩
 | true =>
   rcases HYES.out (by rw [hm,hmt];rfl) with ⟨rfl,hlt,rfl,-⟩ | ⟨rfl,K,O,hk,hO,htk,-,-,hpaw,hst⟩
   ·have hlt:r<5*(L.b.length:Int):=hlt
    clear hm hmt hfit
    go_wp2_with fail
    go_ret
    exact⟨by simp;omega,HWK.out⟩
   ·obtain⟨oa2,oc2,hos,-⟩:=id hO
    injection hos with g1 g2 g3
    subst g1;subst g2;subst g3
    obtain⟨ka2,kc2,hks,hk0,hk1,hops⟩:=XZ hk
    injection hks with g1 g2 g3
    subst g1;subst g2;subst g3
    obtain⟨pc,st,ops⟩:=K
    dsimp only at hk0 hk1 hops hpaw hst ⊢
    subst hk0;subst hk1
    have htnn:=zwf htk HLI.out
    obtain⟨hlay,-⟩:=Xs htk
    obtain⟨-,-,hmk,hknx,-⟩:=yP hlay
    obtain⟨⟨hpc1,hpc2,hr1⟩,-⟩:=yz hlay
    have hr1:1<=r:=hr1
    have hpc1:1<=k0:=hpc1
    have hkn:ops.length=L.b.length:=hknx
    clear hknx
    have haw:Xc L ⟨p0,p1,p2,q0,q1,q2,r⟩<=96:=by
     have h:=(zan (L:=L) hmt L.b.length).2
     show xB L ⟨p0,p1,p2,q0,q1,q2,r⟩ L.b.length<=96
     omega
    obtain⟨hhl,hlg⟩:=zqb hfit
    have hbf:=zsg hfit
    have hM3:M.length<=3:=by have:=(zw hm).1;have:=(Y4 hfit).2.2.1;omega
    have HEL:=z9 (zq2 L ⟨p0,p1,p2,q0,q1,q2,r⟩ ⟨k0,k1,ops⟩ O B)
    have hwk:XD ⟨p0,p1,p2,q0,q1,q2,r⟩ ⟨k0,k1,ops⟩ (xA L ⟨p0,p1,p2,q0,q1,q2,r⟩ ⟨k0,k1,ops⟩ O B).length M gD=0:=by
     unfold XD
     rw [HEL.out,if_pos ⟨hhl,by rw [hlg];exact hmk,by show ((r.toNat:Nat):Int)=r;omega⟩,if_pos (by omega)]
    have hcyc:(gD+k1)*k0<=20000:=by
     have h1:gD*k0<=40*96:=Int.mul_le_mul (by omega) (by omega) (by omega) (by omega)
     have h2:(gD+k1)*k0=gD*k0+k1*k0:=Int.add_mul _ _ _
     have h3:k1*k0<=1200:=hst
     omega
    have HEN:Hid (∀W,zE W ((lv L a0 a1 a2 gA gB gC)) L->Zf W (.slice ka ops.length kc) ops->zK W (.slice oa O.length oc) O->yo W (.slice ba B.length bc) B->Calls prog 26 #[(lv L a0 a1 a2 gA gB gC),(tv p0 p1 p2 q0 q1 q2 r),.agg #[iV k0,iV k1,.slice ka ops.length kc],.slice oa O.length oc,.slice ba B.length bc] W fun e w'=>Bw W w'/\∃ra rc,e=.returned (.tuple #[.slice ra (xA L ⟨p0,p1,p2,q0,q1,q2,r⟩ ⟨k0,k1,ops⟩ O B).length rc,iV 0])/\zK w' (.slice ra (xA L ⟨p0,p1,p2,q0,q1,q2,r⟩ ⟨k0,k1,ops⟩ O B).length rc) (xA L ⟨p0,p1,p2,q0,q1,q2,r⟩ ⟨k0,k1,ops⟩ O B)):=fun W g1 g2 g3 g4=>(HEC.out _ _ _ _ ⟨p0,p1,p2,q0,q1,q2,r⟩ L ⟨k0,k1,ops⟩ O B W g1 ⟨_,rfl,g2⟩ g3 g4).mono fun e w' ⟨hb,ra,rl,rc,c,he,_,hy⟩=>by
     obtain⟨rfl,hi⟩:=hy (by rw [htk,hbf];rfl)
     obtain⟨a',c',hs,-⟩:=id hi
     injection hs with y1 y2 y3
     subst y1;subst y2;subst y3
     exact⟨hb,_,_,he,hi⟩
    have HRN:Hid (∀W rv,Zf W (.slice ka ops.length kc) ops->zK W rv (xA L ⟨p0,p1,p2,q0,q1,q2,r⟩ ⟨k0,k1,ops⟩ O B)->yo W (.slice ma M.length mc) M->Calls prog 27 #[(tv p0 p1 p2 q0 q1 q2 r),.agg #[iV k0,iV k1,.slice ka ops.length kc],rv,.slice ma M.length mc,iV gD] W fun e w'=>Bw W w'/\∃ra rl rc na nl nc,e=.returned (.tuple #[.slice ra rl rc,.slice na nl nc,iV 0])/\zK w' (.slice ra rl rc) (XA r.toNat (Zm ⟨p0,p1,p2,q0,q1,q2,r⟩ ⟨k0,k1,ops⟩ L.l gD (xA L ⟨p0,p1,p2,q0,q1,q2,r⟩ ⟨k0,k1,ops⟩ O B) M))/\yo w' (.slice na nl nc) (zap M (Zm ⟨p0,p1,p2,q0,q1,q2,r⟩ ⟨k0,k1,ops⟩ L.l gD (xA L ⟨p0,p1,p2,q0,q1,q2,r⟩ ⟨k0,k1,ops⟩ O B) M))):=fun W rv g2 g3 g4=>by
     have hx:=HRC.out ⟨p0,p1,p2,q0,q1,q2,r⟩ _ rv _ ⟨k0,k1,ops⟩ _ M gD W ⟨_,rfl,g2⟩ g3 g4 htnn (by omega) hwk hcyc
     refine hx.mono fun e w' ⟨ra,rc,na,nc,rl,nl,he,hb,h1,h2⟩=>?_
     rw [hlg,HEL.out] at h1
     rw [hlg] at h2
     exact⟨hb,_,_,_,_,_,_,he,h1,h2⟩
    obtain⟨tn,rfl⟩:=Int.eq_ofNat_of_zero_le ht0
    have hwd:zap M (Zm ⟨p0,p1,p2,q0,q1,q2,r⟩ ⟨k0,k1,ops⟩ L.l (tn:Int) (xA L ⟨p0,p1,p2,q0,q1,q2,r⟩ ⟨k0,k1,ops⟩ O B) M)=zjj M (Vl L B tn (xV M)):=by
     show (List.range M.length).map (fun i=>(List.range (zv M i).length).map fun j=>_)=(List.range M.length).map (fun i=>(List.range (zv M i).length).map fun j=>_)
     refine List.map_congr_left fun i _=>List.map_congr_left fun j _=>?_
     exact zkc htk (by omega) i j
    have hot:xS L ⟨p0,p1,p2,q0,q1,q2,r⟩ ⟨k0,k1,ops⟩ O B (XA r.toNat (Zm ⟨p0,p1,p2,q0,q1,q2,r⟩ ⟨k0,k1,ops⟩ L.l (tn:Int) (xA L ⟨p0,p1,p2,q0,q1,q2,r⟩ ⟨k0,k1,ops⟩ O B) M)) tn=xH L B tn (Vl L B tn (xV M)):=zn7 htk (by omega)
    have hrl:((XA r.toNat (Zm ⟨p0,p1,p2,q0,q1,q2,r⟩ ⟨k0,k1,ops⟩ L.l (tn:Int) (xA L ⟨p0,p1,p2,q0,q1,q2,r⟩ ⟨k0,k1,ops⟩ O B) M)).length:Int)=r:=by unfold XA;simp;omega
    rw [hwd] at HRN
    obtain⟨hre1,hre2⟩:=HRES.out rfl
    rw [Int.toNat_natCast] at hre1 hre2
    have HV1:=z9 (hre1.gE HX12.out)
    have HU1:=z9 (hre2.gE HX12.out)
    have HK2:=z9 hops
    have HO2:=z9 hO
    have HLV:Hid (∀W rv (R:List Int),R=XA r.toNat (Zm ⟨p0,p1,p2,q0,q1,q2,r⟩ ⟨k0,k1,ops⟩ L.l (tn:Int) (xA L ⟨p0,p1,p2,q0,q1,q2,r⟩ ⟨k0,k1,ops⟩ O B) M)->zE W ((lv L a0 a1 a2 gA gB gC)) L->Zf W (.slice ka ops.length kc) ops->zK W (.slice oa O.length oc) O->yo W (.slice ba B.length bc) B->zK W rv R->Calls prog 28 #[(lv L a0 a1 a2 gA gB gC),(tv p0 p1 p2 q0 q1 q2 r),.agg #[iV k0,iV k1,.slice ka ops.length kc],.slice oa O.length oc,.slice ba B.length bc,rv,iV (tn:Int)] W fun e w'=>Bw W w'/\∃ra rl rc,e=.returned (.tuple #[.slice ra rl rc,iV 0])/\zK w' (.slice ra rl rc) (xH L B tn (Vl L B tn (xV M)))):=fun W rv R hRe g1 g2 g3 g4 g5=>(HVC.out _ _ _ _ _ ⟨p0,p1,p2,q0,q1,q2,r⟩ L ⟨k0,k1,ops⟩ O B R (tn:Int) W g1 ⟨_,rfl,g2⟩ g3 g4 g5).mono fun e w' ⟨hb,ra,rl,rc,c,he,_,_,hy⟩=>by
     obtain⟨rfl,hi⟩:=hy (by rw [htk,hbf,hRe,decide_eq_true hrl];rfl) (yf (by omega))
     rw [hRe,hot] at hi
     exact⟨hb,_,_,_,he,hi⟩
    have HKNB:Hid (((ops.length:Int) != (L.b.length:Int))=false):=by show _=_;simp [hkn]
    have hnil:¬L.b=[]:=fun h=>by rw [h] at h1n;exact absurd h1n (by decide)
    generalize Zm ⟨p0,p1,p2,q0,q1,q2,r⟩ ⟨k0,k1,ops⟩ L.l (tn:Int) (xA L ⟨p0,p1,p2,q0,q1,q2,r⟩ ⟨k0,k1,ops⟩ O B) M=pk at *
    generalize xA L ⟨p0,p1,p2,q0,q1,q2,r⟩ ⟨k0,k1,ops⟩ O B=en at *
    generalize XA r.toNat pk=rg at *
    generalize Vl L B tn (xV M)=rs at *
    have hn0:((L.b.length:Int) == 0)=false:=beq_eq_false_iff_ne.2 (by omega)
    clear hk hO htk hops htnn hlay hmk hhl hlg hbf hwk hcyc hwd hot hrl hre1 hre2 hm hmt hfit hkn HSQ HBC HNO HYES HRES HWV hpaw hst haw
    go_wp2_with fail
    refine (HEN.out _ (HL.out.gE HWK.out) (HK2.out.gE HBK.out) (HO2.out.gE HBK.out) (HBR.out.gE HWK.out)).mono ?_
    rintro e x3 ⟨hbx,ra,rc,rfl,hen⟩
    have HX23:=z9 (HBK.out.trans (hbx.mono (by simp)))
    have d0:x3.cell? (ad x2.heap.size 0)=sI k0:=by rw [zf hbx _ _ (by simp)];go_simp
    have d1:x3.cell? (ad x2.heap.size 1)=sI k1:=by rw [zf hbx _ _ (by simp)];go_simp
    have d2:x3.cell? (ad x2.heap.size 2)=some (.slice ka ops.length kc):=by rw [zf hbx _ _ (by simp)];go_simp
    have hx23:x2.heap.size<x3.heap.size:=by have:=hbx.size;simp at this;omega
    rw [<-zf HX23.out _ _ hx12] at e0 e1
    have HEN3:=z9 hen
    have HB3:=z9 (HB2.out.trans (HX23.out.mono (by omega)))
    clear l0 l1 l2 t0 t1 t2 t3 t4 t5 t6 s0 s1 hz
    obtain⟨⟨l0,l1,l2⟩,⟨t0,t1,t2,t3,t4,t5,t6⟩,⟨s0,s1⟩,hz,hbw⟩:=Yq HB3.out
    have HW3:=z9 hbw
    clear hbx hbw hen
    go_wp2_with fail
    refine (HRN.out _ _ (HK2.out.gE HX23.out) HEN3.out (HMR.out.gE HW3.out)).mono ?_
    rintro e x4 ⟨hbx,ra4,rl4,rc4,na4,nl4,nc4,rfl,hrg,hwd⟩
    have HX24:=z9 (HX23.out.trans (hbx.mono (by omega)))
    have HRG4:=z9 hrg
    have HWD4:=z9 hwd
    have hx34:=hbx.size
    rw [<-zf hbx _ _ hx23] at d0 d1 d2
    rw [<-zf hbx _ _ (show x1.heap.size<x3.heap.size by omega)] at e0 e1
    have HB4:=z9 (HB3.out.trans (hbx.mono (by omega)))
    clear l0 l1 l2 t0 t1 t2 t3 t4 t5 t6 s0 s1 hz
    obtain⟨⟨l0,l1,l2⟩,⟨t0,t1,t2,t3,t4,t5,t6⟩,⟨s0,s1⟩,hz,hbw⟩:=Yq HB4.out
    have HW4:=z9 hbw
    clear hbx hbw hrg hwd
    go_wp2_with fail
    refine (HLV.out _ _ rg rfl (HL.out.gE HW4.out) (HK2.out.gE HX24.out) (HO2.out.gE HX24.out) (HBR.out.gE HW4.out) HRG4.out).mono ?_
    rintro e x5 ⟨hbx,ra5,rl5,rc5,rfl,hlv⟩
    have HX25:=z9 (HX24.out.trans (hbx.mono (by omega)))
    have hx45:=hbx.size
    rw [<-zf hbx _ _ (show x2.heap.size<x4.heap.size by omega)] at d0 d1 d2
    rw [<-zf hbx _ _ (show x1.heap.size<x4.heap.size by omega)] at e0 e1
    have HNU:=z9 (VE _ _ _ _ x5 hlv (HV1.out.gE HX25.out))
    have HNW:Hid (∀n,Calls prog 30 #[_,_] (x5.drewN n) fun e w'=>e=.returned (.bool (decide (zjj M rs=zjj M rs)))/\∃m,w'=(x5.drewN n).drewN m):=fun n=>zt0 _ _ _ _ _ ((HWD4.out.gE hbx).gE (below_draws _ _ n)) ((HU1.out.gE HX25.out).gE (below_draws _ _ n))
    rw [decide_eq_true rfl] at HNU HNW
    have HB5:=z9 (HB4.out.trans (hbx.mono (by omega)))
    clear l0 l1 l2 t0 t1 t2 t3 t4 t5 t6 s0 s1 hz
    obtain⟨⟨l0,l1,l2⟩,⟨t0,t1,t2,t3,t4,t5,t6⟩,⟨s0,s1⟩,hz,hbw⟩:=Yq HB5.out
    have HW5:=z9 hbw
    have hx15:x1.heap.size<x5.heap.size:=by omega
    have hx25:x2.heap.size<x5.heap.size:=by omega
    clear hbx hbw hlv
    have hknb:=HKNB.out
    go_wp2_with fail
    refine HNU.out.mono ?_
    rintro e x6 ⟨rfl,n6,rfl⟩
    go_wp2_with fail
    refine (HNW.out n6).mono ?_
    rintro e x7 ⟨rfl,n7,rfl⟩
    go_wp2_with fail
    go_ret
    exact⟨rfl,HW5.out.trans (below_draws _ _ _)⟩
theorem buildRuns_any (hB:zgo) (hE:zgr) (hV:zgs) (hR:zt6) (v sv:Value) (t:Tg) (L:Lp) (B M:List (List Int)) (gD:Int) (w:World) (hL:zE w v L) (hS:Ys w sv B M) (hLI:LoopIn L):Calls prog 7 #[v,.agg t.cells,sv,iV gD] w (Rt w (.bool true)):=by
 have hL':=hL
 obtain⟨v0,v1,v2,rfl,⟨a0,gA,rfl,-⟩,⟨a1,gB,rfl,-⟩,⟨a2,gC,rfl,-⟩⟩:=hL'
 obtain⟨b0,m0,rfl,hBR,hMR⟩:=hS
 have hB':=hBR
 obtain⟨ba,bc,rfl,-⟩:=hB'
 have hM':=hMR
 obtain⟨ma,mc,rfl,-⟩:=hM'
 obtain⟨p0,p1,p2,q0,q1,q2,r⟩:=t
 exact zcl hB hE hV hR p0 p1 p2 q0 q1 q2 r L B M gD a0 a1 a2 ba ma gA gB gC bc mc w hL hBR hMR hLI
end Go.Proofs.YtjoapiafpahihabGreat
