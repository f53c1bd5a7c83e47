import Derived.Test.YtjoapiafpahihabGreatRounds
import Derived.Test.YtjoapiafpahihabGreatRef67
import Derived.Test.YtjoapiafpahihabGreatBase
import Derived.Test.YtjoapiafpahihabGreatDepS
import Derived.Test.YtjoapiafpahihabGreatDepP
namespace Go.Proofs.YtjoapiafpahihabGreat
open Go.RowKit Go.Joins
set_option linter.unusedVariables false
set_option linter.unusedSimpArgs false
set_option maxRecDepth 8192
set_option maxHeartbeats 8000000 in
theorem zfz (n:Nat) (p:Int) (r:Nat) (la:Option Addr) (lc:Nat) (l:List Ed) (w0 w:World) (hE:yP w0 (.slice la l.length lc) l) (hl:∀e∈l,VJ n e) (hn:n<=16) (hr:r<=16) (hp1:1<=p) (hp2:p<=100) (hlen:l.length<=60000)
  (hbe:Below w0.heap.size w0 w) (hrw:zg w w0.heap.size 3 n (fun v=>iV (zro p l r v))) :
  Calls Tryz.prog 202 #[.slice (some ⟨w0.heap.size,0,none⟩) n n,.slice la l.length lc,iV p] w fun e w'=>e=.returned (.bool (!xw p l (zro p l r)))/\Below w0.heap.size w0 w'/\zg w' w0.heap.size 3 n (fun v=>iV (zro p l (r+1) v)):=by
 obtain⟨la',lc',he1,he2,he3,hec⟩:=hE
 injection he1 with e1 e2 e3
 subst e1;subst e3
 unfold maxLen at he3
 have HEC:=z5 hec
 have HL:=z5 hl
 have HBE:=z5 hbe
 have HRW:=z5 hrw
 clear hec hl e2 hbe hrw
 go_enter Tryz.func202,Tryz.ntmps202
 go_wp2_with fail
 go_loopw [7,13] (fun st i wr=>∃k:Nat,k<=l.length/\i=iV k/\st=.bool (!zh (fun j=>okE p (zro p l r) (zu l j)) k)/\Below w0.heap.size w0 wr/\zg wr w0.heap.size 3 n (fun v=>iV (zQ p l (zro p l r) k v))) (fun _ i _=>l.length - (intOf i).toNat)
 case atStart=>exact⟨0,Nat.zero_le _,rfl,rfl,HBE.out,HRW.out⟩
 case round =>
  obtain⟨k,hk,rfl,rfl,hbel2,hrow2⟩:=hrel
  clear HBE HRW
  by_cases hkl:k<l.length
  ·have hki:(k:Int)<(l.length:Int):=by omega
   obtain⟨eb,eo,rfl,hebz,hecell⟩:=HEC.out (by omega)
   obtain⟨c0,c1,c2,c3⟩:=zac (hecell k hkl)
   rw [<-zc hbel2 _ _ hebz] at c0 c1 c2 c3
   have hebz2:eb<wr.heap.size:=by have:=hbel2.size;omega
   obtain⟨fr,to,bk,wt,hed,hfr,hto,hbk,hwt⟩:=HL.out _ (Zf hkl)
   have HST:Hid (∀b,zh (fun j=>okE p (zro p l r) (zu l j)) k=b->zh (fun j=>okE p (zro p l r) (zu l j)) (k+1)=(b && okE p (zro p l r) (zu l k))):=fun b h=>by show (zh _ k && _)=_;rw [h]
   have HSAME:=z5 (fun h=>zar (p:=p) (l:=l) (a:=zro p l r) k (by omega) h)
   have HREL:Hid (zQ p l (zro p l r) (k+1)=Zo p (zQ p l (zro p l r) k) (zu l k)):=rfl
   have hhi:=Vm (p:=p) (l:=l) (a:=zro p l r) (by omega) HL.out (Uu (by omega) HL.out r) k hk
   have hlo:=fun v=>zdq (p:=p) (l:=l) r k v
   have hr17:r*l.length<=16*60000:=Nat.mul_le_mul (by omega) hlen
   rw [hed] at c0 c1 c2 c3 HST HREL
   simp only at c0 c1 c2 c3
   have hcf:=hrow2.cell hfr
   have hct:=hrow2.cell hto
   have hft:=hrow2.frozen to
   have hxz:=hrow2.lt
   have hxf1:=hhi fr
   have hxf2:=hlo fr
   have hxt1:=hhi to
   have hxt2:=hlo to
   have HROW2:=z5 hrow2
   have HB2:=z5 hbel2
   have HSAMEX:Hid (zh (fun j=>okE p (zro p l r) (zu l j)) k=true->okE p (zro p l r) ⟨fr,to,bk,wt⟩=decide (zQ p l (zro p l r) k fr+((wt:Int) - p*(bk:Int))<=zQ p l (zro p l r) k to)):=fun h=>by rw [HSAME.out h];rfl
   have HRELX:Hid (Zo p (zQ p l (zro p l r) k) ⟨fr,to,bk,wt⟩=if zQ p l (zro p l r) k to<zQ p l (zro p l r) k fr+((wt:Int) - p*(bk:Int)) then (fun v=>if v=to then zQ p l (zro p l r) k fr+((wt:Int) - p*(bk:Int)) else zQ p l (zro p l r) k v) else zQ p l (zro p l r) k):=rfl
   obtain⟨ak,hak⟩:∃ak,zQ p l (zro p l r) k=ak:=⟨_,rfl⟩
   rw [hak] at hcf hct hxf1 hxf2 hxt1 hxt2 HROW2 HSAMEX HRELX HREL
   obtain⟨fk,hfk⟩:∃b,zh (fun j=>okE p (zro p l r) (zu l j)) k=b:=⟨_,rfl⟩
   have HST2:=z5 (HST.out fk hfk)
   rw [hfk] at HSAMEX
   rw [hfk]
   obtain⟨xf,hxf⟩:∃x,ak fr=x:=⟨_,rfl⟩
   obtain⟨xt,hxt⟩:∃x,ak to=x:=⟨_,rfl⟩
   rw [hxf] at hcf hxf1 hxf2 HSAMEX HRELX
   rw [hxt] at hct hxt1 hxt2 HSAMEX HRELX
   have hpb1:0<=p*(bk:Int):=Int.mul_nonneg (by omega) (by omega)
   have hpb2:p*(bk:Int)<=100*32:=Int.mul_le_mul hp2 (by omega) (by omega) (by omega)
   rw [Int.mul_comm p (bk:Int)] at hpb1 hpb2 HSAMEX HRELX
   have hfi:(fr:Int)<(n:Int):=by omega
   have hti:(to:Int)<(n:Int):=by omega
   obtain⟨gp,hgp⟩:∃gp,xf+(wt:Int) - (bk:Int)*p=gp:=⟨_,rfl⟩
   have hgp2:xf+((wt:Int) - (bk:Int)*p)=gp:=by omega
   rw [hgp2] at HSAMEX HRELX
   have hgb:-10000<=gp/\gp<=100000000:=by omega
   obtain⟨hgb1,hgb2⟩:=hgb
   clear hecell hed hrow2 hbel2 hhi hlo HSAME HST hxf1 hxf2 hxt1 hxt2 hgp2
   by_cases hup:xt<gp
   ·have hupd:decide (xt<gp)=true:=decide_eq_true hup
    have HN:Hid (zQ p l (zro p l r) (k+1)=fun v=>if v=to then gp else ak v):=by show _=_;rw [HREL.out,HRELX.out,if_pos hup]
    have HF:Hid (zh (fun j=>okE p (zro p l r) (zu l j)) (k+1)=false):=by
     show _=_
     rw [HST2.out]
     cases fk with
     | false=>rfl
     | true=>rw [HSAMEX.out rfl,decide_eq_false (by omega)];rfl
    go_wp2_with fail
    go_big_quiet ((fail))
    go_wp2_with fail
    go_roundw
    case rel =>
     refine⟨k+1,by omega,by go_num,by rw [HF.out];rfl,?_,?_⟩
     ·exact ((HB2.out.alloc HB2.out.size _).trans (below_draws _ _ _ |>.mono (by have:=HB2.out.size;simp;omega))).setCell (Nat.le_refl _) _
     ·rw [HN.out]
      have h:=((HROW2.out.alloc (.cells #[iV fr,iV to,iV bk,iV wt] 100)).drawn nq).set to (iV gp) hto
      refine h.congr fun v hv=>?_
      by_cases e:v=to
      ·rw [if_pos e];simp [e]
      ·rw [if_neg e];simp [e]
    case measure=>simp [intOf];omega
   ·have hupd:decide (xt<gp)=false:=decide_eq_false hup
    have HN:Hid (zQ p l (zro p l r) (k+1)=ak):=by show _=_;rw [HREL.out,HRELX.out,if_neg hup]
    have HF:Hid (zh (fun j=>okE p (zro p l r) (zu l j)) (k+1)=fk):=by
     show _=_
     rw [HST2.out]
     cases fk with
     | false=>rfl
     | true=>rw [HSAMEX.out rfl,decide_eq_true (by omega)];rfl
    go_wp2_with fail
    go_big_quiet ((fail))
    go_wp2_with fail
    go_roundw
    case rel =>
     refine⟨k+1,by omega,by go_num,by rw [HF.out],?_,?_⟩
     ·exact (HB2.out.alloc HB2.out.size _).trans (below_draws _ _ _ |>.mono (by have:=HB2.out.size;simp;omega))
     ·rw [HN.out]
      exact (HROW2.out.alloc (.cells #[iV fr,iV to,iV bk,iV wt] 100)).drawn nq
    case measure=>simp [intOf];omega
  ·have e:k=l.length:=by omega
   subst e
   have hki:¬(l.length:Int)<(l.length:Int):=by omega
   have HB2:=z5 hbel2
   have HROW2:=z5 hrow2
   have HSE:Hid (xw p l (zro p l r)=zh (fun j=>okE p (zro p l r) (zu l j)) l.length):=rfl
   obtain⟨fk,hfk⟩:∃b,zh (fun j=>okE p (zro p l r) (zu l j)) l.length=b:=⟨_,rfl⟩
   rw [hfk] at HSE ⊢
   clear hfk hbel2 hrow2
   have HRT:Hid ((!fk)=!xw p l (zro p l r)):=by show _=_;rw [HSE.out]
   go_wp2_with fail
   go_ret
   exact⟨z7 HRT.out,HB2.out,HROW2.out⟩
set_option maxHeartbeats 8000000 in
theorem ze5 (n:Nat) (p:Int) (la:Option Addr) (lc:Nat) (l:List Ed) (w:World) (hE:yP w (.slice la l.length lc) l) (hl:∀e∈l,VJ n e) (hn:n<=16) (hp1:1<=p) (hp2:p<=100) (hlen:l.length<=60000) :
  Calls Tryz.prog 189 #[.slice la l.length lc,iV n,iV p] w fun e w'=>e=.returned (.bool (Y5 n l p))/\Below w.heap.size w w':=by
 have hmk:=run_make_row' (P:=Tryz.prog) 22 3 (iV 0) 8 Tryz.underlying22 Tryz.j3 rfl .i64 .i64 n (by omega) (by omega)
 have H0:Hid (zg (w.alloc (.cells (madeCells #[iV 0] n) 3)) w.heap.size 3 n (fun v=>iV (zro p l 0 v))):=zg.zeros w _ n _
 go_enter Tryz.func189,Tryz.ntmps189
 go_wp2_with fail
 have HPUT:=z5 (fun (r:Nat) (hr:r<=16) (W:World) (hb:Below w.heap.size w W) (hrw:zg W w.heap.size 3 n (fun v=>iV (zro p l r v)))=>zfz n p r la lc l w W hE hl hn hr hp1 hp2 hlen hb hrw)
 clear hE hl
 go_loopw [11] (fun i wr=>∃r:Nat,r<=n/\i=iV r/\(∀q,q<r->xw p l (zro p l q)=false)/\Below w.heap.size w wr/\zg wr w.heap.size 3 n (fun v=>iV (zro p l r v))) (fun i _=>n - (intOf i).toNat)
 case atStart=>exact⟨0,by omega,rfl,fun q hq=>absurd hq (Nat.not_lt_zero _),below_alloc1 _ _,H0.out⟩
 case round =>
  clear H0 hmk
  obtain⟨r,hr,rfl,hno,hbel,hrow⟩:=hrel
  have HNO:=z5 hno
  have HB:=z5 hbel
  have HROW:=z5 hrow
  clear hno hrow hbel
  by_cases hrl:r<n
  ·have hri:(r:Int)<(n:Int):=by omega
   have HC:=z5 (HPUT.out r (by omega) wr HB.out HROW.out)
   obtain⟨st,hst⟩:∃b,xw p l (zro p l r)=b:=⟨_,rfl⟩
   rw [hst] at HC
   have HST:=z5 hst
   clear hst
   cases st with
   | true =>
     have HT:Hid (Y5 n l p=true):=yR (k:=r) hrl HST.out
     go_wp2_with fail
     refine HC.out.mono ?_
     rintro e x1 ⟨rfl,hb,hr2⟩
     have HX:=z5 hb
     clear hb hr2
     go_wp2_with fail
     go_ret
     exact⟨z7 HT.out.symm,HX.out⟩
   | false =>
     go_wp2_with fail
     refine HC.out.mono ?_
     rintro e x1 ⟨rfl,hb,hr2⟩
     have HX:=z5 hb
     have HR2:=z5 hr2
     clear hb hr2
     go_wp2_with fail
     go_roundw
     case rel =>
      refine⟨r+1,by omega,by go_num,fun q hq=>?_,HX.out,HR2.out⟩
      by_cases e:q=r
      ·rw [e];exact HST.out
      ·exact HNO.out q (by omega)
     case measure=>simp [intOf];omega
  ·have e:r=n:=by omega
   subst e
   have hri:¬(r:Int)<(r:Int):=by omega
   have HF:Hid (Y5 r l p=false):=za8 HNO.out
   go_wp2_with fail
   go_ret
   exact⟨z7 HF.out.symm,HB.out⟩
set_option maxRecDepth 8192
def zbm (L:Lp) (c k:Nat):Nat:=cnt (fun i=>decide (zC (z6 L.body i).o=(c:Int))) k
theorem zld (L:Lp) (c:Nat):zbm L c L.body.length=xO L c:=rfl
theorem zoi (L:Lp) (c k:Nat):zbm L c k<=k:=Zw _ _
theorem zie (L:Lp) (c k cl:Nat) (h:zC (z6 L.body k).o=(cl:Int)):zbm L c (k+1)=if c=cl then zbm L cl k+1 else zbm L c k:=by
 unfold zbm
 show cnt _ k+(if decide (zC (z6 L.body k).o=(c:Int))=true then 1 else 0)=_
 rw [h]
 by_cases e:c=cl
 ·subst e;rw [if_pos rfl,if_pos (decide_eq_true rfl)]
 ·rw [if_neg e,if_neg (by rw [decide_eq_true_iff];omega)];rfl
theorem zgr {p0 p1 p2 q0 q1 q2 r:Int} {g:Nat} {wr:World} {c:Nat} (hc:c<3) (h0:wr.cell? ⟨g,0,none⟩=some (iV p0)) (h1:wr.cell? ⟨g,1,none⟩=some (iV p1)) (h2:wr.cell? ⟨g,2,none⟩=some (iV p2)):wr.cell? ⟨g,c,none⟩=some (iV (zF ⟨p0,p1,p2,q0,q1,q2,r⟩ c)):=by
 obtain rfl | rfl | rfl:c=0\/c=1\/c=2:=by omega
 ·exact h0
 ·exact h1
 ·exact h2
theorem UG {t:Tg} (h:zp t=true):∀c:Nat,∃u:Nat,zF t c=(u:Int)/\1<=u/\u<=4:=by
 intro c
 obtain⟨h1,h2,h3,-,-⟩:=yi h
 have h1:=zT h1
 have h2:=zT h2
 have h3:=zT h3
 unfold zF
 split
 ·exact⟨t.u0.toNat,by omega,by omega,by omega⟩
 ·split
  ·exact⟨t.u1.toNat,by omega,by omega,by omega⟩
  ·exact⟨t.u2.toNat,by omega,by omega,by omega⟩
theorem zdo {L:Lp} {t:Tg} (hb:L.body.length<=16) (hu:∀c:Nat,c<3->1<=(zF t c).toNat):∀c,c<=3->1<=Z0 L t c/\Z0 L t c<=16:=by
 intro c
 induction c with
 | zero=>intro _;exact⟨Nat.le_refl _,by show 1<=16;omega⟩
 | succ c ih =>
   intro hc
   have h1:=ih (by omega)
   have h2:xy (xO L c) (zF t c).toNat<=xO L c:=(YG (hu c (by omega))).1 (Nat.le_mul_of_pos_right _ (hu c (by omega)))
   have h3:xO L c<=L.body.length:=Zw _ _
   show 1<=max (Z0 L t c) (xy (xO L c) (zF t c).toNat)/\max (Z0 L t c) (xy (xO L c) (zF t c).toNat)<=16
   omega
theorem zmi (n u:Nat) (hu:1<=u):((n:Int)+(u:Int) - 1).tdiv (u:Int)=(xy n u:Int):=by
 unfold xy
 have e:(n:Int)+(u:Int) - 1=((n+u - 1:Nat):Int):=by omega
 rw [e]
 exact Int.ofNat_tdiv _ _ |>.symm
set_option maxHeartbeats 4000000 in
theorem UF (p0 p1 p2 q0 q1 q2 r:Int) (L:Lp) (v0 v2:Value) (b off cap:Nat) (w:World) (hl:L.body.length<=cap) (hm:cap<=9223372036854775807) (hb:b<w.heap.size) (hcell:∀i,i<L.body.length->∀j,j<9->w.cell? ⟨b,off+i*9+j,none⟩=(zJ (z6 L.body i))[j]?) (h16:L.body.length<=16) (hmt:zp ⟨p0,p1,p2,q0,q1,q2,r⟩=true) :
  Calls Tryz.prog 169 #[.agg #[v0,.slice (some ⟨b,off,none⟩) L.body.length cap,v2],.agg #[iV p0,iV p1,iV p2,iV q0,iV q1,iV q2,iV r]] w fun e w'=>e=.returned (iV (xP L ⟨p0,p1,p2,q0,q1,q2,r⟩))/\Below w.heap.size w w':=by
 have HCE:=z5 hcell
 have HUU:=z5 (UG hmt)
 have HPU:=z5 (zdo (L:=L) (t:=⟨p0,p1,p2,q0,q1,q2,r⟩) h16 (fun c _=>by obtain⟨u,h1,h2,_⟩:=UG hmt c;rw [h1,Int.toNat_natCast];exact h2))
 have HS:Hid (((w.alloc (.cells #[v0,.slice (some ⟨b,off,none⟩) L.body.length cap,v2] 25)).alloc (.cells #[iV p0,iV p1,iV p2,iV q0,iV q1,iV q2,iV r] 28)).heap.size=w.heap.size+1+1):=by show _=_;simp
 have H0:Hid (zg (((w.alloc (.cells #[v0,.slice (some ⟨b,off,none⟩) L.body.length cap,v2] 25)).alloc (.cells #[iV p0,iV p1,iV p2,iV q0,iV q1,iV q2,iV r] 28)).alloc (.cells #[iV 0,iV 0,iV 0] 26)) (w.heap.size+1+1) 26 3 (fun c=>iV (zbm L c 0))):=by
  show zg _ _ _ _ _
  rw [<-HS.out]
  exact zg.made _ _ _ 3 _ (by simp) (fun i hi=>by
   obtain rfl | rfl | rfl:i=0\/i=1\/i=2:=by omega
   all_goals rfl)
 clear hcell hmt
 go_enter Tryz.func169,Tryz.ntmps169
 go_wp2_with fail
 go_loopw [15] (fun i wr=>∃k:Nat,k<=L.body.length/\i=iV k/\Below (w.heap.size+1+1) ((w.alloc (.cells #[v0,.slice (some ⟨b,off,none⟩) L.body.length cap,v2] 25)).alloc (.cells #[iV p0,iV p1,iV p2,iV q0,iV q1,iV q2,iV r] 28)) wr/\zg wr (w.heap.size+1+1) 26 3 (fun c=>iV (zbm L c k))) (fun i _=>L.body.length - (intOf i).toNat)
 case atStart=>exact⟨0,Nat.zero_le _,rfl,(Below.refl _ _).alloc (by rw [HS.out];omega) _,H0.out⟩
 case round =>
  clear H0
  obtain⟨k,hk,rfl,hbel,hrow⟩:=hrel
  have HB:=z5 hbel
  have HROW:=z5 hrow
  obtain⟨⟨l0,l1,l2⟩,⟨t0,t1,t2,t3,t4,t5,t6⟩,z0,z1,hbw⟩:=zI hbel
  have HBW:=z5 hbw
  have hz2:=hrow.lt
  by_cases hkl:k<L.body.length
  ·have hki:(k:Int)<(L.body.length:Int):=by omega
   obtain⟨c0,c1,c2,c3,c4,c5,c6,c7,c8⟩:=Zj (fun j hj=>(zc hbw b (off+k*9+j) hb).trans (HCE.out k hkl j hj))
   have hbz:b<wr.heap.size:=by omega
   obtain⟨cn,hcn,hcn3⟩:∃cn:Nat,zC (z6 L.body k).o=(cn:Int)/\cn<3:=by
    rcases Y2 (z6 L.body k).o with h | h | h
    ·exact⟨0,h,by omega⟩
    ·exact⟨1,h,by omega⟩
    ·exact⟨2,h,by omega⟩
   have HSTEP:=z5 (fun c=>zie L c k cn hcn)
   have HCL:Hid (∀W,Calls Tryz.prog 139 #[iV (z6 L.body k).o] W fun e w'=>e=.returned (iV cn)/\w'=W):=fun W=>by rw [<-hcn];exact V6 _ _
   have hcc:=hrow.cell hcn3
   have hfr:=hrow.frozen cn
   have hle:=zoi L cn k
   have HXX:Hid (∃xk,z6 L.body k=xk):=⟨_,rfl⟩
   generalize z6 L.body k=xk at *
   obtain⟨o,xa,xb,ya,yb,ar,sp,pl,nn⟩:=xk
   generalize hcx:zbm L cn k=cc at *
   have HCX:=z5 hcx
   have hci:(cn:Int)<3:=by omega
   clear hbel hrow hbw hcn hcx t0 t1 t2 t3 t4 t5 t6 l0 l1 l2
   go_wp2_with (go_at_call 139;refine (HCL.out _).mono ?_;rintro e w' ⟨rfl,hw'⟩;have hw':=hw'.symm;subst hw')
   go_roundw
   case rel =>
    refine⟨k+1,by omega,by go_num,?_,?_⟩
    ·have h1:Below (w.heap.size+1+1) _ (wr.setCell ⟨w.heap.size+1+1,cn,none⟩ (iV ((cc:Int)+1))):=HB.out.setCell (Nat.le_refl _) _
     exact h1.alloc (by simp;omega) _
    ·have h:=(HROW.out.set cn (iV ((cc:Int)+1)) hcn3).alloc (.cells #[iV o,iV xa,iV xb,iV ya,iV yb,iV ar,iV sp,iV pl,iV nn] 41)
     refine h.congr fun v hv=>?_
     rw [HSTEP.out v]
     by_cases e:v=cn
     ·rw [if_pos e,if_pos e];simp
     ·rw [if_neg e,if_neg e]
   case measure=>simp [intOf];omega
  ·have e:k=L.body.length:=by omega
   subst e
   have hki:¬(L.body.length:Int)<(L.body.length:Int):=by omega
   have r0:=hrow.cell (i:=0) (by omega)
   have r1:=hrow.cell (i:=1) (by omega)
   have r2:=hrow.cell (i:=2) (by omega)
   rw [zld] at r0 r1 r2
   have HUC:=z5 (fun c (hc:c<3)=>zgr (q0:=q0) (q1:=q1) (q2:=q2) (r:=r) hc t0 t1 t2)
   have HIX:Hid (∀c:Nat,c<3->∀W:World,(Instr.index 26 (.agg #[iV (xO L 0),iV (xO L 1),iV (xO L 2)]) (iV (c:Int))).run Tryz.prog W=.ok (iV (xO L c)) W):=fun c hc W=>by
    obtain rfl | rfl | rfl:c=0\/c=1\/c=2:=by omega
    all_goals kernel_rfl
   clear hbel hrow hbw t0 t1 t2 t3 t4 t5 t6 l0 l1 l2
   go_wp2_with fail
   go_loopw [8,28] (fun pv i wr2=>∃c:Nat,c<=3/\i=iV c/\pv=iV (Z0 L ⟨p0,p1,p2,q0,q1,q2,r⟩ c)/\wr2=wr) (fun _ i _=>3 - (intOf i).toNat)
   case atStart=>exact⟨0,by omega,rfl,rfl,rfl⟩
   case round =>
    obtain⟨c,hc,rfl,rfl,rfl⟩:=hrel
    have hpb:=HPU.out c hc
    by_cases hcl:c<3
    ·have hci:(c:Int)<3:=by omega
     have huc:=HUC.out c hcl
     have hix:=HIX.out c hcl
     obtain⟨u,hu,hu1,hu4⟩:=HUU.out c
     rw [hu] at huc
     have HNX:Hid (Z0 L ⟨p0,p1,p2,q0,q1,q2,r⟩ (c+1)=max (Z0 L ⟨p0,p1,p2,q0,q1,q2,r⟩ c) (xy (xO L c) u)):=by
      show max _ (xy (xO L c) (zF _ c).toNat)=_
      rw [hu,Int.toNat_natCast]
     have hcb:xO L c<=16:=Nat.le_trans (Zw _ _) h16
     have hnq:=zmi (xO L c) u hu1
     have hndb:xy (xO L c) u<=16:=Nat.le_trans ((YG hu1).1 (Nat.le_mul_of_pos_right _ hu1)) hcb
     generalize xy (xO L c) u=nd at *
     have hwn:wrap64 (nd:Int)=(nd:Int):=by unfold wrap64;omega
     obtain⟨nc,hnc⟩:∃nc,xO L c=nc:=⟨_,rfl⟩
     rw [hnc] at hix hcb hnq
     obtain⟨pa,hpa⟩:∃pa,Z0 L ⟨p0,p1,p2,q0,q1,q2,r⟩ c=pa:=⟨_,rfl⟩
     rw [hpa] at HNX hpb ⊢
     obtain⟨hpb1,hpb2⟩:=hpb
     clear hnc hu hpa r0 r1 r2
     go_wp2_with fail
     go_roundw
     case rel =>
      refine⟨c+1,by omega,by go_num,?_,trivial⟩
      rw [HNX.out]
      congr 1
      first | omega | (split <;> omega)
     case measure=>simp [intOf];omega
    ·have e:c=3:=by omega
     subst e
     go_wp2_with fail
     go_ret
     exact⟨rfl,HBW.out⟩
set_option maxRecDepth 8192
set_option maxHeartbeats 4000000 in
theorem Uy (t:Tg) (L:Lp) (ea:Option Addr) (ec:Nat) (w:World) (hE:yP w (.slice ea (z8 L t).length ec) (z8 L t)) (hm:zx L=true) :
  Calls Tryz.prog 170 #[.slice ea (z8 L t).length ec,iV L.body.length] w fun e w'=>e=.returned (iV (xi L t))/\Below w.heap.size w w':=by
 obtain⟨-,h1,h16,-⟩:=zj hm
 have hlen:(z8 L t).length<=60000:=by
  have:=VQ L t L.body.length h16
  have h2:L.body.length*3696<=16*3696:=Nat.mul_le_mul_right _ h16
  show (frD L t L.body.length).length<=60000
  omega
 have HOK:Hid (∀e∈z8 L t,VJ L.body.length e):=fun e he=>by
  obtain⟨fr,to,bk,wt,h0,h1,h2,h3,h4,h5⟩:=xq hm e he
  exact⟨fr,to,bk,wt,h0,h1,h2,h5,h4⟩
 have HIN:Hid (∀e∈z8 L t,e.fr.toNat<L.body.length/\e.to.toNat<L.body.length):=fun e he=>by
  obtain⟨fr,to,bk,wt,rfl,h1,h2,-⟩:=xq hm e he
  exact⟨by show ((fr:Int)).toNat<_;rw [Int.toNat_natCast];exact h1,by show ((to:Int)).toNat<_;rw [Int.toNat_natCast];exact h2⟩
 have HLAST:=z5 (fun q h1 h2 h3=>VB (L:=L) (t:=t) (q:=q) hm h1 h2 h3)
 have H96:=z5 (fun q h=>zau (L:=L) (t:=t) hm (q:=q) h)
 have HEV:=z5 hE
 clear hE hm
 generalize z8 L t=es at *
 go_enter Tryz.func170,Tryz.ntmps170
 go_wp2_with fail
 go_loopw [5] (fun pv wr=>∃q:Nat,pv=iV q/\1<=q/\(∀q':Nat,1<=q'->q'<q->yn L.body.length es q'=false)/\Below w.heap.size w wr) (fun pv _=>100 - (intOf pv).toNat)
 case atStart=>exact⟨1,rfl,Nat.le_refl _,fun q' h1 h2=>absurd h2 (by omega),Below.refl _ _⟩
 case round =>
  obtain⟨q,rfl,hq1,hno,hbel⟩:=hrel
  have hq96:=H96.out q hno
  have HNO:=z5 hno
  have HBL:=z5 hbel
  obtain⟨rb,hrb⟩:∃b,yn L.body.length es (q:Int)=b:=⟨_,rfl⟩
  have HRO:Hid (Calls Tryz.prog 189 #[.slice ea es.length ec,iV L.body.length,iV q] wr fun e w'=>e=.returned (.bool rb)/\Below wr.heap.size wr w'):=by
   show Calls _ _ _ _ _
   rw [<-hrb,<-Uz h1 HIN.out]
   exact ze5 L.body.length q ea ec es wr (HEV.out.below hbel) HOK.out h16 (by omega) (by omega) hlen
  have HRB:=z5 hrb
  clear hno hbel hrb
  cases rb with
  | true =>
    have HE:=z5 (HLAST.out q hq1 HRB.out HNO.out)
    go_wp2_with fail
    refine HRO.out.mono ?_
    rintro e x2 ⟨rfl,hb2⟩
    have HX2:=z5 (HBL.out.trans (hb2.mono HBL.out.size))
    clear hb2
    go_wp2_with fail
    go_ret
    exact⟨yk (by rw [HE.out]),HX2.out⟩
  | false =>
    go_wp2_with fail
    refine HRO.out.mono ?_
    rintro e x2 ⟨rfl,hb2⟩
    have HX2:=z5 (HBL.out.trans (hb2.mono HBL.out.size))
    clear hb2
    go_wp2_with fail
    go_roundw
    case rel =>
     refine⟨q+1,by go_num,by omega,fun q' h1 h2=>?_,HX2.out⟩
     by_cases e:q'=q
     ·rw [e];exact HRB.out
     ·exact HNO.out q' h1 (by omega)
    case measure=>simp [intOf];omega
set_option maxHeartbeats 1000000 in
theorem zl7 (hE:ZW) (p0 p1 p2 q0 q1 q2 r:Int) (L:Lp) (a0 a1 a2:Option Addr) (cap0 cap1 cap2:Nat) (w:World) (hL:zk w (.agg #[.slice a0 L.logs.length cap0,.slice a1 L.body.length cap1,.slice a2 L.outs.length cap2]) L) (hm:(zx L && zp ⟨p0,p1,p2,q0,q1,q2,r⟩)=false) :
  Calls Tryz.prog 144 #[.agg #[.slice a0 L.logs.length cap0,.slice a1 L.body.length cap1,.slice a2 L.outs.length cap2],.agg #[iV p0,iV p1,iV p2,iV q0,iV q1,iV q2,iV r]] w fun e w'=>e=.returned (.tuple #[iV 0,iV 0,iV 2])/\Below w.heap.size w w':=by
 have HM:=z5 (fun W (h:zk W (.agg #[.slice a0 L.logs.length cap0,.slice a1 L.body.length cap1,.slice a2 L.outs.length cap2]) L)=>za6 hE (.agg #[.slice a0 L.logs.length cap0,.slice a1 L.body.length cap1,.slice a2 L.outs.length cap2]) ⟨p0,p1,p2,q0,q1,q2,r⟩ L W h hm)
 have HS:Hid (((w.alloc (.cells #[.slice a0 L.logs.length cap0,.slice a1 L.body.length cap1,.slice a2 L.outs.length cap2] 25)).alloc (.cells #[iV p0,iV p1,iV p2,iV q0,iV q1,iV q2,iV r] 28)).heap.size=w.heap.size+1+1):=by show _=_;simp
 clear hm
 go_enter Tryz.func144,Tryz.ntmps144
 go_wp2_with fail
 refine (HM.out _ (hL.below (below_alloc2 _ _ _))).mono ?_
 rintro e x1 ⟨ea,ec,rfl,hb⟩
 have HB1:Hid (Below (w.heap.size+1+1) ((w.alloc (.cells #[.slice a0 L.logs.length cap0,.slice a1 L.body.length cap1,.slice a2 L.outs.length cap2] 25)).alloc (.cells #[iV p0,iV p1,iV p2,iV q0,iV q1,iV q2,iV r] 28)) x1):=by show Below _ _ _;rw [<-HS.out];exact hb
 obtain⟨-,-,-,-,hbw⟩:=zI HB1.out
 have HW1:=z5 hbw
 clear hb hbw
 go_wp2_with fail
 exact bodyPost_ret (v:=.tuple #[iV 0,iV 0,iV 2]) (by simp [results,Tryz.results144,go_sem]) rfl ⟨rfl,HW1.out⟩
set_option maxHeartbeats 4000000 in
set_option maxRecDepth 100000 in
theorem zia (hE:ZW) (p0 p1 p2 q0 q1 q2 r:Int) (L:Lp) (a0 a2:Option Addr) (cap0 b off cap1 cap2:Nat) (w:World) (hL:zk w (.agg #[.slice a0 L.logs.length cap0,.slice (some ⟨b,off,none⟩) L.body.length cap1,.slice a2 L.outs.length cap2]) L) (hm:zx L=true) (ht:zp ⟨p0,p1,p2,q0,q1,q2,r⟩=true) (hl1:L.body.length<=cap1) (hm1:cap1<=9223372036854775807) (hb:b<w.heap.size)
  (hbody:∀i,i<L.body.length->∀j,j<9->w.cell? ⟨b,off+i*9+j,none⟩=(zJ (z6 L.body i))[j]?) :
  Calls Tryz.prog 144 #[.agg #[.slice a0 L.logs.length cap0,.slice (some ⟨b,off,none⟩) L.body.length cap1,.slice a2 L.outs.length cap2],.agg #[iV p0,iV p1,iV p2,iV q0,iV q1,iV q2,iV r]] w fun e w'=>e=.returned (.tuple #[iV (xP L ⟨p0,p1,p2,q0,q1,q2,r⟩),iV (xi L ⟨p0,p1,p2,q0,q1,q2,r⟩),iV 0])/\Below w.heap.size w w':=by
 have h16:=(zj hm).2.2.1
 have HM:=z5 (fun W (h:zk W (.agg #[.slice a0 L.logs.length cap0,.slice (some ⟨b,off,none⟩) L.body.length cap1,.slice a2 L.outs.length cap2]) L)=>Xk hE (.agg #[.slice a0 L.logs.length cap0,.slice (some ⟨b,off,none⟩) L.body.length cap1,.slice a2 L.outs.length cap2]) ⟨p0,p1,p2,q0,q1,q2,r⟩ L W h (by rw [hm,ht];rfl))
 have HUN:=z5 (fun W (hW:Below w.heap.size w W)=>UF p0 p1 p2 q0 q1 q2 r L (.slice a0 L.logs.length cap0) (.slice a2 L.outs.length cap2) b off cap1 W hl1 hm1 (by have:=hW.size;omega) (fun i hi j hj=>by rw [zc hW _ _ hb];exact hbody i hi j hj) h16 ht)
 have HRO:=z5 (fun ea ec W h=>Uy ⟨p0,p1,p2,q0,q1,q2,r⟩ L ea ec W h hm)
 have HS:Hid (((w.alloc (.cells #[.slice a0 L.logs.length cap0,.slice (some ⟨b,off,none⟩) L.body.length cap1,.slice a2 L.outs.length cap2] 25)).alloc (.cells #[iV p0,iV p1,iV p2,iV q0,iV q1,iV q2,iV r] 28)).heap.size=w.heap.size+1+1):=by show _=_;simp
 clear hm ht hbody
 generalize xP L ⟨p0,p1,p2,q0,q1,q2,r⟩=ub at *
 generalize xi L ⟨p0,p1,p2,q0,q1,q2,r⟩=rb at *
 go_enter Tryz.func144,Tryz.ntmps144
 go_wp2_with fail
 refine (HM.out _ (hL.below (below_alloc2 _ _ _))).mono ?_
 rintro e x2 ⟨ea,en,ec,rfl,hev,hb1⟩
 have HB2:Hid (Below (w.heap.size+1+1) ((w.alloc (.cells #[.slice a0 L.logs.length cap0,.slice (some ⟨b,off,none⟩) L.body.length cap1,.slice a2 L.outs.length cap2] 25)).alloc (.cells #[iV p0,iV p1,iV p2,iV q0,iV q1,iV q2,iV r] 28)) x2):=by show Below _ _ _;rw [<-HS.out];exact hb1
 obtain⟨-,-,-,-,hbw⟩:=zI HB2.out
 have HW2:=z5 hbw
 obtain⟨ea2,ec2,hen,-⟩:=id hev
 injection hen with hen1 hen2 hen3
 subst hen1;subst hen2;subst hen3
 have HEV:=z5 hev
 clear hb1 hbw hev
 generalize z8 L ⟨p0,p1,p2,q0,q1,q2,r⟩=es at *
 have HSS:Hid (∀w':World,Below (w.heap.size+1+1) ((w.alloc (.cells #[.slice a0 L.logs.length cap0,.slice (some ⟨b,off,none⟩) L.body.length cap1,.slice a2 L.outs.length cap2] 25)).alloc (.cells #[iV p0,iV p1,iV p2,iV q0,iV q1,iV q2,iV r] 28)) w'->(w'.cell? ⟨w.heap.size,0,none⟩=some (.slice a0 L.logs.length cap0)/\w'.cell? ⟨w.heap.size,1,none⟩=some (.slice (some ⟨b,off,none⟩) L.body.length cap1)/\w'.cell? ⟨w.heap.size,2,none⟩=some (.slice a2 L.outs.length cap2))/\(w'.cell? ⟨w.heap.size+1,0,none⟩=some (iV p0)/\w'.cell? ⟨w.heap.size+1,1,none⟩=some (iV p1)/\w'.cell? ⟨w.heap.size+1,2,none⟩=some (iV p2)/\w'.cell? ⟨w.heap.size+1,3,none⟩=some (iV q0)/\w'.cell? ⟨w.heap.size+1,4,none⟩=some (iV q1)/\w'.cell? ⟨w.heap.size+1,5,none⟩=some (iV q2)/\w'.cell? ⟨w.heap.size+1,6,none⟩=some (iV r))):=by
  intro w' h
  obtain⟨h1,h2,-⟩:=zI h
  exact⟨h1,h2⟩
 have hz2:w.heap.size+1+1<=x2.heap.size:=by have:=HB2.out.size;rw [HS.out] at this;exact this
 go_wp2_with fail
 refine wp_region_noPanic ?_
 refine ze 99 (fun w'=>(w'.cell? ⟨w.heap.size,0,none⟩=some (.slice a0 L.logs.length cap0)/\w'.cell? ⟨w.heap.size,1,none⟩=some (.slice (some ⟨b,off,none⟩) L.body.length cap1)/\w'.cell? ⟨w.heap.size,2,none⟩=some (.slice a2 L.outs.length cap2))/\(w'.cell? ⟨w.heap.size+1,0,none⟩=some (iV p0)/\w'.cell? ⟨w.heap.size+1,1,none⟩=some (iV p1)/\w'.cell? ⟨w.heap.size+1,2,none⟩=some (iV p2)/\w'.cell? ⟨w.heap.size+1,3,none⟩=some (iV q0)/\w'.cell? ⟨w.heap.size+1,4,none⟩=some (iV q1)/\w'.cell? ⟨w.heap.size+1,5,none⟩=some (iV q2)/\w'.cell? ⟨w.heap.size+1,6,none⟩=some (iV r))) (by kernel_rfl) (HSS.out _ (HB2.out.trans (zH _ _))) (fun hHeld=>?_)
 refine utk (i:=0) rfl hHeld ?_
 refine utk (i:=1) rfl hHeld ?_
 refine utk (i:=3) rfl hHeld ?_
 refine utk (i:=4) rfl hHeld ?_
 refine utk (i:=5) rfl hHeld ?_
 refine utk (i:=6) rfl hHeld ?_
 refine z9 (i:=2) rfl (by kernel_rfl) (fun K hK9=>?_)
 go_simp
 refine (HUN.out _ (HW2.out.trans (zH _ _))).mono ?_
 rintro e x3 ⟨rfl,hb3⟩
 have hB3:=HB2.out.trans ((zH _ _).trans (hb3.mono (by simpa using hz2)))
 have HB3:=z5 hB3
 have HW3:=z5 (HW2.out.trans ((zH _ _).trans (hb3.mono (by simpa using HW2.out.size))))
 have hHeld:=HSS.out _ hB3
 have HEV3:=z5 (HEV.out.below ((zH _ _).trans hb3))
 clear hb3 hB3
 refine nxt hK9.out (.inr hHeld) ?_
 clear hK9 K
 refine z9 (i:=7) rfl (by kernel_rfl) (fun K hK9=>?_)
 go_simp
 refine (HRO.out _ _ _ HEV3.out).mono ?_
 rintro e x4 ⟨rfl,hb4⟩
 have hz3:w.heap.size+1+1<=x3.heap.size:=by have:=HB3.out.size;rw [HS.out] at this;exact this
 have hB4:=HB3.out.trans (hb4.mono hz3)
 have HW4:=z5 (HW3.out.trans (hb4.mono HW3.out.size))
 have hHeld:=HSS.out _ hB4
 clear hb4 hB4
 refine nxt hK9.out (.inr hHeld) ?_
 clear hK9 K
 refine utk (i:=8) rfl hHeld ?_
 refine utk (i:=9) rfl hHeld ?_
 refine utk (i:=10) rfl hHeld ?_
 refine zf (by kernel_rfl) ?_ _
 refine NoPanic.normal ?_
 clear hHeld
 go_wp2_with fail
 exact bodyPost_ret (v:=.tuple #[iV ub,iV rb,iV 0]) (by simp [results,Tryz.results144,go_sem]) rfl ⟨rfl,HW4.out⟩
theorem zbl (hE:ZW):zb9:=by
 intro v t L w hL
 obtain⟨p0,p1,p2,q0,q1,q2,r⟩:=t
 have hL':=hL
 obtain⟨v0,v1,v2,rfl,⟨a0,cap0,rfl,-⟩,⟨a1,cap1,rfl,h1,h2,h3⟩,⟨a2,cap2,rfl,-,-,-,-⟩⟩:=hL'
 unfold maxLen at h2
 cases hm:(zx L && zp ⟨p0,p1,p2,q0,q1,q2,r⟩) with
 | false =>
   refine (zl7 hE p0 p1 p2 q0 q1 q2 r L a0 a1 a2 cap0 cap1 cap2 w hL hm).mono fun e w' ⟨he,hb⟩=>⟨?_,hb⟩
   rw [if_neg Bool.false_ne_true];exact he
 | true =>
   have hm2:zx L=true/\zp ⟨p0,p1,p2,q0,q1,q2,r⟩=true:=by simpa using hm
   obtain⟨b,off,rfl,hb,hcell⟩:=h3 (by have:=(zj hm2.1).2.1;omega)
   refine (zia hE p0 p1 p2 q0 q1 q2 r L a0 a2 cap0 b off cap1 cap2 w hL hm2.1 hm2.2 h1 (by omega) hb hcell).mono fun e w' ⟨he,hb⟩=>⟨?_,hb⟩
   rw [if_pos rfl];exact he
theorem zi9:zb9:=zbl Ye
end Go.Proofs.YtjoapiafpahihabGreat
