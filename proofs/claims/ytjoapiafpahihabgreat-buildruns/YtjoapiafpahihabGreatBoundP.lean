import Derived.Test.YtjoapiafpahihabGreatDepP
set_option maxHeartbeats 20000000
namespace Go.Proofs.YtjoapiafpahihabGreat
open Go.Proofs.Tryz
open Go.RowKit Go.Joins
set_option linter.unusedVariables false
set_option linter.unusedSimpArgs false
set_option maxRecDepth 8192
variable {t:Tg}
theorem zmw (n:Nat) (p:Int) (r:Nat) (la:Option Addr) (lc:Nat) (l:List Ed) (w0 w:World) (hE:Z8 w0 (.slice la l.length lc) l) (hl:∀e∈l,zek n e) (hn:n<=16) (hr:r<=16) (hp1:1<=p) (hp2:p<=100) (hlen:l.length<=60000)
  (hbe:Bw w0 w) (hrw:zu w w0.heap.size 3 n (fun v=>iV (zt p l r v))) :
  Calls prog 202 #[.slice (pA w0.heap.size) n n,.slice la l.length lc,iV p] w fun e w'=>e=.returned (.bool (!Zp p l (zt p l r)))/\Bw w0 w'/\zu w' w0.heap.size 3 n (fun v=>iV (zt p l (r+1) v)):=by
 obtain⟨la',lc',he1,he2,he3,hec⟩:=hE
 injection he1 with e1 e2 e3
 subst e1;subst e3
 unfold maxLen at he3
 have HEC:=z9 hec
 have HL:=z9 hl
 have HBE:=z9 hbe
 have HRW:=z9 hrw
 clear hec hl e2 hbe hrw
 go_enter func202,ntmps202
 go_wp2_with fail
 go_loopw [7,13] (fun st i wr=>∃k:Nat,k<=l.length/\i=iV k/\st=.bool (!zC (fun j=>okE p (zt p l r) (zM l j)) k)/\Bw w0 wr/\zu wr w0.heap.size 3 n (fun v=>iV (yG p l (zt p l r) k v))) (fun _ i _=>l.length - (intOf i).toNat)
 case atStart=>exact⟨0,Nat.zero_le _,rfl,rfl,HBE.out,HRW.out⟩
 case round =>
  obtain⟨k,hk,rfl,rfl,hbel2,hrow2⟩:=hrel
  clear HBE HRW
  by_cases hkl:k<l.length
  ·have hki:(k:Int)<(l.length:Int):=by omega
   obtain⟨eb,eo,rfl,hebz,hecell⟩:=HEC.out (by omega)
   obtain⟨c0,c1,c2,c3⟩:=ziy (hecell k hkl)
   rw [<-zf hbel2 _ _ hebz] at c0 c1 c2 c3
   have hebz2:eb<wr.heap.size:=by have:=hbel2.size;omega
   obtain⟨fr,to,bk,wt,hed,hfr,hto,hbk,hwt⟩:=HL.out _ (Xl hkl)
   have HST:Hid (∀b,zC (fun j=>okE p (zt p l r) (zM l j)) k=b->zC (fun j=>okE p (zt p l r) (zM l j)) (k+1)=(b && okE p (zt p l r) (zM l k))):=fun b h=>by show (zC _ k && _)=_;rw [h]
   have HSAME:=z9 (fun h=>zrj (p:=p) (l:=l) (a:=zt p l r) k (by omega) h)
   have HREL:Hid (yG p l (zt p l r) (k+1)=Xg p (yG p l (zt p l r) k) (zM l k)):=rfl
   have hhi:=zfx (p:=p) (l:=l) (a:=zt p l r) (by omega) HL.out (zmq (by omega) HL.out r) k hk
   have hlo:=fun v=>zvr (p:=p) (l:=l) r k v
   have hr17:r*l.length<=16*60000:=Nat.mul_le_mul (by omega) hlen
   rw [hed] at c0 c1 c2 c3 HST HREL
   simp only at c0 c1 c2 c3
   have hcf:=hrow2.cell hfr
   have hct:=hrow2.cell hto
   have hft:=hrow2.frozen to
   have hxz:=hrow2.lt
   have hxf1:=hhi fr
   have hxf2:=hlo fr
   have hxt1:=hhi to
   have hxt2:=hlo to
   have HROW2:=z9 hrow2
   have HB2:=z9 hbel2
   have HSAMEX:Hid (zC (fun j=>okE p (zt p l r) (zM l j)) k=true->okE p (zt p l r) ⟨fr,to,bk,wt⟩=decide (yG p l (zt p l r) k fr+((wt:Int) - p*(bk:Int))<=yG p l (zt p l r) k to)):=fun h=>by rw [HSAME.out h];rfl
   have HRELX:Hid (Xg p (yG p l (zt p l r) k) ⟨fr,to,bk,wt⟩=if yG p l (zt p l r) k to<yG p l (zt p l r) k fr+((wt:Int) - p*(bk:Int)) then (fun v=>if v=to then yG p l (zt p l r) k fr+((wt:Int) - p*(bk:Int)) else yG p l (zt p l r) k v) else yG p l (zt p l r) k):=rfl
   obtain⟨ak,hak⟩:∃ak,yG p l (zt p l r) k=ak:=⟨_,rfl⟩
   rw [hak] at hcf hct hxf1 hxf2 hxt1 hxt2 HROW2 HSAMEX HRELX HREL
   obtain⟨fk,hfk⟩:∃b,zC (fun j=>okE p (zt p l r) (zM l j)) k=b:=⟨_,rfl⟩
   have HST2:=z9 (HST.out fk hfk)
   rw [hfk] at HSAMEX
   rw [hfk]
   obtain⟨xf,hxf⟩:∃x,ak fr=x:=⟨_,rfl⟩
   obtain⟨xt,hxt⟩:∃x,ak to=x:=⟨_,rfl⟩
   rw [hxf] at hcf hxf1 hxf2 HSAMEX HRELX
   rw [hxt] at hct hxt1 hxt2 HSAMEX HRELX
   have hpb1:0<=p*(bk:Int):=Int.mul_nonneg (by omega) (by omega)
   have hpb2:p*(bk:Int)<=100*32:=Int.mul_le_mul hp2 (by omega) (by omega) (by omega)
   rw [Int.mul_comm p (bk:Int)] at hpb1 hpb2 HSAMEX HRELX
   have hfi:(fr:Int)<(n:Int):=by omega
   have hti:(to:Int)<(n:Int):=by omega
   obtain⟨gp,hgp⟩:∃gp,xf+(wt:Int) - (bk:Int)*p=gp:=⟨_,rfl⟩
   have hgp2:xf+((wt:Int) - (bk:Int)*p)=gp:=by omega
   rw [hgp2] at HSAMEX HRELX
   have hgb:-10000<=gp/\gp<=100000000:=by omega
   obtain⟨hgb1,hgb2⟩:=hgb
   clear hecell hed hrow2 hbel2 hhi hlo HSAME HST hxf1 hxf2 hxt1 hxt2 hgp2
   by_cases hup:xt<gp
   ·have hupd:decide (xt<gp)=true:=decide_eq_true hup
    have HN:Hid (yG p l (zt p l r) (k+1)=fun v=>if v=to then gp else ak v):=by show _=_;rw [HREL.out,HRELX.out,if_pos hup]
    have HF:Hid (zC (fun j=>okE p (zt p l r) (zM l j)) (k+1)=false):=by
     show _=_
     rw [HST2.out]
     cases fk with
     | false=>rfl
     | true=>rw [HSAMEX.out rfl,decide_eq_false (by omega)];rfl
    go_wp2_with fail
    go_big_quiet ((fail))
    go_wp2_with fail
    go_roundw
    case rel =>
     refine⟨k+1,by omega,by go_num,by rw [HF.out];rfl,?_,?_⟩
     ·exact ((HB2.out.alloc HB2.out.size _).trans (below_draws _ _ _ |>.mono (by have:=HB2.out.size;simp;omega))).setCell (Nat.le_refl _) _
     ·rw [HN.out]
      have h:=((HROW2.out.alloc (.cells #[iV fr,iV to,iV bk,iV wt] 100)).drawn nq).set to (iV gp) hto
      refine h.congr fun v hv=>?_
      by_cases e:v=to
      ·rw [if_pos e];simp [e]
      ·rw [if_neg e];simp [e]
    case measure=>simp [intOf];omega
   ·have hupd:decide (xt<gp)=false:=decide_eq_false hup
    have HN:Hid (yG p l (zt p l r) (k+1)=ak):=by show _=_;rw [HREL.out,HRELX.out,if_neg hup]
    have HF:Hid (zC (fun j=>okE p (zt p l r) (zM l j)) (k+1)=fk):=by
     show _=_
     rw [HST2.out]
     cases fk with
     | false=>rfl
     | true=>rw [HSAMEX.out rfl,decide_eq_true (by omega)];rfl
    go_wp2_with fail
    go_big_quiet ((fail))
    go_wp2_with fail
    go_roundw
    case rel =>
     refine⟨k+1,by omega,by go_num,by rw [HF.out],?_,?_⟩
     ·exact (HB2.out.alloc HB2.out.size _).trans (below_draws _ _ _ |>.mono (by have:=HB2.out.size;simp;omega))
     ·rw [HN.out]
      exact (HROW2.out.alloc (.cells #[iV fr,iV to,iV bk,iV wt] 100)).drawn nq
    case measure=>simp [intOf];omega
  ·have e:k=l.length:=by omega
   subst e
   have hki:¬(l.length:Int)<(l.length:Int):=by omega
   have HB2:=z9 hbel2
   have HROW2:=z9 hrow2
   have HSE:Hid (Zp p l (zt p l r)=zC (fun j=>okE p (zt p l r) (zM l j)) l.length):=rfl
   obtain⟨fk,hfk⟩:∃b,zC (fun j=>okE p (zt p l r) (zM l j)) l.length=b:=⟨_,rfl⟩
   rw [hfk] at HSE ⊢
   clear hfk hbel2 hrow2
   have HRT:Hid ((!fk)=!Zp p l (zt p l r)):=by show _=_;rw [HSE.out]
   go_wp2_with fail
   go_ret
   exact⟨zg HRT.out,HB2.out,HROW2.out⟩
theorem zkb (n:Nat) (p:Int) (la:Option Addr) (lc:Nat) (l:List Ed) (w:World) (hE:Z8 w (.slice la l.length lc) l) (hl:∀e∈l,zek n e) (hn:n<=16) (hp1:1<=p) (hp2:p<=100) (hlen:l.length<=60000) :
  Calls prog 189 #[.slice la l.length lc,iV n,iV p] w (Rt w (.bool (XM n l p))):=by
 have hmk:=run_make_row' (P:=prog) 22 3 (iV 0) 8 underlying22 Tryz.j3 rfl .i64 .i64 n (by omega) (by omega)
 have H0:Hid (zu (w.alloc (.cells (madeCells #[iV 0] n) 3)) w.heap.size 3 n (fun v=>iV (zt p l 0 v))):=zu.zeros w _ n _
 go_enter func189,ntmps189
 go_wp2_with fail
 have HPUT:=z9 (fun (r:Nat) (hr:r<=16) (W:World) (hb:Bw w W) (hrw:zu W w.heap.size 3 n (fun v=>iV (zt p l r v)))=>zmw n p r la lc l w W hE hl hn hr hp1 hp2 hlen hb hrw)
 clear hE hl
 go_loopw [11] (fun i wr=>∃r:Nat,r<=n/\i=iV r/\(∀q,q<r->Zp p l (zt p l q)=false)/\Bw w wr/\zu wr w.heap.size 3 n (fun v=>iV (zt p l r v))) (fun i _=>n - (intOf i).toNat)
 case atStart=>exact⟨0,by omega,rfl,fun q hq=>absurd hq (Nat.not_lt_zero _),below_alloc1 _ _,H0.out⟩
 case round =>
  clear H0 hmk
  obtain⟨r,hr,rfl,hno,gH,gI⟩:=hrel
  have HNO:=z9 hno
  have HB:=z9 gH
  have gS:=z9 gI
  clear hno gI gH
  by_cases hrl:r<n
  ·have hri:(r:Int)<(n:Int):=by omega
   have HC:=z9 (HPUT.out r (by omega) wr HB.out gS.out)
   obtain⟨st,hst⟩:∃b,Zp p l (zt p l r)=b:=⟨_,rfl⟩
   rw [hst] at HC
   have HST:=z9 hst
   clear hst
   cases st with
   | true =>
     have HT:Hid (XM n l p=true):=Z0 (k:=r) hrl HST.out
     go_wp2_with fail
     refine HC.out.mono ?_
     rintro e x1 ⟨rfl,hb,hr2⟩
     have HX:=z9 hb
     clear hb hr2
     go_wp2_with fail
     go_ret
     exact⟨zg HT.out.symm,HX.out⟩
   | false =>
     go_wp2_with fail
     refine HC.out.mono ?_
     rintro e x1 ⟨rfl,hb,hr2⟩
     have HX:=z9 hb
     have HR2:=z9 hr2
     clear hb hr2
     go_wp2_with fail
     go_roundw
     case rel =>
      refine⟨r+1,by omega,by go_num,fun q hq=>?_,HX.out,HR2.out⟩
      by_cases e:q=r
      ·rw [e];exact HST.out
      ·exact HNO.out q (by omega)
     case measure=>simp [intOf];omega
  ·have e:r=n:=by omega
   subst e
   have hri:¬(r:Int)<(r:Int):=by omega
   have HF:Hid (XM r l p=false):=zq3 HNO.out
   go_wp2_with fail
   go_ret
   exact⟨zg HF.out.symm,HB.out⟩
def zh1 (L:Lp) (c k:Nat):Nat:=cnt (fun i=>decide (zW (zc L.b i).o=(c:Int))) k
theorem ztl (L:Lp) (c:Nat):zh1 L c L.b.length=YO L c:=rfl
theorem zx4 (L:Lp) (c k:Nat):zh1 L c k<=k:=Xw _ _
theorem zpl (L:Lp) (c k cl:Nat) (h:zW (zc L.b k).o=(cl:Int)):zh1 L c (k+1)=if c=cl then zh1 L cl k+1 else zh1 L c k:=by
 unfold zh1
 show cnt _ k+(if decide (zW (zc L.b k).o=(c:Int))=true then 1 else 0)=_
 rw [h]
 by_cases e:c=cl
 ·subst e;rw [if_pos rfl,if_pos (decide_eq_true rfl)]
 ·rw [if_neg e,if_neg (by rw [decide_eq_true_iff];omega)];rfl
theorem znl {p0 p1 p2 q0 q1 q2 r:Int} {g:Nat} {wr:World} {c:Nat} (hc:c<3) (h0:wr.cell? (ad g 0)=sI p0) (h1:wr.cell? (ad g 1)=sI p1) (h2:wr.cell? (ad g 2)=sI p2):wr.cell? (ad g c)=sI (ye ⟨p0,p1,p2,q0,q1,q2,r⟩ c):=by
 obtain rfl | rfl | rfl:c=0\/c=1\/c=2:=by omega
 ·exact h0
 ·exact h1
 ·exact h2
theorem ze4 (h:yj t=true):∀c:Nat,∃u:Nat,ye t c=(u:Int)/\1<=u/\u<=4:=by
 intro c
 obtain⟨h1,h2,h3,-,-⟩:=ym h
 have h1:=yn h1
 have h2:=yn h2
 have h3:=yn h3
 unfold ye
 split
 ·exact⟨t.u0.toNat,by omega,by omega,by omega⟩
 ·split
  ·exact⟨t.u1.toNat,by omega,by omega,by omega⟩
  ·exact⟨t.u2.toNat,by omega,by omega,by omega⟩
theorem zjt {L:Lp} (hb:L.b.length<=16) (hu:∀c:Nat,c<3->1<=(ye t c).toNat):∀c,c<=3->1<=Uo L t c/\Uo L t c<=16:=by
 intro c
 induction c with
 | zero=>intro _;exact⟨Nat.le_refl _,by show 1<=16;omega⟩
 | succ c ih =>
   intro hc
   have h1:=ih (by omega)
   have h2:Yy (YO L c) (ye t c).toNat<=YO L c:=(zda (hu c (by omega))).1 (Nat.le_mul_of_pos_right _ (hu c (by omega)))
   have h3:YO L c<=L.b.length:=Xw _ _
   show 1<=max (Uo L t c) (Yy (YO L c) (ye t c).toNat)/\max (Uo L t c) (Yy (YO L c) (ye t c).toNat)<=16
   omega
theorem zv9 (n u:Nat) (hu:1<=u):((n:Int)+(u:Int) - 1).tdiv (u:Int)=(Yy n u:Int):=by
 unfold Yy
 have e:(n:Int)+(u:Int) - 1=((n+u - 1:Nat):Int):=by omega
 rw [e]
 exact Int.ofNat_tdiv _ _ |>.symm
theorem ze2 (p0 p1 p2 q0 q1 q2 r:Int) (L:Lp) (v0 v2:Value) (b off cap:Nat) (w:World) (hl:L.b.length<=cap) (hm:cap<=9223372036854775807) (hb:b<w.heap.size) (gR:∀i,i<L.b.length->∀j,j<9->w.cell? (ad b (off+i*9+j))=(zP (zc L.b i))[j]?) (h16:L.b.length<=16) (hmt:yj ⟨p0,p1,p2,q0,q1,q2,r⟩=true) :
  Calls prog 169 #[.agg #[v0,.slice (some (ad b off)) L.b.length cap,v2],(tv p0 p1 p2 q0 q1 q2 r)] w (Rt w (iV (X7 L ⟨p0,p1,p2,q0,q1,q2,r⟩))):=by
 have HCE:=z9 gR
 have HUU:=z9 (ze4 hmt)
 have HPU:=z9 (zjt (L:=L) (t:=⟨p0,p1,p2,q0,q1,q2,r⟩) h16 (fun c _=>by obtain⟨u,h1,h2,_⟩:=ze4 hmt c;rw [h1,Int.toNat_natCast];exact h2))
 have HS:Hid (((w.alloc (.cells #[v0,.slice (some (ad b off)) L.b.length cap,v2] 25)).alloc (.cells #[iV p0,iV p1,iV p2,iV q0,iV q1,iV q2,iV r] 28)).heap.size=w.heap.size+1+1):=by show _=_;simp
 have H0:Hid (zu (((w.alloc (.cells #[v0,.slice (some (ad b off)) L.b.length cap,v2] 25)).alloc (.cells #[iV p0,iV p1,iV p2,iV q0,iV q1,iV q2,iV r] 28)).alloc (.cells #[iV 0,iV 0,iV 0] 26)) (w.heap.size+1+1) 26 3 (fun c=>iV (zh1 L c 0))):=by
  show zu _ _ _ _ _
  rw [<-HS.out]
  exact zu.made _ _ _ 3 _ (by simp) (fun i hi=>by
   obtain rfl | rfl | rfl:i=0\/i=1\/i=2:=by omega
   all_goals rfl)
 clear gR hmt
 go_enter func169,ntmps169
 go_wp2_with fail
 go_loopw [15] (fun i wr=>∃k:Nat,k<=L.b.length/\i=iV k/\Below (w.heap.size+1+1) ((w.alloc (.cells #[v0,.slice (some (ad b off)) L.b.length cap,v2] 25)).alloc (.cells #[iV p0,iV p1,iV p2,iV q0,iV q1,iV q2,iV r] 28)) wr/\zu wr (w.heap.size+1+1) 26 3 (fun c=>iV (zh1 L c k))) (fun i _=>L.b.length - (intOf i).toNat)
 case atStart=>exact⟨0,Nat.zero_le _,rfl,(Below.refl _ _).alloc (by rw [HS.out];omega) _,H0.out⟩
 case round =>
  clear H0
  obtain⟨k,hk,rfl,gH,gI⟩:=hrel
  have HB:=z9 gH
  have gS:=z9 gI
  obtain⟨⟨l0,l1,l2⟩,⟨t0,t1,t2,t3,t4,t5,t6⟩,z0,z1,hbw⟩:=Zb gH
  have HBW:=z9 hbw
  have hz2:=gI.lt
  by_cases hkl:k<L.b.length
  ·have hki:(k:Int)<(L.b.length:Int):=by omega
   obtain⟨c0,c1,c2,c3,c4,c5,c6,c7,c8⟩:=V5 (fun j hj=>(zf hbw b (off+k*9+j) hb).trans (HCE.out k hkl j hj))
   have hbz:b<wr.heap.size:=by omega
   obtain⟨cn,hcn,hcn3⟩:∃cn:Nat,zW (zc L.b k).o=(cn:Int)/\cn<3:=by
    rcases XG (zc L.b k).o with h | h | h
    ·exact⟨0,h,by omega⟩
    ·exact⟨1,h,by omega⟩
    ·exact⟨2,h,by omega⟩
   have HSTEP:=z9 (fun c=>zpl L c k cn hcn)
   have HCL:Hid (∀W,Calls prog 139 #[iV (zc L.b k).o] W fun e w'=>e=.returned (iV cn)/\w'=W):=fun W=>by rw [<-hcn];exact VZ _ _
   have hcc:=gI.cell hcn3
   have hfr:=gI.frozen cn
   have hle:=zx4 L cn k
   have HXX:Hid (∃xk,zc L.b k=xk):=⟨_,rfl⟩
   generalize zc L.b k=xk at *
   obtain⟨o,xa,xb,ya,yb,ar,sp,pl,nn⟩:=xk
   generalize hcx:zh1 L cn k=cc at *
   have HCX:=z9 hcx
   have hci:(cn:Int)<3:=by omega
   clear gH gI hbw hcn hcx t0 t1 t2 t3 t4 t5 t6 l0 l1 l2
   go_wp2_with (go_at_call 139;refine (HCL.out _).mono ?_;rintro e w' ⟨rfl,hw'⟩;have hw':=hw'.symm;subst hw')
   go_roundw
   case rel =>
    refine⟨k+1,by omega,by go_num,?_,?_⟩
    ·have h1:Below (w.heap.size+1+1) _ (wr.setCell (ad (w.heap.size+1+1) cn) (iV ((cc:Int)+1))):=HB.out.setCell (Nat.le_refl _) _
     exact h1.alloc (by simp;omega) _
    ·have h:=(gS.out.set cn (iV ((cc:Int)+1)) hcn3).alloc (.cells #[iV o,iV xa,iV xb,iV ya,iV yb,iV ar,iV sp,iV pl,iV nn] 41)
     refine h.congr fun v hv=>?_
     rw [HSTEP.out v]
     by_cases e:v=cn
     ·rw [if_pos e,if_pos e];simp
     ·rw [if_neg e,if_neg e]
   case measure=>simp [intOf];omega
  ·have e:k=L.b.length:=by omega
   subst e
   have hki:¬(L.b.length:Int)<(L.b.length:Int):=by omega
   have r0:=gI.cell (i:=0) (by omega)
   have r1:=gI.cell (i:=1) (by omega)
   have r2:=gI.cell (i:=2) (by omega)
   rw [ztl] at r0 r1 r2
   have HUC:=z9 (fun c (hc:c<3)=>znl (q0:=q0) (q1:=q1) (q2:=q2) (r:=r) hc t0 t1 t2)
   have HIX:Hid (∀c:Nat,c<3->∀W:World,(Instr.index 26 (.agg #[iV (YO L 0),iV (YO L 1),iV (YO L 2)]) (iV (c:Int))).run prog W=.ok (iV (YO L c)) W):=fun c hc W=>by
    obtain rfl | rfl | rfl:c=0\/c=1\/c=2:=by omega
    all_goals kernel_rfl
   clear gH gI hbw t0 t1 t2 t3 t4 t5 t6 l0 l1 l2
   go_wp2_with fail
   go_loopw [8,28] (fun pv i wr2=>∃c:Nat,c<=3/\i=iV c/\pv=iV (Uo L ⟨p0,p1,p2,q0,q1,q2,r⟩ c)/\wr2=wr) (fun _ i _=>3 - (intOf i).toNat)
   case atStart=>exact⟨0,by omega,rfl,rfl,rfl⟩
   case round =>
    obtain⟨c,hc,rfl,rfl,rfl⟩:=hrel
    have hpb:=HPU.out c hc
    by_cases hcl:c<3
    ·have hci:(c:Int)<3:=by omega
     have huc:=HUC.out c hcl
     have hix:=HIX.out c hcl
     obtain⟨u,hu,hu1,hu4⟩:=HUU.out c
     rw [hu] at huc
     have HNX:Hid (Uo L ⟨p0,p1,p2,q0,q1,q2,r⟩ (c+1)=max (Uo L ⟨p0,p1,p2,q0,q1,q2,r⟩ c) (Yy (YO L c) u)):=by
      show max _ (Yy (YO L c) (ye _ c).toNat)=_
      rw [hu,Int.toNat_natCast]
     have hcb:YO L c<=16:=Nat.le_trans (Xw _ _) h16
     have hnq:=zv9 (YO L c) u hu1
     have hndb:Yy (YO L c) u<=16:=Nat.le_trans ((zda hu1).1 (Nat.le_mul_of_pos_right _ hu1)) hcb
     generalize Yy (YO L c) u=nd at *
     have hwn:wrap64 (nd:Int)=(nd:Int):=by unfold wrap64;omega
     obtain⟨nc,hnc⟩:∃nc,YO L c=nc:=⟨_,rfl⟩
     rw [hnc] at hix hcb hnq
     obtain⟨pa,hpa⟩:∃pa,Uo L ⟨p0,p1,p2,q0,q1,q2,r⟩ c=pa:=⟨_,rfl⟩
     rw [hpa] at HNX hpb ⊢
     obtain⟨hpb1,hpb2⟩:=hpb
     clear hnc hu hpa r0 r1 r2
     go_wp2_with fail
     go_roundw
     case rel =>
      refine⟨c+1,by omega,by go_num,?_,trivial⟩
      rw [HNX.out]
      congr 1
      first | omega | (split <;> omega)
     case measure=>simp [intOf];omega
    ·have e:c=3:=by omega
     subst e
     go_wp2_with fail
     go_ret
     exact⟨rfl,HBW.out⟩
theorem zdo (t:Tg) (L:Lp) (ea:Option Addr) (ec:Nat) (w:World) (hE:Z8 w (.slice ea (zi L t).length ec) (zi L t)) (hm:zY L=true) :
  Calls prog 170 #[.slice ea (zi L t).length ec,iV L.b.length] w (Rt w (iV (ZA L t))):=by
 obtain⟨-,h1,h16,-⟩:=zw hm
 have hlen:(zi L t).length<=60000:=by
  have:=zxq L t L.b.length h16
  have h2:L.b.length*3696<=16*3696:=Nat.mul_le_mul_right _ h16
  show (frD L t L.b.length).length<=60000
  omega
 have HOK:Hid (∀e∈zi L t,zek L.b.length e):=fun e he=>by
  obtain⟨fr,to,bk,wt,h0,h1,h2,h3,h4,h5⟩:=Zc hm e he
  exact⟨fr,to,bk,wt,h0,h1,h2,h5,h4⟩
 have HIN:Hid (∀e∈zi L t,e.fr.toNat<L.b.length/\e.to.toNat<L.b.length):=fun e he=>by
  obtain⟨fr,to,bk,wt,rfl,h1,h2,-⟩:=Zc hm e he
  exact⟨by show ((fr:Int)).toNat<_;rw [Int.toNat_natCast];exact h1,by show ((to:Int)).toNat<_;rw [Int.toNat_natCast];exact h2⟩
 have HLAST:=z9 (fun q h1 h2 h3=>zk4 (L:=L) (t:=t) (q:=q) hm h1 h2 h3)
 have H96:=z9 (fun q h=>zs4 (L:=L) (t:=t) hm (q:=q) h)
 have HEV:=z9 hE
 clear hE hm
 generalize zi L t=es at *
 go_enter func170,ntmps170
 go_wp2_with fail
 go_loopw [5] (fun pv wr=>∃q:Nat,pv=iV q/\1<=q/\(∀q':Nat,1<=q'->q'<q->xo L.b.length es q'=false)/\Bw w wr) (fun pv _=>100 - (intOf pv).toNat)
 case atStart=>exact⟨1,rfl,Nat.le_refl _,fun q' h1 h2=>absurd h2 (by omega),Below.refl _ _⟩
 case round =>
  obtain⟨q,rfl,hq1,hno,gH⟩:=hrel
  have hq96:=H96.out q hno
  have HNO:=z9 hno
  have HBL:=z9 gH
  obtain⟨rb,hrb⟩:∃b,xo L.b.length es (q:Int)=b:=⟨_,rfl⟩
  have HRO:Hid (Calls prog 189 #[.slice ea es.length ec,iV L.b.length,iV q] wr (Rt wr (.bool rb))):=by
   show Calls _ _ _ _ _
   rw [<-hrb,<-zdr h1 HIN.out]
   exact zkb L.b.length q ea ec es wr (HEV.out.gE gH) HOK.out h16 (by omega) (by omega) hlen
  have HRB:=z9 hrb
  clear hno gH hrb
  cases rb with
  | true =>
    have HE:=z9 (HLAST.out q hq1 HRB.out HNO.out)
    go_wp2_with fail
    refine HRO.out.mono ?_
    rintro e x2 ⟨rfl,hb2⟩
    have HX2:=z9 (HBL.out.trans (hb2.mono HBL.out.size))
    clear hb2
    go_wp2_with fail
    go_ret
    exact⟨yO (by rw [HE.out]),HX2.out⟩
  | false =>
    go_wp2_with fail
    refine HRO.out.mono ?_
    rintro e x2 ⟨rfl,hb2⟩
    have HX2:=z9 (HBL.out.trans (hb2.mono HBL.out.size))
    clear hb2
    go_wp2_with fail
    go_roundw
    case rel =>
     refine⟨q+1,by go_num,by omega,fun q' h1 h2=>?_,HX2.out⟩
     by_cases e:q'=q
     ·rw [e];exact HRB.out
     ·exact HNO.out q' h1 (by omega)
    case measure=>simp [intOf];omega
set_option maxRecDepth 100000 in
theorem zpe (hE:Zv) (p0 p1 p2 q0 q1 q2 r:Int) (L:Lp) (a0 a2:Option Addr) (gA b off gB gC:Nat) (w:World) (hL:zE w ((lv L a0 (some (ad b off)) a2 gA gB gC)) L) (hm:zY L=true) (ht:yj ⟨p0,p1,p2,q0,q1,q2,r⟩=true) (hl1:L.b.length<=gB) (hm1:gB<=9223372036854775807) (hb:b<w.heap.size)
  (gQ:∀i,i<L.b.length->∀j,j<9->w.cell? (ad b (off+i*9+j))=(zP (zc L.b i))[j]?) :
  Calls prog 144 #[(lv L a0 (some (ad b off)) a2 gA gB gC),(tv p0 p1 p2 q0 q1 q2 r)] w (Rt w (.tuple #[iV (X7 L ⟨p0,p1,p2,q0,q1,q2,r⟩),iV (ZA L ⟨p0,p1,p2,q0,q1,q2,r⟩),iV 0])):=by
 have h16:=(zw hm).2.2.1
 have HM:=z9 (fun W (h:zE W ((lv L a0 (some (ad b off)) a2 gA gB gC)) L)=>hE ((lv L a0 (some (ad b off)) a2 gA gB gC)) ⟨p0,p1,p2,q0,q1,q2,r⟩ L W h (by rw [hm,ht];rfl))
 have HUN:=z9 (fun W (hW:Bw w W)=>ze2 p0 p1 p2 q0 q1 q2 r L (.slice a0 L.l.length gA) (.slice a2 L.o.length gC) b off gB W hl1 hm1 (by have:=hW.size;omega) (fun i hi j hj=>by rw [zf hW _ _ hb];exact gQ i hi j hj) h16 ht)
 have HRO:=z9 (fun ea ec W h=>zdo ⟨p0,p1,p2,q0,q1,q2,r⟩ L ea ec W h hm)
 have HS:Hid (((w.alloc (.cells #[.slice a0 L.l.length gA,.slice (some (ad b off)) L.b.length gB,.slice a2 L.o.length gC] 25)).alloc (.cells #[iV p0,iV p1,iV p2,iV q0,iV q1,iV q2,iV r] 28)).heap.size=w.heap.size+1+1):=by show _=_;simp
 clear hm ht gQ
 generalize X7 L ⟨p0,p1,p2,q0,q1,q2,r⟩=ub at *
 generalize ZA L ⟨p0,p1,p2,q0,q1,q2,r⟩=rb at *
 go_enter func144,ntmps144
 go_wp2_with fail
 refine (HM.out _ (hL.gE (below_alloc2 _ _ _))).mono ?_
 rintro e x2 ⟨ea,en,ec,rfl,hev,hb1⟩
 have HB2:Hid (Below (w.heap.size+1+1) ((w.alloc (.cells #[.slice a0 L.l.length gA,.slice (some (ad b off)) L.b.length gB,.slice a2 L.o.length gC] 25)).alloc (.cells #[iV p0,iV p1,iV p2,iV q0,iV q1,iV q2,iV r] 28)) x2):=by show Below _ _ _;rw [<-HS.out];exact hb1
 obtain⟨-,-,-,-,hbw⟩:=Zb HB2.out
 have HW2:=z9 hbw
 obtain⟨ea2,ec2,hen,-⟩:=id hev
 injection hen with hen1 hen2 hen3
 subst hen1;subst hen2;subst hen3
 have HEV:=z9 hev
 clear hb1 hbw hev
 generalize zi L ⟨p0,p1,p2,q0,q1,q2,r⟩=es at *
 have HSS:Hid (∀w':World,Below (w.heap.size+1+1) ((w.alloc (.cells #[.slice a0 L.l.length gA,.slice (some (ad b off)) L.b.length gB,.slice a2 L.o.length gC] 25)).alloc (.cells #[iV p0,iV p1,iV p2,iV q0,iV q1,iV q2,iV r] 28)) w'->(w'.cell? (ad w.heap.size 0)=some (.slice a0 L.l.length gA)/\w'.cell? (ad w.heap.size 1)=some (.slice (some (ad b off)) L.b.length gB)/\w'.cell? (ad w.heap.size 2)=some (.slice a2 L.o.length gC))/\(w'.cell? (ad (w.heap.size+1) 0)=sI p0/\w'.cell? (ad (w.heap.size+1) 1)=sI p1/\w'.cell? (ad (w.heap.size+1) 2)=sI p2/\w'.cell? (ad (w.heap.size+1) 3)=sI q0/\w'.cell? (ad (w.heap.size+1) 4)=sI q1/\w'.cell? (ad (w.heap.size+1) 5)=sI q2/\w'.cell? (ad (w.heap.size+1) 6)=sI r)):=by
  intro w' h
  obtain⟨h1,h2,-⟩:=Zb h
  exact⟨h1,h2⟩
 have hz2:w.heap.size+1+1<=x2.heap.size:=by have:=HB2.out.size;rw [HS.out] at this;exact this
 go_wp2_with fail
 refine wp_region_noPanic ?_
 refine zm 99 (fun w'=>(w'.cell? (ad w.heap.size 0)=some (.slice a0 L.l.length gA)/\w'.cell? (ad w.heap.size 1)=some (.slice (some (ad b off)) L.b.length gB)/\w'.cell? (ad w.heap.size 2)=some (.slice a2 L.o.length gC))/\(w'.cell? (ad (w.heap.size+1) 0)=sI p0/\w'.cell? (ad (w.heap.size+1) 1)=sI p1/\w'.cell? (ad (w.heap.size+1) 2)=sI p2/\w'.cell? (ad (w.heap.size+1) 3)=sI q0/\w'.cell? (ad (w.heap.size+1) 4)=sI q1/\w'.cell? (ad (w.heap.size+1) 5)=sI q2/\w'.cell? (ad (w.heap.size+1) 6)=sI r)) (by kernel_rfl) (HSS.out _ (HB2.out.trans (zU _ _))) (fun h9=>?_)
 refine uk 0 h9 ?_
 refine uk 1 h9 ?_
 refine uk 3 h9 ?_
 refine uk 4 h9 ?_
 refine uk 5 h9 ?_
 refine uk 6 h9 ?_
 refine ze (i:=2) rfl (by kernel_rfl) (fun K hK9=>?_)
 go_simp
 refine (HUN.out _ (HW2.out.trans (zU _ _))).mono ?_
 rintro e x3 ⟨rfl,hb3⟩
 have hB3:=HB2.out.trans ((zU _ _).trans (hb3.mono (by simpa using hz2)))
 have HB3:=z9 hB3
 have HW3:=z9 (HW2.out.trans ((zU _ _).trans (hb3.mono (by simpa using HW2.out.size))))
 have h9:=HSS.out _ hB3
 have HEV3:=z9 (HEV.out.gE ((zU _ _).trans hb3))
 clear hb3 hB3
 refine nxt hK9.out (.inr h9) ?_
 clear hK9 K
 refine ze (i:=7) rfl (by kernel_rfl) (fun K hK9=>?_)
 go_simp
 refine (HRO.out _ _ _ HEV3.out).mono ?_
 rintro e x4 ⟨rfl,hb4⟩
 have hz3:w.heap.size+1+1<=x3.heap.size:=by have:=HB3.out.size;rw [HS.out] at this;exact this
 have hB4:=HB3.out.trans (hb4.mono hz3)
 have HW4:=z9 (HW3.out.trans (hb4.mono HW3.out.size))
 have h9:=HSS.out _ hB4
 clear hb4 hB4
 refine nxt hK9.out (.inr h9) ?_
 clear hK9 K
 refine uk 8 h9 ?_
 refine uk 9 h9 ?_
 refine uk 10 h9 ?_
 refine zq (by kernel_rfl) ?_ _
 refine NoPanic.normal ?_
 clear h9
 go_wp2_with fail
 exact bodyPost_ret (v:=.tuple #[iV ub,iV rb,iV 0]) (by simp [results,results144,go_sem]) rfl ⟨rfl,HW4.out⟩
end Go.Proofs.YtjoapiafpahihabGreat
