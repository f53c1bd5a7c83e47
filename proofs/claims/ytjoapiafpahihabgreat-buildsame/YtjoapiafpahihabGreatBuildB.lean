import Derived.Test.YtjoapiafpahihabGreatRef10C
import Derived.Test.YtjoapiafpahihabGreatRef3A
import Derived.Test.YtjoapiafpahihabGreatRef5B
import Derived.Test.YtjoapiafpahihabGreatRef3Play
import Derived.Test.YtjoapiafpahihabGreatBuildMakes
import Derived.Test.YtjoapiafpahihabGreatRef2L
namespace Go.Proofs.YtjoapiafpahihabGreat
open Go.RowKit Go.Joins
set_option linter.unusedVariables false
set_option linter.unusedSimpArgs false
set_option maxRecDepth 8192
theorem zvi:∀g,g<=5->zs2 (2 ^ g)=g:=by
 intro g hg
 obtain rfl | rfl | rfl | rfl | rfl | rfl:g=0\/g=1\/g=2\/g=3\/g=4\/g=5:=by omega
 all_goals rfl
theorem zsz {L:Lp} (h:zx L=true) {i:Nat} (hi:i<L.logs.length):0<=nth L.logs i/\nth L.logs i<=5:=by
 obtain⟨-,-,-,-,h5,-⟩:=zj h
 exact zo.1 (zl h5 i hi)
theorem zto {L:Lp} {B M:List (List Int)} (h:zrx L B M=true):zs3 M=true/\zrp M=L.logs:=by
 obtain⟨f1,f2,f3,f4,f5⟩:=zsr h
 have hl:∀i,i<M.length->zs2 (VC M i).length=(nth L.logs i).toNat:=fun i hi=>by
  have:=zsz f1 (i:=i) (by omega)
  rw [f5 i hi]
  exact zvi _ (by omega)
 refine⟨zN fun i hi=>?_,zv0 (by rw [zry];exact f3) fun j hj=>?_⟩
 ·have:=zsz f1 (i:=i) (by omega)
  unfold zuo
  rw [hl i hi]
  exact decide_eq_true (by omega)
 ·rw [zry] at hj
  have:=zsz f1 (i:=j) (by omega)
  rw [zsk M j hj,hl j hj]
  omega
theorem zvs {L:Lp} {B M:List (List Int)} (h:zrx L B M=true):zv5 L B=true:=by
 obtain⟨f1,f2,f3,f4,f5⟩:=zsr h
 unfold zv5
 rw [decide_eq_true f2,Bool.true_and]
 exact zN fun i hi=>decide_eq_true (f4 i hi)
theorem zsj {w wr:World} {x0 x1 x2 y0 y1 y2 s0 s1:Value} {p0 p1 p2 q0 q1 q2 r:Int} {ta tb tc td:TypeId} (h:Below (w.heap.size+1+1+1+1) ((((w.alloc (.cells #[x0,x1,x2] ta)).alloc (.cells #[iV p0,iV p1,iV p2,iV q0,iV q1,iV q2,iV r] tb)).alloc (.cells #[y0,y1,y2] tc)).alloc (.cells #[s0,s1] td)) wr) :
  (wr.cell? ⟨w.heap.size,0,none⟩=some x0/\wr.cell? ⟨w.heap.size,1,none⟩=some x1/\wr.cell? ⟨w.heap.size,2,none⟩=some x2) /\
  (wr.cell? ⟨w.heap.size+1,0,none⟩=some (iV p0)/\wr.cell? ⟨w.heap.size+1,1,none⟩=some (iV p1)/\wr.cell? ⟨w.heap.size+1,2,none⟩=some (iV p2)/\wr.cell? ⟨w.heap.size+1,3,none⟩=some (iV q0)/\wr.cell? ⟨w.heap.size+1,4,none⟩=some (iV q1)/\wr.cell? ⟨w.heap.size+1,5,none⟩=some (iV q2)/\wr.cell? ⟨w.heap.size+1,6,none⟩=some (iV r)) /\
  (wr.cell? ⟨w.heap.size+1+1,0,none⟩=some y0/\wr.cell? ⟨w.heap.size+1+1,1,none⟩=some y1/\wr.cell? ⟨w.heap.size+1+1,2,none⟩=some y2)/\(wr.cell? ⟨w.heap.size+1+1+1,0,none⟩=some s0/\wr.cell? ⟨w.heap.size+1+1+1,1,none⟩=some s1)/\w.heap.size+1+1+1<wr.heap.size/\Below w.heap.size w wr:=by
 have hs:((((w.alloc (.cells #[x0,x1,x2] ta)).alloc (.cells #[iV p0,iV p1,iV p2,iV q0,iV q1,iV q2,iV r] tb)).alloc (.cells #[y0,y1,y2] tc)).alloc (.cells #[s0,s1] td)).heap.size=w.heap.size+1+1+1+1:=by simp
 have hz:=h.size
 have h3:Below (w.heap.size+1+1+1) (((w.alloc (.cells #[x0,x1,x2] ta)).alloc (.cells #[iV p0,iV p1,iV p2,iV q0,iV q1,iV q2,iV r] tb)).alloc (.cells #[y0,y1,y2] tc)) wr:=((Below.refl _ _).alloc (by simp) _).trans (h.mono (by omega))
 obtain⟨c1,c2,c3,-,hb⟩:=zZ h3
 refine⟨c1,c2,c3,⟨?_,?_⟩,by omega,hb⟩
 all_goals rw [h.cell (by show w.heap.size+1+1+1<_;omega)]
 all_goals go_simp
set_option maxHeartbeats 8000000 in
theorem zv9 (p0 p1 p2 q0 q1 q2 r pc st:Int) (ops:List Kop) (L:Lp) (O:List Int) (B M:List (List Int)) (turns:Nat) (a0 a1 a2 ka oa ba ma:Option Addr) (cap0 cap1 cap2 kc oc bc mc:Nat) (w:World) (hL:zk w (.agg #[.slice a0 L.logs.length cap0,.slice a1 L.body.length cap1,.slice a2 L.outs.length cap2]) L) (hK:Xz w (.slice ka ops.length kc) ops) (hO:yf w (.slice oa O.length oc) O) (hB:YY w (.slice ba B.length bc) B) (hM:YY w (.slice ma M.length mc) M)
  (htk:yv L ⟨p0,p1,p2,q0,q1,q2,r⟩ ⟨pc,st,ops⟩ O=true) (hfi:zrx L B M=true) (ht:turns<=200) (hLI:LoopIn L) (hnn:∀x∈ops,I64 x.nn) :
  Calls Tryz.prog 12 #[.agg #[.slice a0 L.logs.length cap0,.slice a1 L.body.length cap1,.slice a2 L.outs.length cap2],.agg #[iV p0,iV p1,iV p2,iV q0,iV q1,iV q2,iV r],.agg #[iV pc,iV st,.slice ka ops.length kc],.slice oa O.length oc,.agg #[.slice ba B.length bc,.slice ma M.length mc],iV (turns:Int)] w fun e w'=>e=.returned (.bool true)/\Below w.heap.size w w':=by
 obtain⟨hlay,-⟩:=zsa htk
 obtain⟨hm,hmt,hmk,-⟩:=Zq hlay
 obtain⟨-,-,-,hr1,hr2⟩:=yi hmt
 have hr1:1<=r:=hr1
 obtain⟨hhl,hlg⟩:=zto hfi
 have hbf:=zvs hfi
 have hBin:=zsp hB
 have hMin:=zsp hM
 have HEN:=z5 (fun W (h1:zk W (.agg #[.slice a0 L.logs.length cap0,.slice a1 L.body.length cap1,.slice a2 L.outs.length cap2]) L) (h2:Xz W (.slice ka ops.length kc) ops) (h3:yf W (.slice oa O.length oc) O) (h4:YY W (.slice ba B.length bc) B)=>zum p0 p1 p2 q0 q1 q2 r pc st ops L O B a0 a1 a2 ka oa ba cap0 cap1 cap2 kc oc bc W h1 h2 h3 h4 hlay hbf)
 have HEL:=z5 (zva L ⟨p0,p1,p2,q0,q1,q2,r⟩ ⟨pc,st,ops⟩ O B)
 have HPY:Hid (∀W rv,Xz W (.slice ka ops.length kc) ops->yf W rv (zrv L ⟨p0,p1,p2,q0,q1,q2,r⟩ ⟨pc,st,ops⟩ O B)->YY W (.slice ma M.length mc) M->Calls Tryz.prog 37 #[.agg #[iV p0,iV p1,iV p2,iV q0,iV q1,iV q2,iV r],.agg #[iV pc,iV st,.slice ka ops.length kc],rv,.slice ma M.length mc,iV (turns:Int)] W fun e w'=>∃rv' mv',e=.returned (.tuple #[rv',mv'])/\yf w' rv' (zs5 r.toNat (zq2 ⟨p0,p1,p2,q0,q1,q2,r⟩ ⟨pc,st,ops⟩ L.logs turns (zrv L ⟨p0,p1,p2,q0,q1,q2,r⟩ ⟨pc,st,ops⟩ O B) M))/\YY w' mv' (zrz M (zq2 ⟨p0,p1,p2,q0,q1,q2,r⟩ ⟨pc,st,ops⟩ L.logs turns (zrv L ⟨p0,p1,p2,q0,q1,q2,r⟩ ⟨pc,st,ops⟩ O B) M))/\Below W.heap.size W w'):=fun W rv h1 h2 h3=>by
  have hx:=zvd ⟨p0,p1,p2,q0,q1,q2,r⟩ (.agg #[iV pc,iV st,.slice ka ops.length kc]) rv (.slice ma M.length mc) ⟨pc,st,ops⟩ (zrv L ⟨p0,p1,p2,q0,q1,q2,r⟩ ⟨pc,st,ops⟩ O B) M (turns:Int) W ⟨_,rfl,h1⟩ h2 h3 (by
   unfold zt1
   rw [if_pos ⟨hhl,by rw [hlg];exact hmk,by rw [HEL.out];show ((r.toNat:Nat):Int)=r;omega⟩,if_pos (by omega)]) hnn
  rw [hlg,HEL.out] at hx
  exact hx
 have HLV:=z5 (fun W (R:List Int) ra rc (h1:zk W (.agg #[.slice a0 L.logs.length cap0,.slice a1 L.body.length cap1,.slice a2 L.outs.length cap2]) L) (h2:Xz W (.slice ka ops.length kc) ops) (h3:yf W (.slice oa O.length oc) O) (h4:YY W (.slice ba B.length bc) B) (h5:yf W (.slice ra R.length rc) R) (h6:(R.length:Int)=r)=>zur p0 p1 p2 q0 q1 q2 r pc st ops L O R B (turns:Int) a0 a1 a2 ka oa ba ra cap0 cap1 cap2 kc oc bc rc W h1 h2 h3 h4 h5 hlay hbf h6 (by omega) (by omega))
 have HSQ:=z5 (fun W (h1:zk W (.agg #[.slice a0 L.logs.length cap0,.slice a1 L.body.length cap1,.slice a2 L.outs.length cap2]) L) (h2:zey W (.agg #[.slice ba B.length bc,.slice ma M.length mc]) B M)=>zwe _ _ L B M turns W h1 h2 hfi ht hLI hBin hMin)
 have HWD:Hid (zrz M (zq2 ⟨p0,p1,p2,q0,q1,q2,r⟩ ⟨pc,st,ops⟩ L.logs turns (zrv L ⟨p0,p1,p2,q0,q1,q2,r⟩ ⟨pc,st,ops⟩ O B) M)=ztf M (zpn L B turns (zgf M))):=by
  show (List.range M.length).map (fun i=>(List.range (VC M i).length).map fun j=>_)=(List.range M.length).map (fun i=>(List.range (VC M i).length).map fun j=>_)
  refine List.map_congr_left fun i _=>List.map_congr_left fun j _=>?_
  exact zug htk ht i j
 have HOT:Hid (zrw L ⟨p0,p1,p2,q0,q1,q2,r⟩ ⟨pc,st,ops⟩ O B (zs5 r.toNat (zq2 ⟨p0,p1,p2,q0,q1,q2,r⟩ ⟨pc,st,ops⟩ L.logs turns (zrv L ⟨p0,p1,p2,q0,q1,q2,r⟩ ⟨pc,st,ops⟩ O B) M)) turns=zrt L B turns (zpn L B turns (zgf M))):=zuu htk ht
 have HRL:Hid (((zs5 r.toNat (zq2 ⟨p0,p1,p2,q0,q1,q2,r⟩ ⟨pc,st,ops⟩ L.logs turns (zrv L ⟨p0,p1,p2,q0,q1,q2,r⟩ ⟨pc,st,ops⟩ O B) M)).length:Int)=r):=by show _=_;unfold zs5;simp;omega
 have HL:=z5 hL
 have HK:=z5 hK
 have HO:=z5 hO
 have HBR:=z5 hB
 have HMR:=z5 hM
 have HS:Hid (((((w.alloc (.cells #[.slice a0 L.logs.length cap0,.slice a1 L.body.length cap1,.slice a2 L.outs.length cap2] 25)).alloc (.cells #[iV p0,iV p1,iV p2,iV q0,iV q1,iV q2,iV r] 28)).alloc (.cells #[iV pc,iV st,.slice ka ops.length kc] 31)).alloc (.cells #[.slice ba B.length bc,.slice ma M.length mc] 34)).heap.size=w.heap.size+1+1+1+1):=by show _=_;simp
 have HB0:Hid (Below w.heap.size w ((((w.alloc (.cells #[.slice a0 L.logs.length cap0,.slice a1 L.body.length cap1,.slice a2 L.outs.length cap2] 25)).alloc (.cells #[iV p0,iV p1,iV p2,iV q0,iV q1,iV q2,iV r] 28)).alloc (.cells #[iV pc,iV st,.slice ka ops.length kc] 31)).alloc (.cells #[.slice ba B.length bc,.slice ma M.length mc] 34))):=(below_alloc3 w _ _ _).alloc (by simp;omega) _
 generalize zq2 ⟨p0,p1,p2,q0,q1,q2,r⟩ ⟨pc,st,ops⟩ L.logs turns (zrv L ⟨p0,p1,p2,q0,q1,q2,r⟩ ⟨pc,st,ops⟩ O B) M=pk at *
 generalize zrv L ⟨p0,p1,p2,q0,q1,q2,r⟩ ⟨pc,st,ops⟩ O B=en at *
 generalize zs5 r.toNat pk=rg at *
 generalize zpn L B turns (zgf M)=rs at *
 clear hL hK hO hB hM htk hfi hlay hm hmt hmk hhl hlg hbf hBin hMin hLI hnn
 go_enter Tryz.func12,Tryz.ntmps12
 go_wp2_with fail
 refine (HEN.out _ (HL.out.below HB0.out) (HK.out.below HB0.out) (HO.out.below HB0.out) (HBR.out.below HB0.out)).mono ?_
 rintro e x1 ⟨⟨ea,ec,rfl,hen⟩,hbx⟩
 have hb1:Below (w.heap.size+1+1+1+1) ((((w.alloc (.cells #[.slice a0 L.logs.length cap0,.slice a1 L.body.length cap1,.slice a2 L.outs.length cap2] 25)).alloc (.cells #[iV p0,iV p1,iV p2,iV q0,iV q1,iV q2,iV r] 28)).alloc (.cells #[iV pc,iV st,.slice ka ops.length kc] 31)).alloc (.cells #[.slice ba B.length bc,.slice ma M.length mc] 34)) x1:=by rw [<-HS.out];exact hbx
 have HB1:=z5 hb1
 have HE1:=z5 hen
 obtain⟨⟨l0,l1,l2⟩,⟨t0,t1,t2,t3,t4,t5,t6⟩,⟨k0,k1,k2⟩,⟨s0,s1⟩,hz,hbw⟩:=zsj hb1
 have HW1:=z5 hbw
 clear hbx hb1 hbw hen
 go_wp2_with fail
 refine (HPY.out _ _ (HK.out.below HW1.out) HE1.out (HMR.out.below HW1.out)).mono ?_
 rintro e x2 ⟨rv,mv,rfl,hrv,hmv,hbx⟩
 have HB2:=z5 (HB1.out.trans (hbx.mono (by omega)))
 have HR2:=z5 hrv
 have HM2:=z5 hmv
 obtain⟨ra,rc,rfl,-⟩:=id hrv
 clear l0 l1 l2 t0 t1 t2 t3 t4 t5 t6 k0 k1 k2 s0 s1 hz
 obtain⟨⟨l0,l1,l2⟩,⟨t0,t1,t2,t3,t4,t5,t6⟩,⟨k0,k1,k2⟩,⟨s0,s1⟩,hz,hbw⟩:=zsj HB2.out
 have HW2:=z5 hbw
 clear hbx hbw hrv hmv
 go_wp2_with fail
 refine (HLV.out _ rg ra rc (HL.out.below HW2.out) (HK.out.below HW2.out) (HO.out.below HW2.out) (HBR.out.below HW2.out) HR2.out HRL.out).mono ?_
 rintro e x3 ⟨⟨la,lc,rfl,hlv⟩,hbx⟩
 rw [HOT.out] at hlv ⊢
 have HB3:=z5 (HB2.out.trans (hbx.mono (by omega)))
 have HL3:=z5 hlv
 have HM3:=z5 (HM2.out.below hbx)
 clear l0 l1 l2 t0 t1 t2 t3 t4 t5 t6 k0 k1 k2 s0 s1 hz
 obtain⟨⟨l0,l1,l2⟩,⟨t0,t1,t2,t3,t4,t5,t6⟩,⟨k0,k1,k2⟩,⟨s0,s1⟩,hz,hbw⟩:=zsj HB3.out
 have HW3:=z5 hbw
 clear hbx hbw hlv
 go_wp2_with fail
 refine (HSQ.out _ (HL.out.below HW3.out) ⟨_,_,rfl,HBR.out.below HW3.out,HMR.out.below HW3.out⟩).mono ?_
 rintro e x4 ⟨ov,qv,rfl,hov,hqv,hbx⟩
 have HB4:=z5 (HB3.out.trans (hbx.mono (by omega)))
 have HL4:=z5 (HL3.out.below hbx)
 have HM4:=z5 (HM3.out.below hbx)
 have HO4:=z5 hov
 have HQ4:=z5 hqv
 rw [HWD.out] at HM4
 obtain⟨oa2,oc2,rfl,-⟩:=id hov
 obtain⟨qa2,qc2,rfl,-⟩:=id hqv
 obtain⟨ma2,mc2,rfl,-⟩:=id HM4.out
 have HW4:=z5 (HW3.out.trans (hbx.mono HW3.out.size))
 have HBA:=z5 (below_alloc1 x4 (.cells #[.slice oa2 (zrt L B turns rs).length oc2,.slice qa2 (ztf M rs).length qc2] 65))
 have HNU:=z5 (zso _ _ _ _ _ (HL4.out.below HBA.out) (HO4.out.below HBA.out))
 have HNV:Hid (∀n,Calls Tryz.prog 30 #[_,_] ((x4.alloc (.cells #[.slice oa2 (zrt L B turns rs).length oc2,.slice qa2 (ztf M rs).length qc2] 65)).drewN n) fun e w'=>e=.returned (.bool (decide (ztf M rs=ztf M rs)))/\∃m,w'=((x4.alloc (.cells #[.slice oa2 (zrt L B turns rs).length oc2,.slice qa2 (ztf M rs).length qc2] 65)).drewN n).drewN m):=fun n=>zvw _ _ _ _ _ ((HM4.out.below HBA.out).below (below_draws _ _ n)) ((HQ4.out.below HBA.out).below (below_draws _ _ n))
 rw [decide_eq_true rfl] at HNU HNV
 clear hbx hov hqv l0 l1 l2 t0 t1 t2 t3 t4 t5 t6 k0 k1 k2 s0 s1
 go_wp2_with fail
 refine HNU.out.mono ?_
 rintro e x5 ⟨rfl,n5,rfl⟩
 go_wp2_with fail
 refine (HNV.out n5).mono ?_
 rintro e x6 ⟨rfl,n6,rfl⟩
 go_wp2_with fail
 go_ret
 exact⟨rfl,HW4.out.trans (((below_alloc1 x4 _).trans (below_draws _ _ _)).mono HW4.out.size)⟩
set_option maxRecDepth 8192
theorem zs9 {w wr:World} {x0 x1 x2 s0 s1:Value} {p0 p1 p2 q0 q1 q2 r:Int} {ta tb tc:TypeId} (h:Below (w.heap.size+1+1+1) (((w.alloc (.cells #[x0,x1,x2] ta)).alloc (.cells #[iV p0,iV p1,iV p2,iV q0,iV q1,iV q2,iV r] tb)).alloc (.cells #[s0,s1] tc)) wr) :
  (wr.cell? ⟨w.heap.size,0,none⟩=some x0/\wr.cell? ⟨w.heap.size,1,none⟩=some x1/\wr.cell? ⟨w.heap.size,2,none⟩=some x2) /\
  (wr.cell? ⟨w.heap.size+1,0,none⟩=some (iV p0)/\wr.cell? ⟨w.heap.size+1,1,none⟩=some (iV p1)/\wr.cell? ⟨w.heap.size+1,2,none⟩=some (iV p2)/\wr.cell? ⟨w.heap.size+1,3,none⟩=some (iV q0)/\wr.cell? ⟨w.heap.size+1,4,none⟩=some (iV q1)/\wr.cell? ⟨w.heap.size+1,5,none⟩=some (iV q2)/\wr.cell? ⟨w.heap.size+1,6,none⟩=some (iV r)) /\
  (wr.cell? ⟨w.heap.size+1+1,0,none⟩=some s0/\wr.cell? ⟨w.heap.size+1+1,1,none⟩=some s1)/\w.heap.size+1+1<wr.heap.size/\Below w.heap.size w wr:=by
 have hs:(((w.alloc (.cells #[x0,x1,x2] ta)).alloc (.cells #[iV p0,iV p1,iV p2,iV q0,iV q1,iV q2,iV r] tb)).alloc (.cells #[s0,s1] tc)).heap.size=w.heap.size+1+1+1:=by simp
 have hz:=h.size
 have h':Below (((w.alloc (.cells #[x0,x1,x2] ta)).alloc (.cells #[iV p0,iV p1,iV p2,iV q0,iV q1,iV q2,iV r] tb)).alloc (.cells #[s0,s1] tc)).heap.size (((w.alloc (.cells #[x0,x1,x2] ta)).alloc (.cells #[iV p0,iV p1,iV p2,iV q0,iV q1,iV q2,iV r] tb)).alloc (.cells #[s0,s1] tc)) wr:=by rw [hs];exact h
 refine⟨⟨?_,?_,?_⟩,⟨?_,?_,?_,?_,?_,?_,?_⟩,⟨?_,?_⟩,by omega,(below_alloc3 w _ _ _).trans (h.mono (by omega))⟩
 all_goals rw [zc h' _ _ (by omega)]
 all_goals go_simp
theorem zwi {L:Lp} {t:Tg} {K:Kn} {O:List Int} (h:yv L t K O=true) (hLI:LoopIn L):∀x∈K.ops,I64 x.nn:=by
 intro x hx
 have ht:=ztl h
 obtain⟨k,hk,e⟩:=List.mem_iff_getElem.1 hx
 obtain⟨s,hs,hsk⟩:=ht.hit (k:=k) hk
 obtain⟨hl,-⟩:=zsa h
 obtain⟨-,-,-,-,-,h6⟩:=Zq hl
 have h7:=(ztk (h6 s hs).2).2.2.2.2
 have e2:opJ K O s=x:=by
  unfold opJ
  rw [hsk]
  unfold zq
  rw [List.getD,List.getElem?_eq_getElem hk,e];rfl
 rw [e2] at h7
 rw [h7]
 exact hLI s
set_option maxHeartbeats 8000000 in
theorem zt8 (hB:VZ) (p0 p1 p2 q0 q1 q2 r:Int) (L:Lp) (B M:List (List Int)) (turns:Int) (a0 a1 a2 ba ma:Option Addr) (cap0 cap1 cap2 bc mc:Nat) (w:World) (hL:zk w (.agg #[.slice a0 L.logs.length cap0,.slice a1 L.body.length cap1,.slice a2 L.outs.length cap2]) L) (hBR:YY w (.slice ba B.length bc) B) (hMR:YY w (.slice ma M.length mc) M) (hLI:LoopIn L) :
  Calls Tryz.prog 6 #[.agg #[.slice a0 L.logs.length cap0,.slice a1 L.body.length cap1,.slice a2 L.outs.length cap2],.agg #[iV p0,iV p1,iV p2,iV q0,iV q1,iV q2,iV r],.agg #[.slice ba B.length bc,.slice ma M.length mc],iV turns] w fun e w'=>e=.returned (.bool true)/\Below w.heap.size w w':=by
 have HBC:=z5 (fun W (h1:zk W (.agg #[.slice a0 L.logs.length cap0,.slice a1 L.body.length cap1,.slice a2 L.outs.length cap2]) L)=>hB _ ⟨p0,p1,p2,q0,q1,q2,r⟩ L W h1)
 have HL:=z5 hL
 have HBR:=z5 hBR
 have HMR:=z5 hMR
 have HLI:=z5 hLI
 have HFI:=z5 (fun W (h1:zk W (.agg #[.slice a0 L.logs.length cap0,.slice a1 L.body.length cap1,.slice a2 L.outs.length cap2]) L) (h2:zey W (.agg #[.slice ba B.length bc,.slice ma M.length mc]) B M)=>zvp _ _ L B M W h1 h2)
 have HS:Hid ((((w.alloc (.cells #[.slice a0 L.logs.length cap0,.slice a1 L.body.length cap1,.slice a2 L.outs.length cap2] 25)).alloc (.cells #[iV p0,iV p1,iV p2,iV q0,iV q1,iV q2,iV r] 28)).alloc (.cells #[.slice ba B.length bc,.slice ma M.length mc] 34)).heap.size=w.heap.size+1+1+1):=by show _=_;simp
 obtain⟨mm,hmm⟩:∃mm,(zx L && zp ⟨p0,p1,p2,q0,q1,q2,r⟩)=mm:=⟨_,rfl⟩
 have HMY:=z5 (fun W (h1:zk W (.agg #[.slice a0 L.logs.length cap0,.slice a1 L.body.length cap1,.slice a2 L.outs.length cap2]) L)=>hmm ▸ Yk p0 p1 p2 q0 q1 q2 r L a0 a1 a2 cap0 cap1 cap2 W h1)
 have HMM:=z5 hmm
 have HBZ:=z5 (below_alloc3 w (.cells #[.slice a0 L.logs.length cap0,.slice a1 L.body.length cap1,.slice a2 L.outs.length cap2] 25) (.cells #[iV p0,iV p1,iV p2,iV q0,iV q1,iV q2,iV r] 28) (.cells #[.slice ba B.length bc,.slice ma M.length mc] 34))
 clear hL hBR hMR hLI hmm
 go_enter Tryz.func6,Tryz.ntmps6
 go_wp2_with fail
 refine (HMY.out _ (HL.out.below HBZ.out)).mono ?_
 rintro e x1 ⟨rfl,hbx⟩
 have hb1:Below (w.heap.size+1+1+1) (((w.alloc (.cells #[.slice a0 L.logs.length cap0,.slice a1 L.body.length cap1,.slice a2 L.outs.length cap2] 25)).alloc (.cells #[iV p0,iV p1,iV p2,iV q0,iV q1,iV q2,iV r] 28)).alloc (.cells #[.slice ba B.length bc,.slice ma M.length mc] 34)) x1:=by rw [<-HS.out];exact hbx
 have HB1:=z5 hb1
 obtain⟨⟨l0,l1,l2⟩,⟨t0,t1,t2,t3,t4,t5,t6⟩,⟨s0,s1⟩,hz,hbw⟩:=zs9 hb1
 have HW1:=z5 hbw
 clear hbx hb1 hbw
 cases mm with
 | false =>
   go_wp2_with fail
   go_ret
   exact⟨rfl,HW1.out⟩
 | true =>
   have HFI2:=z5 (HFI.out x1 (HL.out.below HW1.out) ⟨_,_,rfl,HBR.out.below HW1.out,HMR.out.below HW1.out⟩)
   obtain⟨ff,hff⟩:∃ff,zrx L B M=ff:=⟨_,rfl⟩
   rw [hff] at HFI2
   have HFF:=z5 hff
   clear hff
   go_wp2_with fail
   refine HFI2.out.mono ?_
   rintro e x2 ⟨rfl,hbx⟩
   have HB2:=z5 (HB1.out.trans (hbx.mono (by omega)))
   clear l0 l1 l2 t0 t1 t2 t3 t4 t5 t6 s0 s1 hz
   obtain⟨⟨l0,l1,l2⟩,⟨t0,t1,t2,t3,t4,t5,t6⟩,⟨s0,s1⟩,hz,hbw⟩:=zs9 HB2.out
   have HW2:=z5 hbw
   clear hbx hbw
   cases ff with
   | false =>
     go_wp2_with fail
     go_ret
     exact⟨rfl,HW2.out⟩
   | true =>
     by_cases ht0:turns<0
     ·go_wp2_with fail
      go_ret
      exact⟨rfl,HW2.out⟩
     ·by_cases ht1:200<turns
      ·go_wp2_with fail
       go_ret
       exact⟨rfl,HW2.out⟩
      ·go_wp2_with fail
       refine (HBC.out _ (HL.out.below HW2.out)).mono ?_
       rintro e x3 ⟨hbx,k0,k1,kv,oa,ol,oc,c,rfl,-,hyes⟩
       have HB3:=z5 (HB2.out.trans (hbx.mono (by omega)))
       clear l0 l1 l2 t0 t1 t2 t3 t4 t5 t6 s0 s1 hz
       obtain⟨⟨l0,l1,l2⟩,⟨t0,t1,t2,t3,t4,t5,t6⟩,⟨s0,s1⟩,hz,hbw⟩:=zs9 HB3.out
       have HW3:=z5 hbw
       have hza:w.heap.size<x3.heap.size:=by omega
       have hzb:w.heap.size+1<x3.heap.size:=by omega
       have hyes:=hyes HMM.out
       clear hbx hbw
       rcases hyes with ⟨rfl,hlt,rfl,hk⟩ | ⟨rfl,K,O,hk,hO,htk,-⟩
       ·have hlt:r<5*(L.body.length:Int):=hlt
        obtain⟨kl,hkl,ka,kc,rfl,-⟩:=hk
        simp only [Value.agg.injEq,Array.mk.injEq,List.cons.injEq,and_true] at hkl
        obtain⟨-,-,rfl⟩:=hkl
        have hm2:zx L=true/\zp ⟨p0,p1,p2,q0,q1,q2,r⟩=true:=by have h:=HMM.out;simpa using h
        have h16:=(zj hm2.1).2.2.1
        clear hm2
        go_wp2_with fail
        go_ret
        exact⟨by simp,HW3.out.trans ((below_alloc1 x3 _).mono HW3.out.size)⟩
       ·obtain⟨oa2,oc2,hos,-⟩:=id hO
        injection hos with e1 e2 e3
        subst e1;subst e2;subst e3
        obtain⟨kl,hkl,hops⟩:=id hk
        simp only [Value.agg.injEq,Array.mk.injEq,List.cons.injEq,and_true] at hkl
        obtain⟨hk0,hk1,rfl⟩:=hkl
        injection hk0 with _ hk0
        injection hk1 with _ hk1
        obtain⟨ka,kc,rfl,-⟩:=id hops
        have HK3:=z5 hops
        have HO3:=z5 hO
        obtain⟨pc,st,ops⟩:=K
        dsimp only at *
        subst hk0;subst hk1
        have htnn:=zwi htk HLI.out
        obtain⟨hlay,-⟩:=zsa htk
        obtain⟨-,hmt,hmk,-⟩:=Zq hlay
        obtain⟨-,-,-,hr1,hr2⟩:=yi hmt
        have hr1:1<=r:=hr1
        obtain⟨hhl,hlg⟩:=zto HFF.out
        have HLY:=z5 (fun W (h1:zk W (.agg #[.slice a0 L.logs.length cap0,.slice a1 L.body.length cap1,.slice a2 L.outs.length cap2]) L) (h2:Xz W (.slice ka ops.length kc) ops) (h3:yf W (.slice oa O.length oc) O)=>zfj _ _ _ ⟨p0,p1,p2,q0,q1,q2,r⟩ L ⟨k0,k1,ops⟩ O W h1 ⟨_,rfl,h2⟩ h3)
        have HWK:Hid (∀W,Calls Tryz.prog 11 #[.agg #[iV k0,iV k1,.slice ka ops.length kc],iV turns] W fun e w'=>e=.returned (.bool (decide (20000<(turns+k1)*k0)))/\Below W.heap.size W w'):=fun W=>zwl ⟨p0,p1,p2,q0,q1,q2,r⟩ ⟨k0,k1,ops⟩ r.toNat M turns (.slice ka ops.length kc) W (by
         unfold zt1
         rw [if_pos ⟨hhl,by rw [hlg];exact hmk,by show ((r.toNat:Nat):Int)=r;omega⟩,if_pos (by omega)])
        have HDO:Hid (∀W,zk W (.agg #[.slice a0 L.logs.length cap0,.slice a1 L.body.length cap1,.slice a2 L.outs.length cap2]) L->Xz W (.slice ka ops.length kc) ops->yf W (.slice oa O.length oc) O->YY W (.slice ba B.length bc) B->YY W (.slice ma M.length mc) M->Calls Tryz.prog 12 #[.agg #[.slice a0 L.logs.length cap0,.slice a1 L.body.length cap1,.slice a2 L.outs.length cap2],.agg #[iV p0,iV p1,iV p2,iV q0,iV q1,iV q2,iV r],.agg #[iV k0,iV k1,.slice ka ops.length kc],.slice oa O.length oc,.agg #[.slice ba B.length bc,.slice ma M.length mc],iV turns] W fun e w'=>e=.returned (.bool true)/\Below W.heap.size W w'):=fun W g1 g2 g3 g4 g5=>by
         obtain⟨tn,rfl⟩:=Int.eq_ofNat_of_zero_le (show 0<=turns by omega)
         exact zv9 p0 p1 p2 q0 q1 q2 r k0 k1 ops L O B M tn a0 a1 a2 ka oa ba ma cap0 cap1 cap2 kc oc bc mc W g1 g2 g3 g4 g5 htk HFF.out (by omega) HLI.out htnn
        have HLAY:=z5 hlay
        have HBA:=z5 (below_alloc1 x3 (.cells #[iV k0,iV k1,.slice ka ops.length kc] 31))
        have HWA:=z5 (HW3.out.trans (HBA.out.mono HW3.out.size))
        obtain⟨wk,hwk⟩:∃wk,decide (20000<(turns+k1)*k0)=wk:=⟨_,rfl⟩
        rw [hwk] at HWK
        clear hk hO htk hops htnn hlay hmt hmk hhl hlg hwk
        go_wp2_with fail
        refine (HLY.out _ (HL.out.below HWA.out) (HK3.out.below HBA.out) (HO3.out.below HBA.out)).mono ?_
        rintro e x4 ⟨hbx,hyes,-⟩
        obtain⟨xa,xc,rfl,-⟩:=hyes HLAY.out
        have d0:x4.cell? ⟨x3.heap.size,0,none⟩=some (iV k0):=by rw [zc hbx _ _ (by simp)];go_simp
        have d1:x4.cell? ⟨x3.heap.size,1,none⟩=some (iV k1):=by rw [zc hbx _ _ (by simp)];go_simp
        have d2:x4.cell? ⟨x3.heap.size,2,none⟩=some (.slice ka ops.length kc):=by rw [zc hbx _ _ (by simp)];go_simp
        have hx34:x3.heap.size<x4.heap.size:=by have:=hbx.size;simp at this;omega
        have HX34:=z5 (HBA.out.trans (hbx.mono (by simp)))
        have HB4:=z5 (HB3.out.trans (HX34.out.mono (by omega)))
        clear l0 l1 l2 t0 t1 t2 t3 t4 t5 t6 s0 s1 hz
        obtain⟨⟨l0,l1,l2⟩,⟨t0,t1,t2,t3,t4,t5,t6⟩,⟨s0,s1⟩,hz,hbw⟩:=zs9 HB4.out
        have HW4:=z5 hbw
        clear hbx hbw hyes
        go_wp2_with fail
        refine (HWK.out _).mono ?_
        rintro e x5 ⟨rfl,hbx⟩
        rw [<-zc hbx _ _ hx34] at d0 d1 d2
        have HX35:=z5 (HX34.out.trans (hbx.mono (by omega)))
        have HB5:=z5 (HB4.out.trans (hbx.mono (by omega)))
        have hx45:=hbx.size
        clear l0 l1 l2 t0 t1 t2 t3 t4 t5 t6 s0 s1 hz
        obtain⟨⟨l0,l1,l2⟩,⟨t0,t1,t2,t3,t4,t5,t6⟩,⟨s0,s1⟩,hz,hbw⟩:=zs9 HB5.out
        have HW5:=z5 hbw
        have hx35:x3.heap.size<x5.heap.size:=by omega
        clear hbx hbw
        cases wk with
        | true =>
          go_wp2_with fail
          go_ret
          exact⟨rfl,HW5.out⟩
        | false =>
          go_wp2_with fail
          refine (HDO.out _ (HL.out.below HW5.out) (HK3.out.below HX35.out) (HO3.out.below HX35.out) (HBR.out.below HW5.out) (HMR.out.below HW5.out)).mono ?_
          rintro e x6 ⟨rfl,hbx⟩
          have HW6:=z5 (HW5.out.trans (hbx.mono HW5.out.size))
          clear hbx l0 l1 l2 t0 t1 t2 t3 t4 t5 t6 s0 s1
          go_wp2_with fail
          go_ret
          exact⟨rfl,HW6.out⟩
theorem buildSame_any (hB:VZ) (v sv:Value) (t:Tg) (L:Lp) (B M:List (List Int)) (turns:Int) (w:World) (hL:zk w v L) (hS:zey w sv B M) (hLI:LoopIn L):Calls Tryz.prog 6 #[v,.agg t.cells,sv,iV turns] w fun e w'=>e=.returned (.bool true)/\Below w.heap.size w w':=by
 have hL':=hL
 obtain⟨v0,v1,v2,rfl,⟨a0,cap0,rfl,-⟩,⟨a1,cap1,rfl,-⟩,⟨a2,cap2,rfl,-⟩⟩:=hL'
 obtain⟨b0,m0,rfl,hBR,hMR⟩:=hS
 have hB':=hBR
 obtain⟨ba,bc,rfl,-⟩:=hB'
 have hM':=hMR
 obtain⟨ma,mc,rfl,-⟩:=hM'
 obtain⟨p0,p1,p2,q0,q1,q2,r⟩:=t
 exact zt8 hB p0 p1 p2 q0 q1 q2 r L B M turns a0 a1 a2 ba ma cap0 cap1 cap2 bc mc w hL hBR hMR hLI
end Go.Proofs.YtjoapiafpahihabGreat
