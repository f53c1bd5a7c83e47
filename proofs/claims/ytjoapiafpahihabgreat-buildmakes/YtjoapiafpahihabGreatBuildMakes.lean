import Derived.Test.YtjoapiafpahihabGreatRef10Takes
import Derived.Test.YtjoapiafpahihabGreatKernS
import Derived.Test.YtjoapiafpahihabGreatRef67
import Derived.Test.YtjoapiafpahihabGreatRef8A
import Derived.Test.YtjoapiafpahihabGreatBase
namespace Go.Proofs.YtjoapiafpahihabGreat
open Go.RowKit Go.Joins
set_option linter.unusedVariables false
set_option linter.unusedSimpArgs false
set_option maxRecDepth 8192
def VZ:Prop:=∀(v:Value) (t:Tg) (L:Lp) (w:World),zk w v L ->
 Calls Tryz.prog 19 #[v,.agg t.cells] w fun e w'=>Below w.heap.size w w'/\∃k0 k1 kv oa ol oc c,e=.returned (.tuple #[.agg #[iV k0,iV k1,kv],.slice oa ol oc,iV c]) /\
  ((zx L && zp t)=false->c=2/\ol=0/\xh w' (.agg #[iV k0,iV k1,kv]) ⟨0,0,[]⟩) /\
  ((zx L && zp t)=true->(c=1/\t.r<5*(L.body.length:Int)/\ol=0/\xh w' (.agg #[iV k0,iV k1,kv]) ⟨0,0,[]⟩)\/(c=0/\∃K O,xh w' (.agg #[iV k0,iV k1,kv]) K/\yf w' (.slice oa ol oc) O/\yv L t K O=true/\(xP L t:Int)<=K.pc/\(xi L t:Int)<=K.pc/\K.pc<=Zm L t/\K.st*K.pc<=1200))
set_option maxHeartbeats 8000000 in
theorem UQ (hB:VZ) (p0 p1 p2 q0 q1 q2 r:Int) (L:Lp) (a0 a1 a2:Option Addr) (cap0 cap1 cap2:Nat) (w:World) (hL:zk w (.agg #[.slice a0 L.logs.length cap0,.slice a1 L.body.length cap1,.slice a2 L.outs.length cap2]) L) (hmm:(zx L && zp ⟨p0,p1,p2,q0,q1,q2,r⟩)=false):Calls Tryz.prog 5 #[.agg #[.slice a0 L.logs.length cap0,.slice a1 L.body.length cap1,.slice a2 L.outs.length cap2],.agg #[iV p0,iV p1,iV p2,iV q0,iV q1,iV q2,iV r]] w fun e w'=>e=.returned (.bool true)/\Below w.heap.size w w':=by
 have HBC:=z5 (fun W (h1:zk W (.agg #[.slice a0 L.logs.length cap0,.slice a1 L.body.length cap1,.slice a2 L.outs.length cap2]) L)=>hB _ ⟨p0,p1,p2,q0,q1,q2,r⟩ L W h1)
 have HMY:=z5 (fun W (h1:zk W (.agg #[.slice a0 L.logs.length cap0,.slice a1 L.body.length cap1,.slice a2 L.outs.length cap2]) L)=>hmm ▸ Yk p0 p1 p2 q0 q1 q2 r L a0 a1 a2 cap0 cap1 cap2 W h1)
 have HMM:=z5 hmm
 have HL:=z5 hL
 have HS:Hid (((w.alloc (.cells #[.slice a0 L.logs.length cap0,.slice a1 L.body.length cap1,.slice a2 L.outs.length cap2] 25)).alloc (.cells #[iV p0,iV p1,iV p2,iV q0,iV q1,iV q2,iV r] 28)).heap.size=w.heap.size+1+1):=by show _=_;simp
 clear hL hmm
 go_enter Tryz.func5,Tryz.ntmps5
 go_wp2_with fail
 refine (HBC.out _ (HL.out.below (below_alloc2 _ _ _))).mono ?_
 rintro e x1 ⟨hbx,k0,k1,kv,oa,ol,oc,c,rfl,hno,hyes⟩
 have HB1:Hid (Below (w.heap.size+1+1) ((w.alloc (.cells #[.slice a0 L.logs.length cap0,.slice a1 L.body.length cap1,.slice a2 L.outs.length cap2] 25)).alloc (.cells #[iV p0,iV p1,iV p2,iV q0,iV q1,iV q2,iV r] 28)) x1):=by show Below _ _ _;rw [<-HS.out];exact hbx
 have HNO:=z5 hno
 have HYES:=z5 hyes
 obtain⟨⟨l0,l1,l2⟩,⟨t0,t1,t2,t3,t4,t5,t6⟩,z0,z1,hbw⟩:=zI HB1.out
 have HW1:=z5 hbw
 clear hbx hbw hno hyes
 obtain⟨rfl,rfl,hk⟩:=HNO.out HMM.out
 obtain⟨K,hKe⟩:∃K:Kn,K=⟨0,0,[]⟩:=⟨_,rfl⟩
 rw [<-hKe] at hk
 obtain⟨kl,hkl,ka,kc,rfl,-⟩:=id hk
 simp only [Value.agg.injEq,Array.mk.injEq,List.cons.injEq,and_true] at hkl
 obtain⟨hk0,hk1,rfl⟩:=hkl
 have HK1:=z5 hk
 have HKE:=z5 hKe
 clear hk hk0 hk1 hKe
 have HBA:=z5 (below_alloc1 x1 (.cells #[iV k0,iV k1,.slice ka K.ops.length kc] 31))
 have HWA:=z5 (HW1.out.trans (HBA.out.mono HW1.out.size))
 go_wp2_with fail
 refine (HMY.out _ (HL.out.below HWA.out)).mono ?_
 rintro e x2 ⟨rfl,hbx⟩
 have hx1:x1.heap.size<x2.heap.size:=by have:=hbx.size;simp at this;omega
 have d0:x2.cell? ⟨x1.heap.size,0,none⟩=some (iV k0):=by rw [zc hbx _ _ (by simp)];go_simp
 have d1:x2.cell? ⟨x1.heap.size,1,none⟩=some (iV k1):=by rw [zc hbx _ _ (by simp)];go_simp
 have d2:x2.cell? ⟨x1.heap.size,2,none⟩=some (.slice ka K.ops.length kc):=by rw [zc hbx _ _ (by simp)];go_simp
 have HX12:=z5 (HBA.out.trans (hbx.mono (by simp)))
 have HB2:=z5 (HB1.out.trans (HX12.out.mono (by omega)))
 clear l0 l1 l2 t0 t1 t2 t3 t4 t5 t6 z0 z1
 obtain⟨⟨l0,l1,l2⟩,⟨t0,t1,t2,t3,t4,t5,t6⟩,z0,z1,hbw⟩:=zI HB2.out
 have HW2:=z5 hbw
 clear hbx hbw
 have HSM:=z5 (zak _ (.agg #[iV 0,iV 0,.slice none 0 0]) K x2 (HK1.out.below HX12.out) ⟨_,by rw [HKE.out],none,0,by rw [HKE.out];rfl,by rw [HKE.out];exact Nat.le_refl _,Nat.zero_le _,fun h=>absurd h (by rw [HKE.out];exact Nat.lt_irrefl _)⟩)
 go_wp2_with fail
 refine HSM.out.mono ?_
 rintro e x3 ⟨rfl,hbx⟩
 have HW3:=z5 (HW2.out.trans (hbx.mono HW2.out.size))
 clear hbx l0 l1 l2 t0 t1 t2 t3 t4 t5 t6
 go_wp2_with fail
 go_ret
 exact⟨rfl,HW3.out⟩
set_option maxHeartbeats 8000000 in
set_option maxRecDepth 100000 in
theorem U5 (hB:VZ) (p0 p1 p2 q0 q1 q2 r:Int) (L:Lp) (a0 a1 a2:Option Addr) (cap0 cap1 cap2:Nat) (w:World) (hL:zk w (.agg #[.slice a0 L.logs.length cap0,.slice a1 L.body.length cap1,.slice a2 L.outs.length cap2]) L) (hmm:(zx L && zp ⟨p0,p1,p2,q0,q1,q2,r⟩)=true):Calls Tryz.prog 5 #[.agg #[.slice a0 L.logs.length cap0,.slice a1 L.body.length cap1,.slice a2 L.outs.length cap2],.agg #[iV p0,iV p1,iV p2,iV q0,iV q1,iV q2,iV r]] w fun e w'=>e=.returned (.bool true)/\Below w.heap.size w w':=by
 have hm2:zx L=true/\zp ⟨p0,p1,p2,q0,q1,q2,r⟩=true:=by simpa using hmm
 have HUN:=z5 (fun W (h:zk W (.agg #[.slice a0 L.logs.length cap0,.slice a1 L.body.length cap1,.slice a2 L.outs.length cap2]) L)=>zgs ⟨p0,p1,p2,q0,q1,q2,r⟩ L _ W h hm2.1 hm2.2)
 have HLT:=z5 (fun W (h:zk W (.agg #[.slice a0 L.logs.length cap0,.slice a1 L.body.length cap1,.slice a2 L.outs.length cap2]) L)=>zfk ⟨p0,p1,p2,q0,q1,q2,r⟩ L _ W h hm2.1)
 have HAL:=z5 (fun W (h:zk W (.agg #[.slice a0 L.logs.length cap0,.slice a1 L.body.length cap1,.slice a2 L.outs.length cap2]) L)=>zod ⟨p0,p1,p2,q0,q1,q2,r⟩ L _ W h hm2.1 hm2.2)
 have h16:=(zj hm2.1).2.2.1
 clear hm2
 have HBC:=z5 (fun W (h1:zk W (.agg #[.slice a0 L.logs.length cap0,.slice a1 L.body.length cap1,.slice a2 L.outs.length cap2]) L)=>hB _ ⟨p0,p1,p2,q0,q1,q2,r⟩ L W h1)
 have HMY:=z5 (fun W (h1:zk W (.agg #[.slice a0 L.logs.length cap0,.slice a1 L.body.length cap1,.slice a2 L.outs.length cap2]) L)=>hmm ▸ Yk p0 p1 p2 q0 q1 q2 r L a0 a1 a2 cap0 cap1 cap2 W h1)
 have HMM:=z5 hmm
 have HL:=z5 hL
 have HS:Hid (((w.alloc (.cells #[.slice a0 L.logs.length cap0,.slice a1 L.body.length cap1,.slice a2 L.outs.length cap2] 25)).alloc (.cells #[iV p0,iV p1,iV p2,iV q0,iV q1,iV q2,iV r] 28)).heap.size=w.heap.size+1+1):=by show _=_;simp
 clear hL hmm
 go_enter Tryz.func5,Tryz.ntmps5
 go_wp2_with fail
 refine (HBC.out _ (HL.out.below (below_alloc2 _ _ _))).mono ?_
 rintro e x1 ⟨hbx,k0,k1,kv,oa,ol,oc,c,rfl,hno,hyes⟩
 have HB1:Hid (Below (w.heap.size+1+1) ((w.alloc (.cells #[.slice a0 L.logs.length cap0,.slice a1 L.body.length cap1,.slice a2 L.outs.length cap2] 25)).alloc (.cells #[iV p0,iV p1,iV p2,iV q0,iV q1,iV q2,iV r] 28)) x1):=by show Below _ _ _;rw [<-HS.out];exact hbx
 have HNO:=z5 hno
 have HYES:=z5 hyes
 obtain⟨⟨l0,l1,l2⟩,⟨t0,t1,t2,t3,t4,t5,t6⟩,z0,z1,hbw⟩:=zI HB1.out
 have HW1:=z5 hbw
 clear hbx hbw hno hyes
 rcases HYES.out HMM.out with ⟨rfl,hlt,rfl,hk⟩ | ⟨rfl,K,O,hk,hO,htk,hp1,hp2,hp3,-⟩
 ·obtain⟨K,hKe⟩:∃K:Kn,K=⟨0,0,[]⟩:=⟨_,rfl⟩
  rw [<-hKe] at hk
  obtain⟨kl,hkl,ka,kc,rfl,-⟩:=id hk
  simp only [Value.agg.injEq,Array.mk.injEq,List.cons.injEq,and_true] at hkl
  obtain⟨hk0,hk1,rfl⟩:=hkl
  have HK1:=z5 hk
  have HKE:=z5 hKe
  have hlt:r<5*(L.body.length:Int):=hlt
  clear hk hk0 hk1 hKe
  have HBA:=z5 (below_alloc1 x1 (.cells #[iV k0,iV k1,.slice ka K.ops.length kc] 31))
  have HWA:=z5 (HW1.out.trans (HBA.out.mono HW1.out.size))
  go_wp2_with fail
  refine (HMY.out _ (HL.out.below HWA.out)).mono ?_
  rintro e x2 ⟨rfl,hbx⟩
  have hx1:x1.heap.size<x2.heap.size:=by have:=hbx.size;simp at this;omega
  have d0:x2.cell? ⟨x1.heap.size,0,none⟩=some (iV k0):=by rw [zc hbx _ _ (by simp)];go_simp
  have d1:x2.cell? ⟨x1.heap.size,1,none⟩=some (iV k1):=by rw [zc hbx _ _ (by simp)];go_simp
  have d2:x2.cell? ⟨x1.heap.size,2,none⟩=some (.slice ka K.ops.length kc):=by rw [zc hbx _ _ (by simp)];go_simp
  have HX12:=z5 (HBA.out.trans (hbx.mono (by simp)))
  have HB2:=z5 (HB1.out.trans (HX12.out.mono (by omega)))
  clear l0 l1 l2 t0 t1 t2 t3 t4 t5 t6 z0 z1
  obtain⟨⟨l0,l1,l2⟩,⟨t0,t1,t2,t3,t4,t5,t6⟩,z0,z1,hbw⟩:=zI HB2.out
  have HW2:=z5 hbw
  clear hbx hbw
  have HSM:=z5 (zak _ (.agg #[iV 0,iV 0,.slice none 0 0]) K x2 (HK1.out.below HX12.out) ⟨_,by rw [HKE.out],none,0,by rw [HKE.out];rfl,by rw [HKE.out];exact Nat.le_refl _,Nat.zero_le _,fun h=>absurd h (by rw [HKE.out];exact Nat.lt_irrefl _)⟩)
  go_wp2_with fail
  refine HSM.out.mono ?_
  rintro e x3 ⟨rfl,hbx⟩
  have HW3:=z5 (HW2.out.trans (hbx.mono HW2.out.size))
  clear hbx l0 l1 l2 t0 t1 t2 t3 t4 t5 t6
  go_wp2_with fail
  go_ret
  exact⟨rfl,HW3.out⟩
 ·obtain⟨oa2,oc2,hos,-⟩:=id hO
  injection hos with e1 e2 e3
  subst e1;subst e2;subst e3
  obtain⟨kl,hkl,ka,kc,rfl,-⟩:=id hk
  simp only [Value.agg.injEq,Array.mk.injEq,List.cons.injEq,and_true] at hkl
  obtain⟨hk0,hk1,rfl⟩:=hkl
  have HK1:=z5 hk
  have HO1:=z5 hO
  have HTK:=z5 htk
  have hpk:K.pc=k0:=by
   injection hk0 with _ h
   exact h.symm
  rw [hpk] at hp1 hp2 hp3
  generalize xP L ⟨p0,p1,p2,q0,q1,q2,r⟩=ub at *
  generalize xi L ⟨p0,p1,p2,q0,q1,q2,r⟩=rb at *
  generalize Zm L ⟨p0,p1,p2,q0,q1,q2,r⟩=aw at *
  clear hk hO htk hk0 hk1 hpk
  have HBA:=z5 (below_alloc1 x1 (.cells #[iV k0,iV k1,.slice ka K.ops.length kc] 31))
  have HWA:=z5 (HW1.out.trans (HBA.out.mono HW1.out.size))
  go_wp2_with fail
  refine (HMY.out _ (HL.out.below HWA.out)).mono ?_
  rintro e x2 ⟨rfl,hbx⟩
  have hx1:x1.heap.size<x2.heap.size:=by have:=hbx.size;simp at this;omega
  have d0:x2.cell? ⟨x1.heap.size,0,none⟩=some (iV k0):=by rw [zc hbx _ _ (by simp)];go_simp
  have d1:x2.cell? ⟨x1.heap.size,1,none⟩=some (iV k1):=by rw [zc hbx _ _ (by simp)];go_simp
  have d2:x2.cell? ⟨x1.heap.size,2,none⟩=some (.slice ka K.ops.length kc):=by rw [zc hbx _ _ (by simp)];go_simp
  have HX12:=z5 (HBA.out.trans (hbx.mono (by simp)))
  have HB2:=z5 (HB1.out.trans (HX12.out.mono (by omega)))
  clear l0 l1 l2 t0 t1 t2 t3 t4 t5 t6 z0 z1
  obtain⟨⟨l0,l1,l2⟩,⟨t0,t1,t2,t3,t4,t5,t6⟩,z0,z1,hbw⟩:=zI HB2.out
  have HW2:=z5 hbw
  clear hbx hbw
  have HTA:=z5 (zkj _ _ _ ⟨p0,p1,p2,q0,q1,q2,r⟩ L K O x2 (HL.out.below HW2.out) (HK1.out.below HX12.out) (HO1.out.below HX12.out))
  rw [HTK.out] at HTA
  go_wp2_with fail
  refine HTA.out.mono ?_
  rintro e x3 ⟨rfl,hbx⟩
  have HB3:=z5 (HB2.out.trans (hbx.mono (by omega)))
  have HX13:=z5 (HX12.out.trans (hbx.mono (by omega)))
  rw [<-zc hbx _ _ hx1] at d0
  have hx3:=hbx.size
  clear l0 l1 l2 t0 t1 t2 t3 t4 t5 t6 z0 z1 d1 d2
  obtain⟨⟨l0,l1,l2⟩,⟨t0,t1,t2,t3,t4,t5,t6⟩,z0,z1,hbw⟩:=zI HB3.out
  have HW3:=z5 hbw
  have HSS:Hid (∀w':World,Below x3.heap.size x3 w'->(w'.cell? ⟨w.heap.size,0,none⟩=some (.slice a0 L.logs.length cap0)/\w'.cell? ⟨w.heap.size,1,none⟩=some (.slice a1 L.body.length cap1)/\w'.cell? ⟨w.heap.size,2,none⟩=some (.slice a2 L.outs.length cap2))/\w'.cell? ⟨w.heap.size+1,0,none⟩=some (iV p0)/\w'.cell? ⟨w.heap.size+1,1,none⟩=some (iV p1)/\w'.cell? ⟨w.heap.size+1,2,none⟩=some (iV p2)/\w'.cell? ⟨w.heap.size+1,3,none⟩=some (iV q0)/\w'.cell? ⟨w.heap.size+1,4,none⟩=some (iV q1)/\w'.cell? ⟨w.heap.size+1,5,none⟩=some (iV q2)/\w'.cell? ⟨w.heap.size+1,6,none⟩=some (iV r)/\w'.cell? ⟨x1.heap.size,0,none⟩=some (iV k0)):=by
   intro w' h
   refine⟨⟨?_,?_,?_⟩,?_,?_,?_,?_,?_,?_,?_,?_⟩
   all_goals (rw [zc h _ _ (by omega)];assumption)
  clear hbx hbw
  go_wp2_with fail
  refine wp_region_noPanic ?_
  refine ze 99 (fun w'=>(w'.cell? ⟨w.heap.size,0,none⟩=some (.slice a0 L.logs.length cap0)/\w'.cell? ⟨w.heap.size,1,none⟩=some (.slice a1 L.body.length cap1)/\w'.cell? ⟨w.heap.size,2,none⟩=some (.slice a2 L.outs.length cap2))/\w'.cell? ⟨w.heap.size+1,0,none⟩=some (iV p0)/\w'.cell? ⟨w.heap.size+1,1,none⟩=some (iV p1)/\w'.cell? ⟨w.heap.size+1,2,none⟩=some (iV p2)/\w'.cell? ⟨w.heap.size+1,3,none⟩=some (iV q0)/\w'.cell? ⟨w.heap.size+1,4,none⟩=some (iV q1)/\w'.cell? ⟨w.heap.size+1,5,none⟩=some (iV q2)/\w'.cell? ⟨w.heap.size+1,6,none⟩=some (iV r)/\w'.cell? ⟨x1.heap.size,0,none⟩=some (iV k0)) (by kernel_rfl) (HSS.out _ (below_draws _ _ 1)) (fun hHeld=>?_)
  refine utk (i:=0) rfl hHeld ?_
  refine utk (i:=1) rfl hHeld ?_
  refine utk (i:=2) rfl hHeld ?_
  refine utk (i:=3) rfl hHeld ?_
  refine z9 (i:=4) rfl (by kernel_rfl) (fun K hK9=>?_)
  go_simp
  refine (HUN.out _ (HL.out.below (HW3.out.trans (below_draws _ _ 1)))).mono ?_
  rintro e y1 ⟨rfl,hy⟩
  have HY1:=z5 ((below_draws x3.heap.size x3 1).trans (show Below x3.heap.size x3.drew y1 from hy))
  have hHeld:=HSS.out _ HY1.out
  clear hy
  refine nxt hK9.out (.inr hHeld) ?_
  clear hK9 K
  refine utk (i:=5) rfl hHeld ?_
  refine utk (i:=6) rfl hHeld ?_
  refine utk (i:=7) rfl hHeld ?_
  refine utk (i:=8) rfl hHeld ?_
  refine utk (i:=9) rfl hHeld ?_
  refine utk (i:=10) rfl hHeld ?_
  refine z9 (i:=11) rfl (by kernel_rfl) (fun K hK9=>?_)
  go_simp
  refine (HLT.out _ (HL.out.below (HW3.out.trans (HY1.out.mono HW3.out.size)))).mono ?_
  rintro e y2 ⟨rfl,hy⟩
  have HY2:=z5 (HY1.out.trans (hy.mono HY1.out.size))
  have hHeld:=HSS.out _ HY2.out
  clear hy
  refine nxt hK9.out (.inr hHeld) ?_
  clear hK9 K
  refine utk (i:=12) rfl hHeld ?_
  refine utk (i:=13) rfl hHeld ?_
  refine utk (i:=14) rfl hHeld ?_
  refine utk (i:=15) rfl hHeld ?_
  refine utk (i:=16) rfl hHeld ?_
  refine utk (i:=17) rfl hHeld ?_
  refine utk (i:=18) rfl hHeld ?_
  refine z9 (i:=19) rfl (by kernel_rfl) (fun K hK9=>?_)
  go_simp
  refine (HAL.out _ (HL.out.below (HW3.out.trans (HY2.out.mono HW3.out.size)))).mono ?_
  rintro e y3 ⟨rfl,hy⟩
  have HY3:=z5 (HY2.out.trans (hy.mono HY2.out.size))
  have hHeld:=HSS.out _ HY3.out
  clear hy
  refine nxt hK9.out (.inr hHeld) ?_
  clear hK9 K
  refine utk (i:=20) rfl hHeld ?_
  refine utk (i:=21) rfl hHeld ?_
  refine utk (i:=22) rfl hHeld ?_
  refine zf (by kernel_rfl) ?_ _
  refine NoPanic.normal ?_
  clear hHeld
  go_wp2_with fail
  go_ret
  exact⟨rfl,HW3.out.trans (HY3.out.mono HW3.out.size)⟩
theorem buildMakes_any (hB:VZ) (v:Value) (t:Tg) (L:Lp) (w:World) (hL:zk w v L):Calls Tryz.prog 5 #[v,.agg t.cells] w fun e w'=>e=.returned (.bool true)/\Below w.heap.size w w':=by
 have hL':=hL
 obtain⟨v0,v1,v2,rfl,⟨a0,cap0,rfl,-⟩,⟨a1,cap1,rfl,-⟩,⟨a2,cap2,rfl,-⟩⟩:=hL'
 obtain⟨p0,p1,p2,q0,q1,q2,r⟩:=t
 cases h:(zx L && zp ⟨p0,p1,p2,q0,q1,q2,r⟩) with
 | false=>exact UQ hB p0 p1 p2 q0 q1 q2 r L a0 a1 a2 cap0 cap1 cap2 w hL h
 | true=>exact U5 hB p0 p1 p2 q0 q1 q2 r L a0 a1 a2 cap0 cap1 cap2 w hL h
end Go.Proofs.YtjoapiafpahihabGreat
