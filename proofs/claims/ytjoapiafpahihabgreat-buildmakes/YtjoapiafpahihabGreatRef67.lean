import Derived.Test.YtjoapiafpahihabGreatRef6Is
import Derived.Test.YtjoapiafpahihabGreatRounds
import Derived.Test.YtjoapiafpahihabGreatRef2L
import Derived.Test.YtjoapiafpahihabGreatBase
import Derived.Deep.QuietTactic
import Derived.BigQuiet
namespace Go.Proofs.YtjoapiafpahihabGreat
open Go.RowKit Go.Joins
set_option linter.unusedVariables false
theorem Tryz.i100:(Tryz.prog.info? 100).map (fun i=>(i.zero,i.size,i.bytes))=some (some (.agg #[iV 0,iV 0,iV 0,iV 0]),4,32):=by kernel_rfl
theorem zI {w wr:World} {v0 v1 v2:Value} {p0 p1 p2 q0 q1 q2 r:Int} {ta tb:TypeId} (h:Below (w.heap.size+1+1) ((w.alloc (.cells #[v0,v1,v2] ta)).alloc (.cells #[iV p0,iV p1,iV p2,iV q0,iV q1,iV q2,iV r] tb)) wr) :
  (wr.cell? ⟨w.heap.size,0,none⟩=some v0/\wr.cell? ⟨w.heap.size,1,none⟩=some v1/\wr.cell? ⟨w.heap.size,2,none⟩=some v2) /\
  (wr.cell? ⟨w.heap.size+1,0,none⟩=some (iV p0)/\wr.cell? ⟨w.heap.size+1,1,none⟩=some (iV p1)/\wr.cell? ⟨w.heap.size+1,2,none⟩=some (iV p2)/\wr.cell? ⟨w.heap.size+1,3,none⟩=some (iV q0)/\wr.cell? ⟨w.heap.size+1,4,none⟩=some (iV q1)/\wr.cell? ⟨w.heap.size+1,5,none⟩=some (iV q2)/\wr.cell? ⟨w.heap.size+1,6,none⟩=some (iV r))/\w.heap.size<wr.heap.size/\w.heap.size+1<wr.heap.size/\Below w.heap.size w wr:=by
 have hs:((w.alloc (.cells #[v0,v1,v2] ta)).alloc (.cells #[iV p0,iV p1,iV p2,iV q0,iV q1,iV q2,iV r] tb)).heap.size=w.heap.size+1+1:=by simp
 have hz:=h.size
 have h':Below ((w.alloc (.cells #[v0,v1,v2] ta)).alloc (.cells #[iV p0,iV p1,iV p2,iV q0,iV q1,iV q2,iV r] tb)).heap.size ((w.alloc (.cells #[v0,v1,v2] ta)).alloc (.cells #[iV p0,iV p1,iV p2,iV q0,iV q1,iV q2,iV r] tb)) wr:=by rw [hs];exact h
 refine⟨⟨?_,?_,?_⟩,⟨?_,?_,?_,?_,?_,?_,?_⟩,by omega,by omega,(below_alloc2 w _ _).trans (h.mono (by omega))⟩
 all_goals rw [zc h' _ _ (by omega)]
 all_goals go_simp
def zB (a b:List Ed):List Ed:=a++b
theorem xJ (a:List Ed):zB a []=a:=List.append_nil a
theorem Yw (a b:List Ed):(zB a b).length=a.length+b.length:=List.length_append
theorem zpy {L:Lp} {t:Tg} {fr to bk k:Nat} (h:isD L t fr to bk k=true):wtD L t fr to bk (k+1)=wtD L t fr to bk k++[⟨fr,to,bk,k⟩]:=if_pos h
theorem zo6 {L:Lp} {t:Tg} {fr to bk k:Nat} (h:isD L t fr to bk k=false):wtD L t fr to bk (k+1)=wtD L t fr to bk k:=if_neg (by rw [h];exact Bool.false_ne_true)
set_option maxHeartbeats 4000000 in
set_option maxRecDepth 100000 in
theorem zdv (p0 p1 p2 q0 q1 q2 r:Int) (L:Lp) (a0:Option Addr) (cap0 b off cap:Nat) (v2:Value) (w:World) (hl0:L.logs.length<=cap0) (hm0:cap0<=9223372036854775807) (hl1:L.body.length<=cap) (hm1:cap<=9223372036854775807) (hb:b<w.heap.size)
  (hbody:∀i,i<L.body.length->∀j,j<9->w.cell? ⟨b,off+i*9+j,none⟩=(zJ (z6 L.body i))[j]?) (hlogs:yf w (.slice a0 L.logs.length cap0) L.logs) (hm:zx L=true) (hn16:L.body.length<=16) :
  Calls Tryz.prog 46 #[.agg #[.slice a0 L.logs.length cap0,.slice (some ⟨b,off,none⟩) L.body.length cap,v2],.agg #[iV p0,iV p1,iV p2,iV q0,iV q1,iV q2,iV r]] w fun e w'=>∃ev,e=.returned ev/\w'.ownsRow (w.heap.size+1+1) 100 4 ev (z8 L ⟨p0,p1,p2,q0,q1,q2,r⟩).length (zO (z8 L ⟨p0,p1,p2,q0,q1,q2,r⟩))/\Below w.heap.size w w':=by
 have HBODY:=z5 hbody
 have HLOGS:=z5 hlogs
 have HM:=z5 hm
 clear hbody hlogs hm
 obtain⟨j0,ji,jz0,jz1,jz2⟩:=info_parts Tryz.i100
 go_enter Tryz.func46,Tryz.ntmps46
 go_wp2_with fail
 go_loopw [5,6] (fun ov iv wr=>∃f:Nat,f<=L.body.length/\iv=iV f/\∃oa oc,ov=.slice oa (frD L ⟨p0,p1,p2,q0,q1,q2,r⟩ f).length oc/\wr.ownsRow (w.heap.size+1+1) 100 4 (.slice oa (frD L ⟨p0,p1,p2,q0,q1,q2,r⟩ f).length oc) (frD L ⟨p0,p1,p2,q0,q1,q2,r⟩ f).length (zO (frD L ⟨p0,p1,p2,q0,q1,q2,r⟩ f))/\Below (w.heap.size+1+1) ((w.alloc (.cells #[.slice a0 L.logs.length cap0,.slice (some ⟨b,off,none⟩) L.body.length cap,v2] 25)).alloc (.cells #[iV p0,iV p1,iV p2,iV q0,iV q1,iV q2,iV r] 28)) wr) (fun _ iv _=>L.body.length - (intOf iv).toNat)
 case atStart=>exact⟨0,Nat.zero_le _,rfl,none,0,rfl,World.ownsRow_nil _ _ _ _,Below.refl _ _⟩
 case round =>
  obtain⟨f,hf,rfl,oa,oc,rfl,hown,hbel⟩:=hrel
  have HO:=z5 hown
  have HB:=z5 hbel
  have hz:=hbel.size
  have hs:((w.alloc (.cells #[.slice a0 L.logs.length cap0,.slice (some ⟨b,off,none⟩) L.body.length cap,v2] 25)).alloc (.cells #[iV p0,iV p1,iV p2,iV q0,iV q1,iV q2,iV r] 28)).heap.size=w.heap.size+1+1:=by simp
  obtain⟨⟨l0,l1,l2⟩,⟨t0,t1,t2,t3,t4,t5,t6⟩,z0,z1,hbw⟩:=zI hbel
  have HW:=z5 hbw
  clear hown hbel hbw hz hs
  by_cases hfl:f<L.body.length
  ·have hfi:(f:Int)<(L.body.length:Int):=by omega
   go_wp2_with fail
   clear l0 l1 l2 t0 t1 t2 t3 t4 t5 t6 z0 z1
   go_loopw [5,7] (fun ov iv wr=>∃t:Nat,t<=L.body.length/\iv=iV t/\∃oa oc,ov=.slice oa (zB (frD L ⟨p0,p1,p2,q0,q1,q2,r⟩ f) (toD L ⟨p0,p1,p2,q0,q1,q2,r⟩ f t)).length oc/\wr.ownsRow (w.heap.size+1+1) 100 4 (.slice oa (zB (frD L ⟨p0,p1,p2,q0,q1,q2,r⟩ f) (toD L ⟨p0,p1,p2,q0,q1,q2,r⟩ f t)).length oc) (zB (frD L ⟨p0,p1,p2,q0,q1,q2,r⟩ f) (toD L ⟨p0,p1,p2,q0,q1,q2,r⟩ f t)).length (zO (zB (frD L ⟨p0,p1,p2,q0,q1,q2,r⟩ f) (toD L ⟨p0,p1,p2,q0,q1,q2,r⟩ f t)))/\Below (w.heap.size+1+1) ((w.alloc (.cells #[.slice a0 L.logs.length cap0,.slice (some ⟨b,off,none⟩) L.body.length cap,v2] 25)).alloc (.cells #[iV p0,iV p1,iV p2,iV q0,iV q1,iV q2,iV r] 28)) wr) (fun _ iv _=>L.body.length - (intOf iv).toNat)
   case atStart=>exact⟨0,Nat.zero_le _,rfl,oa,oc,by show _=Value.slice oa (zB (frD L ⟨p0,p1,p2,q0,q1,q2,r⟩ f) []).length oc;rw [xJ],by show wr.ownsRow _ _ _ (.slice oa (zB (frD L ⟨p0,p1,p2,q0,q1,q2,r⟩ f) []).length oc) (zB (frD L ⟨p0,p1,p2,q0,q1,q2,r⟩ f) []).length (zO (zB (frD L ⟨p0,p1,p2,q0,q1,q2,r⟩ f) []));rw [xJ];exact HO.out,HB.out⟩
   case round =>
    clear HO HB HW
    obtain⟨t,ht,rfl,oa,oc,rfl,hown,hbel⟩:=hrel
    have HO:=z5 hown
    have HB:=z5 hbel
    have hz:=hbel.size
    have hs:((w.alloc (.cells #[.slice a0 L.logs.length cap0,.slice (some ⟨b,off,none⟩) L.body.length cap,v2] 25)).alloc (.cells #[iV p0,iV p1,iV p2,iV q0,iV q1,iV q2,iV r] 28)).heap.size=w.heap.size+1+1:=by simp
    obtain⟨⟨l0,l1,l2⟩,⟨t0,t1,t2,t3,t4,t5,t6⟩,z0,z1,hbw⟩:=zI hbel
    have HW:=z5 hbw
    clear hown hbel hbw hz hs
    by_cases htl:t<L.body.length
    ·have hti:(t:Int)<(L.body.length:Int):=by omega
     go_wp2_with fail
     clear l0 l1 l2 t0 t1 t2 t3 t4 t5 t6 z0 z1
     go_loopw [5,8] (fun ov iv wr=>∃k:Nat,k<=33/\iv=iV k/\∃oa oc,ov=.slice oa (zB (zB (frD L ⟨p0,p1,p2,q0,q1,q2,r⟩ f) (toD L ⟨p0,p1,p2,q0,q1,q2,r⟩ f t)) (bkD L ⟨p0,p1,p2,q0,q1,q2,r⟩ f t k)).length oc/\wr.ownsRow (w.heap.size+1+1) 100 4 (.slice oa (zB (zB (frD L ⟨p0,p1,p2,q0,q1,q2,r⟩ f) (toD L ⟨p0,p1,p2,q0,q1,q2,r⟩ f t)) (bkD L ⟨p0,p1,p2,q0,q1,q2,r⟩ f t k)).length oc) (zB (zB (frD L ⟨p0,p1,p2,q0,q1,q2,r⟩ f) (toD L ⟨p0,p1,p2,q0,q1,q2,r⟩ f t)) (bkD L ⟨p0,p1,p2,q0,q1,q2,r⟩ f t k)).length (zO (zB (zB (frD L ⟨p0,p1,p2,q0,q1,q2,r⟩ f) (toD L ⟨p0,p1,p2,q0,q1,q2,r⟩ f t)) (bkD L ⟨p0,p1,p2,q0,q1,q2,r⟩ f t k)))/\Below (w.heap.size+1+1) ((w.alloc (.cells #[.slice a0 L.logs.length cap0,.slice (some ⟨b,off,none⟩) L.body.length cap,v2] 25)).alloc (.cells #[iV p0,iV p1,iV p2,iV q0,iV q1,iV q2,iV r] 28)) wr) (fun _ iv _=>33 - (intOf iv).toNat)
     case atStart=>exact⟨0,Nat.zero_le _,rfl,oa,oc,by show _=Value.slice oa (zB (zB (frD L ⟨p0,p1,p2,q0,q1,q2,r⟩ f) (toD L ⟨p0,p1,p2,q0,q1,q2,r⟩ f t)) []).length oc;rw [xJ],by show wr.ownsRow _ _ _ (.slice oa (zB (zB (frD L ⟨p0,p1,p2,q0,q1,q2,r⟩ f) (toD L ⟨p0,p1,p2,q0,q1,q2,r⟩ f t)) []).length oc) (zB (zB (frD L ⟨p0,p1,p2,q0,q1,q2,r⟩ f) (toD L ⟨p0,p1,p2,q0,q1,q2,r⟩ f t)) []).length (zO (zB (zB (frD L ⟨p0,p1,p2,q0,q1,q2,r⟩ f) (toD L ⟨p0,p1,p2,q0,q1,q2,r⟩ f t)) []));rw [xJ];exact HO.out,HB.out⟩
     case round =>
      clear HO HB HW
      obtain⟨k,hk,rfl,oa,oc,rfl,hown,hbel⟩:=hrel
      have HO:=z5 hown
      have HB:=z5 hbel
      by_cases hkl:k<33
      ·have hki:(k:Int)<=32:=by omega
       clear hown hbel
       go_wp2_with fail
       go_loopw [5,9] (fun ov iv wr=>∃x:Nat,x<=7/\iv=iV x/\∃oa oc,ov=.slice oa (zB (zB (zB (frD L ⟨p0,p1,p2,q0,q1,q2,r⟩ f) (toD L ⟨p0,p1,p2,q0,q1,q2,r⟩ f t)) (bkD L ⟨p0,p1,p2,q0,q1,q2,r⟩ f t k)) (wtD L ⟨p0,p1,p2,q0,q1,q2,r⟩ f t k x)).length oc/\wr.ownsRow (w.heap.size+1+1) 100 4 (.slice oa (zB (zB (zB (frD L ⟨p0,p1,p2,q0,q1,q2,r⟩ f) (toD L ⟨p0,p1,p2,q0,q1,q2,r⟩ f t)) (bkD L ⟨p0,p1,p2,q0,q1,q2,r⟩ f t k)) (wtD L ⟨p0,p1,p2,q0,q1,q2,r⟩ f t k x)).length oc) (zB (zB (zB (frD L ⟨p0,p1,p2,q0,q1,q2,r⟩ f) (toD L ⟨p0,p1,p2,q0,q1,q2,r⟩ f t)) (bkD L ⟨p0,p1,p2,q0,q1,q2,r⟩ f t k)) (wtD L ⟨p0,p1,p2,q0,q1,q2,r⟩ f t k x)).length (zO (zB (zB (zB (frD L ⟨p0,p1,p2,q0,q1,q2,r⟩ f) (toD L ⟨p0,p1,p2,q0,q1,q2,r⟩ f t)) (bkD L ⟨p0,p1,p2,q0,q1,q2,r⟩ f t k)) (wtD L ⟨p0,p1,p2,q0,q1,q2,r⟩ f t k x)))/\Below (w.heap.size+1+1) ((w.alloc (.cells #[.slice a0 L.logs.length cap0,.slice (some ⟨b,off,none⟩) L.body.length cap,v2] 25)).alloc (.cells #[iV p0,iV p1,iV p2,iV q0,iV q1,iV q2,iV r] 28)) wr) (fun _ iv _=>7 - (intOf iv).toNat)
       case atStart=>exact⟨0,Nat.zero_le _,rfl,oa,oc,by show _=Value.slice oa (zB (zB (zB (frD L ⟨p0,p1,p2,q0,q1,q2,r⟩ f) (toD L ⟨p0,p1,p2,q0,q1,q2,r⟩ f t)) (bkD L ⟨p0,p1,p2,q0,q1,q2,r⟩ f t k)) []).length oc;rw [xJ],by show wr.ownsRow _ _ _ (.slice oa (zB (zB (zB (frD L ⟨p0,p1,p2,q0,q1,q2,r⟩ f) (toD L ⟨p0,p1,p2,q0,q1,q2,r⟩ f t)) (bkD L ⟨p0,p1,p2,q0,q1,q2,r⟩ f t k)) []).length oc) (zB (zB (zB (frD L ⟨p0,p1,p2,q0,q1,q2,r⟩ f) (toD L ⟨p0,p1,p2,q0,q1,q2,r⟩ f t)) (bkD L ⟨p0,p1,p2,q0,q1,q2,r⟩ f t k)) []).length (zO (zB (zB (zB (frD L ⟨p0,p1,p2,q0,q1,q2,r⟩ f) (toD L ⟨p0,p1,p2,q0,q1,q2,r⟩ f t)) (bkD L ⟨p0,p1,p2,q0,q1,q2,r⟩ f t k)) []));rw [xJ];exact HO.out,HB.out⟩
       case round =>
        clear HO HB
        obtain⟨x,hx,rfl,oa,oc,rfl,hown,hbel⟩:=hrel
        have HO:=z5 hown
        have HB:=z5 hbel
        have hz:=hbel.size
        have hs:((w.alloc (.cells #[.slice a0 L.logs.length cap0,.slice (some ⟨b,off,none⟩) L.body.length cap,v2] 25)).alloc (.cells #[iV p0,iV p1,iV p2,iV q0,iV q1,iV q2,iV r] 28)).heap.size=w.heap.size+1+1:=by simp
        obtain⟨⟨l0,l1,l2⟩,⟨t0,t1,t2,t3,t4,t5,t6⟩,z0,z1,hbw⟩:=zI hbel
        have HW:=z5 hbw
        have hzw:=hbw.size
        have hz2:w.heap.size+1+1<=wr.heap.size:=by omega
        clear hown hbel hbw hz hs
        by_cases hxl:x<7
        ·have hxi:(x:Int)<=6:=by omega
         have HLEN:Hid ((zB (zB (zB (frD L ⟨p0,p1,p2,q0,q1,q2,r⟩ f) (toD L ⟨p0,p1,p2,q0,q1,q2,r⟩ f t)) (bkD L ⟨p0,p1,p2,q0,q1,q2,r⟩ f t k)) (wtD L ⟨p0,p1,p2,q0,q1,q2,r⟩ f t k x)).length<=60000):=by
          show (zB (zB (zB (frD L ⟨p0,p1,p2,q0,q1,q2,r⟩ f) (toD L ⟨p0,p1,p2,q0,q1,q2,r⟩ f t)) (bkD L ⟨p0,p1,p2,q0,q1,q2,r⟩ f t k)) (wtD L ⟨p0,p1,p2,q0,q1,q2,r⟩ f t k x)).length<=60000
          have e1:=VQ L ⟨p0,p1,p2,q0,q1,q2,r⟩ f hn16
          have e2:=zhy L ⟨p0,p1,p2,q0,q1,q2,r⟩ f t
          have e3:=zha L ⟨p0,p1,p2,q0,q1,q2,r⟩ f t k
          have e4:=zi4 L ⟨p0,p1,p2,q0,q1,q2,r⟩ f t k x
          rw [Yw,Yw,Yw];omega
         have hal:Below wr.heap.size wr (wr.alloc (.cells #[iV f,iV t,iV k,iV x] 100)):=below_alloc1 _ _
         have hwe:=HW.out.trans (hal.mono hzw)
         have HIW:=z5 (zow p0 p1 p2 q0 q1 q2 r f t k x L a0 cap0 b off cap v2 (wr.alloc (.cells #[iV f,iV t,iV k,iV x] 100)) hl0 hm0 hl1 hm1 (by have:=hwe.size;omega) (fun i hi j hj=>by rw [zc hwe _ _ hb];exact HBODY.out i hi j hj) (HLOGS.out.below hwe) HM.out hfl htl (by omega) (by omega))
         obtain⟨ib,hib⟩:∃ib,isD L ⟨p0,p1,p2,q0,q1,q2,r⟩ f t k x=ib:=⟨_,rfl⟩
         rw [hib] at HIW
         have HIB:=z5 hib
         clear hib hal hwe
         cases ib with
         | false =>
           go_wp2_with fail
           refine HIW.out.mono ?_
           rintro e x1 ⟨rfl,hb1⟩
           have HX:=z5 ((below_alloc1 wr _).trans (hb1.mono (by simp)))
           clear hb1
           go_wp2_with fail
           go_roundw
           case rel=>exact⟨x+1,by omega,by go_num,oa,oc,by rw [zo6 HIB.out],by rw [zo6 HIB.out];exact zt HO.out HX.out,HB.out.trans (HX.out.mono hz2)⟩
           case measure=>simp [intOf];omega
         | true =>
           go_wp2_with fail
           refine HIW.out.mono ?_
           rintro e x1 ⟨rfl,hb1⟩
           have HX:=z5 ((below_alloc1 wr _).trans (hb1.mono (by simp)))
           have hc1:=zc hb1
           have hxz:wr.heap.size<x1.heap.size:=by have:=hb1.size;simp at this;omega
           have HOX:=z5 (zt HO.out HX.out)
           have HBX:=z5 (HB.out.trans (HX.out.mono hz2))
           clear hb1
           go_wp2_with (at_builtin;refine wpList_append_own _ rfl (.tmp 42) (.tmp 44) 97 rfl (w.heap.size+1+1) 100 j0 (.agg #[iV 0,iV 0,iV 0,iV 0]) 4 32 Tryz.underlying97 ji jz0 jz1 jz2 rfl (by decide) _ _ _ rfl (zt HOX.out (below_alloc1 _ _)) ⟨x1.heap.size,0,none⟩ 1 1 (zG ⟨f,t,k,x⟩) rfl rfl (by exact Xn _ _ _ _ _ _) (by intro u hu;unfold zG at hu;simp at hu;rcases hu with rfl | rfl | rfl | rfl <;> rfl) (by unfold maxLen;have:=HLEN.out;omega) (by have:=HLEN.out;omega) (by simp;omega) ?_;intro v2' w2 hown2 hgrow2 hnil2;obtain⟨oa2,oc2,rfl,hl1',hl2'⟩:=zS hown2;have HO2:=z5 hown2;have HG2:=z5 hgrow2;clear hown2 hgrow2)
           go_roundw
           case rel =>
            have e1:zB (zB (zB (frD L ⟨p0,p1,p2,q0,q1,q2,r⟩ f) (toD L ⟨p0,p1,p2,q0,q1,q2,r⟩ f t)) (bkD L ⟨p0,p1,p2,q0,q1,q2,r⟩ f t k)) (wtD L ⟨p0,p1,p2,q0,q1,q2,r⟩ f t k x)++[⟨f,t,k,x⟩]=zB (zB (zB (frD L ⟨p0,p1,p2,q0,q1,q2,r⟩ f) (toD L ⟨p0,p1,p2,q0,q1,q2,r⟩ f t)) (bkD L ⟨p0,p1,p2,q0,q1,q2,r⟩ f t k)) (wtD L ⟨p0,p1,p2,q0,q1,q2,r⟩ f t k (x+1)):=by rw [zpy HIB.out];unfold zB;rw [List.append_assoc]
            have e2:(zB (zB (zB (frD L ⟨p0,p1,p2,q0,q1,q2,r⟩ f) (toD L ⟨p0,p1,p2,q0,q1,q2,r⟩ f t)) (bkD L ⟨p0,p1,p2,q0,q1,q2,r⟩ f t k)) (wtD L ⟨p0,p1,p2,q0,q1,q2,r⟩ f t k x)).length+1=(zB (zB (zB (frD L ⟨p0,p1,p2,q0,q1,q2,r⟩ f) (toD L ⟨p0,p1,p2,q0,q1,q2,r⟩ f t)) (bkD L ⟨p0,p1,p2,q0,q1,q2,r⟩ f t k)) (wtD L ⟨p0,p1,p2,q0,q1,q2,r⟩ f t k (x+1))).length:=by rw [<-e1,List.length_append];rfl
            have h2:=HO2.out
            rw [Xm,e1,e2] at h2
            exact⟨x+1,by omega,by go_num,oa2,oc2,by rw [e2],h2,(HBX.out.alloc (by omega) _).grown HG2.out (by simp;omega) (ye HO.out)⟩
           case measure=>simp [intOf];omega
        ·have e:x=7:=by omega
         have hxi:¬(x:Int)<=6:=by omega
         have e1:zB (zB (zB (frD L ⟨p0,p1,p2,q0,q1,q2,r⟩ f) (toD L ⟨p0,p1,p2,q0,q1,q2,r⟩ f t)) (bkD L ⟨p0,p1,p2,q0,q1,q2,r⟩ f t k)) (wtD L ⟨p0,p1,p2,q0,q1,q2,r⟩ f t k x)=zB (zB (frD L ⟨p0,p1,p2,q0,q1,q2,r⟩ f) (toD L ⟨p0,p1,p2,q0,q1,q2,r⟩ f t)) (bkD L ⟨p0,p1,p2,q0,q1,q2,r⟩ f t (k+1)):=by rw [e];unfold zB;rw [List.append_assoc];rfl
         have HE:=z5 e1
         clear e1 e
         go_wp2_with fail
         go_roundw
         case rel=>exact⟨k+1,by omega,by go_num,oa,oc,by rw [HE.out],by have h:=HO.out;rw [HE.out] at h;exact h,HB.out⟩
         case measure=>simp [intOf];omega
      ·have e:k=33:=by omega
       have hki:¬(k:Int)<=32:=by omega
       have e1:zB (zB (frD L ⟨p0,p1,p2,q0,q1,q2,r⟩ f) (toD L ⟨p0,p1,p2,q0,q1,q2,r⟩ f t)) (bkD L ⟨p0,p1,p2,q0,q1,q2,r⟩ f t k)=zB (frD L ⟨p0,p1,p2,q0,q1,q2,r⟩ f) (toD L ⟨p0,p1,p2,q0,q1,q2,r⟩ f (t+1)):=by rw [e];unfold zB;rw [List.append_assoc];rfl
       have HE:=z5 e1
       clear e1 e hown hbel
       go_wp2_with fail
       go_roundw
       case rel=>exact⟨t+1,by omega,by go_num,oa,oc,by rw [HE.out],by have h:=HO.out;rw [HE.out] at h;exact h,HB.out⟩
       case measure=>simp [intOf];omega
    ·have e:t=L.body.length:=by omega
     have hti:¬(t:Int)<(L.body.length:Int):=by omega
     have e1:zB (frD L ⟨p0,p1,p2,q0,q1,q2,r⟩ f) (toD L ⟨p0,p1,p2,q0,q1,q2,r⟩ f t)=frD L ⟨p0,p1,p2,q0,q1,q2,r⟩ (f+1):=by rw [e];rfl
     have HE:=z5 e1
     clear e1 e
     go_wp2_with fail
     go_roundw
     case rel=>exact⟨f+1,by omega,by go_num,oa,oc,by rw [HE.out],by have h:=HO.out;rw [HE.out] at h;exact h,HB.out⟩
     case measure=>simp [intOf];omega
  ·have e:f=L.body.length:=by omega
   have hfi:¬(f:Int)<(L.body.length:Int):=by omega
   have e1:frD L ⟨p0,p1,p2,q0,q1,q2,r⟩ f=z8 L ⟨p0,p1,p2,q0,q1,q2,r⟩:=by rw [e];rfl
   have HE:=z5 e1
   clear e1 e
   go_wp2_with fail
   go_ret
   exact⟨_,rfl,by have h:=HO.out;rw [HE.out] at h ⊢;exact h,HW.out⟩
theorem Uw (v:Value) (t:Tg) (L:Lp) (w:World) (hL:zk w v L) (hm:zx L=true) :
  Calls Tryz.prog 46 #[v,.agg t.cells] w fun e w'=>∃ev,e=.returned ev/\yP w' ev (z8 L t)/\Below w.heap.size w w':=by
 obtain⟨m1,m2,m3,m4,m5,m6,m7⟩:=zj hm
 obtain⟨v0,v1,v2,rfl,h0,⟨a1,cap1,rfl,hl1,hm1,hc1⟩,h2⟩:=hL
 have h0':=h0
 obtain⟨a0,cap0,rfl,hl0,hm0,-,-⟩:=h0'
 obtain⟨b,off,rfl,hb,hcell⟩:=hc1 (by omega)
 unfold maxLen at hm0 hm1
 obtain⟨p0,p1,p2,q0,q1,q2,r⟩:=t
 exact (zdv p0 p1 p2 q0 q1 q2 r L a0 cap0 b off cap1 v2 w hl0 (by omega) hl1 (by omega) hb hcell h0 hm m3).mono fun e w' ⟨ev,h1,h2,h3⟩=>⟨ev,h1,yP.of_own h2,h3⟩
set_option maxHeartbeats 400000 in
theorem Yk (p0 p1 p2 q0 q1 q2 r:Int) (L:Lp) (a0 a1 a2:Option Addr) (cap0 cap1 cap2:Nat) (w:World) (hL:zk w (.agg #[.slice a0 L.logs.length cap0,.slice a1 L.body.length cap1,.slice a2 L.outs.length cap2]) L) :
  Calls Tryz.prog 20 #[(.agg #[.slice a0 L.logs.length cap0,.slice a1 L.body.length cap1,.slice a2 L.outs.length cap2]),.agg #[iV p0,iV p1,iV p2,iV q0,iV q1,iV q2,iV r]] w fun e w'=>e=.returned (.bool (zx L && zp ⟨p0,p1,p2,q0,q1,q2,r⟩))/\Below w.heap.size w w':=by
 obtain⟨mb,hmb⟩:∃mb,zx L=mb:=⟨_,rfl⟩
 have HM:=z5 (fun W (h:zk W (.agg #[.slice a0 L.logs.length cap0,.slice a1 L.body.length cap1,.slice a2 L.outs.length cap2]) L)=>hmb ▸ XX (.agg #[.slice a0 L.logs.length cap0,.slice a1 L.body.length cap1,.slice a2 L.outs.length cap2]) L W h)
 have HT:=z5 (Yn p0 p1 p2 q0 q1 q2 r)
 rw [hmb]
 clear hmb
 cases mb with
 | false =>
   go_enter Tryz.func20,Tryz.ntmps20
   go_wp2_with fail
   refine (HM.out _ (hL.below (below_alloc2 _ _ _))).mono ?_
   rintro e x1 ⟨rfl,hb⟩
   have HB:=z5 ((below_alloc2 w _ _).trans (hb.mono (by simp;omega)))
   clear hb
   go_wp2_with fail
   go_ret
   exact⟨by simp,HB.out⟩
 | true =>
   go_enter Tryz.func20,Tryz.ntmps20
   go_wp2_with fail
   refine (HM.out _ (hL.below (below_alloc2 _ _ _))).mono ?_
   rintro e x1 ⟨rfl,hb⟩
   have hb1:Below (w.heap.size+1+1) ((w.alloc (.cells #[.slice a0 L.logs.length cap0,.slice a1 L.body.length cap1,.slice a2 L.outs.length cap2] 25)).alloc (.cells #[iV p0,iV p1,iV p2,iV q0,iV q1,iV q2,iV r] 28)) x1:=by
    have hs:((w.alloc (.cells #[.slice a0 L.logs.length cap0,.slice a1 L.body.length cap1,.slice a2 L.outs.length cap2] 25)).alloc (.cells #[iV p0,iV p1,iV p2,iV q0,iV q1,iV q2,iV r] 28)).heap.size=w.heap.size+1+1:=by simp
    rw [<-hs];exact hb
   obtain⟨⟨l0,l1,l2⟩,⟨t0,t1,t2,t3,t4,t5,t6⟩,z0,z1,hbw⟩:=zI hb1
   have HB:=z5 hbw
   clear hb hb1 hbw
   go_wp2_with fail
   refine (HT.out _).mono ?_
   rintro e x2 ⟨rfl,hb⟩
   have HB2:=z5 (HB.out.trans (hb.mono HB.out.size))
   clear hb
   go_wp2_with fail
   go_ret
   exact⟨by simp,HB2.out⟩
def ZW:Prop:=∀(v:Value) (t:Tg) (L:Lp) (w:World),zk w v L ->
 Calls Tryz.prog 86 #[v,.agg t.cells] w fun e w'=>∃a n c,e=.returned (.tuple #[.slice a n c,iV (if (zx L && zp t)=true then 0 else 2)])/\Below w.heap.size w w'/\((zx L && zp t)=true->yP w' (.slice a n c) (z8 L t))/\((zx L && zp t)=false->n=0)
theorem za6 (hE:ZW) (v:Value) (t:Tg) (L:Lp) (w:World) (hL:zk w v L) (hm:(zx L && zp t)=false) :
  Calls Tryz.prog 86 #[v,.agg t.cells] w fun e w'=>∃a c,e=.returned (.tuple #[.slice a 0 c,iV 2])/\Below w.heap.size w w' :=
 (hE v t L w hL).mono fun e w' ⟨a,n,c,h1,h2,h3,h4⟩=>by
  obtain rfl:=h4 hm
  rw [hm] at h1
  exact⟨a,c,h1,h2⟩
theorem Xk (hE:ZW) (v:Value) (t:Tg) (L:Lp) (w:World) (hL:zk w v L) (hm:(zx L && zp t)=true) :
  Calls Tryz.prog 86 #[v,.agg t.cells] w fun e w'=>∃a n c,e=.returned (.tuple #[.slice a n c,iV 0])/\yP w' (.slice a n c) (z8 L t)/\Below w.heap.size w w' :=
 (hE v t L w hL).mono fun e w' ⟨a,n,c,h1,h2,h3,h4⟩=>by
  rw [hm] at h1
  exact⟨a,n,c,h1,h3 hm,h2⟩
set_option linter.unusedSimpArgs false
set_option maxRecDepth 8192
theorem zhb (L:Lp) (c:Nat):xO L c<=L.body.length:=Zw _ _
theorem zhm {n u:Nat} (hu:1<=u):xy n u<=n:=(YG hu).1 (Nat.le_mul_of_pos_right n hu)
theorem zmy {L:Lp} {t:Tg} (hb:L.body.length<=16) (hu:∀c:Nat,c<3->1<=(zF t c).toNat):∀c,c<=3->1<=Z0 L t c/\Z0 L t c<=16:=by
 intro c
 induction c with
 | zero=>intro _;exact⟨Nat.le_refl _,by show 1<=16;omega⟩
 | succ c ih =>
   intro hc
   have h1:=ih (by omega)
   have h2:=zhm (n:=xO L c) (hu c (by omega))
   have h3:=zhb L c
   show 1<=max (Z0 L t c) (xy (xO L c) (zF t c).toNat)/\max (Z0 L t c) (xy (xO L c) (zF t c).toNat)<=16
   omega
theorem zko {p0 p1 p2 q0 q1 q2 r:Int} {w wr:World} {c:Nat} (hc:c<3) (h0:wr.cell? ⟨w.heap.size+1,0,none⟩=some (iV p0)) (h1:wr.cell? ⟨w.heap.size+1,1,none⟩=some (iV p1)) (h2:wr.cell? ⟨w.heap.size+1,2,none⟩=some (iV p2)):wr.cell? ⟨w.heap.size+1,c,none⟩=some (iV (zF ⟨p0,p1,p2,q0,q1,q2,r⟩ c)):=by
 obtain rfl | rfl | rfl:c=0\/c=1\/c=2:=by omega
 ·exact h0
 ·exact h1
 ·exact h2
theorem zb6 {t:Tg} (h:zp t=true):∀c:Nat,∃u:Nat,zF t c=(u:Int)/\1<=u/\u<=4:=by
 intro c
 obtain⟨h1,h2,h3,-,-⟩:=yi h
 have h1:=zT h1
 have h2:=zT h2
 have h3:=zT h3
 unfold zF
 split
 ·exact⟨t.u0.toNat,by omega,by omega,by omega⟩
 ·split
  ·exact⟨t.u1.toNat,by omega,by omega,by omega⟩
  ·exact⟨t.u2.toNat,by omega,by omega,by omega⟩
set_option maxHeartbeats 8000000 in
theorem zem (p0 p1 p2 q0 q1 q2 r:Int) (L:Lp) (v0 v2:Value) (b off cap:Nat) (w:World) (hl:L.body.length<=cap) (hm:cap<=9223372036854775807) (hb:b<w.heap.size) (hcell:∀i,i<L.body.length->∀j,j<9->w.cell? ⟨b,off+i*9+j,none⟩=(zJ (z6 L.body i))[j]?) (h16:L.body.length<=16) (hmt:zp ⟨p0,p1,p2,q0,q1,q2,r⟩=true) :
  Calls Tryz.prog 22 #[.agg #[v0,.slice (some ⟨b,off,none⟩) L.body.length cap,v2],.agg #[iV p0,iV p1,iV p2,iV q0,iV q1,iV q2,iV r]] w fun e w'=>e=.returned (iV (xP L ⟨p0,p1,p2,q0,q1,q2,r⟩))/\Below w.heap.size w w':=by
 have HCE:=z5 hcell
 have HMT:=z5 hmt
 have HUU:=z5 (zb6 hmt)
 have HPU:=z5 (zmy (L:=L) (t:=⟨p0,p1,p2,q0,q1,q2,r⟩) h16 (fun c _=>by obtain⟨u,h1,h2,_⟩:=zb6 hmt c;rw [h1,Int.toNat_natCast];exact h2))
 clear hcell hmt
 go_enter Tryz.func22,Tryz.ntmps22
 go_wp2_with fail
 go_loopw [5,6] (fun pv i wr=>∃c:Nat,c<=3/\i=iV c/\pv=iV (Z0 L ⟨p0,p1,p2,q0,q1,q2,r⟩ c)/\Below (w.heap.size+1+1) ((w.alloc (.cells #[v0,.slice (some ⟨b,off,none⟩) L.body.length cap,v2] 25)).alloc (.cells #[iV p0,iV p1,iV p2,iV q0,iV q1,iV q2,iV r] 28)) wr) (fun _ i _=>3 - (intOf i).toNat)
 case atStart=>exact⟨0,by omega,rfl,rfl,Below.refl _ _⟩
 case round =>
  obtain⟨c,hc,rfl,rfl,hbel⟩:=hrel
  have HB:=z5 hbel
  obtain⟨⟨l0,l1,l2⟩,⟨t0,t1,t2,t3,t4,t5,t6⟩,z0,z1,hbw⟩:=zI hbel
  have HBW:=z5 hbw
  have hpb:=HPU.out c hc
  by_cases hcl:c<3
  ·have hci:(c:Int)<3:=by omega
   have huc:=zko (q0:=q0) (q1:=q1) (q2:=q2) (r:=r) hcl t0 t1 t2
   obtain⟨u,hu,hu1,hu4⟩:=HUU.out c
   rw [hu] at huc
   have HNX:Hid (Z0 L ⟨p0,p1,p2,q0,q1,q2,r⟩ (c+1)=max (Z0 L ⟨p0,p1,p2,q0,q1,q2,r⟩ c) (xy (xO L c) u)):=by
    show max _ (xy (xO L c) (zF _ c).toNat)=_
    rw [hu,Int.toNat_natCast]
   have HCN:Hid (xO L c=cnt (fun i=>decide (zC (z6 L.body i).o=(c:Int))) L.body.length):=rfl
   obtain⟨pa,hpa⟩:∃pa,Z0 L ⟨p0,p1,p2,q0,q1,q2,r⟩ c=pa:=⟨_,rfl⟩
   rw [hpa] at HNX hpb ⊢
   obtain⟨hpb1,hpb2⟩:=hpb
   clear hbel hbw hu hpa t0 t1 t2 t3 t4 t5 t6 l0 l2
   rename World=>wo
   go_wp2_with fail
   go_loopw [7,8] (fun nv i wr=>∃k:Nat,k<=L.body.length/\i=iV k/\nv=iV (cnt (fun i=>decide (zC (z6 L.body i).o=(c:Int))) k)/\wr=wo) (fun _ i _=>L.body.length - (intOf i).toNat)
   case atStart=>exact⟨0,Nat.zero_le _,rfl,rfl,rfl⟩
   case round =>
    obtain⟨k,hk,rfl,rfl,rfl⟩:=hrel
    by_cases hkl:k<L.body.length
    ·have hki:(k:Int)<(L.body.length:Int):=by omega
     have c0:=(Zj (HCE.out k hkl)).1
     rw [<-zc HBW.out _ _ hb] at c0
     have hbz:b<wr.heap.size:=by have:=HBW.out.size;omega
     have HCL:=z5 (fun W=>Zn (z6 L.body k).o W)
     have hcn:=Zw (fun i=>decide (zC (z6 L.body i).o=(c:Int))) k
     have HST:Hid (∀b,decide (zC (z6 L.body k).o=(c:Int))=b->cnt (fun i=>decide (zC (z6 L.body i).o=(c:Int))) (k+1)=cnt (fun i=>decide (zC (z6 L.body i).o=(c:Int))) k+(if b=true then 1 else 0)):=fun b h=>by subst h;rfl
     obtain⟨cl,hcl2⟩:∃cl,zC (z6 L.body k).o=cl:=⟨_,rfl⟩
     rw [hcl2] at HCL HST
     generalize (z6 L.body k).o=oo at *
     generalize cnt (fun i=>decide (zC (z6 L.body i).o=(c:Int))) k=cn at *
     clear hcl2
     by_cases heq:cl=(c:Int)
     ·have hb1:(cl == (c:Int))=true:=by simpa using heq
      have HST2:=z5 (HST.out true (decide_eq_true heq))
      clear heq HST
      go_wp2_with (go_at_call 45;refine (HCL.out _).mono ?_;rintro e w' ⟨rfl,hw'⟩;have hw':=hw'.symm;subst hw')
      go_roundw
      case rel=>exact⟨k+1,by omega,by go_num,by rw [HST2.out];simp,trivial⟩
      case measure=>simp [intOf];omega
     ·have hb1:(cl == (c:Int))=false:=by simpa using heq
      have HST2:=z5 (HST.out false (decide_eq_false heq))
      clear heq HST
      go_wp2_with (go_at_call 45;refine (HCL.out _).mono ?_;rintro e w' ⟨rfl,hw'⟩;have hw':=hw'.symm;subst hw')
      go_roundw
      case rel=>exact⟨k+1,by omega,by go_num,by rw [HST2.out];simp,trivial⟩
      case measure=>simp [intOf];omega
    ·have e:k=L.body.length:=by omega
     subst e
     have hki:¬(L.body.length:Int)<(L.body.length:Int):=by omega
     rw [<-HCN.out]
     have hcn:=zhb L c
     generalize xO L c=cn at *
     go_wp2_with fail
     go_loopw [5] (fun pv wr2=>∃q:Nat,pv=iV q/\pa<=q/\q<=max pa (xy cn u)/\wr2=wr) (fun pv _=>40 - (intOf pv).toNat)
     case atStart=>exact⟨pa,rfl,Nat.le_refl _,by omega,rfl⟩
     case round =>
      obtain⟨q,rfl,hq1,hq2,rfl⟩:=hrel
      have hnl:=zhm (n:=cn) hu1
      have hqb:q<=16:=by omega
      obtain⟨qu,hqu⟩:∃qu:Nat,q*u=qu:=⟨_,rfl⟩
      have hqi:(q:Int)*(u:Int)=(qu:Int):=by rw [<-Int.natCast_mul,hqu]
      have hqub:qu<=64:=by rw [<-hqu];exact Nat.mul_le_mul hqb hu4
      have hni:=YG (n:=cn) (q:=q) hu1
      rw [hqu] at hni
      have HNI:=z5 hni
      clear hni hqu
      by_cases hlt:qu<cn
      ·have hlti:(qu:Int)<(cn:Int):=by omega
       have HQ:Hid (q<xy cn u):=by show q<_;have:=HNI.out;omega
       go_wp2_with fail
       go_roundw
       case rel=>exact⟨q+1,by go_num,by omega,by have:=HQ.out;omega,trivial⟩
       case measure=>simp [intOf];omega
      ·have hlti:¬(qu:Int)<(cn:Int):=by omega
       have HQ:Hid (q=max pa (xy cn u)):=by show q=_;have:=HNI.out;omega
       go_wp2_with fail
       go_roundw
       case rel=>exact⟨c+1,by omega,by go_num,by rw [HNX.out,<-HQ.out],HB.out⟩
       case measure=>simp [intOf];omega
  ·have e:c=3:=by omega
   subst e
   clear hbel hbw
   go_wp2_with fail
   go_ret
   exact⟨rfl,HBW.out⟩
set_option maxRecDepth 8192
theorem Tryz.j3:(Tryz.prog.info? 3).map (fun i=>(i.zero,i.size,i.bytes))=some (some (iV 0),1,8):=by kernel_rfl
def VJ (n:Nat) (e:Ed):Prop:=∃fr to bk wt:Nat,e=⟨fr,to,bk,wt⟩/\fr<n/\to<n/\bk<=32/\wt<=6
theorem zar {p:Int} {l:List Ed} {a:Nat->Int}:∀k,k<=l.length->zh (fun j=>okE p a (zu l j)) k=true->zQ p l a k=a:=by
 intro k
 induction k with
 | zero=>exact fun _ _=>rfl
 | succ k ih =>
   intro hk h
   have h1:zh (fun j=>okE p a (zu l j)) k=true:=zN fun j hj=>zl h j (by omega)
   show Zo p (zQ p l a k) (zu l k)=a
   rw [ih (by omega) h1]
   have h2:=of_decide_eq_true (zl h k (by omega))
   unfold Zo
   rw [if_neg (by omega)]
theorem Vm {p:Int} {l:List Ed} {a:Nat->Int} {n:Nat} {B:Int} (hp:0<=p) (hl:∀e∈l,VJ n e) (ha:∀v,a v<=B):∀k,k<=l.length->∀v,zQ p l a k v<=B+6*k:=by
 intro k
 induction k with
 | zero=>intro _ v;have:=ha v;show a v<=_;omega
 | succ k ih =>
   intro hk v
   show Zo p (zQ p l a k) (zu l k) v<=_
   by_cases h:Zo p (zQ p l a k) (zu l k) v=zQ p l a k v
   ·rw [h];have:=ih (by omega) v;omega
   ·obtain⟨h1,h2⟩:=zc9 h
    rw [h2]
    have h3:=ih (by omega) (zu l k).fr.toNat
    obtain⟨fr,to,bk,wt,he,-,-,h5,h6⟩:=hl _ (Zf (show k<l.length by omega))
    have h7:0<=p*(bk:Int):=Int.mul_nonneg hp (by omega)
    have h8:ZY p (zu l k)<=6:=by rw [he];unfold ZY;show (wt:Int) - p*(bk:Int)<=6;omega
    omega
theorem Uu {p:Int} {l:List Ed} {n:Nat} (hp:0<=p) (hl:∀e∈l,VJ n e):∀r v,zro p l r v<=6*((r*l.length:Nat):Int):=by
 intro r
 induction r with
 | zero=>intro v;show (0:Int)<=_;omega
 | succ r ih =>
   intro v
   have:=Vm hp hl ih l.length (Nat.le_refl _) v
   show zQ p l (zro p l r) l.length v<=_
   rw [Nat.succ_mul,Int.natCast_add]
   omega
theorem zjq {p:Int} {l:List Ed} (r v:Nat):0<=zro p l r v:=xY p l v 0 r (Nat.zero_le _)
theorem zdq {p:Int} {l:List Ed} (r k v:Nat):0<=zQ p l (zro p l r) k v:=Int.le_trans (zjq r v) (X8 p l _ v 0 k (Nat.zero_le _))
theorem za8 {p:Nat->Bool} {k:Nat} (h:∀q,q<k->p q=false):exN p k=false:=by
 cases e:exN p k with
 | false=>rfl
 | true =>
   obtain⟨q,h1,h2⟩:=Yf.1 e
   rw [h q h1] at h2;cases h2
set_option maxHeartbeats 8000000 in
theorem zg8 (n:Nat) (p:Int) (la:Option Addr) (lc:Nat) (l:List Ed) (w:World) (hE:yP w (.slice la l.length lc) l) (hl:∀e∈l,VJ n e) (hn:n<=16) (hp1:1<=p) (hp2:p<=100) (hlen:l.length<=60000) :
  Calls Tryz.prog 58 #[iV n,.slice la l.length lc,iV p] w fun e w'=>e=.returned (.bool (yn n l p))/\Below w.heap.size w w':=by
 obtain⟨la',lc',he1,he2,he3,hec⟩:=hE
 injection he1 with e1 e2 e3
 subst e1;subst e3
 unfold maxLen at he3
 have HEC:=z5 hec
 have HL:=z5 hl
 have hmk:=run_make_row' (P:=Tryz.prog) 22 3 (iV 0) 8 Tryz.underlying22 Tryz.j3 rfl .i64 .i64 n (by omega) (by omega)
 have H0:Hid (zg (w.alloc (.cells (madeCells #[iV 0] n) 3)) w.heap.size 3 n (fun v=>iV (zro p l 0 v))):=zg.zeros w _ n _
 clear hec hl e2
 go_enter Tryz.func58,Tryz.ntmps58
 go_wp2_with fail
 go_loopw [8] (fun i wr=>∃r:Nat,r<=n+1/\i=iV r/\(∀q,q<r->xw p l (zro p l q)=false)/\Below w.heap.size w wr/\zg wr w.heap.size 3 n (fun v=>iV (zro p l r v))) (fun i _=>n+1 - (intOf i).toNat)
 case atStart=>exact⟨0,by omega,rfl,fun q hq=>absurd hq (Nat.not_lt_zero _),below_alloc1 _ _,H0.out⟩
 case round =>
  clear H0 hmk
  obtain⟨r,hr,rfl,hno,hbel,hrow⟩:=hrel
  have HNO:=z5 hno
  have HB:=z5 hbel
  have HROW:=z5 hrow
  clear hno hrow hbel
  by_cases hrl:r<=n
  ·have hri:(r:Int)<=(n:Int):=by omega
   have hri2:¬(n:Int)<(r:Int):=by omega
   rename World=>wo
   go_wp2_with fail
   go_loopw [9,10] (fun st i wr=>∃k:Nat,k<=l.length/\i=iV k/\st=.bool (zh (fun j=>okE p (zro p l r) (zu l j)) k)/\Below w.heap.size w wr/\zg wr w.heap.size 3 n (fun v=>iV (zQ p l (zro p l r) k v))) (fun _ i _=>l.length - (intOf i).toNat)
   case atStart=>exact⟨0,Nat.zero_le _,rfl,rfl,HB.out,HROW.out⟩
   case round =>
    obtain⟨k,hk,rfl,rfl,hbel2,hrow2⟩:=hrel
    by_cases hkl:k<l.length
    ·have hki:(k:Int)<(l.length:Int):=by omega
     obtain⟨eb,eo,rfl,hebz,hecell⟩:=HEC.out (by omega)
     obtain⟨c0,c1,c2,c3⟩:=zac (hecell k hkl)
     rw [<-zc hbel2 _ _ hebz] at c0 c1 c2 c3
     have hebz2:eb<wr.heap.size:=by have:=hbel2.size;omega
     obtain⟨fr,to,bk,wt,hed,hfr,hto,hbk,hwt⟩:=HL.out _ (Zf hkl)
     have HST:Hid (∀b,zh (fun j=>okE p (zro p l r) (zu l j)) k=b->zh (fun j=>okE p (zro p l r) (zu l j)) (k+1)=(b && okE p (zro p l r) (zu l k))):=fun b h=>by show (zh _ k && _)=_;rw [h]
     have HSAME:=z5 (fun h=>zar (p:=p) (l:=l) (a:=zro p l r) k (by omega) h)
     have HREL:Hid (zQ p l (zro p l r) (k+1)=Zo p (zQ p l (zro p l r) k) (zu l k)):=rfl
     have hhi:=Vm (p:=p) (l:=l) (a:=zro p l r) (by omega) HL.out (Uu (by omega) HL.out r) k hk
     have hlo:=fun v=>zdq (p:=p) (l:=l) r k v
     have hr17:r*l.length<=16*60000:=Nat.mul_le_mul (by omega) hlen
     rw [hed] at c0 c1 c2 c3 HST HREL
     simp only at c0 c1 c2 c3
     have hcf:=hrow2.cell hfr
     have hct:=hrow2.cell hto
     have hft:=hrow2.frozen to
     have hxz:=hrow2.lt
     have hxf1:=hhi fr
     have hxf2:=hlo fr
     have hxt1:=hhi to
     have hxt2:=hlo to
     have HROW2:=z5 hrow2
     have HB2:=z5 hbel2
     have HSAMEX:Hid (zh (fun j=>okE p (zro p l r) (zu l j)) k=true->okE p (zro p l r) ⟨fr,to,bk,wt⟩=decide (zQ p l (zro p l r) k fr+((wt:Int) - p*(bk:Int))<=zQ p l (zro p l r) k to)):=fun h=>by rw [HSAME.out h];rfl
     have HRELX:Hid (Zo p (zQ p l (zro p l r) k) ⟨fr,to,bk,wt⟩=if zQ p l (zro p l r) k to<zQ p l (zro p l r) k fr+((wt:Int) - p*(bk:Int)) then (fun v=>if v=to then zQ p l (zro p l r) k fr+((wt:Int) - p*(bk:Int)) else zQ p l (zro p l r) k v) else zQ p l (zro p l r) k):=rfl
     obtain⟨ak,hak⟩:∃ak,zQ p l (zro p l r) k=ak:=⟨_,rfl⟩
     rw [hak] at hcf hct hxf1 hxf2 hxt1 hxt2 HROW2 HSAMEX HRELX HREL
     obtain⟨fk,hfk⟩:∃b,zh (fun j=>okE p (zro p l r) (zu l j)) k=b:=⟨_,rfl⟩
     have HST2:=z5 (HST.out fk hfk)
     rw [hfk] at HSAMEX
     rw [hfk]
     obtain⟨xf,hxf⟩:∃x,ak fr=x:=⟨_,rfl⟩
     obtain⟨xt,hxt⟩:∃x,ak to=x:=⟨_,rfl⟩
     rw [hxf] at hcf hxf1 hxf2 HSAMEX HRELX
     rw [hxt] at hct hxt1 hxt2 HSAMEX HRELX
     have hpb1:0<=p*(bk:Int):=Int.mul_nonneg (by omega) (by omega)
     have hpb2:p*(bk:Int)<=100*32:=Int.mul_le_mul hp2 (by omega) (by omega) (by omega)
     have hfi:(fr:Int)<(n:Int):=by omega
     have hti:(to:Int)<(n:Int):=by omega
     obtain⟨gp,hgp⟩:∃gp,xf+(wt:Int) - p*(bk:Int)=gp:=⟨_,rfl⟩
     have hgp2:xf+((wt:Int) - p*(bk:Int))=gp:=by omega
     rw [hgp2] at HSAMEX HRELX
     have hgb:-10000<=gp/\gp<=100000000:=by omega
     obtain⟨hgb1,hgb2⟩:=hgb
     clear hecell hed hrow2 hbel2 hhi hlo HSAME HST hxf1 hxf2 hxt1 hxt2 hgp2
     by_cases hup:xt<gp
     ·have hupd:decide (xt<gp)=true:=decide_eq_true hup
      have HN:Hid (zQ p l (zro p l r) (k+1)=fun v=>if v=to then gp else ak v):=by show _=_;rw [HREL.out,HRELX.out,if_pos hup]
      have HF:Hid (zh (fun j=>okE p (zro p l r) (zu l j)) (k+1)=false):=by
       show _=_
       rw [HST2.out]
       cases fk with
       | false=>rfl
       | true=>rw [HSAMEX.out rfl,decide_eq_false (by omega)];rfl
      go_wp2_with fail
      go_big_quiet ((fail))
      go_wp2_with fail
      go_roundw
      case rel =>
       refine⟨k+1,by omega,by go_num,by rw [HF.out],?_,?_⟩
       ·exact ((HB2.out.alloc HB2.out.size _).trans (below_draws _ _ _ |>.mono (by have:=HB2.out.size;simp;omega))).setCell (Nat.le_refl _) _
       ·rw [HN.out]
        have h:=((HROW2.out.alloc (.cells #[iV fr,iV to,iV bk,iV wt] 100)).drawn nq).set to (iV gp) hto
        refine h.congr fun v hv=>?_
        by_cases e:v=to
        ·rw [if_pos e];simp [e]
        ·rw [if_neg e];simp [e]
      case measure=>simp [intOf];omega
     ·have hupd:decide (xt<gp)=false:=decide_eq_false hup
      have HN:Hid (zQ p l (zro p l r) (k+1)=ak):=by show _=_;rw [HREL.out,HRELX.out,if_neg hup]
      have HF:Hid (zh (fun j=>okE p (zro p l r) (zu l j)) (k+1)=fk):=by
       show _=_
       rw [HST2.out]
       cases fk with
       | false=>rfl
       | true=>rw [HSAMEX.out rfl,decide_eq_true (by omega)];rfl
      go_wp2_with fail
      go_big_quiet ((fail))
      go_wp2_with fail
      go_roundw
      case rel =>
       refine⟨k+1,by omega,by go_num,by rw [HF.out],?_,?_⟩
       ·exact (HB2.out.alloc HB2.out.size _).trans (below_draws _ _ _ |>.mono (by have:=HB2.out.size;simp;omega))
       ·rw [HN.out]
        exact (HROW2.out.alloc (.cells #[iV fr,iV to,iV bk,iV wt] 100)).drawn nq
      case measure=>simp [intOf];omega
    ·have e:k=l.length:=by omega
     subst e
     have hki:¬(l.length:Int)<(l.length:Int):=by omega
     have HB2:=z5 hbel2
     have HROW2:=z5 hrow2
     have HSE:Hid (xw p l (zro p l r)=zh (fun j=>okE p (zro p l r) (zu l j)) l.length):=rfl
     obtain⟨fk,hfk⟩:∃b,zh (fun j=>okE p (zro p l r) (zu l j)) l.length=b:=⟨_,rfl⟩
     rw [hfk] at HSE ⊢
     clear hfk hbel2 hrow2
     cases fk with
     | true =>
       have HT:Hid (yn n l p=true):=yR (k:=r) (by omega) HSE.out
       go_wp2_with fail
       go_ret
       exact⟨z7 HT.out.symm,HB2.out⟩
     | false =>
       go_wp2_with fail
       go_roundw
       case rel =>
        refine⟨r+1,by omega,by go_num,fun q hq=>?_,HB2.out,HROW2.out⟩
        by_cases e:q=r
        ·rw [e];exact HSE.out
        ·exact HNO.out q (by omega)
       case measure=>simp [intOf];omega
  ·have e:r=n+1:=by omega
   subst e
   have hri:¬((n:Int)+1)<=(n:Int):=by omega
   have hri2:(n:Int)<(n:Int)+1:=by omega
   have hri3:¬(((n+1:Nat):Int))<=(n:Int):=by omega
   have HF:Hid (yn n l p=false):=za8 HNO.out
   go_wp2_with fail
   go_ret
   exact⟨z7 HF.out.symm,HB.out⟩
set_option maxRecDepth 8192
theorem VB {L:Lp} {t:Tg} {q:Nat} (hm:zx L=true) (hq:1<=q) (h:yn L.body.length (z8 L t) q=true) (hno:∀q':Nat,1<=q'->q'<q->yn L.body.length (z8 L t) q'=false):xi L t=q:=by
 obtain⟨h1,h2,h3,h4⟩:=Ud 95 1 (YN (t:=t) hm)
 by_cases e:ZA (fun p:Nat=>yn L.body.length (z8 L t) p) 95 1=q
 ·exact e
 ·exfalso
  by_cases hlt:ZA (fun p:Nat=>yn L.body.length (z8 L t) p) 95 1<q
  ·have h5:=hno _ h2 hlt
   have h6:yn L.body.length (z8 L t) (ZA (fun p:Nat=>yn L.body.length (z8 L t) p) 95 1:Nat)=true:=h1
   rw [h5] at h6;cases h6
  ·have h5:=h4 q hq (by omega)
   have h6:yn L.body.length (z8 L t) (q:Nat)=false:=h5
   rw [h] at h6;cases h6
theorem zau {L:Lp} {t:Tg} (hm:zx L=true) {q:Nat} (hno:∀q':Nat,1<=q'->q'<q->yn L.body.length (z8 L t) q'=false):q<=96:=by
 obtain⟨h1,h2,h3,h4⟩:=Ud 95 1 (YN (t:=t) hm)
 refine Classical.byContradiction fun hlt=>?_
 have h5:=hno _ h2 (by omega)
 have h6:yn L.body.length (z8 L t) (ZA (fun p:Nat=>yn L.body.length (z8 L t) p) 95 1:Nat)=true:=h1
 rw [h5] at h6;cases h6
set_option maxHeartbeats 4000000 in
theorem zdb (p0 p1 p2 q0 q1 q2 r:Int) (L:Lp) (v0 v2:Value) (a1:Option Addr) (cap:Nat) (w:World) (hL:zk w (.agg #[v0,.slice a1 L.body.length cap,v2]) L) (hm:zx L=true) :
  Calls Tryz.prog 23 #[.agg #[v0,.slice a1 L.body.length cap,v2],.agg #[iV p0,iV p1,iV p2,iV q0,iV q1,iV q2,iV r]] w fun e w'=>e=.returned (iV (xi L ⟨p0,p1,p2,q0,q1,q2,r⟩))/\Below w.heap.size w w':=by
 obtain⟨-,-,h16,-⟩:=zj hm
 have hlen:(z8 L ⟨p0,p1,p2,q0,q1,q2,r⟩).length<=60000:=by
  have:=VQ L ⟨p0,p1,p2,q0,q1,q2,r⟩ L.body.length h16
  have h2:L.body.length*3696<=16*3696:=Nat.mul_le_mul_right _ h16
  show (frD L ⟨p0,p1,p2,q0,q1,q2,r⟩ L.body.length).length<=60000
  omega
 have HED:=z5 (fun W (h:zk W (.agg #[v0,.slice a1 L.body.length cap,v2]) L)=>Uw _ ⟨p0,p1,p2,q0,q1,q2,r⟩ L W h hm)
 have HOK:Hid (∀e∈z8 L ⟨p0,p1,p2,q0,q1,q2,r⟩,VJ L.body.length e):=fun e he=>by
  obtain⟨fr,to,bk,wt,h0,h1,h2,h3,h4,h5⟩:=xq hm e he
  exact⟨fr,to,bk,wt,h0,h1,h2,h5,h4⟩
 have HLAST:=z5 (fun q h1 h2 h3=>VB (L:=L) (t:=⟨p0,p1,p2,q0,q1,q2,r⟩) (q:=q) hm h1 h2 h3)
 have H96:=z5 (fun q h=>zau (L:=L) (t:=⟨p0,p1,p2,q0,q1,q2,r⟩) hm (q:=q) h)
 have HL:=z5 hL
 clear hL hm
 go_enter Tryz.func23,Tryz.ntmps23
 go_wp2_with fail
 refine (HED.out _ (HL.out.below (below_alloc2 _ _ _))).mono ?_
 rintro e x1 ⟨ev,rfl,hev,hb⟩
 have hb1:Below (w.heap.size+1+1) ((w.alloc (.cells #[v0,.slice a1 L.body.length cap,v2] 25)).alloc (.cells #[iV p0,iV p1,iV p2,iV q0,iV q1,iV q2,iV r] 28)) x1:=by
  have hs:((w.alloc (.cells #[v0,.slice a1 L.body.length cap,v2] 25)).alloc (.cells #[iV p0,iV p1,iV p2,iV q0,iV q1,iV q2,iV r] 28)).heap.size=w.heap.size+1+1:=by simp
  rw [<-hs];exact hb
 have HB1:=z5 hb1
 have HEV:=z5 hev
 obtain⟨ea,ec,rfl,-⟩:=hev
 generalize z8 L ⟨p0,p1,p2,q0,q1,q2,r⟩=es at *
 clear hb hb1
 go_wp2_with fail
 go_loopw [6] (fun pv wr=>∃q:Nat,pv=iV q/\1<=q/\(∀q':Nat,1<=q'->q'<q->yn L.body.length es q'=false)/\Below x1.heap.size x1 wr) (fun pv _=>100 - (intOf pv).toNat)
 case atStart=>exact⟨1,rfl,Nat.le_refl _,fun q' h1 h2=>absurd h2 (by omega),Below.refl _ _⟩
 case round =>
  obtain⟨q,rfl,hq1,hno,hbel⟩:=hrel
  have hq96:=H96.out q hno
  have HNO:=z5 hno
  have HBL:=z5 hbel
  obtain⟨⟨l0,l1,l2⟩,-,z0,z1,hbw⟩:=zI (HB1.out.trans (hbel.mono (by have:=HB1.out.size;simp at this;omega)))
  have HBW:=z5 hbw
  obtain⟨rb,hrb⟩:∃b,yn L.body.length es (q:Int)=b:=⟨_,rfl⟩
  have HRO:Hid (Calls Tryz.prog 58 #[iV L.body.length,.slice ea es.length ec,iV q] wr fun e w'=>e=.returned (.bool rb)/\Below wr.heap.size wr w'):=by
   show Calls _ _ _ _ _
   rw [<-hrb]
   exact zg8 L.body.length q ea ec es wr (HEV.out.below hbel) HOK.out h16 (by omega) (by omega) hlen
  have HRB:=z5 hrb
  clear hno hbel hbw hrb l0 l2
  cases rb with
  | true =>
    have HE:=z5 (HLAST.out q hq1 HRB.out HNO.out)
    go_wp2_with fail
    refine HRO.out.mono ?_
    rintro e x2 ⟨rfl,hb2⟩
    have HX2:=z5 (HBW.out.trans (hb2.mono HBW.out.size))
    clear hb2
    go_wp2_with fail
    go_ret
    exact⟨yk (by rw [HE.out]),HX2.out⟩
  | false =>
    go_wp2_with fail
    refine HRO.out.mono ?_
    rintro e x2 ⟨rfl,hb2⟩
    have HX2:=z5 (HBL.out.trans (hb2.mono HBL.out.size))
    clear hb2
    go_wp2_with fail
    go_roundw
    case rel =>
     refine⟨q+1,by go_num,by omega,fun q' h1 h2=>?_,HX2.out⟩
     by_cases e:q'=q
     ·rw [e];exact HRB.out
     ·exact HNO.out q' h1 (by omega)
    case measure=>simp [intOf];omega
set_option maxRecDepth 8192
def zb9:Prop:=∀(v:Value) (t:Tg) (L:Lp) (w:World),zk w v L ->
 Calls Tryz.prog 144 #[v,.agg t.cells] w fun e w'=>(if (zx L && zp t)=true then e=.returned (.tuple #[iV (xP L t),iV (xi L t),iV 0]) else e=.returned (.tuple #[iV 0,iV 0,iV 2]))/\Below w.heap.size w w'
theorem zgs (t:Tg) (L:Lp) (v:Value) (w:World) (hL:zk w v L) (hm:zx L=true) (hmt:zp t=true) :
  Calls Tryz.prog 22 #[v,.agg t.cells] w fun e w'=>e=.returned (iV (xP L t))/\Below w.heap.size w w':=by
 obtain⟨-,h1,h16,-⟩:=zj hm
 obtain⟨v0,v1,v2,rfl,-,⟨a,cap,rfl,hl,hc,h4⟩,-⟩:=hL
 obtain⟨b,off,rfl,hb,hcell⟩:=h4 (by omega)
 obtain⟨p0,p1,p2,q0,q1,q2,r⟩:=t
 exact zem p0 p1 p2 q0 q1 q2 r L v0 v2 b off cap w hl (by unfold maxLen at hc;omega) hb hcell h16 hmt
theorem zfk (t:Tg) (L:Lp) (v:Value) (w:World) (hL:zk w v L) (hm:zx L=true) :
  Calls Tryz.prog 23 #[v,.agg t.cells] w fun e w'=>e=.returned (iV (xi L t))/\Below w.heap.size w w':=by
 have hL':=hL
 obtain⟨v0,v1,v2,rfl,-,⟨a,cap,rfl,hl,hc,h4⟩,-⟩:=hL'
 obtain⟨p0,p1,p2,q0,q1,q2,r⟩:=t
 exact zdb p0 p1 p2 q0 q1 q2 r L v0 v2 a cap w hL hm
end Go.Proofs.YtjoapiafpahihabGreat
