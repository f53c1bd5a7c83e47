import Derived.Test.YtjoapiafpahihabGreatDepS
import Derived.Test.YtjoapiafpahihabGreatRef67
import Derived.Test.YtjoapiafpahihabGreatKernS
import Derived.Test.YtjoapiafpahihabGreatTarget
namespace Go.Proofs.YtjoapiafpahihabGreat
open Go.RowKit Go.Joins
set_option linter.unusedVariables false
def Yt (L:Lp) (t:Tg) (k i:Nat):List Ed:=(VL L t k).take i
theorem zas (L:Lp) (t:Tg) (k:Nat):Yt L t k 0=[]:=rfl
theorem zn7 {L:Lp} {t:Tg} {k i:Nat} (h:(yr (z6 L.body k)).length<=i):Yt L t k i=VL L t k:=by
 unfold Yt
 exact List.take_of_length_le (by unfold VL;rw [List.length_map];exact h)
theorem zjy {L:Lp} {t:Tg} {k i:Nat} (h:i<(yr (z6 L.body k)).length):Yt L t k (i+1)=Yt L t k i++[⟨(zi (yr (z6 L.body k)) i).1,k,(zi (yr (z6 L.body k)) i).2,zr t (z6 L.body (zi (yr (z6 L.body k)) i).1.toNat).o⟩]:=by
 unfold Yt VL
 rw [List.take_add_one,List.getElem?_map,List.getElem?_eq_getElem h]
 unfold zi
 rw [List.getD_eq_getElem?_getD,List.getElem?_eq_getElem h]
 rfl
theorem zn8 (L:Lp) (t:Tg) (k i:Nat):(Yt L t k i).length<=2:=by
 unfold Yt VL yr
 rw [List.length_take,List.length_map]
 split
 ·exact Nat.le_trans (Nat.min_le_right _ _) (by simp)
 ·split
  ·exact Nat.le_trans (Nat.min_le_right _ _) (by simp)
  ·exact Nat.le_trans (Nat.min_le_right _ _) (by simp)
def Xf (s:St):Nat->Value:=fun j=>[iV s.xa,iV s.xb,iV s.ya,iV s.yb].getD j (.bool false)
theorem zc7 {w:World} {g:Nat} {e:TypeId} {s:St} (h:zg w g e 4 (Xf s)) {i:Nat} (hi:i<(yr s).length) :
  w.cell? ⟨g,i*2,none⟩=some (iV (zi (yr s) i).1)/\w.cell? ⟨g,i*2+1,none⟩=some (iV (zi (yr s) i).2):=by
 unfold yr at hi ⊢
 split at hi
 ·rename_i h4
  rw [if_pos h4]
  have e0:i=0:=by have:i<1:=hi;omega
  subst e0
  exact⟨h.cell (i:=0) (by omega),h.cell (i:=1) (by omega)⟩
 ·rename_i h4
  rw [if_neg h4]
  split at hi
  ·rename_i h10
   rw [if_pos h10]
   have e0:i=0\/i=1:=by have:i<2:=hi;omega
   rcases e0 with rfl | rfl
   ·exact⟨h.cell (i:=0) (by omega),h.cell (i:=1) (by omega)⟩
   ·exact⟨h.cell (i:=2) (by omega),h.cell (i:=3) (by omega)⟩
  ·exact absurd hi (Nat.not_lt_zero _)
theorem Xp {m n k:Int} {s:St} (h:yd m n k s=true):Xo s.o=((yr s).length:Int)/\(yr s).length<=2:=by
 unfold Xo yr
 by_cases h4:s.o=4
 ·rw [if_pos h4,if_pos h4];exact⟨rfl,by simp⟩
 ·rw [if_neg h4,if_neg h4]
  by_cases h10:10<s.o
  ·have h5:11<=s.o/\s.o<=18:=by
    unfold yd at h
    rw [if_neg (by omega),if_neg (by omega),if_neg (by omega),if_neg h4] at h
    split at h
    ·assumption
    ·exact Bool.noConfusion h
   rw [if_pos h10,if_pos (zK h5)];exact⟨rfl,by simp⟩
  ·rw [if_neg h10,if_neg (by rw [Z3 (by omega)];exact Bool.false_ne_true)];exact⟨rfl,by simp⟩
theorem Ut (w:World) (e:TypeId) (B:Nat) (hB:B<=w.heap.size):(w.alloc (.cells #[] e)).ownsRow B e 4 (.slice (some ⟨w.heap.size,0,none⟩) 0 0) 0 []:=by
 refine⟨rfl,.inr ⟨w.heap.size,0,#[],rfl,hB,?_,Nat.le_refl _,Nat.zero_le _,rfl,rfl⟩⟩
 show (w.heap.push _)[w.heap.size]?=_
 simp
theorem zd2 (w:World) (a b c d:Value) (e:TypeId) (f:Nat->Value) (h0:f 0=a) (h1:f 1=b) (h2:f 2=c) (h3:f 3=d):zg (w.alloc (.cells #[a,b,c,d] e)) w.heap.size e 4 f :=
 zg.made w _ e 4 f (by simp) (fun i hi=>by
  have:i=0\/i=1\/i=2\/i=3:=by omega
  rcases this with rfl | rfl | rfl | rfl
  ·rw [h0];rfl
  ·rw [h1];rfl
  ·rw [h2];rfl
  ·rw [h3];rfl)
set_option maxHeartbeats 8000000 in
set_option maxRecDepth 100000 in
theorem UV (p0 p1 p2 q0 q1 q2 r:Int) (L:Lp) (b off cap:Nat) (v0 v2:Value) (w:World) (hl1:L.body.length<=cap) (hm1:cap<=9223372036854775807) (hb:b<w.heap.size)
  (hbody:∀i,i<L.body.length->∀j,j<9->w.cell? ⟨b,off+i*9+j,none⟩=(zJ (z6 L.body i))[j]?) (hm:zx L=true) (hn16:L.body.length<=16) :
  Calls Tryz.prog 127 #[.agg #[v0,.slice (some ⟨b,off,none⟩) L.body.length cap,v2],.agg #[iV p0,iV p1,iV p2,iV q0,iV q1,iV q2,iV r]] w fun e w'=>∃ev,e=.returned ev/\w'.ownsRow (w.heap.size+1+1) 100 4 ev (xZ L ⟨p0,p1,p2,q0,q1,q2,r⟩ L.body.length).length (zO (xZ L ⟨p0,p1,p2,q0,q1,q2,r⟩ L.body.length))/\Below w.heap.size w w':=by
 have HBODY:=z5 hbody
 have HM:=z5 hm
 have HWT:=z5 (fun op W=>YK p0 p1 p2 q0 q1 q2 r op W)
 have HX0:Hid (((w.alloc (.cells #[v0,.slice (some ⟨b,off,none⟩) L.body.length cap,v2] 25)).alloc (.cells #[iV p0,iV p1,iV p2,iV q0,iV q1,iV q2,iV r] 28)).heap.size=w.heap.size+1+1):=by show _=_;simp
 have HST:=z5 (Ut ((w.alloc (.cells #[v0,.slice (some ⟨b,off,none⟩) L.body.length cap,v2] 25)).alloc (.cells #[iV p0,iV p1,iV p2,iV q0,iV q1,iV q2,iV r] 28)) 100 (w.heap.size+1+1) (by rw [HX0.out];omega))
 rw [HX0.out] at HST
 clear hbody hm
 obtain⟨j0,ji,jz0,jz1,jz2⟩:=info_parts Tryz.i100
 go_enter Tryz.func127,Tryz.ntmps127
 go_wp2_with fail
 go_loopw [5,16] (fun ov iv wr=>∃k:Nat,k<=L.body.length/\iv=iV k/\∃oa oc,ov=.slice oa (xZ L ⟨p0,p1,p2,q0,q1,q2,r⟩ k).length oc/\wr.ownsRow (w.heap.size+1+1) 100 4 (.slice oa (xZ L ⟨p0,p1,p2,q0,q1,q2,r⟩ k).length oc) (xZ L ⟨p0,p1,p2,q0,q1,q2,r⟩ k).length (zO (xZ L ⟨p0,p1,p2,q0,q1,q2,r⟩ k))/\Below (w.heap.size+1+1) ((w.alloc (.cells #[v0,.slice (some ⟨b,off,none⟩) L.body.length cap,v2] 25)).alloc (.cells #[iV p0,iV p1,iV p2,iV q0,iV q1,iV q2,iV r] 28)) wr) (fun _ iv _=>L.body.length - (intOf iv).toNat)
 case atStart=>exact⟨0,Nat.zero_le _,rfl,_,_,rfl,HST.out,(Below.refl _ _).alloc (by rw [HX0.out];omega) _⟩
 case round =>
  obtain⟨k,hk,rfl,oa,oc,rfl,hown,hbel⟩:=hrel
  have HO:=z5 hown
  have HB:=z5 hbel
  obtain⟨⟨l0,l1,l2⟩,⟨t0,t1,t2,t3,t4,t5,t6⟩,z0,z1,hbw⟩:=zI hbel
  have HW:=z5 hbw
  clear hown hbel hbw
  by_cases hkl:k<L.body.length
  ·have hki:(k:Int)<(L.body.length:Int):=by omega
   have hbz:b<wr.heap.size:=by have:=HW.out.size;omega
   have hz2:w.heap.size+1+1<=wr.heap.size:=by have:=HB.out.size;rw [HX0.out] at this;exact this
   obtain⟨c0,c1,c2,c3,c4,c5,c6,c7,c8⟩:=Zj (fun j hj=>(zc HW.out b (off+k*9+j) hb).trans (HBODY.out k hkl j hj))
   obtain⟨hlk,hnl2⟩:=Xp (zl (zj HM.out).2.2.2.2.2.2 k hkl)
   have HUS:=z5 (fun (rf:Int × Int) (h:rf∈yr (z6 L.body k))=>zcj HM.out hkl h)
   have HSK:Hid (∃sk,z6 L.body k=sk):=⟨_,rfl⟩
   have HP:=z5 (fun i (h:i<(yr (z6 L.body k)).length)=>zjy (L:=L) (t:=⟨p0,p1,p2,q0,q1,q2,r⟩) h)
   have HPA:=z5 (zn7 (L:=L) (t:=⟨p0,p1,p2,q0,q1,q2,r⟩) (k:=k) (i:=(yr (z6 L.body k)).length) (Nat.le_refl _))
   have HRW:=z5 (zd2 (wr.alloc (.cells #[iV (z6 L.body k).o,iV (z6 L.body k).xa,iV (z6 L.body k).xb,iV (z6 L.body k).ya,iV (z6 L.body k).yb,iV (z6 L.body k).ar,iV (z6 L.body k).sp,iV (z6 L.body k).pl,iV (z6 L.body k).nn] 41)) (iV (z6 L.body k).xa) (iV (z6 L.body k).xb) (iV (z6 L.body k).ya) (iV (z6 L.body k).yb) 39 (Xf (z6 L.body k)) rfl rfl rfl rfl)
   have ez:(wr.alloc (.cells #[iV (z6 L.body k).o,iV (z6 L.body k).xa,iV (z6 L.body k).xb,iV (z6 L.body k).ya,iV (z6 L.body k).yb,iV (z6 L.body k).ar,iV (z6 L.body k).sp,iV (z6 L.body k).pl,iV (z6 L.body k).nn] 41)).heap.size=wr.heap.size+1:=by simp
   rw [ez] at HRW
   generalize hxk:z6 L.body k=xk at *
   have HXK:=z5 hxk
   clear hxk HSK ez
   obtain⟨o,xa,xb,ya,yb,ar,sp,pl,nn⟩:=xk
   generalize hus:yr ⟨o,xa,xb,ya,yb,ar,sp,pl,nn⟩=us at *
   have HUSQ:=z5 hus
   clear hus
   simp only at c0 c1 c2 c3 c4 c5 c6 c7 c8 HRW hlk
   go_wp2_with (go_at_call 99;refine (Ve _ _).mono ?_;rintro e w' ⟨rfl,rfl⟩)
   clear l0 l1 l2 t0 t1 t2 t3 t4 t5 t6 z0 z1 c0 c1 c2 c3 c4 c5 c6 c7 c8
   rename World=>wo
   go_loopw [5,32] (fun ov iv wr=>∃i:Nat,i<=us.length/\iv=iV i/\(zg wr (wo.heap.size+1) 39 4 (Xf ⟨o,xa,xb,ya,yb,ar,sp,pl,nn⟩))/\∃oa oc,ov=.slice oa (zB (xZ L ⟨p0,p1,p2,q0,q1,q2,r⟩ k) (Yt L ⟨p0,p1,p2,q0,q1,q2,r⟩ k i)).length oc/\wr.ownsRow (w.heap.size+1+1) 100 4 (.slice oa (zB (xZ L ⟨p0,p1,p2,q0,q1,q2,r⟩ k) (Yt L ⟨p0,p1,p2,q0,q1,q2,r⟩ k i)).length oc) (zB (xZ L ⟨p0,p1,p2,q0,q1,q2,r⟩ k) (Yt L ⟨p0,p1,p2,q0,q1,q2,r⟩ k i)).length (zO (zB (xZ L ⟨p0,p1,p2,q0,q1,q2,r⟩ k) (Yt L ⟨p0,p1,p2,q0,q1,q2,r⟩ k i)))/\Below (w.heap.size+1+1) ((w.alloc (.cells #[v0,.slice (some ⟨b,off,none⟩) L.body.length cap,v2] 25)).alloc (.cells #[iV p0,iV p1,iV p2,iV q0,iV q1,iV q2,iV r] 28)) wr) (fun _ iv _=>us.length - (intOf iv).toNat)
   case atStart=>exact⟨0,Nat.zero_le _,rfl,HRW.out,oa,oc,by rw [zas,xJ],by rw [zas,xJ];exact zt HO.out (below_alloc2 _ _ _),HB.out.trans ((below_alloc2 wo _ _).mono hz2)⟩
   case round =>
    clear HO HB HW HRW
    obtain⟨i,hi,rfl,hrow,oa,oc,rfl,hown,hbel⟩:=hrel
    have HO:=z5 hown
    have HB:=z5 hbel
    have HR:=z5 hrow
    obtain⟨⟨l0,l1,l2⟩,⟨t0,t1,t2,t3,t4,t5,t6⟩,z0,z1,hbw⟩:=zI hbel
    have HW:=z5 hbw
    have hzq:w.heap.size+1+1<=wr.heap.size:=by have:=hbel.size;rw [HX0.out] at this;exact this
    have hGz:wo.heap.size+1<wr.heap.size:=hrow.lt
    by_cases hil:i<us.length
    ·have hii:(i:Int)<(us.length:Int):=by omega
     have hi1:i<=1:=by omega
     have hrf:=HUS.out (zi us i) (by
      unfold zi
      rw [List.getD_eq_getElem?_getD,List.getElem?_eq_getElem hil]
      exact List.getElem_mem hil)
     have hcc:=zc7 hrow (i:=i) (by rw [HUSQ.out];exact hil)
     rw [HUSQ.out] at hcc
     obtain⟨f0,f1⟩:=hcc
     have HPS:=z5 (HP.out i hil)
     clear hown hbel hbw hrow
     generalize zi us i=rf at *
     obtain⟨ra,rb⟩:=rf
     obtain⟨u1,u2,u3,u4⟩:=hrf
     simp only at f0 f1 u1 u2 u3 u4
     obtain⟨rn,rfl⟩:=Int.eq_ofNat_of_zero_le u1
     have hrl:rn<L.body.length:=by omega
     have hrli:(rn:Int)<(L.body.length:Int):=by omega
     have hro:=((zc HW.out b (off+rn*9) hb).trans ((Zj (fun j hj=>HBODY.out rn hrl j hj)).1))
     have hbq:b<wr.heap.size:=by have:=HW.out.size;omega
     rw [show (((rn:Nat):Int),rb).1.toNat=rn from Int.toNat_natCast _] at HPS
     simp only at HPS
     generalize (z6 L.body rn).o=ro at *
     have HSS:Hid (∀w':World,Below (wr.heap.size+1) (wr.alloc (.cells #[iV (rn:Int),iV rb] 39)) w'->w'.cell? ⟨w.heap.size+1,0,none⟩=some (iV p0)/\w'.cell? ⟨w.heap.size+1,1,none⟩=some (iV p1)/\w'.cell? ⟨w.heap.size+1,2,none⟩=some (iV p2)/\w'.cell? ⟨w.heap.size+1,3,none⟩=some (iV q0)/\w'.cell? ⟨w.heap.size+1,4,none⟩=some (iV q1)/\w'.cell? ⟨w.heap.size+1,5,none⟩=some (iV q2)/\w'.cell? ⟨w.heap.size+1,6,none⟩=some (iV r)/\w'.cell? ⟨w.heap.size,1,none⟩=some (.slice (some ⟨b,off,none⟩) L.body.length cap)/\w'.cell? ⟨wr.heap.size,0,none⟩=some (iV (rn:Int))/\w'.cell? ⟨wr.heap.size,1,none⟩=some (iV rb)/\w'.cell? ⟨b,off+rn*9,none⟩=some (iV ro)):=by
      intro w' h
      have e1:(wr.alloc (.cells #[iV (rn:Int),iV rb] 39)).heap.size=wr.heap.size+1:=by simp
      have h':Below (wr.alloc (.cells #[iV (rn:Int),iV rb] 39)).heap.size (wr.alloc (.cells #[iV (rn:Int),iV rb] 39)) w':=by rw [e1];exact h
      have hz:∀g o,g<wr.heap.size->w'.cell? ⟨g,o,none⟩=wr.cell? ⟨g,o,none⟩:=fun g o hg=>by rw [zc h' _ _ (by omega),zc (below_alloc1 wr _) _ _ hg]
      rw [hz _ _ z1,hz _ _ z1,hz _ _ z1,hz _ _ z1,hz _ _ z1,hz _ _ z1,hz _ _ z1,hz _ _ z0,hz _ _ hbq]
      refine⟨t0,t1,t2,t3,t4,t5,t6,l1,?_,?_,hro⟩
      ·rw [zc h' _ _ (by omega)];go_simp
      ·rw [zc h' _ _ (by omega)];go_simp
     go_wp2_with fail
     clear l0 l1 l2 t0 t1 t2 t3 t4 t5 t6 f0 f1
     refine wp_region_noPanic ?_
     refine ze 99 (fun w'=>w'.cell? ⟨w.heap.size+1,0,none⟩=some (iV p0)/\w'.cell? ⟨w.heap.size+1,1,none⟩=some (iV p1)/\w'.cell? ⟨w.heap.size+1,2,none⟩=some (iV p2)/\w'.cell? ⟨w.heap.size+1,3,none⟩=some (iV q0)/\w'.cell? ⟨w.heap.size+1,4,none⟩=some (iV q1)/\w'.cell? ⟨w.heap.size+1,5,none⟩=some (iV q2)/\w'.cell? ⟨w.heap.size+1,6,none⟩=some (iV r)/\w'.cell? ⟨w.heap.size,1,none⟩=some (.slice (some ⟨b,off,none⟩) L.body.length cap)/\w'.cell? ⟨wr.heap.size,0,none⟩=some (iV (rn:Int))/\w'.cell? ⟨wr.heap.size,1,none⟩=some (iV rb)/\w'.cell? ⟨b,off+rn*9,none⟩=some (iV ro)) (by kernel_rfl) (HSS.out _ (zH _ _)) (fun hHeld=>?_)
     refine utk (i:=0) rfl hHeld ?_
     refine utk (i:=1) rfl hHeld ?_
     refine utk (i:=2) rfl hHeld ?_
     refine utk (i:=3) rfl hHeld ?_
     refine utk (i:=4) rfl hHeld ?_
     refine utk (i:=5) rfl hHeld ?_
     refine utk (i:=6) rfl hHeld ?_
     refine utk (i:=7) rfl hHeld ?_
     refine z9 (i:=8) rfl (by kernel_rfl) (fun K hK9=>?_)
     go_simp
     refine (HWT.out _ _).mono ?_
     rintro e x2 ⟨rfl,hb9⟩
     have HB9:Hid (Below (wr.heap.size+1) (wr.alloc (.cells #[iV (rn:Int),iV rb] 39)) x2):=by
      have e1:(wr.alloc (.cells #[iV (rn:Int),iV rb] 39)).heap.size=wr.heap.size+1:=by simp
      exact (zH _ _).trans (hb9.mono (by show _<=(wr.alloc (.cells #[iV (rn:Int),iV rb] 39)).heap.size;omega))
     have hHeld:=HSS.out _ HB9.out
     refine nxt hK9.out (.inr hHeld) ?_
     clear hK9 K hb9
     refine utk (i:=9) rfl hHeld ?_
     refine zf (by kernel_rfl) ?_ _
     refine NoPanic.normal ?_
     obtain⟨-,-,-,-,-,-,-,-,g0,g1,-⟩:=hHeld
     have HXB:Hid (Below wr.heap.size wr x2):=(below_alloc1 wr _).trans (HB9.out.mono (by omega))
     have hx2z:wr.heap.size<x2.heap.size:=by have:=HB9.out.size;simp at this;omega
     have HOX:=z5 (zt HO.out HXB.out)
     have HBX:=z5 (HB.out.trans (HXB.out.mono hzq))
     have HRX:=z5 ((HR.out.below HXB.out hGz).alloc (.cells #[iV (rn:Int),iV (k:Int),iV rb,iV (zr ⟨p0,p1,p2,q0,q1,q2,r⟩ ro)] 100))
     have HLEN:Hid ((zB (xZ L ⟨p0,p1,p2,q0,q1,q2,r⟩ k) (Yt L ⟨p0,p1,p2,q0,q1,q2,r⟩ k i)).length<=34):=by
      show (zB _ _).length<=34
      have e1:=zdy L ⟨p0,p1,p2,q0,q1,q2,r⟩ k
      have e2:=zn8 L ⟨p0,p1,p2,q0,q1,q2,r⟩ k i
      rw [Yw];omega
     generalize hwt:zr ⟨p0,p1,p2,q0,q1,q2,r⟩ ro=wt at *
     clear hwt HSS
     go_wp2_with (at_builtin;refine wpList_append_own _ rfl (.tmp 45) (.tmp 53) 97 rfl (w.heap.size+1+1) 100 j0 (.agg #[iV 0,iV 0,iV 0,iV 0]) 4 32 Tryz.underlying97 ji jz0 jz1 jz2 rfl (by decide) _ _ _ rfl (zt HOX.out (below_alloc1 _ _)) ⟨x2.heap.size,0,none⟩ 1 1 (zG ⟨rn,k,rb,wt⟩) rfl rfl (by exact Xn _ _ _ _ _ _) (by intro u hu;unfold zG at hu;simp at hu;rcases hu with rfl | rfl | rfl | rfl <;> rfl) (by unfold maxLen;have:=HLEN.out;omega) (by have:=HLEN.out;omega) (by simp;omega) ?_;intro v2' w2 hown2 hgrow2 hnil2;obtain⟨oa2,oc2,rfl,hl1',hl2'⟩:=zS hown2;have HO2:=z5 hown2;have HG2:=z5 hgrow2;clear hown2 hgrow2)
     go_roundw
     case rel =>
      have e1:zB (xZ L ⟨p0,p1,p2,q0,q1,q2,r⟩ k) (Yt L ⟨p0,p1,p2,q0,q1,q2,r⟩ k i)++[⟨rn,k,rb,wt⟩]=zB (xZ L ⟨p0,p1,p2,q0,q1,q2,r⟩ k) (Yt L ⟨p0,p1,p2,q0,q1,q2,r⟩ k (i+1)):=by rw [HPS.out];unfold zB;rw [List.append_assoc]
      have e2:(zB (xZ L ⟨p0,p1,p2,q0,q1,q2,r⟩ k) (Yt L ⟨p0,p1,p2,q0,q1,q2,r⟩ k i)).length+1=(zB (xZ L ⟨p0,p1,p2,q0,q1,q2,r⟩ k) (Yt L ⟨p0,p1,p2,q0,q1,q2,r⟩ k (i+1))).length:=by rw [<-e1,List.length_append];rfl
      have h2:=HO2.out
      rw [Xm,e1,e2] at h2
      exact⟨i+1,by omega,by go_num,HRX.out.grown HG2.out (ZE (zt HOX.out (below_alloc1 _ _)) HRX.out (by decide)),oa2,oc2,by rw [e2],h2,(HBX.out.alloc (by omega) _).grown HG2.out (by simp;omega) (ye HO.out)⟩
     case measure=>simp [intOf];omega
    ·have e:i=us.length:=by omega
     have hii:¬(i:Int)<(us.length:Int):=by omega
     have e1:zB (xZ L ⟨p0,p1,p2,q0,q1,q2,r⟩ k) (Yt L ⟨p0,p1,p2,q0,q1,q2,r⟩ k i)=xZ L ⟨p0,p1,p2,q0,q1,q2,r⟩ (k+1):=by rw [e,HPA.out];rfl
     have HE:=z5 e1
     clear e1 e hown hbel hbw hrow l0 l1 l2 t0 t1 t2 t3 t4 t5 t6 z0 z1
     go_wp2_with fail
     go_roundw
     case rel=>exact⟨k+1,by omega,by go_num,oa,oc,by rw [HE.out],by have h:=HO.out;rw [HE.out] at h;exact h,HB.out⟩
     case measure=>simp [intOf];omega
  ·have e:k=L.body.length:=by omega
   have hki:¬(k:Int)<(L.body.length:Int):=by omega
   have HE:=z5 e
   clear e
   go_wp2_with fail
   go_ret
   exact⟨_,rfl,by have h:=HO.out;rw [HE.out] at h ⊢;exact h,HW.out⟩
theorem XK {w wr:World} {v0 v1 v2:Value} {ta:TypeId} (h:Below (w.heap.size+1) (w.alloc (.cells #[v0,v1,v2] ta)) wr) :
  (wr.cell? ⟨w.heap.size,0,none⟩=some v0/\wr.cell? ⟨w.heap.size,1,none⟩=some v1/\wr.cell? ⟨w.heap.size,2,none⟩=some v2)/\w.heap.size<wr.heap.size/\Below w.heap.size w wr:=by
 have hs:(w.alloc (.cells #[v0,v1,v2] ta)).heap.size=w.heap.size+1:=by simp
 have hz:=h.size
 have h':Below (w.alloc (.cells #[v0,v1,v2] ta)).heap.size (w.alloc (.cells #[v0,v1,v2] ta)) wr:=by rw [hs];exact h
 refine⟨⟨?_,?_,?_⟩,by omega,(below_alloc1 w _).trans (h.mono (by omega))⟩
 all_goals rw [zc h' _ _ (by omega)]
 all_goals go_simp
theorem zj3 (L:Lp) (a0:Option Addr) (cap0 b off cap:Nat) (v2:Value) (fr to:Nat) (w:World) (hl0:L.logs.length<=cap0) (hm0:cap0<=9223372036854775807) (hl1:L.body.length<=cap) (hm1:cap<=9223372036854775807) (hb:b<w.heap.size)
  (hbody:∀i,i<L.body.length->∀j,j<9->w.cell? ⟨b,off+i*9+j,none⟩=(zJ (z6 L.body i))[j]?) (hlogs:yf w (.slice a0 L.logs.length cap0) L.logs) (hm:zx L=true) (hfr:fr<L.body.length) (hto:to<L.body.length) (hmem:zU (z6 L.body fr) (z6 L.body to)=true) :
  Calls Tryz.prog 161 #[.agg #[.slice a0 L.logs.length cap0,.slice (some ⟨b,off,none⟩) L.body.length cap,v2],iV fr,iV to] w fun e w'=>e=.returned (.tuple #[iV (lbV (lbD (z6 L.body fr) (z6 L.body to) (yh fr to) (yS L (z6 L.body fr)))),.bool (lbB (lbD (z6 L.body fr) (z6 L.body to) (yh fr to) (yS L (z6 L.body fr))))])/\Below w.heap.size w w':=by
 obtain⟨m1,m2,m3,m4,m5,m6,m7⟩:=zj hm
 obtain⟨hw1,hw2⟩:=ZD hmem
 obtain⟨⟨r1,r2⟩,⟨s1,s2⟩,⟨t1,t2⟩⟩:=Zd (zl m7 fr hfr) hw1
 obtain⟨-,⟨u1,u2⟩,⟨v1,v3⟩⟩:=Zd (zl m7 to hto) hw2
 obtain⟨i,lg,e1,e2,e3,e4,e5,e6,e7⟩:=UA m5 r1 r2
 obtain⟨a,c,hv,h1,h2,h3,h4⟩:=hlogs
 injection hv with q1 q2 q3
 subst q1;subst q3
 obtain⟨lb,loff,rfl,hlb,hlc⟩:=h4 (by omega)
 have hA:=hbody fr hfr
 have hB:=hbody to hto
 have hcl:=hlc i e2
 rw [e3] at hcl
 have e8:2 ^ lg=yS L (z6 L.body fr):=by unfold p2 at e5;exact Int.ofNat.inj e5
 clear hbody hlc h3 h4 m5 m6 m7 hmem hw1 hw2 e5 hm
 generalize hZ:yS L (z6 L.body fr)=SZ at *
 generalize z6 L.body to=B at *
 generalize z6 L.body fr=A at *
 obtain⟨o1,xa1,xb1,ya1,yb1,ar1,sp1,pl1,nn1⟩:=A
 obtain⟨o2,xa2,xb2,ya2,yb2,ar2,sp2,pl2,nn2⟩:=B
 simp only at e1 s1 s2 t1 t2 u1 u2 v1 v3
 subst e1
 exact zfl v2 v2 fr to i lg L.body.length o1 xa1 xb1 ya1 yb1 sp1 pl1 nn1 o2 xa2 xb2 ya2 yb2 ar2 sp2 pl2 nn2 lb loff cap0 b off cap SZ (yh fr to) L.logs.length w hfr hto m3 hl1 hm1 e2 hl0 hm0 hb hlb hA hB hcl e4 e8 e7 rfl s1 s2 t1 t2 u1 u2 v1 v3
theorem zku {L:Lp} {f t:Nat} (h:zU (z6 L.body f) (z6 L.body t)=false):yD L f (t+1)=yD L f t:=by
 show yD L f t++ZM L f t=_
 unfold ZM
 rw [if_neg (by rw [h];exact Bool.false_ne_true),List.append_nil]
theorem zet {L:Lp} {f t:Nat} (h:lbD (z6 L.body f) (z6 L.body t) (yh f t) (yS L (z6 L.body f))=none):yD L f (t+1)=yD L f t:=by
 show yD L f t++ZM L f t=_
 unfold ZM
 rw [h]
 split <;> rw [List.append_nil]
theorem zeu {L:Lp} {f t k:Nat} (hm:zU (z6 L.body f) (z6 L.body t)=true) (h:lbD (z6 L.body f) (z6 L.body t) (yh f t) (yS L (z6 L.body f))=some k):yD L f (t+1)=yD L f t++[⟨f,t,k,xm (z6 L.body f)⟩]:=by
 show yD L f t++ZM L f t=_
 unfold ZM
 rw [if_pos hm,h]
set_option maxHeartbeats 8000000 in
set_option maxRecDepth 100000 in
theorem UL (L:Lp) (a0:Option Addr) (cap0 b off cap:Nat) (v2:Value) (w:World) (hl0:L.logs.length<=cap0) (hm0:cap0<=9223372036854775807) (hl1:L.body.length<=cap) (hm1:cap<=9223372036854775807) (hb:b<w.heap.size)
  (hbody:∀i,i<L.body.length->∀j,j<9->w.cell? ⟨b,off+i*9+j,none⟩=(zJ (z6 L.body i))[j]?) (hlogs:yf w (.slice a0 L.logs.length cap0) L.logs) (hm:zx L=true) (hn16:L.body.length<=16) :
  Calls Tryz.prog 128 #[.agg #[.slice a0 L.logs.length cap0,.slice (some ⟨b,off,none⟩) L.body.length cap,v2]] w fun e w'=>∃ev,e=.returned ev/\w'.ownsRow (w.heap.size+1) 100 4 ev (yL L L.body.length).length (zO (yL L L.body.length))/\Below w.heap.size w w':=by
 have HBODY:=z5 hbody
 have HLOGS:=z5 hlogs
 have HM:=z5 hm
 have HX0:Hid ((w.alloc (.cells #[.slice a0 L.logs.length cap0,.slice (some ⟨b,off,none⟩) L.body.length cap,v2] 25)).heap.size=w.heap.size+1):=by show _=_;simp
 have HST:=z5 (Ut (w.alloc (.cells #[.slice a0 L.logs.length cap0,.slice (some ⟨b,off,none⟩) L.body.length cap,v2] 25)) 100 (w.heap.size+1) (by rw [HX0.out];omega))
 rw [HX0.out] at HST
 have HLEAST:=z5 (fun f t W (hW:Below w.heap.size w W) (h1:f<L.body.length) (h2:t<L.body.length) (h3:zU (z6 L.body f) (z6 L.body t)=true)=>zj3 L a0 cap0 b off cap v2 f t W hl0 hm0 hl1 hm1 (by have:=hW.size;omega) (fun i hi j hj=>by rw [zc hW _ _ hb];exact HBODY.out i hi j hj) (HLOGS.out.below hW) HM.out h1 h2 h3)
 clear hbody hlogs hm
 obtain⟨j0,ji,jz0,jz1,jz2⟩:=info_parts Tryz.i100
 go_enter Tryz.func128,Tryz.ntmps128
 go_wp2_with fail
 go_loopw [3,12] (fun ov iv wr=>∃f:Nat,f<=L.body.length/\iv=iV f/\∃oa oc,ov=.slice oa (yL L f).length oc/\wr.ownsRow (w.heap.size+1) 100 4 (.slice oa (yL L f).length oc) (yL L f).length (zO (yL L f))/\Below (w.heap.size+1) (w.alloc (.cells #[.slice a0 L.logs.length cap0,.slice (some ⟨b,off,none⟩) L.body.length cap,v2] 25)) wr) (fun _ iv _=>L.body.length - (intOf iv).toNat)
 case atStart=>exact⟨0,Nat.zero_le _,rfl,_,_,rfl,HST.out,(Below.refl _ _).alloc (by rw [HX0.out];omega) _⟩
 case round =>
  obtain⟨f,hf,rfl,oa,oc,rfl,hown,hbel⟩:=hrel
  have HO:=z5 hown
  have HB:=z5 hbel
  obtain⟨⟨l0,l1,l2⟩,z0,hbw⟩:=XK hbel
  have HW:=z5 hbw
  clear hown hbel hbw
  by_cases hfl:f<L.body.length
  ·have hfi:(f:Int)<(L.body.length:Int):=by omega
   go_wp2_with fail
   clear l0 l1 l2 z0
   rename World=>wo
   go_loopw [3,18] (fun ov iv wr=>∃t:Nat,t<=L.body.length/\iv=iV t/\∃oa oc,ov=.slice oa (zB (yL L f) (yD L f t)).length oc/\wr.ownsRow (w.heap.size+1) 100 4 (.slice oa (zB (yL L f) (yD L f t)).length oc) (zB (yL L f) (yD L f t)).length (zO (zB (yL L f) (yD L f t)))/\Below (w.heap.size+1) (w.alloc (.cells #[.slice a0 L.logs.length cap0,.slice (some ⟨b,off,none⟩) L.body.length cap,v2] 25)) wr) (fun _ iv _=>L.body.length - (intOf iv).toNat)
   case atStart=>exact⟨0,Nat.zero_le _,rfl,oa,oc,by show _=Value.slice oa (zB (yL L f) []).length oc;rw [xJ],by show wo.ownsRow _ _ _ (.slice oa (zB (yL L f) []).length oc) (zB (yL L f) []).length (zO (zB (yL L f) []));rw [xJ];exact HO.out,HB.out⟩
   case round =>
    clear HO HB HW
    obtain⟨t,ht,rfl,oa,oc,rfl,hown,hbel⟩:=hrel
    have HO:=z5 hown
    have HB:=z5 hbel
    obtain⟨⟨l0,l1,l2⟩,z0,hbw⟩:=XK hbel
    have HW:=z5 hbw
    have hzq:w.heap.size+1<=wr.heap.size:=by have:=hbel.size;rw [HX0.out] at this;exact this
    clear hown hbel hbw
    by_cases htl:t<L.body.length
    ·have hti:(t:Int)<(L.body.length:Int):=by omega
     have hbz:b<wr.heap.size:=by have:=HW.out.size;omega
     have HS2:=z5 (And.intro (Zj (fun j hj=>(zc HW.out b (off+f*9+j) hb).trans (HBODY.out f hfl j hj))) (Zj (fun j hj=>(zc HW.out b (off+t*9+j) hb).trans (HBODY.out t htl j hj))))
     have HLS:=z5 (fun W hW h3=>HLEAST.out f t W hW hfl htl h3)
     have HNO:=z5 (fun h=>zku (L:=L) (f:=f) (t:=t) h)
     have HNN:=z5 (fun h=>zet (L:=L) (f:=f) (t:=t) h)
     have HSM:=z5 (fun k hm h=>zeu (L:=L) (f:=f) (t:=t) (k:=k) hm h)
     have HLE:=z5 (fun k (h:lbD (z6 L.body f) (z6 L.body t) (yh f t) (yS L (z6 L.body f))=some k)=>Nat.le_trans (zr8 h) (zhw HM.out hfl))
     generalize lbD (z6 L.body f) (z6 L.body t) (yh f t) (yS L (z6 L.body f))=lbo at *
     generalize z6 L.body t=tt at *
     generalize z6 L.body f=ff at *
     obtain⟨o1,xa1,xb1,ya1,yb1,ar1,sp1,pl1,nn1⟩:=ff
     obtain⟨o2,xa2,xb2,ya2,yb2,ar2,sp2,pl2,nn2⟩:=tt
     have HSH:=z5 (fun W=>zg9 o1 xa1 xb1 ya1 yb1 ar1 sp1 pl1 nn1 o2 xa2 xb2 ya2 yb2 ar2 sp2 pl2 nn2 W)
     have HWW:=z5 (fun W=>UZ o1 xa1 xb1 ya1 yb1 ar1 sp1 pl1 nn1 W)
     generalize zU ⟨o1,xa1,xb1,ya1,yb1,ar1,sp1,pl1,nn1⟩ ⟨o2,xa2,xb2,ya2,yb2,ar2,sp2,pl2,nn2⟩=mb at *
     generalize xm ⟨o1,xa1,xb1,ya1,yb1,ar1,sp1,pl1,nn1⟩=wt at *
     have HSS:Hid (∀w':World,Below wr.heap.size wr w'->w'.cell? ⟨w.heap.size,1,none⟩=some (.slice (some ⟨b,off,none⟩) L.body.length cap)/\(w'.cell? ⟨b,off+f*9,none⟩=some (iV o1)/\w'.cell? ⟨b,off+f*9+1,none⟩=some (iV xa1)/\w'.cell? ⟨b,off+f*9+2,none⟩=some (iV xb1)/\w'.cell? ⟨b,off+f*9+3,none⟩=some (iV ya1)/\w'.cell? ⟨b,off+f*9+4,none⟩=some (iV yb1)/\w'.cell? ⟨b,off+f*9+5,none⟩=some (iV ar1)/\w'.cell? ⟨b,off+f*9+6,none⟩=some (iV sp1)/\w'.cell? ⟨b,off+f*9+7,none⟩=some (iV pl1)/\w'.cell? ⟨b,off+f*9+8,none⟩=some (iV nn1))/\(w'.cell? ⟨b,off+t*9,none⟩=some (iV o2)/\w'.cell? ⟨b,off+t*9+1,none⟩=some (iV xa2)/\w'.cell? ⟨b,off+t*9+2,none⟩=some (iV xb2)/\w'.cell? ⟨b,off+t*9+3,none⟩=some (iV ya2)/\w'.cell? ⟨b,off+t*9+4,none⟩=some (iV yb2)/\w'.cell? ⟨b,off+t*9+5,none⟩=some (iV ar2)/\w'.cell? ⟨b,off+t*9+6,none⟩=some (iV sp2)/\w'.cell? ⟨b,off+t*9+7,none⟩=some (iV pl2)/\w'.cell? ⟨b,off+t*9+8,none⟩=some (iV nn2))):=by
      intro w' h
      have hz:∀g o,g<wr.heap.size->w'.cell? ⟨g,o,none⟩=wr.cell? ⟨g,o,none⟩:=fun g o hg=>zc h g o hg
      simp only [hz _ _ hbz,hz _ _ z0]
      exact⟨l1,HS2.out.1,HS2.out.2⟩
     go_wp2_with fail
     clear l0 l1 l2
     refine wp_region_noPanic ?_
     refine ze 99 (fun w'=>w'.cell? ⟨w.heap.size,1,none⟩=some (.slice (some ⟨b,off,none⟩) L.body.length cap)/\(w'.cell? ⟨b,off+f*9,none⟩=some (iV o1)/\w'.cell? ⟨b,off+f*9+1,none⟩=some (iV xa1)/\w'.cell? ⟨b,off+f*9+2,none⟩=some (iV xb1)/\w'.cell? ⟨b,off+f*9+3,none⟩=some (iV ya1)/\w'.cell? ⟨b,off+f*9+4,none⟩=some (iV yb1)/\w'.cell? ⟨b,off+f*9+5,none⟩=some (iV ar1)/\w'.cell? ⟨b,off+f*9+6,none⟩=some (iV sp1)/\w'.cell? ⟨b,off+f*9+7,none⟩=some (iV pl1)/\w'.cell? ⟨b,off+f*9+8,none⟩=some (iV nn1))/\(w'.cell? ⟨b,off+t*9,none⟩=some (iV o2)/\w'.cell? ⟨b,off+t*9+1,none⟩=some (iV xa2)/\w'.cell? ⟨b,off+t*9+2,none⟩=some (iV xb2)/\w'.cell? ⟨b,off+t*9+3,none⟩=some (iV ya2)/\w'.cell? ⟨b,off+t*9+4,none⟩=some (iV yb2)/\w'.cell? ⟨b,off+t*9+5,none⟩=some (iV ar2)/\w'.cell? ⟨b,off+t*9+6,none⟩=some (iV sp2)/\w'.cell? ⟨b,off+t*9+7,none⟩=some (iV pl2)/\w'.cell? ⟨b,off+t*9+8,none⟩=some (iV nn2))) (by kernel_rfl) (HSS.out _ (zH _ _)) (fun hHeld=>?_)
     refine utk (i:=0) rfl hHeld ?_
     refine utk (i:=1) rfl hHeld ?_
     refine utk (i:=2) rfl hHeld ?_
     refine utk (i:=3) rfl hHeld ?_
     refine utk (i:=4) rfl hHeld ?_
     refine utk (i:=5) rfl hHeld ?_
     refine utk (i:=6) rfl hHeld ?_
     refine utk (i:=7) rfl hHeld ?_
     refine utk (i:=8) rfl hHeld ?_
     refine utk (i:=9) rfl hHeld ?_
     refine z9 (i:=10) rfl (by kernel_rfl) (fun K hK9=>?_)
     go_simp
     refine (HSH.out _).mono ?_
     rintro e x2 ⟨rfl,hb9⟩
     have HB9:Hid (Below wr.heap.size wr x2):=(zH _ _).trans hb9
     have hHeld:=HSS.out _ HB9.out
     refine nxt hK9.out (.inr hHeld) ?_
     clear hK9 K hb9
     refine utk (i:=11) rfl hHeld ?_
     refine zf (by kernel_rfl) ?_ _
     refine NoPanic.normal ?_
     clear hHeld
     have HOX:=z5 (zt HO.out HB9.out)
     have HBX:=z5 (HB.out.trans (HB9.out.mono hzq))
     cases mb with
     | false =>
       have e1:=HNO.out rfl
       have HE:=z5 e1
       clear e1
       go_wp2_with fail
       go_roundw
       case rel=>exact⟨t+1,by omega,by go_num,oa,oc,by rw [HE.out],by rw [HE.out];exact HOX.out,HBX.out⟩
       case measure=>simp [intOf];omega
     | true =>
       clear z0
       obtain⟨⟨l0,l1,l2⟩,z0,hbw⟩:=XK HBX.out
       have HWX:=z5 hbw
       have HLC:=z5 (HLS.out x2 hbw rfl)
       clear hbw
       cases lbo with
       | none =>
         have e1:=HNN.out rfl
         have HE:=z5 e1
         clear e1
         go_wp2_with fail
         refine HLC.out.mono ?_
         rintro e x3 ⟨he3,hb3⟩
         have he4:e=.returned (.tuple #[iV 0,.bool false]):=he3
         subst he4
         clear he3
         have HOY:=z5 (zt HOX.out hb3)
         have HBY:=z5 (HBX.out.trans (hb3.mono (by have:=HB9.out.size;omega)))
         clear hb3 l0 l1 l2 z0
         go_wp2_with fail
         go_roundw
         case rel=>exact⟨t+1,by omega,by go_num,oa,oc,by rw [HE.out],by rw [HE.out];exact HOY.out,HBY.out⟩
         case measure=>simp [intOf];omega
       | some k =>
         have HE:=z5 (HSM.out k rfl rfl)
         have hk32:=HLE.out k rfl
         go_wp2_with fail
         refine HLC.out.mono ?_
         rintro e x3 ⟨he3,hb3⟩
         have he4:e=.returned (.tuple #[iV k,.bool true]):=he3
         subst he4
         clear he3
         have HOY:=z5 (zt HOX.out hb3)
         have HBY:=z5 (HBX.out.trans (hb3.mono (by have:=HB9.out.size;omega)))
         have HB3:Hid (Below wr.heap.size wr x3):=HB9.out.trans (hb3.mono HB9.out.size)
         clear hb3 l0 l1 l2 z0
         obtain⟨⟨l0,l1,l2⟩,z0,hbw⟩:=XK HBY.out
         obtain⟨-,⟨c0,c1,c2,c3,c4,c5,c6,c7,c8⟩,-⟩:=HSS.out _ HB3.out
         have hbz3:b<x3.heap.size:=by have:=HB3.out.size;omega
         have hzy:w.heap.size+1<=x3.heap.size:=by have:=HB3.out.size;omega
         have HOA:=z5 (zt HOY.out (below_alloc1 x3 (.cells #[iV o1,iV xa1,iV xb1,iV ya1,iV yb1,iV ar1,iV sp1,iV pl1,iV nn1] 41)))
         have HBA:=z5 (HBY.out.alloc hzy (.cells #[iV o1,iV xa1,iV xb1,iV ya1,iV yb1,iV ar1,iV sp1,iV pl1,iV nn1] 41))
         have HLEN:Hid ((zB (yL L f) (yD L f t)).length<=300):=by
          show (zB _ _).length<=300
          have e1:=zb8 L f hn16
          have e2:=UM L f t
          rw [Yw];omega
         clear hbw
         go_wp2_with fail
         refine (HWW.out _).mono ?_
         rintro e x4 ⟨rfl,rfl⟩
         have hx4:(x3.alloc (.cells #[iV o1,iV xa1,iV xb1,iV ya1,iV yb1,iV ar1,iV sp1,iV pl1,iV nn1] 41)).heap.size=x3.heap.size+1:=by simp
         have HX4:=z5 hx4
         have HF4:=z5 (Xn (x3.alloc (.cells #[iV o1,iV xa1,iV xb1,iV ya1,iV yb1,iV ar1,iV sp1,iV pl1,iV nn1] 41)) (iV (f:Int)) (iV (t:Int)) (iV (k:Int)) (iV wt) 100)
         rw [hx4] at HF4
         clear hx4
         go_wp2_with (at_builtin;refine wpList_append_own _ rfl (.tmp 41) (.tmp 52) 97 rfl (w.heap.size+1) 100 j0 (.agg #[iV 0,iV 0,iV 0,iV 0]) 4 32 Tryz.underlying97 ji jz0 jz1 jz2 rfl (by decide) _ _ _ rfl (zt HOA.out (below_alloc1 _ _)) ⟨x3.heap.size+1,0,none⟩ 1 1 (zG ⟨f,t,k,wt⟩) rfl rfl (by exact HF4.out) (by intro u hu;unfold zG at hu;simp at hu;rcases hu with rfl | rfl | rfl | rfl <;> rfl) (by unfold maxLen;have:=HLEN.out;omega) (by have:=HLEN.out;omega) (by simp;omega) ?_;intro v2' w2 hown2 hgrow2 hnil2;obtain⟨oa2,oc2,rfl,hl1',hl2'⟩:=zS hown2;have HO2:=z5 hown2;have HG2:=z5 hgrow2;clear hown2 hgrow2)
         go_roundw
         case rel =>
          have e1:zB (yL L f) (yD L f t)++[⟨f,t,k,wt⟩]=zB (yL L f) (yD L f (t+1)):=by rw [HE.out];unfold zB;rw [List.append_assoc]
          have e2:(zB (yL L f) (yD L f t)).length+1=(zB (yL L f) (yD L f (t+1))).length:=by rw [<-e1,List.length_append];rfl
          have h2:=HO2.out
          rw [Xm,e1,e2] at h2
          exact⟨t+1,by omega,by go_num,oa2,oc2,by rw [e2],h2,(HBA.out.alloc (by rw [HX4.out];omega) _).grown HG2.out (by simp;omega) (ye HO.out)⟩
         case measure=>simp [intOf];omega
    ·have e:t=L.body.length:=by omega
     have hti:¬(t:Int)<(L.body.length:Int):=by omega
     have e1:zB (yL L f) (yD L f t)=yL L (f+1):=by rw [e];rfl
     have HE:=z5 e1
     clear e1 e l0 l1 l2 z0
     go_wp2_with fail
     go_roundw
     case rel=>exact⟨f+1,by omega,by go_num,oa,oc,by rw [HE.out],by have h:=HO.out;rw [HE.out] at h;exact h,HB.out⟩
     case measure=>simp [intOf];omega
  ·have e:f=L.body.length:=by omega
   have hfi:¬(f:Int)<(L.body.length:Int):=by omega
   have HE:=z5 e
   clear e
   go_wp2_with fail
   go_ret
   exact⟨_,rfl,by have h:=HO.out;rw [HE.out] at h ⊢;exact h,HW.out⟩
end Go.Proofs.YtjoapiafpahihabGreat
