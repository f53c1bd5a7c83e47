import Derived.Test.YtjoapiafpahihabGreatRef6A
import Derived.BigRegion
import Derived.Deep.QuietTactic
import Derived.BigQuiet
namespace Go.Proofs.YtjoapiafpahihabGreat
open Go.RowKit Go.Joins
set_option linter.unusedVariables false
variable {s:St}
theorem zef {m n k:Int} (h:yH m n k s=true) (hw:ZW s=true):(0<=s.ar/\s.ar<m)/\(-64<=s.sp/\s.sp<=64)/\(-64<=s.pl/\s.pl<=64):=by
 have key:xP m s.ar s.sp s.pl=true->(0<=s.ar/\s.ar<m)/\(-64<=s.sp/\s.sp<=64)/\(-64<=s.pl/\s.pl<=64):=fun h=>by
  unfold xP at h
  simp only [Bool.and_eq_true] at h
  have h1:=zx.1 h.1.1
  have h2:=zx.1 h.1.2
  have h3:=zx.1 h.2
  exact⟨by omega,h2,h3⟩
 have ho:s.o=3\/s.o=4:=by unfold ZW at hw;simpa using hw
 unfold yH at h
 rcases ho with ho | ho
 ·rw [if_neg (by omega),if_neg (by omega),if_pos ho] at h
  simp only [Bool.and_eq_true] at h
  exact key h.2
 ·rw [if_neg (by omega),if_neg (by omega),if_neg (by omega),if_pos ho] at h
  simp only [Bool.and_eq_true] at h
  exact key h.1.2
theorem zmh {a b:St} (h:Xd a b=true):ZW a=true/\ZW b=true:=by
 unfold Xd at h
 simp only [Bool.and_eq_true] at h
 exact⟨h.1.1.1,h.1.1.2⟩
theorem zwa {L:Lp} (hl:ZN L.l=true) (h1:0<=s.ar) (h2:s.ar<L.l.length):∃i lg:Nat,s.ar=i/\i<L.l.length/\nth L.l i=(lg:Int)/\lg<=5/\p2 lg=(xY L s:Int)/\0<xY L s/\xY L s<=32:=by
 obtain⟨i,hi⟩:=Int.eq_ofNat_of_zero_le h1
 have hiL:i<L.l.length:=by omega
 have h3:=zx.1 (zo hl i hiL)
 obtain⟨lg,hlg⟩:=Int.eq_ofNat_of_zero_le h3.1
 have e:xY L s=2 ^ lg:=by unfold xY;rw [hi,Int.toNat_natCast,hlg,Int.toNat_natCast]
 refine⟨i,lg,hi,hiL,hlg,by omega,?_,?_,?_⟩
 ·rw [e];unfold p2;simp
 ·rw [e];exact Nat.pow_pos (by decide)
 ·rw [e];exact Nat.le_trans (Nat.pow_le_pow_right (by decide) (show lg<=5 by omega)) (by decide)
theorem zss {wr y:World} {o1 xa1 xb1 ya1 yb1 ar1 sp1 pl1 nn1 o2 xa2 xb2 ya2 yb2 ar2 sp2 pl2 nn2:Int} {ta tb:TypeId} (h:Below ((wr.alloc (.cells #[iV o1,iV xa1,iV xb1,iV ya1,iV yb1,iV ar1,iV sp1,iV pl1,iV nn1] ta)).alloc (.cells #[iV o2,iV xa2,iV xb2,iV ya2,iV yb2,iV ar2,iV sp2,iV pl2,iV nn2] tb)).heap.size ((wr.alloc (.cells #[iV o1,iV xa1,iV xb1,iV ya1,iV yb1,iV ar1,iV sp1,iV pl1,iV nn1] ta)).alloc (.cells #[iV o2,iV xa2,iV xb2,iV ya2,iV yb2,iV ar2,iV sp2,iV pl2,iV nn2] tb)) y) :
  (y.cell? (ad wr.heap.size 0)=sI o1/\y.cell? (ad wr.heap.size 1)=sI xa1/\y.cell? (ad wr.heap.size 2)=sI xb1/\y.cell? (ad wr.heap.size 3)=sI ya1/\y.cell? (ad wr.heap.size 4)=sI yb1/\y.cell? (ad wr.heap.size 5)=sI ar1/\y.cell? (ad wr.heap.size 6)=sI sp1/\y.cell? (ad wr.heap.size 7)=sI pl1/\y.cell? (ad wr.heap.size 8)=sI nn1) /\
  (y.cell? (ad (wr.heap.size+1) 0)=sI o2/\y.cell? (ad (wr.heap.size+1) 1)=sI xa2/\y.cell? (ad (wr.heap.size+1) 2)=sI xb2/\y.cell? (ad (wr.heap.size+1) 3)=sI ya2/\y.cell? (ad (wr.heap.size+1) 4)=sI yb2/\y.cell? (ad (wr.heap.size+1) 5)=sI ar2/\y.cell? (ad (wr.heap.size+1) 6)=sI sp2/\y.cell? (ad (wr.heap.size+1) 7)=sI pl2/\y.cell? (ad (wr.heap.size+1) 8)=sI nn2)/\wr.heap.size<y.heap.size/\wr.heap.size+1<y.heap.size/\Bw wr y:=by
 have hz:=h.size
 have hs:((wr.alloc (.cells #[iV o1,iV xa1,iV xb1,iV ya1,iV yb1,iV ar1,iV sp1,iV pl1,iV nn1] ta)).alloc (.cells #[iV o2,iV xa2,iV xb2,iV ya2,iV yb2,iV ar2,iV sp2,iV pl2,iV nn2] tb)).heap.size=wr.heap.size+1+1:=by simp
 refine⟨⟨?_,?_,?_,?_,?_,?_,?_,?_,?_⟩,⟨?_,?_,?_,?_,?_,?_,?_,?_,?_⟩,by omega,by omega,(below_alloc2 wr _ _).trans (h.mono (by omega))⟩
 all_goals rw [zf h _ _ (by omega)]
 all_goals go_simp
end Go.Proofs.YtjoapiafpahihabGreat
