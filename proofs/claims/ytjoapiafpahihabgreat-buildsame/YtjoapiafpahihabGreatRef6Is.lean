import Derived.Test.YtjoapiafpahihabGreatRef6A
import Derived.Test.YtjoapiafpahihabGreatBase
import Derived.Deep.RegionHeld3
import Derived.BigRegion
import Derived.Deep.QuietTactic
import Derived.BigQuiet
namespace Go.Proofs.YtjoapiafpahihabGreat
open Go.RowKit Go.Joins
set_option linter.unusedVariables false
theorem Zd {m n k:Int} {s:St} (h:yd m n k s=true) (hw:yA s=true):(0<=s.ar/\s.ar<m)/\(-64<=s.sp/\s.sp<=64)/\(-64<=s.pl/\s.pl<=64):=by
 have key:yy m s.ar s.sp s.pl=true->(0<=s.ar/\s.ar<m)/\(-64<=s.sp/\s.sp<=64)/\(-64<=s.pl/\s.pl<=64):=fun h=>by
  unfold yy at h
  simp only [Bool.and_eq_true] at h
  have h1:=zo.1 h.1.1
  have h2:=zo.1 h.1.2
  have h3:=zo.1 h.2
  exact⟨by omega,h2,h3⟩
 have ho:s.o=3\/s.o=4:=by unfold yA at hw;simpa using hw
 unfold yd at h
 rcases ho with ho | ho
 ·rw [if_neg (by omega),if_neg (by omega),if_pos ho] at h
  simp only [Bool.and_eq_true] at h
  exact key h.2
 ·rw [if_neg (by omega),if_neg (by omega),if_neg (by omega),if_pos ho] at h
  simp only [Bool.and_eq_true] at h
  exact key h.1.2
theorem ZD {a b:St} (h:zU a b=true):yA a=true/\yA b=true:=by
 unfold zU at h
 simp only [Bool.and_eq_true] at h
 exact⟨h.1.1.1,h.1.1.2⟩
theorem UA {L:Lp} {s:St} (hl:Z5 L.logs=true) (h1:0<=s.ar) (h2:s.ar<L.logs.length):∃i lg:Nat,s.ar=i/\i<L.logs.length/\nth L.logs i=(lg:Int)/\lg<=5/\p2 lg=(yS L s:Int)/\0<yS L s/\yS L s<=32:=by
 obtain⟨i,hi⟩:=Int.eq_ofNat_of_zero_le h1
 have hiL:i<L.logs.length:=by omega
 have h3:=zo.1 (zl hl i hiL)
 obtain⟨lg,hlg⟩:=Int.eq_ofNat_of_zero_le h3.1
 have e:yS L s=2 ^ lg:=by unfold yS;rw [hi,Int.toNat_natCast,hlg,Int.toNat_natCast]
 refine⟨i,lg,hi,hiL,hlg,by omega,?_,?_,?_⟩
 ·rw [e];unfold p2;simp
 ·rw [e];exact Nat.pow_pos (by decide)
 ·rw [e];exact Nat.le_trans (Nat.pow_le_pow_right (by decide) (show lg<=5 by omega)) (by decide)
theorem xj {wr y:World} {o1 xa1 xb1 ya1 yb1 ar1 sp1 pl1 nn1 o2 xa2 xb2 ya2 yb2 ar2 sp2 pl2 nn2:Int} {ta tb:TypeId} (h:Below ((wr.alloc (.cells #[iV o1,iV xa1,iV xb1,iV ya1,iV yb1,iV ar1,iV sp1,iV pl1,iV nn1] ta)).alloc (.cells #[iV o2,iV xa2,iV xb2,iV ya2,iV yb2,iV ar2,iV sp2,iV pl2,iV nn2] tb)).heap.size ((wr.alloc (.cells #[iV o1,iV xa1,iV xb1,iV ya1,iV yb1,iV ar1,iV sp1,iV pl1,iV nn1] ta)).alloc (.cells #[iV o2,iV xa2,iV xb2,iV ya2,iV yb2,iV ar2,iV sp2,iV pl2,iV nn2] tb)) y) :
  (y.cell? ⟨wr.heap.size,0,none⟩=some (iV o1)/\y.cell? ⟨wr.heap.size,1,none⟩=some (iV xa1)/\y.cell? ⟨wr.heap.size,2,none⟩=some (iV xb1)/\y.cell? ⟨wr.heap.size,3,none⟩=some (iV ya1)/\y.cell? ⟨wr.heap.size,4,none⟩=some (iV yb1)/\y.cell? ⟨wr.heap.size,5,none⟩=some (iV ar1)/\y.cell? ⟨wr.heap.size,6,none⟩=some (iV sp1)/\y.cell? ⟨wr.heap.size,7,none⟩=some (iV pl1)/\y.cell? ⟨wr.heap.size,8,none⟩=some (iV nn1)) /\
  (y.cell? ⟨wr.heap.size+1,0,none⟩=some (iV o2)/\y.cell? ⟨wr.heap.size+1,1,none⟩=some (iV xa2)/\y.cell? ⟨wr.heap.size+1,2,none⟩=some (iV xb2)/\y.cell? ⟨wr.heap.size+1,3,none⟩=some (iV ya2)/\y.cell? ⟨wr.heap.size+1,4,none⟩=some (iV yb2)/\y.cell? ⟨wr.heap.size+1,5,none⟩=some (iV ar2)/\y.cell? ⟨wr.heap.size+1,6,none⟩=some (iV sp2)/\y.cell? ⟨wr.heap.size+1,7,none⟩=some (iV pl2)/\y.cell? ⟨wr.heap.size+1,8,none⟩=some (iV nn2))/\wr.heap.size<y.heap.size/\wr.heap.size+1<y.heap.size/\Below wr.heap.size wr y:=by
 have hz:=h.size
 have hs:((wr.alloc (.cells #[iV o1,iV xa1,iV xb1,iV ya1,iV yb1,iV ar1,iV sp1,iV pl1,iV nn1] ta)).alloc (.cells #[iV o2,iV xa2,iV xb2,iV ya2,iV yb2,iV ar2,iV sp2,iV pl2,iV nn2] tb)).heap.size=wr.heap.size+1+1:=by simp
 refine⟨⟨?_,?_,?_,?_,?_,?_,?_,?_,?_⟩,⟨?_,?_,?_,?_,?_,?_,?_,?_,?_⟩,by omega,by omega,(below_alloc2 wr _ _).trans (h.mono (by omega))⟩
 all_goals rw [zc h _ _ (by omega)]
 all_goals go_simp
end Go.Proofs.YtjoapiafpahihabGreat
