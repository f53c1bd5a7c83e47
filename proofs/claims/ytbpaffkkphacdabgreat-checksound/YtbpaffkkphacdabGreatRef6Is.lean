/- The contract of the document's own answer on an edge: is there one? Nothing that was there is changed. -/
import Derived.Test.YtbpaffkkphacdabGreatRef6A
import Derived.Test.YtbpaffkkphacdabGreatBase
import Derived.Deep.RegionHeld3
import Derived.BigRegion
import Derived.Deep.QuietTactic
import Derived.BigQuiet
namespace Go.Proofs.YtbpaffkkphacdabGreat
open Go.RowKit Go.Joins
set_option linter.unusedVariables false

theorem word_range {m n k : Int} {s : St} (h : stOk m n k s = true) (hw : wordD s = true) : (0 ≤ s.ar ∧ s.ar < m) ∧ (-64 ≤ s.sp ∧ s.sp ≤ 64) ∧ (-64 ≤ s.pl ∧ s.pl ≤ 64) := by
  have key : wordOk m s.ar s.sp s.pl = true → (0 ≤ s.ar ∧ s.ar < m) ∧ (-64 ≤ s.sp ∧ s.sp ≤ 64) ∧ (-64 ≤ s.pl ∧ s.pl ≤ 64) := fun h => by
    unfold wordOk at h
    simp only [Bool.and_eq_true] at h
    have h1 := inR_iff.1 h.1.1
    have h2 := inR_iff.1 h.1.2
    have h3 := inR_iff.1 h.2
    exact ⟨by omega, h2, h3⟩
  have ho : s.o = 3 ∨ s.o = 4 := by unfold wordD at hw; simpa using hw
  unfold stOk at h
  rcases ho with ho | ho
  · rw [if_neg (by omega), if_neg (by omega), if_pos ho] at h
    simp only [Bool.and_eq_true] at h
    exact key h.2
  · rw [if_neg (by omega), if_neg (by omega), if_neg (by omega), if_pos ho] at h
    simp only [Bool.and_eq_true] at h
    exact key h.1.2
theorem memD_words {a b : St} (h : memD a b = true) : wordD a = true ∧ wordD b = true := by
  unfold memD at h
  simp only [Bool.and_eq_true] at h
  exact ⟨h.1.1.1, h.1.1.2⟩
theorem size_nat {L : Lp} {s : St} (hl : logsOk L.logs = true) (h1 : 0 ≤ s.ar) (h2 : s.ar < L.logs.length) : ∃ i lg : Nat, s.ar = i ∧ i < L.logs.length ∧ nth L.logs i = (lg : Int) ∧ lg ≤ 5 ∧ p2 lg = (sizeD L s : Int) ∧ 0 < sizeD L s ∧ sizeD L s ≤ 32 := by
  obtain ⟨i, hi⟩ := Int.eq_ofNat_of_zero_le h1
  have hiL : i < L.logs.length := by omega
  have h3 := inR_iff.1 (allN_get hl i hiL)
  obtain ⟨lg, hlg⟩ := Int.eq_ofNat_of_zero_le h3.1
  have e : sizeD L s = 2 ^ lg := by unfold sizeD; rw [hi, Int.toNat_natCast, hlg, Int.toNat_natCast]
  refine ⟨i, lg, hi, hiL, hlg, by omega, ?_, ?_, ?_⟩
  · rw [e]; unfold p2; simp
  · rw [e]; exact Nat.pow_pos (by decide)
  · rw [e]; exact Nat.le_trans (Nat.pow_le_pow_right (by decide) (show lg ≤ 5 by omega)) (by decide)
theorem two_cells {wr y : World} {o1 xa1 xb1 ya1 yb1 ar1 sp1 pl1 nn1 o2 xa2 xb2 ya2 yb2 ar2 sp2 pl2 nn2 : Int} {ta tb : TypeId} (h : Below ((wr.alloc (.cells #[.int .i64 o1, .int .i64 xa1, .int .i64 xb1, .int .i64 ya1, .int .i64 yb1, .int .i64 ar1, .int .i64 sp1, .int .i64 pl1, .int .i64 nn1] ta)).alloc (.cells #[.int .i64 o2, .int .i64 xa2, .int .i64 xb2, .int .i64 ya2, .int .i64 yb2, .int .i64 ar2, .int .i64 sp2, .int .i64 pl2, .int .i64 nn2] tb)).heap.size ((wr.alloc (.cells #[.int .i64 o1, .int .i64 xa1, .int .i64 xb1, .int .i64 ya1, .int .i64 yb1, .int .i64 ar1, .int .i64 sp1, .int .i64 pl1, .int .i64 nn1] ta)).alloc (.cells #[.int .i64 o2, .int .i64 xa2, .int .i64 xb2, .int .i64 ya2, .int .i64 yb2, .int .i64 ar2, .int .i64 sp2, .int .i64 pl2, .int .i64 nn2] tb)) y) :
    (y.cell? ⟨wr.heap.size, 0, none⟩ = some (.int .i64 o1) ∧ y.cell? ⟨wr.heap.size, 1, none⟩ = some (.int .i64 xa1) ∧ y.cell? ⟨wr.heap.size, 2, none⟩ = some (.int .i64 xb1) ∧ y.cell? ⟨wr.heap.size, 3, none⟩ = some (.int .i64 ya1) ∧ y.cell? ⟨wr.heap.size, 4, none⟩ = some (.int .i64 yb1) ∧ y.cell? ⟨wr.heap.size, 5, none⟩ = some (.int .i64 ar1) ∧ y.cell? ⟨wr.heap.size, 6, none⟩ = some (.int .i64 sp1) ∧ y.cell? ⟨wr.heap.size, 7, none⟩ = some (.int .i64 pl1) ∧ y.cell? ⟨wr.heap.size, 8, none⟩ = some (.int .i64 nn1)) ∧
    (y.cell? ⟨wr.heap.size + 1, 0, none⟩ = some (.int .i64 o2) ∧ y.cell? ⟨wr.heap.size + 1, 1, none⟩ = some (.int .i64 xa2) ∧ y.cell? ⟨wr.heap.size + 1, 2, none⟩ = some (.int .i64 xb2) ∧ y.cell? ⟨wr.heap.size + 1, 3, none⟩ = some (.int .i64 ya2) ∧ y.cell? ⟨wr.heap.size + 1, 4, none⟩ = some (.int .i64 yb2) ∧ y.cell? ⟨wr.heap.size + 1, 5, none⟩ = some (.int .i64 ar2) ∧ y.cell? ⟨wr.heap.size + 1, 6, none⟩ = some (.int .i64 sp2) ∧ y.cell? ⟨wr.heap.size + 1, 7, none⟩ = some (.int .i64 pl2) ∧ y.cell? ⟨wr.heap.size + 1, 8, none⟩ = some (.int .i64 nn2)) ∧ wr.heap.size < y.heap.size ∧ wr.heap.size + 1 < y.heap.size ∧ Below wr.heap.size wr y := by
  have hz := h.size
  have hs : ((wr.alloc (.cells #[.int .i64 o1, .int .i64 xa1, .int .i64 xb1, .int .i64 ya1, .int .i64 yb1, .int .i64 ar1, .int .i64 sp1, .int .i64 pl1, .int .i64 nn1] ta)).alloc (.cells #[.int .i64 o2, .int .i64 xa2, .int .i64 xb2, .int .i64 ya2, .int .i64 yb2, .int .i64 ar2, .int .i64 sp2, .int .i64 pl2, .int .i64 nn2] tb)).heap.size = wr.heap.size + 1 + 1 := by simp
  refine ⟨⟨?_, ?_, ?_, ?_, ?_, ?_, ?_, ?_, ?_⟩, ⟨?_, ?_, ?_, ?_, ?_, ?_, ?_, ?_, ?_⟩, by omega, by omega, (below_alloc2 wr _ _).trans (h.mono (by omega))⟩
  all_goals rw [bcell h _ _ (by omega)]
  all_goals go_simp

end Go.Proofs.YtbpaffkkphacdabGreat
