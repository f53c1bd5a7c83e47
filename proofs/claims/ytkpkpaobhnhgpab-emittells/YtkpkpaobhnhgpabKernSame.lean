/- The contract of the document's own comparison of kernels, of two that are the same; nothing that was there is changed. -/
import Derived.Test.YtkpkpaobhnhgpabKernS
import Derived.Deep.QuietTactic
import Derived.BigQuiet
namespace Go.Proofs.Ytkpkpaobhnhgpab
open Go.RowKit Go.Joins
set_option linter.unusedVariables false
set_option linter.unusedSimpArgs false
set_option maxRecDepth 8192

set_option maxHeartbeats 4000000 in
theorem kern_same (va vb : Value) (K : Kn) (w : World) (ha : KernV w va K) (hb : KernV w vb K) :
    Calls Try.prog 15 #[va, vb] w fun e w' => e = .returned (.bool true) ∧ Below w.heap.size w w' := by
  obtain ⟨oa, rfl, aa, ac, rfl, al, am, acell⟩ := ha
  obtain ⟨ob, rfl, ba, bc, rfl, bl, bm, bcel⟩ := hb
  obtain ⟨pc, st, l⟩ := K
  dsimp only at *
  unfold maxLen at am bm
  have HA := hide acell
  have HB := hide bcel
  have HS : Hid (((w.alloc (.cells #[.int .i64 pc, .int .i64 st, .slice aa l.length ac] 40)).alloc (.cells #[.int .i64 pc, .int .i64 st, .slice ba l.length bc] 40)).heap.size = w.heap.size + 1 + 1) := by show _ = _; simp
  clear acell bcel
  go_enter Try.func15, Try.ntmps15
  go_wp2_with fail
  go_loopw [5] (fun i wr => ∃ k n : Nat, k ≤ l.length ∧ i = .int .i64 k ∧ wr = ((w.alloc (.cells #[.int .i64 pc, .int .i64 st, .slice aa l.length ac] 40)).alloc (.cells #[.int .i64 pc, .int .i64 st, .slice ba l.length bc] 40)).drewN n) (fun i _ => l.length - (intOf i).toNat)
  case atStart => exact ⟨0, 0, Nat.zero_le _, rfl, rfl⟩
  case round =>
    obtain ⟨k, n, hk, rfl, rfl⟩ := hrel
    by_cases hlt : k < l.length
    · obtain ⟨b1, o1, rfl, hb1, hc1⟩ := HA.out (by omega)
      obtain ⟨b2, o2, rfl, hb2, hc2⟩ := HB.out (by omega)
      obtain ⟨c0, c1, c2, c3, c4, c5, c6, c7, c8, c9⟩ := ten (hc1 k hlt)
      obtain ⟨d0, d1, d2, d3, d4, d5, d6, d7, d8, d9⟩ := ten (hc2 k hlt)
      generalize opAt l k = x at *
      obtain ⟨x0, x1, x2, x3, x4, x5, x6, x7, x8, x9⟩ := x
      dsimp only at c0 c1 c2 c3 c4 c5 c6 c7 c8 c9 d0 d1 d2 d3 d4 d5 d6 d7 d8 d9
      have i1 : (k : Int) < (l.length : Int) := by omega
      clear hc1 hc2
      go_wp2_with fail
      go_big_quiet ((fail))
      go_wp2_with fail
      go_roundw
      case rel => exact ⟨k + 1, _, by omega, by go_num, rfl⟩
      case measure => simp [intOf]; omega
    · have i1 : ¬ (k : Int) < (l.length : Int) := by omega
      go_wp2_with fail
      go_ret
      exact ⟨rfl, (below_alloc2 w _ _).trans (below_draws _ _ _)⟩
end Go.Proofs.Ytkpkpaobhnhgpab
