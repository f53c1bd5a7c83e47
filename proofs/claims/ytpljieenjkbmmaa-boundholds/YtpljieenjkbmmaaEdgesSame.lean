/- The contract of the law's own comparison of edges, of two rows that hold the same; nothing that was there is changed. -/
import Derived.Test.YtpljieenjkbmmaaEdgeRow
import Derived.Deep.QuietTactic
import Derived.BigQuiet
namespace Go.Proofs.Ytpljieenjkbmmaa
open Go.RowKit Go.Joins
set_option linter.unusedVariables false

theorem fourE {w : World} {b o : Nat} {x : Ed} (h : ∀ j, j < 4 → w.cell? ⟨b, o + j, none⟩ = (edCells x)[j]?) :
    w.cell? ⟨b, o, none⟩ = some (.int .i64 x.fr) ∧ w.cell? ⟨b, o + 1, none⟩ = some (.int .i64 x.to) ∧ w.cell? ⟨b, o + 2, none⟩ = some (.int .i64 x.bk) ∧ w.cell? ⟨b, o + 3, none⟩ = some (.int .i64 x.wt) :=
  ⟨h 0 (by omega), h 1 (by omega), h 2 (by omega), h 3 (by omega)⟩
set_option maxHeartbeats 1000000 in
theorem edges_same (va vb : Value) (l : List Ed) (w : World) (ha : EdgesV w va l) (hb : EdgesV w vb l) :
    Calls Try.prog 45 #[va, vb] w fun e w' => e = .returned (.bool true) ∧ ∃ n, w' = w.drewN n := by
  obtain ⟨aa, ac, rfl, al, am, acell⟩ := ha
  obtain ⟨ba, bc, rfl, bl, bm, bcell⟩ := hb
  unfold maxLen at am bm
  go_enter Try.func45, Try.ntmps45
  go_wp2_with fail
  go_loopw [5] (fun i wr => ∃ k n : Nat, k ≤ l.length ∧ i = .int .i64 k ∧ wr = w.drewN n) (fun i _ => l.length - (intOf i).toNat)
  case atStart => exact ⟨0, 0, Nat.zero_le _, rfl, rfl⟩
  case round =>
    obtain ⟨k, n, hk, rfl, rfl⟩ := hrel
    by_cases hlt : k < l.length
    · obtain ⟨b1, o1, rfl, hb1, hc1⟩ := acell (by omega)
      obtain ⟨b2, o2, rfl, hb2, hc2⟩ := bcell (by omega)
      obtain ⟨c0, c1, c2, c3⟩ := fourE (hc1 k hlt)
      obtain ⟨d0, d1, d2, d3⟩ := fourE (hc2 k hlt)
      generalize edAt l k = x at *
      obtain ⟨f, t, bk, wt⟩ := x
      dsimp only at c0 c1 c2 c3 d0 d1 d2 d3
      have i1 : (k : Int) < (l.length : Int) := by omega
      clear hc1 hc2 acell bcell
      go_wp2_with fail
      go_big_quiet ((fail))
      go_wp2_with fail
      go_roundw
      case rel => exact ⟨k + 1, _, by omega, by go_num, rfl⟩
      case measure => simp [intOf]; omega
    · have i1 : ¬ (k : Int) < (l.length : Int) := by omega
      clear acell bcell
      go_wp2_with fail
      go_ret
      exact ⟨rfl, _, rfl⟩
end Go.Proofs.Ytpljieenjkbmmaa
