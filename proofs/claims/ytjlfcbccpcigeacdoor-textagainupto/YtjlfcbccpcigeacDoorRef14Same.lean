/- The contract of the document's own comparison of loops, of two that are the same; nothing that was there is changed. -/
import Derived.Test.YtjlfcbccpcigeacDoorLoopStmt
import Derived.Deep.QuietTactic
import Derived.BigQuiet
namespace Go.Proofs.YtjlfcbccpcigeacDoor
open Go.RowKit Go.Joins
set_option linter.unusedVariables false
set_option linter.unusedSimpArgs false
set_option maxRecDepth 8192

set_option maxHeartbeats 4000000 in
theorem loop_same (va vb : Value) (L : Lp) (w : World) (ha : LoopV w va L) (hb : LoopV w vb L) :
    Calls Tryd.prog 12 #[va, vb] w fun e w' => e = .returned (.bool true) ∧ Below w.heap.size w w' := by
  obtain ⟨v0, v1, v2, rfl, ⟨aa, ac, rfl, al, am, ar, acell⟩, ⟨ab, abc, rfl, abl, abm, abcell⟩, ⟨ao, aoc, rfl, aol, aom, aor, aocell⟩⟩ := ha
  obtain ⟨u0, u1, u2, rfl, ⟨ba, bc, rfl, bl, bm, br, bcl⟩, ⟨bb, bbc, rfl, bbl, bbm, bbcell⟩, ⟨bo, boc, rfl, bol, bom, bor, bocell⟩⟩ := hb
  obtain ⟨l, bd, os⟩ := L
  dsimp only at *
  unfold maxLen at am bm abm bbm aom bom
  have HAL := hide acell
  have HBL := hide bcl
  have HAB := hide abcell
  have HBB := hide bbcell
  have HAO := hide aocell
  have HBO := hide bocell
  have HS : Hid (((w.alloc (.cells #[.slice aa l.length ac, .slice ab bd.length abc, .slice ao os.length aoc] 25)).alloc (.cells #[.slice ba l.length bc, .slice bb bd.length bbc, .slice bo os.length boc] 25)).heap.size = w.heap.size + 1 + 1) := by show _ = _; simp
  clear acell bcl abcell bbcell aocell bocell ar br aor bor
  go_enter Tryd.func12, Tryd.ntmps12
  go_wp2_with fail
  go_loopw [5] (fun i wr => ∃ k n : Nat, k ≤ l.length ∧ i = .int .i64 k ∧ wr = ((w.alloc (.cells #[.slice aa l.length ac, .slice ab bd.length abc, .slice ao os.length aoc] 25)).alloc (.cells #[.slice ba l.length bc, .slice bb bd.length bbc, .slice bo os.length boc] 25)).drewN n) (fun i _ => l.length - (intOf i).toNat)
  case atStart => exact ⟨0, 0, Nat.zero_le _, rfl, rfl⟩
  case round =>
    obtain ⟨k, n, hk, rfl, rfl⟩ := hrel
    by_cases hlt : k < l.length
    · obtain ⟨b1, o1, rfl, hb1, hc1⟩ := HAL.out (by omega)
      obtain ⟨b2, o2, rfl, hb2, hc2⟩ := HBL.out (by omega)
      have c0 := hc1 k hlt
      have d0 := hc2 k hlt
      generalize nth l k = x at *
      have i1 : (k : Int) < (l.length : Int) := by omega
      clear hc1 hc2
      go_wp2_with fail
      go_big_quiet ((fail))
      go_wp2_with fail
      go_roundw
      case rel => exact ⟨k + 1, _, by omega, by go_num, rfl⟩
      case measure => simp [intOf]; omega
    · have i1 : ¬ (k : Int) < (l.length : Int) := by omega
      go_wp2_with fail
      go_loopw [6] (fun i wr => ∃ k n : Nat, k ≤ bd.length ∧ i = .int .i64 k ∧ wr = ((w.alloc (.cells #[.slice aa l.length ac, .slice ab bd.length abc, .slice ao os.length aoc] 25)).alloc (.cells #[.slice ba l.length bc, .slice bb bd.length bbc, .slice bo os.length boc] 25)).drewN n) (fun i _ => bd.length - (intOf i).toNat)
      case atStart => exact ⟨0, n, Nat.zero_le _, rfl, rfl⟩
      case round =>
        obtain ⟨k, n, hk, rfl, rfl⟩ := hrel
        by_cases hlt : k < bd.length
        · obtain ⟨b1, o1, rfl, hb1, hc1⟩ := HAB.out (by omega)
          obtain ⟨b2, o2, rfl, hb2, hc2⟩ := HBB.out (by omega)
          obtain ⟨c0, c1, c2, c3, c4, c5, c6, c7, c8⟩ := nine (hc1 k hlt)
          obtain ⟨d0, d1, d2, d3, d4, d5, d6, d7, d8⟩ := nine (hc2 k hlt)
          generalize stAt bd k = x at *
          obtain ⟨x0, x1, x2, x3, x4, x5, x6, x7, x8⟩ := x
          dsimp only at c0 c1 c2 c3 c4 c5 c6 c7 c8 d0 d1 d2 d3 d4 d5 d6 d7 d8
          have i1 : (k : Int) < (bd.length : Int) := by omega
          clear hc1 hc2
          go_wp2_with fail
          go_big_quiet ((fail))
          go_wp2_with fail
          go_roundw
          case rel => exact ⟨k + 1, _, by omega, by go_num, rfl⟩
          case measure => simp [intOf]; omega
        · have i1 : ¬ (k : Int) < (bd.length : Int) := by omega
          go_wp2_with fail
          go_loopw [7] (fun i wr => ∃ k n : Nat, k ≤ os.length ∧ i = .int .i64 k ∧ wr = ((w.alloc (.cells #[.slice aa l.length ac, .slice ab bd.length abc, .slice ao os.length aoc] 25)).alloc (.cells #[.slice ba l.length bc, .slice bb bd.length bbc, .slice bo os.length boc] 25)).drewN n) (fun i _ => os.length - (intOf i).toNat)
          case atStart => exact ⟨0, n, Nat.zero_le _, rfl, rfl⟩
          case round =>
            obtain ⟨k, n, hk, rfl, rfl⟩ := hrel
            by_cases hlt : k < os.length
            · obtain ⟨b1, o1, rfl, hb1, hc1⟩ := HAO.out (by omega)
              obtain ⟨b2, o2, rfl, hb2, hc2⟩ := HBO.out (by omega)
              have c0 := hc1 k hlt
              have d0 := hc2 k hlt
              generalize nth os k = x at *
              have i1 : (k : Int) < (os.length : Int) := by omega
              clear hc1 hc2
              go_wp2_with fail
              go_big_quiet ((fail))
              go_wp2_with fail
              go_roundw
              case rel => exact ⟨k + 1, _, by omega, by go_num, rfl⟩
              case measure => simp [intOf]; omega
            · have i1 : ¬ (k : Int) < (os.length : Int) := by omega
              go_wp2_with fail
              go_ret
              exact ⟨rfl, (below_alloc2 w _ _).trans (below_draws _ _ _)⟩
end Go.Proofs.YtjlfcbccpcigeacDoor
