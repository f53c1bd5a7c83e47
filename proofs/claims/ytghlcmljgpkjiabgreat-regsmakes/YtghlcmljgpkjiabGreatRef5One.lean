/- The contract of the document's own answer on an Op of a kernel; nothing that was there is changed. -/
import Derived.Test.YtghlcmljgpkjiabGreatMaths
import Derived.Test.YtghlcmljgpkjiabGreatRef2L
namespace Go.Proofs.YtghlcmljgpkjiabGreat
open Go.RowKit Go.Joins
set_option linter.unusedVariables false

set_option maxHeartbeats 400000 in
theorem kuses_any (op : Int) (w : World) : Calls Tryz.prog 105 #[.int .i64 op] w fun e w' => e = .returned (.int .i64 (usesK op)) ∧ w' = w := by
  by_cases h4 : op = 4
  · have HX : Hid (usesK op = 1) := by show usesK op = 1; unfold usesK; rw [if_pos h4]
    have hb : (op == 4) = true := by simpa using h4
    clear h4
    go_enter Tryz.func105, Tryz.ntmps105
    go_wp2_with fail
    go_ret
    exact ⟨ret_int HX.out.symm, rfl⟩
  · have hb : (op == 4) = false := by simpa using h4
    by_cases h10 : 10 < op
    · have HX : Hid (usesK op = 2) := by show usesK op = 2; unfold usesK; rw [if_neg h4, if_pos h10]
      clear h4
      go_enter Tryz.func105, Tryz.ntmps105
      go_wp2_with fail
      go_ret
      exact ⟨ret_int HX.out.symm, rfl⟩
    · have HX : Hid (usesK op = 0) := by show usesK op = 0; unfold usesK; rw [if_neg h4, if_neg h10]
      clear h4
      go_enter Tryz.func105, Tryz.ntmps105
      go_wp2_with fail
      go_ret
      exact ⟨ret_int HX.out.symm, rfl⟩
theorem uses_three (op : Int) : usesK op = 0 ∨ usesK op = 1 ∨ usesK op = 2 := by
  unfold usesK; split
  · exact .inr (.inl rfl)
  · split
    · exact .inr (.inr rfl)
    · exact .inl rfl
theorem loopK_in {w : World} {la : Option Addr} {lc : Nat} {logs : List Int} (sl sg o d a b ar sp pl nn : Int) (h : Ints w (.slice la logs.length lc) logs) :
    LoopV (w.alloc (.cells #[.int .i64 2, .int .i64 0, .int .i64 0, .int .i64 0, .int .i64 0, .int .i64 0, .int .i64 0, .int .i64 0, .int .i64 0, .int .i64 o, .int .i64 0, .int .i64 0, .int .i64 0, .int .i64 0, .int .i64 ar, .int .i64 sp, .int .i64 pl, .int .i64 nn] 41)) (.agg #[.slice la logs.length lc, .slice (some ⟨w.heap.size, 0, none⟩) 2 2, .slice none 0 0]) (loopK logs ⟨sl, sg, o, d, a, b, ar, sp, pl, nn⟩) := by
  refine ⟨_, _, _, rfl, h.below (below_alloc1 _ _), ⟨_, 2, rfl, Nat.le_refl _, by unfold maxLen; omega, fun _ => ⟨w.heap.size, 0, rfl, by simp, fun i hi j hj => ?_⟩⟩, none, 0, rfl, Nat.le_refl _, Nat.zero_le _, fun i hi => absurd hi (Nat.not_lt_zero _), fun hp => absurd hp (Nat.not_lt_zero _)⟩
  have hb : (w.alloc (.cells #[.int .i64 2, .int .i64 0, .int .i64 0, .int .i64 0, .int .i64 0, .int .i64 0, .int .i64 0, .int .i64 0, .int .i64 0, .int .i64 o, .int .i64 0, .int .i64 0, .int .i64 0, .int .i64 0, .int .i64 ar, .int .i64 sp, .int .i64 pl, .int .i64 nn] 41)).heap[w.heap.size]? = some (.cells #[.int .i64 2, .int .i64 0, .int .i64 0, .int .i64 0, .int .i64 0, .int .i64 0, .int .i64 0, .int .i64 0, .int .i64 0, .int .i64 o, .int .i64 0, .int .i64 0, .int .i64 0, .int .i64 0, .int .i64 ar, .int .i64 sp, .int .i64 pl, .int .i64 nn] 41 (0, 0)) := by
    show (w.heap.push _)[w.heap.size]? = _
    simp
  rw [cell_of_block hb]
  have hi2 : i < 2 := hi
  obtain rfl | rfl : i = 0 ∨ i = 1 := by omega
  · obtain rfl | rfl | rfl | rfl | rfl | rfl | rfl | rfl | rfl : j = 0 ∨ j = 1 ∨ j = 2 ∨ j = 3 ∨ j = 4 ∨ j = 5 ∨ j = 6 ∨ j = 7 ∨ j = 8 := by omega
    all_goals rfl
  · obtain rfl | rfl | rfl | rfl | rfl | rfl | rfl | rfl | rfl : j = 0 ∨ j = 1 ∨ j = 2 ∨ j = 3 ∨ j = 4 ∨ j = 5 ∨ j = 6 ∨ j = 7 ∨ j = 8 := by omega
    all_goals rfl

set_option maxHeartbeats 1000000 in
theorem one_time (p0 p1 p2 q0 q1 q2 r pc st : Int) (ka : Option Addr) (kl kc : Nat) (sl sg o d a b ar sp pl nn : Int) (la : Option Addr) (lc : Nat) (logs : List Int) (w : World) (hp1 : 1 ≤ pc) (hp2 : pc ≤ 200) (hs1 : 1 ≤ st) (hs2 : st ≤ 1001) (hf : timeOk pc st ⟨sl, sg, o, d, a, b, ar, sp, pl, nn⟩ = false) :
    Calls Tryz.prog 67 #[.agg #[.int .i64 p0, .int .i64 p1, .int .i64 p2, .int .i64 q0, .int .i64 q1, .int .i64 q2, .int .i64 r], .agg #[.int .i64 pc, .int .i64 st, .slice ka kl kc], .agg #[.int .i64 sl, .int .i64 sg, .int .i64 o, .int .i64 d, .int .i64 a, .int .i64 b, .int .i64 ar, .int .i64 sp, .int .i64 pl, .int .i64 nn], .slice la logs.length lc] w fun e w' => e = .returned (.bool (oneOk r pc st logs ⟨sl, sg, o, d, a, b, ar, sp, pl, nn⟩)) ∧ Below w.heap.size w w' := by
  have HX : Hid (oneOk r pc st logs ⟨sl, sg, o, d, a, b, ar, sp, pl, nn⟩ = false) := by show _ = _; unfold oneOk; rw [hf]; rfl
  by_cases h0 : sl < 0
  · clear hf
    go_enter Tryz.func67, Tryz.ntmps67
    go_wp2_with fail
    go_ret
    exact ⟨ret_bool HX.out.symm, below_alloc3 _ _ _ _⟩
  · by_cases h1 : pc ≤ sl
    · clear hf
      go_enter Tryz.func67, Tryz.ntmps67
      go_wp2_with fail
      go_ret
      exact ⟨ret_bool HX.out.symm, below_alloc3 _ _ _ _⟩
    · by_cases h2 : sg < 0
      · clear hf
        go_enter Tryz.func67, Tryz.ntmps67
        go_wp2_with fail
        go_ret
        exact ⟨ret_bool HX.out.symm, below_alloc3 _ _ _ _⟩
      · by_cases h3 : st ≤ sg
        · clear hf
          go_enter Tryz.func67, Tryz.ntmps67
          go_wp2_with fail
          go_ret
          exact ⟨ret_bool HX.out.symm, below_alloc3 _ _ _ _⟩
        · have hm1 : 0 ≤ sg * pc := Int.mul_nonneg (by omega) (by omega)
          have hm2 : sg * pc ≤ 1001 * 200 := Int.mul_le_mul (by omega) hp2 (by omega) (by omega)
          have h5 : 1000 < sg * pc + sl := by
            by_cases h5 : 1000 < sg * pc + sl
            · exact h5
            · rw [time_yes (x := ⟨sl, sg, o, d, a, b, ar, sp, pl, nn⟩) h0 h1 h2 h3 h5] at hf; cases hf
          clear hf
          go_enter Tryz.func67, Tryz.ntmps67
          go_wp2_with fail
          go_ret
          exact ⟨ret_bool HX.out.symm, below_alloc3 _ _ _ _⟩

set_option maxHeartbeats 2000000 in
theorem one_regs (p0 p1 p2 q0 q1 q2 r pc st : Int) (ka : Option Addr) (kl kc : Nat) (sl sg o d a b ar sp pl nn : Int) (la : Option Addr) (lc : Nat) (logs : List Int) (w : World) (hp1 : 1 ≤ pc) (hp2 : pc ≤ 200) (hs1 : 1 ≤ st) (hs2 : st ≤ 1001) (h0 : ¬ sl < 0) (h1 : ¬ pc ≤ sl) (h2 : ¬ sg < 0) (h3 : ¬ st ≤ sg) (h5 : ¬ 1000 < sg * pc + sl) (hf : d < 0 ∨ r ≤ d ∨ a < 0 ∨ b < 0 ∨ r ≤ a ∨ r ≤ b) :
    Calls Tryz.prog 67 #[.agg #[.int .i64 p0, .int .i64 p1, .int .i64 p2, .int .i64 q0, .int .i64 q1, .int .i64 q2, .int .i64 r], .agg #[.int .i64 pc, .int .i64 st, .slice ka kl kc], .agg #[.int .i64 sl, .int .i64 sg, .int .i64 o, .int .i64 d, .int .i64 a, .int .i64 b, .int .i64 ar, .int .i64 sp, .int .i64 pl, .int .i64 nn], .slice la logs.length lc] w fun e w' => e = .returned (.bool (oneOk r pc st logs ⟨sl, sg, o, d, a, b, ar, sp, pl, nn⟩)) ∧ Below w.heap.size w w' := by
  have HX : Hid (oneOk r pc st logs ⟨sl, sg, o, d, a, b, ar, sp, pl, nn⟩ = false) := by show _ = _; unfold oneOk; rw [regs_no (x := ⟨sl, sg, o, d, a, b, ar, sp, pl, nn⟩) (by show _ ∨ _; dsimp only; omega)]; simp
  have hm1 : 0 ≤ sg * pc := Int.mul_nonneg (by omega) (by omega)
  have hm2 : sg * pc ≤ 1001 * 200 := Int.mul_le_mul (by omega) hp2 (by omega) (by omega)
  by_cases g0 : d < 0
  · clear hf
    go_enter Tryz.func67, Tryz.ntmps67
    go_wp2_with (go_at_call 105; refine (kuses_any _ _).mono ?_; rintro e w' ⟨rfl, rfl⟩)
    go_ret
    exact ⟨ret_bool HX.out.symm, below_alloc3 _ _ _ _⟩
  · by_cases g1 : r ≤ d
    · clear hf
      go_enter Tryz.func67, Tryz.ntmps67
      go_wp2_with (go_at_call 105; refine (kuses_any _ _).mono ?_; rintro e w' ⟨rfl, rfl⟩)
      go_ret
      exact ⟨ret_bool HX.out.symm, below_alloc3 _ _ _ _⟩
    · by_cases g2 : a < 0
      · clear hf
        go_enter Tryz.func67, Tryz.ntmps67
        go_wp2_with (go_at_call 105; refine (kuses_any _ _).mono ?_; rintro e w' ⟨rfl, rfl⟩)
        go_ret
        exact ⟨ret_bool HX.out.symm, below_alloc3 _ _ _ _⟩
      · by_cases g3 : b < 0
        · clear hf
          go_enter Tryz.func67, Tryz.ntmps67
          go_wp2_with (go_at_call 105; refine (kuses_any _ _).mono ?_; rintro e w' ⟨rfl, rfl⟩)
          go_ret
          exact ⟨ret_bool HX.out.symm, below_alloc3 _ _ _ _⟩
        · by_cases g4 : r ≤ a
          · clear hf
            go_enter Tryz.func67, Tryz.ntmps67
            go_wp2_with (go_at_call 105; refine (kuses_any _ _).mono ?_; rintro e w' ⟨rfl, rfl⟩)
            go_ret
            exact ⟨ret_bool HX.out.symm, below_alloc3 _ _ _ _⟩
          · have g5 : r ≤ b := by omega
            clear hf
            go_enter Tryz.func67, Tryz.ntmps67
            go_wp2_with (go_at_call 105; refine (kuses_any _ _).mono ?_; rintro e w' ⟨rfl, rfl⟩)
            go_ret
            exact ⟨ret_bool HX.out.symm, below_alloc3 _ _ _ _⟩

end Go.Proofs.YtghlcmljgpkjiabGreat
