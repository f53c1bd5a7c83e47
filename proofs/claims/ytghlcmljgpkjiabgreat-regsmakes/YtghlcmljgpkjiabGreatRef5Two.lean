/- The contract of the document's own answer on an Op of a kernel, its registers in place; nothing that was there is changed. -/
import Derived.Test.YtghlcmljgpkjiabGreatRef5One
namespace Go.Proofs.YtghlcmljgpkjiabGreat
open Go.RowKit Go.Joins
set_option linter.unusedVariables false

set_option maxHeartbeats 2000000 in
theorem one_uses0 (p0 p1 p2 q0 q1 q2 r pc st : Int) (ka : Option Addr) (kl kc : Nat) (sl sg o d a b ar sp pl nn : Int) (la : Option Addr) (lc : Nat) (logs : List Int) (w : World) (hlog : Ints w (.slice la logs.length lc) logs) (hp1 : 1 ≤ pc) (hp2 : pc ≤ 200) (hs1 : 1 ≤ st) (hs2 : st ≤ 1001) (h0 : ¬ sl < 0) (h1 : ¬ pc ≤ sl) (h2 : ¬ sg < 0) (h3 : ¬ st ≤ sg) (h5 : ¬ 1000 < sg * pc + sl) (g0 : ¬ d < 0) (g1 : ¬ r ≤ d) (g2 : ¬ a < 0) (g3 : ¬ b < 0) (g4 : ¬ r ≤ a) (g5 : ¬ r ≤ b) (hn : usesK o = 0) :
    Calls Tryz.prog 67 #[.agg #[.int .i64 p0, .int .i64 p1, .int .i64 p2, .int .i64 q0, .int .i64 q1, .int .i64 q2, .int .i64 r], .agg #[.int .i64 pc, .int .i64 st, .slice ka kl kc], .agg #[.int .i64 sl, .int .i64 sg, .int .i64 o, .int .i64 d, .int .i64 a, .int .i64 b, .int .i64 ar, .int .i64 sp, .int .i64 pl, .int .i64 nn], .slice la logs.length lc] w fun e w' => e = .returned (.bool (oneOk r pc st logs ⟨sl, sg, o, d, a, b, ar, sp, pl, nn⟩)) ∧ Below w.heap.size w w' := by
  have hm1 : 0 ≤ sg * pc := Int.mul_nonneg (by omega) (by omega)
  have hm2 : sg * pc ≤ 1001 * 200 := Int.mul_le_mul (by omega) hp2 (by omega) (by omega)
  have hu := fun W => kuses_any o W
  rw [hn] at hu
  have HU := hide hu
  clear hu
  by_cases ha : a = 0
  · subst ha
    by_cases hb : b = 0
    · subst hb
      have HX : Hid (oneOk r pc st logs ⟨sl, sg, o, d, 0, 0, ar, sp, pl, nn⟩ = mayB (loopK logs ⟨sl, sg, o, d, 0, 0, ar, sp, pl, nn⟩)) := by show _ = _; unfold oneOk; rw [time_yes (x := ⟨sl, sg, o, d, 0, 0, ar, sp, pl, nn⟩) h0 h1 h2 h3 h5, regs_yes (x := ⟨sl, sg, o, d, 0, 0, ar, sp, pl, nn⟩) g0 g1 g2 g3 g4 g5 (.inr rfl) (.inr rfl)]; simp
      have hbe : Below w.heap.size w ((((w.alloc (.cells #[.int .i64 p0, .int .i64 p1, .int .i64 p2, .int .i64 q0, .int .i64 q1, .int .i64 q2, .int .i64 r] 28)).alloc (.cells #[.int .i64 pc, .int .i64 st, .slice ka kl kc] 31)).alloc (.cells #[.int .i64 sl, .int .i64 sg, .int .i64 o, .int .i64 d, .int .i64 0, .int .i64 0, .int .i64 ar, .int .i64 sp, .int .i64 pl, .int .i64 nn] 37)).alloc (.cells #[.int .i64 o, .int .i64 0, .int .i64 0, .int .i64 0, .int .i64 0, .int .i64 ar, .int .i64 sp, .int .i64 pl, .int .i64 nn] 41)) := (below_alloc3 _ _ _ _).alloc (by simp; omega) _
      have hsz : ((((w.alloc (.cells #[.int .i64 p0, .int .i64 p1, .int .i64 p2, .int .i64 q0, .int .i64 q1, .int .i64 q2, .int .i64 r] 28)).alloc (.cells #[.int .i64 pc, .int .i64 st, .slice ka kl kc] 31)).alloc (.cells #[.int .i64 sl, .int .i64 sg, .int .i64 o, .int .i64 d, .int .i64 0, .int .i64 0, .int .i64 ar, .int .i64 sp, .int .i64 pl, .int .i64 nn] 37)).alloc (.cells #[.int .i64 o, .int .i64 0, .int .i64 0, .int .i64 0, .int .i64 0, .int .i64 ar, .int .i64 sp, .int .i64 pl, .int .i64 nn] 41)).heap.size = w.heap.size + 1 + 1 + 1 + 1 := by simp
      have hmay := rmay_any _ _ _ (loopK_in sl sg o d 0 0 ar sp pl nn (hlog.below hbe))
      rw [hsz] at hmay
      have HM := hide hmay
      have HB := hide hbe
      clear hn hbe hmay hsz
      go_enter Tryz.func67, Tryz.ntmps67
      go_wp2_with fail
      refine (HU.out _).mono ?_
      rintro e w' ⟨rfl, rfl⟩
      clear HU
      go_wp2_with fail
      refine HM.out.mono ?_
      rintro e x1 ⟨rfl, hb1⟩
      have HB1 := hide ((HB.out.alloc HB.out.size _).trans (hb1.mono (by simp; omega)))
      clear hb1 HM
      go_wp2_with fail
      go_ret
      exact ⟨ret_bool HX.out.symm, HB1.out⟩
    · have hbb : (b != 0) = true := by simpa using hb
      have HX : Hid (oneOk r pc st logs ⟨sl, sg, o, d, 0, b, ar, sp, pl, nn⟩ = false) := by show _ = _; unfold oneOk; rw [regs_no (x := ⟨sl, sg, o, d, 0, b, ar, sp, pl, nn⟩) (by show _ ∨ _; dsimp only; rw [hn]; omega)]; simp
      clear hn
      go_enter Tryz.func67, Tryz.ntmps67
      go_wp2_with fail
      refine (HU.out _).mono ?_
      rintro e w' ⟨rfl, rfl⟩
      clear HU
      go_wp2_with fail
      go_ret
      exact ⟨ret_bool HX.out.symm, below_alloc3 _ _ _ _⟩
  · have hab : (a != 0) = true := by simpa using ha
    have HX : Hid (oneOk r pc st logs ⟨sl, sg, o, d, a, b, ar, sp, pl, nn⟩ = false) := by show _ = _; unfold oneOk; rw [regs_no (x := ⟨sl, sg, o, d, a, b, ar, sp, pl, nn⟩) (by show _ ∨ _; dsimp only; rw [hn]; omega)]; simp
    clear hn
    go_enter Tryz.func67, Tryz.ntmps67
    go_wp2_with fail
    refine (HU.out _).mono ?_
    rintro e w' ⟨rfl, rfl⟩
    clear HU
    go_wp2_with fail
    go_ret
    exact ⟨ret_bool HX.out.symm, below_alloc3 _ _ _ _⟩

set_option maxHeartbeats 2000000 in
theorem one_uses1 (p0 p1 p2 q0 q1 q2 r pc st : Int) (ka : Option Addr) (kl kc : Nat) (sl sg o d a b ar sp pl nn : Int) (la : Option Addr) (lc : Nat) (logs : List Int) (w : World) (hlog : Ints w (.slice la logs.length lc) logs) (hp1 : 1 ≤ pc) (hp2 : pc ≤ 200) (hs1 : 1 ≤ st) (hs2 : st ≤ 1001) (h0 : ¬ sl < 0) (h1 : ¬ pc ≤ sl) (h2 : ¬ sg < 0) (h3 : ¬ st ≤ sg) (h5 : ¬ 1000 < sg * pc + sl) (g0 : ¬ d < 0) (g1 : ¬ r ≤ d) (g2 : ¬ a < 0) (g3 : ¬ b < 0) (g4 : ¬ r ≤ a) (g5 : ¬ r ≤ b) (hn : usesK o = 1) :
    Calls Tryz.prog 67 #[.agg #[.int .i64 p0, .int .i64 p1, .int .i64 p2, .int .i64 q0, .int .i64 q1, .int .i64 q2, .int .i64 r], .agg #[.int .i64 pc, .int .i64 st, .slice ka kl kc], .agg #[.int .i64 sl, .int .i64 sg, .int .i64 o, .int .i64 d, .int .i64 a, .int .i64 b, .int .i64 ar, .int .i64 sp, .int .i64 pl, .int .i64 nn], .slice la logs.length lc] w fun e w' => e = .returned (.bool (oneOk r pc st logs ⟨sl, sg, o, d, a, b, ar, sp, pl, nn⟩)) ∧ Below w.heap.size w w' := by
  have hm1 : 0 ≤ sg * pc := Int.mul_nonneg (by omega) (by omega)
  have hm2 : sg * pc ≤ 1001 * 200 := Int.mul_le_mul (by omega) hp2 (by omega) (by omega)
  have hu := fun W => kuses_any o W
  rw [hn] at hu
  have HU := hide hu
  clear hu
  by_cases hb : b = 0
  · subst hb
    have HX : Hid (oneOk r pc st logs ⟨sl, sg, o, d, a, 0, ar, sp, pl, nn⟩ = mayB (loopK logs ⟨sl, sg, o, d, a, 0, ar, sp, pl, nn⟩)) := by show _ = _; unfold oneOk; rw [time_yes (x := ⟨sl, sg, o, d, a, 0, ar, sp, pl, nn⟩) h0 h1 h2 h3 h5, regs_yes (x := ⟨sl, sg, o, d, a, 0, ar, sp, pl, nn⟩) g0 g1 g2 g3 g4 g5 (.inl (by dsimp only; omega)) (.inr rfl)]; simp
    have hbe : Below w.heap.size w ((((w.alloc (.cells #[.int .i64 p0, .int .i64 p1, .int .i64 p2, .int .i64 q0, .int .i64 q1, .int .i64 q2, .int .i64 r] 28)).alloc (.cells #[.int .i64 pc, .int .i64 st, .slice ka kl kc] 31)).alloc (.cells #[.int .i64 sl, .int .i64 sg, .int .i64 o, .int .i64 d, .int .i64 a, .int .i64 0, .int .i64 ar, .int .i64 sp, .int .i64 pl, .int .i64 nn] 37)).alloc (.cells #[.int .i64 o, .int .i64 0, .int .i64 0, .int .i64 0, .int .i64 0, .int .i64 ar, .int .i64 sp, .int .i64 pl, .int .i64 nn] 41)) := (below_alloc3 _ _ _ _).alloc (by simp; omega) _
    have hsz : ((((w.alloc (.cells #[.int .i64 p0, .int .i64 p1, .int .i64 p2, .int .i64 q0, .int .i64 q1, .int .i64 q2, .int .i64 r] 28)).alloc (.cells #[.int .i64 pc, .int .i64 st, .slice ka kl kc] 31)).alloc (.cells #[.int .i64 sl, .int .i64 sg, .int .i64 o, .int .i64 d, .int .i64 a, .int .i64 0, .int .i64 ar, .int .i64 sp, .int .i64 pl, .int .i64 nn] 37)).alloc (.cells #[.int .i64 o, .int .i64 0, .int .i64 0, .int .i64 0, .int .i64 0, .int .i64 ar, .int .i64 sp, .int .i64 pl, .int .i64 nn] 41)).heap.size = w.heap.size + 1 + 1 + 1 + 1 := by simp
    have hmay := rmay_any _ _ _ (loopK_in sl sg o d a 0 ar sp pl nn (hlog.below hbe))
    rw [hsz] at hmay
    have HM := hide hmay
    have HB := hide hbe
    clear hn hbe hmay hsz
    go_enter Tryz.func67, Tryz.ntmps67
    go_wp2_with fail
    refine (HU.out _).mono ?_
    rintro e w' ⟨rfl, rfl⟩
    clear HU
    go_wp2_with fail
    refine HM.out.mono ?_
    rintro e x1 ⟨rfl, hb1⟩
    have HB1 := hide ((HB.out.alloc HB.out.size _).trans (hb1.mono (by simp; omega)))
    clear hb1 HM
    go_wp2_with fail
    go_ret
    exact ⟨ret_bool HX.out.symm, HB1.out⟩
  · have hbb : (b != 0) = true := by simpa using hb
    have HX : Hid (oneOk r pc st logs ⟨sl, sg, o, d, a, b, ar, sp, pl, nn⟩ = false) := by show _ = _; unfold oneOk; rw [regs_no (x := ⟨sl, sg, o, d, a, b, ar, sp, pl, nn⟩) (by show _ ∨ _; dsimp only; rw [hn]; omega)]; simp
    clear hn
    go_enter Tryz.func67, Tryz.ntmps67
    go_wp2_with fail
    refine (HU.out _).mono ?_
    rintro e w' ⟨rfl, rfl⟩
    clear HU
    go_wp2_with fail
    go_ret
    exact ⟨ret_bool HX.out.symm, below_alloc3 _ _ _ _⟩

set_option maxHeartbeats 2000000 in
theorem one_uses2 (p0 p1 p2 q0 q1 q2 r pc st : Int) (ka : Option Addr) (kl kc : Nat) (sl sg o d a b ar sp pl nn : Int) (la : Option Addr) (lc : Nat) (logs : List Int) (w : World) (hlog : Ints w (.slice la logs.length lc) logs) (hp1 : 1 ≤ pc) (hp2 : pc ≤ 200) (hs1 : 1 ≤ st) (hs2 : st ≤ 1001) (h0 : ¬ sl < 0) (h1 : ¬ pc ≤ sl) (h2 : ¬ sg < 0) (h3 : ¬ st ≤ sg) (h5 : ¬ 1000 < sg * pc + sl) (g0 : ¬ d < 0) (g1 : ¬ r ≤ d) (g2 : ¬ a < 0) (g3 : ¬ b < 0) (g4 : ¬ r ≤ a) (g5 : ¬ r ≤ b) (hn : usesK o = 2) :
    Calls Tryz.prog 67 #[.agg #[.int .i64 p0, .int .i64 p1, .int .i64 p2, .int .i64 q0, .int .i64 q1, .int .i64 q2, .int .i64 r], .agg #[.int .i64 pc, .int .i64 st, .slice ka kl kc], .agg #[.int .i64 sl, .int .i64 sg, .int .i64 o, .int .i64 d, .int .i64 a, .int .i64 b, .int .i64 ar, .int .i64 sp, .int .i64 pl, .int .i64 nn], .slice la logs.length lc] w fun e w' => e = .returned (.bool (oneOk r pc st logs ⟨sl, sg, o, d, a, b, ar, sp, pl, nn⟩)) ∧ Below w.heap.size w w' := by
  have hm1 : 0 ≤ sg * pc := Int.mul_nonneg (by omega) (by omega)
  have hm2 : sg * pc ≤ 1001 * 200 := Int.mul_le_mul (by omega) hp2 (by omega) (by omega)
  have hu := fun W => kuses_any o W
  rw [hn] at hu
  have HU := hide hu
  clear hu
  have HX : Hid (oneOk r pc st logs ⟨sl, sg, o, d, a, b, ar, sp, pl, nn⟩ = mayB (loopK logs ⟨sl, sg, o, d, a, b, ar, sp, pl, nn⟩)) := by show _ = _; unfold oneOk; rw [time_yes (x := ⟨sl, sg, o, d, a, b, ar, sp, pl, nn⟩) h0 h1 h2 h3 h5, regs_yes (x := ⟨sl, sg, o, d, a, b, ar, sp, pl, nn⟩) g0 g1 g2 g3 g4 g5 (.inl (by dsimp only; omega)) (.inl (by dsimp only; omega))]; simp
  have hbe : Below w.heap.size w ((((w.alloc (.cells #[.int .i64 p0, .int .i64 p1, .int .i64 p2, .int .i64 q0, .int .i64 q1, .int .i64 q2, .int .i64 r] 28)).alloc (.cells #[.int .i64 pc, .int .i64 st, .slice ka kl kc] 31)).alloc (.cells #[.int .i64 sl, .int .i64 sg, .int .i64 o, .int .i64 d, .int .i64 a, .int .i64 b, .int .i64 ar, .int .i64 sp, .int .i64 pl, .int .i64 nn] 37)).alloc (.cells #[.int .i64 o, .int .i64 0, .int .i64 0, .int .i64 0, .int .i64 0, .int .i64 ar, .int .i64 sp, .int .i64 pl, .int .i64 nn] 41)) := (below_alloc3 _ _ _ _).alloc (by simp; omega) _
  have hsz : ((((w.alloc (.cells #[.int .i64 p0, .int .i64 p1, .int .i64 p2, .int .i64 q0, .int .i64 q1, .int .i64 q2, .int .i64 r] 28)).alloc (.cells #[.int .i64 pc, .int .i64 st, .slice ka kl kc] 31)).alloc (.cells #[.int .i64 sl, .int .i64 sg, .int .i64 o, .int .i64 d, .int .i64 a, .int .i64 b, .int .i64 ar, .int .i64 sp, .int .i64 pl, .int .i64 nn] 37)).alloc (.cells #[.int .i64 o, .int .i64 0, .int .i64 0, .int .i64 0, .int .i64 0, .int .i64 ar, .int .i64 sp, .int .i64 pl, .int .i64 nn] 41)).heap.size = w.heap.size + 1 + 1 + 1 + 1 := by simp
  have hmay := rmay_any _ _ _ (loopK_in sl sg o d a b ar sp pl nn (hlog.below hbe))
  rw [hsz] at hmay
  have HM := hide hmay
  have HB := hide hbe
  clear hn hbe hmay hsz
  go_enter Tryz.func67, Tryz.ntmps67
  go_wp2_with fail
  refine (HU.out _).mono ?_
  rintro e w' ⟨rfl, rfl⟩
  clear HU
  go_wp2_with fail
  refine HM.out.mono ?_
  rintro e x1 ⟨rfl, hb1⟩
  have HB1 := hide ((HB.out.alloc HB.out.size _).trans (hb1.mono (by simp; omega)))
  clear hb1 HM
  go_wp2_with fail
  go_ret
  exact ⟨ret_bool HX.out.symm, HB1.out⟩

theorem one_any (p0 p1 p2 q0 q1 q2 r pc st : Int) (ka : Option Addr) (kl kc : Nat) (sl sg o d a b ar sp pl nn : Int) (la : Option Addr) (lc : Nat) (logs : List Int) (w : World) (hlog : Ints w (.slice la logs.length lc) logs) (hp1 : 1 ≤ pc) (hp2 : pc ≤ 200) (hs1 : 1 ≤ st) (hs2 : st ≤ 1001) :
    Calls Tryz.prog 67 #[.agg #[.int .i64 p0, .int .i64 p1, .int .i64 p2, .int .i64 q0, .int .i64 q1, .int .i64 q2, .int .i64 r], .agg #[.int .i64 pc, .int .i64 st, .slice ka kl kc], .agg #[.int .i64 sl, .int .i64 sg, .int .i64 o, .int .i64 d, .int .i64 a, .int .i64 b, .int .i64 ar, .int .i64 sp, .int .i64 pl, .int .i64 nn], .slice la logs.length lc] w fun e w' => e = .returned (.bool (oneOk r pc st logs ⟨sl, sg, o, d, a, b, ar, sp, pl, nn⟩)) ∧ Below w.heap.size w w' := by
  cases ht : timeOk pc st ⟨sl, sg, o, d, a, b, ar, sp, pl, nn⟩ with
  | false => exact one_time p0 p1 p2 q0 q1 q2 r pc st ka kl kc sl sg o d a b ar sp pl nn la lc logs w hp1 hp2 hs1 hs2 ht
  | true =>
    have h5 : ¬ (sl < 0 ∨ pc ≤ sl ∨ sg < 0 ∨ st ≤ sg ∨ 1000 < sg * pc + sl) := fun h => by rw [time_no (x := ⟨sl, sg, o, d, a, b, ar, sp, pl, nn⟩) h] at ht; cases ht
    by_cases hr : d < 0 ∨ r ≤ d ∨ a < 0 ∨ b < 0 ∨ r ≤ a ∨ r ≤ b
    · exact one_regs p0 p1 p2 q0 q1 q2 r pc st ka kl kc sl sg o d a b ar sp pl nn la lc logs w hp1 hp2 hs1 hs2 (by omega) (by omega) (by omega) (by omega) (by omega) hr
    · rcases uses_three o with hn | hn | hn
      · exact one_uses0 p0 p1 p2 q0 q1 q2 r pc st ka kl kc sl sg o d a b ar sp pl nn la lc logs w hlog hp1 hp2 hs1 hs2 (by omega) (by omega) (by omega) (by omega) (by omega) (by omega) (by omega) (by omega) (by omega) (by omega) (by omega) hn
      · exact one_uses1 p0 p1 p2 q0 q1 q2 r pc st ka kl kc sl sg o d a b ar sp pl nn la lc logs w hlog hp1 hp2 hs1 hs2 (by omega) (by omega) (by omega) (by omega) (by omega) (by omega) (by omega) (by omega) (by omega) (by omega) (by omega) hn
      · exact one_uses2 p0 p1 p2 q0 q1 q2 r pc st ka kl kc sl sg o d a b ar sp pl nn la lc logs w hlog hp1 hp2 hs1 hs2 (by omega) (by omega) (by omega) (by omega) (by omega) (by omega) (by omega) (by omega) (by omega) (by omega) (by omega) hn
end Go.Proofs.YtghlcmljgpkjiabGreat
