/- Ref6A: texts that are built as one: Ref6Uses, Ref6Meets, Ref4. -/
import Derived.Test.YtjoapiafpahihabMaths
import Derived.Test.YtjoapiafpahihabRef2Stmt
import Derived.Test.YtjoapiafpahihabLoopStmt
import Derived.Test.YtjoapiafpahihabNums
/- Contracts of the document's own answer on what a statement looks at, as a list; nothing that was there is changed. -/
namespace Go.Proofs.Ytjoapiafpahihab
open Go.RowKit Go.Joins
set_option linter.unusedVariables false

/-- v is a slice of the Refs l -/
def RefsV (w : World) (v : Value) (l : List (Int × Int)) : Prop :=
  ∃ a cap, v = .slice a l.length cap ∧ l.length ≤ cap ∧ cap ≤ maxLen ∧
    (0 < l.length → ∃ blk off, a = some ⟨blk, off, none⟩ ∧ blk < w.heap.size ∧ ∀ i, i < l.length → w.cell? ⟨blk, off + i * 2, none⟩ = some (.int .i64 (refAt l i).1) ∧ w.cell? ⟨blk, off + i * 2 + 1, none⟩ = some (.int .i64 (refAt l i).2))
theorem RefsV.below {w w' : World} {v : Value} {l : List (Int × Int)} (h : RefsV w v l) (hb : Below w.heap.size w w') : RefsV w' v l := by
  obtain ⟨a, cap, e, h1, h2, h4⟩ := h
  refine ⟨a, cap, e, h1, h2, fun hp => ?_⟩
  obtain ⟨b, off, e2, h5, h6⟩ := h4 hp
  exact ⟨b, off, e2, Nat.lt_of_lt_of_le h5 hb.size, fun i hi => by rw [bcell hb _ _ h5, bcell hb _ _ h5]; exact h6 i hi⟩
theorem uses_any (s : St) (w : World) : Calls Try.prog 39 #[.agg (stCells s)] w fun e w' => ∃ v, e = .returned v ∧ RefsV w' v (usesL s) ∧ Below w.heap.size w w' := by
  obtain ⟨o, xa, xb, ya, yb, ar, sp, pl, nn⟩ := s
  by_cases h4 : o = 4
  · subst h4
    refine (uses_4 xa xb ya yb ar sp pl nn w).mono fun e w' ⟨h1, h2⟩ => ⟨_, h1, ?_, by rw [h2]; exact below_alloc2 _ _ _⟩
    have e : usesL ⟨4, xa, xb, ya, yb, ar, sp, pl, nn⟩ = [(xa, xb)] := rfl
    rw [e, h2]
    refine ⟨_, _, rfl, Nat.le_refl _, by unfold maxLen; omega, fun _ => ⟨w.heap.size + 1, 0, rfl, by simp, fun i hi => ?_⟩⟩
    have hi0 : i = 0 := by have : i < 1 := hi; omega
    subst hi0
    exact ⟨by go_simp; rfl, by go_simp; rfl⟩
  · by_cases h10 : 10 < o
    · refine (uses_op o xa xb ya yb ar sp pl nn w (by simpa using h4) h10).mono fun e w' ⟨h1, h2⟩ => ⟨_, h1, ?_, by rw [h2]; exact below_alloc2 _ _ _⟩
      have e : usesL ⟨o, xa, xb, ya, yb, ar, sp, pl, nn⟩ = [(xa, xb), (ya, yb)] := by unfold usesL; rw [if_neg h4, if_pos h10]
      rw [e, h2]
      refine ⟨_, _, rfl, Nat.le_refl _, by unfold maxLen; omega, fun _ => ⟨w.heap.size + 1, 0, rfl, by simp, fun i hi => ?_⟩⟩
      have hi0 : i = 0 ∨ i = 1 := by have : i < 2 := hi; omega
      rcases hi0 with rfl | rfl
      · exact ⟨by go_simp; rfl, by go_simp; rfl⟩
      · exact ⟨by go_simp; rfl, by go_simp; rfl⟩
    · refine (uses_0 o xa xb ya yb ar sp pl nn w (by simpa using h4) h10).mono fun e w' ⟨h1, h2⟩ => ⟨_, h1, ?_, by rw [h2]; exact below_alloc1 _ _⟩
      have e : usesL ⟨o, xa, xb, ya, yb, ar, sp, pl, nn⟩ = [] := by unfold usesL; rw [if_neg h4, if_neg h10]
      rw [e]
      exact ⟨none, 0, rfl, Nat.le_refl _, Nat.zero_le _, fun hp => absurd hp (Nat.lt_irrefl _)⟩
end Go.Proofs.Ytjoapiafpahihab
/- Contracts of the document's own answers on words that meet; nothing that was there is changed. -/
namespace Go.Proofs.Ytjoapiafpahihab
open Go.RowKit Go.Joins
set_option linter.unusedVariables false

theorem wrap_in (x : Int) (h0 : -9223372036854775808 ≤ x) (h1 : x ≤ 9223372036854775807) : IntKind.i64.wrap x = x := by rw [IntKind.wrap_i64]; omega
set_option maxHeartbeats 400000 in
theorem meets_nine (o1 xa1 xb1 ya1 yb1 ar1 sp1 pl1 nn1 o2 xa2 xb2 ya2 yb2 ar2 sp2 pl2 nn2 : Int) (back SZ : Nat) (w : World) (hS0 : 0 < SZ) (hS : SZ ≤ 32) (hb : back ≤ 32) (h1 : -64 ≤ sp1) (h2 : sp1 ≤ 64) (h3 : -64 ≤ pl1) (h4 : pl1 ≤ 64) (h5 : -64 ≤ sp2) (h6 : sp2 ≤ 64) (h7 : -64 ≤ pl2) (h8 : pl2 ≤ 64) :
    Calls Try.prog 95 #[.agg #[.int .i64 o1, .int .i64 xa1, .int .i64 xb1, .int .i64 ya1, .int .i64 yb1, .int .i64 ar1, .int .i64 sp1, .int .i64 pl1, .int .i64 nn1], .agg #[.int .i64 o2, .int .i64 xa2, .int .i64 xb2, .int .i64 ya2, .int .i64 yb2, .int .i64 ar2, .int .i64 sp2, .int .i64 pl2, .int .i64 nn2], .int .i64 back, .int .i64 SZ] w fun e w' => e = .returned (.bool (meetsD ⟨o1, xa1, xb1, ya1, yb1, ar1, sp1, pl1, nn1⟩ ⟨o2, xa2, xb2, ya2, yb2, ar2, sp2, pl2, nn2⟩ back SZ)) ∧ Below w.heap.size w w' := by
  go_enter Try.func95, Try.ntmps95
  go_wp2_with fail
  go_loopw [9] (fun i wr => ∃ k : Nat, k ≤ SZ ∧ i = .int .i64 k ∧ exN (meetAt ⟨o1, xa1, xb1, ya1, yb1, ar1, sp1, pl1, nn1⟩ ⟨o2, xa2, xb2, ya2, yb2, ar2, sp2, pl2, nn2⟩ back SZ) k = false ∧ wr = (w.alloc (.cells #[.int .i64 o1, .int .i64 xa1, .int .i64 xb1, .int .i64 ya1, .int .i64 yb1, .int .i64 ar1, .int .i64 sp1, .int .i64 pl1, .int .i64 nn1] 65)).alloc (.cells #[.int .i64 o2, .int .i64 xa2, .int .i64 xb2, .int .i64 ya2, .int .i64 yb2, .int .i64 ar2, .int .i64 sp2, .int .i64 pl2, .int .i64 nn2] 65)) (fun i _ => SZ - (intOf i).toNat)
  case atStart => exact ⟨0, Nat.zero_le _, rfl, rfl, rfl⟩
  case round =>
    obtain ⟨k, hk, rfl, hex, rfl⟩ := hrel
    have HEX := hide hex
    clear hex
    by_cases hlt : k < SZ
    · have hki : (k : Int) < (SZ : Int) := by omega
      have r1 := prod_range sp1 k (by omega) (by omega) h1 h2
      have r2 := prod_range sp2 ((k : Int) + back) (by omega) (by omega) h5 h6
      have e1 : IntKind.i64.wrap (sp1 * (k : Int)) = sp1 * k := wrap_in _ (by omega) (by omega)
      have e2 : IntKind.i64.wrap (sp1 * (k : Int) + pl1) = sp1 * k + pl1 := wrap_in _ (by omega) (by omega)
      have e3 : IntKind.i64.wrap (sp2 * ((k : Int) + back)) = sp2 * ((k : Int) + back) := wrap_in _ (by omega) (by omega)
      have e4 : IntKind.i64.wrap (sp2 * ((k : Int) + back) + pl2) = sp2 * ((k : Int) + back) + pl2 := wrap_in _ (by omega) (by omega)
      have HM : Hid (meetAt ⟨o1, xa1, xb1, ya1, yb1, ar1, sp1, pl1, nn1⟩ ⟨o2, xa2, xb2, ya2, yb2, ar2, sp2, pl2, nn2⟩ back SZ k = decide ((sp1 * k + pl1) % SZ = (sp2 * ((k : Int) + back) + pl2) % SZ)) := rfl
      have HC1 := hide (fun W => rest_any (sp1 * k + pl1) SZ W (by omega) (by omega) (by omega) (by omega))
      have HC2 := hide (fun W => rest_any (sp2 * ((k : Int) + back) + pl2) SZ W (by omega) (by omega) (by omega) (by omega))
      generalize hX : (sp1 * (k : Int) + pl1) % (SZ : Int) = X at *
      generalize hY : (sp2 * ((k : Int) + back) + pl2) % (SZ : Int) = Y at *
      clear r1 r2 hX hY
      by_cases hXY : X = Y
      · have HT : Hid (meetsD ⟨o1, xa1, xb1, ya1, yb1, ar1, sp1, pl1, nn1⟩ ⟨o2, xa2, xb2, ya2, yb2, ar2, sp2, pl2, nn2⟩ back SZ = true) := exN_true hlt (by rw [HM.out]; exact decide_eq_true hXY)
        have hbb : (X == Y) = true := by simpa using hXY
        go_wp2_with fail
        refine (HC1.out _).mono ?_
        rintro e x2 ⟨rfl, rfl⟩
        go_wp2_with fail
        refine (HC2.out _).mono ?_
        rintro e x2 ⟨rfl, rfl⟩
        go_wp2_with fail
        go_ret
        exact ⟨ret_bool HT.out.symm, below_alloc2 _ _ _⟩
      · have HF := hide (exN_step HEX.out (by rw [HM.out]; exact decide_eq_false hXY))
        have hbb : (X == Y) = false := by simpa using hXY
        go_wp2_with fail
        refine (HC1.out _).mono ?_
        rintro e x2 ⟨rfl, rfl⟩
        go_wp2_with fail
        refine (HC2.out _).mono ?_
        rintro e x2 ⟨rfl, rfl⟩
        go_wp2_with fail
        go_roundw
        case rel => exact ⟨k + 1, by omega, by go_num, HF.out, trivial⟩
        case measure => simp [intOf]; omega
    · have e : k = SZ := by omega
      have HT : Hid (meetsD ⟨o1, xa1, xb1, ya1, yb1, ar1, sp1, pl1, nn1⟩ ⟨o2, xa2, xb2, ya2, yb2, ar2, sp2, pl2, nn2⟩ back SZ = false) := by show meetsD _ _ _ _ = false; rw [← e]; unfold meetsD; rw [e]; rw [e] at HEX; exact HEX.out
      have hki : ¬ (k : Int) < (SZ : Int) := by omega
      clear e
      go_wp2_with fail
      go_ret
      exact ⟨ret_bool HT.out.symm, below_alloc2 _ _ _⟩
theorem meets_any (a b : St) (back SZ : Nat) (w : World) (hS0 : 0 < SZ) (hS : SZ ≤ 32) (hb : back ≤ 32) (h1 : -64 ≤ a.sp) (h2 : a.sp ≤ 64) (h3 : -64 ≤ a.pl) (h4 : a.pl ≤ 64) (h5 : -64 ≤ b.sp) (h6 : b.sp ≤ 64) (h7 : -64 ≤ b.pl) (h8 : b.pl ≤ 64) :
    Calls Try.prog 95 #[.agg (stCells a), .agg (stCells b), .int .i64 back, .int .i64 SZ] w fun e w' => e = .returned (.bool (meetsD a b back SZ)) ∧ Below w.heap.size w w' :=
  meets_nine a.o a.xa a.xb a.ya a.yb a.ar a.sp a.pl a.nn b.o b.xa b.xb b.ya b.yb b.ar b.sp b.pl b.nn back SZ w hS0 hS hb h1 h2 h3 h4 h5 h6 h7 h8

theorem three_ways (o : Int) : (o = 3 ∧ (o == 3) = true ∧ (o == 4) = false) ∨ (o = 4 ∧ (o == 3) = false ∧ (o == 4) = true) ∨ (¬ o = 3 ∧ ¬ o = 4 ∧ (o == 3) = false ∧ (o == 4) = false) := by
  by_cases h3 : o = 3
  · subst h3; exact .inl ⟨rfl, rfl, rfl⟩
  · by_cases h4 : o = 4
    · subst h4; exact .inr (.inl ⟨rfl, rfl, rfl⟩)
    · exact .inr (.inr ⟨h3, h4, by simpa using h3, by simpa using h4⟩)
set_option maxHeartbeats 1000000 in
theorem memory_nine (o1 xa1 xb1 ya1 yb1 ar1 sp1 pl1 nn1 o2 xa2 xb2 ya2 yb2 ar2 sp2 pl2 nn2 : Int) (w : World) :
    Calls Try.prog 93 #[.agg #[.int .i64 o1, .int .i64 xa1, .int .i64 xb1, .int .i64 ya1, .int .i64 yb1, .int .i64 ar1, .int .i64 sp1, .int .i64 pl1, .int .i64 nn1], .agg #[.int .i64 o2, .int .i64 xa2, .int .i64 xb2, .int .i64 ya2, .int .i64 yb2, .int .i64 ar2, .int .i64 sp2, .int .i64 pl2, .int .i64 nn2]] w fun e w' => e = .returned (.bool (memD ⟨o1, xa1, xb1, ya1, yb1, ar1, sp1, pl1, nn1⟩ ⟨o2, xa2, xb2, ya2, yb2, ar2, sp2, pl2, nn2⟩)) ∧ Below w.heap.size w w' := by
  have hr : (ar1 == ar2) = decide (ar1 = ar2) := by by_cases h : ar1 = ar2 <;> simp [h]
  by_cases hra : ar1 = ar2
  · have hrb : (ar1 == ar2) = true := by rw [hr]; exact decide_eq_true hra
    clear hr
    rcases three_ways o1 with ⟨rfl, a3, a4⟩ | ⟨rfl, a3, a4⟩ | ⟨ap, aq, a3, a4⟩
    · rcases three_ways o2 with ⟨rfl, b3, b4⟩ | ⟨rfl, b3, b4⟩ | ⟨bp, bq, b3, b4⟩
      · have HX : Hid (memD ⟨3, xa1, xb1, ya1, yb1, ar1, sp1, pl1, nn1⟩ ⟨3, xa2, xb2, ya2, yb2, ar2, sp2, pl2, nn2⟩ = false) := by show memD _ _ = _; simp [memD, wordD, *]
        go_enter Try.func93, Try.ntmps93
        go_wp2_with fail
        go_ret
        exact ⟨ret_bool HX.out.symm, below_alloc2 _ _ _⟩
      · have HX : Hid (memD ⟨3, xa1, xb1, ya1, yb1, ar1, sp1, pl1, nn1⟩ ⟨4, xa2, xb2, ya2, yb2, ar2, sp2, pl2, nn2⟩ = true) := by show memD _ _ = _; simp [memD, wordD, *]
        go_enter Try.func93, Try.ntmps93
        go_wp2_with fail
        go_ret
        exact ⟨ret_bool HX.out.symm, below_alloc2 _ _ _⟩
      · have HX : Hid (memD ⟨3, xa1, xb1, ya1, yb1, ar1, sp1, pl1, nn1⟩ ⟨o2, xa2, xb2, ya2, yb2, ar2, sp2, pl2, nn2⟩ = false) := by show memD _ _ = _; simp [memD, wordD, *]
        go_enter Try.func93, Try.ntmps93
        go_wp2_with fail
        go_ret
        exact ⟨ret_bool HX.out.symm, below_alloc2 _ _ _⟩
    · rcases three_ways o2 with ⟨rfl, b3, b4⟩ | ⟨rfl, b3, b4⟩ | ⟨bp, bq, b3, b4⟩
      · have HX : Hid (memD ⟨4, xa1, xb1, ya1, yb1, ar1, sp1, pl1, nn1⟩ ⟨3, xa2, xb2, ya2, yb2, ar2, sp2, pl2, nn2⟩ = true) := by show memD _ _ = _; simp [memD, wordD, *]
        go_enter Try.func93, Try.ntmps93
        go_wp2_with fail
        go_ret
        exact ⟨ret_bool HX.out.symm, below_alloc2 _ _ _⟩
      · have HX : Hid (memD ⟨4, xa1, xb1, ya1, yb1, ar1, sp1, pl1, nn1⟩ ⟨4, xa2, xb2, ya2, yb2, ar2, sp2, pl2, nn2⟩ = true) := by show memD _ _ = _; simp [memD, wordD, *]
        go_enter Try.func93, Try.ntmps93
        go_wp2_with fail
        go_ret
        exact ⟨ret_bool HX.out.symm, below_alloc2 _ _ _⟩
      · have HX : Hid (memD ⟨4, xa1, xb1, ya1, yb1, ar1, sp1, pl1, nn1⟩ ⟨o2, xa2, xb2, ya2, yb2, ar2, sp2, pl2, nn2⟩ = false) := by show memD _ _ = _; simp [memD, wordD, *]
        go_enter Try.func93, Try.ntmps93
        go_wp2_with fail
        go_ret
        exact ⟨ret_bool HX.out.symm, below_alloc2 _ _ _⟩
    · rcases three_ways o2 with ⟨rfl, b3, b4⟩ | ⟨rfl, b3, b4⟩ | ⟨bp, bq, b3, b4⟩
      · have HX : Hid (memD ⟨o1, xa1, xb1, ya1, yb1, ar1, sp1, pl1, nn1⟩ ⟨3, xa2, xb2, ya2, yb2, ar2, sp2, pl2, nn2⟩ = false) := by show memD _ _ = _; simp [memD, wordD, *]
        go_enter Try.func93, Try.ntmps93
        go_wp2_with fail
        go_ret
        exact ⟨ret_bool HX.out.symm, below_alloc2 _ _ _⟩
      · have HX : Hid (memD ⟨o1, xa1, xb1, ya1, yb1, ar1, sp1, pl1, nn1⟩ ⟨4, xa2, xb2, ya2, yb2, ar2, sp2, pl2, nn2⟩ = false) := by show memD _ _ = _; simp [memD, wordD, *]
        go_enter Try.func93, Try.ntmps93
        go_wp2_with fail
        go_ret
        exact ⟨ret_bool HX.out.symm, below_alloc2 _ _ _⟩
      · have HX : Hid (memD ⟨o1, xa1, xb1, ya1, yb1, ar1, sp1, pl1, nn1⟩ ⟨o2, xa2, xb2, ya2, yb2, ar2, sp2, pl2, nn2⟩ = false) := by show memD _ _ = _; simp [memD, wordD, *]
        go_enter Try.func93, Try.ntmps93
        go_wp2_with fail
        go_ret
        exact ⟨ret_bool HX.out.symm, below_alloc2 _ _ _⟩
  · have hrb : (ar1 == ar2) = false := by rw [hr]; exact decide_eq_false hra
    clear hr
    rcases three_ways o1 with ⟨rfl, a3, a4⟩ | ⟨rfl, a3, a4⟩ | ⟨ap, aq, a3, a4⟩
    · rcases three_ways o2 with ⟨rfl, b3, b4⟩ | ⟨rfl, b3, b4⟩ | ⟨bp, bq, b3, b4⟩
      · have HX : Hid (memD ⟨3, xa1, xb1, ya1, yb1, ar1, sp1, pl1, nn1⟩ ⟨3, xa2, xb2, ya2, yb2, ar2, sp2, pl2, nn2⟩ = false) := by show memD _ _ = _; simp [memD, wordD, *]
        go_enter Try.func93, Try.ntmps93
        go_wp2_with fail
        go_ret
        exact ⟨ret_bool HX.out.symm, below_alloc2 _ _ _⟩
      · have HX : Hid (memD ⟨3, xa1, xb1, ya1, yb1, ar1, sp1, pl1, nn1⟩ ⟨4, xa2, xb2, ya2, yb2, ar2, sp2, pl2, nn2⟩ = false) := by show memD _ _ = _; simp [memD, wordD, *]
        go_enter Try.func93, Try.ntmps93
        go_wp2_with fail
        go_ret
        exact ⟨ret_bool HX.out.symm, below_alloc2 _ _ _⟩
      · have HX : Hid (memD ⟨3, xa1, xb1, ya1, yb1, ar1, sp1, pl1, nn1⟩ ⟨o2, xa2, xb2, ya2, yb2, ar2, sp2, pl2, nn2⟩ = false) := by show memD _ _ = _; simp [memD, wordD, *]
        go_enter Try.func93, Try.ntmps93
        go_wp2_with fail
        go_ret
        exact ⟨ret_bool HX.out.symm, below_alloc2 _ _ _⟩
    · rcases three_ways o2 with ⟨rfl, b3, b4⟩ | ⟨rfl, b3, b4⟩ | ⟨bp, bq, b3, b4⟩
      · have HX : Hid (memD ⟨4, xa1, xb1, ya1, yb1, ar1, sp1, pl1, nn1⟩ ⟨3, xa2, xb2, ya2, yb2, ar2, sp2, pl2, nn2⟩ = false) := by show memD _ _ = _; simp [memD, wordD, *]
        go_enter Try.func93, Try.ntmps93
        go_wp2_with fail
        go_ret
        exact ⟨ret_bool HX.out.symm, below_alloc2 _ _ _⟩
      · have HX : Hid (memD ⟨4, xa1, xb1, ya1, yb1, ar1, sp1, pl1, nn1⟩ ⟨4, xa2, xb2, ya2, yb2, ar2, sp2, pl2, nn2⟩ = false) := by show memD _ _ = _; simp [memD, wordD, *]
        go_enter Try.func93, Try.ntmps93
        go_wp2_with fail
        go_ret
        exact ⟨ret_bool HX.out.symm, below_alloc2 _ _ _⟩
      · have HX : Hid (memD ⟨4, xa1, xb1, ya1, yb1, ar1, sp1, pl1, nn1⟩ ⟨o2, xa2, xb2, ya2, yb2, ar2, sp2, pl2, nn2⟩ = false) := by show memD _ _ = _; simp [memD, wordD, *]
        go_enter Try.func93, Try.ntmps93
        go_wp2_with fail
        go_ret
        exact ⟨ret_bool HX.out.symm, below_alloc2 _ _ _⟩
    · rcases three_ways o2 with ⟨rfl, b3, b4⟩ | ⟨rfl, b3, b4⟩ | ⟨bp, bq, b3, b4⟩
      · have HX : Hid (memD ⟨o1, xa1, xb1, ya1, yb1, ar1, sp1, pl1, nn1⟩ ⟨3, xa2, xb2, ya2, yb2, ar2, sp2, pl2, nn2⟩ = false) := by show memD _ _ = _; simp [memD, wordD, *]
        go_enter Try.func93, Try.ntmps93
        go_wp2_with fail
        go_ret
        exact ⟨ret_bool HX.out.symm, below_alloc2 _ _ _⟩
      · have HX : Hid (memD ⟨o1, xa1, xb1, ya1, yb1, ar1, sp1, pl1, nn1⟩ ⟨4, xa2, xb2, ya2, yb2, ar2, sp2, pl2, nn2⟩ = false) := by show memD _ _ = _; simp [memD, wordD, *]
        go_enter Try.func93, Try.ntmps93
        go_wp2_with fail
        go_ret
        exact ⟨ret_bool HX.out.symm, below_alloc2 _ _ _⟩
      · have HX : Hid (memD ⟨o1, xa1, xb1, ya1, yb1, ar1, sp1, pl1, nn1⟩ ⟨o2, xa2, xb2, ya2, yb2, ar2, sp2, pl2, nn2⟩ = false) := by show memD _ _ = _; simp [memD, wordD, *]
        go_enter Try.func93, Try.ntmps93
        go_wp2_with fail
        go_ret
        exact ⟨ret_bool HX.out.symm, below_alloc2 _ _ _⟩
theorem memory_any (a b : St) (w : World) : Calls Try.prog 93 #[.agg (stCells a), .agg (stCells b)] w fun e w' => e = .returned (.bool (memD a b)) ∧ Below w.heap.size w w' :=
  memory_nine a.o a.xa a.xb a.ya a.yb a.ar a.sp a.pl a.nn b.o b.xa b.xb b.ya b.yb b.ar b.sp b.pl b.nn w
end Go.Proofs.Ytjoapiafpahihab
/- The contracts of the document's own answers on machines; nothing that was there is changed. -/
namespace Go.Proofs.Ytjoapiafpahihab
open Go.RowKit Go.Joins
set_option linter.unusedVariables false

def Tg.cells (t : Tg) : Array Value := #[.int .i64 t.u0, .int .i64 t.u1, .int .i64 t.u2, .int .i64 t.w0, .int .i64 t.w1, .int .i64 t.w2, .int .i64 t.r]

set_option maxHeartbeats 1000000 in
theorem tmay_seven (p0 p1 p2 q0 q1 q2 r : Int) (w : World) :
    Calls Try.prog 34 #[.agg #[.int .i64 p0, .int .i64 p1, .int .i64 p2, .int .i64 q0, .int .i64 q1, .int .i64 q2, .int .i64 r]] w fun e w' => e = .returned (.bool (mayT ⟨p0, p1, p2, q0, q1, q2, r⟩)) ∧ Below w.heap.size w w' := by
  go_enter Try.func34, Try.ntmps34
  go_wp2_with fail
  go_loopw [3] (fun i wr => wr = w.alloc (.cells #[.int .i64 p0, .int .i64 p1, .int .i64 p2, .int .i64 q0, .int .i64 q1, .int .i64 q2, .int .i64 r] 28) ∧ (i = .int .i64 0 ∨ (i = .int .i64 1 ∧ unitOk p0 q0 = true) ∨ (i = .int .i64 2 ∧ unitOk p0 q0 = true ∧ unitOk p1 q1 = true) ∨ (i = .int .i64 3 ∧ unitOk p0 q0 = true ∧ unitOk p1 q1 = true ∧ unitOk p2 q2 = true))) (fun i _ => 3 - (intOf i).toNat)
  case atStart => exact ⟨rfl, .inl rfl⟩
  case round =>
    obtain ⟨rfl, hrel⟩ := hrel
    rcases hrel with rfl | ⟨rfl, k0⟩ | ⟨rfl, k0, k1⟩ | ⟨rfl, k0, k1, k2⟩
    · by_cases ha : p0 < 1
      · have HX : Hid (mayT ⟨p0, p1, p2, q0, q1, q2, r⟩ = false) := by show mayT _ = false; unfold mayT; dsimp only; rw [ unit_no (u := p0) (w := q0) (by omega)]; simp
        go_wp2_with fail
        go_ret
        exact ⟨ret_bool HX.out.symm, below_alloc1 _ _⟩
      · by_cases hb : 4 < p0
        · have HX : Hid (mayT ⟨p0, p1, p2, q0, q1, q2, r⟩ = false) := by show mayT _ = false; unfold mayT; dsimp only; rw [ unit_no (u := p0) (w := q0) (by omega)]; simp
          go_wp2_with fail
          go_ret
          exact ⟨ret_bool HX.out.symm, below_alloc1 _ _⟩
        · by_cases hc : q0 < 1
          · have HX : Hid (mayT ⟨p0, p1, p2, q0, q1, q2, r⟩ = false) := by show mayT _ = false; unfold mayT; dsimp only; rw [ unit_no (u := p0) (w := q0) (by omega)]; simp
            go_wp2_with fail
            go_ret
            exact ⟨ret_bool HX.out.symm, below_alloc1 _ _⟩
          · by_cases hd : 6 < q0
            · have HX : Hid (mayT ⟨p0, p1, p2, q0, q1, q2, r⟩ = false) := by show mayT _ = false; unfold mayT; dsimp only; rw [ unit_no (u := p0) (w := q0) (by omega)]; simp
              go_wp2_with fail
              go_ret
              exact ⟨ret_bool HX.out.symm, below_alloc1 _ _⟩
            · have HY : Hid (unitOk p0 q0 = true) := unit_yes ha hb hc hd
              go_wp2_with fail
              go_roundw
              case rel => exact ⟨by simp, .inr (.inl ⟨rfl, HY.out⟩)⟩
              case measure => simp [intOf]
    · have H0 := hide k0
      clear k0
      by_cases ha : p1 < 1
      · have HX : Hid (mayT ⟨p0, p1, p2, q0, q1, q2, r⟩ = false) := by show mayT _ = false; unfold mayT; dsimp only; rw [H0.out, unit_no (u := p1) (w := q1) (by omega)]; simp
        go_wp2_with fail
        go_ret
        exact ⟨ret_bool HX.out.symm, below_alloc1 _ _⟩
      · by_cases hb : 4 < p1
        · have HX : Hid (mayT ⟨p0, p1, p2, q0, q1, q2, r⟩ = false) := by show mayT _ = false; unfold mayT; dsimp only; rw [H0.out, unit_no (u := p1) (w := q1) (by omega)]; simp
          go_wp2_with fail
          go_ret
          exact ⟨ret_bool HX.out.symm, below_alloc1 _ _⟩
        · by_cases hc : q1 < 1
          · have HX : Hid (mayT ⟨p0, p1, p2, q0, q1, q2, r⟩ = false) := by show mayT _ = false; unfold mayT; dsimp only; rw [H0.out, unit_no (u := p1) (w := q1) (by omega)]; simp
            go_wp2_with fail
            go_ret
            exact ⟨ret_bool HX.out.symm, below_alloc1 _ _⟩
          · by_cases hd : 6 < q1
            · have HX : Hid (mayT ⟨p0, p1, p2, q0, q1, q2, r⟩ = false) := by show mayT _ = false; unfold mayT; dsimp only; rw [H0.out, unit_no (u := p1) (w := q1) (by omega)]; simp
              go_wp2_with fail
              go_ret
              exact ⟨ret_bool HX.out.symm, below_alloc1 _ _⟩
            · have HY : Hid (unitOk p1 q1 = true) := unit_yes ha hb hc hd
              go_wp2_with fail
              go_roundw
              case rel => exact ⟨by simp, .inr (.inr (.inl ⟨rfl, H0.out, HY.out⟩))⟩
              case measure => simp [intOf]
    · have H0 := hide k0
      have H1 := hide k1
      clear k0 k1
      by_cases ha : p2 < 1
      · have HX : Hid (mayT ⟨p0, p1, p2, q0, q1, q2, r⟩ = false) := by show mayT _ = false; unfold mayT; dsimp only; rw [H0.out, H1.out, unit_no (u := p2) (w := q2) (by omega)]; simp
        go_wp2_with fail
        go_ret
        exact ⟨ret_bool HX.out.symm, below_alloc1 _ _⟩
      · by_cases hb : 4 < p2
        · have HX : Hid (mayT ⟨p0, p1, p2, q0, q1, q2, r⟩ = false) := by show mayT _ = false; unfold mayT; dsimp only; rw [H0.out, H1.out, unit_no (u := p2) (w := q2) (by omega)]; simp
          go_wp2_with fail
          go_ret
          exact ⟨ret_bool HX.out.symm, below_alloc1 _ _⟩
        · by_cases hc : q2 < 1
          · have HX : Hid (mayT ⟨p0, p1, p2, q0, q1, q2, r⟩ = false) := by show mayT _ = false; unfold mayT; dsimp only; rw [H0.out, H1.out, unit_no (u := p2) (w := q2) (by omega)]; simp
            go_wp2_with fail
            go_ret
            exact ⟨ret_bool HX.out.symm, below_alloc1 _ _⟩
          · by_cases hd : 6 < q2
            · have HX : Hid (mayT ⟨p0, p1, p2, q0, q1, q2, r⟩ = false) := by show mayT _ = false; unfold mayT; dsimp only; rw [H0.out, H1.out, unit_no (u := p2) (w := q2) (by omega)]; simp
              go_wp2_with fail
              go_ret
              exact ⟨ret_bool HX.out.symm, below_alloc1 _ _⟩
            · have HY : Hid (unitOk p2 q2 = true) := unit_yes ha hb hc hd
              go_wp2_with fail
              go_roundw
              case rel => exact ⟨by simp, .inr (.inr (.inr ⟨rfl, H0.out, H1.out, HY.out⟩))⟩
              case measure => simp [intOf]
    · have HX : Hid (mayT ⟨p0, p1, p2, q0, q1, q2, r⟩ = inR r 1 128) := by show mayT _ = _; unfold mayT; dsimp only; rw [k0, k1, k2]; simp
      clear k0 k1 k2
      by_cases h0 : 0 < r
      · have HY : Hid (inR r 1 128 = decide (r ≤ 128)) := by show _ = _; unfold inR; rw [decide_eq_decide]; omega
        go_wp2_with fail
        go_ret
        exact ⟨ret_bool (by rw [HX.out, HY.out]), below_alloc1 _ _⟩
      · have HY : Hid (inR r 1 128 = false) := inR_no (by omega)
        go_wp2_with fail
        go_ret
        exact ⟨ret_bool (by rw [HX.out, HY.out]), below_alloc1 _ _⟩
set_option maxHeartbeats 400000 in
theorem twait_seven (p0 p1 p2 q0 q1 q2 r op : Int) (w : World) :
    Calls Try.prog 35 #[.agg #[.int .i64 p0, .int .i64 p1, .int .i64 p2, .int .i64 q0, .int .i64 q1, .int .i64 q2, .int .i64 r], .int .i64 op] w fun e w' => e = .returned (.int .i64 (waitT ⟨p0, p1, p2, q0, q1, q2, r⟩ op)) ∧ Below w.heap.size w w' := by
  have hmay := tmay_seven p0 p1 p2 q0 q1 q2 r (w.alloc (.cells #[.int .i64 p0, .int .i64 p1, .int .i64 p2, .int .i64 q0, .int .i64 q1, .int .i64 q2, .int .i64 r] 28))
  cases hm : mayT ⟨p0, p1, p2, q0, q1, q2, r⟩ with
  | false =>
    have HX : Hid (waitT ⟨p0, p1, p2, q0, q1, q2, r⟩ op = 0) := by show waitT _ _ = 0; unfold waitT; rw [hm]; rfl
    rw [hm] at hmay
    have HM := hide hmay
    clear hmay hm
    go_enter Try.func35, Try.ntmps35
    go_wp2_with fail
    refine HM.out.mono ?_
    rintro e x1 ⟨rfl, hb⟩
    have HB := hide ((below_alloc1 w _).trans (hb.mono (by simp)))
    clear hb HM
    go_wp2_with fail
    go_ret
    exact ⟨ret_int HX.out.symm, HB.out⟩
  | true =>
    rw [hm] at hmay
    have HM := hide hmay
    have HX : Hid (waitT ⟨p0, p1, p2, q0, q1, q2, r⟩ op = waitsT ⟨p0, p1, p2, q0, q1, q2, r⟩ (clsv op)) := by show waitT _ _ = _; unfold waitT; rw [if_pos hm]
    have hcl := fun W => refClass_any op W
    clear hmay hm
    rcases cls_three op with hc | hc | hc
    · rw [hc] at hcl
      have HC := hide hcl
      have HY : Hid (waitT ⟨p0, p1, p2, q0, q1, q2, r⟩ op = q0) := by show _ = _; rw [HX.out, hc]; rfl
      clear hcl hc HX
      go_enter Try.func35, Try.ntmps35
      go_wp2_with fail
      refine HM.out.mono ?_
      rintro e x1 ⟨rfl, hb⟩
      have hx : x1.cell? ⟨w.heap.size, 3, none⟩ = some (.int .i64 q0) := by rw [bcell hb _ _ (by simp)]; go_simp
      have HB := hide ((below_alloc1 w _).trans (hb.mono (by simp)))
      clear hb HM
      go_wp2_with fail
      refine (HC.out _).mono ?_
      rintro e x2 ⟨rfl, rfl⟩
      go_wp2_with fail
      go_ret
      exact ⟨ret_int HY.out.symm, HB.out⟩
    · rw [hc] at hcl
      have HC := hide hcl
      have HY : Hid (waitT ⟨p0, p1, p2, q0, q1, q2, r⟩ op = q1) := by show _ = _; rw [HX.out, hc]; rfl
      clear hcl hc HX
      go_enter Try.func35, Try.ntmps35
      go_wp2_with fail
      refine HM.out.mono ?_
      rintro e x1 ⟨rfl, hb⟩
      have hx : x1.cell? ⟨w.heap.size, 4, none⟩ = some (.int .i64 q1) := by rw [bcell hb _ _ (by simp)]; go_simp
      have HB := hide ((below_alloc1 w _).trans (hb.mono (by simp)))
      clear hb HM
      go_wp2_with fail
      refine (HC.out _).mono ?_
      rintro e x2 ⟨rfl, rfl⟩
      go_wp2_with fail
      go_ret
      exact ⟨ret_int HY.out.symm, HB.out⟩
    · rw [hc] at hcl
      have HC := hide hcl
      have HY : Hid (waitT ⟨p0, p1, p2, q0, q1, q2, r⟩ op = q2) := by show _ = _; rw [HX.out, hc]; rfl
      clear hcl hc HX
      go_enter Try.func35, Try.ntmps35
      go_wp2_with fail
      refine HM.out.mono ?_
      rintro e x1 ⟨rfl, hb⟩
      have hx : x1.cell? ⟨w.heap.size, 5, none⟩ = some (.int .i64 q2) := by rw [bcell hb _ _ (by simp)]; go_simp
      have HB := hide ((below_alloc1 w _).trans (hb.mono (by simp)))
      clear hb HM
      go_wp2_with fail
      refine (HC.out _).mono ?_
      rintro e x2 ⟨rfl, rfl⟩
      go_wp2_with fail
      go_ret
      exact ⟨ret_int HY.out.symm, HB.out⟩
end Go.Proofs.Ytjoapiafpahihab
