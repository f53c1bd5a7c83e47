/- Contracts of the document's own answers on words that meet; nothing that was there is changed. -/
import Derived.Test.YtpljieenjkbmmaaDepMath
import Derived.Test.YtpljieenjkbmmaaLoopStmt
import Derived.Test.YtpljieenjkbmmaaIndex
namespace Go.Proofs.Ytpljieenjkbmmaa
open Go.RowKit Go.Joins
set_option linter.unusedVariables false

theorem wrap_in (x : Int) (h0 : -9223372036854775808 ≤ x) (h1 : x ≤ 9223372036854775807) : IntKind.i64.wrap x = x := by rw [IntKind.wrap_i64]; omega
set_option maxHeartbeats 400000 in
theorem meets_nine (o1 xa1 xb1 ya1 yb1 ar1 sp1 pl1 nn1 o2 xa2 xb2 ya2 yb2 ar2 sp2 pl2 nn2 : Int) (back SZ : Nat) (w : World) (hS0 : 0 < SZ) (hS : SZ ≤ 32) (hb : back ≤ 32) (h1 : -64 ≤ sp1) (h2 : sp1 ≤ 64) (h3 : -64 ≤ pl1) (h4 : pl1 ≤ 64) (h5 : -64 ≤ sp2) (h6 : sp2 ≤ 64) (h7 : -64 ≤ pl2) (h8 : pl2 ≤ 64) :
    Calls Try.prog 107 #[.agg #[.int .i64 o1, .int .i64 xa1, .int .i64 xb1, .int .i64 ya1, .int .i64 yb1, .int .i64 ar1, .int .i64 sp1, .int .i64 pl1, .int .i64 nn1], .agg #[.int .i64 o2, .int .i64 xa2, .int .i64 xb2, .int .i64 ya2, .int .i64 yb2, .int .i64 ar2, .int .i64 sp2, .int .i64 pl2, .int .i64 nn2], .int .i64 back, .int .i64 SZ] w fun e w' => e = .returned (.bool (meetsD ⟨o1, xa1, xb1, ya1, yb1, ar1, sp1, pl1, nn1⟩ ⟨o2, xa2, xb2, ya2, yb2, ar2, sp2, pl2, nn2⟩ back SZ)) ∧ Below w.heap.size w w' := by
  go_enter Try.func107, Try.ntmps107
  go_wp2_with fail
  go_loopw [9] (fun i wr => ∃ k : Nat, k ≤ SZ ∧ i = .int .i64 k ∧ exN (meetAt ⟨o1, xa1, xb1, ya1, yb1, ar1, sp1, pl1, nn1⟩ ⟨o2, xa2, xb2, ya2, yb2, ar2, sp2, pl2, nn2⟩ back SZ) k = false ∧ wr = (w.alloc (.cells #[.int .i64 o1, .int .i64 xa1, .int .i64 xb1, .int .i64 ya1, .int .i64 yb1, .int .i64 ar1, .int .i64 sp1, .int .i64 pl1, .int .i64 nn1] 79)).alloc (.cells #[.int .i64 o2, .int .i64 xa2, .int .i64 xb2, .int .i64 ya2, .int .i64 yb2, .int .i64 ar2, .int .i64 sp2, .int .i64 pl2, .int .i64 nn2] 79)) (fun i _ => SZ - (intOf i).toNat)
  case atStart => exact ⟨0, Nat.zero_le _, rfl, rfl, rfl⟩
  case round =>
    obtain ⟨k, hk, rfl, hex, rfl⟩ := hrel
    have HEX := hide hex
    clear hex
    by_cases hlt : k < SZ
    · have hki : (k : Int) < (SZ : Int) := by omega
      have r1 := prod_range sp1 k (by omega) (by omega) h1 h2
      have r2 := prod_range sp2 ((k : Int) + back) (by omega) (by omega) h5 h6
      have e1 : IntKind.i64.wrap (sp1 * (k : Int)) = sp1 * k := wrap_in _ (by omega) (by omega)
      have e2 : IntKind.i64.wrap (sp1 * (k : Int) + pl1) = sp1 * k + pl1 := wrap_in _ (by omega) (by omega)
      have e3 : IntKind.i64.wrap (sp2 * ((k : Int) + back)) = sp2 * ((k : Int) + back) := wrap_in _ (by omega) (by omega)
      have e4 : IntKind.i64.wrap (sp2 * ((k : Int) + back) + pl2) = sp2 * ((k : Int) + back) + pl2 := wrap_in _ (by omega) (by omega)
      have HM : Hid (meetAt ⟨o1, xa1, xb1, ya1, yb1, ar1, sp1, pl1, nn1⟩ ⟨o2, xa2, xb2, ya2, yb2, ar2, sp2, pl2, nn2⟩ back SZ k = decide ((sp1 * k + pl1) % SZ = (sp2 * ((k : Int) + back) + pl2) % SZ)) := rfl
      have HC1 := hide (fun W => rest_any (sp1 * k + pl1) SZ W (by omega) (by omega) (by omega) (by omega))
      have HC2 := hide (fun W => rest_any (sp2 * ((k : Int) + back) + pl2) SZ W (by omega) (by omega) (by omega) (by omega))
      generalize hX : (sp1 * (k : Int) + pl1) % (SZ : Int) = X at *
      generalize hY : (sp2 * ((k : Int) + back) + pl2) % (SZ : Int) = Y at *
      clear r1 r2 hX hY
      by_cases hXY : X = Y
      · have HT : Hid (meetsD ⟨o1, xa1, xb1, ya1, yb1, ar1, sp1, pl1, nn1⟩ ⟨o2, xa2, xb2, ya2, yb2, ar2, sp2, pl2, nn2⟩ back SZ = true) := exN_true hlt (by rw [HM.out]; exact decide_eq_true hXY)
        have hbb : (X == Y) = true := by simpa using hXY
        go_wp2_with fail
        refine (HC1.out _).mono ?_
        rintro e x2 ⟨rfl, rfl⟩
        go_wp2_with fail
        refine (HC2.out _).mono ?_
        rintro e x2 ⟨rfl, rfl⟩
        go_wp2_with fail
        go_ret
        exact ⟨ret_bool HT.out.symm, below_alloc2 _ _ _⟩
      · have HF := hide (exN_step HEX.out (by rw [HM.out]; exact decide_eq_false hXY))
        have hbb : (X == Y) = false := by simpa using hXY
        go_wp2_with fail
        refine (HC1.out _).mono ?_
        rintro e x2 ⟨rfl, rfl⟩
        go_wp2_with fail
        refine (HC2.out _).mono ?_
        rintro e x2 ⟨rfl, rfl⟩
        go_wp2_with fail
        go_roundw
        case rel => exact ⟨k + 1, by omega, by go_num, HF.out, trivial⟩
        case measure => simp [intOf]; omega
    · have e : k = SZ := by omega
      have HT : Hid (meetsD ⟨o1, xa1, xb1, ya1, yb1, ar1, sp1, pl1, nn1⟩ ⟨o2, xa2, xb2, ya2, yb2, ar2, sp2, pl2, nn2⟩ back SZ = false) := by show meetsD _ _ _ _ = false; rw [← e]; unfold meetsD; rw [e]; rw [e] at HEX; exact HEX.out
      have hki : ¬ (k : Int) < (SZ : Int) := by omega
      clear e
      go_wp2_with fail
      go_ret
      exact ⟨ret_bool HT.out.symm, below_alloc2 _ _ _⟩
theorem meets_any (a b : St) (back SZ : Nat) (w : World) (hS0 : 0 < SZ) (hS : SZ ≤ 32) (hb : back ≤ 32) (h1 : -64 ≤ a.sp) (h2 : a.sp ≤ 64) (h3 : -64 ≤ a.pl) (h4 : a.pl ≤ 64) (h5 : -64 ≤ b.sp) (h6 : b.sp ≤ 64) (h7 : -64 ≤ b.pl) (h8 : b.pl ≤ 64) :
    Calls Try.prog 107 #[.agg (stCells a), .agg (stCells b), .int .i64 back, .int .i64 SZ] w fun e w' => e = .returned (.bool (meetsD a b back SZ)) ∧ Below w.heap.size w w' :=
  meets_nine a.o a.xa a.xb a.ya a.yb a.ar a.sp a.pl a.nn b.o b.xa b.xb b.ya b.yb b.ar b.sp b.pl b.nn back SZ w hS0 hS hb h1 h2 h3 h4 h5 h6 h7 h8

theorem three_ways (o : Int) : (o = 3 ∧ (o == 3) = true ∧ (o == 4) = false) ∨ (o = 4 ∧ (o == 3) = false ∧ (o == 4) = true) ∨ (¬ o = 3 ∧ ¬ o = 4 ∧ (o == 3) = false ∧ (o == 4) = false) := by
  by_cases h3 : o = 3
  · subst h3; exact .inl ⟨rfl, rfl, rfl⟩
  · by_cases h4 : o = 4
    · subst h4; exact .inr (.inl ⟨rfl, rfl, rfl⟩)
    · exact .inr (.inr ⟨h3, h4, by simpa using h3, by simpa using h4⟩)
set_option maxHeartbeats 1000000 in
theorem memory_nine (o1 xa1 xb1 ya1 yb1 ar1 sp1 pl1 nn1 o2 xa2 xb2 ya2 yb2 ar2 sp2 pl2 nn2 : Int) (w : World) :
    Calls Try.prog 106 #[.agg #[.int .i64 o1, .int .i64 xa1, .int .i64 xb1, .int .i64 ya1, .int .i64 yb1, .int .i64 ar1, .int .i64 sp1, .int .i64 pl1, .int .i64 nn1], .agg #[.int .i64 o2, .int .i64 xa2, .int .i64 xb2, .int .i64 ya2, .int .i64 yb2, .int .i64 ar2, .int .i64 sp2, .int .i64 pl2, .int .i64 nn2]] w fun e w' => e = .returned (.bool (memD ⟨o1, xa1, xb1, ya1, yb1, ar1, sp1, pl1, nn1⟩ ⟨o2, xa2, xb2, ya2, yb2, ar2, sp2, pl2, nn2⟩)) ∧ Below w.heap.size w w' := by
  have hr : (ar1 == ar2) = decide (ar1 = ar2) := by by_cases h : ar1 = ar2 <;> simp [h]
  by_cases hra : ar1 = ar2
  · have hrb : (ar1 == ar2) = true := by rw [hr]; exact decide_eq_true hra
    clear hr
    rcases three_ways o1 with ⟨rfl, a3, a4⟩ | ⟨rfl, a3, a4⟩ | ⟨ap, aq, a3, a4⟩
    · rcases three_ways o2 with ⟨rfl, b3, b4⟩ | ⟨rfl, b3, b4⟩ | ⟨bp, bq, b3, b4⟩
      · have HX : Hid (memD ⟨3, xa1, xb1, ya1, yb1, ar1, sp1, pl1, nn1⟩ ⟨3, xa2, xb2, ya2, yb2, ar2, sp2, pl2, nn2⟩ = false) := by show memD _ _ = _; simp [memD, wordD, *]
        go_enter Try.func106, Try.ntmps106
        go_wp2_with fail
        go_ret
        exact ⟨ret_bool HX.out.symm, below_alloc2 _ _ _⟩
      · have HX : Hid (memD ⟨3, xa1, xb1, ya1, yb1, ar1, sp1, pl1, nn1⟩ ⟨4, xa2, xb2, ya2, yb2, ar2, sp2, pl2, nn2⟩ = true) := by show memD _ _ = _; simp [memD, wordD, *]
        go_enter Try.func106, Try.ntmps106
        go_wp2_with fail
        go_ret
        exact ⟨ret_bool HX.out.symm, below_alloc2 _ _ _⟩
      · have HX : Hid (memD ⟨3, xa1, xb1, ya1, yb1, ar1, sp1, pl1, nn1⟩ ⟨o2, xa2, xb2, ya2, yb2, ar2, sp2, pl2, nn2⟩ = false) := by show memD _ _ = _; simp [memD, wordD, *]
        go_enter Try.func106, Try.ntmps106
        go_wp2_with fail
        go_ret
        exact ⟨ret_bool HX.out.symm, below_alloc2 _ _ _⟩
    · rcases three_ways o2 with ⟨rfl, b3, b4⟩ | ⟨rfl, b3, b4⟩ | ⟨bp, bq, b3, b4⟩
      · have HX : Hid (memD ⟨4, xa1, xb1, ya1, yb1, ar1, sp1, pl1, nn1⟩ ⟨3, xa2, xb2, ya2, yb2, ar2, sp2, pl2, nn2⟩ = true) := by show memD _ _ = _; simp [memD, wordD, *]
        go_enter Try.func106, Try.ntmps106
        go_wp2_with fail
        go_ret
        exact ⟨ret_bool HX.out.symm, below_alloc2 _ _ _⟩
      · have HX : Hid (memD ⟨4, xa1, xb1, ya1, yb1, ar1, sp1, pl1, nn1⟩ ⟨4, xa2, xb2, ya2, yb2, ar2, sp2, pl2, nn2⟩ = true) := by show memD _ _ = _; simp [memD, wordD, *]
        go_enter Try.func106, Try.ntmps106
        go_wp2_with fail
        go_ret
        exact ⟨ret_bool HX.out.symm, below_alloc2 _ _ _⟩
      · have HX : Hid (memD ⟨4, xa1, xb1, ya1, yb1, ar1, sp1, pl1, nn1⟩ ⟨o2, xa2, xb2, ya2, yb2, ar2, sp2, pl2, nn2⟩ = false) := by show memD _ _ = _; simp [memD, wordD, *]
        go_enter Try.func106, Try.ntmps106
        go_wp2_with fail
        go_ret
        exact ⟨ret_bool HX.out.symm, below_alloc2 _ _ _⟩
    · rcases three_ways o2 with ⟨rfl, b3, b4⟩ | ⟨rfl, b3, b4⟩ | ⟨bp, bq, b3, b4⟩
      · have HX : Hid (memD ⟨o1, xa1, xb1, ya1, yb1, ar1, sp1, pl1, nn1⟩ ⟨3, xa2, xb2, ya2, yb2, ar2, sp2, pl2, nn2⟩ = false) := by show memD _ _ = _; simp [memD, wordD, *]
        go_enter Try.func106, Try.ntmps106
        go_wp2_with fail
        go_ret
        exact ⟨ret_bool HX.out.symm, below_alloc2 _ _ _⟩
      · have HX : Hid (memD ⟨o1, xa1, xb1, ya1, yb1, ar1, sp1, pl1, nn1⟩ ⟨4, xa2, xb2, ya2, yb2, ar2, sp2, pl2, nn2⟩ = false) := by show memD _ _ = _; simp [memD, wordD, *]
        go_enter Try.func106, Try.ntmps106
        go_wp2_with fail
        go_ret
        exact ⟨ret_bool HX.out.symm, below_alloc2 _ _ _⟩
      · have HX : Hid (memD ⟨o1, xa1, xb1, ya1, yb1, ar1, sp1, pl1, nn1⟩ ⟨o2, xa2, xb2, ya2, yb2, ar2, sp2, pl2, nn2⟩ = false) := by show memD _ _ = _; simp [memD, wordD, *]
        go_enter Try.func106, Try.ntmps106
        go_wp2_with fail
        go_ret
        exact ⟨ret_bool HX.out.symm, below_alloc2 _ _ _⟩
  · have hrb : (ar1 == ar2) = false := by rw [hr]; exact decide_eq_false hra
    clear hr
    rcases three_ways o1 with ⟨rfl, a3, a4⟩ | ⟨rfl, a3, a4⟩ | ⟨ap, aq, a3, a4⟩
    · rcases three_ways o2 with ⟨rfl, b3, b4⟩ | ⟨rfl, b3, b4⟩ | ⟨bp, bq, b3, b4⟩
      · have HX : Hid (memD ⟨3, xa1, xb1, ya1, yb1, ar1, sp1, pl1, nn1⟩ ⟨3, xa2, xb2, ya2, yb2, ar2, sp2, pl2, nn2⟩ = false) := by show memD _ _ = _; simp [memD, wordD, *]
        go_enter Try.func106, Try.ntmps106
        go_wp2_with fail
        go_ret
        exact ⟨ret_bool HX.out.symm, below_alloc2 _ _ _⟩
      · have HX : Hid (memD ⟨3, xa1, xb1, ya1, yb1, ar1, sp1, pl1, nn1⟩ ⟨4, xa2, xb2, ya2, yb2, ar2, sp2, pl2, nn2⟩ = false) := by show memD _ _ = _; simp [memD, wordD, *]
        go_enter Try.func106, Try.ntmps106
        go_wp2_with fail
        go_ret
        exact ⟨ret_bool HX.out.symm, below_alloc2 _ _ _⟩
      · have HX : Hid (memD ⟨3, xa1, xb1, ya1, yb1, ar1, sp1, pl1, nn1⟩ ⟨o2, xa2, xb2, ya2, yb2, ar2, sp2, pl2, nn2⟩ = false) := by show memD _ _ = _; simp [memD, wordD, *]
        go_enter Try.func106, Try.ntmps106
        go_wp2_with fail
        go_ret
        exact ⟨ret_bool HX.out.symm, below_alloc2 _ _ _⟩
    · rcases three_ways o2 with ⟨rfl, b3, b4⟩ | ⟨rfl, b3, b4⟩ | ⟨bp, bq, b3, b4⟩
      · have HX : Hid (memD ⟨4, xa1, xb1, ya1, yb1, ar1, sp1, pl1, nn1⟩ ⟨3, xa2, xb2, ya2, yb2, ar2, sp2, pl2, nn2⟩ = false) := by show memD _ _ = _; simp [memD, wordD, *]
        go_enter Try.func106, Try.ntmps106
        go_wp2_with fail
        go_ret
        exact ⟨ret_bool HX.out.symm, below_alloc2 _ _ _⟩
      · have HX : Hid (memD ⟨4, xa1, xb1, ya1, yb1, ar1, sp1, pl1, nn1⟩ ⟨4, xa2, xb2, ya2, yb2, ar2, sp2, pl2, nn2⟩ = false) := by show memD _ _ = _; simp [memD, wordD, *]
        go_enter Try.func106, Try.ntmps106
        go_wp2_with fail
        go_ret
        exact ⟨ret_bool HX.out.symm, below_alloc2 _ _ _⟩
      · have HX : Hid (memD ⟨4, xa1, xb1, ya1, yb1, ar1, sp1, pl1, nn1⟩ ⟨o2, xa2, xb2, ya2, yb2, ar2, sp2, pl2, nn2⟩ = false) := by show memD _ _ = _; simp [memD, wordD, *]
        go_enter Try.func106, Try.ntmps106
        go_wp2_with fail
        go_ret
        exact ⟨ret_bool HX.out.symm, below_alloc2 _ _ _⟩
    · rcases three_ways o2 with ⟨rfl, b3, b4⟩ | ⟨rfl, b3, b4⟩ | ⟨bp, bq, b3, b4⟩
      · have HX : Hid (memD ⟨o1, xa1, xb1, ya1, yb1, ar1, sp1, pl1, nn1⟩ ⟨3, xa2, xb2, ya2, yb2, ar2, sp2, pl2, nn2⟩ = false) := by show memD _ _ = _; simp [memD, wordD, *]
        go_enter Try.func106, Try.ntmps106
        go_wp2_with fail
        go_ret
        exact ⟨ret_bool HX.out.symm, below_alloc2 _ _ _⟩
      · have HX : Hid (memD ⟨o1, xa1, xb1, ya1, yb1, ar1, sp1, pl1, nn1⟩ ⟨4, xa2, xb2, ya2, yb2, ar2, sp2, pl2, nn2⟩ = false) := by show memD _ _ = _; simp [memD, wordD, *]
        go_enter Try.func106, Try.ntmps106
        go_wp2_with fail
        go_ret
        exact ⟨ret_bool HX.out.symm, below_alloc2 _ _ _⟩
      · have HX : Hid (memD ⟨o1, xa1, xb1, ya1, yb1, ar1, sp1, pl1, nn1⟩ ⟨o2, xa2, xb2, ya2, yb2, ar2, sp2, pl2, nn2⟩ = false) := by show memD _ _ = _; simp [memD, wordD, *]
        go_enter Try.func106, Try.ntmps106
        go_wp2_with fail
        go_ret
        exact ⟨ret_bool HX.out.symm, below_alloc2 _ _ _⟩
theorem memory_any (a b : St) (w : World) : Calls Try.prog 106 #[.agg (stCells a), .agg (stCells b)] w fun e w' => e = .returned (.bool (memD a b)) ∧ Below w.heap.size w w' :=
  memory_nine a.o a.xa a.xb a.ya a.yb a.ar a.sp a.pl a.nn b.o b.xa b.xb b.ya b.yb b.ar b.sp b.pl b.nn w
end Go.Proofs.Ytpljieenjkbmmaa
