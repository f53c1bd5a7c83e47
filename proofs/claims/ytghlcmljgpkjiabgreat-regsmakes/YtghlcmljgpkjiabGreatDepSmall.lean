/- Contracts of package dep's small answers: what shares words, and whether two words meet; nothing that was there is changed. -/
import Derived.Test.YtghlcmljgpkjiabGreatDepList
import Derived.Test.YtghlcmljgpkjiabGreatLoopStmt
import Derived.Test.YtghlcmljgpkjiabGreatRef6A
import Derived.Deep.QuietTactic
import Derived.BigQuiet
namespace Go.Proofs.YtghlcmljgpkjiabGreat
open Go.RowKit Go.Joins
set_option linter.unusedVariables false

set_option maxHeartbeats 400000 in
theorem atWords_nine (o xa xb ya yb ar sp pl nn : Int) (w : World) :
    Calls Tryz.prog 151 #[.agg #[.int .i64 o, .int .i64 xa, .int .i64 xb, .int .i64 ya, .int .i64 yb, .int .i64 ar, .int .i64 sp, .int .i64 pl, .int .i64 nn]] w fun e w' => e = .returned (.bool (wordD ⟨o, xa, xb, ya, yb, ar, sp, pl, nn⟩)) ∧ Below w.heap.size w w' := by
  rcases three_ways o with ⟨rfl, a3, a4⟩ | ⟨rfl, a3, a4⟩ | ⟨ap, aq, a3, a4⟩
  · have HX : Hid (wordD ⟨3, xa, xb, ya, yb, ar, sp, pl, nn⟩ = true) := rfl
    go_enter Tryz.func151, Tryz.ntmps151
    go_wp2_with fail
    go_ret
    exact ⟨ret_bool HX.out.symm, below_alloc1 _ _⟩
  · have HX : Hid (wordD ⟨4, xa, xb, ya, yb, ar, sp, pl, nn⟩ = true) := rfl
    go_enter Tryz.func151, Tryz.ntmps151
    go_wp2_with fail
    go_ret
    exact ⟨ret_bool HX.out.symm, below_alloc1 _ _⟩
  · have HX : Hid (wordD ⟨o, xa, xb, ya, yb, ar, sp, pl, nn⟩ = false) := by show wordD _ = _; simp [wordD, *]
    go_enter Tryz.func151, Tryz.ntmps151
    go_wp2_with fail
    go_ret
    exact ⟨ret_bool HX.out.symm, below_alloc1 _ _⟩
set_option maxHeartbeats 400000 in
theorem wordWait_nine (o xa xb ya yb ar sp pl nn : Int) (w : World) :
    Calls Tryz.prog 142 #[.agg #[.int .i64 o, .int .i64 xa, .int .i64 xb, .int .i64 ya, .int .i64 yb, .int .i64 ar, .int .i64 sp, .int .i64 pl, .int .i64 nn]] w fun e w' => e = .returned (.int .i64 (waitD ⟨o, xa, xb, ya, yb, ar, sp, pl, nn⟩)) ∧ w' = w.alloc (.cells #[.int .i64 o, .int .i64 xa, .int .i64 xb, .int .i64 ya, .int .i64 yb, .int .i64 ar, .int .i64 sp, .int .i64 pl, .int .i64 nn] 41) := by
  by_cases h : o = 4
  · subst h
    have HX : Hid (waitD ⟨4, xa, xb, ya, yb, ar, sp, pl, nn⟩ = 1) := rfl
    go_enter Tryz.func142, Tryz.ntmps142
    go_wp2_with fail
    go_ret
    exact ⟨ret_int HX.out.symm, rfl⟩
  · have HX : Hid (waitD ⟨o, xa, xb, ya, yb, ar, sp, pl, nn⟩ = 0) := if_neg h
    have hb : (o == 4) = false := by simpa using h
    clear h
    go_enter Tryz.func142, Tryz.ntmps142
    go_wp2_with fail
    go_ret
    exact ⟨ret_int HX.out.symm, rfl⟩
set_option maxHeartbeats 1000000 in
theorem share_nine (o1 xa1 xb1 ya1 yb1 ar1 sp1 pl1 nn1 o2 xa2 xb2 ya2 yb2 ar2 sp2 pl2 nn2 : Int) (w : World) :
    Calls Tryz.prog 140 #[.agg #[.int .i64 o1, .int .i64 xa1, .int .i64 xb1, .int .i64 ya1, .int .i64 yb1, .int .i64 ar1, .int .i64 sp1, .int .i64 pl1, .int .i64 nn1], .agg #[.int .i64 o2, .int .i64 xa2, .int .i64 xb2, .int .i64 ya2, .int .i64 yb2, .int .i64 ar2, .int .i64 sp2, .int .i64 pl2, .int .i64 nn2]] w fun e w' => e = .returned (.bool (memD ⟨o1, xa1, xb1, ya1, yb1, ar1, sp1, pl1, nn1⟩ ⟨o2, xa2, xb2, ya2, yb2, ar2, sp2, pl2, nn2⟩)) ∧ Below w.heap.size w w' := by
  have HA := hide (fun W => atWords_nine o1 xa1 xb1 ya1 yb1 ar1 sp1 pl1 nn1 W)
  have HB := hide (fun W => atWords_nine o2 xa2 xb2 ya2 yb2 ar2 sp2 pl2 nn2 W)
  have HX : Hid (memD ⟨o1, xa1, xb1, ya1, yb1, ar1, sp1, pl1, nn1⟩ ⟨o2, xa2, xb2, ya2, yb2, ar2, sp2, pl2, nn2⟩ = (wordD ⟨o1, xa1, xb1, ya1, yb1, ar1, sp1, pl1, nn1⟩ && wordD ⟨o2, xa2, xb2, ya2, yb2, ar2, sp2, pl2, nn2⟩ && decide (ar1 = ar2) && (decide (o1 = 4) || decide (o2 = 4)))) := rfl
  generalize memD ⟨o1, xa1, xb1, ya1, yb1, ar1, sp1, pl1, nn1⟩ ⟨o2, xa2, xb2, ya2, yb2, ar2, sp2, pl2, nn2⟩ = R at HX ⊢
  generalize wordD ⟨o1, xa1, xb1, ya1, yb1, ar1, sp1, pl1, nn1⟩ = b1 at HA HX
  generalize wordD ⟨o2, xa2, xb2, ya2, yb2, ar2, sp2, pl2, nn2⟩ = b2 at HB HX
  cases b1 with
  | false =>
    have HR : Hid (R = false) := HX.out
    clear HX
    go_enter Tryz.func140, Tryz.ntmps140
    go_wp2_with fail
    refine (HA.out _).mono ?_
    rintro e x1 ⟨rfl, hb1⟩
    have HW := hide ((below_alloc2 w _ _).trans (hb1.mono (by simp; omega)))
    clear hb1
    go_wp2_with fail
    go_ret
    exact ⟨ret_bool HR.out.symm, HW.out⟩
  | true =>
    have hs : ((w.alloc (.cells #[.int .i64 o1, .int .i64 xa1, .int .i64 xb1, .int .i64 ya1, .int .i64 yb1, .int .i64 ar1, .int .i64 sp1, .int .i64 pl1, .int .i64 nn1] 41)).alloc (.cells #[.int .i64 o2, .int .i64 xa2, .int .i64 xb2, .int .i64 ya2, .int .i64 yb2, .int .i64 ar2, .int .i64 sp2, .int .i64 pl2, .int .i64 nn2] 41)).heap.size = w.heap.size + 1 + 1 := by simp
    have HS := hide hs
    clear hs
    cases b2 with
    | false =>
      have HR : Hid (R = false) := HX.out
      clear HX
      go_enter Tryz.func140, Tryz.ntmps140
      go_wp2_with fail
      refine (HA.out _).mono ?_
      rintro e x1 ⟨rfl, hb1⟩
      have hc1 := bcell hb1
      have hz1 := hb1.size
      rw [HS.out] at hz1
      have HW := hide ((below_alloc2 w _ _).trans (hb1.mono (by simp; omega)))
      clear hb1
      go_wp2_with fail
      refine (HB.out _).mono ?_
      rintro e x2 ⟨rfl, hb2⟩
      have HW2 := hide (HW.out.trans (hb2.mono HW.out.size))
      clear hb2
      go_wp2_with fail
      go_ret
      exact ⟨ret_bool HR.out.symm, HW2.out⟩
    | true =>
      go_enter Tryz.func140, Tryz.ntmps140
      go_wp2_with fail
      refine (HA.out _).mono ?_
      rintro e x1 ⟨rfl, hb1⟩
      have hc1 := bcell hb1
      have hz1 := hb1.size
      rw [HS.out] at hz1
      have HW := hide ((below_alloc2 w _ _).trans (hb1.mono (by simp; omega)))
      clear hb1
      go_wp2_with fail
      refine (HB.out _).mono ?_
      rintro e x2 ⟨rfl, hb2⟩
      have z0 : w.heap.size < x1.heap.size := by omega
      have z1 : w.heap.size + 1 < x1.heap.size := by omega
      have hc2 := bcell hb2
      have HW2 := hide (HW.out.trans (hb2.mono HW.out.size))
      clear hb2
      by_cases hra : ar1 = ar2
      · subst hra
        by_cases h1 : o1 = 4
        · subst h1
          have HR : Hid (R = true) := by show R = true; rw [HX.out]; simp
          clear HX
          go_wp2_with fail
          go_ret
          exact ⟨ret_bool HR.out.symm, HW2.out⟩
        · have g1 : (o1 == 4) = false := by simpa using h1
          by_cases h2 : o2 = 4
          · subst h2
            have HR : Hid (R = true) := by show R = true; rw [HX.out]; simp
            clear HX
            go_wp2_with fail
            go_ret
            exact ⟨ret_bool HR.out.symm, HW2.out⟩
          · have g2 : (o2 == 4) = false := by simpa using h2
            have HR : Hid (R = false) := by show R = false; rw [HX.out]; simp [h1, h2]
            clear HX
            go_wp2_with fail
            go_ret
            exact ⟨ret_bool HR.out.symm, HW2.out⟩
      · have g3 : (ar1 == ar2) = false := by simpa using hra
        have HR : Hid (R = false) := by show R = false; rw [HX.out]; simp [hra]
        clear HX
        go_wp2_with fail
        go_ret
        exact ⟨ret_bool HR.out.symm, HW2.out⟩

theorem meet_cells {w wr : World} {o1 xa1 xb1 ya1 yb1 ar1 sp1 pl1 nn1 o2 xa2 xb2 ya2 yb2 ar2 sp2 pl2 nn2 : Int} {ta tb : TypeId} (h : Below (w.heap.size + 1 + 1) ((w.alloc (.cells #[.int .i64 o1, .int .i64 xa1, .int .i64 xb1, .int .i64 ya1, .int .i64 yb1, .int .i64 ar1, .int .i64 sp1, .int .i64 pl1, .int .i64 nn1] ta)).alloc (.cells #[.int .i64 o2, .int .i64 xa2, .int .i64 xb2, .int .i64 ya2, .int .i64 yb2, .int .i64 ar2, .int .i64 sp2, .int .i64 pl2, .int .i64 nn2] tb)) wr) :
    wr.cell? ⟨w.heap.size, 6, none⟩ = some (.int .i64 sp1) ∧ wr.cell? ⟨w.heap.size, 7, none⟩ = some (.int .i64 pl1) ∧ wr.cell? ⟨w.heap.size + 1, 6, none⟩ = some (.int .i64 sp2) ∧ wr.cell? ⟨w.heap.size + 1, 7, none⟩ = some (.int .i64 pl2) ∧ Below w.heap.size w wr := by
  have hs : ((w.alloc (.cells #[.int .i64 o1, .int .i64 xa1, .int .i64 xb1, .int .i64 ya1, .int .i64 yb1, .int .i64 ar1, .int .i64 sp1, .int .i64 pl1, .int .i64 nn1] ta)).alloc (.cells #[.int .i64 o2, .int .i64 xa2, .int .i64 xb2, .int .i64 ya2, .int .i64 yb2, .int .i64 ar2, .int .i64 sp2, .int .i64 pl2, .int .i64 nn2] tb)).heap.size = w.heap.size + 1 + 1 := by simp
  have h' : Below ((w.alloc (.cells #[.int .i64 o1, .int .i64 xa1, .int .i64 xb1, .int .i64 ya1, .int .i64 yb1, .int .i64 ar1, .int .i64 sp1, .int .i64 pl1, .int .i64 nn1] ta)).alloc (.cells #[.int .i64 o2, .int .i64 xa2, .int .i64 xb2, .int .i64 ya2, .int .i64 yb2, .int .i64 ar2, .int .i64 sp2, .int .i64 pl2, .int .i64 nn2] tb)).heap.size ((w.alloc (.cells #[.int .i64 o1, .int .i64 xa1, .int .i64 xb1, .int .i64 ya1, .int .i64 yb1, .int .i64 ar1, .int .i64 sp1, .int .i64 pl1, .int .i64 nn1] ta)).alloc (.cells #[.int .i64 o2, .int .i64 xa2, .int .i64 xb2, .int .i64 ya2, .int .i64 yb2, .int .i64 ar2, .int .i64 sp2, .int .i64 pl2, .int .i64 nn2] tb)) wr := by rw [hs]; exact h
  refine ⟨?_, ?_, ?_, ?_, (below_alloc2 w _ _).trans (h.mono (by omega))⟩
  all_goals rw [bcell h' _ _ (by omega)]
  all_goals go_simp
set_option maxHeartbeats 1000000 in
theorem meet_nine (o1 xa1 xb1 ya1 yb1 ar1 sp1 pl1 nn1 o2 xa2 xb2 ya2 yb2 ar2 sp2 pl2 nn2 lg : Int) (back SZ : Nat) (w : World) (hl0 : 0 ≤ lg) (hl5 : lg ≤ 5) (hSZ : 2 ^ lg.toNat = SZ) (hsh : wrap64 (2 ^ lg.toNat) = (SZ : Int)) (hS : SZ ≤ 32) (hb : back ≤ 32) (h1 : -64 ≤ sp1) (h2 : sp1 ≤ 64) (h3 : -64 ≤ pl1) (h4 : pl1 ≤ 64) (h5 : -64 ≤ sp2) (h6 : sp2 ≤ 64) (h7 : -64 ≤ pl2) (h8 : pl2 ≤ 64) :
    Calls Tryz.prog 152 #[.agg #[.int .i64 o1, .int .i64 xa1, .int .i64 xb1, .int .i64 ya1, .int .i64 yb1, .int .i64 ar1, .int .i64 sp1, .int .i64 pl1, .int .i64 nn1], .agg #[.int .i64 o2, .int .i64 xa2, .int .i64 xb2, .int .i64 ya2, .int .i64 yb2, .int .i64 ar2, .int .i64 sp2, .int .i64 pl2, .int .i64 nn2], .int .i64 back, .int .i64 lg] w fun e w' => e = .returned (.bool (meetsD ⟨o1, xa1, xb1, ya1, yb1, ar1, sp1, pl1, nn1⟩ ⟨o2, xa2, xb2, ya2, yb2, ar2, sp2, pl2, nn2⟩ back SZ)) ∧ Below w.heap.size w w' := by
  have HSZ := hide hSZ
  clear hSZ
  go_enter Tryz.func152, Tryz.ntmps152
  go_wp2_with fail
  go_loopw [12] (fun i wr => ∃ k : Nat, k ≤ SZ ∧ i = .int .i64 k ∧ exN (meetAt ⟨o1, xa1, xb1, ya1, yb1, ar1, sp1, pl1, nn1⟩ ⟨o2, xa2, xb2, ya2, yb2, ar2, sp2, pl2, nn2⟩ back SZ) k = false ∧ Below (w.heap.size + 1 + 1) ((w.alloc (.cells #[.int .i64 o1, .int .i64 xa1, .int .i64 xb1, .int .i64 ya1, .int .i64 yb1, .int .i64 ar1, .int .i64 sp1, .int .i64 pl1, .int .i64 nn1] 41)).alloc (.cells #[.int .i64 o2, .int .i64 xa2, .int .i64 xb2, .int .i64 ya2, .int .i64 yb2, .int .i64 ar2, .int .i64 sp2, .int .i64 pl2, .int .i64 nn2] 41)) wr) (fun i _ => SZ - (intOf i).toNat)
  case atStart => exact ⟨0, Nat.zero_le _, rfl, rfl, Below.refl _ _⟩
  case round =>
    obtain ⟨k, hk, rfl, hex, hbel⟩ := hrel
    have HEX := hide hex
    obtain ⟨c1, c2, c3, c4, hbw⟩ := meet_cells hbel
    have HB := hide hbel
    have HW := hide hbw
    clear hex hbel hbw
    by_cases hlt : k < SZ
    · have hki : (k : Int) < (SZ : Int) := by omega
      have e1 : idx sp1 pl1 k lg = (sp1 * k + pl1) % SZ := by
        unfold idx p2
        rw [if_pos (by omega), HSZ.out]
      have e2 : idx sp2 pl2 ((k : Int) + back) lg = (sp2 * ((k : Int) + back) + pl2) % SZ := by
        unfold idx p2
        rw [if_pos (by omega), HSZ.out]
      have HM : Hid (meetAt ⟨o1, xa1, xb1, ya1, yb1, ar1, sp1, pl1, nn1⟩ ⟨o2, xa2, xb2, ya2, yb2, ar2, sp2, pl2, nn2⟩ back SZ k = decide (idx sp1 pl1 k lg = idx sp2 pl2 ((k : Int) + back) lg)) := by show _ = decide _; rw [e1, e2]; rfl
      have ew : IntKind.i64.wrap ((k : Int) + (back : Int)) = (k : Int) + back := wrap_in _ (by omega) (by omega)
      clear e1 e2
      by_cases hXY : idx sp1 pl1 k lg = idx sp2 pl2 ((k : Int) + back) lg
      · have HT : Hid (meetsD ⟨o1, xa1, xb1, ya1, yb1, ar1, sp1, pl1, nn1⟩ ⟨o2, xa2, xb2, ya2, yb2, ar2, sp2, pl2, nn2⟩ back SZ = true) := exN_true hlt (by rw [HM.out]; exact decide_eq_true hXY)
        have hbb : (idx sp1 pl1 k lg == idx sp2 pl2 ((k : Int) + back) lg) = true := by simpa using hXY
        clear hXY
        go_wp2_with fail
        go_big_quiet ((go_at_call 148; exact Calls.quiet_of_same (index_any _ _ _ _ _)))
        go_wp2_with fail
        go_ret
        exact ⟨ret_bool HT.out.symm, HW.out.trans (below_draws _ _ _)⟩
      · have HF := hide (exN_step HEX.out (by rw [HM.out]; exact decide_eq_false hXY))
        have hbb : (idx sp1 pl1 k lg == idx sp2 pl2 ((k : Int) + back) lg) = false := by simpa using hXY
        clear hXY
        go_wp2_with fail
        go_big_quiet ((go_at_call 148; exact Calls.quiet_of_same (index_any _ _ _ _ _)))
        go_wp2_with fail
        go_roundw
        case rel => exact ⟨k + 1, by omega, by go_num, HF.out, HB.out.trans (below_draws _ _ _)⟩
        case measure => simp [intOf]; omega
    · have e : k = SZ := by omega
      have HT : Hid (meetsD ⟨o1, xa1, xb1, ya1, yb1, ar1, sp1, pl1, nn1⟩ ⟨o2, xa2, xb2, ya2, yb2, ar2, sp2, pl2, nn2⟩ back SZ = false) := by show meetsD _ _ _ _ = false; rw [← e]; unfold meetsD; rw [e]; rw [e] at HEX; exact HEX.out
      have hki : ¬ (k : Int) < (SZ : Int) := by omega
      clear e
      go_wp2_with fail
      go_ret
      exact ⟨ret_bool HT.out.symm, HW.out⟩
end Go.Proofs.YtghlcmljgpkjiabGreat
