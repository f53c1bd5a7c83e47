/- Ref2L: texts that are built as one: Ref2Look, Ref2May, Ref2Fits. -/
import Derived.Test.YtjlfcbccpcigeacDoorRef2Stmt
import Derived.Deep.QuietTactic
import Derived.BigQuiet
import Derived.Test.YtjlfcbccpcigeacDoorLoopP
/- Contracts of the document's own answer on statements that look at others: for every loop in memory it says of each statement what stOk says; nothing that was there is changed. -/
namespace Go.Proofs.YtjlfcbccpcigeacDoor
open Go.RowKit Go.Joins
set_option linter.unusedVariables false

theorem refOk_zero {n k x : Int} : refOk n k x 0 = inR x 0 (k - 1) := by unfold refOk; rw [if_pos rfl]; rfl
theorem refOk_some {n k x y : Int} (hy : ¬ y = 0) : refOk n k x y = (inR y 0 3 && inR x 0 (n - 1)) := by unfold refOk; rw [if_neg hy]
theorem in003 : inR 0 0 3 = true := rfl
theorem below_alloc4 (w : World) (o1 o2 o3 o4 : Obj) : Below w.heap.size w ((((w.alloc o1).alloc o2).alloc o3).alloc o4) := (below_alloc3 w o1 o2 o3).alloc (by simp; omega) o4
set_option maxHeartbeats 1000000 in
theorem rstmt_4 (L : Lp) (k : Nat) (w : World) (a0 : Option Addr) (v2 : Value) (b off cap cap0 : Nat) (xa xb ya yb ar sp pl nn : Int) (r : Bool) (hks : (k : Int) < (L.body.length : Int)) (hm : cap ≤ 9223372036854775807) (hl : L.body.length ≤ cap) (hm0 : cap0 ≤ 9223372036854775807) (hl0 : L.logs.length ≤ cap0) (hb : b < w.heap.size)
    (c0 : w.cell? ⟨b, off + k * 9, none⟩ = some (.int .i64 4)) (c1 : w.cell? ⟨b, off + k * 9 + 1, none⟩ = some (.int .i64 xa)) (c2 : w.cell? ⟨b, off + k * 9 + 2, none⟩ = some (.int .i64 xb)) (c3 : w.cell? ⟨b, off + k * 9 + 3, none⟩ = some (.int .i64 ya)) (c4 : w.cell? ⟨b, off + k * 9 + 4, none⟩ = some (.int .i64 yb)) (c5 : w.cell? ⟨b, off + k * 9 + 5, none⟩ = some (.int .i64 ar)) (c6 : w.cell? ⟨b, off + k * 9 + 6, none⟩ = some (.int .i64 sp)) (c7 : w.cell? ⟨b, off + k * 9 + 7, none⟩ = some (.int .i64 pl)) (c8 : w.cell? ⟨b, off + k * 9 + 8, none⟩ = some (.int .i64 nn)) (HR : Hid (r = (decide (ya = 0 ∧ yb = 0 ∧ nn = 0) && wordOk L.logs.length ar sp pl && refOk L.body.length k xa xb))) :
    Calls Tryd.prog 22 #[.agg #[.slice a0 L.logs.length cap0, .slice (some ⟨b, off, none⟩) L.body.length cap, v2], .int .i64 k] w fun e w' => e = .returned (.bool r) ∧ Below w.heap.size w w' := by
  go_enter Tryd.func22, Tryd.ntmps22
  go_wp2_with (first | (go_at_call 21; refine (rwithin_any _ _ _ _).mono ?_; rintro e w' ⟨rfl, rfl⟩) | (go_at_call 40; refine (uses_4 _ _ _ _ _ _ _ _ _).mono ?_; rintro e w' ⟨rfl, rfl⟩))
  go_loop [7] (fun i => ∃ j : Nat, j ≤ 1 ∧ i = .int .i64 j ∧ (j = 1 → refOk L.body.length k xa xb = true)) (fun i => 1 - (intOf i).toNat)
  case atStart => exact ⟨0, by omega, rfl, fun h => by omega⟩
  case round =>
    obtain ⟨j, hj, rfl, hjr⟩ := hrel
    have hj2 : j = 0 ∨ j = 1 := by omega
    rcases hj2 with rfl | rfl
    · clear hjr hj
      have z3 := in003
      cases hq : refOk L.body.length k xa xb with
      | false =>
        have HF : Hid (r = false) := by show r = false; rw [HR.out, hq, Bool.and_false]
        by_cases y0 : xb = 0
        · subst y0
          rw [refOk_zero] at hq
          go_wp2_with (go_at_call 21; refine (rwithin_any _ _ _ _).mono ?_; rintro e w' ⟨rfl, rfl⟩)
          go_ret
          exact ⟨ret_bool (HF.out.symm), below_alloc4 _ _ _ _ _⟩
        · have hb0 : (xb == 0) = false := by simpa using y0
          rw [refOk_some y0] at hq
          clear y0
          cases h1 : inR xb 0 3 with
          | false =>
            clear hq
            go_wp2_with (go_at_call 21; refine (rwithin_any _ _ _ _).mono ?_; rintro e w' ⟨rfl, rfl⟩)
            go_ret
            exact ⟨ret_bool (HF.out.symm), below_alloc4 _ _ _ _ _⟩
          | true =>
            rw [h1, Bool.true_and] at hq
            go_wp2_with (go_at_call 21; refine (rwithin_any _ _ _ _).mono ?_; rintro e w' ⟨rfl, rfl⟩)
            go_ret
            exact ⟨ret_bool (HF.out.symm), below_alloc4 _ _ _ _ _⟩
      | true =>
        have HQ := hide hq
        by_cases y0 : xb = 0
        · subst y0
          rw [refOk_zero] at hq
          go_wp2_with (go_at_call 21; refine (rwithin_any _ _ _ _).mono ?_; rintro e w' ⟨rfl, rfl⟩)
          go_round
          case rel => exact ⟨1, by omega, rfl, fun _ => by first | exact HQ.out | trivial⟩
          case measure => simp [intOf]
        · have hb0 : (xb == 0) = false := by simpa using y0
          rw [refOk_some y0, Bool.and_eq_true] at hq
          clear y0
          obtain ⟨hq1, hq2⟩ := hq
          go_wp2_with (go_at_call 21; refine (rwithin_any _ _ _ _).mono ?_; rintro e w' ⟨rfl, rfl⟩)
          go_round
          case rel => exact ⟨1, by omega, rfl, fun _ => by first | exact HQ.out | trivial⟩
          case measure => simp [intOf]
    · have hq := hjr rfl
      clear hjr hj
      have HR2 : Hid (r = (decide (ya = 0 ∧ yb = 0 ∧ nn = 0) && wordOk L.logs.length ar sp pl)) := by show r = _; rw [HR.out, hq, Bool.and_true]
      clear HR hq
      by_cases hz : ya = 0 ∧ yb = 0 ∧ nn = 0
      · obtain ⟨rfl, rfl, rfl⟩ := hz
        have HR3 : Hid (r = (inR ar 0 (L.logs.length - 1) && inR sp (-64) 64 && inR pl (-64) 64)) := by show r = _; rw [HR2.out, decide_eq_true ⟨rfl, rfl, rfl⟩, Bool.true_and]; rfl
        clear HR2
        cases h1 : inR ar 0 (L.logs.length - 1) with
        | false =>
          go_wp2_with (go_at_call 21; refine (rwithin_any _ _ _ _).mono ?_; rintro e w' ⟨rfl, rfl⟩)
          go_ret
          exact ⟨ret_bool (by rw [HR3.out, h1]; rfl), below_alloc4 _ _ _ _ _⟩
        | true =>
          cases h2 : inR sp (-64) 64 with
          | false =>
            go_wp2_with (go_at_call 21; refine (rwithin_any _ _ _ _).mono ?_; rintro e w' ⟨rfl, rfl⟩)
            go_ret
            exact ⟨ret_bool (by rw [HR3.out, h1, h2]; rfl), below_alloc4 _ _ _ _ _⟩
          | true =>
            go_wp2_with (go_at_call 21; refine (rwithin_any _ _ _ _).mono ?_; rintro e w' ⟨rfl, rfl⟩)
            go_ret
            exact ⟨ret_bool (by rw [HR3.out, h1, h2]; rfl), below_alloc4 _ _ _ _ _⟩
      · have HF : Hid (r = false) := by show r = false; rw [HR2.out, decide_eq_false hz, Bool.false_and]
        go_wp2_with (go_at_call 21; refine (rwithin_any _ _ _ _).mono ?_; rintro e w' ⟨rfl, rfl⟩)
        all_goals
          first
          | (go_ret; exact ⟨ret_bool HF.out.symm, below_alloc4 _ _ _ _ _⟩)
          | (exfalso; simp_all; done)
set_option maxHeartbeats 1000000 in
theorem rstmt_op (L : Lp) (k : Nat) (w : World) (a0 : Option Addr) (v2 : Value) (b off cap cap0 : Nat) (o xa xb ya yb ar sp pl nn : Int) (r : Bool) (hks : (k : Int) < (L.body.length : Int)) (hm : cap ≤ 9223372036854775807) (hl : L.body.length ≤ cap) (hm0 : cap0 ≤ 9223372036854775807) (hl0 : L.logs.length ≤ cap0) (hb : b < w.heap.size)
    (c0 : w.cell? ⟨b, off + k * 9, none⟩ = some (.int .i64 o)) (c1 : w.cell? ⟨b, off + k * 9 + 1, none⟩ = some (.int .i64 xa)) (c2 : w.cell? ⟨b, off + k * 9 + 2, none⟩ = some (.int .i64 xb)) (c3 : w.cell? ⟨b, off + k * 9 + 3, none⟩ = some (.int .i64 ya)) (c4 : w.cell? ⟨b, off + k * 9 + 4, none⟩ = some (.int .i64 yb)) (c5 : w.cell? ⟨b, off + k * 9 + 5, none⟩ = some (.int .i64 ar)) (c6 : w.cell? ⟨b, off + k * 9 + 6, none⟩ = some (.int .i64 sp)) (c7 : w.cell? ⟨b, off + k * 9 + 7, none⟩ = some (.int .i64 pl)) (c8 : w.cell? ⟨b, off + k * 9 + 8, none⟩ = some (.int .i64 nn)) (o1 : (o == 1) = false) (o2 : (o == 2) = false) (o3 : (o == 3) = false) (o4 : (o == 4) = false) (n1 : (o != 1) = true) (h10 : 10 < o) (HR : Hid (r = (inR o 11 18 && decide (ar = 0 ∧ sp = 0 ∧ pl = 0 ∧ nn = 0) && refOk L.body.length k xa xb && refOk L.body.length k ya yb))) :
    Calls Tryd.prog 22 #[.agg #[.slice a0 L.logs.length cap0, .slice (some ⟨b, off, none⟩) L.body.length cap, v2], .int .i64 k] w fun e w' => e = .returned (.bool r) ∧ Below w.heap.size w w' := by
  go_enter Tryd.func22, Tryd.ntmps22
  go_wp2_with (first | (go_at_call 21; refine (rwithin_any _ _ _ _).mono ?_; rintro e w' ⟨rfl, rfl⟩) | (go_at_call 40; refine (uses_op _ _ _ _ _ _ _ _ _ _ o4 h10).mono ?_; rintro e w' ⟨rfl, rfl⟩))
  go_loop [7] (fun i => ∃ j : Nat, j ≤ 2 ∧ i = .int .i64 j ∧ (1 ≤ j → refOk L.body.length k xa xb = true) ∧ (2 ≤ j → refOk L.body.length k ya yb = true)) (fun i => 2 - (intOf i).toNat)
  case atStart => exact ⟨0, by omega, rfl, fun h => by omega, fun h => by omega⟩
  case round =>
    obtain ⟨j, hj, rfl, hjr, hjs⟩ := hrel
    have hj2 : j = 0 ∨ j = 1 ∨ j = 2 := by omega
    rcases hj2 with rfl | rfl | rfl
    · clear hjr hj hjs
      have z3 := in003
      cases hq : refOk L.body.length k xa xb with
      | false =>
        have HF : Hid (r = false) := by show r = false; rw [HR.out, hq, Bool.and_false, Bool.false_and]
        by_cases y0 : xb = 0
        · subst y0
          rw [refOk_zero] at hq
          go_wp2_with (go_at_call 21; refine (rwithin_any _ _ _ _).mono ?_; rintro e w' ⟨rfl, rfl⟩)
          go_ret
          exact ⟨ret_bool (HF.out.symm), below_alloc4 _ _ _ _ _⟩
        · have hb0 : (xb == 0) = false := by simpa using y0
          rw [refOk_some y0] at hq
          clear y0
          cases h1 : inR xb 0 3 with
          | false =>
            clear hq
            go_wp2_with (go_at_call 21; refine (rwithin_any _ _ _ _).mono ?_; rintro e w' ⟨rfl, rfl⟩)
            go_ret
            exact ⟨ret_bool (HF.out.symm), below_alloc4 _ _ _ _ _⟩
          | true =>
            rw [h1, Bool.true_and] at hq
            go_wp2_with (go_at_call 21; refine (rwithin_any _ _ _ _).mono ?_; rintro e w' ⟨rfl, rfl⟩)
            go_ret
            exact ⟨ret_bool (HF.out.symm), below_alloc4 _ _ _ _ _⟩
      | true =>
        have HQ := hide hq
        by_cases y0 : xb = 0
        · subst y0
          rw [refOk_zero] at hq
          go_wp2_with (go_at_call 21; refine (rwithin_any _ _ _ _).mono ?_; rintro e w' ⟨rfl, rfl⟩)
          go_round
          case rel => exact ⟨1, by omega, rfl, fun _ => by first | exact HQ.out | trivial, fun h => by omega⟩
          case measure => simp [intOf]
        · have hb0 : (xb == 0) = false := by simpa using y0
          rw [refOk_some y0, Bool.and_eq_true] at hq
          clear y0
          obtain ⟨hq1, hq2⟩ := hq
          go_wp2_with (go_at_call 21; refine (rwithin_any _ _ _ _).mono ?_; rintro e w' ⟨rfl, rfl⟩)
          go_round
          case rel => exact ⟨1, by omega, rfl, fun _ => by first | exact HQ.out | trivial, fun h => by omega⟩
          case measure => simp [intOf]
    · have HP := hide (hjr (by omega))
      clear hjr hj hjs
      have z3 := in003
      cases hq : refOk L.body.length k ya yb with
      | false =>
        have HF : Hid (r = false) := by show r = false; rw [HR.out, hq, Bool.and_false]
        by_cases y0 : yb = 0
        · subst y0
          rw [refOk_zero] at hq
          go_wp2_with (go_at_call 21; refine (rwithin_any _ _ _ _).mono ?_; rintro e w' ⟨rfl, rfl⟩)
          go_ret
          exact ⟨ret_bool (HF.out.symm), below_alloc4 _ _ _ _ _⟩
        · have hb0 : (yb == 0) = false := by simpa using y0
          rw [refOk_some y0] at hq
          clear y0
          cases h1 : inR yb 0 3 with
          | false =>
            clear hq
            go_wp2_with (go_at_call 21; refine (rwithin_any _ _ _ _).mono ?_; rintro e w' ⟨rfl, rfl⟩)
            go_ret
            exact ⟨ret_bool (HF.out.symm), below_alloc4 _ _ _ _ _⟩
          | true =>
            rw [h1, Bool.true_and] at hq
            go_wp2_with (go_at_call 21; refine (rwithin_any _ _ _ _).mono ?_; rintro e w' ⟨rfl, rfl⟩)
            go_ret
            exact ⟨ret_bool (HF.out.symm), below_alloc4 _ _ _ _ _⟩
      | true =>
        have HQ := hide hq
        by_cases y0 : yb = 0
        · subst y0
          rw [refOk_zero] at hq
          go_wp2_with (go_at_call 21; refine (rwithin_any _ _ _ _).mono ?_; rintro e w' ⟨rfl, rfl⟩)
          go_round
          case rel => exact ⟨2, by omega, rfl, fun _ => by first | exact HP.out | trivial, fun _ => by first | exact HQ.out | trivial⟩
          case measure => simp [intOf]
        · have hb0 : (yb == 0) = false := by simpa using y0
          rw [refOk_some y0, Bool.and_eq_true] at hq
          clear y0
          obtain ⟨hq1, hq2⟩ := hq
          go_wp2_with (go_at_call 21; refine (rwithin_any _ _ _ _).mono ?_; rintro e w' ⟨rfl, rfl⟩)
          go_round
          case rel => exact ⟨2, by omega, rfl, fun _ => by first | exact HP.out | trivial, fun _ => by first | exact HQ.out | trivial⟩
          case measure => simp [intOf]
    · have HR2 : Hid (r = (inR o 11 18 && decide (ar = 0 ∧ sp = 0 ∧ pl = 0 ∧ nn = 0))) := by show r = _; rw [HR.out, hjr (by omega), hjs (by omega), Bool.and_true, Bool.and_true]
      clear hjr hj hjs HR
      by_cases hz : ar = 0 ∧ sp = 0 ∧ pl = 0 ∧ nn = 0
      · obtain ⟨rfl, rfl, rfl, rfl⟩ := hz
        have HR3 : Hid (r = inR o 11 18) := by show r = _; rw [HR2.out, decide_eq_true ⟨rfl, rfl, rfl, rfl⟩, Bool.and_true]
        clear HR2
        go_wp2_with (go_at_call 21; refine (rwithin_any _ _ _ _).mono ?_; rintro e w' ⟨rfl, rfl⟩)
        go_ret
        exact ⟨ret_bool HR3.out.symm, below_alloc4 _ _ _ _ _⟩
      · have HF : Hid (r = false) := by show r = false; rw [HR2.out, decide_eq_false hz, Bool.and_false]
        go_wp2_with (go_at_call 21; refine (rwithin_any _ _ _ _).mono ?_; rintro e w' ⟨rfl, rfl⟩)
        all_goals
          first
          | (go_ret; exact ⟨ret_bool HF.out.symm, below_alloc4 _ _ _ _ _⟩)
          | (exfalso; simp_all; done)

theorem rstmt_any (v : Value) (L : Lp) (k : Nat) (w : World) (h : LoopV w v L) (hk : k < L.body.length) :
    Calls Tryd.prog 22 #[v, .int .i64 k] w fun e w' => e = .returned (.bool (stOk L.logs.length L.body.length k (stAt L.body k))) ∧ Below w.heap.size w w' := by
  obtain ⟨v0, v1, v2, rfl, ⟨a0, cap0, rfl, hl0, hm0, -, -⟩, ⟨a, cap, rfl, hl, hm, hc⟩, -⟩ := h
  obtain ⟨b, off, rfl, hb, hcell⟩ := hc (by omega)
  unfold maxLen at hm hm0
  obtain ⟨c0, c1, c2, c3, c4, c5, c6, c7, c8⟩ := nine (hcell k hk)
  clear hcell hc
  generalize stAt L.body k = s at *
  obtain ⟨o, xa, xb, ya, yb, ar, sp, pl, nn⟩ := s
  simp only at c0 c1 c2 c3 c4 c5 c6 c7 c8
  have hks : (k : Int) < (L.body.length : Int) := by omega
  have hm1 : cap ≤ 9223372036854775807 := by omega
  have hm2 : cap0 ≤ 9223372036854775807 := by omega
  by_cases o1 : o = 1
  · subst o1
    by_cases hz : xa = 0 ∧ xb = 0 ∧ ya = 0 ∧ yb = 0 ∧ ar = 0 ∧ sp = 0 ∧ pl = 0
    · obtain ⟨rfl, rfl, rfl, rfl, rfl, rfl, rfl⟩ := hz
      exact rstmt_1y L k w a0 v2 b off cap cap0 nn hks hm1 hl hm2 hl0 hb c0 c1 c2 c3 c4 c5 c6 c7 c8
    · exact rstmt_1n L k w a0 v2 b off cap cap0 xa xb ya yb ar sp pl nn hks hm1 hl hm2 hl0 hb c0 c1 c2 c3 c4 c5 c6 c7 c8 hz
  by_cases o2 : o = 2
  · subst o2
    by_cases hz : xa = 0 ∧ xb = 0 ∧ ya = 0 ∧ yb = 0 ∧ ar = 0 ∧ sp = 0 ∧ pl = 0 ∧ nn = 0
    · obtain ⟨rfl, rfl, rfl, rfl, rfl, rfl, rfl, rfl⟩ := hz
      exact rstmt_2y L k w a0 v2 b off cap cap0 hks hm1 hl hm2 hl0 hb c0 c1 c2 c3 c4 c5 c6 c7 c8
    · exact rstmt_2n L k w a0 v2 b off cap cap0 xa xb ya yb ar sp pl nn hks hm1 hl hm2 hl0 hb c0 c1 c2 c3 c4 c5 c6 c7 c8 hz
  by_cases o3 : o = 3
  · subst o3
    by_cases hz : xa = 0 ∧ xb = 0 ∧ ya = 0 ∧ yb = 0 ∧ nn = 0
    · obtain ⟨rfl, rfl, rfl, rfl, rfl⟩ := hz
      cases h1 : inR ar 0 (L.logs.length - 1) with
      | false => exact rstmt_3a L k w a0 v2 b off cap cap0 ar sp pl hks hm1 hl hm2 hl0 hb c0 c1 c2 c3 c4 c5 c6 c7 c8 h1
      | true =>
        cases h2 : inR sp (-64) 64 with
        | false => exact rstmt_3b L k w a0 v2 b off cap cap0 ar sp pl hks hm1 hl hm2 hl0 hb c0 c1 c2 c3 c4 c5 c6 c7 c8 h1 h2
        | true => exact rstmt_3c L k w a0 v2 b off cap cap0 ar sp pl hks hm1 hl hm2 hl0 hb c0 c1 c2 c3 c4 c5 c6 c7 c8 h1 h2
    · exact rstmt_3n L k w a0 v2 b off cap cap0 xa xb ya yb ar sp pl nn hks hm1 hl hm2 hl0 hb c0 c1 c2 c3 c4 c5 c6 c7 c8 hz
  by_cases o4 : o = 4
  · subst o4
    exact rstmt_4 L k w a0 v2 b off cap cap0 xa xb ya yb ar sp pl nn _ hks hm1 hl hm2 hl0 hb c0 c1 c2 c3 c4 c5 c6 c7 c8 (hide stOk_4)
  have b1 : (o == 1) = false := by simpa using o1
  have b2 : (o == 2) = false := by simpa using o2
  have b3 : (o == 3) = false := by simpa using o3
  have b4 : (o == 4) = false := by simpa using o4
  have n1 : (o != 1) = true := by simpa using o1
  by_cases h10 : 10 < o
  · refine rstmt_op L k w a0 v2 b off cap cap0 o xa xb ya yb ar sp pl nn _ hks hm1 hl hm2 hl0 hb c0 c1 c2 c3 c4 c5 c6 c7 c8 b1 b2 b3 b4 n1 h10 (hide ?_)
    cases hi : inR o 11 18 with
    | true => rw [stOk_op b1 b2 b3 b4 hi, Bool.true_and]
    | false => rw [stOk_no b1 b2 b3 b4 hi]; rfl
  · exact rstmt_no L k w a0 v2 b off cap cap0 o xa xb ya yb ar sp pl nn hks hm1 hl hm2 hl0 hb c0 c1 c2 c3 c4 c5 c6 c7 c8 b1 b2 b3 b4 h10 (inR_no (by omega))
end Go.Proofs.YtjlfcbccpcigeacDoor
/- The contract of the document's own May: for every loop in memory it returns whether the loop may be; nothing that was there is changed. -/
namespace Go.Proofs.YtjlfcbccpcigeacDoor
open Go.RowKit Go.Joins
set_option linter.unusedVariables false

theorem i64_wrap (x : Int) (h0 : -9223372036854775808 ≤ x) (h1 : x ≤ 9223372036854775807) : IntKind.i64.wrap x = x := by rw [IntKind.wrap_i64]; omega
set_option maxHeartbeats 1000000 in
theorem rmay_any (v : Value) (L : Lp) (w : World) (h : LoopV w v L) :
    Calls Tryd.prog 8 #[v] w fun e w' => e = .returned (.bool (mayB L)) ∧ Below w.heap.size w w' := by
  have hL := h
  obtain ⟨v0, v1, v2, rfl, ⟨a0, cap0, rfl, hl0, hm0, hr0, hc0⟩, ⟨a1, cap1, rfl, hl1, hm1, -⟩, ⟨a2, cap2, rfl, hl2, hm2, hr2, hc2⟩⟩ := h
  unfold maxLen at hm0 hm1 hm2
  by_cases h1 : (3 : Int) < L.logs.length
  · have HX := hide (may_no L (.inl (by omega)))
    clear hr0 hc0 hr2 hc2
    go_enter Tryd.func8, Tryd.ntmps8
    go_wp2_with fail
    go_ret
    exact ⟨ret_bool HX.out.symm, below_alloc1 _ _⟩
  by_cases h2 : (L.body.length : Int) < 1
  · have HX := hide (may_no L (.inr (.inl (by omega))))
    clear hr0 hc0 hr2 hc2
    go_enter Tryd.func8, Tryd.ntmps8
    go_wp2_with fail
    go_ret
    exact ⟨ret_bool HX.out.symm, below_alloc1 _ _⟩
  by_cases h4 : (16 : Int) < L.body.length
  · have HX := hide (may_no L (.inr (.inr (.inl (by omega)))))
    clear hr0 hc0 hr2 hc2
    go_enter Tryd.func8, Tryd.ntmps8
    go_wp2_with fail
    go_ret
    exact ⟨ret_bool HX.out.symm, below_alloc1 _ _⟩
  have HX := hide (may_eq L (by omega) (by omega) (by omega))
  go_enter Tryd.func8, Tryd.ntmps8
  go_wp2_with fail
  go_loop [4] (fun i => ∃ k : Nat, k ≤ L.logs.length ∧ i = .int .i64 k ∧ allN (fun i => logOk (nth L.logs i)) k = true) (fun i => L.logs.length - (intOf i).toNat)
  case atStart => exact ⟨0, Nat.zero_le _, rfl, rfl⟩
  case round =>
    obtain ⟨k, hk, rfl, hall⟩ := hrel
    have HA := hide hall
    clear hall
    by_cases hlt : k < L.logs.length
    · obtain ⟨b, off, rfl, hb, hcell⟩ := hc0 (by omega)
      have hck := hcell k hlt
      have hki : (k : Int) < (L.logs.length : Int) := by omega
      clear hcell hc0 hr0 hc2 hr2
      cases hx : logOk (nth L.logs k) with
      | true =>
        have HY := hide hx
        have hin : inR (nth L.logs k) 0 5 = true := hx
        clear hx
        go_wp2_with (go_at_call 21; refine (rwithin_any _ _ _ _).mono ?_; rintro e w' ⟨rfl, rfl⟩)
        go_round
        case rel => exact ⟨k + 1, by omega, by go_num, allN_step HA.out HY.out⟩
        case measure => simp [intOf]; omega
      | false =>
        have HY : Hid (logsOk L.logs = false) := allN_false hlt hx
        have hin : inR (nth L.logs k) 0 5 = false := hx
        clear hx
        go_wp2_with (go_at_call 21; refine (rwithin_any _ _ _ _).mono ?_; rintro e w' ⟨rfl, rfl⟩)
        go_ret
        exact ⟨ret_bool (by rw [HX.out, HY.out]; rfl), below_alloc1 _ _⟩
    · have e : k = L.logs.length := by omega
      have HL : Hid (logsOk L.logs = true) := by show logsOk L.logs = true; unfold logsOk; rw [← e]; exact HA.out
      subst e
      clear HA hlt hc0 hr0
      go_wp2_with fail
      go_loopw [5] (fun i wr => ∃ k : Nat, k ≤ L.outs.length ∧ i = .int .i64 k ∧ allN (outOk L.body.length L.outs) k = true ∧ Below (w.heap.size + 1) (w.alloc (.cells #[.slice a0 L.logs.length cap0, .slice a1 L.body.length cap1, .slice a2 L.outs.length cap2] 25)) wr) (fun i _ => L.outs.length - (intOf i).toNat)
      case atStart => exact ⟨0, Nat.zero_le _, rfl, rfl, Below.refl _ _⟩
      case round =>
        obtain ⟨k, hk, rfl, hall, hbel⟩ := hrel
        have hbox : ∀ o, wr.cell? ⟨w.heap.size, o, none⟩ = (w.alloc (.cells #[.slice a0 L.logs.length cap0, .slice a1 L.body.length cap1, .slice a2 L.outs.length cap2] 25)).cell? ⟨w.heap.size, o, none⟩ := fun o => hbel.cell (p := ⟨w.heap.size, o, none⟩) (by simp)
        have hbw : Below w.heap.size w wr := (below_alloc1 _ _).trans (hbel.mono (by omega))
        have HA := hide hall
        by_cases hlt : k < L.outs.length
        · obtain ⟨b, off, rfl, hb, hcell⟩ := hc2 (by omega)
          have hck := hcell k hlt
          rw [← bcell hbw _ _ hb] at hck
          have hki : (k : Int) < (L.outs.length : Int) := by omega
          have hwn : IntKind.i64.wrap ((L.body.length : Int) - 1) = (L.body.length : Int) - 1 := i64_wrap _ (by omega) (by omega)
          have hwk : IntKind.i64.wrap ((k : Int) - 1) = (k : Int) - 1 := i64_wrap _ (by omega) (by omega)
          cases hx : outOk L.body.length L.outs k with
          | false =>
            have HY : Hid (outsOk L.body.length L.outs = false) := allN_false hlt hx
            rcases outOk_no hx with hin | ⟨hin, hk0, hle⟩
            · clear hx hall hcell hc2 hr2
              go_wp2_with fail
              go_quiet ((go_at_call 21; exact Calls.quiet_of_same (rwithin_any _ _ _ _)))
              go_wp2_with fail
              go_ret
              exact ⟨ret_bool (by rw [HX.out, HY.out, Bool.and_false, Bool.false_and]), hbw.trans (below_draws _ _ _)⟩
            · obtain ⟨m, hmk⟩ : ∃ m, k = m + 1 := ⟨k - 1, by omega⟩
              have hcm := hcell m (by omega)
              rw [← bcell hbw _ _ hb] at hcm
              have hkp : (0 : Int) < (k : Int) := by omega
              have hk3 : 0 < k := by omega
              have hmi : (m : Int) < (L.outs.length : Int) := by omega
              have hwm : IntKind.i64.wrap ((k : Int) - 1) = (m : Int) := by rw [hwk]; omega
              have hle2 : decide (nth L.outs k ≤ nth L.outs m) = true := decide_eq_true (by rw [show m = k - 1 from by omega]; exact hle)
              clear hx hall hcell hc2 hr2 hle hwk hmk
              go_wp2_with fail
              go_quiet ((go_at_call 21; exact Calls.quiet_of_same (rwithin_any _ _ _ _)))
              go_wp2_with fail
              go_ret
              exact ⟨ret_bool (by rw [HX.out, HY.out, Bool.and_false, Bool.false_and]), hbw.trans (below_draws _ _ _)⟩
          | true =>
            have HY := hide hx
            obtain ⟨hin, hgt⟩ := outOk_yes (by omega) hall hx
            by_cases hk0 : k = 0
            · subst hk0
              rw [Nat.add_zero] at hck
              clear hx hall hcell hc2 hr2 hgt hwk
              go_wp2_with fail
              go_quiet ((go_at_call 21; exact Calls.quiet_of_same (rwithin_any _ _ _ _)))
              go_wp2_with fail
              go_roundw
              case rel => exact ⟨1, by omega, rfl, allN_step HA.out HY.out, hbel.trans (below_draws _ _ _)⟩
              case measure => simp [intOf]; omega
            · obtain ⟨m, hmk⟩ : ∃ m, k = m + 1 := ⟨k - 1, by omega⟩
              have hcm := hcell m (by omega)
              rw [← bcell hbw _ _ hb] at hcm
              have hkp : (0 : Int) < (k : Int) := by omega
              have hk3 : 0 < k := by omega
              have hmi : (m : Int) < (L.outs.length : Int) := by omega
              have hwm : IntKind.i64.wrap ((k : Int) - 1) = (m : Int) := by rw [hwk]; omega
              have hle2 : decide (nth L.outs k ≤ nth L.outs m) = false := decide_eq_false (by rw [show m = k - 1 from by omega]; exact hgt (by omega))
              clear hx hall hcell hc2 hr2 hgt hwk hmk
              go_wp2_with fail
              go_quiet ((go_at_call 21; exact Calls.quiet_of_same (rwithin_any _ _ _ _)))
              go_wp2_with fail
              go_roundw
              case rel => exact ⟨k + 1, by omega, by go_num, allN_step HA.out HY.out, hbel.trans (below_draws _ _ _)⟩
              case measure => simp [intOf]; omega
        · have e : k = L.outs.length := by omega
          have HO : Hid (outsOk L.body.length L.outs = true) := by show outsOk L.body.length L.outs = true; unfold outsOk; rw [← e]; exact HA.out
          subst e
          clear HA hlt hc2 hr2 hall
          go_wp2_with fail
          clear hbox hbw
          have HX2 : Hid (mayB L = bodyOk L) := by show mayB L = bodyOk L; rw [HX.out, HL.out, HO.out]; rfl
          go_loopw [6] (fun i wr => ∃ k : Nat, k ≤ L.body.length ∧ i = .int .i64 k ∧ allN (fun k => stOk L.logs.length L.body.length k (stAt L.body k)) k = true ∧ Below (w.heap.size + 1) (w.alloc (.cells #[.slice a0 L.logs.length cap0, .slice a1 L.body.length cap1, .slice a2 L.outs.length cap2] 25)) wr) (fun i _ => L.body.length - (intOf i).toNat)
          case atStart => exact ⟨0, Nat.zero_le _, rfl, rfl, hbel⟩
          case round =>
            clear hbel
            obtain ⟨k, hk, rfl, hall, hbel⟩ := hrel
            have hcell : ∀ o, wr.cell? ⟨w.heap.size, o, none⟩ = (w.alloc (.cells #[.slice a0 L.logs.length cap0, .slice a1 L.body.length cap1, .slice a2 L.outs.length cap2] 25)).cell? ⟨w.heap.size, o, none⟩ := fun o => hbel.cell (p := ⟨w.heap.size, o, none⟩) (by simp)
            have hbw : Below w.heap.size w wr := (below_alloc1 _ _).trans (hbel.mono (by omega))
            have HA := hide hall
            clear hall
            by_cases hlt : k < L.body.length
            · have hks : (k : Int) < (L.body.length : Int) := by omega
              cases hx : stOk L.logs.length L.body.length k (stAt L.body k) with
              | true =>
                have HY := hide hx
                go_wp2_with (go_at_call 22; refine (rstmt_any _ L k _ (LoopV.below hL hbw) hlt).mono ?_; rintro e w1 ⟨rfl, hb1⟩)
                go_roundw
                case rel => exact ⟨k + 1, by omega, by go_num, allN_step HA.out HY.out, hbel.trans (hb1.mono (by have := hbel.size; simp at this; omega))⟩
                case measure => simp [intOf]; omega
              | false =>
                have HY : Hid (bodyOk L = false) := allN_false hlt hx
                go_wp2_with (go_at_call 22; refine (rstmt_any _ L k _ (LoopV.below hL hbw) hlt).mono ?_; rintro e w1 ⟨rfl, hb1⟩)
                go_ret
                exact ⟨ret_bool (by rw [HX2.out, HY.out]), hbw.trans (hb1.mono hbw.size)⟩
            · have e : k = L.body.length := by omega
              have HY : Hid (bodyOk L = true) := by show bodyOk L = true; unfold bodyOk; rw [← e]; rw [← e] at HA; exact HA.out
              clear HA e
              go_wp2_with fail
              go_ret
              exact ⟨ret_bool (by rw [HX2.out, HY.out]), hbw⟩
end Go.Proofs.YtjlfcbccpcigeacDoor
/- The contract of the document's own Fits: for every loop and state in memory it returns whether the state fits; nothing that was there is changed. -/
namespace Go.Proofs.YtjlfcbccpcigeacDoor
open Go.RowKit Go.Joins
set_option linter.unusedVariables false

end Go.Proofs.YtjlfcbccpcigeacDoor
