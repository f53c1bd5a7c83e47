/- The contract of package text's stmtOf. -/
import Derived.Test.YtjlfcbccpcigeacDoorTextMemOf
import Derived.Deep.Cut
namespace Go.Proofs.YtjlfcbccpcigeacDoor
open Go.RowKit Go.Joins
set_option linter.unusedVariables false
set_option linter.unusedSimpArgs false
set_option maxRecDepth 8192

/-- which of the four words a line's first one is -/
theorem word_class {p : List Int} (hp : By p) : ∃ bc bt bl bs : Bool, ((strOfNums p).toList == [99, 111, 110, 115, 116]) = bc ∧ ((strOfNums p).toList == [116, 117, 114, 110]) = bt ∧ ((strOfNums p).toList == [108, 111, 97, 100]) = bl ∧ ((strOfNums p).toList == [115, 116, 111, 114, 101]) = bs ∧
    ((p = constW ∧ bc = true ∧ bt = false ∧ bl = false ∧ bs = false) ∨ (p = turnW ∧ bc = false ∧ bt = true ∧ bl = false ∧ bs = false) ∨ (p = loadW ∧ bc = false ∧ bt = false ∧ bl = true ∧ bs = false) ∨ (p = storeW ∧ bc = false ∧ bt = false ∧ bl = false ∧ bs = true) ∨ (¬ p = constW ∧ ¬ p = turnW ∧ ¬ p = loadW ∧ ¬ p = storeW ∧ bc = false ∧ bt = false ∧ bl = false ∧ bs = false)) := by
  refine ⟨_, _, _, _, word_beq hp (m := constW) (by decide) rfl, word_beq hp (m := turnW) (by decide) rfl, word_beq hp (m := loadW) (by decide) rfl, word_beq hp (m := storeW) (by decide) rfl, ?_⟩
  by_cases h1 : p = constW
  · subst h1; exact .inl ⟨rfl, by decide, by decide, by decide, by decide⟩
  by_cases h2 : p = turnW
  · subst h2; exact .inr (.inl ⟨rfl, by decide, by decide, by decide, by decide⟩)
  by_cases h3 : p = loadW
  · subst h3; exact .inr (.inr (.inl ⟨rfl, by decide, by decide, by decide, by decide⟩))
  by_cases h4 : p = storeW
  · subst h4; exact .inr (.inr (.inr (.inl ⟨rfl, by decide, by decide, by decide, by decide⟩)))
  exact .inr (.inr (.inr (.inr ⟨h1, h2, h3, h4, decide_eq_false h1, decide_eq_false h2, decide_eq_false h3, decide_eq_false h4⟩)))
set_option maxHeartbeats 8000000 in
theorem stmtOf_none (ws : List (List Int)) (p0 : List Int) (b m cap : Nat) (w : World) (c0 : w.cell? ⟨b, 0, none⟩ = some (.string (strOfNums p0))) (hbz : b < w.heap.size) (hcap : m + 1 ≤ cap) (hcm : cap ≤ 9223372036854775807) (hp : By p0) (h2 : m ≠ 2) (hc : p0 = constW → m ≠ 1) (ht : p0 = turnW → m ≠ 0) (hl : p0 = loadW → m ≠ 3) (hs : p0 = storeW → m ≠ 4) (hno : stO ws = none) :
    Calls Tryd.prog 57 #[.slice (some ⟨b, 0, none⟩) (m + 1) cap] w (StmtPost ws w) := by
  have HW1 : Hid (Below w.heap.size w (w.alloc (.cells #[.int .i64 0, .int .i64 0, .int .i64 0, .int .i64 0, .int .i64 0, .int .i64 0, .int .i64 0, .int .i64 0, .int .i64 0] 53))) := below_alloc1 _ _
  obtain ⟨bc, bt, bl, bs, ec, et, el, es, hcl⟩ := word_class hp
  have c0' : (w.alloc (.cells #[.int .i64 0, .int .i64 0, .int .i64 0, .int .i64 0, .int .i64 0, .int .i64 0, .int .i64 0, .int .i64 0, .int .i64 0] 53)).cell? ⟨b, 0, none⟩ = some (.string (strOfNums p0)) := (bcell HW1.out _ _ hbz).trans c0
  have hm2 : ((m : Int) == 2) = false := beq_false_of_ne (by omega)
  have HNO := hide hno
  generalize strOfNums p0 = P0 at *
  clear c0 hno h2
  have hcl2 : (bc = true ∧ bt = false ∧ bl = false ∧ bs = false ∧ ((m : Int) == 1) = false) ∨ (bc = false ∧ bt = true ∧ bl = false ∧ bs = false ∧ ((m : Int) == 0) = false) ∨ (bc = false ∧ bt = false ∧ bl = true ∧ bs = false ∧ ((m : Int) == 3) = false) ∨ (bc = false ∧ bt = false ∧ bl = false ∧ bs = true ∧ ((m : Int) == 4) = false) ∨ (bc = false ∧ bt = false ∧ bl = false ∧ bs = false ∧ True) := by
    rcases hcl with ⟨e, r1, r2, r3, r4⟩ | ⟨e, r1, r2, r3, r4⟩ | ⟨e, r1, r2, r3, r4⟩ | ⟨e, r1, r2, r3, r4⟩ | ⟨-, -, -, -, r1, r2, r3, r4⟩
    · exact .inl ⟨r1, r2, r3, r4, beq_false_of_ne (by have := hc e; omega)⟩
    · exact .inr (.inl ⟨r1, r2, r3, r4, beq_false_of_ne (by have := ht e; omega)⟩)
    · exact .inr (.inr (.inl ⟨r1, r2, r3, r4, beq_false_of_ne (by have := hl e; omega)⟩))
    · exact .inr (.inr (.inr (.inl ⟨r1, r2, r3, r4, beq_false_of_ne (by have := hs e; omega)⟩)))
    · exact .inr (.inr (.inr (.inr ⟨r1, r2, r3, r4, trivial⟩)))
  clear hcl hc ht hl hs hp
  rcases hcl2 with ⟨rfl, rfl, rfl, rfl, hmm⟩ | ⟨rfl, rfl, rfl, rfl, hmm⟩ | ⟨rfl, rfl, rfl, rfl, hmm⟩ | ⟨rfl, rfl, rfl, rfl, hmm⟩ | ⟨rfl, rfl, rfl, rfl, hmm⟩
  all_goals (
    go_enter Tryd.func57, Tryd.ntmps57
    go_wp2_with fail
    go_big_quiet (fail)
    go_wp2_with fail
    all_goals (
      have bb : ((w.alloc (.cells #[.int .i64 0, .int .i64 0, .int .i64 0, .int .i64 0, .int .i64 0, .int .i64 0, .int .i64 0, .int .i64 0, .int .i64 0] 53)).drewN nq).heap[w.heap.size]? = some (.cells #[.int .i64 0, .int .i64 0, .int .i64 0, .int .i64 0, .int .i64 0, .int .i64 0, .int .i64 0, .int .i64 0, .int .i64 0] 53 (0, 0)) := new_blkS w _ _
      have HTW := hide (nine_set (b0 := .int .i64 0) (b1 := .int .i64 0) (b2 := .int .i64 0) (b3 := .int .i64 0) (b4 := .int .i64 0) (b5 := .int .i64 0) (b6 := .int .i64 0) (b7 := .int .i64 0) (b8 := .int .i64 0) bb)
      have s0 : (((((((((((w.alloc (.cells #[.int .i64 0, .int .i64 0, .int .i64 0, .int .i64 0, .int .i64 0, .int .i64 0, .int .i64 0, .int .i64 0, .int .i64 0] 53)).drewN nq).setCell ⟨w.heap.size, 0, none⟩ (.int .i64 0)).setCell ⟨w.heap.size, 1, none⟩ (.int .i64 0)).setCell ⟨w.heap.size, 2, none⟩ (.int .i64 0)).setCell ⟨w.heap.size, 3, none⟩ (.int .i64 0)).setCell ⟨w.heap.size, 4, none⟩ (.int .i64 0)).setCell ⟨w.heap.size, 5, none⟩ (.int .i64 0)).setCell ⟨w.heap.size, 6, none⟩ (.int .i64 0)).setCell ⟨w.heap.size, 7, none⟩ (.int .i64 0)).setCell ⟨w.heap.size, 8, none⟩ (.int .i64 0)).cell? ⟨w.heap.size, 0, none⟩ = some (.int .i64 0) := by rw [cell_of_block HTW.out]; rfl
      have s1 : (((((((((((w.alloc (.cells #[.int .i64 0, .int .i64 0, .int .i64 0, .int .i64 0, .int .i64 0, .int .i64 0, .int .i64 0, .int .i64 0, .int .i64 0] 53)).drewN nq).setCell ⟨w.heap.size, 0, none⟩ (.int .i64 0)).setCell ⟨w.heap.size, 1, none⟩ (.int .i64 0)).setCell ⟨w.heap.size, 2, none⟩ (.int .i64 0)).setCell ⟨w.heap.size, 3, none⟩ (.int .i64 0)).setCell ⟨w.heap.size, 4, none⟩ (.int .i64 0)).setCell ⟨w.heap.size, 5, none⟩ (.int .i64 0)).setCell ⟨w.heap.size, 6, none⟩ (.int .i64 0)).setCell ⟨w.heap.size, 7, none⟩ (.int .i64 0)).setCell ⟨w.heap.size, 8, none⟩ (.int .i64 0)).cell? ⟨w.heap.size, 1, none⟩ = some (.int .i64 0) := by rw [cell_of_block HTW.out]; rfl
      have s2 : (((((((((((w.alloc (.cells #[.int .i64 0, .int .i64 0, .int .i64 0, .int .i64 0, .int .i64 0, .int .i64 0, .int .i64 0, .int .i64 0, .int .i64 0] 53)).drewN nq).setCell ⟨w.heap.size, 0, none⟩ (.int .i64 0)).setCell ⟨w.heap.size, 1, none⟩ (.int .i64 0)).setCell ⟨w.heap.size, 2, none⟩ (.int .i64 0)).setCell ⟨w.heap.size, 3, none⟩ (.int .i64 0)).setCell ⟨w.heap.size, 4, none⟩ (.int .i64 0)).setCell ⟨w.heap.size, 5, none⟩ (.int .i64 0)).setCell ⟨w.heap.size, 6, none⟩ (.int .i64 0)).setCell ⟨w.heap.size, 7, none⟩ (.int .i64 0)).setCell ⟨w.heap.size, 8, none⟩ (.int .i64 0)).cell? ⟨w.heap.size, 2, none⟩ = some (.int .i64 0) := by rw [cell_of_block HTW.out]; rfl
      have s3 : (((((((((((w.alloc (.cells #[.int .i64 0, .int .i64 0, .int .i64 0, .int .i64 0, .int .i64 0, .int .i64 0, .int .i64 0, .int .i64 0, .int .i64 0] 53)).drewN nq).setCell ⟨w.heap.size, 0, none⟩ (.int .i64 0)).setCell ⟨w.heap.size, 1, none⟩ (.int .i64 0)).setCell ⟨w.heap.size, 2, none⟩ (.int .i64 0)).setCell ⟨w.heap.size, 3, none⟩ (.int .i64 0)).setCell ⟨w.heap.size, 4, none⟩ (.int .i64 0)).setCell ⟨w.heap.size, 5, none⟩ (.int .i64 0)).setCell ⟨w.heap.size, 6, none⟩ (.int .i64 0)).setCell ⟨w.heap.size, 7, none⟩ (.int .i64 0)).setCell ⟨w.heap.size, 8, none⟩ (.int .i64 0)).cell? ⟨w.heap.size, 3, none⟩ = some (.int .i64 0) := by rw [cell_of_block HTW.out]; rfl
      have s4 : (((((((((((w.alloc (.cells #[.int .i64 0, .int .i64 0, .int .i64 0, .int .i64 0, .int .i64 0, .int .i64 0, .int .i64 0, .int .i64 0, .int .i64 0] 53)).drewN nq).setCell ⟨w.heap.size, 0, none⟩ (.int .i64 0)).setCell ⟨w.heap.size, 1, none⟩ (.int .i64 0)).setCell ⟨w.heap.size, 2, none⟩ (.int .i64 0)).setCell ⟨w.heap.size, 3, none⟩ (.int .i64 0)).setCell ⟨w.heap.size, 4, none⟩ (.int .i64 0)).setCell ⟨w.heap.size, 5, none⟩ (.int .i64 0)).setCell ⟨w.heap.size, 6, none⟩ (.int .i64 0)).setCell ⟨w.heap.size, 7, none⟩ (.int .i64 0)).setCell ⟨w.heap.size, 8, none⟩ (.int .i64 0)).cell? ⟨w.heap.size, 4, none⟩ = some (.int .i64 0) := by rw [cell_of_block HTW.out]; rfl
      have s5 : (((((((((((w.alloc (.cells #[.int .i64 0, .int .i64 0, .int .i64 0, .int .i64 0, .int .i64 0, .int .i64 0, .int .i64 0, .int .i64 0, .int .i64 0] 53)).drewN nq).setCell ⟨w.heap.size, 0, none⟩ (.int .i64 0)).setCell ⟨w.heap.size, 1, none⟩ (.int .i64 0)).setCell ⟨w.heap.size, 2, none⟩ (.int .i64 0)).setCell ⟨w.heap.size, 3, none⟩ (.int .i64 0)).setCell ⟨w.heap.size, 4, none⟩ (.int .i64 0)).setCell ⟨w.heap.size, 5, none⟩ (.int .i64 0)).setCell ⟨w.heap.size, 6, none⟩ (.int .i64 0)).setCell ⟨w.heap.size, 7, none⟩ (.int .i64 0)).setCell ⟨w.heap.size, 8, none⟩ (.int .i64 0)).cell? ⟨w.heap.size, 5, none⟩ = some (.int .i64 0) := by rw [cell_of_block HTW.out]; rfl
      have s6 : (((((((((((w.alloc (.cells #[.int .i64 0, .int .i64 0, .int .i64 0, .int .i64 0, .int .i64 0, .int .i64 0, .int .i64 0, .int .i64 0, .int .i64 0] 53)).drewN nq).setCell ⟨w.heap.size, 0, none⟩ (.int .i64 0)).setCell ⟨w.heap.size, 1, none⟩ (.int .i64 0)).setCell ⟨w.heap.size, 2, none⟩ (.int .i64 0)).setCell ⟨w.heap.size, 3, none⟩ (.int .i64 0)).setCell ⟨w.heap.size, 4, none⟩ (.int .i64 0)).setCell ⟨w.heap.size, 5, none⟩ (.int .i64 0)).setCell ⟨w.heap.size, 6, none⟩ (.int .i64 0)).setCell ⟨w.heap.size, 7, none⟩ (.int .i64 0)).setCell ⟨w.heap.size, 8, none⟩ (.int .i64 0)).cell? ⟨w.heap.size, 6, none⟩ = some (.int .i64 0) := by rw [cell_of_block HTW.out]; rfl
      have s7 : (((((((((((w.alloc (.cells #[.int .i64 0, .int .i64 0, .int .i64 0, .int .i64 0, .int .i64 0, .int .i64 0, .int .i64 0, .int .i64 0, .int .i64 0] 53)).drewN nq).setCell ⟨w.heap.size, 0, none⟩ (.int .i64 0)).setCell ⟨w.heap.size, 1, none⟩ (.int .i64 0)).setCell ⟨w.heap.size, 2, none⟩ (.int .i64 0)).setCell ⟨w.heap.size, 3, none⟩ (.int .i64 0)).setCell ⟨w.heap.size, 4, none⟩ (.int .i64 0)).setCell ⟨w.heap.size, 5, none⟩ (.int .i64 0)).setCell ⟨w.heap.size, 6, none⟩ (.int .i64 0)).setCell ⟨w.heap.size, 7, none⟩ (.int .i64 0)).setCell ⟨w.heap.size, 8, none⟩ (.int .i64 0)).cell? ⟨w.heap.size, 7, none⟩ = some (.int .i64 0) := by rw [cell_of_block HTW.out]; rfl
      have s8 : (((((((((((w.alloc (.cells #[.int .i64 0, .int .i64 0, .int .i64 0, .int .i64 0, .int .i64 0, .int .i64 0, .int .i64 0, .int .i64 0, .int .i64 0] 53)).drewN nq).setCell ⟨w.heap.size, 0, none⟩ (.int .i64 0)).setCell ⟨w.heap.size, 1, none⟩ (.int .i64 0)).setCell ⟨w.heap.size, 2, none⟩ (.int .i64 0)).setCell ⟨w.heap.size, 3, none⟩ (.int .i64 0)).setCell ⟨w.heap.size, 4, none⟩ (.int .i64 0)).setCell ⟨w.heap.size, 5, none⟩ (.int .i64 0)).setCell ⟨w.heap.size, 6, none⟩ (.int .i64 0)).setCell ⟨w.heap.size, 7, none⟩ (.int .i64 0)).setCell ⟨w.heap.size, 8, none⟩ (.int .i64 0)).cell? ⟨w.heap.size, 8, none⟩ = some (.int .i64 0) := by rw [cell_of_block HTW.out]; rfl
      exact bodyPost_ret (v := .tuple #[.agg #[.int .i64 0, .int .i64 0, .int .i64 0, .int .i64 0, .int .i64 0, .int .i64 0, .int .i64 0, .int .i64 0, .int .i64 0], .bool false]) (by simp [results, Tryd.results57, go_sem, s0, s1, s2, s3, s4, s5, s6, s7, s8]) rfl (stmt_no (s := ⟨0, 0, 0, 0, 0, 0, 0, 0, 0⟩) HNO.out ((((((((((HW1.out.trans (below_draws1 _ nq _)).setCell (Nat.le_refl _) _).setCell (Nat.le_refl _) _).setCell (Nat.le_refl _) _).setCell (Nat.le_refl _) _).setCell (Nat.le_refl _) _).setCell (Nat.le_refl _) _).setCell (Nat.le_refl _) _).setCell (Nat.le_refl _) _).setCell (Nat.le_refl _) _))))
set_option maxHeartbeats 16000000 in
theorem stmtOf_turn (b cap : Nat) (w : World) (hv : VarsT w) (h : StrsA w b 0 1 [turnW]) (hw : WordsOk [turnW]) (hcap : 1 ≤ cap) (hcm : cap ≤ 9223372036854775807) :
    Calls Tryd.prog 57 #[.slice (some ⟨b, 0, none⟩) 1 cap] w (StmtPost [turnW] w) := by
  have HW1 : Hid (Below w.heap.size w (w.alloc (.cells #[.int .i64 0, .int .i64 0, .int .i64 0, .int .i64 0, .int .i64 0, .int .i64 0, .int .i64 0, .int .i64 0, .int .i64 0] 53))) := below_alloc1 _ _
  have HZ1 : Hid ((w.alloc (.cells #[.int .i64 0, .int .i64 0, .int .i64 0, .int .i64 0, .int .i64 0, .int .i64 0, .int .i64 0, .int .i64 0, .int .i64 0] 53)).heap.size = w.heap.size + 1) := by show _ = _; simp
  have HRB : Hid (∀ y, Below (w.heap.size + 1) (w.alloc (.cells #[.int .i64 0, .int .i64 0, .int .i64 0, .int .i64 0, .int .i64 0, .int .i64 0, .int .i64 0, .int .i64 0, .int .i64 0] 53)) y → y.heap[w.heap.size]? = some (.cells #[.int .i64 0, .int .i64 0, .int .i64 0, .int .i64 0, .int .i64 0, .int .i64 0, .int .i64 0, .int .i64 0, .int .i64 0] 53 (0, 0)) ∧ w.heap.size + 1 ≤ y.heap.size ∧ Below w.heap.size w y) := fun y hy => ⟨(hy.block _ (by omega)).trans (new_blkS _ _ _), by have := hy.size; rw [HZ1.out] at this; exact this, HW1.out.trans (hy.mono (by omega))⟩
  have HU : Hid (∀ nq, Below (w.heap.size + 1) (w.alloc (.cells #[.int .i64 0, .int .i64 0, .int .i64 0, .int .i64 0, .int .i64 0, .int .i64 0, .int .i64 0, .int .i64 0, .int .i64 0] 53)) ((w.alloc (.cells #[.int .i64 0, .int .i64 0, .int .i64 0, .int .i64 0, .int .i64 0, .int .i64 0, .int .i64 0, .int .i64 0, .int .i64 0] 53)).drewN nq)) := fun nq => below_draws1 _ _ _
  have hbz := h.2.1
  have HC : Hid (∀ y, Below w.heap.size w y → y.cell? ⟨b, 0, none⟩ = some (.string (strOfNums turnW)) ∧ True) := fun y hy => ⟨(h.below hy).2.2 0 (by omega), trivial⟩
  have HV := hide hv
  have ec : ((strOfNums turnW).toList == [99, 111, 110, 115, 116]) = false := (word_beq (l := turnW) (by decide) (m := constW) (by decide) (b := [99, 111, 110, 115, 116]) rfl).trans (by decide)
  have et : ((strOfNums turnW).toList == [116, 117, 114, 110]) = true := (word_beq (l := turnW) (by decide) (m := turnW) (by decide) (b := [116, 117, 114, 110]) rfl).trans (by decide)
  have el : ((strOfNums turnW).toList == [108, 111, 97, 100]) = false := (word_beq (l := turnW) (by decide) (m := loadW) (by decide) (b := [108, 111, 97, 100]) rfl).trans (by decide)
  have es : ((strOfNums turnW).toList == [115, 116, 111, 114, 101]) = false := (word_beq (l := turnW) (by decide) (m := storeW) (by decide) (b := [115, 116, 111, 114, 101]) rfl).trans (by decide)
  obtain ⟨c0, -⟩ := HC.out _ HW1.out
  generalize strOfNums turnW = P0 at *
  clear h hw hv HC
  go_enter Tryd.func57, Tryd.ntmps57
  go_wp2_with fail
  go_big_quiet (fail)
  go_wp2_with fail
  all_goals (
    have bb : ((w.alloc (.cells #[.int .i64 0, .int .i64 0, .int .i64 0, .int .i64 0, .int .i64 0, .int .i64 0, .int .i64 0, .int .i64 0, .int .i64 0] 53)).drewN nq).heap[w.heap.size]? = some (.cells #[.int .i64 0, .int .i64 0, .int .i64 0, .int .i64 0, .int .i64 0, .int .i64 0, .int .i64 0, .int .i64 0, .int .i64 0] 53 (0, 0)) := new_blkS w _ _
    have HTW := hide (nine_set (b0 := .int .i64 2) (b1 := .int .i64 0) (b2 := .int .i64 0) (b3 := .int .i64 0) (b4 := .int .i64 0) (b5 := .int .i64 0) (b6 := .int .i64 0) (b7 := .int .i64 0) (b8 := .int .i64 0) bb)
    have s0 : (((((((((((w.alloc (.cells #[.int .i64 0, .int .i64 0, .int .i64 0, .int .i64 0, .int .i64 0, .int .i64 0, .int .i64 0, .int .i64 0, .int .i64 0] 53)).drewN nq).setCell ⟨w.heap.size, 0, none⟩ (.int .i64 2)).setCell ⟨w.heap.size, 1, none⟩ (.int .i64 0)).setCell ⟨w.heap.size, 2, none⟩ (.int .i64 0)).setCell ⟨w.heap.size, 3, none⟩ (.int .i64 0)).setCell ⟨w.heap.size, 4, none⟩ (.int .i64 0)).setCell ⟨w.heap.size, 5, none⟩ (.int .i64 0)).setCell ⟨w.heap.size, 6, none⟩ (.int .i64 0)).setCell ⟨w.heap.size, 7, none⟩ (.int .i64 0)).setCell ⟨w.heap.size, 8, none⟩ (.int .i64 0)).cell? ⟨w.heap.size, 0, none⟩ = some (.int .i64 2) := by rw [cell_of_block HTW.out]; rfl
    have s1 : (((((((((((w.alloc (.cells #[.int .i64 0, .int .i64 0, .int .i64 0, .int .i64 0, .int .i64 0, .int .i64 0, .int .i64 0, .int .i64 0, .int .i64 0] 53)).drewN nq).setCell ⟨w.heap.size, 0, none⟩ (.int .i64 2)).setCell ⟨w.heap.size, 1, none⟩ (.int .i64 0)).setCell ⟨w.heap.size, 2, none⟩ (.int .i64 0)).setCell ⟨w.heap.size, 3, none⟩ (.int .i64 0)).setCell ⟨w.heap.size, 4, none⟩ (.int .i64 0)).setCell ⟨w.heap.size, 5, none⟩ (.int .i64 0)).setCell ⟨w.heap.size, 6, none⟩ (.int .i64 0)).setCell ⟨w.heap.size, 7, none⟩ (.int .i64 0)).setCell ⟨w.heap.size, 8, none⟩ (.int .i64 0)).cell? ⟨w.heap.size, 1, none⟩ = some (.int .i64 0) := by rw [cell_of_block HTW.out]; rfl
    have s2 : (((((((((((w.alloc (.cells #[.int .i64 0, .int .i64 0, .int .i64 0, .int .i64 0, .int .i64 0, .int .i64 0, .int .i64 0, .int .i64 0, .int .i64 0] 53)).drewN nq).setCell ⟨w.heap.size, 0, none⟩ (.int .i64 2)).setCell ⟨w.heap.size, 1, none⟩ (.int .i64 0)).setCell ⟨w.heap.size, 2, none⟩ (.int .i64 0)).setCell ⟨w.heap.size, 3, none⟩ (.int .i64 0)).setCell ⟨w.heap.size, 4, none⟩ (.int .i64 0)).setCell ⟨w.heap.size, 5, none⟩ (.int .i64 0)).setCell ⟨w.heap.size, 6, none⟩ (.int .i64 0)).setCell ⟨w.heap.size, 7, none⟩ (.int .i64 0)).setCell ⟨w.heap.size, 8, none⟩ (.int .i64 0)).cell? ⟨w.heap.size, 2, none⟩ = some (.int .i64 0) := by rw [cell_of_block HTW.out]; rfl
    have s3 : (((((((((((w.alloc (.cells #[.int .i64 0, .int .i64 0, .int .i64 0, .int .i64 0, .int .i64 0, .int .i64 0, .int .i64 0, .int .i64 0, .int .i64 0] 53)).drewN nq).setCell ⟨w.heap.size, 0, none⟩ (.int .i64 2)).setCell ⟨w.heap.size, 1, none⟩ (.int .i64 0)).setCell ⟨w.heap.size, 2, none⟩ (.int .i64 0)).setCell ⟨w.heap.size, 3, none⟩ (.int .i64 0)).setCell ⟨w.heap.size, 4, none⟩ (.int .i64 0)).setCell ⟨w.heap.size, 5, none⟩ (.int .i64 0)).setCell ⟨w.heap.size, 6, none⟩ (.int .i64 0)).setCell ⟨w.heap.size, 7, none⟩ (.int .i64 0)).setCell ⟨w.heap.size, 8, none⟩ (.int .i64 0)).cell? ⟨w.heap.size, 3, none⟩ = some (.int .i64 0) := by rw [cell_of_block HTW.out]; rfl
    have s4 : (((((((((((w.alloc (.cells #[.int .i64 0, .int .i64 0, .int .i64 0, .int .i64 0, .int .i64 0, .int .i64 0, .int .i64 0, .int .i64 0, .int .i64 0] 53)).drewN nq).setCell ⟨w.heap.size, 0, none⟩ (.int .i64 2)).setCell ⟨w.heap.size, 1, none⟩ (.int .i64 0)).setCell ⟨w.heap.size, 2, none⟩ (.int .i64 0)).setCell ⟨w.heap.size, 3, none⟩ (.int .i64 0)).setCell ⟨w.heap.size, 4, none⟩ (.int .i64 0)).setCell ⟨w.heap.size, 5, none⟩ (.int .i64 0)).setCell ⟨w.heap.size, 6, none⟩ (.int .i64 0)).setCell ⟨w.heap.size, 7, none⟩ (.int .i64 0)).setCell ⟨w.heap.size, 8, none⟩ (.int .i64 0)).cell? ⟨w.heap.size, 4, none⟩ = some (.int .i64 0) := by rw [cell_of_block HTW.out]; rfl
    have s5 : (((((((((((w.alloc (.cells #[.int .i64 0, .int .i64 0, .int .i64 0, .int .i64 0, .int .i64 0, .int .i64 0, .int .i64 0, .int .i64 0, .int .i64 0] 53)).drewN nq).setCell ⟨w.heap.size, 0, none⟩ (.int .i64 2)).setCell ⟨w.heap.size, 1, none⟩ (.int .i64 0)).setCell ⟨w.heap.size, 2, none⟩ (.int .i64 0)).setCell ⟨w.heap.size, 3, none⟩ (.int .i64 0)).setCell ⟨w.heap.size, 4, none⟩ (.int .i64 0)).setCell ⟨w.heap.size, 5, none⟩ (.int .i64 0)).setCell ⟨w.heap.size, 6, none⟩ (.int .i64 0)).setCell ⟨w.heap.size, 7, none⟩ (.int .i64 0)).setCell ⟨w.heap.size, 8, none⟩ (.int .i64 0)).cell? ⟨w.heap.size, 5, none⟩ = some (.int .i64 0) := by rw [cell_of_block HTW.out]; rfl
    have s6 : (((((((((((w.alloc (.cells #[.int .i64 0, .int .i64 0, .int .i64 0, .int .i64 0, .int .i64 0, .int .i64 0, .int .i64 0, .int .i64 0, .int .i64 0] 53)).drewN nq).setCell ⟨w.heap.size, 0, none⟩ (.int .i64 2)).setCell ⟨w.heap.size, 1, none⟩ (.int .i64 0)).setCell ⟨w.heap.size, 2, none⟩ (.int .i64 0)).setCell ⟨w.heap.size, 3, none⟩ (.int .i64 0)).setCell ⟨w.heap.size, 4, none⟩ (.int .i64 0)).setCell ⟨w.heap.size, 5, none⟩ (.int .i64 0)).setCell ⟨w.heap.size, 6, none⟩ (.int .i64 0)).setCell ⟨w.heap.size, 7, none⟩ (.int .i64 0)).setCell ⟨w.heap.size, 8, none⟩ (.int .i64 0)).cell? ⟨w.heap.size, 6, none⟩ = some (.int .i64 0) := by rw [cell_of_block HTW.out]; rfl
    have s7 : (((((((((((w.alloc (.cells #[.int .i64 0, .int .i64 0, .int .i64 0, .int .i64 0, .int .i64 0, .int .i64 0, .int .i64 0, .int .i64 0, .int .i64 0] 53)).drewN nq).setCell ⟨w.heap.size, 0, none⟩ (.int .i64 2)).setCell ⟨w.heap.size, 1, none⟩ (.int .i64 0)).setCell ⟨w.heap.size, 2, none⟩ (.int .i64 0)).setCell ⟨w.heap.size, 3, none⟩ (.int .i64 0)).setCell ⟨w.heap.size, 4, none⟩ (.int .i64 0)).setCell ⟨w.heap.size, 5, none⟩ (.int .i64 0)).setCell ⟨w.heap.size, 6, none⟩ (.int .i64 0)).setCell ⟨w.heap.size, 7, none⟩ (.int .i64 0)).setCell ⟨w.heap.size, 8, none⟩ (.int .i64 0)).cell? ⟨w.heap.size, 7, none⟩ = some (.int .i64 0) := by rw [cell_of_block HTW.out]; rfl
    have s8 : (((((((((((w.alloc (.cells #[.int .i64 0, .int .i64 0, .int .i64 0, .int .i64 0, .int .i64 0, .int .i64 0, .int .i64 0, .int .i64 0, .int .i64 0] 53)).drewN nq).setCell ⟨w.heap.size, 0, none⟩ (.int .i64 2)).setCell ⟨w.heap.size, 1, none⟩ (.int .i64 0)).setCell ⟨w.heap.size, 2, none⟩ (.int .i64 0)).setCell ⟨w.heap.size, 3, none⟩ (.int .i64 0)).setCell ⟨w.heap.size, 4, none⟩ (.int .i64 0)).setCell ⟨w.heap.size, 5, none⟩ (.int .i64 0)).setCell ⟨w.heap.size, 6, none⟩ (.int .i64 0)).setCell ⟨w.heap.size, 7, none⟩ (.int .i64 0)).setCell ⟨w.heap.size, 8, none⟩ (.int .i64 0)).cell? ⟨w.heap.size, 8, none⟩ = some (.int .i64 0) := by rw [cell_of_block HTW.out]; rfl
    exact bodyPost_ret (v := .tuple #[.agg #[.int .i64 2, .int .i64 0, .int .i64 0, .int .i64 0, .int .i64 0, .int .i64 0, .int .i64 0, .int .i64 0, .int .i64 0], .bool true]) (by simp [results, Tryd.results57, go_sem, s0, s1, s2, s3, s4, s5, s6, s7, s8]) rfl (⟨⟨2, 0, 0, 0, 0, 0, 0, 0, 0⟩, true, rfl, rfl, fun r hr => Option.some.inj hr, ((((((((((HW1.out.trans (below_draws1 _ nq _)).setCell (Nat.le_refl _) _).setCell (Nat.le_refl _) _).setCell (Nat.le_refl _) _).setCell (Nat.le_refl _) _).setCell (Nat.le_refl _) _).setCell (Nat.le_refl _) _).setCell (Nat.le_refl _) _).setCell (Nat.le_refl _) _).setCell (Nat.le_refl _) _)⟩))
theorem stp_const {a : List Int} {n0 : Int} {b0 : Bool} {w w' : World} (hb : b0 = (numO a 19).isSome) (hn : ∀ m, numO a 19 = some m → n0 = m) (hbel : Below w.heap.size w w') : StmtPost [constW, a] w (.returned (.tuple #[.agg (stCells ⟨1, 0, 0, 0, 0, 0, 0, 0, n0⟩), .bool b0])) w' := by
  have e : stO [constW, a] = (numO a 19).map fun n => ⟨1, 0, 0, 0, 0, 0, 0, 0, n⟩ := by show (if constW = constW then _ else none) = _; exact if_pos rfl
  refine ⟨_, b0, rfl, ?_, fun r hr => ?_, hbel⟩
  · rw [e, hb]; cases numO a 19 <;> rfl
  · rw [e] at hr
    obtain ⟨m, hm, rfl⟩ := Option.map_eq_some_iff.1 hr
    rw [hn m hm]
set_option maxHeartbeats 16000000 in
theorem stmtOf_const (p1 : List Int) (b cap : Nat) (w : World) (hv : VarsT w) (h : StrsA w b 0 2 [constW, p1]) (hw : WordsOk [constW, p1]) (hcap : 2 ≤ cap) (hcm : cap ≤ 9223372036854775807) :
    Calls Tryd.prog 57 #[.slice (some ⟨b, 0, none⟩) 2 cap] w (StmtPost [constW, p1] w) := by
  have HW1 : Hid (Below w.heap.size w (w.alloc (.cells #[.int .i64 0, .int .i64 0, .int .i64 0, .int .i64 0, .int .i64 0, .int .i64 0, .int .i64 0, .int .i64 0, .int .i64 0] 53))) := below_alloc1 _ _
  have HZ1 : Hid ((w.alloc (.cells #[.int .i64 0, .int .i64 0, .int .i64 0, .int .i64 0, .int .i64 0, .int .i64 0, .int .i64 0, .int .i64 0, .int .i64 0] 53)).heap.size = w.heap.size + 1) := by show _ = _; simp
  have HRB : Hid (∀ y, Below (w.heap.size + 1) (w.alloc (.cells #[.int .i64 0, .int .i64 0, .int .i64 0, .int .i64 0, .int .i64 0, .int .i64 0, .int .i64 0, .int .i64 0, .int .i64 0] 53)) y → y.heap[w.heap.size]? = some (.cells #[.int .i64 0, .int .i64 0, .int .i64 0, .int .i64 0, .int .i64 0, .int .i64 0, .int .i64 0, .int .i64 0, .int .i64 0] 53 (0, 0)) ∧ w.heap.size + 1 ≤ y.heap.size ∧ Below w.heap.size w y) := fun y hy => ⟨(hy.block _ (by omega)).trans (new_blkS _ _ _), by have := hy.size; rw [HZ1.out] at this; exact this, HW1.out.trans (hy.mono (by omega))⟩
  have HU : Hid (∀ nq, Below (w.heap.size + 1) (w.alloc (.cells #[.int .i64 0, .int .i64 0, .int .i64 0, .int .i64 0, .int .i64 0, .int .i64 0, .int .i64 0, .int .i64 0, .int .i64 0] 53)) ((w.alloc (.cells #[.int .i64 0, .int .i64 0, .int .i64 0, .int .i64 0, .int .i64 0, .int .i64 0, .int .i64 0, .int .i64 0, .int .i64 0] 53)).drewN nq)) := fun nq => below_draws1 _ _ _
  have hbz := h.2.1
  have HC : Hid (∀ y, Below w.heap.size w y → y.cell? ⟨b, 0, none⟩ = some (.string (strOfNums constW)) ∧ y.cell? ⟨b, 1, none⟩ = some (.string (strOfNums p1))) := fun y hy => ⟨(h.below hy).2.2 0 (by omega), (h.below hy).2.2 1 (by omega)⟩
  have HV := hide hv
  have HN1 := hide (fun W hW => numberOf_any p1 W hW (hw 1).1 (hw 1).2)
  have ec : ((strOfNums constW).toList == [99, 111, 110, 115, 116]) = true := (word_beq (l := constW) (by decide) (m := constW) (by decide) (b := [99, 111, 110, 115, 116]) rfl).trans (by decide)
  have et : ((strOfNums constW).toList == [116, 117, 114, 110]) = false := (word_beq (l := constW) (by decide) (m := turnW) (by decide) (b := [116, 117, 114, 110]) rfl).trans (by decide)
  have el : ((strOfNums constW).toList == [108, 111, 97, 100]) = false := (word_beq (l := constW) (by decide) (m := loadW) (by decide) (b := [108, 111, 97, 100]) rfl).trans (by decide)
  have es : ((strOfNums constW).toList == [115, 116, 111, 114, 101]) = false := (word_beq (l := constW) (by decide) (m := storeW) (by decide) (b := [115, 116, 111, 114, 101]) rfl).trans (by decide)
  obtain ⟨c0, -⟩ := HC.out _ HW1.out
  generalize strOfNums constW = P0 at *
  obtain ⟨-, c1⟩ := HC.out _ HW1.out
  clear h hw hv HC
  go_enter Tryd.func57, Tryd.ntmps57
  go_wp2_with fail
  go_big_quiet (fail)
  have c1' : ((w.alloc (.cells #[.int .i64 0, .int .i64 0, .int .i64 0, .int .i64 0, .int .i64 0, .int .i64 0, .int .i64 0, .int .i64 0, .int .i64 0] 53)).drewN nq).cell? ⟨b, 1, none⟩ = some (.string (strOfNums p1)) := c1
  go_wp2_with fail
  refine (HN1.out _ (HV.out.on (HRB.out _ (HU.out nq)).2.2)).mono ?_
  rintro e y0 ⟨n0, b0, rfl, hb0, hn0, lo0, hi0, hy⟩
  have HY0 : Hid (Below (w.heap.size + 1) (w.alloc (.cells #[.int .i64 0, .int .i64 0, .int .i64 0, .int .i64 0, .int .i64 0, .int .i64 0, .int .i64 0, .int .i64 0, .int .i64 0] 53)) y0) := (HU.out nq).trans (hy.mono (HRB.out _ (HU.out nq)).2.1)
  obtain ⟨bb, hwz, hbw⟩ := HRB.out _ HY0.out
  have HBW := hide hbw
  have HB0 := hide hb0
  have HN0 := hide hn0
  clear hy hbw hb0 hn0 c0 c1 c1'
  have k0 : y0.cell? ⟨w.heap.size, 0, none⟩ = some (.int .i64 0) := by rw [cell_of_block bb]; rfl
  have f0 : y0.frozen? ⟨w.heap.size, 0, none⟩ = false := by simp [World.frozen?, bb]
  have k1 : y0.cell? ⟨w.heap.size, 1, none⟩ = some (.int .i64 0) := by rw [cell_of_block bb]; rfl
  have f1 : y0.frozen? ⟨w.heap.size, 1, none⟩ = false := by simp [World.frozen?, bb]
  have k2 : y0.cell? ⟨w.heap.size, 2, none⟩ = some (.int .i64 0) := by rw [cell_of_block bb]; rfl
  have f2 : y0.frozen? ⟨w.heap.size, 2, none⟩ = false := by simp [World.frozen?, bb]
  have k3 : y0.cell? ⟨w.heap.size, 3, none⟩ = some (.int .i64 0) := by rw [cell_of_block bb]; rfl
  have f3 : y0.frozen? ⟨w.heap.size, 3, none⟩ = false := by simp [World.frozen?, bb]
  have k4 : y0.cell? ⟨w.heap.size, 4, none⟩ = some (.int .i64 0) := by rw [cell_of_block bb]; rfl
  have f4 : y0.frozen? ⟨w.heap.size, 4, none⟩ = false := by simp [World.frozen?, bb]
  have k5 : y0.cell? ⟨w.heap.size, 5, none⟩ = some (.int .i64 0) := by rw [cell_of_block bb]; rfl
  have f5 : y0.frozen? ⟨w.heap.size, 5, none⟩ = false := by simp [World.frozen?, bb]
  have k6 : y0.cell? ⟨w.heap.size, 6, none⟩ = some (.int .i64 0) := by rw [cell_of_block bb]; rfl
  have f6 : y0.frozen? ⟨w.heap.size, 6, none⟩ = false := by simp [World.frozen?, bb]
  have k7 : y0.cell? ⟨w.heap.size, 7, none⟩ = some (.int .i64 0) := by rw [cell_of_block bb]; rfl
  have f7 : y0.frozen? ⟨w.heap.size, 7, none⟩ = false := by simp [World.frozen?, bb]
  have k8 : y0.cell? ⟨w.heap.size, 8, none⟩ = some (.int .i64 0) := by rw [cell_of_block bb]; rfl
  have f8 : y0.frozen? ⟨w.heap.size, 8, none⟩ = false := by simp [World.frozen?, bb]
  have HTW := hide (nine_set (b0 := .int .i64 1) (b1 := .int .i64 0) (b2 := .int .i64 0) (b3 := .int .i64 0) (b4 := .int .i64 0) (b5 := .int .i64 0) (b6 := .int .i64 0) (b7 := .int .i64 0) (b8 := .int .i64 n0) bb)
  have S0 : Hid ((((((((((y0.setCell ⟨w.heap.size, 0, none⟩ (.int .i64 1)).setCell ⟨w.heap.size, 1, none⟩ (.int .i64 0)).setCell ⟨w.heap.size, 2, none⟩ (.int .i64 0)).setCell ⟨w.heap.size, 3, none⟩ (.int .i64 0)).setCell ⟨w.heap.size, 4, none⟩ (.int .i64 0)).setCell ⟨w.heap.size, 5, none⟩ (.int .i64 0)).setCell ⟨w.heap.size, 6, none⟩ (.int .i64 0)).setCell ⟨w.heap.size, 7, none⟩ (.int .i64 0)).setCell ⟨w.heap.size, 8, none⟩ (.int .i64 n0)).cell? ⟨w.heap.size, 0, none⟩ = some (.int .i64 1)) := by show _ = _; rw [cell_of_block HTW.out]; rfl
  have S1 : Hid ((((((((((y0.setCell ⟨w.heap.size, 0, none⟩ (.int .i64 1)).setCell ⟨w.heap.size, 1, none⟩ (.int .i64 0)).setCell ⟨w.heap.size, 2, none⟩ (.int .i64 0)).setCell ⟨w.heap.size, 3, none⟩ (.int .i64 0)).setCell ⟨w.heap.size, 4, none⟩ (.int .i64 0)).setCell ⟨w.heap.size, 5, none⟩ (.int .i64 0)).setCell ⟨w.heap.size, 6, none⟩ (.int .i64 0)).setCell ⟨w.heap.size, 7, none⟩ (.int .i64 0)).setCell ⟨w.heap.size, 8, none⟩ (.int .i64 n0)).cell? ⟨w.heap.size, 1, none⟩ = some (.int .i64 0)) := by show _ = _; rw [cell_of_block HTW.out]; rfl
  have S2 : Hid ((((((((((y0.setCell ⟨w.heap.size, 0, none⟩ (.int .i64 1)).setCell ⟨w.heap.size, 1, none⟩ (.int .i64 0)).setCell ⟨w.heap.size, 2, none⟩ (.int .i64 0)).setCell ⟨w.heap.size, 3, none⟩ (.int .i64 0)).setCell ⟨w.heap.size, 4, none⟩ (.int .i64 0)).setCell ⟨w.heap.size, 5, none⟩ (.int .i64 0)).setCell ⟨w.heap.size, 6, none⟩ (.int .i64 0)).setCell ⟨w.heap.size, 7, none⟩ (.int .i64 0)).setCell ⟨w.heap.size, 8, none⟩ (.int .i64 n0)).cell? ⟨w.heap.size, 2, none⟩ = some (.int .i64 0)) := by show _ = _; rw [cell_of_block HTW.out]; rfl
  have S3 : Hid ((((((((((y0.setCell ⟨w.heap.size, 0, none⟩ (.int .i64 1)).setCell ⟨w.heap.size, 1, none⟩ (.int .i64 0)).setCell ⟨w.heap.size, 2, none⟩ (.int .i64 0)).setCell ⟨w.heap.size, 3, none⟩ (.int .i64 0)).setCell ⟨w.heap.size, 4, none⟩ (.int .i64 0)).setCell ⟨w.heap.size, 5, none⟩ (.int .i64 0)).setCell ⟨w.heap.size, 6, none⟩ (.int .i64 0)).setCell ⟨w.heap.size, 7, none⟩ (.int .i64 0)).setCell ⟨w.heap.size, 8, none⟩ (.int .i64 n0)).cell? ⟨w.heap.size, 3, none⟩ = some (.int .i64 0)) := by show _ = _; rw [cell_of_block HTW.out]; rfl
  have S4 : Hid ((((((((((y0.setCell ⟨w.heap.size, 0, none⟩ (.int .i64 1)).setCell ⟨w.heap.size, 1, none⟩ (.int .i64 0)).setCell ⟨w.heap.size, 2, none⟩ (.int .i64 0)).setCell ⟨w.heap.size, 3, none⟩ (.int .i64 0)).setCell ⟨w.heap.size, 4, none⟩ (.int .i64 0)).setCell ⟨w.heap.size, 5, none⟩ (.int .i64 0)).setCell ⟨w.heap.size, 6, none⟩ (.int .i64 0)).setCell ⟨w.heap.size, 7, none⟩ (.int .i64 0)).setCell ⟨w.heap.size, 8, none⟩ (.int .i64 n0)).cell? ⟨w.heap.size, 4, none⟩ = some (.int .i64 0)) := by show _ = _; rw [cell_of_block HTW.out]; rfl
  have S5 : Hid ((((((((((y0.setCell ⟨w.heap.size, 0, none⟩ (.int .i64 1)).setCell ⟨w.heap.size, 1, none⟩ (.int .i64 0)).setCell ⟨w.heap.size, 2, none⟩ (.int .i64 0)).setCell ⟨w.heap.size, 3, none⟩ (.int .i64 0)).setCell ⟨w.heap.size, 4, none⟩ (.int .i64 0)).setCell ⟨w.heap.size, 5, none⟩ (.int .i64 0)).setCell ⟨w.heap.size, 6, none⟩ (.int .i64 0)).setCell ⟨w.heap.size, 7, none⟩ (.int .i64 0)).setCell ⟨w.heap.size, 8, none⟩ (.int .i64 n0)).cell? ⟨w.heap.size, 5, none⟩ = some (.int .i64 0)) := by show _ = _; rw [cell_of_block HTW.out]; rfl
  have S6 : Hid ((((((((((y0.setCell ⟨w.heap.size, 0, none⟩ (.int .i64 1)).setCell ⟨w.heap.size, 1, none⟩ (.int .i64 0)).setCell ⟨w.heap.size, 2, none⟩ (.int .i64 0)).setCell ⟨w.heap.size, 3, none⟩ (.int .i64 0)).setCell ⟨w.heap.size, 4, none⟩ (.int .i64 0)).setCell ⟨w.heap.size, 5, none⟩ (.int .i64 0)).setCell ⟨w.heap.size, 6, none⟩ (.int .i64 0)).setCell ⟨w.heap.size, 7, none⟩ (.int .i64 0)).setCell ⟨w.heap.size, 8, none⟩ (.int .i64 n0)).cell? ⟨w.heap.size, 6, none⟩ = some (.int .i64 0)) := by show _ = _; rw [cell_of_block HTW.out]; rfl
  have S7 : Hid ((((((((((y0.setCell ⟨w.heap.size, 0, none⟩ (.int .i64 1)).setCell ⟨w.heap.size, 1, none⟩ (.int .i64 0)).setCell ⟨w.heap.size, 2, none⟩ (.int .i64 0)).setCell ⟨w.heap.size, 3, none⟩ (.int .i64 0)).setCell ⟨w.heap.size, 4, none⟩ (.int .i64 0)).setCell ⟨w.heap.size, 5, none⟩ (.int .i64 0)).setCell ⟨w.heap.size, 6, none⟩ (.int .i64 0)).setCell ⟨w.heap.size, 7, none⟩ (.int .i64 0)).setCell ⟨w.heap.size, 8, none⟩ (.int .i64 n0)).cell? ⟨w.heap.size, 7, none⟩ = some (.int .i64 0)) := by show _ = _; rw [cell_of_block HTW.out]; rfl
  have S8 : Hid ((((((((((y0.setCell ⟨w.heap.size, 0, none⟩ (.int .i64 1)).setCell ⟨w.heap.size, 1, none⟩ (.int .i64 0)).setCell ⟨w.heap.size, 2, none⟩ (.int .i64 0)).setCell ⟨w.heap.size, 3, none⟩ (.int .i64 0)).setCell ⟨w.heap.size, 4, none⟩ (.int .i64 0)).setCell ⟨w.heap.size, 5, none⟩ (.int .i64 0)).setCell ⟨w.heap.size, 6, none⟩ (.int .i64 0)).setCell ⟨w.heap.size, 7, none⟩ (.int .i64 0)).setCell ⟨w.heap.size, 8, none⟩ (.int .i64 n0)).cell? ⟨w.heap.size, 8, none⟩ = some (.int .i64 n0)) := by show _ = _; rw [cell_of_block HTW.out]; rfl
  have HPP : Hid (StmtPost [constW, p1] w (.returned (.tuple #[.agg #[.int .i64 1, .int .i64 0, .int .i64 0, .int .i64 0, .int .i64 0, .int .i64 0, .int .i64 0, .int .i64 0, .int .i64 n0], .bool b0])) (((((((((y0.setCell ⟨w.heap.size, 0, none⟩ (.int .i64 1)).setCell ⟨w.heap.size, 1, none⟩ (.int .i64 0)).setCell ⟨w.heap.size, 2, none⟩ (.int .i64 0)).setCell ⟨w.heap.size, 3, none⟩ (.int .i64 0)).setCell ⟨w.heap.size, 4, none⟩ (.int .i64 0)).setCell ⟨w.heap.size, 5, none⟩ (.int .i64 0)).setCell ⟨w.heap.size, 6, none⟩ (.int .i64 0)).setCell ⟨w.heap.size, 7, none⟩ (.int .i64 0)).setCell ⟨w.heap.size, 8, none⟩ (.int .i64 n0))) := stp_const HB0.out HN0.out (((((((((HBW.out.setCell (Nat.le_refl _) _).setCell (Nat.le_refl _) _).setCell (Nat.le_refl _) _).setCell (Nat.le_refl _) _).setCell (Nat.le_refl _) _).setCell (Nat.le_refl _) _).setCell (Nat.le_refl _) _).setCell (Nat.le_refl _) _).setCell (Nat.le_refl _) _)
  clear bb
  go_wp2_with fail
  have s0 := S0.out
  have s1 := S1.out
  have s2 := S2.out
  have s3 := S3.out
  have s4 := S4.out
  have s5 := S5.out
  have s6 := S6.out
  have s7 := S7.out
  have s8 := S8.out
  exact bodyPost_ret (v := .tuple #[.agg #[.int .i64 1, .int .i64 0, .int .i64 0, .int .i64 0, .int .i64 0, .int .i64 0, .int .i64 0, .int .i64 0, .int .i64 n0], .bool b0]) (by simp [results, Tryd.results57, go_sem, s0, s1, s2, s3, s4, s5, s6, s7, s8]) rfl HPP.out
theorem stp_load {a b c : List Int} {x y z : Int} {ok : Bool} {w w' : World} (hb : ok = ((numO a 18).isSome && (numO b 18).isSome && (numO c 18).isSome)) (h1 : ∀ m, numO a 18 = some m → x = m) (h2 : ∀ m, numO b 18 = some m → y = m) (h3 : ∀ m, numO c 18 = some m → z = m) (hbel : Below w.heap.size w w') : StmtPost [loadW, a, b, c] w (.returned (.tuple #[.agg (stCells ⟨3, 0, 0, 0, 0, x, y, z, 0⟩), .bool ok])) w' := by
  have e : stO [loadW, a, b, c] = match numO a 18, numO b 18, numO c 18 with
      | some x, some y, some z => some ⟨3, 0, 0, 0, 0, x, y, z, 0⟩
      | _, _, _ => none := by show (if loadW = loadW then _ else none) = _; exact if_pos rfl
  refine ⟨_, ok, rfl, ?_, fun r hr => ?_, hbel⟩
  · rw [e, hb]; cases numO a 18 <;> cases numO b 18 <;> cases numO c 18 <;> rfl
  · rw [e] at hr
    cases ha : numO a 18 <;> cases hb : numO b 18 <;> cases hc : numO c 18 <;> rw [ha, hb, hc] at hr <;> first | (cases hr; rw [h1 _ ha, h2 _ hb, h3 _ hc]) | cases hr
set_option maxHeartbeats 16000000 in
theorem stmtOf_load (p1 p2 p3 : List Int) (b cap : Nat) (w : World) (hv : VarsT w) (h : StrsA w b 0 4 [loadW, p1, p2, p3]) (hw : WordsOk [loadW, p1, p2, p3]) (hcap : 4 ≤ cap) (hcm : cap ≤ 9223372036854775807) :
    Calls Tryd.prog 57 #[.slice (some ⟨b, 0, none⟩) 4 cap] w (StmtPost [loadW, p1, p2, p3] w) := by
  have HW1 : Hid (Below w.heap.size w (w.alloc (.cells #[.int .i64 0, .int .i64 0, .int .i64 0, .int .i64 0, .int .i64 0, .int .i64 0, .int .i64 0, .int .i64 0, .int .i64 0] 53))) := below_alloc1 _ _
  have HZ1 : Hid ((w.alloc (.cells #[.int .i64 0, .int .i64 0, .int .i64 0, .int .i64 0, .int .i64 0, .int .i64 0, .int .i64 0, .int .i64 0, .int .i64 0] 53)).heap.size = w.heap.size + 1) := by show _ = _; simp
  have HRB : Hid (∀ y, Below (w.heap.size + 1) (w.alloc (.cells #[.int .i64 0, .int .i64 0, .int .i64 0, .int .i64 0, .int .i64 0, .int .i64 0, .int .i64 0, .int .i64 0, .int .i64 0] 53)) y → y.heap[w.heap.size]? = some (.cells #[.int .i64 0, .int .i64 0, .int .i64 0, .int .i64 0, .int .i64 0, .int .i64 0, .int .i64 0, .int .i64 0, .int .i64 0] 53 (0, 0)) ∧ w.heap.size + 1 ≤ y.heap.size ∧ Below w.heap.size w y) := fun y hy => ⟨(hy.block _ (by omega)).trans (new_blkS _ _ _), by have := hy.size; rw [HZ1.out] at this; exact this, HW1.out.trans (hy.mono (by omega))⟩
  have HU : Hid (∀ nq, Below (w.heap.size + 1) (w.alloc (.cells #[.int .i64 0, .int .i64 0, .int .i64 0, .int .i64 0, .int .i64 0, .int .i64 0, .int .i64 0, .int .i64 0, .int .i64 0] 53)) ((w.alloc (.cells #[.int .i64 0, .int .i64 0, .int .i64 0, .int .i64 0, .int .i64 0, .int .i64 0, .int .i64 0, .int .i64 0, .int .i64 0] 53)).drewN nq)) := fun nq => below_draws1 _ _ _
  have hbz := h.2.1
  have HC : Hid (∀ y, Below w.heap.size w y → y.cell? ⟨b, 0, none⟩ = some (.string (strOfNums loadW)) ∧ y.cell? ⟨b, 1, none⟩ = some (.string (strOfNums p1)) ∧ y.cell? ⟨b, 2, none⟩ = some (.string (strOfNums p2)) ∧ y.cell? ⟨b, 3, none⟩ = some (.string (strOfNums p3))) := fun y hy => ⟨(h.below hy).2.2 0 (by omega), (h.below hy).2.2 1 (by omega), (h.below hy).2.2 2 (by omega), (h.below hy).2.2 3 (by omega)⟩
  have HV := hide hv
  have HM := hide (fun W hW (hS : StrsA W b 1 3 [p1, p2, p3]) => memoryOf_any 3 [p1, p2, p3] b 1 (cap - 1) W hW hS (fun i => by have := hw (i + 1); exact this) (by omega) (by omega))
  unfold MemPost at HM
  have ec : ((strOfNums loadW).toList == [99, 111, 110, 115, 116]) = false := (word_beq (l := loadW) (by decide) (m := constW) (by decide) (b := [99, 111, 110, 115, 116]) rfl).trans (by decide)
  have et : ((strOfNums loadW).toList == [116, 117, 114, 110]) = false := (word_beq (l := loadW) (by decide) (m := turnW) (by decide) (b := [116, 117, 114, 110]) rfl).trans (by decide)
  have el : ((strOfNums loadW).toList == [108, 111, 97, 100]) = true := (word_beq (l := loadW) (by decide) (m := loadW) (by decide) (b := [108, 111, 97, 100]) rfl).trans (by decide)
  have es : ((strOfNums loadW).toList == [115, 116, 111, 114, 101]) = false := (word_beq (l := loadW) (by decide) (m := storeW) (by decide) (b := [115, 116, 111, 114, 101]) rfl).trans (by decide)
  obtain ⟨c0, -⟩ := HC.out _ HW1.out
  generalize strOfNums loadW = P0 at *
  have HS3 : Hid (∀ y, Below w.heap.size w y → StrsA y b 1 3 [p1, p2, p3]) := fun y hy => by
    obtain ⟨-, d1, d2, d3⟩ := HC.out y hy
    exact ⟨rfl, Nat.lt_of_lt_of_le hbz hy.size, fun i hi => match i, hi with | 0, _ => d1 | 1, _ => d2 | 2, _ => d3⟩
  clear h hw hv HC
  go_enter Tryd.func57, Tryd.ntmps57
  go_wp2_with fail
  go_big_quiet (fail)
  go_wp2_with fail
  refine (HM.out _ (HV.out.on (HRB.out _ (HU.out nq)).2.2) (HS3.out _ (HRB.out _ (HU.out nq)).2.2)).mono ?_
  rintro e y0 ⟨x, y, z, ok, rfl, hb0, h1, h2, h3, hy⟩
  have HY0 : Hid (Below (w.heap.size + 1) (w.alloc (.cells #[.int .i64 0, .int .i64 0, .int .i64 0, .int .i64 0, .int .i64 0, .int .i64 0, .int .i64 0, .int .i64 0, .int .i64 0] 53)) y0) := (HU.out nq).trans (hy.mono (HRB.out _ (HU.out nq)).2.1)
  obtain ⟨bb, hwz, hbw⟩ := HRB.out _ HY0.out
  have HBW := hide hbw
  have HB0 := hide hb0
  have HN1 := hide h1
  have HN2 := hide h2
  have HN3 := hide h3
  clear hy hbw hb0 h1 h2 h3 c0
  have k0 : y0.cell? ⟨w.heap.size, 0, none⟩ = some (.int .i64 0) := by rw [cell_of_block bb]; rfl
  have f0 : y0.frozen? ⟨w.heap.size, 0, none⟩ = false := by simp [World.frozen?, bb]
  have k1 : y0.cell? ⟨w.heap.size, 1, none⟩ = some (.int .i64 0) := by rw [cell_of_block bb]; rfl
  have f1 : y0.frozen? ⟨w.heap.size, 1, none⟩ = false := by simp [World.frozen?, bb]
  have k2 : y0.cell? ⟨w.heap.size, 2, none⟩ = some (.int .i64 0) := by rw [cell_of_block bb]; rfl
  have f2 : y0.frozen? ⟨w.heap.size, 2, none⟩ = false := by simp [World.frozen?, bb]
  have k3 : y0.cell? ⟨w.heap.size, 3, none⟩ = some (.int .i64 0) := by rw [cell_of_block bb]; rfl
  have f3 : y0.frozen? ⟨w.heap.size, 3, none⟩ = false := by simp [World.frozen?, bb]
  have k4 : y0.cell? ⟨w.heap.size, 4, none⟩ = some (.int .i64 0) := by rw [cell_of_block bb]; rfl
  have f4 : y0.frozen? ⟨w.heap.size, 4, none⟩ = false := by simp [World.frozen?, bb]
  have k5 : y0.cell? ⟨w.heap.size, 5, none⟩ = some (.int .i64 0) := by rw [cell_of_block bb]; rfl
  have f5 : y0.frozen? ⟨w.heap.size, 5, none⟩ = false := by simp [World.frozen?, bb]
  have k6 : y0.cell? ⟨w.heap.size, 6, none⟩ = some (.int .i64 0) := by rw [cell_of_block bb]; rfl
  have f6 : y0.frozen? ⟨w.heap.size, 6, none⟩ = false := by simp [World.frozen?, bb]
  have k7 : y0.cell? ⟨w.heap.size, 7, none⟩ = some (.int .i64 0) := by rw [cell_of_block bb]; rfl
  have f7 : y0.frozen? ⟨w.heap.size, 7, none⟩ = false := by simp [World.frozen?, bb]
  have k8 : y0.cell? ⟨w.heap.size, 8, none⟩ = some (.int .i64 0) := by rw [cell_of_block bb]; rfl
  have f8 : y0.frozen? ⟨w.heap.size, 8, none⟩ = false := by simp [World.frozen?, bb]
  have HTW := hide (nine_set (b0 := .int .i64 3) (b1 := .int .i64 0) (b2 := .int .i64 0) (b3 := .int .i64 0) (b4 := .int .i64 0) (b5 := .int .i64 x) (b6 := .int .i64 y) (b7 := .int .i64 z) (b8 := .int .i64 0) bb)
  have S0 : Hid ((((((((((y0.setCell ⟨w.heap.size, 0, none⟩ (.int .i64 3)).setCell ⟨w.heap.size, 1, none⟩ (.int .i64 0)).setCell ⟨w.heap.size, 2, none⟩ (.int .i64 0)).setCell ⟨w.heap.size, 3, none⟩ (.int .i64 0)).setCell ⟨w.heap.size, 4, none⟩ (.int .i64 0)).setCell ⟨w.heap.size, 5, none⟩ (.int .i64 x)).setCell ⟨w.heap.size, 6, none⟩ (.int .i64 y)).setCell ⟨w.heap.size, 7, none⟩ (.int .i64 z)).setCell ⟨w.heap.size, 8, none⟩ (.int .i64 0)).cell? ⟨w.heap.size, 0, none⟩ = some (.int .i64 3)) := by show _ = _; rw [cell_of_block HTW.out]; rfl
  have S1 : Hid ((((((((((y0.setCell ⟨w.heap.size, 0, none⟩ (.int .i64 3)).setCell ⟨w.heap.size, 1, none⟩ (.int .i64 0)).setCell ⟨w.heap.size, 2, none⟩ (.int .i64 0)).setCell ⟨w.heap.size, 3, none⟩ (.int .i64 0)).setCell ⟨w.heap.size, 4, none⟩ (.int .i64 0)).setCell ⟨w.heap.size, 5, none⟩ (.int .i64 x)).setCell ⟨w.heap.size, 6, none⟩ (.int .i64 y)).setCell ⟨w.heap.size, 7, none⟩ (.int .i64 z)).setCell ⟨w.heap.size, 8, none⟩ (.int .i64 0)).cell? ⟨w.heap.size, 1, none⟩ = some (.int .i64 0)) := by show _ = _; rw [cell_of_block HTW.out]; rfl
  have S2 : Hid ((((((((((y0.setCell ⟨w.heap.size, 0, none⟩ (.int .i64 3)).setCell ⟨w.heap.size, 1, none⟩ (.int .i64 0)).setCell ⟨w.heap.size, 2, none⟩ (.int .i64 0)).setCell ⟨w.heap.size, 3, none⟩ (.int .i64 0)).setCell ⟨w.heap.size, 4, none⟩ (.int .i64 0)).setCell ⟨w.heap.size, 5, none⟩ (.int .i64 x)).setCell ⟨w.heap.size, 6, none⟩ (.int .i64 y)).setCell ⟨w.heap.size, 7, none⟩ (.int .i64 z)).setCell ⟨w.heap.size, 8, none⟩ (.int .i64 0)).cell? ⟨w.heap.size, 2, none⟩ = some (.int .i64 0)) := by show _ = _; rw [cell_of_block HTW.out]; rfl
  have S3 : Hid ((((((((((y0.setCell ⟨w.heap.size, 0, none⟩ (.int .i64 3)).setCell ⟨w.heap.size, 1, none⟩ (.int .i64 0)).setCell ⟨w.heap.size, 2, none⟩ (.int .i64 0)).setCell ⟨w.heap.size, 3, none⟩ (.int .i64 0)).setCell ⟨w.heap.size, 4, none⟩ (.int .i64 0)).setCell ⟨w.heap.size, 5, none⟩ (.int .i64 x)).setCell ⟨w.heap.size, 6, none⟩ (.int .i64 y)).setCell ⟨w.heap.size, 7, none⟩ (.int .i64 z)).setCell ⟨w.heap.size, 8, none⟩ (.int .i64 0)).cell? ⟨w.heap.size, 3, none⟩ = some (.int .i64 0)) := by show _ = _; rw [cell_of_block HTW.out]; rfl
  have S4 : Hid ((((((((((y0.setCell ⟨w.heap.size, 0, none⟩ (.int .i64 3)).setCell ⟨w.heap.size, 1, none⟩ (.int .i64 0)).setCell ⟨w.heap.size, 2, none⟩ (.int .i64 0)).setCell ⟨w.heap.size, 3, none⟩ (.int .i64 0)).setCell ⟨w.heap.size, 4, none⟩ (.int .i64 0)).setCell ⟨w.heap.size, 5, none⟩ (.int .i64 x)).setCell ⟨w.heap.size, 6, none⟩ (.int .i64 y)).setCell ⟨w.heap.size, 7, none⟩ (.int .i64 z)).setCell ⟨w.heap.size, 8, none⟩ (.int .i64 0)).cell? ⟨w.heap.size, 4, none⟩ = some (.int .i64 0)) := by show _ = _; rw [cell_of_block HTW.out]; rfl
  have S5 : Hid ((((((((((y0.setCell ⟨w.heap.size, 0, none⟩ (.int .i64 3)).setCell ⟨w.heap.size, 1, none⟩ (.int .i64 0)).setCell ⟨w.heap.size, 2, none⟩ (.int .i64 0)).setCell ⟨w.heap.size, 3, none⟩ (.int .i64 0)).setCell ⟨w.heap.size, 4, none⟩ (.int .i64 0)).setCell ⟨w.heap.size, 5, none⟩ (.int .i64 x)).setCell ⟨w.heap.size, 6, none⟩ (.int .i64 y)).setCell ⟨w.heap.size, 7, none⟩ (.int .i64 z)).setCell ⟨w.heap.size, 8, none⟩ (.int .i64 0)).cell? ⟨w.heap.size, 5, none⟩ = some (.int .i64 x)) := by show _ = _; rw [cell_of_block HTW.out]; rfl
  have S6 : Hid ((((((((((y0.setCell ⟨w.heap.size, 0, none⟩ (.int .i64 3)).setCell ⟨w.heap.size, 1, none⟩ (.int .i64 0)).setCell ⟨w.heap.size, 2, none⟩ (.int .i64 0)).setCell ⟨w.heap.size, 3, none⟩ (.int .i64 0)).setCell ⟨w.heap.size, 4, none⟩ (.int .i64 0)).setCell ⟨w.heap.size, 5, none⟩ (.int .i64 x)).setCell ⟨w.heap.size, 6, none⟩ (.int .i64 y)).setCell ⟨w.heap.size, 7, none⟩ (.int .i64 z)).setCell ⟨w.heap.size, 8, none⟩ (.int .i64 0)).cell? ⟨w.heap.size, 6, none⟩ = some (.int .i64 y)) := by show _ = _; rw [cell_of_block HTW.out]; rfl
  have S7 : Hid ((((((((((y0.setCell ⟨w.heap.size, 0, none⟩ (.int .i64 3)).setCell ⟨w.heap.size, 1, none⟩ (.int .i64 0)).setCell ⟨w.heap.size, 2, none⟩ (.int .i64 0)).setCell ⟨w.heap.size, 3, none⟩ (.int .i64 0)).setCell ⟨w.heap.size, 4, none⟩ (.int .i64 0)).setCell ⟨w.heap.size, 5, none⟩ (.int .i64 x)).setCell ⟨w.heap.size, 6, none⟩ (.int .i64 y)).setCell ⟨w.heap.size, 7, none⟩ (.int .i64 z)).setCell ⟨w.heap.size, 8, none⟩ (.int .i64 0)).cell? ⟨w.heap.size, 7, none⟩ = some (.int .i64 z)) := by show _ = _; rw [cell_of_block HTW.out]; rfl
  have S8 : Hid ((((((((((y0.setCell ⟨w.heap.size, 0, none⟩ (.int .i64 3)).setCell ⟨w.heap.size, 1, none⟩ (.int .i64 0)).setCell ⟨w.heap.size, 2, none⟩ (.int .i64 0)).setCell ⟨w.heap.size, 3, none⟩ (.int .i64 0)).setCell ⟨w.heap.size, 4, none⟩ (.int .i64 0)).setCell ⟨w.heap.size, 5, none⟩ (.int .i64 x)).setCell ⟨w.heap.size, 6, none⟩ (.int .i64 y)).setCell ⟨w.heap.size, 7, none⟩ (.int .i64 z)).setCell ⟨w.heap.size, 8, none⟩ (.int .i64 0)).cell? ⟨w.heap.size, 8, none⟩ = some (.int .i64 0)) := by show _ = _; rw [cell_of_block HTW.out]; rfl
  have HPP : Hid (StmtPost [loadW, p1, p2, p3] w (.returned (.tuple #[.agg #[.int .i64 3, .int .i64 0, .int .i64 0, .int .i64 0, .int .i64 0, .int .i64 x, .int .i64 y, .int .i64 z, .int .i64 0], .bool ok])) (((((((((y0.setCell ⟨w.heap.size, 0, none⟩ (.int .i64 3)).setCell ⟨w.heap.size, 1, none⟩ (.int .i64 0)).setCell ⟨w.heap.size, 2, none⟩ (.int .i64 0)).setCell ⟨w.heap.size, 3, none⟩ (.int .i64 0)).setCell ⟨w.heap.size, 4, none⟩ (.int .i64 0)).setCell ⟨w.heap.size, 5, none⟩ (.int .i64 x)).setCell ⟨w.heap.size, 6, none⟩ (.int .i64 y)).setCell ⟨w.heap.size, 7, none⟩ (.int .i64 z)).setCell ⟨w.heap.size, 8, none⟩ (.int .i64 0))) := stp_load HB0.out HN1.out HN2.out HN3.out (((((((((HBW.out.setCell (Nat.le_refl _) _).setCell (Nat.le_refl _) _).setCell (Nat.le_refl _) _).setCell (Nat.le_refl _) _).setCell (Nat.le_refl _) _).setCell (Nat.le_refl _) _).setCell (Nat.le_refl _) _).setCell (Nat.le_refl _) _).setCell (Nat.le_refl _) _)
  clear bb
  go_wp2_with fail
  have s0 := S0.out
  have s1 := S1.out
  have s2 := S2.out
  have s3 := S3.out
  have s4 := S4.out
  have s5 := S5.out
  have s6 := S6.out
  have s7 := S7.out
  have s8 := S8.out
  exact bodyPost_ret (v := .tuple #[.agg #[.int .i64 3, .int .i64 0, .int .i64 0, .int .i64 0, .int .i64 0, .int .i64 x, .int .i64 y, .int .i64 z, .int .i64 0], .bool ok]) (by simp [results, Tryd.results57, go_sem, s0, s1, s2, s3, s4, s5, s6, s7, s8]) rfl HPP.out
theorem stp_op {p a b : List Int} {o x1 y1 x2 y2 : Int} {k0 k1 k2 ok : Bool} {w w' : World} (hok : ok = (k0 && k1 && k2)) (h0 : k0 = (opF p).isSome) (e0 : ∀ m, opF p = some m → o = m) (h1 : k1 = (refO a).isSome) (e1 : ∀ r, refO a = some r → x1 = r.1 ∧ y1 = r.2) (h2 : k2 = (refO b).isSome) (e2 : ∀ r, refO b = some r → x2 = r.1 ∧ y2 = r.2) (hbel : Below w.heap.size w w') : StmtPost [p, a, b] w (.returned (.tuple #[.agg (stCells ⟨o, x1, y1, x2, y2, 0, 0, 0, 0⟩), .bool ok])) w' := by
  have e : stO [p, a, b] = match opF p with
    | some o => match refO a, refO b with
      | some x, some y => some ⟨o, x.1, x.2, y.1, y.2, 0, 0, 0, 0⟩
      | _, _ => none
    | none => none := rfl
  refine ⟨_, ok, rfl, ?_, fun r hr => ?_, hbel⟩
  · rw [e, hok, h0, h1, h2]; cases opF p <;> cases refO a <;> cases refO b <;> rfl
  · rw [e] at hr
    cases hp : opF p <;> cases ha : refO a <;> cases hb : refO b <;> rw [hp, ha, hb] at hr <;> first | (cases hr; rw [e0 _ hp, (e1 _ ha).1, (e1 _ ha).2, (e2 _ hb).1, (e2 _ hb).2]) | cases hr
set_option maxHeartbeats 16000000 in
theorem stmtOf_op (p0 p1 p2 : List Int) (b cap : Nat) (w : World) (hv : VarsT w) (h : StrsA w b 0 3 [p0, p1, p2]) (hw : WordsOk [p0, p1, p2]) (hcap : 3 ≤ cap) (hcm : cap ≤ 9223372036854775807) :
    Calls Tryd.prog 57 #[.slice (some ⟨b, 0, none⟩) 3 cap] w (StmtPost [p0, p1, p2] w) := by
  have HW1 : Hid (Below w.heap.size w (w.alloc (.cells #[.int .i64 0, .int .i64 0, .int .i64 0, .int .i64 0, .int .i64 0, .int .i64 0, .int .i64 0, .int .i64 0, .int .i64 0] 53))) := below_alloc1 _ _
  have HZ1 : Hid ((w.alloc (.cells #[.int .i64 0, .int .i64 0, .int .i64 0, .int .i64 0, .int .i64 0, .int .i64 0, .int .i64 0, .int .i64 0, .int .i64 0] 53)).heap.size = w.heap.size + 1) := by show _ = _; simp
  have HRB : Hid (∀ y, Below (w.heap.size + 1) (w.alloc (.cells #[.int .i64 0, .int .i64 0, .int .i64 0, .int .i64 0, .int .i64 0, .int .i64 0, .int .i64 0, .int .i64 0, .int .i64 0] 53)) y → y.heap[w.heap.size]? = some (.cells #[.int .i64 0, .int .i64 0, .int .i64 0, .int .i64 0, .int .i64 0, .int .i64 0, .int .i64 0, .int .i64 0, .int .i64 0] 53 (0, 0)) ∧ w.heap.size + 1 ≤ y.heap.size ∧ Below w.heap.size w y) := fun y hy => ⟨(hy.block _ (by omega)).trans (new_blkS _ _ _), by have := hy.size; rw [HZ1.out] at this; exact this, HW1.out.trans (hy.mono (by omega))⟩
  have HU : Hid (∀ nq, Below (w.heap.size + 1) (w.alloc (.cells #[.int .i64 0, .int .i64 0, .int .i64 0, .int .i64 0, .int .i64 0, .int .i64 0, .int .i64 0, .int .i64 0, .int .i64 0] 53)) ((w.alloc (.cells #[.int .i64 0, .int .i64 0, .int .i64 0, .int .i64 0, .int .i64 0, .int .i64 0, .int .i64 0, .int .i64 0, .int .i64 0] 53)).drewN nq)) := fun nq => below_draws1 _ _ _
  have hbz := h.2.1
  have HC : Hid (∀ y, Below w.heap.size w y → y.cell? ⟨b, 0, none⟩ = some (.string (strOfNums p0)) ∧ y.cell? ⟨b, 1, none⟩ = some (.string (strOfNums p1)) ∧ y.cell? ⟨b, 2, none⟩ = some (.string (strOfNums p2))) := fun y hy => ⟨(h.below hy).2.2 0 (by omega), (h.below hy).2.2 1 (by omega), (h.below hy).2.2 2 (by omega)⟩
  have HV := hide hv
  have HOP := hide (fun W hW => opOf_any p0 W hW (hw 0).1)
  have HR1 := hide (fun W hW => refOf_any p1 W hW (hw 1).1 (hw 1).2)
  have HR2 := hide (fun W hW => refOf_any p2 W hW (hw 2).1 (hw 2).2)
  obtain ⟨bc, bt, bl, bs, ec, et, el, es, hcl⟩ := word_class (hw 0).1
  change ((strOfNums p0).toList == [99, 111, 110, 115, 116]) = bc at ec
  change ((strOfNums p0).toList == [116, 117, 114, 110]) = bt at et
  change ((strOfNums p0).toList == [108, 111, 97, 100]) = bl at el
  change ((strOfNums p0).toList == [115, 116, 111, 114, 101]) = bs at es
  have hcl2 : (bc = true ∧ bt = false ∧ bl = false ∧ bs = false) ∨ (bc = false ∧ bt = true ∧ bl = false ∧ bs = false) ∨ (bc = false ∧ bt = false ∧ bl = true ∧ bs = false) ∨ (bc = false ∧ bt = false ∧ bl = false ∧ bs = true) ∨ (bc = false ∧ bt = false ∧ bl = false ∧ bs = false) := hcl.imp (fun h => h.2) (fun h => h.imp (fun h => h.2) (fun h => h.imp (fun h => h.2) (fun h => h.imp (fun h => h.2) (fun h => h.2.2.2.2))))
  have HC0 := hide HC.out
  unfold OpPost at HOP
  unfold RefPost at HR1 HR2
  obtain ⟨c0, -, -⟩ := HC.out _ HW1.out
  generalize strOfNums p0 = P0 at *
  clear h hw hv HC hcl
  rcases hcl2 with ⟨rfl, rfl, rfl, rfl⟩ | ⟨rfl, rfl, rfl, rfl⟩ | ⟨rfl, rfl, rfl, rfl⟩ | ⟨rfl, rfl, rfl, rfl⟩ | ⟨rfl, rfl, rfl, rfl⟩
  all_goals (
    go_enter Tryd.func57, Tryd.ntmps57
    go_wp2_with fail
    go_big_quiet (fail)
    go_wp2_with fail
    refine (HOP.out _ (HV.out.on (HRB.out _ (HU.out nq)).2.2)).mono ?_
    rintro e x ⟨o, q0, rfl, hk0, ho, rfl⟩
    have HK0 := hide hk0
    have HO := hide ho
    obtain ⟨-, c1, -⟩ := HC0.out _ (HRB.out _ (HU.out nq)).2.2
    clear hk0 ho c0
    go_wp2_with fail
    refine (HR1.out _ (HV.out.on (HRB.out _ (HU.out nq)).2.2)).mono ?_
    rintro e y1 ⟨x1, z1, q1, rfl, hk1, hr1, hy⟩
    have HY1 : Hid (Below (w.heap.size + 1) (w.alloc (.cells #[.int .i64 0, .int .i64 0, .int .i64 0, .int .i64 0, .int .i64 0, .int .i64 0, .int .i64 0, .int .i64 0, .int .i64 0] 53)) y1) := (HU.out nq).trans (hy.mono (HRB.out _ (HU.out nq)).2.1)
    have HK1 := hide hk1
    have HE1 := hide hr1
    have HA1 : Hid (Below (w.heap.size + 1) (w.alloc (.cells #[.int .i64 0, .int .i64 0, .int .i64 0, .int .i64 0, .int .i64 0, .int .i64 0, .int .i64 0, .int .i64 0, .int .i64 0] 53)) (y1.alloc (.cells #[.int .i64 x1, .int .i64 z1] 51))) := HY1.out.alloc (HRB.out _ HY1.out).2.1 _
    obtain ⟨-, -, c2⟩ := HC0.out _ (HRB.out _ HA1.out).2.2
    have hyz1 := (HRB.out _ HY1.out).2.1
    clear hk1 hr1 hy c1
    go_wp2_with fail
    refine (HR2.out _ (HV.out.on (HRB.out _ HA1.out).2.2)).mono ?_
    rintro e y2 ⟨x2, z2, q2, rfl, hk2, hr2, hy⟩
    have HY2 : Hid (Below (w.heap.size + 1) (w.alloc (.cells #[.int .i64 0, .int .i64 0, .int .i64 0, .int .i64 0, .int .i64 0, .int .i64 0, .int .i64 0, .int .i64 0, .int .i64 0] 53)) y2) := HA1.out.trans (hy.mono (HRB.out _ HA1.out).2.1)
    have HK2 := hide hk2
    have HE2 := hide hr2
    have hb1 := (hy.block y1.heap.size (by simp)).trans (new_blkS y1 _ _)
    have d0 : y2.cell? ⟨y1.heap.size, 0, none⟩ = some (.int .i64 x1) := by rw [cell_of_block hb1]; rfl
    have d1 : y2.cell? ⟨y1.heap.size, 1, none⟩ = some (.int .i64 z1) := by rw [cell_of_block hb1]; rfl
    have hyy : y1.heap.size < y2.heap.size := (Array.getElem?_eq_some_iff.1 hb1).1
    obtain ⟨bb, hwz, hbw⟩ := HRB.out _ HY2.out
    have HBW := hide hbw
    have hne1 : ¬ w.heap.size = y1.heap.size := by omega
    have hne2 : ¬ y1.heap.size = w.heap.size := by omega
    clear hk2 hr2 hy c2 hb1 hbw
    go_upto_region 18 with fail
    have hw2 : w.heap.size < y2.heap.size := by omega
    have k0 : y2.cell? ⟨w.heap.size, 0, none⟩ = some (.int .i64 0) := by rw [cell_of_block bb]; rfl
    have f0 : y2.frozen? ⟨w.heap.size, 0, none⟩ = false := by simp [World.frozen?, bb]
    have k1 : y2.cell? ⟨w.heap.size, 1, none⟩ = some (.int .i64 0) := by rw [cell_of_block bb]; rfl
    have f1 : y2.frozen? ⟨w.heap.size, 1, none⟩ = false := by simp [World.frozen?, bb]
    have k2 : y2.cell? ⟨w.heap.size, 2, none⟩ = some (.int .i64 0) := by rw [cell_of_block bb]; rfl
    have f2 : y2.frozen? ⟨w.heap.size, 2, none⟩ = false := by simp [World.frozen?, bb]
    have k3 : y2.cell? ⟨w.heap.size, 3, none⟩ = some (.int .i64 0) := by rw [cell_of_block bb]; rfl
    have f3 : y2.frozen? ⟨w.heap.size, 3, none⟩ = false := by simp [World.frozen?, bb]
    have k4 : y2.cell? ⟨w.heap.size, 4, none⟩ = some (.int .i64 0) := by rw [cell_of_block bb]; rfl
    have f4 : y2.frozen? ⟨w.heap.size, 4, none⟩ = false := by simp [World.frozen?, bb]
    have k5 : y2.cell? ⟨w.heap.size, 5, none⟩ = some (.int .i64 0) := by rw [cell_of_block bb]; rfl
    have f5 : y2.frozen? ⟨w.heap.size, 5, none⟩ = false := by simp [World.frozen?, bb]
    have k6 : y2.cell? ⟨w.heap.size, 6, none⟩ = some (.int .i64 0) := by rw [cell_of_block bb]; rfl
    have f6 : y2.frozen? ⟨w.heap.size, 6, none⟩ = false := by simp [World.frozen?, bb]
    have k7 : y2.cell? ⟨w.heap.size, 7, none⟩ = some (.int .i64 0) := by rw [cell_of_block bb]; rfl
    have f7 : y2.frozen? ⟨w.heap.size, 7, none⟩ = false := by simp [World.frozen?, bb]
    have k8 : y2.cell? ⟨w.heap.size, 8, none⟩ = some (.int .i64 0) := by rw [cell_of_block bb]; rfl
    have f8 : y2.frozen? ⟨w.heap.size, 8, none⟩ = false := by simp [World.frozen?, bb]
    have HTW := hide (nine_set (b0 := .int .i64 o) (b1 := .int .i64 x1) (b2 := .int .i64 z1) (b3 := .int .i64 x2) (b4 := .int .i64 z2) (b5 := .int .i64 0) (b6 := .int .i64 0) (b7 := .int .i64 0) (b8 := .int .i64 0) bb)
    have HLT : Hid (w.heap.size < (((((((((y2.setCell ⟨w.heap.size, 0, none⟩ (.int .i64 o)).setCell ⟨w.heap.size, 1, none⟩ (.int .i64 x1)).setCell ⟨w.heap.size, 2, none⟩ (.int .i64 z1)).setCell ⟨w.heap.size, 3, none⟩ (.int .i64 x2)).setCell ⟨w.heap.size, 4, none⟩ (.int .i64 z2)).setCell ⟨w.heap.size, 5, none⟩ (.int .i64 0)).setCell ⟨w.heap.size, 6, none⟩ (.int .i64 0)).setCell ⟨w.heap.size, 7, none⟩ (.int .i64 0)).setCell ⟨w.heap.size, 8, none⟩ (.int .i64 0)).heap.size) := (Array.getElem?_eq_some_iff.1 HTW.out).1
    have S0 : Hid (((((((((((y2.setCell ⟨w.heap.size, 0, none⟩ (.int .i64 o)).setCell ⟨w.heap.size, 1, none⟩ (.int .i64 x1)).setCell ⟨w.heap.size, 2, none⟩ (.int .i64 z1)).setCell ⟨w.heap.size, 3, none⟩ (.int .i64 x2)).setCell ⟨w.heap.size, 4, none⟩ (.int .i64 z2)).setCell ⟨w.heap.size, 5, none⟩ (.int .i64 0)).setCell ⟨w.heap.size, 6, none⟩ (.int .i64 0)).setCell ⟨w.heap.size, 7, none⟩ (.int .i64 0)).setCell ⟨w.heap.size, 8, none⟩ (.int .i64 0)).alloc (.cells #[.int .i64 x2, .int .i64 z2] 51)).cell? ⟨w.heap.size, 0, none⟩ = some (.int .i64 o)) := by show _ = _; rw [bcell (below_alloc1 _ _) _ _ HLT.out, cell_of_block HTW.out]; rfl
    have S1 : Hid (((((((((((y2.setCell ⟨w.heap.size, 0, none⟩ (.int .i64 o)).setCell ⟨w.heap.size, 1, none⟩ (.int .i64 x1)).setCell ⟨w.heap.size, 2, none⟩ (.int .i64 z1)).setCell ⟨w.heap.size, 3, none⟩ (.int .i64 x2)).setCell ⟨w.heap.size, 4, none⟩ (.int .i64 z2)).setCell ⟨w.heap.size, 5, none⟩ (.int .i64 0)).setCell ⟨w.heap.size, 6, none⟩ (.int .i64 0)).setCell ⟨w.heap.size, 7, none⟩ (.int .i64 0)).setCell ⟨w.heap.size, 8, none⟩ (.int .i64 0)).alloc (.cells #[.int .i64 x2, .int .i64 z2] 51)).cell? ⟨w.heap.size, 1, none⟩ = some (.int .i64 x1)) := by show _ = _; rw [bcell (below_alloc1 _ _) _ _ HLT.out, cell_of_block HTW.out]; rfl
    have S2 : Hid (((((((((((y2.setCell ⟨w.heap.size, 0, none⟩ (.int .i64 o)).setCell ⟨w.heap.size, 1, none⟩ (.int .i64 x1)).setCell ⟨w.heap.size, 2, none⟩ (.int .i64 z1)).setCell ⟨w.heap.size, 3, none⟩ (.int .i64 x2)).setCell ⟨w.heap.size, 4, none⟩ (.int .i64 z2)).setCell ⟨w.heap.size, 5, none⟩ (.int .i64 0)).setCell ⟨w.heap.size, 6, none⟩ (.int .i64 0)).setCell ⟨w.heap.size, 7, none⟩ (.int .i64 0)).setCell ⟨w.heap.size, 8, none⟩ (.int .i64 0)).alloc (.cells #[.int .i64 x2, .int .i64 z2] 51)).cell? ⟨w.heap.size, 2, none⟩ = some (.int .i64 z1)) := by show _ = _; rw [bcell (below_alloc1 _ _) _ _ HLT.out, cell_of_block HTW.out]; rfl
    have S3 : Hid (((((((((((y2.setCell ⟨w.heap.size, 0, none⟩ (.int .i64 o)).setCell ⟨w.heap.size, 1, none⟩ (.int .i64 x1)).setCell ⟨w.heap.size, 2, none⟩ (.int .i64 z1)).setCell ⟨w.heap.size, 3, none⟩ (.int .i64 x2)).setCell ⟨w.heap.size, 4, none⟩ (.int .i64 z2)).setCell ⟨w.heap.size, 5, none⟩ (.int .i64 0)).setCell ⟨w.heap.size, 6, none⟩ (.int .i64 0)).setCell ⟨w.heap.size, 7, none⟩ (.int .i64 0)).setCell ⟨w.heap.size, 8, none⟩ (.int .i64 0)).alloc (.cells #[.int .i64 x2, .int .i64 z2] 51)).cell? ⟨w.heap.size, 3, none⟩ = some (.int .i64 x2)) := by show _ = _; rw [bcell (below_alloc1 _ _) _ _ HLT.out, cell_of_block HTW.out]; rfl
    have S4 : Hid (((((((((((y2.setCell ⟨w.heap.size, 0, none⟩ (.int .i64 o)).setCell ⟨w.heap.size, 1, none⟩ (.int .i64 x1)).setCell ⟨w.heap.size, 2, none⟩ (.int .i64 z1)).setCell ⟨w.heap.size, 3, none⟩ (.int .i64 x2)).setCell ⟨w.heap.size, 4, none⟩ (.int .i64 z2)).setCell ⟨w.heap.size, 5, none⟩ (.int .i64 0)).setCell ⟨w.heap.size, 6, none⟩ (.int .i64 0)).setCell ⟨w.heap.size, 7, none⟩ (.int .i64 0)).setCell ⟨w.heap.size, 8, none⟩ (.int .i64 0)).alloc (.cells #[.int .i64 x2, .int .i64 z2] 51)).cell? ⟨w.heap.size, 4, none⟩ = some (.int .i64 z2)) := by show _ = _; rw [bcell (below_alloc1 _ _) _ _ HLT.out, cell_of_block HTW.out]; rfl
    have S5 : Hid (((((((((((y2.setCell ⟨w.heap.size, 0, none⟩ (.int .i64 o)).setCell ⟨w.heap.size, 1, none⟩ (.int .i64 x1)).setCell ⟨w.heap.size, 2, none⟩ (.int .i64 z1)).setCell ⟨w.heap.size, 3, none⟩ (.int .i64 x2)).setCell ⟨w.heap.size, 4, none⟩ (.int .i64 z2)).setCell ⟨w.heap.size, 5, none⟩ (.int .i64 0)).setCell ⟨w.heap.size, 6, none⟩ (.int .i64 0)).setCell ⟨w.heap.size, 7, none⟩ (.int .i64 0)).setCell ⟨w.heap.size, 8, none⟩ (.int .i64 0)).alloc (.cells #[.int .i64 x2, .int .i64 z2] 51)).cell? ⟨w.heap.size, 5, none⟩ = some (.int .i64 0)) := by show _ = _; rw [bcell (below_alloc1 _ _) _ _ HLT.out, cell_of_block HTW.out]; rfl
    have S6 : Hid (((((((((((y2.setCell ⟨w.heap.size, 0, none⟩ (.int .i64 o)).setCell ⟨w.heap.size, 1, none⟩ (.int .i64 x1)).setCell ⟨w.heap.size, 2, none⟩ (.int .i64 z1)).setCell ⟨w.heap.size, 3, none⟩ (.int .i64 x2)).setCell ⟨w.heap.size, 4, none⟩ (.int .i64 z2)).setCell ⟨w.heap.size, 5, none⟩ (.int .i64 0)).setCell ⟨w.heap.size, 6, none⟩ (.int .i64 0)).setCell ⟨w.heap.size, 7, none⟩ (.int .i64 0)).setCell ⟨w.heap.size, 8, none⟩ (.int .i64 0)).alloc (.cells #[.int .i64 x2, .int .i64 z2] 51)).cell? ⟨w.heap.size, 6, none⟩ = some (.int .i64 0)) := by show _ = _; rw [bcell (below_alloc1 _ _) _ _ HLT.out, cell_of_block HTW.out]; rfl
    have S7 : Hid (((((((((((y2.setCell ⟨w.heap.size, 0, none⟩ (.int .i64 o)).setCell ⟨w.heap.size, 1, none⟩ (.int .i64 x1)).setCell ⟨w.heap.size, 2, none⟩ (.int .i64 z1)).setCell ⟨w.heap.size, 3, none⟩ (.int .i64 x2)).setCell ⟨w.heap.size, 4, none⟩ (.int .i64 z2)).setCell ⟨w.heap.size, 5, none⟩ (.int .i64 0)).setCell ⟨w.heap.size, 6, none⟩ (.int .i64 0)).setCell ⟨w.heap.size, 7, none⟩ (.int .i64 0)).setCell ⟨w.heap.size, 8, none⟩ (.int .i64 0)).alloc (.cells #[.int .i64 x2, .int .i64 z2] 51)).cell? ⟨w.heap.size, 7, none⟩ = some (.int .i64 0)) := by show _ = _; rw [bcell (below_alloc1 _ _) _ _ HLT.out, cell_of_block HTW.out]; rfl
    have S8 : Hid (((((((((((y2.setCell ⟨w.heap.size, 0, none⟩ (.int .i64 o)).setCell ⟨w.heap.size, 1, none⟩ (.int .i64 x1)).setCell ⟨w.heap.size, 2, none⟩ (.int .i64 z1)).setCell ⟨w.heap.size, 3, none⟩ (.int .i64 x2)).setCell ⟨w.heap.size, 4, none⟩ (.int .i64 z2)).setCell ⟨w.heap.size, 5, none⟩ (.int .i64 0)).setCell ⟨w.heap.size, 6, none⟩ (.int .i64 0)).setCell ⟨w.heap.size, 7, none⟩ (.int .i64 0)).setCell ⟨w.heap.size, 8, none⟩ (.int .i64 0)).alloc (.cells #[.int .i64 x2, .int .i64 z2] 51)).cell? ⟨w.heap.size, 8, none⟩ = some (.int .i64 0)) := by show _ = _; rw [bcell (below_alloc1 _ _) _ _ HLT.out, cell_of_block HTW.out]; rfl
    have HBF : Hid (Below w.heap.size w ((((((((((y2.setCell ⟨w.heap.size, 0, none⟩ (.int .i64 o)).setCell ⟨w.heap.size, 1, none⟩ (.int .i64 x1)).setCell ⟨w.heap.size, 2, none⟩ (.int .i64 z1)).setCell ⟨w.heap.size, 3, none⟩ (.int .i64 x2)).setCell ⟨w.heap.size, 4, none⟩ (.int .i64 z2)).setCell ⟨w.heap.size, 5, none⟩ (.int .i64 0)).setCell ⟨w.heap.size, 6, none⟩ (.int .i64 0)).setCell ⟨w.heap.size, 7, none⟩ (.int .i64 0)).setCell ⟨w.heap.size, 8, none⟩ (.int .i64 0)).alloc (.cells #[.int .i64 x2, .int .i64 z2] 51))) := Below.alloc (((((((((HBW.out.setCell (Nat.le_refl _) _).setCell (Nat.le_refl _) _).setCell (Nat.le_refl _) _).setCell (Nat.le_refl _) _).setCell (Nat.le_refl _) _).setCell (Nat.le_refl _) _).setCell (Nat.le_refl _) _).setCell (Nat.le_refl _) _).setCell (Nat.le_refl _) _) (by have := HLT.out; omega) _
    have HPO : Hid (∀ ok, ok = (q0 && q1 && q2) → StmtPost [p0, p1, p2] w (.returned (.tuple #[.agg #[.int .i64 o, .int .i64 x1, .int .i64 z1, .int .i64 x2, .int .i64 z2, .int .i64 0, .int .i64 0, .int .i64 0, .int .i64 0], .bool ok])) ((((((((((y2.setCell ⟨w.heap.size, 0, none⟩ (.int .i64 o)).setCell ⟨w.heap.size, 1, none⟩ (.int .i64 x1)).setCell ⟨w.heap.size, 2, none⟩ (.int .i64 z1)).setCell ⟨w.heap.size, 3, none⟩ (.int .i64 x2)).setCell ⟨w.heap.size, 4, none⟩ (.int .i64 z2)).setCell ⟨w.heap.size, 5, none⟩ (.int .i64 0)).setCell ⟨w.heap.size, 6, none⟩ (.int .i64 0)).setCell ⟨w.heap.size, 7, none⟩ (.int .i64 0)).setCell ⟨w.heap.size, 8, none⟩ (.int .i64 0)).alloc (.cells #[.int .i64 x2, .int .i64 z2] 51))) := fun ok hok => stp_op hok HK0.out HO.out HK1.out HE1.out HK2.out HE2.out HBF.out
    clear bb
    cases q0 with
    | false =>
      have HPP := hide (HPO.out false rfl)
      go_wp2_with fail
      have s0 := S0.out
      have s1 := S1.out
      have s2 := S2.out
      have s3 := S3.out
      have s4 := S4.out
      have s5 := S5.out
      have s6 := S6.out
      have s7 := S7.out
      have s8 := S8.out
      exact bodyPost_ret (v := .tuple #[.agg #[.int .i64 o, .int .i64 x1, .int .i64 z1, .int .i64 x2, .int .i64 z2, .int .i64 0, .int .i64 0, .int .i64 0, .int .i64 0], .bool false]) (by simp [results, Tryd.results57, go_sem, s0, s1, s2, s3, s4, s5, s6, s7, s8]) rfl HPP.out
    | true =>
      cases q1 with
      | false =>
        have HPP := hide (HPO.out false rfl)
        go_wp2_with fail
        have s0 := S0.out
        have s1 := S1.out
        have s2 := S2.out
        have s3 := S3.out
        have s4 := S4.out
        have s5 := S5.out
        have s6 := S6.out
        have s7 := S7.out
        have s8 := S8.out
        exact bodyPost_ret (v := .tuple #[.agg #[.int .i64 o, .int .i64 x1, .int .i64 z1, .int .i64 x2, .int .i64 z2, .int .i64 0, .int .i64 0, .int .i64 0, .int .i64 0], .bool false]) (by simp [results, Tryd.results57, go_sem, s0, s1, s2, s3, s4, s5, s6, s7, s8]) rfl HPP.out
      | true =>
        have HPP := hide (HPO.out q2 rfl)
        go_wp2_with fail
        have s0 := S0.out
        have s1 := S1.out
        have s2 := S2.out
        have s3 := S3.out
        have s4 := S4.out
        have s5 := S5.out
        have s6 := S6.out
        have s7 := S7.out
        have s8 := S8.out
        exact bodyPost_ret (v := .tuple #[.agg #[.int .i64 o, .int .i64 x1, .int .i64 z1, .int .i64 x2, .int .i64 z2, .int .i64 0, .int .i64 0, .int .i64 0, .int .i64 0], .bool q2]) (by simp [results, Tryd.results57, go_sem, s0, s1, s2, s3, s4, s5, s6, s7, s8]) rfl HPP.out)

theorem stp_store {a b c d : List Int} {x y z x1 z1 : Int} {k0 k1 ok : Bool} {w w' : World} (hok : ok = (k0 && k1)) (hb : k0 = ((numO a 18).isSome && (numO b 18).isSome && (numO c 18).isSome)) (h1 : ∀ m, numO a 18 = some m → x = m) (h2 : ∀ m, numO b 18 = some m → y = m) (h3 : ∀ m, numO c 18 = some m → z = m) (hk : k1 = (refO d).isSome) (e1 : ∀ r, refO d = some r → x1 = r.1 ∧ z1 = r.2) (hbel : Below w.heap.size w w') : StmtPost [storeW, a, b, c, d] w (.returned (.tuple #[.agg (stCells ⟨4, x1, z1, 0, 0, x, y, z, 0⟩), .bool ok])) w' := by
  have e : stO [storeW, a, b, c, d] = match numO a 18, numO b 18, numO c 18, refO d with
      | some x, some y, some z, some q => some ⟨4, q.1, q.2, 0, 0, x, y, z, 0⟩
      | _, _, _, _ => none := by show (if storeW = storeW then _ else none) = _; exact if_pos rfl
  refine ⟨_, ok, rfl, ?_, fun r hr => ?_, hbel⟩
  · rw [e, hok, hb, hk]; cases numO a 18 <;> cases numO b 18 <;> cases numO c 18 <;> cases refO d <;> rfl
  · rw [e] at hr
    cases ha : numO a 18 <;> cases hb : numO b 18 <;> cases hc : numO c 18 <;> cases hd : refO d <;> rw [ha, hb, hc, hd] at hr <;> first | (cases hr; rw [h1 _ ha, h2 _ hb, h3 _ hc, (e1 _ hd).1, (e1 _ hd).2]) | cases hr
set_option maxHeartbeats 16000000 in
theorem stmtOf_store (p1 p2 p3 p4 : List Int) (b cap : Nat) (w : World) (hv : VarsT w) (h : StrsA w b 0 5 [storeW, p1, p2, p3, p4]) (hw : WordsOk [storeW, p1, p2, p3, p4]) (hcap : 5 ≤ cap) (hcm : cap ≤ 9223372036854775807) :
    Calls Tryd.prog 57 #[.slice (some ⟨b, 0, none⟩) 5 cap] w (StmtPost [storeW, p1, p2, p3, p4] w) := by
  have HW1 : Hid (Below w.heap.size w (w.alloc (.cells #[.int .i64 0, .int .i64 0, .int .i64 0, .int .i64 0, .int .i64 0, .int .i64 0, .int .i64 0, .int .i64 0, .int .i64 0] 53))) := below_alloc1 _ _
  have HZ1 : Hid ((w.alloc (.cells #[.int .i64 0, .int .i64 0, .int .i64 0, .int .i64 0, .int .i64 0, .int .i64 0, .int .i64 0, .int .i64 0, .int .i64 0] 53)).heap.size = w.heap.size + 1) := by show _ = _; simp
  have HRB : Hid (∀ y, Below (w.heap.size + 1) (w.alloc (.cells #[.int .i64 0, .int .i64 0, .int .i64 0, .int .i64 0, .int .i64 0, .int .i64 0, .int .i64 0, .int .i64 0, .int .i64 0] 53)) y → y.heap[w.heap.size]? = some (.cells #[.int .i64 0, .int .i64 0, .int .i64 0, .int .i64 0, .int .i64 0, .int .i64 0, .int .i64 0, .int .i64 0, .int .i64 0] 53 (0, 0)) ∧ w.heap.size + 1 ≤ y.heap.size ∧ Below w.heap.size w y) := fun y hy => ⟨(hy.block _ (by omega)).trans (new_blkS _ _ _), by have := hy.size; rw [HZ1.out] at this; exact this, HW1.out.trans (hy.mono (by omega))⟩
  have HU : Hid (∀ nq, Below (w.heap.size + 1) (w.alloc (.cells #[.int .i64 0, .int .i64 0, .int .i64 0, .int .i64 0, .int .i64 0, .int .i64 0, .int .i64 0, .int .i64 0, .int .i64 0] 53)) ((w.alloc (.cells #[.int .i64 0, .int .i64 0, .int .i64 0, .int .i64 0, .int .i64 0, .int .i64 0, .int .i64 0, .int .i64 0, .int .i64 0] 53)).drewN nq)) := fun nq => below_draws1 _ _ _
  have hbz := h.2.1
  have HC : Hid (∀ y, Below w.heap.size w y → y.cell? ⟨b, 0, none⟩ = some (.string (strOfNums storeW)) ∧ y.cell? ⟨b, 1, none⟩ = some (.string (strOfNums p1)) ∧ y.cell? ⟨b, 2, none⟩ = some (.string (strOfNums p2)) ∧ y.cell? ⟨b, 3, none⟩ = some (.string (strOfNums p3)) ∧ y.cell? ⟨b, 4, none⟩ = some (.string (strOfNums p4))) := fun y hy => ⟨(h.below hy).2.2 0 (by omega), (h.below hy).2.2 1 (by omega), (h.below hy).2.2 2 (by omega), (h.below hy).2.2 3 (by omega), (h.below hy).2.2 4 (by omega)⟩
  have HV := hide hv
  have HM := hide (fun W hW (hS : StrsA W b 1 3 [p1, p2, p3]) => memoryOf_any 4 [p1, p2, p3] b 1 (cap - 1) W hW hS (fun i => by
    have := hw (i + 1)
    match i with
    | 0 => exact this
    | 1 => exact this
    | 2 => exact this
    | i + 3 => exact ⟨fun c hc => (by cases hc), Nat.zero_le _⟩) (by omega) (by omega))
  have HR1 := hide (fun W hW => refOf_any p4 W hW (hw 4).1 (hw 4).2)
  unfold MemPost at HM
  unfold RefPost at HR1
  have ec : ((strOfNums storeW).toList == [99, 111, 110, 115, 116]) = false := (word_beq (l := storeW) (by decide) (m := constW) (by decide) (b := [99, 111, 110, 115, 116]) rfl).trans (by decide)
  have et : ((strOfNums storeW).toList == [116, 117, 114, 110]) = false := (word_beq (l := storeW) (by decide) (m := turnW) (by decide) (b := [116, 117, 114, 110]) rfl).trans (by decide)
  have el : ((strOfNums storeW).toList == [108, 111, 97, 100]) = false := (word_beq (l := storeW) (by decide) (m := loadW) (by decide) (b := [108, 111, 97, 100]) rfl).trans (by decide)
  have es : ((strOfNums storeW).toList == [115, 116, 111, 114, 101]) = true := (word_beq (l := storeW) (by decide) (m := storeW) (by decide) (b := [115, 116, 111, 114, 101]) rfl).trans (by decide)
  obtain ⟨c0, -⟩ := HC.out _ HW1.out
  generalize strOfNums storeW = P0 at *
  have HS3 : Hid (∀ y, Below w.heap.size w y → StrsA y b 1 3 [p1, p2, p3]) := fun y hy => by
    obtain ⟨-, d1, d2, d3, -⟩ := HC.out y hy
    exact ⟨rfl, Nat.lt_of_lt_of_le hbz hy.size, fun i hi => match i, hi with | 0, _ => d1 | 1, _ => d2 | 2, _ => d3⟩
  have HC4 : Hid (∀ y, Below w.heap.size w y → y.cell? ⟨b, 4, none⟩ = some (.string (strOfNums p4))) := fun y hy => (HC.out y hy).2.2.2.2
  clear h hw hv HC
  go_enter Tryd.func57, Tryd.ntmps57
  go_wp2_with fail
  go_big_quiet (fail)
  go_wp2_with fail
  refine (HM.out _ (HV.out.on (HRB.out _ (HU.out nq)).2.2) (HS3.out _ (HRB.out _ (HU.out nq)).2.2)).mono ?_
  rintro e y0 ⟨x, y, z, q0, rfl, hb0, h1, h2, h3, hy⟩
  have HY0 : Hid (Below (w.heap.size + 1) (w.alloc (.cells #[.int .i64 0, .int .i64 0, .int .i64 0, .int .i64 0, .int .i64 0, .int .i64 0, .int .i64 0, .int .i64 0, .int .i64 0] 53)) y0) := (HU.out nq).trans (hy.mono (HRB.out _ (HU.out nq)).2.1)
  have HB0 := hide hb0
  have HN1 := hide h1
  have HN2 := hide h2
  have HN3 := hide h3
  have HA0 : Hid (Below (w.heap.size + 1) (w.alloc (.cells #[.int .i64 0, .int .i64 0, .int .i64 0, .int .i64 0, .int .i64 0, .int .i64 0, .int .i64 0, .int .i64 0, .int .i64 0] 53)) (y0.alloc (.cells #[.int .i64 4, .int .i64 0, .int .i64 0, .int .i64 0, .int .i64 0, .int .i64 x, .int .i64 y, .int .i64 z, .int .i64 0] 53))) := HY0.out.alloc (HRB.out _ HY0.out).2.1 _
  have c4 := HC4.out _ (HRB.out _ HA0.out).2.2
  have hyz0 := (HRB.out _ HY0.out).2.1
  clear hy hb0 h1 h2 h3 c0
  go_wp2_with fail
  refine (HR1.out _ (HV.out.on (HRB.out _ HA0.out).2.2)).mono ?_
  rintro e y2 ⟨x1, z1, q1, rfl, hk1, hr1, hy⟩
  have HY2 : Hid (Below (w.heap.size + 1) (w.alloc (.cells #[.int .i64 0, .int .i64 0, .int .i64 0, .int .i64 0, .int .i64 0, .int .i64 0, .int .i64 0, .int .i64 0, .int .i64 0] 53)) y2) := HA0.out.trans (hy.mono (HRB.out _ HA0.out).2.1)
  have HK1 := hide hk1
  have HE1 := hide hr1
  have hb1 := (hy.block y0.heap.size (by simp)).trans (new_blkS y0 _ _)
  have hyy : y0.heap.size < y2.heap.size := (Array.getElem?_eq_some_iff.1 hb1).1
  obtain ⟨bb, hwz, hbw⟩ := HRB.out _ HY2.out
  have HBW := hide hbw
  have d0 : y2.cell? ⟨y0.heap.size, 0, none⟩ = some (.int .i64 4) := by rw [cell_of_block hb1]; rfl
  have g0 : y2.frozen? ⟨y0.heap.size, 0, none⟩ = false := by simp [World.frozen?, hb1]
  have d1 : y2.cell? ⟨y0.heap.size, 1, none⟩ = some (.int .i64 0) := by rw [cell_of_block hb1]; rfl
  have g1 : y2.frozen? ⟨y0.heap.size, 1, none⟩ = false := by simp [World.frozen?, hb1]
  have d2 : y2.cell? ⟨y0.heap.size, 2, none⟩ = some (.int .i64 0) := by rw [cell_of_block hb1]; rfl
  have g2 : y2.frozen? ⟨y0.heap.size, 2, none⟩ = false := by simp [World.frozen?, hb1]
  have d3 : y2.cell? ⟨y0.heap.size, 3, none⟩ = some (.int .i64 0) := by rw [cell_of_block hb1]; rfl
  have g3 : y2.frozen? ⟨y0.heap.size, 3, none⟩ = false := by simp [World.frozen?, hb1]
  have d4 : y2.cell? ⟨y0.heap.size, 4, none⟩ = some (.int .i64 0) := by rw [cell_of_block hb1]; rfl
  have g4 : y2.frozen? ⟨y0.heap.size, 4, none⟩ = false := by simp [World.frozen?, hb1]
  have d5 : y2.cell? ⟨y0.heap.size, 5, none⟩ = some (.int .i64 x) := by rw [cell_of_block hb1]; rfl
  have g5 : y2.frozen? ⟨y0.heap.size, 5, none⟩ = false := by simp [World.frozen?, hb1]
  have d6 : y2.cell? ⟨y0.heap.size, 6, none⟩ = some (.int .i64 y) := by rw [cell_of_block hb1]; rfl
  have g6 : y2.frozen? ⟨y0.heap.size, 6, none⟩ = false := by simp [World.frozen?, hb1]
  have d7 : y2.cell? ⟨y0.heap.size, 7, none⟩ = some (.int .i64 z) := by rw [cell_of_block hb1]; rfl
  have g7 : y2.frozen? ⟨y0.heap.size, 7, none⟩ = false := by simp [World.frozen?, hb1]
  have d8 : y2.cell? ⟨y0.heap.size, 8, none⟩ = some (.int .i64 0) := by rw [cell_of_block hb1]; rfl
  have g8 : y2.frozen? ⟨y0.heap.size, 8, none⟩ = false := by simp [World.frozen?, hb1]
  have hne1 : ¬ w.heap.size = y0.heap.size := by omega
  have hne2 : ¬ y0.heap.size = w.heap.size := by omega
  clear hk1 hr1 hy c4
  go_upto_region 13 with fail
  obtain ⟨X, hX⟩ : ∃ X, ((y2.setCell ⟨y0.heap.size, 1, none⟩ (.int .i64 x1)).setCell ⟨y0.heap.size, 2, none⟩ (.int .i64 z1)) = X := ⟨_, rfl⟩
  have bx : X.heap[w.heap.size]? = some (.cells #[.int .i64 0, .int .i64 0, .int .i64 0, .int .i64 0, .int .i64 0, .int .i64 0, .int .i64 0, .int .i64 0, .int .i64 0] 53 (0, 0)) := by rw [← hX, Below.heap_setCell _ _ _ _ hne1, Below.heap_setCell _ _ _ _ hne1]; exact bb
  have bs : X.heap[y0.heap.size]? = some (.cells #[.int .i64 4, .int .i64 x1, .int .i64 z1, .int .i64 0, .int .i64 0, .int .i64 x, .int .i64 y, .int .i64 z, .int .i64 0] 53 (0, 0)) := by rw [← hX]; simp [World.setCell, Array.getElem?_modify, hb1]
  have HBX : Hid (Below w.heap.size w X) := by show Below _ _ _; rw [← hX]; exact ((HBW.out.setCell (Nat.le_of_succ_le hyz0) _).setCell (Nat.le_of_succ_le hyz0) _)
  have hyX : y0.heap.size < X.heap.size := (Array.getElem?_eq_some_iff.1 bs).1
  have hwX : w.heap.size < X.heap.size := (Array.getElem?_eq_some_iff.1 bx).1
  rw [hX]
  clear hX d0 d1 d2 d3 d4 d5 d6 d7 d8 g0 g1 g2 g3 g4 g5 g6 g7 g8 hbw bb hb1
  have e0 : X.cell? ⟨y0.heap.size, 0, none⟩ = some (.int .i64 4) := by rw [cell_of_block bs]; rfl
  have e1 : X.cell? ⟨y0.heap.size, 1, none⟩ = some (.int .i64 x1) := by rw [cell_of_block bs]; rfl
  have e2 : X.cell? ⟨y0.heap.size, 2, none⟩ = some (.int .i64 z1) := by rw [cell_of_block bs]; rfl
  have e3 : X.cell? ⟨y0.heap.size, 3, none⟩ = some (.int .i64 0) := by rw [cell_of_block bs]; rfl
  have e4 : X.cell? ⟨y0.heap.size, 4, none⟩ = some (.int .i64 0) := by rw [cell_of_block bs]; rfl
  have e5 : X.cell? ⟨y0.heap.size, 5, none⟩ = some (.int .i64 x) := by rw [cell_of_block bs]; rfl
  have e6 : X.cell? ⟨y0.heap.size, 6, none⟩ = some (.int .i64 y) := by rw [cell_of_block bs]; rfl
  have e7 : X.cell? ⟨y0.heap.size, 7, none⟩ = some (.int .i64 z) := by rw [cell_of_block bs]; rfl
  have e8 : X.cell? ⟨y0.heap.size, 8, none⟩ = some (.int .i64 0) := by rw [cell_of_block bs]; rfl
  have k0 : X.cell? ⟨w.heap.size, 0, none⟩ = some (.int .i64 0) := by rw [cell_of_block bx]; rfl
  have f0 : X.frozen? ⟨w.heap.size, 0, none⟩ = false := by simp [World.frozen?, bx]
  have k1 : X.cell? ⟨w.heap.size, 1, none⟩ = some (.int .i64 0) := by rw [cell_of_block bx]; rfl
  have f1 : X.frozen? ⟨w.heap.size, 1, none⟩ = false := by simp [World.frozen?, bx]
  have k2 : X.cell? ⟨w.heap.size, 2, none⟩ = some (.int .i64 0) := by rw [cell_of_block bx]; rfl
  have f2 : X.frozen? ⟨w.heap.size, 2, none⟩ = false := by simp [World.frozen?, bx]
  have k3 : X.cell? ⟨w.heap.size, 3, none⟩ = some (.int .i64 0) := by rw [cell_of_block bx]; rfl
  have f3 : X.frozen? ⟨w.heap.size, 3, none⟩ = false := by simp [World.frozen?, bx]
  have k4 : X.cell? ⟨w.heap.size, 4, none⟩ = some (.int .i64 0) := by rw [cell_of_block bx]; rfl
  have f4 : X.frozen? ⟨w.heap.size, 4, none⟩ = false := by simp [World.frozen?, bx]
  have k5 : X.cell? ⟨w.heap.size, 5, none⟩ = some (.int .i64 0) := by rw [cell_of_block bx]; rfl
  have f5 : X.frozen? ⟨w.heap.size, 5, none⟩ = false := by simp [World.frozen?, bx]
  have k6 : X.cell? ⟨w.heap.size, 6, none⟩ = some (.int .i64 0) := by rw [cell_of_block bx]; rfl
  have f6 : X.frozen? ⟨w.heap.size, 6, none⟩ = false := by simp [World.frozen?, bx]
  have k7 : X.cell? ⟨w.heap.size, 7, none⟩ = some (.int .i64 0) := by rw [cell_of_block bx]; rfl
  have f7 : X.frozen? ⟨w.heap.size, 7, none⟩ = false := by simp [World.frozen?, bx]
  have k8 : X.cell? ⟨w.heap.size, 8, none⟩ = some (.int .i64 0) := by rw [cell_of_block bx]; rfl
  have f8 : X.frozen? ⟨w.heap.size, 8, none⟩ = false := by simp [World.frozen?, bx]
  have HTW := hide (nine_set (b0 := .int .i64 4) (b1 := .int .i64 x1) (b2 := .int .i64 z1) (b3 := .int .i64 0) (b4 := .int .i64 0) (b5 := .int .i64 x) (b6 := .int .i64 y) (b7 := .int .i64 z) (b8 := .int .i64 0) bx)
  have HLT : Hid (w.heap.size < (((((((((X.setCell ⟨w.heap.size, 0, none⟩ (.int .i64 4)).setCell ⟨w.heap.size, 1, none⟩ (.int .i64 x1)).setCell ⟨w.heap.size, 2, none⟩ (.int .i64 z1)).setCell ⟨w.heap.size, 3, none⟩ (.int .i64 0)).setCell ⟨w.heap.size, 4, none⟩ (.int .i64 0)).setCell ⟨w.heap.size, 5, none⟩ (.int .i64 x)).setCell ⟨w.heap.size, 6, none⟩ (.int .i64 y)).setCell ⟨w.heap.size, 7, none⟩ (.int .i64 z)).setCell ⟨w.heap.size, 8, none⟩ (.int .i64 0)).heap.size) := (Array.getElem?_eq_some_iff.1 HTW.out).1
  have S0 : Hid (((((((((((X.setCell ⟨w.heap.size, 0, none⟩ (.int .i64 4)).setCell ⟨w.heap.size, 1, none⟩ (.int .i64 x1)).setCell ⟨w.heap.size, 2, none⟩ (.int .i64 z1)).setCell ⟨w.heap.size, 3, none⟩ (.int .i64 0)).setCell ⟨w.heap.size, 4, none⟩ (.int .i64 0)).setCell ⟨w.heap.size, 5, none⟩ (.int .i64 x)).setCell ⟨w.heap.size, 6, none⟩ (.int .i64 y)).setCell ⟨w.heap.size, 7, none⟩ (.int .i64 z)).setCell ⟨w.heap.size, 8, none⟩ (.int .i64 0)).alloc (.cells #[.int .i64 x1, .int .i64 z1] 51)).cell? ⟨w.heap.size, 0, none⟩ = some (.int .i64 4)) := by show _ = _; rw [bcell (below_alloc1 _ _) _ _ HLT.out, cell_of_block HTW.out]; rfl
  have S1 : Hid (((((((((((X.setCell ⟨w.heap.size, 0, none⟩ (.int .i64 4)).setCell ⟨w.heap.size, 1, none⟩ (.int .i64 x1)).setCell ⟨w.heap.size, 2, none⟩ (.int .i64 z1)).setCell ⟨w.heap.size, 3, none⟩ (.int .i64 0)).setCell ⟨w.heap.size, 4, none⟩ (.int .i64 0)).setCell ⟨w.heap.size, 5, none⟩ (.int .i64 x)).setCell ⟨w.heap.size, 6, none⟩ (.int .i64 y)).setCell ⟨w.heap.size, 7, none⟩ (.int .i64 z)).setCell ⟨w.heap.size, 8, none⟩ (.int .i64 0)).alloc (.cells #[.int .i64 x1, .int .i64 z1] 51)).cell? ⟨w.heap.size, 1, none⟩ = some (.int .i64 x1)) := by show _ = _; rw [bcell (below_alloc1 _ _) _ _ HLT.out, cell_of_block HTW.out]; rfl
  have S2 : Hid (((((((((((X.setCell ⟨w.heap.size, 0, none⟩ (.int .i64 4)).setCell ⟨w.heap.size, 1, none⟩ (.int .i64 x1)).setCell ⟨w.heap.size, 2, none⟩ (.int .i64 z1)).setCell ⟨w.heap.size, 3, none⟩ (.int .i64 0)).setCell ⟨w.heap.size, 4, none⟩ (.int .i64 0)).setCell ⟨w.heap.size, 5, none⟩ (.int .i64 x)).setCell ⟨w.heap.size, 6, none⟩ (.int .i64 y)).setCell ⟨w.heap.size, 7, none⟩ (.int .i64 z)).setCell ⟨w.heap.size, 8, none⟩ (.int .i64 0)).alloc (.cells #[.int .i64 x1, .int .i64 z1] 51)).cell? ⟨w.heap.size, 2, none⟩ = some (.int .i64 z1)) := by show _ = _; rw [bcell (below_alloc1 _ _) _ _ HLT.out, cell_of_block HTW.out]; rfl
  have S3 : Hid (((((((((((X.setCell ⟨w.heap.size, 0, none⟩ (.int .i64 4)).setCell ⟨w.heap.size, 1, none⟩ (.int .i64 x1)).setCell ⟨w.heap.size, 2, none⟩ (.int .i64 z1)).setCell ⟨w.heap.size, 3, none⟩ (.int .i64 0)).setCell ⟨w.heap.size, 4, none⟩ (.int .i64 0)).setCell ⟨w.heap.size, 5, none⟩ (.int .i64 x)).setCell ⟨w.heap.size, 6, none⟩ (.int .i64 y)).setCell ⟨w.heap.size, 7, none⟩ (.int .i64 z)).setCell ⟨w.heap.size, 8, none⟩ (.int .i64 0)).alloc (.cells #[.int .i64 x1, .int .i64 z1] 51)).cell? ⟨w.heap.size, 3, none⟩ = some (.int .i64 0)) := by show _ = _; rw [bcell (below_alloc1 _ _) _ _ HLT.out, cell_of_block HTW.out]; rfl
  have S4 : Hid (((((((((((X.setCell ⟨w.heap.size, 0, none⟩ (.int .i64 4)).setCell ⟨w.heap.size, 1, none⟩ (.int .i64 x1)).setCell ⟨w.heap.size, 2, none⟩ (.int .i64 z1)).setCell ⟨w.heap.size, 3, none⟩ (.int .i64 0)).setCell ⟨w.heap.size, 4, none⟩ (.int .i64 0)).setCell ⟨w.heap.size, 5, none⟩ (.int .i64 x)).setCell ⟨w.heap.size, 6, none⟩ (.int .i64 y)).setCell ⟨w.heap.size, 7, none⟩ (.int .i64 z)).setCell ⟨w.heap.size, 8, none⟩ (.int .i64 0)).alloc (.cells #[.int .i64 x1, .int .i64 z1] 51)).cell? ⟨w.heap.size, 4, none⟩ = some (.int .i64 0)) := by show _ = _; rw [bcell (below_alloc1 _ _) _ _ HLT.out, cell_of_block HTW.out]; rfl
  have S5 : Hid (((((((((((X.setCell ⟨w.heap.size, 0, none⟩ (.int .i64 4)).setCell ⟨w.heap.size, 1, none⟩ (.int .i64 x1)).setCell ⟨w.heap.size, 2, none⟩ (.int .i64 z1)).setCell ⟨w.heap.size, 3, none⟩ (.int .i64 0)).setCell ⟨w.heap.size, 4, none⟩ (.int .i64 0)).setCell ⟨w.heap.size, 5, none⟩ (.int .i64 x)).setCell ⟨w.heap.size, 6, none⟩ (.int .i64 y)).setCell ⟨w.heap.size, 7, none⟩ (.int .i64 z)).setCell ⟨w.heap.size, 8, none⟩ (.int .i64 0)).alloc (.cells #[.int .i64 x1, .int .i64 z1] 51)).cell? ⟨w.heap.size, 5, none⟩ = some (.int .i64 x)) := by show _ = _; rw [bcell (below_alloc1 _ _) _ _ HLT.out, cell_of_block HTW.out]; rfl
  have S6 : Hid (((((((((((X.setCell ⟨w.heap.size, 0, none⟩ (.int .i64 4)).setCell ⟨w.heap.size, 1, none⟩ (.int .i64 x1)).setCell ⟨w.heap.size, 2, none⟩ (.int .i64 z1)).setCell ⟨w.heap.size, 3, none⟩ (.int .i64 0)).setCell ⟨w.heap.size, 4, none⟩ (.int .i64 0)).setCell ⟨w.heap.size, 5, none⟩ (.int .i64 x)).setCell ⟨w.heap.size, 6, none⟩ (.int .i64 y)).setCell ⟨w.heap.size, 7, none⟩ (.int .i64 z)).setCell ⟨w.heap.size, 8, none⟩ (.int .i64 0)).alloc (.cells #[.int .i64 x1, .int .i64 z1] 51)).cell? ⟨w.heap.size, 6, none⟩ = some (.int .i64 y)) := by show _ = _; rw [bcell (below_alloc1 _ _) _ _ HLT.out, cell_of_block HTW.out]; rfl
  have S7 : Hid (((((((((((X.setCell ⟨w.heap.size, 0, none⟩ (.int .i64 4)).setCell ⟨w.heap.size, 1, none⟩ (.int .i64 x1)).setCell ⟨w.heap.size, 2, none⟩ (.int .i64 z1)).setCell ⟨w.heap.size, 3, none⟩ (.int .i64 0)).setCell ⟨w.heap.size, 4, none⟩ (.int .i64 0)).setCell ⟨w.heap.size, 5, none⟩ (.int .i64 x)).setCell ⟨w.heap.size, 6, none⟩ (.int .i64 y)).setCell ⟨w.heap.size, 7, none⟩ (.int .i64 z)).setCell ⟨w.heap.size, 8, none⟩ (.int .i64 0)).alloc (.cells #[.int .i64 x1, .int .i64 z1] 51)).cell? ⟨w.heap.size, 7, none⟩ = some (.int .i64 z)) := by show _ = _; rw [bcell (below_alloc1 _ _) _ _ HLT.out, cell_of_block HTW.out]; rfl
  have S8 : Hid (((((((((((X.setCell ⟨w.heap.size, 0, none⟩ (.int .i64 4)).setCell ⟨w.heap.size, 1, none⟩ (.int .i64 x1)).setCell ⟨w.heap.size, 2, none⟩ (.int .i64 z1)).setCell ⟨w.heap.size, 3, none⟩ (.int .i64 0)).setCell ⟨w.heap.size, 4, none⟩ (.int .i64 0)).setCell ⟨w.heap.size, 5, none⟩ (.int .i64 x)).setCell ⟨w.heap.size, 6, none⟩ (.int .i64 y)).setCell ⟨w.heap.size, 7, none⟩ (.int .i64 z)).setCell ⟨w.heap.size, 8, none⟩ (.int .i64 0)).alloc (.cells #[.int .i64 x1, .int .i64 z1] 51)).cell? ⟨w.heap.size, 8, none⟩ = some (.int .i64 0)) := by show _ = _; rw [bcell (below_alloc1 _ _) _ _ HLT.out, cell_of_block HTW.out]; rfl
  have HBF : Hid (Below w.heap.size w ((((((((((X.setCell ⟨w.heap.size, 0, none⟩ (.int .i64 4)).setCell ⟨w.heap.size, 1, none⟩ (.int .i64 x1)).setCell ⟨w.heap.size, 2, none⟩ (.int .i64 z1)).setCell ⟨w.heap.size, 3, none⟩ (.int .i64 0)).setCell ⟨w.heap.size, 4, none⟩ (.int .i64 0)).setCell ⟨w.heap.size, 5, none⟩ (.int .i64 x)).setCell ⟨w.heap.size, 6, none⟩ (.int .i64 y)).setCell ⟨w.heap.size, 7, none⟩ (.int .i64 z)).setCell ⟨w.heap.size, 8, none⟩ (.int .i64 0)).alloc (.cells #[.int .i64 x1, .int .i64 z1] 51))) := Below.alloc (((((((((HBX.out.setCell (Nat.le_refl _) _).setCell (Nat.le_refl _) _).setCell (Nat.le_refl _) _).setCell (Nat.le_refl _) _).setCell (Nat.le_refl _) _).setCell (Nat.le_refl _) _).setCell (Nat.le_refl _) _).setCell (Nat.le_refl _) _).setCell (Nat.le_refl _) _) (by have := HLT.out; omega) _
  have HPO : Hid (∀ ok, ok = (q0 && q1) → StmtPost [storeW, p1, p2, p3, p4] w (.returned (.tuple #[.agg #[.int .i64 4, .int .i64 x1, .int .i64 z1, .int .i64 0, .int .i64 0, .int .i64 x, .int .i64 y, .int .i64 z, .int .i64 0], .bool ok])) ((((((((((X.setCell ⟨w.heap.size, 0, none⟩ (.int .i64 4)).setCell ⟨w.heap.size, 1, none⟩ (.int .i64 x1)).setCell ⟨w.heap.size, 2, none⟩ (.int .i64 z1)).setCell ⟨w.heap.size, 3, none⟩ (.int .i64 0)).setCell ⟨w.heap.size, 4, none⟩ (.int .i64 0)).setCell ⟨w.heap.size, 5, none⟩ (.int .i64 x)).setCell ⟨w.heap.size, 6, none⟩ (.int .i64 y)).setCell ⟨w.heap.size, 7, none⟩ (.int .i64 z)).setCell ⟨w.heap.size, 8, none⟩ (.int .i64 0)).alloc (.cells #[.int .i64 x1, .int .i64 z1] 51))) := fun ok hok => stp_store hok HB0.out HN1.out HN2.out HN3.out HK1.out HE1.out HBF.out
  clear bx bs
  cases q0 with
  | false =>
    have HPP := hide (HPO.out false rfl)
    go_wp2_with fail
    have s0 := S0.out
    have s1 := S1.out
    have s2 := S2.out
    have s3 := S3.out
    have s4 := S4.out
    have s5 := S5.out
    have s6 := S6.out
    have s7 := S7.out
    have s8 := S8.out
    exact bodyPost_ret (v := .tuple #[.agg #[.int .i64 4, .int .i64 x1, .int .i64 z1, .int .i64 0, .int .i64 0, .int .i64 x, .int .i64 y, .int .i64 z, .int .i64 0], .bool false]) (by simp [results, Tryd.results57, go_sem, s0, s1, s2, s3, s4, s5, s6, s7, s8]) rfl HPP.out
  | true =>
    have HPP := hide (HPO.out q1 rfl)
    go_wp2_with fail
    have s0 := S0.out
    have s1 := S1.out
    have s2 := S2.out
    have s3 := S3.out
    have s4 := S4.out
    have s5 := S5.out
    have s6 := S6.out
    have s7 := S7.out
    have s8 := S8.out
    exact bodyPost_ret (v := .tuple #[.agg #[.int .i64 4, .int .i64 x1, .int .i64 z1, .int .i64 0, .int .i64 0, .int .i64 x, .int .i64 y, .int .i64 z, .int .i64 0], .bool q1]) (by simp [results, Tryd.results57, go_sem, s0, s1, s2, s3, s4, s5, s6, s7, s8]) rfl HPP.out

theorem stmtOf_any (ws : List (List Int)) (b m cap : Nat) (w : World) (hv : VarsT w) (h : StrsA w b 0 (m + 1) ws) (hw : WordsOk ws) (hcap : m + 1 ≤ cap) (hcm : cap ≤ 9223372036854775807) :
    Calls Tryd.prog 57 #[.slice (some ⟨b, 0, none⟩) (m + 1) cap] w (StmtPost ws w) := by
  have hl := h.1
  have c0 := h.2.2 0 (by omega)
  rw [Nat.add_zero] at c0
  match ws, hl, h, hw, c0 with
  | [p0], hl, h, hw, c0 =>
    obtain rfl : m = 0 := by simp at hl; omega
    by_cases e : p0 = turnW
    · subst e; exact stmtOf_turn b cap w hv h hw hcap hcm
    · exact stmtOf_none [p0] p0 b 0 cap w c0 h.2.1 hcap hcm (hw 0).1 (by omega) (fun _ => by omega) (fun h => absurd h e) (fun _ => by omega) (fun _ => by omega) (if_neg e)
  | [p0, p1], hl, h, hw, c0 =>
    obtain rfl : m = 1 := by simp at hl; omega
    by_cases e : p0 = constW
    · subst e; exact stmtOf_const p1 b cap w hv h hw hcap hcm
    · exact stmtOf_none [p0, p1] p0 b 1 cap w c0 h.2.1 hcap hcm (hw 0).1 (by omega) (fun h => absurd h e) (fun _ => by omega) (fun _ => by omega) (fun _ => by omega) (if_neg e)
  | [p0, p1, p2], hl, h, hw, c0 =>
    obtain rfl : m = 2 := by simp at hl; omega
    exact stmtOf_op p0 p1 p2 b cap w hv h hw hcap hcm
  | [p0, p1, p2, p3], hl, h, hw, c0 =>
    obtain rfl : m = 3 := by simp at hl; omega
    by_cases e : p0 = loadW
    · subst e; exact stmtOf_load p1 p2 p3 b cap w hv h hw hcap hcm
    · exact stmtOf_none [p0, p1, p2, p3] p0 b 3 cap w c0 h.2.1 hcap hcm (hw 0).1 (by omega) (fun _ => by omega) (fun _ => by omega) (fun h => absurd h e) (fun _ => by omega) (if_neg e)
  | [p0, p1, p2, p3, p4], hl, h, hw, c0 =>
    obtain rfl : m = 4 := by simp at hl; omega
    by_cases e : p0 = storeW
    · subst e; exact stmtOf_store p1 p2 p3 p4 b cap w hv h hw hcap hcm
    · exact stmtOf_none [p0, p1, p2, p3, p4] p0 b 4 cap w c0 h.2.1 hcap hcm (hw 0).1 (by omega) (fun _ => by omega) (fun _ => by omega) (fun _ => by omega) (fun h => absurd h e) (if_neg e)
  | p0 :: p1 :: p2 :: p3 :: p4 :: p5 :: l, hl, h, hw, c0 =>
    have hm : 5 ≤ m := by simp at hl; omega
    exact stmtOf_none (p0 :: p1 :: p2 :: p3 :: p4 :: p5 :: l) p0 b m cap w c0 h.2.1 hcap hcm (hw 0).1 (by omega) (fun _ => by omega) (fun _ => by omega) (fun _ => by omega) (fun _ => by omega) rfl
end Go.Proofs.YtjlfcbccpcigeacDoor
