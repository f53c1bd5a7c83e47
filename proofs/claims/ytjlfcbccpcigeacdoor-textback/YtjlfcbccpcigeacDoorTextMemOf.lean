/- The contract of package text's memoryOf. -/
import Derived.Test.YtjlfcbccpcigeacDoorTextMemory
namespace Go.Proofs.YtjlfcbccpcigeacDoor
open Go.RowKit Go.Joins
set_option linter.unusedVariables false
set_option linter.unusedSimpArgs false
set_option maxRecDepth 8192

/-- what memoryOf answers -/
def MemPost (o : Int) (a b c : List Int) (w : World) (e : Ending) (w' : World) : Prop := ∃ x y z ok, e = .returned (.tuple #[.agg #[.int .i64 o, .int .i64 0, .int .i64 0, .int .i64 0, .int .i64 0, .int .i64 x, .int .i64 y, .int .i64 z, .int .i64 0], .bool ok]) ∧ ok = ((numO a 18).isSome && (numO b 18).isSome && (numO c 18).isSome) ∧ (∀ m, numO a 18 = some m → x = m) ∧ (∀ m, numO b 18 = some m → y = m) ∧ (∀ m, numO c 18 = some m → z = m) ∧ Below w.heap.size w w'
set_option maxHeartbeats 8000000 in
theorem memoryOf_any (o : Int) (ws : List (List Int)) (b off cap : Nat) (w : World) (hv : VarsT w) (h : StrsA w b off 3 ws) (hw : WordsOk ws) (hcap : 3 ≤ cap) (hcm : cap ≤ 9223372036854775807) :
    Calls Tryd.prog 75 #[.int .i64 o, .slice (some ⟨b, off, none⟩) 3 cap] w (MemPost o (ws.getD 0 []) (ws.getD 1 []) (ws.getD 2 []) w) := by
  have HW1 : Hid (Below w.heap.size w (w.alloc (.cells #[.int .i64 0, .int .i64 0, .int .i64 0, .int .i64 0, .int .i64 0, .int .i64 0, .int .i64 0, .int .i64 0, .int .i64 0] 53))) := below_alloc1 _ _
  have HZ1 : Hid ((w.alloc (.cells #[.int .i64 0, .int .i64 0, .int .i64 0, .int .i64 0, .int .i64 0, .int .i64 0, .int .i64 0, .int .i64 0, .int .i64 0] 53)).heap.size = w.heap.size + 1) := by show _ = _; simp
  have HRB : Hid (∀ y, Below (w.heap.size + 1) (w.alloc (.cells #[.int .i64 0, .int .i64 0, .int .i64 0, .int .i64 0, .int .i64 0, .int .i64 0, .int .i64 0, .int .i64 0, .int .i64 0] 53)) y → y.heap[w.heap.size]? = some (.cells #[.int .i64 0, .int .i64 0, .int .i64 0, .int .i64 0, .int .i64 0, .int .i64 0, .int .i64 0, .int .i64 0, .int .i64 0] 53 (0, 0)) ∧ w.heap.size + 1 ≤ y.heap.size ∧ Below w.heap.size w y) := fun y hy => ⟨(hy.block _ (by omega)).trans (new_blkS _ _ _), by have := hy.size; rw [HZ1.out] at this; exact this, HW1.out.trans (hy.mono (by omega))⟩
  have hbz := h.2.1
  have HC : Hid (∀ y, Below w.heap.size w y → y.cell? ⟨b, off + 0, none⟩ = some (.string (strOfNums (ws.getD 0 []))) ∧ y.cell? ⟨b, off + 1, none⟩ = some (.string (strOfNums (ws.getD 1 []))) ∧ y.cell? ⟨b, off + 2, none⟩ = some (.string (strOfNums (ws.getD 2 [])))) := fun y hy => ⟨(h.below hy).2.2 0 (by omega), (h.below hy).2.2 1 (by omega), (h.below hy).2.2 2 (by omega)⟩
  have HS0 := hide (fun W hW => shortOf_any (ws.getD 0 []) W hW (hw 0).1 (hw 0).2)
  have HS1 := hide (fun W hW => shortOf_any (ws.getD 1 []) W hW (hw 1).1 (hw 1).2)
  have HS2 := hide (fun W hW => shortOf_any (ws.getD 2 []) W hW (hw 2).1 (hw 2).2)
  have HV := hide hv
  generalize ws.getD 0 [] = p0 at *
  generalize ws.getD 1 [] = p1 at *
  generalize ws.getD 2 [] = p2 at *
  clear h hw hv
  obtain ⟨c0, -, -⟩ := HC.out _ HW1.out
  rw [Nat.add_zero] at c0
  go_enter Tryd.func75, Tryd.ntmps75
  go_wp2_with fail
  refine (HS0.out _ (HV.out.on HW1.out)).mono ?_
  rintro e y0 ⟨n0, b0, rfl, hb0, hn0, lo0, hi0, hy⟩
  have HB0 := hide hb0
  have HN0 := hide hn0
  have HY0 : Hid (Below (w.heap.size + 1) (w.alloc (.cells #[.int .i64 0, .int .i64 0, .int .i64 0, .int .i64 0, .int .i64 0, .int .i64 0, .int .i64 0, .int .i64 0, .int .i64 0] 53)) y0) := by show Below _ _ _; rw [← HZ1.out]; exact hy
  clear hb0 hn0 hy c0
  obtain ⟨-, c1, -⟩ := HC.out _ (HRB.out _ HY0.out).2.2
  go_wp2_with fail
  refine (HS1.out _ (HV.out.on (HRB.out _ HY0.out).2.2)).mono ?_
  rintro e y1 ⟨n1, b1, rfl, hb1, hn1, lo1, hi1, hy⟩
  have HB1 := hide hb1
  have HN1 := hide hn1
  have HY1 : Hid (Below (w.heap.size + 1) (w.alloc (.cells #[.int .i64 0, .int .i64 0, .int .i64 0, .int .i64 0, .int .i64 0, .int .i64 0, .int .i64 0, .int .i64 0, .int .i64 0] 53)) y1) := HY0.out.trans (hy.mono (HRB.out _ HY0.out).2.1)
  clear hb1 hn1 hy c1
  obtain ⟨-, -, c2⟩ := HC.out _ (HRB.out _ HY1.out).2.2
  go_wp2_with fail
  refine (HS2.out _ (HV.out.on (HRB.out _ HY1.out).2.2)).mono ?_
  rintro e y2 ⟨n2, b2, rfl, hb2, hn2, lo2, hi2, hy⟩
  have HB2 := hide hb2
  have HN2 := hide hn2
  have HY2 : Hid (Below (w.heap.size + 1) (w.alloc (.cells #[.int .i64 0, .int .i64 0, .int .i64 0, .int .i64 0, .int .i64 0, .int .i64 0, .int .i64 0, .int .i64 0, .int .i64 0] 53)) y2) := HY1.out.trans (hy.mono (HRB.out _ HY1.out).2.1)
  clear hb2 hn2 hy c2
  obtain ⟨bb, hwz2, hbw⟩ := HRB.out _ HY2.out
  have HBW := hide hbw
  clear hbw
  have k0 : y2.cell? ⟨w.heap.size, 0, none⟩ = some (.int .i64 0) := by rw [cell_of_block bb]; rfl
  have f0 : y2.frozen? ⟨w.heap.size, 0, none⟩ = false := by simp [World.frozen?, bb]
  have k1 : y2.cell? ⟨w.heap.size, 1, none⟩ = some (.int .i64 0) := by rw [cell_of_block bb]; rfl
  have f1 : y2.frozen? ⟨w.heap.size, 1, none⟩ = false := by simp [World.frozen?, bb]
  have k2 : y2.cell? ⟨w.heap.size, 2, none⟩ = some (.int .i64 0) := by rw [cell_of_block bb]; rfl
  have f2 : y2.frozen? ⟨w.heap.size, 2, none⟩ = false := by simp [World.frozen?, bb]
  have k3 : y2.cell? ⟨w.heap.size, 3, none⟩ = some (.int .i64 0) := by rw [cell_of_block bb]; rfl
  have f3 : y2.frozen? ⟨w.heap.size, 3, none⟩ = false := by simp [World.frozen?, bb]
  have k4 : y2.cell? ⟨w.heap.size, 4, none⟩ = some (.int .i64 0) := by rw [cell_of_block bb]; rfl
  have f4 : y2.frozen? ⟨w.heap.size, 4, none⟩ = false := by simp [World.frozen?, bb]
  have k5 : y2.cell? ⟨w.heap.size, 5, none⟩ = some (.int .i64 0) := by rw [cell_of_block bb]; rfl
  have f5 : y2.frozen? ⟨w.heap.size, 5, none⟩ = false := by simp [World.frozen?, bb]
  have k6 : y2.cell? ⟨w.heap.size, 6, none⟩ = some (.int .i64 0) := by rw [cell_of_block bb]; rfl
  have f6 : y2.frozen? ⟨w.heap.size, 6, none⟩ = false := by simp [World.frozen?, bb]
  have k7 : y2.cell? ⟨w.heap.size, 7, none⟩ = some (.int .i64 0) := by rw [cell_of_block bb]; rfl
  have f7 : y2.frozen? ⟨w.heap.size, 7, none⟩ = false := by simp [World.frozen?, bb]
  have k8 : y2.cell? ⟨w.heap.size, 8, none⟩ = some (.int .i64 0) := by rw [cell_of_block bb]; rfl
  have f8 : y2.frozen? ⟨w.heap.size, 8, none⟩ = false := by simp [World.frozen?, bb]
  have HTW := hide (nine_set (b0 := .int .i64 o) (b1 := .int .i64 0) (b2 := .int .i64 0) (b3 := .int .i64 0) (b4 := .int .i64 0) (b5 := .int .i64 n0) (b6 := .int .i64 n1) (b7 := .int .i64 n2) (b8 := .int .i64 0) bb)
  have HPO : Hid (∀ ok, ok = (b0 && b1 && b2) → MemPost o p0 p1 p2 w (.returned (.tuple #[.agg #[.int .i64 o, .int .i64 0, .int .i64 0, .int .i64 0, .int .i64 0, .int .i64 n0, .int .i64 n1, .int .i64 n2, .int .i64 0], .bool ok])) (((((((((y2.setCell ⟨w.heap.size, 0, none⟩ (.int .i64 o)).setCell ⟨w.heap.size, 1, none⟩ (.int .i64 0)).setCell ⟨w.heap.size, 2, none⟩ (.int .i64 0)).setCell ⟨w.heap.size, 3, none⟩ (.int .i64 0)).setCell ⟨w.heap.size, 4, none⟩ (.int .i64 0)).setCell ⟨w.heap.size, 5, none⟩ (.int .i64 n0)).setCell ⟨w.heap.size, 6, none⟩ (.int .i64 n1)).setCell ⟨w.heap.size, 7, none⟩ (.int .i64 n2)).setCell ⟨w.heap.size, 8, none⟩ (.int .i64 0))) := fun ok hok => ⟨n0, n1, n2, ok, rfl, by rw [hok, HB0.out, HB1.out, HB2.out], HN0.out, HN1.out, HN2.out, (((((((((HBW.out.setCell (Nat.le_refl _) _).setCell (Nat.le_refl _) _).setCell (Nat.le_refl _) _).setCell (Nat.le_refl _) _).setCell (Nat.le_refl _) _).setCell (Nat.le_refl _) _).setCell (Nat.le_refl _) _).setCell (Nat.le_refl _) _).setCell (Nat.le_refl _) _)⟩
  have S0 : Hid ((((((((((y2.setCell ⟨w.heap.size, 0, none⟩ (.int .i64 o)).setCell ⟨w.heap.size, 1, none⟩ (.int .i64 0)).setCell ⟨w.heap.size, 2, none⟩ (.int .i64 0)).setCell ⟨w.heap.size, 3, none⟩ (.int .i64 0)).setCell ⟨w.heap.size, 4, none⟩ (.int .i64 0)).setCell ⟨w.heap.size, 5, none⟩ (.int .i64 n0)).setCell ⟨w.heap.size, 6, none⟩ (.int .i64 n1)).setCell ⟨w.heap.size, 7, none⟩ (.int .i64 n2)).setCell ⟨w.heap.size, 8, none⟩ (.int .i64 0)).cell? ⟨w.heap.size, 0, none⟩ = some (.int .i64 o)) := by show _ = _; rw [cell_of_block HTW.out]; rfl
  have S1 : Hid ((((((((((y2.setCell ⟨w.heap.size, 0, none⟩ (.int .i64 o)).setCell ⟨w.heap.size, 1, none⟩ (.int .i64 0)).setCell ⟨w.heap.size, 2, none⟩ (.int .i64 0)).setCell ⟨w.heap.size, 3, none⟩ (.int .i64 0)).setCell ⟨w.heap.size, 4, none⟩ (.int .i64 0)).setCell ⟨w.heap.size, 5, none⟩ (.int .i64 n0)).setCell ⟨w.heap.size, 6, none⟩ (.int .i64 n1)).setCell ⟨w.heap.size, 7, none⟩ (.int .i64 n2)).setCell ⟨w.heap.size, 8, none⟩ (.int .i64 0)).cell? ⟨w.heap.size, 1, none⟩ = some (.int .i64 0)) := by show _ = _; rw [cell_of_block HTW.out]; rfl
  have S2 : Hid ((((((((((y2.setCell ⟨w.heap.size, 0, none⟩ (.int .i64 o)).setCell ⟨w.heap.size, 1, none⟩ (.int .i64 0)).setCell ⟨w.heap.size, 2, none⟩ (.int .i64 0)).setCell ⟨w.heap.size, 3, none⟩ (.int .i64 0)).setCell ⟨w.heap.size, 4, none⟩ (.int .i64 0)).setCell ⟨w.heap.size, 5, none⟩ (.int .i64 n0)).setCell ⟨w.heap.size, 6, none⟩ (.int .i64 n1)).setCell ⟨w.heap.size, 7, none⟩ (.int .i64 n2)).setCell ⟨w.heap.size, 8, none⟩ (.int .i64 0)).cell? ⟨w.heap.size, 2, none⟩ = some (.int .i64 0)) := by show _ = _; rw [cell_of_block HTW.out]; rfl
  have S3 : Hid ((((((((((y2.setCell ⟨w.heap.size, 0, none⟩ (.int .i64 o)).setCell ⟨w.heap.size, 1, none⟩ (.int .i64 0)).setCell ⟨w.heap.size, 2, none⟩ (.int .i64 0)).setCell ⟨w.heap.size, 3, none⟩ (.int .i64 0)).setCell ⟨w.heap.size, 4, none⟩ (.int .i64 0)).setCell ⟨w.heap.size, 5, none⟩ (.int .i64 n0)).setCell ⟨w.heap.size, 6, none⟩ (.int .i64 n1)).setCell ⟨w.heap.size, 7, none⟩ (.int .i64 n2)).setCell ⟨w.heap.size, 8, none⟩ (.int .i64 0)).cell? ⟨w.heap.size, 3, none⟩ = some (.int .i64 0)) := by show _ = _; rw [cell_of_block HTW.out]; rfl
  have S4 : Hid ((((((((((y2.setCell ⟨w.heap.size, 0, none⟩ (.int .i64 o)).setCell ⟨w.heap.size, 1, none⟩ (.int .i64 0)).setCell ⟨w.heap.size, 2, none⟩ (.int .i64 0)).setCell ⟨w.heap.size, 3, none⟩ (.int .i64 0)).setCell ⟨w.heap.size, 4, none⟩ (.int .i64 0)).setCell ⟨w.heap.size, 5, none⟩ (.int .i64 n0)).setCell ⟨w.heap.size, 6, none⟩ (.int .i64 n1)).setCell ⟨w.heap.size, 7, none⟩ (.int .i64 n2)).setCell ⟨w.heap.size, 8, none⟩ (.int .i64 0)).cell? ⟨w.heap.size, 4, none⟩ = some (.int .i64 0)) := by show _ = _; rw [cell_of_block HTW.out]; rfl
  have S5 : Hid ((((((((((y2.setCell ⟨w.heap.size, 0, none⟩ (.int .i64 o)).setCell ⟨w.heap.size, 1, none⟩ (.int .i64 0)).setCell ⟨w.heap.size, 2, none⟩ (.int .i64 0)).setCell ⟨w.heap.size, 3, none⟩ (.int .i64 0)).setCell ⟨w.heap.size, 4, none⟩ (.int .i64 0)).setCell ⟨w.heap.size, 5, none⟩ (.int .i64 n0)).setCell ⟨w.heap.size, 6, none⟩ (.int .i64 n1)).setCell ⟨w.heap.size, 7, none⟩ (.int .i64 n2)).setCell ⟨w.heap.size, 8, none⟩ (.int .i64 0)).cell? ⟨w.heap.size, 5, none⟩ = some (.int .i64 n0)) := by show _ = _; rw [cell_of_block HTW.out]; rfl
  have S6 : Hid ((((((((((y2.setCell ⟨w.heap.size, 0, none⟩ (.int .i64 o)).setCell ⟨w.heap.size, 1, none⟩ (.int .i64 0)).setCell ⟨w.heap.size, 2, none⟩ (.int .i64 0)).setCell ⟨w.heap.size, 3, none⟩ (.int .i64 0)).setCell ⟨w.heap.size, 4, none⟩ (.int .i64 0)).setCell ⟨w.heap.size, 5, none⟩ (.int .i64 n0)).setCell ⟨w.heap.size, 6, none⟩ (.int .i64 n1)).setCell ⟨w.heap.size, 7, none⟩ (.int .i64 n2)).setCell ⟨w.heap.size, 8, none⟩ (.int .i64 0)).cell? ⟨w.heap.size, 6, none⟩ = some (.int .i64 n1)) := by show _ = _; rw [cell_of_block HTW.out]; rfl
  have S7 : Hid ((((((((((y2.setCell ⟨w.heap.size, 0, none⟩ (.int .i64 o)).setCell ⟨w.heap.size, 1, none⟩ (.int .i64 0)).setCell ⟨w.heap.size, 2, none⟩ (.int .i64 0)).setCell ⟨w.heap.size, 3, none⟩ (.int .i64 0)).setCell ⟨w.heap.size, 4, none⟩ (.int .i64 0)).setCell ⟨w.heap.size, 5, none⟩ (.int .i64 n0)).setCell ⟨w.heap.size, 6, none⟩ (.int .i64 n1)).setCell ⟨w.heap.size, 7, none⟩ (.int .i64 n2)).setCell ⟨w.heap.size, 8, none⟩ (.int .i64 0)).cell? ⟨w.heap.size, 7, none⟩ = some (.int .i64 n2)) := by show _ = _; rw [cell_of_block HTW.out]; rfl
  have S8 : Hid ((((((((((y2.setCell ⟨w.heap.size, 0, none⟩ (.int .i64 o)).setCell ⟨w.heap.size, 1, none⟩ (.int .i64 0)).setCell ⟨w.heap.size, 2, none⟩ (.int .i64 0)).setCell ⟨w.heap.size, 3, none⟩ (.int .i64 0)).setCell ⟨w.heap.size, 4, none⟩ (.int .i64 0)).setCell ⟨w.heap.size, 5, none⟩ (.int .i64 n0)).setCell ⟨w.heap.size, 6, none⟩ (.int .i64 n1)).setCell ⟨w.heap.size, 7, none⟩ (.int .i64 n2)).setCell ⟨w.heap.size, 8, none⟩ (.int .i64 0)).cell? ⟨w.heap.size, 8, none⟩ = some (.int .i64 0)) := by show _ = _; rw [cell_of_block HTW.out]; rfl
  clear bb
  cases b0 with
  | false =>
    have HPP := hide (HPO.out false rfl)
    go_wp2_with fail
    have s0 := S0.out
    have s1 := S1.out
    have s2 := S2.out
    have s3 := S3.out
    have s4 := S4.out
    have s5 := S5.out
    have s6 := S6.out
    have s7 := S7.out
    have s8 := S8.out
    exact bodyPost_ret (v := .tuple #[.agg #[.int .i64 o, .int .i64 0, .int .i64 0, .int .i64 0, .int .i64 0, .int .i64 n0, .int .i64 n1, .int .i64 n2, .int .i64 0], .bool false]) (by simp [results, Tryd.results75, go_sem, s0, s1, s2, s3, s4, s5, s6, s7, s8]) rfl HPP.out
  | true =>
    cases b1 with
    | false =>
      have HPP := hide (HPO.out false rfl)
      go_wp2_with fail
      have s0 := S0.out
      have s1 := S1.out
      have s2 := S2.out
      have s3 := S3.out
      have s4 := S4.out
      have s5 := S5.out
      have s6 := S6.out
      have s7 := S7.out
      have s8 := S8.out
      exact bodyPost_ret (v := .tuple #[.agg #[.int .i64 o, .int .i64 0, .int .i64 0, .int .i64 0, .int .i64 0, .int .i64 n0, .int .i64 n1, .int .i64 n2, .int .i64 0], .bool false]) (by simp [results, Tryd.results75, go_sem, s0, s1, s2, s3, s4, s5, s6, s7, s8]) rfl HPP.out
    | true =>
      have HPP := hide (HPO.out b2 rfl)
      go_wp2_with fail
      have s0 := S0.out
      have s1 := S1.out
      have s2 := S2.out
      have s3 := S3.out
      have s4 := S4.out
      have s5 := S5.out
      have s6 := S6.out
      have s7 := S7.out
      have s8 := S8.out
      exact bodyPost_ret (v := .tuple #[.agg #[.int .i64 o, .int .i64 0, .int .i64 0, .int .i64 0, .int .i64 0, .int .i64 n0, .int .i64 n1, .int .i64 n2, .int .i64 0], .bool b2]) (by simp [results, Tryd.results75, go_sem, s0, s1, s2, s3, s4, s5, s6, s7, s8]) rfl HPP.out
end Go.Proofs.YtjlfcbccpcigeacDoor
