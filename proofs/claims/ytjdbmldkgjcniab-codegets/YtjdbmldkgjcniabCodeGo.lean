/- The contracts of package code's opAt and Get: the Op whose ten numbers lie there, and the kernel. -/
import Derived.Test.YtjdbmldkgjcniabCodeSmall
import Derived.Test.YtjdbmldkgjcniabCodeLaws
import Derived.Deep.AppendLies
namespace Go.Proofs.Ytjdbmldkgjcniab
open Go.RowKit Go.Joins
set_option linter.unusedVariables false
set_option linter.unusedSimpArgs false
set_option maxRecDepth 8192

theorem numberAt_int (v : Value) (l : List Int) (k : Nat) (z : Int) (hz : z = (k : Int)) (w : World) (h : BytesV w v l) (hk : 8 * k + 8 ≤ l.length) (hk2 : k ≤ 1000) :
    Calls Try.prog 61 #[v, .int .i64 z] w fun e w' => e = .returned (.int .i64 (atB l k)) ∧ w' = w := by rw [hz]; exact numberAt_any v l k w h hk hk2
theorem ten_set {x : World} {g : Nat} {e : TypeId} {b0 b1 b2 b3 b4 b5 b6 b7 b8 b9 : Value} (a0 a1 a2 a3 a4 a5 a6 a7 a8 a9 : Value) (h : x.heap[g]? = some (.cells #[b0, b1, b2, b3, b4, b5, b6, b7, b8, b9] e (0, 0))) : ((((((((((x.setCell ⟨g, 0, none⟩ a0).setCell ⟨g, 1, none⟩ a1).setCell ⟨g, 2, none⟩ a2).setCell ⟨g, 3, none⟩ a3).setCell ⟨g, 4, none⟩ a4).setCell ⟨g, 5, none⟩ a5).setCell ⟨g, 6, none⟩ a6).setCell ⟨g, 7, none⟩ a7).setCell ⟨g, 8, none⟩ a8).setCell ⟨g, 9, none⟩ a9).heap[g]? = some (.cells #[a0, a1, a2, a3, a4, a5, a6, a7, a8, a9] e (0, 0)) := by
  simp [World.setCell, Array.getElem?_modify, h]
set_option maxHeartbeats 8000000 in
theorem opAt_any (v : Value) (l : List Int) (k : Nat) (w : World) (h : BytesV w v l) (hk : 24 + 80 * k + 80 ≤ l.length) (hk2 : k ≤ 16) :
    Calls Try.prog 62 #[v, .int .i64 k] w fun e w' => e = .returned (.agg #[.int .i64 (atB l (3 + 10 * k)), .int .i64 (atB l (3 + 10 * k + 1)), .int .i64 (atB l (3 + 10 * k + 2)), .int .i64 (atB l (3 + 10 * k + 3)), .int .i64 (atB l (3 + 10 * k + 4)), .int .i64 (atB l (3 + 10 * k + 5)), .int .i64 (atB l (3 + 10 * k + 6)), .int .i64 (atB l (3 + 10 * k + 7)), .int .i64 (atB l (3 + 10 * k + 8)), .int .i64 (atB l (3 + 10 * k + 9))]) ∧ Below w.heap.size w w' := by
  have h' := h
  obtain ⟨ba, bc, rfl, -⟩ := h'
  have HBV := hide h
  have HA := hide (fun (i : Nat) (hi : i < 10) W (h : BytesV W (.slice ba l.length bc) l) => numberAt_int (.slice ba l.length bc) l (3 + 10 * k + i) (3 + 10 * (k : Int) + (i : Int)) (by omega) W h (by omega) (by omega))
  have HZ : Hid (RowF ((w.alloc (.cells #[.int .i64 0, .int .i64 0, .int .i64 0, .int .i64 0, .int .i64 0, .int .i64 0, .int .i64 0, .int .i64 0, .int .i64 0, .int .i64 0] 89)).alloc (.cells #[.int .i64 0, .int .i64 0, .int .i64 0, .int .i64 0, .int .i64 0, .int .i64 0, .int .i64 0, .int .i64 0, .int .i64 0, .int .i64 0] 111)) (w.heap.size + 1) 111 10 (fun j => .int .i64 (if j < 0 then atB l (3 + 10 * k + j) else 0))) := by
    have e : (w.alloc (.cells #[.int .i64 0, .int .i64 0, .int .i64 0, .int .i64 0, .int .i64 0, .int .i64 0, .int .i64 0, .int .i64 0, .int .i64 0, .int .i64 0] 89)).heap.size = w.heap.size + 1 := by simp
    show RowF _ _ _ _ _
    rw [← e]
    exact RowF.made _ _ _ 10 _ (by simp) (fun i hi => by
      rw [if_neg (by omega)]
      obtain rfl | rfl | rfl | rfl | rfl | rfl | rfl | rfl | rfl | rfl : i = 0 ∨ i = 1 ∨ i = 2 ∨ i = 3 ∨ i = 4 ∨ i = 5 ∨ i = 6 ∨ i = 7 ∨ i = 8 ∨ i = 9 := by omega
      all_goals rfl)
  have HZO : Hid (((w.alloc (.cells #[.int .i64 0, .int .i64 0, .int .i64 0, .int .i64 0, .int .i64 0, .int .i64 0, .int .i64 0, .int .i64 0, .int .i64 0, .int .i64 0] 89)).alloc (.cells #[.int .i64 0, .int .i64 0, .int .i64 0, .int .i64 0, .int .i64 0, .int .i64 0, .int .i64 0, .int .i64 0, .int .i64 0, .int .i64 0] 111)).heap[w.heap.size]? = some (.cells #[.int .i64 0, .int .i64 0, .int .i64 0, .int .i64 0, .int .i64 0, .int .i64 0, .int .i64 0, .int .i64 0, .int .i64 0, .int .i64 0] 89 (0, 0))) := by
    show _ = _
    rw [Below.heap_alloc _ _ _ (by simp)]; exact new_blkS _ _ _
  clear h
  go_enter Try.func62, Try.ntmps62
  go_wp2_with fail
  go_loopw [8] (fun iv wr => ∃ i : Nat, i ≤ 10 ∧ iv = .int .i64 i ∧ Below w.heap.size w wr ∧ wr.heap[w.heap.size]? = some (.cells #[.int .i64 0, .int .i64 0, .int .i64 0, .int .i64 0, .int .i64 0, .int .i64 0, .int .i64 0, .int .i64 0, .int .i64 0, .int .i64 0] 89 (0, 0)) ∧ RowF wr (w.heap.size + 1) 111 10 (fun j => .int .i64 (if j < i then atB l (3 + 10 * k + j) else 0))) (fun iv _ => 10 - (intOf iv).toNat)
  case atStart => exact ⟨0, by omega, rfl, below_alloc2 _ _ _, HZO.out, HZ.out⟩
  case round =>
    clear HZ HZO
    obtain ⟨i, hi, rfl, hbel, hob, hrow⟩ := hrel
    have HB := hide hbel
    have HOB := hide hob
    by_cases hi8 : i < 10
    · have hii : (i : Int) < 10 := by omega
      have HC := hide (HA.out i hi8 wr (HBV.out.below hbel))
      have hc := hrow.cell hi8
      have hf := hrow.frozen i
      have hz := hrow.lt
      have HROW2 : Hid (RowF (wr.setCell ⟨w.heap.size + 1, i, none⟩ (.int .i64 (atB l (3 + 10 * k + i)))) (w.heap.size + 1) 111 10 (fun j => .int .i64 (if j < i + 1 then atB l (3 + 10 * k + j) else 0))) := (hrow.set i (.int .i64 (atB l (3 + 10 * k + i))) hi8).congr fun j hj => by
        by_cases e : j = i
        · rw [if_pos e, if_pos (by omega), e]
        · rw [if_neg e]
          by_cases e2 : j < i
          · rw [if_pos e2, if_pos (by omega)]
          · rw [if_neg e2, if_neg (by omega)]
      generalize atB l (3 + 10 * k + i) = z at HC HROW2
      clear hrow hbel hob HA
      go_wp2_with fail
      refine HC.out.mono ?_
      rintro e w' ⟨rfl, hw'⟩
      have hw' := hw'.symm; subst hw'
      go_wp2_with fail
      go_roundw
      case rel => exact ⟨i + 1, by omega, by go_num, HB.out.setCell (by show w.heap.size ≤ w.heap.size + 1; omega) _, by rw [Below.heap_setCell _ _ _ _ (by show w.heap.size ≠ w.heap.size + 1; omega)]; exact HOB.out, HROW2.out⟩
      case measure => simp [intOf]; omega
    · have e : i = 10 := by omega
      subst e
      have hii : ¬ ((10 : Nat) : Int) < 10 := by omega
      have hcs : ∀ j, j < 10 → wr.cell? ⟨w.heap.size + 1, j, none⟩ = some (.int .i64 (atB l (3 + 10 * k + j))) := fun j hj => by
        have h := hrow.cell hj
        rw [if_pos hj] at h
        exact h
      have c0 : wr.cell? ⟨w.heap.size + 1, 0, none⟩ = some (.int .i64 (atB l (3 + 10 * k))) := hcs 0 (by omega)
      have c1 := hcs 1 (by omega)
      have c2 := hcs 2 (by omega)
      have c3 := hcs 3 (by omega)
      have c4 := hcs 4 (by omega)
      have c5 := hcs 5 (by omega)
      have c6 := hcs 6 (by omega)
      have c7 := hcs 7 (by omega)
      have c8 := hcs 8 (by omega)
      have c9 := hcs 9 (by omega)
      have hz := hrow.lt
      clear hcs hrow hbel hob HA
      obtain ⟨z0, hz0⟩ : ∃ z, atB l (3 + 10 * k) = z := ⟨_, rfl⟩
      obtain ⟨z1, hz1⟩ : ∃ z, atB l (3 + 10 * k + 1) = z := ⟨_, rfl⟩
      obtain ⟨z2, hz2⟩ : ∃ z, atB l (3 + 10 * k + 2) = z := ⟨_, rfl⟩
      obtain ⟨z3, hz3⟩ : ∃ z, atB l (3 + 10 * k + 3) = z := ⟨_, rfl⟩
      obtain ⟨z4, hz4⟩ : ∃ z, atB l (3 + 10 * k + 4) = z := ⟨_, rfl⟩
      obtain ⟨z5, hz5⟩ : ∃ z, atB l (3 + 10 * k + 5) = z := ⟨_, rfl⟩
      obtain ⟨z6, hz6⟩ : ∃ z, atB l (3 + 10 * k + 6) = z := ⟨_, rfl⟩
      obtain ⟨z7, hz7⟩ : ∃ z, atB l (3 + 10 * k + 7) = z := ⟨_, rfl⟩
      obtain ⟨z8, hz8⟩ : ∃ z, atB l (3 + 10 * k + 8) = z := ⟨_, rfl⟩
      obtain ⟨z9, hz9⟩ : ∃ z, atB l (3 + 10 * k + 9) = z := ⟨_, rfl⟩
      rw [hz0] at c0
      rw [hz1] at c1
      rw [hz2] at c2
      rw [hz3] at c3
      rw [hz4] at c4
      rw [hz5] at c5
      rw [hz6] at c6
      rw [hz7] at c7
      rw [hz8] at c8
      rw [hz9] at c9
      have HE := hide (And.intro hz0 (And.intro hz1 (And.intro hz2 (And.intro hz3 (And.intro hz4 (And.intro hz5 (And.intro hz6 (And.intro hz7 (And.intro hz8 hz9)))))))))
      clear hz0 hz1 hz2 hz3 hz4 hz5 hz6 hz7 hz8 hz9
      go_wp2_with fail
      refine (opOf_any z0 z1 z2 z3 z4 z5 z6 z7 z8 z9 _).mono ?_
      rintro e x1 ⟨rfl, hb1⟩
      have hbk : x1.heap[w.heap.size]? = some (.cells #[.int .i64 0, .int .i64 0, .int .i64 0, .int .i64 0, .int .i64 0, .int .i64 0, .int .i64 0, .int .i64 0, .int .i64 0, .int .i64 0] 89 (0, 0)) := (hb1.block _ (by omega)).trans HOB.out
      have HBX := hide (HB.out.trans (hb1.mono HB.out.size))
      have k0 : x1.cell? ⟨w.heap.size, 0, none⟩ = some (.int .i64 0) := by rw [cell_of_block hbk]; rfl
      have f0 : x1.frozen? ⟨w.heap.size, 0, none⟩ = false := by simp [World.frozen?, hbk]
      have k1 : x1.cell? ⟨w.heap.size, 1, none⟩ = some (.int .i64 0) := by rw [cell_of_block hbk]; rfl
      have f1 : x1.frozen? ⟨w.heap.size, 1, none⟩ = false := by simp [World.frozen?, hbk]
      have k2 : x1.cell? ⟨w.heap.size, 2, none⟩ = some (.int .i64 0) := by rw [cell_of_block hbk]; rfl
      have f2 : x1.frozen? ⟨w.heap.size, 2, none⟩ = false := by simp [World.frozen?, hbk]
      have k3 : x1.cell? ⟨w.heap.size, 3, none⟩ = some (.int .i64 0) := by rw [cell_of_block hbk]; rfl
      have f3 : x1.frozen? ⟨w.heap.size, 3, none⟩ = false := by simp [World.frozen?, hbk]
      have k4 : x1.cell? ⟨w.heap.size, 4, none⟩ = some (.int .i64 0) := by rw [cell_of_block hbk]; rfl
      have f4 : x1.frozen? ⟨w.heap.size, 4, none⟩ = false := by simp [World.frozen?, hbk]
      have k5 : x1.cell? ⟨w.heap.size, 5, none⟩ = some (.int .i64 0) := by rw [cell_of_block hbk]; rfl
      have f5 : x1.frozen? ⟨w.heap.size, 5, none⟩ = false := by simp [World.frozen?, hbk]
      have k6 : x1.cell? ⟨w.heap.size, 6, none⟩ = some (.int .i64 0) := by rw [cell_of_block hbk]; rfl
      have f6 : x1.frozen? ⟨w.heap.size, 6, none⟩ = false := by simp [World.frozen?, hbk]
      have k7 : x1.cell? ⟨w.heap.size, 7, none⟩ = some (.int .i64 0) := by rw [cell_of_block hbk]; rfl
      have f7 : x1.frozen? ⟨w.heap.size, 7, none⟩ = false := by simp [World.frozen?, hbk]
      have k8 : x1.cell? ⟨w.heap.size, 8, none⟩ = some (.int .i64 0) := by rw [cell_of_block hbk]; rfl
      have f8 : x1.frozen? ⟨w.heap.size, 8, none⟩ = false := by simp [World.frozen?, hbk]
      have k9 : x1.cell? ⟨w.heap.size, 9, none⟩ = some (.int .i64 0) := by rw [cell_of_block hbk]; rfl
      have f9 : x1.frozen? ⟨w.heap.size, 9, none⟩ = false := by simp [World.frozen?, hbk]
      have HT := hide (ten_set (.int .i64 z0) (.int .i64 z1) (.int .i64 z2) (.int .i64 z3) (.int .i64 z4) (.int .i64 z5) (.int .i64 z6) (.int .i64 z7) (.int .i64 z8) (.int .i64 z9) hbk)
      have HF : Hid (Below w.heap.size w ((((((((((x1.setCell ⟨w.heap.size, 0, none⟩ (.int .i64 z0)).setCell ⟨w.heap.size, 1, none⟩ (.int .i64 z1)).setCell ⟨w.heap.size, 2, none⟩ (.int .i64 z2)).setCell ⟨w.heap.size, 3, none⟩ (.int .i64 z3)).setCell ⟨w.heap.size, 4, none⟩ (.int .i64 z4)).setCell ⟨w.heap.size, 5, none⟩ (.int .i64 z5)).setCell ⟨w.heap.size, 6, none⟩ (.int .i64 z6)).setCell ⟨w.heap.size, 7, none⟩ (.int .i64 z7)).setCell ⟨w.heap.size, 8, none⟩ (.int .i64 z8)).setCell ⟨w.heap.size, 9, none⟩ (.int .i64 z9))) := ((((((((((HBX.out.setCell (Nat.le_refl _) _).setCell (Nat.le_refl _) _).setCell (Nat.le_refl _) _).setCell (Nat.le_refl _) _).setCell (Nat.le_refl _) _).setCell (Nat.le_refl _) _).setCell (Nat.le_refl _) _).setCell (Nat.le_refl _) _).setCell (Nat.le_refl _) _).setCell (Nat.le_refl _) _)
      clear hbk hb1 hz c0 c1 c2 c3 c4 c5 c6 c7 c8 c9
      go_wp2_with fail
      have s0 : ((((((((((x1.setCell ⟨w.heap.size, 0, none⟩ (.int .i64 z0)).setCell ⟨w.heap.size, 1, none⟩ (.int .i64 z1)).setCell ⟨w.heap.size, 2, none⟩ (.int .i64 z2)).setCell ⟨w.heap.size, 3, none⟩ (.int .i64 z3)).setCell ⟨w.heap.size, 4, none⟩ (.int .i64 z4)).setCell ⟨w.heap.size, 5, none⟩ (.int .i64 z5)).setCell ⟨w.heap.size, 6, none⟩ (.int .i64 z6)).setCell ⟨w.heap.size, 7, none⟩ (.int .i64 z7)).setCell ⟨w.heap.size, 8, none⟩ (.int .i64 z8)).setCell ⟨w.heap.size, 9, none⟩ (.int .i64 z9)).cell? ⟨w.heap.size, 0, none⟩ = some (.int .i64 z0) := by rw [cell_of_block HT.out]; rfl
      have s1 : ((((((((((x1.setCell ⟨w.heap.size, 0, none⟩ (.int .i64 z0)).setCell ⟨w.heap.size, 1, none⟩ (.int .i64 z1)).setCell ⟨w.heap.size, 2, none⟩ (.int .i64 z2)).setCell ⟨w.heap.size, 3, none⟩ (.int .i64 z3)).setCell ⟨w.heap.size, 4, none⟩ (.int .i64 z4)).setCell ⟨w.heap.size, 5, none⟩ (.int .i64 z5)).setCell ⟨w.heap.size, 6, none⟩ (.int .i64 z6)).setCell ⟨w.heap.size, 7, none⟩ (.int .i64 z7)).setCell ⟨w.heap.size, 8, none⟩ (.int .i64 z8)).setCell ⟨w.heap.size, 9, none⟩ (.int .i64 z9)).cell? ⟨w.heap.size, 1, none⟩ = some (.int .i64 z1) := by rw [cell_of_block HT.out]; rfl
      have s2 : ((((((((((x1.setCell ⟨w.heap.size, 0, none⟩ (.int .i64 z0)).setCell ⟨w.heap.size, 1, none⟩ (.int .i64 z1)).setCell ⟨w.heap.size, 2, none⟩ (.int .i64 z2)).setCell ⟨w.heap.size, 3, none⟩ (.int .i64 z3)).setCell ⟨w.heap.size, 4, none⟩ (.int .i64 z4)).setCell ⟨w.heap.size, 5, none⟩ (.int .i64 z5)).setCell ⟨w.heap.size, 6, none⟩ (.int .i64 z6)).setCell ⟨w.heap.size, 7, none⟩ (.int .i64 z7)).setCell ⟨w.heap.size, 8, none⟩ (.int .i64 z8)).setCell ⟨w.heap.size, 9, none⟩ (.int .i64 z9)).cell? ⟨w.heap.size, 2, none⟩ = some (.int .i64 z2) := by rw [cell_of_block HT.out]; rfl
      have s3 : ((((((((((x1.setCell ⟨w.heap.size, 0, none⟩ (.int .i64 z0)).setCell ⟨w.heap.size, 1, none⟩ (.int .i64 z1)).setCell ⟨w.heap.size, 2, none⟩ (.int .i64 z2)).setCell ⟨w.heap.size, 3, none⟩ (.int .i64 z3)).setCell ⟨w.heap.size, 4, none⟩ (.int .i64 z4)).setCell ⟨w.heap.size, 5, none⟩ (.int .i64 z5)).setCell ⟨w.heap.size, 6, none⟩ (.int .i64 z6)).setCell ⟨w.heap.size, 7, none⟩ (.int .i64 z7)).setCell ⟨w.heap.size, 8, none⟩ (.int .i64 z8)).setCell ⟨w.heap.size, 9, none⟩ (.int .i64 z9)).cell? ⟨w.heap.size, 3, none⟩ = some (.int .i64 z3) := by rw [cell_of_block HT.out]; rfl
      have s4 : ((((((((((x1.setCell ⟨w.heap.size, 0, none⟩ (.int .i64 z0)).setCell ⟨w.heap.size, 1, none⟩ (.int .i64 z1)).setCell ⟨w.heap.size, 2, none⟩ (.int .i64 z2)).setCell ⟨w.heap.size, 3, none⟩ (.int .i64 z3)).setCell ⟨w.heap.size, 4, none⟩ (.int .i64 z4)).setCell ⟨w.heap.size, 5, none⟩ (.int .i64 z5)).setCell ⟨w.heap.size, 6, none⟩ (.int .i64 z6)).setCell ⟨w.heap.size, 7, none⟩ (.int .i64 z7)).setCell ⟨w.heap.size, 8, none⟩ (.int .i64 z8)).setCell ⟨w.heap.size, 9, none⟩ (.int .i64 z9)).cell? ⟨w.heap.size, 4, none⟩ = some (.int .i64 z4) := by rw [cell_of_block HT.out]; rfl
      have s5 : ((((((((((x1.setCell ⟨w.heap.size, 0, none⟩ (.int .i64 z0)).setCell ⟨w.heap.size, 1, none⟩ (.int .i64 z1)).setCell ⟨w.heap.size, 2, none⟩ (.int .i64 z2)).setCell ⟨w.heap.size, 3, none⟩ (.int .i64 z3)).setCell ⟨w.heap.size, 4, none⟩ (.int .i64 z4)).setCell ⟨w.heap.size, 5, none⟩ (.int .i64 z5)).setCell ⟨w.heap.size, 6, none⟩ (.int .i64 z6)).setCell ⟨w.heap.size, 7, none⟩ (.int .i64 z7)).setCell ⟨w.heap.size, 8, none⟩ (.int .i64 z8)).setCell ⟨w.heap.size, 9, none⟩ (.int .i64 z9)).cell? ⟨w.heap.size, 5, none⟩ = some (.int .i64 z5) := by rw [cell_of_block HT.out]; rfl
      have s6 : ((((((((((x1.setCell ⟨w.heap.size, 0, none⟩ (.int .i64 z0)).setCell ⟨w.heap.size, 1, none⟩ (.int .i64 z1)).setCell ⟨w.heap.size, 2, none⟩ (.int .i64 z2)).setCell ⟨w.heap.size, 3, none⟩ (.int .i64 z3)).setCell ⟨w.heap.size, 4, none⟩ (.int .i64 z4)).setCell ⟨w.heap.size, 5, none⟩ (.int .i64 z5)).setCell ⟨w.heap.size, 6, none⟩ (.int .i64 z6)).setCell ⟨w.heap.size, 7, none⟩ (.int .i64 z7)).setCell ⟨w.heap.size, 8, none⟩ (.int .i64 z8)).setCell ⟨w.heap.size, 9, none⟩ (.int .i64 z9)).cell? ⟨w.heap.size, 6, none⟩ = some (.int .i64 z6) := by rw [cell_of_block HT.out]; rfl
      have s7 : ((((((((((x1.setCell ⟨w.heap.size, 0, none⟩ (.int .i64 z0)).setCell ⟨w.heap.size, 1, none⟩ (.int .i64 z1)).setCell ⟨w.heap.size, 2, none⟩ (.int .i64 z2)).setCell ⟨w.heap.size, 3, none⟩ (.int .i64 z3)).setCell ⟨w.heap.size, 4, none⟩ (.int .i64 z4)).setCell ⟨w.heap.size, 5, none⟩ (.int .i64 z5)).setCell ⟨w.heap.size, 6, none⟩ (.int .i64 z6)).setCell ⟨w.heap.size, 7, none⟩ (.int .i64 z7)).setCell ⟨w.heap.size, 8, none⟩ (.int .i64 z8)).setCell ⟨w.heap.size, 9, none⟩ (.int .i64 z9)).cell? ⟨w.heap.size, 7, none⟩ = some (.int .i64 z7) := by rw [cell_of_block HT.out]; rfl
      have s8 : ((((((((((x1.setCell ⟨w.heap.size, 0, none⟩ (.int .i64 z0)).setCell ⟨w.heap.size, 1, none⟩ (.int .i64 z1)).setCell ⟨w.heap.size, 2, none⟩ (.int .i64 z2)).setCell ⟨w.heap.size, 3, none⟩ (.int .i64 z3)).setCell ⟨w.heap.size, 4, none⟩ (.int .i64 z4)).setCell ⟨w.heap.size, 5, none⟩ (.int .i64 z5)).setCell ⟨w.heap.size, 6, none⟩ (.int .i64 z6)).setCell ⟨w.heap.size, 7, none⟩ (.int .i64 z7)).setCell ⟨w.heap.size, 8, none⟩ (.int .i64 z8)).setCell ⟨w.heap.size, 9, none⟩ (.int .i64 z9)).cell? ⟨w.heap.size, 8, none⟩ = some (.int .i64 z8) := by rw [cell_of_block HT.out]; rfl
      have s9 : ((((((((((x1.setCell ⟨w.heap.size, 0, none⟩ (.int .i64 z0)).setCell ⟨w.heap.size, 1, none⟩ (.int .i64 z1)).setCell ⟨w.heap.size, 2, none⟩ (.int .i64 z2)).setCell ⟨w.heap.size, 3, none⟩ (.int .i64 z3)).setCell ⟨w.heap.size, 4, none⟩ (.int .i64 z4)).setCell ⟨w.heap.size, 5, none⟩ (.int .i64 z5)).setCell ⟨w.heap.size, 6, none⟩ (.int .i64 z6)).setCell ⟨w.heap.size, 7, none⟩ (.int .i64 z7)).setCell ⟨w.heap.size, 8, none⟩ (.int .i64 z8)).setCell ⟨w.heap.size, 9, none⟩ (.int .i64 z9)).cell? ⟨w.heap.size, 9, none⟩ = some (.int .i64 z9) := by rw [cell_of_block HT.out]; rfl
      obtain ⟨e0, e1, e2, e3, e4, e5, e6, e7, e8, e9⟩ := HE.out
      exact bodyPost_ret (v := .agg #[.int .i64 z0, .int .i64 z1, .int .i64 z2, .int .i64 z3, .int .i64 z4, .int .i64 z5, .int .i64 z6, .int .i64 z7, .int .i64 z8, .int .i64 z9]) (by simp [results, Try.results62, go_sem, s0, s1, s2, s3, s4, s5, s6, s7, s8, s9]) rfl ⟨by rw [e0, e1, e2, e3, e4, e5, e6, e7, e8, e9], HF.out⟩
set_option maxHeartbeats 8000000 in
theorem cget_no (b : List Int) (ba : Option Addr) (bc : Nat) (w : World) (h : BytesV w (.slice ba b.length bc) b) (hno : okB b = false) :
    Calls Try.prog 28 #[.slice ba b.length bc] w (GetPost b w) := by
  have HN := hide (get_none hno)
  have hbl : b.length ≤ 9223372036854775807 := by obtain ⟨_, _, e, h1, h2, _⟩ := h; unfold maxLen at h2; omega
  have HZK : Hid ((w.alloc (.cells #[.int .i64 0, .int .i64 0, .slice none 0 0] 40)).heap[w.heap.size]? = some (.cells #[.int .i64 0, .int .i64 0, .slice none 0 0] 40 (0, 0))) := new_blkS _ _ _
  have HPOST : Hid (∀ y, Below w.heap.size w y → GetPost b w (.returned (.tuple #[.agg #[.int .i64 0, .int .i64 0, .slice none 0 0], .int .i64 2])) y) := fun y hy => by
    refine ⟨hy, 0, 0, .slice none 0 0, by rw [HN.out.2], ?_⟩
    rw [HN.out.1]
    exact none_kern _
  have HBY : Hid (BytesV (w.alloc (.cells #[.int .i64 0, .int .i64 0, .slice none 0 0] 40)) (.slice ba b.length bc) b) := h.below (below_alloc1 _ _)
  have HBA : Hid (Below w.heap.size w (w.alloc (.cells #[.int .i64 0, .int .i64 0, .slice none 0 0] 40))) := below_alloc1 _ _
  have HOK : Hid (24 ≤ b.length → ¬ (0 ≤ atB b 2 ∧ atB b 2 ≤ 16 ∧ (b.length : Int) = 24 + 80 * atB b 2)) := fun h24 ⟨k1, k2, k3⟩ => by
    unfold okB at hno
    rw [decide_eq_true h24, inR_yes ⟨k1, k2⟩, decide_eq_true k3] at hno
    cases hno
  have HBO : Hid (∀ W, Calls Try.prog 56 #[.int .i64 0] W fun e w' => e = .returned (.int .i64 24) ∧ w' = W) := fun W => bytesOf_any 0 W (by omega)
  clear h hno
  by_cases h24 : b.length < 24
  · have h24i : (b.length : Int) < 24 := by omega
    go_enter Try.func28, Try.ntmps28
    go_wp2_with fail
    refine (HBO.out _).mono ?_
    rintro e w' ⟨rfl, hw'⟩
    have hw' := hw'.symm; subst hw'
    go_wp2_with fail
    exact bodyPost_ret (v := .tuple #[.agg #[.int .i64 0, .int .i64 0, .slice none 0 0], .int .i64 2]) (by simp [results, Try.results28, go_sem]) rfl (HPOST.out _ HBA.out)
  · have h24i : ¬ (b.length : Int) < 24 := by omega
    have HAT := hide (fun W (h : BytesV W (.slice ba b.length bc) b) => numberAt_int (.slice ba b.length bc) b 2 2 rfl W h (by omega) (by omega))
    have hno2 := HOK.out (by omega)
    have hrg := atB_range b 2
    obtain ⟨mn, hmn⟩ : ∃ mn, atB b 2 = mn := ⟨_, rfl⟩
    rw [hmn] at HAT hno2 hrg
    clear hmn HOK
    have HNO2 := hide hno2
    clear hno2
    obtain ⟨hrg1, hrg2⟩ := hrg
    by_cases hm0 : mn < 0
    · go_enter Try.func28, Try.ntmps28
      go_wp2_with fail
      refine (HBO.out _).mono ?_
      rintro e w' ⟨rfl, hw'⟩
      have hw' := hw'.symm; subst hw'
      go_wp2_with fail
      refine (HAT.out _ HBY.out).mono ?_
      rintro e w' ⟨rfl, hw'⟩
      have hw' := hw'.symm; subst hw'
      go_wp2_with fail
      exact bodyPost_ret (v := .tuple #[.agg #[.int .i64 0, .int .i64 0, .slice none 0 0], .int .i64 2]) (by simp [results, Try.results28, go_sem]) rfl (HPOST.out _ HBA.out)
    · by_cases hm16 : 16 < mn
      · go_enter Try.func28, Try.ntmps28
        go_wp2_with fail
        refine (HBO.out _).mono ?_
        rintro e w' ⟨rfl, hw'⟩
        have hw' := hw'.symm; subst hw'
        go_wp2_with fail
        refine (HAT.out _ HBY.out).mono ?_
        rintro e w' ⟨rfl, hw'⟩
        have hw' := hw'.symm; subst hw'
        go_wp2_with fail
        exact bodyPost_ret (v := .tuple #[.agg #[.int .i64 0, .int .i64 0, .slice none 0 0], .int .i64 2]) (by simp [results, Try.results28, go_sem]) rfl (HPOST.out _ HBA.out)
      · obtain ⟨m, rfl⟩ : ∃ m : Nat, mn = (m : Int) := ⟨mn.toNat, by omega⟩
        have HBM := hide (fun W => bytesOf_any m W (by omega))
        have hne : ¬ (b.length : Int) = 24 + 80 * (m : Int) := fun e => HNO2.out ⟨by omega, by omega, e⟩
        have hd1 : decide ((m : Int) < 0) = false := decide_eq_false hm0
        have hd2 : decide (16 < (m : Int)) = false := decide_eq_false hm16
        have hd3 : ((b.length : Int) != 24 + 80 * (m : Int)) = true := bne_iff_ne.2 hne
        go_enter Try.func28, Try.ntmps28
        go_wp2_with fail
        refine (HBO.out _).mono ?_
        rintro e w' ⟨rfl, hw'⟩
        have hw' := hw'.symm; subst hw'
        go_wp2_with fail
        refine (HAT.out _ HBY.out).mono ?_
        rintro e w' ⟨rfl, hw'⟩
        have hw' := hw'.symm; subst hw'
        go_wp2_with fail
        refine (HBM.out _).mono ?_
        rintro e w' ⟨rfl, hw'⟩
        have hw' := hw'.symm; subst hw'
        go_wp2_with fail
        exact bodyPost_ret (v := .tuple #[.agg #[.int .i64 0, .int .i64 0, .slice none 0 0], .int .i64 2]) (by simp [results, Try.results28, go_sem]) rfl (HPOST.out _ HBA.out)

set_option maxHeartbeats 16000000 in
theorem cget_yes (b : List Int) (ba : Option Addr) (bc : Nat) (w : World) (h : BytesV w (.slice ba b.length bc) b) (hok : okB b = true) :
    Calls Try.prog 28 #[.slice ba b.length bc] w (GetPost b w) := by
  have HN := hide (get_some hok)
  obtain ⟨h24, hmr, hln⟩ : 24 ≤ b.length ∧ (0 ≤ atB b 2 ∧ atB b 2 ≤ 16) ∧ (b.length : Int) = 24 + 80 * atB b 2 := by
    unfold okB at hok
    simp only [Bool.and_eq_true, decide_eq_true_eq] at hok
    exact ⟨hok.1.1, inR_iff.1 hok.1.2, hok.2⟩
  obtain ⟨n, hn⟩ : ∃ n : Nat, atB b 2 = (n : Int) := ⟨(atB b 2).toNat, by omega⟩
  obtain ⟨i0, hi, hz0, hz1, hz2⟩ := info_parts Try.iop89
  have HKB : Hid (kernB b = ⟨atB b 0, atB b 1, (List.range n).map (opB b)⟩) := by show _ = _; unfold kernB; rw [hn, Int.toNat_natCast]
  have HA := hide (fun (k : Nat) (z : Int) (hz : z = (k : Int)) (hk : 8 * k + 8 ≤ b.length) (hk2 : k ≤ 1000) W (h : BytesV W (.slice ba b.length bc) b) => numberAt_int (.slice ba b.length bc) b k z hz W h hk hk2)
  have HB0 := hide (HA.out 0 0 rfl (by omega) (by omega))
  have HB1 := hide (HA.out 1 1 rfl (by omega) (by omega))
  have HB2 := hide (HA.out 2 2 rfl (by omega) (by omega))
  rw [hn] at hmr hln HB2
  have HBX : Hid (BytesV (w.alloc (.cells #[.int .i64 0, .int .i64 0, .slice none 0 0] 40)) (.slice ba b.length bc) b) := h.below (below_alloc1 _ _)
  have HZ1 : Hid ((w.alloc (.cells #[.int .i64 0, .int .i64 0, .slice none 0 0] 40)).heap.size = w.heap.size + 1) := by show _ = _; simp
  have HRB : Hid ((w.alloc (.cells #[.int .i64 0, .int .i64 0, .slice none 0 0] 40)).heap[w.heap.size]? = some (.cells #[.int .i64 0, .int .i64 0, .slice none 0 0] 40 (0, 0))) := new_blkS _ _ _
  have HX1 : Hid (Below w.heap.size w (w.alloc (.cells #[.int .i64 0, .int .i64 0, .slice none 0 0] 40))) := below_alloc1 _ _
  have hbl : b.length ≤ 9223372036854775807 := by obtain ⟨_, _, e, h1, h2, _⟩ := h; unfold maxLen at h2; omega
  have HBV := hide h
  obtain ⟨pc, hpc⟩ : ∃ pc, atB b 0 = pc := ⟨_, rfl⟩
  obtain ⟨st, hst⟩ : ∃ st, atB b 1 = st := ⟨_, rfl⟩
  rw [hpc] at HB0 HKB
  rw [hst] at HB1 HKB
  have HST := hide (RowK.start (w.alloc (.cells #[.int .i64 0, .int .i64 0, .slice none 0 0] 40)) pc st (opB b))
  have hd1 : decide ((n : Int) < 0) = false := decide_eq_false (by omega)
  have hd2 : decide ((16 : Int) < (n : Int)) = false := decide_eq_false (by omega)
  have hd3 : ((b.length : Int) != 24 + 80 * (n : Int)) = false := by rw [hln]; simp
  have hn16 : n ≤ 16 := by omega
  have HBO : Hid (∀ W, Calls Try.prog 56 #[.int .i64 0] W fun e w' => e = .returned (.int .i64 24) ∧ w' = W) := fun W => bytesOf_any 0 W (by omega)
  have HBM := hide (fun W => bytesOf_any n W (by omega))
  have HOPA := hide (fun (k : Nat) (hk : k < n) W (h : BytesV W (.slice ba b.length bc) b) => opAt_any (.slice ba b.length bc) b k W h (by omega) (by omega))
  clear h hok hn hpc hst
  go_enter Try.func28, Try.ntmps28
  go_wp2_with fail
  refine (HBO.out _).mono ?_
  rintro e w' ⟨rfl, hw'⟩
  have hw' := hw'.symm; subst hw'
  go_wp2_with fail
  refine (HB2.out _ HBX.out).mono ?_
  rintro e w' ⟨rfl, hw'⟩
  have hw' := hw'.symm; subst hw'
  go_wp2_with fail
  refine (HBM.out _).mono ?_
  rintro e w' ⟨rfl, hw'⟩
  have hw' := hw'.symm; subst hw'
  go_wp2_with fail
  refine (HB0.out _ HBX.out).mono ?_
  rintro e w' ⟨rfl, hw'⟩
  have hw' := hw'.symm; subst hw'
  go_wp2_with fail
  refine (HB1.out _ HBX.out).mono ?_
  rintro e w' ⟨rfl, hw'⟩
  have hw' := hw'.symm; subst hw'
  go_wp2_with fail
  go_loopw [34] (fun iv wr => ∃ k : Nat, k ≤ n ∧ iv = .int .i64 k ∧ RowK (w.alloc (.cells #[.int .i64 0, .int .i64 0, .slice none 0 0] 40)) pc st (opB b) k wr) (fun iv _ => n - (intOf iv).toNat)
  case atStart => exact ⟨0, Nat.zero_le _, rfl, HST.out⟩
  case round =>
    clear HST
    obtain ⟨k, hk, rfl, hrow⟩ := hrel
    have hbw : Below w.heap.size w wr := HX1.out.trans (hrow.bel.mono (by rw [HZ1.out]; omega))
    have HBW : Hid (BytesV wr (.slice ba b.length bc) b) := HBV.out.below hbw
    have hlt := hrow.lt
    rw [HZ1.out] at hlt
    have HROW := hide hrow
    by_cases hkl : k < n
    · have hki : (k : Int) < (n : Int) := by omega
      have HOP := hide (HOPA.out k hkl wr.drew (HBW.out.below ((Below.refl _ _).drew)))
      obtain ⟨la, lc, hkb, hown⟩ := hrow.blk
      have HNEXT := hide (fun y w1 la' lc' h1 h2 h3 h4 => RowK.next (y := y) (w1 := w1) (la' := la') (lc' := lc') hrow hown h1 h2 h3 h4)
      have HOPB : Hid (opB b k = ⟨atB b (3 + 10 * k), atB b (3 + 10 * k + 1), atB b (3 + 10 * k + 2), atB b (3 + 10 * k + 3), atB b (3 + 10 * k + 4), atB b (3 + 10 * k + 5), atB b (3 + 10 * k + 6), atB b (3 + 10 * k + 7), atB b (3 + 10 * k + 8), atB b (3 + 10 * k + 9)⟩) := rfl
      rw [HOPB.out] at HNEXT
      generalize atB b (3 + 10 * k) = z0 at HOP HNEXT
      generalize atB b (3 + 10 * k + 1) = z1 at HOP HNEXT
      generalize atB b (3 + 10 * k + 2) = z2 at HOP HNEXT
      generalize atB b (3 + 10 * k + 3) = z3 at HOP HNEXT
      generalize atB b (3 + 10 * k + 4) = z4 at HOP HNEXT
      generalize atB b (3 + 10 * k + 5) = z5 at HOP HNEXT
      generalize atB b (3 + 10 * k + 6) = z6 at HOP HNEXT
      generalize atB b (3 + 10 * k + 7) = z7 at HOP HNEXT
      generalize atB b (3 + 10 * k + 8) = z8 at HOP HNEXT
      generalize atB b (3 + 10 * k + 9) = z9 at HOP HNEXT
      rw [HZ1.out] at HNEXT hkb hown
      have HKBK := hide hkb
      have HOWN := hide hown
      have hown6 := ownz_shape hown
      obtain ⟨la9, lc9, hsh, hkc, hcm⟩ := hown6
      injection hsh with hsh1 hsh2 hsh3
      clear hsh1 hsh2
      subst hsh3
      unfold maxLen at hcm
      have m0 : wr.cell? ⟨w.heap.size + 1, 0, none⟩ = some (.int .i64 pc) := by rw [cell_of_block hkb]; rfl
      have m1 : wr.cell? ⟨w.heap.size + 1, 1, none⟩ = some (.int .i64 st) := by rw [cell_of_block hkb]; rfl
      have m2 : wr.cell? ⟨w.heap.size + 1, 2, none⟩ = some (.slice la k lc) := by rw [cell_of_block hkb]; rfl
      have hkne : ¬ wr.heap.size = w.heap.size + 1 := by omega
      have hkne2 : ¬ w.heap.size + 1 = wr.heap.size := by omega
      have HBR := hide hrow.bel
      rw [HZ1.out] at HBR
      have HNE : Hid (∀ y : World, Below wr.heap.size wr y → Below (w.heap.size + 1) (w.alloc (.cells #[.int .i64 0, .int .i64 0, .slice none 0 0] 40)) y ∧ y.heap[w.heap.size + 1]? = some (.cells #[.int .i64 pc, .int .i64 st, .slice la k lc] 40 (0, 0))) := fun y hy => ⟨HBR.out.trans (hy.mono (by omega)), (hy.block _ (by omega)).trans HKBK.out⟩
      clear hkb hown hrow hbw hkne hkne2
      rename World => wo
      go_wp2_with fail
      refine wp_region_noPanic ?_
      refine region_until 8 (fun w' => w'.cell? ⟨w.heap.size + 1, 2, none⟩ = some (.slice la k lc)) (by kernel_rfl) m2 (fun hHeld => ?_)
      refine utk (i := 0) rfl hHeld ?_
      try simp only [Act.put, List.setIfInBounds_toArray, List.set_cons_zero, List.set_cons_succ]
      refine utk (i := 1) rfl hHeld ?_
      try simp only [Act.put, List.setIfInBounds_toArray, List.set_cons_zero, List.set_cons_succ]
      refine utk (i := 2) rfl hHeld ?_
      try simp only [Act.put, List.setIfInBounds_toArray, List.set_cons_zero, List.set_cons_succ]
      refine utk (i := 3) rfl hHeld ?_
      try simp only [Act.put, List.setIfInBounds_toArray, List.set_cons_zero, List.set_cons_succ]
      refine until_one (i := 4) rfl (by kernel_rfl) (fun K hK => ?_)
      go_simp
      refine HOP.out.mono ?_
      rintro e x5 ⟨rfl, hb5⟩
      have HB5 : Hid (Below wo.heap.size wo x5) := (Below.refl _ _).drew.trans hb5
      obtain ⟨hne1, hne2⟩ := HNE.out x5 HB5.out
      have m5 : x5.cell? ⟨w.heap.size + 1, 2, none⟩ = some (.slice la k lc) := by rw [cell_of_block hne2]; rfl
      refine hK.out _ _ (.inr m5) ?_
      clear hK K hHeld hne1 hne2 hb5
      try simp only [Act.put, List.setIfInBounds_toArray, List.set_cons_zero, List.set_cons_succ]
      refine until_one (i := 5) rfl (by kernel_rfl) (fun K hK => ?_)
      go_simp
      have HB6 := hide (HB5.out.trans ((below_alloc1 x5 (.cells #[.int .i64 z0, .int .i64 z1, .int .i64 z2, .int .i64 z3, .int .i64 z4, .int .i64 z5, .int .i64 z6, .int .i64 z7, .int .i64 z8, .int .i64 z9] 89)).mono HB5.out.size))
      obtain ⟨hne1, hne2⟩ := HNE.out _ HB6.out
      have m6 : (x5.alloc (.cells #[.int .i64 z0, .int .i64 z1, .int .i64 z2, .int .i64 z3, .int .i64 z4, .int .i64 z5, .int .i64 z6, .int .i64 z7, .int .i64 z8, .int .i64 z9] 89)).cell? ⟨w.heap.size + 1, 2, none⟩ = some (.slice la k lc) := by rw [cell_of_block hne2]; rfl
      have HN6 := hide (And.intro hne1 hne2)
      have HTC := hide (ten_cellsE x5 #[.int .i64 z0, .int .i64 z1, .int .i64 z2, .int .i64 z3, .int .i64 z4, .int .i64 z5, .int .i64 z6, .int .i64 z7, .int .i64 z8, .int .i64 z9] 89)
      have HOW6 := hide (own_below HOWN.out HB6.out)
      refine hK.out _ _ (.inr m6) ?_
      clear hK K hne1 hne2
      try simp only [Act.put, List.setIfInBounds_toArray, List.set_cons_zero, List.set_cons_succ]
      refine until_one (i := 6) rfl (by kernel_rfl) (fun K hK => ?_)
      refine step_append_lies _ (by rfl) (.tmp 38) (.tmp 42) 38 (by rfl) (w.heap.size + 1 + 1) 89 i0 (.agg #[.int .i64 0, .int .i64 0, .int .i64 0, .int .i64 0, .int .i64 0, .int .i64 0, .int .i64 0, .int .i64 0, .int .i64 0, .int .i64 0]) 10 80 Try.underlying38 hi hz0 hz1 hz2 rfl (by decide) _ k _ (by rfl) HOW6.out ⟨x5.heap.size, 0, none⟩ 1 1 [.int .i64 z0, .int .i64 z1, .int .i64 z2, .int .i64 z3, .int .i64 z4, .int .i64 z5, .int .i64 z6, .int .i64 z7, .int .i64 z8, .int .i64 z9] (by rfl) rfl HTC.out (by intro u hu; simp at hu; rcases hu with rfl | rfl | rfl | rfl | rfl | rfl | rfl | rfl | rfl | rfl <;> rfl) (by decide) (by unfold maxLen; omega) (by omega) (by have := HB6.out.size; omega) _ rfl ?_
      intro g2 lc2 w2 hown2 hgrow2 hat2 hlt2
      have HNX := hide (HNEXT.out _ w2 _ _ HN6.out.1 HN6.out.2 hown2 hgrow2)
      have m7 : w2.cell? ⟨w.heap.size + 1, 2, none⟩ = some (.slice la k lc) := by rw [cell_of_block HNX.out.2]; rfl
      have mf : w2.frozen? ⟨w.heap.size + 1, 2, none⟩ = false := by simp [World.frozen?, HNX.out.2]
      have ml : w.heap.size + 1 < w2.heap.size := (Array.getElem?_eq_some_iff.1 HNX.out.2).1
      clear hown2 hgrow2 hat2 hlt2
      refine hK.out _ _ (.inr m7) ?_
      clear hK K
      try simp only [Act.put, List.setIfInBounds_toArray, List.set_cons_zero, List.set_cons_succ]
      refine utk (i := 7) rfl m7 ?_
      try simp only [Act.put, List.setIfInBounds_toArray, List.set_cons_zero, List.set_cons_succ]
      refine until_one (i := 8) rfl (by kernel_rfl) (fun K hK => ?_)
      go_simp
      refine hK.out _ _ (.inl rfl) ?_
      clear hK K
      try simp only [Act.put, List.setIfInBounds_toArray, List.set_cons_zero, List.set_cons_succ]
      refine until_done (by kernel_rfl) ?_ _
      refine NoPanic.normal ?_
      go_wp2_with fail
      go_roundw
      case rel =>
        have h := HNX.out.1
        exact ⟨k + 1, by omega, by go_num, by first | exact h | (rw [HZ1.out]; exact h)⟩
      case measure => simp [intOf]; omega
    · have e : k = n := by omega
      subst e
      have hki : ¬ (k : Int) < (k : Int) := by omega
      obtain ⟨la, lc, hkb, hown⟩ := hrow.blk
      have hrb : wr.heap[w.heap.size]? = some (.cells #[.int .i64 0, .int .i64 0, .slice none 0 0] 40 (0, 0)) := (hrow.bel.block _ (by rw [HZ1.out]; omega)).trans HRB.out
      rw [HZ1.out] at hkb hown
      have m0 : wr.cell? ⟨w.heap.size + 1, 0, none⟩ = some (.int .i64 pc) := by rw [cell_of_block hkb]; rfl
      have m1 : wr.cell? ⟨w.heap.size + 1, 1, none⟩ = some (.int .i64 st) := by rw [cell_of_block hkb]; rfl
      have m2 : wr.cell? ⟨w.heap.size + 1, 2, none⟩ = some (.slice la k lc) := by rw [cell_of_block hkb]; rfl
      have k0 : wr.cell? ⟨w.heap.size, 0, none⟩ = some (.int .i64 0) := by rw [cell_of_block hrb]; rfl
      have k1 : wr.cell? ⟨w.heap.size, 1, none⟩ = some (.int .i64 0) := by rw [cell_of_block hrb]; rfl
      have k2 : wr.cell? ⟨w.heap.size, 2, none⟩ = some (.slice none 0 0) := by rw [cell_of_block hrb]; rfl
      have f0 : wr.frozen? ⟨w.heap.size, 0, none⟩ = false := by simp [World.frozen?, hrb]
      have f1 : wr.frozen? ⟨w.heap.size, 1, none⟩ = false := by simp [World.frozen?, hrb]
      have f2 : wr.frozen? ⟨w.heap.size, 2, none⟩ = false := by simp [World.frozen?, hrb]
      have HT := hide (triple_set (a' := .int .i64 pc) (b' := .int .i64 st) (d' := .slice la k lc) hrb)
      have HF : Hid (GetPost b w (.returned (.tuple #[.agg #[.int .i64 pc, .int .i64 st, .slice la k lc], .int .i64 0])) (((wr.setCell ⟨w.heap.size, 0, none⟩ (.int .i64 pc)).setCell ⟨w.heap.size, 1, none⟩ (.int .i64 st)).setCell ⟨w.heap.size, 2, none⟩ (.slice la k lc))) := by
        refine ⟨((hbw.setCell (Nat.le_refl _) _).setCell (Nat.le_refl _) _).setCell (Nat.le_refl _) _, pc, st, _, by rw [HN.out.2], ?_⟩
        rw [HN.out.1, HKB.out]
        exact ⟨_, rfl, ops3 hown (by omega) _ _ _⟩
      clear hkb hown hrow hbw hrb
      go_wp2_with fail
      have s0 : (((wr.setCell ⟨w.heap.size, 0, none⟩ (.int .i64 pc)).setCell ⟨w.heap.size, 1, none⟩ (.int .i64 st)).setCell ⟨w.heap.size, 2, none⟩ (.slice la k lc)).cell? ⟨w.heap.size, 0, none⟩ = some (.int .i64 pc) := by rw [cell_of_block HT.out]; rfl
      have s1 : (((wr.setCell ⟨w.heap.size, 0, none⟩ (.int .i64 pc)).setCell ⟨w.heap.size, 1, none⟩ (.int .i64 st)).setCell ⟨w.heap.size, 2, none⟩ (.slice la k lc)).cell? ⟨w.heap.size, 1, none⟩ = some (.int .i64 st) := by rw [cell_of_block HT.out]; rfl
      have s2 : (((wr.setCell ⟨w.heap.size, 0, none⟩ (.int .i64 pc)).setCell ⟨w.heap.size, 1, none⟩ (.int .i64 st)).setCell ⟨w.heap.size, 2, none⟩ (.slice la k lc)).cell? ⟨w.heap.size, 2, none⟩ = some (.slice la k lc) := by rw [cell_of_block HT.out]; rfl
      exact bodyPost_ret (v := .tuple #[.agg #[.int .i64 pc, .int .i64 st, .slice la k lc], .int .i64 0]) (by simp [results, Try.results28, go_sem, s0, s1, s2]) rfl HF.out
theorem get_all : GetC := fun v b w h => by
  have h' := h
  obtain ⟨ba, bc, rfl, -⟩ := h'
  cases hok : okB b with
  | false => exact cget_no b ba bc w h hok
  | true => exact cget_yes b ba bc w h hok
end Go.Proofs.Ytjdbmldkgjcniab
