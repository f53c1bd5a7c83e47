/- The contract of the document's own Bytes: a kernel as bytes. -/
import Derived.Test.YtjdbmldkgjcniabRef13Num
namespace Go.Proofs.Ytjdbmldkgjcniab
open Go.RowKit Go.Joins
set_option linter.unusedVariables false
set_option linter.unusedSimpArgs false
set_option maxRecDepth 8192

/-- a new row of numbers, written out -/
theorem ints_new (w : World) (l : List Int) (hl : l.length ≤ 1000) (hr : ∀ i, i < l.length → -9223372036854775808 ≤ nth l i ∧ nth l i ≤ 9223372036854775807) : Ints (w.alloc (.cells (l.map (Value.int .i64)).toArray 3)) (.slice (some ⟨w.heap.size, 0, none⟩) l.length l.length) l := by
  refine ⟨_, _, rfl, Nat.le_refl _, by unfold maxLen; omega, hr, fun _ => ⟨w.heap.size, 0, rfl, by simp, fun i hi => ?_⟩⟩
  rw [Nat.zero_add, cell_of_block (new_blkS w _ _)]
  simp [nth, hi]
theorem opsW_take (l : List Kop) (k : Nat) (h : k < l.length) : opsW (l.take k) ++ opW (opAt l k) = opsW (l.take (k + 1)) := by
  unfold opsW
  rw [List.take_add_one, List.getElem?_eq_getElem h, List.flatMap_append]
  have e : opAt l k = l[k] := by unfold opAt; rw [List.getD, List.getElem?_eq_getElem h]; rfl
  rw [e]
  simp
theorem bytesW_app (a b : List Int) : bytesW (a ++ b) = bytesW a ++ bytesW b := by unfold bytesW; rw [List.flatMap_append]
set_option maxHeartbeats 8000000 in
theorem bytes_any (K : Kn) (ka : Option Addr) (kc : Nat) (w : World) (hK : OpsV w (.slice ka K.ops.length kc) K.ops) (hin : KernIn K) (h16 : K.ops.length ≤ 16) :
    Calls Try.prog 27 #[.agg #[.int .i64 K.pc, .int .i64 K.st, .slice ka K.ops.length kc]] w fun e w' => e = .returned (.string (strOfNums (bytesK K))) ∧ Below w.heap.size w w' := by
  obtain ⟨ka', kc', hk1, hk2, hk3, hkc⟩ := hK
  injection hk1 with e1 e2 e3
  subst e1; subst e3
  unfold maxLen at hk3
  have HKC := hide hkc
  have HIN := hide hin
  have HI3 : Hid (Ints ((w.alloc (.cells #[.int .i64 K.pc, .int .i64 K.st, .slice ka K.ops.length kc] 40)).alloc (.cells #[.int .i64 K.pc, .int .i64 K.st, .int .i64 K.ops.length] 3)) (.slice (some ⟨w.heap.size + 1, 0, none⟩) 3 3) [K.pc, K.st, (K.ops.length : Int)]) := by
    have h := ints_new (w.alloc (.cells #[.int .i64 K.pc, .int .i64 K.st, .slice ka K.ops.length kc] 40)) [K.pc, K.st, (K.ops.length : Int)] (by show 3 ≤ 1000; omega) (fun i hi => by
      have hi3 : i < 3 := hi
      obtain rfl | rfl | rfl : i = 0 ∨ i = 1 ∨ i = 2 := by omega
      · exact hin.1
      · exact hin.2.1
      · show -9223372036854775808 ≤ (K.ops.length : Int) ∧ (K.ops.length : Int) ≤ 9223372036854775807; omega)
    have e : (w.alloc (.cells #[.int .i64 K.pc, .int .i64 K.st, .slice ka K.ops.length kc] 40)).heap.size = w.heap.size + 1 := by simp
    rw [e] at h
    exact h
  have HB1 : Hid (Below w.heap.size w ((w.alloc (.cells #[.int .i64 K.pc, .int .i64 K.st, .slice ka K.ops.length kc] 40)).alloc (.cells #[.int .i64 K.pc, .int .i64 K.st, .int .i64 K.ops.length] 3))) := below_alloc2 _ _ _
  have HKBLK : Hid (((w.alloc (.cells #[.int .i64 K.pc, .int .i64 K.st, .slice ka K.ops.length kc] 40)).alloc (.cells #[.int .i64 K.pc, .int .i64 K.st, .int .i64 K.ops.length] 3)).heap[w.heap.size]? = some (.cells #[.int .i64 K.pc, .int .i64 K.st, .slice ka K.ops.length kc] 40 (0, 0))) := by
    show _ = _
    rw [Below.heap_alloc _ _ _ (by simp)]; exact new_blkS _ _ _
  have HZ1 : Hid (((w.alloc (.cells #[.int .i64 K.pc, .int .i64 K.st, .slice ka K.ops.length kc] 40)).alloc (.cells #[.int .i64 K.pc, .int .i64 K.st, .int .i64 K.ops.length] 3)).heap.size = w.heap.size + 1 + 1) := by show _ = _; simp
  have HNU := hide (fun W (h : Ints W (.slice (some ⟨w.heap.size + 1, 0, none⟩) 3 3) [K.pc, K.st, (K.ops.length : Int)]) => numbers13_any (.slice (some ⟨w.heap.size + 1, 0, none⟩) 3 3) [K.pc, K.st, (K.ops.length : Int)] W h (by show 3 ≤ 1000; omega))
  have H0 : Hid (bytesW [K.pc, K.st, (K.ops.length : Int)] = bytesW ([K.pc, K.st, (K.ops.length : Int)] ++ opsW (K.ops.take 0))) := by show _ = _; rw [List.take_zero]; rfl
  have HE : Hid (bytesW ([K.pc, K.st, (K.ops.length : Int)] ++ opsW (K.ops.take K.ops.length)) = bytesK K) := by show _ = _; rw [List.take_length]; rfl
  clear hkc e2 hin
  go_enter Try.func27, Try.ntmps27
  go_wp2_with fail
  refine (HNU.out _ HI3.out).mono ?_
  rintro e x1 ⟨rfl, hb1⟩
  rw [H0.out]
  have HX1 := hide hb1
  clear hb1 HNU HI3
  go_wp2_with fail
  go_loopw [3, 4] (fun sv iv wr => ∃ k : Nat, k ≤ K.ops.length ∧ sv = .string (strOfNums (bytesW ([K.pc, K.st, (K.ops.length : Int)] ++ opsW (K.ops.take k)))) ∧ iv = .int .i64 k ∧ Below (w.heap.size + 1 + 1) ((w.alloc (.cells #[.int .i64 K.pc, .int .i64 K.st, .slice ka K.ops.length kc] 40)).alloc (.cells #[.int .i64 K.pc, .int .i64 K.st, .int .i64 K.ops.length] 3)) wr) (fun _ iv _ => K.ops.length - (intOf iv).toNat)
  case atStart => exact ⟨0, Nat.zero_le _, rfl, rfl, by rw [← HZ1.out]; exact HX1.out⟩
  case round =>
    clear HX1
    obtain ⟨k, hk, rfl, rfl, hbel⟩ := hrel
    have HB := hide hbel
    have hbw : Below w.heap.size w wr := HB1.out.trans (hbel.mono (by omega))
    have HBW := hide hbw
    have hsz2 : w.heap.size + 1 + 1 ≤ wr.heap.size := by have := hbel.size; rw [HZ1.out] at this; exact this
    have hkb : wr.heap[w.heap.size]? = some (.cells #[.int .i64 K.pc, .int .i64 K.st, .slice ka K.ops.length kc] 40 (0, 0)) := (hbel.block _ (by omega)).trans HKBLK.out
    have m2 : wr.cell? ⟨w.heap.size, 2, none⟩ = some (.slice ka K.ops.length kc) := by rw [cell_of_block hkb]; rfl
    by_cases hkl : k < K.ops.length
    · have hki : (k : Int) < (K.ops.length : Int) := by omega
      obtain ⟨ob, oo, rfl, hobz, hocell⟩ := HKC.out (by omega)
      obtain ⟨c0, c1, c2, c3, c4, c5, c6, c7, c8, c9⟩ := ten (fun j hj => (bcell hbw ob (oo + k * 10 + j) hobz).trans (hocell k hkl j hj))
      have hobw : ob < wr.heap.size := by omega
      have hr := HIN.out.2.2 k hkl
      have HTK := hide (opsW_take K.ops k hkl)
      have HLEN : Hid ((bytesW ([K.pc, K.st, (K.ops.length : Int)] ++ opsW (K.ops.take k))).length ≤ 2000) := by
        show _ ≤ _
        rw [bytes_len, List.length_append, opsW_len, List.length_take]
        show 8 * (3 + 10 * min k K.ops.length) ≤ 2000
        omega
      generalize opAt K.ops k = xo at c0 c1 c2 c3 c4 c5 c6 c7 c8 c9 hr HTK
      obtain ⟨xo0, xo1, xo2, xo3, xo4, xo5, xo6, xo7, xo8, xo9⟩ := xo
      simp only at c0 c1 c2 c3 c4 c5 c6 c7 c8 c9
      have HI9 : Hid (∀ W : World, Ints (W.alloc (.cells #[.int .i64 xo0, .int .i64 xo1, .int .i64 xo2, .int .i64 xo3, .int .i64 xo4, .int .i64 xo5, .int .i64 xo6, .int .i64 xo7, .int .i64 xo8] 3)) (.slice (some ⟨W.heap.size, 0, none⟩) 9 9) [xo0, xo1, xo2, xo3, xo4, xo5, xo6, xo7, xo8]) := fun W => ints_new W [xo0, xo1, xo2, xo3, xo4, xo5, xo6, xo7, xo8] (by show 9 ≤ 1000; omega) (fun i hi => by
        have hi9 : i < 9 := hi
        have h := hr i (by omega)
        obtain rfl | rfl | rfl | rfl | rfl | rfl | rfl | rfl | rfl : i = 0 ∨ i = 1 ∨ i = 2 ∨ i = 3 ∨ i = 4 ∨ i = 5 ∨ i = 6 ∨ i = 7 ∨ i = 8 := by omega
        all_goals exact h)
      have HN9 := hide (fun W g (h : Ints W (.slice (some ⟨g, 0, none⟩) 9 9) [xo0, xo1, xo2, xo3, xo4, xo5, xo6, xo7, xo8]) => numbers13_any (.slice (some ⟨g, 0, none⟩) 9 9) [xo0, xo1, xo2, xo3, xo4, xo5, xo6, xo7, xo8] W h (by show 9 ≤ 1000; omega))
      have h9 : I64 xo9 := hr 9 (by omega)
      have HN1 := hide (fun W => number_any xo9 W h9.1 h9.2)
      have HS1 : Hid (bytesW ([K.pc, K.st, (K.ops.length : Int)] ++ opsW (K.ops.take k)) ++ bytesW [xo0, xo1, xo2, xo3, xo4, xo5, xo6, xo7, xo8] ++ numB xo9 = bytesW ([K.pc, K.st, (K.ops.length : Int)] ++ opsW (K.ops.take (k + 1)))) := by
        show _ = _
        rw [← HTK.out, ← List.append_assoc, bytesW_app _ (opW _), List.append_assoc]
        congr 1
      obtain ⟨pre, hpre⟩ : ∃ pre, bytesW ([K.pc, K.st, (K.ops.length : Int)] ++ opsW (K.ops.take k)) = pre := ⟨_, rfl⟩
      rw [hpre] at HS1 HLEN ⊢
      have hz1 : ¬ 9223372036854775807 < (strOfNums pre).size + (strOfNums (bytesW [xo0, xo1, xo2, xo3, xo4, xo5, xo6, xo7, xo8])).size := by rw [strOfNums_size, strOfNums_size, bytes_len]; have := HLEN.out; show ¬ 9223372036854775807 < pre.length + 8 * 9; omega
      have hz2 : ¬ 9223372036854775807 < (strOfNums (pre ++ bytesW [xo0, xo1, xo2, xo3, xo4, xo5, xo6, xo7, xo8])).size + (strOfNums (numB xo9)).size := by rw [strOfNums_size, strOfNums_size, List.length_append, bytes_len, numB_len]; have := HLEN.out; show ¬ 9223372036854775807 < pre.length + 8 * 9 + 8; omega
      have ha1 : strOfNums pre ++ strOfNums (bytesW [xo0, xo1, xo2, xo3, xo4, xo5, xo6, xo7, xo8]) = strOfNums (pre ++ bytesW [xo0, xo1, xo2, xo3, xo4, xo5, xo6, xo7, xo8]) := str_add _ _
      have ha2 : strOfNums (pre ++ bytesW [xo0, xo1, xo2, xo3, xo4, xo5, xo6, xo7, xo8]) ++ strOfNums (numB xo9) = strOfNums (pre ++ bytesW [xo0, xo1, xo2, xo3, xo4, xo5, xo6, xo7, xo8] ++ numB xo9) := str_add _ _
      have HBOX : Hid (∀ y : World, Below (wr.heap.size + 1) (wr.alloc (.cells #[.int .i64 xo0, .int .i64 xo1, .int .i64 xo2, .int .i64 xo3, .int .i64 xo4, .int .i64 xo5, .int .i64 xo6, .int .i64 xo7, .int .i64 xo8, .int .i64 xo9] 89)) y → y.cell? ⟨wr.heap.size, 0, none⟩ = some (.int .i64 xo0) ∧ y.cell? ⟨wr.heap.size, 1, none⟩ = some (.int .i64 xo1) ∧ y.cell? ⟨wr.heap.size, 2, none⟩ = some (.int .i64 xo2) ∧ y.cell? ⟨wr.heap.size, 3, none⟩ = some (.int .i64 xo3) ∧ y.cell? ⟨wr.heap.size, 4, none⟩ = some (.int .i64 xo4) ∧ y.cell? ⟨wr.heap.size, 5, none⟩ = some (.int .i64 xo5) ∧ y.cell? ⟨wr.heap.size, 6, none⟩ = some (.int .i64 xo6) ∧ y.cell? ⟨wr.heap.size, 7, none⟩ = some (.int .i64 xo7) ∧ y.cell? ⟨wr.heap.size, 8, none⟩ = some (.int .i64 xo8) ∧ y.cell? ⟨wr.heap.size, 9, none⟩ = some (.int .i64 xo9)) := fun y hy => by
        have hb : y.heap[wr.heap.size]? = some (.cells #[.int .i64 xo0, .int .i64 xo1, .int .i64 xo2, .int .i64 xo3, .int .i64 xo4, .int .i64 xo5, .int .i64 xo6, .int .i64 xo7, .int .i64 xo8, .int .i64 xo9] 89 (0, 0)) := (hy.block _ (by omega)).trans (new_blkS _ _ _)
        refine ⟨?_, ?_, ?_, ?_, ?_, ?_, ?_, ?_, ?_, ?_⟩ <;> (rw [cell_of_block hb]; rfl)
      have HBD : Hid (Below (wr.heap.size + 1) (wr.alloc (.cells #[.int .i64 xo0, .int .i64 xo1, .int .i64 xo2, .int .i64 xo3, .int .i64 xo4, .int .i64 xo5, .int .i64 xo6, .int .i64 xo7, .int .i64 xo8, .int .i64 xo9] 89)) (wr.alloc (.cells #[.int .i64 xo0, .int .i64 xo1, .int .i64 xo2, .int .i64 xo3, .int .i64 xo4, .int .i64 xo5, .int .i64 xo6, .int .i64 xo7, .int .i64 xo8, .int .i64 xo9] 89)).drew) := below_dr1 _ _
      have HZB : Hid ((wr.alloc (.cells #[.int .i64 xo0, .int .i64 xo1, .int .i64 xo2, .int .i64 xo3, .int .i64 xo4, .int .i64 xo5, .int .i64 xo6, .int .i64 xo7, .int .i64 xo8, .int .i64 xo9] 89)).drew.heap.size = wr.heap.size + 1) := by show (wr.alloc (.cells #[.int .i64 xo0, .int .i64 xo1, .int .i64 xo2, .int .i64 xo3, .int .i64 xo4, .int .i64 xo5, .int .i64 xo6, .int .i64 xo7, .int .i64 xo8, .int .i64 xo9] 89)).heap.size = _; simp
      have HAL : Hid (Below wr.heap.size wr (wr.alloc (.cells #[.int .i64 xo0, .int .i64 xo1, .int .i64 xo2, .int .i64 xo3, .int .i64 xo4, .int .i64 xo5, .int .i64 xo6, .int .i64 xo7, .int .i64 xo8, .int .i64 xo9] 89))) := below_alloc1 _ _
      have HZA : Hid ((wr.alloc (.cells #[.int .i64 xo0, .int .i64 xo1, .int .i64 xo2, .int .i64 xo3, .int .i64 xo4, .int .i64 xo5, .int .i64 xo6, .int .i64 xo7, .int .i64 xo8, .int .i64 xo9] 89)).heap.size = wr.heap.size + 1) := by show _ = _; simp
      generalize bytesW [xo0, xo1, xo2, xo3, xo4, xo5, xo6, xo7, xo8] = n9 at HN9 HS1 hz1 hz2 ha1 ha2
      clear hocell hbw hbel hkb hpre HTK h9 hr
      go_wp2_with fail
      refine wp_region_noPanic ?_
      refine region_until 99 (fun w' => w'.cell? ⟨wr.heap.size, 0, none⟩ = some (.int .i64 xo0) ∧ w'.cell? ⟨wr.heap.size, 1, none⟩ = some (.int .i64 xo1) ∧ w'.cell? ⟨wr.heap.size, 2, none⟩ = some (.int .i64 xo2) ∧ w'.cell? ⟨wr.heap.size, 3, none⟩ = some (.int .i64 xo3) ∧ w'.cell? ⟨wr.heap.size, 4, none⟩ = some (.int .i64 xo4) ∧ w'.cell? ⟨wr.heap.size, 5, none⟩ = some (.int .i64 xo5) ∧ w'.cell? ⟨wr.heap.size, 6, none⟩ = some (.int .i64 xo6) ∧ w'.cell? ⟨wr.heap.size, 7, none⟩ = some (.int .i64 xo7) ∧ w'.cell? ⟨wr.heap.size, 8, none⟩ = some (.int .i64 xo8) ∧ w'.cell? ⟨wr.heap.size, 9, none⟩ = some (.int .i64 xo9)) (by kernel_rfl) (HBOX.out _ HBD.out) (fun hHeld => ?_)
      generalize (wr.alloc (.cells #[.int .i64 xo0, .int .i64 xo1, .int .i64 xo2, .int .i64 xo3, .int .i64 xo4, .int .i64 xo5, .int .i64 xo6, .int .i64 xo7, .int .i64 xo8, .int .i64 xo9] 89)).drew = y1 at *
      refine utk (i := 0) rfl hHeld ?_
      try simp only [Act.put, List.setIfInBounds_toArray, List.set_cons_zero, List.set_cons_succ]
      refine utk (i := 1) rfl hHeld ?_
      try simp only [Act.put, List.setIfInBounds_toArray, List.set_cons_zero, List.set_cons_succ]
      refine utk (i := 2) rfl hHeld ?_
      try simp only [Act.put, List.setIfInBounds_toArray, List.set_cons_zero, List.set_cons_succ]
      refine utk (i := 3) rfl hHeld ?_
      try simp only [Act.put, List.setIfInBounds_toArray, List.set_cons_zero, List.set_cons_succ]
      refine utk (i := 4) rfl hHeld ?_
      try simp only [Act.put, List.setIfInBounds_toArray, List.set_cons_zero, List.set_cons_succ]
      refine utk (i := 5) rfl hHeld ?_
      try simp only [Act.put, List.setIfInBounds_toArray, List.set_cons_zero, List.set_cons_succ]
      refine utk (i := 6) rfl hHeld ?_
      try simp only [Act.put, List.setIfInBounds_toArray, List.set_cons_zero, List.set_cons_succ]
      refine utk (i := 7) rfl hHeld ?_
      try simp only [Act.put, List.setIfInBounds_toArray, List.set_cons_zero, List.set_cons_succ]
      refine utk (i := 8) rfl hHeld ?_
      try simp only [Act.put, List.setIfInBounds_toArray, List.set_cons_zero, List.set_cons_succ]
      refine utk (i := 9) rfl hHeld ?_
      try simp only [Act.put, List.setIfInBounds_toArray, List.set_cons_zero, List.set_cons_succ]
      refine utk (i := 10) rfl hHeld ?_
      try simp only [Act.put, List.setIfInBounds_toArray, List.set_cons_zero, List.set_cons_succ]
      refine utk (i := 11) rfl hHeld ?_
      try simp only [Act.put, List.setIfInBounds_toArray, List.set_cons_zero, List.set_cons_succ]
      refine utk (i := 12) rfl hHeld ?_
      try simp only [Act.put, List.setIfInBounds_toArray, List.set_cons_zero, List.set_cons_succ]
      refine utk (i := 13) rfl hHeld ?_
      try simp only [Act.put, List.setIfInBounds_toArray, List.set_cons_zero, List.set_cons_succ]
      refine utk (i := 14) rfl hHeld ?_
      try simp only [Act.put, List.setIfInBounds_toArray, List.set_cons_zero, List.set_cons_succ]
      refine utk (i := 15) rfl hHeld ?_
      try simp only [Act.put, List.setIfInBounds_toArray, List.set_cons_zero, List.set_cons_succ]
      refine utk (i := 16) rfl hHeld ?_
      try simp only [Act.put, List.setIfInBounds_toArray, List.set_cons_zero, List.set_cons_succ]
      refine utk (i := 17) rfl hHeld ?_
      try simp only [Act.put, List.setIfInBounds_toArray, List.set_cons_zero, List.set_cons_succ]
      refine utk (i := 18) rfl hHeld ?_
      try simp only [Act.put, List.setIfInBounds_toArray, List.set_cons_zero, List.set_cons_succ]
      refine utk (i := 22) rfl hHeld ?_
      try simp only [Act.put, List.setIfInBounds_toArray, List.set_cons_zero, List.set_cons_succ]
      refine utk (i := 23) rfl hHeld ?_
      try simp only [Act.put, List.setIfInBounds_toArray, List.set_cons_zero, List.set_cons_succ]
      have HB2 : Hid (Below (wr.heap.size + 1) (wr.alloc (.cells #[.int .i64 xo0, .int .i64 xo1, .int .i64 xo2, .int .i64 xo3, .int .i64 xo4, .int .i64 xo5, .int .i64 xo6, .int .i64 xo7, .int .i64 xo8, .int .i64 xo9] 89)) (y1.alloc (.cells #[.int .i64 xo0, .int .i64 xo1, .int .i64 xo2, .int .i64 xo3, .int .i64 xo4, .int .i64 xo5, .int .i64 xo6, .int .i64 xo7, .int .i64 xo8] 3))) := HBD.out.alloc (by rw [HZB.out]; exact Nat.le_refl _) _
      have hHeld2 := HBOX.out _ HB2.out
      refine until_one (i := 19) rfl (by kernel_rfl) (fun K hK => ?_)
      go_simp
      refine hK.out _ _ (.inr hHeld2) ?_
      clear hK K
      try simp only [Act.put, List.setIfInBounds_toArray, List.set_cons_zero, List.set_cons_succ]
      refine until_one (i := 20) rfl (by kernel_rfl) (fun K hK => ?_)
      go_simp
      refine (HN9.out _ _ (HI9.out y1)).mono ?_
      rintro e x2 ⟨rfl, hb2⟩
      have HB3 : Hid (Below (wr.heap.size + 1) (wr.alloc (.cells #[.int .i64 xo0, .int .i64 xo1, .int .i64 xo2, .int .i64 xo3, .int .i64 xo4, .int .i64 xo5, .int .i64 xo6, .int .i64 xo7, .int .i64 xo8, .int .i64 xo9] 89)) x2) := HB2.out.trans (hb2.mono (by show _ ≤ (y1.alloc _).heap.size; have := HZB.out; simp; omega))
      have hHeld := HBOX.out _ HB3.out
      clear hb2 hHeld2
      refine hK.out _ _ (.inr hHeld) ?_
      clear hK K
      try simp only [Act.put, List.setIfInBounds_toArray, List.set_cons_zero, List.set_cons_succ]
      refine utk (i := 21) rfl hHeld ?_
      try simp only [Act.put, List.setIfInBounds_toArray, List.set_cons_zero, List.set_cons_succ]
      refine until_one (i := 24) rfl (by kernel_rfl) (fun K hK => ?_)
      go_simp
      refine (HN1.out _).mono ?_
      rintro e x3 ⟨rfl, hb3⟩
      have HB4 : Hid (Below (wr.heap.size + 1) (wr.alloc (.cells #[.int .i64 xo0, .int .i64 xo1, .int .i64 xo2, .int .i64 xo3, .int .i64 xo4, .int .i64 xo5, .int .i64 xo6, .int .i64 xo7, .int .i64 xo8, .int .i64 xo9] 89)) x3) := HB3.out.trans (hb3.mono (by have := HB3.out.size; rw [HZA.out] at this; exact this))
      have hHeld := HBOX.out _ HB4.out
      clear hb3
      refine hK.out _ _ (.inr hHeld) ?_
      clear hK K
      try simp only [Act.put, List.setIfInBounds_toArray, List.set_cons_zero, List.set_cons_succ]
      refine utk (i := 25) rfl hHeld ?_
      try simp only [Act.put, List.setIfInBounds_toArray, List.set_cons_zero, List.set_cons_succ]
      refine until_one (i := 26) rfl (by kernel_rfl) (fun K hK => ?_)
      go_simp
      refine hK.out _ _ (.inr hHeld) ?_
      clear hK K
      try simp only [Act.put, List.setIfInBounds_toArray, List.set_cons_zero, List.set_cons_succ]
      refine until_done (by kernel_rfl) ?_ _
      refine NoPanic.normal ?_
      have HBX : Hid (Below (w.heap.size + 1 + 1) ((w.alloc (.cells #[.int .i64 K.pc, .int .i64 K.st, .slice (some ⟨ob, oo, none⟩) K.ops.length kc] 40)).alloc (.cells #[.int .i64 K.pc, .int .i64 K.st, .int .i64 K.ops.length] 3)) x3) := HB.out.trans ((HAL.out.trans (HB4.out.mono (by omega))).mono hsz2)
      clear hHeld
      go_wp2_with fail
      go_roundw
      case rel => exact ⟨k + 1, by omega, by rw [← HS1.out]; first | rfl | rw [List.append_assoc], by go_num, HBX.out⟩
      case measure => simp [intOf]; omega
    · have e : k = K.ops.length := by omega
      subst e
      have hki : ¬ (K.ops.length : Int) < (K.ops.length : Int) := by omega
      rw [HE.out]
      clear hbel hbw hkb
      go_wp2_with fail
      exact bodyPost_ret (v := .string (strOfNums (bytesK K))) (by simp [results, Try.results27, go_sem]) rfl ⟨rfl, HBW.out⟩
end Go.Proofs.Ytjdbmldkgjcniab
