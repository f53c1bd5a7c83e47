/- The document's d and ref: a small number's digits, a Ref's text. -/
import Derived.Test.YtjlfcbccpcigeacDoorRef14Digits
import Derived.Test.YtjlfcbccpcigeacDoorSteady
namespace Go.Proofs.YtjlfcbccpcigeacDoor
open Go.RowKit Go.Joins
set_option linter.unusedVariables false
set_option linter.unusedSimpArgs false
set_option maxRecDepth 8192

theorem digits_len {n : Int} (h0 : -9223372036854775808 ≤ n) (h1 : n ≤ 9223372036854775807) : (digitsD n).length ≤ 20 := by
  have := digs_19 h0 h1
  unfold digitsD
  split
  · show _ + 1 ≤ 20; omega
  · omega
theorem cat_l {b A : ByteArray} {l m : List Int} (n : Nat) (hb : b = strOfNums l) (hn : l.length = n) (hA : A = strOfNums m) (hl : n + m.length ≤ 1000000000) : ∃ C, C = strOfNums (l ++ m) ∧ b ++ A = C ∧ ¬ 9223372036854775807 < n + A.size := by
  refine ⟨_, rfl, by rw [hb, hA]; exact str_add l m, ?_⟩
  rw [hA, strOfNums_size]; omega
theorem cat_r {b A : ByteArray} {l m : List Int} (n : Nat) (hb : b = strOfNums l) (hn : l.length = n) (hA : A = strOfNums m) (hl : n + m.length ≤ 1000000000) : ∃ C, C = strOfNums (m ++ l) ∧ A ++ b = C ∧ ¬ 9223372036854775807 < A.size + n := by
  refine ⟨_, rfl, by rw [hb, hA]; exact str_add m l, ?_⟩
  rw [hA, strOfNums_size]; omega
theorem cat_2 {A B : ByteArray} {l m : List Int} (hA : A = strOfNums l) (hB : B = strOfNums m) (hl : l.length + m.length ≤ 1000000000) : ∃ C, C = strOfNums (l ++ m) ∧ A ++ B = C ∧ ¬ 9223372036854775807 < A.size + B.size := by
  refine ⟨_, rfl, by rw [hA, hB]; exact str_add l m, ?_⟩
  rw [hA, hB, strOfNums_size, strOfNums_size]; omega
set_option maxHeartbeats 1000000 in
theorem d14_any (n : Int) (w : World) (h0 : -9223372036854775808 ≤ n) (h1 : n ≤ 9223372036854775807) :
    Calls Tryd.prog 23 #[.int .i64 n] w fun e w' => e = .returned (.string (strOfNums (digitsD n))) ∧ Below w.heap.size w w' := by
  have HD := hide (fun W => digits_any n W h0 h1)
  go_enter Tryd.func23, Tryd.ntmps23
  go_wp2_with fail
  refine (HD.out _).mono ?_
  rintro e y ⟨rfl, hb⟩
  have HB := hide hb
  clear hb
  go_wp2_with fail
  go_ret
  exact ⟨rfl, HB.out⟩
set_option maxHeartbeats 4000000 in
theorem ref14_any (a b : Int) (w : World) (h0 : -9223372036854775808 ≤ a) (h1 : a ≤ 9223372036854775807) (h2 : -9223372036854775808 ≤ b) (h3 : b ≤ 9223372036854775807) :
    Calls Tryd.prog 25 #[.agg #[.int .i64 a, .int .i64 b]] w fun e w' => e = .returned (.string (strOfNums (32 :: refD a b))) ∧ Below w.heap.size w w' := by
  have HDA := hide (fun W => d14_any a W h0 h1)
  have HDB := hide (fun W => d14_any b W h2 h3)
  have HLA := hide (digits_len h0 h1)
  have HLB := hide (digits_len h2 h3)
  have HRF : Hid (refD a b = 35 :: (digitsD a ++ (if b = 0 then [] else 126 :: digitsD b))) := rfl
  obtain ⟨da, hda⟩ : ∃ da, digitsD a = da := ⟨_, rfl⟩
  obtain ⟨db, hdb⟩ : ∃ db, digitsD b = db := ⟨_, rfl⟩
  rw [hda] at HDA HLA HRF
  rw [hdb] at HDB HLB HRF
  have hla := HLA.out
  have hlb := HLB.out
  obtain ⟨A, hA⟩ : ∃ A, A = strOfNums da := ⟨_, rfl⟩
  obtain ⟨B, hB⟩ : ∃ B, B = strOfNums db := ⟨_, rfl⟩
  obtain ⟨C1, hC1, s1, s2⟩ := cat_l (b := ByteArray.mk #[32, 35]) (l := [32, 35]) 2 rfl rfl hA (by omega)
  obtain ⟨C2, hC2, s3, s4⟩ := cat_r (b := ByteArray.mk #[126]) (l := [126]) 1 rfl rfl hC1 (by simp; omega)
  obtain ⟨C3, hC3, s5, s6⟩ := cat_2 hC2 hB (by simp; omega)
  rw [← hA] at HDA
  rw [← hB] at HDB
  have HC1 := hide hC1
  have HC3 := hide hC3
  have HBX := hide (below_alloc1 w (.cells #[.int .i64 a, .int .i64 b] 51))
  clear hda hdb hla hlb HLA HLB hA hB hC1 hC2 hC3
  by_cases hb : b = 0
  · have hbb : (b == 0) = true := by simpa using hb
    have HRES : Hid (strOfNums (32 :: refD a b) = C1) := by show _ = _; rw [HC1.out, HRF.out, if_pos hb, List.append_nil]; rfl
    clear hb
    go_enter Tryd.func25, Tryd.ntmps25
    go_wp2_with fail
    refine (HDA.out _).mono ?_
    rintro e y ⟨rfl, hy⟩
    have HB := hide (HBX.out.trans (hy.mono (by simp)))
    clear hy
    go_wp2_with fail
    go_ret
    exact ⟨by rw [HRES.out]; rfl, HB.out⟩
  · have hbb : (b == 0) = false := by simpa using hb
    have HRES : Hid (strOfNums (32 :: refD a b) = C3) := by
      show _ = _
      rw [HC3.out, HRF.out, if_neg hb]
      simp
    clear hb
    go_enter Tryd.func25, Tryd.ntmps25
    go_wp2_with fail
    have HS : Hid (∀ y, Below (w.heap.size + 1) (w.alloc (.cells #[.int .i64 a, .int .i64 b] 51)) y → y.cell? ⟨w.heap.size, 0, none⟩ = some (.int .i64 a) ∧ y.cell? ⟨w.heap.size, 1, none⟩ = some (.int .i64 b)) := fun y hy => by
      have hb := (hy.block w.heap.size (by omega)).trans (new_blkS w _ _)
      exact ⟨by rw [cell_of_block hb]; rfl, by rw [cell_of_block hb]; rfl⟩
    have HZ : Hid ((w.alloc (.cells #[.int .i64 a, .int .i64 b] 51)).heap.size = w.heap.size + 1) := by show _ = _; simp
    refine region_steady (fun w' => Below (w.heap.size + 1) (w.alloc (.cells #[.int .i64 a, .int .i64 b] 51)) w' ∧ w'.cell? ⟨w.heap.size, 0, none⟩ = some (.int .i64 a) ∧ w'.cell? ⟨w.heap.size, 1, none⟩ = some (.int .i64 b)) 10 (by rfl) (by kernel_rfl) (by kernel_rfl) (by kernel_rfl) ⟨below_dr1 _ _, HS.out _ (below_dr1 _ _)⟩ ?_
    refine steps_take (i := 0) (v := ?_) rfl (Or.inl ⟨by rfl, ?_⟩) ?_
    rotate_left
    · intro w hSw
      try dsimp only at hSw
      go_simp
      try with_reducible rfl
    try simp only [Act.put, List.setIfInBounds_toArray, List.set_cons_zero, List.set_cons_succ]
    refine steps_take (i := 1) (v := ?_) rfl (Or.inl ⟨by rfl, ?_⟩) ?_
    rotate_left
    · intro w hSw
      try dsimp only at hSw
      go_simp
      try with_reducible rfl
    try simp only [Act.put, List.setIfInBounds_toArray, List.set_cons_zero, List.set_cons_succ]
    refine steps_call (i := 2) (.string A) rfl (by rfl) (fun w hSw K hK => ?_) ?_
    · go_simp
      refine (HDA.out _).mono ?_
      rintro e y ⟨rfl, hy⟩
      have hb2 := hSw.1.trans (hy.mono (by have := hSw.1.size; rw [HZ.out] at this; exact this))
      exact hK.out _ _ (by simp only [Act.put, List.setIfInBounds_toArray, List.set_cons_zero, List.set_cons_succ]) ⟨hb2, HS.out _ hb2⟩
    try simp only [Act.put, List.setIfInBounds_toArray, List.set_cons_zero, List.set_cons_succ]
    refine steps_take (i := 3) (v := ?_) rfl (Or.inl ⟨by rfl, ?_⟩) ?_
    rotate_left
    · intro w hSw
      try dsimp only at hSw
      go_simp
      try with_reducible rfl
    try simp only [Act.put, List.setIfInBounds_toArray, List.set_cons_zero, List.set_cons_succ]
    refine steps_take (i := 4) (v := ?_) rfl (Or.inl ⟨by rfl, ?_⟩) ?_
    rotate_left
    · intro w hSw
      try dsimp only at hSw
      go_simp
      try with_reducible rfl
    try simp only [Act.put, List.setIfInBounds_toArray, List.set_cons_zero, List.set_cons_succ]
    refine steps_take (i := 5) (v := ?_) rfl (Or.inl ⟨by rfl, ?_⟩) ?_
    rotate_left
    · intro w hSw
      try dsimp only at hSw
      go_simp
      try with_reducible rfl
    try simp only [Act.put, List.setIfInBounds_toArray, List.set_cons_zero, List.set_cons_succ]
    refine steps_take (i := 6) (v := ?_) rfl (Or.inl ⟨by rfl, ?_⟩) ?_
    rotate_left
    · intro w hSw
      try dsimp only at hSw
      go_simp
      try with_reducible rfl
    try simp only [Act.put, List.setIfInBounds_toArray, List.set_cons_zero, List.set_cons_succ]
    refine steps_call (i := 7) (.string B) rfl (by rfl) (fun w hSw K hK => ?_) ?_
    · go_simp
      refine (HDB.out _).mono ?_
      rintro e y ⟨rfl, hy⟩
      have hb2 := hSw.1.trans (hy.mono (by have := hSw.1.size; rw [HZ.out] at this; exact this))
      exact hK.out _ _ (by simp only [Act.put, List.setIfInBounds_toArray, List.set_cons_zero, List.set_cons_succ]) ⟨hb2, HS.out _ hb2⟩
    try simp only [Act.put, List.setIfInBounds_toArray, List.set_cons_zero, List.set_cons_succ]
    refine steps_take (i := 8) (v := ?_) rfl (Or.inl ⟨by rfl, ?_⟩) ?_
    rotate_left
    · intro w hSw
      try dsimp only at hSw
      go_simp
      try with_reducible rfl
    try simp only [Act.put, List.setIfInBounds_toArray, List.set_cons_zero, List.set_cons_succ]
    refine steps_take (i := 9) (v := ?_) rfl (Or.inl ⟨by rfl, ?_⟩) ?_
    rotate_left
    · intro w hSw
      try dsimp only at hSw
      go_simp
      try with_reducible rfl
    try simp only [Act.put, List.setIfInBounds_toArray, List.set_cons_zero, List.set_cons_succ]
    refine steps_done (fun y hSy => ?_)
    refine NoPanic.normal ?_
    try dsimp only at hSy
    have HB := hide (HBX.out.trans (hSy.1.mono (by omega)))
    clear hSy
    go_wp2_with fail
    go_ret
    exact ⟨by rw [HRES.out]; rfl, HB.out⟩
theorem words14_any (w : World) : Calls Tryd.prog 26 #[] w fun e w' => e = .returned (.slice (some ⟨w.heap.size, 0, none⟩) 8 8) ∧ w' = w.alloc (.cells #[.string (strOfNums (opD 11)), .string (strOfNums (opD 12)), .string (strOfNums (opD 13)), .string (strOfNums (opD 14)), .string (strOfNums (opD 15)), .string (strOfNums (opD 16)), .string (strOfNums (opD 17)), .string (strOfNums (opD 18))] 9) := by
  go_enter Tryd.func26, Tryd.ntmps26
  go_wp2_with fail
  go_ret
  exact ⟨rfl, rfl⟩
end Go.Proofs.YtjlfcbccpcigeacDoor
