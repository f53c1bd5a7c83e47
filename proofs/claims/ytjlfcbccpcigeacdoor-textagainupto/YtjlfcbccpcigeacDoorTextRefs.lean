/- The contracts of package text's refWritten, opOf and refOf. -/
import Derived.Test.YtjlfcbccpcigeacDoorTextNums
import Derived.Test.YtjlfcbccpcigeacDoorRef14Reads
namespace Go.Proofs.YtjlfcbccpcigeacDoor
open Go.RowKit Go.Joins
set_option linter.unusedVariables false
set_option linter.unusedSimpArgs false
set_option maxRecDepth 8192

set_option maxHeartbeats 4000000 in
theorem refWritten_any (a b : Int) (w : World) (hv : VarsP w) (h0 : -9223372036854775808 ≤ a) (h1 : a ≤ 9223372036854775807) (h2 : -9223372036854775808 ≤ b) (h3 : b ≤ 9223372036854775807) :
    Calls Tryd.prog 39 #[.agg #[.int .i64 a, .int .i64 b]] w fun e w' => e = .returned (.string (strOfNums (refD a b))) ∧ Below w.heap.size w w' := by
  have HDA := hide (fun W h => written_any a W h h0 h1)
  have HDB := hide (fun W h => written_any b W h h2 h3)
  have HV := hide hv
  clear hv
  have HLA := hide (digits_len h0 h1)
  have HLB := hide (digits_len h2 h3)
  have HRF : Hid (refD a b = 35 :: (digitsD a ++ (if b = 0 then [] else 126 :: digitsD b))) := rfl
  obtain ⟨da, hda⟩ : ∃ da, digitsD a = da := ⟨_, rfl⟩
  obtain ⟨db, hdb⟩ : ∃ db, digitsD b = db := ⟨_, rfl⟩
  rw [hda] at HDA HLA HRF
  rw [hdb] at HDB HLB HRF
  have hla := HLA.out
  have hlb := HLB.out
  obtain ⟨A, hA⟩ : ∃ A, A = strOfNums da := ⟨_, rfl⟩
  obtain ⟨B, hB⟩ : ∃ B, B = strOfNums db := ⟨_, rfl⟩
  obtain ⟨C1, hC1, s1, s2⟩ := cat_l (b := ByteArray.mk #[35]) (l := [35]) 1 rfl rfl hA (by omega)
  obtain ⟨C2, hC2, s3, s4⟩ := cat_r (b := ByteArray.mk #[126]) (l := [126]) 1 rfl rfl hC1 (by simp; omega)
  obtain ⟨C3, hC3, s5, s6⟩ := cat_2 hC2 hB (by simp; omega)
  rw [← hA] at HDA
  rw [← hB] at HDB
  have HC1 := hide hC1
  have HC3 := hide hC3
  have HBX := hide (below_alloc1 w (.cells #[.int .i64 a, .int .i64 b] 51))
  clear hda hdb hla hlb HLA HLB hA hB hC1 hC2 hC3
  by_cases hb : b = 0
  · have hbb : (b == 0) = true := by simpa using hb
    have HRES : Hid (strOfNums (refD a b) = C1) := by show _ = _; rw [HC1.out, HRF.out, if_pos hb, List.append_nil]; rfl
    clear hb
    go_enter Tryd.func39, Tryd.ntmps39
    go_wp2_with fail
    refine (HDA.out _ (HV.out.on HBX.out)).mono ?_
    rintro e y ⟨rfl, hy⟩
    have HB := hide (HBX.out.trans (hy.mono (by simp)))
    clear hy
    go_wp2_with fail
    go_ret
    exact ⟨by rw [HRES.out]; rfl, HB.out⟩
  · have hbb : (b == 0) = false := by simpa using hb
    have HRES : Hid (strOfNums (refD a b) = C3) := by
      show _ = _
      rw [HC3.out, HRF.out, if_neg hb]
      simp
    clear hb
    go_enter Tryd.func39, Tryd.ntmps39
    go_wp2_with fail
    have HS : Hid (∀ y, Below (w.heap.size + 1) (w.alloc (.cells #[.int .i64 a, .int .i64 b] 51)) y → y.cell? ⟨w.heap.size, 0, none⟩ = some (.int .i64 a) ∧ y.cell? ⟨w.heap.size, 1, none⟩ = some (.int .i64 b)) := fun y hy => by
      have hb := (hy.block w.heap.size (by omega)).trans (new_blkS w _ _)
      exact ⟨by rw [cell_of_block hb]; rfl, by rw [cell_of_block hb]; rfl⟩
    have HZ : Hid ((w.alloc (.cells #[.int .i64 a, .int .i64 b] 51)).heap.size = w.heap.size + 1) := by show _ = _; simp
    refine region_steady (fun w' => Below (w.heap.size + 1) (w.alloc (.cells #[.int .i64 a, .int .i64 b] 51)) w' ∧ w'.cell? ⟨w.heap.size, 0, none⟩ = some (.int .i64 a) ∧ w'.cell? ⟨w.heap.size, 1, none⟩ = some (.int .i64 b)) 10 (by rfl) (by kernel_rfl) (by kernel_rfl) (by kernel_rfl) ⟨below_dr1 _ _, HS.out _ (below_dr1 _ _)⟩ ?_
    refine steps_take (i := 0) (v := ?_) rfl (Or.inl ⟨by rfl, ?_⟩) ?_
    rotate_left
    · intro w hSw
      try dsimp only at hSw
      go_simp
      try with_reducible rfl
    try simp only [Act.put, List.setIfInBounds_toArray, List.set_cons_zero, List.set_cons_succ]
    refine steps_take (i := 1) (v := ?_) rfl (Or.inl ⟨by rfl, ?_⟩) ?_
    rotate_left
    · intro w hSw
      try dsimp only at hSw
      go_simp
      try with_reducible rfl
    try simp only [Act.put, List.setIfInBounds_toArray, List.set_cons_zero, List.set_cons_succ]
    refine steps_call (i := 2) (.string A) rfl (by rfl) (fun w hSw K hK => ?_) ?_
    · go_simp
      refine (HDA.out _ (HV.out.below (HBX.out.trans (hSw.1.mono (by omega))) HV.out.size)).mono ?_
      rintro e y ⟨rfl, hy⟩
      have hb2 := hSw.1.trans (hy.mono (by have := hSw.1.size; rw [HZ.out] at this; exact this))
      exact hK.out _ _ (by simp only [Act.put, List.setIfInBounds_toArray, List.set_cons_zero, List.set_cons_succ]) ⟨hb2, HS.out _ hb2⟩
    try simp only [Act.put, List.setIfInBounds_toArray, List.set_cons_zero, List.set_cons_succ]
    refine steps_take (i := 3) (v := ?_) rfl (Or.inl ⟨by rfl, ?_⟩) ?_
    rotate_left
    · intro w hSw
      try dsimp only at hSw
      go_simp
      try with_reducible rfl
    try simp only [Act.put, List.setIfInBounds_toArray, List.set_cons_zero, List.set_cons_succ]
    refine steps_take (i := 4) (v := ?_) rfl (Or.inl ⟨by rfl, ?_⟩) ?_
    rotate_left
    · intro w hSw
      try dsimp only at hSw
      go_simp
      try with_reducible rfl
    try simp only [Act.put, List.setIfInBounds_toArray, List.set_cons_zero, List.set_cons_succ]
    refine steps_take (i := 5) (v := ?_) rfl (Or.inl ⟨by rfl, ?_⟩) ?_
    rotate_left
    · intro w hSw
      try dsimp only at hSw
      go_simp
      try with_reducible rfl
    try simp only [Act.put, List.setIfInBounds_toArray, List.set_cons_zero, List.set_cons_succ]
    refine steps_take (i := 6) (v := ?_) rfl (Or.inl ⟨by rfl, ?_⟩) ?_
    rotate_left
    · intro w hSw
      try dsimp only at hSw
      go_simp
      try with_reducible rfl
    try simp only [Act.put, List.setIfInBounds_toArray, List.set_cons_zero, List.set_cons_succ]
    refine steps_call (i := 7) (.string B) rfl (by rfl) (fun w hSw K hK => ?_) ?_
    · go_simp
      refine (HDB.out _ (HV.out.below (HBX.out.trans (hSw.1.mono (by omega))) HV.out.size)).mono ?_
      rintro e y ⟨rfl, hy⟩
      have hb2 := hSw.1.trans (hy.mono (by have := hSw.1.size; rw [HZ.out] at this; exact this))
      exact hK.out _ _ (by simp only [Act.put, List.setIfInBounds_toArray, List.set_cons_zero, List.set_cons_succ]) ⟨hb2, HS.out _ hb2⟩
    try simp only [Act.put, List.setIfInBounds_toArray, List.set_cons_zero, List.set_cons_succ]
    refine steps_take (i := 8) (v := ?_) rfl (Or.inl ⟨by rfl, ?_⟩) ?_
    rotate_left
    · intro w hSw
      try dsimp only at hSw
      go_simp
      try with_reducible rfl
    try simp only [Act.put, List.setIfInBounds_toArray, List.set_cons_zero, List.set_cons_succ]
    refine steps_take (i := 9) (v := ?_) rfl (Or.inl ⟨by rfl, ?_⟩) ?_
    rotate_left
    · intro w hSw
      try dsimp only at hSw
      go_simp
      try with_reducible rfl
    try simp only [Act.put, List.setIfInBounds_toArray, List.set_cons_zero, List.set_cons_succ]
    refine steps_done (fun y hSy => ?_)
    refine NoPanic.normal ?_
    try dsimp only at hSy
    have HB := hide (HBX.out.trans (hSy.1.mono (by omega)))
    clear hSy
    go_wp2_with fail
    go_ret
    exact ⟨by rw [HRES.out]; rfl, HB.out⟩

/-- what opOf answers -/
def opF (s : List Int) : Option Int := ([11, 12, 13, 14, 15, 16, 17, 18] : List Int).find? fun o => decide (opD o = s)
theorem opF_at {s : List Int} : ∀ k : Nat, k < 8 → (∀ j : Nat, j < k → ¬ opD (11 + (j : Int)) = s) → opD (11 + (k : Int)) = s → opF s = some (11 + (k : Int)) := by
  intro k hk h he
  unfold opF
  match k, hk with
  | 0, _ => simp [List.find?, show opD 11 = s from he]
  | 1, _ => simp [List.find?, show ¬ opD 11 = s from h 0 (by omega), show opD 12 = s from he]
  | 2, _ => simp [List.find?, show ¬ opD 11 = s from h 0 (by omega), show ¬ opD 12 = s from h 1 (by omega), show opD 13 = s from he]
  | 3, _ => simp [List.find?, show ¬ opD 11 = s from h 0 (by omega), show ¬ opD 12 = s from h 1 (by omega), show ¬ opD 13 = s from h 2 (by omega), show opD 14 = s from he]
  | 4, _ => simp [List.find?, show ¬ opD 11 = s from h 0 (by omega), show ¬ opD 12 = s from h 1 (by omega), show ¬ opD 13 = s from h 2 (by omega), show ¬ opD 14 = s from h 3 (by omega), show opD 15 = s from he]
  | 5, _ => simp [List.find?, show ¬ opD 11 = s from h 0 (by omega), show ¬ opD 12 = s from h 1 (by omega), show ¬ opD 13 = s from h 2 (by omega), show ¬ opD 14 = s from h 3 (by omega), show ¬ opD 15 = s from h 4 (by omega), show opD 16 = s from he]
  | 6, _ => simp [List.find?, show ¬ opD 11 = s from h 0 (by omega), show ¬ opD 12 = s from h 1 (by omega), show ¬ opD 13 = s from h 2 (by omega), show ¬ opD 14 = s from h 3 (by omega), show ¬ opD 15 = s from h 4 (by omega), show ¬ opD 16 = s from h 5 (by omega), show opD 17 = s from he]
  | 7, _ => simp [List.find?, show ¬ opD 11 = s from h 0 (by omega), show ¬ opD 12 = s from h 1 (by omega), show ¬ opD 13 = s from h 2 (by omega), show ¬ opD 14 = s from h 3 (by omega), show ¬ opD 15 = s from h 4 (by omega), show ¬ opD 16 = s from h 5 (by omega), show ¬ opD 17 = s from h 6 (by omega), show opD 18 = s from he]
theorem opF_no {s : List Int} (h : ∀ j : Nat, j < 8 → ¬ opD (11 + (j : Int)) = s) : opF s = none := by
  unfold opF
  simp [List.find?, show ¬ opD 11 = s from h 0 (by omega), show ¬ opD 12 = s from h 1 (by omega), show ¬ opD 13 = s from h 2 (by omega), show ¬ opD 14 = s from h 3 (by omega), show ¬ opD 15 = s from h 4 (by omega), show ¬ opD 16 = s from h 5 (by omega), show ¬ opD 17 = s from h 6 (by omega), show ¬ opD 18 = s from h 7 (by omega)]
def OpPost (s : List Int) (w : World) (e : Ending) (w' : World) : Prop := ∃ o b, e = .returned (.tuple #[.int .i64 o, .bool b]) ∧ b = (opF s).isSome ∧ (∀ m, opF s = some m → o = m) ∧ w' = w
abbrev opsA : Array Value := #[.string (strOfNums (opD 11)), .string (strOfNums (opD 12)), .string (strOfNums (opD 13)), .string (strOfNums (opD 14)), .string (strOfNums (opD 15)), .string (strOfNums (opD 16)), .string (strOfNums (opD 17)), .string (strOfNums (opD 18))]
theorem ops_ix (W : World) : ∀ k : Nat, k < 8 → (Instr.index 73 (.agg opsA) (.int .i64 (k : Int))).run Tryd.prog W = .ok (.string (strOfNums (opD (11 + (k : Int))))) W := by
  intro k hk
  match k, hk with
  | 0, _ => exact (by kernel_rfl : (Instr.index 73 (.agg opsA) (.int .i64 0)).run Tryd.prog W = .ok (.string (strOfNums (opD 11))) W)
  | 1, _ => exact (by kernel_rfl : (Instr.index 73 (.agg opsA) (.int .i64 1)).run Tryd.prog W = .ok (.string (strOfNums (opD 12))) W)
  | 2, _ => exact (by kernel_rfl : (Instr.index 73 (.agg opsA) (.int .i64 2)).run Tryd.prog W = .ok (.string (strOfNums (opD 13))) W)
  | 3, _ => exact (by kernel_rfl : (Instr.index 73 (.agg opsA) (.int .i64 3)).run Tryd.prog W = .ok (.string (strOfNums (opD 14))) W)
  | 4, _ => exact (by kernel_rfl : (Instr.index 73 (.agg opsA) (.int .i64 4)).run Tryd.prog W = .ok (.string (strOfNums (opD 15))) W)
  | 5, _ => exact (by kernel_rfl : (Instr.index 73 (.agg opsA) (.int .i64 5)).run Tryd.prog W = .ok (.string (strOfNums (opD 16))) W)
  | 6, _ => exact (by kernel_rfl : (Instr.index 73 (.agg opsA) (.int .i64 6)).run Tryd.prog W = .ok (.string (strOfNums (opD 17))) W)
  | 7, _ => exact (by kernel_rfl : (Instr.index 73 (.agg opsA) (.int .i64 7)).run Tryd.prog W = .ok (.string (strOfNums (opD 18))) W)
set_option maxHeartbeats 4000000 in
theorem opOf_any (s : List Int) (w : World) (hv : VarsT w) (hs : By s) :
    Calls Tryd.prog 77 #[.string (strOfNums s)] w (OpPost s w) := by
  have c0 : w.cell? ⟨0, 0, none⟩ = some (.string (strOfNums (opD 11))) := hv.ops 0 (by omega)
  have c1 : w.cell? ⟨0, 1, none⟩ = some (.string (strOfNums (opD 12))) := hv.ops 1 (by omega)
  have c2 : w.cell? ⟨0, 2, none⟩ = some (.string (strOfNums (opD 13))) := hv.ops 2 (by omega)
  have c3 : w.cell? ⟨0, 3, none⟩ = some (.string (strOfNums (opD 14))) := hv.ops 3 (by omega)
  have c4 : w.cell? ⟨0, 4, none⟩ = some (.string (strOfNums (opD 15))) := hv.ops 4 (by omega)
  have c5 : w.cell? ⟨0, 5, none⟩ = some (.string (strOfNums (opD 16))) := hv.ops 5 (by omega)
  have c6 : w.cell? ⟨0, 6, none⟩ = some (.string (strOfNums (opD 17))) := hv.ops 6 (by omega)
  have c7 : w.cell? ⟨0, 7, none⟩ = some (.string (strOfNums (opD 18))) := hv.ops 7 (by omega)
  have HIX : Hid (∀ (W : World) (k : Nat), k < 8 → (Instr.index 73 (.agg #[.string (strOfNums (opD 11)), .string (strOfNums (opD 12)), .string (strOfNums (opD 13)), .string (strOfNums (opD 14)), .string (strOfNums (opD 15)), .string (strOfNums (opD 16)), .string (strOfNums (opD 17)), .string (strOfNums (opD 18))]) (.int .i64 (k : Int))).run Tryd.prog W = .ok (.string (strOfNums (opD (11 + (k : Int))))) W) := fun W k hk => ops_ix W k hk
  have HEQ : Hid (∀ k : Nat, ((strOfNums (opD (11 + (k : Int)))).toList == (strOfNums s).toList) = decide (opD (11 + (k : Int)) = s)) := fun k => str_beq (op_byte _) hs
  have HPY : Hid (∀ k : Nat, k < 8 → (∀ j : Nat, j < k → ¬ opD (11 + (j : Int)) = s) → opD (11 + (k : Int)) = s → OpPost s w (.returned (.tuple #[.int .i64 (11 + (k : Int)), .bool true])) w) := fun k hk h he => ⟨_, true, rfl, by rw [opF_at k hk h he]; rfl, fun m hm => by rw [opF_at k hk h he] at hm; exact Option.some.inj hm, rfl⟩
  have HPN : Hid ((∀ j : Nat, j < 8 → ¬ opD (11 + (j : Int)) = s) → OpPost s w (.returned (.tuple #[.int .i64 0, .bool false])) w) := fun h => ⟨0, false, rfl, by rw [opF_no h]; rfl, fun m hm => (by rw [opF_no h] at hm; cases hm), rfl⟩
  clear hv hs
  go_enter Tryd.func77, Tryd.ntmps77
  go_wp2_with fail
  clear c0 c1 c2 c3 c4 c5 c6 c7
  go_loopw [7] (fun i wr => wr = w ∧ ∃ k : Nat, i = .int .i64 (k : Int) ∧ k ≤ 8 ∧ Hid (∀ j : Nat, j < k → ¬ opD (11 + (j : Int)) = s)) (fun i _ => 8 - (intOf i).toNat)
  case atStart => exact ⟨rfl, 0, rfl, by omega, fun j hj => absurd hj (Nat.not_lt_zero j)⟩
  case round =>
    obtain ⟨rfl, k, rfl, hk, HNO⟩ := hrel
    by_cases h8 : k < 8
    · have hix := fun W => HIX.out W k h8
      have heq := HEQ.out k
      have hk1 : (k : Int) < 8 := by omega
      by_cases he : opD (11 + (k : Int)) = s
      · have HPP := hide (HPY.out k h8 HNO.out he)
        rw [decide_eq_true he] at heq
        generalize strOfNums (opD (11 + (k : Int))) = O at *
        clear he
        go_wp2_with fail
        go_ret2
        exact HPP.out
      · have HN1 : Hid (∀ j : Nat, j < k + 1 → ¬ opD (11 + (j : Int)) = s) := fun j hj => by
          rcases Nat.lt_or_ge j k with h | h
          · exact HNO.out j h
          · have : j = k := by omega
            subst this; exact he
        rw [decide_eq_false he] at heq
        generalize strOfNums (opD (11 + (k : Int))) = O at *
        clear he
        go_wp2_with fail
        go_roundw
        case rel => exact ⟨by simp, k + 1, by simp, by omega, HN1⟩
        case measure => simp [intOf]; omega
    · have hk8 : k = 8 := by omega
      subst hk8
      have HPP := hide (HPN.out HNO.out)
      go_wp2_with fail
      go_ret2
      exact HPP.out
end Go.Proofs.YtjlfcbccpcigeacDoor
