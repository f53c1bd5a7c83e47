/- Package emit's small functions: destsMay, opOf, nameAt. -/
import Derived.Test.YtkpkpaobhnhgpabKernS
import Derived.Test.YtkpkpaobhnhgpabBase
import Derived.Test.YtkpkpaobhnhgpabRef2L
namespace Go.Proofs.Ytkpkpaobhnhgpab
open Go.RowKit Go.Joins
set_option linter.unusedVariables false
set_option linter.unusedSimpArgs false
set_option maxRecDepth 8192

set_option maxHeartbeats 1000000 in
theorem edests_any (p0 p1 p2 q0 q1 q2 r : Int) (D : List Int) (ta : Option Addr) (tc : Nat) (w : World) (h : Ints w (.slice ta D.length tc) D) :
    Calls Try.prog 40 #[.agg #[.int .i64 p0, .int .i64 p1, .int .i64 p2, .int .i64 q0, .int .i64 q1, .int .i64 q2, .int .i64 r], .slice ta D.length tc] w fun e w' => e = .returned (.bool (allN (fun s => inR (nth D s) 0 (r - 1)) D.length)) ∧ Below w.heap.size w w' := by
  obtain ⟨a, cap, he, hl, hm, hr, hc⟩ := h
  injection he with e1 e2 e3
  subst e1; subst e3
  unfold maxLen at hm
  clear e2
  have HC := hide hc
  clear hc hr
  go_enter Try.func40, Try.ntmps40
  go_wp2_with fail
  go_loopw [9] (fun i wr => ∃ k : Nat, k ≤ D.length ∧ i = .int .i64 k ∧ allN (fun s => inR (nth D s) 0 (r - 1)) k = true ∧ wr = w.alloc (.cells #[.int .i64 p0, .int .i64 p1, .int .i64 p2, .int .i64 q0, .int .i64 q1, .int .i64 q2, .int .i64 r] 28)) (fun i _ => D.length - (intOf i).toNat)
  case atStart => exact ⟨0, Nat.zero_le _, rfl, rfl, rfl⟩
  case round =>
    obtain ⟨k, hk, rfl, hall, rfl⟩ := hrel
    have HA := hide hall
    clear hall
    by_cases hlt : k < D.length
    · obtain ⟨b, off, rfl, hb, hcell⟩ := HC.out (by omega)
      have hck := hcell k hlt
      have hki : (k : Int) < (D.length : Int) := by omega
      clear hcell HC
      obtain ⟨x, hx⟩ : ∃ x, nth D k = x := ⟨_, rfl⟩
      rw [hx] at hck
      have HX := hide hx
      clear hx
      by_cases h0 : x < 0
      · have HF : Hid (allN (fun s => inR (nth D s) 0 (r - 1)) D.length = false) := allN_false hlt (by rw [HX.out]; exact inR_no (by omega))
        go_wp2_with fail
        go_ret
        exact ⟨ret_bool (by rw [HF.out]), below_alloc1 _ _⟩
      · by_cases h1 : r ≤ x
        · have HF : Hid (allN (fun s => inR (nth D s) 0 (r - 1)) D.length = false) := allN_false hlt (by rw [HX.out]; exact inR_no (by omega))
          go_wp2_with fail
          go_ret
          exact ⟨ret_bool (by rw [HF.out]), below_alloc1 _ _⟩
        · have HF : Hid (inR (nth D k) 0 (r - 1) = true) := by show _ = _; rw [HX.out]; exact inR_yes (by omega)
          go_wp2_with fail
          go_roundw
          case rel => exact ⟨k + 1, by omega, by go_num, allN_step HA.out HF.out, by first | trivial | rfl⟩
          case measure => simp [intOf]; omega
    · have e : k = D.length := by omega
      subst e
      have hki : ¬ (D.length : Int) < (D.length : Int) := by omega
      go_wp2_with fail
      go_ret
      exact ⟨ret_bool (by rw [HA.out]), below_alloc1 _ _⟩

set_option maxHeartbeats 1000000 in
theorem nameAt_any (x0 x1 x2 x3 x4 x5 x6 x7 x8 x9 p r : Int) (w : World) (h1 : 0 ≤ x1) (h2 : x1 ≤ 1000) (h3 : 0 ≤ x3) (h4 : x3 ≤ 128) (h5 : 0 ≤ p) (h6 : p ≤ 5000) (h7 : 1 ≤ r) (h8 : r ≤ 128) :
    Calls Try.prog 80 #[.agg #[.int .i64 x0, .int .i64 x1, .int .i64 x2, .int .i64 x3, .int .i64 x4, .int .i64 x5, .int .i64 x6, .int .i64 x7, .int .i64 x8, .int .i64 x9], .int .i64 p, .int .i64 r] w fun e w' => e = .returned (.int .i64 ((x3 + x1 - p) % r)) ∧ Below w.heap.size w w' := by
  have hp0 : ¬ r = 0 := by omega
  obtain ⟨rm, hrm⟩ : ∃ rm, (x3 + x1 - p).tmod r = rm := ⟨_, rfl⟩
  have hw0 : wrap64 (x3 + x1) = x3 + x1 := by unfold wrap64; omega
  have hw1 : wrap64 (x3 + x1 - p) = x3 + x1 - p := by unfold wrap64; omega
  have hb : -128 < rm ∧ rm < 128 ∧ (x3 + x1 - p) % r = if rm < 0 then rm + r else rm := by
    have e1 := Int.emod_nonneg (x3 + x1 - p) (show r ≠ 0 by omega)
    have e2 := Int.emod_lt_of_pos (x3 + x1 - p) (show 0 < r by omega)
    rw [Int.tmod_eq_emod] at hrm
    split at hrm
    · rw [if_neg (by omega)]; omega
    · have en : ((r.natAbs : Nat) : Int) = r := by omega
      have e3 : (x3 + x1 - p) % r ≠ 0 := fun h => by rename_i hd; exact hd (Or.inr (Int.dvd_of_emod_eq_zero h))
      rw [if_pos (by omega)]; omega
  obtain ⟨hb1, hb2, hb3⟩ := hb
  have hw2 : wrap64 rm = rm := by unfold wrap64; omega
  have hw3 : wrap64 (rm + r) = rm + r := by unfold wrap64; omega
  rw [hb3]
  clear hb3
  by_cases hn : rm < 0
  · rw [if_pos hn]
    go_enter Try.func80, Try.ntmps80
    go_wp2_with fail
    go_ret
    exact ⟨rfl, below_alloc1 _ _⟩
  · rw [if_neg hn]
    go_enter Try.func80, Try.ntmps80
    go_wp2_with fail
    go_ret
    exact ⟨rfl, below_alloc1 _ _⟩

set_option maxHeartbeats 2000000 in
theorem opOf_any (o xa xb ya yb ar sp pl nn tm p d : Int) (w : World) (h0 : 0 ≤ tm) (h1 : tm ≤ 1000) (h3 : 1 ≤ p) (h4 : p ≤ 200) :
    Calls Try.prog 41 #[.agg #[.int .i64 o, .int .i64 xa, .int .i64 xb, .int .i64 ya, .int .i64 yb, .int .i64 ar, .int .i64 sp, .int .i64 pl, .int .i64 nn], .int .i64 tm, .int .i64 p, .int .i64 d] w fun e w' => e = .returned (.agg #[.int .i64 (tm % p), .int .i64 (tm / p), .int .i64 o, .int .i64 d, .int .i64 0, .int .i64 0, .int .i64 ar, .int .i64 sp, .int .i64 pl, .int .i64 nn]) ∧ Below w.heap.size w w' := by
  have hp0 : ¬ p = 0 := by omega
  have hm1 := Int.emod_nonneg tm (show p ≠ 0 by omega)
  have hm2 := Int.emod_lt_of_pos tm (show 0 < p by omega)
  have hq1 : 0 ≤ tm / p := Int.ediv_nonneg h0 (by omega)
  have hq2 : tm / p ≤ tm := Int.ediv_le_self _ h0
  have ht1 : tm.tmod p = tm % p := Int.tmod_eq_emod_of_nonneg h0
  have ht2 : tm.tdiv p = tm / p := Int.tdiv_eq_ediv_of_nonneg h0
  obtain ⟨rm, hrm⟩ : ∃ rm, tm % p = rm := ⟨_, rfl⟩
  obtain ⟨qt, hqt⟩ : ∃ qt, tm / p = qt := ⟨_, rfl⟩
  rw [hrm] at hm1 hm2 ht1 ⊢
  rw [hqt] at hq1 hq2 ht2 ⊢
  have hw1 : wrap64 rm = rm := by unfold wrap64; omega
  have hw2 : IntKind.i64.wrap rm = rm := i64_wrap _ (by omega) (by omega)
  have hw3 : wrap64 qt = qt := by unfold wrap64; omega
  have hw4 : IntKind.i64.wrap qt = qt := i64_wrap _ (by omega) (by omega)
  clear hrm hqt
  go_enter Try.func41, Try.ntmps41
  go_wp2_with fail
  refine wp_region_noPanic ?_
  refine region_until 18 (fun w' => (w'.cell? ⟨w.heap.size, 0, none⟩ = some (.int .i64 o) ∧ w'.cell? ⟨w.heap.size, 5, none⟩ = some (.int .i64 ar) ∧ w'.cell? ⟨w.heap.size, 6, none⟩ = some (.int .i64 sp) ∧ w'.cell? ⟨w.heap.size, 7, none⟩ = some (.int .i64 pl) ∧ w'.cell? ⟨w.heap.size, 8, none⟩ = some (.int .i64 nn))) (by kernel_rfl) ⟨by go_simp, by go_simp, by go_simp, by go_simp, by go_simp⟩ (fun hHeld => ?_)
  refine until_take (i := 0) (v := ?_) rfl (by kernel_rfl) (by kernel_rfl) (by kernel_rfl) (by kernel_rfl) (fun _ _ _ h => h) (Or.inl ⟨by rfl, ?_⟩) hHeld ?_
  rotate_left
  · intro w hSw
    try dsimp only at hSw
    go_simp
    try with_reducible rfl
  try simp only [Act.put, List.setIfInBounds_toArray, List.set_cons_zero, List.set_cons_succ]
  refine until_take (i := 1) (v := ?_) rfl (by kernel_rfl) (by kernel_rfl) (by kernel_rfl) (by kernel_rfl) (fun _ _ _ h => h) (Or.inl ⟨by rfl, ?_⟩) hHeld ?_
  rotate_left
  · intro w hSw
    try dsimp only at hSw
    go_simp
    try with_reducible rfl
  try simp only [Act.put, List.setIfInBounds_toArray, List.set_cons_zero, List.set_cons_succ]
  refine until_take (i := 2) (v := ?_) rfl (by kernel_rfl) (by kernel_rfl) (by kernel_rfl) (by kernel_rfl) (fun _ _ _ h => h) (Or.inl ⟨by rfl, ?_⟩) hHeld ?_
  rotate_left
  · intro w hSw
    try dsimp only at hSw
    go_simp
    try with_reducible rfl
  try simp only [Act.put, List.setIfInBounds_toArray, List.set_cons_zero, List.set_cons_succ]
  refine until_take (i := 3) (v := ?_) rfl (by kernel_rfl) (by kernel_rfl) (by kernel_rfl) (by kernel_rfl) (fun _ _ _ h => h) (Or.inl ⟨by rfl, ?_⟩) hHeld ?_
  rotate_left
  · intro w hSw
    try dsimp only at hSw
    go_simp
    try with_reducible rfl
  try simp only [Act.put, List.setIfInBounds_toArray, List.set_cons_zero, List.set_cons_succ]
  refine until_take (i := 4) (v := ?_) rfl (by kernel_rfl) (by kernel_rfl) (by kernel_rfl) (by kernel_rfl) (fun _ _ _ h => h) (Or.inl ⟨by rfl, ?_⟩) hHeld ?_
  rotate_left
  · intro w hSw
    try dsimp only at hSw
    go_simp
    try with_reducible rfl
  try simp only [Act.put, List.setIfInBounds_toArray, List.set_cons_zero, List.set_cons_succ]
  refine until_take (i := 5) (v := ?_) rfl (by kernel_rfl) (by kernel_rfl) (by kernel_rfl) (by kernel_rfl) (fun _ _ _ h => h) (Or.inl ⟨by rfl, ?_⟩) hHeld ?_
  rotate_left
  · intro w hSw
    try dsimp only at hSw
    go_simp
    try with_reducible rfl
  try simp only [Act.put, List.setIfInBounds_toArray, List.set_cons_zero, List.set_cons_succ]
  refine until_take (i := 6) (v := ?_) rfl (by kernel_rfl) (by kernel_rfl) (by kernel_rfl) (by kernel_rfl) (fun _ _ _ h => h) (Or.inl ⟨by rfl, ?_⟩) hHeld ?_
  rotate_left
  · intro w hSw
    try dsimp only at hSw
    go_simp
    try with_reducible rfl
  try simp only [Act.put, List.setIfInBounds_toArray, List.set_cons_zero, List.set_cons_succ]
  refine until_take (i := 7) (v := ?_) rfl (by kernel_rfl) (by kernel_rfl) (by kernel_rfl) (by kernel_rfl) (fun _ _ _ h => h) (Or.inl ⟨by rfl, ?_⟩) hHeld ?_
  rotate_left
  · intro w hSw
    try dsimp only at hSw
    go_simp
    try with_reducible rfl
  try simp only [Act.put, List.setIfInBounds_toArray, List.set_cons_zero, List.set_cons_succ]
  refine until_take (i := 8) (v := ?_) rfl (by kernel_rfl) (by kernel_rfl) (by kernel_rfl) (by kernel_rfl) (fun _ _ _ h => h) (Or.inl ⟨by rfl, ?_⟩) hHeld ?_
  rotate_left
  · intro w hSw
    try dsimp only at hSw
    go_simp
    try with_reducible rfl
  try simp only [Act.put, List.setIfInBounds_toArray, List.set_cons_zero, List.set_cons_succ]
  refine until_take (i := 9) (v := ?_) rfl (by kernel_rfl) (by kernel_rfl) (by kernel_rfl) (by kernel_rfl) (fun _ _ _ h => h) (Or.inl ⟨by rfl, ?_⟩) hHeld ?_
  rotate_left
  · intro w hSw
    try dsimp only at hSw
    go_simp
    try with_reducible rfl
  try simp only [Act.put, List.setIfInBounds_toArray, List.set_cons_zero, List.set_cons_succ]
  refine until_take (i := 10) (v := ?_) rfl (by kernel_rfl) (by kernel_rfl) (by kernel_rfl) (by kernel_rfl) (fun _ _ _ h => h) (Or.inl ⟨by rfl, ?_⟩) hHeld ?_
  rotate_left
  · intro w hSw
    try dsimp only at hSw
    go_simp
    try with_reducible rfl
  try simp only [Act.put, List.setIfInBounds_toArray, List.set_cons_zero, List.set_cons_succ]
  refine until_take (i := 11) (v := ?_) rfl (by kernel_rfl) (by kernel_rfl) (by kernel_rfl) (by kernel_rfl) (fun _ _ _ h => h) (Or.inl ⟨by rfl, ?_⟩) hHeld ?_
  rotate_left
  · intro w hSw
    try dsimp only at hSw
    go_simp
    try with_reducible rfl
  try simp only [Act.put, List.setIfInBounds_toArray, List.set_cons_zero, List.set_cons_succ]
  refine until_take (i := 12) (v := ?_) rfl (by kernel_rfl) (by kernel_rfl) (by kernel_rfl) (by kernel_rfl) (fun _ _ _ h => h) (Or.inl ⟨by rfl, ?_⟩) hHeld ?_
  rotate_left
  · intro w hSw
    try dsimp only at hSw
    go_simp
    try with_reducible rfl
  try simp only [Act.put, List.setIfInBounds_toArray, List.set_cons_zero, List.set_cons_succ]
  refine until_take (i := 13) (v := ?_) rfl (by kernel_rfl) (by kernel_rfl) (by kernel_rfl) (by kernel_rfl) (fun _ _ _ h => h) (Or.inl ⟨by rfl, ?_⟩) hHeld ?_
  rotate_left
  · intro w hSw
    try dsimp only at hSw
    go_simp
    try with_reducible rfl
  try simp only [Act.put, List.setIfInBounds_toArray, List.set_cons_zero, List.set_cons_succ]
  refine until_take (i := 14) (v := ?_) rfl (by kernel_rfl) (by kernel_rfl) (by kernel_rfl) (by kernel_rfl) (fun _ _ _ h => h) (Or.inl ⟨by rfl, ?_⟩) hHeld ?_
  rotate_left
  · intro w hSw
    try dsimp only at hSw
    go_simp
    try with_reducible rfl
  try simp only [Act.put, List.setIfInBounds_toArray, List.set_cons_zero, List.set_cons_succ]
  refine until_take (i := 15) (v := ?_) rfl (by kernel_rfl) (by kernel_rfl) (by kernel_rfl) (by kernel_rfl) (fun _ _ _ h => h) (Or.inl ⟨by rfl, ?_⟩) hHeld ?_
  rotate_left
  · intro w hSw
    try dsimp only at hSw
    go_simp
    try with_reducible rfl
  try simp only [Act.put, List.setIfInBounds_toArray, List.set_cons_zero, List.set_cons_succ]
  refine until_take (i := 16) (v := ?_) rfl (by kernel_rfl) (by kernel_rfl) (by kernel_rfl) (by kernel_rfl) (fun _ _ _ h => h) (Or.inl ⟨by rfl, ?_⟩) hHeld ?_
  rotate_left
  · intro w hSw
    try dsimp only at hSw
    go_simp
    try with_reducible rfl
  try simp only [Act.put, List.setIfInBounds_toArray, List.set_cons_zero, List.set_cons_succ]
  refine until_take (i := 17) (v := ?_) rfl (by kernel_rfl) (by kernel_rfl) (by kernel_rfl) (by kernel_rfl) (fun _ _ _ h => h) (Or.inl ⟨by rfl, ?_⟩) hHeld ?_
  rotate_left
  · intro w hSw
    try dsimp only at hSw
    go_simp
    try with_reducible rfl
  try simp only [Act.put, List.setIfInBounds_toArray, List.set_cons_zero, List.set_cons_succ]
  refine until_one (i := 18) rfl (by kernel_rfl) (fun K hK => ?_)
  go_simp
  refine hK.out _ _ (.inl rfl) ?_
  clear hK K
  try simp only [Act.put, List.setIfInBounds_toArray, List.set_cons_zero, List.set_cons_succ]
  refine until_done (by kernel_rfl) ?_ _
  refine NoPanic.normal ?_
  go_wp2_with fail
  exact bodyPost_ret (v := .agg #[.int .i64 rm, .int .i64 qt, .int .i64 o, .int .i64 d, .int .i64 0, .int .i64 0, .int .i64 ar, .int .i64 sp, .int .i64 pl, .int .i64 nn]) (by simp [results, Try.results41, go_sem]) rfl ⟨rfl, (below_alloc2 _ _ _).drew⟩
end Go.Proofs.Ytkpkpaobhnhgpab
