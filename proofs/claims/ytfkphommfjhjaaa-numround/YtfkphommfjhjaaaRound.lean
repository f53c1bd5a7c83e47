/- NumRound, for each log from 0 to 5: the law returns true; beyond the limits it returns true, too. -/
import Derived.Test.YtfkphommfjhjaaaIndex
import Derived.Deep.QuietTactic
import Derived.BigQuiet
namespace Go.Proofs.Ytfkphommfjhjaaa
open Go.RowKit
set_option linter.unusedVariables false

theorem grown_drewN (w : World) (n : Nat) : Grown w (w.drewN n) := by
  induction n with
  | zero => exact Grown.refl _
  | succ n ih => exact Grown.drew ih

theorem idx_in (s p t : Int) (L : Nat) (hl : L ≤ 5) (ht0 : 0 ≤ t) (ht : t ≤ 200) (hs0 : -64 ≤ s) (hs : s ≤ 64) (hp0 : -64 ≤ p) (hp : p ≤ 64) :
    idx s p t L = (s * t + p) % p2 L := by
  unfold idx
  rw [if_pos ⟨by omega, by omega, ht0, ht, hs0, hs, hp0, hp⟩, Int.toNat_natCast]
theorem idx_bounds (s p t : Int) (L : Nat) (hl : L ≤ 5) (ht0 : 0 ≤ t) (ht : t ≤ 200) (hs0 : -64 ≤ s) (hs : s ≤ 64) (hp0 : -64 ≤ p) (hp : p ≤ 64) :
    0 ≤ idx s p t L ∧ idx s p t L < p2 L := by
  rw [idx_in s p t L hl ht0 ht hs0 hs hp0 hp]
  have h := p2_pos L
  exact ⟨Int.emod_nonneg _ (by omega), Int.emod_lt_of_pos _ h⟩
theorem idx_on (s p t : Int) (L : Nat) (hl : L ≤ 5) (ht0 : 0 ≤ t) (ht : t + p2 L ≤ 200) (hs0 : -64 ≤ s) (hs : s ≤ 64) (hp0 : -64 ≤ p) (hp : p ≤ 64) :
    idx s p (t + p2 L) L = idx s p t L := by
  have h := p2_pos L
  rw [idx_in s p t L hl ht0 (by omega) hs0 hs hp0 hp, idx_in s p (t + p2 L) L hl (by omega) ht hs0 hs hp0 hp]
  rw [Int.mul_add, show s * t + s * p2 L + p = s * t + p + s * p2 L by omega, Int.add_mul_emod_self_right]
theorem tmod_bound (a b : Int) (hb : 0 < b) : -b ≤ a.tmod b ∧ a.tmod b < b ∧ a.tmod b % b = a % b := by
  have h1 := Int.emod_nonneg a (show b ≠ 0 by omega)
  have h2 := Int.emod_lt_of_pos a hb
  by_cases h : a.tmod b < 0
  · have h3 := tmod_neg a b hb h
    refine ⟨by omega, by omega, ?_⟩
    rw [show a.tmod b = a % b + (-1) * b by omega, Int.add_mul_emod_self_right, Int.emod_emod]
  · have h3 := tmod_pos a b hb (by omega)
    refine ⟨by omega, by omega, ?_⟩
    rw [← h3, Int.emod_emod]
theorem idx_rest (s p t : Int) (L : Nat) (hl : L ≤ 5) (ht0 : 0 ≤ t) (ht : t ≤ 200) (hs0 : -64 ≤ s) (hs : s ≤ 64) (hp0 : -64 ≤ p) (hp : p ≤ 64) :
    idx 0 (wrap64 ((s * t).tmod (p2 L) + p.tmod (p2 L))) 0 L = idx s p t L := by
  have h := p2_pos L
  have hb := p2_le L 5 hl
  rw [p2_5] at hb
  obtain ⟨a1, a2, a3⟩ := tmod_bound (s * t) (p2 L) h
  obtain ⟨b1, b2, b3⟩ := tmod_bound p (p2 L) h
  rw [show wrap64 ((s * t).tmod (p2 L) + p.tmod (p2 L)) = (s * t).tmod (p2 L) + p.tmod (p2 L) by unfold wrap64; omega]
  rw [idx_in s p t L hl ht0 ht hs0 hs hp0 hp, idx_in 0 _ 0 L hl (by omega) (by omega) (by omega) (by omega) (by omega) (by omega)]
  rw [Int.zero_mul, Int.zero_add, Int.add_emod, a3, b3, ← Int.add_emod]
theorem idx_five : idx 1 2 3 3 = 5 := by decide +kernel

set_option maxHeartbeats 400000 in
theorem round_near0 (s p t : Int) (w : World) (ht0 : 0 ≤ t) (ht : t + 1 ≤ 200) (hs0 : -64 ≤ s) (hs : s ≤ 64) (hp0 : -64 ≤ p) (hp : p ≤ 64) :
    Calls Try.prog 4 #[.int .i64 s, .int .i64 p, .int .i64 t, .int .i64 0] w fun e w' => e = .returned (.bool true) ∧ Grown w w' := by
  have hq := idx_five
  obtain ⟨hr0, hr1⟩ := prod_range s t ht0 (by omega) hs0 hs
  have hi0 : 0 ≤ idx s p t 0 := (idx_bounds s p t 0 (by omega) ht0 (by omega) hs0 hs hp0 hp).1
  have hi1 : idx s p t 0 < 1 := (idx_bounds s p t 0 (by omega) ht0 (by omega) hs0 hs hp0 hp).2
  have e1 : idx s p (t + 1) 0 = idx s p t 0 := idx_on s p t 0 (by omega) ht0 ht hs0 hs hp0 hp
  have e2 : idx 0 0 0 0 = idx s p t 0 := by have h := idx_rest s p t 0 (by omega) ht0 (by omega) hs0 hs hp0 hp; simpa [p2_zero, wrap64] using h
  go_enter Try.func4, Try.ntmps4
  go_wp2_with (go_at_call 8; refine (index_any _ _ _ _ _).mono ?_; rintro e w' ⟨rfl, rfl⟩)
  go_quiet ((go_at_call 8; exact Calls.quiet_of_same (index_any _ _ _ _ _)))
  go_wp2
  go_ret
  exact ⟨rfl, grown_drewN _ _⟩

set_option maxHeartbeats 400000 in
theorem round_far0 (s p t : Int) (w : World) (ht0 : 0 ≤ t) (ht1 : t ≤ 200) (ht : 200 < t + 1) (hs0 : -64 ≤ s) (hs : s ≤ 64) (hp0 : -64 ≤ p) (hp : p ≤ 64) :
    Calls Try.prog 4 #[.int .i64 s, .int .i64 p, .int .i64 t, .int .i64 0] w fun e w' => e = .returned (.bool true) ∧ Grown w w' := by
  have hq := idx_five
  have hi0 : 0 ≤ idx s p t 0 := (idx_bounds s p t 0 (by omega) ht0 (by omega) hs0 hs hp0 hp).1
  have hi1 : idx s p t 0 < 1 := (idx_bounds s p t 0 (by omega) ht0 (by omega) hs0 hs hp0 hp).2
  have hd0 : decide (0 ≤ idx s p t 0) = true := decide_eq_true hi0
  have hd1 : decide (idx s p t 0 < 1) = true := decide_eq_true hi1
  go_enter Try.func4, Try.ntmps4
  go_wp2_with (go_at_call 8; refine (index_any _ _ _ _ _).mono ?_; rintro e w' ⟨rfl, rfl⟩)
  go_ret
  exact ⟨rfl, Grown.refl _⟩

set_option maxHeartbeats 400000 in
theorem round_near1 (s p t : Int) (w : World) (ht0 : 0 ≤ t) (ht : t + 2 ≤ 200) (hs0 : -64 ≤ s) (hs : s ≤ 64) (hp0 : -64 ≤ p) (hp : p ≤ 64) :
    Calls Try.prog 4 #[.int .i64 s, .int .i64 p, .int .i64 t, .int .i64 1] w fun e w' => e = .returned (.bool true) ∧ Grown w w' := by
  have hq := idx_five
  obtain ⟨hr0, hr1⟩ := prod_range s t ht0 (by omega) hs0 hs
  have hi0 : 0 ≤ idx s p t 1 := (idx_bounds s p t 1 (by omega) ht0 (by omega) hs0 hs hp0 hp).1
  have hi1 : idx s p t 1 < 2 := (idx_bounds s p t 1 (by omega) ht0 (by omega) hs0 hs hp0 hp).2
  have e1 : idx s p (t + 2) 1 = idx s p t 1 := idx_on s p t 1 (by omega) ht0 ht hs0 hs hp0 hp
  have e2 : idx 0 (wrap64 ((s * t).tmod 2 + p.tmod 2)) 0 1 = idx s p t 1 := idx_rest s p t 1 (by omega) ht0 (by omega) hs0 hs hp0 hp
  go_enter Try.func4, Try.ntmps4
  go_wp2_with (go_at_call 8; refine (index_any _ _ _ _ _).mono ?_; rintro e w' ⟨rfl, rfl⟩)
  go_quiet ((go_at_call 8; exact Calls.quiet_of_same (index_any _ _ _ _ _)))
  go_wp2
  go_ret
  exact ⟨rfl, grown_drewN _ _⟩

set_option maxHeartbeats 400000 in
theorem round_far1 (s p t : Int) (w : World) (ht0 : 0 ≤ t) (ht1 : t ≤ 200) (ht : 200 < t + 2) (hs0 : -64 ≤ s) (hs : s ≤ 64) (hp0 : -64 ≤ p) (hp : p ≤ 64) :
    Calls Try.prog 4 #[.int .i64 s, .int .i64 p, .int .i64 t, .int .i64 1] w fun e w' => e = .returned (.bool true) ∧ Grown w w' := by
  have hq := idx_five
  have hi0 : 0 ≤ idx s p t 1 := (idx_bounds s p t 1 (by omega) ht0 (by omega) hs0 hs hp0 hp).1
  have hi1 : idx s p t 1 < 2 := (idx_bounds s p t 1 (by omega) ht0 (by omega) hs0 hs hp0 hp).2
  have hd0 : decide (0 ≤ idx s p t 1) = true := decide_eq_true hi0
  have hd1 : decide (idx s p t 1 < 2) = true := decide_eq_true hi1
  go_enter Try.func4, Try.ntmps4
  go_wp2_with (go_at_call 8; refine (index_any _ _ _ _ _).mono ?_; rintro e w' ⟨rfl, rfl⟩)
  go_ret
  exact ⟨rfl, Grown.refl _⟩

set_option maxHeartbeats 400000 in
theorem round_near2 (s p t : Int) (w : World) (ht0 : 0 ≤ t) (ht : t + 4 ≤ 200) (hs0 : -64 ≤ s) (hs : s ≤ 64) (hp0 : -64 ≤ p) (hp : p ≤ 64) :
    Calls Try.prog 4 #[.int .i64 s, .int .i64 p, .int .i64 t, .int .i64 2] w fun e w' => e = .returned (.bool true) ∧ Grown w w' := by
  have hq := idx_five
  obtain ⟨hr0, hr1⟩ := prod_range s t ht0 (by omega) hs0 hs
  have hi0 : 0 ≤ idx s p t 2 := (idx_bounds s p t 2 (by omega) ht0 (by omega) hs0 hs hp0 hp).1
  have hi1 : idx s p t 2 < 4 := (idx_bounds s p t 2 (by omega) ht0 (by omega) hs0 hs hp0 hp).2
  have e1 : idx s p (t + 4) 2 = idx s p t 2 := idx_on s p t 2 (by omega) ht0 ht hs0 hs hp0 hp
  have e2 : idx 0 (wrap64 ((s * t).tmod 4 + p.tmod 4)) 0 2 = idx s p t 2 := idx_rest s p t 2 (by omega) ht0 (by omega) hs0 hs hp0 hp
  go_enter Try.func4, Try.ntmps4
  go_wp2_with (go_at_call 8; refine (index_any _ _ _ _ _).mono ?_; rintro e w' ⟨rfl, rfl⟩)
  go_quiet ((go_at_call 8; exact Calls.quiet_of_same (index_any _ _ _ _ _)))
  go_wp2
  go_ret
  exact ⟨rfl, grown_drewN _ _⟩

set_option maxHeartbeats 400000 in
theorem round_far2 (s p t : Int) (w : World) (ht0 : 0 ≤ t) (ht1 : t ≤ 200) (ht : 200 < t + 4) (hs0 : -64 ≤ s) (hs : s ≤ 64) (hp0 : -64 ≤ p) (hp : p ≤ 64) :
    Calls Try.prog 4 #[.int .i64 s, .int .i64 p, .int .i64 t, .int .i64 2] w fun e w' => e = .returned (.bool true) ∧ Grown w w' := by
  have hq := idx_five
  have hi0 : 0 ≤ idx s p t 2 := (idx_bounds s p t 2 (by omega) ht0 (by omega) hs0 hs hp0 hp).1
  have hi1 : idx s p t 2 < 4 := (idx_bounds s p t 2 (by omega) ht0 (by omega) hs0 hs hp0 hp).2
  have hd0 : decide (0 ≤ idx s p t 2) = true := decide_eq_true hi0
  have hd1 : decide (idx s p t 2 < 4) = true := decide_eq_true hi1
  go_enter Try.func4, Try.ntmps4
  go_wp2_with (go_at_call 8; refine (index_any _ _ _ _ _).mono ?_; rintro e w' ⟨rfl, rfl⟩)
  go_ret
  exact ⟨rfl, Grown.refl _⟩

set_option maxHeartbeats 400000 in
theorem round_near3 (s p t : Int) (w : World) (ht0 : 0 ≤ t) (ht : t + 8 ≤ 200) (hs0 : -64 ≤ s) (hs : s ≤ 64) (hp0 : -64 ≤ p) (hp : p ≤ 64) :
    Calls Try.prog 4 #[.int .i64 s, .int .i64 p, .int .i64 t, .int .i64 3] w fun e w' => e = .returned (.bool true) ∧ Grown w w' := by
  have hq := idx_five
  obtain ⟨hr0, hr1⟩ := prod_range s t ht0 (by omega) hs0 hs
  have hi0 : 0 ≤ idx s p t 3 := (idx_bounds s p t 3 (by omega) ht0 (by omega) hs0 hs hp0 hp).1
  have hi1 : idx s p t 3 < 8 := (idx_bounds s p t 3 (by omega) ht0 (by omega) hs0 hs hp0 hp).2
  have e1 : idx s p (t + 8) 3 = idx s p t 3 := idx_on s p t 3 (by omega) ht0 ht hs0 hs hp0 hp
  have e2 : idx 0 (wrap64 ((s * t).tmod 8 + p.tmod 8)) 0 3 = idx s p t 3 := idx_rest s p t 3 (by omega) ht0 (by omega) hs0 hs hp0 hp
  go_enter Try.func4, Try.ntmps4
  go_wp2_with (go_at_call 8; refine (index_any _ _ _ _ _).mono ?_; rintro e w' ⟨rfl, rfl⟩)
  go_quiet ((go_at_call 8; exact Calls.quiet_of_same (index_any _ _ _ _ _)))
  go_wp2
  go_ret
  exact ⟨rfl, grown_drewN _ _⟩

set_option maxHeartbeats 400000 in
theorem round_far3 (s p t : Int) (w : World) (ht0 : 0 ≤ t) (ht1 : t ≤ 200) (ht : 200 < t + 8) (hs0 : -64 ≤ s) (hs : s ≤ 64) (hp0 : -64 ≤ p) (hp : p ≤ 64) :
    Calls Try.prog 4 #[.int .i64 s, .int .i64 p, .int .i64 t, .int .i64 3] w fun e w' => e = .returned (.bool true) ∧ Grown w w' := by
  have hq := idx_five
  have hi0 : 0 ≤ idx s p t 3 := (idx_bounds s p t 3 (by omega) ht0 (by omega) hs0 hs hp0 hp).1
  have hi1 : idx s p t 3 < 8 := (idx_bounds s p t 3 (by omega) ht0 (by omega) hs0 hs hp0 hp).2
  have hd0 : decide (0 ≤ idx s p t 3) = true := decide_eq_true hi0
  have hd1 : decide (idx s p t 3 < 8) = true := decide_eq_true hi1
  go_enter Try.func4, Try.ntmps4
  go_wp2_with (go_at_call 8; refine (index_any _ _ _ _ _).mono ?_; rintro e w' ⟨rfl, rfl⟩)
  go_ret
  exact ⟨rfl, Grown.refl _⟩

set_option maxHeartbeats 400000 in
theorem round_near4 (s p t : Int) (w : World) (ht0 : 0 ≤ t) (ht : t + 16 ≤ 200) (hs0 : -64 ≤ s) (hs : s ≤ 64) (hp0 : -64 ≤ p) (hp : p ≤ 64) :
    Calls Try.prog 4 #[.int .i64 s, .int .i64 p, .int .i64 t, .int .i64 4] w fun e w' => e = .returned (.bool true) ∧ Grown w w' := by
  have hq := idx_five
  obtain ⟨hr0, hr1⟩ := prod_range s t ht0 (by omega) hs0 hs
  have hi0 : 0 ≤ idx s p t 4 := (idx_bounds s p t 4 (by omega) ht0 (by omega) hs0 hs hp0 hp).1
  have hi1 : idx s p t 4 < 16 := (idx_bounds s p t 4 (by omega) ht0 (by omega) hs0 hs hp0 hp).2
  have e1 : idx s p (t + 16) 4 = idx s p t 4 := idx_on s p t 4 (by omega) ht0 ht hs0 hs hp0 hp
  have e2 : idx 0 (wrap64 ((s * t).tmod 16 + p.tmod 16)) 0 4 = idx s p t 4 := idx_rest s p t 4 (by omega) ht0 (by omega) hs0 hs hp0 hp
  go_enter Try.func4, Try.ntmps4
  go_wp2_with (go_at_call 8; refine (index_any _ _ _ _ _).mono ?_; rintro e w' ⟨rfl, rfl⟩)
  go_quiet ((go_at_call 8; exact Calls.quiet_of_same (index_any _ _ _ _ _)))
  go_wp2
  go_ret
  exact ⟨rfl, grown_drewN _ _⟩

set_option maxHeartbeats 400000 in
theorem round_far4 (s p t : Int) (w : World) (ht0 : 0 ≤ t) (ht1 : t ≤ 200) (ht : 200 < t + 16) (hs0 : -64 ≤ s) (hs : s ≤ 64) (hp0 : -64 ≤ p) (hp : p ≤ 64) :
    Calls Try.prog 4 #[.int .i64 s, .int .i64 p, .int .i64 t, .int .i64 4] w fun e w' => e = .returned (.bool true) ∧ Grown w w' := by
  have hq := idx_five
  have hi0 : 0 ≤ idx s p t 4 := (idx_bounds s p t 4 (by omega) ht0 (by omega) hs0 hs hp0 hp).1
  have hi1 : idx s p t 4 < 16 := (idx_bounds s p t 4 (by omega) ht0 (by omega) hs0 hs hp0 hp).2
  have hd0 : decide (0 ≤ idx s p t 4) = true := decide_eq_true hi0
  have hd1 : decide (idx s p t 4 < 16) = true := decide_eq_true hi1
  go_enter Try.func4, Try.ntmps4
  go_wp2_with (go_at_call 8; refine (index_any _ _ _ _ _).mono ?_; rintro e w' ⟨rfl, rfl⟩)
  go_ret
  exact ⟨rfl, Grown.refl _⟩

set_option maxHeartbeats 400000 in
theorem round_near5 (s p t : Int) (w : World) (ht0 : 0 ≤ t) (ht : t + 32 ≤ 200) (hs0 : -64 ≤ s) (hs : s ≤ 64) (hp0 : -64 ≤ p) (hp : p ≤ 64) :
    Calls Try.prog 4 #[.int .i64 s, .int .i64 p, .int .i64 t, .int .i64 5] w fun e w' => e = .returned (.bool true) ∧ Grown w w' := by
  have hq := idx_five
  obtain ⟨hr0, hr1⟩ := prod_range s t ht0 (by omega) hs0 hs
  have hi0 : 0 ≤ idx s p t 5 := (idx_bounds s p t 5 (by omega) ht0 (by omega) hs0 hs hp0 hp).1
  have hi1 : idx s p t 5 < 32 := (idx_bounds s p t 5 (by omega) ht0 (by omega) hs0 hs hp0 hp).2
  have e1 : idx s p (t + 32) 5 = idx s p t 5 := idx_on s p t 5 (by omega) ht0 ht hs0 hs hp0 hp
  have e2 : idx 0 (wrap64 ((s * t).tmod 32 + p.tmod 32)) 0 5 = idx s p t 5 := idx_rest s p t 5 (by omega) ht0 (by omega) hs0 hs hp0 hp
  go_enter Try.func4, Try.ntmps4
  go_wp2_with (go_at_call 8; refine (index_any _ _ _ _ _).mono ?_; rintro e w' ⟨rfl, rfl⟩)
  go_quiet ((go_at_call 8; exact Calls.quiet_of_same (index_any _ _ _ _ _)))
  go_wp2
  go_ret
  exact ⟨rfl, grown_drewN _ _⟩

set_option maxHeartbeats 400000 in
theorem round_far5 (s p t : Int) (w : World) (ht0 : 0 ≤ t) (ht1 : t ≤ 200) (ht : 200 < t + 32) (hs0 : -64 ≤ s) (hs : s ≤ 64) (hp0 : -64 ≤ p) (hp : p ≤ 64) :
    Calls Try.prog 4 #[.int .i64 s, .int .i64 p, .int .i64 t, .int .i64 5] w fun e w' => e = .returned (.bool true) ∧ Grown w w' := by
  have hq := idx_five
  have hi0 : 0 ≤ idx s p t 5 := (idx_bounds s p t 5 (by omega) ht0 (by omega) hs0 hs hp0 hp).1
  have hi1 : idx s p t 5 < 32 := (idx_bounds s p t 5 (by omega) ht0 (by omega) hs0 hs hp0 hp).2
  have hd0 : decide (0 ≤ idx s p t 5) = true := decide_eq_true hi0
  have hd1 : decide (idx s p t 5 < 32) = true := decide_eq_true hi1
  go_enter Try.func4, Try.ntmps4
  go_wp2_with (go_at_call 8; refine (index_any _ _ _ _ _).mono ?_; rintro e w' ⟨rfl, rfl⟩)
  go_ret
  exact ⟨rfl, Grown.refl _⟩


set_option maxHeartbeats 400000 in
theorem round_no (s p t l : Int) (w : World) (h : ¬ (0 ≤ l ∧ l ≤ 5 ∧ 0 ≤ t ∧ t ≤ 200 ∧ -64 ≤ s ∧ s ≤ 64 ∧ -64 ≤ p ∧ p ≤ 64)) :
    Calls Try.prog 4 #[.int .i64 s, .int .i64 p, .int .i64 t, .int .i64 l] w fun e w' => e = .returned (.bool true) ∧ Grown w w' := by
  have hq := idx_five
  have hz : idx s p t l = 0 := by unfold idx; rw [if_neg h]
  go_enter Try.func4, Try.ntmps4
  go_wp2_with (go_at_call 8; refine (index_any _ _ _ _ _).mono ?_; rintro e w' ⟨rfl, rfl⟩)
  all_goals first | (exfalso; omega) | (go_ret; exact ⟨rfl, Grown.refl _⟩)

theorem round_any (s p t l : Int) (w : World) :
    Calls Try.prog 4 #[.int .i64 s, .int .i64 p, .int .i64 t, .int .i64 l] w fun e w' => e = .returned (.bool true) ∧ Grown w w' := by
  by_cases h : 0 ≤ l ∧ l ≤ 5 ∧ 0 ≤ t ∧ t ≤ 200 ∧ -64 ≤ s ∧ s ≤ 64 ∧ -64 ≤ p ∧ p ≤ 64
  · obtain ⟨hl0, hl1, ht0, ht1, hs0, hs1, hp0, hp1⟩ := h
    obtain rfl | rfl | rfl | rfl | rfl | rfl : l = 0 ∨ l = 1 ∨ l = 2 ∨ l = 3 ∨ l = 4 ∨ l = 5 := by omega
    · by_cases hc : t + 1 ≤ 200
      · exact round_near0 s p t w ht0 hc hs0 hs1 hp0 hp1
      · exact round_far0 s p t w ht0 ht1 (by omega) hs0 hs1 hp0 hp1
    · by_cases hc : t + 2 ≤ 200
      · exact round_near1 s p t w ht0 hc hs0 hs1 hp0 hp1
      · exact round_far1 s p t w ht0 ht1 (by omega) hs0 hs1 hp0 hp1
    · by_cases hc : t + 4 ≤ 200
      · exact round_near2 s p t w ht0 hc hs0 hs1 hp0 hp1
      · exact round_far2 s p t w ht0 ht1 (by omega) hs0 hs1 hp0 hp1
    · by_cases hc : t + 8 ≤ 200
      · exact round_near3 s p t w ht0 hc hs0 hs1 hp0 hp1
      · exact round_far3 s p t w ht0 ht1 (by omega) hs0 hs1 hp0 hp1
    · by_cases hc : t + 16 ≤ 200
      · exact round_near4 s p t w ht0 hc hs0 hs1 hp0 hp1
      · exact round_far4 s p t w ht0 ht1 (by omega) hs0 hs1 hp0 hp1
    · by_cases hc : t + 32 ≤ 200
      · exact round_near5 s p t w ht0 hc hs0 hs1 hp0 hp1
      · exact round_far5 s p t w ht0 ht1 (by omega) hs0 hs1 hp0 hp1
  · exact round_no s p t l w h

end Go.Proofs.Ytfkphommfjhjaaa
