/- What the document says of And, Or and Xor, bit by bit, is what the machine's operation gives: the contract of the document's function bits. -/
import Derived.Test.YtpljieenjkbmmaaIndex
namespace Go.Proofs.Ytpljieenjkbmmaa
open Go.RowKit
set_option linter.unusedVariables false
open NumMath

theorem tmod_two (A : Int) : (A.tmod 2 = 0 ∧ A % 2 = 0) ∨ (A.tmod 2 = 1 ∧ A % 2 = 1) ∨ (A.tmod 2 = -1 ∧ A % 2 = 1) := by
  have h1 := Int.emod_nonneg A (show (2 : Int) ≠ 0 by omega)
  have h2 := Int.emod_lt_of_pos A (show (0 : Int) < 2 by omega)
  by_cases h : A.tmod 2 < 0
  · have h3 := tmod_neg A 2 (by omega) h
    have h4 := Int.tmod_eq_emod (a := A) (b := 2)
    generalize A.tmod 2 = T at *
    split at h4 <;> omega
  · have h3 := tmod_pos A 2 (by omega) (by omega)
    generalize A.tmod 2 = T at *
    omega
theorem halve (A r : Int) (h0 : -9223372036854775808 ≤ A) (h1 : A ≤ 9223372036854775807) (hr : A % 2 = r) : wrap64 ((wrap64 (A - r)).tdiv 2) = A / 2 := by
  have e1 : wrap64 (A - r) = 2 * (A / 2) := by unfold wrap64; omega
  rw [e1, Int.mul_tdiv_cancel_left _ (by omega)]
  unfold wrap64; omega
theorem halve0 (A : Int) (hr : A % 2 = 0) : A.tdiv 2 = A / 2 := by
  have e1 : A = 2 * (A / 2) := by omega
  rw [e1, Int.mul_tdiv_cancel_left _ (by omega)]
  omega
theorem int_eq {a b : Int} (h : a = b) : Value.int .i64 a = Value.int .i64 b := by rw [h]

set_option maxHeartbeats 1000000 in
theorem bits_and_any (a b : Int) (w : World) (ha0 : -9223372036854775808 ≤ a) (ha : a ≤ 9223372036854775807) (hb0 : -9223372036854775808 ≤ b) (hb : b ≤ 9223372036854775807) :
    Calls Try.prog 53 #[.int .i64 4, .int .i64 a, .int .i64 b] w fun e w' => e = .returned (.int .i64 (bits .and .i64 a b)) ∧ w' = w := by
  rw [NumMath.bits_and]
  generalize hX : word a &&& word b = X
  have HX := hide hX
  clear hX
  go_enter Try.func53, Try.ntmps53
  go_wp2
  go_loop [1, 2, 7, 8, 9] (fun u v n q i => ∃ k : Nat, k ≤ 64 ∧ u = .int .i64 (half a k) ∧ v = .int .i64 (half b k) ∧ n = .int .i64 (low X k) ∧ q = .int .i64 (pow k) ∧ i = .int .i64 k) (fun _ _ _ _ i => 64 - (intOf i).toNat)
  case atStart => exact ⟨0, Nat.zero_le _, by rw [half_zero], by rw [half_zero], by rw [low_zero], by rw [pow_zero], rfl⟩
  case round =>
    obtain ⟨k, hk, rfl, rfl, rfl, rfl, rfl⟩ := hrel
    by_cases hlt : k < 64
    · obtain ⟨hA0, hA1⟩ := half_range a k ha0 ha
      obtain ⟨hB0, hB1⟩ := half_range b k hb0 hb
      have hA := hide (half_succ a k)
      have hB := hide (half_succ b k)
      have wA := hide (word_bit a k hlt)
      have wB := hide (word_bit b k hlt)
      have hbit := hide (and_bit (word a) (word b) k)
      rw [HX.out] at hbit
      generalize half a k = A at *
      generalize half b k = B at *
      clear ha0 ha hb0 hb
      rcases tmod_two A with ⟨hp, rA⟩ | ⟨hp, rA⟩ | ⟨hp, rA⟩ <;> rcases tmod_two B with ⟨hq, rB⟩ | ⟨hq, rB⟩ | ⟨hq, rB⟩
      · have RA := hide rA
        have RB := hide rB
        clear rA rB
        go_wp2
        have b1 : word a / 2 ^ k % 2 = 0 := by have h := wA.out; have h' := RA.out; omega
        have b2 : word b / 2 ^ k % 2 = 0 := by have h := wB.out; have h' := RB.out; omega
        have b3 : X / 2 ^ k % 2 = 0 := by have h := hbit.out; rw [b1, b2] at h; exact h
        refine ⟨⟨k + 1, by omega, int_eq ?_, int_eq ?_, int_eq ?_, int_eq (pow_succ k), int_eq (by omega)⟩, by simp [intOf]; omega⟩
        · rw [hA.out]; exact halve0 A RA.out
        · rw [hB.out]; exact halve0 B RB.out
        · exact low_no X k b3
      · have RA := hide rA
        have RB := hide rB
        clear rA rB
        go_wp2
        have b1 : word a / 2 ^ k % 2 = 0 := by have h := wA.out; have h' := RA.out; omega
        have b2 : word b / 2 ^ k % 2 = 1 := by have h := wB.out; have h' := RB.out; omega
        have b3 : X / 2 ^ k % 2 = 0 := by have h := hbit.out; rw [b1, b2] at h; exact h
        refine ⟨⟨k + 1, by omega, int_eq ?_, int_eq ?_, int_eq ?_, int_eq (pow_succ k), int_eq (by omega)⟩, by simp [intOf]; omega⟩
        · rw [hA.out]; exact halve0 A RA.out
        · rw [hB.out]; exact halve B 1 hB0 hB1 RB.out
        · exact low_no X k b3
      · have RA := hide rA
        have RB := hide rB
        clear rA rB
        go_wp2
        have b1 : word a / 2 ^ k % 2 = 0 := by have h := wA.out; have h' := RA.out; omega
        have b2 : word b / 2 ^ k % 2 = 1 := by have h := wB.out; have h' := RB.out; omega
        have b3 : X / 2 ^ k % 2 = 0 := by have h := hbit.out; rw [b1, b2] at h; exact h
        refine ⟨⟨k + 1, by omega, int_eq ?_, int_eq ?_, int_eq ?_, int_eq (pow_succ k), int_eq (by omega)⟩, by simp [intOf]; omega⟩
        · rw [hA.out]; exact halve0 A RA.out
        · rw [hB.out]; exact halve B 1 hB0 hB1 RB.out
        · exact low_no X k b3
      · have RA := hide rA
        have RB := hide rB
        clear rA rB
        go_wp2
        have b1 : word a / 2 ^ k % 2 = 1 := by have h := wA.out; have h' := RA.out; omega
        have b2 : word b / 2 ^ k % 2 = 0 := by have h := wB.out; have h' := RB.out; omega
        have b3 : X / 2 ^ k % 2 = 0 := by have h := hbit.out; rw [b1, b2] at h; exact h
        refine ⟨⟨k + 1, by omega, int_eq ?_, int_eq ?_, int_eq ?_, int_eq (pow_succ k), int_eq (by omega)⟩, by simp [intOf]; omega⟩
        · rw [hA.out]; exact halve A 1 hA0 hA1 RA.out
        · rw [hB.out]; exact halve0 B RB.out
        · exact low_no X k b3
      · have RA := hide rA
        have RB := hide rB
        clear rA rB
        go_wp2
        have b1 : word a / 2 ^ k % 2 = 1 := by have h := wA.out; have h' := RA.out; omega
        have b2 : word b / 2 ^ k % 2 = 1 := by have h := wB.out; have h' := RB.out; omega
        have b3 : X / 2 ^ k % 2 = 1 := by have h := hbit.out; rw [b1, b2] at h; exact h
        refine ⟨⟨k + 1, by omega, int_eq ?_, int_eq ?_, int_eq ?_, int_eq (pow_succ k), int_eq (by omega)⟩, by simp [intOf]; omega⟩
        · rw [hA.out]; exact halve A 1 hA0 hA1 RA.out
        · rw [hB.out]; exact halve B 1 hB0 hB1 RB.out
        · exact low_yes X k b3
      · have RA := hide rA
        have RB := hide rB
        clear rA rB
        go_wp2
        have b1 : word a / 2 ^ k % 2 = 1 := by have h := wA.out; have h' := RA.out; omega
        have b2 : word b / 2 ^ k % 2 = 1 := by have h := wB.out; have h' := RB.out; omega
        have b3 : X / 2 ^ k % 2 = 1 := by have h := hbit.out; rw [b1, b2] at h; exact h
        refine ⟨⟨k + 1, by omega, int_eq ?_, int_eq ?_, int_eq ?_, int_eq (pow_succ k), int_eq (by omega)⟩, by simp [intOf]; omega⟩
        · rw [hA.out]; exact halve A 1 hA0 hA1 RA.out
        · rw [hB.out]; exact halve B 1 hB0 hB1 RB.out
        · exact low_yes X k b3
      · have RA := hide rA
        have RB := hide rB
        clear rA rB
        go_wp2
        have b1 : word a / 2 ^ k % 2 = 1 := by have h := wA.out; have h' := RA.out; omega
        have b2 : word b / 2 ^ k % 2 = 0 := by have h := wB.out; have h' := RB.out; omega
        have b3 : X / 2 ^ k % 2 = 0 := by have h := hbit.out; rw [b1, b2] at h; exact h
        refine ⟨⟨k + 1, by omega, int_eq ?_, int_eq ?_, int_eq ?_, int_eq (pow_succ k), int_eq (by omega)⟩, by simp [intOf]; omega⟩
        · rw [hA.out]; exact halve A 1 hA0 hA1 RA.out
        · rw [hB.out]; exact halve0 B RB.out
        · exact low_no X k b3
      · have RA := hide rA
        have RB := hide rB
        clear rA rB
        go_wp2
        have b1 : word a / 2 ^ k % 2 = 1 := by have h := wA.out; have h' := RA.out; omega
        have b2 : word b / 2 ^ k % 2 = 1 := by have h := wB.out; have h' := RB.out; omega
        have b3 : X / 2 ^ k % 2 = 1 := by have h := hbit.out; rw [b1, b2] at h; exact h
        refine ⟨⟨k + 1, by omega, int_eq ?_, int_eq ?_, int_eq ?_, int_eq (pow_succ k), int_eq (by omega)⟩, by simp [intOf]; omega⟩
        · rw [hA.out]; exact halve A 1 hA0 hA1 RA.out
        · rw [hB.out]; exact halve B 1 hB0 hB1 RB.out
        · exact low_yes X k b3
      · have RA := hide rA
        have RB := hide rB
        clear rA rB
        go_wp2
        have b1 : word a / 2 ^ k % 2 = 1 := by have h := wA.out; have h' := RA.out; omega
        have b2 : word b / 2 ^ k % 2 = 1 := by have h := wB.out; have h' := RB.out; omega
        have b3 : X / 2 ^ k % 2 = 1 := by have h := hbit.out; rw [b1, b2] at h; exact h
        refine ⟨⟨k + 1, by omega, int_eq ?_, int_eq ?_, int_eq ?_, int_eq (pow_succ k), int_eq (by omega)⟩, by simp [intOf]; omega⟩
        · rw [hA.out]; exact halve A 1 hA0 hA1 RA.out
        · rw [hB.out]; exact halve B 1 hB0 hB1 RB.out
        · exact low_yes X k b3
    · have hkl : k = 64 := by omega
      subst hkl
      go_wp2
      go_ret
      exact ⟨rfl, rfl⟩

set_option maxHeartbeats 1000000 in
theorem bits_or_any (a b : Int) (w : World) (ha0 : -9223372036854775808 ≤ a) (ha : a ≤ 9223372036854775807) (hb0 : -9223372036854775808 ≤ b) (hb : b ≤ 9223372036854775807) :
    Calls Try.prog 53 #[.int .i64 5, .int .i64 a, .int .i64 b] w fun e w' => e = .returned (.int .i64 (bits .or .i64 a b)) ∧ w' = w := by
  rw [NumMath.bits_or]
  generalize hX : word a ||| word b = X
  have HX := hide hX
  clear hX
  go_enter Try.func53, Try.ntmps53
  go_wp2
  go_loop [1, 2, 7, 8, 9] (fun u v n q i => ∃ k : Nat, k ≤ 64 ∧ u = .int .i64 (half a k) ∧ v = .int .i64 (half b k) ∧ n = .int .i64 (low X k) ∧ q = .int .i64 (pow k) ∧ i = .int .i64 k) (fun _ _ _ _ i => 64 - (intOf i).toNat)
  case atStart => exact ⟨0, Nat.zero_le _, by rw [half_zero], by rw [half_zero], by rw [low_zero], by rw [pow_zero], rfl⟩
  case round =>
    obtain ⟨k, hk, rfl, rfl, rfl, rfl, rfl⟩ := hrel
    by_cases hlt : k < 64
    · obtain ⟨hA0, hA1⟩ := half_range a k ha0 ha
      obtain ⟨hB0, hB1⟩ := half_range b k hb0 hb
      have hA := hide (half_succ a k)
      have hB := hide (half_succ b k)
      have wA := hide (word_bit a k hlt)
      have wB := hide (word_bit b k hlt)
      have hbit := hide (or_bit (word a) (word b) k)
      rw [HX.out] at hbit
      generalize half a k = A at *
      generalize half b k = B at *
      clear ha0 ha hb0 hb
      rcases tmod_two A with ⟨hp, rA⟩ | ⟨hp, rA⟩ | ⟨hp, rA⟩ <;> rcases tmod_two B with ⟨hq, rB⟩ | ⟨hq, rB⟩ | ⟨hq, rB⟩
      · have RA := hide rA
        have RB := hide rB
        clear rA rB
        go_wp2
        have b1 : word a / 2 ^ k % 2 = 0 := by have h := wA.out; have h' := RA.out; omega
        have b2 : word b / 2 ^ k % 2 = 0 := by have h := wB.out; have h' := RB.out; omega
        have b3 : X / 2 ^ k % 2 = 0 := by have h := hbit.out; rw [b1, b2] at h; exact h
        refine ⟨⟨k + 1, by omega, int_eq ?_, int_eq ?_, int_eq ?_, int_eq (pow_succ k), int_eq (by omega)⟩, by simp [intOf]; omega⟩
        · rw [hA.out]; exact halve0 A RA.out
        · rw [hB.out]; exact halve0 B RB.out
        · exact low_no X k b3
      · have RA := hide rA
        have RB := hide rB
        clear rA rB
        go_wp2
        have b1 : word a / 2 ^ k % 2 = 0 := by have h := wA.out; have h' := RA.out; omega
        have b2 : word b / 2 ^ k % 2 = 1 := by have h := wB.out; have h' := RB.out; omega
        have b3 : X / 2 ^ k % 2 = 1 := by have h := hbit.out; rw [b1, b2] at h; exact h
        refine ⟨⟨k + 1, by omega, int_eq ?_, int_eq ?_, int_eq ?_, int_eq (pow_succ k), int_eq (by omega)⟩, by simp [intOf]; omega⟩
        · rw [hA.out]; exact halve0 A RA.out
        · rw [hB.out]; exact halve B 1 hB0 hB1 RB.out
        · exact low_yes X k b3
      · have RA := hide rA
        have RB := hide rB
        clear rA rB
        go_wp2
        have b1 : word a / 2 ^ k % 2 = 0 := by have h := wA.out; have h' := RA.out; omega
        have b2 : word b / 2 ^ k % 2 = 1 := by have h := wB.out; have h' := RB.out; omega
        have b3 : X / 2 ^ k % 2 = 1 := by have h := hbit.out; rw [b1, b2] at h; exact h
        refine ⟨⟨k + 1, by omega, int_eq ?_, int_eq ?_, int_eq ?_, int_eq (pow_succ k), int_eq (by omega)⟩, by simp [intOf]; omega⟩
        · rw [hA.out]; exact halve0 A RA.out
        · rw [hB.out]; exact halve B 1 hB0 hB1 RB.out
        · exact low_yes X k b3
      · have RA := hide rA
        have RB := hide rB
        clear rA rB
        go_wp2
        have b1 : word a / 2 ^ k % 2 = 1 := by have h := wA.out; have h' := RA.out; omega
        have b2 : word b / 2 ^ k % 2 = 0 := by have h := wB.out; have h' := RB.out; omega
        have b3 : X / 2 ^ k % 2 = 1 := by have h := hbit.out; rw [b1, b2] at h; exact h
        refine ⟨⟨k + 1, by omega, int_eq ?_, int_eq ?_, int_eq ?_, int_eq (pow_succ k), int_eq (by omega)⟩, by simp [intOf]; omega⟩
        · rw [hA.out]; exact halve A 1 hA0 hA1 RA.out
        · rw [hB.out]; exact halve0 B RB.out
        · exact low_yes X k b3
      · have RA := hide rA
        have RB := hide rB
        clear rA rB
        go_wp2
        have b1 : word a / 2 ^ k % 2 = 1 := by have h := wA.out; have h' := RA.out; omega
        have b2 : word b / 2 ^ k % 2 = 1 := by have h := wB.out; have h' := RB.out; omega
        have b3 : X / 2 ^ k % 2 = 1 := by have h := hbit.out; rw [b1, b2] at h; exact h
        refine ⟨⟨k + 1, by omega, int_eq ?_, int_eq ?_, int_eq ?_, int_eq (pow_succ k), int_eq (by omega)⟩, by simp [intOf]; omega⟩
        · rw [hA.out]; exact halve A 1 hA0 hA1 RA.out
        · rw [hB.out]; exact halve B 1 hB0 hB1 RB.out
        · exact low_yes X k b3
      · have RA := hide rA
        have RB := hide rB
        clear rA rB
        go_wp2
        have b1 : word a / 2 ^ k % 2 = 1 := by have h := wA.out; have h' := RA.out; omega
        have b2 : word b / 2 ^ k % 2 = 1 := by have h := wB.out; have h' := RB.out; omega
        have b3 : X / 2 ^ k % 2 = 1 := by have h := hbit.out; rw [b1, b2] at h; exact h
        refine ⟨⟨k + 1, by omega, int_eq ?_, int_eq ?_, int_eq ?_, int_eq (pow_succ k), int_eq (by omega)⟩, by simp [intOf]; omega⟩
        · rw [hA.out]; exact halve A 1 hA0 hA1 RA.out
        · rw [hB.out]; exact halve B 1 hB0 hB1 RB.out
        · exact low_yes X k b3
      · have RA := hide rA
        have RB := hide rB
        clear rA rB
        go_wp2
        have b1 : word a / 2 ^ k % 2 = 1 := by have h := wA.out; have h' := RA.out; omega
        have b2 : word b / 2 ^ k % 2 = 0 := by have h := wB.out; have h' := RB.out; omega
        have b3 : X / 2 ^ k % 2 = 1 := by have h := hbit.out; rw [b1, b2] at h; exact h
        refine ⟨⟨k + 1, by omega, int_eq ?_, int_eq ?_, int_eq ?_, int_eq (pow_succ k), int_eq (by omega)⟩, by simp [intOf]; omega⟩
        · rw [hA.out]; exact halve A 1 hA0 hA1 RA.out
        · rw [hB.out]; exact halve0 B RB.out
        · exact low_yes X k b3
      · have RA := hide rA
        have RB := hide rB
        clear rA rB
        go_wp2
        have b1 : word a / 2 ^ k % 2 = 1 := by have h := wA.out; have h' := RA.out; omega
        have b2 : word b / 2 ^ k % 2 = 1 := by have h := wB.out; have h' := RB.out; omega
        have b3 : X / 2 ^ k % 2 = 1 := by have h := hbit.out; rw [b1, b2] at h; exact h
        refine ⟨⟨k + 1, by omega, int_eq ?_, int_eq ?_, int_eq ?_, int_eq (pow_succ k), int_eq (by omega)⟩, by simp [intOf]; omega⟩
        · rw [hA.out]; exact halve A 1 hA0 hA1 RA.out
        · rw [hB.out]; exact halve B 1 hB0 hB1 RB.out
        · exact low_yes X k b3
      · have RA := hide rA
        have RB := hide rB
        clear rA rB
        go_wp2
        have b1 : word a / 2 ^ k % 2 = 1 := by have h := wA.out; have h' := RA.out; omega
        have b2 : word b / 2 ^ k % 2 = 1 := by have h := wB.out; have h' := RB.out; omega
        have b3 : X / 2 ^ k % 2 = 1 := by have h := hbit.out; rw [b1, b2] at h; exact h
        refine ⟨⟨k + 1, by omega, int_eq ?_, int_eq ?_, int_eq ?_, int_eq (pow_succ k), int_eq (by omega)⟩, by simp [intOf]; omega⟩
        · rw [hA.out]; exact halve A 1 hA0 hA1 RA.out
        · rw [hB.out]; exact halve B 1 hB0 hB1 RB.out
        · exact low_yes X k b3
    · have hkl : k = 64 := by omega
      subst hkl
      go_wp2
      go_ret
      exact ⟨rfl, rfl⟩

set_option maxHeartbeats 1000000 in
theorem bits_xor_any (a b : Int) (w : World) (ha0 : -9223372036854775808 ≤ a) (ha : a ≤ 9223372036854775807) (hb0 : -9223372036854775808 ≤ b) (hb : b ≤ 9223372036854775807) :
    Calls Try.prog 53 #[.int .i64 6, .int .i64 a, .int .i64 b] w fun e w' => e = .returned (.int .i64 (bits .xor .i64 a b)) ∧ w' = w := by
  rw [NumMath.bits_xor]
  generalize hX : word a ^^^ word b = X
  have HX := hide hX
  clear hX
  go_enter Try.func53, Try.ntmps53
  go_wp2
  go_loop [1, 2, 7, 8, 9] (fun u v n q i => ∃ k : Nat, k ≤ 64 ∧ u = .int .i64 (half a k) ∧ v = .int .i64 (half b k) ∧ n = .int .i64 (low X k) ∧ q = .int .i64 (pow k) ∧ i = .int .i64 k) (fun _ _ _ _ i => 64 - (intOf i).toNat)
  case atStart => exact ⟨0, Nat.zero_le _, by rw [half_zero], by rw [half_zero], by rw [low_zero], by rw [pow_zero], rfl⟩
  case round =>
    obtain ⟨k, hk, rfl, rfl, rfl, rfl, rfl⟩ := hrel
    by_cases hlt : k < 64
    · obtain ⟨hA0, hA1⟩ := half_range a k ha0 ha
      obtain ⟨hB0, hB1⟩ := half_range b k hb0 hb
      have hA := hide (half_succ a k)
      have hB := hide (half_succ b k)
      have wA := hide (word_bit a k hlt)
      have wB := hide (word_bit b k hlt)
      have hbit := hide (xor_bit (word a) (word b) k)
      rw [HX.out] at hbit
      generalize half a k = A at *
      generalize half b k = B at *
      clear ha0 ha hb0 hb
      rcases tmod_two A with ⟨hp, rA⟩ | ⟨hp, rA⟩ | ⟨hp, rA⟩ <;> rcases tmod_two B with ⟨hq, rB⟩ | ⟨hq, rB⟩ | ⟨hq, rB⟩
      · have RA := hide rA
        have RB := hide rB
        clear rA rB
        go_wp2
        have b1 : word a / 2 ^ k % 2 = 0 := by have h := wA.out; have h' := RA.out; omega
        have b2 : word b / 2 ^ k % 2 = 0 := by have h := wB.out; have h' := RB.out; omega
        have b3 : X / 2 ^ k % 2 = 0 := by have h := hbit.out; rw [b1, b2] at h; exact h
        refine ⟨⟨k + 1, by omega, int_eq ?_, int_eq ?_, int_eq ?_, int_eq (pow_succ k), int_eq (by omega)⟩, by simp [intOf]; omega⟩
        · rw [hA.out]; exact halve0 A RA.out
        · rw [hB.out]; exact halve0 B RB.out
        · exact low_no X k b3
      · have RA := hide rA
        have RB := hide rB
        clear rA rB
        go_wp2
        have b1 : word a / 2 ^ k % 2 = 0 := by have h := wA.out; have h' := RA.out; omega
        have b2 : word b / 2 ^ k % 2 = 1 := by have h := wB.out; have h' := RB.out; omega
        have b3 : X / 2 ^ k % 2 = 1 := by have h := hbit.out; rw [b1, b2] at h; exact h
        refine ⟨⟨k + 1, by omega, int_eq ?_, int_eq ?_, int_eq ?_, int_eq (pow_succ k), int_eq (by omega)⟩, by simp [intOf]; omega⟩
        · rw [hA.out]; exact halve0 A RA.out
        · rw [hB.out]; exact halve B 1 hB0 hB1 RB.out
        · exact low_yes X k b3
      · have RA := hide rA
        have RB := hide rB
        clear rA rB
        go_wp2
        have b1 : word a / 2 ^ k % 2 = 0 := by have h := wA.out; have h' := RA.out; omega
        have b2 : word b / 2 ^ k % 2 = 1 := by have h := wB.out; have h' := RB.out; omega
        have b3 : X / 2 ^ k % 2 = 1 := by have h := hbit.out; rw [b1, b2] at h; exact h
        refine ⟨⟨k + 1, by omega, int_eq ?_, int_eq ?_, int_eq ?_, int_eq (pow_succ k), int_eq (by omega)⟩, by simp [intOf]; omega⟩
        · rw [hA.out]; exact halve0 A RA.out
        · rw [hB.out]; exact halve B 1 hB0 hB1 RB.out
        · exact low_yes X k b3
      · have RA := hide rA
        have RB := hide rB
        clear rA rB
        go_wp2
        have b1 : word a / 2 ^ k % 2 = 1 := by have h := wA.out; have h' := RA.out; omega
        have b2 : word b / 2 ^ k % 2 = 0 := by have h := wB.out; have h' := RB.out; omega
        have b3 : X / 2 ^ k % 2 = 1 := by have h := hbit.out; rw [b1, b2] at h; exact h
        refine ⟨⟨k + 1, by omega, int_eq ?_, int_eq ?_, int_eq ?_, int_eq (pow_succ k), int_eq (by omega)⟩, by simp [intOf]; omega⟩
        · rw [hA.out]; exact halve A 1 hA0 hA1 RA.out
        · rw [hB.out]; exact halve0 B RB.out
        · exact low_yes X k b3
      · have RA := hide rA
        have RB := hide rB
        clear rA rB
        go_wp2
        have b1 : word a / 2 ^ k % 2 = 1 := by have h := wA.out; have h' := RA.out; omega
        have b2 : word b / 2 ^ k % 2 = 1 := by have h := wB.out; have h' := RB.out; omega
        have b3 : X / 2 ^ k % 2 = 0 := by have h := hbit.out; rw [b1, b2] at h; exact h
        refine ⟨⟨k + 1, by omega, int_eq ?_, int_eq ?_, int_eq ?_, int_eq (pow_succ k), int_eq (by omega)⟩, by simp [intOf]; omega⟩
        · rw [hA.out]; exact halve A 1 hA0 hA1 RA.out
        · rw [hB.out]; exact halve B 1 hB0 hB1 RB.out
        · exact low_no X k b3
      · have RA := hide rA
        have RB := hide rB
        clear rA rB
        go_wp2
        have b1 : word a / 2 ^ k % 2 = 1 := by have h := wA.out; have h' := RA.out; omega
        have b2 : word b / 2 ^ k % 2 = 1 := by have h := wB.out; have h' := RB.out; omega
        have b3 : X / 2 ^ k % 2 = 0 := by have h := hbit.out; rw [b1, b2] at h; exact h
        refine ⟨⟨k + 1, by omega, int_eq ?_, int_eq ?_, int_eq ?_, int_eq (pow_succ k), int_eq (by omega)⟩, by simp [intOf]; omega⟩
        · rw [hA.out]; exact halve A 1 hA0 hA1 RA.out
        · rw [hB.out]; exact halve B 1 hB0 hB1 RB.out
        · exact low_no X k b3
      · have RA := hide rA
        have RB := hide rB
        clear rA rB
        go_wp2
        have b1 : word a / 2 ^ k % 2 = 1 := by have h := wA.out; have h' := RA.out; omega
        have b2 : word b / 2 ^ k % 2 = 0 := by have h := wB.out; have h' := RB.out; omega
        have b3 : X / 2 ^ k % 2 = 1 := by have h := hbit.out; rw [b1, b2] at h; exact h
        refine ⟨⟨k + 1, by omega, int_eq ?_, int_eq ?_, int_eq ?_, int_eq (pow_succ k), int_eq (by omega)⟩, by simp [intOf]; omega⟩
        · rw [hA.out]; exact halve A 1 hA0 hA1 RA.out
        · rw [hB.out]; exact halve0 B RB.out
        · exact low_yes X k b3
      · have RA := hide rA
        have RB := hide rB
        clear rA rB
        go_wp2
        have b1 : word a / 2 ^ k % 2 = 1 := by have h := wA.out; have h' := RA.out; omega
        have b2 : word b / 2 ^ k % 2 = 1 := by have h := wB.out; have h' := RB.out; omega
        have b3 : X / 2 ^ k % 2 = 0 := by have h := hbit.out; rw [b1, b2] at h; exact h
        refine ⟨⟨k + 1, by omega, int_eq ?_, int_eq ?_, int_eq ?_, int_eq (pow_succ k), int_eq (by omega)⟩, by simp [intOf]; omega⟩
        · rw [hA.out]; exact halve A 1 hA0 hA1 RA.out
        · rw [hB.out]; exact halve B 1 hB0 hB1 RB.out
        · exact low_no X k b3
      · have RA := hide rA
        have RB := hide rB
        clear rA rB
        go_wp2
        have b1 : word a / 2 ^ k % 2 = 1 := by have h := wA.out; have h' := RA.out; omega
        have b2 : word b / 2 ^ k % 2 = 1 := by have h := wB.out; have h' := RB.out; omega
        have b3 : X / 2 ^ k % 2 = 0 := by have h := hbit.out; rw [b1, b2] at h; exact h
        refine ⟨⟨k + 1, by omega, int_eq ?_, int_eq ?_, int_eq ?_, int_eq (pow_succ k), int_eq (by omega)⟩, by simp [intOf]; omega⟩
        · rw [hA.out]; exact halve A 1 hA0 hA1 RA.out
        · rw [hB.out]; exact halve B 1 hB0 hB1 RB.out
        · exact low_no X k b3
    · have hkl : k = 64 := by omega
      subst hkl
      go_wp2
      go_ret
      exact ⟨rfl, rfl⟩

end Go.Proofs.Ytpljieenjkbmmaa
