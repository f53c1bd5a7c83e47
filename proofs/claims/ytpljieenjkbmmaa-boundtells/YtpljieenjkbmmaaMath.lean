/- Plain laws on numbers of 64 bits, bit by bit: no Go in sight. -/
import Derived.Laws.BitsLemmas
import Derived.WalkKit
namespace Go.Proofs.Ytpljieenjkbmmaa.NumMath
open Go.RowKit (wrap64)

/-- what a number is behind k halvings -/
def half (a : Int) (k : Nat) : Int := a / ((2 ^ k : Nat) : Int)
/-- the low k bits of a number of 64 bits, wrapped -/
def low (X : Nat) (k : Nat) : Int := wrap64 ((X % 2 ^ k : Nat) : Int)
def pow (k : Nat) : Int := wrap64 ((2 ^ k : Nat) : Int)
def word (a : Int) : Nat := (a % 18446744073709551616).toNat

theorem half_zero (a : Int) : half a 0 = a := by simp [half]
theorem half_succ (a : Int) (k : Nat) : half a (k + 1) = half a k / 2 := by
  unfold half
  rw [Nat.pow_succ, Int.natCast_mul, ← Int.ediv_ediv_of_nonneg (Int.natCast_nonneg _)]
  rfl
theorem low_zero (X : Nat) : low X 0 = 0 := by simp [low, wrap64, Nat.mod_one]
theorem pow_zero : pow 0 = 1 := by simp [pow, wrap64]
theorem wrap_add (x y : Int) : wrap64 (wrap64 x + wrap64 y) = wrap64 (x + y) := by unfold wrap64; omega
theorem pow_succ (k : Nat) : wrap64 (pow k + pow k) = pow (k + 1) := by
  unfold pow; rw [wrap_add]; congr 1; rw [Nat.pow_succ]; omega
theorem low_yes (X k : Nat) (h : X / 2 ^ k % 2 = 1) : wrap64 (low X k + pow k) = low X (k + 1) := by
  unfold low pow; rw [wrap_add, Nat.mod_pow_succ, h]; congr 1; omega
theorem low_no (X k : Nat) (h : X / 2 ^ k % 2 = 0) : low X k = low X (k + 1) := by
  unfold low; rw [Nat.mod_pow_succ, h]; congr 1
theorem half_range (a : Int) (k : Nat) (h1 : -9223372036854775808 ≤ a) (h2 : a ≤ 9223372036854775807) : -9223372036854775808 ≤ half a k ∧ half a k ≤ 9223372036854775807 := by
  induction k with
  | zero => rw [half_zero]; exact ⟨h1, h2⟩
  | succ k ih => rw [half_succ]; omega
theorem word_bit (a : Int) (k : Nat) (hk : k < 64) : ((word a / 2 ^ k % 2 : Nat) : Int) = half a k % 2 := by
  obtain ⟨j, hj⟩ : ∃ j, 64 = k + (j + 1) := ⟨63 - k, by omega⟩
  have hp : (18446744073709551616 : Int) = ((2 ^ k : Nat) : Int) * (((2 ^ j : Nat) : Int) * 2) := by
    have : (18446744073709551616 : Nat) = 2 ^ k * (2 ^ j * 2) := by
      rw [← Nat.pow_succ, ← Nat.pow_add, ← hj]
    rw [show (18446744073709551616 : Int) = ((18446744073709551616 : Nat) : Int) from rfl, this, Int.natCast_mul, Int.natCast_mul]
    rfl
  have hc : ((word a : Nat) : Int) = a % 18446744073709551616 := by unfold word; omega
  have hpk : (0 : Int) < ((2 ^ k : Nat) : Int) := Int.natCast_pos.2 (Nat.two_pow_pos k)
  rw [Int.natCast_emod, Int.natCast_ediv, hc]
  unfold half
  generalize ((2 ^ k : Nat) : Int) = P at *
  generalize ((2 ^ j : Nat) : Int) = J at *
  have hd := Int.emod_add_mul_ediv a 18446744073709551616
  generalize a / 18446744073709551616 = q at *
  generalize hr : a % 18446744073709551616 = r at *
  have : a / P = r / P + J * q * 2 := by
    rw [← hd, hp, show P * (J * 2) * q = (J * q * 2) * P by grind, Int.add_mul_ediv_right _ _ (by omega)]
  rw [this]
  show r / P % 2 = _
  omega
theorem and_bit (A B k : Nat) : (A &&& B) / 2 ^ k % 2 = (A / 2 ^ k % 2) &&& (B / 2 ^ k % 2) := by
  rw [Nat.and_div_two_pow]
  exact Nat.and_mod_two_pow (n := 1)
theorem or_bit (A B k : Nat) : (A ||| B) / 2 ^ k % 2 = (A / 2 ^ k % 2) ||| (B / 2 ^ k % 2) := by
  rw [Nat.or_div_two_pow]
  exact Nat.or_mod_two_pow (n := 1)
theorem xor_bit (A B k : Nat) : (A ^^^ B) / 2 ^ k % 2 = (A / 2 ^ k % 2) ^^^ (B / 2 ^ k % 2) := by
  rw [Nat.xor_div_two_pow]
  exact Nat.xor_mod_two_pow (n := 1)

theorem two64 : ((2 ^ 64 : Nat) : Int) = 18446744073709551616 := by decide
theorem word_lt (a : Int) : word a < 2 ^ 64 := by unfold word; omega
theorem low_all (X : Nat) (h : X < 2 ^ 64) : low X 64 = wrap64 (X : Int) := by unfold low; rw [Nat.mod_eq_of_lt h]
theorem bits_and (a b : Int) : bits .and .i64 a b = low (word a &&& word b) 64 := by
  rw [low_all _ (Nat.and_lt_two_pow _ (word_lt b))]
  show IntKind.i64.wrap ((BitVec.ofInt 64 a &&& BitVec.ofInt 64 b).toNat : Nat) = _
  rw [BitVec.toNat_and, BitVec.toNat_ofInt, BitVec.toNat_ofInt, IntKind.wrap_i64, two64]
  unfold word wrap64
  rfl
theorem bits_or (a b : Int) : bits .or .i64 a b = low (word a ||| word b) 64 := by
  rw [low_all _ (Nat.or_lt_two_pow (word_lt a) (word_lt b))]
  show IntKind.i64.wrap ((BitVec.ofInt 64 a ||| BitVec.ofInt 64 b).toNat : Nat) = _
  rw [BitVec.toNat_or, BitVec.toNat_ofInt, BitVec.toNat_ofInt, IntKind.wrap_i64, two64]
  unfold word wrap64
  rfl
theorem bits_xor (a b : Int) : bits .xor .i64 a b = low (word a ^^^ word b) 64 := by
  rw [low_all _ (Nat.xor_lt_two_pow (word_lt a) (word_lt b))]
  show IntKind.i64.wrap ((BitVec.ofInt 64 a ^^^ BitVec.ofInt 64 b).toNat : Nat) = _
  rw [BitVec.toNat_xor, BitVec.toNat_ofInt, BitVec.toNat_ofInt, IntKind.wrap_i64, two64]
  unfold word wrap64
  rfl
theorem i64_mask (n : Int) (k : Nat) (hk : k < 63) : bits .and .i64 n (((2 ^ k : Nat) : Int) - 1) = n % ((2 ^ k : Nat) : Int) := by
  obtain ⟨j, hj⟩ : ∃ j, 64 = k + (j + 1) := ⟨63 - k, by omega⟩
  have hN : (18446744073709551616 : Nat) = 2 ^ k * (2 ^ j * 2) := by
    rw [← Nat.pow_succ, ← Nat.pow_add, ← hj]
  have hlt : 2 ^ k < 2 ^ 63 := Nat.pow_lt_pow_right (by omega) hk
  have hpk := Nat.two_pow_pos k
  have hw : word (((2 ^ k : Nat) : Int) - 1) = 2 ^ k - 1 := by unfold word; omega
  rw [bits_and, low_all _ (Nat.and_lt_two_pow _ (word_lt _)), hw, Nat.and_two_pow_sub_one_eq_mod]
  have hm : ((word n % 2 ^ k : Nat) : Int) = n % ((2 ^ k : Nat) : Int) := by
    rw [Int.natCast_emod]
    have hc : ((word n : Nat) : Int) = n % 18446744073709551616 := by unfold word; omega
    have hp : (18446744073709551616 : Int) = ((2 ^ k : Nat) : Int) * (((2 ^ j : Nat) : Int) * 2) := by
      rw [show (18446744073709551616 : Int) = ((18446744073709551616 : Nat) : Int) from rfl, hN, Int.natCast_mul, Int.natCast_mul]
      rfl
    rw [hc, hp]; exact Int.emod_emod_of_dvd n ⟨_, rfl⟩
  rw [hm]
  have h1 := Int.emod_nonneg n (show ((2 ^ k : Nat) : Int) ≠ 0 by omega)
  have h2 := Int.emod_lt_of_pos n (show (0 : Int) < ((2 ^ k : Nat) : Int) by omega)
  unfold wrap64
  omega
end Go.Proofs.Ytpljieenjkbmmaa.NumMath
