/- Nums: texts that are built as one: Index, Bits, Ops, OpsBelow. -/
import Derived.Test.YtjoapiafpahihabRows
import Derived.Test.YtjoapiafpahihabBase
import Derived.WalkKit
import Derived.WalkSpells
import Derived.WalkLawsBesides
import Derived.Below
/- Contracts of the number functions: the index, by the program and by the document: for every input each returns what idx says, and leaves the world as it was. -/
namespace Go.Proofs.Ytjoapiafpahihab
open Go.RowKit
set_option linter.unusedVariables false

theorem hide {p : Prop} (h : p) : Hid p := h
/-- 2 to the power of k, as a whole number; a name, so that no walk opens it -/
def p2 (k : Nat) : Int := ((2 ^ k : Nat) : Int)
theorem p2_succ (k : Nat) : p2 (k + 1) = p2 k + p2 k := by unfold p2; rw [Nat.pow_succ]; omega
theorem p2_pos (k : Nat) : 0 < p2 k := Int.natCast_pos.2 (Nat.two_pow_pos k)
theorem p2_le (k j : Nat) (h : k ≤ j) : p2 k ≤ p2 j := Int.ofNat_le.2 (Nat.pow_le_pow_right (by omega) h)
theorem p2_62 : p2 62 = 4611686018427387904 := rfl
theorem ret_int {k : IntKind} {a b : Int} (h : a = b) : Ending.returned (.int k a) = .returned (.int k b) := by rw [h]

theorem prod_range (s t : Int) (ht0 : 0 ≤ t) (ht : t ≤ 200) (hs0 : -64 ≤ s) (hs : s ≤ 64) : -12800 ≤ s * t ∧ s * t ≤ 12800 := by
  have h1 := Int.mul_le_mul_of_nonneg_right hs ht0
  have h2 := Int.mul_le_mul_of_nonneg_right hs0 ht0
  omega

theorem idx_eq (s p t l : Int) (hl0 : 0 ≤ l) (hl : l ≤ 5) (ht0 : 0 ≤ t) (ht : t ≤ 200) (hs0 : -64 ≤ s) (hs : s ≤ 64) (hp0 : -64 ≤ p) (hp : p ≤ 64) :
    bits BinOp.and IntKind.i64 (wrap64 (wrap64 (s * t) + p)) (wrap64 (wrap64 (2 ^ l.toNat) - 1)) = (s * t + p) % p2 l.toNat := by
  unfold p2
  have hr := prod_range s t ht0 ht hs0 hs
  have e1 : wrap64 (wrap64 (s * t) + p) = s * t + p := by unfold wrap64; omega
  have hq : ((2 : Int) ^ l.toNat) = ((2 ^ l.toNat : Nat) : Int) := by simp
  have hb : 2 ^ l.toNat ≤ 2 ^ 5 := Nat.pow_le_pow_right (by omega) (by omega)
  have hb0 := Nat.two_pow_pos l.toNat
  rw [e1, hq]
  have e2 : wrap64 (wrap64 ((2 ^ l.toNat : Nat) : Int) - 1) = ((2 ^ l.toNat : Nat) : Int) - 1 := by
    generalize 2 ^ l.toNat = P at *
    unfold wrap64; omega
  rw [e2]
  exact NumMath.i64_mask _ _ (by omega)

set_option maxHeartbeats 400000 in
theorem within_yes (n lo hi : Int) (w : World) (h1 : lo ≤ n) (h2 : n ≤ hi) :
    Calls Try.prog 137 #[.int .i64 n, .int .i64 lo, .int .i64 hi] w fun e w' => e = .returned (.bool true) ∧ w' = w := by
  go_enter Try.func137, Try.ntmps137
  go_wp2
  go_ret
  exact ⟨rfl, rfl⟩

set_option maxHeartbeats 400000 in
theorem within_no (n lo hi : Int) (w : World) (h : ¬ (lo ≤ n ∧ n ≤ hi)) :
    Calls Try.prog 137 #[.int .i64 n, .int .i64 lo, .int .i64 hi] w fun e w' => e = .returned (.bool false) ∧ w' = w := by
  by_cases h1 : lo ≤ n
  · have h2 : decide (n ≤ hi) = false := decide_eq_false (by omega)
    clear h
    go_enter Try.func137, Try.ntmps137
    go_wp2
    go_ret
    exact ⟨rfl, rfl⟩
  · clear h
    go_enter Try.func137, Try.ntmps137
    go_wp2
    go_ret
    exact ⟨rfl, rfl⟩

def inB (n lo hi : Int) : Bool := decide (lo ≤ n ∧ n ≤ hi)
theorem within_any (n lo hi : Int) (w : World) :
    Calls Try.prog 137 #[.int .i64 n, .int .i64 lo, .int .i64 hi] w fun e w' => e = .returned (.bool (inB n lo hi)) ∧ w' = w := by
  by_cases h : lo ≤ n ∧ n ≤ hi
  · rw [show inB n lo hi = true from decide_eq_true h]
    exact within_yes n lo hi w h.1 h.2
  · rw [show inB n lo hi = false from decide_eq_false h]
    exact within_no n lo hi w h

/-- the word that a statement is at, as the document says it -/
def idx (s p t l : Int) : Int :=
  if 0 ≤ l ∧ l ≤ 5 ∧ 0 ≤ t ∧ t ≤ 200 ∧ -64 ≤ s ∧ s ≤ 64 ∧ -64 ≤ p ∧ p ≤ 64 then (s * t + p) % p2 l.toNat else 0

set_option maxHeartbeats 400000 in
theorem index_any (s p t l : Int) (w : World) :
    Calls Try.prog 131 #[.int .i64 s, .int .i64 p, .int .i64 t, .int .i64 l] w fun e w' => e = .returned (.int .i64 (idx s p t l)) ∧ w' = w := by
  unfold idx
  by_cases hl : 0 ≤ l ∧ l ≤ 5
  · have bl : inB l 0 5 = true := decide_eq_true hl
    by_cases ht : 0 ≤ t ∧ t ≤ 200
    · have bt : inB t 0 200 = true := decide_eq_true ht
      by_cases hs : -64 ≤ s ∧ s ≤ 64
      · have bs : inB s (-64) 64 = true := decide_eq_true hs
        by_cases hp : -64 ≤ p ∧ p ≤ 64
        · have bp : inB p (-64) 64 = true := decide_eq_true hp
          obtain ⟨hl0, hl1⟩ := hl
          obtain ⟨ht0, ht1⟩ := ht
          obtain ⟨hs0, hs1⟩ := hs
          obtain ⟨hp0, hp1⟩ := hp
          rw [if_pos ⟨hl0, hl1, ht0, ht1, hs0, hs1, hp0, hp1⟩]
          go_enter Try.func131, Try.ntmps131
          go_wp2_with (go_at_call 137; refine (within_any _ _ _ _).mono ?_; rintro e w' ⟨rfl, rfl⟩)
          go_ret
          exact ⟨ret_int (idx_eq s p t l hl0 hl1 ht0 ht1 hs0 hs1 hp0 hp1), rfl⟩
        · have bp : inB p (-64) 64 = false := decide_eq_false hp
          rw [if_neg (by omega)]
          clear hl ht hs hp
          go_enter Try.func131, Try.ntmps131
          go_wp2_with (go_at_call 137; refine (within_any _ _ _ _).mono ?_; rintro e w' ⟨rfl, rfl⟩)
          go_ret
          exact ⟨rfl, rfl⟩
      · have bs : inB s (-64) 64 = false := decide_eq_false hs
        rw [if_neg (by omega)]
        clear hl ht hs
        go_enter Try.func131, Try.ntmps131
        go_wp2_with (go_at_call 137; refine (within_any _ _ _ _).mono ?_; rintro e w' ⟨rfl, rfl⟩)
        go_ret
        exact ⟨rfl, rfl⟩
    · have bt : inB t 0 200 = false := decide_eq_false ht
      rw [if_neg (by omega)]
      clear hl ht
      go_enter Try.func131, Try.ntmps131
      go_wp2_with (go_at_call 137; refine (within_any _ _ _ _).mono ?_; rintro e w' ⟨rfl, rfl⟩)
      go_ret
      exact ⟨rfl, rfl⟩
  · have bl : inB l 0 5 = false := decide_eq_false hl
    rw [if_neg (by omega)]
    clear hl
    go_enter Try.func131, Try.ntmps131
    go_wp2_with (go_at_call 137; refine (within_any _ _ _ _).mono ?_; rintro e w' ⟨rfl, rfl⟩)
    go_ret
    exact ⟨rfl, rfl⟩
set_option maxHeartbeats 400000 in
theorem size_any (l : Nat) (w : World) (hl : l ≤ 62) :
    Calls Try.prog 94 #[.int .i64 l] w fun e w' => e = .returned (.int .i64 (p2 l)) ∧ w' = w := by
  go_enter Try.func94, Try.ntmps94
  go_wp2
  go_loop [3, 4] (fun n i => ∃ k : Nat, k ≤ l ∧ i = .int .i64 k ∧ n = .int .i64 (p2 k)) (fun _ i => l - (intOf i).toNat)
  case atStart => exact ⟨0, Nat.zero_le _, rfl, rfl⟩
  case round =>
    obtain ⟨k, hk, rfl, rfl⟩ := hrel
    by_cases hlt : k < l
    · have hb0 := p2_pos k
      have hb := p2_le (k + 1) 62 (by omega)
      rw [p2_62, p2_succ] at hb
      go_wp2
      go_round
      case rel => exact ⟨k + 1, by omega, by go_num, by rw [p2_succ]⟩
      case measure => simp [intOf]; omega
    · have hkl : k = l := by omega
      subst hkl
      go_wp2
      go_ret
      exact ⟨rfl, rfl⟩

theorem tmod_neg (a b : Int) (hb : 0 < b) (h : a.tmod b < 0) : a % b = a.tmod b + b := by
  have h1 := Int.emod_nonneg a (show b ≠ 0 by omega)
  have h2 := Int.emod_lt_of_pos a hb
  have h3 := Int.tmod_eq_emod (a := a) (b := b)
  split at h3 <;> omega
theorem tmod_pos (a b : Int) (hb : 0 < b) (h : 0 ≤ a.tmod b) : a % b = a.tmod b := by
  have h1 := Int.emod_nonneg a (show b ≠ 0 by omega)
  have h2 := Int.emod_lt_of_pos a hb
  have h3 := Int.tmod_eq_emod (a := a) (b := b)
  split at h3 <;> omega

set_option maxHeartbeats 400000 in
theorem rest_any (a b : Int) (w : World) (ha0 : -9223372036854775808 ≤ a) (ha : a ≤ 9223372036854775807) (hb0 : 0 < b) (hb : b ≤ 9223372036854775807) :
    Calls Try.prog 40 #[.int .i64 a, .int .i64 b] w fun e w' => e = .returned (.int .i64 (a % b)) ∧ w' = w := by
  have h1 := Int.emod_nonneg a (show b ≠ 0 by omega)
  have h2 := Int.emod_lt_of_pos a hb0
  by_cases hn : a.tmod b < 0
  · have e1 : wrap64 (a.tmod b + b) = a % b := by
      rw [tmod_neg a b hb0 hn] at *; unfold wrap64; omega
    have E := hide e1
    clear e1 h1 h2
    go_enter Try.func40, Try.ntmps40
    go_wp2
    go_ret
    exact ⟨ret_int E.out, rfl⟩
  · have e1 := tmod_pos a b hb0 (by omega)
    have E := hide e1
    clear e1 h1 h2
    go_enter Try.func40, Try.ntmps40
    go_wp2
    go_ret
    exact ⟨ret_int E.out.symm, rfl⟩

end Go.Proofs.Ytjoapiafpahihab
/- What the document says of And, Or and Xor, bit by bit, is what the machine's operation gives: the contract of the document's function bits. -/
namespace Go.Proofs.Ytjoapiafpahihab
open Go.RowKit
set_option linter.unusedVariables false
open NumMath

end Go.Proofs.Ytjoapiafpahihab
/- Contracts of the operation and the class, by the program and by the document: for every input each returns what opv and clsv say. -/
namespace Go.Proofs.Ytjoapiafpahihab
open Go.RowKit
set_option linter.unusedVariables false

/-- what an operation of two numbers of 64 bits comes to -/
def opv (op a b : Int) : Int :=
  if op = 1 then wrap64 (a + b) else if op = 2 then wrap64 (a - b) else if op = 3 then wrap64 (a * b)
  else if op = 4 then bits .and .i64 a b else if op = 5 then bits .or .i64 a b else if op = 6 then bits .xor .i64 a b
  else if op = 7 then (if a < b then 1 else 0) else if op = 8 then (if a = b then 1 else 0) else 0
def clsv (op : Int) : Int := if op = 3 ∨ op = 4 then 2 else if op = 13 then 1 else 0

set_option maxHeartbeats 400000 in
theorem class_3 (w : World) :
    Calls Try.prog 92 #[.int .i64 3] w fun e w' => e = .returned (.int .i64 (clsv 3)) ∧ w' = w := by
  go_enter Try.func92, Try.ntmps92
  go_wp2
  go_ret
  exact ⟨rfl, rfl⟩

set_option maxHeartbeats 400000 in
theorem class_4 (w : World) :
    Calls Try.prog 92 #[.int .i64 4] w fun e w' => e = .returned (.int .i64 (clsv 4)) ∧ w' = w := by
  go_enter Try.func92, Try.ntmps92
  go_wp2
  go_ret
  exact ⟨rfl, rfl⟩

set_option maxHeartbeats 400000 in
theorem class_13 (w : World) :
    Calls Try.prog 92 #[.int .i64 13] w fun e w' => e = .returned (.int .i64 (clsv 13)) ∧ w' = w := by
  go_enter Try.func92, Try.ntmps92
  go_wp2
  go_ret
  exact ⟨rfl, rfl⟩

set_option maxHeartbeats 400000 in
theorem class_no (op : Int) (w : World) (h3 : op ≠ 3) (h4 : op ≠ 4) (h7 : op ≠ 13) :
    Calls Try.prog 92 #[.int .i64 op] w fun e w' => e = .returned (.int .i64 (clsv op)) ∧ w' = w := by
  have hv : Hid (clsv op = 0) := by
    show clsv op = 0
    unfold clsv
    rw [if_neg (by omega), if_neg (by omega)]
  have n3 : (op == 3) = false := beq_eq_false_iff_ne.2 h3
  have n4 : (op == 4) = false := beq_eq_false_iff_ne.2 h4
  have n7 : (op == 13) = false := beq_eq_false_iff_ne.2 h7
  clear h3 h4 h7
  go_enter Try.func92, Try.ntmps92
  go_wp2
  go_ret
  exact ⟨ret_int hv.out.symm, rfl⟩

theorem class_any (op : Int) (w : World) :
    Calls Try.prog 92 #[.int .i64 op] w fun e w' => e = .returned (.int .i64 (clsv op)) ∧ w' = w := by
  by_cases h3 : op = 3
  · subst h3; exact class_3 w
  by_cases h4 : op = 4
  · subst h4; exact class_4 w
  by_cases h7 : op = 13
  · subst h7; exact class_13 w
  exact class_no op w h3 h4 h7

set_option maxHeartbeats 400000 in
theorem refClass_3 (w : World) :
    Calls Try.prog 27 #[.int .i64 3] w fun e w' => e = .returned (.int .i64 (clsv 3)) ∧ w' = w := by
  go_enter Try.func27, Try.ntmps27
  go_wp2
  go_ret
  exact ⟨rfl, rfl⟩

set_option maxHeartbeats 400000 in
theorem refClass_4 (w : World) :
    Calls Try.prog 27 #[.int .i64 4] w fun e w' => e = .returned (.int .i64 (clsv 4)) ∧ w' = w := by
  go_enter Try.func27, Try.ntmps27
  go_wp2
  go_ret
  exact ⟨rfl, rfl⟩

set_option maxHeartbeats 400000 in
theorem refClass_13 (w : World) :
    Calls Try.prog 27 #[.int .i64 13] w fun e w' => e = .returned (.int .i64 (clsv 13)) ∧ w' = w := by
  go_enter Try.func27, Try.ntmps27
  go_wp2
  go_ret
  exact ⟨rfl, rfl⟩

set_option maxHeartbeats 400000 in
theorem refClass_no (op : Int) (w : World) (h3 : op ≠ 3) (h4 : op ≠ 4) (h7 : op ≠ 13) :
    Calls Try.prog 27 #[.int .i64 op] w fun e w' => e = .returned (.int .i64 (clsv op)) ∧ w' = w := by
  have hv : Hid (clsv op = 0) := by
    show clsv op = 0
    unfold clsv
    rw [if_neg (by omega), if_neg (by omega)]
  have n3 : (op == 3) = false := beq_eq_false_iff_ne.2 h3
  have n4 : (op == 4) = false := beq_eq_false_iff_ne.2 h4
  have n7 : (op == 13) = false := beq_eq_false_iff_ne.2 h7
  clear h3 h4 h7
  go_enter Try.func27, Try.ntmps27
  go_wp2
  go_ret
  exact ⟨ret_int hv.out.symm, rfl⟩

theorem refClass_any (op : Int) (w : World) :
    Calls Try.prog 27 #[.int .i64 op] w fun e w' => e = .returned (.int .i64 (clsv op)) ∧ w' = w := by
  by_cases h3 : op = 3
  · subst h3; exact refClass_3 w
  by_cases h4 : op = 4
  · subst h4; exact refClass_4 w
  by_cases h7 : op = 13
  · subst h7; exact refClass_13 w
  exact refClass_no op w h3 h4 h7
end Go.Proofs.Ytjoapiafpahihab
/- The program's operation once more: it changes nothing that was there, block by block. -/
namespace Go.Proofs.Ytjoapiafpahihab
open Go.RowKit
set_option linter.unusedVariables false

end Go.Proofs.Ytjoapiafpahihab
