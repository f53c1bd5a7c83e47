/- Contracts of the operation and the class, by the program and by the document: for every input each returns what opv and clsv say. -/
import Derived.Test.YtpljieenjkbmmaaBits
namespace Go.Proofs.Ytpljieenjkbmmaa
open Go.RowKit
set_option linter.unusedVariables false

/-- what an operation of two numbers of 64 bits comes to -/
def opv (op a b : Int) : Int :=
  if op = 1 then wrap64 (a + b) else if op = 2 then wrap64 (a - b) else if op = 3 then wrap64 (a * b)
  else if op = 4 then bits .and .i64 a b else if op = 5 then bits .or .i64 a b else if op = 6 then bits .xor .i64 a b
  else if op = 7 then (if a < b then 1 else 0) else if op = 8 then (if a = b then 1 else 0) else 0
def clsv (op : Int) : Int := if op = 3 ∨ op = 4 then 2 else if op = 13 then 1 else 0

set_option maxHeartbeats 400000 in
theorem op_1 (a b : Int) (w : World) :
    Calls Try.prog 15 #[.int .i64 1, .int .i64 a, .int .i64 b] w fun e w' => e = .returned (.int .i64 (opv 1 a b)) ∧ Grown w w' := by
  have hmf : ∀ (fn : Fn) (first cap : Array Value) (w : World), (Instr.makeFunc fn first cap).run Try.prog w = .ok (.func fn first cap) w := fun _ _ _ _ => rfl
  go_enter Try.func15, Try.ntmps15
  go_wp2
  go_ret
  exact ⟨rfl, by repeat (first | exact Grown.refl _ | apply Grown.drew | apply Grown.alloc)⟩

set_option maxHeartbeats 400000 in
theorem op_2 (a b : Int) (w : World) :
    Calls Try.prog 15 #[.int .i64 2, .int .i64 a, .int .i64 b] w fun e w' => e = .returned (.int .i64 (opv 2 a b)) ∧ Grown w w' := by
  have hmf : ∀ (fn : Fn) (first cap : Array Value) (w : World), (Instr.makeFunc fn first cap).run Try.prog w = .ok (.func fn first cap) w := fun _ _ _ _ => rfl
  go_enter Try.func15, Try.ntmps15
  go_wp2
  go_ret
  exact ⟨rfl, by repeat (first | exact Grown.refl _ | apply Grown.drew | apply Grown.alloc)⟩

set_option maxHeartbeats 400000 in
theorem op_3 (a b : Int) (w : World) :
    Calls Try.prog 15 #[.int .i64 3, .int .i64 a, .int .i64 b] w fun e w' => e = .returned (.int .i64 (opv 3 a b)) ∧ Grown w w' := by
  have hmf : ∀ (fn : Fn) (first cap : Array Value) (w : World), (Instr.makeFunc fn first cap).run Try.prog w = .ok (.func fn first cap) w := fun _ _ _ _ => rfl
  go_enter Try.func15, Try.ntmps15
  go_wp2
  go_ret
  exact ⟨rfl, by repeat (first | exact Grown.refl _ | apply Grown.drew | apply Grown.alloc)⟩

set_option maxHeartbeats 400000 in
theorem op_4 (a b : Int) (w : World) :
    Calls Try.prog 15 #[.int .i64 4, .int .i64 a, .int .i64 b] w fun e w' => e = .returned (.int .i64 (opv 4 a b)) ∧ Grown w w' := by
  have hmf : ∀ (fn : Fn) (first cap : Array Value) (w : World), (Instr.makeFunc fn first cap).run Try.prog w = .ok (.func fn first cap) w := fun _ _ _ _ => rfl
  go_enter Try.func15, Try.ntmps15
  go_wp2
  go_ret
  exact ⟨rfl, by repeat (first | exact Grown.refl _ | apply Grown.drew | apply Grown.alloc)⟩

set_option maxHeartbeats 400000 in
theorem op_5 (a b : Int) (w : World) :
    Calls Try.prog 15 #[.int .i64 5, .int .i64 a, .int .i64 b] w fun e w' => e = .returned (.int .i64 (opv 5 a b)) ∧ Grown w w' := by
  have hmf : ∀ (fn : Fn) (first cap : Array Value) (w : World), (Instr.makeFunc fn first cap).run Try.prog w = .ok (.func fn first cap) w := fun _ _ _ _ => rfl
  go_enter Try.func15, Try.ntmps15
  go_wp2
  go_ret
  exact ⟨rfl, by repeat (first | exact Grown.refl _ | apply Grown.drew | apply Grown.alloc)⟩

set_option maxHeartbeats 400000 in
theorem op_6 (a b : Int) (w : World) :
    Calls Try.prog 15 #[.int .i64 6, .int .i64 a, .int .i64 b] w fun e w' => e = .returned (.int .i64 (opv 6 a b)) ∧ Grown w w' := by
  have hmf : ∀ (fn : Fn) (first cap : Array Value) (w : World), (Instr.makeFunc fn first cap).run Try.prog w = .ok (.func fn first cap) w := fun _ _ _ _ => rfl
  go_enter Try.func15, Try.ntmps15
  go_wp2
  go_ret
  exact ⟨rfl, by repeat (first | exact Grown.refl _ | apply Grown.drew | apply Grown.alloc)⟩

set_option maxHeartbeats 400000 in
theorem op_7_lt (a b : Int) (w : World) (h : a < b) :
    Calls Try.prog 15 #[.int .i64 7, .int .i64 a, .int .i64 b] w fun e w' => e = .returned (.int .i64 (opv 7 a b)) ∧ Grown w w' := by
  have hmf : ∀ (fn : Fn) (first cap : Array Value) (w : World), (Instr.makeFunc fn first cap).run Try.prog w = .ok (.func fn first cap) w := fun _ _ _ _ => rfl
  go_enter Try.func15, Try.ntmps15
  go_wp2
  go_ret
  exact ⟨ret_int (by simp [opv, h]), by repeat (first | exact Grown.refl _ | apply Grown.drew | apply Grown.alloc)⟩

set_option maxHeartbeats 400000 in
theorem op_7_gt (a b : Int) (w : World) (h : b < a) :
    Calls Try.prog 15 #[.int .i64 7, .int .i64 a, .int .i64 b] w fun e w' => e = .returned (.int .i64 (opv 7 a b)) ∧ Grown w w' := by
  have hmf : ∀ (fn : Fn) (first cap : Array Value) (w : World), (Instr.makeFunc fn first cap).run Try.prog w = .ok (.func fn first cap) w := fun _ _ _ _ => rfl
  go_enter Try.func15, Try.ntmps15
  go_wp2
  go_ret
  exact ⟨ret_int (by simp [opv, show ¬ a < b from by omega]), by repeat (first | exact Grown.refl _ | apply Grown.drew | apply Grown.alloc)⟩

set_option maxHeartbeats 400000 in
theorem op_7_eq (a b : Int) (w : World) (h : a = b) :
    Calls Try.prog 15 #[.int .i64 7, .int .i64 a, .int .i64 b] w fun e w' => e = .returned (.int .i64 (opv 7 a b)) ∧ Grown w w' := by
  subst h
  have hmf : ∀ (fn : Fn) (first cap : Array Value) (w : World), (Instr.makeFunc fn first cap).run Try.prog w = .ok (.func fn first cap) w := fun _ _ _ _ => rfl
  go_enter Try.func15, Try.ntmps15
  go_wp2
  go_ret
  exact ⟨ret_int (by simp [opv]), by repeat (first | exact Grown.refl _ | apply Grown.drew | apply Grown.alloc)⟩

set_option maxHeartbeats 400000 in
theorem op_8_lt (a b : Int) (w : World) (h : a < b) :
    Calls Try.prog 15 #[.int .i64 8, .int .i64 a, .int .i64 b] w fun e w' => e = .returned (.int .i64 (opv 8 a b)) ∧ Grown w w' := by
  have hmf : ∀ (fn : Fn) (first cap : Array Value) (w : World), (Instr.makeFunc fn first cap).run Try.prog w = .ok (.func fn first cap) w := fun _ _ _ _ => rfl
  go_enter Try.func15, Try.ntmps15
  go_wp2
  go_ret
  exact ⟨ret_int (by simp [opv, show ¬ a = b from by omega]), by repeat (first | exact Grown.refl _ | apply Grown.drew | apply Grown.alloc)⟩

set_option maxHeartbeats 400000 in
theorem op_8_gt (a b : Int) (w : World) (h : b < a) :
    Calls Try.prog 15 #[.int .i64 8, .int .i64 a, .int .i64 b] w fun e w' => e = .returned (.int .i64 (opv 8 a b)) ∧ Grown w w' := by
  have hmf : ∀ (fn : Fn) (first cap : Array Value) (w : World), (Instr.makeFunc fn first cap).run Try.prog w = .ok (.func fn first cap) w := fun _ _ _ _ => rfl
  go_enter Try.func15, Try.ntmps15
  go_wp2
  go_ret
  exact ⟨ret_int (by simp [opv, show ¬ a = b from by omega]), by repeat (first | exact Grown.refl _ | apply Grown.drew | apply Grown.alloc)⟩

set_option maxHeartbeats 400000 in
theorem op_8_eq (a b : Int) (w : World) (h : a = b) :
    Calls Try.prog 15 #[.int .i64 8, .int .i64 a, .int .i64 b] w fun e w' => e = .returned (.int .i64 (opv 8 a b)) ∧ Grown w w' := by
  subst h
  have hmf : ∀ (fn : Fn) (first cap : Array Value) (w : World), (Instr.makeFunc fn first cap).run Try.prog w = .ok (.func fn first cap) w := fun _ _ _ _ => rfl
  go_enter Try.func15, Try.ntmps15
  go_wp2
  go_ret
  exact ⟨ret_int (by simp [opv]), by repeat (first | exact Grown.refl _ | apply Grown.drew | apply Grown.alloc)⟩

set_option maxHeartbeats 400000 in
theorem op_no (op a b : Int) (w : World) (h : op < 1 ∨ 8 < op) :
    Calls Try.prog 15 #[.int .i64 op, .int .i64 a, .int .i64 b] w fun e w' => e = .returned (.int .i64 (opv op a b)) ∧ Grown w w' := by
  have hv : Hid (opv op a b = 0) := by
    show opv op a b = 0
    unfold opv
    rw [if_neg (by omega), if_neg (by omega), if_neg (by omega), if_neg (by omega), if_neg (by omega), if_neg (by omega), if_neg (by omega), if_neg (by omega)]
  have n1 : (op == 1) = false := beq_eq_false_iff_ne.2 (by omega)
  have n2 : (op == 2) = false := beq_eq_false_iff_ne.2 (by omega)
  have n3 : (op == 3) = false := beq_eq_false_iff_ne.2 (by omega)
  have n4 : (op == 4) = false := beq_eq_false_iff_ne.2 (by omega)
  have n5 : (op == 5) = false := beq_eq_false_iff_ne.2 (by omega)
  have n6 : (op == 6) = false := beq_eq_false_iff_ne.2 (by omega)
  have n7 : (op == 7) = false := beq_eq_false_iff_ne.2 (by omega)
  have n8 : (op == 8) = false := beq_eq_false_iff_ne.2 (by omega)
  have hmf : ∀ (fn : Fn) (first cap : Array Value) (w : World), (Instr.makeFunc fn first cap).run Try.prog w = .ok (.func fn first cap) w := fun _ _ _ _ => rfl
  clear h
  go_enter Try.func15, Try.ntmps15
  go_wp2
  go_ret
  exact ⟨ret_int hv.out.symm, by repeat (first | exact Grown.refl _ | apply Grown.drew | apply Grown.alloc)⟩

theorem op_any (op a b : Int) (w : World) :
    Calls Try.prog 15 #[.int .i64 op, .int .i64 a, .int .i64 b] w fun e w' => e = .returned (.int .i64 (opv op a b)) ∧ Grown w w' := by
  by_cases h : op < 1 ∨ 8 < op
  · exact op_no op a b w h
  · obtain rfl | rfl | rfl | rfl | rfl | rfl | rfl | rfl : op = 1 ∨ op = 2 ∨ op = 3 ∨ op = 4 ∨ op = 5 ∨ op = 6 ∨ op = 7 ∨ op = 8 := by omega
    · exact op_1 a b w
    · exact op_2 a b w
    · exact op_3 a b w
    · exact op_4 a b w
    · exact op_5 a b w
    · exact op_6 a b w
    · obtain h1 | h1 | h1 : a < b ∨ b < a ∨ a = b := by omega
      · exact op_7_lt a b w h1
      · exact op_7_gt a b w h1
      · exact op_7_eq a b w h1
    · obtain h1 | h1 | h1 : a < b ∨ b < a ∨ a = b := by omega
      · exact op_8_lt a b w h1
      · exact op_8_gt a b w h1
      · exact op_8_eq a b w h1

set_option maxHeartbeats 400000 in
theorem ref_1 (a b : Int) (w : World) :
    Calls Try.prog 18 #[.int .i64 1, .int .i64 a, .int .i64 b] w fun e w' => e = .returned (.int .i64 (opv 1 a b)) ∧ w' = w := by
  go_enter Try.func18, Try.ntmps18
  go_wp2
  go_ret
  exact ⟨rfl, rfl⟩

set_option maxHeartbeats 400000 in
theorem ref_2 (a b : Int) (w : World) :
    Calls Try.prog 18 #[.int .i64 2, .int .i64 a, .int .i64 b] w fun e w' => e = .returned (.int .i64 (opv 2 a b)) ∧ w' = w := by
  go_enter Try.func18, Try.ntmps18
  go_wp2
  go_ret
  exact ⟨rfl, rfl⟩

set_option maxHeartbeats 400000 in
theorem ref_3 (a b : Int) (w : World) :
    Calls Try.prog 18 #[.int .i64 3, .int .i64 a, .int .i64 b] w fun e w' => e = .returned (.int .i64 (opv 3 a b)) ∧ w' = w := by
  go_enter Try.func18, Try.ntmps18
  go_wp2
  go_ret
  exact ⟨rfl, rfl⟩

set_option maxHeartbeats 400000 in
theorem ref_4 (a b : Int) (w : World) (ha0 : -9223372036854775808 ≤ a) (ha : a ≤ 9223372036854775807) (hb0 : -9223372036854775808 ≤ b) (hb : b ≤ 9223372036854775807) :
    Calls Try.prog 18 #[.int .i64 4, .int .i64 a, .int .i64 b] w fun e w' => e = .returned (.int .i64 (opv 4 a b)) ∧ w' = w := by
  go_enter Try.func18, Try.ntmps18
  go_wp2_with (go_at_call 53; refine (bits_and_any _ _ _ ha0 ha hb0 hb).mono ?_; rintro e w' ⟨rfl, rfl⟩)
  go_ret
  exact ⟨rfl, rfl⟩

set_option maxHeartbeats 400000 in
theorem ref_5 (a b : Int) (w : World) (ha0 : -9223372036854775808 ≤ a) (ha : a ≤ 9223372036854775807) (hb0 : -9223372036854775808 ≤ b) (hb : b ≤ 9223372036854775807) :
    Calls Try.prog 18 #[.int .i64 5, .int .i64 a, .int .i64 b] w fun e w' => e = .returned (.int .i64 (opv 5 a b)) ∧ w' = w := by
  go_enter Try.func18, Try.ntmps18
  go_wp2_with (go_at_call 53; refine (bits_or_any _ _ _ ha0 ha hb0 hb).mono ?_; rintro e w' ⟨rfl, rfl⟩)
  go_ret
  exact ⟨rfl, rfl⟩

set_option maxHeartbeats 400000 in
theorem ref_6 (a b : Int) (w : World) (ha0 : -9223372036854775808 ≤ a) (ha : a ≤ 9223372036854775807) (hb0 : -9223372036854775808 ≤ b) (hb : b ≤ 9223372036854775807) :
    Calls Try.prog 18 #[.int .i64 6, .int .i64 a, .int .i64 b] w fun e w' => e = .returned (.int .i64 (opv 6 a b)) ∧ w' = w := by
  go_enter Try.func18, Try.ntmps18
  go_wp2_with (go_at_call 53; refine (bits_xor_any _ _ _ ha0 ha hb0 hb).mono ?_; rintro e w' ⟨rfl, rfl⟩)
  go_ret
  exact ⟨rfl, rfl⟩

set_option maxHeartbeats 400000 in
theorem ref_7_yes (a b : Int) (w : World) (h : a < b) :
    Calls Try.prog 18 #[.int .i64 7, .int .i64 a, .int .i64 b] w fun e w' => e = .returned (.int .i64 (opv 7 a b)) ∧ w' = w := by
  go_enter Try.func18, Try.ntmps18
  go_wp2
  go_ret
  exact ⟨ret_int (by simp [opv, h]), rfl⟩

set_option maxHeartbeats 400000 in
theorem ref_7_no (a b : Int) (w : World) (h : ¬ a < b) :
    Calls Try.prog 18 #[.int .i64 7, .int .i64 a, .int .i64 b] w fun e w' => e = .returned (.int .i64 (opv 7 a b)) ∧ w' = w := by
  go_enter Try.func18, Try.ntmps18
  go_wp2
  go_ret
  exact ⟨ret_int (by simp [opv, h]), rfl⟩

set_option maxHeartbeats 400000 in
theorem ref_8_yes (a b : Int) (w : World) (h : a = b) :
    Calls Try.prog 18 #[.int .i64 8, .int .i64 a, .int .i64 b] w fun e w' => e = .returned (.int .i64 (opv 8 a b)) ∧ w' = w := by
  subst h
  go_enter Try.func18, Try.ntmps18
  go_wp2
  go_ret
  exact ⟨ret_int (by simp [opv]), rfl⟩

set_option maxHeartbeats 400000 in
theorem ref_8_no (a b : Int) (w : World) (h : ¬ a = b) :
    Calls Try.prog 18 #[.int .i64 8, .int .i64 a, .int .i64 b] w fun e w' => e = .returned (.int .i64 (opv 8 a b)) ∧ w' = w := by
  have hb : (a == b) = false := beq_eq_false_iff_ne.2 h
  have HH := hide h
  clear h
  go_enter Try.func18, Try.ntmps18
  go_wp2
  go_ret
  exact ⟨ret_int (by simp [opv, HH.out]), rfl⟩

set_option maxHeartbeats 400000 in
theorem ref_no (op a b : Int) (w : World) (h : op < 1 ∨ 8 < op) :
    Calls Try.prog 18 #[.int .i64 op, .int .i64 a, .int .i64 b] w fun e w' => e = .returned (.int .i64 (opv op a b)) ∧ w' = w := by
  have hv : Hid (opv op a b = 0) := by
    show opv op a b = 0
    unfold opv
    rw [if_neg (by omega), if_neg (by omega), if_neg (by omega), if_neg (by omega), if_neg (by omega), if_neg (by omega), if_neg (by omega), if_neg (by omega)]
  have n1 : (op == 1) = false := beq_eq_false_iff_ne.2 (by omega)
  have n2 : (op == 2) = false := beq_eq_false_iff_ne.2 (by omega)
  have n3 : (op == 3) = false := beq_eq_false_iff_ne.2 (by omega)
  have n4 : (op == 4) = false := beq_eq_false_iff_ne.2 (by omega)
  have n5 : (op == 5) = false := beq_eq_false_iff_ne.2 (by omega)
  have n6 : (op == 6) = false := beq_eq_false_iff_ne.2 (by omega)
  have n7 : (op == 7) = false := beq_eq_false_iff_ne.2 (by omega)
  have n8 : (op == 8) = false := beq_eq_false_iff_ne.2 (by omega)
  clear h
  go_enter Try.func18, Try.ntmps18
  go_wp2
  go_ret
  exact ⟨ret_int hv.out.symm, rfl⟩

theorem ref_any (op a b : Int) (w : World) (ha0 : -9223372036854775808 ≤ a) (ha : a ≤ 9223372036854775807) (hb0 : -9223372036854775808 ≤ b) (hb : b ≤ 9223372036854775807) :
    Calls Try.prog 18 #[.int .i64 op, .int .i64 a, .int .i64 b] w fun e w' => e = .returned (.int .i64 (opv op a b)) ∧ w' = w := by
  by_cases h : op < 1 ∨ 8 < op
  · exact ref_no op a b w h
  · obtain rfl | rfl | rfl | rfl | rfl | rfl | rfl | rfl : op = 1 ∨ op = 2 ∨ op = 3 ∨ op = 4 ∨ op = 5 ∨ op = 6 ∨ op = 7 ∨ op = 8 := by omega
    · exact ref_1 a b w
    · exact ref_2 a b w
    · exact ref_3 a b w
    · exact ref_4 a b w ha0 ha hb0 hb
    · exact ref_5 a b w ha0 ha hb0 hb
    · exact ref_6 a b w ha0 ha hb0 hb
    · by_cases h1 : a < b
      · exact ref_7_yes a b w h1
      · exact ref_7_no a b w h1
    · by_cases h1 : a = b
      · exact ref_8_yes a b w h1
      · exact ref_8_no a b w h1

set_option maxHeartbeats 400000 in
theorem class_3 (w : World) :
    Calls Try.prog 16 #[.int .i64 3] w fun e w' => e = .returned (.int .i64 (clsv 3)) ∧ w' = w := by
  go_enter Try.func16, Try.ntmps16
  go_wp2
  go_ret
  exact ⟨rfl, rfl⟩

set_option maxHeartbeats 400000 in
theorem class_4 (w : World) :
    Calls Try.prog 16 #[.int .i64 4] w fun e w' => e = .returned (.int .i64 (clsv 4)) ∧ w' = w := by
  go_enter Try.func16, Try.ntmps16
  go_wp2
  go_ret
  exact ⟨rfl, rfl⟩

set_option maxHeartbeats 400000 in
theorem class_13 (w : World) :
    Calls Try.prog 16 #[.int .i64 13] w fun e w' => e = .returned (.int .i64 (clsv 13)) ∧ w' = w := by
  go_enter Try.func16, Try.ntmps16
  go_wp2
  go_ret
  exact ⟨rfl, rfl⟩

set_option maxHeartbeats 400000 in
theorem class_no (op : Int) (w : World) (h3 : op ≠ 3) (h4 : op ≠ 4) (h7 : op ≠ 13) :
    Calls Try.prog 16 #[.int .i64 op] w fun e w' => e = .returned (.int .i64 (clsv op)) ∧ w' = w := by
  have hv : Hid (clsv op = 0) := by
    show clsv op = 0
    unfold clsv
    rw [if_neg (by omega), if_neg (by omega)]
  have n3 : (op == 3) = false := beq_eq_false_iff_ne.2 h3
  have n4 : (op == 4) = false := beq_eq_false_iff_ne.2 h4
  have n7 : (op == 13) = false := beq_eq_false_iff_ne.2 h7
  clear h3 h4 h7
  go_enter Try.func16, Try.ntmps16
  go_wp2
  go_ret
  exact ⟨ret_int hv.out.symm, rfl⟩

theorem class_any (op : Int) (w : World) :
    Calls Try.prog 16 #[.int .i64 op] w fun e w' => e = .returned (.int .i64 (clsv op)) ∧ w' = w := by
  by_cases h3 : op = 3
  · subst h3; exact class_3 w
  by_cases h4 : op = 4
  · subst h4; exact class_4 w
  by_cases h7 : op = 13
  · subst h7; exact class_13 w
  exact class_no op w h3 h4 h7

set_option maxHeartbeats 400000 in
theorem refClass_3 (w : World) :
    Calls Try.prog 19 #[.int .i64 3] w fun e w' => e = .returned (.int .i64 (clsv 3)) ∧ w' = w := by
  go_enter Try.func19, Try.ntmps19
  go_wp2
  go_ret
  exact ⟨rfl, rfl⟩

set_option maxHeartbeats 400000 in
theorem refClass_4 (w : World) :
    Calls Try.prog 19 #[.int .i64 4] w fun e w' => e = .returned (.int .i64 (clsv 4)) ∧ w' = w := by
  go_enter Try.func19, Try.ntmps19
  go_wp2
  go_ret
  exact ⟨rfl, rfl⟩

set_option maxHeartbeats 400000 in
theorem refClass_13 (w : World) :
    Calls Try.prog 19 #[.int .i64 13] w fun e w' => e = .returned (.int .i64 (clsv 13)) ∧ w' = w := by
  go_enter Try.func19, Try.ntmps19
  go_wp2
  go_ret
  exact ⟨rfl, rfl⟩

set_option maxHeartbeats 400000 in
theorem refClass_no (op : Int) (w : World) (h3 : op ≠ 3) (h4 : op ≠ 4) (h7 : op ≠ 13) :
    Calls Try.prog 19 #[.int .i64 op] w fun e w' => e = .returned (.int .i64 (clsv op)) ∧ w' = w := by
  have hv : Hid (clsv op = 0) := by
    show clsv op = 0
    unfold clsv
    rw [if_neg (by omega), if_neg (by omega)]
  have n3 : (op == 3) = false := beq_eq_false_iff_ne.2 h3
  have n4 : (op == 4) = false := beq_eq_false_iff_ne.2 h4
  have n7 : (op == 13) = false := beq_eq_false_iff_ne.2 h7
  clear h3 h4 h7
  go_enter Try.func19, Try.ntmps19
  go_wp2
  go_ret
  exact ⟨ret_int hv.out.symm, rfl⟩

theorem refClass_any (op : Int) (w : World) :
    Calls Try.prog 19 #[.int .i64 op] w fun e w' => e = .returned (.int .i64 (clsv op)) ∧ w' = w := by
  by_cases h3 : op = 3
  · subst h3; exact refClass_3 w
  by_cases h4 : op = 4
  · subst h4; exact refClass_4 w
  by_cases h7 : op = 13
  · subst h7; exact refClass_13 w
  exact refClass_no op w h3 h4 h7
end Go.Proofs.Ytpljieenjkbmmaa
