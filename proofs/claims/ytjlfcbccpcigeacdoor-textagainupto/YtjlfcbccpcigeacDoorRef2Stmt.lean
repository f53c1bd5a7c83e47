/- Contracts of the document's own answer on statements of a loop: for every loop in memory it says of each statement what stOk says; nothing that was there is changed. -/
import Derived.Test.YtjlfcbccpcigeacDoorLoopStmt
namespace Go.Proofs.YtjlfcbccpcigeacDoor
open Go.RowKit Go.Joins
set_option linter.unusedVariables false

theorem rwithin_any (n lo hi : Int) (w : World) :
    Calls Tryd.prog 21 #[.int .i64 n, .int .i64 lo, .int .i64 hi] w fun e w' => e = .returned (.bool (inR n lo hi)) ∧ w' = w := by
  by_cases h : lo ≤ n ∧ n ≤ hi
  · rw [inR_yes h]
    obtain ⟨h1, h2⟩ := h
    go_enter Tryd.func21, Tryd.ntmps21
    go_wp2
    go_ret
    exact ⟨rfl, rfl⟩
  · rw [inR_no h]
    by_cases h1 : lo ≤ n
    · have h2 : ¬ n ≤ hi := fun h2 => h ⟨h1, h2⟩
      clear h
      go_enter Tryd.func21, Tryd.ntmps21
      go_wp2
      go_ret
      exact ⟨rfl, rfl⟩
    · clear h
      go_enter Tryd.func21, Tryd.ntmps21
      go_wp2
      go_ret
      exact ⟨rfl, rfl⟩

theorem uses_0 (o xa xb ya yb ar sp pl nn : Int) (w : World) (h4 : (o == 4) = false) (h10 : ¬ 10 < o) :
    Calls Tryd.prog 40 #[.agg #[.int .i64 o, .int .i64 xa, .int .i64 xb, .int .i64 ya, .int .i64 yb, .int .i64 ar, .int .i64 sp, .int .i64 pl, .int .i64 nn]] w fun e w' =>
      e = .returned (.slice none 0 0) ∧ w' = w.alloc (.cells #[.int .i64 o, .int .i64 xa, .int .i64 xb, .int .i64 ya, .int .i64 yb, .int .i64 ar, .int .i64 sp, .int .i64 pl, .int .i64 nn] 53) := by
  go_enter Tryd.func40, Tryd.ntmps40
  go_wp2
  go_ret
  exact ⟨rfl, rfl⟩
theorem uses_4 (xa xb ya yb ar sp pl nn : Int) (w : World) :
    Calls Tryd.prog 40 #[.agg #[.int .i64 4, .int .i64 xa, .int .i64 xb, .int .i64 ya, .int .i64 yb, .int .i64 ar, .int .i64 sp, .int .i64 pl, .int .i64 nn]] w fun e w' =>
      e = .returned (.slice (some ⟨w.heap.size + 1, 0, none⟩) 1 1) ∧ w' = (w.alloc (.cells #[.int .i64 4, .int .i64 xa, .int .i64 xb, .int .i64 ya, .int .i64 yb, .int .i64 ar, .int .i64 sp, .int .i64 pl, .int .i64 nn] 53)).alloc (.cells #[.int .i64 xa, .int .i64 xb] 51) := by
  go_enter Tryd.func40, Tryd.ntmps40
  go_wp2
  go_ret
  exact ⟨rfl, rfl⟩
theorem uses_op (o xa xb ya yb ar sp pl nn : Int) (w : World) (h4 : (o == 4) = false) (h10 : 10 < o) :
    Calls Tryd.prog 40 #[.agg #[.int .i64 o, .int .i64 xa, .int .i64 xb, .int .i64 ya, .int .i64 yb, .int .i64 ar, .int .i64 sp, .int .i64 pl, .int .i64 nn]] w fun e w' =>
      e = .returned (.slice (some ⟨w.heap.size + 1, 0, none⟩) 2 2) ∧ w' = (w.alloc (.cells #[.int .i64 o, .int .i64 xa, .int .i64 xb, .int .i64 ya, .int .i64 yb, .int .i64 ar, .int .i64 sp, .int .i64 pl, .int .i64 nn] 53)).alloc (.cells #[.int .i64 xa, .int .i64 xb, .int .i64 ya, .int .i64 yb] 51) := by
  go_enter Tryd.func40, Tryd.ntmps40
  go_wp2
  go_ret
  exact ⟨rfl, rfl⟩
-- the document's statement, op by op
theorem stOk_3 {m n k xa xb ya yb ar sp pl nn : Int} : stOk m n k ⟨3, xa, xb, ya, yb, ar, sp, pl, nn⟩ = (decide (xa = 0 ∧ xb = 0 ∧ ya = 0 ∧ yb = 0 ∧ nn = 0) && wordOk m ar sp pl) := rfl
theorem stOk_4 {m n k xa xb ya yb ar sp pl nn : Int} : stOk m n k ⟨4, xa, xb, ya, yb, ar, sp, pl, nn⟩ = (decide (ya = 0 ∧ yb = 0 ∧ nn = 0) && wordOk m ar sp pl && refOk n k xa xb) := rfl
set_option maxHeartbeats 1000000 in
theorem rstmt_1y (L : Lp) (k : Nat) (w : World) (a0 : Option Addr) (v2 : Value) (b off cap cap0 : Nat) (nn : Int) (hks : (k : Int) < (L.body.length : Int)) (hm : cap ≤ 9223372036854775807) (hl : L.body.length ≤ cap) (hm0 : cap0 ≤ 9223372036854775807) (hl0 : L.logs.length ≤ cap0) (hb : b < w.heap.size)
    (c0 : w.cell? ⟨b, off + k * 9, none⟩ = some (.int .i64 1)) (c1 : w.cell? ⟨b, off + k * 9 + 1, none⟩ = some (.int .i64 0)) (c2 : w.cell? ⟨b, off + k * 9 + 2, none⟩ = some (.int .i64 0)) (c3 : w.cell? ⟨b, off + k * 9 + 3, none⟩ = some (.int .i64 0)) (c4 : w.cell? ⟨b, off + k * 9 + 4, none⟩ = some (.int .i64 0)) (c5 : w.cell? ⟨b, off + k * 9 + 5, none⟩ = some (.int .i64 0)) (c6 : w.cell? ⟨b, off + k * 9 + 6, none⟩ = some (.int .i64 0)) (c7 : w.cell? ⟨b, off + k * 9 + 7, none⟩ = some (.int .i64 0)) (c8 : w.cell? ⟨b, off + k * 9 + 8, none⟩ = some (.int .i64 nn)) :
    Calls Tryd.prog 22 #[.agg #[.slice a0 L.logs.length cap0, .slice (some ⟨b, off, none⟩) L.body.length cap, v2], .int .i64 k] w fun e w' => e = .returned (.bool (stOk L.logs.length L.body.length k ⟨1, 0, 0, 0, 0, 0, 0, 0, nn⟩)) ∧ Below w.heap.size w w' := by
  have HX : stOk L.logs.length L.body.length k ⟨1, 0, 0, 0, 0, 0, 0, 0, nn⟩ = true := by
    simp [stOk]
  rw [HX]
  clear HX
  go_enter Tryd.func22, Tryd.ntmps22
  go_wp2_with (first | (go_at_call 21; refine (rwithin_any _ _ _ _).mono ?_; rintro e w' ⟨rfl, rfl⟩) | (go_at_call 40; refine (uses_0 _ _ _ _ _ _ _ _ _ _ (by first | rfl | assumption) (by omega)).mono ?_; rintro e w' ⟨rfl, rfl⟩))
  go_loop [7] (fun i => i = .int .i64 0) (fun _ => 0)
  case atStart => rfl
  case round =>
    subst hrel
    go_wp2_with (go_at_call 21; refine (rwithin_any _ _ _ _).mono ?_; rintro e w' ⟨rfl, rfl⟩)
    go_ret
    exact ⟨rfl, below_alloc3 _ _ _ _⟩
set_option maxHeartbeats 1000000 in
theorem rstmt_1n (L : Lp) (k : Nat) (w : World) (a0 : Option Addr) (v2 : Value) (b off cap cap0 : Nat) (xa xb ya yb ar sp pl nn : Int) (hks : (k : Int) < (L.body.length : Int)) (hm : cap ≤ 9223372036854775807) (hl : L.body.length ≤ cap) (hm0 : cap0 ≤ 9223372036854775807) (hl0 : L.logs.length ≤ cap0) (hb : b < w.heap.size)
    (c0 : w.cell? ⟨b, off + k * 9, none⟩ = some (.int .i64 1)) (c1 : w.cell? ⟨b, off + k * 9 + 1, none⟩ = some (.int .i64 xa)) (c2 : w.cell? ⟨b, off + k * 9 + 2, none⟩ = some (.int .i64 xb)) (c3 : w.cell? ⟨b, off + k * 9 + 3, none⟩ = some (.int .i64 ya)) (c4 : w.cell? ⟨b, off + k * 9 + 4, none⟩ = some (.int .i64 yb)) (c5 : w.cell? ⟨b, off + k * 9 + 5, none⟩ = some (.int .i64 ar)) (c6 : w.cell? ⟨b, off + k * 9 + 6, none⟩ = some (.int .i64 sp)) (c7 : w.cell? ⟨b, off + k * 9 + 7, none⟩ = some (.int .i64 pl)) (c8 : w.cell? ⟨b, off + k * 9 + 8, none⟩ = some (.int .i64 nn)) (hz : ¬ (xa = 0 ∧ xb = 0 ∧ ya = 0 ∧ yb = 0 ∧ ar = 0 ∧ sp = 0 ∧ pl = 0)) :
    Calls Tryd.prog 22 #[.agg #[.slice a0 L.logs.length cap0, .slice (some ⟨b, off, none⟩) L.body.length cap, v2], .int .i64 k] w fun e w' => e = .returned (.bool (stOk L.logs.length L.body.length k ⟨1, xa, xb, ya, yb, ar, sp, pl, nn⟩)) ∧ Below w.heap.size w w' := by
  have HX : stOk L.logs.length L.body.length k ⟨1, xa, xb, ya, yb, ar, sp, pl, nn⟩ = false := by
    simpa [stOk] using hz
  rw [HX]
  clear HX
  go_enter Tryd.func22, Tryd.ntmps22
  go_wp2_with (first | (go_at_call 21; refine (rwithin_any _ _ _ _).mono ?_; rintro e w' ⟨rfl, rfl⟩) | (go_at_call 40; refine (uses_0 _ _ _ _ _ _ _ _ _ _ (by first | rfl | assumption) (by omega)).mono ?_; rintro e w' ⟨rfl, rfl⟩))
  go_loop [7] (fun i => i = .int .i64 0) (fun _ => 0)
  case atStart => rfl
  case round =>
    subst hrel
    go_wp2_with (go_at_call 21; refine (rwithin_any _ _ _ _).mono ?_; rintro e w' ⟨rfl, rfl⟩)
    all_goals
      first
      | (go_ret; exact ⟨rfl, below_alloc3 _ _ _ _⟩)
      | (exfalso; simp_all; done)
set_option maxHeartbeats 1000000 in
theorem rstmt_2y (L : Lp) (k : Nat) (w : World) (a0 : Option Addr) (v2 : Value) (b off cap cap0 : Nat)  (hks : (k : Int) < (L.body.length : Int)) (hm : cap ≤ 9223372036854775807) (hl : L.body.length ≤ cap) (hm0 : cap0 ≤ 9223372036854775807) (hl0 : L.logs.length ≤ cap0) (hb : b < w.heap.size)
    (c0 : w.cell? ⟨b, off + k * 9, none⟩ = some (.int .i64 2)) (c1 : w.cell? ⟨b, off + k * 9 + 1, none⟩ = some (.int .i64 0)) (c2 : w.cell? ⟨b, off + k * 9 + 2, none⟩ = some (.int .i64 0)) (c3 : w.cell? ⟨b, off + k * 9 + 3, none⟩ = some (.int .i64 0)) (c4 : w.cell? ⟨b, off + k * 9 + 4, none⟩ = some (.int .i64 0)) (c5 : w.cell? ⟨b, off + k * 9 + 5, none⟩ = some (.int .i64 0)) (c6 : w.cell? ⟨b, off + k * 9 + 6, none⟩ = some (.int .i64 0)) (c7 : w.cell? ⟨b, off + k * 9 + 7, none⟩ = some (.int .i64 0)) (c8 : w.cell? ⟨b, off + k * 9 + 8, none⟩ = some (.int .i64 0)) :
    Calls Tryd.prog 22 #[.agg #[.slice a0 L.logs.length cap0, .slice (some ⟨b, off, none⟩) L.body.length cap, v2], .int .i64 k] w fun e w' => e = .returned (.bool (stOk L.logs.length L.body.length k ⟨2, 0, 0, 0, 0, 0, 0, 0, 0⟩)) ∧ Below w.heap.size w w' := by
  have HX : stOk L.logs.length L.body.length k ⟨2, 0, 0, 0, 0, 0, 0, 0, 0⟩ = true := by
    simp [stOk]
  rw [HX]
  clear HX
  go_enter Tryd.func22, Tryd.ntmps22
  go_wp2_with (first | (go_at_call 21; refine (rwithin_any _ _ _ _).mono ?_; rintro e w' ⟨rfl, rfl⟩) | (go_at_call 40; refine (uses_0 _ _ _ _ _ _ _ _ _ _ (by first | rfl | assumption) (by omega)).mono ?_; rintro e w' ⟨rfl, rfl⟩))
  go_loop [7] (fun i => i = .int .i64 0) (fun _ => 0)
  case atStart => rfl
  case round =>
    subst hrel
    go_wp2_with (go_at_call 21; refine (rwithin_any _ _ _ _).mono ?_; rintro e w' ⟨rfl, rfl⟩)
    go_ret
    exact ⟨rfl, below_alloc3 _ _ _ _⟩
set_option maxHeartbeats 1000000 in
theorem rstmt_2n (L : Lp) (k : Nat) (w : World) (a0 : Option Addr) (v2 : Value) (b off cap cap0 : Nat) (xa xb ya yb ar sp pl nn : Int) (hks : (k : Int) < (L.body.length : Int)) (hm : cap ≤ 9223372036854775807) (hl : L.body.length ≤ cap) (hm0 : cap0 ≤ 9223372036854775807) (hl0 : L.logs.length ≤ cap0) (hb : b < w.heap.size)
    (c0 : w.cell? ⟨b, off + k * 9, none⟩ = some (.int .i64 2)) (c1 : w.cell? ⟨b, off + k * 9 + 1, none⟩ = some (.int .i64 xa)) (c2 : w.cell? ⟨b, off + k * 9 + 2, none⟩ = some (.int .i64 xb)) (c3 : w.cell? ⟨b, off + k * 9 + 3, none⟩ = some (.int .i64 ya)) (c4 : w.cell? ⟨b, off + k * 9 + 4, none⟩ = some (.int .i64 yb)) (c5 : w.cell? ⟨b, off + k * 9 + 5, none⟩ = some (.int .i64 ar)) (c6 : w.cell? ⟨b, off + k * 9 + 6, none⟩ = some (.int .i64 sp)) (c7 : w.cell? ⟨b, off + k * 9 + 7, none⟩ = some (.int .i64 pl)) (c8 : w.cell? ⟨b, off + k * 9 + 8, none⟩ = some (.int .i64 nn)) (hz : ¬ (xa = 0 ∧ xb = 0 ∧ ya = 0 ∧ yb = 0 ∧ ar = 0 ∧ sp = 0 ∧ pl = 0 ∧ nn = 0)) :
    Calls Tryd.prog 22 #[.agg #[.slice a0 L.logs.length cap0, .slice (some ⟨b, off, none⟩) L.body.length cap, v2], .int .i64 k] w fun e w' => e = .returned (.bool (stOk L.logs.length L.body.length k ⟨2, xa, xb, ya, yb, ar, sp, pl, nn⟩)) ∧ Below w.heap.size w w' := by
  have HX : stOk L.logs.length L.body.length k ⟨2, xa, xb, ya, yb, ar, sp, pl, nn⟩ = false := by
    simpa [stOk] using hz
  rw [HX]
  clear HX
  go_enter Tryd.func22, Tryd.ntmps22
  go_wp2_with (first | (go_at_call 21; refine (rwithin_any _ _ _ _).mono ?_; rintro e w' ⟨rfl, rfl⟩) | (go_at_call 40; refine (uses_0 _ _ _ _ _ _ _ _ _ _ (by first | rfl | assumption) (by omega)).mono ?_; rintro e w' ⟨rfl, rfl⟩))
  go_loop [7] (fun i => i = .int .i64 0) (fun _ => 0)
  case atStart => rfl
  case round =>
    subst hrel
    go_wp2_with (go_at_call 21; refine (rwithin_any _ _ _ _).mono ?_; rintro e w' ⟨rfl, rfl⟩)
    all_goals
      first
      | (go_ret; exact ⟨rfl, below_alloc3 _ _ _ _⟩)
      | (exfalso; simp_all; done)
set_option maxHeartbeats 1000000 in
theorem rstmt_3a (L : Lp) (k : Nat) (w : World) (a0 : Option Addr) (v2 : Value) (b off cap cap0 : Nat) (ar sp pl : Int) (hks : (k : Int) < (L.body.length : Int)) (hm : cap ≤ 9223372036854775807) (hl : L.body.length ≤ cap) (hm0 : cap0 ≤ 9223372036854775807) (hl0 : L.logs.length ≤ cap0) (hb : b < w.heap.size)
    (c0 : w.cell? ⟨b, off + k * 9, none⟩ = some (.int .i64 3)) (c1 : w.cell? ⟨b, off + k * 9 + 1, none⟩ = some (.int .i64 0)) (c2 : w.cell? ⟨b, off + k * 9 + 2, none⟩ = some (.int .i64 0)) (c3 : w.cell? ⟨b, off + k * 9 + 3, none⟩ = some (.int .i64 0)) (c4 : w.cell? ⟨b, off + k * 9 + 4, none⟩ = some (.int .i64 0)) (c5 : w.cell? ⟨b, off + k * 9 + 5, none⟩ = some (.int .i64 ar)) (c6 : w.cell? ⟨b, off + k * 9 + 6, none⟩ = some (.int .i64 sp)) (c7 : w.cell? ⟨b, off + k * 9 + 7, none⟩ = some (.int .i64 pl)) (c8 : w.cell? ⟨b, off + k * 9 + 8, none⟩ = some (.int .i64 0)) (h1 : inR ar 0 (L.logs.length - 1) = false) :
    Calls Tryd.prog 22 #[.agg #[.slice a0 L.logs.length cap0, .slice (some ⟨b, off, none⟩) L.body.length cap, v2], .int .i64 k] w fun e w' => e = .returned (.bool (stOk L.logs.length L.body.length k ⟨3, 0, 0, 0, 0, ar, sp, pl, 0⟩)) ∧ Below w.heap.size w w' := by
  have HX : stOk L.logs.length L.body.length k ⟨3, 0, 0, 0, 0, ar, sp, pl, 0⟩ = false := by
    simp [stOk, wordOk, h1]
  rw [HX]
  clear HX
  go_enter Tryd.func22, Tryd.ntmps22
  go_wp2_with (first | (go_at_call 21; refine (rwithin_any _ _ _ _).mono ?_; rintro e w' ⟨rfl, rfl⟩) | (go_at_call 40; refine (uses_0 _ _ _ _ _ _ _ _ _ _ (by first | rfl | assumption) (by omega)).mono ?_; rintro e w' ⟨rfl, rfl⟩))
  go_loop [7] (fun i => i = .int .i64 0) (fun _ => 0)
  case atStart => rfl
  case round =>
    subst hrel
    go_wp2_with (go_at_call 21; refine (rwithin_any _ _ _ _).mono ?_; rintro e w' ⟨rfl, rfl⟩)
    go_ret
    exact ⟨rfl, below_alloc3 _ _ _ _⟩
set_option maxHeartbeats 1000000 in
theorem rstmt_3b (L : Lp) (k : Nat) (w : World) (a0 : Option Addr) (v2 : Value) (b off cap cap0 : Nat) (ar sp pl : Int) (hks : (k : Int) < (L.body.length : Int)) (hm : cap ≤ 9223372036854775807) (hl : L.body.length ≤ cap) (hm0 : cap0 ≤ 9223372036854775807) (hl0 : L.logs.length ≤ cap0) (hb : b < w.heap.size)
    (c0 : w.cell? ⟨b, off + k * 9, none⟩ = some (.int .i64 3)) (c1 : w.cell? ⟨b, off + k * 9 + 1, none⟩ = some (.int .i64 0)) (c2 : w.cell? ⟨b, off + k * 9 + 2, none⟩ = some (.int .i64 0)) (c3 : w.cell? ⟨b, off + k * 9 + 3, none⟩ = some (.int .i64 0)) (c4 : w.cell? ⟨b, off + k * 9 + 4, none⟩ = some (.int .i64 0)) (c5 : w.cell? ⟨b, off + k * 9 + 5, none⟩ = some (.int .i64 ar)) (c6 : w.cell? ⟨b, off + k * 9 + 6, none⟩ = some (.int .i64 sp)) (c7 : w.cell? ⟨b, off + k * 9 + 7, none⟩ = some (.int .i64 pl)) (c8 : w.cell? ⟨b, off + k * 9 + 8, none⟩ = some (.int .i64 0)) (h1 : inR ar 0 (L.logs.length - 1) = true) (h2 : inR sp (-64) 64 = false) :
    Calls Tryd.prog 22 #[.agg #[.slice a0 L.logs.length cap0, .slice (some ⟨b, off, none⟩) L.body.length cap, v2], .int .i64 k] w fun e w' => e = .returned (.bool (stOk L.logs.length L.body.length k ⟨3, 0, 0, 0, 0, ar, sp, pl, 0⟩)) ∧ Below w.heap.size w w' := by
  have HX : stOk L.logs.length L.body.length k ⟨3, 0, 0, 0, 0, ar, sp, pl, 0⟩ = false := by
    simp [stOk, wordOk, h2]
  rw [HX]
  clear HX
  go_enter Tryd.func22, Tryd.ntmps22
  go_wp2_with (first | (go_at_call 21; refine (rwithin_any _ _ _ _).mono ?_; rintro e w' ⟨rfl, rfl⟩) | (go_at_call 40; refine (uses_0 _ _ _ _ _ _ _ _ _ _ (by first | rfl | assumption) (by omega)).mono ?_; rintro e w' ⟨rfl, rfl⟩))
  go_loop [7] (fun i => i = .int .i64 0) (fun _ => 0)
  case atStart => rfl
  case round =>
    subst hrel
    go_wp2_with (go_at_call 21; refine (rwithin_any _ _ _ _).mono ?_; rintro e w' ⟨rfl, rfl⟩)
    go_ret
    exact ⟨rfl, below_alloc3 _ _ _ _⟩
set_option maxHeartbeats 1000000 in
theorem rstmt_3c (L : Lp) (k : Nat) (w : World) (a0 : Option Addr) (v2 : Value) (b off cap cap0 : Nat) (ar sp pl : Int) (hks : (k : Int) < (L.body.length : Int)) (hm : cap ≤ 9223372036854775807) (hl : L.body.length ≤ cap) (hm0 : cap0 ≤ 9223372036854775807) (hl0 : L.logs.length ≤ cap0) (hb : b < w.heap.size)
    (c0 : w.cell? ⟨b, off + k * 9, none⟩ = some (.int .i64 3)) (c1 : w.cell? ⟨b, off + k * 9 + 1, none⟩ = some (.int .i64 0)) (c2 : w.cell? ⟨b, off + k * 9 + 2, none⟩ = some (.int .i64 0)) (c3 : w.cell? ⟨b, off + k * 9 + 3, none⟩ = some (.int .i64 0)) (c4 : w.cell? ⟨b, off + k * 9 + 4, none⟩ = some (.int .i64 0)) (c5 : w.cell? ⟨b, off + k * 9 + 5, none⟩ = some (.int .i64 ar)) (c6 : w.cell? ⟨b, off + k * 9 + 6, none⟩ = some (.int .i64 sp)) (c7 : w.cell? ⟨b, off + k * 9 + 7, none⟩ = some (.int .i64 pl)) (c8 : w.cell? ⟨b, off + k * 9 + 8, none⟩ = some (.int .i64 0)) (h1 : inR ar 0 (L.logs.length - 1) = true) (h2 : inR sp (-64) 64 = true) :
    Calls Tryd.prog 22 #[.agg #[.slice a0 L.logs.length cap0, .slice (some ⟨b, off, none⟩) L.body.length cap, v2], .int .i64 k] w fun e w' => e = .returned (.bool (stOk L.logs.length L.body.length k ⟨3, 0, 0, 0, 0, ar, sp, pl, 0⟩)) ∧ Below w.heap.size w w' := by
  have HX : stOk L.logs.length L.body.length k ⟨3, 0, 0, 0, 0, ar, sp, pl, 0⟩ = inR pl (-64) 64 := by
    simp [stOk, wordOk, h1, h2]
  rw [HX]
  clear HX
  go_enter Tryd.func22, Tryd.ntmps22
  go_wp2_with (first | (go_at_call 21; refine (rwithin_any _ _ _ _).mono ?_; rintro e w' ⟨rfl, rfl⟩) | (go_at_call 40; refine (uses_0 _ _ _ _ _ _ _ _ _ _ (by first | rfl | assumption) (by omega)).mono ?_; rintro e w' ⟨rfl, rfl⟩))
  go_loop [7] (fun i => i = .int .i64 0) (fun _ => 0)
  case atStart => rfl
  case round =>
    subst hrel
    go_wp2_with (go_at_call 21; refine (rwithin_any _ _ _ _).mono ?_; rintro e w' ⟨rfl, rfl⟩)
    go_ret
    exact ⟨rfl, below_alloc3 _ _ _ _⟩
set_option maxHeartbeats 1000000 in
theorem rstmt_3n (L : Lp) (k : Nat) (w : World) (a0 : Option Addr) (v2 : Value) (b off cap cap0 : Nat) (xa xb ya yb ar sp pl nn : Int) (hks : (k : Int) < (L.body.length : Int)) (hm : cap ≤ 9223372036854775807) (hl : L.body.length ≤ cap) (hm0 : cap0 ≤ 9223372036854775807) (hl0 : L.logs.length ≤ cap0) (hb : b < w.heap.size)
    (c0 : w.cell? ⟨b, off + k * 9, none⟩ = some (.int .i64 3)) (c1 : w.cell? ⟨b, off + k * 9 + 1, none⟩ = some (.int .i64 xa)) (c2 : w.cell? ⟨b, off + k * 9 + 2, none⟩ = some (.int .i64 xb)) (c3 : w.cell? ⟨b, off + k * 9 + 3, none⟩ = some (.int .i64 ya)) (c4 : w.cell? ⟨b, off + k * 9 + 4, none⟩ = some (.int .i64 yb)) (c5 : w.cell? ⟨b, off + k * 9 + 5, none⟩ = some (.int .i64 ar)) (c6 : w.cell? ⟨b, off + k * 9 + 6, none⟩ = some (.int .i64 sp)) (c7 : w.cell? ⟨b, off + k * 9 + 7, none⟩ = some (.int .i64 pl)) (c8 : w.cell? ⟨b, off + k * 9 + 8, none⟩ = some (.int .i64 nn)) (hz : ¬ (xa = 0 ∧ xb = 0 ∧ ya = 0 ∧ yb = 0 ∧ nn = 0)) :
    Calls Tryd.prog 22 #[.agg #[.slice a0 L.logs.length cap0, .slice (some ⟨b, off, none⟩) L.body.length cap, v2], .int .i64 k] w fun e w' => e = .returned (.bool (stOk L.logs.length L.body.length k ⟨3, xa, xb, ya, yb, ar, sp, pl, nn⟩)) ∧ Below w.heap.size w w' := by
  have HX : stOk L.logs.length L.body.length k ⟨3, xa, xb, ya, yb, ar, sp, pl, nn⟩ = false := by
    rw [stOk_3, decide_eq_false hz]; rfl
  rw [HX]
  clear HX
  go_enter Tryd.func22, Tryd.ntmps22
  go_wp2_with (first | (go_at_call 21; refine (rwithin_any _ _ _ _).mono ?_; rintro e w' ⟨rfl, rfl⟩) | (go_at_call 40; refine (uses_0 _ _ _ _ _ _ _ _ _ _ (by first | rfl | assumption) (by omega)).mono ?_; rintro e w' ⟨rfl, rfl⟩))
  go_loop [7] (fun i => i = .int .i64 0) (fun _ => 0)
  case atStart => rfl
  case round =>
    subst hrel
    go_wp2_with (go_at_call 21; refine (rwithin_any _ _ _ _).mono ?_; rintro e w' ⟨rfl, rfl⟩)
    all_goals
      first
      | (go_ret; exact ⟨rfl, below_alloc3 _ _ _ _⟩)
      | (exfalso; simp_all; done)
set_option maxHeartbeats 1000000 in
theorem rstmt_no (L : Lp) (k : Nat) (w : World) (a0 : Option Addr) (v2 : Value) (b off cap cap0 : Nat) (o xa xb ya yb ar sp pl nn : Int) (hks : (k : Int) < (L.body.length : Int)) (hm : cap ≤ 9223372036854775807) (hl : L.body.length ≤ cap) (hm0 : cap0 ≤ 9223372036854775807) (hl0 : L.logs.length ≤ cap0) (hb : b < w.heap.size)
    (c0 : w.cell? ⟨b, off + k * 9, none⟩ = some (.int .i64 o)) (c1 : w.cell? ⟨b, off + k * 9 + 1, none⟩ = some (.int .i64 xa)) (c2 : w.cell? ⟨b, off + k * 9 + 2, none⟩ = some (.int .i64 xb)) (c3 : w.cell? ⟨b, off + k * 9 + 3, none⟩ = some (.int .i64 ya)) (c4 : w.cell? ⟨b, off + k * 9 + 4, none⟩ = some (.int .i64 yb)) (c5 : w.cell? ⟨b, off + k * 9 + 5, none⟩ = some (.int .i64 ar)) (c6 : w.cell? ⟨b, off + k * 9 + 6, none⟩ = some (.int .i64 sp)) (c7 : w.cell? ⟨b, off + k * 9 + 7, none⟩ = some (.int .i64 pl)) (c8 : w.cell? ⟨b, off + k * 9 + 8, none⟩ = some (.int .i64 nn)) (o1 : (o == 1) = false) (o2 : (o == 2) = false) (o3 : (o == 3) = false) (o4 : (o == 4) = false) (h10 : ¬ 10 < o) (hi : inR o 11 18 = false) :
    Calls Tryd.prog 22 #[.agg #[.slice a0 L.logs.length cap0, .slice (some ⟨b, off, none⟩) L.body.length cap, v2], .int .i64 k] w fun e w' => e = .returned (.bool (stOk L.logs.length L.body.length k ⟨o, xa, xb, ya, yb, ar, sp, pl, nn⟩)) ∧ Below w.heap.size w w' := by
  have HX := stOk_no (xa := xa) (xb := xb) (ya := ya) (yb := yb) (ar := ar) (sp := sp) (pl := pl) (nn := nn) (m := L.logs.length) (n := L.body.length) (k := k) o1 o2 o3 o4 hi
  have n1 : (o != 1) = true := by simpa using o1
  rw [HX]
  clear HX
  go_enter Tryd.func22, Tryd.ntmps22
  go_wp2_with (first | (go_at_call 21; refine (rwithin_any _ _ _ _).mono ?_; rintro e w' ⟨rfl, rfl⟩) | (go_at_call 40; refine (uses_0 _ _ _ _ _ _ _ _ _ _ (by first | rfl | assumption) (by omega)).mono ?_; rintro e w' ⟨rfl, rfl⟩))
  go_loop [7] (fun i => i = .int .i64 0) (fun _ => 0)
  case atStart => rfl
  case round =>
    subst hrel
    go_wp2_with (go_at_call 21; refine (rwithin_any _ _ _ _).mono ?_; rintro e w' ⟨rfl, rfl⟩)
    all_goals
      first
      | (go_ret; exact ⟨rfl, below_alloc3 _ _ _ _⟩)
      | (exfalso; simp_all; done)
end Go.Proofs.YtjlfcbccpcigeacDoor
