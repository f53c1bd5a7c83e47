/- Contracts of package loop, statement by statement: what lies in memory as a loop, and for every loop whether a statement of it may be; nothing that was there is changed. -/
import Derived.Test.YtjlfcbccpcigeacDoorRows
import Derived.Test.YtjlfcbccpcigeacDoorNums
import Derived.Test.YtjlfcbccpcigeacDoorBase
import Derived.WalkKit
import Derived.WalkSpells
import Derived.WalkLawsBesides
import Derived.Below
import Derived.Lib.SmallJoins
namespace Go.Proofs.YtjlfcbccpcigeacDoor
open Go.RowKit Go.Joins
set_option linter.unusedVariables false

theorem ret_bool {a b : Bool} (h : a = b) : Ending.returned (.bool a) = .returned (.bool b) := by rw [h]

/-- v is a slice of the numbers zs -/
def Ints (w : World) (v : Value) (zs : List Int) : Prop :=
  ∃ a cap, v = .slice a zs.length cap ∧ zs.length ≤ cap ∧ cap ≤ maxLen ∧ (∀ i, i < zs.length → -9223372036854775808 ≤ nth zs i ∧ nth zs i ≤ 9223372036854775807) ∧
    (0 < zs.length → ∃ b off, a = some ⟨b, off, none⟩ ∧ b < w.heap.size ∧ ∀ i, i < zs.length → w.cell? ⟨b, off + i, none⟩ = some (.int .i64 (nth zs i)))

theorem lwithin_any (n lo hi : Int) (w : World) :
    Calls Tryd.prog 47 #[.int .i64 n, .int .i64 lo, .int .i64 hi] w fun e w' => e = .returned (.bool (inR n lo hi)) ∧ w' = w := by
  by_cases h : lo ≤ n ∧ n ≤ hi
  · rw [inR_yes h]
    obtain ⟨h1, h2⟩ := h
    go_enter Tryd.func47, Tryd.ntmps47
    go_wp2
    go_ret
    exact ⟨rfl, rfl⟩
  · rw [inR_no h]
    by_cases h1 : lo ≤ n
    · have h2 : ¬ n ≤ hi := fun h2 => h ⟨h1, h2⟩
      clear h
      go_enter Tryd.func47, Tryd.ntmps47
      go_wp2
      go_ret
      exact ⟨rfl, rfl⟩
    · clear h
      go_enter Tryd.func47, Tryd.ntmps47
      go_wp2
      go_ret
      exact ⟨rfl, rfl⟩

set_option maxHeartbeats 400000 in
theorem logsMay_any (v : Value) (zs : List Int) (w : World) (h : Ints w v zs) :
    Calls Tryd.prog 32 #[v] w fun e w' => e = .returned (.bool (logsOk zs)) ∧ w' = w := by
  obtain ⟨a, cap, rfl, hl, hm, hr, hc⟩ := h
  unfold maxLen at hm
  go_enter Tryd.func32, Tryd.ntmps32
  go_wp2
  go_loop [7] (fun i => ∃ k : Nat, k ≤ zs.length ∧ i = .int .i64 k ∧ allN (fun i => logOk (nth zs i)) k = true) (fun i => zs.length - (intOf i).toNat)
  case atStart => exact ⟨0, Nat.zero_le _, rfl, rfl⟩
  case round =>
    obtain ⟨k, hk, rfl, hall⟩ := hrel
    have HA := hide hall
    clear hall
    by_cases hlt : k < zs.length
    · obtain ⟨b, off, rfl, hb, hcell⟩ := hc (by omega)
      have hck := hcell k hlt
      clear hcell hc
      cases hx : logOk (nth zs k) with
      | true =>
        have HX := hide hx
        have hin : inR (nth zs k) 0 5 = true := hx
        clear hx
        go_wp2_with (go_at_call 47; refine (lwithin_any _ _ _ _).mono ?_; rintro e w' ⟨rfl, rfl⟩)
        go_round
        case rel => exact ⟨k + 1, by omega, by go_num, allN_step HA.out HX.out⟩
        case measure => simp [intOf]; omega
      | false =>
        have HX := hide hx
        have hin : inR (nth zs k) 0 5 = false := hx
        clear hx
        go_wp2_with (go_at_call 47; refine (lwithin_any _ _ _ _).mono ?_; rintro e w' ⟨rfl, rfl⟩)
        go_ret
        exact ⟨ret_bool (allN_false hlt HX.out).symm, rfl⟩
    · have e : k = zs.length := by omega
      have HL : Hid (logsOk zs = true) := by show logsOk zs = true; unfold logsOk; rw [← e]; exact HA.out
      clear HA e
      go_wp2
      go_ret
      exact ⟨ret_bool HL.out.symm, rfl⟩

def stCells (s : St) : Array Value := #[.int .i64 s.o, .int .i64 s.xa, .int .i64 s.xb, .int .i64 s.ya, .int .i64 s.yb, .int .i64 s.ar, .int .i64 s.sp, .int .i64 s.pl, .int .i64 s.nn]
/-- v is a slice of the statements b -/
def Stmts (w : World) (v : Value) (b : List St) : Prop :=
  ∃ a cap, v = .slice a b.length cap ∧ b.length ≤ cap ∧ cap ≤ maxLen ∧
    (0 < b.length → ∃ blk off, a = some ⟨blk, off, none⟩ ∧ blk < w.heap.size ∧ ∀ i, i < b.length → ∀ j, j < 9 → w.cell? ⟨blk, off + i * 9 + j, none⟩ = (stCells (stAt b i))[j]?)
/-- v is the loop L -/
def LoopV (w : World) (v : Value) (L : Lp) : Prop := ∃ v0 v1 v2, v = .agg #[v0, v1, v2] ∧ Ints w v0 L.logs ∧ Stmts w v1 L.body ∧ Ints w v2 L.outs

set_option maxHeartbeats 400000 in
theorem wordMay_any (v : Value) (L : Lp) (o xa xb ya yb ar sp pl nn : Int) (w : World) (h : LoopV w v L) :
    Calls Tryd.prog 59 #[v, .agg #[.int .i64 o, .int .i64 xa, .int .i64 xb, .int .i64 ya, .int .i64 yb, .int .i64 ar, .int .i64 sp, .int .i64 pl, .int .i64 nn]] w fun e w' => e = .returned (.bool (wordOk L.logs.length ar sp pl)) ∧ Below w.heap.size w w' := by
  obtain ⟨v0, v1, v2, rfl, ⟨a, cap, rfl, hl, hm, hr, hc⟩, -, -⟩ := h
  unfold maxLen at hm
  cases h1 : inR ar 0 (L.logs.length - 1) with
  | false =>
    have HX : Hid (wordOk L.logs.length ar sp pl = false) := by show wordOk L.logs.length ar sp pl = false; unfold wordOk; rw [h1]; rfl
    go_enter Tryd.func59, Tryd.ntmps59
    go_wp2_with (go_at_call 47; refine (lwithin_any _ _ _ _).mono ?_; rintro e w' ⟨rfl, rfl⟩)
    go_ret
    exact ⟨ret_bool HX.out.symm, below_alloc2 _ _ _⟩
  | true =>
    cases h2 : inR sp (-64) 64 with
    | false =>
      have HX : Hid (wordOk L.logs.length ar sp pl = false) := by show wordOk L.logs.length ar sp pl = false; unfold wordOk; rw [h1, h2]; rfl
      go_enter Tryd.func59, Tryd.ntmps59
      go_wp2_with (go_at_call 47; refine (lwithin_any _ _ _ _).mono ?_; rintro e w' ⟨rfl, rfl⟩)
      go_ret
      exact ⟨ret_bool HX.out.symm, below_alloc2 _ _ _⟩
    | true =>
      have HX : Hid (wordOk L.logs.length ar sp pl = inR pl (-64) 64) := by show wordOk L.logs.length ar sp pl = inR pl (-64) 64; unfold wordOk; rw [h1, h2]; rfl
      go_enter Tryd.func59, Tryd.ntmps59
      go_wp2_with (go_at_call 47; refine (lwithin_any _ _ _ _).mono ?_; rintro e w' ⟨rfl, rfl⟩)
      go_ret
      exact ⟨ret_bool HX.out.symm, below_alloc2 _ _ _⟩

set_option maxHeartbeats 400000 in
theorem refMay_any (v : Value) (L : Lp) (k x y : Int) (w : World) (h : LoopV w v L) (hk0 : 0 ≤ k) (hk : k ≤ 9223372036854775807) :
    Calls Tryd.prog 60 #[v, .int .i64 k, .agg #[.int .i64 x, .int .i64 y]] w fun e w' => e = .returned (.bool (refOk L.body.length k x y)) ∧ Below w.heap.size w w' := by
  obtain ⟨v0, v1, v2, rfl, -, ⟨a, cap, rfl, hl, hm, hc⟩, -⟩ := h
  unfold maxLen at hm
  by_cases hy : y = 0
  · subst hy
    have HX : Hid (refOk L.body.length k x 0 = inR x 0 (k - 1)) := by show refOk L.body.length k x 0 = inR x 0 (k - 1); unfold refOk; rw [if_pos rfl]; rfl
    go_enter Tryd.func60, Tryd.ntmps60
    go_wp2_with (go_at_call 47; refine (lwithin_any _ _ _ _).mono ?_; rintro e w' ⟨rfl, rfl⟩)
    go_ret
    exact ⟨ret_bool HX.out.symm, below_alloc2 _ _ _⟩
  · have hb : (y == 0) = false := by simpa using hy
    cases h1 : inR y 1 3 with
    | false =>
      have HX : Hid (refOk L.body.length k x y = false) := by
        show refOk L.body.length k x y = false
        unfold refOk
        rw [show inR y 0 3 = false from inR_no fun h => by
          have h2 : inR y 1 3 = true := inR_yes (by omega)
          rw [h1] at h2; exact Bool.noConfusion h2]
        rfl
      clear hy
      go_enter Tryd.func60, Tryd.ntmps60
      go_wp2_with (go_at_call 47; refine (lwithin_any _ _ _ _).mono ?_; rintro e w' ⟨rfl, rfl⟩)
      go_ret
      exact ⟨ret_bool HX.out.symm, below_alloc2 _ _ _⟩
    | true =>
      have HX : Hid (refOk L.body.length k x y = inR x 0 (L.body.length - 1)) := by
        show refOk L.body.length k x y = inR x 0 (L.body.length - 1)
        have h2 := inR_iff.1 h1
        unfold refOk
        rw [show inR y 0 3 = true from inR_yes (by omega), if_neg hy]
        rfl
      clear hy
      go_enter Tryd.func60, Tryd.ntmps60
      go_wp2_with (go_at_call 47; refine (lwithin_any _ _ _ _).mono ?_; rintro e w' ⟨rfl, rfl⟩)
      go_ret
      exact ⟨ret_bool HX.out.symm, below_alloc2 _ _ _⟩

theorem nine {w : World} {b o : Nat} {s : St} (h : ∀ j, j < 9 → w.cell? ⟨b, o + j, none⟩ = (stCells s)[j]?) :
    w.cell? ⟨b, o, none⟩ = some (.int .i64 s.o) ∧ w.cell? ⟨b, o + 1, none⟩ = some (.int .i64 s.xa) ∧ w.cell? ⟨b, o + 2, none⟩ = some (.int .i64 s.xb) ∧ w.cell? ⟨b, o + 3, none⟩ = some (.int .i64 s.ya) ∧ w.cell? ⟨b, o + 4, none⟩ = some (.int .i64 s.yb) ∧
      w.cell? ⟨b, o + 5, none⟩ = some (.int .i64 s.ar) ∧ w.cell? ⟨b, o + 6, none⟩ = some (.int .i64 s.sp) ∧ w.cell? ⟨b, o + 7, none⟩ = some (.int .i64 s.pl) ∧ w.cell? ⟨b, o + 8, none⟩ = some (.int .i64 s.nn) :=
  ⟨h 0 (by omega), h 1 (by omega), h 2 (by omega), h 3 (by omega), h 4 (by omega), h 5 (by omega), h 6 (by omega), h 7 (by omega), h 8 (by omega)⟩

theorem bcell {W w1 : World} (hb : Below W.heap.size W w1) : ∀ b o, b < W.heap.size → w1.cell? ⟨b, o, none⟩ = W.cell? ⟨b, o, none⟩ :=
  fun b o h => hb.cell (p := ⟨b, o, none⟩) h
theorem Ints.below {w w' : World} {v : Value} {zs : List Int} (h : Ints w v zs) (hb : Below w.heap.size w w') : Ints w' v zs := by
  obtain ⟨a, cap, e, h1, h2, h3, h4⟩ := h
  refine ⟨a, cap, e, h1, h2, h3, fun hp => ?_⟩
  obtain ⟨b, off, e2, h5, h6⟩ := h4 hp
  exact ⟨b, off, e2, Nat.lt_of_lt_of_le h5 hb.size, fun i hi => by rw [bcell hb _ _ h5]; exact h6 i hi⟩
theorem Stmts.below {w w' : World} {v : Value} {l : List St} (h : Stmts w v l) (hb : Below w.heap.size w w') : Stmts w' v l := by
  obtain ⟨a, cap, e, h1, h2, h4⟩ := h
  refine ⟨a, cap, e, h1, h2, fun hp => ?_⟩
  obtain ⟨b, off, e2, h5, h6⟩ := h4 hp
  exact ⟨b, off, e2, Nat.lt_of_lt_of_le h5 hb.size, fun i hi j hj => by rw [bcell hb _ _ h5]; exact h6 i hi j hj⟩
theorem LoopV.below {w w' : World} {v : Value} {L : Lp} (h : LoopV w v L) (hb : Below w.heap.size w w') : LoopV w' v L := by
  obtain ⟨v0, v1, v2, e, h1, h2, h3⟩ := h
  exact ⟨v0, v1, v2, e, h1.below hb, h2.below hb, h3.below hb⟩

/-- what a walk through a statement wants of the loop -/
theorem stmt_open {v : Value} {L : Lp} {k : Nat} {w : World} (h : LoopV w v L) (hk : k < L.body.length) :
    ∃ v0 v2 b off cap, v = .agg #[v0, .slice (some ⟨b, off, none⟩) L.body.length cap, v2] ∧ cap ≤ 9223372036854775807 ∧ L.body.length ≤ cap ∧ b < w.heap.size ∧ ∀ j, j < 9 → w.cell? ⟨b, off + k * 9 + j, none⟩ = (stCells (stAt L.body k))[j]? := by
  obtain ⟨v0, v1, v2, rfl, -, ⟨a, cap, rfl, hl, hm, hc⟩, -⟩ := h
  obtain ⟨b, off, rfl, hb, hcell⟩ := hc (by omega)
  exact ⟨v0, v2, b, off, cap, rfl, by unfold maxLen at hm; omega, hl, hb, hcell k hk⟩

set_option maxHeartbeats 800000 in
theorem stmtMay_1 (L : Lp) (k : Nat) (w : World) (v0 v2 : Value) (b off cap : Nat) (xa xb ya yb ar sp pl nn : Int) (hL : LoopV w (.agg #[v0, .slice (some ⟨b, off, none⟩) L.body.length cap, v2]) L) (hks : (k : Int) < (L.body.length : Int)) (hm : cap ≤ 9223372036854775807) (hl : L.body.length ≤ cap) (hb : b < w.heap.size)
    (c0 : w.cell? ⟨b, off + k * 9, none⟩ = some (.int .i64 1)) (c1 : w.cell? ⟨b, off + k * 9 + 1, none⟩ = some (.int .i64 xa)) (c2 : w.cell? ⟨b, off + k * 9 + 2, none⟩ = some (.int .i64 xb)) (c3 : w.cell? ⟨b, off + k * 9 + 3, none⟩ = some (.int .i64 ya)) (c4 : w.cell? ⟨b, off + k * 9 + 4, none⟩ = some (.int .i64 yb)) (c5 : w.cell? ⟨b, off + k * 9 + 5, none⟩ = some (.int .i64 ar)) (c6 : w.cell? ⟨b, off + k * 9 + 6, none⟩ = some (.int .i64 sp)) (c7 : w.cell? ⟨b, off + k * 9 + 7, none⟩ = some (.int .i64 pl)) (c8 : w.cell? ⟨b, off + k * 9 + 8, none⟩ = some (.int .i64 nn)) :
    Calls Tryd.prog 48 #[.agg #[v0, .slice (some ⟨b, off, none⟩) L.body.length cap, v2], .int .i64 k] w fun e w' => e = .returned (.bool (stOk L.logs.length L.body.length k ⟨1, xa, xb, ya, yb, ar, sp, pl, nn⟩)) ∧ Below w.heap.size w w' := by
  go_enter Tryd.func48, Tryd.ntmps48
  go_wp2_with fail
  all_goals
    go_ret
    exact ⟨ret_bool (by simp [stOk, *]), below_alloc2 _ _ _⟩
set_option maxHeartbeats 800000 in
theorem stmtMay_2 (L : Lp) (k : Nat) (w : World) (v0 v2 : Value) (b off cap : Nat) (xa xb ya yb ar sp pl nn : Int) (hL : LoopV w (.agg #[v0, .slice (some ⟨b, off, none⟩) L.body.length cap, v2]) L) (hks : (k : Int) < (L.body.length : Int)) (hm : cap ≤ 9223372036854775807) (hl : L.body.length ≤ cap) (hb : b < w.heap.size)
    (c0 : w.cell? ⟨b, off + k * 9, none⟩ = some (.int .i64 2)) (c1 : w.cell? ⟨b, off + k * 9 + 1, none⟩ = some (.int .i64 xa)) (c2 : w.cell? ⟨b, off + k * 9 + 2, none⟩ = some (.int .i64 xb)) (c3 : w.cell? ⟨b, off + k * 9 + 3, none⟩ = some (.int .i64 ya)) (c4 : w.cell? ⟨b, off + k * 9 + 4, none⟩ = some (.int .i64 yb)) (c5 : w.cell? ⟨b, off + k * 9 + 5, none⟩ = some (.int .i64 ar)) (c6 : w.cell? ⟨b, off + k * 9 + 6, none⟩ = some (.int .i64 sp)) (c7 : w.cell? ⟨b, off + k * 9 + 7, none⟩ = some (.int .i64 pl)) (c8 : w.cell? ⟨b, off + k * 9 + 8, none⟩ = some (.int .i64 nn)) :
    Calls Tryd.prog 48 #[.agg #[v0, .slice (some ⟨b, off, none⟩) L.body.length cap, v2], .int .i64 k] w fun e w' => e = .returned (.bool (stOk L.logs.length L.body.length k ⟨2, xa, xb, ya, yb, ar, sp, pl, nn⟩)) ∧ Below w.heap.size w w' := by
  go_enter Tryd.func48, Tryd.ntmps48
  go_wp2_with fail
  all_goals
    go_ret
    exact ⟨ret_bool (by simp [stOk, *]), below_alloc2 _ _ _⟩
set_option maxHeartbeats 800000 in
theorem stmtMay_3y (L : Lp) (k : Nat) (w : World) (v0 v2 : Value) (b off cap : Nat) (ar sp pl : Int) (hL : LoopV w (.agg #[v0, .slice (some ⟨b, off, none⟩) L.body.length cap, v2]) L) (hks : (k : Int) < (L.body.length : Int)) (hm : cap ≤ 9223372036854775807) (hl : L.body.length ≤ cap) (hb : b < w.heap.size)
    (c0 : w.cell? ⟨b, off + k * 9, none⟩ = some (.int .i64 3)) (c1 : w.cell? ⟨b, off + k * 9 + 1, none⟩ = some (.int .i64 0)) (c2 : w.cell? ⟨b, off + k * 9 + 2, none⟩ = some (.int .i64 0)) (c3 : w.cell? ⟨b, off + k * 9 + 3, none⟩ = some (.int .i64 0)) (c4 : w.cell? ⟨b, off + k * 9 + 4, none⟩ = some (.int .i64 0)) (c5 : w.cell? ⟨b, off + k * 9 + 5, none⟩ = some (.int .i64 ar)) (c6 : w.cell? ⟨b, off + k * 9 + 6, none⟩ = some (.int .i64 sp)) (c7 : w.cell? ⟨b, off + k * 9 + 7, none⟩ = some (.int .i64 pl)) (c8 : w.cell? ⟨b, off + k * 9 + 8, none⟩ = some (.int .i64 0)) :
    Calls Tryd.prog 48 #[.agg #[v0, .slice (some ⟨b, off, none⟩) L.body.length cap, v2], .int .i64 k] w fun e w' => e = .returned (.bool (stOk L.logs.length L.body.length k ⟨3, 0, 0, 0, 0, ar, sp, pl, 0⟩)) ∧ Below w.heap.size w w' := by
  go_enter Tryd.func48, Tryd.ntmps48
  go_wp2_with (go_at_call 59; refine (wordMay_any _ L _ _ _ _ _ _ _ _ _ _ (LoopV.below hL (below_alloc3 _ _ _ _))).mono ?_; rintro e w1 ⟨rfl, hb1⟩)
  go_ret
  exact ⟨ret_bool (by simp [stOk]), (below_alloc3 _ _ _ _).trans (hb1.mono (by simp; omega))⟩
set_option maxHeartbeats 800000 in
theorem stmtMay_3n (L : Lp) (k : Nat) (w : World) (v0 v2 : Value) (b off cap : Nat) (xa xb ya yb ar sp pl nn : Int) (hL : LoopV w (.agg #[v0, .slice (some ⟨b, off, none⟩) L.body.length cap, v2]) L) (hks : (k : Int) < (L.body.length : Int)) (hm : cap ≤ 9223372036854775807) (hl : L.body.length ≤ cap) (hb : b < w.heap.size)
    (c0 : w.cell? ⟨b, off + k * 9, none⟩ = some (.int .i64 3)) (c1 : w.cell? ⟨b, off + k * 9 + 1, none⟩ = some (.int .i64 xa)) (c2 : w.cell? ⟨b, off + k * 9 + 2, none⟩ = some (.int .i64 xb)) (c3 : w.cell? ⟨b, off + k * 9 + 3, none⟩ = some (.int .i64 ya)) (c4 : w.cell? ⟨b, off + k * 9 + 4, none⟩ = some (.int .i64 yb)) (c5 : w.cell? ⟨b, off + k * 9 + 5, none⟩ = some (.int .i64 ar)) (c6 : w.cell? ⟨b, off + k * 9 + 6, none⟩ = some (.int .i64 sp)) (c7 : w.cell? ⟨b, off + k * 9 + 7, none⟩ = some (.int .i64 pl)) (c8 : w.cell? ⟨b, off + k * 9 + 8, none⟩ = some (.int .i64 nn)) (hz : ¬ (xa = 0 ∧ xb = 0 ∧ ya = 0 ∧ yb = 0 ∧ nn = 0)) :
    Calls Tryd.prog 48 #[.agg #[v0, .slice (some ⟨b, off, none⟩) L.body.length cap, v2], .int .i64 k] w fun e w' => e = .returned (.bool (stOk L.logs.length L.body.length k ⟨3, xa, xb, ya, yb, ar, sp, pl, nn⟩)) ∧ Below w.heap.size w w' := by
  go_enter Tryd.func48, Tryd.ntmps48
  go_wp2_with fail
  all_goals
    first
    | (go_ret; exact ⟨ret_bool (by simp [stOk, *]), below_alloc3 _ _ _ _⟩)
    | (exfalso; simp_all)
theorem stOk_no {m n k o xa xb ya yb ar sp pl nn : Int} (o1 : (o == 1) = false) (o2 : (o == 2) = false) (o3 : (o == 3) = false) (o4 : (o == 4) = false) (hi : inR o 11 18 = false) : stOk m n k ⟨o, xa, xb, ya, yb, ar, sp, pl, nn⟩ = false := by
  unfold stOk
  have h : ¬ (11 ≤ o ∧ o ≤ 18) := fun h => by rw [inR_yes h] at hi; exact Bool.noConfusion hi
  simp at o1 o2 o3 o4
  rw [if_neg o1, if_neg o2, if_neg o3, if_neg o4, if_neg h]
theorem stOk_op {m n k o xa xb ya yb ar sp pl nn : Int} (o1 : (o == 1) = false) (o2 : (o == 2) = false) (o3 : (o == 3) = false) (o4 : (o == 4) = false) (hi : inR o 11 18 = true) :
    stOk m n k ⟨o, xa, xb, ya, yb, ar, sp, pl, nn⟩ = (decide (ar = 0 ∧ sp = 0 ∧ pl = 0 ∧ nn = 0) && refOk n k xa xb && refOk n k ya yb) := by
  unfold stOk
  simp at o1 o2 o3 o4
  rw [if_neg o1, if_neg o2, if_neg o3, if_neg o4, if_pos (inR_iff.1 hi)]
theorem stOk_opn {m n k o xa xb ya yb ar sp pl nn : Int} (o1 : (o == 1) = false) (o2 : (o == 2) = false) (o3 : (o == 3) = false) (o4 : (o == 4) = false) (hi : inR o 11 18 = true) (hz : ¬ (ar = 0 ∧ sp = 0 ∧ pl = 0 ∧ nn = 0)) :
    stOk m n k ⟨o, xa, xb, ya, yb, ar, sp, pl, nn⟩ = false := by
  rw [stOk_op o1 o2 o3 o4 hi, decide_eq_false hz]; rfl
theorem stOk_opy {m n k o xa xb ya yb : Int} (o1 : (o == 1) = false) (o2 : (o == 2) = false) (o3 : (o == 3) = false) (o4 : (o == 4) = false) (hi : inR o 11 18 = true) :
    stOk m n k ⟨o, xa, xb, ya, yb, 0, 0, 0, 0⟩ = (refOk n k xa xb && refOk n k ya yb) := by
  rw [stOk_op o1 o2 o3 o4 hi, decide_eq_true ⟨rfl, rfl, rfl, rfl⟩]; rfl
set_option maxHeartbeats 800000 in
theorem stmtMay_4yn (L : Lp) (k : Nat) (w : World) (v0 v2 : Value) (b off cap : Nat) (xa xb ar sp pl : Int) (hL : LoopV w (.agg #[v0, .slice (some ⟨b, off, none⟩) L.body.length cap, v2]) L) (hks : (k : Int) < (L.body.length : Int)) (hm : cap ≤ 9223372036854775807) (hl : L.body.length ≤ cap) (hb : b < w.heap.size)
    (c0 : w.cell? ⟨b, off + k * 9, none⟩ = some (.int .i64 4)) (c1 : w.cell? ⟨b, off + k * 9 + 1, none⟩ = some (.int .i64 xa)) (c2 : w.cell? ⟨b, off + k * 9 + 2, none⟩ = some (.int .i64 xb)) (c3 : w.cell? ⟨b, off + k * 9 + 3, none⟩ = some (.int .i64 0)) (c4 : w.cell? ⟨b, off + k * 9 + 4, none⟩ = some (.int .i64 0)) (c5 : w.cell? ⟨b, off + k * 9 + 5, none⟩ = some (.int .i64 ar)) (c6 : w.cell? ⟨b, off + k * 9 + 6, none⟩ = some (.int .i64 sp)) (c7 : w.cell? ⟨b, off + k * 9 + 7, none⟩ = some (.int .i64 pl)) (c8 : w.cell? ⟨b, off + k * 9 + 8, none⟩ = some (.int .i64 0)) (hw : wordOk L.logs.length ar sp pl = false) :
    Calls Tryd.prog 48 #[.agg #[v0, .slice (some ⟨b, off, none⟩) L.body.length cap, v2], .int .i64 k] w fun e w' => e = .returned (.bool (stOk L.logs.length L.body.length k ⟨4, xa, xb, 0, 0, ar, sp, pl, 0⟩)) ∧ Below w.heap.size w w' := by
  go_enter Tryd.func48, Tryd.ntmps48
  go_wp2_with (go_at_call 59; refine (wordMay_any _ L _ _ _ _ _ _ _ _ _ _ (LoopV.below hL (below_alloc3 _ _ _ _))).mono ?_; rintro e w1 ⟨rfl, hb1⟩; have hc1 := bcell hb1)
  go_ret
  exact ⟨ret_bool (by simp [stOk, hw]), (below_alloc3 _ _ _ _).trans (hb1.mono (by simp; omega))⟩
set_option maxHeartbeats 800000 in
theorem stmtMay_4yy (L : Lp) (k : Nat) (w : World) (v0 v2 : Value) (b off cap : Nat) (xa xb ar sp pl : Int) (hL : LoopV w (.agg #[v0, .slice (some ⟨b, off, none⟩) L.body.length cap, v2]) L) (hks : (k : Int) < (L.body.length : Int)) (hm : cap ≤ 9223372036854775807) (hl : L.body.length ≤ cap) (hb : b < w.heap.size)
    (c0 : w.cell? ⟨b, off + k * 9, none⟩ = some (.int .i64 4)) (c1 : w.cell? ⟨b, off + k * 9 + 1, none⟩ = some (.int .i64 xa)) (c2 : w.cell? ⟨b, off + k * 9 + 2, none⟩ = some (.int .i64 xb)) (c3 : w.cell? ⟨b, off + k * 9 + 3, none⟩ = some (.int .i64 0)) (c4 : w.cell? ⟨b, off + k * 9 + 4, none⟩ = some (.int .i64 0)) (c5 : w.cell? ⟨b, off + k * 9 + 5, none⟩ = some (.int .i64 ar)) (c6 : w.cell? ⟨b, off + k * 9 + 6, none⟩ = some (.int .i64 sp)) (c7 : w.cell? ⟨b, off + k * 9 + 7, none⟩ = some (.int .i64 pl)) (c8 : w.cell? ⟨b, off + k * 9 + 8, none⟩ = some (.int .i64 0)) (hw : wordOk L.logs.length ar sp pl = true) :
    Calls Tryd.prog 48 #[.agg #[v0, .slice (some ⟨b, off, none⟩) L.body.length cap, v2], .int .i64 k] w fun e w' => e = .returned (.bool (stOk L.logs.length L.body.length k ⟨4, xa, xb, 0, 0, ar, sp, pl, 0⟩)) ∧ Below w.heap.size w w' := by
  go_enter Tryd.func48, Tryd.ntmps48
  go_wp2_with (first
    | (go_at_call 59; refine (wordMay_any _ L _ _ _ _ _ _ _ _ _ _ (LoopV.below hL (below_alloc3 _ _ _ _))).mono ?_; rintro e w1 ⟨rfl, hb1⟩; have hc1 := bcell hb1)
    | (go_at_call 60; refine (refMay_any _ L _ _ _ _ (LoopV.below hL ((below_alloc3 _ _ _ _).trans (hb1.mono (by simp; omega)))) (by omega) (by omega)).mono ?_; rintro e w2 ⟨rfl, hb2⟩))
  go_ret
  exact ⟨ret_bool (by simp [stOk, hw]), ((below_alloc3 _ _ _ _).trans (hb1.mono (by simp; omega))).trans (hb2.mono (by have := hb1.size; simp at this; omega))⟩
set_option maxHeartbeats 800000 in
theorem stmtMay_4n (L : Lp) (k : Nat) (w : World) (v0 v2 : Value) (b off cap : Nat) (xa xb ya yb ar sp pl nn : Int) (hL : LoopV w (.agg #[v0, .slice (some ⟨b, off, none⟩) L.body.length cap, v2]) L) (hks : (k : Int) < (L.body.length : Int)) (hm : cap ≤ 9223372036854775807) (hl : L.body.length ≤ cap) (hb : b < w.heap.size)
    (c0 : w.cell? ⟨b, off + k * 9, none⟩ = some (.int .i64 4)) (c1 : w.cell? ⟨b, off + k * 9 + 1, none⟩ = some (.int .i64 xa)) (c2 : w.cell? ⟨b, off + k * 9 + 2, none⟩ = some (.int .i64 xb)) (c3 : w.cell? ⟨b, off + k * 9 + 3, none⟩ = some (.int .i64 ya)) (c4 : w.cell? ⟨b, off + k * 9 + 4, none⟩ = some (.int .i64 yb)) (c5 : w.cell? ⟨b, off + k * 9 + 5, none⟩ = some (.int .i64 ar)) (c6 : w.cell? ⟨b, off + k * 9 + 6, none⟩ = some (.int .i64 sp)) (c7 : w.cell? ⟨b, off + k * 9 + 7, none⟩ = some (.int .i64 pl)) (c8 : w.cell? ⟨b, off + k * 9 + 8, none⟩ = some (.int .i64 nn)) (hz : ¬ (ya = 0 ∧ yb = 0 ∧ nn = 0)) :
    Calls Tryd.prog 48 #[.agg #[v0, .slice (some ⟨b, off, none⟩) L.body.length cap, v2], .int .i64 k] w fun e w' => e = .returned (.bool (stOk L.logs.length L.body.length k ⟨4, xa, xb, ya, yb, ar, sp, pl, nn⟩)) ∧ Below w.heap.size w w' := by
  go_enter Tryd.func48, Tryd.ntmps48
  go_wp2_with fail
  all_goals
    first
    | (go_ret; exact ⟨ret_bool (by simp [stOk, *]), below_alloc3 _ _ _ _⟩)
    | (exfalso; simp_all)
set_option maxHeartbeats 800000 in
theorem stmtMay_no (L : Lp) (k : Nat) (w : World) (v0 v2 : Value) (b off cap : Nat) (o xa xb ya yb ar sp pl nn : Int) (hL : LoopV w (.agg #[v0, .slice (some ⟨b, off, none⟩) L.body.length cap, v2]) L) (hks : (k : Int) < (L.body.length : Int)) (hm : cap ≤ 9223372036854775807) (hl : L.body.length ≤ cap) (hb : b < w.heap.size)
    (c0 : w.cell? ⟨b, off + k * 9, none⟩ = some (.int .i64 o)) (c1 : w.cell? ⟨b, off + k * 9 + 1, none⟩ = some (.int .i64 xa)) (c2 : w.cell? ⟨b, off + k * 9 + 2, none⟩ = some (.int .i64 xb)) (c3 : w.cell? ⟨b, off + k * 9 + 3, none⟩ = some (.int .i64 ya)) (c4 : w.cell? ⟨b, off + k * 9 + 4, none⟩ = some (.int .i64 yb)) (c5 : w.cell? ⟨b, off + k * 9 + 5, none⟩ = some (.int .i64 ar)) (c6 : w.cell? ⟨b, off + k * 9 + 6, none⟩ = some (.int .i64 sp)) (c7 : w.cell? ⟨b, off + k * 9 + 7, none⟩ = some (.int .i64 pl)) (c8 : w.cell? ⟨b, off + k * 9 + 8, none⟩ = some (.int .i64 nn)) (o1 : (o == 1) = false) (o2 : (o == 2) = false) (o3 : (o == 3) = false) (o4 : (o == 4) = false) (hi : inR o 11 18 = false) :
    Calls Tryd.prog 48 #[.agg #[v0, .slice (some ⟨b, off, none⟩) L.body.length cap, v2], .int .i64 k] w fun e w' => e = .returned (.bool (stOk L.logs.length L.body.length k ⟨o, xa, xb, ya, yb, ar, sp, pl, nn⟩)) ∧ Below w.heap.size w w' := by
  go_enter Tryd.func48, Tryd.ntmps48
  go_wp2_with (go_at_call 47; refine (lwithin_any _ _ _ _).mono ?_; rintro e w' ⟨rfl, rfl⟩)
  go_ret
  exact ⟨ret_bool (stOk_no o1 o2 o3 o4 hi).symm, below_alloc2 _ _ _⟩
set_option maxHeartbeats 800000 in
theorem stmtMay_opn (L : Lp) (k : Nat) (w : World) (v0 v2 : Value) (b off cap : Nat) (o xa xb ya yb ar sp pl nn : Int) (hL : LoopV w (.agg #[v0, .slice (some ⟨b, off, none⟩) L.body.length cap, v2]) L) (hks : (k : Int) < (L.body.length : Int)) (hm : cap ≤ 9223372036854775807) (hl : L.body.length ≤ cap) (hb : b < w.heap.size)
    (c0 : w.cell? ⟨b, off + k * 9, none⟩ = some (.int .i64 o)) (c1 : w.cell? ⟨b, off + k * 9 + 1, none⟩ = some (.int .i64 xa)) (c2 : w.cell? ⟨b, off + k * 9 + 2, none⟩ = some (.int .i64 xb)) (c3 : w.cell? ⟨b, off + k * 9 + 3, none⟩ = some (.int .i64 ya)) (c4 : w.cell? ⟨b, off + k * 9 + 4, none⟩ = some (.int .i64 yb)) (c5 : w.cell? ⟨b, off + k * 9 + 5, none⟩ = some (.int .i64 ar)) (c6 : w.cell? ⟨b, off + k * 9 + 6, none⟩ = some (.int .i64 sp)) (c7 : w.cell? ⟨b, off + k * 9 + 7, none⟩ = some (.int .i64 pl)) (c8 : w.cell? ⟨b, off + k * 9 + 8, none⟩ = some (.int .i64 nn)) (o1 : (o == 1) = false) (o2 : (o == 2) = false) (o3 : (o == 3) = false) (o4 : (o == 4) = false) (hi : inR o 11 18 = true) (hz : ¬ (ar = 0 ∧ sp = 0 ∧ pl = 0 ∧ nn = 0)) :
    Calls Tryd.prog 48 #[.agg #[v0, .slice (some ⟨b, off, none⟩) L.body.length cap, v2], .int .i64 k] w fun e w' => e = .returned (.bool (stOk L.logs.length L.body.length k ⟨o, xa, xb, ya, yb, ar, sp, pl, nn⟩)) ∧ Below w.heap.size w w' := by
  go_enter Tryd.func48, Tryd.ntmps48
  have HX := hide (stOk_opn (xa := xa) (xb := xb) (ya := ya) (yb := yb) (m := L.logs.length) (n := L.body.length) (k := k) o1 o2 o3 o4 hi hz)
  go_wp2_with (go_at_call 47; refine (lwithin_any _ _ _ _).mono ?_; rintro e w' ⟨rfl, rfl⟩)
  all_goals
    first
    | (go_ret; exact ⟨ret_bool HX.out.symm, below_alloc3 _ _ _ _⟩)
    | (exfalso; simp_all; done)
set_option maxHeartbeats 800000 in
theorem stmtMay_opyn (L : Lp) (k : Nat) (w : World) (v0 v2 : Value) (b off cap : Nat) (o xa xb ya yb : Int) (hL : LoopV w (.agg #[v0, .slice (some ⟨b, off, none⟩) L.body.length cap, v2]) L) (hks : (k : Int) < (L.body.length : Int)) (hm : cap ≤ 9223372036854775807) (hl : L.body.length ≤ cap) (hb : b < w.heap.size)
    (c0 : w.cell? ⟨b, off + k * 9, none⟩ = some (.int .i64 o)) (c1 : w.cell? ⟨b, off + k * 9 + 1, none⟩ = some (.int .i64 xa)) (c2 : w.cell? ⟨b, off + k * 9 + 2, none⟩ = some (.int .i64 xb)) (c3 : w.cell? ⟨b, off + k * 9 + 3, none⟩ = some (.int .i64 ya)) (c4 : w.cell? ⟨b, off + k * 9 + 4, none⟩ = some (.int .i64 yb)) (c5 : w.cell? ⟨b, off + k * 9 + 5, none⟩ = some (.int .i64 0)) (c6 : w.cell? ⟨b, off + k * 9 + 6, none⟩ = some (.int .i64 0)) (c7 : w.cell? ⟨b, off + k * 9 + 7, none⟩ = some (.int .i64 0)) (c8 : w.cell? ⟨b, off + k * 9 + 8, none⟩ = some (.int .i64 0)) (o1 : (o == 1) = false) (o2 : (o == 2) = false) (o3 : (o == 3) = false) (o4 : (o == 4) = false) (hi : inR o 11 18 = true) (hr : refOk L.body.length k xa xb = false) :
    Calls Tryd.prog 48 #[.agg #[v0, .slice (some ⟨b, off, none⟩) L.body.length cap, v2], .int .i64 k] w fun e w' => e = .returned (.bool (stOk L.logs.length L.body.length k ⟨o, xa, xb, ya, yb, 0, 0, 0, 0⟩)) ∧ Below w.heap.size w w' := by
  go_enter Tryd.func48, Tryd.ntmps48
  have HX := hide (stOk_opy (xa := xa) (xb := xb) (ya := ya) (yb := yb) (m := L.logs.length) (n := L.body.length) (k := k) o1 o2 o3 o4 hi)
  go_wp2_with (first | (go_at_call 47; refine (lwithin_any _ _ _ _).mono ?_; rintro e w' ⟨rfl, rfl⟩) | (go_at_call 60; refine (refMay_any _ L _ _ _ _ (LoopV.below hL (below_alloc3 _ _ _ _)) (by omega) (by omega)).mono ?_; rintro e w1 ⟨rfl, hb1⟩; have hc1 := bcell hb1))
  go_ret
  exact ⟨ret_bool (by rw [HX.out, hr]; rfl), (below_alloc3 _ _ _ _).trans (hb1.mono (by simp; omega))⟩
set_option maxHeartbeats 800000 in
theorem stmtMay_opyy (L : Lp) (k : Nat) (w : World) (v0 v2 : Value) (b off cap : Nat) (o xa xb ya yb : Int) (hL : LoopV w (.agg #[v0, .slice (some ⟨b, off, none⟩) L.body.length cap, v2]) L) (hks : (k : Int) < (L.body.length : Int)) (hm : cap ≤ 9223372036854775807) (hl : L.body.length ≤ cap) (hb : b < w.heap.size)
    (c0 : w.cell? ⟨b, off + k * 9, none⟩ = some (.int .i64 o)) (c1 : w.cell? ⟨b, off + k * 9 + 1, none⟩ = some (.int .i64 xa)) (c2 : w.cell? ⟨b, off + k * 9 + 2, none⟩ = some (.int .i64 xb)) (c3 : w.cell? ⟨b, off + k * 9 + 3, none⟩ = some (.int .i64 ya)) (c4 : w.cell? ⟨b, off + k * 9 + 4, none⟩ = some (.int .i64 yb)) (c5 : w.cell? ⟨b, off + k * 9 + 5, none⟩ = some (.int .i64 0)) (c6 : w.cell? ⟨b, off + k * 9 + 6, none⟩ = some (.int .i64 0)) (c7 : w.cell? ⟨b, off + k * 9 + 7, none⟩ = some (.int .i64 0)) (c8 : w.cell? ⟨b, off + k * 9 + 8, none⟩ = some (.int .i64 0)) (o1 : (o == 1) = false) (o2 : (o == 2) = false) (o3 : (o == 3) = false) (o4 : (o == 4) = false) (hi : inR o 11 18 = true) (hr : refOk L.body.length k xa xb = true) :
    Calls Tryd.prog 48 #[.agg #[v0, .slice (some ⟨b, off, none⟩) L.body.length cap, v2], .int .i64 k] w fun e w' => e = .returned (.bool (stOk L.logs.length L.body.length k ⟨o, xa, xb, ya, yb, 0, 0, 0, 0⟩)) ∧ Below w.heap.size w w' := by
  go_enter Tryd.func48, Tryd.ntmps48
  have HX := hide (stOk_opy (xa := xa) (xb := xb) (ya := ya) (yb := yb) (m := L.logs.length) (n := L.body.length) (k := k) o1 o2 o3 o4 hi)
  go_wp2_with (go_at_call 47; refine (lwithin_any _ _ _ _).mono ?_; rintro e w' ⟨rfl, rfl⟩)
  refine (refMay_any _ L _ _ _ _ (LoopV.below hL (below_alloc3 _ _ _ _)) (by omega) (by omega)).mono ?_
  rintro e w1 ⟨rfl, hb1⟩
  have hc1 := bcell hb1
  go_wp2_with fail
  refine (refMay_any _ L _ _ _ _ (LoopV.below hL ((below_alloc3 _ _ _ _).trans (hb1.mono (by simp; omega)))) (by omega) (by omega)).mono ?_
  rintro e w2 ⟨rfl, hb2⟩
  go_wp2_with fail
  go_ret
  exact ⟨ret_bool (by rw [HX.out, hr]; rfl), ((below_alloc3 _ _ _ _).trans (hb1.mono (by simp; omega))).trans (hb2.mono (by have := hb1.size; simp at this; omega))⟩

theorem stmtMay_any (v : Value) (L : Lp) (k : Nat) (w : World) (h : LoopV w v L) (hk : k < L.body.length) :
    Calls Tryd.prog 48 #[v, .int .i64 k] w fun e w' => e = .returned (.bool (stOk L.logs.length L.body.length k (stAt L.body k))) ∧ Below w.heap.size w w' := by
  have hL := h
  obtain ⟨v0, v2, b, off, cap, rfl, hm, hl, hb, hcell⟩ := stmt_open h hk
  clear h
  obtain ⟨c0, c1, c2, c3, c4, c5, c6, c7, c8⟩ := nine hcell
  clear hcell
  generalize stAt L.body k = s at *
  obtain ⟨o, xa, xb, ya, yb, ar, sp, pl, nn⟩ := s
  simp only at c0 c1 c2 c3 c4 c5 c6 c7 c8
  have hks : (k : Int) < (L.body.length : Int) := by omega
  by_cases o1 : o = 1
  · subst o1
    exact stmtMay_1 L k w v0 v2 b off cap xa xb ya yb ar sp pl nn hL hks hm hl hb c0 c1 c2 c3 c4 c5 c6 c7 c8
  by_cases o2 : o = 2
  · subst o2
    exact stmtMay_2 L k w v0 v2 b off cap xa xb ya yb ar sp pl nn hL hks hm hl hb c0 c1 c2 c3 c4 c5 c6 c7 c8
  by_cases o3 : o = 3
  · subst o3
    by_cases hz : xa = 0 ∧ xb = 0 ∧ ya = 0 ∧ yb = 0 ∧ nn = 0
    · obtain ⟨rfl, rfl, rfl, rfl, rfl⟩ := hz
      exact stmtMay_3y L k w v0 v2 b off cap ar sp pl hL hks hm hl hb c0 c1 c2 c3 c4 c5 c6 c7 c8
    · exact stmtMay_3n L k w v0 v2 b off cap xa xb ya yb ar sp pl nn hL hks hm hl hb c0 c1 c2 c3 c4 c5 c6 c7 c8 hz
  by_cases o4 : o = 4
  · subst o4
    by_cases hz : ya = 0 ∧ yb = 0 ∧ nn = 0
    · obtain ⟨rfl, rfl, rfl⟩ := hz
      cases hw : wordOk L.logs.length ar sp pl with
      | false => exact stmtMay_4yn L k w v0 v2 b off cap xa xb ar sp pl hL hks hm hl hb c0 c1 c2 c3 c4 c5 c6 c7 c8 hw
      | true => exact stmtMay_4yy L k w v0 v2 b off cap xa xb ar sp pl hL hks hm hl hb c0 c1 c2 c3 c4 c5 c6 c7 c8 hw
    · exact stmtMay_4n L k w v0 v2 b off cap xa xb ya yb ar sp pl nn hL hks hm hl hb c0 c1 c2 c3 c4 c5 c6 c7 c8 hz
  have b1 : (o == 1) = false := by simpa using o1
  have b2 : (o == 2) = false := by simpa using o2
  have b3 : (o == 3) = false := by simpa using o3
  have b4 : (o == 4) = false := by simpa using o4
  cases hi : inR o 11 18 with
  | false => exact stmtMay_no L k w v0 v2 b off cap o xa xb ya yb ar sp pl nn hL hks hm hl hb c0 c1 c2 c3 c4 c5 c6 c7 c8 b1 b2 b3 b4 hi
  | true =>
    by_cases hz : ar = 0 ∧ sp = 0 ∧ pl = 0 ∧ nn = 0
    · obtain ⟨rfl, rfl, rfl, rfl⟩ := hz
      cases hr : refOk L.body.length k xa xb with
      | false => exact stmtMay_opyn L k w v0 v2 b off cap o xa xb ya yb hL hks hm hl hb c0 c1 c2 c3 c4 c5 c6 c7 c8 b1 b2 b3 b4 hi hr
      | true => exact stmtMay_opyy L k w v0 v2 b off cap o xa xb ya yb hL hks hm hl hb c0 c1 c2 c3 c4 c5 c6 c7 c8 b1 b2 b3 b4 hi hr
    · exact stmtMay_opn L k w v0 v2 b off cap o xa xb ya yb ar sp pl nn hL hks hm hl hb c0 c1 c2 c3 c4 c5 c6 c7 c8 b1 b2 b3 b4 hi hz
end Go.Proofs.YtjlfcbccpcigeacDoor
