/- LoopP: texts that are built as one: LoopMay, LoopState, LoopFits. -/
import Derived.Test.YtjlfcbccpcigeacDoorLoopStmt
/- Contracts of package loop's May: for every loop in memory it returns whether the loop may be; nothing that was there is changed. -/
namespace Go.Proofs.YtjlfcbccpcigeacDoor
open Go.RowKit Go.Joins
set_option linter.unusedVariables false

set_option maxHeartbeats 400000 in
theorem outsMay_any (v : Value) (L : Lp) (w : World) (h : LoopV w v L) :
    Calls Tryd.prog 34 #[v] w fun e w' => e = .returned (.bool (outsOk L.body.length L.outs)) ∧ Below w.heap.size w w' := by
  obtain ⟨v0, v1, v2, rfl, -, ⟨a1, cap1, rfl, hl1, hm1, -⟩, ⟨a, cap, rfl, hl, hm, hr, hc⟩⟩ := h
  unfold maxLen at hm hm1
  go_enter Tryd.func34, Tryd.ntmps34
  go_wp2
  go_loop [3, 9] (fun t i => ∃ k : Nat, k ≤ L.outs.length ∧ i = .int .i64 k ∧ t = .int .i64 (prev L.outs k) ∧ allN (outOk L.body.length L.outs) k = true) (fun _ i => L.outs.length - (intOf i).toNat)
  case atStart => exact ⟨0, Nat.zero_le _, rfl, rfl, rfl⟩
  case round =>
    obtain ⟨k, hk, rfl, rfl, hall⟩ := hrel
    have hp := prev_range L.body.length L.outs k (by omega) hall
    obtain ⟨hp1, hp2⟩ := hp
    have HA := hide hall
    clear hall
    by_cases hlt : k < L.outs.length
    · obtain ⟨b, off, rfl, hb, hcell⟩ := hc (by omega)
      have hck := hcell k hlt
      clear hcell hc
      cases hx : outOk L.body.length L.outs k with
      | true =>
        have HX := hide hx
        have hin : inR (nth L.outs k) (prev L.outs k + 1) (L.body.length - 1) = true := hx
        clear hx
        go_wp2_with (go_at_call 47; refine (lwithin_any _ _ _ _).mono ?_; rintro e w' ⟨rfl, rfl⟩)
        go_round
        case rel => exact ⟨k + 1, by omega, by go_num, rfl, allN_step HA.out HX.out⟩
        case measure => simp [intOf]; omega
      | false =>
        have HX := hide hx
        have hin : inR (nth L.outs k) (prev L.outs k + 1) (L.body.length - 1) = false := hx
        clear hx
        go_wp2_with (go_at_call 47; refine (lwithin_any _ _ _ _).mono ?_; rintro e w' ⟨rfl, rfl⟩)
        go_ret
        exact ⟨ret_bool (allN_false hlt HX.out).symm, below_alloc1 _ _⟩
    · have e : k = L.outs.length := by omega
      have HL : Hid (outsOk L.body.length L.outs = true) := by show outsOk L.body.length L.outs = true; unfold outsOk; rw [← e]; exact HA.out
      clear HA e
      go_wp2
      go_ret
      exact ⟨ret_bool HL.out.symm, below_alloc1 _ _⟩

set_option maxHeartbeats 400000 in
theorem bodyMay_any (v : Value) (L : Lp) (w : World) (h : LoopV w v L) :
    Calls Tryd.prog 33 #[v] w fun e w' => e = .returned (.bool (bodyOk L)) ∧ Below w.heap.size w w' := by
  have hL := h
  obtain ⟨v0, v1, v2, rfl, -, ⟨a, cap, rfl, hl, hm, -⟩, -⟩ := h
  unfold maxLen at hm
  go_enter Tryd.func33, Tryd.ntmps33
  go_wp2
  go_loopw [7] (fun i wr => ∃ k : Nat, k ≤ L.body.length ∧ i = .int .i64 k ∧ allN (fun k => stOk L.logs.length L.body.length k (stAt L.body k)) k = true ∧ Below (w.heap.size + 1) (w.alloc (.cells #[v0, .slice a L.body.length cap, v2] 25)) wr) (fun i _ => L.body.length - (intOf i).toNat)
  case atStart => exact ⟨0, Nat.zero_le _, rfl, rfl, Below.refl _ _⟩
  case round =>
    obtain ⟨k, hk, rfl, hall, hbel⟩ := hrel
    have hcell : ∀ o, wr.cell? ⟨w.heap.size, o, none⟩ = (w.alloc (.cells #[v0, .slice a L.body.length cap, v2] 25)).cell? ⟨w.heap.size, o, none⟩ := fun o => hbel.cell (p := ⟨w.heap.size, o, none⟩) (by simp)
    have hbw : Below w.heap.size w wr := (below_alloc1 _ _).trans (hbel.mono (by omega))
    have HA := hide hall
    clear hall
    by_cases hlt : k < L.body.length
    · have hks : (k : Int) < (L.body.length : Int) := by omega
      cases hx : stOk L.logs.length L.body.length k (stAt L.body k) with
      | true =>
        have HX := hide hx
        go_wp2_with (go_at_call 48; refine (stmtMay_any _ L k _ (LoopV.below hL hbw) hlt).mono ?_; rintro e w1 ⟨rfl, hb1⟩)
        go_roundw
        case rel => exact ⟨k + 1, by omega, by go_num, allN_step HA.out HX.out, hbel.trans (hb1.mono (by have := hbel.size; simp at this; omega))⟩
        case measure => simp [intOf]; omega
      | false =>
        have HX := hide hx
        go_wp2_with (go_at_call 48; refine (stmtMay_any _ L k _ (LoopV.below hL hbw) hlt).mono ?_; rintro e w1 ⟨rfl, hb1⟩)
        go_ret
        exact ⟨ret_bool (allN_false hlt HX.out).symm, hbw.trans (hb1.mono hbw.size)⟩
    · have e : k = L.body.length := by omega
      have HL : Hid (bodyOk L = true) := by show bodyOk L = true; unfold bodyOk; rw [← e]; rw [← e] at HA; exact HA.out
      clear HA e
      go_wp2
      go_ret
      exact ⟨ret_bool HL.out.symm, hbw⟩

set_option maxHeartbeats 400000 in
theorem may_any (v : Value) (L : Lp) (w : World) (h : LoopV w v L) :
    Calls Tryd.prog 13 #[v] w fun e w' => e = .returned (.bool (mayB L)) ∧ Below w.heap.size w w' := by
  have hL := h
  obtain ⟨v0, v1, v2, rfl, hI, ⟨a1, cap1, rfl, hl1, hm1, -⟩, ⟨a2, cap2, rfl, hl2, hm2, hr2, hc2⟩⟩ := h
  have hI2 := hI
  obtain ⟨a0, cap0, rfl, hl0, hm0, hr0, hc0⟩ := hI
  clear hr0 hc0 hr2 hc2
  unfold maxLen at hm0 hm1 hm2
  by_cases h1 : (3 : Int) < L.logs.length
  · have HX := hide (may_no L (.inl (by omega)))
    go_enter Tryd.func13, Tryd.ntmps13
    go_wp2_with fail
    go_ret
    exact ⟨ret_bool HX.out.symm, below_alloc1 _ _⟩
  by_cases h2 : (16 : Int) < L.outs.length
  · have HX := hide (may_no L (.inr (.inr (.inr (by omega)))))
    go_enter Tryd.func13, Tryd.ntmps13
    go_wp2_with fail
    go_ret
    exact ⟨ret_bool HX.out.symm, below_alloc1 _ _⟩
  by_cases h0 : L.body.length = 0
  · have HX := hide (may_no L (.inr (.inl (by omega))))
    have h3 : ((L.body.length : Int) == 0) = true := beq_iff_eq.2 (by omega)
    clear h0
    go_enter Tryd.func13, Tryd.ntmps13
    go_wp2_with fail
    go_ret
    exact ⟨ret_bool HX.out.symm, below_alloc1 _ _⟩
  have h3' : ((L.body.length : Int) == 0) = false := beq_eq_false_iff_ne.2 (by omega)
  have h5 : 1 ≤ L.body.length := by omega
  clear h0
  by_cases h4 : (16 : Int) < L.body.length
  · have HX := hide (may_no L (.inr (.inr (.inl (by omega)))))
    go_enter Tryd.func13, Tryd.ntmps13
    go_wp2_with fail
    go_ret
    exact ⟨ret_bool HX.out.symm, below_alloc1 _ _⟩
  have HX := hide (may_eq L (by omega) (by omega) (by omega))
  cases e1 : logsOk L.logs with
  | false =>
    go_enter Tryd.func13, Tryd.ntmps13
    go_wp2_with (go_at_call 32; refine (logsMay_any _ L.logs _ (Ints.below hI2 (below_alloc1 _ _))).mono ?_; rintro e w' ⟨rfl, rfl⟩)
    go_ret
    exact ⟨ret_bool (by rw [HX.out, e1]; rfl), below_alloc1 _ _⟩
  | true =>
    cases e2 : bodyOk L with
    | false =>
      go_enter Tryd.func13, Tryd.ntmps13
      go_wp2_with (first
        | (go_at_call 32; refine (logsMay_any _ L.logs _ (Ints.below hI2 (below_alloc1 _ _))).mono ?_; rintro e w' ⟨rfl, rfl⟩)
        | (go_at_call 33; refine (bodyMay_any _ L _ (LoopV.below hL (below_alloc1 _ _))).mono ?_; rintro e w1 ⟨rfl, hb1⟩; have hc1 := bcell hb1))
      go_ret
      exact ⟨ret_bool (by rw [HX.out, e1, e2, Bool.and_false]), (below_alloc1 _ _).trans (hb1.mono (by simp))⟩
    | true =>
      go_enter Tryd.func13, Tryd.ntmps13
      go_wp2_with (first
        | (go_at_call 32; refine (logsMay_any _ L.logs _ (Ints.below hI2 (below_alloc1 _ _))).mono ?_; rintro e w' ⟨rfl, rfl⟩)
        | (go_at_call 33; refine (bodyMay_any _ L _ (LoopV.below hL (below_alloc1 _ _))).mono ?_; rintro e w1 ⟨rfl, hb1⟩; have hc1 := bcell hb1)
        | (go_at_call 34; refine (outsMay_any _ L _ (LoopV.below hL ((below_alloc1 _ _).trans (hb1.mono (by simp))))).mono ?_; rintro e w2 ⟨rfl, hb2⟩))
      go_ret
      exact ⟨ret_bool (by rw [HX.out, e1, e2, Bool.and_true]; rfl), ((below_alloc1 _ _).trans (hb1.mono (by simp))).trans (hb2.mono (by have := hb1.size; simp at this; omega))⟩
end Go.Proofs.YtjlfcbccpcigeacDoor
/- What lies in memory as rows of numbers and as a state, and that new memory leaves it as it was. -/
namespace Go.Proofs.YtjlfcbccpcigeacDoor
open Go.RowKit Go.Joins
set_option linter.unusedVariables false

/-- v is a slice of the rows rs -/
def IntRows (w : World) (v : Value) (rs : List (List Int)) : Prop :=
  ∃ a cap, v = .slice a rs.length cap ∧ rs.length ≤ cap ∧ cap ≤ maxLen ∧
    (0 < rs.length → ∃ b off, a = some ⟨b, off, none⟩ ∧ b < w.heap.size ∧ ∀ i, i < rs.length → ∃ u, w.cell? ⟨b, off + i, none⟩ = some u ∧ Ints w u (rowAt rs i))
theorem IntRows.below {w w' : World} {v : Value} {rs : List (List Int)} (h : IntRows w v rs) (hb : Below w.heap.size w w') : IntRows w' v rs := by
  obtain ⟨a, cap, e, h1, h2, h4⟩ := h
  refine ⟨a, cap, e, h1, h2, fun hp => ?_⟩
  obtain ⟨b, off, e2, h5, h6⟩ := h4 hp
  refine ⟨b, off, e2, Nat.lt_of_lt_of_le h5 hb.size, fun i hi => ?_⟩
  obtain ⟨u, h7, h8⟩ := h6 i hi
  exact ⟨u, by rw [bcell hb _ _ h5]; exact h7, h8.below hb⟩
/-- v is the state of the rows B and M -/
def StateV (w : World) (v : Value) (B M : List (List Int)) : Prop := ∃ v0 v1, v = .agg #[v0, v1] ∧ IntRows w v0 B ∧ IntRows w v1 M
theorem StateV.below {w w' : World} {v : Value} {B M : List (List Int)} (h : StateV w v B M) (hb : Below w.heap.size w w') : StateV w' v B M := by
  obtain ⟨v0, v1, e, h1, h2⟩ := h
  exact ⟨v0, v1, e, h1.below hb, h2.below hb⟩
end Go.Proofs.YtjlfcbccpcigeacDoor
/- The contract of package loop's Fits: for every loop and state in memory it returns whether the state fits; nothing that was there is changed. -/
namespace Go.Proofs.YtjlfcbccpcigeacDoor
open Go.RowKit Go.Joins
set_option linter.unusedVariables false

end Go.Proofs.YtjlfcbccpcigeacDoor
