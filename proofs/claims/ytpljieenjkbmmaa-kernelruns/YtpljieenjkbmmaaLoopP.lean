/- LoopP: texts that are built as one: LoopMay, LoopState, LoopFits. -/
import Derived.Test.YtpljieenjkbmmaaLoopStmt
/- Contracts of package loop's May: for every loop in memory it returns whether the loop may be; nothing that was there is changed. -/
namespace Go.Proofs.Ytpljieenjkbmmaa
open Go.RowKit Go.Joins
set_option linter.unusedVariables false

set_option maxHeartbeats 400000 in
theorem outsMay_any (v : Value) (L : Lp) (w : World) (h : LoopV w v L) :
    Calls Try.prog 58 #[v] w fun e w' => e = .returned (.bool (outsOk L.body.length L.outs)) ∧ Below w.heap.size w w' := by
  obtain ⟨v0, v1, v2, rfl, -, ⟨a1, cap1, rfl, hl1, hm1, -⟩, ⟨a, cap, rfl, hl, hm, hr, hc⟩⟩ := h
  unfold maxLen at hm hm1
  go_enter Try.func58, Try.ntmps58
  go_wp2
  go_loop [3, 9] (fun t i => ∃ k : Nat, k ≤ L.outs.length ∧ i = .int .i64 k ∧ t = .int .i64 (prev L.outs k) ∧ allN (outOk L.body.length L.outs) k = true) (fun _ i => L.outs.length - (intOf i).toNat)
  case atStart => exact ⟨0, Nat.zero_le _, rfl, rfl, rfl⟩
  case round =>
    obtain ⟨k, hk, rfl, rfl, hall⟩ := hrel
    have hp := prev_range L.body.length L.outs k (by omega) hall
    obtain ⟨hp1, hp2⟩ := hp
    have HA := hide hall
    clear hall
    by_cases hlt : k < L.outs.length
    · obtain ⟨b, off, rfl, hb, hcell⟩ := hc (by omega)
      have hck := hcell k hlt
      clear hcell hc
      cases hx : outOk L.body.length L.outs k with
      | true =>
        have HX := hide hx
        have hin : inR (nth L.outs k) (prev L.outs k + 1) (L.body.length - 1) = true := hx
        clear hx
        go_wp2_with (go_at_call 88; refine (lwithin_any _ _ _ _).mono ?_; rintro e w' ⟨rfl, rfl⟩)
        go_round
        case rel => exact ⟨k + 1, by omega, by go_num, rfl, allN_step HA.out HX.out⟩
        case measure => simp [intOf]; omega
      | false =>
        have HX := hide hx
        have hin : inR (nth L.outs k) (prev L.outs k + 1) (L.body.length - 1) = false := hx
        clear hx
        go_wp2_with (go_at_call 88; refine (lwithin_any _ _ _ _).mono ?_; rintro e w' ⟨rfl, rfl⟩)
        go_ret
        exact ⟨ret_bool (allN_false hlt HX.out).symm, below_alloc1 _ _⟩
    · have e : k = L.outs.length := by omega
      have HL : Hid (outsOk L.body.length L.outs = true) := by show outsOk L.body.length L.outs = true; unfold outsOk; rw [← e]; exact HA.out
      clear HA e
      go_wp2
      go_ret
      exact ⟨ret_bool HL.out.symm, below_alloc1 _ _⟩

set_option maxHeartbeats 400000 in
theorem bodyMay_any (v : Value) (L : Lp) (w : World) (h : LoopV w v L) :
    Calls Try.prog 57 #[v] w fun e w' => e = .returned (.bool (bodyOk L)) ∧ Below w.heap.size w w' := by
  have hL := h
  obtain ⟨v0, v1, v2, rfl, -, ⟨a, cap, rfl, hl, hm, -⟩, -⟩ := h
  unfold maxLen at hm
  go_enter Try.func57, Try.ntmps57
  go_wp2
  go_loopw [7] (fun i wr => ∃ k : Nat, k ≤ L.body.length ∧ i = .int .i64 k ∧ allN (fun k => stOk L.logs.length L.body.length k (stAt L.body k)) k = true ∧ Below (w.heap.size + 1) (w.alloc (.cells #[v0, .slice a L.body.length cap, v2] 30)) wr) (fun i _ => L.body.length - (intOf i).toNat)
  case atStart => exact ⟨0, Nat.zero_le _, rfl, rfl, Below.refl _ _⟩
  case round =>
    obtain ⟨k, hk, rfl, hall, hbel⟩ := hrel
    have hcell : ∀ o, wr.cell? ⟨w.heap.size, o, none⟩ = (w.alloc (.cells #[v0, .slice a L.body.length cap, v2] 30)).cell? ⟨w.heap.size, o, none⟩ := fun o => hbel.cell (p := ⟨w.heap.size, o, none⟩) (by simp)
    have hbw : Below w.heap.size w wr := (below_alloc1 _ _).trans (hbel.mono (by omega))
    have HA := hide hall
    clear hall
    by_cases hlt : k < L.body.length
    · have hks : (k : Int) < (L.body.length : Int) := by omega
      cases hx : stOk L.logs.length L.body.length k (stAt L.body k) with
      | true =>
        have HX := hide hx
        go_wp2_with (go_at_call 89; refine (stmtMay_any _ L k _ (LoopV.below hL hbw) hlt).mono ?_; rintro e w1 ⟨rfl, hb1⟩)
        go_roundw
        case rel => exact ⟨k + 1, by omega, by go_num, allN_step HA.out HX.out, hbel.trans (hb1.mono (by have := hbel.size; simp at this; omega))⟩
        case measure => simp [intOf]; omega
      | false =>
        have HX := hide hx
        go_wp2_with (go_at_call 89; refine (stmtMay_any _ L k _ (LoopV.below hL hbw) hlt).mono ?_; rintro e w1 ⟨rfl, hb1⟩)
        go_ret
        exact ⟨ret_bool (allN_false hlt HX.out).symm, hbw.trans (hb1.mono hbw.size)⟩
    · have e : k = L.body.length := by omega
      have HL : Hid (bodyOk L = true) := by show bodyOk L = true; unfold bodyOk; rw [← e]; rw [← e] at HA; exact HA.out
      clear HA e
      go_wp2
      go_ret
      exact ⟨ret_bool HL.out.symm, hbw⟩

set_option maxHeartbeats 400000 in
theorem may_any (v : Value) (L : Lp) (w : World) (h : LoopV w v L) :
    Calls Try.prog 21 #[v] w fun e w' => e = .returned (.bool (mayB L)) ∧ Below w.heap.size w w' := by
  have hL := h
  obtain ⟨v0, v1, v2, rfl, hI, ⟨a1, cap1, rfl, hl1, hm1, -⟩, ⟨a2, cap2, rfl, hl2, hm2, hr2, hc2⟩⟩ := h
  have hI2 := hI
  obtain ⟨a0, cap0, rfl, hl0, hm0, hr0, hc0⟩ := hI
  clear hr0 hc0 hr2 hc2
  unfold maxLen at hm0 hm1 hm2
  by_cases h1 : (3 : Int) < L.logs.length
  · have HX := hide (may_no L (.inl (by omega)))
    go_enter Try.func21, Try.ntmps21
    go_wp2_with fail
    go_ret
    exact ⟨ret_bool HX.out.symm, below_alloc1 _ _⟩
  by_cases h2 : (16 : Int) < L.outs.length
  · have HX := hide (may_no L (.inr (.inr (.inr (by omega)))))
    go_enter Try.func21, Try.ntmps21
    go_wp2_with fail
    go_ret
    exact ⟨ret_bool HX.out.symm, below_alloc1 _ _⟩
  by_cases h0 : L.body.length = 0
  · have HX := hide (may_no L (.inr (.inl (by omega))))
    have h3 : ((L.body.length : Int) == 0) = true := beq_iff_eq.2 (by omega)
    clear h0
    go_enter Try.func21, Try.ntmps21
    go_wp2_with fail
    go_ret
    exact ⟨ret_bool HX.out.symm, below_alloc1 _ _⟩
  have h3' : ((L.body.length : Int) == 0) = false := beq_eq_false_iff_ne.2 (by omega)
  have h5 : 1 ≤ L.body.length := by omega
  clear h0
  by_cases h4 : (16 : Int) < L.body.length
  · have HX := hide (may_no L (.inr (.inr (.inl (by omega)))))
    go_enter Try.func21, Try.ntmps21
    go_wp2_with fail
    go_ret
    exact ⟨ret_bool HX.out.symm, below_alloc1 _ _⟩
  have HX := hide (may_eq L (by omega) (by omega) (by omega))
  cases e1 : logsOk L.logs with
  | false =>
    go_enter Try.func21, Try.ntmps21
    go_wp2_with (go_at_call 56; refine (logsMay_any _ L.logs _ (Ints.below hI2 (below_alloc1 _ _))).mono ?_; rintro e w' ⟨rfl, rfl⟩)
    go_ret
    exact ⟨ret_bool (by rw [HX.out, e1]; rfl), below_alloc1 _ _⟩
  | true =>
    cases e2 : bodyOk L with
    | false =>
      go_enter Try.func21, Try.ntmps21
      go_wp2_with (first
        | (go_at_call 56; refine (logsMay_any _ L.logs _ (Ints.below hI2 (below_alloc1 _ _))).mono ?_; rintro e w' ⟨rfl, rfl⟩)
        | (go_at_call 57; refine (bodyMay_any _ L _ (LoopV.below hL (below_alloc1 _ _))).mono ?_; rintro e w1 ⟨rfl, hb1⟩; have hc1 := bcell hb1))
      go_ret
      exact ⟨ret_bool (by rw [HX.out, e1, e2, Bool.and_false]), (below_alloc1 _ _).trans (hb1.mono (by simp))⟩
    | true =>
      go_enter Try.func21, Try.ntmps21
      go_wp2_with (first
        | (go_at_call 56; refine (logsMay_any _ L.logs _ (Ints.below hI2 (below_alloc1 _ _))).mono ?_; rintro e w' ⟨rfl, rfl⟩)
        | (go_at_call 57; refine (bodyMay_any _ L _ (LoopV.below hL (below_alloc1 _ _))).mono ?_; rintro e w1 ⟨rfl, hb1⟩; have hc1 := bcell hb1)
        | (go_at_call 58; refine (outsMay_any _ L _ (LoopV.below hL ((below_alloc1 _ _).trans (hb1.mono (by simp))))).mono ?_; rintro e w2 ⟨rfl, hb2⟩))
      go_ret
      exact ⟨ret_bool (by rw [HX.out, e1, e2, Bool.and_true]; rfl), ((below_alloc1 _ _).trans (hb1.mono (by simp))).trans (hb2.mono (by have := hb1.size; simp at this; omega))⟩
end Go.Proofs.Ytpljieenjkbmmaa
/- What lies in memory as rows of numbers and as a state, and that new memory leaves it as it was. -/
namespace Go.Proofs.Ytpljieenjkbmmaa
open Go.RowKit Go.Joins
set_option linter.unusedVariables false

/-- v is a slice of the rows rs -/
def IntRows (w : World) (v : Value) (rs : List (List Int)) : Prop :=
  ∃ a cap, v = .slice a rs.length cap ∧ rs.length ≤ cap ∧ cap ≤ maxLen ∧
    (0 < rs.length → ∃ b off, a = some ⟨b, off, none⟩ ∧ b < w.heap.size ∧ ∀ i, i < rs.length → ∃ u, w.cell? ⟨b, off + i, none⟩ = some u ∧ Ints w u (rowAt rs i))
theorem IntRows.below {w w' : World} {v : Value} {rs : List (List Int)} (h : IntRows w v rs) (hb : Below w.heap.size w w') : IntRows w' v rs := by
  obtain ⟨a, cap, e, h1, h2, h4⟩ := h
  refine ⟨a, cap, e, h1, h2, fun hp => ?_⟩
  obtain ⟨b, off, e2, h5, h6⟩ := h4 hp
  refine ⟨b, off, e2, Nat.lt_of_lt_of_le h5 hb.size, fun i hi => ?_⟩
  obtain ⟨u, h7, h8⟩ := h6 i hi
  exact ⟨u, by rw [bcell hb _ _ h5]; exact h7, h8.below hb⟩
/-- v is the state of the rows B and M -/
def StateV (w : World) (v : Value) (B M : List (List Int)) : Prop := ∃ v0 v1, v = .agg #[v0, v1] ∧ IntRows w v0 B ∧ IntRows w v1 M
theorem StateV.below {w w' : World} {v : Value} {B M : List (List Int)} (h : StateV w v B M) (hb : Below w.heap.size w w') : StateV w' v B M := by
  obtain ⟨v0, v1, e, h1, h2⟩ := h
  exact ⟨v0, v1, e, h1.below hb, h2.below hb⟩
end Go.Proofs.Ytpljieenjkbmmaa
/- The contract of package loop's Fits: for every loop and state in memory it returns whether the state fits; nothing that was there is changed. -/
namespace Go.Proofs.Ytpljieenjkbmmaa
open Go.RowKit Go.Joins
set_option linter.unusedVariables false

theorem shl_one (x : Int) (h0 : 0 ≤ x) (h5 : x ≤ 5) : wrap64 (2 ^ x.toNat) = ((2 ^ x.toNat : Nat) : Int) := by
  have h : x = 0 ∨ x = 1 ∨ x = 2 ∨ x = 3 ∨ x = 4 ∨ x = 5 := by omega
  rcases h with rfl | rfl | rfl | rfl | rfl | rfl <;> simp [wrap64]
theorem shl_ne (n : Nat) (x : Int) (h0 : 0 ≤ x) (h5 : x ≤ 5) : ((n : Int) != wrap64 (2 ^ x.toNat)) = !decide (n = 2 ^ x.toNat) := by
  rw [shl_one x h0 h5]
  by_cases h : n = 2 ^ x.toNat
  · rw [decide_eq_true h, h]; simp
  · rw [decide_eq_false h]
    have h2 : ((n : Nat) : Int) ≠ ((2 ^ x.toNat : Nat) : Int) := fun e => h (Int.ofNat.inj e)
    simpa using h2

set_option maxHeartbeats 400000 in
theorem fits_any (v s : Value) (L : Lp) (B M : List (List Int)) (w : World) (h : LoopV w v L) (hs : StateV w s B M) :
    Calls Try.prog 22 #[v, s] w fun e w' => e = .returned (.bool (fitsB L B M)) ∧ Below w.heap.size w w' := by
  have hL := h
  have hS := hs
  obtain ⟨v0, v1, v2, rfl, hI, ⟨a1, cap1, rfl, hl1, hm1, -⟩, -⟩ := h
  obtain ⟨a0, cap0, rfl, hl0, hm0, hr0, hc0⟩ := hI
  obtain ⟨s0, s1, rfl, ⟨ba, bcap, rfl, bl, bm, bc⟩, ⟨ma, mcap, rfl, ml, mm, mc⟩⟩ := hs
  unfold maxLen at hm0 hm1 bm mm
  cases e1 : mayB L with
  | false =>
    have HX : Hid (fitsB L B M = false) := by show fitsB L B M = false; unfold fitsB; rw [e1]; rfl
    clear bc mc hc0 hr0
    go_enter Try.func22, Try.ntmps22
    go_wp2_with (go_at_call 21; refine (may_any _ L _ (LoopV.below hL (below_alloc2 _ _ _))).mono ?_; rintro e w1 ⟨rfl, hb1⟩; have hc1 := bcell hb1)
    go_ret
    exact ⟨ret_bool HX.out.symm, (below_alloc2 _ _ _).trans (hb1.mono (by simp; omega))⟩
  | true =>
    obtain ⟨p1, p2, p3, p4, p5, p6, p7⟩ := may_parts e1
    clear p2 p3 p4 p6 p7
    by_cases h1 : B.length = L.body.length
    · by_cases h2 : M.length = L.logs.length
      · have b1 : ((B.length : Int) != (L.body.length : Int)) = false := by simp; omega
        have b2 : ((M.length : Int) != (L.logs.length : Int)) = false := by simp; omega
        have H1 := hide h1
        have H2 := hide h2
        clear h1 h2
        go_enter Try.func22, Try.ntmps22
        go_wp2_with (go_at_call 21; refine (may_any _ L _ (LoopV.below hL (below_alloc2 _ _ _))).mono ?_; rintro e w1 ⟨rfl, hb1⟩; have hc1 := bcell hb1)
        have hbw : Below w.heap.size w w1 := (below_alloc2 _ _ _).trans (hb1.mono (by simp; omega))
        have hw2 : w.heap.size + 1 < w1.heap.size := by have := hb1.size; simp at this; omega
        go_loop [33] (fun i => ∃ k : Nat, k ≤ B.length ∧ i = .int .i64 k ∧ allN (fun i => decide ((rowAt B i).length = 3)) k = true) (fun i => B.length - (intOf i).toNat)
        case atStart => exact ⟨0, Nat.zero_le _, rfl, rfl⟩
        case round =>
          obtain ⟨k, hk, rfl, hall⟩ := hrel
          have HA := hide hall
          clear hall
          by_cases hlt : k < B.length
          · obtain ⟨b, off, rfl, hb, hcell⟩ := bc (by omega)
            obtain ⟨u, hck, ⟨ra, rcap, rfl, rl, rm, -, -⟩⟩ := hcell k hlt
            unfold maxLen at rm
            rw [← bcell hbw _ _ hb] at hck
            clear hcell bc mc hc0 hr0
            by_cases hx : (rowAt B k).length = 3
            · have HX := hide hx
              have hne : (((rowAt B k).length : Int) != 3) = false := by simp; omega
              clear hx
              go_wp2_with fail
              go_round
              case rel => exact ⟨k + 1, by omega, by go_num, allN_step HA.out (decide_eq_true HX.out)⟩
              case measure => simp [intOf]; omega
            · have HX : Hid (fitsB L B M = false) := by
                show fitsB L B M = false
                unfold fitsB
                rw [allN_false (p := fun i => decide ((rowAt B i).length = 3)) hlt (decide_eq_false hx), Bool.and_false, Bool.false_and]
              have hne : (((rowAt B k).length : Int) != 3) = true := by simp; omega
              clear hx
              go_wp2_with fail
              go_ret
              exact ⟨ret_bool HX.out.symm, hbw⟩
          · have e : k = B.length := by omega
            subst e
            clear bc hlt
            go_wp2_with fail
            go_loop [44] (fun i => ∃ k : Nat, k ≤ M.length ∧ i = .int .i64 k ∧ allN (fun i => decide ((rowAt M i).length = 2 ^ (nth L.logs i).toNat)) k = true) (fun i => M.length - (intOf i).toNat)
            case atStart => exact ⟨0, Nat.zero_le _, rfl, rfl⟩
            case round =>
              obtain ⟨j, hj, rfl, hallM⟩ := hrel
              have HM := hide hallM
              clear hallM
              by_cases hlt : j < M.length
              · obtain ⟨b, off, rfl, hb, hcell⟩ := mc (by omega)
                obtain ⟨u, hck, ⟨ra, rcap, rfl, rl, rm, -, -⟩⟩ := hcell j hlt
                unfold maxLen at rm
                rw [← bcell hbw _ _ hb] at hck
                have hjl : j < L.logs.length := by have := H2.out; omega
                obtain ⟨lb, loff, rfl, hlb, hlc⟩ := hc0 (by omega)
                have hlk := hlc j hjl
                rw [← bcell hbw _ _ hlb] at hlk
                have hlog := inR_iff.1 (allN_get p5 j hjl)
                obtain ⟨hg0, hg5⟩ := hlog
                have hji : (j : Int) < (L.logs.length : Int) := by omega
                clear hcell mc hc0 hr0 hlc p5
                have hne := shl_ne (rowAt M j).length (nth L.logs j) hg0 hg5
                by_cases hx : (rowAt M j).length = 2 ^ (nth L.logs j).toNat
                · rw [decide_eq_true hx] at hne
                  have HX := hide hx
                  clear hx
                  go_wp2_with fail
                  go_round
                  case rel => exact ⟨j + 1, by omega, by go_num, allN_step HM.out (decide_eq_true HX.out)⟩
                  case measure => simp [intOf]; omega
                · rw [decide_eq_false hx] at hne
                  have HX : Hid (fitsB L B M = false) := by
                    show fitsB L B M = false
                    unfold fitsB
                    rw [allN_false (p := fun i => decide ((rowAt M i).length = 2 ^ (nth L.logs i).toNat)) hlt (decide_eq_false hx), Bool.and_false]
                  clear hx
                  go_wp2_with fail
                  go_ret
                  exact ⟨ret_bool HX.out.symm, hbw⟩
              · have e : j = M.length := by omega
                subst e
                have HX : Hid (fitsB L B M = true) := by
                  show fitsB L B M = true
                  unfold fitsB
                  rw [HM.out, HA.out, e1, decide_eq_true H1.out, decide_eq_true H2.out]; rfl
                clear hlt mc hc0 hr0
                go_wp2_with fail
                go_ret
                exact ⟨ret_bool HX.out.symm, hbw⟩
      · have HX : Hid (fitsB L B M = false) := by
          show fitsB L B M = false
          unfold fitsB
          rw [decide_eq_false h2, Bool.and_false, Bool.false_and, Bool.false_and]
        have b1 : ((B.length : Int) != (L.body.length : Int)) = false := by simp; omega
        have b2 : ((M.length : Int) != (L.logs.length : Int)) = true := by simp; omega
        clear h1 h2 bc mc hc0 hr0 p5
        go_enter Try.func22, Try.ntmps22
        go_wp2_with (go_at_call 21; refine (may_any _ L _ (LoopV.below hL (below_alloc2 _ _ _))).mono ?_; rintro e w1 ⟨rfl, hb1⟩; have hc1 := bcell hb1)
        go_ret
        exact ⟨ret_bool HX.out.symm, (below_alloc2 _ _ _).trans (hb1.mono (by simp; omega))⟩
    · have HX : Hid (fitsB L B M = false) := by
        show fitsB L B M = false
        unfold fitsB
        rw [decide_eq_false h1, Bool.and_false, Bool.false_and, Bool.false_and, Bool.false_and]
      have b1 : ((B.length : Int) != (L.body.length : Int)) = true := by simp; omega
      clear h1 bc mc hc0 hr0 p5
      go_enter Try.func22, Try.ntmps22
      go_wp2_with (go_at_call 21; refine (may_any _ L _ (LoopV.below hL (below_alloc2 _ _ _))).mono ?_; rintro e w1 ⟨rfl, hb1⟩; have hc1 := bcell hb1)
      go_ret
      exact ⟨ret_bool HX.out.symm, (below_alloc2 _ _ _).trans (hb1.mono (by simp; omega))⟩
end Go.Proofs.Ytpljieenjkbmmaa
