/- The contract of package loop's Fits: for every loop and state in memory it returns whether the state fits; nothing that was there is changed. -/
import Derived.Test.YtpljieenjkbmmaaLoopMay
import Derived.Test.YtpljieenjkbmmaaLoopState
namespace Go.Proofs.Ytpljieenjkbmmaa
open Go.RowKit Go.Joins
set_option linter.unusedVariables false

theorem shl_one (x : Int) (h0 : 0 ≤ x) (h5 : x ≤ 5) : wrap64 (2 ^ x.toNat) = ((2 ^ x.toNat : Nat) : Int) := by
  have h : x = 0 ∨ x = 1 ∨ x = 2 ∨ x = 3 ∨ x = 4 ∨ x = 5 := by omega
  rcases h with rfl | rfl | rfl | rfl | rfl | rfl <;> simp [wrap64]
theorem shl_ne (n : Nat) (x : Int) (h0 : 0 ≤ x) (h5 : x ≤ 5) : ((n : Int) != wrap64 (2 ^ x.toNat)) = !decide (n = 2 ^ x.toNat) := by
  rw [shl_one x h0 h5]
  by_cases h : n = 2 ^ x.toNat
  · rw [decide_eq_true h, h]; simp
  · rw [decide_eq_false h]
    have h2 : ((n : Nat) : Int) ≠ ((2 ^ x.toNat : Nat) : Int) := fun e => h (Int.ofNat.inj e)
    simpa using h2

set_option maxHeartbeats 400000 in
theorem fits_any (v s : Value) (L : Lp) (B M : List (List Int)) (w : World) (h : LoopV w v L) (hs : StateV w s B M) :
    Calls Try.prog 22 #[v, s] w fun e w' => e = .returned (.bool (fitsB L B M)) ∧ Below w.heap.size w w' := by
  have hL := h
  have hS := hs
  obtain ⟨v0, v1, v2, rfl, hI, ⟨a1, cap1, rfl, hl1, hm1, -⟩, -⟩ := h
  obtain ⟨a0, cap0, rfl, hl0, hm0, hr0, hc0⟩ := hI
  obtain ⟨s0, s1, rfl, ⟨ba, bcap, rfl, bl, bm, bc⟩, ⟨ma, mcap, rfl, ml, mm, mc⟩⟩ := hs
  unfold maxLen at hm0 hm1 bm mm
  cases e1 : mayB L with
  | false =>
    have HX : Hid (fitsB L B M = false) := by show fitsB L B M = false; unfold fitsB; rw [e1]; rfl
    clear bc mc hc0 hr0
    go_enter Try.func22, Try.ntmps22
    go_wp2_with (go_at_call 21; refine (may_any _ L _ (LoopV.below hL (below_alloc2 _ _ _))).mono ?_; rintro e w1 ⟨rfl, hb1⟩; have hc1 := bcell hb1)
    go_ret
    exact ⟨ret_bool HX.out.symm, (below_alloc2 _ _ _).trans (hb1.mono (by simp; omega))⟩
  | true =>
    obtain ⟨p1, p2, p3, p4, p5, p6, p7⟩ := may_parts e1
    clear p2 p3 p4 p6 p7
    by_cases h1 : B.length = L.body.length
    · by_cases h2 : M.length = L.logs.length
      · have b1 : ((B.length : Int) != (L.body.length : Int)) = false := by simp; omega
        have b2 : ((M.length : Int) != (L.logs.length : Int)) = false := by simp; omega
        have H1 := hide h1
        have H2 := hide h2
        clear h1 h2
        go_enter Try.func22, Try.ntmps22
        go_wp2_with (go_at_call 21; refine (may_any _ L _ (LoopV.below hL (below_alloc2 _ _ _))).mono ?_; rintro e w1 ⟨rfl, hb1⟩; have hc1 := bcell hb1)
        have hbw : Below w.heap.size w w1 := (below_alloc2 _ _ _).trans (hb1.mono (by simp; omega))
        have hw2 : w.heap.size + 1 < w1.heap.size := by have := hb1.size; simp at this; omega
        go_loop [33] (fun i => ∃ k : Nat, k ≤ B.length ∧ i = .int .i64 k ∧ allN (fun i => decide ((rowAt B i).length = 3)) k = true) (fun i => B.length - (intOf i).toNat)
        case atStart => exact ⟨0, Nat.zero_le _, rfl, rfl⟩
        case round =>
          obtain ⟨k, hk, rfl, hall⟩ := hrel
          have HA := hide hall
          clear hall
          by_cases hlt : k < B.length
          · obtain ⟨b, off, rfl, hb, hcell⟩ := bc (by omega)
            obtain ⟨u, hck, ⟨ra, rcap, rfl, rl, rm, -, -⟩⟩ := hcell k hlt
            unfold maxLen at rm
            rw [← bcell hbw _ _ hb] at hck
            clear hcell bc mc hc0 hr0
            by_cases hx : (rowAt B k).length = 3
            · have HX := hide hx
              have hne : (((rowAt B k).length : Int) != 3) = false := by simp; omega
              clear hx
              go_wp2_with fail
              go_round
              case rel => exact ⟨k + 1, by omega, by go_num, allN_step HA.out (decide_eq_true HX.out)⟩
              case measure => simp [intOf]; omega
            · have HX : Hid (fitsB L B M = false) := by
                show fitsB L B M = false
                unfold fitsB
                rw [allN_false (p := fun i => decide ((rowAt B i).length = 3)) hlt (decide_eq_false hx), Bool.and_false, Bool.false_and]
              have hne : (((rowAt B k).length : Int) != 3) = true := by simp; omega
              clear hx
              go_wp2_with fail
              go_ret
              exact ⟨ret_bool HX.out.symm, hbw⟩
          · have e : k = B.length := by omega
            subst e
            clear bc hlt
            go_wp2_with fail
            go_loop [44] (fun i => ∃ k : Nat, k ≤ M.length ∧ i = .int .i64 k ∧ allN (fun i => decide ((rowAt M i).length = 2 ^ (nth L.logs i).toNat)) k = true) (fun i => M.length - (intOf i).toNat)
            case atStart => exact ⟨0, Nat.zero_le _, rfl, rfl⟩
            case round =>
              obtain ⟨j, hj, rfl, hallM⟩ := hrel
              have HM := hide hallM
              clear hallM
              by_cases hlt : j < M.length
              · obtain ⟨b, off, rfl, hb, hcell⟩ := mc (by omega)
                obtain ⟨u, hck, ⟨ra, rcap, rfl, rl, rm, -, -⟩⟩ := hcell j hlt
                unfold maxLen at rm
                rw [← bcell hbw _ _ hb] at hck
                have hjl : j < L.logs.length := by have := H2.out; omega
                obtain ⟨lb, loff, rfl, hlb, hlc⟩ := hc0 (by omega)
                have hlk := hlc j hjl
                rw [← bcell hbw _ _ hlb] at hlk
                have hlog := inR_iff.1 (allN_get p5 j hjl)
                obtain ⟨hg0, hg5⟩ := hlog
                have hji : (j : Int) < (L.logs.length : Int) := by omega
                clear hcell mc hc0 hr0 hlc p5
                have hne := shl_ne (rowAt M j).length (nth L.logs j) hg0 hg5
                by_cases hx : (rowAt M j).length = 2 ^ (nth L.logs j).toNat
                · rw [decide_eq_true hx] at hne
                  have HX := hide hx
                  clear hx
                  go_wp2_with fail
                  go_round
                  case rel => exact ⟨j + 1, by omega, by go_num, allN_step HM.out (decide_eq_true HX.out)⟩
                  case measure => simp [intOf]; omega
                · rw [decide_eq_false hx] at hne
                  have HX : Hid (fitsB L B M = false) := by
                    show fitsB L B M = false
                    unfold fitsB
                    rw [allN_false (p := fun i => decide ((rowAt M i).length = 2 ^ (nth L.logs i).toNat)) hlt (decide_eq_false hx), Bool.and_false]
                  clear hx
                  go_wp2_with fail
                  go_ret
                  exact ⟨ret_bool HX.out.symm, hbw⟩
              · have e : j = M.length := by omega
                subst e
                have HX : Hid (fitsB L B M = true) := by
                  show fitsB L B M = true
                  unfold fitsB
                  rw [HM.out, HA.out, e1, decide_eq_true H1.out, decide_eq_true H2.out]; rfl
                clear hlt mc hc0 hr0
                go_wp2_with fail
                go_ret
                exact ⟨ret_bool HX.out.symm, hbw⟩
      · have HX : Hid (fitsB L B M = false) := by
          show fitsB L B M = false
          unfold fitsB
          rw [decide_eq_false h2, Bool.and_false, Bool.false_and, Bool.false_and]
        have b1 : ((B.length : Int) != (L.body.length : Int)) = false := by simp; omega
        have b2 : ((M.length : Int) != (L.logs.length : Int)) = true := by simp; omega
        clear h1 h2 bc mc hc0 hr0 p5
        go_enter Try.func22, Try.ntmps22
        go_wp2_with (go_at_call 21; refine (may_any _ L _ (LoopV.below hL (below_alloc2 _ _ _))).mono ?_; rintro e w1 ⟨rfl, hb1⟩; have hc1 := bcell hb1)
        go_ret
        exact ⟨ret_bool HX.out.symm, (below_alloc2 _ _ _).trans (hb1.mono (by simp; omega))⟩
    · have HX : Hid (fitsB L B M = false) := by
        show fitsB L B M = false
        unfold fitsB
        rw [decide_eq_false h1, Bool.and_false, Bool.false_and, Bool.false_and, Bool.false_and]
      have b1 : ((B.length : Int) != (L.body.length : Int)) = true := by simp; omega
      clear h1 bc mc hc0 hr0 p5
      go_enter Try.func22, Try.ntmps22
      go_wp2_with (go_at_call 21; refine (may_any _ L _ (LoopV.below hL (below_alloc2 _ _ _))).mono ?_; rintro e w1 ⟨rfl, hb1⟩; have hc1 := bcell hb1)
      go_ret
      exact ⟨ret_bool HX.out.symm, (below_alloc2 _ _ _).trans (hb1.mono (by simp; omega))⟩
end Go.Proofs.Ytpljieenjkbmmaa
