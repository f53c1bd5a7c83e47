/- The contract of the document's own Fits: for every loop and state in memory it returns whether the state fits; nothing that was there is changed. -/
import Derived.Test.YtbpaffkkphacdabGreatRef2L
import Derived.Test.YtbpaffkkphacdabGreatLoopP
namespace Go.Proofs.YtbpaffkkphacdabGreat
open Go.RowKit Go.Joins
set_option linter.unusedVariables false

theorem p2_ne (n l : Nat) : ((n : Int) != p2 l) = !decide (n = 2 ^ l) := by
  unfold p2
  by_cases h : n = 2 ^ l
  · rw [decide_eq_true h, h]; simp
  · rw [decide_eq_false h]
    have h2 : ((n : Nat) : Int) ≠ ((2 ^ l : Nat) : Int) := fun e => h (Int.ofNat.inj e)
    simpa using h2

set_option maxHeartbeats 400000 in
theorem rfits_any (v s : Value) (L : Lp) (B M : List (List Int)) (w : World) (h : LoopV w v L) (hs : StateV w s B M) :
    Calls Tryz.prog 7 #[v, s] w fun e w' => e = .returned (.bool (fitsB L B M)) ∧ Below w.heap.size w w' := by
  have hL := h
  have hS := hs
  obtain ⟨v0, v1, v2, rfl, hI, ⟨a1, cap1, rfl, hl1, hm1, -⟩, -⟩ := h
  obtain ⟨a0, cap0, rfl, hl0, hm0, hr0, hc0⟩ := hI
  obtain ⟨s0, s1, rfl, ⟨ba, bcap, rfl, bl, bm, bc⟩, ⟨ma, mcap, rfl, ml, mm, mc⟩⟩ := hs
  unfold maxLen at hm0 hm1 bm mm
  cases e1 : mayB L with
  | false =>
    have HX : Hid (fitsB L B M = false) := by show fitsB L B M = false; unfold fitsB; rw [e1]; rfl
    clear bc mc hc0 hr0
    go_enter Tryz.func7, Tryz.ntmps7
    go_wp2_with (go_at_call 21; refine (rmay_any _ L _ (LoopV.below hL (below_alloc2 _ _ _))).mono ?_; rintro e w1 ⟨rfl, hb1⟩; have hc1 := bcell hb1)
    go_ret
    exact ⟨ret_bool HX.out.symm, (below_alloc2 _ _ _).trans (hb1.mono (by simp; omega))⟩
  | true =>
    obtain ⟨p1, p2, p3, p4, p5, p6, p7⟩ := may_parts e1
    clear p2 p3 p4 p6 p7
    by_cases h1 : B.length = L.body.length
    · by_cases h2 : M.length = L.logs.length
      · have b1 : ((B.length : Int) != (L.body.length : Int)) = false := by simp; omega
        have b2 : ((M.length : Int) != (L.logs.length : Int)) = false := by simp; omega
        have H1 := hide h1
        have H2 := hide h2
        clear h1 h2
        go_enter Tryz.func7, Tryz.ntmps7
        go_wp2_with (go_at_call 21; refine (rmay_any _ L _ (LoopV.below hL (below_alloc2 _ _ _))).mono ?_; rintro e w1 ⟨rfl, hb1⟩; have hc1 := bcell hb1)
        have hbw : Below w.heap.size w w1 := (below_alloc2 _ _ _).trans (hb1.mono (by simp; omega))
        have hw2 : w.heap.size + 1 < w1.heap.size := by have := hb1.size; simp at this; omega
        go_loop [5] (fun i => ∃ k : Nat, k ≤ B.length ∧ i = .int .i64 k ∧ allN (fun i => decide ((rowAt B i).length = 3)) k = true) (fun i => B.length - (intOf i).toNat)
        case atStart => exact ⟨0, Nat.zero_le _, rfl, rfl⟩
        case round =>
          obtain ⟨k, hk, rfl, hall⟩ := hrel
          have HA := hide hall
          clear hall
          by_cases hlt : k < B.length
          · obtain ⟨b, off, rfl, hb, hcell⟩ := bc (by omega)
            obtain ⟨u, hck, ⟨ra, rcap, rfl, rl, rm, -, -⟩⟩ := hcell k hlt
            unfold maxLen at rm
            rw [← bcell hbw _ _ hb] at hck
            clear hcell bc mc hc0 hr0
            by_cases hx : (rowAt B k).length = 3
            · have HX := hide hx
              have hne : (((rowAt B k).length : Int) != 3) = false := by simp; omega
              clear hx
              go_wp2_with fail
              go_round
              case rel => exact ⟨k + 1, by omega, by go_num, allN_step HA.out (decide_eq_true HX.out)⟩
              case measure => simp [intOf]; omega
            · have HX : Hid (fitsB L B M = false) := by
                show fitsB L B M = false
                unfold fitsB
                rw [allN_false (p := fun i => decide ((rowAt B i).length = 3)) hlt (decide_eq_false hx), Bool.and_false, Bool.false_and]
              have hne : (((rowAt B k).length : Int) != 3) = true := by simp; omega
              clear hx
              go_wp2_with fail
              go_ret
              exact ⟨ret_bool HX.out.symm, hbw⟩
          · have e : k = B.length := by omega
            subst e
            clear bc hlt
            go_wp2_with fail
            go_loop [6] (fun i => ∃ k : Nat, k ≤ M.length ∧ i = .int .i64 k ∧ allN (fun i => decide ((rowAt M i).length = 2 ^ (nth L.logs i).toNat)) k = true) (fun i => M.length - (intOf i).toNat)
            case atStart => exact ⟨0, Nat.zero_le _, rfl, rfl⟩
            case round =>
              obtain ⟨j, hj, rfl, hallM⟩ := hrel
              have HM := hide hallM
              clear hallM
              by_cases hlt : j < M.length
              · obtain ⟨b, off, rfl, hb, hcell⟩ := mc (by omega)
                obtain ⟨u, hck, ⟨ra, rcap, rfl, rl, rm, -, -⟩⟩ := hcell j hlt
                unfold maxLen at rm
                rw [← bcell hbw _ _ hb] at hck
                have hjl : j < L.logs.length := by have := H2.out; omega
                obtain ⟨lb, loff, rfl, hlb, hlc⟩ := hc0 (by omega)
                have hlk := hlc j hjl
                rw [← bcell hbw _ _ hlb] at hlk
                have hlog := inR_iff.1 (allN_get p5 j hjl)
                obtain ⟨hg0, hg5⟩ := hlog
                obtain ⟨l, hl2⟩ := Int.eq_ofNat_of_zero_le hg0
                have HE := hide hl2
                rw [hl2] at hlk hg5
                clear hl2 hg0
                have hji : (j : Int) < (L.logs.length : Int) := by omega
                clear hcell mc hc0 hr0 hlc p5
                have hne := p2_ne (rowAt M j).length l
                by_cases hx : (rowAt M j).length = 2 ^ l
                · rw [decide_eq_true hx] at hne
                  have HX := hide hx
                  clear hx
                  go_wp2_with (go_at_call 22; refine (size_any l _ (by omega)).mono ?_; rintro e w' ⟨rfl, rfl⟩)
                  go_round
                  case rel => exact ⟨j + 1, by omega, by go_num, allN_step HM.out (decide_eq_true (by rw [HE.out]; exact HX.out))⟩
                  case measure => simp [intOf]; omega
                · rw [decide_eq_false hx] at hne
                  have HX : Hid (fitsB L B M = false) := by
                    show fitsB L B M = false
                    unfold fitsB
                    rw [allN_false (p := fun i => decide ((rowAt M i).length = 2 ^ (nth L.logs i).toNat)) hlt (decide_eq_false (by rw [HE.out]; exact hx)), Bool.and_false]
                  clear hx
                  go_wp2_with (go_at_call 22; refine (size_any l _ (by omega)).mono ?_; rintro e w' ⟨rfl, rfl⟩)
                  go_ret
                  exact ⟨ret_bool HX.out.symm, hbw⟩
              · have e : j = M.length := by omega
                subst e
                have HX : Hid (fitsB L B M = true) := by
                  show fitsB L B M = true
                  unfold fitsB
                  rw [HM.out, HA.out, e1, decide_eq_true H1.out, decide_eq_true H2.out]; rfl
                clear hlt mc hc0 hr0
                go_wp2_with fail
                go_ret
                exact ⟨ret_bool HX.out.symm, hbw⟩
      · have HX : Hid (fitsB L B M = false) := by
          show fitsB L B M = false
          unfold fitsB
          rw [decide_eq_false h2, Bool.and_false, Bool.false_and, Bool.false_and]
        have b1 : ((B.length : Int) != (L.body.length : Int)) = false := by simp; omega
        have b2 : ((M.length : Int) != (L.logs.length : Int)) = true := by simp; omega
        clear h1 h2 bc mc hc0 hr0 p5
        go_enter Tryz.func7, Tryz.ntmps7
        go_wp2_with (go_at_call 21; refine (rmay_any _ L _ (LoopV.below hL (below_alloc2 _ _ _))).mono ?_; rintro e w1 ⟨rfl, hb1⟩; have hc1 := bcell hb1)
        go_ret
        exact ⟨ret_bool HX.out.symm, (below_alloc2 _ _ _).trans (hb1.mono (by simp; omega))⟩
    · have HX : Hid (fitsB L B M = false) := by
        show fitsB L B M = false
        unfold fitsB
        rw [decide_eq_false h1, Bool.and_false, Bool.false_and, Bool.false_and, Bool.false_and]
      have b1 : ((B.length : Int) != (L.body.length : Int)) = true := by simp; omega
      clear h1 bc mc hc0 hr0 p5
      go_enter Tryz.func7, Tryz.ntmps7
      go_wp2_with (go_at_call 21; refine (rmay_any _ L _ (LoopV.below hL (below_alloc2 _ _ _))).mono ?_; rintro e w1 ⟨rfl, hb1⟩; have hc1 := bcell hb1)
      go_ret
      exact ⟨ret_bool HX.out.symm, (below_alloc2 _ _ _).trans (hb1.mono (by simp; omega))⟩
end Go.Proofs.YtbpaffkkphacdabGreat
