/- The contract of the document's own May: for every loop in memory it returns whether the loop may be; nothing that was there is changed. -/
import Derived.Test.YtpljieenjkbmmaaRef2Look
import Derived.Deep.QuietTactic
import Derived.BigQuiet
namespace Go.Proofs.Ytpljieenjkbmmaa
open Go.RowKit Go.Joins
set_option linter.unusedVariables false

theorem i64_wrap (x : Int) (h0 : -9223372036854775808 ≤ x) (h1 : x ≤ 9223372036854775807) : IntKind.i64.wrap x = x := by rw [IntKind.wrap_i64]; omega
set_option maxHeartbeats 1000000 in
theorem rmay_any (v : Value) (L : Lp) (w : World) (h : LoopV w v L) :
    Calls Try.prog 23 #[v] w fun e w' => e = .returned (.bool (mayB L)) ∧ Below w.heap.size w w' := by
  have hL := h
  obtain ⟨v0, v1, v2, rfl, ⟨a0, cap0, rfl, hl0, hm0, hr0, hc0⟩, ⟨a1, cap1, rfl, hl1, hm1, -⟩, ⟨a2, cap2, rfl, hl2, hm2, hr2, hc2⟩⟩ := h
  unfold maxLen at hm0 hm1 hm2
  by_cases h1 : (3 : Int) < L.logs.length
  · have HX := hide (may_no L (.inl (by omega)))
    clear hr0 hc0 hr2 hc2
    go_enter Try.func23, Try.ntmps23
    go_wp2_with fail
    go_ret
    exact ⟨ret_bool HX.out.symm, below_alloc1 _ _⟩
  by_cases h2 : (L.body.length : Int) < 1
  · have HX := hide (may_no L (.inr (.inl (by omega))))
    clear hr0 hc0 hr2 hc2
    go_enter Try.func23, Try.ntmps23
    go_wp2_with fail
    go_ret
    exact ⟨ret_bool HX.out.symm, below_alloc1 _ _⟩
  by_cases h4 : (16 : Int) < L.body.length
  · have HX := hide (may_no L (.inr (.inr (.inl (by omega)))))
    clear hr0 hc0 hr2 hc2
    go_enter Try.func23, Try.ntmps23
    go_wp2_with fail
    go_ret
    exact ⟨ret_bool HX.out.symm, below_alloc1 _ _⟩
  have HX := hide (may_eq L (by omega) (by omega) (by omega))
  go_enter Try.func23, Try.ntmps23
  go_wp2_with fail
  go_loop [4] (fun i => ∃ k : Nat, k ≤ L.logs.length ∧ i = .int .i64 k ∧ allN (fun i => logOk (nth L.logs i)) k = true) (fun i => L.logs.length - (intOf i).toNat)
  case atStart => exact ⟨0, Nat.zero_le _, rfl, rfl⟩
  case round =>
    obtain ⟨k, hk, rfl, hall⟩ := hrel
    have HA := hide hall
    clear hall
    by_cases hlt : k < L.logs.length
    · obtain ⟨b, off, rfl, hb, hcell⟩ := hc0 (by omega)
      have hck := hcell k hlt
      have hki : (k : Int) < (L.logs.length : Int) := by omega
      clear hcell hc0 hr0 hc2 hr2
      cases hx : logOk (nth L.logs k) with
      | true =>
        have HY := hide hx
        have hin : inR (nth L.logs k) 0 5 = true := hx
        clear hx
        go_wp2_with (go_at_call 59; refine (rwithin_any _ _ _ _).mono ?_; rintro e w' ⟨rfl, rfl⟩)
        go_round
        case rel => exact ⟨k + 1, by omega, by go_num, allN_step HA.out HY.out⟩
        case measure => simp [intOf]; omega
      | false =>
        have HY : Hid (logsOk L.logs = false) := allN_false hlt hx
        have hin : inR (nth L.logs k) 0 5 = false := hx
        clear hx
        go_wp2_with (go_at_call 59; refine (rwithin_any _ _ _ _).mono ?_; rintro e w' ⟨rfl, rfl⟩)
        go_ret
        exact ⟨ret_bool (by rw [HX.out, HY.out]; rfl), below_alloc1 _ _⟩
    · have e : k = L.logs.length := by omega
      have HL : Hid (logsOk L.logs = true) := by show logsOk L.logs = true; unfold logsOk; rw [← e]; exact HA.out
      subst e
      clear HA hlt hc0 hr0
      go_wp2_with fail
      go_loopw [5] (fun i wr => ∃ k : Nat, k ≤ L.outs.length ∧ i = .int .i64 k ∧ allN (outOk L.body.length L.outs) k = true ∧ Below (w.heap.size + 1) (w.alloc (.cells #[.slice a0 L.logs.length cap0, .slice a1 L.body.length cap1, .slice a2 L.outs.length cap2] 30)) wr) (fun i _ => L.outs.length - (intOf i).toNat)
      case atStart => exact ⟨0, Nat.zero_le _, rfl, rfl, Below.refl _ _⟩
      case round =>
        obtain ⟨k, hk, rfl, hall, hbel⟩ := hrel
        have hbox : ∀ o, wr.cell? ⟨w.heap.size, o, none⟩ = (w.alloc (.cells #[.slice a0 L.logs.length cap0, .slice a1 L.body.length cap1, .slice a2 L.outs.length cap2] 30)).cell? ⟨w.heap.size, o, none⟩ := fun o => hbel.cell (p := ⟨w.heap.size, o, none⟩) (by simp)
        have hbw : Below w.heap.size w wr := (below_alloc1 _ _).trans (hbel.mono (by omega))
        have HA := hide hall
        by_cases hlt : k < L.outs.length
        · obtain ⟨b, off, rfl, hb, hcell⟩ := hc2 (by omega)
          have hck := hcell k hlt
          rw [← bcell hbw _ _ hb] at hck
          have hki : (k : Int) < (L.outs.length : Int) := by omega
          have hwn : IntKind.i64.wrap ((L.body.length : Int) - 1) = (L.body.length : Int) - 1 := i64_wrap _ (by omega) (by omega)
          have hwk : IntKind.i64.wrap ((k : Int) - 1) = (k : Int) - 1 := i64_wrap _ (by omega) (by omega)
          cases hx : outOk L.body.length L.outs k with
          | false =>
            have HY : Hid (outsOk L.body.length L.outs = false) := allN_false hlt hx
            rcases outOk_no hx with hin | ⟨hin, hk0, hle⟩
            · clear hx hall hcell hc2 hr2
              go_wp2_with fail
              go_quiet ((go_at_call 59; exact Calls.quiet_of_same (rwithin_any _ _ _ _)))
              go_wp2_with fail
              go_ret
              exact ⟨ret_bool (by rw [HX.out, HY.out, Bool.and_false, Bool.false_and]), hbw.trans (below_draws _ _ _)⟩
            · obtain ⟨m, hmk⟩ : ∃ m, k = m + 1 := ⟨k - 1, by omega⟩
              have hcm := hcell m (by omega)
              rw [← bcell hbw _ _ hb] at hcm
              have hkp : (0 : Int) < (k : Int) := by omega
              have hk3 : 0 < k := by omega
              have hmi : (m : Int) < (L.outs.length : Int) := by omega
              have hwm : IntKind.i64.wrap ((k : Int) - 1) = (m : Int) := by rw [hwk]; omega
              have hle2 : decide (nth L.outs k ≤ nth L.outs m) = true := decide_eq_true (by rw [show m = k - 1 from by omega]; exact hle)
              clear hx hall hcell hc2 hr2 hle hwk hmk
              go_wp2_with fail
              go_quiet ((go_at_call 59; exact Calls.quiet_of_same (rwithin_any _ _ _ _)))
              go_wp2_with fail
              go_ret
              exact ⟨ret_bool (by rw [HX.out, HY.out, Bool.and_false, Bool.false_and]), hbw.trans (below_draws _ _ _)⟩
          | true =>
            have HY := hide hx
            obtain ⟨hin, hgt⟩ := outOk_yes (by omega) hall hx
            by_cases hk0 : k = 0
            · subst hk0
              rw [Nat.add_zero] at hck
              clear hx hall hcell hc2 hr2 hgt hwk
              go_wp2_with fail
              go_quiet ((go_at_call 59; exact Calls.quiet_of_same (rwithin_any _ _ _ _)))
              go_wp2_with fail
              go_roundw
              case rel => exact ⟨1, by omega, rfl, allN_step HA.out HY.out, hbel.trans (below_draws _ _ _)⟩
              case measure => simp [intOf]; omega
            · obtain ⟨m, hmk⟩ : ∃ m, k = m + 1 := ⟨k - 1, by omega⟩
              have hcm := hcell m (by omega)
              rw [← bcell hbw _ _ hb] at hcm
              have hkp : (0 : Int) < (k : Int) := by omega
              have hk3 : 0 < k := by omega
              have hmi : (m : Int) < (L.outs.length : Int) := by omega
              have hwm : IntKind.i64.wrap ((k : Int) - 1) = (m : Int) := by rw [hwk]; omega
              have hle2 : decide (nth L.outs k ≤ nth L.outs m) = false := decide_eq_false (by rw [show m = k - 1 from by omega]; exact hgt (by omega))
              clear hx hall hcell hc2 hr2 hgt hwk hmk
              go_wp2_with fail
              go_quiet ((go_at_call 59; exact Calls.quiet_of_same (rwithin_any _ _ _ _)))
              go_wp2_with fail
              go_roundw
              case rel => exact ⟨k + 1, by omega, by go_num, allN_step HA.out HY.out, hbel.trans (below_draws _ _ _)⟩
              case measure => simp [intOf]; omega
        · have e : k = L.outs.length := by omega
          have HO : Hid (outsOk L.body.length L.outs = true) := by show outsOk L.body.length L.outs = true; unfold outsOk; rw [← e]; exact HA.out
          subst e
          clear HA hlt hc2 hr2 hall
          go_wp2_with fail
          clear hbox hbw
          have HX2 : Hid (mayB L = bodyOk L) := by show mayB L = bodyOk L; rw [HX.out, HL.out, HO.out]; rfl
          go_loopw [6] (fun i wr => ∃ k : Nat, k ≤ L.body.length ∧ i = .int .i64 k ∧ allN (fun k => stOk L.logs.length L.body.length k (stAt L.body k)) k = true ∧ Below (w.heap.size + 1) (w.alloc (.cells #[.slice a0 L.logs.length cap0, .slice a1 L.body.length cap1, .slice a2 L.outs.length cap2] 30)) wr) (fun i _ => L.body.length - (intOf i).toNat)
          case atStart => exact ⟨0, Nat.zero_le _, rfl, rfl, hbel⟩
          case round =>
            clear hbel
            obtain ⟨k, hk, rfl, hall, hbel⟩ := hrel
            have hcell : ∀ o, wr.cell? ⟨w.heap.size, o, none⟩ = (w.alloc (.cells #[.slice a0 L.logs.length cap0, .slice a1 L.body.length cap1, .slice a2 L.outs.length cap2] 30)).cell? ⟨w.heap.size, o, none⟩ := fun o => hbel.cell (p := ⟨w.heap.size, o, none⟩) (by simp)
            have hbw : Below w.heap.size w wr := (below_alloc1 _ _).trans (hbel.mono (by omega))
            have HA := hide hall
            clear hall
            by_cases hlt : k < L.body.length
            · have hks : (k : Int) < (L.body.length : Int) := by omega
              cases hx : stOk L.logs.length L.body.length k (stAt L.body k) with
              | true =>
                have HY := hide hx
                go_wp2_with (go_at_call 60; refine (rstmt_any _ L k _ (LoopV.below hL hbw) hlt).mono ?_; rintro e w1 ⟨rfl, hb1⟩)
                go_roundw
                case rel => exact ⟨k + 1, by omega, by go_num, allN_step HA.out HY.out, hbel.trans (hb1.mono (by have := hbel.size; simp at this; omega))⟩
                case measure => simp [intOf]; omega
              | false =>
                have HY : Hid (bodyOk L = false) := allN_false hlt hx
                go_wp2_with (go_at_call 60; refine (rstmt_any _ L k _ (LoopV.below hL hbw) hlt).mono ?_; rintro e w1 ⟨rfl, hb1⟩)
                go_ret
                exact ⟨ret_bool (by rw [HX2.out, HY.out]), hbw.trans (hb1.mono hbw.size)⟩
            · have e : k = L.body.length := by omega
              have HY : Hid (bodyOk L = true) := by show bodyOk L = true; unfold bodyOk; rw [← e]; rw [← e] at HA; exact HA.out
              clear HA e
              go_wp2_with fail
              go_ret
              exact ⟨ret_bool (by rw [HX2.out, HY.out]), hbw⟩
end Go.Proofs.Ytpljieenjkbmmaa
