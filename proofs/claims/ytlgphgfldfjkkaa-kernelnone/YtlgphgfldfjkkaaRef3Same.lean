/- Contracts of the document's own comparison of results: it returns whether the numbers are one; the world is as it was but for draws. -/
import Derived.Test.YtlgphgfldfjkkaaLoopState
import Derived.Deep.QuietTactic
import Derived.BigQuiet
namespace Go.Proofs.Ytlgphgfldfjkkaa
open Go.RowKit Go.Joins
set_option linter.unusedVariables false

theorem nth_ext {a b : List Int} (hl : a.length = b.length) (h : ∀ j, j < a.length → nth a j = nth b j) : a = b := by
  refine List.ext_getElem hl fun i h1 h2 => ?_
  have := h i h1
  simpa [nth, List.getD, h1, h2] using this
theorem row_ext {a b : List (List Int)} (hl : a.length = b.length) (h : ∀ j, j < a.length → rowAt a j = rowAt b j) : a = b := by
  refine List.ext_getElem hl fun i h1 h2 => ?_
  have := h i h1
  simpa [rowAt, List.getD, h1, h2] using this

theorem draws_on {w wr : World} {m : Nat} (h : ∃ n, wr = w.drewN n) : ∃ n, wr.drewN m = w.drewN n := by
  obtain ⟨n, rfl⟩ := h
  exact ⟨_, World.drewN_drewN _ _ _⟩

set_option maxHeartbeats 400000 in
theorem numbers_any (va vb : Value) (za zb : List Int) (w : World) (ha : Ints w va za) (hb : Ints w vb zb) :
    Calls Try.prog 37 #[va, vb] w fun e w' => e = .returned (.bool (decide (za = zb))) ∧ ∃ n, w' = w.drewN n := by
  obtain ⟨aa, ac, rfl, al, am, ar, acell⟩ := ha
  obtain ⟨ba, bc, rfl, bl, bm, br, bcell⟩ := hb
  unfold maxLen at am bm
  by_cases hl : za.length = zb.length
  · have h1 : ((za.length : Int) != (zb.length : Int)) = false := by simp; omega
    have HL := hide hl
    clear hl
    go_enter Try.func37, Try.ntmps37
    go_wp2_with fail
    go_loopw [5] (fun i wr => ∃ k n : Nat, k ≤ za.length ∧ i = .int .i64 k ∧ wr = w.drewN n ∧ ∀ j, j < k → nth za j = nth zb j) (fun i _ => za.length - (intOf i).toNat)
    case atStart => exact ⟨0, 0, Nat.zero_le _, rfl, rfl, fun j hj => absurd hj (Nat.not_lt_zero _)⟩
    case round =>
      obtain ⟨k, n, hk, rfl, rfl, hall⟩ := hrel
      have HA := hide hall
      clear hall
      by_cases hlt : k < za.length
      · have hltb : k < zb.length := by have := HL.out; omega
        obtain ⟨b1, o1, rfl, hb1, hc1⟩ := acell (by omega)
        obtain ⟨b2, o2, rfl, hb2, hc2⟩ := bcell (by omega)
        have c1 := hc1 k hlt
        have c2 := hc2 k hltb
        have i1 : (k : Int) < (za.length : Int) := by omega
        have i2 : (k : Int) < (zb.length : Int) := by omega
        clear hc1 hc2 acell bcell ar br
        by_cases hx : nth za k = nth zb k
        · have HX := hide hx
          have hne : (nth za k != nth zb k) = false := by simpa using hx
          clear hx
          go_wp2_with fail
          go_quiet ((fail))
          go_wp2_with fail
          go_roundw
          case rel => exact ⟨k + 1, _, by omega, by go_num, rfl, fun j hj => by
            by_cases e : j = k
            · rw [e]; exact HX.out
            · exact HA.out j (by omega)⟩
          case measure => simp [intOf]; omega
        · have HX : Hid (decide (za = zb) = false) := decide_eq_false (fun e => hx (by rw [e]))
          have hne : (nth za k != nth zb k) = true := by simpa using hx
          clear hx
          go_wp2_with fail
          go_quiet ((fail))
          go_wp2_with fail
          go_ret
          exact ⟨ret_bool HX.out.symm, _, World.drewN_drewN _ _ _⟩
      · have HX : Hid (decide (za = zb) = true) := decide_eq_true (nth_ext HL.out (fun j hj => HA.out j (by omega)))
        clear HA acell bcell ar br
        go_wp2_with fail
        go_ret
        exact ⟨ret_bool HX.out.symm, _, rfl⟩
  · have h1 : ((za.length : Int) != (zb.length : Int)) = true := by simp; omega
    have HX : Hid (decide (za = zb) = false) := decide_eq_false (fun e => hl (by rw [e]))
    clear hl acell bcell ar br
    go_enter Try.func37, Try.ntmps37
    go_wp2_with fail
    go_ret
    exact ⟨ret_bool HX.out.symm, 0, rfl⟩

set_option maxHeartbeats 400000 in
theorem words_any (va vb : Value) (ra rb : List (List Int)) (w : World) (ha : IntRows w va ra) (hb : IntRows w vb rb) :
    Calls Try.prog 25 #[va, vb] w fun e w' => e = .returned (.bool (decide (ra = rb))) ∧ ∃ n, w' = w.drewN n := by
  obtain ⟨aa, ac, rfl, al, am, acell⟩ := ha
  obtain ⟨ba, bc, rfl, bl, bm, bcell⟩ := hb
  unfold maxLen at am bm
  by_cases hl : ra.length = rb.length
  · have h1 : ((ra.length : Int) != (rb.length : Int)) = false := by simp; omega
    have HL := hide hl
    clear hl
    go_enter Try.func25, Try.ntmps25
    go_wp2_with fail
    go_loopw [5] (fun i wr => ∃ k : Nat, k ≤ ra.length ∧ i = .int .i64 k ∧ (∃ n, wr = w.drewN n) ∧ ∀ j, j < k → rowAt ra j = rowAt rb j) (fun i _ => ra.length - (intOf i).toNat)
    case atStart => exact ⟨0, Nat.zero_le _, rfl, ⟨0, rfl⟩, fun j hj => absurd hj (Nat.not_lt_zero _)⟩
    case round =>
      obtain ⟨k, hk, rfl, hw, hall⟩ := hrel
      have HA := hide hall
      have HW := hide hw
      clear hall hw
      by_cases hlt : k < ra.length
      · have hltb : k < rb.length := by have := HL.out; omega
        obtain ⟨b1, o1, rfl, hb1, hc1⟩ := acell (by omega)
        obtain ⟨b2, o2, rfl, hb2, hc2⟩ := bcell (by omega)
        obtain ⟨u1, c1, g1⟩ := hc1 k hlt
        obtain ⟨u2, c2, g2⟩ := hc2 k hltb
        have i1 : (k : Int) < (ra.length : Int) := by omega
        have i2 : (k : Int) < (rb.length : Int) := by omega
        have c1' : wr.cell? ⟨b1, o1 + k, none⟩ = some u1 := by obtain ⟨n, rfl⟩ := HW.out; exact c1
        have c2' : wr.cell? ⟨b2, o2 + k, none⟩ = some u2 := by obtain ⟨n, rfl⟩ := HW.out; exact c2
        have g1' : Ints wr u1 (rowAt ra k) := by obtain ⟨n, rfl⟩ := HW.out; exact g1
        have g2' : Ints wr u2 (rowAt rb k) := by obtain ⟨n, rfl⟩ := HW.out; exact g2
        clear c1 c2
        obtain ⟨x1, y1, rfl, -, -, -, -⟩ := id g1
        obtain ⟨x2, y2, rfl, -, -, -, -⟩ := id g2
        clear hc1 hc2 acell bcell g1 g2
        by_cases hx : rowAt ra k = rowAt rb k
        · have HX := hide hx
          have hne : decide (rowAt ra k = rowAt rb k) = true := decide_eq_true hx
          clear hx
          go_wp2_with fail
          go_quiet ((go_at_call 37; exact Calls.quiet_of (numbers_any _ _ (rowAt ra k) (rowAt rb k) _ (by exact g1') (by exact g2'))))
          go_wp2_with fail
          go_roundw
          case rel => exact ⟨k + 1, by omega, by go_num, draws_on HW.out, fun j hj => by
            by_cases e : j = k
            · rw [e]; exact HX.out
            · exact HA.out j (by omega)⟩
          case measure => simp [intOf]; omega
        · have HX : Hid (decide (ra = rb) = false) := decide_eq_false (fun e => hx (by rw [e]))
          have hne : decide (rowAt ra k = rowAt rb k) = false := decide_eq_false hx
          clear hx
          go_wp2_with fail
          go_quiet ((go_at_call 37; exact Calls.quiet_of (numbers_any _ _ (rowAt ra k) (rowAt rb k) _ (by exact g1') (by exact g2'))))
          go_wp2_with fail
          go_ret
          exact ⟨ret_bool HX.out.symm, draws_on HW.out⟩
      · have HX : Hid (decide (ra = rb) = true) := decide_eq_true (row_ext HL.out (fun j hj => HA.out j (by omega)))
        clear HA acell bcell
        go_wp2_with fail
        go_ret
        exact ⟨ret_bool HX.out.symm, HW.out⟩
  · have h1 : ((ra.length : Int) != (rb.length : Int)) = true := by simp; omega
    have HX : Hid (decide (ra = rb) = false) := decide_eq_false (fun e => hl (by rw [e]))
    clear hl acell bcell
    go_enter Try.func25, Try.ntmps25
    go_wp2_with fail
    go_ret
    exact ⟨ret_bool HX.out.symm, 0, rfl⟩

set_option maxHeartbeats 400000 in
theorem same_any (oa ma ob mb : Value) (xa xb : List Int) (ra rb : List (List Int)) (w : World) (h1 : Ints w oa xa) (h2 : IntRows w ma ra) (h3 : Ints w ob xb) (h4 : IntRows w mb rb) :
    Calls Try.prog 23 #[.agg #[oa, ma], .agg #[ob, mb]] w fun e w' => e = .returned (.bool (decide (xa = xb ∧ ra = rb))) ∧ Below w.heap.size w w' := by
  have hb := below_alloc2 w (.cells #[oa, ma] 38) (.cells #[ob, mb] 38)
  by_cases hx : xa = xb
  · have hd : decide (xa = xb) = true := decide_eq_true hx
    have HX : Hid (decide (xa = xb ∧ ra = rb) = decide (ra = rb)) := by show decide (xa = xb ∧ ra = rb) = decide (ra = rb); simp [hx]
    clear hx
    go_enter Try.func23, Try.ntmps23
    go_wp2_with (first
      | (go_at_call 37; refine (numbers_any _ _ xa xb _ (h1.below hb) (h3.below hb)).mono ?_; rintro e w' ⟨rfl, n, rfl⟩)
      | (go_at_call 25; refine (words_any _ _ ra rb _ (h2.below (hb.trans (below_draws _ _ _))) (h4.below (hb.trans (below_draws _ _ _)))).mono ?_; rintro e w' ⟨rfl, m, rfl⟩))
    go_ret
    exact ⟨ret_bool HX.out.symm, hb.trans (below_draws _ _ _)⟩
  · have hd : decide (xa = xb) = false := decide_eq_false hx
    have HX : Hid (decide (xa = xb ∧ ra = rb) = false) := decide_eq_false (fun h => hx h.1)
    clear hx
    go_enter Try.func23, Try.ntmps23
    go_wp2_with (go_at_call 37; refine (numbers_any _ _ xa xb _ (h1.below hb) (h3.below hb)).mono ?_; rintro e w' ⟨rfl, n, rfl⟩)
    go_ret
    exact ⟨ret_bool HX.out.symm, hb.trans (below_draws _ _ _)⟩
end Go.Proofs.Ytlgphgfldfjkkaa
