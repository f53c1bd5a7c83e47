/- The contracts of the document's own answers on machines; nothing that was there is changed. -/
import Derived.Test.YtpljieenjkbmmaaTargetMath
import Derived.Test.YtpljieenjkbmmaaLoopStmt
namespace Go.Proofs.Ytpljieenjkbmmaa
open Go.RowKit Go.Joins
set_option linter.unusedVariables false

def Tg.cells (t : Tg) : Array Value := #[.int .i64 t.u0, .int .i64 t.u1, .int .i64 t.u2, .int .i64 t.w0, .int .i64 t.w1, .int .i64 t.w2, .int .i64 t.r]

set_option maxHeartbeats 1000000 in
theorem tmay_seven (p0 p1 p2 q0 q1 q2 r : Int) (w : World) :
    Calls Try.prog 32 #[.agg #[.int .i64 p0, .int .i64 p1, .int .i64 p2, .int .i64 q0, .int .i64 q1, .int .i64 q2, .int .i64 r]] w fun e w' => e = .returned (.bool (mayT ⟨p0, p1, p2, q0, q1, q2, r⟩)) ∧ Below w.heap.size w w' := by
  go_enter Try.func32, Try.ntmps32
  go_wp2_with fail
  go_loopw [3] (fun i wr => wr = w.alloc (.cells #[.int .i64 p0, .int .i64 p1, .int .i64 p2, .int .i64 q0, .int .i64 q1, .int .i64 q2, .int .i64 r] 49) ∧ (i = .int .i64 0 ∨ (i = .int .i64 1 ∧ unitOk p0 q0 = true) ∨ (i = .int .i64 2 ∧ unitOk p0 q0 = true ∧ unitOk p1 q1 = true) ∨ (i = .int .i64 3 ∧ unitOk p0 q0 = true ∧ unitOk p1 q1 = true ∧ unitOk p2 q2 = true))) (fun i _ => 3 - (intOf i).toNat)
  case atStart => exact ⟨rfl, .inl rfl⟩
  case round =>
    obtain ⟨rfl, hrel⟩ := hrel
    rcases hrel with rfl | ⟨rfl, k0⟩ | ⟨rfl, k0, k1⟩ | ⟨rfl, k0, k1, k2⟩
    · by_cases ha : p0 < 1
      · have HX : Hid (mayT ⟨p0, p1, p2, q0, q1, q2, r⟩ = false) := by show mayT _ = false; unfold mayT; dsimp only; rw [ unit_no (u := p0) (w := q0) (by omega)]; simp
        go_wp2_with fail
        go_ret
        exact ⟨ret_bool HX.out.symm, below_alloc1 _ _⟩
      · by_cases hb : 4 < p0
        · have HX : Hid (mayT ⟨p0, p1, p2, q0, q1, q2, r⟩ = false) := by show mayT _ = false; unfold mayT; dsimp only; rw [ unit_no (u := p0) (w := q0) (by omega)]; simp
          go_wp2_with fail
          go_ret
          exact ⟨ret_bool HX.out.symm, below_alloc1 _ _⟩
        · by_cases hc : q0 < 1
          · have HX : Hid (mayT ⟨p0, p1, p2, q0, q1, q2, r⟩ = false) := by show mayT _ = false; unfold mayT; dsimp only; rw [ unit_no (u := p0) (w := q0) (by omega)]; simp
            go_wp2_with fail
            go_ret
            exact ⟨ret_bool HX.out.symm, below_alloc1 _ _⟩
          · by_cases hd : 6 < q0
            · have HX : Hid (mayT ⟨p0, p1, p2, q0, q1, q2, r⟩ = false) := by show mayT _ = false; unfold mayT; dsimp only; rw [ unit_no (u := p0) (w := q0) (by omega)]; simp
              go_wp2_with fail
              go_ret
              exact ⟨ret_bool HX.out.symm, below_alloc1 _ _⟩
            · have HY : Hid (unitOk p0 q0 = true) := unit_yes ha hb hc hd
              go_wp2_with fail
              go_roundw
              case rel => exact ⟨by simp, .inr (.inl ⟨rfl, HY.out⟩)⟩
              case measure => simp [intOf]
    · have H0 := hide k0
      clear k0
      by_cases ha : p1 < 1
      · have HX : Hid (mayT ⟨p0, p1, p2, q0, q1, q2, r⟩ = false) := by show mayT _ = false; unfold mayT; dsimp only; rw [H0.out, unit_no (u := p1) (w := q1) (by omega)]; simp
        go_wp2_with fail
        go_ret
        exact ⟨ret_bool HX.out.symm, below_alloc1 _ _⟩
      · by_cases hb : 4 < p1
        · have HX : Hid (mayT ⟨p0, p1, p2, q0, q1, q2, r⟩ = false) := by show mayT _ = false; unfold mayT; dsimp only; rw [H0.out, unit_no (u := p1) (w := q1) (by omega)]; simp
          go_wp2_with fail
          go_ret
          exact ⟨ret_bool HX.out.symm, below_alloc1 _ _⟩
        · by_cases hc : q1 < 1
          · have HX : Hid (mayT ⟨p0, p1, p2, q0, q1, q2, r⟩ = false) := by show mayT _ = false; unfold mayT; dsimp only; rw [H0.out, unit_no (u := p1) (w := q1) (by omega)]; simp
            go_wp2_with fail
            go_ret
            exact ⟨ret_bool HX.out.symm, below_alloc1 _ _⟩
          · by_cases hd : 6 < q1
            · have HX : Hid (mayT ⟨p0, p1, p2, q0, q1, q2, r⟩ = false) := by show mayT _ = false; unfold mayT; dsimp only; rw [H0.out, unit_no (u := p1) (w := q1) (by omega)]; simp
              go_wp2_with fail
              go_ret
              exact ⟨ret_bool HX.out.symm, below_alloc1 _ _⟩
            · have HY : Hid (unitOk p1 q1 = true) := unit_yes ha hb hc hd
              go_wp2_with fail
              go_roundw
              case rel => exact ⟨by simp, .inr (.inr (.inl ⟨rfl, H0.out, HY.out⟩))⟩
              case measure => simp [intOf]
    · have H0 := hide k0
      have H1 := hide k1
      clear k0 k1
      by_cases ha : p2 < 1
      · have HX : Hid (mayT ⟨p0, p1, p2, q0, q1, q2, r⟩ = false) := by show mayT _ = false; unfold mayT; dsimp only; rw [H0.out, H1.out, unit_no (u := p2) (w := q2) (by omega)]; simp
        go_wp2_with fail
        go_ret
        exact ⟨ret_bool HX.out.symm, below_alloc1 _ _⟩
      · by_cases hb : 4 < p2
        · have HX : Hid (mayT ⟨p0, p1, p2, q0, q1, q2, r⟩ = false) := by show mayT _ = false; unfold mayT; dsimp only; rw [H0.out, H1.out, unit_no (u := p2) (w := q2) (by omega)]; simp
          go_wp2_with fail
          go_ret
          exact ⟨ret_bool HX.out.symm, below_alloc1 _ _⟩
        · by_cases hc : q2 < 1
          · have HX : Hid (mayT ⟨p0, p1, p2, q0, q1, q2, r⟩ = false) := by show mayT _ = false; unfold mayT; dsimp only; rw [H0.out, H1.out, unit_no (u := p2) (w := q2) (by omega)]; simp
            go_wp2_with fail
            go_ret
            exact ⟨ret_bool HX.out.symm, below_alloc1 _ _⟩
          · by_cases hd : 6 < q2
            · have HX : Hid (mayT ⟨p0, p1, p2, q0, q1, q2, r⟩ = false) := by show mayT _ = false; unfold mayT; dsimp only; rw [H0.out, H1.out, unit_no (u := p2) (w := q2) (by omega)]; simp
              go_wp2_with fail
              go_ret
              exact ⟨ret_bool HX.out.symm, below_alloc1 _ _⟩
            · have HY : Hid (unitOk p2 q2 = true) := unit_yes ha hb hc hd
              go_wp2_with fail
              go_roundw
              case rel => exact ⟨by simp, .inr (.inr (.inr ⟨rfl, H0.out, H1.out, HY.out⟩))⟩
              case measure => simp [intOf]
    · have HX : Hid (mayT ⟨p0, p1, p2, q0, q1, q2, r⟩ = inR r 1 128) := by show mayT _ = _; unfold mayT; dsimp only; rw [k0, k1, k2]; simp
      clear k0 k1 k2
      by_cases h0 : 0 < r
      · have HY : Hid (inR r 1 128 = decide (r ≤ 128)) := by show _ = _; unfold inR; rw [decide_eq_decide]; omega
        go_wp2_with fail
        go_ret
        exact ⟨ret_bool (by rw [HX.out, HY.out]), below_alloc1 _ _⟩
      · have HY : Hid (inR r 1 128 = false) := inR_no (by omega)
        go_wp2_with fail
        go_ret
        exact ⟨ret_bool (by rw [HX.out, HY.out]), below_alloc1 _ _⟩
theorem tmay_any (t : Tg) (w : World) : Calls Try.prog 32 #[.agg t.cells] w fun e w' => e = .returned (.bool (mayT t)) ∧ Below w.heap.size w w' :=
  tmay_seven t.u0 t.u1 t.u2 t.w0 t.w1 t.w2 t.r w

set_option maxHeartbeats 400000 in
theorem twait_seven (p0 p1 p2 q0 q1 q2 r op : Int) (w : World) :
    Calls Try.prog 33 #[.agg #[.int .i64 p0, .int .i64 p1, .int .i64 p2, .int .i64 q0, .int .i64 q1, .int .i64 q2, .int .i64 r], .int .i64 op] w fun e w' => e = .returned (.int .i64 (waitT ⟨p0, p1, p2, q0, q1, q2, r⟩ op)) ∧ Below w.heap.size w w' := by
  have hmay := tmay_seven p0 p1 p2 q0 q1 q2 r (w.alloc (.cells #[.int .i64 p0, .int .i64 p1, .int .i64 p2, .int .i64 q0, .int .i64 q1, .int .i64 q2, .int .i64 r] 49))
  cases hm : mayT ⟨p0, p1, p2, q0, q1, q2, r⟩ with
  | false =>
    have HX : Hid (waitT ⟨p0, p1, p2, q0, q1, q2, r⟩ op = 0) := by show waitT _ _ = 0; unfold waitT; rw [hm]; rfl
    rw [hm] at hmay
    have HM := hide hmay
    clear hmay hm
    go_enter Try.func33, Try.ntmps33
    go_wp2_with fail
    refine HM.out.mono ?_
    rintro e x1 ⟨rfl, hb⟩
    have HB := hide ((below_alloc1 w _).trans (hb.mono (by simp)))
    clear hb HM
    go_wp2_with fail
    go_ret
    exact ⟨ret_int HX.out.symm, HB.out⟩
  | true =>
    rw [hm] at hmay
    have HM := hide hmay
    have HX : Hid (waitT ⟨p0, p1, p2, q0, q1, q2, r⟩ op = waitsT ⟨p0, p1, p2, q0, q1, q2, r⟩ (clsv op)) := by show waitT _ _ = _; unfold waitT; rw [if_pos hm]
    have hcl := fun W => refClass_any op W
    clear hmay hm
    rcases cls_three op with hc | hc | hc
    · rw [hc] at hcl
      have HC := hide hcl
      have HY : Hid (waitT ⟨p0, p1, p2, q0, q1, q2, r⟩ op = q0) := by show _ = _; rw [HX.out, hc]; rfl
      clear hcl hc HX
      go_enter Try.func33, Try.ntmps33
      go_wp2_with fail
      refine HM.out.mono ?_
      rintro e x1 ⟨rfl, hb⟩
      have hx : x1.cell? ⟨w.heap.size, 3, none⟩ = some (.int .i64 q0) := by rw [bcell hb _ _ (by simp)]; go_simp
      have HB := hide ((below_alloc1 w _).trans (hb.mono (by simp)))
      clear hb HM
      go_wp2_with fail
      refine (HC.out _).mono ?_
      rintro e x2 ⟨rfl, rfl⟩
      go_wp2_with fail
      go_ret
      exact ⟨ret_int HY.out.symm, HB.out⟩
    · rw [hc] at hcl
      have HC := hide hcl
      have HY : Hid (waitT ⟨p0, p1, p2, q0, q1, q2, r⟩ op = q1) := by show _ = _; rw [HX.out, hc]; rfl
      clear hcl hc HX
      go_enter Try.func33, Try.ntmps33
      go_wp2_with fail
      refine HM.out.mono ?_
      rintro e x1 ⟨rfl, hb⟩
      have hx : x1.cell? ⟨w.heap.size, 4, none⟩ = some (.int .i64 q1) := by rw [bcell hb _ _ (by simp)]; go_simp
      have HB := hide ((below_alloc1 w _).trans (hb.mono (by simp)))
      clear hb HM
      go_wp2_with fail
      refine (HC.out _).mono ?_
      rintro e x2 ⟨rfl, rfl⟩
      go_wp2_with fail
      go_ret
      exact ⟨ret_int HY.out.symm, HB.out⟩
    · rw [hc] at hcl
      have HC := hide hcl
      have HY : Hid (waitT ⟨p0, p1, p2, q0, q1, q2, r⟩ op = q2) := by show _ = _; rw [HX.out, hc]; rfl
      clear hcl hc HX
      go_enter Try.func33, Try.ntmps33
      go_wp2_with fail
      refine HM.out.mono ?_
      rintro e x1 ⟨rfl, hb⟩
      have hx : x1.cell? ⟨w.heap.size, 5, none⟩ = some (.int .i64 q2) := by rw [bcell hb _ _ (by simp)]; go_simp
      have HB := hide ((below_alloc1 w _).trans (hb.mono (by simp)))
      clear hb HM
      go_wp2_with fail
      refine (HC.out _).mono ?_
      rintro e x2 ⟨rfl, rfl⟩
      go_wp2_with fail
      go_ret
      exact ⟨ret_int HY.out.symm, HB.out⟩
theorem twait_any (t : Tg) (op : Int) (w : World) : Calls Try.prog 33 #[.agg t.cells, .int .i64 op] w fun e w' => e = .returned (.int .i64 (waitT t op)) ∧ Below w.heap.size w w' :=
  twait_seven t.u0 t.u1 t.u2 t.w0 t.w1 t.w2 t.r op w
end Go.Proofs.Ytpljieenjkbmmaa
