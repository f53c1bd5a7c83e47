/- The contracts of the program's answers on machines; nothing that was there is changed. -/
import Derived.Test.YtjoapiafpahihabRef6A
namespace Go.Proofs.Ytjoapiafpahihab
open Go.RowKit Go.Joins
set_option linter.unusedVariables false

theorem twithin_any (n hi : Int) (w : World) :
    Calls Try.prog 83 #[.int .i64 n, .int .i64 hi] w fun e w' => e = .returned (.bool (inR n 1 hi)) ∧ w' = w := by
  by_cases h : 1 ≤ n ∧ n ≤ hi
  · rw [inR_yes h]
    obtain ⟨h1, h2⟩ := h
    go_enter Try.func83, Try.ntmps83
    go_wp2
    go_ret
    exact ⟨rfl, rfl⟩
  · rw [inR_no h]
    by_cases h1 : 1 ≤ n
    · have h2 : ¬ n ≤ hi := fun h2 => h ⟨h1, h2⟩
      clear h
      go_enter Try.func83, Try.ntmps83
      go_wp2
      go_ret
      exact ⟨rfl, rfl⟩
    · clear h
      go_enter Try.func83, Try.ntmps83
      go_wp2
      go_ret
      exact ⟨rfl, rfl⟩
/-- three numbers, each from 1 on -/
def threeOk (a b c hi : Int) : Bool := inR a 1 hi && inR b 1 hi && inR c 1 hi

set_option maxHeartbeats 400000 in
theorem allWithin_any (a b c hi : Int) (w : World) :
    Calls Try.prog 82 #[.agg #[.int .i64 a, .int .i64 b, .int .i64 c], .int .i64 hi] w fun e w' => e = .returned (.bool (threeOk a b c hi)) ∧ Below w.heap.size w w' := by
  have i0 : ∀ w : World, (Instr.index 26 (.agg #[.int .i64 a, .int .i64 b, .int .i64 c]) (.int .i64 0)).run Try.prog w = .ok (.int .i64 a) w := fun _ => by kernel_rfl
  have i1 : ∀ w : World, (Instr.index 26 (.agg #[.int .i64 a, .int .i64 b, .int .i64 c]) (.int .i64 1)).run Try.prog w = .ok (.int .i64 b) w := fun _ => by kernel_rfl
  have i2 : ∀ w : World, (Instr.index 26 (.agg #[.int .i64 a, .int .i64 b, .int .i64 c]) (.int .i64 2)).run Try.prog w = .ok (.int .i64 c) w := fun _ => by kernel_rfl
  go_enter Try.func82, Try.ntmps82
  go_wp2_with fail
  go_loopw [8] (fun i wr => wr = w.alloc (.cells #[.int .i64 a, .int .i64 b, .int .i64 c] 26) ∧ (i = .int .i64 0 ∨ (i = .int .i64 1 ∧ inR a 1 hi = true) ∨ (i = .int .i64 2 ∧ inR a 1 hi = true ∧ inR b 1 hi = true) ∨ (i = .int .i64 3 ∧ inR a 1 hi = true ∧ inR b 1 hi = true ∧ inR c 1 hi = true))) (fun i _ => 3 - (intOf i).toNat)
  case atStart => exact ⟨rfl, .inl rfl⟩
  case round =>
    obtain ⟨rfl, hrel⟩ := hrel
    rcases hrel with rfl | ⟨rfl, k0⟩ | ⟨rfl, k0, k1⟩ | ⟨rfl, k0, k1, k2⟩
    · cases hx : inR a 1 hi with
      | false =>
        have HX : Hid (threeOk a b c hi = false) := by show threeOk _ _ _ _ = false; unfold threeOk; rw [hx]; rfl
        have HC := hide (fun W => hx ▸ twithin_any a hi W)
        clear hx
        go_wp2_with fail
        refine (HC.out _).mono ?_
        rintro e x2 ⟨rfl, rfl⟩
        go_wp2_with fail
        go_ret
        exact ⟨ret_bool HX.out.symm, below_alloc1 _ _⟩
      | true =>
        have HX := hide hx
        have HC := hide (fun W => hx ▸ twithin_any a hi W)
        clear hx
        go_wp2_with fail
        refine (HC.out _).mono ?_
        rintro e x2 ⟨rfl, rfl⟩
        go_wp2_with fail
        go_roundw
        case rel => exact ⟨by simp, .inr (.inl ⟨rfl, trivial⟩)⟩
        case measure => simp [intOf]
    · have H0 := hide k0
      clear k0
      cases hx : inR b 1 hi with
      | false =>
        have HX : Hid (threeOk a b c hi = false) := by show threeOk _ _ _ _ = false; unfold threeOk; rw [H0.out, hx]; rfl
        have HC := hide (fun W => hx ▸ twithin_any b hi W)
        clear hx
        go_wp2_with fail
        refine (HC.out _).mono ?_
        rintro e x2 ⟨rfl, rfl⟩
        go_wp2_with fail
        go_ret
        exact ⟨ret_bool HX.out.symm, below_alloc1 _ _⟩
      | true =>
        have HX := hide hx
        have HC := hide (fun W => hx ▸ twithin_any b hi W)
        clear hx
        go_wp2_with fail
        refine (HC.out _).mono ?_
        rintro e x2 ⟨rfl, rfl⟩
        go_wp2_with fail
        go_roundw
        case rel => exact ⟨by simp, .inr (.inr (.inl ⟨rfl, H0.out, trivial⟩))⟩
        case measure => simp [intOf]
    · have H0 := hide k0
      have H1 := hide k1
      clear k0 k1
      cases hx : inR c 1 hi with
      | false =>
        have HX : Hid (threeOk a b c hi = false) := by show threeOk _ _ _ _ = false; unfold threeOk; rw [H0.out, H1.out, hx]; rfl
        have HC := hide (fun W => hx ▸ twithin_any c hi W)
        clear hx
        go_wp2_with fail
        refine (HC.out _).mono ?_
        rintro e x2 ⟨rfl, rfl⟩
        go_wp2_with fail
        go_ret
        exact ⟨ret_bool HX.out.symm, below_alloc1 _ _⟩
      | true =>
        have HX := hide hx
        have HC := hide (fun W => hx ▸ twithin_any c hi W)
        clear hx
        go_wp2_with fail
        refine (HC.out _).mono ?_
        rintro e x2 ⟨rfl, rfl⟩
        go_wp2_with fail
        go_roundw
        case rel => exact ⟨by simp, .inr (.inr (.inr ⟨rfl, H0.out, H1.out, trivial⟩))⟩
        case measure => simp [intOf]
    · have HX : Hid (threeOk a b c hi = true) := by show threeOk _ _ _ _ = _; unfold threeOk; rw [k0, k1, k2]; rfl
      clear k0 k1 k2
      go_wp2_with fail
      go_ret
      exact ⟨ret_bool HX.out.symm, below_alloc1 _ _⟩

theorem mayT_three (t : Tg) : mayT t = (threeOk t.u0 t.u1 t.u2 4 && threeOk t.w0 t.w1 t.w2 6 && inR t.r 1 128) := by
  unfold mayT unitOk threeOk
  cases inR t.u0 1 4 <;> cases inR t.u1 1 4 <;> cases inR t.u2 1 4 <;> cases inR t.w0 1 6 <;> cases inR t.w1 1 6 <;> cases inR t.w2 1 6 <;> rfl

set_option maxHeartbeats 400000 in
theorem pmay_seven (p0 p1 p2 q0 q1 q2 r : Int) (w : World) :
    Calls Try.prog 50 #[.agg #[.int .i64 p0, .int .i64 p1, .int .i64 p2, .int .i64 q0, .int .i64 q1, .int .i64 q2, .int .i64 r]] w fun e w' => e = .returned (.bool (mayT ⟨p0, p1, p2, q0, q1, q2, r⟩)) ∧ Below w.heap.size w w' := by
  have HA : Hid (mayT ⟨p0, p1, p2, q0, q1, q2, r⟩ = (threeOk p0 p1 p2 4 && threeOk q0 q1 q2 6 && inR r 1 128)) := mayT_three _
  cases hu : threeOk p0 p1 p2 4 with
  | false =>
    have HX : Hid (mayT ⟨p0, p1, p2, q0, q1, q2, r⟩ = false) := by show _ = false; rw [HA.out, hu]; rfl
    have HC := hide (fun W => hu ▸ allWithin_any p0 p1 p2 4 W)
    clear hu HA
    go_enter Try.func50, Try.ntmps50
    go_wp2_with fail
    refine (HC.out _).mono ?_
    rintro e x1 ⟨rfl, hb⟩
    have HB := hide ((below_alloc1 w _).trans (hb.mono (by simp)))
    clear hb HC
    go_wp2_with fail
    go_ret
    exact ⟨ret_bool HX.out.symm, HB.out⟩
  | true =>
    have HU := hide (fun W => hu ▸ allWithin_any p0 p1 p2 4 W)
    cases hw : threeOk q0 q1 q2 6 with
    | false =>
      have HX : Hid (mayT ⟨p0, p1, p2, q0, q1, q2, r⟩ = false) := by show _ = false; rw [HA.out, hu, hw]; rfl
      have HC := hide (fun W => hw ▸ allWithin_any q0 q1 q2 6 W)
      clear hu hw HA
      go_enter Try.func50, Try.ntmps50
      go_wp2_with fail
      refine (HU.out _).mono ?_
      rintro e x1 ⟨rfl, hb⟩
      have hc1 := bcell hb
      have HB := hide ((below_alloc1 w _).trans (hb.mono (by simp)))
      clear hb HU
      go_wp2_with fail
      refine (HC.out _).mono ?_
      rintro e x2 ⟨rfl, hb⟩
      have HB2 := hide (HB.out.trans (hb.mono HB.out.size))
      clear hb HB hc1 HC
      go_wp2_with fail
      go_ret
      exact ⟨ret_bool HX.out.symm, HB2.out⟩
    | true =>
      have HX : Hid (mayT ⟨p0, p1, p2, q0, q1, q2, r⟩ = inR r 1 128) := by show _ = _; rw [HA.out, hu, hw]; rfl
      have HC := hide (fun W => hw ▸ allWithin_any q0 q1 q2 6 W)
      clear hu hw HA
      go_enter Try.func50, Try.ntmps50
      go_wp2_with fail
      refine (HU.out _).mono ?_
      rintro e x1 ⟨rfl, hb⟩
      have hc1 := bcell hb
      have HB := hide ((below_alloc1 w _).trans (hb.mono (by simp)))
      have hz : w.heap.size < x1.heap.size := by have := hb.size; simp at this; omega
      clear hb HU
      go_wp2_with fail
      refine (HC.out _).mono ?_
      rintro e x2 ⟨rfl, hb⟩
      have HB2 := hide (HB.out.trans (hb.mono HB.out.size))
      have hx : x2.cell? ⟨w.heap.size, 6, none⟩ = some (.int .i64 r) := by rw [bcell hb _ _ hz, hc1 _ _ (by simp)]; go_simp
      clear hb HB hc1 HC hz
      go_wp2_with fail
      refine (twithin_any r 128 _).mono ?_
      rintro e x3 ⟨rfl, rfl⟩
      go_wp2_with fail
      go_ret
      exact ⟨ret_bool HX.out.symm, HB2.out⟩
set_option maxHeartbeats 400000 in
theorem pwait_seven (p0 p1 p2 q0 q1 q2 r op : Int) (w : World) :
    Calls Try.prog 62 #[.agg #[.int .i64 p0, .int .i64 p1, .int .i64 p2, .int .i64 q0, .int .i64 q1, .int .i64 q2, .int .i64 r], .int .i64 op] w fun e w' => e = .returned (.int .i64 (waitT ⟨p0, p1, p2, q0, q1, q2, r⟩ op)) ∧ Below w.heap.size w w' := by
  have hmay := pmay_seven p0 p1 p2 q0 q1 q2 r (w.alloc (.cells #[.int .i64 p0, .int .i64 p1, .int .i64 p2, .int .i64 q0, .int .i64 q1, .int .i64 q2, .int .i64 r] 28))
  cases hm : mayT ⟨p0, p1, p2, q0, q1, q2, r⟩ with
  | false =>
    have HX : Hid (waitT ⟨p0, p1, p2, q0, q1, q2, r⟩ op = 0) := by show waitT _ _ = 0; unfold waitT; rw [hm]; rfl
    rw [hm] at hmay
    have HM := hide hmay
    clear hmay hm
    go_enter Try.func62, Try.ntmps62
    go_wp2_with fail
    refine HM.out.mono ?_
    rintro e x1 ⟨rfl, hb⟩
    have HB := hide ((below_alloc1 w _).trans (hb.mono (by simp)))
    clear hb HM
    go_wp2_with fail
    go_ret
    exact ⟨ret_int HX.out.symm, HB.out⟩
  | true =>
    rw [hm] at hmay
    have HM := hide hmay
    have HX : Hid (waitT ⟨p0, p1, p2, q0, q1, q2, r⟩ op = waitsT ⟨p0, p1, p2, q0, q1, q2, r⟩ (clsv op)) := by show waitT _ _ = _; unfold waitT; rw [if_pos hm]
    have hcl := fun W => class_any op W
    clear hmay hm
    rcases cls_three op with hc | hc | hc
    · rw [hc] at hcl
      have HC := hide hcl
      have HY : Hid (waitT ⟨p0, p1, p2, q0, q1, q2, r⟩ op = q0) := by show _ = _; rw [HX.out, hc]; rfl
      clear hcl hc HX
      go_enter Try.func62, Try.ntmps62
      go_wp2_with fail
      refine HM.out.mono ?_
      rintro e x1 ⟨rfl, hb⟩
      have hx : x1.cell? ⟨w.heap.size, 3, none⟩ = some (.int .i64 q0) := by rw [bcell hb _ _ (by simp)]; go_simp
      have HB := hide ((below_alloc1 w _).trans (hb.mono (by simp)))
      clear hb HM
      go_wp2_with fail
      refine (HC.out _).mono ?_
      rintro e x2 ⟨rfl, rfl⟩
      go_wp2_with fail
      go_ret
      exact ⟨ret_int HY.out.symm, HB.out⟩
    · rw [hc] at hcl
      have HC := hide hcl
      have HY : Hid (waitT ⟨p0, p1, p2, q0, q1, q2, r⟩ op = q1) := by show _ = _; rw [HX.out, hc]; rfl
      clear hcl hc HX
      go_enter Try.func62, Try.ntmps62
      go_wp2_with fail
      refine HM.out.mono ?_
      rintro e x1 ⟨rfl, hb⟩
      have hx : x1.cell? ⟨w.heap.size, 4, none⟩ = some (.int .i64 q1) := by rw [bcell hb _ _ (by simp)]; go_simp
      have HB := hide ((below_alloc1 w _).trans (hb.mono (by simp)))
      clear hb HM
      go_wp2_with fail
      refine (HC.out _).mono ?_
      rintro e x2 ⟨rfl, rfl⟩
      go_wp2_with fail
      go_ret
      exact ⟨ret_int HY.out.symm, HB.out⟩
    · rw [hc] at hcl
      have HC := hide hcl
      have HY : Hid (waitT ⟨p0, p1, p2, q0, q1, q2, r⟩ op = q2) := by show _ = _; rw [HX.out, hc]; rfl
      clear hcl hc HX
      go_enter Try.func62, Try.ntmps62
      go_wp2_with fail
      refine HM.out.mono ?_
      rintro e x1 ⟨rfl, hb⟩
      have hx : x1.cell? ⟨w.heap.size, 5, none⟩ = some (.int .i64 q2) := by rw [bcell hb _ _ (by simp)]; go_simp
      have HB := hide ((below_alloc1 w _).trans (hb.mono (by simp)))
      clear hb HM
      go_wp2_with fail
      refine (HC.out _).mono ?_
      rintro e x2 ⟨rfl, rfl⟩
      go_wp2_with fail
      go_ret
      exact ⟨ret_int HY.out.symm, HB.out⟩
theorem pwait_any (t : Tg) (op : Int) (w : World) : Calls Try.prog 62 #[.agg t.cells, .int .i64 op] w fun e w' => e = .returned (.int .i64 (waitT t op)) ∧ Below w.heap.size w w' :=
  pwait_seven t.u0 t.u1 t.u2 t.w0 t.w1 t.w2 t.r op w
end Go.Proofs.Ytjoapiafpahihab
