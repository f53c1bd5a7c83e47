/- Ref6A: texts that are built as one: Ref6Uses, Ref6Meets, Ref4. -/
import Derived.Test.YtbpaffkkphacdabGreatMaths
import Derived.Test.YtbpaffkkphacdabGreatRef2Stmt
import Derived.Test.YtbpaffkkphacdabGreatLoopStmt
import Derived.Test.YtbpaffkkphacdabGreatNums
/- Contracts of the document's own answer on what a statement looks at, as a list; nothing that was there is changed. -/
namespace Go.Proofs.YtbpaffkkphacdabGreat
open Go.RowKit Go.Joins
set_option linter.unusedVariables false

/-- v is a slice of the Refs l -/
def RefsV (w : World) (v : Value) (l : List (Int × Int)) : Prop :=
  ∃ a cap, v = .slice a l.length cap ∧ l.length ≤ cap ∧ cap ≤ maxLen ∧
    (0 < l.length → ∃ blk off, a = some ⟨blk, off, none⟩ ∧ blk < w.heap.size ∧ ∀ i, i < l.length → w.cell? ⟨blk, off + i * 2, none⟩ = some (.int .i64 (refAt l i).1) ∧ w.cell? ⟨blk, off + i * 2 + 1, none⟩ = some (.int .i64 (refAt l i).2))
theorem RefsV.below {w w' : World} {v : Value} {l : List (Int × Int)} (h : RefsV w v l) (hb : Below w.heap.size w w') : RefsV w' v l := by
  obtain ⟨a, cap, e, h1, h2, h4⟩ := h
  refine ⟨a, cap, e, h1, h2, fun hp => ?_⟩
  obtain ⟨b, off, e2, h5, h6⟩ := h4 hp
  exact ⟨b, off, e2, Nat.lt_of_lt_of_le h5 hb.size, fun i hi => by rw [bcell hb _ _ h5, bcell hb _ _ h5]; exact h6 i hi⟩
theorem uses_any (s : St) (w : World) : Calls Tryz.prog 78 #[.agg (stCells s)] w fun e w' => ∃ v, e = .returned v ∧ RefsV w' v (usesL s) ∧ Below w.heap.size w w' := by
  obtain ⟨o, xa, xb, ya, yb, ar, sp, pl, nn⟩ := s
  by_cases h4 : o = 4
  · subst h4
    refine (uses_4 xa xb ya yb ar sp pl nn w).mono fun e w' ⟨h1, h2⟩ => ⟨_, h1, ?_, by rw [h2]; exact below_alloc2 _ _ _⟩
    have e : usesL ⟨4, xa, xb, ya, yb, ar, sp, pl, nn⟩ = [(xa, xb)] := rfl
    rw [e, h2]
    refine ⟨_, _, rfl, Nat.le_refl _, by unfold maxLen; omega, fun _ => ⟨w.heap.size + 1, 0, rfl, by simp, fun i hi => ?_⟩⟩
    have hi0 : i = 0 := by have : i < 1 := hi; omega
    subst hi0
    exact ⟨by go_simp; rfl, by go_simp; rfl⟩
  · by_cases h10 : 10 < o
    · refine (uses_op o xa xb ya yb ar sp pl nn w (by simpa using h4) h10).mono fun e w' ⟨h1, h2⟩ => ⟨_, h1, ?_, by rw [h2]; exact below_alloc2 _ _ _⟩
      have e : usesL ⟨o, xa, xb, ya, yb, ar, sp, pl, nn⟩ = [(xa, xb), (ya, yb)] := by unfold usesL; rw [if_neg h4, if_pos h10]
      rw [e, h2]
      refine ⟨_, _, rfl, Nat.le_refl _, by unfold maxLen; omega, fun _ => ⟨w.heap.size + 1, 0, rfl, by simp, fun i hi => ?_⟩⟩
      have hi0 : i = 0 ∨ i = 1 := by have : i < 2 := hi; omega
      rcases hi0 with rfl | rfl
      · exact ⟨by go_simp; rfl, by go_simp; rfl⟩
      · exact ⟨by go_simp; rfl, by go_simp; rfl⟩
    · refine (uses_0 o xa xb ya yb ar sp pl nn w (by simpa using h4) h10).mono fun e w' ⟨h1, h2⟩ => ⟨_, h1, ?_, by rw [h2]; exact below_alloc1 _ _⟩
      have e : usesL ⟨o, xa, xb, ya, yb, ar, sp, pl, nn⟩ = [] := by unfold usesL; rw [if_neg h4, if_neg h10]
      rw [e]
      exact ⟨none, 0, rfl, Nat.le_refl _, Nat.zero_le _, fun hp => absurd hp (Nat.lt_irrefl _)⟩
end Go.Proofs.YtbpaffkkphacdabGreat
/- Contracts of the document's own answers on words that meet; nothing that was there is changed. -/
namespace Go.Proofs.YtbpaffkkphacdabGreat
open Go.RowKit Go.Joins
set_option linter.unusedVariables false

theorem wrap_in (x : Int) (h0 : -9223372036854775808 ≤ x) (h1 : x ≤ 9223372036854775807) : IntKind.i64.wrap x = x := by rw [IntKind.wrap_i64]; omega
theorem three_ways (o : Int) : (o = 3 ∧ (o == 3) = true ∧ (o == 4) = false) ∨ (o = 4 ∧ (o == 3) = false ∧ (o == 4) = true) ∨ (¬ o = 3 ∧ ¬ o = 4 ∧ (o == 3) = false ∧ (o == 4) = false) := by
  by_cases h3 : o = 3
  · subst h3; exact .inl ⟨rfl, rfl, rfl⟩
  · by_cases h4 : o = 4
    · subst h4; exact .inr (.inl ⟨rfl, rfl, rfl⟩)
    · exact .inr (.inr ⟨h3, h4, by simpa using h3, by simpa using h4⟩)
end Go.Proofs.YtbpaffkkphacdabGreat
/- The contracts of the document's own answers on machines; nothing that was there is changed. -/
namespace Go.Proofs.YtbpaffkkphacdabGreat
open Go.RowKit Go.Joins
set_option linter.unusedVariables false

def Tg.cells (t : Tg) : Array Value := #[.int .i64 t.u0, .int .i64 t.u1, .int .i64 t.u2, .int .i64 t.w0, .int .i64 t.w1, .int .i64 t.w2, .int .i64 t.r]

set_option maxHeartbeats 1000000 in
theorem tmay_seven (p0 p1 p2 q0 q1 q2 r : Int) (w : World) :
    Calls Tryz.prog 46 #[.agg #[.int .i64 p0, .int .i64 p1, .int .i64 p2, .int .i64 q0, .int .i64 q1, .int .i64 q2, .int .i64 r]] w fun e w' => e = .returned (.bool (mayT ⟨p0, p1, p2, q0, q1, q2, r⟩)) ∧ Below w.heap.size w w' := by
  go_enter Tryz.func46, Tryz.ntmps46
  go_wp2_with fail
  go_loopw [3] (fun i wr => wr = w.alloc (.cells #[.int .i64 p0, .int .i64 p1, .int .i64 p2, .int .i64 q0, .int .i64 q1, .int .i64 q2, .int .i64 r] 28) ∧ (i = .int .i64 0 ∨ (i = .int .i64 1 ∧ unitOk p0 q0 = true) ∨ (i = .int .i64 2 ∧ unitOk p0 q0 = true ∧ unitOk p1 q1 = true) ∨ (i = .int .i64 3 ∧ unitOk p0 q0 = true ∧ unitOk p1 q1 = true ∧ unitOk p2 q2 = true))) (fun i _ => 3 - (intOf i).toNat)
  case atStart => exact ⟨rfl, .inl rfl⟩
  case round =>
    obtain ⟨rfl, hrel⟩ := hrel
    rcases hrel with rfl | ⟨rfl, k0⟩ | ⟨rfl, k0, k1⟩ | ⟨rfl, k0, k1, k2⟩
    · by_cases ha : p0 < 1
      · have HX : Hid (mayT ⟨p0, p1, p2, q0, q1, q2, r⟩ = false) := by show mayT _ = false; unfold mayT; dsimp only; rw [ unit_no (u := p0) (w := q0) (by omega)]; simp
        go_wp2_with fail
        go_ret
        exact ⟨ret_bool HX.out.symm, below_alloc1 _ _⟩
      · by_cases hb : 4 < p0
        · have HX : Hid (mayT ⟨p0, p1, p2, q0, q1, q2, r⟩ = false) := by show mayT _ = false; unfold mayT; dsimp only; rw [ unit_no (u := p0) (w := q0) (by omega)]; simp
          go_wp2_with fail
          go_ret
          exact ⟨ret_bool HX.out.symm, below_alloc1 _ _⟩
        · by_cases hc : q0 < 1
          · have HX : Hid (mayT ⟨p0, p1, p2, q0, q1, q2, r⟩ = false) := by show mayT _ = false; unfold mayT; dsimp only; rw [ unit_no (u := p0) (w := q0) (by omega)]; simp
            go_wp2_with fail
            go_ret
            exact ⟨ret_bool HX.out.symm, below_alloc1 _ _⟩
          · by_cases hd : 6 < q0
            · have HX : Hid (mayT ⟨p0, p1, p2, q0, q1, q2, r⟩ = false) := by show mayT _ = false; unfold mayT; dsimp only; rw [ unit_no (u := p0) (w := q0) (by omega)]; simp
              go_wp2_with fail
              go_ret
              exact ⟨ret_bool HX.out.symm, below_alloc1 _ _⟩
            · have HY : Hid (unitOk p0 q0 = true) := unit_yes ha hb hc hd
              go_wp2_with fail
              go_roundw
              case rel => exact ⟨by simp, .inr (.inl ⟨rfl, HY.out⟩)⟩
              case measure => simp [intOf]
    · have H0 := hide k0
      clear k0
      by_cases ha : p1 < 1
      · have HX : Hid (mayT ⟨p0, p1, p2, q0, q1, q2, r⟩ = false) := by show mayT _ = false; unfold mayT; dsimp only; rw [H0.out, unit_no (u := p1) (w := q1) (by omega)]; simp
        go_wp2_with fail
        go_ret
        exact ⟨ret_bool HX.out.symm, below_alloc1 _ _⟩
      · by_cases hb : 4 < p1
        · have HX : Hid (mayT ⟨p0, p1, p2, q0, q1, q2, r⟩ = false) := by show mayT _ = false; unfold mayT; dsimp only; rw [H0.out, unit_no (u := p1) (w := q1) (by omega)]; simp
          go_wp2_with fail
          go_ret
          exact ⟨ret_bool HX.out.symm, below_alloc1 _ _⟩
        · by_cases hc : q1 < 1
          · have HX : Hid (mayT ⟨p0, p1, p2, q0, q1, q2, r⟩ = false) := by show mayT _ = false; unfold mayT; dsimp only; rw [H0.out, unit_no (u := p1) (w := q1) (by omega)]; simp
            go_wp2_with fail
            go_ret
            exact ⟨ret_bool HX.out.symm, below_alloc1 _ _⟩
          · by_cases hd : 6 < q1
            · have HX : Hid (mayT ⟨p0, p1, p2, q0, q1, q2, r⟩ = false) := by show mayT _ = false; unfold mayT; dsimp only; rw [H0.out, unit_no (u := p1) (w := q1) (by omega)]; simp
              go_wp2_with fail
              go_ret
              exact ⟨ret_bool HX.out.symm, below_alloc1 _ _⟩
            · have HY : Hid (unitOk p1 q1 = true) := unit_yes ha hb hc hd
              go_wp2_with fail
              go_roundw
              case rel => exact ⟨by simp, .inr (.inr (.inl ⟨rfl, H0.out, HY.out⟩))⟩
              case measure => simp [intOf]
    · have H0 := hide k0
      have H1 := hide k1
      clear k0 k1
      by_cases ha : p2 < 1
      · have HX : Hid (mayT ⟨p0, p1, p2, q0, q1, q2, r⟩ = false) := by show mayT _ = false; unfold mayT; dsimp only; rw [H0.out, H1.out, unit_no (u := p2) (w := q2) (by omega)]; simp
        go_wp2_with fail
        go_ret
        exact ⟨ret_bool HX.out.symm, below_alloc1 _ _⟩
      · by_cases hb : 4 < p2
        · have HX : Hid (mayT ⟨p0, p1, p2, q0, q1, q2, r⟩ = false) := by show mayT _ = false; unfold mayT; dsimp only; rw [H0.out, H1.out, unit_no (u := p2) (w := q2) (by omega)]; simp
          go_wp2_with fail
          go_ret
          exact ⟨ret_bool HX.out.symm, below_alloc1 _ _⟩
        · by_cases hc : q2 < 1
          · have HX : Hid (mayT ⟨p0, p1, p2, q0, q1, q2, r⟩ = false) := by show mayT _ = false; unfold mayT; dsimp only; rw [H0.out, H1.out, unit_no (u := p2) (w := q2) (by omega)]; simp
            go_wp2_with fail
            go_ret
            exact ⟨ret_bool HX.out.symm, below_alloc1 _ _⟩
          · by_cases hd : 6 < q2
            · have HX : Hid (mayT ⟨p0, p1, p2, q0, q1, q2, r⟩ = false) := by show mayT _ = false; unfold mayT; dsimp only; rw [H0.out, H1.out, unit_no (u := p2) (w := q2) (by omega)]; simp
              go_wp2_with fail
              go_ret
              exact ⟨ret_bool HX.out.symm, below_alloc1 _ _⟩
            · have HY : Hid (unitOk p2 q2 = true) := unit_yes ha hb hc hd
              go_wp2_with fail
              go_roundw
              case rel => exact ⟨by simp, .inr (.inr (.inr ⟨rfl, H0.out, H1.out, HY.out⟩))⟩
              case measure => simp [intOf]
    · have HX : Hid (mayT ⟨p0, p1, p2, q0, q1, q2, r⟩ = inR r 1 128) := by show mayT _ = _; unfold mayT; dsimp only; rw [k0, k1, k2]; simp
      clear k0 k1 k2
      by_cases h0 : 0 < r
      · have HY : Hid (inR r 1 128 = decide (r ≤ 128)) := by show _ = _; unfold inR; rw [decide_eq_decide]; omega
        go_wp2_with fail
        go_ret
        exact ⟨ret_bool (by rw [HX.out, HY.out]), below_alloc1 _ _⟩
      · have HY : Hid (inR r 1 128 = false) := inR_no (by omega)
        go_wp2_with fail
        go_ret
        exact ⟨ret_bool (by rw [HX.out, HY.out]), below_alloc1 _ _⟩
set_option maxHeartbeats 400000 in
theorem twait_seven (p0 p1 p2 q0 q1 q2 r op : Int) (w : World) :
    Calls Tryz.prog 20 #[.agg #[.int .i64 p0, .int .i64 p1, .int .i64 p2, .int .i64 q0, .int .i64 q1, .int .i64 q2, .int .i64 r], .int .i64 op] w fun e w' => e = .returned (.int .i64 (waitT ⟨p0, p1, p2, q0, q1, q2, r⟩ op)) ∧ Below w.heap.size w w' := by
  have hmay := tmay_seven p0 p1 p2 q0 q1 q2 r (w.alloc (.cells #[.int .i64 p0, .int .i64 p1, .int .i64 p2, .int .i64 q0, .int .i64 q1, .int .i64 q2, .int .i64 r] 28))
  cases hm : mayT ⟨p0, p1, p2, q0, q1, q2, r⟩ with
  | false =>
    have HX : Hid (waitT ⟨p0, p1, p2, q0, q1, q2, r⟩ op = 0) := by show waitT _ _ = 0; unfold waitT; rw [hm]; rfl
    rw [hm] at hmay
    have HM := hide hmay
    clear hmay hm
    go_enter Tryz.func20, Tryz.ntmps20
    go_wp2_with fail
    refine HM.out.mono ?_
    rintro e x1 ⟨rfl, hb⟩
    have HB := hide ((below_alloc1 w _).trans (hb.mono (by simp)))
    clear hb HM
    go_wp2_with fail
    go_ret
    exact ⟨ret_int HX.out.symm, HB.out⟩
  | true =>
    rw [hm] at hmay
    have HM := hide hmay
    have HX : Hid (waitT ⟨p0, p1, p2, q0, q1, q2, r⟩ op = waitsT ⟨p0, p1, p2, q0, q1, q2, r⟩ (clsv op)) := by show waitT _ _ = _; unfold waitT; rw [if_pos hm]
    have hcl := fun W => refClass_any op W
    clear hmay hm
    rcases cls_three op with hc | hc | hc
    · rw [hc] at hcl
      have HC := hide hcl
      have HY : Hid (waitT ⟨p0, p1, p2, q0, q1, q2, r⟩ op = q0) := by show _ = _; rw [HX.out, hc]; rfl
      clear hcl hc HX
      go_enter Tryz.func20, Tryz.ntmps20
      go_wp2_with fail
      refine HM.out.mono ?_
      rintro e x1 ⟨rfl, hb⟩
      have hx : x1.cell? ⟨w.heap.size, 3, none⟩ = some (.int .i64 q0) := by rw [bcell hb _ _ (by simp)]; go_simp
      have HB := hide ((below_alloc1 w _).trans (hb.mono (by simp)))
      clear hb HM
      go_wp2_with fail
      refine (HC.out _).mono ?_
      rintro e x2 ⟨rfl, rfl⟩
      go_wp2_with fail
      go_ret
      exact ⟨ret_int HY.out.symm, HB.out⟩
    · rw [hc] at hcl
      have HC := hide hcl
      have HY : Hid (waitT ⟨p0, p1, p2, q0, q1, q2, r⟩ op = q1) := by show _ = _; rw [HX.out, hc]; rfl
      clear hcl hc HX
      go_enter Tryz.func20, Tryz.ntmps20
      go_wp2_with fail
      refine HM.out.mono ?_
      rintro e x1 ⟨rfl, hb⟩
      have hx : x1.cell? ⟨w.heap.size, 4, none⟩ = some (.int .i64 q1) := by rw [bcell hb _ _ (by simp)]; go_simp
      have HB := hide ((below_alloc1 w _).trans (hb.mono (by simp)))
      clear hb HM
      go_wp2_with fail
      refine (HC.out _).mono ?_
      rintro e x2 ⟨rfl, rfl⟩
      go_wp2_with fail
      go_ret
      exact ⟨ret_int HY.out.symm, HB.out⟩
    · rw [hc] at hcl
      have HC := hide hcl
      have HY : Hid (waitT ⟨p0, p1, p2, q0, q1, q2, r⟩ op = q2) := by show _ = _; rw [HX.out, hc]; rfl
      clear hcl hc HX
      go_enter Tryz.func20, Tryz.ntmps20
      go_wp2_with fail
      refine HM.out.mono ?_
      rintro e x1 ⟨rfl, hb⟩
      have hx : x1.cell? ⟨w.heap.size, 5, none⟩ = some (.int .i64 q2) := by rw [bcell hb _ _ (by simp)]; go_simp
      have HB := hide ((below_alloc1 w _).trans (hb.mono (by simp)))
      clear hb HM
      go_wp2_with fail
      refine (HC.out _).mono ?_
      rintro e x2 ⟨rfl, rfl⟩
      go_wp2_with fail
      go_ret
      exact ⟨ret_int HY.out.symm, HB.out⟩
end Go.Proofs.YtbpaffkkphacdabGreat
