/- Machines: what may be, and how long a result is waited for; no Go in sight. -/
import Derived.Test.YtpljieenjkbmmaaOps
import Derived.Test.YtpljieenjkbmmaaLoopMath
namespace Go.Proofs.Ytpljieenjkbmmaa
set_option linter.unusedVariables false

/-- a machine -/
structure Tg where
  u0 : Int
  u1 : Int
  u2 : Int
  w0 : Int
  w1 : Int
  w2 : Int
  r : Int
def unitOk (u w : Int) : Bool := inR u 1 4 && inR w 1 6
/-- D1 -/
def mayT (t : Tg) : Bool := unitOk t.u0 t.w0 && unitOk t.u1 t.w1 && unitOk t.u2 t.w2 && inR t.r 1 128
/-- the units and the wait of a class -/
def unitsT (t : Tg) (c : Int) : Int := if c = 0 then t.u0 else if c = 1 then t.u1 else t.u2
def waitsT (t : Tg) (c : Int) : Int := if c = 0 then t.w0 else if c = 1 then t.w1 else t.w2
/-- D2 -/
def waitT (t : Tg) (op : Int) : Int := if mayT t = true then waitsT t (clsv op) else 0
theorem cls_three (op : Int) : clsv op = 0 ∨ clsv op = 1 ∨ clsv op = 2 := by
  unfold clsv; split
  · exact .inr (.inr rfl)
  · split
    · exact .inr (.inl rfl)
    · exact .inl rfl
theorem unit_no {u w : Int} (h : u < 1 ∨ 4 < u ∨ w < 1 ∨ 6 < w) : unitOk u w = false := by
  unfold unitOk
  by_cases h1 : 1 ≤ u ∧ u ≤ 4
  · rw [inR_yes h1, inR_no (by omega)]; rfl
  · rw [inR_no h1]; rfl
theorem unit_yes {u w : Int} (h1 : ¬ u < 1) (h2 : ¬ 4 < u) (h3 : ¬ w < 1) (h4 : ¬ 6 < w) : unitOk u w = true := by
  unfold unitOk
  rw [inR_yes (by omega), inR_yes (by omega)]; rfl
theorem unit_iff {u w : Int} (h : unitOk u w = true) : 1 ≤ u ∧ u ≤ 4 ∧ 1 ≤ w ∧ w ≤ 6 := by
  unfold unitOk at h
  rw [Bool.and_eq_true] at h
  have h1 := inR_iff.1 h.1
  have h2 := inR_iff.1 h.2
  exact ⟨h1.1, h1.2, h2.1, h2.2⟩
theorem mayT_parts {t : Tg} (h : mayT t = true) : unitOk t.u0 t.w0 = true ∧ unitOk t.u1 t.w1 = true ∧ unitOk t.u2 t.w2 = true ∧ 1 ≤ t.r ∧ t.r ≤ 128 := by
  unfold mayT at h
  simp only [Bool.and_eq_true] at h
  have h1 := inR_iff.1 h.2
  exact ⟨h.1.1.1, h.1.1.2, h.1.2, h1.1, h1.2⟩
end Go.Proofs.Ytpljieenjkbmmaa
