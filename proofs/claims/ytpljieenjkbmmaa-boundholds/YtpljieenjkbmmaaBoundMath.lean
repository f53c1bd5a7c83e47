/- The least paces, by units and by rounds, as the document says them; no Go in sight. -/
import Derived.Test.YtpljieenjkbmmaaRoundMath
import Derived.Test.YtpljieenjkbmmaaDepOrder
import Derived.Test.YtpljieenjkbmmaaKernMath
namespace Go.Proofs.Ytpljieenjkbmmaa
set_option linter.unusedVariables false

/-- how many statements of a class there are -/
def cntC (L : Lp) (c : Nat) : Nat := cnt (fun i => decide (clsv (stAt L.body i).o = (c : Int))) L.body.length
/-- the least number that, times u, is at least n -/
def needU (n u : Nat) : Nat := (n + u - 1) / u
theorem need_iff {n u q : Nat} (hu : 1 ≤ u) : n ≤ q * u ↔ needU n u ≤ q := by
  unfold needU
  constructor
  · intro h
    have h1 : n + u - 1 < (q + 1) * u := by rw [Nat.succ_mul]; omega
    exact Nat.le_of_lt_succ (Nat.div_lt_of_lt_mul (by rw [Nat.mul_comm]; exact h1))
  · intro h
    have h1 := Nat.div_add_mod (n + u - 1) u
    have h2 := Nat.mod_lt (n + u - 1) (show u > 0 by omega)
    have h3 : u * ((n + u - 1) / u) ≤ u * q := Nat.mul_le_mul_left _ h
    rw [Nat.mul_comm q u]
    omega
/-- the pace when the first c classes have been looked at -/
def paceU (L : Lp) (t : Tg) : Nat → Nat
  | 0 => 1
  | c + 1 => max (paceU L t c) (needU (cntC L c) (unitsT t c).toNat)
/-- G1: UNITS -/
def unitsB (L : Lp) (t : Tg) : Nat := paceU L t 3
/-- the first from s on that is so -/
def firstN (p : Nat → Bool) : Nat → Nat → Nat
  | 0, s => s
  | f + 1, s => if p s = true then s else firstN p f (s + 1)
theorem first_is {p : Nat → Bool} : ∀ f s, (∃ q, s ≤ q ∧ q ≤ s + f ∧ p q = true) → p (firstN p f s) = true ∧ s ≤ firstN p f s ∧ firstN p f s ≤ s + f ∧ ∀ q, s ≤ q → q < firstN p f s → p q = false := by
  intro f
  induction f with
  | zero =>
    rintro s ⟨q, h1, h2, h3⟩
    obtain rfl : q = s := by omega
    exact ⟨h3, Nat.le_refl _, Nat.le_refl _, fun q' h4 h5 => absurd h5 (by show ¬ q' < q; omega)⟩
  | succ f ih =>
    rintro s ⟨q, h1, h2, h3⟩
    unfold firstN
    by_cases h : p s = true
    · rw [if_pos h]; exact ⟨h, Nat.le_refl _, by omega, fun q' h4 h5 => by omega⟩
    · rw [if_neg h]
      have hq : q ≠ s := fun e => h (e ▸ h3)
      obtain ⟨h4, h5, h6, h7⟩ := ih (s + 1) ⟨q, by omega, by omega, h3⟩
      refine ⟨h4, by omega, by omega, fun q' h8 h9 => ?_⟩
      by_cases e : q' = s
      · subst e; simpa using h
      · exact h7 q' (by omega) h9
/-- G1: ROUNDS -/
def roundsB (L : Lp) (t : Tg) : Nat := firstN (fun p => roundsD L.body.length (edgesD L t) p) 95 1
theorem edges_ok {L : Lp} {t : Tg} (hm : mayB L = true) : ∀ e ∈ edgesD L t, ∃ fr to bk wt : Nat, e = ⟨fr, to, bk, wt⟩ ∧ fr < L.body.length ∧ to < L.body.length ∧ (bk = 0 → fr < to) ∧ wt ≤ 6 ∧ bk ≤ 32 := by
  intro e he
  obtain ⟨fr, to, b, x, h1, h2, rfl, h3⟩ := frD_mem _ he
  obtain ⟨fr', to', bk', wt', h5, -, -, h8⟩ := edge_like hm he
  have e1 : (b : Int) = bk' := congrArg Ed.bk h5
  have e2 : (fr : Int) = fr' := congrArg Ed.fr h5
  have e3 : (to : Int) = to' := congrArg Ed.to h5
  refine ⟨fr, to, b, x, rfl, h1, h2, fun h => by have := h8 (by omega); omega, ?_⟩
  -- the bounds of all that might be
  have hb : ∀ k, (⟨fr, to, b, x⟩ : Ed) ∈ frD L t k → x ≤ 6 ∧ b ≤ 32 := by
    have w1 : ∀ {fr to bk : Nat} {e : Ed} k, e ∈ wtD L t fr to bk k → ∃ y : Nat, y < k ∧ e = ⟨fr, to, bk, y⟩ := fun k h => by
      obtain ⟨y, h1, h2, _⟩ := wtD_mem k h; exact ⟨y, h1, h2⟩
    have w2 : ∀ {fr to : Nat} {e : Ed} k, e ∈ bkD L t fr to k → ∃ b y : Nat, b < k ∧ y < 7 ∧ e = ⟨fr, to, b, y⟩ := by
      intro fr to e k
      induction k with
      | zero => intro h; cases h
      | succ k ih =>
        intro h
        rcases List.mem_append.1 h with h | h
        · obtain ⟨b, y, h1, h2, h3⟩ := ih h; exact ⟨b, y, by omega, h2, h3⟩
        · obtain ⟨y, h1, h2⟩ := w1 7 h; exact ⟨k, y, by omega, h1, h2⟩
    have w3 : ∀ {fr : Nat} {e : Ed} k, e ∈ toD L t fr k → ∃ to b y : Nat, b < 33 ∧ y < 7 ∧ e = ⟨fr, to, b, y⟩ := by
      intro fr e k
      induction k with
      | zero => intro h; cases h
      | succ k ih =>
        intro h
        rcases List.mem_append.1 h with h | h
        · exact ih h
        · obtain ⟨b, y, h1, h2, h3⟩ := w2 33 h; exact ⟨k, b, y, h1, h2, h3⟩
    intro k
    induction k with
    | zero => intro h; cases h
    | succ k ih =>
      intro h
      rcases List.mem_append.1 h with h | h
      · exact ih h
      · obtain ⟨to2, b2, y2, h1, h2, h3⟩ := w3 L.body.length h
        have f1 : (b : Int) = b2 := congrArg Ed.bk h3
        have f2 : (x : Int) = y2 := congrArg Ed.wt h3
        omega
  exact hb _ he
theorem rounds_some {L : Lp} {t : Tg} (hm : mayB L = true) : ∃ q, 1 ≤ q ∧ q ≤ 1 + 95 ∧ (fun p : Nat => roundsD L.body.length (edgesD L t) p) q = true := by
  obtain ⟨-, -, h16, -⟩ := may_parts hm
  have hok := edges_ok (t := t) hm
  refine ⟨96, by omega, by omega, ?_⟩
  exact feas_rounds (fun e he => by
    obtain ⟨fr, to, bk, wt, rfl, h1, h2, _⟩ := hok e he
    exact ⟨by show ((fr : Int)).toNat < _; rw [Int.toNat_natCast]; exact h1, by show ((to : Int)).toNat < _; rw [Int.toNat_natCast]; exact h2⟩) (feas_96 h16 fun e he => by
      obtain ⟨fr, to, bk, wt, h0, h1, h2, h3, h4, -⟩ := hok e he
      exact ⟨fr, to, bk, wt, h0, h1, h2, h3, h4⟩)
end Go.Proofs.Ytpljieenjkbmmaa
