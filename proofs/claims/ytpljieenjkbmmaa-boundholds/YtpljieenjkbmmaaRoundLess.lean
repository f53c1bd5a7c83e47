/- Rounds of edges: as many passes as there are statements tell whether none is too long, one fewer than the document's; no Go in sight. -/
import Derived.Test.YtpljieenjkbmmaaRoundMath
namespace Go.Proofs.Ytpljieenjkbmmaa
set_option linter.unusedVariables false

/-- the program's answer: n passes -/
def settledD (n : Nat) (l : List Ed) (p : Int) : Bool := exN (fun r => stillE p l (passR p l r)) n
/-- one of them stands where it stood -/
theorem one_zero {n : Nat} {l : List Ed} {p : Int} {R : Nat} (hn1 : 1 ≤ n) (hn : ∀ e ∈ l, e.fr.toNat < n ∧ e.to.toNat < n) (hR : stillE p l (passR p l R) = true) : ∃ v, v < n ∧ passR p l R v = 0 := by
  refine Classical.byContradiction fun hno => ?_
  have hpos : ∀ v, v < n → 1 ≤ passR p l R v := fun v hv => by
    have h0 : (0 : Int) ≤ passR p l R v := passR_le p l v 0 R (Nat.zero_le _)
    have h1 : passR p l R v ≠ 0 := fun h => hno ⟨v, hv, h⟩
    omega
  have h2 := passR_under (p := p) (l := l) (H := fun v => if v < n then passR p l R v - 1 else passR p l R v) (fun v => by
    show (0 : Int) ≤ if v < n then passR p l R v - 1 else passR p l R v
    split
    · have := hpos v (by assumption); omega
    · exact passR_le p l v 0 R (Nat.zero_le _)) (fun e he => by
    obtain ⟨h1, h2⟩ := hn e he
    show (if _ < n then _ else _) + gapE p e ≤ (if _ < n then _ else _)
    rw [if_pos h1, if_pos h2]
    have := still_iff.1 hR e he
    omega) R 0
  rw [if_pos (by omega)] at h2
  omega
theorem feas_settled {n : Nat} {l : List Ed} {p : Int} (hn1 : 1 ≤ n) (hn : ∀ e ∈ l, e.fr.toNat < n ∧ e.to.toNat < n) (hf : Feas l p) : settledD n l p = true := by
  by_cases hl : 0 < l.length
  · obtain ⟨R, hR⟩ := still_once hn hf
    have hcnt : ∀ r, r ≤ R → openN (passR p l r) (passR p l R) n + r + 1 ≤ n ∨ openN (passR p l r) (passR p l R) n = 0 := by
      intro r
      induction r with
      | zero =>
        intro _
        obtain ⟨v, hv, hz⟩ := one_zero hn1 hn hR
        have h1 : openN (passR p l 0) (passR p l R) n < openN (fun v => passR p l R v + 1) (passR p l R) n := open_less n (fun v _ h => by exfalso; have h2 : passR p l R v + 1 = passR p l R v := h; omega) ⟨v, hv, by show ¬ passR p l R v + 1 = passR p l R v; omega, by rw [hz]; rfl⟩
        have := open_le (fun v => passR p l R v + 1) (passR p l R) n
        exact .inl (by omega)
      | succ r ih =>
        intro hr
        have hkeep : ∀ v, v < n → passR p l r v = passR p l R v → passR p l (r + 1) v = passR p l R v := fun v _ h => by
          have h1 := passR_le p l v r (r + 1) (by omega)
          have h2 := passR_le p l v (r + 1) R hr
          omega
        by_cases h0 : openN (passR p l r) (passR p l R) n = 0
        · have := open_mono n hkeep
          exact .inr (by omega)
        · obtain ⟨v, h1, h2, h3⟩ := pass_settles hl hn hR (by omega) (open_some h0)
          have := open_less n hkeep ⟨v, h1, h2, h3⟩
          rcases ih (by omega) with h4 | h4
          · exact .inl (by omega)
          · exact absurd h4 h0
    by_cases hRn : R ≤ n - 1
    · exact exN_true (k := R) (by omega) hR
    · have h1 : openN (passR p l (n - 1)) (passR p l R) n = 0 := by
        rcases hcnt (n - 1) (by omega) with h | h
        · omega
        · exact h
      refine exN_true (k := n - 1) (by omega) (still_iff.2 fun e he => ?_)
      have h2 := still_iff.1 hR e he
      rw [open_zero h1 _ (hn e he).1, open_zero h1 _ (hn e he).2]
      exact h2
  · have e : l = [] := List.length_eq_zero_iff.1 (by omega)
    subst e
    exact exN_true (k := 0) (by omega) rfl
/-- the program's passes tell what the document's tell -/
theorem settled_rounds {n : Nat} {l : List Ed} {p : Int} (hn1 : 1 ≤ n) (hn : ∀ e ∈ l, e.fr.toNat < n ∧ e.to.toNat < n) : settledD n l p = roundsD n l p := by
  cases h : roundsD n l p with
  | true => exact feas_settled hn1 hn (rounds_feas h)
  | false =>
    cases h2 : settledD n l p with
    | false => rfl
    | true =>
      obtain ⟨r, h3, h4⟩ := exN_iff.1 h2
      have : roundsD n l p = true := exN_true (k := r) (by omega) h4
      rw [h] at this; cases this
end Go.Proofs.Ytpljieenjkbmmaa
