/- CheckE: texts that are built as one: CheckLeave, CheckEnter, CheckAll. -/
import Derived.Test.YtbpaffkkphacdabGreatCheckD
import Derived.Test.YtbpaffkkphacdabGreatRef10C
import Derived.Test.YtbpaffkkphacdabGreatDepP
import Derived.Test.YtbpaffkkphacdabGreatKernQ
/- Package check's Leave: the loop's Outs of what is in the registers; nothing that was there is changed. -/
namespace Go.Proofs.YtbpaffkkphacdabGreat
open Go.RowKit Go.Joins
set_option linter.unusedVariables false
set_option linter.unusedSimpArgs false
set_option maxRecDepth 8192

variable {L : Lp} {t : Tg} {K : Kn} {O : List Int} {B : List (List Int)} {R : List Int} {turns : Int} {w w' : World}
end Go.Proofs.YtbpaffkkphacdabGreat
/- Package check's Enter: what is in the registers ahead of the first turn; nothing that was there is changed. -/
namespace Go.Proofs.YtbpaffkkphacdabGreat
open Go.RowKit Go.Joins Go.Maps
set_option linter.unusedVariables false
set_option linter.unusedSimpArgs false
set_option maxRecDepth 8192

/-- what was put so far, whichever is still to come -/
def EntR (F V : List Int) (p : Nat) (left : Lit → Bool) (g : Nat → Int) : Prop :=
  (∀ i, i < p → left (.int .i64 (nth F i)) = false → g (nth F i).toNat = nth V i) ∧ ∀ z : Nat, (left (.int .i64 (z : Int)) = true ∨ ∀ i, i < p → nth F i ≠ z) → g z = 0
theorem EntR.start {F V : List Int} {p : Nat} {D : DataW Unit} (h : ∀ z, Maps.has D (.int .i64 z) = true ↔ ∃ i, i < p ∧ nth F i = z) : EntR F V p (Maps.has D) (fun _ => 0) :=
  ⟨fun i hi h2 => (by rw [(h _).2 ⟨i, hi, rfl⟩] at h2; cases h2), fun z _ => rfl⟩
theorem int_key (z : Int) : WideAt.IsKeyLit (.int .i64 z) := trivial
theorem EntR.step {F V : List Int} {p i : Nat} {left : Lit → Bool} {g : Nat → Int} (h : EntR F V p left g) (hi : i < p) (hl : left (.int .i64 (nth F i)) = true) (hd : ∀ i j, i < j → j < p → nth F i ≠ nth F j) (h0 : ∀ i, i < p → 0 ≤ nth F i) :
    EntR F V p (fun z => left z && !z.sameKey (.int .i64 (nth F i))) (fun z => if z = (nth F i).toNat then nth V i else g z) := by
  have hinj : ∀ a b, a < p → b < p → nth F a = nth F b → a = b := fun a b ha hb e => by
    by_cases h1 : a < b
    · exact absurd e (hd a b h1 hb)
    · by_cases h2 : b < a
      · exact absurd e.symm (hd b a h2 ha)
      · omega
  refine ⟨fun j hj h2 => ?_, fun z h2 => ?_⟩
  · by_cases e : nth F j = nth F i
    · have := hinj j i hj hi e
      subst this
      exact if_pos rfl
    · have hne : (nth F j).toNat ≠ (nth F i).toNat := by have := h0 j hj; have := h0 i hi; omega
      show (if (nth F j).toNat = (nth F i).toNat then nth V i else g (nth F j).toNat) = _
      rw [if_neg hne]
      have h3 : (left (.int .i64 (nth F j)) && !(Lit.int .i64 (nth F j)).sameKey (.int .i64 (nth F i))) = false := h2
      rw [sameKey_ne (fun h => e (by injection h))] at h3
      exact h.1 j hj (by simpa using h3)
  · have hz : z ≠ (nth F i).toNat := by
      intro e
      have e2 : nth F i = z := by have := h0 i hi; omega
      rcases h2 with h2 | h2
      · have h3 : (left (.int .i64 (z : Int)) && !(Lit.int .i64 (z : Int)).sameKey (.int .i64 (nth F i))) = true := h2
        rw [e2, WideAt.sameKey_self (int_key _)] at h3
        simp at h3
      · exact h2 i hi e2
    show (if z = (nth F i).toNat then nth V i else g z) = 0
    rw [if_neg hz]
    refine h.2 z ?_
    rcases h2 with h2 | h2
    · have h3 : (left (.int .i64 (z : Int)) && !(Lit.int .i64 (z : Int)).sameKey (.int .i64 (nth F i))) = true := h2
      rw [Bool.and_eq_true] at h3
      exact .inl h3.1
    · exact .inr h2
variable {L : Lp} {t : Tg} {K : Kn} {O : List Int} {B : List (List Int)} {w w' : World}
end Go.Proofs.YtbpaffkkphacdabGreat
/- Package check answers as TakesC, EnterC and LeaveC say. -/
namespace Go.Proofs.YtbpaffkkphacdabGreat
theorem checkTakes_all : TakesC := ctakes_any kernelMay_all depEdges_all
end Go.Proofs.YtbpaffkkphacdabGreat
