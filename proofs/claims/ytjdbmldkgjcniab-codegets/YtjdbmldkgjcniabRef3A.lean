/- Ref3A: texts that are built as one: Ref3Copy, Ref3Same, Ref3Is. -/
import Derived.Test.YtjdbmldkgjcniabLoopP
import Derived.Test.YtjdbmldkgjcniabBase
import Derived.Deep.QuietTactic
import Derived.BigQuiet
import Derived.Test.YtjdbmldkgjcniabMaths
/- The contract of the document's own copy of words: new rows of the same numbers; nothing that was there is changed. -/
namespace Go.Proofs.Ytjdbmldkgjcniab
open Go.RowKit Go.Joins
set_option linter.unusedVariables false

/-- the rows of words that a call owns: row i lies in block G i, has len i numbers f i and room for C i; no two share a block -/
def Inner (w : World) (base : Nat) (G C : Nat → Nat) (n : Nat) (len : Nat → Nat) (f : Nat → Nat → Int) : Prop :=
  (∀ i, i < n → base ≤ G i ∧ len i ≤ C i ∧ C i ≤ maxLen ∧ RowF w (G i) 2 (len i) (fun j => .int .i64 (f i j))) ∧ ∀ i j, i < n → j < n → i ≠ j → G i ≠ G j
def rowV (G C len : Nat → Nat) (i : Nat) : Value := .slice (some ⟨G i, 0, none⟩) (len i) (C i)

theorem Inner.keep {w w' : World} {base : Nat} {G C : Nat → Nat} {n : Nat} {len : Nat → Nat} {f : Nat → Nat → Int} (h : Inner w base G C n len f) (hb : ∀ i, i < n → w'.heap[G i]? = w.heap[G i]?) : Inner w' base G C n len f :=
  ⟨fun i hi => ⟨(h.1 i hi).1, (h.1 i hi).2.1, (h.1 i hi).2.2.1, (h.1 i hi).2.2.2.of_block (hb i hi)⟩, h.2⟩
theorem Inner.below {w w' : World} {base : Nat} {G C : Nat → Nat} {n : Nat} {len : Nat → Nat} {f : Nat → Nat → Int} (h : Inner w base G C n len f) (hb : Below w.heap.size w w') : Inner w' base G C n len f :=
  h.keep fun i hi => hb.block _ (h.1 i hi).2.2.2.lt
theorem one_cell (w : World) (x : Value) (t : TypeId) : ∀ (j : Nat) (u : Value), [x][j]? = some u → (w.alloc (.cells #[x] t)).cell? ((⟨w.heap.size, 0, none⟩ : Addr).add j) = some u := by
  intro j u hj
  match j, hj with
  | 0, hj =>
    have h : x = u := by simpa using hj
    subst h
    simp [Addr.add]
end Go.Proofs.Ytjdbmldkgjcniab
/- Contracts of the document's own comparison of results: it returns whether the numbers are one; the world is as it was but for draws. -/
namespace Go.Proofs.Ytjdbmldkgjcniab
open Go.RowKit Go.Joins
set_option linter.unusedVariables false

end Go.Proofs.Ytjdbmldkgjcniab
/- The contract of the document's own reading of a Ref: what it is in a turn; nothing that was there is changed. -/
namespace Go.Proofs.Ytjdbmldkgjcniab
open Go.RowKit Go.Joins
set_option linter.unusedVariables false

/-- v leads to rows of n numbers each: the first T of its len cells read as val -/
def GridR (w : World) (v : Value) (len T n : Nat) (val : Nat → Nat → Int) : Prop :=
  ∃ g cap, v = .slice (some ⟨g, 0, none⟩) len cap ∧ len ≤ cap ∧ cap ≤ maxLen ∧ g < w.heap.size ∧
    ∀ i, i < T → ∃ b c, w.cell? ⟨g, i, none⟩ = some (.slice (some ⟨b, 0, none⟩) n c) ∧ n ≤ c ∧ c ≤ maxLen ∧ b < w.heap.size ∧ ∀ k, k < n → w.cell? ⟨b, k, none⟩ = some (.int .i64 (val i k))
theorem GridR.below {w w' : World} {v : Value} {len T n : Nat} {val : Nat → Nat → Int} (h : GridR w v len T n val) (hb : Below w.heap.size w w') : GridR w' v len T n val := by
  obtain ⟨g, cap, e, h1, h2, h3, h4⟩ := h
  refine ⟨g, cap, e, h1, h2, Nat.lt_of_lt_of_le h3 hb.size, fun i hi => ?_⟩
  obtain ⟨b, c, h5, h6, h7, h8, h9⟩ := h4 i hi
  exact ⟨b, c, by rw [bcell hb _ _ h3]; exact h5, h6, h7, Nat.lt_of_lt_of_le h8 hb.size, fun k hk => by rw [bcell hb _ _ h8]; exact h9 k hk⟩

end Go.Proofs.Ytjdbmldkgjcniab
