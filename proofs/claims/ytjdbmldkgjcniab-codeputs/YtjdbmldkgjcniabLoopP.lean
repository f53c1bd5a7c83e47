/- LoopP: texts that are built as one: LoopMay, LoopState, LoopFits. -/
import Derived.Test.YtjdbmldkgjcniabLoopStmt
/- Contracts of package loop's May: for every loop in memory it returns whether the loop may be; nothing that was there is changed. -/
namespace Go.Proofs.Ytjdbmldkgjcniab
open Go.RowKit Go.Joins
set_option linter.unusedVariables false

end Go.Proofs.Ytjdbmldkgjcniab
/- What lies in memory as rows of numbers and as a state, and that new memory leaves it as it was. -/
namespace Go.Proofs.Ytjdbmldkgjcniab
open Go.RowKit Go.Joins
set_option linter.unusedVariables false

/-- v is a slice of the rows rs -/
def IntRows (w : World) (v : Value) (rs : List (List Int)) : Prop :=
  ∃ a cap, v = .slice a rs.length cap ∧ rs.length ≤ cap ∧ cap ≤ maxLen ∧
    (0 < rs.length → ∃ b off, a = some ⟨b, off, none⟩ ∧ b < w.heap.size ∧ ∀ i, i < rs.length → ∃ u, w.cell? ⟨b, off + i, none⟩ = some u ∧ Ints w u (rowAt rs i))
theorem IntRows.below {w w' : World} {v : Value} {rs : List (List Int)} (h : IntRows w v rs) (hb : Below w.heap.size w w') : IntRows w' v rs := by
  obtain ⟨a, cap, e, h1, h2, h4⟩ := h
  refine ⟨a, cap, e, h1, h2, fun hp => ?_⟩
  obtain ⟨b, off, e2, h5, h6⟩ := h4 hp
  refine ⟨b, off, e2, Nat.lt_of_lt_of_le h5 hb.size, fun i hi => ?_⟩
  obtain ⟨u, h7, h8⟩ := h6 i hi
  exact ⟨u, by rw [bcell hb _ _ h5]; exact h7, h8.below hb⟩
/-- v is the state of the rows B and M -/
def StateV (w : World) (v : Value) (B M : List (List Int)) : Prop := ∃ v0 v1, v = .agg #[v0, v1] ∧ IntRows w v0 B ∧ IntRows w v1 M
theorem StateV.below {w w' : World} {v : Value} {B M : List (List Int)} (h : StateV w v B M) (hb : Below w.heap.size w w') : StateV w' v B M := by
  obtain ⟨v0, v1, e, h1, h2⟩ := h
  exact ⟨v0, v1, e, h1.below hb, h2.below hb⟩
end Go.Proofs.Ytjdbmldkgjcniab
/- The contract of package loop's Fits: for every loop and state in memory it returns whether the state fits; nothing that was there is changed. -/
namespace Go.Proofs.Ytjdbmldkgjcniab
open Go.RowKit Go.Joins
set_option linter.unusedVariables false

end Go.Proofs.Ytjdbmldkgjcniab
