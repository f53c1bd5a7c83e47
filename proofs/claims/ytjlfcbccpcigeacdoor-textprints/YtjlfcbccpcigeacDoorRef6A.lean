/- Ref6A: texts that are built as one: Ref6Uses, Ref6Meets, Ref4. -/
import Derived.Test.YtjlfcbccpcigeacDoorMaths
import Derived.Test.YtjlfcbccpcigeacDoorRef2Stmt
import Derived.Test.YtjlfcbccpcigeacDoorLoopStmt
import Derived.Test.YtjlfcbccpcigeacDoorNums
/- Contracts of the document's own answer on what a statement looks at, as a list; nothing that was there is changed. -/
namespace Go.Proofs.YtjlfcbccpcigeacDoor
open Go.RowKit Go.Joins
set_option linter.unusedVariables false

/-- v is a slice of the Refs l -/
def RefsV (w : World) (v : Value) (l : List (Int × Int)) : Prop :=
  ∃ a cap, v = .slice a l.length cap ∧ l.length ≤ cap ∧ cap ≤ maxLen ∧
    (0 < l.length → ∃ blk off, a = some ⟨blk, off, none⟩ ∧ blk < w.heap.size ∧ ∀ i, i < l.length → w.cell? ⟨blk, off + i * 2, none⟩ = some (.int .i64 (refAt l i).1) ∧ w.cell? ⟨blk, off + i * 2 + 1, none⟩ = some (.int .i64 (refAt l i).2))
theorem RefsV.below {w w' : World} {v : Value} {l : List (Int × Int)} (h : RefsV w v l) (hb : Below w.heap.size w w') : RefsV w' v l := by
  obtain ⟨a, cap, e, h1, h2, h4⟩ := h
  refine ⟨a, cap, e, h1, h2, fun hp => ?_⟩
  obtain ⟨b, off, e2, h5, h6⟩ := h4 hp
  exact ⟨b, off, e2, Nat.lt_of_lt_of_le h5 hb.size, fun i hi => by rw [bcell hb _ _ h5, bcell hb _ _ h5]; exact h6 i hi⟩
end Go.Proofs.YtjlfcbccpcigeacDoor
/- Contracts of the document's own answers on words that meet; nothing that was there is changed. -/
namespace Go.Proofs.YtjlfcbccpcigeacDoor
open Go.RowKit Go.Joins
set_option linter.unusedVariables false

end Go.Proofs.YtjlfcbccpcigeacDoor
/- The contracts of the document's own answers on machines; nothing that was there is changed. -/
namespace Go.Proofs.YtjlfcbccpcigeacDoor
open Go.RowKit Go.Joins
set_option linter.unusedVariables false

def Tg.cells (t : Tg) : Array Value := #[.int .i64 t.u0, .int .i64 t.u1, .int .i64 t.u2, .int .i64 t.w0, .int .i64 t.w1, .int .i64 t.w2, .int .i64 t.r]

end Go.Proofs.YtjlfcbccpcigeacDoor
