/- The contracts of the document's own number, numbers and at: eight bytes a number, the highest first. -/
import Derived.Test.YtjlfcbccpcigeacDoorCodeMath
import Derived.Test.YtjlfcbccpcigeacDoorSchedA
import Derived.Test.YtjlfcbccpcigeacDoorKernS
import Derived.Test.YtjlfcbccpcigeacDoorNums
import Derived.Laws.BytesArg
namespace Go.Proofs.YtjlfcbccpcigeacDoor
open Go.RowKit Go.Joins
set_option linter.unusedVariables false
set_option linter.unusedSimpArgs false
set_option maxRecDepth 8192

theorem str_add (xs ys : List Int) : strOfNums xs ++ strOfNums ys = strOfNums (xs ++ ys) := by
  apply ByteArray.ext
  apply Array.toList_inj.1
  rw [strOfNums_data, List.map_append]
  simp [strOfNums]
/-- v is a slice of the bytes l -/
def BytesV (w : World) (v : Value) (l : List Int) : Prop :=
  ∃ a cap, v = .slice a l.length cap ∧ l.length ≤ cap ∧ cap ≤ maxLen ∧ (∀ i, i < l.length → 0 ≤ nth l i ∧ nth l i < 256) ∧
    (0 < l.length → ∃ b off, a = some ⟨b, off, none⟩ ∧ b < w.heap.size ∧ ∀ i, i < l.length → w.cell? ⟨b, off + i, none⟩ = some (.int .u8 (nth l i)))
theorem BytesV.below {w w' : World} {v : Value} {l : List Int} (h : BytesV w v l) (hb : Below w.heap.size w w') : BytesV w' v l := by
  obtain ⟨a, cap, e, h1, h2, h3, h4⟩ := h
  refine ⟨a, cap, e, h1, h2, h3, fun hp => ?_⟩
  obtain ⟨b, off, e2, h5, h6⟩ := h4 hp
  exact ⟨b, off, e2, Nat.lt_of_lt_of_le h5 hb.size, fun i hi => by rw [bcell hb _ _ h5]; exact h6 i hi⟩
end Go.Proofs.YtjlfcbccpcigeacDoor
