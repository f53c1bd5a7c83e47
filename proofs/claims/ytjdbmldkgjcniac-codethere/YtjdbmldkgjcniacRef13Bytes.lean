/- The contract of the document's own Bytes: a kernel as bytes. -/
import Derived.Test.YtjdbmldkgjcniacRef13Num
namespace Go.Proofs.Ytjdbmldkgjcniac
open Go.RowKit Go.Joins
set_option linter.unusedVariables false
set_option linter.unusedSimpArgs false
set_option maxRecDepth 8192

theorem opsW_take (l : List Kop) (k : Nat) (h : k < l.length) : opsW (l.take k) ++ opW (opAt l k) = opsW (l.take (k + 1)) := by
  unfold opsW
  rw [List.take_add_one, List.getElem?_eq_getElem h, List.flatMap_append]
  have e : opAt l k = l[k] := by unfold opAt; rw [List.getD, List.getElem?_eq_getElem h]; rfl
  rw [e]
  simp
theorem bytesW_app (a b : List Int) : bytesW (a ++ b) = bytesW a ++ bytesW b := by unfold bytesW; rw [List.flatMap_append]
end Go.Proofs.Ytjdbmldkgjcniac
