/- Opens: texts that are built as one: LoopOpen, TargetOpen, KernOpen, NumsOpen. -/
import Derived.Test.YtjdbmldkgjcniacLoopP
import Derived.ProofKit
import Derived.OpenShut
import Derived.Deep.Slices
import Derived.Lib.SmallJoins
import Derived.Test.YtjdbmldkgjcniacRef6A
import Derived.Test.YtjdbmldkgjcniacKernS
/- From a reading of the arguments to a loop and a state in memory. -/
namespace Go.Proofs.Ytjdbmldkgjcniac
open Go.ChangeShapes Go.WideShapes Go.ChangeAt Go.RowKit Go.Joins Go.Deep
set_option linter.unusedVariables false
set_option maxRecDepth 8192

theorem lt_of_cell {w : World} {a : Addr} {u : Value} (h : w.cell? a = some u) : a.block < w.heap.size := by
  unfold World.cell? at h
  cases e : w.heap[a.block]? with
  | none => rw [e] at h; cases h
  | some x => exact (Array.getElem?_eq_some_iff.1 e).1

theorem add_at (b off i : Nat) : (⟨b, off, none⟩ : Addr).add i = ⟨b, off + i, none⟩ := by simp [Addr.add]
theorem nth_take (zs : List Int) (n i : Nat) (h : i < n) : nth (zs.take n) i = zs.getD i 0 := by
  unfold nth; simp [List.getD, h]

section
variable {H : Type} {enc : TypeId × Value → H} {W : World} {held : Bool}

end
end Go.Proofs.Ytjdbmldkgjcniac
/- From a reading of an argument to a machine. -/
namespace Go.Proofs.Ytjdbmldkgjcniac
open Go.ChangeShapes Go.WideShapes Go.ChangeAt Go.RowKit Go.Joins Go.Deep
set_option linter.unusedVariables false
set_option maxRecDepth 8192

section
variable {H : Type} {enc : TypeId × Value → H} {W : World} {held : Bool}

end
end Go.Proofs.Ytjdbmldkgjcniac
/- From a reading of an argument to a kernel in memory. -/
namespace Go.Proofs.Ytjdbmldkgjcniac
open Go.ChangeShapes Go.WideShapes Go.ChangeAt Go.RowKit Go.Joins Go.Deep
set_option linter.unusedVariables false
set_option maxRecDepth 8192

section
variable {H : Type} {enc : TypeId × Value → H} {W : World} {held : Bool}

theorem slice_arg {P : Program} {r : Reach} {b0 : Nat} {t e : TypeId} {v : Value} (ht : P.underlying t = some (.slice e)) (h : Value.okWide P W r b0 t v) : ∃ a l c, v = .slice a l c := by
  simp only [Value.okWide, ht, Cell.okWide] at h
  cases v <;> simp_all [Cell.ok]
end
end Go.Proofs.Ytjdbmldkgjcniac
/- From a reading of an argument to a slice of whole numbers in memory. -/
namespace Go.Proofs.Ytjdbmldkgjcniac
open Go.ChangeShapes Go.WideShapes Go.ChangeAt Go.RowKit Go.Joins Go.Deep
set_option linter.unusedVariables false
set_option maxRecDepth 8192
section
variable {H : Type} {enc : TypeId × Value → H} {W : World} {held : Bool}
end
end Go.Proofs.Ytjdbmldkgjcniac
