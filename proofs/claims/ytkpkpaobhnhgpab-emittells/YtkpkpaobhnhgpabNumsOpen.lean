/- From a reading of an argument to a slice of whole numbers in memory. -/
import Derived.Test.YtkpkpaobhnhgpabKernOpen
namespace Go.Proofs.Ytkpkpaobhnhgpab
open Go.ChangeShapes Go.WideShapes Go.ChangeAt Go.RowKit Go.Joins Go.Deep
set_option linter.unusedVariables false
set_option maxRecDepth 8192
section
variable {H : Type} {enc : TypeId × Value → H} {W : World} {held : Bool}
/-- a slice of ints, as an argument -/
theorem nums_arg {r : Reach} {b0 : Nat} {v : Value} {d : DataW H} {p : List MemPlace} (hv : Value.okWide Try.prog W r b0 22 v) (h : DataW.Trod enc Try.prog W 0 (fun _ => true) held 22 v d p) : ∃ zs, Ints W v zs := by
  obtain ⟨a, l, c, rfl⟩ := slice_arg Try.underlying22 hv
  obtain ⟨fuel, hf⟩ := h
  exact ints_open Try.underlying22 Try.underlying3 Try.c3 hf
end
end Go.Proofs.Ytkpkpaobhnhgpab
