/- From a reading of an argument to a kernel in memory. -/
import Derived.Test.YtkpkpaobhnhgpabKernS
import Derived.Test.YtkpkpaobhnhgpabOpens
namespace Go.Proofs.Ytkpkpaobhnhgpab
open Go.ChangeShapes Go.WideShapes Go.ChangeAt Go.RowKit Go.Joins Go.Deep
set_option linter.unusedVariables false
set_option maxRecDepth 8192

theorem Try.c93 : Try.prog.cellsOf 93 = 10 := by kernel_rfl
theorem Try.c38 : Try.prog.cellsOf 38 = 1 := by kernel_rfl
theorem Try.c40 : Try.prog.cellsOf 40 = 3 := by kernel_rfl

section
variable {H : Type} {enc : TypeId × Value → H} {W : World} {held : Bool}

theorem slice_arg {P : Program} {r : Reach} {b0 : Nat} {t e : TypeId} {v : Value} (ht : P.underlying t = some (.slice e)) (h : Value.okWide P W r b0 t v) : ∃ a l c, v = .slice a l c := by
  simp only [Value.okWide, ht, Cell.okWide] at h
  cases v <;> simp_all [Cell.ok]
end
end Go.Proofs.Ytkpkpaobhnhgpab
