/- From a reading of an argument to a plan in memory. -/
import Derived.Test.YtghlcmljgpkjiabGreatRef8A
import Derived.Test.YtghlcmljgpkjiabGreatOpens
namespace Go.Proofs.YtghlcmljgpkjiabGreat
open Go.ChangeShapes Go.WideShapes Go.ChangeAt Go.RowKit Go.Joins Go.Deep
set_option linter.unusedVariables false
set_option maxRecDepth 8192

theorem Tryz.c49 : Tryz.prog.cellsOf 49 = 2 := by kernel_rfl
section
variable {H : Type} {enc : TypeId × Value → H} {W : World} {held : Bool}
/-- a plan, by value -/
theorem plan_open {r : Reach} {b0 : Nat} {v : Value} {d : DataW H} {p : List MemPlace} (hv : Value.okWide Tryz.prog W r b0 49 v) (h : DataW.Trod enc Tryz.prog W 0 (fun _ => true) held 49 v d p) : ∃ P T, PlanV W v P T ∧ -9223372036854775808 ≤ P ∧ P ≤ 9223372036854775807 := by
  obtain ⟨c0, c1, y0, y1, m, rfl, rfl, rfl, h0, h1⟩ := open_agg2 Tryz.underlying49 (by kernel_rfl) Tryz.c49 hv h
  obtain ⟨P, g0, -, hw⟩ := DataW.trod_int Tryz.underlying3 h0
  obtain ⟨T, g1⟩ := ints_open Tryz.underlying22 Tryz.underlying3 Tryz.c3 h1
  have e0 : c0 = .int .i64 P := by simpa using g0
  subst e0
  exact ⟨P, T, ⟨c1, rfl, g1⟩, bounds_i64 hw⟩
end
end Go.Proofs.YtghlcmljgpkjiabGreat
