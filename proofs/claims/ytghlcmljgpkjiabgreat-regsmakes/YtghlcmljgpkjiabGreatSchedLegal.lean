/- SchedLegal's walk: for every loop, machine and plan in memory the law returns true, if the program's Legal answers as SLegalC says; nothing that was there is changed. -/
import Derived.Test.YtghlcmljgpkjiabGreatRef8A
namespace Go.Proofs.YtghlcmljgpkjiabGreat
open Go.RowKit Go.Joins
set_option linter.unusedVariables false
set_option linter.unusedSimpArgs false
set_option maxRecDepth 8192

/-- how the program tells whether a plan is legal -/
def SLegalC : Prop := ∀ (v pv : Value) (t : Tg) (L : Lp) (P : Int) (T : List Int) (w : World), LoopV w v L → PlanV w pv P T →
  Calls Tryz.prog 34 #[v, .agg t.cells, pv] w fun e w' => e = .returned (.bool (legalD L t P T)) ∧ Below w.heap.size w w'
end Go.Proofs.YtghlcmljgpkjiabGreat
