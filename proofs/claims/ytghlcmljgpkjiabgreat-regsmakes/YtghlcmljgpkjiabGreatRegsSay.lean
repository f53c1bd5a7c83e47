/- What package regs' Make promises. -/
import Derived.Test.YtghlcmljgpkjiabGreatRegsSmall
namespace Go.Proofs.YtghlcmljgpkjiabGreat
open Go.RowKit Go.Joins
/-- how the program finds registers -/
def RegsC : Prop := ∀ (v pv : Value) (t : Tg) (L : Lp) (P : Int) (T : List Int) (w : World), LoopV w v L → PlanV w pv P T →
  Calls Tryz.prog 11 #[v, .agg t.cells, pv] w fun e w' => Below w.heap.size w w' ∧ ∃ da dl dc c, e = .returned (.tuple #[.slice da dl dc, .int .i64 c]) ∧ (legalD L t P T = false → c = 2 ∧ dl = 0) ∧
    (legalD L t P T = true → (c = 1 ∧ dl = 0 ∧ ¬ (5 * (L.body.length : Int) ≤ t.r ∧ overB L t P T = true)) ∨ (c = 0 ∧ ∃ D, Ints w' (.slice da dl dc) D ∧ destsOk L t D = true ∧ takenD L t (emitD L t P T D) (natO L.body.length) = true))
end Go.Proofs.YtghlcmljgpkjiabGreat
