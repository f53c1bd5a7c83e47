/- EmitTells' walk: for every loop, machine, plan and registers in memory the law returns true, if the program's Emit and the document's answer as EmitPost says; nothing that was there is changed. -/
import Derived.Test.YtghlcmljgpkjiabGreatSounds
import Derived.Test.YtghlcmljgpkjiabGreatKernSame
import Derived.Test.YtghlcmljgpkjiabGreatRef8A
namespace Go.Proofs.YtghlcmljgpkjiabGreat
open Go.RowKit Go.Joins
set_option linter.unusedVariables false
set_option linter.unusedSimpArgs false
set_option maxRecDepth 8192

/-- the kernel that is told: of a plan and registers that may be; else none -/
def emitK (L : Lp) (t : Tg) (P : Int) (T D : List Int) : Kn := if (legalD L t P T && destsOk L t D) = true then emitD L t P T D else ⟨0, 0, []⟩
def emitC (L : Lp) (t : Tg) (P : Int) (T D : List Int) : Int := if (legalD L t P T && destsOk L t D) = true then 0 else 2
/-- what Emit answers -/
def EmitPost (L : Lp) (t : Tg) (P : Int) (T D : List Int) (w : World) (e : Ending) (w' : World) : Prop :=
  Below w.heap.size w w' ∧ ∃ k0 k1 kv, e = .returned (.tuple #[.agg #[.int .i64 k0, .int .i64 k1, kv], .int .i64 (emitC L t P T D)]) ∧ KernV w' (.agg #[.int .i64 k0, .int .i64 k1, kv]) (emitK L t P T D)
/-- how the document does -/
def EmitRefC : Prop := ∀ (v pv dv : Value) (t : Tg) (L : Lp) (P : Int) (T D : List Int) (w : World), LoopV w v L → PlanV w pv P T → Ints w dv D → Calls Tryz.prog 14 #[v, .agg t.cells, pv, dv] w (EmitPost L t P T D w)

end Go.Proofs.YtghlcmljgpkjiabGreat
