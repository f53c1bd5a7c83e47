/- Ref8A: texts that are built as one: Ref8Legal, Ref8All, SchedLegal, SchedMakes. -/
import Derived.Test.YtjlfcbccpcigeacDoorRounds
import Derived.Test.YtjlfcbccpcigeacDoorRef67
import Derived.Deep.QuietTactic
import Derived.BigQuiet
import Derived.Test.YtjlfcbccpcigeacDoorRef6A
import Derived.Test.YtjlfcbccpcigeacDoorBase
/- The contract of the document's own answer on plans; nothing that was there is changed. -/
namespace Go.Proofs.YtjlfcbccpcigeacDoor
open Go.RowKit Go.Joins
set_option linter.unusedVariables false
set_option linter.unusedSimpArgs false
set_option maxRecDepth 8192

/-- v is the plan of pace P and times T -/
def PlanV (w : World) (v : Value) (P : Int) (T : List Int) : Prop := ∃ tv, v = .agg #[.int .i64 P, tv] ∧ Ints w tv T
theorem PlanV.below {w w' : World} {v : Value} {P : Int} {T : List Int} (h : PlanV w v P T) (hb : Below w.heap.size w w') : PlanV w' v P T := by
  obtain ⟨tv, e, h1⟩ := h
  exact ⟨tv, e, h1.below hb⟩
end Go.Proofs.YtjlfcbccpcigeacDoor
/- The contract of the Waits of all statements together, by the document; nothing that was there is changed. -/
namespace Go.Proofs.YtjlfcbccpcigeacDoor
open Go.RowKit Go.Joins
set_option linter.unusedVariables false
set_option linter.unusedSimpArgs false
set_option maxRecDepth 8192

end Go.Proofs.YtjlfcbccpcigeacDoor
/- SchedLegal's walk: for every loop, machine and plan in memory the law returns true, if the program's Legal answers as SLegalC says; nothing that was there is changed. -/
namespace Go.Proofs.YtjlfcbccpcigeacDoor
open Go.RowKit Go.Joins
set_option linter.unusedVariables false
set_option linter.unusedSimpArgs false
set_option maxRecDepth 8192

end Go.Proofs.YtjlfcbccpcigeacDoor
/- SchedMakes' walk: for every loop, machine and least pace in memory the law returns true, if the program's Make answers as MakeC says; nothing that was there is changed. -/
namespace Go.Proofs.YtjlfcbccpcigeacDoor
open Go.RowKit Go.Joins
set_option linter.unusedVariables false
set_option linter.unusedSimpArgs false
set_option maxRecDepth 8192

end Go.Proofs.YtjlfcbccpcigeacDoor
