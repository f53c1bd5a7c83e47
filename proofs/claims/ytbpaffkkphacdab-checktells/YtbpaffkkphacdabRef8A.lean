/- Ref8A: texts that are built as one: Ref8Legal, Ref8All. -/
import Derived.Test.YtbpaffkkphacdabRounds
import Derived.Test.YtbpaffkkphacdabRef67
import Derived.Deep.QuietTactic
import Derived.BigQuiet
import Derived.Test.YtbpaffkkphacdabRef6A
import Derived.Test.YtbpaffkkphacdabBase
/- The contract of the document's own answer on plans; nothing that was there is changed. -/
namespace Go.Proofs.Ytbpaffkkphacdab
open Go.RowKit Go.Joins
set_option linter.unusedVariables false
set_option linter.unusedSimpArgs false
set_option maxRecDepth 8192

/-- v is the plan of pace P and times T -/
def PlanV (w : World) (v : Value) (P : Int) (T : List Int) : Prop := ∃ tv, v = .agg #[.int .i64 P, tv] ∧ Ints w tv T
theorem PlanV.below {w w' : World} {v : Value} {P : Int} {T : List Int} (h : PlanV w v P T) (hb : Below w.heap.size w w') : PlanV w' v P T := by
  obtain ⟨tv, e, h1⟩ := h
  exact ⟨tv, e, h1.below hb⟩
end Go.Proofs.Ytbpaffkkphacdab
/- The contract of the Waits of all statements together, by the document; nothing that was there is changed. -/
namespace Go.Proofs.Ytbpaffkkphacdab
open Go.RowKit Go.Joins
set_option linter.unusedVariables false
set_option linter.unusedSimpArgs false
set_option maxRecDepth 8192

theorem wait_le {t : Tg} (o : Int) (h : mayT t = true) : 1 ≤ waitT t o ∧ waitT t o ≤ 6 := by
  obtain ⟨h1, h2, h3, -, -⟩ := mayT_parts h
  have h1 := unit_iff h1
  have h2 := unit_iff h2
  have h3 := unit_iff h3
  have hw : waitT t o = waitsT t (clsv o) := by unfold waitT; rw [if_pos h]
  rw [hw]
  unfold waitsT
  split
  · omega
  · split <;> omega
end Go.Proofs.Ytbpaffkkphacdab
