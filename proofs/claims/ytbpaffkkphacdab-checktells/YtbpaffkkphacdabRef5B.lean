/- Ref5B: texts that are built as one: Ref5Wrong, Ref5Done, KernRuns, KernNone. -/
import Derived.Test.YtbpaffkkphacdabRef5May
import Derived.Test.YtbpaffkkphacdabRef5A
import Derived.Test.YtbpaffkkphacdabRef5Play
import Derived.Test.YtbpaffkkphacdabRef3A
/- The contract of the document's own answer on what is wrong with a run of a kernel; nothing that was there is changed. -/
namespace Go.Proofs.Ytbpaffkkphacdab
open Go.RowKit Go.Joins
set_option linter.unusedVariables false

/-- E2: what is wrong -/
def wrongK (t : Tg) (K : Kn) (regs : Nat) (M : List (List Int)) (turns : Int) : Int :=
  if hasLogs M = true ∧ mayK t K (logsOf M) = true ∧ (regs : Int) = t.r then (if 0 ≤ turns ∧ turns ≤ 200 then 0 else 3) else 2

end Go.Proofs.Ytbpaffkkphacdab
/- The document's own run of a kernel for every machine and kernel in memory; and the law's own measure of work. -/
namespace Go.Proofs.Ytbpaffkkphacdab
open Go.RowKit Go.Joins
set_option linter.unusedVariables false

end Go.Proofs.Ytbpaffkkphacdab
/- KernelRuns' walk: for every machine, kernel, registers, words and turns in memory the law returns true, if the program's May and Run answer as MayC and RunC say; nothing that was there is changed. -/
namespace Go.Proofs.Ytbpaffkkphacdab
open Go.RowKit Go.Joins
set_option linter.unusedVariables false

/-- how the program tells whether a kernel may be -/
def MayC : Prop := ∀ (t : Tg) (kv : Value) (K : Kn) (la : Option Addr) (lc : Nat) (logs : List Int) (w : World), KernV w kv K → Ints w (.slice la logs.length lc) logs →
  Calls Try.prog 117 #[.agg t.cells, kv, .slice la logs.length lc] w fun e w' => e = .returned (.bool (mayK t K logs)) ∧ Below w.heap.size w w'
end Go.Proofs.Ytbpaffkkphacdab
/- KernelNone's walk: for every machine, kernel, registers and words in memory the law returns true, if the program's Run answers as RunC says: with no turns nothing becomes anything else; nothing that was there is changed. -/
namespace Go.Proofs.Ytbpaffkkphacdab
open Go.RowKit Go.Joins
set_option linter.unusedVariables false

def wn (W : World) (g : Nat) : World := (((W.alloc (.cells #[.int .i64 0, .int .i64 0, .int .i64 2, .int .i64 0, .int .i64 0, .int .i64 0, .int .i64 0, .int .i64 0, .int .i64 0, .int .i64 0] 91)).alloc (.cells #[.int .i64 1, .int .i64 1, .slice (some ⟨g, 0, none⟩) 1 1] 40)).alloc (.cells #[.int .i64 1, .int .i64 1, .int .i64 1, .int .i64 1, .int .i64 1, .int .i64 1, .int .i64 1] 28)).alloc (.cells #[.int .i64 7] 2)
end Go.Proofs.Ytbpaffkkphacdab
