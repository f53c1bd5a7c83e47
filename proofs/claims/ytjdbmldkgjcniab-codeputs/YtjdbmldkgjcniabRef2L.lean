/- Ref2L: texts that are built as one: Ref2Look, Ref2May, Ref2Fits. -/
import Derived.Test.YtjdbmldkgjcniabRef2Stmt
import Derived.Deep.QuietTactic
import Derived.BigQuiet
import Derived.Test.YtjdbmldkgjcniabLoopP
/- Contracts of the document's own answer on statements that look at others: for every loop in memory it says of each statement what stOk says; nothing that was there is changed. -/
namespace Go.Proofs.Ytjdbmldkgjcniab
open Go.RowKit Go.Joins
set_option linter.unusedVariables false

end Go.Proofs.Ytjdbmldkgjcniab
/- The contract of the document's own May: for every loop in memory it returns whether the loop may be; nothing that was there is changed. -/
namespace Go.Proofs.Ytjdbmldkgjcniab
open Go.RowKit Go.Joins
set_option linter.unusedVariables false

theorem i64_wrap (x : Int) (h0 : -9223372036854775808 ≤ x) (h1 : x ≤ 9223372036854775807) : IntKind.i64.wrap x = x := by rw [IntKind.wrap_i64]; omega
end Go.Proofs.Ytjdbmldkgjcniab
/- The contract of the document's own Fits: for every loop and state in memory it returns whether the state fits; nothing that was there is changed. -/
namespace Go.Proofs.Ytjdbmldkgjcniab
open Go.RowKit Go.Joins
set_option linter.unusedVariables false

end Go.Proofs.Ytjdbmldkgjcniab
