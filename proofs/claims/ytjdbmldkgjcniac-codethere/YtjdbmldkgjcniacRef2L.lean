/- Ref2L: texts that are built as one: Ref2Look, Ref2May, Ref2Fits. -/
import Derived.Test.YtjdbmldkgjcniacRef2Stmt
import Derived.Deep.QuietTactic
import Derived.BigQuiet
import Derived.Test.YtjdbmldkgjcniacLoopP
/- Contracts of the document's own answer on statements that look at others: for every loop in memory it says of each statement what stOk says; nothing that was there is changed. -/
namespace Go.Proofs.Ytjdbmldkgjcniac
open Go.RowKit Go.Joins
set_option linter.unusedVariables false

end Go.Proofs.Ytjdbmldkgjcniac
/- The contract of the document's own May: for every loop in memory it returns whether the loop may be; nothing that was there is changed. -/
namespace Go.Proofs.Ytjdbmldkgjcniac
open Go.RowKit Go.Joins
set_option linter.unusedVariables false

end Go.Proofs.Ytjdbmldkgjcniac
/- The contract of the document's own Fits: for every loop and state in memory it returns whether the state fits; nothing that was there is changed. -/
namespace Go.Proofs.Ytjdbmldkgjcniac
open Go.RowKit Go.Joins
set_option linter.unusedVariables false

end Go.Proofs.Ytjdbmldkgjcniac
