/- Ref67: texts that are built as one: Ref6Edges, DepMay, Ref7Units, Ref7Rounds, Ref7Least, BoundSay. -/
import Derived.Test.YtjdbmldkgjcniacRef6Is
import Derived.Test.YtjdbmldkgjcniacRounds
import Derived.Test.YtjdbmldkgjcniacRef2L
import Derived.Test.YtjdbmldkgjcniacBase
import Derived.Deep.QuietTactic
import Derived.BigQuiet
/- The contract of the document's own edges: all that there are; nothing that was there is changed. -/
namespace Go.Proofs.Ytjdbmldkgjcniac
open Go.RowKit Go.Joins
set_option linter.unusedVariables false

end Go.Proofs.Ytjdbmldkgjcniac
/- The contracts of the document's own edges and of what may be, at loops and machines in memory; how the program tells edges (EdgesC). -/
namespace Go.Proofs.Ytjdbmldkgjcniac
open Go.RowKit Go.Joins
set_option linter.unusedVariables false

end Go.Proofs.Ytjdbmldkgjcniac
/- The contract of the document's own answer on units; nothing that was there is changed. -/
namespace Go.Proofs.Ytjdbmldkgjcniac
open Go.RowKit Go.Joins
set_option linter.unusedVariables false
set_option linter.unusedSimpArgs false
set_option maxRecDepth 8192

end Go.Proofs.Ytjdbmldkgjcniac
/- The contract of the document's own answer on rounds of edges; nothing that was there is changed. -/
namespace Go.Proofs.Ytjdbmldkgjcniac
open Go.RowKit Go.Joins
set_option linter.unusedVariables false
set_option linter.unusedSimpArgs false
set_option maxRecDepth 8192

end Go.Proofs.Ytjdbmldkgjcniac
/- The contract of the document's own least pace by rounds; nothing that was there is changed. -/
namespace Go.Proofs.Ytjdbmldkgjcniac
open Go.RowKit Go.Joins
set_option linter.unusedVariables false
set_option linter.unusedSimpArgs false
set_option maxRecDepth 8192

end Go.Proofs.Ytjdbmldkgjcniac
/- How the program tells the least paces (BoundC); the document's own, at loops and machines in memory. -/
namespace Go.Proofs.Ytjdbmldkgjcniac
open Go.RowKit Go.Joins
set_option linter.unusedVariables false
set_option linter.unusedSimpArgs false
set_option maxRecDepth 8192

end Go.Proofs.Ytjdbmldkgjcniac
