/- Ref67: texts that are built as one: Ref6Edges, DepMay, Ref7Units, Ref7Rounds, Ref7Least, BoundSay. -/
import Derived.Test.YtjdbmldkgjcniabRef6Is
import Derived.Test.YtjdbmldkgjcniabRounds
import Derived.Test.YtjdbmldkgjcniabRef2L
import Derived.Test.YtjdbmldkgjcniabBase
import Derived.Deep.QuietTactic
import Derived.BigQuiet
/- The contract of the document's own edges: all that there are; nothing that was there is changed. -/
namespace Go.Proofs.Ytjdbmldkgjcniab
open Go.RowKit Go.Joins
set_option linter.unusedVariables false

end Go.Proofs.Ytjdbmldkgjcniab
/- The contracts of the document's own edges and of what may be, at loops and machines in memory; how the program tells edges (EdgesC). -/
namespace Go.Proofs.Ytjdbmldkgjcniab
open Go.RowKit Go.Joins
set_option linter.unusedVariables false

end Go.Proofs.Ytjdbmldkgjcniab
/- The contract of the document's own answer on units; nothing that was there is changed. -/
namespace Go.Proofs.Ytjdbmldkgjcniab
open Go.RowKit Go.Joins
set_option linter.unusedVariables false
set_option linter.unusedSimpArgs false
set_option maxRecDepth 8192

end Go.Proofs.Ytjdbmldkgjcniab
/- The contract of the document's own answer on rounds of edges; nothing that was there is changed. -/
namespace Go.Proofs.Ytjdbmldkgjcniab
open Go.RowKit Go.Joins
set_option linter.unusedVariables false
set_option linter.unusedSimpArgs false
set_option maxRecDepth 8192

end Go.Proofs.Ytjdbmldkgjcniab
/- The contract of the document's own least pace by rounds; nothing that was there is changed. -/
namespace Go.Proofs.Ytjdbmldkgjcniab
open Go.RowKit Go.Joins
set_option linter.unusedVariables false
set_option linter.unusedSimpArgs false
set_option maxRecDepth 8192

end Go.Proofs.Ytjdbmldkgjcniab
/- How the program tells the least paces (BoundC); the document's own, at loops and machines in memory. -/
namespace Go.Proofs.Ytjdbmldkgjcniab
open Go.RowKit Go.Joins
set_option linter.unusedVariables false
set_option linter.unusedSimpArgs false
set_option maxRecDepth 8192

end Go.Proofs.Ytjdbmldkgjcniab
