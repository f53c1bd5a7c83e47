/- Ref67: texts that are built as one: Ref6Edges, DepMay, Ref7Units, Ref7Rounds, Ref7Least, BoundSay. -/
import Derived.Test.YtjlfcbccpcigeacDoorRef6Is
import Derived.Test.YtjlfcbccpcigeacDoorRounds
import Derived.Test.YtjlfcbccpcigeacDoorRef2L
import Derived.Test.YtjlfcbccpcigeacDoorBase
import Derived.Deep.QuietTactic
import Derived.BigQuiet
/- The contract of the document's own edges: all that there are; nothing that was there is changed. -/
namespace Go.Proofs.YtjlfcbccpcigeacDoor
open Go.RowKit Go.Joins
set_option linter.unusedVariables false

end Go.Proofs.YtjlfcbccpcigeacDoor
/- The contracts of the document's own edges and of what may be, at loops and machines in memory; how the program tells edges (EdgesC). -/
namespace Go.Proofs.YtjlfcbccpcigeacDoor
open Go.RowKit Go.Joins
set_option linter.unusedVariables false

end Go.Proofs.YtjlfcbccpcigeacDoor
/- The contract of the document's own answer on units; nothing that was there is changed. -/
namespace Go.Proofs.YtjlfcbccpcigeacDoor
open Go.RowKit Go.Joins
set_option linter.unusedVariables false
set_option linter.unusedSimpArgs false
set_option maxRecDepth 8192

end Go.Proofs.YtjlfcbccpcigeacDoor
/- The contract of the document's own answer on rounds of edges; nothing that was there is changed. -/
namespace Go.Proofs.YtjlfcbccpcigeacDoor
open Go.RowKit Go.Joins
set_option linter.unusedVariables false
set_option linter.unusedSimpArgs false
set_option maxRecDepth 8192

end Go.Proofs.YtjlfcbccpcigeacDoor
/- The contract of the document's own least pace by rounds; nothing that was there is changed. -/
namespace Go.Proofs.YtjlfcbccpcigeacDoor
open Go.RowKit Go.Joins
set_option linter.unusedVariables false
set_option linter.unusedSimpArgs false
set_option maxRecDepth 8192

end Go.Proofs.YtjlfcbccpcigeacDoor
/- How the program tells the least paces (BoundC); the document's own, at loops and machines in memory. -/
namespace Go.Proofs.YtjlfcbccpcigeacDoor
open Go.RowKit Go.Joins
set_option linter.unusedVariables false
set_option linter.unusedSimpArgs false
set_option maxRecDepth 8192

end Go.Proofs.YtjlfcbccpcigeacDoor
