/- The contract of the document's own answer on an edge: is there one? Nothing that was there is changed. -/
import Derived.Test.YtjlfcbccpcigeacDoorRef6A
import Derived.Test.YtjlfcbccpcigeacDoorBase
import Derived.Deep.RegionHeld3
import Derived.BigRegion
import Derived.Deep.QuietTactic
import Derived.BigQuiet
namespace Go.Proofs.YtjlfcbccpcigeacDoor
open Go.RowKit Go.Joins
set_option linter.unusedVariables false

end Go.Proofs.YtjlfcbccpcigeacDoor
