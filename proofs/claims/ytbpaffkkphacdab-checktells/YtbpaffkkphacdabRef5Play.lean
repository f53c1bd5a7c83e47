/- The contract of the document's own run of a kernel: the registers and the words that playK says; nothing that was there is changed. -/
import Derived.Test.YtbpaffkkphacdabRef5A
import Derived.Test.YtbpaffkkphacdabBase
import Derived.Test.YtbpaffkkphacdabNums
import Derived.Deep.QuietTactic
import Derived.BigQuiet
import Derived.Deep.RegionHeld3
import Derived.BigRegion
import Derived.Deep.AppendLies
namespace Go.Proofs.Ytbpaffkkphacdab
open Go.RowKit Go.Joins
set_option linter.unusedVariables false

end Go.Proofs.Ytbpaffkkphacdab
