/- The contract of the Waits of all statements together, by the document; nothing that was there is changed. -/
import Derived.Test.YtkpkpaobhnhgpabRounds
import Derived.Test.YtkpkpaobhnhgpabRef67
import Derived.Test.YtkpkpaobhnhgpabRef6A
import Derived.Test.YtkpkpaobhnhgpabBase
namespace Go.Proofs.Ytkpkpaobhnhgpab
open Go.RowKit Go.Joins
set_option linter.unusedVariables false
set_option linter.unusedSimpArgs false
set_option maxRecDepth 8192

end Go.Proofs.Ytkpkpaobhnhgpab
