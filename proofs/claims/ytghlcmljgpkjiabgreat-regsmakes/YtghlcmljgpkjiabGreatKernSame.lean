/- The contract of the document's own comparison of kernels, of two that are the same; nothing that was there is changed. -/
import Derived.Test.YtghlcmljgpkjiabGreatKernS
import Derived.Deep.QuietTactic
import Derived.BigQuiet
namespace Go.Proofs.YtghlcmljgpkjiabGreat
open Go.RowKit Go.Joins
set_option linter.unusedVariables false
set_option linter.unusedSimpArgs false
set_option maxRecDepth 8192

end Go.Proofs.YtghlcmljgpkjiabGreat
