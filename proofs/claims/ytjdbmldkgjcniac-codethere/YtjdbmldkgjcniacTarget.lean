/- The contracts of the program's answers on machines; nothing that was there is changed. -/
import Derived.Test.YtjdbmldkgjcniacRef6A
namespace Go.Proofs.Ytjdbmldkgjcniac
open Go.RowKit Go.Joins
set_option linter.unusedVariables false

end Go.Proofs.Ytjdbmldkgjcniac
