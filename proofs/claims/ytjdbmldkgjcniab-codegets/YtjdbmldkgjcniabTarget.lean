/- The contracts of the program's answers on machines; nothing that was there is changed. -/
import Derived.Test.YtjdbmldkgjcniabRef6A
namespace Go.Proofs.Ytjdbmldkgjcniab
open Go.RowKit Go.Joins
set_option linter.unusedVariables false

end Go.Proofs.Ytjdbmldkgjcniab
