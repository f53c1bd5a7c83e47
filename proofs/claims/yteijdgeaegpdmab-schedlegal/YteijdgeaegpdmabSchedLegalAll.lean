/- Package sched's Legal answers as SLegalC says. -/
import Derived.Test.YteijdgeaegpdmabSchedLegalGo
import Derived.Test.YteijdgeaegpdmabDepP
namespace Go.Proofs.Yteijdgeaegpdmab
theorem schedLegal_all : SLegalC := schedLegal_of depEdges_all
end Go.Proofs.Yteijdgeaegpdmab
