/- Package sched's Legal answers as SLegalC says. -/
import Derived.Test.YtkpkpaobhnhgpabSchedLegalGo
import Derived.Test.YtkpkpaobhnhgpabDepP
namespace Go.Proofs.Ytkpkpaobhnhgpab
theorem schedLegal_all : SLegalC := schedLegal_of depEdges_all
end Go.Proofs.Ytkpkpaobhnhgpab
