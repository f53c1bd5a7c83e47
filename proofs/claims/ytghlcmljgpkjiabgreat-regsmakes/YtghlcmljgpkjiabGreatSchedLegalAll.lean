/- Package sched's Legal answers as SLegalC says. -/
import Derived.Test.YtghlcmljgpkjiabGreatSchedLegalGo
import Derived.Test.YtghlcmljgpkjiabGreatDepP
namespace Go.Proofs.YtghlcmljgpkjiabGreat
theorem schedLegal_all : SLegalC := schedLegal_of depEdges_all
end Go.Proofs.YtghlcmljgpkjiabGreat
