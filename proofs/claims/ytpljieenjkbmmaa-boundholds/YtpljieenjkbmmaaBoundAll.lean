/- Package bound answers as BoundC says. -/
import Derived.Test.YtpljieenjkbmmaaBoundGo
import Derived.Test.YtpljieenjkbmmaaDepAll
namespace Go.Proofs.Ytpljieenjkbmmaa
theorem bound_all : BoundC := bound_all_of depEdges_all
end Go.Proofs.Ytpljieenjkbmmaa
