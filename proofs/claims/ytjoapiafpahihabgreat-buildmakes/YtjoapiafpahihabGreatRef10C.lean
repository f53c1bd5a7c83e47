import Derived.Test.YtjoapiafpahihabGreatRef10Lay
import Derived.Test.YtjoapiafpahihabGreatRef3B
import Derived.Test.YtjoapiafpahihabGreatRef10B
import Derived.Test.YtjoapiafpahihabGreatBase
namespace Go.Proofs.YtjoapiafpahihabGreat
open Go.RowKit Go.Joins
set_option linter.unusedVariables false
set_option linter.unusedSimpArgs false
set_option maxRecDepth 8192
theorem zdr {L:Lp} {t:Tg} {K:Kn} {O:List Int} (h:xH L t K O=true) {s:Nat} (hs:s<L.body.length):0<=zm K O s/\zm K O s<=1127:=by
 obtain⟨h1,h2,h3,h4,h5,h6⟩:=Zq h
 obtain⟨o1,o2,-⟩:=X6 (h6 s hs).1
 obtain⟨-,-,⟨g5,g6⟩,-,g9,g10⟩:=Us h3 (k:=yt O s) (by unfold yt;omega)
 unfold zm opJ
 omega
end Go.Proofs.YtjoapiafpahihabGreat
