/- Ref10C: texts that are built as one: Ref10Leave, Ref10Enter. -/
import Derived.Test.YtghlcmljgpkjiabGreatRef10Lay
import Derived.Test.YtghlcmljgpkjiabGreatRef3B
import Derived.Test.YtghlcmljgpkjiabGreatRef10B
import Derived.Test.YtghlcmljgpkjiabGreatBase
/- The contract of the document's own Leave (J3), of a kernel that is laid out; nothing that was there is changed. -/
namespace Go.Proofs.YtghlcmljgpkjiabGreat
open Go.RowKit Go.Joins
set_option linter.unusedVariables false
set_option linter.unusedSimpArgs false
set_option maxRecDepth 8192

theorem place_range {L : Lp} {t : Tg} {K : Kn} {O : List Int} (h : layD L t K O = true) {s : Nat} (hs : s < L.body.length) : 0 ≤ placeJ K O s ∧ placeJ K O s ≤ 1127 := by
  obtain ⟨h1, h2, h3, h4, h5, h6⟩ := lay_parts h
  obtain ⟨o1, o2, -⟩ := ord_parts (h6 s hs).1
  obtain ⟨-, -, ⟨g5, g6⟩, -, g9, g10⟩ := op_range h3 (k := ordJ O s) (by unfold ordJ; omega)
  unfold placeJ opJ
  omega
end Go.Proofs.YtghlcmljgpkjiabGreat
/- The contract of the document's own Enter (J3), of a kernel that is laid out; nothing that was there is changed. -/
namespace Go.Proofs.YtghlcmljgpkjiabGreat
open Go.RowKit Go.Joins
set_option linter.unusedVariables false
set_option linter.unusedSimpArgs false
set_option maxRecDepth 8192

end Go.Proofs.YtghlcmljgpkjiabGreat
