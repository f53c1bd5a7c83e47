import Derived.Test.YtjoapiafpahihabGreatSounds
import Derived.Test.YtjoapiafpahihabGreatRef6A
import Derived.Test.YtjoapiafpahihabGreatKernS
namespace Go.Proofs.YtjoapiafpahihabGreat
open Go.RowKit Go.Joins
set_option linter.unusedVariables false
set_option linter.unusedSimpArgs false
set_option maxRecDepth 8192
def Z9 (L:Lp) (B:List (List Int)):Bool:=decide (B.length=L.b.length) && zC (fun i=>decide ((zv B i).length=3)) B.length
def zgr:Prop:=∀(v kv ov bv:Value) (t:Tg) (L:Lp) (K:Kn) (O:List Int) (B:List (List Int)) (w:World),zE w v L->xF w kv K->zK w ov O->yo w bv B ->
 Calls Tryz.prog 26 #[v,.agg t.cells,kv,ov,bv] w fun e w'=>Bw w w'/\∃ra rl rc c,e=.returned (.tuple #[.slice ra rl rc,iV c])/\((zQ L t K O && Z9 L B)=false->c=2/\rl=0)/\((zQ L t K O && Z9 L B)=true->c=0/\zK w' (.slice ra rl rc) (xA L t K O B))
def zgs:Prop:=∀(v kv ov bv rv:Value) (t:Tg) (L:Lp) (K:Kn) (O:List Int) (B:List (List Int)) (R:List Int) (gD:Int) (w:World),zE w v L->xF w kv K->zK w ov O->yo w bv B->zK w rv R ->
 Calls Tryz.prog 28 #[v,.agg t.cells,kv,ov,bv,rv,iV gD] w fun e w'=>Bw w w'/\∃ra rl rc c,e=.returned (.tuple #[.slice ra rl rc,iV c])/\((zQ L t K O && Z9 L B && decide ((R.length:Int)=t.r))=false->c=2/\rl=0)/\((zQ L t K O && Z9 L B && decide ((R.length:Int)=t.r))=true->inR gD 0 200=false->c=3/\rl=0)/\((zQ L t K O && Z9 L B && decide ((R.length:Int)=t.r))=true->inR gD 0 200=true->c=0/\zK w' (.slice ra rl rc) (xS L t K O B R gD))
end Go.Proofs.YtjoapiafpahihabGreat
