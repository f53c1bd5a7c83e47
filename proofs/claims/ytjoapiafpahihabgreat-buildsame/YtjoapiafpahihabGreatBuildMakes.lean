import Derived.Test.YtjoapiafpahihabGreatRef10C
import Derived.Test.YtjoapiafpahihabGreatRef10A
import Derived.Test.YtjoapiafpahihabGreatBase
import Derived.Test.YtjoapiafpahihabGreatKernS
import Derived.Test.YtjoapiafpahihabGreatRef67
import Derived.Test.YtjoapiafpahihabGreatRef8A
namespace Go.Proofs.YtjoapiafpahihabGreat
open Go.RowKit Go.Joins
set_option linter.unusedVariables false
set_option linter.unusedSimpArgs false
set_option maxRecDepth 8192
def VZ:Prop:=∀(v:Value) (t:Tg) (L:Lp) (w:World),zk w v L ->
 Calls Tryz.prog 19 #[v,.agg t.cells] w fun e w'=>Below w.heap.size w w'/\∃k0 k1 kv oa ol oc c,e=.returned (.tuple #[.agg #[iV k0,iV k1,kv],.slice oa ol oc,iV c]) /\
  ((zx L && zp t)=false->c=2/\ol=0/\xh w' (.agg #[iV k0,iV k1,kv]) ⟨0,0,[]⟩) /\
  ((zx L && zp t)=true->(c=1/\t.r<5*(L.body.length:Int)/\ol=0/\xh w' (.agg #[iV k0,iV k1,kv]) ⟨0,0,[]⟩)\/(c=0/\∃K O,xh w' (.agg #[iV k0,iV k1,kv]) K/\yf w' (.slice oa ol oc) O/\yv L t K O=true/\(xP L t:Int)<=K.pc/\(xi L t:Int)<=K.pc/\K.pc<=Zm L t/\K.st*K.pc<=1200))
end Go.Proofs.YtjoapiafpahihabGreat
