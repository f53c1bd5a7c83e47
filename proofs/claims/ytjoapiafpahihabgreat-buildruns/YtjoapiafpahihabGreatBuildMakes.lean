import Derived.Test.YtjoapiafpahihabGreatRef10C
namespace Go.Proofs.YtjoapiafpahihabGreat
open Go.RowKit Go.Joins
set_option linter.unusedVariables false
set_option linter.unusedSimpArgs false
set_option maxRecDepth 8192
def zgo:Prop:=∀(v:Value) (t:Tg) (L:Lp) (w:World),zE w v L ->
 Calls Tryz.prog 19 #[v,.agg t.cells] w fun e w'=>Bw w w'/\∃k0 k1 kv oa ol oc c,e=.returned (.tuple #[.agg #[iV k0,iV k1,kv],.slice oa ol oc,iV c]) /\
  ((zY L && yj t)=false->c=2/\ol=0/\xF w' (.agg #[iV k0,iV k1,kv]) ⟨0,0,[]⟩) /\
  ((zY L && yj t)=true->(c=1/\t.r<5*(L.b.length:Int)/\ol=0/\xF w' (.agg #[iV k0,iV k1,kv]) ⟨0,0,[]⟩)\/(c=0/\∃K O,xF w' (.agg #[iV k0,iV k1,kv]) K/\zK w' (.slice oa ol oc) O/\zQ L t K O=true/\(X7 L t:Int)<=K.pc/\(ZA L t:Int)<=K.pc/\K.pc<=Xc L t/\K.st*K.pc<=1200))
end Go.Proofs.YtjoapiafpahihabGreat
