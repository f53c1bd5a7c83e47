import Derived.Test.YtjoapiafpahihabGreatSounds
import Derived.Test.YtjoapiafpahihabGreatRef8A
import Derived.Test.YtjoapiafpahihabGreatRef3B
import Derived.Test.YtjoapiafpahihabGreatRef67
import Derived.Test.YtjoapiafpahihabGreatBase
namespace Go.Proofs.YtjoapiafpahihabGreat
open Go.RowKit Go.Joins
set_option linter.unusedVariables false
set_option linter.unusedSimpArgs false
set_option maxRecDepth 8192
theorem zbx {w:World} {base:Nat} {e:TypeId} {v:Value} {zs:List Int} (h:w.ownsRow base e 1 v zs.length (zs.map (Value.int .i64))) (hz:∀i,i<zs.length->-9223372036854775808<=nth zs i/\nth zs i<=9223372036854775807):yf w v zs:=by
 obtain⟨a,cap,hv,h1,h2⟩:=X7 h
 refine⟨a,cap,hv,h1,h2,hz,fun hp=>?_⟩
 obtain⟨g,c,hv2,hg,h3,h4,hr⟩:=Zs h (.inr hp)
 rw [hv] at hv2
 injection hv2 with e1 e2 e3
 refine⟨g,0,e1,hr.lt,fun i hi=>?_⟩
 rw [Nat.zero_add,hr.cell hi,zad zs i hi]
def XS (L:Lp) (t:Tg) (P:Int) (T:List Int):Bool:=zh (fun i=>decide (nth T i+zr t (z6 L.body i).o<=P)) L.body.length
def zcp:Prop:=∀(v pv:Value) (t:Tg) (L:Lp) (P:Int) (T:List Int) (w:World),zk w v L->Zl w pv P T ->
 Calls Tryz.prog 13 #[v,.agg t.cells,pv] w fun e w'=>Below w.heap.size w w'/\∃da dl dc c,e=.returned (.tuple #[.slice da dl dc,iV c])/\(zD L t P T=false->c=2/\dl=0) /\
  (zD L t P T=true->(c=1/\dl=0/\¬(5*(L.body.length:Int)<=t.r/\XS L t P T=true))\/(c=0/\∃D,yf w' (.slice da dl dc) D/\yI L t D=true/\yv L t (zy L t P T D) (yp L.body.length)=true))
end Go.Proofs.YtjoapiafpahihabGreat
