import Derived.Test.YtjoapiafpahihabGreatSounds
import Derived.Test.YtjoapiafpahihabGreatRef8A
import Derived.Test.YtjoapiafpahihabGreatRef3B
namespace Go.Proofs.YtjoapiafpahihabGreat
open Go.RowKit Go.Joins
set_option linter.unusedVariables false
set_option linter.unusedSimpArgs false
set_option maxRecDepth 8192
theorem zhf {w:World} {base:Nat} {e:TypeId} {v:Value} {zs:List Int} (h:w.ownsRow base e 1 v zs.length (zs.map (Value.int .i64))) (hz:∀i,i<zs.length->-9223372036854775808<=nth zs i/\nth zs i<=9223372036854775807):zK w v zs:=by
 obtain⟨a,cap,hv,h1,h2⟩:=ZI h
 refine⟨a,cap,hv,h1,h2,hz,fun hp=>?_⟩
 obtain⟨g,c,hv2,hg,h3,h4,hr⟩:=yx h (.inr hp)
 rw [hv] at hv2
 injection hv2 with e1 e2 e3
 refine⟨g,0,e1,hr.lt,fun i hi=>?_⟩
 rw [Nat.zero_add,hr.cell hi,XI zs i hi]
def zaf (L:Lp) (t:Tg) (P:Int) (T:List Int):Bool:=zC (fun i=>decide (nth T i+zO t (zc L.b i).o<=P)) L.b.length
def zgu:Prop:=∀(v pv:Value) (t:Tg) (L:Lp) (P:Int) (T:List Int) (w:World),zE w v L->YI w pv P T->zV L t P T=true ->
 Calls Tryz.prog 13 #[v,.agg t.cells,pv] w fun e w'=>Bw w w'/\∃da dl dc c,e=.returned (.tuple #[.slice da dl dc,iV c]) /\
  ((c=1/\dl=0/\¬(5*(L.b.length:Int)<=t.r/\zaf L t P T=true))\/(c=0/\∃D,zK w' (.slice da dl dc) D/\xj L t D=true/\zQ L t (zR L t P T D) (yI L.b.length)=true))
end Go.Proofs.YtjoapiafpahihabGreat
