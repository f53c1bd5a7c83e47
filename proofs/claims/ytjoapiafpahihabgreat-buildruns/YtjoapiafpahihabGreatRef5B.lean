import Derived.Test.YtjoapiafpahihabGreatRef2L
import Derived.Test.YtjoapiafpahihabGreatRef6A
import Derived.Test.YtjoapiafpahihabGreatRef5A
import Derived.Deep.AppendLies
namespace Go.Proofs.YtjoapiafpahihabGreat
open Go.RowKit Go.Joins
set_option linter.unusedVariables false
def XD (t:Tg) (K:Kn) (regs:Nat) (M:List (List Int)) (gD:Int):Int :=
 if Zx M=true/\Yv t K (zN M)=true/\(regs:Int)=t.r then (if 0<=gD/\gD<=200 then 0 else 3) else 2
def zbv:Prop:=∀(t:Tg) (kv:Value) (K:Kn) (la:Option Addr) (lc:Nat) (logs:List Int) (w:World),xF w kv K->zK w (.slice la logs.length lc) logs ->
 Calls Tryz.prog 65 #[.agg t.cells,kv,.slice la logs.length lc] w (Rt w (.bool (Yv t K logs)))
def zt6:Prop:=∀(t:Tg) (kv rv mv:Value) (K:Kn) (R:List Int) (M:List (List Int)) (gD:Int) (w:World),xF w kv K->zK w rv R->yo w mv M->(∀x∈K.ops,I64 x.nn)->M.length<=3->XD t K R.length M gD=0->(gD+K.st)*K.pc<=20000 ->
 Calls Tryz.prog 27 #[.agg t.cells,kv,rv,mv,iV gD] w fun e w'=>∃ra rc ma mc rl ml,e=.returned (.tuple #[.slice ra rl rc,.slice ma ml mc,iV 0])/\Bw w w'/\zK w' (.slice ra rl rc) (XA R.length (Zm t K (zN M) gD R M))/\yo w' (.slice ma ml mc) (zap M (Zm t K (zN M) gD R M))
def wn (W:World) (g:Nat):World:=(((W.alloc (.cells #[iV 0,iV 0,iV 2,iV 0,iV 0,iV 0,iV 0,iV 0,iV 0,iV 0] 37)).alloc (.cells #[iV 1,iV 1,.slice (pA g) 1 1] 31)).alloc (.cells #[iV 1,iV 1,iV 1,iV 1,iV 1,iV 1,iV 1] 28)).alloc (.cells #[iV 7] 2)
end Go.Proofs.YtjoapiafpahihabGreat
