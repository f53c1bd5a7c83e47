import Derived.Test.YtjoapiafpahihabGreatMaths
import Derived.Test.YtjoapiafpahihabGreatLoopStmt
namespace Go.Proofs.YtjoapiafpahihabGreat
open Go.RowKit Go.Joins
set_option linter.unusedVariables false
theorem zz7 (x:Int) (h0:-9223372036854775808<=x) (h1:x<=9223372036854775807):IntKind.i64.wrap x=x:=by rw [IntKind.wrap_i64];omega
theorem zni (o:Int):(o=3/\(o == 3)=true/\(o == 4)=false)\/(o=4/\(o == 3)=false/\(o == 4)=true)\/(¬o=3/\¬o=4/\(o == 3)=false/\(o == 4)=false):=by
 by_cases h3:o=3
 ·subst h3;exact .inl ⟨rfl,rfl,rfl⟩
 ·by_cases h4:o=4
  ·subst h4;exact .inr (.inl ⟨rfl,rfl,rfl⟩)
  ·exact .inr (.inr ⟨h3,h4,by simpa using h3,by simpa using h4⟩)
def Tg.cells (t:Tg):Array Value:=#[iV t.u0,iV t.u1,iV t.u2,iV t.w0,iV t.w1,iV t.w2,iV t.r]
end Go.Proofs.YtjoapiafpahihabGreat
