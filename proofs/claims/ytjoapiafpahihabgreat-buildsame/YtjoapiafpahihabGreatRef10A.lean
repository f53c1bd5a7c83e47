import Derived.Test.YtjoapiafpahihabGreatLoopStmt
import Derived.Deep.QuietTactic
import Derived.BigQuiet
namespace Go.Proofs.YtjoapiafpahihabGreat
open Go.RowKit Go.Joins
set_option linter.unusedVariables false
set_option linter.unusedSimpArgs false
set_option maxRecDepth 8192
def OfV (w:World) (v:Value) (n:Nat) (tm rd pl:Nat->Int):Prop :=
 ∃ a cap,v=.slice a n cap/\n<=cap/\cap<=maxLen /\
   (0<n->∃blk off,a=some ⟨blk,off,none⟩/\blk<w.heap.size/\∀i,i<n->w.cell? ⟨blk,off+i*3,none⟩=some (iV (tm i))/\w.cell? ⟨blk,off+i*3+1,none⟩=some (iV (rd i))/\w.cell? ⟨blk,off+i*3+2,none⟩=some (iV (pl i)))
theorem OfV.below {w w':World} {v:Value} {n:Nat} {tm rd pl:Nat->Int} (h:OfV w v n tm rd pl) (hb:Below w.heap.size w w'):OfV w' v n tm rd pl:=by
 obtain⟨a,cap,e,h1,h2,h4⟩:=h
 refine⟨a,cap,e,h1,h2,fun hp=>?_⟩
 obtain⟨b,off,e2,h5,h6⟩:=h4 hp
 refine⟨b,off,e2,Nat.lt_of_lt_of_le h5 hb.size,fun i hi=>?_⟩
 rw [zc hb _ _ h5,zc hb _ _ h5,zc hb _ _ h5]
 exact h6 i hi
section
variable (rd pl:Nat->Int) (pc rg:Int)
end
end Go.Proofs.YtjoapiafpahihabGreat
