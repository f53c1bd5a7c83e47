import Derived.Test.YtjoapiafpahihabGreatLoopP
import Derived.Test.YtjoapiafpahihabGreatBase
import Derived.Deep.QuietTactic
import Derived.BigQuiet
import Derived.Test.YtjoapiafpahihabGreatMaths
namespace Go.Proofs.YtjoapiafpahihabGreat
open Go.RowKit Go.Joins
set_option linter.unusedVariables false
def Xx (w:World) (base:Nat) (G C:Nat->Nat) (n:Nat) (len:Nat->Nat) (f:Nat->Nat->Int):Prop :=
 (∀i,i<n->base<=G i/\len i<=C i/\C i<=maxLen/\zg w (G i) 2 (len i) (fun j=>iV (f i j)))/\∀i j,i<n->j<n->i≠j->G i≠G j
def znf (G C len:Nat->Nat) (i:Nat):Value:=.slice (some ⟨G i,0,none⟩) (len i) (C i)
theorem Xx.keep {w w':World} {base:Nat} {G C:Nat->Nat} {n:Nat} {len:Nat->Nat} {f:Nat->Nat->Int} (h:Xx w base G C n len f) (hb:∀i,i<n->w'.heap[G i]?=w.heap[G i]?):Xx w' base G C n len f :=
 ⟨fun i hi=>⟨(h.1 i hi).1,(h.1 i hi).2.1,(h.1 i hi).2.2.1,(h.1 i hi).2.2.2.of_block (hb i hi)⟩,h.2⟩
theorem Xx.below {w w':World} {base:Nat} {G C:Nat->Nat} {n:Nat} {len:Nat->Nat} {f:Nat->Nat->Int} (h:Xx w base G C n len f) (hb:Below w.heap.size w w'):Xx w' base G C n len f :=
 h.keep fun i hi=>hb.block _ (h.1 i hi).2.2.2.lt
theorem zad (zs:List Int) (i:Nat) (h:i<zs.length):(zs.map (Value.int .i64)).getD i (.bool false)=iV (nth zs i):=by
 simp [List.getD,nth,h]
theorem zml (w:World) (x:Value) (t:TypeId):∀(j:Nat) (u:Value),[x][j]?=some u->(w.alloc (.cells #[x] t)).cell? ((⟨w.heap.size,0,none⟩:Addr).add j)=some u:=by
 intro j u hj
 match j,hj with
 | 0,hj =>
   have h:x=u:=by simpa using hj
   subst h
   simp [Addr.add]
def zkw (w:World) (v:Value) (len T n:Nat) (val:Nat->Nat->Int):Prop :=
 ∃ g cap,v=.slice (some ⟨g,0,none⟩) len cap/\len<=cap/\cap<=maxLen/\g<w.heap.size /\
   ∀i,i<T->∃b c,w.cell? ⟨g,i,none⟩=some (.slice (some ⟨b,0,none⟩) n c)/\n<=c/\c<=maxLen/\b<w.heap.size/\∀k,k<n->w.cell? ⟨b,k,none⟩=some (iV (val i k))
theorem zkw.below {w w':World} {v:Value} {len T n:Nat} {val:Nat->Nat->Int} (h:zkw w v len T n val) (hb:Below w.heap.size w w'):zkw w' v len T n val:=by
 obtain⟨g,cap,e,h1,h2,h3,h4⟩:=h
 refine⟨g,cap,e,h1,h2,Nat.lt_of_lt_of_le h3 hb.size,fun i hi=>?_⟩
 obtain⟨b,c,h5,h6,h7,h8,h9⟩:=h4 i hi
 exact⟨b,c,by rw [zc hb _ _ h3];exact h5,h6,h7,Nat.lt_of_lt_of_le h8 hb.size,fun k hk=>by rw [zc hb _ _ h8];exact h9 k hk⟩
end Go.Proofs.YtjoapiafpahihabGreat
