import Derived.Test.YtjoapiafpahihabGreatRounds
import Derived.Test.YtjoapiafpahihabGreatRef67
import Derived.Deep.QuietTactic
import Derived.BigQuiet
import Derived.Test.YtjoapiafpahihabGreatRef6A
import Derived.Test.YtjoapiafpahihabGreatBase
namespace Go.Proofs.YtjoapiafpahihabGreat
open Go.RowKit Go.Joins
set_option linter.unusedVariables false
set_option linter.unusedSimpArgs false
set_option maxRecDepth 8192
def Zl (w:World) (v:Value) (P:Int) (T:List Int):Prop:=∃tv,v=.agg #[iV P,tv]/\yf w tv T
theorem Zl.below {w w':World} {v:Value} {P:Int} {T:List Int} (h:Zl w v P T) (hb:Below w.heap.size w w'):Zl w' v P T:=by
 obtain⟨tv,e,h1⟩:=h
 exact⟨tv,e,h1.below hb⟩
theorem Uj {L:Lp} {t:Tg} {P:Int} {T:List Int} (h:(zx L && zp t)=false\/P<1\/200<P\/T.length≠L.body.length):zD L t P T=false:=by
 cases e:zD L t P T with
 | false=>rfl
 | true =>
   obtain⟨h1,h2,h3,h4,h5,-⟩:=zL e
   rw [h1,h2] at h
   rcases h with h | h | h | h
   ·cases h
   ·omega
   ·omega
   ·exact absurd h5 h
theorem zm5 {L:Lp} {t:Tg} {P:Int} {T:List Int} (h1:(zx L && zp t)=true) (h2:1<=P) (h3:P<=200) (h4:T.length=L.body.length):zD L t P T=(zh (Y6 L t P T) T.length && zh (fun i=>Yz P T (zu (z8 L t) i)) (z8 L t).length):=by
 have h5:zx L=true/\zp t=true:=by simpa using h1
 unfold zD
 rw [h5.1,h5.2,zK ⟨h2,h3⟩,decide_eq_true h4]
 rfl
theorem yY {w wr:World} {L:Lp} {a0 a1 a2 ta:Option Addr} {cap0 cap1 cap2 tc:Nat} {p0 p1 p2 q0 q1 q2 r P:Int} {T:List Int} (h:Below (w.heap.size+1+1+1) (((w.alloc (.cells #[.slice a0 L.logs.length cap0,.slice a1 L.body.length cap1,.slice a2 L.outs.length cap2] 25)).alloc (.cells #[iV p0,iV p1,iV p2,iV q0,iV q1,iV q2,iV r] 28)).alloc (.cells #[iV P,.slice ta T.length tc] 49)) wr):(wr.cell? ⟨w.heap.size,0,none⟩=some (.slice a0 L.logs.length cap0)/\wr.cell? ⟨w.heap.size,1,none⟩=some (.slice a1 L.body.length cap1)/\wr.cell? ⟨w.heap.size,2,none⟩=some (.slice a2 L.outs.length cap2)) /\
  (wr.cell? ⟨w.heap.size+1,0,none⟩=some (iV p0)/\wr.cell? ⟨w.heap.size+1,1,none⟩=some (iV p1)/\wr.cell? ⟨w.heap.size+1,2,none⟩=some (iV p2)/\wr.cell? ⟨w.heap.size+1,3,none⟩=some (iV q0)/\wr.cell? ⟨w.heap.size+1,4,none⟩=some (iV q1)/\wr.cell? ⟨w.heap.size+1,5,none⟩=some (iV q2)/\wr.cell? ⟨w.heap.size+1,6,none⟩=some (iV r)) /\
  (wr.cell? ⟨w.heap.size+1+1,0,none⟩=some (iV P)/\wr.cell? ⟨w.heap.size+1+1,1,none⟩=some (.slice ta T.length tc))/\w.heap.size+1+1<wr.heap.size/\Below w.heap.size w wr:=by
 have hs:(((w.alloc (.cells #[.slice a0 L.logs.length cap0,.slice a1 L.body.length cap1,.slice a2 L.outs.length cap2] 25)).alloc (.cells #[iV p0,iV p1,iV p2,iV q0,iV q1,iV q2,iV r] 28)).alloc (.cells #[iV P,.slice ta T.length tc] 49)).heap.size=w.heap.size+1+1+1:=by simp
 have hz:=h.size
 have h':Below (((w.alloc (.cells #[.slice a0 L.logs.length cap0,.slice a1 L.body.length cap1,.slice a2 L.outs.length cap2] 25)).alloc (.cells #[iV p0,iV p1,iV p2,iV q0,iV q1,iV q2,iV r] 28)).alloc (.cells #[iV P,.slice ta T.length tc] 49)).heap.size (((w.alloc (.cells #[.slice a0 L.logs.length cap0,.slice a1 L.body.length cap1,.slice a2 L.outs.length cap2] 25)).alloc (.cells #[iV p0,iV p1,iV p2,iV q0,iV q1,iV q2,iV r] 28)).alloc (.cells #[iV P,.slice ta T.length tc] 49)) wr:=by rw [hs];exact h
 refine⟨⟨?_,?_,?_⟩,⟨?_,?_,?_,?_,?_,?_,?_⟩,⟨?_,?_⟩,by omega,(below_alloc3 w _ _ _).trans (h.mono (by omega))⟩
 all_goals rw [zc h' _ _ (by omega)]
 all_goals go_simp
theorem VO (o:Int):∃cn:Nat,zC o=(cn:Int)/\cn<3:=by
 rcases Y2 o with h | h | h
 ·exact⟨0,h,by omega⟩
 ·exact⟨1,h,by omega⟩
 ·exact⟨2,h,by omega⟩
set_option maxRecDepth 8192
def yC (L:Lp) (t:Tg) (k:Nat):Int:=yH (fun i=>zr t (z6 L.body i).o) k
def Zm (L:Lp) (t:Tg):Int:=yC L t L.body.length
theorem xp {t:Tg} (o:Int) (h:zp t=true):1<=zr t o/\zr t o<=6:=by
 obtain⟨h1,h2,h3,-,-⟩:=yi h
 have h1:=zT h1
 have h2:=zT h2
 have h3:=zT h3
 have hw:zr t o=xA t (zC o):=by unfold zr;rw [if_pos h]
 rw [hw]
 unfold xA
 split
 ·omega
 ·split <;> omega
theorem V0 {L:Lp} {t:Tg} (h:zp t=true):∀k,0<=yC L t k/\yC L t k<=6*k:=by
 intro k
 induction k with
 | zero=>exact⟨Int.le_refl _,Int.le_refl _⟩
 | succ k ih =>
   have:=xp (z6 L.body k).o h
   show 0<=yC L t k+zr t (z6 L.body k).o/\yC L t k+zr t (z6 L.body k).o<=_
   omega
set_option maxRecDepth 8192
def YZ:Prop:=∀(v pv:Value) (t:Tg) (L:Lp) (P:Int) (T:List Int) (w:World),zk w v L->Zl w pv P T ->
 Calls Tryz.prog 40 #[v,.agg t.cells,pv] w fun e w'=>e=.returned (.bool (zD L t P T))/\Below w.heap.size w w'
end Go.Proofs.YtjoapiafpahihabGreat
