import Derived.Test.YtjoapiafpahihabGreatRef67
namespace Go.Proofs.YtjoapiafpahihabGreat
open Go.RowKit Go.Joins
set_option linter.unusedVariables false
set_option linter.unusedSimpArgs false
set_option maxRecDepth 8192
variable {w:World} {P:Int} {T:List Int} {L:Lp} {t:Tg}
def YI (w:World) (v:Value) (P:Int) (T:List Int):Prop:=∃tv,v=.agg #[iV P,tv]/\zK w tv T
theorem YI.gE {w':World} {v:Value} (h:YI w v P T) (hb:Bw w w'):YI w' v P T:=by
 obtain⟨tv,e,h1⟩:=h
 exact⟨tv,e,h1.gE hb⟩
theorem zup (h:(zY L && yj t)=false\/P<1\/200<P\/T.length≠L.b.length):zV L t P T=false:=by
 cases e:zV L t P T with
 | false=>rfl
 | true =>
   obtain⟨h1,h2,h3,h4,h5,-⟩:=yd e
   rw [h1,h2] at h
   rcases h with h | h | h | h
   ·cases h
   ·omega
   ·omega
   ·exact absurd h5 h
theorem zuo (h1:(zY L && yj t)=true) (h2:1<=P) (h3:P<=200) (h4:T.length=L.b.length):zV L t P T=(zC (XN L t P T) T.length && zC (fun i=>Vu P T (zM (zi L t) i)) (zi L t).length):=by
 have h5:zY L=true/\yj t=true:=by simpa using h1
 unfold zV
 rw [h5.1,h5.2,yf ⟨h2,h3⟩,decide_eq_true h4]
 rfl
theorem xM {wr:World} {a0 a1 a2 ta:Option Addr} {gA gB gC tc:Nat} {p0 p1 p2 q0 q1 q2 r:Int} (h:Below (w.heap.size+1+1+1) (((w.alloc (.cells #[.slice a0 L.l.length gA,.slice a1 L.b.length gB,.slice a2 L.o.length gC] 25)).alloc (.cells #[iV p0,iV p1,iV p2,iV q0,iV q1,iV q2,iV r] 28)).alloc (.cells #[iV P,.slice ta T.length tc] 49)) wr):(wr.cell? (ad w.heap.size 0)=some (.slice a0 L.l.length gA)/\wr.cell? (ad w.heap.size 1)=some (.slice a1 L.b.length gB)/\wr.cell? (ad w.heap.size 2)=some (.slice a2 L.o.length gC)) /\
  (wr.cell? (ad (w.heap.size+1) 0)=sI p0/\wr.cell? (ad (w.heap.size+1) 1)=sI p1/\wr.cell? (ad (w.heap.size+1) 2)=sI p2/\wr.cell? (ad (w.heap.size+1) 3)=sI q0/\wr.cell? (ad (w.heap.size+1) 4)=sI q1/\wr.cell? (ad (w.heap.size+1) 5)=sI q2/\wr.cell? (ad (w.heap.size+1) 6)=sI r) /\
  (wr.cell? (ad (w.heap.size+1+1) 0)=sI P/\wr.cell? (ad (w.heap.size+1+1) 1)=some (.slice ta T.length tc))/\w.heap.size+1+1<wr.heap.size/\Bw w wr:=by
 have hs:(((w.alloc (.cells #[.slice a0 L.l.length gA,.slice a1 L.b.length gB,.slice a2 L.o.length gC] 25)).alloc (.cells #[iV p0,iV p1,iV p2,iV q0,iV q1,iV q2,iV r] 28)).alloc (.cells #[iV P,.slice ta T.length tc] 49)).heap.size=w.heap.size+1+1+1:=by simp
 have hz:=h.size
 have h':Below (((w.alloc (.cells #[.slice a0 L.l.length gA,.slice a1 L.b.length gB,.slice a2 L.o.length gC] 25)).alloc (.cells #[iV p0,iV p1,iV p2,iV q0,iV q1,iV q2,iV r] 28)).alloc (.cells #[iV P,.slice ta T.length tc] 49)).heap.size (((w.alloc (.cells #[.slice a0 L.l.length gA,.slice a1 L.b.length gB,.slice a2 L.o.length gC] 25)).alloc (.cells #[iV p0,iV p1,iV p2,iV q0,iV q1,iV q2,iV r] 28)).alloc (.cells #[iV P,.slice ta T.length tc] 49)) wr:=by rw [hs];exact h
 refine⟨⟨?_,?_,?_⟩,⟨?_,?_,?_,?_,?_,?_,?_⟩,⟨?_,?_⟩,by omega,(below_alloc3 w _ _ _).trans (h.mono (by omega))⟩
 all_goals rw [zf h' _ _ (by omega)]
 all_goals go_simp
theorem zc1 (o:Int):∃cn:Nat,zW o=(cn:Int)/\cn<3:=by
 rcases XG o with h | h | h
 ·exact⟨0,h,by omega⟩
 ·exact⟨1,h,by omega⟩
 ·exact⟨2,h,by omega⟩
def xB (L:Lp) (t:Tg) (k:Nat):Int:=xe (fun i=>zO t (zc L.b i).o) k
def Xc (L:Lp) (t:Tg):Int:=xB L t L.b.length
theorem Zk (o:Int) (h:yj t=true):1<=zO t o/\zO t o<=6:=by
 obtain⟨h1,h2,h3,-,-⟩:=ym h
 have h1:=yn h1
 have h2:=yn h2
 have h3:=yn h3
 have hw:zO t o=xW t (zW o):=by unfold zO;rw [if_pos h]
 rw [hw]
 unfold xW
 split
 ·omega
 ·split <;> omega
theorem zan (h:yj t=true):∀k,0<=xB L t k/\xB L t k<=6*k:=by
 intro k
 induction k with
 | zero=>exact⟨Int.le_refl _,Int.le_refl _⟩
 | succ k ih =>
   have:=Zk (zc L.b k).o h
   show 0<=xB L t k+zO t (zc L.b k).o/\xB L t k+zO t (zc L.b k).o<=_
   omega
def zcf:Prop:=∀(v pv:Value) (t:Tg) (L:Lp) (P:Int) (T:List Int) (w:World),zE w v L->YI w pv P T->zV L t P T=true ->
 Calls Tryz.prog 40 #[v,.agg t.cells,pv] w (Rt w (.bool true))
end Go.Proofs.YtjoapiafpahihabGreat
