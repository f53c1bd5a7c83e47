import Derived.Test.YtjoapiafpahihabGreatMaths
import Derived.Test.YtjoapiafpahihabGreatRounds
import Derived.Test.YtjoapiafpahihabGreatRef3A
import Derived.Test.YtjoapiafpahihabGreatBase
import Derived.Test.YtjoapiafpahihabGreatKernS
import Derived.Test.YtjoapiafpahihabGreatNums
import Derived.Deep.QuietTactic
import Derived.BigQuiet
import Derived.Test.YtjoapiafpahihabGreatRef5A
import Derived.Test.YtjoapiafpahihabGreatTarget
import Derived.Deep.AppendLies
namespace Go.Proofs.YtjoapiafpahihabGreat
open Go.RowKit Go.Joins
set_option linter.unusedVariables false
def XU (d:Du):List Value:=[iV d.rg,iV d.v]
def zhg (l:List Du):List Value:=l.flatMap XU
theorem zun (l:List Du) (d:Du):zhg l++XU d=zhg (l++[d]):=by unfold zhg;simp
structure Mc where
 w0:World
 w1:World
 A:Nat
 t:Tg
 pc:Int
 st:Int
 kv:Value
 lv:Value
 mv:Value
 turns:Int
 R:Nat
 gr:Nat
 cr:Nat
 n:Nat
 lenM:Nat->Nat
 GM:Nat->Nat
def zh2 (c:Mc) (x:World):Prop:=c.w1.heap.size<=x.heap.size/\∀g,g<c.w1.heap.size->g≠c.A->g≠c.gr->(∀i,i<c.n->g≠c.GM i)->x.heap[g]?=c.w1.heap[g]?
def zq1 (c:Mc) (V:Nat->Value):Array Value :=
 #[iV c.t.u0,iV c.t.u1,iV c.t.u2,iV c.t.w0,iV c.t.w1,iV c.t.w2,iV c.t.r,iV c.pc,iV c.st,c.kv,c.lv,.slice (some ⟨c.gr,0,none⟩) c.R c.cr,c.mv,iV c.turns,V 0,V 1,V 2,V 3,V 4,V 5]
structure Xg (c:Mc) (V:Nat->Value) (D:List Du) (f:Nat->Int) (m:Nat->Nat->Int) (wr:World):Prop where
 bel:Below c.w0.heap.size c.w0 wr
 keep:zh2 c wr
 hA:wr.heap[c.A]?=some (.cells (zq1 c V) 128 (0,0))
 hA1:c.w0.heap.size<=c.A/\c.A<c.w1.heap.size
 regs:zg wr c.gr 2 c.R (fun i=>iV (f i))
 hr:c.w0.heap.size<=c.gr/\c.gr<c.w1.heap.size/\c.R<=c.cr/\c.cr<=maxLen
 min:∀i,i<c.n->c.w0.heap.size<=c.GM i/\c.GM i<c.w1.heap.size/\zg wr (c.GM i) 2 (c.lenM i) (fun j=>iV (m i j))
 minj:∀i j,i<c.n->j<c.n->i≠j->c.GM i≠c.GM j
 rM:∀i,i<c.n->c.gr≠c.GM i
 due:∀j:Nat,j<6->wr.ownsRow c.w1.heap.size 222 2 (V j) (zr7 D j).length (zhg (zr7 D j))
 dinj:∀i j:Nat,i<6->j<6->i≠j->∀g,(V i).ownBlock=some g->some g≠(V j).ownBlock
 w01:c.w0.heap.size<=c.w1.heap.size
theorem zbk {w:World} {R g:Nat} {c c':Array Value} {e e':TypeId} (h:w.heap[R]?=some (.cells c e (0,0))) (hr:w.heap[g]?=some (.cells c' e' (0,0))) (he:e≠e'):R≠g:=by
 intro hg
 subst hg
 rw [h] at hr
 have h1:=Option.some.inj hr
 injection h1 with _ h2
 exact he h2
theorem zsn {w:World} {R g:Nat} {c:Array Value} {e e':TypeId} {n:Nat} {f:Nat->Value} (h:w.heap[R]?=some (.cells c e (0,0))) (hr:zg w g e' n f) (he:e≠e'):R≠g:=by
 obtain⟨c',hb,_,_⟩:=hr
 exact zbk h hb he
variable {c:Mc} {V:Nat->Value} {D:List Du} {f:Nat->Int} {m:Nat->Nat->Int} {wr w':World}
theorem Xg.A_lt (h:Xg c V D f m wr):c.A<wr.heap.size:=(Array.getElem?_eq_some_iff.1 h.hA).1
theorem Xg.A_gr (h:Xg c V D f m wr):c.A≠c.gr:=zsn h.hA h.regs (by decide)
theorem Xg.A_GM (h:Xg c V D f m wr) (i:Nat) (hi:i<c.n):c.A≠c.GM i:=zsn h.hA (h.min i hi).2.2 (by decide)
theorem zh2.step {x:World} (h:zh2 c wr) (hs:wr.heap.size<=x.heap.size) (hb:∀g,g<c.w1.heap.size->g≠c.A->g≠c.gr->(∀i,i<c.n->g≠c.GM i)->x.heap[g]?=wr.heap[g]?):zh2 c x :=
 ⟨Nat.le_trans h.1 hs,fun g h1 h2 h3 h4=>(hb g h1 h2 h3 h4).trans (h.2 g h1 h2 h3 h4)⟩
theorem Xg.same (h:Xg c V D f m wr) (hb:Below c.w0.heap.size wr w') (hk:∀g,g<c.w1.heap.size->w'.heap[g]?=wr.heap[g]?) (hd:∀j:Nat,j<6->∀g,(V j).ownBlock=some g->w'.heap[g]?=wr.heap[g]?):Xg c V D f m w' where
 bel:=h.bel.trans hb
 keep:=h.keep.step hb.size fun g h1 _ _ _=>hk g h1
 hA:=by rw [hk _ h.hA1.2];exact h.hA
 hA1:=h.hA1
 regs:=h.regs.of_block (hk _ h.hr.2.1)
 hr:=h.hr
 min:=fun i hi=>⟨(h.min i hi).1,(h.min i hi).2.1,(h.min i hi).2.2.of_block (hk _ (h.min i hi).2.1)⟩
 minj:=h.minj
 rM:=h.rM
 due:=fun j hj=>Y3 (h.due j hj) (hd j hj)
 dinj:=h.dinj
 w01:=h.w01
theorem Xg.below (h:Xg c V D f m wr) (hb:Below wr.heap.size wr w'):Xg c V D f m w' :=
 h.same (hb.mono h.bel.size) (fun g hg=>hb.block g (Nat.lt_of_lt_of_le hg h.keep.1)) (fun j hj g hg=>hb.block g (yZ (h.due j hj) g hg))
theorem Xg.cells (h:Xg c V D f m wr):(wr.cell? ⟨c.A,0,none⟩=some (iV c.t.u0)/\wr.cell? ⟨c.A,1,none⟩=some (iV c.t.u1)/\wr.cell? ⟨c.A,2,none⟩=some (iV c.t.u2)/\wr.cell? ⟨c.A,3,none⟩=some (iV c.t.w0)/\wr.cell? ⟨c.A,4,none⟩=some (iV c.t.w1)/\wr.cell? ⟨c.A,5,none⟩=some (iV c.t.w2)/\wr.cell? ⟨c.A,6,none⟩=some (iV c.t.r)) /\
  (wr.cell? ⟨c.A,7,none⟩=some (iV c.pc)/\wr.cell? ⟨c.A,8,none⟩=some (iV c.st)/\wr.cell? ⟨c.A,9,none⟩=some c.kv/\wr.cell? ⟨c.A,10,none⟩=some c.lv/\wr.cell? ⟨c.A,11,none⟩=some (.slice (some ⟨c.gr,0,none⟩) c.R c.cr)/\wr.cell? ⟨c.A,12,none⟩=some c.mv/\wr.cell? ⟨c.A,13,none⟩=some (iV c.turns)) /\
  (∀j:Nat,j<6->wr.cell? ⟨c.A,14+j,none⟩=some (V j)):=by
 have key:∀o,wr.cell? ⟨c.A,o,none⟩=(zq1 c V)[o]?:=cell_of_block h.hA
 refine⟨⟨?_,?_,?_,?_,?_,?_,?_⟩,⟨?_,?_,?_,?_,?_,?_,?_⟩,fun j hj=>?_⟩
 all_goals first
  | (rw [key];rfl)
  | (rw [key];obtain rfl | rfl | rfl | rfl | rfl | rfl:j=0\/j=1\/j=2\/j=3\/j=4\/j=5:=by omega
     all_goals rfl)
theorem Xg.setReg (h:Xg c V D f m wr) (i:Nat) (v:Int) (hi:i<c.R):Xg c V D (zn1 f i v) m (wr.setCell ⟨c.gr,i,none⟩ (iV v)) where
 bel:=h.bel.setCell (by show c.w0.heap.size<=c.gr;exact h.hr.1) _
 keep:=h.keep.step (by simp [World.setCell]) fun g _ _ h3 _=>Below.heap_setCell _ _ _ _ (by show g≠c.gr;exact h3)
 hA:=by rw [Below.heap_setCell _ _ _ _ (by show c.A≠c.gr;exact h.A_gr)];exact h.hA
 hA1:=h.hA1
 regs:=(h.regs.set i _ hi).congr fun j hj=>by
  show (if j=i then iV v else iV (f j))=iV (zn1 f i v j)
  unfold zn1
  split <;> rfl
 hr:=h.hr
 min:=fun a ha=>⟨(h.min a ha).1,(h.min a ha).2.1,(h.min a ha).2.2.setOther (by show c.GM a≠c.gr;exact (h.rM a ha).symm) _⟩
 minj:=h.minj
 rM:=h.rM
 due:=fun j hj=>Y3 (h.due j hj) fun g hg=>Below.heap_setCell _ _ _ _ (by show g≠c.gr;have:=ye (h.due j hj) g hg;have:=h.hr.2.1;omega)
 dinj:=h.dinj
 w01:=h.w01
theorem Xg.setMem (h:Xg c V D f m wr) (i j:Nat) (v:Int) (hi:i<c.n) (hj:j<c.lenM i):Xg c V D f (Yj m i j v) (wr.setCell ⟨c.GM i,j,none⟩ (iV v)) where
 bel:=h.bel.setCell (by show c.w0.heap.size<=c.GM i;exact (h.min i hi).1) _
 keep:=h.keep.step (by simp [World.setCell]) fun g _ _ _ h4=>Below.heap_setCell _ _ _ _ (by show g≠c.GM i;exact h4 i hi)
 hA:=by rw [Below.heap_setCell _ _ _ _ (by show c.A≠c.GM i;exact h.A_GM i hi)];exact h.hA
 hA1:=h.hA1
 regs:=h.regs.setOther (by show c.gr≠c.GM i;exact h.rM i hi) _
 hr:=h.hr
 min:=fun a ha=>by
  refine⟨(h.min a ha).1,(h.min a ha).2.1,?_⟩
  by_cases e:a=i
  ·subst e
   refine ((h.min a ha).2.2.set j _ hj).congr fun q hq=>?_
   show (if q=j then iV v else iV (m a q))=iV (Yj m a j v a q)
   rw [zph]
   split <;> rfl
  ·refine ((h.min a ha).2.2.setOther (by show c.GM a≠c.GM i;exact h.minj a i ha hi e) _).congr fun q hq=>?_
   show iV (m a q)=iV (Yj m i j v a q)
   rw [zn2 _ _ _ _ _ _ e]
 minj:=h.minj
 rM:=h.rM
 due:=fun q hq=>Y3 (h.due q hq) fun g hg=>Below.heap_setCell _ _ _ _ (by show g≠c.GM i;have:=ye (h.due q hq) g hg;have:=(h.min i hi).2.1;omega)
 dinj:=h.dinj
 w01:=h.w01
theorem zvk (c:Mc) (V:Nat->Value) (j:Nat) (v:Value) (hj:j<6):(zq1 c V).setIfInBounds (14+j) v=zq1 c (fun i=>if i=j then v else V i):=by
 obtain rfl | rfl | rfl | rfl | rfl | rfl:j=0\/j=1\/j=2\/j=3\/j=4\/j=5:=by omega
 all_goals rfl
theorem Xg.setDue (h:Xg c V D f m wr) (j:Nat) (v:Value) (D':List Du) (w2:World) (hj:j<6) (hg:wr.grownBy w2 (V j).ownBlock)
  (ho:w2.ownsRow c.w1.heap.size 222 2 v (zr7 D' j).length (zhg (zr7 D' j))) (hv:v.ownBlock=(V j).ownBlock\/∀g,v.ownBlock=some g->wr.heap.size<=g) (hD:∀i:Nat,i<6->i≠j->zr7 D' i=zr7 D i) :
  Xg c (fun i=>if i=j then v else V i) D' f m (w2.setCell ⟨c.A,14+j,none⟩ v):=by
 have hge:∀g,(V j).ownBlock=some g->c.w1.heap.size<=g:=fun g e=>ye (h.due j hj) g e
 have blk:∀g,g<c.w1.heap.size->w2.heap[g]?=wr.heap[g]?:=fun g hg1=>hg.block g (Nat.lt_of_lt_of_le hg1 h.keep.1) fun e=>by have:=hge g e.symm;omega
 have hbel2:Below c.w0.heap.size c.w0 w2:=h.bel.grown hg h.bel.size fun k e=>by have:=hge k e;have:=h.w01;omega
 have ho2:∀i:Nat,i<6->i≠j->w2.ownsRow c.w1.heap.size 222 2 (V i) (zr7 D i).length (zhg (zr7 D i)):=fun i hi hij=>Y3 (h.due i hi) fun g e=>hg.block g (yZ (h.due i hi) g e) (h.dinj i j hi hj hij g e)
 refine { bel:=hbel2.setCell (by show c.w0.heap.size<=c.A;exact h.hA1.1) _,keep:=?_,hA:=?_,hA1:=h.hA1,regs:=?_,hr:=h.hr,min:=?_,minj:=h.minj,rM:=h.rM,due:=?_,dinj:=?_,w01:=h.w01 }
 ·exact (h.keep.step hg.size fun g h1 _ _ _=>blk g h1).step (by simp [World.setCell]) fun g _ h2 _ _=>Below.heap_setCell _ _ _ _ (by show g≠c.A;exact h2)
 ·have hb:w2.heap[c.A]?=some (.cells (zq1 c V) 128 (0,0)):=by rw [blk _ h.hA1.2];exact h.hA
  have e:(w2.setCell ⟨c.A,14+j,none⟩ v).heap[c.A]?=some (.cells ((zq1 c V).setIfInBounds (14+j) v) 128 (0,0)):=by simp [World.setCell,Array.getElem?_modify,hb]
  rw [e,zvk _ _ _ _ hj]
 ·exact (h.regs.of_block (blk _ h.hr.2.1)).setOther (by show c.gr≠c.A;exact h.A_gr.symm) _
 ·exact fun i hi=>⟨(h.min i hi).1,(h.min i hi).2.1,((h.min i hi).2.2.of_block (blk _ (h.min i hi).2.1)).setOther (by show c.GM i≠c.A;exact (h.A_GM i hi).symm) _⟩
 ·intro i hi
  have far:∀g,c.w1.heap.size<=g->(w2.setCell ⟨c.A,14+j,none⟩ v).heap[g]?=w2.heap[g]?:=fun g hg1=>Below.heap_setCell _ _ _ _ (by show g≠c.A;have:=h.hA1.2;omega)
  by_cases e:i=j
  ·subst e
   simp only [if_true]
   exact Y3 ho fun g hg1=>far g (ye ho g hg1)
  ·simp only [if_neg e]
   rw [hD i hi e]
   exact Y3 (ho2 i hi e) fun g hg1=>far g (ye (ho2 i hi e) g hg1)
 ·intro i k hi hk hik g hg1
  by_cases e1:i=j
  ·by_cases e2:k=j
   ·omega
   ·simp only [if_pos e1] at hg1
    simp only [if_neg e2]
    intro e3
    rcases hv with hv | hv
    ·exact h.dinj j k hj hk (by omega) g (by rw [<-hv];exact hg1) e3
    ·have h1:=hv g hg1
     have h2:=yZ (h.due k hk) g e3.symm
     omega
  ·by_cases e2:k=j
   ·simp only [if_neg e1] at hg1
    simp only [if_pos e2]
    intro e3
    rcases hv with hv | hv
    ·rw [hv] at e3;exact h.dinj i j hi hj e1 g hg1 e3
    ·have h1:=hv g e3.symm
     have h2:=yZ (h.due i hi) g hg1
     omega
   ·simp only [if_neg e1] at hg1
    simp only [if_neg e2]
    exact h.dinj i k hi hk hik g hg1
end Go.Proofs.YtjoapiafpahihabGreat
namespace Go.Proofs.YtjoapiafpahihabGreat
open Go.RowKit Go.Joins
set_option linter.unusedVariables false
set_option linter.unusedSimpArgs false
def zrk (bi bw:Nat):Value:=.func (.func 157) #[] #[.pointer (some ⟨bi,0,none⟩),.pointer (some ⟨bw,0,none⟩)]
def zcr (c:Mc) (b1:Nat) (wr:World) (v:Value) (l:List Sto):Prop :=
 ∃ BI BW:Nat->Nat,wr.ownsRow b1 1 1 v l.length ((List.range l.length).map fun i=>zrk (BI i) (BW i)) /\
   ∀i,i<l.length->(b1<=BI i/\wr.heap[BI i]?=some (.cells #[iV (zb0 l i).v] 2 (0,0)))/\(b1<=BW i/\wr.heap[BW i]?=some (.cells #[.pointer (some ⟨c.GM (zb0 l i).i,(zb0 l i).j,none⟩)] 209 (0,0)))/\(zb0 l i).i<c.n/\(zb0 l i).j<c.lenM (zb0 l i).i
theorem zcr.keep {c:Mc} {b1:Nat} {wr w':World} {v:Value} {l:List Sto} (h:zcr c b1 wr v l) (hk:∀(g:Nat) (cs:Array Value) (e:TypeId),b1<=g->g<wr.heap.size->wr.heap[g]?=some (.cells cs e (0,0))->e≠222->w'.heap[g]?=wr.heap[g]?):zcr c b1 w' v l:=by
 obtain⟨BI,BW,h1,h2⟩:=h
 refine⟨BI,BW,Y3 h1 fun g hg=>?_,fun i hi=>?_⟩
 ·have h3:=ye h1 g hg
  have h4:=yZ h1 g hg
  obtain⟨-,h1⟩:=h1
  rcases h1 with ⟨rfl,_⟩ | ⟨g',cap,cur,rfl,_,hb,_⟩
  ·cases hg
  ·have e:g'=g:=by simpa [Value.ownBlock] using hg
   subst e
   exact hk _ _ _ h3 h4 hb (by decide)
 ·obtain⟨⟨a1,a2⟩,⟨b1,b2⟩,c1⟩:=h2 i hi
  exact⟨⟨a1,by rw [hk _ _ _ a1 (Array.getElem?_eq_some_iff.1 a2).1 a2 (by decide)];exact a2⟩,⟨b1,by rw [hk _ _ _ b1 (Array.getElem?_eq_some_iff.1 b2).1 b2 (by decide)];exact b2⟩,c1⟩
theorem zcr.below {c:Mc} {b1:Nat} {wr w':World} {v:Value} {l:List Sto} (h:zcr c b1 wr v l) (hb:Below wr.heap.size wr w'):zcr c b1 w' v l :=
 h.keep fun g cs e _ hg _ _=>hb.block g hg
theorem zcr.setMem {c:Mc} {b1:Nat} {V:Nat->Value} {D:List Du} {f:Nat->Int} {m:Nat->Nat->Int} {wr:World} {v:Value} {l:List Sto} (h:zcr c b1 wr v l) (hI:Xg c V D f m wr) (i j:Nat) (hi:i<c.n) (hb1:c.w1.heap.size<=b1) (u:Value):zcr c b1 (wr.setCell ⟨c.GM i,j,none⟩ u) v l :=
 h.keep fun g cs e hge hlt hb he=>Below.heap_setCell _ _ _ _ (by show g≠c.GM i;have:=(hI.min i hi).2.1;omega)
theorem zut (f:Nat->Value) (n:Nat):(List.range n).map f++[f n]=(List.range (n+1)).map f:=by
 rw [List.range_succ,List.map_append];rfl
theorem zcr.push {c:Mc} {b1 bi bw:Nat} {wr w2:World} {v v':Value} {l:List Sto} {i j:Nat} {u:Int} {BI BW:Nat->Nat} (h1:wr.ownsRow b1 1 1 v l.length ((List.range l.length).map fun i=>zrk (BI i) (BW i)))
  (h2:∀i,i<l.length->(b1<=BI i/\wr.heap[BI i]?=some (.cells #[iV (zb0 l i).v] 2 (0,0)))/\(b1<=BW i/\wr.heap[BW i]?=some (.cells #[.pointer (some ⟨c.GM (zb0 l i).i,(zb0 l i).j,none⟩)] 209 (0,0)))/\(zb0 l i).i<c.n/\(zb0 l i).j<c.lenM (zb0 l i).i)
  (hg:wr.grownBy w2 v.ownBlock) (h3:w2.ownsRow b1 1 1 v' (l.length+1) (((List.range l.length).map fun i=>zrk (BI i) (BW i))++[zrk bi bw]))
  (hbi:b1<=bi/\wr.heap[bi]?=some (.cells #[iV u] 2 (0,0))) (hbw:b1<=bw/\wr.heap[bw]?=some (.cells #[.pointer (some ⟨c.GM i,j,none⟩)] 209 (0,0))) (hi:i<c.n) (hj:j<c.lenM i) :
  zcr c b1 w2 v' (l++[⟨i,j,u⟩]):=by
 have far:∀(g:Nat) (cs:Array Value) (e:TypeId),wr.heap[g]?=some (.cells cs e (0,0))->e≠1->w2.heap[g]?=wr.heap[g]?:=fun g cs e hb he=>hg.block g (Array.getElem?_eq_some_iff.1 hb).1 fun e2=>by
  obtain⟨-,hd⟩:=h1
  rcases hd with ⟨e3,_⟩ | ⟨g',cap,cur,e3,_,hb3,_⟩
  ·rw [e3] at e2;cases e2
  ·rw [e3] at e2
   have e4:g=g':=by simpa [Value.ownBlock] using e2
   subst e4
   exact zbk hb hb3 he rfl
 refine⟨fun q=>if q=l.length then bi else BI q,fun q=>if q=l.length then bw else BW q,?_,fun q hq=>?_⟩
 ·have hl:(l++[Sto.mk i j u]).length=l.length+1:=by simp
  have he:(List.range (l++[Sto.mk i j u]).length).map (fun q=>zrk (if q=l.length then bi else BI q) (if q=l.length then bw else BW q))=(List.range l.length).map (fun i=>zrk (BI i) (BW i))++[zrk bi bw]:=by
   rw [hl,<-zut]
   congr 1
   ·refine List.map_congr_left fun q hq=>?_
    have:q<l.length:=List.mem_range.1 hq
    rw [if_neg (by omega),if_neg (by omega)]
   ·simp
  rw [he,hl]
  exact h3
 ·have hl:(l++[Sto.mk i j u]).length=l.length+1:=by simp
  by_cases e:q=l.length
  ·subst e
   rw [zvt]
   simp only [if_true]
   exact⟨⟨hbi.1,by rw [far _ _ _ hbi.2 (by decide)];exact hbi.2⟩,⟨hbw.1,by rw [far _ _ _ hbw.2 (by decide)];exact hbw.2⟩,hi,hj⟩
  ·rw [zuv _ _ _ (by omega)]
   simp only [if_neg e]
   obtain⟨⟨a1,a2⟩,⟨b1,b2⟩,c1⟩:=h2 q (by omega)
   exact⟨⟨a1,by rw [far _ _ _ a2 (by decide)];exact a2⟩,⟨b1,by rw [far _ _ _ b2 (by decide)];exact b2⟩,c1⟩
end Go.Proofs.YtjoapiafpahihabGreat
namespace Go.Proofs.YtjoapiafpahihabGreat
open Go.RowKit Go.Joins
set_option linter.unusedVariables false
set_option linter.unusedSimpArgs false
theorem Tryz.i1:(Tryz.prog.info? 1).map (fun i=>(i.zero,i.size,i.bytes))=some (some .nilFunc,1,8):=by kernel_rfl
theorem zms {w:World} {X:Nat} {sl sg o d a b ar sp pl nn:Int} (h:w.heap[X]?=some (.cells #[iV sl,iV sg,iV o,iV d,iV a,iV b,iV ar,iV sp,iV pl,iV nn] 37 (0,0))) :
  w.cell? ⟨X,0,none⟩=some (iV sl)/\w.cell? ⟨X,1,none⟩=some (iV sg)/\w.cell? ⟨X,2,none⟩=some (iV o)/\w.cell? ⟨X,3,none⟩=some (iV d)/\w.cell? ⟨X,4,none⟩=some (iV a)/\w.cell? ⟨X,5,none⟩=some (iV b)/\w.cell? ⟨X,6,none⟩=some (iV ar)/\w.cell? ⟨X,7,none⟩=some (iV sp)/\w.cell? ⟨X,8,none⟩=some (iV pl)/\w.cell? ⟨X,9,none⟩=some (iV nn):=by
 have key:=cell_of_block h
 refine⟨?_,?_,?_,?_,?_,?_,?_,?_,?_,?_⟩ <;> (rw [key];rfl)
structure Rdy (c:Mc) (V:Nat->Value) (D:List Du) (f:Nat->Int) (m:Nat->Nat->Int) (X BI:Nat) (sl sg o d a b ar sp pl nn v:Int) (x:World):Prop where
 inv:Xg c V D f m x
 hX:x.heap[X]?=some (.cells #[iV sl,iV sg,iV o,iV d,iV a,iV b,iV ar,iV sp,iV pl,iV nn] 37 (0,0))
 hB:x.heap[BI]?=some (.cells #[iV v] 2 (0,0))
variable {c:Mc} {V:Nat->Value} {D:List Du} {f:Nat->Int} {m:Nat->Nat->Int} {X BI:Nat} {sl sg o d a b ar sp pl nn v:Int} {x:World}
theorem Rdy.below {x':World} (h:Rdy c V D f m X BI sl sg o d a b ar sp pl nn v x) (hb:Below x.heap.size x x'):Rdy c V D f m X BI sl sg o d a b ar sp pl nn v x' :=
 ⟨h.inv.below hb,by rw [hb.block _ (Array.getElem?_eq_some_iff.1 h.hX).1];exact h.hX,by rw [hb.block _ (Array.getElem?_eq_some_iff.1 h.hB).1];exact h.hB⟩
theorem Rdy.s11 {j n0 vc:Nat} {va:Option Addr} (h:Rdy c V D f m X BI sl sg o d a b ar sp pl nn v x) (hj:j<6) (hV:V j=.slice va n0 vc):x.cell? ⟨c.A,14+j,none⟩=some (.slice va n0 vc)/\x.cell? ⟨X,3,none⟩=some (iV d)/\x.cell? ⟨c.A,6,none⟩=some (iV c.t.r)/\x.cell? ⟨BI,0,none⟩=some (iV v) :=
 ⟨by rw [h.inv.cells.2.2 j hj,hV],(zms h.hX).2.2.2.1,h.inv.cells.1.2.2.2.2.2.2,by rw [cell_of_block h.hB];rfl⟩
theorem zbq {j g:Nat} {cs:Array Value} {e:TypeId} (h:Xg c V D f m x) (hj:j<6) (hb:x.heap[g]?=some (.cells cs e (0,0))) (he:e≠222):some g≠(V j).ownBlock:=by
 intro e2
 obtain⟨-,hd⟩:=h.due j hj
 rcases hd with ⟨e3,_⟩ | ⟨g',cap,cur,e3,_,hb3,_⟩
 ·rw [e3] at e2;cases e2
 ·rw [e3] at e2
  have e4:g=g':=by simpa [Value.ownBlock] using e2
  subst e4
  exact zbk hb hb3 he rfl
theorem Rdy.grown {j n0 vc:Nat} {va:Option Addr} {w6:World} (h:Rdy c V D f m X BI sl sg o d a b ar sp pl nn v x) (hj:j<6) (hV:V j=.slice va n0 vc) (hg:x.grownBy w6 (Value.slice va n0 vc).ownBlock):(w6.cell? ⟨c.A,14+j,none⟩=some (.slice va n0 vc)/\w6.cell? ⟨X,3,none⟩=some (iV d)/\w6.cell? ⟨c.A,6,none⟩=some (iV c.t.r)/\w6.cell? ⟨BI,0,none⟩=some (iV v))/\w6.frozen? ⟨c.A,14+j,none⟩=false:=by
 rw [<-hV] at hg
 have bA:=hg.block c.A h.inv.A_lt (zbq h.inv hj h.inv.hA (by decide))
 have bX:=hg.block X (Array.getElem?_eq_some_iff.1 h.hX).1 (zbq h.inv hj h.hX (by decide))
 have bB:=hg.block BI (Array.getElem?_eq_some_iff.1 h.hB).1 (zbq h.inv hj h.hB (by decide))
 obtain⟨s1,s2,s3,s4⟩:=h.s11 hj hV
 refine⟨⟨?_,?_,?_,?_⟩,?_⟩
 ·rw [World.cell?_of_block (a:=⟨c.A,14+j,none⟩) bA];exact s1
 ·rw [World.cell?_of_block (a:=⟨X,3,none⟩) bX];exact s2
 ·rw [World.cell?_of_block (a:=⟨c.A,6,none⟩) bA];exact s3
 ·rw [World.cell?_of_block (a:=⟨BI,0,none⟩) bB];exact s4
 ·simp [World.frozen?,bA,h.inv.hA]
theorem Xg.push {T wt j n0 g cap vc:Nat} {va:Option Addr} {rg u:Int} {l0:List Du} {w6:World} (h:Xg c V D f m x) (hj:(T+wt) % 6=j) (hV:V j=.slice va n0 vc) (hl:zr7 D (j:Int)=l0) (hn:l0.length=n0)
  (hown:w6.ownsRow c.w1.heap.size 222 2 (.slice (some ⟨g,0,none⟩) (n0+1) cap) (n0+1) (zhg l0++[iV rg,iV u])) (hg:x.grownBy w6 (Value.slice va n0 vc).ownBlock) (hat:(Value.slice va n0 vc).ownBlock=some g\/x.heap.size<=g) :
  Xg c (fun i=>if i=j then .slice (some ⟨g,0,none⟩) (n0+1) cap else V i) (D++[⟨(T:Int)+(wt:Int),rg,u⟩]) f m (w6.setCell ⟨c.A,14+j,none⟩ (.slice (some ⟨g,0,none⟩) (n0+1) cap)):=by
 have h6:j<6:=by omega
 have hq:((T:Int)+(wt:Int)) % 6=(j:Int):=by omega
 rw [<-hV] at hg hat
 have e1:zr7 (D++[⟨(T:Int)+(wt:Int),rg,u⟩]) (j:Int)=l0++[⟨(T:Int)+(wt:Int),rg,u⟩]:=by rw [ztr,if_pos (by exact hq),hl]
 refine h.setDue j _ _ w6 h6 hg ?_ ?_ (fun i hi hne=>?_)
 ·rw [e1,<-zun,List.length_append,hn]
  exact hown
 ·rcases hat with e | e
  ·exact .inl (by rw [e];rfl)
  ·refine .inr fun q hq2=>?_
   have e3:g=q:=by simpa [Value.ownBlock] using hq2
   omega
 ·rw [ztr,if_neg (by show ¬((T:Int)+(wt:Int)) % 6=(i:Int);omega)]
end Go.Proofs.YtjoapiafpahihabGreat
namespace Go.Proofs.YtjoapiafpahihabGreat
open Go.RowKit Go.Joins
set_option linter.unusedVariables false
set_option linter.unusedSimpArgs false
set_option maxRecDepth 8192
def Zh (l:List Kop):List Value:=l.flatMap fun x=>(yX x).toList
theorem Ue (l:List Kop) (x:Kop):Zh l++(yX x).toList=Zh (l++[x]):=by unfold Zh;simp
theorem zix (l:List Kop):∀i j,i<l.length->j<10->(Zh l)[i*10+j]?=(yX (zq l i))[j]?:=by
 induction l with
 | nil=>intro i c h;exact absurd h (Nat.not_lt_zero _)
 | cons d l ih =>
   intro i j h hj
   show ((yX d).toList++Zh l)[i*10+j]?=_
   have h3:(yX d).toList.length=10:=rfl
   cases i with
   | zero =>
     rw [List.getElem?_append_left (by omega),Nat.zero_mul,Nat.zero_add,Array.getElem?_toList]
     rfl
   | succ i =>
     rw [List.getElem?_append_right (by omega),h3,show (i+1)*10+j - 10=i*10+j from by omega,ih i j (by simpa using h) hj]
     rfl
structure zl0 (w:World) (PC:Nat) (U:Nat->Value) (l:List Kop) (wr:World):Prop where
 bel:Below w.heap.size w wr
 out:zg wr w.heap.size 29 PC U
 rows:∀s:Nat,s<PC->wr.ownsRow w.heap.size 37 10 (U s) (znq l s).length (Zh (znq l s))
 inj:∀i j:Nat,i<PC->j<PC->i≠j->∀g,(U i).ownBlock=some g->some g≠(U j).ownBlock
variable {w wr x:World} {PC:Nat} {U:Nat->Value} {l:List Kop}
theorem zl0.below (h:zl0 w PC U l wr) (hb:Below wr.heap.size wr x):zl0 w PC U l x where
 bel:=h.bel.trans (hb.mono h.bel.size)
 out:=h.out.below hb h.out.lt
 rows:=fun s hs=>Y3 (h.rows s hs) fun g hg=>hb.block g (yZ (h.rows s hs) g hg)
 inj:=h.inj
theorem zl0.push {s:Nat} {xk:Kop} {g cap n0:Nat} {l':List Kop} {w6:World} (h:zl0 w PC U l wr) (hs:s<PC) (hsl:xk.sl=(s:Int)) (hl:∀q:Int,znq l' q=if xk.sl=q then znq l q++[xk] else znq l q) (hn:(znq l s).length=n0)
  (hown:w6.ownsRow w.heap.size 37 10 (.slice (some ⟨g,0,none⟩) (n0+1) cap) (n0+1) (Zh (znq l s)++(yX xk).toList)) (hg:wr.grownBy w6 (U s).ownBlock) (hat:(U s).ownBlock=some g\/wr.heap.size<=g) :
  zl0 w PC (fun i=>if i=s then .slice (some ⟨g,0,none⟩) (n0+1) cap else U i) l' (w6.setCell ⟨w.heap.size,s,none⟩ (.slice (some ⟨g,0,none⟩) (n0+1) cap)):=by
 have hge:∀k,(U s).ownBlock=some k->w.heap.size<=k:=fun k e=>ye (h.rows s hs) k e
 have hne:some w.heap.size≠(U s).ownBlock:=ZE (h.rows s hs) h.out (by decide)
 have hout:zg w6 w.heap.size 29 PC U:=h.out.of_block (hg.block _ h.out.lt hne)
 have hgne:g≠w.heap.size:=by
  intro e
  rcases hat with e2 | e2
  ·exact hne (by rw [<-e,e2])
  ·have:=h.out.lt;omega
 have e1:znq l' (s:Int)=znq l (s:Int)++[xk]:=by rw [hl,if_pos hsl]
 refine { bel:=(h.bel.grown hg h.bel.size hge).setCell (by exact Nat.le_refl _) _,out:=?_,rows:=?_,inj:=?_ }
 ·refine (hout.set s _ hs).congr fun i hi=>rfl
 ·intro i hi
  by_cases e:i=s
  ·subst e
   simp only [if_true]
   rw [e1,<-Ue,List.length_append,hn]
   exact Y3 hown fun q hq=>Below.heap_setCell _ _ _ _ (by
    have e3:g=q:=by simpa [Value.ownBlock] using hq
    show q≠w.heap.size;omega)
  ·simp only [if_neg e]
   rw [hl,if_neg (by omega)]
   have h1:=Y3 (h.rows i hi) fun q hq=>hg.block q (yZ (h.rows i hi) q hq) (h.inj i s hi hs e q hq)
   exact Y3 h1 fun q hq=>Below.heap_setCell _ _ _ _ (by
    show q≠w.heap.size
    intro e3
    exact ZE (h.rows i hi) h.out (by decide) (by rw [<-e3,hq]))
 ·intro i k hi hk hik q hq
  by_cases e1:i=s
  ·by_cases e2:k=s
   ·omega
   ·simp only [if_pos e1] at hq
    simp only [if_neg e2]
    have e3:g=q:=by simpa [Value.ownBlock] using hq
    subst e3
    intro e4
    rcases hat with e5 | e5
    ·exact h.inj s k hs hk (by omega) g e5 e4
    ·have:=yZ (h.rows k hk) g e4.symm;omega
  ·by_cases e2:k=s
   ·simp only [if_neg e1] at hq
    simp only [if_pos e2]
    intro e4
    have e3:q=g:=by simpa [Value.ownBlock] using e4
    subst e3
    rcases hat with e5 | e5
    ·exact h.inj i s hi hs e1 q hq e5.symm
    ·have:=yZ (h.rows i hi) q hq;omega
   ·simp only [if_neg e1] at hq
    simp only [if_neg e2]
    exact h.inj i k hi hk hik q hq
theorem zl0.held {ua:Option Addr} {n0 uc s:Nat} {sg o d a b ar sp pl nn:Int} {X:Nat} (h:zl0 w PC U l x) (hs:s<PC) (hX:x.heap[X]?=some (.cells #[iV (s:Int),iV sg,iV o,iV d,iV a,iV b,iV ar,iV sp,iV pl,iV nn] 37 (0,0))) (hU:U s=.slice ua n0 uc):(x.cell? ⟨X,0,none⟩=some (iV (s:Int))/\x.cell? ⟨X,1,none⟩=some (iV sg)/\x.cell? ⟨X,2,none⟩=some (iV o)/\x.cell? ⟨X,3,none⟩=some (iV d)/\x.cell? ⟨X,4,none⟩=some (iV a)/\x.cell? ⟨X,5,none⟩=some (iV b)/\x.cell? ⟨X,6,none⟩=some (iV ar)/\x.cell? ⟨X,7,none⟩=some (iV sp)/\x.cell? ⟨X,8,none⟩=some (iV pl)/\x.cell? ⟨X,9,none⟩=some (iV nn))/\x.cell? ⟨w.heap.size,s,none⟩=some (.slice ua n0 uc) :=
 ⟨zms hX,by rw [h.out.cell hs,hU]⟩
theorem zl0.grown {ua:Option Addr} {n0 uc s:Nat} {sg o d a b ar sp pl nn:Int} {X:Nat} {w6:World} (h:zl0 w PC U l x) (hs:s<PC) (hX:x.heap[X]?=some (.cells #[iV (s:Int),iV sg,iV o,iV d,iV a,iV b,iV ar,iV sp,iV pl,iV nn] 37 (0,0))) (hXf:some X≠(Value.slice ua n0 uc).ownBlock) (hU:U s=.slice ua n0 uc) (hg:x.grownBy w6 (Value.slice ua n0 uc).ownBlock):((w6.cell? ⟨X,0,none⟩=some (iV (s:Int))/\w6.cell? ⟨X,1,none⟩=some (iV sg)/\w6.cell? ⟨X,2,none⟩=some (iV o)/\w6.cell? ⟨X,3,none⟩=some (iV d)/\w6.cell? ⟨X,4,none⟩=some (iV a)/\w6.cell? ⟨X,5,none⟩=some (iV b)/\w6.cell? ⟨X,6,none⟩=some (iV ar)/\w6.cell? ⟨X,7,none⟩=some (iV sp)/\w6.cell? ⟨X,8,none⟩=some (iV pl)/\w6.cell? ⟨X,9,none⟩=some (iV nn))/\w6.cell? ⟨w.heap.size,s,none⟩=some (.slice ua n0 uc))/\w6.frozen? ⟨w.heap.size,s,none⟩=false:=by
 have hne:some w.heap.size≠(Value.slice ua n0 uc).ownBlock:=by rw [<-hU];exact ZE (h.rows s hs) h.out (by decide)
 have hout:zg w6 w.heap.size 29 PC U:=h.out.of_block (hg.block _ h.out.lt hne)
 have hX6:w6.heap[X]?=some (.cells #[iV (s:Int),iV sg,iV o,iV d,iV a,iV b,iV ar,iV sp,iV pl,iV nn] 37 (0,0)):=by rw [hg.block X (Array.getElem?_eq_some_iff.1 hX).1 hXf];exact hX
 exact⟨⟨zms hX6,by rw [hout.cell hs,hU]⟩,hout.frozen s⟩
end Go.Proofs.YtjoapiafpahihabGreat
namespace Go.Proofs.YtjoapiafpahihabGreat
open Go.RowKit Go.Joins
set_option linter.unusedVariables false
set_option linter.unusedSimpArgs false
variable {c:Mc} {logs:List Int} {gm cm:Nat} {CM:Nat->Nat} {K:Kn} {PC N:Nat} {U:Nat->Value} {s:Kst}
def Mc.at (c:Mc) (x:World):Mc:={ c with w1:=x }
theorem Xg.at {f:Nat->Int} {m:Nat->Nat->Int} {x:World} (h:Xg c (fun _=>.slice none 0 0) [] f m c.w1) (hb:Below c.w1.heap.size c.w1 x):Xg (c.at x) (fun _=>.slice none 0 0) [] f m x where
 bel:=h.bel.trans (hb.mono h.w01)
 keep:=⟨Nat.le_refl _,fun _ _ _ _ _=>rfl⟩
 hA:=by show x.heap[c.A]?=_;rw [hb.block _ h.hA1.2];exact h.hA
 hA1:=⟨h.hA1.1,Nat.lt_of_lt_of_le h.hA1.2 hb.size⟩
 regs:=h.regs.below hb h.hr.2.1
 hr:=⟨h.hr.1,Nat.lt_of_lt_of_le h.hr.2.1 hb.size,h.hr.2.2⟩
 min:=fun i hi=>⟨(h.min i hi).1,Nat.lt_of_lt_of_le (h.min i hi).2.1 hb.size,(h.min i hi).2.2.below hb (h.min i hi).2.1⟩
 minj:=h.minj
 rM:=h.rM
 due:=fun j hj=>World.ownsRow_nil _ _ _ _
 dinj:=fun i j _ _ _ g hg=>by cases hg
 w01:=Nat.le_trans h.w01 hb.size
end Go.Proofs.YtjoapiafpahihabGreat
