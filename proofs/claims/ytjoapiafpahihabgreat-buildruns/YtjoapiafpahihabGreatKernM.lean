import Derived.Test.YtjoapiafpahihabGreatRef5A
import Derived.Test.YtjoapiafpahihabGreatTarget
import Derived.Deep.AppendLies
set_option maxHeartbeats 20000000
namespace Go.Proofs.YtjoapiafpahihabGreat
open Go.Proofs.Tryz
open Go.RowKit Go.Joins
set_option linter.unusedVariables false
set_option linter.unusedSimpArgs false
set_option maxRecDepth 8192
variable {base sz n R g T b1 j n0 vc cap B uc:Nat} {e e':TypeId} {xs:List Value} {w2 w6 y w5 W:World} {u:Value} {BW:Nat->Nat} {gD:Int} {t:Tg} {va ua:Option Addr} {cs:Array Value}
section
def Ua (d:Du):List Value:=[iV d.rg,iV d.v]
def XH (l:List Du):List Value:=l.flatMap Ua
theorem zlx (l:List Du) (d:Du):XH l++Ua d=XH (l++[d]):=by unfold XH;simp
theorem zqd (l:List Du):∀i c,i<l.length->c<2->(XH l)[i*2+c]?=(Ua (yK l i))[c]?:=by
 induction l with
 | nil=>intro i c h;exact absurd h (Nat.not_lt_zero _)
 | cons d l ih =>
   intro i c h hc
   show (Ua d++XH l)[i*2+c]?=_
   have h3:(Ua d).length=2:=rfl
   cases i with
   | zero =>
     rw [List.getElem?_append_left (by omega),Nat.zero_mul,Nat.zero_add]
     rfl
   | succ i =>
     rw [List.getElem?_append_right (by omega),h3,show (i+1)*2+c - 2=i*2+c from by omega,ih i c (by simpa using h) hc]
     rfl
theorem zs2 {w:World} {v:Value} {l:List Du} (h:w.ownsRow base e 2 v l.length (XH l)) (hp:0<l.length) :
  ∃ g cap,v=.slice (pA g) l.length cap/\base<=g/\l.length<=cap/\cap<=maxLen/\g<w.heap.size /\
    ∀i,i<l.length->w.cell? (ad g (i*2))=some (iV (yK l i).rg)/\w.cell? (ad g (i*2+1))=some (iV (yK l i).v):=by
 obtain⟨hl,h⟩:=h
 rcases h with ⟨_,hn⟩ | ⟨g,cap,cur,rfl,hg,hb,hn,hm,hc,ht⟩
 ·omega
 ·have key:∀i c,i<l.length->c<2->w.cell? (ad g (i*2+c))=(Ua (yK l i))[c]?:=fun i c hi hc3=>by
   rw [cell_of_block hb,<-zqd l i c hi hc3,<-ht,List.getElem?_take,if_pos (by omega)]
   simp
  exact⟨g,cap,rfl,hg,hn,hm,(Array.getElem?_eq_some_iff.1 hb).1,fun i hi=>⟨key i 0 hi (by omega),key i 1 hi (by omega)⟩⟩
def zlk:Value->Value
 | .slice a _ c=>.slice a 0 c
 | v=>v
theorem ztp {w:World} {v:Value} (h:w.ownsRow base e sz v n xs):w.ownsRow base e sz (zlk v) 0 []:=by
 obtain⟨hl,h⟩:=h
 refine⟨by simp,?_⟩
 rcases h with ⟨rfl,_⟩ | ⟨g,cap,cur,rfl,hg,hb,hn,hm,hc,ht⟩
 ·exact .inl ⟨rfl,rfl⟩
 ·exact .inr ⟨g,cap,cur,rfl,hg,hb,Nat.zero_le _,hm,hc,by simp⟩
theorem zll {w:World} {v:Value} (h:w.ownsRow base e sz v n xs):(zlk v).ownBlock=v.ownBlock:=by
 obtain⟨hl,h⟩:=h
 rcases h with ⟨rfl,_⟩ | ⟨g,cap,cur,rfl,hg,hb,hn,hm,hc,ht⟩ <;> rfl
structure Mc where
 w0:World
 w1:World
 A:Nat
 t:Tg
 pc:Int
 st:Int
 kv:Value
 lv:Value
 mv:Value
 gD:Int
 R:Nat
 gr:Nat
 cr:Nat
 n:Nat
 lenM:Nat->Nat
 GM:Nat->Nat
def ZZ (c:Mc) (x:World):Prop:=c.w1.heap.size<=x.heap.size/\∀g,g<c.w1.heap.size->g≠c.A->g≠c.gr->(∀i,i<c.n->g≠c.GM i)->x.heap[g]?=c.w1.heap[g]?
def zfm (c:Mc) (V:Nat->Value):Array Value :=
 #[iV c.t.u0,iV c.t.u1,iV c.t.u2,iV c.t.w0,iV c.t.w1,iV c.t.w2,iV c.t.r,iV c.pc,iV c.st,c.kv,c.lv,.slice (pA c.gr) c.R c.cr,c.mv,iV c.gD,V 0,V 1,V 2,V 3,V 4,V 5]
structure yr (c:Mc) (V:Nat->Value) (D:List Du) (f:Nat->Int) (m:Nat->Nat->Int) (wr:World):Prop where
 bel:Below c.w0.heap.size c.w0 wr
 keep:ZZ c wr
 hA:wr.heap[c.A]?=some (.cells (zfm c V) 128 (0,0))
 hA1:c.w0.heap.size<=c.A/\c.A<c.w1.heap.size
 regs:zu wr c.gr 2 c.R (fun i=>iV (f i))
 hr:c.w0.heap.size<=c.gr/\c.gr<c.w1.heap.size/\c.R<=c.cr/\c.cr<=maxLen
 min:∀i,i<c.n->c.w0.heap.size<=c.GM i/\c.GM i<c.w1.heap.size/\zu wr (c.GM i) 2 (c.lenM i) (fun j=>iV (m i j))
 minj:∀i j,i<c.n->j<c.n->i≠j->c.GM i≠c.GM j
 rM:∀i,i<c.n->c.gr≠c.GM i
 due:∀j:Nat,j<6->wr.ownsRow c.w1.heap.size 222 2 (V j) (ZX D j).length (XH (ZX D j))
 dinj:∀i j:Nat,i<6->j<6->i≠j->∀g,(V i).ownBlock=some g->some g≠(V j).ownBlock
 w01:c.w0.heap.size<=c.w1.heap.size
theorem xK {w:World} {c c':Array Value} (h:w.heap[R]?=some (.cells c e (0,0))) (hr:w.heap[g]?=some (.cells c' e' (0,0))) (he:e≠e'):R≠g:=by
 intro hg
 subst hg
 rw [h] at hr
 have h1:=Option.some.inj hr
 injection h1 with _ h2
 exact he h2
theorem xC {w:World} {c:Array Value} {f:Nat->Value} (h:w.heap[R]?=some (.cells c e (0,0))) (hr:zu w g e' n f) (he:e≠e'):R≠g:=by
 obtain⟨c',hb,_,_⟩:=hr
 exact xK h hb he
variable {c:Mc} {V:Nat->Value} {D:List Du} {f:Nat->Int} {m:Nat->Nat->Int} {wr w':World}
theorem yr.A_lt (h:yr c V D f m wr):c.A<wr.heap.size:=(Array.getElem?_eq_some_iff.1 h.hA).1
theorem yr.A_gr (h:yr c V D f m wr):c.A≠c.gr:=xC h.hA h.regs (by decide)
theorem yr.A_GM (h:yr c V D f m wr) (i:Nat) (hi:i<c.n):c.A≠c.GM i:=xC h.hA (h.min i hi).2.2 (by decide)
theorem ZZ.step {x:World} (h:ZZ c wr) (hs:wr.heap.size<=x.heap.size) (hb:∀g,g<c.w1.heap.size->g≠c.A->g≠c.gr->(∀i,i<c.n->g≠c.GM i)->x.heap[g]?=wr.heap[g]?):ZZ c x :=
 ⟨Nat.le_trans h.1 hs,fun g h1 h2 h3 h4=>(hb g h1 h2 h3 h4).trans (h.2 g h1 h2 h3 h4)⟩
theorem yr.same (h:yr c V D f m wr) (hb:Below c.w0.heap.size wr w') (hk:∀g,g<c.w1.heap.size->w'.heap[g]?=wr.heap[g]?) (hd:∀j:Nat,j<6->∀g,(V j).ownBlock=some g->w'.heap[g]?=wr.heap[g]?):yr c V D f m w' where
 bel:=h.bel.trans hb
 keep:=h.keep.step hb.size fun g h1 _ _ _=>hk g h1
 hA:=by rw [hk _ h.hA1.2];exact h.hA
 hA1:=h.hA1
 regs:=h.regs.gG (hk _ h.hr.2.1)
 hr:=h.hr
 min:=fun i hi=>⟨(h.min i hi).1,(h.min i hi).2.1,(h.min i hi).2.2.gG (hk _ (h.min i hi).2.1)⟩
 minj:=h.minj
 rM:=h.rM
 due:=fun j hj=>yB (h.due j hj) (hd j hj)
 dinj:=h.dinj
 w01:=h.w01
theorem yr.gE (h:yr c V D f m wr) (hb:Bw wr w'):yr c V D f m w' :=
 h.same (hb.mono h.bel.size) (fun g hg=>hb.block g (Nat.lt_of_lt_of_le hg h.keep.1)) (fun j hj g hg=>hb.block g (zB (h.due j hj) g hg))
theorem yr.cells (h:yr c V D f m wr):(wr.cell? (ad c.A 0)=sI c.t.u0/\wr.cell? (ad c.A 1)=sI c.t.u1/\wr.cell? (ad c.A 2)=sI c.t.u2/\wr.cell? (ad c.A 3)=sI c.t.w0/\wr.cell? (ad c.A 4)=sI c.t.w1/\wr.cell? (ad c.A 5)=sI c.t.w2/\wr.cell? (ad c.A 6)=sI c.t.r) /\
  (wr.cell? (ad c.A 7)=sI c.pc/\wr.cell? (ad c.A 8)=sI c.st/\wr.cell? (ad c.A 9)=some c.kv/\wr.cell? (ad c.A 10)=some c.lv/\wr.cell? (ad c.A 11)=some (.slice (pA c.gr) c.R c.cr)/\wr.cell? (ad c.A 12)=some c.mv/\wr.cell? (ad c.A 13)=sI c.gD) /\
  (∀j:Nat,j<6->wr.cell? (ad c.A (14+j))=some (V j)):=by
 have key:∀o,wr.cell? (ad c.A o)=(zfm c V)[o]?:=cell_of_block h.hA
 refine⟨⟨?_,?_,?_,?_,?_,?_,?_⟩,⟨?_,?_,?_,?_,?_,?_,?_⟩,fun j hj=>?_⟩
 all_goals first
  | (rw [key];rfl)
  | (rw [key];obtain rfl | rfl | rfl | rfl | rfl | rfl:j=0\/j=1\/j=2\/j=3\/j=4\/j=5:=by omega
     all_goals rfl)
theorem yr.frozenA (h:yr c V D f m wr) (o:Nat):wr.frozen? (ad c.A o)=false:=by
 simp [World.frozen?,h.hA]
theorem yr.setReg (h:yr c V D f m wr) (i:Nat) (v:Int) (hi:i<c.R):yr c V D (YH f i v) m (wr.setCell (ad c.gr i) (iV v)) where
 bel:=h.bel.setCell (by show c.w0.heap.size<=c.gr;exact h.hr.1) _
 keep:=h.keep.step (by simp [World.setCell]) fun g _ _ h3 _=>Below.heap_setCell _ _ _ _ (by show g≠c.gr;exact h3)
 hA:=by rw [Below.heap_setCell _ _ _ _ (by show c.A≠c.gr;exact h.A_gr)];exact h.hA
 hA1:=h.hA1
 regs:=(h.regs.set i _ hi).congr fun j hj=>by
  show (if j=i then iV v else iV (f j))=iV (YH f i v j)
  unfold YH
  split <;> rfl
 hr:=h.hr
 min:=fun a ha=>⟨(h.min a ha).1,(h.min a ha).2.1,(h.min a ha).2.2.gF (by show c.GM a≠c.gr;exact (h.rM a ha).symm) _⟩
 minj:=h.minj
 rM:=h.rM
 due:=fun j hj=>yB (h.due j hj) fun g hg=>Below.heap_setCell _ _ _ _ (by show g≠c.gr;have:=zG (h.due j hj) g hg;have:=h.hr.2.1;omega)
 dinj:=h.dinj
 w01:=h.w01
theorem yr.setMem (h:yr c V D f m wr) (i j:Nat) (v:Int) (hi:i<c.n) (hj:j<c.lenM i):yr c V D f (xE m i j v) (wr.setCell (ad (c.GM i) j) (iV v)) where
 bel:=h.bel.setCell (by show c.w0.heap.size<=c.GM i;exact (h.min i hi).1) _
 keep:=h.keep.step (by simp [World.setCell]) fun g _ _ _ h4=>Below.heap_setCell _ _ _ _ (by show g≠c.GM i;exact h4 i hi)
 hA:=by rw [Below.heap_setCell _ _ _ _ (by show c.A≠c.GM i;exact h.A_GM i hi)];exact h.hA
 hA1:=h.hA1
 regs:=h.regs.gF (by show c.gr≠c.GM i;exact h.rM i hi) _
 hr:=h.hr
 min:=fun a ha=>by
  refine⟨(h.min a ha).1,(h.min a ha).2.1,?_⟩
  by_cases e:a=i
  ·subst e
   refine ((h.min a ha).2.2.set j _ hj).congr fun q hq=>?_
   show (if q=j then iV v else iV (m a q))=iV (xE m a j v a q)
   rw [zon]
   split <;> rfl
  ·refine ((h.min a ha).2.2.gF (by show c.GM a≠c.GM i;exact h.minj a i ha hi e) _).congr fun q hq=>?_
   show iV (m a q)=iV (xE m i j v a q)
   rw [zdg _ _ _ _ _ _ e]
 minj:=h.minj
 rM:=h.rM
 due:=fun q hq=>yB (h.due q hq) fun g hg=>Below.heap_setCell _ _ _ _ (by show g≠c.GM i;have:=zG (h.due q hq) g hg;have:=(h.min i hi).2.1;omega)
 dinj:=h.dinj
 w01:=h.w01
theorem zqs (c:Mc) (V:Nat->Value) (j:Nat) (v:Value) (hj:j<6):(zfm c V).setIfInBounds (14+j) v=zfm c (fun i=>if i=j then v else V i):=by
 obtain rfl | rfl | rfl | rfl | rfl | rfl:j=0\/j=1\/j=2\/j=3\/j=4\/j=5:=by omega
 all_goals rfl
theorem yr.setDue (h:yr c V D f m wr) (j:Nat) (v:Value) (D':List Du) (w2:World) (hj:j<6) (hg:wr.grownBy w2 (V j).ownBlock)
  (ho:w2.ownsRow c.w1.heap.size 222 2 v (ZX D' j).length (XH (ZX D' j))) (hv:v.ownBlock=(V j).ownBlock\/∀g,v.ownBlock=some g->wr.heap.size<=g) (hD:∀i:Nat,i<6->i≠j->ZX D' i=ZX D i) :
  yr c (fun i=>if i=j then v else V i) D' f m (w2.setCell (ad c.A (14+j)) v):=by
 have hge:∀g,(V j).ownBlock=some g->c.w1.heap.size<=g:=fun g e=>zG (h.due j hj) g e
 have blk:∀g,g<c.w1.heap.size->w2.heap[g]?=wr.heap[g]?:=fun g hg1=>hg.block g (Nat.lt_of_lt_of_le hg1 h.keep.1) fun e=>by have:=hge g e.symm;omega
 have hbel2:Below c.w0.heap.size c.w0 w2:=h.bel.grown hg h.bel.size fun k e=>by have:=hge k e;have:=h.w01;omega
 have ho2:∀i:Nat,i<6->i≠j->w2.ownsRow c.w1.heap.size 222 2 (V i) (ZX D i).length (XH (ZX D i)):=fun i hi hij=>yB (h.due i hi) fun g e=>hg.block g (zB (h.due i hi) g e) (h.dinj i j hi hj hij g e)
 refine { bel:=hbel2.setCell (by show c.w0.heap.size<=c.A;exact h.hA1.1) _,keep:=?_,hA:=?_,hA1:=h.hA1,regs:=?_,hr:=h.hr,min:=?_,minj:=h.minj,rM:=h.rM,due:=?_,dinj:=?_,w01:=h.w01 }
 ·exact (h.keep.step hg.size fun g h1 _ _ _=>blk g h1).step (by simp [World.setCell]) fun g _ h2 _ _=>Below.heap_setCell _ _ _ _ (by show g≠c.A;exact h2)
 ·have hb:w2.heap[c.A]?=some (.cells (zfm c V) 128 (0,0)):=by rw [blk _ h.hA1.2];exact h.hA
  have e:(w2.setCell (ad c.A (14+j)) v).heap[c.A]?=some (.cells ((zfm c V).setIfInBounds (14+j) v) 128 (0,0)):=by simp [World.setCell,Array.getElem?_modify,hb]
  rw [e,zqs _ _ _ _ hj]
 ·exact (h.regs.gG (blk _ h.hr.2.1)).gF (by show c.gr≠c.A;exact h.A_gr.symm) _
 ·exact fun i hi=>⟨(h.min i hi).1,(h.min i hi).2.1,((h.min i hi).2.2.gG (blk _ (h.min i hi).2.1)).gF (by show c.GM i≠c.A;exact (h.A_GM i hi).symm) _⟩
 ·intro i hi
  have far:∀g,c.w1.heap.size<=g->(w2.setCell (ad c.A (14+j)) v).heap[g]?=w2.heap[g]?:=fun g hg1=>Below.heap_setCell _ _ _ _ (by show g≠c.A;have:=h.hA1.2;omega)
  by_cases e:i=j
  ·subst e
   simp only [if_true]
   exact yB ho fun g hg1=>far g (zG ho g hg1)
  ·simp only [if_neg e]
   rw [hD i hi e]
   exact yB (ho2 i hi e) fun g hg1=>far g (zG (ho2 i hi e) g hg1)
 ·intro i k hi hk hik g hg1
  by_cases e1:i=j
  ·by_cases e2:k=j
   ·omega
   ·simp only [if_pos e1] at hg1
    simp only [if_neg e2]
    intro e3
    rcases hv with hv | hv
    ·exact h.dinj j k hj hk (by omega) g (by rw [<-hv];exact hg1) e3
    ·have h1:=hv g hg1
     have h2:=zB (h.due k hk) g e3.symm
     omega
  ·by_cases e2:k=j
   ·simp only [if_neg e1] at hg1
    simp only [if_pos e2]
    intro e3
    rcases hv with hv | hv
    ·rw [hv] at e3;exact h.dinj i j hi hj e1 g hg1 e3
    ·have h1:=hv g e3.symm
     have h2:=zB (h.due i hi) g hg1
     omega
   ·simp only [if_neg e1] at hg1
    simp only [if_neg e2]
    exact h.dinj i k hi hk hik g hg1
end
def zcg (c:Mc) (logs:List Int) (gm cm:Nat) (CM:Nat->Nat) (x:World):Prop :=
 zK x c.lv logs/\(0<c.n->c.mv=.slice (pA gm) c.n cm/\c.n<=cm/\cm<=maxLen/\gm<x.heap.size)/\∀i,i<c.n->x.cell? (ad gm i)=some (.slice (pA (c.GM i)) (c.lenM i) (CM i))/\c.lenM i<=CM i/\CM i<=maxLen
theorem U6 (A:Nat) (R r p:Int) (q:Nat) (w:World) (hc:w.cell? (ad A 6)=sI R) (hr:0<=r) (hr2:r<=200) (hp:0<=p) (hp2:p<=20000) (hR:1<=R) (hR2:R<=128) (hq:(r+p) % R=(q:Int)) :
  Calls prog 158 #[.pointer (pA A),iV r,iV p] w fun e w'=>e=.returned (iV q)/\w'=w:=by
 have hm:Int.tmod (r+p) R=(q:Int):=by rw [Int.tmod_eq_emod_of_nonneg (by omega)];exact hq
 have hq2:(q:Int)<R:=by have:=Int.emod_lt_of_pos (r+p) (by omega:0<R);omega
 have hR0:¬R=0:=by omega
 have HQ:=z9 hq
 clear hq
 go_enter func158,ntmps158
 go_wp2_with fail
 go_ret
 exact⟨rfl,rfl⟩
theorem zin (A T:Nat) (w:World) (hT:T<=40000) :
  Calls prog 154 #[.pointer (pA A),iV T] w fun e w'=>e=.returned (.pointer (some (ad A (14+T % 6))))/\w'=w:=by
 have hm:Int.tmod (T:Int) 6=((T % 6:Nat):Int):=by rw [Int.tmod_eq_emod_of_nonneg (by omega)];omega
 obtain⟨q,hq⟩:∃q,T % 6=q:=⟨_,rfl⟩
 have hq6:q<6:=by omega
 rw [hq] at hm ⊢
 have HQ:=z9 hq
 clear hq
 go_enter func154,ntmps154
 go_wp2_with fail
 go_ret
 exact⟨by simp,rfl⟩
theorem zfq {c:Mc} {V:Nat->Value} {D:List Du} {f:Nat->Int} {m:Nat->Nat->Int} (w:World) (logs:List Int) (gm cm:Nat) (CM:Nat->Nat) (sl sg o d a b sp pl nn:Int) (i j:Nat) (T:Int)
  (hI:yr c V D f m w) (hS:zcg c logs gm cm CM w) (hn:c.n=logs.length) (hi:i<c.n) (hj:idx sp pl T (nth logs i)=(j:Int)) (hjl:j<c.lenM i) (hlm:c.lenM i<=32) :
  Calls prog 156 #[.pointer (pA c.A),.agg #[iV sl,iV sg,iV o,iV d,iV a,iV b,iV i,iV sp,iV pl,iV nn],iV T] w fun e w' =>
   e=.returned (.pointer (some (ad (c.GM i) j)))/\Bw w w':=by
 obtain⟨-,⟨-,-,-,c10,-,c12,-⟩,-⟩:=hI.cells
 have hAz:=hI.A_lt
 obtain⟨hL,hM,gI⟩:=hS
 obtain⟨hmv,m2,m3,hmz⟩:=hM (by omega)
 rw [hmv] at c12
 obtain⟨la,lcap,hlv,ll,lm,lr,lc⟩:=hL
 rw [hlv] at c10
 obtain⟨lb,lo,rfl,hlz,hlc⟩:=lc (by omega)
 have hlk:=hlc i (by omega)
 obtain⟨hmo,i2,i3⟩:=gI i hi
 have hGz:c.GM i<w.heap.size:=by have:=(hI.min i hi).2.1;have:=hI.keep.1;omega
 have e1:(i:Int)<(c.n:Int):=by omega
 have e2:(i:Int)<(logs.length:Int):=by omega
 have e3:(j:Int)<(c.lenM i:Int):=by omega
 unfold maxLen at m3 lm i3
 generalize c.lenM i=lmi at *
 generalize nth logs i=lg at *
 generalize c.GM i=gi at *
 generalize c.A=A at *
 generalize c.n=n at *
 clear hI hM gI lc hlc lr hmv hlv
 go_enter func156,ntmps156
 go_wp2_with fail
 go_big_quiet ((go_at_call 175;exact Calls.quiet_of_same (U4 _ _ _ _ _)))
 go_wp2_with fail
 go_ret
 exact⟨rfl,(below_alloc1 _ _).trans (below_draws _ _ _)⟩
theorem zv0 (A:Nat) (sl sg d a b ar sp pl nn p T:Int) (w:World) :
  Calls prog 155 #[.pointer (pA A),.agg #[iV sl,iV sg,iV 1,iV d,iV a,iV b,iV ar,iV sp,iV pl,iV nn],iV p,iV T] w (Rt w (iV nn)):=by
 go_enter func155,ntmps155
 go_wp2_with fail
 go_ret
 exact⟨rfl,below_alloc1 _ _⟩
theorem zv1 (A:Nat) (sl sg d a b ar sp pl nn p T:Int) (w:World) :
  Calls prog 155 #[.pointer (pA A),.agg #[iV sl,iV sg,iV 2,iV d,iV a,iV b,iV ar,iV sp,iV pl,iV nn],iV p,iV T] w (Rt w (iV T)):=by
 go_enter func155,ntmps155
 go_wp2_with fail
 go_ret
 exact⟨rfl,below_alloc1 _ _⟩
theorem zv2 {c:Mc} {V:Nat->Value} {D:List Du} {f:Nat->Int} {m:Nat->Nat->Int} (w:World) (logs:List Int) (gm cm:Nat) (CM:Nat->Nat) (sl sg d a b sp pl nn p:Int) (i j:Nat) (T:Int)
  (hI:yr c V D f m w) (hS:∀x,ZZ c x->zcg c logs gm cm CM x) (hn:c.n=logs.length) (hi:i<c.n) (hj:idx sp pl T (nth logs i)=(j:Int)) (hjl:j<c.lenM i) (hlm:c.lenM i<=32) :
  Calls prog 155 #[.pointer (pA c.A),.agg #[iV sl,iV sg,iV 3,iV d,iV a,iV b,iV i,iV sp,iV pl,iV nn],iV p,iV T] w (Rt w (iV (m i j))):=by
 have HI:=z9 hI
 have HS:=z9 hS
 clear hI hS
 go_enter func155,ntmps155
 go_wp2_with fail
 have hI2:=HI.out.gE (below_alloc1 w (.cells #[iV sl,iV sg,iV 3,iV d,iV a,iV b,iV i,iV sp,iV pl,iV nn] 37))
 refine (zfq _ logs gm cm CM sl sg 3 d a b sp pl nn i j T hI2 (HS.out _ hI2.keep) hn hi hj hjl hlm).mono ?_
 rintro e w2 ⟨rfl,hb⟩
 have gR:=((hI2.gE hb).min i hi).2.2.cell hjl
 have HB:=z9 ((below_alloc1 w (.cells #[iV sl,iV sg,iV 3,iV d,iV a,iV b,iV i,iV sp,iV pl,iV nn] 37)).trans (hb.mono (by simp)))
 clear hb hI2
 go_wp2_with fail
 go_ret
 exact⟨rfl,HB.out⟩
theorem XJ {a p R:Int} (hR:1<=R):(a+p) % R=(((a+p) % R).toNat:Int)/\((a+p) % R).toNat<R.toNat:=by
 have h1:=Int.emod_nonneg (a+p) (by omega:R≠0)
 have h2:=Int.emod_lt_of_pos (a+p) (by omega:0<R)
 omega
theorem zv3 {c:Mc} {V:Nat->Value} {D:List Du} {f:Nat->Int} {m:Nat->Nat->Int} (w:World) (sl sg d a b ar sp pl nn p T:Int) (hI:yr c V D f m w) (hR:(c.R:Int)=c.t.r) (hr1:1<=c.t.r) (hr2:c.t.r<=128) (ha:0<=a) (ha2:a<=200) (hb:0<=b) (hb2:b<=200) (hp:0<=p) (hp2:p<=20000) :
  Calls prog 155 #[.pointer (pA c.A),.agg #[iV sl,iV sg,iV 4,iV d,iV a,iV b,iV ar,iV sp,iV pl,iV nn],iV p,iV T] w (Rt w (iV (f ((a+p) % c.t.r).toNat))):=by
 obtain⟨⟨-,-,-,-,-,-,c6⟩,⟨-,-,-,-,c11,-,-⟩,-⟩:=hI.cells
 obtain⟨qa,qa2⟩:=XJ (a:=a) (p:=p) hr1
 obtain⟨qb,qb2⟩:=XJ (a:=b) (p:=p) hr1
 have ra:=hI.regs.cell (i:=((a+p) % c.t.r).toNat) (by omega)
 have rb:=hI.regs.cell (i:=((b+p) % c.t.r).toNat) (by omega)
 have hgz:=hI.regs.lt
 have hAz:=hI.A_lt
 have hcr:=hI.hr.2.2.2
 have hcr1:=hI.hr.2.2.1
 unfold maxLen at hcr
 generalize ((a+p) % c.t.r).toNat=ia at *
 generalize ((b+p) % c.t.r).toNat=ib at *
 have ea:(ia:Int)<(c.R:Int):=by omega
 have eb:(ib:Int)<(c.R:Int):=by omega
 have HQA:=z9 qa
 have HQB:=z9 qb
 have HRR:=z9 hR
 generalize c.A=A at *
 generalize c.gr=gr at *
 clear hI qa qb hR
 go_enter func155,ntmps155
 go_wp2_with fail
 go_big_quiet ((go_at_call 158;exact Calls.quiet_of_same (U6 _ c.t.r _ _ _ _ (by go_simp) (by first | exact ha | exact hb) (by first | exact ha2 | exact hb2) hp hp2 hr1 hr2 (by first | exact HQA.out | exact HQB.out))))
 go_wp2_with fail
 go_ret
 exact⟨rfl,(below_alloc1 _ _).trans (below_draws _ _ _)⟩
theorem zqx {c:Mc} {V:Nat->Value} {D:List Du} {f:Nat->Int} {m:Nat->Nat->Int} (w:World) (sl sg o d a b ar sp pl nn p T:Int) (hI:yr c V D f m w) (hR:(c.R:Int)=c.t.r) (hr1:1<=c.t.r) (hr2:c.t.r<=128) (ha:0<=a) (ha2:a<=200) (hb:0<=b) (hb2:b<=200) (hp:0<=p) (hp2:p<=20000) (o1:11<=o) (o2:o<=18) :
  Calls prog 155 #[.pointer (pA c.A),.agg #[iV sl,iV sg,iV o,iV d,iV a,iV b,iV ar,iV sp,iV pl,iV nn],iV p,iV T] w (Rt w (iV (opv (o - 10) (f ((a+p) % c.t.r).toNat) (f ((b+p) % c.t.r).toNat)))):=by
 obtain⟨⟨-,-,-,-,-,-,c6⟩,⟨-,-,-,-,c11,-,-⟩,-⟩:=hI.cells
 obtain⟨qa,qa2⟩:=XJ (a:=a) (p:=p) hr1
 obtain⟨qb,qb2⟩:=XJ (a:=b) (p:=p) hr1
 have ra:=hI.regs.cell (i:=((a+p) % c.t.r).toNat) (by omega)
 have rb:=hI.regs.cell (i:=((b+p) % c.t.r).toNat) (by omega)
 have hgz:=hI.regs.lt
 have hAz:=hI.A_lt
 have hcr:=hI.hr.2.2.2
 have hcr1:=hI.hr.2.2.1
 unfold maxLen at hcr
 generalize ((a+p) % c.t.r).toNat=ia at *
 generalize ((b+p) % c.t.r).toNat=ib at *
 have ea:(ia:Int)<(c.R:Int):=by omega
 have eb:(ib:Int)<(c.R:Int):=by omega
 have q1:(o == 1)=false:=beq_eq_false_iff_ne.2 (by omega)
 have q2:(o == 2)=false:=beq_eq_false_iff_ne.2 (by omega)
 have q3:(o == 3)=false:=beq_eq_false_iff_ne.2 (by omega)
 have q4:(o == 4)=false:=beq_eq_false_iff_ne.2 (by omega)
 have HQA:=z9 qa
 have HQB:=z9 qb
 have HRR:=z9 hR
 generalize c.A=A at *
 generalize c.gr=gr at *
 clear hI qa qb hR
 go_enter func155,ntmps155
 go_wp2_with fail
 go_big_quiet ((go_at_call 158;exact Calls.quiet_of_same (U6 _ c.t.r _ _ _ _ (by go_simp) (by first | exact ha | exact hb) (by first | exact ha2 | exact hb2) hp hp2 hr1 hr2 (by first | exact HQA.out | exact HQB.out))))
 go_wp2_with fail
 refine (zoh _ _ _ _).mono ?_
 rintro e w4 ⟨rfl,hbw⟩
 have HB:=z9 (((below_alloc1 w _).trans (below_draws _ _ _)).trans (hbw.mono (by simp)))
 clear hbw
 go_wp2_with fail
 go_ret
 exact⟨rfl,HB.out⟩
theorem zm3 (w:World) (row:Option Nat):w.grownBy w row:=⟨rfl,rfl,rfl,Nat.le_refl _,fun _ _ _=>rfl⟩
theorem zxx {D:List Du} {j:Int} {d:Du} (h:d∈ZX D j):d∈D:=by
 unfold ZX at h
 exact (List.mem_filter.1 h).1
theorem yr.landed {c:Mc} {V:Nat->Value} {D:List Du} {f:Nat->Int} {m:Nat->Nat->Int} {wr:World} (h:yr c V D f m wr) (hW:Win T D) :
  yr c (fun i=>if i=T % 6 then zlk (V (T % 6)) else V i) (yR T D D.length) f m (wr.setCell (ad c.A (14+T % 6)) (zlk (V (T % 6)))):=by
 have hj:((T:Int) % 6)=((T % 6:Nat):Int):=by omega
 have h6:T % 6<6:=Nat.mod_lt _ (by omega)
 refine h.setDue (T % 6) _ _ wr h6 (zm3 _ _) ?_ (.inl (zll (h.due _ h6))) (fun i hi hne=>?_)
 ·rw [zg3 hW,if_pos hj.symm]
  exact ztp (h.due _ h6)
 ·rw [zg3 hW,if_neg (by omega)]
theorem zug {c:Mc} {V:Nat->Value} {D:List Du} {f:Nat->Int} {m:Nat->Nat->Int} (T:Nat) (w:World) (hI:yr c V D f m w) (hW:Win T D) (hD:∀d∈D,0<=d.rg/\d.rg<(c.R:Int)) (hT:T<=40000) :
  Calls prog 118 #[.pointer (pA c.A),iV T] w fun e w'=>e=.returned (.tuple #[])/\∃V',yr c V' (yR T D D.length) (xx T D f D.length) m w':=by
 have hj:((T:Int) % 6)=((T % 6:Nat):Int):=by omega
 have h6:T % 6<6:=Nat.mod_lt _ (by omega)
 have HF:Hid (xx T D f D.length=UB (ZX D (T % 6:Nat)) f (ZX D (T % 6:Nat)).length):=by show _=_;rw [zqj hW,hj]
 have HG:Hid (∀f' wr,yr c V D f' m wr->yr c (fun i=>if i=T % 6 then zlk (V (T % 6)) else V i) (yR T D D.length) f' m (wr.setCell (ad c.A (14+T % 6)) (zlk (V (T % 6))))):=fun f' wr h=>h.landed hW
 have HL:Hid (∀d∈ZX D (T % 6:Nat),0<=d.rg/\d.rg<(c.R:Int)):=fun d hd=>hD d (zxx hd)
 have HDA:=z9 (fun W=>zin c.A T W hT)
 clear hj hW hD
 generalize T % 6=j at *
 obtain⟨va,vc,hV,hvn,hvm⟩:=zS (hI.due j h6)
 have hcut:zlk (V j)=.slice va 0 vc:=by rw [hV];rfl
 unfold maxLen at hvm
 have HI:=z9 hI
 have HV:=z9 hV
 have HCUT:=z9 hcut
 have gR:=hI.cells.2.2 j h6
 rw [hV] at gR
 have hnil:va=none->vc=0:=by
  intro e
  have h:=(hI.due j h6).2
  rw [hV] at h
  rcases h with ⟨e2,_⟩ | ⟨g,cap,cur,e2,_⟩
  ·injection e2
  ·injection e2 with e3;rw [e3] at e;cases e
 have HNIL:=z9 hnil
 clear hV hcut hI hnil
 generalize hl:ZX D (j:Int)=l at *
 have HLD:=z9 hl
 clear hl
 go_enter func118,ntmps118
 go_wp2_with (go_at_call 154;refine (HDA.out _).mono ?_;rintro e w' ⟨rfl,rfl⟩)
 go_loopw [14] (fun i wr=>∃k:Nat,k<=l.length/\i=iV k/\yr c V D (UB l f k) m wr) (fun i _=>l.length - (intOf i).toNat)
 case atStart=>exact⟨0,Nat.zero_le _,rfl,HI.out⟩
 case round =>
  clear HI gR
  obtain⟨k,hk,rfl,hQ⟩:=hrel
  by_cases hkl:k<l.length
  ·have gI:=hQ.due j h6
   rw [HLD.out] at gI
   obtain⟨g,cap,hg0,hg1,hg2,hg3,hg4,hcells⟩:=zs2 gI (by omega)
   rw [HV.out] at hg0
   injection hg0 with e1 e2 e3
   subst e1;subst e3
   obtain⟨d0,d1⟩:=hcells k hkl
   obtain⟨r0,r1⟩:=HL.out _ (UT hkl)
   obtain⟨q,hq⟩:∃q:Nat,(yK l k).rg=(q:Int):=⟨(yK l k).rg.toNat,by omega⟩
   have HP:Hid (UB l f (k+1)=YH (UB l f k) q (yK l k).v):=by
    show YH (UB l f k) (yK l k).rg.toNat (yK l k).v=_
    rw [hq];rfl
   rw [hq] at d0 r1
   have hqR:q<c.R:=by omega
   have hki:(k:Int)<(l.length:Int):=by omega
   obtain⟨-,⟨-,-,-,-,c11,-,-⟩,-⟩:=hQ.cells
   have hAz:=hQ.A_lt
   have hgz:=hQ.regs.lt
   have hfr:=hQ.regs.frozen q
   have hrc:=hQ.regs.cell hqR
   have hcr1:=hQ.hr.2.2.1
   have hcr:=hQ.hr.2.2.2
   unfold maxLen at hcr
   have HQ:=z9 hQ
   generalize (yK l k).v=vv at *
   generalize UB l f k=fk at *
   clear hcells gI hq hQ HL HDA
   go_wp2_with fail
   go_region
   go_wp2_with fail
   go_roundw
   case rel =>
    refine⟨k+1,by omega,by go_num,?_⟩
    rw [HP.out]
    exact (HQ.out.setReg q vv hqR).gE (below_alloc1 _ _).drew
   case measure=>simp [intOf];omega
  ·have e:k=l.length:=by omega
   subst e
   have hki:¬(l.length:Int)<(l.length:Int):=by omega
   have hcell2:=hQ.cells.2.2 j h6
   rw [HV.out] at hcell2
   have hfr:=hQ.frozenA (14+j)
   have HQ:=z9 hQ
   clear hQ
   cases va with
   | none =>
     obtain rfl:=HNIL.out rfl
     go_wp2_with fail
     go_end0
     refine⟨rfl,?_⟩
     rw [HF.out]
     have h:=HG.out _ _ HQ.out
     rw [HCUT.out] at h
     exact⟨_,h⟩
   | some ad =>
     go_wp2_with fail
     go_end0
     refine⟨rfl,?_⟩
     rw [HF.out]
     have h:=HG.out _ _ HQ.out
     rw [HCUT.out] at h
     exact⟨_,h⟩
def Vr (bi bw:Nat):Value:=.func (.func 157) #[] #[.pointer (pA bi),.pointer (pA bw)]
def Vi (c:Mc) (b1:Nat) (wr:World) (v:Value) (l:List Sto):Prop :=
 ∃ BI BW:Nat->Nat,wr.ownsRow b1 1 1 v l.length ((List.range l.length).map fun i=>Vr (BI i) (BW i)) /\
   ∀i,i<l.length->(b1<=BI i/\wr.heap[BI i]?=some (.cells #[iV (zT l i).v] 2 (0,0)))/\(b1<=BW i/\wr.heap[BW i]?=some (.cells #[.pointer (some (ad (c.GM (zT l i).i) ((zT l i).j)))] 209 (0,0)))/\(zT l i).i<c.n/\(zT l i).j<c.lenM (zT l i).i
theorem Vi.keep {c:Mc} {wr w':World} {v:Value} {l:List Sto} (h:Vi c b1 wr v l) (hk:∀(g:Nat) (cs:Array Value) (e:TypeId),b1<=g->g<wr.heap.size->wr.heap[g]?=some (.cells cs e (0,0))->e≠222->w'.heap[g]?=wr.heap[g]?):Vi c b1 w' v l:=by
 obtain⟨BI,BW,h1,h2⟩:=h
 refine⟨BI,BW,yB h1 fun g hg=>?_,fun i hi=>?_⟩
 ·have h3:=zG h1 g hg
  have h4:=zB h1 g hg
  obtain⟨-,h1⟩:=h1
  rcases h1 with ⟨rfl,_⟩ | ⟨g',cap,cur,rfl,_,hb,_⟩
  ·cases hg
  ·have e:g'=g:=by simpa [Value.ownBlock] using hg
   subst e
   exact hk _ _ _ h3 h4 hb (by decide)
 ·obtain⟨⟨a1,a2⟩,⟨b1,b2⟩,c1⟩:=h2 i hi
  exact⟨⟨a1,by rw [hk _ _ _ a1 (Array.getElem?_eq_some_iff.1 a2).1 a2 (by decide)];exact a2⟩,⟨b1,by rw [hk _ _ _ b1 (Array.getElem?_eq_some_iff.1 b2).1 b2 (by decide)];exact b2⟩,c1⟩
theorem Vi.gE {c:Mc} {wr w':World} {v:Value} {l:List Sto} (h:Vi c b1 wr v l) (hb:Bw wr w'):Vi c b1 w' v l :=
 h.keep fun g cs e _ hg _ _=>hb.block g hg
theorem Vi.setDue {c:Mc} {V:Nat->Value} {D:List Du} {f:Nat->Int} {m:Nat->Nat->Int} {wr:World} {v:Value} {l:List Sto} (h:Vi c b1 wr v l) (hI:yr c V D f m wr) (j:Nat) (hj:j<6) (hb1:c.w1.heap.size<=b1) (hg:wr.grownBy w2 (V j).ownBlock) (u:Value) (o:Nat) :
  Vi c b1 (w2.setCell (ad c.A o) u) v l:=by
 refine h.keep fun g cs e hge hlt hb he=>?_
 rw [Below.heap_setCell _ _ _ _ (by show g≠c.A;have:=hI.hA1.2;omega)]
 refine hg.block g hlt fun e2=>?_
 have hd:=hI.due j hj
 obtain⟨-,hd⟩:=hd
 rcases hd with ⟨e3,_⟩ | ⟨g',cap,cur,e3,_,hb3,_⟩
 ·rw [e3] at e2;cases e2
 ·rw [e3] at e2
  have e4:g=g':=by simpa [Value.ownBlock] using e2
  subst e4
  exact xK hb hb3 he rfl
theorem Vi.nil (c:Mc) (b1:Nat) (wr:World):Vi c b1 wr (.slice none 0 0) [] :=
 ⟨fun _=>0,fun _=>0,World.ownsRow_nil _ _ _ _,fun i hi=>absurd hi (Nat.not_lt_zero _)⟩
theorem zmy (f:Nat->Value) (n:Nat):(List.range n).map f++[f n]=(List.range (n+1)).map f:=by
 rw [List.range_succ,List.map_append];rfl
theorem Vi.push {c:Mc} {bi bw:Nat} {wr:World} {v v':Value} {l:List Sto} {i:Nat} {u:Int} {BI:Nat->Nat} (h1:wr.ownsRow b1 1 1 v l.length ((List.range l.length).map fun i=>Vr (BI i) (BW i)))
  (h2:∀i,i<l.length->(b1<=BI i/\wr.heap[BI i]?=some (.cells #[iV (zT l i).v] 2 (0,0)))/\(b1<=BW i/\wr.heap[BW i]?=some (.cells #[.pointer (some (ad (c.GM (zT l i).i) ((zT l i).j)))] 209 (0,0)))/\(zT l i).i<c.n/\(zT l i).j<c.lenM (zT l i).i)
  (hg:wr.grownBy w2 v.ownBlock) (h3:w2.ownsRow b1 1 1 v' (l.length+1) (((List.range l.length).map fun i=>Vr (BI i) (BW i))++[Vr bi bw]))
  (hbi:b1<=bi/\wr.heap[bi]?=some (.cells #[iV u] 2 (0,0))) (hbw:b1<=bw/\wr.heap[bw]?=some (.cells #[.pointer (some (ad (c.GM i) j))] 209 (0,0))) (hi:i<c.n) (hj:j<c.lenM i) :
  Vi c b1 w2 v' (l++[⟨i,j,u⟩]):=by
 have far:∀(g:Nat) (cs:Array Value) (e:TypeId),wr.heap[g]?=some (.cells cs e (0,0))->e≠1->w2.heap[g]?=wr.heap[g]?:=fun g cs e hb he=>hg.block g (Array.getElem?_eq_some_iff.1 hb).1 fun e2=>by
  obtain⟨-,hd⟩:=h1
  rcases hd with ⟨e3,_⟩ | ⟨g',cap,cur,e3,_,hb3,_⟩
  ·rw [e3] at e2;cases e2
  ·rw [e3] at e2
   have e4:g=g':=by simpa [Value.ownBlock] using e2
   subst e4
   exact xK hb hb3 he rfl
 refine⟨fun q=>if q=l.length then bi else BI q,fun q=>if q=l.length then bw else BW q,?_,fun q hq=>?_⟩
 ·have hl:(l++[Sto.mk i j u]).length=l.length+1:=by simp
  have he:(List.range (l++[Sto.mk i j u]).length).map (fun q=>Vr (if q=l.length then bi else BI q) (if q=l.length then bw else BW q))=(List.range l.length).map (fun i=>Vr (BI i) (BW i))++[Vr bi bw]:=by
   rw [hl,<-zmy]
   congr 1
   ·refine List.map_congr_left fun q hq=>?_
    have:q<l.length:=List.mem_range.1 hq
    rw [if_neg (by omega),if_neg (by omega)]
   ·simp
  rw [he,hl]
  exact h3
 ·have hl:(l++[Sto.mk i j u]).length=l.length+1:=by simp
  by_cases e:q=l.length
  ·subst e
   rw [zgd]
   simp only [if_true]
   exact⟨⟨hbi.1,by rw [far _ _ _ hbi.2 (by decide)];exact hbi.2⟩,⟨hbw.1,by rw [far _ _ _ hbw.2 (by decide)];exact hbw.2⟩,hi,hj⟩
  ·rw [zdw _ _ _ (by omega)]
   simp only [if_neg e]
   obtain⟨⟨a1,a2⟩,⟨b1,b2⟩,c1⟩:=h2 q (by omega)
   exact⟨⟨a1,by rw [far _ _ _ a2 (by decide)];exact a2⟩,⟨b1,by rw [far _ _ _ b2 (by decide)];exact b2⟩,c1⟩
def zu8 (r:Int) (n:Nat) (x:Kop):Prop:=(0<=x.d/\x.d<r)/\(0<=x.a/\x.a<r)/\(0<=x.b/\x.b<r)/\(0<=x.sg/\x.sg<=1000)/\(x.o=1\/x.o=2\/(x.o=3/\0<=x.ar/\x.ar<n)\/(x.o=4/\0<=x.ar/\x.ar<n)\/(11<=x.o/\x.o<=18))
theorem zmc {c:Mc} {V:Nat->Value} {D:List Du} {f:Nat->Int} {m:Nat->Nat->Int} (w:World) (logs:List Int) (gm cm:Nat) (CM:Nat->Nat) (sl sg o d a b ar sp pl nn pc now p T:Int)
  (hI:yr c V D f m w) (hS:∀x,ZZ c x->zcg c logs gm cm CM x) (hn:c.n=logs.length) (hlen:∀i,i<c.n->c.lenM i=2 ^ (nth logs i).toNat/\c.lenM i<=32) (hR:(c.R:Int)=c.t.r) (hr1:1<=c.t.r) (hr2:c.t.r<=128)
  (hx:zu8 c.t.r c.n ⟨sl,sg,o,d,a,b,ar,sp,pl,nn⟩) (hp:now / pc=p) (hT:p - sg=T) (hp1:0<=p) (hp2:p<=20000) :
  Calls prog 155 #[.pointer (pA c.A),.agg #[iV sl,iV sg,iV o,iV d,iV a,iV b,iV ar,iV sp,iV pl,iV nn],iV p,iV T] w fun e w' =>
   e=.returned (iV (UK logs c.t.r pc now f m ⟨sl,sg,o,d,a,b,ar,sp,pl,nn⟩))/\Bw w w':=by
 have hjc:=zed logs pc now ⟨sl,sg,o,d,a,b,ar,sp,pl,nn⟩
 have hjl:=zkz logs pc now ⟨sl,sg,o,d,a,b,ar,sp,pl,nn⟩
 have hT':now / pc - sg=T:=by rw [hp];exact hT
 have hV:UK logs c.t.r pc now f m ⟨sl,sg,o,d,a,b,ar,sp,pl,nn⟩=if o=1 then nn else if o=2 then T else if o=3 then m ar.toNat (Y0 logs pc now ⟨sl,sg,o,d,a,b,ar,sp,pl,nn⟩) else if o=4 then f ((a+p) % c.t.r).toNat else opv (o - 10) (f ((a+p) % c.t.r).toNat) (f ((b+p) % c.t.r).toNat):=by
  unfold UK zmz
  dsimp only
  rw [hT',hp]
 rw [hV]
 dsimp only at hjc hjl
 rw [hT'] at hjc
 obtain⟨hd,ha,hb,hsg,ho⟩:=hx
 dsimp only at hd ha hb hsg ho
 rcases ho with rfl | rfl | ⟨rfl,h1,h2⟩ | ⟨rfl,h1,h2⟩ | ⟨h1,h2⟩
 ·exact zv0 c.A sl sg d a b ar sp pl nn p T w
 ·exact zv1 c.A sl sg d a b ar sp pl nn p T w
 ·generalize Y0 logs pc now ⟨sl,sg,3,d,a,b,ar,sp,pl,nn⟩=j at *
  obtain⟨i,rfl⟩:∃i:Nat,ar=(i:Int):=⟨ar.toNat,by omega⟩
  rw [Int.toNat_natCast] at hjc hjl ⊢
  have hi:i<c.n:=by omega
  exact zv2 w logs gm cm CM sl sg d a b sp pl nn p i j T hI hS hn hi hjc (by rw [(hlen i hi).1];exact hjl) (hlen i hi).2
 ·exact zv3 w sl sg d a b ar sp pl nn p T hI hR hr1 hr2 ha.1 (by omega) hb.1 (by omega) hp1 hp2
 ·rw [if_neg (by omega),if_neg (by omega),if_neg (by omega),if_neg (by omega)]
  exact zqx w sl sg o d a b ar sp pl nn p T hI hR hr1 hr2 ha.1 (by omega) hb.1 (by omega) hp1 hp2 h1 h2
theorem zxc {c:Mc} {V:Nat->Value} {D:List Du} {f:Nat->Int} {m:Nat->Nat->Int} (w:World) (bi bw i j:Nat) (u:Int) (hI:yr c V D f m w) (hbi:w.heap[bi]?=some (.cells #[iV u] 2 (0,0))) (hbw:w.heap[bw]?=some (.cells #[.pointer (some (ad (c.GM i) j))] 209 (0,0))) (hi:i<c.n) (hj:j<c.lenM i) :
  Calls prog 157 #[.pointer (pA bi),.pointer (pA bw)] w fun e w'=>e=.returned (.tuple #[])/\w'=w.setCell (ad (c.GM i) j) (iV u):=by
 have c0:w.cell? (ad bi 0)=sI u:=by rw [cell_of_block hbi];rfl
 have c1:w.cell? (ad bw 0)=some (.pointer (some (ad (c.GM i) j))):=by rw [cell_of_block hbw];rfl
 have hr:=(hI.min i hi).2.2
 have c2:=hr.cell hj
 have hf:=hr.frozen j
 clear hI hbi hbw hr
 go_enter func157,ntmps157
 go_wp2_with fail
 go_end0
 exact⟨rfl,rfl⟩
section
theorem Tryz.i222:(prog.info? 222).map (fun i=>(i.zero,i.size,i.bytes))=some (some (.agg #[iV 0,iV 0]),2,16):=by kernel_rfl
theorem Tryz.i1:(prog.info? 1).map (fun i=>(i.zero,i.size,i.bytes))=some (some .nilFunc,1,8):=by kernel_rfl
theorem UA {w:World} {X:Nat} {sl sg o d a b ar sp pl nn:Int} (h:w.heap[X]?=some (.cells #[iV sl,iV sg,iV o,iV d,iV a,iV b,iV ar,iV sp,iV pl,iV nn] 37 (0,0))) :
  w.cell? (ad X 0)=sI sl/\w.cell? (ad X 1)=sI sg/\w.cell? (ad X 2)=sI o/\w.cell? (ad X 3)=sI d/\w.cell? (ad X 4)=sI a/\w.cell? (ad X 5)=sI b/\w.cell? (ad X 6)=sI ar/\w.cell? (ad X 7)=sI sp/\w.cell? (ad X 8)=sI pl/\w.cell? (ad X 9)=sI nn:=by
 have key:=cell_of_block h
 refine⟨?_,?_,?_,?_,?_,?_,?_,?_,?_,?_⟩ <;> (rw [key];rfl)
theorem yA (w:World) (cs:Array Value) (e:TypeId):(w.alloc (.cells cs e)).heap[w.heap.size]?=some (.cells cs e (0,0)):=by
 show (w.heap.push _)[w.heap.size]?=_
 simp
theorem zzp {pc:Int} {P:Nat} {x:Kop} (hs:x.sl=(T:Int) % pc) (hp:(T:Int) / pc=(P:Int)):YJ pc gD T x=inR (P - x.sg) 0 (gD - 1):=by
 unfold YJ inR
 rw [decide_eq_true hs,hp,Bool.true_and,<-Bool.decide_and]
 exact decide_eq_decide.2 (by omega)
theorem zky (h:yj t=true) (o:Int):∃wt:Nat,xW t (zW o)=(wt:Int)/\1<=wt/\wt<=6/\zO t o=(wt:Int):=by
 obtain⟨h1,h2,h3,-,-⟩:=ym h
 have h1:=yn h1
 have h2:=yn h2
 have h3:=yn h3
 have hw:zO t o=xW t (zW o):=by unfold zO;rw [if_pos h]
 rw [hw]
 rcases XG o with hc | hc | hc
 ·exact⟨t.w0.toNat,by rw [hc];show t.w0=_;omega,by omega,by omega,by rw [hc];show t.w0=_;omega⟩
 ·exact⟨t.w1.toNat,by rw [hc];show t.w1=_;omega,by omega,by omega,by rw [hc];show t.w1=_;omega⟩
 ·exact⟨t.w2.toNat,by rw [hc];show t.w2=_;omega,by omega,by omega,by rw [hc];show t.w2=_;omega⟩
theorem zno (t:Tg) (o:Int) (wt:Nat) (h:zO t o=(wt:Int)) (w:World):Calls prog 98 #[.agg #[iV t.u0,iV t.u1,iV t.u2,iV t.w0,iV t.w1,iV t.w2,iV t.r],iV o] w (Rt w (iV wt)):=by
 rw [<-h];exact zfy t o w
theorem zpy (A T wt:Nat) (w:World) (h:T+wt<=40000):Calls prog 154 #[.pointer (pA A),iV ((T:Int)+(wt:Int))] w fun e w'=>e=.returned (.pointer (some (ad A (14+(T+wt) % 6))))/\w'=w:=by
 have:=zin A (T+wt) w h
 rw [Int.natCast_add] at this
 exact this
structure Rdy (c:Mc) (V:Nat->Value) (D:List Du) (f:Nat->Int) (m:Nat->Nat->Int) (X BI:Nat) (sl sg o d a b ar sp pl nn v:Int) (x:World):Prop where
 inv:yr c V D f m x
 hX:x.heap[X]?=some (.cells #[iV sl,iV sg,iV o,iV d,iV a,iV b,iV ar,iV sp,iV pl,iV nn] 37 (0,0))
 hB:x.heap[BI]?=some (.cells #[iV v] 2 (0,0))
variable {c:Mc} {V:Nat->Value} {D:List Du} {f:Nat->Int} {m:Nat->Nat->Int} {X BI:Nat} {sl sg o d a b ar sp pl nn v:Int} {x:World}
theorem Rdy.gE {x':World} (h:Rdy c V D f m X BI sl sg o d a b ar sp pl nn v x) (hb:Bw x x'):Rdy c V D f m X BI sl sg o d a b ar sp pl nn v x' :=
 ⟨h.inv.gE hb,by rw [hb.block _ (Array.getElem?_eq_some_iff.1 h.hX).1];exact h.hX,by rw [hb.block _ (Array.getElem?_eq_some_iff.1 h.hB).1];exact h.hB⟩
theorem Rdy.s10 (h:Rdy c V D f m X BI sl sg o d a b ar sp pl nn v x):(x.cell? (ad c.A 0)=sI c.t.u0/\x.cell? (ad c.A 1)=sI c.t.u1/\x.cell? (ad c.A 2)=sI c.t.u2/\x.cell? (ad c.A 3)=sI c.t.w0/\x.cell? (ad c.A 4)=sI c.t.w1/\x.cell? (ad c.A 5)=sI c.t.w2/\x.cell? (ad c.A 6)=sI c.t.r)/\x.cell? (ad X 2)=sI o :=
 ⟨h.inv.cells.1,(UA h.hX).2.2.1⟩
theorem Rdy.s11 (h:Rdy c V D f m X BI sl sg o d a b ar sp pl nn v x) (hj:j<6) (hV:V j=.slice va n0 vc):x.cell? (ad c.A (14+j))=some (.slice va n0 vc)/\x.cell? (ad X 3)=sI d/\x.cell? (ad c.A 6)=sI c.t.r/\x.cell? (ad BI 0)=sI v :=
 ⟨by rw [h.inv.cells.2.2 j hj,hV],(UA h.hX).2.2.2.1,h.inv.cells.1.2.2.2.2.2.2,by rw [cell_of_block h.hB];rfl⟩
theorem zh6 (h:yr c V D f m x) (hj:j<6) (hb:x.heap[g]?=some (.cells cs e (0,0))) (he:e≠222):some g≠(V j).ownBlock:=by
 intro e2
 obtain⟨-,hd⟩:=h.due j hj
 rcases hd with ⟨e3,_⟩ | ⟨g',cap,cur,e3,_,hb3,_⟩
 ·rw [e3] at e2;cases e2
 ·rw [e3] at e2
  have e4:g=g':=by simpa [Value.ownBlock] using e2
  subst e4
  exact xK hb hb3 he rfl
theorem Rdy.grown (h:Rdy c V D f m X BI sl sg o d a b ar sp pl nn v x) (hj:j<6) (hV:V j=.slice va n0 vc) (hg:x.grownBy w6 (Value.slice va n0 vc).ownBlock):(w6.cell? (ad c.A (14+j))=some (.slice va n0 vc)/\w6.cell? (ad X 3)=sI d/\w6.cell? (ad c.A 6)=sI c.t.r/\w6.cell? (ad BI 0)=sI v)/\w6.frozen? (ad c.A (14+j))=false:=by
 rw [<-hV] at hg
 have bA:=hg.block c.A h.inv.A_lt (zh6 h.inv hj h.inv.hA (by decide))
 have bX:=hg.block X (Array.getElem?_eq_some_iff.1 h.hX).1 (zh6 h.inv hj h.hX (by decide))
 have bB:=hg.block BI (Array.getElem?_eq_some_iff.1 h.hB).1 (zh6 h.inv hj h.hB (by decide))
 obtain⟨s1,s2,s3,s4⟩:=h.s11 hj hV
 refine⟨⟨?_,?_,?_,?_⟩,?_⟩
 ·rw [World.cell?_of_block (a:=(ad c.A (14+j))) bA];exact s1
 ·rw [World.cell?_of_block (a:=(ad X 3)) bX];exact s2
 ·rw [World.cell?_of_block (a:=(ad c.A 6)) bA];exact s3
 ·rw [World.cell?_of_block (a:=(ad BI 0)) bB];exact s4
 ·simp [World.frozen?,bA,h.inv.hA]
theorem ze0 (w:World) (a b:Value) (t:TypeId):∀(j:Nat) (u:Value),[a,b][j]?=some u->(w.alloc (.cells #[a,b] t)).cell? (((ad w.heap.size 0):Addr).add j)=some u:=by
 intro j u hj
 have ha:((ad w.heap.size 0):Addr).add j=(ad w.heap.size j):=by simp [Addr.add];omega
 rw [ha,cell_of_block (yA _ _ _)]
 simpa using hj
theorem yr.push {wt:Nat} {rg u:Int} {l0:List Du} (h:yr c V D f m x) (hj:(T+wt) % 6=j) (hV:V j=.slice va n0 vc) (hl:ZX D (j:Int)=l0) (hn:l0.length=n0)
  (gJ:w6.ownsRow c.w1.heap.size 222 2 (.slice (pA g) (n0+1) cap) (n0+1) (XH l0++[iV rg,iV u])) (hg:x.grownBy w6 (Value.slice va n0 vc).ownBlock) (hat:(Value.slice va n0 vc).ownBlock=some g\/x.heap.size<=g) :
  yr c (fun i=>if i=j then .slice (pA g) (n0+1) cap else V i) (D++[⟨(T:Int)+(wt:Int),rg,u⟩]) f m (w6.setCell (ad c.A (14+j)) (.slice (pA g) (n0+1) cap)):=by
 have h6:j<6:=by omega
 have hq:((T:Int)+(wt:Int)) % 6=(j:Int):=by omega
 rw [<-hV] at hg hat
 have e1:ZX (D++[⟨(T:Int)+(wt:Int),rg,u⟩]) (j:Int)=l0++[⟨(T:Int)+(wt:Int),rg,u⟩]:=by rw [zfg,if_pos (by exact hq),hl]
 refine h.setDue j _ _ w6 h6 hg ?_ ?_ (fun i hi hne=>?_)
 ·rw [e1,<-zlx,List.length_append,hn]
  exact gJ
 ·rcases hat with e | e
  ·exact .inl (by rw [e];rfl)
  ·refine .inr fun q hq2=>?_
   have e3:g=q:=by simpa [Value.ownBlock] using hq2
   omega
 ·rw [zfg,if_neg (by show ¬((T:Int)+(wt:Int)) % 6=(i:Int);omega)]
theorem zvm (t:Tg) (logs:List Int) (pc gD now:Int) (f:Nat->Int) (m:Nat->Nat->Int):∀(q:Nx) (l:List Kop),(Xf t logs pc gD now f m q l).du.length<=q.du.length+l.length:=by
 intro q l
 induction l generalizing q with
 | nil=>exact Nat.le_refl _
 | cons x l ih =>
   have h:=ih (opK t logs pc gD now f m q x)
   have h2:(opK t logs pc gD now f m q x).du.length<=q.du.length+1:=by
    unfold opK
    split
    ·show (_++[_]).length<=_
     rw [List.length_append];simp
    ·omega
   show (Xf t logs pc gD now f m (opK t logs pc gD now f m q x) l).du.length<=q.du.length+(l.length+1)
   omega
theorem zkl (t:Tg) (logs:List Int) (pc gD now:Int) (f:Nat->Int) (m:Nat->Nat->Int) (l:List Kop):(YA t logs pc gD now f m l).length<=l.length:=by
 unfold YA
 rw [List.length_map]
 exact List.length_filter_le _ _
theorem zai {e0:TypeId} (gI:y.ownsRow b1 e0 1 u n xs) (hg:y.grownBy w5 u.ownBlock) (hb:y.heap[g]?=some (.cells cs e (0,0))) (he:e≠e0):w5.heap[g]?=y.heap[g]?:=by
 refine hg.block g (Array.getElem?_eq_some_iff.1 hb).1 fun e2=>?_
 obtain⟨-,hd⟩:=gI
 rcases hd with ⟨e3,_⟩ | ⟨g',cap,cur,e3,_,hb3,_⟩
 ·rw [e3] at e2;cases e2
 ·rw [e3] at e2
  have e4:g=g':=by simpa [Value.ownBlock] using e2
  subst e4
  exact xK hb hb3 he rfl
theorem Rdy.sto (h:Rdy c V D f m X BI sl sg o d a b ar sp pl nn v x) (gI:x.ownsRow b1 1 1 u n xs) (hb1:c.w1.heap.size<=b1) (hg:x.grownBy w5 u.ownBlock):Rdy c V D f m X BI sl sg o d a b ar sp pl nn v w5:=by
 have hge:∀k,u.ownBlock=some k->b1<=k:=fun k e=>zG gI k e
 refine⟨h.inv.same ((Below.refl _ _).grown hg h.inv.bel.size fun k e=>?_) (fun g hlt=>?_) (fun j hj g e=>?_),?_,?_⟩
 ·have:=hge k e;have:=h.inv.w01;omega
 ·exact hg.block g (Nat.lt_of_lt_of_le hlt h.inv.keep.1) fun e=>by have:=hge g e.symm;omega
 ·exact hg.block g (zB (h.inv.due j hj) g e) (zjs (h.inv.due j hj) gI (by decide) g e)
 ·rw [zai gI hg h.hX (by decide)];exact h.hX
 ·rw [zai gI hg h.hB (by decide)];exact h.hB
theorem yae (w:World) (v:Value) (t:TypeId) (hB:w.heap.size=B):∀(j:Nat) (u:Value),[v][j]?=some u->(w.alloc (.cells #[v] t)).cell? (((ad B 0):Addr).add j)=some u:=by
 subst hB
 intro j u hj
 have ha:((ad w.heap.size 0):Addr).add j=(ad w.heap.size j):=by simp [Addr.add];omega
 rw [ha,cell_of_block (yA _ _ _)]
 simpa using hj
theorem ap7 {y':World} {l:List Sto} {BI:Nat->Nat} (h:(∀i,i<l.length->(b1<=BI i/\y.heap[BI i]?=some (.cells #[iV (zT l i).v] 2 (0,0)))/\(b1<=BW i/\y.heap[BW i]?=some (.cells #[.pointer (some (ad (c.GM (zT l i).i) ((zT l i).j)))] 209 (0,0)))/\(zT l i).i<c.n/\(zT l i).j<c.lenM (zT l i).i)) (hb:Bw y y'):∀i,i<l.length->(b1<=BI i/\y'.heap[BI i]?=some (.cells #[iV (zT l i).v] 2 (0,0)))/\(b1<=BW i/\y'.heap[BW i]?=some (.cells #[.pointer (some (ad (c.GM (zT l i).i) ((zT l i).j)))] 209 (0,0)))/\(zT l i).i<c.n/\(zT l i).j<c.lenM (zT l i).i:=fun i hi=>by
 obtain⟨⟨a1,a2⟩,⟨a3,a4⟩,a5⟩:=h i hi
 exact⟨⟨a1,by rw [hb.block _ (Array.getElem?_eq_some_iff.1 a2).1];exact a2⟩,⟨a3,by rw [hb.block _ (Array.getElem?_eq_some_iff.1 a4).1];exact a4⟩,a5⟩
theorem Vi.two {l:List Sto} {BI:Nat->Nat} (h1:y.ownsRow b1 1 1 u l.length ((List.range l.length).map fun i=>Vr (BI i) (BW i))) (h2:(∀i,i<l.length->(b1<=BI i/\y.heap[BI i]?=some (.cells #[iV (zT l i).v] 2 (0,0)))/\(b1<=BW i/\y.heap[BW i]?=some (.cells #[.pointer (some (ad (c.GM (zT l i).i) ((zT l i).j)))] 209 (0,0)))/\(zT l i).i<c.n/\(zT l i).j<c.lenM (zT l i).i)) (hI:yr c V D f m y) (i j:Nat) (hi:i<c.n) (hb1:c.w1.heap.size<=b1) (uu:Value) :
  (y.setCell (ad (c.GM i) j) uu).ownsRow b1 1 1 u l.length ((List.range l.length).map fun i=>Vr (BI i) (BW i))/\(∀s,s<l.length->(b1<=BI s/\(y.setCell (ad (c.GM i) j) uu).heap[BI s]?=some (.cells #[iV (zT l s).v] 2 (0,0)))/\(b1<=BW s/\(y.setCell (ad (c.GM i) j) uu).heap[BW s]?=some (.cells #[.pointer (some (ad (c.GM (zT l s).i) ((zT l s).j)))] 209 (0,0)))/\(zT l s).i<c.n/\(zT l s).j<c.lenM (zT l s).i):=by
 have far:∀g,b1<=g->(y.setCell (ad (c.GM i) j) uu).heap[g]?=y.heap[g]?:=fun g hg=>Below.heap_setCell _ _ _ _ (by show g≠c.GM i;have:=(hI.min i hi).2.1;omega)
 refine⟨yB h1 fun g hg=>far g (zG h1 g hg),fun s hs=>?_⟩
 obtain⟨⟨a1,a2⟩,⟨a3,a4⟩,a5⟩:=h2 s hs
 exact⟨⟨a1,by rw [far _ a1];exact a2⟩,⟨a3,by rw [far _ a3];exact a4⟩,a5⟩
theorem zfb (x:Int) (h0:-9223372036854775808<=x) (h1:x<=9223372036854775807):IntKind.i64.wrap x=x:=by rw [IntKind.wrap_i64];omega
end
theorem zy6 {c:Mc} {V:Nat->Value} {D:List Du} {f:Nat->Int} {m:Nat->Nat->Int} (w:World) (logs:List Int) (gm cm:Nat) (CM:Nat->Nat) (oa:Option Addr) (oc:Nat) (L:List Kop) (P T:Nat)
  (hI:yr c V D f m w) (hS:∀x,ZZ c x->zcg c logs gm cm CM x) (hO:∀x,ZZ c x->Zf x (.slice oa L.length oc) L) (hn:c.n=logs.length) (hlen:∀i,i<c.n->c.lenM i=2 ^ (nth logs i).toNat/\c.lenM i<=32) (hR:(c.R:Int)=c.t.r) (hmt:yj c.t=true)
  (hgood:∀x∈L,zu8 c.t.r c.n x) (hsl:∀x∈L,x.sl=(T:Int) % c.pc) (hP:(T:Int) / c.pc=(P:Int)) (hP2:P<=2000) (hT:T<=30000) (ht1:1<=c.gD) (ht2:c.gD<=200) (hD:D.length<=900000) (hL:L.length<=16) :
  Calls prog 119 #[.pointer (pA c.A),.slice oa L.length oc,iV P,iV T] w fun e w'=>e=.returned (.tuple #[])/\∃V',yr c V' (Xf c.t logs c.pc c.gD T f m ⟨m,D⟩ L).du f (Xf c.t logs c.pc c.gD T f m ⟨m,D⟩ L).nx w':=by
 obtain⟨hr1,hr2⟩:=(ym hmt).2.2.2
 obtain⟨i0,hi,hz0,hz1,hz2⟩:=info_parts Tryz.i222
 obtain⟨q0,qi,qz0,qz1,qz2⟩:=info_parts Tryz.i1
 have hmf:∀(fn:Fn) (first cap:Array Value) (w:World),(Instr.makeFunc fn first cap).run prog w=.ok (.func fn first cap) w:=fun _ _ _ _=>rfl
 have hwz:c.w1.heap.size<=w.heap.size:=hI.keep.1
 have HI:=z9 hI
 have HS:=z9 hS
 have HO:=z9 hO
 have HLEN:=z9 hlen
 have HGOOD:=z9 hgood
 have HSL:=z9 hsl
 have HP:=z9 hP
 have HMT:=z9 hmt
 have HR0:=z9 hR
 have HN:=z9 hn
 obtain⟨oa',oc',ho1,ho2,ho3,-⟩:=hO w hI.keep
 injection ho1 with e1 e2 e3
 subst e1;subst e3
 unfold maxLen at ho3
 clear hI hS hO hlen hgood hsl hP hmt hR hn e2
 go_enter func119,ntmps119
 go_wp2_with fail
 go_loopw [8,19] (fun sv i wr=>∃k:Nat,k<=L.length/\i=iV k/\∃V',yr c V' (Xf c.t logs c.pc c.gD T f m ⟨m,D⟩ (L.take k)).du f m wr/\Vi c w.heap.size wr sv (YA c.t logs c.pc c.gD T f m (L.take k))/\w.heap.size<=wr.heap.size) (fun _ i _=>L.length - (intOf i).toNat)
 case atStart=>exact⟨0,Nat.zero_le _,rfl,V,HI.out,Vi.nil _ _ _,Nat.le_refl _⟩
 case round =>
  clear HI
  obtain⟨k,hk,rfl,V1,hQ,hSt,hwr⟩:=hrel
  by_cases hkl:k<L.length
  ·have hki:(k:Int)<(L.length:Int):=by omega
   obtain⟨oa2,oc2,hov,-,-,hocell⟩:=HO.out wr hQ.keep
   injection hov with e1 e2 e3
   subst e1;subst e3
   obtain⟨ob,oo,rfl,hob,hocell⟩:=hocell (by omega)
   obtain⟨c0,c1,c2,c3,c4,c5,c6,c7,c8,c9⟩:=ten (hocell k hkl)
   have hgk:=HGOOD.out _ (zad hkl)
   have hslk:=HSL.out _ (zad hkl)
   have HAC:=z9 (zzp (gD:=c.gD) hslk HP.out)
   have HOPS:=z9 (zfw c.t logs c.pc c.gD T f m ⟨m,D⟩ L k hkl)
   have HSTO:=z9 (zge c.t logs c.pc c.gD T f m L k hkl)
   have hDk:(Xf c.t logs c.pc c.gD T f m ⟨m,D⟩ (L.take k)).du.length<=900016:=by
    have:=zvm c.t logs c.pc c.gD T f m ⟨m,D⟩ (L.take k)
    rw [List.length_take] at this
    have h2:(Nx.mk m D).du.length=D.length:=rfl
    omega
   have hSk:(YA c.t logs c.pc c.gD T f m (L.take k)).length<=16:=by
    have:=zkl c.t logs c.pc c.gD T f m (L.take k)
    rw [List.length_take] at this
    omega
   obtain⟨hAl,⟨-,-,-,-,-,-,c13⟩,-⟩:=hQ.cells
   have hAz:=hQ.A_lt
   have HQ:=z9 hQ
   have HSt:=z9 hSt
   clear hocell hQ hSt hslk hAl
   generalize Xf c.t logs c.pc c.gD T f m ⟨m,D⟩ (L.take k)=q at *
   generalize YA c.t logs c.pc c.gD T f m (L.take k)=sts at *
   generalize zp L k=xk at *
   obtain⟨sl,sg,o,d,a,b,ar,sp,pl,nn⟩:=xk
   simp only at c0 c1 c2 c3 c4 c5 c6 c7 c8 c9 HAC
   have HGK:=z9 hgk
   obtain⟨⟨hd0,hd1⟩,⟨ha0,ha1⟩,⟨hb0,hb1⟩,⟨hg0,hg1⟩,-⟩:=hgk
   simp only at hd0 hd1 ha0 ha1 hb0 hb1 hg0 hg1
   cases hin:inR ((P:Int) - sg) 0 (c.gD - 1) with
   | false =>
     have HDU:Hid (Xf c.t logs c.pc c.gD T f m ⟨m,D⟩ (L.take (k+1))=q):=by show _=_;rw [HOPS.out];unfold opK;rw [HAC.out,hin];rfl
     have HST:Hid (YA c.t logs c.pc c.gD T f m (L.take (k+1))=sts):=by show _=_;rw [HSTO.out,HAC.out,hin,if_neg (fun h=>Bool.noConfusion h.1)]
     clear HOPS HSTO HAC
     go_wp2_with (go_at_call 66;refine (zH _ _ _ _).mono ?_;rintro e w' ⟨rfl,rfl⟩)
     go_roundw
     case rel=>exact⟨k+1,by omega,by go_num,V1,by rw [HDU.out];exact HQ.out.gE (below_alloc1 _ _),by rw [HST.out];exact HSt.out.gE (below_alloc1 _ _),by simp;omega⟩
     case measure=>simp [intOf];omega
   | true =>
     obtain⟨wt,wt1,wt2,wt3,wt4⟩:=zky HMT.out o
     have HWT:=z9 (zno c.t o wt wt4)
     have HDA:=z9 (fun W=>zpy c.A T wt W (by omega))
     have hwtw:IntKind.i64.wrap ((T:Int)+(wt:Int))=(T:Int)+(wt:Int):=zfb _ (by omega) (by omega)
     obtain⟨v,hv⟩:∃v,UK logs c.t.r c.pc T f m ⟨sl,sg,o,d,a,b,ar,sp,pl,nn⟩=v:=⟨_,rfl⟩
     obtain⟨rg,hrg⟩:∃rg:Nat,(d+(P:Int)) % c.t.r=(rg:Int):=⟨_,(XJ hr1).1⟩
     have HRG:=z9 hrg
     have HVV:=z9 hv
     obtain⟨j,hj⟩:∃j,(T+wt) % 6=j:=⟨_,rfl⟩
     have hj6:j<6:=by omega
     have HJ:=z9 hj
     rw [hj] at HDA
     obtain⟨l0,hl0⟩:∃l0,ZX q.du (j:Int)=l0:=⟨_,rfl⟩
     have HL0:=z9 hl0
     have hn9:l0.length<=900016:=by
      rw [<-hl0]
      exact Nat.le_trans (List.length_filter_le _ _) hDk
     obtain⟨n0,hn0⟩:∃n0,l0.length=n0:=⟨_,rfl⟩
     rw [hn0] at hn9
     have HN0:=z9 hn0
     obtain⟨va,vc,hV,-,-⟩:=zS (HQ.out.due j hj6)
     rw [hl0,hn0] at hV
     have HV:=z9 hV
     have HOW:Hid (∀x,yr c V1 q.du f m x->x.ownsRow c.w1.heap.size 222 2 (.slice va n0 vc) n0 (XH l0)):=fun x h=>by
      have h2:=h.due j hj6
      rw [HL0.out,HN0.out,HV.out] at h2
      exact h2
     have HDU:Hid ((Xf c.t logs c.pc c.gD T f m ⟨m,D⟩ (L.take (k+1))).du=q.du++[⟨(T:Int)+(wt:Int),rg,v⟩]):=by
      show _=_
      rw [HOPS.out]
      unfold opK
      rw [HAC.out,hin,if_pos rfl]
      show q.du++[_]=_
      rw [wt1,HP.out,hrg,hv]
     have HCO:Hid (∀W,yr c V1 q.du f m W->Calls prog 155 #[.pointer (pA c.A),.agg #[iV sl,iV sg,iV o,iV d,iV a,iV b,iV ar,iV sp,iV pl,iV nn],iV P,iV ((P:Int) - sg)] W (Rt W (iV v))):=fun W h=>by
      have h2:=zmc W logs gm cm CM sl sg o d a b ar sp pl nn c.pc T P ((P:Int) - sg) h HS.out HN.out HLEN.out HR0.out hr1 hr2 HGK.out HP.out rfl (by omega) (by omega)
      rw [HVV.out] at h2
      exact h2
     clear hv hrg hj hl0 hn0 hV wt1 wt4 HOPS
     by_cases ho4:o=4
     ·subst ho4
      have HST:Hid (YA c.t logs c.pc c.gD T f m (L.take (k+1))=sts++[⟨ar.toNat,Y0 logs c.pc T ⟨sl,sg,4,d,a,b,ar,sp,pl,nn⟩,v⟩]):=by show _=_;rw [HSTO.out,HAC.out,hin,if_pos ⟨rfl,rfl⟩,HVV.out]
      clear HSTO HAC
      obtain⟨-,-,-,-,ho5⟩:=HGK.out
      simp only at ho5
      have har:0<=ar/\ar<(c.n:Int):=by omega
      clear ho5
      obtain⟨i,rfl⟩:∃i:Nat,ar=(i:Int):=⟨ar.toNat,by omega⟩
      have hiN:i<c.n:=by omega
      have hjc:=zed logs c.pc T ⟨sl,sg,4,d,a,b,(i:Int),sp,pl,nn⟩
      have hjl:=zkz logs c.pc T ⟨sl,sg,4,d,a,b,(i:Int),sp,pl,nn⟩
      simp only [Int.toNat_natCast] at hjc hjl
      rw [HP.out] at hjc
      rw [<-(HLEN.out i hiN).1] at hjl
      rw [Int.toNat_natCast] at HST
      generalize Y0 logs c.pc T ⟨sl,sg,4,d,a,b,(i:Int),sp,pl,nn⟩=jw at *
      have HWO:Hid (∀W,yr c V1 q.du f m W->Calls prog 156 #[.pointer (pA c.A),.agg #[iV sl,iV sg,iV 4,iV d,iV a,iV b,iV i,iV sp,iV pl,iV nn],iV ((P:Int) - sg)] W (Rt W (.pointer (some (ad (c.GM i) jw))))):=fun W h=>zfq W logs gm cm CM sl sg 4 d a b sp pl nn i jw ((P:Int) - sg) h (HS.out _ h.keep) HN.out hiN hjc hjl (HLEN.out i hiN).2
      have HJL:=z9 hjl
      clear hjc hjl har
      go_wp2_with (go_at_call 66;refine (zH _ _ _ _).mono ?_;rintro e w' ⟨rfl,rfl⟩)
      have hI2:=HQ.out.gE (below_alloc1 wr (.cells #[iV sl,iV sg,iV 4,iV d,iV a,iV b,iV i,iV sp,iV pl,iV nn] 37))
      refine (HCO.out _ hI2).mono ?_
      rintro e x2 ⟨rfl,hb2⟩
      have HXB:Hid (x2.heap[wr.heap.size]?=some (.cells #[iV sl,iV sg,iV 4,iV d,iV a,iV b,iV i,iV sp,iV pl,iV nn] 37 (0,0))):=by show _=_;rw [hb2.block _ (by simp)];exact yA _ _ _
      have hI3:=(hI2.gE hb2).gE (below_alloc1 x2 (.cells #[iV v] 2))
      have HSt2:=z9 (((HSt.out.gE (below_alloc1 wr (.cells #[iV sl,iV sg,iV 4,iV d,iV a,iV b,iV i,iV sp,iV pl,iV nn] 37))).gE hb2).gE (below_alloc1 x2 (.cells #[iV v] 2)))
      have hxz:wr.heap.size<x2.heap.size:=by have:=hb2.size;simp at this;omega
      obtain⟨bx0,bx1,bx2,bx3,bx4,bx5,bx6,bx7,bx8,bx9⟩:=UA HXB.out
      clear hb2 hI2 c0 c1 c2 c3 c4 c5 c6 c7 c8 c9 c13
      go_wp2_with fail
      refine (HWO.out _ hI3).mono ?_
      rintro e x7 ⟨rfl,hb7⟩
      have hI7:=hI3.gE hb7
      have hz7:x2.heap.size<x7.heap.size:=by have:=hb7.size;simp at this;omega
      have hX7:x7.heap[wr.heap.size]?=some (.cells #[iV sl,iV sg,iV 4,iV d,iV a,iV b,iV i,iV sp,iV pl,iV nn] 37 (0,0)):=by rw [hb7.block _ (by simp;omega),Below.heap_alloc _ _ _ hxz];exact HXB.out
      have hB7:x7.heap[x2.heap.size]?=some (.cells #[iV v] 2 (0,0)):=by rw [hb7.block _ (by simp)];exact yA _ _ _
      obtain⟨BF,WF,hrow7,hbox7⟩:=HSt2.out.gE hb7
      have HRD:Hid (Rdy c V1 q.du f m wr.heap.size x2.heap.size sl sg 4 d a b (i:Int) sp pl nn v ((x7.alloc (.cells #[.pointer (some (ad (c.GM i) jw))] 209)).alloc (.cells #[Vr x2.heap.size x7.heap.size] 1))):=(Rdy.mk hI7 hX7 hB7).gE (below_alloc2 _ _ _)
      have gS:Hid (((x7.alloc (.cells #[.pointer (some (ad (c.GM i) jw))] 209)).alloc (.cells #[Vr x2.heap.size x7.heap.size] 1)).ownsRow w.heap.size 1 1 u8 sts.length ((List.range sts.length).map fun i=>Vr (BF i) (WF i))):=zA hrow7 (below_alloc2 _ _ _)
      have HBOX:Hid (∀s,s<sts.length->(w.heap.size<=BF s/\((x7.alloc (.cells #[.pointer (some (ad (c.GM i) jw))] 209)).alloc (.cells #[Vr x2.heap.size x7.heap.size] 1)).heap[BF s]?=some (.cells #[iV (zT sts s).v] 2 (0,0)))/\(w.heap.size<=WF s/\((x7.alloc (.cells #[.pointer (some (ad (c.GM i) jw))] 209)).alloc (.cells #[Vr x2.heap.size x7.heap.size] 1)).heap[WF s]?=some (.cells #[.pointer (some (ad (c.GM (zT sts s).i) ((zT sts s).j)))] 209 (0,0)))/\(zT sts s).i<c.n/\(zT sts s).j<c.lenM (zT sts s).i):=ap7 hbox7 (below_alloc2 _ _ _)
      clear hb7 hI3 hI7 hX7 hB7 hrow7 hbox7 bx0 bx1 bx2 bx3 bx4 bx5 bx6 bx7 bx8 bx9
      go_wp2_with (at_builtin;refine wpList_append_own _ rfl (.tmp 47) (.tmp 49) 223 rfl w.heap.size 1 q0 .nilFunc 1 8 underlying223 qi qz0 qz1 qz2 rfl (by decide) _ _ _ rfl gS.out (ad (x7.heap.size+1) 0) 1 1 [Vr x2.heap.size x7.heap.size] rfl rfl (yae _ _ _ (by simp)) (by intro u hu;simp at hu;subst hu;rfl) (by unfold maxLen;omega) (by omega) (by simp;omega) ?_;intro v5 w5 hown5 hgrow5 hnil5;have HO5:=z9 hown5;have HG5:=z9 hgrow5;have HZ5:=z9 hgrow5.size;clear hown5 hgrow5 hnil5)
      have HBF:Hid (x2.heap.size>=w.heap.size/\x7.heap.size>=w.heap.size):=⟨by omega,by omega⟩
      have HR:=z9 (HRD.out.sto gS.out hwz HG5.out)
      have HStP:=z9 (Vi.push gS.out HBOX.out HG5.out HO5.out ⟨HBF.out.1,HRD.out.hB⟩ ⟨HBF.out.2,by rw [Below.heap_alloc _ _ _ (by simp)];exact yA _ _ _⟩ hiN HJL.out)
      have HWZ:Hid (wr.heap.size<=w5.heap.size):=by show _<=_;have:=HZ5.out;simp at this;omega
      refine wp_region_noPanic ?_
      refine zm 99 (fun w'=>(w'.cell? (ad c.A 0)=sI c.t.u0/\w'.cell? (ad c.A 1)=sI c.t.u1/\w'.cell? (ad c.A 2)=sI c.t.u2/\w'.cell? (ad c.A 3)=sI c.t.w0/\w'.cell? (ad c.A 4)=sI c.t.w1/\w'.cell? (ad c.A 5)=sI c.t.w2/\w'.cell? (ad c.A 6)=sI c.t.r)/\w'.cell? (ad wr.heap.size 2)=sI 4) (by kernel_rfl) HR.out.s10 (fun h9=>?_)
      refine uk 0 h9 ?_
      refine uk 1 h9 ?_
      refine uk 2 h9 ?_
      refine uk 3 h9 ?_
      refine uk 4 h9 ?_
      refine uk 5 h9 ?_
      refine uk 6 h9 ?_
      refine uk 7 h9 ?_
      refine ze (i:=8) rfl (by kernel_rfl) (fun K hK=>?_)
      go_simp
      refine (HWT.out _).mono ?_
      rintro e x3 ⟨rfl,hb3⟩
      have HB3:=z9 ((Below.refl _ _).drew.trans hb3)
      have HR3:=z9 (HR.out.gE HB3.out)
      have HZ3:=z9 HB3.out.size
      clear hb3 h9
      have h9:=HR3.out.s10
      refine nxt hK.out (.inr h9) ?_
      clear hK K
      refine uk 9 h9 ?_
      refine ze (i:=10) rfl (by kernel_rfl) (fun K hK=>?_)
      go_simp
      refine (HDA.out _).mono ?_
      rintro e x4 ⟨rfl,rfl⟩
      refine nxt hK.out (.inr h9) ?_
      clear hK K
      refine ze (i:=11) rfl (by kernel_rfl) (fun K hK=>?_)
      go_simp
      refine nxt hK.out (.inr h9) ?_
      clear hK K
      refine zq (by kernel_rfl) ?_ _
      refine NoPanic.normal ?_
      clear h9
      go_wp2_with fail
      refine wp_region_noPanic ?_
      refine zm 14 (fun w'=>w'.cell? (ad c.A (14+j))=some (.slice va n0 vc)/\w'.cell? (ad wr.heap.size 3)=sI d/\w'.cell? (ad c.A 6)=sI c.t.r/\w'.cell? (ad x2.heap.size 0)=sI v) (by kernel_rfl) (HR3.out.s11 hj6 HV.out) (fun h9=>?_)
      refine uk 0 h9 ?_
      refine uk 1 h9 ?_
      refine uk 2 h9 ?_
      refine uk 3 h9 ?_
      refine uk 4 h9 ?_
      refine uk 5 h9 ?_
      refine uk 6 h9 ?_
      refine uk 7 h9 ?_
      refine uk 9 h9 ?_
      refine ze (i:=8) rfl (by kernel_rfl) (fun K hK=>?_)
      go_simp
      refine (U6 c.A c.t.r d P rg _ h9.2.2.1 hd0 (by omega) (by omega) (by omega) hr1 hr2 HRG.out).mono ?_
      rintro e x5 ⟨rfl,rfl⟩
      refine nxt hK.out (.inr h9) ?_
      clear hK K
      refine uk 10 h9 ?_
      refine ze (i:=11) rfl (by kernel_rfl) (fun K hK=>?_)
      go_simp
      have HR5:=z9 (HR3.out.gE ((Below.refl _ _).drew.trans (below_alloc1 x4.drew (.cells #[iV rg,iV v] 222))))
      refine nxt hK.out (.inr (HR5.out.s11 hj6 HV.out)) ?_
      clear hK K h9
      refine ze (i:=12) rfl (by kernel_rfl) (fun K hK=>?_)
      refine step_append_lies _ (by rfl) (.tmp 65) (.tmp 73) 125 (by rfl) c.w1.heap.size 222 i0 (.agg #[iV 0,iV 0]) 2 16 underlying125 hi hz0 hz1 hz2 rfl (by decide) _ n0 (XH l0) (by rfl) (HOW.out _ HR5.out.inv) (ad x4.heap.size 0) 1 1 [iV rg,iV v] (by rfl) rfl (ze0 _ _ _ _) (by intro u hu;simp at hu;rcases hu with rfl | rfl <;> rfl) (by decide) (by unfold maxLen;omega) (by omega) HR5.out.inv.keep.1 (x4.heap.size+1) (by simp) ?_
      intro g cap w6 hown6 hgrow6 hat6 hlt6
      have hk6:=HR5.out.grown hj6 HV.out hgrow6
      have HO6:=z9 hown6
      have HG6:=z9 hgrow6
      have HA6:=z9 hat6
      clear hown6 hgrow6 hat6
      refine nxt hK.out (.inr hk6.1) ?_
      clear hK K
      have h9:=hk6.1
      have hpc6:=hk6.1.1
      have hf6:=hk6.2
      refine uk 13 h9 ?_
      refine ze (i:=14) rfl (by kernel_rfl) (fun K hK=>?_)
      go_simp
      refine nxt hK.out (.inl rfl) ?_
      clear hK K
      refine zq (by kernel_rfl) ?_ _
      refine NoPanic.normal ?_
      clear hk6 h9
      go_wp2_with fail
      go_roundw
      case rel =>
       have hA:(Value.slice va n0 vc).ownBlock=some g\/(x4.drew.alloc (.cells #[iV rg,iV v] 222)).heap.size<=g:=by
        rcases HA6.out with e | e
        ·exact .inl e
        ·exact .inr (by simp;omega)
       have hI6:=HR5.out.inv.push HJ.out HV.out HL0.out HN0.out HO6.out HG6.out hA
       refine⟨k+1,by omega,by go_num,_,by rw [HDU.out];exact hI6,?_,?_⟩
       ·rw [HST.out]
        exact ((HStP.out.gE HB3.out).gE ((Below.refl _ _).drew.trans (below_alloc1 x4.drew (.cells #[iV rg,iV v] 222)))).setDue HR5.out.inv j hj6 (by omega) (by rw [HV.out];exact HG6.out) _ _
       ·have h1:=HG6.out.size
        have h2:=HZ3.out
        have h3:=HWZ.out
        simp at h1 h2 h3 ⊢
        omega
      case measure=>simp [intOf];omega
     ·have ho4b:(o == 4)=false:=beq_eq_false_iff_ne.2 ho4
      have HST:Hid (YA c.t logs c.pc c.gD T f m (L.take (k+1))=sts):=by show _=_;rw [HSTO.out,if_neg (fun h=>ho4 h.2)]
      clear HSTO HAC ho4
      go_wp2_with (go_at_call 66;refine (zH _ _ _ _).mono ?_;rintro e w' ⟨rfl,rfl⟩)
      have hI2:=HQ.out.gE (below_alloc1 wr (.cells #[iV sl,iV sg,iV o,iV d,iV a,iV b,iV ar,iV sp,iV pl,iV nn] 37))
      refine (HCO.out _ hI2).mono ?_
      rintro e x2 ⟨rfl,hb2⟩
      have HR:=z9 (show Rdy c V1 q.du f m wr.heap.size x2.heap.size sl sg o d a b ar sp pl nn v (x2.alloc (.cells #[iV v] 2)) from ⟨(hI2.gE hb2).gE (below_alloc1 _ _),by rw [Below.heap_alloc _ _ _ (by have:=hb2.size;simp at this;omega),hb2.block _ (by simp)];exact yA _ _ _,yA _ _ _⟩)
      have HSt2:=z9 ((HSt.out.gE (below_alloc1 wr (.cells #[iV sl,iV sg,iV o,iV d,iV a,iV b,iV ar,iV sp,iV pl,iV nn] 37))).gE hb2)
      have HWZ:Hid (wr.heap.size<=x2.heap.size):=by show _<=_;have:=hb2.size;simp at this;omega
      have hbx:=UA (show x2.heap[wr.heap.size]?=some (.cells #[iV sl,iV sg,iV o,iV d,iV a,iV b,iV ar,iV sp,iV pl,iV nn] 37 (0,0)) by rw [hb2.block _ (by simp)];exact yA _ _ _)
      obtain⟨-,-,hbx2,-,-,-,-,-,-,-⟩:=hbx
      have hxz:wr.heap.size<x2.heap.size:=by have:=hb2.size;simp at this;omega
      clear hb2 hI2 c0 c1 c2 c3 c4 c5 c6 c7 c8 c9 c13
      go_wp2_with fail
      refine wp_region_noPanic ?_
      refine zm 99 (fun w'=>(w'.cell? (ad c.A 0)=sI c.t.u0/\w'.cell? (ad c.A 1)=sI c.t.u1/\w'.cell? (ad c.A 2)=sI c.t.u2/\w'.cell? (ad c.A 3)=sI c.t.w0/\w'.cell? (ad c.A 4)=sI c.t.w1/\w'.cell? (ad c.A 5)=sI c.t.w2/\w'.cell? (ad c.A 6)=sI c.t.r)/\w'.cell? (ad wr.heap.size 2)=sI o) (by kernel_rfl) HR.out.s10 (fun h9=>?_)
      refine uk 0 h9 ?_
      refine uk 1 h9 ?_
      refine uk 2 h9 ?_
      refine uk 3 h9 ?_
      refine uk 4 h9 ?_
      refine uk 5 h9 ?_
      refine uk 6 h9 ?_
      refine uk 7 h9 ?_
      refine ze (i:=8) rfl (by kernel_rfl) (fun K hK=>?_)
      go_simp
      refine (HWT.out _).mono ?_
      rintro e x3 ⟨rfl,hb3⟩
      have HB3:=z9 ((Below.refl _ _).drew.trans hb3)
      have HR3:=z9 (HR.out.gE HB3.out)
      have HZ3:=z9 HB3.out.size
      clear hb3 h9
      have h9:=HR3.out.s10
      refine nxt hK.out (.inr h9) ?_
      clear hK K
      refine uk 9 h9 ?_
      refine ze (i:=10) rfl (by kernel_rfl) (fun K hK=>?_)
      go_simp
      refine (HDA.out _).mono ?_
      rintro e x4 ⟨rfl,rfl⟩
      refine nxt hK.out (.inr h9) ?_
      clear hK K
      refine ze (i:=11) rfl (by kernel_rfl) (fun K hK=>?_)
      go_simp
      refine nxt hK.out (.inr h9) ?_
      clear hK K
      refine zq (by kernel_rfl) ?_ _
      refine NoPanic.normal ?_
      clear h9
      go_wp2_with fail
      refine wp_region_noPanic ?_
      refine zm 14 (fun w'=>w'.cell? (ad c.A (14+j))=some (.slice va n0 vc)/\w'.cell? (ad wr.heap.size 3)=sI d/\w'.cell? (ad c.A 6)=sI c.t.r/\w'.cell? (ad x2.heap.size 0)=sI v) (by kernel_rfl) (HR3.out.s11 hj6 HV.out) (fun h9=>?_)
      refine uk 0 h9 ?_
      refine uk 1 h9 ?_
      refine uk 2 h9 ?_
      refine uk 3 h9 ?_
      refine uk 4 h9 ?_
      refine uk 5 h9 ?_
      refine uk 6 h9 ?_
      refine uk 7 h9 ?_
      refine uk 9 h9 ?_
      refine ze (i:=8) rfl (by kernel_rfl) (fun K hK=>?_)
      go_simp
      refine (U6 c.A c.t.r d P rg _ h9.2.2.1 hd0 (by omega) (by omega) (by omega) hr1 hr2 HRG.out).mono ?_
      rintro e x5 ⟨rfl,rfl⟩
      refine nxt hK.out (.inr h9) ?_
      clear hK K
      refine uk 10 h9 ?_
      refine ze (i:=11) rfl (by kernel_rfl) (fun K hK=>?_)
      go_simp
      have HR5:=z9 (HR3.out.gE ((Below.refl _ _).drew.trans (below_alloc1 x4.drew (.cells #[iV rg,iV v] 222))))
      refine nxt hK.out (.inr (HR5.out.s11 hj6 HV.out)) ?_
      clear hK K h9
      refine ze (i:=12) rfl (by kernel_rfl) (fun K hK=>?_)
      refine step_append_lies _ (by rfl) (.tmp 65) (.tmp 73) 125 (by rfl) c.w1.heap.size 222 i0 (.agg #[iV 0,iV 0]) 2 16 underlying125 hi hz0 hz1 hz2 rfl (by decide) _ n0 (XH l0) (by rfl) (HOW.out _ HR5.out.inv) (ad x4.heap.size 0) 1 1 [iV rg,iV v] (by rfl) rfl (ze0 _ _ _ _) (by intro u hu;simp at hu;rcases hu with rfl | rfl <;> rfl) (by decide) (by unfold maxLen;omega) (by omega) HR5.out.inv.keep.1 (x4.heap.size+1) (by simp) ?_
      intro g cap w6 hown6 hgrow6 hat6 hlt6
      have hk6:=HR5.out.grown hj6 HV.out hgrow6
      have HO6:=z9 hown6
      have HG6:=z9 hgrow6
      have HA6:=z9 hat6
      clear hown6 hgrow6 hat6
      refine nxt hK.out (.inr hk6.1) ?_
      clear hK K
      have h9:=hk6.1
      have hpc6:=hk6.1.1
      have hf6:=hk6.2
      refine uk 13 h9 ?_
      refine ze (i:=14) rfl (by kernel_rfl) (fun K hK=>?_)
      go_simp
      refine nxt hK.out (.inl rfl) ?_
      clear hK K
      refine zq (by kernel_rfl) ?_ _
      refine NoPanic.normal ?_
      clear hk6 h9
      go_wp2_with fail
      go_roundw
      case rel =>
       have hA:(Value.slice va n0 vc).ownBlock=some g\/(x4.drew.alloc (.cells #[iV rg,iV v] 222)).heap.size<=g:=by
        rcases HA6.out with e | e
        ·exact .inl e
        ·exact .inr (by simp;omega)
       have hI6:=HR5.out.inv.push HJ.out HV.out HL0.out HN0.out HO6.out HG6.out hA
       refine⟨k+1,by omega,by go_num,_,by rw [HDU.out];exact hI6,?_,?_⟩
       ·rw [HST.out]
        exact (((HSt2.out.gE (below_alloc1 _ _)).gE HB3.out).gE ((Below.refl _ _).drew.trans (below_alloc1 x4.drew (.cells #[iV rg,iV v] 222)))).setDue HR5.out.inv j hj6 (by omega) (by rw [HV.out];exact HG6.out) _ _
       ·have h1:=HG6.out.size
        have h2:=HZ3.out
        have h3:=HWZ.out
        simp at h1 h2 h3 ⊢
        omega
      case measure=>simp [intOf];omega
  ·have e:k=L.length:=by omega
   subst e
   rw [List.take_length] at hQ hSt
   have hki:¬(L.length:Int)<(L.length:Int):=by omega
   have HNX:=z9 (zy9 c.t logs c.pc c.gD T f m D L L.length (Nat.le_refl _))
   rw [List.take_length] at HNX
   have hSk:(YA c.t logs c.pc c.gD T f m L).length<=16:=by
    have:=zkl c.t logs c.pc c.gD T f m L
    omega
   generalize hqq:Xf c.t logs c.pc c.gD T f m ⟨m,D⟩ L=q at *
   generalize YA c.t logs c.pc c.gD T f m L=sts at *
   obtain⟨BF,WF,gI,hbox⟩:=hSt
   obtain⟨sa,sc,rfl,hs1,hs2⟩:=zS gI
   unfold maxLen at hs2
   have HQ:=z9 hQ
   have gS:=z9 gI
   have HBOX:=z9 hbox
   have HQE:=z9 hqq
   clear hQ gI hbox hqq
   go_wp2_with fail
   go_loopw [79] (fun i wr2=>∃k2:Nat,k2<=sts.length/\i=iV k2/\yr c V1 q.du f (zer sts m k2) wr2/\wr2.ownsRow w.heap.size 1 1 (.slice sa sts.length sc) sts.length ((List.range sts.length).map fun i=>Vr (BF i) (WF i))/\∀i,i<sts.length->(w.heap.size<=BF i/\wr2.heap[BF i]?=some (.cells #[iV (zT sts i).v] 2 (0,0)))/\(w.heap.size<=WF i/\wr2.heap[WF i]?=some (.cells #[.pointer (some (ad (c.GM (zT sts i).i) ((zT sts i).j)))] 209 (0,0)))/\(zT sts i).i<c.n/\(zT sts i).j<c.lenM (zT sts i).i) (fun i _=>sts.length - (intOf i).toNat)
   case atStart=>exact⟨0,Nat.zero_le _,rfl,HQ.out,gS.out,HBOX.out⟩
   case round =>
    clear HQ gS HBOX
    obtain⟨k2,hk2,rfl,hQ2,hrow2,hbox2⟩:=hrel
    by_cases hkl2:k2<sts.length
    ·have hki2:(k2:Int)<(sts.length:Int):=by omega
     obtain⟨g,cap,hg0,-,-,-,hgr⟩:=yx hrow2 (.inr (by omega))
     injection hg0 with e1 e2 e3
     subst e1;subst e3
     have hcl:=hgr.cell hkl2
     rw [Y5 _ _ _ hkl2] at hcl
     obtain⟨⟨b1,b2⟩,⟨b3,b4⟩,b5,b6⟩:=hbox2 k2 hkl2
     have HD1:=z9 (zxc _ _ _ _ _ _ hQ2 b2 b4 b5 b6)
     have HQ3:=z9 (hQ2.setMem _ _ (zT sts k2).v b5 b6)
     have HS3:=z9 (Vi.two hrow2 hbox2 hQ2 (zT sts k2).i (zT sts k2).j b5 hwz (iV (zT sts k2).v))
     clear hgr hrow2 hbox2 hQ2 b1 b2 b3 b4 b5 b6
     unfold Vr at hcl
     go_wp2_with fail
     refine HD1.out.mono ?_
     rintro e x ⟨rfl,rfl⟩
     go_wp2_with fail
     go_roundw
     case rel=>exact⟨k2+1,by omega,by go_num,HQ3.out,HS3.out.1,HS3.out.2⟩
     case measure=>simp [intOf];omega
    ·have e:k2=sts.length:=by omega
     subst e
     have hki2:¬(sts.length:Int)<(sts.length:Int):=by omega
     have HQ2:=z9 hQ2
     clear hQ2 hrow2 hbox2
     go_wp2_with fail
     go_end0
     refine⟨rfl,V1,?_⟩
     rw [HQE.out,HNX.out]
     exact HQ2.out
section
theorem Tryz.i29:(prog.info? 29).map (fun i=>(i.zero,i.size,i.bytes))=some (some (.slice none 0 0),1,24):=by kernel_rfl
theorem Tryz.i37:(prog.info? 37).map (fun i=>(i.zero,i.size,i.bytes))=some (some (.agg #[iV 0,iV 0,iV 0,iV 0,iV 0,iV 0,iV 0,iV 0,iV 0,iV 0]),10,80):=by kernel_rfl
def Ym (l:List Kop):List Value:=l.flatMap fun x=>(yS x).toList
theorem zd1 (l:List Kop) (x:Kop):Ym l++(yS x).toList=Ym (l++[x]):=by unfold Ym;simp
theorem zf6 (l:List Kop):∀i j,i<l.length->j<10->(Ym l)[i*10+j]?=(yS (zp l i))[j]?:=by
 induction l with
 | nil=>intro i c h;exact absurd h (Nat.not_lt_zero _)
 | cons d l ih =>
   intro i j h hj
   show ((yS d).toList++Ym l)[i*10+j]?=_
   have h3:(yS d).toList.length=10:=rfl
   cases i with
   | zero =>
     rw [List.getElem?_append_left (by omega),Nat.zero_mul,Nat.zero_add,Array.getElem?_toList]
     rfl
   | succ i =>
     rw [List.getElem?_append_right (by omega),h3,show (i+1)*10+j - 10=i*10+j from by omega,ih i j (by simpa using h) hj]
     rfl
theorem zyf {w:World} {v:Value} {l:List Kop} (h:w.ownsRow base 37 10 v l.length (Ym l)):Zf w v l:=by
 obtain⟨hl,h⟩:=h
 rcases h with ⟨rfl,hn⟩ | ⟨g,cap,cur,rfl,hg,hb,hn,hm,hc,ht⟩
 ·exact⟨none,0,by rw [hn],by omega,Nat.zero_le _,fun hp=>by omega⟩
 ·refine⟨_,cap,rfl,hn,hm,fun _=>⟨g,0,rfl,(Array.getElem?_eq_some_iff.1 hb).1,fun i hi j hj=>?_⟩⟩
  rw [cell_of_block hb,<-zf6 l i j hi hj,<-ht,List.getElem?_take,if_pos (by omega),Nat.zero_add]
  simp
structure Vh (w:World) (PC:Nat) (U:Nat->Value) (l:List Kop) (wr:World):Prop where
 bel:Bw w wr
 out:zu wr w.heap.size 29 PC U
 rows:∀s:Nat,s<PC->wr.ownsRow w.heap.size 37 10 (U s) (yv l s).length (Ym (yv l s))
 inj:∀i j:Nat,i<PC->j<PC->i≠j->∀g,(U i).ownBlock=some g->some g≠(U j).ownBlock
variable {w wr x:World} {PC:Nat} {U:Nat->Value} {l:List Kop}
theorem Vh.gE (h:Vh w PC U l wr) (hb:Bw wr x):Vh w PC U l x where
 bel:=h.bel.trans (hb.mono h.bel.size)
 out:=h.out.gE hb h.out.lt
 rows:=fun s hs=>yB (h.rows s hs) fun g hg=>hb.block g (zB (h.rows s hs) g hg)
 inj:=h.inj
theorem Vh.push {s:Nat} {xk:Kop} {l':List Kop} (h:Vh w PC U l wr) (hs:s<PC) (hsl:xk.sl=(s:Int)) (hl:∀q:Int,yv l' q=if xk.sl=q then yv l q++[xk] else yv l q) (hn:(yv l s).length=n0)
  (gJ:w6.ownsRow w.heap.size 37 10 (.slice (pA g) (n0+1) cap) (n0+1) (Ym (yv l s)++(yS xk).toList)) (hg:wr.grownBy w6 (U s).ownBlock) (hat:(U s).ownBlock=some g\/wr.heap.size<=g) :
  Vh w PC (fun i=>if i=s then .slice (pA g) (n0+1) cap else U i) l' (w6.setCell (ad w.heap.size s) (.slice (pA g) (n0+1) cap)):=by
 have hge:∀k,(U s).ownBlock=some k->w.heap.size<=k:=fun k e=>zG (h.rows s hs) k e
 have hne:some w.heap.size≠(U s).ownBlock:=V7 (h.rows s hs) h.out (by decide)
 have hout:zu w6 w.heap.size 29 PC U:=h.out.gG (hg.block _ h.out.lt hne)
 have hgne:g≠w.heap.size:=by
  intro e
  rcases hat with e2 | e2
  ·exact hne (by rw [<-e,e2])
  ·have:=h.out.lt;omega
 have e1:yv l' (s:Int)=yv l (s:Int)++[xk]:=by rw [hl,if_pos hsl]
 refine { bel:=(h.bel.grown hg h.bel.size hge).setCell (by exact Nat.le_refl _) _,out:=?_,rows:=?_,inj:=?_ }
 ·refine (hout.set s _ hs).congr fun i hi=>rfl
 ·intro i hi
  by_cases e:i=s
  ·subst e
   simp only [if_true]
   rw [e1,<-zd1,List.length_append,hn]
   exact yB gJ fun q hq=>Below.heap_setCell _ _ _ _ (by
    have e3:g=q:=by simpa [Value.ownBlock] using hq
    show q≠w.heap.size;omega)
  ·simp only [if_neg e]
   rw [hl,if_neg (by omega)]
   have h1:=yB (h.rows i hi) fun q hq=>hg.block q (zB (h.rows i hi) q hq) (h.inj i s hi hs e q hq)
   exact yB h1 fun q hq=>Below.heap_setCell _ _ _ _ (by
    show q≠w.heap.size
    intro e3
    exact V7 (h.rows i hi) h.out (by decide) (by rw [<-e3,hq]))
 ·intro i k hi hk hik q hq
  by_cases e1:i=s
  ·by_cases e2:k=s
   ·omega
   ·simp only [if_pos e1] at hq
    simp only [if_neg e2]
    have e3:g=q:=by simpa [Value.ownBlock] using hq
    subst e3
    intro e4
    rcases hat with e5 | e5
    ·exact h.inj s k hs hk (by omega) g e5 e4
    ·have:=zB (h.rows k hk) g e4.symm;omega
  ·by_cases e2:k=s
   ·simp only [if_neg e1] at hq
    simp only [if_pos e2]
    intro e4
    have e3:q=g:=by simpa [Value.ownBlock] using e4
    subst e3
    rcases hat with e5 | e5
    ·exact h.inj i s hi hs e1 q hq e5.symm
    ·have:=zB (h.rows i hi) q hq;omega
   ·simp only [if_neg e1] at hq
    simp only [if_neg e2]
    exact h.inj i k hi hk hik q hq
theorem Vh.held {s:Nat} {sg o d a b ar sp pl nn:Int} {X:Nat} (h:Vh w PC U l x) (hs:s<PC) (hX:x.heap[X]?=some (.cells #[iV (s:Int),iV sg,iV o,iV d,iV a,iV b,iV ar,iV sp,iV pl,iV nn] 37 (0,0))) (hU:U s=.slice ua n0 uc):(x.cell? (ad X 0)=sI (s:Int)/\x.cell? (ad X 1)=sI sg/\x.cell? (ad X 2)=sI o/\x.cell? (ad X 3)=sI d/\x.cell? (ad X 4)=sI a/\x.cell? (ad X 5)=sI b/\x.cell? (ad X 6)=sI ar/\x.cell? (ad X 7)=sI sp/\x.cell? (ad X 8)=sI pl/\x.cell? (ad X 9)=sI nn)/\x.cell? (ad w.heap.size s)=some (.slice ua n0 uc) :=
 ⟨UA hX,by rw [h.out.cell hs,hU]⟩
theorem Vh.grown {s:Nat} {sg o d a b ar sp pl nn:Int} {X:Nat} (h:Vh w PC U l x) (hs:s<PC) (hX:x.heap[X]?=some (.cells #[iV (s:Int),iV sg,iV o,iV d,iV a,iV b,iV ar,iV sp,iV pl,iV nn] 37 (0,0))) (hXf:some X≠(Value.slice ua n0 uc).ownBlock) (hU:U s=.slice ua n0 uc) (hg:x.grownBy w6 (Value.slice ua n0 uc).ownBlock):((w6.cell? (ad X 0)=sI (s:Int)/\w6.cell? (ad X 1)=sI sg/\w6.cell? (ad X 2)=sI o/\w6.cell? (ad X 3)=sI d/\w6.cell? (ad X 4)=sI a/\w6.cell? (ad X 5)=sI b/\w6.cell? (ad X 6)=sI ar/\w6.cell? (ad X 7)=sI sp/\w6.cell? (ad X 8)=sI pl/\w6.cell? (ad X 9)=sI nn)/\w6.cell? (ad w.heap.size s)=some (.slice ua n0 uc))/\w6.frozen? (ad w.heap.size s)=false:=by
 have hne:some w.heap.size≠(Value.slice ua n0 uc).ownBlock:=by rw [<-hU];exact V7 (h.rows s hs) h.out (by decide)
 have hout:zu w6 w.heap.size 29 PC U:=h.out.gG (hg.block _ h.out.lt hne)
 have hX6:w6.heap[X]?=some (.cells #[iV (s:Int),iV sg,iV o,iV d,iV a,iV b,iV ar,iV sp,iV pl,iV nn] 37 (0,0)):=by rw [hg.block X (Array.getElem?_eq_some_iff.1 hX).1 hXf];exact hX
 exact⟨⟨UA hX6,by rw [hout.cell hs,hU]⟩,hout.frozen s⟩
theorem yaw (w:World) (x:Kop) (hB:w.heap.size=B):∀(j:Nat) (u:Value),(yS x).toList[j]?=some u->(w.alloc (.cells (yS x) 37)).cell? (((ad B 0):Addr).add j)=some u:=by
 subst hB
 intro j u hj
 have ha:((ad w.heap.size 0):Addr).add j=(ad w.heap.size j):=by simp [Addr.add];omega
 rw [ha,cell_of_block (yA _ _ _)]
 simpa using hj
theorem zyv {x:Kop} (h:u∈(yS x).toList):u.oneCell'=true:=by
 unfold yS at h
 simp at h
 rcases h with rfl | rfl | rfl | rfl | rfl | rfl | rfl | rfl | rfl | rfl <;> rfl
theorem zsd (A PC:Nat) (ka:Option Addr) (kc:Nat) (ops:List Kop) (w:World) (hc7:w.cell? (ad A 7)=sI PC) (hc9:w.cell? (ad A 9)=some (.slice ka ops.length kc)) (hAz:A<w.heap.size) (hK:Zf w (.slice ka ops.length kc) ops) (h16:ops.length<=16) (hPC:PC<=200) (hsl:∀x∈ops,0<=x.sl/\x.sl<(PC:Int)) :
  Calls prog 117 #[.pointer (pA A)] w fun e w'=>e=.returned (.slice (pA w.heap.size) PC PC)/\∃U,Vh w PC U ops w':=by
 obtain⟨ka',kc',hk1,hk2,hk3,hkc⟩:=hK
 injection hk1 with e1 e2 e3
 subst e1;subst e3
 unfold maxLen at hk3
 obtain⟨i0,hi,hz0,hz1,hz2⟩:=info_parts Tryz.i37
 have HKC:=z9 hkc
 have HSL:=z9 hsl
 have H0:Hid (Vh w PC (fun _=>.slice none 0 0) [] (w.alloc (.cells (madeCells #[.slice none 0 0] PC) 29))) :=
  ⟨below_alloc1 _ _,zu.zeros w _ PC _,fun s hs=>World.ownsRow_nil _ _ _ _,fun i j _ _ _ g h=>by cases h⟩
 have hmk:=run_make_row' (P:=prog) 178 29 (.slice none 0 0) 24 underlying178 Tryz.i29 rfl .i64 .i64 PC (by omega) (by omega)
 clear hkc hsl e2
 go_enter func117,ntmps117
 go_wp2_with fail
 go_loopw [18] (fun i wr=>∃k:Nat,k<=ops.length/\i=iV k/\∃U,Vh w PC U (ops.take k) wr) (fun i _=>ops.length - (intOf i).toNat)
 case atStart=>exact⟨0,Nat.zero_le _,rfl,_,H0.out⟩
 case round =>
  clear H0
  obtain⟨k,hk,rfl,U,hQ⟩:=hrel
  by_cases hkl:k<ops.length
  ·have hki:(k:Int)<(ops.length:Int):=by omega
   obtain⟨ob,oo,rfl,hob,hocell⟩:=HKC.out (by omega)
   obtain⟨c0,c1,c2,c3,c4,c5,c6,c7,c8,c9⟩:=ten (hocell k hkl)
   rw [<-zf hQ.bel _ _ hob] at c0 c1 c2 c3 c4 c5 c6 c7 c8 c9
   have hobz:ob<wr.heap.size:=by have:=hQ.bel.size;omega
   have hgz:=hQ.out.lt
   obtain⟨s0,s1⟩:=HSL.out _ (zad hkl)
   have HTK:=z9 (fun q=>zsb ops k q hkl)
   have HQ:=z9 hQ
   clear hocell hQ
   obtain⟨xk,hxk⟩:∃xk,zp ops k=xk:=⟨_,rfl⟩
   rw [hxk] at c0 c1 c2 c3 c4 c5 c6 c7 c8 c9 s0 s1 HTK
   clear hxk
   obtain⟨sl,sg,o,d,a,b,ar,sp,pl,nn⟩:=xk
   simp only at c0 c1 c2 c3 c4 c5 c6 c7 c8 c9 s0 s1
   obtain⟨s,rfl⟩:∃s:Nat,sl=(s:Int):=⟨sl.toNat,by omega⟩
   have hs:s<PC:=by omega
   have hsi:(s:Int)<(PC:Int):=by omega
   obtain⟨n0,hn0⟩:∃n0,(yv (ops.take k) s).length=n0:=⟨_,rfl⟩
   have hn9:n0<=16:=by
    rw [<-hn0]
    have h1:(yv (ops.take k) s).length<=(ops.take k).length:=List.length_filter_le _ _
    rw [List.length_take] at h1
    omega
   have HN0:=z9 hn0
   obtain⟨ua,uc,hU,-,-⟩:=zS (HQ.out.rows s hs)
   rw [hn0] at hU
   have HU:=z9 hU
   have HOW:Hid (∀x,Vh w PC U (ops.take k) x->x.ownsRow w.heap.size 37 10 (.slice ua n0 uc) n0 (Ym (yv (ops.take k) s))):=fun x h=>by
    have h2:=h.rows s hs
    rw [HN0.out,HU.out] at h2
    exact h2
   have HFAR:Hid (∀g,wr.heap.size<=g->some g≠(Value.slice ua n0 uc).ownBlock):=fun g hg e=>by
    have h2:=zB (HQ.out.rows s hs) g (by rw [HU.out];exact e.symm)
    omega
   have HR:=z9 (HQ.out.gE (below_alloc1 wr (.cells #[iV (s:Int),iV sg,iV o,iV d,iV a,iV b,iV ar,iV sp,iV pl,iV nn] 37)))
   have HXB:Hid ((wr.alloc (.cells #[iV (s:Int),iV sg,iV o,iV d,iV a,iV b,iV ar,iV sp,iV pl,iV nn] 37)).heap[wr.heap.size]?=some (.cells #[iV (s:Int),iV sg,iV o,iV d,iV a,iV b,iV ar,iV sp,iV pl,iV nn] 37 (0,0))):=yA _ _ _
   clear hn0 hU
   go_wp2_with fail
   clear c0 c1 c2 c3 c4 c5 c6 c7 c8 c9
   refine wp_region_noPanic ?_
   refine zm 12 (fun w'=>(w'.cell? (ad wr.heap.size 0)=sI (s:Int)/\w'.cell? (ad wr.heap.size 1)=sI sg/\w'.cell? (ad wr.heap.size 2)=sI o/\w'.cell? (ad wr.heap.size 3)=sI d/\w'.cell? (ad wr.heap.size 4)=sI a/\w'.cell? (ad wr.heap.size 5)=sI b/\w'.cell? (ad wr.heap.size 6)=sI ar/\w'.cell? (ad wr.heap.size 7)=sI sp/\w'.cell? (ad wr.heap.size 8)=sI pl/\w'.cell? (ad wr.heap.size 9)=sI nn)/\w'.cell? (ad w.heap.size s)=some (.slice ua n0 uc)) (by kernel_rfl) (HR.out.held hs HXB.out HU.out) (fun h9=>?_)
   refine uk 0 h9 ?_
   refine uk 1 h9 ?_
   refine uk 2 h9 ?_
   refine uk 3 h9 ?_
   refine uk 4 h9 ?_
   refine uk 5 h9 ?_
   refine uk 6 h9 ?_
   refine uk 7 h9 ?_
   refine uk 8 h9 ?_
   refine ze (i:=9) rfl (by kernel_rfl) (fun K hK=>?_)
   go_simp
   have HR5:=z9 (HR.out.gE ((Below.refl _ _).drew.trans (below_alloc1 (wr.alloc (.cells #[iV (s:Int),iV sg,iV o,iV d,iV a,iV b,iV ar,iV sp,iV pl,iV nn] 37)).drew (.cells #[iV (s:Int),iV sg,iV o,iV d,iV a,iV b,iV ar,iV sp,iV pl,iV nn] 37))))
   have HX5:Hid (((wr.alloc (.cells #[iV (s:Int),iV sg,iV o,iV d,iV a,iV b,iV ar,iV sp,iV pl,iV nn] 37)).drew.alloc (.cells #[iV (s:Int),iV sg,iV o,iV d,iV a,iV b,iV ar,iV sp,iV pl,iV nn] 37)).heap[wr.heap.size]?=some (.cells #[iV (s:Int),iV sg,iV o,iV d,iV a,iV b,iV ar,iV sp,iV pl,iV nn] 37 (0,0))):=by show _=_;rw [Below.heap_alloc _ _ _ (by simp)];exact HXB.out
   refine nxt hK.out (.inr (HR5.out.held hs HX5.out HU.out)) ?_
   clear hK K h9
   refine ze (i:=10) rfl (by kernel_rfl) (fun K hK=>?_)
   refine step_append_lies _ (by rfl) (.tmp 29) (.tmp 31) 29 (by rfl) w.heap.size 37 i0 (.agg #[iV 0,iV 0,iV 0,iV 0,iV 0,iV 0,iV 0,iV 0,iV 0,iV 0]) 10 80 underlying29 hi hz0 hz1 hz2 rfl (by decide) _ n0 (Ym (yv (ops.take k) s)) (by rfl) (HOW.out _ HR5.out) (ad (wr.heap.size+1) 0) 1 1 (yS ⟨(s:Int),sg,o,d,a,b,ar,sp,pl,nn⟩).toList (by rfl) rfl (yaw _ _ (by simp)) (by intro u hu;exact zyv hu) (by decide) (by unfold maxLen;omega) (by omega) HR5.out.bel.size (wr.heap.size+1+1) (by simp) ?_
   intro g cap w6 hown6 hgrow6 hat6 hlt6
   have hk6:=HR5.out.grown hs HX5.out (HFAR.out _ (Nat.le_refl _)) HU.out hgrow6
   have HO6:=z9 hown6
   have HG6:=z9 hgrow6
   have HA6:=z9 hat6
   clear hown6 hgrow6 hat6
   refine nxt hK.out (.inr hk6.1) ?_
   clear hK K
   have h9:=hk6.1
   have hpc6:=hk6.1.2
   have hf6:=hk6.2
   refine uk 11 h9 ?_
   refine ze (i:=12) rfl (by kernel_rfl) (fun K hK=>?_)
   go_simp
   refine nxt hK.out (.inl rfl) ?_
   clear hK K
   refine zq (by kernel_rfl) ?_ _
   refine NoPanic.normal ?_
   clear hk6 h9
   go_wp2_with fail
   go_roundw
   case rel =>
    refine⟨k+1,by omega,by go_num,_,HR5.out.push hs rfl HTK.out HN0.out HO6.out (by rw [HU.out];exact HG6.out) ?_⟩
    rw [HU.out]
    rcases HA6.out with e | e
    ·exact .inl e
    ·exact .inr (by simp;omega)
   case measure=>simp [intOf];omega
  ·have e:k=ops.length:=by omega
   subst e
   rw [List.take_length] at hQ
   have hki:¬(ops.length:Int)<(ops.length:Int):=by omega
   have HQ:=z9 hQ
   clear hQ
   go_wp2_with fail
   go_ret
   exact⟨rfl,U,HQ.out⟩
end
section
theorem zyc {K:Kn} {logs:List Int} {now:Int} {f:Nat->Int} {m:Nat->Nat->Int} {q:Nx} (hmt:yj t=true) {p:Du->Prop} (hq:∀d∈q.du,p d) (hp:∀d:Du,now+1<=d.at_->d.at_<=now+6->0<=d.rg->d.rg<t.r->p d):∀k,∀d∈(YF t K logs gD now f m q k).du,p d:=by
 intro k
 induction k with
 | zero=>exact hq
 | succ k ih =>
   show ∀d∈(opK t logs K.pc gD now f m (YF t K logs gD now f m q k) (zp K.ops k)).du,p d
   unfold opK
   split
   ·intro d hd
    rcases List.mem_append.1 hd with h | h
    ·exact ih d h
    ·have e:d=_:=List.mem_singleton.1 h
     obtain⟨wt,w1,w2,w3,-⟩:=zky hmt (zp K.ops k).o
     have hr:=(ym hmt).2.2.2.1
     have h1:=Int.emod_nonneg ((zp K.ops k).d+now / K.pc) (by omega:t.r≠0)
     have h2:=Int.emod_lt_of_pos ((zp K.ops k).d+now / K.pc) (by omega:0<t.r)
     rw [e]
     exact hp _ (by show now+1<=now+xW t _;rw [w1];omega) (by show now+xW t _<=now+6;rw [w1];omega) h1 h2
   ·exact ih
theorem zot {K:Kn} {logs:List Int} {s:Kst} (hmt:yj t=true) (h0:s.due=[]):∀n:Nat,∀d∈(zJ t K logs gD s n).due,((n:Int)<=d.at_/\d.at_<=n+5)/\d.at_<=Zr K gD+5/\0<=d.rg/\d.rg<t.r:=by
 intro n
 induction n with
 | zero=>intro d hd;rw [show zJ t K logs gD s 0=s from rfl,h0] at hd;cases hd
 | succ n ih =>
   have hw:Win n (zJ t K logs gD s n).due:=fun d hd=>(ih d hd).1
   have hrest:∀d∈yR n (zJ t K logs gD s n).due (zJ t K logs gD s n).due.length,(((n+1:Nat):Int)<=d.at_/\d.at_<=(n+1:Nat)+5)/\d.at_<=Zr K gD+5/\0<=d.rg/\d.rg<t.r:=fun d hd=>by
    have h1:=zw4 hw d hd
    have h2:=zg2 (p:=fun d=>d.at_<=Zr K gD+5/\0<=d.rg/\d.rg<t.r) (now:=n) (fun d hd=>(ih d hd).2) _ (Nat.le_refl _) d hd
    exact⟨by omega,h2⟩
   show ∀d∈(Vj t K logs gD n (zJ t K logs gD s n)).due,_
   unfold Vj
   by_cases hl:Zr K gD<=n
   ·rw [if_pos hl]
    exact hrest
   ·rw [if_neg hl]
    exact zyc (q:=⟨_,_⟩) hmt hrest (fun d h1 h2 h3 h4=>⟨by omega,by omega,h3,h4⟩) _
theorem zw9 {K:Kn} {logs:List Int} {s:Kst} (hl:¬Zr K gD<=n) (f':Nat->Int) (hf:xx n (zJ t K logs gD s n).due (zJ t K logs gD s n).f (zJ t K logs gD s n).due.length=f') :
  zJ t K logs gD s (n+1)=⟨f',(Xf t logs K.pc gD n f' (zJ t K logs gD s n).m ⟨(zJ t K logs gD s n).m,yR n (zJ t K logs gD s n).due (zJ t K logs gD s n).due.length⟩ (yv K.ops (n % K.pc))).nx,
   (Xf t logs K.pc gD n f' (zJ t K logs gD s n).m ⟨(zJ t K logs gD s n).m,yR n (zJ t K logs gD s n).due (zJ t K logs gD s n).due.length⟩ (yv K.ops (n % K.pc))).du⟩:=by
 subst hf
 show Vj t K logs gD n (zJ t K logs gD s n)=_
 unfold Vj
 rw [if_neg hl,zrb]
theorem zk7 {K:Kn} {logs:List Int} {s:Kst} (hl:Zr K gD<=n) :
  zJ t K logs gD s (n+1)=⟨xx n (zJ t K logs gD s n).due (zJ t K logs gD s n).f (zJ t K logs gD s n).due.length,(zJ t K logs gD s n).m,yR n (zJ t K logs gD s n).due (zJ t K logs gD s n).due.length⟩:=by
 show Vj t K logs gD n (zJ t K logs gD s n)=_
 unfold Vj
 rw [if_pos hl]
theorem zyp {K:Kn} {logs:List Int} {s:Kst} {L:Nat} (hmt:yj t=true) (h0:s.due=[]) (hL:Zr K gD=(L:Int)):zJ t K logs gD s (L+7)=zJ t K logs gD s (L+6):=by
 have hd:(zJ t K logs gD s (L+6)).due=[]:=by
  cases h:(zJ t K logs gD s (L+6)).due with
  | nil=>rfl
  | cons d r =>
    have:=zot (logs:=logs) (K:=K) (gD:=gD) hmt h0 (L+6) d (by rw [h];exact List.mem_cons_self)
    omega
 rw [zk7 (n:=L+6) (by omega)]
 rw [hd]
 generalize hx:zJ t K logs gD s (L+6)=x at *
 obtain⟨xf,xm,xd⟩:=x
 simp only at hd
 subst hd
 rfl
structure Ctx (c:Mc) (logs:List Int) (gm cm:Nat) (CM:Nat->Nat) (K:Kn) (PC N:Nat) (U:Nat->Value):Prop where
 hS:∀x,ZZ c x->zcg c logs gm cm CM x
 hU:∀x,ZZ c x->∀q:Nat,q<PC->Zf x (U q) (yv K.ops q)
 hn:c.n=logs.length
 hlen:∀i,i<c.n->c.lenM i=2 ^ (nth logs i).toNat/\c.lenM i<=32
 hR:(c.R:Int)=c.t.r
 hmay:Yv c.t K logs=true
 hpc:K.pc=c.pc
 hPC:c.pc=(PC:Int)
 hN:c.gD+K.st - 1=(N:Int)
 ht1:1<=c.gD
 ht2:c.gD<=200
 hNP:N*PC<=20000
variable {c:Mc} {logs:List Int} {gm cm:Nat} {CM:Nat->Nat} {K:Kn} {PC N:Nat} {U:Nat->Value} {s:Kst}
theorem Ctx.last (h:Ctx c logs gm cm CM K PC N U):Zr K c.gD=((N*PC:Nat):Int):=by
 unfold Zr
 rw [h.hN,h.hpc,h.hPC,Int.natCast_mul]
theorem zo8 {x:Kop} (hmay:Yv t K logs=true) (hn:n=logs.length) (hx:x∈K.ops):zu8 t.r n x/\0<=x.sl/\x.sl<K.pc:=by
 obtain⟨i,hi,rfl⟩:=List.mem_iff_getElem.1 hx
 obtain⟨-,-,-,hs1,hs2,-,-,hall⟩:=ZC hmay
 have h:=hall i hi
 have e:zp K.ops i=K.ops[i]:=by unfold zp;rw [List.getD,List.getElem?_eq_getElem hi];rfl
 rw [e] at h
 obtain⟨p1,p2,p3,p4,p5,-,p7⟩:=zft h
 refine⟨⟨p3,p4,p5,by omega,?_⟩,p1⟩
 subst hn
 exact p7
theorem zik {V:Nat->Value} (h:Ctx c logs gm cm CM K PC N U) (h0:s.due=[]) (T:Nat) (hT:T<=20010) (hI:yr c V (zJ c.t K logs c.gD s T).due (zJ c.t K logs c.gD s T).f (zJ c.t K logs c.gD s T).m W) :
  Calls prog 118 #[.pointer (pA c.A),iV T] W fun e w'=>e=.returned (.tuple #[])/\∃V',yr c V' (yR T (zJ c.t K logs c.gD s T).due (zJ c.t K logs c.gD s T).due.length) (xx T (zJ c.t K logs c.gD s T).due (zJ c.t K logs c.gD s T).f (zJ c.t K logs c.gD s T).due.length) (zJ c.t K logs c.gD s T).m w':=by
 have hw:=zot (K:=K) (logs:=logs) (gD:=c.gD) (s:=s) (ZC h.hmay).1 h0 T
 exact zug T W hI (fun d hd=>(hw d hd).1) (fun d hd=>by have:=hw d hd;rw [h.hR];exact this.2.2) (by omega)
theorem zzq {V:Nat->Value} (h:Ctx c logs gm cm CM K PC N U) (h0:s.due=[]) (p q T:Nat) (hp:p<N) (hq:q<PC) (hT:T=p*PC+q)
  (hI:yr c V (yR T (zJ c.t K logs c.gD s T).due (zJ c.t K logs c.gD s T).due.length) (xx T (zJ c.t K logs c.gD s T).due (zJ c.t K logs c.gD s T).f (zJ c.t K logs c.gD s T).due.length) (zJ c.t K logs c.gD s T).m W) :
  Calls prog 119 #[.pointer (pA c.A),U q,iV p,iV T] W fun e w'=>e=.returned (.tuple #[])/\∃V',yr c V' (zJ c.t K logs c.gD s (T+1)).due (zJ c.t K logs c.gD s (T+1)).f (zJ c.t K logs c.gD s (T+1)).m w':=by
 obtain⟨hmt,hp1,hp2,hs1,hs2,ho1,ho2,-⟩:=ZC h.hmay
 have hpc1:K.pc=(PC:Int):=h.hpc.trans h.hPC
 have hTl:T<N*PC:=by
  have h1:p*PC+PC<=N*PC:=by rw [<-Nat.succ_mul];exact Nat.mul_le_mul_right _ hp
  omega
 have hTb:T<=20000:=by have:=h.hNP;omega
 have hmod:(T:Int) % c.pc=(q:Int):=by
  rw [h.hPC,hT,<-Int.natCast_emod]
  congr 1
  rw [Nat.add_comm,Nat.add_mul_mod_self_right]
  exact Nat.mod_eq_of_lt hq
 have hdiv:(T:Int) / c.pc=(p:Int):=by
  rw [h.hPC,hT,<-Int.natCast_ediv]
  congr 1
  rw [Nat.add_comm,Nat.add_mul_div_right _ _ (by omega),Nat.div_eq_of_lt hq,Nat.zero_add]
 have hlen16:(yv K.ops (q:Int)).length<=16:=Nat.le_trans (List.length_filter_le _ _) ho2
 have hdl:(yR T (zJ c.t K logs c.gD s T).due (zJ c.t K logs c.gD s T).due.length).length<=900000:=by
  have h1:=zk1 T (zJ c.t K logs c.gD s T).due (zJ c.t K logs c.gD s T).due.length
  have h2:=zyq c.t K logs c.gD s T
  rw [h0] at h2
  have h3:T*K.ops.length<=20000*16:=Nat.mul_le_mul hTb ho2
  simp at h2
  omega
 have hU:=h.hU W hI.keep q hq
 obtain⟨oa,oc,hov,-,-,-⟩:=hU
 have hO:∀x,ZZ c x->Zf x (.slice oa (yv K.ops (q:Int)).length oc) (yv K.ops (q:Int)):=fun x hx=>hov ▸ h.hU x hx q hq
 have hN2:N<=1300:=by have:=h.hN;have:=h.ht2;omega
 have key:=zy6 W logs gm cm CM oa oc (yv K.ops (q:Int)) p T hI h.hS hO h.hn h.hlen h.hR hmt (fun x hx=>(zo8 h.hmay h.hn (zox hx).1).1) (fun x hx=>by rw [hmod];exact (zox hx).2) hdiv (by omega) (by omega) h.ht1 h.ht2 hdl hlen16
 rw [hov]
 refine key.mono fun e w' ⟨h1,V',h2⟩=>⟨h1,V',?_⟩
 rw [zw9 (by rw [h.last];omega) _ rfl,h.hpc,hmod]
 exact h2
theorem ztq {V:Nat->Value} (h:Ctx c logs gm cm CM K PC N U) (h0:s.due=[]) (T:Nat) (hT:T<=20010) (hl:N*PC<=T) (hI:yr c V (zJ c.t K logs c.gD s T).due (zJ c.t K logs c.gD s T).f (zJ c.t K logs c.gD s T).m W) :
  Calls prog 118 #[.pointer (pA c.A),iV T] W fun e w'=>e=.returned (.tuple #[])/\∃V',yr c V' (zJ c.t K logs c.gD s (T+1)).due (zJ c.t K logs c.gD s (T+1)).f (zJ c.t K logs c.gD s (T+1)).m w':=by
 rw [zk7 (n:=T) (by rw [h.last];omega)]
 exact zik h h0 T hT hI
def Mc.at (c:Mc) (x:World):Mc:={ c with w1:=x }
theorem zoc {x:World} (hb:Below c.w1.heap.size c.w1 x) (h:ZZ (c.at x) y):ZZ c y :=
 ⟨Nat.le_trans hb.size h.1,fun g h1 h2 h3 h4=>by
  have e:y.heap[g]?=x.heap[g]?:=h.2 g (Nat.lt_of_lt_of_le h1 hb.size) h2 h3 h4
  rw [e,hb.block g h1]⟩
theorem yr.at {f:Nat->Int} {m:Nat->Nat->Int} {x:World} (h:yr c (fun _=>.slice none 0 0) [] f m c.w1) (hb:Below c.w1.heap.size c.w1 x):yr (c.at x) (fun _=>.slice none 0 0) [] f m x where
 bel:=h.bel.trans (hb.mono h.w01)
 keep:=⟨Nat.le_refl _,fun _ _ _ _ _=>rfl⟩
 hA:=by show x.heap[c.A]?=_;rw [hb.block _ h.hA1.2];exact h.hA
 hA1:=⟨h.hA1.1,Nat.lt_of_lt_of_le h.hA1.2 hb.size⟩
 regs:=h.regs.gE hb h.hr.2.1
 hr:=⟨h.hr.1,Nat.lt_of_lt_of_le h.hr.2.1 hb.size,h.hr.2.2⟩
 min:=fun i hi=>⟨(h.min i hi).1,Nat.lt_of_lt_of_le (h.min i hi).2.1 hb.size,(h.min i hi).2.2.gE hb (h.min i hi).2.1⟩
 minj:=h.minj
 rM:=h.rM
 due:=fun j hj=>World.ownsRow_nil _ _ _ _
 dinj:=fun i j _ _ _ g hg=>by cases hg
 w01:=Nat.le_trans h.w01 hb.size
theorem zds {x:World} {f:Nat->Int} {m:Nat->Nat->Int} (hI:yr c (fun _=>.slice none 0 0) [] f m c.w1) (h:Vh c.w1 PC U K.ops x) (hk:ZZ (c.at x) y):zu y c.w1.heap.size 29 PC U/\∀q:Nat,q<PC->Zf y (U q) (yv K.ops q):=by
 have far:∀g,c.w1.heap.size<=g->g<x.heap.size->y.heap[g]?=x.heap[g]?:=fun g h1 h2=>hk.2 g h2 (by show g≠c.A;have:=hI.hA1.2;omega) (by show g≠c.gr;have:=hI.hr.2.1;omega) (fun i hi=>by show g≠c.GM i;have:=(hI.min i hi).2.1;omega)
 exact⟨h.out.gG (far _ (Nat.le_refl _) h.out.lt),fun q hq=>zyf (yB (h.rows q hq) fun g hg=>far g (zG (h.rows q hq) g hg) (zB (h.rows q hq) g hg))⟩
end
theorem zr0 {p N PC:Nat} (h:p<=N):p*PC<=N*PC:=Nat.mul_le_mul_right _ h
theorem zv7 (c:Mc) (logs:List Int) (gm cm:Nat) (CM:Nat->Nat) (K:Kn) (ka:Option Addr) (kc PC ST N:Nat) (f:Nat->Int) (m:Nat->Nat->Int)
  (hI:yr c (fun _=>.slice none 0 0) [] f m c.w1) (hS:∀x,ZZ c x->zcg c logs gm cm CM x) (hkv:c.kv=.slice ka K.ops.length kc) (hO:Zf c.w1 (.slice ka K.ops.length kc) K.ops)
  (hn:c.n=logs.length) (hlen:∀i,i<c.n->c.lenM i=2 ^ (nth logs i).toNat/\c.lenM i<=32) (hR:(c.R:Int)=c.t.r) (hmay:Yv c.t K logs=true) (hpc:K.pc=c.pc) (hPC:c.pc=(PC:Int)) (hst:K.st=c.st) (hST:c.st=(ST:Int))
  (hN:c.gD+K.st - 1=(N:Int)) (ht1:1<=c.gD) (ht2:c.gD<=200) (hNP:N*PC<=20000) :
  Calls prog 68 #[.pointer (pA c.A)] c.w1 fun e w'=>e=.returned (.tuple #[])/\∃x V,Below c.w1.heap.size c.w1 x/\yr (c.at x) V (zJ c.t K logs c.gD ⟨f,m,[]⟩ (N*PC+6)).due (zJ c.t K logs c.gD ⟨f,m,[]⟩ (N*PC+6)).f (zJ c.t K logs c.gD ⟨f,m,[]⟩ (N*PC+6)).m w':=by
 obtain⟨hmt,hp1,hp2,hs1,hs2,ho1,ho2,-⟩:=ZC hmay
 obtain⟨-,⟨c7,c8,c9,-,-,-,c13⟩,-⟩:=hI.cells
 rw [hPC] at c7
 rw [hkv] at c9
 have hAz:=hI.A_lt
 have HSLOT:=z9 (zsd c.A PC ka kc K.ops c.w1 c7 c9 hAz hO ho2 (by omega) (fun x hx=>by have:=(zo8 hmay hn hx).2;omega))
 have HI:=z9 hI
 have HS:=z9 hS
 have HCX:Hid (∀x U,Vh c.w1 PC U K.ops x->Ctx (c.at x) logs gm cm CM K PC N U):=fun x U h =>
  { hS:=fun y hy=>HS.out y (zoc h.bel hy),hU:=fun y hy=>(zds HI.out h hy).2,hn:=hn,hlen:=hlen,hR:=hR,hmay:=hmay,hpc:=hpc,hPC:=hPC,hN:=hN,ht1:=ht1,ht2:=ht2,hNP:=hNP }
 have hN2:N<=1300:=by omega
 have hPC1:1<=PC:=by omega
 have hPC2:PC<=200:=by omega
 have hNi:c.gD+c.st - 1=(N:Int):=by omega
 have hst1:1<=c.st:=by omega
 have hst2:c.st<=1001:=by omega
 clear hI hS hO hmay hlen hkv c7 c9 hpc hPC hN hst hST hs1 hs2 hp1 hp2
 obtain⟨W,hW⟩:∃W,c.w1=W:=⟨_,rfl⟩
 rw [hW] at c8 c13 hAz HSLOT ⊢
 have HWW:=z9 hW
 clear hW
 go_enter func68,ntmps68
 go_wp2_with fail
 refine HSLOT.out.mono ?_
 rintro e x1 ⟨rfl,U,hSl⟩
 have hcc:=zf hSl.bel
 rw [<-hcc _ _ hAz] at c8 c13
 have hAz1:c.A<x1.heap.size:=by have:=hSl.bel.size;omega
 have HSL:Hid (Vh c.w1 PC U K.ops x1):=by show Vh _ _ _ _ _;rw [HWW.out];exact hSl
 have HC:=z9 (HCX.out x1 U HSL.out)
 have HI1:Hid (yr (c.at x1) (fun _=>.slice none 0 0) [] f m x1):=HI.out.at HSL.out.bel
 have HKP:=z9 (fun y (hk:ZZ (c.at x1) y)=>(zds HI.out HSL.out hk).1)
 clear hSl hcc HSLOT
 go_wp2_with fail
 go_big_quiet ((fail))
 go_wp2_with fail
 have HI2:Hid (yr (c.at x1) (fun _=>.slice none 0 0) [] f m (x1.drewN nq)):=HI1.out.gE (below_draws _ _ _)
 clear HI1
 clear hNi
 go_loopw [3,20] (fun cy i wr=>∃p T:Nat,p<=N/\i=iV p/\cy=iV T/\T=p*PC/\∃V,yr (c.at x1) V (zJ c.t K logs c.gD ⟨f,m,[]⟩ T).due (zJ c.t K logs c.gD ⟨f,m,[]⟩ T).f (zJ c.t K logs c.gD ⟨f,m,[]⟩ T).m wr) (fun _ i _=>N - (intOf i).toNat)
 case atStart=>exact⟨0,0,Nat.zero_le _,rfl,rfl,by simp,_,HI2.out⟩
 case round =>
  clear HI2 c8 c13
  obtain⟨p,T,hp,rfl,rfl,hT,V1,hQ⟩:=hrel
  by_cases hpl:p<N
  ·have hpi:(p:Int)<(N:Int):=by omega
   have HT:=z9 hT
   have hTb:T<=20000:=by have:=zr0 (PC:=PC) hp;omega
   have HQ:=z9 hQ
   clear hT hQ
   rename World=>wo
   go_wp2_with fail
   go_loopw [3,25] (fun cy i wr=>∃q T2:Nat,q<=PC/\i=iV q/\cy=iV T2/\T2=T+q/\∃V,yr (c.at x1) V (zJ c.t K logs c.gD ⟨f,m,[]⟩ T2).due (zJ c.t K logs c.gD ⟨f,m,[]⟩ T2).f (zJ c.t K logs c.gD ⟨f,m,[]⟩ T2).m wr) (fun _ i _=>PC - (intOf i).toNat)
   case atStart=>exact⟨0,T,Nat.zero_le _,rfl,rfl,rfl,_,HQ.out⟩
   case round =>
    clear HQ
    obtain⟨q,T2,hq,rfl,rfl,hT2,V2,hQ2⟩:=hrel
    by_cases hql:q<PC
    ·have hqi:(q:Int)<(PC:Int):=by omega
     have hT2b:T2<=20000:=by
      have h1:p*PC+PC<=N*PC:=by rw [<-Nat.succ_mul];exact Nat.mul_le_mul_right _ hpl
      have:=HT.out
      omega
     have gI:=(HKP.out wr hQ2.keep).cell hql
     rw [HWW.out] at gI
     have hgz:W.heap.size<wr.heap.size:=by have:=(HKP.out wr hQ2.keep).lt;rw [HWW.out] at this;exact this
     have HLAND:=z9 (zik HC.out rfl T2 (by omega) hQ2)
     have HDO:Hid (∀V Y,yr (c.at x1) V (yR T2 (zJ c.t K logs c.gD ⟨f,m,[]⟩ T2).due (zJ c.t K logs c.gD ⟨f,m,[]⟩ T2).due.length) (xx T2 (zJ c.t K logs c.gD ⟨f,m,[]⟩ T2).due (zJ c.t K logs c.gD ⟨f,m,[]⟩ T2).f (zJ c.t K logs c.gD ⟨f,m,[]⟩ T2).due.length) (zJ c.t K logs c.gD ⟨f,m,[]⟩ T2).m Y ->
      Calls prog 119 #[.pointer (pA c.A),U q,iV p,iV T2] Y fun e w'=>e=.returned (.tuple #[])/\∃V',yr (c.at x1) V' (zJ c.t K logs c.gD ⟨f,m,[]⟩ (T2+1)).due (zJ c.t K logs c.gD ⟨f,m,[]⟩ (T2+1)).f (zJ c.t K logs c.gD ⟨f,m,[]⟩ (T2+1)).m w'):=fun V Y h=>zzq HC.out rfl p q T2 hpl hql (by rw [hT2,HT.out]) h
     have HT2:=z9 hT2
     obtain⟨oa,oc,hov,-,-,-⟩:=HC.out.hU wr hQ2.keep q hql
     rw [hov] at gI HDO
     generalize (yv K.ops (q:Int)).length=ol at *
     clear hQ2 hT2 hov
     go_wp2_with fail
     refine HLAND.out.mono ?_
     rintro e x2 ⟨rfl,V3,h3⟩
     have H3:=z9 h3
     clear h3 gI hgz
     go_wp2_with fail
     refine (HDO.out V3 _ H3.out).mono ?_
     rintro e x3 ⟨rfl,V4,h4⟩
     have H4:=z9 h4
     clear h4
     go_wp2_with fail
     go_roundw
     case rel=>exact⟨q+1,T2+1,by omega,by go_num,by go_num,by have:=HT2.out;omega,V4,H4.out⟩
     case measure=>simp [intOf];omega
    ·have e:q=PC:=by omega
     subst e
     have hqi:¬(q:Int)<(q:Int):=by omega
     have HQ2:=z9 hQ2
     have HT2:=z9 hT2
     clear hQ2 hT2
     go_wp2_with fail
     go_roundw
     case rel=>exact⟨p+1,T2,by omega,by go_num,rfl,by rw [HT2.out,HT.out,Nat.succ_mul],V2,HQ2.out⟩
     case measure=>simp [intOf];omega
  ·have e:p=N:=by omega
   subst e
   have hpi:¬(p:Int)<(p:Int):=by omega
   have HQ:=z9 hQ
   have HT:=z9 hT
   have hTb:T<=20000:=by omega
   clear hQ hT
   rename World=>wo
   go_wp2_with fail
   go_loopw [3,41] (fun cy i wr=>∃r T2:Nat,r<=6/\i=iV r/\cy=iV T2/\T2=T+r/\∃V,yr (c.at x1) V (zJ c.t K logs c.gD ⟨f,m,[]⟩ T2).due (zJ c.t K logs c.gD ⟨f,m,[]⟩ T2).f (zJ c.t K logs c.gD ⟨f,m,[]⟩ T2).m wr) (fun _ i _=>6 - (intOf i).toNat)
   case atStart=>exact⟨0,T,Nat.zero_le _,rfl,rfl,rfl,_,HQ.out⟩
   case round =>
    clear HQ
    obtain⟨r,T2,hr,rfl,rfl,hT2,V2,hQ2⟩:=hrel
    by_cases hrl:r<6
    ·have hri:(r:Int)<6:=by omega
     have hT2b:T2<=20010:=by omega
     have HLAND:=z9 (ztq HC.out rfl T2 hT2b (by rw [hT2,HT.out];omega) hQ2)
     have HT2:=z9 hT2
     clear hQ2 hT2
     go_wp2_with fail
     refine HLAND.out.mono ?_
     rintro e x2 ⟨rfl,V3,h3⟩
     have H3:=z9 h3
     clear h3
     go_wp2_with fail
     go_roundw
     case rel=>exact⟨r+1,T2+1,by omega,by go_num,by go_num,by have:=HT2.out;omega,V3,H3.out⟩
     case measure=>simp [intOf];omega
    ·have e:r=6:=by omega
     have hri:¬(r:Int)<6:=by omega
     have HQ2:=z9 hQ2
     have HT2:Hid (T2=p*PC+6):=by show _=_;rw [hT2,HT.out,e]
     clear hQ2 hT2 e
     go_wp2_with fail
     go_end0
     refine⟨rfl,x1,by rw [HWW.out] at HSL;exact HSL.out.bel,V2,?_⟩
     rw [<-HT2.out]
     exact HQ2.out
end Go.Proofs.YtjoapiafpahihabGreat
