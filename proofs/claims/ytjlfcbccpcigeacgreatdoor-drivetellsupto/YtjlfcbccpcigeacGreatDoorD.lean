import Derived.Test.YtjlfcbccpcigeacGreatDoorB
import Derived.Deep.AppendLies
set_option maxHeartbeats 40000000
set_option linter.defProp false
namespace Go.Proofs.YtjlfcbccpcigeacGreatDoor
open Go.Proofs.Tryz Go.RowKit Go.Joins
set_option linter.unusedVariables false
set_option linter.unusedSimpArgs false
set_option maxRecDepth 8192
section
variable {base sz n R g T b1 j n0 vc cap B uc:Nat} {e e':TypeId} {xs:List vO} {w2 w6 y w5 W:wO} {u:vO} {BW:Nat->Nat} {gD:Int} {t:Tg} {va ua:Option Addr} {cs:Array vO}
section
def mH (d:Du):List vO:=[J d.rg,J d.v]
def VD (l:List Du):List vO:=l.flatMap mH
theorem EL (l:List Du) (d:Du):VD l++mH d=VD (l++[d]):=by unfold VD;simp
def EO (l:List Du):∀i c,i<l.length->c<2->(VD l)[i*2+c]?=(mH (xO l i))[c]?:=by
 induction l with
 | nil=>intro i c h;exact absurd h (Qv _)
 | cons d l ih =>
  intro i c h b;show (mH d++VD l)[i*2+c]?=_;have a:(mH d).length=2:=rfl;cases i with
  | zero =>rw [Wj lI,EY,QO];rfl
  | succ i =>rw [Ww lI,a,show (i+1)*2+c - 2=i*2+c from lI,ih i c (by simpa using h) b];rfl
def EX {w:wO} {v:vO} {l:List Du} (h:w.ownsRow base e 2 v l.length (VD l)) (m:0<l.length) :
  ∃ g cap,v=.slice (pA g) l.length cap/\base<=g/\l.length<=cap/\cap<=maxLen/\g<w.heap.size /\
    ∀i,i<l.length->w.cell? (E g (i*2))=some (J (xO l i).rg)/\w.cell? (E g (i*2+1))=some (J (xO l i).v):=by
 obtain⟨k,h⟩:=h
 rcases h with ⟨_,hn⟩ | ⟨g,cap,b,rfl,d,hb,hn,hm,j,f⟩
 ·lia
 ·have key:∀i c,i<l.length->c<2->w.cell? (E g (i*2+c))=(mH (xO l i))[c]?:=fun i c hi a=>by
   rw [Qa hb,<-EO l i c hi a,<-f,We,Qf oM]
   simp
  exact⟨g,cap,rfl,d,hn,hm,(lo hb),fun i hi=>⟨key i 0 hi lI,key i 1 hi lI⟩⟩
def lX:vO->vO
 | .slice a _ c=>.slice a 0 c
 | v=>v
def E9 {w:wO} {v:vO} (h:w.ownsRow base e sz v n xs):w.ownsRow base e sz (lX v) 0 []:=by
 obtain⟨d,h⟩:=h;refine⟨sM,?_⟩;rcases h with ⟨rfl,_⟩ | ⟨g,cap,a,rfl,c,hb,hn,hm,b,f⟩
 ·exact .inl ⟨rfl,rfl⟩
 exact .inr ⟨g,cap,a,rfl,c,hb,Ql _,hm,b,sM⟩
def E' {w:wO} {v:vO} (h:w.ownsRow base e sz v n xs):(lX v).ownBlock=v.ownBlock:=by obtain⟨d,h⟩:=h;rcases h with ⟨rfl,_⟩ | ⟨g,cap,a,rfl,c,hb,hn,hm,b,f⟩ <;> rfl
structure Mc where
 w0:wO
 w1:wO
 A:Nat
 t:Tg
 pc:Int
 st:Int
 kv:vO
 lv:vO
 mv:vO
 gD:Int
 R:Nat
 gr:Nat
 cr:Nat
 n:Nat
 lenM:Nat->Nat
 GM:Nat->Nat
def Yy (c:Mc) (x:wO):Prop:=c.w1.heap.size<=x.heap.size/\∀g,g<c.w1.heap.size->g≠c.A->g≠c.gr->(∀i,i<c.n->g≠c.GM i)->x.heap[g]?=c.w1.heap[g]?
def mI (c:Mc) (V:Nat->vO):Array vO :=
 #[J c.t.u0,J c.t.u1,J c.t.u2,J c.t.w0,J c.t.w1,J c.t.w2,J c.t.r,J c.pc,J c.st,c.kv,c.lv,.slice (pA c.gr) c.R c.cr,c.mv,J c.gD,V 0,V 1,V 2,V 3,V 4,V 5]
structure yA (c:Mc) (V:Nat->vO) (D:List Du) (f:Nat->Int) (m:Nat->Nat->Int) (wr:wO):Prop where
 bel:Below c.w0.heap.size c.w0 wr
 keep:Yy c wr
 hA:wr.heap[c.A]?=some (.cells (mI c V) 183 (0,0))
 hA1:c.w0.heap.size<=c.A/\c.A<c.w1.heap.size
 regs:zr wr c.gr 2 c.R (fun i=>J (f i))
 hr:c.w0.heap.size<=c.gr/\c.gr<c.w1.heap.size/\c.R<=c.cr/\c.cr<=maxLen
 min:∀i,i<c.n->c.w0.heap.size<=c.GM i/\c.GM i<c.w1.heap.size/\zr wr (c.GM i) 2 (c.lenM i) (fun j=>J (m i j))
 minj:∀i j,i<c.n->j<c.n->i≠j->c.GM i≠c.GM j
 rM:∀i,i<c.n->c.gr≠c.GM i
 due:∀j:Nat,j<6->wr.ownsRow c.w1.heap.size 300 2 (V j) (Yx D j).length (VD (Yx D j))
 dinj:∀i j:Nat,i<6->j<6->i≠j->∀g,(V i).ownBlock=some g->some g≠(V j).ownBlock
 w01:c.w0.heap.size<=c.w1.heap.size
def xZ {w:wO} {c c':Array vO} (h:w.heap[R]?=some (.cells c e (0,0))) (hr:w.heap[g]?=some (.cells c' e' (0,0))) (a:e≠e'):R≠g:=rQ
def xN {w:wO} {c:Array vO} {f:Nat->vO} (h:w.heap[R]?=some (.cells c e (0,0))) (hr:zr w g e' n f) (a:e≠e'):R≠g:=by grind [zr]
variable {c:Mc} {V:Nat->vO} {D:List Du} {f:Nat->Int} {m:Nat->Nat->Int} {wr w':wO}
def yA.A_lt (h:yA c V D f m wr):c.A<wr.heap.size:=(lo h.hA)
theorem yA.A_gr (h:yA c V D f m wr):c.A≠c.gr:=xN h.hA h.regs tQ
theorem yA.A_GM (h:yA c V D f m wr) (i:Nat) (hi:i<c.n):c.A≠c.GM i:=xN h.hA (h.min i hi).2.2 tQ
def Yy.step {x:wO} (h:Yy c wr) (hs:wr.heap.size<=x.heap.size) (hb:∀g,g<c.w1.heap.size->g≠c.A->g≠c.gr->(∀i,i<c.n->g≠c.GM i)->x.heap[g]?=wr.heap[g]?):Yy c x :=by grind [Yy]
def yA.same (h:yA c V D f m wr) (hb:Below c.w0.heap.size wr w') (a:∀g,g<c.w1.heap.size->w'.heap[g]?=wr.heap[g]?) (d:∀j:Nat,j<6->∀g,(V j).ownBlock=some g->w'.heap[g]?=wr.heap[g]?):yA c V D f m w' where
 bel:=h.bel.t hb
 keep:=h.keep.step hb.size fun g h1 _ _ _=>a g h1
 hA:=by rw [a _ h.hA1.2];exact h.hA
 hA1:=h.hA1
 regs:=h.regs.gG (a _ h.hr.2.1)
 hr:=h.hr
 min:=fun i hi=>⟨(h.min i hi).1,(h.min i hi).2.1,(h.min i hi).2.2.gG (a _ (h.min i hi).2.1)⟩
 minj:=h.minj
 rM:=h.rM
 due:=fun j b=>yJ (h.due j b) (d j b)
 dinj:=h.dinj
 w01:=h.w01
def yA.gE (h:yA c V D f m wr) (hb:Bw wr w'):yA c V D f m w' :=
 h.same (hb.m h.bel.size) (fun g a=>hb.block g (Qu a h.keep.1)) (fun j b g a=>hb.block g (zA (h.due j b) g a))
def yA.cells (h:yA c V D f m wr):(wr.cell? (E c.A 0)=Y c.t.u0/\wr.cell? (E c.A 1)=Y c.t.u1/\wr.cell? (E c.A 2)=Y c.t.u2/\wr.cell? (E c.A 3)=Y c.t.w0/\wr.cell? (E c.A 4)=Y c.t.w1/\wr.cell? (E c.A 5)=Y c.t.w2/\wr.cell? (E c.A 6)=Y c.t.r) /\
  (wr.cell? (E c.A 7)=Y c.pc/\wr.cell? (E c.A 8)=Y c.st/\wr.cell? (E c.A 9)=some c.kv/\wr.cell? (E c.A 10)=some c.lv/\wr.cell? (E c.A 11)=some (.slice (pA c.gr) c.R c.cr)/\wr.cell? (E c.A 12)=some c.mv/\wr.cell? (E c.A 13)=Y c.gD) /\
  (∀j:Nat,j<6->wr.cell? (E c.A (14+j))=some (V j)):=by
 have key:∀o,wr.cell? (E c.A o)=(mI c V)[o]?:=Qa h.hA;refine⟨⟨?_,?_,?_,?_,?_,?_,?_⟩,⟨?_,?_,?_,?_,?_,?_,?_⟩,fun j a=>?_⟩
 all_goals first
  | (rw [key];rfl)
  | (rw [key];obtain rfl | rfl | rfl | rfl | rfl | rfl:j=0\/j=1\/j=2\/j=3\/j=4\/j=5:=oM
     all_goals rfl)
def yA.frozenA (h:yA c V D f m wr) (o:Nat):wr.frozen? (E c.A o)=false:=qZ h.hA
def yA.setReg (h:yA c V D f m wr) (i:Nat) (v:Int) (hi:i<c.R):yA c V D (VM f i v) m (wr.setCell (E c.gr i) (J v)) where
 bel:=h.bel.setCell (by show c.w0.z<=c.gr;exact h.hr.1) _
 keep:=h.keep.step (by simp [World.setCell]) fun g _ _ l _=>Qj _ _ _ _ lI
 hA:=by rw [Qj _ _ _ _ (by grind [yA.A_gr])];exact h.hA
 hA1:=h.hA1
 regs:=(h.regs.set i _ hi).congr fun j d=>by
  grind [VM]
 hr:=h.hr
 min:=fun a b=>⟨(h.min a b).1,(h.min a b).2.1,(h.min a b).2.2.gF (by show c.GM a≠c.gr;exact (h.rM a b).s) _⟩
 minj:=h.minj
 rM:=h.rM
 due:=fun j d=>yJ (h.due j d) fun g k=>Qj _ _ _ _ (by show g≠c.gr;have:=zE (h.due j d) g k;have:=h.hr.2.1;lia)
 dinj:=h.dinj
 w01:=h.w01
def yA.setMem (h:yA c V D f m wr) (i j:Nat) (v:Int) (hi:i<c.n) (l:j<c.lenM i):yA c V D f (Zs m i j v) (wr.setCell (E (c.GM i) j) (J v)) where
 bel:=h.bel.setCell (by show c.w0.z<=c.GM i;exact (h.min i hi).1) _
 keep:=h.keep.step (by simp [World.setCell]) fun g _ _ _ o=>Qj _ _ _ _ sA
 hA:=by rw [Qj _ _ _ _ (by grind [yA.A_GM])];exact h.hA
 hA1:=h.hA1
 regs:=h.regs.gF (by show c.gr≠c.GM i;exact h.rM i hi) _
 hr:=h.hr
 min:=fun a b=>by
  refine⟨(h.min a b).1,(h.min a b).2.1,?_⟩
  by_cases e:a=i
  ·subst e
   refine ((h.min a b).2.2.set j _ l).congr fun q d=>?_
   grind [vK]
  ·refine ((h.min a b).2.2.gF (by show c.GM a≠c.GM i;exact h.minj a i b hi e) _).congr fun q d=>?_
   grind [rO]
 minj:=h.minj
 rM:=h.rM
 due:=fun q d=>yJ (h.due q d) fun g k=>Qj _ _ _ _ (by show g≠c.GM i;have:=zE (h.due q d) g k;have:=(h.min i hi).2.1;lia)
 dinj:=h.dinj
 w01:=h.w01
def Fa (c:Mc) (V:Nat->vO) (j:Nat) (v:vO) (a:j<6):(mI c V).setIfInBounds (14+j) v=mI c (fun i=>if i=j then v else V i):=by
 obtain rfl | rfl | rfl | rfl | rfl | rfl:j=0\/j=1\/j=2\/j=3\/j=4\/j=5:=lI
 all_goals rfl
def yA.setDue (h:yA c V D f m wr) (j:Nat) (v:vO) (o:List Du) (w2:wO) (n:j<6) (r:wr.grownBy w2 (V j).ownBlock)
  (z:w2.ownsRow c.w1.heap.size 300 2 v (Yx o j).length (VD (Yx o j))) (b:v.ownBlock=(V j).ownBlock\/∀g,v.ownBlock=some g->wr.heap.size<=g) (F:∀i:Nat,i<6->i≠j->Yx o i=Yx D i) :
  yA c (fun i=>if i=j then v else V i) o f m (w2.setCell (E c.A (14+j)) v):=by
 have B:∀g,(V j).ownBlock=some g->c.w1.z<=g:=fun g e=>zE (h.due j n) g e;have blk:∀g,g<c.w1.z->w2.heap[g]?=wr.heap[g]?:=fun g a=>r.block g (Qu a h.keep.1) fun e=>rQ
 have C:Below c.w0.z c.w0 w2:=h.bel.grown r h.bel.size fun k e=>by have:=B k e;have:=h.w01;lia
 have x:∀i:Nat,i<6->i≠j->w2.ownsRow c.w1.z 300 2 (V i) (Yx D i).length (VD (Yx D i)):=fun i hi s=>yJ (h.due i hi) fun g e=>r.block g (zA (h.due i hi) g e) (h.dinj i j hi n s g e);refine { bel:=C.setCell (by show c.w0.z<=c.A;exact h.hA1.1) _,keep:=?_,hA:=?_,hA1:=h.hA1,regs:=?_,hr:=h.hr,min:=?_,minj:=h.minj,rM:=h.rM,due:=?_,dinj:=?_,w01:=h.w01 }
 ·exact (h.keep.step r.size fun g h1 _ _ _=>blk g h1).step (by simp [World.setCell]) fun g _ y _ _=>Qj _ _ _ _ lI
 ·have hb:w2.heap[c.A]?=some (.cells (mI c V) 183 (0,0)):=by rw [blk _ h.hA1.2];exact h.hA
  have e:(w2.st c.A (14+j) v).heap[c.A]?=some (.cells ((mI c V).setIfInBounds (14+j) v) 183 (0,0)):=by simp [World.setCell,QC,hb]
  rw [e,Fa _ _ _ _ n]
 ·exact (h.regs.gG (blk _ h.hr.2.1)).gF (by show c.gr≠c.A;exact h.A_gr.s) _
 ·exact fun i hi=>⟨(h.min i hi).1,(h.min i hi).2.1,((h.min i hi).2.2.gG (blk _ (h.min i hi).2.1)).gF (by grind [yA.A_GM]) _⟩
 ·intro i hi;have l:∀g,c.w1.z<=g->(w2.st c.A (14+j) v).heap[g]?=w2.heap[g]?:=fun g a=>Qj _ _ _ _ (by show g≠c.A;have:=h.hA1.2;lia);by_cases e:i=j
  ·subst e;simp only [if_true];exact yJ z fun g a=>l g (zE z g a)
  simp only [Qe e];rw [F i hi e];exact yJ (x i hi e) fun g a=>l g (zE (x i hi e) g a)
 intro i k hi u t g a;by_cases p:i=j
 ·by_cases q:k=j
  ·lia
  simp only [Qf p] at a;simp only [Qe q];intro d;rcases b with b | b
  ·exact h.dinj j k n u lI g rQ d
  have h1:=b g a;have y:=zA (h.due k u) g d.s;lia
 by_cases q:k=j
 ·simp only [Qe p] at a;simp only [Qf q];intro d;rcases b with b | b
  ·rw [b] at d;exact h.dinj i j hi n p g a d
  have h1:=b g d.s;have y:=zA (h.due i hi) g a;lia
 simp only [Qe p] at a;simp only [Qe q];exact h.dinj i k hi u t g a
end
def lY (c:Mc) (logs:Li) (gm cm:Nat) (CM:Nat->Nat) (x:wO):Prop :=
 zM x c.lv logs/\(0<c.n->c.mv=.slice (pA gm) c.n cm/\c.n<=cm/\cm<=maxLen/\gm<x.heap.size)/\∀i,i<c.n->x.cell? (E gm i)=some (.slice (pA (c.GM i)) (c.lenM i) (CM i))/\c.lenM i<=CM i/\CM i<=maxLen
def oN (A:Nat) (R r p:Int) (q:Nat) (w:wO) (i:w.cell? (E A 6)=Y R) (hr:0<=r) (c:r<=200) (j:0<=p) (d:p<=30000) (hR:1<=R) (h:R<=128) (a:(r+p) % R=(q:Int)) :
  Cp 217 #[.pointer (pA A),J r,J p] w (Re w (J q)):=by
 have hm:Int.tmod (r+p) R=(q:Int):=rQ
 have f:(q:Int)<R:=by have:=QP (r+p) (by omega:0<R);omega
 have g:¬R=0:=oM
 have b:=Z a;clear a;go_enter func217,ntmps217;go_wp2;go_ret;exact⟨rfl,rfl⟩
def uO (A T:Nat) (w:wO) (hT:T<=40000) :
  Cp 213 #[.pointer (pA A),J T] w fun e w'=>e=.returned (.pointer (some (E A (14+T % 6))))/\w'=w:=by
 have hm:Int.tmod (T:Int) 6=((T % 6:Nat):Int):=rQ
 obtain⟨q,a⟩:=nm (T % 6);have c:q<6:=oM
 rw [a] at hm ⊢;have b:=Z a;clear a;go_enter func213,ntmps213;go_wp2;go_ret;exact⟨sM,rfl⟩
def uP {c:Mc} {V:Nat->vO} {D:List Du} {f:Nat->Int} {m:Nat->Nat->Int} (w:wO) (logs:Li) (gm cm:Nat) (CM:Nat->Nat) (sl sg o d a b sp pl nn:Int) (i j:Nat) (T:Int)
  (g:yA c V D f m w) (hS:lY c logs gm cm CM w) (hn:c.n=logs.length) (hi:i<c.n) (R:iu sp pl T (ak logs i)=(j:Int)) (F:j<c.lenM i) (G:c.lenM i<=32) :
  Cp 215 #[.pointer (pA c.A),.agg #[J sl,J sg,J o,J d,J a,J b,J i,J sp,J pl,J nn],J T] w fun e w' =>
   e=.returned (.pointer (some (E (c.GM i) j)))/\Bw w w':=by
 obtain⟨-,⟨-,-,-,h,-,k,-⟩,-⟩:=g.cells
 have C:=g.A_lt
 obtain⟨v,s,r⟩:=hS
 obtain⟨q,X,B,P⟩:=s oM
 rw [q] at k
 obtain⟨S,u,p,W,x,z,t⟩:=v
 rw [p] at h
 obtain⟨lb,lo,rfl,N,l⟩:=t oM
 have M:=l i oM
 obtain⟨O,i2,i3⟩:=r i hi
 have L:c.GM i<w.heap.size:=by have:=(g.min i hi).2.1;have:=g.keep.1;omega
 have H:(i:Int)<(c.n:Int):=oM
 have I:(i:Int)<(logs.length:Int):=oM
 have K:(j:Int)<(c.lenM i:Int):=oM
 unfold maxLen at B x i3
 generalize c.lenM i=y at *
 generalize ak logs i=U at *
 generalize c.GM i=Q at *
 generalize c.A=A at *
 generalize c.n=n at *
 clear g s r t l z q p
 go_enter func215,ntmps215
 go_wp2
 go_big_quiet ((go_at_call 186;exact Calls.quiet_of_same (pD _ _ _ _ _)))
 go_wp2
 go_ret
 exact⟨rfl,(Qd _ _).t (Qm _ _ _)⟩
def Fb (A:Nat) (sl sg d a b ar sp pl nn p T:Int) (w:wO) :
  Cp 214 #[.pointer (pA A),.agg #[J sl,J sg,J 1,J d,J a,J b,J ar,J sp,J pl,J nn],J p,J T] w (Rt w (J nn)):=by go_enter func214,ntmps214;go_wp2;go_ret;exact⟨rfl,Qd _ _⟩
def Fd (A:Nat) (sl sg d a b ar sp pl nn p T:Int) (w:wO) :
  Cp 214 #[.pointer (pA A),.agg #[J sl,J sg,J 2,J d,J a,J b,J ar,J sp,J pl,J nn],J p,J T] w (Rt w (J T)):=by go_enter func214,ntmps214;go_wp2;go_ret;exact⟨rfl,Qd _ _⟩
def Fe {c:Mc} {V:Nat->vO} {D:List Du} {f:Nat->Int} {m:Nat->Nat->Int} (w:wO) (logs:Li) (gm cm:Nat) (CM:Nat->Nat) (sl sg d a b sp pl nn p:Int) (i j:Nat) (T:Int)
  (k:yA c V D f m w) (hS:∀x,Yy c x->lY c logs gm cm CM x) (hn:c.n=logs.length) (hi:i<c.n) (s:iu sp pl T (ak logs i)=(j:Int)) (h:j<c.lenM i) (r:c.lenM i<=32) :
  Cp 214 #[.pointer (pA c.A),.agg #[J sl,J sg,J 3,J d,J a,J b,J i,J sp,J pl,J nn],J p,J T] w (Rt w (J (m i j))):=by have o:=Z k;have q:=Z hS;clear k hS;go_enter func214,ntmps214;go_wp2_with fail;have g:=o.gE (Qd w (Ij sl sg 3 d a b i sp pl nn 79));refine (uP _ logs gm cm CM sl sg 3 d a b sp pl nn i j T g (q _ g.keep) hn hi s h r).mr fun w2 hb=>?_;have t:=((g.gE hb).min i hi).2.2.cell h;have l:=Z ((Qd w (Ij sl sg 3 d a b i sp pl nn 79)).t (hb.m sM));clear hb g;go_wp2;go_ret;exact⟨rfl,l⟩
def VI {a p R:Int} (hR:1<=R):(a+p) % R=(((a+p) % R).toNat:Int)/\((a+p) % R).toNat<R.toNat:=by have h1:=QS (a+p) (by lia:R≠0);have b:=QP (a+p) (by lia:0<R);lia
def Ff {c:Mc} {V:Nat->vO} {D:List Du} {f:Nat->Int} {m:Nat->Nat->Int} (w:wO) (sl sg d a b ar sp pl nn p T:Int) (g:yA c V D f m w) (hR:(c.R:Int)=c.t.r) (h:1<=c.t.r) (l:c.t.r<=128) (y:0<=a) (x:a<=200) (hb:0<=b) (o:b<=200) (z:0<=p) (n:p<=30000) :
  Cp 214 #[.pointer (pA c.A),.agg #[J sl,J sg,J 4,J d,J a,J b,J ar,J sp,J pl,J nn],J p,J T] w (Rt w (J (f ((a+p) % c.t.r).toNat))):=by
 obtain⟨⟨-,-,-,-,-,-,K⟩,⟨-,-,-,-,s,-,-⟩,-⟩:=g.cells;obtain⟨j,C⟩:=VI (a:=a) (p:=p) h;obtain⟨k,F⟩:=VI (a:=b) (p:=p) h;have ra:=g.regs.cell (i:=((a+p) % c.t.r).toNat) oM;have rb:=g.regs.cell (i:=((b+p) % c.t.r).toNat) oM;have I:=g.regs.lt;have G:=g.A_lt;have q:=g.hr.2.2.2;have H:=g.hr.2.2.1;unfold maxLen at q;generalize ((a+p) % c.t.r).toNat=B at *
 generalize ((b+p) % c.t.r).toNat=ib at *
 have ea:(B:Int)<(c.R:Int):=oM
 have M:(ib:Int)<(c.R:Int):=oM
 have u:=Z j;have v:=Z k;have L:=Z hR;generalize c.A=A at *
 generalize c.gr=gr at *
 clear g j k hR;go_enter func214,ntmps214;go_wp2;go_big_quiet ((go_at_call 217;exact Calls.quiet_of_same (oN _ c.t.r _ _ _ _ (by go_simp) (by first | exact y | exact hb) (by first | exact x | exact o) z n h l (by first | exact u | exact v))));go_wp2;go_ret;exact⟨rfl,(Qd _ _).t (Qm _ _ _)⟩
def Fg {c:Mc} {V:Nat->vO} {D:List Du} {f:Nat->Int} {m:Nat->Nat->Int} (w:wO) (sl sg o d a b ar sp pl nn p T:Int) (g:yA c V D f m w) (hR:(c.R:Int)=c.t.r) (h:1<=c.t.r) (q:c.t.r<=128) (C:0<=a) (B:a<=200) (hb:0<=b) (u:b<=200) (F:0<=p) (s:p<=30000) (o1:11<=o) (Q:o<=18) :
  Cp 214 #[.pointer (pA c.A),.agg #[J sl,J sg,J o,J d,J a,J b,J ar,J sp,J pl,J nn],J p,J T] w (Rt w (J (gi (o - 10) (f ((a+p) % c.t.r).toNat) (f ((b+p) % c.t.r).toNat)))):=by
 obtain⟨⟨-,-,-,-,-,-,N⟩,⟨-,-,-,-,x,-,-⟩,-⟩:=g.cells;obtain⟨k,H⟩:=VI (a:=a) (p:=p) h;obtain⟨l,I⟩:=VI (a:=b) (p:=p) h;have ra:=g.regs.cell (i:=((a+p) % c.t.r).toNat) oM;have rb:=g.regs.cell (i:=((b+p) % c.t.r).toNat) oM;have M:=g.regs.lt;have K:=g.A_lt;have v:=g.hr.2.2.2;have L:=g.hr.2.2.1;unfold maxLen at v;generalize ((a+p) % c.t.r).toNat=G at *
 generalize ((b+p) % c.t.r).toNat=ib at *
 have ea:(G:Int)<(c.R:Int):=oM
 have P:(ib:Int)<(c.R:Int):=oM
 have S:(o == 1)=false:=QM.2 oM;have U:(o == 2)=false:=QM.2 oM;have W:(o == 3)=false:=QM.2 oM;have X:(o == 4)=false:=QM.2 oM;have y:=Z k;have z:=Z l;have O:=Z hR;generalize c.A=A at *
 generalize c.gr=gr at *
 clear g k l hR;go_enter func214,ntmps214;go_wp2;go_big_quiet ((go_at_call 217;exact Calls.quiet_of_same (oN _ c.t.r _ _ _ _ (by go_simp) (by first | exact C | exact hb) (by first | exact B | exact u) F s h q (by first | exact y | exact z))));go_wp2_with fail;refine (Aj _ _ _ _).mr fun w4 j=>?_;have n:=Z (((Qd w _).t (Qm _ _ _)).t (j.m sM));clear j;go_wp2;go_ret;exact⟨rfl,n⟩
def Fh (w:wO) (row:Option Nat):w.grownBy w row:=⟨rfl,rfl,rfl,Qc _,fun _ _ _=>rfl⟩
def Fi {D:List Du} {j:Int} {d:Du} (h:d∈Yx D j):d∈D:=by grind [Yx]
def yA.landed {c:Mc} {V:Nat->vO} {D:List Du} {f:Nat->Int} {m:Nat->Nat->Int} {wr:wO} (h:yA c V D f m wr) (b:lJ T D) :
  yA c (fun i=>if i=T % 6 then lX (V (T % 6)) else V i) (xx T D D.length) f m (wr.setCell (E c.A (14+T % 6)) (lX (V (T % 6)))):=by
 have d:((T:Int) % 6)=((T % 6:Nat):Int):=lI
 have a:T % 6<6:=E7 _ lI;refine h.setDue (T % 6) _ _ wr a (Fh _ _) ?_ (.inl (E' (h.due _ a))) (fun i hi g=>?_)
 ·rw [wu b,Qf d.s];exact E9 (h.due _ a)
 grind [wu]
def Fj {c:Mc} {V:Nat->vO} {D:List Du} {f:Nat->Int} {m:Nat->Nat->Int} (T:Nat) (w:wO) (n:yA c V D f m w) (u:lJ T D) (P:∀d∈D,0<=d.rg/\d.rg<(c.R:Int)) (hT:T<=40000) :
  Cp 167 #[.pointer (pA c.A),J T] w fun e w'=>e=.returned (.tuple #[])/\∃X,yA c X (xx T D D.length) (ZA T D f D.length) m w':=by
 have Q:((T:Int) % 6)=((T % 6:Nat):Int):=oM
 have b:T % 6<6:=E7 _ oM;have y:Hid (ZA T D f D.length=jC (Yx D (T % 6:Nat)) f (Yx D (T % 6:Nat)).length):=by show _=_;rw [GY u,Q]
 have z:Hid (∀s wr,yA c V D s m wr->yA c (fun i=>if i=T % 6 then lX (V (T % 6)) else V i) (xx T D D.length) s m (wr.st c.A (14+T % 6) (lX (V (T % 6))))):=fun s wr h=>h.landed u;have C:Hid (∀d∈Yx D (T % 6:Nat),0<=d.rg/\d.rg<(c.R:Int)):=fun d hd=>P d (Fi hd);have H:=Z (fun W=>uO c.A T W hT);clear Q u P;generalize T % 6=j at *
 obtain⟨va,vc,r,gh,fF⟩:=zD (n.due j b);have L:lX (V j)=.slice va 0 vc:=by rw [r];rfl
 unfold maxLen at fF;have B:=Z n;have F:=Z r;have K:=Z L;have O:=n.cells.2.2 j b;rw [r] at O;have M:va=none->vc=0:=by
  intro e;have h:=(n.due j b).2;simp_all
 have cU:=Z M;clear r L n M;generalize S:Yx D (j:Int)=l at *
 have eD:=Z S;clear S;go_enter func167,ntmps167;go_wp2_with (go_at_call 213;apply (H _).m;rintro e w' ⟨rfl,rfl⟩);go_loopw [14] (fun i wr=>∃k:Nat,k<=l.length/\i=J k/\yA c V D (jC l f k) m wr) (fun i _=>l.length - (intOf i).toNat)
 case atStart=>exact⟨0,Ql _,rfl,B⟩
 clear B O;obtain⟨k,hk,rfl,a⟩:=hrel;by_cases o:k<l.length
 ·have t:=a.due j b;rw [eD] at t;obtain⟨g,cap,I,af,fP,fQ,fR,G⟩:=EX t oM;rw [F] at I;injection I with e1 e2 e3;subst e1;subst e3;obtain⟨d0,d1⟩:=G k o;obtain⟨r0,r1⟩:=C _ (rV o);obtain⟨q,x⟩:∃q:Nat,(xO l k).rg=(q:Int):=⟨(xO l k).rg.toNat,oM⟩;have U:Hid (jC l f (k+1)=VM (jC l f k) q (xO l k).v):=by show VM (jC l f k) (xO l k).rg.toNat (xO l k).v=_;rw [x];rfl
  rw [x] at d0 r1;have N:q<c.R:=oM
  have bZ:(k:Int)<(l.length:Int):=oM
  obtain⟨-,⟨-,-,-,-,c11,-,-⟩,-⟩:=a.cells;have aL:=a.A_lt;have bY:=a.regs.lt;have fi:=a.regs.frozen q;have fZ:=a.regs.cell N;have bV:=a.hr.2.2.1;have bU:=a.hr.2.2.2;unfold maxLen at bU;have p:=Z a;generalize (xO l k).v=vv at *
  generalize jC l f k=fk at *
  clear G t x a C H;go_wp2;go_region;go_wp2;go_roundw
  case rel =>refine⟨k+1,oM,nQ,?_⟩;rw [U];exact (p.setReg q vv N).gE (Qd _ _).drew
  simp [intOf];omega
 have e:k=l.length:=oM
 subst e;have bZ:¬(l.length:Int)<(l.length:Int):=oM
 have bh:=a.cells.2.2 j b;rw [F] at bh;have fi:=a.frozenA (14+j);have p:=Z a;clear a;cases va with
 | none =>obtain rfl:=cU rfl;go_wp2;go_end0;refine⟨rfl,?_⟩;rw [y];have h:=z _ _ p;rw [K] at h;exact⟨_,h⟩
 | some E =>go_wp2;go_end0;refine⟨rfl,?_⟩;rw [y];have h:=z _ _ p;rw [K] at h;exact⟨_,h⟩
def UI (bi bw:Nat):vO:=.func (.func 216) #[] #[.pointer (pA bi),.pointer (pA bw)]
def Uw (c:Mc) (b1:Nat) (wr:wO) (v:vO) (l:List je):Prop :=
 ∃ BI BW:Nat->Nat,wr.ownsRow b1 1 1 v l.length ((List.range l.length).map fun i=>UI (BI i) (BW i)) /\
   ∀i,i<l.length->(b1<=BI i/\wr.heap[BI i]?=some (.cells #[J (zU l i).v] 2 (0,0)))/\(b1<=BW i/\wr.heap[BW i]?=some (.cells #[.pointer (some (E (c.GM (zU l i).i) ((zU l i).j)))] 284 (0,0)))/\(zU l i).i<c.n/\(zU l i).j<c.lenM (zU l i).i
def Uw.keep {c:Mc} {wr w':wO} {v:vO} {l:List je} (h:Uw c b1 wr v l) (d:∀(g:Nat) (cs:Array vO) (e:TypeId),b1<=g->g<wr.heap.size->wr.heap[g]?=some (.cells cs e (0,0))->e≠300->w'.heap[g]?=wr.heap[g]?):Uw c b1 w' v l:=by
 obtain⟨BI,BW,h1,n⟩:=h;refine⟨BI,BW,yJ h1 fun g a=>?_,fun i hi=>?_⟩
 ·have o:=zE h1 g a;have p:=zA h1 g a;obtain⟨-,h1⟩:=h1;rcases h1 with ⟨rfl,_⟩ | ⟨m,cap,k,rfl,_,hb,_⟩
  ·cases a
  have e:m=g:=by simpa [Value.ownBlock] using a
  subst e;exact d _ _ _ o p hb tQ
 obtain⟨⟨f,b⟩,⟨b1,b2⟩,j⟩:=n i hi;exact⟨⟨f,by rw [d _ _ _ f (lo b) b tQ];exact b⟩,⟨b1,by rw [d _ _ _ b1 (lo b2) b2 tQ];exact b2⟩,j⟩
def Uw.gE {c:Mc} {wr w':wO} {v:vO} {l:List je} (h:Uw c b1 wr v l) (hb:Bw wr w'):Uw c b1 w' v l :=
 h.keep fun g cs e _ a _ _=>hb.block g a
def Uw.setDue {c:Mc} {V:Nat->vO} {D:List Du} {f:Nat->Int} {m:Nat->Nat->Int} {wr:wO} {v:vO} {l:List je} (h:Uw c b1 wr v l) (k:yA c V D f m wr) (j:Nat) (r:j<6) (x:c.w1.heap.size<=b1) (q:wr.grownBy w2 (V j).ownBlock) (u:vO) (o:Nat) :
  Uw c b1 (w2.setCell (E c.A o) u) v l:=by
 refine h.keep fun g cs e s i hb z=>?_;rw [Qj _ _ _ _ (by show g≠c.A;have:=k.hA1.2;lia)];refine q.block g i fun a=>?_;have d:=k.due j r;obtain⟨-,d⟩:=d;rcases d with ⟨b,_⟩ | ⟨p,cap,n,b,_,t,_⟩
 ·rw [b] at a;cases a
 rw [b] at a;have y:g=p:=by simpa [Value.ownBlock] using a
 simp_all
def Uw.nil (c:Mc) (b1:Nat) (wr:wO):Uw c b1 wr (.slice none 0 0) [] :=
 ⟨fun _=>0,fun _=>0,World.ownsRow_nil _ _ _ _,fun i hi=>absurd hi (Qv _)⟩
theorem Fk (f:Nat->vO) (n:Nat):(List.range n).map f++[f n]=(List.range (n+1)).map f:=by rw [Wn,QV];rfl
def Uw.push {c:Mc} {b d:Nat} {wr:wO} {v v':vO} {l:List je} {i:Nat} {u:Int} {BI:Nat->Nat} (h1:wr.ownsRow b1 1 1 v l.length ((List.range l.length).map fun i=>UI (BI i) (BW i)))
  (A:∀i,i<l.length->(b1<=BI i/\wr.heap[BI i]?=some (.cells #[J (zU l i).v] 2 (0,0)))/\(b1<=BW i/\wr.heap[BW i]?=some (.cells #[.pointer (some (E (c.GM (zU l i).i) ((zU l i).j)))] 284 (0,0)))/\(zU l i).i<c.n/\(zU l i).j<c.lenM (zU l i).i)
  (D:wr.grownBy w2 v.ownBlock) (B:w2.ownsRow b1 1 1 v' (l.length+1) (((List.range l.length).map fun i=>UI (BI i) (BW i))++[UI b d]))
  (k:b1<=b/\wr.heap[b]?=some (.cells #[J u] 2 (0,0))) (h:b1<=d/\wr.heap[d]?=some (.cells #[.pointer (some (E (c.GM i) j))] 284 (0,0))) (hi:i<c.n) (F:j<c.lenM i) :
  Uw c b1 w2 v' (l++[⟨i,j,u⟩]):=by
 have a:∀(g:Nat) (cs:Array vO) (e:TypeId),wr.heap[g]?=some (.cells cs e (0,0))->e≠1->w2.heap[g]?=wr.heap[g]?:=fun g cs e hb r=>D.block g (lo hb) fun f=>by
  obtain⟨-,C⟩:=h1;rcases C with ⟨m,_⟩ | ⟨z,cap,y,m,_,G,_⟩
  ·rw [m] at f;cases f
  rw [m] at f;have H:g=z:=by simpa [Value.ownBlock] using f
  simp_all
 refine⟨fun q=>if q=l.length then b else BI q,fun q=>if q=l.length then d else BW q,?_,fun q s=>?_⟩
 ·have o:(l++[je.mk i j u]).length=l.length+1:=sM
  have r:(List.range (l++[je.mk i j u]).length).map (fun q=>UI (if q=l.length then b else BI q) (if q=l.length then d else BW q))=(List.range l.length).map (fun i=>UI (BI i) (BW i))++[UI b d]:=by
   rw [o,<-Fk];congr 1
   ·refine Et fun q s=>?_;have:q<l.length:=WU.1 s;rw [Qe lI,Qe lI]
   simp
  rw [r,o];exact B
 have o:(l++[je.mk i j u]).length=l.length+1:=sM
 by_cases e:q=l.length
 ·subst e;rw [wz];simp only [if_true];exact⟨⟨k.1,by rw [a _ _ _ k.2 tQ];exact k.2⟩,⟨h.1,by rw [a _ _ _ h.2 tQ];exact h.2⟩,hi,F⟩
 rw [wy _ _ _ lI];simp only [Qe e];obtain⟨⟨t,p⟩,⟨b1,b2⟩,x⟩:=A q lI;exact⟨⟨t,by rw [a _ _ _ p tQ];exact p⟩,⟨b1,by rw [a _ _ _ b2 tQ];exact b2⟩,x⟩
def ru (r:Int) (n:Nat) (x:bt):Prop:=(0<=x.d/\x.d<r)/\(0<=x.a/\x.a<r)/\(0<=x.b/\x.b<r)/\(0<=x.sg/\x.sg<=1000)/\(x.o=1\/x.o=2\/(x.o=3/\0<=x.ar/\x.ar<n)\/(x.o=4/\0<=x.ar/\x.ar<n)\/(11<=x.o/\x.o<=18))
def Fl {c:Mc} {V:Nat->vO} {D:List Du} {f:Nat->Int} {m:Nat->Nat->Int} (w:wO) (logs:Li) (gm cm:Nat) (CM:Nat->Nat) (sl sg o d a b ar sp pl nn pc now p T:Int)
  (k:yA c V D f m w) (hS:∀x,Yy c x->lY c logs gm cm CM x) (hn:c.n=logs.length) (hlen:∀i,i<c.n->c.lenM i=2 ^ (ak logs i).toNat/\c.lenM i<=32) (hR:(c.R:Int)=c.t.r) (u:1<=c.t.r) (q:c.t.r<=128)
  (H:ru c.t.r c.n ⟨sl,sg,o,d,a,b,ar,sp,pl,nn⟩) (I:now / pc=p) (hT:p - sg=T) (y:0<=p) (s:p<=30000) :
  Cp 214 #[.pointer (pA c.A),.agg #[J sl,J sg,J o,J d,J a,J b,J ar,J sp,J pl,J nn],J p,J T] w fun e w' =>
   e=.returned (J (kD logs c.t.r pc now f m ⟨sl,sg,o,d,a,b,ar,sp,pl,nn⟩))/\Bw w w':=by
 have g:=BN logs pc now ⟨sl,sg,o,d,a,b,ar,sp,pl,nn⟩
 have v:=BO logs pc now ⟨sl,sg,o,d,a,b,ar,sp,pl,nn⟩
 have B:now / pc - sg=T:=lI
 have F:kD logs c.t.r pc now f m ⟨sl,sg,o,d,a,b,ar,sp,pl,nn⟩=if o=1 then nn else if o=2 then T else if o=3 then m ar.toNat (XY logs pc now ⟨sl,sg,o,d,a,b,ar,sp,pl,nn⟩) else if o=4 then f ((a+p) % c.t.r).toNat else gi (o - 10) (f ((a+p) % c.t.r).toNat) (f ((b+p) % c.t.r).toNat):=by
  grind [kD,oY]
 rw [F]
 dsimp only at g v
 rw [B] at g
 obtain⟨G,l,hb,C,z⟩:=H
 dsimp only at G l hb C z
 rcases z with rfl | rfl | ⟨rfl,h1,h⟩ | ⟨rfl,h1,h⟩ | ⟨h1,h⟩
 ·exact Fb c.A sl sg d a b ar sp pl nn p T w
 ·exact Fd c.A sl sg d a b ar sp pl nn p T w
 ·generalize XY logs pc now ⟨sl,sg,3,d,a,b,ar,sp,pl,nn⟩=j at *
  obtain⟨i,rfl⟩:∃i:Nat,ar=(i:Int):=⟨ar.toNat,lI⟩
  rw [QL] at g v ⊢
  have hi:i<c.n:=lI
  exact Fe w logs gm cm CM sl sg d a b sp pl nn p i j T k hS hn hi g sA (hlen i hi).2
 ·exact Ff w sl sg d a b ar sp pl nn p T k hR u q l.1 lI hb.1 lI y s
 ·rw [Qe lI,Qe lI,Qe lI,Qe lI]
  exact Fg w sl sg o d a b ar sp pl nn p T k hR u q l.1 lI hb.1 lI y s h1 h
def Fm {c:Mc} {V:Nat->vO} {D:List Du} {f:Nat->Int} {m:Nat->Nat->Int} (w:wO) (a b i j:Nat) (u:Int) (h:yA c V D f m w) (g:w.heap[a]?=some (.cells #[J u] 2 (0,0))) (d:w.heap[b]?=some (.cells #[.pointer (some (E (c.GM i) j))] 284 (0,0))) (hi:i<c.n) (k:j<c.lenM i) :
  Cp 216 #[.pointer (pA a),.pointer (pA b)] w fun e w'=>e=.returned (.tuple #[])/\w'=w.setCell (E (c.GM i) j) (J u):=by
 have l:w.c a 0=Y u:=cb g
 have o:w.c b 0=some (.pointer (some (E (c.GM i) j))):=cb d
 have hr:=(h.min i hi).2.2;have p:=hr.cell k;have q:=hr.frozen j;clear h g d hr;go_enter func216,ntmps216;go_wp2;go_end0;exact⟨rfl,rfl⟩
section
def Tryz.i300:(prog.info? 300).map (fun i=>(i.zero,i.size,i.bytes))=some (some (.agg #[J 0,J 0]),2,16):=kR
def Tryz.i1:(prog.info? 1).map (fun i=>(i.zero,i.size,i.bytes))=some (some .nilFunc,1,8):=kR
def lZ {w:wO} {X:Nat} {sl sg o d a b ar sp pl nn:Int} (h:w.heap[X]?=some (.cells #[J sl,J sg,J o,J d,J a,J b,J ar,J sp,J pl,J nn] 79 (0,0))) :
  w.cell? (E X 0)=Y sl/\w.cell? (E X 1)=Y sg/\w.cell? (E X 2)=Y o/\w.cell? (E X 3)=Y d/\w.cell? (E X 4)=Y a/\w.cell? (E X 5)=Y b/\w.cell? (E X 6)=Y ar/\w.cell? (E X 7)=Y sp/\w.cell? (E X 8)=Y pl/\w.cell? (E X 9)=Y nn:=by have key:=Qa h;refine⟨?_,?_,?_,?_,?_,?_,?_,?_,?_,?_⟩ <;> (rw [key];rfl)
theorem yB (w:wO) (cs:Array vO) (e:TypeId):(w.alloc (.cells cs e)).heap[w.heap.size]?=some (.cells cs e (0,0)):=by show (w.heap.push _)[w.z]?=_;simp
def Fo {pc:Int} {P:Nat} {x:bt} (hs:x.sl=(T:Int) % pc) (a:(T:Int) / pc=(P:Int)):Ux pc gD T x=br (P - x.sg) 0 (gD - 1):=by grind [Ux,br]
def uQ (h:zS t) (o:Int):∃wt:Nat,Xb t (ye o)=(wt:Int)/\1<=wt/\wt<=6/\yj t o=(wt:Int):=by
 obtain⟨h1,b,c,-,-⟩:=yi h;have h1:=yG h1;have b:=yG b;have c:=yG c;have d:yj t o=Xb t (ye o):=by grind [yj]
 rw [d];rcases VA o with a | a | a
 ·exact⟨t.w0.toNat,by rw [a];show t.w0=_;lia,lI,lI,by rw [a];show t.w0=_;lia⟩
 ·exact⟨t.w1.toNat,by rw [a];show t.w1=_;lia,lI,lI,by rw [a];show t.w1=_;lia⟩
 exact⟨t.w2.toNat,by rw [a];show t.w2=_;lia,lI,lI,by rw [a];show t.w2=_;lia⟩
def Fp (t:Tg) (o:Int) (wt:Nat) (h:yj t o=(wt:Int)) (w:wO):Cp 82 #[.agg #[J t.u0,J t.u1,J t.u2,J t.w0,J t.w1,J t.w2,J t.r],J o] w (Rt w (J wt)):=h ▸ vx t o w
def Fq (A T wt:Nat) (w:wO) (h:T+wt<=40000):Cp 213 #[.pointer (pA A),J ((T:Int)+(wt:Int))] w fun e w'=>e=.returned (.pointer (some (E A (14+(T+wt) % 6))))/\w'=w:=by have:=uO A (T+wt) w h;rw [ET] at this;exact this
structure jq (c:Mc) (V:Nat->vO) (D:List Du) (f:Nat->Int) (m:Nat->Nat->Int) (X BI:Nat) (sl sg o d a b ar sp pl nn v:Int) (x:wO):Prop where
 inv:yA c V D f m x
 hX:x.heap[X]?=some (.cells #[J sl,J sg,J o,J d,J a,J b,J ar,J sp,J pl,J nn] 79 (0,0))
 hB:x.heap[BI]?=some (.cells #[J v] 2 (0,0))
variable {c:Mc} {V:Nat->vO} {D:List Du} {f:Nat->Int} {m:Nat->Nat->Int} {X BI:Nat} {sl sg o d a b ar sp pl nn v:Int} {x:wO}
def jq.gE {g:wO} (h:jq c V D f m X BI sl sg o d a b ar sp pl nn v x) (hb:Bw x g):jq c V D f m X BI sl sg o d a b ar sp pl nn v g :=
 ⟨h.inv.gE hb,by rw [hb.block _ (lo h.hX)];exact h.hX,by rw [hb.block _ (lo h.hB)];exact h.hB⟩
def jq.s10 (h:jq c V D f m X BI sl sg o d a b ar sp pl nn v x):(x.cell? (E c.A 0)=Y c.t.u0/\x.cell? (E c.A 1)=Y c.t.u1/\x.cell? (E c.A 2)=Y c.t.u2/\x.cell? (E c.A 3)=Y c.t.w0/\x.cell? (E c.A 4)=Y c.t.w1/\x.cell? (E c.A 5)=Y c.t.w2/\x.cell? (E c.A 6)=Y c.t.r)/\x.cell? (E X 2)=Y o :=
 ⟨h.inv.cells.1,(lZ h.hX).2.2.1⟩
def jq.s11 (h:jq c V D f m X BI sl sg o d a b ar sp pl nn v x) (i:j<6) (g:V j=.slice va n0 vc):x.cell? (E c.A (14+j))=some (.slice va n0 vc)/\x.cell? (E X 3)=Y d/\x.cell? (E c.A 6)=Y c.t.r/\x.cell? (E BI 0)=Y v :=
 ⟨by rw [h.inv.cells.2.2 j i,g],(lZ h.hX).2.2.2.1,h.inv.cells.1.2.2.2.2.2.2,cb h.hB⟩
def rx (h:yA c V D f m x) (l:j<6) (hb:x.heap[g]?=some (.cells cs e (0,0))) (p:e≠300):some g≠(V j).ownBlock:=by
 intro a;obtain⟨-,k⟩:=h.due j l;rcases k with ⟨b,_⟩ | ⟨i,cap,d,b,_,n,_⟩
 ·rw [b] at a;cases a
 rw [b] at a;have o:g=i:=by simpa [Value.ownBlock] using a
 simp_all
def jq.grown (h:jq c V D f m X BI sl sg o d a b ar sp pl nn v x) (i:j<6) (l:V j=.slice va n0 vc) (g:x.grownBy w6 (Value.slice va n0 vc).ownBlock):(w6.cell? (E c.A (14+j))=some (.slice va n0 vc)/\w6.cell? (E X 3)=Y d/\w6.cell? (E c.A 6)=Y c.t.r/\w6.cell? (E BI 0)=Y v)/\w6.frozen? (E c.A (14+j))=false:=by
 rw [<-l] at g;have k:=g.block c.A h.inv.A_lt (rx h.inv i h.inv.hA tQ);have p:=g.block X (lo h.hX) (rx h.inv i h.hX tQ);have n:=g.block BI (lo h.hB) (rx h.inv i h.hB tQ);obtain⟨q,s,u,y⟩:=h.s11 i l;refine⟨⟨?_,?_,?_,?_⟩,?_⟩
 ·rw [World.cell?_of_block (a:=(E c.A (14+j))) k];exact q
 ·rw [World.cell?_of_block (a:=(E X 3)) p];exact s
 ·rw [World.cell?_of_block (a:=(E c.A 6)) k];exact u
 ·rw [World.cell?_of_block (a:=(E BI 0)) n];exact y
 simp [World.frozen?,k,h.inv.hA]
def uR (w:wO) (a b:vO) (t:TypeId):∀(j:Nat) (u:vO),[a,b][j]?=some u->(w.alloc (.cells #[a,b] t)).cell? (((E w.heap.size 0):Addr).add j)=some u:=by
 intro j u d;have c:((E w.z 0):Addr).add j=(E w.z j):=by simp [Addr.add];lia
 simp_all
def yA.push {wt:Nat} {rg u:Int} {l0:List Du} (h:yA c V D f m x) (s:(T+wt) % 6=j) (o:V j=.slice va n0 vc) (t:Yx D (j:Int)=l0) (hn:l0.length=n0)
  (l:w6.ownsRow c.w1.heap.size 300 2 (.slice (pA g) (n0+1) cap) (n0+1) (VD l0++[J rg,J u])) (b:x.grownBy w6 (Value.slice va n0 vc).ownBlock) (a:(Value.slice va n0 vc).ownBlock=some g\/x.heap.size<=g) :
  yA c (fun i=>if i=j then .slice (pA g) (n0+1) cap else V i) (D++[⟨(T:Int)+(wt:Int),rg,u⟩]) f m (w6.setCell (E c.A (14+j)) (.slice (pA g) (n0+1) cap)):=by
 have n:j<6:=lI
 have v:((T:Int)+(wt:Int)) % 6=(j:Int):=lI
 rw [<-o] at b a;have d:Yx (D++[⟨(T:Int)+(wt:Int),rg,u⟩]) (j:Int)=l0++[⟨(T:Int)+(wt:Int),rg,u⟩]:=by grind [wk]
 refine h.setDue j _ _ w6 n b ?_ ?_ (fun i hi p=>?_)
 ·rw [d,<-EL,Qt,hn];exact l
 ·rcases a with e | e
  ·exact .inl (by rw [e];rfl)
  refine .inr fun q k=>?_;have r:g=q:=by simpa [Value.ownBlock] using k
  lia
 grind [wk]
def Fr (t:Tg) (logs:Li) (pc gD now:Int) (f:Nat->Int) (m:Nat->Nat->Int):∀(q:Nx) (l:List bt),(XZ t logs pc gD now f m q l).du.length<=q.du.length+l.length:=by
 intro q l;induction l generalizing q with
 | nil=>exact Qc _
 | cons x l ih =>
  have h:=ih (jk t logs pc gD now f m q x);have a:(jk t logs pc gD now f m q x).du.length<=q.du.length+1:=by
   grind [jk]
  grind [XZ]
theorem uS (t:Tg) (logs:Li) (pc gD now:Int) (f:Nat->Int) (m:Nat->Nat->Int) (l:List bt):(Xf t logs pc gD now f m l).length<=l.length:=by grind [Xf]
def nh {c:TypeId} (h:y.ownsRow b1 c 1 u n xs) (j:y.grownBy w5 u.ownBlock) (hb:y.heap[g]?=some (.cells cs e (0,0))) (m:e≠c):w5.heap[g]?=y.heap[g]?:=by
 refine j.block g (lo hb) fun a=>?_;obtain⟨-,i⟩:=h;rcases i with ⟨b,_⟩ | ⟨f,cap,d,b,_,k,_⟩
 ·rw [b] at a;cases a
 rw [b] at a;have l:g=f:=by simpa [Value.ownBlock] using a
 simp_all
def jq.sto (h:jq c V D f m X BI sl sg o d a b ar sp pl nn v x) (l:x.ownsRow b1 1 1 u n xs) (s:c.w1.heap.size<=b1) (i:x.grownBy w5 u.ownBlock):jq c V D f m X BI sl sg o d a b ar sp pl nn v w5:=by
 have r:∀k,u.ownBlock=some k->b1<=k:=fun k e=>zE l k e;refine⟨h.inv.same ((QA _ _).grown i h.inv.bel.size fun k e=>?_) (fun g p=>?_) (fun j q g e=>?_),?_,?_⟩
 ·have:=r k e;have:=h.inv.w01;lia
 ·exact i.block g (Qu p h.inv.keep.1) fun e=>rQ
 ·exact i.block g (zA (h.inv.due j q) g e) (Bh (h.inv.due j q) l tQ g e)
 ·rw [nh l i h.hX tQ];exact h.hX
 rw [nh l i h.hB tQ];exact h.hB
def Fs (w:wO) (v:vO) (t:TypeId) (hB:w.heap.size=B):∀(j:Nat) (u:vO),[v][j]?=some u->(w.alloc (.cells #[v] t)).cell? (((E B 0):Addr).add j)=some u:=by
 subst hB;intro j u b;have a:((E w.z 0):Addr).add j=(E w.z j):=by simp [Addr.add];lia
 simp_all
def Ft {a:wO} {l:List je} {BI:Nat->Nat} (h:(∀i,i<l.length->(b1<=BI i/\y.heap[BI i]?=some (.cells #[J (zU l i).v] 2 (0,0)))/\(b1<=BW i/\y.heap[BW i]?=some (.cells #[.pointer (some (E (c.GM (zU l i).i) ((zU l i).j)))] 284 (0,0)))/\(zU l i).i<c.n/\(zU l i).j<c.lenM (zU l i).i)) (hb:Bw y a):∀i,i<l.length->(b1<=BI i/\a.heap[BI i]?=some (.cells #[J (zU l i).v] 2 (0,0)))/\(b1<=BW i/\a.heap[BW i]?=some (.cells #[.pointer (some (E (c.GM (zU l i).i) ((zU l i).j)))] 284 (0,0)))/\(zU l i).i<c.n/\(zU l i).j<c.lenM (zU l i).i:=fun i hi=>by
 obtain⟨⟨f,b⟩,⟨g,d⟩,k⟩:=h i hi
 exact⟨⟨f,by rw [hb.block _ (lo b)];exact b⟩,⟨g,by rw [hb.block _ (lo d)];exact d⟩,k⟩
def Uw.two {l:List je} {BI:Nat->Nat} (h1:y.ownsRow b1 1 1 u l.length ((List.range l.length).map fun i=>UI (BI i) (BW i))) (p:(∀i,i<l.length->(b1<=BI i/\y.heap[BI i]?=some (.cells #[J (zU l i).v] 2 (0,0)))/\(b1<=BW i/\y.heap[BW i]?=some (.cells #[.pointer (some (E (c.GM (zU l i).i) ((zU l i).j)))] 284 (0,0)))/\(zU l i).i<c.n/\(zU l i).j<c.lenM (zU l i).i)) (q:yA c V D f m y) (i j:Nat) (hi:i<c.n) (x:c.w1.heap.size<=b1) (a:vO) :
  (y.setCell (E (c.GM i) j) a).ownsRow b1 1 1 u l.length ((List.range l.length).map fun i=>UI (BI i) (BW i))/\(∀s,s<l.length->(b1<=BI s/\(y.setCell (E (c.GM i) j) a).heap[BI s]?=some (.cells #[J (zU l s).v] 2 (0,0)))/\(b1<=BW s/\(y.setCell (E (c.GM i) j) a).heap[BW s]?=some (.cells #[.pointer (some (E (c.GM (zU l s).i) ((zU l s).j)))] 284 (0,0)))/\(zU l s).i<c.n/\(zU l s).j<c.lenM (zU l s).i):=by have b:∀g,b1<=g->(y.st (c.GM i) j a).heap[g]?=y.heap[g]?:=fun g d=>Qj _ _ _ _ (by show g≠c.GM i;have:=(q.min i hi).2.1;lia);refine⟨yJ h1 fun g d=>b g (zE h1 g d),fun s hs=>?_⟩;obtain⟨⟨h,r⟩,⟨k,t⟩,o⟩:=p s hs;exact⟨⟨h,sA⟩,⟨k,sA⟩,o⟩
def uT (x:Int) (h0:-9223372036854775808<=x) (h1:x<=9223372036854775807):IntKind.i64.wrap x=x:=by rw [Wq];lia
end
def Fu {c:Mc} {V:Nat->vO} {D:List Du} {f:Nat->Int} {m:Nat->Nat->Int} (w:wO) (logs:Li) (gm cm:Nat) (CM:Nat->Nat) (oa:Option Addr) (oc:Nat) (L:List bt) (P T:Nat)
  (hI:yA c V D f m w) (hS:∀x,Yy c x->lY c logs gm cm CM x) (hO:∀x,Yy c x->Y5 x (.slice oa L.length oc) L) (hn:c.n=logs.length) (hlen:∀i,i<c.n->c.lenM i=2 ^ (ak logs i).toNat/\c.lenM i<=32) (hR:(c.R:Int)=c.t.r) (ay:zS c.t)
  (aT:∀x∈L,ru c.t.r c.n x) (bC:∀x∈L,x.sl=(T:Int) % c.pc) (hP:(T:Int) / c.pc=(P:Int)) (fJ:P<=2000) (hT:T<=30000) (ht1:1<=c.gD) (ht2:c.gD<=200) (hD:D.length<=900000) (hL:L.length<=16) :
  Cp 168 #[.pointer (pA c.A),.slice oa L.length oc,J P,J T] w fun e w'=>e=.returned (.tuple #[])/\∃V',yA c V' (XZ c.t logs c.pc c.gD T f m ⟨m,D⟩ L).du f (XZ c.t logs c.pc c.gD T f m ⟨m,D⟩ L).nx w':=by
 obtain⟨ah,aE⟩:=(yi ay).2.2.2;obtain⟨i0,hi,cL,cM,cN⟩:=info_parts Tryz.i300;obtain⟨q0,qi,qz0,qz1,qz2⟩:=info_parts Tryz.i1;have fU:∀(fn:Fn) (first cap:Array vO) (w:wO),(Instr.makeFunc fn first cap).run prog w=.ok (.func fn first cap) w:=fun _ _ _ _=>rfl;have eq:c.w1.heap.size<=w.heap.size:=hI.keep.1;have HI:=Z hI;have HS:=Z hS;have HO:=Z hO;have aY:=Z hlen;have bN:=Z aT;have aK:=Z bC;have HP:=Z hP;have eE:=Z ay;have eI:=Z hR;have HN:=Z hn;obtain⟨oa',oc',dr,aU,fq,-⟩:=hO w hI.keep;injection dr with e1 e2 e3;subst e1;subst e3;unfold maxLen at fq;clear hI hS hO hlen aT bC hP ay hR hn e2;go_enter func168,ntmps168;go_wp2;go_loopw [8,19] (fun sv i wr=>∃k:Nat,k<=L.length/\i=J k/\∃V',yA c V' (XZ c.t logs c.pc c.gD T f m ⟨m,D⟩ (L.take k)).du f m wr/\Uw c w.heap.size wr sv (Xf c.t logs c.pc c.gD T f m (L.take k))/\w.heap.size<=wr.heap.size) (fun _ i _=>L.length - (intOf i).toNat)
 case atStart=>exact⟨0,Ql _,rfl,V,HI,Uw.nil _ _ _,Qc _⟩
 clear HI;obtain⟨k,hk,rfl,V1,hQ,cF,gj⟩:=hrel;by_cases S:k<L.length
 ·have bZ:(k:Int)<(L.length:Int):=by omega
  obtain⟨oa2,oc2,bz,-,-,aa⟩:=HO wr hQ.keep;injection bz with e1 e2 e3;subst e1;subst e3;obtain⟨ob,oo,rfl,ek,aa⟩:=aa (by omega);obtain⟨c0,c1,c2,c3,c4,c5,c6,c7,c8,c9⟩:=jP (aa k S);have dU:=bN _ (nV S);have cA:=aK _ (nV S);have aQ:=Z (Fo (gD:=c.gD) cA HP);have aJ:=Z (ww c.t logs c.pc c.gD T f m ⟨m,D⟩ L k S);have al:=Z (wA c.t logs c.pc c.gD T f m L k S);have eO:(XZ c.t logs c.pc c.gD T f m ⟨m,D⟩ (L.take k)).du.length<=900016:=by have:=Fr c.t logs c.pc c.gD T f m ⟨m,D⟩ (L.take k);rw [Wh] at this;have h2:(Nx.mk m D).du.length=D.length:=rfl;omega
  have eU:(Xf c.t logs c.pc c.gD T f m (L.take k)).length<=16:=by have:=uS c.t logs c.pc c.gD T f m (L.take k);rw [Wh] at this;omega
  obtain⟨eM,⟨-,-,-,-,-,-,c13⟩,-⟩:=hQ.cells;have aL:=hQ.A_lt;have HQ:=Z hQ;have cY:=Z cF;clear aa hQ cF cA eM;generalize XZ c.t logs c.pc c.gD T f m ⟨m,D⟩ (L.take k)=q at *
  generalize Xf c.t logs c.pc c.gD T f m (L.take k)=l at *
  generalize zv L k=xk at *
  obtain⟨sl,sg,o,d,a,b,ar,sp,pl,nn⟩:=xk;simp only at c0 c1 c2 c3 c4 c5 c6 c7 c8 c9 aQ;have dB:=Z dU;obtain⟨⟨dm,fg⟩,⟨eX,eY⟩,⟨fa,cG⟩,⟨bJ,af⟩,-⟩:=dU;simp only at dm fg eX eY fa cG bJ af;cases hin:br ((P:Int) - sg) 0 (c.gD - 1) with
  | false =>
   have cB:Hid (XZ c.t logs c.pc c.gD T f m ⟨m,D⟩ (L.take (k+1))=q):=(by show _=_;rw [aJ];unfold jk;rw [aQ,hin];rfl);have bF:Hid (Xf c.t logs c.pc c.gD T f m (L.take (k+1))=l):=(by show _=_;rw [al,aQ,hin,Qe (fun h=>Bool.noConfusion h.1)]);clear aJ al aQ;go_wp2_with (go_at_call 105;refine (zN _ _ _ _).m ?_;rintro e w' ⟨rfl,rfl⟩);go_roundw
   case rel=>exact⟨k+1,by omega,by go_num,V1,by rw [cB];exact HQ.gE (Qd _ _),by rw [bF];exact cY.gE (Qd _ _),by simp;omega⟩
   simp [intOf];omega
  | true =>
   obtain⟨wt,wt1,wt2,wt3,wt4⟩:=uQ eE o;have dL:=Z (Fp c.t o wt wt4);have bD:=Z (fun W=>Fq c.A T wt W (by omega));have fG:IntKind.i64.wrap ((T:Int)+(wt:Int))=(T:Int)+(wt:Int):=uT _ (by omega) (by omega);obtain⟨v,hv⟩:=nm (kD logs c.t.r c.pc T f m ⟨sl,sg,o,d,a,b,ar,sp,pl,nn⟩);obtain⟨rg,dt⟩:∃rg:Nat,(d+(P:Int)) % c.t.r=(rg:Int):=⟨_,(VI ah).1⟩;have dH:=Z dt;have dK:=Z hv;obtain⟨j,hj⟩:=nm ((T+wt) % 6);have aF:j<6:=(by omega);have HJ:=Z hj;rw [hj] at bD;obtain⟨l0,cI⟩:=nm (Yx q.du (j:Int));have cS:=Z cI;have ef:l0.length<=900016:=(by rw [<-cI];exact QH (Ek _ _) eO);obtain⟨n0,aO⟩:=nm l0.length;rw [aO] at ef;have bE:=Z aO;obtain⟨va,vc,hV,-,-⟩:=zD (HQ.due j aF);rw [cI,aO] at hV;have O:=Z hV;have cC:Hid (∀x,yA c V1 q.du f m x->x.ownsRow c.w1.heap.size 300 2 (.slice va n0 vc) n0 (VD l0)):=fun x h=>by have h2:=h.due j aF;rw [cS,bE,O] at h2;exact h2
   have cB:Hid ((XZ c.t logs c.pc c.gD T f m ⟨m,D⟩ (L.take (k+1))).du=q.du++[⟨(T:Int)+(wt:Int),rg,v⟩]):=(by show _=_;rw [aJ];unfold jk;rw [aQ,hin,Qf rfl];show q.du++[_]=_;rw [wt1,HP,dt,hv]);have dx:Hid (∀W,yA c V1 q.du f m W->Cp 214 #[.pointer (pA c.A),.agg #[J sl,J sg,J o,J d,J a,J b,J ar,J sp,J pl,J nn],J P,J ((P:Int) - sg)] W (Rt W (J v))):=fun W h=>by have h2:=Fl W logs gm cm CM sl sg o d a b ar sp pl nn c.pc T P ((P:Int) - sg) h HS HN aY eI ah aE dB HP rfl (by omega) (by omega);rw [dK] at h2;exact h2
   clear hv dt hj cI aO hV wt1 wt4 aJ;by_cases ho4:o=4
   ·subst ho4;have bF:Hid (Xf c.t logs c.pc c.gD T f m (L.take (k+1))=l++[⟨ar.toNat,XY logs c.pc T ⟨sl,sg,4,d,a,b,ar,sp,pl,nn⟩,v⟩]):=(by show _=_;rw [al,aQ,hin,Qf ⟨rfl,rfl⟩,dK]);clear al aQ;obtain⟨-,-,-,-,eh⟩:=dB;simp only at eh;have eZ:0<=ar/\ar<(c.n:Int):=(by omega);clear eh;obtain⟨i,rfl⟩:∃i:Nat,ar=(i:Int):=⟨ar.toNat,by omega⟩;have cH:i<c.n:=(by omega);have aN:=BN logs c.pc T ⟨sl,sg,4,d,a,b,(i:Int),sp,pl,nn⟩;have au:=BO logs c.pc T ⟨sl,sg,4,d,a,b,(i:Int),sp,pl,nn⟩;simp only [QL] at aN au;rw [HP] at aN;rw [<-(aY i cH).1] at au;rw [QL] at bF;generalize XY logs c.pc T ⟨sl,sg,4,d,a,b,(i:Int),sp,pl,nn⟩=jw at *
    have eK:Hid (∀W,yA c V1 q.du f m W->Cp 215 #[.pointer (pA c.A),.agg #[J sl,J sg,J 4,J d,J a,J b,J i,J sp,J pl,J nn],J ((P:Int) - sg)] W (Rt W (.pointer (some (E (c.GM i) jw))))):=fun W h=>uP W logs gm cm CM sl sg 4 d a b sp pl nn i jw ((P:Int) - sg) h (HS _ h.keep) HN cH aN au (aY i cH).2;have eB:=Z au;clear aN au eZ;go_wp2_with (go_at_call 105;refine (zN _ _ _ _).m ?_;rintro e w' ⟨rfl,rfl⟩);have az:=HQ.gE (Qd wr (Ij sl sg 4 d a b i sp pl nn 79));refine (dx _ az).mr fun C H=>?_;have bQ:Hid (C.heap[wr.heap.size]?=some (Ij sl sg 4 d a b i sp pl nn 79)):=(by show _=_;rw [H.block _ (by simp)];exact yB _ _ _);have dg:=(az.gE H).gE (Qd C (Ia v 2));have bf:=Z (((cY.gE (Qd wr (Ij sl sg 4 d a b i sp pl nn 79))).gE H).gE (Qd C (Ia v 2)));have eu:wr.heap.size<C.heap.size:=(by have:=H.size;simp at this;omega);obtain⟨bx0,bx1,bx2,bx3,bx4,bx5,bx6,bx7,bx8,bx9⟩:=lZ bQ;clear H az c0 c1 c2 c3 c4 c5 c6 c7 c8 c9 c13;go_wp2_with fail;refine (eK _ dg).mr fun I bH=>?_;have dO:=dg.gE bH;have gk:C.heap.size<I.heap.size:=(by have:=bH.size;simp at this;omega);have dQ:I.heap[wr.heap.size]?=some (Ij sl sg 4 d a b i sp pl nn 79):=(by rw [bH.block _ (by simp;omega),Qr _ _ _ eu];exact bQ);have dN:I.heap[C.heap.size]?=some (Ia v 2):=(by rw [bH.block _ (by simp)];exact yB _ _ _);obtain⟨BF,WF,aW,aR⟩:=bf.gE bH;have dG:Hid (jq c V1 q.du f m wr.heap.size C.heap.size sl sg 4 d a b (i:Int) sp pl nn v ((I.alloc (.cells #[.pointer (some (E (c.GM i) jw))] 284)).alloc (.cells #[UI C.heap.size I.heap.size] 1))):=(jq.mk dO dQ dN).gE (QB _ _ _);have gS:Hid (((I.alloc (.cells #[.pointer (some (E (c.GM i) jw))] 284)).alloc (.cells #[UI C.heap.size I.heap.size] 1)).ownsRow w.heap.size 1 1 u8 l.length ((List.range l.length).map fun i=>UI (BF i) (WF i))):=zp aW (QB _ _ _);have aH:Hid (∀s,s<l.length->(w.heap.size<=BF s/\((I.alloc (.cells #[.pointer (some (E (c.GM i) jw))] 284)).alloc (.cells #[UI C.heap.size I.heap.size] 1)).heap[BF s]?=some (.cells #[J (zU l s).v] 2 (0,0)))/\(w.heap.size<=WF s/\((I.alloc (.cells #[.pointer (some (E (c.GM i) jw))] 284)).alloc (.cells #[UI C.heap.size I.heap.size] 1)).heap[WF s]?=some (.cells #[.pointer (some (E (c.GM (zU l s).i) ((zU l s).j)))] 284 (0,0)))/\(zU l s).i<c.n/\(zU l s).j<c.lenM (zU l s).i):=Ft aR (QB _ _ _);clear bH dg dO dQ dN aW aR bx0 bx1 bx2 bx3 bx4 bx5 bx6 bx7 bx8 bx9;go_wp2_with (at_builtin;refine QQ _ rfl (.tmp 47) (.tmp 49) 301 rfl w.heap.size 1 q0 .nilFunc 1 8 underlying301 qi qz0 qz1 qz2 rfl (by decide) _ _ _ rfl gS (E (I.heap.size+1) 0) 1 1 [UI C.heap.size I.heap.size] rfl rfl (Fs _ _ _ (by simp)) (by intro u hu;simp at hu;subst hu;rfl) (by unfold maxLen;omega) (by omega) (by simp;omega) ?_;intro v5 w5 X F hnil5;have eF:=Z X;have dA:=Z F;have eL:=Z F.size;clear X F hnil5);have dw:Hid (C.heap.size>=w.heap.size/\I.heap.size>=w.heap.size):=⟨by omega,by omega⟩;have HR:=Z (dG.sto gS eq dA);have cZ:=Z (Uw.push gS aH dA eF ⟨dw.1,dG.hB⟩ ⟨dw.2,by rw [Qr _ _ _ (by simp)];exact yB _ _ _⟩ cH eB);have de:Hid (wr.heap.size<=w5.heap.size):=(by show _<=_;have:=eL.o;simp at this;omega);refine Qq ?_;refine zg 99 (fun w'=>(w'.c c.A 0=Y c.t.u0/\w'.c c.A 1=Y c.t.u1/\w'.c c.A 2=Y c.t.u2/\w'.c c.A 3=Y c.t.w0/\w'.c c.A 4=Y c.t.w1/\w'.c c.A 5=Y c.t.w2/\w'.c c.A 6=Y c.t.r)/\w'.c wr.heap.size 2=Y 4) (by kernel_rfl) HR.s10 (fun z=>?_);refine aq 0 ?_;refine aq 2 ?_;refine aq 4 ?_;refine aq 6 ?_;refine uo 8 fun K p=>?_;go_simp;refine (dL _).mr fun x3 ao=>?_;have aX:=Z ((QA _ _).drew.t ao);have aZ:=Z (HR.gE aX);have df:=Z aX.size;clear ao z;have z:=aZ.s10;refine bq p.o (.inr z) ?_;clear p K;refine uk 9 ?_;refine uo 10 fun K p=>?_;go_simp;refine (bD _).m ?_;rintro e x4 ⟨rfl,rfl⟩;refine bq p.o (.inr z) ?_;clear p K;refine uo 11 fun K p=>?_;go_simp;refine bq p.o (.inr z) ?_;clear p K;refine rd ?_;clear z;go_wp2_with fail;refine Qq ?_;refine zg 14 (fun w'=>w'.c c.A (14+j)=some (.slice va n0 vc)/\w'.c wr.heap.size 3=Y d/\w'.c c.A 6=Y c.t.r/\w'.c C.heap.size 0=Y v) (by kernel_rfl) (aZ.s11 aF O) (fun z=>?_);refine aq 0 ?_;refine aq 2 ?_;refine aq 4 ?_;refine aq 6 ?_;refine uk 9 ?_;refine uo 8 fun K p=>?_;go_simp;refine (oN c.A c.t.r d P rg _ z.2.2.1 dm (by omega) (by omega) (by omega) ah aE dH).m ?_;rintro e x5 ⟨rfl,rfl⟩;refine bq p.o (.inr z) ?_;clear p K;refine uk 10 ?_;refine zb (i:=11) rfl (by kernel_rfl) (fun K p=>?_);go_simp;have M:=Z (aZ.gE ((QA _ _).drew.t (Qd x4.drew (Ib rg v 300))));refine bq p.o (.inr (M.s11 aF O)) ?_;clear p K z;refine zb (i:=12) rfl (by kernel_rfl) (fun K p=>?_);refine step_append_lies _ (by rfl) (.tmp 65) (.tmp 73) 180 (by rfl) c.w1.heap.size 300 i0 (.agg #[J 0,J 0]) 2 16 underlying180 hi cL cM cN rfl (by decide) _ n0 (VD l0) (by rfl) (cC _ M.inv) (E x4.heap.size 0) 1 1 [J rg,J v] (by rfl) rfl (uR _ _ _ _) (by intro u hu;simp at hu;rcases hu with rfl | rfl <;> rfl) (by decide) (by unfold maxLen;omega) (by omega) M.inv.keep.1 (x4.heap.size+1) (by simp) ?_;intro g cap w6 B y G hlt6;have Q:=M.grown aF O y;have bO:=Z B;have aI:=Z y;have bL:=Z G;clear B y G;refine bq p.o (.inr Q.1) ?_;clear p K;have z:=Q.1;have cw:=Q.1.1;have dT:=Q.2;refine uk 13 ?_;refine zb (i:=14) rfl (by kernel_rfl) (fun K p=>?_);go_simp;refine bq p.o (.inl rfl) ?_;clear p K;refine zj (by kernel_rfl) ?_ _;refine Qs ?_;clear Q z;go_wp2_with fail;go_roundw
    case rel =>
     have hA:(Value.slice va n0 vc).ownBlock=some g\/(x4.drew.alloc (Ib rg v 300)).heap.size<=g:=by
      rcases bL with e | e
      ·exact .inl e
      exact .inr (by simp;omega)
     have dh:=M.inv.push HJ O cS bE bO aI hA;refine⟨k+1,by omega,by go_num,_,by rw [cB];exact dh,?_,?_⟩
     ·rw [bF];exact ((cZ.gE aX).gE ((QA _ _).drew.t (Qd x4.drew (Ib rg v 300)))).setDue M.inv j aF (by omega) (by rw [O];exact aI) _ _
     have h1:=aI.o.size;have h2:=df.o;have h3:=de.o;simp at h1 h2 h3 ⊢;omega
    simp [intOf];omega
   have fs:(o == 4)=false:=QM.2 ho4;have bF:Hid (Xf c.t logs c.pc c.gD T f m (L.take (k+1))=l):=(by show _=_;rw [al,Qe (fun h=>ho4 h.2)]);clear al aQ ho4;go_wp2_with (go_at_call 105;refine (zN _ _ _ _).m ?_;rintro e w' ⟨rfl,rfl⟩);have az:=HQ.gE (Qd wr (Ij sl sg o d a b ar sp pl nn 79));refine (dx _ az).mr fun C H=>?_;have HR:=Z (show jq c V1 q.du f m wr.heap.size C.heap.size sl sg o d a b ar sp pl nn v (C.alloc (Ia v 2)) from ⟨(az.gE H).gE (Qd _ _),by rw [Qr _ _ _ (by have:=H.size;simp at this;omega),H.block _ (by simp)];exact yB _ _ _,yB _ _ _⟩);have bf:=Z ((cY.gE (Qd wr (Ij sl sg o d a b ar sp pl nn 79))).gE H);have de:Hid (wr.heap.size<=C.heap.size):=(by show _<=_;have:=H.size;simp at this;omega);have fc:=lZ (show C.heap[wr.heap.size]?=some (Ij sl sg o d a b ar sp pl nn 79) by rw [H.block _ (by simp)];exact yB _ _ _);obtain⟨-,-,fe,-,-,-,-,-,-,-⟩:=fc;have eu:wr.heap.size<C.heap.size:=(by have:=H.size;simp at this;omega);clear H az c0 c1 c2 c3 c4 c5 c6 c7 c8 c9 c13;go_wp2_with fail;refine Qq ?_;refine zg 99 (fun w'=>(w'.c c.A 0=Y c.t.u0/\w'.c c.A 1=Y c.t.u1/\w'.c c.A 2=Y c.t.u2/\w'.c c.A 3=Y c.t.w0/\w'.c c.A 4=Y c.t.w1/\w'.c c.A 5=Y c.t.w2/\w'.c c.A 6=Y c.t.r)/\w'.c wr.heap.size 2=Y o) (by kernel_rfl) HR.s10 (fun z=>?_);refine aq 0 ?_;refine aq 2 ?_;refine aq 4 ?_;refine aq 6 ?_;refine zb (i:=8) rfl (by kernel_rfl) (fun K p=>?_);go_simp;refine (dL _).m ?_;rintro e x3 ⟨rfl,ao⟩;have aX:=Z ((QA _ _).drew.t ao);have aZ:=Z (HR.gE aX);have df:=Z aX.size;clear ao z;have z:=aZ.s10;refine bq p.o (.inr z) ?_;clear p K;refine uk 9 ?_;refine zb (i:=10) rfl (by kernel_rfl) (fun K p=>?_);go_simp;refine (bD _).m ?_;rintro e x4 ⟨rfl,rfl⟩;refine bq p.o (.inr z) ?_;clear p K;refine zb (i:=11) rfl (by kernel_rfl) (fun K p=>?_);go_simp;refine bq p.o (.inr z) ?_;clear p K;refine zj (by kernel_rfl) ?_ _;refine Qs ?_;clear z;go_wp2_with fail;refine Qq ?_;refine zg 14 (fun w'=>w'.c c.A (14+j)=some (.slice va n0 vc)/\w'.cell? (E wr.heap.size 3)=Y d/\w'.cell? (E c.A 6)=Y c.t.r/\w'.cell? (E C.heap.size 0)=Y v) (by kernel_rfl) (aZ.s11 aF O) (fun z=>?_);refine aq 0 ?_;refine aq 2 ?_;refine aq 4 ?_;refine aq 6 ?_;refine uk 9 ?_;refine zb (i:=8) rfl (by kernel_rfl) (fun K p=>?_);go_simp;refine (oN c.A c.t.r d P rg _ z.2.2.1 dm (by omega) (by omega) (by omega) ah aE dH).m ?_;rintro e x5 ⟨rfl,rfl⟩;refine bq p.o (.inr z) ?_;clear p K;refine uk 10 ?_;refine zb (i:=11) rfl (by kernel_rfl) (fun K p=>?_);go_simp;have M:=Z (aZ.gE ((QA _ _).drew.t (Qd x4.drew (.cells #[J rg,J v] 300))));refine bq p.o (.inr (M.s11 aF O)) ?_;clear p K z;refine zb (i:=12) rfl (by kernel_rfl) (fun K p=>?_);refine step_append_lies _ (by rfl) (.tmp 65) (.tmp 73) 180 (by rfl) c.w1.heap.size 300 i0 (.agg #[J 0,J 0]) 2 16 underlying180 hi cL cM cN rfl (by decide) _ n0 (VD l0) (by rfl) (cC _ M.inv) (E x4.heap.size 0) 1 1 [J rg,J v] (by rfl) rfl (uR _ _ _ _) (by intro u hu;simp at hu;rcases hu with rfl | rfl <;> rfl) (by decide) (by unfold maxLen;omega) (by omega) M.inv.keep.1 (x4.heap.size+1) (by simp) ?_;intro g cap w6 B y G hlt6;have Q:=M.grown aF O y;have bO:=Z B;have aI:=Z y;have bL:=Z G;clear B y G;refine bq p.o (.inr Q.1) ?_;clear p K;have z:=Q.1;have cw:=Q.1.1;have dT:=Q.2;refine uk 13 ?_;refine zb (i:=14) rfl (by kernel_rfl) (fun K p=>?_);go_simp;refine bq p.o (.inl rfl) ?_;clear p K;refine zj (by kernel_rfl) ?_ _;refine Qs ?_;clear Q z;go_wp2_with fail;go_roundw
   case rel =>
    have hA:(Value.slice va n0 vc).ownBlock=some g\/(x4.drew.alloc (Ib rg v 300)).heap.size<=g:=by
     rcases bL with e | e
     ·exact .inl e
     exact .inr (by simp;omega)
    have dh:=M.inv.push HJ O cS bE bO aI hA;refine⟨k+1,by omega,by go_num,_,by rw [cB];exact dh,?_,?_⟩
    ·rw [bF];exact (((bf.gE (Qd _ _)).gE aX).gE ((QA _ _).drew.t (Qd x4.drew (Ib rg v 300)))).setDue M.inv j aF (by omega) (by rw [O.o];exact aI.o) _ _
    have h1:=aI.o.size;have h2:=df.o;have h3:=de.o;simp at h1 h2 h3 ⊢;omega
   simp [intOf];omega
 have e:k=L.length:=by omega
 subst e;rw [Wd] at hQ cF;have bZ:¬(L.length:Int)<(L.length:Int):=by omega
 have dF:=Z (G8 c.t logs c.pc c.gD T f m D L L.length (Qc _));rw [Wd] at dF;have eU:(Xf c.t logs c.pc c.gD T f m L).length<=16:=by grind [uS]
 generalize hqq:XZ c.t logs c.pc c.gD T f m ⟨m,D⟩ L=q at *
 generalize Xf c.t logs c.pc c.gD T f m L=l at *
 obtain⟨BF,WF,gI,bT⟩:=cF;obtain⟨sa,sc,rfl,cJ,cx⟩:=zD gI;unfold maxLen at cx;have HQ:=Z hQ;have gS:=Z gI;have aH:=Z bT;have eH:=Z hqq;clear hQ gI bT hqq;go_wp2_with fail;go_loopw [79] (fun i wr2=>∃N:Nat,N<=l.length/\i=J N/\yA c V1 q.du f (kQ l m N) wr2/\wr2.ownsRow w.heap.size 1 1 (.slice sa l.length sc) l.length ((List.range l.length).map fun i=>UI (BF i) (WF i))/\∀i,i<l.length->(w.heap.size<=BF i/\wr2.heap[BF i]?=some (.cells #[J (zU l i).v] 2 (0,0)))/\(w.heap.size<=WF i/\wr2.heap[WF i]?=some (.cells #[.pointer (some (E (c.GM (zU l i).i) ((zU l i).j)))] 284 (0,0)))/\(zU l i).i<c.n/\(zU l i).j<c.lenM (zU l i).i) (fun i _=>l.length - (intOf i).toNat)
 case atStart=>exact⟨0,Ql _,rfl,HQ,gS,aH⟩
 clear HQ gS aH;obtain⟨N,fo,rfl,ac,aj,ai⟩:=hrel;by_cases U:N<l.length
 ·have dp:(N:Int)<(l.length:Int):=by omega
  obtain⟨g,cap,bJ,-,-,-,dV⟩:=yC aj (.inr (by omega));injection bJ with e1 e2 e3;subst e1;subst e3;have dS:=dV.cell U;rw [YD _ _ _ U] at dS;obtain⟨⟨b1,b2⟩,⟨b3,b4⟩,b5,b6⟩:=ai N U;have eA:=Z (Fm _ _ _ _ _ _ ac b2 b4 b5 b6);have eG:=Z (ac.setMem _ _ (zU l N).v b5 b6);have dI:=Z (Uw.two aj ai ac (zU l N).i (zU l N).j b5 eq (J (zU l N).v));clear dV aj ai ac b1 b2 b3 b4 b5 b6;unfold UI at dS;go_wp2_with fail;refine eA.mr fun x rfl=>?_;go_wp2_with fail;go_roundw
  case rel=>exact⟨N+1,by omega,by go_num,eG,dI.1,dI.2⟩
  simp [intOf];omega
 have e:N=l.length:=by omega
 subst e;have dp:¬(l.length:Int)<(l.length:Int):=by omega
 have bP:=Z ac;clear ac aj ai;go_wp2;go_end0;refine⟨rfl,V1,?_⟩;rw [eH,dF];exact bP
section
def Tryz.i73:(prog.info? 73).map (fun i=>(i.zero,i.size,i.bytes))=some (some (.slice none 0 0),1,24):=kR
def Tryz.i79:(prog.info? 79).map (fun i=>(i.zero,i.size,i.bytes))=some (some (.agg #[J 0,J 0,J 0,J 0,J 0,J 0,J 0,J 0,J 0,J 0]),10,80):=kR
def YO (l:List bt):List vO:=l.flatMap fun x=>(yZ x).toList
theorem uU (l:List bt) (x:bt):YO l++(yZ x).toList=YO (l++[x]):=by unfold YO;simp
def uV (l:List bt):∀i j,i<l.length->j<10->(YO l)[i*10+j]?=(yZ (zv l i))[j]?:=by
 induction l with
 | nil=>intro i c h;exact absurd h (Qv _)
 | cons d l ih =>
  intro i j h b;show ((yZ d).toList++YO l)[i*10+j]?=_;have a:(yZ d).toList.length=10:=rfl;cases i with
  | zero =>rw [Wj lI,EY,QO,E6];rfl
  | succ i =>rw [Ww lI,a,show (i+1)*10+j - 10=i*10+j from lI,ih i j (by simpa using h) b];rfl
def Fv {w:wO} {v:vO} {l:List bt} (h:w.ownsRow base 79 10 v l.length (YO l)):Y5 w v l:=by
 obtain⟨k,h⟩:=h;rcases h with ⟨rfl,hn⟩ | ⟨g,cap,a,rfl,f,hb,hn,hm,d,c⟩
 ·exact⟨none,0,by rw [hn],lI,Ql _,fun m=>lI⟩
 refine⟨_,cap,rfl,hn,hm,fun _=>⟨g,0,rfl,(lo hb),fun i hi j b=>?_⟩⟩;rw [Qa hb,<-uV l i j hi b,<-c,We,Qf lI,QO];simp
structure Uv (w:wO) (PC:Nat) (U:Nat->vO) (l:List bt) (wr:wO):Prop where
 bel:Bw w wr
 o:zr wr w.heap.size 73 PC U
 rows:∀s:Nat,s<PC->wr.ownsRow w.heap.size 79 10 (U s) (yH l s).length (YO (yH l s))
 inj:∀i j:Nat,i<PC->j<PC->i≠j->∀g,(U i).ownBlock=some g->some g≠(U j).ownBlock
variable {w wr x:wO} {PC:Nat} {U:Nat->vO} {l:List bt}
def Uv.gE (h:Uv w PC U l wr) (hb:Bw wr x):Uv w PC U l x where
 bel:=h.bel.tm hb
 o:=h.o.gE hb h.o.lt
 rows:=fun s hs=>yJ (h.rows s hs) fun g a=>hb.block g (zA (h.rows s hs) g a)
 inj:=h.inj
def Uv.push {s:Nat} {f:bt} {t:List bt} (h:Uv w PC U l wr) (hs:s<PC) (y:f.sl=(s:Int)) (u:∀q:Int,yH t q=if f.sl=q then yH l q++[f] else yH l q) (hn:(yH l s).length=n0)
  (A:w6.ownsRow w.heap.size 79 10 (.slice (pA g) (n0+1) cap) (n0+1) (YO (yH l s)++(yZ f).toList)) (o:wr.grownBy w6 (U s).ownBlock) (n:(U s).ownBlock=some g\/wr.heap.size<=g) :
  Uv w PC (fun i=>if i=s then .slice (pA g) (n0+1) cap else U i) t (w6.setCell (E w.heap.size s) (.slice (pA g) (n0+1) cap)):=by
 have x:∀k,(U s).ownBlock=some k->w.z<=k:=fun k e=>zE (h.rows s hs) k e;have z:some w.z≠(U s).ownBlock:=Ui (h.rows s hs) h.o tQ;have v:zr w6 w.z 73 PC U:=h.o.gG (o.block _ h.o.lt z);have B:g≠w.z:=by
  intro e;rcases n with c | c
  ·simp_all
  have:=h.o.lt;lia
 have b:yH t (s:Int)=yH l (s:Int)++[f]:=by rw [u,Qf y]
 refine { bel:=(h.bel.grown o h.bel.size x).setCell (by exact Qc _) _,o:=?_,rows:=?_,inj:=?_ }
 ·refine (v.set s _ hs).congr fun i hi=>rfl
 ·intro i hi;by_cases e:i=s
  ·subst e;simp only [if_true];rw [b,<-uU,Qt,hn];exact yJ A fun q a=>Qj _ _ _ _ (by have j:g=q:=(by simpa [Value.ownBlock] using a);show q≠w.z;lia)
  simp only [Qe e];rw [u,Qe lI];have h1:=yJ (h.rows i hi) fun q a=>o.block q (zA (h.rows i hi) q a) (h.inj i s hi hs e q a);exact yJ h1 fun q a=>Qj _ _ _ _ (by grind [Ui])
 intro i k hi r p q a;by_cases b:i=s
 ·by_cases c:k=s
  ·lia
  simp only [Qf b] at a;simp only [Qe c];have j:g=q:=by simpa [Value.ownBlock] using a
  subst j;intro m;rcases n with d | d
  ·exact h.inj s k hs r lI g d m
  have:=zA (h.rows k r) g m.s;lia
 by_cases c:k=s
 ·simp only [Qe b] at a;simp only [Qf c];intro m;have j:q=g:=by simpa [Value.ownBlock] using m
  subst j;rcases n with d | d
  ·exact h.inj i s hi hs b q a d.s
  have:=zA (h.rows i hi) q a;lia
 simp only [Qe b] at a;simp only [Qe c];exact h.inj i k hi r p q a
def Uv.held {s:Nat} {sg o d a b ar sp pl nn:Int} {X:Nat} (h:Uv w PC U l x) (hs:s<PC) (hX:x.heap[X]?=some (.cells #[J (s:Int),J sg,J o,J d,J a,J b,J ar,J sp,J pl,J nn] 79 (0,0))) (hU:U s=.slice ua n0 uc):(x.cell? (E X 0)=Y (s:Int)/\x.cell? (E X 1)=Y sg/\x.cell? (E X 2)=Y o/\x.cell? (E X 3)=Y d/\x.cell? (E X 4)=Y a/\x.cell? (E X 5)=Y b/\x.cell? (E X 6)=Y ar/\x.cell? (E X 7)=Y sp/\x.cell? (E X 8)=Y pl/\x.cell? (E X 9)=Y nn)/\x.cell? (E w.heap.size s)=some (.slice ua n0 uc) :=
 ⟨lZ hX,by rw [h.o.cell hs,hU]⟩
def Uv.grown {s:Nat} {sg o d a b ar sp pl nn:Int} {X:Nat} (h:Uv w PC U l x) (hs:s<PC) (hX:x.heap[X]?=some (.cells #[J (s:Int),J sg,J o,J d,J a,J b,J ar,J sp,J pl,J nn] 79 (0,0))) (j:some X≠(Value.slice ua n0 uc).ownBlock) (hU:U s=.slice ua n0 uc) (c:x.grownBy w6 (Value.slice ua n0 uc).ownBlock):((w6.cell? (E X 0)=Y (s:Int)/\w6.cell? (E X 1)=Y sg/\w6.cell? (E X 2)=Y o/\w6.cell? (E X 3)=Y d/\w6.cell? (E X 4)=Y a/\w6.cell? (E X 5)=Y b/\w6.cell? (E X 6)=Y ar/\w6.cell? (E X 7)=Y sp/\w6.cell? (E X 8)=Y pl/\w6.cell? (E X 9)=Y nn)/\w6.cell? (E w.heap.size s)=some (.slice ua n0 uc))/\w6.frozen? (E w.heap.size s)=false:=by
 have g:some w.z≠(Value.slice ua n0 uc).ownBlock:=hU ▸ Ui (h.rows s hs) h.o tQ
 have f:zr w6 w.z 73 PC U:=h.o.gG (c.block _ h.o.lt g);have i:w6.heap[X]?=some (Ij (s:Int) sg o d a b ar sp pl nn 79):=by rw [c.block X (lo hX) j];exact hX
 exact⟨⟨lZ i,by grind [zr.cell]⟩,f.frozen s⟩
def Fw (w:wO) (x:bt) (hB:w.heap.size=B):∀(j:Nat) (u:vO),(yZ x).toList[j]?=some u->(w.alloc (.cells (yZ x) 79)).cell? (((E B 0):Addr).add j)=some u:=by
 subst hB;intro j u b;have a:((E w.z 0):Addr).add j=(E w.z j):=by simp [Addr.add];lia
 simp_all
def Fx {x:bt} (h:u∈(yZ x).toList):u.oneCell':=by unfold yZ at h;simp at h;rcases h with rfl | rfl | rfl | rfl | rfl | rfl | rfl | rfl | rfl | rfl <;> rfl
def Fy (A PC:Nat) (ka:Option Addr) (kc:Nat) (ops:List bt) (w:wO) (fN:w.cell? (E A 7)=Y PC) (fO:w.cell? (E A 9)=some (.slice ka ops.length kc)) (aL:A<w.heap.size) (l:Y5 w (.slice ka ops.length kc) ops) (fH:ops.length<=16) (hPC:PC<=200) (T:∀x∈ops,0<=x.sl/\x.sl<(PC:Int)) :
  Cp 166 #[.pointer (pA A)] w fun e w'=>e=.returned (.slice (pA w.heap.size) PC PC)/\∃U,Uv w PC U ops w':=by
 obtain⟨ka',kc',fm,fo,fp,dW⟩:=l;injection fm with e1 e2 e3;subst e1;subst e3;unfold maxLen at fp;obtain⟨i0,hi,cL,cM,cN⟩:=info_parts Tryz.i79;have eC:=Z dW;have aK:=Z T
 have Q:Hid (Uv w PC (fun _=>sN) [] (w.alloc (.cells (madeCells #[sN] PC) 73))) :=
  ⟨Qd _ _,zr.zeros w _ PC _,fun s hs=>World.ownsRow_nil _ _ _ _,fun i j _ _ _ g h=>by cases h⟩
 have fV:=run_make_row' (P:=prog) 235 73 sN 24 underlying235 Tryz.i73 rfl .i64 .i64 PC oM oM;clear dW T e2;go_enter func166,ntmps166;go_wp2;go_loopw [18] (fun i wr=>∃k:Nat,k<=ops.length/\i=J k/\∃U,Uv w PC U (ops.take k) wr) (fun i _=>ops.length - (intOf i).toNat)
 case atStart=>exact⟨0,Ql _,rfl,_,Q⟩
 clear Q;obtain⟨k,hk,rfl,U,m⟩:=hrel;by_cases p:k<ops.length
 ·have bZ:(k:Int)<(ops.length:Int):=oM
  obtain⟨ob,oo,rfl,ek,S⟩:=eC oM;obtain⟨z,B,C,D,F,G,H,I,L,M⟩:=jP (S k p);rw [<-ze m.bel _ _ ek] at z B C D F G H I L M;have ft:ob<wr.heap.size:=by have:=m.bel.size;omega
  have bY:=m.o.lt;obtain⟨s0,s1⟩:=aK _ (nV p);have W:=Z (fun q=>G5 ops k q p);have r:=Z m;clear S m;obtain⟨xk,er⟩:=nm (zv ops k);rw [er] at z B C D F G H I L M s0 s1 W;clear er;obtain⟨sl,sg,o,d,a,b,ar,sp,pl,nn⟩:=xk;simp only at z B C D F G H I L M s0 s1;obtain⟨s,rfl⟩:∃s:Nat,sl=(s:Int):=⟨sl.toNat,oM⟩;have hs:s<PC:=oM
  have gd:(s:Int)<(PC:Int):=oM
  obtain⟨n0,N⟩:=nm ((yH (ops.take k) s).length);have ef:n0<=16:=by grind [yH]
  have bE:=Z N;obtain⟨ua,uc,hU,-,-⟩:=zD (r.rows s hs);rw [N] at hU;have t:=Z hU;have cC:Hid (∀x,Uv w PC U (ops.take k) x->x.ownsRow w.heap.size 79 10 (.slice ua n0 uc) n0 (YO (yH (ops.take k) s))):=fun x h=>by have h2:=h.rows s hs;grind
  have cO:Hid (∀g,wr.heap.size<=g->some g≠(Value.slice ua n0 uc).ownBlock):=fun g hg e=>by have h2:=zA (r.rows s hs) g rQ;omega
  have R:=Z (r.gE (Qd wr (Ij (s:Int) sg o d a b ar sp pl nn 79)));have V:Hid ((wr.alloc (Ij (s:Int) sg o d a b ar sp pl nn 79)).heap[wr.heap.size]?=some (Ij (s:Int) sg o d a b ar sp pl nn 79)):=yB _ _ _;clear N hU;go_wp2;clear z B C D F G H I L M;refine rg 12 (fun w'=>(w'.c wr.heap.size 0=Y (s:Int)/\w'.c wr.heap.size 1=Y sg/\w'.c wr.heap.size 2=Y o/\w'.c wr.heap.size 3=Y d/\w'.c wr.heap.size 4=Y a/\w'.c wr.heap.size 5=Y b/\w'.c wr.heap.size 6=Y ar/\w'.c wr.heap.size 7=Y sp/\w'.c wr.heap.size 8=Y pl/\w'.c wr.heap.size 9=Y nn)/\w'.c w.heap.size s=some (.slice ua n0 uc)) (R.held hs V t) fun O=>?_;refine aq 0 ?_;refine aq 2 ?_;refine aq 4 ?_;refine aq 6 ?_;refine uk 8 ?_;refine uo 9 fun K l=>?_;go_simp;have v:=Z (R.gE ((QA _ _).drew.t (Qd (wr.alloc (Ij (s:Int) sg o d a b ar sp pl nn 79)).drew (Ij (s:Int) sg o d a b ar sp pl nn 79))));have X:Hid (((wr.alloc (Ij (s:Int) sg o d a b ar sp pl nn 79)).drew.alloc (Ij (s:Int) sg o d a b ar sp pl nn 79)).heap[wr.heap.size]?=some (Ij (s:Int) sg o d a b ar sp pl nn 79)):=by show _=_;rw [Qr _ _ _ sM];exact V
  refine bq l.o (.inr (v.held hs X t)) ?_;clear l K O;refine uo 10 fun K l=>?_;refine step_append_lies _ rfl (.tmp 29) (.tmp 31) 73 rfl w.heap.size 79 i0 (.agg #[J 0,J 0,J 0,J 0,J 0,J 0,J 0,J 0,J 0,J 0]) 10 80 underlying73 hi cL cM cN rfl tQ _ n0 (YO (yH (ops.take k) s)) rfl (cC _ v) (E (wr.heap.size+1) 0) 1 1 (yZ ⟨(s:Int),sg,o,d,a,b,ar,sp,pl,nn⟩).toList rfl rfl (Fw _ _ sM) (by intro u hu;exact Fx hu) tQ mL oM v.bel.size (wr.heap.size+1+1) sM ?_;intro g cap w6 f c n hlt6;have y:=v.grown hs X (cO _ (Qc _)) t c;have bO:=Z f;have aI:=Z c;have bL:=Z n;clear f c n;refine bq l.o (.inr y.1) ?_;clear l K;have O:=y.1;have cw:=y.1.2;have dT:=y.2;refine uk 11 ?_;refine uo 12 fun K l=>?_;go_simp;refine bq l.o (.inl rfl) ?_;clear l K;refine rd ?_;clear y O;go_wp2;go_roundw
  case rel =>
   refine⟨k+1,oM,nQ,_,v.push hs rfl W.o bE bO (by rw [t];exact aI) ?_⟩;rw [t];rcases bL with e | e
   ·exact .inl e
   exact .inr sO
  simp [intOf];omega
 have e:k=ops.length:=oM
 subst e;rw [Wd] at m;have bZ:¬(ops.length:Int)<(ops.length:Int):=oM
 have r:=Z m;clear m;go_wp2;go_ret;exact⟨rfl,U,r⟩
end
section
def Fz {K:Kn} {logs:Li} {now:Int} {f:Nat->Int} {m:Nat->Nat->Int} {q:Nx} (a:zS t) {p:Du->Prop} (c:∀d∈q.du,p d) (i:∀d:Du,now+1<=d.at_->d.at_<=now+6->0<=d.rg->d.rg<t.r->p d):∀k,∀d∈(VJ t K logs gD now f m q k).du,p d:=by
 intro k;induction k with
 | zero=>exact c
 | succ k ih =>
  show ∀d∈(jk t logs K.pc gD now f m (VJ t K logs gD now f m q k) (zv K.ops k)).du,p d;unfold jk;split
  ·intro d b;rcases QK.1 b with h | h
   ·exact ih d h
   have e:d=_:=QT.1 h;obtain⟨wt,w1,w2,j,-⟩:=uQ a (zv K.ops k).o;have hr:=(yi a).2.2.2.1;have h1:=QS ((zv K.ops k).d+now / K.pc) (by lia:t.r≠0);have g:=QP ((zv K.ops k).d+now / K.pc) (by lia:0<t.r);grind
  exact ih
def uW {K:Kn} {logs:Li} {s:i'} (f:zS t) (h0:s.due=[]):∀n:Nat,∀d∈(ym t K logs gD s n).due,((n:Int)<=d.at_/\d.at_<=n+5)/\d.at_<=VH K gD+5/\0<=d.rg/\d.rg<t.r:=by
 intro n;induction n with
 | zero=>intro d a;rw [show ym t K logs gD s 0=s from rfl,h0] at a;cases a
 | succ n ih =>
  have j:lJ n (ym t K logs gD s n).due:=fun d a=>(ih d a).1;have b:∀d∈xx n (ym t K logs gD s n).due (ym t K logs gD s n).due.length,(((n+1:Nat):Int)<=d.at_/\d.at_<=(n+1:Nat)+5)/\d.at_<=VH K gD+5/\0<=d.rg/\d.rg<t.r:=fun d a=>by have h1:=GZ j d a;have g:=wc (p:=fun d=>d.at_<=VH K gD+5/\0<=d.rg/\d.rg<t.r) (now:=n) (fun d a=>(ih d a).2) _ (Qc _) d a;lia
  show ∀d∈(kE t K logs gD n (ym t K logs gD s n)).due,_;unfold kE;by_cases c:VH K gD<=n
  ·rw [Qf c];exact b
  rw [Qe c];exact Fz (q:=⟨_,_⟩) f b (fun d h1 g h i=>⟨lI,lI,h,i⟩) _
def FA {K:Kn} {logs:Li} {s:i'} (c:¬VH K gD<=n) (a:Nat->Int) (b:ZA n (ym t K logs gD s n).due (ym t K logs gD s n).f (ym t K logs gD s n).due.length=a) :
  ym t K logs gD s (n+1)=⟨a,(XZ t logs K.pc gD n a (ym t K logs gD s n).m ⟨(ym t K logs gD s n).m,xx n (ym t K logs gD s n).due (ym t K logs gD s n).due.length⟩ (yH K.ops (n % K.pc))).nx,
   (XZ t logs K.pc gD n a (ym t K logs gD s n).m ⟨(ym t K logs gD s n).m,xx n (ym t K logs gD s n).due (ym t K logs gD s n).due.length⟩ (yH K.ops (n % K.pc))).du⟩:=by grind [ym,kE,G4]
def uX {K:Kn} {logs:Li} {s:i'} (a:VH K gD<=n) :
  ym t K logs gD s (n+1)=⟨ZA n (ym t K logs gD s n).due (ym t K logs gD s n).f (ym t K logs gD s n).due.length,(ym t K logs gD s n).m,xx n (ym t K logs gD s n).due (ym t K logs gD s n).due.length⟩:=by grind [ym,kE]
def FB {K:Kn} {logs:Li} {s:i'} {L:Nat} (b:zS t) (h0:s.due=[]) (c:VH K gD=(L:Int)):ym t K logs gD s (L+7)=ym t K logs gD s (L+6):=by
 have a:(ym t K logs gD s (L+6)).due=[]:=by
  cases h:(ym t K logs gD s (L+6)).due with
  | nil=>rfl
  | cons d r =>have:=uW (logs:=logs) (K:=K) (gD:=gD) b h0 (L+6) d (by rw [h];exact QY);lia
 rw [uX (n:=L+6) lI];rw [a];generalize f:ym t K logs gD s (L+6)=x at *
 obtain⟨i,j,g⟩:=x;simp only at a;subst a;rfl
structure lF (c:Mc) (logs:Li) (gm cm:Nat) (CM:Nat->Nat) (K:Kn) (PC N:Nat) (U:Nat->vO):Prop where
 hS:∀x,Yy c x->lY c logs gm cm CM x
 hU:∀x,Yy c x->∀q:Nat,q<PC->Y5 x (U q) (yH K.ops q)
 hn:c.n=logs.length
 hlen:∀i,i<c.n->c.lenM i=2 ^ (ak logs i).toNat/\c.lenM i<=32
 hR:(c.R:Int)=c.t.r
 hmay:X7 c.t K logs
 hpc:K.pc=c.pc
 hPC:c.pc=(PC:Int)
 hN:c.gD+K.st - 1=(N:Int)
 ht1:1<=c.gD
 ht2:c.gD<=200
 hNP:N*PC<=30000
variable {c:Mc} {logs:Li} {gm cm:Nat} {CM:Nat->Nat} {K:Kn} {PC N:Nat} {U:Nat->vO} {s:i'}
theorem lF.last (h:lF c logs gm cm CM K PC N U):VH K c.gD=((N*PC:Nat):Int):=by unfold VH;rw [h.hN,h.hpc,h.hPC,ES]
def uY {x:bt} (hmay:X7 t K logs) (hn:n=logs.length) (a:x∈K.ops):ru t.r n x/\0<=x.sl/\x.sl<K.pc:=by
 obtain⟨i,hi,rfl⟩:=Wl.1 a;obtain⟨-,-,-,f,g,-,-,hall⟩:=Zo hmay;have h:=hall i hi;have e:zv K.ops i=K.ops[i]:=by grind [zv]
 rw [e] at h;obtain⟨p1,p2,b,c,d,-,j⟩:=tw h;refine⟨⟨b,c,d,lI,?_⟩,p1⟩;grind
def uZ {V:Nat->vO} (h:lF c logs gm cm CM K PC N U) (h0:s.due=[]) (T:Nat) (hT:T<=30010) (i:yA c V (ym c.t K logs c.gD s T).due (ym c.t K logs c.gD s T).f (ym c.t K logs c.gD s T).m W) :
  Cp 167 #[.pointer (pA c.A),J T] W fun e w'=>e=.returned (.tuple #[])/\∃g,yA c g (xx T (ym c.t K logs c.gD s T).due (ym c.t K logs c.gD s T).due.length) (ZA T (ym c.t K logs c.gD s T).due (ym c.t K logs c.gD s T).f (ym c.t K logs c.gD s T).due.length) (ym c.t K logs c.gD s T).m w':=by have b:=uW (K:=K) (logs:=logs) (gD:=c.gD) (s:=s) (Zo h.hmay).1 h0 T;exact Fj T W i (fun d a=>(b d a).1) (fun d a=>by have:=b d a;rw [h.hR];exact this.2.2) lI
def FC {V:Nat->vO} (h:lF c logs gm cm CM K PC N U) (h0:s.due=[]) (p q T:Nat) (C:p<N) (d:q<PC) (hT:T=p*PC+q)
  (l:yA c V (xx T (ym c.t K logs c.gD s T).due (ym c.t K logs c.gD s T).due.length) (ZA T (ym c.t K logs c.gD s T).due (ym c.t K logs c.gD s T).f (ym c.t K logs c.gD s T).due.length) (ym c.t K logs c.gD s T).m W) :
  Cp 168 #[.pointer (pA c.A),U q,J p,J T] W fun e w'=>e=.returned (.tuple #[])/\∃g,yA c g (ym c.t K logs c.gD s (T+1)).due (ym c.t K logs c.gD s (T+1)).f (ym c.t K logs c.gD s (T+1)).m w':=by
 obtain⟨r,G,D,F,H,I,i,-⟩:=Zo h.hmay;have O:K.pc=(PC:Int):=h.hpc.t h.hPC;have M:T<N*PC:=by
  have h1:p*PC+PC<=N*PC:=by rw [<-Eo];exact EI _ C
  lia
 have v:T<=30000:=by have:=h.hNP;lia
 have k:(T:Int) % c.pc=(q:Int):=by rw [h.hPC,hT,<-Int.natCast_emod];congr 1;rw [qR,qq];exact qG d
 have y:(T:Int) / c.pc=(p:Int):=by rw [h.hPC,hT,<-Int.natCast_ediv];congr 1;rw [qR,qV _ _ lI,Nat.div_eq_of_lt d,QO]
 have u:(yH K.ops (q:Int)).length<=16:=QH (Ek _ _) i;have z:(xx T (ym c.t K logs c.gD s T).due (ym c.t K logs c.gD s T).due.length).length<=900000:=by have h1:=v7 T (ym c.t K logs c.gD s T).due (ym c.t K logs c.gD s T).due.length;have b:=Gx c.t K logs c.gD s T;rw [h0] at b;have P:T*K.ops.length<=30000*16:=Nat.mul_le_mul v i;simp at b;lia
 have hU:=h.hU W l.keep q d;obtain⟨n,o,j,-,-,-⟩:=hU;have B:∀x,Yy c x->Y5 x (.slice n (yH K.ops (q:Int)).length o) (yH K.ops (q:Int)):=fun x a=>j ▸ h.hU x a q d;have L:N<=1300:=by have:=h.hN;have:=h.ht2;lia
 have key:=Fu W logs gm cm CM n o (yH K.ops (q:Int)) p T l h.hS B h.hn h.hlen h.hR r (fun x a=>(uY h.hmay h.hn (wx a).1).1) (fun x a=>by rw [k];exact (wx a).2) y lI lI h.ht1 h.ht2 z u;rw [j];refine key.m fun e w' ⟨h1,g,b⟩=>⟨h1,g,?_⟩;rw [FA (by grind [lF.last]) _ rfl,h.hpc,k];exact b
def FD {V:Nat->vO} (h:lF c logs gm cm CM K PC N U) (h0:s.due=[]) (T:Nat) (hT:T<=30010) (d:N*PC<=T) (b:yA c V (ym c.t K logs c.gD s T).due (ym c.t K logs c.gD s T).f (ym c.t K logs c.gD s T).m W) :
  Cp 167 #[.pointer (pA c.A),J T] W fun e w'=>e=.returned (.tuple #[])/\∃a,yA c a (ym c.t K logs c.gD s (T+1)).due (ym c.t K logs c.gD s (T+1)).f (ym c.t K logs c.gD s (T+1)).m w':=by rw [uX (n:=T) (by grind [lF.last])];exact uZ h h0 T hT b
def Mc.at (c:Mc) (x:wO):Mc:={ c with w1:=x }
def u7 {x:wO} (hb:Below c.w1.heap.size c.w1 x) (h:Yy (c.at x) y):Yy c y :=
 ⟨QH hb.size h.1,fun g h1 a b d=>by
  have e:y.heap[g]?=x.heap[g]?:=h.2 g (Qu h1 hb.size) a b d
  rw [e,hb.block g h1]⟩
def yA.at {f:Nat->Int} {m:Nat->Nat->Int} {x:wO} (h:yA c (fun _=>.slice none 0 0) [] f m c.w1) (hb:Below c.w1.heap.size c.w1 x):yA (c.at x) (fun _=>.slice none 0 0) [] f m x where
 bel:=h.bel.t (hb.m h.w01)
 keep:=⟨Qc _,fun _ _ _ _ _=>rfl⟩
 hA:=by show x.heap[c.A]?=_;rw [hb.block _ h.hA1.2];exact h.hA
 hA1:=⟨h.hA1.1,Qu h.hA1.2 hb.size⟩
 regs:=h.regs.gE hb h.hr.2.1
 hr:=⟨h.hr.1,Qu h.hr.2.1 hb.size,h.hr.2.2⟩
 min:=fun i hi=>⟨(h.min i hi).1,Qu (h.min i hi).2.1 hb.size,(h.min i hi).2.2.gE hb (h.min i hi).2.1⟩
 minj:=h.minj
 rM:=h.rM
 due:=fun j b=>World.ownsRow_nil _ _ _ _
 dinj:=fun i j _ _ _ g a=>by cases a
 w01:=QH h.w01 hb.size
def u9 {x:wO} {f:Nat->Int} {m:Nat->Nat->Int} (b:yA c (fun _=>.slice none 0 0) [] f m c.w1) (h:Uv c.w1 PC U K.ops x) (l:Yy (c.at x) y):zr y c.w1.heap.size 73 PC U/\∀q:Nat,q<PC->Y5 y (U q) (yH K.ops q):=by have a:∀g,c.w1.z<=g->g<x.z->y.heap[g]?=x.heap[g]?:=fun g h1 k=>l.2 g k (by show g≠c.A;have:=b.hA1.2;lia) (by show g≠c.gr;have:=b.hr.2.1;lia) (fun i hi=>by show g≠c.GM i;have:=(b.min i hi).2.1;lia);exact⟨h.o.gG (a _ (Qc _) h.o.lt),fun q d=>Fv (yJ (h.rows q d) fun g j=>a g (zE (h.rows q d) g j) (zA (h.rows q d) g j))⟩
end
def FF {p N PC:Nat} (h:p<=N):p*PC<=N*PC:=EI _ h
def FG (c:Mc) (logs:Li) (gm cm:Nat) (CM:Nat->Nat) (K:Kn) (ka:Option Addr) (kc PC ST N:Nat) (f:Nat->Int) (m:Nat->Nat->Int)
  (G:yA c (fun _=>.slice none 0 0) [] f m c.w1) (hS:∀x,Yy c x->lY c logs gm cm CM x) (dX:c.kv=.slice ka K.ops.length kc) (hO:Y5 c.w1 (.slice ka K.ops.length kc) K.ops)
  (hn:c.n=logs.length) (hlen:∀i,i<c.n->c.lenM i=2 ^ (ak logs i).toNat/\c.lenM i<=32) (hR:(c.R:Int)=c.t.r) (hmay:X7 c.t K logs) (hpc:K.pc=c.pc) (hPC:c.pc=(PC:Int)) (fC:K.st=c.st) (eT:c.st=(ST:Int))
  (hN:c.gD+K.st - 1=(N:Int)) (ht1:1<=c.gD) (ht2:c.gD<=200) (hNP:N*PC<=30000) :
  Cp 107 #[.pointer (pA c.A)] c.w1 fun e w'=>e=.returned (.tuple #[])/\∃x V,Below c.w1.heap.size c.w1 x/\yA (c.at x) V (ym c.t K logs c.gD ⟨f,m,[]⟩ (N*PC+6)).due (ym c.t K logs c.gD ⟨f,m,[]⟩ (N*PC+6)).f (ym c.t K logs c.gD ⟨f,m,[]⟩ (N*PC+6)).m w':=by
 obtain⟨ay,cu,aG,cJ,cx,dr,aU,-⟩:=Zo hmay;obtain⟨-,⟨c7,c8,c9,-,-,-,k⟩,-⟩:=G.cells;rw [hPC] at c7;rw [dX] at c9;have S:=G.A_lt;have Q:=Z (Fy c.A PC ka kc K.ops c.w1 c7 c9 S hO aU oM (fun x hx=>by have:=(uY hmay hn hx).2;omega));have L:=Z G;have HS:=Z hS;have ey:Hid (∀x U,Uv c.w1 PC U K.ops x->lF (c.at x) logs gm cm CM K PC N U):=fun x U h =>
  { hS:=fun y hy=>HS y (u7 h.bel hy),hU:=fun y hy=>(u9 L h hy).2,hn:=hn,hlen:=hlen,hR:=hR,hmay:=hmay,hpc:=hpc,hPC:=hPC,hN:=hN,ht1:=ht1,ht2:=ht2,hNP:=hNP }
 have eP:N<=1300:=oM
 have eR:1<=PC:=oM
 have eS:PC<=200:=oM
 have eQ:c.gD+c.st - 1=(N:Int):=oM
 have fD:1<=c.st:=oM
 have fE:c.st<=1001:=oM
 clear G hS hO hmay hlen dX c7 c9 hpc hPC hN fC eT cJ cx cu aG;obtain⟨W,hW⟩:=nm c.w1;rw [hW] at c8 k S Q ⊢;have D:=Z hW;clear hW;go_enter func107,ntmps107;go_wp2_with fail;apply Q.m;rintro e b ⟨rfl,U,F⟩;have dR:=ze F.bel;rw [<-dR _ _ S] at c8 k;have eN:c.A<b.heap.size:=by have:=F.bel.size;omega
 have u:Hid (Uv c.w1 PC U K.ops b):=by show Uv _ _ _ _ _;rw [D];exact F
 have C:=Z (ey b U u);have dC:Hid (yA (c.at b) (fun _=>sN) [] f m b):=L.at u.bel;have dE:=Z (fun y (hk:Yy (c.at b) y)=>(u9 L u hk).1);clear F dR Q;go_wp2;go_big_quiet ((fail));go_wp2;have dD:Hid (yA (c.at b) (fun _=>sN) [] f m (b.drewN nq)):=dC.gE (Qm _ _ _);clear dC;clear eQ;go_loopw [3,20] (fun v i wr=>∃p T:Nat,p<=N/\i=J p/\v=J T/\T=p*PC/\∃V,yA (c.at b) V (ym c.t K logs c.gD ⟨f,m,[]⟩ T).due (ym c.t K logs c.gD ⟨f,m,[]⟩ T).f (ym c.t K logs c.gD ⟨f,m,[]⟩ T).m wr) (fun _ i _=>N - (intOf i).toNat)
 case atStart=>exact⟨0,0,Ql _,rfl,rfl,sM,_,dD⟩
 clear dD c8 k;obtain⟨p,T,hp,rfl,rfl,hT,V1,H⟩:=hrel;by_cases B:p<N
 ·have fx:(p:Int)<(N:Int):=oM
  have s:=Z hT;have di:T<=30000:=by have:=FF (PC:=PC) hp;omega
  have o:=Z H;clear hT H;rename wO=>wo;go_wp2_with fail;go_loopw [3,25] (fun v i wr=>∃q a:Nat,q<=PC/\i=J q/\v=J a/\a=T+q/\∃V,yA (c.at b) V (ym c.t K logs c.gD ⟨f,m,[]⟩ a).due (ym c.t K logs c.gD ⟨f,m,[]⟩ a).f (ym c.t K logs c.gD ⟨f,m,[]⟩ a).m wr) (fun _ i _=>PC - (intOf i).toNat)
  case atStart=>exact⟨0,T,Ql _,rfl,rfl,rfl,_,o⟩
  clear o;obtain⟨q,a,hq,rfl,rfl,g,M,d⟩:=hrel;by_cases l:q<PC
  ·have fy:(q:Int)<(PC:Int):=(by omega);have bR:a<=30000:=(by have h1:p*PC+PC<=N*PC:=(by rw [<-Eo];exact EI _ B);have:=s.o;omega);have gI:=(dE wr d.keep).cell l;rw [D] at gI;have bY:W.z<wr.z:=(by have:=(dE wr d.keep).lt;rw [D] at this;exact this);have P:=Z (uZ C rfl a oM d)
   have dy:Hid (∀V X,yA (c.at b) V (xx a (ym c.t K logs c.gD ⟨f,m,[]⟩ a).due (ym c.t K logs c.gD ⟨f,m,[]⟩ a).due.length) (ZA a (ym c.t K logs c.gD ⟨f,m,[]⟩ a).due (ym c.t K logs c.gD ⟨f,m,[]⟩ a).f (ym c.t K logs c.gD ⟨f,m,[]⟩ a).due.length) (ym c.t K logs c.gD ⟨f,m,[]⟩ a).m X ->
    Cp 168 #[.pointer (pA c.A),U q,J p,J a] X fun e w'=>e=.returned (.tuple #[])/\∃V',yA (c.at b) V' (ym c.t K logs c.gD ⟨f,m,[]⟩ (a+1)).due (ym c.t K logs c.gD ⟨f,m,[]⟩ (a+1)).f (ym c.t K logs c.gD ⟨f,m,[]⟩ (a+1)).m w'):=fun V X h=>FC C rfl p q a B l (by rw [g,s]) h
   have j:=Z g;obtain⟨oa,oc,bz,-,-,-⟩:=C.hU wr d.keep q l;rw [bz] at gI dy;generalize (yH K.ops (q:Int)).length=ol at *
   clear d g bz;go_wp2_with fail;apply P.m;rintro e x2 ⟨rfl,O,z⟩;have I:=Z z;clear z gI bY;go_wp2_with fail;apply (dy O _ I).m;rintro e x3 ⟨rfl,V4,h4⟩;have H4:=Z h4;clear h4;go_wp2;go_roundw
   case rel=>exact⟨q+1,a+1,oM,nQ,nQ,by have:=j.o;omega,V4,H4⟩
   simp [intOf];omega
  have e:q=PC:=oM
  subst e;have fy:¬(q:Int)<(q:Int):=oM
  have bP:=Z d;have j:=Z g;clear d g;go_wp2_with fail;go_roundw
  case rel=>exact⟨p+1,a,oM,nQ,rfl,by rw [j,s,Eo],M,bP⟩
  simp [intOf];omega
 have e:p=N:=oM
 subst e;have fx:¬(p:Int)<(p:Int):=oM
 have o:=Z H;have s:=Z hT;have di:T<=30000:=oM
 clear H hT;rename wO=>wo;go_wp2_with fail;go_loopw [3,41] (fun v i wr=>∃r a:Nat,r<=6/\i=J r/\v=J a/\a=T+r/\∃V,yA (c.at b) V (ym c.t K logs c.gD ⟨f,m,[]⟩ a).due (ym c.t K logs c.gD ⟨f,m,[]⟩ a).f (ym c.t K logs c.gD ⟨f,m,[]⟩ a).m wr) (fun _ i _=>6 - (intOf i).toNat)
 case atStart=>exact⟨0,T,Ql _,rfl,rfl,rfl,_,o⟩
 clear o;obtain⟨r,a,hr,rfl,rfl,g,M,d⟩:=hrel;by_cases hrl:r<6
 ·have fA:(r:Int)<6:=oM
  have bR:a<=30010:=oM
  have P:=Z (FD C rfl a bR (by rw [g,s];omega) d);have j:=Z g;clear d g;go_wp2_with fail;apply P.o.m;rintro e x2 ⟨rfl,O,z⟩;have I:=Z z;clear z;go_wp2_with fail;go_roundw
  case rel=>exact⟨r+1,a+1,oM,nQ,nQ,by have:=j.o;omega,O,I⟩
  simp [intOf];omega
 have e:r=6:=oM
 have fA:¬(r:Int)<6:=oM
 have bP:=Z d;have j:Hid (a=p*PC+6):=sA
 clear d g e;go_wp2;go_end0;refine⟨rfl,b,by rw [D] at u;exact u.bel,M,?_⟩;rw [<-j];exact bP
end
def Vt (t:Tg) (K:Kn) (regs:Nat) (M:List Li) (gD:Int):Int :=
 if Zz M=true/\X7 t K (zK M)/\(regs:Int)=t.r then (if 0<=gD/\gD<=200 then 0 else 3) else 2
def jK:Prop:=∀(t:Tg) (kv:vO) (K:Kn) (la:Option Addr) (lc:Nat) (logs:Li) (w:wO),yQ w kv K->zM w (.slice la logs.length lc) logs ->
 Calls Tryz.prog 104 #[.agg t.cells,kv,.slice la logs.length lc] w (Rt w (.bool (X7 t K logs)))
def lT:Prop:=∀(t:Tg) (kv rv mv:vO) (K:Kn) (R:Li) (M:List Li) (gD:Int) (w:wO),yQ w kv K->zM w rv R->yu w mv M->(∀x∈K.ops,bB x.nn)->M.length<=3->Vt t K R.length M gD=0->(gD+K.st)*K.pc<=30000 ->
 Calls Tryz.prog 58 #[.agg t.cells,kv,rv,mv,J gD] w fun e w'=>∃ra rc ma mc rl ml,e=.returned (.tuple #[.slice ra rl rc,.slice ma ml mc,J 0])/\Bw w w'/\zM w' (.slice ra rl rc) (nw R.length (UW t K (zK M) gD R M))/\yu w' (.slice ma ml mc) (rU M (UW t K (zK M) gD R M))
section
variable {L:Lp} {B M:List Li}
theorem NO:∀g,g<=5->Z8 (2 ^ g)=g:=by
 intro g a;obtain rfl | rfl | rfl | rfl | rfl | rfl:g=0\/g=1\/g=2\/g=3\/g=4\/g=5:=lI
 all_goals rfl
def tG (h:zQ L) {i:Nat} (hi:i<L.l.length):0<=ak L.l i/\ak L.l i<=5:=by obtain⟨-,-,-,-,a,-⟩:=zy h;exact zH.1 (zq a i hi)
def NP (h:xP L B M):Zz M/\zK M=L.l:=by
 obtain⟨a,d,b,f,g⟩:=U8 h;have k:∀i,i<M.length->Z8 (zB M i).length=(ak L.l i).toNat:=fun i hi=>by have:=tG a (i:=i) lI;grind [NO]
 refine⟨yk fun i hi=>?_,Hq (by rw [Zn];exact b) fun j c=>?_⟩
 ·have:=tG a (i:=i) lI;grind [oG]
 rw [Zn] at c;have:=tG a (i:=j) lI;grind [YF]
def NQ (h:xP L B M):ZE L B:=by obtain⟨c,a,d,b,f⟩:=U8 h;unfold ZE;rw [Qi a,Wb];exact yk fun i hi=>Qi (b i hi)
def NR {t:Tg} {K:Kn} {O:Li} (h:yg L t K O) (b:cn L):∀x∈K.ops,bB x.nn:=by
 intro x j;have i:=P3 h;obtain⟨k,f,e⟩:=Wl.1 j;obtain⟨s,hs,l⟩:=i.hit (k:=k) f;obtain⟨g,-⟩:=Dz h;obtain⟨-,-,-,-,-,d⟩:=xA g;have a:=(Dy (d s hs).2).2.2.2.2;have c:dq K O s=x:=by grind [dq,zv]
 rw [c] at a;rw [a];exact b s
end
end Go.Proofs.YtjlfcbccpcigeacGreatDoor
