import Derived.Test.YtjlfcbccpcigeacGreatDoorC
import Derived.Test.YtjlfcbccpcigeacGreatDoorD
import Derived.Test.YtjlfcbccpcigeacGreatDoorE
set_option maxHeartbeats 40000000
set_option linter.defProp false
namespace Go.Proofs.YtjlfcbccpcigeacGreatDoor
open Go.Proofs.Tryz Go.RowKit Go.Joins
set_option linter.unusedVariables false
set_option linter.unusedSimpArgs false
set_option maxRecDepth 8192
section
variable {w x1 wr y x:wO} {g n i k lc j:Nat} {O:Nat->bt} {e:TypeId}
def nE (L:Lp) (t:Tg) (P:Int) (T D:Li):Kn:=if (zZ L t P T && ZN L t D)=true then Zy L t P T D else ⟨0,0,[]⟩
def nF (L:Lp) (t:Tg) (P:Int) (T D:Li):Int:=if (zZ L t P T && ZN L t D)=true then 0 else 2
def sy (L:Lp) (t:Tg) (P:Int) (T D:Li) (w:wO) (e:Ending) (w':wO):Prop :=
 Bw w w'/\∃k0 k1 kv,e=.returned (.tuple #[.agg #[J k0,J k1,kv],J (nF L t P T D)])/\yQ w' (.agg #[J k0,J k1,kv]) (nE L t P T D)
section
section
variable (L:Lp) (t:Tg) (P:Int) (T D:Li)
def ja (s j:Nat):bt:=⟨ak T s % P,ak T s / P,(zc L.b s).o,ak D s,if 0<j then YT L t P T D s 0 else 0,if 1<j then YT L t P T D s 1 else 0,(zc L.b s).ar,(zc L.b s).sp,(zc L.b s).pl,(zc L.b s).nn⟩
def YG (i j:Nat):Nat->bt:=fun s=>if s<i then lV L t P T D s else if s=i then ja L t P T D s j else ja L t P T D s 0
end
variable {L:Lp} {t:Tg} {P:Int} {T D:Li}
theorem Jh (s:Nat):ja L t P T D s (zu (zc L.b s)).length=lV L t P T D s:=rfl
theorem Ji (i:Nat):YG L t P T D i (zu (zc L.b i)).length=YG L t P T D (i+1) 0:=by grind [YG,Jh]
theorem Jj:YG L t P T D 0 0=fun s=>ja L t P T D s 0:=by grind [YG]
def Af (i j s:Nat):(YG L t P T D i j s).sg=ak T s / P/\(YG L t P T D i j s).d=ak D s:=by
 unfold YG;split
 ·exact⟨rfl,rfl⟩
 split <;> exact⟨rfl,rfl⟩
theorem Jk (i:Nat):YG L t P T D i 1=fun s=>if s=i then { YG L t P T D i 0 s with a:=YT L t P T D i 0 } else YG L t P T D i 0 s:=by grind [YG,ja]
def Jl (i j:Nat) (c:0<j) (a:j<2):YG L t P T D i (j+1)=fun s=>if s=i then { YG L t P T D i j s with b:=YT L t P T D i j } else YG L t P T D i j s:=by grind [YG,ja]
def nG (O:Nat->bt) (c:Nat):vO:=((yZ (O (c / 10)))[c % 10]?).getD undef
theorem sB (O:Nat->bt) (s j:Nat) (c:j<10):some (nG O (s*10+j))=(yZ (O s))[j]?:=by
 unfold nG;have h1:(s*10+j) / 10=s:=lI
 have a:(s*10+j) % 10=j:=lI
 rw [h1,a];have b:j<(yZ (O s)).size:=c;rw [WA b];rfl
def jY (w:wO) (g n:Nat) (O:Nat->bt):Prop:=zr w g 79 (n*10) (nG O)
def jY.cells (h:jY w g n O) {s:Nat} (hs:s<n):∀j,j<10->w.cell? (E g (s*10+j))=(yZ (O s))[j]?:=by grind [jY,zr.cell,sB]
def jY.setA (h:jY w g n O) (hi:i<n) (v:Int):jY (w.setCell (E g (i*10+4)) (J v)) g n (fun s=>if s=i then { O s with a:=v } else O s):=by
 refine (zr.set h (i*10+4) (J v) lI).congr fun c j=>?_;by_cases e:c=i*10+4
 ·subst e;rw [Qf rfl];have:=sB (fun s=>if s=i then { O s with a:=v } else O s) i 4 lI;dsimp only at this;rw [Qf rfl] at this;exact (QD (this.t rfl)).s
 rw [Qe e];unfold nG;dsimp only;by_cases b:c / 10=i
 ·rw [b,Qf rfl];have d:c % 10≠4:=lI
  have f:c % 10<10:=lI
  generalize c % 10=q at d f;obtain rfl | rfl | rfl | rfl | rfl | rfl | rfl | rfl | rfl | rfl:q=0\/q=1\/q=2\/q=3\/q=4\/q=5\/q=6\/q=7\/q=8\/q=9:=lI
  all_goals first | rfl | exact absurd rfl d
 rw [Qe b]
theorem jY.setB (h:jY w g n O) (hi:i<n) (v:Int):jY (w.setCell (E g (i*10+5)) (J v)) g n (fun s=>if s=i then { O s with b:=v } else O s):=by
 refine (zr.set h (i*10+5) (J v) lI).congr fun c j=>?_;by_cases e:c=i*10+5
 ·subst e;rw [Qf rfl];have:=sB (fun s=>if s=i then { O s with b:=v } else O s) i 5 lI;dsimp only at this;rw [Qf rfl] at this;exact (QD (this.t rfl)).s
 rw [Qe e];unfold nG;dsimp only;by_cases a:c / 10=i
 ·rw [a,Qf rfl];have d:c % 10≠5:=lI
  have f:c % 10<10:=lI
  generalize c % 10=q at d f;obtain rfl | rfl | rfl | rfl | rfl | rfl | rfl | rfl | rfl | rfl:q=0\/q=1\/q=2\/q=3\/q=4\/q=5\/q=6\/q=7\/q=8\/q=9:=lI
  all_goals first | rfl | exact absurd rfl d
 rw [Qe a]
structure jZ (L:Lp) (t:Tg) (P:Int) (T D:Li) (x1:wO) (k:Nat) (wr:wO):Prop where
 bel:Bw x1 wr
 blk:∃la lc,wr.heap[x1.heap.size]?=some (.cells #[J P,J (yv P T k),.slice la k lc] 75 (0,0))/\wr.ownsRow (x1.heap.size+1) 79 10 (.slice la k lc) k (YO ((List.range k).map fun s=>ja L t P T D s 0))
def jZ.lt (h:jZ L t P T D x1 k wr):x1.heap.size<wr.heap.size:=by obtain⟨b,lc,h1,a⟩:=h.blk;exact (lo h1)
theorem jZ.start (L:Lp) (t:Tg) (P:Int) (T D:Li) (x1:wO):jZ L t P T D x1 0 (x1.alloc (kB P 0 none 0 0)) :=
 ⟨Qd _ _,none,0,zm _ _ _,rfl,.inl ⟨rfl,rfl⟩⟩
def jZ.row (h:jZ L t P T D x1 k wr) (r:0<k):∃g lc,wr.heap[x1.heap.size]?=some (.cells #[J P,J (yv P T k),.slice (pA g) k lc] 75 (0,0))/\x1.heap.size<g/\k<=lc/\lc<=maxLen/\jY wr g k (YG L t P T D 0 0):=by
 obtain⟨v,lc,h1,u,i⟩:=h.blk;rcases i with ⟨_,hn⟩ | ⟨g,cap,a,o,q,hb,hn,hm,p,n⟩
 ·lia
 injection o with hv1 hv2 hv3;subst hv1;subst hv3;refine⟨g,lc,h1,lI,hn,hm,a,hb,lI,fun c d=>?_⟩;have hlen:((List.range k).map fun s=>ja L t P T D s 0).length=k:=sM
 have f:(a.toList.take (k*10))[c]?=(YO ((List.range k).map fun s=>ja L t P T D s 0))[c]?:=by rw [n]
 rw [We,Qf d] at f;have e:c=c / 10*10+c % 10:=lI
 have b:=uV ((List.range k).map fun s=>ja L t P T D s 0) (c / 10) (c % 10) lI lI;rw [<-e] at b;have j:zv ((List.range k).map fun s=>ja L t P T D s 0) (c / 10)=ja L t P T D (c / 10) 0:=by unfold zv;rw [List.getD,Wc,Ec lI];rfl
 rw [j] at b;have l:a.toList[c]?=a[c]?:=sM
 rw [<-l,f,b,Jj];have m:c % 10<(yZ (ja L t P T D (c / 10) 0)).size:=E7 _ tQ;show _=some (((yZ (ja L t P T D (c / 10) 0))[c % 10]?).getD undef);rw [WA m];rfl
structure gw (L:Lp) (t:Tg) (P:Int) (T D:Li) (x1:wO) (g lc i j:Nat) (wr:wO):Prop where
 bel:Bw x1 wr
 blk:wr.heap[x1.heap.size]?=some (.cells #[J P,J (yv P T L.b.length),.slice (pA g) L.b.length lc] 75 (0,0))
 row:jY wr g L.b.length (YG L t P T D i j)
 gt:x1.heap.size<g
def gw.lt (h:gw L t P T D x1 g lc i j wr):x1.heap.size<wr.heap.size:=(lo h.blk)
def gw.gE (h:gw L t P T D x1 g lc i j wr) (hb:Bw wr y):gw L t P T D x1 g lc i j y :=
 ⟨h.bel.t (hb.m (Q7 h.lt)),(hb.block _ h.lt).t h.blk,zr.gE h.row hb (zr.lt h.row),h.gt⟩
def gw.next (h:gw L t P T D x1 g lc i (zu (zc L.b i)).length wr):gw L t P T D x1 g lc (i+1) 0 wr :=
 ⟨h.bel,h.blk,by have:=h.row;rw [Ji] at this;exact this,h.gt⟩
def gw.setA (h:gw L t P T D x1 g lc i 0 wr) (hi:i<L.b.length):gw L t P T D x1 g lc i 1 (wr.setCell (E g (i*10+4)) (J (YT L t P T D i 0))):=by have a:=h.gt;refine⟨h.bel.setCell (by grind) _,by rw [Qj _ _ _ _ (show x1.z≠g by lia)];exact h.blk,?_,a⟩;rw [Jk];exact h.row.setA hi _
theorem gw.setB (h:gw L t P T D x1 g lc i j wr) (hi:i<L.b.length) (d:0<j) (a:j<2):gw L t P T D x1 g lc i (j+1) (wr.setCell (E g (i*10+5)) (J (YT L t P T D i j))):=by have c:=h.gt;refine⟨h.bel.setCell (by grind) _,by rw [Qj _ _ _ _ (show x1.z≠g by lia)];exact h.blk,?_,c⟩;rw [Jl i j d a];exact h.row.setB hi _
def gw.ops (h:gw L t P T D x1 g lc L.b.length 0 wr) (h1:L.b.length<=lc) (a:lc<=maxLen):Y5 wr (.slice (pA g) L.b.length lc) (Zy L t P T D).ops:=by refine⟨some (E g 0),lc,by rw [VC],by rw [VC];exact h1,a,fun _=>⟨g,0,rfl,zr.lt h.row,fun i hi j c=>?_⟩⟩;rw [VC] at hi;rw [qU hi,QO,h.row.cells hi j c];unfold YG;rw [Qf hi]
end
def Jm {a b d a' b' d':vO} (h:x.heap[g]?=some (.cells #[a,b,d] e (0,0))):(((x.setCell (E g 0) a').setCell (E g 1) b').setCell (E g 2) d').heap[g]?=some (.cells #[a',b',d'] e (0,0)):=by simp [World.setCell,QC,h]
def Yc {a:Array vO} {v:vO} (h:x.heap[g]?=some (.cells a e (0,0))):(x.setCell (E g i) v).heap[g]?=some (.cells (a.setIfInBounds i v) e (0,0)):=by simp [World.setCell,QC,h]
def sC {c:Nat} {l:List bt} {b:Nat} (h:Y5 y (.slice (pA g) n c) l) (hb:b≠g) (i:Nat) (v:vO):Y5 (y.setCell (E b i) v) (.slice (pA g) n c) l:=by obtain⟨a,cap,e,h1,k,m⟩:=h;refine⟨a,cap,e,h1,k,fun r=>?_⟩;obtain⟨b',d,f,o,p⟩:=m r;injection e with e3;rw [f] at e3;injection e3 with e3;injection e3 with e3 e4;refine⟨b',d,f,by simpa using o,fun i hi j q=>?_⟩;rw [xX (Qj _ _ _ _ (show b'≠b by lia))];exact p i hi j q
def Tryz.iop79:(Tryz.prog.info? 79).map (fun i=>(i.zero,i.size,i.bytes))=some (some (.agg #[J 0,J 0,J 0,J 0,J 0,J 0,J 0,J 0,J 0,J 0]),10,80):=kR
def Jn (w:wO) (a:Array vO) (e:TypeId):∀(j:Nat) (u:vO),a.toList[j]?=some u->(w.alloc (.cells a e)).cell? (((E w.heap.size 0):Addr).add j)=some u:=by
 intro j u c;have b:((E w.z 0):Addr).add j=(E w.z j):=by simp [Addr.add];lia
 simp_all
end
section
variable {B n sb k lc:Nat} {v v' bv mv u:vO} {G GA GB GM GU:Nat->Nat} {ls lb lm ll lu:List Nat} {x y w1 X:wO} {cs:Array vO} {la:Option Addr}
structure ZR (B:Nat) (v:vO) (G:Nat->Nat) (ls:List Nat) (x:wO):Prop where
 own:x.ownsRow B 56 1 v ls.length ((List.range ls.length).map fun i=>.slice (pA (G i)) (ls.getD i 0) (ls.getD i 0))
 row:∀i,i<ls.length->zr x (G i) 2 (ls.getD i 0) (fun _=>J 0)
 few:∀i,ls.getD i 0<=32
def ZR.keep (h:ZR B v G ls x) (a:∀g,v.ownBlock=some g->y.heap[g]?=x.heap[g]?) (hr:∀i,i<ls.length->y.heap[G i]?=x.heap[G i]?):ZR B v G ls y :=
 ⟨yJ h.own a,fun i hi=>(h.row i hi).gG (hr i hi),h.few⟩
def ZR.more (h:ZR B v G ls x) (j:n<=32) (d:y=(x.alloc (.cells (madeCells #[J 0] n) 2)).alloc (.cells #[.slice (pA x.heap.size) n n] 56))
  (k:w1.ownsRow B 56 1 v' (ls.length+1) ((List.range ls.length).map (fun i=>.slice (pA (G i)) (ls.getD i 0) (ls.getD i 0))++[.slice (pA x.heap.size) n n])) (b:y.grownBy w1 v.ownBlock) :
  ZR B v' (fun i=>if i=ls.length then x.heap.size else G i) (ls++[n]) w1:=by
 have hb:Bw x y:=d ▸ QB _ _ _;have a:=zp h.own hb;have f:zr y x.z 2 n (fun _=>J 0):=by rw [d];exact (zr.zeros x (J 0) n 2).alloc _
 have c:∀i,i<ls.length->(ls++[n]).getD i 0=ls.getD i 0:=fun i hi=>rQ
 have hn:(ls++[n]).getD ls.length 0=n:=by simp [List.getD]
 refine⟨?_,fun i hi=>?_,fun i=>?_⟩
 ·rw [Qt,EF,Wn,QV];have e:(List.range ls.length).map (fun i=>(vP (if i=ls.length then x.z else G i) ((ls++[n]).getD i 0) ((ls++[n]).getD i 0):vO))=(List.range ls.length).map fun i=>vP (G i) (ls.getD i 0) (ls.getD i 0):=by refine Et fun i hi=>?_;grind
  grind
 ·rw [Qt,EF] at hi;by_cases e:i=ls.length
  ·subst e;show zr w1 (if ls.length=ls.length then x.z else G ls.length) _ _ _;rw [Qf rfl,hn];exact f.grown b (xo a f tQ)
  show zr w1 (if i=ls.length then x.z else G i) _ _ _;have hr:=(h.row i lI).gG (hb.block _ (h.row i lI).lt);rw [Qe e,c i lI];exact hr.grown b (xo a hr tQ)
 by_cases e:i=ls.length
 ·grind
 by_cases g:i<ls.length
 ·rw [c i g];exact h.few i
 rw [Qw,Q0 (by simp;lia)];exact Ql _
def ZR.ints (h:ZR B v G ls x):yu x v (ls.map fun n=>List.replicate n 0):=by
 obtain⟨a,cap,rfl,h1,k⟩:=zD h.own;refine⟨a,cap,by rw [Q9],by rw [Q9];exact h1,k,fun p=>?_⟩;rw [Q9] at p;obtain⟨A,m⟩:=h.own;rcases m with ⟨_,h0⟩ | ⟨g,c,f,r,z,b,hn,hm,u,q⟩
 ·lia
 injection r with e1 _ e3;subst e1;refine⟨g,0,rfl,(lo b),fun i hi=>?_⟩;rw [Q9] at hi;refine⟨vP (G i) (ls.getD i 0) (ls.getD i 0),?_,?_⟩
 ·rw [QO,Qa b];have y:=congrArg (fun l:List vO=>l[i]?) q;grind
 have e:zB (ls.map fun n=>List.replicate n (0:Int)) i=List.replicate (ls.getD i 0) 0:=by grind [zB]
 have hr:=h.row i hi;obtain⟨d,t,s,-⟩:=id hr;rw [e];refine⟨some (E (G i) 0),ls.getD i 0,by rw [Ej],rQ,?_,fun j o=>?_,fun _=>⟨G i,0,rfl,hr.lt,fun j o=>?_⟩⟩
 ·have:=h.few i;unfold maxLen;lia
 ·grind [ak]
 grind [ak,zr.cell]
structure ej (X:wO) (sb:Nat) (bv mv:vO) (GB GM:Nat->Nat) (lb lm:List Nat) (x:wO):Prop where
 kp:Kp sb (.slice none 0 0) (.slice none 0 0) X x
 hs:x.heap[sb]?=some (.cells #[bv,mv] 116 (0,0))
 hb:ZR X.heap.size bv GB lb x
 hm:ZR X.heap.size mv GM lm x
 ap:∀g,bv.ownBlock=some g->mv.ownBlock≠some g
 lt:sb<X.heap.size
def VR (h:x.heap[sb]?=some (.cells cs 116 (0,0))):zr x sb 116 0 (fun _=>.pointer none):=by grind [zr]
def D1 {o:Nat} {p:vO} {la:List Nat} (kp:Kp sb (.slice none 0 0) (.slice none 0 0) X x) (hs:x.heap[sb]?=some (.cells cs 116 (0,0))) (s:ZR X.heap.size p GA la x) (hb:ZR X.heap.size bv GB lb x) (ap:∀g,p.ownBlock=some g->bv.ownBlock≠some g) (hn:n<=32)
  (D:y=(x.alloc (.cells (madeCells #[J 0] n) 2)).alloc (.cells #[.slice (pA x.heap.size) n n] 56))
  (K:w1.ownsRow X.heap.size 56 1 v' (la.length+1) ((List.range la.length).map (fun i=>.slice (pA (GA i)) (la.getD i 0) (la.getD i 0))++[.slice (pA x.heap.size) n n])) (a:y.grownBy w1 p.ownBlock) (F:∀g,v'.ownBlock=some g->p.ownBlock=some g\/x.heap.size<=g) :
  Kp sb (.slice none 0 0) (.slice none 0 0) X (w1.setCell (E sb o) v')/\(w1.setCell (E sb o) v').heap[sb]?=some (.cells (cs.setIfInBounds o v') 116 (0,0))/\ZR X.heap.size v' (fun i=>if i=la.length then x.heap.size else GA i) (la++[n]) (w1.setCell (E sb o) v')/\ZR X.heap.size bv GB lb (w1.setCell (E sb o) v')/\(∀g,v'.ownBlock=some g->bv.ownBlock≠some g)/\w1.heap[sb]?=some (.cells cs 116 (0,0)):=by
 have b:Bw x y:=D ▸ QB _ _ _;have r:y.heap[sb]?=some (.cells cs 116 (0,0)):=(b.block _ (lo hs)).t hs;have C:=zp s.own b;have l:w1.heap[sb]?=some (.cells cs 116 (0,0)):=(a.block _ (lo r) (xo C (VR r) tQ)).t r;have d:∀k,k≠sb->(w1.st sb o v').heap[k]?=w1.heap[k]?:=fun k t=>Qj _ _ _ _ t;have z:∀{w:wO} {k m:Nat} {e:TypeId} {f:Nat->vO},zr w k e m f->w.heap[sb]?=some (.cells cs 116 (0,0))->e≠116->k≠sb:=fun hr u I=>hr.apart (VR u) I;have A:∀{w:wO} {v:vO} {m:Nat} {L:List vO} {B:Nat},w.ownsRow B 56 1 v m L->w.heap[sb]?=some (.cells cs 116 (0,0))->∀g,v.ownBlock=some g->g≠sb:=fun hr u g c e=>xo hr (VR u) tQ (by rw [c,e]);have h1:=s.more hn D K a;have M:x.z<=y.z:=b.size;refine⟨⟨a.os.t (b.os.t kp.os),a.tape.t (b.tape.t kp.tape),a.output.t (b.output.t kp.output),?_,fun k t j _=>?_,fun g a=>by cases a⟩,Yc l,h1.keep (fun g c=>d g (A h1.own l g c)) (fun i hi=>d _ (z (h1.row i hi) l tQ)),hb.keep (fun g c=>?_) (fun i hi=>?_),fun g c=>?_,l⟩
 ·have N:=a.size;have H:=kp.size;simp [World.setCell];lia
 ·have H:=kp.size;rw [d k j,a.block k lI (fun e=>by have:=zR s.own k e.s;lia),b.block k lI];exact kp.block k t j (fun e=>by cases e)
 ·have q:=zA hb.own g c;rw [d g (A hb.own hs g c),a.block g lI (fun e=>ap g e.s c),b.block g q]
 ·have q:=(hb.row i hi).lt;have G:=(hb.row i hi).gG (b.block _ q);rw [d _ (z (hb.row i hi) hs tQ),a.block _ lI (xo C G tQ),b.block _ q]
 rcases F g c with h | h
 ·exact ap g h
 intro e;have:=zA hb.own g e;lia
def ej.pushB (h:ej X sb bv mv GB GM lb lm x) (hn:n<=32) (m:y=(x.alloc (.cells (madeCells #[J 0] n) 2)).alloc (.cells #[.slice (pA x.heap.size) n n] 56))
  (l:w1.ownsRow X.heap.size 56 1 v' (lb.length+1) ((List.range lb.length).map (fun i=>.slice (pA (GB i)) (lb.getD i 0) (lb.getD i 0))++[.slice (pA x.heap.size) n n])) (k:y.grownBy w1 bv.ownBlock) (a:∀g,v'.ownBlock=some g->bv.ownBlock=some g\/x.heap.size<=g) :
  ej X sb v' mv (fun i=>if i=lb.length then x.heap.size else GB i) GM (lb++[n]) lm (w1.setCell (E sb 0) v')/\w1.heap[sb]?=some (.cells #[bv,mv] 116 (0,0)):=by obtain⟨h1,b,c,d,f,j⟩:=D1 (o:=0) h.kp h.hs h.hb h.hm h.ap hn m l k a;exact⟨⟨h1,b,c,d,f,h.lt⟩,j⟩
def ej.pushM (h:ej X sb bv mv GB GM lb lm x) (hn:n<=32) (q:y=(x.alloc (.cells (madeCells #[J 0] n) 2)).alloc (.cells #[.slice (pA x.heap.size) n n] 56))
  (p:w1.ownsRow X.heap.size 56 1 v' (lm.length+1) ((List.range lm.length).map (fun i=>.slice (pA (GM i)) (lm.getD i 0) (lm.getD i 0))++[.slice (pA x.heap.size) n n])) (m:y.grownBy w1 mv.ownBlock) (c:∀g,v'.ownBlock=some g->mv.ownBlock=some g\/x.heap.size<=g) :
  ej X sb bv v' GB (fun i=>if i=lm.length then x.heap.size else GM i) lb (lm++[n]) (w1.setCell (E sb 1) v')/\w1.heap[sb]?=some (.cells #[bv,mv] 116 (0,0)):=by obtain⟨h1,d,f,j,k,l⟩:=D1 (o:=1) h.kp h.hs h.hm h.hb (fun g a b=>h.ap g b a) hn q p m c;exact⟨⟨h1,d,j,f,fun g a b=>k g b a,h.lt⟩,l⟩
def ej.gE (h:ej X sb bv mv GB GM lb lm x) (hb:Bw x y):ej X sb bv mv GB GM lb lm y :=
 ⟨h.kp.t (Kp.of_below hb),(hb.block _ (lo h.hs)).t h.hs,h.hb.keep (fun g a=>hb.block _ (zA h.hb.own g a)) (fun i hi=>hb.block _ (h.hb.row i hi).lt),h.hm.keep (fun g a=>hb.block _ (zA h.hm.own g a)) (fun i hi=>hb.block _ (h.hm.row i hi).lt),h.ap,h.lt⟩
theorem ej.start (h:X.heap[sb]?=some (.cells #[.slice none 0 0,.slice none 0 0] 116 (0,0))):ej X sb (.slice none 0 0) (.slice none 0 0) (fun _=>0) (fun _=>0) [] [] X :=
 ⟨Kp.refl _ _ _,h,⟨World.ownsRow_nil _ _ _ _,fun i hi=>absurd hi (Qv _),fun i=>Ql _⟩,⟨World.ownsRow_nil _ _ _ _,fun i hi=>absurd hi (Qv _),fun i=>Ql _⟩,fun g e=>(by cases e),(lo h)⟩
def ej.cells (h:ej X sb bv mv GB GM lb lm x):x.cell? (E sb 0)=some bv/\x.cell? (E sb 1)=some mv/\sb<x.heap.size/\X.heap.size<=x.heap.size :=
 ⟨(Qa h.hs 0).t rfl,(Qa h.hs 1).t rfl,(lo h.hs),h.kp.size⟩
def ej.appB (h:ej X sb (.slice la k lc) u GA GU ll lu y) (o:ll.length=k) (hn:n<=32) :
  ((y.alloc (.cells (madeCells #[J 0] n) 2)).cell? (E sb 0)=some (.slice la k lc)/\((y.alloc (.cells (madeCells #[J 0] n) 2)).alloc (.cells #[.slice (pA y.heap.size) n n] 56)).cell? (E sb 0)=some (.slice la k lc))/\∃d,((y.alloc (.cells (madeCells #[J 0] n) 2)).alloc (.cells #[.slice (pA y.heap.size) n n] 56)).ownsRow X.heap.size 56 1 (.slice la k lc) k d/\X.heap.size<=((y.alloc (.cells (madeCells #[J 0] n) 2)).alloc (.cells #[.slice (pA y.heap.size) n n] 56)).heap.size /\
    ∀ g c w1,w1.ownsRow X.heap.size 56 1 (.slice (pA g) (k+1) c) (k+1) (d++[.slice (pA y.heap.size) n n])->((y.alloc (.cells (madeCells #[J 0] n) 2)).alloc (.cells #[.slice (pA y.heap.size) n n] 56)).grownBy w1 (Value.slice la k lc).ownBlock->((Value.slice la k lc).ownBlock=some g\/g=((y.alloc (.cells (madeCells #[J 0] n) 2)).alloc (.cells #[.slice (pA y.heap.size) n n] 56)).heap.size) ->
      (∃G,ej X sb (.slice (pA g) (k+1) c) u G GU (ll++[n]) lu (w1.setCell (E sb 0) (.slice (pA g) (k+1) c)))/\w1.cell? (E sb 0)=some (.slice la k lc)/\w1.frozen? (E sb 0)=false/\sb<w1.heap.size:=by
 subst o
 have h1:=h.gE (Qd y (.cells (madeCells #[J 0] n) 2))
 have b:=h.gE (QB y (.cells (madeCells #[J 0] n) 2) (.cells #[vP y.z n n] 56))
 refine⟨⟨h1.cells.1,b.cells.1⟩,_,zp h.hb.own (QB _ _ _),b.cells.2.2.2,fun g c w1 p m f=>?_⟩
 obtain⟨l,a⟩:=h.pushB hn rfl p m (fun j e=>f.imp (fun h=>by rw [h];exact e) (fun h=>by
  have i:g=j:=by simpa [Value.ownBlock] using e
  rw [<-i,h];simp;lia))
 exact⟨⟨_,l⟩,(Qa a 0).t rfl,qZ a,(lo a)⟩
def ej.appM (h:ej X sb u (.slice la k lc) GU GA lu ll y) (o:ll.length=k) (hn:n<=32) :
  ((y.alloc (.cells (madeCells #[J 0] n) 2)).cell? (E sb 1)=some (.slice la k lc)/\((y.alloc (.cells (madeCells #[J 0] n) 2)).alloc (.cells #[.slice (pA y.heap.size) n n] 56)).cell? (E sb 1)=some (.slice la k lc))/\∃d,((y.alloc (.cells (madeCells #[J 0] n) 2)).alloc (.cells #[.slice (pA y.heap.size) n n] 56)).ownsRow X.heap.size 56 1 (.slice la k lc) k d/\X.heap.size<=((y.alloc (.cells (madeCells #[J 0] n) 2)).alloc (.cells #[.slice (pA y.heap.size) n n] 56)).heap.size /\
    ∀ g c w1,w1.ownsRow X.heap.size 56 1 (.slice (pA g) (k+1) c) (k+1) (d++[.slice (pA y.heap.size) n n])->((y.alloc (.cells (madeCells #[J 0] n) 2)).alloc (.cells #[.slice (pA y.heap.size) n n] 56)).grownBy w1 (Value.slice la k lc).ownBlock->((Value.slice la k lc).ownBlock=some g\/g=((y.alloc (.cells (madeCells #[J 0] n) 2)).alloc (.cells #[.slice (pA y.heap.size) n n] 56)).heap.size) ->
      (∃G,ej X sb u (.slice (pA g) (k+1) c) GU G lu (ll++[n]) (w1.setCell (E sb 1) (.slice (pA g) (k+1) c)))/\w1.cell? (E sb 1)=some (.slice la k lc)/\w1.frozen? (E sb 1)=false/\sb<w1.heap.size:=by
 subst o
 have h1:=h.gE (Qd y (.cells (madeCells #[J 0] n) 2))
 have b:=h.gE (QB y (.cells (madeCells #[J 0] n) 2) (.cells #[vP y.z n n] 56))
 refine⟨⟨h1.cells.2.1,b.cells.2.1⟩,_,zp h.hm.own (QB _ _ _),b.cells.2.2.2,fun g c w1 p m f=>?_⟩
 obtain⟨l,a⟩:=h.pushM hn rfl p m (fun j e=>f.imp (fun h=>by rw [h];exact e) (fun h=>by
  have i:g=j:=by simpa [Value.ownBlock] using e
  rw [<-i,h];simp;lia))
 exact⟨⟨_,l⟩,(Qa a 1).t rfl,qZ a,(lo a)⟩
def ej.done {rb:Nat} (h:ej X sb bv mv GB GM lb lm x) (hr:x.heap[rb]?=some (.cells #[.slice none 0 0,.slice none 0 0] 116 (0,0))) :
  yu ((x.setCell (E rb 0) bv).setCell (E rb 1) mv) bv (lb.map fun n=>List.replicate n 0)/\yu ((x.setCell (E rb 0) bv).setCell (E rb 1) mv) mv (lm.map fun n=>List.replicate n 0)/\((x.setCell (E rb 0) bv).setCell (E rb 1) mv).cell? (E rb 0)=some bv/\((x.setCell (E rb 0) bv).setCell (E rb 1) mv).cell? (E rb 1)=some mv:=by have a:∀k,k≠rb->((x.st rb 0 bv).st rb 1 mv).heap[k]?=x.heap[k]?:=fun k a=>(Qj _ _ _ _ a).t (Qj _ _ _ _ a);have c:∀{k m:Nat} {f:Nat->vO},zr x k 2 m f->k≠rb:=fun h1=>h1.apart (VR hr) tQ;have d:∀{v:vO} {m:Nat} {j:List vO} {B:Nat},x.ownsRow B 56 1 v m j->∀g,v.ownBlock=some g->g≠rb:=fun h1 g b e=>xo h1 (VR hr) tQ (by rw [b,e]);have hb:=Yc (i:=1) (v:=mv) (Yc (i:=0) (v:=bv) hr);exact⟨(h.hb.keep (fun g b=>a g (d h.hb.own g b)) (fun i hi=>a _ (c (h.hb.row i hi)))).ints,(h.hm.keep (fun g b=>a g (d h.hm.own g b)) (fun i hi=>a _ (c (h.hm.row i hi)))).ints,(Qa hb 0).t rfl,(Qa hb 1).t rfl⟩
end
section
variable {x1 wr w x y:wO} {g lc j n k:Nat} {a b:Array vO}
def OA (t:Tg) (D:Li) (o:Option Addr) (tc:Nat) (w:wO) (h:zM w (.slice o D.length tc) D) :
  Cp 150 #[(tV t),.slice o D.length tc] w (Rt w (.bool (zF (fun s=>br (ak D s) 0 (t.r - 1)) D.length))):=by
 obtain⟨a,cap,u,z,hm,hr,n⟩:=h;injection u with e1 e2 e3;subst e1;subst e3;unfold maxLen at hm;clear e2;have l:=Z n;clear n hr;go_enter func150,ntmps150;go_wp2;go_loopw [9] (fun i wr=>∃k:Nat,k<=D.length/\i=J k/\zF (fun s=>br (ak D s) 0 (t.r - 1)) k/\wr=w.alloc (tO t)) (fun i _=>D.length - (intOf i).toNat)
 case atStart=>exact⟨0,Ql _,rfl,rfl,rfl⟩
 obtain⟨k,y,rfl,hall,rfl⟩:=hrel;have j:=Z hall;clear hall;by_cases c:k<D.length
 ·obtain⟨b,v,rfl,hb,m⟩:=l oM;have q:=m k c;have p:(k:Int)<(D.length:Int):=oM
  clear m l;obtain⟨x,g⟩:=nm (ak D k);rw [g] at q;have f:=Z g;clear g;by_cases h0:x<0
  ·have d:Hid (zF (fun s=>br (ak D s) 0 (t.r - 1)) D.length=false):=yd c (by rw [f];exact X0 oM);go_wp2;go_ret;exact⟨zi (by rw [d]),Qd _ _⟩
  by_cases h1:t.r<=x
  ·have d:Hid (zF (fun s=>br (ak D s) 0 (t.r - 1)) D.length=false):=yd c (by rw [f];exact X0 oM);go_wp2;go_ret;exact⟨zi (by rw [d]),Qd _ _⟩
  have d:Hid (br (ak D k) 0 (t.r - 1)):=by show _=_;rw [f];grind [yh]
  go_wp2;go_roundw
  case rel=>exact⟨k+1,oM,nQ,yr j d,by first | trivial | rfl⟩
  simp [intOf];omega
 have e:k=D.length:=oM
 subst e;have p:¬(D.length:Int)<(D.length:Int):=oM
 go_wp2;go_ret;exact⟨zi (by rw [j]),Qd _ _⟩
def OB (f x1 g a h i j k l m p r:Int) (w:wO) (h1:0<=x1) (z:x1<=1000) (A:0<=a) (B:a<=128) (C:0<=p) (D:p<=5000) (F:1<=r) (G:r<=128) :
  Cp 206 #[.agg #[J f,J x1,J g,J a,J h,J i,J j,J k,J l,J m],J p,J r] w (Rt w (J ((a+x1 - p) % r))):=by
 have t:¬r=0:=by omega
 obtain⟨b,c⟩:=nm ((a+x1 - p).tmod r);have y:wrap64 (a+x1)=a+x1:=by unfold wrap64;omega
 have u:wrap64 (a+x1 - p)=a+x1 - p:=by unfold wrap64;omega
 have hb:-128<b/\b<128/\(a+x1 - p) % r=if b<0 then b+r else b:=by
  have q:=QS (a+x1 - p) (show r≠0 by omega);have s:=QP (a+x1 - p) (show 0<r by omega);rw [Int.tmod_eq_emod] at c;split at c
  ·omega
  omega
 obtain⟨n,o,d⟩:=hb;have v:wrap64 b=b:=by unfold wrap64;omega
 have x:wrap64 (b+r)=b+r:=by unfold wrap64;omega
 rw [d];clear d;by_cases hn:b<0
 ·rw [Qf hn];go_enter func206,ntmps206;go_wp2;go_ret;exact⟨rfl,Qd _ _⟩
 rw [Qe hn];go_enter func206,ntmps206;go_wp2;go_ret;exact⟨rfl,Qd _ _⟩
def OC (o xa xb ya yb ar sp pl nn tm p d:Int) (w:wO) (h0:0<=tm) (h1:tm<=1000) (s:1<=p) (t:p<=200) :
  Cp 151 #[.agg #[J o,J xa,J xb,J ya,J yb,J ar,J sp,J pl,J nn],J tm,J p,J d] w (Rt w (.agg #[J (tm % p),J (tm / p),J o,J d,J 0,J 0,J ar,J sp,J pl,J nn])):=by
 have l:¬p=0:=by omega
 have h:=QS tm (show p≠0 by omega);have i:=QP tm (show 0<p by omega);have j:0<=tm / p:=WY h0 (by omega);have k:tm / p<=tm:=Eg _ h0;have ht1:tm.tmod p=tm % p:=Wo h0;have ht2:tm.tdiv p=tm / p:=qw h0;obtain⟨b,c⟩:=nm (tm % p);obtain⟨a,f⟩:=nm (tm / p);rw [c] at h i ht1 ⊢;rw [f] at j k ht2 ⊢;have m:wrap64 b=b:=by unfold wrap64;omega
 have n:IntKind.i64.wrap b=b:=xG _ (by omega) (by omega);have q:wrap64 a=a:=by unfold wrap64;omega
 have r:IntKind.i64.wrap a=a:=xG _ (by omega) (by omega);clear c f;go_enter func151,ntmps151;go_wp2;refine rg 18 (fun w'=>(w'.cell? (E w.z 0)=Y o/\w'.cell? (E w.z 5)=Y ar/\w'.cell? (E w.z 6)=Y sp/\w'.cell? (E w.z 7)=Y pl/\w'.cell? (E w.z 8)=Y nn)) ⟨by go_simp,by go_simp,by go_simp,by go_simp,by go_simp⟩ fun u=>?_;refine aq 0 ?_;refine aq 2 ?_;refine aq 4 ?_;refine aq 6 ?_;refine aq 8 ?_;refine aq 10 ?_;refine aq 12 ?_;refine aq 14 ?_;refine aq 16 ?_;refine uo 18 fun K g=>?_;go_simp;refine bq g.o (.inl rfl) ?_;clear g K;refine rd ?_;go_wp2;exact bodyPost_ret (v:=.agg #[J b,J a,J o,J d,J 0,J 0,J ar,J sp,J pl,J nn]) (by simp [results,results151,go_sem]) rfl ⟨rfl,(QB _ _ _).drew⟩
section
variable {L:Lp} {t:Tg} {P:Int} {T D:Li}
theorem gw.set {i:Nat} (h:gw L t P T D x1 g lc i j wr) (hi:i<L.b.length) (a:j<2):gw L t P T D x1 g lc i (j+1) (wr.setCell (E g (i*10+4+j)) (J (YT L t P T D i j))):=by
 obtain rfl | rfl:j=0\/j=1:=oM
 ·exact h.setA hi
 grind [gw.setB]
structure lQ (a b:Array vO) (n:Nat) (wr:wO):Prop where
 nm:wr.heap[n]?=some (.cells a 282 (0,0))
 rf:wr.heap[n+1]?=some (.cells b 279 (0,0))
def lQ.gE {w':wO} (h:lQ a b n w) (hb:Bw w w'):lQ a b n w' :=
 ⟨(hb.block _ (lo h.nm)).t h.nm,(hb.block _ (lo h.rf)).t h.rf⟩
theorem lQ.set (h:lQ a b n w) (c:g<n) (v:vO):lQ a b n (w.setCell (E g k) v) :=
 ⟨by rw [Qj _ _ _ _ (show n≠g by omega)];exact h.nm,by rw [Qj _ _ _ _ (show n+1≠g by omega)];exact h.rf⟩
def OD (h:x.heap[n]?=some (.cells #[.pointer (some (E g (k+4))),.pointer (some (E g (k+5)))] 282 (0,0))) (a:j<2):x.cell? (E n j)=some (.pointer (some (E g (k+4+j)))):=by
 obtain rfl | rfl:j=0\/j=1:=oM
 ·rw [Qa h];rfl
 rw [Qa h];rfl
def OE {o xa xb ya yb ar sp pl nn:Int} (h:x.heap[n]?=some (.cells #[J xa,J xb,J ya,J yb] 279 (0,0))):zr x n 279 4 (ke ⟨o,xa,xb,ya,yb,ar,sp,pl,nn⟩) :=by grind [zr,ke]
def OF (m:Tg) (L:Lp) (P:Int) (T D:Li) (x1:wO) (g lc i:Nat) (o xa xb ya yb ar sp pl nn:Int) (w:wO) (ac:zZ L m P T) (ay:ZN L m D) (dI:zc L.b i=⟨o,xa,xb,ya,yb,ar,sp,pl,nn⟩) (A:i<L.b.length) (fg:L.b.length<=lc) (fh:lc<=9223372036854775807) (d:gw L m P T D x1 g lc i 0 w) :
  Cp 152 #[.slice (pA g) L.b.length lc,J i,.agg #[J o,J xa,J xb,J ya,J yb,J ar,J sp,J pl,J nn],J m.r] w fun e w'=>e=.returned (.tuple #[])/\gw L m P T D x1 g lc (i+1) 0 w':=by
 obtain⟨hm,bE,dh,di,dj,bz,-⟩:=yw ac;have hr:1<=m.r/\m.r<=128:=by obtain⟨-,-,-,h4,h5⟩:=yi bE;omega
 obtain⟨eO,eP⟩:=hr;obtain⟨-,eI,cg,-⟩:=zy hm;have cZ:Hid (∀s,s<L.b.length->0<=ak T s / P/\ak T s / P<=1000):=fun s hs=>by have h:=zq bz s (by omega);unfold VS at h;simp only [Qg] at h;have p:=zH.1 h.1;exact⟨WY p.1 (by omega),WK (Eg _ p.1) p.2⟩
 have HD:Hid (∀s,s<L.b.length->0<=ak D s/\ak D s<=128):=fun s hs=>by grind [ZN,zH,zq]
 have bS:=Z (fun (rf:Int × Int) (h:rf∈zu (zc L.b i))=>tH hm A h);have aQ:=Ud (zq (zy hm).2.2.2.2.2.2 i A);have S:=Z (fun (y:wO) (h:gw L m P T D x1 g lc i (zu (zc L.b i)).length y)=>h.next);have V:=Z (fun j=>show YT L m P T D i j=(ak D (zO (zu (zc L.b i)) j).1.toNat+ak T (zO (zu (zc L.b i)) j).1.toNat / P - (zO (zu (zc L.b i)) j).2 - ak T i / P) % m.r from rfl);rw [dI] at bS aQ S V;obtain⟨cu,cF⟩:=aQ;(try dsimp only at cu);obtain⟨x,cE⟩:=nm (zu ⟨o,xa,xb,ya,yb,ar,sp,pl,nn⟩);rw [cE] at bS cu cF S V;have aL:=Z cE;have fm:g<w.heap.size:=zr.lt d.row;have dy:=d.gt;have B:=Z d;clear cE d ac ay hm bE bz dI;go_enter func152,ntmps152;have dW:Hid (gw L m P T D x1 g lc i 0 (w.alloc (nB o xa xb ya yb ar sp pl nn))):=B.gE (Qd _ _);have bF:(w.alloc (nB o xa xb ya yb ar sp pl nn)).heap.size=w.heap.size+1:=by simp
 have em:=Z bF;have k1:(w.alloc (nB o xa xb ya yb ar sp pl nn)).heap[w.heap.size]?=some (nB o xa xb ya yb ar sp pl nn):=zm _ _ _;have dY:=Z k1;clear bF k1;have dA:(i:Int)<(L.b.length:Int):=by omega
 go_wp2;refine rg 8 (fun w'=>True) trivial fun h9=>?_;refine aq 0 ?_;refine aq 2 ?_;refine aq 4 ?_;refine uk 6 ?_;refine uo 7 fun K n=>?_;go_simp;refine bq n.o (.inr trivial) ?_;clear n K;refine uo 8 fun K n=>?_;go_simp;refine bq n.o (.inl rfl) ?_;clear n K;refine rd ?_;have ep:Hid ((((w.alloc (nB o xa xb ya yb ar sp pl nn)).alloc (.cells #[.pointer (some (E g (i*10+4))),.pointer (some (E g (i*10+5)))] 282)).alloc (.cells #[J xa,J xb,J ya,J yb] 279)).drew.heap.size=w.heap.size+1+1+1):=by simp_all
 have cJ:Hid (Bw w (((w.alloc (nB o xa xb ya yb ar sp pl nn)).alloc (.cells #[.pointer (some (E g (i*10+4))),.pointer (some (E g (i*10+5)))] 282)).alloc (.cells #[J xa,J xb,J ya,J yb] 279)).drew):=(QJ _ _ _ _).drew;have de:Hid (lQ #[.pointer (some (E g (i*10+4))),.pointer (some (E g (i*10+5)))] #[J xa,J xb,J ya,J yb] (w.heap.size+1) (((w.alloc (nB o xa xb ya yb ar sp pl nn)).alloc (.cells #[.pointer (some (E g (i*10+4))),.pointer (some (E g (i*10+5)))] 282)).alloc (.cells #[J xa,J xb,J ya,J yb] 279)).drew):=by
  refine⟨?_,?_⟩
  ·show (((w.alloc (nB o xa xb ya yb ar sp pl nn)).alloc (.cells #[.pointer (some (E g (i*10+4))),.pointer (some (E g (i*10+5)))] 282)).alloc (.cells #[J xa,J xb,J ya,J yb] 279)).heap[_]?=_;rw [Qr _ _ _ (by simp),<-em];exact zm _ _ _
  show (((w.alloc (nB o xa xb ya yb ar sp pl nn)).alloc (.cells #[.pointer (some (E g (i*10+4))),.pointer (some (E g (i*10+5)))] 282)).alloc (.cells #[J xa,J xb,J ya,J yb] 279)).heap[_]?=_;have e:((w.alloc (nB o xa xb ya yb ar sp pl nn)).alloc (.cells #[.pointer (some (E g (i*10+4))),.pointer (some (E g (i*10+5)))] 282)).heap.size=w.heap.size+1+1:=by simp
  rw [<-e];exact zm _ _ _
 clear dY dW;go_wp2_with fail;refine (Zu o _).m ?_;rintro e w' ⟨rfl,cG⟩;have cG:=cG.s;subst cG;rw [cu];go_wp2;go_loopw [31] (fun iv wr=>∃j:Nat,j<=x.length/\iv=J j/\gw L m P T D x1 g lc i j wr/\lQ #[.pointer (some (E g (i*10+4))),.pointer (some (E g (i*10+5)))] #[J xa,J xb,J ya,J yb] (w.heap.size+1) wr) (fun iv _=>x.length - (intOf iv).toNat)
 case atStart=>exact⟨0,Ql _,rfl,B.gE cJ,de⟩
 clear B cJ de ep;obtain⟨j,fq,rfl,d,p⟩:=hrel;by_cases hjn:j<x.length
 ·have eF:(j:Int)<(x.length:Int):=by omega
  have U:j<2:=by omega
  have fp:(j:Int)<2:=by omega
  have B:=Z d;have H2:=Z p;have eQ:=bS (zO x j) (by grind [zO]);have dr:=tE (OE (o:=o) (ar:=ar) (sp:=sp) (pl:=pl) (nn:=nn) p.rf) (i:=j) (by rw [aL];exact hjn);rw [aL] at dr;obtain⟨f0,f1⟩:=dr;have pn:=OD p.nm U;have cY:=Z (V j);have bQ:=Z (d.set A U);have l:g<wr.heap.size:=zr.lt d.row;have fE:w.heap.size+1+1<wr.heap.size:=(lo p.rf);generalize zO x j=rf at *
  obtain⟨ra,rb⟩:=rf;obtain⟨u1,u2,u3,u4⟩:=eQ;(try simp only at f0 f1 u1 u2 u3 u4);obtain⟨c,rfl⟩:=QX u1;have cw:c<L.b.length:=by omega
  have eR:(c:Int)<(L.b.length:Int):=by omega
  have z:=cY;rw [show (((c:Nat):Int),rb).1.toNat=c from QL _] at z;(try simp only at z);obtain⟨s1,s2⟩:=cZ c cw;obtain⟨d1,d2⟩:=HD c cw;obtain⟨v1,v2⟩:=cZ i A;have ho:=Af (L:=L) (t:=m) (P:=P) (T:=T) (D:=D) i j c;have dF:=(Af (L:=L) (t:=m) (P:=P) (T:=T) (D:=D) i j i).1;obtain⟨c0,M,c2,N,c4,c5,c6,c7,c8,c9⟩:=jP (fun k G=>d.row.cells cw k G);have O:=(jP (fun k G=>d.row.cells A k G)).2.1;rw [dF] at O;obtain⟨aT,dE⟩:=ho;rw [aT] at M;rw [dE] at N;obtain⟨v,dH⟩:=nm (ak T i / P);obtain⟨H,dK⟩:=nm (ak T c / P);obtain⟨I,dL⟩:=nm (ak D c);rw [dH] at O z v1 v2;rw [dK] at M z s1 s2;rw [dL] at N z d1 d2;have aR:YT L m P T D i j=(I+H - (rb+v)) % m.r:=by rw [z];congr 1;omega
  have aH:=Z aR;clear z aR cY aT dE dF dH dK dL;generalize (YG L m P T D i j c).sl=y0 at c0;generalize (YG L m P T D i j c).o=y2 at c2;generalize (YG L m P T D i j c).a=y4 at c4;generalize (YG L m P T D i j c).b=y5 at c5;generalize (YG L m P T D i j c).ar=y6 at c6;generalize (YG L m P T D i j c).sp=y7 at c7;generalize (YG L m P T D i j c).pl=y8 at c8;generalize (YG L m P T D i j c).nn=y9 at c9;have X:Hid (∀y:wO,Below (wr.heap.size+1) (wr.alloc (.cells #[J (c:Int),J rb] 142)) y->(y.cell? (E (w.heap.size+1) j)=some (.pointer (some (E g (i*10+4+j))))/\y.cell? (E wr.heap.size 0)=Y (c:Int)/\y.cell? (E wr.heap.size 1)=Y rb/\y.cell? (E g (c*10))=Y y0/\y.cell? (E g (c*10+1))=Y H/\y.cell? (E g (c*10+2))=Y y2/\y.cell? (E g (c*10+3))=Y I/\y.cell? (E g (c*10+4))=Y y4/\y.cell? (E g (c*10+5))=Y y5/\y.cell? (E g (c*10+6))=Y y6/\y.cell? (E g (c*10+7))=Y y7/\y.cell? (E g (c*10+8))=Y y8/\y.cell? (E g (c*10+9))=Y y9/\y.cell? (E g (i*10+1))=Y v)):=by
   intro y h;have e1:(wr.alloc (.cells #[J (c:Int),J rb] 142)).heap.size=wr.heap.size+1:=(by simp);have h':Below (wr.alloc (.cells #[J (c:Int),J rb] 142)).heap.size (wr.alloc (.cells #[J (c:Int),J rb] 142)) y:=(by rw [e1];exact h);have f:∀q o,q<wr.heap.size->y.cell? (E q o)=wr.cell? (E q o):=fun q o Q=>by rw [ze h' _ _ (by omega),ze (Qd wr _) _ _ Q]
   rw [f _ _ (show w.heap.size+1<wr.heap.size by omega),f _ _ l,f _ _ l,f _ _ l,f _ _ l,f _ _ l,f _ _ l,f _ _ l,f _ _ l,f _ _ l,f _ _ l,f _ _ l];refine⟨pn,?_,?_,c0,M,c2,N,c4,c5,c6,c7,c8,c9,O⟩
   ·rw [ze h' _ _ (by omega)];go_simp
   rw [ze h' _ _ (by omega)];go_simp
  have R:Hid (∀y:wO,Below (wr.heap.size+1) (wr.alloc (.cells #[J (c:Int),J rb] 142)) y->Bw wr y):=fun y h=>(Qd wr _).t (h.m (Ep _));have eX:wrap64 (rb+v)=rb+v:=by unfold wrap64;omega
  have eY:IntKind.i64.wrap (rb+v)=rb+v:=xG _ (by omega) (by omega);have cX:=Z (fun W=>OB y0 H y2 I y4 y5 y6 y7 y8 y9 (rb+v) m.r W s1 s2 d1 d2 (by omega) (by omega) eO eP);have aK:Hid (∀y:wO,Bw wr y->gw L m P T D x1 g lc i (j+1) (y.setCell (E g (i*10+4+j)) (J ((I+H - (rb+v)) % m.r)))):=fun y h=>by rw [<-aH];exact (B.gE h).set A U
  obtain⟨nm,aS⟩:=nm ((I+H - (rb+v)) % m.r);rw [aS] at cX aK;have bM:Hid (∀y:wO,Bw wr y->(∃u,y.cell? (E g (i*10+4+j))=Y u)/\y.frozen? (E g (i*10+4+j))=false):=fun y h=>by
   have Q:=(B.gE h).row;refine⟨?_,zr.frozen Q _⟩;obtain⟨-,-,-,-,e4,e5,-⟩:=jP (fun k G=>Q.cells A k G);obtain rfl | rfl:j=0\/j=1:=by omega
   ·exact⟨_,e4⟩
   exact⟨_,e5⟩
  clear aS d p c0 M c2 N c4 c5 c6 c7 c8 c9 O aH;go_wp2;clear f0 f1 pn;refine rh 18 X (zV _ _) fun h9=>?_;refine aq 0 ?_;refine aq 2 ?_;refine aq 4 ?_;refine aq 6 ?_;refine aq 8 ?_;refine aq 10 ?_;refine aq 12 ?_;refine aq 14 ?_;refine uo 16 fun K n=>?_;go_simp;refine (cX _).m ?_;rintro e C ⟨rfl,dp⟩;have F:Hid (Below (wr.heap.size+1) (wr.alloc (.cells #[J (c:Int),J rb] 142)) C):=by have e1:(wr.alloc (.cells #[J (c:Int),J rb] 142)).heap.size=wr.heap.size+1:=(by simp);exact (zV _ _).t (dp.m (by simp))
  have gX:=X _ F;clear dp;refine bq n.o (.inr gX) ?_;clear n K;refine uk 17 ?_;obtain⟨⟨u,hu⟩,hfu⟩:=bM C (R C F);refine uo 18 fun K n=>?_;go_simp;refine bq n.o (.inl rfl) ?_;clear n K;refine rd ?_;have dS:=Z (aK C (R C F));have dT:=Z ((H2.gE (R C F)).set (k:=i*10+4+j) (show g<w.heap.size+1 by omega) (J nm));clear h9 gX hu hfu X F;go_wp2;go_roundw
  case rel=>exact⟨j+1,by omega,by go_num,dS,dT⟩
  simp [intOf];omega
 have e:j=x.length:=by omega
 subst e;have eF:¬(x.length:Int)<(x.length:Int):=by omega
 have HF:=Z (S wr d);clear d p;go_wp2;go_end0;exact⟨rfl,HF⟩
end
def YQ {lv tv b:Array vO} (h:Below (w.heap.size+1+1+1+1) ((((w.alloc (.cells lv 62)).alloc (.cells tv 27)).alloc (.cells b 110)).alloc (kB 0 0 none 0 0)) y) :
  y.heap[w.heap.size]?=some (.cells lv 62 (0,0))/\y.heap[w.heap.size+1]?=some (.cells tv 27 (0,0))/\y.heap[w.heap.size+1+1]?=some (.cells b 110 (0,0))/\y.heap[(w.heap.size+1+1+1)]?=some (kB 0 0 none 0 0)/\(w.heap.size+1+1+1+1)<=y.heap.size/\Bw w y:=by
 have f:(w.alloc (.cells lv 62)).heap.size=w.heap.size+1:=sM
 have c:((w.alloc (.cells lv 62)).alloc (.cells tv 27)).heap.size=w.heap.size+1+1:=sM
 have a:(((w.alloc (.cells lv 62)).alloc (.cells tv 27)).alloc (.cells b 110)).heap.size=w.heap.size+1+1+1:=sM
 have g:((((w.alloc (.cells lv 62)).alloc (.cells tv 27)).alloc (.cells b 110)).alloc (kB 0 0 none 0 0)).heap.size=(w.heap.size+1+1+1+1):=sM
 have d:=h.size;rw [g] at d;refine⟨?_,?_,?_,?_,d,?_⟩
 ·rw [h.block _ oM,Qr _ _ _ (by rw [a];omega),Qr _ _ _ (by rw [c];omega),Qr _ _ _ (by rw [f];omega)];exact zm _ _ _
 ·rw [h.block _ oM,Qr _ _ _ (by rw [a];omega),Qr _ _ _ (by rw [c];omega),<-f];exact zm _ _ _
 ·rw [h.block _ oM,Qr _ _ _ (by rw [a];omega),<-c];exact zm _ _ _
 ·rw [h.block _ oM,<-a];exact zm _ _ _
 exact ((QJ _ _ _ _).t ((Qd _ _).m (by rw [a];omega))).t (h.m oM)
def jZ.next2 {L:Lp} {t:Tg} {P:Int} {T D:Li} {w1:wO} {a la':Option Addr} {lc':Nat} {st:Int} (p:wr.ownsRow (x1.heap.size+1) 79 10 (.slice a k lc) k (YO ((List.range k).map fun s=>ja L t P T D s 0))) (n:Bw x1 y) (j:y.heap[x1.heap.size]?=some (kB P st a k lc))
  (f:w1.ownsRow (x1.heap.size+1) 79 10 (.slice la' (k+1) lc') (k+1) (YO ((List.range k).map fun s=>ja L t P T D s 0)++(yZ (ja L t P T D k 0)).toList)) (i:y.grownBy w1 (Value.ownBlock (.slice a k lc))) :
  jZ L t P T D x1 (k+1) ((w1.setCell (E x1.heap.size 2) (.slice la' (k+1) lc')).setCell (E x1.heap.size 1) (J (yv P T (k+1))))/\w1.heap[x1.heap.size]?=some (kB P st a k lc):=by
 have v:=zE p;have h:x1.z<y.z:=(lo j);have d:w1.heap[x1.heap.size]?=some (kB P st a k lc):=by rw [i.block _ h (fun e=>rQ)];exact j
 refine⟨⟨((n.grown i (Q7 h) fun q x=>rQ).setCell (Qc _) _).setCell (Qc _) _,la',lc',?_,?_⟩,d⟩
 ·simp [World.setCell,QC,d]
 have e:YO ((List.range k).map fun s=>ja L t P T D s 0)++(yZ (ja L t P T D k 0)).toList=YO ((List.range (k+1)).map fun s=>ja L t P T D s 0):=by rw [uU,Wn,QV];rfl
 rw [e] at f;obtain⟨o,c⟩:=f;refine⟨o,?_⟩;rcases c with c | ⟨g,cap,b,u,l,m,r⟩
 ·exact .inl c
 exact .inr ⟨g,cap,b,u,l,by rw [Qj _ _ _ _ (show g≠x1.heap.size by omega),Qj _ _ _ _ (show g≠x1.heap.size by omega)];exact m,r⟩
def OG {e:TypeId} {a0 b c d f i j k l m b0 b1 b2 b3 b4 b5 b6 b7 b8 a:vO} (h:x.heap[g]?=some (.cells #[a0,b,c,d,f,i,j,k,l,m] e (0,0))):((((((((((x.setCell (E g 0) b0).setCell (E g 1) b1).setCell (E g 2) b2).setCell (E g 3) b3).setCell (E g 4) b4).setCell (E g 5) b5).setCell (E g 6) b6).setCell (E g 7) b7).setCell (E g 8) b8).setCell (E g 9) a).heap[g]?=some (.cells #[b0,b1,b2,b3,b4,b5,b6,b7,b8,a] e (0,0)):=by simp [World.setCell,QC,h]
def OH (hS:tL) (t:Tg) (L:Lp) (a0 a2:Option Addr) (bb bo:Nat) (A m B:Nat) (P:Int) (T D:Li) (tb n tc db dz dc:Nat) (w:wO) (hL:zI w ((lv L a0 (some (E bb bo)) a2 A m B)) L) (hP:Xs w (.agg #[J P,.slice (some (E tb n)) L.b.length tc]) P T) (hD:zM w (.slice (some (E db dz)) L.b.length dc) D) (ac:zZ L t P T) (aM:D.length=L.b.length) (hall:zF (fun s=>br (ak D s) 0 (t.r - 1)) D.length)
  (hbb:bb<w.heap.size) (fc:L.b.length<=m) (fe:m<=9223372036854775807) (gQ:∀i,i<L.b.length->∀j,j<9->w.cell? (E bb (bo+i*9+j))=(zG (zc L.b i))[j]?)
  (eT:tb<w.heap.size) (fx:L.b.length<=tc) (fy:tc<=9223372036854775807) (ah:∀i,i<L.b.length->w.cell? (E tb (n+i))=Y (ak T i))
  (eD:db<w.heap.size) (fi:L.b.length<=dc) (fj:dc<=9223372036854775807) (af:∀i,i<L.b.length->w.cell? (E db (dz+i))=Y (ak D i)) :
  Cp 96 #[(lv L a0 (some (E bb bo)) a2 A m B),(tV t),.agg #[J P,.slice (some (E tb n)) L.b.length tc],.slice (some (E db dz)) L.b.length dc] w (sy L t P T D w):=by
 have ay:ZN L t D:=by grind [ZN]
 have dR:Hid (nE L t P T D=Zy L t P T D/\nF L t P T D=0):=by
  have hn:(zZ L t P T && ZN L t D):=by rw [ac,ay];rfl
  show _/\_;grind [nE,nF]
 obtain⟨hm,bE,dh,di,dj,bz,-⟩:=yw ac;obtain⟨-,eI,cg,-⟩:=zy hm;obtain⟨i0,hi,eZ,bF,fa⟩:=info_parts Tryz.iop79;have bR:Hid (∀i,i<L.b.length->0<=ak T i/\ak T i<=1000):=fun i hi=>by have h:=zq bz i (by omega);grind [VS,zH]
 have ef:Hid (((((w.alloc (lC L a0 (some (E bb bo)) a2 A m B)).alloc (tO t)).alloc (.cells #[J P,.slice (some (E tb n)) L.b.length tc] 110)).alloc (kB 0 0 none 0 0)).heap.size=(w.heap.size+1+1+1+1)):=by show _=_;simp
 have bG:=Z (YQ (QA (w.heap.size+1+1+1+1) ((((w.alloc (lC L a0 (some (E bb bo)) a2 A m B)).alloc (tO t)).alloc (.cells #[J P,.slice (some (E tb n)) L.b.length tc] 110)).alloc (kB 0 0 none 0 0)))).2.2.2.2.2;have cU:=Z (hS ((lv L a0 (some (E bb bo)) a2 A m B)) (.agg #[J P,.slice (some (E tb n)) L.b.length tc]) t L P T ((((w.alloc (lC L a0 (some (E bb bo)) a2 A m B)).alloc (tO t)).alloc (.cells #[J P,.slice (some (E tb n)) L.b.length tc] 110)).alloc (kB 0 0 none 0 0)) (hL.gE bG.o) (hP.gE bG.o) ac);have bW:=hD;rw [<-aM] at bW;have bJ:=Z (fun W (hb:Bw w W)=>OA t D (some (E db dz)) dc W (bW.gE hb));rw [hall,aM] at bJ;have cL:=Z gQ;have ek:=Z ah;have dP:=Z af;have bK:=Z ac;have dQ:=Z ay;clear hL hP hD bW ac gQ ah af hm bE bz hall aM dj ay bG;go_enter func96,ntmps96;go_wp2_with fail;apply cU.o.m;rintro e N ⟨rfl,dm⟩;have bT:Hid (Below (w.heap.size+1+1+1+1) ((((w.alloc (lC L a0 (some (E bb bo)) a2 A m B)).alloc (tO t)).alloc (.cells #[J P,.slice (some (E tb n)) L.b.length tc] 110)).alloc (kB 0 0 none 0 0)) N):=by simp_all
 obtain⟨b0,b1,b2,b3,hz,p⟩:=YQ bT.o;have t0:N.cell? (E (w.heap.size+1) 0)=Y t.u0:=cb b1
 have t1:N.cell? (E (w.heap.size+1) 1)=Y t.u1:=cb b1
 have t2:N.cell? (E (w.heap.size+1) 2)=Y t.u2:=cb b1
 have t3:N.cell? (E (w.heap.size+1) 3)=Y t.w0:=cb b1
 have t4:N.cell? (E (w.heap.size+1) 4)=Y t.w1:=cb b1
 have t5:N.cell? (E (w.heap.size+1) 5)=Y t.w2:=cb b1
 have t6:N.cell? (E (w.heap.size+1) 6)=Y t.r:=cb b1
 have cM:=Z (bJ.o N p);clear dm b0 b1 b2 b3 p cU bJ;go_wp2_with fail;apply cM.o.m;rintro e x1 ⟨rfl,aF⟩;have bU:Hid (Below (w.heap.size+1+1+1+1) ((((w.alloc (lC L a0 (some (E bb bo)) a2 A m B)).alloc (tO t)).alloc (.cells #[J P,.slice (some (E tb n)) L.b.length tc] 110)).alloc (kB 0 0 none 0 0)) x1):=bT.o.t (aF.m hz);obtain⟨b0,b1,b2,b3,dO,-⟩:=YQ bU.o;have l1:x1.cell? (E w.heap.size 1)=some (.slice (some (E bb bo)) L.b.length m):=cb b0
 have e0:x1.cell? (E (w.heap.size+1+1) 0)=Y P:=cb b2
 have bQ:=Z (jZ.start L t P T D x1);have fF:w.heap.size<x1.heap.size:=by omega
 clear t0 t1 t2 t3 t4 t5 t6 hz aF b0 b1 b2 b3 cM bT;go_wp2;clear l1 e0;go_loopw [42] (fun i wr=>∃k:Nat,k<=L.b.length/\i=J k/\jZ L t P T D x1 k wr) (fun i _=>L.b.length - (intOf i).toNat)
 case atStart=>exact⟨0,Ql _,rfl,bQ.o⟩
 clear bQ;obtain⟨k,hk,rfl,O⟩:=hrel;have dg:Hid (Below (w.heap.size+1+1+1+1) ((((w.alloc (lC L a0 (some (E bb bo)) a2 A m B)).alloc (tO t)).alloc (.cells #[J P,.slice (some (E tb n)) L.b.length tc] 110)).alloc (kB 0 0 none 0 0)) wr):=bU.o.t (O.bel.m dO);obtain⟨b0,b1,b2,b3,fu,p⟩:=YQ dg.o;by_cases I:k<L.b.length
 ·have bZ:(k:Int)<(L.b.length:Int):=by omega
  obtain⟨Q,R,S,U,V,X,c6,c7,c8⟩:=Ue (fun j l=>(ze p bb (bo+k*9+j) hbb).t (cL.o k I j l));have eA:bb<wr.heap.size:=by omega
  have bY:=(ze p db (dz+k) eD).t (dP.o k I);have cC:=(ze p tb (n+k) eT).t (ek.o k I);obtain⟨M,tk2⟩:=bR.o k I;have dD:=O.lt;have bN:Hid (ja L t P T D k 0=⟨ak T k % P,ak T k / P,(zc L.b k).o,ak D k,0,0,(zc L.b k).ar,(zc L.b k).sp,(zc L.b k).pl,(zc L.b k).nn⟩):=rfl;have au:Hid (yv P T (k+1)=if yv P T k<=ak T k / P then ak T k / P+1 else yv P T k):=rfl;have cx:0<=yv P T k:=by
   rcases Nat.eq_zero_or_pos k with e | e
   ·rw [e];exact QR _
   have:=up P T k 0 e;have:=WY (bR.o 0 (by omega)).1 (show 0<=P by omega);omega
  have cA:yv P T k<=1001:=uq P T 1001 (by omega) k (fun s hs=>by have h:=bR.o s (by omega);have:=WK (Eg P h.1) h.2;omega);obtain⟨la,lc,aO,gJ⟩:=O.blk;have cS:=Z aO;have aJ:=Z gJ;have F:=Z (fun y w1 la' lc' h1 h2 h3 h4=>jZ.next2 (y:=y) (w1:=w1) (la':=la') (lc':=lc') (st:=yv P T k) gJ h1 h2 h3 h4);have bH:=Z O.bel;rw [bN.o] at F;have aX:=WY M (show 0<=P by omega);have aY:ak T k / P<=1000:=WK (Eg _ M) tk2;obtain⟨tk,bj⟩:=nm (ak T k);obtain⟨d,aN⟩:=nm (ak D k);rw [aN] at bY F;rw [bj] at cC M tk2 aX aY F au;obtain⟨st,bg⟩:=nm (yv P T k);rw [bg] at cS au cx cA F;generalize zc L.b k=xk at Q R S U V X c6 c7 c8 F;obtain⟨o,xa,xb,ya,yb,ar,sp,pl,nn⟩:=xk;(try simp only at Q R S U V X c6 c7 c8 F);have aI:=Z (fun W=>OC o xa xb ya yb ar sp pl nn tk P d W M tk2 dh di);obtain⟨sl,bf⟩:=nm (tk % P);obtain⟨sg,aZ⟩:=nm (tk / P);rw [bf] at F aI;rw [aZ] at aX aY F au aI;have dN:(wr.alloc (nB o xa xb ya yb ar sp pl nn)).heap.size=wr.heap.size+1:=by simp
  have aE:=Z dN;have aD:Hid (∀y,Below (wr.heap.size+1) (wr.alloc (nB o xa xb ya yb ar sp pl nn)) y->((y.cell? (E wr.heap.size 0)=Y o/\y.cell? (E wr.heap.size 1)=Y xa/\y.cell? (E wr.heap.size 2)=Y xb/\y.cell? (E wr.heap.size 3)=Y ya/\y.cell? (E wr.heap.size 4)=Y yb/\y.cell? (E wr.heap.size 5)=Y ar/\y.cell? (E wr.heap.size 6)=Y sp/\y.cell? (E wr.heap.size 7)=Y pl/\y.cell? (E wr.heap.size 8)=Y nn)/\(y.cell? (E (w.heap.size+1+1) 0)=Y P/\y.cell? (E (w.heap.size+1+1) 1)=some (.slice (some (E tb n)) L.b.length tc))/\y.cell? (E tb (n+k))=Y tk/\y.cell? (E db (dz+k))=Y d)):=fun y hy=>by have hb:y.heap[wr.heap.size]?=some (nB o xa xb ya yb ar sp pl nn):=(hy.block _ (by omega)).t (zm _ _ _);have h2:=(Qd wr (nB o xa xb ya yb ar sp pl nn)).t (hy.m (by omega));have G:=(h2.block (w.heap.size+1+1) (by omega)).t b2;refine⟨⟨?_,?_,?_,?_,?_,?_,?_,?_,?_⟩,⟨cb G,cb G⟩,(ze h2 _ _ (by omega)).t cC,(ze h2 _ _ (by omega)).t bY⟩ <;> (rw [Qa hb];rfl)
  have aA:Hid (∀y,Below (wr.heap.size+1) (wr.alloc (nB o xa xb ya yb ar sp pl nn)) y->Bw wr y):=fun y hy=>(Qd wr _).t (hy.m (Ep _));clear bj aN bg bf aZ aO gJ O b0 b1 b2 b3 dN;go_wp2;clear Q R S U V X c6 c7 c8 bY cC;refine rh 14 aD.o (zL _ _) fun h9=>?_;refine aq 0 ?_;refine aq 2 ?_;refine aq 4 ?_;refine aq 6 ?_;refine aq 8 ?_;refine aq 10 ?_;refine Xp (i:=12) (j:=13) rfl rfl (by kernel_rfl) (fun K f=>?a1) (fun K f=>?a2)
  case' a1 =>
   go_simp;refine (aI.o _).m ?_;rintro e a ⟨rfl,G⟩;have H:Hid (Below (wr.heap.size+1) (wr.alloc (nB o xa xb ya yb ar sp pl nn)) a):=(zL _ _).t (G.m (by simp));have gY:=aD.o _ H.o;have cB:wr.heap.size+1<=a.heap.size:=(by have:=H.o.size;rw [aE.o] at this;exact this);clear G;refine bq f.o (.inr gY) ?_;clear f K;have gX:=aD.o _ (H.o.alloc cB (.cells #[J 0,J 0,J 0,J 0,J 0,J 0,J 0,J 0,J 0,J 0] 79));refine uo 13 fun K f=>?_;go_simp;refine bq f.o (.inr gX) ?_;clear f K;refine uo 14 fun K f=>?_;go_simp;refine bq f.o (.inl rfl) ?_;clear f K;refine rd ?_;clear h9 gY gX;have HW:Hid (Bw wr (a.alloc (.cells #[J sl,J sg,J o,J d,J 0,J 0,J ar,J sp,J pl,J nn] 79))):=aA.o _ (H.o.alloc cB _);have HU:Hid ((a.alloc (.cells #[J sl,J sg,J o,J d,J 0,J 0,J ar,J sp,J pl,J nn] 79)).heap[a.heap.size]?=some (.cells #[J sl,J sg,J o,J d,J 0,J 0,J ar,J sp,J pl,J nn] 79 (0,0))):=zm _ _ _;have dJ:wr.heap.size<a.heap.size:=(by omega);clear H cB;generalize (a.alloc (.cells #[J sl,J sg,J o,J d,J 0,J 0,J ar,J sp,J pl,J nn] 79))=W at *
   generalize q:a.heap.size=C at *
   clear q
  case' a2 =>
   go_simp;have bV:Below (wr.heap.size+1) (wr.alloc (nB o xa xb ya yb ar sp pl nn)) ((wr.alloc (nB o xa xb ya yb ar sp pl nn)).drew.alloc (.cells #[J 0,J 0,J 0,J 0,J 0,J 0,J 0,J 0,J 0,J 0] 79)):=(zL _ _).alloc (by simp) _;have gY:=aD.o _ bV;refine bq f.o (.inr gY) ?_;clear f K;refine uo 12 fun K f=>?_;go_simp;refine (aI.o _).m ?_;rintro e a ⟨rfl,G⟩;have cW:Hid (((wr.alloc (nB o xa xb ya yb ar sp pl nn)).drew.alloc (.cells #[J 0,J 0,J 0,J 0,J 0,J 0,J 0,J 0,J 0,J 0] 79)).heap[wr.heap.size+1]?=some (.cells #[J 0,J 0,J 0,J 0,J 0,J 0,J 0,J 0,J 0,J 0] 79 (0,0))):=(by show _=_;have e:(wr.alloc (nB o xa xb ya yb ar sp pl nn)).drew.heap.size=wr.heap.size+1:=aE.o;rw [<-e];exact zm _ _ _);have hz:wr.heap.size+1+1<=((wr.alloc (nB o xa xb ya yb ar sp pl nn)).drew.alloc (.cells #[J 0,J 0,J 0,J 0,J 0,J 0,J 0,J 0,J 0,J 0] 79)).heap.size:=(by simp);have c:Hid (a.heap[wr.heap.size+1]?=some (.cells #[J 0,J 0,J 0,J 0,J 0,J 0,J 0,J 0,J 0,J 0] 79 (0,0))):=(G.block _ (Qu (QF _) hz)).t cW.o;have H:Hid (Below (wr.heap.size+1) (wr.alloc (nB o xa xb ya yb ar sp pl nn)) a):=bV.t (G.m (QH (Ep _) hz));have gX:=aD.o _ H.o;clear G bV h9 hz;refine bq f.o (.inr gX) ?_;clear f K;have n0:a.cell? (E (wr.heap.size+1) 0)=Y 0:=(cb c.o);have f0:a.frozen? (E (wr.heap.size+1) 0)=false:=(by simp [World.frozen?,c.o]);have n1:a.cell? (E (wr.heap.size+1) 1)=Y 0:=(cb c.o);have f1:a.frozen? (E (wr.heap.size+1) 1)=false:=(by simp [World.frozen?,c.o]);have n2:a.cell? (E (wr.heap.size+1) 2)=Y 0:=(cb c.o);have f2:a.frozen? (E (wr.heap.size+1) 2)=false:=(by simp [World.frozen?,c.o]);have n3:a.cell? (E (wr.heap.size+1) 3)=Y 0:=(cb c.o);have f3:a.frozen? (E (wr.heap.size+1) 3)=false:=(by simp [World.frozen?,c.o]);have n4:a.cell? (E (wr.heap.size+1) 4)=Y 0:=(cb c.o);have f4:a.frozen? (E (wr.heap.size+1) 4)=false:=(by simp [World.frozen?,c.o]);have n5:a.cell? (E (wr.heap.size+1) 5)=Y 0:=(cb c.o);have f5:a.frozen? (E (wr.heap.size+1) 5)=false:=(by simp [World.frozen?,c.o]);have n6:a.cell? (E (wr.heap.size+1) 6)=Y 0:=(cb c.o);have f6:a.frozen? (E (wr.heap.size+1) 6)=false:=(by simp [World.frozen?,c.o]);have n7:a.cell? (E (wr.heap.size+1) 7)=Y 0:=(cb c.o);have f7:a.frozen? (E (wr.heap.size+1) 7)=false:=(by simp [World.frozen?,c.o]);have n8:a.cell? (E (wr.heap.size+1) 8)=Y 0:=(cb c.o);have f8:a.frozen? (E (wr.heap.size+1) 8)=false:=(by simp [World.frozen?,c.o]);have n9:a.cell? (E (wr.heap.size+1) 9)=Y 0:=(cb c.o);have f9:a.frozen? (E (wr.heap.size+1) 9)=false:=(by simp [World.frozen?,c.o]);refine uo 14 fun K f=>?_;go_simp;refine bq f.o (.inl rfl) ?_;clear f K;refine rd ?_;clear gY gX n0 n1 n2 n3 n4 n5 n6 n7 n8 n9 f0 f1 f2 f3 f4 f5 f6 f7 f8 f9;have HW:Hid (Bw wr ((((((((((a.setCell (E (wr.heap.size+1) 0) (J sl)).setCell (E (wr.heap.size+1) 1) (J sg)).setCell (E (wr.heap.size+1) 2) (J o)).setCell (E (wr.heap.size+1) 3) (J d)).setCell (E (wr.heap.size+1) 4) (J 0)).setCell (E (wr.heap.size+1) 5) (J 0)).setCell (E (wr.heap.size+1) 6) (J ar)).setCell (E (wr.heap.size+1) 7) (J sp)).setCell (E (wr.heap.size+1) 8) (J pl)).setCell (E (wr.heap.size+1) 9) (J nn))):=aA _ (((((((((((H.setCell (Qc _) _).setCell (Qc _) _).setCell (Qc _) _).setCell (Qc _) _).setCell (Qc _) _).setCell (Qc _) _).setCell (Qc _) _).setCell (Qc _) _).setCell (Qc _) _).setCell (Qc _) _));have HU:Hid (((((((((((a.setCell (E (wr.heap.size+1) 0) (J sl)).setCell (E (wr.heap.size+1) 1) (J sg)).setCell (E (wr.heap.size+1) 2) (J o)).setCell (E (wr.heap.size+1) 3) (J d)).setCell (E (wr.heap.size+1) 4) (J 0)).setCell (E (wr.heap.size+1) 5) (J 0)).setCell (E (wr.heap.size+1) 6) (J ar)).setCell (E (wr.heap.size+1) 7) (J sp)).setCell (E (wr.heap.size+1) 8) (J pl)).setCell (E (wr.heap.size+1) 9) (J nn)).heap[wr.heap.size+1]?=some (.cells #[J sl,J sg,J o,J d,J 0,J 0,J ar,J sp,J pl,J nn] 79 (0,0))):=OG c;have dJ:wr.heap.size<wr.heap.size+1:=QF _;clear cW c H;generalize ((((((((((a.setCell (E (wr.heap.size+1) 0) (J sl)).setCell (E (wr.heap.size+1) 1) (J sg)).setCell (E (wr.heap.size+1) 2) (J o)).setCell (E (wr.heap.size+1) 3) (J d)).setCell (E (wr.heap.size+1) 4) (J 0)).setCell (E (wr.heap.size+1) 5) (J 0)).setCell (E (wr.heap.size+1) 6) (J ar)).setCell (E (wr.heap.size+1) 7) (J sp)).setCell (E (wr.heap.size+1) 8) (J pl)).setCell (E (wr.heap.size+1) 9) (J nn))=W at *
   generalize q:wr.heap.size+1=C at HU dJ ⊢;clear q
  all_goals
   clear aD aA aE aI
   have cD:C<W.heap.size:=(lo HU)
   have bC:Hid (W.heap[x1.heap.size]?=some (kB P st la k lc)):=(HW.block _ dD).t cS
   have df:Hid (W.ownsRow (x1.heap.size+1) 79 10 (.slice la k lc) k (YO ((List.range k).map fun s=>ja L t P T D s 0))):=zp aJ HW
   have bI:Hid (Bw x1 W):=bH.t (HW.m (Q7 dD))
   have eH:¬x1.heap.size=C:=by omega
   have dC:¬C=x1.heap.size:=by omega
   have ce:x1.heap.size<W.heap.size:=by omega
   have aU:=zA aJ
   obtain⟨o0,o1,o2,o3,o4,o5,o6,o7,o8,o9⟩:=jP (b:=C) (o:=0) (x:=⟨sl,sg,o,d,0,0,ar,sp,pl,nn⟩) (w:=W) (fun j l=>by rw [Qa HU,QO];rfl)
   simp only [QO] at o1 o2 o3 o4 o5 o6 o7 o8 o9
   have m0:W.cell? (E x1.heap.size 0)=Y P:=cb bC
   have m1:W.cell? (E x1.heap.size 1)=Y st:=cb bC
   have m2:W.cell? (E x1.heap.size 2)=some (.slice la k lc):=cb bC
   have aV:=zD df
   obtain⟨la9,lc9,eS,ft,eC⟩:=aV
   injection eS with hsh1 hsh2 hsh3
   clear hsh1 hsh2
   subst hsh3
   unfold maxLen at eC
   have er:Hid ((W.alloc (.cells #[J sl,J sg,J o,J d,J 0,J 0,J ar,J sp,J pl,J nn] 79)).heap[x1.heap.size]?=some (kB P st la k lc)):=by
    show _=_
    rw [Qr _ _ _ ce]
    exact bC
   have eu:Hid ((W.alloc (.cells #[J sl,J sg,J o,J d,J 0,J 0,J ar,J sp,J pl,J nn] 79)).heap[C]?=some (.cells #[J sl,J sg,J o,J d,J 0,J 0,J ar,J sp,J pl,J nn] 79 (0,0))):=by
    show _=_
    rw [Qr _ _ _ cD]
    exact HU
   have eq:Hid (Bw x1 (W.alloc (.cells #[J sl,J sg,J o,J d,J 0,J 0,J ar,J sp,J pl,J nn] 79))):=bI.alloc (by omega) _
   have ee:Hid (∀(j:Nat) (u:vO),[J sl,J sg,J o,J d,J 0,J 0,J ar,J sp,J pl,J nn][j]?=some u->(W.alloc (.cells #[J sl,J sg,J o,J d,J 0,J 0,J ar,J sp,J pl,J nn] 79)).cell? (((E W.heap.size 0):Addr).add j)=some u):=Jn W #[J sl,J sg,J o,J d,J 0,J 0,J ar,J sp,J pl,J nn] 79
   have fC:wrap64 (sg+1)=sg+1:=by unfold wrap64;omega
   have fD:IntKind.i64.wrap (sg+1)=sg+1:=xG _ (by omega) (by omega)
   have dU:Hid (∀w1:wO,(W.alloc (.cells #[J sl,J sg,J o,J d,J 0,J 0,J ar,J sp,J pl,J nn] 79)).grownBy w1 (Value.ownBlock (.slice la k lc))->w1.heap[C]?=some (.cells #[J sl,J sg,J o,J d,J 0,J 0,J ar,J sp,J pl,J nn] 79 (0,0))):=fun w1 hg=>(hg.block C (by simp;omega) (fun e=>by have:=aU C e.s;omega)).t eu
   clear aU
   go_wp2_with (at_builtin;refine QQ _ rfl (.tmp 61) (.tmp 63) 73 rfl (x1.heap.size+1) 79 i0 (.agg #[J 0,J 0,J 0,J 0,J 0,J 0,J 0,J 0,J 0,J 0]) 10 80 underlying73 hi eZ bF fa rfl (by decide) _ _ _ rfl (zp df (Qd _ _)) (E W.heap.size 0) 1 1 [J sl,J sg,J o,J d,J 0,J 0,J ar,J sp,J pl,J nn] rfl rfl (by exact ee) (by intro u hu;simp at hu;rcases hu with rfl | rfl | rfl | rfl | rfl | rfl | rfl | rfl | rfl | rfl <;> rfl) (by unfold maxLen;omega) (by omega) (by simp;omega) ?_;intro v1 w1 gM gL hnil1;obtain⟨la1,lc1,rfl,-,-⟩:=zD gM;have ed:=Z gM;have cN:=Z gL;clear gM gL hnil1;have ao:=Z (F _ w1 _ _ eq er ed cN);have dV:=Z (dU w1 cN);clear m0 m1 m2 o0 o1 o2 o3 o4 o5 o6 o7 o8 o9;have m1:w1.cell? (E x1.heap.size 1)=Y st:=(cb ao.2);have m2:w1.cell? (E x1.heap.size 2)=some (.slice la k lc):=(cb ao.2);have o1:w1.cell? (E C 1)=Y sg:=(cb dV);have mf:w1.frozen? (E x1.heap.size 2)=false:=(by simp [World.frozen?,ao.2]);have mf1:w1.frozen? (E x1.heap.size 1)=false:=(by simp [World.frozen?,ao.2]))
   go_roundw
   case rel =>
    have eh:(if st<sg+1 then sg+1 else st)=yv P T (k+1):=by
     rw [au]
     omega
    exact⟨k+1,by omega,by go_num,by rw [eh];exact ao.1⟩
   case measure=>simp [intOf];omega
 have e:k=L.b.length:=by omega
 subst e;have bZ:¬(L.b.length:Int)<(L.b.length:Int):=by omega
 obtain⟨g,lc,aO,dy,aP,aB,gI⟩:=O.row (by omega);have cO:Hid (gw L t P T D x1 g lc 0 0 wr):=⟨O.bel,aO,gI,dy⟩;have bO:=Z (fun wr (h:gw L t P T D x1 g lc L.b.length 0 wr)=>h.ops aP aB);unfold maxLen at aB;have l1:wr.cell? (E w.heap.size 1)=some (.slice (some (E bb bo)) L.b.length m):=cb b0
 clear O aO gI b0 b1 b2 b3 p dg;go_wp2;clear l1;go_loopw [77] (fun iv wr=>∃i:Nat,i<=L.b.length/\iv=J i/\gw L t P T D x1 g lc i 0 wr) (fun iv _=>L.b.length - (intOf iv).toNat)
 case atStart=>exact⟨0,Ql _,rfl,cO⟩
 clear cO;obtain⟨i,fo,rfl,l⟩:=hrel;have cH:Below (w.heap.size+1+1+1+1) ((((w.alloc (lC L a0 (some (E bb bo)) a2 A m B)).alloc (tO t)).alloc (.cells #[J P,.slice (some (E tb n)) L.b.length tc] 110)).alloc (kB 0 0 none 0 0)) wr:=bU.t (l.bel.m dO);obtain⟨b0,b1,b2,b3,fH,p⟩:=YQ cH;have fs:=l.lt;by_cases aj:i<L.b.length
 ·have dA:(i:Int)<(L.b.length:Int):=by omega
  obtain⟨Q,R,S,U,V,X,c6,c7,c8⟩:=Ue (fun j l=>(ze p bb (bo+i*9+j) hbb).t (cL i aj j l));have eA:bb<wr.heap.size:=by omega
  have t6:wr.cell? (E (w.heap.size+1) 6)=Y t.r:=cb b1
  have m2:wr.cell? (E x1.heap.size 2)=some (.slice (pA g) L.b.length lc):=cb l.blk
  have fG:w.heap.size+1<wr.heap.size:=by omega
  obtain⟨xk,cI⟩:∃xk,zc L.b i=xk:=⟨_,rfl⟩;rw [cI] at Q R S U V X c6 c7 c8;obtain⟨o,xa,xb,ya,yb,ar,sp,pl,nn⟩:=xk;(try simp only at Q R S U V X c6 c7 c8);have dZ:=Z (OF t L P T D x1 g lc i o xa xb ya yb ar sp pl nn (wr.alloc (nB o xa xb ya yb ar sp pl nn)) bK dQ cI aj aP aB (l.gE (Qd _ _)));clear cI l b0 b1 b2 b3 p cH;go_wp2_with fail;refine dZ.m ?_;rintro e x5 ⟨rfl,dB⟩;have dX:=Z dB;clear dB Q R S U V X c6 c7 c8 t6 m2;go_wp2;go_roundw
  case rel=>exact⟨i+1,by omega,by go_num,dX⟩
  simp [intOf];omega
 have e:i=L.b.length:=by omega
 subst e;have dA:¬(L.b.length:Int)<(L.b.length:Int):=by omega
 have m0:wr.cell? (E x1.heap.size 0)=Y P:=cb l.blk
 have m1:wr.cell? (E x1.heap.size 1)=Y (yv P T L.b.length):=cb l.blk
 have m2:wr.cell? (E x1.heap.size 2)=some (.slice (pA g) L.b.length lc):=cb l.blk
 have k0:wr.cell? (E ((w.heap.size+1+1+1)) 0)=Y 0:=cb b3
 have k1:wr.cell? (E ((w.heap.size+1+1+1)) 1)=Y 0:=cb b3
 have k2:wr.cell? (E ((w.heap.size+1+1+1)) 2)=some (.slice none 0 0):=cb b3
 have f0:wr.frozen? (E ((w.heap.size+1+1+1)) 0)=false:=by simp [World.frozen?,b3]
 have f1:wr.frozen? (E ((w.heap.size+1+1+1)) 1)=false:=by simp [World.frozen?,b3]
 have f2:wr.frozen? (E ((w.heap.size+1+1+1)) 2)=false:=by simp [World.frozen?,b3]
 have HT:=Z (Jm (a':=J P) (b':=J (yv P T L.b.length)) (d':=.slice (pA g) L.b.length lc) b3);have hO:=bO wr l;obtain⟨dw,dt⟩:=dR;have HF:Hid (sy L t P T D w (.returned (.tuple #[.agg #[J P,J (yv P T L.b.length),.slice (pA g) L.b.length lc],J 0])) (((wr.setCell (E ((w.heap.size+1+1+1)) 0) (J P)).setCell (E ((w.heap.size+1+1+1)) 1) (J (yv P T L.b.length))).setCell (E ((w.heap.size+1+1+1)) 2) (.slice (pA g) L.b.length lc))):=by refine⟨((p.setCell (by show w.heap.size<=(w.heap.size+1+1+1);omega) _).setCell (by show w.heap.size<=(w.heap.size+1+1+1);omega) _).setCell (by show w.heap.size<=(w.heap.size+1+1+1);omega) _,P,yv P T L.b.length,_,by rw [dt],?_⟩;rw [dw];exact⟨_,rfl,sC (sC (sC hO (show (w.heap.size+1+1+1)≠g by omega) 0 _) (show (w.heap.size+1+1+1)≠g by omega) 1 _) (show (w.heap.size+1+1+1)≠g by omega) 2 _⟩
 obtain⟨z,bh⟩:=nm (yv P T L.b.length);rw [bh] at m1 HT HF;clear hO b0 b1 b2 b3 l p cH dw dt bh;go_wp2;have s0:(((wr.setCell (E ((w.heap.size+1+1+1)) 0) (J P)).setCell (E ((w.heap.size+1+1+1)) 1) (J z)).setCell (E ((w.heap.size+1+1+1)) 2) (.slice (pA g) L.b.length lc)).cell? (E ((w.heap.size+1+1+1)) 0)=Y P:=cb HT
 have s1:(((wr.setCell (E ((w.heap.size+1+1+1)) 0) (J P)).setCell (E ((w.heap.size+1+1+1)) 1) (J z)).setCell (E ((w.heap.size+1+1+1)) 2) (.slice (pA g) L.b.length lc)).cell? (E ((w.heap.size+1+1+1)) 1)=Y z:=cb HT
 have s2:(((wr.setCell (E ((w.heap.size+1+1+1)) 0) (J P)).setCell (E ((w.heap.size+1+1+1)) 1) (J z)).setCell (E ((w.heap.size+1+1+1)) 2) (.slice (pA g) L.b.length lc)).cell? (E ((w.heap.size+1+1+1)) 2)=some (.slice (pA g) L.b.length lc):=cb HT
 exact bodyPost_ret (v:=.tuple #[.agg #[J P,J z,.slice (pA g) L.b.length lc],J 0]) (by simp [results,results96,go_sem,s0,s1,s2]) rfl HF
end
end Go.Proofs.YtjlfcbccpcigeacGreatDoor
