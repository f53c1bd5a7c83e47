import Derived.Test.YtjlfcbccpcigeacGreatDoorD
set_option maxHeartbeats 40000000
set_option linter.defProp false
namespace Go.Proofs.YtjlfcbccpcigeacGreatDoor
open Go.Proofs.Tryz Go.RowKit Go.Joins
set_option linter.unusedVariables false
set_option linter.unusedSimpArgs false
set_option maxRecDepth 8192
section
variable {w0 wr w' w w2 wb w1:wO} {R gp cp gm cm N n T k g cap X pc base mc:Nat} {l0 l1 l2 mv pv v s0 s1:vO} {lenM GM CM G C:Nat->Nat} {B:List Li} {s:Sq} {c:Array vO} {e:TypeId} {am pa ma:Option Addr} {o xa xb ya yb ar sp pl nn:Int} {xs:List vO} {f:Nat->Nat->Int}
def ZY (B:List Li) (val:Nat->Nat->Int) (i j:Nat):Int:=if j<3 then ak (zB B i) (2 - j) else val (j - 3) i
def Xk (T k i:Nat):Nat:=if i<k then T+4 else T+3
def Pu (B:List Li) (val:Nat->Nat->Int) (T x y:Nat) (h:y<=3):ZY B val x (3+T - y)=jN B val T x y:=by grind [ZY,jN]
theorem Pv (B:List Li) (val:Nat->Nat->Int) (T i:Nat):ZY B val i (T+2)=if T=0 then ak (zB B i) 0 else val (T - 1) i:=by grind [ZY]
def Pw (xs:List vO) (u:vO) (j:Nat) (h:j<xs.length):(xs++[u]).getD j (.bool false)=xs.getD j (.bool false):=rQ
structure xJ (w0:wO) (R:Nat) (l0 l1 l2:vO) (gp cp:Nat) (mv:vO) (gm cm N n:Nat) (lenM GM CM:Nat->Nat) (B:List Li) (G C:Nat->Nat) (T k:Nat) (s:Sq) (wr:wO):Prop where
 bel:Bw w0 wr
 hR:wr.heap[R]?=some (.cells #[l0,l1,l2,.slice (pA gp) N cp,mv] 225 (0,0))
 hRb:w0.heap.size<=R
 pout:zr wr gp 56 N (YU G C (Xk T k))
 pb:w0.heap.size<=gp/\N<=cp/\cp<=maxLen
 pin:∀i,i<N->w0.heap.size<=G i/\C i<=maxLen/\Zh wr (G i) 2 (C i) (Xk T k i) (fun j=>J (ZY B s.val i j))
 pinj:∀i j,i<N->j<N->i≠j->G i≠G j
 mout:n=0\/(mv=.slice (pA gm) n cm/\n<=cm/\cm<=maxLen/\zr wr gm 56 n (YU GM CM lenM)/\w0.heap.size<=gm/\gm≠gp)
 min:Xc wr w0.heap.size GM CM n lenM s.mem
 apart:∀i j,i<N->j<n->G i≠GM j
def xJ.gE
  (h:xJ w0 R l0 l1 l2 gp cp mv gm cm N n lenM GM CM B G C T k s wr) (hb:Bw wr w'):xJ w0 R l0 l1 l2 gp cp mv gm cm N n lenM GM CM B G C T k s w' where
 bel:=h.bel.tm hb
 hR:=by rw [hb.block R (lo h.hR)];exact h.hR
 hRb:=h.hRb
 pout:=h.pout.gE hb h.pout.lt
 pb:=h.pb
 pin:=fun i hi=>⟨(h.pin i hi).1,(h.pin i hi).2.1,(h.pin i hi).2.2.gE hb (h.pin i hi).2.2.lt⟩
 pinj:=h.pinj
 mout:=by
  rcases h.mout with h1 | ⟨h1,b,c,a,d⟩
  ·exact .inl h1
  ·exact .inr ⟨h1,b,c,a.gE hb a.lt,d⟩
 min:=h.min.gE hb
 apart:=h.apart
def ZF {a:TypeId} {f:Nat->vO} (h:w.heap[R]?=some (.cells c e (0,0))) (hr:zr w g a n f) (b:e≠a):R≠g:=by grind [zr]
def xJ.setMem
  (h:xJ w0 R l0 l1 l2 gp cp mv gm cm N n lenM GM CM B G C T k s wr) (i j:Nat) (v:Int) (hi:i<n) (l:j<lenM i) :
  xJ w0 R l0 l1 l2 gp cp mv gm cm N n lenM GM CM B G C T k ⟨Zs s.mem i j v,s.val⟩ (wr.setCell (E (GM i) j) (J v)) where
 bel:=h.bel.setCell (by show w0.z<=GM i;exact (h.min.1 i hi).1) _
 hR:=by rw [Qj _ _ _ _ (by show R≠GM i;exact ZF h.hR (h.min.1 i hi).2.2.2 tQ)];exact h.hR
 hRb:=h.hRb
 pout:=h.pout.gF (by show gp≠GM i;exact h.pout.apart (h.min.1 i hi).2.2.2 tQ) _
 pb:=h.pb
 pin:=fun a b=>⟨(h.pin a b).1,(h.pin a b).2.1,(h.pin a b).2.2.gF (by show G a≠GM i;exact h.apart a i b hi) _⟩
 pinj:=h.pinj
 mout:=by
  rcases h.mout with h1 | ⟨h1,d,f,c,g⟩
  ·exact .inl h1
  ·exact .inr ⟨h1,d,f,c.gF (by show gm≠GM i;exact c.apart (h.min.1 i hi).2.2.2 tQ) _,g⟩
 min:=by
  refine⟨fun a b=>⟨(h.min.1 a b).1,(h.min.1 a b).2.1,(h.min.1 a b).2.2.1,?_⟩,h.min.2⟩
  by_cases e:a=i
  ·subst e
   refine ((h.min.1 a b).2.2.2.set j _ l).congr fun q m=>?_
   grind [vK]
  ·refine ((h.min.1 a b).2.2.2.gF (by show GM a≠GM i;exact h.min.2 a i b hi e) _).congr fun q m=>?_
   grind [rO]
 apart:=h.apart
def xJ.push
  (h:xJ w0 R l0 l1 l2 gp cp mv gm cm N n lenM GM CM B G C T k s wr) (b:k<N) (v:Int)
  (O:w2.ownsRow w0.heap.size 2 1 (.slice (pA g) (T+3+1) cap) (T+3+1) ((List.range (T+3)).map (fun j=>J (ZY B s.val k j))++[J v]))
  (x:wr.grownBy w2 (some (G k))) (W:some (G k)=some g\/wr.heap.size<=g) :
  xJ w0 R l0 l1 l2 gp cp mv gm cm N n lenM GM CM B (fun i=>if i=k then g else G i) (fun i=>if i=k then cap else C i) T (k+1) ⟨s.mem,Zs s.val T k v⟩ (w2.setCell (E gp k) (.slice (pA g) (T+3+1) cap)):=by
 obtain⟨P,Q,S⟩:=uw O;have f:=h.pin k b;have X:w0.z<=G k:=f.1;have z:Bw w0 w2:=h.bel.grown x h.bel.size (fun q y=>sA);have t:gp≠G k:=h.pout.apart f.2.2.row tQ;have F:R≠G k:=ZF h.hR f.2.2.row tQ;have A:R<wr.z:=(lo h.hR);have V:R≠gp:=ZF h.hR h.pout tQ;have blk:∀q,q<wr.z->q≠G k->w2.heap[q]?=wr.heap[q]?:=fun q y U=>x.block q y sA;have d:∀q,q<wr.z->q≠G k->q≠g:=by
  grind
 have D:zr w2 gp 56 N (YU G C (Xk T k)):=h.pout.gG (blk gp h.pout.lt t);refine { bel:=z.setCell (by show w0.z<=gp;exact h.pb.1) _,hR:=?_,hRb:=h.hRb,pout:=?_,pb:=h.pb,pin:=?_,pinj:=?_,mout:=?_,min:=?_,apart:=?_ }
 ·rw [Qj _ _ _ _ lI,blk R A F];exact h.hR
 ·refine (D.set k _ b).congr fun i hi=>?_;grind [YU,Xk]
 ·intro i hi;by_cases e:i=k
  ·subst e;simp only [if_true];refine⟨P,Q,?_⟩;have p:Xk T (i+1) i=T+3+1:=(by simp [Xk]);rw [p];refine (S.gF (by show g≠gp;exact (d gp h.pout.lt t).s) _).congr fun j a=>?_;by_cases u:j<T+3
   ·rw [Pw _ _ _ (by simpa using u),YD _ _ _ u];grind [ZY,rO]
   have H:j=T+3:=(by lia);subst H;simp [ZY,Qe,Gk]
  simp only [Qe e];obtain⟨p1,p2,r⟩:=h.pin i hi;refine⟨p1,p2,?_⟩;have p:Xk T (k+1) i=Xk T k i:=by
   grind [Xk]
  rw [p];refine ((r.gG (blk (G i) r.lt (h.pinj i k hi b e))).gF (by show G i≠gp;exact (h.pout.apart r.row tQ).s) _).congr fun j a=>?_;grind [ZY,Gl]
 ·intro i j hi a o;by_cases l:i=k
  ·by_cases c:j=k
   ·lia
   simp only [Qf l,Qe c];exact (d (G j) (h.pin j a).2.2.lt (h.pinj j k a b c)).s
  by_cases c:j=k
  ·simp only [Qe l,Qf c];exact d (G i) (h.pin i hi).2.2.lt (h.pinj i k hi b l)
  simp only [Qe l,Qe c];exact h.pinj i j hi a o
 ·rcases h.mout with h1 | ⟨h1,I,K,m,L,M⟩
  ·exact .inl h1
  exact .inr ⟨h1,I,K,(m.gG (blk gm m.lt (m.apart f.2.2.row tQ))).gF lI _,L,M⟩
 ·exact (h.min.keep fun i hi=>blk (GM i) (h.min.1 i hi).2.2.2.lt (h.apart k i b hi).s).keep fun i hi=>Qj _ _ _ _ (by show GM i≠gp;exact (h.pout.apart (h.min.1 i hi).2.2.2 tQ).s)
 intro i j hi a;by_cases e:i=k
 ·simp only [Qf e];exact (d (GM j) (h.min.1 j a).2.2.2.lt (h.apart k j b a).s).s
 simp only [Qe e];exact h.apart i j hi a
def xJ.next
  (h:xJ w0 R l0 l1 l2 gp cp mv gm cm N n lenM GM CM B G C T N s wr):xJ w0 R l0 l1 l2 gp cp mv gm cm N n lenM GM CM B G C (T+1) 0 s wr:=by
 have a:∀i,i<N->Xk T N i=Xk (T+1) 0 i:=fun i hi=>by grind [Xk]
 exact { h with
  pout:=h.pout.congr fun i hi=>by grind [YU]
  pin:=fun i hi=>by rw [<-a i hi];exact h.pin i hi }
def xJ.words {a:Nat}
  (h:xJ w0 R l0 l1 l2 gp cp (.slice am n a) gm a N n lenM GM CM B G C T k s wr) (r:n<=a) (f:a<=maxLen) (hs:s.fine) :
  yu wr (.slice am n a) ((List.range n).map fun i=>(List.range (lenM i)).map fun j=>s.mem i j):=by
 have d:((List.range n).map fun i=>(List.range (lenM i)).map fun j=>s.mem i j).length=n:=sM
 refine⟨am,a,by rw [d],lI,f,fun q=>?_⟩;rw [d] at q ⊢;rcases h.mout with e | ⟨l,t,u,m,v⟩
 ·lia
 injection l with f1 f2 f3;refine⟨gm,0,f1,m.lt,fun i hi=>⟨YU GM CM lenM i,by grind [zr.cell],?_⟩⟩;obtain⟨x,y,o,p⟩:=h.min.1 i hi;have hr:zB ((List.range n).map fun i=>(List.range (lenM i)).map fun j=>s.mem i j) i=(List.range (lenM i)).map fun j=>s.mem i j:=by grind [zB]
 have g:∀j,j<lenM i->ak ((List.range (lenM i)).map fun j=>s.mem i j) j=s.mem i j:=fun j b=>by grind [ak]
 have c:((List.range (lenM i)).map fun j=>s.mem i j).length=lenM i:=sM
 rw [hr];refine⟨some (E (GM i) 0),CM i,by rw [c];rfl,lI,o,fun j b=>?_,fun _=>⟨GM i,0,rfl,p.lt,fun j b=>?_⟩⟩
 ·rw [c] at b;rw [g j b];exact hs.1 i j
 grind [zr.cell]
def xJ.cells
  (h:xJ w0 R l0 l1 l2 gp cp mv gm cm N n lenM GM CM B G C T k s wr):wr.cell? (E R 0)=some l0/\wr.cell? (E R 1)=some l1/\wr.cell? (E R 2)=some l2 /\
   wr.cell? (E R 3)=some (.slice (pA gp) N cp)/\wr.cell? (E R 4)=some mv/\R<wr.heap.size :=
 ⟨cb h.hR,cb h.hR,cb h.hR,cb h.hR,cb h.hR,(lo h.hR)⟩
def ud {n k x y:Int} (h:xj n k x y) (a:k<=n):0<=x/\x<n/\0<=y/\y<=3/\(y=0->x<k):=by grind [xj,zH]
def Dl (w:wO) (x y:Int)
  (b:xJ w0 R l0 l1 l2 gp cp mv gm cm N n lenM GM CM B G C T k s w) (L:T<=200) (g:0<=x) (p:x<N) (h:0<=y) (M:y<=3) (m:y=0->x<k) :
  Cp 208 #[.pointer (pA R),.agg #[J x,J y],J T] w (Rt w (J (jN B s.val T x y))):=by
 obtain⟨a,rfl⟩:=QX g;obtain⟨d,rfl⟩:=QX h;have f:a<N:=oM
 obtain⟨-,-,-,u,-,q⟩:=b.cells;have r:w.c gp a=some (vP (G a) (Xk T k a) (C a)):=b.pout.cell f;have I:=b.pout.lt;obtain⟨p1,p2,c⟩:=b.pin a f;obtain⟨-,b2,b3⟩:=b.pb;obtain⟨j,o⟩:∃j,3+T=d+j:=⟨3+T - d,oM⟩;have l:j<Xk T k a:=by grind [Xk]
 have K:=c.row.cell l;have t:=c.lt;have v:=c.le;have i:Hid (jN B s.val T a d=ZY B s.val a j):=by show _=_;rw [<-Pu B s.val T a d oM,show 3+T - d=j from by omega]
 have z:IntKind.i64.wrap (3+(T:Int))=3+(T:Int):=by rw [Wq];omega
 have A:(3:Int)+(T:Int) - (d:Int)=(j:Int):=oM
 have D:(j:Int)<(Xk T k a:Int):=oM
 have F:(a:Int)<(N:Int):=oM
 have H:IntKind.i64.wrap (j:Int)=(j:Int):=by rw [Wq];omega
 unfold maxLen at p2 b3;generalize Xk T k a=pl at *
 generalize ZY B s.val a j=pv at *
 clear c b p1 g h p m o;go_enter func208,ntmps208;go_wp2;go_quiet ((fail));go_wp2;go_ret;exact⟨xe i.s,(Qd _ _).t (Qm _ _ _)⟩
def Dm (w:wO) (L:Lp) (o xa xb ya yb sp pl nn:Int) (i j:Nat)
  (b:xJ w0 R l0 l1 l2 gp cp mv gm cm N n lenM GM CM B G C T k s w) (q:zM w0 l0 L.l) (hn:n=L.l.length) (hi:i<n) (Q:iu sp pl T (ak L.l i)=(j:Int)) (x:j<lenM i) (K:lenM i<=32) :
  Cp 207 #[.pointer (pA R),.agg #[J o,J xa,J xb,J ya,J yb,J i,J sp,J pl,J nn],J T] w fun e w' =>
   e=.returned (.pointer (some (E (GM i) j)))/\Bw w w':=by
 obtain⟨A,-,-,-,D,y⟩:=b.cells
 have c:=b.bel
 rcases b.mout with h0 | ⟨rfl,V,v,d,W,X⟩
 ·omega
 obtain⟨a,cap,rfl,U,r,u,h⟩:=q
 obtain⟨lb,lo,rfl,m,f⟩:=h oM
 have p:=f i oM
 rw [<-ze c _ _ m] at p
 have M:lb<w.heap.size:=by have:=c.size;omega
 have O:w.c gm i=some (vP (GM i) (lenM i) (CM i)):=d.cell hi
 have P:=d.lt
 obtain⟨i1,i2,i3,g⟩:=b.min.1 i hi
 have z:=g.lt
 have F:(i:Int)<(n:Int):=oM
 have H:(i:Int)<(L.l.length:Int):=oM
 have I:(j:Int)<(lenM i:Int):=oM
 unfold maxLen at v r i3
 generalize lenM i=t at *
 generalize ak L.l i=S at *
 clear g i1 d b c h f u
 go_enter func207,ntmps207
 go_wp2
 go_quiet ((go_at_call 186;exact Calls.quiet_of_same (pD _ _ _ _ _)))
 go_wp2
 go_ret
 exact⟨rfl,(Qd _ _).t (Qm _ _ _)⟩
def jy (n:Nat) (GM:Nat->Nat) (w w':wO):Prop:=(∀g,g<w.heap.size->(∀i,i<n->g≠GM i)->w'.heap[g]?=w.heap[g]?)/\w.heap.size<=w'.heap.size
def jy.of_below (h:Bw w w'):jy n GM w w':=⟨fun g a _=>h.block g a,h.size⟩
def Py (w:wO) (L:Lp) (o xa xb ya yb ar sp pl nn:Int)
  (f:xJ w0 R l0 l1 l2 gp cp mv gm cm N n lenM GM CM B G C T k s w) (g:zc L.b k=⟨o,xa,xb,ya,yb,ar,sp,pl,nn⟩) (r:T<=200) (y:k<N) (o1:11<=o) (z:o<=18) (ra:xj N k xa xb) (rb:xj N k ya yb) :
  Cp 154 #[.pointer (pA R),.agg #[J o,J xa,J xb,J ya,J yb,J ar,J sp,J pl,J nn],J T] w fun e w' =>
   ∃v m,Yg L B T s k=⟨m,Zs s.val T k v⟩/\e=.returned (J v)/\xJ w0 R l0 l1 l2 gp cp mv gm cm N n lenM GM CM B G C T k ⟨m,s.val⟩ w'/\jy n GM w w':=by
 obtain⟨i,j,l,p,q⟩:=ud ra oM
 obtain⟨b1,b2,b3,b4,b5⟩:=ud rb oM
 have A:(o == 1)=false:=QM.2 oM
 have D:(o == 2)=false:=QM.2 oM
 have F:(o == 3)=false:=QM.2 oM
 have H:(o == 4)=false:=QM.2 oM
 have x:IntKind.i64.wrap (o - 10)=o - 10:=Hr _ oM oM
 have c:=Z f
 have h:=Z (Gu (B:=B) (t:=T) (s:=s) g o1)
 clear f g ra rb
 go_enter func154,ntmps154
 go_wp2
 go_region_held3 (fun w'=>w'.cell? (E w.z 0)=Y o/\w'.cell? (E w.z 1)=Y xa/\w'.cell? (E w.z 2)=Y xb/\w'.cell? (E w.z 3)=Y ya/\w'.cell? (E w.z 4)=Y yb/\w.z<w'.z/\Bw w w')
  ((go_split_ands;refine⟨?_,?_,?_,?_,?_,?_,?_⟩ <;> first | (rw [ze a _ _ (by assumption)];assumption) | exact Qu (by assumption) a.size | exact Below.t (by assumption) (a.m (Q7 (by assumption))) | (go_keep;done) | exact (Qd _ _).drew))
  (first
   | (go_at_call 208;refine Calls.m (Dl _ _ _ (c.gE (by go_split_ands;assumption)) r (by first | exact i | exact b1) (by first | exact j | exact b2) (by first | exact l | exact b3) (by first | exact p | exact b4) (by first | exact q | exact b5)) ?_;rintro e w2 ⟨rfl,a⟩)
   | (go_at_call 209;apply (Aj _ _ _ _).m;rintro e u ⟨rfl,a⟩))
 go_wp2
 go_split_ands
 have d:Bw w u:=by assumption
 go_ret
 exact⟨_,_,h,rfl,c.gE d,jy.of_below d⟩
def Pz (w:wO) (L:Lp) (xa xb ya yb ar sp pl nn:Int)
  (a:xJ w0 R l0 l1 l2 gp cp mv gm cm N n lenM GM CM B G C T k s w) (c:zc L.b k=⟨1,xa,xb,ya,yb,ar,sp,pl,nn⟩) :
  Cp 154 #[.pointer (pA R),.agg #[J 1,J xa,J xb,J ya,J yb,J ar,J sp,J pl,J nn],J T] w fun e w' =>
   ∃v m,Yg L B T s k=⟨m,Zs s.val T k v⟩/\e=.returned (J v)/\xJ w0 R l0 l1 l2 gp cp mv gm cm N n lenM GM CM B G C T k ⟨m,s.val⟩ w'/\jy n GM w w':=by
 have d:=Z a
 have f:=Z (Gq (B:=B) (t:=T) (s:=s) c)
 clear a c
 go_enter func154,ntmps154
 go_wp2
 go_ret
 exact⟨_,_,f,rfl,d.gE (Qd _ _),jy.of_below (Qd _ _)⟩
def PD (w:wO) (L:Lp) (xa xb ya yb ar sp pl nn:Int)
  (a:xJ w0 R l0 l1 l2 gp cp mv gm cm N n lenM GM CM B G C T k s w) (c:zc L.b k=⟨2,xa,xb,ya,yb,ar,sp,pl,nn⟩) :
  Cp 154 #[.pointer (pA R),.agg #[J 2,J xa,J xb,J ya,J yb,J ar,J sp,J pl,J nn],J T] w fun e w' =>
   ∃v m,Yg L B T s k=⟨m,Zs s.val T k v⟩/\e=.returned (J v)/\xJ w0 R l0 l1 l2 gp cp mv gm cm N n lenM GM CM B G C T k ⟨m,s.val⟩ w'/\jy n GM w w':=by
 have d:=Z a
 have f:=Z (Gr (B:=B) (t:=T) (s:=s) c)
 clear a c
 go_enter func154,ntmps154
 go_wp2
 go_ret
 exact⟨_,_,f,rfl,d.gE (Qd _ _),jy.of_below (Qd _ _)⟩
def PE (w:wO) (L:Lp) (xa xb ya yb sp pl nn:Int) (i:Nat)
  (d:xJ w0 R l0 l1 l2 gp cp mv gm cm N n lenM GM CM B G C T k s w) (r:zc L.b k=⟨3,xa,xb,ya,yb,i,sp,pl,nn⟩) (A:zM w0 l0 L.l) (hn:n=L.l.length) (hi:i<n)
  (hlen:∀i,i<n->lenM i=2 ^ (ak L.l i).toNat/\lenM i<=32) :
  Cp 154 #[.pointer (pA R),.agg #[J 3,J xa,J xb,J ya,J yb,J i,J sp,J pl,J nn],J T] w fun e w' =>
   ∃v m,Yg L B T s k=⟨m,Zs s.val T k v⟩/\e=.returned (J v)/\xJ w0 R l0 l1 l2 gp cp mv gm cm N n lenM GM CM B G C T k ⟨m,s.val⟩ w'/\jy n GM w w':=by
 have c:=vZ L T ⟨3,xa,xb,ya,yb,i,sp,pl,nn⟩
 have a:=vY L T ⟨3,xa,xb,ya,yb,i,sp,pl,nn⟩
 have hs:=Gs (B:=B) (t:=T) (s:=s) r
 dsimp only at c a
 rw [QL] at c a hs
 rw [<-(hlen i hi).1] at a
 generalize Vs L T ⟨3,xa,xb,ya,yb,i,sp,pl,nn⟩=j at *
 have u:=Z hs
 have g:=Z d
 have z:=(d.min.1 i hi).2.2.2.cell a
 have y:=(d.min.1 i hi).2.2.2.lt
 have h:Bw w (w.alloc (nB 3 xa xb ya yb i sp pl nn)):=Qd _ _
 have o:=Z h
 have x:=(hlen i hi).2
 clear d hs r hlen h
 go_enter func154,ntmps154
 go_wp2_with fail
 refine (Dm _ L 3 xa xb ya yb sp pl nn i j (g.gE o) A hn hi c a x).mr fun w1 p=>?_
 have f:Bw w w1:=o.t (p.m sM)
 rw [<-ze f _ _ y] at z
 have q:=Z f
 clear f p c
 go_wp2
 go_ret
 exact⟨_,_,u,rfl,g.gE q,jy.of_below q⟩
def PF (w:wO) (L:Lp) (xa xb ya yb sp pl nn:Int) (i:Nat)
  (F:xJ w0 R l0 l1 l2 gp cp mv gm cm N n lenM GM CM B G C T k s w) (H:zc L.b k=⟨4,xa,xb,ya,yb,i,sp,pl,nn⟩) (U:zM w0 l0 L.l) (hn:n=L.l.length) (hi:i<n)
  (hlen:∀i,i<n->lenM i=2 ^ (ak L.l i).toNat/\lenM i<=32) (W:T<=200) (hk:k<N) (ra:xj N k xa xb) :
  Cp 154 #[.pointer (pA R),.agg #[J 4,J xa,J xb,J ya,J yb,J i,J sp,J pl,J nn],J T] w fun e w' =>
   ∃v m,Yg L B T s k=⟨m,Zs s.val T k v⟩/\e=.returned (J v)/\xJ w0 R l0 l1 l2 gp cp mv gm cm N n lenM GM CM B G C T k ⟨m,s.val⟩ w'/\jy n GM w w':=by
 obtain⟨K,M,O,P,Q⟩:=ud ra oM
 have d:=vZ L T ⟨4,xa,xb,ya,yb,i,sp,pl,nn⟩
 have a:=vY L T ⟨4,xa,xb,ya,yb,i,sp,pl,nn⟩
 have hs:=Gt (B:=B) (t:=T) (s:=s) H
 dsimp only at d a
 rw [QL] at d a hs
 rw [<-(hlen i hi).1] at a
 generalize Vs L T ⟨4,xa,xb,ya,yb,i,sp,pl,nn⟩=j at *
 have I:=Z hs
 have c:=Z F
 have u:Bw w (w.alloc (nB 4 xa xb ya yb i sp pl nn)):=Qd _ _
 have y:=Z u
 have S:=(hlen i hi).2
 clear F hs H hlen u
 go_enter func154,ntmps154
 go_wp2_with fail
 refine (Dm _ L 4 xa xb ya yb sp pl nn i j (c.gE y) U hn hi d a S).mr fun w1 h=>?_
 have x:Bw w w1:=y.t (h.m sM)
 have q:∀o,w1.c w.z o=(w.alloc (nB 4 xa xb ya yb i sp pl nn)).c w.z o:=fun o=>h.cell (p:=(E w.z o)) sM
 have bf:w1.c w.z 1=Y xa:=by rw [q];go_simp
 have bK:w1.c w.z 2=Y xb:=by rw [q];go_simp
 have A:=Z x
 clear x h d q
 go_wp2_with fail
 refine (Dl _ xa xb (c.gE A) W K M O P Q).mr fun w2 z=>?_
 have r:Bw w w2:=A.tm z
 have f:=Z (c.gE r)
 have gR:=(f.min.1 i hi).2.2.2.cell a
 have eY:=(f.min.1 i hi).2.2.2.frozen j
 have X:=Z (c.min.1 i hi).1
 have D:=Z r
 clear z r
 go_wp2
 go_ret
 refine⟨_,_,I,rfl,f.setMem i j _ hi a,fun g V aG=>?_,by simpa using D.size⟩
 rw [Qj _ _ _ _ sA]
 exact D.block g V
def PG (w:wO) (L:Lp) (x:St)
  (a:xJ w0 R l0 l1 l2 gp cp mv gm cm N n lenM GM CM B G C T k s w) (c:zc L.b k=x) (j:zM w0 l0 L.l) (hn:n=L.l.length)
  (hlen:∀i,i<n->lenM i=2 ^ (ak L.l i).toNat/\lenM i<=32) (q:T<=200) (p:k<N) (r:yW n N k x) :
  Cp 154 #[.pointer (pA R),.agg (zG x),J T] w fun e w' =>
   ∃v m,Yg L B T s k=⟨m,Zs s.val T k v⟩/\e=.returned (J v)/\xJ w0 R l0 l1 l2 gp cp mv gm cm N n lenM GM CM B G C T k ⟨m,s.val⟩ w'/\jy n GM w w':=by
 obtain⟨o,xa,xb,ya,yb,ar,sp,pl,nn⟩:=x
 have h:=rT r
 simp only at h
 rcases h with rfl | rfl | ⟨rfl,d,f⟩ | ⟨rfl,d,f,g⟩ | ⟨d,f,g,t⟩
 ·exact Pz w L xa xb ya yb ar sp pl nn a c
 ·exact PD w L xa xb ya yb ar sp pl nn a c
 ·obtain⟨i,rfl⟩:=QX d
  exact PE w L xa xb ya yb sp pl nn i a c j hn lI hlen
 ·obtain⟨i,rfl⟩:=QX d
  exact PF w L xa xb ya yb sp pl nn i a c j hn lI hlen q p g
 ·exact Py w L o xa xb ya yb ar sp pl nn a c q p d f g t
def ue {p c d f g i j l m n:vO} {W:wO}
  (h:W.cell? (E R 3)=some pv/\W.cell? (E X 0)=some c/\W.cell? (E X 1)=some d/\W.cell? (E X 2)=some f/\W.cell? (E X 3)=some g/\W.cell? (E X 4)=some i/\W.cell? (E X 5)=some j/\W.cell? (E X 6)=some l/\W.cell? (E X 7)=some m/\W.cell? (E X 8)=some n/\W.cell? (E gp k)=some p)
  (h1:w'.heap[R]?=W.heap[R]?) (s:w'.heap[X]?=W.heap[X]?) (t:w'.heap[gp]?=W.heap[gp]?) :
  w'.cell? (E R 3)=some pv/\w'.cell? (E X 0)=some c/\w'.cell? (E X 1)=some d/\w'.cell? (E X 2)=some f/\w'.cell? (E X 3)=some g/\w'.cell? (E X 4)=some i/\w'.cell? (E X 5)=some j/\w'.cell? (E X 6)=some l/\w'.cell? (E X 7)=some m/\w'.cell? (E X 8)=some n/\w'.cell? (E gp k)=some p:=by have q:∀o,w'.cell? (E R o)=W.cell? (E R o):=fun o=>World.cell?_of_block (a:=(E R o)) h1;have b:∀o,w'.cell? (E X o)=W.cell? (E X o):=fun o=>World.cell?_of_block (a:=(E X o)) s;have r:∀o,w'.cell? (E gp o)=W.cell? (E gp o):=fun o=>World.cell?_of_block (a:=(E gp o)) t;rw [q,b,b,b,b,b,b,b,b,b,r];exact h
theorem Dn (T k:Nat):Xk T k k=T+3:=by simp [Xk]
def Do (h:xJ w0 R l0 l1 l2 gp cp mv gm cm N n lenM GM CM B G C T k s wr) (c:k<N) :
  (wr.alloc (nB o xa xb ya yb ar sp pl nn)).cell? (E R 3)=some (.slice (pA gp) N cp)/\(wr.alloc (nB o xa xb ya yb ar sp pl nn)).cell? (E wr.heap.size 0)=Y o/\(wr.alloc (nB o xa xb ya yb ar sp pl nn)).cell? (E wr.heap.size 1)=Y xa/\(wr.alloc (nB o xa xb ya yb ar sp pl nn)).cell? (E wr.heap.size 2)=Y xb/\(wr.alloc (nB o xa xb ya yb ar sp pl nn)).cell? (E wr.heap.size 3)=Y ya/\(wr.alloc (nB o xa xb ya yb ar sp pl nn)).cell? (E wr.heap.size 4)=Y yb/\(wr.alloc (nB o xa xb ya yb ar sp pl nn)).cell? (E wr.heap.size 5)=Y ar/\(wr.alloc (nB o xa xb ya yb ar sp pl nn)).cell? (E wr.heap.size 6)=Y sp/\(wr.alloc (nB o xa xb ya yb ar sp pl nn)).cell? (E wr.heap.size 7)=Y pl/\(wr.alloc (nB o xa xb ya yb ar sp pl nn)).cell? (E wr.heap.size 8)=Y nn/\(wr.alloc (nB o xa xb ya yb ar sp pl nn)).cell? (E gp k)=some (.slice (pA (G k)) (T+3) (C k)):=by
 obtain⟨-,-,-,b,-,a⟩:=h.cells;have e:(wr.alloc (nB o xa xb ya yb ar sp pl nn)).cell? (E R 3)=some (vP gp N cp):=by rw [ze (Qd _ _) _ _ a];exact b
 have d:(wr.alloc (nB o xa xb ya yb ar sp pl nn)).cell? (E gp k)=some (vP (G k) (T+3) (C k)):=by rw [ze (Qd _ _) _ _ h.pout.lt,<-Dn T k];exact h.pout.cell c
 simp_all
def PH {d:Sq} (h:xJ w0 R l0 l1 l2 gp cp mv gm cm N n lenM GM CM B G C T k s wr) (b:k<N)
  (g:xJ w0 R l0 l1 l2 gp cp mv gm cm N n lenM GM CM B G C T k d w2) (a:jy n GM (wr.alloc (nB o xa xb ya yb ar sp pl nn)).drew w2) :
  (w2.cell? (E R 3)=some (.slice (pA gp) N cp)/\w2.cell? (E wr.heap.size 0)=Y o/\w2.cell? (E wr.heap.size 1)=Y xa/\w2.cell? (E wr.heap.size 2)=Y xb/\w2.cell? (E wr.heap.size 3)=Y ya/\w2.cell? (E wr.heap.size 4)=Y yb/\w2.cell? (E wr.heap.size 5)=Y ar/\w2.cell? (E wr.heap.size 6)=Y sp/\w2.cell? (E wr.heap.size 7)=Y pl/\w2.cell? (E wr.heap.size 8)=Y nn/\w2.cell? (E gp k)=some (.slice (pA (G k)) (T+3) (C k)))/\wr.heap.size<w2.heap.size:=by
 have c:wr.z<w2.z:=by
  have l:=a.2;have m:(wr.alloc (nB o xa xb ya yb ar sp pl nn)).drew.z=wr.z+1:=sM
  lia
 have f:=h.cells.2.2.2.2.2;have j:=h.pout.lt
 exact⟨ue (Do (o:=o) (xa:=xa) (xb:=xb) (ya:=ya) (yb:=yb) (ar:=ar) (sp:=sp) (pl:=pl) (nn:=nn) h b) (w':=w2) (a.1 R (by simp;lia) (fun i hi=>ZF h.hR (h.min.1 i hi).2.2.2 tQ))
  (a.1 wr.z sM (fun i hi=>by have:=(h.min.1 i hi).2.2.2.lt;lia))
  (a.1 gp (by simp;lia) (fun i hi=>h.pout.apart (h.min.1 i hi).2.2.2 tQ)),c⟩
def PI (h:xJ w0 R l0 l1 l2 gp cp mv gm cm N n lenM GM CM B G C T k s w2)
  (K:w2.cell? (E R 3)=some (.slice (pA gp) N cp)/\w2.cell? (E X 0)=Y o/\w2.cell? (E X 1)=Y xa/\w2.cell? (E X 2)=Y xb/\w2.cell? (E X 3)=Y ya/\w2.cell? (E X 4)=Y yb/\w2.cell? (E X 5)=Y ar/\w2.cell? (E X 6)=Y sp/\w2.cell? (E X 7)=Y pl/\w2.cell? (E X 8)=Y nn/\w2.cell? (E gp k)=some (.slice (pA (G k)) (T+3) (C k))) (hX:X<w2.heap.size) (W:Obj):(w2.alloc W).cell? (E R 3)=some (.slice (pA gp) N cp)/\(w2.alloc W).cell? (E X 0)=Y o/\(w2.alloc W).cell? (E X 1)=Y xa/\(w2.alloc W).cell? (E X 2)=Y xb/\(w2.alloc W).cell? (E X 3)=Y ya/\(w2.alloc W).cell? (E X 4)=Y yb/\(w2.alloc W).cell? (E X 5)=Y ar/\(w2.alloc W).cell? (E X 6)=Y sp/\(w2.alloc W).cell? (E X 7)=Y pl/\(w2.alloc W).cell? (E X 8)=Y nn/\(w2.alloc W).cell? (E gp k)=some (.slice (pA (G k)) (T+3) (C k)) :=
 ue K (Qr _ _ _ h.cells.2.2.2.2.2) (Qr _ _ _ hX) (Qr _ _ _ h.pout.lt)
def PK {a:wO} {W:Obj} (h:xJ w0 R l0 l1 l2 gp cp mv gm cm N n lenM GM CM B G C T k s w2) (l:k<N)
  (K:w2.cell? (E R 3)=some (.slice (pA gp) N cp)/\w2.cell? (E X 0)=Y o/\w2.cell? (E X 1)=Y xa/\w2.cell? (E X 2)=Y xb/\w2.cell? (E X 3)=Y ya/\w2.cell? (E X 4)=Y yb/\w2.cell? (E X 5)=Y ar/\w2.cell? (E X 6)=Y sp/\w2.cell? (E X 7)=Y pl/\w2.cell? (E X 8)=Y nn/\w2.cell? (E gp k)=some (.slice (pA (G k)) (T+3) (C k))) (hX:X<w2.heap.size) (f:∃c,w2.heap[X]?=some (.cells c 144 (0,0))) (j:(w2.alloc W).grownBy a (some (G k))) :
  (a.cell? (E R 3)=some (.slice (pA gp) N cp)/\a.cell? (E X 0)=Y o/\a.cell? (E X 1)=Y xa/\a.cell? (E X 2)=Y xb/\a.cell? (E X 3)=Y ya/\a.cell? (E X 4)=Y yb/\a.cell? (E X 5)=Y ar/\a.cell? (E X 6)=Y sp/\a.cell? (E X 7)=Y pl/\a.cell? (E X 8)=Y nn/\a.cell? (E gp k)=some (.slice (pA (G k)) (T+3) (C k)))/\a.frozen? (E gp k)=false:=by
 have b:=(h.pin k l).2.2.row;have d:=h.cells.2.2.2.2.2;obtain⟨c,i⟩:=f;have blk:∀q,q<w2.z->q≠G k->a.heap[q]?=w2.heap[q]?:=fun q m p=>by rw [j.block q (by simp;lia) sA,Qr _ _ _ m]
 have b3:=blk gp h.pout.lt (h.pout.apart b tQ);have g:zr a gp 56 N (YU G C (Xk T k)):=h.pout.gG b3;exact⟨ue K (blk R d (ZF h.hR b tQ)) (blk X hX (ZF i b tQ)) b3,g.frozen k⟩
def PL (a:jy n GM (wr.alloc (.cells c 144)).drew w2) (h:∀i,i<n->GM i<wr.heap.size):∃c,w2.heap[wr.heap.size]?=some (.cells c 144 (0,0)):=by refine⟨c,?_⟩;rw [a.1 wr.z sM (fun i hi=>rQ)];show (wr.heap.push _)[wr.z]?=_;simp
def PM (h:xJ w0 R l0 l1 l2 gp cp mv gm cm N n lenM GM CM B G C T k s w2) (b:k<N) (X:Obj) :
  (w2.alloc X).ownsRow w0.heap.size 2 1 (.slice (pA (G k)) (T+3) (C k)) (T+3) ((List.range (T+3)).map (fun j=>J (ZY B s.val k j))):=by obtain⟨p1,p2,a⟩:=h.pin k b;rw [Dn] at a;exact zp (a.own p1 p2) (Qd _ _)
def PN (w:wO) (L:Lp) (o xa xb ya yb ar sp pl nn:Int)
  (c:xJ w0 R l0 l1 l2 gp cp mv gm cm N n lenM GM CM B G C T k s w) (h:zc L.b k=⟨o,xa,xb,ya,yb,ar,sp,pl,nn⟩) (d:zM w0 l0 L.l) (hn:n=L.l.length)
  (hlen:∀i,i<n->lenM i=2 ^ (ak L.l i).toNat/\lenM i<=32) (g:T<=200) (f:k<N) (a:yW n N k ⟨o,xa,xb,ya,yb,ar,sp,pl,nn⟩) :
  Cp 154 #[.pointer (pA R),.agg #[J o,J xa,J xb,J ya,J yb,J ar,J sp,J pl,J nn],J T] w fun e w' =>
   ∃v m,Yg L B T s k=⟨m,Zs s.val T k v⟩/\e=.returned (J v)/\xJ w0 R l0 l1 l2 gp cp mv gm cm N n lenM GM CM B G C T k ⟨m,s.val⟩ w'/\jy n GM w w' :=
 PG w L ⟨o,xa,xb,ya,yb,ar,sp,pl,nn⟩ c h d hn hlen g f a
def PO (w:wO) (L:Lp)
  (W:xJ w0 R l0 l1 l2 gp cp mv gm cm N n lenM GM CM B G C T 0 s w) (hL:zI w0 (.agg #[l0,l1,l2]) L) (hN:N=L.b.length) (hn:n=L.l.length)
  (hlen:∀i,i<n->lenM i=2 ^ (ak L.l i).toNat/\lenM i<=32) (gQ:YA L) (dR:N<=16) (ht:T<=200) :
  Cp 99 #[.pointer (pA R),J T] w fun e w'=>e=.returned (.tuple #[])/\∃G' C',xJ w0 R l0 l1 l2 gp cp mv gm cm N n lenM GM CM B G' C' (T+1) 0 (kP L B T N s) w':=by
 obtain⟨v0,v1,v2,h,bO,⟨a1,gB,rfl,dh,aO,al⟩,X⟩:=hL;injection h with h;injection h with h;injection h with e0 h;injection h with e1 h;injection h with e2 h;subst e0;subst e1;subst e2;unfold maxLen at aO;obtain⟨i0,hi,cO,cS,cU⟩:=info_parts Tryz.i2;obtain⟨-,d1,-,d3,-,aj⟩:=W.cells;have HI:=Z W;have HL:=Z bO;have bZ:=Z hlen;have bW:=Z gQ;have dC:=Z al;have A:=Z hN;have Hn:=Z hn;clear W h bO X hlen gQ al d3 hN hn;go_enter func99,ntmps99;go_wp2;go_loopw [12] (fun i wr=>∃k:Nat,k<=N/\i=J k/\∃G C,xJ w0 R l0 (.slice a1 L.b.length gB) l2 gp cp mv gm cm N n lenM GM CM B G C T k (kP L B T k s) wr) (fun i _=>N - (intOf i).toNat)
 case atStart=>exact⟨0,Ql _,rfl,G,C,HI⟩
 clear HI d1 aj;obtain⟨k,hk,rfl,G,C,p⟩:=hrel;by_cases c:k<N
 ·have cG:(k:Int)<(L.b.length:Int):=by have:=A.o;omega
  have fc:(k:Int)<(N:Int):=oM
  obtain⟨b,off,rfl,hb,gR⟩:=dC oM;obtain⟨F,H,I,M,O,P,Q,S,U⟩:=Ue (gR k oM);rw [<-ze p.bel _ _ hb] at F H I M O P Q S U;have bP:b<wr.heap.size:=by have:=p.bel.size;omega
  obtain⟨-,p2,p3⟩:=p.pb;unfold maxLen at p3;have dn:yW n N k (zc L.b k):=by rw [Hn,A];exact zq bW k oM
  have dO:=Z dn;have q:=Z p;have dE:Hid (Yg L B T (kP L B T k s) k=kP L B T (k+1) s):=rfl;clear dn p gR;generalize kP L B T k s=sq at *
  generalize hx:zc L.b k=x at *
  have dQ:=Z hx;clear hx;obtain⟨o,xa,xb,ya,yb,ar,sp,pl,nn⟩:=x;simp only at F H I M O P Q S U;have dJ:=Z (Do (o:=o) (xa:=xa) (xb:=xb) (ya:=ya) (yb:=yb) (ar:=ar) (sp:=sp) (pl:=pl) (nn:=nn) q c);go_wp2;clear F H I M O P Q S U;refine rg 19 (fun w'=>w'.c R 3=some (vP gp N cp)/\w'.c wr.heap.size 0=Y o/\w'.c wr.heap.size 1=Y xa/\w'.c wr.heap.size 2=Y xb/\w'.c wr.heap.size 3=Y ya/\w'.c wr.heap.size 4=Y yb/\w'.c wr.heap.size 5=Y ar/\w'.c wr.heap.size 6=Y sp/\w'.c wr.heap.size 7=Y pl/\w'.c wr.heap.size 8=Y nn/\w'.c gp k=some (vP (G k) (T+3) (C k))) dJ fun V=>?_;refine aq 0 ?_;refine aq 2 ?_;refine aq 4 ?_;refine aq 6 ?_;refine aq 8 ?_;refine aq 10 ?_;refine aq 12 ?_;refine uk 14 ?_;refine uo 15 fun K d=>?_;go_simp;refine (PN _ L o xa xb ya yb ar sp pl nn (q.gE ((Qd _ _).drew)) dQ HL Hn bZ ht c dO).m ?_;rintro e w2 ⟨v,m,bI,rfl,z,D⟩;obtain⟨t,bJ⟩:=PH q c z D;have cg:=Z (PL D (fun i hi=>(q.min.1 i hi).2.2.2.lt));have r:=Z z;have dN:=Z bI;have dA:=Z z.bel.size;clear z bI D V;refine bq d.o (.inr t) ?_;clear d K;refine uo 16 fun K d=>?_;go_simp;have aF:=PI r t bJ (Ia v 2);refine bq d.o (.inr aF) ?_;clear d K;refine uo 17 fun K d=>?_;refine step_append_lies _ rfl (.tmp 28) (.tmp 33) 56 rfl w0.heap.size 2 i0 (J 0) 1 8 underlying56 hi cO cS cU rfl tQ _ (T+3) _ rfl (PM r c _) (E w2.heap.size 0) 1 1 [J v] rfl rfl (xH _ _ _) (by intro u hu;simp at hu;subst hu;rfl) tQ mL oM (by have:=dA.o;simp;omega) (w2.heap.size+1) sM ?_;intro g cap w3 f a j hlt3;obtain⟨y,eX⟩:=PK r c t bJ cg a;have dL:=Z f;have dI:=Z a;have dy:=Z j;clear f a j;refine bq d.o (.inr y) ?_;clear d K t aF;have V:=y;have eI:=y.2.2.2.2.2.2.2.2.2.2;refine uk 18 ?_;refine uo 19 fun K d=>?_;go_simp;refine bq d.o (.inl rfl) ?_;clear d K;refine rd ?_;clear y V;go_wp2;go_roundw
  case rel=>exact⟨k+1,oM,nQ,_,_,by
   rw [<-dE,dN];exact (r.gE (Qd _ _)).push c v dL dI (by
    rcases dy.o with e | e
    ·exact .inl e
    exact .inr sO)⟩
  simp [intOf];omega
 have e:k=N:=oM
 subst e;have q:=Z p;have cG:¬(k:Int)<(L.b.length:Int):=by have:=A.o;omega
 clear p;go_wp2;go_end0;exact⟨rfl,G,C,q.next⟩
structure B1 (wb:wO) (l0 l1 l2:vO) (B:List Li) (k:Nat) (G C:Nat->Nat) (pa:Option Addr) (pc:Nat) (wr:wO):Prop where
 bel:Bw wb wr
 hR:wr.heap[wb.heap.size]?=some (.cells #[l0,l1,l2,.slice pa k pc,.slice none 0 0] 225 (0,0))
 own:wr.ownsRow (wb.heap.size+1) 56 1 (.slice pa k pc) k ((List.range k).map (YU G C (fun _=>3)))
 rows:∀i,i<k->wb.heap.size+1<=G i/\C i<=maxLen/\Zh wr (G i) 2 (C i) 3 (fun j=>J (ak (zB B i) (2 - j)))
 inj:∀i j,i<k->j<k->i≠j->G i≠G j
def B1.first (wb:wO) (l0 l1 l2:vO) (B:List Li):B1 wb l0 l1 l2 B 0 (fun _=>0) (fun _=>0) none 0 (wb.alloc (.cells #[l0,l1,l2,.slice none 0 0,.slice none 0 0] 225)) where
 bel:=Qd _ _
 hR:=by show (wb.heap.push _)[wb.z]?=_;simp
 own:=World.ownsRow_nil _ _ _ _
 rows:=fun i hi=>absurd hi (Qv _)
 inj:=fun i j hi=>absurd hi (Qv _)
def B1.cells (h:B1 wb l0 l1 l2 B k G C pa pc wr) :
  wr.cell? (E wb.heap.size 3)=some (.slice pa k pc)/\wr.cell? (E wb.heap.size 4)=some (.slice none 0 0)/\wb.heap.size<wr.heap.size :=
 ⟨cb h.hR,cb h.hR,(lo h.hR)⟩
def uf (h:w.ownsRow base e 1 v n xs) (a:g<base):some g≠v.ownBlock:=fun e=>by have:=zR h _ e.s;lia
def Dp {t:TypeId} {X:Obj} (hR:w.heap[R]?=some (.cells c t (0,0))) (d:w.ownsRow base e 1 v n xs) (hb:R<base) (b:(w.alloc X).grownBy w2 v.ownBlock) :
  w2.heap[R]?=some (.cells c t (0,0)):=by have a:=(lo hR);rw [b.block R (by simp;lia) (uf d hb),Qr _ _ _ a];exact hR
def B1.step {b:Option Addr} {c:Nat} {X:Obj} (h:B1 wb l0 l1 l2 B k G C pa pc wr)
  (d:Bw wr w1) (H:wr.heap.size<=g) (hm:cap<=maxLen) (D:Zh w1 g 2 cap 3 (fun j=>J (rn (ak (zB B k)) j)))
  (I:w2.ownsRow (wb.heap.size+1) 56 1 (.slice b (k+1) c) (k+1) ((List.range k).map (YU G C (fun _=>3))++[.slice (pA g) 3 cap])) (p:(w1.alloc X).grownBy w2 (Value.ownBlock (.slice pa k pc))) :
  w2.cell? (E wb.heap.size 3)=some (.slice pa k pc)/\w2.frozen? (E wb.heap.size 3)=false /\
   B1 wb l0 l1 l2 B (k+1) (fun i=>if i=k then g else G i) (fun i=>if i=k then cap else C i) b c (w2.setCell (E wb.heap.size 3) (.slice b (k+1) c)):=by
 have x:=h.cells.2.2
 have K:=d.size
 have z:w1.heap[wb.z]?=some (.cells #[l0,l1,l2,.slice pa k pc,sN] 225 (0,0)):=by rw [d.block _ x];exact h.hR
 have o:=zp h.own d
 have l:=Dp z o lI p
 have y:=zp o (Qd w1 X)
 have u:Bw wb (w1.alloc X):=(h.bel.t (d.m lI)).alloc lI _
 have v:Bw wb w2:=u.grown p (by simp;lia) (fun q a=>by have:=zR o q a;lia)
 have blk:∀q e n f,Zh w1 q 2 e n f->Zh w2 q 2 e n f:=fun q e n f a=>by
  have hr:zr (w1.alloc X) q 2 n f:=a.row.alloc X
  apply a.gG
  rw [p.block q hr.lt (xo y hr tQ),Qr _ _ _ a.lt]
 have F:∀q e n f,Zh w2 q 2 e n f->q≠wb.z:=fun q e n f a=>(ZF l a.row tQ).s
 refine⟨cb l,WS l 3,?_⟩
 refine { bel:=v.setCell sA _,hR:=?_,own:=?_,rows:=?_,inj:=?_ }
 ·rw [WD l];rfl
 ·refine ownsRow_setCell_below ?_ sA _
  grind [sd]
 ·intro i hi
  by_cases e:i=k
  ·subst e
   simp only [if_true]
   refine⟨lI,hm,((blk _ _ _ _ D).gF rQ _).congr fun j A=>?_⟩
   obtain rfl | rfl | rfl:j=0\/j=1\/j=2:=lI
   ·rfl
   ·rfl
   ·rfl
  ·simp only [Qe e]
   obtain⟨r1,r2,t⟩:=h.rows i lI
   have L:=blk _ _ _ _ (t.gE d t.lt)
   grind [Zh.gF]
 ·intro i j hi A s
  by_cases r:i=k
  ·by_cases m:j=k
   ·lia
   ·simp only [Qf r,Qe m]
    have:=(h.rows j lI).2.2.lt
    lia
  ·by_cases m:j=k
   ·simp only [Qe r,Qf m]
    have:=(h.rows i lI).2.2.lt
    lia
   ·simp only [Qe r,Qe m]
    exact h.inj i j lI lI s
structure B2 (wb w1:wO) (l0 l1 l2 pv:vO) (k:Nat) (GM CM lenM:Nat->Nat) (f:Nat->Nat->Int) (ma:Option Addr) (mc:Nat) (wr:wO):Prop where
 bel:Bw wb wr
 hR:wr.heap[wb.heap.size]?=some (.cells #[l0,l1,l2,pv,.slice ma k mc] 225 (0,0))
 keep:∀g,g<w1.heap.size->g≠wb.heap.size->wr.heap[g]?=w1.heap[g]?
 size:wb.heap.size<w1.heap.size/\w1.heap.size<=wr.heap.size
 own:wr.ownsRow w1.heap.size 56 1 (.slice ma k mc) k ((List.range k).map (YU GM CM lenM))
 inner:Xc wr w1.heap.size GM CM k lenM f
def B2.first (lenM:Nat->Nat) (f:Nat->Nat->Int) (h:B1 wb l0 l1 l2 B k G C pa pc w1) :
  B2 wb w1 l0 l1 l2 (.slice pa k pc) 0 (fun _=>0) (fun _=>0) lenM f none 0 w1 where
 bel:=h.bel
 hR:=h.hR
 keep:=fun g _ _=>rfl
 size:=⟨h.cells.2.2,Qc _⟩
 own:=World.ownsRow_nil _ _ _ _
 inner:=⟨fun i hi=>absurd hi (Qv _),fun i j hi=>absurd hi (Qv _)⟩
def B2.cells (h:B2 wb w1 l0 l1 l2 pv k GM CM lenM f ma mc wr) :
  wr.cell? (E wb.heap.size 4)=some (.slice ma k mc)/\wb.heap.size<wr.heap.size :=
 ⟨cb h.hR,(lo h.hR)⟩
def B2.step {a:wO} {b:Option Addr} {c:Nat} {X:Obj} (h:B2 wb w1 l0 l1 l2 pv k GM CM lenM f ma mc wr)
  (d:Bw wr a) (D:wr.heap.size<=g) (hm:cap<=maxLen) (s:Zh a g 2 cap (lenM k) (fun j=>J (f k j)))
  (F:w2.ownsRow w1.heap.size 56 1 (.slice b (k+1) c) (k+1) ((List.range k).map (YU GM CM lenM)++[.slice (pA g) (lenM k) cap])) (l:(a.alloc X).grownBy w2 (Value.ownBlock (.slice ma k mc))) :
  w2.cell? (E wb.heap.size 4)=some (.slice ma k mc)/\w2.frozen? (E wb.heap.size 4)=false /\
   B2 wb w1 l0 l1 l2 pv (k+1) (fun i=>if i=k then g else GM i) (fun i=>if i=k then cap else CM i) lenM f b c (w2.setCell (E wb.heap.size 4) (.slice b (k+1) c)):=by
 have x:=h.cells.2
 have G:=d.size
 obtain⟨C,H⟩:=h.size
 have z:a.heap[wb.z]?=some (.cells #[l0,l1,l2,pv,.slice ma k mc] 225 (0,0)):=by rw [d.block _ x];exact h.hR
 have m:=zp h.own d
 have o:=Dp z m lI l
 have r:=zp m (Qd a X)
 have t:Bw wb (a.alloc X):=(h.bel.t (d.m lI)).alloc lI _
 have v:Bw wb w2:=t.grown l (by simp;lia) (fun q n=>by have:=zR m q n;lia)
 have y:zr w2 g 2 (lenM k) (fun j=>J (f k j)):=by
  have hr:zr (a.alloc X) g 2 (lenM k) (fun j=>J (f k j)):=s.row.alloc X
  exact hr.gG (l.block g hr.lt (xo r hr tQ))
 have p:=(h.inner.gE d).gE (Qd a X)
 have A:Xc w2 w1.z GM CM k lenM f:=p.keep fun i hi=>l.block _ (p.1 i hi).2.2.2.lt (xo r (p.1 i hi).2.2.2 tQ)
 refine⟨cb o,WS o 4,?_⟩
 refine { bel:=v.setCell sA _,hR:=?_,keep:=?_,size:=?_,own:=?_,inner:=?_ }
 ·rw [WD o];rfl
 ·intro q n u
  rw [Qj _ _ _ _ lI,l.block q (by simp;lia) (uf m n),Qr _ _ _ lI,d.block q lI]
  exact h.keep q n u
 ·refine⟨C,?_⟩
  have B:=l.size
  simp at B ⊢
  lia
 ·refine ownsRow_setCell_below ?_ lI _
  grind [sd]
 ·refine (A.snoc g cap lI s.le hm y (fun i hi=>by have:=(h.inner.1 i hi).2.2.2.lt;lia)).keep fun i hi=>Qj _ _ _ _ ?_
  show (if i=k then g else GM i)≠wb.z
  by_cases e:i=k
  ·rw [Qf e];lia
  ·rw [Qe e]
   have:=(h.inner.1 i lI).1
   lia
def PP {M:List Li} (k:Bw w wb) (h1:B1 wb l0 l1 l2 B N G C pa pc w1) (hN:0<N)
  (a:B2 wb w1 l0 l1 l2 (.slice pa N pc) n GM CM (fun i=>(zB M i).length) (fun i j=>ak (zB M i) j) ma mc wr) :
  ∃gp gm,xJ w wb.heap.size l0 l1 l2 gp pc (.slice ma n mc) gm mc N n (fun i=>(zB M i).length) GM CM B G C 0 0 (XO M) wr/\n<=mc/\mc<=maxLen:=by
 have g:=k.size;obtain⟨I,K⟩:=a.size;obtain⟨gp,cp,c,z,p,m,b⟩:=yC h1.own (.inr hN);injection c with e1 e2 e3;subst e1;subst e3;have r:gp≠wb.z:=lI
 have q:zr wr gp 56 N (YU G C (Xk 0 0)):=by refine (b.gG (a.keep gp b.lt r)).congr fun i hi=>?_;rw [YD _ _ _ hi];rfl
 obtain⟨u,v,s,d,f⟩:=Yf a.own;injection s with f1 f2 f3;subst f1;subst f3
 have o:∀gm,(n=0\/(Value.slice ma n mc=vP gm n mc/\n<=mc/\mc<=maxLen/\zr wr gm 56 n (YU GM CM (fun i=>(zB M i).length))/\w.z<=gm/\gm≠gp)) ->
   xJ w wb.z l0 l1 l2 gp pc (.slice ma n mc) gm mc N n (fun i=>(zB M i).length) GM CM B G C 0 0 (XO M) wr:=by
  intro gm t
  refine { bel:=k.t (a.bel.m g),hR:=a.hR,hRb:=g,pout:=q,pb:=⟨lI,p,m⟩,pin:=?_,pinj:=h1.inj,mout:=t,min:=?_,apart:=?_ }
  ·intro i hi
   obtain⟨r1,r2,l⟩:=h1.rows i hi
   refine⟨lI,r2,(l.gG (a.keep _ l.lt lI)).congr fun j h=>?_⟩
   grind [ZY]
  ·exact⟨fun i hi=>⟨by have:=(a.inner.1 i hi).1;lia,(a.inner.1 i hi).2.1,(a.inner.1 i hi).2.2.1,(a.inner.1 i hi).2.2.2⟩,a.inner.2⟩
  ·intro i j hi h
   have x:=(h1.rows i hi).2.2.lt
   have y:=(a.inner.1 j h).1
   lia
 by_cases e:n=0
 ·grind
 obtain⟨gm,cm,c,F,A,D,hr⟩:=yC a.own (.inr lI);injection c with x1 x2 x3;have H:=b.lt;refine⟨gp,gm,o gm (.inr ⟨by rw [x1],d,f,hr.congr fun i hi=>YD _ _ _ hi,lI,lI⟩),d,f⟩
def UG (w:wO) (l0 l1 l2 s0 s1:vO):wO:=(w.alloc (.cells #[l0,l1,l2] 62)).alloc (.cells #[s0,s1] 116)
theorem xu (w:wO) (l0 l1 l2 s0 s1:vO):(UG w l0 l1 l2 s0 s1).heap.size=w.heap.size+1+1:=by unfold UG;simp
def U3 (w:wO) (l0 l1 l2 s0 s1:vO):Bw w (UG w l0 l1 l2 s0 s1):=QB _ _ _
def PQ (h:Below (UG w l0 l1 l2 s0 s1).heap.size (UG w l0 l1 l2 s0 s1) wr):wr.cell? (E (w.heap.size+1) 1)=some s1:=by rw [ze h _ _ (by rw [xu];omega)];unfold UG;go_simp
def PR (lv sv:vO) (L:Lp) (B M:List Li) (w:wO) (hL:zI w lv L) (hS:Vk w sv B M) (hf:xP L B M) :
  Cp 98 #[lv,sv] w fun e w'=>∃l0 l1 l2 R gp cp am cm gm G C GM CM,lv=.agg #[l0,l1,l2]/\e=.returned (.pointer (pA R)) /\
   xJ w R l0 l1 l2 gp cp (.slice am M.length cm) gm cm L.b.length M.length (fun i=>(zB M i).length) GM CM B G C 0 0 (XO M) w'/\M.length<=cm/\cm<=maxLen:=by
 obtain⟨f1,f2,f3,f4,f5⟩:=U8 hf
 have aK:=v6 f1 f3 f5
 obtain⟨m1,m2,m3,m4,m5,m6,m7⟩:=zy f1
 obtain⟨v0,v1,v2,rfl,⟨a0,gA,rfl,er,eA,eM,ed⟩,⟨V,gB,rfl,dh,aO,al⟩,⟨W,gC,rfl,aX,aP,cL,aM⟩⟩:=hL
 obtain⟨s0,s1,rfl,⟨ba,bcap,rfl,bl,bm,bc⟩,⟨ma,r,rfl,ml,mm,mc⟩⟩:=hS
 unfold maxLen at bm mm
 obtain⟨j0,ji,Q,S,T⟩:=info_parts Tryz.i56
 have cX:0<B.length:=oM
 have dS:B.length<=16:=oM
 have eT:M.length<=3:=oM
 have dF:=Z f2
 have dx:=Z aK
 have dG:=Z f4
 have dB:=Z bc
 have dK:=Z mc
 clear f1 f2 f3 f4 f5 aK hf m5 m6 m7 m1 m2 m3 m4 ed al aM eM cL bc mc er eA dh aO aX aP
 go_enter func98,ntmps98
 go_wp2
 go_loopw [17] (fun i wr=>∃k:Nat,k<=B.length/\i=J k/\∃G C pa pc,B1 (UG w (.slice a0 L.l.length gA) (.slice V L.b.length gB) (.slice W L.o.length gC) (.slice ba B.length bcap) (.slice ma M.length r)) (.slice a0 L.l.length gA) (.slice V L.b.length gB) (.slice W L.o.length gC) B k G C pa pc wr) (fun i _=>B.length - (intOf i).toNat)
 case atStart=>exact⟨0,Ql _,rfl,_,_,_,_,B1.first _ _ _ _ _⟩
 case round =>
  obtain⟨k,hk,rfl,G,C,pa,pc,t⟩:=hrel
  have p:Bw w wr:=(U3 _ _ _ _ _ _).t (t.bel.m (by rw [xu];omega))
  have y:=Z t
  have bM:=Z p
  have aj:=t.cells.2.2
  rw [xu] at aj
  by_cases z:k<B.length
  ·have cG:(k:Int)<(B.length:Int):=oM
   obtain⟨b,off,rfl,hb,O⟩:=dB cX
   obtain⟨u,q,H⟩:=O k z
   have h3:=dG k z
   have F:zM wr u (zB B k):=H.gE p
   obtain⟨ra,rc,rfl,rl,rm,rr,d⟩:=H
   rw [<-ze p _ _ hb] at q
   have bP:b<wr.heap.size:=oM
   have cB:=D2 _ _ _ F oM oM
   rw [h3] at cB q
   have N:=Z cB
   clear cB F d rr O t p
   go_wp2_with fail
   refine N.m ?_
   rintro e w1 ⟨g,cap,rfl,A,aN,I,D⟩
   have bN:=Z I
   have bL:=Z D
   clear I D N
   go_wp2_with fail
   refine (RT g cap (ak (zB B k)) _ bN aN).m ?_
   rintro e w2 ⟨rfl,bK,aL⟩
   have n:Bw wr w2:=bL.t (aL _ A)
   have cg:=Z bK
   have az:=Z n
   have ee:=y.cells.1
   rw [xu,<-ze n _ _ aj] at ee
   have X:=Z (zp (zp y.own n) (Qd w2 (.cells #[vP g 3 cap] 56)))
   have fA:w.heap.size+1+1<w2.heap.size:=by have:=n.size;omega
   have ep:w2.heap.size<w2.heap.size+1:=oM
   rw [xu] at X
   clear bK aL n bN bL
   go_wp2_with (at_builtin;refine QQ _ rfl (.tmp 29) (.tmp 31) 114 rfl (w.heap.size+1+1+1) 56 j0 sN 1 24 underlying114 ji Q S T rfl tQ _ _ _ rfl X (E w2.heap.size 0) 1 1 [vP g 3 cap] rfl rfl (by exact xH _ _ _) (by intro u q;simp at q;subst q;rfl) mL oM sO ?_;intro v3 w3 c a hnil3;obtain⟨pa2,pc2,rfl,eH,eJ⟩:=Yf c;obtain⟨x,x2,s⟩:=B1.step y az A aN cg (by rw [xu];exact c) a;rw [xu] at x x2 s;have bg:=Z s;clear s c a)
   go_roundw
   case rel=>exact⟨k+1,oM,nQ,_,_,_,_,bg⟩
   case measure=>simp [intOf];omega
  ·have e:k=B.length:=oM
   subst e
   have bV:=PQ t.bel
   clear t p
   rename wO=>wo
   go_wp2
   go_loopw [39] (fun i wr=>∃k:Nat,k<=M.length/\i=J k/\∃GM CM f h,B2 (UG w (.slice a0 L.l.length gA) (.slice V L.b.length gB) (.slice W L.o.length gC) (.slice ba B.length bcap) (.slice ma M.length r)) wo (.slice a0 L.l.length gA) (.slice V L.b.length gB) (.slice W L.o.length gC) (.slice pa B.length pc) k GM CM (fun i=>(zB M i).length) (fun i j=>ak (zB M i) j) f h wr) (fun i _=>M.length - (intOf i).toNat)
   case atStart=>exact⟨0,Ql _,rfl,_,_,_,_,B2.first _ _ y⟩
   case round =>
    clear bV
    obtain⟨k,hk,rfl,GM,CM,f,h,v⟩:=hrel
    have p:Bw w wr:=(U3 _ _ _ _ _ _).t (v.bel.m (by rw [xu];omega))
    have cA:=v.cells.1
    have cu:=v.cells.2
    rw [xu] at cA cu
    have U:=Z v
    by_cases z:k<M.length
    ·have cG:(k:Int)<(M.length:Int):=oM
     obtain⟨b,off,rfl,hb,O⟩:=dK oM
     obtain⟨u,q,H⟩:=O k z
     obtain⟨q1,q2⟩:=dx k z
     have F:zM wr.drew u (zB M k):=H.gE (p.drew)
     obtain⟨ra,rc,rfl,rl,rm,rr,d⟩:=H
     rw [<-ze p _ _ hb] at q
     have bP:b<wr.heap.size:=oM
     have N:=Z (D2 _ _ _ F q1 q2)
     clear F d rr O v p
     go_wp2
     refine rg 11 (fun w'=>w'.c (w.heap.size+1+1) 4=some (.slice f k h)) cA fun h9=>?_
     refine aq 0 ?_
     refine aq 2 ?_
     refine aq 4 ?_
     refine uo 6 fun K m=>?_
     go_simp
     refine N.m ?_
     rintro e w2 ⟨g,cap,rfl,A,aN,I,D⟩
     have n:Bw wr w2:=((QA _ _).drew).t D
     have ao:wr.heap.size<=g:=A
     have fu:=n.size
     have ay:w2.cell? (E (w.heap.size+1+1) 4)=some (.slice f k h):=by rw [ze n _ _ cu];exact cA
     have bN:=Z I
     have az:=Z n
     clear I D n N h9 A
     refine bq m.o (.inr ay) ?_
     clear m K
     refine uo 7 fun K m=>?_
     go_simp
     have aF:(w2.alloc (.cells #[.slice (pA g) (zB M k).length cap] 56)).cell? (E (w.heap.size+1+1) 4)=some (.slice f k h):=by rw [ze (Qd _ _) _ _ oM];exact ay
     refine bq m.o (.inr aF) ?_
     clear m K
     have X:=Z (zp (zp U.own az) (Qd w2 (.cells #[vP g (zB M k).length cap] 56)))
     have dP:=Z U.size
     refine uo 8 fun K m=>?_
     refine step_append_lies _ rfl (.tmp 47) (.tmp 50) 114 rfl wo.heap.size 56 j0 sN 1 24 underlying114 ji Q S T rfl tQ _ k _ rfl X (E w2.heap.size 0) 1 1 [vP g (zB M k).length cap] rfl rfl (xH _ _ _) (by intro u q;simp at q;subst q;rfl) tQ mL oM (by have:=dP.2;simp;omega) (w2.heap.size+1) sM ?_
     intro g3 cap3 w3 c a P hlt3
     obtain⟨x,x2,s⟩:=B2.step U az ao aN bN c a
     rw [xu] at x x2 s
     have bg:=Z s
     clear s c a P ay aF
     refine bq m.o (.inr x) ?_
     clear m K
     have h9:=x
     refine aq 9 ?_
     refine uo 11 fun K m=>?_
     go_simp
     refine bq m.o (.inl rfl) ?_
     clear m K
     refine rd ?_
     clear x h9
     go_wp2
     go_roundw
     case rel=>exact⟨k+1,oM,nQ,_,_,_,_,bg⟩
     case measure=>simp [intOf];omega
    ·have e:k=M.length:=oM
     subst e
     clear v p
     go_wp2
     go_ret
     obtain⟨gp,gm,hI,aO,aP⟩:=PP (U3 w _ _ _ _ _) y cX U
     rw [xu,dF] at hI
     exact⟨_,_,_,w.heap.size+1+1,gp,pc,f,h,gm,G,C,GM,CM,rfl,rfl,hI,aO,aP⟩
def PS {a:Nat} (h:w.ownsRow base e 1 v n xs) (hb:a<=base):w.ownsRow a e 1 v n xs:=by
 obtain⟨c,h⟩:=h;refine⟨c,?_⟩;rcases h with h | ⟨g,cap,b,d,f,r⟩
 ·exact .inl h
 exact .inr ⟨g,cap,b,d,lI,r⟩
theorem xJ.low
  (h:xJ w0 R l0 l1 l2 gp cp mv gm cm N n lenM GM CM B G C T k s wr) {b i:Nat} (hb:b<w0.heap.size) (u:vO) :
  xJ (w0.setCell (E b i) u) R l0 l1 l2 gp cp mv gm cm N n lenM GM CM B G C T k s (wr.setCell (E b i) u):=by
 have d:(w0.st b i u).heap.size=w0.z:=sM
 have hRb:=h.hRb;refine { bel:=?_,hR:=?_,hRb:=lI,pout:=?_,pb:=by rw [d];exact h.pb,pin:=?_,pinj:=h.pinj,mout:=?_,min:=?_,apart:=h.apart }
 ·show Below _ _ _;rw [d];refine⟨h.bel.os,h.bel.tape,h.bel.output,by simpa [World.setCell] using h.bel.size,fun k f=>?_⟩;by_cases e:k=b
  ·subst e;simp only [World.setCell,QC];rw [h.bel.block k f]
  rw [Qj _ _ _ _ lI,Qj _ _ _ _ lI];exact h.bel.block k f
 ·rw [Qj _ _ _ _ (by show R≠b;lia)];exact h.hR
 ·exact h.pout.gF (by have:=h.pb.1;show gp≠b;lia) _
 ·intro a c;rw [d];have h1:=(h.pin a c).1;exact⟨h1,(h.pin a c).2.1,(h.pin a c).2.2.gF (by show G a≠b;lia) _⟩
 ·rcases h.mout with h1 | ⟨h1,g,j,l,m,o⟩
  ·exact .inl h1
  grind [zr.gF]
 rw [d];exact h.min.keep fun a c=>Qj _ _ _ _ (by have:=(h.min.1 a c).1;show GM a≠b;lia)
def PT (w:wO) (L:Lp)
  (I:xJ w0 R l0 l1 l2 gp cp (.slice am n cm) gm cm N n lenM GM CM B G C T 0 s w) (hL:zI w0 (.agg #[l0,l1,l2]) L) (hN:N=L.b.length) (ho:Vq L.b.length L.o) (dR:L.o.length<=16) (ht:T<=200)
  (al:n<=cm) (aM:cm<=maxLen) :
  Cp 100 #[.pointer (pA R)] w fun e w'=>∃d,e=.returned (.agg #[d,.slice am n cm]) /\
   w'.ownsRow w.heap.size 2 1 d (Zg L B T s).length ((Zg L B T s).map (Value.int .i64))/\Bw w w':=by
 obtain⟨v0,v1,v2,g,bO,dT,⟨a2,gC,rfl,aX,aP,cL,bF⟩⟩:=hL
 injection g with g
 injection g with g
 injection g with e0 g
 injection g with e1 g
 injection g with e2 g
 subst e0;subst e1;subst e2
 unfold maxLen at aP
 obtain⟨i0,hi,cO,cS,cU⟩:=info_parts Tryz.i2
 obtain⟨-,-,d2,d3,d4,aj⟩:=I.cells
 obtain⟨-,pp2,pp3⟩:=I.pb
 unfold maxLen at pp3
 have t:=Z I
 have HO:=Z ho
 have HN:=Z hN
 have dD:=Z bF
 clear I g bO dT bF hN ho cL
 go_enter func100,ntmps100
 go_wp2
 go_loopw [18] (fun i wq=>∃q:Nat,q<=L.o.length/\i=J q/\∃p r,Vj (w.alloc (.cells #[.slice none 0 0,.slice none 0 0] 119)) wq (Zg L B T s) q (.slice am n cm) p r) (fun i _=>L.o.length - (intOf i).toNat)
 case atStart=>exact⟨0,Ql _,rfl,none,0,Vj.first _ _ _⟩
 case round =>
  obtain⟨q,hq,rfl,p,r,y⟩:=hrel
  obtain⟨o1,o2,o3,o4⟩:=y.cells
  have x:Bw w wr:=(Qd _ _).t (y.2.2.m sM)
  have A:(w.alloc (.cells #[.slice none 0 0,.slice none 0 0] 119)).heap.size=w.heap.size+1:=sM
  rw [A] at o1 o2 o3 o4
  have F:=Z y
  have aU:=Z x
  by_cases m:q<L.o.length
  ·have fo:(q:Int)<(L.o.length:Int):=oM
   obtain⟨ob,of,rfl,eD,dm⟩:=dD oM
   have eF:=dm q m
   obtain⟨z0,z1⟩:=Rc HO m
   obtain⟨c,U⟩:=QX z0
   have dg:c<N:=by have:=HN.o;omega
   have cH:ob<w.heap.size:=by have:=t.bel.size;omega
   rw [<-ze t.bel _ _ eD,<-ze x _ _ cH,U] at eF
   obtain⟨p1,p2,z⟩:=t.pin c dg
   unfold maxLen at p2
   obtain⟨j,hj⟩:∃j,j=T+2:=⟨_,rfl⟩
   have P:Xk T 0 c=j+1:=by grind [Xk]
   have fp:wr.cell? (E gp c)=some (vP (G c) (j+1) (C c)):=by
    rw [ze x _ _ t.pout.lt,<-P];exact t.pout.cell dg
   have au:wr.cell? (E (G c) j)=Y (ZY B s.val c j):=by
    rw [ze x _ _ z.lt];exact z.row.cell oM
   have ep:gp<wr.heap.size:=by have:=t.pout.lt;omega
   have bj:G c<wr.heap.size:=by have:=z.lt;omega
   have eS:G c<w.heap.size:=z.lt
   have cu:R<wr.heap.size:=oM
   have eE:ob<wr.heap.size:=oM
   have eW:wr.cell? (E R 3)=some (vP gp N cp):=by grind [ze]
   have eV:(c:Int)<(N:Int):=oM
   have dj:=z.le
   rw [P] at dj
   have fx:IntKind.i64.wrap ((j:Int)+1 - 1)=(j:Int):=by rw [Wq];omega
   have eN:IntKind.i64.wrap (j:Int)=(j:Int):=by rw [Wq];omega
   have fa:(j:Int)<(j:Int)+1:=oM
   have HV:Hid (ak (Zg L B T s) q=ZY B s.val c j):=by
    show _=_
    rw [DI L B T s q m,U,QL,hj,Pv]
   have eL:q<(Zg L B T s).length:=by grind [Ug]
   generalize ZY B s.val c j=pv at *
   clear y x dm U z0 z1 z P hj p1 d3
   go_wp2
   refine rg 11 (fun w'=>w'.cell? (E (w.heap.size+1) 0)=some (.slice p q r)/\w'.cell? (E (G c) j)=Y pv) ⟨o1,au⟩ fun S=>?_
   refine aq 0 ?_
   refine aq 2 ?_
   refine aq 4 ?_
   refine aq 6 ?_
   refine uo 8 fun K l=>?_
   go_simp
   have O:∀X,(wr.alloc X).cell? (E (w.heap.size+1) 0)=some (.slice p q r)/\(wr.alloc X).cell? (E (G c) j)=Y pv:=fun X=>⟨by rw [ze (Qd _ _) _ _ o4];exact o1,by rw [ze (Qd _ _) _ _ bj];exact au⟩
   refine bq l.o (.inr (O _)) ?_
   clear l K
   have H:=Z (zp F.2.1 (Qd wr (.cells #[J pv] 2)))
   rw [A] at H
   refine uo 9 fun K l=>?_
   refine step_append_lies _ rfl (.tmp 30) (.tmp 37) 56 rfl (w.heap.size+1+1) 2 i0 (J 0) 1 8 underlying56 hi cO cS cU rfl tQ _ q _ rfl H (E wr.heap.size 0) 1 1 [J pv] rfl rfl (xH _ _ _) (by intro u hu;simp at hu;subst hu;rfl) tQ mL oM sO (wr.heap.size+1) sM ?_
   intro g3 cap3 w3 f a D hlt3
   obtain⟨V,W,dp,M,x2,x3⟩:=Vj.step (n:=1) F eL (by rw [HV,A];exact f) (by exact a)
   rw [A] at M x2 x3
   have Q:w3.cell? (E (G c) j)=Y pv:=by
    rw [a.cell_far (E (G c) j) sO (uf F.2.1 (by rw [A];show G c<_;omega))]
    exact (O _).2
   have bg:=Z x3
   have eQ:=Z dp
   clear x3 f a D O S dp
   refine bq l.o (.inr ⟨M,Q⟩) ?_
   clear l K
   have S:=And.intro M Q
   refine uk 10 ?_
   refine uo 11 fun K l=>?_
   go_simp
   refine bq l.o (.inl rfl) ?_
   clear l K
   refine rd ?_
   clear M S Q
   go_wp2
   go_roundw
   case rel=>exact⟨q+1,oM,nQ,V,W,bg⟩
   case measure=>simp [intOf];omega
  ·have e:q=L.o.length:=oM
   subst e
   have k:wr.heap[w.heap.size]?=some (.cells #[sN,sN] 119 (0,0)):=by
    rw [y.2.2.block w.heap.size sM]
    show (w.heap.push _)[w.heap.size]?=_
    simp
   have bV:wr.cell? (E w.heap.size 0)=some sN:=cb k
   have fq:wr.cell? (E w.heap.size 1)=some sN:=cb k
   have fs:wr.frozen? (E w.heap.size 0)=false:=WS k 0
   have ft:wr.frozen? (E w.heap.size 1)=false:=WS k 1
   have H:Hid (wr.ownsRow (w.heap.size+1+1) 2 1 (.slice p L.o.length r) (Zg L B T s).length ((Zg L B T s).map (Value.int .i64))):=by
    have h:=F.2.1
    grind [Zg]
   have ef:∀d,(wr.setCell (E w.heap.size 0) d).cell? (E w.heap.size 0)=some d:=fun d=>by rw [Qa (WD k d)];rfl
   have eh:∀d mv,((wr.setCell (E w.heap.size 0) d).setCell (E w.heap.size 1) mv).cell? (E w.heap.size 1)=some mv:=fun d mv=>by rw [Qa (WD (WD k d) mv)];rfl
   have ek:∀d mv,((wr.setCell (E w.heap.size 0) d).setCell (E w.heap.size 1) mv).cell? (E w.heap.size 0)=some d:=fun d mv=>by rw [Qa (WD (WD k d) mv)];rfl
   clear y x k
   go_wp2
   have cC:Bw w ((wr.st w.heap.size 0 (.slice p L.o.length r)).st w.heap.size 1 (.slice am n cm)):=(aU.setCell sA _).setCell sA _
   refine bodyPost_ret (v:=.agg #[.slice p L.o.length r,.slice am n cm]) (by simp [results,results100,go_sem,ef,eh,ek]) rfl ⟨_,rfl,PS (base:=w.heap.size+1+1) ?_ oM,cC⟩
   exact ownsRow_setCell_below (ownsRow_setCell_below H (by show w.heap.size<_;omega) _) (by show w.heap.size<_;omega) _
def V8 (h:Below (w.heap.size+3) (Vz w l0 l1 l2 s0 s1) w1) :
  w1.cell? (E (w.heap.size+1+1) 0)=some (.slice none 0 0)/\w1.cell? (E (w.heap.size+1+1) 1)=some (.slice none 0 0)/\w1.frozen? (E (w.heap.size+1+1) 0)=false/\w1.frozen? (E (w.heap.size+1+1) 1)=false /\
   (∀a,(w1.setCell (E (w.heap.size+1+1) 0) a).cell? (E (w.heap.size+1+1) 0)=some a) /\
   (∀a mv,((w1.setCell (E (w.heap.size+1+1) 0) a).setCell (E (w.heap.size+1+1) 1) mv).cell? (E (w.heap.size+1+1) 1)=some mv) /\
   (∀a mv,((w1.setCell (E (w.heap.size+1+1) 0) a).setCell (E (w.heap.size+1+1) 1) mv).cell? (E (w.heap.size+1+1) 0)=some a):=by
 have c:=Rf h
 have b:w1.heap[w.z+1+1]?=some (.cells #[sN,sN] 119 (0,0)):=c
 exact⟨cb b,cb b,WS b 0,WS b 1,fun a=>by rw [Qa (WD b a)];rfl,
  fun a mv=>by rw [Qa (WD (WD b a) mv)];rfl,fun a mv=>by rw [Qa (WD (WD b a) mv)];rfl⟩
def PU (lv sv:vO) (L:Lp) (B M:List Li) (gD:Int) (w:wO) (d:zI w lv L) (hS:Vk w sv B M) (f:xP L B M=false) :
  Cp 56 #[lv,sv,J gD] w (Rt w (.tuple #[.agg #[.slice none 0 0,.slice none 0 0],J 2])):=by have h:=d;have hs:=hS;obtain⟨l0,l1,l2,rfl,-,-,-⟩:=h;obtain⟨s0,s1,rfl,-,-⟩:=hs;have b:=tJ _ _ L B M _ (d.gE (xv w l0 l1 l2 s0 s1)) (hS.gE (xv w l0 l1 l2 s0 s1));rw [f] at b;have c:=Z b;clear b f;go_enter func56,ntmps56;go_wp2_with fail;refine c.mr fun w1 a=>?_;rw [Xv] at a;obtain⟨k,l,m,n,o,i,j⟩:=V8 a;have g:=Z ((xv w l0 l1 l2 s0 s1).t (a.m oM));clear a c;go_wp2;refine bodyPost_ret (v:=.tuple #[.agg #[sN,sN],J 2]) (by simp [results,results56,go_sem,i,j]) rfl ⟨rfl,?_⟩;exact (g.setCell rQ _).setCell rQ _
def PV (lv sv:vO) (L:Lp) (B M:List Li) (gD:Int) (w:wO) (i:zI w lv L) (hS:Vk w sv B M) (j:xP L B M) (k:gD<0\/200<gD) :
  Cp 56 #[lv,sv,J gD] w (Rt w (.tuple #[.agg #[.slice none 0 0,.slice none 0 0],J 3])):=by
 have h:=i;have hs:=hS;obtain⟨l0,l1,l2,rfl,-,-,-⟩:=h;obtain⟨s0,s1,rfl,-,-⟩:=hs;have d:=tJ _ _ L B M _ (i.gE (xv w l0 l1 l2 s0 s1)) (hS.gE (xv w l0 l1 l2 s0 s1));rw [j] at d;have b:=Z d;clear d j;by_cases h0:gD<0
 ·clear k;go_enter func56,ntmps56;go_wp2_with fail;refine b.mr fun w1 a=>?_;rw [Xv] at a;obtain⟨l,m,n,o,p,f,g⟩:=V8 a;have c:=Z ((xv w l0 l1 l2 s0 s1).t (a.m oM));clear a b;go_wp2;refine bodyPost_ret (v:=.tuple #[.agg #[sN,sN],J 3]) (by simp [results,results56,go_sem,f,g]) rfl ⟨rfl,?_⟩;exact (c.setCell rQ _).setCell rQ _
 have q:200<gD:=oM
 clear k;go_enter func56,ntmps56;go_wp2_with fail;refine b.mr fun w1 a=>?_;rw [Xv] at a;obtain⟨l,m,n,o,p,f,g⟩:=V8 a;have c:=Z ((xv w l0 l1 l2 s0 s1).t (a.m oM));clear a b;go_wp2;refine bodyPost_ret (v:=.tuple #[.agg #[sN,sN],J 3]) (by simp [results,results56,go_sem,f,g]) rfl ⟨rfl,?_⟩;exact (c.setCell rQ _).setCell rQ _
def PW (lv sv:vO) (L:Lp) (B M:List Li) (t:Nat) (w:wO) (f:zI w lv L) (hS:Vk w sv B M) (g:xP L B M) (x:t<=200) (N:cn L) (hB:Y6 B) (P:Y6 M) :
  Cp 56 #[lv,sv,J t] w fun e w'=>∃y mv,e=.returned (.tuple #[.agg #[y,mv],J 0])/\zM w' y (Zg L B t (kA L B t (XO M)))/\yu w' mv (vL M (kA L B t (XO M)))/\Bw w w':=by
 obtain⟨d,f2,r,f4,s⟩:=U8 g;have D:=v6 d r s;obtain⟨m1,m2,m3,m4,m5,S,U⟩:=zy d;have h:=f;have hs:=hS;obtain⟨l0,l1,l2,rfl,-,-,-⟩:=h;obtain⟨s0,s1,rfl,-,-⟩:=hs;have j:=tJ _ _ L B M _ (f.gE (xv w l0 l1 l2 s0 s1)) (hS.gE (xv w l0 l1 l2 s0 s1));rw [g] at j;have A:=Z j;have bZ:Hid (∀i,i<M.length->(zB M i).length=2 ^ (ak L.l i).toNat/\(zB M i).length<=32):=fun i hi=>⟨s i hi,(D i hi).2⟩;have H3:=Z r;have HF:=Z g;have bW:=Z U;have dM:=Z S;have fj:¬(t:Int)<0:=oM
 have fm:¬(200:Int)<(t:Int):=oM
 clear j g d f2 r f4 s D U S m5;go_enter func56,ntmps56;go_wp2_with fail;refine A.mr fun w1 c=>?_;rw [Xv] at c;obtain⟨x0,x1,x2,y0,y1,H,bP⟩:=Rb c;have bL:=Z c;have n:=Z H;have i5:w.heap.size<w1.heap.size:=oM
 have i6:w.heap.size+1<w1.heap.size:=oM
 clear c H A;go_wp2_with fail;apply (PR _ _ L B M _ (f.gE n) (hS.gE n) HF).m;rintro e w2 ⟨k0,k1,k2,R,gp,cp,am,cm,gm,G0,X,GM,CM,q,rfl,O,I,F⟩;have z:=Z O;have p:=Z (f.gE n);rw [q] at p;have eP:=Z q;clear O q;go_wp2_with fail;go_loopw [26] (fun i wr=>∃T:Nat,T<=t/\i=J T/\∃G C,xJ w1 R k0 k1 k2 gp cp (.slice am M.length cm) gm cm L.b.length M.length (fun i=>(zB M i).length) GM CM B G C T 0 (kA L B T (XO M)) wr) (fun i _=>t - (intOf i).toNat)
 case atStart=>exact⟨0,Ql _,rfl,G0,X,z⟩
 clear z;obtain⟨T,hT,rfl,G,C,Q⟩:=hrel;have a:=Z Q;clear Q;by_cases aT:T<t
 ·have eU:(T:Int)<(t:Int):=oM
  go_wp2_with fail;apply (PO _ L a p rfl H3 bZ bW m3 oM).m;rintro e V ⟨rfl,G',W,K⟩;have o:=Z K;clear K;go_wp2_with fail;go_roundw
  case rel=>exact⟨T+1,oM,nQ,G',W,o⟩
  simp [intOf];omega
 have e:T=t:=oM
 subst e;go_wp2_with fail;apply (PT _ L a p rfl dM m4 x I F).m;rintro e V ⟨y,rfl,u,m⟩;obtain⟨oa,oc,rfl,aQ,bR⟩:=Yf u;have k:Below (w.heap.size+3) (Vz w l0 l1 l2 s0 s1) V:=bL.t ((a.bel.tm m).m bP);obtain⟨c0,c1,f0,d,g0,g1,g2⟩:=V8 k;have dH:=Z ((xv w l0 l1 l2 s0 s1).t (k.m oM));have o:=Z (a.gE m);have aA:=Z u;have fy:=a.bel.size;clear u m k;go_wp2_with fail;refine bodyPost_ret (v:=.tuple #[.agg #[.slice oa (Zg L B T (kA L B T (XO M))).length oc,.slice am M.length cm],J 0]) (by simp [results,results56,go_sem,g1,g2]) rfl ⟨_,_,rfl,?_,?_,?_⟩
 ·refine DH (base:=wr.heap.size) ?_ (Rg _ _ _ _ hB (vW N hB x (vX P)));exact ownsRow_setCell_below (ownsRow_setCell_below aA (by show w.heap.size+1+1<_;omega) _) (by show w.heap.size+1+1<_;omega) _
 ·exact ((o.low oM _).low sO _).words I F (vW N hB x (vX P))
 exact (dH.setCell (by show w.heap.size<=w.heap.size+1+1;omega) _).setCell (by show w.heap.size<=w.heap.size+1+1;omega) _
end
def B4 (v s:vO) (L:Lp) (B M:List Li) (gD:Int) (w:wO) (c:zI w v L) (hS:Vk w s B M) (m:cn L) (hB:Y6 B) (o:Y6 M) :
  Calls Tryz.prog 56 #[v,s,J gD] w fun e w'=>Bw w w'/\∃i l j f k g,e=.returned (.tuple #[.agg #[.slice i l j,.slice f k g],J (Vu L B M gD)])/\(Vu L B M gD=0->zM w' (.slice i l j) (Zg L B gD.toNat (kA L B gD.toNat (XO M)))/\yu w' (.slice f k g) (vL M (kA L B gD.toNat (XO M)))):=by
 cases d:xP L B M with
 | false =>
  have a:Vu L B M gD=2:=by grind [Vu]
  rw [a];exact (PU v s L B M gD w c hS d).m fun e w' ⟨b,hb⟩=>⟨hb,none,0,0,none,0,0,b,fun h=>absurd h tQ⟩
 | true =>
  by_cases p:0<=gD/\gD<=200
  ·have a:Vu L B M gD=0:=(by grind [Vu]);rw [a];obtain⟨q,rfl⟩:=QX p.1;refine (PW v s L B M q w c hS d lI m hB o).m fun e w' ⟨r,mv,b,h1,n,hb⟩=>?_;obtain⟨i,j,rfl,-⟩:=id h1;obtain⟨f,g,rfl,-⟩:=id n;grind
  have a:Vu L B M gD=3:=by grind [Vu]
  rw [a];exact (PV v s L B M gD w c hS d lI).m fun e w' ⟨b,hb⟩=>⟨hb,none,0,0,none,0,0,b,fun h=>absurd h tQ⟩
end Go.Proofs.YtjlfcbccpcigeacGreatDoor
