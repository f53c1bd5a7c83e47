import Derived.Test.YtjlfcbccpcigeacGreatDoorB
set_option maxHeartbeats 40000000
set_option linter.defProp false
namespace Go.Proofs.YtjlfcbccpcigeacGreatDoor
open Go.Proofs.Tryz Go.RowKit Go.Joins
set_option linter.unusedVariables false
set_option linter.unusedSimpArgs false
set_option maxRecDepth 8192
section
open Go.RowKit
open Go.WideMaps (KeyLaw)
variable {p:Nat->Bool} {i n k b g:Nat} {x y:wO} {r r':Option Li} {f:Int->Int->Int}
section
variable {L:Lp} {t:Tg} {P:Int}
def Xl (L:Lp) (t:Tg):Li:=(List.range L.b.length).map (xR L t)
theorem Vg {s:Nat} (h:s<L.b.length):ak (Xl L t) s=xR L t s:=Ze h
theorem Ak (L:Lp) (t:Tg) (k:Nat):xR L t (k+1)=xR L t k+yj t (zc L.b k).o:=rfl
def nH (a:zS t):∀n s,s<n->xR L t s+yj t (zc L.b s).o<=xR L t n:=by
 intro n;induction n with
 | zero=>intro s h;lia
 | succ n ih =>
  intro s h;rw [Ak];have h1:=Y4 (t:=t) (zc L.b n).o a;grind
def JV:∀n,(∀j,j<n->p j->j=i)->cnt p n<=1/\(n<=i->cnt p n=0):=by
 intro n;induction n with
 | zero=>intro _;exact⟨Ql _,fun _=>rfl⟩
 | succ n ih =>
  grind [cnt]
def JW (c:zS t) {e:Ed} (a:e∈zf L t):e.wt<=yj t (zc L.b e.fr.toNat).o:=by
 obtain⟨fr,to,b,x,h1,d,rfl,f⟩:=ny _ a;have g:=(Y4 (t:=t) (zc L.b fr).o c).1;grind [jr,XU]
def JX (c:zS t) (a:xU L t<=P):∀s,s<L.b.length->ak (Xl L t) s+yj t (zc L.b s).o<=P:=by intro s hs;rw [Vg hs];exact WK (nH c _ s hs) a
def mN (hm:zQ L) (a:zS t):1<=xU L t/\xU L t<=96:=by obtain⟨-,h1,c,-⟩:=zy hm;have d:=(tK (L:=L) a L.b.length).2;have f:=nH (L:=L) a L.b.length 0 lI;have g:=(Y4 (t:=t) (zc L.b 0).o a).1;have h:xR L t 0=0:=rfl;unfold xU;lia
def sF (hm:zQ L) (a:zS t) (y:xU L t<=P) (C:P<=200):zZ L t P (Xl L t):=by
 obtain⟨D,F⟩:=mN hm a;have hlen:(Xl L t).length=L.b.length:=by unfold Xl;simp
 have g:=JX a y;have c:∀s,s<L.b.length->0<=ak (Xl L t) s/\ak (Xl L t) s<P:=by intro s hs;have h1:=g s hs;have x:=(Y4 (t:=t) (zc L.b s).o a).1;have h:=(tK (L:=L) a s).1;grind [Vg]
 unfold zZ;rw [hm,a,yh (show 1<=P/\P<=200 by lia),hlen];simp only [decide_true,Wb,Qg];constructor
 ·refine yk fun s hs=>?_;unfold VS;rw [Qg];obtain⟨m,B⟩:=c s hs;refine⟨yh ⟨m,lI⟩,Qi ?_⟩;have G:Ut L P (Xl L t) s<=1:=by
   unfold Ut;refine (JV (i:=s) _ fun j d f=>?_).1;rw [hlen] at d;obtain⟨z,A⟩:=c j d;unfold lj at f;rw [Qg] at f;have h1:=QI f.1;rw [Int.tmod_eq_of_lt z A,Int.tmod_eq_of_lt m B,Vg d,Vg hs] at h1;have w1:=(Y4 (t:=t) (zc L.b j).o a).1;have w2:=(Y4 (t:=t) (zc L.b s).o a).1;by_cases p:j<s
   ·have:=nH (L:=L) a s j p;lia
   by_cases q:s<j
   ·have:=nH (L:=L) a j s q;lia
   lia
  have H:1<=yf t (ye (zc L.b s).o):=by
   obtain⟨u1,u2,u3,-,-⟩:=yi a;have u1:=yG u1;have u2:=yG u2;have u3:=yG u3;grind [yf]
  lia
 refine yk fun i hi=>?_;have k:zJ (zf L t) i∈zf L t:=by grind [zJ]
 have l:=JW a k;obtain⟨fr,to,bk,wt,e,r,u,v,-⟩:=ZW hm _ k;apply Qi;rw [e] at l ⊢;simp only [QL] at l ⊢;have h1:=g fr r;have x:=(c to u).1;by_cases n:bk=0
 ·have h:=nH (L:=L) a to fr (v n);grind [Vg]
 have h:1*P<=(bk:Int)*P:=Wx lI lI;lia
end
section
def ei (L:Lp) (P:Int) (I:Nat->Bool) (T:Nat->Int) (c r:Int):Nat:=cnt (fun i=>I i && (decide (ye (zc L.b i).o=c) && decide ((T i).tmod P=r))) L.b.length
def js (P:Int) (e:Ed):Int:=e.wt - e.bk*P
def bX (I:Nat->Bool) (a:Nat) (b:Bool):Nat->Bool:=fun j=>if j=a then b else I j
def b9 (T:Nat->Int) (a:Nat) (x:Int):Nat->Int:=fun j=>if j=a then x else T j
def JY (es:List Ed) (P:Int) (I:Nat->Bool) (T:Nat->Int) (a k:Nat):Prop :=
 ∀j,j<es.length->(j<k\/(zJ es j).fr.toNat≠a)->I (zJ es j).fr.toNat->I (zJ es j).to.toNat->T (zJ es j).fr.toNat+js P (zJ es j)<=T (zJ es j).to.toNat
structure jh (L:Lp) (t:Tg) (P:Int) (I:Nat->Bool) (T N:Nat->Int) (a k:Nat):Prop where
 times:∀i,i<L.b.length->0<=T i/\T i<=1000
 nexts:∀i,i<L.b.length->0<=N i/\N i<=1001
 units:∀c r,(ei L P I T c r:Int)<=yf t c
 kept:JY (zf L t) P I T a k
theorem U6 {q:Nat->Bool} {a:Nat}:∀n,(∀i,i<n->i≠a->q i=p i)->cnt q n+(if a<n/\p a then 1 else 0)=cnt p n+(if a<n/\q a then 1 else 0):=by
 intro n;induction n with
 | zero=>intro _;simp [cnt]
 | succ n ih =>
  intro h;have h1:=ih fun i hi=>h i lI;grind [cnt]
def Al {L:Lp} {P:Int} {I:Nat->Bool} {T:Nat->Int} {a:Nat} {x:Int} (f:a<L.b.length) (d:I a=false) (c r:Int) :
  ei L P (bX I a true) (b9 T a x) c r=ei L P I T c r+(if ye (zc L.b a).o=c/\x.tmod P=r then 1 else 0):=by have h:=U6 (p:=fun i=>I i && (decide (ye (zc L.b i).o=c) && decide ((T i).tmod P=r))) (q:=fun i=>bX I a true i && (decide (ye (zc L.b i).o=c) && decide ((b9 T a x i).tmod P=r))) (a:=a) L.b.length (fun i _ hi=>by grind [bX,b9]);simp only [f,d,bX,b9,if_true,WI,Wb,Qg,QE,true_and,Ei,if_false] at h;exact h
def Am {L:Lp} {P:Int} {I:Nat->Bool} {T:Nat->Int} {a:Nat} (f:a<L.b.length) (d:I a) (c r:Int) :
  ei L P (bX I a false) T c r+(if ye (zc L.b a).o=c/\(T a).tmod P=r then 1 else 0)=ei L P I T c r:=by have h:=U6 (p:=fun i=>I i && (decide (ye (zc L.b i).o=c) && decide ((T i).tmod P=r))) (q:=fun i=>bX I a false i && (decide (ye (zc L.b i).o=c) && decide ((T i).tmod P=r))) (a:=a) L.b.length (fun i _ hi=>by simp [bX,hi]);simp only [f,d,bX,if_true,WI,Wb,Qg,QE,true_and,Ei,if_false,WG,and_false] at h;exact h
theorem sG {I:Nat->Bool} {a:Nat} (c:a<n) (b:I a=false):cnt (bX I a true) n=cnt I n+1:=by grind [bX,U6]
theorem JZ {I:Nat->Bool} {a:Nat} (c:a<n) (b:I a):cnt (bX I a false) n+1=cnt I n:=by grind [bX,U6]
theorem J2 {N:Nat->Int} {a:Nat} {x:Int}:∀n,xz (b9 N a x) n=xz N n+(if a<n then x - N a else 0):=by intro n;induction n <;> grind [xz,b9]
def An {N:Nat->Int} {lo hi:Int}:∀n,(∀i,i<n->lo<=N i/\N i<=hi)->(n:Int)*lo<=xz N n/\xz N n<=(n:Int)*hi:=by
 intro n;induction n with
 | zero=>intro _;simp [xz]
 | succ n ih =>intro h;have h1:=ih fun i hi=>h i lI;have a:=h n lI;show _<=xz N n+N n/\xz N n+N n<=_;rw [ET,qz,qz];simp only [Int.natCast_one,Int.one_mul];lia
variable {L:Lp} {t:Tg} {P:Int} {I:Nat->Bool} {T N:Nat->Int}
theorem jh.start (d:zS t) (a k:Nat):jh L t P (fun _=>false) (fun _=>0) (fun _=>0) a k where
 times:=fun _ _=>⟨tQ,tQ⟩
 nexts:=fun _ _=>⟨tQ,tQ⟩
 units:=fun c r=>by
  have h1:ei L P (fun _=>false) (fun _=>0) c r=0:=by
   rcases Yd (fun i=>(fun _:Nat=>false) i && (decide (ye (zc L.b i).o=c) && decide (((fun _:Nat=>(0:Int)) i).tmod P=r))) L.b.length with h | ⟨i,_,h⟩
   ·exact h
   ·simp at h
  have:=rW (c:=c) d
  lia
 kept:=fun j _ _ h=>by simp at h
def jh.put {a0 k0 a:Nat} {x:Int} (h:jh L t P I T N a0 (zf L t).length) (g:a<L.b.length) (m:I a=false) (h0:N a<=x) (h1:x<=1000)
  (s:(ei L P I T (ye (zc L.b a).o) (x.tmod P):Int)≠yf t (ye (zc L.b a).o))
  (q:∀j,j<(zf L t).length->(zJ (zf L t) j).to.toNat=a->I (zJ (zf L t) j).fr.toNat->T (zJ (zf L t) j).fr.toNat+js P (zJ (zf L t) j)<=x) :
  jh L t P (bX I a true) (b9 T a x) (b9 N a (x+1)) a 0 where
 times:=fun i hi=>by
  have d:=h.nexts a g
  have f:=h.times i hi
  grind [b9]
 nexts:=fun i hi=>by
  have d:=h.nexts a g
  have f:=h.nexts i hi
  grind [b9]
 units:=fun c r=>by
  rw [Al g m]
  have d:=h.units c r
  grind
 kept:=fun j k p d f=>by
  have n:(zJ (zf L t) j).fr.toNat≠a:=lI
  unfold bX at d f
  rw [Qe n] at d
  have l:b9 T a x (zJ (zf L t) j).fr.toNat=T (zJ (zf L t) j).fr.toNat:=by grind [b9]
  rw [l]
  by_cases e:(zJ (zf L t) j).to.toNat=a
  ·grind [b9]
  ·rw [Qe e] at f
   unfold b9;rw [Qe e]
   exact h.kept j k (.inl k) d f
theorem jh.o {a:Nat} (h:jh L t P I T N a k) (hb:b<L.b.length) (l:I b) (p:k<(zf L t).length) (o:(zJ (zf L t) k).to.toNat=b):jh L t P (bX I b false) T N a (k+1) where
 times:=h.times
 nexts:=h.nexts
 units:=fun c r=>by
  have h1:=Am (P:=P) (T:=T) hb l c r
  have d:=h.units c r
  lia
 kept:=fun j m n d f=>by
  have g:∀i,bX I b false i->i≠b/\I i:=fun i hi=>by
   grind [bX]
  obtain⟨n2,d⟩:=g _ d
  obtain⟨q,f⟩:=g _ f
  refine h.kept j m ?_ d f
  grind
def jh.next {a:Nat} (h:jh L t P I T N a k) (i:k<(zf L t).length) (hn:(zJ (zf L t) k).fr.toNat=a->I (zJ (zf L t) k).to.toNat->T a+js P (zJ (zf L t) k)<=T (zJ (zf L t) k).to.toNat):jh L t P I T N a (k+1) where
 times:=h.times
 nexts:=h.nexts
 units:=h.units
 kept:=fun j f b c d=>by
  by_cases e:(zJ (zf L t) j).fr.toNat=a
  ·rcases b with b | b
   ·by_cases g:j=k
    ·simp_all
    ·exact h.kept j f (.inl lI) c d
   ·lia
  ·exact h.kept j f (.inr e) c d
def jh.any {a:Nat} (h:jh L t P I T N a k) (g:(zf L t).length<=k):jh L t P I T N b (zf L t).length where
 times:=h.times
 nexts:=h.nexts
 units:=h.units
 kept:=fun j f _ c d=>h.kept j f (.inl lI) c d
theorem jh.legal {a:Nat} (h:jh L t P I T N a (zf L t).length) (hm:zQ L) (f:zS t) (h1:1<=P) (c:P<=200) (hall:∀i,i<L.b.length->I i):zZ L t P ((List.range L.b.length).map T):=by
 have hlen:((List.range L.b.length).map T).length=L.b.length:=sM
 have hn:∀i,i<L.b.length->ak ((List.range L.b.length).map T) i=T i:=fun i hi=>Ze hi;unfold zZ;rw [hm,f,yh (show 1<=P/\P<=200 from ⟨h1,c⟩),hlen];simp only [decide_true,Wb,Qg];constructor
 ·refine yk fun s hs=>?_;unfold VS;rw [Qg,hn s hs];refine⟨yh (h.times s hs),Qi ?_⟩;have e:Ut L P ((List.range L.b.length).map T) s=ei L P I T (ye (zc L.b s).o) ((T s).tmod P):=by unfold Ut ei;rw [hlen];refine GE fun i hi=>?_;grind [lj]
  rw [e];exact h.units _ _
 refine yk fun i hi=>?_;have d:zJ (zf L t) i∈zf L t:=by grind [zJ]
 obtain⟨fr,to,bk,wt,e,g,j,k,-⟩:=ZW hm _ d;have l:=h.kept i hi (.inl hi);apply Qi;grind [js]
end
section
def Ao (P:Int) (e:Ed) (H:Nat->Int):Nat->Int:=b9 H e.fr.toNat (max (H e.fr.toNat) (wrap64 (H e.to.toNat+js P e)))
def mO (P:Int) (l:List Ed) (H:Nat->Int):Nat->Nat->Int
 | 0=>H
 | k+1=>Ao P (zJ l k) (mO P l H k)
def hF (P:Int) (l:List Ed):Nat->Nat->Int
 | 0=>fun _=>0
 | r+1=>mO P l (hF P l r) l.length
def VF (H:Nat->Int) (I:Nat->Bool):Nat->Nat × Bool
 | 0=>(0,false)
 | k+1=>if I k=false/\((VF H I k).2=false\/H (VF H I k).1<H k) then (k,true) else VF H I k
def mP (es:List Ed) (P:Int) (I:Nat->Bool) (T N:Nat->Int) (a:Nat):Nat->Int
 | 0=>N a
 | k+1=>if (zJ es k).to.toNat=a/\I (zJ es k).fr.toNat then max (mP es P I T N a k) (T (zJ es k).fr.toNat+js P (zJ es k)) else mP es P I T N a k
def nI (L:Lp) (t:Tg) (P:Int) (I:Nat->Bool) (T:Nat->Int) (a:Nat) (s:Int):Prop:=(ei L P I T (ye (zc L.b a).o) (s.tmod P):Int)=yf t (ye (zc L.b a).o)
def kG (L:Lp) (t:Tg) (P:Int) (I:Nat->Bool) (T N:Nat->Int) (a:Nat) (tm:Int):Prop :=
 mP (zf L t) P I T N a (zf L t).length<=tm/\∀s,mP (zf L t) P I T N a (zf L t).length<=s->s<tm->s<=1000/\nI L t P I T a s
def kX (L:Lp) (t:Tg) (P:Int) (I:Nat->Bool) (T N:Nat->Int) (a:Nat) (tm:Int):Prop:=kG L t P I T N a tm/\(1000<tm\/¬nI L t P I T a tm)
def jE (es:List Ed) (P:Int) (T:Nat->Int) (tm:Int) (a:Nat) (I:Nat->Bool):Nat->Nat->Bool
 | 0=>I
 | k+1=>if (zJ es k).fr.toNat=a/\jE es P T tm a I k (zJ es k).to.toNat/\T (zJ es k).to.toNat<tm+js P (zJ es k) then bX (jE es P T tm a I k) (zJ es k).to.toNat false else jE es P T tm a I k
inductive V6 (L:Lp) (t:Tg) (P:Int) (H:Nat->Int):(Nat->Bool)->(Nat->Int)->(Nat->Int)->Option Li->Prop
 | done (I:Nat->Bool) (T N:Nat->Int) (h:(VF H I L.b.length).2=false):V6 L t P H I T N (some ((List.range L.b.length).map T))
 | none (I:Nat->Bool) (T N:Nat->Int) (a:Nat) (tm:Int) (h:VF H I L.b.length=(a,true)) (he:kX L t P I T N a tm) (h1:1000<tm):V6 L t P H I T N none
 | step (I:Nat->Bool) (T N:Nat->Int) (a:Nat) (tm:Int) (r:Option Li) (h:VF H I L.b.length=(a,true)) (he:kX L t P I T N a tm) (h1:tm<=1000) (hr:V6 L t P H (jE (zf L t) P (b9 T a tm) tm a (bX I a true) (zf L t).length) (b9 T a tm) (b9 N a (tm+1)) r):V6 L t P H I T N r
variable {L:Lp} {t:Tg} {P:Int} {I:Nat->Bool} {T N:Nat->Int} {a:Nat}
theorem kG.start:kG L t P I T N a (mP (zf L t) P I T N a (zf L t).length):=by grind [kG]
def kG.next {tm:Int} (h:kG L t P I T N a tm) (h1:tm<=1000) (b:nI L t P I T a tm):kG L t P I T N a (tm+1) :=by grind [kG]
def kX.unique {x y:Int} (g:kX L t P I T N a x) (i:kX L t P I T N a y):x=y:=by
 obtain⟨b,k⟩:=g;obtain⟨c,j⟩:=i;rcases Es x y with h | h | h
 ·obtain⟨d,f⟩:=c.2 x b.1 h;grind
 ·exact h
 obtain⟨d,f⟩:=b.2 y c.1 h;grind
def V6.unique {H:Nat->Int} (h:V6 L t P H I T N r):V6 L t P H I T N r'->r=r':=by
 induction h with
 | done I T N h =>
  intro b;cases b with
  | done _ _ _ b=>rfl
  | none _ _ _ a tm c=>rw [c] at h;cases h
  | step _ _ _ a tm r c=>rw [c] at h;cases h
 | none I T N a tm h i h1 =>
  intro b;cases b with
  | done _ _ _ b=>rw [h] at b;cases b
  | none=>rfl
  | step _ _ _ a' g r c d f =>rw [h] at c;injection c with e1 _;subst e1;have:=i.unique d;lia
 | step I T N a tm r h i h1 hr ih =>
  intro b;cases b with
  | done _ _ _ b=>rw [h] at b;cases b
  | none _ _ _ a' g c d f =>rw [h] at c;injection c with e1 _;subst e1;have:=i.unique d;lia
  | step _ _ _ a' g r' c d f j =>rw [h] at c;injection c with e1 _;subst e1;have e:=i.unique d;subst e;exact ih j
def Xr (L:Lp) (t:Tg) (P:Int) (r:Option Li):Prop:=V6 L t P (hF P (zf L t) L.b.length) (fun _=>false) (fun _=>0) (fun _=>0) r
def Xr.unique (h:Xr L t P r) (a:Xr L t P r'):r=r':=V6.unique h a
def sH (L:Lp) (t:Tg) (gU:Int):Int:=max (max gU (ZL L t)) (xS L t)
def Yz (L:Lp) (t:Tg) (gU P:Int) (T:Li):Prop :=
 (∀q,sH L t gU<=q->q<P->q<max gU (xU L t)->Xr L t q none)/\((sH L t gU<=P/\P<max gU (xU L t)/\Xr L t P (some T))\/(max gU (xU L t)<=P/\P=max gU (xU L t)/\T=Xl L t))
def Yz.unique {g P a:Int} {T f:Li} (h:Yz L t g P T) (i:Yz L t g a f):P=a/\T=f:=by
 obtain⟨h1,j⟩:=h;obtain⟨k1,k⟩:=i;rcases j with ⟨c,d,b⟩ | ⟨c,d,b⟩ <;> rcases k with ⟨b1,b2,b3⟩ | ⟨b1,b2,b3⟩
 ·rcases Es P a with h | h | h
  ·have:=(k1 P c h d).unique b;cases this
  ·subst h;have:=b.unique b3;simp_all
  have:=(h1 a b1 h b2).unique b3;cases this
 ·have:=(k1 P c lI d).unique b;cases this
 ·have:=(h1 a b1 lI b2).unique b3;cases this
 simp_all
end
def zL (n:Nat) (w:wO):Below n w w.drew:=Qm _ _ 1
def sI (n lo hi:Int) (w:wO) :
  Cp 143 #[J n,J lo,J hi] w (Re w (.bool (br n lo hi))):=by
 by_cases h:lo<=n/\n<=hi
 ·rw [yh h];obtain⟨h1,a⟩:=h;go_enter func143,ntmps143;go_wp2;go_ret;exact⟨rfl,rfl⟩
 rw [X0 h];by_cases h1:lo<=n
 ·have a:¬n<=hi:=fun a=>h ⟨h1,a⟩;clear h;go_enter func143,ntmps143;go_wp2;go_ret;exact⟨rfl,rfl⟩
 clear h;go_enter func143,ntmps143;go_wp2;go_ret;exact⟨rfl,rfl⟩
def pF (fr to bk wt:Nat) (p:Int) (w:wO) (h1:bk<=32) (d:wt<=6) (f:1<=p) (a:p<=200) :
  Cp 235 #[.agg #[J fr,J to,J bk,J wt],J p] w (Rt w (J ((wt:Int) - (bk:Int)*p))):=by have b:0<=(bk:Int)*p:=Ws oM oM;have c:(bk:Int)*p<=32*200:=Wy oM a oM oM;go_enter func235,ntmps235;go_wp2;go_ret;exact⟨rfl,Qd _ _⟩
def sJ (o xa xb ya yb ar sp pl nn tm p:Int) (w:wO) (h0:0<=tm) (h1:tm<=5000) (n:1<=p) (q:p<=200) :
  Cp 237 #[.agg #[J o,J xa,J xb,J ya,J yb,J ar,J sp,J pl,J nn],J tm,J p] w (Rt w (.agg #[J (ye o),J (tm.tmod p)])):=by
 have f:=Z (fun W=>pE o W);have m:¬p=0:=oM
 have g:=ER p h0;have h:=WL tm (show 0<p by omega);obtain⟨c,i⟩:=nm (tm.tmod p);rw [i] at g h ⊢;have l:wrap64 c=c:=by unfold wrap64;omega
 obtain⟨j,d⟩:=nm (ye o);rw [d] at f ⊢;clear d;go_enter func237,ntmps237;go_wp2;refine rg 7 (fun w'=>w'.c w.z 0=Y o) (by go_simp) fun k=>?_;refine aq 0 ?_;refine aq 3 ?_;refine uk 5 ?_;refine uo 2 fun K a=>?_;go_simp;refine (f _).mr fun w' b=>?_;have b:=b.s;subst b;refine bq a.o (.inr k) ?_;clear a K;refine uk 6 ?_;refine uo 7 fun K a=>?_;go_simp;refine bq a.o (.inl rfl) ?_;clear a K;refine rd ?_;go_wp2;exact bodyPost_ret (v:=.agg #[J j,J c]) (by simp [results,results237,go_sem]) rfl ⟨rfl,(QB _ _ _).drew⟩
def J3 (P:Int) (T:Li) (m:Option Addr) (tc:Nat) (w:wO) (h:zM w (.slice m T.length tc) T) :
  Cp 195 #[.agg #[J P,.slice m T.length tc]] w (Rt w (.bool (zF (fun i=>br (ak T i) 0 1000) T.length && br P 1 200))):=by
 obtain⟨a,cap,v,A,hm,hr,r⟩:=h;injection v with e1 e2 e3;subst e1;subst e3;unfold maxLen at hm;clear e2;have o:=Z r;clear r hr;go_enter func195,ntmps195;go_wp2;go_loopw [8] (fun i wr=>∃k:Nat,k<=T.length/\i=J k/\zF (fun i=>br (ak T i) 0 1000) k/\wr=w.alloc (.cells #[J P,.slice m T.length tc] 110)) (fun i _=>T.length - (intOf i).toNat)
 case atStart=>exact⟨0,Ql _,rfl,rfl,rfl⟩
 obtain⟨k,z,rfl,hall,rfl⟩:=hrel;have n:=Z hall;clear hall;by_cases g:k<T.length
 ·obtain⟨b,y,rfl,hb,q⟩:=o oM;have u:=q k g;have t:(k:Int)<(T.length:Int):=oM
  clear q o;obtain⟨x,l⟩:=nm (ak T k);rw [l] at u;have p:=Z l;clear l;obtain⟨rb,d⟩:=nm (br x 0 1000);have f:Hid (∀W,Cp 143 #[J x,J 0,J 1000] W (Re W (.bool rb))):=fun W=>d ▸ sI x 0 1000 W;have j:=Z d;clear d;cases rb with
  | true =>
   go_wp2_with (go_at_call 143;refine (f _).mr fun w' c=>?_;have c:=c.s;subst c);go_roundw
   case rel=>exact⟨k+1,oM,nQ,yr n (by rw [p];exact j),by first | trivial | rfl⟩
   simp [intOf];omega
  | false =>have s:Hid (zF (fun i=>br (ak T i) 0 1000) T.length=false):=yd g (by rw [p];exact j);go_wp2_with (go_at_call 143;refine (f _).mr fun w' c=>?_;have c:=c.s;subst c);go_ret;exact⟨zi (by rw [s];rfl),Qd _ _⟩
 have e:k=T.length:=oM
 subst e;have t:¬(T.length:Int)<(T.length:Int):=oM
 have f:=Z (fun W=>sI P 1 200 W);obtain⟨rb,d⟩:=nm (br P 1 200);rw [d] at f;have j:=Z d;clear d;go_wp2_with (go_at_call 143;refine (f _).mr fun w' c=>?_;have c:=c.s;subst c);go_ret;exact⟨zi (by rw [n,j];rfl),Qd _ _⟩
def J4 (n:Nat) (P:Int) (T:Li) (tb a tc:Nat) (la:Option Addr) (lc:Nat) (l:List Ed) (w:wO) (hE:ZD w (.slice la l.length lc) l) (hl:∀e∈l,kt n e) (hn:n<=16) (aO:1<=P) (I:P<=200) (cY:T.length=n) (dp:n<=tc) (df:tc<=9223372036854775807) (bg:tb<w.heap.size)
  (gR:∀i,i<n->w.cell? (E tb (a+i))=Y (ak T i)) (hT:∀i,i<n->0<=ak T i/\ak T i<=1000) :
  Cp 196 #[.slice la l.length lc,.agg #[J P,.slice (some (E tb a)) n tc]] w (Rt w (.bool (zF (fun i=>UM P T (zJ l i)) l.length))):=by
 obtain⟨la',lc',di,aJ,dj,cx⟩:=hE;injection di with e1 e2 e3;subst e1;subst e3;unfold maxLen at dj;have cM:=Z cx;have HL:=Z hl;have H:=Z hT;have bY:=Z gR;clear cx hl e2 hT gR cY;have X:=Z (Qd w (.cells #[J P,vE tb a n tc] 110));go_enter func196,ntmps196;go_wp2;go_loopw [9] (fun i wr=>∃k:Nat,k<=l.length/\i=J k/\zF (fun i=>UM P T (zJ l i)) k/\Below (w.heap.size+1) (w.alloc (.cells #[J P,.slice (some (E tb a)) n tc] 110)) wr) (fun i _=>l.length - (intOf i).toNat)
 case atStart=>exact⟨0,Ql _,rfl,rfl,QA _ _⟩
 obtain⟨k,hk,rfl,hall,d⟩:=hrel;have G:=Z hall;have HB:=Z d;have f:Bw w wr:=X.t (d.m oM);have cD:w.heap.size+1<=wr.heap.size:=by have:=d.size;simp at this;omega
 have s:wr.heap[w.heap.size]?=some (.cells #[J P,vE tb a n tc] 110 (0,0)):=by rw [d.block _ oM];show (w.heap.push _)[w.heap.size]?=_;simp
 clear hall;by_cases q:k<l.length
 ·have aP:(k:Int)<(l.length:Int):=oM
  obtain⟨eb,eo,rfl,bG,U⟩:=cM oM;obtain⟨z,A,B,C⟩:=nU (U k q);rw [<-ze f _ _ bG] at z A B C;have cw:eb<wr.heap.size:=oM
  obtain⟨fr,to,bk,wt,r,cA,cF,cZ,dt⟩:=HL _ (Vb q);have m:Hid (UM P T (zJ l k)=decide (ak T fr+(wt:Int)<=ak T to+(bk:Int)*P)):=by show _=_;rw [r];rfl
  rw [r] at z A B C;simp only at z A B C;have dx:=H fr cA;have dy:=H to cF;have t:=(ze f tb (a+fr) bg).t (bY fr cA);have u:=(ze f tb (a+to) bg).t (bY to cF);obtain⟨c,N⟩:∃x,ak T fr=x:=⟨_,rfl⟩;obtain⟨h,O⟩:∃x,ak T to=x:=⟨_,rfl⟩;rw [N] at dx t m;rw [O] at dy u m;have bL:0<=(bk:Int)*P:=Ws oM oM;have bM:(bk:Int)*P<=32*200:=Wy oM I oM oM;have M:=Z (fun W=>pF fr to bk wt P W cZ dt aO I);obtain⟨g,hg⟩:=nm ((wt:Int) - (bk:Int)*P);rw [hg] at M;have dG:-10000<=g/\g<=6:=oM
  have v:Hid (UM P T (zJ l k)=!decide (h<c+g)):=by
   show _=_;rw [m];grind
  have cH:IntKind.i64.wrap (c+g)=c+g:=xG _ oM oM;have dF:(fr:Int)<(n:Int):=oM
  have dJ:(to:Int)<(n:Int):=oM
  have R:Hid (∀y:wO,Below wr.heap.size (wr.alloc (Id fr to bk wt 98)) y->y.c w.heap.size 0=Y P/\y.c w.heap.size 1=some (vE tb a n tc)/\y.c tb (a+fr)=Y c/\y.c tb (a+to)=Y h):=fun y F=>by have o:Bw wr y:=(Qd _ _).t F;have hb:=(o.block w.heap.size oM).t s;exact⟨cb hb,cb hb,(ze o _ _ oM).t t,(ze o _ _ oM).t u⟩
  have S:Hid (∀y:wO,Below (wr.heap.size+1) (wr.alloc (Id fr to bk wt 98)) y->y.c wr.heap.size 0=Y fr/\y.c wr.heap.size 1=Y to/\y.c wr.heap.size 2=Y bk/\y.c wr.heap.size 3=Y wt):=fun y F=>by have hb:y.heap[wr.heap.size]?=some (Id fr to bk wt 98):=(by rw [F.block _ oM];show (wr.heap.push _)[wr.heap.size]?=_;simp);exact⟨cb hb,cb hb,cb hb,cb hb⟩
  have HS:Hid ((wr.alloc (Id fr to bk wt 98)).heap.size=wr.heap.size+1):=by show _=_;simp
  clear U r d s m t u N O hg;obtain⟨bd,Q⟩:=nm (decide (h<c+g));have bj:=Z Q;rw [Q] at v;go_wp2;refine rg 99 (fun w'=>(w'.c w.heap.size 0=Y P/\w'.c w.heap.size 1=some (vE tb a n tc)/\w'.c tb (a+fr)=Y c/\w'.c tb (a+to)=Y h)/\(w'.c wr.heap.size 0=Y fr/\w'.c wr.heap.size 1=Y to/\w'.c wr.heap.size 2=Y bk/\w'.c wr.heap.size 3=Y wt)) ⟨R _ (zL _ _),S _ (zL _ _)⟩ fun D=>?_;refine aq 0 ?_;refine aq 2 ?_;refine aq 4 ?_;refine aq 6 ?_;refine aq 8 ?_;refine aq 10 ?_;refine aq 12 ?_;refine uk 14 ?_;refine uo 15 fun K hK=>?_;go_simp;refine (M _).mr fun b V=>?_;have j:Below (wr.heap.size+1) (wr.alloc (Id fr to bk wt 98)) b:=(zL _ _).t (V.m sM);have ay:=Z j;have D:=(show (b.c w.heap.size 0=Y P/\b.c w.heap.size 1=some (vE tb a n tc)/\b.c tb (a+fr)=Y c/\b.c tb (a+to)=Y h)/\(b.c wr.heap.size 0=Y fr/\b.c wr.heap.size 1=Y to/\b.c wr.heap.size 2=Y bk/\b.c wr.heap.size 3=Y wt) from ⟨R _ (j.m oM),S _ j⟩);clear V j;refine bq hK.o (.inr D) ?_;clear hK K;refine aq 16 ?_;refine rd ?_;have L:Hid (Below (w.heap.size+1) (w.alloc (.cells #[J P,.slice (some (E tb a)) n tc] 110)) b):=HB.t (((Qd _ _).m cD).t (ay.m oM));have p:Hid (Bw w b):=X.t (L.m oM);clear D;cases bd with
  | true =>have HF:Hid (zF (fun i=>UM P T (zJ l i)) l.length=false):=yd q v;go_wp2;go_ret;exact⟨zi HF.s,p⟩
  | false =>
   go_wp2;go_roundw
   case rel=>exact⟨k+1,oM,nQ,yr G v,L⟩
   simp [intOf];omega
 have e:k=l.length:=oM
 subst e;have aP:¬(l.length:Int)<(l.length:Int):=oM
 have p:=Z f;clear f d s;go_wp2;go_ret;exact⟨zi G.s,p⟩
def J5:laidOutB prog:=kR
def Aq:(318:TypeId)<prog.types.size:=QI kR
def J6:(match prog.underlying 318 with | some (.array _ _) | some (.struct _)=>true | _=>false)=true:=kR
def pG:KeyLaw prog 318:=deep_law_laid J5 (m:=2) lI Aq kR J6
def Ar (u:wO):(zeroValue 3).run prog u=.ok (J 0) u:=kR
def As (a b:Int) (k:(Lit.int .i64 a).wf) (hb:(Lit.int .i64 b).wf):∃l,keyOf prog 318 (.agg #[.int .i64 a,.int .i64 b])=some l:=by
 have h1:prog.keyType 318:=kR
 have f:prog.cellsOf 318=2:=kR
 have h:prog.cellsOf 3=1:=kR
 obtain⟨c,i⟩:∃c,prog.types.size=c+1:=⟨_,(qF (Nat.lt_of_le_of_lt (Ql _) Aq)).s⟩;have j:(Value.agg #[.int .i64 a,.int .i64 b]).formed prog 318:=by simp [Value.formed,underlying318,f]
 have g:∀d (x:Int),(Lit.int .i64 x).wf->prog.keyLits (d+1) 3 [.int .i64 x]=some [.int .i64 x]:=fun d x o=>by unfold Program.keyLits;simp_all
 have m:prog.keyLits (c+1+1) 318 [.int .i64 a,.int .i64 b]=some [.int .i64 a,.int .i64 b]:=by unfold Program.keyLits;rw [underlying318];simp [f,h,g c a k,g c b hb,List.range,List.range.loop]
 unfold keyOf;rw [underlying318];simp only [h1,j,Bool.and_self,if_true];rw [i];have n:(Value.agg #[.int .i64 a,.int .i64 b]).cells.toList=[.int .i64 a,.int .i64 b]:=rfl;simp_all
def xr (f:Int->Int->Int) (n b:Nat) (x:wO):Prop :=
 ∃D:DataW Unit,x.ownsMap prog 318 (plainElem prog 3) b n D/\Maps.IsMap D/\∀c r kl,keyOf prog 318 (.agg #[.int .i64 c,.int .i64 r])=some kl->D.atKey kl (.lit (.int .i64 0))=.lit (.int .i64 (f c r))
def xr.gE (h:xr f n b x) (hb:Bw x y):xr f n b y:=by obtain⟨D,h1,a,c⟩:=h;refine⟨D,h1.kept (row:=none) ⟨hb.os,hb.tape,hb.output,hb.size,fun i hi _=>hb.block i hi⟩ sM,a,c⟩
def xr.lt (h:xr f n b x):b<x.heap.size:=by obtain⟨D,h1,_⟩:=h;exact h1.lt
def xr.gG (h:xr f n b x) (hb:y.heap[b]?=x.heap[b]?):xr f n b y:=by obtain⟨D,⟨c,a,h1,i⟩,d,g⟩:=h;exact⟨D,⟨c,a,hb.t h1,i⟩,d,g⟩
theorem xr.congr {g:Int->Int->Int} (h:xr f n b x) (e:∀c r,f c r=g c r):xr g n b x:=by grind [xr]
theorem xr.made (w:wO):xr (fun _ _=>0) 0 w.heap.size (w.alloc (.map #[] 0)) :=
 ⟨_,World.ownsMap_made (H:=Unit) w prog 318 (plainElem prog 3),Maps.isMap_empty,fun s c a _=>rfl⟩
def xr.look (h:xr f n b x) (c r:Int) (hs:(Lit.int .i64 c).wf) (i:(Lit.int .i64 r).wf):(Instr.lookup 262 (.map (some b)) (.agg #[.int .i64 c,.int .i64 r]) false).run prog x=.ok (.int .i64 (f c r)) x:=by obtain⟨D,h1,k,g⟩:=h;obtain⟨j,a⟩:=As c r hs i;obtain⟨q,hr,d,_⟩:=h1.lookup_int (EZ pG) underlying262 underlying3 (Ar _) a;rw [g c r j a] at d;injection d with e1;injection e1 with _ e2;rw [hr,e2]
def xr.step (h:xr f n b x) (hn:n<maxLen) (c r:Int) (ws:(Lit.int .i64 c).wf) (o:(Lit.int .i64 r).wf) (v:Int) (F:(Lit.int .i64 v).wf) :
  ∃ v0 st w1,(Instr.mapEntry 262 (.map (some b)) (.agg #[.int .i64 c,.int .i64 r])).run prog x=.ok (.tuple #[v0,.int .i64 st]) w1/\x.grownBy w1 (some b)/\(Instr.lookup 262 (.map (some b)) (.agg #[.int .i64 c,.int .i64 r]) false).run prog w1=.ok (.int .i64 (f c r)) w1 /\
    ∃g,(Instr.entryStore 262 (.map (some b)) (.int .i64 st) (.int .i64 v)).run prog w1=.ok () g/\w1.grownBy g (some b)/\xr (fun c' r'=>if c'=c/\r'=r then v else f c' r') (n+1) b g:=by
 have C:=h.look c r ws o
 obtain⟨D,h1,k,B⟩:=h
 obtain⟨l,j⟩:=As c r ws o
 obtain⟨v0,st,w1,q,s,t,u⟩:=DO pG underlying262 underlying3 Ar h1 hn j C
 obtain⟨g,y,z,A⟩:=u w1 v rfl F
 refine⟨v0,st,w1,q,s,t,g,y,z,D.put l (.lit (.int .i64 v)),A,k.put _ _,fun m c' d a=>?_⟩
 by_cases e:d=l
 ·subst e
  have i:=pG.inj j a
  injection i with i
  have p:c=m/\r=c':=by simpa using i
  obtain⟨rfl,rfl⟩:=p
  dsimp only
  rw [ql k ((EZ pG).key a),Qf ⟨rfl,rfl⟩]
 ·dsimp only
  rw [q7 e,B m c' d a,Qe fun h=>e ?_]
  simp_all
def Z6 (L:Lp) (P:Int) (T:Li) (k:Nat) (c r:Int):Nat:=cnt (fun j=>decide ((ak T j).tmod P=r) && decide (ye (zc L.b j).o=c)) k
theorem sK (L:Lp) (P:Int) (T:Li) (k:Nat) (c r:Int):Z6 L P T (k+1) c r=if c=ye (zc L.b k).o/\r=(ak T k).tmod P then Z6 L P T k c r+1 else Z6 L P T k c r:=by grind [Z6,cnt]
def Un (L:Lp) (t:Tg) (P:Int) (T:Li) (i:Nat):Bool:=decide ((Z6 L P T (i+1) (ye (zc L.b i).o) ((ak T i).tmod P):Int)<=yf t (ye (zc L.b i).o))
theorem At (L:Lp) (P:Int) (T:Li) (i k:Nat):Z6 L P T k (ye (zc L.b i).o) ((ak T i).tmod P)=cnt (lj L P T i) k:=rfl
def J7 {L:Lp} {t:Tg} {P:Int} {T:Li} (h:zS t) (hlen:T.length=L.b.length) (l:1<=P) (k:P<=200) (hm:zQ L) :
  (zF (fun i=>br (ak T i) 0 1000) T.length && zF (fun i=>UM P T (zJ (zf L t) i)) (zf L t).length && zF (Un L t P T) T.length)=zZ L t P T:=by
 have m:(zQ L && zS t):=by rw [hm,h];rfl
 rw [Ov m l k hlen,Ea];simp only [Qg];constructor
 ·rintro ⟨⟨h1,f⟩,a⟩;refine⟨yk fun i hi=>?_,f⟩;unfold VS;rw [Qg];refine⟨zq h1 i hi,Qi ?_⟩;unfold Ut;rcases wg (lj L P T i) T.length with h0 | ⟨j,n,d,j3⟩
  ·rw [h0];have:=rW (c:=ye (zc L.b i).o) h;lia
  have g:=QI (zq a j n);unfold lj at d;simp only [Qg,QE] at d;rw [d.1,d.2,At,<-j3] at g;exact g
 rintro ⟨h1,f⟩;refine⟨⟨yk fun i hi=>?_,f⟩,yk fun i hi=>Qi ?_⟩
 ·grind [zq,VS]
 have a:=zq h1 i hi;unfold VS at a;rw [Qg] at a;have g:=QI a.2;rw [At];have p:cnt (lj L P T i) (i+1)<=Ut L P T i:=we _ lI;lia
section
section
variable {P:Program} {ops:Array Oper} {Q:Exit->Act->wO->Prop} {md:Region.Mode} {S:wO->Prop} {z:Nat}
def Xp {j:Nat} {o g:Oper} {rest d:List Oper} {c:Nat} {f:Array Bool} {a:Act} {w:wO} (r:ops.toList.drop i=o :: rest) (n:ops.toList.drop j=g :: d) (hr:Region.ready md ops f=[i,j])
  (h:∀b:Act->wO->Prop,Shut (∀a w,(i=z\/S w)->YX P md ops Q S z c (f.setIfInBounds i true) a w->b a w)->if Region.wanted o (yielded ops a.tmps)=true then Oper.wp P o a w b Q else b (a.put o.dst undef) w)
  (p:∀b:Act->wO->Prop,Shut (∀a w,(j=z\/S w)->YX P md ops Q S z c (f.setIfInBounds j true) a w->b a w)->if Region.wanted g (yielded ops a.tmps)=true then Oper.wp P g a w b Q else b (a.put g.dst undef) w) :
  YX P md ops Q S z (c+1) f a w :=
 ⟨fun h0=>absurd (hr ▸ h0) sM,fun q m=>by
  rw [hr] at m
  have e:q=i\/q=j:=by simpa using m
  rcases e with e | e
  ·subst e
   exact wpOp_step (YK r) (fun b k=>h b (fun a w hS l=>k a w ⟨hS,l⟩))
  ·subst e
   exact wpOp_step (YK n) (fun b k=>p b (fun a w hS l=>k a w ⟨hS,l⟩))⟩
end
theorem zm (w:wO) (a:Array vO) (e:TypeId):(w.alloc (.cells a e)).heap[w.heap.size]?=some (.cells a e (0,0)):=by show (w.heap.push _)[w.z]?=_;simp
def Yr {e:TypeId} {a b a' b':vO} (h:x.heap[g]?=some (.cells #[a,b] e (0,0))):((x.setCell (E g 0) a').setCell (E g 1) b').cell? (E g 0)=some a'/\((x.setCell (E g 0) a').setCell (E g 1) b').cell? (E g 1)=some b':=by
 have h0:zr x g e 2 (fun i=>if i=0 then a else b):=⟨_,h,sM,fun i hi=>by
  obtain rfl | rfl:i=0\/i=1:=lI
  all_goals rfl⟩
 have h1:=(h0.set 0 a' lI).set 1 b' lI;exact⟨by simpa using h1.cell (i:=0) lI,by simpa using h1.cell (i:=1) lI⟩
def xX (h:y.heap[g]?=x.heap[g]?) (i:Nat):y.cell? (E g i)=x.cell? (E g i):=by simp [World.cell?,h]
def Uq (x:Int) (h0:-9223372036854775808<=x) (h1:x<=9223372036854775807):(Lit.int .i64 x).wf:=WN lI
def J8 (t:Tg) (L:Lp) (v0 v2:vO) (bb bo bc:Nat) (P:Int) (T:Li) (tb m tc:Nat) (w:wO) (cX:L.b.length<=16) (dC:L.b.length<=bc) (dD:bc<=9223372036854775807) (hbb:bb<w.heap.size) (gQ:∀i,i<L.b.length->∀j,j<9->w.cell? (E bb (bo+i*9+j))=(zG (zc L.b i))[j]?)
  (dp:L.b.length<=tc) (df:tc<=9223372036854775807) (bg:tb<w.heap.size) (ao:∀i,i<L.b.length->w.cell? (E tb (m+i))=Y (ak T i)) (hT:∀i,i<L.b.length->0<=ak T i/\ak T i<=1000) (aO:1<=P) (aG:P<=200) :
  Cp 197 #[.agg #[v0,.slice (some (E bb bo)) L.b.length bc,v2],(tV t),.agg #[J P,.slice (some (E tb m)) L.b.length tc]] w (Rt w (.bool (zF (Un L t P T) L.b.length))):=by
 have cL:=Z gQ;have cU:=Z ao;have HT:=Z hT;have dm:=@run_makeMap prog;have bC:Hid ((((w.alloc (.cells #[v0,.slice (some (E bb bo)) L.b.length bc,v2] 62)).alloc (tO t)).alloc (.cells #[J P,.slice (some (E tb m)) L.b.length tc] 110)).heap.size=(w.heap.size+1+1+1)):=by show _=_;simp
 have bS:=Z (QJ w (.cells #[v0,.slice (some (E bb bo)) L.b.length bc,v2] 62) (tO t) (.cells #[J P,.slice (some (E tb m)) L.b.length tc] 110));have H0:Hid (xr (fun c s=>(Z6 L P T 0 c s:Int)) 0 (w.heap.size+1+1+1) ((((w.alloc (.cells #[v0,.slice (some (E bb bo)) L.b.length bc,v2] 62)).alloc (tO t)).alloc (.cells #[J P,.slice (some (E tb m)) L.b.length tc] 110)).alloc (.map #[] 0))):=by show xr _ _ _ _;rw [<-bC];exact (xr.made (((w.alloc (.cells #[v0,.slice (some (E bb bo)) L.b.length bc,v2] 62)).alloc (tO t)).alloc (.cells #[J P,.slice (some (E tb m)) L.b.length tc] 110))).congr fun c s=>rfl
 have cN:Hid ((((w.alloc (.cells #[v0,.slice (some (E bb bo)) L.b.length bc,v2] 62)).alloc (tO t)).alloc (.cells #[J P,.slice (some (E tb m)) L.b.length tc] 110)).heap[w.heap.size+1+1]?=some (.cells #[J P,.slice (some (E tb m)) L.b.length tc] 110 (0,0))):=by
  show _=_;have e:((w.alloc (.cells #[v0,.slice (some (E bb bo)) L.b.length bc,v2] 62)).alloc (tO t)).heap.size=w.heap.size+1+1:=by simp
  rw [<-e];exact zm _ _ _
 have cS:Hid ((((w.alloc (.cells #[v0,.slice (some (E bb bo)) L.b.length bc,v2] 62)).alloc (tO t)).alloc (.cells #[J P,.slice (some (E tb m)) L.b.length tc] 110)).heap[w.heap.size+1]?=some (tO t)):=by
  show _=_;rw [Qr _ _ _ (by simp)];have e:(w.alloc (.cells #[v0,.slice (some (E bb bo)) L.b.length bc,v2] 62)).heap.size=w.heap.size+1:=by simp
  rw [<-e];exact zm _ _ _
 clear gQ ao hT;go_enter func197,ntmps197;go_wp2;go_loopw [15] (fun i wr=>∃k:Nat,k<=L.b.length/\i=J k/\zF (Un L t P T) k/\Below (w.heap.size+1+1+1) (((w.alloc (.cells #[v0,.slice (some (E bb bo)) L.b.length bc,v2] 62)).alloc (tO t)).alloc (.cells #[J P,.slice (some (E tb m)) L.b.length tc] 110)) wr/\xr (fun c s=>(Z6 L P T k c s:Int)) k (w.heap.size+1+1+1) wr) (fun i _=>L.b.length - (intOf i).toNat)
 case atStart=>exact⟨0,Ql _,rfl,rfl,(QA _ _).alloc (by rw [bC];exact Qc _) _,H0⟩
 clear H0 dm;obtain⟨k,hk,rfl,hall,O,hM⟩:=hrel;have HA:=Z hall;have R:=Z O;have HM:=Z hM;have M:Bw w wr:=bS.t (O.m (by omega));have cD:(w.heap.size+1+1+1)<=wr.heap.size:=by have:=O.size;rw [bC] at this;exact this
 clear hall hM;by_cases ac:k<L.b.length
 ·have aP:(k:Int)<(L.b.length:Int):=by omega
  obtain⟨c0,c1,c2,c3,c4,c5,c6,c7,c8⟩:=Ue (fun j hj=>(ze M bb (bo+k*9+j) hbb).t (cL k ac j hj));have dE:bb<wr.heap.size:=by omega
  obtain⟨B,tm2⟩:=HT k ac;have bO:=(ze M tb (m+k) bg).t (cU k ac);obtain⟨a,C,dg⟩:=qm (zc L.b k).o;have aY:=ER P B;have aZ:=WL (ak T k) (show 0<P by omega);have H:Hid (Un L t P T k=decide ((Z6 L P T k a ((ak T k).tmod P):Int)+1<=yf t a)):=by show _=_;unfold Un;rw [C,sK,Qf ⟨C.s,rfl⟩];rfl
  have V:Hid (∀c s,(fun c' r'=>if c'=(a:Int)/\r'=(ak T k).tmod P then (Z6 L P T k a ((ak T k).tmod P):Int)+1 else (Z6 L P T k c' r':Int)) c s=(Z6 L P T (k+1) c s:Int)):=fun c s=>by
   rw [sK,C];dsimp only;by_cases e:c=(a:Int)/\s=(ak T k).tmod P
   ·rw [Qf e,Qf e,e.1,e.2];rfl
   rw [Qe e,Qe e]
  have aj:Z6 L P T k a ((ak T k).tmod P)<=16:=QH (U5 _ _) (by omega);have af:=Z (fun (x:wO) (h:xr (fun c s=>(Z6 L P T k c s:Int)) k (w.heap.size+1+1+1) x)=>h.look a ((ak T k).tmod P) (Uq _ (by omega) (by omega)) (Uq _ (by omega) (by omega)));have ag:=Z (fun (x:wO) (h:xr (fun c s=>(Z6 L P T k c s:Int)) k (w.heap.size+1+1+1) x)=>h.step (by unfold maxLen;omega) a ((ak T k).tmod P) (Uq _ (by omega) (by omega)) (Uq _ (by omega) (by omega)) ((Z6 L P T k a ((ak T k).tmod P):Int)+1) (Uq _ (by omega) (by omega)));have aa:Hid (∀x,xr (fun c s=>(Z6 L P T (k+1) c s:Int)) (k+1) (w.heap.size+1+1+1) x->(Instr.lookup 262 (.map (some (w.heap.size+1+1+1))) (.agg #[J a,J ((ak T k).tmod P)]) false).run prog x=.ok (J ((Z6 L P T k a ((ak T k).tmod P):Int)+1)) x):=fun x h=>by have h2:=h.look a ((ak T k).tmod P) (Uq _ (by omega) (by omega)) (Uq _ (by omega) (by omega));rw [sK,Qf ⟨C.s,rfl⟩] at h2;exact h2
  have u:=Z (fun W=>sJ (zc L.b k).o (zc L.b k).xa (zc L.b k).xb (zc L.b k).ya (zc L.b k).yb (zc L.b k).ar (zc L.b k).sp (zc L.b k).pl (zc L.b k).nn (ak T k) P W B (by omega) aO aG);rw [C] at u;have bZ:Hid (∀x,Below (w.heap.size+1+1+1) wr x->x.cell? (E (w.heap.size+1) a)=Y (yf t a)):=fun x hx=>by have hb:=((hx.block (w.heap.size+1) (by omega)).t (R.block _ (by omega))).t cS;rw [Qa hb];obtain rfl | rfl | rfl:a=0\/a=1\/a=2:=(by omega);all_goals rfl
  obtain⟨tm,cE⟩:=nm (ak T k);rw [cE] at bO B tm2 aY aZ H V aj af ag aa u;obtain⟨f,bf⟩:=nm (tm.tmod P);rw [bf] at aY aZ H V aj af ag aa u;obtain⟨cc,cg⟩:=nm (Z6 L P T k a f);rw [cg] at H V aj af ag aa;obtain⟨un,cG⟩:=nm (yf t (a:Int));rw [cG] at H bZ;have cO:Hid (wr.heap[w.heap.size+1+1]?=some (.cells #[J P,.slice (some (E tb m)) L.b.length tc] 110 (0,0))):=(R.block _ (by omega)).t cN;have cW:Hid (∃xk,zc L.b k=xk):=⟨_,rfl⟩;generalize zc L.b k=xk at c0 c1 c2 c3 c4 c5 c6 c7 c8 u;clear cW C cE bf cg cG;obtain⟨o,xa,xb,ya,yb,ar,sp,pl,nn⟩:=xk;(try simp only at c0 c1 c2 c3 c4 c5 c6 c7 c8 u);have ab:Hid (∀y:wO,Below wr.heap.size (wr.alloc (nB o xa xb ya yb ar sp pl nn)) y->y.cell? (E (w.heap.size+1+1) 0)=Y P/\y.cell? (E (w.heap.size+1+1) 1)=some (.slice (some (E tb m)) L.b.length tc)/\y.cell? (E tb (m+k))=Y tm):=fun y D=>by have aC:Bw wr y:=(Qd _ _).t D;have hb:=(aC.block (w.heap.size+1+1) (by omega)).t cO;exact⟨cb hb,cb hb,(ze aC _ _ (by omega)).t bO⟩
  have ai:Hid (∀y:wO,Below (wr.heap.size+1) (wr.alloc (nB o xa xb ya yb ar sp pl nn)) y->y.cell? (E wr.heap.size 0)=Y o/\y.cell? (E wr.heap.size 1)=Y xa/\y.cell? (E wr.heap.size 2)=Y xb/\y.cell? (E wr.heap.size 3)=Y ya/\y.cell? (E wr.heap.size 4)=Y yb/\y.cell? (E wr.heap.size 5)=Y ar/\y.cell? (E wr.heap.size 6)=Y sp/\y.cell? (E wr.heap.size 7)=Y pl/\y.cell? (E wr.heap.size 8)=Y nn):=fun y D=>by have hb:y.heap[wr.heap.size]?=some (nB o xa xb ya yb ar sp pl nn):=(D.block _ (by omega)).t (zm _ _ _);refine⟨?_,?_,?_,?_,?_,?_,?_,?_,?_⟩ <;> (rw [Qa hb];rfl)
  have F:Hid ((wr.alloc (nB o xa xb ya yb ar sp pl nn)).heap.size=wr.heap.size+1):=by show _=_;simp
  have G:Hid (∀y:wO,Below (wr.heap.size+1) (wr.alloc (nB o xa xb ya yb ar sp pl nn)) y->(y.c (w.heap.size+1+1) 0=Y P/\y.c (w.heap.size+1+1) 1=some (.slice (some (E tb m)) L.b.length tc)/\y.c tb (m+k)=Y tm)/\(y.c wr.heap.size 0=Y o/\y.c wr.heap.size 1=Y xa/\y.c wr.heap.size 2=Y xb/\y.c wr.heap.size 3=Y ya/\y.c wr.heap.size 4=Y yb/\y.c wr.heap.size 5=Y ar/\y.c wr.heap.size 6=Y sp/\y.c wr.heap.size 7=Y pl/\y.c wr.heap.size 8=Y nn)):=fun y D=>⟨ab y (D.m (by omega)),ai y D⟩;have bh:Hid (Bw wr (wr.alloc (nB o xa xb ya yb ar sp pl nn))):=Qd _ _;clear O M bO ab ai;go_wp2;clear c0 c1 c2 c3 c4 c5 c6 c7 c8;refine rh 10 G (zL _ _) fun n=>?_;refine aq 0 ?_;refine aq 2 ?_;refine aq 4 ?_;refine aq 6 ?_;refine Xp (i:=8) (j:=9) rfl rfl (by kernel_rfl) (fun K g=>?a1) (fun K g=>?a2)
  case' a1 =>
   go_simp;refine (u _).mr fun d v=>?_;have U:Below (wr.heap.size+1) (wr.alloc (nB o xa xb ya yb ar sp pl nn)) d:=(zL _ _).t (v.m (by show _<=(wr.alloc (nB o xa xb ya yb ar sp pl nn)).heap.size;rw [F];exact Qc _));have z:=Z U;have n:=G _ U;have I:wr.heap.size+1<=d.heap.size:=(by have:=U.size;rw [F] at this;exact this);clear v U;refine bq g.o (.inr n) ?_;clear g K;have aK:Hid (Below (wr.heap.size+1) (wr.alloc (nB o xa xb ya yb ar sp pl nn)) (d.alloc (Ib 0 0 318))):=z.alloc I _;have Q:=G _ aK;refine uo 9 fun K g=>?_;go_simp;refine bq g.o (.inr Q) ?_;clear g K;refine uo 10 fun K g=>?_;go_simp;refine bq g.o (.inl rfl) ?_;clear g K;refine rd ?_;clear n Q;have HW:Hid (Below (wr.heap.size+1) (wr.alloc (nB o xa xb ya yb ar sp pl nn)) (d.alloc (Ib a f 318))):=z.alloc I _;have bD:Hid ((d.alloc (Ib a f 318)).heap[d.heap.size]?=some (Ib a f 318)):=zm _ _ _;have S:Hid ((d.alloc (Ib a f 318)).c d.heap.size 0=Y a/\(d.alloc (Ib a f 318)).c d.heap.size 1=Y f/\d.heap.size<(d.alloc (Ib a f 318)).heap.size):=⟨cb bD,cb bD,by simp⟩;clear bD aK z;generalize (d.alloc (Ib a f 318))=W at *
   generalize A:d.heap.size=l at *
   clear A
  case' a2 =>
   go_simp;have bF:Below (wr.heap.size+1) (wr.alloc (nB o xa xb ya yb ar sp pl nn)) ((wr.alloc (nB o xa xb ya yb ar sp pl nn)).drew.alloc (Ib 0 0 318)):=(zL _ _).alloc (by show _<=(wr.alloc (nB o xa xb ya yb ar sp pl nn)).heap.size;rw [F];exact Qc _) _;have gY:=G _ bF;refine bq g.o (.inr gY) ?_;clear g K;refine uo 8 fun K g=>?_;go_simp;refine (u.o _).mr fun d v=>?_;have bW:Hid (((wr.alloc (nB o xa xb ya yb ar sp pl nn)).drew.alloc (Ib 0 0 318)).heap[wr.heap.size+1]?=some (Ib 0 0 318)):=(by show _=_;have e:(wr.alloc (nB o xa xb ya yb ar sp pl nn)).drew.heap.size=wr.heap.size+1:=F.o;rw [<-e];exact zm _ _ _);have hz:wr.heap.size+1+1<=((wr.alloc (nB o xa xb ya yb ar sp pl nn)).drew.alloc (.cells #[J 0,J 0] 318)).heap.size:=(by have e:((wr.alloc (nB o xa xb ya yb ar sp pl nn)).drew.alloc (.cells #[J 0,J 0] 318)).heap.size=(wr.alloc (nB o xa xb ya yb ar sp pl nn)).heap.size+1:=(by simp);rw [e,F.o];exact Qc _);have r:Hid (d.heap[wr.heap.size+1]?=some (.cells #[J 0,J 0] 318 (0,0))):=(v.block _ (Qu (QF _) hz)).t bW.o;have z:Hid (Below (wr.heap.size+1) (wr.alloc (nB o xa xb ya yb ar sp pl nn)) d):=bF.t (v.m (QH (Ep _) hz));have Q:=G.o _ z.o;have I:wr.heap.size+1+1<=d.heap.size:=QH hz v.size;clear v bF n hz;refine bq g.o (.inr Q) ?_;clear g K;have n0:d.cell? (E (wr.heap.size+1) 0)=Y 0:=(cb r.o);have n1:d.cell? (E (wr.heap.size+1) 1)=Y 0:=(cb r.o);have f0:d.frozen? (E (wr.heap.size+1) 0)=false:=(by simp [World.frozen?,r.o]);have f1:d.frozen? (E (wr.heap.size+1) 1)=false:=(by simp [World.frozen?,r.o]);refine uo 10 fun K g=>?_;go_simp;refine bq g.o (.inl rfl) ?_;clear g K;refine rd ?_;clear gY Q n0 n1 f0 f1;have HW:Hid (Below (wr.heap.size+1) (wr.alloc (nB o xa xb ya yb ar sp pl nn)) ((d.setCell (E (wr.heap.size+1) 0) (J a)).setCell (E (wr.heap.size+1) 1) (J f))):=(z.o.setCell (Qc _) _).setCell (Qc _) _;have S:Hid (((d.setCell (E (wr.heap.size+1) 0) (J a)).setCell (E (wr.heap.size+1) 1) (J f)).cell? (E (wr.heap.size+1) 0)=Y a/\((d.setCell (E (wr.heap.size+1) 0) (J a)).setCell (E (wr.heap.size+1) 1) (J f)).cell? (E (wr.heap.size+1) 1)=Y f/\wr.heap.size+1<((d.setCell (E (wr.heap.size+1) 0) (J a)).setCell (E (wr.heap.size+1) 1) (J f)).heap.size):=⟨(Yr r.o).1,(Yr r.o).2,by simp;omega⟩;clear bW r z;generalize ((d.setCell (E (wr.heap.size+1) 0) (J a)).setCell (E (wr.heap.size+1) 1) (J f))=W at *
   clear I;generalize A:wr.heap.size+1=l at S ⊢;have I:wr.heap.size+1<=l:=(by omega);clear A
  all_goals
   obtain⟨u0,u1,uz⟩:=S.o
   have az:Hid (Bw wr W):=bh.o.t (HW.o.m (by omega))
   have bV:Hid (xr (fun c s=>(Z6 L P T k c s:Int)) k (w.heap.size+1+1+1) W.drew):=(HM.o.gE az.o).gE (zL _ _)
   have dH:(w.heap.size+1+1+1)<wr.heap.size:=HM.o.lt
   obtain⟨ve,stp,w1,e1,N,e3,p,f1,f2,f3⟩:=ag.o _ bV.o
   have cu:(a:Int)<3:=by omega
   have cH:IntKind.i64.wrap ((cc:Int)+1)=(cc:Int)+1:=xG _ (by omega) (by omega)
   have X:w1.heap[l]?=W.heap[l]?:=N.block l uz (by intro e;have:=QD e;omega)
   have bJ:p.heap[l]?=W.heap[l]?:=(f2.block l (Qu uz N.size) (by intro e;have:=QD e;omega)).t X
   have bU:Hid (xr (fun c s=>(Z6 L P T (k+1) c s:Int)) (k+1) (w.heap.size+1+1+1) p):=f3.congr V.o
   have bE:Hid (Below (w.heap.size+1+1+1) wr p):=((az.o.m (by omega)).drew.grown N (by have:=az.o.size;show _<=W.heap.size;omega) (fun q hq=>by have:=QD hq;omega)).grown f2 (QH (by have:=az.o.size;omega:(w.heap.size+1+1+1)<=W.heap.size) N.size) (fun q hq=>by have:=QD hq;omega)
   have H6:Hid (W.drew.cell? (E l 0)=Y a/\W.drew.cell? (E l 1)=Y f/\(Instr.lookup 262 (.map (some (w.heap.size+1+1+1))) (.agg #[J a,J f]) false).run prog W.drew=.ok (J cc) W.drew):=⟨u0,u1,af.o _ bV.o⟩
   have bQ:Hid (w1.cell? (E l 0)=Y a/\w1.cell? (E l 1)=Y f/\(Instr.lookup 262 (.map (some (w.heap.size+1+1+1))) (.agg #[J a,J f]) false).run prog w1=.ok (J cc) w1):=⟨(xX X _).t u0,(xX X _).t u1,e3⟩
   have H7:Hid (p.drew.cell? (E l 0)=Y a/\p.drew.cell? (E l 1)=Y f/\p.drew.cell? (E (w.heap.size+1) a)=Y un/\(Instr.lookup 262 (.map (some (w.heap.size+1+1+1))) (.agg #[J a,J f]) false).run prog p.drew=.ok (J ((cc:Int)+1)) p.drew):=⟨(xX bJ _).t u0,(xX bJ _).t u1,bZ.o _ bE.o.drew,aa.o _ (bU.o.gE (zL _ _))⟩
   clear u0 u1 N e3 f2 f3 X bJ S
   go_wp2
   refine rg 6 (fun w'=>w'.cell? (E l 0)=Y a/\w'.cell? (E l 1)=Y f/\(Instr.lookup 262 (.map (some (w.heap.size+1+1+1))) (.agg #[J a,J f]) false).run prog w'=.ok (J cc) w') H6 fun n=>?_
   refine aq 0 ?_
   refine aq 2 ?_
   refine uo 4 fun K g=>?_
   go_simp
   have n:=bQ
   refine bq g.o (.inr n) ?_
   clear g K
   refine uk 5 ?_
   refine uo 6 fun K g=>?_
   go_simp
   refine bq g.o (.inl rfl) ?_
   clear g K
   refine rd ?_
   clear e1 f1 n H6 bQ
   obtain⟨bd,aW⟩:=nm (decide (un<(cc:Int)+1))
   have bj:Hid (Un L t P T k=!bd):=by
    show _=_
    rw [H,<-aW]
    by_cases h:un<(cc:Int)+1
    ·rw [Qi h,Qk (by omega)];rfl
    ·rw [Qk h,Qi (by omega)];rfl
   go_wp2
   refine rg 99 (fun w'=>w'.c l 0=Y a/\w'.c l 1=Y f/\w'.c (w.heap.size+1) a=Y un/\(Instr.lookup 262 (.map (some (w.heap.size+1+1+1))) (.agg #[J a,J f]) false).run prog w'=.ok (J ((cc:Int)+1)) w') H7 fun n=>?_
   refine aq 0 ?_
   refine aq 2 ?_
   refine aq 4 ?_
   refine aq 6 ?_
   refine uk 8 ?_
   refine rd ?_
   clear n H7
   have aD:Hid (Bw w p.drew):=bS.t ((R.t bE.drew).m (by omega))
   cases bd with
   | true =>
     have HF:Hid (zF (Un L t P T) L.b.length=false):=yd ac bj
     go_wp2
     go_ret
     exact⟨zi HF.s,aD⟩
   | false =>
     go_wp2
     go_roundw
     case rel=>exact⟨k+1,by omega,by go_num,yr HA bj,R.t bE.drew,bU.gE (zL _ _)⟩
     case measure=>simp [intOf];omega
 have e:k=L.b.length:=by omega
 subst e;have aP:¬(L.b.length:Int)<(L.b.length:Int):=by omega
 have aD:=Z M;clear M O;go_wp2;go_ret;exact⟨zi HA.s,aD⟩
end
end
end Go.Proofs.YtjlfcbccpcigeacGreatDoor
