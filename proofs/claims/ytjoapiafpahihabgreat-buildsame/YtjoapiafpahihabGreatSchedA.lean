import Derived.Test.YtjoapiafpahihabGreatSounds
import Derived.Test.YtjoapiafpahihabGreatRef8A
import Derived.Test.YtjoapiafpahihabGreatMaths
import Derived.Test.YtjoapiafpahihabGreatRef2L
import Derived.Test.YtjoapiafpahihabGreatBase
import Derived.Deep.RegionHeld3
import Derived.DeepKeys4
namespace Go.Proofs.YtjoapiafpahihabGreat
set_option linter.unusedVariables false
variable {L:Lp} {t:Tg} {P:Int}
def Xb (L:Lp) (t:Tg):List Int:=(List.range L.body.length).map (yC L t)
theorem ZV {s:Nat} (h:s<L.body.length):nth (Xb L t) s=yC L t s:=xR h
theorem UK (L:Lp) (t:Tg) (k:Nat):yC L t (k+1)=yC L t k+zr t (z6 L.body k).o:=rfl
theorem YW (ht:zp t=true):∀n s,s<n->yC L t s+zr t (z6 L.body s).o<=yC L t n:=by
 intro n
 induction n with
 | zero=>intro s h;omega
 | succ n ih =>
   intro s h
   rw [UK]
   have h1:=xp (t:=t) (z6 L.body n).o ht
   by_cases e:s=n
   ·subst e;omega
   ·have:=ih s (by omega);omega
theorem zoj {p:Nat->Bool} {i:Nat}:∀n,(∀j,j<n->p j=true->j=i)->cnt p n<=1/\(n<=i->cnt p n=0):=by
 intro n
 induction n with
 | zero=>intro _;exact⟨Nat.zero_le _,fun _=>rfl⟩
 | succ n ih =>
   intro h
   obtain⟨h1,h2⟩:=ih fun j hj=>h j (by omega)
   have e:cnt p (n+1)=cnt p n+(if p n=true then 1 else 0):=rfl
   by_cases hp:p n=true
   ·have:=h n (by omega) hp
    rw [if_pos hp] at e
    have:=h2 (by omega)
    exact⟨by omega,fun _=>by omega⟩
   ·rw [if_neg hp] at e
    exact⟨by omega,fun _=>by have:=h2 (by omega);omega⟩
theorem ziq (ht:zp t=true) {e:Ed} (he:e∈z8 L t):e.wt<=zr t (z6 L.body e.fr.toNat).o:=by
 obtain⟨fr,to,b,x,h1,h2,rfl,h3⟩:=XI _ he
 have hw:=(xp (t:=t) (z6 L.body fr).o ht).1
 show (x:Int)<=zr t (z6 L.body ((fr:Int)).toNat).o
 rw [Int.toNat_natCast]
 unfold isD at h3
 rw [Bool.or_eq_true] at h3
 rcases h3 with h3 | h3
 ·rw [Bool.and_eq_true] at h3
  have:=of_decide_eq_true h3.2
  omega
 ·rw [Bool.and_eq_true,Bool.and_eq_true] at h3
  have h4:=of_decide_eq_true h3.1.2
  have h5:xm (z6 L.body fr)<=1:=by unfold xm;split <;> omega
  omega
theorem ze4 (ht:zp t=true) (hP:Zm L t<=P):∀s,s<L.body.length->nth (Xb L t) s+zr t (z6 L.body s).o<=P:=by
 intro s hs
 rw [ZV hs]
 exact Int.le_trans (YW ht _ s hs) hP
theorem zbg (hm:zx L=true) (ht:zp t=true):1<=Zm L t/\Zm L t<=96:=by
 obtain⟨-,h1,h16,-⟩:=zj hm
 have h2:=(V0 (L:=L) ht L.body.length).2
 have h3:=YW (L:=L) ht L.body.length 0 (by omega)
 have h4:=(xp (t:=t) (z6 L.body 0).o ht).1
 have h5:yC L t 0=0:=rfl
 unfold Zm
 omega
theorem zaw (hm:zx L=true) (ht:zp t=true) (hP:Zm L t<=P) (hP2:P<=200):zD L t P (Xb L t)=true:=by
 obtain⟨ha1,ha2⟩:=zbg hm ht
 have hlen:(Xb L t).length=L.body.length:=by unfold Xb;simp
 have hov:=ze4 ht hP
 have hin:∀s,s<L.body.length->0<=nth (Xb L t) s/\nth (Xb L t) s<P:=by
  intro s hs
  have h1:=hov s hs
  have h2:=(xp (t:=t) (z6 L.body s).o ht).1
  have h3:=(V0 (L:=L) ht s).1
  rw [ZV hs] at h1 ⊢
  omega
 unfold zD
 rw [hm,ht,zK (show 1<=P/\P<=200 by omega),hlen]
 simp only [decide_true,Bool.true_and,Bool.and_eq_true]
 constructor
 ·refine zN fun s hs=>?_
  unfold Y6
  rw [Bool.and_eq_true]
  obtain⟨t1,t2⟩:=hin s hs
  refine⟨zK ⟨t1,by omega⟩,decide_eq_true ?_⟩
  have hc:Yr L P (Xb L t) s<=1:=by
   unfold Yr
   refine (zoj (i:=s) _ fun j hj hp=>?_).1
   rw [hlen] at hj
   obtain⟨j1,j2⟩:=hin j hj
   unfold XO at hp
   rw [Bool.and_eq_true] at hp
   have h1:=of_decide_eq_true hp.1
   rw [Int.tmod_eq_of_lt j1 j2,Int.tmod_eq_of_lt t1 t2,ZV hj,ZV hs] at h1
   have w1:=(xp (t:=t) (z6 L.body j).o ht).1
   have w2:=(xp (t:=t) (z6 L.body s).o ht).1
   by_cases e1:j<s
   ·have:=YW (L:=L) ht s j e1;omega
   ·by_cases e2:s<j
    ·have:=YW (L:=L) ht j s e2;omega
    ·omega
  have hu:1<=zF t (zC (z6 L.body s).o):=by
   obtain⟨u1,u2,u3,-,-⟩:=yi ht
   have u1:=zT u1
   have u2:=zT u2
   have u3:=zT u3
   unfold zF
   split
   ·omega
   ·split <;> omega
  omega
 ·refine zN fun i hi=>?_
  have he:zu (z8 L t) i∈z8 L t:=by unfold zu;rw [List.getD,List.getElem?_eq_getElem hi];exact List.getElem_mem _
  have hw:=ziq ht he
  obtain⟨fr,to,bk,wt,e,f1,f2,f3,-⟩:=xq hm _ he
  refine decide_eq_true ?_
  rw [e] at hw ⊢
  simp only [Int.toNat_natCast] at hw ⊢
  have h1:=hov fr f1
  have h2:=(hin to f2).1
  by_cases e0:bk=0
  ·have h3:=YW (L:=L) ht to fr (f3 e0)
   rw [ZV f1,ZV f2,e0]
   omega
  ·have h3:1*P<=(bk:Int)*P:=Int.mul_le_mul_of_nonneg_right (by omega) (by omega)
   omega
end Go.Proofs.YtjoapiafpahihabGreat
namespace Go.Proofs.YtjoapiafpahihabGreat
set_option linter.unusedVariables false
def inC (L:Lp) (P:Int) (I:Nat->Bool) (T:Nat->Int) (c r:Int):Nat:=cnt (fun i=>I i && (decide (zC (z6 L.body i).o=c) && decide ((T i).tmod P=r))) L.body.length
def zbw (P:Int) (e:Ed):Int:=e.wt - e.bk*P
def upB (I:Nat->Bool) (a:Nat) (b:Bool):Nat->Bool:=fun j=>if j=a then b else I j
def upI (T:Nat->Int) (a:Nat) (x:Int):Nat->Int:=fun j=>if j=a then x else T j
def zr6 (es:List Ed) (P:Int) (I:Nat->Bool) (T:Nat->Int) (a k:Nat):Prop :=
 ∀j,j<es.length->(j<k\/(zu es j).fr.toNat≠a)->I (zu es j).fr.toNat=true->I (zu es j).to.toNat=true->T (zu es j).fr.toNat+zbw P (zu es j)<=T (zu es j).to.toNat
structure SOk (L:Lp) (t:Tg) (P:Int) (I:Nat->Bool) (T N:Nat->Int) (a k:Nat):Prop where
 times:∀i,i<L.body.length->0<=T i/\T i<=1000
 nexts:∀i,i<L.body.length->0<=N i/\N i<=1001
 units:∀c r,(inC L P I T c r:Int)<=zF t c
 kept:zr6 (z8 L t) P I T a k
theorem Yd {p q:Nat->Bool} {a:Nat}:∀n,(∀i,i<n->i≠a->q i=p i)->cnt q n+(if a<n/\p a=true then 1 else 0)=cnt p n+(if a<n/\q a=true then 1 else 0):=by
 intro n
 induction n with
 | zero=>intro _;simp [cnt]
 | succ n ih =>
   intro h
   have h1:=ih fun i hi=>h i (by omega)
   show cnt q n+(if q n=true then 1 else 0)+_=cnt p n+(if p n=true then 1 else 0)+_
   by_cases e:a=n
   ·subst e
    have e1:¬(a<a/\p a=true):=by omega
    have e2:¬(a<a/\q a=true):=by omega
    rw [if_neg e1,if_neg e2] at h1
    by_cases hp:p a=true <;> by_cases hq:q a=true <;> simp [hp,hq] <;> omega
   ·rw [h n (by omega) (fun h=>e h.symm)]
    have h2:(a<n+1)↔(a<n):=by omega
    simp only [h2]
    omega
theorem zly {L:Lp} {P:Int} {I:Nat->Bool} {T:Nat->Int} {a:Nat} {x:Int} (ha:a<L.body.length) (hI:I a=false) (c r:Int) :
  inC L P (upB I a true) (upI T a x) c r=inC L P I T c r+(if zC (z6 L.body a).o=c/\x.tmod P=r then 1 else 0):=by
 have h:=Yd (p:=fun i=>I i && (decide (zC (z6 L.body i).o=c) && decide ((T i).tmod P=r))) (q:=fun i=>upB I a true i && (decide (zC (z6 L.body i).o=c) && decide ((upI T a x i).tmod P=r))) (a:=a) L.body.length (fun i _ hi=>by simp [upB,upI,hi])
 simp only [ha,hI,upB,upI,if_true,Bool.false_and,Bool.true_and,Bool.and_eq_true,decide_eq_true_eq,true_and,Bool.false_eq_true,if_false] at h
 exact h
theorem zlx {L:Lp} {P:Int} {I:Nat->Bool} {T:Nat->Int} {a:Nat} (ha:a<L.body.length) (hI:I a=true) (c r:Int) :
  inC L P (upB I a false) T c r+(if zC (z6 L.body a).o=c/\(T a).tmod P=r then 1 else 0)=inC L P I T c r:=by
 have h:=Yd (p:=fun i=>I i && (decide (zC (z6 L.body i).o=c) && decide ((T i).tmod P=r))) (q:=fun i=>upB I a false i && (decide (zC (z6 L.body i).o=c) && decide ((T i).tmod P=r))) (a:=a) L.body.length (fun i _ hi=>by simp [upB,hi])
 simp only [ha,hI,upB,if_true,Bool.false_and,Bool.true_and,Bool.and_eq_true,decide_eq_true_eq,true_and,Bool.false_eq_true,if_false,Nat.add_zero,and_false] at h
 exact h
theorem XC {I:Nat->Bool} {a n:Nat} (ha:a<n) (hI:I a=false):cnt (upB I a true) n=cnt I n+1:=by
 have h:=Yd (p:=I) (q:=upB I a true) (a:=a) n (fun i _ hi=>by simp [upB,hi])
 simpa [ha,hI,upB] using h
theorem zlc {I:Nat->Bool} {a n:Nat} (ha:a<n) (hI:I a=true):cnt (upB I a false) n+1=cnt I n:=by
 have h:=Yd (p:=I) (q:=upB I a false) (a:=a) n (fun i _ hi=>by simp [upB,hi])
 simpa [ha,hI,upB] using h
theorem zqz {N:Nat->Int} {a:Nat} {x:Int}:∀n,yH (upI N a x) n=yH N n+(if a<n then x - N a else 0):=by
 intro n
 induction n with
 | zero=>simp [yH]
 | succ n ih =>
   show yH (upI N a x) n+upI N a x n=yH N n+N n+_
   rw [ih]
   by_cases e:n=a
   ·subst e;simp [upI];omega
   ·have h2:(a<n+1)↔(a<n):=by omega
    simp only [h2]
    have:upI N a x n=N n:=by simp [upI,e]
    rw [this];omega
theorem zb1 {N:Nat->Int} {lo hi:Int}:∀n,(∀i,i<n->lo<=N i/\N i<=hi)->(n:Int)*lo<=yH N n/\yH N n<=(n:Int)*hi:=by
 intro n
 induction n with
 | zero=>intro _;simp [yH]
 | succ n ih =>
   intro h
   have h1:=ih fun i hi=>h i (by omega)
   have h2:=h n (by omega)
   show _<=yH N n+N n/\yH N n+N n<=_
   rw [Int.natCast_add,Int.add_mul,Int.add_mul]
   simp only [Int.natCast_one,Int.one_mul]
   omega
variable {L:Lp} {t:Tg} {P:Int} {I:Nat->Bool} {T N:Nat->Int}
theorem SOk.start (ht:zp t=true) (a k:Nat):SOk L t P (fun _=>false) (fun _=>0) (fun _=>0) a k where
 times:=fun _ _=>⟨by decide,by decide⟩
 nexts:=fun _ _=>⟨by decide,by decide⟩
 units:=fun c r=>by
  have h1:inC L P (fun _=>false) (fun _=>0) c r=0:=by
   rcases xQ (fun i=>(fun _:Nat=>false) i && (decide (zC (z6 L.body i).o=c) && decide (((fun _:Nat=>(0:Int)) i).tmod P=r))) L.body.length with h | ⟨i,_,h⟩
   ·exact h
   ·simp at h
  have:=zen (c:=c) ht
  omega
 kept:=fun j _ _ h=>by simp at h
theorem SOk.put {a0 k0 a:Nat} {x:Int} (h:SOk L t P I T N a0 (z8 L t).length) (ha:a<L.body.length) (hI:I a=false) (h0:N a<=x) (h1:x<=1000)
  (hfull:(inC L P I T (zC (z6 L.body a).o) (x.tmod P):Int)≠zF t (zC (z6 L.body a).o))
  (hready:∀j,j<(z8 L t).length->(zu (z8 L t) j).to.toNat=a->I (zu (z8 L t) j).fr.toNat=true->T (zu (z8 L t) j).fr.toNat+zbw P (zu (z8 L t) j)<=x) :
  SOk L t P (upB I a true) (upI T a x) (upI N a (x+1)) a 0 where
 times:=fun i hi=>by
  have h2:=h.nexts a ha
  have h3:=h.times i hi
  unfold upI
  split <;> omega
 nexts:=fun i hi=>by
  have h2:=h.nexts a ha
  have h3:=h.nexts i hi
  unfold upI
  split <;> omega
 units:=fun c r=>by
  rw [zly ha hI]
  have h2:=h.units c r
  by_cases e:zC (z6 L.body a).o=c/\x.tmod P=r
  ·rw [if_pos e]
   rw [<-e.1,<-e.2] at h2 ⊢
   omega
  ·rw [if_neg e];omega
 kept:=fun j hj hor h2 h3=>by
  have hf:(zu (z8 L t) j).fr.toNat≠a:=by rcases hor with h | h;exact absurd h (Nat.not_lt_zero _);exact h
  unfold upB at h2 h3
  rw [if_neg hf] at h2
  have e1:upI T a x (zu (z8 L t) j).fr.toNat=T (zu (z8 L t) j).fr.toNat:=by unfold upI;rw [if_neg hf]
  rw [e1]
  by_cases e:(zu (z8 L t) j).to.toNat=a
  ·have:=hready j hj e h2
   unfold upI;rw [if_pos e];exact this
  ·rw [if_neg e] at h3
   unfold upI;rw [if_neg e]
   exact h.kept j hj (.inl hj) h2 h3
theorem SOk.out {a k b:Nat} (h:SOk L t P I T N a k) (hb:b<L.body.length) (hI:I b=true) (hk:k<(z8 L t).length) (he:(zu (z8 L t) k).to.toNat=b):SOk L t P (upB I b false) T N a (k+1) where
 times:=h.times
 nexts:=h.nexts
 units:=fun c r=>by
  have h1:=zlx (P:=P) (T:=T) hb hI c r
  have h2:=h.units c r
  omega
 kept:=fun j hj hor h2 h3=>by
  have hg:∀i,upB I b false i=true->i≠b/\I i=true:=fun i hi=>by
   unfold upB at hi
   by_cases e:i=b
   ·rw [if_pos e] at hi;cases hi
   ·rw [if_neg e] at hi;exact⟨e,hi⟩
  obtain⟨n2,h2⟩:=hg _ h2
  obtain⟨n3,h3⟩:=hg _ h3
  refine h.kept j hj ?_ h2 h3
  rcases hor with hor | hor
  ·by_cases e:j=k
   ·subst e;exact absurd he n3
   ·exact .inl (by omega)
  ·exact .inr hor
theorem SOk.next {a k:Nat} (h:SOk L t P I T N a k) (hk:k<(z8 L t).length) (hn:(zu (z8 L t) k).fr.toNat=a->I (zu (z8 L t) k).to.toNat=true->T a+zbw P (zu (z8 L t) k)<=T (zu (z8 L t) k).to.toNat):SOk L t P I T N a (k+1) where
 times:=h.times
 nexts:=h.nexts
 units:=h.units
 kept:=fun j hj hor h2 h3=>by
  by_cases e:(zu (z8 L t) j).fr.toNat=a
  ·rcases hor with hor | hor
   ·by_cases e2:j=k
    ·subst e2
     rw [e];exact hn e h3
    ·exact h.kept j hj (.inl (by omega)) h2 h3
   ·exact absurd e hor
  ·exact h.kept j hj (.inr e) h2 h3
theorem SOk.any {a k b:Nat} (h:SOk L t P I T N a k) (hk:(z8 L t).length<=k):SOk L t P I T N b (z8 L t).length where
 times:=h.times
 nexts:=h.nexts
 units:=h.units
 kept:=fun j hj _ h2 h3=>h.kept j hj (.inl (by omega)) h2 h3
theorem SOk.legal {a:Nat} (h:SOk L t P I T N a (z8 L t).length) (hm:zx L=true) (ht:zp t=true) (h1:1<=P) (h2:P<=200) (hall:∀i,i<L.body.length->I i=true):zD L t P ((List.range L.body.length).map T)=true:=by
 have hlen:((List.range L.body.length).map T).length=L.body.length:=by simp
 have hn:∀i,i<L.body.length->nth ((List.range L.body.length).map T) i=T i:=fun i hi=>xR hi
 unfold zD
 rw [hm,ht,zK (show 1<=P/\P<=200 from ⟨h1,h2⟩),hlen]
 simp only [decide_true,Bool.true_and,Bool.and_eq_true]
 constructor
 ·refine zN fun s hs=>?_
  unfold Y6
  rw [Bool.and_eq_true,hn s hs]
  refine⟨zK (h.times s hs),decide_eq_true ?_⟩
  have e:Yr L P ((List.range L.body.length).map T) s=inC L P I T (zC (z6 L.body s).o) ((T s).tmod P):=by
   unfold Yr inC
   rw [hlen]
   refine zif fun i hi=>?_
   unfold XO
   rw [hn i hi,hn s hs,hall i hi,Bool.true_and,Bool.and_comm]
  rw [e]
  exact h.units _ _
 ·refine zN fun i hi=>?_
  have he:zu (z8 L t) i∈z8 L t:=by unfold zu;rw [List.getD,List.getElem?_eq_getElem hi];exact List.getElem_mem _
  obtain⟨fr,to,bk,wt,e,f1,f2,f3,-⟩:=xq hm _ he
  have h5:=h.kept i hi (.inl hi)
  refine decide_eq_true ?_
  rw [e] at h5 ⊢
  simp only [Int.toNat_natCast] at h5 ⊢
  rw [hn fr f1,hn to f2]
  have h6:=h5 (hall fr f1) (hall to f2)
  unfold zbw at h6
  simp only at h6
  omega
end Go.Proofs.YtjoapiafpahihabGreat
namespace Go.Proofs.YtjoapiafpahihabGreat
open Go.RowKit Go.Joins
set_option linter.unusedVariables false
set_option linter.unusedSimpArgs false
set_option maxRecDepth 8192
theorem zv (n:Nat) (w:World):Below n w w.drew:=below_draws _ _ 1
theorem YQ (n lo hi:Int) (w:World) :
  Calls Tryz.prog 132 #[iV n,iV lo,iV hi] w fun e w'=>e=.returned (.bool (inR n lo hi))/\w'=w:=by
 by_cases h:lo<=n/\n<=hi
 ·rw [zK h]
  obtain⟨h1,h2⟩:=h
  go_enter Tryz.func132,Tryz.ntmps132
  go_wp2
  go_ret
  exact⟨rfl,rfl⟩
 ·rw [Z3 h]
  by_cases h1:lo<=n
  ·have h2:¬n<=hi:=fun h2=>h ⟨h1,h2⟩
   clear h
   go_enter Tryz.func132,Tryz.ntmps132
   go_wp2
   go_ret
   exact⟨rfl,rfl⟩
  ·clear h
   go_enter Tryz.func132,Tryz.ntmps132
   go_wp2
   go_ret
   exact⟨rfl,rfl⟩
theorem VR (fr to bk wt:Nat) (p:Int) (w:World) (h1:bk<=32) (h2:wt<=6) (h3:1<=p) (h4:p<=200) :
  Calls Tryz.prog 133 #[.agg #[iV fr,iV to,iV bk,iV wt],iV p] w fun e w'=>e=.returned (iV ((wt:Int) - (bk:Int)*p))/\Below w.heap.size w w':=by
 have hpb1:0<=(bk:Int)*p:=Int.mul_nonneg (by omega) (by omega)
 have hpb2:(bk:Int)*p<=32*200:=Int.mul_le_mul (by omega) h4 (by omega) (by omega)
 go_enter Tryz.func133,Tryz.ntmps133
 go_wp2_with fail
 go_ret
 exact⟨rfl,below_alloc1 _ _⟩
set_option maxHeartbeats 2000000 in
theorem Xv (o xa xb ya yb ar sp pl nn tm p:Int) (w:World) (h0:0<=tm) (h1:tm<=5000) (h3:1<=p) (h4:p<=200) :
  Calls Tryz.prog 134 #[.agg #[iV o,iV xa,iV xb,iV ya,iV yb,iV ar,iV sp,iV pl,iV nn],iV tm,iV p] w fun e w'=>e=.returned (.agg #[iV (zC o),iV (tm.tmod p)])/\Below w.heap.size w w':=by
 have HCL:=z5 (fun W=>V6 o W)
 have hp0:¬p=0:=by omega
 have hm1:=Int.tmod_nonneg p h0
 have hm2:=Int.tmod_lt_of_pos tm (show 0<p by omega)
 obtain⟨rm,hrm⟩:∃rm,tm.tmod p=rm:=⟨_,rfl⟩
 rw [hrm] at hm1 hm2 ⊢
 have hwr:wrap64 rm=rm:=by unfold wrap64;omega
 obtain⟨cn,hcn⟩:∃cn,zC o=cn:=⟨_,rfl⟩
 rw [hcn] at HCL ⊢
 clear hcn
 go_enter Tryz.func134,Tryz.ntmps134
 go_wp2_with fail
 refine wp_region_noPanic ?_
 refine ze 7 (fun w'=>w'.cell? ⟨w.heap.size,0,none⟩=some (iV o)) (by kernel_rfl) (by go_simp) (fun hHeld=>?_)
 refine utk (i:=0) rfl hHeld ?_
 refine utk (i:=1) rfl hHeld ?_
 refine utk (i:=3) rfl hHeld ?_
 refine utk (i:=4) rfl hHeld ?_
 refine utk (i:=5) rfl hHeld ?_
 refine z9 (i:=2) rfl (by kernel_rfl) (fun K hK=>?_)
 go_simp
 refine (HCL.out _).mono ?_
 rintro e w' ⟨rfl,hw'⟩
 have hw':=hw'.symm;subst hw'
 refine nxt hK.out (.inr hHeld) ?_
 clear hK K
 refine utk (i:=6) rfl hHeld ?_
 refine z9 (i:=7) rfl (by kernel_rfl) (fun K hK=>?_)
 go_simp
 refine nxt hK.out (.inl rfl) ?_
 clear hK K
 refine zf (by kernel_rfl) ?_ _
 refine NoPanic.normal ?_
 go_wp2_with fail
 exact bodyPost_ret (v:=.agg #[iV cn,iV rm]) (by simp [results,Tryz.results134,go_sem]) rfl ⟨rfl,(below_alloc2 _ _ _).drew⟩
set_option maxHeartbeats 1000000 in
theorem Ur (P:Int) (T:List Int) (ta:Option Addr) (tc:Nat) (w:World) (h:yf w (.slice ta T.length tc) T) :
  Calls Tryz.prog 87 #[.agg #[iV P,.slice ta T.length tc]] w fun e w'=>e=.returned (.bool (zh (fun i=>inR (nth T i) 0 1000) T.length && inR P 1 200))/\Below w.heap.size w w':=by
 obtain⟨a,cap,he,hl,hm,hr,hc⟩:=h
 injection he with e1 e2 e3
 subst e1;subst e3
 unfold maxLen at hm
 clear e2
 have HC:=z5 hc
 clear hc hr
 go_enter Tryz.func87,Tryz.ntmps87
 go_wp2_with fail
 go_loopw [8] (fun i wr=>∃k:Nat,k<=T.length/\i=iV k/\zh (fun i=>inR (nth T i) 0 1000) k=true/\wr=w.alloc (.cells #[iV P,.slice ta T.length tc] 49)) (fun i _=>T.length - (intOf i).toNat)
 case atStart=>exact⟨0,Nat.zero_le _,rfl,rfl,rfl⟩
 case round =>
  obtain⟨k,hk,rfl,hall,rfl⟩:=hrel
  have HA:=z5 hall
  clear hall
  by_cases hlt:k<T.length
  ·obtain⟨b,off,rfl,hb,hcell⟩:=HC.out (by omega)
   have hck:=hcell k hlt
   have hki:(k:Int)<(T.length:Int):=by omega
   clear hcell HC
   obtain⟨x,hx⟩:∃x,nth T k=x:=⟨_,rfl⟩
   rw [hx] at hck
   have HX:=z5 hx
   clear hx
   obtain⟨rb,hrb⟩:∃rb,inR x 0 1000=rb:=⟨_,rfl⟩
   have HW:Hid (∀W,Calls Tryz.prog 132 #[iV x,iV 0,iV 1000] W fun e w'=>e=.returned (.bool rb)/\w'=W):=fun W=>hrb ▸ YQ x 0 1000 W
   have HRB:=z5 hrb
   clear hrb
   cases rb with
   | true =>
     go_wp2_with (go_at_call 132;refine (HW.out _).mono ?_;rintro e w' ⟨rfl,hw'⟩;have hw':=hw'.symm;subst hw')
     go_roundw
     case rel=>exact⟨k+1,by omega,by go_num,yw HA.out (by rw [HX.out];exact HRB.out),by first | trivial | rfl⟩
     case measure=>simp [intOf];omega
   | false =>
     have HF:Hid (zh (fun i=>inR (nth T i) 0 1000) T.length=false):=zw hlt (by rw [HX.out];exact HRB.out)
     go_wp2_with (go_at_call 132;refine (HW.out _).mono ?_;rintro e w' ⟨rfl,hw'⟩;have hw':=hw'.symm;subst hw')
     go_ret
     exact⟨z7 (by rw [HF.out];rfl),below_alloc1 _ _⟩
  ·have e:k=T.length:=by omega
   subst e
   have hki:¬(T.length:Int)<(T.length:Int):=by omega
   have HW:=z5 (fun W=>YQ P 1 200 W)
   obtain⟨rb,hrb⟩:∃rb,inR P 1 200=rb:=⟨_,rfl⟩
   rw [hrb] at HW
   have HRB:=z5 hrb
   clear hrb
   go_wp2_with (go_at_call 132;refine (HW.out _).mono ?_;rintro e w' ⟨rfl,hw'⟩;have hw':=hw'.symm;subst hw')
   go_ret
   exact⟨z7 (by rw [HA.out,HRB.out];rfl),below_alloc1 _ _⟩
set_option maxHeartbeats 4000000 in
theorem US (n:Nat) (P:Int) (T:List Int) (tb tz tc:Nat) (la:Option Addr) (lc:Nat) (l:List Ed) (w:World) (hE:yP w (.slice la l.length lc) l) (hl:∀e∈l,VJ n e) (hn:n<=16) (hP1:1<=P) (hP2:P<=200) (hTn:T.length=n) (htc:n<=tc) (hcm:tc<=9223372036854775807) (htb:tb<w.heap.size)
  (hcell:∀i,i<n->w.cell? ⟨tb,tz+i,none⟩=some (iV (nth T i))) (hT:∀i,i<n->0<=nth T i/\nth T i<=1000) :
  Calls Tryz.prog 88 #[.slice la l.length lc,.agg #[iV P,.slice (some ⟨tb,tz,none⟩) n tc]] w fun e w'=>e=.returned (.bool (zh (fun i=>Yz P T (zu l i)) l.length))/\Below w.heap.size w w':=by
 obtain⟨la',lc',he1,he2,he3,hec⟩:=hE
 injection he1 with e1 e2 e3
 subst e1;subst e3
 unfold maxLen at he3
 have HEC:=z5 hec
 have HL:=z5 hl
 have HT:=z5 hT
 have HTC:=z5 hcell
 clear hec hl e2 hT hcell hTn
 have HB0:=z5 (below_alloc1 w (.cells #[iV P,.slice (some ⟨tb,tz,none⟩) n tc] 49))
 go_enter Tryz.func88,Tryz.ntmps88
 go_wp2_with fail
 go_loopw [9] (fun i wr=>∃k:Nat,k<=l.length/\i=iV k/\zh (fun i=>Yz P T (zu l i)) k=true/\Below (w.heap.size+1) (w.alloc (.cells #[iV P,.slice (some ⟨tb,tz,none⟩) n tc] 49)) wr) (fun i _=>l.length - (intOf i).toNat)
 case atStart=>exact⟨0,Nat.zero_le _,rfl,rfl,Below.refl _ _⟩
 case round =>
  obtain⟨k,hk,rfl,hall,hbel⟩:=hrel
  have HA:=z5 hall
  have HB:=z5 hbel
  have hbw:Below w.heap.size w wr:=HB0.out.trans (hbel.mono (by omega))
  have hsz:w.heap.size+1<=wr.heap.size:=by have:=hbel.size;simp at this;omega
  have hpb:wr.heap[w.heap.size]?=some (.cells #[iV P,.slice (some ⟨tb,tz,none⟩) n tc] 49 (0,0)):=by
   rw [hbel.block _ (by omega)]
   show (w.heap.push _)[w.heap.size]?=_
   simp
  clear hall
  by_cases hkl:k<l.length
  ·have hki:(k:Int)<(l.length:Int):=by omega
   obtain⟨eb,eo,rfl,hebz,hecell⟩:=HEC.out (by omega)
   obtain⟨c0,c1,c2,c3⟩:=zac (hecell k hkl)
   rw [<-zc hbw _ _ hebz] at c0 c1 c2 c3
   have hebz2:eb<wr.heap.size:=by have:=hbw.size;omega
   obtain⟨fr,to,bk,wt,hed,hfr,hto,hbk,hwt⟩:=HL.out _ (Zf hkl)
   have HEL:Hid (Yz P T (zu l k)=decide (nth T fr+(wt:Int)<=nth T to+(bk:Int)*P)):=by show _=_;rw [hed];rfl
   rw [hed] at c0 c1 c2 c3
   simp only at c0 c1 c2 c3
   have hxf:=HT.out fr hfr
   have hxt:=HT.out to hto
   have htf:=(zc hbw tb (tz+fr) htb).trans (HTC.out fr hfr)
   have htt:=(zc hbw tb (tz+to) htb).trans (HTC.out to hto)
   obtain⟨xf,hxfe⟩:∃x,nth T fr=x:=⟨_,rfl⟩
   obtain⟨xt,hxte⟩:∃x,nth T to=x:=⟨_,rfl⟩
   rw [hxfe] at hxf htf HEL
   rw [hxte] at hxt htt HEL
   have hpb1:0<=(bk:Int)*P:=Int.mul_nonneg (by omega) (by omega)
   have hpb2:(bk:Int)*P<=32*200:=Int.mul_le_mul (by omega) hP2 (by omega) (by omega)
   have HGAP:=z5 (fun W=>VR fr to bk wt P W hbk hwt hP1 hP2)
   obtain⟨g,hg⟩:∃g,(wt:Int) - (bk:Int)*P=g:=⟨_,rfl⟩
   rw [hg] at HGAP
   have hgb:-10000<=g/\g<=6:=by omega
   have HED:Hid (Yz P T (zu l k)=!decide (xt<xf+g)):=by
    show _=_
    rw [HEL.out]
    by_cases h:xt<xf+g
    ·rw [decide_eq_true h,decide_eq_false (by omega)];rfl
    ·rw [decide_eq_false h,decide_eq_true (by omega)];rfl
   have hwr:IntKind.i64.wrap (xf+g)=xf+g:=yz _ (by omega) (by omega)
   have hfi:(fr:Int)<(n:Int):=by omega
   have hti:(to:Int)<(n:Int):=by omega
   have HHELD:Hid (∀y:World,Below wr.heap.size (wr.alloc (.cells #[iV fr,iV to,iV bk,iV wt] 100)) y->y.cell? ⟨w.heap.size,0,none⟩=some (iV P)/\y.cell? ⟨w.heap.size,1,none⟩=some (.slice (some ⟨tb,tz,none⟩) n tc)/\y.cell? ⟨tb,tz+fr,none⟩=some (iV xf)/\y.cell? ⟨tb,tz+to,none⟩=some (iV xt)):=fun y hy=>by
    have hy2:Below wr.heap.size wr y:=(below_alloc1 _ _).trans hy
    have hb:=(hy2.block w.heap.size (by omega)).trans hpb
    exact⟨by rw [cell_of_block hb];rfl,by rw [cell_of_block hb];rfl,(zc hy2 _ _ (by omega)).trans htf,(zc hy2 _ _ (by omega)).trans htt⟩
   have HBOX:Hid (∀y:World,Below (wr.heap.size+1) (wr.alloc (.cells #[iV fr,iV to,iV bk,iV wt] 100)) y->y.cell? ⟨wr.heap.size,0,none⟩=some (iV fr)/\y.cell? ⟨wr.heap.size,1,none⟩=some (iV to)/\y.cell? ⟨wr.heap.size,2,none⟩=some (iV bk)/\y.cell? ⟨wr.heap.size,3,none⟩=some (iV wt)):=fun y hy=>by
    have hb:y.heap[wr.heap.size]?=some (.cells #[iV fr,iV to,iV bk,iV wt] 100 (0,0)):=by
     rw [hy.block _ (by omega)]
     show (wr.heap.push _)[wr.heap.size]?=_
     simp
    exact⟨by rw [cell_of_block hb];rfl,by rw [cell_of_block hb];rfl,by rw [cell_of_block hb];rfl,by rw [cell_of_block hb];rfl⟩
   have HS:Hid ((wr.alloc (.cells #[iV fr,iV to,iV bk,iV wt] 100)).heap.size=wr.heap.size+1):=by show _=_;simp
   clear hecell hed hbel hpb HEL htf htt hxfe hxte hg
   obtain⟨bd,hbd⟩:∃bd,decide (xt<xf+g)=bd:=⟨_,rfl⟩
   have HBD:=z5 hbd
   rw [hbd] at HED
   go_wp2_with fail
   refine wp_region_noPanic ?_
   refine ze 99 (fun w'=>(w'.cell? ⟨w.heap.size,0,none⟩=some (iV P)/\w'.cell? ⟨w.heap.size,1,none⟩=some (.slice (some ⟨tb,tz,none⟩) n tc)/\w'.cell? ⟨tb,tz+fr,none⟩=some (iV xf)/\w'.cell? ⟨tb,tz+to,none⟩=some (iV xt))/\(w'.cell? ⟨wr.heap.size,0,none⟩=some (iV fr)/\w'.cell? ⟨wr.heap.size,1,none⟩=some (iV to)/\w'.cell? ⟨wr.heap.size,2,none⟩=some (iV bk)/\w'.cell? ⟨wr.heap.size,3,none⟩=some (iV wt))) (by kernel_rfl) ⟨HHELD.out _ (zv _ _),HBOX.out _ (zv _ _)⟩ (fun hHeld=>?_)
   refine utk (i:=0) rfl hHeld ?_
   refine utk (i:=1) rfl hHeld ?_
   refine utk (i:=2) rfl hHeld ?_
   refine utk (i:=3) rfl hHeld ?_
   refine utk (i:=4) rfl hHeld ?_
   refine utk (i:=5) rfl hHeld ?_
   refine utk (i:=6) rfl hHeld ?_
   refine utk (i:=7) rfl hHeld ?_
   refine utk (i:=8) rfl hHeld ?_
   refine utk (i:=9) rfl hHeld ?_
   refine utk (i:=10) rfl hHeld ?_
   refine utk (i:=11) rfl hHeld ?_
   refine utk (i:=12) rfl hHeld ?_
   refine utk (i:=13) rfl hHeld ?_
   refine utk (i:=14) rfl hHeld ?_
   refine z9 (i:=15) rfl (by kernel_rfl) (fun K hK=>?_)
   go_simp
   refine (HGAP.out _).mono ?_
   rintro e x1 ⟨rfl,hb1⟩
   have hB1:Below (wr.heap.size+1) (wr.alloc (.cells #[iV fr,iV to,iV bk,iV wt] 100)) x1:=(zv _ _).trans (hb1.mono (by show _<=(wr.alloc _).heap.size;rw [HS.out];exact Nat.le_refl _))
   have HB1:=z5 hB1
   have hHeld:=(show (x1.cell? ⟨w.heap.size,0,none⟩=some (iV P)/\x1.cell? ⟨w.heap.size,1,none⟩=some (.slice (some ⟨tb,tz,none⟩) n tc)/\x1.cell? ⟨tb,tz+fr,none⟩=some (iV xf)/\x1.cell? ⟨tb,tz+to,none⟩=some (iV xt))/\(x1.cell? ⟨wr.heap.size,0,none⟩=some (iV fr)/\x1.cell? ⟨wr.heap.size,1,none⟩=some (iV to)/\x1.cell? ⟨wr.heap.size,2,none⟩=some (iV bk)/\x1.cell? ⟨wr.heap.size,3,none⟩=some (iV wt)) from ⟨HHELD.out _ (hB1.mono (by omega)),HBOX.out _ hB1⟩)
   clear hb1 hB1
   refine nxt hK.out (.inr hHeld) ?_
   clear hK K
   refine utk (i:=16) rfl hHeld ?_
   refine utk (i:=17) rfl hHeld ?_
   refine zf (by kernel_rfl) ?_ _
   refine NoPanic.normal ?_
   have HBX:Hid (Below (w.heap.size+1) (w.alloc (.cells #[iV P,.slice (some ⟨tb,tz,none⟩) n tc] 49)) x1):=HB.out.trans (((below_alloc1 _ _).mono hsz).trans (HB1.out.mono (by omega)))
   have HBW:Hid (Below w.heap.size w x1):=HB0.out.trans (HBX.out.mono (by omega))
   clear hHeld
   cases bd with
   | true =>
     have HF:Hid (zh (fun i=>Yz P T (zu l i)) l.length=false):=zw hkl HED.out
     go_wp2_with fail
     go_ret
     exact⟨z7 HF.out.symm,HBW.out⟩
   | false =>
     go_wp2_with fail
     go_roundw
     case rel=>exact⟨k+1,by omega,by go_num,yw HA.out HED.out,HBX.out⟩
     case measure=>simp [intOf];omega
  ·have e:k=l.length:=by omega
   subst e
   have hki:¬(l.length:Int)<(l.length:Int):=by omega
   have HBW:=z5 hbw
   clear hbw hbel hpb
   go_wp2_with fail
   go_ret
   exact⟨z7 HA.out.symm,HBW.out⟩
end Go.Proofs.YtjoapiafpahihabGreat
namespace Go.Proofs.YtjoapiafpahihabGreat
open Go.RowKit Go.Joins
open Go.WideMaps (KeyLaw)
set_option linter.unusedVariables false
set_option linter.unusedSimpArgs false
set_option maxRecDepth 8192
theorem zm0:laidOutB Tryz.prog=true:=by kernel_rfl
theorem zef:(195:TypeId)<Tryz.prog.types.size:=of_decide_eq_true (by kernel_rfl)
theorem zkh:(match Tryz.prog.underlying 195 with | some (.array _ _) | some (.struct _)=>true | _=>false)=true:=by kernel_rfl
theorem XY:KeyLaw Tryz.prog 195:=deep_law_laid zm0 (m:=2) (by omega) zef (by kernel_rfl) zkh
theorem zb2 (u:World):(zeroValue 3).run Tryz.prog u=.ok (iV 0) u:=by kernel_rfl
theorem zee (a b:Int) (ha:(Lit.int .i64 a).wf=true) (hb:(Lit.int .i64 b).wf=true):∃kl,keyOf Tryz.prog 195 (.agg #[.int .i64 a,.int .i64 b])=some kl:=by
 have h1:Tryz.prog.keyType 195=true:=by kernel_rfl
 have h2:Tryz.prog.cellsOf 195=2:=by kernel_rfl
 have h3:Tryz.prog.cellsOf 3=1:=by kernel_rfl
 obtain⟨dd,h4⟩:∃dd,Tryz.prog.types.size=dd+1:=⟨_,(Nat.succ_pred_eq_of_pos (Nat.lt_of_le_of_lt (Nat.zero_le _) zef)).symm⟩
 have h5:(Value.agg #[.int .i64 a,.int .i64 b]).formed Tryz.prog 195=true:=by simp [Value.formed,Tryz.underlying195,h2]
 have h6:∀d (x:Int),(Lit.int .i64 x).wf=true->Tryz.prog.keyLits (d+1) 3 [.int .i64 x]=some [.int .i64 x]:=fun d x hx=>by
  unfold Program.keyLits
  rw [Tryz.underlying3]
  simp [hx]
 have h7:Tryz.prog.keyLits (dd+1+1) 195 [.int .i64 a,.int .i64 b]=some [.int .i64 a,.int .i64 b]:=by
  unfold Program.keyLits
  rw [Tryz.underlying195]
  simp [h2,h3,h6 dd a ha,h6 dd b hb,List.range,List.range.loop]
 unfold keyOf
 rw [Tryz.underlying195]
 simp only [h1,h5,Bool.and_self,if_true]
 rw [h4]
 have h8:(Value.agg #[.int .i64 a,.int .i64 b]).cells.toList=[.int .i64 a,.int .i64 b]:=rfl
 rw [h8,h7]
 exact⟨_,rfl⟩
def yE (f:Int->Int->Int) (n b:Nat) (x:World):Prop :=
 ∃D:DataW Unit,x.ownsMap Tryz.prog 195 (plainElem Tryz.prog 3) b n D/\Maps.IsMap D/\∀c r kl,keyOf Tryz.prog 195 (.agg #[.int .i64 c,.int .i64 r])=some kl->D.atKey kl (.lit (.int .i64 0))=.lit (.int .i64 (f c r))
theorem yE.below {f:Int->Int->Int} {n b:Nat} {x y:World} (h:yE f n b x) (hb:Below x.heap.size x y):yE f n b y:=by
 obtain⟨D,h1,h2,h3⟩:=h
 refine⟨D,h1.kept (row:=none) ⟨hb.os,hb.tape,hb.output,hb.size,fun i hi _=>hb.block i hi⟩ (by simp),h2,h3⟩
theorem yE.lt {f:Int->Int->Int} {n b:Nat} {x:World} (h:yE f n b x):b<x.heap.size:=by obtain⟨D,h1,_⟩:=h;exact h1.lt
theorem yE.of_block {f:Int->Int->Int} {n b:Nat} {x y:World} (h:yE f n b x) (hb:y.heap[b]?=x.heap[b]?):yE f n b y:=by
 obtain⟨D,⟨es,clock,h1,h4⟩,h2,h3⟩:=h
 exact⟨D,⟨es,clock,hb.trans h1,h4⟩,h2,h3⟩
theorem yE.congr {f g:Int->Int->Int} {n b:Nat} {x:World} (h:yE f n b x) (e:∀c r,f c r=g c r):yE g n b x:=by
 have:f=g:=by funext c r;exact e c r
 rw [<-this];exact h
theorem yE.made (w:World):yE (fun _ _=>0) 0 w.heap.size (w.alloc (.map #[] 0)) :=
 ⟨_,World.ownsMap_made (H:=Unit) w Tryz.prog 195 (plainElem Tryz.prog 3),Maps.isMap_empty,fun s c kl _=>rfl⟩
theorem yE.look {f:Int->Int->Int} {n b:Nat} {x:World} (h:yE f n b x) (c r:Int) (hs:(Lit.int .i64 c).wf=true) (hc:(Lit.int .i64 r).wf=true):(Instr.lookup 194 (.map (some b)) (.agg #[.int .i64 c,.int .i64 r]) false).run Tryz.prog x=.ok (.int .i64 (f c r)) x:=by
 obtain⟨D,h1,h2,h3⟩:=h
 obtain⟨kl,hkl⟩:=zee c r hs hc
 obtain⟨q,hr,hat,_⟩:=h1.lookup_int (Maps.Keyed.of_law XY) Tryz.underlying194 Tryz.underlying3 (zb2 _) hkl
 rw [h3 c r kl hkl] at hat
 injection hat with e1
 injection e1 with _ e2
 rw [hr,e2]
theorem yE.step {f:Int->Int->Int} {n b:Nat} {x:World} (h:yE f n b x) (hn:n<maxLen) (c r:Int) (ws:(Lit.int .i64 c).wf=true) (wc:(Lit.int .i64 r).wf=true) (v:Int) (wv:(Lit.int .i64 v).wf=true) :
  ∃ v0 st w1,(Instr.mapEntry 194 (.map (some b)) (.agg #[.int .i64 c,.int .i64 r])).run Tryz.prog x=.ok (.tuple #[v0,.int .i64 st]) w1/\x.grownBy w1 (some b)/\(Instr.lookup 194 (.map (some b)) (.agg #[.int .i64 c,.int .i64 r]) false).run Tryz.prog w1=.ok (.int .i64 (f c r)) w1 /\
    ∃w3,(Instr.entryStore 194 (.map (some b)) (.int .i64 st) (.int .i64 v)).run Tryz.prog w1=.ok () w3/\w1.grownBy w3 (some b)/\yE (fun c' r'=>if c'=c/\r'=r then v else f c' r') (n+1) b w3:=by
 have hl:=h.look c r ws wc
 obtain⟨D,h1,h2,h3⟩:=h
 obtain⟨kl,hkl⟩:=zee c r ws wc
 obtain⟨v0,st,w1,e1,e2,e3,e4⟩:=ziu XY Tryz.underlying194 Tryz.underlying3 zb2 h1 hn hkl hl
 obtain⟨w3,f1,f2,f3⟩:=e4 w1 v rfl wv
 refine⟨v0,st,w1,e1,e2,e3,w3,f1,f2,D.put kl (.lit (.int .i64 v)),f3,h2.put _ _,fun s' c' kl' hkl'=>?_⟩
 by_cases e:kl'=kl
 ·subst e
  have hv:=XY.inj hkl hkl'
  injection hv with hv
  have hv2:c=s'/\r=c':=by simpa using hv
  obtain⟨rfl,rfl⟩:=hv2
  dsimp only
  rw [Maps.atKey_put_same h2 ((Maps.Keyed.of_law XY).key hkl'),if_pos ⟨rfl,rfl⟩]
 ·dsimp only
  rw [Maps.atKey_put_other e,h3 s' c' kl' hkl',if_neg fun h=>e ?_]
  rw [h.1,h.2,hkl] at hkl'
  exact (Option.some.inj hkl').symm
def xd (L:Lp) (P:Int) (T:List Int) (k:Nat) (c r:Int):Nat:=cnt (fun j=>decide ((nth T j).tmod P=r) && decide (zC (z6 L.body j).o=c)) k
theorem YS (L:Lp) (P:Int) (T:List Int) (k:Nat) (c r:Int):xd L P T (k+1) c r=if c=zC (z6 L.body k).o/\r=(nth T k).tmod P then xd L P T k c r+1 else xd L P T k c r:=by
 unfold xd
 show cnt _ k+(if (decide ((nth T k).tmod P=r) && decide (zC (z6 L.body k).o=c))=true then 1 else 0)=_
 by_cases h:c=zC (z6 L.body k).o/\r=(nth T k).tmod P
 ·rw [if_pos h,if_pos (by rw [h.1,h.2,decide_eq_true rfl,decide_eq_true rfl];rfl)]
 ·rw [if_neg h,if_neg (by rw [Bool.and_eq_true,decide_eq_true_eq,decide_eq_true_eq];exact fun e=>h ⟨e.2.symm,e.1.symm⟩)];rfl
def Yo (L:Lp) (t:Tg) (P:Int) (T:List Int) (i:Nat):Bool:=decide ((xd L P T (i+1) (zC (z6 L.body i).o) ((nth T i).tmod P):Int)<=zF t (zC (z6 L.body i).o))
theorem VE (L:Lp) (P:Int) (T:List Int) (i k:Nat):xd L P T k (zC (z6 L.body i).o) ((nth T i).tmod P)=cnt (XO L P T i) k:=rfl
theorem zkp {L:Lp} {t:Tg} {P:Int} {T:List Int} (ht:zp t=true) (hlen:T.length=L.body.length) (hP1:1<=P) (hP2:P<=200) (hm:zx L=true) :
  (zh (fun i=>inR (nth T i) 0 1000) T.length && zh (fun i=>Yz P T (zu (z8 L t) i)) (z8 L t).length && zh (Yo L t P T) T.length)=zD L t P T:=by
 have hmt:(zx L && zp t)=true:=by rw [hm,ht];rfl
 rw [zm5 hmt hP1 hP2 hlen,Bool.eq_iff_iff]
 simp only [Bool.and_eq_true]
 constructor
 ·rintro ⟨⟨h1,h2⟩,h3⟩
  refine⟨zN fun i hi=>?_,h2⟩
  unfold Y6
  rw [Bool.and_eq_true]
  refine⟨zl h1 i hi,decide_eq_true ?_⟩
  unfold Yr
  rcases zle (XO L P T i) T.length with h0 | ⟨j,j1,j2,j3⟩
  ·rw [h0];have:=zen (c:=zC (z6 L.body i).o) ht;omega
  ·have h4:=of_decide_eq_true (zl h3 j j1)
   unfold XO at j2
   simp only [Bool.and_eq_true,decide_eq_true_eq] at j2
   rw [j2.1,j2.2,VE,<-j3] at h4
   exact h4
 ·rintro ⟨h1,h2⟩
  refine⟨⟨zN fun i hi=>?_,h2⟩,zN fun i hi=>decide_eq_true ?_⟩
  ·have:=zl h1 i hi
   unfold Y6 at this
   rw [Bool.and_eq_true] at this
   exact this.1
  ·have h3:=zl h1 i hi
   unfold Y6 at h3
   rw [Bool.and_eq_true] at h3
   have h4:=of_decide_eq_true h3.2
   rw [VE]
   have h5:cnt (XO L P T i) (i+1)<=Yr L P T i:=zlf _ (by omega)
   omega
end Go.Proofs.YtjoapiafpahihabGreat
namespace Go.Proofs.YtjoapiafpahihabGreat
open Go.RowKit Go.Joins
set_option linter.unusedVariables false
set_option linter.unusedSimpArgs false
set_option maxRecDepth 8192
section
variable {P:Program} {ops:Array Oper} {Q:Exit->Act->World->Prop} {md:Region.Mode} {S:World->Prop} {z:Nat}
theorem Vr {i j:Nat} {o o':Oper} {rest rest':List Oper} {fuel:Nat} {listed:Array Bool} {a:Act} {w:World} (hd:ops.toList.drop i=o :: rest) (hd':ops.toList.drop j=o' :: rest') (hr:Region.ready md ops listed=[i,j])
  (h:∀K':Act->World->Prop,Shut (∀a w,(i=z\/S w)->Yb P md ops Q S z fuel (listed.setIfInBounds i true) a w->K' a w)->if Region.wanted o (yielded ops a.tmps)=true then Oper.wp P o a w K' Q else K' (a.put o.dst undef) w)
  (h':∀K':Act->World->Prop,Shut (∀a w,(j=z\/S w)->Yb P md ops Q S z fuel (listed.setIfInBounds j true) a w->K' a w)->if Region.wanted o' (yielded ops a.tmps)=true then Oper.wp P o' a w K' Q else K' (a.put o'.dst undef) w) :
  Yb P md ops Q S z (fuel+1) listed a w :=
 ⟨fun h0=>absurd (hr ▸ h0) (by simp),fun q hq=>by
  rw [hr] at hq
  have e:q=i\/q=j:=by simpa using hq
  rcases e with e | e
  ·subst e
   exact wpOp_step (ZN hd) (fun K' hK=>h K' (fun a w hS hW=>hK a w ⟨hS,hW⟩))
  ·subst e
   exact wpOp_step (ZN hd') (fun K' hK=>h' K' (fun a w hS hW=>hK a w ⟨hS,hW⟩))⟩
end
theorem zn (w:World) (cs:Array Value) (e:TypeId):(w.alloc (.cells cs e)).heap[w.heap.size]?=some (.cells cs e (0,0)):=by
 show (w.heap.push _)[w.heap.size]?=_
 simp
theorem xX {x:World} {g:Nat} {e:TypeId} {a b a' b':Value} (h:x.heap[g]?=some (.cells #[a,b] e (0,0))):((x.setCell ⟨g,0,none⟩ a').setCell ⟨g,1,none⟩ b').cell? ⟨g,0,none⟩=some a'/\((x.setCell ⟨g,0,none⟩ a').setCell ⟨g,1,none⟩ b').cell? ⟨g,1,none⟩=some b':=by
 have h0:zg x g e 2 (fun i=>if i=0 then a else b):=⟨_,h,by simp,fun i hi=>by
  obtain rfl | rfl:i=0\/i=1:=by omega
  all_goals rfl⟩
 have h1:=(h0.set 0 a' (by omega)).set 1 b' (by omega)
 exact⟨by simpa using h1.cell (i:=0) (by omega),by simpa using h1.cell (i:=1) (by omega)⟩
theorem xB {x y:World} {g:Nat} (h:y.heap[g]?=x.heap[g]?) (i:Nat):y.cell? ⟨g,i,none⟩=x.cell? ⟨g,i,none⟩:=by simp [World.cell?,h]
theorem Yp (x:Int) (h0:-9223372036854775808<=x) (h1:x<=9223372036854775807):(Lit.int .i64 x).wf=true:=WalkArith.wf_i64 (by omega)
set_option maxHeartbeats 8000000 in
theorem UY (p0 p1 p2 q0 q1 q2 r:Int) (L:Lp) (v0 v2:Value) (bb bo bc:Nat) (P:Int) (T:List Int) (tb tz tc:Nat) (w:World) (h16:L.body.length<=16) (hbc:L.body.length<=bc) (hbm:bc<=9223372036854775807) (hbb:bb<w.heap.size) (hbody:∀i,i<L.body.length->∀j,j<9->w.cell? ⟨bb,bo+i*9+j,none⟩=(zJ (z6 L.body i))[j]?)
  (htc:L.body.length<=tc) (hcm:tc<=9223372036854775807) (htb:tb<w.heap.size) (htimes:∀i,i<L.body.length->w.cell? ⟨tb,tz+i,none⟩=some (iV (nth T i))) (hT:∀i,i<L.body.length->0<=nth T i/\nth T i<=1000) (hP1:1<=P) (hP2:P<=200) :
  Calls Tryz.prog 89 #[.agg #[v0,.slice (some ⟨bb,bo,none⟩) L.body.length bc,v2],.agg #[iV p0,iV p1,iV p2,iV q0,iV q1,iV q2,iV r],.agg #[iV P,.slice (some ⟨tb,tz,none⟩) L.body.length tc]] w fun e w'=>e=.returned (.bool (zh (Yo L ⟨p0,p1,p2,q0,q1,q2,r⟩ P T) L.body.length))/\Below w.heap.size w w':=by
 have HBO:=z5 hbody
 have HTI:=z5 htimes
 have HT:=z5 hT
 have hmm:=@run_makeMap Tryz.prog
 have HS3:Hid ((((w.alloc (.cells #[v0,.slice (some ⟨bb,bo,none⟩) L.body.length bc,v2] 25)).alloc (.cells #[iV p0,iV p1,iV p2,iV q0,iV q1,iV q2,iV r] 28)).alloc (.cells #[iV P,.slice (some ⟨tb,tz,none⟩) L.body.length tc] 49)).heap.size=(w.heap.size+1+1+1)):=by show _=_;simp
 have HB3:=z5 (below_alloc3 w (.cells #[v0,.slice (some ⟨bb,bo,none⟩) L.body.length bc,v2] 25) (.cells #[iV p0,iV p1,iV p2,iV q0,iV q1,iV q2,iV r] 28) (.cells #[iV P,.slice (some ⟨tb,tz,none⟩) L.body.length tc] 49))
 have H0:Hid (yE (fun c s=>(xd L P T 0 c s:Int)) 0 (w.heap.size+1+1+1) ((((w.alloc (.cells #[v0,.slice (some ⟨bb,bo,none⟩) L.body.length bc,v2] 25)).alloc (.cells #[iV p0,iV p1,iV p2,iV q0,iV q1,iV q2,iV r] 28)).alloc (.cells #[iV P,.slice (some ⟨tb,tz,none⟩) L.body.length tc] 49)).alloc (.map #[] 0))):=by
  show yE _ _ _ _
  rw [<-HS3.out]
  exact (yE.made (((w.alloc (.cells #[v0,.slice (some ⟨bb,bo,none⟩) L.body.length bc,v2] 25)).alloc (.cells #[iV p0,iV p1,iV p2,iV q0,iV q1,iV q2,iV r] 28)).alloc (.cells #[iV P,.slice (some ⟨tb,tz,none⟩) L.body.length tc] 49))).congr fun c s=>rfl
 have HP3:Hid ((((w.alloc (.cells #[v0,.slice (some ⟨bb,bo,none⟩) L.body.length bc,v2] 25)).alloc (.cells #[iV p0,iV p1,iV p2,iV q0,iV q1,iV q2,iV r] 28)).alloc (.cells #[iV P,.slice (some ⟨tb,tz,none⟩) L.body.length tc] 49)).heap[w.heap.size+1+1]?=some (.cells #[iV P,.slice (some ⟨tb,tz,none⟩) L.body.length tc] 49 (0,0))):=by
  show _=_
  have e:((w.alloc (.cells #[v0,.slice (some ⟨bb,bo,none⟩) L.body.length bc,v2] 25)).alloc (.cells #[iV p0,iV p1,iV p2,iV q0,iV q1,iV q2,iV r] 28)).heap.size=w.heap.size+1+1:=by simp
  rw [<-e];exact zn _ _ _
 have HT3:Hid ((((w.alloc (.cells #[v0,.slice (some ⟨bb,bo,none⟩) L.body.length bc,v2] 25)).alloc (.cells #[iV p0,iV p1,iV p2,iV q0,iV q1,iV q2,iV r] 28)).alloc (.cells #[iV P,.slice (some ⟨tb,tz,none⟩) L.body.length tc] 49)).heap[w.heap.size+1]?=some (.cells #[iV p0,iV p1,iV p2,iV q0,iV q1,iV q2,iV r] 28 (0,0))):=by
  show _=_
  rw [Below.heap_alloc _ _ _ (by simp)]
  have e:(w.alloc (.cells #[v0,.slice (some ⟨bb,bo,none⟩) L.body.length bc,v2] 25)).heap.size=w.heap.size+1:=by simp
  rw [<-e];exact zn _ _ _
 clear hbody htimes hT
 go_enter Tryz.func89,Tryz.ntmps89
 go_wp2_with fail
 go_loopw [15] (fun i wr=>∃k:Nat,k<=L.body.length/\i=iV k/\zh (Yo L ⟨p0,p1,p2,q0,q1,q2,r⟩ P T) k=true/\Below (w.heap.size+1+1+1) (((w.alloc (.cells #[v0,.slice (some ⟨bb,bo,none⟩) L.body.length bc,v2] 25)).alloc (.cells #[iV p0,iV p1,iV p2,iV q0,iV q1,iV q2,iV r] 28)).alloc (.cells #[iV P,.slice (some ⟨tb,tz,none⟩) L.body.length tc] 49)) wr/\yE (fun c s=>(xd L P T k c s:Int)) k (w.heap.size+1+1+1) wr) (fun i _=>L.body.length - (intOf i).toNat)
 case atStart=>exact⟨0,Nat.zero_le _,rfl,rfl,(Below.refl _ _).alloc (by rw [HS3.out];exact Nat.le_refl _) _,H0.out⟩
 case round =>
  clear H0 hmm
  obtain⟨k,hk,rfl,hall,hbel,hM⟩:=hrel
  have HA:=z5 hall
  have HB:=z5 hbel
  have HM:=z5 hM
  have hbw:Below w.heap.size w wr:=HB3.out.trans (hbel.mono (by omega))
  have hsz:(w.heap.size+1+1+1)<=wr.heap.size:=by have:=hbel.size;rw [HS3.out] at this;exact this
  clear hall hM
  by_cases hkl:k<L.body.length
  ·have hki:(k:Int)<(L.body.length:Int):=by omega
   obtain⟨c0,c1,c2,c3,c4,c5,c6,c7,c8⟩:=Zj (fun j hj=>(zc hbw bb (bo+k*9+j) hbb).trans (HBO.out k hkl j hj))
   have hbz:bb<wr.heap.size:=by omega
   obtain⟨tm1,tm2⟩:=HT.out k hkl
   have htk:=(zc hbw tb (tz+k) htb).trans (HTI.out k hkl)
   obtain⟨cn,hcn,hcn3⟩:=VO (z6 L.body k).o
   have hm1:=Int.tmod_nonneg P tm1
   have hm2:=Int.tmod_lt_of_pos (nth T k) (show 0<P by omega)
   have HUS:Hid (Yo L ⟨p0,p1,p2,q0,q1,q2,r⟩ P T k=decide ((xd L P T k cn ((nth T k).tmod P):Int)+1<=zF ⟨p0,p1,p2,q0,q1,q2,r⟩ cn)):=by
    show _=_
    unfold Yo
    rw [hcn,YS,if_pos ⟨hcn.symm,rfl⟩]
    rfl
   have HNX:Hid (∀c s,(fun c' r'=>if c'=(cn:Int)/\r'=(nth T k).tmod P then (xd L P T k cn ((nth T k).tmod P):Int)+1 else (xd L P T k c' r':Int)) c s=(xd L P T (k+1) c s:Int)):=fun c s=>by
    rw [YS,hcn]
    dsimp only
    by_cases e:c=(cn:Int)/\s=(nth T k).tmod P
    ·rw [if_pos e,if_pos e,e.1,e.2];rfl
    ·rw [if_neg e,if_neg e]
   have hcc16:xd L P T k cn ((nth T k).tmod P)<=16:=Nat.le_trans (Zw _ _) (by omega)
   have HLOOK:=z5 (fun (x:World) (h:yE (fun c s=>(xd L P T k c s:Int)) k (w.heap.size+1+1+1) x)=>h.look cn ((nth T k).tmod P) (Yp _ (by omega) (by omega)) (Yp _ (by omega) (by omega)))
   have HSTEP:=z5 (fun (x:World) (h:yE (fun c s=>(xd L P T k c s:Int)) k (w.heap.size+1+1+1) x)=>h.step (by unfold maxLen;omega) cn ((nth T k).tmod P) (Yp _ (by omega) (by omega)) (Yp _ (by omega) (by omega)) ((xd L P T k cn ((nth T k).tmod P):Int)+1) (Yp _ (by omega) (by omega)))
   have HLOOK2:Hid (∀x,yE (fun c s=>(xd L P T (k+1) c s:Int)) (k+1) (w.heap.size+1+1+1) x->(Instr.lookup 194 (.map (some (w.heap.size+1+1+1))) (.agg #[iV cn,iV ((nth T k).tmod P)]) false).run Tryz.prog x=.ok (iV ((xd L P T k cn ((nth T k).tmod P):Int)+1)) x):=fun x h=>by
    have h2:=h.look cn ((nth T k).tmod P) (Yp _ (by omega) (by omega)) (Yp _ (by omega) (by omega))
    rw [YS,if_pos ⟨hcn.symm,rfl⟩] at h2
    exact h2
   have HUO:=z5 (fun W=>Xv (z6 L.body k).o (z6 L.body k).xa (z6 L.body k).xb (z6 L.body k).ya (z6 L.body k).yb (z6 L.body k).ar (z6 L.body k).sp (z6 L.body k).pl (z6 L.body k).nn (nth T k) P W tm1 (by omega) hP1 hP2)
   rw [hcn] at HUO
   have HTG:Hid (∀x,Below (w.heap.size+1+1+1) wr x->x.cell? ⟨w.heap.size+1,cn,none⟩=some (iV (zF ⟨p0,p1,p2,q0,q1,q2,r⟩ cn))):=fun x hx=>by
    have hb:=((hx.block (w.heap.size+1) (by omega)).trans (HB.out.block _ (by omega))).trans HT3.out
    rw [cell_of_block hb]
    obtain rfl | rfl | rfl:cn=0\/cn=1\/cn=2:=by omega
    all_goals rfl
   obtain⟨tm,htm⟩:∃tm,nth T k=tm:=⟨_,rfl⟩
   rw [htm] at htk tm1 tm2 hm1 hm2 HUS HNX hcc16 HLOOK HSTEP HLOOK2 HUO
   obtain⟨rm,hrm⟩:∃rm,tm.tmod P=rm:=⟨_,rfl⟩
   rw [hrm] at hm1 hm2 HUS HNX hcc16 HLOOK HSTEP HLOOK2 HUO
   obtain⟨cc,hcc⟩:∃cc,xd L P T k cn rm=cc:=⟨_,rfl⟩
   rw [hcc] at HUS HNX hcc16 HLOOK HSTEP HLOOK2
   obtain⟨un,hun⟩:∃un,zF ⟨p0,p1,p2,q0,q1,q2,r⟩ (cn:Int)=un:=⟨_,rfl⟩
   rw [hun] at HUS HTG
   have HPL:Hid (wr.heap[w.heap.size+1+1]?=some (.cells #[iV P,.slice (some ⟨tb,tz,none⟩) L.body.length tc] 49 (0,0))):=(HB.out.block _ (by omega)).trans HP3.out
   have HXX:Hid (∃xk,z6 L.body k=xk):=⟨_,rfl⟩
   generalize z6 L.body k=xk at c0 c1 c2 c3 c4 c5 c6 c7 c8 HUO
   clear HXX hcn htm hrm hcc hun
   obtain⟨o,xa,xb,ya,yb,ar,sp,pl,nn⟩:=xk
   simp only at c0 c1 c2 c3 c4 c5 c6 c7 c8 HUO
   have HHELD:Hid (∀y:World,Below wr.heap.size (wr.alloc (.cells #[iV o,iV xa,iV xb,iV ya,iV yb,iV ar,iV sp,iV pl,iV nn] 41)) y->y.cell? ⟨w.heap.size+1+1,0,none⟩=some (iV P)/\y.cell? ⟨w.heap.size+1+1,1,none⟩=some (.slice (some ⟨tb,tz,none⟩) L.body.length tc)/\y.cell? ⟨tb,tz+k,none⟩=some (iV tm)):=fun y hy=>by
    have hy2:Below wr.heap.size wr y:=(below_alloc1 _ _).trans hy
    have hb:=(hy2.block (w.heap.size+1+1) (by omega)).trans HPL.out
    exact⟨by rw [cell_of_block hb];rfl,by rw [cell_of_block hb];rfl,(zc hy2 _ _ (by omega)).trans htk⟩
   have HBOX:Hid (∀y:World,Below (wr.heap.size+1) (wr.alloc (.cells #[iV o,iV xa,iV xb,iV ya,iV yb,iV ar,iV sp,iV pl,iV nn] 41)) y->y.cell? ⟨wr.heap.size,0,none⟩=some (iV o)/\y.cell? ⟨wr.heap.size,1,none⟩=some (iV xa)/\y.cell? ⟨wr.heap.size,2,none⟩=some (iV xb)/\y.cell? ⟨wr.heap.size,3,none⟩=some (iV ya)/\y.cell? ⟨wr.heap.size,4,none⟩=some (iV yb)/\y.cell? ⟨wr.heap.size,5,none⟩=some (iV ar)/\y.cell? ⟨wr.heap.size,6,none⟩=some (iV sp)/\y.cell? ⟨wr.heap.size,7,none⟩=some (iV pl)/\y.cell? ⟨wr.heap.size,8,none⟩=some (iV nn)):=fun y hy=>by
    have hb:y.heap[wr.heap.size]?=some (.cells #[iV o,iV xa,iV xb,iV ya,iV yb,iV ar,iV sp,iV pl,iV nn] 41 (0,0)):=(hy.block _ (by omega)).trans (zn _ _ _)
    refine⟨?_,?_,?_,?_,?_,?_,?_,?_,?_⟩ <;> (rw [cell_of_block hb];rfl)
   have HS:Hid ((wr.alloc (.cells #[iV o,iV xa,iV xb,iV ya,iV yb,iV ar,iV sp,iV pl,iV nn] 41)).heap.size=wr.heap.size+1):=by show _=_;simp
   have HSE:Hid (∀y:World,Below (wr.heap.size+1) (wr.alloc (.cells #[iV o,iV xa,iV xb,iV ya,iV yb,iV ar,iV sp,iV pl,iV nn] 41)) y->(y.cell? ⟨w.heap.size+1+1,0,none⟩=some (iV P)/\y.cell? ⟨w.heap.size+1+1,1,none⟩=some (.slice (some ⟨tb,tz,none⟩) L.body.length tc)/\y.cell? ⟨tb,tz+k,none⟩=some (iV tm))/\(y.cell? ⟨wr.heap.size,0,none⟩=some (iV o)/\y.cell? ⟨wr.heap.size,1,none⟩=some (iV xa)/\y.cell? ⟨wr.heap.size,2,none⟩=some (iV xb)/\y.cell? ⟨wr.heap.size,3,none⟩=some (iV ya)/\y.cell? ⟨wr.heap.size,4,none⟩=some (iV yb)/\y.cell? ⟨wr.heap.size,5,none⟩=some (iV ar)/\y.cell? ⟨wr.heap.size,6,none⟩=some (iV sp)/\y.cell? ⟨wr.heap.size,7,none⟩=some (iV pl)/\y.cell? ⟨wr.heap.size,8,none⟩=some (iV nn))):=fun y hy=>⟨HHELD.out y (hy.mono (by omega)),HBOX.out y hy⟩
   have HBAL:Hid (Below wr.heap.size wr (wr.alloc (.cells #[iV o,iV xa,iV xb,iV ya,iV yb,iV ar,iV sp,iV pl,iV nn] 41))):=below_alloc1 _ _
   clear hbel hbw htk HHELD HBOX
   go_wp2_with fail
   clear c0 c1 c2 c3 c4 c5 c6 c7 c8
   refine wp_region_noPanic ?_
   refine ze 10 (fun w'=>(w'.cell? ⟨w.heap.size+1+1,0,none⟩=some (iV P)/\w'.cell? ⟨w.heap.size+1+1,1,none⟩=some (.slice (some ⟨tb,tz,none⟩) L.body.length tc)/\w'.cell? ⟨tb,tz+k,none⟩=some (iV tm))/\(w'.cell? ⟨wr.heap.size,0,none⟩=some (iV o)/\w'.cell? ⟨wr.heap.size,1,none⟩=some (iV xa)/\w'.cell? ⟨wr.heap.size,2,none⟩=some (iV xb)/\w'.cell? ⟨wr.heap.size,3,none⟩=some (iV ya)/\w'.cell? ⟨wr.heap.size,4,none⟩=some (iV yb)/\w'.cell? ⟨wr.heap.size,5,none⟩=some (iV ar)/\w'.cell? ⟨wr.heap.size,6,none⟩=some (iV sp)/\w'.cell? ⟨wr.heap.size,7,none⟩=some (iV pl)/\w'.cell? ⟨wr.heap.size,8,none⟩=some (iV nn))) (by kernel_rfl) (HSE.out _ (zv _ _)) (fun hHeld=>?_)
   refine utk (i:=0) rfl hHeld ?_
   refine utk (i:=1) rfl hHeld ?_
   refine utk (i:=2) rfl hHeld ?_
   refine utk (i:=3) rfl hHeld ?_
   refine utk (i:=4) rfl hHeld ?_
   refine utk (i:=5) rfl hHeld ?_
   refine utk (i:=6) rfl hHeld ?_
   refine utk (i:=7) rfl hHeld ?_
   refine Vr (i:=8) (j:=9) rfl rfl (by kernel_rfl) (fun K hK=>?a1) (fun K hK=>?a2)
   case' a1 =>
    go_simp
    refine (HUO.out _).mono ?_
    rintro e x1 ⟨rfl,hb1⟩
    have hB1:Below (wr.heap.size+1) (wr.alloc (.cells #[iV o,iV xa,iV xb,iV ya,iV yb,iV ar,iV sp,iV pl,iV nn] 41)) x1:=(zv _ _).trans (hb1.mono (by show _<=(wr.alloc (.cells #[iV o,iV xa,iV xb,iV ya,iV yb,iV ar,iV sp,iV pl,iV nn] 41)).heap.size;rw [HS.out];exact Nat.le_refl _))
    have HB1:=z5 hB1
    have hHeld:=HSE.out _ hB1
    have hsx:wr.heap.size+1<=x1.heap.size:=by have:=hB1.size;rw [HS.out] at this;exact this
    clear hb1 hB1
    refine nxt hK.out (.inr hHeld) ?_
    clear hK K
    have HBX:Hid (Below (wr.heap.size+1) (wr.alloc (.cells #[iV o,iV xa,iV xb,iV ya,iV yb,iV ar,iV sp,iV pl,iV nn] 41)) (x1.alloc (.cells #[iV 0,iV 0] 195))):=HB1.out.alloc hsx _
    have hHeld2:=HSE.out _ HBX.out
    refine z9 (i:=9) rfl (by kernel_rfl) (fun K hK=>?_)
    go_simp
    refine nxt hK.out (.inr hHeld2) ?_
    clear hK K
    refine z9 (i:=10) rfl (by kernel_rfl) (fun K hK=>?_)
    go_simp
    refine nxt hK.out (.inl rfl) ?_
    clear hK K
    refine zf (by kernel_rfl) ?_ _
    refine NoPanic.normal ?_
    clear hHeld hHeld2
    have HW:Hid (Below (wr.heap.size+1) (wr.alloc (.cells #[iV o,iV xa,iV xb,iV ya,iV yb,iV ar,iV sp,iV pl,iV nn] 41)) (x1.alloc (.cells #[iV cn,iV rm] 195))):=HB1.out.alloc hsx _
    have HU0:Hid ((x1.alloc (.cells #[iV cn,iV rm] 195)).heap[x1.heap.size]?=some (.cells #[iV cn,iV rm] 195 (0,0))):=zn _ _ _
    have HU:Hid ((x1.alloc (.cells #[iV cn,iV rm] 195)).cell? ⟨x1.heap.size,0,none⟩=some (iV cn)/\(x1.alloc (.cells #[iV cn,iV rm] 195)).cell? ⟨x1.heap.size,1,none⟩=some (iV rm)/\x1.heap.size<(x1.alloc (.cells #[iV cn,iV rm] 195)).heap.size):=⟨by rw [cell_of_block HU0.out];rfl,by rw [cell_of_block HU0.out];rfl,by simp⟩
    clear HU0 HBX HB1
    generalize (x1.alloc (.cells #[iV cn,iV rm] 195))=W at *
    generalize hub:x1.heap.size=ub at *
    clear hub
   case' a2 =>
    go_simp
    have hBA:Below (wr.heap.size+1) (wr.alloc (.cells #[iV o,iV xa,iV xb,iV ya,iV yb,iV ar,iV sp,iV pl,iV nn] 41)) ((wr.alloc (.cells #[iV o,iV xa,iV xb,iV ya,iV yb,iV ar,iV sp,iV pl,iV nn] 41)).drew.alloc (.cells #[iV 0,iV 0] 195)):=(zv _ _).alloc (by show _<=(wr.alloc (.cells #[iV o,iV xa,iV xb,iV ya,iV yb,iV ar,iV sp,iV pl,iV nn] 41)).heap.size;rw [HS.out];exact Nat.le_refl _) _
    have hHeld1:=HSE.out _ hBA
    refine nxt hK.out (.inr hHeld1) ?_
    clear hK K
    refine z9 (i:=8) rfl (by kernel_rfl) (fun K hK=>?_)
    go_simp
    refine (HUO.out _).mono ?_
    rintro e x1 ⟨rfl,hb1⟩
    have HN0:Hid (((wr.alloc (.cells #[iV o,iV xa,iV xb,iV ya,iV yb,iV ar,iV sp,iV pl,iV nn] 41)).drew.alloc (.cells #[iV 0,iV 0] 195)).heap[wr.heap.size+1]?=some (.cells #[iV 0,iV 0] 195 (0,0))):=by
     show _=_
     have e:(wr.alloc (.cells #[iV o,iV xa,iV xb,iV ya,iV yb,iV ar,iV sp,iV pl,iV nn] 41)).drew.heap.size=wr.heap.size+1:=HS.out
     rw [<-e];exact zn _ _ _
    have hz:wr.heap.size+1+1<=((wr.alloc (.cells #[iV o,iV xa,iV xb,iV ya,iV yb,iV ar,iV sp,iV pl,iV nn] 41)).drew.alloc (.cells #[iV 0,iV 0] 195)).heap.size:=by
     have e:((wr.alloc (.cells #[iV o,iV xa,iV xb,iV ya,iV yb,iV ar,iV sp,iV pl,iV nn] 41)).drew.alloc (.cells #[iV 0,iV 0] 195)).heap.size=(wr.alloc (.cells #[iV o,iV xa,iV xb,iV ya,iV yb,iV ar,iV sp,iV pl,iV nn] 41)).heap.size+1:=by simp
     rw [e,HS.out];exact Nat.le_refl _
    have HN1:Hid (x1.heap[wr.heap.size+1]?=some (.cells #[iV 0,iV 0] 195 (0,0))):=(hb1.block _ (Nat.lt_of_lt_of_le (Nat.lt_succ_self _) hz)).trans HN0.out
    have HB1:Hid (Below (wr.heap.size+1) (wr.alloc (.cells #[iV o,iV xa,iV xb,iV ya,iV yb,iV ar,iV sp,iV pl,iV nn] 41)) x1):=hBA.trans (hb1.mono (Nat.le_trans (Nat.le_succ _) hz))
    have hHeld2:=HSE.out _ HB1.out
    have hsx:wr.heap.size+1+1<=x1.heap.size:=Nat.le_trans hz hb1.size
    clear hb1 hBA hHeld hz
    refine nxt hK.out (.inr hHeld2) ?_
    clear hK K
    have n0:x1.cell? ⟨wr.heap.size+1,0,none⟩=some (iV 0):=by rw [cell_of_block HN1.out];rfl
    have n1:x1.cell? ⟨wr.heap.size+1,1,none⟩=some (iV 0):=by rw [cell_of_block HN1.out];rfl
    have f0:x1.frozen? ⟨wr.heap.size+1,0,none⟩=false:=by simp [World.frozen?,HN1.out]
    have f1:x1.frozen? ⟨wr.heap.size+1,1,none⟩=false:=by simp [World.frozen?,HN1.out]
    refine z9 (i:=10) rfl (by kernel_rfl) (fun K hK=>?_)
    go_simp
    refine nxt hK.out (.inl rfl) ?_
    clear hK K
    refine zf (by kernel_rfl) ?_ _
    refine NoPanic.normal ?_
    clear hHeld1 hHeld2 n0 n1 f0 f1
    have HW:Hid (Below (wr.heap.size+1) (wr.alloc (.cells #[iV o,iV xa,iV xb,iV ya,iV yb,iV ar,iV sp,iV pl,iV nn] 41)) ((x1.setCell ⟨wr.heap.size+1,0,none⟩ (iV cn)).setCell ⟨wr.heap.size+1,1,none⟩ (iV rm))):=(HB1.out.setCell (Nat.le_refl _) _).setCell (Nat.le_refl _) _
    have HU:Hid (((x1.setCell ⟨wr.heap.size+1,0,none⟩ (iV cn)).setCell ⟨wr.heap.size+1,1,none⟩ (iV rm)).cell? ⟨wr.heap.size+1,0,none⟩=some (iV cn)/\((x1.setCell ⟨wr.heap.size+1,0,none⟩ (iV cn)).setCell ⟨wr.heap.size+1,1,none⟩ (iV rm)).cell? ⟨wr.heap.size+1,1,none⟩=some (iV rm)/\wr.heap.size+1<((x1.setCell ⟨wr.heap.size+1,0,none⟩ (iV cn)).setCell ⟨wr.heap.size+1,1,none⟩ (iV rm)).heap.size):=⟨(xX HN1.out).1,(xX HN1.out).2,by simp;omega⟩
    clear HN0 HN1 HB1
    generalize ((x1.setCell ⟨wr.heap.size+1,0,none⟩ (iV cn)).setCell ⟨wr.heap.size+1,1,none⟩ (iV rm))=W at *
    clear hsx
    generalize hub:wr.heap.size+1=ub at HU ⊢
    have hsx:wr.heap.size+1<=ub:=by omega
    clear hub
   all_goals
    obtain⟨u0,u1,uz⟩:=HU.out
    have HBWr:Hid (Below wr.heap.size wr W):=HBAL.out.trans (HW.out.mono (by omega))
    have HMW:Hid (yE (fun c s=>(xd L P T k c s:Int)) k (w.heap.size+1+1+1) W.drew):=(HM.out.below HBWr.out).below (zv _ _)
    have hmb:(w.heap.size+1+1+1)<wr.heap.size:=HM.out.lt
    obtain⟨ve,stp,w1,e1,e2,e3,w3,f1,f2,f3⟩:=HSTEP.out _ HMW.out
    have hcn3i:(cn:Int)<3:=by omega
    have hwr:IntKind.i64.wrap ((cc:Int)+1)=(cc:Int)+1:=yz _ (by omega) (by omega)
    have hk1:w1.heap[ub]?=W.heap[ub]?:=e2.block ub uz (by intro e;have:=Option.some.inj e;omega)
    have hk3:w3.heap[ub]?=W.heap[ub]?:=(f2.block ub (Nat.lt_of_lt_of_le uz e2.size) (by intro e;have:=Option.some.inj e;omega)).trans hk1
    have HM3:Hid (yE (fun c s=>(xd L P T (k+1) c s:Int)) (k+1) (w.heap.size+1+1+1) w3):=f3.congr HNX.out
    have HW3:Hid (Below (w.heap.size+1+1+1) wr w3):=((HBWr.out.mono (by omega)).drew.grown e2 (by have:=HBWr.out.size;show _<=W.heap.size;omega) (fun q hq=>by have:=Option.some.inj hq;omega)).grown f2 (Nat.le_trans (by have:=HBWr.out.size;omega:(w.heap.size+1+1+1)<=W.heap.size) e2.size) (fun q hq=>by have:=Option.some.inj hq;omega)
    have H6:Hid (W.drew.cell? ⟨ub,0,none⟩=some (iV cn)/\W.drew.cell? ⟨ub,1,none⟩=some (iV rm)/\(Instr.lookup 194 (.map (some (w.heap.size+1+1+1))) (.agg #[iV cn,iV rm]) false).run Tryz.prog W.drew=.ok (iV cc) W.drew):=⟨u0,u1,HLOOK.out _ HMW.out⟩
    have H61:Hid (w1.cell? ⟨ub,0,none⟩=some (iV cn)/\w1.cell? ⟨ub,1,none⟩=some (iV rm)/\(Instr.lookup 194 (.map (some (w.heap.size+1+1+1))) (.agg #[iV cn,iV rm]) false).run Tryz.prog w1=.ok (iV cc) w1):=⟨(xB hk1 _).trans u0,(xB hk1 _).trans u1,e3⟩
    have H7:Hid (w3.drew.cell? ⟨ub,0,none⟩=some (iV cn)/\w3.drew.cell? ⟨ub,1,none⟩=some (iV rm)/\w3.drew.cell? ⟨w.heap.size+1,cn,none⟩=some (iV un)/\(Instr.lookup 194 (.map (some (w.heap.size+1+1+1))) (.agg #[iV cn,iV rm]) false).run Tryz.prog w3.drew=.ok (iV ((cc:Int)+1)) w3.drew):=⟨(xB hk3 _).trans u0,(xB hk3 _).trans u1,HTG.out _ HW3.out.drew,HLOOK2.out _ (HM3.out.below (zv _ _))⟩
    clear u0 u1 e2 e3 f2 f3 hk1 hk3 HU
    go_wp2_with fail
    refine wp_region_noPanic ?_
    refine ze 6 (fun w'=>w'.cell? ⟨ub,0,none⟩=some (iV cn)/\w'.cell? ⟨ub,1,none⟩=some (iV rm)/\(Instr.lookup 194 (.map (some (w.heap.size+1+1+1))) (.agg #[iV cn,iV rm]) false).run Tryz.prog w'=.ok (iV cc) w') (by kernel_rfl) H6.out (fun hHeld=>?_)
    refine utk (i:=0) rfl hHeld ?_
    refine utk (i:=1) rfl hHeld ?_
    refine utk (i:=2) rfl hHeld ?_
    refine utk (i:=3) rfl hHeld ?_
    refine z9 (i:=4) rfl (by kernel_rfl) (fun K hK=>?_)
    go_simp
    have hHeld:=H61.out
    refine nxt hK.out (.inr hHeld) ?_
    clear hK K
    refine utk (i:=5) rfl hHeld ?_
    refine z9 (i:=6) rfl (by kernel_rfl) (fun K hK=>?_)
    go_simp
    refine nxt hK.out (.inl rfl) ?_
    clear hK K
    refine zf (by kernel_rfl) ?_ _
    refine NoPanic.normal ?_
    clear e1 f1 hHeld H6 H61
    obtain⟨bd,hbd⟩:∃bd,decide (un<(cc:Int)+1)=bd:=⟨_,rfl⟩
    have HBD:Hid (Yo L ⟨p0,p1,p2,q0,q1,q2,r⟩ P T k=!bd):=by
     show _=_
     rw [HUS.out,<-hbd]
     by_cases h:un<(cc:Int)+1
     ·rw [decide_eq_true h,decide_eq_false (by omega)];rfl
     ·rw [decide_eq_false h,decide_eq_true (by omega)];rfl
    go_wp2_with fail
    refine wp_region_noPanic ?_
    refine ze 99 (fun w'=>w'.cell? ⟨ub,0,none⟩=some (iV cn)/\w'.cell? ⟨ub,1,none⟩=some (iV rm)/\w'.cell? ⟨w.heap.size+1,cn,none⟩=some (iV un)/\(Instr.lookup 194 (.map (some (w.heap.size+1+1+1))) (.agg #[iV cn,iV rm]) false).run Tryz.prog w'=.ok (iV ((cc:Int)+1)) w') (by kernel_rfl) H7.out (fun hHeld=>?_)
    refine utk (i:=0) rfl hHeld ?_
    refine utk (i:=1) rfl hHeld ?_
    refine utk (i:=2) rfl hHeld ?_
    refine utk (i:=3) rfl hHeld ?_
    refine utk (i:=4) rfl hHeld ?_
    refine utk (i:=5) rfl hHeld ?_
    refine utk (i:=6) rfl hHeld ?_
    refine utk (i:=7) rfl hHeld ?_
    refine utk (i:=8) rfl hHeld ?_
    refine zf (by kernel_rfl) ?_ _
    refine NoPanic.normal ?_
    clear hHeld H7
    have HBW:Hid (Below w.heap.size w w3.drew):=HB3.out.trans ((HB.out.trans HW3.out.drew).mono (by omega))
    cases bd with
    | true =>
      have HF:Hid (zh (Yo L ⟨p0,p1,p2,q0,q1,q2,r⟩ P T) L.body.length=false):=zw hkl HBD.out
      go_wp2_with fail
      go_ret
      exact⟨z7 HF.out.symm,HBW.out⟩
    | false =>
      go_wp2_with fail
      go_roundw
      case rel=>exact⟨k+1,by omega,by go_num,yw HA.out HBD.out,HB.out.trans HW3.out.drew,HM3.out.below (zv _ _)⟩
      case measure=>simp [intOf];omega
  ·have e:k=L.body.length:=by omega
   subst e
   have hki:¬(L.body.length:Int)<(L.body.length:Int):=by omega
   have HBW:=z5 hbw
   clear hbw hbel
   go_wp2_with fail
   go_ret
   exact⟨z7 HA.out.symm,HBW.out⟩
end Go.Proofs.YtjoapiafpahihabGreat
