import Derived.Test.YtjoapiafpahihabGreatSounds
import Derived.Test.YtjoapiafpahihabGreatRef8A
import Derived.DeepKeys4
set_option maxHeartbeats 20000000
namespace Go.Proofs.YtjoapiafpahihabGreat
open Go.Proofs.Tryz
set_option linter.unusedVariables false
open Go.RowKit Go.Joins
set_option linter.unusedSimpArgs false
set_option maxRecDepth 8192
open Go.WideMaps (KeyLaw)
variable {p:Nat->Bool} {i a n k b g:Nat} {x y:World} {f:Int->Int->Int}
section
variable {L:Lp} {t:Tg} {P:Int}
def Uh (L:Lp) (t:Tg):List Int:=(List.range L.b.length).map (xB L t)
theorem Xr {s:Nat} (h:s<L.b.length):nth (Uh L t) s=xB L t s:=xI h
theorem ze9 (L:Lp) (t:Tg) (k:Nat):xB L t (k+1)=xB L t k+zO t (zc L.b k).o:=rfl
theorem VQ (ht:yj t=true):∀n s,s<n->xB L t s+zO t (zc L.b s).o<=xB L t n:=by
 intro n
 induction n with
 | zero=>intro s h;omega
 | succ n ih =>
   intro s h
   rw [ze9]
   have h1:=Zk (t:=t) (zc L.b n).o ht
   by_cases e:s=n
   ·subst e;omega
   ·have:=ih s (by omega);omega
theorem zx5:∀n,(∀j,j<n->p j=true->j=i)->cnt p n<=1/\(n<=i->cnt p n=0):=by
 intro n
 induction n with
 | zero=>intro _;exact⟨Nat.zero_le _,fun _=>rfl⟩
 | succ n ih =>
   intro h
   obtain⟨h1,h2⟩:=ih fun j hj=>h j (by omega)
   have e:cnt p (n+1)=cnt p n+(if p n=true then 1 else 0):=rfl
   by_cases hp:p n=true
   ·have:=h n (by omega) hp
    rw [if_pos hp] at e
    have:=h2 (by omega)
    exact⟨by omega,fun _=>by omega⟩
   ·rw [if_neg hp] at e
    exact⟨by omega,fun _=>by have:=h2 (by omega);omega⟩
theorem zq0 (ht:yj t=true) {e:Ed} (he:e∈zi L t):e.wt<=zO t (zc L.b e.fr.toNat).o:=by
 obtain⟨fr,to,b,x,h1,h2,rfl,h3⟩:=za2 _ he
 have hw:=(Zk (t:=t) (zc L.b fr).o ht).1
 show (x:Int)<=zO t (zc L.b ((fr:Int)).toNat).o
 rw [Int.toNat_natCast]
 unfold isD at h3
 rw [Bool.or_eq_true] at h3
 rcases h3 with h3 | h3
 ·rw [Bool.and_eq_true] at h3
  have:=of_decide_eq_true h3.2
  omega
 ·rw [Bool.and_eq_true,Bool.and_eq_true] at h3
  have h4:=of_decide_eq_true h3.1.2
  have h5:Zn (zc L.b fr)<=1:=by unfold Zn;split <;> omega
  omega
theorem zk9 (ht:yj t=true) (hP:Xc L t<=P):∀s,s<L.b.length->nth (Uh L t) s+zO t (zc L.b s).o<=P:=by
 intro s hs
 rw [Xr hs]
 exact Int.le_trans (VQ ht _ s hs) hP
theorem zgx (hm:zY L=true) (ht:yj t=true):1<=Xc L t/\Xc L t<=96:=by
 obtain⟨-,h1,h16,-⟩:=zw hm
 have h2:=(zan (L:=L) ht L.b.length).2
 have h3:=VQ (L:=L) ht L.b.length 0 (by omega)
 have h4:=(Zk (t:=t) (zc L.b 0).o ht).1
 have h5:xB L t 0=0:=rfl
 unfold Xc
 omega
theorem zg6 (hm:zY L=true) (ht:yj t=true) (hP:Xc L t<=P) (hP2:P<=200):zV L t P (Uh L t)=true:=by
 obtain⟨ha1,ha2⟩:=zgx hm ht
 have hlen:(Uh L t).length=L.b.length:=by unfold Uh;simp
 have hov:=zk9 ht hP
 have hin:∀s,s<L.b.length->0<=nth (Uh L t) s/\nth (Uh L t) s<P:=by
  intro s hs
  have h1:=hov s hs
  have h2:=(Zk (t:=t) (zc L.b s).o ht).1
  have h3:=(zan (L:=L) ht s).1
  rw [Xr hs] at h1 ⊢
  omega
 unfold zV
 rw [hm,ht,yf (show 1<=P/\P<=200 by omega),hlen]
 simp only [decide_true,Bool.true_and,Bool.and_eq_true]
 constructor
 ·refine zL fun s hs=>?_
  unfold XN
  rw [Bool.and_eq_true]
  obtain⟨t1,t2⟩:=hin s hs
  refine⟨yf ⟨t1,by omega⟩,decide_eq_true ?_⟩
  have hc:Vg L P (Uh L t) s<=1:=by
   unfold Vg
   refine (zx5 (i:=s) _ fun j hj hp=>?_).1
   rw [hlen] at hj
   obtain⟨j1,j2⟩:=hin j hj
   unfold zaa at hp
   rw [Bool.and_eq_true] at hp
   have h1:=of_decide_eq_true hp.1
   rw [Int.tmod_eq_of_lt j1 j2,Int.tmod_eq_of_lt t1 t2,Xr hj,Xr hs] at h1
   have w1:=(Zk (t:=t) (zc L.b j).o ht).1
   have w2:=(Zk (t:=t) (zc L.b s).o ht).1
   by_cases e1:j<s
   ·have:=VQ (L:=L) ht s j e1;omega
   ·by_cases e2:s<j
    ·have:=VQ (L:=L) ht j s e2;omega
    ·omega
  have hu:1<=ye t (zW (zc L.b s).o):=by
   obtain⟨u1,u2,u3,-,-⟩:=ym ht
   have u1:=yn u1
   have u2:=yn u2
   have u3:=yn u3
   unfold ye
   split
   ·omega
   ·split <;> omega
  omega
 ·refine zL fun i hi=>?_
  have he:zM (zi L t) i∈zi L t:=by unfold zM;rw [List.getD,List.getElem?_eq_getElem hi];exact List.getElem_mem _
  have hw:=zq0 ht he
  obtain⟨fr,to,bk,wt,e,f1,f2,f3,-⟩:=Zc hm _ he
  refine decide_eq_true ?_
  rw [e] at hw ⊢
  simp only [Int.toNat_natCast] at hw ⊢
  have h1:=hov fr f1
  have h2:=(hin to f2).1
  by_cases e0:bk=0
  ·have h3:=VQ (L:=L) ht to fr (f3 e0)
   rw [Xr f1,Xr f2,e0]
   omega
  ·have h3:1*P<=(bk:Int)*P:=Int.mul_le_mul_of_nonneg_right (by omega) (by omega)
   omega
end
section
def inC (L:Lp) (P:Int) (I:Nat->Bool) (T:Nat->Int) (c r:Int):Nat:=cnt (fun i=>I i && (decide (zW (zc L.b i).o=c) && decide ((T i).tmod P=r))) L.b.length
def zhb (P:Int) (e:Ed):Int:=e.wt - e.bk*P
def upB (I:Nat->Bool) (a:Nat) (b:Bool):Nat->Bool:=fun j=>if j=a then b else I j
def upI (T:Nat->Int) (a:Nat) (x:Int):Nat->Int:=fun j=>if j=a then x else T j
def yb7 (es:List Ed) (P:Int) (I:Nat->Bool) (T:Nat->Int) (a k:Nat):Prop :=
 ∀j,j<es.length->(j<k\/(zM es j).fr.toNat≠a)->I (zM es j).fr.toNat=true->I (zM es j).to.toNat=true->T (zM es j).fr.toNat+zhb P (zM es j)<=T (zM es j).to.toNat
structure SOk (L:Lp) (t:Tg) (P:Int) (I:Nat->Bool) (T N:Nat->Int) (a k:Nat):Prop where
 times:∀i,i<L.b.length->0<=T i/\T i<=1000
 nexts:∀i,i<L.b.length->0<=N i/\N i<=1001
 units:∀c r,(inC L P I T c r:Int)<=ye t c
 kept:yb7 (zi L t) P I T a k
theorem XX {q:Nat->Bool}:∀n,(∀i,i<n->i≠a->q i=p i)->cnt q n+(if a<n/\p a=true then 1 else 0)=cnt p n+(if a<n/\q a=true then 1 else 0):=by
 intro n
 induction n with
 | zero=>intro _;simp [cnt]
 | succ n ih =>
   intro h
   have h1:=ih fun i hi=>h i (by omega)
   show cnt q n+(if q n=true then 1 else 0)+_=cnt p n+(if p n=true then 1 else 0)+_
   by_cases e:a=n
   ·subst e
    have e1:¬(a<a/\p a=true):=by omega
    have e2:¬(a<a/\q a=true):=by omega
    rw [if_neg e1,if_neg e2] at h1
    by_cases hp:p a=true <;> by_cases hq:q a=true <;> simp [hp,hq] <;> omega
   ·rw [h n (by omega) (fun h=>e h.symm)]
    have h2:(a<n+1)↔(a<n):=by omega
    simp only [h2]
    omega
theorem zud {L:Lp} {P:Int} {I:Nat->Bool} {T:Nat->Int} {x:Int} (ha:a<L.b.length) (hI:I a=false) (c r:Int) :
  inC L P (upB I a true) (upI T a x) c r=inC L P I T c r+(if zW (zc L.b a).o=c/\x.tmod P=r then 1 else 0):=by
 have h:=XX (p:=fun i=>I i && (decide (zW (zc L.b i).o=c) && decide ((T i).tmod P=r))) (q:=fun i=>upB I a true i && (decide (zW (zc L.b i).o=c) && decide ((upI T a x i).tmod P=r))) (a:=a) L.b.length (fun i _ hi=>by simp [upB,upI,hi])
 simp only [ha,hI,upB,upI,if_true,Bool.false_and,Bool.true_and,Bool.and_eq_true,decide_eq_true_eq,true_and,Bool.false_eq_true,if_false] at h
 exact h
theorem zuc {L:Lp} {P:Int} {I:Nat->Bool} {T:Nat->Int} (ha:a<L.b.length) (hI:I a=true) (c r:Int) :
  inC L P (upB I a false) T c r+(if zW (zc L.b a).o=c/\(T a).tmod P=r then 1 else 0)=inC L P I T c r:=by
 have h:=XX (p:=fun i=>I i && (decide (zW (zc L.b i).o=c) && decide ((T i).tmod P=r))) (q:=fun i=>upB I a false i && (decide (zW (zc L.b i).o=c) && decide ((T i).tmod P=r))) (a:=a) L.b.length (fun i _ hi=>by simp [upB,hi])
 simp only [ha,hI,upB,if_true,Bool.false_and,Bool.true_and,Bool.and_eq_true,decide_eq_true_eq,true_and,Bool.false_eq_true,if_false,Nat.add_zero,and_false] at h
 exact h
theorem US {I:Nat->Bool} (ha:a<n) (hI:I a=false):cnt (upB I a true) n=cnt I n+1:=by
 have h:=XX (p:=I) (q:=upB I a true) (a:=a) n (fun i _ hi=>by simp [upB,hi])
 simpa [ha,hI,upB] using h
theorem ztk {I:Nat->Bool} (ha:a<n) (hI:I a=true):cnt (upB I a false) n+1=cnt I n:=by
 have h:=XX (p:=I) (q:=upB I a false) (a:=a) n (fun i _ hi=>by simp [upB,hi])
 simpa [ha,hI,upB] using h
theorem yav {N:Nat->Int} {x:Int}:∀n,xe (upI N a x) n=xe N n+(if a<n then x - N a else 0):=by
 intro n
 induction n with
 | zero=>simp [xe]
 | succ n ih =>
   show xe (upI N a x) n+upI N a x n=xe N n+N n+_
   rw [ih]
   by_cases e:n=a
   ·subst e;simp [upI];omega
   ·have h2:(a<n+1)↔(a<n):=by omega
    simp only [h2]
    have:upI N a x n=N n:=by simp [upI,e]
    rw [this];omega
theorem zgf {N:Nat->Int} {lo hi:Int}:∀n,(∀i,i<n->lo<=N i/\N i<=hi)->(n:Int)*lo<=xe N n/\xe N n<=(n:Int)*hi:=by
 intro n
 induction n with
 | zero=>intro _;simp [xe]
 | succ n ih =>
   intro h
   have h1:=ih fun i hi=>h i (by omega)
   have h2:=h n (by omega)
   show _<=xe N n+N n/\xe N n+N n<=_
   rw [Int.natCast_add,Int.add_mul,Int.add_mul]
   simp only [Int.natCast_one,Int.one_mul]
   omega
variable {L:Lp} {t:Tg} {P:Int} {I:Nat->Bool} {T N:Nat->Int}
theorem SOk.start (ht:yj t=true) (a k:Nat):SOk L t P (fun _=>false) (fun _=>0) (fun _=>0) a k where
 times:=fun _ _=>⟨by decide,by decide⟩
 nexts:=fun _ _=>⟨by decide,by decide⟩
 units:=fun c r=>by
  have h1:inC L P (fun _=>false) (fun _=>0) c r=0:=by
   rcases ZG (fun i=>(fun _:Nat=>false) i && (decide (zW (zc L.b i).o=c) && decide (((fun _:Nat=>(0:Int)) i).tmod P=r))) L.b.length with h | ⟨i,_,h⟩
   ·exact h
   ·simp at h
  have:=ze3 (c:=c) ht
  omega
 kept:=fun j _ _ h=>by simp at h
theorem SOk.put {a0 k0:Nat} {x:Int} (h:SOk L t P I T N a0 (zi L t).length) (ha:a<L.b.length) (hI:I a=false) (h0:N a<=x) (h1:x<=1000)
  (hfull:(inC L P I T (zW (zc L.b a).o) (x.tmod P):Int)≠ye t (zW (zc L.b a).o))
  (hready:∀j,j<(zi L t).length->(zM (zi L t) j).to.toNat=a->I (zM (zi L t) j).fr.toNat=true->T (zM (zi L t) j).fr.toNat+zhb P (zM (zi L t) j)<=x) :
  SOk L t P (upB I a true) (upI T a x) (upI N a (x+1)) a 0 where
 times:=fun i hi=>by
  have h2:=h.nexts a ha
  have h3:=h.times i hi
  unfold upI
  split <;> omega
 nexts:=fun i hi=>by
  have h2:=h.nexts a ha
  have h3:=h.nexts i hi
  unfold upI
  split <;> omega
 units:=fun c r=>by
  rw [zud ha hI]
  have h2:=h.units c r
  by_cases e:zW (zc L.b a).o=c/\x.tmod P=r
  ·rw [if_pos e]
   rw [<-e.1,<-e.2] at h2 ⊢
   omega
  ·rw [if_neg e];omega
 kept:=fun j hj hor h2 h3=>by
  have hf:(zM (zi L t) j).fr.toNat≠a:=by rcases hor with h | h;exact absurd h (Nat.not_lt_zero _);exact h
  unfold upB at h2 h3
  rw [if_neg hf] at h2
  have e1:upI T a x (zM (zi L t) j).fr.toNat=T (zM (zi L t) j).fr.toNat:=by unfold upI;rw [if_neg hf]
  rw [e1]
  by_cases e:(zM (zi L t) j).to.toNat=a
  ·have:=hready j hj e h2
   unfold upI;rw [if_pos e];exact this
  ·rw [if_neg e] at h3
   unfold upI;rw [if_neg e]
   exact h.kept j hj (.inl hj) h2 h3
theorem SOk.out (h:SOk L t P I T N a k) (hb:b<L.b.length) (hI:I b=true) (hk:k<(zi L t).length) (he:(zM (zi L t) k).to.toNat=b):SOk L t P (upB I b false) T N a (k+1) where
 times:=h.times
 nexts:=h.nexts
 units:=fun c r=>by
  have h1:=zuc (P:=P) (T:=T) hb hI c r
  have h2:=h.units c r
  omega
 kept:=fun j hj hor h2 h3=>by
  have hg:∀i,upB I b false i=true->i≠b/\I i=true:=fun i hi=>by
   unfold upB at hi
   by_cases e:i=b
   ·rw [if_pos e] at hi;cases hi
   ·rw [if_neg e] at hi;exact⟨e,hi⟩
  obtain⟨n2,h2⟩:=hg _ h2
  obtain⟨n3,h3⟩:=hg _ h3
  refine h.kept j hj ?_ h2 h3
  rcases hor with hor | hor
  ·by_cases e:j=k
   ·subst e;exact absurd he n3
   ·exact .inl (by omega)
  ·exact .inr hor
theorem SOk.next (h:SOk L t P I T N a k) (hk:k<(zi L t).length) (hn:(zM (zi L t) k).fr.toNat=a->I (zM (zi L t) k).to.toNat=true->T a+zhb P (zM (zi L t) k)<=T (zM (zi L t) k).to.toNat):SOk L t P I T N a (k+1) where
 times:=h.times
 nexts:=h.nexts
 units:=h.units
 kept:=fun j hj hor h2 h3=>by
  by_cases e:(zM (zi L t) j).fr.toNat=a
  ·rcases hor with hor | hor
   ·by_cases e2:j=k
    ·subst e2
     rw [e];exact hn e h3
    ·exact h.kept j hj (.inl (by omega)) h2 h3
   ·exact absurd e hor
  ·exact h.kept j hj (.inr e) h2 h3
theorem SOk.any (h:SOk L t P I T N a k) (hk:(zi L t).length<=k):SOk L t P I T N b (zi L t).length where
 times:=h.times
 nexts:=h.nexts
 units:=h.units
 kept:=fun j hj _ h2 h3=>h.kept j hj (.inl (by omega)) h2 h3
theorem SOk.legal (h:SOk L t P I T N a (zi L t).length) (hm:zY L=true) (ht:yj t=true) (h1:1<=P) (h2:P<=200) (hall:∀i,i<L.b.length->I i=true):zV L t P ((List.range L.b.length).map T)=true:=by
 have hlen:((List.range L.b.length).map T).length=L.b.length:=by simp
 have hn:∀i,i<L.b.length->nth ((List.range L.b.length).map T) i=T i:=fun i hi=>xI hi
 unfold zV
 rw [hm,ht,yf (show 1<=P/\P<=200 from ⟨h1,h2⟩),hlen]
 simp only [decide_true,Bool.true_and,Bool.and_eq_true]
 constructor
 ·refine zL fun s hs=>?_
  unfold XN
  rw [Bool.and_eq_true,hn s hs]
  refine⟨yf (h.times s hs),decide_eq_true ?_⟩
  have e:Vg L P ((List.range L.b.length).map T) s=inC L P I T (zW (zc L.b s).o) ((T s).tmod P):=by
   unfold Vg inC
   rw [hlen]
   refine zpo fun i hi=>?_
   unfold zaa
   rw [hn i hi,hn s hs,hall i hi,Bool.true_and,Bool.and_comm]
  rw [e]
  exact h.units _ _
 ·refine zL fun i hi=>?_
  have he:zM (zi L t) i∈zi L t:=by unfold zM;rw [List.getD,List.getElem?_eq_getElem hi];exact List.getElem_mem _
  obtain⟨fr,to,bk,wt,e,f1,f2,f3,-⟩:=Zc hm _ he
  have h5:=h.kept i hi (.inl hi)
  refine decide_eq_true ?_
  rw [e] at h5 ⊢
  simp only [Int.toNat_natCast] at h5 ⊢
  rw [hn fr f1,hn to f2]
  have h6:=h5 (hall fr f1) (hall to f2)
  unfold zhb at h6
  simp only at h6
  omega
end
theorem zI (n:Nat) (w:World):Below n w w.drew:=below_draws _ _ 1
theorem VM (n lo hi:Int) (w:World) :
  Calls prog 132 #[iV n,iV lo,iV hi] w fun e w'=>e=.returned (.bool (inR n lo hi))/\w'=w:=by
 by_cases h:lo<=n/\n<=hi
 ·rw [yf h]
  obtain⟨h1,h2⟩:=h
  go_enter func132,ntmps132
  go_wp2
  go_ret
  exact⟨rfl,rfl⟩
 ·rw [Yt h]
  by_cases h1:lo<=n
  ·have h2:¬n<=hi:=fun h2=>h ⟨h1,h2⟩
   clear h
   go_enter func132,ntmps132
   go_wp2
   go_ret
   exact⟨rfl,rfl⟩
  ·clear h
   go_enter func132,ntmps132
   go_wp2
   go_ret
   exact⟨rfl,rfl⟩
theorem zc3 (fr to bk wt:Nat) (p:Int) (w:World) (h1:bk<=32) (h2:wt<=6) (h3:1<=p) (h4:p<=200) :
  Calls prog 133 #[.agg #[iV fr,iV to,iV bk,iV wt],iV p] w (Rt w (iV ((wt:Int) - (bk:Int)*p))):=by
 have hpb1:0<=(bk:Int)*p:=Int.mul_nonneg (by omega) (by omega)
 have hpb2:(bk:Int)*p<=32*200:=Int.mul_le_mul (by omega) h4 (by omega) (by omega)
 go_enter func133,ntmps133
 go_wp2_with fail
 go_ret
 exact⟨rfl,below_alloc1 _ _⟩
theorem UI (o xa xb ya yb ar sp pl nn tm p:Int) (w:World) (h0:0<=tm) (h1:tm<=5000) (h3:1<=p) (h4:p<=200) :
  Calls prog 134 #[.agg #[iV o,iV xa,iV xb,iV ya,iV yb,iV ar,iV sp,iV pl,iV nn],iV tm,iV p] w (Rt w (.agg #[iV (zW o),iV (tm.tmod p)])):=by
 have HCL:=z9 (fun W=>VZ o W)
 have hp0:¬p=0:=by omega
 have hm1:=Int.tmod_nonneg p h0
 have hm2:=Int.tmod_lt_of_pos tm (show 0<p by omega)
 obtain⟨rm,hrm⟩:∃rm,tm.tmod p=rm:=⟨_,rfl⟩
 rw [hrm] at hm1 hm2 ⊢
 have hwr:wrap64 rm=rm:=by unfold wrap64;omega
 obtain⟨cn,hcn⟩:∃cn,zW o=cn:=⟨_,rfl⟩
 rw [hcn] at HCL ⊢
 clear hcn
 go_enter func134,ntmps134
 go_wp2_with fail
 refine wp_region_noPanic ?_
 refine zm 7 (fun w'=>w'.cell? (ad w.heap.size 0)=sI o) (by kernel_rfl) (by go_simp) (fun h9=>?_)
 refine uk 0 h9 ?_
 refine uk 1 h9 ?_
 refine uk 3 h9 ?_
 refine uk 4 h9 ?_
 refine uk 5 h9 ?_
 refine ze (i:=2) rfl (by kernel_rfl) (fun K hK=>?_)
 go_simp
 refine (HCL.out _).mono ?_
 rintro e w' ⟨rfl,hw'⟩
 have hw':=hw'.symm;subst hw'
 refine nxt hK.out (.inr h9) ?_
 clear hK K
 refine uk 6 h9 ?_
 refine ze (i:=7) rfl (by kernel_rfl) (fun K hK=>?_)
 go_simp
 refine nxt hK.out (.inl rfl) ?_
 clear hK K
 refine zq (by kernel_rfl) ?_ _
 refine NoPanic.normal ?_
 go_wp2_with fail
 exact bodyPost_ret (v:=.agg #[iV cn,iV rm]) (by simp [results,results134,go_sem]) rfl ⟨rfl,(below_alloc2 _ _ _).drew⟩
theorem zdc (P:Int) (T:List Int) (ta:Option Addr) (tc:Nat) (w:World) (h:zK w (.slice ta T.length tc) T) :
  Calls prog 87 #[.agg #[iV P,.slice ta T.length tc]] w (Rt w (.bool (zC (fun i=>inR (nth T i) 0 1000) T.length && inR P 1 200))):=by
 obtain⟨a,cap,he,hl,hm,hr,hc⟩:=h
 injection he with e1 e2 e3
 subst e1;subst e3
 unfold maxLen at hm
 clear e2
 have HC:=z9 hc
 clear hc hr
 go_enter func87,ntmps87
 go_wp2_with fail
 go_loopw [8] (fun i wr=>∃k:Nat,k<=T.length/\i=iV k/\zC (fun i=>inR (nth T i) 0 1000) k=true/\wr=w.alloc (.cells #[iV P,.slice ta T.length tc] 49)) (fun i _=>T.length - (intOf i).toNat)
 case atStart=>exact⟨0,Nat.zero_le _,rfl,rfl,rfl⟩
 case round =>
  obtain⟨k,hk,rfl,hall,rfl⟩:=hrel
  have HA:=z9 hall
  clear hall
  by_cases hlt:k<T.length
  ·obtain⟨b,off,rfl,hb,gR⟩:=HC.out (by omega)
   have hck:=gR k hlt
   have hki:(k:Int)<(T.length:Int):=by omega
   clear gR HC
   obtain⟨x,hx⟩:∃x,nth T k=x:=⟨_,rfl⟩
   rw [hx] at hck
   have HX:=z9 hx
   clear hx
   obtain⟨rb,hrb⟩:∃rb,inR x 0 1000=rb:=⟨_,rfl⟩
   have HW:Hid (∀W,Calls prog 132 #[iV x,iV 0,iV 1000] W fun e w'=>e=.returned (.bool rb)/\w'=W):=fun W=>hrb ▸ VM x 0 1000 W
   have HRB:=z9 hrb
   clear hrb
   cases rb with
   | true =>
     go_wp2_with (go_at_call 132;refine (HW.out _).mono ?_;rintro e w' ⟨rfl,hw'⟩;have hw':=hw'.symm;subst hw')
     go_roundw
     case rel=>exact⟨k+1,by omega,by go_num,yl HA.out (by rw [HX.out];exact HRB.out),by first | trivial | rfl⟩
     case measure=>simp [intOf];omega
   | false =>
     have HF:Hid (zC (fun i=>inR (nth T i) 0 1000) T.length=false):=zZ hlt (by rw [HX.out];exact HRB.out)
     go_wp2_with (go_at_call 132;refine (HW.out _).mono ?_;rintro e w' ⟨rfl,hw'⟩;have hw':=hw'.symm;subst hw')
     go_ret
     exact⟨zg (by rw [HF.out];rfl),below_alloc1 _ _⟩
  ·have e:k=T.length:=by omega
   subst e
   have hki:¬(T.length:Int)<(T.length:Int):=by omega
   have HW:=z9 (fun W=>VM P 1 200 W)
   obtain⟨rb,hrb⟩:∃rb,inR P 1 200=rb:=⟨_,rfl⟩
   rw [hrb] at HW
   have HRB:=z9 hrb
   clear hrb
   go_wp2_with (go_at_call 132;refine (HW.out _).mono ?_;rintro e w' ⟨rfl,hw'⟩;have hw':=hw'.symm;subst hw')
   go_ret
   exact⟨zg (by rw [HA.out,HRB.out];rfl),below_alloc1 _ _⟩
theorem zel (n:Nat) (P:Int) (T:List Int) (tb tz tc:Nat) (la:Option Addr) (lc:Nat) (l:List Ed) (w:World) (hE:Z8 w (.slice la l.length lc) l) (hl:∀e∈l,zek n e) (hn:n<=16) (hP1:1<=P) (hP2:P<=200) (hTn:T.length=n) (htc:n<=tc) (hcm:tc<=9223372036854775807) (htb:tb<w.heap.size)
  (gR:∀i,i<n->w.cell? (ad tb (tz+i))=sI (nth T i)) (hT:∀i,i<n->0<=nth T i/\nth T i<=1000) :
  Calls prog 88 #[.slice la l.length lc,.agg #[iV P,.slice (some (ad tb tz)) n tc]] w (Rt w (.bool (zC (fun i=>Vu P T (zM l i)) l.length))):=by
 obtain⟨la',lc',he1,he2,he3,hec⟩:=hE
 injection he1 with e1 e2 e3
 subst e1;subst e3
 unfold maxLen at he3
 have HEC:=z9 hec
 have HL:=z9 hl
 have HT:=z9 hT
 have HTC:=z9 gR
 clear hec hl e2 hT gR hTn
 have HB0:=z9 (below_alloc1 w (.cells #[iV P,.slice (some (ad tb tz)) n tc] 49))
 go_enter func88,ntmps88
 go_wp2_with fail
 go_loopw [9] (fun i wr=>∃k:Nat,k<=l.length/\i=iV k/\zC (fun i=>Vu P T (zM l i)) k=true/\Below (w.heap.size+1) (w.alloc (.cells #[iV P,.slice (some (ad tb tz)) n tc] 49)) wr) (fun i _=>l.length - (intOf i).toNat)
 case atStart=>exact⟨0,Nat.zero_le _,rfl,rfl,Below.refl _ _⟩
 case round =>
  obtain⟨k,hk,rfl,hall,gH⟩:=hrel
  have HA:=z9 hall
  have HB:=z9 gH
  have hbw:Bw w wr:=HB0.out.trans (gH.mono (by omega))
  have hsz:w.heap.size+1<=wr.heap.size:=by have:=gH.size;simp at this;omega
  have hpb:wr.heap[w.heap.size]?=some (.cells #[iV P,.slice (some (ad tb tz)) n tc] 49 (0,0)):=by
   rw [gH.block _ (by omega)]
   show (w.heap.push _)[w.heap.size]?=_
   simp
  clear hall
  by_cases hkl:k<l.length
  ·have hki:(k:Int)<(l.length:Int):=by omega
   obtain⟨eb,eo,rfl,hebz,hecell⟩:=HEC.out (by omega)
   obtain⟨c0,c1,c2,c3⟩:=ziy (hecell k hkl)
   rw [<-zf hbw _ _ hebz] at c0 c1 c2 c3
   have hebz2:eb<wr.heap.size:=by have:=hbw.size;omega
   obtain⟨fr,to,bk,wt,hed,hfr,hto,hbk,hwt⟩:=HL.out _ (Xl hkl)
   have HEL:Hid (Vu P T (zM l k)=decide (nth T fr+(wt:Int)<=nth T to+(bk:Int)*P)):=by show _=_;rw [hed];rfl
   rw [hed] at c0 c1 c2 c3
   simp only at c0 c1 c2 c3
   have hxf:=HT.out fr hfr
   have hxt:=HT.out to hto
   have htf:=(zf hbw tb (tz+fr) htb).trans (HTC.out fr hfr)
   have htt:=(zf hbw tb (tz+to) htb).trans (HTC.out to hto)
   obtain⟨xf,hxfe⟩:∃x,nth T fr=x:=⟨_,rfl⟩
   obtain⟨xt,hxte⟩:∃x,nth T to=x:=⟨_,rfl⟩
   rw [hxfe] at hxf htf HEL
   rw [hxte] at hxt htt HEL
   have hpb1:0<=(bk:Int)*P:=Int.mul_nonneg (by omega) (by omega)
   have hpb2:(bk:Int)*P<=32*200:=Int.mul_le_mul (by omega) hP2 (by omega) (by omega)
   have HGAP:=z9 (fun W=>zc3 fr to bk wt P W hbk hwt hP1 hP2)
   obtain⟨g,hg⟩:∃g,(wt:Int) - (bk:Int)*P=g:=⟨_,rfl⟩
   rw [hg] at HGAP
   have hgb:-10000<=g/\g<=6:=by omega
   have HED:Hid (Vu P T (zM l k)=!decide (xt<xf+g)):=by
    show _=_
    rw [HEL.out]
    by_cases h:xt<xf+g
    ·rw [decide_eq_true h,decide_eq_false (by omega)];rfl
    ·rw [decide_eq_false h,decide_eq_true (by omega)];rfl
   have hwr:IntKind.i64.wrap (xf+g)=xf+g:=xw _ (by omega) (by omega)
   have hfi:(fr:Int)<(n:Int):=by omega
   have hti:(to:Int)<(n:Int):=by omega
   have HHELD:Hid (∀y:World,Below wr.heap.size (wr.alloc (.cells #[iV fr,iV to,iV bk,iV wt] 100)) y->y.cell? (ad w.heap.size 0)=sI P/\y.cell? (ad w.heap.size 1)=some (.slice (some (ad tb tz)) n tc)/\y.cell? (ad tb (tz+fr))=sI xf/\y.cell? (ad tb (tz+to))=sI xt):=fun y hy=>by
    have hy2:Bw wr y:=(below_alloc1 _ _).trans hy
    have hb:=(hy2.block w.heap.size (by omega)).trans hpb
    exact⟨by rw [cell_of_block hb];rfl,by rw [cell_of_block hb];rfl,(zf hy2 _ _ (by omega)).trans htf,(zf hy2 _ _ (by omega)).trans htt⟩
   have HBOX:Hid (∀y:World,Below (wr.heap.size+1) (wr.alloc (.cells #[iV fr,iV to,iV bk,iV wt] 100)) y->y.cell? (ad wr.heap.size 0)=sI fr/\y.cell? (ad wr.heap.size 1)=sI to/\y.cell? (ad wr.heap.size 2)=sI bk/\y.cell? (ad wr.heap.size 3)=sI wt):=fun y hy=>by
    have hb:y.heap[wr.heap.size]?=some (.cells #[iV fr,iV to,iV bk,iV wt] 100 (0,0)):=by
     rw [hy.block _ (by omega)]
     show (wr.heap.push _)[wr.heap.size]?=_
     simp
    exact⟨by rw [cell_of_block hb];rfl,by rw [cell_of_block hb];rfl,by rw [cell_of_block hb];rfl,by rw [cell_of_block hb];rfl⟩
   have HS:Hid ((wr.alloc (.cells #[iV fr,iV to,iV bk,iV wt] 100)).heap.size=wr.heap.size+1):=by show _=_;simp
   clear hecell hed gH hpb HEL htf htt hxfe hxte hg
   obtain⟨bd,hbd⟩:∃bd,decide (xt<xf+g)=bd:=⟨_,rfl⟩
   have HBD:=z9 hbd
   rw [hbd] at HED
   go_wp2_with fail
   refine wp_region_noPanic ?_
   refine zm 99 (fun w'=>(w'.cell? (ad w.heap.size 0)=sI P/\w'.cell? (ad w.heap.size 1)=some (.slice (some (ad tb tz)) n tc)/\w'.cell? (ad tb (tz+fr))=sI xf/\w'.cell? (ad tb (tz+to))=sI xt)/\(w'.cell? (ad wr.heap.size 0)=sI fr/\w'.cell? (ad wr.heap.size 1)=sI to/\w'.cell? (ad wr.heap.size 2)=sI bk/\w'.cell? (ad wr.heap.size 3)=sI wt)) (by kernel_rfl) ⟨HHELD.out _ (zI _ _),HBOX.out _ (zI _ _)⟩ (fun h9=>?_)
   refine uk 0 h9 ?_
   refine uk 1 h9 ?_
   refine uk 2 h9 ?_
   refine uk 3 h9 ?_
   refine uk 4 h9 ?_
   refine uk 5 h9 ?_
   refine uk 6 h9 ?_
   refine uk 7 h9 ?_
   refine uk 8 h9 ?_
   refine uk 9 h9 ?_
   refine uk 10 h9 ?_
   refine uk 11 h9 ?_
   refine uk 12 h9 ?_
   refine uk 13 h9 ?_
   refine uk 14 h9 ?_
   refine ze (i:=15) rfl (by kernel_rfl) (fun K hK=>?_)
   go_simp
   refine (HGAP.out _).mono ?_
   rintro e x1 ⟨rfl,hb1⟩
   have hB1:Below (wr.heap.size+1) (wr.alloc (.cells #[iV fr,iV to,iV bk,iV wt] 100)) x1:=(zI _ _).trans (hb1.mono (by show _<=(wr.alloc _).heap.size;rw [HS.out];exact Nat.le_refl _))
   have HB1:=z9 hB1
   have h9:=(show (x1.cell? (ad w.heap.size 0)=sI P/\x1.cell? (ad w.heap.size 1)=some (.slice (some (ad tb tz)) n tc)/\x1.cell? (ad tb (tz+fr))=sI xf/\x1.cell? (ad tb (tz+to))=sI xt)/\(x1.cell? (ad wr.heap.size 0)=sI fr/\x1.cell? (ad wr.heap.size 1)=sI to/\x1.cell? (ad wr.heap.size 2)=sI bk/\x1.cell? (ad wr.heap.size 3)=sI wt) from ⟨HHELD.out _ (hB1.mono (by omega)),HBOX.out _ hB1⟩)
   clear hb1 hB1
   refine nxt hK.out (.inr h9) ?_
   clear hK K
   refine uk 16 h9 ?_
   refine uk 17 h9 ?_
   refine zq (by kernel_rfl) ?_ _
   refine NoPanic.normal ?_
   have HBX:Hid (Below (w.heap.size+1) (w.alloc (.cells #[iV P,.slice (some (ad tb tz)) n tc] 49)) x1):=HB.out.trans (((below_alloc1 _ _).mono hsz).trans (HB1.out.mono (by omega)))
   have HBW:Hid (Bw w x1):=HB0.out.trans (HBX.out.mono (by omega))
   clear h9
   cases bd with
   | true =>
     have HF:Hid (zC (fun i=>Vu P T (zM l i)) l.length=false):=zZ hkl HED.out
     go_wp2_with fail
     go_ret
     exact⟨zg HF.out.symm,HBW.out⟩
   | false =>
     go_wp2_with fail
     go_roundw
     case rel=>exact⟨k+1,by omega,by go_num,yl HA.out HED.out,HBX.out⟩
     case measure=>simp [intOf];omega
  ·have e:k=l.length:=by omega
   subst e
   have hki:¬(l.length:Int)<(l.length:Int):=by omega
   have HBW:=z9 hbw
   clear hbw gH hpb
   go_wp2_with fail
   go_ret
   exact⟨zg HA.out.symm,HBW.out⟩
theorem zuf:laidOutB prog=true:=by kernel_rfl
theorem zkn:(195:TypeId)<prog.types.size:=of_decide_eq_true (by kernel_rfl)
theorem zsp:(match prog.underlying 195 with | some (.array _ _) | some (.struct _)=>true | _=>false)=true:=by kernel_rfl
theorem zak:KeyLaw prog 195:=deep_law_laid zuf (m:=2) (by omega) zkn (by kernel_rfl) zsp
theorem zgg (u:World):(zeroValue 3).run prog u=.ok (iV 0) u:=by kernel_rfl
theorem zkm (a b:Int) (ha:(Lit.int .i64 a).wf=true) (hb:(Lit.int .i64 b).wf=true):∃kl,keyOf prog 195 (.agg #[.int .i64 a,.int .i64 b])=some kl:=by
 have h1:prog.keyType 195=true:=by kernel_rfl
 have h2:prog.cellsOf 195=2:=by kernel_rfl
 have h3:prog.cellsOf 3=1:=by kernel_rfl
 obtain⟨dd,h4⟩:∃dd,prog.types.size=dd+1:=⟨_,(Nat.succ_pred_eq_of_pos (Nat.lt_of_le_of_lt (Nat.zero_le _) zkn)).symm⟩
 have h5:(Value.agg #[.int .i64 a,.int .i64 b]).formed prog 195=true:=by simp [Value.formed,underlying195,h2]
 have h6:∀d (x:Int),(Lit.int .i64 x).wf=true->prog.keyLits (d+1) 3 [.int .i64 x]=some [.int .i64 x]:=fun d x hx=>by
  unfold Program.keyLits
  rw [underlying3]
  simp [hx]
 have h7:prog.keyLits (dd+1+1) 195 [.int .i64 a,.int .i64 b]=some [.int .i64 a,.int .i64 b]:=by
  unfold Program.keyLits
  rw [underlying195]
  simp [h2,h3,h6 dd a ha,h6 dd b hb,List.range,List.range.loop]
 unfold keyOf
 rw [underlying195]
 simp only [h1,h5,Bool.and_self,if_true]
 rw [h4]
 have h8:(Value.agg #[.int .i64 a,.int .i64 b]).cells.toList=[.int .i64 a,.int .i64 b]:=rfl
 rw [h8,h7]
 exact⟨_,rfl⟩
def yW (f:Int->Int->Int) (n b:Nat) (x:World):Prop :=
 ∃D:DataW Unit,x.ownsMap prog 195 (plainElem prog 3) b n D/\Maps.IsMap D/\∀c r kl,keyOf prog 195 (.agg #[.int .i64 c,.int .i64 r])=some kl->D.atKey kl (.lit (.int .i64 0))=.lit (.int .i64 (f c r))
theorem yW.gE (h:yW f n b x) (hb:Bw x y):yW f n b y:=by
 obtain⟨D,h1,h2,h3⟩:=h
 refine⟨D,h1.kept (row:=none) ⟨hb.os,hb.tape,hb.output,hb.size,fun i hi _=>hb.block i hi⟩ (by simp),h2,h3⟩
theorem yW.lt (h:yW f n b x):b<x.heap.size:=by obtain⟨D,h1,_⟩:=h;exact h1.lt
theorem yW.gG (h:yW f n b x) (hb:y.heap[b]?=x.heap[b]?):yW f n b y:=by
 obtain⟨D,⟨es,clock,h1,h4⟩,h2,h3⟩:=h
 exact⟨D,⟨es,clock,hb.trans h1,h4⟩,h2,h3⟩
theorem yW.congr {g:Int->Int->Int} (h:yW f n b x) (e:∀c r,f c r=g c r):yW g n b x:=by
 have:f=g:=by funext c r;exact e c r
 rw [<-this];exact h
theorem yW.made (w:World):yW (fun _ _=>0) 0 w.heap.size (w.alloc (.map #[] 0)) :=
 ⟨_,World.ownsMap_made (H:=Unit) w prog 195 (plainElem prog 3),Maps.isMap_empty,fun s c kl _=>rfl⟩
theorem yW.look (h:yW f n b x) (c r:Int) (hs:(Lit.int .i64 c).wf=true) (hc:(Lit.int .i64 r).wf=true):(Instr.lookup 194 (.map (some b)) (.agg #[.int .i64 c,.int .i64 r]) false).run prog x=.ok (.int .i64 (f c r)) x:=by
 obtain⟨D,h1,h2,h3⟩:=h
 obtain⟨kl,hkl⟩:=zkm c r hs hc
 obtain⟨q,hr,hat,_⟩:=h1.lookup_int (Maps.Keyed.of_law zak) underlying194 underlying3 (zgg _) hkl
 rw [h3 c r kl hkl] at hat
 injection hat with e1
 injection e1 with _ e2
 rw [hr,e2]
theorem yW.step (h:yW f n b x) (hn:n<maxLen) (c r:Int) (ws:(Lit.int .i64 c).wf=true) (wc:(Lit.int .i64 r).wf=true) (v:Int) (wv:(Lit.int .i64 v).wf=true) :
  ∃ v0 st w1,(Instr.mapEntry 194 (.map (some b)) (.agg #[.int .i64 c,.int .i64 r])).run prog x=.ok (.tuple #[v0,.int .i64 st]) w1/\x.grownBy w1 (some b)/\(Instr.lookup 194 (.map (some b)) (.agg #[.int .i64 c,.int .i64 r]) false).run prog w1=.ok (.int .i64 (f c r)) w1 /\
    ∃w3,(Instr.entryStore 194 (.map (some b)) (.int .i64 st) (.int .i64 v)).run prog w1=.ok () w3/\w1.grownBy w3 (some b)/\yW (fun c' r'=>if c'=c/\r'=r then v else f c' r') (n+1) b w3:=by
 have hl:=h.look c r ws wc
 obtain⟨D,h1,h2,h3⟩:=h
 obtain⟨kl,hkl⟩:=zkm c r ws wc
 obtain⟨v0,st,w1,e1,e2,e3,e4⟩:=zf4 zak underlying194 underlying3 zgg h1 hn hkl hl
 obtain⟨w3,f1,f2,f3⟩:=e4 w1 v rfl wv
 refine⟨v0,st,w1,e1,e2,e3,w3,f1,f2,D.put kl (.lit (.int .i64 v)),f3,h2.put _ _,fun s' c' kl' hkl'=>?_⟩
 by_cases e:kl'=kl
 ·subst e
  have hv:=zak.inj hkl hkl'
  injection hv with hv
  have hv2:c=s'/\r=c':=by simpa using hv
  obtain⟨rfl,rfl⟩:=hv2
  dsimp only
  rw [Maps.atKey_put_same h2 ((Maps.Keyed.of_law zak).key hkl'),if_pos ⟨rfl,rfl⟩]
 ·dsimp only
  rw [Maps.atKey_put_other e,h3 s' c' kl' hkl',if_neg fun h=>e ?_]
  rw [h.1,h.2,hkl] at hkl'
  exact (Option.some.inj hkl').symm
def xO (L:Lp) (P:Int) (T:List Int) (k:Nat) (c r:Int):Nat:=cnt (fun j=>decide ((nth T j).tmod P=r) && decide (zW (zc L.b j).o=c)) k
theorem VO (L:Lp) (P:Int) (T:List Int) (k:Nat) (c r:Int):xO L P T (k+1) c r=if c=zW (zc L.b k).o/\r=(nth T k).tmod P then xO L P T k c r+1 else xO L P T k c r:=by
 unfold xO
 show cnt _ k+(if (decide ((nth T k).tmod P=r) && decide (zW (zc L.b k).o=c))=true then 1 else 0)=_
 by_cases h:c=zW (zc L.b k).o/\r=(nth T k).tmod P
 ·rw [if_pos h,if_pos (by rw [h.1,h.2,decide_eq_true rfl,decide_eq_true rfl];rfl)]
 ·rw [if_neg h,if_neg (by rw [Bool.and_eq_true,decide_eq_true_eq,decide_eq_true_eq];exact fun e=>h ⟨e.2.symm,e.1.symm⟩)];rfl
def Vc (L:Lp) (t:Tg) (P:Int) (T:List Int) (i:Nat):Bool:=decide ((xO L P T (i+1) (zW (zc L.b i).o) ((nth T i).tmod P):Int)<=ye t (zW (zc L.b i).o))
theorem zbt (L:Lp) (P:Int) (T:List Int) (i k:Nat):xO L P T k (zW (zc L.b i).o) ((nth T i).tmod P)=cnt (zaa L P T i) k:=rfl
theorem zst {L:Lp} {t:Tg} {P:Int} {T:List Int} (ht:yj t=true) (hlen:T.length=L.b.length) (hP1:1<=P) (hP2:P<=200) (hm:zY L=true) :
  (zC (fun i=>inR (nth T i) 0 1000) T.length && zC (fun i=>Vu P T (zM (zi L t) i)) (zi L t).length && zC (Vc L t P T) T.length)=zV L t P T:=by
 have hmt:(zY L && yj t)=true:=by rw [hm,ht];rfl
 rw [zuo hmt hP1 hP2 hlen,Bool.eq_iff_iff]
 simp only [Bool.and_eq_true]
 constructor
 ·rintro ⟨⟨h1,h2⟩,h3⟩
  refine⟨zL fun i hi=>?_,h2⟩
  unfold XN
  rw [Bool.and_eq_true]
  refine⟨zo h1 i hi,decide_eq_true ?_⟩
  unfold Vg
  rcases zii (zaa L P T i) T.length with h0 | ⟨j,j1,j2,j3⟩
  ·rw [h0];have:=ze3 (c:=zW (zc L.b i).o) ht;omega
  ·have h4:=of_decide_eq_true (zo h3 j j1)
   unfold zaa at j2
   simp only [Bool.and_eq_true,decide_eq_true_eq] at j2
   rw [j2.1,j2.2,zbt,<-j3] at h4
   exact h4
 ·rintro ⟨h1,h2⟩
  refine⟨⟨zL fun i hi=>?_,h2⟩,zL fun i hi=>decide_eq_true ?_⟩
  ·have:=zo h1 i hi
   unfold XN at this
   rw [Bool.and_eq_true] at this
   exact this.1
  ·have h3:=zo h1 i hi
   unfold XN at h3
   rw [Bool.and_eq_true] at h3
   have h4:=of_decide_eq_true h3.2
   rw [zbt]
   have h5:cnt (zaa L P T i) (i+1)<=Vg L P T i:=zij _ (by omega)
   omega
section
section
variable {P:Program} {ops:Array Oper} {Q:Exit->Act->World->Prop} {md:Region.Mode} {S:World->Prop} {z:Nat}
theorem Ue {j:Nat} {o o':Oper} {rest rest':List Oper} {fuel:Nat} {gV:Array Bool} {a:Act} {w:World} (hd:ops.toList.drop i=o :: rest) (hd':ops.toList.drop j=o' :: rest') (hr:Region.ready md ops gV=[i,j])
  (h:∀K':Act->World->Prop,Shut (∀a w,(i=z\/S w)->YK P md ops Q S z fuel (gV.setIfInBounds i true) a w->K' a w)->if Region.wanted o (yielded ops a.tmps)=true then Oper.wp P o a w K' Q else K' (a.put o.dst undef) w)
  (h':∀K':Act->World->Prop,Shut (∀a w,(j=z\/S w)->YK P md ops Q S z fuel (gV.setIfInBounds j true) a w->K' a w)->if Region.wanted o' (yielded ops a.tmps)=true then Oper.wp P o' a w K' Q else K' (a.put o'.dst undef) w) :
  YK P md ops Q S z (fuel+1) gV a w :=
 ⟨fun h0=>absurd (hr ▸ h0) (by simp),fun q hq=>by
  rw [hr] at hq
  have e:q=i\/q=j:=by simpa using hq
  rcases e with e | e
  ·subst e
   exact wpOp_step (Yg hd) (fun K' hK=>h K' (fun a w hS hW=>hK a w ⟨hS,hW⟩))
  ·subst e
   exact wpOp_step (Yg hd') (fun K' hK=>h' K' (fun a w hS hW=>hK a w ⟨hS,hW⟩))⟩
end
theorem zD (w:World) (cs:Array Value) (e:TypeId):(w.alloc (.cells cs e)).heap[w.heap.size]?=some (.cells cs e (0,0)):=by
 show (w.heap.push _)[w.heap.size]?=_
 simp
theorem ZQ {e:TypeId} {a b a' b':Value} (h:x.heap[g]?=some (.cells #[a,b] e (0,0))):((x.setCell (ad g 0) a').setCell (ad g 1) b').cell? (ad g 0)=some a'/\((x.setCell (ad g 0) a').setCell (ad g 1) b').cell? (ad g 1)=some b':=by
 have h0:zu x g e 2 (fun i=>if i=0 then a else b):=⟨_,h,by simp,fun i hi=>by
  obtain rfl | rfl:i=0\/i=1:=by omega
  all_goals rfl⟩
 have h1:=(h0.set 0 a' (by omega)).set 1 b' (by omega)
 exact⟨by simpa using h1.cell (i:=0) (by omega),by simpa using h1.cell (i:=1) (by omega)⟩
theorem Zg (h:y.heap[g]?=x.heap[g]?) (i:Nat):y.cell? (ad g i)=x.cell? (ad g i):=by simp [World.cell?,h]
theorem Vd (x:Int) (h0:-9223372036854775808<=x) (h1:x<=9223372036854775807):(Lit.int .i64 x).wf=true:=WalkArith.wf_i64 (by omega)
theorem zes (p0 p1 p2 q0 q1 q2 r:Int) (L:Lp) (v0 v2:Value) (bb bo bc:Nat) (P:Int) (T:List Int) (tb tz tc:Nat) (w:World) (h16:L.b.length<=16) (hbc:L.b.length<=bc) (hbm:bc<=9223372036854775807) (hbb:bb<w.heap.size) (gQ:∀i,i<L.b.length->∀j,j<9->w.cell? (ad bb (bo+i*9+j))=(zP (zc L.b i))[j]?)
  (htc:L.b.length<=tc) (hcm:tc<=9223372036854775807) (htb:tb<w.heap.size) (htimes:∀i,i<L.b.length->w.cell? (ad tb (tz+i))=sI (nth T i)) (hT:∀i,i<L.b.length->0<=nth T i/\nth T i<=1000) (hP1:1<=P) (hP2:P<=200) :
  Calls prog 89 #[.agg #[v0,.slice (some (ad bb bo)) L.b.length bc,v2],(tv p0 p1 p2 q0 q1 q2 r),.agg #[iV P,.slice (some (ad tb tz)) L.b.length tc]] w (Rt w (.bool (zC (Vc L ⟨p0,p1,p2,q0,q1,q2,r⟩ P T) L.b.length))):=by
 have HBO:=z9 gQ
 have HTI:=z9 htimes
 have HT:=z9 hT
 have hmm:=@run_makeMap prog
 have HS3:Hid ((((w.alloc (.cells #[v0,.slice (some (ad bb bo)) L.b.length bc,v2] 25)).alloc (.cells #[iV p0,iV p1,iV p2,iV q0,iV q1,iV q2,iV r] 28)).alloc (.cells #[iV P,.slice (some (ad tb tz)) L.b.length tc] 49)).heap.size=(w.heap.size+1+1+1)):=by show _=_;simp
 have HB3:=z9 (below_alloc3 w (.cells #[v0,.slice (some (ad bb bo)) L.b.length bc,v2] 25) (.cells #[iV p0,iV p1,iV p2,iV q0,iV q1,iV q2,iV r] 28) (.cells #[iV P,.slice (some (ad tb tz)) L.b.length tc] 49))
 have H0:Hid (yW (fun c s=>(xO L P T 0 c s:Int)) 0 (w.heap.size+1+1+1) ((((w.alloc (.cells #[v0,.slice (some (ad bb bo)) L.b.length bc,v2] 25)).alloc (.cells #[iV p0,iV p1,iV p2,iV q0,iV q1,iV q2,iV r] 28)).alloc (.cells #[iV P,.slice (some (ad tb tz)) L.b.length tc] 49)).alloc (.map #[] 0))):=by
  show yW _ _ _ _
  rw [<-HS3.out]
  exact (yW.made (((w.alloc (.cells #[v0,.slice (some (ad bb bo)) L.b.length bc,v2] 25)).alloc (.cells #[iV p0,iV p1,iV p2,iV q0,iV q1,iV q2,iV r] 28)).alloc (.cells #[iV P,.slice (some (ad tb tz)) L.b.length tc] 49))).congr fun c s=>rfl
 have HP3:Hid ((((w.alloc (.cells #[v0,.slice (some (ad bb bo)) L.b.length bc,v2] 25)).alloc (.cells #[iV p0,iV p1,iV p2,iV q0,iV q1,iV q2,iV r] 28)).alloc (.cells #[iV P,.slice (some (ad tb tz)) L.b.length tc] 49)).heap[w.heap.size+1+1]?=some (.cells #[iV P,.slice (some (ad tb tz)) L.b.length tc] 49 (0,0))):=by
  show _=_
  have e:((w.alloc (.cells #[v0,.slice (some (ad bb bo)) L.b.length bc,v2] 25)).alloc (.cells #[iV p0,iV p1,iV p2,iV q0,iV q1,iV q2,iV r] 28)).heap.size=w.heap.size+1+1:=by simp
  rw [<-e];exact zD _ _ _
 have HT3:Hid ((((w.alloc (.cells #[v0,.slice (some (ad bb bo)) L.b.length bc,v2] 25)).alloc (.cells #[iV p0,iV p1,iV p2,iV q0,iV q1,iV q2,iV r] 28)).alloc (.cells #[iV P,.slice (some (ad tb tz)) L.b.length tc] 49)).heap[w.heap.size+1]?=some (.cells #[iV p0,iV p1,iV p2,iV q0,iV q1,iV q2,iV r] 28 (0,0))):=by
  show _=_
  rw [Below.heap_alloc _ _ _ (by simp)]
  have e:(w.alloc (.cells #[v0,.slice (some (ad bb bo)) L.b.length bc,v2] 25)).heap.size=w.heap.size+1:=by simp
  rw [<-e];exact zD _ _ _
 clear gQ htimes hT
 go_enter func89,ntmps89
 go_wp2_with fail
 go_loopw [15] (fun i wr=>∃k:Nat,k<=L.b.length/\i=iV k/\zC (Vc L ⟨p0,p1,p2,q0,q1,q2,r⟩ P T) k=true/\Below (w.heap.size+1+1+1) (((w.alloc (.cells #[v0,.slice (some (ad bb bo)) L.b.length bc,v2] 25)).alloc (.cells #[iV p0,iV p1,iV p2,iV q0,iV q1,iV q2,iV r] 28)).alloc (.cells #[iV P,.slice (some (ad tb tz)) L.b.length tc] 49)) wr/\yW (fun c s=>(xO L P T k c s:Int)) k (w.heap.size+1+1+1) wr) (fun i _=>L.b.length - (intOf i).toNat)
 case atStart=>exact⟨0,Nat.zero_le _,rfl,rfl,(Below.refl _ _).alloc (by rw [HS3.out];exact Nat.le_refl _) _,H0.out⟩
 case round =>
  clear H0 hmm
  obtain⟨k,hk,rfl,hall,gH,hM⟩:=hrel
  have HA:=z9 hall
  have HB:=z9 gH
  have HM:=z9 hM
  have hbw:Bw w wr:=HB3.out.trans (gH.mono (by omega))
  have hsz:(w.heap.size+1+1+1)<=wr.heap.size:=by have:=gH.size;rw [HS3.out] at this;exact this
  clear hall hM
  by_cases hkl:k<L.b.length
  ·have hki:(k:Int)<(L.b.length:Int):=by omega
   obtain⟨c0,c1,c2,c3,c4,c5,c6,c7,c8⟩:=V5 (fun j hj=>(zf hbw bb (bo+k*9+j) hbb).trans (HBO.out k hkl j hj))
   have hbz:bb<wr.heap.size:=by omega
   obtain⟨tm1,tm2⟩:=HT.out k hkl
   have htk:=(zf hbw tb (tz+k) htb).trans (HTI.out k hkl)
   obtain⟨cn,hcn,hcn3⟩:=zc1 (zc L.b k).o
   have hm1:=Int.tmod_nonneg P tm1
   have hm2:=Int.tmod_lt_of_pos (nth T k) (show 0<P by omega)
   have HUS:Hid (Vc L ⟨p0,p1,p2,q0,q1,q2,r⟩ P T k=decide ((xO L P T k cn ((nth T k).tmod P):Int)+1<=ye ⟨p0,p1,p2,q0,q1,q2,r⟩ cn)):=by
    show _=_
    unfold Vc
    rw [hcn,VO,if_pos ⟨hcn.symm,rfl⟩]
    rfl
   have HNX:Hid (∀c s,(fun c' r'=>if c'=(cn:Int)/\r'=(nth T k).tmod P then (xO L P T k cn ((nth T k).tmod P):Int)+1 else (xO L P T k c' r':Int)) c s=(xO L P T (k+1) c s:Int)):=fun c s=>by
    rw [VO,hcn]
    dsimp only
    by_cases e:c=(cn:Int)/\s=(nth T k).tmod P
    ·rw [if_pos e,if_pos e,e.1,e.2];rfl
    ·rw [if_neg e,if_neg e]
   have hcc16:xO L P T k cn ((nth T k).tmod P)<=16:=Nat.le_trans (Xw _ _) (by omega)
   have HLOOK:=z9 (fun (x:World) (h:yW (fun c s=>(xO L P T k c s:Int)) k (w.heap.size+1+1+1) x)=>h.look cn ((nth T k).tmod P) (Vd _ (by omega) (by omega)) (Vd _ (by omega) (by omega)))
   have HSTEP:=z9 (fun (x:World) (h:yW (fun c s=>(xO L P T k c s:Int)) k (w.heap.size+1+1+1) x)=>h.step (by unfold maxLen;omega) cn ((nth T k).tmod P) (Vd _ (by omega) (by omega)) (Vd _ (by omega) (by omega)) ((xO L P T k cn ((nth T k).tmod P):Int)+1) (Vd _ (by omega) (by omega)))
   have HLOOK2:Hid (∀x,yW (fun c s=>(xO L P T (k+1) c s:Int)) (k+1) (w.heap.size+1+1+1) x->(Instr.lookup 194 (.map (some (w.heap.size+1+1+1))) (.agg #[iV cn,iV ((nth T k).tmod P)]) false).run prog x=.ok (iV ((xO L P T k cn ((nth T k).tmod P):Int)+1)) x):=fun x h=>by
    have h2:=h.look cn ((nth T k).tmod P) (Vd _ (by omega) (by omega)) (Vd _ (by omega) (by omega))
    rw [VO,if_pos ⟨hcn.symm,rfl⟩] at h2
    exact h2
   have HUO:=z9 (fun W=>UI (zc L.b k).o (zc L.b k).xa (zc L.b k).xb (zc L.b k).ya (zc L.b k).yb (zc L.b k).ar (zc L.b k).sp (zc L.b k).pl (zc L.b k).nn (nth T k) P W tm1 (by omega) hP1 hP2)
   rw [hcn] at HUO
   have HTG:Hid (∀x,Below (w.heap.size+1+1+1) wr x->x.cell? (ad (w.heap.size+1) cn)=sI (ye ⟨p0,p1,p2,q0,q1,q2,r⟩ cn)):=fun x hx=>by
    have hb:=((hx.block (w.heap.size+1) (by omega)).trans (HB.out.block _ (by omega))).trans HT3.out
    rw [cell_of_block hb]
    obtain rfl | rfl | rfl:cn=0\/cn=1\/cn=2:=by omega
    all_goals rfl
   obtain⟨tm,htm⟩:∃tm,nth T k=tm:=⟨_,rfl⟩
   rw [htm] at htk tm1 tm2 hm1 hm2 HUS HNX hcc16 HLOOK HSTEP HLOOK2 HUO
   obtain⟨rm,hrm⟩:∃rm,tm.tmod P=rm:=⟨_,rfl⟩
   rw [hrm] at hm1 hm2 HUS HNX hcc16 HLOOK HSTEP HLOOK2 HUO
   obtain⟨cc,hcc⟩:∃cc,xO L P T k cn rm=cc:=⟨_,rfl⟩
   rw [hcc] at HUS HNX hcc16 HLOOK HSTEP HLOOK2
   obtain⟨un,hun⟩:∃un,ye ⟨p0,p1,p2,q0,q1,q2,r⟩ (cn:Int)=un:=⟨_,rfl⟩
   rw [hun] at HUS HTG
   have HPL:Hid (wr.heap[w.heap.size+1+1]?=some (.cells #[iV P,.slice (some (ad tb tz)) L.b.length tc] 49 (0,0))):=(HB.out.block _ (by omega)).trans HP3.out
   have HXX:Hid (∃xk,zc L.b k=xk):=⟨_,rfl⟩
   generalize zc L.b k=xk at c0 c1 c2 c3 c4 c5 c6 c7 c8 HUO
   clear HXX hcn htm hrm hcc hun
   obtain⟨o,xa,xb,ya,yb,ar,sp,pl,nn⟩:=xk
   simp only at c0 c1 c2 c3 c4 c5 c6 c7 c8 HUO
   have HHELD:Hid (∀y:World,Below wr.heap.size (wr.alloc (.cells #[iV o,iV xa,iV xb,iV ya,iV yb,iV ar,iV sp,iV pl,iV nn] 41)) y->y.cell? (ad (w.heap.size+1+1) 0)=sI P/\y.cell? (ad (w.heap.size+1+1) 1)=some (.slice (some (ad tb tz)) L.b.length tc)/\y.cell? (ad tb (tz+k))=sI tm):=fun y hy=>by
    have hy2:Bw wr y:=(below_alloc1 _ _).trans hy
    have hb:=(hy2.block (w.heap.size+1+1) (by omega)).trans HPL.out
    exact⟨by rw [cell_of_block hb];rfl,by rw [cell_of_block hb];rfl,(zf hy2 _ _ (by omega)).trans htk⟩
   have HBOX:Hid (∀y:World,Below (wr.heap.size+1) (wr.alloc (.cells #[iV o,iV xa,iV xb,iV ya,iV yb,iV ar,iV sp,iV pl,iV nn] 41)) y->y.cell? (ad wr.heap.size 0)=sI o/\y.cell? (ad wr.heap.size 1)=sI xa/\y.cell? (ad wr.heap.size 2)=sI xb/\y.cell? (ad wr.heap.size 3)=sI ya/\y.cell? (ad wr.heap.size 4)=sI yb/\y.cell? (ad wr.heap.size 5)=sI ar/\y.cell? (ad wr.heap.size 6)=sI sp/\y.cell? (ad wr.heap.size 7)=sI pl/\y.cell? (ad wr.heap.size 8)=sI nn):=fun y hy=>by
    have hb:y.heap[wr.heap.size]?=some (.cells #[iV o,iV xa,iV xb,iV ya,iV yb,iV ar,iV sp,iV pl,iV nn] 41 (0,0)):=(hy.block _ (by omega)).trans (zD _ _ _)
    refine⟨?_,?_,?_,?_,?_,?_,?_,?_,?_⟩ <;> (rw [cell_of_block hb];rfl)
   have HS:Hid ((wr.alloc (.cells #[iV o,iV xa,iV xb,iV ya,iV yb,iV ar,iV sp,iV pl,iV nn] 41)).heap.size=wr.heap.size+1):=by show _=_;simp
   have HSE:Hid (∀y:World,Below (wr.heap.size+1) (wr.alloc (.cells #[iV o,iV xa,iV xb,iV ya,iV yb,iV ar,iV sp,iV pl,iV nn] 41)) y->(y.cell? (ad (w.heap.size+1+1) 0)=sI P/\y.cell? (ad (w.heap.size+1+1) 1)=some (.slice (some (ad tb tz)) L.b.length tc)/\y.cell? (ad tb (tz+k))=sI tm)/\(y.cell? (ad wr.heap.size 0)=sI o/\y.cell? (ad wr.heap.size 1)=sI xa/\y.cell? (ad wr.heap.size 2)=sI xb/\y.cell? (ad wr.heap.size 3)=sI ya/\y.cell? (ad wr.heap.size 4)=sI yb/\y.cell? (ad wr.heap.size 5)=sI ar/\y.cell? (ad wr.heap.size 6)=sI sp/\y.cell? (ad wr.heap.size 7)=sI pl/\y.cell? (ad wr.heap.size 8)=sI nn)):=fun y hy=>⟨HHELD.out y (hy.mono (by omega)),HBOX.out y hy⟩
   have HBAL:Hid (Bw wr (wr.alloc (.cells #[iV o,iV xa,iV xb,iV ya,iV yb,iV ar,iV sp,iV pl,iV nn] 41))):=below_alloc1 _ _
   clear gH hbw htk HHELD HBOX
   go_wp2_with fail
   clear c0 c1 c2 c3 c4 c5 c6 c7 c8
   refine wp_region_noPanic ?_
   refine zm 10 (fun w'=>(w'.cell? (ad (w.heap.size+1+1) 0)=sI P/\w'.cell? (ad (w.heap.size+1+1) 1)=some (.slice (some (ad tb tz)) L.b.length tc)/\w'.cell? (ad tb (tz+k))=sI tm)/\(w'.cell? (ad wr.heap.size 0)=sI o/\w'.cell? (ad wr.heap.size 1)=sI xa/\w'.cell? (ad wr.heap.size 2)=sI xb/\w'.cell? (ad wr.heap.size 3)=sI ya/\w'.cell? (ad wr.heap.size 4)=sI yb/\w'.cell? (ad wr.heap.size 5)=sI ar/\w'.cell? (ad wr.heap.size 6)=sI sp/\w'.cell? (ad wr.heap.size 7)=sI pl/\w'.cell? (ad wr.heap.size 8)=sI nn)) (by kernel_rfl) (HSE.out _ (zI _ _)) (fun h9=>?_)
   refine uk 0 h9 ?_
   refine uk 1 h9 ?_
   refine uk 2 h9 ?_
   refine uk 3 h9 ?_
   refine uk 4 h9 ?_
   refine uk 5 h9 ?_
   refine uk 6 h9 ?_
   refine uk 7 h9 ?_
   refine Ue (i:=8) (j:=9) rfl rfl (by kernel_rfl) (fun K hK=>?a1) (fun K hK=>?a2)
   case' a1 =>
    go_simp
    refine (HUO.out _).mono ?_
    rintro e x1 ⟨rfl,hb1⟩
    have hB1:Below (wr.heap.size+1) (wr.alloc (.cells #[iV o,iV xa,iV xb,iV ya,iV yb,iV ar,iV sp,iV pl,iV nn] 41)) x1:=(zI _ _).trans (hb1.mono (by show _<=(wr.alloc (.cells #[iV o,iV xa,iV xb,iV ya,iV yb,iV ar,iV sp,iV pl,iV nn] 41)).heap.size;rw [HS.out];exact Nat.le_refl _))
    have HB1:=z9 hB1
    have h9:=HSE.out _ hB1
    have hsx:wr.heap.size+1<=x1.heap.size:=by have:=hB1.size;rw [HS.out] at this;exact this
    clear hb1 hB1
    refine nxt hK.out (.inr h9) ?_
    clear hK K
    have HBX:Hid (Below (wr.heap.size+1) (wr.alloc (.cells #[iV o,iV xa,iV xb,iV ya,iV yb,iV ar,iV sp,iV pl,iV nn] 41)) (x1.alloc (.cells #[iV 0,iV 0] 195))):=HB1.out.alloc hsx _
    have gX:=HSE.out _ HBX.out
    refine ze (i:=9) rfl (by kernel_rfl) (fun K hK=>?_)
    go_simp
    refine nxt hK.out (.inr gX) ?_
    clear hK K
    refine ze (i:=10) rfl (by kernel_rfl) (fun K hK=>?_)
    go_simp
    refine nxt hK.out (.inl rfl) ?_
    clear hK K
    refine zq (by kernel_rfl) ?_ _
    refine NoPanic.normal ?_
    clear h9 gX
    have HW:Hid (Below (wr.heap.size+1) (wr.alloc (.cells #[iV o,iV xa,iV xb,iV ya,iV yb,iV ar,iV sp,iV pl,iV nn] 41)) (x1.alloc (.cells #[iV cn,iV rm] 195))):=HB1.out.alloc hsx _
    have HU0:Hid ((x1.alloc (.cells #[iV cn,iV rm] 195)).heap[x1.heap.size]?=some (.cells #[iV cn,iV rm] 195 (0,0))):=zD _ _ _
    have HU:Hid ((x1.alloc (.cells #[iV cn,iV rm] 195)).cell? (ad x1.heap.size 0)=sI cn/\(x1.alloc (.cells #[iV cn,iV rm] 195)).cell? (ad x1.heap.size 1)=sI rm/\x1.heap.size<(x1.alloc (.cells #[iV cn,iV rm] 195)).heap.size):=⟨by rw [cell_of_block HU0.out];rfl,by rw [cell_of_block HU0.out];rfl,by simp⟩
    clear HU0 HBX HB1
    generalize (x1.alloc (.cells #[iV cn,iV rm] 195))=W at *
    generalize hub:x1.heap.size=ub at *
    clear hub
   case' a2 =>
    go_simp
    have hBA:Below (wr.heap.size+1) (wr.alloc (.cells #[iV o,iV xa,iV xb,iV ya,iV yb,iV ar,iV sp,iV pl,iV nn] 41)) ((wr.alloc (.cells #[iV o,iV xa,iV xb,iV ya,iV yb,iV ar,iV sp,iV pl,iV nn] 41)).drew.alloc (.cells #[iV 0,iV 0] 195)):=(zI _ _).alloc (by show _<=(wr.alloc (.cells #[iV o,iV xa,iV xb,iV ya,iV yb,iV ar,iV sp,iV pl,iV nn] 41)).heap.size;rw [HS.out];exact Nat.le_refl _) _
    have gY:=HSE.out _ hBA
    refine nxt hK.out (.inr gY) ?_
    clear hK K
    refine ze (i:=8) rfl (by kernel_rfl) (fun K hK=>?_)
    go_simp
    refine (HUO.out _).mono ?_
    rintro e x1 ⟨rfl,hb1⟩
    have HN0:Hid (((wr.alloc (.cells #[iV o,iV xa,iV xb,iV ya,iV yb,iV ar,iV sp,iV pl,iV nn] 41)).drew.alloc (.cells #[iV 0,iV 0] 195)).heap[wr.heap.size+1]?=some (.cells #[iV 0,iV 0] 195 (0,0))):=by
     show _=_
     have e:(wr.alloc (.cells #[iV o,iV xa,iV xb,iV ya,iV yb,iV ar,iV sp,iV pl,iV nn] 41)).drew.heap.size=wr.heap.size+1:=HS.out
     rw [<-e];exact zD _ _ _
    have hz:wr.heap.size+1+1<=((wr.alloc (.cells #[iV o,iV xa,iV xb,iV ya,iV yb,iV ar,iV sp,iV pl,iV nn] 41)).drew.alloc (.cells #[iV 0,iV 0] 195)).heap.size:=by
     have e:((wr.alloc (.cells #[iV o,iV xa,iV xb,iV ya,iV yb,iV ar,iV sp,iV pl,iV nn] 41)).drew.alloc (.cells #[iV 0,iV 0] 195)).heap.size=(wr.alloc (.cells #[iV o,iV xa,iV xb,iV ya,iV yb,iV ar,iV sp,iV pl,iV nn] 41)).heap.size+1:=by simp
     rw [e,HS.out];exact Nat.le_refl _
    have HN1:Hid (x1.heap[wr.heap.size+1]?=some (.cells #[iV 0,iV 0] 195 (0,0))):=(hb1.block _ (Nat.lt_of_lt_of_le (Nat.lt_succ_self _) hz)).trans HN0.out
    have HB1:Hid (Below (wr.heap.size+1) (wr.alloc (.cells #[iV o,iV xa,iV xb,iV ya,iV yb,iV ar,iV sp,iV pl,iV nn] 41)) x1):=hBA.trans (hb1.mono (Nat.le_trans (Nat.le_succ _) hz))
    have gX:=HSE.out _ HB1.out
    have hsx:wr.heap.size+1+1<=x1.heap.size:=Nat.le_trans hz hb1.size
    clear hb1 hBA h9 hz
    refine nxt hK.out (.inr gX) ?_
    clear hK K
    have n0:x1.cell? (ad (wr.heap.size+1) 0)=sI 0:=by rw [cell_of_block HN1.out];rfl
    have n1:x1.cell? (ad (wr.heap.size+1) 1)=sI 0:=by rw [cell_of_block HN1.out];rfl
    have f0:x1.frozen? (ad (wr.heap.size+1) 0)=false:=by simp [World.frozen?,HN1.out]
    have f1:x1.frozen? (ad (wr.heap.size+1) 1)=false:=by simp [World.frozen?,HN1.out]
    refine ze (i:=10) rfl (by kernel_rfl) (fun K hK=>?_)
    go_simp
    refine nxt hK.out (.inl rfl) ?_
    clear hK K
    refine zq (by kernel_rfl) ?_ _
    refine NoPanic.normal ?_
    clear gY gX n0 n1 f0 f1
    have HW:Hid (Below (wr.heap.size+1) (wr.alloc (.cells #[iV o,iV xa,iV xb,iV ya,iV yb,iV ar,iV sp,iV pl,iV nn] 41)) ((x1.setCell (ad (wr.heap.size+1) 0) (iV cn)).setCell (ad (wr.heap.size+1) 1) (iV rm))):=(HB1.out.setCell (Nat.le_refl _) _).setCell (Nat.le_refl _) _
    have HU:Hid (((x1.setCell (ad (wr.heap.size+1) 0) (iV cn)).setCell (ad (wr.heap.size+1) 1) (iV rm)).cell? (ad (wr.heap.size+1) 0)=sI cn/\((x1.setCell (ad (wr.heap.size+1) 0) (iV cn)).setCell (ad (wr.heap.size+1) 1) (iV rm)).cell? (ad (wr.heap.size+1) 1)=sI rm/\wr.heap.size+1<((x1.setCell (ad (wr.heap.size+1) 0) (iV cn)).setCell (ad (wr.heap.size+1) 1) (iV rm)).heap.size):=⟨(ZQ HN1.out).1,(ZQ HN1.out).2,by simp;omega⟩
    clear HN0 HN1 HB1
    generalize ((x1.setCell (ad (wr.heap.size+1) 0) (iV cn)).setCell (ad (wr.heap.size+1) 1) (iV rm))=W at *
    clear hsx
    generalize hub:wr.heap.size+1=ub at HU ⊢
    have hsx:wr.heap.size+1<=ub:=by omega
    clear hub
   all_goals
    obtain⟨u0,u1,uz⟩:=HU.out
    have HBWr:Hid (Bw wr W):=HBAL.out.trans (HW.out.mono (by omega))
    have HMW:Hid (yW (fun c s=>(xO L P T k c s:Int)) k (w.heap.size+1+1+1) W.drew):=(HM.out.gE HBWr.out).gE (zI _ _)
    have hmb:(w.heap.size+1+1+1)<wr.heap.size:=HM.out.lt
    obtain⟨ve,stp,w1,e1,e2,e3,w3,f1,f2,f3⟩:=HSTEP.out _ HMW.out
    have hcn3i:(cn:Int)<3:=by omega
    have hwr:IntKind.i64.wrap ((cc:Int)+1)=(cc:Int)+1:=xw _ (by omega) (by omega)
    have hk1:w1.heap[ub]?=W.heap[ub]?:=e2.block ub uz (by intro e;have:=Option.some.inj e;omega)
    have hk3:w3.heap[ub]?=W.heap[ub]?:=(f2.block ub (Nat.lt_of_lt_of_le uz e2.size) (by intro e;have:=Option.some.inj e;omega)).trans hk1
    have HM3:Hid (yW (fun c s=>(xO L P T (k+1) c s:Int)) (k+1) (w.heap.size+1+1+1) w3):=f3.congr HNX.out
    have HW3:Hid (Below (w.heap.size+1+1+1) wr w3):=((HBWr.out.mono (by omega)).drew.grown e2 (by have:=HBWr.out.size;show _<=W.heap.size;omega) (fun q hq=>by have:=Option.some.inj hq;omega)).grown f2 (Nat.le_trans (by have:=HBWr.out.size;omega:(w.heap.size+1+1+1)<=W.heap.size) e2.size) (fun q hq=>by have:=Option.some.inj hq;omega)
    have H6:Hid (W.drew.cell? (ad ub 0)=sI cn/\W.drew.cell? (ad ub 1)=sI rm/\(Instr.lookup 194 (.map (some (w.heap.size+1+1+1))) (.agg #[iV cn,iV rm]) false).run prog W.drew=.ok (iV cc) W.drew):=⟨u0,u1,HLOOK.out _ HMW.out⟩
    have H61:Hid (w1.cell? (ad ub 0)=sI cn/\w1.cell? (ad ub 1)=sI rm/\(Instr.lookup 194 (.map (some (w.heap.size+1+1+1))) (.agg #[iV cn,iV rm]) false).run prog w1=.ok (iV cc) w1):=⟨(Zg hk1 _).trans u0,(Zg hk1 _).trans u1,e3⟩
    have H7:Hid (w3.drew.cell? (ad ub 0)=sI cn/\w3.drew.cell? (ad ub 1)=sI rm/\w3.drew.cell? (ad (w.heap.size+1) cn)=sI un/\(Instr.lookup 194 (.map (some (w.heap.size+1+1+1))) (.agg #[iV cn,iV rm]) false).run prog w3.drew=.ok (iV ((cc:Int)+1)) w3.drew):=⟨(Zg hk3 _).trans u0,(Zg hk3 _).trans u1,HTG.out _ HW3.out.drew,HLOOK2.out _ (HM3.out.gE (zI _ _))⟩
    clear u0 u1 e2 e3 f2 f3 hk1 hk3 HU
    go_wp2_with fail
    refine wp_region_noPanic ?_
    refine zm 6 (fun w'=>w'.cell? (ad ub 0)=sI cn/\w'.cell? (ad ub 1)=sI rm/\(Instr.lookup 194 (.map (some (w.heap.size+1+1+1))) (.agg #[iV cn,iV rm]) false).run prog w'=.ok (iV cc) w') (by kernel_rfl) H6.out (fun h9=>?_)
    refine uk 0 h9 ?_
    refine uk 1 h9 ?_
    refine uk 2 h9 ?_
    refine uk 3 h9 ?_
    refine ze (i:=4) rfl (by kernel_rfl) (fun K hK=>?_)
    go_simp
    have h9:=H61.out
    refine nxt hK.out (.inr h9) ?_
    clear hK K
    refine uk 5 h9 ?_
    refine ze (i:=6) rfl (by kernel_rfl) (fun K hK=>?_)
    go_simp
    refine nxt hK.out (.inl rfl) ?_
    clear hK K
    refine zq (by kernel_rfl) ?_ _
    refine NoPanic.normal ?_
    clear e1 f1 h9 H6 H61
    obtain⟨bd,hbd⟩:∃bd,decide (un<(cc:Int)+1)=bd:=⟨_,rfl⟩
    have HBD:Hid (Vc L ⟨p0,p1,p2,q0,q1,q2,r⟩ P T k=!bd):=by
     show _=_
     rw [HUS.out,<-hbd]
     by_cases h:un<(cc:Int)+1
     ·rw [decide_eq_true h,decide_eq_false (by omega)];rfl
     ·rw [decide_eq_false h,decide_eq_true (by omega)];rfl
    go_wp2_with fail
    refine wp_region_noPanic ?_
    refine zm 99 (fun w'=>w'.cell? (ad ub 0)=sI cn/\w'.cell? (ad ub 1)=sI rm/\w'.cell? (ad (w.heap.size+1) cn)=sI un/\(Instr.lookup 194 (.map (some (w.heap.size+1+1+1))) (.agg #[iV cn,iV rm]) false).run prog w'=.ok (iV ((cc:Int)+1)) w') (by kernel_rfl) H7.out (fun h9=>?_)
    refine uk 0 h9 ?_
    refine uk 1 h9 ?_
    refine uk 2 h9 ?_
    refine uk 3 h9 ?_
    refine uk 4 h9 ?_
    refine uk 5 h9 ?_
    refine uk 6 h9 ?_
    refine uk 7 h9 ?_
    refine uk 8 h9 ?_
    refine zq (by kernel_rfl) ?_ _
    refine NoPanic.normal ?_
    clear h9 H7
    have HBW:Hid (Bw w w3.drew):=HB3.out.trans ((HB.out.trans HW3.out.drew).mono (by omega))
    cases bd with
    | true =>
      have HF:Hid (zC (Vc L ⟨p0,p1,p2,q0,q1,q2,r⟩ P T) L.b.length=false):=zZ hkl HBD.out
      go_wp2_with fail
      go_ret
      exact⟨zg HF.out.symm,HBW.out⟩
    | false =>
      go_wp2_with fail
      go_roundw
      case rel=>exact⟨k+1,by omega,by go_num,yl HA.out HBD.out,HB.out.trans HW3.out.drew,HM3.out.gE (zI _ _)⟩
      case measure=>simp [intOf];omega
  ·have e:k=L.b.length:=by omega
   subst e
   have hki:¬(L.b.length:Int)<(L.b.length:Int):=by omega
   have HBW:=z9 hbw
   clear hbw gH
   go_wp2_with fail
   go_ret
   exact⟨zg HA.out.symm,HBW.out⟩
end
end Go.Proofs.YtjoapiafpahihabGreat
