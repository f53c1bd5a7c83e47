import Derived.Test.YtjoapiafpahihabGreatSchedB
import Derived.Test.YtjoapiafpahihabGreatCheckB
set_option maxHeartbeats 20000000
namespace Go.Proofs.YtjoapiafpahihabGreat
open Go.Proofs.Tryz
set_option linter.unusedVariables false
open Go.RowKit Go.Joins
set_option linter.unusedSimpArgs false
set_option maxRecDepth 8192
variable {a m lb g q r:Nat} {e p d tn:Int} {Ev:Nat->Nat->Int->Prop} {f:Nat->Value}
section
structure Lf where
 rd:Nat->Int
 un:Nat->Int
 bk:Nat->Int
 ou:Nat->Bool
def zb5 (l:Lf) (P:Int) (a m:Nat):Int:=if m=a then 1 else -((l.rd m - l.rd a) / P)
def Zo (l:Lf) (P:Int) (a m:Nat):Int:=if 0<l.bk a then min (zb5 l P a m) 1 else zb5 l P a m
def Ug (l:Lf) (P:Int) (a m:Nat):Int:=if l.ou a=true then max ((l.un a - l.rd m) / P) 0 else (l.un a - l.rd m) / P
def EvT (l:Lf) (P R:Int) (a m:Nat) (on:Int):Prop:=Zo l P a m<=on/\on<=Ug l P a m/\on<=Zo l P a m+R - 1
def EvS (l:Lf) (a m:Nat) (on:Int):Prop:=∃q r:Nat,(q:Int)<l.bk a/\(r:Int)<l.bk m/\(a≠m\/q≠r)/\on=(q:Int) - r
def EvR (l:Lf) (P R:Int) (a m:Nat) (on:Int):Prop:=EvT l P R a m on\/EvS l a m on
def Ui (n:Nat) (R:Int) (Ev:Nat->Nat->Int->Prop) (B:Nat->Nat->Nat->Bool):Prop :=
 ∀a m,a<n->m<n->∀d:Nat,(d:Int)<R->(B a m d=true↔∃on,(Ev a m on/\on % R=d)\/(Ev m a on/\(-on) % R=d))
def zam (u:List (Int × Int)) (a P tm:Int) (f:Int):Nat->Int
 | 0=>f
 | k+1=>if (zy u k).1=a/\zam u a P tm f k<tm+(zy u k).2*P then tm+(zy u k).2*P else zam u a P tm f k
def UJ (L:Lp) (t:Tg) (P:Int) (T:List Int) (a:Nat):Nat->Int
 | 0=>nth T a+zO t (zc L.b a).o - 1
 | k+1=>zam (zj (zc L.b k)) a P (nth T k) (UJ L t P T a k) (zj (zc L.b k)).length
def zmm (outs:List Int) (a:Nat):Nat->Bool
 | 0=>false
 | k+1=>zmm outs a k || decide (nth outs k=(a:Int))
def yT (L:Lp) (t:Tg) (P:Int) (T:List Int):Lf :=
 ⟨fun a=>nth T a+zO t (zc L.b a).o,fun a=>UJ L t P T a L.b.length,fun a=>Vw L a,fun a=>zmm L.o a L.o.length⟩
theorem zhy (u:List (Int × Int)) (a P tm f:Int):∀k,f<=zam u a P tm f k:=by
 intro k
 induction k with
 | zero=>exact Int.le_refl _
 | succ k ih =>
   rw [zam]
   split <;> omega
theorem zz0 (u:List (Int × Int)) (a P tm f:Int):∀k i,i<k->(zy u i).1=a->tm+(zy u i).2*P<=zam u a P tm f k:=by
 intro k
 induction k with
 | zero=>intro i h;omega
 | succ k ih =>
   intro i h he
   rw [zam]
   by_cases e:i=k
   ·subst e;split <;> omega
   ·have:=ih i (by omega) he
    split <;> omega
theorem zku (u:List (Int × Int)) (a P tm f c:Int) (hf:f<=c) (hu:∀i,i<u.length->(zy u i).1=a->tm+(zy u i).2*P<=c):∀k,k<=u.length->zam u a P tm f k<=c:=by
 intro k
 induction k with
 | zero=>intro _;exact hf
 | succ k ih =>
   intro h
   have h1:=ih (by omega)
   rw [zam]
   split
   ·rename_i he
    have:=hu k (by omega) he.1
    omega
   ·exact h1
theorem zp7 (L:Lp) (t:Tg) (P:Int) (T:List Int) (a:Nat):∀k,nth T a+zO t (zc L.b a).o - 1<=UJ L t P T a k:=by
 intro k
 induction k with
 | zero=>exact Int.le_refl _
 | succ k ih=>exact Int.le_trans ih (zhy _ _ _ _ _ _)
theorem zyz (L:Lp) (t:Tg) (P:Int) (T:List Int) (a:Nat):∀k s,s<k->∀i,i<(zj (zc L.b s)).length->(zy (zj (zc L.b s)) i).1=a->nth T s+(zy (zj (zc L.b s)) i).2*P<=UJ L t P T a k:=by
 intro k
 induction k with
 | zero=>intro s h;omega
 | succ k ih =>
   intro s h i hi he
   by_cases e:s=k
   ·subst e;exact zz0 _ _ _ _ _ _ i hi he
   ·exact Int.le_trans (ih s (by omega) i hi he) (zhy _ _ _ _ _ _)
theorem ze6 (L:Lp) (t:Tg) (P:Int) (T:List Int) (a:Nat) (c:Int) (h0:nth T a+zO t (zc L.b a).o - 1<=c) (n:Nat) (hu:∀s,s<n->∀i,i<(zj (zc L.b s)).length->(zy (zj (zc L.b s)) i).1=(a:Int)->nth T s+(zy (zj (zc L.b s)) i).2*P<=c):∀k,k<=n->UJ L t P T a k<=c:=by
 intro k
 induction k with
 | zero=>intro _;exact h0
 | succ k ih =>
   intro h
   exact zku _ _ _ _ _ c (ih (by omega)) (hu k (by omega)) _ (Nat.le_refl _)
theorem zyg {outs:List Int}:∀k i,i<k->nth outs i=(a:Int)->zmm outs a k=true:=by
 intro k
 induction k with
 | zero=>intro i h;omega
 | succ k ih =>
   intro i h he
   show (_ || _)=true
   by_cases e:i=k
   ·subst e;rw [decide_eq_true he,Bool.or_true]
   ·rw [ih i (by omega) he,Bool.true_or]
theorem zo7 (l:Lf) (P:Int) (a m:Nat):Zo l P a m<=zb5 l P a m:=by
 unfold Zo
 split <;> omega
theorem zo0 {n:Nat} {l:Lf} {P R:Int} {B:Nat->Nat->Nat->Bool} (hR:1<=R) (hB:Ui n R (EvR l P R) B) (ha:a<n) (hm:m<n) {j:Int} (h1:Zo l P a m<=j) (h2:j<=Ug l P a m):B a m (j % R).toNat=true:=by
 have hj0:=Int.emod_nonneg j (show R≠0 by omega)
 have hj1:=Int.emod_lt_of_pos j (show 0<R by omega)
 refine (hB a m ha hm _ (by omega)).2 ⟨Zo l P a m+(j - Zo l P a m) % R,.inl ⟨.inl ⟨?_,?_,?_⟩,?_⟩⟩
 ·have:=Int.emod_nonneg (j - Zo l P a m) (show R≠0 by omega);omega
 ·have:=mod_le (a:=j - Zo l P a m) (r:=R) (by omega) (by omega);omega
 ·have:=Int.emod_lt_of_pos (j - Zo l P a m) (show 0<R by omega);omega
 ·rw [Int.add_emod_emod,show Zo l P a m+(j - Zo l P a m)=j by omega];omega
section
variable {L:Lp} {t:Tg} {P:Int} {T D:List Int}
theorem zis (h:zV L t P T=true) (hd:xj L t D=true):xD L t (zR L t P T D) (yI L.b.length)=true/\∀s,s<L.b.length ->
  opJ (zR L t P T D) (yI L.b.length) s=opE L t P T D s/\yD (zR L t P T D) (yI L.b.length) s=nth T s/\zF t (zR L t P T D) (yI L.b.length) s=nth T s+zO t (zc L.b s).o/\zr (zR L t P T D) (yI L.b.length) s=nth D s+nth T s / P:=by
 obtain⟨h1,h2,h3,h4,h5,h6,h7⟩:=yd h
 have hord:∀s,s<L.b.length->yF (yI L.b.length) s=s:=fun s hs=>by unfold yF;rw [zab hs];exact Int.toNat_natCast s
 have hop:∀s,s<L.b.length->opJ (zR L t P T D) (yI L.b.length) s=opE L t P T D s:=fun s hs=>by unfold opJ;rw [hord s hs,UW hs]
 have htime:∀s,s<L.b.length->yD (zR L t P T D) (yI L.b.length) s=nth T s:=fun s hs=>by
  unfold yD
  rw [hop s hs]
  show nth T s % P+P*(nth T s / P)=nth T s
  exact Int.emod_add_mul_ediv _ _
 refine⟨?_,fun s hs=>⟨hop s hs,htime s hs,?_,?_⟩⟩
 ·unfold xD
  rw [h1,h2,ztr h hd,YR,VD]
  simp only [decide_true,Bool.true_and]
  refine zL fun s hs=>?_
  rw [Bool.and_eq_true]
  constructor
  ·unfold ZD
   rw [zab hs,yf (by omega)]
   refine (Bool.true_and _).trans (zL fun i hi=>?_)
   rw [zab (by omega),decide_eq_false (by omega)];rfl
  ·unfold Yz
   rw [hop s hs]
   simp [opE]
 ·unfold zF
  rw [htime s hs,hop s hs];rfl
 ·unfold zr
  rw [hop s hs];rfl
theorem zls (h:zV L t P T=true) (hd:xj L t D=true)
  (hk:∀s,s<L.b.length->∀i,i<(zj (zc L.b s)).length->∀m,m<L.b.length->xq t (zR L t P T D) (yI L.b.length) (zy (zj (zc L.b s)) i).1.toNat (zy (zj (zc L.b s)) i).2 (nth T s+(zy (zj (zc L.b s)) i).2*P) m=false)
  (hb:Zw L t (zR L t P T D) (yI L.b.length)=true)
  (ho:∀i,i<L.o.length->∀m,m<L.b.length->xN t (zR L t P T D) (yI L.b.length) (nth L.o i).toNat m=false):zQ L t (zR L t P T D) (yI L.b.length)=true:=by
 obtain⟨h1,h2,h3,h4,h5,h6,h7⟩:=yd h
 obtain⟨hl,hall⟩:=zis h hd
 rw [zdx hl,hb]
 have hw:XC L t (zR L t P T D) (yI L.b.length)=true:=by
  refine zL fun i hi=>?_
  have he:zM (zi L t) i∈zi L t:=by unfold zM;rw [List.getD,List.getElem?_eq_getElem hi];exact List.getElem_mem _
  obtain⟨fr,to,bk,wt,e,f1,f2,-⟩:=Zc h1 _ he
  have h8:=of_decide_eq_true (zo h7 i hi)
  refine decide_eq_true ?_
  rw [e] at h8 ⊢
  simp only [Int.toNat_natCast] at h8 ⊢
  rw [(hall fr f1).2.1,(hall to f2).2.1]
  exact h8
 have hn:YW L t (zR L t P T D) (yI L.b.length)=true:=by
  refine zL (Ub.2 fun x hx=>?_)
  obtain⟨s,hs,i,hi,rfl⟩:=Yc.1 hx
  obtain⟨r1,r2,r3,r4⟩:=Ze h1 hs _ (Zi hi)
  have hul:(zj (zc L.b s)).length<=2:=by
   unfold zj
   split
   ·simp
   ·split <;> simp
  refine decide_eq_true ?_
  show (if i=1 then (opJ (zR L t P T D) (yI L.b.length) s).b else (opJ (zR L t P T D) (yI L.b.length) s).a)=(zr (zR L t P T D) (yI L.b.length) (zy (zj (zc L.b s)) i).1.toNat - (zy (zj (zc L.b s)) i).2 - (opJ (zR L t P T D) (yI L.b.length) s).sg) % t.r
  rw [(hall s hs).1,(hall _ (show (zy (zj (zc L.b s)) i).1.toNat<L.b.length by omega)).2.2.2]
  have hi2:i=0\/i=1:=by omega
  rcases hi2 with rfl | rfl
  ·rw [if_neg (by omega)]
   show (if 0<(zj (zc L.b s)).length then ZO L t P T D s 0 else 0)=_
   rw [if_pos hi];rfl
  ·rw [if_pos rfl]
   show (if 1<(zj (zc L.b s)).length then ZO L t P T D s 1 else 0)=_
   rw [if_pos hi];rfl
 have hkp:Yu L t (zR L t P T D) (yI L.b.length)=true:=by
  refine zL (Ub.2 fun x hx=>?_)
  obtain⟨s,hs,i,hi,rfl⟩:=Yc.1 hx
  refine zL fun m hm=>?_
  have h8:=hk s hs i hi m hm
  have e:xq t (zR L t P T D) (yI L.b.length) (xu L (zR L t P T D) (yI L.b.length) s i).ra.toNat (xu L (zR L t P T D) (yI L.b.length) s i).rb ((xu L (zR L t P T D) (yI L.b.length) s i).tm+(xu L (zR L t P T D) (yI L.b.length) s i).rb*(zR L t P T D).pc) m=false:=by
   show xq t (zR L t P T D) (yI L.b.length) (zy (zj (zc L.b s)) i).1.toNat (zy (zj (zc L.b s)) i).2 (yD (zR L t P T D) (yI L.b.length) s+(zy (zj (zc L.b s)) i).2*P) m=false
   rw [(hall s hs).2.1];exact h8
  rw [e];rfl
 have he:Ve L t (zR L t P T D) (yI L.b.length)=true:=by
  refine zL fun i hi=>zL fun m hm=>?_
  rw [ho i hi m hm];rfl
 rw [hw,hn,hkp,he];rfl
theorem zhm (h:zV L t P T=true) (hd:xj L t D=true) {B:Nat->Nat->Nat->Bool} {Q:Nat->Int} (hB:Ui L.b.length t.r (EvR (yT L t P T) P t.r) B)
  (hself:∀a,a<L.b.length->B a a 0=false) (hpair:∀a m,a<L.b.length->m<L.b.length->a≠m->B a m ((Q a - Q m) % t.r).toNat=false)
  (hD:∀s,s<L.b.length->nth D s=(Q s - nth T s / P) % t.r):zQ L t (zR L t P T D) (yI L.b.length)=true:=by
 obtain⟨h1,h2,h3,h4,h5,h6,h7⟩:=yd h
 obtain⟨hl,hall⟩:=zis h hd
 have hR:1<=t.r:=(yz hl).1.2.2
 have hpl:∀a m,a<L.b.length->m<L.b.length->(zr (zR L t P T D) (yI L.b.length) a - zr (zR L t P T D) (yI L.b.length) m) % t.r=(Q a - Q m) % t.r:=fun a m ha hm=>by
  rw [(hall a ha).2.2.2,(hall m hm).2.2.2,hD a ha,hD m hm]
  have e1:=Int.emod_add_mul_ediv (Q a - nth T a / P) t.r
  have e2:=Int.emod_add_mul_ediv (Q m - nth T m / P) t.r
  have e3:(Q a - nth T a / P) % t.r+nth T a / P - ((Q m - nth T m / P) % t.r+nth T m / P)=(Q a - Q m)+t.r*((Q m - nth T m / P) / t.r - (Q a - nth T a / P) / t.r):=by
   rw [Int.mul_sub];omega
  rw [e3,Int.add_mul_emod_self_left]
 have key:∀a m,a<L.b.length->m<L.b.length->∀j,B a m (j % t.r).toNat=true->¬(zr (zR L t P T D) (yI L.b.length) m+j - zr (zR L t P T D) (yI L.b.length) a) % t.r=0:=by
  intro a m ha hm j hj hz
  have e1:(zr (zR L t P T D) (yI L.b.length) a - zr (zR L t P T D) (yI L.b.length) m) % t.r=j % t.r:=by
   refine (Int.emod_eq_emod_iff_emod_sub_eq_zero.2 ?_).symm
   rw [<-hz];congr 1;omega
  by_cases e:a=m
  ·subst e
   rw [Int.sub_self,Int.zero_emod] at e1
   rw [<-e1] at hj
   have:=hself a ha
   rw [Int.toNat_zero] at hj
   rw [this] at hj;cases hj
  ·have h8:=hpair a m ha hm e
   rw [<-hpl a m ha hm,e1,hj] at h8
   cases h8
 refine zls h hd (fun s hs i hi m hm=>?_) ?_ (fun i hi m hm=>?_)
 ·obtain⟨r1,r2,r3,r4⟩:=Ze h1 hs _ (Zi hi)
  have hra:(zy (zj (zc L.b s)) i).1=((zy (zj (zc L.b s)) i).1.toNat:Int):=by omega
  have hun:=zyz L t P T (zy (zj (zc L.b s)) i).1.toNat L.b.length s hs i hi hra
  have hfa:(zy (zj (zc L.b s)) i).2<=Vw L ((zy (zj (zc L.b s)) i).1.toNat:Int):=zo6 L _ L.b.length s hs i hi hra
  generalize zy (zj (zc L.b s)) i=r at *
  have ha:r.1.toNat<L.b.length:=by omega
  generalize r.1.toNat=a at *
  refine Bool.eq_false_iff.2 fun hme=>?_
  obtain⟨j,j1,j2,j3⟩:=(VB (by omega)).1 hme
  refine key a m ha hm j (zo0 hR hB ha hm ?_ ?_) j3
  ·refine Int.le_trans ?_ j1
   have hno:Xe t (zR L t P T D) (yI L.b.length) a m=zb5 (yT L t P T) P a m:=by
    unfold Xe zb5
    rw [(hall m hm).2.2.1,(hall a ha).2.2.1];rfl
   unfold zxr
   rw [hno]
   by_cases hb:0<r.2
   ·rw [if_pos hb]
    unfold Zo
    rw [if_pos (show 0<(yT L t P T).bk a by show 0<Vw L a;omega)]
    exact Int.le_refl _
   ·rw [if_neg hb];exact zo7 _ _ _ _
  ·refine Int.le_trans j2 ?_
   unfold zuj Ug
   rw [(hall m hm).2.2.1]
   have hle:(nth T s+r.2*P - (nth T m+zO t (zc L.b m).o)) / P<=((yT L t P T).un a - (yT L t P T).rd m) / P:=Int.ediv_le_ediv (by omega) (by show _<=UJ L t P T a L.b.length - (nth T m+zO t (zc L.b m).o);omega)
   have hle:(nth T s+r.2*P - (nth T m+zO t (zc L.b m).o)) / (zR L t P T D).pc<=((yT L t P T).un a - (yT L t P T).rd m) / P:=hle
   split <;> omega
 ·refine zL fun j hj=>zL fun i hi=>?_
  have hlen:(xl L t (zR L t P T D) (yI L.b.length) L.b.length).length=Yw (yg L) L.b.length:=za0 _ _ _
  obtain⟨s,q,s1,q1,rfl⟩:=UZ (yg L) L.b.length i (by omega)
  obtain⟨s',q',s2,q2,rfl⟩:=UZ (yg L) L.b.length j (by omega)
  have e1:nth (xl L t (zR L t P T D) (yI L.b.length) L.b.length) (Yw (yg L) s+q)=YS t (zR L t P T D) (yI L.b.length) s q:=YE _ _ _ _ _ s1 q1
  have e2:nth (xl L t (zR L t P T D) (yI L.b.length) L.b.length) (Yw (yg L) s'+q')=YS t (zR L t P T D) (yI L.b.length) s' q':=YE _ _ _ _ _ s2 q2
  rw [e1,e2,decide_eq_false]
  ·rfl
  ·intro e
   unfold YS at e
   have g:=Int.emod_eq_emod_iff_emod_sub_eq_zero.1 e
   have f1:(q:Int)<Vw L s:=by unfold yg at q1;omega
   have f2:(q':Int)<Vw L s':=by unfold yg at q2;omega
   have hne:s≠s'\/q≠q':=by
    by_cases c:s=s'
    ·subst c;right;intro c;subst c;omega
    ·exact .inl c
   have hq0:=Int.emod_nonneg ((q:Int) - q') (show t.r≠0 by omega)
   have hq1:=Int.emod_lt_of_pos ((q:Int) - q') (show 0<t.r by omega)
   have hbar:B s s' (((q:Int) - q') % t.r).toNat=true:=(hB s s' s1 s2 _ (by omega)).2 ⟨(q:Int) - q',.inl ⟨.inr ⟨q,q',f1,f2,hne,rfl⟩,by omega⟩⟩
   refine key s s' s1 s2 _ hbar ?_
   have g2:(-(zr (zR L t P T D) (yI L.b.length) s - ((q:Int)+1) - (zr (zR L t P T D) (yI L.b.length) s' - ((q':Int)+1)))) % t.r=0:=by
    rw [Int.emod_eq_zero_of_dvd (Int.dvd_neg.2 (Int.dvd_of_emod_eq_zero ?_))]
    first | exact g | (rw [<-g];congr 1;omega) | exact Int.emod_eq_zero_of_dvd (by have:=Int.dvd_neg.2 (Int.dvd_of_emod_eq_zero g);rwa [show (-(zr (zR L t P T D) (yI L.b.length) s' - ((q':Int)+1) - (zr (zR L t P T D) (yI L.b.length) s - ((q:Int)+1))))=zr (zR L t P T D) (yI L.b.length) s - ((q:Int)+1) - (zr (zR L t P T D) (yI L.b.length) s' - ((q':Int)+1)) by omega] at this)
   rw [<-g2];congr 1;omega
 ·have hor:=Y8 h1 hi
  have ha:(nth L.o i).toNat<L.b.length:=by omega
  have hou:zmm L.o (nth L.o i).toNat L.o.length=true:=zyg _ i hi (by omega)
  generalize (nth L.o i).toNat=a at *
  refine Bool.eq_false_iff.2 fun hme=>?_
  obtain⟨j,j1,j2,j3⟩:=(VB (by omega)).1 hme
  refine key a m ha hm j (zo0 hR hB ha hm ?_ ?_) j3
  ·have hno:Xe t (zR L t P T D) (yI L.b.length) a m=zb5 (yT L t P T) P a m:=by
    unfold Xe zb5
    rw [(hall m hm).2.2.1,(hall a ha).2.2.1];rfl
   rw [hno] at j1
   exact Int.le_trans (zo7 _ _ _ _) j1
  ·unfold Ug
   rw [if_pos (show (yT L t P T).ou a=true from hou)]
   omega
end
end
section
def zbw (n:Nat) (R:Int) (B:Nat->Nat->Nat->Bool) (I:Nat->Bool) (Q:Nat->Int) (a:Nat) (p:Int):Nat:=cnt (fun m=>I m && B a m ((p - Q m) % R).toNat) n
def upC (R:Int) (B:Nat->Nat->Nat->Bool) (C:Nat->Nat->Int) (m:Nat) (q by':Int):Nat->Nat->Int:=fun a p=>if B a m (((p:Int) - q) % R).toNat=true then C a p+by' else C a p
structure FOk (n:Nat) (R:Int) (B:Nat->Nat->Nat->Bool) (I:Nat->Bool) (Q:Nat->Int) (C:Nat->Nat->Int) (k:Int):Prop where
 cnt:∀a,a<n->∀p:Nat,(p:Int)<R->C a p=(zbw n R B I Q a p:Int)
 pr:∀m,m<n->0<=Q m/\Q m<R
 ok:∀a m,a<n->m<n->a≠m->I a=true->I m=true->B a m ((Q a - Q m) % R).toNat=false
 k0:0<=k
 k1:k<=1000
def zt7 (n:Nat) (R:Int) (B:Nat->Nat->Nat->Bool):Prop:=∀a m,a<n->m<n->∀e:Int,B a m (e % R).toNat=true->B m a ((-e) % R).toNat=true
theorem zc6 {R:Int}:(-(e % R)) % R=(-e) % R:=by
 rw [Int.neg_emod_eq_sub_emod,Int.neg_emod_eq_sub_emod (a:=e)]
 exact Int.sub_emod_emod ..
theorem Ui.sym {n:Nat} {R:Int} {B:Nat->Nat->Nat->Bool} (hR:1<=R) (h:Ui n R Ev B):zt7 n R B:=by
 intro a m ha hm e hb
 have e0:=Int.emod_nonneg e (show R≠0 by omega)
 have e1:=Int.emod_lt_of_pos e (show 0<R by omega)
 have f0:=Int.emod_nonneg (-e) (show R≠0 by omega)
 have f1:=Int.emod_lt_of_pos (-e) (show 0<R by omega)
 obtain⟨on,hon⟩:=(h a m ha hm _ (by omega)).1 hb
 refine (h m a hm ha _ (by omega)).2 ⟨on,?_⟩
 rcases hon with ⟨h1,h2⟩ | ⟨h1,h2⟩
 ·refine .inr ⟨h1,?_⟩
  have h3:on % R=e % R:=by omega
  rw [<-zc6,h3,zc6];omega
 ·refine .inl ⟨h1,?_⟩
  have h3:(-on) % R=e % R:=by omega
  have h4:(-(-on)) % R=(-e) % R:=by rw [<-zc6 (e:=-on),h3,zc6]
  rw [Int.neg_neg] at h4
  omega
theorem zx0 {n:Nat} {R:Int} {B:Nat->Nat->Nat->Bool} {I:Nat->Bool} {Q:Nat->Int}:zbw n R B I Q a p<=n:=Xw _ _
theorem ztm (n:Nat):cnt (fun _=>false) n=0:=by
 rcases ZG (fun _=>false) n with h | ⟨i,_,h⟩
 ·exact h
 ·cases h
theorem zew {n:Nat} {R:Int} {B:Nat->Nat->Nat->Bool} {I:Nat->Bool} {Q:Nat->Int} (h:zbw n R B I Q a p=0):∀m,m<n->I m=true->B a m ((p - Q m) % R).toNat=false:=by
 intro m hm hi
 have h1:cnt (fun j=>(fun m=>I m && B a m ((p - Q m) % R).toNat) j && decide (j=m)) n<=zbw n R B I Q a p:=zh2 fun i _ hi=>by simp only [Bool.and_eq_true,decide_eq_true_eq] at hi ⊢;exact hi.1
 refine Bool.eq_false_iff.2 fun hb=>?_
 have h2:=XX (p:=fun _=>false) (q:=fun j=>(fun m=>I m && B a m ((p - Q m) % R).toNat) j && decide (j=m)) (a:=m) n (fun i _ hne=>by simp [hne])
 have h3:=ztm n
 rw [if_neg (fun h=>by cases h.2),if_pos ⟨hm,by simp [hi,hb]⟩] at h2
 omega
theorem zex {n:Nat} {R:Int} {B:Nat->Nat->Nat->Bool} {I:Nat->Bool} {Q:Nat->Int} (h:∀m,m<n->I m=true->B a m ((p - Q m) % R).toNat=false):zbw n R B I Q a p=0:=by
 rcases ZG (fun m=>I m && B a m ((p - Q m) % R).toNat) n with h1 | ⟨m,hm,h1⟩
 ·exact h1
 ·simp only [Bool.and_eq_true] at h1
  rw [h m hm h1.1] at h1
  cases h1.2
variable {n:Nat} {R:Int} {B:Nat->Nat->Nat->Bool} {I:Nat->Bool} {Q:Nat->Int} {C:Nat->Nat->Int} {k:Int}
theorem FOk.range (h:FOk n R B I Q C k) (hn:n<=16) (ha:a<n) {p:Nat} (hp:(p:Int)<R):0<=C a p/\C a p<=16:=by
 rw [h.cnt a ha p hp]
 have:=zx0 (n:=n) (R:=R) (B:=B) (I:=I) (Q:=Q) (a:=a) (p:=(p:Int))
 omega
theorem FOk.start (hR:1<=R):FOk n R B (fun _=>false) (fun _=>0) (fun _ _=>0) 0 where
 cnt:=fun a ha p hp=>by rw [zex (fun m _ h=>by cases h)];rfl
 pr:=fun m _=>⟨Int.le_refl _,by omega⟩
 ok:=fun a m _ _ _ h=>by cases h
 k0:=by decide
 k1:=by decide
theorem FOk.put (h:FOk n R B I Q C k) (hs:zt7 n R B) (ha:a<n) (hI:I a=false) {p:Nat} (hp:(p:Int)<R) (hC:C a p=0) (hk:k<1000):FOk n R B (upB I a true) (upI Q a p) (upC R B C a p 1) (k+1) where
 cnt:=fun b hb x hx=>by
  have h1:=XX (p:=fun m=>I m && B b m (((x:Int) - Q m) % R).toNat) (q:=fun m=>upB I a true m && B b m (((x:Int) - upI Q a p m) % R).toNat) (a:=a) n (fun i _ hi=>by simp [upB,upI,hi])
  simp only [ha,hI,upB,upI,if_true,Bool.false_and,Bool.true_and,true_and,Bool.false_eq_true,if_false,Nat.add_zero,and_false] at h1
  have h2:=h.cnt b hb x hx
  unfold upC
  show _=((zbw n R B (upB I a true) (upI Q a p) b x:Nat):Int)
  have h3:zbw n R B (upB I a true) (upI Q a p) b x=zbw n R B I Q b x+if B b a (((x:Int) - p) % R).toNat=true then 1 else 0:=h1
  rw [h3]
  split <;> omega
 pr:=fun m hm=>by
  have:=h.pr m hm
  unfold upI
  split <;> omega
 ok:=fun b m hb hm hne h1 h2=>by
  have hz:zbw n R B I Q a p=0:=by have:=h.cnt a ha p hp;omega
  unfold upB at h1 h2
  unfold upI
  by_cases e1:b=a
  ·have e2:m≠a:=fun e=>hne (e1.trans e.symm)
   rw [if_neg e2] at h2
   rw [if_pos e1,if_neg e2,e1]
   exact zew hz m hm h2
  ·rw [if_neg e1] at h1
   rw [if_neg e1]
   by_cases e2:m=a
   ·rw [if_pos e2,e2]
    refine Bool.eq_false_iff.2 fun hb2=>?_
    have h3:=hs b a hb ha _ hb2
    rw [show -(Q b - (p:Int))=p - Q b by omega] at h3
    rw [zew hz b hb h1] at h3
    cases h3
   ·rw [if_neg e2] at h2
    rw [if_neg e2]
    exact h.ok b m hb hm hne h1 h2
 k0:=by have:=h.k0;omega
 k1:=by omega
theorem FOk.out (h:FOk n R B I Q C k) (ha:a<n) (hI:I a=true):FOk n R B (upB I a false) Q (upC R B C a (Q a) (-1)) k where
 cnt:=fun b hb x hx=>by
  have h1:=XX (p:=fun m=>I m && B b m (((x:Int) - Q m) % R).toNat) (q:=fun m=>upB I a false m && B b m (((x:Int) - Q m) % R).toNat) (a:=a) n (fun i _ hi=>by simp [upB,hi])
  simp only [ha,hI,upB,if_true,Bool.false_and,Bool.true_and,true_and,Bool.false_eq_true,if_false,Nat.add_zero,and_false] at h1
  have h2:=h.cnt b hb x hx
  unfold upC
  have h3:zbw n R B (upB I a false) Q b x+(if B b a (((x:Int) - Q a) % R).toNat=true then 1 else 0)=zbw n R B I Q b x:=h1
  show _=((zbw n R B (upB I a false) Q b x:Nat):Int)
  split <;> simp_all <;> omega
 pr:=h.pr
 ok:=fun b m hb hm hne h1 h2=>by
  have hg:∀i,upB I a false i=true->I i=true:=fun i hi=>by
   unfold upB at hi
   by_cases e:i=a
   ·rw [if_pos e] at hi;cases hi
   ·rw [if_neg e] at hi;exact hi
  exact h.ok b m hb hm hne (hg _ h1) (hg _ h2)
 k0:=h.k0
 k1:=h.k1
theorem zz1 (hI:I a=false) (b:Bool):upB (upB I a true) a false=I:=by
 funext j
 unfold upB
 by_cases e:j=a
 ·rw [if_pos e,e,hI]
 ·rw [if_neg e,if_neg e]
def zce (n:Nat) (R:Int) (B:Nat->Nat->Nat->Bool):Prop:=5*(n:Int)<=R/\∀a m,a<n->m<n->∀d:Nat,(d:Int)<R->B a m d=true->∃e:Int,-3<=e/\e<=3/\e % R=d/\(a=m->e≠0)
def EOk (n:Nat) (R:Int) (B:Nat->Nat->Nat->Bool) (I:Nat->Bool) (Q:Nat->Int) (k:Int):Prop :=
 zce n R B/\k=(Go.Proofs.YtjoapiafpahihabGreat.cnt I n:Int)/\∀m,m<n->I m=true->Q m<=4*((Go.Proofs.YtjoapiafpahihabGreat.cnt I n:Int) - 1)
theorem zo1 (ha:a<n) (hI:I a=false):cnt I n+1<=n:=by
 have h:=US ha hI
 have:=Xw (upB I a true) n
 omega
theorem zga {R:Int} (h1:-3<=e) (h2:e<=3) (hR:4<=R):(0<=e/\e % R=e)\/(e<0/\e % R=R+e):=by
 by_cases h:0<=e
 ·exact .inl ⟨h,Int.emod_eq_of_lt h (by omega)⟩
 ·refine .inr ⟨by omega,?_⟩
  rw [<-Int.add_emod_right e R,Int.emod_eq_of_lt (by omega) (by omega)];omega
theorem zf3 (h:FOk n R B I Q C k) (he:EOk n R B I Q k) (ha:a<n) (hI:I a=false):((4*cnt I n:Nat):Int)<R/\C a (4*cnt I n)=0:=by
 obtain⟨⟨h5,hnear⟩,hk,hq⟩:=he
 have h1:=zo1 ha hI
 have h2:((4*cnt I n:Nat):Int)<R:=by omega
 refine⟨h2,?_⟩
 rw [h.cnt a ha _ h2,zex]
 ·rfl
 ·intro m hm hi
  have h3:=hq m hm hi
  have h4:=h.pr m hm
  rw [Int.emod_eq_of_lt (by omega) (by omega)]
  refine Bool.eq_false_iff.2 fun hb=>?_
  obtain⟨e,e1,e2,e3,-⟩:=hnear a m ha hm _ (by omega) hb
  rcases zga e1 e2 (show 4<=R by omega) with ⟨e4,e5⟩ | ⟨e4,e5⟩ <;> omega
theorem zio (he:EOk n R B I Q k) (ha:a<n) (hI:I a=false) {p:Nat} (hp:p<=4*cnt I n):EOk n R B (upB I a true) (upI Q a p) (k+1):=by
 obtain⟨hn,hk,hq⟩:=he
 have h:=US ha hI
 refine⟨hn,by omega,fun m hm hi=>?_⟩
 unfold upB at hi
 unfold upI
 by_cases e:m=a
 ·rw [if_pos e];omega
 ·rw [if_neg e] at hi
  rw [if_neg e]
  have:=hq m hm hi
  omega
theorem zlp (he:EOk n R B I Q k) (hn:n<=16):k<1000:=by
 have:=Xw I n
 have:=he.2.1
 omega
theorem zr2 (h:zce n R B) (ha:a<n):B a a 0=false:=by
 obtain⟨h5,hn⟩:=h
 refine Bool.eq_false_iff.2 fun hb=>?_
 obtain⟨e,e1,e2,e3,e4⟩:=hn a a ha ha 0 (by omega) hb
 have:=e4 rfl
 rcases zga e1 e2 (show 4<=R by omega) with ⟨e5,e6⟩ | ⟨e5,e6⟩ <;> omega
theorem zlq (h:zce n R B):EOk n R B (fun _=>false) (fun _=>0) 0:=by
 have hz:=ztm n
 exact⟨h,by rw [hz];rfl,fun m _ h=>by cases h⟩
theorem zr1 {L:Lp} {t:Tg} {P:Int} {T:List Int} (h:zV L t P T=true) (hov:∀s,s<L.b.length->nth T s+zO t (zc L.b s).o<=P) (h5:5*(L.b.length:Int)<=t.r) (hB:Ui L.b.length t.r (EvR (yT L t P T) P t.r) B):zce L.b.length t.r B:=by
 obtain⟨h1,h2,h3,h4,-,-,-⟩:=yd h
 have hwt:∀o,1<=zO t o:=fun o=>(Zk o h2).1
 have key:∀a m,a<L.b.length->m<L.b.length->∀on,EvR (yT L t P T) P t.r a m on->-3<=on/\on<=3/\(a=m->on≠0):=by
  intro a m ha hm on hev
  have oa:=hov a ha
  have om:=hov m hm
  have wa:=hwt (zc L.b a).o
  have wm:=hwt (zc L.b m).o
  obtain⟨ta1,ta2,-⟩:=xr h ha
  obtain⟨tm1,tm2,-⟩:=xr h hm
  rcases hev with ⟨f1,f2,f3⟩ | ⟨q,r,q1,r1,hne,rfl⟩
  ·have hno:0<=zb5 (yT L t P T) P a m/\(a=m->zb5 (yT L t P T) P a m=1):=by
    unfold zb5
    by_cases e:m=a
    ·rw [if_pos e];exact⟨by decide,fun _=>rfl⟩
    ·rw [if_neg e]
     refine⟨?_,fun h=>absurd h.symm e⟩
     show 0<=-((nth T m+zO t (zc L.b m).o - (nth T a+zO t (zc L.b a).o)) / P)
     have:(nth T m+zO t (zc L.b m).o - (nth T a+zO t (zc L.b a).o)) / P<1:=Int.ediv_lt_of_lt_mul (by omega) (by omega)
     omega
   have hf:0<=Zo (yT L t P T) P a m/\(a=m->1<=Zo (yT L t P T) P a m):=by
    unfold Zo
    split
    ·refine⟨by omega,fun e=>?_⟩
     have:=hno.2 e
     omega
    ·exact⟨hno.1,fun e=>by have:=hno.2 e;omega⟩
   have hun:UJ L t P T a L.b.length<=4*P - 1:=by
    refine ze6 L t P T a _ (by omega) L.b.length (fun s hs i hi _=>?_) _ (Nat.le_refl _)
    obtain⟨r1,r2,r3,r4⟩:=Ze h1 hs _ (Zi hi)
    have os:=hov s hs
    have ws:=hwt (zc L.b s).o
    have hb:(zy (zj (zc L.b s)) i).2*P<=3*P:=Int.mul_le_mul_of_nonneg_right r4 (by omega)
    omega
   have hl:Ug (yT L t P T) P a m<=3:=by
    have h8:(UJ L t P T a L.b.length - (nth T m+zO t (zc L.b m).o)) / P<4:=Int.ediv_lt_of_lt_mul (by omega) (by omega)
    have h8:((yT L t P T).un a - (yT L t P T).rd m) / P<4:=h8
    unfold Ug
    split <;> omega
   exact⟨by omega,by omega,fun e=>by have:=hf.2 e;omega⟩
  ·have f1:Vw L a<=3:=UX h1 a _ (Nat.le_refl _)
   have f2:Vw L m<=3:=UX h1 m _ (Nat.le_refl _)
   have q1:(q:Int)<Vw L a:=q1
   have r1:(r:Int)<Vw L m:=r1
   refine⟨by omega,by omega,fun e=>?_⟩
   rcases hne with hne | hne
   ·exact absurd e hne
   ·omega
 refine⟨h5,fun a m ha hm d hd hb=>?_⟩
 obtain⟨on,hon⟩:=(hB a m ha hm d hd).1 hb
 rcases hon with ⟨g1,g2⟩ | ⟨g1,g2⟩
 ·obtain⟨k1,k2,k3⟩:=key a m ha hm on g1
  exact⟨on,k1,k2,g2,k3⟩
 ·obtain⟨k1,k2,k3⟩:=key m a hm ha on g1
  exact⟨-on,by omega,by omega,g2,fun e=>by have:=k3 e.symm;omega⟩
end
section
theorem ya5 {n:Int} (hd:0<d):(n.tmod d+d).tmod d=n % d:=by
 have h1:=Int.lt_tmod_of_pos n hd
 rw [Int.tmod_eq_emod_of_nonneg (by omega)]
 have h2:=Int.mul_tdiv_add_tmod n d
 rw [show n.tmod d+d=n+d*(1 - n.tdiv d) by rw [Int.mul_sub];omega,Int.add_mul_emod_self_left]
theorem zxo {n:Int} (hd:0<d):(n - n % d).tdiv d=n / d:=by
 have h2:=Int.emod_add_mul_ediv n d
 rw [show n - n % d=d*(n / d) by omega,Int.mul_tdiv_cancel_left _ (by omega)]
theorem XL (n d r:Int) (w:World) (hd:1<=d) (hd2:d<=1000) (hn:-1000000<=n) (hn2:n<=1000000) (h:n % d=r) :
  Calls prog 44 #[iV n,iV d] w fun e w'=>e=.returned (iV r)/\w'=w:=by
 have hd0:¬d=0:=by omega
 have hl:=ya5 (n:=n) (d:=d) (by omega)
 rw [h] at hl
 obtain⟨rm,hrm⟩:∃rm,n.tmod d=rm:=⟨_,rfl⟩
 have hm1:=Int.tmod_lt_of_pos n (show 0<d by omega)
 have hm2:=Int.lt_tmod_of_pos n (show 0<d by omega)
 rw [hrm] at hl hm1 hm2
 have hw1:wrap64 rm=rm:=by unfold wrap64;omega
 have hw2:wrap64 (rm+d)=rm+d:=by unfold wrap64;omega
 have hr1:0<=r/\r<d:=by rw [<-h];exact⟨Int.emod_nonneg _ (by omega),Int.emod_lt_of_pos _ (by omega)⟩
 have hw3:wrap64 r=r:=by unfold wrap64;omega
 clear hm1 hm2 hr1 h
 go_enter func44,ntmps44
 go_wp2_with fail
 go_ret
 exact⟨by first | rfl | exact Uc hw3,rfl⟩
theorem zdn (n d r:Int) (w:World) (hd:1<=d) (hd2:d<=1000) (hn:-1000000<=n) (hn2:n<=1000000) (h:n / d=r) :
  Calls prog 138 #[iV n,iV d] w fun e w'=>e=.returned (iV r)/\w'=w:=by
 have hd0:¬d=0:=by omega
 have hl:=zxo (n:=n) (d:=d) (by omega)
 rw [h] at hl
 obtain⟨rm,hrm⟩:∃rm,n % d=rm:=⟨_,rfl⟩
 have hm1:=Int.emod_nonneg n (show d≠0 by omega)
 have hm2:=Int.emod_lt_of_pos n (show 0<d by omega)
 have HF:=z9 (fun W=>XL n d rm W hd hd2 hn hn2 hrm)
 obtain⟨b1,b2,b3,b4⟩:=Yn hd hn hn2
 rw [hrm] at hl hm1 hm2
 have hw1:wrap64 (n - rm)=n - rm:=by unfold wrap64;omega
 have hw3:wrap64 r=r:=by unfold wrap64;omega
 clear hm1 hm2 h hrm b1 b2 b3 b4
 go_enter func138,ntmps138
 go_wp2_with (refine (HF.out _).mono ?_;rintro e x2 ⟨rfl,rfl⟩)
 go_ret
 exact⟨by first | rfl | exact Uc hw3,rfl⟩
def Vf (l:Lf) (i:Nat):Value:=if i % 4=0 then iV (l.rd (i / 4)) else if i % 4=1 then iV (l.un (i / 4)) else if i % 4=2 then iV (l.bk (i / 4)) else .bool (l.ou (i / 4))
def LvV (n lb:Nat) (l:Lf) (x:World):Prop:=zu x lb 158 (n*4) (Vf l)
theorem LvV.cells {n:Nat} {l:Lf} {x:World} (h:LvV n lb l x) (ha:a<n) :
  x.cell? (ad lb (a*4))=sI (l.rd a)/\x.cell? (ad lb (a*4+1))=sI (l.un a)/\x.cell? (ad lb (a*4+2))=sI (l.bk a)/\x.cell? (ad lb (a*4+3))=some (.bool (l.ou a)):=by
 refine⟨?_,?_,?_,?_⟩
 ·rw [zu.cell h (show a*4<n*4 by omega)];unfold Vf;rw [if_pos (by omega),show a*4 / 4=a by omega]
 ·rw [zu.cell h (show a*4+1<n*4 by omega)];unfold Vf;rw [if_neg (by omega),if_pos (by omega),show (a*4+1) / 4=a by omega]
 ·rw [zu.cell h (show a*4+2<n*4 by omega)];unfold Vf;rw [if_neg (by omega),if_neg (by omega),if_pos (by omega),show (a*4+2) / 4=a by omega]
 ·rw [zu.cell h (show a*4+3<n*4 by omega)];unfold Vf;rw [if_neg (by omega),if_neg (by omega),if_neg (by omega),show (a*4+3) / 4=a by omega]
theorem LvV.lt {n:Nat} {l:Lf} {x:World} (h:LvV n lb l x):lb<x.heap.size:=zu.lt h
theorem LvV.gE {n B:Nat} {l:Lf} {x y:World} (h:LvV n lb l x) (hb:Below B x y) (hl:lb<B):LvV n lb l y:=zu.gE h hb hl
structure zt3 (n:Nat) (l:Lf):Prop where
 rd:∀a,a<n->1<=l.rd a/\l.rd a<=1006
 un:∀a,a<n->0<=l.un a/\l.un a<=1606
 bk:∀a,a<n->0<=l.bk a/\l.bk a<=3
structure Bc where
 n:Nat
 R:Nat
 ob:Nat
 rb:Nat->Nat
 cb:Nat->Nat->Nat
structure Zl (c:Bc) (base:Nat) (B:Nat->Nat->Nat->Bool) (x:World):Prop where
 o:zu x c.ob 197 c.n (fun a=>.slice (pA (c.rb a)) c.n c.n)
 r:∀a,a<c.n->zu x (c.rb a) 148 c.n (fun m=>.slice (pA (c.cb a m)) c.R c.R)
 cc:∀a m,a<c.n->m<c.n->zu x (c.cb a m) 4 c.R (fun d=>.bool (B a m d))
 inj:∀a m a' m',a<c.n->m<c.n->a'<c.n->m'<c.n->c.cb a m=c.cb a' m'->a=a'/\m=m'
 geo:base<=c.ob
 ger:∀a,a<c.n->base<=c.rb a
 gec:∀a m,a<c.n->m<c.n->base<=c.cb a m
variable {c:Bc} {base:Nat} {B:Nat->Nat->Nat->Bool} {x y:World}
theorem zzh:(148:TypeId)≠4:=by decide
theorem zwj:(197:TypeId)≠4:=by decide
theorem Zl.same (h:Zl c base B x) (ho:y.heap[c.ob]?=x.heap[c.ob]?) (hr:∀a,a<c.n->y.heap[c.rb a]?=x.heap[c.rb a]?) (hc:∀a m,a<c.n->m<c.n->y.heap[c.cb a m]?=x.heap[c.cb a m]?):Zl c base B y :=
 ⟨h.o.gG ho,fun a ha=>(h.r a ha).gG (hr a ha),fun a m ha hm=>(h.cc a m ha hm).gG (hc a m ha hm),h.inj,h.geo,h.ger,h.gec⟩
theorem Zl.gE (h:Zl c base B x) (hb:Bw x y):Zl c base B y :=
 h.same (hb.block _ h.o.lt) (fun a ha=>hb.block _ (h.r a ha).lt) (fun a m ha hm=>hb.block _ (h.cc a m ha hm).lt)
theorem Zl.other (h:Zl c base B x) {e:TypeId} {k:Nat} (hg:zu x g e k f) (h1:e≠4) (h2:e≠148) (h3:e≠197) (i:Nat) (v:Value):Zl c base B (x.setCell (ad g i) v) :=
 h.same (Below.heap_setCell _ _ _ _ (hg.apart h.o h3).symm) (fun a ha=>Below.heap_setCell _ _ _ _ (hg.apart (h.r a ha) h2).symm) (fun a m ha hm=>Below.heap_setCell _ _ _ _ (hg.apart (h.cc a m ha hm) h1).symm)
theorem Zl.otherB (h:Zl c base B x) {k:Nat} (hg:zu x g 4 k f) (hn:∀a m,a<c.n->m<c.n->g≠c.cb a m) (i:Nat) (v:Value):Zl c base B (x.setCell (ad g i) v) :=
 h.same (Below.heap_setCell _ _ _ _ (hg.apart h.o zwj.symm).symm) (fun a ha=>Below.heap_setCell _ _ _ _ (hg.apart (h.r a ha) zzh.symm).symm) (fun a m ha hm=>Below.heap_setCell _ _ _ _ (hn a m ha hm).symm)
def upT (B:Nat->Nat->Nat->Bool) (a m d:Nat):Nat->Nat->Nat->Bool:=fun a' m' d'=>if a'=a/\m'=m/\d'=d then true else B a' m' d'
theorem Zl.set (h:Zl c base B x) {d:Nat} (ha:a<c.n) (hm:m<c.n) (hd:d<c.R):Zl c base (upT B a m d) (x.setCell (ad (c.cb a m) d) (.bool true)):=by
 refine⟨h.o.gF (h.o.apart (h.cc a m ha hm) zwj) _,fun b hb=>(h.r b hb).gF ((h.r b hb).apart (h.cc a m ha hm) zzh) _,fun b q hb hq=>?_,h.inj,h.geo,h.ger,h.gec⟩
 by_cases e:c.cb b q=c.cb a m
 ·obtain⟨rfl,rfl⟩:=h.inj _ _ _ _ hb hq ha hm e
  refine ((h.cc b q hb hq).set d (.bool true) hd).congr fun i _=>?_
  unfold upT
  by_cases e2:i=d
  ·rw [if_pos e2,if_pos ⟨rfl,rfl,e2⟩]
  ·rw [if_neg e2,if_neg (fun h=>e2 h.2.2)]
 ·refine ((h.cc b q hb hq).gF e _).congr fun i _=>?_
  unfold upT
  rw [if_neg (fun h=>e (by rw [h.1,h.2.1]))]
def yQ (c:Bc) (base:Nat) (Ev:Nat->Nat->Int->Prop) (x:World):Prop:=∃B,Zl c base B x/\Ui c.n c.R Ev B
theorem yQ.congr {Ev':Nat->Nat->Int->Prop} (h:yQ c base Ev x) (he:∀a m,a<c.n->m<c.n->∀o,Ev a m o↔Ev' a m o):yQ c base Ev' x:=by
 obtain⟨B,h1,h2⟩:=h
 refine⟨B,h1,fun a m ha hm d hd=>(h2 a m ha hm d hd).trans ⟨fun ⟨o,ho⟩=>⟨o,?_⟩,fun ⟨o,ho⟩=>⟨o,?_⟩⟩⟩
 ·rw [<-he a m ha hm,<-he m a hm ha];exact ho
 ·rw [he a m ha hm,he m a hm ha];exact ho
theorem yQ.gE (h:yQ c base Ev x) (hb:Bw x y):yQ c base Ev y:=by
 obtain⟨B,h1,h2⟩:=h
 exact⟨B,h1.gE hb,h2⟩
def zcc (Ev:Nat->Nat->Int->Prop) (a m:Nat) (on:Int):Nat->Nat->Int->Prop:=fun a' m' o=>Ev a' m' o\/(a'=a/\m'=m/\o=on)
theorem yQ.bar (h:yQ c base Ev x) {d d':Nat} {on:Int} (ha:a<c.n) (hm:m<c.n) (hd:d<c.R) (hd':d'<c.R) (h1:on % (c.R:Int)=d) (h2:(-on) % (c.R:Int)=d') :
  yQ c base (zcc Ev a m on) ((x.setCell (ad (c.cb a m) d) (.bool true)).setCell (ad (c.cb m a) d') (.bool true))/\Below base x ((x.setCell (ad (c.cb a m) d) (.bool true)).setCell (ad (c.cb m a) d') (.bool true)):=by
 obtain⟨B,hV,hO⟩:=h
 refine⟨⟨_,(hV.set ha hm hd).set hm ha hd',fun b q hb hq z hz=>?_⟩,((Below.refl _ _).setCell (hV.gec a m ha hm) _).setCell (hV.gec m a hm ha) _⟩
 have h0:=hO b q hb hq z hz
 unfold upT zcc
 constructor
 ·intro hB
  by_cases e1:b=m/\q=a/\z=d'
  ·obtain⟨rfl,rfl,rfl⟩:=e1
   exact⟨on,.inr ⟨.inr ⟨rfl,rfl,rfl⟩,h2⟩⟩
  ·rw [if_neg e1] at hB
   by_cases e2:b=a/\q=m/\z=d
   ·obtain⟨rfl,rfl,rfl⟩:=e2
    exact⟨on,.inl ⟨.inr ⟨rfl,rfl,rfl⟩,h1⟩⟩
   ·rw [if_neg e2] at hB
    obtain⟨o,ho⟩:=h0.1 hB
    rcases ho with ⟨g1,g2⟩ | ⟨g1,g2⟩
    ·exact⟨o,.inl ⟨.inl g1,g2⟩⟩
    ·exact⟨o,.inr ⟨.inl g1,g2⟩⟩
 ·rintro ⟨o,ho⟩
  by_cases e1:b=m/\q=a/\z=d'
  ·rw [if_pos e1]
  ·rw [if_neg e1]
   by_cases e2:b=a/\q=m/\z=d
   ·rw [if_pos e2]
   ·rw [if_neg e2]
    refine h0.2 ⟨o,?_⟩
    rcases ho with ⟨g1 | ⟨rfl,rfl,rfl⟩,g2⟩ | ⟨g1 | ⟨rfl,rfl,rfl⟩,g2⟩
    ·exact .inl ⟨g1,g2⟩
    ·exact absurd ⟨rfl,rfl,by omega⟩ e2
    ·exact .inr ⟨g1,g2⟩
    ·exact absurd ⟨rfl,rfl,by omega⟩ e1
end
theorem Xq {P:Program} {f:FuncId} {args:Array Value} {w:World} {k n:Nat} {v:Value} (h:Calls P f args (w.drewN (k+n)) fun e w'=>e=.returned v/\w'=w.drewN (k+n)):Calls P f args (w.drewN (k+n)) fun e w''=>e=.returned v/\∃m,w''=w.drewN (k+m) :=
 h.mono fun _ _ ⟨h1,h2⟩=>⟨h1,n,h2⟩
theorem Xp {a b a' b':Int} (h1:a=a') (h2:b=b'):Ending.returned (.tuple #[iV a,iV b])=.returned (.tuple #[iV a',iV b']):=by rw [h1,h2]
theorem zsr (n lb:Nat) (l:Lf) (P:Int) (a m:Nat) (w:World) (h:LvV n lb l w) (ok:zt3 n l) (hn:n<=16) (ha:a<n) (hm:m<n) (hP1:1<=P) (hP2:P<=200) :
  Calls prog 95 #[.slice (pA lb) n n,iV a,iV m,iV P] w fun e w'=>e=.returned (.tuple #[iV (Zo l P a m),iV (Ug l P a m)])/\∃k,w'=w.drewN k:=by
 obtain⟨ra1,ra2⟩:=ok.rd a ha
 obtain⟨rm1,rm2⟩:=ok.rd m hm
 obtain⟨ua1,ua2⟩:=ok.un a ha
 obtain⟨ba1,ba2⟩:=ok.bk a ha
 have hlb:=h.lt
 obtain⟨c0,c1,c2,c3⟩:=h.cells ha
 obtain⟨d0,-,-,-⟩:=h.cells hm
 have hai:(a:Int)<(n:Int):=by omega
 have hmi:(m:Int)<(n:Int):=by omega
 have hfs:Zo l P a m=if 0<l.bk a then min (if m=a then 1 else -((l.rd m - l.rd a) / P)) 1 else (if m=a then 1 else -((l.rd m - l.rd a) / P)):=rfl
 have hls:Ug l P a m=if l.ou a=true then max ((l.un a - l.rd m) / P) 0 else (l.un a - l.rd m) / P:=rfl
 rw [hfs,hls]
 clear hfs hls h ok
 obtain⟨f1,g2,f3,f4⟩:=Yn (n:=l.rd m - l.rd a) (d:=P) hP1 (by omega) (by omega)
 obtain⟨j1,j2,j3,j4⟩:=Yn (n:=l.un a - l.rd m) (d:=P) hP1 (by omega) (by omega)
 obtain⟨fl,hfl⟩:∃fl,(l.rd m - l.rd a) / P=fl:=⟨_,rfl⟩
 obtain⟨gl,hgl⟩:∃gl,(l.un a - l.rd m) / P=gl:=⟨_,rfl⟩
 have HF:=z9 (fun W=>zdn (l.rd m - l.rd a) P fl W hP1 (by omega) (by omega) (by omega) hfl)
 have HG:=z9 (fun W=>zdn (l.un a - l.rd m) P gl W hP1 (by omega) (by omega) (by omega) hgl)
 rw [hfl] at f3 f4 ⊢
 rw [hgl] at j3 j4 ⊢
 obtain⟨xf,hxf⟩:∃xf,l.rd m - l.rd a=xf:=⟨_,rfl⟩
 obtain⟨xg,hxg⟩:∃xg,l.un a - l.rd m=xg:=⟨_,rfl⟩
 have hw1:wrap64 (l.rd m - l.rd a)=xf:=by unfold wrap64;omega
 have hw2:wrap64 (-fl)=-fl:=by unfold wrap64;omega
 have hw3:wrap64 (l.un a - l.rd m)=xg:=by unfold wrap64;omega
 rw [hxf] at HF
 rw [hxg] at HG
 generalize l.un a=ua at *
 generalize l.bk a=ba at *
 generalize l.ou a=oa at *
 clear hfl hgl f1 g2 f3 f4 j1 j2 j3 j4 ra1 ra2 rm1 rm2 ua1 ua2 ba1 ba2 hxg
 by_cases e:m=a
 ·rw [if_pos e]
  subst e
  clear d0 hmi
  obtain rfl:xf=0:=by omega
  clear hw1 hxf
  generalize l.rd m=ra at *
  by_cases hba:0<ba
  ·rw [if_pos hba]
   cases oa with
   | true =>
     go_enter func95,ntmps95
     go_wp2_with fail
     go_big_quiet ((go_at_call 138;exact Calls.quiet_of_same (HF.out _)))
     go_wp2_with fail
     all_goals (go_big_quiet ((go_at_call 138;exact Xq (HG.out _)));go_wp2_with fail)
     all_goals (go_ret2;refine⟨Xp ?_ ?_,_,rfl⟩ <;> (first | rfl | omega | (split <;> omega) | (simp;done)))
   | false =>
     go_enter func95,ntmps95
     go_wp2_with fail
     go_big_quiet ((go_at_call 138;exact Calls.quiet_of_same (HF.out _)))
     go_wp2_with fail
     all_goals (go_big_quiet ((go_at_call 138;exact Xq (HG.out _)));go_wp2_with fail)
     all_goals (go_ret2;refine⟨Xp ?_ ?_,_,rfl⟩ <;> (first | rfl | omega | (split <;> omega) | (simp;done)))
  ·rw [if_neg hba]
   cases oa with
   | true =>
     go_enter func95,ntmps95
     go_wp2_with fail
     go_big_quiet ((go_at_call 138;exact Calls.quiet_of_same (HF.out _)))
     go_wp2_with fail
     all_goals (go_big_quiet ((go_at_call 138;exact Xq (HG.out _)));go_wp2_with fail)
     all_goals (go_ret2;refine⟨Xp ?_ ?_,_,rfl⟩ <;> (first | rfl | omega | (split <;> omega) | (simp;done)))
   | false =>
     go_enter func95,ntmps95
     go_wp2_with fail
     go_big_quiet ((go_at_call 138;exact Calls.quiet_of_same (HF.out _)))
     go_wp2_with fail
     all_goals (go_big_quiet ((go_at_call 138;exact Xq (HG.out _)));go_wp2_with fail)
     all_goals (go_ret2;refine⟨Xp ?_ ?_,_,rfl⟩ <;> (first | rfl | omega | (split <;> omega) | (simp;done)))
 ·rw [if_neg e]
  have hb:((m:Int) == (a:Int))=false:=by simp;omega
  have hb2:¬(m:Int)=(a:Int):=by omega
  clear e hxf
  generalize l.rd m=rm at *
  generalize l.rd a=ra at *
  by_cases hba:0<ba
  ·rw [if_pos hba]
   cases oa with
   | true =>
     go_enter func95,ntmps95
     go_wp2_with fail
     go_big_quiet ((go_at_call 138;exact Calls.quiet_of_same (HF.out _)))
     go_wp2_with fail
     all_goals (go_big_quiet ((go_at_call 138;exact Xq (HG.out _)));go_wp2_with fail)
     all_goals (go_ret2;refine⟨Xp ?_ ?_,_,rfl⟩ <;> (first | rfl | omega | (split <;> omega) | (simp;done)))
   | false =>
     go_enter func95,ntmps95
     go_wp2_with fail
     go_big_quiet ((go_at_call 138;exact Calls.quiet_of_same (HF.out _)))
     go_wp2_with fail
     all_goals (go_big_quiet ((go_at_call 138;exact Xq (HG.out _)));go_wp2_with fail)
     all_goals (go_ret2;refine⟨Xp ?_ ?_,_,rfl⟩ <;> (first | rfl | omega | (split <;> omega) | (simp;done)))
  ·rw [if_neg hba]
   cases oa with
   | true =>
     go_enter func95,ntmps95
     go_wp2_with fail
     go_big_quiet ((go_at_call 138;exact Calls.quiet_of_same (HF.out _)))
     go_wp2_with fail
     all_goals (go_big_quiet ((go_at_call 138;exact Xq (HG.out _)));go_wp2_with fail)
     all_goals (go_ret2;refine⟨Xp ?_ ?_,_,rfl⟩ <;> (first | rfl | omega | (split <;> omega) | (simp;done)))
   | false =>
     go_enter func95,ntmps95
     go_wp2_with fail
     go_big_quiet ((go_at_call 138;exact Calls.quiet_of_same (HF.out _)))
     go_wp2_with fail
     all_goals (go_big_quiet ((go_at_call 138;exact Xq (HG.out _)));go_wp2_with fail)
     all_goals (go_ret2;refine⟨Xp ?_ ?_,_,rfl⟩ <;> (first | rfl | omega | (split <;> omega) | (simp;done)))
section
variable {c:Bc} {base:Nat}
def zww (c:Bc) (base:Nat) (Ev:Nat->Nat->Int->Prop) (w:World) (e:Ending) (w':World):Prop:=e=.returned (.tuple #[])/\yQ c base Ev w'/\Below base w w'
theorem znz (Ev:Nat->Nat->Int->Prop) (a m:Nat) (on:Int) (w:World) (h:yQ c base Ev w) (ha:a<c.n) (hm:m<c.n) (hn:c.n<=16) (hR1:1<=c.R) (hR2:c.R<=128) (h1:-100000<=on) (h2:on<=100000) :
  Calls prog 96 #[.slice (pA c.ob) c.n c.n,iV a,iV m,iV on] w fun e w'=>zww c base (zcc Ev a m on) w e w':=by
 obtain⟨d,hd⟩:∃d:Nat,on % (c.R:Int)=d:=⟨(on % (c.R:Int)).toNat,by have:=Int.emod_nonneg on (show (c.R:Int)≠0 by omega);omega⟩
 obtain⟨d',hd'⟩:∃d:Nat,(-on) % (c.R:Int)=d:=⟨((-on) % (c.R:Int)).toNat,by have:=Int.emod_nonneg (-on) (show (c.R:Int)≠0 by omega);omega⟩
 have hdl:(d:Int)<(c.R:Int):=by rw [<-hd];exact Int.emod_lt_of_pos _ (by omega)
 have hdl':(d':Int)<(c.R:Int):=by rw [<-hd'];exact Int.emod_lt_of_pos _ (by omega)
 have HL1:=z9 (fun W=>XL on c.R d W (by omega) (by omega) (by omega) (by omega) hd)
 have HL2:=z9 (fun W=>XL (-on) c.R d' W (by omega) (by omega) (by omega) (by omega) hd')
 have HEND:Hid (∀nq,zww c base (zcc Ev a m on) w (.returned (.tuple #[])) (((w.drewN nq).setCell (ad (c.cb a m) d) (.bool true)).setCell (ad (c.cb m a) d') (.bool true))):=fun nq=>by
  obtain⟨g1,g2⟩:=(h.gE (below_draws _ w nq)).bar ha hm (by omega) (by omega) hd hd'
  exact⟨rfl,g1,(below_draws _ w nq).trans g2⟩
 obtain⟨B,hV,-⟩:=h
 have o1:=hV.o.cell ha
 have o2:=hV.o.cell hm
 have oz:=hV.o.lt
 have r1:=(hV.r a ha).cell hm
 have r2:=(hV.r m hm).cell ha
 have rz1:=(hV.r a ha).lt
 have rz2:=(hV.r m hm).lt
 have e1:=(hV.cc a m ha hm).cell (show d<c.R by omega)
 have f1:=(hV.cc a m ha hm).frozen d
 have z1:=(hV.cc a m ha hm).lt
 have z2:=(hV.cc m a hm ha).lt
 have f2:=(hV.cc m a hm ha).frozen d'
 have e2:=(((hV.set ha hm (show d<c.R by omega)).cc m a hm ha).cell (show d'<c.R by omega))
 have e3:=(hV.cc m a hm ha).cell (show d'<c.R by omega)
 have f3:=(((hV.set ha hm (show d<c.R by omega)).cc m a hm ha).frozen d')
 have hai:(a:Int)<(c.n:Int):=by omega
 have hmi:(m:Int)<(c.n:Int):=by omega
 obtain⟨no,hno⟩:∃no,-on=no:=⟨_,rfl⟩
 have hw:wrap64 (-on)=no:=by unfold wrap64;omega
 rw [hno] at HL2
 generalize B a m d=v1 at *
 generalize B m a d'=v2 at *
 generalize upT B a m d m a d'=v3 at *
 generalize c.cb a m=g1 at *
 generalize c.cb m a=g2 at *
 generalize c.rb a=k1 at *
 generalize c.rb m=k2 at *
 generalize c.ob=ob at *
 generalize c.n=n at *
 generalize c.R=R at *
 clear hV hd hd' hno h1 h2
 go_enter func96,ntmps96
 go_wp2_with fail
 go_big_quiet ((fail))
 go_wp2_with fail
 refine (HL1.out _).mono ?_
 rintro e x2 ⟨rfl,rfl⟩
 go_wp2_with fail
 refine (HL2.out _).mono ?_
 rintro e x2 ⟨rfl,rfl⟩
 have HEN:=z9 (HEND.out nq)
 have e4:((w.drewN nq).setCell (ad g1 d) (.bool true)).cell? (ad g2 d')=some (.bool v3):=e2
 have f4:((w.drewN nq).setCell (ad g1 d) (.bool true)).frozen? (ad g2 d')=false:=f3
 have z4:g2<((w.drewN nq).setCell (ad g1 d) (.bool true)).heap.size:=by simpa using z2
 clear HEND HL1 HL2 e1 e2 e3 f1 f2 f3 o1 o2 r1 r2 rz1 rz2 oz z1
 generalize (w.drewN nq).setCell (ad g1 d) (.bool true)=y at *
 go_wp2_with fail
 go_end0
 exact HEN.out
theorem zm4 {B:Nat->Nat->Nat->Bool} (a:Nat) (w:World) (h:Zl c base B w) (ha:a<c.n) (hn:c.n<=16) (hR1:1<=c.R) (hR2:c.R<=128) :
  Calls prog 90 #[.slice (pA c.ob) c.n c.n,iV a] w fun e w'=>e=.returned (.bool (B a a 0))/\w'=w:=by
 have o1:=h.o.cell ha
 have oz:=h.o.lt
 have r1:=(h.r a ha).cell ha
 have rz1:=(h.r a ha).lt
 have e1:=(h.cc a a ha ha).cell (show 0<c.R by omega)
 have z1:=(h.cc a a ha ha).lt
 have hai:(a:Int)<(c.n:Int):=by omega
 have hri:(0:Int)<(c.R:Int):=by omega
 have hrn:0<c.R:=hR1
 generalize B a a 0=v at *
 generalize c.cb a a=g1 at *
 generalize c.rb a=k1 at *
 generalize c.ob=ob at *
 generalize c.n=n at *
 generalize c.R=R at *
 clear h
 go_enter func90,ntmps90
 go_wp2_with fail
 go_ret
 exact⟨rfl,rfl⟩
end
section
variable {c:Bc} {base:Nat}
def EvQ (Ev:Nat->Nat->Int->Prop) (l:Lf) (a m q r:Nat):Nat->Nat->Int->Prop:=fun a' m' o=>Ev a' m' o\/(a'=a/\m'=m/\∃q' r':Nat,(q'<q\/(q'=q/\r'<r))/\(q':Int)<l.bk a/\(r':Int)<l.bk m/\(a≠m\/q'≠r')/\o=(q':Int) - r')
def zi0 (Ev:Nat->Nat->Int->Prop) (l:Lf) (a m:Nat):Nat->Nat->Int->Prop:=fun a' m' o=>Ev a' m' o\/(a'=a/\m'=m/\EvS l a m o)
theorem ztw (Ev:Nat->Nat->Int->Prop) (l:Lf) (a m:Nat) (a' m':Nat) (o:Int):Ev a' m' o↔EvQ Ev l a m 0 0 a' m' o:=by
 refine⟨.inl,?_⟩
 rintro (h | ⟨-,-,q',r',h,-⟩)
 ·exact h
 ·omega
theorem zxj {l:Lf} (hq:(q:Int)<l.bk a) (hr:(r:Int)<l.bk m) (hne:a≠m\/q≠r) (a' m':Nat) (o:Int):zcc (EvQ Ev l a m q r) a m ((q:Int) - r) a' m' o↔EvQ Ev l a m q (r+1) a' m' o:=by
 constructor
 ·rintro ((h | ⟨rfl,rfl,q',r',h,h2⟩) | ⟨rfl,rfl,rfl⟩)
  ·exact .inl h
  ·exact .inr ⟨rfl,rfl,q',r',by omega,h2⟩
  ·exact .inr ⟨rfl,rfl,q,r,by omega,hq,hr,hne,rfl⟩
 ·rintro (h | ⟨rfl,rfl,q',r',h,h2,h3,h4,h5⟩)
  ·exact .inl (.inl h)
  ·by_cases e:q'=q/\r'=r
   ·obtain⟨rfl,rfl⟩:=e
    exact .inr ⟨rfl,rfl,h5⟩
   ·exact .inl (.inr ⟨rfl,rfl,q',r',by omega,h2,h3,h4,h5⟩)
theorem ztv {l:Lf} (hne:¬(a≠m\/q≠r)) (a' m':Nat) (o:Int):EvQ Ev l a m q r a' m' o↔EvQ Ev l a m q (r+1) a' m' o:=by
 constructor
 ·rintro (h | ⟨rfl,rfl,q',r',h,h2⟩)
  ·exact .inl h
  ·exact .inr ⟨rfl,rfl,q',r',by omega,h2⟩
 ·rintro (h | ⟨rfl,rfl,q',r',h,h2,h3,h4,h5⟩)
  ·exact .inl h
  ·refine .inr ⟨rfl,rfl,q',r',?_,h2,h3,h4,h5⟩
   by_cases e:q'=q/\r'=r
   ·obtain⟨rfl,rfl⟩:=e;exact absurd h4 hne
   ·omega
theorem zxk {l:Lf} (hr:¬(r:Int)<l.bk m) (a' m':Nat) (o:Int):EvQ Ev l a m q r a' m' o↔EvQ Ev l a m (q+1) 0 a' m' o:=by
 constructor
 ·rintro (h | ⟨rfl,rfl,q',r',h,h2⟩)
  ·exact .inl h
  ·exact .inr ⟨rfl,rfl,q',r',by omega,h2⟩
 ·rintro (h | ⟨rfl,rfl,q',r',h,h2,h3,h4,h5⟩)
  ·exact .inl h
  ·exact .inr ⟨rfl,rfl,q',r',by omega,h2,h3,h4,h5⟩
theorem zxi {l:Lf} (hq:¬(q:Int)<l.bk a) (a' m':Nat) (o:Int):EvQ Ev l a m q 0 a' m' o↔zi0 Ev l a m a' m' o:=by
 constructor
 ·rintro (h | ⟨rfl,rfl,q',r',h,h2⟩)
  ·exact .inl h
  ·exact .inr ⟨rfl,rfl,q',r',h2⟩
 ·rintro (h | ⟨rfl,rfl,q',r',h2,h3,h4,h5⟩)
  ·exact .inl h
  ·exact .inr ⟨rfl,rfl,q',r',by omega,h2,h3,h4,h5⟩
theorem zn9 (Ev:Nat->Nat->Int->Prop) (l:Lf) (lb a m:Nat) (w:World) (h:yQ c base Ev w) (hL:LvV c.n lb l w) (hlb:lb<base) (ok:zt3 c.n l) (ha:a<c.n) (hm:m<c.n) (hn:c.n<=16) (hR1:1<=c.R) (hR2:c.R<=128) :
  Calls prog 97 #[.slice (pA c.ob) c.n c.n,.slice (pA lb) c.n c.n,iV a,iV m] w fun e w'=>zww c base (zi0 Ev l a m) w e w':=by
 obtain⟨ba1,ba2⟩:=ok.bk a ha
 obtain⟨bm1,bm2⟩:=ok.bk m hm
 have hai:(a:Int)<(c.n:Int):=by omega
 have hmi:(m:Int)<(c.n:Int):=by omega
 have HBAR:=z9 (fun Ev' on W hW h1 h2=>znz (c:=c) (base:=base) Ev' a m on W hW ha hm hn hR1 hR2 h1 h2)
 have HST:Hid (yQ c base (EvQ Ev l a m 0 0) w):=h.congr fun a' m' _ _ o=>ztw _ _ _ _ _ _ _
 have HONE:Hid (∀(q r:Nat) W,(q:Int)<l.bk a->(r:Int)<l.bk m->(a≠m\/q≠r)->yQ c base (zcc (EvQ Ev l a m q r) a m ((q:Int) - r)) W->yQ c base (EvQ Ev l a m q (r+1)) W):=fun q r W h1 h2 h3 hW=>hW.congr fun a' m' _ _ o=>zxj h1 h2 h3 _ _ _
 have HSKIP:Hid (∀(q r:Nat) W,¬(a≠m\/q≠r)->yQ c base (EvQ Ev l a m q r) W->yQ c base (EvQ Ev l a m q (r+1)) W):=fun q r W h3 hW=>hW.congr fun a' m' _ _ o=>ztv h3 _ _ _
 have gS:Hid (∀(q r:Nat) W,¬(r:Int)<l.bk m->yQ c base (EvQ Ev l a m q r) W->yQ c base (EvQ Ev l a m (q+1) 0) W):=fun q r W h3 hW=>hW.congr fun a' m' _ _ o=>zxk h3 _ _ _
 have HEND:Hid (∀(q:Nat) W,¬(q:Int)<l.bk a->yQ c base (EvQ Ev l a m q 0) W->Below base w W->zww c base (zi0 Ev l a m) w (.returned (.tuple #[])) W):=fun q W h3 hW hb=>⟨rfl,hW.congr fun a' m' _ _ o=>zxi h3 _ _ _,hb⟩
 have HC:Hid (∀W,Below base w W->lb<W.heap.size/\W.cell? (ad lb (a*4+2))=sI (l.bk a)/\W.cell? (ad lb (m*4+2))=sI (l.bk m)):=fun W hW=>⟨(hL.gE hW hlb).lt,((hL.gE hW hlb).cells ha).2.2.1,((hL.gE hW hlb).cells hm).2.2.1⟩
 obtain⟨z0,z1,z2⟩:=HC.out w (Below.refl _ _)
 obtain⟨ba,hba⟩:∃ba,l.bk a=ba:=⟨_,rfl⟩
 obtain⟨bm,hbm⟩:∃bm,l.bk m=bm:=⟨_,rfl⟩
 rw [hba] at HONE HEND HC z1 ba1 ba2
 rw [hbm] at HONE gS HC z2 bm1 bm2
 have HN0:=z9 (⟨hn,hR1,hR2⟩:c.n<=16/\1<=c.R/\c.R<=128)
 obtain⟨ob,hob⟩:∃ob,c.ob=ob:=⟨_,rfl⟩
 obtain⟨n,hnn⟩:∃n,c.n=n:=⟨_,rfl⟩
 rw [hob,hnn] at HBAR ⊢
 rw [hnn] at hai hmi hn
 clear h hL ok hba hbm hob hnn ha hm hR1 hR2 hlb
 go_enter func97,ntmps97
 go_wp2_with fail
 clear z0 z1 z2
 go_loopw [15] (fun qv wr=>∃q:Nat,(q:Int)<=ba/\qv=iV q/\yQ c base (EvQ Ev l a m q 0) wr/\Below base w wr) (fun qv _=>(ba - intOf qv).toNat)
 case atStart=>exact⟨0,by omega,rfl,HST.out,Below.refl _ _⟩
 case round =>
  clear HST
  obtain⟨q,hq,rfl,hE,gH⟩:=hrel
  have HE:=z9 hE
  have HB:=z9 gH
  by_cases hqb:(q:Int)<ba
  ·obtain⟨z0,z1,z2⟩:=HC.out wr gH
   clear hE gH
   rename World=>wo
   go_wp2_with fail
   clear z0 z1 z2
   go_loopw [23] (fun rv wr=>∃r:Nat,(r:Int)<=bm/\rv=iV r/\yQ c base (EvQ Ev l a m q r) wr/\Below base w wr) (fun rv _=>(bm - intOf rv).toNat)
   case atStart=>exact⟨0,by omega,rfl,HE.out,HB.out⟩
   case round =>
    clear HE HB
    obtain⟨r,hr,rfl,hE,gH⟩:=hrel
    have HE:=z9 hE
    have HB:=z9 gH
    clear hE gH
    by_cases hrb:(r:Int)<bm
    ·have hwq:wrap64 ((q:Int) - r)=(q:Int) - r:=by unfold wrap64;omega
     by_cases eam:a=m
     ·have hb1:((a:Int) == (m:Int))=true:=by simp [eam]
      have hb2:(a:Int)=(m:Int):=by omega
      by_cases eqr:q=r
      ·have hb3:((q:Int) == (r:Int))=true:=by simp [eqr]
       have hb4:(q:Int)=(r:Int):=by omega
       have HS:=z9 (HSKIP.out q r wr (by omega) HE.out)
       subst eam eqr
       clear hb1 hb2 hb3 hb4
       go_wp2_with fail
       go_roundw
       case rel=>exact⟨q+1,by omega,by go_num,HS.out,HB.out⟩
       case measure=>simp [intOf];omega
      ·have hb3:((q:Int) == (r:Int))=false:=by simp;omega
       have hb4:¬(q:Int)=(r:Int):=by omega
       have HS:=z9 (fun W hW=>HONE.out q r W hqb hrb (.inr eqr) hW)
       have HCALL:=z9 (HBAR.out _ ((q:Int) - r) wr HE.out (by omega) (by omega))
       subst eam
       clear hb1 hb2
       go_wp2_with fail
       refine HCALL.out.mono ?_
       rintro e x2 ⟨rfl,hE2,hb2⟩
       have HS2:=z9 (HS.out _ hE2)
       have HB2:=z9 (HB.out.trans hb2)
       clear hE2 hb2
       go_wp2_with fail
       go_roundw
       case rel=>exact⟨r+1,by omega,by go_num,HS2.out,HB2.out⟩
       case measure=>simp [intOf];omega
     ·have hb1:((a:Int) == (m:Int))=false:=by simp;omega
      have hb2:¬(a:Int)=(m:Int):=by omega
      have HS:=z9 (fun W hW=>HONE.out q r W hqb hrb (.inl eam) hW)
      have HCALL:=z9 (HBAR.out _ ((q:Int) - r) wr HE.out (by omega) (by omega))
      go_wp2_with fail
      refine HCALL.out.mono ?_
      rintro e x2 ⟨rfl,hE2,hb2⟩
      have HS2:=z9 (HS.out _ hE2)
      have HB2:=z9 (HB.out.trans hb2)
      clear hE2 hb2
      go_wp2_with fail
      go_roundw
      case rel=>exact⟨r+1,by omega,by go_num,HS2.out,HB2.out⟩
      case measure=>simp [intOf];omega
    ·have HR:=z9 (gS.out q r wr (by omega) HE.out)
     go_wp2_with fail
     go_roundw
     case rel=>exact⟨q+1,by omega,by go_num,HR.out,HB.out⟩
     case measure=>simp [intOf];omega
  ·have HP:=z9 (HEND.out q wr (by omega) hE gH)
   clear hE gH
   go_wp2_with fail
   go_end0
   exact HP.out
end
section
structure XR (w:World) (n R k k' j:Nat) (rb:Nat->Nat) (cb:Nat->Nat->Nat) (x:World):Prop where
 bel:Bw w x
 o:zu x w.heap.size 197 n (fun a=>if a<k' then .slice (pA (rb a)) n n else .slice none 0 0)
 r:∀a,a<k'->zu x (rb a) 148 n (fun m=>if a<k\/m<j then .slice (pA (cb a m)) R R else .slice none 0 0)
 cc:∀a m,a<k'->m<n->(a<k\/m<j)->zu x (cb a m) 4 R (fun _=>.bool false)
 inj:∀a m a' m',a<k'->m<n->(a<k\/m<j)->a'<k'->m'<n->(a'<k\/m'<j)->cb a m=cb a' m'->a=a'/\m=m'
 rinj:∀a a',a<k'->a'<k'->rb a=rb a'->a=a'
 ger:∀a,a<k'->w.heap.size<=rb a
 gec:∀a m,a<k'->m<n->(a<k\/m<j)->w.heap.size<=cb a m
variable {w x y:World} {n R k j:Nat} {rb:Nat->Nat} {cb:Nat->Nat->Nat}
theorem XR.gE {k':Nat} (h:XR w n R k k' j rb cb x) (hb:Bw x y):XR w n R k k' j rb cb y :=
 ⟨h.bel.trans (hb.mono h.bel.size),h.o.gE hb h.o.lt,fun a ha=>(h.r a ha).gE hb (h.r a ha).lt,fun a m ha hm hd=>(h.cc a m ha hm hd).gE hb (h.cc a m ha hm hd).lt,h.inj,h.rinj,h.ger,h.gec⟩
theorem XR.start (w:World) (n R:Nat):XR w n R 0 0 0 (fun _=>0) (fun _ _=>0) (w.alloc (.cells (madeCells #[.slice none 0 0] n) 197)) :=
 ⟨below_alloc1 _ _,(zu.zeros w (.slice none 0 0) n _).congr fun i _=>by rw [if_neg (by omega)],fun a ha=>absurd ha (Nat.not_lt_zero _),fun a m ha=>absurd ha (Nat.not_lt_zero _),fun a m a' m' ha=>absurd ha (Nat.not_lt_zero _),fun a a' ha=>absurd ha (Nat.not_lt_zero _),fun a ha=>absurd ha (Nat.not_lt_zero _),fun a m ha=>absurd ha (Nat.not_lt_zero _)⟩
def upN (rb:Nat->Nat) (k g:Nat):Nat->Nat:=fun a=>if a=k then g else rb a
def upM (cb:Nat->Nat->Nat) (k j g:Nat):Nat->Nat->Nat:=fun a m=>if a=k/\m=j then g else cb a m
theorem zg8 (x:World) (a:Addr) (v:Value):(x.setCell a v).heap.size=x.heap.size:=by simp
theorem XR.row (h:XR w n R k k j rb cb x) (hk:k<n):XR w n R k (k+1) 0 (upN rb k x.heap.size) cb ((x.setCell (ad w.heap.size k) (.slice (pA x.heap.size) n n)).alloc (.cells (madeCells #[.slice none 0 0] n) 148)):=by
 have hro:∀a,a<k->rb a<x.heap.size:=fun a ha=>(h.r a ha).lt
 have hne:∀a,a<k->upN rb k x.heap.size a=rb a:=fun a ha=>by unfold upN;rw [if_neg (by omega)]
 have heq:upN rb k x.heap.size k=x.heap.size:=by unfold upN;rw [if_pos rfl]
 have hb1:Below w.heap.size x (x.setCell (ad w.heap.size k) (.slice (pA x.heap.size) n n)):=Below.setCell (Below.refl w.heap.size x) (show w.heap.size<=w.heap.size from Nat.le_refl _) _
 have hz:=zg8 x (ad w.heap.size k) (.slice (pA x.heap.size) n n)
 refine⟨(h.bel.trans hb1).alloc (by rw [hz];exact h.bel.size) _,?_,fun a ha=>?_,fun a m ha hm hd=>?_,fun a m a' m' ha hm hd ha' hm' hd'=>h.inj a m a' m' (by omega) hm (by omega) (by omega) hm' (by omega),fun a a' ha ha' e=>?_,fun a ha=>?_,fun a m ha hm hd=>h.gec a m (by omega) hm (by omega)⟩
 ·refine ((h.o.set k _ hk).alloc _).congr fun a _=>?_
  by_cases e:a=k
  ·rw [if_pos e,if_pos (by omega),e,heq]
  ·rw [if_neg e]
   by_cases e2:a<k
   ·rw [if_pos e2,if_pos (by omega),hne a e2]
   ·rw [if_neg e2,if_neg (by omega)]
 ·by_cases e:a=k
  ·rw [e,heq]
   have hzz:=zu.zeros (x.setCell (ad w.heap.size k) (.slice (pA x.heap.size) n n)) (.slice none 0 0) n 148
   rw [hz] at hzz
   refine hzz.congr fun i _=>?_
   rw [if_neg (by omega)]
  ·have e2:a<k:=by omega
   rw [hne a e2]
   refine (((h.r a e2).gF ((h.r a e2).apart h.o (by decide)) _).alloc _).congr fun i _=>?_
   rw [if_pos (.inl e2),if_pos (.inl e2)]
 ·have e2:a<k:=by omega
  have h1:=h.cc a m e2 hm (.inl e2)
  exact (h1.gF (h1.apart h.o (by decide)) _).alloc _
 ·by_cases e1:a=k
  ·by_cases e2:a'=k
   ·omega
   ·rw [e1,heq,hne a' (by omega)] at e
    have:=hro a' (by omega)
    omega
  ·by_cases e2:a'=k
   ·rw [e2,heq,hne a (by omega)] at e
    have:=hro a (by omega)
    omega
   ·rw [hne a (by omega),hne a' (by omega)] at e
    exact h.rinj a a' (by omega) (by omega) e
 ·by_cases e1:a=k
  ·rw [e1,heq];exact h.bel.size
  ·rw [hne a (by omega)];exact h.ger a (by omega)
theorem XR.cell (h:XR w n R k (k+1) j rb cb x) (hj:j<n):XR w n R k (k+1) (j+1) rb (upM cb k j x.heap.size) ((x.setCell (ad (rb k) j) (.slice (pA x.heap.size) R R)).alloc (.cells (madeCells #[.bool false] R) 4)):=by
 have hne:∀a m,¬(a=k/\m=j)->upM cb k j x.heap.size a m=cb a m:=fun a m ha=>by unfold upM;rw [if_neg ha]
 have heq:upM cb k j x.heap.size k j=x.heap.size:=by unfold upM;rw [if_pos ⟨rfl,rfl⟩]
 have hk:=Nat.lt_succ_self k
 have hb1:Below w.heap.size x (x.setCell (ad (rb k) j) (.slice (pA x.heap.size) R R)):=(Below.refl _ _).setCell (h.ger k hk) _
 have hz:=zg8 x (ad (rb k) j) (.slice (pA x.heap.size) R R)
 refine⟨(h.bel.trans hb1).alloc (by rw [hz];exact h.bel.size) _,(h.o.gF (h.o.apart (h.r k hk) (by decide)) _).alloc _,fun a ha=>?_,fun a m ha hm hd=>?_,fun a m a' m' ha hm hd ha' hm' hd' e=>?_,h.rinj,h.ger,fun a m ha hm hd=>?_⟩
 ·by_cases e:a=k
  ·rw [e]
   refine (((h.r k hk).set j _ hj).alloc _).congr fun i _=>?_
   by_cases e2:i=j
   ·rw [if_pos e2,if_pos (by omega),e2,heq]
   ·rw [if_neg e2,hne _ _ (by omega)]
    by_cases e3:i<j
    ·rw [if_pos (.inr e3),if_pos (by omega)]
    ·rw [if_neg (by omega),if_neg (by omega)]
  ·have e2:a<k:=by omega
   refine (((h.r a ha).gF (fun e3=>e (h.rinj a k ha hk e3)) _).alloc _).congr fun i _=>?_
   rw [if_pos (.inl e2),if_pos (.inl e2),hne _ _ (by omega)]
 ·by_cases e:a=k/\m=j
  ·rw [e.1,e.2,heq]
   have hzz:=zu.zeros (x.setCell (ad (rb k) j) (.slice (pA x.heap.size) R R)) (.bool false) R 4
   rw [hz] at hzz
   exact hzz
  ·rw [hne a m e]
   have h1:=h.cc a m ha hm (by omega)
   exact (h1.gF (h1.apart (h.r k hk) (by decide)) _).alloc _
 ·by_cases e1:a=k/\m=j
  ·by_cases e2:a'=k/\m'=j
   ·omega
   ·rw [e1.1,e1.2,heq,hne a' m' e2] at e
    have:=(h.cc a' m' ha' hm' (by omega)).lt
    omega
  ·by_cases e2:a'=k/\m'=j
   ·rw [e2.1,e2.2,heq,hne a m e1] at e
    have:=(h.cc a m ha hm (by omega)).lt
    omega
   ·rw [hne a m e1,hne a' m' e2] at e
    exact h.inj a m a' m' ha hm (by omega) ha' hm' (by omega) e
 ·by_cases e1:a=k/\m=j
  ·rw [e1.1,e1.2,heq];exact h.bel.size
  ·rw [hne a m e1];exact h.gec a m ha hm (by omega)
theorem XR.full (h:XR w n R k (k+1) n rb cb x):XR w n R (k+1) (k+1) 0 rb cb x :=
 ⟨h.bel,h.o,fun a ha=>(h.r a ha).congr fun i hi=>by rw [if_pos (.inr hi),if_pos (.inl ha)],fun a m ha hm _=>h.cc a m ha hm (.inr hm),fun a m a' m' ha hm _ ha' hm' _=>h.inj a m a' m' ha hm (.inr hm) ha' hm' (.inr hm'),h.rinj,h.ger,fun a m ha hm _=>h.gec a m ha hm (.inr hm)⟩
theorem XR.done (h:XR w n R n n 0 rb cb x):yQ ⟨n,R,w.heap.size,rb,cb⟩ w.heap.size (fun _ _ _=>False) x:=by
 refine⟨fun _ _ _=>false,⟨h.o.congr fun i hi=>by rw [if_pos hi],fun a ha=>(h.r a ha).congr fun i hi=>by rw [if_pos (.inl ha)],fun a m ha hm=>h.cc a m ha hm (.inl ha),fun a m a' m' ha hm ha' hm'=>h.inj a m a' m' ha hm (.inl ha) ha' hm' (.inl ha'),Nat.le_refl _,h.ger,fun a m ha hm=>h.gec a m ha hm (.inl ha)⟩,fun a m ha hm d hd=>⟨fun h=>absurd h (by simp),?_⟩⟩
 rintro ⟨o,⟨h,-⟩ | ⟨h,-⟩⟩ <;> exact h.elim
def yb4 (w:World) (n R:Nat) (e:Ending) (w':World):Prop:=∃rb cb,e=.returned (.slice (pA w.heap.size) n n)/\yQ ⟨n,R,w.heap.size,rb,cb⟩ w.heap.size (fun _ _ _=>False) w'/\Bw w w'
theorem zyk:(prog.info? 197).map (fun i=>(i.zero,i.size,i.bytes))=some (some (.slice none 0 0),1,24):=by kernel_rfl
theorem zyl:(prog.info? 148).map (fun i=>(i.zero,i.size,i.bytes))=some (some (.slice none 0 0),1,24):=by kernel_rfl
theorem zoq:(prog.info? 4).map (fun i=>(i.zero,i.size,i.bytes))=some (some (.bool false),1,1):=by kernel_rfl
theorem zjm (n R:Nat) (w:World) (hn1:1<=n) (hn:n<=16) (hR1:1<=R) (hR2:R<=128) :
  Calls prog 94 #[iV n,iV R] w fun e w'=>yb4 w n R e w':=by
 have HST:=z9 (XR.start w n R)
 have hmk0:=run_make_row' (P:=prog) 92 197 (.slice none 0 0) 24 underlying92 zyk rfl .i64 .i64 n (by omega) (by omega)
 have hmk1:=run_make_row' (P:=prog) 197 148 (.slice none 0 0) 24 underlying197 zyl rfl .i64 .i64 n (by omega) (by omega)
 have hmk2:=run_make_row' (P:=prog) 148 4 (.bool false) 1 underlying148 zoq rfl .i64 .i64 R (by omega) (by omega)
 go_enter func94,ntmps94
 go_wp2_with fail
 go_loopw [11] (fun kv wr=>∃(k:Nat) (rb:Nat->Nat) (cb:Nat->Nat->Nat),k<=n/\kv=iV k/\XR w n R k k 0 rb cb wr) (fun kv _=>n - (intOf kv).toNat)
 case atStart=>exact⟨0,_,_,Nat.zero_le _,rfl,HST.out⟩
 case round =>
  clear HST
  obtain⟨k,rb,cb,hk,rfl,hI⟩:=hrel
  by_cases hkn:k<n
  ·have hki:(k:Int)<(n:Int):=by omega
   have HI:=z9 (hI.row hkn)
   have oc:=hI.o.cell hkn
   have of:=hI.o.frozen k
   have oz:=hI.o.lt
   rw [if_neg (by omega)] at oc
   clear hI
   rename World=>wo
   go_wp2_with fail
   clear oc of oz
   go_loopw [20] (fun jv wr=>∃(j:Nat) (rb:Nat->Nat) (cb:Nat->Nat->Nat),j<=n/\jv=iV j/\XR w n R k (k+1) j rb cb wr) (fun jv _=>n - (intOf jv).toNat)
   case atStart=>exact⟨0,_,_,Nat.zero_le _,rfl,HI.out⟩
   case round =>
    clear HI
    obtain⟨j,rb,cb,hj,rfl,hI⟩:=hrel
    by_cases hjn:j<n
    ·have hji:(j:Int)<(n:Int):=by omega
     have hk1:=Nat.lt_succ_self k
     have HI:=z9 ((hI.cell hjn).gE (below_draws _ _ 1))
     have oc:=hI.o.cell hkn
     have oz:=hI.o.lt
     have rc:=(hI.r k hk1).cell hjn
     have rf:=(hI.r k hk1).frozen j
     have rz:=(hI.r k hk1).lt
     rw [if_pos hk1] at oc
     rw [if_neg (by omega)] at rc
     clear hI hk1
     generalize rb k=rk at *
     go_wp2_with fail
     go_region
     go_wp2_with fail
     go_roundw
     case rel=>exact⟨j+1,rb,upM cb k j wr.heap.size,by omega,by go_num,HI.out⟩
     case measure=>simp [intOf];omega
    ·have e:j=n:=by omega
     subst e
     have hji:¬(j:Int)<(j:Int):=by omega
     have HF:=z9 hI.full
     clear hI
     go_wp2_with fail
     go_roundw
     case rel=>exact⟨k+1,rb,cb,by omega,by go_num,HF.out⟩
     case measure=>simp [intOf];omega
  ·have e:k=n:=by omega
   subst e
   have hki:¬(k:Int)<(k:Int):=by omega
   have HP:Hid (yb4 w k R (.returned (.slice (pA w.heap.size) k k)) wr):=⟨rb,cb,rfl,hI.done,hI.bel⟩
   clear hI
   go_wp2_with fail
   go_ret
   exact HP.out
end
def EvL (l:Lf) (P R:Int) (k j:Nat):Nat->Nat->Int->Prop:=fun a' m' o=>(a'<k\/(a'=k/\m'<j))/\EvR l P R a' m' o
def EvU (Ev:Nat->Nat->Int->Prop) (a m:Nat) (f tn:Int):Nat->Nat->Int->Prop:=fun a' m' o=>Ev a' m' o\/(a'=a/\m'=m/\f<=o/\o<tn)
theorem ztx (Ev:Nat->Nat->Int->Prop) (a m:Nat) (f:Int) (a' m':Nat) (o:Int):Ev a' m' o↔EvU Ev a m f f a' m' o:=by
 refine⟨.inl,?_⟩
 rintro (h | ⟨-,-,h1,h2⟩)
 ·exact h
 ·omega
theorem zo5 {f:Int} (h:f<=tn) (a' m':Nat) (o:Int):zcc (EvU Ev a m f tn) a m tn a' m' o↔EvU Ev a m f (tn+1) a' m' o:=by
 constructor
 ·rintro ((h | ⟨rfl,rfl,h1,h2⟩) | ⟨rfl,rfl,rfl⟩)
  ·exact .inl h
  ·exact .inr ⟨rfl,rfl,by omega,by omega⟩
  ·exact .inr ⟨rfl,rfl,by omega,by omega⟩
 ·rintro (h | ⟨rfl,rfl,h1,h2⟩)
  ·exact .inl (.inl h)
  ·by_cases e:o=tn
   ·exact .inr ⟨rfl,rfl,e⟩
   ·exact .inl (.inr ⟨rfl,rfl,by omega,by omega⟩)
theorem ztt {l:Lf} {P R:Int} {k j:Nat} {lt:Int} (h1:lt<tn) (h2:tn<=lt+1\/tn=Zo l P k j) (hl:lt=min (Ug l P k j) (Zo l P k j+R - 1)) (a' m':Nat) (o:Int):zi0 (EvU (EvL l P R k j) k j (Zo l P k j) tn) l k j a' m' o↔EvL l P R k (j+1) a' m' o:=by
 constructor
 ·rintro ((⟨h3,h4⟩ | ⟨rfl,rfl,h3,h4⟩) | ⟨rfl,rfl,h3⟩)
  ·exact⟨by omega,h4⟩
  ·exact⟨.inr ⟨rfl,by omega⟩,.inl ⟨h3,by omega,by omega⟩⟩
  ·exact⟨.inr ⟨rfl,by omega⟩,.inr h3⟩
 ·rintro ⟨h3,h4⟩
  by_cases e:a'=k/\m'=j
  ·obtain⟨rfl,rfl⟩:=e
   rcases h4 with ⟨g1,g2,g3⟩ | h4
   ·exact .inl (.inr ⟨rfl,rfl,g1,by omega⟩)
   ·exact .inr ⟨rfl,rfl,h4⟩
  ·exact .inl (.inl ⟨by omega,h4⟩)
theorem zxh {l:Lf} {P R:Int} {k n:Nat} (a' m':Nat) (hm:m'<n) (o:Int):EvL l P R k n a' m' o↔EvL l P R (k+1) 0 a' m' o:=by
 constructor
 ·rintro ⟨h3,h4⟩
  exact⟨by omega,h4⟩
 ·rintro ⟨h3,h4⟩
  exact⟨by omega,h4⟩
theorem zxg {l:Lf} {P R:Int} {n:Nat} (a' m':Nat) (ha:a'<n) (o:Int):EvL l P R n 0 a' m' o↔EvR l P R a' m' o:=⟨fun h=>h.2,fun h=>⟨.inl ha,h⟩⟩
theorem ztu {l:Lf} {P R:Int} (a' m':Nat) (o:Int):False↔EvL l P R 0 0 a' m' o:=⟨fun h=>h.elim,fun ⟨h,_⟩=>by omega⟩
theorem znk {n:Nat} {l:Lf} {P:Int} (ok:zt3 n l) (hP1:1<=P) (ha:a<n) (hm:m<n):-2000000<=Zo l P a m/\Zo l P a m<=2000/\-2000000<=Ug l P a m/\Ug l P a m<=2000/\-2000<=Zo l P a m:=by
 obtain⟨ra1,ra2⟩:=ok.rd a ha
 obtain⟨rm1,rm2⟩:=ok.rd m hm
 obtain⟨ua1,ua2⟩:=ok.un a ha
 have b1:-1100<=(l.rd m - l.rd a) / P:=(Int.le_ediv_iff_mul_le (by omega)).2 (by have:(-1100)*P<=(-1100)*1:=Int.mul_le_mul_of_nonpos_left (by omega) hP1;omega)
 have b2:(l.rd m - l.rd a) / P<1100:=(Int.ediv_lt_iff_lt_mul (by omega)).2 (by have:1100*1<=1100*P:=Int.mul_le_mul_of_nonneg_left hP1 (by omega);omega)
 have b3:-1100<=(l.un a - l.rd m) / P:=(Int.le_ediv_iff_mul_le (by omega)).2 (by have:(-1100)*P<=(-1100)*1:=Int.mul_le_mul_of_nonpos_left (by omega) hP1;omega)
 have b4:(l.un a - l.rd m) / P<1700:=(Int.ediv_lt_iff_lt_mul (by omega)).2 (by have:1700*1<=1700*P:=Int.mul_le_mul_of_nonneg_left hP1 (by omega);omega)
 have hno:-1100<=zb5 l P a m/\zb5 l P a m<=1100:=by
  unfold zb5
  split <;> omega
 have hf:-1100<=Zo l P a m/\Zo l P a m<=1100:=by
  unfold Zo
  split <;> omega
 have hl:-1100<=Ug l P a m/\Ug l P a m<=1700:=by
  unfold Ug
  split <;> omega
 omega
def yb6 (w:World) (n R:Nat) (l:Lf) (P:Int) (e:Ending) (w':World):Prop:=∃rb cb,e=.returned (.slice (pA w.heap.size) n n)/\yQ ⟨n,R,w.heap.size,rb,cb⟩ w.heap.size (EvR l P R) w'/\Bw w w'
theorem zl9 (n R lb:Nat) (l:Lf) (P:Int) (w:World) (hL:LvV n lb l w) (ok:zt3 n l) (hn1:1<=n) (hn:n<=16) (hR1:1<=R) (hR2:R<=128) (hP1:1<=P) (hP2:P<=200) :
  Calls prog 42 #[.slice (pA lb) n n,iV P,iV R] w fun e w'=>yb6 w n R l P e w':=by
 have hlb:=hL.lt
 have HNEW:=z9 (zjm n R w hn1 hn hR1 hR2)
 have HRNG:=z9 (fun a m (ha:a<n) (hm:m<n)=>znk (P:=P) ok hP1 ha hm)
 have HTURN:=z9 (fun a m W (ha:a<n) (hm:m<n) (hW:Bw w W)=>zsr n lb l P a m W (hL.gE hW hlb) ok hn ha hm hP1 hP2)
 have HBAR:=z9 (fun rb cb Ev a m on W (hW:yQ ⟨n,R,w.heap.size,rb,cb⟩ w.heap.size Ev W) (ha:a<n) (hm:m<n) h1 h2=>znz (c:=⟨n,R,w.heap.size,rb,cb⟩) Ev a m on W hW ha hm hn hR1 hR2 h1 h2)
 have HSTA:=z9 (fun rb cb Ev a m W (hW:yQ ⟨n,R,w.heap.size,rb,cb⟩ w.heap.size Ev W) (hb:Bw w W) (ha:a<n) (hm:m<n)=>zn9 (c:=⟨n,R,w.heap.size,rb,cb⟩) Ev l lb a m W hW (hL.gE hb hlb) hlb ok ha hm hn hR1 hR2)
 clear hL ok
 go_enter func42,ntmps42
 go_wp2_with fail
 refine HNEW.out.mono ?_
 rintro e x0 ⟨rb,cb,rfl,hE0,hb0⟩
 have HE0:Hid (yQ ⟨n,R,w.heap.size,rb,cb⟩ w.heap.size (EvL l P R 0 0) x0):=hE0.congr fun a' m' _ _ o=>ztu _ _ _
 have HB0:=z9 hb0
 clear hE0 hb0 HNEW
 go_wp2_with fail
 go_loopw [19] (fun kv wr=>∃k:Nat,k<=n/\kv=iV k/\yQ ⟨n,R,w.heap.size,rb,cb⟩ w.heap.size (EvL l P R k 0) wr/\Bw w wr) (fun kv _=>n - (intOf kv).toNat)
 case atStart=>exact⟨0,Nat.zero_le _,rfl,HE0.out,HB0.out⟩
 case round =>
  clear HE0 HB0
  obtain⟨k,hk,rfl,hE,hb⟩:=hrel
  have HE:=z9 hE
  have HB:=z9 hb
  clear hE hb
  by_cases hkn:k<n
  ·have hki:(k:Int)<(n:Int):=by omega
   rename World=>wo
   go_wp2_with fail
   go_loopw [24] (fun jv wr=>∃j:Nat,j<=n/\jv=iV j/\yQ ⟨n,R,w.heap.size,rb,cb⟩ w.heap.size (EvL l P R k j) wr/\Bw w wr) (fun jv _=>n - (intOf jv).toNat)
   case atStart=>exact⟨0,Nat.zero_le _,rfl,HE.out,HB.out⟩
   case round =>
    clear HE HB
    obtain⟨j,hj,rfl,hE,hb⟩:=hrel
    have HE:=z9 hE
    have HB:=z9 hb
    clear hE hb
    by_cases hjn:j<n
    ·have hji:(j:Int)<(n:Int):=by omega
     have HT:=z9 (HTURN.out k j wr hkn hjn HB.out)
     obtain⟨g1,g2,g3,g4,g5⟩:=HRNG.out k j hkn hjn
     have HNX:Hid (∀W lt tn,lt<tn->(tn<=lt+1\/tn=Zo l P k j)->lt=min (Ug l P k j) (Zo l P k j+R - 1)->yQ ⟨n,R,w.heap.size,rb,cb⟩ w.heap.size (zi0 (EvU (EvL l P R k j) k j (Zo l P k j) tn) l k j) W->yQ ⟨n,R,w.heap.size,rb,cb⟩ w.heap.size (EvL l P R k (j+1)) W):=fun W lt tn q1 q2 q3 hW=>hW.congr fun a' m' _ _ o=>ztt q1 q2 q3 _ _ _
     have HU0:Hid (∀m,yQ ⟨n,R,w.heap.size,rb,cb⟩ w.heap.size (EvU (EvL l P R k j) k j (Zo l P k j) (Zo l P k j)) (wr.drewN m)):=fun m=>(HE.out.gE (below_draws _ _ m)).congr fun a' m' _ _ o=>ztx _ _ _ _ _ _ _
     obtain⟨f,hf⟩:∃f,Zo l P k j=f:=⟨_,rfl⟩
     obtain⟨t,ht⟩:∃t,Ug l P k j=t:=⟨_,rfl⟩
     rw [hf,ht] at HT HNX
     rw [hf] at HU0 g1 g2 g5
     rw [ht] at g3 g4
     have hw1:wrap64 (f+R)=f+R:=by unfold wrap64;omega
     have hw2:wrap64 (f+R - 1)=f+R - 1:=by unfold wrap64;omega
     clear hf ht HE
     rename World=>w1
     go_wp2_with fail
     refine HT.out.mono ?_
     rintro e x1 ⟨rfl,mm,rfl⟩
     have HBX:Hid (Bw w (w1.drewN mm)):=HB.out.trans (below_draws _ _ _)
     have HUX:=z9 (HU0.out mm)
     generalize w1.drewN mm=y at *
     clear HB HU0 HT
     have hcs:(t=min t (f+R - 1)/\¬f+R - 1<t/\t<=3000)\/(f+R - 1=min t (f+R - 1)/\f+R - 1<t/\f+R - 1<=3000):=by omega
     rcases hcs with ⟨hlt,hmn,hlt3⟩ | ⟨hlt,hmn,hlt3⟩
     ·have HLT:=z9 hlt
      clear hlt
      go_wp2_with fail
      clear hmn
      generalize t=lt at *
      clear hw1
      go_loopw [12] (fun tv wr=>∃tn:Int,tv=iV tn/\f<=tn/\(tn<=lt+1\/tn=f)/\yQ ⟨n,R,w.heap.size,rb,cb⟩ w.heap.size (EvU (EvL l P R k j) k j f tn) wr/\Bw w wr) (fun tv _=>(lt+1 - intOf tv).toNat)
      case atStart=>exact⟨f,rfl,Int.le_refl _,.inr rfl,HUX.out,HBX.out⟩
      case round =>
       clear HUX HBX
       obtain⟨tn,rfl,ht1,ht2,hE,hb⟩:=hrel
       have HE:=z9 hE
       have HB:=z9 hb
       clear hE hb
       by_cases htl:tn<=lt
       ·have hw3:wrap64 (tn+1)=tn+1:=by unfold wrap64;omega
        have HC:=z9 (HBAR.out rb cb _ k j tn wr HE.out hkn hjn (by omega) (by omega))
        go_wp2_with fail
        refine HC.out.mono ?_
        rintro e x2 ⟨rfl,hE2,hb2⟩
        have HE2:Hid (yQ ⟨n,R,w.heap.size,rb,cb⟩ w.heap.size (EvU (EvL l P R k j) k j f (tn+1)) x2):=hE2.congr fun a' m' _ _ o=>zo5 ht1 _ _ _
        have HB2:=z9 (HB.out.trans hb2)
        clear hE2 hb2 HC
        go_wp2_with fail
        go_roundw
        case rel=>exact⟨tn+1,by first | rfl | go_num,by omega,.inl (by omega),HE2.out,HB2.out⟩
        case measure=>simp [intOf];omega
       ·have HC:=z9 (HSTA.out rb cb _ k j wr HE.out HB.out hkn hjn)
        have HN2:=z9 (fun W hW=>HNX.out W lt tn (by omega) ht2 HLT.out hW)
        go_wp2_with fail
        refine HC.out.mono ?_
        rintro e x2 ⟨rfl,hE2,hb2⟩
        have HE2:=z9 (HN2.out _ hE2)
        have HB2:=z9 (HB.out.trans hb2)
        clear hE2 hb2 HC HN2
        go_wp2_with fail
        go_roundw
        case rel=>exact⟨j+1,by omega,by go_num,HE2.out,HB2.out⟩
        case measure=>simp [intOf];omega
     ·have HLT:=z9 hlt
      clear hlt
      go_wp2_with fail
      clear hmn
      generalize f+(R:Int) - 1=lt at *
      clear hw1
      go_loopw [12] (fun tv wr=>∃tn:Int,tv=iV tn/\f<=tn/\(tn<=lt+1\/tn=f)/\yQ ⟨n,R,w.heap.size,rb,cb⟩ w.heap.size (EvU (EvL l P R k j) k j f tn) wr/\Bw w wr) (fun tv _=>(lt+1 - intOf tv).toNat)
      case atStart=>exact⟨f,rfl,Int.le_refl _,.inr rfl,HUX.out,HBX.out⟩
      case round =>
       clear HUX HBX
       obtain⟨tn,rfl,ht1,ht2,hE,hb⟩:=hrel
       have HE:=z9 hE
       have HB:=z9 hb
       clear hE hb
       by_cases htl:tn<=lt
       ·have hw3:wrap64 (tn+1)=tn+1:=by unfold wrap64;omega
        have HC:=z9 (HBAR.out rb cb _ k j tn wr HE.out hkn hjn (by omega) (by omega))
        go_wp2_with fail
        refine HC.out.mono ?_
        rintro e x2 ⟨rfl,hE2,hb2⟩
        have HE2:Hid (yQ ⟨n,R,w.heap.size,rb,cb⟩ w.heap.size (EvU (EvL l P R k j) k j f (tn+1)) x2):=hE2.congr fun a' m' _ _ o=>zo5 ht1 _ _ _
        have HB2:=z9 (HB.out.trans hb2)
        clear hE2 hb2 HC
        go_wp2_with fail
        go_roundw
        case rel=>exact⟨tn+1,by first | rfl | go_num,by omega,.inl (by omega),HE2.out,HB2.out⟩
        case measure=>simp [intOf];omega
       ·have HC:=z9 (HSTA.out rb cb _ k j wr HE.out HB.out hkn hjn)
        have HN2:=z9 (fun W hW=>HNX.out W lt tn (by omega) ht2 HLT.out hW)
        go_wp2_with fail
        refine HC.out.mono ?_
        rintro e x2 ⟨rfl,hE2,hb2⟩
        have HE2:=z9 (HN2.out _ hE2)
        have HB2:=z9 (HB.out.trans hb2)
        clear hE2 hb2 HC HN2
        go_wp2_with fail
        go_roundw
        case rel=>exact⟨j+1,by omega,by go_num,HE2.out,HB2.out⟩
        case measure=>simp [intOf];omega
    ·have e:j=n:=by omega
     have hji:¬(j:Int)<(n:Int):=by omega
     have HF:Hid (yQ ⟨n,R,w.heap.size,rb,cb⟩ w.heap.size (EvL l P R (k+1) 0) wr):=by
      have h:=HE.out
      rw [e] at h
      exact h.congr fun a' m' _ hm' o=>zxh _ _ hm' _
     clear e
     go_wp2_with fail
     go_roundw
     case rel=>exact⟨k+1,by omega,by go_num,HF.out,HB.out⟩
     case measure=>simp [intOf];omega
  ·have e:k=n:=by omega
   have hki:¬(k:Int)<(n:Int):=by omega
   have HP:Hid (yb6 w n R l P (.returned (.slice (pA w.heap.size) n n)) wr):=by
    have h:=HE.out
    rw [e] at h
    exact⟨rb,cb,rfl,h.congr fun a' m' ha' _ o=>zxg _ _ ha' _,HB.out⟩
   clear e
   go_wp2_with fail
   go_ret
   exact HP.out
end Go.Proofs.YtjoapiafpahihabGreat
