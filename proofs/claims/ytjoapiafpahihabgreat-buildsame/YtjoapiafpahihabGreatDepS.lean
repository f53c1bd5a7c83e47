import Derived.Test.YtjoapiafpahihabGreatMaths
import Derived.Lib.SlicesCompact
import Derived.Test.YtjoapiafpahihabGreatLoopStmt
import Derived.Test.YtjoapiafpahihabGreatRef6A
import Derived.Deep.QuietTactic
import Derived.BigQuiet
import Derived.Test.YtjoapiafpahihabGreatRef6Is
import Derived.Test.YtjoapiafpahihabGreatLoopP
import Derived.Deep.RegionHeld3
import Derived.BigRegion
namespace Go.Proofs.YtjoapiafpahihabGreat
open Go.Lib
set_option linter.unusedVariables false
def VL (L:Lp) (t:Tg) (to:Nat):List Ed:=(yr (z6 L.body to)).map fun r=>⟨r.1,to,r.2,zr t (z6 L.body r.1.toNat).o⟩
def xZ (L:Lp) (t:Tg):Nat->List Ed
 | 0=>[]
 | k+1=>xZ L t k++VL L t k
def lbD (a b:St) (lo size:Nat):Option Nat:=(List.range (size+1)).find? fun k=>zW a b lo k size
def ZM (L:Lp) (fr to:Nat):List Ed :=
 if zU (z6 L.body fr) (z6 L.body to)=true then
  match lbD (z6 L.body fr) (z6 L.body to) (yh fr to) (yS L (z6 L.body fr)) with
  | some b=>[⟨fr,to,b,xm (z6 L.body fr)⟩]
  | none=>[]
 else []
def yD (L:Lp) (fr:Nat):Nat->List Ed
 | 0=>[]
 | k+1=>yD L fr k++ZM L fr k
def yL (L:Lp):Nat->List Ed
 | 0=>[]
 | k+1=>yL L k++yD L k L.body.length
def V3 (L:Lp) (t:Tg):List Ed:=xZ L t L.body.length++yL L L.body.length
theorem Z2 {a b:St} {lo k size:Nat}:zW a b lo k size=true↔lo<=k/\k<=size/\zE a b k size=true/\∀i,lo<=i->i<k->zE a b i size=false:=by
 unfold zW
 simp only [Bool.and_eq_true,decide_eq_true_eq]
 constructor
 ·rintro ⟨⟨⟨h1,h2⟩,h3⟩,h4⟩
  refine⟨h1,h2,h3,fun i hi hk=>?_⟩
  have:=zl h4 i hk
  simp at this
  rcases this with h | h
  ·omega
  ·exact h
 ·rintro ⟨h1,h2,h3,h4⟩
  refine⟨⟨⟨h1,h2⟩,h3⟩,zN fun i hi=>?_⟩
  by_cases h:i<lo
  ·simp [h]
  ·rw [h4 i (by omega) hi];simp
theorem ziv {a b:St} {lo k k' size:Nat} (h:zW a b lo k size=true) (h':zW a b lo k' size=true):k=k':=by
 obtain⟨h1,h2,h3,h4⟩:=Z2.1 h
 obtain⟨g1,g2,g3,g4⟩:=Z2.1 h'
 rcases Nat.lt_trichotomy k k' with h | h | h
 ·rw [g4 k h1 h] at h3;cases h3
 ·exact h
 ·rw [h4 k' g1 h] at g3;cases g3
theorem Vd {a b:St} {lo size k:Nat}:lbD a b lo size=some k↔zW a b lo k size=true:=by
 unfold lbD
 constructor
 ·intro h;exact List.find?_some (p:=fun k=>zW a b lo k size) h
 ·intro h
  have hk:k∈List.range (size+1):=List.mem_range.2 (by have:=(Z2.1 h).2.1;omega)
  cases e:(List.range (size+1)).find? fun k=>zW a b lo k size with
  | none=>exact absurd h (by have:=List.find?_eq_none.1 e k hk;exact this)
  | some k'=>rw [ziv (List.find?_some (p:=fun k=>zW a b lo k size) e) h]
theorem VT {a b:St} {lo size k:Nat} (h1:lo<=k) (h2:k<=size) (h3:zE a b k size=true) (h4:∀i,lo<=i->i<k->zE a b i size=false):lbD a b lo size=some k :=
 Vd.2 (Z2.2 ⟨h1,h2,h3,h4⟩)
theorem VS {a b:St} {lo size:Nat} (h:∀i,lo<=i->i<size+1->zE a b i size=false):lbD a b lo size=none:=by
 cases e:lbD a b lo size with
 | none=>rfl
 | some k =>
   obtain⟨h1,h2,h3,_⟩:=Z2.1 (Vd.1 e)
   rw [h k h1 (by omega)] at h3;cases h3
theorem zr8 {a b:St} {lo size k:Nat} (h:lbD a b lo size=some k):k<=size:=(Z2.1 (Vd.1 h)).2.1
theorem zn6 {L:Lp} {t:Tg} {e:Ed}:∀k,e∈xZ L t k↔∃to,to<k/\e∈VL L t to:=by
 intro k
 induction k with
 | zero=>exact⟨fun h=>absurd h (by show ¬e∈[];simp),fun ⟨_,h,_⟩=>absurd h (Nat.not_lt_zero _)⟩
 | succ k ih =>
   show e∈xZ L t k++VL L t k↔_
   rw [List.mem_append,ih]
   constructor
   ·rintro (⟨to,h1,h2⟩ | h)
    ·exact⟨to,by omega,h2⟩
    ·exact⟨k,by omega,h⟩
   ·rintro ⟨to,h1,h2⟩
    by_cases e1:to=k
    ·subst e1;exact .inr h2
    ·exact .inl ⟨to,by omega,h2⟩
theorem zh1 {L:Lp} {fr:Nat} {e:Ed}:∀k,e∈yD L fr k↔∃to,to<k/\e∈ZM L fr to:=by
 intro k
 induction k with
 | zero=>exact⟨fun h=>absurd h (by show ¬e∈[];simp),fun ⟨_,h,_⟩=>absurd h (Nat.not_lt_zero _)⟩
 | succ k ih =>
   show e∈yD L fr k++ZM L fr k↔_
   rw [List.mem_append,ih]
   constructor
   ·rintro (⟨to,h1,h2⟩ | h)
    ·exact⟨to,by omega,h2⟩
    ·exact⟨k,by omega,h⟩
   ·rintro ⟨to,h1,h2⟩
    by_cases e1:to=k
    ·subst e1;exact .inr h2
    ·exact .inl ⟨to,by omega,h2⟩
theorem zkt {L:Lp} {e:Ed}:∀k,e∈yL L k↔∃fr to,fr<k/\to<L.body.length/\e∈ZM L fr to:=by
 intro k
 induction k with
 | zero=>exact⟨fun h=>absurd h (by show ¬e∈[];simp),fun ⟨_,_,h,_⟩=>absurd h (Nat.not_lt_zero _)⟩
 | succ k ih =>
   show e∈yL L k++yD L k L.body.length↔_
   rw [List.mem_append,ih,zh1]
   constructor
   ·rintro (⟨fr,to,h1,h2⟩ | ⟨to,h1,h2⟩)
    ·exact⟨fr,to,by omega,h2⟩
    ·exact⟨k,to,by omega,h1,h2⟩
   ·rintro ⟨fr,to,h1,h2,h3⟩
    by_cases e1:fr=k
    ·subst e1;exact .inr ⟨to,h2,h3⟩
    ·exact .inl ⟨fr,to,by omega,h2,h3⟩
theorem zb7 {L:Lp} {fr to:Nat} {e:Ed}:e∈ZM L fr to↔zU (z6 L.body fr) (z6 L.body to)=true/\∃b:Nat,zW (z6 L.body fr) (z6 L.body to) (yh fr to) b (yS L (z6 L.body fr))=true/\e=⟨fr,to,b,xm (z6 L.body fr)⟩:=by
 unfold ZM
 by_cases h:zU (z6 L.body fr) (z6 L.body to)=true
 ·rw [if_pos h]
  cases e1:lbD (z6 L.body fr) (z6 L.body to) (yh fr to) (yS L (z6 L.body fr)) with
  | none =>
    refine⟨fun h=>absurd h (by simp),fun ⟨_,b,hb,_⟩=>?_⟩
    rw [Vd.2 hb] at e1;cases e1
  | some b =>
    refine⟨fun h2=>⟨h,b,Vd.1 e1,List.mem_singleton.1 h2⟩,fun ⟨_,b',hb,he⟩=>?_⟩
    rw [Vd.2 hb] at e1
    rw [he,Option.some.inj e1];exact List.mem_singleton.2 rfl
 ·rw [if_neg h]
  exact⟨fun h=>absurd h (by simp),fun h2=>absurd h2.1 h⟩
theorem zdy (L:Lp) (t:Tg) (k:Nat):(xZ L t k).length<=k*2:=by
 induction k with
 | zero=>exact Nat.le_refl _
 | succ k ih =>
   show (xZ L t k++VL L t k).length<=(k+1)*2
   have:(VL L t k).length<=2:=by
    unfold VL yr
    rw [List.length_map]
    split
    ·simp
    ·split <;> simp
   rw [List.length_append];omega
theorem zks (L:Lp) (fr to:Nat):(ZM L fr to).length<=1:=by
 unfold ZM
 split
 ·split <;> simp
 ·simp
theorem UM (L:Lp) (fr k:Nat):(yD L fr k).length<=k:=by
 induction k with
 | zero=>exact Nat.le_refl _
 | succ k ih =>
   show (yD L fr k++ZM L fr k).length<=k+1
   have:=zks L fr k
   rw [List.length_append];omega
theorem zb8 (L:Lp) (k:Nat) (hn:L.body.length<=16):(yL L k).length<=k*16:=by
 induction k with
 | zero=>exact Nat.le_refl _
 | succ k ih =>
   show (yL L k++yD L k L.body.length).length<=(k+1)*16
   have:=UM L k L.body.length
   rw [List.length_append];omega
theorem zo8 {L:Lp} {t:Tg} {fr to bk wt:Nat} (h:isD L t fr to bk wt=true):∀k,wt<k->(⟨fr,to,bk,wt⟩:Ed)∈wtD L t fr to bk k:=by
 intro k
 induction k with
 | zero=>intro h;omega
 | succ k ih =>
   intro hk
   show _∈(if isD L t fr to bk k=true then wtD L t fr to bk k++[⟨fr,to,bk,k⟩] else wtD L t fr to bk k)
   by_cases e:wt=k
   ·subst e;rw [if_pos h];simp
   ·have:=ih (by omega)
    split
    ·exact List.mem_append.2 (.inl this)
    ·exact this
theorem Ua {L:Lp} {t:Tg} {fr to bk wt:Nat} (h:isD L t fr to bk wt=true) (hf:fr<L.body.length) (ht:to<L.body.length) (hb:bk<33) (hw:wt<7):(⟨fr,to,bk,wt⟩:Ed)∈z8 L t:=by
 have h1:∀k,bk<k->(⟨fr,to,bk,wt⟩:Ed)∈bkD L t fr to k:=by
  intro k
  induction k with
  | zero=>intro h;omega
  | succ k ih =>
    intro hk
    show _∈bkD L t fr to k++wtD L t fr to k 7
    by_cases e:bk=k
    ·subst e;exact List.mem_append.2 (.inr (zo8 h 7 hw))
    ·exact List.mem_append.2 (.inl (ih (by omega)))
 have h2:∀k,to<k->(⟨fr,to,bk,wt⟩:Ed)∈toD L t fr k:=by
  intro k
  induction k with
  | zero=>intro h;omega
  | succ k ih =>
    intro hk
    show _∈toD L t fr k++bkD L t fr k 33
    by_cases e:to=k
    ·subst e;exact List.mem_append.2 (.inr (h1 33 hb))
    ·exact List.mem_append.2 (.inl (ih (by omega)))
 have h3:∀k,fr<k->(⟨fr,to,bk,wt⟩:Ed)∈frD L t k:=by
  intro k
  induction k with
  | zero=>intro h;omega
  | succ k ih =>
    intro hk
    show _∈frD L t k++toD L t k L.body.length
    by_cases e:fr=k
    ·subst e;exact List.mem_append.2 (.inr (h2 _ ht))
    ·exact List.mem_append.2 (.inl (ih (by omega)))
 exact h3 _ hf
theorem zcj {L:Lp} {to:Nat} {r:Int × Int} (hm:zx L=true) (hto:to<L.body.length) (h:r∈yr (z6 L.body to)):0<=r.1/\r.1<L.body.length/\0<=r.2/\r.2<=3:=by
 obtain⟨m1,m2,m3,m4,m5,m6,m7⟩:=zj hm
 have hs:=zl m7 to hto
 have key:∀a b,yg L.body.length to a b=true->0<=a/\a<L.body.length/\0<=b/\b<=3:=fun a b h1=>by
  unfold yg at h1
  rw [Bool.and_eq_true] at h1
  have h2:=zo.1 h1.1
  have h3:=zo.1 h1.2
  split at h3 <;> omega
 unfold yd at hs
 unfold yr at h
 by_cases h4:(z6 L.body to).o=4
 ·rw [if_neg (by omega),if_neg (by omega),if_neg (by omega),if_pos h4] at hs
  simp only [Bool.and_eq_true] at hs
  rw [if_pos h4,List.mem_singleton] at h
  subst h
  exact key _ _ hs.2
 ·by_cases h10:10<(z6 L.body to).o
  ·rw [if_neg (by omega),if_neg (by omega),if_neg (by omega),if_neg h4] at hs
   split at hs
   ·simp only [Bool.and_eq_true] at hs
    rw [if_neg h4,if_pos h10] at h
    rcases List.mem_cons.1 h with rfl | h
    ·exact key _ _ hs.1.2
    ·rw [List.mem_singleton.1 h];exact key _ _ hs.2
   ·exact Bool.noConfusion hs
  ·rw [if_neg h4,if_neg h10] at h
   exact absurd h (by simp)
theorem zgy {t:Tg} (h:zp t=true) (op:Int):1<=zr t op/\zr t op<=6:=by
 obtain⟨h0,h1,h2,-,-⟩:=yi h
 have a0:=zT h0
 have a1:=zT h1
 have a2:=zT h2
 unfold zr
 rw [if_pos h]
 unfold xA
 split
 ·omega
 ·split <;> omega
theorem zde {s:St} {fr bk:Int}:Vy s fr bk=true↔(fr,bk)∈yr s:=by
 unfold Vy
 rw [Yf]
 constructor
 ·rintro ⟨k,hk,hp⟩
  unfold xI at hp
  simp only [Bool.and_eq_true,decide_eq_true_eq] at hp
  have e:zi (yr s) k=(fr,bk):=Prod.ext hp.1 hp.2
  have:zi (yr s) k∈yr s:=by
   unfold zi
   rw [List.getD_eq_getElem?_getD,List.getElem?_eq_getElem hk]
   exact List.getElem_mem hk
  rwa [e] at this
 ·intro h
  obtain⟨k,hk,he⟩:=List.getElem_of_mem h
  refine⟨k,hk,?_⟩
  have e:zi (yr s) k=(fr,bk):=by
   unfold zi
   rw [List.getD_eq_getElem?_getD,List.getElem?_eq_getElem hk,<-he];rfl
  unfold xI
  rw [e];simp
theorem zhw {L:Lp} (hm:zx L=true) {fr:Nat} (hf:fr<L.body.length):yS L (z6 L.body fr)<=32:=by
 obtain⟨m1,m2,m3,m4,m5,m6,m7⟩:=zj hm
 unfold yS
 have:(nth L.logs (z6 L.body fr).ar.toNat).toNat<=5:=by
  by_cases h:(z6 L.body fr).ar.toNat<L.logs.length
  ·have:=zo.1 (zl m5 _ h)
   omega
  ·have e:nth L.logs (z6 L.body fr).ar.toNat=0:=by
    unfold nth
    rw [List.getD_eq_getElem?_getD,List.getElem?_eq_none (by omega)];rfl
   rw [e];decide
 exact Nat.le_trans (Nat.pow_le_pow_right (by omega) this) (by decide)
theorem zh7 {L:Lp} {t:Tg} (hm:zx L=true) (ht:zp t=true) (e:Ed):e∈V3 L t↔e∈z8 L t:=by
 unfold V3
 rw [List.mem_append,zn6,zkt]
 constructor
 ·rintro (⟨to,hto,h⟩ | ⟨fr,to,hfr,hto,h⟩)
  ·unfold VL at h
   obtain⟨r,hr,rfl⟩:=List.mem_map.1 h
   obtain⟨u1,u2,u3,u4⟩:=zcj hm hto hr
   have hw:=zgy ht (z6 L.body r.1.toNat).o
   have hi:isD L t r.1.toNat to r.2.toNat (zr t (z6 L.body r.1.toNat).o).toNat=true:=by
    unfold isD
    rw [Int.toNat_of_nonneg u1,Int.toNat_of_nonneg u3,Int.toNat_of_nonneg (by omega),zde.2 (show (r.1,r.2)∈_ from hr)]
    simp
   have:=Ua hi (by omega) hto (by omega) (by omega)
   rwa [Int.toNat_of_nonneg u1,Int.toNat_of_nonneg u3,Int.toNat_of_nonneg (show 0<=zr t (z6 L.body r.1.toNat).o by omega)] at this
  ·obtain⟨h1,b,h2,rfl⟩:=zb7.1 h
   have hb:=(Z2.1 h2).2.1
   have hs:=zhw hm hfr
   have hw:xm (z6 L.body fr)=((xm (z6 L.body fr)).toNat:Int)/\(xm (z6 L.body fr)).toNat<7:=by unfold xm;split <;> decide
   have hi:isD L t fr to b (xm (z6 L.body fr)).toNat=true:=by
    unfold isD
    rw [h1,h2,<-hw.1];simp
   have:=Ua hi hfr hto (by omega) hw.2
   rwa [<-hw.1] at this
 ·intro h
  obtain⟨fr,to,b,x,h1,h2,rfl,h4⟩:=XI _ h
  unfold isD at h4
  rcases Bool.or_eq_true_iff.1 h4 with h4 | h4
  ·rw [Bool.and_eq_true,decide_eq_true_eq] at h4
   refine .inl ⟨to,h2,List.mem_map.2 ⟨(fr,b),zde.1 h4.1,?_⟩⟩
   rw [h4.2];rfl
  ·simp only [Bool.and_eq_true,decide_eq_true_eq] at h4
   exact .inr ⟨fr,to,h1,h2,zb7.2 ⟨h4.1.1,b,h4.2,by rw [h4.1.2]⟩⟩
def xS (x y:Int):Int:=if x<y then -1 else if y<x then 1 else 0
def Xj (a b:Ed):Int :=
 if xS a.fr b.fr≠0 then xS a.fr b.fr else if xS a.to b.to≠0 then xS a.to b.to else if xS a.bk b.bk≠0 then xS a.bk b.bk else xS a.wt b.wt
theorem ZO {a b:Ed}:Xj a b<0↔ltE a b:=by
 unfold Xj xS ltE
 rcases Int.lt_trichotomy a.fr b.fr with h | h | h
 ·simp [h]
 ·rw [h]
  rcases Int.lt_trichotomy a.to b.to with h | h | h
  ·simp [h]
  ·rw [h]
   rcases Int.lt_trichotomy a.bk b.bk with h | h | h
   ·simp [h]
   ·rw [h]
    rcases Int.lt_trichotomy a.wt b.wt with h | h | h
    ·simp [h]
    ·simp [h]
    ·simp [h,Int.lt_asymm h]
   ·simp [h,Int.lt_asymm h,Int.ne_of_gt h]
  ·simp [h,Int.lt_asymm h,Int.ne_of_gt h]
 ·simp [h,Int.lt_asymm h,Int.ne_of_gt h]
theorem XL (a:Ed):¬ltE a a:=by unfold ltE;omega
theorem zan {a b c:Ed} (h:ltE a b) (h2:ltE b c):ltE a c:=by unfold ltE at *;omega
theorem zam {a b:Ed} (h:¬ltE a b) (h2:¬ltE b a):a=b:=by
 obtain⟨a1,a2,a3,a4⟩:=a
 obtain⟨b1,b2,b3,b4⟩:=b
 unfold ltE at *
 dsimp only at *
 rw [Ed.mk.injEq]
 omega
theorem zql {a b c:Ed} (h:¬ltE b a) (h2:¬ltE c b):¬ltE c a:=by unfold ltE at *;omega
theorem znd:∀l1 l2:List Ed,l1.Pairwise ltE->l2.Pairwise ltE->(∀e,e∈l1↔e∈l2)->l1=l2:=by
 intro l1
 induction l1 with
 | nil =>
   intro l2 _ _ h
   cases l2 with
   | nil=>rfl
   | cons b l=>exact absurd ((h b).2 (by simp)) (by simp)
 | cons a l1 ih =>
   intro l2 p1 p2 h
   cases l2 with
   | nil=>exact absurd ((h a).1 (by simp)) (by simp)
   | cons b l2 =>
     obtain⟨q1,r1⟩:=List.pairwise_cons.1 p1
     obtain⟨q2,r2⟩:=List.pairwise_cons.1 p2
     have hab:a=b:=by
      rcases List.mem_cons.1 ((h a).1 (by simp)) with e | h1
      ·exact e
      ·rcases List.mem_cons.1 ((h b).2 (by simp)) with e | h2
       ·exact e.symm
       ·exact absurd (zan (q2 a h1) (q1 b h2)) (XL _)
     subst hab
     rw [ih l2 r1 r2 fun e=>?_]
     constructor
     ·intro he
      rcases List.mem_cons.1 ((h e).1 (List.mem_cons_of_mem _ he)) with e1 | h1
      ·rw [e1] at he;exact absurd (q1 a he) (XL _)
      ·exact h1
     ·intro he
      rcases List.mem_cons.1 ((h e).2 (List.mem_cons_of_mem _ he)) with e1 | h1
      ·rw [e1] at he;exact absurd (q2 a he) (XL _)
      ·exact h1
theorem zih [Inhabited Ed] [DecidableEq Ed] (d:Array Ed) (hs:∀i j,i<j->j<d.size->¬ltE d[j]! d[i]!):∀m,m<=d.size->(compactUpTo d m).Pairwise ltE/\∀e,e∈compactUpTo d m↔∃j,j<m/\d[j]! = e:=by
 intro m
 induction m with
 | zero=>intro _;exact⟨List.Pairwise.nil,fun e=>⟨fun h=>absurd h (by show ¬e∈[];simp),fun ⟨_,h,_⟩=>absurd h (Nat.not_lt_zero _)⟩⟩
 | succ m ih =>
   intro hm
   obtain⟨i1,i2⟩:=ih (by omega)
   rw [compactUpTo_succ]
   cases hk:keeps d m with
   | true =>
     rw [if_pos rfl]
     refine⟨List.pairwise_append.2 ⟨i1,List.pairwise_singleton _ _,fun a ha b hb=>?_⟩,fun e=>?_⟩
     ·rw [List.mem_singleton.1 hb]
      obtain⟨j,hj,rfl⟩:=(i2 a).1 ha
      have hne:d[m]! ≠ d[m - 1]! := by
       unfold keeps at hk
       rcases of_decide_eq_true hk with h | h
       ·omega
       ·exact h
      have h1:=hs (m - 1) m (by omega) (by omega)
      have h2:¬ltE d[m - 1]! d[j]! := by
       by_cases e:j=m - 1
       ·rw [e];exact XL _
       ·exact hs j (m - 1) (by omega) (by omega)
      have h3:ltE d[m - 1]! d[m]! := Classical.byContradiction fun h=>hne (zam h1 h)
      exact Classical.byContradiction fun h=>by
       have h4:d[j]! = d[m]! := zam h (hs j m (by omega) (by omega))
       rw [h4] at h2
       exact h2 h3
     ·rw [List.mem_append,i2]
      constructor
      ·rintro (⟨j,hj,he⟩ | h)
       ·exact⟨j,by omega,he⟩
       ·exact⟨m,by omega,(List.mem_singleton.1 h).symm⟩
      ·rintro ⟨j,hj,he⟩
       by_cases e1:j=m
       ·subst e1;exact .inr (List.mem_singleton.2 he.symm)
       ·exact .inl ⟨j,by omega,he⟩
   | false =>
     rw [if_neg (by simp),List.append_nil]
     refine⟨i1,fun e=>?_⟩
     rw [i2]
     constructor
     ·rintro ⟨j,hj,he⟩;exact⟨j,by omega,he⟩
     ·rintro ⟨j,hj,he⟩
      by_cases e1:j=m
      ·subst e1
       unfold keeps at hk
       have hk2:=of_decide_eq_false hk
       have h0:j≠0:=fun h=>hk2 (.inl h)
       have h1:d[j]! = d[j - 1]! := Classical.byContradiction fun h=>hk2 (.inr h)
       exact⟨j - 1,by omega,by rw [<-h1];exact he⟩
      ·exact⟨j,by omega,he⟩
theorem zf5 [Inhabited Ed] [DecidableEq Ed] {L:Lp} {t:Tg} (hm:zx L=true) (ht:zp t=true) (d:Array Ed) (hp:d.toList.Perm (V3 L t)) (hs:∀i j,i<j->j<d.size->¬ltE d[j]! d[i]!):compactUpTo d d.size=z8 L t:=by
 obtain⟨h1,h2⟩:=zih d hs d.size (Nat.le_refl _)
 refine znd _ _ h1 (zlt _) fun e=>?_
 rw [h2,<-zh7 hm ht,<-hp.mem_iff]
 constructor
 ·rintro ⟨j,hj,rfl⟩
  rw [getElem!_pos d j hj];simp
 ·intro h
  obtain⟨j,hj,he⟩:=List.getElem_of_mem h
  have hj':j<d.size:=by simpa using hj
  exact⟨j,hj',by rw [getElem!_pos d j hj',<-he];simp⟩
theorem zh6 {L:Lp} {t:Tg} (hn:L.body.length<=16):(V3 L t).length<=288:=by
 unfold V3
 have h1:=zdy L t L.body.length
 have h2:=zb8 L L.body.length hn
 rw [List.length_append]
 have:L.body.length*2+L.body.length*16<=288:=by omega
 omega
open Go.RowKit Go.Joins
set_option maxHeartbeats 400000 in
theorem XB (o xa xb ya yb ar sp pl nn:Int) (w:World) :
  Calls Tryz.prog 178 #[.agg #[iV o,iV xa,iV xb,iV ya,iV yb,iV ar,iV sp,iV pl,iV nn]] w fun e w'=>e=.returned (.bool (yA ⟨o,xa,xb,ya,yb,ar,sp,pl,nn⟩))/\Below w.heap.size w w':=by
 rcases xo o with ⟨rfl,a3,a4⟩ | ⟨rfl,a3,a4⟩ | ⟨ap,aq,a3,a4⟩
 ·have HX:Hid (yA ⟨3,xa,xb,ya,yb,ar,sp,pl,nn⟩=true):=rfl
  go_enter Tryz.func178,Tryz.ntmps178
  go_wp2_with fail
  go_ret
  exact⟨z7 HX.out.symm,below_alloc1 _ _⟩
 ·have HX:Hid (yA ⟨4,xa,xb,ya,yb,ar,sp,pl,nn⟩=true):=rfl
  go_enter Tryz.func178,Tryz.ntmps178
  go_wp2_with fail
  go_ret
  exact⟨z7 HX.out.symm,below_alloc1 _ _⟩
 ·have HX:Hid (yA ⟨o,xa,xb,ya,yb,ar,sp,pl,nn⟩=false):=by show yA _=_;simp [yA, *]
  go_enter Tryz.func178,Tryz.ntmps178
  go_wp2_with fail
  go_ret
  exact⟨z7 HX.out.symm,below_alloc1 _ _⟩
set_option maxHeartbeats 400000 in
theorem UZ (o xa xb ya yb ar sp pl nn:Int) (w:World) :
  Calls Tryz.prog 162 #[.agg #[iV o,iV xa,iV xb,iV ya,iV yb,iV ar,iV sp,iV pl,iV nn]] w fun e w'=>e=.returned (iV (xm ⟨o,xa,xb,ya,yb,ar,sp,pl,nn⟩))/\w'=w.alloc (.cells #[iV o,iV xa,iV xb,iV ya,iV yb,iV ar,iV sp,iV pl,iV nn] 41):=by
 by_cases h:o=4
 ·subst h
  have HX:Hid (xm ⟨4,xa,xb,ya,yb,ar,sp,pl,nn⟩=1):=rfl
  go_enter Tryz.func162,Tryz.ntmps162
  go_wp2_with fail
  go_ret
  exact⟨yk HX.out.symm,rfl⟩
 ·have HX:Hid (xm ⟨o,xa,xb,ya,yb,ar,sp,pl,nn⟩=0):=if_neg h
  have hb:(o == 4)=false:=by simpa using h
  clear h
  go_enter Tryz.func162,Tryz.ntmps162
  go_wp2_with fail
  go_ret
  exact⟨yk HX.out.symm,rfl⟩
set_option maxHeartbeats 1000000 in
theorem zg9 (o1 xa1 xb1 ya1 yb1 ar1 sp1 pl1 nn1 o2 xa2 xb2 ya2 yb2 ar2 sp2 pl2 nn2:Int) (w:World) :
  Calls Tryz.prog 160 #[.agg #[iV o1,iV xa1,iV xb1,iV ya1,iV yb1,iV ar1,iV sp1,iV pl1,iV nn1],.agg #[iV o2,iV xa2,iV xb2,iV ya2,iV yb2,iV ar2,iV sp2,iV pl2,iV nn2]] w fun e w'=>e=.returned (.bool (zU ⟨o1,xa1,xb1,ya1,yb1,ar1,sp1,pl1,nn1⟩ ⟨o2,xa2,xb2,ya2,yb2,ar2,sp2,pl2,nn2⟩))/\Below w.heap.size w w':=by
 have HA:=z5 (fun W=>XB o1 xa1 xb1 ya1 yb1 ar1 sp1 pl1 nn1 W)
 have HB:=z5 (fun W=>XB o2 xa2 xb2 ya2 yb2 ar2 sp2 pl2 nn2 W)
 have HX:Hid (zU ⟨o1,xa1,xb1,ya1,yb1,ar1,sp1,pl1,nn1⟩ ⟨o2,xa2,xb2,ya2,yb2,ar2,sp2,pl2,nn2⟩=(yA ⟨o1,xa1,xb1,ya1,yb1,ar1,sp1,pl1,nn1⟩ && yA ⟨o2,xa2,xb2,ya2,yb2,ar2,sp2,pl2,nn2⟩ && decide (ar1=ar2) && (decide (o1=4) || decide (o2=4)))):=rfl
 generalize zU ⟨o1,xa1,xb1,ya1,yb1,ar1,sp1,pl1,nn1⟩ ⟨o2,xa2,xb2,ya2,yb2,ar2,sp2,pl2,nn2⟩=R at HX ⊢
 generalize yA ⟨o1,xa1,xb1,ya1,yb1,ar1,sp1,pl1,nn1⟩=b1 at HA HX
 generalize yA ⟨o2,xa2,xb2,ya2,yb2,ar2,sp2,pl2,nn2⟩=b2 at HB HX
 cases b1 with
 | false =>
   have HR:Hid (R=false):=HX.out
   clear HX
   go_enter Tryz.func160,Tryz.ntmps160
   go_wp2_with fail
   refine (HA.out _).mono ?_
   rintro e x1 ⟨rfl,hb1⟩
   have HW:=z5 ((below_alloc2 w _ _).trans (hb1.mono (by simp;omega)))
   clear hb1
   go_wp2_with fail
   go_ret
   exact⟨z7 HR.out.symm,HW.out⟩
 | true =>
   have hs:((w.alloc (.cells #[iV o1,iV xa1,iV xb1,iV ya1,iV yb1,iV ar1,iV sp1,iV pl1,iV nn1] 41)).alloc (.cells #[iV o2,iV xa2,iV xb2,iV ya2,iV yb2,iV ar2,iV sp2,iV pl2,iV nn2] 41)).heap.size=w.heap.size+1+1:=by simp
   have HS:=z5 hs
   clear hs
   cases b2 with
   | false =>
     have HR:Hid (R=false):=HX.out
     clear HX
     go_enter Tryz.func160,Tryz.ntmps160
     go_wp2_with fail
     refine (HA.out _).mono ?_
     rintro e x1 ⟨rfl,hb1⟩
     have hc1:=zc hb1
     have hz1:=hb1.size
     rw [HS.out] at hz1
     have HW:=z5 ((below_alloc2 w _ _).trans (hb1.mono (by simp;omega)))
     clear hb1
     go_wp2_with fail
     refine (HB.out _).mono ?_
     rintro e x2 ⟨rfl,hb2⟩
     have HW2:=z5 (HW.out.trans (hb2.mono HW.out.size))
     clear hb2
     go_wp2_with fail
     go_ret
     exact⟨z7 HR.out.symm,HW2.out⟩
   | true =>
     go_enter Tryz.func160,Tryz.ntmps160
     go_wp2_with fail
     refine (HA.out _).mono ?_
     rintro e x1 ⟨rfl,hb1⟩
     have hc1:=zc hb1
     have hz1:=hb1.size
     rw [HS.out] at hz1
     have HW:=z5 ((below_alloc2 w _ _).trans (hb1.mono (by simp;omega)))
     clear hb1
     go_wp2_with fail
     refine (HB.out _).mono ?_
     rintro e x2 ⟨rfl,hb2⟩
     have z0:w.heap.size<x1.heap.size:=by omega
     have z1:w.heap.size+1<x1.heap.size:=by omega
     have hc2:=zc hb2
     have HW2:=z5 (HW.out.trans (hb2.mono HW.out.size))
     clear hb2
     by_cases hra:ar1=ar2
     ·subst hra
      by_cases h1:o1=4
      ·subst h1
       have HR:Hid (R=true):=by show R=true;rw [HX.out];simp
       clear HX
       go_wp2_with fail
       go_ret
       exact⟨z7 HR.out.symm,HW2.out⟩
      ·have g1:(o1 == 4)=false:=by simpa using h1
       by_cases h2:o2=4
       ·subst h2
        have HR:Hid (R=true):=by show R=true;rw [HX.out];simp
        clear HX
        go_wp2_with fail
        go_ret
        exact⟨z7 HR.out.symm,HW2.out⟩
       ·have g2:(o2 == 4)=false:=by simpa using h2
        have HR:Hid (R=false):=by show R=false;rw [HX.out];simp [h1,h2]
        clear HX
        go_wp2_with fail
        go_ret
        exact⟨z7 HR.out.symm,HW2.out⟩
     ·have g3:(ar1 == ar2)=false:=by simpa using hra
      have HR:Hid (R=false):=by show R=false;rw [HX.out];simp [hra]
      clear HX
      go_wp2_with fail
      go_ret
      exact⟨z7 HR.out.symm,HW2.out⟩
theorem zfp {w wr:World} {o1 xa1 xb1 ya1 yb1 ar1 sp1 pl1 nn1 o2 xa2 xb2 ya2 yb2 ar2 sp2 pl2 nn2:Int} {ta tb:TypeId} (h:Below (w.heap.size+1+1) ((w.alloc (.cells #[iV o1,iV xa1,iV xb1,iV ya1,iV yb1,iV ar1,iV sp1,iV pl1,iV nn1] ta)).alloc (.cells #[iV o2,iV xa2,iV xb2,iV ya2,iV yb2,iV ar2,iV sp2,iV pl2,iV nn2] tb)) wr) :
  wr.cell? ⟨w.heap.size,6,none⟩=some (iV sp1)/\wr.cell? ⟨w.heap.size,7,none⟩=some (iV pl1)/\wr.cell? ⟨w.heap.size+1,6,none⟩=some (iV sp2)/\wr.cell? ⟨w.heap.size+1,7,none⟩=some (iV pl2)/\Below w.heap.size w wr:=by
 have hs:((w.alloc (.cells #[iV o1,iV xa1,iV xb1,iV ya1,iV yb1,iV ar1,iV sp1,iV pl1,iV nn1] ta)).alloc (.cells #[iV o2,iV xa2,iV xb2,iV ya2,iV yb2,iV ar2,iV sp2,iV pl2,iV nn2] tb)).heap.size=w.heap.size+1+1:=by simp
 have h':Below ((w.alloc (.cells #[iV o1,iV xa1,iV xb1,iV ya1,iV yb1,iV ar1,iV sp1,iV pl1,iV nn1] ta)).alloc (.cells #[iV o2,iV xa2,iV xb2,iV ya2,iV yb2,iV ar2,iV sp2,iV pl2,iV nn2] tb)).heap.size ((w.alloc (.cells #[iV o1,iV xa1,iV xb1,iV ya1,iV yb1,iV ar1,iV sp1,iV pl1,iV nn1] ta)).alloc (.cells #[iV o2,iV xa2,iV xb2,iV ya2,iV yb2,iV ar2,iV sp2,iV pl2,iV nn2] tb)) wr:=by rw [hs];exact h
 refine⟨?_,?_,?_,?_,(below_alloc2 w _ _).trans (h.mono (by omega))⟩
 all_goals rw [zc h' _ _ (by omega)]
 all_goals go_simp
set_option maxHeartbeats 1000000 in
theorem zj8 (o1 xa1 xb1 ya1 yb1 ar1 sp1 pl1 nn1 o2 xa2 xb2 ya2 yb2 ar2 sp2 pl2 nn2 lg:Int) (back SZ:Nat) (w:World) (hl0:0<=lg) (hl5:lg<=5) (hSZ:2 ^ lg.toNat=SZ) (hsh:wrap64 (2 ^ lg.toNat)=(SZ:Int)) (hS:SZ<=32) (hb:back<=32) (h1:-64<=sp1) (h2:sp1<=64) (h3:-64<=pl1) (h4:pl1<=64) (h5:-64<=sp2) (h6:sp2<=64) (h7:-64<=pl2) (h8:pl2<=64) :
  Calls Tryz.prog 179 #[.agg #[iV o1,iV xa1,iV xb1,iV ya1,iV yb1,iV ar1,iV sp1,iV pl1,iV nn1],.agg #[iV o2,iV xa2,iV xb2,iV ya2,iV yb2,iV ar2,iV sp2,iV pl2,iV nn2],iV back,iV lg] w fun e w'=>e=.returned (.bool (zE ⟨o1,xa1,xb1,ya1,yb1,ar1,sp1,pl1,nn1⟩ ⟨o2,xa2,xb2,ya2,yb2,ar2,sp2,pl2,nn2⟩ back SZ))/\Below w.heap.size w w':=by
 have HSZ:=z5 hSZ
 clear hSZ
 go_enter Tryz.func179,Tryz.ntmps179
 go_wp2_with fail
 go_loopw [12] (fun i wr=>∃k:Nat,k<=SZ/\i=iV k/\exN (Uo ⟨o1,xa1,xb1,ya1,yb1,ar1,sp1,pl1,nn1⟩ ⟨o2,xa2,xb2,ya2,yb2,ar2,sp2,pl2,nn2⟩ back SZ) k=false/\Below (w.heap.size+1+1) ((w.alloc (.cells #[iV o1,iV xa1,iV xb1,iV ya1,iV yb1,iV ar1,iV sp1,iV pl1,iV nn1] 41)).alloc (.cells #[iV o2,iV xa2,iV xb2,iV ya2,iV yb2,iV ar2,iV sp2,iV pl2,iV nn2] 41)) wr) (fun i _=>SZ - (intOf i).toNat)
 case atStart=>exact⟨0,Nat.zero_le _,rfl,rfl,Below.refl _ _⟩
 case round =>
  obtain⟨k,hk,rfl,hex,hbel⟩:=hrel
  have HEX:=z5 hex
  obtain⟨c1,c2,c3,c4,hbw⟩:=zfp hbel
  have HB:=z5 hbel
  have HW:=z5 hbw
  clear hex hbel hbw
  by_cases hlt:k<SZ
  ·have hki:(k:Int)<(SZ:Int):=by omega
   have e1:idx sp1 pl1 k lg=(sp1*k+pl1) % SZ:=by
    unfold idx p2
    rw [if_pos (by omega),HSZ.out]
   have e2:idx sp2 pl2 ((k:Int)+back) lg=(sp2*((k:Int)+back)+pl2) % SZ:=by
    unfold idx p2
    rw [if_pos (by omega),HSZ.out]
   have HM:Hid (Uo ⟨o1,xa1,xb1,ya1,yb1,ar1,sp1,pl1,nn1⟩ ⟨o2,xa2,xb2,ya2,yb2,ar2,sp2,pl2,nn2⟩ back SZ k=decide (idx sp1 pl1 k lg=idx sp2 pl2 ((k:Int)+back) lg)):=by show _=decide _;rw [e1,e2];rfl
   have ew:IntKind.i64.wrap ((k:Int)+(back:Int))=(k:Int)+back:=V2 _ (by omega) (by omega)
   clear e1 e2
   by_cases hXY:idx sp1 pl1 k lg=idx sp2 pl2 ((k:Int)+back) lg
   ·have HT:Hid (zE ⟨o1,xa1,xb1,ya1,yb1,ar1,sp1,pl1,nn1⟩ ⟨o2,xa2,xb2,ya2,yb2,ar2,sp2,pl2,nn2⟩ back SZ=true):=yR hlt (by rw [HM.out];exact decide_eq_true hXY)
    have hbb:(idx sp1 pl1 k lg == idx sp2 pl2 ((k:Int)+back) lg)=true:=by simpa using hXY
    clear hXY
    go_wp2_with fail
    go_big_quiet ((go_at_call 175;exact Calls.quiet_of_same (zag _ _ _ _ _)))
    go_wp2_with fail
    go_ret
    exact⟨z7 HT.out.symm,HW.out.trans (below_draws _ _ _)⟩
   ·have HF:=z5 (zcz HEX.out (by rw [HM.out];exact decide_eq_false hXY))
    have hbb:(idx sp1 pl1 k lg == idx sp2 pl2 ((k:Int)+back) lg)=false:=by simpa using hXY
    clear hXY
    go_wp2_with fail
    go_big_quiet ((go_at_call 175;exact Calls.quiet_of_same (zag _ _ _ _ _)))
    go_wp2_with fail
    go_roundw
    case rel=>exact⟨k+1,by omega,by go_num,HF.out,HB.out.trans (below_draws _ _ _)⟩
    case measure=>simp [intOf];omega
  ·have e:k=SZ:=by omega
   have HT:Hid (zE ⟨o1,xa1,xb1,ya1,yb1,ar1,sp1,pl1,nn1⟩ ⟨o2,xa2,xb2,ya2,yb2,ar2,sp2,pl2,nn2⟩ back SZ=false):=by show zE _ _ _ _=false;rw [<-e];unfold zE;rw [e];rw [e] at HEX;exact HEX.out
   have hki:¬(k:Int)<(SZ:Int):=by omega
   clear e
   go_wp2_with fail
   go_ret
   exact⟨z7 HT.out.symm,HW.out⟩
def lbV (o:Option Nat):Int:=match o with | some b=>(b:Int) | none=>0
def lbB (o:Option Nat):Bool:=match o with | some _=>true | none=>false
theorem VV {p:Nat->Bool} {lo k:Nat} (h:∀j,lo<=j->j<k->p j=false) (hk:p k=false):∀j,lo<=j->j<k+1->p j=false:=fun j h1 h2=>by
 by_cases e:j=k
 ·rw [e];exact hk
 ·exact h j h1 (by omega)
theorem zH (n:Nat) (w:World):Below n w w.drew:=below_draws _ _ 1
theorem zch {w y:World} {o:Obj} {o1 xa1 xb1 ya1 yb1 ar1 sp1 pl1 nn1 o2 xa2 xb2 ya2 yb2 ar2 sp2 pl2 nn2:Int} {ta tb:TypeId} (h:Below (((w.alloc o).alloc (.cells #[iV o1,iV xa1,iV xb1,iV ya1,iV yb1,iV ar1,iV sp1,iV pl1,iV nn1] ta)).alloc (.cells #[iV o2,iV xa2,iV xb2,iV ya2,iV yb2,iV ar2,iV sp2,iV pl2,iV nn2] tb)).heap.size (((w.alloc o).alloc (.cells #[iV o1,iV xa1,iV xb1,iV ya1,iV yb1,iV ar1,iV sp1,iV pl1,iV nn1] ta)).alloc (.cells #[iV o2,iV xa2,iV xb2,iV ya2,iV yb2,iV ar2,iV sp2,iV pl2,iV nn2] tb)) y) :
  (y.cell? ⟨w.heap.size+1,0,none⟩=some (iV o1)/\y.cell? ⟨w.heap.size+1,1,none⟩=some (iV xa1)/\y.cell? ⟨w.heap.size+1,2,none⟩=some (iV xb1)/\y.cell? ⟨w.heap.size+1,3,none⟩=some (iV ya1)/\y.cell? ⟨w.heap.size+1,4,none⟩=some (iV yb1)/\y.cell? ⟨w.heap.size+1,5,none⟩=some (iV ar1)/\y.cell? ⟨w.heap.size+1,6,none⟩=some (iV sp1)/\y.cell? ⟨w.heap.size+1,7,none⟩=some (iV pl1)/\y.cell? ⟨w.heap.size+1,8,none⟩=some (iV nn1)) /\
  (y.cell? ⟨w.heap.size+1+1,0,none⟩=some (iV o2)/\y.cell? ⟨w.heap.size+1+1,1,none⟩=some (iV xa2)/\y.cell? ⟨w.heap.size+1+1,2,none⟩=some (iV xb2)/\y.cell? ⟨w.heap.size+1+1,3,none⟩=some (iV ya2)/\y.cell? ⟨w.heap.size+1+1,4,none⟩=some (iV yb2)/\y.cell? ⟨w.heap.size+1+1,5,none⟩=some (iV ar2)/\y.cell? ⟨w.heap.size+1+1,6,none⟩=some (iV sp2)/\y.cell? ⟨w.heap.size+1+1,7,none⟩=some (iV pl2)/\y.cell? ⟨w.heap.size+1+1,8,none⟩=some (iV nn2))/\w.heap.size+1<y.heap.size/\w.heap.size+1+1<y.heap.size/\Below w.heap.size w y:=by
 have e:(w.alloc o).heap.size=w.heap.size+1:=by simp
 obtain⟨h1,h2,h3,h4,h5⟩:=xj h
 rw [e] at h1 h2 h3 h4
 exact⟨h1,h2,h3,h4,(below_alloc1 w o).trans (h5.mono (by rw [e];omega))⟩
set_option maxHeartbeats 4000000 in
set_option maxRecDepth 100000 in
theorem zfl (v1' v2:Value) (fr to arn lgN n:Nat) (o1 xa1 xb1 ya1 yb1 sp1 pl1 nn1 o2 xa2 xb2 ya2 yb2 ar2 sp2 pl2 nn2:Int) (lb loff cap0 b off cap SZ lo m:Nat) (w:World) (hfr:fr<n) (hto:to<n) (hn:n<=16) (hnc:n<=cap) (hcap:cap<=9223372036854775807) (hml:arn<m) (hmc:m<=cap0) (hc0:cap0<=9223372036854775807) (hb:b<w.heap.size) (hlb:lb<w.heap.size)
  (ha:∀j,j<9->w.cell? ⟨b,off+fr*9+j,none⟩=(zJ ⟨o1,xa1,xb1,ya1,yb1,arn,sp1,pl1,nn1⟩)[j]?) (hc:∀j,j<9->w.cell? ⟨b,off+to*9+j,none⟩=(zJ ⟨o2,xa2,xb2,ya2,yb2,ar2,sp2,pl2,nn2⟩)[j]?) (hlg:w.cell? ⟨lb,loff+arn,none⟩=some (iV lgN)) (hl5:lgN<=5) (hSZ:2 ^ lgN=SZ) (hS:SZ<=32) (hlo:yh fr to=lo) (h1:-64<=sp1) (h2:sp1<=64) (h3:-64<=pl1) (h4:pl1<=64) (h5:-64<=sp2) (h6:sp2<=64) (h7:-64<=pl2) (h8:pl2<=64) :
  Calls Tryz.prog 161 #[.agg #[.slice (some ⟨lb,loff,none⟩) m cap0,.slice (some ⟨b,off,none⟩) n cap,v2],iV fr,iV to] w fun e w'=>e=.returned (.tuple #[iV (lbV (lbD ⟨o1,xa1,xb1,ya1,yb1,arn,sp1,pl1,nn1⟩ ⟨o2,xa2,xb2,ya2,yb2,ar2,sp2,pl2,nn2⟩ lo SZ)),.bool (lbB (lbD ⟨o1,xa1,xb1,ya1,yb1,arn,sp1,pl1,nn1⟩ ⟨o2,xa2,xb2,ya2,yb2,ar2,sp2,pl2,nn2⟩ lo SZ))])/\Below w.heap.size w w':=by
 obtain⟨a0,a1,a2,a3,a4,a5,a6,a7,a8⟩:=Zj ha
 obtain⟨c0,c1,c2,c3,c4,c5,c6,c7,c8⟩:=Zj hc
 dsimp only at a0 a1 a2 a3 a4 a5 a6 a7 a8 c0 c1 c2 c3 c4 c5 c6 c7 c8
 have HMT:=z5 (fun (k:Nat) W (hk:k<=32)=>zj8 o1 xa1 xb1 ya1 yb1 arn sp1 pl1 nn1 o2 xa2 xb2 ya2 yb2 ar2 sp2 pl2 nn2 lgN k SZ W (by omega) (by omega) (by simpa using hSZ) (by rw [zhv _ (by omega) (by omega)];rw [show ((lgN:Nat):Int).toNat=lgN from Int.toNat_natCast _,hSZ]) hS hk h1 h2 h3 h4 h5 h6 h7 h8)
 have hsh:wrap64 (2 ^ lgN)=(SZ:Int):=by have:=zhv lgN (by omega) (by omega);rw [show ((lgN:Nat):Int).toNat=lgN from Int.toNat_natCast _,hSZ] at this;exact this
 have HSH:=z5 hsh
 clear hsh
 have hfi:(fr:Int)<(n:Int):=by omega
 have hti:(to:Int)<(n:Int):=by omega
 have hmi:(arn:Int)<(m:Int):=by omega
 have hb1:b<w.heap.size+1:=by omega
 have hb2:b<w.heap.size+1+1:=by omega
 have hd1:lb<w.heap.size+1:=by omega
 have hd2:lb<w.heap.size+1+1:=by omega
 clear ha hc hSZ
 by_cases hft:fr<to
 ·have hfti:(fr:Int)<(to:Int):=by omega
  have HLO:Hid (lo=0):=by show lo=0;rw [<-hlo];unfold yh;rw [if_neg (by omega)]
  clear hlo
  go_enter Tryz.func161,Tryz.ntmps161
  go_wp2_with fail
  go_region
  ·go_wp2_with fail
   go_loopw [12] (fun i wr=>∃k:Nat,0<=k/\k<=SZ+1/\i=iV k/\(∀j,0<=j->j<k->zE ⟨o1,xa1,xb1,ya1,yb1,arn,sp1,pl1,nn1⟩ ⟨o2,xa2,xb2,ya2,yb2,ar2,sp2,pl2,nn2⟩ j SZ=false)/\Below (((w.alloc (.cells #[.slice (some ⟨lb,loff,none⟩) m cap0,.slice (some ⟨b,off,none⟩) n cap,v2] 25)).alloc (.cells #[iV o1,iV xa1,iV xb1,iV ya1,iV yb1,iV arn,iV sp1,iV pl1,iV nn1] 41)).alloc (.cells #[iV o2,iV xa2,iV xb2,iV ya2,iV yb2,iV ar2,iV sp2,iV pl2,iV nn2] 41)).heap.size (((w.alloc (.cells #[.slice (some ⟨lb,loff,none⟩) m cap0,.slice (some ⟨b,off,none⟩) n cap,v2] 25)).alloc (.cells #[iV o1,iV xa1,iV xb1,iV ya1,iV yb1,iV arn,iV sp1,iV pl1,iV nn1] 41)).alloc (.cells #[iV o2,iV xa2,iV xb2,iV ya2,iV yb2,iV ar2,iV sp2,iV pl2,iV nn2] 41)) wr) (fun i _=>SZ+1 - (intOf i).toNat)
   case atStart=>exact⟨0,Nat.le_refl _,by omega,rfl,fun j h1 h2=>absurd h2 (by omega),zH _ _⟩
   case round =>
    obtain⟨k,hk1,hk2,rfl,hno,hbel⟩:=hrel
    have HNO:=z5 hno
    have HB:=z5 hbel
    obtain⟨⟨g0,g1,g2,g3,g4,g5,g6,g7,g8⟩,⟨d0,d1,d2,d3,d4,d5,d6,d7,d8⟩,z0,z1,hbw⟩:=zch hbel
    have HW:=z5 hbw
    clear hno hbel hbw
    by_cases hlt:k<=SZ
    ·have hki:(k:Int)<=(SZ:Int):=by omega
     cases hme:zE ⟨o1,xa1,xb1,ya1,yb1,arn,sp1,pl1,nn1⟩ ⟨o2,xa2,xb2,ya2,yb2,ar2,sp2,pl2,nn2⟩ k SZ with
     | true =>
       have HR:Hid (lbD ⟨o1,xa1,xb1,ya1,yb1,arn,sp1,pl1,nn1⟩ ⟨o2,xa2,xb2,ya2,yb2,ar2,sp2,pl2,nn2⟩ 0 SZ=some k):=VT hk1 hlt hme HNO.out
       have HM:=z5 (HMT.out k wr (by omega))
       rw [hme] at HM
       clear hme
       have hsh:=HSH.out
       go_wp2_with fail
       clear hsh
       refine HM.out.mono ?_
       rintro e x1 ⟨rfl,hb3⟩
       have HW2:=z5 (HW.out.trans (hb3.mono HW.out.size))
       clear hb3
       go_wp2_with fail
       exact bodyPost_ret (v:=.tuple #[iV k,.bool true]) (by simp [results,Tryz.results161,go_sem]) rfl ⟨by rw [HLO.out,HR.out];rfl,HW2.out⟩
     | false =>
       have HM:=z5 (HMT.out k wr (by omega))
       rw [hme] at HM
       have HF:=z5 hme
       clear hme
       have hsh:=HSH.out
       go_wp2_with fail
       clear hsh
       refine HM.out.mono ?_
       rintro e x1 ⟨rfl,hb3⟩
       have HB2:=z5 (HB.out.trans (hb3.mono HB.out.size))
       clear hb3
       go_wp2_with fail
       go_roundw
       case rel=>exact⟨k+1,by omega,by omega,by go_num,VV HNO.out HF.out,HB2.out⟩
       case measure=>simp [intOf];omega
    ·have hki:¬(k:Int)<=(SZ:Int):=by omega
     have HR:Hid (lbD ⟨o1,xa1,xb1,ya1,yb1,arn,sp1,pl1,nn1⟩ ⟨o2,xa2,xb2,ya2,yb2,ar2,sp2,pl2,nn2⟩ 0 SZ=none):=VS fun j h1 h2=>HNO.out j h1 (by omega)
     have hsh:=HSH.out
     go_wp2_with fail
     exact bodyPost_ret (v:=.tuple #[iV 0,.bool false]) (by simp [results,Tryz.results161,go_sem]) rfl ⟨by rw [HLO.out,HR.out];rfl,HW.out⟩
  ·go_wp2_with fail
   go_loopw [12] (fun i wr=>∃k:Nat,0<=k/\k<=SZ+1/\i=iV k/\(∀j,0<=j->j<k->zE ⟨o1,xa1,xb1,ya1,yb1,arn,sp1,pl1,nn1⟩ ⟨o2,xa2,xb2,ya2,yb2,ar2,sp2,pl2,nn2⟩ j SZ=false)/\Below (((w.alloc (.cells #[.slice (some ⟨lb,loff,none⟩) m cap0,.slice (some ⟨b,off,none⟩) n cap,v2] 25)).alloc (.cells #[iV o2,iV xa2,iV xb2,iV ya2,iV yb2,iV ar2,iV sp2,iV pl2,iV nn2] 41)).alloc (.cells #[iV o1,iV xa1,iV xb1,iV ya1,iV yb1,iV arn,iV sp1,iV pl1,iV nn1] 41)).heap.size (((w.alloc (.cells #[.slice (some ⟨lb,loff,none⟩) m cap0,.slice (some ⟨b,off,none⟩) n cap,v2] 25)).alloc (.cells #[iV o2,iV xa2,iV xb2,iV ya2,iV yb2,iV ar2,iV sp2,iV pl2,iV nn2] 41)).alloc (.cells #[iV o1,iV xa1,iV xb1,iV ya1,iV yb1,iV arn,iV sp1,iV pl1,iV nn1] 41)) wr) (fun i _=>SZ+1 - (intOf i).toNat)
   case atStart=>exact⟨0,Nat.le_refl _,by omega,rfl,fun j h1 h2=>absurd h2 (by omega),zH _ _⟩
   case round =>
    obtain⟨k,hk1,hk2,rfl,hno,hbel⟩:=hrel
    have HNO:=z5 hno
    have HB:=z5 hbel
    obtain⟨⟨g0,g1,g2,g3,g4,g5,g6,g7,g8⟩,⟨d0,d1,d2,d3,d4,d5,d6,d7,d8⟩,z0,z1,hbw⟩:=zch hbel
    have HW:=z5 hbw
    clear hno hbel hbw
    by_cases hlt:k<=SZ
    ·have hki:(k:Int)<=(SZ:Int):=by omega
     cases hme:zE ⟨o1,xa1,xb1,ya1,yb1,arn,sp1,pl1,nn1⟩ ⟨o2,xa2,xb2,ya2,yb2,ar2,sp2,pl2,nn2⟩ k SZ with
     | true =>
       have HR:Hid (lbD ⟨o1,xa1,xb1,ya1,yb1,arn,sp1,pl1,nn1⟩ ⟨o2,xa2,xb2,ya2,yb2,ar2,sp2,pl2,nn2⟩ 0 SZ=some k):=VT hk1 hlt hme HNO.out
       have HM:=z5 (HMT.out k wr (by omega))
       rw [hme] at HM
       clear hme
       have hsh:=HSH.out
       go_wp2_with fail
       clear hsh
       refine HM.out.mono ?_
       rintro e x1 ⟨rfl,hb3⟩
       have HW2:=z5 (HW.out.trans (hb3.mono HW.out.size))
       clear hb3
       go_wp2_with fail
       exact bodyPost_ret (v:=.tuple #[iV k,.bool true]) (by simp [results,Tryz.results161,go_sem]) rfl ⟨by rw [HLO.out,HR.out];rfl,HW2.out⟩
     | false =>
       have HM:=z5 (HMT.out k wr (by omega))
       rw [hme] at HM
       have HF:=z5 hme
       clear hme
       have hsh:=HSH.out
       go_wp2_with fail
       clear hsh
       refine HM.out.mono ?_
       rintro e x1 ⟨rfl,hb3⟩
       have HB2:=z5 (HB.out.trans (hb3.mono HB.out.size))
       clear hb3
       go_wp2_with fail
       go_roundw
       case rel=>exact⟨k+1,by omega,by omega,by go_num,VV HNO.out HF.out,HB2.out⟩
       case measure=>simp [intOf];omega
    ·have hki:¬(k:Int)<=(SZ:Int):=by omega
     have HR:Hid (lbD ⟨o1,xa1,xb1,ya1,yb1,arn,sp1,pl1,nn1⟩ ⟨o2,xa2,xb2,ya2,yb2,ar2,sp2,pl2,nn2⟩ 0 SZ=none):=VS fun j h1 h2=>HNO.out j h1 (by omega)
     have hsh:=HSH.out
     go_wp2_with fail
     exact bodyPost_ret (v:=.tuple #[iV 0,.bool false]) (by simp [results,Tryz.results161,go_sem]) rfl ⟨by rw [HLO.out,HR.out];rfl,HW.out⟩
 ·have hfti:¬(fr:Int)<(to:Int):=by omega
  have HLO:Hid (lo=1):=by show lo=1;rw [<-hlo];unfold yh;rw [if_pos (by omega)]
  clear hlo
  go_enter Tryz.func161,Tryz.ntmps161
  go_wp2_with fail
  go_region
  ·go_wp2_with fail
   go_loopw [12] (fun i wr=>∃k:Nat,1<=k/\k<=SZ+1/\i=iV k/\(∀j,1<=j->j<k->zE ⟨o1,xa1,xb1,ya1,yb1,arn,sp1,pl1,nn1⟩ ⟨o2,xa2,xb2,ya2,yb2,ar2,sp2,pl2,nn2⟩ j SZ=false)/\Below (((w.alloc (.cells #[.slice (some ⟨lb,loff,none⟩) m cap0,.slice (some ⟨b,off,none⟩) n cap,v2] 25)).alloc (.cells #[iV o1,iV xa1,iV xb1,iV ya1,iV yb1,iV arn,iV sp1,iV pl1,iV nn1] 41)).alloc (.cells #[iV o2,iV xa2,iV xb2,iV ya2,iV yb2,iV ar2,iV sp2,iV pl2,iV nn2] 41)).heap.size (((w.alloc (.cells #[.slice (some ⟨lb,loff,none⟩) m cap0,.slice (some ⟨b,off,none⟩) n cap,v2] 25)).alloc (.cells #[iV o1,iV xa1,iV xb1,iV ya1,iV yb1,iV arn,iV sp1,iV pl1,iV nn1] 41)).alloc (.cells #[iV o2,iV xa2,iV xb2,iV ya2,iV yb2,iV ar2,iV sp2,iV pl2,iV nn2] 41)) wr) (fun i _=>SZ+1 - (intOf i).toNat)
   case atStart=>exact⟨1,Nat.le_refl _,by omega,rfl,fun j h1 h2=>absurd h2 (by omega),zH _ _⟩
   case round =>
    obtain⟨k,hk1,hk2,rfl,hno,hbel⟩:=hrel
    have HNO:=z5 hno
    have HB:=z5 hbel
    obtain⟨⟨g0,g1,g2,g3,g4,g5,g6,g7,g8⟩,⟨d0,d1,d2,d3,d4,d5,d6,d7,d8⟩,z0,z1,hbw⟩:=zch hbel
    have HW:=z5 hbw
    clear hno hbel hbw
    by_cases hlt:k<=SZ
    ·have hki:(k:Int)<=(SZ:Int):=by omega
     cases hme:zE ⟨o1,xa1,xb1,ya1,yb1,arn,sp1,pl1,nn1⟩ ⟨o2,xa2,xb2,ya2,yb2,ar2,sp2,pl2,nn2⟩ k SZ with
     | true =>
       have HR:Hid (lbD ⟨o1,xa1,xb1,ya1,yb1,arn,sp1,pl1,nn1⟩ ⟨o2,xa2,xb2,ya2,yb2,ar2,sp2,pl2,nn2⟩ 1 SZ=some k):=VT hk1 hlt hme HNO.out
       have HM:=z5 (HMT.out k wr (by omega))
       rw [hme] at HM
       clear hme
       have hsh:=HSH.out
       go_wp2_with fail
       clear hsh
       refine HM.out.mono ?_
       rintro e x1 ⟨rfl,hb3⟩
       have HW2:=z5 (HW.out.trans (hb3.mono HW.out.size))
       clear hb3
       go_wp2_with fail
       exact bodyPost_ret (v:=.tuple #[iV k,.bool true]) (by simp [results,Tryz.results161,go_sem]) rfl ⟨by rw [HLO.out,HR.out];rfl,HW2.out⟩
     | false =>
       have HM:=z5 (HMT.out k wr (by omega))
       rw [hme] at HM
       have HF:=z5 hme
       clear hme
       have hsh:=HSH.out
       go_wp2_with fail
       clear hsh
       refine HM.out.mono ?_
       rintro e x1 ⟨rfl,hb3⟩
       have HB2:=z5 (HB.out.trans (hb3.mono HB.out.size))
       clear hb3
       go_wp2_with fail
       go_roundw
       case rel=>exact⟨k+1,by omega,by omega,by go_num,VV HNO.out HF.out,HB2.out⟩
       case measure=>simp [intOf];omega
    ·have hki:¬(k:Int)<=(SZ:Int):=by omega
     have HR:Hid (lbD ⟨o1,xa1,xb1,ya1,yb1,arn,sp1,pl1,nn1⟩ ⟨o2,xa2,xb2,ya2,yb2,ar2,sp2,pl2,nn2⟩ 1 SZ=none):=VS fun j h1 h2=>HNO.out j h1 (by omega)
     have hsh:=HSH.out
     go_wp2_with fail
     exact bodyPost_ret (v:=.tuple #[iV 0,.bool false]) (by simp [results,Tryz.results161,go_sem]) rfl ⟨by rw [HLO.out,HR.out];rfl,HW.out⟩
  ·go_wp2_with fail
   go_loopw [12] (fun i wr=>∃k:Nat,1<=k/\k<=SZ+1/\i=iV k/\(∀j,1<=j->j<k->zE ⟨o1,xa1,xb1,ya1,yb1,arn,sp1,pl1,nn1⟩ ⟨o2,xa2,xb2,ya2,yb2,ar2,sp2,pl2,nn2⟩ j SZ=false)/\Below (((w.alloc (.cells #[.slice (some ⟨lb,loff,none⟩) m cap0,.slice (some ⟨b,off,none⟩) n cap,v2] 25)).alloc (.cells #[iV o2,iV xa2,iV xb2,iV ya2,iV yb2,iV ar2,iV sp2,iV pl2,iV nn2] 41)).alloc (.cells #[iV o1,iV xa1,iV xb1,iV ya1,iV yb1,iV arn,iV sp1,iV pl1,iV nn1] 41)).heap.size (((w.alloc (.cells #[.slice (some ⟨lb,loff,none⟩) m cap0,.slice (some ⟨b,off,none⟩) n cap,v2] 25)).alloc (.cells #[iV o2,iV xa2,iV xb2,iV ya2,iV yb2,iV ar2,iV sp2,iV pl2,iV nn2] 41)).alloc (.cells #[iV o1,iV xa1,iV xb1,iV ya1,iV yb1,iV arn,iV sp1,iV pl1,iV nn1] 41)) wr) (fun i _=>SZ+1 - (intOf i).toNat)
   case atStart=>exact⟨1,Nat.le_refl _,by omega,rfl,fun j h1 h2=>absurd h2 (by omega),zH _ _⟩
   case round =>
    obtain⟨k,hk1,hk2,rfl,hno,hbel⟩:=hrel
    have HNO:=z5 hno
    have HB:=z5 hbel
    obtain⟨⟨g0,g1,g2,g3,g4,g5,g6,g7,g8⟩,⟨d0,d1,d2,d3,d4,d5,d6,d7,d8⟩,z0,z1,hbw⟩:=zch hbel
    have HW:=z5 hbw
    clear hno hbel hbw
    by_cases hlt:k<=SZ
    ·have hki:(k:Int)<=(SZ:Int):=by omega
     cases hme:zE ⟨o1,xa1,xb1,ya1,yb1,arn,sp1,pl1,nn1⟩ ⟨o2,xa2,xb2,ya2,yb2,ar2,sp2,pl2,nn2⟩ k SZ with
     | true =>
       have HR:Hid (lbD ⟨o1,xa1,xb1,ya1,yb1,arn,sp1,pl1,nn1⟩ ⟨o2,xa2,xb2,ya2,yb2,ar2,sp2,pl2,nn2⟩ 1 SZ=some k):=VT hk1 hlt hme HNO.out
       have HM:=z5 (HMT.out k wr (by omega))
       rw [hme] at HM
       clear hme
       have hsh:=HSH.out
       go_wp2_with fail
       clear hsh
       refine HM.out.mono ?_
       rintro e x1 ⟨rfl,hb3⟩
       have HW2:=z5 (HW.out.trans (hb3.mono HW.out.size))
       clear hb3
       go_wp2_with fail
       exact bodyPost_ret (v:=.tuple #[iV k,.bool true]) (by simp [results,Tryz.results161,go_sem]) rfl ⟨by rw [HLO.out,HR.out];rfl,HW2.out⟩
     | false =>
       have HM:=z5 (HMT.out k wr (by omega))
       rw [hme] at HM
       have HF:=z5 hme
       clear hme
       have hsh:=HSH.out
       go_wp2_with fail
       clear hsh
       refine HM.out.mono ?_
       rintro e x1 ⟨rfl,hb3⟩
       have HB2:=z5 (HB.out.trans (hb3.mono HB.out.size))
       clear hb3
       go_wp2_with fail
       go_roundw
       case rel=>exact⟨k+1,by omega,by omega,by go_num,VV HNO.out HF.out,HB2.out⟩
       case measure=>simp [intOf];omega
    ·have hki:¬(k:Int)<=(SZ:Int):=by omega
     have HR:Hid (lbD ⟨o1,xa1,xb1,ya1,yb1,arn,sp1,pl1,nn1⟩ ⟨o2,xa2,xb2,ya2,yb2,ar2,sp2,pl2,nn2⟩ 1 SZ=none):=VS fun j h1 h2=>HNO.out j h1 (by omega)
     have hsh:=HSH.out
     go_wp2_with fail
     exact bodyPost_ret (v:=.tuple #[iV 0,.bool false]) (by simp [results,Tryz.results161,go_sem]) rfl ⟨by rw [HLO.out,HR.out];rfl,HW.out⟩
end Go.Proofs.YtjoapiafpahihabGreat
