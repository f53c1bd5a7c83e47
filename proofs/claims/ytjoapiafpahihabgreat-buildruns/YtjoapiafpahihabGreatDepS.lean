import Derived.Lib.SlicesCompact
import Derived.Test.YtjoapiafpahihabGreatRef6Is
import Derived.Test.YtjoapiafpahihabGreatLoopP
set_option maxHeartbeats 20000000
namespace Go.Proofs.YtjoapiafpahihabGreat
open Go.Proofs.Tryz
open Go.Lib
set_option linter.unusedVariables false
open Go.RowKit Go.Joins
variable {a b:St} {lo k size fr to bk wt:Nat} {L:Lp} {t:Tg} {e c:Ed} {w:World} {o1 xa1 xb1 ya1 yb1 ar1 sp1 pl1 nn1 o2 xa2 xb2 ya2 yb2 ar2 sp2 pl2 nn2:Int} {ta tb:TypeId}
def zbz (L:Lp) (t:Tg) (to:Nat):List Ed:=(zj (zc L.b to)).map fun r=>⟨r.1,to,r.2,zO t (zc L.b r.1.toNat).o⟩
def ZS (L:Lp) (t:Tg):Nat->List Ed
 | 0=>[]
 | k+1=>ZS L t k++zbz L t k
def lbD (a b:St) (lo size:Nat):Option Nat:=(List.range (size+1)).find? fun k=>ZM a b lo k size
def Xa (L:Lp) (fr to:Nat):List Ed :=
 if Xd (zc L.b fr) (zc L.b to)=true then
  match lbD (zc L.b fr) (zc L.b to) (Z4 fr to) (xY L (zc L.b fr)) with
  | some b=>[⟨fr,to,b,Zn (zc L.b fr)⟩]
  | none=>[]
 else []
def yV (L:Lp) (fr:Nat):Nat->List Ed
 | 0=>[]
 | k+1=>yV L fr k++Xa L fr k
def xy (L:Lp):Nat->List Ed
 | 0=>[]
 | k+1=>xy L k++yV L k L.b.length
def zar (L:Lp) (t:Tg):List Ed:=ZS L t L.b.length++xy L L.b.length
theorem Y3:ZM a b lo k size=true↔lo<=k/\k<=size/\yE a b k size=true/\∀i,lo<=i->i<k->yE a b i size=false:=by
 unfold ZM
 simp only [Bool.and_eq_true,decide_eq_true_eq]
 constructor
 ·rintro ⟨⟨⟨h1,h2⟩,h3⟩,h4⟩
  refine⟨h1,h2,h3,fun i hi hk=>?_⟩
  have:=zo h4 i hk
  simp at this
  rcases this with h | h
  ·omega
  ·exact h
 ·rintro ⟨h1,h2,h3,h4⟩
  refine⟨⟨⟨h1,h2⟩,h3⟩,zL fun i hi=>?_⟩
  by_cases h:i<lo
  ·simp [h]
  ·rw [h4 i (by omega) hi];simp
theorem zqa {k':Nat} (h:ZM a b lo k size=true) (h':ZM a b lo k' size=true):k=k':=by
 obtain⟨h1,h2,h3,h4⟩:=Y3.1 h
 obtain⟨g1,g2,g3,g4⟩:=Y3.1 h'
 rcases Nat.lt_trichotomy k k' with h | h | h
 ·rw [g4 k h1 h] at h3;cases h3
 ·exact h
 ·rw [h4 k' g1 h] at g3;cases g3
theorem zb2:lbD a b lo size=some k↔ZM a b lo k size=true:=by
 unfold lbD
 constructor
 ·intro h;exact List.find?_some (p:=fun k=>ZM a b lo k size) h
 ·intro h
  have hk:k∈List.range (size+1):=List.mem_range.2 (by have:=(Y3.1 h).2.1;omega)
  cases e:(List.range (size+1)).find? fun k=>ZM a b lo k size with
  | none=>exact absurd h (by have:=List.find?_eq_none.1 e k hk;exact this)
  | some k'=>rw [zqa (List.find?_some (p:=fun k=>ZM a b lo k size) e) h]
theorem zc5 (h1:lo<=k) (h2:k<=size) (h3:yE a b k size=true) (h4:∀i,lo<=i->i<k->yE a b i size=false):lbD a b lo size=some k :=
 zb2.2 (Y3.2 ⟨h1,h2,h3,h4⟩)
theorem zc4 (h:∀i,lo<=i->i<size+1->yE a b i size=false):lbD a b lo size=none:=by
 cases e:lbD a b lo size with
 | none=>rfl
 | some k =>
   obtain⟨h1,h2,h3,_⟩:=Y3.1 (zb2.1 e)
   rw [h k h1 (by omega)] at h3;cases h3
theorem yb8 (h:lbD a b lo size=some k):k<=size:=(Y3.1 (zb2.1 h)).2.1
theorem zvy:∀k,e∈ZS L t k↔∃to,to<k/\e∈zbz L t to:=by
 intro k
 induction k with
 | zero=>exact⟨fun h=>absurd h (by show ¬e∈[];simp),fun ⟨_,h,_⟩=>absurd h (Nat.not_lt_zero _)⟩
 | succ k ih =>
   show e∈ZS L t k++zbz L t k↔_
   rw [List.mem_append,ih]
   constructor
   ·rintro (⟨to,h1,h2⟩ | h)
    ·exact⟨to,by omega,h2⟩
    ·exact⟨k,by omega,h⟩
   ·rintro ⟨to,h1,h2⟩
    by_cases e1:to=k
    ·subst e1;exact .inr h2
    ·exact .inl ⟨to,by omega,h2⟩
theorem znr:∀k,e∈yV L fr k↔∃to,to<k/\e∈Xa L fr to:=by
 intro k
 induction k with
 | zero=>exact⟨fun h=>absurd h (by show ¬e∈[];simp),fun ⟨_,h,_⟩=>absurd h (Nat.not_lt_zero _)⟩
 | succ k ih =>
   show e∈yV L fr k++Xa L fr k↔_
   rw [List.mem_append,ih]
   constructor
   ·rintro (⟨to,h1,h2⟩ | h)
    ·exact⟨to,by omega,h2⟩
    ·exact⟨k,by omega,h⟩
   ·rintro ⟨to,h1,h2⟩
    by_cases e1:to=k
    ·subst e1;exact .inr h2
    ·exact .inl ⟨to,by omega,h2⟩
theorem zsy:∀k,e∈xy L k↔∃fr to,fr<k/\to<L.b.length/\e∈Xa L fr to:=by
 intro k
 induction k with
 | zero=>exact⟨fun h=>absurd h (by show ¬e∈[];simp),fun ⟨_,_,h,_⟩=>absurd h (Nat.not_lt_zero _)⟩
 | succ k ih =>
   show e∈xy L k++yV L k L.b.length↔_
   rw [List.mem_append,ih,znr]
   constructor
   ·rintro (⟨fr,to,h1,h2⟩ | ⟨to,h1,h2⟩)
    ·exact⟨fr,to,by omega,h2⟩
    ·exact⟨k,to,by omega,h1,h2⟩
   ·rintro ⟨fr,to,h1,h2,h3⟩
    by_cases e1:fr=k
    ·subst e1;exact .inr ⟨to,h2,h3⟩
    ·exact .inl ⟨fr,to,by omega,h2,h3⟩
theorem zgm:e∈Xa L fr to↔Xd (zc L.b fr) (zc L.b to)=true/\∃b:Nat,ZM (zc L.b fr) (zc L.b to) (Z4 fr to) b (xY L (zc L.b fr))=true/\e=⟨fr,to,b,Zn (zc L.b fr)⟩:=by
 unfold Xa
 by_cases h:Xd (zc L.b fr) (zc L.b to)=true
 ·rw [if_pos h]
  cases e1:lbD (zc L.b fr) (zc L.b to) (Z4 fr to) (xY L (zc L.b fr)) with
  | none =>
    refine⟨fun h=>absurd h (by simp),fun ⟨_,b,hb,_⟩=>?_⟩
    rw [zb2.2 hb] at e1;cases e1
  | some b =>
    refine⟨fun h2=>⟨h,b,zb2.1 e1,List.mem_singleton.1 h2⟩,fun ⟨_,b',hb,he⟩=>?_⟩
    rw [zb2.2 hb] at e1
    rw [he,Option.some.inj e1];exact List.mem_singleton.2 rfl
 ·rw [if_neg h]
  exact⟨fun h=>absurd h (by simp),fun h2=>absurd h2.1 h⟩
theorem zjy (L:Lp) (t:Tg) (k:Nat):(ZS L t k).length<=k*2:=by
 induction k with
 | zero=>exact Nat.le_refl _
 | succ k ih =>
   show (ZS L t k++zbz L t k).length<=(k+1)*2
   have:(zbz L t k).length<=2:=by
    unfold zbz zj
    rw [List.length_map]
    split
    ·simp
    ·split <;> simp
   rw [List.length_append];omega
theorem zsx (L:Lp) (fr to:Nat):(Xa L fr to).length<=1:=by
 unfold Xa
 split
 ·split <;> simp
 ·simp
theorem zee (L:Lp) (fr k:Nat):(yV L fr k).length<=k:=by
 induction k with
 | zero=>exact Nat.le_refl _
 | succ k ih =>
   show (yV L fr k++Xa L fr k).length<=k+1
   have:=zsx L fr k
   rw [List.length_append];omega
theorem zgn (L:Lp) (k:Nat) (hn:L.b.length<=16):(xy L k).length<=k*16:=by
 induction k with
 | zero=>exact Nat.le_refl _
 | succ k ih =>
   show (xy L k++yV L k L.b.length).length<=(k+1)*16
   have:=zee L k L.b.length
   rw [List.length_append];omega
theorem zwu (h:isD L t fr to bk wt=true):∀k,wt<k->(⟨fr,to,bk,wt⟩:Ed)∈wtD L t fr to bk k:=by
 intro k
 induction k with
 | zero=>intro h;omega
 | succ k ih =>
   intro hk
   show _∈(if isD L t fr to bk k=true then wtD L t fr to bk k++[⟨fr,to,bk,k⟩] else wtD L t fr to bk k)
   by_cases e:wt=k
   ·subst e;rw [if_pos h];simp
   ·have:=ih (by omega)
    split
    ·exact List.mem_append.2 (.inl this)
    ·exact this
theorem zcu (h:isD L t fr to bk wt=true) (hf:fr<L.b.length) (ht:to<L.b.length) (hb:bk<33) (hw:wt<7):(⟨fr,to,bk,wt⟩:Ed)∈zi L t:=by
 have h1:∀k,bk<k->(⟨fr,to,bk,wt⟩:Ed)∈bkD L t fr to k:=by
  intro k
  induction k with
  | zero=>intro h;omega
  | succ k ih =>
    intro hk
    show _∈bkD L t fr to k++wtD L t fr to k 7
    by_cases e:bk=k
    ·subst e;exact List.mem_append.2 (.inr (zwu h 7 hw))
    ·exact List.mem_append.2 (.inl (ih (by omega)))
 have h2:∀k,to<k->(⟨fr,to,bk,wt⟩:Ed)∈toD L t fr k:=by
  intro k
  induction k with
  | zero=>intro h;omega
  | succ k ih =>
    intro hk
    show _∈toD L t fr k++bkD L t fr k 33
    by_cases e:to=k
    ·subst e;exact List.mem_append.2 (.inr (h1 33 hb))
    ·exact List.mem_append.2 (.inl (ih (by omega)))
 have h3:∀k,fr<k->(⟨fr,to,bk,wt⟩:Ed)∈frD L t k:=by
  intro k
  induction k with
  | zero=>intro h;omega
  | succ k ih =>
    intro hk
    show _∈frD L t k++toD L t k L.b.length
    by_cases e:fr=k
    ·subst e;exact List.mem_append.2 (.inr (h2 _ ht))
    ·exact List.mem_append.2 (.inl (ih (by omega)))
 exact h3 _ hf
theorem zhz {r:Int × Int} (hm:zY L=true) (hto:to<L.b.length) (h:r∈zj (zc L.b to)):0<=r.1/\r.1<L.b.length/\0<=r.2/\r.2<=3:=by
 obtain⟨m1,m2,m3,m4,m5,m6,m7⟩:=zw hm
 have hs:=zo m7 to hto
 have key:∀a b,yN L.b.length to a b=true->0<=a/\a<L.b.length/\0<=b/\b<=3:=fun a b h1=>by
  unfold yN at h1
  rw [Bool.and_eq_true] at h1
  have h2:=zx.1 h1.1
  have h3:=zx.1 h1.2
  split at h3 <;> omega
 unfold yH at hs
 unfold zj at h
 by_cases h4:(zc L.b to).o=4
 ·rw [if_neg (by omega),if_neg (by omega),if_neg (by omega),if_pos h4] at hs
  simp only [Bool.and_eq_true] at hs
  rw [if_pos h4,List.mem_singleton] at h
  subst h
  exact key _ _ hs.2
 ·by_cases h10:10<(zc L.b to).o
  ·rw [if_neg (by omega),if_neg (by omega),if_neg (by omega),if_neg h4] at hs
   split at hs
   ·simp only [Bool.and_eq_true] at hs
    rw [if_neg h4,if_pos h10] at h
    rcases List.mem_cons.1 h with rfl | h
    ·exact key _ _ hs.1.2
    ·rw [List.mem_singleton.1 h];exact key _ _ hs.2
   ·exact Bool.noConfusion hs
  ·rw [if_neg h4,if_neg h10] at h
   exact absurd h (by simp)
theorem znp (h:yj t=true) (op:Int):1<=zO t op/\zO t op<=6:=by
 obtain⟨h0,h1,h2,-,-⟩:=ym h
 have a0:=yn h0
 have a1:=yn h1
 have a2:=yn h2
 unfold zO
 rw [if_pos h]
 unfold xW
 split
 ·omega
 ·split <;> omega
theorem zje {s:St} {fr bk:Int}:zfj s fr bk=true↔(fr,bk)∈zj s:=by
 unfold zfj
 rw [XY]
 constructor
 ·rintro ⟨k,hk,hp⟩
  unfold zd7 at hp
  simp only [Bool.and_eq_true,decide_eq_true_eq] at hp
  have e:zy (zj s) k=(fr,bk):=Prod.ext hp.1 hp.2
  have:zy (zj s) k∈zj s:=by
   unfold zy
   rw [List.getD_eq_getElem?_getD,List.getElem?_eq_getElem hk]
   exact List.getElem_mem hk
  rwa [e] at this
 ·intro h
  obtain⟨k,hk,he⟩:=List.getElem_of_mem h
  refine⟨k,hk,?_⟩
  have e:zy (zj s) k=(fr,bk):=by
   unfold zy
   rw [List.getD_eq_getElem?_getD,List.getElem?_eq_getElem hk,<-he];rfl
  unfold zd7
  rw [e];simp
theorem zow (hm:zY L=true) (hf:fr<L.b.length):xY L (zc L.b fr)<=32:=by
 obtain⟨m1,m2,m3,m4,m5,m6,m7⟩:=zw hm
 unfold xY
 have:(nth L.l (zc L.b fr).ar.toNat).toNat<=5:=by
  by_cases h:(zc L.b fr).ar.toNat<L.l.length
  ·have:=zx.1 (zo m5 _ h)
   omega
  ·have e:nth L.l (zc L.b fr).ar.toNat=0:=by
    unfold nth
    rw [List.getD_eq_getElem?_getD,List.getElem?_eq_none (by omega)];rfl
   rw [e];decide
 exact Nat.le_trans (Nat.pow_le_pow_right (by omega) this) (by decide)
theorem zny (hm:zY L=true) (ht:yj t=true) (e:Ed):e∈zar L t↔e∈zi L t:=by
 unfold zar
 rw [List.mem_append,zvy,zsy]
 constructor
 ·rintro (⟨to,hto,h⟩ | ⟨fr,to,hfr,hto,h⟩)
  ·unfold zbz at h
   obtain⟨r,hr,rfl⟩:=List.mem_map.1 h
   obtain⟨u1,u2,u3,u4⟩:=zhz hm hto hr
   have hw:=znp ht (zc L.b r.1.toNat).o
   have hi:isD L t r.1.toNat to r.2.toNat (zO t (zc L.b r.1.toNat).o).toNat=true:=by
    unfold isD
    rw [Int.toNat_of_nonneg u1,Int.toNat_of_nonneg u3,Int.toNat_of_nonneg (by omega),zje.2 (show (r.1,r.2)∈_ from hr)]
    simp
   have:=zcu hi (by omega) hto (by omega) (by omega)
   rwa [Int.toNat_of_nonneg u1,Int.toNat_of_nonneg u3,Int.toNat_of_nonneg (show 0<=zO t (zc L.b r.1.toNat).o by omega)] at this
  ·obtain⟨h1,b,h2,rfl⟩:=zgm.1 h
   have hb:=(Y3.1 h2).2.1
   have hs:=zow hm hfr
   have hw:Zn (zc L.b fr)=((Zn (zc L.b fr)).toNat:Int)/\(Zn (zc L.b fr)).toNat<7:=by unfold Zn;split <;> decide
   have hi:isD L t fr to b (Zn (zc L.b fr)).toNat=true:=by
    unfold isD
    rw [h1,h2,<-hw.1];simp
   have:=zcu hi hfr hto (by omega) hw.2
   rwa [<-hw.1] at this
 ·intro h
  obtain⟨fr,to,b,x,h1,h2,rfl,h4⟩:=za2 _ h
  unfold isD at h4
  rcases Bool.or_eq_true_iff.1 h4 with h4 | h4
  ·rw [Bool.and_eq_true,decide_eq_true_eq] at h4
   refine .inl ⟨to,h2,List.mem_map.2 ⟨(fr,b),zje.1 h4.1,?_⟩⟩
   rw [h4.2];rfl
  ·simp only [Bool.and_eq_true,decide_eq_true_eq] at h4
   exact .inr ⟨fr,to,h1,h2,zgm.2 ⟨h4.1.1,b,h4.2,by rw [h4.1.2]⟩⟩
def ZK (x y:Int):Int:=if x<y then -1 else if y<x then 1 else 0
def Uw (a b:Ed):Int :=
 if ZK a.fr b.fr≠0 then ZK a.fr b.fr else if ZK a.to b.to≠0 then ZK a.to b.to else if ZK a.bk b.bk≠0 then ZK a.bk b.bk else ZK a.wt b.wt
theorem Xj {a b:Ed}:Uw a b<0↔ltE a b:=by
 unfold Uw ZK ltE
 rcases Int.lt_trichotomy a.fr b.fr with h | h | h
 ·simp [h]
 ·rw [h]
  rcases Int.lt_trichotomy a.to b.to with h | h | h
  ·simp [h]
  ·rw [h]
   rcases Int.lt_trichotomy a.bk b.bk with h | h | h
   ·simp [h]
   ·rw [h]
    rcases Int.lt_trichotomy a.wt b.wt with h | h | h
    ·simp [h]
    ·simp [h]
    ·simp [h,Int.lt_asymm h]
   ·simp [h,Int.lt_asymm h,Int.ne_of_gt h]
  ·simp [h,Int.lt_asymm h,Int.ne_of_gt h]
 ·simp [h,Int.lt_asymm h,Int.ne_of_gt h]
theorem za7 (a:Ed):¬ltE a a:=by unfold ltE;omega
theorem zfl {a b:Ed} (h:ltE a b) (h2:ltE b c):ltE a c:=by unfold ltE at *;omega
theorem zfk {a b:Ed} (h:¬ltE a b) (h2:¬ltE b a):a=b:=by
 obtain⟨a1,a2,a3,a4⟩:=a
 obtain⟨b1,b2,b3,b4⟩:=b
 unfold ltE at *
 dsimp only at *
 rw [Ed.mk.injEq]
 omega
theorem ya8 {a b:Ed} (h:¬ltE b a) (h2:¬ltE c b):¬ltE c a:=by unfold ltE at *;omega
theorem zw5:∀l1 l2:List Ed,l1.Pairwise ltE->l2.Pairwise ltE->(∀e,e∈l1↔e∈l2)->l1=l2:=by
 intro l1
 induction l1 with
 | nil =>
   intro l2 _ _ h
   cases l2 with
   | nil=>rfl
   | cons b l=>exact absurd ((h b).2 (by simp)) (by simp)
 | cons a l1 ih =>
   intro l2 p1 p2 h
   cases l2 with
   | nil=>exact absurd ((h a).1 (by simp)) (by simp)
   | cons b l2 =>
     obtain⟨q1,r1⟩:=List.pairwise_cons.1 p1
     obtain⟨q2,r2⟩:=List.pairwise_cons.1 p2
     have hab:a=b:=by
      rcases List.mem_cons.1 ((h a).1 (by simp)) with e | h1
      ·exact e
      ·rcases List.mem_cons.1 ((h b).2 (by simp)) with e | h2
       ·exact e.symm
       ·exact absurd (zfl (q2 a h1) (q1 b h2)) (za7 _)
     subst hab
     rw [ih l2 r1 r2 fun e=>?_]
     constructor
     ·intro he
      rcases List.mem_cons.1 ((h e).1 (List.mem_cons_of_mem _ he)) with e1 | h1
      ·rw [e1] at he;exact absurd (q1 a he) (za7 _)
      ·exact h1
     ·intro he
      rcases List.mem_cons.1 ((h e).2 (List.mem_cons_of_mem _ he)) with e1 | h1
      ·rw [e1] at he;exact absurd (q2 a he) (za7 _)
      ·exact h1
theorem zpr [Inhabited Ed] [DecidableEq Ed] (d:Array Ed) (hs:∀i j,i<j->j<d.size->¬ltE d[j]! d[i]!):∀m,m<=d.size->(compactUpTo d m).Pairwise ltE/\∀e,e∈compactUpTo d m↔∃j,j<m/\d[j]! = e:=by
 intro m
 induction m with
 | zero=>intro _;exact⟨List.Pairwise.nil,fun e=>⟨fun h=>absurd h (by show ¬e∈[];simp),fun ⟨_,h,_⟩=>absurd h (Nat.not_lt_zero _)⟩⟩
 | succ m ih =>
   intro hm
   obtain⟨i1,i2⟩:=ih (by omega)
   rw [compactUpTo_succ]
   cases hk:keeps d m with
   | true =>
     rw [if_pos rfl]
     refine⟨List.pairwise_append.2 ⟨i1,List.pairwise_singleton _ _,fun a ha b hb=>?_⟩,fun e=>?_⟩
     ·rw [List.mem_singleton.1 hb]
      obtain⟨j,hj,rfl⟩:=(i2 a).1 ha
      have hne:d[m]! ≠ d[m - 1]! := by
       unfold keeps at hk
       rcases of_decide_eq_true hk with h | h
       ·omega
       ·exact h
      have h1:=hs (m - 1) m (by omega) (by omega)
      have h2:¬ltE d[m - 1]! d[j]! := by
       by_cases e:j=m - 1
       ·rw [e];exact za7 _
       ·exact hs j (m - 1) (by omega) (by omega)
      have h3:ltE d[m - 1]! d[m]! := Classical.byContradiction fun h=>hne (zfk h1 h)
      exact Classical.byContradiction fun h=>by
       have h4:d[j]! = d[m]! := zfk h (hs j m (by omega) (by omega))
       rw [h4] at h2
       exact h2 h3
     ·rw [List.mem_append,i2]
      constructor
      ·rintro (⟨j,hj,he⟩ | h)
       ·exact⟨j,by omega,he⟩
       ·exact⟨m,by omega,(List.mem_singleton.1 h).symm⟩
      ·rintro ⟨j,hj,he⟩
       by_cases e1:j=m
       ·subst e1;exact .inr (List.mem_singleton.2 he.symm)
       ·exact .inl ⟨j,by omega,he⟩
   | false =>
     rw [if_neg (by simp),List.append_nil]
     refine⟨i1,fun e=>?_⟩
     rw [i2]
     constructor
     ·rintro ⟨j,hj,he⟩;exact⟨j,by omega,he⟩
     ·rintro ⟨j,hj,he⟩
      by_cases e1:j=m
      ·subst e1
       unfold keeps at hk
       have hk2:=of_decide_eq_false hk
       have h0:j≠0:=fun h=>hk2 (.inl h)
       have h1:d[j]! = d[j - 1]! := Classical.byContradiction fun h=>hk2 (.inr h)
       exact⟨j - 1,by omega,by rw [<-h1];exact he⟩
      ·exact⟨j,by omega,he⟩
theorem zlh [Inhabited Ed] [DecidableEq Ed] (hm:zY L=true) (ht:yj t=true) (d:Array Ed) (hp:d.toList.Perm (zar L t)) (hs:∀i j,i<j->j<d.size->¬ltE d[j]! d[i]!):compactUpTo d d.size=zi L t:=by
 obtain⟨h1,h2⟩:=zpr d hs d.size (Nat.le_refl _)
 refine zw5 _ _ h1 (zu4 _) fun e=>?_
 rw [h2,<-zny hm ht,<-hp.mem_iff]
 constructor
 ·rintro ⟨j,hj,rfl⟩
  rw [getElem!_pos d j hj];simp
 ·intro h
  obtain⟨j,hj,he⟩:=List.getElem_of_mem h
  have hj':j<d.size:=by simpa using hj
  exact⟨j,hj',by rw [getElem!_pos d j hj',<-he];simp⟩
theorem znx (hn:L.b.length<=16):(zar L t).length<=288:=by
 unfold zar
 have h1:=zjy L t L.b.length
 have h2:=zgn L L.b.length hn
 rw [List.length_append]
 have:L.b.length*2+L.b.length*16<=288:=by omega
 omega
theorem UQ (o xa xb ya yb ar sp pl nn:Int) (w:World) :
  Calls prog 178 #[.agg #[iV o,iV xa,iV xb,iV ya,iV yb,iV ar,iV sp,iV pl,iV nn]] w (Rt w (.bool (ZW ⟨o,xa,xb,ya,yb,ar,sp,pl,nn⟩))):=by
 rcases zni o with ⟨rfl,a3,a4⟩ | ⟨rfl,a3,a4⟩ | ⟨ap,aq,a3,a4⟩
 ·have HX:Hid (ZW ⟨3,xa,xb,ya,yb,ar,sp,pl,nn⟩=true):=rfl
  go_enter func178,ntmps178
  go_wp2_with fail
  go_ret
  exact⟨zg HX.out.symm,below_alloc1 _ _⟩
 ·have HX:Hid (ZW ⟨4,xa,xb,ya,yb,ar,sp,pl,nn⟩=true):=rfl
  go_enter func178,ntmps178
  go_wp2_with fail
  go_ret
  exact⟨zg HX.out.symm,below_alloc1 _ _⟩
 ·have HX:Hid (ZW ⟨o,xa,xb,ya,yb,ar,sp,pl,nn⟩=false):=by show ZW _=_;simp [ZW, *]
  go_enter func178,ntmps178
  go_wp2_with fail
  go_ret
  exact⟨zg HX.out.symm,below_alloc1 _ _⟩
theorem zet (o xa xb ya yb ar sp pl nn:Int) (w:World) :
  Calls prog 162 #[.agg #[iV o,iV xa,iV xb,iV ya,iV yb,iV ar,iV sp,iV pl,iV nn]] w fun e w'=>e=.returned (iV (Zn ⟨o,xa,xb,ya,yb,ar,sp,pl,nn⟩))/\w'=w.alloc (.cells #[iV o,iV xa,iV xb,iV ya,iV yb,iV ar,iV sp,iV pl,iV nn] 41):=by
 by_cases h:o=4
 ·subst h
  have HX:Hid (Zn ⟨4,xa,xb,ya,yb,ar,sp,pl,nn⟩=1):=rfl
  go_enter func162,ntmps162
  go_wp2_with fail
  go_ret
  exact⟨yO HX.out.symm,rfl⟩
 ·have HX:Hid (Zn ⟨o,xa,xb,ya,yb,ar,sp,pl,nn⟩=0):=if_neg h
  have hb:(o == 4)=false:=by simpa using h
  clear h
  go_enter func162,ntmps162
  go_wp2_with fail
  go_ret
  exact⟨yO HX.out.symm,rfl⟩
theorem zn4 (o1 xa1 xb1 ya1 yb1 ar1 sp1 pl1 nn1 o2 xa2 xb2 ya2 yb2 ar2 sp2 pl2 nn2:Int) (w:World) :
  Calls prog 160 #[.agg #[iV o1,iV xa1,iV xb1,iV ya1,iV yb1,iV ar1,iV sp1,iV pl1,iV nn1],.agg #[iV o2,iV xa2,iV xb2,iV ya2,iV yb2,iV ar2,iV sp2,iV pl2,iV nn2]] w (Rt w (.bool (Xd ⟨o1,xa1,xb1,ya1,yb1,ar1,sp1,pl1,nn1⟩ ⟨o2,xa2,xb2,ya2,yb2,ar2,sp2,pl2,nn2⟩))):=by
 have HA:=z9 (fun W=>UQ o1 xa1 xb1 ya1 yb1 ar1 sp1 pl1 nn1 W)
 have HB:=z9 (fun W=>UQ o2 xa2 xb2 ya2 yb2 ar2 sp2 pl2 nn2 W)
 have HX:Hid (Xd ⟨o1,xa1,xb1,ya1,yb1,ar1,sp1,pl1,nn1⟩ ⟨o2,xa2,xb2,ya2,yb2,ar2,sp2,pl2,nn2⟩=(ZW ⟨o1,xa1,xb1,ya1,yb1,ar1,sp1,pl1,nn1⟩ && ZW ⟨o2,xa2,xb2,ya2,yb2,ar2,sp2,pl2,nn2⟩ && decide (ar1=ar2) && (decide (o1=4) || decide (o2=4)))):=rfl
 generalize Xd ⟨o1,xa1,xb1,ya1,yb1,ar1,sp1,pl1,nn1⟩ ⟨o2,xa2,xb2,ya2,yb2,ar2,sp2,pl2,nn2⟩=R at HX ⊢
 generalize ZW ⟨o1,xa1,xb1,ya1,yb1,ar1,sp1,pl1,nn1⟩=b1 at HA HX
 generalize ZW ⟨o2,xa2,xb2,ya2,yb2,ar2,sp2,pl2,nn2⟩=b2 at HB HX
 cases b1 with
 | false =>
   have HR:Hid (R=false):=HX.out
   clear HX
   go_enter func160,ntmps160
   go_wp2_with fail
   refine (HA.out _).mono ?_
   rintro e x1 ⟨rfl,hb1⟩
   have HW:=z9 ((below_alloc2 w _ _).trans (hb1.mono (by simp;omega)))
   clear hb1
   go_wp2_with fail
   go_ret
   exact⟨zg HR.out.symm,HW.out⟩
 | true =>
   have hs:((w.alloc (.cells #[iV o1,iV xa1,iV xb1,iV ya1,iV yb1,iV ar1,iV sp1,iV pl1,iV nn1] 41)).alloc (.cells #[iV o2,iV xa2,iV xb2,iV ya2,iV yb2,iV ar2,iV sp2,iV pl2,iV nn2] 41)).heap.size=w.heap.size+1+1:=by simp
   have HS:=z9 hs
   clear hs
   cases b2 with
   | false =>
     have HR:Hid (R=false):=HX.out
     clear HX
     go_enter func160,ntmps160
     go_wp2_with fail
     refine (HA.out _).mono ?_
     rintro e x1 ⟨rfl,hb1⟩
     have hc1:=zf hb1
     have hz1:=hb1.size
     rw [HS.out] at hz1
     have HW:=z9 ((below_alloc2 w _ _).trans (hb1.mono (by simp;omega)))
     clear hb1
     go_wp2_with fail
     refine (HB.out _).mono ?_
     rintro e x2 ⟨rfl,hb2⟩
     have HW2:=z9 (HW.out.trans (hb2.mono HW.out.size))
     clear hb2
     go_wp2_with fail
     go_ret
     exact⟨zg HR.out.symm,HW2.out⟩
   | true =>
     go_enter func160,ntmps160
     go_wp2_with fail
     refine (HA.out _).mono ?_
     rintro e x1 ⟨rfl,hb1⟩
     have hc1:=zf hb1
     have hz1:=hb1.size
     rw [HS.out] at hz1
     have HW:=z9 ((below_alloc2 w _ _).trans (hb1.mono (by simp;omega)))
     clear hb1
     go_wp2_with fail
     refine (HB.out _).mono ?_
     rintro e x2 ⟨rfl,hb2⟩
     have z0:w.heap.size<x1.heap.size:=by omega
     have z1:w.heap.size+1<x1.heap.size:=by omega
     have hc2:=zf hb2
     have HW2:=z9 (HW.out.trans (hb2.mono HW.out.size))
     clear hb2
     by_cases hra:ar1=ar2
     ·subst hra
      by_cases h1:o1=4
      ·subst h1
       have HR:Hid (R=true):=by show R=true;rw [HX.out];simp
       clear HX
       go_wp2_with fail
       go_ret
       exact⟨zg HR.out.symm,HW2.out⟩
      ·have g1:(o1 == 4)=false:=by simpa using h1
       by_cases h2:o2=4
       ·subst h2
        have HR:Hid (R=true):=by show R=true;rw [HX.out];simp
        clear HX
        go_wp2_with fail
        go_ret
        exact⟨zg HR.out.symm,HW2.out⟩
       ·have g2:(o2 == 4)=false:=by simpa using h2
        have HR:Hid (R=false):=by show R=false;rw [HX.out];simp [h1,h2]
        clear HX
        go_wp2_with fail
        go_ret
        exact⟨zg HR.out.symm,HW2.out⟩
     ·have g3:(ar1 == ar2)=false:=by simpa using hra
      have HR:Hid (R=false):=by show R=false;rw [HX.out];simp [hra]
      clear HX
      go_wp2_with fail
      go_ret
      exact⟨zg HR.out.symm,HW2.out⟩
theorem zme {wr:World} (h:Below (w.heap.size+1+1) ((w.alloc (.cells #[iV o1,iV xa1,iV xb1,iV ya1,iV yb1,iV ar1,iV sp1,iV pl1,iV nn1] ta)).alloc (.cells #[iV o2,iV xa2,iV xb2,iV ya2,iV yb2,iV ar2,iV sp2,iV pl2,iV nn2] tb)) wr) :
  wr.cell? (ad w.heap.size 6)=sI sp1/\wr.cell? (ad w.heap.size 7)=sI pl1/\wr.cell? (ad (w.heap.size+1) 6)=sI sp2/\wr.cell? (ad (w.heap.size+1) 7)=sI pl2/\Bw w wr:=by
 have hs:((w.alloc (.cells #[iV o1,iV xa1,iV xb1,iV ya1,iV yb1,iV ar1,iV sp1,iV pl1,iV nn1] ta)).alloc (.cells #[iV o2,iV xa2,iV xb2,iV ya2,iV yb2,iV ar2,iV sp2,iV pl2,iV nn2] tb)).heap.size=w.heap.size+1+1:=by simp
 have h':Below ((w.alloc (.cells #[iV o1,iV xa1,iV xb1,iV ya1,iV yb1,iV ar1,iV sp1,iV pl1,iV nn1] ta)).alloc (.cells #[iV o2,iV xa2,iV xb2,iV ya2,iV yb2,iV ar2,iV sp2,iV pl2,iV nn2] tb)).heap.size ((w.alloc (.cells #[iV o1,iV xa1,iV xb1,iV ya1,iV yb1,iV ar1,iV sp1,iV pl1,iV nn1] ta)).alloc (.cells #[iV o2,iV xa2,iV xb2,iV ya2,iV yb2,iV ar2,iV sp2,iV pl2,iV nn2] tb)) wr:=by rw [hs];exact h
 refine⟨?_,?_,?_,?_,(below_alloc2 w _ _).trans (h.mono (by omega))⟩
 all_goals rw [zf h' _ _ (by omega)]
 all_goals go_simp
theorem zqy (o1 xa1 xb1 ya1 yb1 ar1 sp1 pl1 nn1 o2 xa2 xb2 ya2 yb2 ar2 sp2 pl2 nn2 lg:Int) (back SZ:Nat) (w:World) (hl0:0<=lg) (hl5:lg<=5) (hSZ:2 ^ lg.toNat=SZ) (hsh:wrap64 (2 ^ lg.toNat)=(SZ:Int)) (hS:SZ<=32) (hb:back<=32) (h1:-64<=sp1) (h2:sp1<=64) (h3:-64<=pl1) (h4:pl1<=64) (h5:-64<=sp2) (h6:sp2<=64) (h7:-64<=pl2) (h8:pl2<=64) :
  Calls prog 179 #[.agg #[iV o1,iV xa1,iV xb1,iV ya1,iV yb1,iV ar1,iV sp1,iV pl1,iV nn1],.agg #[iV o2,iV xa2,iV xb2,iV ya2,iV yb2,iV ar2,iV sp2,iV pl2,iV nn2],iV back,iV lg] w (Rt w (.bool (yE ⟨o1,xa1,xb1,ya1,yb1,ar1,sp1,pl1,nn1⟩ ⟨o2,xa2,xb2,ya2,yb2,ar2,sp2,pl2,nn2⟩ back SZ))):=by
 have HSZ:=z9 hSZ
 clear hSZ
 go_enter func179,ntmps179
 go_wp2_with fail
 go_loopw [12] (fun i wr=>∃k:Nat,k<=SZ/\i=iV k/\exN (zmd ⟨o1,xa1,xb1,ya1,yb1,ar1,sp1,pl1,nn1⟩ ⟨o2,xa2,xb2,ya2,yb2,ar2,sp2,pl2,nn2⟩ back SZ) k=false/\Below (w.heap.size+1+1) ((w.alloc (.cells #[iV o1,iV xa1,iV xb1,iV ya1,iV yb1,iV ar1,iV sp1,iV pl1,iV nn1] 41)).alloc (.cells #[iV o2,iV xa2,iV xb2,iV ya2,iV yb2,iV ar2,iV sp2,iV pl2,iV nn2] 41)) wr) (fun i _=>SZ - (intOf i).toNat)
 case atStart=>exact⟨0,Nat.zero_le _,rfl,rfl,Below.refl _ _⟩
 case round =>
  obtain⟨k,hk,rfl,hex,gH⟩:=hrel
  have HEX:=z9 hex
  obtain⟨c1,c2,c3,c4,hbw⟩:=zme gH
  have HB:=z9 gH
  have HW:=z9 hbw
  clear hex gH hbw
  by_cases hlt:k<SZ
  ·have hki:(k:Int)<(SZ:Int):=by omega
   have e1:idx sp1 pl1 k lg=(sp1*k+pl1) % SZ:=by
    unfold idx p2
    rw [if_pos (by omega),HSZ.out]
   have e2:idx sp2 pl2 ((k:Int)+back) lg=(sp2*((k:Int)+back)+pl2) % SZ:=by
    unfold idx p2
    rw [if_pos (by omega),HSZ.out]
   have HM:Hid (zmd ⟨o1,xa1,xb1,ya1,yb1,ar1,sp1,pl1,nn1⟩ ⟨o2,xa2,xb2,ya2,yb2,ar2,sp2,pl2,nn2⟩ back SZ k=decide (idx sp1 pl1 k lg=idx sp2 pl2 ((k:Int)+back) lg)):=by show _=decide _;rw [e1,e2];rfl
   have ew:IntKind.i64.wrap ((k:Int)+(back:Int))=(k:Int)+back:=zz7 _ (by omega) (by omega)
   clear e1 e2
   by_cases hXY:idx sp1 pl1 k lg=idx sp2 pl2 ((k:Int)+back) lg
   ·have HT:Hid (yE ⟨o1,xa1,xb1,ya1,yb1,ar1,sp1,pl1,nn1⟩ ⟨o2,xa2,xb2,ya2,yb2,ar2,sp2,pl2,nn2⟩ back SZ=true):=Z0 hlt (by rw [HM.out];exact decide_eq_true hXY)
    have hbb:(idx sp1 pl1 k lg == idx sp2 pl2 ((k:Int)+back) lg)=true:=by simpa using hXY
    clear hXY
    go_wp2_with fail
    go_big_quiet ((go_at_call 175;exact Calls.quiet_of_same (U4 _ _ _ _ _)))
    go_wp2_with fail
    go_ret
    exact⟨zg HT.out.symm,HW.out.trans (below_draws _ _ _)⟩
   ·have HF:=z9 (zty HEX.out (by rw [HM.out];exact decide_eq_false hXY))
    have hbb:(idx sp1 pl1 k lg == idx sp2 pl2 ((k:Int)+back) lg)=false:=by simpa using hXY
    clear hXY
    go_wp2_with fail
    go_big_quiet ((go_at_call 175;exact Calls.quiet_of_same (U4 _ _ _ _ _)))
    go_wp2_with fail
    go_roundw
    case rel=>exact⟨k+1,by omega,by go_num,HF.out,HB.out.trans (below_draws _ _ _)⟩
    case measure=>simp [intOf];omega
  ·have e:k=SZ:=by omega
   have HT:Hid (yE ⟨o1,xa1,xb1,ya1,yb1,ar1,sp1,pl1,nn1⟩ ⟨o2,xa2,xb2,ya2,yb2,ar2,sp2,pl2,nn2⟩ back SZ=false):=by show yE _ _ _ _=false;rw [<-e];unfold yE;rw [e];rw [e] at HEX;exact HEX.out
   have hki:¬(k:Int)<(SZ:Int):=by omega
   clear e
   go_wp2_with fail
   go_ret
   exact⟨zg HT.out.symm,HW.out⟩
def lbV (o:Option Nat):Int:=match o with | some b=>(b:Int) | none=>0
def lbB (o:Option Nat):Bool:=match o with | some _=>true | none=>false
theorem zc7 {p:Nat->Bool} (h:∀j,lo<=j->j<k->p j=false) (hk:p k=false):∀j,lo<=j->j<k+1->p j=false:=fun j h1 h2=>by
 by_cases e:j=k
 ·rw [e];exact hk
 ·exact h j h1 (by omega)
theorem zU (n:Nat) (w:World):Below n w w.drew:=below_draws _ _ 1
theorem zhx {y:World} {o:Obj} (h:Below (((w.alloc o).alloc (.cells #[iV o1,iV xa1,iV xb1,iV ya1,iV yb1,iV ar1,iV sp1,iV pl1,iV nn1] ta)).alloc (.cells #[iV o2,iV xa2,iV xb2,iV ya2,iV yb2,iV ar2,iV sp2,iV pl2,iV nn2] tb)).heap.size (((w.alloc o).alloc (.cells #[iV o1,iV xa1,iV xb1,iV ya1,iV yb1,iV ar1,iV sp1,iV pl1,iV nn1] ta)).alloc (.cells #[iV o2,iV xa2,iV xb2,iV ya2,iV yb2,iV ar2,iV sp2,iV pl2,iV nn2] tb)) y) :
  (y.cell? (ad (w.heap.size+1) 0)=sI o1/\y.cell? (ad (w.heap.size+1) 1)=sI xa1/\y.cell? (ad (w.heap.size+1) 2)=sI xb1/\y.cell? (ad (w.heap.size+1) 3)=sI ya1/\y.cell? (ad (w.heap.size+1) 4)=sI yb1/\y.cell? (ad (w.heap.size+1) 5)=sI ar1/\y.cell? (ad (w.heap.size+1) 6)=sI sp1/\y.cell? (ad (w.heap.size+1) 7)=sI pl1/\y.cell? (ad (w.heap.size+1) 8)=sI nn1) /\
  (y.cell? (ad (w.heap.size+1+1) 0)=sI o2/\y.cell? (ad (w.heap.size+1+1) 1)=sI xa2/\y.cell? (ad (w.heap.size+1+1) 2)=sI xb2/\y.cell? (ad (w.heap.size+1+1) 3)=sI ya2/\y.cell? (ad (w.heap.size+1+1) 4)=sI yb2/\y.cell? (ad (w.heap.size+1+1) 5)=sI ar2/\y.cell? (ad (w.heap.size+1+1) 6)=sI sp2/\y.cell? (ad (w.heap.size+1+1) 7)=sI pl2/\y.cell? (ad (w.heap.size+1+1) 8)=sI nn2)/\w.heap.size+1<y.heap.size/\w.heap.size+1+1<y.heap.size/\Bw w y:=by
 have e:(w.alloc o).heap.size=w.heap.size+1:=by simp
 obtain⟨h1,h2,h3,h4,h5⟩:=zss h
 rw [e] at h1 h2 h3 h4
 exact⟨h1,h2,h3,h4,(below_alloc1 w o).trans (h5.mono (by rw [e];omega))⟩
set_option maxRecDepth 100000 in
theorem zm5 (v1' v2:Value) (fr to arn lgN n:Nat) (o1 xa1 xb1 ya1 yb1 sp1 pl1 nn1 o2 xa2 xb2 ya2 yb2 ar2 sp2 pl2 nn2:Int) (lb loff gA b off cap SZ lo m:Nat) (w:World) (hfr:fr<n) (hto:to<n) (hn:n<=16) (hnc:n<=cap) (hcap:cap<=9223372036854775807) (hml:arn<m) (hmc:m<=gA) (hc0:gA<=9223372036854775807) (hb:b<w.heap.size) (hlb:lb<w.heap.size)
  (ha:∀j,j<9->w.cell? (ad b (off+fr*9+j))=(zP ⟨o1,xa1,xb1,ya1,yb1,arn,sp1,pl1,nn1⟩)[j]?) (hc:∀j,j<9->w.cell? (ad b (off+to*9+j))=(zP ⟨o2,xa2,xb2,ya2,yb2,ar2,sp2,pl2,nn2⟩)[j]?) (hlg:w.cell? (ad lb (loff+arn))=sI lgN) (hl5:lgN<=5) (hSZ:2 ^ lgN=SZ) (hS:SZ<=32) (hlo:Z4 fr to=lo) (h1:-64<=sp1) (h2:sp1<=64) (h3:-64<=pl1) (h4:pl1<=64) (h5:-64<=sp2) (h6:sp2<=64) (h7:-64<=pl2) (h8:pl2<=64) :
  Calls prog 161 #[.agg #[.slice (some (ad lb loff)) m gA,.slice (some (ad b off)) n cap,v2],iV fr,iV to] w (Rt w (.tuple #[iV (lbV (lbD ⟨o1,xa1,xb1,ya1,yb1,arn,sp1,pl1,nn1⟩ ⟨o2,xa2,xb2,ya2,yb2,ar2,sp2,pl2,nn2⟩ lo SZ)),.bool (lbB (lbD ⟨o1,xa1,xb1,ya1,yb1,arn,sp1,pl1,nn1⟩ ⟨o2,xa2,xb2,ya2,yb2,ar2,sp2,pl2,nn2⟩ lo SZ))])):=by
 obtain⟨a0,a1,a2,a3,a4,a5,a6,a7,a8⟩:=V5 ha
 obtain⟨c0,c1,c2,c3,c4,c5,c6,c7,c8⟩:=V5 hc
 dsimp only at a0 a1 a2 a3 a4 a5 a6 a7 a8 c0 c1 c2 c3 c4 c5 c6 c7 c8
 have HMT:=z9 (fun (k:Nat) W (hk:k<=32)=>zqy o1 xa1 xb1 ya1 yb1 arn sp1 pl1 nn1 o2 xa2 xb2 ya2 yb2 ar2 sp2 pl2 nn2 lgN k SZ W (by omega) (by omega) (by simpa using hSZ) (by rw [zhs _ (by omega) (by omega)];rw [show ((lgN:Nat):Int).toNat=lgN from Int.toNat_natCast _,hSZ]) hS hk h1 h2 h3 h4 h5 h6 h7 h8)
 have hsh:wrap64 (2 ^ lgN)=(SZ:Int):=by have:=zhs lgN (by omega) (by omega);rw [show ((lgN:Nat):Int).toNat=lgN from Int.toNat_natCast _,hSZ] at this;exact this
 have HSH:=z9 hsh
 clear hsh
 have hfi:(fr:Int)<(n:Int):=by omega
 have hti:(to:Int)<(n:Int):=by omega
 have hmi:(arn:Int)<(m:Int):=by omega
 have hb1:b<w.heap.size+1:=by omega
 have hb2:b<w.heap.size+1+1:=by omega
 have hd1:lb<w.heap.size+1:=by omega
 have hd2:lb<w.heap.size+1+1:=by omega
 clear ha hc hSZ
 by_cases hft:fr<to
 ·have hfti:(fr:Int)<(to:Int):=by omega
  have HLO:Hid (lo=0):=by show lo=0;rw [<-hlo];unfold Z4;rw [if_neg (by omega)]
  clear hlo
  go_enter func161,ntmps161
  go_wp2_with fail
  go_region
  ·go_wp2_with fail
   go_loopw [12] (fun i wr=>∃k:Nat,0<=k/\k<=SZ+1/\i=iV k/\(∀j,0<=j->j<k->yE ⟨o1,xa1,xb1,ya1,yb1,arn,sp1,pl1,nn1⟩ ⟨o2,xa2,xb2,ya2,yb2,ar2,sp2,pl2,nn2⟩ j SZ=false)/\Below (((w.alloc (.cells #[.slice (some (ad lb loff)) m gA,.slice (some (ad b off)) n cap,v2] 25)).alloc (.cells #[iV o1,iV xa1,iV xb1,iV ya1,iV yb1,iV arn,iV sp1,iV pl1,iV nn1] 41)).alloc (.cells #[iV o2,iV xa2,iV xb2,iV ya2,iV yb2,iV ar2,iV sp2,iV pl2,iV nn2] 41)).heap.size (((w.alloc (.cells #[.slice (some (ad lb loff)) m gA,.slice (some (ad b off)) n cap,v2] 25)).alloc (.cells #[iV o1,iV xa1,iV xb1,iV ya1,iV yb1,iV arn,iV sp1,iV pl1,iV nn1] 41)).alloc (.cells #[iV o2,iV xa2,iV xb2,iV ya2,iV yb2,iV ar2,iV sp2,iV pl2,iV nn2] 41)) wr) (fun i _=>SZ+1 - (intOf i).toNat)
   case atStart=>exact⟨0,Nat.le_refl _,by omega,rfl,fun j h1 h2=>absurd h2 (by omega),zU _ _⟩
   case round =>
    obtain⟨k,hk1,hk2,rfl,hno,gH⟩:=hrel
    have HNO:=z9 hno
    have HB:=z9 gH
    obtain⟨⟨g0,g1,g2,g3,g4,g5,g6,g7,g8⟩,⟨d0,d1,d2,d3,d4,d5,d6,d7,d8⟩,z0,z1,hbw⟩:=zhx gH
    have HW:=z9 hbw
    clear hno gH hbw
    by_cases hlt:k<=SZ
    ·have hki:(k:Int)<=(SZ:Int):=by omega
     cases hme:yE ⟨o1,xa1,xb1,ya1,yb1,arn,sp1,pl1,nn1⟩ ⟨o2,xa2,xb2,ya2,yb2,ar2,sp2,pl2,nn2⟩ k SZ with
     | true =>
       have HR:Hid (lbD ⟨o1,xa1,xb1,ya1,yb1,arn,sp1,pl1,nn1⟩ ⟨o2,xa2,xb2,ya2,yb2,ar2,sp2,pl2,nn2⟩ 0 SZ=some k):=zc5 hk1 hlt hme HNO.out
       have HM:=z9 (HMT.out k wr (by omega))
       rw [hme] at HM
       clear hme
       have hsh:=HSH.out
       go_wp2_with fail
       clear hsh
       refine HM.out.mono ?_
       rintro e x1 ⟨rfl,hb3⟩
       have HW2:=z9 (HW.out.trans (hb3.mono HW.out.size))
       clear hb3
       go_wp2_with fail
       exact bodyPost_ret (v:=.tuple #[iV k,.bool true]) (by simp [results,results161,go_sem]) rfl ⟨by rw [HLO.out,HR.out];rfl,HW2.out⟩
     | false =>
       have HM:=z9 (HMT.out k wr (by omega))
       rw [hme] at HM
       have HF:=z9 hme
       clear hme
       have hsh:=HSH.out
       go_wp2_with fail
       clear hsh
       refine HM.out.mono ?_
       rintro e x1 ⟨rfl,hb3⟩
       have HB2:=z9 (HB.out.trans (hb3.mono HB.out.size))
       clear hb3
       go_wp2_with fail
       go_roundw
       case rel=>exact⟨k+1,by omega,by omega,by go_num,zc7 HNO.out HF.out,HB2.out⟩
       case measure=>simp [intOf];omega
    ·have hki:¬(k:Int)<=(SZ:Int):=by omega
     have HR:Hid (lbD ⟨o1,xa1,xb1,ya1,yb1,arn,sp1,pl1,nn1⟩ ⟨o2,xa2,xb2,ya2,yb2,ar2,sp2,pl2,nn2⟩ 0 SZ=none):=zc4 fun j h1 h2=>HNO.out j h1 (by omega)
     have hsh:=HSH.out
     go_wp2_with fail
     exact bodyPost_ret (v:=.tuple #[iV 0,.bool false]) (by simp [results,results161,go_sem]) rfl ⟨by rw [HLO.out,HR.out];rfl,HW.out⟩
  ·go_wp2_with fail
   go_loopw [12] (fun i wr=>∃k:Nat,0<=k/\k<=SZ+1/\i=iV k/\(∀j,0<=j->j<k->yE ⟨o1,xa1,xb1,ya1,yb1,arn,sp1,pl1,nn1⟩ ⟨o2,xa2,xb2,ya2,yb2,ar2,sp2,pl2,nn2⟩ j SZ=false)/\Below (((w.alloc (.cells #[.slice (some (ad lb loff)) m gA,.slice (some (ad b off)) n cap,v2] 25)).alloc (.cells #[iV o2,iV xa2,iV xb2,iV ya2,iV yb2,iV ar2,iV sp2,iV pl2,iV nn2] 41)).alloc (.cells #[iV o1,iV xa1,iV xb1,iV ya1,iV yb1,iV arn,iV sp1,iV pl1,iV nn1] 41)).heap.size (((w.alloc (.cells #[.slice (some (ad lb loff)) m gA,.slice (some (ad b off)) n cap,v2] 25)).alloc (.cells #[iV o2,iV xa2,iV xb2,iV ya2,iV yb2,iV ar2,iV sp2,iV pl2,iV nn2] 41)).alloc (.cells #[iV o1,iV xa1,iV xb1,iV ya1,iV yb1,iV arn,iV sp1,iV pl1,iV nn1] 41)) wr) (fun i _=>SZ+1 - (intOf i).toNat)
   case atStart=>exact⟨0,Nat.le_refl _,by omega,rfl,fun j h1 h2=>absurd h2 (by omega),zU _ _⟩
   case round =>
    obtain⟨k,hk1,hk2,rfl,hno,gH⟩:=hrel
    have HNO:=z9 hno
    have HB:=z9 gH
    obtain⟨⟨g0,g1,g2,g3,g4,g5,g6,g7,g8⟩,⟨d0,d1,d2,d3,d4,d5,d6,d7,d8⟩,z0,z1,hbw⟩:=zhx gH
    have HW:=z9 hbw
    clear hno gH hbw
    by_cases hlt:k<=SZ
    ·have hki:(k:Int)<=(SZ:Int):=by omega
     cases hme:yE ⟨o1,xa1,xb1,ya1,yb1,arn,sp1,pl1,nn1⟩ ⟨o2,xa2,xb2,ya2,yb2,ar2,sp2,pl2,nn2⟩ k SZ with
     | true =>
       have HR:Hid (lbD ⟨o1,xa1,xb1,ya1,yb1,arn,sp1,pl1,nn1⟩ ⟨o2,xa2,xb2,ya2,yb2,ar2,sp2,pl2,nn2⟩ 0 SZ=some k):=zc5 hk1 hlt hme HNO.out
       have HM:=z9 (HMT.out k wr (by omega))
       rw [hme] at HM
       clear hme
       have hsh:=HSH.out
       go_wp2_with fail
       clear hsh
       refine HM.out.mono ?_
       rintro e x1 ⟨rfl,hb3⟩
       have HW2:=z9 (HW.out.trans (hb3.mono HW.out.size))
       clear hb3
       go_wp2_with fail
       exact bodyPost_ret (v:=.tuple #[iV k,.bool true]) (by simp [results,results161,go_sem]) rfl ⟨by rw [HLO.out,HR.out];rfl,HW2.out⟩
     | false =>
       have HM:=z9 (HMT.out k wr (by omega))
       rw [hme] at HM
       have HF:=z9 hme
       clear hme
       have hsh:=HSH.out
       go_wp2_with fail
       clear hsh
       refine HM.out.mono ?_
       rintro e x1 ⟨rfl,hb3⟩
       have HB2:=z9 (HB.out.trans (hb3.mono HB.out.size))
       clear hb3
       go_wp2_with fail
       go_roundw
       case rel=>exact⟨k+1,by omega,by omega,by go_num,zc7 HNO.out HF.out,HB2.out⟩
       case measure=>simp [intOf];omega
    ·have hki:¬(k:Int)<=(SZ:Int):=by omega
     have HR:Hid (lbD ⟨o1,xa1,xb1,ya1,yb1,arn,sp1,pl1,nn1⟩ ⟨o2,xa2,xb2,ya2,yb2,ar2,sp2,pl2,nn2⟩ 0 SZ=none):=zc4 fun j h1 h2=>HNO.out j h1 (by omega)
     have hsh:=HSH.out
     go_wp2_with fail
     exact bodyPost_ret (v:=.tuple #[iV 0,.bool false]) (by simp [results,results161,go_sem]) rfl ⟨by rw [HLO.out,HR.out];rfl,HW.out⟩
 ·have hfti:¬(fr:Int)<(to:Int):=by omega
  have HLO:Hid (lo=1):=by show lo=1;rw [<-hlo];unfold Z4;rw [if_pos (by omega)]
  clear hlo
  go_enter func161,ntmps161
  go_wp2_with fail
  go_region
  ·go_wp2_with fail
   go_loopw [12] (fun i wr=>∃k:Nat,1<=k/\k<=SZ+1/\i=iV k/\(∀j,1<=j->j<k->yE ⟨o1,xa1,xb1,ya1,yb1,arn,sp1,pl1,nn1⟩ ⟨o2,xa2,xb2,ya2,yb2,ar2,sp2,pl2,nn2⟩ j SZ=false)/\Below (((w.alloc (.cells #[.slice (some (ad lb loff)) m gA,.slice (some (ad b off)) n cap,v2] 25)).alloc (.cells #[iV o1,iV xa1,iV xb1,iV ya1,iV yb1,iV arn,iV sp1,iV pl1,iV nn1] 41)).alloc (.cells #[iV o2,iV xa2,iV xb2,iV ya2,iV yb2,iV ar2,iV sp2,iV pl2,iV nn2] 41)).heap.size (((w.alloc (.cells #[.slice (some (ad lb loff)) m gA,.slice (some (ad b off)) n cap,v2] 25)).alloc (.cells #[iV o1,iV xa1,iV xb1,iV ya1,iV yb1,iV arn,iV sp1,iV pl1,iV nn1] 41)).alloc (.cells #[iV o2,iV xa2,iV xb2,iV ya2,iV yb2,iV ar2,iV sp2,iV pl2,iV nn2] 41)) wr) (fun i _=>SZ+1 - (intOf i).toNat)
   case atStart=>exact⟨1,Nat.le_refl _,by omega,rfl,fun j h1 h2=>absurd h2 (by omega),zU _ _⟩
   case round =>
    obtain⟨k,hk1,hk2,rfl,hno,gH⟩:=hrel
    have HNO:=z9 hno
    have HB:=z9 gH
    obtain⟨⟨g0,g1,g2,g3,g4,g5,g6,g7,g8⟩,⟨d0,d1,d2,d3,d4,d5,d6,d7,d8⟩,z0,z1,hbw⟩:=zhx gH
    have HW:=z9 hbw
    clear hno gH hbw
    by_cases hlt:k<=SZ
    ·have hki:(k:Int)<=(SZ:Int):=by omega
     cases hme:yE ⟨o1,xa1,xb1,ya1,yb1,arn,sp1,pl1,nn1⟩ ⟨o2,xa2,xb2,ya2,yb2,ar2,sp2,pl2,nn2⟩ k SZ with
     | true =>
       have HR:Hid (lbD ⟨o1,xa1,xb1,ya1,yb1,arn,sp1,pl1,nn1⟩ ⟨o2,xa2,xb2,ya2,yb2,ar2,sp2,pl2,nn2⟩ 1 SZ=some k):=zc5 hk1 hlt hme HNO.out
       have HM:=z9 (HMT.out k wr (by omega))
       rw [hme] at HM
       clear hme
       have hsh:=HSH.out
       go_wp2_with fail
       clear hsh
       refine HM.out.mono ?_
       rintro e x1 ⟨rfl,hb3⟩
       have HW2:=z9 (HW.out.trans (hb3.mono HW.out.size))
       clear hb3
       go_wp2_with fail
       exact bodyPost_ret (v:=.tuple #[iV k,.bool true]) (by simp [results,results161,go_sem]) rfl ⟨by rw [HLO.out,HR.out];rfl,HW2.out⟩
     | false =>
       have HM:=z9 (HMT.out k wr (by omega))
       rw [hme] at HM
       have HF:=z9 hme
       clear hme
       have hsh:=HSH.out
       go_wp2_with fail
       clear hsh
       refine HM.out.mono ?_
       rintro e x1 ⟨rfl,hb3⟩
       have HB2:=z9 (HB.out.trans (hb3.mono HB.out.size))
       clear hb3
       go_wp2_with fail
       go_roundw
       case rel=>exact⟨k+1,by omega,by omega,by go_num,zc7 HNO.out HF.out,HB2.out⟩
       case measure=>simp [intOf];omega
    ·have hki:¬(k:Int)<=(SZ:Int):=by omega
     have HR:Hid (lbD ⟨o1,xa1,xb1,ya1,yb1,arn,sp1,pl1,nn1⟩ ⟨o2,xa2,xb2,ya2,yb2,ar2,sp2,pl2,nn2⟩ 1 SZ=none):=zc4 fun j h1 h2=>HNO.out j h1 (by omega)
     have hsh:=HSH.out
     go_wp2_with fail
     exact bodyPost_ret (v:=.tuple #[iV 0,.bool false]) (by simp [results,results161,go_sem]) rfl ⟨by rw [HLO.out,HR.out];rfl,HW.out⟩
  ·go_wp2_with fail
   go_loopw [12] (fun i wr=>∃k:Nat,1<=k/\k<=SZ+1/\i=iV k/\(∀j,1<=j->j<k->yE ⟨o1,xa1,xb1,ya1,yb1,arn,sp1,pl1,nn1⟩ ⟨o2,xa2,xb2,ya2,yb2,ar2,sp2,pl2,nn2⟩ j SZ=false)/\Below (((w.alloc (.cells #[.slice (some (ad lb loff)) m gA,.slice (some (ad b off)) n cap,v2] 25)).alloc (.cells #[iV o2,iV xa2,iV xb2,iV ya2,iV yb2,iV ar2,iV sp2,iV pl2,iV nn2] 41)).alloc (.cells #[iV o1,iV xa1,iV xb1,iV ya1,iV yb1,iV arn,iV sp1,iV pl1,iV nn1] 41)).heap.size (((w.alloc (.cells #[.slice (some (ad lb loff)) m gA,.slice (some (ad b off)) n cap,v2] 25)).alloc (.cells #[iV o2,iV xa2,iV xb2,iV ya2,iV yb2,iV ar2,iV sp2,iV pl2,iV nn2] 41)).alloc (.cells #[iV o1,iV xa1,iV xb1,iV ya1,iV yb1,iV arn,iV sp1,iV pl1,iV nn1] 41)) wr) (fun i _=>SZ+1 - (intOf i).toNat)
   case atStart=>exact⟨1,Nat.le_refl _,by omega,rfl,fun j h1 h2=>absurd h2 (by omega),zU _ _⟩
   case round =>
    obtain⟨k,hk1,hk2,rfl,hno,gH⟩:=hrel
    have HNO:=z9 hno
    have HB:=z9 gH
    obtain⟨⟨g0,g1,g2,g3,g4,g5,g6,g7,g8⟩,⟨d0,d1,d2,d3,d4,d5,d6,d7,d8⟩,z0,z1,hbw⟩:=zhx gH
    have HW:=z9 hbw
    clear hno gH hbw
    by_cases hlt:k<=SZ
    ·have hki:(k:Int)<=(SZ:Int):=by omega
     cases hme:yE ⟨o1,xa1,xb1,ya1,yb1,arn,sp1,pl1,nn1⟩ ⟨o2,xa2,xb2,ya2,yb2,ar2,sp2,pl2,nn2⟩ k SZ with
     | true =>
       have HR:Hid (lbD ⟨o1,xa1,xb1,ya1,yb1,arn,sp1,pl1,nn1⟩ ⟨o2,xa2,xb2,ya2,yb2,ar2,sp2,pl2,nn2⟩ 1 SZ=some k):=zc5 hk1 hlt hme HNO.out
       have HM:=z9 (HMT.out k wr (by omega))
       rw [hme] at HM
       clear hme
       have hsh:=HSH.out
       go_wp2_with fail
       clear hsh
       refine HM.out.mono ?_
       rintro e x1 ⟨rfl,hb3⟩
       have HW2:=z9 (HW.out.trans (hb3.mono HW.out.size))
       clear hb3
       go_wp2_with fail
       exact bodyPost_ret (v:=.tuple #[iV k,.bool true]) (by simp [results,results161,go_sem]) rfl ⟨by rw [HLO.out,HR.out];rfl,HW2.out⟩
     | false =>
       have HM:=z9 (HMT.out k wr (by omega))
       rw [hme] at HM
       have HF:=z9 hme
       clear hme
       have hsh:=HSH.out
       go_wp2_with fail
       clear hsh
       refine HM.out.mono ?_
       rintro e x1 ⟨rfl,hb3⟩
       have HB2:=z9 (HB.out.trans (hb3.mono HB.out.size))
       clear hb3
       go_wp2_with fail
       go_roundw
       case rel=>exact⟨k+1,by omega,by omega,by go_num,zc7 HNO.out HF.out,HB2.out⟩
       case measure=>simp [intOf];omega
    ·have hki:¬(k:Int)<=(SZ:Int):=by omega
     have HR:Hid (lbD ⟨o1,xa1,xb1,ya1,yb1,arn,sp1,pl1,nn1⟩ ⟨o2,xa2,xb2,ya2,yb2,ar2,sp2,pl2,nn2⟩ 1 SZ=none):=zc4 fun j h1 h2=>HNO.out j h1 (by omega)
     have hsh:=HSH.out
     go_wp2_with fail
     exact bodyPost_ret (v:=.tuple #[iV 0,.bool false]) (by simp [results,results161,go_sem]) rfl ⟨by rw [HLO.out,HR.out];rfl,HW.out⟩
end Go.Proofs.YtjoapiafpahihabGreat
