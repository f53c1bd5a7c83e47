import Derived.Test.YtjlfcbccpcigeacGreatDoorB
import Derived.Lib.SlicesCompact
set_option maxHeartbeats 40000000
set_option linter.defProp false
namespace Go.Proofs.YtjlfcbccpcigeacGreatDoor
open Go.Proofs.Tryz Go.RowKit Go.Joins
set_option linter.unusedVariables false
set_option linter.unusedSimpArgs false
set_option maxRecDepth 8192
section
open Go.Lib
variable {a b:St} {lo k size fr to bk wt:Nat} {L:Lp} {t:Tg} {e c:Ed} {w:wO} {o1 xa1 xb1 ya1 yb1 ar1 sp1 pl1 nn1 o2 xa2 xb2 ya2 yb2 ar2 sp2 pl2 nn2:Int} {ta tb:TypeId}
def lk (L:Lp) (t:Tg) (to:Nat):List Ed:=(zu (zc L.b to)).map fun r=>⟨r.1,to,r.2,yj t (zc L.b r.1.toNat).o⟩
def Yt (L:Lp) (t:Tg):Nat->List Ed
 | 0=>[]
 | k+1=>Yt L t k++lk L t k
def i4 (a b:St) (lo size:Nat):Option Nat:=(List.range (size+1)).find? fun k=>YZ a b lo k size
def XX (L:Lp) (fr to:Nat):List Ed :=
 if jA (zc L.b fr) (zc L.b to)=true then
  match i4 (zc L.b fr) (zc L.b to) (Y7 fr to) (Yu L (zc L.b fr)) with
  | some b=>[⟨fr,to,b,XU (zc L.b fr)⟩]
  | none=>[]
 else []
def xp (L:Lp) (fr:Nat):Nat->List Ed
 | 0=>[]
 | k+1=>xp L fr k++XX L fr k
def xI (L:Lp):Nat->List Ed
 | 0=>[]
 | k+1=>xI L k++xp L k L.b.length
def jJ (L:Lp) (t:Tg):List Ed:=Yt L t L.b.length++xI L L.b.length
theorem YC:YZ a b lo k size=true↔lo<=k/\k<=size/\Zc a b k size/\∀i,lo<=i->i<k->Zc a b i size=false:=by grind [YZ,zq,yk]
def NU {c:Nat} (h:YZ a b lo k size) (d:YZ a b lo c size):k=c:=by grind [YC]
theorem oe:i4 a b lo size=some k↔YZ a b lo k size=true:=by
 unfold i4;constructor
 ·simp_all
 intro h;have c:k∈List.range (size+1):=WU.2 (by grind [YC]);cases e:(List.range (size+1)).find? fun k=>YZ a b lo k size with
 | none=>exact absurd h sA
 | some d=>rw [NU (List.find?_some (p:=fun k=>YZ a b lo k size) e) h]
def p9 (h1:lo<=k) (c:k<=size) (d:Zc a b k size) (f:∀i,lo<=i->i<k->Zc a b i size=false):i4 a b lo size=some k :=by grind [oe,YC]
def qa (h:∀i,lo<=i->i<size+1->Zc a b i size=false):i4 a b lo size=none:=by grind [i4,YC]
def NV (h:i4 a b lo size=some k):k<=size:=(YC.1 (oe.1 h)).2.1
theorem NW:∀k,e∈Yt L t k↔∃to,to<k/\e∈lk L t to:=by
 intro k;induction k with
 | zero=>exact⟨fun h=>absurd h (by show ¬e∈[];simp),fun ⟨_,h,_⟩=>absurd h (Qv _)⟩
 | succ k ih =>
  grind [Yt]
theorem NX:∀k,e∈xp L fr k↔∃to,to<k/\e∈XX L fr to:=by
 intro k;induction k with
 | zero=>exact⟨fun h=>absurd h (by show ¬e∈[];simp),fun ⟨_,h,_⟩=>absurd h (Qv _)⟩
 | succ k ih =>
  grind [xp]
theorem NY:∀k,e∈xI L k↔∃fr to,fr<k/\to<L.b.length/\e∈XX L fr to:=by
 intro k;induction k with
 | zero=>exact⟨fun h=>absurd h (by show ¬e∈[];simp),fun ⟨_,_,h,_⟩=>absurd h (Qv _)⟩
 | succ k ih =>
  grind [xI,NX]
def Cm:e∈XX L fr to↔jA (zc L.b fr) (zc L.b to)/\∃b:Nat,YZ (zc L.b fr) (zc L.b to) (Y7 fr to) b (Yu L (zc L.b fr))/\e=⟨fr,to,b,XU (zc L.b fr)⟩:=by
 unfold XX;by_cases h:jA (zc L.b fr) (zc L.b to)
 ·rw [Qf h];cases a:i4 (zc L.b fr) (zc L.b to) (Y7 fr to) (Yu L (zc L.b fr)) with
  | none =>refine⟨fun h=>absurd h sM,fun ⟨_,b,hb,_⟩=>?_⟩;rw [oe.2 hb] at a;cases a
  | some b =>refine⟨fun c=>⟨h,b,oe.1 a,QT.1 c⟩,fun ⟨_,b',hb,d⟩=>?_⟩;rw [oe.2 hb] at a;rw [d,QD a];exact QT.2 rfl
 simp_all
theorem Cn (L:Lp) (t:Tg) (k:Nat):(Yt L t k).length<=k*2:=by
 induction k with
 | zero=>exact Qc _
 | succ k ih =>
  grind [Yt,lk,zu]
def NZ (L:Lp) (fr to:Nat):(XX L fr to).length<=1:=by grind [XX]
def Co (L:Lp) (fr k:Nat):(xp L fr k).length<=k:=by
 induction k with
 | zero=>exact Qc _
 | succ k ih =>show (xp L fr k++XX L fr k).length<=k+1;have:=NZ L fr k;rw [Qt];lia
theorem Cq (L:Lp) (k:Nat) (hn:L.b.length<=16):(xI L k).length<=k*16:=by
 induction k with
 | zero=>exact Qc _
 | succ k ih =>show (xI L k++xp L k L.b.length).length<=(k+1)*16;have:=Co L k L.b.length;rw [Qt];lia
theorem N1 (h:jr L t fr to bk wt):∀k,wt<k->(⟨fr,to,bk,wt⟩:Ed)∈jB L t fr to bk k:=by
 intro k;induction k with
 | zero=>intro h;lia
 | succ k ih =>
  grind [jB]
theorem Cr (h:jr L t fr to bk wt) (c:fr<L.b.length) (g:to<L.b.length) (hb:bk<33) (i:wt<7):(⟨fr,to,bk,wt⟩:Ed)∈zf L t:=by
 have h1:∀k,bk<k->(⟨fr,to,bk,wt⟩:Ed)∈jG L t fr to k:=by
  intro k;induction k with
  | zero=>intro h;lia
  | succ k ih =>
   grind [jG,N1]
 have d:∀k,to<k->(⟨fr,to,bk,wt⟩:Ed)∈jW L t fr k:=by
  intro k;induction k with
  | zero=>intro h;lia
  | succ k ih =>
   intro f;show _∈jW L t fr k++jG L t fr k 33;grind
 have a:∀k,fr<k->(⟨fr,to,bk,wt⟩:Ed)∈jX L t k:=by
  intro k;induction k with
  | zero=>intro h;lia
  | succ k ih =>
   grind [jX]
 exact a _ c
def tH {r:Int × Int} (hm:zQ L) (f:to<L.b.length) (h:r∈zu (zc L.b to)):0<=r.1/\r.1<L.b.length/\0<=r.2/\r.2<=3:=by
 obtain⟨i,j,k,l,m,n,g⟩:=zy hm;have hs:=zq g to f;have key:∀a b,xj L.b.length to a b->0<=a/\a<L.b.length/\0<=b/\b<=3:=fun a b h1=>by grind [xj,zH]
 unfold yW at hs;unfold zu at h;by_cases d:(zc L.b to).o=4
 ·rw [Qe lI,Qe lI,Qe lI,Qf d] at hs;simp only [Qg] at hs;grind
 by_cases c:10<(zc L.b to).o
 ·rw [Qe lI,Qe lI,Qe lI,Qe d] at hs;split at hs
  ·simp only [Qg] at hs;rw [Qe d,Qf c] at h;rcases WE.1 h with rfl | h
   ·exact key _ _ hs.1.2
   rw [QT.1 h];exact key _ _ hs.2
  simp_all
 simp_all
def N2 (h:zS t) (op:Int):1<=yj t op/\yj t op<=6:=by
 obtain⟨h0,h1,a,-,-⟩:=yi h;have a0:=yG h0;have b:=yG h1;have c:=yG a;grind [yj,Xb]
theorem Cs {s:St} {fr bk:Int}:oV s fr bk=true↔(fr,bk)∈zu s:=by
 unfold oV;rw [nk];constructor
 ·grind [oU,zO,zu]
 intro h;obtain⟨k,a,b⟩:=List.getElem_of_mem h;refine⟨k,a,?_⟩;grind [zO,oU]
def Ct (hm:zQ L) (c:fr<L.b.length):Yu L (zc L.b fr)<=32:=by
 obtain⟨d,f,g,i,a,j,k⟩:=zy hm;unfold Yu;have:(ak L.l (zc L.b fr).ar.toNat).toNat<=5:=by
  by_cases h:(zc L.b fr).ar.toNat<L.l.length
  ·have:=zH.1 (zq a _ h);lia
  grind [ak]
 exact QH (WP lI this) tQ
def Cu (hm:zQ L) (g:zS t) (e:Ed):e∈jJ L t↔e∈zf L t:=by
 unfold jJ;rw [QK,NW,NY];constructor
 ·rintro (⟨to,d,h⟩ | ⟨fr,to,f,d,h⟩)
  ·unfold lk at h;obtain⟨r,hr,rfl⟩:=WV.1 h;obtain⟨u1,u2,u3,j⟩:=tH hm d hr;have i:=N2 g (zc L.b r.1.toNat).o;have hi:jr L t r.1.toNat to r.2.toNat (yj t (zc L.b r.1.toNat).o).toNat:=(by grind [jr,Cs]);grind [Cr]
  obtain⟨h1,b,c,rfl⟩:=Cm.1 h;have hb:=(YC.1 c).2.1;have hs:=Ct hm f;have i:XU (zc L.b fr)=((XU (zc L.b fr)).toNat:Int)/\(XU (zc L.b fr)).toNat<7:=by grind [XU]
  grind [jr,Cr]
 intro h;obtain⟨fr,to,b,x,h1,c,rfl,a⟩:=ny _ h;unfold jr at a;rcases qo.1 a with a | a
 ·rw [Qg,QE] at a;refine .inl ⟨to,c,WV.2 ⟨(fr,b),Cs.1 a.1,?_⟩⟩;rw [a.2];rfl
 simp only [Qg,QE] at a;exact .inr ⟨fr,to,h1,c,Cm.2 ⟨a.1.1,b,a.2,by rw [a.1.2]⟩⟩
def Yi (x y:Int):Int:=if x<y then -1 else if y<x then 1 else 0
def ju (a b:Ed):Int :=
 if Yi a.fr b.fr≠0 then Yi a.fr b.fr else if Yi a.to b.to≠0 then Yi a.to b.to else if Yi a.bk b.bk≠0 then Yi a.bk b.bk else Yi a.wt b.wt
theorem V9 {a b:Ed}:ju a b<0↔ia a b:=by grind [ju,ia,Yi]
theorem tI (a:Ed):¬ia a a:=by unfold ia;lia
theorem Cv {a b:Ed} (h:ia a b) (d:ia b c):ia a c:=by grind [ia]
theorem N3 {a b:Ed} (h:¬ia a b) (i:¬ia b a):a=b:=by
 obtain⟨c,d,f,g⟩:=a;obtain⟨b1,b2,b3,b4⟩:=b;grind [ia]
theorem N4 {a b:Ed} (h:¬ia b a) (d:¬ia c b):¬ia c a:=by grind [ia]
def N5:∀l1 l2:List Ed,l1.Pairwise ia->l2.Pairwise ia->(∀e,e∈l1↔e∈l2)->l1=l2:=by
 intro l1;induction l1 with
 | nil =>
  intro l2 _ _ h;cases l2 with
  | nil=>rfl
  | cons b l=>exact absurd ((h b).2 sM) sM
 | cons a l1 ih =>
  intro l2 p1 p2 h;cases l2 with
  | nil=>exact absurd ((h a).1 sM) sM
  | cons b l2 =>
   obtain⟨f,r1⟩:=EU.1 p1;obtain⟨g,r2⟩:=EU.1 p2;have c:a=b:=by
    rcases WE.1 ((h a).1 sM) with e | h1
    ·exact e
    rcases WE.1 ((h b).2 sM) with e | d
    ·exact e.s
    grind [Cv,tI]
   grind [tI]
def N6 [Inhabited Ed] [DecidableEq Ed] (d:Array Ed) (hs:∀i j,i<j->j<d.size->¬ia d[j]! d[i]!):∀m,m<=d.size->(compactUpTo d m).Pairwise ia/\∀e,e∈compactUpTo d m↔∃j,j<m/\d[j]! = e:=by
 intro m;induction m with
 | zero=>intro _;exact⟨List.Pairwise.nil,fun e=>⟨fun h=>absurd h (by show ¬e∈[];simp),fun ⟨_,h,_⟩=>absurd h (Qv _)⟩⟩
 | succ m ih =>
  intro hm;obtain⟨i1,i2⟩:=ih lI;rw [compactUpTo_succ];cases c:keeps d m with
  | true =>
   rw [Qf rfl];refine⟨Eq.2 ⟨i1,qJ _ _,fun a g b hb=>?_⟩,fun e=>?_⟩
   ·rw [QT.1 hb];obtain⟨j,k,rfl⟩:=(i2 a).1 g;have l:d[m]! ≠ d[m - 1]! := by
     unfold keeps at c;grind
    have h1:=hs (m - 1) m lI lI;grind [N3]
   grind
  | false =>
   rw [Qe sM,WJ];refine⟨i1,fun e=>?_⟩;rw [i2];constructor
   ·grind
   rintro ⟨j,k,n⟩;by_cases f:j=m
   ·subst f;unfold keeps at c;grind
   grind
def N7 [Inhabited Ed] [DecidableEq Ed] (hm:zQ L) (c:zS t) (d:Array Ed) (b:d.toList.Perm (jJ L t)) (hs:∀i j,i<j->j<d.size->¬ia d[j]! d[i]!):compactUpTo d d.size=zf L t:=by
 obtain⟨h1,a⟩:=N6 d hs d.size (Qc _);refine N5 _ _ h1 (GN _) fun e=>?_;rw [a,<-Cu hm c,<-b.mem_iff];constructor
 ·grind
 intro h;obtain⟨j,g,f⟩:=List.getElem_of_mem h;grind
def Cw (hn:L.b.length<=16):(jJ L t).length<=288:=by grind [jJ,Cn,Cq]
def Cx (o xa xb ya yb ar sp pl nn:Int) (w:wO) :
  Cp 129 #[.agg #[J o,J xa,J xb,J ya,J yb,J ar,J sp,J pl,J nn]] w (Rt w (.bool (Xh ⟨o,xa,xb,ya,yb,ar,sp,pl,nn⟩))):=by
 rcases Sa o with ⟨rfl,b,c⟩ | ⟨rfl,b,c⟩ | ⟨ap,d,b,c⟩
 ·have a:Hid (Xh ⟨3,xa,xb,ya,yb,ar,sp,pl,nn⟩):=rfl;go_enter func129,ntmps129;go_wp2;go_ret;exact⟨zi a.s,Qd _ _⟩
 ·have a:Hid (Xh ⟨4,xa,xb,ya,yb,ar,sp,pl,nn⟩):=rfl;go_enter func129,ntmps129;go_wp2;go_ret;exact⟨zi a.s,Qd _ _⟩
 have a:Hid (Xh ⟨o,xa,xb,ya,yb,ar,sp,pl,nn⟩=false):=by show Xh _=_;simp [Xh, *]
 go_enter func129,ntmps129;go_wp2;go_ret;exact⟨zi a.s,Qd _ _⟩
def N8 (o xa xb ya yb ar sp pl nn:Int) (w:wO) :
  Cp 85 #[.agg #[J o,J xa,J xb,J ya,J yb,J ar,J sp,J pl,J nn]] w fun e w'=>e=.returned (J (XU ⟨o,xa,xb,ya,yb,ar,sp,pl,nn⟩))/\w'=w.alloc (nB o xa xb ya yb ar sp pl nn):=by
 by_cases h:o=4
 ·subst h;have a:Hid (XU ⟨4,xa,xb,ya,yb,ar,sp,pl,nn⟩=1):=rfl;go_enter func85,ntmps85;go_wp2;go_ret;exact⟨xe a.s,rfl⟩
 have a:Hid (XU ⟨o,xa,xb,ya,yb,ar,sp,pl,nn⟩=0):=Qe h;have hb:(o == 4)=false:=by simpa using h
 clear h;go_enter func85,ntmps85;go_wp2;go_ret;exact⟨xe a.s,rfl⟩
def N9 (o1 xa1 xb1 ya1 yb1 ar1 sp1 pl1 nn1 o2 xa2 xb2 ya2 yb2 ar2 sp2 pl2 nn2:Int) (w:wO) :
  Cp 83 #[.agg #[J o1,J xa1,J xb1,J ya1,J yb1,J ar1,J sp1,J pl1,J nn1],.agg #[J o2,J xa2,J xb2,J ya2,J yb2,J ar2,J sp2,J pl2,J nn2]] w (Rt w (.bool (jA ⟨o1,xa1,xb1,ya1,yb1,ar1,sp1,pl1,nn1⟩ ⟨o2,xa2,xb2,ya2,yb2,ar2,sp2,pl2,nn2⟩))):=by
 have i:=Z (fun W=>Cx o1 xa1 xb1 ya1 yb1 ar1 sp1 pl1 nn1 W);have k:=Z (fun W=>Cx o2 xa2 xb2 ya2 yb2 ar2 sp2 pl2 nn2 W);have c:Hid (jA ⟨o1,xa1,xb1,ya1,yb1,ar1,sp1,pl1,nn1⟩ ⟨o2,xa2,xb2,ya2,yb2,ar2,sp2,pl2,nn2⟩=(Xh ⟨o1,xa1,xb1,ya1,yb1,ar1,sp1,pl1,nn1⟩ && Xh ⟨o2,xa2,xb2,ya2,yb2,ar2,sp2,pl2,nn2⟩ && decide (ar1=ar2) && (decide (o1=4) || decide (o2=4)))):=rfl;generalize jA ⟨o1,xa1,xb1,ya1,yb1,ar1,sp1,pl1,nn1⟩ ⟨o2,xa2,xb2,ya2,yb2,ar2,sp2,pl2,nn2⟩=R at c ⊢;generalize Xh ⟨o1,xa1,xb1,ya1,yb1,ar1,sp1,pl1,nn1⟩=b1 at i c;generalize Xh ⟨o2,xa2,xb2,ya2,yb2,ar2,sp2,pl2,nn2⟩=b2 at k c;cases b1 with
 | false =>have b:Hid (R=false):=c;clear c;go_enter func83,ntmps83;go_wp2_with fail;refine (i _).mr fun j a=>?_;have d:=Z ((QB w _ _).t (a.m sO));clear a;go_wp2_with fail;go_ret;exact⟨zi b.s,d⟩
 | true =>
  have hs:((w.alloc (nB o1 xa1 xb1 ya1 yb1 ar1 sp1 pl1 nn1)).alloc (nB o2 xa2 xb2 ya2 yb2 ar2 sp2 pl2 nn2)).heap.size=w.heap.size+1+1:=sM
  have m:=Z hs;clear hs;cases b2 with
  | false =>have b:Hid (R=false):=c;clear c;go_enter func83,ntmps83;go_wp2_with fail;refine (i _).mr fun j a=>?_;have o:=ze a;have l:=a.size;rw [m] at l;have d:=Z ((QB w _ _).t (a.m sO));clear a;go_wp2_with fail;refine (k _).mr fun p g=>?_;have f:=Z (d.t (g.m d.size));clear g;go_wp2_with fail;go_ret;exact⟨zi b.s,f⟩
  | true =>
   go_enter func83,ntmps83;go_wp2_with fail;refine (i _).mr fun j a=>?_;have o:=ze a;have l:=a.size;rw [m] at l;have d:=Z ((QB w _ _).t (a.m sO));clear a;go_wp2_with fail;refine (k _).mr fun p g=>?_;have u:w.heap.size<j.heap.size:=(by omega);have v:w.heap.size+1<j.heap.size:=(by omega);have q:=ze g;have f:=Z (d.t (g.m d.size));clear g;by_cases h:ar1=ar2
   ·subst h;by_cases h1:o1=4
    ·subst h1;have b:Hid (R):=(by simp_all);clear c;go_wp2;go_ret;exact⟨zi b.s,f⟩
    have r:(o1 == 4)=false:=(by simpa using h1);by_cases n:o2=4
    ·subst n;have b:Hid (R):=(by simp_all);clear c;go_wp2;go_ret;exact⟨zi b.s,f⟩
    have s:(o2 == 4)=false:=(by simpa using n);have b:Hid (R=false):=(by simp_all);clear c;go_wp2;go_ret;exact⟨zi b.s,f⟩
   have t:(ar1 == ar2)=false:=(by simpa using h);have b:Hid (R=false):=(by simp_all);clear c;go_wp2;go_ret;exact⟨zi b.s,f⟩
def Oa {wr:wO} (h:Below (w.heap.size+1+1) ((w.alloc (.cells #[J o1,J xa1,J xb1,J ya1,J yb1,J ar1,J sp1,J pl1,J nn1] ta)).alloc (.cells #[J o2,J xa2,J xb2,J ya2,J yb2,J ar2,J sp2,J pl2,J nn2] tb)) wr) :
  wr.cell? (E w.heap.size 6)=Y sp1/\wr.cell? (E w.heap.size 7)=Y pl1/\wr.cell? (E (w.heap.size+1) 6)=Y sp2/\wr.cell? (E (w.heap.size+1) 7)=Y pl2/\Bw w wr:=by
 have hs:((w.alloc (.cells #[J o1,J xa1,J xb1,J ya1,J yb1,J ar1,J sp1,J pl1,J nn1] ta)).alloc (.cells #[J o2,J xa2,J xb2,J ya2,J yb2,J ar2,J sp2,J pl2,J nn2] tb)).heap.size=w.heap.size+1+1:=sM
 have a:Below ((w.alloc (.cells #[J o1,J xa1,J xb1,J ya1,J yb1,J ar1,J sp1,J pl1,J nn1] ta)).alloc (.cells #[J o2,J xa2,J xb2,J ya2,J yb2,J ar2,J sp2,J pl2,J nn2] tb)).heap.size ((w.alloc (.cells #[J o1,J xa1,J xb1,J ya1,J yb1,J ar1,J sp1,J pl1,J nn1] ta)).alloc (.cells #[J o2,J xa2,J xb2,J ya2,J yb2,J ar2,J sp2,J pl2,J nn2] tb)) wr:=by rw [hs];exact h
 refine⟨?_,?_,?_,?_,(QB w _ _).t (h.m oM)⟩;all_goals rw [ze a _ _ oM]
 all_goals go_simp
def Ob (o1 xa1 xb1 ya1 yb1 ar1 sp1 pl1 nn1 o2 xa2 xb2 ya2 yb2 ar2 sp2 pl2 nn2 c:Int) (a b:Nat) (w:wO) (y:0<=c) (x:c<=5) (p:2 ^ c.toNat=b) (z:wrap64 (2 ^ c.toNat)=(b:Int)) (hS:b<=32) (hb:a<=32) (h1:-64<=sp1) (G:sp1<=64) (H:-64<=pl1) (I:pl1<=64) (K:-64<=sp2) (L:sp2<=64) (M:-64<=pl2) (N:pl2<=64) :
  Cp 130 #[.agg #[J o1,J xa1,J xb1,J ya1,J yb1,J ar1,J sp1,J pl1,J nn1],.agg #[J o2,J xa2,J xb2,J ya2,J yb2,J ar2,J sp2,J pl2,J nn2],J a,J c] w (Rt w (.bool (Zc ⟨o1,xa1,xb1,ya1,yb1,ar1,sp1,pl1,nn1⟩ ⟨o2,xa2,xb2,ya2,yb2,ar2,sp2,pl2,nn2⟩ a b))):=by
 have m:=Z p;clear p;go_enter func130,ntmps130;go_wp2;go_loopw [12] (fun i wr=>∃k:Nat,k<=b/\i=J k/\jz (rN ⟨o1,xa1,xb1,ya1,yb1,ar1,sp1,pl1,nn1⟩ ⟨o2,xa2,xb2,ya2,yb2,ar2,sp2,pl2,nn2⟩ a b) k=false/\Below (w.z+1+1) ((w.alloc (nB o1 xa1 xb1 ya1 yb1 ar1 sp1 pl1 nn1)).alloc (nB o2 xa2 xb2 ya2 yb2 ar2 sp2 pl2 nn2)) wr) (fun i _=>b - (intOf i).toNat)
 case atStart=>exact⟨0,Ql _,rfl,rfl,QA _ _⟩
 obtain⟨k,O,rfl,n,g⟩:=hrel;have u:=Z n;obtain⟨A,B,C,D,o⟩:=Oa g;have s:=Z g;have l:=Z o;clear n g o;by_cases h:k<b
 ·have v:(k:Int)<(b:Int):=oM
  have q:iu sp1 pl1 k c=(sp1*k+pl1) % b:=by unfold iu p2;rw [Qf oM,m]
  have r:iu sp2 pl2 ((k:Int)+a) c=(sp2*((k:Int)+a)+pl2) % b:=by unfold iu p2;rw [Qf oM,m]
  have j:Hid (rN ⟨o1,xa1,xb1,ya1,yb1,ar1,sp1,pl1,nn1⟩ ⟨o2,xa2,xb2,ya2,yb2,ar2,sp2,pl2,nn2⟩ a b k=decide (iu sp1 pl1 k c=iu sp2 pl2 ((k:Int)+a) c)):=by show _=decide _;rw [q,r];rfl
  have F:IntKind.i64.wrap ((k:Int)+(a:Int))=(k:Int)+a:=R9 _ oM oM;clear q r;by_cases d:iu sp1 pl1 k c=iu sp2 pl2 ((k:Int)+a) c
  ·have f:Hid (Zc ⟨o1,xa1,xb1,ya1,yb1,ar1,sp1,pl1,nn1⟩ ⟨o2,xa2,xb2,ya2,yb2,ar2,sp2,pl2,nn2⟩ a b):=ZX h (by rw [j];exact Qi d);have hbb:(iu sp1 pl1 k c == iu sp2 pl2 ((k:Int)+a) c):=(by simpa using d);clear d;go_wp2;go_big_quiet ((go_at_call 186;exact Calls.quiet_of_same (pD _ _ _ _ _)));go_wp2;go_ret;exact⟨zi f.s,l.t (Qm _ _ _)⟩
  have t:=Z (Gd u (by rw [j];exact Qk d));have hbb:(iu sp1 pl1 k c == iu sp2 pl2 ((k:Int)+a) c)=false:=by simpa using d
  clear d;go_wp2;go_big_quiet ((go_at_call 186;exact Calls.quiet_of_same (pD _ _ _ _ _)));go_wp2;go_roundw
  case rel=>exact⟨k+1,oM,nQ,t,s.t (Qm _ _ _)⟩
  simp [intOf];omega
 have e:k=b:=oM
 have f:Hid (Zc ⟨o1,xa1,xb1,ya1,yb1,ar1,sp1,pl1,nn1⟩ ⟨o2,xa2,xb2,ya2,yb2,ar2,sp2,pl2,nn2⟩ a b=false):=by grind [Zc]
 have v:¬(k:Int)<(b:Int):=oM
 clear e;go_wp2;go_ret;exact⟨zi f.s,l⟩
def Cy (o:Option Nat):Int:=match o with | some b=>(b:Int) | none=>0
def Cz (o:Option Nat):Bool:=match o with | some _=>true | none=>false
def qb {p:Nat->Bool} (h:∀j,lo<=j->j<k->p j=false) (a:p k=false):∀j,lo<=j->j<k+1->p j=false:=rQ
def zV (n:Nat) (w:wO):Below n w w.drew:=Qm _ _ 1
def qe {y:wO} {o:Obj} (h:Below (((w.alloc o).alloc (.cells #[J o1,J xa1,J xb1,J ya1,J yb1,J ar1,J sp1,J pl1,J nn1] ta)).alloc (.cells #[J o2,J xa2,J xb2,J ya2,J yb2,J ar2,J sp2,J pl2,J nn2] tb)).heap.size (((w.alloc o).alloc (.cells #[J o1,J xa1,J xb1,J ya1,J yb1,J ar1,J sp1,J pl1,J nn1] ta)).alloc (.cells #[J o2,J xa2,J xb2,J ya2,J yb2,J ar2,J sp2,J pl2,J nn2] tb)) y) :
  (y.cell? (E (w.heap.size+1) 0)=Y o1/\y.cell? (E (w.heap.size+1) 1)=Y xa1/\y.cell? (E (w.heap.size+1) 2)=Y xb1/\y.cell? (E (w.heap.size+1) 3)=Y ya1/\y.cell? (E (w.heap.size+1) 4)=Y yb1/\y.cell? (E (w.heap.size+1) 5)=Y ar1/\y.cell? (E (w.heap.size+1) 6)=Y sp1/\y.cell? (E (w.heap.size+1) 7)=Y pl1/\y.cell? (E (w.heap.size+1) 8)=Y nn1) /\
  (y.cell? (E (w.heap.size+1+1) 0)=Y o2/\y.cell? (E (w.heap.size+1+1) 1)=Y xa2/\y.cell? (E (w.heap.size+1+1) 2)=Y xb2/\y.cell? (E (w.heap.size+1+1) 3)=Y ya2/\y.cell? (E (w.heap.size+1+1) 4)=Y yb2/\y.cell? (E (w.heap.size+1+1) 5)=Y ar2/\y.cell? (E (w.heap.size+1+1) 6)=Y sp2/\y.cell? (E (w.heap.size+1+1) 7)=Y pl2/\y.cell? (E (w.heap.size+1+1) 8)=Y nn2)/\w.heap.size+1<y.heap.size/\w.heap.size+1+1<y.heap.size/\Bw w y:=by
 have e:(w.alloc o).heap.size=w.z+1:=sM
 obtain⟨h1,a,b,c,d⟩:=Hl h;rw [e] at h1 a b c;exact⟨h1,a,b,c,(Qd w o).t (d.m (by rw [e];lia))⟩
set_option maxRecDepth 100000 in
def Oc (v1' v2:vO) (fr to a p n:Nat) (o1 xa1 xb1 ya1 yb1 sp1 pl1 nn1 o2 xa2 xb2 ya2 yb2 ar2 sp2 pl2 nn2:Int) (lb f C b l cap d lo m:Nat) (w:wO) (aF:fr<n) (aB:to<n) (hn:n<=16) (bg:n<=cap) (aN:cap<=9223372036854775807) (bf:a<m) (aY:m<=C) (aQ:C<=9223372036854775807) (hb:b<w.heap.size) (aW:lb<w.heap.size)
  (ha:∀j,j<9->w.cell? (E b (l+fr*9+j))=(zG ⟨o1,xa1,xb1,ya1,yb1,a,sp1,pl1,nn1⟩)[j]?) (hc:∀j,j<9->w.cell? (E b (l+to*9+j))=(zG ⟨o2,xa2,xb2,ya2,yb2,ar2,sp2,pl2,nn2⟩)[j]?) (aX:w.cell? (E lb (f+a))=Y p) (aO:p<=5) (N:2 ^ p=d) (hS:d<=32) (aD:Y7 fr to=lo) (h1:-64<=sp1) (x:sp1<=64) (h3:-64<=pl1) (h4:pl1<=64) (h5:-64<=sp2) (h6:sp2<=64) (h7:-64<=pl2) (h8:pl2<=64) :
  Cp 84 #[.agg #[.slice (some (E lb f)) m C,.slice (some (E b l)) n cap,v2],J fr,J to] w (Rt w (.tuple #[J (Cy (i4 ⟨o1,xa1,xb1,ya1,yb1,a,sp1,pl1,nn1⟩ ⟨o2,xa2,xb2,ya2,yb2,ar2,sp2,pl2,nn2⟩ lo d)),.bool (Cz (i4 ⟨o1,xa1,xb1,ya1,yb1,a,sp1,pl1,nn1⟩ ⟨o2,xa2,xb2,ya2,yb2,ar2,sp2,pl2,nn2⟩ lo d))])):=by
 obtain⟨a0,a1,a2,a3,a4,a5,a6,a7,a8⟩:=Ue ha;obtain⟨c0,c1,c2,c3,c4,c5,c6,c7,c8⟩:=Ue hc;dsimp only at a0 a1 a2 a3 a4 a5 a6 a7 a8 c0 c1 c2 c3 c4 c5 c6 c7 c8;have F:=Z (fun (k:Nat) W (hk:k<=32)=>Ob o1 xa1 xb1 ya1 yb1 a sp1 pl1 nn1 o2 xa2 xb2 ya2 yb2 ar2 sp2 pl2 nn2 p k d W oM oM (by simpa using N) (by rw [qg _ oM oM];rw [show ((p:Nat):Int).toNat=p from QL _,N]) hS hk h1 x h3 h4 h5 h6 h7 h8);have o:wrap64 (2 ^ p)=(d:Int):=by have:=qg p oM oM;rw [show ((p:Nat):Int).toNat=p from QL _,N] at this;exact this
 have y:=Z o;clear o;have aU:(fr:Int)<(n:Int):=oM
 have bh:(to:Int)<(n:Int):=oM
 have aZ:(a:Int)<(m:Int):=oM
 have ag:b<w.heap.size+1:=oM
 have az:b<w.heap.size+1+1:=oM
 have aS:lb<w.heap.size+1:=oM
 have aT:lb<w.heap.size+1+1:=oM
 clear ha hc N;by_cases hft:fr<to
 ·have aG:(fr:Int)<(to:Int):=oM
  have D:Hid (lo=0):=by show lo=0;grind [Y7]
  clear aD;go_enter func84,ntmps84;go_wp2_with fail;go_region
  ·go_wp2_with fail;go_loopw [12] (fun i wr=>∃k:Nat,0<=k/\k<=d+1/\i=J k/\(∀j,0<=j->j<k->Zc ⟨o1,xa1,xb1,ya1,yb1,a,sp1,pl1,nn1⟩ ⟨o2,xa2,xb2,ya2,yb2,ar2,sp2,pl2,nn2⟩ j d=false)/\Below (((w.alloc (.cells #[.slice (some (E lb f)) m C,.slice (some (E b l)) n cap,v2] 62)).alloc (nB o1 xa1 xb1 ya1 yb1 a sp1 pl1 nn1)).alloc (nB o2 xa2 xb2 ya2 yb2 ar2 sp2 pl2 nn2)).z (((w.alloc (.cells #[.slice (some (E lb f)) m C,.slice (some (E b l)) n cap,v2] 62)).alloc (nB o1 xa1 xb1 ya1 yb1 a sp1 pl1 nn1)).alloc (nB o2 xa2 xb2 ya2 yb2 ar2 sp2 pl2 nn2)) wr) (fun i _=>d+1 - (intOf i).toNat)
   case atStart=>exact⟨0,Qc _,oM,rfl,fun j h1 x=>absurd x oM,zV _ _⟩
   obtain⟨k,H,O,rfl,B,t⟩:=hrel;have s:=Z B;have z:=Z t;obtain⟨⟨g0,g1,g2,g3,g4,g5,g6,g7,g8⟩,⟨P,Q,R,S,T,U,V,X,d8⟩,z0,z1,A⟩:=qe t;have r:=Z A;clear B t A;by_cases u:k<=d
   ·have K:(k:Int)<=(d:Int):=(by omega);cases c:Zc ⟨o1,xa1,xb1,ya1,yb1,a,sp1,pl1,nn1⟩ ⟨o2,xa2,xb2,ya2,yb2,ar2,sp2,pl2,nn2⟩ k d with
    | true =>have q:Hid (i4 ⟨o1,xa1,xb1,ya1,yb1,a,sp1,pl1,nn1⟩ ⟨o2,xa2,xb2,ya2,yb2,ar2,sp2,pl2,nn2⟩ 0 d=some k):=p9 H u c s.o;have g:=Z (F.o k wr oM);rw [c] at g;clear c;have o:=y.o;go_wp2_with fail;clear o;refine g.o.mr fun M h=>?_;have I:=Z (r.o.t (h.m r.o.size));clear h;go_wp2_with fail;exact bodyPost_ret (v:=.tuple #[J k,.bool true]) (by simp [results,results84,go_sem]) rfl ⟨by rw [D.o,q.o];rfl,I.o⟩
    | false =>
     have g:=Z (F.o k wr oM);rw [c] at g;have G:=Z c;clear c;have o:=y.o;go_wp2_with fail;clear o;refine g.o.mr fun M h=>?_;have L:=Z (z.o.t (h.m z.o.size));clear h;go_wp2_with fail;go_roundw
     case rel=>exact⟨k+1,oM,oM,nQ,qb s.o G.o,L.o⟩
     simp [intOf];omega
   have K:¬(k:Int)<=(d:Int):=(by omega);have q:Hid (i4 ⟨o1,xa1,xb1,ya1,yb1,a,sp1,pl1,nn1⟩ ⟨o2,xa2,xb2,ya2,yb2,ar2,sp2,pl2,nn2⟩ 0 d=none):=qa fun j h1 x=>s.o j h1 oM;have o:=y.o;go_wp2_with fail;exact bodyPost_ret (v:=.tuple #[J 0,.bool false]) (by simp [results,results84,go_sem]) rfl ⟨by rw [D.o,q.o];rfl,r.o⟩
  go_wp2_with fail;go_loopw [12] (fun i wr=>∃k:Nat,0<=k/\k<=d+1/\i=J k/\(∀j,0<=j->j<k->Zc ⟨o1,xa1,xb1,ya1,yb1,a,sp1,pl1,nn1⟩ ⟨o2,xa2,xb2,ya2,yb2,ar2,sp2,pl2,nn2⟩ j d=false)/\Below (((w.alloc (.cells #[.slice (some (E lb f)) m C,.slice (some (E b l)) n cap,v2] 62)).alloc (nB o2 xa2 xb2 ya2 yb2 ar2 sp2 pl2 nn2)).alloc (nB o1 xa1 xb1 ya1 yb1 a sp1 pl1 nn1)).z (((w.alloc (.cells #[.slice (some (E lb f)) m C,.slice (some (E b l)) n cap,v2] 62)).alloc (nB o2 xa2 xb2 ya2 yb2 ar2 sp2 pl2 nn2)).alloc (nB o1 xa1 xb1 ya1 yb1 a sp1 pl1 nn1)) wr) (fun i _=>d+1 - (intOf i).toNat)
  case atStart=>exact⟨0,Qc _,oM,rfl,fun j h1 x=>absurd x oM,zV _ _⟩
  obtain⟨k,H,O,rfl,B,t⟩:=hrel;have s:=Z B;have z:=Z t;obtain⟨⟨g0,g1,g2,g3,g4,g5,g6,g7,g8⟩,⟨P,Q,R,S,T,U,V,X,d8⟩,z0,z1,A⟩:=qe t;have r:=Z A;clear B t A;by_cases u:k<=d
  ·have K:(k:Int)<=(d:Int):=(by omega);cases c:Zc ⟨o1,xa1,xb1,ya1,yb1,a,sp1,pl1,nn1⟩ ⟨o2,xa2,xb2,ya2,yb2,ar2,sp2,pl2,nn2⟩ k d with
   | true =>have q:Hid (i4 ⟨o1,xa1,xb1,ya1,yb1,a,sp1,pl1,nn1⟩ ⟨o2,xa2,xb2,ya2,yb2,ar2,sp2,pl2,nn2⟩ 0 d=some k):=p9 H u c s.o;have g:=Z (F.o k wr oM);rw [c] at g;clear c;have o:=y.o;go_wp2_with fail;clear o;refine g.o.mr fun M h=>?_;have I:=Z (r.o.t (h.m r.o.size));clear h;go_wp2_with fail;exact bodyPost_ret (v:=.tuple #[J k,.bool true]) (by simp [results,results84,go_sem]) rfl ⟨by rw [D.o,q.o];rfl,I.o⟩
   | false =>
    have g:=Z (F.o k wr oM);rw [c] at g;have G:=Z c;clear c;have o:=y.o;go_wp2_with fail;clear o;refine g.o.mr fun M h=>?_;have L:=Z (z.o.t (h.m z.o.size));clear h;go_wp2_with fail;go_roundw
    case rel=>exact⟨k+1,oM,oM,nQ,qb s.o G.o,L.o⟩
    simp [intOf];omega
  have K:¬(k:Int)<=(d:Int):=oM
  have q:Hid (i4 ⟨o1,xa1,xb1,ya1,yb1,a,sp1,pl1,nn1⟩ ⟨o2,xa2,xb2,ya2,yb2,ar2,sp2,pl2,nn2⟩ 0 d=none):=qa fun j h1 x=>s.o j h1 oM;have o:=y.o;go_wp2_with fail;exact bodyPost_ret (v:=.tuple #[J 0,.bool false]) (by simp [results,results84,go_sem]) rfl ⟨by rw [D.o,q.o];rfl,r.o⟩
 have aG:¬(fr:Int)<(to:Int):=oM
 have D:Hid (lo=1):=by show lo=1;grind [Y7]
 clear aD;go_enter func84,ntmps84;go_wp2_with fail;go_region
 ·go_wp2_with fail;go_loopw [12] (fun i wr=>∃k:Nat,1<=k/\k<=d+1/\i=J k/\(∀j,1<=j->j<k->Zc ⟨o1,xa1,xb1,ya1,yb1,a,sp1,pl1,nn1⟩ ⟨o2,xa2,xb2,ya2,yb2,ar2,sp2,pl2,nn2⟩ j d=false)/\Below (((w.alloc (.cells #[.slice (some (E lb f)) m C,.slice (some (E b l)) n cap,v2] 62)).alloc (nB o1 xa1 xb1 ya1 yb1 a sp1 pl1 nn1)).alloc (nB o2 xa2 xb2 ya2 yb2 ar2 sp2 pl2 nn2)).z (((w.alloc (.cells #[.slice (some (E lb f)) m C,.slice (some (E b l)) n cap,v2] 62)).alloc (nB o1 xa1 xb1 ya1 yb1 a sp1 pl1 nn1)).alloc (nB o2 xa2 xb2 ya2 yb2 ar2 sp2 pl2 nn2)) wr) (fun i _=>d+1 - (intOf i).toNat)
  case atStart=>exact⟨1,Qc _,oM,rfl,fun j h1 x=>absurd x oM,zV _ _⟩
  obtain⟨k,H,O,rfl,B,t⟩:=hrel;have s:=Z B;have z:=Z t;obtain⟨⟨g0,g1,g2,g3,g4,g5,g6,g7,g8⟩,⟨P,Q,R,S,T,U,V,X,d8⟩,z0,z1,A⟩:=qe t;have r:=Z A;clear B t A;by_cases u:k<=d
  ·have K:(k:Int)<=(d:Int):=(by omega);cases c:Zc ⟨o1,xa1,xb1,ya1,yb1,a,sp1,pl1,nn1⟩ ⟨o2,xa2,xb2,ya2,yb2,ar2,sp2,pl2,nn2⟩ k d with
   | true =>have q:Hid (i4 ⟨o1,xa1,xb1,ya1,yb1,a,sp1,pl1,nn1⟩ ⟨o2,xa2,xb2,ya2,yb2,ar2,sp2,pl2,nn2⟩ 1 d=some k):=p9 H u c s.o;have g:=Z (F.o k wr oM);rw [c] at g;clear c;have o:=y.o;go_wp2_with fail;clear o;refine g.o.mr fun M h=>?_;have I:=Z (r.o.t (h.m r.o.size));clear h;go_wp2_with fail;exact bodyPost_ret (v:=.tuple #[J k,.bool true]) (by simp [results,results84,go_sem]) rfl ⟨by rw [D.o,q.o];rfl,I.o⟩
   | false =>
    have g:=Z (F.o k wr oM);rw [c] at g;have G:=Z c;clear c;have o:=y.o;go_wp2_with fail;clear o;refine g.o.mr fun M h=>?_;have L:=Z (z.o.t (h.m z.o.size));clear h;go_wp2_with fail;go_roundw
    case rel=>exact⟨k+1,oM,oM,nQ,qb s.o G.o,L.o⟩
    simp [intOf];omega
  have K:¬(k:Int)<=(d:Int):=oM
  have q:Hid (i4 ⟨o1,xa1,xb1,ya1,yb1,a,sp1,pl1,nn1⟩ ⟨o2,xa2,xb2,ya2,yb2,ar2,sp2,pl2,nn2⟩ 1 d=none):=qa fun j h1 x=>s.o j h1 oM;have o:=y.o;go_wp2_with fail;exact bodyPost_ret (v:=.tuple #[J 0,.bool false]) (by simp [results,results84,go_sem]) rfl ⟨by rw [D.o,q.o];rfl,r.o⟩
 go_wp2_with fail;go_loopw [12] (fun i wr=>∃k:Nat,1<=k/\k<=d+1/\i=J k/\(∀j,1<=j->j<k->Zc ⟨o1,xa1,xb1,ya1,yb1,a,sp1,pl1,nn1⟩ ⟨o2,xa2,xb2,ya2,yb2,ar2,sp2,pl2,nn2⟩ j d=false)/\Below (((w.alloc (.cells #[.slice (some (E lb f)) m C,.slice (some (E b l)) n cap,v2] 62)).alloc (nB o2 xa2 xb2 ya2 yb2 ar2 sp2 pl2 nn2)).alloc (nB o1 xa1 xb1 ya1 yb1 a sp1 pl1 nn1)).z (((w.alloc (.cells #[.slice (some (E lb f)) m C,.slice (some (E b l)) n cap,v2] 62)).alloc (nB o2 xa2 xb2 ya2 yb2 ar2 sp2 pl2 nn2)).alloc (nB o1 xa1 xb1 ya1 yb1 a sp1 pl1 nn1)) wr) (fun i _=>d+1 - (intOf i).toNat)
 case atStart=>exact⟨1,Qc _,oM,rfl,fun j h1 x=>absurd x oM,zV _ _⟩
 obtain⟨k,H,O,rfl,B,t⟩:=hrel;have s:=Z B;have z:=Z t;obtain⟨⟨g0,g1,g2,g3,g4,g5,g6,g7,g8⟩,⟨P,Q,R,S,T,U,V,X,d8⟩,z0,z1,A⟩:=qe t;have r:=Z A;clear B t A;by_cases u:k<=d
 ·have K:(k:Int)<=(d:Int):=oM
  cases c:Zc ⟨o1,xa1,xb1,ya1,yb1,a,sp1,pl1,nn1⟩ ⟨o2,xa2,xb2,ya2,yb2,ar2,sp2,pl2,nn2⟩ k d with
  | true =>have q:Hid (i4 ⟨o1,xa1,xb1,ya1,yb1,a,sp1,pl1,nn1⟩ ⟨o2,xa2,xb2,ya2,yb2,ar2,sp2,pl2,nn2⟩ 1 d=some k):=p9 H u c s.o;have g:=Z (F.o k wr oM);rw [c] at g;clear c;have o:=y.o;go_wp2_with fail;clear o;refine g.o.mr fun M h=>?_;have I:=Z (r.o.t (h.m r.o.size));clear h;go_wp2_with fail;exact bodyPost_ret (v:=.tuple #[J k,.bool true]) (by simp [results,results84,go_sem]) rfl ⟨by rw [D.o,q.o];rfl,I.o⟩
  | false =>
   have g:=Z (F.o k wr oM);rw [c] at g;have G:=Z c;clear c;have o:=y.o;go_wp2_with fail;clear o;refine g.o.mr fun M h=>?_;have L:=Z (z.o.t (h.m z.o.size));clear h;go_wp2_with fail;go_roundw
   case rel=>exact⟨k+1,oM,oM,nQ,qb s.o G.o,L.o⟩
   simp [intOf];omega
 have K:¬(k:Int)<=(d:Int):=oM
 have q:Hid (i4 ⟨o1,xa1,xb1,ya1,yb1,a,sp1,pl1,nn1⟩ ⟨o2,xa2,xb2,ya2,yb2,ar2,sp2,pl2,nn2⟩ 1 d=none):=qa fun j h1 x=>s.o j h1 oM;have o:=y.o;go_wp2;exact bodyPost_ret (v:=.tuple #[J 0,.bool false]) (by simp [results,results84,go_sem]) rfl ⟨by rw [D.o,q.o];rfl,r.o⟩
end
section
variable {L:Lp} {t k i f:Nat} {w:wO} {s:St}
def UB (L:Lp) (t:Tg) (k i:Nat):List Ed:=(lk L t k).take i
theorem B9 (L:Lp) (t:Tg) (k:Nat):UB L t k 0=[]:=rfl
def Ns {t:Tg} (h:(zu (zc L.b k)).length<=i):UB L t k i=lk L t k:=by simp_all [UB,lk,WB]
def Nt {t:Tg} (h:i<(zu (zc L.b k)).length):UB L t k (i+1)=UB L t k i++[⟨(zO (zu (zc L.b k)) i).1,k,(zO (zu (zc L.b k)) i).2,yj t (zc L.b (zO (zu (zc L.b k)) i).1.toNat).o⟩]:=by unfold UB lk;rw [Wm,Wc,Qh h];unfold zO;rw [Qw,Qh h];rfl
def Nu (L:Lp) (t:Tg) (k i:Nat):(UB L t k i).length<=2:=by grind [UB,lk,zu]
def ke (s:St):Nat->vO:=fun j=>[J s.xa,J s.xb,J s.ya,J s.yb].getD j (.bool false)
def tE {g:Nat} {e:TypeId} (h:zr w g e 4 (ke s)) (hi:i<(zu s).length) :
  w.cell? (E g (i*2))=some (J (zO (zu s) i).1)/\w.cell? (E g (i*2+1))=some (J (zO (zu s) i).2):=by
 unfold zu at hi ⊢;split at hi
 ·rename_i h4;rw [Qf h4];have a:i=0:=rQ
  subst a;exact⟨h.cell (i:=0) lI,h.cell (i:=1) lI⟩
 rename_i h4;rw [Qe h4];split at hi
 ·rename_i h10;rw [Qf h10];have a:i=0\/i=1:=rQ
  rcases a with rfl | rfl
  ·exact⟨h.cell (i:=0) lI,h.cell (i:=1) lI⟩
  exact⟨h.cell (i:=2) lI,h.cell (i:=3) lI⟩
 simp_all
def Ud {m n k:Int} (h:yW m n k s):xc s.o=((zu s).length:Int)/\(zu s).length<=2:=by grind [yW,xc,zu,yh,X0]
def B' (w:wO) (e:TypeId) (B:Nat) (hB:B<=w.heap.size):(w.alloc (.cells #[] e)).ownsRow B e 4 (.slice (pA w.heap.size) 0 0) 0 []:=by refine⟨rfl,.inr ⟨w.z,0,#[],rfl,hB,?_,Qc _,Ql _,rfl,rfl⟩⟩;show (w.heap.push _)[w.z]?=_;simp
def Ca (w:wO) (a b c d:vO) (e:TypeId) (f:Nat->vO) (h0:f 0=a) (h1:f 1=b) (g:f 2=c) (h:f 3=d):zr (w.alloc (.cells #[a,b,c,d] e)) w.heap.size e 4 f :=by grind [zr.made]
set_option maxRecDepth 100000 in
def Nv (T:Tg) (L:Lp) (b a cap:Nat) (v0 v2:vO) (w:wO) (aG:L.b.length<=cap) (aH:cap<=9223372036854775807) (hb:b<w.heap.size)
  (gQ:∀i,i<L.b.length->∀j,j<9->w.cell? (E b (a+i*9+j))=(zG (zc L.b i))[j]?) (hm:zQ L) (aC:L.b.length<=16) :
  Cp 45 #[.agg #[v0,.slice (some (E b a)) L.b.length cap,v2],(tV T)] w fun e w'=>∃ev,e=.returned ev/\w'.ownsRow (w.heap.size+1+1) 98 4 ev (Yt L T L.b.length).length (yI (Yt L T L.b.length))/\Bw w w':=by
 have aa:=Z gQ;have HM:=Z hm;have bO:=Z (fun op W=>Vc T op W);have af:Hid (((w.alloc (.cells #[v0,.slice (some (E b a)) L.b.length cap,v2] 62)).alloc (tO T)).heap.size=w.heap.size+1+1):=by show _=_;simp
 have au:=Z (B' ((w.alloc (.cells #[v0,.slice (some (E b a)) L.b.length cap,v2] 62)).alloc (tO T)) 98 (w.heap.size+1+1) (by rw [af];omega));rw [af] at au;clear gQ hm;obtain⟨j0,ji,jz0,jz1,jz2⟩:=info_parts Tryz.i98;go_enter func45,ntmps45;go_wp2;go_loopw [5,16] (fun ov z wr=>∃k:Nat,k<=L.b.length/\z=J k/\∃p q,ov=.slice p (Yt L T k).length q/\wr.ownsRow (w.heap.size+1+1) 98 4 (.slice p (Yt L T k).length q) (Yt L T k).length (yI (Yt L T k))/\Below (w.heap.size+1+1) ((w.alloc (.cells #[v0,.slice (some (E b a)) L.b.length cap,v2] 62)).alloc (tO T)) wr) (fun _ z _=>L.b.length - (intOf z).toNat)
 case atStart=>exact⟨0,Ql _,rfl,_,_,rfl,au,(QA _ _).alloc (by rw [af];omega) _⟩
 obtain⟨k,hk,rfl,p,q,rfl,A,s⟩:=hrel;have x:=Z A;have B:=Z s;obtain⟨⟨l0,l1,l2⟩,⟨I,M,N,O,P,Q,R⟩,X,f,d⟩:=ZG s;have C:=Z d;clear A s d;by_cases y:k<L.b.length
 ·have bY:(k:Int)<(L.b.length:Int):=oM
  have bf:b<wr.heap.size:=oM
  have cD:w.heap.size+1+1<=wr.heap.size:=oM
  obtain⟨c0,c1,c2,c3,c4,c5,c6,c7,c8⟩:=Ue (fun j hj=>(ze C b (a+k*9+j) hb).t (aa k y j hj));obtain⟨ce,cg⟩:=Ud (zq (zy HM).2.2.2.2.2.2 k y);have bN:=Z (fun (rf:Int × Int) (h:rf∈zu (zc L.b k))=>tH HM y h);have bL:Hid (∃sk,zc L.b k=sk):=⟨_,rfl⟩;have HP:=Z (fun i (h:i<(zu (zc L.b k)).length)=>Nt (L:=L) (t:=T) h);have bJ:=Z (Ns (L:=L) (t:=T) (k:=k) (i:=(zu (zc L.b k)).length) (Qc _));have U:=Z (Ca (wr.alloc (.cells #[J (zc L.b k).o,J (zc L.b k).xa,J (zc L.b k).xb,J (zc L.b k).ya,J (zc L.b k).yb,J (zc L.b k).ar,J (zc L.b k).sp,J (zc L.b k).pl,J (zc L.b k).nn] 144)) (J (zc L.b k).xa) (J (zc L.b k).xb) (J (zc L.b k).ya) (J (zc L.b k).yb) 142 (ke (zc L.b k)) rfl rfl rfl rfl);have ez:(wr.alloc (.cells #[J (zc L.b k).o,J (zc L.b k).xa,J (zc L.b k).xb,J (zc L.b k).ya,J (zc L.b k).yb,J (zc L.b k).ar,J (zc L.b k).sp,J (zc L.b k).pl,J (zc L.b k).nn] 144)).heap.size=wr.heap.size+1:=sM
  rw [ez] at U;generalize H:zc L.b k=xk at *
  have cG:=Z H;clear H bL ez;obtain⟨o,xa,xb,ya,yb,ar,sp,pl,nn⟩:=xk;generalize G:zu ⟨o,xa,xb,ya,yb,ar,sp,pl,nn⟩=v at *
  have ay:=Z G;clear G;(try simp only at c0 c1 c2 c3 c4 c5 c6 c7 c8 U ce);go_wp2_with (go_at_call 81;refine (Zu _ _).m ?_;rintro e w' ⟨rfl,rfl⟩);clear l0 l1 l2 I M N O P Q R X f c0 c1 c2 c3 c4 c5 c6 c7 c8;rename wO=>wo;go_loopw [5,32] (fun ov z wr=>∃i:Nat,i<=v.length/\z=J i/\(zr wr (wo.heap.size+1) 142 4 (ke ⟨o,xa,xb,ya,yb,ar,sp,pl,nn⟩))/\∃p q,ov=.slice p (Yh (Yt L T k) (UB L T k i)).length q/\wr.ownsRow (w.heap.size+1+1) 98 4 (.slice p (Yh (Yt L T k) (UB L T k i)).length q) (Yh (Yt L T k) (UB L T k i)).length (yI (Yh (Yt L T k) (UB L T k i)))/\Below (w.heap.size+1+1) ((w.alloc (.cells #[v0,.slice (some (E b a)) L.b.length cap,v2] 62)).alloc (tO T)) wr) (fun _ z _=>v.length - (intOf z).toNat)
  case atStart=>exact⟨0,Ql _,rfl,U,p,q,by rw [B9,oK],by rw [B9,oK];exact zp x (QB _ _ _),B.t ((QB wo _ _).m cD)⟩
  clear x B C U;obtain⟨i,hi,rfl,D,p,q,rfl,A,s⟩:=hrel;have x:=Z A;have B:=Z s;have HR:=Z D;obtain⟨⟨l0,l1,l2⟩,⟨I,M,N,O,P,Q,R⟩,X,f,d⟩:=ZG s;have C:=Z d;have aV:w.heap.size+1+1<=wr.heap.size:=oM
  have bR:wo.heap.size+1<wr.heap.size:=D.lt;by_cases m:i<v.length
  ·have bV:(i:Int)<(v.length:Int):=(by omega);have cH:i<=1:=(by omega);have cu:=bN (zO v i) (by unfold zO;rw [Qw,Qh m];exact QW m);have bg:=tE D (i:=i) (by rw [ay];exact m);rw [ay] at bg;obtain⟨f0,f1⟩:=bg;have aL:=Z (HP i m);clear A s d D;generalize zO v i=rf at *
   obtain⟨ra,rb⟩:=rf;obtain⟨u1,u2,u3,u4⟩:=cu;(try simp only at f0 f1 u1 u2 u3 u4);obtain⟨c,rfl⟩:=QX u1;have cw:c<L.b.length:=(by omega);have cx:(c:Int)<(L.b.length:Int):=(by omega);have cA:=((ze C b (a+c*9) hb).t ((Ue (fun j hj=>aa c cw j hj)).1));have bS:b<wr.heap.size:=(by omega);rw [show (((c:Nat):Int),rb).1.toNat=c from QL _] at aL;(try simp only at aL);generalize (zc L.b c).o=ro at *
   have ai:Hid (∀w':wO,Below (wr.heap.size+1) (wr.alloc (.cells #[J (c:Int),J rb] 142)) w'->w'.cell? (E (w.heap.size+1) 0)=Y T.u0/\w'.cell? (E (w.heap.size+1) 1)=Y T.u1/\w'.cell? (E (w.heap.size+1) 2)=Y T.u2/\w'.cell? (E (w.heap.size+1) 3)=Y T.w0/\w'.cell? (E (w.heap.size+1) 4)=Y T.w1/\w'.cell? (E (w.heap.size+1) 5)=Y T.w2/\w'.cell? (E (w.heap.size+1) 6)=Y T.r/\w'.cell? (E w.heap.size 1)=some (.slice (some (E b a)) L.b.length cap)/\w'.cell? (E wr.heap.size 0)=Y (c:Int)/\w'.cell? (E wr.heap.size 1)=Y rb/\w'.cell? (E b (a+c*9))=Y ro):=by
    intro w' h;have l:(wr.alloc (.cells #[J (c:Int),J rb] 142)).heap.size=wr.heap.size+1:=(by simp);have h':Below (wr.alloc (.cells #[J (c:Int),J rb] 142)).heap.size (wr.alloc (.cells #[J (c:Int),J rb] 142)) w':=(by rw [l];exact h);have n:∀g o,g<wr.heap.size->w'.cell? (E g o)=wr.cell? (E g o):=fun g o hg=>by rw [ze h' _ _ oM,ze (Qd wr _) _ _ hg]
    rw [n _ _ f,n _ _ f,n _ _ f,n _ _ f,n _ _ f,n _ _ f,n _ _ f,n _ _ X,n _ _ bS];refine⟨I,M,N,O,P,Q,R,l1,?_,?_,cA⟩
    ·rw [ze h' _ _ oM];go_simp
    rw [ze h' _ _ oM];go_simp
   go_wp2;clear l0 l1 l2 I M N O P Q R f0 f1;refine rh 99 ai (zV _ _) fun h9=>?_;refine aq 0 ?_;refine aq 2 ?_;refine aq 4 ?_;refine aq 6 ?_;refine uo 8 fun K F=>?_;go_simp;refine (bO _ _).mr fun V az=>?_;have ac:Hid (Below (wr.heap.size+1) (wr.alloc (Ib (c:Int) rb 142)) V):=(by have l:(wr.alloc (Ib (c:Int) rb 142)).heap.size=wr.heap.size+1:=(by simp);exact (zV _ _).t (az.m sM));have h9:=ai _ ac;refine bq F.o (.inr h9) ?_;clear F K az;refine uk 9 ?_;refine rd ?_;obtain⟨-,-,-,-,-,-,-,-,g0,g1,-⟩:=h9;have aM:Hid (Bw wr V):=(Qd wr _).t (ac.m oM);have cC:wr.heap.size<V.heap.size:=(by have:=ac.size;simp at this;omega);have al:=Z (zp x aM);have aj:=Z (B.t (aM.m aV));have aY:=Z ((HR.gE aM bR).alloc (Id (c:Int) (k:Int) rb (yj T ro) 98));have ae:Hid ((Yh (Yt L T k) (UB L T k i)).length<=34):=(by show (Yh _ _).length<=34;have l:=Cn L T k;have e2:=Nu L T k i;rw [uL];omega);generalize hwt:yj T ro=wt at *
   clear hwt ai;go_wp2_with (at_builtin;refine QQ _ rfl (.tmp 45) (.tmp 53) 68 rfl (w.heap.size+1+1) 98 j0 (.agg #[J 0,J 0,J 0,J 0]) 4 32 underlying68 ji jz0 jz1 jz2 rfl tQ _ _ _ rfl (zp al (Qd _ _)) (E V.heap.size 0) 1 1 (zY ⟨c,k,rb,wt⟩) rfl rfl (by exact Bj _ _ _ _ _ _) (by intro u hu;unfold zY at hu;simp at hu;rcases hu with rfl | rfl | rfl | rfl <;> rfl) (by unfold maxLen;have:=ae.o;omega) (by have:=ae.o;omega) sO ?_;intro v2' w2 gP gN hnil2;obtain⟨oa2,oc2,rfl,aQ,aR⟩:=zD gP;have aJ:=Z gP;have aE:=Z gN;clear gP gN);go_roundw
   case rel =>have l:Yh (Yt L T k) (UB L T k i)++[⟨c,k,rb,wt⟩]=Yh (Yt L T k) (UB L T k (i+1)):=(by rw [aL];unfold Yh;rw [Wr]);have e2:(Yh (Yt L T k) (UB L T k i)).length+1=(Yh (Yt L T k) (UB L T k (i+1))).length:=(by rw [<-l,Qt];rfl);have h2:=aJ;rw [Bi,l,e2] at h2;exact⟨i+1,oM,nQ,aY.grown aE (Ui (zp al (Qd _ _)) aY tQ),oa2,oc2,by rw [e2],h2,(aj.alloc oM _).grown aE sO (zE x)⟩
   simp [intOf];omega
  have e:i=v.length:=oM
  have bV:¬(i:Int)<(v.length:Int):=oM
  have l:Yh (Yt L T k) (UB L T k i)=Yt L T (k+1):=by rw [e,bJ];rfl
  have S:=Z l;clear l e A s d D l0 l1 l2 I M N O P Q R X f;go_wp2;go_roundw
  case rel=>exact⟨k+1,oM,nQ,p,q,by rw [S],by have h:=x;rw [S] at h;exact h,B⟩
  simp [intOf];omega
 have e:k=L.b.length:=oM
 have bY:¬(k:Int)<(L.b.length:Int):=oM
 have S:=Z e;clear e;go_wp2;go_ret;exact⟨_,rfl,by have h:=x;rw [S] at h ⊢;exact h,C⟩
def pY {wr:wO} {v0 a v2:vO} {b:TypeId} (h:Below (w.heap.size+1) (w.alloc (.cells #[v0,a,v2] b)) wr) :
  (wr.cell? (E w.heap.size 0)=some v0/\wr.cell? (E w.heap.size 1)=some a/\wr.cell? (E w.heap.size 2)=some v2)/\w.heap.size<wr.heap.size/\Bw w wr:=by
 have hs:(w.alloc (.cells #[v0,a,v2] b)).heap.size=w.heap.size+1:=sM
 have d:=h.size;have c:Below (w.alloc (.cells #[v0,a,v2] b)).heap.size (w.alloc (.cells #[v0,a,v2] b)) wr:=by rw [hs];exact h
 refine⟨⟨?_,?_,?_⟩,oM,(Qd w _).t (h.m oM)⟩;all_goals rw [ze c _ _ oM]
 all_goals go_simp
def Nw (L:Lp) (a0:Option Addr) (f b d cap:Nat) (v2:vO) (fr to:Nat) (w:wO) (aP:L.l.length<=f) (aS:f<=9223372036854775807) (aG:L.b.length<=cap) (aH:cap<=9223372036854775807) (hb:b<w.heap.size)
  (n:∀i,i<L.b.length->∀j,j<9->w.cell? (E b (d+i*9+j))=(zG (zc L.b i))[j]?) (ab:zM w (.slice a0 L.l.length f) L.l) (hm:zQ L) (h:fr<L.b.length) (k:to<L.b.length) (H:jA (zc L.b fr) (zc L.b to)) :
  Cp 84 #[.agg #[.slice a0 L.l.length f,.slice (some (E b d)) L.b.length cap,v2],J fr,J to] w (Rt w (.tuple #[J (Cy (i4 (zc L.b fr) (zc L.b to) (Y7 fr to) (Yu L (zc L.b fr)))),.bool (Cz (i4 (zc L.b fr) (zc L.b to) (Y7 fr to) (Yu L (zc L.b fr))))])):=by
 obtain⟨m1,m2,m3,m4,T,m6,o⟩:=zy hm;obtain⟨N,I⟩:=Hj H;obtain⟨⟨r1,r2⟩,⟨U,V⟩,⟨W,X⟩⟩:=wB (zq o fr h) N;obtain⟨-,⟨u1,u2⟩,⟨v1,v3⟩⟩:=wB (zq o to k) I;obtain⟨i,S,O,P,e3,e4,Q,e6,e7⟩:=Hk T r1 r2;obtain⟨a,c,hv,h1,h2,h3,R⟩:=ab;injection hv with q1 q2 q3;subst q1;subst q3;obtain⟨lb,g,rfl,bZ,M⟩:=R lI;have hA:=n fr h;have hB:=n to k;have K:=M i P;rw [e3] at K;have e8:2 ^ S=Yu L (zc L.b fr):=by unfold p2 at Q;lia
 clear n M h3 R T m6 o H N I Q hm;generalize hZ:Yu L (zc L.b fr)=SZ at *
 generalize zc L.b to=B at *
 generalize zc L.b fr=A at *
 obtain⟨o1,v,y,C,F,ar1,t,r,p⟩:=A;obtain⟨o2,x,z,D,G,m,u,s,q⟩:=B;simp only at O U V W X u1 u2 v1 v3;subst O;exact Oc v2 v2 fr to i S L.b.length o1 v y C F t r p o2 x z D G m u s q lb g f b d cap SZ (Y7 fr to) L.l.length w h k m3 aG aH P aP aS hb bZ hA hB K e4 e8 e7 rfl U V W X u1 u2 v1 v3
def Ny (h:jA (zc L.b f) (zc L.b t)=false):xp L f (t+1)=xp L f t:=by grind [xp,XX]
def Nz (h:i4 (zc L.b f) (zc L.b t) (Y7 f t) (Yu L (zc L.b f))=none):xp L f (t+1)=xp L f t:=by grind [xp,XX]
def NA (hm:jA (zc L.b f) (zc L.b t)) (h:i4 (zc L.b f) (zc L.b t) (Y7 f t) (Yu L (zc L.b f))=some k):xp L f (t+1)=xp L f t++[⟨f,t,k,XU (zc L.b f)⟩]:=by grind [xp,XX]
set_option maxRecDepth 100000 in
def NB (L:Lp) (a0:Option Addr) (B b a cap:Nat) (v2:vO) (w:wO) (aP:L.l.length<=B) (aS:B<=9223372036854775807) (aG:L.b.length<=cap) (aH:cap<=9223372036854775807) (hb:b<w.heap.size)
  (gQ:∀i,i<L.b.length->∀j,j<9->w.cell? (E b (a+i*9+j))=(zG (zc L.b i))[j]?) (ab:zM w (.slice a0 L.l.length B) L.l) (hm:zQ L) (aC:L.b.length<=16) :
  Cp 46 #[.agg #[.slice a0 L.l.length B,.slice (some (E b a)) L.b.length cap,v2]] w fun e w'=>∃ev,e=.returned ev/\w'.ownsRow (w.heap.size+1) 98 4 ev (xI L L.b.length).length (yI (xI L L.b.length))/\Bw w w':=by
 have aa:=Z gQ;have ao:=Z ab;have HM:=Z hm;have af:Hid ((w.alloc (.cells #[.slice a0 L.l.length B,.slice (some (E b a)) L.b.length cap,v2] 62)).heap.size=w.heap.size+1):=by show _=_;simp
 have au:=Z (B' (w.alloc (.cells #[.slice a0 L.l.length B,.slice (some (E b a)) L.b.length cap,v2] 62)) 98 (w.heap.size+1) (by rw [af];omega));rw [af] at au;have ah:=Z (fun f t W (hW:Bw w W) (h1:f<L.b.length) (h2:t<L.b.length) (h3:jA (zc L.b f) (zc L.b t)=true)=>Nw L a0 B b a cap v2 f t W aP aS aG aH (by have:=hW.size;omega) (fun i hi j hj=>by grind [ze]) (ao.gE hW) HM h1 h2 h3);clear gQ ab hm;obtain⟨j0,ji,jz0,jz1,jz2⟩:=info_parts Tryz.i98;go_enter func46,ntmps46;go_wp2;go_loopw [3,12] (fun ov N wr=>∃f:Nat,f<=L.b.length/\N=J f/\∃x y,ov=.slice x (xI L f).length y/\wr.ownsRow (w.heap.size+1) 98 4 (.slice x (xI L f).length y) (xI L f).length (yI (xI L f))/\Below (w.heap.size+1) (w.alloc (.cells #[.slice a0 L.l.length B,.slice (some (E b a)) L.b.length cap,v2] 62)) wr) (fun _ N _=>L.b.length - (intOf N).toNat)
 case atStart=>exact⟨0,Ql _,rfl,_,_,rfl,au,(QA _ _).alloc (by rw [af];omega) _⟩
 obtain⟨f,hf,rfl,x,y,rfl,gJ,I⟩:=hrel;have G:=Z gJ;have V:=Z I;obtain⟨⟨l0,l1,l2⟩,D,c⟩:=pY I;have X:=Z c;clear gJ I c;by_cases M:f<L.b.length
 ·have bU:(f:Int)<(L.b.length:Int):=oM
  go_wp2;clear l0 l1 l2 D;rename wO=>wo;go_loopw [3,18] (fun ov N wr=>∃t:Nat,t<=L.b.length/\N=J t/\∃x y,ov=.slice x (Yh (xI L f) (xp L f t)).length y/\wr.ownsRow (w.heap.size+1) 98 4 (.slice x (Yh (xI L f) (xp L f t)).length y) (Yh (xI L f) (xp L f t)).length (yI (Yh (xI L f) (xp L f t)))/\Below (w.heap.size+1) (w.alloc (.cells #[.slice a0 L.l.length B,.slice (some (E b a)) L.b.length cap,v2] 62)) wr) (fun _ N _=>L.b.length - (intOf N).toNat)
  case atStart=>exact⟨0,Ql _,rfl,x,y,by show _=Value.slice x (Yh (xI L f) []).length y;rw [oK],by show wo.ownsRow _ _ _ (.slice x (Yh (xI L f) []).length y) (Yh (xI L f) []).length (yI (Yh (xI L f) []));rw [oK];exact G,V⟩
  clear G V X;obtain⟨t,ht,rfl,x,y,rfl,gJ,I⟩:=hrel;have G:=Z gJ;have V:=Z I;obtain⟨⟨l0,l1,l2⟩,D,c⟩:=pY I;have X:=Z c;have aV:w.heap.size+1<=wr.heap.size:=oM
  clear gJ I c;by_cases htl:t<L.b.length
  ·have cB:(t:Int)<(L.b.length:Int):=(by omega);have bf:b<wr.heap.size:=(by omega);have aZ:=Z (And.intro (Ue (fun j hj=>(ze X b (a+f*9+j) hb).t (aa f M j hj))) (Ue (fun j hj=>(ze X b (a+t*9+j) hb).t (aa t htl j hj))));have bF:=Z (fun W hW h3=>ah f t W hW M htl h3);have bH:=Z (fun h=>Ny (L:=L) (f:=f) (t:=t) h);have bG:=Z (fun h=>Nz (L:=L) (f:=f) (t:=t) h);have bM:=Z (fun k hm h=>NA (L:=L) (f:=f) (t:=t) (k:=k) hm h);have bE:=Z (fun k (h:i4 (zc L.b f) (zc L.b t) (Y7 f t) (Yu L (zc L.b f))=some k)=>QH (NV h) (Ct HM M));generalize i4 (zc L.b f) (zc L.b t) (Y7 f t) (Yu L (zc L.b f))=lbo at *
   generalize zc L.b t=tt at *
   generalize zc L.b f=ff at *
   obtain⟨o1,q,r,s,v,d,p,n,m⟩:=ff;obtain⟨o2,R,S,T,U,H,Q,P,O⟩:=tt;have bK:=Z (fun W=>N9 o1 q r s v d p n m o2 R S T U H Q P O W);have bP:=Z (fun W=>N8 o1 q r s v d p n m W);generalize jA ⟨o1,q,r,s,v,d,p,n,m⟩ ⟨o2,R,S,T,U,H,Q,P,O⟩=mb at *
   generalize XU ⟨o1,q,r,s,v,d,p,n,m⟩=wt at *
   have ai:Hid (∀w':wO,Bw wr w'->w'.c w.heap.size 1=some (vE b a L.b.length cap)/\(w'.c b (a+f*9)=Y o1/\w'.c b (a+f*9+1)=Y q/\w'.c b (a+f*9+2)=Y r/\w'.c b (a+f*9+3)=Y s/\w'.c b (a+f*9+4)=Y v/\w'.c b (a+f*9+5)=Y d/\w'.c b (a+f*9+6)=Y p/\w'.c b (a+f*9+7)=Y n/\w'.c b (a+f*9+8)=Y m)/\(w'.c b (a+t*9)=Y o2/\w'.c b (a+t*9+1)=Y R/\w'.c b (a+t*9+2)=Y S/\w'.c b (a+t*9+3)=Y T/\w'.c b (a+t*9+4)=Y U/\w'.c b (a+t*9+5)=Y H/\w'.c b (a+t*9+6)=Y Q/\w'.c b (a+t*9+7)=Y P/\w'.c b (a+t*9+8)=Y O)):=(by intro w' h;have hz:∀g o,g<wr.heap.size->w'.c g o=wr.c g o:=fun g o hg=>ze h g o hg;simp only [hz _ _ bf,hz _ _ D];exact⟨l1,aZ.1,aZ.2⟩);go_wp2;clear l0 l1 l2;refine rh 99 ai (zV _ _) fun h9=>?_;refine aq 0 ?_;refine aq 2 ?_;refine aq 4 ?_;refine aq 6 ?_;refine aq 8 ?_;refine uo 10 fun K hK9=>?_;go_simp;refine (bK _).mr fun x2 az=>?_;have ac:Hid (Bw wr x2):=(zV _ _).t az;have h9:=ai _ ac;refine bq hK9.o (.inr h9) ?_;clear hK9 K az;refine uk 11 ?_;refine rd ?_;clear h9;have al:=Z (zp G ac);have aj:=Z (V.t (ac.m aV));cases mb with
   | false =>
    have A:=bH rfl;have z:=Z A;clear A;go_wp2;go_roundw
    case rel=>exact⟨t+1,oM,nQ,x,y,by rw [z],by rw [z];exact al,aj⟩
    simp [intOf];omega
   | true =>
    clear D;obtain⟨⟨l0,l1,l2⟩,D,c⟩:=pY aj;have cF:=Z c;have aX:=Z (bF x2 c rfl);clear c;cases lbo with
    | none =>
     have A:=bG rfl;have z:=Z A;clear A;go_wp2_with fail;refine aX.m ?_;rintro e C ⟨aA,F⟩;have aN:e=.returned (.tuple #[J 0,.bool false]):=aA;subst aN;clear aA;have aK:=Z (zp al F);have aD:=Z (aj.t (F.m oM));clear F l0 l1 l2 D;go_wp2;go_roundw
     case rel=>exact⟨t+1,oM,nQ,x,y,by rw [z],by rw [z];exact aK,aD⟩
     simp [intOf];omega
    | some k =>
     have z:=Z (bM k rfl rfl);have bW:=bE k rfl;go_wp2_with fail;refine aX.m ?_;rintro e C ⟨aA,F⟩;have aN:e=.returned (.tuple #[J k,.bool true]):=aA;subst aN;clear aA;have aK:=Z (zp al F);have aD:=Z (aj.t (F.m oM));have aI:Hid (Bw wr C):=ac.t (F.m ac.size);clear F l0 l1 l2 D;obtain⟨⟨l0,l1,l2⟩,D,c⟩:=pY aD;obtain⟨-,⟨c0,c1,c2,c3,c4,c5,c6,c7,c8⟩,-⟩:=ai _ aI;have bT:b<C.heap.size:=(by omega);have cE:w.heap.size+1<=C.heap.size:=(by omega);have bI:=Z (zp aK (Qd C (nB o1 q r s v d p n m)));have bD:=Z (aD.alloc cE (nB o1 q r s v d p n m));have ae:Hid ((Yh (xI L f) (xp L f t)).length<=300):=(by show (Yh _ _).length<=300;have A:=Cq L f aC;have e2:=Co L f t;rw [uL];omega);clear c;go_wp2_with fail;refine (bP _).m ?_;rintro e x4 ⟨rfl,rfl⟩;have aU:(C.alloc (nB o1 q r s v d p n m)).heap.size=C.heap.size+1:=(by simp);have bQ:=Z aU;have aW:=Z (Bj (C.alloc (nB o1 q r s v d p n m)) (J (f:Int)) (J (t:Int)) (J (k:Int)) (J wt) 98);rw [aU] at aW;clear aU;go_wp2_with (at_builtin;refine QQ _ rfl (.tmp 41) (.tmp 52) 68 rfl (w.heap.size+1) 98 j0 (.agg #[J 0,J 0,J 0,J 0]) 4 32 underlying68 ji jz0 jz1 jz2 rfl tQ _ _ _ rfl (zp bI (Qd _ _)) (E (C.heap.size+1) 0) 1 1 (zY ⟨f,t,k,wt⟩) rfl rfl (by exact aW) (by intro u hu;unfold zY at hu;simp at hu;rcases hu with rfl | rfl | rfl | rfl <;> rfl) (by unfold maxLen;have:=ae.o;omega) (by have:=ae.o;omega) sO ?_;intro v2' w2 gP gN hnil2;obtain⟨oa2,oc2,rfl,aQ,aR⟩:=zD gP;have aJ:=Z gP;have aE:=Z gN;clear gP gN);go_roundw
     case rel =>have A:Yh (xI L f) (xp L f t)++[⟨f,t,k,wt⟩]=Yh (xI L f) (xp L f (t+1)):=(by rw [z];unfold Yh;rw [Wr]);have e2:(Yh (xI L f) (xp L f t)).length+1=(Yh (xI L f) (xp L f (t+1))).length:=(by rw [<-A,Qt];rfl);have h2:=aJ;rw [Bi,A,e2] at h2;exact⟨t+1,oM,nQ,oa2,oc2,by rw [e2],h2,(bD.alloc (by rw [bQ];omega) _).grown aE sO (zE G)⟩
     simp [intOf];omega
  have e:t=L.b.length:=oM
  have cB:¬(t:Int)<(L.b.length:Int):=oM
  have A:Yh (xI L f) (xp L f t)=xI L (f+1):=by rw [e];rfl
  have z:=Z A;clear A e l0 l1 l2 D;go_wp2;go_roundw
  case rel=>exact⟨f+1,oM,nQ,x,y,by rw [z],by have h:=G;rw [z] at h;exact h,V⟩
  simp [intOf];omega
 have e:f=L.b.length:=oM
 have bU:¬(f:Int)<(L.b.length:Int):=oM
 have z:=Z e;clear e;go_wp2;go_ret;exact⟨_,rfl,by have h:=G;rw [z] at h ⊢;exact h,X⟩
end
end Go.Proofs.YtjlfcbccpcigeacGreatDoor
