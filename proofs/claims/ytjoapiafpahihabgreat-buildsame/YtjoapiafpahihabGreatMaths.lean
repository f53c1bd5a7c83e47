import Derived.Test.YtjoapiafpahihabGreatNums
import Derived.Test.YtjoapiafpahihabGreatBase
import Derived.OpenShut
namespace Go.Proofs.YtjoapiafpahihabGreat
set_option linter.unusedVariables false
structure Tg where
 u0:Int
 u1:Int
 u2:Int
 w0:Int
 w1:Int
 w2:Int
 r:Int
def yU (u w:Int):Bool:=inR u 1 4 && inR w 1 6
def zp (t:Tg):Bool:=yU t.u0 t.w0 && yU t.u1 t.w1 && yU t.u2 t.w2 && inR t.r 1 128
def zF (t:Tg) (c:Int):Int:=if c=0 then t.u0 else if c=1 then t.u1 else t.u2
def xA (t:Tg) (c:Int):Int:=if c=0 then t.w0 else if c=1 then t.w1 else t.w2
def zr (t:Tg) (op:Int):Int:=if zp t=true then xA t (zC op) else 0
theorem Y2 (op:Int):zC op=0\/zC op=1\/zC op=2:=by
 unfold zC;split
 ·exact .inr (.inr rfl)
 ·split
  ·exact .inr (.inl rfl)
  ·exact .inl rfl
theorem xL {u w:Int} (h:u<1\/4<u\/w<1\/6<w):yU u w=false:=by
 unfold yU
 by_cases h1:1<=u/\u<=4
 ·rw [zK h1,Z3 (by omega)];rfl
 ·rw [Z3 h1];rfl
theorem UE {u w:Int} (h1:¬u<1) (h2:¬4<u) (h3:¬w<1) (h4:¬6<w):yU u w=true:=by
 unfold yU
 rw [zK (by omega),zK (by omega)];rfl
theorem zT {u w:Int} (h:yU u w=true):1<=u/\u<=4/\1<=w/\w<=6:=by
 unfold yU at h
 rw [Bool.and_eq_true] at h
 have h1:=zo.1 h.1
 have h2:=zo.1 h.2
 exact⟨h1.1,h1.2,h2.1,h2.2⟩
theorem yi {t:Tg} (h:zp t=true):yU t.u0 t.w0=true/\yU t.u1 t.w1=true/\yU t.u2 t.w2=true/\1<=t.r/\t.r<=128:=by
 unfold zp at h
 simp only [Bool.and_eq_true] at h
 have h1:=zo.1 h.2
 exact⟨h.1.1.1,h.1.1.2,h.1.2,h1.1,h1.2⟩
structure Ed where
 fr:Int
 to:Int
 bk:Int
 wt:Int
def exN (p:Nat->Bool):Nat->Bool
 | 0=>false
 | k+1=>exN p k || p k
theorem yR {p:Nat->Bool} {n k:Nat} (hk:k<n) (h:p k=true):exN p n=true:=by
 induction n with
 | zero=>omega
 | succ n ih =>
   show (exN p n || p n)=true
   by_cases e:k=n
   ·rw [<-e,h];simp
   ·rw [ih (by omega)];rfl
theorem zcz {p:Nat->Bool} {k:Nat} (h:exN p k=false) (hk:p k=false):exN p (k+1)=false:=by
 show (exN p k || p k)=false
 rw [h,hk];rfl
theorem Yf {p:Nat->Bool} {n:Nat}:exN p n=true↔∃k,k<n/\p k=true:=by
 induction n with
 | zero=>exact⟨fun h=>Bool.noConfusion h,fun ⟨k,h,_⟩=>absurd h (Nat.not_lt_zero _)⟩
 | succ n ih =>
   constructor
   ·intro h
    have h2:exN p n=true\/p n=true:=by
     have h3:(exN p n || p n)=true:=h
     simpa using h3
    rcases h2 with h2 | h2
    ·obtain⟨k,hk,hp⟩:=ih.1 h2;exact⟨k,by omega,hp⟩
    ·exact⟨n,by omega,h2⟩
   ·rintro ⟨k,hk,hp⟩;exact yR hk hp
def Uo (a b:St) (back size:Nat) (turn:Nat):Bool:=decide ((a.sp*turn+a.pl) % size=(b.sp*((turn:Int)+back)+b.pl) % size)
def zE (a b:St) (back size:Nat):Bool:=exN (Uo a b back size) size
def yA (s:St):Bool:=decide (s.o=3) || decide (s.o=4)
def zU (a b:St):Bool:=yA a && yA b && decide (a.ar=b.ar) && (decide (a.o=4) || decide (b.o=4))
def yr (s:St):List (Int × Int):=if s.o=4 then [(s.xa,s.xb)] else if 10<s.o then [(s.xa,s.xb),(s.ya,s.yb)] else []
def zi (l:List (Int × Int)) (i:Nat):Int × Int:=l.getD i (0,0)
def xI (l:List (Int × Int)) (fr bk:Int) (i:Nat):Bool:=decide ((zi l i).1=fr) && decide ((zi l i).2=bk)
def Vy (s:St) (fr bk:Int):Bool:=exN (xI (yr s) fr bk) (yr s).length
def xm (a:St):Int:=if a.o=4 then 1 else 0
def yh (fr to:Nat):Nat:=if to<=fr then 1 else 0
def zW (a b:St) (lo back size:Nat):Bool:=decide (lo<=back) && decide (back<=size) && zE a b back size && zh (fun i=>decide (i<lo) || !zE a b i size) back
def yS (L:Lp) (s:St):Nat:=2 ^ (nth L.logs s.ar.toNat).toNat
def isD (L:Lp) (t:Tg) (fr to bk wt:Nat):Bool :=
 (Vy (z6 L.body to) fr bk && decide ((wt:Int)=zr t (z6 L.body fr).o)) ||
  (zU (z6 L.body fr) (z6 L.body to) && decide ((wt:Int)=xm (z6 L.body fr)) && zW (z6 L.body fr) (z6 L.body to) (yh fr to) bk (yS L (z6 L.body fr)))
def wtD (L:Lp) (t:Tg) (fr to bk:Nat):Nat->List Ed
 | 0=>[]
 | k+1=>if isD L t fr to bk k=true then wtD L t fr to bk k++[⟨fr,to,bk,k⟩] else wtD L t fr to bk k
def bkD (L:Lp) (t:Tg) (fr to:Nat):Nat->List Ed
 | 0=>[]
 | k+1=>bkD L t fr to k++wtD L t fr to k 7
def toD (L:Lp) (t:Tg) (fr:Nat):Nat->List Ed
 | 0=>[]
 | k+1=>toD L t fr k++bkD L t fr k 33
def frD (L:Lp) (t:Tg):Nat->List Ed
 | 0=>[]
 | k+1=>frD L t k++toD L t k L.body.length
def z8 (L:Lp) (t:Tg):List Ed:=frD L t L.body.length
theorem zi4 (L:Lp) (t:Tg) (fr to bk k:Nat):(wtD L t fr to bk k).length<=k:=by
 induction k with
 | zero=>exact Nat.le_refl _
 | succ k ih =>
   show (if isD L t fr to bk k=true then wtD L t fr to bk k++[⟨fr,to,bk,k⟩] else wtD L t fr to bk k).length<=k+1
   split
   ·rw [List.length_append];simp;omega
   ·omega
theorem zha (L:Lp) (t:Tg) (fr to k:Nat):(bkD L t fr to k).length<=k*7:=by
 induction k with
 | zero=>exact Nat.le_refl _
 | succ k ih =>
   show (bkD L t fr to k++wtD L t fr to k 7).length<=(k+1)*7
   have:=zi4 L t fr to k 7
   rw [List.length_append];omega
theorem zhy (L:Lp) (t:Tg) (fr k:Nat):(toD L t fr k).length<=k*231:=by
 induction k with
 | zero=>exact Nat.le_refl _
 | succ k ih =>
   show (toD L t fr k++bkD L t fr k 33).length<=(k+1)*231
   have:=zha L t fr k 33
   rw [List.length_append];omega
theorem VQ (L:Lp) (t:Tg) (k:Nat) (hn:L.body.length<=16):(frD L t k).length<=k*3696:=by
 induction k with
 | zero=>exact Nat.le_refl _
 | succ k ih =>
   show (frD L t k++toD L t k L.body.length).length<=(k+1)*3696
   have:=zhy L t k L.body.length
   rw [List.length_append];omega
structure Kop where
 sl:Int
 sg:Int
 o:Int
 d:Int
 a:Int
 b:Int
 ar:Int
 sp:Int
 pl:Int
 nn:Int
def Kop.nil:Kop:=⟨0,0,0,0,0,0,0,0,0,0⟩
structure Kn where
 pc:Int
 st:Int
 ops:List Kop
def zq (l:List Kop) (i:Nat):Kop:=l.getD i Kop.nil
def xl (op:Int):Int:=if op=4 then 1 else if 10<op then 2 else 0
def Uk (logs:List Int) (x:Kop):Lp:=⟨logs,[⟨2,0,0,0,0,0,0,0,0⟩,⟨x.o,0,0,0,0,x.ar,x.sp,x.pl,x.nn⟩],[]⟩
def ZK (pc st:Int) (x:Kop):Bool:=inR x.sl 0 (pc - 1) && inR x.sg 0 (st - 1) && decide (x.sg*pc+x.sl<=1000)
def Xt (r:Int) (x:Kop):Bool:=inR x.d 0 (r - 1) && inR x.a 0 (r - 1) && inR x.b 0 (r - 1) && (decide (1<=xl x.o) || decide (x.a=0)) && (decide (2<=xl x.o) || decide (x.b=0))
def yF (r pc st:Int) (logs:List Int) (x:Kop):Bool:=ZK pc st x && Xt r x && zx (Uk logs x)
def cnt (p:Nat->Bool):Nat->Nat
 | 0=>0
 | n+1=>cnt p n+(if p n=true then 1 else 0)
theorem Zw (p:Nat->Bool) (n:Nat):cnt p n<=n:=by
 induction n with
 | zero=>exact Nat.le_refl _
 | succ n ih =>
   show cnt p n+(if p n=true then 1 else 0)<=n+1
   split <;> omega
def ZH (l:List Kop) (i j:Nat):Bool:=decide ((zq l j).sl=(zq l i).sl) && decide (zC (zq l j).o=zC (zq l i).o)
def Un (l:List Kop) (i:Nat):Nat:=cnt (ZH l i) l.length
def Z6 (t:Tg) (K:Kn) (logs:List Int):Bool :=
 zp t && inR K.pc 1 200 && inR K.st 1 1001 && inR K.ops.length 1 16 && zh (fun i=>yF t.r K.pc K.st logs (zq K.ops i) && decide ((Un K.ops i:Int)<=zF t (zC (zq K.ops i).o))) K.ops.length
theorem zpq {pc st:Int} {x:Kop} (h:x.sl<0\/pc<=x.sl\/x.sg<0\/st<=x.sg\/1000<x.sg*pc+x.sl):ZK pc st x=false:=by
 unfold ZK
 rw [Bool.eq_false_iff]
 intro h2
 simp only [Bool.and_eq_true,decide_eq_true_eq] at h2
 have h3:=zo.1 h2.1.1
 have h4:=zo.1 h2.1.2
 omega
theorem YT {pc st:Int} {x:Kop} (h1:¬x.sl<0) (h2:¬pc<=x.sl) (h3:¬x.sg<0) (h4:¬st<=x.sg) (h5:¬1000<x.sg*pc+x.sl):ZK pc st x=true:=by
 unfold ZK
 rw [zK (by omega),zK (by omega),decide_eq_true (by omega)];rfl
theorem VX {r:Int} {x:Kop} (h:x.d<0\/r<=x.d\/x.a<0\/x.b<0\/r<=x.a\/r<=x.b\/(xl x.o<1/\x.a≠0)\/(xl x.o<2/\x.b≠0)):Xt r x=false:=by
 unfold Xt
 rw [Bool.eq_false_iff]
 intro h2
 simp only [Bool.and_eq_true,Bool.or_eq_true,decide_eq_true_eq] at h2
 have h3:=zo.1 h2.1.1.1.1
 have h4:=zo.1 h2.1.1.1.2
 have h5:=zo.1 h2.1.1.2
 have h6:=h2.1.2
 have h7:=h2.2
 omega
theorem XW {r:Int} {x:Kop} (h1:¬x.d<0) (h2:¬r<=x.d) (h3:¬x.a<0) (h4:¬x.b<0) (h5:¬r<=x.a) (h6:¬r<=x.b) (h7:1<=xl x.o\/x.a=0) (h8:2<=xl x.o\/x.b=0):Xt r x=true:=by
 unfold Xt
 rw [zK (by omega),zK (by omega),zK (by omega)]
 simp only [Bool.true_and,Bool.and_eq_true,Bool.or_eq_true,decide_eq_true_eq]
 exact⟨h7,h8⟩
open Go.RowKit
structure Sq where
 mem:Nat->Nat->Int
 val:Nat->Nat->Int
def Yj (f:Nat->Nat->Int) (i j:Nat) (v:Int):Nat->Nat->Int:=fun a b=>if a=i/\b=j then v else f a b
theorem zpg (f:Nat->Nat->Int) (i j:Nat) (v:Int):Yj f i j v i j=v:=if_pos ⟨rfl,rfl⟩
theorem zn2 (f:Nat->Nat->Int) (i j a b:Nat) (v:Int) (h:a≠i):Yj f i j v a b=f a b:=if_neg fun e=>h e.1
theorem zwf (f:Nat->Nat->Int) (i j a b:Nat) (v:Int) (h:b≠j):Yj f i j v a b=f a b:=if_neg fun e=>h e.2
theorem zph (f:Nat->Nat->Int) (i j b:Nat) (v:Int):Yj f i j v i b=if b=j then v else f i b:=by
 unfold Yj;by_cases e:b=j <;> simp [e]
def zjz (B:List (List Int)) (val:Nat->Nat->Int) (t:Nat) (x y:Int):Int :=
 if y<=t then val ((t:Int) - y).toNat x.toNat else nth (VC B x.toNat) (y - t - 1).toNat
def xe (L:Lp) (t:Nat) (x:St):Nat:=(idx x.sp x.pl t (nth L.logs x.ar.toNat)).toNat
def comes (L:Lp) (B:List (List Int)) (t:Nat) (s:Sq) (x:St):Int :=
 if x.o=1 then x.nn else if x.o=2 then (t:Int) else if x.o=3 then s.mem x.ar.toNat (xe L t x) else if x.o=4 then zjz B s.val t x.xa x.xb
 else opv (x.o - 10) (zjz B s.val t x.xa x.xb) (zjz B s.val t x.ya x.yb)
def zq5 (L:Lp) (B:List (List Int)) (t:Nat) (s:Sq) (k:Nat):Sq :=
 ⟨if (z6 L.body k).o=4 then Yj s.mem (z6 L.body k).ar.toNat (xe L t (z6 L.body k)) (comes L B t s (z6 L.body k)) else s.mem,Yj s.val t k (comes L B t s (z6 L.body k))⟩
def znz (L:Lp) (B:List (List Int)) (t:Nat):Nat->Sq->Sq
 | 0,s=>s
 | k+1,s=>zq5 L B t (znz L B t k s) k
def zpn (L:Lp) (B:List (List Int)):Nat->Sq->Sq
 | 0,s=>s
 | t+1,s=>znz L B t L.body.length (zpn L B t s)
def zgf (M:List (List Int)):Sq:=⟨fun i j=>nth (VC M i) j,fun _ _=>0⟩
def zrt (L:Lp) (B:List (List Int)) (turns:Nat) (s:Sq):List Int :=
 L.outs.map fun o=>if turns=0 then nth (VC B o.toNat) 0 else s.val (turns - 1) o.toNat
def ztf (M:List (List Int)) (s:Sq):List (List Int):=(List.range M.length).map fun i=>(List.range (VC M i).length).map fun j=>s.mem i j
def I64 (x:Int):Prop:=-9223372036854775808<=x/\x<=9223372036854775807
def LoopIn (L:Lp):Prop:=∀k,I64 (z6 L.body k).nn
def zsc (B:List (List Int)):Prop:=∀i j,I64 (nth (VC B i) j)
def Sq.fine (s:Sq):Prop:=(∀i j,I64 (s.mem i j))/\∀t k,I64 (s.val t k)
theorem zw4 (x:Int):I64 (wrap64 x):=by unfold I64 wrap64;omega
theorem zrr {p:Prop} [Decidable p] {a b:Int} (ha:I64 a) (hb:I64 b):I64 (if p then a else b):=by split <;> assumption
theorem ztc (op:BinOp) (a b:Int):I64 (bits op .i64 a b):=bounds_i64 (wf_bits op .i64 a b)
theorem zsq:I64 0:=by unfold I64;omega
theorem zwy:I64 1:=by unfold I64;omega
theorem zux (o a b:Int):I64 (opv o a b):=by
 unfold opv
 refine zrr (zw4 _) (zrr (zw4 _) (zrr (zw4 _) (zrr (ztc _ _ _) (zrr (ztc _ _ _) (zrr (ztc _ _ _) (zrr (zrr zwy zsq) (zrr (zrr zwy zsq) zsq)))))))
theorem zuy {f:Nat->Nat->Int} {i j:Nat} {v:Int} (hf:∀a b,I64 (f a b)) (hv:I64 v):∀a b,I64 (Yj f i j v a b):=fun a b=>zrr hv (hf a b)
theorem ztd {B:List (List Int)} {val:Nat->Nat->Int} {t:Nat} {x y:Int} (hB:zsc B) (hv:∀a b,I64 (val a b)):I64 (zjz B val t x y):=zrr (hv _ _) (hB _ _)
theorem ztp {L:Lp} {B:List (List Int)} {t:Nat} {s:Sq} {k:Nat} (hL:LoopIn L) (hB:zsc B) (ht:t<=200) (hs:s.fine):I64 (comes L B t s (z6 L.body k)) :=
 zrr (hL k) (zrr (by unfold I64;omega) (zrr (hs.1 _ _) (zrr (ztd hB hs.2) (zux _ _ _))))
theorem zvc {L:Lp} {B:List (List Int)} {t:Nat} {s:Sq} {k:Nat} (hL:LoopIn L) (hB:zsc B) (ht:t<=200) (hs:s.fine):(zq5 L B t s k).fine:=by
 refine⟨?_,zuy hs.2 (ztp hL hB ht hs)⟩
 show ∀i j,I64 ((if (z6 L.body k).o=4 then _ else s.mem) i j)
 split
 ·exact zuy hs.1 (ztp hL hB ht hs)
 ·exact hs.1
theorem ztn {L:Lp} {B:List (List Int)} {t k:Nat} {s:Sq} (hL:LoopIn L) (hB:zsc B) (ht:t<=200) (hs:s.fine):(znz L B t k s).fine:=by
 induction k with
 | zero=>exact hs
 | succ k ih=>exact zvc hL hB ht ih
theorem zu9 {L:Lp} {B:List (List Int)} {t:Nat} {s:Sq} (hL:LoopIn L) (hB:zsc B) (ht:t<=200) (hs:s.fine):(zpn L B t s).fine:=by
 induction t with
 | zero=>exact hs
 | succ t ih=>exact ztn hL hB (by omega) (ih (by omega))
theorem ztb {M:List (List Int)} (hM:zsc M):(zgf M).fine:=⟨fun i j=>hM i j,fun _ _=>zsq⟩
theorem zwk {L:Lp} {B:List (List Int)} {t k a b:Nat} {s:Sq} (h:a≠t\/k<=b):(znz L B t k s).val a b=s.val a b:=by
 induction k with
 | zero=>rfl
 | succ k ih =>
   show Yj _ t k _ a b=_
   have h2:a≠t\/b≠k:=by omega
   rcases h2 with h2 | h2
   ·rw [zn2 _ _ _ _ _ _ h2];exact ih (by omega)
   ·rw [zwf _ _ _ _ _ _ h2];exact ih (by omega)
theorem zvu {L:Lp} {B:List (List Int)} {M:List (List Int)} {t a b:Nat} (h:t<=a):(zpn L B t (zgf M)).val a b=0:=by
 induction t with
 | zero=>rfl
 | succ t ih =>
   show (znz L B t L.body.length _).val a b=0
   rw [zwk (.inl (by omega))]
   exact ih (by omega)
theorem zqh (s p t l:Int):0<=idx s p t l/\idx s p t l<p2 l.toNat:=by
 have hp:=zmx l.toNat
 unfold idx
 split
 ·exact⟨Int.emod_nonneg _ (by omega),Int.emod_lt_of_pos _ hp⟩
 ·exact⟨Int.le_refl _,hp⟩
theorem zty (L:Lp) (t:Nat) (x:St):xe L t x<2 ^ (nth L.logs x.ar.toNat).toNat:=by
 have h:=zqh x.sp x.pl t (nth L.logs x.ar.toNat)
 unfold p2 at h
 unfold xe
 omega
theorem zes (L:Lp) (t:Nat) (x:St):idx x.sp x.pl t (nth L.logs x.ar.toNat)=(xe L t x:Int):=by
 have h:=zqh x.sp x.pl t (nth L.logs x.ar.toNat)
 unfold xe
 omega
theorem Vn {n k x y:Int} (h:yg n k x y=true) (hk:k<=n):0<=x/\x<n/\0<=y/\y<=3:=by
 unfold yg at h
 rw [Bool.and_eq_true] at h
 have h1:=zo.1 h.1
 have h2:=zo.1 h.2
 split at h2 <;> omega
theorem zea {m n k:Int} {s:St} (h:yd m n k s=true):s.o=1\/s.o=2\/(s.o=3/\0<=s.ar/\s.ar<m)\/(s.o=4/\0<=s.ar/\s.ar<m/\yg n k s.xa s.xb=true) \/
  (11<=s.o/\s.o<=18/\yg n k s.xa s.xb=true/\yg n k s.ya s.yb=true):=by
 unfold yd at h
 by_cases o1:s.o=1
 ·exact .inl o1
 rw [if_neg o1] at h
 by_cases o2:s.o=2
 ·exact .inr (.inl o2)
 rw [if_neg o2] at h
 by_cases o3:s.o=3
 ·rw [if_pos o3] at h
  simp only [Bool.and_eq_true,yy] at h
  have h1:=zo.1 h.2.1.1
  exact .inr (.inr (.inl ⟨o3,by omega,by omega⟩))
 rw [if_neg o3] at h
 by_cases o4:s.o=4
 ·rw [if_pos o4] at h
  simp only [Bool.and_eq_true,yy] at h
  have h1:=zo.1 h.1.2.1.1
  exact .inr (.inr (.inr (.inl ⟨o4,by omega,by omega,h.2⟩)))
 rw [if_neg o4] at h
 by_cases o5:11<=s.o/\s.o<=18
 ·rw [if_pos o5] at h
  simp only [Bool.and_eq_true] at h
  exact .inr (.inr (.inr (.inr ⟨o5.1,o5.2,h.1.2,h.2⟩)))
 ·rw [if_neg o5] at h;exact Bool.noConfusion h
theorem zx2 {L:Lp} {B:List (List Int)} {t k:Nat} {s:Sq} {xa xb ya yb ar sp pl nn:Int} (h:z6 L.body k=⟨1,xa,xb,ya,yb,ar,sp,pl,nn⟩):zq5 L B t s k=⟨s.mem,Yj s.val t k nn⟩:=by
 unfold zq5;rw [h];rfl
theorem zx3 {L:Lp} {B:List (List Int)} {t k:Nat} {s:Sq} {xa xb ya yb ar sp pl nn:Int} (h:z6 L.body k=⟨2,xa,xb,ya,yb,ar,sp,pl,nn⟩):zq5 L B t s k=⟨s.mem,Yj s.val t k (t:Int)⟩:=by
 unfold zq5;rw [h];rfl
theorem zx4 {L:Lp} {B:List (List Int)} {t k:Nat} {s:Sq} {xa xb ya yb ar sp pl nn:Int} (h:z6 L.body k=⟨3,xa,xb,ya,yb,ar,sp,pl,nn⟩) :
  zq5 L B t s k=⟨s.mem,Yj s.val t k (s.mem ar.toNat (xe L t ⟨3,xa,xb,ya,yb,ar,sp,pl,nn⟩))⟩:=by
 unfold zq5;rw [h];rfl
theorem zx5 {L:Lp} {B:List (List Int)} {t k:Nat} {s:Sq} {xa xb ya yb ar sp pl nn:Int} (h:z6 L.body k=⟨4,xa,xb,ya,yb,ar,sp,pl,nn⟩) :
  zq5 L B t s k=⟨Yj s.mem ar.toNat (xe L t ⟨4,xa,xb,ya,yb,ar,sp,pl,nn⟩) (zjz B s.val t xa xb),Yj s.val t k (zjz B s.val t xa xb)⟩:=by
 unfold zq5;rw [h];rfl
theorem zww {L:Lp} {B:List (List Int)} {t k:Nat} {s:Sq} {o xa xb ya yb ar sp pl nn:Int} (h:z6 L.body k=⟨o,xa,xb,ya,yb,ar,sp,pl,nn⟩) (ho:11<=o) :
  zq5 L B t s k=⟨s.mem,Yj s.val t k (opv (o - 10) (zjz B s.val t xa xb) (zjz B s.val t ya yb))⟩:=by
 unfold zq5
 rw [h]
 unfold comes
 show (⟨if o=4 then _ else s.mem,_⟩:Sq)=_
 rw [if_neg (by omega),if_neg (show ¬o=1 by omega),if_neg (show ¬o=2 by omega),if_neg (show ¬o=3 by omega),if_neg (show ¬o=4 by omega)]
theorem zsr {L:Lp} {B M:List (List Int)} (h:zrx L B M=true):zx L=true/\B.length=L.body.length/\M.length=L.logs.length/\(∀i,i<B.length->(VC B i).length=3) /\
  (∀i,i<M.length->(VC M i).length=2 ^ (nth L.logs i).toNat):=by
 unfold zrx at h
 simp only [Bool.and_eq_true,decide_eq_true_eq] at h
 obtain⟨⟨⟨⟨h1,h2⟩,h3⟩,h4⟩,h5⟩:=h
 exact⟨h1,h2,h3,fun i hi=>of_decide_eq_true (zl h4 i hi),fun i hi=>of_decide_eq_true (zl h5 i hi)⟩
theorem zxf {L:Lp} {M:List (List Int)} (hm:zx L=true) (hl:M.length=L.logs.length) (hr:∀i,i<M.length->(VC M i).length=2 ^ (nth L.logs i).toNat):∀i,i<M.length->0<(VC M i).length/\(VC M i).length<=32:=by
 intro i hi
 obtain⟨-,-,-,-,h5,-,-⟩:=zj hm
 have h:=zo.1 (zl h5 i (by omega))
 rw [hr i hi]
 refine⟨Nat.two_pow_pos _,?_⟩
 have h2:2 ^ (nth L.logs i).toNat<=2 ^ 5:=Nat.pow_le_pow_right (by omega) (by omega)
 omega
structure Du where
 at_:Int
 rg:Int
 v:Int
def Du.nil:Du:=⟨0,0,0⟩
def zrq (l:List Du) (i:Nat):Du:=l.getD i Du.nil
def zn1 (f:Nat->Int) (i:Nat) (v:Int):Nat->Int:=fun a=>if a=i then v else f a
def ZC (now:Int) (due:List Du) (f:Nat->Int):Nat->Nat->Int
 | 0=>f
 | k+1=>if (zrq due k).at_=now then zn1 (ZC now due f k) (zrq due k).rg.toNat (zrq due k).v else ZC now due f k
def ZS (now:Int) (due:List Du):Nat->List Du
 | 0=>[]
 | k+1=>if (zrq due k).at_=now then ZS now due k else ZS now due k++[zrq due k]
def zk0 (f:Nat->Int) (R n p:Int):Int:=f ((n+p) % R).toNat
def U3 (pc turns now:Int) (x:Kop):Bool:=decide (x.sl=now % pc) && decide (0<=now / pc - x.sg) && decide (now / pc - x.sg<turns)
def VH (logs:List Int) (pc now:Int) (x:Kop):Nat:=(idx x.sp x.pl (now / pc - x.sg) (nth logs x.ar.toNat)).toNat
def zgw (logs:List Int) (R pc now:Int) (f:Nat->Int) (m:Nat->Nat->Int) (x:Kop):Int :=
 if x.o=1 then x.nn else if x.o=2 then now / pc - x.sg else if x.o=3 then m x.ar.toNat (VH logs pc now x) else if x.o=4 then zk0 f R x.a (now / pc)
 else opv (x.o - 10) (zk0 f R x.a (now / pc)) (zk0 f R x.b (now / pc))
structure Nx where
 nx:Nat->Nat->Int
 du:List Du
def opK (t:Tg) (logs:List Int) (pc turns now:Int) (f:Nat->Int) (m:Nat->Nat->Int) (q:Nx) (x:Kop):Nx :=
 if U3 pc turns now x=true then
  ⟨if x.o=4 then Yj q.nx x.ar.toNat (VH logs pc now x) (zgw logs t.r pc now f m x) else q.nx,q.du++[⟨now+xA t (zC x.o),(x.d+now / pc) % t.r,zgw logs t.r pc now f m x⟩]⟩
 else q
def VK (t:Tg) (K:Kn) (logs:List Int) (turns now:Int) (f:Nat->Int) (m:Nat->Nat->Int) (q:Nx):Nat->Nx
 | 0=>q
 | k+1=>opK t logs K.pc turns now f m (VK t K logs turns now f m q k) (zq K.ops k)
structure Kst where
 f:Nat->Int
 m:Nat->Nat->Int
 due:List Du
def Xe (K:Kn) (turns:Int):Int:=(turns+K.st - 1)*K.pc
def zf7 (t:Tg) (K:Kn) (logs:List Int) (turns now:Int) (s:Kst):Kst :=
 if Xe K turns<=now then ⟨ZC now s.due s.f s.due.length,s.m,ZS now s.due s.due.length⟩
 else
  ⟨ZC now s.due s.f s.due.length,
   (VK t K logs turns now (ZC now s.due s.f s.due.length) s.m ⟨s.m,ZS now s.due s.due.length⟩ K.ops.length).nx,
   (VK t K logs turns now (ZC now s.due s.f s.due.length) s.m ⟨s.m,ZS now s.due s.due.length⟩ K.ops.length).du⟩
def xD (t:Tg) (K:Kn) (logs:List Int) (turns:Int) (s:Kst):Nat->Kst
 | 0=>s
 | n+1=>zf7 t K logs turns n (xD t K logs turns s n)
def Ym (R:List Int) (M:List (List Int)):Kst:=⟨fun i=>nth R i,fun i j=>nth (VC M i) j,[]⟩
def zq2 (t:Tg) (K:Kn) (logs:List Int) (turns:Int) (R:List Int) (M:List (List Int)):Kst:=if turns=0 then Ym R M else xD t K logs turns (Ym R M) (Xe K turns+7).toNat
def zs5 (n:Nat) (s:Kst):List Int:=(List.range n).map s.f
def zrz (M:List (List Int)) (s:Kst):List (List Int):=(List.range M.length).map fun i=>(List.range (VC M i).length).map fun j=>s.m i j
theorem ztj (now:Int) (due:List Du) (k:Nat):(ZS now due k).length<=k:=by
 induction k with
 | zero=>exact Nat.le_refl _
 | succ k ih =>
   show (if (zrq due k).at_=now then ZS now due k else ZS now due k++[zrq due k]).length<=k+1
   split
   ·omega
   ·rw [List.length_append];simp;omega
theorem zv1 (t:Tg) (K:Kn) (logs:List Int) (turns now:Int) (f:Nat->Int) (m:Nat->Nat->Int) (q:Nx) (k:Nat):(VK t K logs turns now f m q k).du.length<=q.du.length+k:=by
 induction k with
 | zero=>exact Nat.le_refl _
 | succ k ih =>
   show (opK t logs K.pc turns now f m (VK t K logs turns now f m q k) (zq K.ops k)).du.length<=_
   unfold opK
   split
   ·show (_++[_]).length<=_
    rw [List.length_append];simp;omega
   ·omega
theorem zwp (t:Tg) (K:Kn) (logs:List Int) (turns now:Int) (s:Kst):(zf7 t K logs turns now s).due.length<=s.due.length+K.ops.length:=by
 have h:=ztj now s.due s.due.length
 unfold zf7
 split
 ·show (ZS _ _ _).length<=_;omega
 ·have h2:=zv1 t K logs turns now (ZC now s.due s.f s.due.length) s.m ⟨s.m,ZS now s.due s.due.length⟩ K.ops.length
  show (VK _ _ _ _ _ _ _ _ _).du.length<=_
  have h3:(Nx.mk s.m (ZS now s.due s.due.length)).du.length=(ZS now s.due s.due.length).length:=rfl
  omega
theorem zwv (t:Tg) (K:Kn) (logs:List Int) (turns:Int) (s:Kst) (n:Nat):(xD t K logs turns s n).due.length<=s.due.length+n*K.ops.length:=by
 induction n with
 | zero=>exact Nat.le_add_right _ _
 | succ n ih =>
   have h:=zwp t K logs turns n (xD t K logs turns s n)
   show (zf7 t K logs turns n (xD t K logs turns s n)).due.length<=_
   rw [Nat.succ_mul]
   omega
structure Kst.fine (R:Int) (s:Kst):Prop where
 f:∀i,I64 (s.f i)
 m:∀i j,I64 (s.m i j)
 due:∀d∈s.due,0<=d.rg/\d.rg<R/\I64 d.v
theorem zw3 {f:Nat->Int} {i:Nat} {v:Int} (hf:∀a,I64 (f a)) (hv:I64 v):∀a,I64 (zn1 f i v a):=fun a=>zrr hv (hf a)
theorem zhd {l:List Du} {i:Nat} (h:i<l.length):zrq l i∈l:=by
 unfold zrq
 rw [List.getD,List.getElem?_eq_getElem h]
 exact List.getElem_mem _
theorem ztq {now R:Int} {due:List Du} {f:Nat->Int} (hf:∀i,I64 (f i)) (hd:∀d∈due,0<=d.rg/\d.rg<R/\I64 d.v):∀k,k<=due.length->∀i,I64 (ZC now due f k i):=by
 intro k
 induction k with
 | zero=>exact fun _=>hf
 | succ k ih =>
   intro hk i
   show I64 ((if (zrq due k).at_=now then zn1 (ZC now due f k) (zrq due k).rg.toNat (zrq due k).v else ZC now due f k) i)
   split
   ·exact zw3 (ih (by omega)) (hd _ (zhd (by omega))).2.2 i
   ·exact ih (by omega) i
theorem zvo {now:Int} {due:List Du} {p:Du->Prop} (hd:∀d∈due,p d):∀k,k<=due.length->∀d∈ZS now due k,p d:=by
 intro k
 induction k with
 | zero=>exact fun _ d h=>absurd h (by show ¬d∈[];simp)
 | succ k ih =>
   intro hk d h
   have h':d∈(if (zrq due k).at_=now then ZS now due k else ZS now due k++[zrq due k]):=h
   split at h'
   ·exact ih (by omega) d h'
   ·rcases List.mem_append.1 h' with h2 | h2
    ·exact ih (by omega) d h2
    ·have e:d=zrq due k:=by simpa using h2
     rw [e];exact hd _ (zhd (by omega))
theorem zwj {logs:List Int} {R pc now:Int} {f:Nat->Int} {m:Nat->Nat->Int} {x:Kop} (hf:∀i,I64 (f i)) (hm:∀i j,I64 (m i j)) (hn:I64 x.nn) (ht:I64 (now / pc - x.sg)):I64 (zgw logs R pc now f m x) :=
 zrr hn (zrr ht (zrr (hm _ _) (zrr (hf _) (zux _ _ _))))
def Xo (op:Int):Int:=if op=4 then 1 else if inR op 11 18=true then 2 else 0
theorem zdf (op:Int):(op=4/\Xo op=1)\/(op≠4/\inR op 11 18=true/\Xo op=2)\/(op≠4/\inR op 11 18=false/\Xo op=0):=by
 unfold Xo
 by_cases h:op=4
 ·exact .inl ⟨h,if_pos h⟩
 ·rw [if_neg h]
  cases h2:inR op 11 18 with
  | true=>exact .inr (.inl ⟨h,rfl,rfl⟩)
  | false=>exact .inr (.inr ⟨h,rfl,rfl⟩)
theorem zlf (p:Nat->Bool) {m n:Nat} (h:m<=n):cnt p m<=cnt p n:=by
 induction n with
 | zero => obtain rfl:m=0:=by omega
           exact Nat.le_refl _
 | succ n ih =>
   by_cases e:m=n+1
   ·subst e;exact Nat.le_refl _
   ·have:=ih (by omega)
    show cnt p m<=cnt p n+(if p n=true then 1 else 0)
    omega
theorem zif {p q:Nat->Bool} {n:Nat} (h:∀i,i<n->p i=q i):cnt p n=cnt q n:=by
 induction n with
 | zero=>rfl
 | succ n ih =>
   show cnt p n+(if p n=true then 1 else 0)=cnt q n+(if q n=true then 1 else 0)
   rw [ih fun i hi=>h i (by omega),h n (by omega)]
theorem zle (p:Nat->Bool) (n:Nat):cnt p n=0\/∃j,j<n/\p j=true/\cnt p n=cnt p (j+1):=by
 induction n with
 | zero=>exact .inl rfl
 | succ n ih =>
   cases hp:p n with
   | true=>exact .inr ⟨n,by omega,hp,rfl⟩
   | false =>
     have e:cnt p (n+1)=cnt p n:=by show cnt p n+(if p n=true then 1 else 0)=_;rw [hp];rfl
     rw [e]
     rcases ih with h | ⟨j,h1,h2,h3⟩
     ·exact .inl h
     ·exact .inr ⟨j,by omega,h2,h3⟩
theorem zen {t:Tg} {c:Int} (h:zp t=true):1<=zF t c:=by
 obtain⟨h1,h2,h3,-,-⟩:=yi h
 have h1:=zT h1
 have h2:=zT h2
 have h3:=zT h3
 unfold zF
 split
 ·omega
 ·split <;> omega
def ltE (a b:Ed):Prop:=a.fr<b.fr\/(a.fr=b.fr/\(a.to<b.to\/(a.to=b.to/\(a.bk<b.bk\/(a.bk=b.bk/\a.wt<b.wt)))))
theorem VY {L:Lp} {t:Tg} {fr to bk:Nat} {e:Ed}:∀k,e∈wtD L t fr to bk k->∃x:Nat,x<k/\e=⟨fr,to,bk,x⟩/\isD L t fr to bk x=true:=by
 intro k
 induction k with
 | zero=>intro h;exact absurd h (by show ¬e∈[];simp)
 | succ k ih =>
   intro h
   have h':e∈(if isD L t fr to bk k=true then wtD L t fr to bk k++[⟨fr,to,bk,k⟩] else wtD L t fr to bk k):=h
   split at h'
   ·rename_i hi
    rcases List.mem_append.1 h' with h2 | h2
    ·obtain⟨x,hx,h3⟩:=ih h2;exact⟨x,by omega,h3⟩
    ·exact⟨k,by omega,List.mem_singleton.1 h2,hi⟩
   ·obtain⟨x,hx,h3⟩:=ih h';exact⟨x,by omega,h3⟩
theorem zbj {L:Lp} {t:Tg} {fr to:Nat} {e:Ed}:∀k,e∈bkD L t fr to k->∃b x:Nat,b<k/\e=⟨fr,to,b,x⟩/\isD L t fr to b x=true:=by
 intro k
 induction k with
 | zero=>intro h;exact absurd h (by show ¬e∈[];simp)
 | succ k ih =>
   intro h
   rcases List.mem_append.1 (show e∈bkD L t fr to k++wtD L t fr to k 7 from h) with h2 | h2
   ·obtain⟨b,x,hb,h3⟩:=ih h2;exact⟨b,x,by omega,h3⟩
   ·obtain⟨x,-,h3⟩:=VY 7 h2;exact⟨k,x,by omega,h3⟩
theorem zcg {L:Lp} {t:Tg} {fr:Nat} {e:Ed}:∀k,e∈toD L t fr k->∃to b x:Nat,to<k/\e=⟨fr,to,b,x⟩/\isD L t fr to b x=true:=by
 intro k
 induction k with
 | zero=>intro h;exact absurd h (by show ¬e∈[];simp)
 | succ k ih =>
   intro h
   rcases List.mem_append.1 (show e∈toD L t fr k++bkD L t fr k 33 from h) with h2 | h2
   ·obtain⟨to,b,x,hb,h3⟩:=ih h2;exact⟨to,b,x,by omega,h3⟩
   ·obtain⟨b,x,-,h3⟩:=zbj 33 h2;exact⟨k,b,x,by omega,h3⟩
theorem XI {L:Lp} {t:Tg} {e:Ed}:∀k,e∈frD L t k->∃fr to b x:Nat,fr<k/\to<L.body.length/\e=⟨fr,to,b,x⟩/\isD L t fr to b x=true:=by
 intro k
 induction k with
 | zero=>intro h;exact absurd h (by show ¬e∈[];simp)
 | succ k ih =>
   intro h
   rcases List.mem_append.1 (show e∈frD L t k++toD L t k L.body.length from h) with h2 | h2
   ·obtain⟨fr,to,b,x,hb,h3⟩:=ih h2;exact⟨fr,to,b,x,by omega,h3⟩
   ·obtain⟨to,b,x,hto,h3⟩:=zcg _ h2;exact⟨k,to,b,x,by omega,hto,h3⟩
theorem zo7 {L:Lp} {t:Tg} {fr to bk:Nat}:∀k,(wtD L t fr to bk k).Pairwise ltE:=by
 intro k
 induction k with
 | zero=>exact List.Pairwise.nil
 | succ k ih =>
   show (if isD L t fr to bk k=true then wtD L t fr to bk k++[⟨fr,to,bk,k⟩] else wtD L t fr to bk k).Pairwise ltE
   split
   ·refine List.pairwise_append.2 ⟨ih,List.pairwise_singleton _ _,fun a ha b hb=>?_⟩
    obtain⟨x,hx,rfl,-⟩:=VY k ha
    rw [List.mem_singleton.1 hb]
    exact .inr ⟨rfl,.inr ⟨rfl,.inr ⟨rfl,by dsimp only;omega⟩⟩⟩
   ·exact ih
theorem zl5 {L:Lp} {t:Tg} {fr to:Nat}:∀k,(bkD L t fr to k).Pairwise ltE:=by
 intro k
 induction k with
 | zero=>exact List.Pairwise.nil
 | succ k ih =>
   refine List.pairwise_append.2 ⟨ih,zo7 7,fun a ha b hb=>?_⟩
   obtain⟨y,x,hy,rfl,-⟩:=zbj k ha
   obtain⟨z,hz,rfl,-⟩:=VY 7 hb
   exact .inr ⟨rfl,.inr ⟨rfl,.inl (by dsimp only;omega)⟩⟩
theorem zny {L:Lp} {t:Tg} {fr:Nat}:∀k,(toD L t fr k).Pairwise ltE:=by
 intro k
 induction k with
 | zero=>exact List.Pairwise.nil
 | succ k ih =>
   refine List.pairwise_append.2 ⟨ih,zl5 33,fun a ha b hb=>?_⟩
   obtain⟨o,y,x,hy,rfl,-⟩:=zcg k ha
   obtain⟨u,z,hz,rfl,-⟩:=zbj 33 hb
   exact .inr ⟨rfl,.inl (by dsimp only;omega)⟩
theorem zlt {L:Lp} {t:Tg}:∀k,(frD L t k).Pairwise ltE:=by
 intro k
 induction k with
 | zero=>exact List.Pairwise.nil
 | succ k ih =>
   refine List.pairwise_append.2 ⟨ih,zny _,fun a ha b hb=>?_⟩
   obtain⟨f,o,y,x,hy,-,rfl,-⟩:=XI k ha
   obtain⟨v,u,z,hz,rfl,-⟩:=zcg _ hb
   exact .inl (by dsimp only;omega)
theorem zm8 {m n:Int} {to:Nat} {s:St} {fr:Int} (h:yd m n to s=true) (hl:Vy s fr 0=true):fr<to:=by
 obtain⟨i,hi,hp⟩:=Yf.1 hl
 unfold xI at hp
 rw [Bool.and_eq_true,decide_eq_true_eq,decide_eq_true_eq] at hp
 have key:∀a b,yg n to a b=true->a=fr->b=0->fr<to:=fun a b h1 h2 h3=>by
  unfold yg at h1
  rw [Bool.and_eq_true] at h1
  have h4:=zo.1 h1.2
  rw [if_pos h3] at h4
  omega
 unfold yd at h
 by_cases h4:s.o=4
 ·rw [if_neg (by omega),if_neg (by omega),if_neg (by omega),if_pos h4] at h
  simp only [Bool.and_eq_true] at h
  have e:yr s=[(s.xa,s.xb)]:=by unfold yr;rw [if_pos h4]
  rw [e] at hi hp
  have hi0:i=0:=by have:i<1:=hi;omega
  subst hi0
  exact key _ _ h.2 hp.1 hp.2
 ·by_cases h10:10<s.o
  ·have e:yr s=[(s.xa,s.xb),(s.ya,s.yb)]:=by unfold yr;rw [if_neg h4,if_pos h10]
   rw [e] at hi hp
   rw [if_neg (by omega),if_neg (by omega),if_neg (by omega),if_neg h4] at h
   split at h
   ·simp only [Bool.and_eq_true] at h
    have hi0:i=0\/i=1:=by have:i<2:=hi;omega
    rcases hi0 with rfl | rfl
    ·exact key _ _ h.1.2 hp.1 hp.2
    ·exact key _ _ h.2 hp.1 hp.2
   ·exact Bool.noConfusion h
  ·have e:yr s=[]:=by unfold yr;rw [if_neg h4,if_neg h10]
   rw [e] at hi
   exact absurd hi (Nat.not_lt_zero _)
theorem zqj {L:Lp} {t:Tg} {fr to x:Nat} (hm:zx L=true) (hto:to<L.body.length) (h:isD L t fr to 0 x=true):fr<to:=by
 obtain⟨m1,m2,m3,m4,m5,m6,m7⟩:=zj hm
 have hs:=zl m7 to hto
 unfold isD at h
 rcases Bool.or_eq_true_iff.1 h with h | h
 ·rw [Bool.and_eq_true] at h
  have:=zm8 hs h.1
  omega
 ·simp only [Bool.and_eq_true] at h
  have h1:=h.2
  unfold zW at h1
  simp only [Bool.and_eq_true,decide_eq_true_eq] at h1
  have h2:=h1.1.1.1
  unfold yh at h2
  split at h2 <;> omega
theorem zio {L:Lp} {t:Tg} {e:Ed} (hm:zx L=true) (h:e∈z8 L t):∃fr to bk wt:Nat,e=⟨fr,to,bk,wt⟩/\fr<L.body.length/\to<L.body.length/\(bk=0->fr<to):=by
 obtain⟨fr,to,bk,x,h1,h2,h3,h4⟩:=XI _ h
 exact⟨fr,to,bk,x,h3,h1,h2,fun e0=>zqj hm h2 (by rw [<-e0];exact h4)⟩
def zr7 (D:List Du) (j:Int):List Du:=D.filter fun d=>decide (d.at_ % 6=j)
theorem ztr (D:List Du) (d:Du) (j:Int):zr7 (D++[d]) j=if d.at_ % 6=j then zr7 D j++[d] else zr7 D j:=by
 unfold zr7
 rw [List.filter_append]
 by_cases h:d.at_ % 6=j
 ·rw [if_pos h];simp [h]
 ·rw [if_neg h];simp [h]
theorem zim (D E:List Du) (k:Nat) (h:k<D.length):zrq (D++E) k=zrq D k:=by
 unfold zrq;simp [List.getD,List.getElem?_append,h]
theorem zlh (D:List Du) (d:Du):zrq (D++[d]) D.length=d:=by
 unfold zrq;simp [List.getD]
theorem zk6 (now:Int) (D E:List Du):∀k,k<=D.length->ZS now (D++E) k=ZS now D k:=by
 intro k
 induction k with
 | zero=>exact fun _=>rfl
 | succ k ih =>
   intro hk
   show (if (zrq (D++E) k).at_=now then _ else _)=(if (zrq D k).at_=now then _ else _)
   rw [zim _ _ _ (by omega),ih (by omega)]
theorem ze7 {α:Type} {p:List α->Prop} (h0:p []) (hs:∀l a,p l->p (l++[a])) (l:List α):p l:=by
 rw [<-List.reverse_reverse l]
 induction l.reverse with
 | nil=>exact h0
 | cons a r ih=>rw [List.reverse_cons];exact hs _ _ ih
theorem ze1 (now:Int) (D:List Du):ZS now D D.length=D.filter fun d=>!decide (d.at_=now):=by
 refine ze7 (p:=fun D=>ZS now D D.length=D.filter fun d=>!decide (d.at_=now)) rfl (fun l d ih=>?_) D
 rw [List.length_append,List.filter_append]
 show (if (zrq (l++[d]) l.length).at_=now then ZS now (l++[d]) l.length else ZS now (l++[d]) l.length++[zrq (l++[d]) l.length])=_
 rw [zlh,zk6 _ _ _ _ (Nat.le_refl _),ih]
 by_cases e:d.at_=now
 ·rw [if_pos e];simp [e]
 ·rw [if_neg e];simp [e]
def znq (l:List Kop) (s:Int):List Kop:=l.filter fun x=>decide (x.sl=s)
structure Sto where
 i:Nat
 j:Nat
 v:Int
def zb0 (l:List Sto) (k:Nat):Sto:=l.getD k ⟨0,0,0⟩
theorem zuv (l r:List Sto) (k:Nat) (h:k<l.length):zb0 (l++r) k=zb0 l k:=by
 unfold zb0;simp [List.getD,List.getElem?_append,h]
theorem zvt (l:List Sto) (d:Sto):zb0 (l++[d]) l.length=d:=by
 unfold zb0;simp [List.getD]
end Go.Proofs.YtjoapiafpahihabGreat
