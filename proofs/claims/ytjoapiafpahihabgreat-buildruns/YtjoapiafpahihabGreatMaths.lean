import Derived.Test.YtjoapiafpahihabGreatNums
import Derived.OpenShut
namespace Go.Proofs.YtjoapiafpahihabGreat
set_option linter.unusedVariables false
open Go.RowKit
variable {p:Nat->Bool} {n k i j t fr to bk:Nat} {pc r v x y m xa xb ya yb ar sp pl nn now R:Int} {B M:List (List Int)} {L:Lp} {s:St} {f:Nat->Int}
structure Tg where
 u0:Int
 u1:Int
 u2:Int
 w0:Int
 w1:Int
 w2:Int
 r:Int
def Vb (u w:Int):Bool:=inR u 1 4 && inR w 1 6
def yj (t:Tg):Bool:=Vb t.u0 t.w0 && Vb t.u1 t.w1 && Vb t.u2 t.w2 && inR t.r 1 128
def ye (t:Tg) (c:Int):Int:=if c=0 then t.u0 else if c=1 then t.u1 else t.u2
def xW (t:Tg) (c:Int):Int:=if c=0 then t.w0 else if c=1 then t.w1 else t.w2
def zO (t:Tg) (op:Int):Int:=if yj t=true then xW t (zW op) else 0
theorem XG (op:Int):zW op=0\/zW op=1\/zW op=2:=by
 unfold zW;split
 ·exact .inr (.inr rfl)
 ·split
  ·exact .inr (.inl rfl)
  ·exact .inl rfl
theorem yn {u w:Int} (h:Vb u w=true):1<=u/\u<=4/\1<=w/\w<=6:=by
 unfold Vb at h
 rw [Bool.and_eq_true] at h
 have h1:=zx.1 h.1
 have h2:=zx.1 h.2
 exact⟨h1.1,h1.2,h2.1,h2.2⟩
theorem ym {t:Tg} (h:yj t=true):Vb t.u0 t.w0=true/\Vb t.u1 t.w1=true/\Vb t.u2 t.w2=true/\1<=t.r/\t.r<=128:=by
 unfold yj at h
 simp only [Bool.and_eq_true] at h
 have h1:=zx.1 h.2
 exact⟨h.1.1.1,h.1.1.2,h.1.2,h1.1,h1.2⟩
structure Ed where
 fr:Int
 to:Int
 bk:Int
 wt:Int
def exN (p:Nat->Bool):Nat->Bool
 | 0=>false
 | k+1=>exN p k || p k
theorem Z0 (hk:k<n) (h:p k=true):exN p n=true:=by
 induction n with
 | zero=>omega
 | succ n ih =>
   show (exN p n || p n)=true
   by_cases e:k=n
   ·rw [<-e,h];simp
   ·rw [ih (by omega)];rfl
theorem zty (h:exN p k=false) (hk:p k=false):exN p (k+1)=false:=by
 show (exN p k || p k)=false
 rw [h,hk];rfl
theorem XY:exN p n=true↔∃k,k<n/\p k=true:=by
 induction n with
 | zero=>exact⟨fun h=>Bool.noConfusion h,fun ⟨k,h,_⟩=>absurd h (Nat.not_lt_zero _)⟩
 | succ n ih =>
   constructor
   ·intro h
    have h2:exN p n=true\/p n=true:=by
     have h3:(exN p n || p n)=true:=h
     simpa using h3
    rcases h2 with h2 | h2
    ·obtain⟨k,hk,hp⟩:=ih.1 h2;exact⟨k,by omega,hp⟩
    ·exact⟨n,by omega,h2⟩
   ·rintro ⟨k,hk,hp⟩;exact Z0 hk hp
def zmd (a b:St) (back size:Nat) (turn:Nat):Bool:=decide ((a.sp*turn+a.pl) % size=(b.sp*((turn:Int)+back)+b.pl) % size)
def yE (a b:St) (back size:Nat):Bool:=exN (zmd a b back size) size
def ZW (s:St):Bool:=decide (s.o=3) || decide (s.o=4)
def Xd (a b:St):Bool:=ZW a && ZW b && decide (a.ar=b.ar) && (decide (a.o=4) || decide (b.o=4))
def zj (s:St):List (Int × Int):=if s.o=4 then [(s.xa,s.xb)] else if 10<s.o then [(s.xa,s.xb),(s.ya,s.yb)] else []
def zy (l:List (Int × Int)) (i:Nat):Int × Int:=l.getD i (0,0)
def zd7 (l:List (Int × Int)) (fr bk:Int) (i:Nat):Bool:=decide ((zy l i).1=fr) && decide ((zy l i).2=bk)
def zfj (s:St) (fr bk:Int):Bool:=exN (zd7 (zj s) fr bk) (zj s).length
def Zn (a:St):Int:=if a.o=4 then 1 else 0
def Z4 (fr to:Nat):Nat:=if to<=fr then 1 else 0
def ZM (a b:St) (lo back size:Nat):Bool:=decide (lo<=back) && decide (back<=size) && yE a b back size && zC (fun i=>decide (i<lo) || !yE a b i size) back
def xY (L:Lp) (s:St):Nat:=2 ^ (nth L.l s.ar.toNat).toNat
def isD (L:Lp) (t:Tg) (fr to bk wt:Nat):Bool :=
 (zfj (zc L.b to) fr bk && decide ((wt:Int)=zO t (zc L.b fr).o)) ||
  (Xd (zc L.b fr) (zc L.b to) && decide ((wt:Int)=Zn (zc L.b fr)) && ZM (zc L.b fr) (zc L.b to) (Z4 fr to) bk (xY L (zc L.b fr)))
def wtD (L:Lp) (t:Tg) (fr to bk:Nat):Nat->List Ed
 | 0=>[]
 | k+1=>if isD L t fr to bk k=true then wtD L t fr to bk k++[⟨fr,to,bk,k⟩] else wtD L t fr to bk k
def bkD (L:Lp) (t:Tg) (fr to:Nat):Nat->List Ed
 | 0=>[]
 | k+1=>bkD L t fr to k++wtD L t fr to k 7
def toD (L:Lp) (t:Tg) (fr:Nat):Nat->List Ed
 | 0=>[]
 | k+1=>toD L t fr k++bkD L t fr k 33
def frD (L:Lp) (t:Tg):Nat->List Ed
 | 0=>[]
 | k+1=>frD L t k++toD L t k L.b.length
def zi (L:Lp) (t:Tg):List Ed:=frD L t L.b.length
theorem zz8 (L:Lp) (t:Tg) (fr to bk k:Nat):(wtD L t fr to bk k).length<=k:=by
 induction k with
 | zero=>exact Nat.le_refl _
 | succ k ih =>
   show (if isD L t fr to bk k=true then wtD L t fr to bk k++[⟨fr,to,bk,k⟩] else wtD L t fr to bk k).length<=k+1
   split
   ·rw [List.length_append];simp;omega
   ·omega
theorem zx1 (L:Lp) (t:Tg) (fr to k:Nat):(bkD L t fr to k).length<=k*7:=by
 induction k with
 | zero=>exact Nat.le_refl _
 | succ k ih =>
   show (bkD L t fr to k++wtD L t fr to k 7).length<=(k+1)*7
   have:=zz8 L t fr to k 7
   rw [List.length_append];omega
theorem zyx (L:Lp) (t:Tg) (fr k:Nat):(toD L t fr k).length<=k*231:=by
 induction k with
 | zero=>exact Nat.le_refl _
 | succ k ih =>
   show (toD L t fr k++bkD L t fr k 33).length<=(k+1)*231
   have:=zx1 L t fr k 33
   rw [List.length_append];omega
theorem zxq (L:Lp) (t:Tg) (k:Nat) (hn:L.b.length<=16):(frD L t k).length<=k*3696:=by
 induction k with
 | zero=>exact Nat.le_refl _
 | succ k ih =>
   show (frD L t k++toD L t k L.b.length).length<=(k+1)*3696
   have:=zyx L t k L.b.length
   rw [List.length_append];omega
structure Kop where
 sl:Int
 sg:Int
 o:Int
 d:Int
 a:Int
 b:Int
 ar:Int
 sp:Int
 pl:Int
 nn:Int
def Kop.nil:Kop:=⟨0,0,0,0,0,0,0,0,0,0⟩
structure Kn where
 pc:Int
 st:Int
 ops:List Kop
def zp (l:List Kop) (i:Nat):Kop:=l.getD i Kop.nil
def YB (op:Int):Int:=if op=4 then 1 else if 10<op then 2 else 0
def zjf (logs:List Int) (x:Kop):Lp:=⟨logs,[⟨2,0,0,0,0,0,0,0,0⟩,⟨x.o,0,0,0,0,x.ar,x.sp,x.pl,x.nn⟩],[]⟩
def xv (pc st:Int) (x:Kop):Bool:=inR x.sl 0 (pc - 1) && inR x.sg 0 (st - 1) && decide (x.sg*pc+x.sl<=1000)
def VJ (r:Int) (x:Kop):Bool:=inR x.d 0 (r - 1) && inR x.a 0 (r - 1) && inR x.b 0 (r - 1) && (decide (1<=YB x.o) || decide (x.a=0)) && (decide (2<=YB x.o) || decide (x.b=0))
def VF (r pc st:Int) (logs:List Int) (x:Kop):Bool:=xv pc st x && VJ r x && zY (zjf logs x)
def cnt (p:Nat->Bool):Nat->Nat
 | 0=>0
 | n+1=>cnt p n+(if p n=true then 1 else 0)
theorem Xw (p:Nat->Bool) (n:Nat):cnt p n<=n:=by
 induction n with
 | zero=>exact Nat.le_refl _
 | succ n ih =>
   show cnt p n+(if p n=true then 1 else 0)<=n+1
   split <;> omega
def Ur (l:List Kop) (i j:Nat):Bool:=decide ((zp l j).sl=(zp l i).sl) && decide (zW (zp l j).o=zW (zp l i).o)
def zfn (l:List Kop) (i:Nat):Nat:=cnt (Ur l i) l.length
def Yv (t:Tg) (K:Kn) (logs:List Int):Bool :=
 yj t && inR K.pc 1 200 && inR K.st 1 1001 && inR K.ops.length 1 16 && zC (fun i=>VF t.r K.pc K.st logs (zp K.ops i) && decide ((zfn K.ops i:Int)<=ye t (zW (zp K.ops i).o))) K.ops.length
theorem zwh {st:Int} {x:Kop} (h1:¬x.sl<0) (h2:¬pc<=x.sl) (h3:¬x.sg<0) (h4:¬st<=x.sg) (h5:¬1000<x.sg*pc+x.sl):xv pc st x=true:=by
 unfold xv
 rw [yf (by omega),yf (by omega),decide_eq_true (by omega)];rfl
theorem zw1 {x:Kop} (h1:¬x.d<0) (h2:¬r<=x.d) (h3:¬x.a<0) (h4:¬x.b<0) (h5:¬r<=x.a) (h6:¬r<=x.b) (h7:1<=YB x.o\/x.a=0) (h8:2<=YB x.o\/x.b=0):VJ r x=true:=by
 unfold VJ
 rw [yf (by omega),yf (by omega),yf (by omega)]
 simp only [Bool.true_and,Bool.and_eq_true,Bool.or_eq_true,decide_eq_true_eq]
 exact⟨h7,h8⟩
structure Sq where
 mem:Nat->Nat->Int
 val:Nat->Nat->Int
def xE (f:Nat->Nat->Int) (i j:Nat) (v:Int):Nat->Nat->Int:=fun a b=>if a=i/\b=j then v else f a b
theorem zom (f:Nat->Nat->Int) (i j:Nat) (v:Int):xE f i j v i j=v:=if_pos ⟨rfl,rfl⟩
theorem zdg (f:Nat->Nat->Int) (i j a b:Nat) (v:Int) (h:a≠i):xE f i j v a b=f a b:=if_neg fun e=>h e.1
theorem zvt (f:Nat->Nat->Int) (i j a b:Nat) (v:Int) (h:b≠j):xE f i j v a b=f a b:=if_neg fun e=>h e.2
theorem zon (f:Nat->Nat->Int) (i j b:Nat) (v:Int):xE f i j v i b=if b=j then v else f i b:=by
 unfold xE;by_cases e:b=j <;> simp [e]
def UE (B:List (List Int)) (val:Nat->Nat->Int) (t:Nat) (x y:Int):Int :=
 if y<=t then val ((t:Int) - y).toNat x.toNat else nth (zv B x.toNat) (y - t - 1).toNat
def yU (L:Lp) (t:Nat) (x:St):Nat:=(idx x.sp x.pl t (nth L.l x.ar.toNat)).toNat
def comes (L:Lp) (B:List (List Int)) (t:Nat) (s:Sq) (x:St):Int :=
 if x.o=1 then x.nn else if x.o=2 then (t:Int) else if x.o=3 then s.mem x.ar.toNat (yU L t x) else if x.o=4 then UE B s.val t x.xa x.xb
 else opv (x.o - 10) (UE B s.val t x.xa x.xb) (UE B s.val t x.ya x.yb)
def Zu (L:Lp) (B:List (List Int)) (t:Nat) (s:Sq) (k:Nat):Sq :=
 ⟨if (zc L.b k).o=4 then xE s.mem (zc L.b k).ar.toNat (yU L t (zc L.b k)) (comes L B t s (zc L.b k)) else s.mem,xE s.val t k (comes L B t s (zc L.b k))⟩
def zal (L:Lp) (B:List (List Int)) (t:Nat):Nat->Sq->Sq
 | 0,s=>s
 | k+1,s=>Zu L B t (zal L B t k s) k
def Vl (L:Lp) (B:List (List Int)):Nat->Sq->Sq
 | 0,s=>s
 | t+1,s=>zal L B t L.b.length (Vl L B t s)
def xV (M:List (List Int)):Sq:=⟨fun i j=>nth (zv M i) j,fun _ _=>0⟩
def xH (L:Lp) (B:List (List Int)) (gD:Nat) (s:Sq):List Int :=
 L.o.map fun o=>if gD=0 then nth (zv B o.toNat) 0 else s.val (gD - 1) o.toNat
def zjj (M:List (List Int)) (s:Sq):List (List Int):=(List.range M.length).map fun i=>(List.range (zv M i).length).map fun j=>s.mem i j
def I64 (x:Int):Prop:=-9223372036854775808<=x/\x<=9223372036854775807
def LoopIn (L:Lp):Prop:=∀k,I64 (zc L.b k).nn
def Y1 (B:List (List Int)):Prop:=∀i j,I64 (nth (zv B i) j)
def Sq.fine (s:Sq):Prop:=(∀i j,I64 (s.mem i j))/\∀t k,I64 (s.val t k)
theorem zub (x:Int):I64 (wrap64 x):=by unfold I64 wrap64;omega
theorem yL {p:Prop} [Decidable p] {a b:Int} (ha:I64 a) (hb:I64 b):I64 (if p then a else b):=by split <;> assumption
theorem zd5 (op:BinOp) (a b:Int):I64 (bits op .i64 a b):=bounds_i64 (wf_bits op .i64 a b)
theorem Uj:I64 0:=by unfold I64;omega
theorem zzd:I64 1:=by unfold I64;omega
theorem zo9 (o a b:Int):I64 (opv o a b):=by
 unfold opv
 refine yL (zub _) (yL (zub _) (yL (zub _) (yL (zd5 _ _ _) (yL (zd5 _ _ _) (yL (zd5 _ _ _) (yL (yL zzd Uj) (yL (yL zzd Uj) Uj)))))))
theorem zoa {f:Nat->Nat->Int} (hf:∀a b,I64 (f a b)) (hv:I64 v):∀a b,I64 (xE f i j v a b):=fun a b=>yL hv (hf a b)
theorem zua {val:Nat->Nat->Int} (hB:Y1 B) (hv:∀a b,I64 (val a b)):I64 (UE B val t x y):=yL (hv _ _) (hB _ _)
theorem zfa {s:Sq} (hL:LoopIn L) (hB:Y1 B) (ht:t<=200) (hs:s.fine):I64 (comes L B t s (zc L.b k)) :=
 yL (hL k) (yL (by unfold I64;omega) (yL (hs.1 _ _) (yL (zua hB hs.2) (zo9 _ _ _))))
theorem zq8 {s:Sq} (hL:LoopIn L) (hB:Y1 B) (ht:t<=200) (hs:s.fine):(Zu L B t s k).fine:=by
 refine⟨?_,zoa hs.2 (zfa hL hB ht hs)⟩
 show ∀i j,I64 ((if (zc L.b k).o=4 then _ else s.mem) i j)
 split
 ·exact zoa hs.1 (zfa hL hB ht hs)
 ·exact hs.1
theorem zq9 {s:Sq} (hL:LoopIn L) (hB:Y1 B) (ht:t<=200) (hs:s.fine):(zal L B t k s).fine:=by
 induction k with
 | zero=>exact hs
 | succ k ih=>exact zq8 hL hB ht ih
theorem ziu {s:Sq} (hL:LoopIn L) (hB:Y1 B) (ht:t<=200) (hs:s.fine):(Vl L B t s).fine:=by
 induction t with
 | zero=>exact hs
 | succ t ih=>exact zq9 hL hB (by omega) (ih (by omega))
theorem zcx (hM:Y1 M):(xV M).fine:=⟨fun i j=>hM i j,fun _ _=>Uj⟩
theorem zhe (s p t l:Int):0<=idx s p t l/\idx s p t l<p2 l.toNat:=by
 have hp:=yak l.toNat
 unfold idx
 split
 ·exact⟨Int.emod_nonneg _ (by omega),Int.emod_lt_of_pos _ hp⟩
 ·exact⟨Int.le_refl _,hp⟩
theorem zgl (L:Lp) (t:Nat) (x:St):yU L t x<2 ^ (nth L.l x.ar.toNat).toNat:=by
 have h:=zhe x.sp x.pl t (nth L.l x.ar.toNat)
 unfold p2 at h
 unfold yU
 omega
theorem VR (L:Lp) (t:Nat) (x:St):idx x.sp x.pl t (nth L.l x.ar.toNat)=(yU L t x:Int):=by
 have h:=zhe x.sp x.pl t (nth L.l x.ar.toNat)
 unfold yU
 omega
theorem zbb {n k:Int} (h:yN n k x y=true) (hk:k<=n):0<=x/\x<n/\0<=y/\y<=3:=by
 unfold yN at h
 rw [Bool.and_eq_true] at h
 have h1:=zx.1 h.1
 have h2:=zx.1 h.2
 split at h2 <;> omega
theorem zaj {n k:Int} (h:yH m n k s=true):s.o=1\/s.o=2\/(s.o=3/\0<=s.ar/\s.ar<m)\/(s.o=4/\0<=s.ar/\s.ar<m/\yN n k s.xa s.xb=true) \/
  (11<=s.o/\s.o<=18/\yN n k s.xa s.xb=true/\yN n k s.ya s.yb=true):=by
 unfold yH at h
 by_cases o1:s.o=1
 ·exact .inl o1
 rw [if_neg o1] at h
 by_cases o2:s.o=2
 ·exact .inr (.inl o2)
 rw [if_neg o2] at h
 by_cases o3:s.o=3
 ·rw [if_pos o3] at h
  simp only [Bool.and_eq_true,xP] at h
  have h1:=zx.1 h.2.1.1
  exact .inr (.inr (.inl ⟨o3,by omega,by omega⟩))
 rw [if_neg o3] at h
 by_cases o4:s.o=4
 ·rw [if_pos o4] at h
  simp only [Bool.and_eq_true,xP] at h
  have h1:=zx.1 h.1.2.1.1
  exact .inr (.inr (.inr (.inl ⟨o4,by omega,by omega,h.2⟩)))
 rw [if_neg o4] at h
 by_cases o5:11<=s.o/\s.o<=18
 ·rw [if_pos o5] at h
  simp only [Bool.and_eq_true] at h
  exact .inr (.inr (.inr (.inr ⟨o5.1,o5.2,h.1.2,h.2⟩)))
 ·rw [if_neg o5] at h;exact Bool.noConfusion h
theorem yaq {s:Sq} (h:zc L.b k=⟨1,xa,xb,ya,yb,ar,sp,pl,nn⟩):Zu L B t s k=⟨s.mem,xE s.val t k nn⟩:=by
 unfold Zu;rw [h];rfl
theorem yar {s:Sq} (h:zc L.b k=⟨2,xa,xb,ya,yb,ar,sp,pl,nn⟩):Zu L B t s k=⟨s.mem,xE s.val t k (t:Int)⟩:=by
 unfold Zu;rw [h];rfl
theorem yas {s:Sq} (h:zc L.b k=⟨3,xa,xb,ya,yb,ar,sp,pl,nn⟩) :
  Zu L B t s k=⟨s.mem,xE s.val t k (s.mem ar.toNat (yU L t ⟨3,xa,xb,ya,yb,ar,sp,pl,nn⟩))⟩:=by
 unfold Zu;rw [h];rfl
theorem yat {s:Sq} (h:zc L.b k=⟨4,xa,xb,ya,yb,ar,sp,pl,nn⟩) :
  Zu L B t s k=⟨xE s.mem ar.toNat (yU L t ⟨4,xa,xb,ya,yb,ar,sp,pl,nn⟩) (UE B s.val t xa xb),xE s.val t k (UE B s.val t xa xb)⟩:=by
 unfold Zu;rw [h];rfl
theorem zyt {s:Sq} {o:Int} (h:zc L.b k=⟨o,xa,xb,ya,yb,ar,sp,pl,nn⟩) (ho:11<=o) :
  Zu L B t s k=⟨s.mem,xE s.val t k (opv (o - 10) (UE B s.val t xa xb) (UE B s.val t ya yb))⟩:=by
 unfold Zu
 rw [h]
 unfold comes
 show (⟨if o=4 then _ else s.mem,_⟩:Sq)=_
 rw [if_neg (by omega),if_neg (show ¬o=1 by omega),if_neg (show ¬o=2 by omega),if_neg (show ¬o=3 by omega),if_neg (show ¬o=4 by omega)]
theorem Y4 (h:xG L B M=true):zY L=true/\B.length=L.b.length/\M.length=L.l.length/\(∀i,i<B.length->(zv B i).length=3) /\
  (∀i,i<M.length->(zv M i).length=2 ^ (nth L.l i).toNat):=by
 unfold xG at h
 simp only [Bool.and_eq_true,decide_eq_true_eq] at h
 obtain⟨⟨⟨⟨h1,h2⟩,h3⟩,h4⟩,h5⟩:=h
 exact⟨h1,h2,h3,fun i hi=>of_decide_eq_true (zo h4 i hi),fun i hi=>of_decide_eq_true (zo h5 i hi)⟩
theorem zze (hm:zY L=true) (hl:M.length=L.l.length) (hr:∀i,i<M.length->(zv M i).length=2 ^ (nth L.l i).toNat):∀i,i<M.length->0<(zv M i).length/\(zv M i).length<=32:=by
 intro i hi
 obtain⟨-,-,-,-,h5,-,-⟩:=zw hm
 have h:=zx.1 (zo h5 i (by omega))
 rw [hr i hi]
 refine⟨Nat.two_pow_pos _,?_⟩
 have h2:2 ^ (nth L.l i).toNat<=2 ^ 5:=Nat.pow_le_pow_right (by omega) (by omega)
 omega
structure Du where
 at_:Int
 rg:Int
 v:Int
def Du.nil:Du:=⟨0,0,0⟩
def yK (l:List Du) (i:Nat):Du:=l.getD i Du.nil
def YH (f:Nat->Int) (i:Nat) (v:Int):Nat->Int:=fun a=>if a=i then v else f a
def xx (now:Int) (due:List Du) (f:Nat->Int):Nat->Nat->Int
 | 0=>f
 | k+1=>if (yK due k).at_=now then YH (xx now due f k) (yK due k).rg.toNat (yK due k).v else xx now due f k
def yR (now:Int) (due:List Du):Nat->List Du
 | 0=>[]
 | k+1=>if (yK due k).at_=now then yR now due k else yR now due k++[yK due k]
def zmz (f:Nat->Int) (R n p:Int):Int:=f ((n+p) % R).toNat
def YJ (pc gD now:Int) (x:Kop):Bool:=decide (x.sl=now % pc) && decide (0<=now / pc - x.sg) && decide (now / pc - x.sg<gD)
def Y0 (logs:List Int) (pc now:Int) (x:Kop):Nat:=(idx x.sp x.pl (now / pc - x.sg) (nth logs x.ar.toNat)).toNat
def UK (logs:List Int) (R pc now:Int) (f:Nat->Int) (m:Nat->Nat->Int) (x:Kop):Int :=
 if x.o=1 then x.nn else if x.o=2 then now / pc - x.sg else if x.o=3 then m x.ar.toNat (Y0 logs pc now x) else if x.o=4 then zmz f R x.a (now / pc)
 else opv (x.o - 10) (zmz f R x.a (now / pc)) (zmz f R x.b (now / pc))
structure Nx where
 nx:Nat->Nat->Int
 du:List Du
def opK (t:Tg) (logs:List Int) (pc gD now:Int) (f:Nat->Int) (m:Nat->Nat->Int) (q:Nx) (x:Kop):Nx :=
 if YJ pc gD now x=true then
  ⟨if x.o=4 then xE q.nx x.ar.toNat (Y0 logs pc now x) (UK logs t.r pc now f m x) else q.nx,q.du++[⟨now+xW t (zW x.o),(x.d+now / pc) % t.r,UK logs t.r pc now f m x⟩]⟩
 else q
def YF (t:Tg) (K:Kn) (logs:List Int) (gD now:Int) (f:Nat->Int) (m:Nat->Nat->Int) (q:Nx):Nat->Nx
 | 0=>q
 | k+1=>opK t logs K.pc gD now f m (YF t K logs gD now f m q k) (zp K.ops k)
structure Kst where
 f:Nat->Int
 m:Nat->Nat->Int
 due:List Du
def Zr (K:Kn) (gD:Int):Int:=(gD+K.st - 1)*K.pc
def Vj (t:Tg) (K:Kn) (logs:List Int) (gD now:Int) (s:Kst):Kst :=
 if Zr K gD<=now then ⟨xx now s.due s.f s.due.length,s.m,yR now s.due s.due.length⟩
 else
  ⟨xx now s.due s.f s.due.length,
   (YF t K logs gD now (xx now s.due s.f s.due.length) s.m ⟨s.m,yR now s.due s.due.length⟩ K.ops.length).nx,
   (YF t K logs gD now (xx now s.due s.f s.due.length) s.m ⟨s.m,yR now s.due s.due.length⟩ K.ops.length).du⟩
def zJ (t:Tg) (K:Kn) (logs:List Int) (gD:Int) (s:Kst):Nat->Kst
 | 0=>s
 | n+1=>Vj t K logs gD n (zJ t K logs gD s n)
def ZE (R:List Int) (M:List (List Int)):Kst:=⟨fun i=>nth R i,fun i j=>nth (zv M i) j,[]⟩
def Zm (t:Tg) (K:Kn) (logs:List Int) (gD:Int) (R:List Int) (M:List (List Int)):Kst:=if gD=0 then ZE R M else zJ t K logs gD (ZE R M) (Zr K gD+7).toNat
def XA (n:Nat) (s:Kst):List Int:=(List.range n).map s.f
def zap (M:List (List Int)) (s:Kst):List (List Int):=(List.range M.length).map fun i=>(List.range (zv M i).length).map fun j=>s.m i j
theorem zk1 (now:Int) (due:List Du) (k:Nat):(yR now due k).length<=k:=by
 induction k with
 | zero=>exact Nat.le_refl _
 | succ k ih =>
   show (if (yK due k).at_=now then yR now due k else yR now due k++[yK due k]).length<=k+1
   split
   ·omega
   ·rw [List.length_append];simp;omega
theorem zyd (t:Tg) (K:Kn) (logs:List Int) (gD now:Int) (f:Nat->Int) (m:Nat->Nat->Int) (q:Nx) (k:Nat):(YF t K logs gD now f m q k).du.length<=q.du.length+k:=by
 induction k with
 | zero=>exact Nat.le_refl _
 | succ k ih =>
   show (opK t logs K.pc gD now f m (YF t K logs gD now f m q k) (zp K.ops k)).du.length<=_
   unfold opK
   split
   ·show (_++[_]).length<=_
    rw [List.length_append];simp;omega
   ·omega
theorem zxb (t:Tg) (K:Kn) (logs:List Int) (gD now:Int) (s:Kst):(Vj t K logs gD now s).due.length<=s.due.length+K.ops.length:=by
 have h:=zk1 now s.due s.due.length
 unfold Vj
 split
 ·show (yR _ _ _).length<=_;omega
 ·have h2:=zyd t K logs gD now (xx now s.due s.f s.due.length) s.m ⟨s.m,yR now s.due s.due.length⟩ K.ops.length
  show (YF _ _ _ _ _ _ _ _ _).du.length<=_
  have h3:(Nx.mk s.m (yR now s.due s.due.length)).du.length=(yR now s.due s.due.length).length:=rfl
  omega
theorem zyq (t:Tg) (K:Kn) (logs:List Int) (gD:Int) (s:Kst) (n:Nat):(zJ t K logs gD s n).due.length<=s.due.length+n*K.ops.length:=by
 induction n with
 | zero=>exact Nat.le_add_right _ _
 | succ n ih =>
   have h:=zxb t K logs gD n (zJ t K logs gD s n)
   show (Vj t K logs gD n (zJ t K logs gD s n)).due.length<=_
   rw [Nat.succ_mul]
   omega
structure Kst.fine (R:Int) (s:Kst):Prop where
 f:∀i,I64 (s.f i)
 m:∀i j,I64 (s.m i j)
 due:∀d∈s.due,0<=d.rg/\d.rg<R/\I64 d.v
theorem zu9 (hf:∀a,I64 (f a)) (hv:I64 v):∀a,I64 (YH f i v a):=fun a=>yL hv (hf a)
theorem UT {l:List Du} (h:i<l.length):yK l i∈l:=by
 unfold yK
 rw [List.getD,List.getElem?_eq_getElem h]
 exact List.getElem_mem _
theorem zqi {due:List Du} (hf:∀i,I64 (f i)) (hd:∀d∈due,0<=d.rg/\d.rg<R/\I64 d.v):∀k,k<=due.length->∀i,I64 (xx now due f k i):=by
 intro k
 induction k with
 | zero=>exact fun _=>hf
 | succ k ih =>
   intro hk i
   show I64 ((if (yK due k).at_=now then YH (xx now due f k) (yK due k).rg.toNat (yK due k).v else xx now due f k) i)
   split
   ·exact zu9 (ih (by omega)) (hd _ (UT (by omega))).2.2 i
   ·exact ih (by omega) i
theorem zg2 {due:List Du} {p:Du->Prop} (hd:∀d∈due,p d):∀k,k<=due.length->∀d∈yR now due k,p d:=by
 intro k
 induction k with
 | zero=>exact fun _ d h=>absurd h (by show ¬d∈[];simp)
 | succ k ih =>
   intro hk d h
   have h':d∈(if (yK due k).at_=now then yR now due k else yR now due k++[yK due k]):=h
   split at h'
   ·exact ih (by omega) d h'
   ·rcases List.mem_append.1 h' with h2 | h2
    ·exact ih (by omega) d h2
    ·have e:d=yK due k:=by simpa using h2
     rw [e];exact hd _ (UT (by omega))
theorem zws {logs:List Int} {m:Nat->Nat->Int} {x:Kop} (hf:∀i,I64 (f i)) (hm:∀i j,I64 (m i j)) (hn:I64 x.nn) (ht:I64 (now / pc - x.sg)):I64 (UK logs R pc now f m x) :=
 yL hn (yL ht (yL (hm _ _) (yL (hf _) (zo9 _ _ _))))
def yM (op:Int):Int:=if op=4 then 1 else if inR op 11 18=true then 2 else 0
theorem VA (op:Int):(op=4/\yM op=1)\/(op≠4/\inR op 11 18=true/\yM op=2)\/(op≠4/\inR op 11 18=false/\yM op=0):=by
 unfold yM
 by_cases h:op=4
 ·exact .inl ⟨h,if_pos h⟩
 ·rw [if_neg h]
  cases h2:inR op 11 18 with
  | true=>exact .inr (.inl ⟨h,rfl,rfl⟩)
  | false=>exact .inr (.inr ⟨h,rfl,rfl⟩)
def YY (r:Int) (x:Kop):Bool:=inR x.d 0 (r - 1) && inR x.a 0 (if 0<yM x.o then r - 1 else 0) && inR x.b 0 (if 1<yM x.o then r - 1 else 0)
def stK (x:Kop):St:=⟨x.o,0,if 0<yM x.o then 1 else 0,0,if 1<yM x.o then 1 else 0,x.ar,x.sp,x.pl,x.nn⟩
def Z6 (l:List Kop):List St:=l.map stK
def zdu (l:List Kop) (i:Nat):Nat:=cnt (Ur l i) (i+1)
def VP (t:Tg) (l:List Kop):Bool:=zC (fun i=>decide ((zdu l i:Int)<=ye t (zW (zp l i).o))) l.length
def zby (t:Tg) (K:Kn) (logs:List Int):Bool :=
 decide (K.ops.length<=16) && yj t && inR K.pc 1 200 && inR K.st 1 1001 && zC (fun i=>xv K.pc K.st (zp K.ops i) && YY t.r (zp K.ops i)) K.ops.length && zY ⟨logs,Z6 K.ops,[]⟩ && VP t K.ops
theorem VY (l:List Kop):(Z6 l).length=l.length:=by unfold Z6;simp
theorem zi8 (l:List Kop) (i:Nat) (h:i<l.length):zc (Z6 l) i=stK (zp l i):=by
 unfold Z6 zc zp
 simp [List.getD,h]
theorem zij (p:Nat->Bool) {m:Nat} (h:m<=n):cnt p m<=cnt p n:=by
 induction n with
 | zero => obtain rfl:m=0:=by omega
           exact Nat.le_refl _
 | succ n ih =>
   by_cases e:m=n+1
   ·subst e;exact Nat.le_refl _
   ·have:=ih (by omega)
    show cnt p m<=cnt p n+(if p n=true then 1 else 0)
    omega
theorem zpo {q:Nat->Bool} (h:∀i,i<n->p i=q i):cnt p n=cnt q n:=by
 induction n with
 | zero=>rfl
 | succ n ih =>
   show cnt p n+(if p n=true then 1 else 0)=cnt q n+(if q n=true then 1 else 0)
   rw [ih fun i hi=>h i (by omega),h n (by omega)]
theorem zii (p:Nat->Bool) (n:Nat):cnt p n=0\/∃j,j<n/\p j=true/\cnt p n=cnt p (j+1):=by
 induction n with
 | zero=>exact .inl rfl
 | succ n ih =>
   cases hp:p n with
   | true=>exact .inr ⟨n,by omega,hp,rfl⟩
   | false =>
     have e:cnt p (n+1)=cnt p n:=by show cnt p n+(if p n=true then 1 else 0)=_;rw [hp];rfl
     rw [e]
     rcases ih with h | ⟨j,h1,h2,h3⟩
     ·exact .inl h
     ·exact .inr ⟨j,by omega,h2,h3⟩
theorem zs7 {l:List Kop} (h:Ur l i j=true):Ur l j=Ur l i:=by
 unfold Ur at h
 simp only [Bool.and_eq_true,decide_eq_true_eq] at h
 funext a
 unfold Ur
 rw [h.1,h.2]
theorem ze3 {t:Tg} {c:Int} (h:yj t=true):1<=ye t c:=by
 obtain⟨h1,h2,h3,-,-⟩:=ym h
 have h1:=yn h1
 have h2:=yn h2
 have h3:=yn h3
 unfold ye
 split
 ·omega
 ·split <;> omega
theorem zwn {t:Tg} {l:List Kop} (ht:yj t=true):VP t l=zC (fun i=>decide ((zfn l i:Int)<=ye t (zW (zp l i).o))) l.length:=by
 rw [Bool.eq_iff_iff]
 constructor
 ·intro h
  refine zL fun i hi=>decide_eq_true ?_
  unfold zfn
  rcases zii (Ur l i) l.length with h0 | ⟨j,h1,h2,h3⟩
  ·rw [h0];have:=ze3 (c:=zW (zp l i).o) ht;omega
  ·have h4:=of_decide_eq_true (zo h j h1)
   unfold zdu at h4
   rw [zs7 h2,<-h3] at h4
   have h5:zW (zp l j).o=zW (zp l i).o:=by
    unfold Ur at h2
    simp only [Bool.and_eq_true,decide_eq_true_eq] at h2
    exact h2.2
   rw [h5] at h4
   exact h4
 ·intro h
  refine zL fun i hi=>decide_eq_true ?_
  have h4:=of_decide_eq_true (zo h i hi)
  have h5:zdu l i<=zfn l i:=zij _ (by omega)
  omega
theorem zoz (m n k:Int) (x:Kop) (hn:1<=n):yH m n k (stK x)=yH m 2 1 ⟨x.o,0,0,0,0,x.ar,x.sp,x.pl,x.nn⟩:=by
 have hr1:yN n k 0 1=true:=by unfold yN;rw [yf (by omega),if_neg (by omega),yf (by omega)];rfl
 have hr2:yN 2 1 0 0=true:=by decide
 have hl1:x.o=1->yM x.o=0:=fun h=>by rw [h];decide
 have hl2:x.o=2->yM x.o=0:=fun h=>by rw [h];decide
 have hl3:x.o=3->yM x.o=0:=fun h=>by rw [h];decide
 have hl4:x.o=4->yM x.o=1:=fun h=>by rw [h];decide
 unfold yH stK
 dsimp only
 by_cases h1:x.o=1
 ·rw [if_pos h1,if_pos h1,hl1 h1];simp
 rw [if_neg h1,if_neg h1]
 by_cases h2:x.o=2
 ·rw [if_pos h2,if_pos h2,hl2 h2];simp
 rw [if_neg h2,if_neg h2]
 by_cases h3:x.o=3
 ·rw [if_pos h3,if_pos h3,hl3 h3];simp
 rw [if_neg h3,if_neg h3]
 by_cases h4:x.o=4
 ·rw [if_pos h4,if_pos h4,hl4 h4]
  rw [if_pos (show (0:Int)<1 by omega),if_neg (show ¬(1:Int)<1 by omega),hr1,hr2]
 rw [if_neg h4,if_neg h4]
 by_cases h5:11<=x.o/\x.o<=18
 ·have hl5:yM x.o=2:=by unfold yM;rw [if_neg h4,if_pos (yf h5)]
  rw [if_pos h5,if_pos h5,hl5,if_pos (show (0:Int)<2 by omega),if_pos (show (1:Int)<2 by omega),hr1,hr2]
 rw [if_neg h5,if_neg h5]
theorem zg1 {n k:Int} {x:Kop} (hr:1<=r) (h:yH m 2 1 ⟨x.o,0,0,0,0,x.ar,x.sp,x.pl,x.nn⟩=true):YY r x=VJ r x:=by
 have hl:yM x.o=YB x.o:=by
  by_cases h4:x.o=4
  ·unfold yM YB;rw [if_pos h4,if_pos h4]
  by_cases h5:11<=x.o/\x.o<=18
  ·unfold yM YB;rw [if_neg h4,if_pos (yf h5),if_neg h4,if_pos (by omega)]
  ·have h6:x.o=1\/x.o=2\/x.o=3:=by
    by_cases h1:x.o=1
    ·exact .inl h1
    by_cases h2:x.o=2
    ·exact .inr (.inl h2)
    by_cases h3:x.o=3
    ·exact .inr (.inr h3)
    exfalso
    unfold yH at h
    dsimp only at h
    rw [if_neg h1,if_neg h2,if_neg h3,if_neg h4,if_neg h5] at h
    exact Bool.noConfusion h
   unfold yM YB
   rw [if_neg h4,Yt h5,if_neg (by decide),if_neg h4,if_neg (by omega)]
 unfold YY VJ
 rw [hl]
 have hu:YB x.o=0\/YB x.o=1\/YB x.o=2:=by
  unfold YB;split
  ·exact .inr (.inl rfl)
  ·split
   ·exact .inr (.inr rfl)
   ·exact .inl rfl
 rw [Bool.eq_iff_iff]
 simp only [Bool.and_eq_true,Bool.or_eq_true,decide_eq_true_eq,zx]
 rcases hu with hu | hu | hu <;> rw [hu]
 ·rw [if_neg (by omega),if_neg (by omega)];omega
 ·rw [if_pos (by omega),if_neg (by omega)];omega
 ·rw [if_pos (by omega),if_pos (by omega)];omega
theorem zd8 (logs:List Int) (x:Kop):zY (zjf logs x)=(decide (logs.length<=3) && ZN logs && yH logs.length 2 1 ⟨x.o,0,0,0,0,x.ar,x.sp,x.pl,x.nn⟩):=by
 have h0:yH logs.length 2 0 ⟨2,0,0,0,0,0,0,0,0⟩=true:=by unfold yH;simp
 have hb:Y2 (zjf logs x)=yH logs.length 2 1 ⟨x.o,0,0,0,0,x.ar,x.sp,x.pl,x.nn⟩:=by
  show ((true && yH logs.length 2 0 ⟨2,0,0,0,0,0,0,0,0⟩) && yH logs.length 2 1 ⟨x.o,0,0,0,0,x.ar,x.sp,x.pl,x.nn⟩)=_
  rw [h0];rfl
 unfold zY
 rw [hb]
 show (decide (logs.length<=3) && decide (1<=2) && decide (2<=16) && ZN logs && true && _)=_
 simp
theorem zma (logs:List Int) (l:List Kop) (h1:1<=l.length) (h2:l.length<=16):zY ⟨logs,Z6 l,[]⟩=(decide (logs.length<=3) && ZN logs && zC (fun i=>yH logs.length 2 1 ⟨(zp l i).o,0,0,0,0,(zp l i).ar,(zp l i).sp,(zp l i).pl,(zp l i).nn⟩) l.length):=by
 have hb:Y2 ⟨logs,Z6 l,[]⟩=zC (fun i=>yH logs.length 2 1 ⟨(zp l i).o,0,0,0,0,(zp l i).ar,(zp l i).sp,(zp l i).pl,(zp l i).nn⟩) l.length:=by
  unfold Y2
  show zC (fun k=>yH logs.length (Z6 l).length k (zc (Z6 l) k)) (Z6 l).length=_
  rw [VY,Bool.eq_iff_iff]
  constructor
  ·intro h
   refine zL fun i hi=>?_
   have h3:yH logs.length l.length i (zc (Z6 l) i)=true:=zo h i hi
   rw [zi8 l i hi,zoz _ _ _ _ (by omega)] at h3
   exact h3
  ·intro h
   refine zL fun i hi=>?_
   rw [zi8 l i hi,zoz _ _ _ _ (by omega)]
   exact zo h i hi
 unfold zY
 rw [hb]
 show (decide (logs.length<=3) && decide (1<=(Z6 l).length) && decide ((Z6 l).length<=16) && ZN logs && true && _)=_
 rw [VY,decide_eq_true h1,decide_eq_true h2]
 simp
theorem zqw (t:Tg) (K:Kn) (logs:List Int):zby t K logs=Yv t K logs:=by
 unfold zby Yv
 by_cases ht:yj t=true
 ·by_cases h16:K.ops.length<=16
  ·by_cases h1:1<=K.ops.length
   ·rw [zma logs K.ops h1 h16,zwn ht,ht,decide_eq_true h16,yf (by omega:(1:Int)<=(K.ops.length:Int)/\(K.ops.length:Int)<=16)]
    have hr:=(ym ht).2.2.2.1
    cases inR K.pc 1 200
    ·simp
    cases inR K.st 1 1001
    ·simp
    simp only [Bool.true_and,Bool.and_true]
    rw [Bool.eq_iff_iff]
    constructor
    ·intro h
     simp only [Bool.and_eq_true,decide_eq_true_eq] at h
     obtain⟨⟨hA,⟨hl,hlo⟩,hS⟩,hU⟩:=h
     refine zL fun i hi=>?_
     have hA:=zo hA i hi
     have hS:=zo hS i hi
     have hU:=zo hU i hi
     simp only [Bool.and_eq_true] at hA
     unfold VF
     rw [hA.1,<-zg1 (n:=0) (k:=0) hr hS,hA.2,zd8,decide_eq_true hl,hlo,hS,hU]
     rfl
    ·intro h
     have h0:=zo h 0 (by omega)
     have hX:∀i,i<K.ops.length->xv K.pc K.st (zp K.ops i)=true/\VJ t.r (zp K.ops i)=true/\logs.length<=3/\ZN logs=true/\yH logs.length 2 1 ⟨(zp K.ops i).o,0,0,0,0,(zp K.ops i).ar,(zp K.ops i).sp,(zp K.ops i).pl,(zp K.ops i).nn⟩=true/\(zfn K.ops i:Int)<=ye t (zW (zp K.ops i).o):=by
      intro i hi
      have h2:=zo h i hi
      unfold VF at h2
      rw [zd8] at h2
      simp only [Bool.and_eq_true,decide_eq_true_eq] at h2
      exact⟨h2.1.1.1,h2.1.1.2,h2.1.2.1.1,h2.1.2.1.2,h2.1.2.2,h2.2⟩
     obtain⟨-,-,hl,hlo,-,-⟩:=hX 0 (by omega)
     simp only [Bool.and_eq_true,decide_eq_true_eq]
     refine⟨⟨zL fun i hi=>?_,⟨hl,hlo⟩,zL fun i hi=>(hX i hi).2.2.2.2.1⟩,zL fun i hi=>decide_eq_true (hX i hi).2.2.2.2.2⟩
     rw [(hX i hi).1,zg1 (n:=0) (k:=0) hr (hX i hi).2.2.2.2.1,(hX i hi).2.1]
     rfl
   ·have h0:K.ops.length=0:=by omega
    have hb:zY ⟨logs,Z6 K.ops,[]⟩=false:=zd9 _ (.inr (.inl (by show ¬1<=(Z6 K.ops).length;rw [VY];omega)))
    rw [hb,Yt (by omega:¬((1:Int)<=(K.ops.length:Int)/\(K.ops.length:Int)<=16))]
    simp
  ·rw [decide_eq_false h16,Yt (by omega:¬((1:Int)<=(K.ops.length:Int)/\(K.ops.length:Int)<=16))]
   simp
 ·have ht2:yj t=false:=by simpa using ht
  rw [ht2]
  simp
def ltE (a b:Ed):Prop:=a.fr<b.fr\/(a.fr=b.fr/\(a.to<b.to\/(a.to=b.to/\(a.bk<b.bk\/(a.bk=b.bk/\a.wt<b.wt)))))
theorem zca {t:Tg} {e:Ed}:∀k,e∈wtD L t fr to bk k->∃x:Nat,x<k/\e=⟨fr,to,bk,x⟩/\isD L t fr to bk x=true:=by
 intro k
 induction k with
 | zero=>intro h;exact absurd h (by show ¬e∈[];simp)
 | succ k ih =>
   intro h
   have h':e∈(if isD L t fr to bk k=true then wtD L t fr to bk k++[⟨fr,to,bk,k⟩] else wtD L t fr to bk k):=h
   split at h'
   ·rename_i hi
    rcases List.mem_append.1 h' with h2 | h2
    ·obtain⟨x,hx,h3⟩:=ih h2;exact⟨x,by omega,h3⟩
    ·exact⟨k,by omega,List.mem_singleton.1 h2,hi⟩
   ·obtain⟨x,hx,h3⟩:=ih h';exact⟨x,by omega,h3⟩
theorem zh0 {t:Tg} {e:Ed}:∀k,e∈bkD L t fr to k->∃b x:Nat,b<k/\e=⟨fr,to,b,x⟩/\isD L t fr to b x=true:=by
 intro k
 induction k with
 | zero=>intro h;exact absurd h (by show ¬e∈[];simp)
 | succ k ih =>
   intro h
   rcases List.mem_append.1 (show e∈bkD L t fr to k++wtD L t fr to k 7 from h) with h2 | h2
   ·obtain⟨b,x,hb,h3⟩:=ih h2;exact⟨b,x,by omega,h3⟩
   ·obtain⟨x,-,h3⟩:=zca 7 h2;exact⟨k,x,by omega,h3⟩
theorem zhw {t:Tg} {e:Ed}:∀k,e∈toD L t fr k->∃to b x:Nat,to<k/\e=⟨fr,to,b,x⟩/\isD L t fr to b x=true:=by
 intro k
 induction k with
 | zero=>intro h;exact absurd h (by show ¬e∈[];simp)
 | succ k ih =>
   intro h
   rcases List.mem_append.1 (show e∈toD L t fr k++bkD L t fr k 33 from h) with h2 | h2
   ·obtain⟨to,b,x,hb,h3⟩:=ih h2;exact⟨to,b,x,by omega,h3⟩
   ·obtain⟨b,x,-,h3⟩:=zh0 33 h2;exact⟨k,b,x,by omega,h3⟩
theorem za2 {t:Tg} {e:Ed}:∀k,e∈frD L t k->∃fr to b x:Nat,fr<k/\to<L.b.length/\e=⟨fr,to,b,x⟩/\isD L t fr to b x=true:=by
 intro k
 induction k with
 | zero=>intro h;exact absurd h (by show ¬e∈[];simp)
 | succ k ih =>
   intro h
   rcases List.mem_append.1 (show e∈frD L t k++toD L t k L.b.length from h) with h2 | h2
   ·obtain⟨fr,to,b,x,hb,h3⟩:=ih h2;exact⟨fr,to,b,x,by omega,h3⟩
   ·obtain⟨to,b,x,hto,h3⟩:=zhw _ h2;exact⟨k,to,b,x,by omega,hto,h3⟩
theorem zwt {t:Tg}:∀k,(wtD L t fr to bk k).Pairwise ltE:=by
 intro k
 induction k with
 | zero=>exact List.Pairwise.nil
 | succ k ih =>
   show (if isD L t fr to bk k=true then wtD L t fr to bk k++[⟨fr,to,bk,k⟩] else wtD L t fr to bk k).Pairwise ltE
   split
   ·refine List.pairwise_append.2 ⟨ih,List.pairwise_singleton _ _,fun a ha b hb=>?_⟩
    obtain⟨x,hx,rfl,-⟩:=zca k ha
    rw [List.mem_singleton.1 hb]
    exact .inr ⟨rfl,.inr ⟨rfl,.inr ⟨rfl,by dsimp only;omega⟩⟩⟩
   ·exact ih
theorem ztc {t:Tg}:∀k,(bkD L t fr to k).Pairwise ltE:=by
 intro k
 induction k with
 | zero=>exact List.Pairwise.nil
 | succ k ih =>
   refine List.pairwise_append.2 ⟨ih,zwt 7,fun a ha b hb=>?_⟩
   obtain⟨y,x,hy,rfl,-⟩:=zh0 k ha
   obtain⟨z,hz,rfl,-⟩:=zca 7 hb
   exact .inr ⟨rfl,.inr ⟨rfl,.inl (by dsimp only;omega)⟩⟩
theorem zwi {t:Tg}:∀k,(toD L t fr k).Pairwise ltE:=by
 intro k
 induction k with
 | zero=>exact List.Pairwise.nil
 | succ k ih =>
   refine List.pairwise_append.2 ⟨ih,ztc 33,fun a ha b hb=>?_⟩
   obtain⟨o,y,x,hy,rfl,-⟩:=zhw k ha
   obtain⟨u,z,hz,rfl,-⟩:=zh0 33 hb
   exact .inr ⟨rfl,.inl (by dsimp only;omega)⟩
theorem zu4 {t:Tg}:∀k,(frD L t k).Pairwise ltE:=by
 intro k
 induction k with
 | zero=>exact List.Pairwise.nil
 | succ k ih =>
   refine List.pairwise_append.2 ⟨ih,zwi _,fun a ha b hb=>?_⟩
   obtain⟨f,o,y,x,hy,-,rfl,-⟩:=za2 k ha
   obtain⟨v,u,z,hz,rfl,-⟩:=zhw _ hb
   exact .inl (by dsimp only;omega)
theorem zuw {n:Int} {fr:Int} (h:yH m n to s=true) (hl:zfj s fr 0=true):fr<to:=by
 obtain⟨i,hi,hp⟩:=XY.1 hl
 unfold zd7 at hp
 rw [Bool.and_eq_true,decide_eq_true_eq,decide_eq_true_eq] at hp
 have key:∀a b,yN n to a b=true->a=fr->b=0->fr<to:=fun a b h1 h2 h3=>by
  unfold yN at h1
  rw [Bool.and_eq_true] at h1
  have h4:=zx.1 h1.2
  rw [if_pos h3] at h4
  omega
 unfold yH at h
 by_cases h4:s.o=4
 ·rw [if_neg (by omega),if_neg (by omega),if_neg (by omega),if_pos h4] at h
  simp only [Bool.and_eq_true] at h
  have e:zj s=[(s.xa,s.xb)]:=by unfold zj;rw [if_pos h4]
  rw [e] at hi hp
  have hi0:i=0:=by have:i<1:=hi;omega
  subst hi0
  exact key _ _ h.2 hp.1 hp.2
 ·by_cases h10:10<s.o
  ·have e:zj s=[(s.xa,s.xb),(s.ya,s.yb)]:=by unfold zj;rw [if_neg h4,if_pos h10]
   rw [e] at hi hp
   rw [if_neg (by omega),if_neg (by omega),if_neg (by omega),if_neg h4] at h
   split at h
   ·simp only [Bool.and_eq_true] at h
    have hi0:i=0\/i=1:=by have:i<2:=hi;omega
    rcases hi0 with rfl | rfl
    ·exact key _ _ h.1.2 hp.1 hp.2
    ·exact key _ _ h.2 hp.1 hp.2
   ·exact Bool.noConfusion h
  ·have e:zj s=[]:=by unfold zj;rw [if_neg h4,if_neg h10]
   rw [e] at hi
   exact absurd hi (Nat.not_lt_zero _)
theorem ya4 {t:Tg} {x:Nat} (hm:zY L=true) (hto:to<L.b.length) (h:isD L t fr to 0 x=true):fr<to:=by
 obtain⟨m1,m2,m3,m4,m5,m6,m7⟩:=zw hm
 have hs:=zo m7 to hto
 unfold isD at h
 rcases Bool.or_eq_true_iff.1 h with h | h
 ·rw [Bool.and_eq_true] at h
  have:=zuw hs h.1
  omega
 ·simp only [Bool.and_eq_true] at h
  have h1:=h.2
  unfold ZM at h1
  simp only [Bool.and_eq_true,decide_eq_true_eq] at h1
  have h2:=h1.1.1.1
  unfold Z4 at h2
  split at h2 <;> omega
theorem zpz {t:Tg} {e:Ed} (hm:zY L=true) (h:e∈zi L t):∃fr to bk wt:Nat,e=⟨fr,to,bk,wt⟩/\fr<L.b.length/\to<L.b.length/\(bk=0->fr<to):=by
 obtain⟨fr,to,bk,x,h1,h2,h3,h4⟩:=za2 _ h
 exact⟨fr,to,bk,x,h3,h1,h2,fun e0=>ya4 hm h2 (by rw [<-e0];exact h4)⟩
def ZX (D:List Du) (j:Int):List Du:=D.filter fun d=>decide (d.at_ % 6=j)
def Win (now:Int) (D:List Du):Prop:=∀d∈D,now<=d.at_/\d.at_<=now+5
def UB (l:List Du) (f:Nat->Int):Nat->Nat->Int
 | 0=>f
 | k+1=>YH (UB l f k) (yK l k).rg.toNat (yK l k).v
theorem zfg (D:List Du) (d:Du) (j:Int):ZX (D++[d]) j=if d.at_ % 6=j then ZX D j++[d] else ZX D j:=by
 unfold ZX
 rw [List.filter_append]
 by_cases h:d.at_ % 6=j
 ·rw [if_pos h];simp [h]
 ·rw [if_neg h];simp [h]
theorem zui {D:List Du} (h:Win now D):ZX D (now % 6)=D.filter fun d=>decide (d.at_=now):=by
 unfold ZX
 refine List.filter_congr fun d hd=>?_
 have h1:=h d hd
 by_cases e:d.at_=now
 ·rw [decide_eq_true e,e,decide_eq_true rfl]
 ·rw [decide_eq_false e,decide_eq_false (by omega)]
theorem zav (D E:List Du) (k:Nat) (h:k<D.length):yK (D++E) k=yK D k:=by
 unfold yK;simp [List.getD,List.getElem?_append,h]
theorem zct (D:List Du) (d:Du):yK (D++[d]) D.length=d:=by
 unfold yK;simp [List.getD]
theorem zqk (now:Int) (D E:List Du) (f:Nat->Int):∀k,k<=D.length->xx now (D++E) f k=xx now D f k:=by
 intro k
 induction k with
 | zero=>exact fun _=>rfl
 | succ k ih =>
   intro hk
   show (if (yK (D++E) k).at_=now then _ else _)=(if (yK D k).at_=now then _ else _)
   rw [zav _ _ _ (by omega),ih (by omega)]
theorem zs3 (now:Int) (D E:List Du):∀k,k<=D.length->yR now (D++E) k=yR now D k:=by
 intro k
 induction k with
 | zero=>exact fun _=>rfl
 | succ k ih =>
   intro hk
   show (if (yK (D++E) k).at_=now then _ else _)=(if (yK D k).at_=now then _ else _)
   rw [zav _ _ _ (by omega),ih (by omega)]
theorem zrp (D E:List Du) (f:Nat->Int):∀k,k<=D.length->UB (D++E) f k=UB D f k:=by
 intro k
 induction k with
 | zero=>exact fun _=>rfl
 | succ k ih =>
   intro hk
   show YH (UB (D++E) f k) (yK (D++E) k).rg.toNat (yK (D++E) k).v=YH (UB D f k) (yK D k).rg.toNat (yK D k).v
   rw [zav _ _ _ (by omega),ih (by omega)]
theorem zbr {α:Type} {p:List α->Prop} (h0:p []) (hs:∀l a,p l->p (l++[a])) (l:List α):p l:=by
 rw [<-List.reverse_reverse l]
 induction l.reverse with
 | nil=>exact h0
 | cons a r ih=>rw [List.reverse_cons];exact hs _ _ ih
theorem zj9 (now:Int) (D:List Du) (f:Nat->Int):xx now D f D.length=UB (D.filter fun d=>decide (d.at_=now)) f (D.filter fun d=>decide (d.at_=now)).length:=by
 refine zbr (p:=fun D=>xx now D f D.length=UB (D.filter fun d=>decide (d.at_=now)) f (D.filter fun d=>decide (d.at_=now)).length) rfl (fun l d ih=>?_) D
 rw [List.length_append,List.filter_append]
 show (if (yK (l++[d]) l.length).at_=now then YH (xx now (l++[d]) f l.length) (yK (l++[d]) l.length).rg.toNat (yK (l++[d]) l.length).v else xx now (l++[d]) f l.length)=_
 rw [zct,zqk _ _ _ _ _ (Nat.le_refl _),ih]
 by_cases e:d.at_=now
 ·have h1:([d].filter fun d=>decide (d.at_=now))=[d]:=by simp [e]
  rw [if_pos e,h1,List.length_append]
  show _=YH (UB (_++[d]) f (l.filter fun d=>decide (d.at_=now)).length) (yK (_++[d]) (l.filter fun d=>decide (d.at_=now)).length).rg.toNat (yK (_++[d]) (l.filter fun d=>decide (d.at_=now)).length).v
  rw [zct,zrp _ _ _ _ (Nat.le_refl _)]
 ·have h1:([d].filter fun d=>decide (d.at_=now))=[]:=by simp [e]
  rw [if_neg e,h1,List.append_nil]
theorem VK (now:Int) (D:List Du):yR now D D.length=D.filter fun d=>!decide (d.at_=now):=by
 refine zbr (p:=fun D=>yR now D D.length=D.filter fun d=>!decide (d.at_=now)) rfl (fun l d ih=>?_) D
 rw [List.length_append,List.filter_append]
 show (if (yK (l++[d]) l.length).at_=now then yR now (l++[d]) l.length else yR now (l++[d]) l.length++[yK (l++[d]) l.length])=_
 rw [zct,zs3 _ _ _ _ (Nat.le_refl _),ih]
 by_cases e:d.at_=now
 ·rw [if_pos e];simp [e]
 ·rw [if_neg e];simp [e]
theorem zqj {D:List Du} (h:Win now D) (f:Nat->Int):xx now D f D.length=UB (ZX D (now % 6)) f (ZX D (now % 6)).length:=by
 rw [zj9,zui h]
theorem zg3 {D:List Du} (h:Win now D) (j:Int):ZX (yR now D D.length) j=if j=now % 6 then [] else ZX D j:=by
 rw [VK]
 unfold ZX
 rw [List.filter_filter]
 by_cases e:j=now % 6
 ·rw [if_pos e,List.filter_eq_nil_iff]
  intro d hd
  have h1:=h d hd
  simp only [Bool.and_eq_true,decide_eq_true_eq,Bool.not_eq_true',decide_eq_false_iff_not]
  omega
 ·rw [if_neg e]
  refine List.filter_congr fun d hd=>?_
  by_cases e2:d.at_ % 6=j
  ·rw [decide_eq_true e2,decide_eq_false (by omega)];rfl
  ·rw [decide_eq_false e2];rfl
theorem zw4 {D:List Du} (h:Win now D):∀d∈yR now D D.length,now+1<=d.at_/\d.at_<=now+1+5:=by
 intro d hd
 rw [VK,List.mem_filter] at hd
 have h1:=h d hd.1
 have h2:¬d.at_=now:=by simpa using hd.2
 omega
def yv (l:List Kop) (s:Int):List Kop:=l.filter fun x=>decide (x.sl=s)
def Xf (t:Tg) (logs:List Int) (pc gD now:Int) (f:Nat->Int) (m:Nat->Nat->Int) (q:Nx) (l:List Kop):Nx:=l.foldl (opK t logs pc gD now f m) q
theorem zmk (t:Tg) (K:Kn) (logs:List Int) (gD now:Int) (f:Nat->Int) (m:Nat->Nat->Int) (q:Nx):∀k,k<=K.ops.length->YF t K logs gD now f m q k=Xf t logs K.pc gD now f m q (K.ops.take k):=by
 intro k
 induction k with
 | zero=>intro _;rfl
 | succ k ih =>
   intro hk
   show opK t logs K.pc gD now f m (YF t K logs gD now f m q k) (zp K.ops k)=_
   rw [ih (by omega)]
   unfold Xf
   rw [List.take_add_one,List.foldl_append]
   have h1:K.ops[k]?=some (zp K.ops k):=by unfold zp;rw [List.getD,List.getElem?_eq_getElem (by omega)];rfl
   rw [h1]
   rfl
theorem zrc (t:Tg) (logs:List Int) (pc gD now:Int) (f:Nat->Int) (m:Nat->Nat->Int):∀(l:List Kop) (q:Nx),Xf t logs pc gD now f m q l=Xf t logs pc gD now f m q (yv l (now % pc)):=by
 intro l
 induction l with
 | nil=>exact fun _=>rfl
 | cons x l ih =>
   intro q
   show Xf t logs pc gD now f m (opK t logs pc gD now f m q x) l=_
   by_cases e:x.sl=now % pc
   ·have h1:yv (x :: l) (now % pc)=x :: yv l (now % pc):=by unfold yv;simp [e]
    rw [h1,ih];rfl
   ·have h1:yv (x :: l) (now % pc)=yv l (now % pc):=by unfold yv;simp [e]
    have h2:opK t logs pc gD now f m q x=q:=by
     unfold opK YJ
     rw [decide_eq_false e];rfl
    rw [h1,h2,ih]
theorem zrb (t:Tg) (K:Kn) (logs:List Int) (gD now:Int) (f:Nat->Int) (m:Nat->Nat->Int) (q:Nx):YF t K logs gD now f m q K.ops.length=Xf t logs K.pc gD now f m q (yv K.ops (now % K.pc)):=by
 rw [zmk _ _ _ _ _ _ _ _ _ (Nat.le_refl _),List.take_length,zrc]
theorem zfw (t:Tg) (logs:List Int) (pc gD now:Int) (f:Nat->Int) (m:Nat->Nat->Int) (q:Nx) (l:List Kop) (k:Nat) (h:k<l.length):Xf t logs pc gD now f m q (l.take (k+1))=opK t logs pc gD now f m (Xf t logs pc gD now f m q (l.take k)) (zp l k):=by
 unfold Xf
 rw [List.take_add_one,List.foldl_append]
 have h1:l[k]?=some (zp l k):=by unfold zp;rw [List.getD,List.getElem?_eq_getElem h];rfl
 rw [h1]
 rfl
theorem zsb (l:List Kop) (k:Nat) (s:Int) (h:k<l.length):yv (l.take (k+1)) s=if (zp l k).sl=s then yv (l.take k) s++[zp l k] else yv (l.take k) s:=by
 have h1:l[k]?=some (zp l k):=by unfold zp;rw [List.getD,List.getElem?_eq_getElem h];rfl
 unfold yv
 rw [List.take_add_one,h1,List.filter_append]
 by_cases e:(zp l k).sl=s
 ·rw [if_pos e];simp [e]
 ·rw [if_neg e];simp [e]
theorem zox {l:List Kop} {s:Int} {x:Kop} (h:x∈yv l s):x∈l/\x.sl=s:=by
 unfold yv at h
 rw [List.mem_filter] at h
 exact⟨h.1,by simpa using h.2⟩
structure Sto where
 i:Nat
 j:Nat
 v:Int
def zT (l:List Sto) (k:Nat):Sto:=l.getD k ⟨0,0,0⟩
def zer (l:List Sto) (m:Nat->Nat->Int):Nat->Nat->Nat->Int
 | 0=>m
 | k+1=>xE (zer l m k) (zT l k).i (zT l k).j (zT l k).v
theorem zdw (l r:List Sto) (k:Nat) (h:k<l.length):zT (l++r) k=zT l k:=by
 unfold zT;simp [List.getD,List.getElem?_append,h]
theorem zgd (l:List Sto) (d:Sto):zT (l++[d]) l.length=d:=by
 unfold zT;simp [List.getD]
theorem zsm (l r:List Sto) (m:Nat->Nat->Int):∀k,k<=l.length->zer (l++r) m k=zer l m k:=by
 intro k
 induction k with
 | zero=>exact fun _=>rfl
 | succ k ih =>
   intro hk
   show xE (zer (l++r) m k) (zT (l++r) k).i (zT (l++r) k).j (zT (l++r) k).v=xE (zer l m k) (zT l k).i (zT l k).j (zT l k).v
   rw [zdw _ _ _ (by omega),ih (by omega)]
theorem zsn (l:List Sto) (d:Sto) (m:Nat->Nat->Int):zer (l++[d]) m (l++[d]).length=xE (zer l m l.length) d.i d.j d.v:=by
 rw [List.length_append]
 show xE (zer (l++[d]) m l.length) (zT (l++[d]) l.length).i (zT (l++[d]) l.length).j (zT (l++[d]) l.length).v=_
 rw [zgd,zsm _ _ _ _ (Nat.le_refl _)]
def YA (t:Tg) (logs:List Int) (pc gD now:Int) (f:Nat->Int) (m:Nat->Nat->Int) (l:List Kop):List Sto :=
 (l.filter fun x=>YJ pc gD now x && decide (x.o=4)).map fun x=>⟨x.ar.toNat,Y0 logs pc now x,UK logs t.r pc now f m x⟩
theorem zge (t:Tg) (logs:List Int) (pc gD now:Int) (f:Nat->Int) (m:Nat->Nat->Int) (l:List Kop) (k:Nat) (h:k<l.length):YA t logs pc gD now f m (l.take (k+1)) =
  if YJ pc gD now (zp l k)=true/\(zp l k).o=4 then YA t logs pc gD now f m (l.take k)++[⟨(zp l k).ar.toNat,Y0 logs pc now (zp l k),UK logs t.r pc now f m (zp l k)⟩] else YA t logs pc gD now f m (l.take k):=by
 have h1:l[k]?=some (zp l k):=by unfold zp;rw [List.getD,List.getElem?_eq_getElem h];rfl
 unfold YA
 rw [List.take_add_one,h1,List.filter_append,List.map_append]
 by_cases e:YJ pc gD now (zp l k)=true/\(zp l k).o=4
 ·rw [if_pos e];simp [e.1,e.2]
 ·rw [if_neg e]
  have h2:(YJ pc gD now (zp l k) && decide ((zp l k).o=4))=false:=by
   rw [Bool.and_eq_false_iff]
   by_cases e1:YJ pc gD now (zp l k)=true
   ·exact .inr (decide_eq_false fun e2=>e ⟨e1,e2⟩)
   ·exact .inl (by simpa using e1)
  simp [h2]
theorem zy9 (t:Tg) (logs:List Int) (pc gD now:Int) (f:Nat->Int) (m:Nat->Nat->Int) (du:List Du) (l:List Kop):∀k,k<=l.length->(Xf t logs pc gD now f m ⟨m,du⟩ (l.take k)).nx=zer (YA t logs pc gD now f m (l.take k)) m (YA t logs pc gD now f m (l.take k)).length:=by
 intro k
 induction k with
 | zero=>intro _;rfl
 | succ k ih =>
   intro hk
   rw [zfw _ _ _ _ _ _ _ _ _ _ hk,zge _ _ _ _ _ _ _ _ _ hk]
   have ih':=ih (by omega)
   by_cases e1:YJ pc gD now (zp l k)=true
   ·by_cases e2:(zp l k).o=4
    ·rw [if_pos (show YJ pc gD now (zp l k)=true/\(zp l k).o=4 from ⟨e1,e2⟩),zsn,<-ih']
     unfold opK
     rw [if_pos e1]
     show (if (zp l k).o=4 then _ else _)=_
     rw [if_pos e2]
    ·rw [if_neg (show ¬(YJ pc gD now (zp l k)=true/\(zp l k).o=4) from fun h=>e2 h.2),<-ih']
     unfold opK
     rw [if_pos e1]
     show (if (zp l k).o=4 then _ else _)=_
     rw [if_neg e2]
   ·rw [if_neg (show ¬(YJ pc gD now (zp l k)=true/\(zp l k).o=4) from fun h=>e1 h.1),<-ih']
    unfold opK
    rw [if_neg e1]
end Go.Proofs.YtjoapiafpahihabGreat
