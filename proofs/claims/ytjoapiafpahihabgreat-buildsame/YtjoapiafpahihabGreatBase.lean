import Derived.Laws.BitsLemmas
import Derived.WalkKit
import Derived.Below
import Derived.Deep.OwnRows
import Derived.Lib.SmallJoins
import Derived.Deep.RegionHeld3
import Derived.WideKeyEntry
import Derived.Maps.Own
import Derived.Maps.Views
namespace Go.Proofs.YtjoapiafpahihabGreat
abbrev iV (x:Int):Value:=.int .i64 x
end Go.Proofs.YtjoapiafpahihabGreat
namespace Go.Proofs.YtjoapiafpahihabGreat.NumMath
open Go.RowKit (wrap64)
def zse (a:Int) (k:Nat):Int:=a / ((2 ^ k:Nat):Int)
def low (X:Nat) (k:Nat):Int:=wrap64 ((X % 2 ^ k:Nat):Int)
def pow (k:Nat):Int:=wrap64 ((2 ^ k:Nat):Int)
def word (a:Int):Nat:=(a % 18446744073709551616).toNat
theorem zs8 (a:Int):zse a 0=a:=by simp [zse]
theorem zs7 (a:Int) (k:Nat):zse a (k+1)=zse a k / 2:=by
 unfold zse
 rw [Nat.pow_succ,Int.natCast_mul,<-Int.ediv_ediv_of_nonneg (Int.natCast_nonneg _)]
 rfl
theorem zte (X:Nat):low X 0=0:=by simp [low,wrap64,Nat.mod_one]
theorem zti:pow 0=1:=by simp [pow,wrap64]
theorem zui (x y:Int):wrap64 (wrap64 x+wrap64 y)=wrap64 (x+y):=by unfold wrap64;omega
theorem pow_succ (k:Nat):wrap64 (pow k+pow k)=pow (k+1):=by
 unfold pow;rw [zui];congr 1;rw [Nat.pow_succ];omega
theorem zru (X k:Nat) (h:X / 2 ^ k % 2=1):wrap64 (low X k+pow k)=low X (k+1):=by
 unfold low pow;rw [zui,Nat.mod_pow_succ,h];congr 1;omega
theorem zsd (X k:Nat) (h:X / 2 ^ k % 2=0):low X k=low X (k+1):=by
 unfold low;rw [Nat.mod_pow_succ,h];congr 1
theorem zs6 (a:Int) (k:Nat) (h1:-9223372036854775808<=a) (h2:a<=9223372036854775807):-9223372036854775808<=zse a k/\zse a k<=9223372036854775807:=by
 induction k with
 | zero=>rw [zs8];exact⟨h1,h2⟩
 | succ k ih=>rw [zs7];omega
theorem zsi (a:Int) (k:Nat) (hk:k<64):((word a / 2 ^ k % 2:Nat):Int)=zse a k % 2:=by
 obtain⟨j,hj⟩:∃j,64=k+(j+1):=⟨63 - k,by omega⟩
 have hp:(18446744073709551616:Int)=((2 ^ k:Nat):Int)*(((2 ^ j:Nat):Int)*2):=by
  have:(18446744073709551616:Nat)=2 ^ k*(2 ^ j*2):=by
   rw [<-Nat.pow_succ,<-Nat.pow_add,<-hj]
  rw [show (18446744073709551616:Int)=((18446744073709551616:Nat):Int) from rfl,this,Int.natCast_mul,Int.natCast_mul]
  rfl
 have hc:((word a:Nat):Int)=a % 18446744073709551616:=by unfold word;omega
 have hpk:(0:Int)<((2 ^ k:Nat):Int):=Int.natCast_pos.2 (Nat.two_pow_pos k)
 rw [Int.natCast_emod,Int.natCast_ediv,hc]
 unfold zse
 generalize ((2 ^ k:Nat):Int)=P at *
 generalize ((2 ^ j:Nat):Int)=J at *
 have hd:=Int.emod_add_mul_ediv a 18446744073709551616
 generalize a / 18446744073709551616=q at *
 generalize hr:a % 18446744073709551616=r at *
 have:a / P=r / P+J*q*2:=by
  rw [<-hd,hp,show P*(J*2)*q=(J*q*2)*P by grind,Int.add_mul_ediv_right _ _ (by omega)]
 rw [this]
 show r / P % 2=_
 omega
theorem zwo (A B k:Nat):(A &&& B) / 2 ^ k % 2=(A / 2 ^ k % 2) &&& (B / 2 ^ k % 2):=by
 rw [Nat.and_div_two_pow]
 exact Nat.and_mod_two_pow (n:=1)
theorem zwz (A B k:Nat):(A ||| B) / 2 ^ k % 2=(A / 2 ^ k % 2) ||| (B / 2 ^ k % 2):=by
 rw [Nat.or_div_two_pow]
 exact Nat.or_mod_two_pow (n:=1)
theorem zwx (A B k:Nat):(A ^^^ B) / 2 ^ k % 2=(A / 2 ^ k % 2) ^^^ (B / 2 ^ k % 2):=by
 rw [Nat.xor_div_two_pow]
 exact Nat.xor_mod_two_pow (n:=1)
theorem zre:((2 ^ 64:Nat):Int)=18446744073709551616:=by decide
theorem zi3 (a:Int):word a<2 ^ 64:=by unfold word;omega
theorem zhk (X:Nat) (h:X<2 ^ 64):low X 64=wrap64 (X:Int):=by unfold low;rw [Nat.mod_eq_of_lt h]
theorem bits_and (a b:Int):bits .and .i64 a b=low (word a &&& word b) 64:=by
 rw [zhk _ (Nat.and_lt_two_pow _ (zi3 b))]
 show IntKind.i64.wrap ((BitVec.ofInt 64 a &&& BitVec.ofInt 64 b).toNat:Nat)=_
 rw [BitVec.toNat_and,BitVec.toNat_ofInt,BitVec.toNat_ofInt,IntKind.wrap_i64,zre]
 unfold word wrap64
 rfl
theorem bits_or (a b:Int):bits .or .i64 a b=low (word a ||| word b) 64:=by
 rw [zhk _ (Nat.or_lt_two_pow (zi3 a) (zi3 b))]
 show IntKind.i64.wrap ((BitVec.ofInt 64 a ||| BitVec.ofInt 64 b).toNat:Nat)=_
 rw [BitVec.toNat_or,BitVec.toNat_ofInt,BitVec.toNat_ofInt,IntKind.wrap_i64,zre]
 unfold word wrap64
 rfl
theorem bits_xor (a b:Int):bits .xor .i64 a b=low (word a ^^^ word b) 64:=by
 rw [zhk _ (Nat.xor_lt_two_pow (zi3 a) (zi3 b))]
 show IntKind.i64.wrap ((BitVec.ofInt 64 a ^^^ BitVec.ofInt 64 b).toNat:Nat)=_
 rw [BitVec.toNat_xor,BitVec.toNat_ofInt,BitVec.toNat_ofInt,IntKind.wrap_i64,zre]
 unfold word wrap64
 rfl
theorem i64_mask (n:Int) (k:Nat) (hk:k<63):bits .and .i64 n (((2 ^ k:Nat):Int) - 1)=n % ((2 ^ k:Nat):Int):=by
 obtain⟨j,hj⟩:∃j,64=k+(j+1):=⟨63 - k,by omega⟩
 have hN:(18446744073709551616:Nat)=2 ^ k*(2 ^ j*2):=by
  rw [<-Nat.pow_succ,<-Nat.pow_add,<-hj]
 have hlt:2 ^ k<2 ^ 63:=Nat.pow_lt_pow_right (by omega) hk
 have hpk:=Nat.two_pow_pos k
 have hw:word (((2 ^ k:Nat):Int) - 1)=2 ^ k - 1:=by unfold word;omega
 rw [bits_and,zhk _ (Nat.and_lt_two_pow _ (zi3 _)),hw,Nat.and_two_pow_sub_one_eq_mod]
 have hm:((word n % 2 ^ k:Nat):Int)=n % ((2 ^ k:Nat):Int):=by
  rw [Int.natCast_emod]
  have hc:((word n:Nat):Int)=n % 18446744073709551616:=by unfold word;omega
  have hp:(18446744073709551616:Int)=((2 ^ k:Nat):Int)*(((2 ^ j:Nat):Int)*2):=by
   rw [show (18446744073709551616:Int)=((18446744073709551616:Nat):Int) from rfl,hN,Int.natCast_mul,Int.natCast_mul]
   rfl
  rw [hc,hp];exact Int.emod_emod_of_dvd n ⟨_,rfl⟩
 rw [hm]
 have h1:=Int.emod_nonneg n (show ((2 ^ k:Nat):Int)≠0 by omega)
 have h2:=Int.emod_lt_of_pos n (show (0:Int)<((2 ^ k:Nat):Int) by omega)
 unfold wrap64
 omega
end Go.Proofs.YtjoapiafpahihabGreat.NumMath
namespace Go.Proofs.YtjoapiafpahihabGreat
open Go.RowKit
set_option linter.unusedVariables false
structure St where
 o:Int
 xa:Int
 xb:Int
 ya:Int
 yb:Int
 ar:Int
 sp:Int
 pl:Int
 nn:Int
structure Lp where
 logs:List Int
 body:List St
 outs:List Int
def St.nil:St:=⟨0,0,0,0,0,0,0,0,0⟩
def nth (l:List Int) (i:Nat):Int:=l.getD i 0
def z6 (l:List St) (i:Nat):St:=l.getD i St.nil
def inR (n lo hi:Int):Bool:=decide (lo<=n/\n<=hi)
theorem zK {n lo hi:Int} (h:lo<=n/\n<=hi):inR n lo hi=true:=decide_eq_true h
theorem Z3 {n lo hi:Int} (h:¬(lo<=n/\n<=hi)):inR n lo hi=false:=decide_eq_false h
theorem zo {n lo hi:Int}:inR n lo hi=true↔lo<=n/\n<=hi:=by unfold inR;simp
def yg (n k at_ back:Int):Bool:=inR back 0 3 && inR at_ 0 (if back=0 then k - 1 else n - 1)
def yy (m ar sp pl:Int):Bool:=inR ar 0 (m - 1) && inR sp (-64) 64 && inR pl (-64) 64
def yd (m n k:Int) (s:St):Bool :=
 if s.o=1 then decide (s.xa=0/\s.xb=0/\s.ya=0/\s.yb=0/\s.ar=0/\s.sp=0/\s.pl=0)
 else if s.o=2 then decide (s.xa=0/\s.xb=0/\s.ya=0/\s.yb=0/\s.ar=0/\s.sp=0/\s.pl=0/\s.nn=0)
 else if s.o=3 then decide (s.xa=0/\s.xb=0/\s.ya=0/\s.yb=0/\s.nn=0) && yy m s.ar s.sp s.pl
 else if s.o=4 then decide (s.ya=0/\s.yb=0/\s.nn=0) && yy m s.ar s.sp s.pl && yg n k s.xa s.xb
 else if 11<=s.o/\s.o<=18 then decide (s.ar=0/\s.sp=0/\s.pl=0/\s.nn=0) && yg n k s.xa s.xb && yg n k s.ya s.yb
 else false
def zh (p:Nat->Bool):Nat->Bool
 | 0=>true
 | k+1=>zh p k && p k
theorem zl {p:Nat->Bool} {n:Nat} (h:zh p n=true):∀k,k<n->p k=true:=by
 induction n with
 | zero=>intro k hk;omega
 | succ m ih =>
   intro k hk
   have h2:zh p m=true/\p m=true:=by simpa [zh] using h
   by_cases e:k=m
   ·rw [e];exact h2.2
   ·exact ih h2.1 k (by omega)
theorem zN {p:Nat->Bool} {n:Nat} (h:∀k,k<n->p k=true):zh p n=true:=by
 induction n with
 | zero=>rfl
 | succ m ih =>
   have h1:=ih fun k hk=>h k (by omega)
   have h2:=h m (by omega)
   show (zh p m && p m)=true
   rw [h1,h2];rfl
theorem zw {p:Nat->Bool} {n k:Nat} (hk:k<n) (h:p k=false):zh p n=false:=by
 cases e:zh p n with
 | false=>rfl
 | true=>rw [zl e k hk] at h;exact Bool.noConfusion h
theorem yw {p:Nat->Bool} {k:Nat} (h:zh p k=true) (hk:p k=true):zh p (k+1)=true:=by
 show (zh p k && p k)=true
 rw [h,hk];rfl
def zdd (z:Int):Bool:=inR z 0 5
def Z5 (l:List Int):Bool:=zh (fun i=>zdd (nth l i)) l.length
def zfy (l:List Int):Nat->Int
 | 0=>-1
 | i+1=>nth l i
def YJ (n:Int) (l:List Int) (i:Nat):Bool:=inR (nth l i) (zfy l i+1) (n - 1)
def Z9 (n:Int) (l:List Int):Bool:=zh (YJ n l) l.length
def xN (L:Lp):Bool:=zh (fun k=>yd L.logs.length L.body.length k (z6 L.body k)) L.body.length
def zx (L:Lp):Bool :=
 decide (L.logs.length<=3) && decide (1<=L.body.length) && decide (L.body.length<=16) && Z5 L.logs && Z9 L.body.length L.outs && xN L
theorem ZG (n:Int) (l:List Int) (k:Nat) (hn:0<=n) (h:zh (YJ n l) k=true):(k:Int) - 1<=zfy l k/\zfy l k<=n - 1:=by
 induction k with
 | zero=>show ((0:Nat):Int) - 1<=-1/\(-1:Int)<=n - 1;omega
 | succ j ih =>
   have h1:=ih (zN fun i hi=>zl h i (by omega))
   have h2:=zo.1 (zl h j (by omega))
   show ((j+1:Nat):Int) - 1<=nth l j/\nth l j<=n - 1
   omega
theorem zdn (n:Nat) (l:List Int) (h:Z9 n l=true):l.length<=n:=by
 have h1:=ZG n l l.length (by omega) h
 omega
theorem zjm {n:Int} {l:List Int} {k:Nat} (hn:0<=n) (ha:zh (YJ n l) k=true) (h:YJ n l k=true):inR (nth l k) 0 (n - 1)=true/\(0<k->¬nth l k<=nth l (k - 1)):=by
 have h1:=ZG n l k hn ha
 have h2:=zo.1 h
 refine⟨zK (by omega),fun hk=>?_⟩
 cases k with
 | zero=>omega
 | succ j=>have h3:nth l j+1<=nth l (j+1):=h2.1;simp only [Nat.add_sub_cancel];omega
theorem zmt {n:Int} {l:List Int} {k:Nat} (h:YJ n l k=false):inR (nth l k) 0 (n - 1)=false\/inR (nth l k) 0 (n - 1)=true/\0<k/\nth l k<=nth l (k - 1):=by
 cases h1:inR (nth l k) 0 (n - 1) with
 | false=>exact .inl rfl
 | true =>
   have h2:=zo.1 h1
   refine .inr ⟨rfl,?_⟩
   cases k with
   | zero=>exact absurd h (by rw [show YJ n l 0=true from zK (by show (-1:Int)+1<=nth l 0/\nth l 0<=n - 1;omega)];exact Bool.noConfusion)
   | succ j =>
     refine⟨by omega,?_⟩
     simp only [Nat.add_sub_cancel]
     by_cases h3:nth l (j+1)<=nth l j
     ·exact h3
     ·exact absurd h (by rw [show YJ n l (j+1)=true from zK (by show nth l j+1<=nth l (j+1)/\nth l (j+1)<=n - 1;omega)];exact Bool.noConfusion)
theorem zmb (L:Lp) (h1:L.logs.length<=3) (h2:1<=L.body.length) (h3:L.body.length<=16):zx L=(Z5 L.logs && Z9 L.body.length L.outs && xN L):=by
 unfold zx;rw [decide_eq_true h1,decide_eq_true h2,decide_eq_true h3];rfl
theorem Xq (L:Lp) (h:¬L.logs.length<=3\/¬1<=L.body.length\/¬L.body.length<=16\/¬L.outs.length<=16):zx L=false:=by
 cases e:zx L with
 | false=>rfl
 | true =>
   unfold zx at e
   simp only [Bool.and_eq_true,decide_eq_true_eq] at e
   obtain⟨⟨⟨⟨⟨e1,e2⟩,e3⟩,e4⟩,e5⟩,e6⟩:=e
   have:=zdn _ _ e5
   omega
theorem zj {L:Lp} (e:zx L=true):L.logs.length<=3/\1<=L.body.length/\L.body.length<=16/\L.outs.length<=16/\Z5 L.logs=true/\Z9 L.body.length L.outs=true/\xN L=true:=by
 unfold zx at e
 simp only [Bool.and_eq_true,decide_eq_true_eq] at e
 obtain⟨⟨⟨⟨⟨e1,e2⟩,e3⟩,e4⟩,e5⟩,e6⟩:=e
 have:=zdn _ _ e5
 exact⟨e1,e2,e3,by omega,e4,e5,e6⟩
def VC (l:List (List Int)) (i:Nat):List Int:=l.getD i []
def zrx (L:Lp) (B M:List (List Int)):Bool :=
 zx L && decide (B.length=L.body.length) && decide (M.length=L.logs.length)
  && zh (fun i=>decide ((VC B i).length=3)) B.length && zh (fun i=>decide ((VC M i).length=2 ^ (nth L.logs i).toNat)) M.length
end Go.Proofs.YtjoapiafpahihabGreat
namespace Go.Proofs.YtjoapiafpahihabGreat
set_option linter.unusedVariables false
def zs2 (n:Nat):Nat:=if n=1 then 0 else if n=2 then 1 else if n=4 then 2 else if n=8 then 3 else if n=16 then 4 else if n=32 then 5 else 6
def zuo (r:List Int):Bool:=decide (zs2 r.length<6)
def zs3 (M:List (List Int)):Bool:=zh (fun i=>zuo (VC M i)) M.length
def zrp (M:List (List Int)):List Int:=(List.range M.length).map fun i=>(zs2 (VC M i).length:Int)
theorem zry (M:List (List Int)):(zrp M).length=M.length:=by unfold zrp;simp
theorem zsk (M:List (List Int)) (i:Nat) (h:i<M.length):nth (zrp M) i=(zs2 (VC M i).length:Int):=by unfold zrp nth;simp [List.getD,h]
theorem zw8 (n:Nat):zs2 n<=6:=by
 unfold zs2
 repeat' split
 all_goals omega
theorem zw9 {n k:Nat} (hk:k<=5) (h:2 ^ k=n):zs2 n=k:=by
 subst h
 obtain rfl | rfl | rfl | rfl | rfl | rfl:k=0\/k=1\/k=2\/k=3\/k=4\/k=5:=by omega
 all_goals rfl
theorem zvh {n:Nat} (h:zs2 n<6):2 ^ zs2 n=n:=by
 unfold zs2 at *
 split
 ·subst_vars;rfl
 split
 ·subst_vars;rfl
 split
 ·subst_vars;rfl
 split
 ·subst_vars;rfl
 split
 ·subst_vars;rfl
 split
 ·subst_vars;rfl
 ·rename_i h1 h2 h3 h4 h5 h6
  rw [if_neg h1,if_neg h2,if_neg h3,if_neg h4,if_neg h5,if_neg h6] at h
  omega
theorem zus {n:Nat} (h:∀j,j<6->2 ^ j≠n):zs2 n=6:=by
 have h0:=h 0 (by omega)
 have h1:=h 1 (by omega)
 have h2:=h 2 (by omega)
 have h3:=h 3 (by omega)
 have h4:=h 4 (by omega)
 have h5:=h 5 (by omega)
 unfold zs2
 rw [if_neg (by omega),if_neg (by omega),if_neg (by omega),if_neg (by omega),if_neg (by omega),if_neg (by omega)]
end Go.Proofs.YtjoapiafpahihabGreat
namespace Go.Proofs.YtjoapiafpahihabGreat
open Go.RowKit Go.Joins
set_option linter.unusedVariables false
def zg (w:World) (g:Nat) (e:TypeId) (n:Nat) (f:Nat->Value):Prop :=
 ∃cur:Array Value,w.heap[g]?=some (.cells cur e (0,0))/\n<=cur.size/\∀i,i<n->cur[i]?=some (f i)
theorem zg.cell {w:World} {g:Nat} {e:TypeId} {n:Nat} {f:Nat->Value} (h:zg w g e n f) {i:Nat} (hi:i<n):w.cell? ⟨g,i,none⟩=some (f i):=by
 obtain⟨c,hb,_,hc⟩:=h
 simp [World.cell?,hb,hc i hi]
theorem zg.frozen {w:World} {g:Nat} {e:TypeId} {n:Nat} {f:Nat->Value} (h:zg w g e n f) (i:Nat):w.frozen? ⟨g,i,none⟩=false:=by
 obtain⟨c,hb,_,_⟩:=h
 simp [World.frozen?,hb]
theorem zg.lt {w:World} {g:Nat} {e:TypeId} {n:Nat} {f:Nat->Value} (h:zg w g e n f):g<w.heap.size:=by
 obtain⟨c,hb,_,_⟩:=h
 exact (Array.getElem?_eq_some_iff.1 hb).1
theorem zg.congr {w:World} {g:Nat} {e:TypeId} {n:Nat} {f f':Nat->Value} (h:zg w g e n f) (he:∀i,i<n->f i=f' i):zg w g e n f':=by
 obtain⟨c,hb,hn,hc⟩:=h
 exact⟨c,hb,hn,fun i hi=>by rw [hc i hi,he i hi]⟩
theorem zg.of_block {w w':World} {g:Nat} {e:TypeId} {n:Nat} {f:Nat->Value} (h:zg w g e n f) (he:w'.heap[g]?=w.heap[g]?):zg w' g e n f:=by
 obtain⟨c,hb,hn,hc⟩:=h
 exact⟨c,he.trans hb,hn,hc⟩
theorem zg.set {w:World} {g:Nat} {e:TypeId} {n:Nat} {f:Nat->Value} (h:zg w g e n f) (i:Nat) (v:Value) (hi:i<n):zg (w.setCell ⟨g,i,none⟩ v) g e n (fun j=>if j=i then v else f j):=by
 obtain⟨c,hb,hn,hc⟩:=h
 refine⟨c.setIfInBounds i v,?_,by simpa using hn,fun j hj=>?_⟩
 ·simp [World.setCell,Array.getElem?_modify,hb]
 ·rw [Array.getElem?_setIfInBounds]
  by_cases e:j=i
  ·subst e
   have:j<c.size:=by omega
   simp [this]
  ·rw [if_neg (fun h=>e h.symm)]
   show c[j]?=some (if j=i then v else f j)
   rw [if_neg e]
   exact hc j hj
theorem zg.setOther {w:World} {g:Nat} {e:TypeId} {n:Nat} {f:Nat->Value} (h:zg w g e n f) {a:Addr} (ha:g≠a.block) (v:Value):zg (w.setCell a v) g e n f :=
 h.of_block (Below.heap_setCell _ _ _ _ ha)
theorem zg.alloc {w:World} {g:Nat} {e:TypeId} {n:Nat} {f:Nat->Value} (h:zg w g e n f) (o:Obj):zg (w.alloc o) g e n f :=
 h.of_block (Below.heap_alloc _ _ _ h.lt)
theorem zg.drawn {w:World} {g:Nat} {e:TypeId} {n:Nat} {f:Nat->Value} (h:zg w g e n f) (k:Nat):zg (w.drewN k) g e n f:=h
theorem zg.grown {w w':World} {g:Nat} {e:TypeId} {n:Nat} {f:Nat->Value} {row:Option Nat} (h:zg w g e n f) (hg:w.grownBy w' row) (hr:some g≠row):zg w' g e n f :=
 h.of_block (hg.block g h.lt hr)
theorem zg.below {w w':World} {g B:Nat} {e:TypeId} {n:Nat} {f:Nat->Value} (h:zg w g e n f) (hb:Below B w w') (hg:g<B):zg w' g e n f :=
 h.of_block (hb.block g hg)
theorem zg.apart {w:World} {g g':Nat} {e e':TypeId} {n n':Nat} {f f':Nat->Value} (h:zg w g e n f) (h':zg w g' e' n' f') (he:e≠e'):g≠g':=by
 intro hg
 subst hg
 obtain⟨c,hb,_,_⟩:=h
 obtain⟨c',hb',_,_⟩:=h'
 rw [hb] at hb'
 have h1:=Option.some.inj hb'
 injection h1 with _ h2
 exact he h2
theorem zg.made (w:World) (c:Array Value) (e:TypeId) (n:Nat) (f:Nat->Value) (hn:n<=c.size) (hf:∀i,i<n->c[i]?=some (f i)):zg (w.alloc (.cells c e)) w.heap.size e n f :=
 ⟨c,by show (w.heap.push _)[w.heap.size]?=_;simp,hn,hf⟩
theorem zg.zeros (w:World) (z:Value) (n:Nat) (e:TypeId):zg (w.alloc (.cells (madeCells #[z] n) e)) w.heap.size e n (fun _=>z):=by
 obtain⟨c,hb,hn,hc⟩:=World.rowIs_made w z n e
 exact⟨c,hb,by omega,hc⟩
theorem Zs {w:World} {base:Nat} {e:TypeId} {v:Value} {n:Nat} {xs:List Value} (h:w.ownsRow base e 1 v n xs) (hv:v≠.slice none 0 0\/0<n) :
  ∃g cap,v=.slice (some ⟨g,0,none⟩) n cap/\base<=g/\n<=cap/\cap<=maxLen/\zg w g e n (fun i=>xs.getD i (.bool false)):=by
 obtain⟨hl,h⟩:=h
 rcases h with ⟨rfl,hn⟩ | ⟨g,cap,cur,rfl,hg,hb,hn,hm,hc,ht⟩
 ·rcases hv with hv | hv
  ·exact absurd rfl hv
  ·omega
 ·refine⟨g,cap,rfl,hg,hn,hm,cur,hb,by omega,fun i hi=>?_⟩
  have h1:(cur.toList.take (n*1))[i]?=xs[i]?:=by rw [ht]
  rw [List.getElem?_take,if_pos (by omega)] at h1
  have h2:cur.toList[i]?=cur[i]?:=by simp
  have h3:xs[i]?=some (xs[i]'(by omega)):=List.getElem?_eq_getElem (by omega)
  rw [<-h2,h1]
  show xs[i]?=some ((xs[i]?).getD (.bool false))
  rw [h3];rfl
theorem zt {w w':World} {base:Nat} {e:TypeId} {sz:Nat} {v:Value} {n:Nat} {xs:List Value} (h:w.ownsRow base e sz v n xs) (hb:Below w.heap.size w w'):w'.ownsRow base e sz v n xs:=by
 obtain⟨hl,h⟩:=h
 refine⟨hl,?_⟩
 rcases h with h | ⟨g,cap,cur,hv,hg,hk,r⟩
 ·exact .inl h
 ·exact .inr ⟨g,cap,cur,hv,hg,by rw [hb.block g (Array.getElem?_eq_some_iff.1 hk).1];exact hk,r⟩
theorem Zr {w:World} {base:Nat} {e e':TypeId} {v:Value} {n m:Nat} {xs:List Value} {g:Nat} {f:Nat->Value} (h:w.ownsRow base e 1 v n xs) (hr:zg w g e' m f) (he:e'≠e):some g≠v.ownBlock:=by
 obtain⟨hl,h⟩:=h
 rcases h with ⟨rfl,_⟩ | ⟨g',cap,cur,rfl,hg,hk,r⟩
 ·intro h;cases h
 ·intro h
  have hgg:g=g':=by simpa [Value.ownBlock] using h
  subst hgg
  obtain⟨c,hb,_,_⟩:=hr
  rw [hk] at hb
  have h1:=Option.some.inj hb
  injection h1 with _ h2
  exact he h2.symm
theorem yW {w:World} {base:Nat} {e:TypeId} {v:Value} {n:Nat} {xs:List Value} (h:w.ownsRow base e 1 v n xs):∀k,v.ownBlock=some k->base<=k:=by
 obtain⟨hl,h⟩:=h
 rcases h with ⟨rfl,_⟩ | ⟨g',cap,cur,rfl,hg,hk,r⟩
 ·intro k h;cases h
 ·intro k h
  have:g'=k:=by simpa [Value.ownBlock] using h
  omega
theorem zjo (w:World) (e:TypeId):(w.alloc (.cells #[] e)).ownsRow w.heap.size e 1 (.slice (some ⟨w.heap.size,0,none⟩) 0 0) 0 []:=by
 refine⟨rfl,.inr ⟨w.heap.size,0,#[],rfl,Nat.le_refl _,?_,Nat.le_refl _,Nat.zero_le _,rfl,rfl⟩⟩
 show (w.heap.push _)[w.heap.size]?=_
 simp
end Go.Proofs.YtjoapiafpahihabGreat
namespace Go.Proofs.YtjoapiafpahihabGreat
open Go.RowKit Go.Joins
set_option linter.unusedVariables false
def ZX (w:World) (g:Nat) (e:TypeId) (cap n:Nat) (f:Nat->Value):Prop :=
 ∃cur:Array Value,w.heap[g]?=some (.cells cur e (0,0))/\cur.size=cap/\n<=cap/\∀i,i<n->cur[i]?=some (f i)
theorem ZX.row {w:World} {g:Nat} {e:TypeId} {cap n:Nat} {f:Nat->Value} (h:ZX w g e cap n f):zg w g e n f:=by
 obtain⟨c,hb,hs,hn,hc⟩:=h
 exact⟨c,hb,by omega,hc⟩
theorem ZX.lt {w:World} {g:Nat} {e:TypeId} {cap n:Nat} {f:Nat->Value} (h:ZX w g e cap n f):g<w.heap.size:=h.row.lt
theorem ZX.congr {w:World} {g:Nat} {e:TypeId} {cap n:Nat} {f f':Nat->Value} (h:ZX w g e cap n f) (he:∀i,i<n->f i=f' i):ZX w g e cap n f':=by
 obtain⟨c,hb,hs,hn,hc⟩:=h
 exact⟨c,hb,hs,hn,fun i hi=>by rw [hc i hi,he i hi]⟩
theorem ZX.of_block {w w':World} {g:Nat} {e:TypeId} {cap n:Nat} {f:Nat->Value} (h:ZX w g e cap n f) (he:w'.heap[g]?=w.heap[g]?):ZX w' g e cap n f:=by
 obtain⟨c,hb,hn,hc⟩:=h
 exact⟨c,he.trans hb,hn,hc⟩
theorem ZX.setOther {w:World} {g:Nat} {e:TypeId} {cap n:Nat} {f:Nat->Value} (h:ZX w g e cap n f) {a:Addr} (ha:g≠a.block) (v:Value):ZX (w.setCell a v) g e cap n f :=
 h.of_block (Below.heap_setCell _ _ _ _ ha)
theorem ZX.set {w:World} {g:Nat} {e:TypeId} {cap n:Nat} {f:Nat->Value} (h:ZX w g e cap n f) (i:Nat) (v:Value) (hi:i<n):ZX (w.setCell ⟨g,i,none⟩ v) g e cap n (fun j=>if j=i then v else f j):=by
 obtain⟨c,hb,hs,hn,hc⟩:=h
 refine⟨c.setIfInBounds i v,?_,by simpa using hs,hn,fun j hj=>?_⟩
 ·simp [World.setCell,Array.getElem?_modify,hb]
 ·rw [Array.getElem?_setIfInBounds]
  by_cases e:j=i
  ·subst e
   have:j<c.size:=by omega
   simp [this]
  ·rw [if_neg (fun h=>e h.symm)]
   show c[j]?=some (if j=i then v else f j)
   rw [if_neg e]
   exact hc j hj
theorem ZX.below {w w':World} {g B:Nat} {e:TypeId} {cap n:Nat} {f:Nat->Value} (h:ZX w g e cap n f) (hb:Below B w w') (hg:g<B):ZX w' g e cap n f :=
 h.of_block (hb.block g hg)
theorem Ug (f:Nat->Value) (n i:Nat) (h:i<n):((List.range n).map f).getD i (.bool false)=f i:=by
 simp [List.getD,h]
theorem ZX.own {w:World} {g base:Nat} {e:TypeId} {cap n:Nat} {f:Nat->Value} (h:ZX w g e cap n f) (hb:base<=g) (hm:cap<=maxLen):w.ownsRow base e 1 (.slice (some ⟨g,0,none⟩) n cap) n ((List.range n).map f):=by
 obtain⟨c,hk,hs,hn,hc⟩:=h
 refine⟨by simp,.inr ⟨g,cap,c,rfl,hb,hk,hn,hm,by omega,?_⟩⟩
 rw [Nat.mul_one]
 refine List.ext_getElem? fun i=>?_
 rw [List.getElem?_take,List.getElem?_map]
 by_cases hi:i<n
 ·rw [if_pos hi,Array.getElem?_toList,hc i hi];simp [hi]
 ·rw [if_neg hi,List.getElem?_eq_none (by simp;omega)];rfl
end Go.Proofs.YtjoapiafpahihabGreat
namespace Go.Proofs.YtjoapiafpahihabGreat
set_option linter.unusedVariables false
variable {P:Program} {ops:Array Oper} {Q:Exit->Act->World->Prop} {md:Region.Mode} {S:World->Prop} {z:Nat}
def Yb (P:Program) (md:Region.Mode) (ops:Array Oper) (Q:Exit->Act->World->Prop) (S:World->Prop) (z:Nat):Nat->Array Bool->Act->World->Prop
 | 0,listed,a,w=>Region.ready md ops listed=[]/\Q .normal a w
 | fuel+1,listed,a,w =>
   (Region.ready md ops listed=[]->Q .normal a w) /\
   ∀i∈Region.ready md ops listed,wpOp P ops Q i (fun a' w'=>(i=z\/S w')/\Yb P md ops Q S z fuel (listed.setIfInBounds i true) a' w') a w
theorem Yc:∀(fuel:Nat) (listed:Array Bool) (a:Act) (w:World),Yb P md ops Q S z fuel listed a w->wpAny P md ops Q fuel listed a w
 | 0,_,_,_,h=>h
 | fuel+1,_,_,_,h=>⟨h.1,fun i hi=>wpOp_mono (fun a' w' k=>Yc fuel _ a' w' k.2) (h.2 i hi)⟩
def zsw (md:Region.Mode) (ops:Array Oper) (z i:Nat):Bool:=match ops[z]? with
 | some o=>o.after.any fun e=>Region.binds md e && e.on == i
 | none=>true
theorem zgz {i:Nat} {o:Oper} (h:zsw md ops z i=true) (ho:ops[z]?=some o):∃e∈o.after,Region.binds md e=true/\e.on=i:=by
 unfold zsw at h
 rw [ho] at h
 obtain⟨j,hj,hb⟩:=Array.any_eq_true.1 h
 simp only [Bool.and_eq_true,beq_iff_eq] at hb
 exact⟨o.after[j],Array.getElem_mem hj,hb.1,hb.2⟩
theorem zeo {i:Nat} {oj:Oper} {listed:Array Bool} (h0:listed.getD i true=false) (hall:∀e∈oj.after,Region.binds md e=true->listed.getD e.on false=true):∀e∈oj.after,Region.binds md e=true->e.on≠i:=by
 intro e he hb heq
 have h1:=hall e he hb
 rw [heq] at h1
 by_cases hs:i<listed.size
 ·simp [Array.getD,hs] at h0 h1
  rw [h0] at h1
  cases h1
 ·simp [Array.getD,hs] at h1
def zqa (md:Region.Mode) (ops:Array Oper) (listed:Array Bool) (z i:Nat):Prop:=zsw md ops z i=true\/∃j,zsw md ops z j=true/\zsw md ops j i=true/\listed.getD j true=false
def zhi (md:Region.Mode) (ops:Array Oper) (listed:Array Bool) (z i:Nat):Bool:=zsw md ops z i || (List.range ops.size).any fun j=>zsw md ops z j && zsw md ops j i && !(listed.getD j true)
theorem zov {listed:Array Bool} {i:Nat} (h:zhi md ops listed z i=true):zqa md ops listed z i:=by
 unfold zhi at h
 rcases Bool.or_eq_true_iff.1 h with h | h
 ·exact .inl h
 ·obtain⟨j,-,hj⟩:=List.any_eq_true.1 h
  simp only [Bool.and_eq_true,Bool.not_eq_true'] at hj
  exact .inr ⟨j,hj.1.1,hj.1.2,hj.2⟩
theorem Vi {i j:Nat} {oj:Oper} {listed:Array Bool} (hw:zsw md ops j i=true) (h0:listed.getD i true=false) (hoj:ops[j]?=some oj) (hall:∀e∈oj.after,Region.binds md e=true->listed.getD e.on false=true):False:=by
 obtain⟨e,he,hb,hon⟩:=zgz hw hoj
 exact zeo h0 hall e he hb hon
theorem zeq {i:Nat} {oi:Oper} {v:Value} (hi:ops[i]?=some oi) (hsel:∀(j:Nat) (o:Oper) cs b,ops[j]?=some o->o.op≠.select cs b)
  (hQ:∀c a w,Q (.panic c) (a.put oi.dst v) w->Q (.panic c) a w):∀(fuel:Nat) (listed:Array Bool) (a:Act) (w:World),zqa md ops listed z i ->
   (∀j oj,ops[j]?=some oj->j≠i->listed.getD j true=false->(∀e∈oj.after,Region.binds md e=true->e.on≠i)->oi.apart ops oj=true) ->
   i∈Region.ready md ops listed->YieldsIf P ops S oi v a->S w->Yb P md ops Q S z fuel (listed.setIfInBounds i true) (a.put oi.dst v) w->Yb P md ops Q S z (fuel+1) listed a w:=by
 intro fuel
 induction fuel with
 | zero =>
   intro listed a w _ _ hr hy hS H
   refine⟨fun h=>absurd hr (by rw [h];simp),fun j hj=>?_⟩
   by_cases hji:j=i
   ·subst hji;exact hy.wpOp hi hS ⟨.inr hS,H⟩
   ·have hm:=ready_mono hj hji
    rw [H.1] at hm
    cases hm
 | succ fuel ih =>
   intro listed a w hz hfree hr hy hS H
   refine⟨fun h=>absurd hr (by rw [h];simp),fun j hj=>?_⟩
   by_cases hji:j=i
   ·subst hji;exact hy.wpOp hi hS ⟨.inr hS,H⟩
   ·obtain⟨hun,oj,hoj,hall⟩:=mem_ready.1 hj
    have hi0:=(mem_ready.1 hr).1
    have hnot:=zeo (oj:=oj) hi0 hall
    have hjz:j≠z:=fun e=>by
     subst e
     rcases hz with hz | ⟨q,h1,h2,h3⟩
     ·exact Vi hz hi0 hoj hall
     ·exact Vi h1 h3 hoj hall
    have hz':zqa md ops (listed.setIfInBounds j true) z i:=by
     rcases hz with hz | ⟨q,h1,h2,h3⟩
     ·exact .inl hz
     ·refine .inr ⟨q,h1,h2,?_⟩
      have hq:j≠q:=fun e=>by subst e;exact Vi h2 hi0 hoj hall
      rw [getD_set_ne true hq];exact h3
    have hstep:=wpOp_putIf hoj (hfree j oj hoj hji hun hnot) (fun cs b=>hsel i oi cs b hi) (fun cs b=>hsel j oj cs b hoj) hQ hy (H.2 j (ready_mono hj hji))
    refine wpOp_mono (fun a' w' k=>?_) hstep
    have hS':S w':=k.2.1.resolve_left hjz
    refine⟨.inr hS',ih _ a' w' hz' (fun q oq hq hqi hqu hno=>hfree q oq hq hqi ?_ hno) (ready_mono hr (Ne.symm hji)) k.1 hS' ?_⟩
    ·by_cases e:j=q
     ·subst e;exact hun
     ·rw [getD_set_ne true e] at hqu;exact hqu
    ·rw [Array.setIfInBounds_comm _ _ hji];exact k.2.2
theorem ZN {i:Nat} {oi:Oper} {rest:List Oper} (h:ops.toList.drop i=oi :: rest):ops[i]?=some oi:=by
 have h1:(ops.toList.drop i)[0]?=some oi:=by rw [h];rfl
 rw [List.getElem?_drop] at h1
 simpa using h1
theorem zgu {i:Nat} {oi:Oper} {rest:List Oper} {v:Value} {fuel:Nat} {listed:Array Bool} {a:Act} {w:World} (hd:ops.toList.drop i=oi :: rest)
  (hs:Region.noSelect ops=true) (hf:Region.free md ops listed i=true) (hr:(Region.ready md ops listed).contains i=true) (hz:zhi md ops listed z i=true)
  (hQ:∀c a w,Q (.panic c) (a.put oi.dst v) w->Q (.panic c) a w) (hy:YieldsIf P ops S oi v a) (hS:S w)
  (h:Yb P md ops Q S z fuel (listed.setIfInBounds i true) (a.put oi.dst v) w):Yb P md ops Q S z (fuel+1) listed a w :=
 zeq (ZN hd) (Region.noSelect_spec hs) hQ fuel listed a w (zov hz) (Region.free_spec (ZN hd) hf) (by simpa using hr) hy hS h
theorem utk {i:Nat} {oi:Oper} {rest:List Oper} {v:Value} {fuel:Nat} {listed:Array Bool} {a a':Act} {w:World} (hd:ops.toList.drop i=oi :: rest) (hS:S w)
  (h:Yb P md ops Q S z fuel (listed.setIfInBounds i true) a' w)
  (hy:YieldsIf P ops S oi v a:=by refine Or.inl ⟨by rfl,?_⟩;intro w hSw;(try dsimp only at hSw);go_simp;(try with_reducible rfl))
  (ha:a.put oi.dst v=a':=by (try simp only [Act.put,List.setIfInBounds_toArray,List.set_cons_zero,List.set_cons_succ]);exact rfl)
  (hs:Region.noSelect ops=true:=by kernel_rfl) (hf:Region.free md ops listed i=true:=by kernel_rfl) (hr:(Region.ready md ops listed).contains i=true:=by kernel_rfl) (hz:zhi md ops listed z i=true:=by kernel_rfl)
  (hQ:∀c a w,Q (.panic c) (a.put oi.dst v) w->Q (.panic c) a w:=by exact fun _ _ _ h=>h):Yb P md ops Q S z (fuel+1) listed a w :=
 zgu hd hs hf hr hz hQ hy hS (ha ▸ h)
theorem nxt {p:World->Prop} {q K':Act->World->Prop} (hK:∀a w,p w->q a w->K' a w) {a a':Act} {w:World} (hp:p w) (h:q a' w)
  (ha:a=a':=by (try simp only [Act.put,List.setIfInBounds_toArray,List.set_cons_zero,List.set_cons_succ]);exact rfl):K' a w:=hK a w hp (ha ▸ h)
theorem z9 {i:Nat} {o:Oper} {rest:List Oper} {fuel:Nat} {listed:Array Bool} {a:Act} {w:World} (hd:ops.toList.drop i=o :: rest) (hr:Region.ready md ops listed=[i])
  (h:∀K':Act->World->Prop,Shut (∀a w,(i=z\/S w)->Yb P md ops Q S z fuel (listed.setIfInBounds i true) a w->K' a w)->if Region.wanted o (yielded ops a.tmps)=true then Oper.wp P o a w K' Q else K' (a.put o.dst undef) w) :
  Yb P md ops Q S z (fuel+1) listed a w :=
 ⟨fun h0=>absurd (hr ▸ h0) (by simp),fun j hj=>by
  rw [hr] at hj
  have e:j=i:=by simpa using hj
  subst e
  exact wpOp_step (ZN hd) (fun K' hK=>h K' (fun a w hS hW=>hK a w ⟨hS,hW⟩))⟩
theorem zf {listed:Array Bool} {a:Act} {w:World} (hr:Region.ready md ops listed=[]) (h:Q .normal a w):∀fuel,Yb P md ops Q S z fuel listed a w
 | 0=>⟨hr,h⟩
 | _+1=>⟨fun _=>h,by rw [hr];simp⟩
theorem ze {id:Nat} {a:Act} {w:World} (z:Nat) (S:World->Prop) (hm:P.follows .mixedOrders=true) (hS:S w.drew) (h:S w.drew->Yb P .any ops Q S z ops.size (Array.replicate ops.size false) a w.drew):(Code.region id ops true).wp P Q a w :=
 wp_region_any hm (Yc _ _ _ _ (h hS))
end Go.Proofs.YtjoapiafpahihabGreat
namespace Go.Proofs.YtjoapiafpahihabGreat
open Go.ChangeMaps Go.MapKept
open Go.WideMaps (KeyLaw)
open Go.WideElems (Fit)
open Go.Maps (Keyed)
set_option linter.unusedVariables false
theorem zae {w:World} {b:Nat} {es:Array MapEntry} {clock:Nat} (hb:w.heap[b]?=some (.map es clock)) (o:Obj):w.grownBy (setBlock w b o) (some b) :=
 ⟨rfl,rfl,rfl,by simp [setBlock],fun i _ hi=>heap_setBlock_other hb _ (fun e=>hi (by rw [e]))⟩
section
variable {H:Type} {P:Program} {w:World} {t k e:TypeId} {b n:Nat} {D:DataW H}
theorem ziu (K:KeyLaw P k) (ht:P.underlying t=some (.map k e)) (he:P.underlying e=some (.int .i64)) (hz:∀u:World,(zeroValue e).run P u=.ok (.int .i64 0) u) (h:w.ownsMap P k (plainElem P e) b n D) (hn:n<maxLen)
  {key:Value} {kl:Lit} (hkey:keyOf P k key=some kl) {c:Int} (hc:(Instr.lookup t (.map (some b)) key false).run P w=.ok (.int .i64 c) w) :
  ∃ v0 st w1,(Instr.mapEntry t (.map (some b)) key).run P w=.ok (.tuple #[v0,goInt st]) w1/\w.grownBy w1 (some b)/\(Instr.lookup t (.map (some b)) key false).run P w1=.ok (.int .i64 c) w1 /\
    ∀(w2:World) (a:Int),w2.heap[b]?=w1.heap[b]?->(Lit.int .i64 a).wf=true->∃w3,(Instr.entryStore t (.map (some b)) (goInt st) (.int .i64 a)).run P w2=.ok () w3/\w2.grownBy w3 (some b)/\w3.ownsMap P k (plainElem P e) b (n+1) (D.put kl (.lit (.int .i64 a))):=by
 have hK:=Keyed.of_law K
 obtain⟨es,clock,hb,F,hs,hD⟩:=h
 have hown:w.ownsMap P k (plainElem P e) b n D:=⟨es,clock,hb,F,hs,hD⟩
 obtain⟨v0,st,es1,clock1,hrun,hcase,hstore⟩:=WideElems.entry_then_store K ht hz hb F hkey
 have hb1:(setBlock w b (.map es1 clock1)).heap[b]?=some (.map es1 clock1):=heap_setBlock_same hb _
 refine⟨v0,st,setBlock w b (.map es1 clock1),hrun,zae hb _,?_,?_⟩
 ·
  have hz0:plainElem (H:=H) P e (.int .i64 0)=some (.lit (.int .i64 0),[]):=plainElem_int he (by decide)
  have hfind:=K.find w hkey es.toList F.keys
  obtain⟨s1,s2,_⟩:=F.stamped
  rcases hfind with ⟨h1,h2⟩ | ⟨j,e0,h1,h2,h3⟩
  ·
   have he1:setBlock w b (.map es1 clock1)=setBlock w b (.map (es.push ⟨key,.int .i64 0,clock⟩) (clock+1)):=by
    have hr:(Instr.mapEntry t (.map (some b)) key).run P w=.ok (.tuple #[.int .i64 0,goInt clock]) (setBlock w b (.map (es.push ⟨key,.int .i64 0,clock⟩) (clock+1))):=by
     simp [Instr.mapEntry,run_underlying ht,MapKept.run_getObj_map hb,K.check w false hkey,h1,hz,MapKept.run_setObj_map _ hb,Result.andThen,setBlock]
    exact (Result.ok.inj (hrun.symm.trans hr)).2
   have hu:(Instr.mapUpdate t (.map (some b)) key (.int .i64 0)).run P w=.ok () (setBlock w b (.map (es.push ⟨key,.int .i64 0,clock⟩) (clock+1))):=by
    simp [Instr.mapUpdate,run_underlying ht,MapKept.run_getObj_map hb,K.check w false hkey,h1,MapKept.run_setObj_map _ hb,Result.andThen,setBlock]
   obtain⟨w',hu',hown',_⟩:=hown.update hK ht hn hkey hz0
   have hw':=(Result.ok.inj (hu.symm.trans hu')).2
   obtain⟨c',hl,hat,_⟩:=hown.lookup_int hK ht he (hz w) hkey
   have hcc:c=c':=(Value.int.inj (Result.ok.inj (hc.symm.trans hl)).1).2
   subst hcc
   have hlz:(Instr.lookup t (.map (some b)) key false).run P w=.ok (.int .i64 0) w:=by
    rcases Maps.fit_look false hK ht (hz w) hb F hkey with ⟨hr,_,_⟩ | ⟨e0,y,hm,hk,_⟩
    ·exact hr
    ·exact absurd hk (h2 e0 hm)
   have hc0:(0:Int)=c:=(Value.int.inj (Result.ok.inj (hlz.symm.trans hc)).1).2
   rw [he1,hw']
   have hd:w'.ownsMap P k (plainElem P e) b (n+1) (D.put kl (.lit (.int .i64 0))):=hown'
   obtain⟨c2,hl2,hat2,_⟩:=hd.lookup_int hK ht he (hz _) hkey
   rw [hl2]
   have hm:Maps.IsMap D:=by rw [hD];exact⟨_,rfl⟩
   rw [Maps.atKey_put_same hm (hK.key hkey)] at hat2
   injection hat2 with e1
   injection e1 with _ e2
   rw [<-e2,<-hc0]
  ·have hj:es[j]?=some e0:=by simpa using h2
   have hsame:es.modify j (fun e=>{ e with key:=key })=es:=by
    apply Array.ext'
    rw [Array.toList_modify,modify_eq_set _ _ _ _ h2]
    have:({ e0 with key:=key }:MapEntry)=e0:=by rw [<-h3]
    rw [this]
    exact WideElems.set_self _ _ _ h2
   have he1:setBlock w b (.map es1 clock1)=setBlock w b (.map es clock):=by
    have hr:(Instr.mapEntry t (.map (some b)) key).run P w=.ok (.tuple #[e0.val,goInt e0.born]) (setBlock w b (.map es clock)):=by
     simp [Instr.mapEntry,run_underlying ht,MapKept.run_getObj_map hb,K.check w false hkey,h1,hj,h3,K.stays w hkey,hsame,MapKept.run_setObj_map _ hb,Result.andThen,setBlock]
    exact (Result.ok.inj (hrun.symm.trans hr)).2
   rw [he1]
   have hd:(setBlock w b (.map es clock)).ownsMap P k (plainElem P e) b n D:=⟨es,clock,heap_setBlock_same hb _,F,hs,hD⟩
   obtain⟨c2,hl2,hat2,_⟩:=hd.lookup_int hK ht he (hz _) hkey
   obtain⟨c',hl,hat,_⟩:=hown.lookup_int hK ht he (hz w) hkey
   have hcc:c=c':=(Value.int.inj (Result.ok.inj (hc.symm.trans hl)).1).2
   rw [hl2]
   rw [hat] at hat2
   injection hat2 with e1
   injection e1 with _ e2
   rw [hcc,e2]
 ·intro w2 a hw2 ha
  rw [hb1] at hw2
  obtain⟨es',clock',hr1,hr2⟩:=hstore w2 (.int .i64 a) hw2
  obtain⟨w',hu',hown',_⟩:=hown.update hK ht hn hkey (plainElem_int he ha)
  have hw':=(Result.ok.inj (hr2.symm.trans hu')).2
  refine⟨_,hr1,zae hw2 _,?_⟩
  rw [<-hw'] at hown'
  obtain⟨es3,clock3,hb3,F3,hs3,hD3⟩:=hown'
  rw [heap_setBlock_same hb] at hb3
  exact⟨es3,clock3,by rw [heap_setBlock_same hw2];exact hb3,F3,hs3,hD3⟩
end
end Go.Proofs.YtjoapiafpahihabGreat
