import Derived.Laws.BitsLemmas
import Derived.WalkKit
import Derived.Below
import Derived.Deep.OwnRows
import Derived.Lib.SmallJoins
import Derived.Deep.RegionHeld3
import Derived.WideKeyEntry
import Derived.Maps.Own
import Derived.Maps.Views
namespace Go.Proofs.YtjoapiafpahihabGreat
abbrev iV (x:Int):Value:=.int .i64 x
abbrev sI (x:Int):Option Value:=some (iV x)
abbrev pA (b:Nat):Option Addr:=some ⟨b,0,none⟩
abbrev ad (b i:Nat):Addr:=⟨b,i,none⟩
abbrev Bw (w w':World):Prop:=RowKit.Below w.heap.size w w'
abbrev Rt (w:World) (v:Value) (e:Ending) (w':World):Prop:=e=.returned v/\RowKit.Below w.heap.size w w'
abbrev tv (a b c d e f g:Int):Value:=.agg #[iV a,iV b,iV c,iV d,iV e,iV f,iV g]
end Go.Proofs.YtjoapiafpahihabGreat
namespace Go.Proofs.YtjoapiafpahihabGreat.NumMath
open Go.RowKit (wrap64)
def low (X:Nat) (k:Nat):Int:=wrap64 ((X % 2 ^ k:Nat):Int)
def word (a:Int):Nat:=(a % 18446744073709551616).toNat
theorem ybl:((2 ^ 64:Nat):Int)=18446744073709551616:=by decide
theorem zp8 (a:Int):word a<2 ^ 64:=by unfold word;omega
theorem zoe (X:Nat) (h:X<2 ^ 64):low X 64=wrap64 (X:Int):=by unfold low;rw [Nat.mod_eq_of_lt h]
theorem ztb (a b:Int):bits .and .i64 a b=low (word a &&& word b) 64:=by
 rw [zoe _ (Nat.and_lt_two_pow _ (zp8 b))]
 show IntKind.i64.wrap ((BitVec.ofInt 64 a &&& BitVec.ofInt 64 b).toNat:Nat)=_
 rw [BitVec.toNat_and,BitVec.toNat_ofInt,BitVec.toNat_ofInt,IntKind.wrap_i64,ybl]
 unfold word wrap64
 rfl
theorem i64_mask (n:Int) (k:Nat) (hk:k<63):bits .and .i64 n (((2 ^ k:Nat):Int) - 1)=n % ((2 ^ k:Nat):Int):=by
 obtain⟨j,hj⟩:∃j,64=k+(j+1):=⟨63 - k,by omega⟩
 have hN:(18446744073709551616:Nat)=2 ^ k*(2 ^ j*2):=by
  rw [<-Nat.pow_succ,<-Nat.pow_add,<-hj]
 have hlt:2 ^ k<2 ^ 63:=Nat.pow_lt_pow_right (by omega) hk
 have hpk:=Nat.two_pow_pos k
 have hw:word (((2 ^ k:Nat):Int) - 1)=2 ^ k - 1:=by unfold word;omega
 rw [ztb,zoe _ (Nat.and_lt_two_pow _ (zp8 _)),hw,Nat.and_two_pow_sub_one_eq_mod]
 have hm:((word n % 2 ^ k:Nat):Int)=n % ((2 ^ k:Nat):Int):=by
  rw [Int.natCast_emod]
  have hc:((word n:Nat):Int)=n % 18446744073709551616:=by unfold word;omega
  have hp:(18446744073709551616:Int)=((2 ^ k:Nat):Int)*(((2 ^ j:Nat):Int)*2):=by
   rw [show (18446744073709551616:Int)=((18446744073709551616:Nat):Int) from rfl,hN,Int.natCast_mul,Int.natCast_mul]
   rfl
  rw [hc,hp];exact Int.emod_emod_of_dvd n ⟨_,rfl⟩
 rw [hm]
 have h1:=Int.emod_nonneg n (show ((2 ^ k:Nat):Int)≠0 by omega)
 have h2:=Int.emod_lt_of_pos n (show (0:Int)<((2 ^ k:Nat):Int) by omega)
 unfold wrap64
 omega
end Go.Proofs.YtjoapiafpahihabGreat.NumMath
namespace Go.Proofs.YtjoapiafpahihabGreat
open Go.RowKit
set_option linter.unusedVariables false
structure St where
 o:Int
 xa:Int
 xb:Int
 ya:Int
 yb:Int
 ar:Int
 sp:Int
 pl:Int
 nn:Int
structure Lp where
 l:List Int
 b:List St
 o:List Int
abbrev lv (L:Lp) (a b c:Option Addr) (x y z:Nat):Value:=.agg #[.slice a L.l.length x,.slice b L.b.length y,.slice c L.o.length z]
def St.nil:St:=⟨0,0,0,0,0,0,0,0,0⟩
def nth (l:List Int) (i:Nat):Int:=l.getD i 0
def zc (l:List St) (i:Nat):St:=l.getD i St.nil
def inR (n lo hi:Int):Bool:=decide (lo<=n/\n<=hi)
theorem yf {n lo hi:Int} (h:lo<=n/\n<=hi):inR n lo hi=true:=decide_eq_true h
theorem Yt {n lo hi:Int} (h:¬(lo<=n/\n<=hi)):inR n lo hi=false:=decide_eq_false h
theorem zx {n lo hi:Int}:inR n lo hi=true↔lo<=n/\n<=hi:=by unfold inR;simp
def yN (n k at_ back:Int):Bool:=inR back 0 3 && inR at_ 0 (if back=0 then k - 1 else n - 1)
def xP (m ar sp pl:Int):Bool:=inR ar 0 (m - 1) && inR sp (-64) 64 && inR pl (-64) 64
def yH (m n k:Int) (s:St):Bool :=
 if s.o=1 then decide (s.xa=0/\s.xb=0/\s.ya=0/\s.yb=0/\s.ar=0/\s.sp=0/\s.pl=0)
 else if s.o=2 then decide (s.xa=0/\s.xb=0/\s.ya=0/\s.yb=0/\s.ar=0/\s.sp=0/\s.pl=0/\s.nn=0)
 else if s.o=3 then decide (s.xa=0/\s.xb=0/\s.ya=0/\s.yb=0/\s.nn=0) && xP m s.ar s.sp s.pl
 else if s.o=4 then decide (s.ya=0/\s.yb=0/\s.nn=0) && xP m s.ar s.sp s.pl && yN n k s.xa s.xb
 else if 11<=s.o/\s.o<=18 then decide (s.ar=0/\s.sp=0/\s.pl=0/\s.nn=0) && yN n k s.xa s.xb && yN n k s.ya s.yb
 else false
def zC (p:Nat->Bool):Nat->Bool
 | 0=>true
 | k+1=>zC p k && p k
theorem zo {p:Nat->Bool} {n:Nat} (h:zC p n=true):∀k,k<n->p k=true:=by
 induction n with
 | zero=>intro k hk;omega
 | succ m ih =>
   intro k hk
   have h2:zC p m=true/\p m=true:=by simpa [zC] using h
   by_cases e:k=m
   ·rw [e];exact h2.2
   ·exact ih h2.1 k (by omega)
theorem zL {p:Nat->Bool} {n:Nat} (h:∀k,k<n->p k=true):zC p n=true:=by
 induction n with
 | zero=>rfl
 | succ m ih =>
   have h1:=ih fun k hk=>h k (by omega)
   have h2:=h m (by omega)
   show (zC p m && p m)=true
   rw [h1,h2];rfl
theorem zZ {p:Nat->Bool} {n k:Nat} (hk:k<n) (h:p k=false):zC p n=false:=by
 cases e:zC p n with
 | false=>rfl
 | true=>rw [zo e k hk] at h;exact Bool.noConfusion h
theorem yl {p:Nat->Bool} {k:Nat} (h:zC p k=true) (hk:p k=true):zC p (k+1)=true:=by
 show (zC p k && p k)=true
 rw [h,hk];rfl
def zuv (z:Int):Bool:=inR z 0 5
def ZN (l:List Int):Bool:=zC (fun i=>zuv (nth l i)) l.length
def zhn (l:List Int):Nat->Int
 | 0=>-1
 | i+1=>nth l i
def zoj (n:Int) (l:List Int) (i:Nat):Bool:=inR (nth l i) (zhn l i+1) (n - 1)
def Xz (n:Int) (l:List Int):Bool:=zC (zoj n l) l.length
def Y2 (L:Lp):Bool:=zC (fun k=>yH L.l.length L.b.length k (zc L.b k)) L.b.length
def zY (L:Lp):Bool :=
 decide (L.l.length<=3) && decide (1<=L.b.length) && decide (L.b.length<=16) && ZN L.l && Xz L.b.length L.o && Y2 L
theorem Ya (n:Int) (l:List Int) (k:Nat) (hn:0<=n) (h:zC (zoj n l) k=true):(k:Int) - 1<=zhn l k/\zhn l k<=n - 1:=by
 induction k with
 | zero=>show ((0:Nat):Int) - 1<=-1/\(-1:Int)<=n - 1;omega
 | succ j ih =>
   have h1:=ih (zL fun i hi=>zo h i (by omega))
   have h2:=zx.1 (zo h j (by omega))
   show ((j+1:Nat):Int) - 1<=nth l j/\nth l j<=n - 1
   omega
theorem zjr (n:Nat) (l:List Int) (h:Xz n l=true):l.length<=n:=by
 have h1:=Ya n l l.length (by omega) h
 omega
theorem yac (L:Lp) (h1:L.l.length<=3) (h2:1<=L.b.length) (h3:L.b.length<=16):zY L=(ZN L.l && Xz L.b.length L.o && Y2 L):=by
 unfold zY;rw [decide_eq_true h1,decide_eq_true h2,decide_eq_true h3];rfl
theorem zd9 (L:Lp) (h:¬L.l.length<=3\/¬1<=L.b.length\/¬L.b.length<=16\/¬L.o.length<=16):zY L=false:=by
 cases e:zY L with
 | false=>rfl
 | true =>
   unfold zY at e
   simp only [Bool.and_eq_true,decide_eq_true_eq] at e
   obtain⟨⟨⟨⟨⟨e1,e2⟩,e3⟩,e4⟩,e5⟩,e6⟩:=e
   have:=zjr _ _ e5
   omega
theorem zw {L:Lp} (e:zY L=true):L.l.length<=3/\1<=L.b.length/\L.b.length<=16/\L.o.length<=16/\ZN L.l=true/\Xz L.b.length L.o=true/\Y2 L=true:=by
 unfold zY at e
 simp only [Bool.and_eq_true,decide_eq_true_eq] at e
 obtain⟨⟨⟨⟨⟨e1,e2⟩,e3⟩,e4⟩,e5⟩,e6⟩:=e
 have:=zjr _ _ e5
 exact⟨e1,e2,e3,by omega,e4,e5,e6⟩
def zv (l:List (List Int)) (i:Nat):List Int:=l.getD i []
def xG (L:Lp) (B M:List (List Int)):Bool :=
 zY L && decide (B.length=L.b.length) && decide (M.length=L.l.length)
  && zC (fun i=>decide ((zv B i).length=3)) B.length && zC (fun i=>decide ((zv M i).length=2 ^ (nth L.l i).toNat)) M.length
end Go.Proofs.YtjoapiafpahihabGreat
namespace Go.Proofs.YtjoapiafpahihabGreat
set_option linter.unusedVariables false
def xQ (n:Nat):Nat:=if n=1 then 0 else if n=2 then 1 else if n=4 then 2 else if n=8 then 3 else if n=16 then 4 else if n=32 then 5 else 6
def zd4 (r:List Int):Bool:=decide (xQ r.length<6)
def Zx (M:List (List Int)):Bool:=zC (fun i=>zd4 (zv M i)) M.length
def zN (M:List (List Int)):List Int:=(List.range M.length).map fun i=>(xQ (zv M i).length:Int)
theorem xZ (M:List (List Int)):(zN M).length=M.length:=by unfold zN;simp
theorem Y6 (M:List (List Int)) (i:Nat) (h:i<M.length):nth (zN M) i=(xQ (zv M i).length:Int):=by unfold zN nth;simp [List.getD,h]
theorem zd6 (n:Nat):xQ n<=6:=by
 unfold xQ
 repeat' split
 all_goals omega
theorem zqo {n:Nat} (h:xQ n<6):2 ^ xQ n=n:=by
 unfold xQ at *
 split
 ·subst_vars;rfl
 split
 ·subst_vars;rfl
 split
 ·subst_vars;rfl
 split
 ·subst_vars;rfl
 split
 ·subst_vars;rfl
 split
 ·subst_vars;rfl
 ·rename_i h1 h2 h3 h4 h5 h6
  rw [if_neg h1,if_neg h2,if_neg h3,if_neg h4,if_neg h5,if_neg h6] at h
  omega
end Go.Proofs.YtjoapiafpahihabGreat
namespace Go.Proofs.YtjoapiafpahihabGreat
open Go.RowKit Go.Joins
set_option linter.unusedVariables false
def zu (w:World) (g:Nat) (e:TypeId) (n:Nat) (f:Nat->Value):Prop :=
 ∃cur:Array Value,w.heap[g]?=some (.cells cur e (0,0))/\n<=cur.size/\∀i,i<n->cur[i]?=some (f i)
theorem zu.cell {w:World} {g:Nat} {e:TypeId} {n:Nat} {f:Nat->Value} (h:zu w g e n f) {i:Nat} (hi:i<n):w.cell? (ad g i)=some (f i):=by
 obtain⟨c,hb,_,hc⟩:=h
 simp [World.cell?,hb,hc i hi]
theorem zu.frozen {w:World} {g:Nat} {e:TypeId} {n:Nat} {f:Nat->Value} (h:zu w g e n f) (i:Nat):w.frozen? (ad g i)=false:=by
 obtain⟨c,hb,_,_⟩:=h
 simp [World.frozen?,hb]
theorem zu.lt {w:World} {g:Nat} {e:TypeId} {n:Nat} {f:Nat->Value} (h:zu w g e n f):g<w.heap.size:=by
 obtain⟨c,hb,_,_⟩:=h
 exact (Array.getElem?_eq_some_iff.1 hb).1
theorem zu.congr {w:World} {g:Nat} {e:TypeId} {n:Nat} {f f':Nat->Value} (h:zu w g e n f) (he:∀i,i<n->f i=f' i):zu w g e n f':=by
 obtain⟨c,hb,hn,hc⟩:=h
 exact⟨c,hb,hn,fun i hi=>by rw [hc i hi,he i hi]⟩
theorem zu.gG {w w':World} {g:Nat} {e:TypeId} {n:Nat} {f:Nat->Value} (h:zu w g e n f) (he:w'.heap[g]?=w.heap[g]?):zu w' g e n f:=by
 obtain⟨c,hb,hn,hc⟩:=h
 exact⟨c,he.trans hb,hn,hc⟩
theorem zu.set {w:World} {g:Nat} {e:TypeId} {n:Nat} {f:Nat->Value} (h:zu w g e n f) (i:Nat) (v:Value) (hi:i<n):zu (w.setCell (ad g i) v) g e n (fun j=>if j=i then v else f j):=by
 obtain⟨c,hb,hn,hc⟩:=h
 refine⟨c.setIfInBounds i v,?_,by simpa using hn,fun j hj=>?_⟩
 ·simp [World.setCell,Array.getElem?_modify,hb]
 ·rw [Array.getElem?_setIfInBounds]
  by_cases e:j=i
  ·subst e
   have:j<c.size:=by omega
   simp [this]
  ·rw [if_neg (fun h=>e h.symm)]
   show c[j]?=some (if j=i then v else f j)
   rw [if_neg e]
   exact hc j hj
theorem zu.gF {w:World} {g:Nat} {e:TypeId} {n:Nat} {f:Nat->Value} (h:zu w g e n f) {a:Addr} (ha:g≠a.block) (v:Value):zu (w.setCell a v) g e n f :=
 h.gG (Below.heap_setCell _ _ _ _ ha)
theorem zu.alloc {w:World} {g:Nat} {e:TypeId} {n:Nat} {f:Nat->Value} (h:zu w g e n f) (o:Obj):zu (w.alloc o) g e n f :=
 h.gG (Below.heap_alloc _ _ _ h.lt)
theorem zu.drawn {w:World} {g:Nat} {e:TypeId} {n:Nat} {f:Nat->Value} (h:zu w g e n f) (k:Nat):zu (w.drewN k) g e n f:=h
theorem zu.grown {w w':World} {g:Nat} {e:TypeId} {n:Nat} {f:Nat->Value} {row:Option Nat} (h:zu w g e n f) (hg:w.grownBy w' row) (hr:some g≠row):zu w' g e n f :=
 h.gG (hg.block g h.lt hr)
theorem zu.gE {w w':World} {g B:Nat} {e:TypeId} {n:Nat} {f:Nat->Value} (h:zu w g e n f) (hb:Below B w w') (hg:g<B):zu w' g e n f :=
 h.gG (hb.block g hg)
theorem zu.apart {w:World} {g g':Nat} {e e':TypeId} {n n':Nat} {f f':Nat->Value} (h:zu w g e n f) (h':zu w g' e' n' f') (he:e≠e'):g≠g':=by
 intro hg
 subst hg
 obtain⟨c,hb,_,_⟩:=h
 obtain⟨c',hb',_,_⟩:=h'
 rw [hb] at hb'
 have h1:=Option.some.inj hb'
 injection h1 with _ h2
 exact he h2
theorem zu.made (w:World) (c:Array Value) (e:TypeId) (n:Nat) (f:Nat->Value) (hn:n<=c.size) (hf:∀i,i<n->c[i]?=some (f i)):zu (w.alloc (.cells c e)) w.heap.size e n f :=
 ⟨c,by show (w.heap.push _)[w.heap.size]?=_;simp,hn,hf⟩
theorem zu.zeros (w:World) (z:Value) (n:Nat) (e:TypeId):zu (w.alloc (.cells (madeCells #[z] n) e)) w.heap.size e n (fun _=>z):=by
 obtain⟨c,hb,hn,hc⟩:=World.rowIs_made w z n e
 exact⟨c,hb,by omega,hc⟩
theorem yx {w:World} {base:Nat} {e:TypeId} {v:Value} {n:Nat} {xs:List Value} (h:w.ownsRow base e 1 v n xs) (hv:v≠.slice none 0 0\/0<n) :
  ∃g cap,v=.slice (pA g) n cap/\base<=g/\n<=cap/\cap<=maxLen/\zu w g e n (fun i=>xs.getD i (.bool false)):=by
 obtain⟨hl,h⟩:=h
 rcases h with ⟨rfl,hn⟩ | ⟨g,cap,cur,rfl,hg,hb,hn,hm,hc,ht⟩
 ·rcases hv with hv | hv
  ·exact absurd rfl hv
  ·omega
 ·refine⟨g,cap,rfl,hg,hn,hm,cur,hb,by omega,fun i hi=>?_⟩
  have h1:(cur.toList.take (n*1))[i]?=xs[i]?:=by rw [ht]
  rw [List.getElem?_take,if_pos (by omega)] at h1
  have h2:cur.toList[i]?=cur[i]?:=by simp
  have h3:xs[i]?=some (xs[i]'(by omega)):=List.getElem?_eq_getElem (by omega)
  rw [<-h2,h1]
  show xs[i]?=some ((xs[i]?).getD (.bool false))
  rw [h3];rfl
theorem zA {w w':World} {base:Nat} {e:TypeId} {sz:Nat} {v:Value} {n:Nat} {xs:List Value} (h:w.ownsRow base e sz v n xs) (hb:Bw w w'):w'.ownsRow base e sz v n xs:=by
 obtain⟨hl,h⟩:=h
 refine⟨hl,?_⟩
 rcases h with h | ⟨g,cap,cur,hv,hg,hk,r⟩
 ·exact .inl h
 ·exact .inr ⟨g,cap,cur,hv,hg,by rw [hb.block g (Array.getElem?_eq_some_iff.1 hk).1];exact hk,r⟩
theorem Zh {w:World} {base:Nat} {e e':TypeId} {v:Value} {n m:Nat} {xs:List Value} {g:Nat} {f:Nat->Value} (h:w.ownsRow base e 1 v n xs) (hr:zu w g e' m f) (he:e'≠e):some g≠v.ownBlock:=by
 obtain⟨hl,h⟩:=h
 rcases h with ⟨rfl,_⟩ | ⟨g',cap,cur,rfl,hg,hk,r⟩
 ·intro h;cases h
 ·intro h
  have hgg:g=g':=by simpa [Value.ownBlock] using h
  subst hgg
  obtain⟨c,hb,_,_⟩:=hr
  rw [hk] at hb
  have h1:=Option.some.inj hb
  injection h1 with _ h2
  exact he h2.symm
theorem yc {w:World} {base:Nat} {e:TypeId} {v:Value} {n:Nat} {xs:List Value} (h:w.ownsRow base e 1 v n xs):∀k,v.ownBlock=some k->base<=k:=by
 obtain⟨hl,h⟩:=h
 rcases h with ⟨rfl,_⟩ | ⟨g',cap,cur,rfl,hg,hk,r⟩
 ·intro k h;cases h
 ·intro k h
  have:g'=k:=by simpa [Value.ownBlock] using h
  omega
theorem U8 (w:World) (e:TypeId):(w.alloc (.cells #[] e)).ownsRow w.heap.size e 1 (.slice (pA w.heap.size) 0 0) 0 []:=by
 refine⟨rfl,.inr ⟨w.heap.size,0,#[],rfl,Nat.le_refl _,?_,Nat.le_refl _,Nat.zero_le _,rfl,rfl⟩⟩
 show (w.heap.push _)[w.heap.size]?=_
 simp
end Go.Proofs.YtjoapiafpahihabGreat
namespace Go.Proofs.YtjoapiafpahihabGreat
open Go.RowKit Go.Joins
set_option linter.unusedVariables false
def xX (w:World) (g:Nat) (e:TypeId) (cap n:Nat) (f:Nat->Value):Prop :=
 ∃cur:Array Value,w.heap[g]?=some (.cells cur e (0,0))/\cur.size=cap/\n<=cap/\∀i,i<n->cur[i]?=some (f i)
theorem xX.row {w:World} {g:Nat} {e:TypeId} {cap n:Nat} {f:Nat->Value} (h:xX w g e cap n f):zu w g e n f:=by
 obtain⟨c,hb,hs,hn,hc⟩:=h
 exact⟨c,hb,by omega,hc⟩
theorem xX.le {w:World} {g:Nat} {e:TypeId} {cap n:Nat} {f:Nat->Value} (h:xX w g e cap n f):n<=cap:=by
 obtain⟨c,hb,hs,hn,hc⟩:=h
 exact hn
theorem xX.lt {w:World} {g:Nat} {e:TypeId} {cap n:Nat} {f:Nat->Value} (h:xX w g e cap n f):g<w.heap.size:=h.row.lt
theorem xX.congr {w:World} {g:Nat} {e:TypeId} {cap n:Nat} {f f':Nat->Value} (h:xX w g e cap n f) (he:∀i,i<n->f i=f' i):xX w g e cap n f':=by
 obtain⟨c,hb,hs,hn,hc⟩:=h
 exact⟨c,hb,hs,hn,fun i hi=>by rw [hc i hi,he i hi]⟩
theorem xX.gG {w w':World} {g:Nat} {e:TypeId} {cap n:Nat} {f:Nat->Value} (h:xX w g e cap n f) (he:w'.heap[g]?=w.heap[g]?):xX w' g e cap n f:=by
 obtain⟨c,hb,hn,hc⟩:=h
 exact⟨c,he.trans hb,hn,hc⟩
theorem xX.gF {w:World} {g:Nat} {e:TypeId} {cap n:Nat} {f:Nat->Value} (h:xX w g e cap n f) {a:Addr} (ha:g≠a.block) (v:Value):xX (w.setCell a v) g e cap n f :=
 h.gG (Below.heap_setCell _ _ _ _ ha)
theorem xX.set {w:World} {g:Nat} {e:TypeId} {cap n:Nat} {f:Nat->Value} (h:xX w g e cap n f) (i:Nat) (v:Value) (hi:i<n):xX (w.setCell (ad g i) v) g e cap n (fun j=>if j=i then v else f j):=by
 obtain⟨c,hb,hs,hn,hc⟩:=h
 refine⟨c.setIfInBounds i v,?_,by simpa using hs,hn,fun j hj=>?_⟩
 ·simp [World.setCell,Array.getElem?_modify,hb]
 ·rw [Array.getElem?_setIfInBounds]
  by_cases e:j=i
  ·subst e
   have:j<c.size:=by omega
   simp [this]
  ·rw [if_neg (fun h=>e h.symm)]
   show c[j]?=some (if j=i then v else f j)
   rw [if_neg e]
   exact hc j hj
theorem xX.gE {w w':World} {g B:Nat} {e:TypeId} {cap n:Nat} {f:Nat->Value} (h:xX w g e cap n f) (hb:Below B w w') (hg:g<B):xX w' g e cap n f :=
 h.gG (hb.block g hg)
theorem Y5 (f:Nat->Value) (n i:Nat) (h:i<n):((List.range n).map f).getD i (.bool false)=f i:=by
 simp [List.getD,h]
theorem xX.own {w:World} {g base:Nat} {e:TypeId} {cap n:Nat} {f:Nat->Value} (h:xX w g e cap n f) (hb:base<=g) (hm:cap<=maxLen):w.ownsRow base e 1 (.slice (pA g) n cap) n ((List.range n).map f):=by
 obtain⟨c,hk,hs,hn,hc⟩:=h
 refine⟨by simp,.inr ⟨g,cap,c,rfl,hb,hk,hn,hm,by omega,?_⟩⟩
 rw [Nat.mul_one]
 refine List.ext_getElem? fun i=>?_
 rw [List.getElem?_take,List.getElem?_map]
 by_cases hi:i<n
 ·rw [if_pos hi,Array.getElem?_toList,hc i hi];simp [hi]
 ·rw [if_neg hi,List.getElem?_eq_none (by simp;omega)];rfl
theorem zvq {w:World} {base g cap n:Nat} {e:TypeId} {xs:List Value} (h:w.ownsRow base e 1 (.slice (pA g) n cap) n xs):base<=g/\cap<=maxLen/\xX w g e cap n (fun i=>xs.getD i (.bool false)):=by
 obtain⟨hl,h⟩:=h
 rcases h with ⟨h,hn⟩ | ⟨g',cap',cur,hv,hg,hb,hn,hm,hc,ht⟩
 ·exact absurd h (by intro h;injection h with h1;cases h1)
 ·injection hv with e1 e2 e3
  injection e1 with e1
  injection e1 with e1
  subst e1;subst e3
  refine⟨hg,hm,cur,hb,by omega,hn,fun i hi=>?_⟩
  have h1:(cur.toList.take (n*1))[i]?=xs[i]?:=by rw [ht]
  rw [List.getElem?_take,if_pos (by omega)] at h1
  have h2:cur.toList[i]?=cur[i]?:=by simp
  have h3:xs[i]?=some (xs[i]'(by omega)):=List.getElem?_eq_getElem (by omega)
  rw [<-h2,h1]
  show xs[i]?=some ((xs[i]?).getD (.bool false))
  rw [h3];rfl
end Go.Proofs.YtjoapiafpahihabGreat
namespace Go.Proofs.YtjoapiafpahihabGreat
set_option linter.unusedVariables false
variable {P:Program} {ops:Array Oper} {Q:Exit->Act->World->Prop} {md:Region.Mode} {S:World->Prop} {z:Nat}
def YK (P:Program) (md:Region.Mode) (ops:Array Oper) (Q:Exit->Act->World->Prop) (S:World->Prop) (z:Nat):Nat->Array Bool->Act->World->Prop
 | 0,gV,a,w=>Region.ready md ops gV=[]/\Q .normal a w
 | fuel+1,gV,a,w =>
   (Region.ready md ops gV=[]->Q .normal a w) /\
   ∀i∈Region.ready md ops gV,wpOp P ops Q i (fun a' w'=>(i=z\/S w')/\YK P md ops Q S z fuel (gV.setIfInBounds i true) a' w') a w
theorem XT:∀(fuel:Nat) (gV:Array Bool) (a:Act) (w:World),YK P md ops Q S z fuel gV a w->wpAny P md ops Q fuel gV a w
 | 0,_,_,_,h=>h
 | fuel+1,_,_,_,h=>⟨h.1,fun i hi=>wpOp_mono (fun a' w' k=>XT fuel _ a' w' k.2) (h.2 i hi)⟩
def XP (md:Region.Mode) (ops:Array Oper) (z i:Nat):Bool:=match ops[z]? with
 | some o=>o.after.any fun e=>Region.binds md e && e.on == i
 | none=>true
theorem UL {i:Nat} {o:Oper} (h:XP md ops z i=true) (ho:ops[z]?=some o):∃e∈o.after,Region.binds md e=true/\e.on=i:=by
 unfold XP at h
 rw [ho] at h
 obtain⟨j,hj,hb⟩:=Array.any_eq_true.1 h
 simp only [Bool.and_eq_true,beq_iff_eq] at hb
 exact⟨o.after[j],Array.getElem_mem hj,hb.1,hb.2⟩
theorem zkt {i:Nat} {oj:Oper} {gV:Array Bool} (h0:gV.getD i true=false) (hall:∀e∈oj.after,Region.binds md e=true->gV.getD e.on false=true):∀e∈oj.after,Region.binds md e=true->e.on≠i:=by
 intro e he hb heq
 have h1:=hall e he hb
 rw [heq] at h1
 by_cases hs:i<gV.size
 ·simp [Array.getD,hs] at h0 h1
  rw [h0] at h1
  cases h1
 ·simp [Array.getD,hs] at h1
def zzl (md:Region.Mode) (ops:Array Oper) (gV:Array Bool) (z i:Nat):Prop:=XP md ops z i=true\/∃j,XP md ops z j=true/\XP md ops j i=true/\gV.getD j true=false
def zj1 (md:Region.Mode) (ops:Array Oper) (gV:Array Bool) (z i:Nat):Bool:=XP md ops z i || (List.range ops.size).any fun j=>XP md ops z j && XP md ops j i && !(gV.getD j true)
theorem zxs {gV:Array Bool} {i:Nat} (h:zj1 md ops gV z i=true):zzl md ops gV z i:=by
 unfold zj1 at h
 rcases Bool.or_eq_true_iff.1 h with h | h
 ·exact .inl h
 ·obtain⟨j,-,hj⟩:=List.any_eq_true.1 h
  simp only [Bool.and_eq_true,Bool.not_eq_true'] at hj
  exact .inr ⟨j,hj.1.1,hj.1.2,hj.2⟩
theorem zb6 {i j:Nat} {oj:Oper} {gV:Array Bool} (hw:XP md ops j i=true) (h0:gV.getD i true=false) (hoj:ops[j]?=some oj) (hall:∀e∈oj.after,Region.binds md e=true->gV.getD e.on false=true):False:=by
 obtain⟨e,he,hb,hon⟩:=UL hw hoj
 exact zkt h0 hall e he hb hon
theorem zkv {i:Nat} {oi:Oper} {v:Value} (hi:ops[i]?=some oi) (hsel:∀(j:Nat) (o:Oper) cs b,ops[j]?=some o->o.op≠.select cs b)
  (hQ:∀c a w,Q (.panic c) (a.put oi.dst v) w->Q (.panic c) a w):∀(fuel:Nat) (gV:Array Bool) (a:Act) (w:World),zzl md ops gV z i ->
   (∀j oj,ops[j]?=some oj->j≠i->gV.getD j true=false->(∀e∈oj.after,Region.binds md e=true->e.on≠i)->oi.apart ops oj=true) ->
   i∈Region.ready md ops gV->YieldsIf P ops S oi v a->S w->YK P md ops Q S z fuel (gV.setIfInBounds i true) (a.put oi.dst v) w->YK P md ops Q S z (fuel+1) gV a w:=by
 intro fuel
 induction fuel with
 | zero =>
   intro gV a w _ _ hr hy hS H
   refine⟨fun h=>absurd hr (by rw [h];simp),fun j hj=>?_⟩
   by_cases hji:j=i
   ·subst hji;exact hy.wpOp hi hS ⟨.inr hS,H⟩
   ·have hm:=ready_mono hj hji
    rw [H.1] at hm
    cases hm
 | succ fuel ih =>
   intro gV a w hz hfree hr hy hS H
   refine⟨fun h=>absurd hr (by rw [h];simp),fun j hj=>?_⟩
   by_cases hji:j=i
   ·subst hji;exact hy.wpOp hi hS ⟨.inr hS,H⟩
   ·obtain⟨hun,oj,hoj,hall⟩:=mem_ready.1 hj
    have hi0:=(mem_ready.1 hr).1
    have hnot:=zkt (oj:=oj) hi0 hall
    have hjz:j≠z:=fun e=>by
     subst e
     rcases hz with hz | ⟨q,h1,h2,h3⟩
     ·exact zb6 hz hi0 hoj hall
     ·exact zb6 h1 h3 hoj hall
    have hz':zzl md ops (gV.setIfInBounds j true) z i:=by
     rcases hz with hz | ⟨q,h1,h2,h3⟩
     ·exact .inl hz
     ·refine .inr ⟨q,h1,h2,?_⟩
      have hq:j≠q:=fun e=>by subst e;exact zb6 h2 hi0 hoj hall
      rw [getD_set_ne true hq];exact h3
    have hstep:=wpOp_putIf hoj (hfree j oj hoj hji hun hnot) (fun cs b=>hsel i oi cs b hi) (fun cs b=>hsel j oj cs b hoj) hQ hy (H.2 j (ready_mono hj hji))
    refine wpOp_mono (fun a' w' k=>?_) hstep
    have hS':S w':=k.2.1.resolve_left hjz
    refine⟨.inr hS',ih _ a' w' hz' (fun q oq hq hqi hqu hno=>hfree q oq hq hqi ?_ hno) (ready_mono hr (Ne.symm hji)) k.1 hS' ?_⟩
    ·by_cases e:j=q
     ·subst e;exact hun
     ·rw [getD_set_ne true e] at hqu;exact hqu
    ·rw [Array.setIfInBounds_comm _ _ hji];exact k.2.2
theorem Yg {i:Nat} {oi:Oper} {rest:List Oper} (h:ops.toList.drop i=oi :: rest):ops[i]?=some oi:=by
 have h1:(ops.toList.drop i)[0]?=some oi:=by rw [h];rfl
 rw [List.getElem?_drop] at h1
 simpa using h1
theorem ze7 {i:Nat} {oi:Oper} {rest:List Oper} {v:Value} {fuel:Nat} {gV:Array Bool} {a:Act} {w:World} (hd:ops.toList.drop i=oi :: rest)
  (hs:Region.noSelect ops=true) (hf:Region.free md ops gV i=true) (hr:(Region.ready md ops gV).contains i=true) (hz:zj1 md ops gV z i=true)
  (hQ:∀c a w,Q (.panic c) (a.put oi.dst v) w->Q (.panic c) a w) (hy:YieldsIf P ops S oi v a) (hS:S w)
  (h:YK P md ops Q S z fuel (gV.setIfInBounds i true) (a.put oi.dst v) w):YK P md ops Q S z (fuel+1) gV a w :=
 zkv (Yg hd) (Region.noSelect_spec hs) hQ fuel gV a w (zxs hz) (Region.free_spec (Yg hd) hf) (by simpa using hr) hy hS h
theorem utk {i:Nat} {oi:Oper} {rest:List Oper} {v:Value} {fuel:Nat} {gV:Array Bool} {a a':Act} {w:World} (hd:ops.toList.drop i=oi :: rest) (hS:S w)
  (h:YK P md ops Q S z fuel (gV.setIfInBounds i true) a' w)
  (hy:YieldsIf P ops S oi v a:=by refine Or.inl ⟨by rfl,?_⟩;intro w hSw;(try dsimp only at hSw);go_simp;(try with_reducible rfl))
  (ha:a.put oi.dst v=a':=by (try simp only [Act.put,List.setIfInBounds_toArray,List.set_cons_zero,List.set_cons_succ]);exact rfl)
  (hs:Region.noSelect ops=true:=by kernel_rfl) (hf:Region.free md ops gV i=true:=by kernel_rfl) (hr:(Region.ready md ops gV).contains i=true:=by kernel_rfl) (hz:zj1 md ops gV z i=true:=by kernel_rfl)
  (hQ:∀c a w,Q (.panic c) (a.put oi.dst v) w->Q (.panic c) a w:=by exact fun _ _ _ h=>h):YK P md ops Q S z (fuel+1) gV a w :=
 ze7 hd hs hf hr hz hQ hy hS (ha ▸ h)
theorem uk (i:Nat) {oi:Oper} {rest:List Oper} {v:Value} {fuel:Nat} {gV:Array Bool} {a a':Act} {w:World} (hS:S w)
  (h:YK P md ops Q S z fuel (gV.setIfInBounds i true) a' w) (hd:ops.toList.drop i=oi :: rest:=by exact rfl)
  (hy:YieldsIf P ops S oi v a:=by refine Or.inl ⟨by rfl,?_⟩;intro w hSw;(try dsimp only at hSw);go_simp;(try with_reducible rfl))
  (ha:a.put oi.dst v=a':=by (try simp only [Act.put,List.setIfInBounds_toArray,List.set_cons_zero,List.set_cons_succ]);exact rfl)
  (hs:Region.noSelect ops=true:=by kernel_rfl) (hf:Region.free md ops gV i=true:=by kernel_rfl) (hr:(Region.ready md ops gV).contains i=true:=by kernel_rfl) (hz:zj1 md ops gV z i=true:=by kernel_rfl)
  (hQ:∀c a w,Q (.panic c) (a.put oi.dst v) w->Q (.panic c) a w:=by exact fun _ _ _ h=>h):YK P md ops Q S z (fuel+1) gV a w :=
 ze7 hd hs hf hr hz hQ hy hS (ha ▸ h)
theorem nxt {p:World->Prop} {q K':Act->World->Prop} (hK:∀a w,p w->q a w->K' a w) {a a':Act} {w:World} (hp:p w) (h:q a' w)
  (ha:a=a':=by (try simp only [Act.put,List.setIfInBounds_toArray,List.set_cons_zero,List.set_cons_succ]);exact rfl):K' a w:=hK a w hp (ha ▸ h)
theorem ze {i:Nat} {o:Oper} {rest:List Oper} {fuel:Nat} {gV:Array Bool} {a:Act} {w:World} (hd:ops.toList.drop i=o :: rest) (hr:Region.ready md ops gV=[i])
  (h:∀K':Act->World->Prop,Shut (∀a w,(i=z\/S w)->YK P md ops Q S z fuel (gV.setIfInBounds i true) a w->K' a w)->if Region.wanted o (yielded ops a.tmps)=true then Oper.wp P o a w K' Q else K' (a.put o.dst undef) w) :
  YK P md ops Q S z (fuel+1) gV a w :=
 ⟨fun h0=>absurd (hr ▸ h0) (by simp),fun j hj=>by
  rw [hr] at hj
  have e:j=i:=by simpa using hj
  subst e
  exact wpOp_step (Yg hd) (fun K' hK=>h K' (fun a w hS hW=>hK a w ⟨hS,hW⟩))⟩
theorem uo (i:Nat) {o:Oper} {rest:List Oper} {fuel:Nat} {gV:Array Bool} {a:Act} {w:World}
  (h:∀K':Act->World->Prop,Shut (∀a w,(i=z\/S w)->YK P md ops Q S z fuel (gV.setIfInBounds i true) a w->K' a w)->if Region.wanted o (yielded ops a.tmps)=true then Oper.wp P o a w K' Q else K' (a.put o.dst undef) w)
  (hd:ops.toList.drop i=o :: rest:=by exact rfl) (hr:Region.ready md ops gV=[i]:=by kernel_rfl):YK P md ops Q S z (fuel+1) gV a w:=ze hd hr h
theorem zq {gV:Array Bool} {a:Act} {w:World} (hr:Region.ready md ops gV=[]) (h:Q .normal a w):∀fuel,YK P md ops Q S z fuel gV a w
 | 0=>⟨hr,h⟩
 | _+1=>⟨fun _=>h,by rw [hr];simp⟩
theorem zm {id:Nat} {a:Act} {w:World} (z:Nat) (S:World->Prop) (hm:P.follows .mixedOrders=true) (hS:S w.drew) (h:S w.drew->YK P .any ops Q S z ops.size (Array.replicate ops.size false) a w.drew):(Code.region id ops true).wp P Q a w :=
 wp_region_any hm (XT _ _ _ _ (h hS))
end Go.Proofs.YtjoapiafpahihabGreat
namespace Go.Proofs.YtjoapiafpahihabGreat
open Go.ChangeMaps Go.MapKept
open Go.WideMaps (KeyLaw)
open Go.WideElems (Fit)
open Go.Maps (Keyed)
set_option linter.unusedVariables false
theorem zf9 {w:World} {b:Nat} {es:Array MapEntry} {clock:Nat} (hb:w.heap[b]?=some (.map es clock)) (o:Obj):w.grownBy (setBlock w b o) (some b) :=
 ⟨rfl,rfl,rfl,by simp [setBlock],fun i _ hi=>heap_setBlock_other hb _ (fun e=>hi (by rw [e]))⟩
section
variable {H:Type} {P:Program} {w:World} {t k e:TypeId} {b n:Nat} {D:DataW H}
theorem zf4 (K:KeyLaw P k) (ht:P.underlying t=some (.map k e)) (he:P.underlying e=some (.int .i64)) (hz:∀u:World,(zeroValue e).run P u=.ok (.int .i64 0) u) (h:w.ownsMap P k (plainElem P e) b n D) (hn:n<maxLen)
  {key:Value} {kl:Lit} (hkey:keyOf P k key=some kl) {c:Int} (hc:(Instr.lookup t (.map (some b)) key false).run P w=.ok (.int .i64 c) w) :
  ∃ v0 st w1,(Instr.mapEntry t (.map (some b)) key).run P w=.ok (.tuple #[v0,goInt st]) w1/\w.grownBy w1 (some b)/\(Instr.lookup t (.map (some b)) key false).run P w1=.ok (.int .i64 c) w1 /\
    ∀(w2:World) (a:Int),w2.heap[b]?=w1.heap[b]?->(Lit.int .i64 a).wf=true->∃w3,(Instr.entryStore t (.map (some b)) (goInt st) (.int .i64 a)).run P w2=.ok () w3/\w2.grownBy w3 (some b)/\w3.ownsMap P k (plainElem P e) b (n+1) (D.put kl (.lit (.int .i64 a))):=by
 have hK:=Keyed.of_law K
 obtain⟨es,clock,hb,F,hs,hD⟩:=h
 have gJ:w.ownsMap P k (plainElem P e) b n D:=⟨es,clock,hb,F,hs,hD⟩
 obtain⟨v0,st,es1,clock1,hrun,hcase,hstore⟩:=WideElems.entry_then_store K ht hz hb F hkey
 have hb1:(setBlock w b (.map es1 clock1)).heap[b]?=some (.map es1 clock1):=heap_setBlock_same hb _
 refine⟨v0,st,setBlock w b (.map es1 clock1),hrun,zf9 hb _,?_,?_⟩
 ·
  have hz0:plainElem (H:=H) P e (.int .i64 0)=some (.lit (.int .i64 0),[]):=plainElem_int he (by decide)
  have hfind:=K.find w hkey es.toList F.keys
  obtain⟨s1,s2,_⟩:=F.stamped
  rcases hfind with ⟨h1,h2⟩ | ⟨j,e0,h1,h2,h3⟩
  ·
   have he1:setBlock w b (.map es1 clock1)=setBlock w b (.map (es.push ⟨key,.int .i64 0,clock⟩) (clock+1)):=by
    have hr:(Instr.mapEntry t (.map (some b)) key).run P w=.ok (.tuple #[.int .i64 0,goInt clock]) (setBlock w b (.map (es.push ⟨key,.int .i64 0,clock⟩) (clock+1))):=by
     simp [Instr.mapEntry,run_underlying ht,MapKept.run_getObj_map hb,K.check w false hkey,h1,hz,MapKept.run_setObj_map _ hb,Result.andThen,setBlock]
    exact (Result.ok.inj (hrun.symm.trans hr)).2
   have hu:(Instr.mapUpdate t (.map (some b)) key (.int .i64 0)).run P w=.ok () (setBlock w b (.map (es.push ⟨key,.int .i64 0,clock⟩) (clock+1))):=by
    simp [Instr.mapUpdate,run_underlying ht,MapKept.run_getObj_map hb,K.check w false hkey,h1,MapKept.run_setObj_map _ hb,Result.andThen,setBlock]
   obtain⟨w',hu',hown',_⟩:=gJ.update hK ht hn hkey hz0
   have hw':=(Result.ok.inj (hu.symm.trans hu')).2
   obtain⟨c',hl,hat,_⟩:=gJ.lookup_int hK ht he (hz w) hkey
   have hcc:c=c':=(Value.int.inj (Result.ok.inj (hc.symm.trans hl)).1).2
   subst hcc
   have hlz:(Instr.lookup t (.map (some b)) key false).run P w=.ok (.int .i64 0) w:=by
    rcases Maps.fit_look false hK ht (hz w) hb F hkey with ⟨hr,_,_⟩ | ⟨e0,y,hm,hk,_⟩
    ·exact hr
    ·exact absurd hk (h2 e0 hm)
   have hc0:(0:Int)=c:=(Value.int.inj (Result.ok.inj (hlz.symm.trans hc)).1).2
   rw [he1,hw']
   have hd:w'.ownsMap P k (plainElem P e) b (n+1) (D.put kl (.lit (.int .i64 0))):=hown'
   obtain⟨c2,hl2,hat2,_⟩:=hd.lookup_int hK ht he (hz _) hkey
   rw [hl2]
   have hm:Maps.IsMap D:=by rw [hD];exact⟨_,rfl⟩
   rw [Maps.atKey_put_same hm (hK.key hkey)] at hat2
   injection hat2 with e1
   injection e1 with _ e2
   rw [<-e2,<-hc0]
  ·have hj:es[j]?=some e0:=by simpa using h2
   have hsame:es.modify j (fun e=>{ e with key:=key })=es:=by
    apply Array.ext'
    rw [Array.toList_modify,modify_eq_set _ _ _ _ h2]
    have:({ e0 with key:=key }:MapEntry)=e0:=by rw [<-h3]
    rw [this]
    exact WideElems.set_self _ _ _ h2
   have he1:setBlock w b (.map es1 clock1)=setBlock w b (.map es clock):=by
    have hr:(Instr.mapEntry t (.map (some b)) key).run P w=.ok (.tuple #[e0.val,goInt e0.born]) (setBlock w b (.map es clock)):=by
     simp [Instr.mapEntry,run_underlying ht,MapKept.run_getObj_map hb,K.check w false hkey,h1,hj,h3,K.stays w hkey,hsame,MapKept.run_setObj_map _ hb,Result.andThen,setBlock]
    exact (Result.ok.inj (hrun.symm.trans hr)).2
   rw [he1]
   have hd:(setBlock w b (.map es clock)).ownsMap P k (plainElem P e) b n D:=⟨es,clock,heap_setBlock_same hb _,F,hs,hD⟩
   obtain⟨c2,hl2,hat2,_⟩:=hd.lookup_int hK ht he (hz _) hkey
   obtain⟨c',hl,hat,_⟩:=gJ.lookup_int hK ht he (hz w) hkey
   have hcc:c=c':=(Value.int.inj (Result.ok.inj (hc.symm.trans hl)).1).2
   rw [hl2]
   rw [hat] at hat2
   injection hat2 with e1
   injection e1 with _ e2
   rw [hcc,e2]
 ·intro w2 a hw2 ha
  rw [hb1] at hw2
  obtain⟨es',clock',hr1,hr2⟩:=hstore w2 (.int .i64 a) hw2
  obtain⟨w',hu',hown',_⟩:=gJ.update hK ht hn hkey (plainElem_int he ha)
  have hw':=(Result.ok.inj (hr2.symm.trans hu')).2
  refine⟨_,hr1,zf9 hw2 _,?_⟩
  rw [<-hw'] at hown'
  obtain⟨es3,clock3,hb3,F3,hs3,hD3⟩:=hown'
  rw [heap_setBlock_same hb] at hb3
  exact⟨es3,clock3,by rw [heap_setBlock_same hw2];exact hb3,F3,hs3,hD3⟩
end
end Go.Proofs.YtjoapiafpahihabGreat
