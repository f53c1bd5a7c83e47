import Derived.Test.YtjlfcbccpcigeacGreatDoorRows
import Derived.Deep.OwnRows
import Derived.Lib.SmallJoins
import Derived.Deep.RegionHeld3
import Derived.WideKeyEntry
import Derived.WalkSpells
import Derived.WalkLawsBesides
set_option maxHeartbeats 40000000
set_option linter.defProp false
namespace Go.Proofs.YtjlfcbccpcigeacGreatDoor
abbrev J (x:Int):Value:=.int .i64 x
abbrev Y (x:Int):Option Value:=some (J x)
abbrev pA (b:Nat):Option Addr:=some ⟨b,0,none⟩
abbrev E (b i:Nat):Addr:=⟨b,i,none⟩
abbrev Bw (w w':World):Prop:=RowKit.Below w.heap.size w w'
abbrev Rt (w:World) (v:Value) (e:Ending) (w':World):Prop:=e=.returned v/\RowKit.Below w.heap.size w w'
abbrev tv (a b c d e f g:Int):Value:=.agg #[J a,J b,J c,J d,J e,J f,J g]
abbrev tB (a b c d e f g:Int):Obj:=.cells #[J a,J b,J c,J d,J e,J f,J g] 27
abbrev nB (a b c d e f g h i:Int):Obj:=.cells #[J a,J b,J c,J d,J e,J f,J g,J h,J i] 144
abbrev kB (a b:Int) (c:Option Addr) (d e:Nat):Obj:=.cells #[J a,J b,.slice c d e] 75
end Go.Proofs.YtjlfcbccpcigeacGreatDoor
namespace Go.Proofs.YtjlfcbccpcigeacGreatDoor
open Go.RowKit Go.Joins
def Qa:=@cell_of_block
def Qb:=@Array.getElem?_eq_some_iff
def Qc:=@Nat.le_refl
def Qd:=@below_alloc1
def Qe:=@if_neg
def Qf:=@if_pos
def Qg:=@Bool.and_eq_true
def Qh:=@List.getElem?_eq_getElem
def Qi:=@decide_eq_true
def Qj:=@Below.heap_setCell
def Qk:=@decide_eq_false
def Ql:=@Nat.zero_le
def Qm:=@below_draws
def Qn:=@List.setIfInBounds_toArray
def Qq:=@wp_region_noPanic
def Qr:=@Below.heap_alloc
def Qs:=@NoPanic.normal
def Qt:=@List.length_append
def Qu:=@Nat.lt_of_lt_of_le
def Qv:=@Nat.not_lt_zero
def Qw:=@List.getD_eq_getElem?_getD
def Qy:=@List.set_cons_zero
def Qz:=@List.set_cons_succ
def QA:=@Below.refl
def QB:=@below_alloc2
def QC:=@Array.getElem?_modify
def QD:=@Option.some.inj
def QE:=@decide_eq_true_eq
def QF:=@Nat.lt_succ_self
def QH:=@Nat.le_trans
def QI:=@of_decide_eq_true
def QJ:=@below_alloc3
def QK:=@List.mem_append
def QL:=@Int.toNat_natCast
def QM:=@beq_eq_false_iff_ne
def QO:=@Nat.zero_add
def QP:=@Int.emod_lt_of_pos
def QQ:=@wpList_append_own
def QR:=@Int.le_refl
def QS:=@Int.emod_nonneg
def QT:=@List.mem_singleton
def QU:=@Int.mul_le_mul_of_nonneg_left
def QV:=@List.map_append
def QW:=@List.getElem_mem
def QX:=@Int.eq_ofNat_of_zero_le
def QY:=@List.mem_cons_self
def Q0:=@List.getElem?_eq_none
def Q1:=@Array.getElem?_setIfInBounds
def Q5:=@List.length_cons
def Q6:=@Below.alloc
def Q7:=@Nat.le_of_lt
def Q8:=@List.foldl_append
def Q9:=@List.length_map
def Wb:=@Bool.true_and
def Wc:=@List.getElem?_map
def Wd:=@List.take_length
def We:=@List.getElem?_take
def Wf:=@beq_false_of_ne
def Wg:=@List.mem_cons_of_mem
def Wh:=@List.length_take
def Wi:=@List.length_eq_zero_iff
def Wj:=@List.getElem?_append_left
def Wl:=@List.mem_iff_getElem
def Wm:=@List.take_add_one
def Wn:=@List.range_succ
def Wo:=@Int.tmod_eq_emod_of_nonneg
def Wq:=@IntKind.wrap_i64
def Wr:=@List.append_assoc
def Ws:=@Int.mul_nonneg
def Ww:=@List.getElem?_append_right
def Wx:=@Int.mul_le_mul_of_nonneg_right
def Wy:=@Int.mul_le_mul
def Wz:=@List.mem_append_left
def WA:=@Array.getElem?_eq_getElem
def WB:=@List.take_of_length_le
def WD:=@block_setCell
def WE:=@List.mem_cons
def WG:=@Nat.add_zero
def WH:=@Int.toNat_of_nonneg
def WI:=@Bool.false_and
def WJ:=@List.append_nil
def WK:=@Int.le_trans
def WL:=@Int.tmod_lt_of_pos
def WM:=@Bool.false_ne_true
def WN:=@WalkArith.wf_i64
def WP:=@Nat.pow_le_pow_right
def WQ:=@Int.neg_mul
def WS:=@unfrozen_of_block
def WT:=@Option.map_eq_some_iff
def WU:=@List.mem_range
def WV:=@List.mem_map
def WW:=@Int.le_ediv_iff_mul_le
def WY:=@Int.ediv_nonneg
def WZ:=@List.mem_append_right
def W6:=@Array.getElem?_setIfInBounds_self_of_lt
def W8:=@List.nil_append
def W9:=@List.cons.injEq
def Ea:=@Bool.eq_iff_iff
def Eb:=@Below.drew
def Ec:=@List.getElem?_range
def Ef:=@List.map_cons
def Eg:=@Int.ediv_le_self
def Eh:=@Int.add_mul_emod_self_left
def Ei:=@Bool.false_eq_true
def Ej:=@List.length_replicate
def Ek:=@List.length_filter_le
def El:=@Value.agg.injEq
def En:=@Bool.or_eq_true
def Eo:=@Nat.succ_mul
def Ep:=@Nat.le_succ
def Eq:=@List.pairwise_append
def Er:=@Int.mul_comm
def Es:=@Int.lt_trichotomy
def Et:=@List.map_congr_left
def Eu:=@List.mem_singleton_self
def Ew:=@Bool.and_false
def Ex:=@Array.mk.injEq
def Ez:=@Nat.ne_of_gt
def EA:=@List.filter_append
def EC:=@Int.ediv_lt_iff_lt_mul
def EF:=@List.length_singleton
def EG:=@List.size_toArray
def EI:=@Nat.mul_le_mul_right
def EJ:=@List.mem_of_mem_take
def EM:=@List.cons_append
def EN:=@List.all_eq_true
def EP:=@List.drop_eq_getElem_cons
def ER:=@Int.tmod_nonneg
def ES:=@Int.natCast_mul
def ET:=@Int.natCast_add
def EU:=@List.pairwise_cons
def EV:=@Int.lt_tmod_of_pos
def EW:=@Nat.le_mul_of_pos_right
def EY:=@Nat.zero_mul
def EZ:=@Maps.Keyed.of_law
def E0:=@List.take_succ_eq_append_getElem
def E1:=@List.map_nil
def E2:=@List.map_map
def E3:=@Array.getElem?_eq_none
def E4:=@Int.mul_tdiv_add_tmod
def E5:=@Int.emod_add_mul_ediv
def E6:=@Array.getElem?_toList
def E7:=@Nat.mod_lt
def E8:=@Bool.not_eq_true
def qc:=@Bool.false_or
def qd:=@Region.noSelect_spec
def qf:=@List.eq_nil_of_length_eq_zero
def qh:=@Nat.two_pow_pos
def qj:=@List.foldl_cons
def ql:=@Maps.atKey_put_same
def qn:=@List.flatMap_append
def qo:=@Bool.or_eq_true_iff
def qp:=@Array.extract_eq_self_of_le
def qq:=@Nat.add_mul_mod_self_right
def qw:=@Int.tdiv_eq_ediv_of_nonneg
def qx:=@List.getElem?_eq_some_iff
def qz:=@Int.add_mul
def qC:=@Nat.lt_irrefl
def qD:=@Int.neg_emod_eq_sub_emod
def qE:=@Bool.and_true
def qF:=@Nat.succ_pred_eq_of_pos
def qG:=@Nat.mod_eq_of_lt
def qJ:=@List.pairwise_singleton
def qK:=@List.not_mem_nil
def qL:=@List.length_drop
def qO:=@Int.dvd_of_emod_eq_zero
def qP:=@Array.toList_inj
def qQ:=@Nat.le_of_eq
def qR:=@Nat.add_comm
def qV:=@Nat.add_mul_div_right
def qW:=@List.take_append_drop
def qX:=@List.singleton_append
def qY:=@List.getElem?_toArray
def q5:=@Int.mul_ediv_add_emod
def q7:=@Maps.atKey_put_other
def q8:=@List.reverse_reverse
def q9:=@List.mem_of_mem_drop
def nm {α:Type} (t:α):∃x,t=x:=⟨t,rfl⟩
def cb {w:World} {g:Nat} {a:Array Value} {t:TypeId} {fr:Nat×Nat} {i:Nat} {v:Option Value} (h:w.heap[g]?=some (.cells a t fr)) (e:a[i]?=v:=by rfl):w.cell? ⟨g,i,none⟩=v:=(Joins.cell_of_block h i).trans e
def lo {α:Type} {a:Array α} {i:Nat} {v:α} (h:a[i]?=some v):i<a.size:=by grind
end Go.Proofs.YtjlfcbccpcigeacGreatDoor
namespace Go
abbrev World.c (w:World) (b i:Nat):Option Value:=w.cell? ⟨b,i,none⟩
abbrev World.st (w:World) (b i:Nat) (v:Value):World:=w.setCell ⟨b,i,none⟩ v
end Go
namespace Go.RowKit
def Below.tm {w x y:World} (h:Below w.heap.size w x) (k:Below x.heap.size x y):Below w.heap.size w y:=h.trans (k.mono h.size)
end Go.RowKit
namespace Go.Proofs.YtjlfcbccpcigeacGreatDoor.NumMath
open Go.RowKit (wrap64)
def low (X:Nat) (k:Nat):Int:=wrap64 ((X % 2 ^ k:Nat):Int)
def Y0 (a:Int):Nat:=(a % 18446744073709551616).toNat
theorem ykr:((2 ^ 64:Nat):Int)=18446744073709551616:=by decide
def zve (a:Int):Y0 a<2 ^ 64:=by unfold Y0;omega
def zui (X:Nat) (h:X<2 ^ 64):low X 64=wrap64 (X:Int):=by grind [low]
theorem yad (a b:Int):bits .and .i64 a b=low (Y0 a &&& Y0 b) 64:=by rw [zui _ (Nat.and_lt_two_pow _ (zve b))];show IntKind.i64.wrap ((BitVec.ofInt 64 a &&& BitVec.ofInt 64 b).toNat:Nat)=_;rw [BitVec.toNat_and,BitVec.toNat_ofInt,BitVec.toNat_ofInt,Wq,ykr];unfold Y0 wrap64;rfl
def i64_mask (n:Int) (k:Nat) (b:k<63):bits .and .i64 n (((2 ^ k:Nat):Int) - 1)=n % ((2 ^ k:Nat):Int):=by
 obtain⟨j,a⟩:∃j,64=k+(j+1):=⟨63 - k,by omega⟩;have hN:(18446744073709551616:Nat)=2 ^ k*(2 ^ j*2):=by rw [<-Nat.pow_succ,<-Nat.pow_add,<-a]
 have d:2 ^ k<2 ^ 63:=Nat.pow_lt_pow_right (by omega) b;have f:=qh k;have c:Y0 (((2 ^ k:Nat):Int) - 1)=2 ^ k - 1:=by unfold Y0;omega
 rw [yad,zui _ (Nat.and_lt_two_pow _ (zve _)),c,Nat.and_two_pow_sub_one_eq_mod];have hm:((Y0 n % 2 ^ k:Nat):Int)=n % ((2 ^ k:Nat):Int):=by
  rw [Int.natCast_emod];have h:((Y0 n:Nat):Int)=n % 18446744073709551616:=by unfold Y0;omega
  have i:(18446744073709551616:Int)=((2 ^ k:Nat):Int)*(((2 ^ j:Nat):Int)*2):=by rw [show (18446744073709551616:Int)=((18446744073709551616:Nat):Int) from rfl,hN,ES,ES];rfl
  simp_all
 rw [hm];have h1:=QS n (show ((2 ^ k:Nat):Int)≠0 by omega);have g:=QP n (show (0:Int)<((2 ^ k:Nat):Int) by omega);unfold wrap64;omega
end Go.Proofs.YtjlfcbccpcigeacGreatDoor.NumMath
namespace Go.Proofs.YtjlfcbccpcigeacGreatDoor
open Go.RowKit
set_option linter.unusedVariables false
structure St where
 o:Int
 xa:Int
 xb:Int
 ya:Int
 yb:Int
 ar:Int
 sp:Int
 pl:Int
 nn:Int
structure Lp where
 l:List Int
 b:List St
 o:List Int
abbrev lC (L:Lp) (a b c:Option Addr) (x y z:Nat):Obj:=.cells #[.slice a L.l.length x,.slice b L.b.length y,.slice c L.o.length z] 62
abbrev lv (L:Lp) (a b c:Option Addr) (x y z:Nat):Value:=.agg #[.slice a L.l.length x,.slice b L.b.length y,.slice c L.o.length z]
def St.nil:St:=⟨0,0,0,0,0,0,0,0,0⟩
def nth (l:List Int) (i:Nat):Int:=l.getD i 0
def zc (l:List St) (i:Nat):St:=l.getD i St.nil
def inR (n lo hi:Int):Bool:=decide (lo<=n/\n<=hi)
theorem yh {n lo hi:Int} (h:lo<=n/\n<=hi):inR n lo hi=true:=Qi h
theorem X0 {n lo hi:Int} (h:¬(lo<=n/\n<=hi)):inR n lo hi=false:=Qk h
theorem zH {n lo hi:Int}:inR n lo hi=true↔lo<=n/\n<=hi:=by unfold inR;simp
def xj (n k at_ back:Int):Bool:=inR back 0 3 && inR at_ 0 (if back=0 then k - 1 else n - 1)
def Zp (m ar sp pl:Int):Bool:=inR ar 0 (m - 1) && inR sp (-64) 64 && inR pl (-64) 64
def yW (m n k:Int) (s:St):Bool :=
 if s.o=1 then decide (s.xa=0/\s.xb=0/\s.ya=0/\s.yb=0/\s.ar=0/\s.sp=0/\s.pl=0)
 else if s.o=2 then decide (s.xa=0/\s.xb=0/\s.ya=0/\s.yb=0/\s.ar=0/\s.sp=0/\s.pl=0/\s.nn=0)
 else if s.o=3 then decide (s.xa=0/\s.xb=0/\s.ya=0/\s.yb=0/\s.nn=0) && Zp m s.ar s.sp s.pl
 else if s.o=4 then decide (s.ya=0/\s.yb=0/\s.nn=0) && Zp m s.ar s.sp s.pl && xj n k s.xa s.xb
 else if 11<=s.o/\s.o<=18 then decide (s.ar=0/\s.sp=0/\s.pl=0/\s.nn=0) && xj n k s.xa s.xb && xj n k s.ya s.yb
 else false
def zF (p:Nat->Bool):Nat->Bool
 | 0=>true
 | k+1=>zF p k && p k
theorem zq {p:Nat->Bool} {n:Nat} (h:zF p n=true):∀k,k<n->p k=true:=by induction n <;> grind [zF]
theorem yk {p:Nat->Bool} {n:Nat} (h:∀k,k<n->p k=true):zF p n=true:=by induction n <;> grind [zF]
theorem yd {p:Nat->Bool} {n k:Nat} (a:k<n) (h:p k=false):zF p n=false:=by grind [zq]
def yr {p:Nat->Bool} {k:Nat} (h:zF p k=true) (a:p k=true):zF p (k+1)=true:=by grind [zF]
def yc6 (z:Int):Bool:=inR z 0 5
def Yn (l:List Int):Bool:=zF (fun i=>yc6 (nth l i)) l.length
def zp3 (l:List Int):Nat->Int
 | 0=>-1
 | i+1=>nth l i
def zup (n:Int) (l:List Int) (i:Nat):Bool:=inR (nth l i) (zp3 l i+1) (n - 1)
def Vq (n:Int) (l:List Int):Bool:=zF (zup n l) l.length
def YA (L:Lp):Bool:=zF (fun k=>yW L.l.length L.b.length k (zc L.b k)) L.b.length
def zQ (L:Lp):Bool :=
 decide (L.l.length<=3) && decide (1<=L.b.length) && decide (L.b.length<=16) && Yn L.l && Vq L.b.length L.o && YA L
def XK (n:Int) (l:List Int) (k:Nat) (hn:0<=n) (h:zF (zup n l) k=true):(k:Int) - 1<=zp3 l k/\zp3 l k<=n - 1:=by induction k <;> grind [zF,zup,zp3,zH]
def zow (n:Nat) (l:List Int) (h:Vq n l=true):l.length<=n:=by have h1:=XK n l l.length (by omega) h;omega
def yja (L:Lp) (h1:L.l.length<=3) (a:1<=L.b.length) (c:L.b.length<=16):zQ L=(Yn L.l && Vq L.b.length L.o && YA L):=by grind [zQ]
def zgz (L:Lp) (h:¬L.l.length<=3\/¬1<=L.b.length\/¬L.b.length<=16\/¬L.o.length<=16):zQ L=false:=by
 cases e:zQ L with
 | false=>rfl
 | true =>unfold zQ at e;simp only [Qg,QE] at e;obtain⟨⟨⟨⟨⟨c,d⟩,f⟩,g⟩,a⟩,i⟩:=e;have:=zow _ _ a;omega
theorem zy {L:Lp} (e:zQ L=true):L.l.length<=3/\1<=L.b.length/\L.b.length<=16/\L.o.length<=16/\Yn L.l=true/\Vq L.b.length L.o=true/\YA L=true:=by unfold zQ at e;simp only [Qg,QE] at e;obtain⟨⟨⟨⟨⟨c,d⟩,f⟩,g⟩,a⟩,h⟩:=e;have:=zow _ _ a;exact⟨c,d,f,by omega,g,a,h⟩
def zB (l:List (List Int)) (i:Nat):List Int:=l.getD i []
def xP (L:Lp) (B M:List (List Int)):Bool :=
 zQ L && decide (B.length=L.b.length) && decide (M.length=L.l.length)
  && zF (fun i=>decide ((zB B i).length=3)) B.length && zF (fun i=>decide ((zB M i).length=2 ^ (nth L.l i).toNat)) M.length
end Go.Proofs.YtjlfcbccpcigeacGreatDoor
namespace Go.Proofs.YtjlfcbccpcigeacGreatDoor
set_option linter.unusedVariables false
def Z8 (n:Nat):Nat:=if n=1 then 0 else if n=2 then 1 else if n=4 then 2 else if n=8 then 3 else if n=16 then 4 else if n=32 then 5 else 6
def zgm (r:List Int):Bool:=decide (Z8 r.length<6)
def Zz (M:List (List Int)):Bool:=zF (fun i=>zgm (zB M i)) M.length
def zK (M:List (List Int)):List Int:=(List.range M.length).map fun i=>(Z8 (zB M i).length:Int)
theorem Zn (M:List (List Int)):(zK M).length=M.length:=by unfold zK;simp
theorem YF (M:List (List Int)) (i:Nat) (h:i<M.length):nth (zK M) i=(Z8 (zB M i).length:Int):=by grind [nth,zK]
theorem zgv (n:Nat):Z8 n<=6:=by grind [Z8]
end Go.Proofs.YtjlfcbccpcigeacGreatDoor
namespace Go.Proofs.YtjlfcbccpcigeacGreatDoor
open Go.RowKit Go.Joins
set_option linter.unusedVariables false
def zr (w:World) (g:Nat) (e:TypeId) (n:Nat) (f:Nat->Value):Prop :=
 ∃cur:Array Value,w.heap[g]?=some (.cells cur e (0,0))/\n<=cur.size/\∀i,i<n->cur[i]?=some (f i)
theorem zr.cell {w:World} {g:Nat} {e:TypeId} {n:Nat} {f:Nat->Value} (h:zr w g e n f) {i:Nat} (hi:i<n):w.cell? (E g i)=some (f i):=by obtain⟨c,hb,_,a⟩:=h;simp [World.cell?,hb,a i hi]
def zr.frozen {w:World} {g:Nat} {e:TypeId} {n:Nat} {f:Nat->Value} (h:zr w g e n f) (i:Nat):w.frozen? (E g i)=false:=by obtain⟨c,hb,_,_⟩:=h;simp [World.frozen?,hb]
def zr.lt {w:World} {g:Nat} {e:TypeId} {n:Nat} {f:Nat->Value} (h:zr w g e n f):g<w.heap.size:=by grind [zr]
theorem zr.congr {w:World} {g:Nat} {e:TypeId} {n:Nat} {f a:Nat->Value} (h:zr w g e n f) (b:∀i,i<n->f i=a i):zr w g e n a:=by grind [zr]
def zr.gG {w w':World} {g:Nat} {e:TypeId} {n:Nat} {f:Nat->Value} (h:zr w g e n f) (a:w'.heap[g]?=w.heap[g]?):zr w' g e n f:=by grind [zr]
theorem zr.set {w:World} {g:Nat} {e:TypeId} {n:Nat} {f:Nat->Value} (h:zr w g e n f) (i:Nat) (v:Value) (hi:i<n):zr (w.setCell (E g i) v) g e n (fun j=>if j=i then v else f j):=by
 obtain⟨c,hb,hn,a⟩:=h;refine⟨c.setIfInBounds i v,?_,by simpa using hn,fun j b=>?_⟩
 ·simp [World.setCell,QC,hb]
 grind
theorem zr.gF {w:World} {g:Nat} {e:TypeId} {n:Nat} {f:Nat->Value} (h:zr w g e n f) {a:Addr} (b:g≠a.block) (v:Value):zr (w.setCell a v) g e n f :=
 h.gG (Qj _ _ _ _ b)
def zr.alloc {w:World} {g:Nat} {e:TypeId} {n:Nat} {f:Nat->Value} (h:zr w g e n f) (o:Obj):zr (w.alloc o) g e n f :=
 h.gG (Qr _ _ _ h.lt)
def zr.drawn {w:World} {g:Nat} {e:TypeId} {n:Nat} {f:Nat->Value} (h:zr w g e n f) (k:Nat):zr (w.drewN k) g e n f:=h
def zr.grown {w w':World} {g:Nat} {e:TypeId} {n:Nat} {f:Nat->Value} {row:Option Nat} (h:zr w g e n f) (a:w.grownBy w' row) (hr:some g≠row):zr w' g e n f :=
 h.gG (a.block g h.lt hr)
def zr.gE {w w':World} {g B:Nat} {e:TypeId} {n:Nat} {f:Nat->Value} (h:zr w g e n f) (hb:Below B w w') (a:g<B):zr w' g e n f :=
 h.gG (hb.block g a)
def zr.apart {w:World} {g b:Nat} {e a:TypeId} {n d:Nat} {f c:Nat->Value} (h:zr w g e n f) (i:zr w b a d c) (j:e≠a):g≠b:=by grind [zr]
theorem zr.made (w:World) (c:Array Value) (e:TypeId) (n:Nat) (f:Nat->Value) (hn:n<=c.size) (a:∀i,i<n->c[i]?=some (f i)):zr (w.alloc (.cells c e)) w.heap.size e n f :=
 ⟨c,by show (w.heap.push _)[w.heap.size]?=_;simp,hn,a⟩
theorem zr.zeros (w:World) (z:Value) (n:Nat) (e:TypeId):zr (w.alloc (.cells (madeCells #[z] n) e)) w.heap.size e n (fun _=>z):=by obtain⟨c,hb,hn,a⟩:=World.rowIs_made w z n e;exact⟨c,hb,by omega,a⟩
theorem yC {w:World} {base:Nat} {e:TypeId} {v:Value} {n:Nat} {b:List Value} (h:w.ownsRow base e 1 v n b) (k:v≠.slice none 0 0\/0<n) :
  ∃g cap,v=.slice (pA g) n cap/\base<=g/\n<=cap/\cap<=maxLen/\zr w g e n (fun i=>b.getD i (.bool false)):=by
 obtain⟨f,h⟩:=h;rcases h with ⟨rfl,hn⟩ | ⟨g,cap,a,rfl,c,hb,hn,hm,d,j⟩
 ·simp_all
 refine⟨g,cap,rfl,c,hn,hm,a,hb,by omega,fun i hi=>?_⟩;grind
def zp {w w':World} {base:Nat} {e:TypeId} {c:Nat} {v:Value} {n:Nat} {d:List Value} (h:w.ownsRow base e c v n d) (hb:Bw w w'):w'.ownsRow base e c v n d:=by
 obtain⟨i,h⟩:=h;refine⟨i,?_⟩;rcases h with h | ⟨g,cap,a,j,f,b,r⟩
 ·exact .inl h
 exact .inr ⟨g,cap,a,j,f,by rw [hb.block g (lo b)];exact b,r⟩
def xo {w:World} {base:Nat} {e a:TypeId} {v:Value} {n m:Nat} {j:List Value} {g:Nat} {f:Nat->Value} (h:w.ownsRow base e 1 v n j) (hr:zr w g a m f) (k:a≠e):some g≠v.ownBlock:=by
 obtain⟨p,h⟩:=h;rcases h with ⟨rfl,_⟩ | ⟨i,cap,d,rfl,l,o,r⟩
 ·intro h;cases h
 intro h;have b:g=i:=by simpa [Value.ownBlock] using h
 subst b;obtain⟨c,hb,_,_⟩:=hr;simp_all
def zR {w:World} {base:Nat} {e:TypeId} {v:Value} {n:Nat} {c:List Value} (h:w.ownsRow base e 1 v n c):∀k,v.ownBlock=some k->base<=k:=by
 obtain⟨g,h⟩:=h;rcases h with ⟨rfl,_⟩ | ⟨b,cap,a,rfl,d,f,r⟩
 ·intro k h;cases h
 intro k h;have:b=k:=by simpa [Value.ownBlock] using h
 omega
def VL (w:World) (e:TypeId):(w.alloc (.cells #[] e)).ownsRow w.heap.size e 1 (.slice (pA w.heap.size) 0 0) 0 []:=by refine⟨rfl,.inr ⟨w.heap.size,0,#[],rfl,Qc _,?_,Qc _,Ql _,rfl,rfl⟩⟩;show (w.heap.push _)[w.heap.size]?=_;simp
end Go.Proofs.YtjlfcbccpcigeacGreatDoor
namespace Go.Proofs.YtjlfcbccpcigeacGreatDoor
open Go.RowKit Go.Joins
set_option linter.unusedVariables false
def Zh (w:World) (g:Nat) (e:TypeId) (cap n:Nat) (f:Nat->Value):Prop :=
 ∃cur:Array Value,w.heap[g]?=some (.cells cur e (0,0))/\cur.size=cap/\n<=cap/\∀i,i<n->cur[i]?=some (f i)
def Zh.row {w:World} {g:Nat} {e:TypeId} {cap n:Nat} {f:Nat->Value} (h:Zh w g e cap n f):zr w g e n f:=by grind [Zh,zr]
def Zh.le {w:World} {g:Nat} {e:TypeId} {cap n:Nat} {f:Nat->Value} (h:Zh w g e cap n f):n<=cap:=by grind [Zh]
def Zh.lt {w:World} {g:Nat} {e:TypeId} {cap n:Nat} {f:Nat->Value} (h:Zh w g e cap n f):g<w.heap.size:=h.row.lt
theorem Zh.congr {w:World} {g:Nat} {e:TypeId} {cap n:Nat} {f a:Nat->Value} (h:Zh w g e cap n f) (b:∀i,i<n->f i=a i):Zh w g e cap n a:=by grind [Zh]
def Zh.gG {w w':World} {g:Nat} {e:TypeId} {cap n:Nat} {f:Nat->Value} (h:Zh w g e cap n f) (a:w'.heap[g]?=w.heap[g]?):Zh w' g e cap n f:=by grind [Zh]
theorem Zh.gF {w:World} {g:Nat} {e:TypeId} {cap n:Nat} {f:Nat->Value} (h:Zh w g e cap n f) {a:Addr} (b:g≠a.block) (v:Value):Zh (w.setCell a v) g e cap n f :=
 h.gG (Qj _ _ _ _ b)
theorem Zh.set {w:World} {g:Nat} {e:TypeId} {cap n:Nat} {f:Nat->Value} (h:Zh w g e cap n f) (i:Nat) (v:Value) (hi:i<n):Zh (w.setCell (E g i) v) g e cap n (fun j=>if j=i then v else f j):=by
 obtain⟨c,hb,hs,hn,a⟩:=h;refine⟨c.setIfInBounds i v,?_,by simpa using hs,hn,fun j b=>?_⟩
 ·simp [World.setCell,QC,hb]
 grind
def Zh.gE {w w':World} {g B:Nat} {e:TypeId} {cap n:Nat} {f:Nat->Value} (h:Zh w g e cap n f) (hb:Below B w w') (a:g<B):Zh w' g e cap n f :=
 h.gG (hb.block g a)
def YD (f:Nat->Value) (n i:Nat) (h:i<n):((List.range n).map f).getD i (.bool false)=f i:=by grind
def Zh.own {w:World} {g base:Nat} {e:TypeId} {cap n:Nat} {f:Nat->Value} (h:Zh w g e cap n f) (hb:base<=g) (hm:cap<=maxLen):w.ownsRow base e 1 (.slice (pA g) n cap) n ((List.range n).map f):=by
 obtain⟨c,a,hs,hn,b⟩:=h;refine⟨by simp,.inr ⟨g,cap,c,rfl,hb,a,hn,hm,by omega,?_⟩⟩;rw [Nat.mul_one];refine List.ext_getElem? fun i=>?_;grind
def yd4 {w:World} {base g cap n:Nat} {e:TypeId} {c:List Value} (h:w.ownsRow base e 1 (.slice (pA g) n cap) n c):base<=g/\cap<=maxLen/\Zh w g e cap n (fun i=>c.getD i (.bool false)):=by
 obtain⟨l,h⟩:=h;rcases h with ⟨h,hn⟩ | ⟨j,b,a,f,d,hb,hn,hm,k,m⟩
 ·simp_all
 injection f with e1 e2 e3;injection e1 with e1;injection e1 with e1;subst e1;subst e3;refine⟨d,hm,a,hb,by omega,hn,fun i hi=>?_⟩;grind
end Go.Proofs.YtjlfcbccpcigeacGreatDoor
namespace Go.Proofs.YtjlfcbccpcigeacGreatDoor
set_option linter.unusedVariables false
variable {P:Program} {ops:Array Oper} {Q:Exit->Act->World->Prop} {md:Region.Mode} {S:World->Prop} {z:Nat}
def YX (P:Program) (md:Region.Mode) (ops:Array Oper) (Q:Exit->Act->World->Prop) (S:World->Prop) (z:Nat):Nat->Array Bool->Act->World->Prop
 | 0,gV,a,w=>Region.ready md ops gV=[]/\Q .normal a w
 | fuel+1,gV,a,w =>
   (Region.ready md ops gV=[]->Q .normal a w) /\
   ∀i∈Region.ready md ops gV,wpOp P ops Q i (fun a' w'=>(i=z\/S w')/\YX P md ops Q S z fuel (gV.setIfInBounds i true) a' w') a w
def U1:∀(b:Nat) (c:Array Bool) (a:Act) (w:World),YX P md ops Q S z b c a w->wpAny P md ops Q b c a w
 | 0,_,_,_,h=>h
 | b+1,_,_,_,h=>⟨h.1,fun i hi=>wpOp_mono (fun a' w' k=>U1 b _ a' w' k.2) (h.2 i hi)⟩
def VV (md:Region.Mode) (ops:Array Oper) (z i:Nat):Bool:=match ops[z]? with
 | some o=>o.after.any fun e=>Region.binds md e && e.on == i
 | none=>true
theorem zbt {i:Nat} {o:Oper} (h:VV md ops z i=true) (a:ops[z]?=some o):∃e∈o.after,Region.binds md e=true/\e.on=i:=by grind [VV]
def zq7 {i:Nat} {oj:Oper} {a:Array Bool} (h0:a.getD i true=false) (hall:∀e∈oj.after,Region.binds md e=true->a.getD e.on false=true):∀e∈oj.after,Region.binds md e=true->e.on≠i:=by grind
def yif (md:Region.Mode) (ops:Array Oper) (gV:Array Bool) (z i:Nat):Prop:=VV md ops z i=true\/∃j,VV md ops z j=true/\VV md ops j i=true/\gV.getD j true=false
def zgn (md:Region.Mode) (ops:Array Oper) (gV:Array Bool) (z i:Nat):Bool:=VV md ops z i || (List.range ops.size).any fun j=>VV md ops z j && VV md ops j i && !(gV.getD j true)
def yg2 {a:Array Bool} {i:Nat} (h:zgn md ops a z i=true):yif md ops a z i:=by grind [zgn,yif]
def zdq {i j:Nat} {oj:Oper} {a:Array Bool} (c:VV md ops j i=true) (h0:a.getD i true=false) (b:ops[j]?=some oj) (hall:∀e∈oj.after,Region.binds md e=true->a.getD e.on false=true):False:=by grind [zbt]
def zqa {i:Nat} {p:Oper} {v:Value} (hi:ops[i]?=some p) (I:∀(j:Nat) (o:Oper) r b,ops[j]?=some o->o.op≠.select r b)
  (O:∀c a w,Q (.panic c) (a.put p.dst v) w->Q (.panic c) a w):∀(d:Nat) (l:Array Bool) (a:Act) (w:World),yif md ops l z i ->
   (∀j oj,ops[j]?=some oj->j≠i->l.getD j true=false->(∀e∈oj.after,Region.binds md e=true->e.on≠i)->p.apart ops oj=true) ->
   i∈Region.ready md ops l->YieldsIf P ops S p v a->S w->YX P md ops Q S z d (l.setIfInBounds i true) (a.put p.dst v) w->YX P md ops Q S z (d+1) l a w:=by
 intro d
 induction d with
 | zero =>
   intro l a w _ _ hr u hS H
   refine⟨fun h=>absurd hr (by rw [h];simp),fun j t=>?_⟩
   by_cases f:j=i
   ·subst f;exact u.wpOp hi hS ⟨.inr hS,H⟩
   ·have hm:=ready_mono t f
    rw [H.1] at hm
    cases hm
 | succ d ih =>
   intro l a w n g hr u hS H
   refine⟨fun h=>absurd hr (by rw [h];simp),fun j t=>?_⟩
   by_cases f:j=i
   ·subst f;exact u.wpOp hi hS ⟨.inr hS,H⟩
   ·obtain⟨G,oj,m,hall⟩:=mem_ready.1 t
    have x:=(mem_ready.1 hr).1
    have K:=zq7 (oj:=oj) x hall
    have L:j≠z:=fun e=>by
     subst e
     rcases n with n | ⟨q,h1,y,A⟩
     ·exact zdq n x m hall
     ·exact zdq h1 A m hall
    have M:yif md ops (l.setIfInBounds j true) z i:=by
     rcases n with n | ⟨q,h1,y,A⟩
     ·exact .inl n
     ·refine .inr ⟨q,h1,y,?_⟩
      have C:j≠q:=fun e=>by subst e;exact zdq y x m hall
      rw [getD_set_ne true C];exact A
    have N:=wpOp_putIf m (g j oj m f G K) (fun r b=>I i p r b hi) (fun r b=>I j oj r b m) O u (H.2 j (ready_mono t f))
    refine wpOp_mono (fun a' w' k=>?_) N
    have F:S w':=k.2.1.resolve_left L
    refine⟨.inr F,ih _ a' w' M (fun q R C D s B=>g q R C D ?_ B) (ready_mono hr (Ne.symm f)) k.1 F ?_⟩
    ·by_cases e:j=q
     ·subst e;exact G
     ·rw [getD_set_ne true e] at s;exact s
    ·rw [Array.setIfInBounds_comm _ _ f];exact k.2.2
def YK {i:Nat} {a:Oper} {rest:List Oper} (h:ops.toList.drop i=a :: rest):ops[i]?=some a:=by
 have h1:(ops.toList.drop i)[0]?=some a:=by rw [h];rfl
 grind
theorem Uo {i:Nat} {f:Oper} {rest:List Oper} {v:Value} {b:Nat} {d:Array Bool} {a:Act} {w:World} (g:ops.toList.drop i=f :: rest)
  (hs:Region.noSelect ops=true) (k:Region.free md ops d i=true) (hr:(Region.ready md ops d).contains i=true) (m:zgn md ops d z i=true)
  (j:∀c a w,Q (.panic c) (a.put f.dst v) w->Q (.panic c) a w) (l:YieldsIf P ops S f v a) (hS:S w)
  (h:YX P md ops Q S z b (d.setIfInBounds i true) (a.put f.dst v) w):YX P md ops Q S z (b+1) d a w :=
 zqa (YK g) (qd hs) j b d a w (yg2 m) (Region.free_spec (YK g) k) (by simpa using hr) l hS h
def utk {i:Nat} {f:Oper} {rest:List Oper} {v:Value} {b:Nat} {d:Array Bool} {a a':Act} {w:World} (k:ops.toList.drop i=f :: rest) (hS:S w)
  (h:YX P md ops Q S z b (d.setIfInBounds i true) a' w)
  (m:YieldsIf P ops S f v a:=by refine Or.inl ⟨by rfl,?_⟩;intro w hSw;(try dsimp only at hSw);go_simp;(try with_reducible rfl))
  (j:a.put f.dst v=a':=by (try simp only [Act.put,Qn,Qy,Qz]);exact rfl)
  (hs:Region.noSelect ops=true:=by kernel_rfl) (l:Region.free md ops d i=true:=by kernel_rfl) (hr:(Region.ready md ops d).contains i=true:=by kernel_rfl) (n:zgn md ops d z i=true:=by kernel_rfl)
  (g:∀c a w,Q (.panic c) (a.put f.dst v) w->Q (.panic c) a w:=by exact fun _ _ _ h=>h):YX P md ops Q S z (b+1) d a w :=by grind [Uo]
def uk (i:Nat) {f:Oper} {rest:List Oper} {v:Value} {b:Nat} {d:Array Bool} {a a':Act} {w:World}
  (h:YX P md ops Q S z b (d.setIfInBounds i true) a' w) (hS:S w:=by assumption) (k:ops.toList.drop i=f :: rest:=by exact rfl)
  (m:YieldsIf P ops S f v a:=by refine Or.inl ⟨by rfl,?_⟩;intro w hSw;(try dsimp only at hSw);go_simp;(try with_reducible rfl))
  (j:a.put f.dst v=a':=by (try simp only [Act.put,Qn,Qy,Qz]);exact rfl)
  (hs:Region.noSelect ops=true:=by kernel_rfl) (l:Region.free md ops d i=true:=by kernel_rfl) (hr:(Region.ready md ops d).contains i=true:=by kernel_rfl) (n:zgn md ops d z i=true:=by kernel_rfl)
  (g:∀c a w,Q (.panic c) (a.put f.dst v) w->Q (.panic c) a w:=by exact fun _ _ _ h=>h):YX P md ops Q S z (b+1) d a w :=by grind [Uo]
def uk2 (i:Nat) {o1 g:Oper} {r1 r2:List Oper} {k v2:Value} {b:Nat} {d:Array Bool} {a j l:Act} {w:World}
  (h:YX P md ops Q S z b ((d.setIfInBounds i true).setIfInBounds (i+1) true) l w) (hS:S w:=by assumption) (m:ops.toList.drop i=o1 :: r1:=by exact rfl) (n:ops.toList.drop (i+1)=g :: r2:=by exact rfl)
  (s:YieldsIf P ops S o1 k a:=by refine Or.inl ⟨by rfl,?_⟩;intro w hSw;(try dsimp only at hSw);go_simp;(try with_reducible rfl))
  (o:a.put o1.dst k=j:=by (try simp only [Act.put,Qn,Qy,Qz]);exact rfl)
  (t:YieldsIf P ops S g v2 j:=by refine Or.inl ⟨by rfl,?_⟩;intro w hSw;(try dsimp only at hSw);go_simp;(try with_reducible rfl))
  (p:j.put g.dst v2=l:=by (try simp only [Act.put,Qn,Qy,Qz]);exact rfl)
  (hs:Region.noSelect ops=true:=by kernel_rfl)
  (f:(Region.free md ops d i && (Region.ready md ops d).contains i && zgn md ops d z i && (Region.free md ops (d.setIfInBounds i true) (i+1) && (Region.ready md ops (d.setIfInBounds i true)).contains (i+1) && zgn md ops (d.setIfInBounds i true) z (i+1)))=true:=by kernel_rfl)
  (q:∀c a w,Q (.panic c) (a.put o1.dst k) w->Q (.panic c) a w:=by exact fun _ _ _ h=>h) (r:∀c a w,Q (.panic c) (a.put g.dst v2) w->Q (.panic c) a w:=by exact fun _ _ _ h=>h):YX P md ops Q S z (b+1+1) d a w:=by simp only [Qg] at f;exact Uo m hs f.1.1.1 f.1.1.2 f.1.2 q s hS (o ▸ Uo n hs f.2.1.1 f.2.1.2 f.2.2 r t hS (p ▸ h))
def nxt {p:World->Prop} {q b:Act->World->Prop} (c:∀a w,p w->q a w->b a w) {a a':Act} {w:World} (f:p w) (h:q a' w)
  (d:a=a':=by (try simp only [Act.put,Qn,Qy,Qz]);exact rfl):b a w:=c a w f (d ▸ h)
def zb {i:Nat} {o:Oper} {rest:List Oper} {b:Nat} {d:Array Bool} {a:Act} {w:World} (l:ops.toList.drop i=o :: rest) (hr:Region.ready md ops d=[i])
  (h:∀c:Act->World->Prop,Shut (∀a w,(i=z\/S w)->YX P md ops Q S z b (d.setIfInBounds i true) a w->c a w)->if Region.wanted o (yielded ops a.tmps)=true then Oper.wp P o a w c Q else c (a.put o.dst undef) w) :
  YX P md ops Q S z (b+1) d a w :=
 ⟨fun h0=>absurd (hr ▸ h0) (by simp),fun j f=>by
  rw [hr] at f
  have e:j=i:=by simpa using f
  subst e
  exact wpOp_step (YK l) (fun c g=>h c (fun a w hS k=>g a w ⟨hS,k⟩))⟩
def uo (i:Nat) {o:Oper} {rest:List Oper} {b:Nat} {d:Array Bool} {a:Act} {w:World}
  (h:∀c:Act->World->Prop,Shut (∀a w,(i=z\/S w)->YX P md ops Q S z b (d.setIfInBounds i true) a w->c a w)->if Region.wanted o (yielded ops a.tmps)=true then Oper.wp P o a w c Q else c (a.put o.dst undef) w)
  (f:ops.toList.drop i=o :: rest:=by exact rfl) (hr:Region.ready md ops d=[i]:=by kernel_rfl):YX P md ops Q S z (b+1) d a w:=zb f hr h
def zj {c:Array Bool} {a:Act} {w:World} (hr:Region.ready md ops c=[]) (h:Q .normal a w):∀b,YX P md ops Q S z b c a w
 | 0=>⟨hr,h⟩
 | _+1=>⟨fun _=>h,by rw [hr];simp⟩
def zg {id:Nat} {a:Act} {w:World} (z:Nat) (S:World->Prop) (hm:P.follows .mixedOrders=true) (hS:S w.drew) (h:S w.drew->YX P .any ops Q S z ops.size (Array.replicate ops.size false) a w.drew):(Code.region id ops true).wp P Q a w :=
 wp_region_any hm (U1 _ _ _ _ (h hS))
def rg {id:Nat} {a:Act} {w:World} (z:Nat) (S:World->Prop) (hS:S w.drew) (h:S w.drew->YX P .any ops (NoPanic Q) S z ops.size (Array.replicate ops.size false) a w.drew) (hm:P.follows .mixedOrders=true:=by kernel_rfl):(Code.region id ops true).wp P Q a w:=wp_region_noPanic (zg z S hm hS h)
def rh {id:Nat} {a:Act} {w:World} (z:Nat) {R S:World->Prop} (H:∀x,R x->S x) (hR:R w.drew) (h:S w.drew->YX P .any ops (NoPanic Q) S z ops.size (Array.replicate ops.size false) a w.drew) (hm:P.follows .mixedOrders=true:=by kernel_rfl):(Code.region id ops true).wp P Q a w:=rg z S (H _ hR) h hm
def rd {b:Array Bool} {a:Act} {w:World} {n:Nat} (h:Q .normal a w) (hr:Region.ready md ops b=[]:=by kernel_rfl):YX P md ops (NoPanic Q) S z n b a w:=zj hr (NoPanic.normal h) n
end Go.Proofs.YtjlfcbccpcigeacGreatDoor
namespace Go.Proofs.YtjlfcbccpcigeacGreatDoor
open Go.ChangeMaps Go.MapKept
open Go.WideMaps (KeyLaw)
open Go.WideElems (Fit)
open Go.Maps (Keyed)
set_option linter.unusedVariables false
def zjk {w:World} {b:Nat} {c:Array MapEntry} {a:Nat} (hb:w.heap[b]?=some (.map c a)) (o:Obj):w.grownBy (setBlock w b o) (some b) :=
 ⟨rfl,rfl,rfl,by simp [setBlock],fun i _ hi=>heap_setBlock_other hb _ (fun e=>hi (by rw [e]))⟩
section
variable {H:Type} {P:Program} {w:World} {t k e:TypeId} {b n:Nat} {D:DataW H}
def zje (K:KeyLaw P k) (m:P.underlying t=some (.map k e)) (v:P.underlying e=some (.int .i64)) (r:∀u:World,(zeroValue e).run P u=.ok (.int .i64 0) u) (h:w.ownsMap P k (plainElem P e) b n D) (hn:n<maxLen)
  {key:Value} {O:Lit} (g:keyOf P k key=some O) {c:Int} (V:(Instr.lookup t (.map (some b)) key false).run P w=.ok (.int .i64 c) w) :
  ∃ v0 st w1,(Instr.mapEntry t (.map (some b)) key).run P w=.ok (.tuple #[v0,goInt st]) w1/\w.grownBy w1 (some b)/\(Instr.lookup t (.map (some b)) key false).run P w1=.ok (.int .i64 c) w1 /\
    ∀(w2:World) (a:Int),w2.heap[b]?=w1.heap[b]?->(Lit.int .i64 a).wf=true->∃Q,(Instr.entryStore t (.map (some b)) (goInt st) (.int .i64 a)).run P w2=.ok () Q/\w2.grownBy Q (some b)/\Q.ownsMap P k (plainElem P e) b (n+1) (D.put O (.lit (.int .i64 a))):=by
 have q:=Keyed.of_law K
 obtain⟨i,d,hb,F,hs,M⟩:=h
 have A:w.ownsMap P k (plainElem P e) b n D:=⟨i,d,hb,F,hs,M⟩
 obtain⟨v0,st,l,f,af,aH,ag⟩:=WideElems.entry_then_store K m r hb F g
 have aK:(setBlock w b (.map l f)).heap[b]?=some (.map l f):=heap_setBlock_same hb _
 refine⟨v0,st,setBlock w b (.map l f),af,zjk hb _,?_,?_⟩
 ·
  have aU:plainElem (H:=H) P e (.int .i64 0)=some (.lit (.int .i64 0),[]):=plainElem_int v (by decide)
  have ah:=K.find w g i.toList F.keys
  obtain⟨s1,s2,_⟩:=F.stamped
  rcases ah with ⟨h1,B⟩ | ⟨j,s,h1,B,U⟩
  ·
   have I:setBlock w b (.map l f)=setBlock w b (.map (i.push ⟨key,.int .i64 0,d⟩) (d+1)):=by
    have hr:(Instr.mapEntry t (.map (some b)) key).run P w=.ok (.tuple #[.int .i64 0,goInt d]) (setBlock w b (.map (i.push ⟨key,.int .i64 0,d⟩) (d+1))):=by
     simp [Instr.mapEntry,run_underlying m,MapKept.run_getObj_map hb,K.check w false g,h1,r,MapKept.run_setObj_map _ hb,Result.andThen,setBlock]
    grind
   have hu:(Instr.mapUpdate t (.map (some b)) key (.int .i64 0)).run P w=.ok () (setBlock w b (.map (i.push ⟨key,.int .i64 0,d⟩) (d+1))):=by
    simp [Instr.mapUpdate,run_underlying m,MapKept.run_getObj_map hb,K.check w false g,h1,MapKept.run_setObj_map _ hb,Result.andThen,setBlock]
   obtain⟨w',C,x,_⟩:=A.update q m hn g aU
   have G:=(Result.ok.inj (hu.symm.trans C)).2
   obtain⟨c',W,aE,_⟩:=A.lookup_int q m v (r w) g
   have ao:c=c':=(Value.int.inj (Result.ok.inj (V.symm.trans W)).1).2
   subst ao
   have aO:(Instr.lookup t (.map (some b)) key false).run P w=.ok (.int .i64 0) w:=by
    rcases Maps.fit_look false q m (r w) hb F g with ⟨hr,_,_⟩ | ⟨s,y,hm,hk,_⟩
    ·exact hr
    ·simp_all
   have aL:(0:Int)=c:=(Value.int.inj (Result.ok.inj (aO.symm.trans V)).1).2
   rw [I,G]
   have N:w'.ownsMap P k (plainElem P e) b (n+1) (D.put O (.lit (.int .i64 0))):=x
   obtain⟨c2,T,S,_⟩:=N.lookup_int q m v (r _) g
   rw [T]
   have hm:Maps.IsMap D:=by rw [M];exact⟨_,rfl⟩
   rw [ql hm (q.key g)] at S
   simp_all
  ·have hj:i[j]?=some s:=by simpa using B
   have ai:i.modify j (fun e=>{ e with key:=key })=i:=by
    apply Array.ext'
    rw [Array.toList_modify,modify_eq_set _ _ _ _ B]
    have:({ s with key:=key }:MapEntry)=s:=by rw [<-U]
    rw [this]
    exact WideElems.set_self _ _ _ B
   have I:setBlock w b (.map l f)=setBlock w b (.map i d):=by
    have hr:(Instr.mapEntry t (.map (some b)) key).run P w=.ok (.tuple #[s.val,goInt s.born]) (setBlock w b (.map i d)):=by
     simp [Instr.mapEntry,run_underlying m,MapKept.run_getObj_map hb,K.check w false g,h1,hj,U,K.stays w g,ai,MapKept.run_setObj_map _ hb,Result.andThen,setBlock]
    simp_all
   rw [I]
   have N:(setBlock w b (.map i d)).ownsMap P k (plainElem P e) b n D:=⟨i,d,heap_setBlock_same hb _,F,hs,M⟩
   obtain⟨c2,T,S,_⟩:=N.lookup_int q m v (r _) g
   obtain⟨c',W,aE,_⟩:=A.lookup_int q m v (r w) g
   simp_all
 ·intro w2 a p ha
  rw [aK] at p
  obtain⟨es',z,aQ,aR⟩:=ag w2 (.int .i64 a) p
  obtain⟨w',C,x,_⟩:=A.update q m hn g (plainElem_int v ha)
  have G:=(Result.ok.inj (aR.symm.trans C)).2
  refine⟨_,aQ,zjk p _,?_⟩
  rw [<-G] at x
  obtain⟨L,o,R,X,aS,aJ⟩:=x
  rw [heap_setBlock_same hb] at R
  exact⟨L,o,by rw [heap_setBlock_same p];exact R,X,aS,aJ⟩
end
end Go.Proofs.YtjlfcbccpcigeacGreatDoor
namespace Go.Proofs.YtjlfcbccpcigeacGreatDoor
open Go.Proofs.Tryz Go.RowKit Go.Joins
set_option linter.unusedVariables false
set_option linter.unusedSimpArgs false
set_option maxRecDepth 8192
section
open Go.RowKit
def Z {p:Prop} (h:p):Hid p:=h
def p2 (k:Nat):Int:=((2 ^ k:Nat):Int)
def yjk (k:Nat):0<p2 k:=Int.natCast_pos.2 (qh k)
def xe {k:IntKind} {a b:Int} (h:a=b):Ending.returned (.int k a)=.returned (.int k b):=by rw [h]
def zsq (s t:Int) (a:0<=t) (d:t<=200) (b:-64<=s) (hs:s<=64):-12800<=s*t/\s*t<=12800:=by have h1:=Wx hs a;have c:=Wx b a;omega
def yj0 (s p t l:Int) (h:0<=l) (k:l<=5) (a:0<=t) (g:t<=200) (b:-64<=s) (hs:s<=64) (i:-64<=p) (m:p<=64) :
  bits BinOp.and IntKind.i64 (wrap64 (wrap64 (s*t)+p)) (wrap64 (wrap64 (2 ^ l.toNat) - 1))=(s*t+p) % p2 l.toNat:=by
 unfold p2;have hr:=zsq s t a g b hs;have c:wrap64 (wrap64 (s*t)+p)=s*t+p:=by unfold wrap64;omega
 have f:((2:Int) ^ l.toNat)=((2 ^ l.toNat:Nat):Int):=by simp
 have hb:2 ^ l.toNat<=2 ^ 5:=WP (by omega) (by omega);have j:=qh l.toNat;rw [c,f];have d:wrap64 (wrap64 ((2 ^ l.toNat:Nat):Int) - 1)=((2 ^ l.toNat:Nat):Int) - 1:=by
  generalize 2 ^ l.toNat=P at *
  unfold wrap64;omega
 rw [d];exact NumMath.i64_mask _ _ (by omega)
def ztl (n lo hi:Int) (w:World) (h1:lo<=n) (a:n<=hi) :
  Calls prog 229 #[J n,J lo,J hi] w fun e w'=>e=.returned (.bool true)/\w'=w:=by go_enter func229,ntmps229;go_wp2;go_ret;exact⟨rfl,rfl⟩
def zzn (n lo hi:Int) (w:World) (h:¬(lo<=n/\n<=hi)) :
  Calls prog 229 #[J n,J lo,J hi] w fun e w'=>e=.returned (.bool false)/\w'=w:=by
 by_cases h1:lo<=n
 ·have a:decide (n<=hi)=false:=Qk (by omega);clear h;go_enter func229,ntmps229;go_wp2;go_ret;exact⟨rfl,rfl⟩
 clear h;go_enter func229,ntmps229;go_wp2;go_ret;exact⟨rfl,rfl⟩
def inB (n lo hi:Int):Bool:=decide (lo<=n/\n<=hi)
def XW (n lo hi:Int) (w:World) :
  Calls prog 229 #[J n,J lo,J hi] w fun e w'=>e=.returned (.bool (inB n lo hi))/\w'=w:=by
 by_cases h:lo<=n/\n<=hi
 ·rw [show inB n lo hi=true from Qi h];exact ztl n lo hi w h.1 h.2
 rw [show inB n lo hi=false from Qk h];exact zzn n lo hi w h
def idx (s p t l:Int):Int :=
 if 0<=l/\l<=5/\0<=t/\t<=200/\-64<=s/\s<=64/\-64<=p/\p<=64 then (s*t+p) % p2 l.toNat else 0
def zam (s p t l:Int) (w:World) :
  Calls prog 186 #[J s,J p,J t,J l] w fun e w'=>e=.returned (J (idx s p t l))/\w'=w:=by
 unfold idx;by_cases a:0<=l/\l<=5
 ·have m:inB l 0 5=true:=Qi a;by_cases b:0<=t/\t<=200
  ·have q:inB t 0 200=true:=Qi b;by_cases hs:-64<=s/\s<=64
   ·have o:inB s (-64) 64=true:=Qi hs;by_cases c:-64<=p/\p<=64
    ·have n:inB p (-64) 64=true:=Qi c;obtain⟨g,i⟩:=a;obtain⟨d,ht1⟩:=b;obtain⟨f,k⟩:=hs;obtain⟨h,j⟩:=c;rw [Qf ⟨g,i,d,ht1,f,k,h,j⟩];go_enter func186,ntmps186;go_wp2_with (go_at_call 229;refine (XW _ _ _ _).mono ?_;rintro e w' ⟨rfl,rfl⟩);go_ret;exact⟨xe (yj0 s p t l g i d ht1 f k h j),rfl⟩
    have n:inB p (-64) 64=false:=Qk c;rw [Qe (by omega)];clear a b hs c;go_enter func186,ntmps186;go_wp2_with (go_at_call 229;refine (XW _ _ _ _).mono ?_;rintro e w' ⟨rfl,rfl⟩);go_ret;exact⟨rfl,rfl⟩
   have o:inB s (-64) 64=false:=Qk hs;rw [Qe (by omega)];clear a b hs;go_enter func186,ntmps186;go_wp2_with (go_at_call 229;refine (XW _ _ _ _).mono ?_;rintro e w' ⟨rfl,rfl⟩);go_ret;exact⟨rfl,rfl⟩
  have q:inB t 0 200=false:=Qk b;rw [Qe (by omega)];clear a b;go_enter func186,ntmps186;go_wp2_with (go_at_call 229;refine (XW _ _ _ _).mono ?_;rintro e w' ⟨rfl,rfl⟩);go_ret;exact⟨rfl,rfl⟩
 have m:inB l 0 5=false:=Qk a;rw [Qe (by omega)];clear a;go_enter func186,ntmps186;go_wp2_with (go_at_call 229;refine (XW _ _ _ _).mono ?_;rintro e w' ⟨rfl,rfl⟩);go_ret;exact⟨rfl,rfl⟩
def opv (op a b:Int):Int :=
 if op=1 then wrap64 (a+b) else if op=2 then wrap64 (a - b) else if op=3 then wrap64 (a*b)
 else if op=4 then bits .and .i64 a b else if op=5 then bits .or .i64 a b else if op=6 then bits .xor .i64 a b
 else if op=7 then (if a<b then 1 else 0) else if op=8 then (if a=b then 1 else 0) else 0
def ye (op:Int):Int:=if op=3\/op=4 then 2 else if op=13 then 1 else 0
def yfa (w:World) :
  Calls prog 90 #[J 3] w fun e w'=>e=.returned (J (ye 3))/\w'=w:=by go_enter func90,ntmps90;go_wp2;go_ret;exact⟨rfl,rfl⟩
def yfb (w:World) :
  Calls prog 90 #[J 4] w fun e w'=>e=.returned (J (ye 4))/\w'=w:=by go_enter func90,ntmps90;go_wp2;go_ret;exact⟨rfl,rfl⟩
def yai (w:World) :
  Calls prog 90 #[J 13] w fun e w'=>e=.returned (J (ye 13))/\w'=w:=by go_enter func90,ntmps90;go_wp2;go_ret;exact⟨rfl,rfl⟩
def yaj (op:Int) (w:World) (a:op≠3) (b:op≠4) (c:op≠13) :
  Calls prog 90 #[J op] w fun e w'=>e=.returned (J (ye op))/\w'=w:=by
 have d:Hid (ye op=0):=by show ye op=0;grind [ye]
 have f:(op == 3)=false:=QM.2 a;have g:(op == 4)=false:=QM.2 b;have h:(op == 13)=false:=QM.2 c;clear a b c;go_enter func90,ntmps90;go_wp2;go_ret;exact⟨xe d.symm,rfl⟩
def zah (op:Int) (w:World) :
  Calls prog 90 #[J op] w fun e w'=>e=.returned (J (ye op))/\w'=w:=by
 by_cases a:op=3
 ·subst a;exact yfa w
 by_cases b:op=4
 ·subst b;exact yfb w
 by_cases c:op=13
 ·subst c;exact yai w
 exact yaj op w a b c
def yki (a b:Int) (w:World) :
  Calls prog 209 #[J 1,J a,J b] w (Rt w (J (opv 1 a b))):=by have d:∀(c:Fn) (first cap:Array Value) (w:World),(Instr.makeFunc c first cap).run prog w=.ok (.func c first cap) w:=fun _ _ _ _=>rfl;go_enter func209,ntmps209;go_wp2;go_ret;exact⟨rfl,by repeat (first | exact QA _ _ | apply Eb | refine Q6 ?_ (Qc _) _ | refine Q6 ?_ (by simp) _)⟩
def ykj (a b:Int) (w:World) :
  Calls prog 209 #[J 2,J a,J b] w (Rt w (J (opv 2 a b))):=by have d:∀(c:Fn) (first cap:Array Value) (w:World),(Instr.makeFunc c first cap).run prog w=.ok (.func c first cap) w:=fun _ _ _ _=>rfl;go_enter func209,ntmps209;go_wp2;go_ret;exact⟨rfl,by repeat (first | exact QA _ _ | apply Eb | refine Q6 ?_ (Qc _) _ | refine Q6 ?_ (by simp) _)⟩
def ykk (a b:Int) (w:World) :
  Calls prog 209 #[J 3,J a,J b] w (Rt w (J (opv 3 a b))):=by have d:∀(c:Fn) (first cap:Array Value) (w:World),(Instr.makeFunc c first cap).run prog w=.ok (.func c first cap) w:=fun _ _ _ _=>rfl;go_enter func209,ntmps209;go_wp2;go_ret;exact⟨rfl,by repeat (first | exact QA _ _ | apply Eb | refine Q6 ?_ (Qc _) _ | refine Q6 ?_ (by simp) _)⟩
def ykl (a b:Int) (w:World) :
  Calls prog 209 #[J 4,J a,J b] w (Rt w (J (opv 4 a b))):=by have d:∀(c:Fn) (first cap:Array Value) (w:World),(Instr.makeFunc c first cap).run prog w=.ok (.func c first cap) w:=fun _ _ _ _=>rfl;go_enter func209,ntmps209;go_wp2;go_ret;exact⟨rfl,by repeat (first | exact QA _ _ | apply Eb | refine Q6 ?_ (Qc _) _ | refine Q6 ?_ (by simp) _)⟩
def ykm (a b:Int) (w:World) :
  Calls prog 209 #[J 5,J a,J b] w (Rt w (J (opv 5 a b))):=by have d:∀(c:Fn) (first cap:Array Value) (w:World),(Instr.makeFunc c first cap).run prog w=.ok (.func c first cap) w:=fun _ _ _ _=>rfl;go_enter func209,ntmps209;go_wp2;go_ret;exact⟨rfl,by repeat (first | exact QA _ _ | apply Eb | refine Q6 ?_ (Qc _) _ | refine Q6 ?_ (by simp) _)⟩
def ykn (a b:Int) (w:World) :
  Calls prog 209 #[J 6,J a,J b] w (Rt w (J (opv 6 a b))):=by have d:∀(c:Fn) (first cap:Array Value) (w:World),(Instr.makeFunc c first cap).run prog w=.ok (.func c first cap) w:=fun _ _ _ _=>rfl;go_enter func209,ntmps209;go_wp2;go_ret;exact⟨rfl,by repeat (first | exact QA _ _ | apply Eb | refine Q6 ?_ (Qc _) _ | refine Q6 ?_ (by simp) _)⟩
def ycv (a b:Int) (w:World) (h:a<b) :
  Calls prog 209 #[J 7,J a,J b] w (Rt w (J (opv 7 a b))):=by have d:∀(c:Fn) (first cap:Array Value) (w:World),(Instr.makeFunc c first cap).run prog w=.ok (.func c first cap) w:=fun _ _ _ _=>rfl;go_enter func209,ntmps209;go_wp2;go_ret;exact⟨xe (by simp [opv,h]),by repeat (first | exact QA _ _ | apply Eb | refine Q6 ?_ (Qc _) _ | refine Q6 ?_ (by simp) _)⟩
def ycu (a b:Int) (w:World) (h:b<a) :
  Calls prog 209 #[J 7,J a,J b] w (Rt w (J (opv 7 a b))):=by have d:∀(c:Fn) (first cap:Array Value) (w:World),(Instr.makeFunc c first cap).run prog w=.ok (.func c first cap) w:=fun _ _ _ _=>rfl;go_enter func209,ntmps209;go_wp2;go_ret;exact⟨xe (by grind [opv]),by repeat (first | exact QA _ _ | apply Eb | refine Q6 ?_ (Qc _) _ | refine Q6 ?_ (by simp) _)⟩
def yct (a b:Int) (w:World) (h:a=b) :
  Calls prog 209 #[J 7,J a,J b] w (Rt w (J (opv 7 a b))):=by subst h;have d:∀(c:Fn) (first cap:Array Value) (w:World),(Instr.makeFunc c first cap).run prog w=.ok (.func c first cap) w:=fun _ _ _ _=>rfl;go_enter func209,ntmps209;go_wp2;go_ret;exact⟨xe (by simp [opv]),by repeat (first | exact QA _ _ | apply Eb | refine Q6 ?_ (Qc _) _ | refine Q6 ?_ (by simp) _)⟩
def ycy (a b:Int) (w:World) (h:a<b) :
  Calls prog 209 #[J 8,J a,J b] w (Rt w (J (opv 8 a b))):=by have d:∀(c:Fn) (first cap:Array Value) (w:World),(Instr.makeFunc c first cap).run prog w=.ok (.func c first cap) w:=fun _ _ _ _=>rfl;go_enter func209,ntmps209;go_wp2;go_ret;exact⟨xe (by grind [opv]),by repeat (first | exact QA _ _ | apply Eb | refine Q6 ?_ (Qc _) _ | refine Q6 ?_ (by simp) _)⟩
def ycx (a b:Int) (w:World) (h:b<a) :
  Calls prog 209 #[J 8,J a,J b] w (Rt w (J (opv 8 a b))):=by have d:∀(c:Fn) (first cap:Array Value) (w:World),(Instr.makeFunc c first cap).run prog w=.ok (.func c first cap) w:=fun _ _ _ _=>rfl;go_enter func209,ntmps209;go_wp2;go_ret;exact⟨xe (by grind [opv]),by repeat (first | exact QA _ _ | apply Eb | refine Q6 ?_ (Qc _) _ | refine Q6 ?_ (by simp) _)⟩
def ycw (a b:Int) (w:World) (h:a=b) :
  Calls prog 209 #[J 8,J a,J b] w (Rt w (J (opv 8 a b))):=by subst h;have d:∀(c:Fn) (first cap:Array Value) (w:World),(Instr.makeFunc c first cap).run prog w=.ok (.func c first cap) w:=fun _ _ _ _=>rfl;go_enter func209,ntmps209;go_wp2;go_ret;exact⟨xe (by simp [opv]),by repeat (first | exact QA _ _ | apply Eb | refine Q6 ?_ (Qc _) _ | refine Q6 ?_ (by simp) _)⟩
def yjd (op a b:Int) (w:World) (h:op<1\/8<op) :
  Calls prog 209 #[J op,J a,J b] w (Rt w (J (opv op a b))):=by
 have d:Hid (opv op a b=0):=by show opv op a b=0;grind [opv]
 have n1:(op == 1)=false:=QM.2 (by omega);have n2:(op == 2)=false:=QM.2 (by omega);have g:(op == 3)=false:=QM.2 (by omega);have i:(op == 4)=false:=QM.2 (by omega);have j:(op == 5)=false:=QM.2 (by omega);have k:(op == 6)=false:=QM.2 (by omega);have l:(op == 7)=false:=QM.2 (by omega);have m:(op == 8)=false:=QM.2 (by omega);have f:∀(c:Fn) (first cap:Array Value) (w:World),(Instr.makeFunc c first cap).run prog w=.ok (.func c first cap) w:=fun _ _ _ _=>rfl;clear h;go_enter func209,ntmps209;go_wp2;go_ret;exact⟨xe d.symm,by repeat (first | exact QA _ _ | apply Eb | refine Q6 ?_ (Qc _) _ | refine Q6 ?_ (by simp) _)⟩
def zun (op a b:Int) (w:World) :
  Calls prog 209 #[J op,J a,J b] w (Rt w (J (opv op a b))):=by
 by_cases h:op<1\/8<op
 ·exact yjd op a b w h
 obtain rfl | rfl | rfl | rfl | rfl | rfl | rfl | rfl:op=1\/op=2\/op=3\/op=4\/op=5\/op=6\/op=7\/op=8:=by omega
 ·exact yki a b w
 ·exact ykj a b w
 ·exact ykk a b w
 ·exact ykl a b w
 ·exact ykm a b w
 ·exact ykn a b w
 ·obtain h1 | h1 | h1:a<b\/b<a\/a=b:=by omega
  ·exact ycv a b w h1
  ·exact ycu a b w h1
  exact yct a b w h1
 obtain h1 | h1 | h1:a<b\/b<a\/a=b:=by omega
 ·exact ycy a b w h1
 ·exact ycx a b w h1
 exact ycw a b w h1
end
section
open Go.RowKit
variable {p:Nat->Bool} {n k i j t fr to bk:Nat} {pc r v x y m xa xb ya yb ar sp pl nn now R:Int} {B M:List (List Int)} {L:Lp} {s:St} {f:Nat->Int}
structure Tg where
 u0:Int
 u1:Int
 u2:Int
 w0:Int
 w1:Int
 w2:Int
 r:Int
abbrev tV (t:Tg):Value:=tv t.u0 t.u1 t.u2 t.w0 t.w1 t.w2 t.r
abbrev tO (t:Tg):Obj:=tB t.u0 t.u1 t.u2 t.w0 t.w1 t.w2 t.r
def Um (u w:Int):Bool:=inR u 1 4 && inR w 1 6
def zS (t:Tg):Bool:=Um t.u0 t.w0 && Um t.u1 t.w1 && Um t.u2 t.w2 && inR t.r 1 128
def yf (t:Tg) (c:Int):Int:=if c=0 then t.u0 else if c=1 then t.u1 else t.u2
def Xb (t:Tg) (c:Int):Int:=if c=0 then t.w0 else if c=1 then t.w1 else t.w2
def yj (t:Tg) (op:Int):Int:=if zS t=true then Xb t (ye op) else 0
def VA (op:Int):ye op=0\/ye op=1\/ye op=2:=by unfold ye;omega
def yG {u w:Int} (h:Um u w=true):1<=u/\u<=4/\1<=w/\w<=6:=by grind [Um,zH]
def yi {t:Tg} (h:zS t=true):Um t.u0 t.w0=true/\Um t.u1 t.w1=true/\Um t.u2 t.w2=true/\1<=t.r/\t.r<=128:=by grind [zS,zH]
structure Ed where
 fr:Int
 to:Int
 bk:Int
 wt:Int
def exN (p:Nat->Bool):Nat->Bool
 | 0=>false
 | k+1=>exN p k || p k
def ZX (a:k<n) (h:p k=true):exN p n=true:=by induction n <;> grind [exN]
def yaz (h:exN p k=false) (a:p k=false):exN p (k+1)=false:=by grind [exN]
theorem zc7:exN p n=true↔∃k,k<n/\p k=true:=by
 induction n with
 | zero=>exact⟨fun h=>Bool.noConfusion h,fun ⟨k,h,_⟩=>absurd h (Qv _)⟩
 | succ n ih =>
  grind [exN]
def zs6 (a b:St) (back size:Nat) (turn:Nat):Bool:=decide ((a.sp*turn+a.pl) % size=(b.sp*((turn:Int)+back)+b.pl) % size)
def Zc (a b:St) (back size:Nat):Bool:=exN (zs6 a b back size) size
def Xh (s:St):Bool:=decide (s.o=3) || decide (s.o=4)
def zcm (a b:St):Bool:=Xh a && Xh b && decide (a.ar=b.ar) && (decide (a.o=4) || decide (b.o=4))
def zu (s:St):List (Int × Int):=if s.o=4 then [(s.xa,s.xb)] else if 10<s.o then [(s.xa,s.xb),(s.ya,s.yb)] else []
def zO (l:List (Int × Int)) (i:Nat):Int × Int:=l.getD i (0,0)
def zm7 (l:List (Int × Int)) (fr bk:Int) (i:Nat):Bool:=decide ((zO l i).1=fr) && decide ((zO l i).2=bk)
def zuh (s:St) (fr bk:Int):Bool:=exN (zm7 (zu s) fr bk) (zu s).length
def XU (a:St):Int:=if a.o=4 then 1 else 0
def Y7 (fr to:Nat):Nat:=if to<=fr then 1 else 0
def YZ (a b:St) (lo back size:Nat):Bool:=decide (lo<=back) && decide (back<=size) && Zc a b back size && zF (fun i=>decide (i<lo) || !Zc a b i size) back
def Yu (L:Lp) (s:St):Nat:=2 ^ (nth L.l s.ar.toNat).toNat
def isD (L:Lp) (t:Tg) (fr to bk wt:Nat):Bool :=
 (zuh (zc L.b to) fr bk && decide ((wt:Int)=yj t (zc L.b fr).o)) ||
  (zcm (zc L.b fr) (zc L.b to) && decide ((wt:Int)=XU (zc L.b fr)) && YZ (zc L.b fr) (zc L.b to) (Y7 fr to) bk (Yu L (zc L.b fr)))
def wtD (L:Lp) (t:Tg) (fr to bk:Nat):Nat->List Ed
 | 0=>[]
 | k+1=>if isD L t fr to bk k=true then wtD L t fr to bk k++[⟨fr,to,bk,k⟩] else wtD L t fr to bk k
def bkD (L:Lp) (t:Tg) (fr to:Nat):Nat->List Ed
 | 0=>[]
 | k+1=>bkD L t fr to k++wtD L t fr to k 7
def toD (L:Lp) (t:Tg) (fr:Nat):Nat->List Ed
 | 0=>[]
 | k+1=>toD L t fr k++bkD L t fr k 33
def frD (L:Lp) (t:Tg):Nat->List Ed
 | 0=>[]
 | k+1=>frD L t k++toD L t k L.b.length
def zf (L:Lp) (t:Tg):List Ed:=frD L t L.b.length
def yi0 (L:Lp) (t:Tg) (fr to bk k:Nat):(wtD L t fr to bk k).length<=k:=by
 induction k with
 | zero=>exact Qc _
 | succ k ih =>
  grind [wtD]
def yf8 (L:Lp) (t:Tg) (fr to k:Nat):(bkD L t fr to k).length<=k*7:=by
 induction k with
 | zero=>exact Qc _
 | succ k ih =>show (bkD L t fr to k++wtD L t fr to k 7).length<=(k+1)*7;have:=yi0 L t fr to k 7;rw [Qt];omega
def yhq (L:Lp) (t:Tg) (fr k:Nat):(toD L t fr k).length<=k*231:=by
 induction k with
 | zero=>exact Qc _
 | succ k ih =>show (toD L t fr k++bkD L t fr k 33).length<=(k+1)*231;have:=yf8 L t fr k 33;rw [Qt];omega
def yg1 (L:Lp) (t:Tg) (k:Nat) (hn:L.b.length<=16):(frD L t k).length<=k*3696:=by
 induction k with
 | zero=>exact Qc _
 | succ k ih =>show (frD L t k++toD L t k L.b.length).length<=(k+1)*3696;have:=yhq L t k L.b.length;rw [Qt];omega
structure Kop where
 sl:Int
 sg:Int
 o:Int
 d:Int
 a:Int
 b:Int
 ar:Int
 sp:Int
 pl:Int
 nn:Int
def Kop.nil:Kop:=⟨0,0,0,0,0,0,0,0,0,0⟩
structure Kn where
 pc:Int
 st:Int
 ops:List Kop
def zv (l:List Kop) (i:Nat):Kop:=l.getD i Kop.nil
def Xg (op:Int):Int:=if op=4 then 1 else if 10<op then 2 else 0
def zoj (logs:List Int) (x:Kop):Lp:=⟨logs,[⟨2,0,0,0,0,0,0,0,0⟩,⟨x.o,0,0,0,0,x.ar,x.sp,x.pl,x.nn⟩],[]⟩
def xL (pc st:Int) (x:Kop):Bool:=inR x.sl 0 (pc - 1) && inR x.sg 0 (st - 1) && decide (x.sg*pc+x.sl<=1000)
def UZ (r:Int) (x:Kop):Bool:=inR x.d 0 (r - 1) && inR x.a 0 (r - 1) && inR x.b 0 (r - 1) && (decide (1<=Xg x.o) || decide (x.a=0)) && (decide (2<=Xg x.o) || decide (x.b=0))
def zb3 (r pc st:Int) (logs:List Int) (x:Kop):Bool:=xL pc st x && UZ r x && zQ (zoj logs x)
def cnt (p:Nat->Bool):Nat->Nat
 | 0=>0
 | n+1=>cnt p n+(if p n=true then 1 else 0)
def U5 (p:Nat->Bool) (n:Nat):cnt p n<=n:=by
 induction n with
 | zero=>exact Qc _
 | succ n ih =>show cnt p n+(if p n=true then 1 else 0)<=n+1;split <;> omega
def zb7 (l:List Kop) (i j:Nat):Bool:=decide ((zv l j).sl=(zv l i).sl) && decide (ye (zv l j).o=ye (zv l i).o)
def zk4 (l:List Kop) (i:Nat):Nat:=cnt (zb7 l i) l.length
def X7 (t:Tg) (K:Kn) (logs:List Int):Bool :=
 zS t && inR K.pc 1 200 && inR K.st 1 1001 && inR K.ops.length 1 16 && zF (fun i=>zb3 t.r K.pc K.st logs (zv K.ops i) && decide ((zk4 K.ops i:Int)<=yf t (ye (zv K.ops i).o))) K.ops.length
def yeh {st:Int} {x:Kop} (h1:¬x.sl<0) (a:¬pc<=x.sl) (b:¬x.sg<0) (c:¬st<=x.sg) (d:¬1000<x.sg*pc+x.sl):xL pc st x=true:=by grind [xL,yh]
def ydo {x:Kop} (h1:¬x.d<0) (c:¬r<=x.d) (f:¬x.a<0) (g:¬x.b<0) (h:¬r<=x.a) (i:¬r<=x.b) (j:1<=Xg x.o\/x.a=0) (k:2<=Xg x.o\/x.b=0):UZ r x=true:=by grind [UZ,yh]
structure Sq where
 mem:Nat->Nat->Int
 val:Nat->Nat->Int
def Zs (f:Nat->Nat->Int) (i j:Nat) (v:Int):Nat->Nat->Int:=fun a b=>if a=i/\b=j then v else f a b
def yh0 (f:Nat->Nat->Int) (i j:Nat) (v:Int):Zs f i j v i j=v:=Qf ⟨rfl,rfl⟩
theorem zhg (f:Nat->Nat->Int) (i j a b:Nat) (v:Int) (h:a≠i):Zs f i j v a b=f a b:=Qe fun e=>h e.1
theorem ydd (f:Nat->Nat->Int) (i j a b:Nat) (v:Int) (h:b≠j):Zs f i j v a b=f a b:=Qe fun e=>h e.2
theorem zur (f:Nat->Nat->Int) (i j b:Nat) (v:Int):Zs f i j v i b=if b=j then v else f i b:=by unfold Zs;omega
def zf6 (B:List (List Int)) (val:Nat->Nat->Int) (t:Nat) (x y:Int):Int :=
 if y<=t then val ((t:Int) - y).toNat x.toNat else nth (zB B x.toNat) (y - t - 1).toNat
def Vs (L:Lp) (t:Nat) (x:St):Nat:=(idx x.sp x.pl t (nth L.l x.ar.toNat)).toNat
def zu0 (L:Lp) (B:List (List Int)) (t:Nat) (s:Sq) (x:St):Int :=
 if x.o=1 then x.nn else if x.o=2 then (t:Int) else if x.o=3 then s.mem x.ar.toNat (Vs L t x) else if x.o=4 then zf6 B s.val t x.xa x.xb
 else opv (x.o - 10) (zf6 B s.val t x.xa x.xb) (zf6 B s.val t x.ya x.yb)
def Yg (L:Lp) (B:List (List Int)) (t:Nat) (s:Sq) (k:Nat):Sq :=
 ⟨if (zc L.b k).o=4 then Zs s.mem (zc L.b k).ar.toNat (Vs L t (zc L.b k)) (zu0 L B t s (zc L.b k)) else s.mem,Zs s.val t k (zu0 L B t s (zc L.b k))⟩
def zeu (L:Lp) (B:List (List Int)) (t:Nat):Nat->Sq->Sq
 | 0,s=>s
 | k+1,s=>Yg L B t (zeu L B t k s) k
def zmj (L:Lp) (B:List (List Int)):Nat->Sq->Sq
 | 0,s=>s
 | t+1,s=>zeu L B t L.b.length (zmj L B t s)
def XO (M:List (List Int)):Sq:=⟨fun i j=>nth (zB M i) j,fun _ _=>0⟩
def Zg (L:Lp) (B:List (List Int)) (gD:Nat) (s:Sq):List Int :=
 L.o.map fun o=>if gD=0 then nth (zB B o.toNat) 0 else s.val (gD - 1) o.toNat
def yi8 (M:List (List Int)) (s:Sq):List (List Int):=(List.range M.length).map fun i=>(List.range (zB M i).length).map fun j=>s.mem i j
def I64 (x:Int):Prop:=-9223372036854775808<=x/\x<=9223372036854775807
def LoopIn (L:Lp):Prop:=∀k,I64 (zc L.b k).nn
def Y6 (B:List (List Int)):Prop:=∀i j,I64 (nth (zB B i) j)
def Sq.fine (s:Sq):Prop:=(∀i j,I64 (s.mem i j))/\∀t k,I64 (s.val t k)
def ybf (x:Int):I64 (wrap64 x):=by unfold I64 wrap64;omega
def yY {p:Prop} [Decidable p] {a b:Int} (c:I64 a) (hb:I64 b):I64 (if p then a else b):=by grind
def zgo (op:BinOp) (a b:Int):I64 (bits op .i64 a b):=bounds_i64 (wf_bits op .i64 a b)
theorem zay:I64 0:=by unfold I64;omega
def yi6:I64 1:=by unfold I64;omega
def zub (o a b:Int):I64 (opv o a b):=by unfold opv;refine yY (ybf _) (yY (ybf _) (yY (ybf _) (yY (zgo _ _ _) (yY (zgo _ _ _) (yY (zgo _ _ _) (yY (yY yi6 zay) (yY (yY yi6 zay) zay)))))))
def zuc {f:Nat->Nat->Int} (c:∀a b,I64 (f a b)) (d:I64 v):∀a b,I64 (Zs f i j v a b):=fun a b=>yY d (c a b)
def ybe {val:Nat->Nat->Int} (hB:Y6 B) (c:∀a b,I64 (val a b)):I64 (zf6 B val t x y):=yY (c _ _) (hB _ _)
def zjm {s:Sq} (a:LoopIn L) (hB:Y6 B) (c:t<=200) (hs:s.fine):I64 (zu0 L B t s (zc L.b k)) :=
 yY (a k) (yY (by unfold I64;omega) (yY (hs.1 _ _) (yY (ybe hB hs.2) (zub _ _ _))))
theorem zwn {s:Sq} (a:LoopIn L) (hB:Y6 B) (c:t<=200) (hs:s.fine):(Yg L B t s k).fine:=by
 refine⟨?_,zuc hs.2 (zjm a hB c hs)⟩;show ∀i j,I64 ((if (zc L.b k).o=4 then _ else s.mem) i j);split
 ·exact zuc hs.1 (zjm a hB c hs)
 exact hs.1
theorem zwo {s:Sq} (a:LoopIn L) (hB:Y6 B) (b:t<=200) (hs:s.fine):(zeu L B t k s).fine:=by induction k <;> grind [zeu,zwn]
def znt {s:Sq} (a:LoopIn L) (hB:Y6 B) (b:t<=200) (hs:s.fine):(zmj L B t s).fine:=by induction t <;> grind [zmj,zwo]
def zgf (a:Y6 M):(XO M).fine:=⟨fun i j=>a i j,fun _ _=>zay⟩
def zm3 (s p t l:Int):0<=idx s p t l/\idx s p t l<p2 l.toNat:=by
 have a:=yjk l.toNat;unfold idx;split
 ·exact⟨QS _ (by omega),QP _ a⟩
 omega
def zlb (L:Lp) (t:Nat) (x:St):Vs L t x<2 ^ (nth L.l x.ar.toNat).toNat:=by have h:=zm3 x.sp x.pl t (nth L.l x.ar.toNat);unfold p2 at h;unfold Vs;omega
def zew (L:Lp) (t:Nat) (x:St):idx x.sp x.pl t (nth L.l x.ar.toNat)=(Vs L t x:Int):=by have h:=zm3 x.sp x.pl t (nth L.l x.ar.toNat);unfold Vs;omega
def zdz {n k:Int} (h:xj n k x y=true) (a:k<=n):0<=x/\x<n/\0<=y/\y<=3:=by grind [xj,zH]
def zhw {n k:Int} (h:yW m n k s=true):s.o=1\/s.o=2\/(s.o=3/\0<=s.ar/\s.ar<m)\/(s.o=4/\0<=s.ar/\s.ar<m/\xj n k s.xa s.xb=true) \/
  (11<=s.o/\s.o<=18/\xj n k s.xa s.xb=true/\xj n k s.ya s.yb=true):=by
 unfold yW at h;by_cases o1:s.o=1
 ·exact .inl o1
 rw [Qe o1] at h;by_cases a:s.o=2
 ·omega
 rw [Qe a] at h;by_cases b:s.o=3
 ·grind [Zp,zH]
 grind [Zp,zH]
def yjt {s:Sq} (h:zc L.b k=⟨1,xa,xb,ya,yb,ar,sp,pl,nn⟩):Yg L B t s k=⟨s.mem,Zs s.val t k nn⟩:=by unfold Yg;rw [h];rfl
def yju {s:Sq} (h:zc L.b k=⟨2,xa,xb,ya,yb,ar,sp,pl,nn⟩):Yg L B t s k=⟨s.mem,Zs s.val t k (t:Int)⟩:=by unfold Yg;rw [h];rfl
def yjv {s:Sq} (h:zc L.b k=⟨3,xa,xb,ya,yb,ar,sp,pl,nn⟩) :
  Yg L B t s k=⟨s.mem,Zs s.val t k (s.mem ar.toNat (Vs L t ⟨3,xa,xb,ya,yb,ar,sp,pl,nn⟩))⟩:=by unfold Yg;rw [h];rfl
def yjw {s:Sq} (h:zc L.b k=⟨4,xa,xb,ya,yb,ar,sp,pl,nn⟩) :
  Yg L B t s k=⟨Zs s.mem ar.toNat (Vs L t ⟨4,xa,xb,ya,yb,ar,sp,pl,nn⟩) (zf6 B s.val t xa xb),Zs s.val t k (zf6 B s.val t xa xb)⟩:=by unfold Yg;rw [h];rfl
def yhl {s:Sq} {o:Int} (h:zc L.b k=⟨o,xa,xb,ya,yb,ar,sp,pl,nn⟩) (a:11<=o) :
  Yg L B t s k=⟨s.mem,Zs s.val t k (opv (o - 10) (zf6 B s.val t xa xb) (zf6 B s.val t ya yb))⟩:=by grind [Yg,zu0]
def U8 (h:xP L B M=true):zQ L=true/\B.length=L.b.length/\M.length=L.l.length/\(∀i,i<B.length->(zB B i).length=3) /\
  (∀i,i<M.length->(zB M i).length=2 ^ (nth L.l i).toNat):=by grind [xP,zq]
def yi9 (hm:zQ L=true) (c:M.length=L.l.length) (hr:∀i,i<M.length->(zB M i).length=2 ^ (nth L.l i).toNat):∀i,i<M.length->0<(zB M i).length/\(zB M i).length<=32:=by intro i hi;obtain⟨-,-,-,-,a,-,-⟩:=zy hm;have h:=zH.1 (zq a i (by omega));rw [hr i hi];refine⟨qh _,?_⟩;have b:2 ^ (nth L.l i).toNat<=2 ^ 5:=WP (by omega) (by omega);omega
structure Du where
 at_:Int
 rg:Int
 v:Int
def Du.nil:Du:=⟨0,0,0⟩
def xO (l:List Du) (i:Nat):Du:=l.getD i Du.nil
def VM (f:Nat->Int) (i:Nat) (v:Int):Nat->Int:=fun a=>if a=i then v else f a
def ZA (now:Int) (due:List Du) (f:Nat->Int):Nat->Nat->Int
 | 0=>f
 | k+1=>if (xO due k).at_=now then VM (ZA now due f k) (xO due k).rg.toNat (xO due k).v else ZA now due f k
def xx (now:Int) (due:List Du):Nat->List Du
 | 0=>[]
 | k+1=>if (xO due k).at_=now then xx now due k else xx now due k++[xO due k]
def yhb (f:Nat->Int) (R n p:Int):Int:=f ((n+p) % R).toNat
def Ux (pc gD now:Int) (x:Kop):Bool:=decide (x.sl=now % pc) && decide (0<=now / pc - x.sg) && decide (now / pc - x.sg<gD)
def XY (logs:List Int) (pc now:Int) (x:Kop):Nat:=(idx x.sp x.pl (now / pc - x.sg) (nth logs x.ar.toNat)).toNat
def zf8 (logs:List Int) (R pc now:Int) (f:Nat->Int) (m:Nat->Nat->Int) (x:Kop):Int :=
 if x.o=1 then x.nn else if x.o=2 then now / pc - x.sg else if x.o=3 then m x.ar.toNat (XY logs pc now x) else if x.o=4 then yhb f R x.a (now / pc)
 else opv (x.o - 10) (yhb f R x.a (now / pc)) (yhb f R x.b (now / pc))
structure Nx where
 nx:Nat->Nat->Int
 du:List Du
def opK (t:Tg) (logs:List Int) (pc gD now:Int) (f:Nat->Int) (m:Nat->Nat->Int) (q:Nx) (x:Kop):Nx :=
 if Ux pc gD now x=true then
  ⟨if x.o=4 then Zs q.nx x.ar.toNat (XY logs pc now x) (zf8 logs t.r pc now f m x) else q.nx,q.du++[⟨now+Xb t (ye x.o),(x.d+now / pc) % t.r,zf8 logs t.r pc now f m x⟩]⟩
 else q
def VJ (t:Tg) (K:Kn) (logs:List Int) (gD now:Int) (f:Nat->Int) (m:Nat->Nat->Int) (q:Nx):Nat->Nx
 | 0=>q
 | k+1=>opK t logs K.pc gD now f m (VJ t K logs gD now f m q k) (zv K.ops k)
structure Kst where
 f:Nat->Int
 m:Nat->Nat->Int
 due:List Du
def VH (K:Kn) (gD:Int):Int:=(gD+K.st - 1)*K.pc
def zf0 (t:Tg) (K:Kn) (logs:List Int) (gD now:Int) (s:Kst):Kst :=
 if VH K gD<=now then ⟨ZA now s.due s.f s.due.length,s.m,xx now s.due s.due.length⟩
 else
  ⟨ZA now s.due s.f s.due.length,
   (VJ t K logs gD now (ZA now s.due s.f s.due.length) s.m ⟨s.m,xx now s.due s.due.length⟩ K.ops.length).nx,
   (VJ t K logs gD now (ZA now s.due s.f s.due.length) s.m ⟨s.m,xx now s.due s.due.length⟩ K.ops.length).du⟩
def ym (t:Tg) (K:Kn) (logs:List Int) (gD:Int) (s:Kst):Nat->Kst
 | 0=>s
 | n+1=>zf0 t K logs gD n (ym t K logs gD s n)
def za2 (R:List Int) (M:List (List Int)):Kst:=⟨fun i=>nth R i,fun i j=>nth (zB M i) j,[]⟩
def UW (t:Tg) (K:Kn) (logs:List Int) (gD:Int) (R:List Int) (M:List (List Int)):Kst:=if gD=0 then za2 R M else ym t K logs gD (za2 R M) (VH K gD+7).toNat
def zhn (n:Nat) (s:Kst):List Int:=(List.range n).map s.f
def zmr (M:List (List Int)) (s:Kst):List (List Int):=(List.range M.length).map fun i=>(List.range (zB M i).length).map fun j=>s.m i j
theorem zp9 (now:Int) (due:List Du) (k:Nat):(xx now due k).length<=k:=by
 induction k with
 | zero=>exact Qc _
 | succ k ih =>
  grind [xx]
theorem ygv (t:Tg) (K:Kn) (logs:List Int) (gD now:Int) (f:Nat->Int) (m:Nat->Nat->Int) (q:Nx) (k:Nat):(VJ t K logs gD now f m q k).du.length<=q.du.length+k:=by
 induction k with
 | zero=>exact Qc _
 | succ k ih =>
  grind [opK,VJ]
def yfl (t:Tg) (K:Kn) (logs:List Int) (gD now:Int) (s:Kst):(zf0 t K logs gD now s).due.length<=s.due.length+K.ops.length:=by grind [zf0,zp9,ygv]
def yhf (t:Tg) (K:Kn) (logs:List Int) (gD:Int) (s:Kst) (n:Nat):(ym t K logs gD s n).due.length<=s.due.length+n*K.ops.length:=by
 induction n with
 | zero=>exact Nat.le_add_right _ _
 | succ n ih =>have h:=yfl t K logs gD n (ym t K logs gD s n);show (zf0 t K logs gD n (ym t K logs gD s n)).due.length<=_;rw [Eo];omega
structure Kst.fine (R:Int) (s:Kst):Prop where
 f:∀i,I64 (s.f i)
 m:∀i j,I64 (s.m i j)
 due:∀d∈s.due,0<=d.rg/\d.rg<R/\I64 d.v
theorem ybd (b:∀a,I64 (f a)) (c:I64 v):∀a,I64 (VM f i v a):=fun a=>yY c (b a)
theorem zlv {l:List Du} (h:i<l.length):xO l i∈l:=by grind [xO]
def zx0 {due:List Du} (a:∀i,I64 (f i)) (b:∀d∈due,0<=d.rg/\d.rg<R/\I64 d.v):∀k,k<=due.length->∀i,I64 (ZA now due f k i):=by
 intro k;induction k with
 | zero=>exact fun _=>a
 | succ k ih =>
  intro c i;show I64 ((if (xO due k).at_=now then VM (ZA now due f k) (xO due k).rg.toNat (xO due k).v else ZA now due f k) i);grind [ybd,zlv]
def zkp {due:List Du} {p:Du->Prop} (a:∀d∈due,p d):∀k,k<=due.length->∀d∈xx now due k,p d:=by
 intro k;induction k with
 | zero=>exact fun _ d h=>absurd h (by show ¬d∈[];simp)
 | succ k ih =>
  grind [xx,zlv]
def yet {logs:List Int} {m:Nat->Nat->Int} {x:Kop} (a:∀i,I64 (f i)) (hm:∀i j,I64 (m i j)) (hn:I64 x.nn) (b:I64 (now / pc - x.sg)):I64 (zf8 logs R pc now f m x) :=
 yY hn (yY b (yY (hm _ _) (yY (a _) (zub _ _ _))))
def xc (op:Int):Int:=if op=4 then 1 else if inR op 11 18=true then 2 else 0
def US (op:Int):(op=4/\xc op=1)\/(op≠4/\inR op 11 18=true/\xc op=2)\/(op≠4/\inR op 11 18=false/\xc op=0):=by grind [xc]
def XL (r:Int) (x:Kop):Bool:=inR x.d 0 (r - 1) && inR x.a 0 (if 0<xc x.o then r - 1 else 0) && inR x.b 0 (if 1<xc x.o then r - 1 else 0)
def stK (x:Kop):St:=⟨x.o,0,if 0<xc x.o then 1 else 0,0,if 1<xc x.o then 1 else 0,x.ar,x.sp,x.pl,x.nn⟩
def Zx (l:List Kop):List St:=l.map stK
def zhu (l:List Kop) (i:Nat):Nat:=cnt (zb7 l i) (i+1)
def za5 (t:Tg) (l:List Kop):Bool:=zF (fun i=>decide ((zhu l i:Int)<=yf t (ye (zv l i).o))) l.length
def zf1 (t:Tg) (K:Kn) (logs:List Int):Bool :=
 decide (K.ops.length<=16) && zS t && inR K.pc 1 200 && inR K.st 1 1001 && zF (fun i=>xL K.pc K.st (zv K.ops i) && XL t.r (zv K.ops i)) K.ops.length && zQ ⟨logs,Zx K.ops,[]⟩ && za5 t K.ops
theorem zaf (l:List Kop):(Zx l).length=l.length:=by unfold Zx;simp
theorem zn5 (l:List Kop) (i:Nat) (h:i<l.length):zc (Zx l) i=stK (zv l i):=by grind [zc,Zx,zv]
def znh (p:Nat->Bool) {m:Nat} (h:m<=n):cnt p m<=cnt p n:=by
 induction n with
 | zero => obtain rfl:m=0:=by omega
           exact Qc _
 | succ n ih =>
  by_cases e:m=n+1
  ·subst e;exact Qc _
  have:=ih (by omega);show cnt p m<=cnt p n+(if p n=true then 1 else 0);omega
def zw1 {q:Nat->Bool} (h:∀i,i<n->p i=q i):cnt p n=cnt q n:=by induction n <;> grind [cnt]
def zng (p:Nat->Bool) (n:Nat):cnt p n=0\/∃j,j<n/\p j=true/\cnt p n=cnt p (j+1):=by induction n <;> grind [cnt]
theorem zys {l:List Kop} (h:zb7 l i j=true):zb7 l j=zb7 l i:=by grind [zb7]
def zi5 {t:Tg} {c:Int} (h:zS t=true):1<=yf t c:=by
 obtain⟨h1,a,b,-,-⟩:=yi h;have h1:=yG h1;have a:=yG a;have b:=yG b;grind [yf]
def yeo {t:Tg} {l:List Kop} (b:zS t=true):za5 t l=zF (fun i=>decide ((zk4 l i:Int)<=yf t (ye (zv l i).o))) l.length:=by
 rw [Ea];constructor
 ·intro h;refine yk fun i hi=>Qi ?_;unfold zk4;rcases zng (zb7 l i) l.length with h0 | ⟨j,h1,d,f⟩
  ·rw [h0];have:=zi5 (c:=ye (zv l i).o) b;omega
  have a:=QI (zq h j h1);grind [zhu,zys,zb7]
 intro h;refine yk fun i hi=>Qi ?_;have a:=QI (zq h i hi);have g:zhu l i<=zk4 l i:=znh _ (by omega);omega
theorem zv1 (m n k:Int) (x:Kop) (hn:1<=n):yW m n k (stK x)=yW m 2 1 ⟨x.o,0,0,0,0,x.ar,x.sp,x.pl,x.nn⟩:=by
 have a:xj n k 0 1=true:=by grind [xj,yh]
 have b:xj 2 1 0 0=true:=by decide
 have c:x.o=1->xc x.o=0:=fun h=>by rw [h];decide
 have d:x.o=2->xc x.o=0:=fun h=>by rw [h];decide
 have f:x.o=3->xc x.o=0:=fun h=>by rw [h];decide
 grind [xc,yW,stK,yh]
def zko {n k:Int} {x:Kop} (hr:1<=r) (h:yW m 2 1 ⟨x.o,0,0,0,0,x.ar,x.sp,x.pl,x.nn⟩=true):XL r x=UZ r x:=by
 have a:xc x.o=Xg x.o:=by
  grind [xc,Xg,yh,yW,X0]
 grind [XL,UZ,zH]
theorem zgy (logs:List Int) (x:Kop):zQ (zoj logs x)=(decide (logs.length<=3) && Yn logs && yW logs.length 2 1 ⟨x.o,0,0,0,0,x.ar,x.sp,x.pl,x.nn⟩):=by
 have h0:yW logs.length 2 0 ⟨2,0,0,0,0,0,0,0,0⟩=true:=by unfold yW;simp
 have hb:YA (zoj logs x)=yW logs.length 2 1 ⟨x.o,0,0,0,0,x.ar,x.sp,x.pl,x.nn⟩:=by show ((true && yW logs.length 2 0 ⟨2,0,0,0,0,0,0,0,0⟩) && yW logs.length 2 1 ⟨x.o,0,0,0,0,x.ar,x.sp,x.pl,x.nn⟩)=_;rw [h0];rfl
 unfold zQ;rw [hb];show (decide (logs.length<=3) && decide (1<=2) && decide (2<=16) && Yn logs && true && _)=_;simp
def zs3 (logs:List Int) (l:List Kop) (h1:1<=l.length) (a:l.length<=16):zQ ⟨logs,Zx l,[]⟩=(decide (logs.length<=3) && Yn logs && zF (fun i=>yW logs.length 2 1 ⟨(zv l i).o,0,0,0,0,(zv l i).ar,(zv l i).sp,(zv l i).pl,(zv l i).nn⟩) l.length):=by
 have hb:YA ⟨logs,Zx l,[]⟩=zF (fun i=>yW logs.length 2 1 ⟨(zv l i).o,0,0,0,0,(zv l i).ar,(zv l i).sp,(zv l i).pl,(zv l i).nn⟩) l.length:=by
  unfold YA;show zF (fun k=>yW logs.length (Zx l).length k (zc (Zx l) k)) (Zx l).length=_;rw [zaf,Ea];constructor
  ·intro h;refine yk fun i hi=>?_;have b:yW logs.length l.length i (zc (Zx l) i)=true:=zq h i hi;grind [zn5,zv1]
  grind [yk,zn5,zv1,zq]
 unfold zQ;rw [hb];show (decide (logs.length<=3) && decide (1<=(Zx l).length) && decide ((Zx l).length<=16) && Yn logs && true && _)=_;grind [zaf]
theorem zxc (t:Tg) (K:Kn) (logs:List Int):zf1 t K logs=X7 t K logs:=by
 unfold zf1 X7;by_cases c:zS t=true
 ·by_cases b:K.ops.length<=16
  ·by_cases h1:1<=K.ops.length
   ·rw [zs3 logs K.ops h1 b,yeo c,c,Qi b,yh (by omega:(1:Int)<=(K.ops.length:Int)/\(K.ops.length:Int)<=16)];have hr:=(yi c).2.2.2.1;cases inR K.pc 1 200
    ·simp
    cases inR K.st 1 1001
    ·simp
    simp only [Wb,qE];rw [Ea];constructor
    ·intro h;simp only [Qg,QE] at h;obtain⟨⟨hA,⟨f,d⟩,hS⟩,hU⟩:=h;refine yk fun i hi=>?_;have hA:=zq hA i hi;have hS:=zq hS i hi;have hU:=zq hU i hi;simp only [Qg] at hA;unfold zb3;rw [hA.1,<-zko (n:=0) (k:=0) hr hS,hA.2,zgy,Qi f,d,hS,hU];rfl
    intro h;have h0:=zq h 0 (by omega);have hX:∀i,i<K.ops.length->xL K.pc K.st (zv K.ops i)=true/\UZ t.r (zv K.ops i)=true/\logs.length<=3/\Yn logs=true/\yW logs.length 2 1 ⟨(zv K.ops i).o,0,0,0,0,(zv K.ops i).ar,(zv K.ops i).sp,(zv K.ops i).pl,(zv K.ops i).nn⟩=true/\(zk4 K.ops i:Int)<=yf t (ye (zv K.ops i).o):=(by intro i hi;have a:=zq h i hi;unfold zb3 at a;rw [zgy] at a;simp only [Qg,QE] at a;exact⟨a.1.1.1,a.1.1.2,a.1.2.1.1,a.1.2.1.2,a.1.2.2,a.2⟩);obtain⟨-,-,f,d,-,-⟩:=hX 0 (by omega);simp only [Qg,QE];refine⟨⟨yk fun i hi=>?_,⟨f,d⟩,yk fun i hi=>(hX i hi).2.2.2.2.1⟩,yk fun i hi=>Qi (hX i hi).2.2.2.2.2⟩;rw [(hX i hi).1,zko (n:=0) (k:=0) hr (hX i hi).2.2.2.2.1,(hX i hi).2.1];rfl
   have h0:K.ops.length=0:=(by omega);have hb:zQ ⟨logs,Zx K.ops,[]⟩=false:=zgz _ (.inr (.inl (by show ¬1<=(Zx K.ops).length;rw [zaf];omega)));rw [hb,X0 (by omega:¬((1:Int)<=(K.ops.length:Int)/\(K.ops.length:Int)<=16))];simp
  rw [Qk b,X0 (by omega:¬((1:Int)<=(K.ops.length:Int)/\(K.ops.length:Int)<=16))];simp
 have ht2:zS t=false:=by simpa using c
 rw [ht2];simp
def ltE (a b:Ed):Prop:=a.fr<b.fr\/(a.fr=b.fr/\(a.to<b.to\/(a.to=b.to/\(a.bk<b.bk\/(a.bk=b.bk/\a.wt<b.wt)))))
theorem zfq {t:Tg} {e:Ed}:∀k,e∈wtD L t fr to bk k->∃x:Nat,x<k/\e=⟨fr,to,bk,x⟩/\isD L t fr to bk x=true:=by
 intro k;induction k with
 | zero=>intro h;exact absurd h (by show ¬e∈[];simp)
 | succ k ih =>
  grind [wtD]
theorem zlp {t:Tg} {e:Ed}:∀k,e∈bkD L t fr to k->∃b x:Nat,b<k/\e=⟨fr,to,b,x⟩/\isD L t fr to b x=true:=by
 intro k;induction k with
 | zero=>intro h;exact absurd h (by show ¬e∈[];simp)
 | succ k ih =>
  grind [bkD,zfq]
theorem zmo {t:Tg} {e:Ed}:∀k,e∈toD L t fr k->∃to b x:Nat,to<k/\e=⟨fr,to,b,x⟩/\isD L t fr to b x=true:=by
 intro k;induction k with
 | zero=>intro h;exact absurd h (by show ¬e∈[];simp)
 | succ k ih =>
  intro h;rcases QK.1 (show e∈toD L t fr k++bkD L t fr k 33 from h) with a | a
  ·grind
  grind [zlp]
theorem zcc {t:Tg} {e:Ed}:∀k,e∈frD L t k->∃fr to b x:Nat,fr<k/\to<L.b.length/\e=⟨fr,to,b,x⟩/\isD L t fr to b x=true:=by
 intro k;induction k with
 | zero=>intro h;exact absurd h (by show ¬e∈[];simp)
 | succ k ih =>
  grind [frD,zmo]
def yew {t:Tg}:∀k,(wtD L t fr to bk k).Pairwise ltE:=by
 intro k;induction k with
 | zero=>exact List.Pairwise.nil
 | succ k ih =>
  show (if isD L t fr to bk k=true then wtD L t fr to bk k++[⟨fr,to,bk,k⟩] else wtD L t fr to bk k).Pairwise ltE;split
  ·refine Eq.2 ⟨ih,qJ _ _,fun a c b hb=>?_⟩;obtain⟨x,d,rfl,-⟩:=zfq k c;rw [QT.1 hb];exact .inr ⟨rfl,.inr ⟨rfl,.inr ⟨rfl,by dsimp only;omega⟩⟩⟩
  exact ih
def yae {t:Tg}:∀k,(bkD L t fr to k).Pairwise ltE:=by
 intro k;induction k with
 | zero=>exact List.Pairwise.nil
 | succ k ih =>refine Eq.2 ⟨ih,yew 7,fun a c b hb=>?_⟩;obtain⟨y,x,d,rfl,-⟩:=zlp k c;obtain⟨z,f,rfl,-⟩:=zfq 7 hb;exact .inr ⟨rfl,.inr ⟨rfl,.inl (by dsimp only;omega)⟩⟩
def yei {t:Tg}:∀k,(toD L t fr k).Pairwise ltE:=by
 intro k;induction k with
 | zero=>exact List.Pairwise.nil
 | succ k ih =>refine Eq.2 ⟨ih,yae 33,fun a c b hb=>?_⟩;obtain⟨o,y,x,d,rfl,-⟩:=zmo k c;obtain⟨u,z,f,rfl,-⟩:=zlp 33 hb;exact .inr ⟨rfl,.inl (by dsimp only;omega)⟩
def yb7 {t:Tg}:∀k,(frD L t k).Pairwise ltE:=by
 intro k;induction k with
 | zero=>exact List.Pairwise.nil
 | succ k ih =>refine Eq.2 ⟨ih,yei _,fun a c b hb=>?_⟩;obtain⟨f,o,y,x,d,-,rfl,-⟩:=zcc k c;obtain⟨v,u,z,g,rfl,-⟩:=zmo _ hb;exact .inl (by dsimp only;omega)
def yc7 {n:Int} {fr:Int} (h:yW m n to s=true) (j:zuh s fr 0=true):fr<to:=by
 obtain⟨i,hi,c⟩:=zc7.1 j;unfold zm7 at c;rw [Qg,QE,QE] at c;have key:∀a b,xj n to a b=true->a=fr->b=0->fr<to:=fun a b h1 k l=>by grind [xj,zH]
 unfold yW at h;by_cases f:s.o=4
 ·rw [Qe (by omega),Qe (by omega),Qe (by omega),Qf f] at h;simp only [Qg] at h;have e:zu s=[(s.xa,s.xb)]:=by grind [zu]
  rw [e] at hi c;have d:i=0:=by grind
  subst d;exact key _ _ h.2 c.1 c.2
 by_cases g:10<s.o
 ·have e:zu s=[(s.xa,s.xb),(s.ya,s.yb)]:=by grind [zu]
  rw [e] at hi c;rw [Qe (by omega),Qe (by omega),Qe (by omega),Qe f] at h;split at h
  ·simp only [Qg] at h;have d:i=0\/i=1:=(by grind);rcases d with rfl | rfl
   ·exact key _ _ h.1.2 c.1 c.2
   exact key _ _ h.2 c.1 c.2
  simp_all
 grind [zu]
theorem yj2 {t:Tg} {x:Nat} (hm:zQ L=true) (a:to<L.b.length) (h:isD L t fr to 0 x=true):fr<to:=by
 obtain⟨d,f,g,i,j,k,c⟩:=zy hm;have hs:=zq c to a;unfold isD at h;rcases qo.1 h with h | h
 ·rw [Qg] at h;have:=yc7 hs h.1;omega
 grind [YZ,Y7]
def zwe {t:Tg} {e:Ed} (hm:zQ L=true) (h:e∈zf L t):∃fr to bk wt:Nat,e=⟨fr,to,bk,wt⟩/\fr<L.b.length/\to<L.b.length/\(bk=0->fr<to):=by grind [zf,zcc,yj2]
def Yx (D:List Du) (j:Int):List Du:=D.filter fun d=>decide (d.at_ % 6=j)
def Win (now:Int) (D:List Du):Prop:=∀d∈D,now<=d.at_/\d.at_<=now+5
def zbm (l:List Du) (f:Nat->Int):Nat->Nat->Int
 | 0=>f
 | k+1=>VM (zbm l f k) (xO l k).rg.toNat (xO l k).v
theorem zju (D:List Du) (d:Du) (j:Int):Yx (D++[d]) j=if d.at_ % 6=j then Yx D j++[d] else Yx D j:=by grind [Yx]
def ybr {D:List Du} (h:Win now D):Yx D (now % 6)=D.filter fun d=>decide (d.at_=now):=by
 unfold Yx;refine List.filter_congr fun d a=>?_;have h1:=h d a;grind
theorem zdd (D X:List Du) (k:Nat) (h:k<D.length):xO (D++X) k=xO D k:=by grind [xO]
theorem zgc (D:List Du) (d:Du):xO (D++[d]) D.length=d:=by simp [xO]
def zx2 (now:Int) (D X:List Du) (f:Nat->Int):∀k,k<=D.length->ZA now (D++X) f k=ZA now D f k:=by intro k;induction k <;> grind [ZA,zdd]
theorem zyo (now:Int) (D X:List Du):∀k,k<=D.length->xx now (D++X) k=xx now D k:=by intro k;induction k <;> grind [xx,zdd]
def zyb (D X:List Du) (f:Nat->Int):∀k,k<=D.length->zbm (D++X) f k=zbm D f k:=by intro k;induction k <;> grind [zbm,zdd]
def zeq {α:Type} {p:List α->Prop} (h0:p []) (hs:∀l a,p l->p (l++[a])) (l:List α):p l:=by
 rw [<-q8 l];induction l.reverse with
 | nil=>exact h0
 | cons a r ih=>rw [List.reverse_cons];exact hs _ _ ih
theorem zoe (now:Int) (D:List Du) (f:Nat->Int):ZA now D f D.length=zbm (D.filter fun d=>decide (d.at_=now)) f (D.filter fun d=>decide (d.at_=now)).length:=by
 refine zeq (p:=fun D=>ZA now D f D.length=zbm (D.filter fun d=>decide (d.at_=now)) f (D.filter fun d=>decide (d.at_=now)).length) rfl (fun l d ih=>?_) D;rw [Qt,EA];show (if (xO (l++[d]) l.length).at_=now then VM (ZA now (l++[d]) f l.length) (xO (l++[d]) l.length).rg.toNat (xO (l++[d]) l.length).v else ZA now (l++[d]) f l.length)=_;rw [zgc,zx2 _ _ _ _ _ (Qc _),ih];by_cases e:d.at_=now
 ·have h1:([d].filter fun d=>decide (d.at_=now))=[d]:=by simp [e]
  rw [Qf e,h1,Qt];simp [zbm,zgc,zyb]
 simp_all
theorem zep (now:Int) (D:List Du):xx now D D.length=D.filter fun d=>!decide (d.at_=now):=by
 refine zeq (p:=fun D=>xx now D D.length=D.filter fun d=>!decide (d.at_=now)) rfl (fun l d ih=>?_) D;rw [Qt,EA];show (if (xO (l++[d]) l.length).at_=now then xx now (l++[d]) l.length else xx now (l++[d]) l.length++[xO (l++[d]) l.length])=_;grind [zgc,zyo]
def zx1 {D:List Du} (h:Win now D) (f:Nat->Int):ZA now D f D.length=zbm (Yx D (now % 6)) f (Yx D (now % 6)).length:=by rw [zoe,ybr h]
theorem zkq {D:List Du} (h:Win now D) (j:Int):Yx (xx now D D.length) j=if j=now % 6 then [] else Yx D j:=by
 rw [zep];unfold Yx;rw [List.filter_filter];by_cases e:j=now % 6
 ·rw [Qf e,List.filter_eq_nil_iff];intro d a;have h1:=h d a;grind
 grind
def yds {D:List Du} (h:Win now D):∀d∈xx now D D.length,now+1<=d.at_/\d.at_<=now+1+5:=by grind [Win,zep]
def yH (l:List Kop) (s:Int):List Kop:=l.filter fun x=>decide (x.sl=s)
def XZ (t:Tg) (logs:List Int) (pc gD now:Int) (f:Nat->Int) (m:Nat->Nat->Int) (q:Nx) (l:List Kop):Nx:=l.foldl (opK t logs pc gD now f m) q
theorem zsg (t:Tg) (K:Kn) (logs:List Int) (gD now:Int) (f:Nat->Int) (m:Nat->Nat->Int) (q:Nx):∀k,k<=K.ops.length->VJ t K logs gD now f m q k=XZ t logs K.pc gD now f m q (K.ops.take k):=by
 intro k;induction k with
 | zero=>intro _;rfl
 | succ k ih =>
  intro a;show opK t logs K.pc gD now f m (VJ t K logs gD now f m q k) (zv K.ops k)=_;rw [ih (by omega)];unfold XZ;rw [Wm,Q8];grind [zv]
theorem zxv (t:Tg) (logs:List Int) (pc gD now:Int) (f:Nat->Int) (m:Nat->Nat->Int):∀(l:List Kop) (q:Nx),XZ t logs pc gD now f m q l=XZ t logs pc gD now f m q (yH l (now % pc)):=by
 intro l;induction l with
 | nil=>exact fun _=>rfl
 | cons x l ih =>
  intro q;show XZ t logs pc gD now f m (opK t logs pc gD now f m q x) l=_;by_cases e:x.sl=now % pc
  ·have h1:yH (x :: l) (now % pc)=x :: yH l (now % pc):=(by grind [yH]);rw [h1,ih];rfl
  grind [yH,opK,Ux]
theorem zxu (t:Tg) (K:Kn) (logs:List Int) (gD now:Int) (f:Nat->Int) (m:Nat->Nat->Int) (q:Nx):VJ t K logs gD now f m q K.ops.length=XZ t logs K.pc gD now f m q (yH K.ops (now % K.pc)):=by grind [zsg,zxv]
theorem zkg (t:Tg) (logs:List Int) (pc gD now:Int) (f:Nat->Int) (m:Nat->Nat->Int) (q:Nx) (l:List Kop) (k:Nat) (h:k<l.length):XZ t logs pc gD now f m q (l.take (k+1))=opK t logs pc gD now f m (XZ t logs pc gD now f m q (l.take k)) (zv l k):=by
 unfold XZ;rw [Wm,Q8];grind [zv]
def zyv (l:List Kop) (k:Nat) (s:Int) (h:k<l.length):yH (l.take (k+1)) s=if (zv l k).sl=s then yH (l.take k) s++[zv l k] else yH (l.take k) s:=by
 have h1:l[k]?=some (zv l k):=by grind [zv]
 unfold yH;rw [Wm,h1,EA];grind
def zuz {l:List Kop} {s:Int} {x:Kop} (h:x∈yH l s):x∈l/\x.sl=s:=by grind [yH]
structure Sto where
 i:Nat
 j:Nat
 v:Int
def zU (l:List Sto) (k:Nat):Sto:=l.getD k ⟨0,0,0⟩
def ziy (l:List Sto) (m:Nat->Nat->Int):Nat->Nat->Nat->Int
 | 0=>m
 | k+1=>Zs (ziy l m k) (zU l k).i (zU l k).j (zU l k).v
theorem zhy (l r:List Sto) (k:Nat) (h:k<l.length):zU (l++r) k=zU l k:=by grind [zU]
theorem zkz (l:List Sto) (d:Sto):zU (l++[d]) l.length=d:=by simp [zU]
def zz7 (l r:List Sto) (m:Nat->Nat->Int):∀k,k<=l.length->ziy (l++r) m k=ziy l m k:=by intro k;induction k <;> grind [ziy,zhy]
theorem zz8 (l:List Sto) (d:Sto) (m:Nat->Nat->Int):ziy (l++[d]) m (l++[d]).length=Zs (ziy l m l.length) d.i d.j d.v:=by simp_all [ziy,zkz,zz7]
def Xf (t:Tg) (logs:List Int) (pc gD now:Int) (f:Nat->Int) (m:Nat->Nat->Int) (l:List Kop):List Sto :=
 (l.filter fun x=>Ux pc gD now x && decide (x.o=4)).map fun x=>⟨x.ar.toNat,XY logs pc now x,zf8 logs t.r pc now f m x⟩
theorem zl0 (t:Tg) (logs:List Int) (pc gD now:Int) (f:Nat->Int) (m:Nat->Nat->Int) (l:List Kop) (k:Nat) (h:k<l.length):Xf t logs pc gD now f m (l.take (k+1)) =
  if Ux pc gD now (zv l k)=true/\(zv l k).o=4 then Xf t logs pc gD now f m (l.take k)++[⟨(zv l k).ar.toNat,XY logs pc now (zv l k),zf8 logs t.r pc now f m (zv l k)⟩] else Xf t logs pc gD now f m (l.take k):=by
 have h1:l[k]?=some (zv l k):=by grind [zv]
 unfold Xf;rw [Wm,h1,EA,QV];grind
def ygq (t:Tg) (logs:List Int) (pc gD now:Int) (f:Nat->Int) (m:Nat->Nat->Int) (du:List Du) (l:List Kop):∀k,k<=l.length->(XZ t logs pc gD now f m ⟨m,du⟩ (l.take k)).nx=ziy (Xf t logs pc gD now f m (l.take k)) m (Xf t logs pc gD now f m (l.take k)).length:=by
 intro k;induction k with
 | zero=>intro _;rfl
 | succ k ih =>
  grind [zkg,zl0,zz8,opK]
end
section
open Go.RowKit
def ylc (c0 c1 c2 c3 c4 c5 c6 c7:Int):Int:=wrap64 (((((((c0*256+c1)*256+c2)*256+c3)*256+c4)*256+c5)*256+c6)*256+c7)
def atB (b:List Int) (k:Nat):Int:=ylc (nth b (8*k)) (nth b (8*k+1)) (nth b (8*k+2)) (nth b (8*k+3)) (nth b (8*k+4)) (nth b (8*k+5)) (nth b (8*k+6)) (nth b (8*k+7))
def okB (b:List Int):Bool:=decide (24<=b.length) && inR (atB b 2) 0 16 && decide ((b.length:Int)=24+80*atB b 2)
end
section
variable {n x:Int} {most:Nat} {l:List Int}
def Zl (n:Nat):List Int:=if h:n<10 then [48+(n:Int)] else Zl (n / 10)++[48+((n % 10:Nat):Int)]
 termination_by n
 decreasing_by omega
theorem Z2 {n:Nat} (h:n<10):Zl n=[48+(n:Int)]:=by grind [Zl]
theorem Yl {n:Nat} (h:¬n<10):Zl n=Zl (n / 10)++[48+((n % 10:Nat):Int)]:=by grind [Zl]
def zo (n:Int):List Int:=if n<0 then 45 :: Zl n.natAbs else Zl n.natAbs
def YB:∀n:Nat,∀c∈Zl n,48<=c/\c<=57:=by
 intro n;induction n using Nat.strongRecOn with
 | _ n ih =>
  intro c a;by_cases h:n<10
  ·grind [Z2]
  rw [Yl h] at a;grind
theorem zaj:∀n:Nat,Zl n≠[]:=by
 intro n;by_cases h:n<10
 ·rw [Z2 h];simp
 rw [Yl h];simp
def Xa (l:List Int):Int:=l.foldl (fun n c=>10*n+(c - 48)) 0
theorem VU (l:List Int) (c:Int):Xa (l++[c])=10*Xa l+(c - 48):=by simp [Xa]
theorem zqe:∀n:Nat,Xa (Zl n)=n:=by
 intro n;induction n using Nat.strongRecOn with
 | _ n ih =>
  by_cases h:n<10
  ·rw [Z2 h];show 10*0+(48+(n:Int) - 48)=n;omega
  rw [Yl h,VU,ih (n / 10) (by omega)];omega
def zwa {n:Nat} (h:n≠0):∃c l,Zl n=c :: l/\c≠48:=by
 induction n using Nat.strongRecOn with
 | _ n ih =>
  by_cases a:n<10
  ·exact⟨48+(n:Int),[],Z2 a,by omega⟩
  obtain⟨c,l,e,b⟩:=ih (n / 10) (by omega) (by omega);grind [Yl]
def zc5:∀(k n:Nat),1<=k->n<10 ^ k->(Zl n).length<=k:=by
 intro k;induction k with
 | zero=>intro n h;omega
 | succ k ih =>
  intro n _ hn;by_cases a:n<10
  ·grind [Z2]
  rw [Yl a,Qt];grind
def zmc (s:List Int):List Int:=if s.head?=some 45 then s.tail else s
def zsb (s:List Int):Int:=wrap64 (if s.head?=some 45 then -(Xa (zmc s)) else Xa (zmc s))
def zT (s:List Int) (most:Nat):Option Int:=if (zmc s).length<=most/\zo (zsb s)=s then some (zsb s) else none
def zsc (s:List Int):-9223372036854775808<=zsb s/\zsb s<=9223372036854775807:=by unfold zsb;generalize (if s.head?=some 45 then -(Xa (zmc s)) else Xa (zmc s))=x;unfold wrap64;omega
theorem zbk {s:List Int} (h:zT s most=some n):s=zo n/\-9223372036854775808<=n/\n<=9223372036854775807:=by
 unfold zT at h;by_cases a:(zmc s).length<=most/\zo (zsb s)=s
 ·rw [Qf a] at h;have e:=QD h;subst e;exact⟨a.2.symm,zsc s⟩
 simp_all
def zsd (h0:-9223372036854775808<=n) (h1:n<=9223372036854775807) (hm:(Zl n.natAbs).length<=most):zT (zo n) most=some n:=by
 have f:wrap64 n=n:=by unfold wrap64;omega
 unfold zT zsb zmc;by_cases hn:n<0
 ·grind [zo,zqe]
 have e:zo n=Zl n.natAbs:=by grind [zo]
 have b:¬(zo n).head?=some 45:=by
  rw [e];intro h;cases a:Zl n.natAbs with
  | nil=>exact zaj _ a
  | cons c l =>rw [a] at h;have d:=YB n.natAbs c (by grind);have:c=45:=(by simpa using h);omega
 grind [zqe]
def zc4 (n:Int):∀c∈zo n,c=45\/(48<=c/\c<=57):=by
 intro c a;unfold zo at a;split at a
 ·rcases WE.1 a with h | h
  ·exact .inl h
  exact .inr (YB _ c h)
 exact .inr (YB _ c a)
theorem zjd (n:Int):zo n≠[]:=by
 grind [zo,zaj]
def zx (x:Int):List Int->List (List Int)
 | []=>[[]]
 | c :: l=>if c=x then [] :: zx x l else match zx x l with
   | []=>[[c]]
   | p :: ps=>(c :: p) :: ps
def yD (x:Int):List (List Int)->List Int
 | []=>[]
 | [p]=>p
 | p :: q :: ps=>p++x :: yD x (q :: ps)
def xQ (x:Int) (l:List Int):zx x l≠[]:=by
 cases l with
 | nil=>simp [zx]
 | cons c l =>
  grind [zx]
def ZH (x:Int):∀l,yD x (zx x l)=l:=by
 intro l;induction l with
 | nil=>rfl
 | cons c l ih =>
  unfold zx;by_cases h:c=x
  ·rw [Qf h];cases hs:zx x l with
   | nil=>exact absurd hs (xQ x l)
   | cons p a =>rw [hs] at ih;show []++x :: yD x (p :: a)=c :: l;rw [ih,h];rfl
  rw [Qe h];cases hs:zx x l with
  | nil=>exact absurd hs (xQ x l)
  | cons p a =>
   rw [hs] at ih;cases a with
   | nil=>show c :: p=c :: l;rw [<-ih];rfl
   | cons q qs=>show (c :: p)++x :: yD x (q :: qs)=c :: l;rw [<-ih];rfl
def zt3:∀l:List Int,(∀c∈l,c≠x)->zx x l=[l]:=by
 intro l;induction l with
 | nil=>intro _;rfl
 | cons c l ih =>intro h;unfold zx;rw [Qe (h c (QY ..)),ih fun d a=>h d (Wg _ a)]
theorem XN (x:Int) (m:List Int):zx x (x :: m)=[] :: zx x m:=by rw [zx,Qf rfl]
def ZJ {c:Int} (h:c≠x) {p:List Int} {a:List (List Int)} (hs:zx x l=p :: a):zx x (c :: l)=(c :: p) :: a:=by rw [zx,Qe h,hs]
def opD (o:Int):List Int :=
 if o=11 then [97,100,100] else if o=12 then [115,117,98] else if o=13 then [109,117,108] else if o=14 then [97,110,100] else if o=15 then [111,114] else if o=16 then [120,111,114] else if o=17 then [108,101,115,115] else [115,97,109,101]
def YY:List Int:=[97,114,114,97,121]
def zf4:List Int:=[111,117,116]
def yO:List Int:=[99,111,110,115,116]
def Zt:List Int:=[116,117,114,110]
def xT:List Int:=[108,111,97,100]
def yT:List Int:=[115,116,111,114,101]
def Zw (s:List Int):Option (Int × Int) :=
 if s.head?≠some 35 then none else
 match zx 126 s.tail with
 | [a]=>(zT a 18).map fun n=>(n,0)
 | [a,b]=>match zT a 18,zT b 18 with
   | some x,some y=>if 0<y then some (x,y) else none
   | _,_=>none
 | _=>none
def stO (ws:List (List Int)):Option St :=
 match ws with
 | [w]=>if w=Zt then some ⟨2,0,0,0,0,0,0,0,0⟩ else none
 | [w,a]=>if w=yO then (zT a 19).map fun n=>⟨1,0,0,0,0,0,0,0,n⟩ else none
 | [w,a,b]=>match ([11,12,13,14,15,16,17,18]:List Int).find? fun o=>decide (opD o=w) with
   | some o=>match Zw a,Zw b with
     | some x,some y=>some ⟨o,x.1,x.2,y.1,y.2,0,0,0,0⟩
     | _,_=>none
   | none=>none
 | [w,a,b,c]=>if w=xT then match zT a 18,zT b 18,zT c 18 with
   | some x,some y,some z=>some ⟨3,0,0,0,0,x,y,z,0⟩
   | _,_,_=>none
  else none
 | [w,a,b,c,d]=>if w=yT then match zT a 18,zT b 18,zT c 18,Zw d with
   | some x,some y,some z,some q=>some ⟨4,q.1,q.2,0,0,x,y,z,0⟩
   | _,_,_,_=>none
  else none
 | _=>none
def YS (L:Lp) (ws:List (List Int)):Option Lp :=
 match ws with
 | [w,a]=>if w=YY then (if L.b.length+L.o.length=0 then (zT a 18).map fun n=>{ L with l:=L.l++[n] } else none)
   else if w=zf4 then (zT a 18).map fun n=>{ L with o:=L.o++[n] }
   else if w=yO/\L.o.length=0 then (stO ws).map fun s=>{ L with b:=L.b++[s] } else none
 | ws=>if L.o.length=0 then (stO ws).map fun s=>{ L with b:=L.b++[s] } else none
def goD (L:Lp):List (List Int)->Nat->Lp × Int × Nat
 | [],k=>(⟨[],[],[]⟩,2,k)
 | [last],k=>if last=[]/\zQ L=true then (L,0,0) else (⟨[],[],[]⟩,2,k)
 | p :: q :: ps,k=>match YS L (zx 32 p) with
   | some L'=>goD L' (q :: ps) (k+1)
   | none=>(⟨[],[],[]⟩,2,k)
def yt (s:List Int):Lp × Int × Nat:=goD ⟨[],[],[]⟩ (zx 10 s) 0
theorem ygp (h0:-9223372036854775808<=n) (h1:n<=9223372036854775807):zT (zo n) 19=some n:=zsd h0 h1 (zc5 19 _ (by omega) (by omega))
def znk (d:x≠45) (b:x<48\/57<x):∀c∈zo n,c≠x:=fun c a=>by
 rcases zc4 n c a with h | h <;> omega
def ygo {p:Int->Prop} (h:∀i,i<l.length->p (nth l i)):∀n∈l,p n:=fun n hn=>by
 obtain⟨i,hi,rfl⟩:=Wl.1 hn
 grind [nth]
end
section
variable {w w':World} {v:Value} {L:Lp} {m n k o xa xb ya yb ar sp pl nn:Int}
def zi {a b:Bool} (h:a=b):Ending.returned (.bool a)=.returned (.bool b):=by rw [h]
def zM (w:World) (v:Value) (zs:List Int):Prop :=
 ∃ a cap,v=.slice a zs.length cap/\zs.length<=cap/\cap<=maxLen/\(∀i,i<zs.length->-9223372036854775808<=nth zs i/\nth zs i<=9223372036854775807) /\
   (0<zs.length->∃b off,a=some (E b off)/\b<w.heap.size/\∀i,i<zs.length->w.cell? (E b (off+i))=Y (nth zs i))
def yE (n lo hi:Int) (w:World) :
  Calls prog 127 #[J n,J lo,J hi] w fun e w'=>e=.returned (.bool (inR n lo hi))/\w'=w:=by
 by_cases h:lo<=n/\n<=hi
 ·rw [yh h];obtain⟨h1,a⟩:=h;go_enter func127,ntmps127;go_wp2;go_ret;exact⟨rfl,rfl⟩
 rw [X0 h];by_cases h1:lo<=n
 ·have a:¬n<=hi:=fun a=>h ⟨h1,a⟩;clear h;go_enter func127,ntmps127;go_wp2;go_ret;exact⟨rfl,rfl⟩
 clear h;go_enter func127,ntmps127;go_wp2;go_ret;exact⟨rfl,rfl⟩
def UR (v:Value) (zs:List Int) (w:World) (h:zM w v zs) :
  Calls prog 77 #[v] w fun e w'=>e=.returned (.bool (Yn zs))/\w'=w:=by
 obtain⟨a,cap,rfl,r,hm,hr,l⟩:=h;unfold maxLen at hm;go_enter func77,ntmps77;go_wp2;go_loop [7] (fun i=>∃k:Nat,k<=zs.length/\i=J k/\zF (fun i=>yc6 (nth zs i)) k=true) (fun i=>zs.length - (intOf i).toNat)
 case atStart=>exact⟨0,Ql _,rfl,rfl⟩
 obtain⟨k,q,rfl,hall⟩:=hrel;have g:=Z hall;clear hall;by_cases d:k<zs.length
 ·obtain⟨b,o,rfl,hb,j⟩:=l (by omega);have p:=j k d;clear j l;cases c:yc6 (nth zs k) with
  | true =>
   have f:=Z c;have n:inR (nth zs k) 0 5=true:=c;clear c;go_wp2_with (go_at_call 127;refine (yE _ _ _ _).mono ?_;rintro e w' ⟨rfl,rfl⟩);go_round
   case rel=>exact⟨k+1,by omega,by go_num,yr g f⟩
   simp [intOf];omega
  | false =>have f:=Z c;have n:inR (nth zs k) 0 5=false:=c;clear c;go_wp2_with (go_at_call 127;refine (yE _ _ _ _).mono ?_;rintro e w' ⟨rfl,rfl⟩);go_ret;exact⟨zi (yd d f.out).symm,rfl⟩
 have e:k=zs.length:=by omega
 have m:Hid (Yn zs=true):=by grind [Yn]
 clear g e;go_wp2;go_ret;exact⟨zi m.symm,rfl⟩
def zG (s:St):Array Value:=#[J s.o,J s.xa,J s.xb,J s.ya,J s.yb,J s.ar,J s.sp,J s.pl,J s.nn]
def zby (w:World) (v:Value) (b:List St):Prop :=
 ∃ a cap,v=.slice a b.length cap/\b.length<=cap/\cap<=maxLen /\
   (0<b.length->∃blk off,a=some (E blk off)/\blk<w.heap.size/\∀i,i<b.length->∀j,j<9->w.cell? (E blk (off+i*9+j))=(zG (zc b i))[j]?)
def zI (w:World) (v:Value) (L:Lp):Prop:=∃v0 v1 v2,v=.agg #[v0,v1,v2]/\zM w v0 L.l/\zby w v1 L.b/\zM w v2 L.o
def za7 (v:Value) (L:Lp) (o xa xb ya yb ar sp pl nn:Int) (w:World) (h:zI w v L) :
  Calls prog 184 #[v,.agg #[J o,J xa,J xb,J ya,J yb,J ar,J sp,J pl,J nn]] w (Rt w (.bool (Zp L.l.length ar sp pl))):=by
 obtain⟨v0,g,v2,rfl,⟨a,cap,rfl,f,hm,hr,d⟩,-,-⟩:=h;unfold maxLen at hm;cases h1:inR ar 0 (L.l.length - 1) with
 | false =>
  have b:Hid (Zp L.l.length ar sp pl=false):=by show Zp L.l.length ar sp pl=false;grind [Zp]
  go_enter func184,ntmps184;go_wp2_with (go_at_call 127;refine (yE _ _ _ _).mono ?_;rintro e w' ⟨rfl,rfl⟩);go_ret;exact⟨zi b.symm,QB _ _ _⟩
 | true =>
  cases c:inR sp (-64) 64 with
  | false =>have b:Hid (Zp L.l.length ar sp pl=false):=(by show Zp L.l.length ar sp pl=false;unfold Zp;rw [h1,c];rfl);go_enter func184,ntmps184;go_wp2_with (go_at_call 127;refine (yE _ _ _ _).mono ?_;rintro e w' ⟨rfl,rfl⟩);go_ret;exact⟨zi b.symm,QB _ _ _⟩
  | true =>have b:Hid (Zp L.l.length ar sp pl=inR pl (-64) 64):=(by show Zp L.l.length ar sp pl=inR pl (-64) 64;unfold Zp;rw [h1,c];rfl);go_enter func184,ntmps184;go_wp2_with (go_at_call 127;refine (yE _ _ _ _).mono ?_;rintro e w' ⟨rfl,rfl⟩);go_ret;exact⟨zi b.symm,QB _ _ _⟩
def Uk (v:Value) (L:Lp) (k x y:Int) (w:World) (h:zI w v L) (f:0<=k) (i:k<=9223372036854775807) :
  Calls prog 185 #[v,J k,.agg #[J x,J y]] w (Rt w (.bool (xj L.b.length k x y))):=by
 obtain⟨v0,l,v2,rfl,-,⟨a,cap,rfl,j,hm,g⟩,-⟩:=h;unfold maxLen at hm;by_cases d:y=0
 ·subst d;have c:Hid (xj L.b.length k x 0=inR x 0 (k - 1)):=by show xj L.b.length k x 0=inR x 0 (k - 1);unfold xj;rw [Qf rfl];rfl
  go_enter func185,ntmps185;go_wp2_with (go_at_call 127;refine (yE _ _ _ _).mono ?_;rintro e w' ⟨rfl,rfl⟩);go_ret;exact⟨zi c.symm,QB _ _ _⟩
 have hb:(y == 0)=false:=by simpa using d
 cases h1:inR y 1 3 with
 | false =>
  have c:Hid (xj L.b.length k x y=false):=by show xj L.b.length k x y=false;grind [xj,X0,yh]
  clear d;go_enter func185,ntmps185;go_wp2_with (go_at_call 127;refine (yE _ _ _ _).mono ?_;rintro e w' ⟨rfl,rfl⟩);go_ret;exact⟨zi c.symm,QB _ _ _⟩
 | true =>
  have c:Hid (xj L.b.length k x y=inR x 0 (L.b.length - 1)):=by show xj L.b.length k x y=inR x 0 (L.b.length - 1);grind [xj,inR]
  clear d;go_enter func185,ntmps185;go_wp2_with (go_at_call 127;refine (yE _ _ _ _).mono ?_;rintro e w' ⟨rfl,rfl⟩);go_ret;exact⟨zi c.symm,QB _ _ _⟩
def Ue {b o:Nat} {s:St} (h:∀j,j<9->w.cell? (E b (o+j))=(zG s)[j]?) :
  w.cell? (E b o)=Y s.o/\w.cell? (E b (o+1))=Y s.xa/\w.cell? (E b (o+2))=Y s.xb/\w.cell? (E b (o+3))=Y s.ya/\w.cell? (E b (o+4))=Y s.yb /\
   w.cell? (E b (o+5))=Y s.ar/\w.cell? (E b (o+6))=Y s.sp/\w.cell? (E b (o+7))=Y s.pl/\w.cell? (E b (o+8))=Y s.nn :=
 ⟨h 0 (by omega),h 1 (by omega),h 2 (by omega),h 3 (by omega),h 4 (by omega),h 5 (by omega),h 6 (by omega),h 7 (by omega),h 8 (by omega)⟩
theorem ze {W w1:World} (hb:Bw W w1):∀b o,b<W.heap.size->w1.cell? (E b o)=W.cell? (E b o) :=
 fun b o h=>hb.cell (p:=(E b o)) h
def zM.gE {zs:List Int} (h:zM w v zs) (hb:Bw w w'):zM w' v zs:=by obtain⟨a,cap,e,h1,f,g,j⟩:=h;refine⟨a,cap,e,h1,f,g,fun l=>?_⟩;obtain⟨b,c,d,k,m⟩:=j l;exact⟨b,c,d,Qu k hb.size,fun i hi=>by grind [ze]⟩
def zby.gE {l:List St} (h:zby w v l) (hb:Bw w w'):zby w' v l:=by obtain⟨a,cap,e,h1,f,g⟩:=h;refine⟨a,cap,e,h1,f,fun m=>?_⟩;obtain⟨b,c,d,k,n⟩:=g m;exact⟨b,c,d,Qu k hb.size,fun i hi j o=>by grind [ze]⟩
def zI.gE (h:zI w v L) (hb:Bw w w'):zI w' v L:=by obtain⟨v0,c,v2,e,h1,a,b⟩:=h;exact⟨v0,c,v2,e,h1.gE hb,a.gE hb,b.gE hb⟩
def zz5 {k:Nat} (h:zI w v L) (g:k<L.b.length) :
  ∃v0 v2 b c cap,v=.agg #[v0,.slice (some (E b c)) L.b.length cap,v2]/\cap<=9223372036854775807/\L.b.length<=cap/\b<w.heap.size/\∀j,j<9->w.cell? (E b (c+k*9+j))=(zG (zc L.b k))[j]?:=by obtain⟨v0,l,v2,rfl,-,⟨a,cap,rfl,i,hm,f⟩,-⟩:=h;obtain⟨b,c,rfl,hb,d⟩:=f (by omega);exact⟨v0,v2,b,c,cap,rfl,by unfold maxLen at hm;omega,i,hb,d k g⟩
def zz2 (L:Lp) (k:Nat) (w:World) (v0 v2:Value) (b a cap:Nat) (xa xb ya yb ar sp pl nn:Int) (p:zI w (.agg #[v0,.slice (some (E b a)) L.b.length cap,v2]) L) (c:(k:Int)<(L.b.length:Int)) (hm:cap<=9223372036854775807) (q:L.b.length<=cap) (hb:b<w.heap.size)
  (d:w.cell? (E b (a+k*9))=Y 1) (f:w.cell? (E b (a+k*9+1))=Y xa) (g:w.cell? (E b (a+k*9+2))=Y xb) (h:w.cell? (E b (a+k*9+3))=Y ya) (i:w.cell? (E b (a+k*9+4))=Y yb) (j:w.cell? (E b (a+k*9+5))=Y ar) (m:w.cell? (E b (a+k*9+6))=Y sp) (n:w.cell? (E b (a+k*9+7))=Y pl) (o:w.cell? (E b (a+k*9+8))=Y nn) :
  Calls prog 128 #[.agg #[v0,.slice (some (E b a)) L.b.length cap,v2],J k] w (Rt w (.bool (yW L.l.length L.b.length k ⟨1,xa,xb,ya,yb,ar,sp,pl,nn⟩))):=by
 go_enter func128,ntmps128;go_wp2
 all_goals
  go_ret
  exact⟨zi (by simp [yW, *]),QB _ _ _⟩
def zz3 (L:Lp) (k:Nat) (w:World) (v0 v2:Value) (b a cap:Nat) (xa xb ya yb ar sp pl nn:Int) (p:zI w (.agg #[v0,.slice (some (E b a)) L.b.length cap,v2]) L) (c:(k:Int)<(L.b.length:Int)) (hm:cap<=9223372036854775807) (q:L.b.length<=cap) (hb:b<w.heap.size)
  (d:w.cell? (E b (a+k*9))=Y 2) (f:w.cell? (E b (a+k*9+1))=Y xa) (g:w.cell? (E b (a+k*9+2))=Y xb) (h:w.cell? (E b (a+k*9+3))=Y ya) (i:w.cell? (E b (a+k*9+4))=Y yb) (j:w.cell? (E b (a+k*9+5))=Y ar) (m:w.cell? (E b (a+k*9+6))=Y sp) (n:w.cell? (E b (a+k*9+7))=Y pl) (o:w.cell? (E b (a+k*9+8))=Y nn) :
  Calls prog 128 #[.agg #[v0,.slice (some (E b a)) L.b.length cap,v2],J k] w (Rt w (.bool (yW L.l.length L.b.length k ⟨2,xa,xb,ya,yb,ar,sp,pl,nn⟩))):=by
 go_enter func128,ntmps128;go_wp2
 all_goals
  go_ret
  exact⟨zi (by simp [yW, *]),QB _ _ _⟩
def zt8 (L:Lp) (k:Nat) (w:World) (v0 v2:Value) (b a cap:Nat) (ar sp pl:Int) (d:zI w (.agg #[v0,.slice (some (E b a)) L.b.length cap,v2]) L) (f:(k:Int)<(L.b.length:Int)) (hm:cap<=9223372036854775807) (r:L.b.length<=cap) (hb:b<w.heap.size)
  (g:w.cell? (E b (a+k*9))=Y 3) (h:w.cell? (E b (a+k*9+1))=Y 0) (i:w.cell? (E b (a+k*9+2))=Y 0) (j:w.cell? (E b (a+k*9+3))=Y 0) (m:w.cell? (E b (a+k*9+4))=Y 0) (n:w.cell? (E b (a+k*9+5))=Y ar) (o:w.cell? (E b (a+k*9+6))=Y sp) (p:w.cell? (E b (a+k*9+7))=Y pl) (q:w.cell? (E b (a+k*9+8))=Y 0) :
  Calls prog 128 #[.agg #[v0,.slice (some (E b a)) L.b.length cap,v2],J k] w (Rt w (.bool (yW L.l.length L.b.length k ⟨3,0,0,0,0,ar,sp,pl,0⟩))):=by go_enter func128,ntmps128;go_wp2_with (go_at_call 184;refine (za7 _ L _ _ _ _ _ _ _ _ _ _ (zI.gE d (QJ _ _ _ _))).mono ?_;rintro e w1 ⟨rfl,c⟩);go_ret;exact⟨zi (by simp [yW]),(QJ _ _ _ _).trans (c.mono (by simp;omega))⟩
def zt7 (L:Lp) (k:Nat) (w:World) (v0 v2:Value) (b a cap:Nat) (xa xb ya yb ar sp pl nn:Int) (p:zI w (.agg #[v0,.slice (some (E b a)) L.b.length cap,v2]) L) (c:(k:Int)<(L.b.length:Int)) (hm:cap<=9223372036854775807) (q:L.b.length<=cap) (hb:b<w.heap.size)
  (d:w.cell? (E b (a+k*9))=Y 3) (f:w.cell? (E b (a+k*9+1))=Y xa) (g:w.cell? (E b (a+k*9+2))=Y xb) (h:w.cell? (E b (a+k*9+3))=Y ya) (i:w.cell? (E b (a+k*9+4))=Y yb) (j:w.cell? (E b (a+k*9+5))=Y ar) (m:w.cell? (E b (a+k*9+6))=Y sp) (n:w.cell? (E b (a+k*9+7))=Y pl) (o:w.cell? (E b (a+k*9+8))=Y nn) (r:¬(xa=0/\xb=0/\ya=0/\yb=0/\nn=0)) :
  Calls prog 128 #[.agg #[v0,.slice (some (E b a)) L.b.length cap,v2],J k] w (Rt w (.bool (yW L.l.length L.b.length k ⟨3,xa,xb,ya,yb,ar,sp,pl,nn⟩))):=by
 go_enter func128,ntmps128;go_wp2
 all_goals
  first
  | (go_ret;exact⟨zi (by simp [yW, *]),QJ _ _ _ _⟩)
  | (exfalso;simp_all)
def yhh (o1:(o == 1)=false) (a:(o == 2)=false) (b:(o == 3)=false) (c:(o == 4)=false) (hi:inR o 11 18=false):yW m n k ⟨o,xa,xb,ya,yb,ar,sp,pl,nn⟩=false:=by grind [yW,yh]
theorem zv0 (o1:(o == 1)=false) (a:(o == 2)=false) (b:(o == 3)=false) (c:(o == 4)=false) (hi:inR o 11 18=true) :
  yW m n k ⟨o,xa,xb,ya,yb,ar,sp,pl,nn⟩=(decide (ar=0/\sp=0/\pl=0/\nn=0) && xj n k xa xb && xj n k ya yb):=by grind [yW,zH]
def ye6 (o1:(o == 1)=false) (b:(o == 2)=false) (c:(o == 3)=false) (d:(o == 4)=false) (hi:inR o 11 18=true) (a:¬(ar=0/\sp=0/\pl=0/\nn=0)) :
  yW m n k ⟨o,xa,xb,ya,yb,ar,sp,pl,nn⟩=false:=by grind [zv0]
def zpj (o1:(o == 1)=false) (a:(o == 2)=false) (b:(o == 3)=false) (c:(o == 4)=false) (hi:inR o 11 18=true) :
  yW m n k ⟨o,xa,xb,ya,yb,0,0,0,0⟩=(xj n k xa xb && xj n k ya yb):=by grind [zv0]
def zpn (L:Lp) (k:Nat) (w:World) (v0 v2:Value) (b a cap:Nat) (xa xb ar sp pl:Int) (d:zI w (.agg #[v0,.slice (some (E b a)) L.b.length cap,v2]) L) (g:(k:Int)<(L.b.length:Int)) (hm:cap<=9223372036854775807) (t:L.b.length<=cap) (hb:b<w.heap.size)
  (i:w.cell? (E b (a+k*9))=Y 4) (j:w.cell? (E b (a+k*9+1))=Y xa) (m:w.cell? (E b (a+k*9+2))=Y xb) (n:w.cell? (E b (a+k*9+3))=Y 0) (o:w.cell? (E b (a+k*9+4))=Y 0) (p:w.cell? (E b (a+k*9+5))=Y ar) (q:w.cell? (E b (a+k*9+6))=Y sp) (r:w.cell? (E b (a+k*9+7))=Y pl) (s:w.cell? (E b (a+k*9+8))=Y 0) (f:Zp L.l.length ar sp pl=false) :
  Calls prog 128 #[.agg #[v0,.slice (some (E b a)) L.b.length cap,v2],J k] w (Rt w (.bool (yW L.l.length L.b.length k ⟨4,xa,xb,0,0,ar,sp,pl,0⟩))):=by go_enter func128,ntmps128;go_wp2_with (go_at_call 184;refine (za7 _ L _ _ _ _ _ _ _ _ _ _ (zI.gE d (QJ _ _ _ _))).mono ?_;rintro e w1 ⟨rfl,c⟩;have h:=ze c);go_ret;exact⟨zi (by simp [yW,f]),(QJ _ _ _ _).trans (c.mono (by simp;omega))⟩
def zpo (L:Lp) (k:Nat) (w:World) (v0 v2:Value) (b a cap:Nat) (xa xb ar sp pl:Int) (d:zI w (.agg #[v0,.slice (some (E b a)) L.b.length cap,v2]) L) (h:(k:Int)<(L.b.length:Int)) (hm:cap<=9223372036854775807) (u:L.b.length<=cap) (hb:b<w.heap.size)
  (j:w.cell? (E b (a+k*9))=Y 4) (m:w.cell? (E b (a+k*9+1))=Y xa) (n:w.cell? (E b (a+k*9+2))=Y xb) (o:w.cell? (E b (a+k*9+3))=Y 0) (p:w.cell? (E b (a+k*9+4))=Y 0) (q:w.cell? (E b (a+k*9+5))=Y ar) (r:w.cell? (E b (a+k*9+6))=Y sp) (s:w.cell? (E b (a+k*9+7))=Y pl) (t:w.cell? (E b (a+k*9+8))=Y 0) (g:Zp L.l.length ar sp pl=true) :
  Calls prog 128 #[.agg #[v0,.slice (some (E b a)) L.b.length cap,v2],J k] w (Rt w (.bool (yW L.l.length L.b.length k ⟨4,xa,xb,0,0,ar,sp,pl,0⟩))):=by
 go_enter func128,ntmps128
 go_wp2_with (first
  | (go_at_call 184;refine (za7 _ L _ _ _ _ _ _ _ _ _ _ (zI.gE d (QJ _ _ _ _))).mono ?_;rintro e w1 ⟨rfl,c⟩;have i:=ze c)
  | (go_at_call 185;refine (Uk _ L _ _ _ _ (zI.gE d ((QJ _ _ _ _).trans (c.mono (by simp;omega)))) (by omega) (by omega)).mono ?_;rintro e w2 ⟨rfl,f⟩))
 go_ret;exact⟨zi (by simp [yW,g]),((QJ _ _ _ _).trans (c.mono (by simp;omega))).trans (f.mono (by have:=c.size;simp at this;omega))⟩
def zt9 (L:Lp) (k:Nat) (w:World) (v0 v2:Value) (b a cap:Nat) (xa xb ya yb ar sp pl nn:Int) (p:zI w (.agg #[v0,.slice (some (E b a)) L.b.length cap,v2]) L) (c:(k:Int)<(L.b.length:Int)) (hm:cap<=9223372036854775807) (q:L.b.length<=cap) (hb:b<w.heap.size)
  (d:w.cell? (E b (a+k*9))=Y 4) (f:w.cell? (E b (a+k*9+1))=Y xa) (g:w.cell? (E b (a+k*9+2))=Y xb) (h:w.cell? (E b (a+k*9+3))=Y ya) (i:w.cell? (E b (a+k*9+4))=Y yb) (j:w.cell? (E b (a+k*9+5))=Y ar) (m:w.cell? (E b (a+k*9+6))=Y sp) (n:w.cell? (E b (a+k*9+7))=Y pl) (o:w.cell? (E b (a+k*9+8))=Y nn) (r:¬(ya=0/\yb=0/\nn=0)) :
  Calls prog 128 #[.agg #[v0,.slice (some (E b a)) L.b.length cap,v2],J k] w (Rt w (.bool (yW L.l.length L.b.length k ⟨4,xa,xb,ya,yb,ar,sp,pl,nn⟩))):=by
 go_enter func128,ntmps128;go_wp2
 all_goals
  first
  | (go_ret;exact⟨zi (by simp [yW, *]),QJ _ _ _ _⟩)
  | (exfalso;simp_all)
def zta (L:Lp) (k:Nat) (w:World) (v0 v2:Value) (b a cap:Nat) (o xa xb ya yb ar sp pl nn:Int) (t:zI w (.agg #[v0,.slice (some (E b a)) L.b.length cap,v2]) L) (g:(k:Int)<(L.b.length:Int)) (hm:cap<=9223372036854775807) (u:L.b.length<=cap) (hb:b<w.heap.size)
  (h:w.cell? (E b (a+k*9))=Y o) (i:w.cell? (E b (a+k*9+1))=Y xa) (j:w.cell? (E b (a+k*9+2))=Y xb) (m:w.cell? (E b (a+k*9+3))=Y ya) (n:w.cell? (E b (a+k*9+4))=Y yb) (p:w.cell? (E b (a+k*9+5))=Y ar) (q:w.cell? (E b (a+k*9+6))=Y sp) (r:w.cell? (E b (a+k*9+7))=Y pl) (s:w.cell? (E b (a+k*9+8))=Y nn) (o1:(o == 1)=false) (c:(o == 2)=false) (d:(o == 3)=false) (f:(o == 4)=false) (hi:inR o 11 18=false) :
  Calls prog 128 #[.agg #[v0,.slice (some (E b a)) L.b.length cap,v2],J k] w (Rt w (.bool (yW L.l.length L.b.length k ⟨o,xa,xb,ya,yb,ar,sp,pl,nn⟩))):=by go_enter func128,ntmps128;go_wp2_with (go_at_call 127;refine (yE _ _ _ _).mono ?_;rintro e w' ⟨rfl,rfl⟩);go_ret;exact⟨zi (yhh o1 c d f hi).symm,QB _ _ _⟩
def zpp (L:Lp) (k:Nat) (w:World) (v0 v2:Value) (b a cap:Nat) (o xa xb ya yb ar sp pl nn:Int) (y:zI w (.agg #[v0,.slice (some (E b a)) L.b.length cap,v2]) L) (i:(k:Int)<(L.b.length:Int)) (hm:cap<=9223372036854775807) (z:L.b.length<=cap) (hb:b<w.heap.size)
  (j:w.cell? (E b (a+k*9))=Y o) (p:w.cell? (E b (a+k*9+1))=Y xa) (q:w.cell? (E b (a+k*9+2))=Y xb) (r:w.cell? (E b (a+k*9+3))=Y ya) (s:w.cell? (E b (a+k*9+4))=Y yb) (t:w.cell? (E b (a+k*9+5))=Y ar) (u:w.cell? (E b (a+k*9+6))=Y sp) (v:w.cell? (E b (a+k*9+7))=Y pl) (x:w.cell? (E b (a+k*9+8))=Y nn) (o1:(o == 1)=false) (f:(o == 2)=false) (g:(o == 3)=false) (h:(o == 4)=false) (hi:inR o 11 18=true) (d:¬(ar=0/\sp=0/\pl=0/\nn=0)) :
  Calls prog 128 #[.agg #[v0,.slice (some (E b a)) L.b.length cap,v2],J k] w (Rt w (.bool (yW L.l.length L.b.length k ⟨o,xa,xb,ya,yb,ar,sp,pl,nn⟩))):=by
 go_enter func128,ntmps128;have c:=Z (ye6 (xa:=xa) (xb:=xb) (ya:=ya) (yb:=yb) (m:=L.l.length) (n:=L.b.length) (k:=k) o1 f g h hi d);go_wp2_with (go_at_call 127;refine (yE _ _ _ _).mono ?_;rintro e w' ⟨rfl,rfl⟩)
 all_goals
  first
  | (go_ret;exact⟨zi c.symm,QJ _ _ _ _⟩)
  | (exfalso;simp_all;done)
def zmk (L:Lp) (k:Nat) (w:World) (v0 v2:Value) (b a cap:Nat) (o xa xb ya yb:Int) (f:zI w (.agg #[v0,.slice (some (E b a)) L.b.length cap,v2]) L) (j:(k:Int)<(L.b.length:Int)) (hm:cap<=9223372036854775807) (A:L.b.length<=cap) (hb:b<w.heap.size)
  (q:w.cell? (E b (a+k*9))=Y o) (r:w.cell? (E b (a+k*9+1))=Y xa) (s:w.cell? (E b (a+k*9+2))=Y xb) (t:w.cell? (E b (a+k*9+3))=Y ya) (u:w.cell? (E b (a+k*9+4))=Y yb) (v:w.cell? (E b (a+k*9+5))=Y 0) (x:w.cell? (E b (a+k*9+6))=Y 0) (y:w.cell? (E b (a+k*9+7))=Y 0) (z:w.cell? (E b (a+k*9+8))=Y 0) (o1:(o == 1)=false) (g:(o == 2)=false) (h:(o == 3)=false) (i:(o == 4)=false) (hi:inR o 11 18=true) (hr:xj L.b.length k xa xb=false) :
  Calls prog 128 #[.agg #[v0,.slice (some (E b a)) L.b.length cap,v2],J k] w (Rt w (.bool (yW L.l.length L.b.length k ⟨o,xa,xb,ya,yb,0,0,0,0⟩))):=by go_enter func128,ntmps128;have d:=Z (zpj (xa:=xa) (xb:=xb) (ya:=ya) (yb:=yb) (m:=L.l.length) (n:=L.b.length) (k:=k) o1 g h i hi);go_wp2_with (first | (go_at_call 127;refine (yE _ _ _ _).mono ?_;rintro e w' ⟨rfl,rfl⟩) | (go_at_call 185;refine (Uk _ L _ _ _ _ (zI.gE f (QJ _ _ _ _)) (by omega) (by omega)).mono ?_;rintro e w1 ⟨rfl,c⟩;have p:=ze c));go_ret;exact⟨zi (by rw [d,hr];rfl),(QJ _ _ _ _).trans (c.mono (by simp;omega))⟩
def zml (L:Lp) (k:Nat) (w:World) (v0 v2:Value) (b a cap:Nat) (o xa xb ya yb:Int) (d:zI w (.agg #[v0,.slice (some (E b a)) L.b.length cap,v2]) L) (p:(k:Int)<(L.b.length:Int)) (hm:cap<=9223372036854775807) (B:L.b.length<=cap) (hb:b<w.heap.size)
  (r:w.cell? (E b (a+k*9))=Y o) (s:w.cell? (E b (a+k*9+1))=Y xa) (t:w.cell? (E b (a+k*9+2))=Y xb) (u:w.cell? (E b (a+k*9+3))=Y ya) (v:w.cell? (E b (a+k*9+4))=Y yb) (x:w.cell? (E b (a+k*9+5))=Y 0) (y:w.cell? (E b (a+k*9+6))=Y 0) (z:w.cell? (E b (a+k*9+7))=Y 0) (A:w.cell? (E b (a+k*9+8))=Y 0) (o1:(o == 1)=false) (h:(o == 2)=false) (i:(o == 3)=false) (j:(o == 4)=false) (hi:inR o 11 18=true) (hr:xj L.b.length k xa xb=true) :
  Calls prog 128 #[.agg #[v0,.slice (some (E b a)) L.b.length cap,v2],J k] w (Rt w (.bool (yW L.l.length L.b.length k ⟨o,xa,xb,ya,yb,0,0,0,0⟩))):=by go_enter func128,ntmps128;have f:=Z (zpj (xa:=xa) (xb:=xb) (ya:=ya) (yb:=yb) (m:=L.l.length) (n:=L.b.length) (k:=k) o1 h i j hi);go_wp2_with (go_at_call 127;refine (yE _ _ _ _).mono ?_;rintro e w' ⟨rfl,rfl⟩);refine (Uk _ L _ _ _ _ (zI.gE d (QJ _ _ _ _)) (by omega) (by omega)).mono ?_;rintro e w1 ⟨rfl,c⟩;have q:=ze c;go_wp2_with fail;refine (Uk _ L _ _ _ _ (zI.gE d ((QJ _ _ _ _).trans (c.mono (by simp;omega)))) (by omega) (by omega)).mono ?_;rintro e w2 ⟨rfl,g⟩;go_wp2_with fail;go_ret;exact⟨zi (by rw [f,hr];rfl),((QJ _ _ _ _).trans (c.mono (by simp;omega))).trans (g.mono (by have:=c.size;simp at this;omega))⟩
def zer (v:Value) (L:Lp) (k:Nat) (w:World) (h:zI w v L) (C:k<L.b.length) :
  Calls prog 128 #[v,J k] w (Rt w (.bool (yW L.l.length L.b.length k (zc L.b k)))):=by
 have r:=h;obtain⟨v0,v2,b,a,cap,rfl,hm,t,hb,x⟩:=zz5 h C;clear h;obtain⟨c,d,f,g,i,j,m,n,p⟩:=Ue x;clear x;generalize zc L.b k=s at *
 obtain⟨o,xa,xb,ya,yb,ar,sp,pl,nn⟩:=s;simp only at c d f g i j m n p;have q:(k:Int)<(L.b.length:Int):=by omega
 by_cases o1:o=1
 ·subst o1;exact zz2 L k w v0 v2 b a cap xa xb ya yb ar sp pl nn r q hm t hb c d f g i j m n p
 by_cases z:o=2
 ·subst z;exact zz3 L k w v0 v2 b a cap xa xb ya yb ar sp pl nn r q hm t hb c d f g i j m n p
 by_cases A:o=3
 ·subst A;by_cases u:xa=0/\xb=0/\ya=0/\yb=0/\nn=0
  ·obtain⟨rfl,rfl,rfl,rfl,rfl⟩:=u;exact zt8 L k w v0 v2 b a cap ar sp pl r q hm t hb c d f g i j m n p
  exact zt7 L k w v0 v2 b a cap xa xb ya yb ar sp pl nn r q hm t hb c d f g i j m n p u
 by_cases B:o=4
 ·subst B;by_cases u:ya=0/\yb=0/\nn=0
  ·obtain⟨rfl,rfl,rfl⟩:=u;cases y:Zp L.l.length ar sp pl with
   | false=>exact zpn L k w v0 v2 b a cap xa xb ar sp pl r q hm t hb c d f g i j m n p y
   | true=>exact zpo L k w v0 v2 b a cap xa xb ar sp pl r q hm t hb c d f g i j m n p y
  exact zt9 L k w v0 v2 b a cap xa xb ya yb ar sp pl nn r q hm t hb c d f g i j m n p u
 have b1:(o == 1)=false:=by simpa using o1
 have b2:(o == 2)=false:=by simpa using z
 have b3:(o == 3)=false:=by simpa using A
 have b4:(o == 4)=false:=by simpa using B
 cases hi:inR o 11 18 with
 | false=>exact zta L k w v0 v2 b a cap o xa xb ya yb ar sp pl nn r q hm t hb c d f g i j m n p b1 b2 b3 b4 hi
 | true =>
  by_cases u:ar=0/\sp=0/\pl=0/\nn=0
  ·obtain⟨rfl,rfl,rfl,rfl⟩:=u;cases hr:xj L.b.length k xa xb with
   | false=>exact zmk L k w v0 v2 b a cap o xa xb ya yb r q hm t hb c d f g i j m n p b1 b2 b3 b4 hi hr
   | true=>exact zml L k w v0 v2 b a cap o xa xb ya yb r q hm t hb c d f g i j m n p b1 b2 b3 b4 hi hr
  exact zpp L k w v0 v2 b a cap o xa xb ya yb ar sp pl nn r q hm t hb c d f g i j m n p b1 b2 b3 b4 hi u
end
section
variable {w w':World} {base sz n base' r R P:Nat} {e e':TypeId} {v:Value} {xs:List Value} {p:Int} {a H f g x A y:Nat->Int} {L:Lp} {t:Tg} {T:List Int}
def zE (h:w.ownsRow base e sz v n xs):∀k,v.ownBlock=some k->base<=k:=by
 obtain⟨f,h⟩:=h;rcases h with ⟨rfl,_⟩ | ⟨b,cap,a,rfl,c,d,r⟩
 ·intro k h;cases h
 intro k h;have:b=k:=by simpa [Value.ownBlock] using h
 omega
def zA (h:w.ownsRow base e sz v n xs):∀k,v.ownBlock=some k->k<w.heap.size:=by
 obtain⟨f,h⟩:=h;rcases h with ⟨rfl,_⟩ | ⟨b,cap,a,rfl,c,d,r⟩
 ·intro k h;cases h
 intro k h;have e:b=k:=by simpa [Value.ownBlock] using h
 grind
theorem Ui {m:Nat} {g:Nat} {f:Nat->Value} (h:w.ownsRow base e sz v n xs) (hr:zr w g e' m f) (i:e'≠e):some g≠v.ownBlock:=by
 obtain⟨l,h⟩:=h;rcases h with ⟨rfl,_⟩ | ⟨d,cap,b,rfl,j,k,r⟩
 ·intro h;cases h
 intro h;have a:g=d:=by simpa [Value.ownBlock] using h
 subst a;obtain⟨c,hb,_,_⟩:=hr;simp_all
theorem zD (h:w.ownsRow base e sz v n xs):∃a cap,v=.slice a n cap/\n<=cap/\cap<=maxLen:=by
 obtain⟨b,h⟩:=h;grind
def zdw (h:w.ownsRow base e sz v n xs) (hb:base'<=base):w.ownsRow base' e sz v n xs:=by
 obtain⟨b,h⟩:=h;refine⟨b,?_⟩;rcases h with h | ⟨g,cap,a,c,d,r⟩
 ·exact .inl h
 exact .inr ⟨g,cap,a,c,by omega,r⟩
def yJ (h:w.ownsRow base e sz v n xs) (d:∀g,v.ownBlock=some g->w'.heap[g]?=w.heap[g]?):w'.ownsRow base e sz v n xs:=by
 obtain⟨f,h⟩:=h;refine⟨f,?_⟩;rcases h with h | ⟨g,cap,a,b,c,hb,r⟩
 ·exact .inl h
 exact .inr ⟨g,cap,a,b,c,by rw [d g (by rw [b];rfl)];exact hb,r⟩
def zox {c:Nat} {v':Value} {m:Nat} {d:List Value} (h:w.ownsRow base e sz v n xs) (b:w.ownsRow base' e' c v' m d) (u:e≠e'):∀g,v.ownBlock=some g->some g≠v'.ownBlock:=by
 intro g j a;obtain⟨_,h⟩:=h;obtain⟨_,b⟩:=b;rcases h with ⟨rfl,_⟩ | ⟨k,q,f,rfl,_,p,_⟩
 ·cases j
 rcases b with ⟨rfl,_⟩ | ⟨l,r,i,rfl,_,o,_⟩
 ·cases a
 have s:k=g:=by simpa [Value.ownBlock] using j
 have t:g=l:=by simpa [Value.ownBlock] using a
 simp_all
def zpz (w:World) (a b c:Value) (t:TypeId):∀(j:Nat) (u:Value),[a,b,c][j]?=some u->(w.alloc (.cells #[a,b,c] t)).cell? (((E w.heap.size 0):Addr).add j)=some u:=by
 intro j u f;have hb:(w.alloc (.cells #[a,b,c] t)).heap[w.heap.size]?=some (.cells #[a,b,c] t (0,0)):=by show (w.heap.push _)[w.heap.size]?=_;simp
 have d:((E w.heap.size 0):Addr).add j=(E w.heap.size j):=by simp [Addr.add];omega
 simp_all
def Ed.nil:Ed:=⟨0,0,0,0⟩
def zJ (l:List Ed) (i:Nat):Ed:=l.getD i Ed.nil
def zY (d:Ed):List Value:=[J d.fr,J d.to,J d.bk,J d.wt]
def yI (l:List Ed):List Value:=l.flatMap zY
theorem zgi (l:List Ed) (d:Ed):yI l++zY d=yI (l++[d]):=by unfold yI;simp
theorem zak (l:List Ed):(yI l).length=l.length*4:=by
 induction l with
 | nil=>rfl
 | cons d l ih =>show (zY d++yI l).length=(l.length+1)*4;rw [Qt,ih];show 4+_=_;omega
def zwr (l:List Ed):∀i c,i<l.length->c<4->(yI l)[i*4+c]?=(zY (zJ l i))[c]?:=by
 induction l with
 | nil=>intro i c h;exact absurd h (Qv _)
 | cons d l ih =>
  intro i c h b;show (zY d++yI l)[i*4+c]?=_;have a:(zY d).length=4:=rfl;cases i with
  | zero =>rw [Wj (by omega),EY,QO];rfl
  | succ i =>rw [Ww (by omega),a,show (i+1)*4+c - 4=i*4+c from by omega,ih i c (by simpa using h) b];rfl
def ZD (w:World) (v:Value) (l:List Ed):Prop :=
 ∃ a cap,v=.slice a l.length cap/\l.length<=cap/\cap<=maxLen /\
   (0<l.length->∃blk off,a=some (E blk off)/\blk<w.heap.size/\∀i,i<l.length->∀j,j<4->w.cell? (E blk (off+i*4+j))=(zY (zJ l i))[j]?)
def ZD.gE {l:List Ed} (h:ZD w v l) (hb:Bw w w'):ZD w' v l:=by obtain⟨a,cap,e,h1,f,g⟩:=h;refine⟨a,cap,e,h1,f,fun m=>?_⟩;obtain⟨b,c,d,k,n⟩:=g m;exact⟨b,c,d,Qu k hb.size,fun i hi j o=>by grind [ze]⟩
def zgl (w:World) (a b c d:Value) (t:TypeId):∀(j:Nat) (u:Value),[a,b,c,d][j]?=some u->(w.alloc (.cells #[a,b,c,d] t)).cell? (((E w.heap.size 0):Addr).add j)=some u:=by
 intro j u g;have hb:(w.alloc (.cells #[a,b,c,d] t)).heap[w.heap.size]?=some (.cells #[a,b,c,d] t (0,0)):=by show (w.heap.push _)[w.heap.size]?=_;simp
 have f:((E w.heap.size 0):Addr).add j=(E w.heap.size j):=by simp [Addr.add];omega
 simp_all
def zo0 {b o:Nat} {x:Ed} (h:∀j,j<4->w.cell? (E b (o+j))=(zY x)[j]?) :
  w.cell? (E b o)=Y x.fr/\w.cell? (E b (o+1))=Y x.to/\w.cell? (E b (o+2))=Y x.bk/\w.cell? (E b (o+3))=Y x.wt :=
 ⟨h 0 (by omega),h 1 (by omega),h 2 (by omega),h 3 (by omega)⟩
def Vn (p:Int) (e:Ed):Int:=e.wt - p*e.bk
def zvh (l:List Ed) (p:Int):Prop:=∃h:Nat->Int,∀e∈l,h e.fr.toNat+Vn p e<=h e.to.toNat
def V0 (p:Int) (a:Nat->Int) (e:Ed):Nat->Int:=if a e.to.toNat<a e.fr.toNat+Vn p e then (fun v=>if v=e.to.toNat then a e.fr.toNat+Vn p e else a v) else a
def okE (p:Int) (a:Nat->Int) (e:Ed):Bool:=decide (a e.fr.toNat+Vn p e<=a e.to.toNat)
def yR (p:Int) (l:List Ed) (a:Nat->Int):Nat->Nat->Int
 | 0=>a
 | k+1=>V0 p (yR p l a k) (zJ l k)
def zt (p:Int) (l:List Ed):Nat->Nat->Int
 | 0=>fun _=>0
 | r+1=>yR p l (zt p l r) l.length
def ZS (p:Int) (l:List Ed) (a:Nat->Int):Bool:=zF (fun k=>okE p a (zJ l k)) l.length
def xC (n:Nat) (l:List Ed) (p:Int):Bool:=exN (fun r=>ZS p l (zt p l r)) (n+1)
def Vb {l:List Ed} {i:Nat} (h:i<l.length):zJ l i∈l:=by grind [zJ]
def zff {l:List Ed} {e:Ed} (h:e∈l):∃i,i<l.length/\zJ l i=e:=by obtain⟨i,hi,rfl⟩:=Wl.1 h;exact⟨i,hi,by grind [zJ]⟩
theorem ZO {l:List Ed}:ZS p l a=true↔∀e∈l,a e.fr.toNat+Vn p e<=a e.to.toNat:=by
 unfold ZS;constructor
 ·intro h e b;obtain⟨i,hi,rfl⟩:=zff b;exact QI (zq h i hi)
 intro h;exact yk fun i hi=>Qi (h _ (Vb hi))
theorem zpb {l:List Ed} (h:xC n l p=true):zvh l p:=by obtain⟨r,-,hr⟩:=zc7.1 h;exact⟨zt p l r,ZO.1 hr⟩
def ydp (p:Int) (a:Nat->Int) (e:Ed) (v:Nat):a v<=V0 p a e v:=by
 unfold V0;split
 ·rename_i h;show a v<=if v=e.to.toNat then _ else a v
  grind
 exact QR _
def ydq (p:Int) (a:Nat->Int) (e:Ed) (b:True):a e.fr.toNat+Vn p e<=V0 p a e e.to.toNat:=by
 unfold V0;split
 ·simp_all
 omega
theorem zyk {e:Ed} {v:Nat} (h:v≠e.to.toNat):V0 p a e v=a v:=by
 unfold V0;split
 ·exact Qe h
 rfl
theorem zmi {e:Ed} {v:Nat} (h:V0 p a e v≠a v):v=e.to.toNat/\V0 p a e v=a e.fr.toNat+Vn p e:=by
 by_cases b:v=e.to.toNat
 ·refine⟨b,?_⟩;subst b;unfold V0 at h ⊢;split
  ·exact Qf rfl
  rename_i h2;rw [Qe h2] at h;exact absurd rfl h
 grind [zyk]
def zaq (p:Int) (l:List Ed) (a:Nat->Int) (v:Nat):∀i j,i<=j->yR p l a i v<=yR p l a j v:=by
 intro i j h;induction j with
 | zero => obtain rfl:i=0:=by omega
           exact QR _
 | succ j ih =>
  by_cases e:i=j+1
  ·subst e;exact QR _
  exact WK (ih (by omega)) (ydp _ _ _ _)
def Ys (p:Int) (l:List Ed) (v:Nat):∀r s,r<=s->zt p l r v<=zt p l s v:=by
 intro r s h;induction s with
 | zero => obtain rfl:r=0:=by omega
           exact QR _
 | succ s ih =>
  by_cases e:r=s+1
  ·subst e;exact QR _
  exact WK (ih (by omega)) (zaq p l _ v 0 _ (Ql _))
def zyl {e:Ed} (b:∀v,a v<=H v) (c:H e.fr.toNat+Vn p e<=H e.to.toNat):∀v,V0 p a e v<=H v:=by grind [zmi]
def zhf {l:List Ed} (c:∀v,a v<=H v) (b:∀e∈l,H e.fr.toNat+Vn p e<=H e.to.toNat):∀k,k<=l.length->∀v,yR p l a k v<=H v:=by
 intro k;induction k with
 | zero=>exact fun _=>c
 | succ k ih=>exact fun d=>zyl (ih (by omega)) (b _ (Vb d))
def zem {l:List Ed} (h0:∀v,0<=H v) (a:∀e∈l,H e.fr.toNat+Vn p e<=H e.to.toNat):∀r v,zt p l r v<=H v:=by
 intro r;induction r with
 | zero=>exact h0
 | succ r ih=>exact zhf ih a _ (Qc _)
def xz (f:Nat->Int):Nat->Int
 | 0=>0
 | n+1=>xz f n+f n
def yea:∀n,(∀v,v<n->f v<=g v)->xz f n<=xz g n:=by
 intro n;induction n with
 | zero=>exact fun _=>QR _
 | succ n ih =>intro h;have h1:=ih fun v b=>h v (by omega);have a:=h n (by omega);show xz f n+f n<=xz g n+g n;omega
def yjz:∀n,(∀v,v<n->f v<=g v)->(∃v,v<n/\f v<g v)->xz f n<xz g n:=by
 intro n;induction n with
 | zero=>rintro _ ⟨v,c,_⟩;omega
 | succ n ih =>
  rintro h ⟨v,c,a⟩;show xz f n+f n<xz g n+g n;by_cases e:v=n
  ·subst e;have:=yea v fun u b=>h u (by omega);omega
  have h1:=ih (fun u b=>h u (by omega)) ⟨v,by omega,a⟩;grind
def zsm {l:List Ed} (h:ZS p l a=false):∃e∈l,a e.to.toNat<yR p l a l.length e.to.toNat:=by
 have h1:¬∀e∈l,a e.fr.toNat+Vn p e<=a e.to.toNat:=fun b=>by grind [ZO]
 obtain⟨e,f⟩:∃e,¬(e∈l->a e.fr.toNat+Vn p e<=a e.to.toNat):=Classical.not_forall.1 h1;have d:e∈l:=Classical.byContradiction fun b=>f fun c=>absurd c b;have j:¬a e.fr.toNat+Vn p e<=a e.to.toNat:=fun b=>f fun _=>b;obtain⟨i,hi,rfl⟩:=zff d;refine⟨_,d,?_⟩;have b:a (zJ l i).fr.toNat+Vn p (zJ l i)<=yR p l a (i+1) (zJ l i).to.toNat:=by have c:=ydq p (yR p l a i) (zJ l i) trivial;have g:=zaq p l a (zJ l i).fr.toNat 0 i (Ql _);have k:a (zJ l i).fr.toNat<=yR p l a i (zJ l i).fr.toNat:=g;show _<=V0 p (yR p l a i) (zJ l i) (zJ l i).to.toNat;omega
 have c:=zaq p l a (zJ l i).to.toNat (i+1) l.length hi;omega
def zhx {l:List Ed} (hn:∀e∈l,e.fr.toNat<n/\e.to.toNat<n) (j:zvh l p):∃r,ZS p l (zt p l r)=true:=by
 obtain⟨h,o⟩:=j;obtain⟨C,g⟩:∃C:Int,∀v,v<n->0<=h v+C:=by
  have:∀n,∃C:Int,∀v,v<n->0<=h v+C:=by
   intro n;induction n with
   | zero=>exact⟨0,fun v b=>absurd b (Qv _)⟩
   | succ n ih =>
    obtain⟨C,g⟩:=ih;refine⟨max C (-(h n)),fun v b=>?_⟩;grind
  exact this n
 have d:∀v,0<=(fun v=>if v<n then h v+C else 0) v:=fun v=>by
  grind
 have i:∀e∈l,(fun v=>if v<n then h v+C else 0) e.fr.toNat+Vn p e<=(fun v=>if v<n then h v+C else 0) e.to.toNat:=fun e a=>by
  grind
 have m:=zem d i;refine Classical.byContradiction fun k=>?_;have hall:∀r,ZS p l (zt p l r)=false:=fun r=>by
  simp_all
 have c:∀r:Nat,(r:Int)<=xz (zt p l r) n:=by
  intro r;induction r with
  | zero =>
   have:∀n,xz (zt p l 0) n=0:=fun n=>by
    induction n with
    | zero=>rfl
    | succ n ih=>show xz (zt p l 0) n+0=0;omega
   grind
  | succ r ih =>obtain⟨e,a,f⟩:=zsm (hall r);have:xz (zt p l r) n<xz (zt p l (r+1)) n:=yjz n (fun v _=>Ys p l v r (r+1) (by omega)) ⟨_,(hn e a).2,f⟩;omega
 have hb:∀r,xz (zt p l r) n<=xz (fun v=>if v<n then h v+C else 0) n:=fun r=>yea n fun v _=>m r v;have h1:=c ((xz (fun v=>if v<n then h v+C else 0) n).toNat+1);grind
theorem zp0 {l:List Ed} (h:ZS p l (zt p l r)=true):∀s,r<=s->∀v,zt p l s v=zt p l r v:=by
 intro s hs v;have h1:=Ys p l v r s hs;have a:zt p l s v<=zt p l r v:=by
  have key:∀s,r<=s->∀v,zt p l s v<=zt p l r v:=by
   intro s;induction s with
   | zero => intro h0 v;obtain rfl:r=0:=by omega
             exact QR _
   | succ s ih =>
    intro h0 v;by_cases e:r=s+1
    ·subst e;exact QR _
    exact zhf (ih (by omega)) (ZO.1 h) _ (Qc _) v
  exact key s hs v
 omega
def XP (p:Int) (l:List Ed) (m:Nat):Nat->Int:=yR p l (zt p l (m / l.length)) (m % l.length)
def XQ {l:List Ed} (b:0<l.length) (r k:Nat) (c:k<=l.length):XP p l (r*l.length+k)=yR p l (zt p l r) k:=by
 unfold XP;by_cases e:k=l.length
 ·subst e;have h1:(r*l.length+l.length) / l.length=r+1:=by simp_all
  have a:(r*l.length+l.length) % l.length=0:=by simp_all
  rw [h1,a];rfl
 have h1:(r*l.length+k) / l.length=r:=by rw [qR,qV _ _ b,Nat.div_eq_of_lt (by omega),QO]
 have a:(r*l.length+k) % l.length=k:=by rw [qR,qq];exact qG (by omega)
 rw [h1,a]
def zky {l:List Ed} (a:0<l.length) (m:Nat):XP p l (m+1)=V0 p (XP p l m) (zJ l (m % l.length)):=by
 have hm:m=(m / l.length)*l.length+m % l.length:=by have:=Nat.div_add_mod m l.length;grind
 have c:m % l.length<l.length:=E7 _ a;have b:XP p l (m+1)=yR p l (zt p l (m / l.length)) (m % l.length+1):=by rw [<-XQ a (m / l.length) (m % l.length+1) (by omega)];congr 1;omega
 rw [b];rfl
def zv2 {l:List Ed} (a:0<l.length) (v:Nat):∀i j,i<=j->XP p l i v<=XP p l j v:=by
 intro i j h;induction j with
 | zero => obtain rfl:i=0:=by omega
           exact QR _
 | succ j ih =>
  by_cases e:i=j+1
  ·subst e;exact QR _
  rw [zky a];exact WK (ih (by omega)) (ydp _ _ _ _)
def Zq (x A:Nat->Int):Nat->Nat
 | 0=>0
 | n+1=>Zq x A n+(if x n=A n then 0 else 1)
def zuo (x A:Nat->Int) (n:Nat):Zq x A n<=n:=by
 induction n with
 | zero=>exact Qc _
 | succ n ih =>show Zq x A n+(if x n=A n then 0 else 1)<=n+1;split <;> omega
theorem zap (h:Zq x A n=0):∀v,v<n->x v=A v:=by
 induction n with
 | zero=>intro v a;omega
 | succ n ih =>
  grind [Zq]
def zdu:∀n,(∀v,v<n->x v=A v->y v=A v)->Zq y A n<=Zq x A n:=by
 intro n;induction n with
 | zero=>exact fun _=>Qc _
 | succ n ih =>
  grind [Zq]
def zdt:∀n,(∀v,v<n->x v=A v->y v=A v)->(∃v,v<n/\x v≠A v/\y v=A v)->Zq y A n<Zq x A n:=by
 intro n;induction n with
 | zero=>rintro _ ⟨v,c,_⟩;omega
 | succ n ih =>
  rintro h ⟨v,c,h1,a⟩;show Zq y A n+(if y n=A n then 0 else 1)<Zq x A n+(if x n=A n then 0 else 1);by_cases e:v=n
  ·subst e;rw [Qe h1,Qf a];have:=zdu v fun u b=>h u (by omega);omega
  have d:=ih (fun u b=>h u (by omega)) ⟨v,by omega,h1,a⟩;grind
def zke (h:Zq x A n≠0):∃v,v<n/\x v≠A v:=by
 refine Classical.byContradiction fun a=>h ?_;have:∀v,v<n->x v=A v:=fun v b=>Classical.byContradiction fun c=>a ⟨v,b,c⟩;clear h a;induction n with
 | zero=>rfl
 | succ n ih =>show Zq x A n+(if x n=A n then 0 else 1)=0;rw [ih fun v b=>this v (by omega),Qf (this n (by omega))]
def ybs {P:Nat->Prop} (h:∃m,P m):∃m,P m/\∀k,k<m->¬P k:=by
 obtain⟨m,hm⟩:=h;induction m using Nat.strongRecOn with
 | _ m ih =>
  grind
def zcy {l:List Ed} (b:0<l.length) (hn:∀e∈l,e.fr.toNat<n/\e.to.toNat<n) (hR:ZS p l (zt p l R)=true) (hr:r<=R) (C:∃v,v<n/\zt p l r v≠zt p l R v) :
  ∃v,v<n/\zt p l r v≠zt p l R v/\zt p l (r+1) v=zt p l R v:=by
 have hA:∀m v,XP p l m v<=zt p l R v:=fun m v=>by have h1:=zv2 (p:=p) b v m ((R+m)*l.length) (by have:m<=(R+m)*l.length:=QH (Nat.le_add_left m R) (EW _ b);exact this);have a:=XQ (p:=p) b (R+m) 0 (Ql _);rw [WG] at a;rw [a] at h1;have f:yR p l (zt p l (R+m)) 0 v=zt p l (R+m) v:=rfl;grind [zp0]
 have A:∀v,XP p l (r*l.length) v=zt p l r v:=fun v=>by have:=XQ (p:=p) b r 0 (Ql _);rw [WG] at this;rw [this];rfl
 have H:∀v,XP p l (r*l.length+l.length) v=zt p l (r+1) v:=fun v=>by rw [XQ b r l.length (Qc _)];rfl
 obtain⟨m,hm,B⟩:=ybs (P:=fun m=>∃v,v<n/\zt p l r v≠zt p l R v/\XP p l (r*l.length+m+1) v=zt p l R v) (by obtain⟨v,g,d⟩:=C;refine⟨(R - r)*l.length,v,g,d,?_⟩;have h1:=zv2 (p:=p) b v (R*l.length) (r*l.length+(R - r)*l.length+1) (by rw [<-Nat.add_mul,show r+(R - r)=R by omega];omega);have a:=XQ (p:=p) b R 0 (Ql _);rw [WG] at a;rw [a] at h1;have f:yR p l (zt p l R) 0 v=zt p l R v:=rfl;rw [f] at h1;have j:=hA (r*l.length+(R - r)*l.length+1) v;omega);obtain⟨v,g,d,o⟩:=hm;have k:∀u,u<n->zt p l r u≠zt p l R u->XP p l (r*l.length+m) u≠zt p l R u:=fun u D c a=>by
  cases m with
  | zero=>rw [WG,A] at a;exact c a
  | succ m=>exact B m (by omega) ⟨u,D,c,a⟩
 have s:=k v g d;rw [zky b] at o;have q:V0 p (XP p l (r*l.length+m)) (zJ l ((r*l.length+m) % l.length)) v≠XP p l (r*l.length+m) v:=fun a=>s (by omega);obtain⟨x,y⟩:=zmi q;have h:zJ l ((r*l.length+m) % l.length)∈l:=Vb (E7 _ b);generalize zJ l ((r*l.length+m) % l.length)=e at *
 rw [o] at y;have t:=ZO.1 hR e h;have I:=hA (r*l.length+m) e.fr.toNat;rw [<-x] at t;have z:XP p l (r*l.length+m) e.fr.toNat=zt p l R e.fr.toNat:=by omega
 have G:zt p l r e.fr.toNat=zt p l R e.fr.toNat:=Classical.byContradiction fun a=>k _ (hn e h).1 a z;refine⟨v,g,d,?_⟩;obtain⟨i,hi,F⟩:=zff h;have h1:zt p l R v<=yR p l (zt p l r) (i+1) v:=by have f:=ydq p (yR p l (zt p l r) i) e trivial;have j:=zaq p l (zt p l r) e.fr.toNat 0 i (Ql _);have K:zt p l r e.fr.toNat<=yR p l (zt p l r) i e.fr.toNat:=j;show _<=V0 p (yR p l (zt p l r) i) (zJ l i) v;grind
 have a:=zaq p l (zt p l r) v (i+1) l.length hi;have f:zt p l (r+1) v<=zt p l R v:=by grind
 have j:yR p l (zt p l r) l.length v=zt p l (r+1) v:=rfl;omega
def zei {l:List Ed} (hn:∀e∈l,e.fr.toNat<n/\e.to.toNat<n) (f:zvh l p):xC n l p=true:=by
 by_cases g:0<l.length
 ·obtain⟨R,hR⟩:=zhx hn f;have i:∀r,r<=R->Zq (zt p l r) (zt p l R) n+r<=n\/Zq (zt p l r) (zt p l R) n=0:=by
   intro r;induction r with
   | zero=>exact fun _=>.inl (by simp [zuo])
   | succ r ih =>
    intro hr;have a:∀v,v<n->zt p l r v=zt p l R v->zt p l (r+1) v=zt p l R v:=fun v _ h=>by have h1:=Ys p l v r (r+1) (by omega);have b:=Ys p l v (r+1) R hr;omega
    by_cases h0:Zq (zt p l r) (zt p l R) n=0
    ·have:=zdu n a;omega
    obtain⟨v,h1,b,c⟩:=zcy g hn hR (by omega) (zke h0);have:=zdt n a ⟨v,h1,b,c⟩;omega
  by_cases d:R<=n
  ·exact ZX (k:=R) (by omega) hR
  have h1:Zq (zt p l n) (zt p l R) n=0:=by
   grind
  refine ZX (k:=n) (by omega) (ZO.2 fun e j=>?_);grind [ZO,zap]
 have e:l=[]:=Wi.1 (by omega);subst e;exact ZX (k:=0) (by omega) rfl
def yfx {l:List Ed} (hn:n<=16) (b:∀e∈l,∃fr to bk wt:Nat,e=⟨fr,to,bk,wt⟩/\fr<n/\to<n/\(bk=0->fr<to)/\wt<=6):zvh l 96:=by
 refine⟨fun v=>6*v,fun e a=>?_⟩;grind [Vn]
def VP (n:Nat) (l:List Ed) (p:Int):Bool:=exN (fun r=>ZS p l (zt p l r)) n
def ycp {l:List Ed} (g:1<=n) (hn:∀e∈l,e.fr.toNat<n/\e.to.toNat<n) (hR:ZS p l (zt p l R)=true):∃v,v<n/\zt p l R v=0:=by
 refine Classical.byContradiction fun b=>?_;have d:∀v,v<n->1<=zt p l R v:=fun v f=>by have h0:(0:Int)<=zt p l R v:=Ys p l v 0 R (Ql _);have h1:zt p l R v≠0:=fun h=>b ⟨v,f,h⟩;omega
 have a:=zem (p:=p) (l:=l) (H:=fun v=>if v<n then zt p l R v - 1 else zt p l R v) (fun v=>by
  show (0:Int)<=if v<n then zt p l R v - 1 else zt p l R v
  split
  ·have:=d v (by assumption);omega
  ·exact Ys p l v 0 R (Ql _)) (fun e c=>by
  obtain⟨h1,a⟩:=hn e c;show (if _<n then _ else _)+Vn p e<=(if _<n then _ else _);rw [Qf h1,Qf a];have:=ZO.1 hR e c;omega) R 0
 rw [Qf (by omega)] at a;omega
theorem zlz {l:List Ed} (c:1<=n) (hn:∀e∈l,e.fr.toNat<n/\e.to.toNat<n) (i:zvh l p):VP n l p=true:=by
 by_cases j:0<l.length
 ·obtain⟨R,hR⟩:=zhx hn i;have q:∀r,r<=R->Zq (zt p l r) (zt p l R) n+r+1<=n\/Zq (zt p l r) (zt p l R) n=0:=by
   intro r;induction r with
   | zero =>intro _;obtain⟨v,m,o⟩:=ycp c hn hR;have h1:Zq (zt p l 0) (zt p l R) n<Zq (fun v=>zt p l R v+1) (zt p l R) n:=zdt n (fun v _ h=>by omega) ⟨v,m,by omega,by rw [o];rfl⟩;have:=zuo (fun v=>zt p l R v+1) (zt p l R) n;exact .inl (by omega)
   | succ r ih =>
    intro hr;have b:∀v,v<n->zt p l r v=zt p l R v->zt p l (r+1) v=zt p l R v:=fun v _ h=>by have h1:=Ys p l v r (r+1) (by omega);have a:=Ys p l v (r+1) R hr;omega
    by_cases h0:Zq (zt p l r) (zt p l R) n=0
    ·have:=zdu n b;omega
    obtain⟨v,h1,a,d⟩:=zcy j hn hR (by omega) (zke h0);have:=zdt n b ⟨v,h1,a,d⟩;omega
  by_cases f:R<=n - 1
  ·exact ZX (k:=R) (by omega) hR
  have h1:Zq (zt p l (n - 1)) (zt p l R) n=0:=by
   grind
  refine ZX (k:=n - 1) (by omega) (ZO.2 fun e g=>?_);have a:=ZO.1 hR e g;grind [zap]
 have e:l=[]:=Wi.1 (by omega);subst e;exact ZX (k:=0) (by omega) rfl
def zhs {l:List Ed} (a:1<=n) (hn:∀e∈l,e.fr.toNat<n/\e.to.toNat<n):VP n l p=xC n l p:=by grind [VP,xC,zlz,zpb,zc7]
def Xy (L:Lp) (c:Nat):Nat:=cnt (fun i=>decide (ye (zc L.b i).o=(c:Int))) L.b.length
def Xe (n u:Nat):Nat:=(n+u - 1) / u
def zh1 {u q:Nat} (c:1<=u):n<=q*u↔Xe n u<=q:=by
 unfold Xe;constructor
 ·intro h;have h1:n+u - 1<(q+1)*u:=by rw [Eo];omega
  exact Nat.le_of_lt_succ (Nat.div_lt_of_lt_mul (by grind))
 intro h;have h1:=Nat.div_add_mod (n+u - 1) u;have a:=E7 (n+u - 1) (show u > 0 by omega);have b:u*((n+u - 1) / u)<=u*q:=Nat.mul_le_mul_left _ h;grind
def zb4 (L:Lp) (t:Tg):Nat->Nat
 | 0=>1
 | c+1=>max (zb4 L t c) (Xe (Xy L c) (yf t c).toNat)
def ZL (L:Lp) (t:Tg):Nat:=zb4 L t 3
def XA (p:Nat->Bool):Nat->Nat->Nat
 | 0,s=>s
 | f+1,s=>if p s=true then s else XA p f (s+1)
def zgg {p:Nat->Bool}:∀f s,(∃q,s<=q/\q<=s+f/\p q=true)->p (XA p f s)=true/\s<=XA p f s/\XA p f s<=s+f/\∀q,s<=q->q<XA p f s->p q=false:=by
 intro f;induction f with
 | zero =>
  rintro s ⟨q,h1,c,a⟩;obtain rfl:q=s:=by omega
  exact⟨a,Qc _,Qc _,fun g d b=>absurd b (by show ¬g<q;omega)⟩
 | succ f ih =>
  rintro s ⟨q,h1,c,a⟩;unfold XA;by_cases h:p s=true
  ·grind
  rw [Qe h];have k:q≠s:=fun e=>h (e ▸ a);obtain⟨d,b,i,j⟩:=ih (s+1) ⟨q,by omega,by omega,a⟩;grind
def xS (L:Lp) (t:Tg):Nat:=XA (fun p=>xC L.b.length (zf L t) p) 95 1
def ZW (hm:zQ L=true):∀e∈zf L t,∃fr to bk wt:Nat,e=⟨fr,to,bk,wt⟩/\fr<L.b.length/\to<L.b.length/\(bk=0->fr<to)/\wt<=6/\bk<=32:=by
 intro e f;obtain⟨fr,to,b,x,h1,i,rfl,o⟩:=zcc _ f;obtain⟨c,g,a,j,d,-,-,p⟩:=zwe hm f;have l:(b:Int)=a:=congrArg Ed.bk d;have m:(fr:Int)=c:=congrArg Ed.fr d;have n:(to:Int)=g:=congrArg Ed.to d;refine⟨fr,to,b,x,rfl,h1,i,fun h=>by omega,?_⟩;have hb:∀k,(⟨fr,to,b,x⟩:Ed)∈frD L t k->x<=6/\b<=32:=by
  have w1:∀{fr to bk:Nat} {e:Ed} k,e∈wtD L t fr to bk k->∃y:Nat,y<k/\e=⟨fr,to,bk,y⟩:=fun k h=>by grind [zfq]
  have w2:∀{fr to:Nat} {e:Ed} k,e∈bkD L t fr to k->∃b y:Nat,b<k/\y<7/\e=⟨fr,to,b,y⟩:=by
   intro fr to e k;induction k with
   | zero=>intro h;cases h
   | succ k ih =>
    intro h;rcases QK.1 h with h | h
    ·grind
    grind
  have q:∀{fr:Nat} {e:Ed} k,e∈toD L t fr k->∃to b y:Nat,b<33/\y<7/\e=⟨fr,to,b,y⟩:=by
   intro fr e k;induction k with
   | zero=>intro h;cases h
   | succ k ih =>
    intro h;rcases QK.1 h with h | h
    ·exact ih h
    grind
  intro k;induction k with
  | zero=>intro h;cases h
  | succ k ih =>
   intro h;rcases QK.1 h with h | h
   ·exact ih h
   grind
 exact hb _ f
def za0 (hm:zQ L=true):∃q,1<=q/\q<=1+95/\(fun p:Nat=>xC L.b.length (zf L t) p) q=true:=by obtain⟨-,-,a,-⟩:=zy hm;have d:=ZW (t:=t) hm;refine⟨96,by omega,by omega,?_⟩;exact zei (fun e c=>by grind) (yfx a fun e c=>by grind)
def zcl (L:Lp) (P:Int) (T:List Int) (i j:Nat):Bool:=decide ((nth T j).tmod P=(nth T i).tmod P) && decide (ye (zc L.b j).o=ye (zc L.b i).o)
def Ut (L:Lp) (P:Int) (T:List Int) (i:Nat):Nat:=cnt (zcl L P T i) T.length
def VS (L:Lp) (t:Tg) (P:Int) (T:List Int) (i:Nat):Bool:=inR (nth T i) 0 1000 && decide ((Ut L P T i:Int)<=yf t (ye (zc L.b i).o))
def UM (P:Int) (T:List Int) (e:Ed):Bool:=decide (nth T e.fr.toNat+e.wt<=nth T e.to.toNat+e.bk*P)
def zZ (L:Lp) (t:Tg) (P:Int) (T:List Int):Bool :=
 zQ L && zS t && inR P 1 200 && decide (T.length=L.b.length) && zF (VS L t P T) T.length && zF (fun i=>UM P T (zJ (zf L t) i)) (zf L t).length
def yw {P:Int} (h:zZ L t P T=true):zQ L=true/\zS t=true/\1<=P/\P<=200/\T.length=L.b.length/\zF (VS L t P T) T.length=true/\zF (fun i=>UM P T (zJ (zf L t) i)) (zf L t).length=true:=by grind [zZ,zH]
def zch (h:zZ L t P T=true):xS L t<=P:=by obtain⟨hm,-,k,l,-,-,j⟩:=yw h;have n:=ZW (t:=t) hm;have f:zvh (zf L t) P:=⟨fun v=>nth T v,fun e d=>by obtain⟨i,hi,rfl⟩:=zff d;have h1:=QI (zq j i hi);unfold Vn;have a:(zJ (zf L t) i).bk*(P:Int)=(P:Int)*(zJ (zf L t) i).bk:=Er _ _;rw [a] at h1;show nth T (zJ (zf L t) i).fr.toNat+((zJ (zf L t) i).wt - (P:Int)*(zJ (zf L t) i).bk)<=nth T (zJ (zf L t) i).to.toNat;omega⟩;have hr:xC L.b.length (zf L t) P=true:=zei (fun e d=>by grind) f;obtain⟨h1,a,o,g⟩:=zgg 95 1 (za0 (t:=t) hm);refine Classical.byContradiction fun m=>?_;have c:=g P (by omega) (by grind [xS]);rw [hr] at c;cases c
def zw2 (p:Nat->Bool) (k:Nat->Nat) (m:Nat):∀n,(∀i,i<n->p i=true->k i<m)->cnt p n=(List.range m).foldl (fun s c=>s+cnt (fun i=>p i && decide (k i=c)) n) 0:=by
 have t:∀(f:Nat->Nat) (m a:Nat),(List.range m).foldl (fun s c=>s+f c) a=a+(List.range m).foldl (fun s c=>s+f c) 0:=by
  intro f m;induction m with
  | zero=>intro a;simp
  | succ m ih =>intro a;rw [Wn,Q8,Q8,ih a];simp;omega
 have l:∀(f g:Nat->Nat) (m:Nat),(List.range m).foldl (fun s c=>s+(f c+g c)) 0=(List.range m).foldl (fun s c=>s+f c) 0+(List.range m).foldl (fun s c=>s+g c) 0:=by
  intro f g m;induction m with
  | zero=>rfl
  | succ m ih =>rw [Wn,Q8,Q8,Q8,ih];simp;omega
 have j:∀(q m:Nat),q<m->(List.range m).foldl (fun s c=>s+(if q=c then 1 else 0)) 0=1:=by
  intro q m;induction m with
  | zero=>intro h;omega
  | succ m ih =>
   intro h;rw [Wn,Q8];by_cases e:q=m
   ·subst e;have h0:∀m,m<=q->(List.range m).foldl (fun s c=>s+(if q=c then 1 else 0)) 0=0:=by
     intro m;induction m with
     | zero=>intro _;rfl
     | succ m ih=>intro hm;rw [Wn,Q8,ih (by omega)];simp;omega
    grind
   grind
 have d:∀m,(List.range m).foldl (fun s c=>s+0) 0=0:=by
  intro m;induction m with
  | zero=>rfl
  | succ m ih=>rw [Wn,Q8,ih];rfl
 intro n;induction n with
 | zero=>intro _;exact (d m).symm
 | succ n ih =>
  intro h;have h1:=ih fun i hi=>h i (by omega);have o:(fun (s c:Nat)=>s+cnt (fun i=>p i && decide (k i=c)) (n+1))=fun s c=>s+(cnt (fun i=>p i && decide (k i=c)) n+(if (p n && decide (k n=c))=true then 1 else 0)):=rfl;rw [o,l,<-h1];show cnt p n+(if p n=true then 1 else 0)=_;cases r:p n with
  | false =>have b:(fun (s c:Nat)=>s+(if (false && decide (k n=c))=true then 1 else 0))=fun s c=>s+0:=(by funext s c;simp);rw [b,d];rfl
  | true =>have b:(fun (s c:Nat)=>s+(if (true && decide (k n=c))=true then 1 else 0))=fun s c=>s+(if k n=c then 1 else 0):=(by funext s c;simp);rw [b,j _ _ (h n (by omega) r)];rfl
def yb6 (f:Nat->Nat) (u:Nat):∀m,(∀c,c<m->f c<=u)->(List.range m).foldl (fun s c=>s+f c) 0<=m*u:=by
 intro m;induction m with
 | zero=>intro _;simp
 | succ m ih =>intro h;rw [Wn,Q8];have h1:=ih fun c b=>h c (by omega);have a:=h m (by omega);simp only [qj,List.foldl_nil];rw [Eo];omega
theorem Yd (p:Nat->Bool) (n:Nat):cnt p n=0\/∃i,i<n/\p i=true:=by induction n <;> grind [cnt]
def zlr {p q:Nat->Bool} (h:∀i,i<n->p i=true->q i=true):cnt p n<=cnt q n:=by
 induction n with
 | zero=>exact Qc _
 | succ n ih =>
  grind [cnt]
def zel (h:zZ L t P T=true):ZL L t<=P:=by
 obtain⟨hm,n,u,v,hlen,hT,-⟩:=yw h;have A:1<=P:=by omega
 have f:∀i,i<T.length->0<=nth T i/\((Ut L P T i:Int)<=yf t (ye (zc L.b i).o)):=fun i hi=>by grind [zq,VS,zH]
 have r:∀c:Nat,1<=yf t c:=fun c=>by
  obtain⟨h1,a,g,-,-⟩:=yi n;have h1:=yG h1;have a:=yG a;have g:=yG g;grind [yf]
 have d:∀c:Nat,c<3->Xe (Xy L c) (yf t c).toNat<=P:=fun c B=>by
  refine (zh1 (by have:=r c;omega)).1 ?_;have h1:=zw2 (fun i=>decide (ye (zc L.b i).o=(c:Int))) (fun i=>((nth T i) % (P:Int)).toNat) P L.b.length (fun i hi _=>by have:=QP (nth T i) (show (0:Int)<P by omega);have:=QS (nth T i) (show (P:Int)≠0 by omega);show ((nth T i) % (P:Int)).toNat<P;omega);unfold Xy;rw [h1];refine yb6 _ _ P fun s hs=>?_;rcases Yd (fun i=>decide (ye (zc L.b i).o=(c:Int)) && decide (((nth T i) % (P:Int)).toNat=s)) L.b.length with h0 | ⟨i,hi,l⟩
  ·omega
  simp only [Qg,QE] at l;obtain⟨m,x⟩:=l;have a:=(f i (by omega)).2;rw [m] at a;have g:cnt (fun j=>decide (ye (zc L.b j).o=(c:Int)) && decide (((nth T j) % (P:Int)).toNat=s)) L.b.length<=Ut L P T i:=by unfold Ut;rw [hlen];refine zlr fun j C k=>?_;simp only [Qg,QE] at k;unfold zcl;have p:=(f i (by omega)).1;have q:=(f j (by omega)).1;have y:=QS (nth T i) (show (P:Int)≠0 by omega);have z:=QS (nth T j) (show (P:Int)≠0 by omega);rw [Wo p,Wo q,Qi (by omega),Qi (by omega)];rfl
  omega
 have h0:=d 0 (by omega);have h1:=d 1 (by omega);have a:=d 2 (by omega);show max (max (max 1 (Xe (Xy L 0) (yf t (0:Nat)).toNat)) (Xe (Xy L 1) (yf t (1:Nat)).toNat)) (Xe (Xy L 2) (yf t (2:Nat)).toNat)<=P;omega
def zzm (L:Lp) (t:Tg):1<=ZL L t:=by show 1<=max (max (max 1 _) _) _;omega
end
section
variable {q:Nx} {i s n:Nat}
section
section
variable (t:Tg) (K:Kn) (logs:List Int) (gD:Nat) (s0:Kst)
end
variable {t:Tg} {K:Kn} {logs:List Int} {gD:Nat} {s0:Kst}
end
section
variable {t:Tg} {K:Kn} {logs:List Int} {gD:Nat} {s0:Kst}
end
section
def yf4:∀(n:Nat) (f:Nat->Nat),(∀s,s<n->f s<n)->(∀s a,s<n->a<n->f s=f a->s=a)->∀k,k<n->∃s,s<n/\f s=k:=by
 intro n;induction n with
 | zero=>intro f _ _ k l;omega
 | succ n ih =>
  intro f j hi k l;have g:=ih (fun s=>if f s=n then f n else f s) (fun s hs=>by
   show (if f s=n then f n else f s)<n;split
   ·next e =>
    grind
   ·next e=>have:=j s (by omega);omega) (fun s a hs m e=>by
   have b:(if f s=n then f n else f s)=(if f a=n then f n else f a):=e;split at b
   ·next e1 =>
    grind
   next e1 =>
   split at b
   ·next c=>have:=hi s n (by omega) (by omega) b;omega
   next c=>exact hi s a (by omega) (by omega) b)
  by_cases e:k=f n
  ·grind
  by_cases c:k=n
  ·have i:f n<n:=(by grind);obtain⟨s,hs,d⟩:=g (f n) i;grind
  obtain⟨s,hs,d⟩:=g k (by omega);have h:(if f s=n then f n else f s)=k:=d;split at h
  ·omega
  grind
section
variable (t:Tg) (K:Kn) (O:List Int)
def Vp (s:Nat):Nat:=(nth O s).toNat
def opJ (s:Nat):Kop:=zv K.ops (Vp O s)
def xy (s:Nat):Int:=(opJ K O s).sl+K.pc*(opJ K O s).sg
def zP (s:Nat):Int:=xy K O s+yj t (opJ K O s).o
def zC (s:Nat):Int:=(opJ K O s).d+(opJ K O s).sg
end
structure ya8 (L:Lp) (t:Tg) (K:Kn) (O:List Int):Prop where
 may:zQ L=true
 mayt:zS t=true
 mayk:X7 t K L.l=true
 nops:K.ops.length=L.b.length
 ord:∀s,s<L.b.length->Vp O s<L.b.length
 inj:∀s s',s<L.b.length->s'<L.b.length->Vp O s=Vp O s'->s=s'
 same:∀s,s<L.b.length->(opJ K O s).o=(zc L.b s).o/\(opJ K O s).ar=(zc L.b s).ar/\(opJ K O s).sp=(zc L.b s).sp/\(opJ K O s).pl=(zc L.b s).pl/\(opJ K O s).nn=(zc L.b s).nn
 edge:∀e∈zf L t,xy K O e.fr.toNat+e.wt<=xy K O e.to.toNat+e.bk*K.pc
 nameA:∀s,s<L.b.length->(zc L.b s).o=4\/10<(zc L.b s).o->(opJ K O s).a=(zC K O (zc L.b s).xa.toNat - (zc L.b s).xb - (opJ K O s).sg) % t.r
 nameB:∀s,s<L.b.length->10<(zc L.b s).o->(opJ K O s).b=(zC K O (zc L.b s).ya.toNat - (zc L.b s).yb - (opJ K O s).sg) % t.r
 kept:∀s,s<L.b.length->∀r∈zu (zc L.b s),∀m,m<L.b.length->∀j:Int,¬(m=r.1.toNat/\j=0)->(zC K O m+j - zC K O r.1.toNat) % t.r=0 ->
  (zP t K O m+j*K.pc<zP t K O r.1.toNat\/xy K O s+r.2*K.pc<zP t K O m+j*K.pc)/\(0<r.2->0<j->xy K O s+r.2*K.pc<zP t K O m+j*K.pc)
 told:∀a∈L.o,∀m,m<L.b.length->∀j:Int,j<=0->¬(m=a.toNat/\j=0)->(zC K O m+j - zC K O a.toNat) % t.r=0->zP t K O m+j*K.pc<zP t K O a.toNat
variable {L:Lp} {t:Tg} {K:Kn} {O:List Int} {B M:List (List Int)} {R:List Int} {gD:Nat}
def ya8.hit (h:ya8 L t K O) {k:Nat} (a:k<K.ops.length):∃s,s<L.b.length/\Vp O s=k:=yf4 _ _ h.ord h.inj k (by rw [<-h.nops];exact a)
end
section
def UA (len:Nat->Nat):Nat->Nat
 | 0=>0
 | s+1=>UA len s+len s
def XB (len:Nat->Nat) (g:Nat->Nat->Int):Nat->List Int
 | 0=>[]
 | s+1=>XB len g s++(List.range (len s)).map (g s)
def zny (len:Nat->Nat) (g:Nat->Nat->Int):∀k,(XB len g k).length=UA len k:=by intro k;induction k <;> simp_all [XB,UA]
def yda (len:Nat->Nat):∀k s,s<k->UA len s+len s<=UA len k:=by
 intro k;induction k with
 | zero=>intro s h;omega
 | succ k ih =>
  grind [UA]
def zca (len:Nat->Nat) (g:Nat->Nat->Int):∀k s q,s<k->q<len s->nth (XB len g k) (UA len s+q)=g s q:=by
 intro k;induction k with
 | zero=>intro s q h;omega
 | succ k ih =>
  intro s q h a;show nth (XB len g k++(List.range (len k)).map (g k)) _=_;have c:=zny len g k;unfold nth;by_cases e:s=k
  ·simp_all
  have b:=yda len k s (by omega);rw [List.getD,Wj (by omega)];exact ih s q (by omega) a
def zb5 (F V:List Int):Nat->Nat->Int
 | 0=>fun _=>0
 | k+1=>VM (zb5 F V k) (nth F k).toNat (nth V k)
theorem yh2 {F V:List Int}:∀m,(∀i j,i<j->j<m->(nth F i).toNat≠(nth F j).toNat)->∀k,k<m->zb5 F V m (nth F k).toNat=nth V k:=by
 intro m;induction m with
 | zero=>intro _ k h;omega
 | succ m ih =>
  intro a k b;show VM (zb5 F V m) (nth F m).toNat (nth V m) (nth F k).toNat=_;grind [VM]
def UO (u:List (Int × Int)) (a:Int) (f:Int):Nat->Int
 | 0=>f
 | k+1=>if (zO u k).1=a/\UO u a f k<(zO u k).2 then (zO u k).2 else UO u a f k
def zir (L:Lp) (a:Int):Nat->Int
 | 0=>0
 | k+1=>UO (zu (zc L.b k)) a (zir L a k) (zu (zc L.b k)).length
def znr (L:Lp) (a:Int):Int:=zir L a L.b.length
def zu7 (u:List (Int × Int)) (a f:Int):∀k,f<=UO u a f k:=by
 intro k;induction k with
 | zero=>exact QR _
 | succ k ih =>show f<=(if (zO u k).1=a/\UO u a f k<(zO u k).2 then (zO u k).2 else UO u a f k);split <;> omega
def zns (u:List (Int × Int)) (a f c:Int) (b:f<=c) (d:∀i,i<u.length->(zO u i).2<=c):∀k,k<=u.length->UO u a f k<=c:=by intro k;induction k <;> grind [UO]
def yh7 {u:List (Int × Int)} {r:Int × Int} (h:r∈u):∃i,i<u.length/\zO u i=r:=by obtain⟨i,hi,e⟩:=Wl.1 h;exact⟨i,hi,by grind [zO]⟩
def Xn {u:List (Int × Int)} (h:i<u.length):zO u i∈u:=by grind [zO]
def XT {L:Lp} (hm:zQ L=true) (hs:s<L.b.length):∀r∈zu (zc L.b s),0<=r.1/\r.1<L.b.length/\0<=r.2/\r.2<=3:=by
 obtain⟨-,-,-,-,-,-,d⟩:=zy hm;have a:=zhw (zq d s hs);intro r hr;unfold zu at hr;rcases a with o | o | ⟨o,-⟩ | ⟨o,-,-,h⟩ | ⟨o,f,h,c⟩
 ·simp_all
 ·simp_all
 ·simp_all
 ·rw [Qf o,QT] at hr;subst hr;exact zdz h (by omega)
 rw [Qe (by omega),Qf (by omega),WE,QT] at hr;rcases hr with rfl | rfl
 ·exact zdz h (by omega)
 exact zdz c (by omega)
def zly {L:Lp} (hm:zQ L=true) (a:Int):∀k,k<=L.b.length->zir L a k<=3:=by
 intro k;induction k with
 | zero=>intro _;show (0:Int)<=3;omega
 | succ k ih=>intro c;exact zns _ _ _ _ (ih (by omega)) (fun i hi=>(XT hm (by omega) _ (Xn hi)).2.2.2) _ (Qc _)
def zlx (L:Lp) (a:Int):∀k,0<=zir L a k:=by
 intro k;induction k with
 | zero=>exact QR _
 | succ k ih=>exact WK ih (zu7 _ _ _ _)
section
variable (L:Lp) (t:Tg) (K:Kn) (O:List Int)
def Yp (s:Nat):Bool:=inR (nth O s) 0 (L.b.length - 1) && zF (fun i=>!decide (nth O i=nth O s)) s
def XM (s:Nat):Bool:=decide ((opJ K O s).o=(zc L.b s).o) && decide ((opJ K O s).ar=(zc L.b s).ar) && decide ((opJ K O s).sp=(zc L.b s).sp) && decide ((opJ K O s).pl=(zc L.b s).pl) && decide ((opJ K O s).nn=(zc L.b s).nn)
def xW:Bool:=zQ L && zS t && X7 t K L.l && decide (K.ops.length=L.b.length) && decide (O.length=L.b.length) && zF (fun s=>Yp L O s && XM L K O s) L.b.length
def zc6 (e:Ed):Bool:=decide (xy K O e.fr.toNat+e.wt<=xy K O e.to.toNat+e.bk*K.pc)
def ycg (s i:Nat):Bool:=decide ((if i=1 then (opJ K O s).b else (opJ K O s).a)=(zC K O (zO (zu (zc L.b s)) i).1.toNat - (zO (zu (zc L.b s)) i).2 - (opJ K O s).sg) % t.r)
def zb2 (a:Nat) (bk u:Int) (m:Nat) (j:Int):Bool:=(decide (zP t K O a<=zP t K O m+j*K.pc) && decide (zP t K O m+j*K.pc<=u)) || (decide (0<bk) && decide (0<j) && decide (zP t K O m+j*K.pc<=u))
def zce (a:Nat) (bk u:Int) (m:Nat) (j:Int):Bool:=!zb2 t K O a bk u m j || (decide (m=a) && decide (j=0)) || !decide ((zC K O m+j - zC K O a) % t.r=0)
def ybn (a:Nat) (bk u:Int):Bool:=zF (fun m=>zF (fun j=>zce t K O a bk u m ((j:Int) - 4100)) 8201) L.b.length
def zqc (s i:Nat):Bool:=ycg L t K O s i && ybn L t K O (zO (zu (zc L.b s)) i).1.toNat (zO (zu (zc L.b s)) i).2 (xy K O s+(zO (zu (zc L.b s)) i).2*K.pc)
def xE (s:Nat):Nat:=(znr L s).toNat
def yb5 (s q:Nat):Int:=(zC K O s - ((q:Int)+1)) % t.r
def Y1 (k:Nat):List Int:=XB (xE L) (yb5 t K O) k
def XD (F:List Int) (i:Nat):Bool:=zF (fun j=>!decide (nth F j=nth F i)) i
def zv5 (a m j:Nat):Bool:=decide (zP t K O m - j*K.pc<zP t K O a) || (decide (m=a) && decide (j=0)) || !decide ((zC K O m - j - zC K O a) % t.r=0)
def zl8 (a:Nat):Bool:=zF (fun m=>zF (zv5 t K O a m) 1007) L.b.length
def yg:Bool :=
 xW L t K O && zF (fun i=>zc6 K O (zJ (zf L t) i)) (zf L t).length && zF (fun s=>zF (zqc L t K O s) (zu (zc L.b s)).length) L.b.length
  && zF (XD (Y1 L t K O L.b.length)) (Y1 L t K O L.b.length).length && zF (fun i=>zl8 L t K O (nth L.o i).toNat) L.o.length
def V7 (B:List (List Int)) (k:Nat):List Int:=XB (xE L) (fun s q=>nth (zB B s) q) k
def yit (B:List (List Int)):Nat->Int:=zb5 (Y1 L t K O L.b.length) (V7 L B L.b.length) (UA (xE L) L.b.length)
def U7 (B:List (List Int)):List Int:=(List.range t.r.toNat).map (yit L t K O B)
def Zm (B:List (List Int)) (R:List Int) (gD:Int):List Int:=L.o.map fun o=>if 0<gD then nth R ((zC K O o.toNat+gD - 1) % t.r).toNat else nth (zB B o.toNat) 0
end
variable {L:Lp} {t:Tg} {K:Kn} {O:List Int} {B M:List (List Int)} {R:List Int}
def xA (h:xW L t K O=true):zQ L=true/\zS t=true/\X7 t K L.l=true/\K.ops.length=L.b.length/\O.length=L.b.length/\∀s,s<L.b.length->Yp L O s=true/\XM L K O s=true:=by grind [xW,zq]
def VK (h:Yp L O s=true):0<=nth O s/\nth O s<L.b.length/\∀i,i<s->nth O i≠nth O s:=by grind [Yp,zH,zq]
def zhr (h:XM L K O s=true):(opJ K O s).o=(zc L.b s).o/\(opJ K O s).ar=(zc L.b s).ar/\(opJ K O s).sp=(zc L.b s).sp/\(opJ K O s).pl=(zc L.b s).pl/\(opJ K O s).nn=(zc L.b s).nn:=by grind [XM]
def xh (h:xW L t K O=true):(1<=K.pc/\K.pc<=200/\1<=t.r)/\∀s,s<L.b.length->0<=xy K O s/\xy K O s<=1000/\xy K O s+1<=zP t K O s/\zP t K O s<=xy K O s+6:=by
 obtain⟨h1,x,k,y,z,l⟩:=xA h;have c:=k;unfold X7 at c;simp only [Qg] at c;obtain⟨⟨⟨⟨g,i⟩,n⟩,p⟩,d⟩:=c;have f:=zH.1 i;obtain⟨u1,u2,u3,j,-⟩:=yi g;refine⟨⟨f.1,f.2,j⟩,fun s hs=>?_⟩;obtain⟨o1,C,-⟩:=VK (l s hs).1;have a:=zq d (Vp O s) (by unfold Vp;omega);unfold zb3 xL at a;simp only [Qg,QE] at a;have A:=zH.1 a.1.1.1.1.1;have m:=zH.1 a.1.1.1.1.2;have v:=a.1.1.1.2;have q:0<=(zv K.ops (Vp O s)).sg*K.pc:=Ws m.1 (by omega);have u:xy K O s=(zv K.ops (Vp O s)).sl+(zv K.ops (Vp O s)).sg*K.pc:=by grind [xy,opJ]
 have B:1<=yj t (opJ K O s).o/\yj t (opJ K O s).o<=6:=by
  have u1:=yG u1;have u2:=yG u2;have u3:=yG u3;grind [yj,Xb]
 unfold zP;omega
def zes (h:yg L t K O=true):xW L t K O=true/\(∀e∈zf L t,zc6 K O e=true)/\(∀s,s<L.b.length->∀i,i<(zu (zc L.b s)).length->zqc L t K O s i=true) /\
  (∀i j,i<j->j<(Y1 L t K O L.b.length).length->nth (Y1 L t K O L.b.length) i≠nth (Y1 L t K O L.b.length) j)/\∀a∈L.o,zl8 L t K O a.toNat=true:=by
 unfold yg at h;simp only [Qg] at h;obtain⟨⟨⟨⟨h1,p⟩,f⟩,g⟩,q⟩:=h;refine⟨h1,fun e m=>?_,fun s hs i hi=>zq (zq f s hs) i hi,fun i j c n=>?_,fun a l=>?_⟩
 ·obtain⟨i,hi,d⟩:=Wl.1 m;grind [zq,zJ]
 ·have k:=zq (zq g j n) i c;simpa using k
 obtain⟨i,hi,d⟩:=Wl.1 l;grind [zq,nth]
def yef (h:yg L t K O=true):ya8 L t K O:=by
 obtain⟨G,T,B,aK,V⟩:=zes h;obtain⟨h1,h2,h3,h4,h5,x⟩:=xA G;obtain⟨⟨A,U,aj⟩,f⟩:=xh G;refine⟨h1,h2,h3,h4,fun s hs=>?_,fun s y hs D e=>?_,fun s hs=>zhr (x s hs).2,fun e he=>QI (T e he),fun s hs H=>?_,fun s hs H=>?_,?_,?_⟩
 ·obtain⟨o1,o2,-⟩:=VK (x s hs).1;unfold Vp;omega
 ·obtain⟨o1,o2,o3⟩:=VK (x s hs).1;obtain⟨q1,q2,q3⟩:=VK (x y D).1;unfold Vp at e;by_cases g:s<y
  ·exact absurd (by omega) (q3 s g)
  by_cases u:y<s
  ·exact absurd (by omega) (o3 y u)
  omega
 ·have I:(zu (zc L.b s)).length=(if (zc L.b s).o=4 then 1 else 2)/\zO (zu (zc L.b s)) 0=((zc L.b s).xa,(zc L.b s).xb):=by
   unfold zu;by_cases e:(zc L.b s).o=4
   ·rw [Qf e,Qf e];exact⟨rfl,rfl⟩
   rw [Qe e,Qf (by omega),Qe e];exact⟨rfl,rfl⟩
  have l:=B s hs 0 (by rw [I.1];split <;> omega);unfold zqc ycg at l;simp_all
 ·have I:(zu (zc L.b s)).length=2/\zO (zu (zc L.b s)) 1=((zc L.b s).ya,(zc L.b s).yb):=by unfold zu;rw [Qe (by omega),Qf H];exact⟨rfl,rfl⟩
  have l:=B s hs 1 (by omega);unfold zqc ycg at l;simp_all
 ·intro s hs r hr m hm j n c;obtain⟨i,hi,rfl⟩:=yh7 hr;obtain⟨r1,r2,r3,r4⟩:=XT h1 hs _ hr;have l:=B s hs i hi;unfold zqc at l;rw [Qg] at l;have C:=zq l.2 m hm;generalize zO (zu (zc L.b s)) i=r at *
  obtain⟨g1,g2,g3,g4⟩:=f s hs;obtain⟨M,N,P,Q⟩:=f r.1.toNat (by omega);obtain⟨m1,m2,m3,m4⟩:=f m hm;have hb:r.2*K.pc<=3*200:=Wy r4 U (by omega) (by omega);have aI:0<=r.2*K.pc:=Ws r3 (by omega);by_cases hj:-4100<=j/\j<=4100
  ·have d:=zq C (j+4100).toNat (by omega);have q:zce t K O r.1.toNat r.2 (xy K O s+r.2*K.pc) m (((j+4100).toNat:Int) - 4100)=true:=d;rw [show (((j+4100).toNat:Nat):Int) - 4100=j by omega] at q;unfold zce at q;rw [Qi c] at q;have z:(decide (m=r.1.toNat) && decide (j=0))=false:=by
    by_cases g:m=r.1.toNat
    ·rw [Qk (fun u=>n ⟨g,u⟩)];simp
    rw [Qk g];rfl
   rw [z] at q;have p:zb2 t K O r.1.toNat r.2 (xy K O s+r.2*K.pc) m j=false:=(by simpa using q);unfold zb2 at p;rw [Bool.or_eq_false_iff] at p;obtain⟨n1,n2⟩:=p;constructor
   ·by_cases g:zP t K O m+j*K.pc<zP t K O r.1.toNat
    ·exact .inl g
    refine .inr ?_;rw [Qi (by omega)] at n1;have:=of_decide_eq_false n1;omega
   intro b1 b2;rw [Qi b1,Qi b2] at n2;have:=of_decide_eq_false n2;omega
  by_cases v:0<j
  ·have d:j*1<=j*K.pc:=QU A (by omega);omega
  have d:(-j)*1<=(-j)*K.pc:=QU A (by omega);rw [WQ,WQ] at d;omega
 intro a F m hm j hj n c;obtain⟨-,-,-,-,-,R,-⟩:=zy h1;have C:=zq (V a F) m hm;obtain⟨m1,m2,m3,m4⟩:=f m hm;have S:a.toNat<L.b.length:=by
  obtain⟨i,hi,W⟩:=Wl.1 F;have d:=XK L.b.length L.o (i+1) (by omega) (yk fun k hk=>zq R k (by omega));have u:zp3 L.o (i+1)=a:=by show nth L.o i=a;unfold nth;rw [List.getD,Qh hi,W];rfl
  have:=zy h1;omega
 obtain⟨M,N,P,Q⟩:=f a.toNat S;by_cases v:(-j).toNat<1007
 ·have d:=zq C (-j).toNat v;unfold zv5 at d;have X:(((-j).toNat:Nat):Int)=-j:=by omega
  rw [X,show zC K O m - -j - zC K O a.toNat=zC K O m+j - zC K O a.toNat by omega,Qi c] at d;have z:(decide (m=a.toNat) && decide ((-j).toNat=0))=false:=by
   by_cases g:m=a.toNat
   ·rw [Qk (show ¬((-j).toNat=0) from fun u=>n ⟨g,by omega⟩)];simp
   rw [Qk g];rfl
  rw [z] at d;have p:zP t K O m - -j*K.pc<zP t K O a.toNat:=by simpa using d
  rw [WQ] at p;omega
 have d:(-j)*1<=(-j)*K.pc:=QU A (by omega);rw [WQ,WQ] at d;omega
theorem Ze {f:Nat->Int} (h:i<n):nth ((List.range n).map f) i=f i:=by grind [nth]
end
section
section
variable (L:Lp) (t:Tg) (P:Int) (T D:List Int)
def YT (s i:Nat):Int:=(nth D (zO (zu (zc L.b s)) i).1.toNat+nth T (zO (zu (zc L.b s)) i).1.toNat / P - (zO (zu (zc L.b s)) i).2 - nth T s / P) % t.r
def opE (s:Nat):Kop:=⟨nth T s % P,nth T s / P,(zc L.b s).o,nth D s,if 0<(zu (zc L.b s)).length then YT L t P T D s 0 else 0,if 1<(zu (zc L.b s)).length then YT L t P T D s 1 else 0,(zc L.b s).ar,(zc L.b s).sp,(zc L.b s).pl,(zc L.b s).nn⟩
def yv:Nat->Int
 | 0=>0
 | k+1=>if yv k<=nth T k / P then nth T k / P+1 else yv k
def Zy:Kn:=⟨P,yv P T L.b.length,(List.range L.b.length).map (opE L t P T D)⟩
def ZN:Bool:=decide (D.length=L.b.length) && zF (fun s=>inR (nth D s) 0 (t.r - 1)) L.b.length
end
def X8 (n:Nat):List Int:=(List.range n).map fun i:Nat=>(i:Int)
variable {L:Lp} {t:Tg} {P:Int} {T D:List Int}
theorem zuj (h:s<n):nth (X8 n) s=s:=Ze h
theorem zco (n:Nat):(X8 n).length=n:=by unfold X8;simp
theorem VC:(Zy L t P T D).ops.length=L.b.length:=by unfold Zy;simp
def zfg (h:s<L.b.length):zv (Zy L t P T D).ops s=opE L t P T D s:=by grind [zv,Zy]
def ze4 (P:Int) (T:List Int):∀k s,s<k->nth T s / P<yv P T k:=by intro k;induction k <;> grind [yv]
def ze5 (P:Int) (T:List Int) (c:Int) (a:0<=c):∀k,(∀s,s<k->nth T s / P<c)->yv P T k<=c:=by intro k;induction k <;> grind [yv]
def yer (L:Lp) (hm:zQ L=true) (hs:s<L.b.length):((zu (zc L.b s)).length:Int)=Xg (zc L.b s).o:=by grind [zu,Xg]
def ycn {L:Lp} (hm:zQ L=true) (hs:s<L.b.length) {x:Kop} (i:x.o=(zc L.b s).o) (h1:x.ar=(zc L.b s).ar) (d:x.sp=(zc L.b s).sp) (f:x.pl=(zc L.b s).pl) (g:x.nn=(zc L.b s).nn):zQ (zoj L.l x)=true:=by
 obtain⟨m,q,r,t,n,u,p⟩:=zy hm;have a:yW L.l.length L.b.length s (zc L.b s)=true:=zq p s hs;have j:yW L.l.length 2 1 ⟨x.o,0,0,0,0,x.ar,x.sp,x.pl,x.nn⟩=true:=by
  rw [i,h1,d,f,g];unfold yW at a ⊢;dsimp only;split
  ·next e=>rw [Qf e] at a;have:=QI a;exact Qi ⟨rfl,rfl,rfl,rfl,this.2.2.2.2⟩
  next e1 =>
  rw [Qe e1] at a;split
  ·next e=>rw [Qf e] at a;have:=QI a;exact Qi ⟨rfl,rfl,rfl,rfl,this.2.2.2.2⟩
  next e2 =>
  rw [Qe e2] at a;split
  ·next e =>
   simp_all
  next e3 =>
  rw [Qe e3] at a;split
  ·next e =>
   rw [Qf e,Qg,Qg] at a;have:=QI a.1.1;rw [Qg,Qg];exact⟨⟨Qi ⟨rfl,rfl,this.2.2⟩,a.1.2⟩,rfl⟩
  next e4 =>
  rw [Qe e4] at a;split
  ·next e =>
   rw [Qf e,Qg,Qg] at a;rw [Qg,Qg];exact⟨⟨a.1.1,rfl⟩,rfl⟩
  next e5=>rw [Qe e5] at a;cases a
 unfold zQ zoj;simp only [Qg,QE];refine⟨⟨⟨⟨⟨m,by simp⟩,by simp⟩,n⟩,rfl⟩,?_⟩;unfold YA;refine yk fun k h=>?_;have c:k<2:=h;match k,c with
 | 0,_=>rfl
 | 1,_=>exact j
def Z4 (h:zZ L t P T=true) (hs:s<L.b.length):0<=nth T s/\nth T s<=1000/\(Ut L P T s:Int)<=yf t (ye (zc L.b s).o):=by grind [zZ,zq,VS,zH]
def znq (h:zZ L t P T=true) (d:ZN L t D=true):X7 t (Zy L t P T D) L.l=true:=by
 obtain⟨h1,m,x,y,z,O,Q⟩:=yw h;obtain⟨-,U,V,-⟩:=zy h1;obtain⟨-,-,-,G,-⟩:=yi m;unfold ZN at d;rw [Qg] at d;have q:∀s,s<L.b.length->0<=nth T s / P/\nth T s / P<=1000/\nth T s / P*P+nth T s % P=nth T s/\0<=nth T s % P/\nth T s % P<P:=by intro s hs;obtain⟨c,p,-⟩:=Z4 h hs;refine⟨WY c (by omega),WK (Eg _ c) p,?_,QS _ (by omega),QP _ (by omega)⟩;rw [Er];exact q5 _ _
 have u:1<=yv P T L.b.length:=by have:=ze4 P T L.b.length 0 (by omega);grind
 have v:yv P T L.b.length<=1001:=ze5 P T 1001 (by omega) _ fun s hs=>by grind
 unfold X7;simp only [Qg];refine⟨⟨⟨⟨m,yh ⟨x,y⟩⟩,yh ⟨u,v⟩⟩,?_⟩,?_⟩
 ·rw [VC];grind [yh]
 refine yk fun s hs=>?_;rw [VC] at hs;rw [zfg hs,Qg];obtain⟨H,I,K,M,N⟩:=q s hs;obtain⟨c,p,B⟩:=Z4 h hs;have F:=yer L h1 hs;have C:=zH.1 (zq d.2 s hs);have g:=fun i=>QS (nth D (zO (zu (zc L.b s)) i).1.toNat+nth T (zO (zu (zc L.b s)) i).1.toNat / P - (zO (zu (zc L.b s)) i).2 - nth T s / P) (by omega:t.r≠0);have k:=fun i=>QP (nth D (zO (zu (zc L.b s)) i).1.toNat+nth T (zO (zu (zc L.b s)) i).1.toNat / P - (zO (zu (zc L.b s)) i).2 - nth T s / P) (by omega:0<t.r);refine⟨?_,Qi ?_⟩
 ·unfold zb3;rw [Qg,Qg];refine⟨⟨?_,?_⟩,ycn h1 hs rfl rfl rfl rfl rfl⟩
  ·have:=ze4 P T L.b.length s hs;exact yeh (by show ¬nth T s % P<0;omega) (by show ¬P<=nth T s % P;omega) (by show ¬nth T s / P<0;omega) (by show ¬yv P T L.b.length<=nth T s / P;omega) (by show ¬1000<nth T s / P*P+nth T s % P;omega)
  have R:0<=(opE L t P T D s).a/\(opE L t P T D s).a<t.r:=by
   show 0<=(if 0<(zu (zc L.b s)).length then YT L t P T D s 0 else 0)/\(if 0<(zu (zc L.b s)).length then YT L t P T D s 0 else 0)<t.r;split
   ·exact⟨g 0,k 0⟩
   omega
  have hb:0<=(opE L t P T D s).b/\(opE L t P T D s).b<t.r:=by
   show 0<=(if 1<(zu (zc L.b s)).length then YT L t P T D s 1 else 0)/\(if 1<(zu (zc L.b s)).length then YT L t P T D s 1 else 0)<t.r;split
   ·exact⟨g 1,k 1⟩
   omega
  refine ydo (by show ¬nth D s<0;omega) (by show ¬t.r<=nth D s;omega) (by omega) (by omega) (by omega) (by omega) ?_ ?_
  ·show 1<=Xg (zc L.b s).o\/(if 0<(zu (zc L.b s)).length then YT L t P T D s 0 else 0)=0;omega
  show 2<=Xg (zc L.b s).o\/(if 1<(zu (zc L.b s)).length then YT L t P T D s 1 else 0)=0;omega
 refine WK ?_ B;unfold zk4 Ut;rw [VC,z];refine Int.ofNat_le.2 (zlr fun j n f=>?_);obtain⟨A,S,-⟩:=Z4 h n;unfold zb7 at f;rw [zfg n,zfg hs] at f;unfold zcl;rw [Wo A,Wo c];exact f
def znx (len:Nat->Nat):∀k i,i<UA len k->∃s q,s<k/\q<len s/\i=UA len s+q:=by
 intro k;induction k with
 | zero=>intro i h;exact absurd h (Qv _)
 | succ k ih =>
  intro i h;have c:i<UA len k+len k:=h;by_cases e:i<UA len k
  ·obtain⟨s,q,h1,a,b⟩:=ih i e;exact⟨s,q,by omega,a,b⟩
  exact⟨k,i - UA len k,by omega,by omega,by omega⟩
end
end
def yhz (x:Int) (h0:-9223372036854775808<=x) (h1:x<=9223372036854775807):IntKind.i64.wrap x=x:=by rw [Wq];omega
def zte (o:Int):(o=3/\(o == 3)=true/\(o == 4)=false)\/(o=4/\(o == 3)=false/\(o == 4)=true)\/(¬o=3/\¬o=4/\(o == 3)=false/\(o == 4)=false):=by
 grind
def Tg.cells (t:Tg):Array Value:=#[J t.u0,J t.u1,J t.u2,J t.w0,J t.w1,J t.w2,J t.r]
section
variable {P:Program} {ops:Array Oper} {Q:Exit->Act->World->Prop} {md:Region.Mode} {S:World->Prop}
def Ye (ops:Array Oper) (i:Nat):Option Tmp:=(ops[i]?).bind (·.dst)
def xY (ops:Array Oper) (val:Nat->Value) (a0:Act) (l:Nat->Bool):Nat->Act
 | 0=>a0
 | k+1=>if l k=true then (xY ops val a0 l k).put (Ye ops k) (val k) else xY ops val a0 l k
def zs8 (ops:Array Oper) (j k:Nat):Bool:=match ops[j]?,Ye ops k with
 | some o,some d=>(o.looksAt ops).contains d || o.dst == some d
 | _,_=>false
def zsh (md:Region.Mode) (ops:Array Oper) (j k:Nat):Bool:=j == k || !(zs8 ops j k) || (decide (k<j) && VV md ops j k) || (decide (j<k) && VV md ops k j)
def yi4 (md:Region.Mode) (ops:Array Oper) (j:Nat):Bool:=match ops[j]? with
 | some o=>o.after.all fun e=>!Region.binds md e || decide (e.on<j)
 | none=>true
def Yw (md:Region.Mode) (ops:Array Oper):Bool:=(List.range ops.size).all fun j=>yi4 md ops j && (List.range ops.size).all fun k=>zsh md ops j k
theorem zyd (a:Act) (d:Option Tmp) (v:Value):(a.put d v).tmps.size=a.tmps.size:=by cases d <;> simp [Act.put]
theorem zbn {a:Act} {d:Option Tmp} {x:Tmp} (h:d≠some x) (v:Value):(a.put d v).tmps[x]?=a.tmps[x]?:=by
 cases d with
 | none=>rfl
 | some e =>have b:e≠x:=fun c=>h (by rw [c]);simp [Act.put,Array.getElem?_setIfInBounds_ne b]
theorem zyc {a b:Act} (x:Tmp) (v:Value) (h:a.tmps.size=b.tmps.size):(a.put (some x) v).tmps[x]?=(b.put (some x) v).tmps[x]?:=by
 simp only [Act.put];grind
theorem zaa (val:Nat->Value) (a0:Act) (l:Nat->Bool):∀k,(xY ops val a0 l k).tmps.size=a0.tmps.size:=by intro k;induction k <;> grind [xY,zyd]
def zxw {j k:Nat} (h:Yw md ops=true) (a:j<ops.size) (b:k<ops.size):zsh md ops j k=true:=by grind [Yw]
def yg0 {j:Nat} {o:Oper} (h:Yw md ops=true) (c:ops[j]?=some o):∀e∈o.after,Region.binds md e=true->e.on<j:=by have f:j<ops.size:=(lo c);unfold Yw at h;have h1:=EN.1 h j (WU.2 f);rw [Qg] at h1;have a:=h1.1;unfold yi4 at a;rw [c] at a;intro e d hb;have b:=Array.all_eq_true_iff_forall_mem.1 a e d;rw [hb] at b;simpa using b
def zf9 (md:Region.Mode) (ops:Array Oper) (l:Nat->Bool):Prop:=∀j,l j=true->∀o,ops[j]?=some o->∀e∈o.after,Region.binds md e=true->l e.on=true
theorem zxf {j k:Nat} {o:Oper} {d:Tmp} (c:ops[j]?=some o) (b:Ye ops k=some d) (a:d∈o.looksAt ops\/o.dst=some d):zs8 ops j k=true:=by grind [zs8]
def zu5 {k:Nat} {d:Tmp} (h:Ye ops k=some d):k<ops.size:=by grind [Ye]
def zfz {l:Nat->Bool} {j k:Nat} {o:Oper} {d:Tmp} (h:Yw md ops=true) (b:ops[j]?=some o) (a:Ye ops k=some d) (f:d∈o.looksAt ops\/o.dst=some d) (c:j≠k):(k<j/\VV md ops j k=true)\/(j<k/\VV md ops k j=true):=by
 have h1:=zxw h (lo b) (zu5 a);grind [zsh,zxf]
theorem zk9 {l:Nat->Bool} {j k:Nat} {o:Oper} {d:Tmp} (h:Yw md ops=true) (g:zf9 md ops l) (n:l j=false) (q:ops[j]?=some o) (b:Ye ops k=some d) (i:d∈o.looksAt ops\/o.dst=some d) (r:j<k):l k=false:=by
 rcases zfz (l:=l) h q b i (by omega) with ⟨h1,_⟩ | ⟨_,f⟩
 ·omega
 cases p:l k with
 | false=>rfl
 | true =>obtain⟨ok,a⟩:∃ok,ops[k]?=some ok:=⟨_,WA (zu5 b)⟩;obtain⟨e,m,hb,c⟩:=zbt f a;have:=g k p ok a e m hb;rw [c,n] at this;cases this
def zyu {val:Nat->Value} {a0:Act} {l:Nat->Bool} {j:Nat} {o:Oper} {d:Tmp} (h:Yw md ops=true) (g:zf9 md ops l) (m:l j=false) (n:ops[j]?=some o) (i:d∈o.looksAt ops\/o.dst=some d):∀k,j<=k->(xY ops val a0 l k).tmps[d]?=(xY ops val a0 l j).tmps[d]?:=by
 intro k;induction k with
 | zero=>intro f;rw [show j=0 by omega]
 | succ k ih =>
  intro f;by_cases e:j=k+1
  ·rw [e]
  have b:=ih (by omega);rw [<-b];show (if l k=true then (xY ops val a0 l k).put (Ye ops k) (val k) else xY ops val a0 l k).tmps[d]?=_;by_cases c:l k=true
  ·rw [Qf c];by_cases a:Ye ops k=some d
   ·grind [zk9]
   exact zbn a _
  rw [Qe c]
def zyw {val:Nat->Value} {a0:Act} {l:Nat->Bool} {j:Nat} {o:Oper} {d:Tmp} (h:Yw md ops=true) (hall:∀e∈o.after,Region.binds md e=true->l e.on=true) (c:ops[j]?=some o) (b:d∈o.looksAt ops\/o.dst=some d):∀k,k<=j->(xY ops val a0 l k).tmps[d]?=(xY ops val a0 (fun _=>true) k).tmps[d]?:=by
 intro k;induction k with
 | zero=>intro _;rfl
 | succ k ih =>
  intro i;have f:=ih (by omega);show (if l k=true then (xY ops val a0 l k).put (Ye ops k) (val k) else xY ops val a0 l k).tmps[d]?=((xY ops val a0 (fun _=>true) k).put (Ye ops k) (val k)).tmps[d]?;by_cases a:Ye ops k=some d
  ·have m:l k=true:=by
    rcases zfz (l:=l) h c a b (by omega) with ⟨_,g⟩ | ⟨h1,_⟩
    ·grind [zbt]
    omega
   grind [zyc,zaa]
  grind [zbn]
def yde {val:Nat->Value} {a0:Act} {l a:Nat->Bool} {j:Nat} {o:Oper} (h:Yw md ops=true) (s:zf9 md ops l) (u:l j=false) (v:ops[j]?=some o) (m:∀i,a i=(i == j || l i)):∀k,(k<=j->xY ops val a0 a k=xY ops val a0 l k)/\(j<k->xY ops val a0 a k=(xY ops val a0 l k).put o.dst (val j)):=by
 have r:Ye ops j=o.dst:=by grind [Ye]
 intro k;induction k with
 | zero=>exact⟨fun _=>rfl,fun f=>absurd f (by omega)⟩
 | succ k ih =>
  have n:xY ops val a0 a (k+1)=if a k=true then (xY ops val a0 a k).put (Ye ops k) (val k) else xY ops val a0 a k:=rfl
  have p:xY ops val a0 l (k+1)=if l k=true then (xY ops val a0 l k).put (Ye ops k) (val k) else xY ops val a0 l k:=rfl
  refine⟨fun f=>?_,fun f=>?_⟩
  ·grind
  by_cases c:k=j
  ·simp_all
  have g:(k == j)=false:=by simp;exact c
  rw [n,p,m k,g,qc,ih.2 (by omega)];by_cases b:l k=true
  ·rw [Qf b,Qf b];refine Act.put_comm _ _ _ fun d t q=>?_;grind [zk9]
  rw [Qe b,Qe b]
def zrh {o:Oper} {a b:Act} (hs:∀c x,o.op≠.select c x) (h:∀d∈o.looksAt ops,a.tmps[d]?=b.tmps[d]?):execOp a.eval o=execOp b.eval o/\Region.wanted o (yielded ops a.tmps)=Region.wanted o (yielded ops b.tmps):=by
 refine⟨execOp_congr o hs fun x i=>?_,?_⟩
 ·cases x with
  | tmp t =>have:=h t (Wz _ (List.mem_filterMap.2 ⟨.tmp t,by simpa using i,rfl⟩));simp [Act.eval,this]
  | _=>rfl
 unfold Region.wanted;cases k:o.guard with
 | none=>rfl
 | some f =>
  obtain⟨g,b'⟩:=f;have e:yielded ops a.tmps g=yielded ops b.tmps g:=by
   unfold yielded;cases j:(ops[g]?).bind (·.dst) with
   | none=>rfl
   | some d =>have:=h d (WZ _ (by grind));simp only [Option.bind_some,this]
  simp only [e]
theorem yh1 {a b:Act} (g:a.tmps.size=b.tmps.size) {d:Option Tmp} {u v:Value} (h:a.put d u=a.put d v):b.put d u=b.put d v:=by
 cases d with
 | none=>rfl
 | some x =>
  by_cases f:x<a.tmps.size
  ·have h1:=congrArg (fun c:Act=>c.tmps[x]?) h;simp only [Act.put,W6 f] at h1;rw [QD h1]
  simp only [Act.put];grind
def zti {o:Oper} {a b:Act} (p:a.tmps.size=b.tmps.size) (l:True) {v:Value} {r:Result Next} {K:Act->World->Prop} (k:∀c a w,¬Q (.panic c) a w)
  (h:o.upon P a (fun a' w'=>a'=a.put o.dst v/\S w') Q r) (m:∀w',S w'->K (b.put o.dst v) w'):o.upon P b K Q r:=by
 have key:∀(u:Value) (w':World),(a.put o.dst u=a.put o.dst v/\S w')->K (b.put o.dst u) w':=fun u w' ⟨e,hS⟩=>by grind [yh1]
 cases r with
 | ok n w' =>
  cases n <;> simp only [Oper.upon] at h ⊢
  case value u=>exact key u w' h
  case skip=>exact key _ w' h
  case defer d =>exfalso;have h1:=congrArg Act.defers h.1;cases g:o.dst <;> (rw [g] at h1;simp [Act.put] at h1)
  case enter f args =>
   refine Calls.mono h fun e i j=>?_;grind
  case row row args=>exact Rows.mono h fun u i j=>key u i j
 | halt x w' =>
  cases x <;> simp only [Oper.upon] at h ⊢
  case panic u=>exact absurd h (k _ _ _)
def zi7 (l:Nat->Bool):Nat->Nat
 | 0=>0
 | k+1=>zi7 l k+if l k=true then 0 else 1
def yhr {l a:Nat->Bool} {j:Nat} (c:l j=false) (b:∀i,a i=(i == j || l i)):∀k,(k<=j->zi7 a k=zi7 l k)/\(j<k->zi7 l k=zi7 a k+1):=by
 intro k;induction k with
 | zero=>exact⟨fun _=>rfl,fun h=>absurd h (by omega)⟩
 | succ k ih =>
  grind [zi7]
def yep {l:Nat->Bool}:∀k,zi7 l k=0->∀i,i<k->l i=true:=by
 intro k;induction k with
 | zero=>intro _ i hi;omega
 | succ k ih =>
  grind [zi7]
def ybt (l:Nat->Bool):∀k,(∀i,i<k->l i=true)\/∃j,j<k/\l j=false/\∀i,i<j->l i=true:=by intro k;induction k <;> grind
theorem zn1 {val:Nat->Value} {a0:Act} {l:Nat->Bool}:∀k,(∀i,i<k->l i=true)->xY ops val a0 l k=xY ops val a0 (fun _=>true) k:=by
 intro k;induction k with
 | zero=>intro _;rfl
 | succ k ih =>intro h;show (if l k=true then (xY ops val a0 l k).put (Ye ops k) (val k) else xY ops val a0 l k)=(xY ops val a0 (fun _=>true) k).put (Ye ops k) (val k);rw [Qf (h k (by omega)),ih fun i hi=>h i (by omega)]
def zj2 (P:Program) (ops:Array Oper) (Q:Exit->Act->World->Prop) (S:World->Prop) (o:Oper) (a:Act) (v:Value):Prop :=
 if Region.wanted o (yielded ops a.tmps)=true then ∀w,S w->Oper.wp P o a w (fun a' w'=>a'=a.put o.dst v/\S w') Q else v=undef
def zz1 (val:Nat->Value) (a0:Act) (h:Yw md ops=true) (F:Region.noSelect ops=true) (K:∀c a w,¬Q (.panic c) a w)
  (G:∀i o,ops[i]?=some o->zj2 P ops Q S o (xY ops val a0 (fun _=>true) i) (val i)) (O:∀w,S w->Q .normal (xY ops val a0 (fun _=>true) ops.size) w) :
  ∀(m:Nat) (b:Array Bool) (w:World),b.size=ops.size->zf9 md ops (fun i=>b.getD i false)->zi7 (fun i=>b.getD i false) ops.size<=m->S w->wpAny P md ops Q m b (xY ops val a0 (fun i=>b.getD i false) ops.size) w:=by
 have none_ready:∀(b:Array Bool),b.size=ops.size->Region.ready md ops b=[]->∀i,i<ops.size->b.getD i false=true:=fun b A hr=>by
  rcases ybt (fun i=>b.getD i false) ops.size with h1 | ⟨j,k,t,hb⟩
  ·exact h1
  exfalso;have:j∈Region.ready md ops b:=mem_ready.2 ⟨by simp_all,_,WA k,fun e z y=>hb _ (yg0 h (WA k) e z y)⟩;simp_all
 intro m;induction m with
 | zero =>
  intro b w A r L hS;have hall:=yep (l:=fun i=>b.getD i false) ops.size (by omega);refine⟨?_,?_⟩
  ·apply List.eq_nil_iff_forall_not_mem.2;intro j k;obtain⟨h0,o,f,-⟩:=mem_ready.1 k;grind
  grind [zn1]
 | succ m ih =>
  intro b w A r L hS;refine⟨fun hr=>?_,fun j k=>?_⟩
  ·grind [zn1]
  obtain⟨h0,o,f,hall⟩:=mem_ready.1 k;have v:=(lo f);have t:(fun i=>b.getD i false) j=false:=by grind
  have u:∀i,(fun i=>(b.setIfInBounds j true).getD i false) i=(i == j || (fun i=>b.getD i false) i):=fun i=>by
   show (b.setIfInBounds j true).getD i false=(i == j || b.getD i false);by_cases e:i=j
   ·subst e;simp [Array.getD,show i<b.size by omega]
   rw [getD_set_ne false (Ne.symm e)];simp [e]
  have D:=fun (d:Tmp) (s:d∈o.looksAt ops\/o.dst=some d)=>(zyu (val:=val) (a0:=a0) h r t f s ops.size (Q7 v)).trans (zyw (val:=val) (a0:=a0) (l:=fun i=>b.getD i false) h hall f s j (Qc _));obtain⟨z,M⟩:=zrh (ops:=ops) (o:=o) (qd F j o · · f) (fun d s=>D d (.inl s));have I:=(yde (val:=val) (a0:=a0) h r t f u ops.size).2 v;have B:∀w',S w'->wpAny P md ops Q m (b.setIfInBounds j true) ((xY ops val a0 (fun i=>b.getD i false) ops.size).put o.dst (val j)) w':=fun w' H=>by
   rw [<-I];refine ih _ w' (by simpa using A) ?_ ?_ H
   ·intro i hi N g e p hb;have x:=u i;rw [hi] at x;by_cases C:i=j
    ·subst C;rw [f] at g;cases g;exact getD_set_true (hall e p hb)
    have:b.getD i false=true:=by have h1:(i == j)=false:=(by simp;exact C);rw [h1,qc] at x;exact x.symm
    exact getD_set_true (r i this N g e p hb)
   have:=(yhr t u ops.size).2 v;omega
  have n:=G j o f;unfold zj2 at n;unfold wpOp;rw [f];simp only [M];by_cases q:Region.wanted o (yielded ops (xY ops val a0 (fun _=>true) j).tmps)=true
  ·rw [Qf q] at n ⊢;refine .inl ?_;unfold Oper.wp;rw [z];exact zti (by rw [zaa,zaa]) trivial K (n w hS) B
  rw [Qe q] at n ⊢;rw [<-n];exact B w hS
def Vl (P:Program) (ops:Array Oper) (Q:Exit->Act->World->Prop) (S:World->Prop):Nat->Nat->Act->Prop
 | 0,_,a=>∀w,S w->Q .normal a w
 | r+1,i,a=>∃o v,ops[i]?=some o/\zj2 P ops Q S o a v/\Vl P ops Q S r (i+1) (a.put o.dst v)
theorem zn2 {val a:Nat->Value} {a0:Act} {l:Nat->Bool}:∀k,(∀i,i<k->val i=a i)->xY ops val a0 l k=xY ops a a0 l k:=by intro k;induction k <;> grind [xY]
def zt6 (a0:Act):∀(r i:Nat) (val:Nat->Value),Vl P ops Q S r i (xY ops val a0 (fun _=>true) i)->∃a:Nat->Value,(∀k,k<i->a k=val k)/\(∀k o,i<=k->k<i+r->ops[k]?=some o->zj2 P ops Q S o (xY ops a a0 (fun _=>true) k) (a k))/\∀w,S w->Q .normal (xY ops a a0 (fun _=>true) (i+r)) w:=by
 intro r;induction r with
 | zero=>intro i val h;exact⟨val,fun _ _=>rfl,fun k o h1 m=>absurd h1 (by omega),h⟩
 | succ r ih =>
  intro i val h;obtain⟨o,v,s,g,b⟩:=h;have d:∀k,k<i->(fun k=>if k=i then v else val k) k=val k:=fun k f=>Qe (by omega);have j:xY ops (fun k=>if k=i then v else val k) a0 (fun _=>true) (i+1)=(xY ops val a0 (fun _=>true) i).put o.dst v:=by grind [xY,Ye,zn2]
  rw [<-j] at b;obtain⟨a,h1,m,u⟩:=ih (i+1) _ b;refine⟨a,fun k f=>(h1 k (by omega)).trans (d k f),fun k ok n p c=>?_,fun w hS=>?_⟩
  ·by_cases e:k=i
   ·subst e;rw [s] at c;cases c;have l:a k=v:=(h1 k (by omega)).trans (Qf rfl);rw [l,zn2 k fun q t=>(h1 q (by omega)).trans (d q t)];exact g
   grind
  grind
def yo {i r:Nat} {o:Oper} {rest:List Oper} {v:Value} {a:Act} (d:ops.toList.drop i=o :: rest) (b:YieldsIf P ops S o v a) (h:Vl P ops Q S r (i+1) (a.put o.dst v)):Vl P ops Q S (r+1) i a:=by
 refine⟨o,v,YK d,?_,h⟩;unfold zj2;rcases b with ⟨c,b⟩ | ⟨c,f⟩
 ·rw [Qf c];intro w hS;unfold Oper.wp;rw [b w hS];exact⟨rfl,hS⟩
 simp_all
def stk {i r:Nat} {o:Oper} {rest:List Oper} {v:Value} {a a':Act} (c:ops.toList.drop i=o :: rest) (h:Vl P ops Q S r (i+1) a')
  (d:YieldsIf P ops S o v a:=by refine Or.inl ⟨by rfl,?_⟩;intro w hSw;(try dsimp only at hSw);go_simp;(try with_reducible rfl))
  (b:a.put o.dst v=a':=by (try simp only [Act.put,Qn,Qy,Qz]);exact rfl):Vl P ops Q S (r+1) i a:=yo c d (b ▸ h)
def YI {i r:Nat} {o:Oper} {rest:List Oper} (v:Value) {a:Act} (f:ops.toList.drop i=o :: rest) (g:Region.wanted o (yielded ops a.tmps)=true)
  (d:∀w,S w->∀K:Act->World->Prop,Shut (∀a' w',a'=a.put o.dst v->S w'->K a' w')->Oper.wp P o a w K Q) (h:Vl P ops Q S r (i+1) (a.put o.dst v)):Vl P ops Q S (r+1) i a:=by refine⟨o,v,YK f,?_,h⟩;unfold zj2;rw [Qf g];exact fun w hS=>d w hS _ fun a' w' c b=>⟨c,b⟩
def Ul {i:Nat} {a:Act} (h:∀w,S w->Q .normal a w):Vl P ops Q S 0 i a:=h
def YM {id:Nat} {a:Act} {w:World} (S:World->Prop) (n:Nat) (hn:ops.size=n) (hm:P.follows .mixedOrders=true) (c:Yw .any ops=true) (d:Region.noSelect ops=true) (hS:S w.drew)
  (h:Vl P ops (NoPanic Q) S n 0 a):(Code.region id ops true).wp P Q a w:=by
 refine Qq (wp_region_any hm ?_);obtain⟨val,-,f,g⟩:=zt6 (P:=P) (ops:=ops) a n 0 (fun _=>undef) h;have m:∀i,(Array.replicate ops.size false).getD i false=false:=fun i=>by simp [Array.getD]
 have b:=zz1 (P:=P) (Q:=NoPanic Q) (S:=S) val a c d (fun _ _ _ h=>h) (fun i o p=>f i o (Ql _) (by grind) p) (fun w hS=>by have:=g w hS;rw [QO,<-hn] at this;exact this)
  ops.size (Array.replicate ops.size false) w.drew (by simp) (fun j q=>by simp_all) ?_ hS
 ·have e:∀k,xY ops val a (fun i=>(Array.replicate ops.size false).getD i false) k=a:=fun k=>by
   induction k with
   | zero=>rfl
   | succ k ih=>unfold xY;rw [Qe (by rw [m];exact WM)];exact ih
  rw [e] at b;exact b
 have:∀(l:Nat->Bool) k,zi7 l k<=k:=fun l k=>by
  induction k with
  | zero=>exact Qc _
  | succ k ih=>unfold zi7;split <;> omega
 exact this _ _
end
section
variable {n d q r a x u c j:Int} {f:Nat->Bool} {k i s:Nat}
section
def zji (a:0<d) (h1:q*d<=n) (b:n<(q+1)*d):n / d=q:=by have c:=(WW a).2 h1;have f:=(EC a).2 b;omega
def znz (a:0<d) (h:¬n.tmod d<0):n.tdiv d=n / d:=by
 have h1:=WL n a;have b:=E4 n d;rw [Er] at b;refine (zji a ?_ ?_).symm
 ·omega
 rw [qz];omega
def zjj (a:0<d) (h:n.tmod d<0):n.tdiv d - 1=n / d:=by
 have h1:=EV n a;have b:=E4 n d;rw [Er] at b;refine (zji a ?_ ?_).symm
 ·grind
 grind
def ybv:n - n / r*r=n % r:=by have:=Int.emod_def n r;rw [Er];omega
def mod_le (h:0<=a) (hr:0<r):a % r<=a:=by have h1:=q5 a r;have b:0<=r*(a / r):=Ws (by omega) (WY h (by omega));omega
def zb1 (p q first last r:Int):Bool:=decide (first+(p - q - first) % r<=last)
def zh0 {p first last:Int} (hr:0<r):zb1 p q first last r=true↔∃j,first<=j/\j<=last/\(q+j - p) % r=0:=by
 unfold zb1;rw [decide_eq_true_iff];constructor
 ·intro h;have h0:=QS (p - q - first) (by omega:r≠0);refine⟨first+(p - q - first) % r,by omega,h,?_⟩;have h1:=Int.emod_def (p - q - first) r;rw [show q+(first+(p - q - first) % r) - p=r*(-((p - q - first) / r)) by grind];simp_all
 rintro ⟨j,h1,b,a⟩;obtain⟨c,f⟩:=qO a;have e:(p - q - first) % r=(j - first) % r:=by rw [show p - q - first=j - first+r*(-c) by grind];exact Eh _ _ _
 have d:=mod_le (show 0<=j - first by omega) hr;omega
section
variable (L:Lp) (t:Tg) (K:Kn) (O:List Int)
def Uz (a m:Nat):Int:=if m=a then 1 else -((zP t K O m - zP t K O a) / K.pc)
def yix (a:Nat) (bk:Int) (m:Nat):Int:=if 0<bk then min (Uz t K O a m) 1 else Uz t K O a m
def yi7 (u:Int) (m:Nat):Int:=(u - zP t K O m) / K.pc
def xV (a:Nat) (bk u:Int) (m:Nat):Bool:=zb1 (zC K O a) (zC K O m) (yix t K O a bk m) (yi7 t K O u m) t.r
def Zf (a m:Nat):Bool:=zb1 (zC K O a) (zC K O m) (Uz t K O a m) 0 t.r
end
variable {L:Lp} {t:Tg} {K:Kn} {O:List Int}
theorem UD {n:Nat}:zF f n=true↔∀i,i<n->f i=true:=⟨fun h i hi=>zq h i hi,yk⟩
def zlo {g:Nat->Bool} {n m:Nat} (h:(∀i,i<n->f i=true)↔∀i,i<m->g i=true):zF f n=zF g m:=by grind [UD]
def zof (a:0<c):x+j*c<=u↔j<=(u - x) / c:=by rw [WW a];omega
theorem Xx (b:0<c):a<=x+j*c↔-((x - a) / c)<=j:=by
 have h:-j<=(x - a) / c↔-j*c<=x - a:=WW b;grind
def zoa (l:1<=K.pc) (hr:1<=t.r) (a:Nat) (bk u:Int) (m:Nat):(∀j:Int,zce t K O a bk u m j=true)↔xV t K O a bk u m=false:=by
 rw [<-E8];unfold xV;rw [zh0 (by omega)];constructor
 ·rintro h ⟨j,h1,f,b⟩;have g:=h j;unfold zce at g;have s:zP t K O m+j*K.pc<=u:=(zof (by omega)).2 f;have n:zb2 t K O a bk u m j=true/\¬(m=a/\j=0):=by
   unfold zb2;unfold yix Uz at h1;by_cases e:m=a
   ·subst e;rw [Qf rfl] at h1;have d:1<=j:=(by omega);refine⟨?_,by omega⟩;have c:0<=j*K.pc:=Ws (by omega) (by omega);grind
   rw [Qe e] at h1;refine⟨?_,fun h=>e h.1⟩;by_cases hb:0<bk
   ·grind [Xx]
   grind [Xx]
  simp_all
 intro h j;unfold zce;by_cases b:(zC K O m+j - zC K O a) % t.r=0
 ·by_cases o:m=a/\j=0
  ·simp_all
  have k:zb2 t K O a bk u m j=false:=by
   rw [<-E8];intro hn;refine h ⟨j,?_,?_,b⟩
   ·unfold zb2 at hn;unfold yix Uz;simp only [En,Qg,QE] at hn;by_cases e:m=a
    ·subst e;rw [Qf rfl];have d:1<=j:=by
      rcases hn with ⟨c,i⟩ | ⟨⟨c,i⟩,p⟩
      ·by_cases d:j<=0
       ·have q:(-j)*1<=(-j)*K.pc:=QU l (by omega);grind
       omega
      omega
     omega
    grind [Xx]
   unfold zb2 at hn;simp only [En,Qg,QE] at hn;unfold yi7;refine (zof (by omega)).1 ?_;omega
  rw [k];rfl
 rw [Qk b];simp
def yg5 (p:xW L t K O=true) {a:Nat} (n:a<L.b.length) {bk:Int} (x:0<=u) (y:u<=1600):ybn L t K O a bk u=zF (fun m=>!xV t K O a bk u m) L.b.length:=by
 obtain⟨⟨f,z,g⟩,d⟩:=xh p;unfold ybn;refine zlo ⟨fun h m hm=>?_,fun h m hm=>?_⟩
 ·have h1:=h m hm;have l:∀j:Int,zce t K O a bk u m j=true:=by
   intro j;by_cases A:-4100<=j/\j<=4100
   ·have c:=zq h1 (j+4100).toNat (by omega);have i:zce t K O a bk u m (((j+4100).toNat:Int) - 4100)=true:=c;rw [show (((j+4100).toNat:Nat):Int) - 4100=j by omega] at i;exact i
   obtain⟨q,r,s,v⟩:=d a n;obtain⟨B,C,D,F⟩:=d m hm;have hn:zb2 t K O a bk u m j=false:=by
    unfold zb2;by_cases o:0<j
    ·have c:j*1<=j*K.pc:=QU f (by omega);rw [Qk (show ¬zP t K O m+j*K.pc<=u by omega)];simp
    have c:(-j)*1<=(-j)*K.pc:=QU f (by omega);grind
   unfold zce;rw [hn];rfl
  have k:=(zoa (by omega) g a bk u m).1 l;simp_all
 have h1:=h m hm;have k:xV t K O a bk u m=false:=by simpa using h1
 exact yk fun j _=>(zoa (by omega) g a bk u m).2 k _
theorem zv6 (q:xW L t K O=true) {a:Nat} (p:a<L.b.length):zl8 L t K O a=zF (fun m=>!Zf t K O a m) L.b.length:=by
 obtain⟨⟨i,z,y⟩,g⟩:=xh q;unfold zl8;refine zlo ⟨fun h m hm=>?_,fun h m hm=>?_⟩
 ·have h1:=h m hm;obtain⟨s,u,v,x⟩:=g a p;obtain⟨D,F,G,H⟩:=g m hm;have B:Zf t K O a m=false:=by
   rw [<-E8];unfold Zf;rw [zh0 (by omega)];rintro ⟨j,c,k,d⟩;unfold Uz at c;by_cases e:m=a
   ·omega
   rw [Qe e] at c;have l:=(Xx (by omega)).2 c;have n:(-j)*1<=(-j)*K.pc:=QU i (by omega);rw [WQ,WQ] at n;have f:=zq h1 (-j).toNat (by omega);unfold zv5 at f;have o:(((-j).toNat:Nat):Int)=-j:=(by omega);rw [o,show zC K O m - -j - zC K O a=zC K O m+j - zC K O a by omega,Qi d,Qk e,WQ,Qk (by omega)] at f;cases f
  simp_all
 have h1:=h m hm;have k:¬(Zf t K O a m=true):=by simpa using h1
 refine yk fun j _=>?_;unfold zv5;by_cases d:(zC K O m - j - zC K O a) % t.r=0
 ·by_cases A:m=a/\j=0
  ·simp_all
  by_cases l:zP t K O m - j*K.pc<zP t K O a
  ·rw [Qi l];rfl
  exfalso;by_cases e:m=a
  ·subst e;have C:1<=(j:Int):=(by omega);have n:(j:Int)*1<=(j:Int)*K.pc:=QU i (by omega);omega
  refine k ?_;unfold Zf;rw [zh0 (by omega)];refine⟨-(j:Int),?_,by omega,by grind⟩;unfold Uz;rw [Qe e];refine (Xx (by omega)).1 ?_;rw [WQ];omega
 rw [Qk d];simp
end
section
structure Rd where
 ra:Int
 rb:Int
 tm:Int
 sg:Int
 nm:Int
def rdZ:Rd:=⟨0,0,0,0,0⟩
def xw (l:List Rd) (i:Nat):Rd:=l.getD i rdZ
section
variable (L:Lp) (t:Tg) (K:Kn) (O:List Int)
def Z5 (s i:Nat):Rd:=⟨(zO (zu (zc L.b s)) i).1,(zO (zu (zc L.b s)) i).2,xy K O s,(opJ K O s).sg,if i=1 then (opJ K O s).b else (opJ K O s).a⟩
def YH (s:Nat) (i:Nat):List Rd:=(List.range i).map (Z5 L K O s)
def Zv:Nat->List Rd
 | 0=>[]
 | s+1=>Zv s++YH L K O s (zu (zc L.b s)).length
def yl:List Rd:=Zv L K O L.b.length
def UT (x:Rd):Bool:=decide (x.nm=(zC K O x.ra.toNat - x.rb - x.sg) % t.r)
def UQ (x:Rd):Bool:=zF (fun m=>!xV t K O x.ra.toNat x.rb (x.tm+x.rb*K.pc) m) L.b.length
def Yj:Bool:=zF (XD (Y1 L t K O L.b.length)) (Y1 L t K O L.b.length).length
def Up:Bool:=zF (fun i=>zc6 K O (zJ (zf L t) i)) (zf L t).length
def Vo:Bool:=zF (fun i=>UT t K O (xw (yl L K O) i)) (yl L K O).length
def XE:Bool:=zF (fun i=>UQ L t K O (xw (yl L K O) i)) (yl L K O).length
def UN:Bool:=zF (fun i=>zF (fun m=>!Zf t K O (nth L.o i).toNat m) L.b.length) L.o.length
end
variable {L:Lp} {t:Tg} {K:Kn} {O:List Int}
theorem zhi (s i:Nat):(YH L K O s i).length=i:=by unfold YH;simp
theorem zen (s i:Nat):YH L K O s (i+1)=YH L K O s i++[Z5 L K O s i]:=by simp [YH,Wn]
def VN {x:Rd}:x∈Zv L K O k↔∃s,s<k/\∃i,i<(zu (zc L.b s)).length/\Z5 L K O s i=x:=by
 induction k with
 | zero =>
  constructor
  ·intro h;cases h
  omega
 | succ k ih =>
  grind [Zv,YH]
theorem UY {l:List Rd} (h:i<l.length):xw l i∈l:=by grind [xw]
def zkl {p:Rd->Bool} {l:List Rd}:(∀i,i<l.length->p (xw l i)=true)↔∀x∈l,p x=true:=by
 constructor
 ·intro h x a;obtain⟨i,hi,e⟩:=Wl.1 a;grind [xw]
 grind [UY]
def ZB (h:xW L t K O=true) (hs:s<L.b.length):0<=(opJ K O s).sg/\(opJ K O s).sg<=1000/\0<=(opJ K O s).sl/\(opJ K O s).sl<=1000/\0<=(opJ K O s).d/\(opJ K O s).d<=127/\0<=zC K O s/\zC K O s<=1127/\t.r<=128/\(opJ K O s).sg*K.pc=xy K O s - (opJ K O s).sl/\0<=(nth O s)/\(nth O s)<L.b.length:=by
 obtain⟨h1,F,l,G,H,m⟩:=xA h;obtain⟨⟨j,y,x⟩,i⟩:=xh h;have f:=l;unfold X7 at f;simp only [Qg] at f;obtain⟨⟨⟨⟨k,u⟩,o⟩,p⟩,g⟩:=f;obtain⟨u1,u2,u3,z,v⟩:=yi k;obtain⟨o1,N,-⟩:=VK (m s hs).1;have a:=zq g (Vp O s) (by unfold Vp;omega);have c:=a;unfold zb3 UZ at c;simp only [Qg] at c;unfold zb3 xL at a;simp only [Qg,QE] at a;have I:=zH.1 a.1.1.1.1.1;have n:=zH.1 a.1.1.1.1.2;have A:=a.1.1.1.2;have B:xy K O s=(zv K.ops (Vp O s)).sl+(zv K.ops (Vp O s)).sg*K.pc:=by simp [xy,opJ,Er]
 have q:(zv K.ops (Vp O s)).sg*1<=(zv K.ops (Vp O s)).sg*K.pc:=QU j n.1;obtain⟨C,D,-,-⟩:=i s hs;have M:0<=(zv K.ops (Vp O s)).d/\(zv K.ops (Vp O s)).d<=t.r - 1:=by exact zH.1 c.1.1.2.1.1.1.1
 unfold zC opJ;omega
def zhh (h:xW L t K O=true) (hs:s<L.b.length) (hi:i<(zu (zc L.b s)).length) :
  0<=(Z5 L K O s i).ra/\(Z5 L K O s i).ra<L.b.length/\0<=(Z5 L K O s i).rb/\(Z5 L K O s i).rb<=3/\0<=(Z5 L K O s i).tm/\(Z5 L K O s i).tm<=1000/\0<=(Z5 L K O s i).sg/\(Z5 L K O s i).sg<=1000:=by obtain⟨h1,-⟩:=xA h;obtain⟨-,a⟩:=xh h;obtain⟨c,d,-,-⟩:=a s hs;obtain⟨r1,r2,g,j⟩:=XT h1 hs _ (Xn hi);obtain⟨o1,f,-⟩:=ZB h hs;exact⟨r1,r2,g,j,c,d,o1,f⟩
def Vd (h:xW L t K O=true) {x:Rd} (a:x∈yl L K O):0<=x.ra/\x.ra<L.b.length/\0<=x.rb/\x.rb<=3/\0<=x.tm/\x.tm<=1000/\0<=x.sg/\x.sg<=1000:=by obtain⟨s,hs,i,hi,rfl⟩:=VN.1 a;exact zhh h hs hi
def XH (hm:zQ L=true) (hi:i<L.o.length):0<=nth L.o i/\nth L.o i<L.b.length:=by obtain⟨-,-,-,-,-,a,-⟩:=zy hm;have d:=XK L.b.length L.o (i+1) (by omega) (yk fun k f=>zq a k (by omega));have c:zp3 L.o (i+1)=nth L.o i:=rfl;rw [c] at d;omega
def zpy (c:xW L t K O=true):yg L t K O=(Yj L t K O && Up L t K O && Vo L t K O && XE L t K O && UN L t K O):=by
 obtain⟨hm,-⟩:=xA c;obtain⟨⟨q,g,r⟩,n⟩:=xh c;have y:zF (fun s=>zF (zqc L t K O s) (zu (zc L.b s)).length) L.b.length=(Vo L t K O && XE L t K O):=by
  unfold Vo XE;rw [Ea,Qg,UD,UD,UD,zkl (p:=UT t K O),zkl (p:=UQ L t K O)];have f:∀s,s<L.b.length->∀i,i<(zu (zc L.b s)).length->zqc L t K O s i=(UT t K O (Z5 L K O s i) && UQ L t K O (Z5 L K O s i)):=by intro s hs i hi;obtain⟨r1,r2,k,l,z,A,B,C⟩:=zhh c hs hi;have hb:(Z5 L K O s i).rb*K.pc<=3*200:=Wy l g (by omega) (by omega);have m:0<=(Z5 L K O s i).rb*K.pc:=Ws k (by omega);have e:=yg5 c (a:=(Z5 L K O s i).ra.toNat) (by omega) (bk:=(Z5 L K O s i).rb) (u:=(Z5 L K O s i).tm+(Z5 L K O s i).rb*K.pc) (by omega) (by omega);unfold zqc UQ;rw [<-e];rfl
  constructor
  ·intro h;constructor
   ·intro x d;obtain⟨s,hs,i,hi,rfl⟩:=VN.1 d;have h1:=zq (h s hs) i hi;simp_all
   intro x d;obtain⟨s,hs,i,hi,rfl⟩:=VN.1 d;have h1:=zq (h s hs) i hi;simp_all
  rintro ⟨h1,j⟩ s hs;refine yk fun i hi=>?_;rw [f s hs i hi,h1 _ (VN.2 ⟨s,hs,i,hi,rfl⟩),j _ (VN.2 ⟨s,hs,i,hi,rfl⟩)];rfl
 have v:zF (fun i=>zl8 L t K O (nth L.o i).toNat) L.o.length=UN L t K O:=by
  unfold UN;refine zlo ⟨fun h i hi=>?_,fun h i hi=>?_⟩
  ·have:=XH hm hi;grind [zv6]
  have:=XH hm hi;show zl8 L t K O (nth L.o i).toNat=true;grind [zv6]
 grind [yg,Up,Yj]
def zdb (a:xW L t K O=false):yg L t K O=false:=by grind [yg]
def Xj (l:List Rd) (a:Int):Nat->Int
 | 0=>0
 | k+1=>if (xw l k).ra=a then (if Xj l a k<(xw l k).rb then (xw l k).rb else Xj l a k) else Xj l a k
def zrj (a:Int) (f:Int) (l:List Rd):Int:=l.foldl (fun f x=>if x.ra=a/\f<x.rb then x.rb else f) f
theorem zwk (l:List Rd) (a:Int):∀k,k<=l.length->Xj l a k=zrj a 0 (l.take k):=by
 intro k;induction k with
 | zero=>intro _;rfl
 | succ k ih =>
  intro b;have e:l.take (k+1)=l.take k++[xw l k]:=by rw [Wm];grind [xw]
  grind [Xj,zrj]
def zwl (L:Lp) (K:Kn) (O:List Int) (s:Nat) (a f:Int):∀i,UO (zu (zc L.b s)) a f i=zrj a f (YH L K O s i):=by
 intro i;induction i with
 | zero=>rfl
 | succ i ih =>rw [zen];unfold zrj;rw [Q8];simp only [qj,List.foldl_nil];show (if (zO (zu (zc L.b s)) i).1=a/\UO (zu (zc L.b s)) a f i<(zO (zu (zc L.b s)) i).2 then _ else _)=_;rw [ih];rfl
theorem zwj (L:Lp) (K:Kn) (O:List Int) (a:Int):∀k,zir L a k=zrj a 0 (Zv L K O k):=by
 intro k;induction k with
 | zero=>rfl
 | succ k ih =>show UO (zu (zc L.b k)) a (zir L a k) (zu (zc L.b k)).length=zrj a 0 (Zv L K O k++YH L K O k (zu (zc L.b k)).length);rw [zwl L K O,ih];unfold zrj;rw [Q8]
def yiu (L:Lp) (K:Kn) (O:List Int) (a:Int):Xj (yl L K O) a (yl L K O).length=znr L a:=by grind [yl,znr,zwk,zwj]
def zrk (h:xW L t K O=true) (a:Int):∀k,k<=(yl L K O).length->0<=Xj (yl L K O) a k/\Xj (yl L K O) a k<=3:=by
 intro k;induction k with
 | zero=>intro _;exact⟨QR _,by show (0:Int)<=3;omega⟩
 | succ k ih =>
  intro b;have h1:=ih (by omega);obtain⟨-,-,c,d,-⟩:=Vd h (UY (l:=yl L K O) (i:=k) (by omega));grind [Xj]
def zyh (hm:zQ L=true):∀k,k<=L.b.length->(Zv L K O k).length<=2*k:=by
 intro k;induction k with
 | zero=>intro _;exact Qc _
 | succ k ih =>
  grind [Zv,zu,zhi]
def yl4 (L:Lp) (k:Nat):List Int:=XB (xE L) (fun s _=>(s:Int)) k
def yk5 (L:Lp) (k:Nat):List Int:=XB (xE L) (fun _ q=>(q:Int)+1) k
def ydf {F V:List Int} {z:Nat}:∀m,(∀i,i<m->(nth F i).toNat≠z)->zb5 F V m z=0:=by
 intro m;induction m with
 | zero=>intro _;rfl
 | succ m ih =>intro h;show VM (zb5 F V m) (nth F m).toNat (nth V m) z=0;unfold VM;rw [Qe (fun e=>h m (by omega) e.symm)];exact ih fun i hi=>h i (by omega)
def zc8 (hr:1<=t.r) (L:Lp) (K:Kn) (O:List Int) (h:i<UA (xE L) k):0<=nth (Y1 L t K O k) i/\nth (Y1 L t K O k) i<t.r:=by obtain⟨s,q,h1,a,rfl⟩:=znx _ _ _ h;unfold Y1;rw [zca _ _ _ s q h1 a];exact⟨QS _ (by omega),QP _ (by omega)⟩
end
end
section
variable {b:Nat} {u v:Value} {w w':World}
def zh2 (u v:Value) (w:World):Prop:=∀g,v.ownBlock=some g->u.ownBlock=some g\/w.heap.size<=g
structure Kp (b:Nat) (u v:Value) (w w':World):Prop where
 os:w'.os=w.os
 tape:w'.tape=w.tape
 output:w'.output=w.output
 size:w.heap.size<=w'.heap.size
 block:∀k,k<w.heap.size->k≠b->u.ownBlock≠some k->w'.heap[k]?=w.heap[k]?
 new:zh2 u v w
def Kp.refl (b:Nat) (u:Value) (w:World):Kp b u u w w:=⟨rfl,rfl,rfl,Qc _,fun _ _ _ _=>rfl,fun _ h=>.inl h⟩
def Kp.trans {x:Value} {w1 w2:World} (h:Kp b u v w w1) (k:Kp b v x w1 w2):Kp b u x w w2 :=
 ⟨k.os.trans h.os,k.tape.trans h.tape,k.output.trans h.output,QH h.size k.size,fun j a hb c=>(k.block j (Qu a h.size) hb (fun e=>(h.new j e).elim c (fun e=>absurd a (Nat.not_lt.2 e)))).trans (h.block j a hb c),fun g d=>(k.new g d).elim (h.new g) (fun e=>.inr (QH h.size e))⟩
def Kp.of_below (h:Bw w w'):Kp b u u w w':=⟨h.os,h.tape,h.output,h.size,fun k a _ _=>h.block k a,fun _ h=>.inl h⟩
def Kp.gE {B:Nat} (h:Kp b u v w w') (hb:B<=b) (c:∀k,u.ownBlock=some k->B<=k) (d:B<=w.heap.size):Below B w w' :=
 ⟨h.os,h.tape,h.output,h.size,fun k a=>h.block k (by omega) (by omega) (fun e=>by grind)⟩
end
section
variable {L:Lp} {ws:List (List Int)}
def za1 (ws:List (List Int)) (h:ws.getD 0 []=YY\/ws.getD 0 []=zf4):stO ws=none:=by
 have key:∀w,(w=YY\/w=zf4)->w≠Zt/\w≠yO/\w≠xT/\w≠yT/\([11,12,13,14,15,16,17,18]:List Int).find? (fun o=>decide (opD o=w))=none:=by intro w f;rcases f with rfl | rfl <;> decide
 match ws,h with
 | [],h=>rfl
 | [w],h=>exact Qe (key w h).1
 | [w,a],h=>exact Qe (key w h).2.1
 | [w,a,b],h=>simp only [stO,(key w h).2.2.2.2]
 | [w,a,b,c],h=>exact Qe (key w h).2.2.1
 | [w,a,b,c,d],h=>exact Qe (key w h).2.2.2.1
 | _ :: _ :: _ :: _ :: _ :: _ :: _,_=>rfl
def zgt (h:ws.getD 0 []=YY):YS L ws=if ws.length=2/\L.b.length+L.o.length=0 then (zT (ws.getD 1 []) 18).map (fun n=>{ L with l:=L.l++[n] }) else none:=by
 by_cases c:ws.length=2
 ·match ws,c,h with
  | [w,a],_,h =>
   have f:w=YY:=h;show (if w=YY then _ else _)=_;simp_all
 rw [Qe fun d=>c d.1];have hs:=za1 ws (.inl h);unfold YS;grind
def zog (h:ws.getD 0 []=zf4):YS L ws=if ws.length=2 then (zT (ws.getD 1 []) 18).map (fun n=>{ L with o:=L.o++[n] }) else none:=by
 by_cases b:ws.length=2
 ·match ws,b,h with
  | [w,a],_,h =>have c:w=zf4:=h;subst c;rw [Qf (show [zf4,a].length=2 from rfl)];simp only [YS];rw [Qe (show ¬zf4=YY by decide),Qf trivial];rfl
 rw [Qe b];have hs:=za1 ws (.inr h);unfold YS;grind
def zk0 (h1:ws.getD 0 []≠YY) (a:ws.getD 0 []≠zf4):YS L ws=if L.o.length=0 then (stO ws).map (fun s=>{ L with b:=L.b++[s] }) else none:=by
 unfold YS;grind [stO]
end
end Go.Proofs.YtjlfcbccpcigeacGreatDoor
