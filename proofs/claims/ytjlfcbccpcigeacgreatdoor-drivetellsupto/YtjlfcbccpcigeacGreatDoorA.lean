import Derived.Test.YtjlfcbccpcigeacGreatDoorRows
import Derived.Deep.OwnRows
import Derived.Lib.SmallJoins
import Derived.Deep.RegionHeld3
import Derived.WideKeyEntry
import Derived.WalkSpells
import Derived.WalkLawsBesides
set_option maxHeartbeats 40000000
set_option linter.defProp false
namespace Go.RowKit
theorem Hid.o {p:Prop} (h:Hid p):p:=h
def Below.t:=@Below.trans
def Below.m:=@Below.mono
end Go.RowKit
theorem Go.Shut.o {p:Prop} (h:Go.Shut p):p:=h
def Go.Calls.m:=@Go.Calls.mono
def Eq.t:=@Eq.trans
def Eq.s:=@Eq.symm
def Ne.s:=@Ne.symm
def Iff.t:=@Iff.trans
def Iff.s:=@Iff.symm
namespace Go.Proofs.YtjlfcbccpcigeacGreatDoor
abbrev wO:=World
abbrev vO:=Value
abbrev Li:=List Int
def oM {p:Prop} (h:p:=by omega):p:=h
def lI {p:Prop} (h:p:=by lia):p:=h
def tQ {p:Prop} (h:p:=by decide):p:=h
def kR {p:Prop} (h:p:=by kernel_rfl):p:=h
def sM {p:Prop} (h:p:=by simp):p:=h
def nQ {p:Prop} (h:p:=by go_num):p:=h
def sO {p:Prop} (h:p:=by simp;omega):p:=h
def mL {p:Prop} (h:p:=by unfold maxLen;omega):p:=h
def rQ {p:Prop} (h:p:=by grind):p:=h
def sA {p:Prop} (h:p:=by simp_all):p:=h
abbrev J (x:Int):Value:=.int .i64 x
abbrev Ia (a:Int) (t:TypeId):Obj:=.cells #[J a] t
abbrev Ib (a b:Int) (t:TypeId):Obj:=.cells #[J a,J b] t
abbrev Ic (a b c:Int) (t:TypeId):Obj:=.cells #[J a,J b,J c] t
abbrev Id (a b c d:Int) (t:TypeId):Obj:=.cells #[J a,J b,J c,J d] t
abbrev Ie (a b c d e:Int) (t:TypeId):Obj:=.cells #[J a,J b,J c,J d,J e] t
abbrev Ii (a b c d e f g h i:Int) (t:TypeId):Obj:=.cells #[J a,J b,J c,J d,J e,J f,J g,J h,J i] t
abbrev Ij (a b c d e f g h i j:Int) (t:TypeId):Obj:=.cells #[J a,J b,J c,J d,J e,J f,J g,J h,J i,J j] t
abbrev Y (x:Int):Option Value:=some (J x)
abbrev pA (b:Nat):Option Addr:=some ⟨b,0,none⟩
abbrev E (b i:Nat):Addr:=⟨b,i,none⟩
abbrev sN:Value:=.slice none 0 0
abbrev vP (b n c:Nat):Value:=.slice (pA b) n c
abbrev vE (b i n c:Nat):Value:=.slice (some (E b i)) n c
abbrev Bw (w w':World):Prop:=RowKit.Below w.heap.size w w'
abbrev Rt (w:World) (v:Value) (e:Ending) (w':World):Prop:=e=.returned v/\RowKit.Below w.heap.size w w'
abbrev tv (a b c d e f g:Int):Value:=.agg #[J a,J b,J c,J d,J e,J f,J g]
abbrev tB (a b c d e f g:Int):Obj:=.cells #[J a,J b,J c,J d,J e,J f,J g] 27
abbrev nB (a b c d e f g h i:Int):Obj:=.cells #[J a,J b,J c,J d,J e,J f,J g,J h,J i] 144
abbrev kB (a b:Int) (c:Option Addr) (d e:Nat):Obj:=.cells #[J a,J b,.slice c d e] 75
end Go.Proofs.YtjlfcbccpcigeacGreatDoor
namespace Go.Proofs.YtjlfcbccpcigeacGreatDoor
open Go.RowKit Go.Joins
def Qa:=@cell_of_block
def Qb:=@Array.getElem?_eq_some_iff
def Qc:=@Nat.le_refl
def Qd:=@below_alloc1
def Qe:=@if_neg
def Qf:=@if_pos
def Qg:=@Bool.and_eq_true
def Qh:=@List.getElem?_eq_getElem
def Qi:=@decide_eq_true
def Qj:=@Below.heap_setCell
def Qk:=@decide_eq_false
def Ql:=@Nat.zero_le
def Qm:=@below_draws
def Qn:=@List.setIfInBounds_toArray
def Qq:=@wp_region_noPanic
def Qr:=@Below.heap_alloc
def Qs:=@NoPanic.normal
def Qt:=@List.length_append
def Qu:=@Nat.lt_of_lt_of_le
def Qv:=@Nat.not_lt_zero
def Qw:=@List.getD_eq_getElem?_getD
def Qy:=@List.set_cons_zero
def Qz:=@List.set_cons_succ
def QA:=@Below.refl
def QB:=@below_alloc2
def QC:=@Array.getElem?_modify
def QD:=@Option.some.inj
def QE:=@decide_eq_true_eq
def QF:=@Nat.lt_succ_self
def QH:=@Nat.le_trans
def QI:=@of_decide_eq_true
def QJ:=@below_alloc3
def QK:=@List.mem_append
def QL:=@Int.toNat_natCast
def QM:=@beq_eq_false_iff_ne
def QO:=@Nat.zero_add
def QP:=@Int.emod_lt_of_pos
def QQ:=@wpList_append_own
def QR:=@Int.le_refl
def QS:=@Int.emod_nonneg
def QT:=@List.mem_singleton
def QU:=@Int.mul_le_mul_of_nonneg_left
def QV:=@List.map_append
def QW:=@List.getElem_mem
def QX:=@Int.eq_ofNat_of_zero_le
def QY:=@List.mem_cons_self
def Q0:=@List.getElem?_eq_none
def Q1:=@Array.getElem?_setIfInBounds
def Q5:=@List.length_cons
def Q6:=@Below.alloc
def Q7:=@Nat.le_of_lt
def Q8:=@List.foldl_append
def Q9:=@List.length_map
def Wb:=@Bool.true_and
def Wc:=@List.getElem?_map
def Wd:=@List.take_length
def We:=@List.getElem?_take
def Wf:=@beq_false_of_ne
def Wg:=@List.mem_cons_of_mem
def Wh:=@List.length_take
def Wi:=@List.length_eq_zero_iff
def Wj:=@List.getElem?_append_left
def Wl:=@List.mem_iff_getElem
def Wm:=@List.take_add_one
def Wn:=@List.range_succ
def Wo:=@Int.tmod_eq_emod_of_nonneg
def Wq:=@IntKind.wrap_i64
def Wr:=@List.append_assoc
def Ws:=@Int.mul_nonneg
def Ww:=@List.getElem?_append_right
def Wx:=@Int.mul_le_mul_of_nonneg_right
def Wy:=@Int.mul_le_mul
def Wz:=@List.mem_append_left
def WA:=@Array.getElem?_eq_getElem
def WB:=@List.take_of_length_le
def WD:=@block_setCell
def WE:=@List.mem_cons
def WG:=@Nat.add_zero
def WH:=@Int.toNat_of_nonneg
def WI:=@Bool.false_and
def WJ:=@List.append_nil
def WK:=@Int.le_trans
def WL:=@Int.tmod_lt_of_pos
def WM:=@Bool.false_ne_true
def WN:=@WalkArith.wf_i64
def WP:=@Nat.pow_le_pow_right
def WQ:=@Int.neg_mul
def WS:=@unfrozen_of_block
def WT:=@Option.map_eq_some_iff
def WU:=@List.mem_range
def WV:=@List.mem_map
def WW:=@Int.le_ediv_iff_mul_le
def WY:=@Int.ediv_nonneg
def WZ:=@List.mem_append_right
def W6:=@Array.getElem?_setIfInBounds_self_of_lt
def W8:=@List.nil_append
def W9:=@List.cons.injEq
def Ea:=@Bool.eq_iff_iff
def Eb:=@Below.drew
def Ec:=@List.getElem?_range
def Ef:=@List.map_cons
def Eg:=@Int.ediv_le_self
def Eh:=@Int.add_mul_emod_self_left
def Ei:=@Bool.false_eq_true
def Ej:=@List.length_replicate
def Ek:=@List.length_filter_le
def El:=@Value.agg.injEq
def En:=@Bool.or_eq_true
def Eo:=@Nat.succ_mul
def Ep:=@Nat.le_succ
def Eq:=@List.pairwise_append
def Er:=@Int.mul_comm
def Es:=@Int.lt_trichotomy
def Et:=@List.map_congr_left
def Eu:=@List.mem_singleton_self
def Ew:=@Bool.and_false
def Ex:=@Array.mk.injEq
def Ez:=@Nat.ne_of_gt
def EA:=@List.filter_append
def EC:=@Int.ediv_lt_iff_lt_mul
def EF:=@List.length_singleton
def EG:=@List.size_toArray
def EI:=@Nat.mul_le_mul_right
def EJ:=@List.mem_of_mem_take
def EM:=@List.cons_append
def EN:=@List.all_eq_true
def EP:=@List.drop_eq_getElem_cons
def EQ:=@Array.size_setIfInBounds
def ER:=@Int.tmod_nonneg
def ES:=@Int.natCast_mul
def ET:=@Int.natCast_add
def EU:=@List.pairwise_cons
def EV:=@Int.lt_tmod_of_pos
def EW:=@Nat.le_mul_of_pos_right
def EY:=@Nat.zero_mul
def EZ:=@Maps.Keyed.of_law
def E0:=@List.take_succ_eq_append_getElem
def E1:=@List.map_nil
def E2:=@List.map_map
def E3:=@Array.getElem?_eq_none
def E4:=@Int.mul_tdiv_add_tmod
def E5:=@Int.emod_add_mul_ediv
def E6:=@Array.getElem?_toList
def E7:=@Nat.mod_lt
def E8:=@Bool.not_eq_true
def qc:=@Bool.false_or
def qd:=@Region.noSelect_spec
def qf:=@List.eq_nil_of_length_eq_zero
def qh:=@Nat.two_pow_pos
def qj:=@List.foldl_cons
def ql:=@Maps.atKey_put_same
def qn:=@List.flatMap_append
def qo:=@Bool.or_eq_true_iff
def qp:=@Array.extract_eq_self_of_le
def qq:=@Nat.add_mul_mod_self_right
def qw:=@Int.tdiv_eq_ediv_of_nonneg
def qx:=@List.getElem?_eq_some_iff
def qz:=@Int.add_mul
def qC:=@Nat.lt_irrefl
def qD:=@Int.neg_emod_eq_sub_emod
def qE:=@Bool.and_true
def qF:=@Nat.succ_pred_eq_of_pos
def qG:=@Nat.mod_eq_of_lt
def qJ:=@List.pairwise_singleton
def qK:=@List.not_mem_nil
def qL:=@List.length_drop
def qO:=@Int.dvd_of_emod_eq_zero
def qP:=@Array.toList_inj
def qQ:=@Nat.le_of_eq
def qR:=@Nat.add_comm
def qV:=@Nat.add_mul_div_right
def qW:=@List.take_append_drop
def qX:=@List.singleton_append
def qY:=@List.getElem?_toArray
def q5:=@Int.mul_ediv_add_emod
def q7:=@Maps.atKey_put_other
def q8:=@List.reverse_reverse
def q9:=@List.mem_of_mem_drop
def qZ {w:World} {g i:Nat} {a:Array Value} {t:TypeId} (h:w.heap[g]?=some (.cells a t (0,0))):w.frozen? ⟨g,i,none⟩=false:=by simp [World.frozen?,h]
def oB {P:Program} {b:Func} {R:Ending->World->Prop} {a:Act} {w:World} {v:Value} (hR:R (.returned v) w) (hr:(results b a.tmps).run P w=.ok v w:=by kernel_rfl) (c:a.defers=[]:=by rfl):bodyPost P b R .ret a w:=bodyPost_ret hr c hR
def nm {α:Type} (t:α):∃x,t=x:=⟨t,rfl⟩
def cb {w:World} {g:Nat} {a:Array Value} {t:TypeId} {fr:Nat×Nat} {i:Nat} {v:Option Value} (h:w.heap[g]?=some (.cells a t fr)) (e:a[i]?=v:=by rfl):w.cell? ⟨g,i,none⟩=v:=(Joins.cell_of_block h i).t e
def lo {α:Type} {a:Array α} {i:Nat} {v:α} (h:a[i]?=some v):i<a.size:=rQ
end Go.Proofs.YtjlfcbccpcigeacGreatDoor
namespace Go
def Calls.mr {P:Program} {f:FuncId} {a:Array Value} {w:World} {v:Value} {S:World->Prop} {R:Ending->World->Prop} (h:Calls P f a w fun e w'=>e=.returned v/\S w') (k:∀x,S x->R (.returned v) x):Calls P f a w R:=h.m fun _ x ⟨e,b⟩=>e ▸ k x b
abbrev World.z (w:World):Nat:=w.heap.size
abbrev World.ac (w:World) (t:TypeId) (a:Array Value):World:=w.alloc (.cells a t)
abbrev World.c (w:World) (b i:Nat):Option Value:=w.cell? ⟨b,i,none⟩
abbrev World.st (w:World) (b i:Nat) (v:Value):World:=w.setCell ⟨b,i,none⟩ v
end Go
namespace Go.RowKit
def Below.tm {w x y:World} (h:Below w.heap.size w x) (k:Below x.heap.size x y):Below w.heap.size w y:=h.t (k.m h.size)
end Go.RowKit
namespace Go.Proofs.YtjlfcbccpcigeacGreatDoor.NumMath
open Go.RowKit (wrap64)
def low (X:Nat) (k:Nat):Int:=wrap64 ((X % 2 ^ k:Nat):Int)
def Y0 (a:Int):Nat:=(a % 18446744073709551616).toNat
theorem Rl:((2 ^ 64:Nat):Int)=18446744073709551616:=tQ
def DK (a:Int):Y0 a<2 ^ 64:=by unfold Y0;lia
def DL (X:Nat) (h:X<2 ^ 64):low X 64=wrap64 (X:Int):=by grind [low]
theorem Rm (a b:Int):bits .and .i64 a b=low (Y0 a &&& Y0 b) 64:=by rw [DL _ (Nat.and_lt_two_pow _ (DK b))];show IntKind.i64.wrap ((BitVec.ofInt 64 a &&& BitVec.ofInt 64 b).toNat:Nat)=_;rw [BitVec.toNat_and,BitVec.toNat_ofInt,BitVec.toNat_ofInt,Wq,Rl];unfold Y0 wrap64;rfl
def i64_mask (n:Int) (k:Nat) (b:k<63):bits .and .i64 n (((2 ^ k:Nat):Int) - 1)=n % ((2 ^ k:Nat):Int):=by
 obtain⟨j,a⟩:∃j,64=k+(j+1):=⟨63 - k,by lia⟩;have hN:(18446744073709551616:Nat)=2 ^ k*(2 ^ j*2):=by rw [<-Nat.pow_succ,<-Nat.pow_add,<-a]
 have d:2 ^ k<2 ^ 63:=Nat.pow_lt_pow_right (by lia) b;have f:=qh k;have c:Y0 (((2 ^ k:Nat):Int) - 1)=2 ^ k - 1:=by unfold Y0;lia
 rw [Rm,DL _ (Nat.and_lt_two_pow _ (DK _)),c,Nat.and_two_pow_sub_one_eq_mod];have hm:((Y0 n % 2 ^ k:Nat):Int)=n % ((2 ^ k:Nat):Int):=by
  rw [Int.natCast_emod];have h:((Y0 n:Nat):Int)=n % 18446744073709551616:=by unfold Y0;lia
  have i:(18446744073709551616:Int)=((2 ^ k:Nat):Int)*(((2 ^ j:Nat):Int)*2):=by rw [show (18446744073709551616:Int)=((18446744073709551616:Nat):Int) from rfl,hN,ES,ES];rfl
  simp_all
 rw [hm];have h1:=QS n (show ((2 ^ k:Nat):Int)≠0 by lia);have g:=QP n (show (0:Int)<((2 ^ k:Nat):Int) by lia);unfold wrap64;lia
end Go.Proofs.YtjlfcbccpcigeacGreatDoor.NumMath
namespace Go.Proofs.YtjlfcbccpcigeacGreatDoor
open Go.RowKit
set_option linter.unusedVariables false
structure St where
 o:Int
 xa:Int
 xb:Int
 ya:Int
 yb:Int
 ar:Int
 sp:Int
 pl:Int
 nn:Int
structure Lp where
 l:List Int
 b:List St
 o:List Int
abbrev lC (L:Lp) (a b c:Option Addr) (x y z:Nat):Obj:=.cells #[.slice a L.l.length x,.slice b L.b.length y,.slice c L.o.length z] 62
abbrev lv (L:Lp) (a b c:Option Addr) (x y z:Nat):Value:=.agg #[.slice a L.l.length x,.slice b L.b.length y,.slice c L.o.length z]
def St.nil:St:=⟨0,0,0,0,0,0,0,0,0⟩
def ak (l:List Int) (i:Nat):Int:=l.getD i 0
def zc (l:List St) (i:Nat):St:=l.getD i St.nil
def br (n lo hi:Int):Bool:=decide (lo<=n/\n<=hi)
theorem yh {n lo hi:Int} (h:lo<=n/\n<=hi):br n lo hi:=Qi h
theorem X0 {n lo hi:Int} (h:¬(lo<=n/\n<=hi)):br n lo hi=false:=Qk h
theorem zH {n lo hi:Int}:br n lo hi=true↔lo<=n/\n<=hi:=by unfold br;simp
def xj (n k at_ back:Int):Bool:=br back 0 3 && br at_ 0 (if back=0 then k - 1 else n - 1)
def Zp (m ar sp pl:Int):Bool:=br ar 0 (m - 1) && br sp (-64) 64 && br pl (-64) 64
def yW (m n k:Int) (s:St):Bool :=
 if s.o=1 then decide (s.xa=0/\s.xb=0/\s.ya=0/\s.yb=0/\s.ar=0/\s.sp=0/\s.pl=0)
 else if s.o=2 then decide (s.xa=0/\s.xb=0/\s.ya=0/\s.yb=0/\s.ar=0/\s.sp=0/\s.pl=0/\s.nn=0)
 else if s.o=3 then decide (s.xa=0/\s.xb=0/\s.ya=0/\s.yb=0/\s.nn=0) && Zp m s.ar s.sp s.pl
 else if s.o=4 then decide (s.ya=0/\s.yb=0/\s.nn=0) && Zp m s.ar s.sp s.pl && xj n k s.xa s.xb
 else if 11<=s.o/\s.o<=18 then decide (s.ar=0/\s.sp=0/\s.pl=0/\s.nn=0) && xj n k s.xa s.xb && xj n k s.ya s.yb
 else false
def zF (p:Nat->Bool):Nat->Bool
 | 0=>true
 | k+1=>zF p k && p k
theorem zq {p:Nat->Bool} {n:Nat} (h:zF p n):∀k,k<n->p k:=by induction n <;> grind [zF]
theorem yk {p:Nat->Bool} {n:Nat} (h:∀k,k<n->p k):zF p n:=by induction n <;> grind [zF]
theorem yd {p:Nat->Bool} {n k:Nat} (a:k<n) (h:p k=false):zF p n=false:=by grind [zq]
def yr {p:Nat->Bool} {k:Nat} (h:zF p k) (a:p k):zF p (k+1):=by grind [zF]
def uu (z:Int):Bool:=br z 0 5
def Yn (l:List Int):Bool:=zF (fun i=>uu (ak l i)) l.length
def lA (l:List Int):Nat->Int
 | 0=>-1
 | i+1=>ak l i
def oE (n:Int) (l:List Int) (i:Nat):Bool:=br (ak l i) (lA l i+1) (n - 1)
def Vq (n:Int) (l:List Int):Bool:=zF (oE n l) l.length
def YA (L:Lp):Bool:=zF (fun k=>yW L.l.length L.b.length k (zc L.b k)) L.b.length
def zQ (L:Lp):Bool :=
 decide (L.l.length<=3) && decide (1<=L.b.length) && decide (L.b.length<=16) && Yn L.l && Vq L.b.length L.o && YA L
def XK (n:Int) (l:List Int) (k:Nat) (hn:0<=n) (h:zF (oE n l) k):(k:Int) - 1<=lA l k/\lA l k<=n - 1:=by induction k <;> grind [zF,oE,lA,zH]
def DM (n:Nat) (l:List Int) (h:Vq n l):l.length<=n:=by have h1:=XK n l l.length lI h;lia
def Rn (L:Lp) (h1:L.l.length<=3) (a:1<=L.b.length) (c:L.b.length<=16):zQ L=(Yn L.l && Vq L.b.length L.o && YA L):=by grind [zQ]
def oF (L:Lp) (h:¬L.l.length<=3\/¬1<=L.b.length\/¬L.b.length<=16\/¬L.o.length<=16):zQ L=false:=by
 cases e:zQ L with
 | false=>rfl
 | true =>unfold zQ at e;simp only [Qg,QE] at e;obtain⟨⟨⟨⟨⟨c,d⟩,f⟩,g⟩,a⟩,i⟩:=e;have:=DM _ _ a;lia
theorem zy {L:Lp} (e:zQ L):L.l.length<=3/\1<=L.b.length/\L.b.length<=16/\L.o.length<=16/\Yn L.l/\Vq L.b.length L.o/\YA L:=by unfold zQ at e;simp only [Qg,QE] at e;obtain⟨⟨⟨⟨⟨c,d⟩,f⟩,g⟩,a⟩,h⟩:=e;have:=DM _ _ a;exact⟨c,d,f,lI,g,a,h⟩
def zB (l:List (List Int)) (i:Nat):List Int:=l.getD i []
def xP (L:Lp) (B M:List (List Int)):Bool :=
 zQ L && decide (B.length=L.b.length) && decide (M.length=L.l.length)
  && zF (fun i=>decide ((zB B i).length=3)) B.length && zF (fun i=>decide ((zB M i).length=2 ^ (ak L.l i).toNat)) M.length
end Go.Proofs.YtjlfcbccpcigeacGreatDoor
namespace Go.Proofs.YtjlfcbccpcigeacGreatDoor
set_option linter.unusedVariables false
def Z8 (n:Nat):Nat:=if n=1 then 0 else if n=2 then 1 else if n=4 then 2 else if n=8 then 3 else if n=16 then 4 else if n=32 then 5 else 6
def oG (r:List Int):Bool:=decide (Z8 r.length<6)
def Zz (M:List (List Int)):Bool:=zF (fun i=>oG (zB M i)) M.length
def zK (M:List (List Int)):List Int:=(List.range M.length).map fun i=>(Z8 (zB M i).length:Int)
theorem Zn (M:List (List Int)):(zK M).length=M.length:=by unfold zK;simp
theorem YF (M:List (List Int)) (i:Nat) (h:i<M.length):ak (zK M) i=(Z8 (zB M i).length:Int):=by grind [ak,zK]
theorem uv (n:Nat):Z8 n<=6:=by grind [Z8]
end Go.Proofs.YtjlfcbccpcigeacGreatDoor
namespace Go.Proofs.YtjlfcbccpcigeacGreatDoor
open Go.RowKit Go.Joins
set_option linter.unusedVariables false
def zr (w:World) (g:Nat) (e:TypeId) (n:Nat) (f:Nat->Value):Prop :=
 ∃cur:Array Value,w.heap[g]?=some (.cells cur e (0,0))/\n<=cur.size/\∀i,i<n->cur[i]?=some (f i)
theorem zr.cell {w:World} {g:Nat} {e:TypeId} {n:Nat} {f:Nat->Value} (h:zr w g e n f) {i:Nat} (hi:i<n):w.cell? (E g i)=some (f i):=by obtain⟨c,hb,_,a⟩:=h;simp [World.cell?,hb,a i hi]
def zr.frozen {w:World} {g:Nat} {e:TypeId} {n:Nat} {f:Nat->Value} (h:zr w g e n f) (i:Nat):w.frozen? (E g i)=false:=by obtain⟨c,hb,_,_⟩:=h;simp [World.frozen?,hb]
def zr.lt {w:World} {g:Nat} {e:TypeId} {n:Nat} {f:Nat->Value} (h:zr w g e n f):g<w.heap.size:=by grind [zr]
theorem zr.congr {w:World} {g:Nat} {e:TypeId} {n:Nat} {f a:Nat->Value} (h:zr w g e n f) (b:∀i,i<n->f i=a i):zr w g e n a:=by grind [zr]
def zr.gG {w w':World} {g:Nat} {e:TypeId} {n:Nat} {f:Nat->Value} (h:zr w g e n f) (a:w'.heap[g]?=w.heap[g]?):zr w' g e n f:=by grind [zr]
theorem zr.set {w:World} {g:Nat} {e:TypeId} {n:Nat} {f:Nat->Value} (h:zr w g e n f) (i:Nat) (v:Value) (hi:i<n):zr (w.setCell (E g i) v) g e n (fun j=>if j=i then v else f j):=by
 obtain⟨c,hb,hn,a⟩:=h;refine⟨c.setIfInBounds i v,?_,by simpa using hn,fun j b=>?_⟩
 ·simp [World.setCell,QC,hb]
 grind
theorem zr.gF {w:World} {g:Nat} {e:TypeId} {n:Nat} {f:Nat->Value} (h:zr w g e n f) {a:Addr} (b:g≠a.block) (v:Value):zr (w.setCell a v) g e n f :=
 h.gG (Qj _ _ _ _ b)
def zr.alloc {w:World} {g:Nat} {e:TypeId} {n:Nat} {f:Nat->Value} (h:zr w g e n f) (o:Obj):zr (w.alloc o) g e n f :=
 h.gG (Qr _ _ _ h.lt)
def zr.drawn {w:World} {g:Nat} {e:TypeId} {n:Nat} {f:Nat->Value} (h:zr w g e n f) (k:Nat):zr (w.drewN k) g e n f:=h
def zr.grown {w w':World} {g:Nat} {e:TypeId} {n:Nat} {f:Nat->Value} {row:Option Nat} (h:zr w g e n f) (a:w.grownBy w' row) (hr:some g≠row):zr w' g e n f :=
 h.gG (a.block g h.lt hr)
def zr.gE {w w':World} {g B:Nat} {e:TypeId} {n:Nat} {f:Nat->Value} (h:zr w g e n f) (hb:Below B w w') (a:g<B):zr w' g e n f :=
 h.gG (hb.block g a)
def zr.apart {w:World} {g b:Nat} {e a:TypeId} {n d:Nat} {f c:Nat->Value} (h:zr w g e n f) (i:zr w b a d c) (j:e≠a):g≠b:=by grind [zr]
theorem zr.made (w:World) (c:Array Value) (e:TypeId) (n:Nat) (f:Nat->Value) (hn:n<=c.size) (a:∀i,i<n->c[i]?=some (f i)):zr (w.alloc (.cells c e)) w.heap.size e n f :=
 ⟨c,by show (w.heap.push _)[w.heap.size]?=_;simp,hn,a⟩
theorem zr.zeros (w:World) (z:Value) (n:Nat) (e:TypeId):zr (w.alloc (.cells (madeCells #[z] n) e)) w.heap.size e n (fun _=>z):=by obtain⟨c,hb,hn,a⟩:=World.rowIs_made w z n e;exact⟨c,hb,lI,a⟩
theorem yC {w:World} {base:Nat} {e:TypeId} {v:Value} {n:Nat} {b:List Value} (h:w.ownsRow base e 1 v n b) (k:v≠.slice none 0 0\/0<n) :
  ∃g cap,v=.slice (pA g) n cap/\base<=g/\n<=cap/\cap<=maxLen/\zr w g e n (fun i=>b.getD i (.bool false)):=by
 obtain⟨f,h⟩:=h;rcases h with ⟨rfl,hn⟩ | ⟨g,cap,a,rfl,c,hb,hn,hm,d,j⟩
 ·simp_all
 refine⟨g,cap,rfl,c,hn,hm,a,hb,lI,fun i hi=>?_⟩;grind
def zp {w w':World} {base:Nat} {e:TypeId} {c:Nat} {v:Value} {n:Nat} {d:List Value} (h:w.ownsRow base e c v n d) (hb:Bw w w'):w'.ownsRow base e c v n d:=by
 obtain⟨i,h⟩:=h;refine⟨i,?_⟩;rcases h with h | ⟨g,cap,a,j,f,b,r⟩
 ·exact .inl h
 exact .inr ⟨g,cap,a,j,f,by rw [hb.block g (lo b)];exact b,r⟩
def xo {w:World} {base:Nat} {e a:TypeId} {v:Value} {n m:Nat} {j:List Value} {g:Nat} {f:Nat->Value} (h:w.ownsRow base e 1 v n j) (hr:zr w g a m f) (k:a≠e):some g≠v.ownBlock:=by
 obtain⟨p,h⟩:=h;rcases h with ⟨rfl,_⟩ | ⟨i,cap,d,rfl,l,o,r⟩
 ·intro h;cases h
 intro h;have b:g=i:=by simpa [Value.ownBlock] using h
 subst b;obtain⟨c,hb,_,_⟩:=hr;simp_all
def zR {w:World} {base:Nat} {e:TypeId} {v:Value} {n:Nat} {c:List Value} (h:w.ownsRow base e 1 v n c):∀k,v.ownBlock=some k->base<=k:=by
 obtain⟨g,h⟩:=h;rcases h with ⟨rfl,_⟩ | ⟨b,cap,a,rfl,d,f,r⟩
 ·intro k h;cases h
 intro k h;have:b=k:=by simpa [Value.ownBlock] using h
 lia
def VL (w:World) (e:TypeId):(w.alloc (.cells #[] e)).ownsRow w.heap.size e 1 (.slice (pA w.heap.size) 0 0) 0 []:=by refine⟨rfl,.inr ⟨w.heap.size,0,#[],rfl,Qc _,?_,Qc _,Ql _,rfl,rfl⟩⟩;show (w.heap.push _)[w.heap.size]?=_;simp
end Go.Proofs.YtjlfcbccpcigeacGreatDoor
namespace Go.Proofs.YtjlfcbccpcigeacGreatDoor
open Go.RowKit Go.Joins
set_option linter.unusedVariables false
def Zh (w:World) (g:Nat) (e:TypeId) (cap n:Nat) (f:Nat->Value):Prop :=
 ∃cur:Array Value,w.heap[g]?=some (.cells cur e (0,0))/\cur.size=cap/\n<=cap/\∀i,i<n->cur[i]?=some (f i)
def Zh.row {w:World} {g:Nat} {e:TypeId} {cap n:Nat} {f:Nat->Value} (h:Zh w g e cap n f):zr w g e n f:=by grind [Zh,zr]
def Zh.le {w:World} {g:Nat} {e:TypeId} {cap n:Nat} {f:Nat->Value} (h:Zh w g e cap n f):n<=cap:=by grind [Zh]
def Zh.lt {w:World} {g:Nat} {e:TypeId} {cap n:Nat} {f:Nat->Value} (h:Zh w g e cap n f):g<w.heap.size:=h.row.lt
theorem Zh.congr {w:World} {g:Nat} {e:TypeId} {cap n:Nat} {f a:Nat->Value} (h:Zh w g e cap n f) (b:∀i,i<n->f i=a i):Zh w g e cap n a:=by grind [Zh]
def Zh.gG {w w':World} {g:Nat} {e:TypeId} {cap n:Nat} {f:Nat->Value} (h:Zh w g e cap n f) (a:w'.heap[g]?=w.heap[g]?):Zh w' g e cap n f:=by grind [Zh]
theorem Zh.gF {w:World} {g:Nat} {e:TypeId} {cap n:Nat} {f:Nat->Value} (h:Zh w g e cap n f) {a:Addr} (b:g≠a.block) (v:Value):Zh (w.setCell a v) g e cap n f :=
 h.gG (Qj _ _ _ _ b)
theorem Zh.set {w:World} {g:Nat} {e:TypeId} {cap n:Nat} {f:Nat->Value} (h:Zh w g e cap n f) (i:Nat) (v:Value) (hi:i<n):Zh (w.setCell (E g i) v) g e cap n (fun j=>if j=i then v else f j):=by
 obtain⟨c,hb,hs,hn,a⟩:=h;refine⟨c.setIfInBounds i v,?_,by simpa using hs,hn,fun j b=>?_⟩
 ·simp [World.setCell,QC,hb]
 grind
def Zh.gE {w w':World} {g B:Nat} {e:TypeId} {cap n:Nat} {f:Nat->Value} (h:Zh w g e cap n f) (hb:Below B w w') (a:g<B):Zh w' g e cap n f :=
 h.gG (hb.block g a)
def YD (f:Nat->Value) (n i:Nat) (h:i<n):((List.range n).map f).getD i (.bool false)=f i:=rQ
def Zh.own {w:World} {g base:Nat} {e:TypeId} {cap n:Nat} {f:Nat->Value} (h:Zh w g e cap n f) (hb:base<=g) (hm:cap<=maxLen):w.ownsRow base e 1 (.slice (pA g) n cap) n ((List.range n).map f):=by
 obtain⟨c,a,hs,hn,b⟩:=h;refine⟨sM,.inr ⟨g,cap,c,rfl,hb,a,hn,hm,lI,?_⟩⟩;rw [Nat.mul_one];refine List.ext_getElem? fun i=>?_;grind
def uw {w:World} {base g cap n:Nat} {e:TypeId} {c:List Value} (h:w.ownsRow base e 1 (.slice (pA g) n cap) n c):base<=g/\cap<=maxLen/\Zh w g e cap n (fun i=>c.getD i (.bool false)):=by
 obtain⟨l,h⟩:=h;rcases h with ⟨h,hn⟩ | ⟨j,b,a,f,d,hb,hn,hm,k,m⟩
 ·simp_all
 injection f with e1 e2 e3;injection e1 with e1;injection e1 with e1;subst e1;subst e3;refine⟨d,hm,a,hb,lI,hn,fun i hi=>?_⟩;grind
end Go.Proofs.YtjlfcbccpcigeacGreatDoor
namespace Go.Proofs.YtjlfcbccpcigeacGreatDoor
set_option linter.unusedVariables false
variable {P:Program} {ops:Array Oper} {Q:Exit->Act->World->Prop} {md:Region.Mode} {S:World->Prop} {z:Nat}
def YX (P:Program) (md:Region.Mode) (ops:Array Oper) (Q:Exit->Act->World->Prop) (S:World->Prop) (z:Nat):Nat->Array Bool->Act->World->Prop
 | 0,gV,a,w=>Region.ready md ops gV=[]/\Q .normal a w
 | fuel+1,gV,a,w =>
   (Region.ready md ops gV=[]->Q .normal a w) /\
   ∀i∈Region.ready md ops gV,wpOp P ops Q i (fun a' w'=>(i=z\/S w')/\YX P md ops Q S z fuel (gV.setIfInBounds i true) a' w') a w
def U1:∀(b:Nat) (c:Array Bool) (a:Act) (w:World),YX P md ops Q S z b c a w->wpAny P md ops Q b c a w
 | 0,_,_,_,h=>h
 | b+1,_,_,_,h=>⟨h.1,fun i hi=>wpOp_mono (fun a' w' k=>U1 b _ a' w' k.2) (h.2 i hi)⟩
def VV (md:Region.Mode) (ops:Array Oper) (z i:Nat):Bool:=match ops[z]? with
 | some o=>o.after.any fun e=>Region.binds md e && e.on == i
 | none=>true
theorem ux {i:Nat} {o:Oper} (h:VV md ops z i) (a:ops[z]?=some o):∃e∈o.after,Region.binds md e/\e.on=i:=by grind [VV]
def Ro {i:Nat} {oj:Oper} {a:Array Bool} (h0:a.getD i true=false) (hall:∀e∈oj.after,Region.binds md e->a.getD e.on false):∀e∈oj.after,Region.binds md e->e.on≠i:=rQ
def re (md:Region.Mode) (ops:Array Oper) (gV:Array Bool) (z i:Nat):Prop:=VV md ops z i=true\/∃j,VV md ops z j/\VV md ops j i/\gV.getD j true=false
def mD (md:Region.Mode) (ops:Array Oper) (gV:Array Bool) (z i:Nat):Bool:=VV md ops z i || (List.range ops.size).any fun j=>VV md ops z j && VV md ops j i && !(gV.getD j true)
def Rp {a:Array Bool} {i:Nat} (h:mD md ops a z i):re md ops a z i:=by grind [mD,re]
def uy {i j:Nat} {oj:Oper} {a:Array Bool} (c:VV md ops j i) (h0:a.getD i true=false) (b:ops[j]?=some oj) (hall:∀e∈oj.after,Region.binds md e->a.getD e.on false):False:=by grind [ux]
def Rq {i:Nat} {p:Oper} {v:Value} (hi:ops[i]?=some p) (I:∀(j:Nat) (o:Oper) r b,ops[j]?=some o->o.op≠.select r b)
  (O:∀c a w,Q (.panic c) (a.put p.dst v) w->Q (.panic c) a w):∀(d:Nat) (l:Array Bool) (a:Act) (w:World),re md ops l z i ->
   (∀j oj,ops[j]?=some oj->j≠i->l.getD j true=false->(∀e∈oj.after,Region.binds md e->e.on≠i)->p.apart ops oj) ->
   i∈Region.ready md ops l->YieldsIf P ops S p v a->S w->YX P md ops Q S z d (l.setIfInBounds i true) (a.put p.dst v) w->YX P md ops Q S z (d+1) l a w:=by
 intro d
 induction d with
 | zero =>
   intro l a w _ _ hr u hS H
   refine⟨fun h=>absurd hr (by rw [h];simp),fun j t=>?_⟩
   by_cases f:j=i
   ·subst f;exact u.wpOp hi hS ⟨.inr hS,H⟩
   ·have hm:=ready_mono t f
    rw [H.1] at hm
    cases hm
 | succ d ih =>
   intro l a w n g hr u hS H
   refine⟨fun h=>absurd hr (by rw [h];simp),fun j t=>?_⟩
   by_cases f:j=i
   ·subst f;exact u.wpOp hi hS ⟨.inr hS,H⟩
   ·obtain⟨G,oj,m,hall⟩:=mem_ready.1 t
    have x:=(mem_ready.1 hr).1
    have K:=Ro (oj:=oj) x hall
    have L:j≠z:=fun e=>by
     subst e
     rcases n with n | ⟨q,h1,y,A⟩
     ·exact uy n x m hall
     ·exact uy h1 A m hall
    have M:re md ops (l.setIfInBounds j true) z i:=by
     rcases n with n | ⟨q,h1,y,A⟩
     ·exact .inl n
     ·refine .inr ⟨q,h1,y,?_⟩
      have C:j≠q:=fun e=>by subst e;exact uy y x m hall
      rw [getD_set_ne true C];exact A
    have N:=wpOp_putIf m (g j oj m f G K) (fun r b=>I i p r b hi) (fun r b=>I j oj r b m) O u (H.2 j (ready_mono t f))
    refine wpOp_mono (fun a' w' k=>?_) N
    have F:S w':=k.2.1.resolve_left L
    refine⟨.inr F,ih _ a' w' M (fun q R C D s B=>g q R C D ?_ B) (ready_mono hr (Ne.s f)) k.1 F ?_⟩
    ·by_cases e:j=q
     ·subst e;exact G
     ·rw [getD_set_ne true e] at s;exact s
    ·rw [Array.setIfInBounds_comm _ _ f];exact k.2.2
def YK {i:Nat} {a:Oper} {rest:List Oper} (h:ops.toList.drop i=a :: rest):ops[i]?=some a:=by
 have h1:(ops.toList.drop i)[0]?=some a:=by rw [h];rfl
 grind
theorem Uo {i:Nat} {f:Oper} {rest:List Oper} {v:Value} {b:Nat} {d:Array Bool} {a:Act} {w:World} (g:ops.toList.drop i=f :: rest)
  (hs:Region.noSelect ops) (k:Region.free md ops d i) (hr:(Region.ready md ops d).contains i) (m:mD md ops d z i)
  (j:∀c a w,Q (.panic c) (a.put f.dst v) w->Q (.panic c) a w) (l:YieldsIf P ops S f v a) (hS:S w)
  (h:YX P md ops Q S z b (d.setIfInBounds i true) (a.put f.dst v) w):YX P md ops Q S z (b+1) d a w :=
 Rq (YK g) (qd hs) j b d a w (Rp m) (Region.free_spec (YK g) k) (by simpa using hr) l hS h
def gl {i:Nat} {f:Oper} {rest:List Oper} {v:Value} {b:Nat} {d:Array Bool} {a a':Act} {w:World} (k:ops.toList.drop i=f :: rest) (hS:S w)
  (h:YX P md ops Q S z b (d.setIfInBounds i true) a' w)
  (m:YieldsIf P ops S f v a:=by refine Or.inl ⟨by rfl,?_⟩;intro w hSw;(try dsimp only at hSw);go_simp;(try with_reducible rfl))
  (j:a.put f.dst v=a':=by (try simp only [Act.put,Qn,Qy,Qz]);exact rfl)
  (hs:Region.noSelect ops:=by kernel_rfl) (l:Region.free md ops d i:=by kernel_rfl) (hr:(Region.ready md ops d).contains i:=by kernel_rfl) (n:mD md ops d z i:=by kernel_rfl)
  (g:∀c a w,Q (.panic c) (a.put f.dst v) w->Q (.panic c) a w:=by exact fun _ _ _ h=>h):YX P md ops Q S z (b+1) d a w :=by grind [Uo]
def uk (i:Nat) {f:Oper} {rest:List Oper} {v:Value} {b:Nat} {d:Array Bool} {a a':Act} {w:World}
  (h:YX P md ops Q S z b (d.setIfInBounds i true) a' w) (hS:S w:=by assumption) (k:ops.toList.drop i=f :: rest:=by exact rfl)
  (m:YieldsIf P ops S f v a:=by refine Or.inl ⟨by rfl,?_⟩;intro w hSw;(try dsimp only at hSw);go_simp;(try with_reducible rfl))
  (j:a.put f.dst v=a':=by (try simp only [Act.put,Qn,Qy,Qz]);exact rfl)
  (hs:Region.noSelect ops:=by kernel_rfl) (l:Region.free md ops d i:=by kernel_rfl) (hr:(Region.ready md ops d).contains i:=by kernel_rfl) (n:mD md ops d z i:=by kernel_rfl)
  (g:∀c a w,Q (.panic c) (a.put f.dst v) w->Q (.panic c) a w:=by exact fun _ _ _ h=>h):YX P md ops Q S z (b+1) d a w :=by grind [Uo]
def aq (i:Nat) {o1 g:Oper} {r1 r2:List Oper} {k v2:Value} {b:Nat} {d:Array Bool} {a j l:Act} {w:World}
  (h:YX P md ops Q S z b ((d.setIfInBounds i true).setIfInBounds (i+1) true) l w) (hS:S w:=by assumption) (m:ops.toList.drop i=o1 :: r1:=by exact rfl) (n:ops.toList.drop (i+1)=g :: r2:=by exact rfl)
  (s:YieldsIf P ops S o1 k a:=by refine Or.inl ⟨by rfl,?_⟩;intro w hSw;(try dsimp only at hSw);go_simp;(try with_reducible rfl))
  (o:a.put o1.dst k=j:=by (try simp only [Act.put,Qn,Qy,Qz]);exact rfl)
  (t:YieldsIf P ops S g v2 j:=by refine Or.inl ⟨by rfl,?_⟩;intro w hSw;(try dsimp only at hSw);go_simp;(try with_reducible rfl))
  (p:j.put g.dst v2=l:=by (try simp only [Act.put,Qn,Qy,Qz]);exact rfl)
  (hs:Region.noSelect ops:=by kernel_rfl)
  (f:(Region.free md ops d i && (Region.ready md ops d).contains i && mD md ops d z i && (Region.free md ops (d.setIfInBounds i true) (i+1) && (Region.ready md ops (d.setIfInBounds i true)).contains (i+1) && mD md ops (d.setIfInBounds i true) z (i+1)))=true:=by kernel_rfl)
  (q:∀c a w,Q (.panic c) (a.put o1.dst k) w->Q (.panic c) a w:=by exact fun _ _ _ h=>h) (r:∀c a w,Q (.panic c) (a.put g.dst v2) w->Q (.panic c) a w:=by exact fun _ _ _ h=>h):YX P md ops Q S z (b+1+1) d a w:=by simp only [Qg] at f;exact Uo m hs f.1.1.1 f.1.1.2 f.1.2 q s hS (o ▸ Uo n hs f.2.1.1 f.2.1.2 f.2.2 r t hS (p ▸ h))
def bq {p:World->Prop} {q b:Act->World->Prop} (c:∀a w,p w->q a w->b a w) {a a':Act} {w:World} (f:p w) (h:q a' w)
  (d:a=a':=by (try simp only [Act.put,Qn,Qy,Qz]);exact rfl):b a w:=c a w f (d ▸ h)
def zb {i:Nat} {o:Oper} {rest:List Oper} {b:Nat} {d:Array Bool} {a:Act} {w:World} (l:ops.toList.drop i=o :: rest) (hr:Region.ready md ops d=[i])
  (h:∀c:Act->World->Prop,Shut (∀a w,(i=z\/S w)->YX P md ops Q S z b (d.setIfInBounds i true) a w->c a w)->if Region.wanted o (yielded ops a.tmps)=true then Oper.wp P o a w c Q else c (a.put o.dst undef) w) :
  YX P md ops Q S z (b+1) d a w :=
 ⟨fun h0=>absurd (hr ▸ h0) sM,fun j f=>by
  rw [hr] at f
  have e:j=i:=by simpa using f
  subst e
  exact wpOp_step (YK l) (fun c g=>h c (fun a w hS k=>g a w ⟨hS,k⟩))⟩
def uo (i:Nat) {o:Oper} {rest:List Oper} {b:Nat} {d:Array Bool} {a:Act} {w:World}
  (h:∀c:Act->World->Prop,Shut (∀a w,(i=z\/S w)->YX P md ops Q S z b (d.setIfInBounds i true) a w->c a w)->if Region.wanted o (yielded ops a.tmps)=true then Oper.wp P o a w c Q else c (a.put o.dst undef) w)
  (f:ops.toList.drop i=o :: rest:=by exact rfl) (hr:Region.ready md ops d=[i]:=by kernel_rfl):YX P md ops Q S z (b+1) d a w:=zb f hr h
def zj {c:Array Bool} {a:Act} {w:World} (hr:Region.ready md ops c=[]) (h:Q .normal a w):∀b,YX P md ops Q S z b c a w
 | 0=>⟨hr,h⟩
 | _+1=>⟨fun _=>h,by rw [hr];simp⟩
def zg {id:Nat} {a:Act} {w:World} (z:Nat) (S:World->Prop) (hm:P.follows .mixedOrders) (hS:S w.drew) (h:S w.drew->YX P .any ops Q S z ops.size (Array.replicate ops.size false) a w.drew):(Code.region id ops true).wp P Q a w :=
 wp_region_any hm (U1 _ _ _ _ (h hS))
def rg {id:Nat} {a:Act} {w:World} (z:Nat) (S:World->Prop) (hS:S w.drew) (h:S w.drew->YX P .any ops (NoPanic Q) S z ops.size (Array.replicate ops.size false) a w.drew) (hm:P.follows .mixedOrders:=by kernel_rfl):(Code.region id ops true).wp P Q a w:=wp_region_noPanic (zg z S hm hS h)
def rh {id:Nat} {a:Act} {w:World} (z:Nat) {R S:World->Prop} (H:∀x,R x->S x) (hR:R w.drew) (h:S w.drew->YX P .any ops (NoPanic Q) S z ops.size (Array.replicate ops.size false) a w.drew) (hm:P.follows .mixedOrders:=by kernel_rfl):(Code.region id ops true).wp P Q a w:=rg z S (H _ hR) h hm
def rd {b:Array Bool} {a:Act} {w:World} {n:Nat} (h:Q .normal a w) (hr:Region.ready md ops b=[]:=by kernel_rfl):YX P md ops (NoPanic Q) S z n b a w:=zj hr (NoPanic.normal h) n
end Go.Proofs.YtjlfcbccpcigeacGreatDoor
namespace Go.Proofs.YtjlfcbccpcigeacGreatDoor
open Go.ChangeMaps Go.MapKept
open Go.WideMaps (KeyLaw)
open Go.WideElems (Fit)
open Go.Maps (Keyed)
set_option linter.unusedVariables false
def DN {w:World} {b:Nat} {c:Array MapEntry} {a:Nat} (hb:w.heap[b]?=some (.map c a)) (o:Obj):w.grownBy (setBlock w b o) (some b) :=
 ⟨rfl,rfl,rfl,by simp [setBlock],fun i _ hi=>heap_setBlock_other hb _ (fun e=>hi (by rw [e]))⟩
section
variable {H:Type} {P:Program} {w:World} {t k e:TypeId} {b n:Nat} {D:DataW H}
def DO (K:KeyLaw P k) (m:P.underlying t=some (.map k e)) (v:P.underlying e=some (.int .i64)) (r:∀u:World,(zeroValue e).run P u=.ok (.int .i64 0) u) (h:w.ownsMap P k (plainElem P e) b n D) (hn:n<maxLen)
  {key:Value} {O:Lit} (g:keyOf P k key=some O) {c:Int} (V:(Instr.lookup t (.map (some b)) key false).run P w=.ok (.int .i64 c) w) :
  ∃ v0 st w1,(Instr.mapEntry t (.map (some b)) key).run P w=.ok (.tuple #[v0,goInt st]) w1/\w.grownBy w1 (some b)/\(Instr.lookup t (.map (some b)) key false).run P w1=.ok (.int .i64 c) w1 /\
    ∀(w2:World) (a:Int),w2.heap[b]?=w1.heap[b]?->(Lit.int .i64 a).wf->∃Q,(Instr.entryStore t (.map (some b)) (goInt st) (.int .i64 a)).run P w2=.ok () Q/\w2.grownBy Q (some b)/\Q.ownsMap P k (plainElem P e) b (n+1) (D.put O (.lit (.int .i64 a))):=by
 have q:=Keyed.of_law K
 obtain⟨i,d,hb,F,hs,M⟩:=h
 have A:w.ownsMap P k (plainElem P e) b n D:=⟨i,d,hb,F,hs,M⟩
 obtain⟨v0,st,l,f,af,aH,ag⟩:=WideElems.entry_then_store K m r hb F g
 have aK:(setBlock w b (.map l f)).heap[b]?=some (.map l f):=heap_setBlock_same hb _
 refine⟨v0,st,setBlock w b (.map l f),af,DN hb _,?_,?_⟩
 ·
  have aU:plainElem (H:=H) P e (.int .i64 0)=some (.lit (.int .i64 0),[]):=plainElem_int v tQ
  have ah:=K.find w g i.toList F.keys
  obtain⟨s1,s2,_⟩:=F.stamped
  rcases ah with ⟨h1,B⟩ | ⟨j,s,h1,B,U⟩
  ·
   have I:setBlock w b (.map l f)=setBlock w b (.map (i.push ⟨key,.int .i64 0,d⟩) (d+1)):=by
    have hr:(Instr.mapEntry t (.map (some b)) key).run P w=.ok (.tuple #[.int .i64 0,goInt d]) (setBlock w b (.map (i.push ⟨key,.int .i64 0,d⟩) (d+1))):=by
     simp [Instr.mapEntry,run_underlying m,MapKept.run_getObj_map hb,K.check w false g,h1,r,MapKept.run_setObj_map _ hb,Result.andThen,setBlock]
    grind
   have hu:(Instr.mapUpdate t (.map (some b)) key (.int .i64 0)).run P w=.ok () (setBlock w b (.map (i.push ⟨key,.int .i64 0,d⟩) (d+1))):=by
    simp [Instr.mapUpdate,run_underlying m,MapKept.run_getObj_map hb,K.check w false g,h1,MapKept.run_setObj_map _ hb,Result.andThen,setBlock]
   obtain⟨w',C,x,_⟩:=A.update q m hn g aU
   have G:=(Result.ok.inj (hu.s.t C)).2
   obtain⟨c',W,aE,_⟩:=A.lookup_int q m v (r w) g
   have ao:c=c':=(Value.int.inj (Result.ok.inj (V.s.t W)).1).2
   subst ao
   have aO:(Instr.lookup t (.map (some b)) key false).run P w=.ok (.int .i64 0) w:=by
    rcases Maps.fit_look false q m (r w) hb F g with ⟨hr,_,_⟩ | ⟨s,y,hm,hk,_⟩
    ·exact hr
    ·simp_all
   have aL:(0:Int)=c:=(Value.int.inj (Result.ok.inj (aO.s.t V)).1).2
   rw [I,G]
   have N:w'.ownsMap P k (plainElem P e) b (n+1) (D.put O (.lit (.int .i64 0))):=x
   obtain⟨c2,T,S,_⟩:=N.lookup_int q m v (r _) g
   rw [T]
   have hm:Maps.IsMap D:=by rw [M];exact⟨_,rfl⟩
   rw [ql hm (q.key g)] at S
   simp_all
  ·have hj:i[j]?=some s:=by simpa using B
   have ai:i.modify j (fun e=>{ e with key:=key })=i:=by
    apply Array.ext'
    rw [Array.toList_modify,modify_eq_set _ _ _ _ B]
    have:({ s with key:=key }:MapEntry)=s:=by rw [<-U]
    rw [this]
    exact WideElems.set_self _ _ _ B
   have I:setBlock w b (.map l f)=setBlock w b (.map i d):=by
    have hr:(Instr.mapEntry t (.map (some b)) key).run P w=.ok (.tuple #[s.val,goInt s.born]) (setBlock w b (.map i d)):=by
     simp [Instr.mapEntry,run_underlying m,MapKept.run_getObj_map hb,K.check w false g,h1,hj,U,K.stays w g,ai,MapKept.run_setObj_map _ hb,Result.andThen,setBlock]
    simp_all
   rw [I]
   have N:(setBlock w b (.map i d)).ownsMap P k (plainElem P e) b n D:=⟨i,d,heap_setBlock_same hb _,F,hs,M⟩
   obtain⟨c2,T,S,_⟩:=N.lookup_int q m v (r _) g
   obtain⟨c',W,aE,_⟩:=A.lookup_int q m v (r w) g
   simp_all
 ·intro w2 a p ha
  rw [aK] at p
  obtain⟨es',z,aQ,aR⟩:=ag w2 (.int .i64 a) p
  obtain⟨w',C,x,_⟩:=A.update q m hn g (plainElem_int v ha)
  have G:=(Result.ok.inj (aR.s.t C)).2
  refine⟨_,aQ,DN p _,?_⟩
  rw [<-G] at x
  obtain⟨L,o,R,X,aS,aJ⟩:=x
  rw [heap_setBlock_same hb] at R
  exact⟨L,o,by rw [heap_setBlock_same p];exact R,X,aS,aJ⟩
end
end Go.Proofs.YtjlfcbccpcigeacGreatDoor
namespace Go.Proofs.YtjlfcbccpcigeacGreatDoor
open Go.Proofs.Tryz Go.RowKit Go.Joins
set_option linter.unusedVariables false
set_option linter.unusedSimpArgs false
set_option maxRecDepth 8192
section
open Go.RowKit
abbrev Cp:=Calls prog
abbrev Re (w:wO) (v:vO) (e:Ending) (x:wO):Prop:=e=.returned v/\x=w
def Z {p:Prop} (h:p):Hid p:=h
def p2 (k:Nat):Int:=((2 ^ k:Nat):Int)
def Ai (k:Nat):0<p2 k:=Int.natCast_pos.2 (qh k)
def xe {k:IntKind} {a b:Int} (h:a=b):Ending.returned (.int k a)=.returned (.int k b):=by rw [h]
def Jz (s t:Int) (a:0<=t) (d:t<=200) (b:-64<=s) (hs:s<=64):-12800<=s*t/\s*t<=12800:=by have h1:=Wx hs a;have c:=Wx b a;lia
def JA (s p t l:Int) (h:0<=l) (k:l<=5) (a:0<=t) (g:t<=200) (b:-64<=s) (hs:s<=64) (i:-64<=p) (m:p<=64) :
  bits BinOp.and IntKind.i64 (wrap64 (wrap64 (s*t)+p)) (wrap64 (wrap64 (2 ^ l.toNat) - 1))=(s*t+p) % p2 l.toNat:=by
 unfold p2;have hr:=Jz s t a g b hs;have c:wrap64 (wrap64 (s*t)+p)=s*t+p:=by unfold wrap64;lia
 have f:((2:Int) ^ l.toNat)=((2 ^ l.toNat:Nat):Int):=sM
 have hb:2 ^ l.toNat<=2 ^ 5:=WP lI lI;have j:=qh l.toNat;rw [c,f];have d:wrap64 (wrap64 ((2 ^ l.toNat:Nat):Int) - 1)=((2 ^ l.toNat:Nat):Int) - 1:=by
  generalize 2 ^ l.toNat=P at *
  unfold wrap64;lia
 rw [d];exact NumMath.i64_mask _ _ lI
def JB (n lo hi:Int) (w:wO) (h1:lo<=n) (a:n<=hi) :
  Cp 229 #[J n,J lo,J hi] w (Re w (.bool true)):=by go_enter func229,ntmps229;go_wp2;go_ret;exact⟨rfl,rfl⟩
def JC (n lo hi:Int) (w:wO) (h:¬(lo<=n/\n<=hi)) :
  Cp 229 #[J n,J lo,J hi] w (Re w (.bool false)):=by
 by_cases h1:lo<=n
 ·have a:decide (n<=hi)=false:=Qk oM;clear h;go_enter func229,ntmps229;go_wp2;go_ret;exact⟨rfl,rfl⟩
 clear h;go_enter func229,ntmps229;go_wp2;go_ret;exact⟨rfl,rfl⟩
def j1 (n lo hi:Int):Bool:=decide (lo<=n/\n<=hi)
def XW (n lo hi:Int) (w:wO) :
  Cp 229 #[J n,J lo,J hi] w (Re w (.bool (j1 n lo hi))):=by
 by_cases h:lo<=n/\n<=hi
 ·rw [show j1 n lo hi=true from Qi h];exact JB n lo hi w h.1 h.2
 rw [show j1 n lo hi=false from Qk h];exact JC n lo hi w h
def iu (s p t l:Int):Int :=
 if 0<=l/\l<=5/\0<=t/\t<=200/\-64<=s/\s<=64/\-64<=p/\p<=64 then (s*t+p) % p2 l.toNat else 0
def pD (s p t l:Int) (w:wO) :
  Cp 186 #[J s,J p,J t,J l] w (Re w (J (iu s p t l))):=by
 unfold iu;by_cases a:0<=l/\l<=5
 ·have m:j1 l 0 5:=Qi a;by_cases b:0<=t/\t<=200
  ·have q:j1 t 0 200:=Qi b;by_cases hs:-64<=s/\s<=64
   ·have o:j1 s (-64) 64:=Qi hs;by_cases c:-64<=p/\p<=64
    ·have n:j1 p (-64) 64:=Qi c;obtain⟨g,i⟩:=a;obtain⟨d,ht1⟩:=b;obtain⟨f,k⟩:=hs;obtain⟨h,j⟩:=c;rw [Qf ⟨g,i,d,ht1,f,k,h,j⟩];go_enter func186,ntmps186;go_wp2_with (go_at_call 229;refine (XW _ _ _ _).m ?_;rintro e w' ⟨rfl,rfl⟩);go_ret;exact⟨xe (JA s p t l g i d ht1 f k h j),rfl⟩
    have n:j1 p (-64) 64=false:=Qk c;rw [Qe oM];clear a b hs c;go_enter func186,ntmps186;go_wp2_with (go_at_call 229;refine (XW _ _ _ _).m ?_;rintro e w' ⟨rfl,rfl⟩);go_ret;exact⟨rfl,rfl⟩
   have o:j1 s (-64) 64=false:=Qk hs;rw [Qe oM];clear a b hs;go_enter func186,ntmps186;go_wp2_with (go_at_call 229;refine (XW _ _ _ _).m ?_;rintro e w' ⟨rfl,rfl⟩);go_ret;exact⟨rfl,rfl⟩
  have q:j1 t 0 200=false:=Qk b;rw [Qe oM];clear a b;go_enter func186,ntmps186;go_wp2_with (go_at_call 229;refine (XW _ _ _ _).m ?_;rintro e w' ⟨rfl,rfl⟩);go_ret;exact⟨rfl,rfl⟩
 have m:j1 l 0 5=false:=Qk a;rw [Qe oM];clear a;go_enter func186,ntmps186;go_wp2_with (go_at_call 229;refine (XW _ _ _ _).m ?_;rintro e w' ⟨rfl,rfl⟩);go_ret;exact⟨rfl,rfl⟩
def gi (op a b:Int):Int :=
 if op=1 then wrap64 (a+b) else if op=2 then wrap64 (a - b) else if op=3 then wrap64 (a*b)
 else if op=4 then bits .and .i64 a b else if op=5 then bits .or .i64 a b else if op=6 then bits .xor .i64 a b
 else if op=7 then (if a<b then 1 else 0) else if op=8 then (if a=b then 1 else 0) else 0
def ye (op:Int):Int:=if op=3\/op=4 then 2 else if op=13 then 1 else 0
def JD (w:wO) :
  Cp 90 #[J 3] w (Re w (J (ye 3))):=by go_enter func90,ntmps90;go_wp2;go_ret;exact⟨rfl,rfl⟩
def JE (w:wO) :
  Cp 90 #[J 4] w (Re w (J (ye 4))):=by go_enter func90,ntmps90;go_wp2;go_ret;exact⟨rfl,rfl⟩
def JF (w:wO) :
  Cp 90 #[J 13] w (Re w (J (ye 13))):=by go_enter func90,ntmps90;go_wp2;go_ret;exact⟨rfl,rfl⟩
def JG (op:Int) (w:wO) (a:op≠3) (b:op≠4) (c:op≠13) :
  Cp 90 #[J op] w (Re w (J (ye op))):=by
 have d:Hid (ye op=0):=by show ye op=0;grind [ye]
 have f:(op == 3)=false:=QM.2 a;have g:(op == 4)=false:=QM.2 b;have h:(op == 13)=false:=QM.2 c;clear a b c;go_enter func90,ntmps90;go_wp2;go_ret;exact⟨xe d.s,rfl⟩
def pE (op:Int) (w:wO) :
  Cp 90 #[J op] w (Re w (J (ye op))):=by
 by_cases a:op=3
 ·subst a;exact JD w
 by_cases b:op=4
 ·subst b;exact JE w
 by_cases c:op=13
 ·subst c;exact JF w
 exact JG op w a b c
def JH (a b:Int) (w:wO) :
  Cp 209 #[J 1,J a,J b] w (Rt w (J (gi 1 a b))):=by have d:∀(c:Fn) (first cap:Array vO) (w:wO),(Instr.makeFunc c first cap).run prog w=.ok (.func c first cap) w:=fun _ _ _ _=>rfl;go_enter func209,ntmps209;go_wp2;go_ret;exact⟨rfl,by repeat (first | exact QA _ _ | apply Eb | refine Q6 ?_ (Qc _) _ | refine Q6 ?_ sM _)⟩
def JI (a b:Int) (w:wO) :
  Cp 209 #[J 2,J a,J b] w (Rt w (J (gi 2 a b))):=by have d:∀(c:Fn) (first cap:Array vO) (w:wO),(Instr.makeFunc c first cap).run prog w=.ok (.func c first cap) w:=fun _ _ _ _=>rfl;go_enter func209,ntmps209;go_wp2;go_ret;exact⟨rfl,by repeat (first | exact QA _ _ | apply Eb | refine Q6 ?_ (Qc _) _ | refine Q6 ?_ sM _)⟩
def JJ (a b:Int) (w:wO) :
  Cp 209 #[J 3,J a,J b] w (Rt w (J (gi 3 a b))):=by have d:∀(c:Fn) (first cap:Array vO) (w:wO),(Instr.makeFunc c first cap).run prog w=.ok (.func c first cap) w:=fun _ _ _ _=>rfl;go_enter func209,ntmps209;go_wp2;go_ret;exact⟨rfl,by repeat (first | exact QA _ _ | apply Eb | refine Q6 ?_ (Qc _) _ | refine Q6 ?_ sM _)⟩
def JK (a b:Int) (w:wO) :
  Cp 209 #[J 4,J a,J b] w (Rt w (J (gi 4 a b))):=by have d:∀(c:Fn) (first cap:Array vO) (w:wO),(Instr.makeFunc c first cap).run prog w=.ok (.func c first cap) w:=fun _ _ _ _=>rfl;go_enter func209,ntmps209;go_wp2;go_ret;exact⟨rfl,by repeat (first | exact QA _ _ | apply Eb | refine Q6 ?_ (Qc _) _ | refine Q6 ?_ sM _)⟩
def JL (a b:Int) (w:wO) :
  Cp 209 #[J 5,J a,J b] w (Rt w (J (gi 5 a b))):=by have d:∀(c:Fn) (first cap:Array vO) (w:wO),(Instr.makeFunc c first cap).run prog w=.ok (.func c first cap) w:=fun _ _ _ _=>rfl;go_enter func209,ntmps209;go_wp2;go_ret;exact⟨rfl,by repeat (first | exact QA _ _ | apply Eb | refine Q6 ?_ (Qc _) _ | refine Q6 ?_ sM _)⟩
def JM (a b:Int) (w:wO) :
  Cp 209 #[J 6,J a,J b] w (Rt w (J (gi 6 a b))):=by have d:∀(c:Fn) (first cap:Array vO) (w:wO),(Instr.makeFunc c first cap).run prog w=.ok (.func c first cap) w:=fun _ _ _ _=>rfl;go_enter func209,ntmps209;go_wp2;go_ret;exact⟨rfl,by repeat (first | exact QA _ _ | apply Eb | refine Q6 ?_ (Qc _) _ | refine Q6 ?_ sM _)⟩
def JN (a b:Int) (w:wO) (h:a<b) :
  Cp 209 #[J 7,J a,J b] w (Rt w (J (gi 7 a b))):=by have d:∀(c:Fn) (first cap:Array vO) (w:wO),(Instr.makeFunc c first cap).run prog w=.ok (.func c first cap) w:=fun _ _ _ _=>rfl;go_enter func209,ntmps209;go_wp2;go_ret;exact⟨xe (by simp [gi,h]),by repeat (first | exact QA _ _ | apply Eb | refine Q6 ?_ (Qc _) _ | refine Q6 ?_ sM _)⟩
def JO (a b:Int) (w:wO) (h:b<a) :
  Cp 209 #[J 7,J a,J b] w (Rt w (J (gi 7 a b))):=by have d:∀(c:Fn) (first cap:Array vO) (w:wO),(Instr.makeFunc c first cap).run prog w=.ok (.func c first cap) w:=fun _ _ _ _=>rfl;go_enter func209,ntmps209;go_wp2;go_ret;exact⟨xe (by grind [gi]),by repeat (first | exact QA _ _ | apply Eb | refine Q6 ?_ (Qc _) _ | refine Q6 ?_ sM _)⟩
def JP (a b:Int) (w:wO) (h:a=b) :
  Cp 209 #[J 7,J a,J b] w (Rt w (J (gi 7 a b))):=by subst h;have d:∀(c:Fn) (first cap:Array vO) (w:wO),(Instr.makeFunc c first cap).run prog w=.ok (.func c first cap) w:=fun _ _ _ _=>rfl;go_enter func209,ntmps209;go_wp2;go_ret;exact⟨xe (by simp [gi]),by repeat (first | exact QA _ _ | apply Eb | refine Q6 ?_ (Qc _) _ | refine Q6 ?_ sM _)⟩
def JQ (a b:Int) (w:wO) (h:a<b) :
  Cp 209 #[J 8,J a,J b] w (Rt w (J (gi 8 a b))):=by have d:∀(c:Fn) (first cap:Array vO) (w:wO),(Instr.makeFunc c first cap).run prog w=.ok (.func c first cap) w:=fun _ _ _ _=>rfl;go_enter func209,ntmps209;go_wp2;go_ret;exact⟨xe (by grind [gi]),by repeat (first | exact QA _ _ | apply Eb | refine Q6 ?_ (Qc _) _ | refine Q6 ?_ sM _)⟩
def JR (a b:Int) (w:wO) (h:b<a) :
  Cp 209 #[J 8,J a,J b] w (Rt w (J (gi 8 a b))):=by have d:∀(c:Fn) (first cap:Array vO) (w:wO),(Instr.makeFunc c first cap).run prog w=.ok (.func c first cap) w:=fun _ _ _ _=>rfl;go_enter func209,ntmps209;go_wp2;go_ret;exact⟨xe (by grind [gi]),by repeat (first | exact QA _ _ | apply Eb | refine Q6 ?_ (Qc _) _ | refine Q6 ?_ sM _)⟩
def JS (a b:Int) (w:wO) (h:a=b) :
  Cp 209 #[J 8,J a,J b] w (Rt w (J (gi 8 a b))):=by subst h;have d:∀(c:Fn) (first cap:Array vO) (w:wO),(Instr.makeFunc c first cap).run prog w=.ok (.func c first cap) w:=fun _ _ _ _=>rfl;go_enter func209,ntmps209;go_wp2;go_ret;exact⟨xe (by simp [gi]),by repeat (first | exact QA _ _ | apply Eb | refine Q6 ?_ (Qc _) _ | refine Q6 ?_ sM _)⟩
def JU (op a b:Int) (w:wO) (h:op<1\/8<op) :
  Cp 209 #[J op,J a,J b] w (Rt w (J (gi op a b))):=by
 have d:Hid (gi op a b=0):=by show gi op a b=0;grind [gi]
 have n1:(op == 1)=false:=QM.2 oM;have n2:(op == 2)=false:=QM.2 oM;have g:(op == 3)=false:=QM.2 oM;have i:(op == 4)=false:=QM.2 oM;have j:(op == 5)=false:=QM.2 oM;have k:(op == 6)=false:=QM.2 oM;have l:(op == 7)=false:=QM.2 oM;have m:(op == 8)=false:=QM.2 oM;have f:∀(c:Fn) (first cap:Array vO) (w:wO),(Instr.makeFunc c first cap).run prog w=.ok (.func c first cap) w:=fun _ _ _ _=>rfl;clear h;go_enter func209,ntmps209;go_wp2;go_ret;exact⟨xe d.s,by repeat (first | exact QA _ _ | apply Eb | refine Q6 ?_ (Qc _) _ | refine Q6 ?_ sM _)⟩
def Aj (op a b:Int) (w:wO) :
  Cp 209 #[J op,J a,J b] w (Rt w (J (gi op a b))):=by
 by_cases h:op<1\/8<op
 ·exact JU op a b w h
 obtain rfl | rfl | rfl | rfl | rfl | rfl | rfl | rfl:op=1\/op=2\/op=3\/op=4\/op=5\/op=6\/op=7\/op=8:=lI
 ·exact JH a b w
 ·exact JI a b w
 ·exact JJ a b w
 ·exact JK a b w
 ·exact JL a b w
 ·exact JM a b w
 ·obtain h1 | h1 | h1:a<b\/b<a\/a=b:=lI
  ·exact JN a b w h1
  ·exact JO a b w h1
  exact JP a b w h1
 obtain h1 | h1 | h1:a<b\/b<a\/a=b:=lI
 ·exact JQ a b w h1
 ·exact JR a b w h1
 exact JS a b w h1
end
section
open Go.RowKit
variable {p:Nat->Bool} {n k i j t fr to bk:Nat} {pc r v x y m xa xb ya yb ar sp pl nn now R:Int} {B M:List Li} {L:Lp} {s:St} {f:Nat->Int}
structure Tg where
 u0:Int
 u1:Int
 u2:Int
 w0:Int
 w1:Int
 w2:Int
 r:Int
abbrev tV (t:Tg):vO:=tv t.u0 t.u1 t.u2 t.w0 t.w1 t.w2 t.r
abbrev tO (t:Tg):Obj:=tB t.u0 t.u1 t.u2 t.w0 t.w1 t.w2 t.r
def Um (u w:Int):Bool:=br u 1 4 && br w 1 6
def zS (t:Tg):Bool:=Um t.u0 t.w0 && Um t.u1 t.w1 && Um t.u2 t.w2 && br t.r 1 128
def yf (t:Tg) (c:Int):Int:=if c=0 then t.u0 else if c=1 then t.u1 else t.u2
def Xb (t:Tg) (c:Int):Int:=if c=0 then t.w0 else if c=1 then t.w1 else t.w2
def yj (t:Tg) (op:Int):Int:=if zS t=true then Xb t (ye op) else 0
def VA (op:Int):ye op=0\/ye op=1\/ye op=2:=by unfold ye;lia
def yG {u w:Int} (h:Um u w):1<=u/\u<=4/\1<=w/\w<=6:=by grind [Um,zH]
def yi {t:Tg} (h:zS t):Um t.u0 t.w0/\Um t.u1 t.w1/\Um t.u2 t.w2/\1<=t.r/\t.r<=128:=by grind [zS,zH]
structure Ed where
 fr:Int
 to:Int
 bk:Int
 wt:Int
def jz (p:Nat->Bool):Nat->Bool
 | 0=>false
 | k+1=>jz p k || p k
def ZX (a:k<n) (h:p k):jz p n:=by induction n <;> grind [jz]
def Gd (h:jz p k=false) (a:p k=false):jz p (k+1)=false:=by grind [jz]
theorem nk:jz p n=true↔∃k,k<n/\p k:=by
 induction n with
 | zero=>exact⟨fun h=>Bool.noConfusion h,fun ⟨k,h,_⟩=>absurd h (Qv _)⟩
 | succ n ih =>
  grind [jz]
def rN (a b:St) (back size:Nat) (turn:Nat):Bool:=decide ((a.sp*turn+a.pl) % size=(b.sp*((turn:Int)+back)+b.pl) % size)
def Zc (a b:St) (back size:Nat):Bool:=jz (rN a b back size) size
def Xh (s:St):Bool:=decide (s.o=3) || decide (s.o=4)
def jA (a b:St):Bool:=Xh a && Xh b && decide (a.ar=b.ar) && (decide (a.o=4) || decide (b.o=4))
def zu (s:St):List (Int × Int):=if s.o=4 then [(s.xa,s.xb)] else if 10<s.o then [(s.xa,s.xb),(s.ya,s.yb)] else []
def zO (l:List (Int × Int)) (i:Nat):Int × Int:=l.getD i (0,0)
def oU (l:List (Int × Int)) (fr bk:Int) (i:Nat):Bool:=decide ((zO l i).1=fr) && decide ((zO l i).2=bk)
def oV (s:St) (fr bk:Int):Bool:=jz (oU (zu s) fr bk) (zu s).length
def XU (a:St):Int:=if a.o=4 then 1 else 0
def Y7 (fr to:Nat):Nat:=if to<=fr then 1 else 0
def YZ (a b:St) (lo back size:Nat):Bool:=decide (lo<=back) && decide (back<=size) && Zc a b back size && zF (fun i=>decide (i<lo) || !Zc a b i size) back
def Yu (L:Lp) (s:St):Nat:=2 ^ (ak L.l s.ar.toNat).toNat
def jr (L:Lp) (t:Tg) (fr to bk wt:Nat):Bool :=
 (oV (zc L.b to) fr bk && decide ((wt:Int)=yj t (zc L.b fr).o)) ||
  (jA (zc L.b fr) (zc L.b to) && decide ((wt:Int)=XU (zc L.b fr)) && YZ (zc L.b fr) (zc L.b to) (Y7 fr to) bk (Yu L (zc L.b fr)))
def jB (L:Lp) (t:Tg) (fr to bk:Nat):Nat->List Ed
 | 0=>[]
 | k+1=>if jr L t fr to bk k=true then jB L t fr to bk k++[⟨fr,to,bk,k⟩] else jB L t fr to bk k
def jG (L:Lp) (t:Tg) (fr to:Nat):Nat->List Ed
 | 0=>[]
 | k+1=>jG L t fr to k++jB L t fr to k 7
def jW (L:Lp) (t:Tg) (fr:Nat):Nat->List Ed
 | 0=>[]
 | k+1=>jW L t fr k++jG L t fr k 33
def jX (L:Lp) (t:Tg):Nat->List Ed
 | 0=>[]
 | k+1=>jX L t k++jW L t k L.b.length
def zf (L:Lp) (t:Tg):List Ed:=jX L t L.b.length
def Ge (L:Lp) (t:Tg) (fr to bk k:Nat):(jB L t fr to bk k).length<=k:=by
 induction k with
 | zero=>exact Qc _
 | succ k ih =>
  grind [jB]
def Gf (L:Lp) (t:Tg) (fr to k:Nat):(jG L t fr to k).length<=k*7:=by
 induction k with
 | zero=>exact Qc _
 | succ k ih =>show (jG L t fr to k++jB L t fr to k 7).length<=(k+1)*7;have:=Ge L t fr to k 7;rw [Qt];lia
def Gg (L:Lp) (t:Tg) (fr k:Nat):(jW L t fr k).length<=k*231:=by
 induction k with
 | zero=>exact Qc _
 | succ k ih =>show (jW L t fr k++jG L t fr k 33).length<=(k+1)*231;have:=Gf L t fr k 33;rw [Qt];lia
def Gh (L:Lp) (t:Tg) (k:Nat) (hn:L.b.length<=16):(jX L t k).length<=k*3696:=by
 induction k with
 | zero=>exact Qc _
 | succ k ih =>show (jX L t k++jW L t k L.b.length).length<=(k+1)*3696;have:=Gg L t k L.b.length;rw [Qt];lia
structure bt where
 sl:Int
 sg:Int
 o:Int
 d:Int
 a:Int
 b:Int
 ar:Int
 sp:Int
 pl:Int
 nn:Int
def bt.nil:bt:=⟨0,0,0,0,0,0,0,0,0,0⟩
structure Kn where
 pc:Int
 st:Int
 ops:List bt
def zv (l:List bt) (i:Nat):bt:=l.getD i bt.nil
def Xg (op:Int):Int:=if op=4 then 1 else if 10<op then 2 else 0
def nu (logs:Li) (x:bt):Lp:=⟨logs,[⟨2,0,0,0,0,0,0,0,0⟩,⟨x.o,0,0,0,0,x.ar,x.sp,x.pl,x.nn⟩],[]⟩
def xL (pc st:Int) (x:bt):Bool:=br x.sl 0 (pc - 1) && br x.sg 0 (st - 1) && decide (x.sg*pc+x.sl<=1000)
def UZ (r:Int) (x:bt):Bool:=br x.d 0 (r - 1) && br x.a 0 (r - 1) && br x.b 0 (r - 1) && (decide (1<=Xg x.o) || decide (x.a=0)) && (decide (2<=Xg x.o) || decide (x.b=0))
def ky (r pc st:Int) (logs:Li) (x:bt):Bool:=xL pc st x && UZ r x && zQ (nu logs x)
def cnt (p:Nat->Bool):Nat->Nat
 | 0=>0
 | n+1=>cnt p n+(if p n=true then 1 else 0)
def U5 (p:Nat->Bool) (n:Nat):cnt p n<=n:=by
 induction n with
 | zero=>exact Qc _
 | succ n ih =>show cnt p n+(if p n=true then 1 else 0)<=n+1;split <;> lia
def kO (l:List bt) (i j:Nat):Bool:=decide ((zv l j).sl=(zv l i).sl) && decide (ye (zv l j).o=ye (zv l i).o)
def mJ (l:List bt) (i:Nat):Nat:=cnt (kO l i) l.length
def X7 (t:Tg) (K:Kn) (logs:Li):Bool :=
 zS t && br K.pc 1 200 && br K.st 1 1001 && br K.ops.length 1 16 && zF (fun i=>ky t.r K.pc K.st logs (zv K.ops i) && decide ((mJ K.ops i:Int)<=yf t (ye (zv K.ops i).o))) K.ops.length
def Gi {st:Int} {x:bt} (h1:¬x.sl<0) (a:¬pc<=x.sl) (b:¬x.sg<0) (c:¬st<=x.sg) (d:¬1000<x.sg*pc+x.sl):xL pc st x:=by grind [xL,yh]
def Gj {x:bt} (h1:¬x.d<0) (c:¬r<=x.d) (f:¬x.a<0) (g:¬x.b<0) (h:¬r<=x.a) (i:¬r<=x.b) (j:1<=Xg x.o\/x.a=0) (k:2<=Xg x.o\/x.b=0):UZ r x:=by grind [UZ,yh]
structure Sq where
 mem:Nat->Nat->Int
 val:Nat->Nat->Int
def Zs (f:Nat->Nat->Int) (i j:Nat) (v:Int):Nat->Nat->Int:=fun a b=>if a=i/\b=j then v else f a b
def Gk (f:Nat->Nat->Int) (i j:Nat) (v:Int):Zs f i j v i j=v:=Qf ⟨rfl,rfl⟩
theorem rO (f:Nat->Nat->Int) (i j a b:Nat) (v:Int) (h:a≠i):Zs f i j v a b=f a b:=Qe fun e=>h e.1
theorem Gl (f:Nat->Nat->Int) (i j a b:Nat) (v:Int) (h:b≠j):Zs f i j v a b=f a b:=Qe fun e=>h e.2
theorem vK (f:Nat->Nat->Int) (i j b:Nat) (v:Int):Zs f i j v i b=if b=j then v else f i b:=by unfold Zs;lia
def jN (B:List Li) (val:Nat->Nat->Int) (t:Nat) (x y:Int):Int :=
 if y<=t then val ((t:Int) - y).toNat x.toNat else ak (zB B x.toNat) (y - t - 1).toNat
def Vs (L:Lp) (t:Nat) (x:St):Nat:=(iu x.sp x.pl t (ak L.l x.ar.toNat)).toNat
def oW (L:Lp) (B:List Li) (t:Nat) (s:Sq) (x:St):Int :=
 if x.o=1 then x.nn else if x.o=2 then (t:Int) else if x.o=3 then s.mem x.ar.toNat (Vs L t x) else if x.o=4 then jN B s.val t x.xa x.xb
 else gi (x.o - 10) (jN B s.val t x.xa x.xb) (jN B s.val t x.ya x.yb)
def Yg (L:Lp) (B:List Li) (t:Nat) (s:Sq) (k:Nat):Sq :=
 ⟨if (zc L.b k).o=4 then Zs s.mem (zc L.b k).ar.toNat (Vs L t (zc L.b k)) (oW L B t s (zc L.b k)) else s.mem,Zs s.val t k (oW L B t s (zc L.b k))⟩
def kP (L:Lp) (B:List Li) (t:Nat):Nat->Sq->Sq
 | 0,s=>s
 | k+1,s=>Yg L B t (kP L B t k s) k
def kA (L:Lp) (B:List Li):Nat->Sq->Sq
 | 0,s=>s
 | t+1,s=>kP L B t L.b.length (kA L B t s)
def XO (M:List Li):Sq:=⟨fun i j=>ak (zB M i) j,fun _ _=>0⟩
def Zg (L:Lp) (B:List Li) (gD:Nat) (s:Sq):Li :=
 L.o.map fun o=>if gD=0 then ak (zB B o.toNat) 0 else s.val (gD - 1) o.toNat
def vL (M:List Li) (s:Sq):List Li:=(List.range M.length).map fun i=>(List.range (zB M i).length).map fun j=>s.mem i j
def bB (x:Int):Prop:=-9223372036854775808<=x/\x<=9223372036854775807
def cn (L:Lp):Prop:=∀k,bB (zc L.b k).nn
def Y6 (B:List Li):Prop:=∀i j,bB (ak (zB B i) j)
def Sq.fine (s:Sq):Prop:=(∀i j,bB (s.mem i j))/\∀t k,bB (s.val t k)
def rP (x:Int):bB (wrap64 x):=by unfold bB wrap64;lia
def yY {p:Prop} [Decidable p] {a b:Int} (c:bB a) (hb:bB b):bB (if p then a else b):=rQ
def rR (op:BinOp) (a b:Int):bB (bits op .i64 a b):=bounds_i64 (wf_bits op .i64 a b)
theorem kC:bB 0:=by unfold bB;lia
def vN:bB 1:=by unfold bB;lia
def vQ (o a b:Int):bB (gi o a b):=by unfold gi;refine yY (rP _) (yY (rP _) (yY (rP _) (yY (rR _ _ _) (yY (rR _ _ _) (yY (rR _ _ _) (yY (yY vN kC) (yY (yY vN kC) kC)))))))
def vS {f:Nat->Nat->Int} (c:∀a b,bB (f a b)) (d:bB v):∀a b,bB (Zs f i j v a b):=fun a b=>yY d (c a b)
def Gm {val:Nat->Nat->Int} (hB:Y6 B) (c:∀a b,bB (val a b)):bB (jN B val t x y):=yY (c _ _) (hB _ _)
def vV {s:Sq} (a:cn L) (hB:Y6 B) (c:t<=200) (hs:s.fine):bB (oW L B t s (zc L.b k)) :=
 yY (a k) (yY (by unfold bB;lia) (yY (hs.1 _ _) (yY (Gm hB hs.2) (vQ _ _ _))))
theorem Gn {s:Sq} (a:cn L) (hB:Y6 B) (c:t<=200) (hs:s.fine):(Yg L B t s k).fine:=by
 refine⟨?_,vS hs.2 (vV a hB c hs)⟩;show ∀i j,bB ((if (zc L.b k).o=4 then _ else s.mem) i j);split
 ·exact vS hs.1 (vV a hB c hs)
 exact hs.1
theorem Gp {s:Sq} (a:cn L) (hB:Y6 B) (b:t<=200) (hs:s.fine):(kP L B t k s).fine:=by induction k <;> grind [kP,Gn]
def vW {s:Sq} (a:cn L) (hB:Y6 B) (b:t<=200) (hs:s.fine):(kA L B t s).fine:=by induction t <;> grind [kA,Gp]
def vX (a:Y6 M):(XO M).fine:=⟨fun i j=>a i j,fun _ _=>kC⟩
def oX (s p t l:Int):0<=iu s p t l/\iu s p t l<p2 l.toNat:=by
 have a:=Ai l.toNat;unfold iu;split
 ·exact⟨QS _ lI,QP _ a⟩
 lia
def vY (L:Lp) (t:Nat) (x:St):Vs L t x<2 ^ (ak L.l x.ar.toNat).toNat:=by have h:=oX x.sp x.pl t (ak L.l x.ar.toNat);unfold p2 at h;unfold Vs;lia
def vZ (L:Lp) (t:Nat) (x:St):iu x.sp x.pl t (ak L.l x.ar.toNat)=(Vs L t x:Int):=by have h:=oX x.sp x.pl t (ak L.l x.ar.toNat);unfold Vs;lia
def rS {n k:Int} (h:xj n k x y) (a:k<=n):0<=x/\x<n/\0<=y/\y<=3:=by grind [xj,zH]
def rT {n k:Int} (h:yW m n k s):s.o=1\/s.o=2\/(s.o=3/\0<=s.ar/\s.ar<m)\/(s.o=4/\0<=s.ar/\s.ar<m/\xj n k s.xa s.xb) \/
  (11<=s.o/\s.o<=18/\xj n k s.xa s.xb/\xj n k s.ya s.yb):=by
 unfold yW at h;by_cases o1:s.o=1
 ·exact .inl o1
 rw [Qe o1] at h;by_cases a:s.o=2
 ·lia
 rw [Qe a] at h;by_cases b:s.o=3
 ·grind [Zp,zH]
 grind [Zp,zH]
def Gq {s:Sq} (h:zc L.b k=⟨1,xa,xb,ya,yb,ar,sp,pl,nn⟩):Yg L B t s k=⟨s.mem,Zs s.val t k nn⟩:=by unfold Yg;rw [h];rfl
def Gr {s:Sq} (h:zc L.b k=⟨2,xa,xb,ya,yb,ar,sp,pl,nn⟩):Yg L B t s k=⟨s.mem,Zs s.val t k (t:Int)⟩:=by unfold Yg;rw [h];rfl
def Gs {s:Sq} (h:zc L.b k=⟨3,xa,xb,ya,yb,ar,sp,pl,nn⟩) :
  Yg L B t s k=⟨s.mem,Zs s.val t k (s.mem ar.toNat (Vs L t ⟨3,xa,xb,ya,yb,ar,sp,pl,nn⟩))⟩:=by unfold Yg;rw [h];rfl
def Gt {s:Sq} (h:zc L.b k=⟨4,xa,xb,ya,yb,ar,sp,pl,nn⟩) :
  Yg L B t s k=⟨Zs s.mem ar.toNat (Vs L t ⟨4,xa,xb,ya,yb,ar,sp,pl,nn⟩) (jN B s.val t xa xb),Zs s.val t k (jN B s.val t xa xb)⟩:=by unfold Yg;rw [h];rfl
def Gu {s:Sq} {o:Int} (h:zc L.b k=⟨o,xa,xb,ya,yb,ar,sp,pl,nn⟩) (a:11<=o) :
  Yg L B t s k=⟨s.mem,Zs s.val t k (gi (o - 10) (jN B s.val t xa xb) (jN B s.val t ya yb))⟩:=by grind [Yg,oW]
def U8 (h:xP L B M):zQ L/\B.length=L.b.length/\M.length=L.l.length/\(∀i,i<B.length->(zB B i).length=3) /\
  (∀i,i<M.length->(zB M i).length=2 ^ (ak L.l i).toNat):=by grind [xP,zq]
def v6 (hm:zQ L) (c:M.length=L.l.length) (hr:∀i,i<M.length->(zB M i).length=2 ^ (ak L.l i).toNat):∀i,i<M.length->0<(zB M i).length/\(zB M i).length<=32:=by intro i hi;obtain⟨-,-,-,-,a,-,-⟩:=zy hm;have h:=zH.1 (zq a i lI);rw [hr i hi];refine⟨qh _,?_⟩;have b:2 ^ (ak L.l i).toNat<=2 ^ 5:=WP lI lI;lia
structure Du where
 at_:Int
 rg:Int
 v:Int
def Du.nil:Du:=⟨0,0,0⟩
def xO (l:List Du) (i:Nat):Du:=l.getD i Du.nil
def VM (f:Nat->Int) (i:Nat) (v:Int):Nat->Int:=fun a=>if a=i then v else f a
def ZA (now:Int) (due:List Du) (f:Nat->Int):Nat->Nat->Int
 | 0=>f
 | k+1=>if (xO due k).at_=now then VM (ZA now due f k) (xO due k).rg.toNat (xO due k).v else ZA now due f k
def xx (now:Int) (due:List Du):Nat->List Du
 | 0=>[]
 | k+1=>if (xO due k).at_=now then xx now due k else xx now due k++[xO due k]
def oY (f:Nat->Int) (R n p:Int):Int:=f ((n+p) % R).toNat
def Ux (pc gD now:Int) (x:bt):Bool:=decide (x.sl=now % pc) && decide (0<=now / pc - x.sg) && decide (now / pc - x.sg<gD)
def XY (logs:Li) (pc now:Int) (x:bt):Nat:=(iu x.sp x.pl (now / pc - x.sg) (ak logs x.ar.toNat)).toNat
def kD (logs:Li) (R pc now:Int) (f:Nat->Int) (m:Nat->Nat->Int) (x:bt):Int :=
 if x.o=1 then x.nn else if x.o=2 then now / pc - x.sg else if x.o=3 then m x.ar.toNat (XY logs pc now x) else if x.o=4 then oY f R x.a (now / pc)
 else gi (x.o - 10) (oY f R x.a (now / pc)) (oY f R x.b (now / pc))
structure Nx where
 nx:Nat->Nat->Int
 du:List Du
def jk (t:Tg) (logs:Li) (pc gD now:Int) (f:Nat->Int) (m:Nat->Nat->Int) (q:Nx) (x:bt):Nx :=
 if Ux pc gD now x=true then
  ⟨if x.o=4 then Zs q.nx x.ar.toNat (XY logs pc now x) (kD logs t.r pc now f m x) else q.nx,q.du++[⟨now+Xb t (ye x.o),(x.d+now / pc) % t.r,kD logs t.r pc now f m x⟩]⟩
 else q
def VJ (t:Tg) (K:Kn) (logs:Li) (gD now:Int) (f:Nat->Int) (m:Nat->Nat->Int) (q:Nx):Nat->Nx
 | 0=>q
 | k+1=>jk t logs K.pc gD now f m (VJ t K logs gD now f m q k) (zv K.ops k)
structure i' where
 f:Nat->Int
 m:Nat->Nat->Int
 due:List Du
def VH (K:Kn) (gD:Int):Int:=(gD+K.st - 1)*K.pc
def kE (t:Tg) (K:Kn) (logs:Li) (gD now:Int) (s:i'):i' :=
 if VH K gD<=now then ⟨ZA now s.due s.f s.due.length,s.m,xx now s.due s.due.length⟩
 else
  ⟨ZA now s.due s.f s.due.length,
   (VJ t K logs gD now (ZA now s.due s.f s.due.length) s.m ⟨s.m,xx now s.due s.due.length⟩ K.ops.length).nx,
   (VJ t K logs gD now (ZA now s.due s.f s.due.length) s.m ⟨s.m,xx now s.due s.due.length⟩ K.ops.length).du⟩
def ym (t:Tg) (K:Kn) (logs:Li) (gD:Int) (s:i'):Nat->i'
 | 0=>s
 | n+1=>kE t K logs gD n (ym t K logs gD s n)
def lG (R:Li) (M:List Li):i':=⟨fun i=>ak R i,fun i j=>ak (zB M i) j,[]⟩
def UW (t:Tg) (K:Kn) (logs:Li) (gD:Int) (R:Li) (M:List Li):i':=if gD=0 then lG R M else ym t K logs gD (lG R M) (VH K gD+7).toNat
def nw (n:Nat) (s:i'):Li:=(List.range n).map s.f
def rU (M:List Li) (s:i'):List Li:=(List.range M.length).map fun i=>(List.range (zB M i).length).map fun j=>s.m i j
theorem v7 (now:Int) (due:List Du) (k:Nat):(xx now due k).length<=k:=by
 induction k with
 | zero=>exact Qc _
 | succ k ih =>
  grind [xx]
theorem Gv (t:Tg) (K:Kn) (logs:Li) (gD now:Int) (f:Nat->Int) (m:Nat->Nat->Int) (q:Nx) (k:Nat):(VJ t K logs gD now f m q k).du.length<=q.du.length+k:=by
 induction k with
 | zero=>exact Qc _
 | succ k ih =>
  grind [jk,VJ]
def Gw (t:Tg) (K:Kn) (logs:Li) (gD now:Int) (s:i'):(kE t K logs gD now s).due.length<=s.due.length+K.ops.length:=by grind [kE,v7,Gv]
def Gx (t:Tg) (K:Kn) (logs:Li) (gD:Int) (s:i') (n:Nat):(ym t K logs gD s n).due.length<=s.due.length+n*K.ops.length:=by
 induction n with
 | zero=>exact Nat.le_add_right _ _
 | succ n ih =>have h:=Gw t K logs gD n (ym t K logs gD s n);show (kE t K logs gD n (ym t K logs gD s n)).due.length<=_;rw [Eo];lia
structure i'.fine (R:Int) (s:i'):Prop where
 f:∀i,bB (s.f i)
 m:∀i j,bB (s.m i j)
 due:∀d∈s.due,0<=d.rg/\d.rg<R/\bB d.v
theorem Gy (b:∀a,bB (f a)) (c:bB v):∀a,bB (VM f i v a):=fun a=>yY c (b a)
theorem rV {l:List Du} (h:i<l.length):xO l i∈l:=by grind [xO]
def Gz {due:List Du} (a:∀i,bB (f i)) (b:∀d∈due,0<=d.rg/\d.rg<R/\bB d.v):∀k,k<=due.length->∀i,bB (ZA now due f k i):=by
 intro k;induction k with
 | zero=>exact fun _=>a
 | succ k ih =>
  intro c i;show bB ((if (xO due k).at_=now then VM (ZA now due f k) (xO due k).rg.toNat (xO due k).v else ZA now due f k) i);grind [Gy,rV]
def wc {due:List Du} {p:Du->Prop} (a:∀d∈due,p d):∀k,k<=due.length->∀d∈xx now due k,p d:=by
 intro k;induction k with
 | zero=>exact fun _ d h=>absurd h (by show ¬d∈[];simp)
 | succ k ih =>
  grind [xx,rV]
def GD {logs:Li} {m:Nat->Nat->Int} {x:bt} (a:∀i,bB (f i)) (hm:∀i j,bB (m i j)) (hn:bB x.nn) (b:bB (now / pc - x.sg)):bB (kD logs R pc now f m x) :=
 yY hn (yY b (yY (hm _ _) (yY (a _) (vQ _ _ _))))
def xc (op:Int):Int:=if op=4 then 1 else if br op 11 18=true then 2 else 0
def US (op:Int):(op=4/\xc op=1)\/(op≠4/\br op 11 18/\xc op=2)\/(op≠4/\br op 11 18=false/\xc op=0):=by grind [xc]
def XL (r:Int) (x:bt):Bool:=br x.d 0 (r - 1) && br x.a 0 (if 0<xc x.o then r - 1 else 0) && br x.b 0 (if 1<xc x.o then r - 1 else 0)
def jH (x:bt):St:=⟨x.o,0,if 0<xc x.o then 1 else 0,0,if 1<xc x.o then 1 else 0,x.ar,x.sp,x.pl,x.nn⟩
def Zx (l:List bt):List St:=l.map jH
def me (l:List bt) (i:Nat):Nat:=cnt (kO l i) (i+1)
def lH (t:Tg) (l:List bt):Bool:=zF (fun i=>decide ((me l i:Int)<=yf t (ye (zv l i).o))) l.length
def jO (t:Tg) (K:Kn) (logs:Li):Bool :=
 decide (K.ops.length<=16) && zS t && br K.pc 1 200 && br K.st 1 1001 && zF (fun i=>xL K.pc K.st (zv K.ops i) && XL t.r (zv K.ops i)) K.ops.length && zQ ⟨logs,Zx K.ops,[]⟩ && lH t K.ops
theorem oZ (l:List bt):(Zx l).length=l.length:=by unfold Zx;simp
theorem wd (l:List bt) (i:Nat) (h:i<l.length):zc (Zx l) i=jH (zv l i):=by grind [zc,Zx,zv]
def we (p:Nat->Bool) {m:Nat} (h:m<=n):cnt p m<=cnt p n:=by
 induction n with
 | zero => obtain rfl:m=0:=lI
           exact Qc _
 | succ n ih =>
  by_cases e:m=n+1
  ·subst e;exact Qc _
  have:=ih lI;show cnt p m<=cnt p n+(if p n=true then 1 else 0);lia
def GE {q:Nat->Bool} (h:∀i,i<n->p i=q i):cnt p n=cnt q n:=by induction n <;> grind [cnt]
def wg (p:Nat->Bool) (n:Nat):cnt p n=0\/∃j,j<n/\p j/\cnt p n=cnt p (j+1):=by induction n <;> grind [cnt]
theorem GF {l:List bt} (h:kO l i j):kO l j=kO l i:=by grind [kO]
def rW {t:Tg} {c:Int} (h:zS t):1<=yf t c:=by
 obtain⟨h1,a,b,-,-⟩:=yi h;have h1:=yG h1;have a:=yG a;have b:=yG b;grind [yf]
def GG {t:Tg} {l:List bt} (b:zS t):lH t l=zF (fun i=>decide ((mJ l i:Int)<=yf t (ye (zv l i).o))) l.length:=by
 rw [Ea];constructor
 ·intro h;refine yk fun i hi=>Qi ?_;unfold mJ;rcases wg (kO l i) l.length with h0 | ⟨j,h1,d,f⟩
  ·rw [h0];have:=rW (c:=ye (zv l i).o) b;lia
  have a:=QI (zq h j h1);grind [me,GF,kO]
 intro h;refine yk fun i hi=>Qi ?_;have a:=QI (zq h i hi);have g:me l i<=mJ l i:=we _ lI;lia
theorem wh (m n k:Int) (x:bt) (hn:1<=n):yW m n k (jH x)=yW m 2 1 ⟨x.o,0,0,0,0,x.ar,x.sp,x.pl,x.nn⟩:=by
 have a:xj n k 0 1:=by grind [xj,yh]
 have b:xj 2 1 0 0:=tQ
 have c:x.o=1->xc x.o=0:=fun h=>by rw [h];decide
 have d:x.o=2->xc x.o=0:=fun h=>by rw [h];decide
 have f:x.o=3->xc x.o=0:=fun h=>by rw [h];decide
 grind [xc,yW,jH,yh]
def wi {n k:Int} {x:bt} (hr:1<=r) (h:yW m 2 1 ⟨x.o,0,0,0,0,x.ar,x.sp,x.pl,x.nn⟩):XL r x=UZ r x:=by
 have a:xc x.o=Xg x.o:=by
  grind [xc,Xg,yh,yW,X0]
 grind [XL,UZ,zH]
theorem wj (logs:Li) (x:bt):zQ (nu logs x)=(decide (logs.length<=3) && Yn logs && yW logs.length 2 1 ⟨x.o,0,0,0,0,x.ar,x.sp,x.pl,x.nn⟩):=by
 have h0:yW logs.length 2 0 ⟨2,0,0,0,0,0,0,0,0⟩:=by unfold yW;simp
 have hb:YA (nu logs x)=yW logs.length 2 1 ⟨x.o,0,0,0,0,x.ar,x.sp,x.pl,x.nn⟩:=by show ((true && yW logs.length 2 0 ⟨2,0,0,0,0,0,0,0,0⟩) && yW logs.length 2 1 ⟨x.o,0,0,0,0,x.ar,x.sp,x.pl,x.nn⟩)=_;rw [h0];rfl
 unfold zQ;rw [hb];show (decide (logs.length<=3) && decide (1<=2) && decide (2<=16) && Yn logs && true && _)=_;simp
def GH (logs:Li) (l:List bt) (h1:1<=l.length) (a:l.length<=16):zQ ⟨logs,Zx l,[]⟩=(decide (logs.length<=3) && Yn logs && zF (fun i=>yW logs.length 2 1 ⟨(zv l i).o,0,0,0,0,(zv l i).ar,(zv l i).sp,(zv l i).pl,(zv l i).nn⟩) l.length):=by
 have hb:YA ⟨logs,Zx l,[]⟩=zF (fun i=>yW logs.length 2 1 ⟨(zv l i).o,0,0,0,0,(zv l i).ar,(zv l i).sp,(zv l i).pl,(zv l i).nn⟩) l.length:=by
  unfold YA;show zF (fun k=>yW logs.length (Zx l).length k (zc (Zx l) k)) (Zx l).length=_;rw [oZ,Ea];constructor
  ·intro h;refine yk fun i hi=>?_;have b:yW logs.length l.length i (zc (Zx l) i):=zq h i hi;grind [wd,wh]
  grind [yk,wd,wh,zq]
 unfold zQ;rw [hb];show (decide (logs.length<=3) && decide (1<=(Zx l).length) && decide ((Zx l).length<=16) && Yn logs && true && _)=_;grind [oZ]
theorem GI (t:Tg) (K:Kn) (logs:Li):jO t K logs=X7 t K logs:=by
 unfold jO X7;by_cases c:zS t
 ·by_cases b:K.ops.length<=16
  ·by_cases h1:1<=K.ops.length
   ·rw [GH logs K.ops h1 b,GG c,c,Qi b,yh (by lia:(1:Int)<=(K.ops.length:Int)/\(K.ops.length:Int)<=16)];have hr:=(yi c).2.2.2.1;cases br K.pc 1 200
    ·simp
    cases br K.st 1 1001
    ·simp
    simp only [Wb,qE];rw [Ea];constructor
    ·intro h;simp only [Qg,QE] at h;obtain⟨⟨hA,⟨f,d⟩,hS⟩,hU⟩:=h;refine yk fun i hi=>?_;have hA:=zq hA i hi;have hS:=zq hS i hi;have hU:=zq hU i hi;simp only [Qg] at hA;unfold ky;rw [hA.1,<-wi (n:=0) (k:=0) hr hS,hA.2,wj,Qi f,d,hS,hU];rfl
    intro h;have h0:=zq h 0 lI;have hX:∀i,i<K.ops.length->xL K.pc K.st (zv K.ops i)/\UZ t.r (zv K.ops i)/\logs.length<=3/\Yn logs/\yW logs.length 2 1 ⟨(zv K.ops i).o,0,0,0,0,(zv K.ops i).ar,(zv K.ops i).sp,(zv K.ops i).pl,(zv K.ops i).nn⟩/\(mJ K.ops i:Int)<=yf t (ye (zv K.ops i).o):=(by intro i hi;have a:=zq h i hi;unfold ky at a;rw [wj] at a;simp only [Qg,QE] at a;exact⟨a.1.1.1,a.1.1.2,a.1.2.1.1,a.1.2.1.2,a.1.2.2,a.2⟩);obtain⟨-,-,f,d,-,-⟩:=hX 0 lI;simp only [Qg,QE];refine⟨⟨yk fun i hi=>?_,⟨f,d⟩,yk fun i hi=>(hX i hi).2.2.2.2.1⟩,yk fun i hi=>Qi (hX i hi).2.2.2.2.2⟩;rw [(hX i hi).1,wi (n:=0) (k:=0) hr (hX i hi).2.2.2.2.1,(hX i hi).2.1];rfl
   have h0:K.ops.length=0:=(by lia);have hb:zQ ⟨logs,Zx K.ops,[]⟩=false:=oF _ (.inr (.inl (by show ¬1<=(Zx K.ops).length;rw [oZ];lia)));rw [hb,X0 (by lia:¬((1:Int)<=(K.ops.length:Int)/\(K.ops.length:Int)<=16))];simp
  rw [Qk b,X0 (by lia:¬((1:Int)<=(K.ops.length:Int)/\(K.ops.length:Int)<=16))];simp
 have ht2:zS t=false:=by simpa using c
 rw [ht2];simp
def ia (a b:Ed):Prop:=a.fr<b.fr\/(a.fr=b.fr/\(a.to<b.to\/(a.to=b.to/\(a.bk<b.bk\/(a.bk=b.bk/\a.wt<b.wt)))))
theorem pd {t:Tg} {e:Ed}:∀k,e∈jB L t fr to bk k->∃x:Nat,x<k/\e=⟨fr,to,bk,x⟩/\jr L t fr to bk x:=by
 intro k;induction k with
 | zero=>intro h;exact absurd h (by show ¬e∈[];simp)
 | succ k ih =>
  grind [jB]
theorem rX {t:Tg} {e:Ed}:∀k,e∈jG L t fr to k->∃b x:Nat,b<k/\e=⟨fr,to,b,x⟩/\jr L t fr to b x:=by
 intro k;induction k with
 | zero=>intro h;exact absurd h (by show ¬e∈[];simp)
 | succ k ih =>
  grind [jG,pd]
theorem rY {t:Tg} {e:Ed}:∀k,e∈jW L t fr k->∃to b x:Nat,to<k/\e=⟨fr,to,b,x⟩/\jr L t fr to b x:=by
 intro k;induction k with
 | zero=>intro h;exact absurd h (by show ¬e∈[];simp)
 | succ k ih =>
  intro h;rcases QK.1 (show e∈jW L t fr k++jG L t fr k 33 from h) with a | a
  ·grind
  grind [rX]
theorem ny {t:Tg} {e:Ed}:∀k,e∈jX L t k->∃fr to b x:Nat,fr<k/\to<L.b.length/\e=⟨fr,to,b,x⟩/\jr L t fr to b x:=by
 intro k;induction k with
 | zero=>intro h;exact absurd h (by show ¬e∈[];simp)
 | succ k ih =>
  grind [jX,rY]
def GJ {t:Tg}:∀k,(jB L t fr to bk k).Pairwise ia:=by
 intro k;induction k with
 | zero=>exact List.Pairwise.nil
 | succ k ih =>
  show (if jr L t fr to bk k=true then jB L t fr to bk k++[⟨fr,to,bk,k⟩] else jB L t fr to bk k).Pairwise ia;split
  ·refine Eq.2 ⟨ih,qJ _ _,fun a c b hb=>?_⟩;obtain⟨x,d,rfl,-⟩:=pd k c;rw [QT.1 hb];exact .inr ⟨rfl,.inr ⟨rfl,.inr ⟨rfl,by dsimp only;lia⟩⟩⟩
  exact ih
def GK {t:Tg}:∀k,(jG L t fr to k).Pairwise ia:=by
 intro k;induction k with
 | zero=>exact List.Pairwise.nil
 | succ k ih =>refine Eq.2 ⟨ih,GJ 7,fun a c b hb=>?_⟩;obtain⟨y,x,d,rfl,-⟩:=rX k c;obtain⟨z,f,rfl,-⟩:=pd 7 hb;exact .inr ⟨rfl,.inr ⟨rfl,.inl (by dsimp only;lia)⟩⟩
def GL {t:Tg}:∀k,(jW L t fr k).Pairwise ia:=by
 intro k;induction k with
 | zero=>exact List.Pairwise.nil
 | succ k ih =>refine Eq.2 ⟨ih,GK 33,fun a c b hb=>?_⟩;obtain⟨o,y,x,d,rfl,-⟩:=rY k c;obtain⟨u,z,f,rfl,-⟩:=rX 33 hb;exact .inr ⟨rfl,.inl (by dsimp only;lia)⟩
def GN {t:Tg}:∀k,(jX L t k).Pairwise ia:=by
 intro k;induction k with
 | zero=>exact List.Pairwise.nil
 | succ k ih =>refine Eq.2 ⟨ih,GL _,fun a c b hb=>?_⟩;obtain⟨f,o,y,x,d,-,rfl,-⟩:=ny k c;obtain⟨v,u,z,g,rfl,-⟩:=rY _ hb;exact .inl (by dsimp only;lia)
def GO {n:Int} {fr:Int} (h:yW m n to s) (j:oV s fr 0):fr<to:=by
 obtain⟨i,hi,c⟩:=nk.1 j;unfold oU at c;rw [Qg,QE,QE] at c;have key:∀a b,xj n to a b->a=fr->b=0->fr<to:=fun a b h1 k l=>by grind [xj,zH]
 unfold yW at h;by_cases f:s.o=4
 ·rw [Qe lI,Qe lI,Qe lI,Qf f] at h;simp only [Qg] at h;have e:zu s=[(s.xa,s.xb)]:=by grind [zu]
  rw [e] at hi c;have d:i=0:=rQ
  subst d;exact key _ _ h.2 c.1 c.2
 by_cases g:10<s.o
 ·have e:zu s=[(s.xa,s.xb),(s.ya,s.yb)]:=by grind [zu]
  rw [e] at hi c;rw [Qe lI,Qe lI,Qe lI,Qe f] at h;split at h
  ·simp only [Qg] at h;have d:i=0\/i=1:=(by grind);rcases d with rfl | rfl
   ·exact key _ _ h.1.2 c.1 c.2
   exact key _ _ h.2 c.1 c.2
  simp_all
 grind [zu]
theorem GP {t:Tg} {x:Nat} (hm:zQ L) (a:to<L.b.length) (h:jr L t fr to 0 x):fr<to:=by
 obtain⟨d,f,g,i,j,k,c⟩:=zy hm;have hs:=zq c to a;unfold jr at h;rcases qo.1 h with h | h
 ·rw [Qg] at h;have:=GO hs h.1;lia
 grind [YZ,Y7]
def GQ {t:Tg} {e:Ed} (hm:zQ L) (h:e∈zf L t):∃fr to bk wt:Nat,e=⟨fr,to,bk,wt⟩/\fr<L.b.length/\to<L.b.length/\(bk=0->fr<to):=by grind [zf,ny,GP]
def Yx (D:List Du) (j:Int):List Du:=D.filter fun d=>decide (d.at_ % 6=j)
def lJ (now:Int) (D:List Du):Prop:=∀d∈D,now<=d.at_/\d.at_<=now+5
def jC (l:List Du) (f:Nat->Int):Nat->Nat->Int
 | 0=>f
 | k+1=>VM (jC l f k) (xO l k).rg.toNat (xO l k).v
theorem wk (D:List Du) (d:Du) (j:Int):Yx (D++[d]) j=if d.at_ % 6=j then Yx D j++[d] else Yx D j:=by grind [Yx]
def GR {D:List Du} (h:lJ now D):Yx D (now % 6)=D.filter fun d=>decide (d.at_=now):=by
 unfold Yx;refine List.filter_congr fun d a=>?_;have h1:=h d a;grind
theorem rZ (D X:List Du) (k:Nat) (h:k<D.length):xO (D++X) k=xO D k:=by grind [xO]
theorem r8 (D:List Du) (d:Du):xO (D++[d]) D.length=d:=by simp [xO]
def GT (now:Int) (D X:List Du) (f:Nat->Int):∀k,k<=D.length->ZA now (D++X) f k=ZA now D f k:=by intro k;induction k <;> grind [ZA,rZ]
theorem GV (now:Int) (D X:List Du):∀k,k<=D.length->xx now (D++X) k=xx now D k:=by intro k;induction k <;> grind [xx,rZ]
def GW (D X:List Du) (f:Nat->Int):∀k,k<=D.length->jC (D++X) f k=jC D f k:=by intro k;induction k <;> grind [jC,rZ]
def wl {α:Type} {p:List α->Prop} (h0:p []) (hs:∀l a,p l->p (l++[a])) (l:List α):p l:=by
 rw [<-q8 l];induction l.reverse with
 | nil=>exact h0
 | cons a r ih=>rw [List.reverse_cons];exact hs _ _ ih
theorem GX (now:Int) (D:List Du) (f:Nat->Int):ZA now D f D.length=jC (D.filter fun d=>decide (d.at_=now)) f (D.filter fun d=>decide (d.at_=now)).length:=by
 refine wl (p:=fun D=>ZA now D f D.length=jC (D.filter fun d=>decide (d.at_=now)) f (D.filter fun d=>decide (d.at_=now)).length) rfl (fun l d ih=>?_) D;rw [Qt,EA];show (if (xO (l++[d]) l.length).at_=now then VM (ZA now (l++[d]) f l.length) (xO (l++[d]) l.length).rg.toNat (xO (l++[d]) l.length).v else ZA now (l++[d]) f l.length)=_;rw [r8,GT _ _ _ _ _ (Qc _),ih];by_cases e:d.at_=now
 ·have h1:([d].filter fun d=>decide (d.at_=now))=[d]:=by simp [e]
  rw [Qf e,h1,Qt];simp [jC,r8,GW]
 simp_all
theorem wn (now:Int) (D:List Du):xx now D D.length=D.filter fun d=>!decide (d.at_=now):=by
 refine wl (p:=fun D=>xx now D D.length=D.filter fun d=>!decide (d.at_=now)) rfl (fun l d ih=>?_) D;rw [Qt,EA];show (if (xO (l++[d]) l.length).at_=now then xx now (l++[d]) l.length else xx now (l++[d]) l.length++[xO (l++[d]) l.length])=_;grind [r8,GV]
def GY {D:List Du} (h:lJ now D) (f:Nat->Int):ZA now D f D.length=jC (Yx D (now % 6)) f (Yx D (now % 6)).length:=by rw [GX,GR h]
theorem wu {D:List Du} (h:lJ now D) (j:Int):Yx (xx now D D.length) j=if j=now % 6 then [] else Yx D j:=by
 rw [wn];unfold Yx;rw [List.filter_filter];by_cases e:j=now % 6
 ·rw [Qf e,List.filter_eq_nil_iff];intro d a;have h1:=h d a;grind
 grind
def GZ {D:List Du} (h:lJ now D):∀d∈xx now D D.length,now+1<=d.at_/\d.at_<=now+1+5:=by grind [lJ,wn]
def yH (l:List bt) (s:Int):List bt:=l.filter fun x=>decide (x.sl=s)
def XZ (t:Tg) (logs:Li) (pc gD now:Int) (f:Nat->Int) (m:Nat->Nat->Int) (q:Nx) (l:List bt):Nx:=l.foldl (jk t logs pc gD now f m) q
theorem G2 (t:Tg) (K:Kn) (logs:Li) (gD now:Int) (f:Nat->Int) (m:Nat->Nat->Int) (q:Nx):∀k,k<=K.ops.length->VJ t K logs gD now f m q k=XZ t logs K.pc gD now f m q (K.ops.take k):=by
 intro k;induction k with
 | zero=>intro _;rfl
 | succ k ih =>
  intro a;show jk t logs K.pc gD now f m (VJ t K logs gD now f m q k) (zv K.ops k)=_;rw [ih lI];unfold XZ;rw [Wm,Q8];grind [zv]
theorem G3 (t:Tg) (logs:Li) (pc gD now:Int) (f:Nat->Int) (m:Nat->Nat->Int):∀(l:List bt) (q:Nx),XZ t logs pc gD now f m q l=XZ t logs pc gD now f m q (yH l (now % pc)):=by
 intro l;induction l with
 | nil=>exact fun _=>rfl
 | cons x l ih =>
  intro q;show XZ t logs pc gD now f m (jk t logs pc gD now f m q x) l=_;by_cases e:x.sl=now % pc
  ·have h1:yH (x :: l) (now % pc)=x :: yH l (now % pc):=(by grind [yH]);rw [h1,ih];rfl
  grind [yH,jk,Ux]
theorem G4 (t:Tg) (K:Kn) (logs:Li) (gD now:Int) (f:Nat->Int) (m:Nat->Nat->Int) (q:Nx):VJ t K logs gD now f m q K.ops.length=XZ t logs K.pc gD now f m q (yH K.ops (now % K.pc)):=by grind [G2,G3]
theorem ww (t:Tg) (logs:Li) (pc gD now:Int) (f:Nat->Int) (m:Nat->Nat->Int) (q:Nx) (l:List bt) (k:Nat) (h:k<l.length):XZ t logs pc gD now f m q (l.take (k+1))=jk t logs pc gD now f m (XZ t logs pc gD now f m q (l.take k)) (zv l k):=by
 unfold XZ;rw [Wm,Q8];grind [zv]
def G5 (l:List bt) (k:Nat) (s:Int) (h:k<l.length):yH (l.take (k+1)) s=if (zv l k).sl=s then yH (l.take k) s++[zv l k] else yH (l.take k) s:=by
 have h1:l[k]?=some (zv l k):=by grind [zv]
 unfold yH;rw [Wm,h1,EA];grind
def wx {l:List bt} {s:Int} {x:bt} (h:x∈yH l s):x∈l/\x.sl=s:=by grind [yH]
structure je where
 i:Nat
 j:Nat
 v:Int
def zU (l:List je) (k:Nat):je:=l.getD k ⟨0,0,0⟩
def kQ (l:List je) (m:Nat->Nat->Int):Nat->Nat->Nat->Int
 | 0=>m
 | k+1=>Zs (kQ l m k) (zU l k).i (zU l k).j (zU l k).v
theorem wy (l r:List je) (k:Nat) (h:k<l.length):zU (l++r) k=zU l k:=by grind [zU]
theorem wz (l:List je) (d:je):zU (l++[d]) l.length=d:=by simp [zU]
def G6 (l r:List je) (m:Nat->Nat->Int):∀k,k<=l.length->kQ (l++r) m k=kQ l m k:=by intro k;induction k <;> grind [kQ,wy]
theorem G7 (l:List je) (d:je) (m:Nat->Nat->Int):kQ (l++[d]) m (l++[d]).length=Zs (kQ l m l.length) d.i d.j d.v:=by simp_all [kQ,wz,G6]
def Xf (t:Tg) (logs:Li) (pc gD now:Int) (f:Nat->Int) (m:Nat->Nat->Int) (l:List bt):List je :=
 (l.filter fun x=>Ux pc gD now x && decide (x.o=4)).map fun x=>⟨x.ar.toNat,XY logs pc now x,kD logs t.r pc now f m x⟩
theorem wA (t:Tg) (logs:Li) (pc gD now:Int) (f:Nat->Int) (m:Nat->Nat->Int) (l:List bt) (k:Nat) (h:k<l.length):Xf t logs pc gD now f m (l.take (k+1)) =
  if Ux pc gD now (zv l k)=true/\(zv l k).o=4 then Xf t logs pc gD now f m (l.take k)++[⟨(zv l k).ar.toNat,XY logs pc now (zv l k),kD logs t.r pc now f m (zv l k)⟩] else Xf t logs pc gD now f m (l.take k):=by
 have h1:l[k]?=some (zv l k):=by grind [zv]
 unfold Xf;rw [Wm,h1,EA,QV];grind
def G8 (t:Tg) (logs:Li) (pc gD now:Int) (f:Nat->Int) (m:Nat->Nat->Int) (du:List Du) (l:List bt):∀k,k<=l.length->(XZ t logs pc gD now f m ⟨m,du⟩ (l.take k)).nx=kQ (Xf t logs pc gD now f m (l.take k)) m (Xf t logs pc gD now f m (l.take k)).length:=by
 intro k;induction k with
 | zero=>intro _;rfl
 | succ k ih =>
  grind [ww,wA,G7,jk]
end
section
open Go.RowKit
def OP (c0 c1 c2 c3 c4 c5 c6 c7:Int):Int:=wrap64 (((((((c0*256+c1)*256+c2)*256+c3)*256+c4)*256+c5)*256+c6)*256+c7)
def CZ (b:Li) (k:Nat):Int:=OP (ak b (8*k)) (ak b (8*k+1)) (ak b (8*k+2)) (ak b (8*k+3)) (ak b (8*k+4)) (ak b (8*k+5)) (ak b (8*k+6)) (ak b (8*k+7))
def tR (b:Li):Bool:=decide (24<=b.length) && br (CZ b 2) 0 16 && decide ((b.length:Int)=24+80*CZ b 2)
end
section
variable {n x:Int} {most:Nat} {l:Li}
def Zl (n:Nat):Li:=if h:n<10 then [48+(n:Int)] else Zl (n / 10)++[48+((n % 10:Nat):Int)]
 termination_by n
 decreasing_by omega
theorem Z2 {n:Nat} (h:n<10):Zl n=[48+(n:Int)]:=by grind [Zl]
theorem Yl {n:Nat} (h:¬n<10):Zl n=Zl (n / 10)++[48+((n % 10:Nat):Int)]:=by grind [Zl]
def zo (n:Int):Li:=if n<0 then 45 :: Zl n.natAbs else Zl n.natAbs
def YB:∀n:Nat,∀c∈Zl n,48<=c/\c<=57:=by
 intro n;induction n using Nat.strongRecOn with
 | _ n ih =>
  intro c a;by_cases h:n<10
  ·grind [Z2]
  rw [Yl h] at a;grind
theorem m8:∀n:Nat,Zl n≠[]:=by
 intro n;by_cases h:n<10
 ·rw [Z2 h];simp
 rw [Yl h];simp
def Xa (l:Li):Int:=l.foldl (fun n c=>10*n+(c - 48)) 0
theorem VU (l:Li) (c:Int):Xa (l++[c])=10*Xa l+(c - 48):=by simp [Xa]
theorem De:∀n:Nat,Xa (Zl n)=n:=by
 intro n;induction n using Nat.strongRecOn with
 | _ n ih =>
  by_cases h:n<10
  ·rw [Z2 h];show 10*0+(48+(n:Int) - 48)=n;lia
  rw [Yl h,VU,ih (n / 10) lI];lia
def Pj {n:Nat} (h:n≠0):∃c l,Zl n=c :: l/\c≠48:=by
 induction n using Nat.strongRecOn with
 | _ n ih =>
  by_cases a:n<10
  ·exact⟨48+(n:Int),[],Z2 a,lI⟩
  obtain⟨c,l,e,b⟩:=ih (n / 10) lI lI;grind [Yl]
def qN:∀(k n:Nat),1<=k->n<10 ^ k->(Zl n).length<=k:=by
 intro k;induction k with
 | zero=>intro n h;lia
 | succ k ih =>
  intro n _ hn;by_cases a:n<10
  ·grind [Z2]
  rw [Yl a,Qt];grind
def lq (s:Li):Li:=if s.head?=some 45 then s.tail else s
def my (s:Li):Int:=wrap64 (if s.head?=some 45 then -(Xa (lq s)) else Xa (lq s))
def zT (s:Li) (most:Nat):Option Int:=if (lq s).length<=most/\zo (my s)=s then some (my s) else none
def Pm (s:Li):-9223372036854775808<=my s/\my s<=9223372036854775807:=by unfold my;generalize (if s.head?=some 45 then -(Xa (lq s)) else Xa (lq s))=x;unfold wrap64;lia
theorem mz {s:Li} (h:zT s most=some n):s=zo n/\-9223372036854775808<=n/\n<=9223372036854775807:=by
 unfold zT at h;by_cases a:(lq s).length<=most/\zo (my s)=s
 ·rw [Qf a] at h;have e:=QD h;subst e;exact⟨a.2.s,Pm s⟩
 simp_all
def t8 (h0:-9223372036854775808<=n) (h1:n<=9223372036854775807) (hm:(Zl n.natAbs).length<=most):zT (zo n) most=some n:=by
 have f:wrap64 n=n:=by unfold wrap64;lia
 unfold zT my lq;by_cases hn:n<0
 ·grind [zo,De]
 have e:zo n=Zl n.natAbs:=by grind [zo]
 have b:¬(zo n).head?=some 45:=by
  rw [e];intro h;cases a:Zl n.natAbs with
  | nil=>exact m8 _ a
  | cons c l =>rw [a] at h;have d:=YB n.natAbs c rQ;have:c=45:=(by simpa using h);lia
 grind [De]
def Df (n:Int):∀c∈zo n,c=45\/(48<=c/\c<=57):=by
 intro c a;unfold zo at a;split at a
 ·rcases WE.1 a with h | h
  ·exact .inl h
  exact .inr (YB _ c h)
 exact .inr (YB _ c a)
theorem Dg (n:Int):zo n≠[]:=by
 grind [zo,m8]
def zx (x:Int):Li->List Li
 | []=>[[]]
 | c :: l=>if c=x then [] :: zx x l else match zx x l with
   | []=>[[c]]
   | p :: ps=>(c :: p) :: ps
def yD (x:Int):List Li->Li
 | []=>[]
 | [p]=>p
 | p :: q :: ps=>p++x :: yD x (q :: ps)
def xQ (x:Int) (l:Li):zx x l≠[]:=by
 cases l with
 | nil=>simp [zx]
 | cons c l =>
  grind [zx]
def ZH (x:Int):∀l,yD x (zx x l)=l:=by
 intro l;induction l with
 | nil=>rfl
 | cons c l ih =>
  unfold zx;by_cases h:c=x
  ·rw [Qf h];cases hs:zx x l with
   | nil=>exact absurd hs (xQ x l)
   | cons p a =>rw [hs] at ih;show []++x :: yD x (p :: a)=c :: l;rw [ih,h];rfl
  rw [Qe h];cases hs:zx x l with
  | nil=>exact absurd hs (xQ x l)
  | cons p a =>
   rw [hs] at ih;cases a with
   | nil=>show c :: p=c :: l;rw [<-ih];rfl
   | cons q qs=>show (c :: p)++x :: yD x (q :: qs)=c :: l;rw [<-ih];rfl
def Dh:∀l:Li,(∀c∈l,c≠x)->zx x l=[l]:=by
 intro l;induction l with
 | nil=>intro _;rfl
 | cons c l ih =>intro h;unfold zx;rw [Qe (h c (QY ..)),ih fun d a=>h d (Wg _ a)]
theorem XN (x:Int) (m:Li):zx x (x :: m)=[] :: zx x m:=by rw [zx,Qf rfl]
def ZJ {c:Int} (h:c≠x) {p:Li} {a:List Li} (hs:zx x l=p :: a):zx x (c :: l)=(c :: p) :: a:=by rw [zx,Qe h,hs]
def bA (o:Int):Li :=
 if o=11 then [97,100,100] else if o=12 then [115,117,98] else if o=13 then [109,117,108] else if o=14 then [97,110,100] else if o=15 then [111,114] else if o=16 then [120,111,114] else if o=17 then [108,101,115,115] else [115,97,109,101]
def YY:Li:=[97,114,114,97,121]
def kq:Li:=[111,117,116]
def yO:Li:=[99,111,110,115,116]
def Zt:Li:=[116,117,114,110]
def xT:Li:=[108,111,97,100]
def yT:Li:=[115,116,111,114,101]
def Zw (s:Li):Option (Int × Int) :=
 if s.head?≠some 35 then none else
 match zx 126 s.tail with
 | [a]=>(zT a 18).map fun n=>(n,0)
 | [a,b]=>match zT a 18,zT b 18 with
   | some x,some y=>if 0<y then some (x,y) else none
   | _,_=>none
 | _=>none
def gK (ws:List Li):Option St :=
 match ws with
 | [w]=>if w=Zt then some ⟨2,0,0,0,0,0,0,0,0⟩ else none
 | [w,a]=>if w=yO then (zT a 19).map fun n=>⟨1,0,0,0,0,0,0,0,n⟩ else none
 | [w,a,b]=>match ([11,12,13,14,15,16,17,18]:Li).find? fun o=>decide (bA o=w) with
   | some o=>match Zw a,Zw b with
     | some x,some y=>some ⟨o,x.1,x.2,y.1,y.2,0,0,0,0⟩
     | _,_=>none
   | none=>none
 | [w,a,b,c]=>if w=xT then match zT a 18,zT b 18,zT c 18 with
   | some x,some y,some z=>some ⟨3,0,0,0,0,x,y,z,0⟩
   | _,_,_=>none
  else none
 | [w,a,b,c,d]=>if w=yT then match zT a 18,zT b 18,zT c 18,Zw d with
   | some x,some y,some z,some q=>some ⟨4,q.1,q.2,0,0,x,y,z,0⟩
   | _,_,_,_=>none
  else none
 | _=>none
def YS (L:Lp) (ws:List Li):Option Lp :=
 match ws with
 | [w,a]=>if w=YY then (if L.b.length+L.o.length=0 then (zT a 18).map fun n=>{ L with l:=L.l++[n] } else none)
   else if w=kq then (zT a 18).map fun n=>{ L with o:=L.o++[n] }
   else if w=yO/\L.o.length=0 then (gK ws).map fun s=>{ L with b:=L.b++[s] } else none
 | ws=>if L.o.length=0 then (gK ws).map fun s=>{ L with b:=L.b++[s] } else none
def jx (L:Lp):List Li->Nat->Lp × Int × Nat
 | [],k=>(⟨[],[],[]⟩,2,k)
 | [last],k=>if last=[]/\zQ L then (L,0,0) else (⟨[],[],[]⟩,2,k)
 | p :: q :: ps,k=>match YS L (zx 32 p) with
   | some L'=>jx L' (q :: ps) (k+1)
   | none=>(⟨[],[],[]⟩,2,k)
def yt (s:Li):Lp × Int × Nat:=jx ⟨[],[],[]⟩ (zx 10 s) 0
theorem Pn (h0:-9223372036854775808<=n) (h1:n<=9223372036854775807):zT (zo n) 19=some n:=t8 h0 h1 (qN 19 _ lI lI)
def Po (d:x≠45) (b:x<48\/57<x):∀c∈zo n,c≠x:=fun c a=>by
 rcases Df n c a with h | h <;> lia
def Di {p:Int->Prop} (h:∀i,i<l.length->p (ak l i)):∀n∈l,p n:=fun n hn=>by
 obtain⟨i,hi,rfl⟩:=Wl.1 hn
 grind [ak]
end
section
variable {w w':wO} {v:vO} {L:Lp} {m n k o xa xb ya yb ar sp pl nn:Int}
def zi {a b:Bool} (h:a=b):Ending.returned (.bool a)=.returned (.bool b):=by rw [h]
def zM (w:wO) (v:vO) (zs:Li):Prop :=
 ∃ a cap,v=.slice a zs.length cap/\zs.length<=cap/\cap<=maxLen/\(∀i,i<zs.length->-9223372036854775808<=ak zs i/\ak zs i<=9223372036854775807) /\
   (0<zs.length->∃b off,a=some (E b off)/\b<w.heap.size/\∀i,i<zs.length->w.cell? (E b (off+i))=Y (ak zs i))
def yE (n lo hi:Int) (w:wO) :
  Cp 127 #[J n,J lo,J hi] w (Re w (.bool (br n lo hi))):=by
 by_cases h:lo<=n/\n<=hi
 ·rw [yh h];obtain⟨h1,a⟩:=h;go_enter func127,ntmps127;go_wp2;go_ret;exact⟨rfl,rfl⟩
 rw [X0 h];by_cases h1:lo<=n
 ·have a:¬n<=hi:=fun a=>h ⟨h1,a⟩;clear h;go_enter func127,ntmps127;go_wp2;go_ret;exact⟨rfl,rfl⟩
 clear h;go_enter func127,ntmps127;go_wp2;go_ret;exact⟨rfl,rfl⟩
def UR (v:vO) (zs:Li) (w:wO) (h:zM w v zs) :
  Cp 77 #[v] w (Re w (.bool (Yn zs))):=by
 obtain⟨a,cap,rfl,r,hm,hr,l⟩:=h;unfold maxLen at hm;go_enter func77,ntmps77;go_wp2;go_loop [7] (fun i=>∃k:Nat,k<=zs.length/\i=J k/\zF (fun i=>uu (ak zs i)) k) (fun i=>zs.length - (intOf i).toNat)
 case atStart=>exact⟨0,Ql _,rfl,rfl⟩
 obtain⟨k,q,rfl,hall⟩:=hrel;have g:=Z hall;clear hall;by_cases d:k<zs.length
 ·obtain⟨b,o,rfl,hb,j⟩:=l oM;have p:=j k d;clear j l;cases c:uu (ak zs k) with
  | true =>
   have f:=Z c;have n:br (ak zs k) 0 5:=c;clear c;go_wp2_with (go_at_call 127;apply (yE _ _ _ _).m;rintro e w' ⟨rfl,rfl⟩);go_round
   case rel=>exact⟨k+1,oM,nQ,yr g f⟩
   simp [intOf];omega
  | false =>have f:=Z c;have n:br (ak zs k) 0 5=false:=c;clear c;go_wp2_with (go_at_call 127;apply (yE _ _ _ _).m;rintro e w' ⟨rfl,rfl⟩);go_ret;exact⟨zi (yd d f.o).s,rfl⟩
 have e:k=zs.length:=oM
 have m:Hid (Yn zs):=by grind [Yn]
 clear g e;go_wp2;go_ret;exact⟨zi m.s,rfl⟩
def zG (s:St):Array vO:=#[J s.o,J s.xa,J s.xb,J s.ya,J s.yb,J s.ar,J s.sp,J s.pl,J s.nn]
def kY (w:wO) (v:vO) (b:List St):Prop :=
 ∃ a cap,v=.slice a b.length cap/\b.length<=cap/\cap<=maxLen /\
   (0<b.length->∃blk off,a=some (E blk off)/\blk<w.heap.size/\∀i,i<b.length->∀j,j<9->w.cell? (E blk (off+i*9+j))=(zG (zc b i))[j]?)
def zI (w:wO) (v:vO) (L:Lp):Prop:=∃v0 v1 v2,v=.agg #[v0,v1,v2]/\zM w v0 L.l/\kY w v1 L.b/\zM w v2 L.o
def sR (v:vO) (L:Lp) (o xa xb ya yb ar sp pl nn:Int) (w:wO) (h:zI w v L) :
  Cp 184 #[v,.agg #[J o,J xa,J xb,J ya,J yb,J ar,J sp,J pl,J nn]] w (Rt w (.bool (Zp L.l.length ar sp pl))):=by
 obtain⟨v0,g,v2,rfl,⟨a,cap,rfl,f,hm,hr,d⟩,-,-⟩:=h;unfold maxLen at hm;cases h1:br ar 0 (L.l.length - 1) with
 | false =>
  have b:Hid (Zp L.l.length ar sp pl=false):=by show Zp L.l.length ar sp pl=false;grind [Zp]
  go_enter func184,ntmps184;go_wp2_with (go_at_call 127;apply (yE _ _ _ _).m;rintro e w' ⟨rfl,rfl⟩);go_ret;exact⟨zi b.s,QB _ _ _⟩
 | true =>
  cases c:br sp (-64) 64 with
  | false =>have b:Hid (Zp L.l.length ar sp pl=false):=(by show Zp L.l.length ar sp pl=false;unfold Zp;rw [h1,c];rfl);go_enter func184,ntmps184;go_wp2_with (go_at_call 127;apply (yE _ _ _ _).m;rintro e w' ⟨rfl,rfl⟩);go_ret;exact⟨zi b.s,QB _ _ _⟩
  | true =>have b:Hid (Zp L.l.length ar sp pl=br pl (-64) 64):=(by show Zp L.l.length ar sp pl=br pl (-64) 64;unfold Zp;rw [h1,c];rfl);go_enter func184,ntmps184;go_wp2_with (go_at_call 127;apply (yE _ _ _ _).m;rintro e w' ⟨rfl,rfl⟩);go_ret;exact⟨zi b.s,QB _ _ _⟩
def Uk (v:vO) (L:Lp) (k x y:Int) (w:wO) (h:zI w v L) (f:0<=k) (i:k<=9223372036854775807) :
  Cp 185 #[v,J k,.agg #[J x,J y]] w (Rt w (.bool (xj L.b.length k x y))):=by
 obtain⟨v0,l,v2,rfl,-,⟨a,cap,rfl,j,hm,g⟩,-⟩:=h;unfold maxLen at hm;by_cases d:y=0
 ·subst d;have c:Hid (xj L.b.length k x 0=br x 0 (k - 1)):=by show xj L.b.length k x 0=br x 0 (k - 1);unfold xj;rw [Qf rfl];rfl
  go_enter func185,ntmps185;go_wp2_with (go_at_call 127;apply (yE _ _ _ _).m;rintro e w' ⟨rfl,rfl⟩);go_ret;exact⟨zi c.s,QB _ _ _⟩
 have hb:(y == 0)=false:=by simpa using d
 cases h1:br y 1 3 with
 | false =>
  have c:Hid (xj L.b.length k x y=false):=by show xj L.b.length k x y=false;grind [xj,X0,yh]
  clear d;go_enter func185,ntmps185;go_wp2_with (go_at_call 127;apply (yE _ _ _ _).m;rintro e w' ⟨rfl,rfl⟩);go_ret;exact⟨zi c.s,QB _ _ _⟩
 | true =>
  have c:Hid (xj L.b.length k x y=br x 0 (L.b.length - 1)):=by show xj L.b.length k x y=br x 0 (L.b.length - 1);grind [xj,br]
  clear d;go_enter func185,ntmps185;go_wp2_with (go_at_call 127;apply (yE _ _ _ _).m;rintro e w' ⟨rfl,rfl⟩);go_ret;exact⟨zi c.s,QB _ _ _⟩
def Ue {b o:Nat} {s:St} (h:∀j,j<9->w.cell? (E b (o+j))=(zG s)[j]?) :
  w.cell? (E b o)=Y s.o/\w.cell? (E b (o+1))=Y s.xa/\w.cell? (E b (o+2))=Y s.xb/\w.cell? (E b (o+3))=Y s.ya/\w.cell? (E b (o+4))=Y s.yb /\
   w.cell? (E b (o+5))=Y s.ar/\w.cell? (E b (o+6))=Y s.sp/\w.cell? (E b (o+7))=Y s.pl/\w.cell? (E b (o+8))=Y s.nn :=
 ⟨h 0 lI,h 1 lI,h 2 lI,h 3 lI,h 4 lI,h 5 lI,h 6 lI,h 7 lI,h 8 lI⟩
theorem ze {W w1:wO} (hb:Bw W w1):∀b o,b<W.heap.size->w1.cell? (E b o)=W.cell? (E b o) :=
 fun b o h=>hb.cell (p:=(E b o)) h
def zM.gE {zs:Li} (h:zM w v zs) (hb:Bw w w'):zM w' v zs:=by obtain⟨a,cap,e,h1,f,g,j⟩:=h;refine⟨a,cap,e,h1,f,g,fun l=>?_⟩;obtain⟨b,c,d,k,m⟩:=j l;exact⟨b,c,d,Qu k hb.size,fun i hi=>by grind [ze]⟩
def kY.gE {l:List St} (h:kY w v l) (hb:Bw w w'):kY w' v l:=by obtain⟨a,cap,e,h1,f,g⟩:=h;refine⟨a,cap,e,h1,f,fun m=>?_⟩;obtain⟨b,c,d,k,n⟩:=g m;exact⟨b,c,d,Qu k hb.size,fun i hi j o=>by grind [ze]⟩
def zI.gE (h:zI w v L) (hb:Bw w w'):zI w' v L:=by obtain⟨v0,c,v2,e,h1,a,b⟩:=h;exact⟨v0,c,v2,e,h1.gE hb,a.gE hb,b.gE hb⟩
def Kc {k:Nat} (h:zI w v L) (g:k<L.b.length) :
  ∃v0 v2 b c cap,v=.agg #[v0,.slice (some (E b c)) L.b.length cap,v2]/\cap<=9223372036854775807/\L.b.length<=cap/\b<w.heap.size/\∀j,j<9->w.cell? (E b (c+k*9+j))=(zG (zc L.b k))[j]?:=by obtain⟨v0,l,v2,rfl,-,⟨a,cap,rfl,i,hm,f⟩,-⟩:=h;obtain⟨b,c,rfl,hb,d⟩:=f lI;exact⟨v0,v2,b,c,cap,rfl,by unfold maxLen at hm;lia,i,hb,d k g⟩
def Kd (L:Lp) (k:Nat) (w:wO) (v0 v2:vO) (b a cap:Nat) (xa xb ya yb ar sp pl nn:Int) (p:zI w (.agg #[v0,.slice (some (E b a)) L.b.length cap,v2]) L) (c:(k:Int)<(L.b.length:Int)) (hm:cap<=9223372036854775807) (q:L.b.length<=cap) (hb:b<w.heap.size)
  (d:w.cell? (E b (a+k*9))=Y 1) (f:w.cell? (E b (a+k*9+1))=Y xa) (g:w.cell? (E b (a+k*9+2))=Y xb) (h:w.cell? (E b (a+k*9+3))=Y ya) (i:w.cell? (E b (a+k*9+4))=Y yb) (j:w.cell? (E b (a+k*9+5))=Y ar) (m:w.cell? (E b (a+k*9+6))=Y sp) (n:w.cell? (E b (a+k*9+7))=Y pl) (o:w.cell? (E b (a+k*9+8))=Y nn) :
  Cp 128 #[.agg #[v0,.slice (some (E b a)) L.b.length cap,v2],J k] w (Rt w (.bool (yW L.l.length L.b.length k ⟨1,xa,xb,ya,yb,ar,sp,pl,nn⟩))):=by
 go_enter func128,ntmps128;go_wp2
 all_goals
  go_ret
  exact⟨zi (by simp [yW, *]),QB _ _ _⟩
def Ke (L:Lp) (k:Nat) (w:wO) (v0 v2:vO) (b a cap:Nat) (xa xb ya yb ar sp pl nn:Int) (p:zI w (.agg #[v0,.slice (some (E b a)) L.b.length cap,v2]) L) (c:(k:Int)<(L.b.length:Int)) (hm:cap<=9223372036854775807) (q:L.b.length<=cap) (hb:b<w.heap.size)
  (d:w.cell? (E b (a+k*9))=Y 2) (f:w.cell? (E b (a+k*9+1))=Y xa) (g:w.cell? (E b (a+k*9+2))=Y xb) (h:w.cell? (E b (a+k*9+3))=Y ya) (i:w.cell? (E b (a+k*9+4))=Y yb) (j:w.cell? (E b (a+k*9+5))=Y ar) (m:w.cell? (E b (a+k*9+6))=Y sp) (n:w.cell? (E b (a+k*9+7))=Y pl) (o:w.cell? (E b (a+k*9+8))=Y nn) :
  Cp 128 #[.agg #[v0,.slice (some (E b a)) L.b.length cap,v2],J k] w (Rt w (.bool (yW L.l.length L.b.length k ⟨2,xa,xb,ya,yb,ar,sp,pl,nn⟩))):=by
 go_enter func128,ntmps128;go_wp2
 all_goals
  go_ret
  exact⟨zi (by simp [yW, *]),QB _ _ _⟩
def Kf (L:Lp) (k:Nat) (w:wO) (v0 v2:vO) (b a cap:Nat) (ar sp pl:Int) (d:zI w (.agg #[v0,.slice (some (E b a)) L.b.length cap,v2]) L) (f:(k:Int)<(L.b.length:Int)) (hm:cap<=9223372036854775807) (r:L.b.length<=cap) (hb:b<w.heap.size)
  (g:w.cell? (E b (a+k*9))=Y 3) (h:w.cell? (E b (a+k*9+1))=Y 0) (i:w.cell? (E b (a+k*9+2))=Y 0) (j:w.cell? (E b (a+k*9+3))=Y 0) (m:w.cell? (E b (a+k*9+4))=Y 0) (n:w.cell? (E b (a+k*9+5))=Y ar) (o:w.cell? (E b (a+k*9+6))=Y sp) (p:w.cell? (E b (a+k*9+7))=Y pl) (q:w.cell? (E b (a+k*9+8))=Y 0) :
  Cp 128 #[.agg #[v0,.slice (some (E b a)) L.b.length cap,v2],J k] w (Rt w (.bool (yW L.l.length L.b.length k ⟨3,0,0,0,0,ar,sp,pl,0⟩))):=by go_enter func128,ntmps128;go_wp2_with (go_at_call 184;apply (sR _ L _ _ _ _ _ _ _ _ _ _ (zI.gE d (QJ _ _ _ _))).m;rintro e w1 ⟨rfl,c⟩);go_ret;exact⟨zi (by simp [yW]),(QJ _ _ _ _).t (c.m sO)⟩
def Kg (L:Lp) (k:Nat) (w:wO) (v0 v2:vO) (b a cap:Nat) (xa xb ya yb ar sp pl nn:Int) (p:zI w (.agg #[v0,.slice (some (E b a)) L.b.length cap,v2]) L) (c:(k:Int)<(L.b.length:Int)) (hm:cap<=9223372036854775807) (q:L.b.length<=cap) (hb:b<w.heap.size)
  (d:w.cell? (E b (a+k*9))=Y 3) (f:w.cell? (E b (a+k*9+1))=Y xa) (g:w.cell? (E b (a+k*9+2))=Y xb) (h:w.cell? (E b (a+k*9+3))=Y ya) (i:w.cell? (E b (a+k*9+4))=Y yb) (j:w.cell? (E b (a+k*9+5))=Y ar) (m:w.cell? (E b (a+k*9+6))=Y sp) (n:w.cell? (E b (a+k*9+7))=Y pl) (o:w.cell? (E b (a+k*9+8))=Y nn) (r:¬(xa=0/\xb=0/\ya=0/\yb=0/\nn=0)) :
  Cp 128 #[.agg #[v0,.slice (some (E b a)) L.b.length cap,v2],J k] w (Rt w (.bool (yW L.l.length L.b.length k ⟨3,xa,xb,ya,yb,ar,sp,pl,nn⟩))):=by
 go_enter func128,ntmps128;go_wp2
 all_goals
  first
  | (go_ret;exact⟨zi (by simp [yW, *]),QJ _ _ _ _⟩)
  | (exfalso;simp_all)
def Kh (o1:(o == 1)=false) (a:(o == 2)=false) (b:(o == 3)=false) (c:(o == 4)=false) (hi:br o 11 18=false):yW m n k ⟨o,xa,xb,ya,yb,ar,sp,pl,nn⟩=false:=by grind [yW,yh]
theorem Aw (o1:(o == 1)=false) (a:(o == 2)=false) (b:(o == 3)=false) (c:(o == 4)=false) (hi:br o 11 18) :
  yW m n k ⟨o,xa,xb,ya,yb,ar,sp,pl,nn⟩=(decide (ar=0/\sp=0/\pl=0/\nn=0) && xj n k xa xb && xj n k ya yb):=by grind [yW,zH]
def Ki (o1:(o == 1)=false) (b:(o == 2)=false) (c:(o == 3)=false) (d:(o == 4)=false) (hi:br o 11 18) (a:¬(ar=0/\sp=0/\pl=0/\nn=0)) :
  yW m n k ⟨o,xa,xb,ya,yb,ar,sp,pl,nn⟩=false:=by grind [Aw]
def Ax (o1:(o == 1)=false) (a:(o == 2)=false) (b:(o == 3)=false) (c:(o == 4)=false) (hi:br o 11 18) :
  yW m n k ⟨o,xa,xb,ya,yb,0,0,0,0⟩=(xj n k xa xb && xj n k ya yb):=by grind [Aw]
def Kj (L:Lp) (k:Nat) (w:wO) (v0 v2:vO) (b a cap:Nat) (xa xb ar sp pl:Int) (d:zI w (.agg #[v0,.slice (some (E b a)) L.b.length cap,v2]) L) (g:(k:Int)<(L.b.length:Int)) (hm:cap<=9223372036854775807) (t:L.b.length<=cap) (hb:b<w.heap.size)
  (i:w.cell? (E b (a+k*9))=Y 4) (j:w.cell? (E b (a+k*9+1))=Y xa) (m:w.cell? (E b (a+k*9+2))=Y xb) (n:w.cell? (E b (a+k*9+3))=Y 0) (o:w.cell? (E b (a+k*9+4))=Y 0) (p:w.cell? (E b (a+k*9+5))=Y ar) (q:w.cell? (E b (a+k*9+6))=Y sp) (r:w.cell? (E b (a+k*9+7))=Y pl) (s:w.cell? (E b (a+k*9+8))=Y 0) (f:Zp L.l.length ar sp pl=false) :
  Cp 128 #[.agg #[v0,.slice (some (E b a)) L.b.length cap,v2],J k] w (Rt w (.bool (yW L.l.length L.b.length k ⟨4,xa,xb,0,0,ar,sp,pl,0⟩))):=by go_enter func128,ntmps128;go_wp2_with (go_at_call 184;refine (sR _ L _ _ _ _ _ _ _ _ _ _ (zI.gE d (QJ _ _ _ _))).mr fun w1 c=>?_;have h:=ze c);go_ret;exact⟨zi (by simp [yW,f]),(QJ _ _ _ _).t (c.m sO)⟩
def Kk (L:Lp) (k:Nat) (w:wO) (v0 v2:vO) (b a cap:Nat) (xa xb ar sp pl:Int) (d:zI w (.agg #[v0,.slice (some (E b a)) L.b.length cap,v2]) L) (h:(k:Int)<(L.b.length:Int)) (hm:cap<=9223372036854775807) (u:L.b.length<=cap) (hb:b<w.heap.size)
  (j:w.cell? (E b (a+k*9))=Y 4) (m:w.cell? (E b (a+k*9+1))=Y xa) (n:w.cell? (E b (a+k*9+2))=Y xb) (o:w.cell? (E b (a+k*9+3))=Y 0) (p:w.cell? (E b (a+k*9+4))=Y 0) (q:w.cell? (E b (a+k*9+5))=Y ar) (r:w.cell? (E b (a+k*9+6))=Y sp) (s:w.cell? (E b (a+k*9+7))=Y pl) (t:w.cell? (E b (a+k*9+8))=Y 0) (g:Zp L.l.length ar sp pl) :
  Cp 128 #[.agg #[v0,.slice (some (E b a)) L.b.length cap,v2],J k] w (Rt w (.bool (yW L.l.length L.b.length k ⟨4,xa,xb,0,0,ar,sp,pl,0⟩))):=by
 go_enter func128,ntmps128
 go_wp2_with (first
  | (go_at_call 184;refine (sR _ L _ _ _ _ _ _ _ _ _ _ (zI.gE d (QJ _ _ _ _))).mr fun w1 c=>?_;have i:=ze c)
  | (go_at_call 185;apply (Uk _ L _ _ _ _ (zI.gE d ((QJ _ _ _ _).t (c.m sO))) oM oM).m;rintro e w2 ⟨rfl,f⟩))
 go_ret;exact⟨zi (by simp [yW,g]),((QJ _ _ _ _).t (c.m sO)).t (f.m (by have:=c.size;simp at this;omega))⟩
def Kl (L:Lp) (k:Nat) (w:wO) (v0 v2:vO) (b a cap:Nat) (xa xb ya yb ar sp pl nn:Int) (p:zI w (.agg #[v0,.slice (some (E b a)) L.b.length cap,v2]) L) (c:(k:Int)<(L.b.length:Int)) (hm:cap<=9223372036854775807) (q:L.b.length<=cap) (hb:b<w.heap.size)
  (d:w.cell? (E b (a+k*9))=Y 4) (f:w.cell? (E b (a+k*9+1))=Y xa) (g:w.cell? (E b (a+k*9+2))=Y xb) (h:w.cell? (E b (a+k*9+3))=Y ya) (i:w.cell? (E b (a+k*9+4))=Y yb) (j:w.cell? (E b (a+k*9+5))=Y ar) (m:w.cell? (E b (a+k*9+6))=Y sp) (n:w.cell? (E b (a+k*9+7))=Y pl) (o:w.cell? (E b (a+k*9+8))=Y nn) (r:¬(ya=0/\yb=0/\nn=0)) :
  Cp 128 #[.agg #[v0,.slice (some (E b a)) L.b.length cap,v2],J k] w (Rt w (.bool (yW L.l.length L.b.length k ⟨4,xa,xb,ya,yb,ar,sp,pl,nn⟩))):=by
 go_enter func128,ntmps128;go_wp2
 all_goals
  first
  | (go_ret;exact⟨zi (by simp [yW, *]),QJ _ _ _ _⟩)
  | (exfalso;simp_all)
def Km (L:Lp) (k:Nat) (w:wO) (v0 v2:vO) (b a cap:Nat) (o xa xb ya yb ar sp pl nn:Int) (t:zI w (.agg #[v0,.slice (some (E b a)) L.b.length cap,v2]) L) (g:(k:Int)<(L.b.length:Int)) (hm:cap<=9223372036854775807) (u:L.b.length<=cap) (hb:b<w.heap.size)
  (h:w.cell? (E b (a+k*9))=Y o) (i:w.cell? (E b (a+k*9+1))=Y xa) (j:w.cell? (E b (a+k*9+2))=Y xb) (m:w.cell? (E b (a+k*9+3))=Y ya) (n:w.cell? (E b (a+k*9+4))=Y yb) (p:w.cell? (E b (a+k*9+5))=Y ar) (q:w.cell? (E b (a+k*9+6))=Y sp) (r:w.cell? (E b (a+k*9+7))=Y pl) (s:w.cell? (E b (a+k*9+8))=Y nn) (o1:(o == 1)=false) (c:(o == 2)=false) (d:(o == 3)=false) (f:(o == 4)=false) (hi:br o 11 18=false) :
  Cp 128 #[.agg #[v0,.slice (some (E b a)) L.b.length cap,v2],J k] w (Rt w (.bool (yW L.l.length L.b.length k ⟨o,xa,xb,ya,yb,ar,sp,pl,nn⟩))):=by go_enter func128,ntmps128;go_wp2_with (go_at_call 127;apply (yE _ _ _ _).m;rintro e w' ⟨rfl,rfl⟩);go_ret;exact⟨zi (Kh o1 c d f hi).s,QB _ _ _⟩
def Ko (L:Lp) (k:Nat) (w:wO) (v0 v2:vO) (b a cap:Nat) (o xa xb ya yb ar sp pl nn:Int) (y:zI w (.agg #[v0,.slice (some (E b a)) L.b.length cap,v2]) L) (i:(k:Int)<(L.b.length:Int)) (hm:cap<=9223372036854775807) (z:L.b.length<=cap) (hb:b<w.heap.size)
  (j:w.cell? (E b (a+k*9))=Y o) (p:w.cell? (E b (a+k*9+1))=Y xa) (q:w.cell? (E b (a+k*9+2))=Y xb) (r:w.cell? (E b (a+k*9+3))=Y ya) (s:w.cell? (E b (a+k*9+4))=Y yb) (t:w.cell? (E b (a+k*9+5))=Y ar) (u:w.cell? (E b (a+k*9+6))=Y sp) (v:w.cell? (E b (a+k*9+7))=Y pl) (x:w.cell? (E b (a+k*9+8))=Y nn) (o1:(o == 1)=false) (f:(o == 2)=false) (g:(o == 3)=false) (h:(o == 4)=false) (hi:br o 11 18) (d:¬(ar=0/\sp=0/\pl=0/\nn=0)) :
  Cp 128 #[.agg #[v0,.slice (some (E b a)) L.b.length cap,v2],J k] w (Rt w (.bool (yW L.l.length L.b.length k ⟨o,xa,xb,ya,yb,ar,sp,pl,nn⟩))):=by
 go_enter func128,ntmps128;have c:=Z (Ki (xa:=xa) (xb:=xb) (ya:=ya) (yb:=yb) (m:=L.l.length) (n:=L.b.length) (k:=k) o1 f g h hi d);go_wp2_with (go_at_call 127;apply (yE _ _ _ _).m;rintro e w' ⟨rfl,rfl⟩)
 all_goals
  first
  | (go_ret;exact⟨zi c.s,QJ _ _ _ _⟩)
  | (exfalso;simp_all;done)
def Kq (L:Lp) (k:Nat) (w:wO) (v0 v2:vO) (b a cap:Nat) (o xa xb ya yb:Int) (f:zI w (.agg #[v0,.slice (some (E b a)) L.b.length cap,v2]) L) (j:(k:Int)<(L.b.length:Int)) (hm:cap<=9223372036854775807) (A:L.b.length<=cap) (hb:b<w.heap.size)
  (q:w.cell? (E b (a+k*9))=Y o) (r:w.cell? (E b (a+k*9+1))=Y xa) (s:w.cell? (E b (a+k*9+2))=Y xb) (t:w.cell? (E b (a+k*9+3))=Y ya) (u:w.cell? (E b (a+k*9+4))=Y yb) (v:w.cell? (E b (a+k*9+5))=Y 0) (x:w.cell? (E b (a+k*9+6))=Y 0) (y:w.cell? (E b (a+k*9+7))=Y 0) (z:w.cell? (E b (a+k*9+8))=Y 0) (o1:(o == 1)=false) (g:(o == 2)=false) (h:(o == 3)=false) (i:(o == 4)=false) (hi:br o 11 18) (hr:xj L.b.length k xa xb=false) :
  Cp 128 #[.agg #[v0,.slice (some (E b a)) L.b.length cap,v2],J k] w (Rt w (.bool (yW L.l.length L.b.length k ⟨o,xa,xb,ya,yb,0,0,0,0⟩))):=by go_enter func128,ntmps128;have d:=Z (Ax (xa:=xa) (xb:=xb) (ya:=ya) (yb:=yb) (m:=L.l.length) (n:=L.b.length) (k:=k) o1 g h i hi);go_wp2_with (first | (go_at_call 127;apply (yE _ _ _ _).m;rintro e w' ⟨rfl,rfl⟩) | (go_at_call 185;refine (Uk _ L _ _ _ _ (zI.gE f (QJ _ _ _ _)) oM oM).mr fun w1 c=>?_;have p:=ze c));go_ret;exact⟨zi (by rw [d,hr];rfl),(QJ _ _ _ _).t (c.m sO)⟩
def Kr (L:Lp) (k:Nat) (w:wO) (v0 v2:vO) (b a cap:Nat) (o xa xb ya yb:Int) (d:zI w (.agg #[v0,.slice (some (E b a)) L.b.length cap,v2]) L) (p:(k:Int)<(L.b.length:Int)) (hm:cap<=9223372036854775807) (B:L.b.length<=cap) (hb:b<w.heap.size)
  (r:w.cell? (E b (a+k*9))=Y o) (s:w.cell? (E b (a+k*9+1))=Y xa) (t:w.cell? (E b (a+k*9+2))=Y xb) (u:w.cell? (E b (a+k*9+3))=Y ya) (v:w.cell? (E b (a+k*9+4))=Y yb) (x:w.cell? (E b (a+k*9+5))=Y 0) (y:w.cell? (E b (a+k*9+6))=Y 0) (z:w.cell? (E b (a+k*9+7))=Y 0) (A:w.cell? (E b (a+k*9+8))=Y 0) (o1:(o == 1)=false) (h:(o == 2)=false) (i:(o == 3)=false) (j:(o == 4)=false) (hi:br o 11 18) (hr:xj L.b.length k xa xb) :
  Cp 128 #[.agg #[v0,.slice (some (E b a)) L.b.length cap,v2],J k] w (Rt w (.bool (yW L.l.length L.b.length k ⟨o,xa,xb,ya,yb,0,0,0,0⟩))):=by go_enter func128,ntmps128;have f:=Z (Ax (xa:=xa) (xb:=xb) (ya:=ya) (yb:=yb) (m:=L.l.length) (n:=L.b.length) (k:=k) o1 h i j hi);go_wp2_with (go_at_call 127;apply (yE _ _ _ _).m;rintro e w' ⟨rfl,rfl⟩);refine (Uk _ L _ _ _ _ (zI.gE d (QJ _ _ _ _)) oM oM).mr fun w1 c=>?_;have q:=ze c;go_wp2_with fail;refine (Uk _ L _ _ _ _ (zI.gE d ((QJ _ _ _ _).t (c.m sO))) oM oM).mr fun w2 g=>?_;go_wp2_with fail;go_ret;exact⟨zi (by rw [f,hr];rfl),((QJ _ _ _ _).t (c.m sO)).t (g.m (by have:=c.size;simp at this;omega))⟩
def Ay (v:vO) (L:Lp) (k:Nat) (w:wO) (h:zI w v L) (C:k<L.b.length) :
  Cp 128 #[v,J k] w (Rt w (.bool (yW L.l.length L.b.length k (zc L.b k)))):=by
 have r:=h;obtain⟨v0,v2,b,a,cap,rfl,hm,t,hb,x⟩:=Kc h C;clear h;obtain⟨c,d,f,g,i,j,m,n,p⟩:=Ue x;clear x;generalize zc L.b k=s at *
 obtain⟨o,xa,xb,ya,yb,ar,sp,pl,nn⟩:=s;simp only at c d f g i j m n p;have q:(k:Int)<(L.b.length:Int):=lI
 by_cases o1:o=1
 ·subst o1;exact Kd L k w v0 v2 b a cap xa xb ya yb ar sp pl nn r q hm t hb c d f g i j m n p
 by_cases z:o=2
 ·subst z;exact Ke L k w v0 v2 b a cap xa xb ya yb ar sp pl nn r q hm t hb c d f g i j m n p
 by_cases A:o=3
 ·subst A;by_cases u:xa=0/\xb=0/\ya=0/\yb=0/\nn=0
  ·obtain⟨rfl,rfl,rfl,rfl,rfl⟩:=u;exact Kf L k w v0 v2 b a cap ar sp pl r q hm t hb c d f g i j m n p
  exact Kg L k w v0 v2 b a cap xa xb ya yb ar sp pl nn r q hm t hb c d f g i j m n p u
 by_cases B:o=4
 ·subst B;by_cases u:ya=0/\yb=0/\nn=0
  ·obtain⟨rfl,rfl,rfl⟩:=u;cases y:Zp L.l.length ar sp pl with
   | false=>exact Kj L k w v0 v2 b a cap xa xb ar sp pl r q hm t hb c d f g i j m n p y
   | true=>exact Kk L k w v0 v2 b a cap xa xb ar sp pl r q hm t hb c d f g i j m n p y
  exact Kl L k w v0 v2 b a cap xa xb ya yb ar sp pl nn r q hm t hb c d f g i j m n p u
 have b1:(o == 1)=false:=by simpa using o1
 have b2:(o == 2)=false:=by simpa using z
 have b3:(o == 3)=false:=by simpa using A
 have b4:(o == 4)=false:=by simpa using B
 cases hi:br o 11 18 with
 | false=>exact Km L k w v0 v2 b a cap o xa xb ya yb ar sp pl nn r q hm t hb c d f g i j m n p b1 b2 b3 b4 hi
 | true =>
  by_cases u:ar=0/\sp=0/\pl=0/\nn=0
  ·obtain⟨rfl,rfl,rfl,rfl⟩:=u;cases hr:xj L.b.length k xa xb with
   | false=>exact Kq L k w v0 v2 b a cap o xa xb ya yb r q hm t hb c d f g i j m n p b1 b2 b3 b4 hi hr
   | true=>exact Kr L k w v0 v2 b a cap o xa xb ya yb r q hm t hb c d f g i j m n p b1 b2 b3 b4 hi hr
  exact Ko L k w v0 v2 b a cap o xa xb ya yb ar sp pl nn r q hm t hb c d f g i j m n p b1 b2 b3 b4 hi u
end
section
variable {w w':wO} {base sz n base' r R P:Nat} {e e':TypeId} {v:vO} {xs:List vO} {p:Int} {a H f g x A y:Nat->Int} {L:Lp} {t:Tg} {T:Li}
def zE (h:w.ownsRow base e sz v n xs):∀k,v.ownBlock=some k->base<=k:=by
 obtain⟨f,h⟩:=h;rcases h with ⟨rfl,_⟩ | ⟨b,cap,a,rfl,c,d,r⟩
 ·intro k h;cases h
 intro k h;have:b=k:=by simpa [Value.ownBlock] using h
 lia
def zA (h:w.ownsRow base e sz v n xs):∀k,v.ownBlock=some k->k<w.heap.size:=by
 obtain⟨f,h⟩:=h;rcases h with ⟨rfl,_⟩ | ⟨b,cap,a,rfl,c,d,r⟩
 ·intro k h;cases h
 intro k h;have e:b=k:=by simpa [Value.ownBlock] using h
 grind
theorem Ui {m:Nat} {g:Nat} {f:Nat->vO} (h:w.ownsRow base e sz v n xs) (hr:zr w g e' m f) (i:e'≠e):some g≠v.ownBlock:=by
 obtain⟨l,h⟩:=h;rcases h with ⟨rfl,_⟩ | ⟨d,cap,b,rfl,j,k,r⟩
 ·intro h;cases h
 intro h;have a:g=d:=by simpa [Value.ownBlock] using h
 subst a;obtain⟨c,hb,_,_⟩:=hr;simp_all
theorem zD (h:w.ownsRow base e sz v n xs):∃a cap,v=.slice a n cap/\n<=cap/\cap<=maxLen:=by
 obtain⟨b,h⟩:=h;grind
def s3 (h:w.ownsRow base e sz v n xs) (hb:base'<=base):w.ownsRow base' e sz v n xs:=by
 obtain⟨b,h⟩:=h;refine⟨b,?_⟩;rcases h with h | ⟨g,cap,a,c,d,r⟩
 ·exact .inl h
 exact .inr ⟨g,cap,a,c,lI,r⟩
def yJ (h:w.ownsRow base e sz v n xs) (d:∀g,v.ownBlock=some g->w'.heap[g]?=w.heap[g]?):w'.ownsRow base e sz v n xs:=by
 obtain⟨f,h⟩:=h;refine⟨f,?_⟩;rcases h with h | ⟨g,cap,a,b,c,hb,r⟩
 ·exact .inl h
 exact .inr ⟨g,cap,a,b,c,by rw [d g (by rw [b];rfl)];exact hb,r⟩
def Bh {c:Nat} {v':vO} {m:Nat} {d:List vO} (h:w.ownsRow base e sz v n xs) (b:w.ownsRow base' e' c v' m d) (u:e≠e'):∀g,v.ownBlock=some g->some g≠v'.ownBlock:=by
 intro g j a;obtain⟨_,h⟩:=h;obtain⟨_,b⟩:=b;rcases h with ⟨rfl,_⟩ | ⟨k,q,f,rfl,_,p,_⟩
 ·cases j
 rcases b with ⟨rfl,_⟩ | ⟨l,r,i,rfl,_,o,_⟩
 ·cases a
 have s:k=g:=by simpa [Value.ownBlock] using j
 have t:g=l:=by simpa [Value.ownBlock] using a
 simp_all
def LS (w:wO) (a b c:vO) (t:TypeId):∀(j:Nat) (u:vO),[a,b,c][j]?=some u->(w.alloc (.cells #[a,b,c] t)).cell? (((E w.heap.size 0):Addr).add j)=some u:=by
 intro j u f;have hb:(w.alloc (.cells #[a,b,c] t)).heap[w.z]?=some (.cells #[a,b,c] t (0,0)):=by show (w.heap.push _)[w.z]?=_;simp
 have d:((E w.z 0):Addr).add j=(E w.z j):=by simp [Addr.add];lia
 simp_all
def Ed.nil:Ed:=⟨0,0,0,0⟩
def zJ (l:List Ed) (i:Nat):Ed:=l.getD i Ed.nil
def zY (d:Ed):List vO:=[J d.fr,J d.to,J d.bk,J d.wt]
def yI (l:List Ed):List vO:=l.flatMap zY
theorem Bi (l:List Ed) (d:Ed):yI l++zY d=yI (l++[d]):=by unfold yI;simp
theorem pO (l:List Ed):(yI l).length=l.length*4:=by
 induction l with
 | nil=>rfl
 | cons d l ih =>show (zY d++yI l).length=(l.length+1)*4;rw [Qt,ih];show 4+_=_;lia
def LT (l:List Ed):∀i c,i<l.length->c<4->(yI l)[i*4+c]?=(zY (zJ l i))[c]?:=by
 induction l with
 | nil=>intro i c h;exact absurd h (Qv _)
 | cons d l ih =>
  intro i c h b;show (zY d++yI l)[i*4+c]?=_;have a:(zY d).length=4:=rfl;cases i with
  | zero =>rw [Wj lI,EY,QO];rfl
  | succ i =>rw [Ww lI,a,show (i+1)*4+c - 4=i*4+c from lI,ih i c (by simpa using h) b];rfl
def ZD (w:wO) (v:vO) (l:List Ed):Prop :=
 ∃ a cap,v=.slice a l.length cap/\l.length<=cap/\cap<=maxLen /\
   (0<l.length->∃blk off,a=some (E blk off)/\blk<w.heap.size/\∀i,i<l.length->∀j,j<4->w.cell? (E blk (off+i*4+j))=(zY (zJ l i))[j]?)
def ZD.gE {l:List Ed} (h:ZD w v l) (hb:Bw w w'):ZD w' v l:=by obtain⟨a,cap,e,h1,f,g⟩:=h;refine⟨a,cap,e,h1,f,fun m=>?_⟩;obtain⟨b,c,d,k,n⟩:=g m;exact⟨b,c,d,Qu k hb.size,fun i hi j o=>by grind [ze]⟩
def Bj (w:wO) (a b c d:vO) (t:TypeId):∀(j:Nat) (u:vO),[a,b,c,d][j]?=some u->(w.alloc (.cells #[a,b,c,d] t)).cell? (((E w.heap.size 0):Addr).add j)=some u:=by
 intro j u g;have hb:(w.alloc (.cells #[a,b,c,d] t)).heap[w.z]?=some (.cells #[a,b,c,d] t (0,0)):=by show (w.heap.push _)[w.z]?=_;simp
 have f:((E w.z 0):Addr).add j=(E w.z j):=by simp [Addr.add];lia
 simp_all
def nU {b o:Nat} {x:Ed} (h:∀j,j<4->w.cell? (E b (o+j))=(zY x)[j]?) :
  w.cell? (E b o)=Y x.fr/\w.cell? (E b (o+1))=Y x.to/\w.cell? (E b (o+2))=Y x.bk/\w.cell? (E b (o+3))=Y x.wt :=
 ⟨h 0 lI,h 1 lI,h 2 lI,h 3 lI⟩
def Vn (p:Int) (e:Ed):Int:=e.wt - p*e.bk
def mT (l:List Ed) (p:Int):Prop:=∃h:Nat->Int,∀e∈l,h e.fr.toNat+Vn p e<=h e.to.toNat
def V0 (p:Int) (a:Nat->Int) (e:Ed):Nat->Int:=if a e.to.toNat<a e.fr.toNat+Vn p e then (fun v=>if v=e.to.toNat then a e.fr.toNat+Vn p e else a v) else a
def jF (p:Int) (a:Nat->Int) (e:Ed):Bool:=decide (a e.fr.toNat+Vn p e<=a e.to.toNat)
def yR (p:Int) (l:List Ed) (a:Nat->Int):Nat->Nat->Int
 | 0=>a
 | k+1=>V0 p (yR p l a k) (zJ l k)
def zt (p:Int) (l:List Ed):Nat->Nat->Int
 | 0=>fun _=>0
 | r+1=>yR p l (zt p l r) l.length
def ZS (p:Int) (l:List Ed) (a:Nat->Int):Bool:=zF (fun k=>jF p a (zJ l k)) l.length
def xC (n:Nat) (l:List Ed) (p:Int):Bool:=jz (fun r=>ZS p l (zt p l r)) (n+1)
def Vb {l:List Ed} {i:Nat} (h:i<l.length):zJ l i∈l:=by grind [zJ]
def pP {l:List Ed} {e:Ed} (h:e∈l):∃i,i<l.length/\zJ l i=e:=by obtain⟨i,hi,rfl⟩:=Wl.1 h;exact⟨i,hi,by grind [zJ]⟩
theorem ZO {l:List Ed}:ZS p l a=true↔∀e∈l,a e.fr.toNat+Vn p e<=a e.to.toNat:=by
 unfold ZS;constructor
 ·intro h e b;obtain⟨i,hi,rfl⟩:=pP b;exact QI (zq h i hi)
 intro h;exact yk fun i hi=>Qi (h _ (Vb hi))
theorem LU {l:List Ed} (h:xC n l p):mT l p:=by obtain⟨r,-,hr⟩:=nk.1 h;exact⟨zt p l r,ZO.1 hr⟩
def Bk (p:Int) (a:Nat->Int) (e:Ed) (v:Nat):a v<=V0 p a e v:=by
 unfold V0;split
 ·rename_i h;show a v<=if v=e.to.toNat then _ else a v
  grind
 exact QR _
def Bl (p:Int) (a:Nat->Int) (e:Ed) (b:True):a e.fr.toNat+Vn p e<=V0 p a e e.to.toNat:=by
 unfold V0;split
 ·simp_all
 lia
theorem LV {e:Ed} {v:Nat} (h:v≠e.to.toNat):V0 p a e v=a v:=by
 unfold V0;split
 ·exact Qe h
 rfl
theorem s4 {e:Ed} {v:Nat} (h:V0 p a e v≠a v):v=e.to.toNat/\V0 p a e v=a e.fr.toNat+Vn p e:=by
 by_cases b:v=e.to.toNat
 ·refine⟨b,?_⟩;subst b;unfold V0 at h ⊢;split
  ·exact Qf rfl
  rename_i h2;rw [Qe h2] at h;exact absurd rfl h
 grind [LV]
def mU (p:Int) (l:List Ed) (a:Nat->Int) (v:Nat):∀i j,i<=j->yR p l a i v<=yR p l a j v:=by
 intro i j h;induction j with
 | zero => obtain rfl:i=0:=lI
           exact QR _
 | succ j ih =>
  by_cases e:i=j+1
  ·subst e;exact QR _
  exact WK (ih lI) (Bk _ _ _ _)
def Ys (p:Int) (l:List Ed) (v:Nat):∀r s,r<=s->zt p l r v<=zt p l s v:=by
 intro r s h;induction s with
 | zero => obtain rfl:r=0:=lI
           exact QR _
 | succ s ih =>
  by_cases e:r=s+1
  ·subst e;exact QR _
  exact WK (ih lI) (mU p l _ v 0 _ (Ql _))
def LW {e:Ed} (b:∀v,a v<=H v) (c:H e.fr.toNat+Vn p e<=H e.to.toNat):∀v,V0 p a e v<=H v:=by grind [s4]
def Bm {l:List Ed} (c:∀v,a v<=H v) (b:∀e∈l,H e.fr.toNat+Vn p e<=H e.to.toNat):∀k,k<=l.length->∀v,yR p l a k v<=H v:=by
 intro k;induction k with
 | zero=>exact fun _=>c
 | succ k ih=>exact fun d=>LW (ih lI) (b _ (Vb d))
def Bn {l:List Ed} (h0:∀v,0<=H v) (a:∀e∈l,H e.fr.toNat+Vn p e<=H e.to.toNat):∀r v,zt p l r v<=H v:=by
 intro r;induction r with
 | zero=>exact h0
 | succ r ih=>exact Bm ih a _ (Qc _)
def xz (f:Nat->Int):Nat->Int
 | 0=>0
 | n+1=>xz f n+f n
def Bo:∀n,(∀v,v<n->f v<=g v)->xz f n<=xz g n:=by
 intro n;induction n with
 | zero=>exact fun _=>QR _
 | succ n ih =>intro h;have h1:=ih fun v b=>h v lI;have a:=h n lI;show xz f n+f n<=xz g n+g n;lia
def LX:∀n,(∀v,v<n->f v<=g v)->(∃v,v<n/\f v<g v)->xz f n<xz g n:=by
 intro n;induction n with
 | zero=>rintro _ ⟨v,c,_⟩;lia
 | succ n ih =>
  rintro h ⟨v,c,a⟩;show xz f n+f n<xz g n+g n;by_cases e:v=n
  ·subst e;have:=Bo v fun u b=>h u lI;lia
  have h1:=ih (fun u b=>h u lI) ⟨v,lI,a⟩;grind
def LY {l:List Ed} (h:ZS p l a=false):∃e∈l,a e.to.toNat<yR p l a l.length e.to.toNat:=by
 have h1:¬∀e∈l,a e.fr.toNat+Vn p e<=a e.to.toNat:=fun b=>by grind [ZO]
 obtain⟨e,f⟩:∃e,¬(e∈l->a e.fr.toNat+Vn p e<=a e.to.toNat):=Classical.not_forall.1 h1;have d:e∈l:=Classical.byContradiction fun b=>f fun c=>absurd c b;have j:¬a e.fr.toNat+Vn p e<=a e.to.toNat:=fun b=>f fun _=>b;obtain⟨i,hi,rfl⟩:=pP d;refine⟨_,d,?_⟩;have b:a (zJ l i).fr.toNat+Vn p (zJ l i)<=yR p l a (i+1) (zJ l i).to.toNat:=by have c:=Bl p (yR p l a i) (zJ l i) trivial;have g:=mU p l a (zJ l i).fr.toNat 0 i (Ql _);have k:a (zJ l i).fr.toNat<=yR p l a i (zJ l i).fr.toNat:=g;show _<=V0 p (yR p l a i) (zJ l i) (zJ l i).to.toNat;lia
 have c:=mU p l a (zJ l i).to.toNat (i+1) l.length hi;lia
def Bp {l:List Ed} (hn:∀e∈l,e.fr.toNat<n/\e.to.toNat<n) (j:mT l p):∃r,ZS p l (zt p l r):=by
 obtain⟨h,o⟩:=j;obtain⟨C,g⟩:∃C:Int,∀v,v<n->0<=h v+C:=by
  have:∀n,∃C:Int,∀v,v<n->0<=h v+C:=by
   intro n;induction n with
   | zero=>exact⟨0,fun v b=>absurd b (Qv _)⟩
   | succ n ih =>
    obtain⟨C,g⟩:=ih;refine⟨max C (-(h n)),fun v b=>?_⟩;grind
  exact this n
 have d:∀v,0<=(fun v=>if v<n then h v+C else 0) v:=fun v=>by
  grind
 have i:∀e∈l,(fun v=>if v<n then h v+C else 0) e.fr.toNat+Vn p e<=(fun v=>if v<n then h v+C else 0) e.to.toNat:=fun e a=>by
  grind
 have m:=Bn d i;refine Classical.byContradiction fun k=>?_;have hall:∀r,ZS p l (zt p l r)=false:=fun r=>by
  simp_all
 have c:∀r:Nat,(r:Int)<=xz (zt p l r) n:=by
  intro r;induction r with
  | zero =>
   have:∀n,xz (zt p l 0) n=0:=fun n=>by
    induction n with
    | zero=>rfl
    | succ n ih=>show xz (zt p l 0) n+0=0;lia
   grind
  | succ r ih =>obtain⟨e,a,f⟩:=LY (hall r);have:xz (zt p l r) n<xz (zt p l (r+1)) n:=LX n (fun v _=>Ys p l v r (r+1) lI) ⟨_,(hn e a).2,f⟩;lia
 have hb:∀r,xz (zt p l r) n<=xz (fun v=>if v<n then h v+C else 0) n:=fun r=>Bo n fun v _=>m r v;have h1:=c ((xz (fun v=>if v<n then h v+C else 0) n).toNat+1);grind
theorem LZ {l:List Ed} (h:ZS p l (zt p l r)):∀s,r<=s->∀v,zt p l s v=zt p l r v:=by
 intro s hs v;have h1:=Ys p l v r s hs;have a:zt p l s v<=zt p l r v:=by
  have key:∀s,r<=s->∀v,zt p l s v<=zt p l r v:=by
   intro s;induction s with
   | zero => intro h0 v;obtain rfl:r=0:=lI
             exact QR _
   | succ s ih =>
    intro h0 v;by_cases e:r=s+1
    ·subst e;exact QR _
    exact Bm (ih lI) (ZO.1 h) _ (Qc _) v
  exact key s hs v
 lia
def XP (p:Int) (l:List Ed) (m:Nat):Nat->Int:=yR p l (zt p l (m / l.length)) (m % l.length)
def XQ {l:List Ed} (b:0<l.length) (r k:Nat) (c:k<=l.length):XP p l (r*l.length+k)=yR p l (zt p l r) k:=by
 unfold XP;by_cases e:k=l.length
 ·subst e;have h1:(r*l.length+l.length) / l.length=r+1:=sA
  have a:(r*l.length+l.length) % l.length=0:=sA
  rw [h1,a];rfl
 have h1:(r*l.length+k) / l.length=r:=by rw [qR,qV _ _ b,Nat.div_eq_of_lt lI,QO]
 have a:(r*l.length+k) % l.length=k:=by rw [qR,qq];exact qG lI
 rw [h1,a]
def Bq {l:List Ed} (a:0<l.length) (m:Nat):XP p l (m+1)=V0 p (XP p l m) (zJ l (m % l.length)):=by
 have hm:m=(m / l.length)*l.length+m % l.length:=by have:=Nat.div_add_mod m l.length;grind
 have c:m % l.length<l.length:=E7 _ a;have b:XP p l (m+1)=yR p l (zt p l (m / l.length)) (m % l.length+1):=by rw [<-XQ a (m / l.length) (m % l.length+1) lI];congr 1;lia
 rw [b];rfl
def Br {l:List Ed} (a:0<l.length) (v:Nat):∀i j,i<=j->XP p l i v<=XP p l j v:=by
 intro i j h;induction j with
 | zero => obtain rfl:i=0:=lI
           exact QR _
 | succ j ih =>
  by_cases e:i=j+1
  ·subst e;exact QR _
  rw [Bq a];exact WK (ih lI) (Bk _ _ _ _)
def Zq (x A:Nat->Int):Nat->Nat
 | 0=>0
 | n+1=>Zq x A n+(if x n=A n then 0 else 1)
def Bs (x A:Nat->Int) (n:Nat):Zq x A n<=n:=by
 induction n with
 | zero=>exact Qc _
 | succ n ih =>show Zq x A n+(if x n=A n then 0 else 1)<=n+1;split <;> lia
theorem Bt (h:Zq x A n=0):∀v,v<n->x v=A v:=by
 induction n with
 | zero=>intro v a;lia
 | succ n ih =>
  grind [Zq]
def s9:∀n,(∀v,v<n->x v=A v->y v=A v)->Zq y A n<=Zq x A n:=by
 intro n;induction n with
 | zero=>exact fun _=>Qc _
 | succ n ih =>
  grind [Zq]
def td:∀n,(∀v,v<n->x v=A v->y v=A v)->(∃v,v<n/\x v≠A v/\y v=A v)->Zq y A n<Zq x A n:=by
 intro n;induction n with
 | zero=>rintro _ ⟨v,c,_⟩;lia
 | succ n ih =>
  rintro h ⟨v,c,h1,a⟩;show Zq y A n+(if y n=A n then 0 else 1)<Zq x A n+(if x n=A n then 0 else 1);by_cases e:v=n
  ·subst e;rw [Qe h1,Qf a];have:=s9 v fun u b=>h u lI;lia
  have d:=ih (fun u b=>h u lI) ⟨v,lI,h1,a⟩;grind
def Bu (h:Zq x A n≠0):∃v,v<n/\x v≠A v:=by
 refine Classical.byContradiction fun a=>h ?_;have:∀v,v<n->x v=A v:=fun v b=>Classical.byContradiction fun c=>a ⟨v,b,c⟩;clear h a;induction n with
 | zero=>rfl
 | succ n ih =>show Zq x A n+(if x n=A n then 0 else 1)=0;rw [ih fun v b=>this v lI,Qf (this n lI)]
def L0 {P:Nat->Prop} (h:∃m,P m):∃m,P m/\∀k,k<m->¬P k:=by
 obtain⟨m,hm⟩:=h;induction m using Nat.strongRecOn with
 | _ m ih =>
  grind
def Bv {l:List Ed} (b:0<l.length) (hn:∀e∈l,e.fr.toNat<n/\e.to.toNat<n) (hR:ZS p l (zt p l R)) (hr:r<=R) (C:∃v,v<n/\zt p l r v≠zt p l R v) :
  ∃v,v<n/\zt p l r v≠zt p l R v/\zt p l (r+1) v=zt p l R v:=by
 have hA:∀m v,XP p l m v<=zt p l R v:=fun m v=>by have h1:=Br (p:=p) b v m ((R+m)*l.length) (by have:m<=(R+m)*l.length:=QH (Nat.le_add_left m R) (EW _ b);exact this);have a:=XQ (p:=p) b (R+m) 0 (Ql _);rw [WG] at a;rw [a] at h1;have f:yR p l (zt p l (R+m)) 0 v=zt p l (R+m) v:=rfl;grind [LZ]
 have A:∀v,XP p l (r*l.length) v=zt p l r v:=fun v=>by have:=XQ (p:=p) b r 0 (Ql _);rw [WG] at this;rw [this];rfl
 have H:∀v,XP p l (r*l.length+l.length) v=zt p l (r+1) v:=fun v=>by rw [XQ b r l.length (Qc _)];rfl
 obtain⟨m,hm,B⟩:=L0 (P:=fun m=>∃v,v<n/\zt p l r v≠zt p l R v/\XP p l (r*l.length+m+1) v=zt p l R v) (by obtain⟨v,g,d⟩:=C;refine⟨(R - r)*l.length,v,g,d,?_⟩;have h1:=Br (p:=p) b v (R*l.length) (r*l.length+(R - r)*l.length+1) (by rw [<-Nat.add_mul,show r+(R - r)=R by lia];lia);have a:=XQ (p:=p) b R 0 (Ql _);rw [WG] at a;rw [a] at h1;have f:yR p l (zt p l R) 0 v=zt p l R v:=rfl;rw [f] at h1;have j:=hA (r*l.length+(R - r)*l.length+1) v;lia);obtain⟨v,g,d,o⟩:=hm;have k:∀u,u<n->zt p l r u≠zt p l R u->XP p l (r*l.length+m) u≠zt p l R u:=fun u D c a=>by
  cases m with
  | zero=>rw [WG,A] at a;exact c a
  | succ m=>exact B m lI ⟨u,D,c,a⟩
 have s:=k v g d;rw [Bq b] at o;have q:V0 p (XP p l (r*l.length+m)) (zJ l ((r*l.length+m) % l.length)) v≠XP p l (r*l.length+m) v:=fun a=>s lI;obtain⟨x,y⟩:=s4 q;have h:zJ l ((r*l.length+m) % l.length)∈l:=Vb (E7 _ b);generalize zJ l ((r*l.length+m) % l.length)=e at *
 rw [o] at y;have t:=ZO.1 hR e h;have I:=hA (r*l.length+m) e.fr.toNat;rw [<-x] at t;have z:XP p l (r*l.length+m) e.fr.toNat=zt p l R e.fr.toNat:=lI
 have G:zt p l r e.fr.toNat=zt p l R e.fr.toNat:=Classical.byContradiction fun a=>k _ (hn e h).1 a z;refine⟨v,g,d,?_⟩;obtain⟨i,hi,F⟩:=pP h;have h1:zt p l R v<=yR p l (zt p l r) (i+1) v:=by have f:=Bl p (yR p l (zt p l r) i) e trivial;have j:=mU p l (zt p l r) e.fr.toNat 0 i (Ql _);have K:zt p l r e.fr.toNat<=yR p l (zt p l r) i e.fr.toNat:=j;show _<=V0 p (yR p l (zt p l r) i) (zJ l i) v;grind
 have a:=mU p l (zt p l r) v (i+1) l.length hi;have f:zt p l (r+1) v<=zt p l R v:=rQ
 have j:yR p l (zt p l r) l.length v=zt p l (r+1) v:=rfl;lia
def Bx {l:List Ed} (hn:∀e∈l,e.fr.toNat<n/\e.to.toNat<n) (f:mT l p):xC n l p:=by
 by_cases g:0<l.length
 ·obtain⟨R,hR⟩:=Bp hn f;have i:∀r,r<=R->Zq (zt p l r) (zt p l R) n+r<=n\/Zq (zt p l r) (zt p l R) n=0:=by
   intro r;induction r with
   | zero=>exact fun _=>.inl (by simp [Bs])
   | succ r ih =>
    intro hr;have a:∀v,v<n->zt p l r v=zt p l R v->zt p l (r+1) v=zt p l R v:=fun v _ h=>by have h1:=Ys p l v r (r+1) lI;have b:=Ys p l v (r+1) R hr;lia
    by_cases h0:Zq (zt p l r) (zt p l R) n=0
    ·have:=s9 n a;lia
    obtain⟨v,h1,b,c⟩:=Bv g hn hR lI (Bu h0);have:=td n a ⟨v,h1,b,c⟩;lia
  by_cases d:R<=n
  ·exact ZX (k:=R) lI hR
  have h1:Zq (zt p l n) (zt p l R) n=0:=by
   grind
  refine ZX (k:=n) lI (ZO.2 fun e j=>?_);grind [ZO,Bt]
 have e:l=[]:=Wi.1 lI;subst e;exact ZX (k:=0) lI rfl
def L1 {l:List Ed} (hn:n<=16) (b:∀e∈l,∃fr to bk wt:Nat,e=⟨fr,to,bk,wt⟩/\fr<n/\to<n/\(bk=0->fr<to)/\wt<=6):mT l 96:=by
 refine⟨fun v=>6*v,fun e a=>?_⟩;grind [Vn]
def VP (n:Nat) (l:List Ed) (p:Int):Bool:=jz (fun r=>ZS p l (zt p l r)) n
def L2 {l:List Ed} (g:1<=n) (hn:∀e∈l,e.fr.toNat<n/\e.to.toNat<n) (hR:ZS p l (zt p l R)):∃v,v<n/\zt p l R v=0:=by
 refine Classical.byContradiction fun b=>?_;have d:∀v,v<n->1<=zt p l R v:=fun v f=>by have h0:(0:Int)<=zt p l R v:=Ys p l v 0 R (Ql _);have h1:zt p l R v≠0:=fun h=>b ⟨v,f,h⟩;lia
 have a:=Bn (p:=p) (l:=l) (H:=fun v=>if v<n then zt p l R v - 1 else zt p l R v) (fun v=>by
  show (0:Int)<=if v<n then zt p l R v - 1 else zt p l R v
  split
  ·have:=d v (by assumption);lia
  ·exact Ys p l v 0 R (Ql _)) (fun e c=>by
  obtain⟨h1,a⟩:=hn e c;show (if _<n then _ else _)+Vn p e<=(if _<n then _ else _);rw [Qf h1,Qf a];have:=ZO.1 hR e c;lia) R 0
 rw [Qf lI] at a;lia
theorem L3 {l:List Ed} (c:1<=n) (hn:∀e∈l,e.fr.toNat<n/\e.to.toNat<n) (i:mT l p):VP n l p:=by
 by_cases j:0<l.length
 ·obtain⟨R,hR⟩:=Bp hn i;have q:∀r,r<=R->Zq (zt p l r) (zt p l R) n+r+1<=n\/Zq (zt p l r) (zt p l R) n=0:=by
   intro r;induction r with
   | zero =>intro _;obtain⟨v,m,o⟩:=L2 c hn hR;have h1:Zq (zt p l 0) (zt p l R) n<Zq (fun v=>zt p l R v+1) (zt p l R) n:=td n (fun v _ h=>lI) ⟨v,m,lI,by rw [o];rfl⟩;have:=Bs (fun v=>zt p l R v+1) (zt p l R) n;exact .inl lI
   | succ r ih =>
    intro hr;have b:∀v,v<n->zt p l r v=zt p l R v->zt p l (r+1) v=zt p l R v:=fun v _ h=>by have h1:=Ys p l v r (r+1) lI;have a:=Ys p l v (r+1) R hr;lia
    by_cases h0:Zq (zt p l r) (zt p l R) n=0
    ·have:=s9 n b;lia
    obtain⟨v,h1,a,d⟩:=Bv j hn hR lI (Bu h0);have:=td n b ⟨v,h1,a,d⟩;lia
  by_cases f:R<=n - 1
  ·exact ZX (k:=R) lI hR
  have h1:Zq (zt p l (n - 1)) (zt p l R) n=0:=by
   grind
  refine ZX (k:=n - 1) lI (ZO.2 fun e g=>?_);have a:=ZO.1 hR e g;grind [Bt]
 have e:l=[]:=Wi.1 lI;subst e;exact ZX (k:=0) lI rfl
def L4 {l:List Ed} (a:1<=n) (hn:∀e∈l,e.fr.toNat<n/\e.to.toNat<n):VP n l p=xC n l p:=by grind [VP,xC,L3,LU,nk]
def Xy (L:Lp) (c:Nat):Nat:=cnt (fun i=>decide (ye (zc L.b i).o=(c:Int))) L.b.length
def Xe (n u:Nat):Nat:=(n+u - 1) / u
def te {u q:Nat} (c:1<=u):n<=q*u↔Xe n u<=q:=by
 unfold Xe;constructor
 ·intro h;have h1:n+u - 1<(q+1)*u:=by rw [Eo];lia
  exact Nat.le_of_lt_succ (Nat.div_lt_of_lt_mul rQ)
 intro h;have h1:=Nat.div_add_mod (n+u - 1) u;have a:=E7 (n+u - 1) (show u > 0 by lia);have b:u*((n+u - 1) / u)<=u*q:=Nat.mul_le_mul_left _ h;grind
def kI (L:Lp) (t:Tg):Nat->Nat
 | 0=>1
 | c+1=>max (kI L t c) (Xe (Xy L c) (yf t c).toNat)
def ZL (L:Lp) (t:Tg):Nat:=kI L t 3
def XA (p:Nat->Bool):Nat->Nat->Nat
 | 0,s=>s
 | f+1,s=>if p s=true then s else XA p f (s+1)
def tg {p:Nat->Bool}:∀f s,(∃q,s<=q/\q<=s+f/\p q)->p (XA p f s)/\s<=XA p f s/\XA p f s<=s+f/\∀q,s<=q->q<XA p f s->p q=false:=by
 intro f;induction f with
 | zero =>
  rintro s ⟨q,h1,c,a⟩;obtain rfl:q=s:=lI
  exact⟨a,Qc _,Qc _,fun g d b=>absurd b (by show ¬g<q;lia)⟩
 | succ f ih =>
  rintro s ⟨q,h1,c,a⟩;unfold XA;by_cases h:p s
  ·grind
  rw [Qe h];have k:q≠s:=fun e=>h (e ▸ a);obtain⟨d,b,i,j⟩:=ih (s+1) ⟨q,lI,lI,a⟩;grind
def xS (L:Lp) (t:Tg):Nat:=XA (fun p=>xC L.b.length (zf L t) p) 95 1
def ZW (hm:zQ L):∀e∈zf L t,∃fr to bk wt:Nat,e=⟨fr,to,bk,wt⟩/\fr<L.b.length/\to<L.b.length/\(bk=0->fr<to)/\wt<=6/\bk<=32:=by
 intro e f;obtain⟨fr,to,b,x,h1,i,rfl,o⟩:=ny _ f;obtain⟨c,g,a,j,d,-,-,p⟩:=GQ hm f;have l:(b:Int)=a:=congrArg Ed.bk d;have m:(fr:Int)=c:=congrArg Ed.fr d;have n:(to:Int)=g:=congrArg Ed.to d;refine⟨fr,to,b,x,rfl,h1,i,fun h=>lI,?_⟩;have hb:∀k,(⟨fr,to,b,x⟩:Ed)∈jX L t k->x<=6/\b<=32:=by
  have w1:∀{fr to bk:Nat} {e:Ed} k,e∈jB L t fr to bk k->∃y:Nat,y<k/\e=⟨fr,to,bk,y⟩:=fun k h=>by grind [pd]
  have w2:∀{fr to:Nat} {e:Ed} k,e∈jG L t fr to k->∃b y:Nat,b<k/\y<7/\e=⟨fr,to,b,y⟩:=by
   intro fr to e k;induction k with
   | zero=>intro h;cases h
   | succ k ih =>
    intro h;rcases QK.1 h with h | h
    ·grind
    grind
  have q:∀{fr:Nat} {e:Ed} k,e∈jW L t fr k->∃to b y:Nat,b<33/\y<7/\e=⟨fr,to,b,y⟩:=by
   intro fr e k;induction k with
   | zero=>intro h;cases h
   | succ k ih =>
    intro h;rcases QK.1 h with h | h
    ·exact ih h
    grind
  intro k;induction k with
  | zero=>intro h;cases h
  | succ k ih =>
   intro h;rcases QK.1 h with h | h
   ·exact ih h
   grind
 exact hb _ f
def th (hm:zQ L):∃q,1<=q/\q<=1+95/\(fun p:Nat=>xC L.b.length (zf L t) p) q:=by obtain⟨-,-,a,-⟩:=zy hm;have d:=ZW (t:=t) hm;refine⟨96,lI,lI,?_⟩;exact Bx (fun e c=>rQ) (L1 a fun e c=>rQ)
def lj (L:Lp) (P:Int) (T:Li) (i j:Nat):Bool:=decide ((ak T j).tmod P=(ak T i).tmod P) && decide (ye (zc L.b j).o=ye (zc L.b i).o)
def Ut (L:Lp) (P:Int) (T:Li) (i:Nat):Nat:=cnt (lj L P T i) T.length
def VS (L:Lp) (t:Tg) (P:Int) (T:Li) (i:Nat):Bool:=br (ak T i) 0 1000 && decide ((Ut L P T i:Int)<=yf t (ye (zc L.b i).o))
def UM (P:Int) (T:Li) (e:Ed):Bool:=decide (ak T e.fr.toNat+e.wt<=ak T e.to.toNat+e.bk*P)
def zZ (L:Lp) (t:Tg) (P:Int) (T:Li):Bool :=
 zQ L && zS t && br P 1 200 && decide (T.length=L.b.length) && zF (VS L t P T) T.length && zF (fun i=>UM P T (zJ (zf L t) i)) (zf L t).length
def yw {P:Int} (h:zZ L t P T):zQ L/\zS t/\1<=P/\P<=200/\T.length=L.b.length/\zF (VS L t P T) T.length/\zF (fun i=>UM P T (zJ (zf L t) i)) (zf L t).length:=by grind [zZ,zH]
def Bz (h:zZ L t P T):xS L t<=P:=by obtain⟨hm,-,k,l,-,-,j⟩:=yw h;have n:=ZW (t:=t) hm;have f:mT (zf L t) P:=⟨fun v=>ak T v,fun e d=>by obtain⟨i,hi,rfl⟩:=pP d;have h1:=QI (zq j i hi);unfold Vn;have a:(zJ (zf L t) i).bk*(P:Int)=(P:Int)*(zJ (zf L t) i).bk:=Er _ _;rw [a] at h1;show ak T (zJ (zf L t) i).fr.toNat+((zJ (zf L t) i).wt - (P:Int)*(zJ (zf L t) i).bk)<=ak T (zJ (zf L t) i).to.toNat;lia⟩;have hr:xC L.b.length (zf L t) P:=Bx (fun e d=>rQ) f;obtain⟨h1,a,o,g⟩:=tg 95 1 (th (t:=t) hm);refine Classical.byContradiction fun m=>?_;have c:=g P lI (by grind [xS]);rw [hr] at c;cases c
def L5 (p:Nat->Bool) (k:Nat->Nat) (m:Nat):∀n,(∀i,i<n->p i->k i<m)->cnt p n=(List.range m).foldl (fun s c=>s+cnt (fun i=>p i && decide (k i=c)) n) 0:=by
 have t:∀(f:Nat->Nat) (m a:Nat),(List.range m).foldl (fun s c=>s+f c) a=a+(List.range m).foldl (fun s c=>s+f c) 0:=by
  intro f m;induction m with
  | zero=>intro a;simp
  | succ m ih =>intro a;rw [Wn,Q8,Q8,ih a];simp;lia
 have l:∀(f g:Nat->Nat) (m:Nat),(List.range m).foldl (fun s c=>s+(f c+g c)) 0=(List.range m).foldl (fun s c=>s+f c) 0+(List.range m).foldl (fun s c=>s+g c) 0:=by
  intro f g m;induction m with
  | zero=>rfl
  | succ m ih =>rw [Wn,Q8,Q8,Q8,ih];simp;lia
 have j:∀(q m:Nat),q<m->(List.range m).foldl (fun s c=>s+(if q=c then 1 else 0)) 0=1:=by
  intro q m;induction m with
  | zero=>intro h;lia
  | succ m ih =>
   intro h;rw [Wn,Q8];by_cases e:q=m
   ·subst e;have h0:∀m,m<=q->(List.range m).foldl (fun s c=>s+(if q=c then 1 else 0)) 0=0:=by
     intro m;induction m with
     | zero=>intro _;rfl
     | succ m ih=>intro hm;rw [Wn,Q8,ih lI];simp;lia
    grind
   grind
 have d:∀m,(List.range m).foldl (fun s c=>s+0) 0=0:=by
  intro m;induction m with
  | zero=>rfl
  | succ m ih=>rw [Wn,Q8,ih];rfl
 intro n;induction n with
 | zero=>intro _;exact (d m).s
 | succ n ih =>
  intro h;have h1:=ih fun i hi=>h i lI;have o:(fun (s c:Nat)=>s+cnt (fun i=>p i && decide (k i=c)) (n+1))=fun s c=>s+(cnt (fun i=>p i && decide (k i=c)) n+(if (p n && decide (k n=c))=true then 1 else 0)):=rfl;rw [o,l,<-h1];show cnt p n+(if p n=true then 1 else 0)=_;cases r:p n with
  | false =>have b:(fun (s c:Nat)=>s+(if (false && decide (k n=c))=true then 1 else 0))=fun s c=>s+0:=(by funext s c;simp);rw [b,d];rfl
  | true =>have b:(fun (s c:Nat)=>s+(if (true && decide (k n=c))=true then 1 else 0))=fun s c=>s+(if k n=c then 1 else 0):=(by funext s c;simp);rw [b,j _ _ (h n lI r)];rfl
def L6 (f:Nat->Nat) (u:Nat):∀m,(∀c,c<m->f c<=u)->(List.range m).foldl (fun s c=>s+f c) 0<=m*u:=by
 intro m;induction m with
 | zero=>intro _;simp
 | succ m ih =>intro h;rw [Wn,Q8];have h1:=ih fun c b=>h c lI;have a:=h m lI;simp only [qj,List.foldl_nil];rw [Eo];lia
theorem Yd (p:Nat->Bool) (n:Nat):cnt p n=0\/∃i,i<n/\p i:=by induction n <;> grind [cnt]
def ti {p q:Nat->Bool} (h:∀i,i<n->p i->q i):cnt p n<=cnt q n:=by
 induction n with
 | zero=>exact Qc _
 | succ n ih =>
  grind [cnt]
def BA (h:zZ L t P T):ZL L t<=P:=by
 obtain⟨hm,n,u,v,hlen,hT,-⟩:=yw h;have A:1<=P:=by lia
 have f:∀i,i<T.length->0<=ak T i/\((Ut L P T i:Int)<=yf t (ye (zc L.b i).o)):=fun i hi=>by grind [zq,VS,zH]
 have r:∀c:Nat,1<=yf t c:=fun c=>by
  obtain⟨h1,a,g,-,-⟩:=yi n;have h1:=yG h1;have a:=yG a;have g:=yG g;grind [yf]
 have d:∀c:Nat,c<3->Xe (Xy L c) (yf t c).toNat<=P:=fun c B=>by
  refine (te (by have:=r c;lia)).1 ?_;have h1:=L5 (fun i=>decide (ye (zc L.b i).o=(c:Int))) (fun i=>((ak T i) % (P:Int)).toNat) P L.b.length (fun i hi _=>by have:=QP (ak T i) (show (0:Int)<P by lia);have:=QS (ak T i) (show (P:Int)≠0 by lia);show ((ak T i) % (P:Int)).toNat<P;lia);unfold Xy;rw [h1];refine L6 _ _ P fun s hs=>?_;rcases Yd (fun i=>decide (ye (zc L.b i).o=(c:Int)) && decide (((ak T i) % (P:Int)).toNat=s)) L.b.length with h0 | ⟨i,hi,l⟩
  ·lia
  simp only [Qg,QE] at l;obtain⟨m,x⟩:=l;have a:=(f i (by lia)).2;rw [m] at a;have g:cnt (fun j=>decide (ye (zc L.b j).o=(c:Int)) && decide (((ak T j) % (P:Int)).toNat=s)) L.b.length<=Ut L P T i:=by unfold Ut;rw [hlen];refine ti fun j C k=>?_;simp only [Qg,QE] at k;unfold lj;have p:=(f i (by lia)).1;have q:=(f j (by lia)).1;have y:=QS (ak T i) (show (P:Int)≠0 by lia);have z:=QS (ak T j) (show (P:Int)≠0 by lia);rw [Wo p,Wo q,Qi (by lia),Qi (by lia)];rfl
  lia
 have h0:=d 0 (by lia);have h1:=d 1 (by lia);have a:=d 2 (by lia);show max (max (max 1 (Xe (Xy L 0) (yf t (0:Nat)).toNat)) (Xe (Xy L 1) (yf t (1:Nat)).toNat)) (Xe (Xy L 2) (yf t (2:Nat)).toNat)<=P;lia
def L7 (L:Lp) (t:Tg):1<=ZL L t:=by show 1<=max (max (max 1 _) _) _;lia
end
section
variable {q:Nx} {i s n:Nat}
section
section
variable (t:Tg) (K:Kn) (logs:Li) (gD:Nat) (s0:i')
end
variable {t:Tg} {K:Kn} {logs:Li} {gD:Nat} {s0:i'}
end
section
variable {t:Tg} {K:Kn} {logs:Li} {gD:Nat} {s0:i'}
end
section
def PY:∀(n:Nat) (f:Nat->Nat),(∀s,s<n->f s<n)->(∀s a,s<n->a<n->f s=f a->s=a)->∀k,k<n->∃s,s<n/\f s=k:=by
 intro n;induction n with
 | zero=>intro f _ _ k l;lia
 | succ n ih =>
  intro f j hi k l;have g:=ih (fun s=>if f s=n then f n else f s) (fun s hs=>by
   show (if f s=n then f n else f s)<n;split
   ·next e =>
    grind
   ·next e=>have:=j s lI;lia) (fun s a hs m e=>by
   have b:(if f s=n then f n else f s)=(if f a=n then f n else f a):=e;split at b
   ·next e1 =>
    grind
   next e1 =>
   split at b
   ·next c=>have:=hi s n lI lI b;lia
   next c=>exact hi s a lI lI b)
  by_cases e:k=f n
  ·grind
  by_cases c:k=n
  ·have i:f n<n:=(by grind);obtain⟨s,hs,d⟩:=g (f n) i;grind
  obtain⟨s,hs,d⟩:=g k lI;have h:(if f s=n then f n else f s)=k:=d;split at h
  ·lia
  grind
section
variable (t:Tg) (K:Kn) (O:Li)
def Vp (s:Nat):Nat:=(ak O s).toNat
def dq (s:Nat):bt:=zv K.ops (Vp O s)
def xy (s:Nat):Int:=(dq K O s).sl+K.pc*(dq K O s).sg
def zP (s:Nat):Int:=xy K O s+yj t (dq K O s).o
def zC (s:Nat):Int:=(dq K O s).d+(dq K O s).sg
end
structure ug (L:Lp) (t:Tg) (K:Kn) (O:Li):Prop where
 may:zQ L
 mayt:zS t
 mayk:X7 t K L.l
 nops:K.ops.length=L.b.length
 ord:∀s,s<L.b.length->Vp O s<L.b.length
 inj:∀s s',s<L.b.length->s'<L.b.length->Vp O s=Vp O s'->s=s'
 same:∀s,s<L.b.length->(dq K O s).o=(zc L.b s).o/\(dq K O s).ar=(zc L.b s).ar/\(dq K O s).sp=(zc L.b s).sp/\(dq K O s).pl=(zc L.b s).pl/\(dq K O s).nn=(zc L.b s).nn
 edge:∀e∈zf L t,xy K O e.fr.toNat+e.wt<=xy K O e.to.toNat+e.bk*K.pc
 nameA:∀s,s<L.b.length->(zc L.b s).o=4\/10<(zc L.b s).o->(dq K O s).a=(zC K O (zc L.b s).xa.toNat - (zc L.b s).xb - (dq K O s).sg) % t.r
 nameB:∀s,s<L.b.length->10<(zc L.b s).o->(dq K O s).b=(zC K O (zc L.b s).ya.toNat - (zc L.b s).yb - (dq K O s).sg) % t.r
 kept:∀s,s<L.b.length->∀r∈zu (zc L.b s),∀m,m<L.b.length->∀j:Int,¬(m=r.1.toNat/\j=0)->(zC K O m+j - zC K O r.1.toNat) % t.r=0 ->
  (zP t K O m+j*K.pc<zP t K O r.1.toNat\/xy K O s+r.2*K.pc<zP t K O m+j*K.pc)/\(0<r.2->0<j->xy K O s+r.2*K.pc<zP t K O m+j*K.pc)
 told:∀a∈L.o,∀m,m<L.b.length->∀j:Int,j<=0->¬(m=a.toNat/\j=0)->(zC K O m+j - zC K O a.toNat) % t.r=0->zP t K O m+j*K.pc<zP t K O a.toNat
variable {L:Lp} {t:Tg} {K:Kn} {O:Li} {B M:List Li} {R:Li} {gD:Nat}
def ug.hit (h:ug L t K O) {k:Nat} (a:k<K.ops.length):∃s,s<L.b.length/\Vp O s=k:=PY _ _ h.ord h.inj k (by rw [<-h.nops];exact a)
end
section
def UA (len:Nat->Nat):Nat->Nat
 | 0=>0
 | s+1=>UA len s+len s
def XB (len:Nat->Nat) (g:Nat->Nat->Int):Nat->Li
 | 0=>[]
 | s+1=>XB len g s++(List.range (len s)).map (g s)
def Ds (len:Nat->Nat) (g:Nat->Nat->Int):∀k,(XB len g k).length=UA len k:=by intro k;induction k <;> simp_all [XB,UA]
def Dt (len:Nat->Nat):∀k s,s<k->UA len s+len s<=UA len k:=by
 intro k;induction k with
 | zero=>intro s h;lia
 | succ k ih =>
  grind [UA]
def oC (len:Nat->Nat) (g:Nat->Nat->Int):∀k s q,s<k->q<len s->ak (XB len g k) (UA len s+q)=g s q:=by
 intro k;induction k with
 | zero=>intro s q h;lia
 | succ k ih =>
  intro s q h a;show ak (XB len g k++(List.range (len k)).map (g k)) _=_;have c:=Ds len g k;unfold ak;by_cases e:s=k
  ·simp_all
  have b:=Dt len k s lI;rw [List.getD,Wj lI];exact ih s q lI a
def kK (F V:Li):Nat->Nat->Int
 | 0=>fun _=>0
 | k+1=>VM (kK F V k) (ak F k).toNat (ak V k)
theorem PZ {F V:Li}:∀m,(∀i j,i<j->j<m->(ak F i).toNat≠(ak F j).toNat)->∀k,k<m->kK F V m (ak F k).toNat=ak V k:=by
 intro m;induction m with
 | zero=>intro _ k h;lia
 | succ m ih =>
  intro a k b;show VM (kK F V m) (ak F m).toNat (ak V m) (ak F k).toNat=_;grind [VM]
def UO (u:List (Int × Int)) (a:Int) (f:Int):Nat->Int
 | 0=>f
 | k+1=>if (zO u k).1=a/\UO u a f k<(zO u k).2 then (zO u k).2 else UO u a f k
def lr (L:Lp) (a:Int):Nat->Int
 | 0=>0
 | k+1=>UO (zu (zc L.b k)) a (lr L a k) (zu (zc L.b k)).length
def lw (L:Lp) (a:Int):Int:=lr L a L.b.length
def Dv (u:List (Int × Int)) (a f:Int):∀k,f<=UO u a f k:=by
 intro k;induction k with
 | zero=>exact QR _
 | succ k ih =>show f<=(if (zO u k).1=a/\UO u a f k<(zO u k).2 then (zO u k).2 else UO u a f k);split <;> lia
def Dw (u:List (Int × Int)) (a f c:Int) (b:f<=c) (d:∀i,i<u.length->(zO u i).2<=c):∀k,k<=u.length->UO u a f k<=c:=by intro k;induction k <;> grind [UO]
def P1 {u:List (Int × Int)} {r:Int × Int} (h:r∈u):∃i,i<u.length/\zO u i=r:=by obtain⟨i,hi,e⟩:=Wl.1 h;exact⟨i,hi,by grind [zO]⟩
def Xn {u:List (Int × Int)} (h:i<u.length):zO u i∈u:=by grind [zO]
def XT {L:Lp} (hm:zQ L) (hs:s<L.b.length):∀r∈zu (zc L.b s),0<=r.1/\r.1<L.b.length/\0<=r.2/\r.2<=3:=by
 obtain⟨-,-,-,-,-,-,d⟩:=zy hm;have a:=rT (zq d s hs);intro r hr;unfold zu at hr;rcases a with o | o | ⟨o,-⟩ | ⟨o,-,-,h⟩ | ⟨o,f,h,c⟩
 ·simp_all
 ·simp_all
 ·simp_all
 ·rw [Qf o,QT] at hr;subst hr;exact rS h lI
 rw [Qe lI,Qf lI,WE,QT] at hr;rcases hr with rfl | rfl
 ·exact rS h lI
 exact rS c lI
def uh {L:Lp} (hm:zQ L) (a:Int):∀k,k<=L.b.length->lr L a k<=3:=by
 intro k;induction k with
 | zero=>intro _;show (0:Int)<=3;lia
 | succ k ih=>intro c;exact Dw _ _ _ _ (ih lI) (fun i hi=>(XT hm lI _ (Xn hi)).2.2.2) _ (Qc _)
def ui (L:Lp) (a:Int):∀k,0<=lr L a k:=by
 intro k;induction k with
 | zero=>exact QR _
 | succ k ih=>exact WK ih (Dv _ _ _ _)
section
variable (L:Lp) (t:Tg) (K:Kn) (O:Li)
def Yp (s:Nat):Bool:=br (ak O s) 0 (L.b.length - 1) && zF (fun i=>!decide (ak O i=ak O s)) s
def XM (s:Nat):Bool:=decide ((dq K O s).o=(zc L.b s).o) && decide ((dq K O s).ar=(zc L.b s).ar) && decide ((dq K O s).sp=(zc L.b s).sp) && decide ((dq K O s).pl=(zc L.b s).pl) && decide ((dq K O s).nn=(zc L.b s).nn)
def xW:Bool:=zQ L && zS t && X7 t K L.l && decide (K.ops.length=L.b.length) && decide (O.length=L.b.length) && zF (fun s=>Yp L O s && XM L K O s) L.b.length
def lx (e:Ed):Bool:=decide (xy K O e.fr.toNat+e.wt<=xy K O e.to.toNat+e.bk*K.pc)
def uj (s i:Nat):Bool:=decide ((if i=1 then (dq K O s).b else (dq K O s).a)=(zC K O (zO (zu (zc L.b s)) i).1.toNat - (zO (zu (zc L.b s)) i).2 - (dq K O s).sg) % t.r)
def kL (a:Nat) (bk u:Int) (m:Nat) (j:Int):Bool:=(decide (zP t K O a<=zP t K O m+j*K.pc) && decide (zP t K O m+j*K.pc<=u)) || (decide (0<bk) && decide (0<j) && decide (zP t K O m+j*K.pc<=u))
def ly (a:Nat) (bk u:Int) (m:Nat) (j:Int):Bool:=!kL t K O a bk u m j || (decide (m=a) && decide (j=0)) || !decide ((zC K O m+j - zC K O a) % t.r=0)
def um (a:Nat) (bk u:Int):Bool:=zF (fun m=>zF (fun j=>ly t K O a bk u m ((j:Int) - 4100)) 8201) L.b.length
def lU (s i:Nat):Bool:=uj L t K O s i && um L t K O (zO (zu (zc L.b s)) i).1.toNat (zO (zu (zc L.b s)) i).2 (xy K O s+(zO (zu (zc L.b s)) i).2*K.pc)
def xE (s:Nat):Nat:=(lw L s).toNat
def Dx (s q:Nat):Int:=(zC K O s - ((q:Int)+1)) % t.r
def Y1 (k:Nat):Li:=XB (xE L) (Dx t K O) k
def XD (F:Li) (i:Nat):Bool:=zF (fun j=>!decide (ak F j=ak F i)) i
def qS (a m j:Nat):Bool:=decide (zP t K O m - j*K.pc<zP t K O a) || (decide (m=a) && decide (j=0)) || !decide ((zC K O m - j - zC K O a) % t.r=0)
def m9 (a:Nat):Bool:=zF (fun m=>zF (qS t K O a m) 1007) L.b.length
def yg:Bool :=
 xW L t K O && zF (fun i=>lx K O (zJ (zf L t) i)) (zf L t).length && zF (fun s=>zF (lU L t K O s) (zu (zc L.b s)).length) L.b.length
  && zF (XD (Y1 L t K O L.b.length)) (Y1 L t K O L.b.length).length && zF (fun i=>m9 L t K O (ak L.o i).toNat) L.o.length
def V7 (B:List Li) (k:Nat):Li:=XB (xE L) (fun s q=>ak (zB B s) q) k
def P2 (B:List Li):Nat->Int:=kK (Y1 L t K O L.b.length) (V7 L B L.b.length) (UA (xE L) L.b.length)
def U7 (B:List Li):Li:=(List.range t.r.toNat).map (P2 L t K O B)
def Zm (B:List Li) (R:Li) (gD:Int):Li:=L.o.map fun o=>if 0<gD then ak R ((zC K O o.toNat+gD - 1) % t.r).toNat else ak (zB B o.toNat) 0
end
variable {L:Lp} {t:Tg} {K:Kn} {O:Li} {B M:List Li} {R:Li}
def xA (h:xW L t K O):zQ L/\zS t/\X7 t K L.l/\K.ops.length=L.b.length/\O.length=L.b.length/\∀s,s<L.b.length->Yp L O s/\XM L K O s:=by grind [xW,zq]
def VK (h:Yp L O s):0<=ak O s/\ak O s<L.b.length/\∀i,i<s->ak O i≠ak O s:=by grind [Yp,zH,zq]
def Dy (h:XM L K O s):(dq K O s).o=(zc L.b s).o/\(dq K O s).ar=(zc L.b s).ar/\(dq K O s).sp=(zc L.b s).sp/\(dq K O s).pl=(zc L.b s).pl/\(dq K O s).nn=(zc L.b s).nn:=by grind [XM]
def xh (h:xW L t K O):(1<=K.pc/\K.pc<=200/\1<=t.r)/\∀s,s<L.b.length->0<=xy K O s/\xy K O s<=1000/\xy K O s+1<=zP t K O s/\zP t K O s<=xy K O s+6:=by
 obtain⟨h1,x,k,y,z,l⟩:=xA h;have c:=k;unfold X7 at c;simp only [Qg] at c;obtain⟨⟨⟨⟨g,i⟩,n⟩,p⟩,d⟩:=c;have f:=zH.1 i;obtain⟨u1,u2,u3,j,-⟩:=yi g;refine⟨⟨f.1,f.2,j⟩,fun s hs=>?_⟩;obtain⟨o1,C,-⟩:=VK (l s hs).1;have a:=zq d (Vp O s) (by unfold Vp;lia);unfold ky xL at a;simp only [Qg,QE] at a;have A:=zH.1 a.1.1.1.1.1;have m:=zH.1 a.1.1.1.1.2;have v:=a.1.1.1.2;have q:0<=(zv K.ops (Vp O s)).sg*K.pc:=Ws m.1 lI;have u:xy K O s=(zv K.ops (Vp O s)).sl+(zv K.ops (Vp O s)).sg*K.pc:=by grind [xy,dq]
 have B:1<=yj t (dq K O s).o/\yj t (dq K O s).o<=6:=by
  have u1:=yG u1;have u2:=yG u2;have u3:=yG u3;grind [yj,Xb]
 unfold zP;lia
def Dz (h:yg L t K O):xW L t K O/\(∀e∈zf L t,lx K O e)/\(∀s,s<L.b.length->∀i,i<(zu (zc L.b s)).length->lU L t K O s i) /\
  (∀i j,i<j->j<(Y1 L t K O L.b.length).length->ak (Y1 L t K O L.b.length) i≠ak (Y1 L t K O L.b.length) j)/\∀a∈L.o,m9 L t K O a.toNat:=by
 unfold yg at h;simp only [Qg] at h;obtain⟨⟨⟨⟨h1,p⟩,f⟩,g⟩,q⟩:=h;refine⟨h1,fun e m=>?_,fun s hs i hi=>zq (zq f s hs) i hi,fun i j c n=>?_,fun a l=>?_⟩
 ·obtain⟨i,hi,d⟩:=Wl.1 m;grind [zq,zJ]
 ·have k:=zq (zq g j n) i c;simpa using k
 obtain⟨i,hi,d⟩:=Wl.1 l;grind [zq,ak]
def P3 (h:yg L t K O):ug L t K O:=by
 obtain⟨G,T,B,aK,V⟩:=Dz h;obtain⟨h1,h2,h3,h4,h5,x⟩:=xA G;obtain⟨⟨A,U,aj⟩,f⟩:=xh G;refine⟨h1,h2,h3,h4,fun s hs=>?_,fun s y hs D e=>?_,fun s hs=>Dy (x s hs).2,fun e he=>QI (T e he),fun s hs H=>?_,fun s hs H=>?_,?_,?_⟩
 ·obtain⟨o1,o2,-⟩:=VK (x s hs).1;unfold Vp;lia
 ·obtain⟨o1,o2,o3⟩:=VK (x s hs).1;obtain⟨q1,q2,q3⟩:=VK (x y D).1;unfold Vp at e;by_cases g:s<y
  ·exact absurd (by lia) (q3 s g)
  by_cases u:y<s
  ·exact absurd (by lia) (o3 y u)
  lia
 ·have I:(zu (zc L.b s)).length=(if (zc L.b s).o=4 then 1 else 2)/\zO (zu (zc L.b s)) 0=((zc L.b s).xa,(zc L.b s).xb):=by
   unfold zu;by_cases e:(zc L.b s).o=4
   ·rw [Qf e,Qf e];exact⟨rfl,rfl⟩
   rw [Qe e,Qf (by lia),Qe e];exact⟨rfl,rfl⟩
  have l:=B s hs 0 (by rw [I.1];split <;> lia);unfold lU uj at l;simp_all
 ·have I:(zu (zc L.b s)).length=2/\zO (zu (zc L.b s)) 1=((zc L.b s).ya,(zc L.b s).yb):=by unfold zu;rw [Qe (by lia),Qf H];exact⟨rfl,rfl⟩
  have l:=B s hs 1 (by lia);unfold lU uj at l;simp_all
 ·intro s hs r hr m hm j n c;obtain⟨i,hi,rfl⟩:=P1 hr;obtain⟨r1,r2,r3,r4⟩:=XT h1 hs _ hr;have l:=B s hs i hi;unfold lU at l;rw [Qg] at l;have C:=zq l.2 m hm;generalize zO (zu (zc L.b s)) i=r at *
  obtain⟨g1,g2,g3,g4⟩:=f s hs;obtain⟨M,N,P,Q⟩:=f r.1.toNat (by lia);obtain⟨m1,m2,m3,m4⟩:=f m hm;have hb:r.2*K.pc<=3*200:=Wy r4 U (by lia) (by lia);have aI:0<=r.2*K.pc:=Ws r3 (by lia);by_cases hj:-4100<=j/\j<=4100
  ·have d:=zq C (j+4100).toNat (by lia);have q:ly t K O r.1.toNat r.2 (xy K O s+r.2*K.pc) m (((j+4100).toNat:Int) - 4100):=d;rw [show (((j+4100).toNat:Nat):Int) - 4100=j by lia] at q;unfold ly at q;rw [Qi c] at q;have z:(decide (m=r.1.toNat) && decide (j=0))=false:=by
    by_cases g:m=r.1.toNat
    ·rw [Qk (fun u=>n ⟨g,u⟩)];simp
    rw [Qk g];rfl
   rw [z] at q;have p:kL t K O r.1.toNat r.2 (xy K O s+r.2*K.pc) m j=false:=(by simpa using q);unfold kL at p;rw [Bool.or_eq_false_iff] at p;obtain⟨n1,n2⟩:=p;constructor
   ·by_cases g:zP t K O m+j*K.pc<zP t K O r.1.toNat
    ·exact .inl g
    refine .inr ?_;rw [Qi (by lia)] at n1;have:=of_decide_eq_false n1;lia
   intro b1 b2;rw [Qi b1,Qi b2] at n2;have:=of_decide_eq_false n2;lia
  by_cases v:0<j
  ·have d:j*1<=j*K.pc:=QU A (by lia);lia
  have d:(-j)*1<=(-j)*K.pc:=QU A (by lia);rw [WQ,WQ] at d;lia
 intro a F m hm j hj n c;obtain⟨-,-,-,-,-,R,-⟩:=zy h1;have C:=zq (V a F) m hm;obtain⟨m1,m2,m3,m4⟩:=f m hm;have S:a.toNat<L.b.length:=by
  obtain⟨i,hi,W⟩:=Wl.1 F;have d:=XK L.b.length L.o (i+1) (by lia) (yk fun k hk=>zq R k (by lia));have u:lA L.o (i+1)=a:=by show ak L.o i=a;unfold ak;rw [List.getD,Qh hi,W];rfl
  have:=zy h1;lia
 obtain⟨M,N,P,Q⟩:=f a.toNat S;by_cases v:(-j).toNat<1007
 ·have d:=zq C (-j).toNat v;unfold qS at d;have X:(((-j).toNat:Nat):Int)=-j:=by lia
  rw [X,show zC K O m - -j - zC K O a.toNat=zC K O m+j - zC K O a.toNat by lia,Qi c] at d;have z:(decide (m=a.toNat) && decide ((-j).toNat=0))=false:=by
   by_cases g:m=a.toNat
   ·rw [Qk (show ¬((-j).toNat=0) from fun u=>n ⟨g,by lia⟩)];simp
   rw [Qk g];rfl
  rw [z] at d;have p:zP t K O m - -j*K.pc<zP t K O a.toNat:=by simpa using d
  rw [WQ] at p;lia
 have d:(-j)*1<=(-j)*K.pc:=QU A (by lia);rw [WQ,WQ] at d;lia
theorem Ze {f:Nat->Int} (h:i<n):ak ((List.range n).map f) i=f i:=by grind [ak]
end
section
section
variable (L:Lp) (t:Tg) (P:Int) (T D:Li)
def YT (s i:Nat):Int:=(ak D (zO (zu (zc L.b s)) i).1.toNat+ak T (zO (zu (zc L.b s)) i).1.toNat / P - (zO (zu (zc L.b s)) i).2 - ak T s / P) % t.r
def lV (s:Nat):bt:=⟨ak T s % P,ak T s / P,(zc L.b s).o,ak D s,if 0<(zu (zc L.b s)).length then YT L t P T D s 0 else 0,if 1<(zu (zc L.b s)).length then YT L t P T D s 1 else 0,(zc L.b s).ar,(zc L.b s).sp,(zc L.b s).pl,(zc L.b s).nn⟩
def yv:Nat->Int
 | 0=>0
 | k+1=>if yv k<=ak T k / P then ak T k / P+1 else yv k
def Zy:Kn:=⟨P,yv P T L.b.length,(List.range L.b.length).map (lV L t P T D)⟩
def ZN:Bool:=decide (D.length=L.b.length) && zF (fun s=>br (ak D s) 0 (t.r - 1)) L.b.length
end
def X8 (n:Nat):Li:=(List.range n).map fun i:Nat=>(i:Int)
variable {L:Lp} {t:Tg} {P:Int} {T D:Li}
theorem DA (h:s<n):ak (X8 n) s=s:=Ze h
theorem qT (n:Nat):(X8 n).length=n:=by unfold X8;simp
theorem VC:(Zy L t P T D).ops.length=L.b.length:=by unfold Zy;simp
def qU (h:s<L.b.length):zv (Zy L t P T D).ops s=lV L t P T D s:=by grind [zv,Zy]
def up (P:Int) (T:Li):∀k s,s<k->ak T s / P<yv P T k:=by intro k;induction k <;> grind [yv]
def uq (P:Int) (T:Li) (c:Int) (a:0<=c):∀k,(∀s,s<k->ak T s / P<c)->yv P T k<=c:=by intro k;induction k <;> grind [yv]
def P4 (L:Lp) (hm:zQ L) (hs:s<L.b.length):((zu (zc L.b s)).length:Int)=Xg (zc L.b s).o:=by grind [zu,Xg]
def P5 {L:Lp} (hm:zQ L) (hs:s<L.b.length) {x:bt} (i:x.o=(zc L.b s).o) (h1:x.ar=(zc L.b s).ar) (d:x.sp=(zc L.b s).sp) (f:x.pl=(zc L.b s).pl) (g:x.nn=(zc L.b s).nn):zQ (nu L.l x):=by
 obtain⟨m,q,r,t,n,u,p⟩:=zy hm;have a:yW L.l.length L.b.length s (zc L.b s):=zq p s hs;have j:yW L.l.length 2 1 ⟨x.o,0,0,0,0,x.ar,x.sp,x.pl,x.nn⟩:=by
  rw [i,h1,d,f,g];unfold yW at a ⊢;dsimp only;split
  ·next e=>rw [Qf e] at a;have:=QI a;exact Qi ⟨rfl,rfl,rfl,rfl,this.2.2.2.2⟩
  next e1 =>
  rw [Qe e1] at a;split
  ·next e=>rw [Qf e] at a;have:=QI a;exact Qi ⟨rfl,rfl,rfl,rfl,this.2.2.2.2⟩
  next e2 =>
  rw [Qe e2] at a;split
  ·next e =>
   simp_all
  next e3 =>
  rw [Qe e3] at a;split
  ·next e =>
   rw [Qf e,Qg,Qg] at a;have:=QI a.1.1;rw [Qg,Qg];exact⟨⟨Qi ⟨rfl,rfl,this.2.2⟩,a.1.2⟩,rfl⟩
  next e4 =>
  rw [Qe e4] at a;split
  ·next e =>
   rw [Qf e,Qg,Qg] at a;rw [Qg,Qg];exact⟨⟨a.1.1,rfl⟩,rfl⟩
  next e5=>rw [Qe e5] at a;cases a
 unfold zQ nu;simp only [Qg,QE];refine⟨⟨⟨⟨⟨m,sM⟩,sM⟩,n⟩,rfl⟩,?_⟩;unfold YA;refine yk fun k h=>?_;have c:k<2:=h;match k,c with
 | 0,_=>rfl
 | 1,_=>exact j
def Z4 (h:zZ L t P T) (hs:s<L.b.length):0<=ak T s/\ak T s<=1000/\(Ut L P T s:Int)<=yf t (ye (zc L.b s).o):=by grind [zZ,zq,VS,zH]
def DB (h:zZ L t P T) (d:ZN L t D):X7 t (Zy L t P T D) L.l:=by
 obtain⟨h1,m,x,y,z,O,Q⟩:=yw h;obtain⟨-,U,V,-⟩:=zy h1;obtain⟨-,-,-,G,-⟩:=yi m;unfold ZN at d;rw [Qg] at d;have q:∀s,s<L.b.length->0<=ak T s / P/\ak T s / P<=1000/\ak T s / P*P+ak T s % P=ak T s/\0<=ak T s % P/\ak T s % P<P:=by intro s hs;obtain⟨c,p,-⟩:=Z4 h hs;refine⟨WY c lI,WK (Eg _ c) p,?_,QS _ lI,QP _ lI⟩;rw [Er];exact q5 _ _
 have u:1<=yv P T L.b.length:=by have:=up P T L.b.length 0 lI;grind
 have v:yv P T L.b.length<=1001:=uq P T 1001 lI _ fun s hs=>rQ
 unfold X7;simp only [Qg];refine⟨⟨⟨⟨m,yh ⟨x,y⟩⟩,yh ⟨u,v⟩⟩,?_⟩,?_⟩
 ·rw [VC];grind [yh]
 refine yk fun s hs=>?_;rw [VC] at hs;rw [qU hs,Qg];obtain⟨H,I,K,M,N⟩:=q s hs;obtain⟨c,p,B⟩:=Z4 h hs;have F:=P4 L h1 hs;have C:=zH.1 (zq d.2 s hs);have g:=fun i=>QS (ak D (zO (zu (zc L.b s)) i).1.toNat+ak T (zO (zu (zc L.b s)) i).1.toNat / P - (zO (zu (zc L.b s)) i).2 - ak T s / P) (by lia:t.r≠0);have k:=fun i=>QP (ak D (zO (zu (zc L.b s)) i).1.toNat+ak T (zO (zu (zc L.b s)) i).1.toNat / P - (zO (zu (zc L.b s)) i).2 - ak T s / P) (by lia:0<t.r);refine⟨?_,Qi ?_⟩
 ·unfold ky;rw [Qg,Qg];refine⟨⟨?_,?_⟩,P5 h1 hs rfl rfl rfl rfl rfl⟩
  ·have:=up P T L.b.length s hs;exact Gi (by show ¬ak T s % P<0;lia) (by show ¬P<=ak T s % P;lia) (by show ¬ak T s / P<0;lia) (by show ¬yv P T L.b.length<=ak T s / P;lia) (by show ¬1000<ak T s / P*P+ak T s % P;lia)
  have R:0<=(lV L t P T D s).a/\(lV L t P T D s).a<t.r:=by
   show 0<=(if 0<(zu (zc L.b s)).length then YT L t P T D s 0 else 0)/\(if 0<(zu (zc L.b s)).length then YT L t P T D s 0 else 0)<t.r;split
   ·exact⟨g 0,k 0⟩
   lia
  have hb:0<=(lV L t P T D s).b/\(lV L t P T D s).b<t.r:=by
   show 0<=(if 1<(zu (zc L.b s)).length then YT L t P T D s 1 else 0)/\(if 1<(zu (zc L.b s)).length then YT L t P T D s 1 else 0)<t.r;split
   ·exact⟨g 1,k 1⟩
   lia
  refine Gj (by show ¬ak D s<0;lia) (by show ¬t.r<=ak D s;lia) lI lI lI lI ?_ ?_
  ·show 1<=Xg (zc L.b s).o\/(if 0<(zu (zc L.b s)).length then YT L t P T D s 0 else 0)=0;lia
  show 2<=Xg (zc L.b s).o\/(if 1<(zu (zc L.b s)).length then YT L t P T D s 1 else 0)=0;lia
 refine WK ?_ B;unfold mJ Ut;rw [VC,z];refine Int.ofNat_le.2 (ti fun j n f=>?_);obtain⟨A,S,-⟩:=Z4 h n;unfold kO at f;rw [qU n,qU hs] at f;unfold lj;rw [Wo A,Wo c];exact f
def DC (len:Nat->Nat):∀k i,i<UA len k->∃s q,s<k/\q<len s/\i=UA len s+q:=by
 intro k;induction k with
 | zero=>intro i h;exact absurd h (Qv _)
 | succ k ih =>
  intro i h;have c:i<UA len k+len k:=h;by_cases e:i<UA len k
  ·obtain⟨s,q,h1,a,b⟩:=ih i e;exact⟨s,q,lI,a,b⟩
  exact⟨k,i - UA len k,lI,lI,lI⟩
end
end
def R9 (x:Int) (h0:-9223372036854775808<=x) (h1:x<=9223372036854775807):IntKind.i64.wrap x=x:=by rw [Wq];lia
def Sa (o:Int):(o=3/\(o == 3)/\(o == 4)=false)\/(o=4/\(o == 3)=false/\(o == 4))\/(¬o=3/\¬o=4/\(o == 3)=false/\(o == 4)=false):=by
 grind
def Tg.cells (t:Tg):Array vO:=#[J t.u0,J t.u1,J t.u2,J t.w0,J t.w1,J t.w2,J t.r]
section
variable {P:Program} {ops:Array Oper} {Q:Exit->Act->wO->Prop} {md:Region.Mode} {S:wO->Prop}
def Ye (ops:Array Oper) (i:Nat):Option Tmp:=(ops[i]?).bind (·.dst)
def xY (ops:Array Oper) (val:Nat->vO) (a0:Act) (l:Nat->Bool):Nat->Act
 | 0=>a0
 | k+1=>if l k=true then (xY ops val a0 l k).put (Ye ops k) (val k) else xY ops val a0 l k
def tq (ops:Array Oper) (j k:Nat):Bool:=match ops[j]?,Ye ops k with
 | some o,some d=>(o.looksAt ops).contains d || o.dst == some d
 | _,_=>false
def ts (md:Region.Mode) (ops:Array Oper) (j k:Nat):Bool:=j == k || !(tq ops j k) || (decide (k<j) && VV md ops j k) || (decide (j<k) && VV md ops k j)
def BD (md:Region.Mode) (ops:Array Oper) (j:Nat):Bool:=match ops[j]? with
 | some o=>o.after.all fun e=>!Region.binds md e || decide (e.on<j)
 | none=>true
def Yw (md:Region.Mode) (ops:Array Oper):Bool:=(List.range ops.size).all fun j=>BD md ops j && (List.range ops.size).all fun k=>ts md ops j k
theorem Me (a:Act) (d:Option Tmp) (v:vO):(a.put d v).tmps.size=a.tmps.size:=by cases d <;> simp [Act.put]
theorem BE {a:Act} {d:Option Tmp} {x:Tmp} (h:d≠some x) (v:vO):(a.put d v).tmps[x]?=a.tmps[x]?:=by
 cases d with
 | none=>rfl
 | some e =>have b:e≠x:=fun c=>h (by rw [c]);simp [Act.put,Array.getElem?_setIfInBounds_ne b]
theorem Mf {a b:Act} (x:Tmp) (v:vO) (h:a.tmps.size=b.tmps.size):(a.put (some x) v).tmps[x]?=(b.put (some x) v).tmps[x]?:=by
 simp only [Act.put];grind
theorem tu (val:Nat->vO) (a0:Act) (l:Nat->Bool):∀k,(xY ops val a0 l k).tmps.size=a0.tmps.size:=by intro k;induction k <;> grind [xY,Me]
def Mg {j k:Nat} (h:Yw md ops) (a:j<ops.size) (b:k<ops.size):ts md ops j k:=by grind [Yw]
def Mh {j:Nat} {o:Oper} (h:Yw md ops) (c:ops[j]?=some o):∀e∈o.after,Region.binds md e->e.on<j:=by have f:j<ops.size:=(lo c);unfold Yw at h;have h1:=EN.1 h j (WU.2 f);rw [Qg] at h1;have a:=h1.1;unfold BD at a;rw [c] at a;intro e d hb;have b:=Array.all_eq_true_iff_forall_mem.1 a e d;rw [hb] at b;simpa using b
def pR (md:Region.Mode) (ops:Array Oper) (l:Nat->Bool):Prop:=∀j,l j->∀o,ops[j]?=some o->∀e∈o.after,Region.binds md e->l e.on
theorem Mi {j k:Nat} {o:Oper} {d:Tmp} (c:ops[j]?=some o) (b:Ye ops k=some d) (a:d∈o.looksAt ops\/o.dst=some d):tq ops j k:=by grind [tq]
def BG {k:Nat} {d:Tmp} (h:Ye ops k=some d):k<ops.size:=by grind [Ye]
def BH {l:Nat->Bool} {j k:Nat} {o:Oper} {d:Tmp} (h:Yw md ops) (b:ops[j]?=some o) (a:Ye ops k=some d) (f:d∈o.looksAt ops\/o.dst=some d) (c:j≠k):(k<j/\VV md ops j k)\/(j<k/\VV md ops k j):=by
 have h1:=Mg h (lo b) (BG a);grind [ts,Mi]
theorem BJ {l:Nat->Bool} {j k:Nat} {o:Oper} {d:Tmp} (h:Yw md ops) (g:pR md ops l) (n:l j=false) (q:ops[j]?=some o) (b:Ye ops k=some d) (i:d∈o.looksAt ops\/o.dst=some d) (r:j<k):l k=false:=by
 rcases BH (l:=l) h q b i lI with ⟨h1,_⟩ | ⟨_,f⟩
 ·lia
 cases p:l k with
 | false=>rfl
 | true =>obtain⟨ok,a⟩:∃ok,ops[k]?=some ok:=⟨_,WA (BG b)⟩;obtain⟨e,m,hb,c⟩:=ux f a;have:=g k p ok a e m hb;rw [c,n] at this;cases this
def Mj {val:Nat->vO} {a0:Act} {l:Nat->Bool} {j:Nat} {o:Oper} {d:Tmp} (h:Yw md ops) (g:pR md ops l) (m:l j=false) (n:ops[j]?=some o) (i:d∈o.looksAt ops\/o.dst=some d):∀k,j<=k->(xY ops val a0 l k).tmps[d]?=(xY ops val a0 l j).tmps[d]?:=by
 intro k;induction k with
 | zero=>intro f;rw [show j=0 by lia]
 | succ k ih =>
  intro f;by_cases e:j=k+1
  ·rw [e]
  have b:=ih lI;rw [<-b];show (if l k=true then (xY ops val a0 l k).put (Ye ops k) (val k) else xY ops val a0 l k).tmps[d]?=_;by_cases c:l k
  ·rw [Qf c];by_cases a:Ye ops k=some d
   ·grind [BJ]
   exact BE a _
  rw [Qe c]
def Mk {val:Nat->vO} {a0:Act} {l:Nat->Bool} {j:Nat} {o:Oper} {d:Tmp} (h:Yw md ops) (hall:∀e∈o.after,Region.binds md e->l e.on) (c:ops[j]?=some o) (b:d∈o.looksAt ops\/o.dst=some d):∀k,k<=j->(xY ops val a0 l k).tmps[d]?=(xY ops val a0 (fun _=>true) k).tmps[d]?:=by
 intro k;induction k with
 | zero=>intro _;rfl
 | succ k ih =>
  intro i;have f:=ih lI;show (if l k=true then (xY ops val a0 l k).put (Ye ops k) (val k) else xY ops val a0 l k).tmps[d]?=((xY ops val a0 (fun _=>true) k).put (Ye ops k) (val k)).tmps[d]?;by_cases a:Ye ops k=some d
  ·have m:l k:=by
    rcases BH (l:=l) h c a b lI with ⟨_,g⟩ | ⟨h1,_⟩
    ·grind [ux]
    lia
   grind [Mf,tu]
  grind [BE]
def Ml {val:Nat->vO} {a0:Act} {l a:Nat->Bool} {j:Nat} {o:Oper} (h:Yw md ops) (s:pR md ops l) (u:l j=false) (v:ops[j]?=some o) (m:∀i,a i=(i == j || l i)):∀k,(k<=j->xY ops val a0 a k=xY ops val a0 l k)/\(j<k->xY ops val a0 a k=(xY ops val a0 l k).put o.dst (val j)):=by
 have r:Ye ops j=o.dst:=by grind [Ye]
 intro k;induction k with
 | zero=>exact⟨fun _=>rfl,fun f=>absurd f lI⟩
 | succ k ih =>
  have n:xY ops val a0 a (k+1)=if a k=true then (xY ops val a0 a k).put (Ye ops k) (val k) else xY ops val a0 a k:=rfl
  have p:xY ops val a0 l (k+1)=if l k=true then (xY ops val a0 l k).put (Ye ops k) (val k) else xY ops val a0 l k:=rfl
  refine⟨fun f=>?_,fun f=>?_⟩
  ·grind
  by_cases c:k=j
  ·simp_all
  have g:(k == j)=false:=by simp;exact c
  rw [n,p,m k,g,qc,ih.2 lI];by_cases b:l k
  ·rw [Qf b,Qf b];refine Act.put_comm _ _ _ fun d t q=>?_;grind [BJ]
  rw [Qe b,Qe b]
def Mm {o:Oper} {a b:Act} (hs:∀c x,o.op≠.select c x) (h:∀d∈o.looksAt ops,a.tmps[d]?=b.tmps[d]?):execOp a.eval o=execOp b.eval o/\Region.wanted o (yielded ops a.tmps)=Region.wanted o (yielded ops b.tmps):=by
 refine⟨execOp_congr o hs fun x i=>?_,?_⟩
 ·cases x with
  | tmp t =>have:=h t (Wz _ (List.mem_filterMap.2 ⟨.tmp t,by simpa using i,rfl⟩));simp [Act.eval,this]
  | _=>rfl
 unfold Region.wanted;cases k:o.guard with
 | none=>rfl
 | some f =>
  obtain⟨g,b'⟩:=f;have e:yielded ops a.tmps g=yielded ops b.tmps g:=by
   unfold yielded;cases j:(ops[g]?).bind (·.dst) with
   | none=>rfl
   | some d =>have:=h d (WZ _ rQ);simp only [Option.bind_some,this]
  simp only [e]
theorem Mn {a b:Act} (g:a.tmps.size=b.tmps.size) {d:Option Tmp} {u v:vO} (h:a.put d u=a.put d v):b.put d u=b.put d v:=by
 cases d with
 | none=>rfl
 | some x =>
  by_cases f:x<a.tmps.size
  ·have h1:=congrArg (fun c:Act=>c.tmps[x]?) h;simp only [Act.put,W6 f] at h1;rw [QD h1]
  simp only [Act.put];grind
def Mo {o:Oper} {a b:Act} (p:a.tmps.size=b.tmps.size) (l:True) {v:vO} {r:Result Next} {K:Act->wO->Prop} (k:∀c a w,¬Q (.panic c) a w)
  (h:o.upon P a (fun a' w'=>a'=a.put o.dst v/\S w') Q r) (m:∀w',S w'->K (b.put o.dst v) w'):o.upon P b K Q r:=by
 have key:∀(u:vO) (w':wO),(a.put o.dst u=a.put o.dst v/\S w')->K (b.put o.dst u) w':=fun u w' ⟨e,hS⟩=>by grind [Mn]
 cases r with
 | ok n w' =>
  cases n <;> simp only [Oper.upon] at h ⊢
  case value u=>exact key u w' h
  case skip=>exact key _ w' h
  case defer d =>exfalso;have h1:=congrArg Act.defers h.1;cases g:o.dst <;> (rw [g] at h1;simp [Act.put] at h1)
  case enter f args =>
   refine Calls.m h fun e i j=>?_;grind
  case row row args=>exact Rows.mono h fun u i j=>key u i j
 | halt x w' =>
  cases x <;> simp only [Oper.upon] at h ⊢
  case panic u=>exact absurd h (k _ _ _)
def j9 (l:Nat->Bool):Nat->Nat
 | 0=>0
 | k+1=>j9 l k+if l k=true then 0 else 1
def Mp {l a:Nat->Bool} {j:Nat} (c:l j=false) (b:∀i,a i=(i == j || l i)):∀k,(k<=j->j9 a k=j9 l k)/\(j<k->j9 l k=j9 a k+1):=by
 intro k;induction k with
 | zero=>exact⟨fun _=>rfl,fun h=>absurd h lI⟩
 | succ k ih =>
  grind [j9]
def Mq {l:Nat->Bool}:∀k,j9 l k=0->∀i,i<k->l i:=by
 intro k;induction k with
 | zero=>intro _ i hi;lia
 | succ k ih =>
  grind [j9]
def Mr (l:Nat->Bool):∀k,(∀i,i<k->l i)\/∃j,j<k/\l j=false/\∀i,i<j->l i:=by intro k;induction k <;> grind
theorem BK {val:Nat->vO} {a0:Act} {l:Nat->Bool}:∀k,(∀i,i<k->l i)->xY ops val a0 l k=xY ops val a0 (fun _=>true) k:=by
 intro k;induction k with
 | zero=>intro _;rfl
 | succ k ih =>intro h;show (if l k=true then (xY ops val a0 l k).put (Ye ops k) (val k) else xY ops val a0 l k)=(xY ops val a0 (fun _=>true) k).put (Ye ops k) (val k);rw [Qf (h k lI),ih fun i hi=>h i lI]
def mV (P:Program) (ops:Array Oper) (Q:Exit->Act->wO->Prop) (S:wO->Prop) (o:Oper) (a:Act) (v:vO):Prop :=
 if Region.wanted o (yielded ops a.tmps)=true then ∀w,S w->Oper.wp P o a w (fun a' w'=>a'=a.put o.dst v/\S w') Q else v=undef
def Ms (val:Nat->vO) (a0:Act) (h:Yw md ops) (F:Region.noSelect ops) (K:∀c a w,¬Q (.panic c) a w)
  (G:∀i o,ops[i]?=some o->mV P ops Q S o (xY ops val a0 (fun _=>true) i) (val i)) (O:∀w,S w->Q .normal (xY ops val a0 (fun _=>true) ops.size) w) :
  ∀(m:Nat) (b:Array Bool) (w:wO),b.size=ops.size->pR md ops (fun i=>b.getD i false)->j9 (fun i=>b.getD i false) ops.size<=m->S w->wpAny P md ops Q m b (xY ops val a0 (fun i=>b.getD i false) ops.size) w:=by
 have none_ready:∀(b:Array Bool),b.size=ops.size->Region.ready md ops b=[]->∀i,i<ops.size->b.getD i false:=fun b A hr=>by
  rcases Mr (fun i=>b.getD i false) ops.size with h1 | ⟨j,k,t,hb⟩
  ·exact h1
  exfalso;have:j∈Region.ready md ops b:=mem_ready.2 ⟨sA,_,WA k,fun e z y=>hb _ (Mh h (WA k) e z y)⟩;simp_all
 intro m;induction m with
 | zero =>
  intro b w A r L hS;have hall:=Mq (l:=fun i=>b.getD i false) ops.size lI;refine⟨?_,?_⟩
  ·apply List.eq_nil_iff_forall_not_mem.2;intro j k;obtain⟨h0,o,f,-⟩:=mem_ready.1 k;grind
  grind [BK]
 | succ m ih =>
  intro b w A r L hS;refine⟨fun hr=>?_,fun j k=>?_⟩
  ·grind [BK]
  obtain⟨h0,o,f,hall⟩:=mem_ready.1 k;have v:=(lo f);have t:(fun i=>b.getD i false) j=false:=rQ
  have u:∀i,(fun i=>(b.setIfInBounds j true).getD i false) i=(i == j || (fun i=>b.getD i false) i):=fun i=>by
   show (b.setIfInBounds j true).getD i false=(i == j || b.getD i false);by_cases e:i=j
   ·subst e;simp [Array.getD,show i<b.size by lia]
   rw [getD_set_ne false (Ne.s e)];simp [e]
  have D:=fun (d:Tmp) (s:d∈o.looksAt ops\/o.dst=some d)=>(Mj (val:=val) (a0:=a0) h r t f s ops.size (Q7 v)).t (Mk (val:=val) (a0:=a0) (l:=fun i=>b.getD i false) h hall f s j (Qc _));obtain⟨z,M⟩:=Mm (ops:=ops) (o:=o) (qd F j o · · f) (fun d s=>D d (.inl s));have I:=(Ml (val:=val) (a0:=a0) h r t f u ops.size).2 v;have B:∀w',S w'->wpAny P md ops Q m (b.setIfInBounds j true) ((xY ops val a0 (fun i=>b.getD i false) ops.size).put o.dst (val j)) w':=fun w' H=>by
   rw [<-I];refine ih _ w' (by simpa using A) ?_ ?_ H
   ·intro i hi N g e p hb;have x:=u i;rw [hi] at x;by_cases C:i=j
    ·subst C;rw [f] at g;cases g;exact getD_set_true (hall e p hb)
    have:b.getD i false:=by have h1:(i == j)=false:=(by simp;exact C);rw [h1,qc] at x;exact x.s
    exact getD_set_true (r i this N g e p hb)
   have:=(Mp t u ops.size).2 v;lia
  have n:=G j o f;unfold mV at n;unfold wpOp;rw [f];simp only [M];by_cases q:Region.wanted o (yielded ops (xY ops val a0 (fun _=>true) j).tmps)
  ·rw [Qf q] at n ⊢;refine .inl ?_;unfold Oper.wp;rw [z];exact Mo (by rw [tu,tu]) trivial K (n w hS) B
  rw [Qe q] at n ⊢;rw [<-n];exact B w hS
def Vl (P:Program) (ops:Array Oper) (Q:Exit->Act->wO->Prop) (S:wO->Prop):Nat->Nat->Act->Prop
 | 0,_,a=>∀w,S w->Q .normal a w
 | r+1,i,a=>∃o v,ops[i]?=some o/\mV P ops Q S o a v/\Vl P ops Q S r (i+1) (a.put o.dst v)
theorem BL {val a:Nat->vO} {a0:Act} {l:Nat->Bool}:∀k,(∀i,i<k->val i=a i)->xY ops val a0 l k=xY ops a a0 l k:=by intro k;induction k <;> grind [xY]
def Mt (a0:Act):∀(r i:Nat) (val:Nat->vO),Vl P ops Q S r i (xY ops val a0 (fun _=>true) i)->∃a:Nat->vO,(∀k,k<i->a k=val k)/\(∀k o,i<=k->k<i+r->ops[k]?=some o->mV P ops Q S o (xY ops a a0 (fun _=>true) k) (a k))/\∀w,S w->Q .normal (xY ops a a0 (fun _=>true) (i+r)) w:=by
 intro r;induction r with
 | zero=>intro i val h;exact⟨val,fun _ _=>rfl,fun k o h1 m=>absurd h1 lI,h⟩
 | succ r ih =>
  intro i val h;obtain⟨o,v,s,g,b⟩:=h;have d:∀k,k<i->(fun k=>if k=i then v else val k) k=val k:=fun k f=>Qe lI;have j:xY ops (fun k=>if k=i then v else val k) a0 (fun _=>true) (i+1)=(xY ops val a0 (fun _=>true) i).put o.dst v:=by grind [xY,Ye,BL]
  rw [<-j] at b;obtain⟨a,h1,m,u⟩:=ih (i+1) _ b;refine⟨a,fun k f=>(h1 k lI).t (d k f),fun k ok n p c=>?_,fun w hS=>?_⟩
  ·by_cases e:k=i
   ·subst e;rw [s] at c;cases c;have l:a k=v:=(h1 k lI).t (Qf rfl);rw [l,BL k fun q t=>(h1 q lI).t (d q t)];exact g
   grind
  grind
def yo {i r:Nat} {o:Oper} {rest:List Oper} {v:vO} {a:Act} (d:ops.toList.drop i=o :: rest) (b:YieldsIf P ops S o v a) (h:Vl P ops Q S r (i+1) (a.put o.dst v)):Vl P ops Q S (r+1) i a:=by
 refine⟨o,v,YK d,?_,h⟩;unfold mV;rcases b with ⟨c,b⟩ | ⟨c,f⟩
 ·rw [Qf c];intro w hS;unfold Oper.wp;rw [b w hS];exact⟨rfl,hS⟩
 simp_all
def cz {i r:Nat} {o:Oper} {rest:List Oper} {v:vO} {a a':Act} (c:ops.toList.drop i=o :: rest) (h:Vl P ops Q S r (i+1) a')
  (d:YieldsIf P ops S o v a:=by refine Or.inl ⟨by rfl,?_⟩;intro w hSw;(try dsimp only at hSw);go_simp;(try with_reducible rfl))
  (b:a.put o.dst v=a':=by (try simp only [Act.put,Qn,Qy,Qz]);exact rfl):Vl P ops Q S (r+1) i a:=yo c d (b ▸ h)
def YI {i r:Nat} {o:Oper} {rest:List Oper} (v:vO) {a:Act} (f:ops.toList.drop i=o :: rest) (g:Region.wanted o (yielded ops a.tmps))
  (d:∀w,S w->∀K:Act->wO->Prop,Shut (∀a' w',a'=a.put o.dst v->S w'->K a' w')->Oper.wp P o a w K Q) (h:Vl P ops Q S r (i+1) (a.put o.dst v)):Vl P ops Q S (r+1) i a:=by refine⟨o,v,YK f,?_,h⟩;unfold mV;rw [Qf g];exact fun w hS=>d w hS _ fun a' w' c b=>⟨c,b⟩
def Ul {i:Nat} {a:Act} (h:∀w,S w->Q .normal a w):Vl P ops Q S 0 i a:=h
def YM {id:Nat} {a:Act} {w:wO} (S:wO->Prop) (n:Nat) (hn:ops.size=n) (hm:P.follows .mixedOrders) (c:Yw .any ops) (d:Region.noSelect ops) (hS:S w.drew)
  (h:Vl P ops (NoPanic Q) S n 0 a):(Code.region id ops true).wp P Q a w:=by
 refine Qq (wp_region_any hm ?_);obtain⟨val,-,f,g⟩:=Mt (P:=P) (ops:=ops) a n 0 (fun _=>undef) h;have m:∀i,(Array.replicate ops.size false).getD i false=false:=fun i=>by simp [Array.getD]
 have b:=Ms (P:=P) (Q:=NoPanic Q) (S:=S) val a c d (fun _ _ _ h=>h) (fun i o p=>f i o (Ql _) rQ p) (fun w hS=>by have:=g w hS;rw [QO,<-hn] at this;exact this)
  ops.size (Array.replicate ops.size false) w.drew sM (fun j q=>sA) ?_ hS
 ·have e:∀k,xY ops val a (fun i=>(Array.replicate ops.size false).getD i false) k=a:=fun k=>by
   induction k with
   | zero=>rfl
   | succ k ih=>unfold xY;rw [Qe (by rw [m];exact WM)];exact ih
  rw [e] at b;exact b
 have:∀(l:Nat->Bool) k,j9 l k<=k:=fun l k=>by
  induction k with
  | zero=>exact Qc _
  | succ k ih=>unfold j9;split <;> lia
 exact this _ _
end
section
variable {n d q r a x u c j:Int} {f:Nat->Bool} {k i s:Nat}
section
def vy (a:0<d) (h1:q*d<=n) (b:n<(q+1)*d):n / d=q:=by have c:=(WW a).2 h1;have f:=(EC a).2 b;lia
def F0 (a:0<d) (h:¬n.tmod d<0):n.tdiv d=n / d:=by
 have h1:=WL n a;have b:=E4 n d;rw [Er] at b;refine (vy a ?_ ?_).s
 ·lia
 rw [qz];lia
def F1 (a:0<d) (h:n.tmod d<0):n.tdiv d - 1=n / d:=by
 have h1:=EV n a;have b:=E4 n d;rw [Er] at b;refine (vy a ?_ ?_).s
 ·grind
 grind
def F2:n - n / r*r=n % r:=by have:=Int.emod_def n r;rw [Er];lia
def mod_le (h:0<=a) (hr:0<r):a % r<=a:=by have h1:=q5 a r;have b:0<=r*(a / r):=Ws lI (WY h lI);lia
def kx (p q first last r:Int):Bool:=decide (first+(p - q - first) % r<=last)
def rI {p first last:Int} (hr:0<r):kx p q first last r=true↔∃j,first<=j/\j<=last/\(q+j - p) % r=0:=by
 unfold kx;rw [decide_eq_true_iff];constructor
 ·intro h;have h0:=QS (p - q - first) (by lia:r≠0);refine⟨first+(p - q - first) % r,by lia,h,?_⟩;have h1:=Int.emod_def (p - q - first) r;rw [show q+(first+(p - q - first) % r) - p=r*(-((p - q - first) / r)) by grind];simp_all
 rintro ⟨j,h1,b,a⟩;obtain⟨c,f⟩:=qO a;have e:(p - q - first) % r=(j - first) % r:=by rw [show p - q - first=j - first+r*(-c) by grind];exact Eh _ _ _
 have d:=mod_le (show 0<=j - first by lia) hr;lia
section
variable (L:Lp) (t:Tg) (K:Kn) (O:Li)
def Uz (a m:Nat):Int:=if m=a then 1 else -((zP t K O m - zP t K O a) / K.pc)
def rJ (a:Nat) (bk:Int) (m:Nat):Int:=if 0<bk then min (Uz t K O a m) 1 else Uz t K O a m
def vz (u:Int) (m:Nat):Int:=(u - zP t K O m) / K.pc
def xV (a:Nat) (bk u:Int) (m:Nat):Bool:=kx (zC K O a) (zC K O m) (rJ t K O a bk m) (vz t K O u m) t.r
def Zf (a m:Nat):Bool:=kx (zC K O a) (zC K O m) (Uz t K O a m) 0 t.r
end
variable {L:Lp} {t:Tg} {K:Kn} {O:Li}
theorem UD {n:Nat}:zF f n=true↔∀i,i<n->f i:=⟨fun h i hi=>zq h i hi,yk⟩
def rK {g:Nat->Bool} {n m:Nat} (h:(∀i,i<n->f i)↔∀i,i<m->g i):zF f n=zF g m:=by grind [UD]
def vA (a:0<c):x+j*c<=u↔j<=(u - x) / c:=by rw [WW a];lia
theorem Xx (b:0<c):a<=x+j*c↔-((x - a) / c)<=j:=by
 have h:-j<=(x - a) / c↔-j*c<=x - a:=WW b;grind
def vB (l:1<=K.pc) (hr:1<=t.r) (a:Nat) (bk u:Int) (m:Nat):(∀j:Int,ly t K O a bk u m j)↔xV t K O a bk u m=false:=by
 rw [<-E8];unfold xV;rw [rI lI];constructor
 ·rintro h ⟨j,h1,f,b⟩;have g:=h j;unfold ly at g;have s:zP t K O m+j*K.pc<=u:=(vA lI).2 f;have n:kL t K O a bk u m j/\¬(m=a/\j=0):=by
   unfold kL;unfold rJ Uz at h1;by_cases e:m=a
   ·subst e;rw [Qf rfl] at h1;have d:1<=j:=(by lia);refine⟨?_,lI⟩;have c:0<=j*K.pc:=Ws lI lI;grind
   rw [Qe e] at h1;refine⟨?_,fun h=>e h.1⟩;by_cases hb:0<bk
   ·grind [Xx]
   grind [Xx]
  simp_all
 intro h j;unfold ly;by_cases b:(zC K O m+j - zC K O a) % t.r=0
 ·by_cases o:m=a/\j=0
  ·simp_all
  have k:kL t K O a bk u m j=false:=by
   rw [<-E8];intro hn;refine h ⟨j,?_,?_,b⟩
   ·unfold kL at hn;unfold rJ Uz;simp only [En,Qg,QE] at hn;by_cases e:m=a
    ·subst e;rw [Qf rfl];have d:1<=j:=by
      rcases hn with ⟨c,i⟩ | ⟨⟨c,i⟩,p⟩
      ·by_cases d:j<=0
       ·have q:(-j)*1<=(-j)*K.pc:=QU l lI;grind
       lia
      lia
     lia
    grind [Xx]
   unfold kL at hn;simp only [En,Qg,QE] at hn;unfold vz;refine (vA lI).1 ?_;lia
  rw [k];rfl
 rw [Qk b];simp
def F3 (p:xW L t K O) {a:Nat} (n:a<L.b.length) {bk:Int} (x:0<=u) (y:u<=1600):um L t K O a bk u=zF (fun m=>!xV t K O a bk u m) L.b.length:=by
 obtain⟨⟨f,z,g⟩,d⟩:=xh p;unfold um;refine rK ⟨fun h m hm=>?_,fun h m hm=>?_⟩
 ·have h1:=h m hm;have l:∀j:Int,ly t K O a bk u m j:=by
   intro j;by_cases A:-4100<=j/\j<=4100
   ·have c:=zq h1 (j+4100).toNat (by lia);have i:ly t K O a bk u m (((j+4100).toNat:Int) - 4100):=c;rw [show (((j+4100).toNat:Nat):Int) - 4100=j by lia] at i;exact i
   obtain⟨q,r,s,v⟩:=d a n;obtain⟨B,C,D,F⟩:=d m hm;have hn:kL t K O a bk u m j=false:=by
    unfold kL;by_cases o:0<j
    ·have c:j*1<=j*K.pc:=QU f (by lia);rw [Qk (show ¬zP t K O m+j*K.pc<=u by lia)];simp
    have c:(-j)*1<=(-j)*K.pc:=QU f (by lia);grind
   unfold ly;rw [hn];rfl
  have k:=(vB (by lia) g a bk u m).1 l;simp_all
 have h1:=h m hm;have k:xV t K O a bk u m=false:=by simpa using h1
 exact yk fun j _=>(vB (by lia) g a bk u m).2 k _
theorem vC (q:xW L t K O) {a:Nat} (p:a<L.b.length):m9 L t K O a=zF (fun m=>!Zf t K O a m) L.b.length:=by
 obtain⟨⟨i,z,y⟩,g⟩:=xh q;unfold m9;refine rK ⟨fun h m hm=>?_,fun h m hm=>?_⟩
 ·have h1:=h m hm;obtain⟨s,u,v,x⟩:=g a p;obtain⟨D,F,G,H⟩:=g m hm;have B:Zf t K O a m=false:=by
   rw [<-E8];unfold Zf;rw [rI (by lia)];rintro ⟨j,c,k,d⟩;unfold Uz at c;by_cases e:m=a
   ·lia
   rw [Qe e] at c;have l:=(Xx (by lia)).2 c;have n:(-j)*1<=(-j)*K.pc:=QU i (by lia);rw [WQ,WQ] at n;have f:=zq h1 (-j).toNat (by lia);unfold qS at f;have o:(((-j).toNat:Nat):Int)=-j:=(by lia);rw [o,show zC K O m - -j - zC K O a=zC K O m+j - zC K O a by lia,Qi d,Qk e,WQ,Qk (by lia)] at f;cases f
  simp_all
 have h1:=h m hm;have k:¬(Zf t K O a m):=by simpa using h1
 refine yk fun j _=>?_;unfold qS;by_cases d:(zC K O m - j - zC K O a) % t.r=0
 ·by_cases A:m=a/\j=0
  ·simp_all
  by_cases l:zP t K O m - j*K.pc<zP t K O a
  ·rw [Qi l];rfl
  exfalso;by_cases e:m=a
  ·subst e;have C:1<=(j:Int):=(by lia);have n:(j:Int)*1<=(j:Int)*K.pc:=QU i (by lia);lia
  refine k ?_;unfold Zf;rw [rI (by lia)];refine⟨-(j:Int),?_,by lia,by grind⟩;unfold Uz;rw [Qe e];refine (Xx (by lia)).1 ?_;rw [WQ];lia
 rw [Qk d];simp
end
section
structure Rd where
 ra:Int
 rb:Int
 tm:Int
 sg:Int
 nm:Int
def F4:Rd:=⟨0,0,0,0,0⟩
def xw (l:List Rd) (i:Nat):Rd:=l.getD i F4
section
variable (L:Lp) (t:Tg) (K:Kn) (O:Li)
def Z5 (s i:Nat):Rd:=⟨(zO (zu (zc L.b s)) i).1,(zO (zu (zc L.b s)) i).2,xy K O s,(dq K O s).sg,if i=1 then (dq K O s).b else (dq K O s).a⟩
def YH (s:Nat) (i:Nat):List Rd:=(List.range i).map (Z5 L K O s)
def Zv:Nat->List Rd
 | 0=>[]
 | s+1=>Zv s++YH L K O s (zu (zc L.b s)).length
def yl:List Rd:=Zv L K O L.b.length
def UT (x:Rd):Bool:=decide (x.nm=(zC K O x.ra.toNat - x.rb - x.sg) % t.r)
def UQ (x:Rd):Bool:=zF (fun m=>!xV t K O x.ra.toNat x.rb (x.tm+x.rb*K.pc) m) L.b.length
def Yj:Bool:=zF (XD (Y1 L t K O L.b.length)) (Y1 L t K O L.b.length).length
def Up:Bool:=zF (fun i=>lx K O (zJ (zf L t) i)) (zf L t).length
def Vo:Bool:=zF (fun i=>UT t K O (xw (yl L K O) i)) (yl L K O).length
def XE:Bool:=zF (fun i=>UQ L t K O (xw (yl L K O) i)) (yl L K O).length
def UN:Bool:=zF (fun i=>zF (fun m=>!Zf t K O (ak L.o i).toNat m) L.b.length) L.o.length
end
variable {L:Lp} {t:Tg} {K:Kn} {O:Li}
theorem vD (s i:Nat):(YH L K O s i).length=i:=by unfold YH;simp
theorem vF (s i:Nat):YH L K O s (i+1)=YH L K O s i++[Z5 L K O s i]:=by simp [YH,Wn]
def VN {x:Rd}:x∈Zv L K O k↔∃s,s<k/\∃i,i<(zu (zc L.b s)).length/\Z5 L K O s i=x:=by
 induction k with
 | zero =>
  constructor
  ·intro h;cases h
  lia
 | succ k ih =>
  grind [Zv,YH]
theorem UY {l:List Rd} (h:i<l.length):xw l i∈l:=by grind [xw]
def vG {p:Rd->Bool} {l:List Rd}:(∀i,i<l.length->p (xw l i))↔∀x∈l,p x:=by
 constructor
 ·intro h x a;obtain⟨i,hi,e⟩:=Wl.1 a;grind [xw]
 grind [UY]
def ZB (h:xW L t K O) (hs:s<L.b.length):0<=(dq K O s).sg/\(dq K O s).sg<=1000/\0<=(dq K O s).sl/\(dq K O s).sl<=1000/\0<=(dq K O s).d/\(dq K O s).d<=127/\0<=zC K O s/\zC K O s<=1127/\t.r<=128/\(dq K O s).sg*K.pc=xy K O s - (dq K O s).sl/\0<=(ak O s)/\(ak O s)<L.b.length:=by
 obtain⟨h1,F,l,G,H,m⟩:=xA h;obtain⟨⟨j,y,x⟩,i⟩:=xh h;have f:=l;unfold X7 at f;simp only [Qg] at f;obtain⟨⟨⟨⟨k,u⟩,o⟩,p⟩,g⟩:=f;obtain⟨u1,u2,u3,z,v⟩:=yi k;obtain⟨o1,N,-⟩:=VK (m s hs).1;have a:=zq g (Vp O s) (by unfold Vp;lia);have c:=a;unfold ky UZ at c;simp only [Qg] at c;unfold ky xL at a;simp only [Qg,QE] at a;have I:=zH.1 a.1.1.1.1.1;have n:=zH.1 a.1.1.1.1.2;have A:=a.1.1.1.2;have B:xy K O s=(zv K.ops (Vp O s)).sl+(zv K.ops (Vp O s)).sg*K.pc:=by simp [xy,dq,Er]
 have q:(zv K.ops (Vp O s)).sg*1<=(zv K.ops (Vp O s)).sg*K.pc:=QU j n.1;obtain⟨C,D,-,-⟩:=i s hs;have M:0<=(zv K.ops (Vp O s)).d/\(zv K.ops (Vp O s)).d<=t.r - 1:=by exact zH.1 c.1.1.2.1.1.1.1
 unfold zC dq;omega
def vH (h:xW L t K O) (hs:s<L.b.length) (hi:i<(zu (zc L.b s)).length) :
  0<=(Z5 L K O s i).ra/\(Z5 L K O s i).ra<L.b.length/\0<=(Z5 L K O s i).rb/\(Z5 L K O s i).rb<=3/\0<=(Z5 L K O s i).tm/\(Z5 L K O s i).tm<=1000/\0<=(Z5 L K O s i).sg/\(Z5 L K O s i).sg<=1000:=by obtain⟨h1,-⟩:=xA h;obtain⟨-,a⟩:=xh h;obtain⟨c,d,-,-⟩:=a s hs;obtain⟨r1,r2,g,j⟩:=XT h1 hs _ (Xn hi);obtain⟨o1,f,-⟩:=ZB h hs;exact⟨r1,r2,g,j,c,d,o1,f⟩
def Vd (h:xW L t K O) {x:Rd} (a:x∈yl L K O):0<=x.ra/\x.ra<L.b.length/\0<=x.rb/\x.rb<=3/\0<=x.tm/\x.tm<=1000/\0<=x.sg/\x.sg<=1000:=by obtain⟨s,hs,i,hi,rfl⟩:=VN.1 a;exact vH h hs hi
def XH (hm:zQ L) (hi:i<L.o.length):0<=ak L.o i/\ak L.o i<L.b.length:=by obtain⟨-,-,-,-,-,a,-⟩:=zy hm;have d:=XK L.b.length L.o (i+1) lI (yk fun k f=>zq a k lI);have c:lA L.o (i+1)=ak L.o i:=rfl;rw [c] at d;lia
def vI (c:xW L t K O):yg L t K O=(Yj L t K O && Up L t K O && Vo L t K O && XE L t K O && UN L t K O):=by
 obtain⟨hm,-⟩:=xA c;obtain⟨⟨q,g,r⟩,n⟩:=xh c;have y:zF (fun s=>zF (lU L t K O s) (zu (zc L.b s)).length) L.b.length=(Vo L t K O && XE L t K O):=by
  unfold Vo XE;rw [Ea,Qg,UD,UD,UD,vG (p:=UT t K O),vG (p:=UQ L t K O)];have f:∀s,s<L.b.length->∀i,i<(zu (zc L.b s)).length->lU L t K O s i=(UT t K O (Z5 L K O s i) && UQ L t K O (Z5 L K O s i)):=by intro s hs i hi;obtain⟨r1,r2,k,l,z,A,B,C⟩:=vH c hs hi;have hb:(Z5 L K O s i).rb*K.pc<=3*200:=Wy l g lI lI;have m:0<=(Z5 L K O s i).rb*K.pc:=Ws k lI;have e:=F3 c (a:=(Z5 L K O s i).ra.toNat) lI (bk:=(Z5 L K O s i).rb) (u:=(Z5 L K O s i).tm+(Z5 L K O s i).rb*K.pc) lI lI;unfold lU UQ;rw [<-e];rfl
  constructor
  ·intro h;constructor
   ·intro x d;obtain⟨s,hs,i,hi,rfl⟩:=VN.1 d;have h1:=zq (h s hs) i hi;simp_all
   intro x d;obtain⟨s,hs,i,hi,rfl⟩:=VN.1 d;have h1:=zq (h s hs) i hi;simp_all
  rintro ⟨h1,j⟩ s hs;refine yk fun i hi=>?_;rw [f s hs i hi,h1 _ (VN.2 ⟨s,hs,i,hi,rfl⟩),j _ (VN.2 ⟨s,hs,i,hi,rfl⟩)];rfl
 have v:zF (fun i=>m9 L t K O (ak L.o i).toNat) L.o.length=UN L t K O:=by
  unfold UN;refine rK ⟨fun h i hi=>?_,fun h i hi=>?_⟩
  ·have:=XH hm hi;grind [vC]
  have:=XH hm hi;show m9 L t K O (ak L.o i).toNat;grind [vC]
 grind [yg,Up,Yj]
def rL (a:xW L t K O=false):yg L t K O=false:=by grind [yg]
def Xj (l:List Rd) (a:Int):Nat->Int
 | 0=>0
 | k+1=>if (xw l k).ra=a then (if Xj l a k<(xw l k).rb then (xw l k).rb else Xj l a k) else Xj l a k
def l9 (a:Int) (f:Int) (l:List Rd):Int:=l.foldl (fun f x=>if x.ra=a/\f<x.rb then x.rb else f) f
theorem F5 (l:List Rd) (a:Int):∀k,k<=l.length->Xj l a k=l9 a 0 (l.take k):=by
 intro k;induction k with
 | zero=>intro _;rfl
 | succ k ih =>
  intro b;have e:l.take (k+1)=l.take k++[xw l k]:=by rw [Wm];grind [xw]
  grind [Xj,l9]
def F6 (L:Lp) (K:Kn) (O:Li) (s:Nat) (a f:Int):∀i,UO (zu (zc L.b s)) a f i=l9 a f (YH L K O s i):=by
 intro i;induction i with
 | zero=>rfl
 | succ i ih =>rw [vF];unfold l9;rw [Q8];simp only [qj,List.foldl_nil];show (if (zO (zu (zc L.b s)) i).1=a/\UO (zu (zc L.b s)) a f i<(zO (zu (zc L.b s)) i).2 then _ else _)=_;rw [ih];rfl
theorem F7 (L:Lp) (K:Kn) (O:Li) (a:Int):∀k,lr L a k=l9 a 0 (Zv L K O k):=by
 intro k;induction k with
 | zero=>rfl
 | succ k ih =>show UO (zu (zc L.b k)) a (lr L a k) (zu (zc L.b k)).length=l9 a 0 (Zv L K O k++YH L K O k (zu (zc L.b k)).length);rw [F6 L K O,ih];unfold l9;rw [Q8]
def F8 (L:Lp) (K:Kn) (O:Li) (a:Int):Xj (yl L K O) a (yl L K O).length=lw L a:=by grind [yl,lw,F5,F7]
def F9 (h:xW L t K O) (a:Int):∀k,k<=(yl L K O).length->0<=Xj (yl L K O) a k/\Xj (yl L K O) a k<=3:=by
 intro k;induction k with
 | zero=>intro _;exact⟨QR _,by show (0:Int)<=3;lia⟩
 | succ k ih =>
  intro b;have h1:=ih lI;obtain⟨-,-,c,d,-⟩:=Vd h (UY (l:=yl L K O) (i:=k) lI);grind [Xj]
def F' (hm:zQ L):∀k,k<=L.b.length->(Zv L K O k).length<=2*k:=by
 intro k;induction k with
 | zero=>intro _;exact Qc _
 | succ k ih =>
  grind [Zv,zu,vD]
def Ga (L:Lp) (k:Nat):Li:=XB (xE L) (fun s _=>(s:Int)) k
def Gb (L:Lp) (k:Nat):Li:=XB (xE L) (fun _ q=>(q:Int)+1) k
def Gc {F V:Li} {z:Nat}:∀m,(∀i,i<m->(ak F i).toNat≠z)->kK F V m z=0:=by
 intro m;induction m with
 | zero=>intro _;rfl
 | succ m ih =>intro h;show VM (kK F V m) (ak F m).toNat (ak V m) z=0;unfold VM;rw [Qe (fun e=>h m lI e.s)];exact ih fun i hi=>h i lI
def vJ (hr:1<=t.r) (L:Lp) (K:Kn) (O:Li) (h:i<UA (xE L) k):0<=ak (Y1 L t K O k) i/\ak (Y1 L t K O k) i<t.r:=by obtain⟨s,q,h1,a,rfl⟩:=DC _ _ _ h;unfold Y1;rw [oC _ _ _ s q h1 a];exact⟨QS _ lI,QP _ lI⟩
end
end
section
variable {b:Nat} {u v:vO} {w w':wO}
def mh (u v:vO) (w:wO):Prop:=∀g,v.ownBlock=some g->u.ownBlock=some g\/w.heap.size<=g
structure Kp (b:Nat) (u v:vO) (w w':wO):Prop where
 os:w'.os=w.os
 tape:w'.tape=w.tape
 output:w'.output=w.output
 size:w.heap.size<=w'.heap.size
 block:∀k,k<w.heap.size->k≠b->u.ownBlock≠some k->w'.heap[k]?=w.heap[k]?
 new:mh u v w
def Kp.refl (b:Nat) (u:vO) (w:wO):Kp b u u w w:=⟨rfl,rfl,rfl,Qc _,fun _ _ _ _=>rfl,fun _ h=>.inl h⟩
theorem Kp.t {x:vO} {w1 w2:wO} (h:Kp b u v w w1) (k:Kp b v x w1 w2):Kp b u x w w2 :=
 ⟨k.os.t h.os,k.tape.t h.tape,k.output.t h.output,QH h.size k.size,fun j a hb c=>(k.block j (Qu a h.size) hb (fun e=>(h.new j e).elim c (fun e=>absurd a (Nat.not_lt.2 e)))).t (h.block j a hb c),fun g d=>(k.new g d).elim (h.new g) (fun e=>.inr (QH h.size e))⟩
def Kp.of_below (h:Bw w w'):Kp b u u w w':=⟨h.os,h.tape,h.output,h.size,fun k a _ _=>h.block k a,fun _ h=>.inl h⟩
def Kp.gE {B:Nat} (h:Kp b u v w w') (hb:B<=b) (c:∀k,u.ownBlock=some k->B<=k) (d:B<=w.heap.size):Below B w w' :=
 ⟨h.os,h.tape,h.output,h.size,fun k a=>h.block k lI lI (fun e=>rQ)⟩
end
section
variable {L:Lp} {ws:List Li}
def B5 (ws:List Li) (h:ws.getD 0 []=YY\/ws.getD 0 []=kq):gK ws=none:=by
 have key:∀w,(w=YY\/w=kq)->w≠Zt/\w≠yO/\w≠xT/\w≠yT/\([11,12,13,14,15,16,17,18]:Li).find? (fun o=>decide (bA o=w))=none:=by intro w f;rcases f with rfl | rfl <;> decide
 match ws,h with
 | [],h=>rfl
 | [w],h=>exact Qe (key w h).1
 | [w,a],h=>exact Qe (key w h).2.1
 | [w,a,b],h=>simp only [gK,(key w h).2.2.2.2]
 | [w,a,b,c],h=>exact Qe (key w h).2.2.1
 | [w,a,b,c,d],h=>exact Qe (key w h).2.2.2.1
 | _ :: _ :: _ :: _ :: _ :: _ :: _,_=>rfl
def B6 (h:ws.getD 0 []=YY):YS L ws=if ws.length=2/\L.b.length+L.o.length=0 then (zT (ws.getD 1 []) 18).map (fun n=>{ L with l:=L.l++[n] }) else none:=by
 by_cases c:ws.length=2
 ·match ws,c,h with
  | [w,a],_,h =>
   have f:w=YY:=h;show (if w=YY then _ else _)=_;simp_all
 rw [Qe fun d=>c d.1];have hs:=B5 ws (.inl h);unfold YS;grind
def B7 (h:ws.getD 0 []=kq):YS L ws=if ws.length=2 then (zT (ws.getD 1 []) 18).map (fun n=>{ L with o:=L.o++[n] }) else none:=by
 by_cases b:ws.length=2
 ·match ws,b,h with
  | [w,a],_,h =>have c:w=kq:=h;subst c;rw [Qf (show [kq,a].length=2 from rfl)];simp only [YS];rw [Qe (show ¬kq=YY by decide),Qf trivial];rfl
 rw [Qe b];have hs:=B5 ws (.inr h);unfold YS;grind
def B8 (h1:ws.getD 0 []≠YY) (a:ws.getD 0 []≠kq):YS L ws=if L.o.length=0 then (gK ws).map (fun s=>{ L with b:=L.b++[s] }) else none:=by
 unfold YS;grind [gK]
end
section
open Go.RowKit
theorem D6 (k:Nat):p2 (k+1)=p2 k+p2 k:=by unfold p2;rw [Nat.pow_succ];omega
def R6 (k j:Nat) (h:k<=j):p2 k<=p2 j:=Int.ofNat_le.2 (WP oM h)
theorem R7:p2 62=4611686018427387904:=rfl
def R8 (l:Nat) (w:wO) (f:l<=62) :
  Cp 55 #[J l] w (Re w (J (p2 l))):=by
 go_enter func55,ntmps55;go_wp2;go_loop [3,4] (fun n i=>∃k:Nat,k<=l/\i=J k/\n=J (p2 k)) (fun _ i=>l - (intOf i).toNat)
 case atStart=>exact⟨0,Ql _,rfl,rfl⟩
 obtain⟨k,d,rfl,rfl⟩:=hrel;by_cases b:k<l
 ·have c:=Ai k;have hb:=R6 (k+1) 62 oM;rw [R7,D6] at hb;go_wp2;go_round
  case rel=>exact⟨k+1,oM,nQ,by rw [D6]⟩
  simp [intOf];omega
 have a:k=l:=oM
 subst a;go_wp2;go_ret;exact⟨rfl,rfl⟩
end
section
variable {n x:Int} {most:Nat} {l:Li}
def Mw (h:∀c∈l,c≠x) (m:Li):zx x (l++x :: m)=l :: zx x m:=by
 induction l with
 | nil=>exact XN x m
 | cons c l ih=>exact ZJ (h c (QY ..)) (ih fun d a=>h d (Wg _ a))
end
end Go.Proofs.YtjlfcbccpcigeacGreatDoor
