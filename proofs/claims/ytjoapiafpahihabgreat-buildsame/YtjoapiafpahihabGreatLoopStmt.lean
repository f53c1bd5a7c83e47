import Derived.Test.YtjoapiafpahihabGreatRows
import Derived.Test.YtjoapiafpahihabGreatNums
import Derived.Test.YtjoapiafpahihabGreatBase
import Derived.WalkKit
import Derived.WalkSpells
import Derived.WalkLawsBesides
import Derived.Below
import Derived.Lib.SmallJoins
namespace Go.Proofs.YtjoapiafpahihabGreat
open Go.RowKit Go.Joins
set_option linter.unusedVariables false
theorem z7 {a b:Bool} (h:a=b):Ending.returned (.bool a)=.returned (.bool b):=by rw [h]
def yf (w:World) (v:Value) (zs:List Int):Prop :=
 ∃ a cap,v=.slice a zs.length cap/\zs.length<=cap/\cap<=maxLen/\(∀i,i<zs.length->-9223372036854775808<=nth zs i/\nth zs i<=9223372036854775807) /\
   (0<zs.length->∃b off,a=some ⟨b,off,none⟩/\b<w.heap.size/\∀i,i<zs.length->w.cell? ⟨b,off+i,none⟩=some (iV (nth zs i)))
theorem zY (n lo hi:Int) (w:World) :
  Calls Tryz.prog 140 #[iV n,iV lo,iV hi] w fun e w'=>e=.returned (.bool (inR n lo hi))/\w'=w:=by
 by_cases h:lo<=n/\n<=hi
 ·rw [zK h]
  obtain⟨h1,h2⟩:=h
  go_enter Tryz.func140,Tryz.ntmps140
  go_wp2
  go_ret
  exact⟨rfl,rfl⟩
 ·rw [Z3 h]
  by_cases h1:lo<=n
  ·have h2:¬n<=hi:=fun h2=>h ⟨h1,h2⟩
   clear h
   go_enter Tryz.func140,Tryz.ntmps140
   go_wp2
   go_ret
   exact⟨rfl,rfl⟩
  ·clear h
   go_enter Tryz.func140,Tryz.ntmps140
   go_wp2
   go_ret
   exact⟨rfl,rfl⟩
set_option maxHeartbeats 400000 in
theorem YC (v:Value) (zs:List Int) (w:World) (h:yf w v zs) :
  Calls Tryz.prog 101 #[v] w fun e w'=>e=.returned (.bool (Z5 zs))/\w'=w:=by
 obtain⟨a,cap,rfl,hl,hm,hr,hc⟩:=h
 unfold maxLen at hm
 go_enter Tryz.func101,Tryz.ntmps101
 go_wp2
 go_loop [7] (fun i=>∃k:Nat,k<=zs.length/\i=iV k/\zh (fun i=>zdd (nth zs i)) k=true) (fun i=>zs.length - (intOf i).toNat)
 case atStart=>exact⟨0,Nat.zero_le _,rfl,rfl⟩
 case round =>
  obtain⟨k,hk,rfl,hall⟩:=hrel
  have HA:=z5 hall
  clear hall
  by_cases hlt:k<zs.length
  ·obtain⟨b,off,rfl,hb,hcell⟩:=hc (by omega)
   have hck:=hcell k hlt
   clear hcell hc
   cases hx:zdd (nth zs k) with
   | true =>
     have HX:=z5 hx
     have hin:inR (nth zs k) 0 5=true:=hx
     clear hx
     go_wp2_with (go_at_call 140;refine (zY _ _ _ _).mono ?_;rintro e w' ⟨rfl,rfl⟩)
     go_round
     case rel=>exact⟨k+1,by omega,by go_num,yw HA.out HX.out⟩
     case measure=>simp [intOf];omega
   | false =>
     have HX:=z5 hx
     have hin:inR (nth zs k) 0 5=false:=hx
     clear hx
     go_wp2_with (go_at_call 140;refine (zY _ _ _ _).mono ?_;rintro e w' ⟨rfl,rfl⟩)
     go_ret
     exact⟨z7 (zw hlt HX.out).symm,rfl⟩
  ·have e:k=zs.length:=by omega
   have HL:Hid (Z5 zs=true):=by show Z5 zs=true;unfold Z5;rw [<-e];exact HA.out
   clear HA e
   go_wp2
   go_ret
   exact⟨z7 HL.out.symm,rfl⟩
def zJ (s:St):Array Value:=#[iV s.o,iV s.xa,iV s.xb,iV s.ya,iV s.yb,iV s.ar,iV s.sp,iV s.pl,iV s.nn]
def zcq (w:World) (v:Value) (b:List St):Prop :=
 ∃ a cap,v=.slice a b.length cap/\b.length<=cap/\cap<=maxLen /\
   (0<b.length->∃blk off,a=some ⟨blk,off,none⟩/\blk<w.heap.size/\∀i,i<b.length->∀j,j<9->w.cell? ⟨blk,off+i*9+j,none⟩=(zJ (z6 b i))[j]?)
def zk (w:World) (v:Value) (L:Lp):Prop:=∃v0 v1 v2,v=.agg #[v0,v1,v2]/\yf w v0 L.logs/\zcq w v1 L.body/\yf w v2 L.outs
set_option maxHeartbeats 400000 in
theorem YX (v:Value) (L:Lp) (o xa xb ya yb ar sp pl nn:Int) (w:World) (h:zk w v L) :
  Calls Tryz.prog 167 #[v,.agg #[iV o,iV xa,iV xb,iV ya,iV yb,iV ar,iV sp,iV pl,iV nn]] w fun e w'=>e=.returned (.bool (yy L.logs.length ar sp pl))/\Below w.heap.size w w':=by
 obtain⟨v0,v1,v2,rfl,⟨a,cap,rfl,hl,hm,hr,hc⟩,-,-⟩:=h
 unfold maxLen at hm
 cases h1:inR ar 0 (L.logs.length - 1) with
 | false =>
   have HX:Hid (yy L.logs.length ar sp pl=false):=by show yy L.logs.length ar sp pl=false;unfold yy;rw [h1];rfl
   go_enter Tryz.func167,Tryz.ntmps167
   go_wp2_with (go_at_call 140;refine (zY _ _ _ _).mono ?_;rintro e w' ⟨rfl,rfl⟩)
   go_ret
   exact⟨z7 HX.out.symm,below_alloc2 _ _ _⟩
 | true =>
   cases h2:inR sp (-64) 64 with
   | false =>
     have HX:Hid (yy L.logs.length ar sp pl=false):=by show yy L.logs.length ar sp pl=false;unfold yy;rw [h1,h2];rfl
     go_enter Tryz.func167,Tryz.ntmps167
     go_wp2_with (go_at_call 140;refine (zY _ _ _ _).mono ?_;rintro e w' ⟨rfl,rfl⟩)
     go_ret
     exact⟨z7 HX.out.symm,below_alloc2 _ _ _⟩
   | true =>
     have HX:Hid (yy L.logs.length ar sp pl=inR pl (-64) 64):=by show yy L.logs.length ar sp pl=inR pl (-64) 64;unfold yy;rw [h1,h2];rfl
     go_enter Tryz.func167,Tryz.ntmps167
     go_wp2_with (go_at_call 140;refine (zY _ _ _ _).mono ?_;rintro e w' ⟨rfl,rfl⟩)
     go_ret
     exact⟨z7 HX.out.symm,below_alloc2 _ _ _⟩
set_option maxHeartbeats 400000 in
theorem Yl (v:Value) (L:Lp) (k x y:Int) (w:World) (h:zk w v L) (hk0:0<=k) (hk:k<=9223372036854775807) :
  Calls Tryz.prog 168 #[v,iV k,.agg #[iV x,iV y]] w fun e w'=>e=.returned (.bool (yg L.body.length k x y))/\Below w.heap.size w w':=by
 obtain⟨v0,v1,v2,rfl,-,⟨a,cap,rfl,hl,hm,hc⟩,-⟩:=h
 unfold maxLen at hm
 by_cases hy:y=0
 ·subst hy
  have HX:Hid (yg L.body.length k x 0=inR x 0 (k - 1)):=by show yg L.body.length k x 0=inR x 0 (k - 1);unfold yg;rw [if_pos rfl];rfl
  go_enter Tryz.func168,Tryz.ntmps168
  go_wp2_with (go_at_call 140;refine (zY _ _ _ _).mono ?_;rintro e w' ⟨rfl,rfl⟩)
  go_ret
  exact⟨z7 HX.out.symm,below_alloc2 _ _ _⟩
 ·have hb:(y == 0)=false:=by simpa using hy
  cases h1:inR y 1 3 with
  | false =>
    have HX:Hid (yg L.body.length k x y=false):=by
     show yg L.body.length k x y=false
     unfold yg
     rw [show inR y 0 3=false from Z3 fun h=>by
      have h2:inR y 1 3=true:=zK (by omega)
      rw [h1] at h2;exact Bool.noConfusion h2]
     rfl
    clear hy
    go_enter Tryz.func168,Tryz.ntmps168
    go_wp2_with (go_at_call 140;refine (zY _ _ _ _).mono ?_;rintro e w' ⟨rfl,rfl⟩)
    go_ret
    exact⟨z7 HX.out.symm,below_alloc2 _ _ _⟩
  | true =>
    have HX:Hid (yg L.body.length k x y=inR x 0 (L.body.length - 1)):=by
     show yg L.body.length k x y=inR x 0 (L.body.length - 1)
     have h2:=zo.1 h1
     unfold yg
     rw [show inR y 0 3=true from zK (by omega),if_neg hy]
     rfl
    clear hy
    go_enter Tryz.func168,Tryz.ntmps168
    go_wp2_with (go_at_call 140;refine (zY _ _ _ _).mono ?_;rintro e w' ⟨rfl,rfl⟩)
    go_ret
    exact⟨z7 HX.out.symm,below_alloc2 _ _ _⟩
theorem Zj {w:World} {b o:Nat} {s:St} (h:∀j,j<9->w.cell? ⟨b,o+j,none⟩=(zJ s)[j]?) :
  w.cell? ⟨b,o,none⟩=some (iV s.o)/\w.cell? ⟨b,o+1,none⟩=some (iV s.xa)/\w.cell? ⟨b,o+2,none⟩=some (iV s.xb)/\w.cell? ⟨b,o+3,none⟩=some (iV s.ya)/\w.cell? ⟨b,o+4,none⟩=some (iV s.yb) /\
   w.cell? ⟨b,o+5,none⟩=some (iV s.ar)/\w.cell? ⟨b,o+6,none⟩=some (iV s.sp)/\w.cell? ⟨b,o+7,none⟩=some (iV s.pl)/\w.cell? ⟨b,o+8,none⟩=some (iV s.nn) :=
 ⟨h 0 (by omega),h 1 (by omega),h 2 (by omega),h 3 (by omega),h 4 (by omega),h 5 (by omega),h 6 (by omega),h 7 (by omega),h 8 (by omega)⟩
theorem zc {W w1:World} (hb:Below W.heap.size W w1):∀b o,b<W.heap.size->w1.cell? ⟨b,o,none⟩=W.cell? ⟨b,o,none⟩ :=
 fun b o h=>hb.cell (p:=⟨b,o,none⟩) h
theorem yf.below {w w':World} {v:Value} {zs:List Int} (h:yf w v zs) (hb:Below w.heap.size w w'):yf w' v zs:=by
 obtain⟨a,cap,e,h1,h2,h3,h4⟩:=h
 refine⟨a,cap,e,h1,h2,h3,fun hp=>?_⟩
 obtain⟨b,off,e2,h5,h6⟩:=h4 hp
 exact⟨b,off,e2,Nat.lt_of_lt_of_le h5 hb.size,fun i hi=>by rw [zc hb _ _ h5];exact h6 i hi⟩
theorem zcq.below {w w':World} {v:Value} {l:List St} (h:zcq w v l) (hb:Below w.heap.size w w'):zcq w' v l:=by
 obtain⟨a,cap,e,h1,h2,h4⟩:=h
 refine⟨a,cap,e,h1,h2,fun hp=>?_⟩
 obtain⟨b,off,e2,h5,h6⟩:=h4 hp
 exact⟨b,off,e2,Nat.lt_of_lt_of_le h5 hb.size,fun i hi j hj=>by rw [zc hb _ _ h5];exact h6 i hi j hj⟩
theorem zk.below {w w':World} {v:Value} {L:Lp} (h:zk w v L) (hb:Below w.heap.size w w'):zk w' v L:=by
 obtain⟨v0,v1,v2,e,h1,h2,h3⟩:=h
 exact⟨v0,v1,v2,e,h1.below hb,h2.below hb,h3.below hb⟩
theorem zkf {v:Value} {L:Lp} {k:Nat} {w:World} (h:zk w v L) (hk:k<L.body.length) :
  ∃v0 v2 b off cap,v=.agg #[v0,.slice (some ⟨b,off,none⟩) L.body.length cap,v2]/\cap<=9223372036854775807/\L.body.length<=cap/\b<w.heap.size/\∀j,j<9->w.cell? ⟨b,off+k*9+j,none⟩=(zJ (z6 L.body k))[j]?:=by
 obtain⟨v0,v1,v2,rfl,-,⟨a,cap,rfl,hl,hm,hc⟩,-⟩:=h
 obtain⟨b,off,rfl,hb,hcell⟩:=hc (by omega)
 exact⟨v0,v2,b,off,cap,rfl,by unfold maxLen at hm;omega,hl,hb,hcell k hk⟩
set_option maxHeartbeats 800000 in
theorem zkd (L:Lp) (k:Nat) (w:World) (v0 v2:Value) (b off cap:Nat) (xa xb ya yb ar sp pl nn:Int) (hL:zk w (.agg #[v0,.slice (some ⟨b,off,none⟩) L.body.length cap,v2]) L) (hks:(k:Int)<(L.body.length:Int)) (hm:cap<=9223372036854775807) (hl:L.body.length<=cap) (hb:b<w.heap.size)
  (c0:w.cell? ⟨b,off+k*9,none⟩=some (iV 1)) (c1:w.cell? ⟨b,off+k*9+1,none⟩=some (iV xa)) (c2:w.cell? ⟨b,off+k*9+2,none⟩=some (iV xb)) (c3:w.cell? ⟨b,off+k*9+3,none⟩=some (iV ya)) (c4:w.cell? ⟨b,off+k*9+4,none⟩=some (iV yb)) (c5:w.cell? ⟨b,off+k*9+5,none⟩=some (iV ar)) (c6:w.cell? ⟨b,off+k*9+6,none⟩=some (iV sp)) (c7:w.cell? ⟨b,off+k*9+7,none⟩=some (iV pl)) (c8:w.cell? ⟨b,off+k*9+8,none⟩=some (iV nn)) :
  Calls Tryz.prog 143 #[.agg #[v0,.slice (some ⟨b,off,none⟩) L.body.length cap,v2],iV k] w fun e w'=>e=.returned (.bool (yd L.logs.length L.body.length k ⟨1,xa,xb,ya,yb,ar,sp,pl,nn⟩))/\Below w.heap.size w w':=by
 go_enter Tryz.func143,Tryz.ntmps143
 go_wp2_with fail
 all_goals
  go_ret
  exact⟨z7 (by simp [yd, *]),below_alloc2 _ _ _⟩
set_option maxHeartbeats 800000 in
theorem zke (L:Lp) (k:Nat) (w:World) (v0 v2:Value) (b off cap:Nat) (xa xb ya yb ar sp pl nn:Int) (hL:zk w (.agg #[v0,.slice (some ⟨b,off,none⟩) L.body.length cap,v2]) L) (hks:(k:Int)<(L.body.length:Int)) (hm:cap<=9223372036854775807) (hl:L.body.length<=cap) (hb:b<w.heap.size)
  (c0:w.cell? ⟨b,off+k*9,none⟩=some (iV 2)) (c1:w.cell? ⟨b,off+k*9+1,none⟩=some (iV xa)) (c2:w.cell? ⟨b,off+k*9+2,none⟩=some (iV xb)) (c3:w.cell? ⟨b,off+k*9+3,none⟩=some (iV ya)) (c4:w.cell? ⟨b,off+k*9+4,none⟩=some (iV yb)) (c5:w.cell? ⟨b,off+k*9+5,none⟩=some (iV ar)) (c6:w.cell? ⟨b,off+k*9+6,none⟩=some (iV sp)) (c7:w.cell? ⟨b,off+k*9+7,none⟩=some (iV pl)) (c8:w.cell? ⟨b,off+k*9+8,none⟩=some (iV nn)) :
  Calls Tryz.prog 143 #[.agg #[v0,.slice (some ⟨b,off,none⟩) L.body.length cap,v2],iV k] w fun e w'=>e=.returned (.bool (yd L.logs.length L.body.length k ⟨2,xa,xb,ya,yb,ar,sp,pl,nn⟩))/\Below w.heap.size w w':=by
 go_enter Tryz.func143,Tryz.ntmps143
 go_wp2_with fail
 all_goals
  go_ret
  exact⟨z7 (by simp [yd, *]),below_alloc2 _ _ _⟩
set_option maxHeartbeats 800000 in
theorem zgi (L:Lp) (k:Nat) (w:World) (v0 v2:Value) (b off cap:Nat) (ar sp pl:Int) (hL:zk w (.agg #[v0,.slice (some ⟨b,off,none⟩) L.body.length cap,v2]) L) (hks:(k:Int)<(L.body.length:Int)) (hm:cap<=9223372036854775807) (hl:L.body.length<=cap) (hb:b<w.heap.size)
  (c0:w.cell? ⟨b,off+k*9,none⟩=some (iV 3)) (c1:w.cell? ⟨b,off+k*9+1,none⟩=some (iV 0)) (c2:w.cell? ⟨b,off+k*9+2,none⟩=some (iV 0)) (c3:w.cell? ⟨b,off+k*9+3,none⟩=some (iV 0)) (c4:w.cell? ⟨b,off+k*9+4,none⟩=some (iV 0)) (c5:w.cell? ⟨b,off+k*9+5,none⟩=some (iV ar)) (c6:w.cell? ⟨b,off+k*9+6,none⟩=some (iV sp)) (c7:w.cell? ⟨b,off+k*9+7,none⟩=some (iV pl)) (c8:w.cell? ⟨b,off+k*9+8,none⟩=some (iV 0)) :
  Calls Tryz.prog 143 #[.agg #[v0,.slice (some ⟨b,off,none⟩) L.body.length cap,v2],iV k] w fun e w'=>e=.returned (.bool (yd L.logs.length L.body.length k ⟨3,0,0,0,0,ar,sp,pl,0⟩))/\Below w.heap.size w w':=by
 go_enter Tryz.func143,Tryz.ntmps143
 go_wp2_with (go_at_call 167;refine (YX _ L _ _ _ _ _ _ _ _ _ _ (zk.below hL (below_alloc3 _ _ _ _))).mono ?_;rintro e w1 ⟨rfl,hb1⟩)
 go_ret
 exact⟨z7 (by simp [yd]),(below_alloc3 _ _ _ _).trans (hb1.mono (by simp;omega))⟩
set_option maxHeartbeats 800000 in
theorem zgh (L:Lp) (k:Nat) (w:World) (v0 v2:Value) (b off cap:Nat) (xa xb ya yb ar sp pl nn:Int) (hL:zk w (.agg #[v0,.slice (some ⟨b,off,none⟩) L.body.length cap,v2]) L) (hks:(k:Int)<(L.body.length:Int)) (hm:cap<=9223372036854775807) (hl:L.body.length<=cap) (hb:b<w.heap.size)
  (c0:w.cell? ⟨b,off+k*9,none⟩=some (iV 3)) (c1:w.cell? ⟨b,off+k*9+1,none⟩=some (iV xa)) (c2:w.cell? ⟨b,off+k*9+2,none⟩=some (iV xb)) (c3:w.cell? ⟨b,off+k*9+3,none⟩=some (iV ya)) (c4:w.cell? ⟨b,off+k*9+4,none⟩=some (iV yb)) (c5:w.cell? ⟨b,off+k*9+5,none⟩=some (iV ar)) (c6:w.cell? ⟨b,off+k*9+6,none⟩=some (iV sp)) (c7:w.cell? ⟨b,off+k*9+7,none⟩=some (iV pl)) (c8:w.cell? ⟨b,off+k*9+8,none⟩=some (iV nn)) (hz:¬(xa=0/\xb=0/\ya=0/\yb=0/\nn=0)) :
  Calls Tryz.prog 143 #[.agg #[v0,.slice (some ⟨b,off,none⟩) L.body.length cap,v2],iV k] w fun e w'=>e=.returned (.bool (yd L.logs.length L.body.length k ⟨3,xa,xb,ya,yb,ar,sp,pl,nn⟩))/\Below w.heap.size w w':=by
 go_enter Tryz.func143,Tryz.ntmps143
 go_wp2_with fail
 all_goals
  first
  | (go_ret;exact⟨z7 (by simp [yd, *]),below_alloc3 _ _ _ _⟩)
  | (exfalso;simp_all)
theorem zcb {m n k o xa xb ya yb ar sp pl nn:Int} (o1:(o == 1)=false) (o2:(o == 2)=false) (o3:(o == 3)=false) (o4:(o == 4)=false) (hi:inR o 11 18=false):yd m n k ⟨o,xa,xb,ya,yb,ar,sp,pl,nn⟩=false:=by
 unfold yd
 have h:¬(11<=o/\o<=18):=fun h=>by rw [zK h] at hi;exact Bool.noConfusion hi
 simp at o1 o2 o3 o4
 rw [if_neg o1,if_neg o2,if_neg o3,if_neg o4,if_neg h]
theorem zcc {m n k o xa xb ya yb ar sp pl nn:Int} (o1:(o == 1)=false) (o2:(o == 2)=false) (o3:(o == 3)=false) (o4:(o == 4)=false) (hi:inR o 11 18=true) :
  yd m n k ⟨o,xa,xb,ya,yb,ar,sp,pl,nn⟩=(decide (ar=0/\sp=0/\pl=0/\nn=0) && yg n k xa xb && yg n k ya yb):=by
 unfold yd
 simp at o1 o2 o3 o4
 rw [if_neg o1,if_neg o2,if_neg o3,if_neg o4,if_pos (zo.1 hi)]
theorem znr {m n k o xa xb ya yb ar sp pl nn:Int} (o1:(o == 1)=false) (o2:(o == 2)=false) (o3:(o == 3)=false) (o4:(o == 4)=false) (hi:inR o 11 18=true) (hz:¬(ar=0/\sp=0/\pl=0/\nn=0)) :
  yd m n k ⟨o,xa,xb,ya,yb,ar,sp,pl,nn⟩=false:=by
 rw [zcc o1 o2 o3 o4 hi,decide_eq_false hz];rfl
theorem ze9 {m n k o xa xb ya yb:Int} (o1:(o == 1)=false) (o2:(o == 2)=false) (o3:(o == 3)=false) (o4:(o == 4)=false) (hi:inR o 11 18=true) :
  yd m n k ⟨o,xa,xb,ya,yb,0,0,0,0⟩=(yg n k xa xb && yg n k ya yb):=by
 rw [zcc o1 o2 o3 o4 hi,decide_eq_true ⟨rfl,rfl,rfl,rfl⟩];rfl
set_option maxHeartbeats 800000 in
theorem zeb (L:Lp) (k:Nat) (w:World) (v0 v2:Value) (b off cap:Nat) (xa xb ar sp pl:Int) (hL:zk w (.agg #[v0,.slice (some ⟨b,off,none⟩) L.body.length cap,v2]) L) (hks:(k:Int)<(L.body.length:Int)) (hm:cap<=9223372036854775807) (hl:L.body.length<=cap) (hb:b<w.heap.size)
  (c0:w.cell? ⟨b,off+k*9,none⟩=some (iV 4)) (c1:w.cell? ⟨b,off+k*9+1,none⟩=some (iV xa)) (c2:w.cell? ⟨b,off+k*9+2,none⟩=some (iV xb)) (c3:w.cell? ⟨b,off+k*9+3,none⟩=some (iV 0)) (c4:w.cell? ⟨b,off+k*9+4,none⟩=some (iV 0)) (c5:w.cell? ⟨b,off+k*9+5,none⟩=some (iV ar)) (c6:w.cell? ⟨b,off+k*9+6,none⟩=some (iV sp)) (c7:w.cell? ⟨b,off+k*9+7,none⟩=some (iV pl)) (c8:w.cell? ⟨b,off+k*9+8,none⟩=some (iV 0)) (hw:yy L.logs.length ar sp pl=false) :
  Calls Tryz.prog 143 #[.agg #[v0,.slice (some ⟨b,off,none⟩) L.body.length cap,v2],iV k] w fun e w'=>e=.returned (.bool (yd L.logs.length L.body.length k ⟨4,xa,xb,0,0,ar,sp,pl,0⟩))/\Below w.heap.size w w':=by
 go_enter Tryz.func143,Tryz.ntmps143
 go_wp2_with (go_at_call 167;refine (YX _ L _ _ _ _ _ _ _ _ _ _ (zk.below hL (below_alloc3 _ _ _ _))).mono ?_;rintro e w1 ⟨rfl,hb1⟩;have hc1:=zc hb1)
 go_ret
 exact⟨z7 (by simp [yd,hw]),(below_alloc3 _ _ _ _).trans (hb1.mono (by simp;omega))⟩
set_option maxHeartbeats 800000 in
theorem zec (L:Lp) (k:Nat) (w:World) (v0 v2:Value) (b off cap:Nat) (xa xb ar sp pl:Int) (hL:zk w (.agg #[v0,.slice (some ⟨b,off,none⟩) L.body.length cap,v2]) L) (hks:(k:Int)<(L.body.length:Int)) (hm:cap<=9223372036854775807) (hl:L.body.length<=cap) (hb:b<w.heap.size)
  (c0:w.cell? ⟨b,off+k*9,none⟩=some (iV 4)) (c1:w.cell? ⟨b,off+k*9+1,none⟩=some (iV xa)) (c2:w.cell? ⟨b,off+k*9+2,none⟩=some (iV xb)) (c3:w.cell? ⟨b,off+k*9+3,none⟩=some (iV 0)) (c4:w.cell? ⟨b,off+k*9+4,none⟩=some (iV 0)) (c5:w.cell? ⟨b,off+k*9+5,none⟩=some (iV ar)) (c6:w.cell? ⟨b,off+k*9+6,none⟩=some (iV sp)) (c7:w.cell? ⟨b,off+k*9+7,none⟩=some (iV pl)) (c8:w.cell? ⟨b,off+k*9+8,none⟩=some (iV 0)) (hw:yy L.logs.length ar sp pl=true) :
  Calls Tryz.prog 143 #[.agg #[v0,.slice (some ⟨b,off,none⟩) L.body.length cap,v2],iV k] w fun e w'=>e=.returned (.bool (yd L.logs.length L.body.length k ⟨4,xa,xb,0,0,ar,sp,pl,0⟩))/\Below w.heap.size w w':=by
 go_enter Tryz.func143,Tryz.ntmps143
 go_wp2_with (first
  | (go_at_call 167;refine (YX _ L _ _ _ _ _ _ _ _ _ _ (zk.below hL (below_alloc3 _ _ _ _))).mono ?_;rintro e w1 ⟨rfl,hb1⟩;have hc1:=zc hb1)
  | (go_at_call 168;refine (Yl _ L _ _ _ _ (zk.below hL ((below_alloc3 _ _ _ _).trans (hb1.mono (by simp;omega)))) (by omega) (by omega)).mono ?_;rintro e w2 ⟨rfl,hb2⟩))
 go_ret
 exact⟨z7 (by simp [yd,hw]),((below_alloc3 _ _ _ _).trans (hb1.mono (by simp;omega))).trans (hb2.mono (by have:=hb1.size;simp at this;omega))⟩
set_option maxHeartbeats 800000 in
theorem zgj (L:Lp) (k:Nat) (w:World) (v0 v2:Value) (b off cap:Nat) (xa xb ya yb ar sp pl nn:Int) (hL:zk w (.agg #[v0,.slice (some ⟨b,off,none⟩) L.body.length cap,v2]) L) (hks:(k:Int)<(L.body.length:Int)) (hm:cap<=9223372036854775807) (hl:L.body.length<=cap) (hb:b<w.heap.size)
  (c0:w.cell? ⟨b,off+k*9,none⟩=some (iV 4)) (c1:w.cell? ⟨b,off+k*9+1,none⟩=some (iV xa)) (c2:w.cell? ⟨b,off+k*9+2,none⟩=some (iV xb)) (c3:w.cell? ⟨b,off+k*9+3,none⟩=some (iV ya)) (c4:w.cell? ⟨b,off+k*9+4,none⟩=some (iV yb)) (c5:w.cell? ⟨b,off+k*9+5,none⟩=some (iV ar)) (c6:w.cell? ⟨b,off+k*9+6,none⟩=some (iV sp)) (c7:w.cell? ⟨b,off+k*9+7,none⟩=some (iV pl)) (c8:w.cell? ⟨b,off+k*9+8,none⟩=some (iV nn)) (hz:¬(ya=0/\yb=0/\nn=0)) :
  Calls Tryz.prog 143 #[.agg #[v0,.slice (some ⟨b,off,none⟩) L.body.length cap,v2],iV k] w fun e w'=>e=.returned (.bool (yd L.logs.length L.body.length k ⟨4,xa,xb,ya,yb,ar,sp,pl,nn⟩))/\Below w.heap.size w w':=by
 go_enter Tryz.func143,Tryz.ntmps143
 go_wp2_with fail
 all_goals
  first
  | (go_ret;exact⟨z7 (by simp [yd, *]),below_alloc3 _ _ _ _⟩)
  | (exfalso;simp_all)
set_option maxHeartbeats 800000 in
theorem zgk (L:Lp) (k:Nat) (w:World) (v0 v2:Value) (b off cap:Nat) (o xa xb ya yb ar sp pl nn:Int) (hL:zk w (.agg #[v0,.slice (some ⟨b,off,none⟩) L.body.length cap,v2]) L) (hks:(k:Int)<(L.body.length:Int)) (hm:cap<=9223372036854775807) (hl:L.body.length<=cap) (hb:b<w.heap.size)
  (c0:w.cell? ⟨b,off+k*9,none⟩=some (iV o)) (c1:w.cell? ⟨b,off+k*9+1,none⟩=some (iV xa)) (c2:w.cell? ⟨b,off+k*9+2,none⟩=some (iV xb)) (c3:w.cell? ⟨b,off+k*9+3,none⟩=some (iV ya)) (c4:w.cell? ⟨b,off+k*9+4,none⟩=some (iV yb)) (c5:w.cell? ⟨b,off+k*9+5,none⟩=some (iV ar)) (c6:w.cell? ⟨b,off+k*9+6,none⟩=some (iV sp)) (c7:w.cell? ⟨b,off+k*9+7,none⟩=some (iV pl)) (c8:w.cell? ⟨b,off+k*9+8,none⟩=some (iV nn)) (o1:(o == 1)=false) (o2:(o == 2)=false) (o3:(o == 3)=false) (o4:(o == 4)=false) (hi:inR o 11 18=false) :
  Calls Tryz.prog 143 #[.agg #[v0,.slice (some ⟨b,off,none⟩) L.body.length cap,v2],iV k] w fun e w'=>e=.returned (.bool (yd L.logs.length L.body.length k ⟨o,xa,xb,ya,yb,ar,sp,pl,nn⟩))/\Below w.heap.size w w':=by
 go_enter Tryz.func143,Tryz.ntmps143
 go_wp2_with (go_at_call 140;refine (zY _ _ _ _).mono ?_;rintro e w' ⟨rfl,rfl⟩)
 go_ret
 exact⟨z7 (zcb o1 o2 o3 o4 hi).symm,below_alloc2 _ _ _⟩
set_option maxHeartbeats 800000 in
theorem zed (L:Lp) (k:Nat) (w:World) (v0 v2:Value) (b off cap:Nat) (o xa xb ya yb ar sp pl nn:Int) (hL:zk w (.agg #[v0,.slice (some ⟨b,off,none⟩) L.body.length cap,v2]) L) (hks:(k:Int)<(L.body.length:Int)) (hm:cap<=9223372036854775807) (hl:L.body.length<=cap) (hb:b<w.heap.size)
  (c0:w.cell? ⟨b,off+k*9,none⟩=some (iV o)) (c1:w.cell? ⟨b,off+k*9+1,none⟩=some (iV xa)) (c2:w.cell? ⟨b,off+k*9+2,none⟩=some (iV xb)) (c3:w.cell? ⟨b,off+k*9+3,none⟩=some (iV ya)) (c4:w.cell? ⟨b,off+k*9+4,none⟩=some (iV yb)) (c5:w.cell? ⟨b,off+k*9+5,none⟩=some (iV ar)) (c6:w.cell? ⟨b,off+k*9+6,none⟩=some (iV sp)) (c7:w.cell? ⟨b,off+k*9+7,none⟩=some (iV pl)) (c8:w.cell? ⟨b,off+k*9+8,none⟩=some (iV nn)) (o1:(o == 1)=false) (o2:(o == 2)=false) (o3:(o == 3)=false) (o4:(o == 4)=false) (hi:inR o 11 18=true) (hz:¬(ar=0/\sp=0/\pl=0/\nn=0)) :
  Calls Tryz.prog 143 #[.agg #[v0,.slice (some ⟨b,off,none⟩) L.body.length cap,v2],iV k] w fun e w'=>e=.returned (.bool (yd L.logs.length L.body.length k ⟨o,xa,xb,ya,yb,ar,sp,pl,nn⟩))/\Below w.heap.size w w':=by
 go_enter Tryz.func143,Tryz.ntmps143
 have HX:=z5 (znr (xa:=xa) (xb:=xb) (ya:=ya) (yb:=yb) (m:=L.logs.length) (n:=L.body.length) (k:=k) o1 o2 o3 o4 hi hz)
 go_wp2_with (go_at_call 140;refine (zY _ _ _ _).mono ?_;rintro e w' ⟨rfl,rfl⟩)
 all_goals
  first
  | (go_ret;exact⟨z7 HX.out.symm,below_alloc3 _ _ _ _⟩)
  | (exfalso;simp_all;done)
set_option maxHeartbeats 800000 in
theorem zcd (L:Lp) (k:Nat) (w:World) (v0 v2:Value) (b off cap:Nat) (o xa xb ya yb:Int) (hL:zk w (.agg #[v0,.slice (some ⟨b,off,none⟩) L.body.length cap,v2]) L) (hks:(k:Int)<(L.body.length:Int)) (hm:cap<=9223372036854775807) (hl:L.body.length<=cap) (hb:b<w.heap.size)
  (c0:w.cell? ⟨b,off+k*9,none⟩=some (iV o)) (c1:w.cell? ⟨b,off+k*9+1,none⟩=some (iV xa)) (c2:w.cell? ⟨b,off+k*9+2,none⟩=some (iV xb)) (c3:w.cell? ⟨b,off+k*9+3,none⟩=some (iV ya)) (c4:w.cell? ⟨b,off+k*9+4,none⟩=some (iV yb)) (c5:w.cell? ⟨b,off+k*9+5,none⟩=some (iV 0)) (c6:w.cell? ⟨b,off+k*9+6,none⟩=some (iV 0)) (c7:w.cell? ⟨b,off+k*9+7,none⟩=some (iV 0)) (c8:w.cell? ⟨b,off+k*9+8,none⟩=some (iV 0)) (o1:(o == 1)=false) (o2:(o == 2)=false) (o3:(o == 3)=false) (o4:(o == 4)=false) (hi:inR o 11 18=true) (hr:yg L.body.length k xa xb=false) :
  Calls Tryz.prog 143 #[.agg #[v0,.slice (some ⟨b,off,none⟩) L.body.length cap,v2],iV k] w fun e w'=>e=.returned (.bool (yd L.logs.length L.body.length k ⟨o,xa,xb,ya,yb,0,0,0,0⟩))/\Below w.heap.size w w':=by
 go_enter Tryz.func143,Tryz.ntmps143
 have HX:=z5 (ze9 (xa:=xa) (xb:=xb) (ya:=ya) (yb:=yb) (m:=L.logs.length) (n:=L.body.length) (k:=k) o1 o2 o3 o4 hi)
 go_wp2_with (first | (go_at_call 140;refine (zY _ _ _ _).mono ?_;rintro e w' ⟨rfl,rfl⟩) | (go_at_call 168;refine (Yl _ L _ _ _ _ (zk.below hL (below_alloc3 _ _ _ _)) (by omega) (by omega)).mono ?_;rintro e w1 ⟨rfl,hb1⟩;have hc1:=zc hb1))
 go_ret
 exact⟨z7 (by rw [HX.out,hr];rfl),(below_alloc3 _ _ _ _).trans (hb1.mono (by simp;omega))⟩
set_option maxHeartbeats 800000 in
theorem zce (L:Lp) (k:Nat) (w:World) (v0 v2:Value) (b off cap:Nat) (o xa xb ya yb:Int) (hL:zk w (.agg #[v0,.slice (some ⟨b,off,none⟩) L.body.length cap,v2]) L) (hks:(k:Int)<(L.body.length:Int)) (hm:cap<=9223372036854775807) (hl:L.body.length<=cap) (hb:b<w.heap.size)
  (c0:w.cell? ⟨b,off+k*9,none⟩=some (iV o)) (c1:w.cell? ⟨b,off+k*9+1,none⟩=some (iV xa)) (c2:w.cell? ⟨b,off+k*9+2,none⟩=some (iV xb)) (c3:w.cell? ⟨b,off+k*9+3,none⟩=some (iV ya)) (c4:w.cell? ⟨b,off+k*9+4,none⟩=some (iV yb)) (c5:w.cell? ⟨b,off+k*9+5,none⟩=some (iV 0)) (c6:w.cell? ⟨b,off+k*9+6,none⟩=some (iV 0)) (c7:w.cell? ⟨b,off+k*9+7,none⟩=some (iV 0)) (c8:w.cell? ⟨b,off+k*9+8,none⟩=some (iV 0)) (o1:(o == 1)=false) (o2:(o == 2)=false) (o3:(o == 3)=false) (o4:(o == 4)=false) (hi:inR o 11 18=true) (hr:yg L.body.length k xa xb=true) :
  Calls Tryz.prog 143 #[.agg #[v0,.slice (some ⟨b,off,none⟩) L.body.length cap,v2],iV k] w fun e w'=>e=.returned (.bool (yd L.logs.length L.body.length k ⟨o,xa,xb,ya,yb,0,0,0,0⟩))/\Below w.heap.size w w':=by
 go_enter Tryz.func143,Tryz.ntmps143
 have HX:=z5 (ze9 (xa:=xa) (xb:=xb) (ya:=ya) (yb:=yb) (m:=L.logs.length) (n:=L.body.length) (k:=k) o1 o2 o3 o4 hi)
 go_wp2_with (go_at_call 140;refine (zY _ _ _ _).mono ?_;rintro e w' ⟨rfl,rfl⟩)
 refine (Yl _ L _ _ _ _ (zk.below hL (below_alloc3 _ _ _ _)) (by omega) (by omega)).mono ?_
 rintro e w1 ⟨rfl,hb1⟩
 have hc1:=zc hb1
 go_wp2_with fail
 refine (Yl _ L _ _ _ _ (zk.below hL ((below_alloc3 _ _ _ _).trans (hb1.mono (by simp;omega)))) (by omega) (by omega)).mono ?_
 rintro e w2 ⟨rfl,hb2⟩
 go_wp2_with fail
 go_ret
 exact⟨z7 (by rw [HX.out,hr];rfl),((below_alloc3 _ _ _ _).trans (hb1.mono (by simp;omega))).trans (hb2.mono (by have:=hb1.size;simp at this;omega))⟩
theorem VD (v:Value) (L:Lp) (k:Nat) (w:World) (h:zk w v L) (hk:k<L.body.length) :
  Calls Tryz.prog 143 #[v,iV k] w fun e w'=>e=.returned (.bool (yd L.logs.length L.body.length k (z6 L.body k)))/\Below w.heap.size w w':=by
 have hL:=h
 obtain⟨v0,v2,b,off,cap,rfl,hm,hl,hb,hcell⟩:=zkf h hk
 clear h
 obtain⟨c0,c1,c2,c3,c4,c5,c6,c7,c8⟩:=Zj hcell
 clear hcell
 generalize z6 L.body k=s at *
 obtain⟨o,xa,xb,ya,yb,ar,sp,pl,nn⟩:=s
 simp only at c0 c1 c2 c3 c4 c5 c6 c7 c8
 have hks:(k:Int)<(L.body.length:Int):=by omega
 by_cases o1:o=1
 ·subst o1
  exact zkd L k w v0 v2 b off cap xa xb ya yb ar sp pl nn hL hks hm hl hb c0 c1 c2 c3 c4 c5 c6 c7 c8
 by_cases o2:o=2
 ·subst o2
  exact zke L k w v0 v2 b off cap xa xb ya yb ar sp pl nn hL hks hm hl hb c0 c1 c2 c3 c4 c5 c6 c7 c8
 by_cases o3:o=3
 ·subst o3
  by_cases hz:xa=0/\xb=0/\ya=0/\yb=0/\nn=0
  ·obtain⟨rfl,rfl,rfl,rfl,rfl⟩:=hz
   exact zgi L k w v0 v2 b off cap ar sp pl hL hks hm hl hb c0 c1 c2 c3 c4 c5 c6 c7 c8
  ·exact zgh L k w v0 v2 b off cap xa xb ya yb ar sp pl nn hL hks hm hl hb c0 c1 c2 c3 c4 c5 c6 c7 c8 hz
 by_cases o4:o=4
 ·subst o4
  by_cases hz:ya=0/\yb=0/\nn=0
  ·obtain⟨rfl,rfl,rfl⟩:=hz
   cases hw:yy L.logs.length ar sp pl with
   | false=>exact zeb L k w v0 v2 b off cap xa xb ar sp pl hL hks hm hl hb c0 c1 c2 c3 c4 c5 c6 c7 c8 hw
   | true=>exact zec L k w v0 v2 b off cap xa xb ar sp pl hL hks hm hl hb c0 c1 c2 c3 c4 c5 c6 c7 c8 hw
  ·exact zgj L k w v0 v2 b off cap xa xb ya yb ar sp pl nn hL hks hm hl hb c0 c1 c2 c3 c4 c5 c6 c7 c8 hz
 have b1:(o == 1)=false:=by simpa using o1
 have b2:(o == 2)=false:=by simpa using o2
 have b3:(o == 3)=false:=by simpa using o3
 have b4:(o == 4)=false:=by simpa using o4
 cases hi:inR o 11 18 with
 | false=>exact zgk L k w v0 v2 b off cap o xa xb ya yb ar sp pl nn hL hks hm hl hb c0 c1 c2 c3 c4 c5 c6 c7 c8 b1 b2 b3 b4 hi
 | true =>
   by_cases hz:ar=0/\sp=0/\pl=0/\nn=0
   ·obtain⟨rfl,rfl,rfl,rfl⟩:=hz
    cases hr:yg L.body.length k xa xb with
    | false=>exact zcd L k w v0 v2 b off cap o xa xb ya yb hL hks hm hl hb c0 c1 c2 c3 c4 c5 c6 c7 c8 b1 b2 b3 b4 hi hr
    | true=>exact zce L k w v0 v2 b off cap o xa xb ya yb hL hks hm hl hb c0 c1 c2 c3 c4 c5 c6 c7 c8 b1 b2 b3 b4 hi hr
   ·exact zed L k w v0 v2 b off cap o xa xb ya yb ar sp pl nn hL hks hm hl hb c0 c1 c2 c3 c4 c5 c6 c7 c8 b1 b2 b3 b4 hi hz
end Go.Proofs.YtjoapiafpahihabGreat
