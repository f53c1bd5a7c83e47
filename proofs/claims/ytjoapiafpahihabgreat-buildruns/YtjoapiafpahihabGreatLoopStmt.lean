import Derived.Test.YtjoapiafpahihabGreatRows
import Derived.Test.YtjoapiafpahihabGreatNums
set_option maxHeartbeats 20000000
namespace Go.Proofs.YtjoapiafpahihabGreat
open Go.Proofs.Tryz
open Go.RowKit Go.Joins
set_option linter.unusedVariables false
variable {w w':World} {v:Value} {L:Lp} {m n k o xa xb ya yb ar sp pl nn:Int}
theorem zg {a b:Bool} (h:a=b):Ending.returned (.bool a)=.returned (.bool b):=by rw [h]
def zK (w:World) (v:Value) (zs:List Int):Prop :=
 ∃ a cap,v=.slice a zs.length cap/\zs.length<=cap/\cap<=maxLen/\(∀i,i<zs.length->-9223372036854775808<=nth zs i/\nth zs i<=9223372036854775807) /\
   (0<zs.length->∃b off,a=some (ad b off)/\b<w.heap.size/\∀i,i<zs.length->w.cell? (ad b (off+i))=sI (nth zs i))
theorem yt (n lo hi:Int) (w:World) :
  Calls prog 140 #[iV n,iV lo,iV hi] w fun e w'=>e=.returned (.bool (inR n lo hi))/\w'=w:=by
 by_cases h:lo<=n/\n<=hi
 ·rw [yf h]
  obtain⟨h1,h2⟩:=h
  go_enter func140,ntmps140
  go_wp2
  go_ret
  exact⟨rfl,rfl⟩
 ·rw [Yt h]
  by_cases h1:lo<=n
  ·have h2:¬n<=hi:=fun h2=>h ⟨h1,h2⟩
   clear h
   go_enter func140,ntmps140
   go_wp2
   go_ret
   exact⟨rfl,rfl⟩
  ·clear h
   go_enter func140,ntmps140
   go_wp2
   go_ret
   exact⟨rfl,rfl⟩
theorem Vz (v:Value) (zs:List Int) (w:World) (h:zK w v zs) :
  Calls prog 101 #[v] w fun e w'=>e=.returned (.bool (ZN zs))/\w'=w:=by
 obtain⟨a,cap,rfl,hl,hm,hr,hc⟩:=h
 unfold maxLen at hm
 go_enter func101,ntmps101
 go_wp2
 go_loop [7] (fun i=>∃k:Nat,k<=zs.length/\i=iV k/\zC (fun i=>zuv (nth zs i)) k=true) (fun i=>zs.length - (intOf i).toNat)
 case atStart=>exact⟨0,Nat.zero_le _,rfl,rfl⟩
 case round =>
  obtain⟨k,hk,rfl,hall⟩:=hrel
  have HA:=z9 hall
  clear hall
  by_cases hlt:k<zs.length
  ·obtain⟨b,off,rfl,hb,gR⟩:=hc (by omega)
   have hck:=gR k hlt
   clear gR hc
   cases hx:zuv (nth zs k) with
   | true =>
     have HX:=z9 hx
     have hin:inR (nth zs k) 0 5=true:=hx
     clear hx
     go_wp2_with (go_at_call 140;refine (yt _ _ _ _).mono ?_;rintro e w' ⟨rfl,rfl⟩)
     go_round
     case rel=>exact⟨k+1,by omega,by go_num,yl HA.out HX.out⟩
     case measure=>simp [intOf];omega
   | false =>
     have HX:=z9 hx
     have hin:inR (nth zs k) 0 5=false:=hx
     clear hx
     go_wp2_with (go_at_call 140;refine (yt _ _ _ _).mono ?_;rintro e w' ⟨rfl,rfl⟩)
     go_ret
     exact⟨zg (zZ hlt HX.out).symm,rfl⟩
  ·have e:k=zs.length:=by omega
   have HL:Hid (ZN zs=true):=by show ZN zs=true;unfold ZN;rw [<-e];exact HA.out
   clear HA e
   go_wp2
   go_ret
   exact⟨zg HL.out.symm,rfl⟩
def zP (s:St):Array Value:=#[iV s.o,iV s.xa,iV s.xb,iV s.ya,iV s.yb,iV s.ar,iV s.sp,iV s.pl,iV s.nn]
def zev (w:World) (v:Value) (b:List St):Prop :=
 ∃ a cap,v=.slice a b.length cap/\b.length<=cap/\cap<=maxLen /\
   (0<b.length->∃blk off,a=some (ad blk off)/\blk<w.heap.size/\∀i,i<b.length->∀j,j<9->w.cell? (ad blk (off+i*9+j))=(zP (zc b i))[j]?)
def zE (w:World) (v:Value) (L:Lp):Prop:=∃v0 v1 v2,v=.agg #[v0,v1,v2]/\zK w v0 L.l/\zev w v1 L.b/\zK w v2 L.o
theorem VS (v:Value) (L:Lp) (o xa xb ya yb ar sp pl nn:Int) (w:World) (h:zE w v L) :
  Calls prog 167 #[v,.agg #[iV o,iV xa,iV xb,iV ya,iV yb,iV ar,iV sp,iV pl,iV nn]] w (Rt w (.bool (xP L.l.length ar sp pl))):=by
 obtain⟨v0,v1,v2,rfl,⟨a,cap,rfl,hl,hm,hr,hc⟩,-,-⟩:=h
 unfold maxLen at hm
 cases h1:inR ar 0 (L.l.length - 1) with
 | false =>
   have HX:Hid (xP L.l.length ar sp pl=false):=by show xP L.l.length ar sp pl=false;unfold xP;rw [h1];rfl
   go_enter func167,ntmps167
   go_wp2_with (go_at_call 140;refine (yt _ _ _ _).mono ?_;rintro e w' ⟨rfl,rfl⟩)
   go_ret
   exact⟨zg HX.out.symm,below_alloc2 _ _ _⟩
 | true =>
   cases h2:inR sp (-64) 64 with
   | false =>
     have HX:Hid (xP L.l.length ar sp pl=false):=by show xP L.l.length ar sp pl=false;unfold xP;rw [h1,h2];rfl
     go_enter func167,ntmps167
     go_wp2_with (go_at_call 140;refine (yt _ _ _ _).mono ?_;rintro e w' ⟨rfl,rfl⟩)
     go_ret
     exact⟨zg HX.out.symm,below_alloc2 _ _ _⟩
   | true =>
     have HX:Hid (xP L.l.length ar sp pl=inR pl (-64) 64):=by show xP L.l.length ar sp pl=inR pl (-64) 64;unfold xP;rw [h1,h2];rfl
     go_enter func167,ntmps167
     go_wp2_with (go_at_call 140;refine (yt _ _ _ _).mono ?_;rintro e w' ⟨rfl,rfl⟩)
     go_ret
     exact⟨zg HX.out.symm,below_alloc2 _ _ _⟩
theorem V9 (v:Value) (L:Lp) (k x y:Int) (w:World) (h:zE w v L) (hk0:0<=k) (hk:k<=9223372036854775807) :
  Calls prog 168 #[v,iV k,.agg #[iV x,iV y]] w (Rt w (.bool (yN L.b.length k x y))):=by
 obtain⟨v0,v1,v2,rfl,-,⟨a,cap,rfl,hl,hm,hc⟩,-⟩:=h
 unfold maxLen at hm
 by_cases hy:y=0
 ·subst hy
  have HX:Hid (yN L.b.length k x 0=inR x 0 (k - 1)):=by show yN L.b.length k x 0=inR x 0 (k - 1);unfold yN;rw [if_pos rfl];rfl
  go_enter func168,ntmps168
  go_wp2_with (go_at_call 140;refine (yt _ _ _ _).mono ?_;rintro e w' ⟨rfl,rfl⟩)
  go_ret
  exact⟨zg HX.out.symm,below_alloc2 _ _ _⟩
 ·have hb:(y == 0)=false:=by simpa using hy
  cases h1:inR y 1 3 with
  | false =>
    have HX:Hid (yN L.b.length k x y=false):=by
     show yN L.b.length k x y=false
     unfold yN
     rw [show inR y 0 3=false from Yt fun h=>by
      have h2:inR y 1 3=true:=yf (by omega)
      rw [h1] at h2;exact Bool.noConfusion h2]
     rfl
    clear hy
    go_enter func168,ntmps168
    go_wp2_with (go_at_call 140;refine (yt _ _ _ _).mono ?_;rintro e w' ⟨rfl,rfl⟩)
    go_ret
    exact⟨zg HX.out.symm,below_alloc2 _ _ _⟩
  | true =>
    have HX:Hid (yN L.b.length k x y=inR x 0 (L.b.length - 1)):=by
     show yN L.b.length k x y=inR x 0 (L.b.length - 1)
     have h2:=zx.1 h1
     unfold yN
     rw [show inR y 0 3=true from yf (by omega),if_neg hy]
     rfl
    clear hy
    go_enter func168,ntmps168
    go_wp2_with (go_at_call 140;refine (yt _ _ _ _).mono ?_;rintro e w' ⟨rfl,rfl⟩)
    go_ret
    exact⟨zg HX.out.symm,below_alloc2 _ _ _⟩
theorem V5 {b o:Nat} {s:St} (h:∀j,j<9->w.cell? (ad b (o+j))=(zP s)[j]?) :
  w.cell? (ad b o)=sI s.o/\w.cell? (ad b (o+1))=sI s.xa/\w.cell? (ad b (o+2))=sI s.xb/\w.cell? (ad b (o+3))=sI s.ya/\w.cell? (ad b (o+4))=sI s.yb /\
   w.cell? (ad b (o+5))=sI s.ar/\w.cell? (ad b (o+6))=sI s.sp/\w.cell? (ad b (o+7))=sI s.pl/\w.cell? (ad b (o+8))=sI s.nn :=
 ⟨h 0 (by omega),h 1 (by omega),h 2 (by omega),h 3 (by omega),h 4 (by omega),h 5 (by omega),h 6 (by omega),h 7 (by omega),h 8 (by omega)⟩
theorem zf {W w1:World} (hb:Bw W w1):∀b o,b<W.heap.size->w1.cell? (ad b o)=W.cell? (ad b o) :=
 fun b o h=>hb.cell (p:=(ad b o)) h
theorem zK.gE {zs:List Int} (h:zK w v zs) (hb:Bw w w'):zK w' v zs:=by
 obtain⟨a,cap,e,h1,h2,h3,h4⟩:=h
 refine⟨a,cap,e,h1,h2,h3,fun hp=>?_⟩
 obtain⟨b,off,e2,h5,h6⟩:=h4 hp
 exact⟨b,off,e2,Nat.lt_of_lt_of_le h5 hb.size,fun i hi=>by rw [zf hb _ _ h5];exact h6 i hi⟩
theorem zev.gE {l:List St} (h:zev w v l) (hb:Bw w w'):zev w' v l:=by
 obtain⟨a,cap,e,h1,h2,h4⟩:=h
 refine⟨a,cap,e,h1,h2,fun hp=>?_⟩
 obtain⟨b,off,e2,h5,h6⟩:=h4 hp
 exact⟨b,off,e2,Nat.lt_of_lt_of_le h5 hb.size,fun i hi j hj=>by rw [zf hb _ _ h5];exact h6 i hi j hj⟩
theorem zE.gE (h:zE w v L) (hb:Bw w w'):zE w' v L:=by
 obtain⟨v0,v1,v2,e,h1,h2,h3⟩:=h
 exact⟨v0,v1,v2,e,h1.gE hb,h2.gE hb,h3.gE hb⟩
theorem zsk {k:Nat} (h:zE w v L) (hk:k<L.b.length) :
  ∃v0 v2 b off cap,v=.agg #[v0,.slice (some (ad b off)) L.b.length cap,v2]/\cap<=9223372036854775807/\L.b.length<=cap/\b<w.heap.size/\∀j,j<9->w.cell? (ad b (off+k*9+j))=(zP (zc L.b k))[j]?:=by
 obtain⟨v0,v1,v2,rfl,-,⟨a,cap,rfl,hl,hm,hc⟩,-⟩:=h
 obtain⟨b,off,rfl,hb,gR⟩:=hc (by omega)
 exact⟨v0,v2,b,off,cap,rfl,by unfold maxLen at hm;omega,hl,hb,gR k hk⟩
theorem zsi (L:Lp) (k:Nat) (w:World) (v0 v2:Value) (b off cap:Nat) (xa xb ya yb ar sp pl nn:Int) (hL:zE w (.agg #[v0,.slice (some (ad b off)) L.b.length cap,v2]) L) (hks:(k:Int)<(L.b.length:Int)) (hm:cap<=9223372036854775807) (hl:L.b.length<=cap) (hb:b<w.heap.size)
  (c0:w.cell? (ad b (off+k*9))=sI 1) (c1:w.cell? (ad b (off+k*9+1))=sI xa) (c2:w.cell? (ad b (off+k*9+2))=sI xb) (c3:w.cell? (ad b (off+k*9+3))=sI ya) (c4:w.cell? (ad b (off+k*9+4))=sI yb) (c5:w.cell? (ad b (off+k*9+5))=sI ar) (c6:w.cell? (ad b (off+k*9+6))=sI sp) (c7:w.cell? (ad b (off+k*9+7))=sI pl) (c8:w.cell? (ad b (off+k*9+8))=sI nn) :
  Calls prog 143 #[.agg #[v0,.slice (some (ad b off)) L.b.length cap,v2],iV k] w (Rt w (.bool (yH L.l.length L.b.length k ⟨1,xa,xb,ya,yb,ar,sp,pl,nn⟩))):=by
 go_enter func143,ntmps143
 go_wp2_with fail
 all_goals
  go_ret
  exact⟨zg (by simp [yH, *]),below_alloc2 _ _ _⟩
theorem zsj (L:Lp) (k:Nat) (w:World) (v0 v2:Value) (b off cap:Nat) (xa xb ya yb ar sp pl nn:Int) (hL:zE w (.agg #[v0,.slice (some (ad b off)) L.b.length cap,v2]) L) (hks:(k:Int)<(L.b.length:Int)) (hm:cap<=9223372036854775807) (hl:L.b.length<=cap) (hb:b<w.heap.size)
  (c0:w.cell? (ad b (off+k*9))=sI 2) (c1:w.cell? (ad b (off+k*9+1))=sI xa) (c2:w.cell? (ad b (off+k*9+2))=sI xb) (c3:w.cell? (ad b (off+k*9+3))=sI ya) (c4:w.cell? (ad b (off+k*9+4))=sI yb) (c5:w.cell? (ad b (off+k*9+5))=sI ar) (c6:w.cell? (ad b (off+k*9+6))=sI sp) (c7:w.cell? (ad b (off+k*9+7))=sI pl) (c8:w.cell? (ad b (off+k*9+8))=sI nn) :
  Calls prog 143 #[.agg #[v0,.slice (some (ad b off)) L.b.length cap,v2],iV k] w (Rt w (.bool (yH L.l.length L.b.length k ⟨2,xa,xb,ya,yb,ar,sp,pl,nn⟩))):=by
 go_enter func143,ntmps143
 go_wp2_with fail
 all_goals
  go_ret
  exact⟨zg (by simp [yH, *]),below_alloc2 _ _ _⟩
theorem znc (L:Lp) (k:Nat) (w:World) (v0 v2:Value) (b off cap:Nat) (ar sp pl:Int) (hL:zE w (.agg #[v0,.slice (some (ad b off)) L.b.length cap,v2]) L) (hks:(k:Int)<(L.b.length:Int)) (hm:cap<=9223372036854775807) (hl:L.b.length<=cap) (hb:b<w.heap.size)
  (c0:w.cell? (ad b (off+k*9))=sI 3) (c1:w.cell? (ad b (off+k*9+1))=sI 0) (c2:w.cell? (ad b (off+k*9+2))=sI 0) (c3:w.cell? (ad b (off+k*9+3))=sI 0) (c4:w.cell? (ad b (off+k*9+4))=sI 0) (c5:w.cell? (ad b (off+k*9+5))=sI ar) (c6:w.cell? (ad b (off+k*9+6))=sI sp) (c7:w.cell? (ad b (off+k*9+7))=sI pl) (c8:w.cell? (ad b (off+k*9+8))=sI 0) :
  Calls prog 143 #[.agg #[v0,.slice (some (ad b off)) L.b.length cap,v2],iV k] w (Rt w (.bool (yH L.l.length L.b.length k ⟨3,0,0,0,0,ar,sp,pl,0⟩))):=by
 go_enter func143,ntmps143
 go_wp2_with (go_at_call 167;refine (VS _ L _ _ _ _ _ _ _ _ _ _ (zE.gE hL (below_alloc3 _ _ _ _))).mono ?_;rintro e w1 ⟨rfl,hb1⟩)
 go_ret
 exact⟨zg (by simp [yH]),(below_alloc3 _ _ _ _).trans (hb1.mono (by simp;omega))⟩
theorem znb (L:Lp) (k:Nat) (w:World) (v0 v2:Value) (b off cap:Nat) (xa xb ya yb ar sp pl nn:Int) (hL:zE w (.agg #[v0,.slice (some (ad b off)) L.b.length cap,v2]) L) (hks:(k:Int)<(L.b.length:Int)) (hm:cap<=9223372036854775807) (hl:L.b.length<=cap) (hb:b<w.heap.size)
  (c0:w.cell? (ad b (off+k*9))=sI 3) (c1:w.cell? (ad b (off+k*9+1))=sI xa) (c2:w.cell? (ad b (off+k*9+2))=sI xb) (c3:w.cell? (ad b (off+k*9+3))=sI ya) (c4:w.cell? (ad b (off+k*9+4))=sI yb) (c5:w.cell? (ad b (off+k*9+5))=sI ar) (c6:w.cell? (ad b (off+k*9+6))=sI sp) (c7:w.cell? (ad b (off+k*9+7))=sI pl) (c8:w.cell? (ad b (off+k*9+8))=sI nn) (hz:¬(xa=0/\xb=0/\ya=0/\yb=0/\nn=0)) :
  Calls prog 143 #[.agg #[v0,.slice (some (ad b off)) L.b.length cap,v2],iV k] w (Rt w (.bool (yH L.l.length L.b.length k ⟨3,xa,xb,ya,yb,ar,sp,pl,nn⟩))):=by
 go_enter func143,ntmps143
 go_wp2_with fail
 all_goals
  first
  | (go_ret;exact⟨zg (by simp [yH, *]),below_alloc3 _ _ _ _⟩)
  | (exfalso;simp_all)
theorem zys (o1:(o == 1)=false) (o2:(o == 2)=false) (o3:(o == 3)=false) (o4:(o == 4)=false) (hi:inR o 11 18=false):yH m n k ⟨o,xa,xb,ya,yb,ar,sp,pl,nn⟩=false:=by
 unfold yH
 have h:¬(11<=o/\o<=18):=fun h=>by rw [yf h] at hi;exact Bool.noConfusion hi
 simp at o1 o2 o3 o4
 rw [if_neg o1,if_neg o2,if_neg o3,if_neg o4,if_neg h]
theorem zoy (o1:(o == 1)=false) (o2:(o == 2)=false) (o3:(o == 3)=false) (o4:(o == 4)=false) (hi:inR o 11 18=true) :
  yH m n k ⟨o,xa,xb,ya,yb,ar,sp,pl,nn⟩=(decide (ar=0/\sp=0/\pl=0/\nn=0) && yN n k xa xb && yN n k ya yb):=by
 unfold yH
 simp at o1 o2 o3 o4
 rw [if_neg o1,if_neg o2,if_neg o3,if_neg o4,if_pos (zx.1 hi)]
theorem zwb (o1:(o == 1)=false) (o2:(o == 2)=false) (o3:(o == 3)=false) (o4:(o == 4)=false) (hi:inR o 11 18=true) (hz:¬(ar=0/\sp=0/\pl=0/\nn=0)) :
  yH m n k ⟨o,xa,xb,ya,yb,ar,sp,pl,nn⟩=false:=by
 rw [zoy o1 o2 o3 o4 hi,decide_eq_false hz];rfl
theorem zke (o1:(o == 1)=false) (o2:(o == 2)=false) (o3:(o == 3)=false) (o4:(o == 4)=false) (hi:inR o 11 18=true) :
  yH m n k ⟨o,xa,xb,ya,yb,0,0,0,0⟩=(yN n k xa xb && yN n k ya yb):=by
 rw [zoy o1 o2 o3 o4 hi,decide_eq_true ⟨rfl,rfl,rfl,rfl⟩];rfl
theorem zki (L:Lp) (k:Nat) (w:World) (v0 v2:Value) (b off cap:Nat) (xa xb ar sp pl:Int) (hL:zE w (.agg #[v0,.slice (some (ad b off)) L.b.length cap,v2]) L) (hks:(k:Int)<(L.b.length:Int)) (hm:cap<=9223372036854775807) (hl:L.b.length<=cap) (hb:b<w.heap.size)
  (c0:w.cell? (ad b (off+k*9))=sI 4) (c1:w.cell? (ad b (off+k*9+1))=sI xa) (c2:w.cell? (ad b (off+k*9+2))=sI xb) (c3:w.cell? (ad b (off+k*9+3))=sI 0) (c4:w.cell? (ad b (off+k*9+4))=sI 0) (c5:w.cell? (ad b (off+k*9+5))=sI ar) (c6:w.cell? (ad b (off+k*9+6))=sI sp) (c7:w.cell? (ad b (off+k*9+7))=sI pl) (c8:w.cell? (ad b (off+k*9+8))=sI 0) (hw:xP L.l.length ar sp pl=false) :
  Calls prog 143 #[.agg #[v0,.slice (some (ad b off)) L.b.length cap,v2],iV k] w (Rt w (.bool (yH L.l.length L.b.length k ⟨4,xa,xb,0,0,ar,sp,pl,0⟩))):=by
 go_enter func143,ntmps143
 go_wp2_with (go_at_call 167;refine (VS _ L _ _ _ _ _ _ _ _ _ _ (zE.gE hL (below_alloc3 _ _ _ _))).mono ?_;rintro e w1 ⟨rfl,hb1⟩;have hc1:=zf hb1)
 go_ret
 exact⟨zg (by simp [yH,hw]),(below_alloc3 _ _ _ _).trans (hb1.mono (by simp;omega))⟩
theorem zkj (L:Lp) (k:Nat) (w:World) (v0 v2:Value) (b off cap:Nat) (xa xb ar sp pl:Int) (hL:zE w (.agg #[v0,.slice (some (ad b off)) L.b.length cap,v2]) L) (hks:(k:Int)<(L.b.length:Int)) (hm:cap<=9223372036854775807) (hl:L.b.length<=cap) (hb:b<w.heap.size)
  (c0:w.cell? (ad b (off+k*9))=sI 4) (c1:w.cell? (ad b (off+k*9+1))=sI xa) (c2:w.cell? (ad b (off+k*9+2))=sI xb) (c3:w.cell? (ad b (off+k*9+3))=sI 0) (c4:w.cell? (ad b (off+k*9+4))=sI 0) (c5:w.cell? (ad b (off+k*9+5))=sI ar) (c6:w.cell? (ad b (off+k*9+6))=sI sp) (c7:w.cell? (ad b (off+k*9+7))=sI pl) (c8:w.cell? (ad b (off+k*9+8))=sI 0) (hw:xP L.l.length ar sp pl=true) :
  Calls prog 143 #[.agg #[v0,.slice (some (ad b off)) L.b.length cap,v2],iV k] w (Rt w (.bool (yH L.l.length L.b.length k ⟨4,xa,xb,0,0,ar,sp,pl,0⟩))):=by
 go_enter func143,ntmps143
 go_wp2_with (first
  | (go_at_call 167;refine (VS _ L _ _ _ _ _ _ _ _ _ _ (zE.gE hL (below_alloc3 _ _ _ _))).mono ?_;rintro e w1 ⟨rfl,hb1⟩;have hc1:=zf hb1)
  | (go_at_call 168;refine (V9 _ L _ _ _ _ (zE.gE hL ((below_alloc3 _ _ _ _).trans (hb1.mono (by simp;omega)))) (by omega) (by omega)).mono ?_;rintro e w2 ⟨rfl,hb2⟩))
 go_ret
 exact⟨zg (by simp [yH,hw]),((below_alloc3 _ _ _ _).trans (hb1.mono (by simp;omega))).trans (hb2.mono (by have:=hb1.size;simp at this;omega))⟩
theorem znd (L:Lp) (k:Nat) (w:World) (v0 v2:Value) (b off cap:Nat) (xa xb ya yb ar sp pl nn:Int) (hL:zE w (.agg #[v0,.slice (some (ad b off)) L.b.length cap,v2]) L) (hks:(k:Int)<(L.b.length:Int)) (hm:cap<=9223372036854775807) (hl:L.b.length<=cap) (hb:b<w.heap.size)
  (c0:w.cell? (ad b (off+k*9))=sI 4) (c1:w.cell? (ad b (off+k*9+1))=sI xa) (c2:w.cell? (ad b (off+k*9+2))=sI xb) (c3:w.cell? (ad b (off+k*9+3))=sI ya) (c4:w.cell? (ad b (off+k*9+4))=sI yb) (c5:w.cell? (ad b (off+k*9+5))=sI ar) (c6:w.cell? (ad b (off+k*9+6))=sI sp) (c7:w.cell? (ad b (off+k*9+7))=sI pl) (c8:w.cell? (ad b (off+k*9+8))=sI nn) (hz:¬(ya=0/\yb=0/\nn=0)) :
  Calls prog 143 #[.agg #[v0,.slice (some (ad b off)) L.b.length cap,v2],iV k] w (Rt w (.bool (yH L.l.length L.b.length k ⟨4,xa,xb,ya,yb,ar,sp,pl,nn⟩))):=by
 go_enter func143,ntmps143
 go_wp2_with fail
 all_goals
  first
  | (go_ret;exact⟨zg (by simp [yH, *]),below_alloc3 _ _ _ _⟩)
  | (exfalso;simp_all)
theorem zne (L:Lp) (k:Nat) (w:World) (v0 v2:Value) (b off cap:Nat) (o xa xb ya yb ar sp pl nn:Int) (hL:zE w (.agg #[v0,.slice (some (ad b off)) L.b.length cap,v2]) L) (hks:(k:Int)<(L.b.length:Int)) (hm:cap<=9223372036854775807) (hl:L.b.length<=cap) (hb:b<w.heap.size)
  (c0:w.cell? (ad b (off+k*9))=sI o) (c1:w.cell? (ad b (off+k*9+1))=sI xa) (c2:w.cell? (ad b (off+k*9+2))=sI xb) (c3:w.cell? (ad b (off+k*9+3))=sI ya) (c4:w.cell? (ad b (off+k*9+4))=sI yb) (c5:w.cell? (ad b (off+k*9+5))=sI ar) (c6:w.cell? (ad b (off+k*9+6))=sI sp) (c7:w.cell? (ad b (off+k*9+7))=sI pl) (c8:w.cell? (ad b (off+k*9+8))=sI nn) (o1:(o == 1)=false) (o2:(o == 2)=false) (o3:(o == 3)=false) (o4:(o == 4)=false) (hi:inR o 11 18=false) :
  Calls prog 143 #[.agg #[v0,.slice (some (ad b off)) L.b.length cap,v2],iV k] w (Rt w (.bool (yH L.l.length L.b.length k ⟨o,xa,xb,ya,yb,ar,sp,pl,nn⟩))):=by
 go_enter func143,ntmps143
 go_wp2_with (go_at_call 140;refine (yt _ _ _ _).mono ?_;rintro e w' ⟨rfl,rfl⟩)
 go_ret
 exact⟨zg (zys o1 o2 o3 o4 hi).symm,below_alloc2 _ _ _⟩
theorem zkk (L:Lp) (k:Nat) (w:World) (v0 v2:Value) (b off cap:Nat) (o xa xb ya yb ar sp pl nn:Int) (hL:zE w (.agg #[v0,.slice (some (ad b off)) L.b.length cap,v2]) L) (hks:(k:Int)<(L.b.length:Int)) (hm:cap<=9223372036854775807) (hl:L.b.length<=cap) (hb:b<w.heap.size)
  (c0:w.cell? (ad b (off+k*9))=sI o) (c1:w.cell? (ad b (off+k*9+1))=sI xa) (c2:w.cell? (ad b (off+k*9+2))=sI xb) (c3:w.cell? (ad b (off+k*9+3))=sI ya) (c4:w.cell? (ad b (off+k*9+4))=sI yb) (c5:w.cell? (ad b (off+k*9+5))=sI ar) (c6:w.cell? (ad b (off+k*9+6))=sI sp) (c7:w.cell? (ad b (off+k*9+7))=sI pl) (c8:w.cell? (ad b (off+k*9+8))=sI nn) (o1:(o == 1)=false) (o2:(o == 2)=false) (o3:(o == 3)=false) (o4:(o == 4)=false) (hi:inR o 11 18=true) (hz:¬(ar=0/\sp=0/\pl=0/\nn=0)) :
  Calls prog 143 #[.agg #[v0,.slice (some (ad b off)) L.b.length cap,v2],iV k] w (Rt w (.bool (yH L.l.length L.b.length k ⟨o,xa,xb,ya,yb,ar,sp,pl,nn⟩))):=by
 go_enter func143,ntmps143
 have HX:=z9 (zwb (xa:=xa) (xb:=xb) (ya:=ya) (yb:=yb) (m:=L.l.length) (n:=L.b.length) (k:=k) o1 o2 o3 o4 hi hz)
 go_wp2_with (go_at_call 140;refine (yt _ _ _ _).mono ?_;rintro e w' ⟨rfl,rfl⟩)
 all_goals
  first
  | (go_ret;exact⟨zg HX.out.symm,below_alloc3 _ _ _ _⟩)
  | (exfalso;simp_all;done)
theorem zht (L:Lp) (k:Nat) (w:World) (v0 v2:Value) (b off cap:Nat) (o xa xb ya yb:Int) (hL:zE w (.agg #[v0,.slice (some (ad b off)) L.b.length cap,v2]) L) (hks:(k:Int)<(L.b.length:Int)) (hm:cap<=9223372036854775807) (hl:L.b.length<=cap) (hb:b<w.heap.size)
  (c0:w.cell? (ad b (off+k*9))=sI o) (c1:w.cell? (ad b (off+k*9+1))=sI xa) (c2:w.cell? (ad b (off+k*9+2))=sI xb) (c3:w.cell? (ad b (off+k*9+3))=sI ya) (c4:w.cell? (ad b (off+k*9+4))=sI yb) (c5:w.cell? (ad b (off+k*9+5))=sI 0) (c6:w.cell? (ad b (off+k*9+6))=sI 0) (c7:w.cell? (ad b (off+k*9+7))=sI 0) (c8:w.cell? (ad b (off+k*9+8))=sI 0) (o1:(o == 1)=false) (o2:(o == 2)=false) (o3:(o == 3)=false) (o4:(o == 4)=false) (hi:inR o 11 18=true) (hr:yN L.b.length k xa xb=false) :
  Calls prog 143 #[.agg #[v0,.slice (some (ad b off)) L.b.length cap,v2],iV k] w (Rt w (.bool (yH L.l.length L.b.length k ⟨o,xa,xb,ya,yb,0,0,0,0⟩))):=by
 go_enter func143,ntmps143
 have HX:=z9 (zke (xa:=xa) (xb:=xb) (ya:=ya) (yb:=yb) (m:=L.l.length) (n:=L.b.length) (k:=k) o1 o2 o3 o4 hi)
 go_wp2_with (first | (go_at_call 140;refine (yt _ _ _ _).mono ?_;rintro e w' ⟨rfl,rfl⟩) | (go_at_call 168;refine (V9 _ L _ _ _ _ (zE.gE hL (below_alloc3 _ _ _ _)) (by omega) (by omega)).mono ?_;rintro e w1 ⟨rfl,hb1⟩;have hc1:=zf hb1))
 go_ret
 exact⟨zg (by rw [HX.out,hr];rfl),(below_alloc3 _ _ _ _).trans (hb1.mono (by simp;omega))⟩
theorem zhu (L:Lp) (k:Nat) (w:World) (v0 v2:Value) (b off cap:Nat) (o xa xb ya yb:Int) (hL:zE w (.agg #[v0,.slice (some (ad b off)) L.b.length cap,v2]) L) (hks:(k:Int)<(L.b.length:Int)) (hm:cap<=9223372036854775807) (hl:L.b.length<=cap) (hb:b<w.heap.size)
  (c0:w.cell? (ad b (off+k*9))=sI o) (c1:w.cell? (ad b (off+k*9+1))=sI xa) (c2:w.cell? (ad b (off+k*9+2))=sI xb) (c3:w.cell? (ad b (off+k*9+3))=sI ya) (c4:w.cell? (ad b (off+k*9+4))=sI yb) (c5:w.cell? (ad b (off+k*9+5))=sI 0) (c6:w.cell? (ad b (off+k*9+6))=sI 0) (c7:w.cell? (ad b (off+k*9+7))=sI 0) (c8:w.cell? (ad b (off+k*9+8))=sI 0) (o1:(o == 1)=false) (o2:(o == 2)=false) (o3:(o == 3)=false) (o4:(o == 4)=false) (hi:inR o 11 18=true) (hr:yN L.b.length k xa xb=true) :
  Calls prog 143 #[.agg #[v0,.slice (some (ad b off)) L.b.length cap,v2],iV k] w (Rt w (.bool (yH L.l.length L.b.length k ⟨o,xa,xb,ya,yb,0,0,0,0⟩))):=by
 go_enter func143,ntmps143
 have HX:=z9 (zke (xa:=xa) (xb:=xb) (ya:=ya) (yb:=yb) (m:=L.l.length) (n:=L.b.length) (k:=k) o1 o2 o3 o4 hi)
 go_wp2_with (go_at_call 140;refine (yt _ _ _ _).mono ?_;rintro e w' ⟨rfl,rfl⟩)
 refine (V9 _ L _ _ _ _ (zE.gE hL (below_alloc3 _ _ _ _)) (by omega) (by omega)).mono ?_
 rintro e w1 ⟨rfl,hb1⟩
 have hc1:=zf hb1
 go_wp2_with fail
 refine (V9 _ L _ _ _ _ (zE.gE hL ((below_alloc3 _ _ _ _).trans (hb1.mono (by simp;omega)))) (by omega) (by omega)).mono ?_
 rintro e w2 ⟨rfl,hb2⟩
 go_wp2_with fail
 go_ret
 exact⟨zg (by rw [HX.out,hr];rfl),((below_alloc3 _ _ _ _).trans (hb1.mono (by simp;omega))).trans (hb2.mono (by have:=hb1.size;simp at this;omega))⟩
theorem zbs (v:Value) (L:Lp) (k:Nat) (w:World) (h:zE w v L) (hk:k<L.b.length) :
  Calls prog 143 #[v,iV k] w (Rt w (.bool (yH L.l.length L.b.length k (zc L.b k)))):=by
 have hL:=h
 obtain⟨v0,v2,b,off,cap,rfl,hm,hl,hb,gR⟩:=zsk h hk
 clear h
 obtain⟨c0,c1,c2,c3,c4,c5,c6,c7,c8⟩:=V5 gR
 clear gR
 generalize zc L.b k=s at *
 obtain⟨o,xa,xb,ya,yb,ar,sp,pl,nn⟩:=s
 simp only at c0 c1 c2 c3 c4 c5 c6 c7 c8
 have hks:(k:Int)<(L.b.length:Int):=by omega
 by_cases o1:o=1
 ·subst o1
  exact zsi L k w v0 v2 b off cap xa xb ya yb ar sp pl nn hL hks hm hl hb c0 c1 c2 c3 c4 c5 c6 c7 c8
 by_cases o2:o=2
 ·subst o2
  exact zsj L k w v0 v2 b off cap xa xb ya yb ar sp pl nn hL hks hm hl hb c0 c1 c2 c3 c4 c5 c6 c7 c8
 by_cases o3:o=3
 ·subst o3
  by_cases hz:xa=0/\xb=0/\ya=0/\yb=0/\nn=0
  ·obtain⟨rfl,rfl,rfl,rfl,rfl⟩:=hz
   exact znc L k w v0 v2 b off cap ar sp pl hL hks hm hl hb c0 c1 c2 c3 c4 c5 c6 c7 c8
  ·exact znb L k w v0 v2 b off cap xa xb ya yb ar sp pl nn hL hks hm hl hb c0 c1 c2 c3 c4 c5 c6 c7 c8 hz
 by_cases o4:o=4
 ·subst o4
  by_cases hz:ya=0/\yb=0/\nn=0
  ·obtain⟨rfl,rfl,rfl⟩:=hz
   cases hw:xP L.l.length ar sp pl with
   | false=>exact zki L k w v0 v2 b off cap xa xb ar sp pl hL hks hm hl hb c0 c1 c2 c3 c4 c5 c6 c7 c8 hw
   | true=>exact zkj L k w v0 v2 b off cap xa xb ar sp pl hL hks hm hl hb c0 c1 c2 c3 c4 c5 c6 c7 c8 hw
  ·exact znd L k w v0 v2 b off cap xa xb ya yb ar sp pl nn hL hks hm hl hb c0 c1 c2 c3 c4 c5 c6 c7 c8 hz
 have b1:(o == 1)=false:=by simpa using o1
 have b2:(o == 2)=false:=by simpa using o2
 have b3:(o == 3)=false:=by simpa using o3
 have b4:(o == 4)=false:=by simpa using o4
 cases hi:inR o 11 18 with
 | false=>exact zne L k w v0 v2 b off cap o xa xb ya yb ar sp pl nn hL hks hm hl hb c0 c1 c2 c3 c4 c5 c6 c7 c8 b1 b2 b3 b4 hi
 | true =>
   by_cases hz:ar=0/\sp=0/\pl=0/\nn=0
   ·obtain⟨rfl,rfl,rfl,rfl⟩:=hz
    cases hr:yN L.b.length k xa xb with
    | false=>exact zht L k w v0 v2 b off cap o xa xb ya yb hL hks hm hl hb c0 c1 c2 c3 c4 c5 c6 c7 c8 b1 b2 b3 b4 hi hr
    | true=>exact zhu L k w v0 v2 b off cap o xa xb ya yb hL hks hm hl hb c0 c1 c2 c3 c4 c5 c6 c7 c8 b1 b2 b3 b4 hi hr
   ·exact zkk L k w v0 v2 b off cap o xa xb ya yb ar sp pl nn hL hks hm hl hb c0 c1 c2 c3 c4 c5 c6 c7 c8 b1 b2 b3 b4 hi hz
end Go.Proofs.YtjoapiafpahihabGreat
