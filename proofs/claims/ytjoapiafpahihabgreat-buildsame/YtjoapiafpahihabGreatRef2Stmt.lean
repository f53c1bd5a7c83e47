import Derived.Test.YtjoapiafpahihabGreatLoopStmt
namespace Go.Proofs.YtjoapiafpahihabGreat
open Go.RowKit Go.Joins
set_option linter.unusedVariables false
theorem zd (n lo hi:Int) (w:World) :
  Calls Tryz.prog 78 #[iV n,iV lo,iV hi] w fun e w'=>e=.returned (.bool (inR n lo hi))/\w'=w:=by
 by_cases h:lo<=n/\n<=hi
 ·rw [zK h]
  obtain⟨h1,h2⟩:=h
  go_enter Tryz.func78,Tryz.ntmps78
  go_wp2
  go_ret
  exact⟨rfl,rfl⟩
 ·rw [Z3 h]
  by_cases h1:lo<=n
  ·have h2:¬n<=hi:=fun h2=>h ⟨h1,h2⟩
   clear h
   go_enter Tryz.func78,Tryz.ntmps78
   go_wp2
   go_ret
   exact⟨rfl,rfl⟩
  ·clear h
   go_enter Tryz.func78,Tryz.ntmps78
   go_wp2
   go_ret
   exact⟨rfl,rfl⟩
theorem Y0 (o xa xb ya yb ar sp pl nn:Int) (w:World) (h4:(o == 4)=false) (h10:¬10<o) :
  Calls Tryz.prog 47 #[.agg #[iV o,iV xa,iV xb,iV ya,iV yb,iV ar,iV sp,iV pl,iV nn]] w fun e w' =>
   e=.returned (.slice none 0 0)/\w'=w.alloc (.cells #[iV o,iV xa,iV xb,iV ya,iV yb,iV ar,iV sp,iV pl,iV nn] 41):=by
 go_enter Tryz.func47,Tryz.ntmps47
 go_wp2
 go_ret
 exact⟨rfl,rfl⟩
theorem zo3 (xa xb ya yb ar sp pl nn:Int) (w:World) :
  Calls Tryz.prog 47 #[.agg #[iV 4,iV xa,iV xb,iV ya,iV yb,iV ar,iV sp,iV pl,iV nn]] w fun e w' =>
   e=.returned (.slice (some ⟨w.heap.size+1,0,none⟩) 1 1)/\w'=(w.alloc (.cells #[iV 4,iV xa,iV xb,iV ya,iV yb,iV ar,iV sp,iV pl,iV nn] 41)).alloc (.cells #[iV xa,iV xb] 39):=by
 go_enter Tryz.func47,Tryz.ntmps47
 go_wp2
 go_ret
 exact⟨rfl,rfl⟩
theorem zi2 (o xa xb ya yb ar sp pl nn:Int) (w:World) (h4:(o == 4)=false) (h10:10<o) :
  Calls Tryz.prog 47 #[.agg #[iV o,iV xa,iV xb,iV ya,iV yb,iV ar,iV sp,iV pl,iV nn]] w fun e w' =>
   e=.returned (.slice (some ⟨w.heap.size+1,0,none⟩) 2 2)/\w'=(w.alloc (.cells #[iV o,iV xa,iV xb,iV ya,iV yb,iV ar,iV sp,iV pl,iV nn] 41)).alloc (.cells #[iV xa,iV xb,iV ya,iV yb] 39):=by
 go_enter Tryz.func47,Tryz.ntmps47
 go_wp2
 go_ret
 exact⟨rfl,rfl⟩
theorem zqw {m n k xa xb ya yb ar sp pl nn:Int}:yd m n k ⟨3,xa,xb,ya,yb,ar,sp,pl,nn⟩=(decide (xa=0/\xb=0/\ya=0/\yb=0/\nn=0) && yy m ar sp pl):=rfl
theorem zqx {m n k xa xb ya yb ar sp pl nn:Int}:yd m n k ⟨4,xa,xb,ya,yb,ar,sp,pl,nn⟩=(decide (ya=0/\yb=0/\nn=0) && yy m ar sp pl && yg n k xa xb):=rfl
set_option maxHeartbeats 1000000 in
theorem znh (L:Lp) (k:Nat) (w:World) (a0:Option Addr) (v2:Value) (b off cap cap0:Nat) (nn:Int) (hks:(k:Int)<(L.body.length:Int)) (hm:cap<=9223372036854775807) (hl:L.body.length<=cap) (hm0:cap0<=9223372036854775807) (hl0:L.logs.length<=cap0) (hb:b<w.heap.size)
  (c0:w.cell? ⟨b,off+k*9,none⟩=some (iV 1)) (c1:w.cell? ⟨b,off+k*9+1,none⟩=some (iV 0)) (c2:w.cell? ⟨b,off+k*9+2,none⟩=some (iV 0)) (c3:w.cell? ⟨b,off+k*9+3,none⟩=some (iV 0)) (c4:w.cell? ⟨b,off+k*9+4,none⟩=some (iV 0)) (c5:w.cell? ⟨b,off+k*9+5,none⟩=some (iV 0)) (c6:w.cell? ⟨b,off+k*9+6,none⟩=some (iV 0)) (c7:w.cell? ⟨b,off+k*9+7,none⟩=some (iV 0)) (c8:w.cell? ⟨b,off+k*9+8,none⟩=some (iV nn)) :
  Calls Tryz.prog 80 #[.agg #[.slice a0 L.logs.length cap0,.slice (some ⟨b,off,none⟩) L.body.length cap,v2],iV k] w fun e w'=>e=.returned (.bool (yd L.logs.length L.body.length k ⟨1,0,0,0,0,0,0,0,nn⟩))/\Below w.heap.size w w':=by
 have HX:yd L.logs.length L.body.length k ⟨1,0,0,0,0,0,0,0,nn⟩=true:=by
  simp [yd]
 rw [HX]
 clear HX
 go_enter Tryz.func80,Tryz.ntmps80
 go_wp2_with (first | (go_at_call 78;refine (zd _ _ _ _).mono ?_;rintro e w' ⟨rfl,rfl⟩) | (go_at_call 47;refine (Y0 _ _ _ _ _ _ _ _ _ _ (by first | rfl | assumption) (by omega)).mono ?_;rintro e w' ⟨rfl,rfl⟩))
 go_loop [7] (fun i=>i=iV 0) (fun _=>0)
 case atStart=>rfl
 case round =>
  subst hrel
  go_wp2_with (go_at_call 78;refine (zd _ _ _ _).mono ?_;rintro e w' ⟨rfl,rfl⟩)
  go_ret
  exact⟨rfl,below_alloc3 _ _ _ _⟩
set_option maxHeartbeats 1000000 in
theorem zng (L:Lp) (k:Nat) (w:World) (a0:Option Addr) (v2:Value) (b off cap cap0:Nat) (xa xb ya yb ar sp pl nn:Int) (hks:(k:Int)<(L.body.length:Int)) (hm:cap<=9223372036854775807) (hl:L.body.length<=cap) (hm0:cap0<=9223372036854775807) (hl0:L.logs.length<=cap0) (hb:b<w.heap.size)
  (c0:w.cell? ⟨b,off+k*9,none⟩=some (iV 1)) (c1:w.cell? ⟨b,off+k*9+1,none⟩=some (iV xa)) (c2:w.cell? ⟨b,off+k*9+2,none⟩=some (iV xb)) (c3:w.cell? ⟨b,off+k*9+3,none⟩=some (iV ya)) (c4:w.cell? ⟨b,off+k*9+4,none⟩=some (iV yb)) (c5:w.cell? ⟨b,off+k*9+5,none⟩=some (iV ar)) (c6:w.cell? ⟨b,off+k*9+6,none⟩=some (iV sp)) (c7:w.cell? ⟨b,off+k*9+7,none⟩=some (iV pl)) (c8:w.cell? ⟨b,off+k*9+8,none⟩=some (iV nn)) (hz:¬(xa=0/\xb=0/\ya=0/\yb=0/\ar=0/\sp=0/\pl=0)) :
  Calls Tryz.prog 80 #[.agg #[.slice a0 L.logs.length cap0,.slice (some ⟨b,off,none⟩) L.body.length cap,v2],iV k] w fun e w'=>e=.returned (.bool (yd L.logs.length L.body.length k ⟨1,xa,xb,ya,yb,ar,sp,pl,nn⟩))/\Below w.heap.size w w':=by
 have HX:yd L.logs.length L.body.length k ⟨1,xa,xb,ya,yb,ar,sp,pl,nn⟩=false:=by
  simpa [yd] using hz
 rw [HX]
 clear HX
 go_enter Tryz.func80,Tryz.ntmps80
 go_wp2_with (first | (go_at_call 78;refine (zd _ _ _ _).mono ?_;rintro e w' ⟨rfl,rfl⟩) | (go_at_call 47;refine (Y0 _ _ _ _ _ _ _ _ _ _ (by first | rfl | assumption) (by omega)).mono ?_;rintro e w' ⟨rfl,rfl⟩))
 go_loop [7] (fun i=>i=iV 0) (fun _=>0)
 case atStart=>rfl
 case round =>
  subst hrel
  go_wp2_with (go_at_call 78;refine (zd _ _ _ _).mono ?_;rintro e w' ⟨rfl,rfl⟩)
  all_goals
   first
   | (go_ret;exact⟨rfl,below_alloc3 _ _ _ _⟩)
   | (exfalso;simp_all;done)
set_option maxHeartbeats 1000000 in
theorem znj (L:Lp) (k:Nat) (w:World) (a0:Option Addr) (v2:Value) (b off cap cap0:Nat)  (hks:(k:Int)<(L.body.length:Int)) (hm:cap<=9223372036854775807) (hl:L.body.length<=cap) (hm0:cap0<=9223372036854775807) (hl0:L.logs.length<=cap0) (hb:b<w.heap.size)
  (c0:w.cell? ⟨b,off+k*9,none⟩=some (iV 2)) (c1:w.cell? ⟨b,off+k*9+1,none⟩=some (iV 0)) (c2:w.cell? ⟨b,off+k*9+2,none⟩=some (iV 0)) (c3:w.cell? ⟨b,off+k*9+3,none⟩=some (iV 0)) (c4:w.cell? ⟨b,off+k*9+4,none⟩=some (iV 0)) (c5:w.cell? ⟨b,off+k*9+5,none⟩=some (iV 0)) (c6:w.cell? ⟨b,off+k*9+6,none⟩=some (iV 0)) (c7:w.cell? ⟨b,off+k*9+7,none⟩=some (iV 0)) (c8:w.cell? ⟨b,off+k*9+8,none⟩=some (iV 0)) :
  Calls Tryz.prog 80 #[.agg #[.slice a0 L.logs.length cap0,.slice (some ⟨b,off,none⟩) L.body.length cap,v2],iV k] w fun e w'=>e=.returned (.bool (yd L.logs.length L.body.length k ⟨2,0,0,0,0,0,0,0,0⟩))/\Below w.heap.size w w':=by
 have HX:yd L.logs.length L.body.length k ⟨2,0,0,0,0,0,0,0,0⟩=true:=by
  simp [yd]
 rw [HX]
 clear HX
 go_enter Tryz.func80,Tryz.ntmps80
 go_wp2_with (first | (go_at_call 78;refine (zd _ _ _ _).mono ?_;rintro e w' ⟨rfl,rfl⟩) | (go_at_call 47;refine (Y0 _ _ _ _ _ _ _ _ _ _ (by first | rfl | assumption) (by omega)).mono ?_;rintro e w' ⟨rfl,rfl⟩))
 go_loop [7] (fun i=>i=iV 0) (fun _=>0)
 case atStart=>rfl
 case round =>
  subst hrel
  go_wp2_with (go_at_call 78;refine (zd _ _ _ _).mono ?_;rintro e w' ⟨rfl,rfl⟩)
  go_ret
  exact⟨rfl,below_alloc3 _ _ _ _⟩
set_option maxHeartbeats 1000000 in
theorem zni (L:Lp) (k:Nat) (w:World) (a0:Option Addr) (v2:Value) (b off cap cap0:Nat) (xa xb ya yb ar sp pl nn:Int) (hks:(k:Int)<(L.body.length:Int)) (hm:cap<=9223372036854775807) (hl:L.body.length<=cap) (hm0:cap0<=9223372036854775807) (hl0:L.logs.length<=cap0) (hb:b<w.heap.size)
  (c0:w.cell? ⟨b,off+k*9,none⟩=some (iV 2)) (c1:w.cell? ⟨b,off+k*9+1,none⟩=some (iV xa)) (c2:w.cell? ⟨b,off+k*9+2,none⟩=some (iV xb)) (c3:w.cell? ⟨b,off+k*9+3,none⟩=some (iV ya)) (c4:w.cell? ⟨b,off+k*9+4,none⟩=some (iV yb)) (c5:w.cell? ⟨b,off+k*9+5,none⟩=some (iV ar)) (c6:w.cell? ⟨b,off+k*9+6,none⟩=some (iV sp)) (c7:w.cell? ⟨b,off+k*9+7,none⟩=some (iV pl)) (c8:w.cell? ⟨b,off+k*9+8,none⟩=some (iV nn)) (hz:¬(xa=0/\xb=0/\ya=0/\yb=0/\ar=0/\sp=0/\pl=0/\nn=0)) :
  Calls Tryz.prog 80 #[.agg #[.slice a0 L.logs.length cap0,.slice (some ⟨b,off,none⟩) L.body.length cap,v2],iV k] w fun e w'=>e=.returned (.bool (yd L.logs.length L.body.length k ⟨2,xa,xb,ya,yb,ar,sp,pl,nn⟩))/\Below w.heap.size w w':=by
 have HX:yd L.logs.length L.body.length k ⟨2,xa,xb,ya,yb,ar,sp,pl,nn⟩=false:=by
  simpa [yd] using hz
 rw [HX]
 clear HX
 go_enter Tryz.func80,Tryz.ntmps80
 go_wp2_with (first | (go_at_call 78;refine (zd _ _ _ _).mono ?_;rintro e w' ⟨rfl,rfl⟩) | (go_at_call 47;refine (Y0 _ _ _ _ _ _ _ _ _ _ (by first | rfl | assumption) (by omega)).mono ?_;rintro e w' ⟨rfl,rfl⟩))
 go_loop [7] (fun i=>i=iV 0) (fun _=>0)
 case atStart=>rfl
 case round =>
  subst hrel
  go_wp2_with (go_at_call 78;refine (zd _ _ _ _).mono ?_;rintro e w' ⟨rfl,rfl⟩)
  all_goals
   first
   | (go_ret;exact⟨rfl,below_alloc3 _ _ _ _⟩)
   | (exfalso;simp_all;done)
set_option maxHeartbeats 1000000 in
theorem znk (L:Lp) (k:Nat) (w:World) (a0:Option Addr) (v2:Value) (b off cap cap0:Nat) (ar sp pl:Int) (hks:(k:Int)<(L.body.length:Int)) (hm:cap<=9223372036854775807) (hl:L.body.length<=cap) (hm0:cap0<=9223372036854775807) (hl0:L.logs.length<=cap0) (hb:b<w.heap.size)
  (c0:w.cell? ⟨b,off+k*9,none⟩=some (iV 3)) (c1:w.cell? ⟨b,off+k*9+1,none⟩=some (iV 0)) (c2:w.cell? ⟨b,off+k*9+2,none⟩=some (iV 0)) (c3:w.cell? ⟨b,off+k*9+3,none⟩=some (iV 0)) (c4:w.cell? ⟨b,off+k*9+4,none⟩=some (iV 0)) (c5:w.cell? ⟨b,off+k*9+5,none⟩=some (iV ar)) (c6:w.cell? ⟨b,off+k*9+6,none⟩=some (iV sp)) (c7:w.cell? ⟨b,off+k*9+7,none⟩=some (iV pl)) (c8:w.cell? ⟨b,off+k*9+8,none⟩=some (iV 0)) (h1:inR ar 0 (L.logs.length - 1)=false) :
  Calls Tryz.prog 80 #[.agg #[.slice a0 L.logs.length cap0,.slice (some ⟨b,off,none⟩) L.body.length cap,v2],iV k] w fun e w'=>e=.returned (.bool (yd L.logs.length L.body.length k ⟨3,0,0,0,0,ar,sp,pl,0⟩))/\Below w.heap.size w w':=by
 have HX:yd L.logs.length L.body.length k ⟨3,0,0,0,0,ar,sp,pl,0⟩=false:=by
  simp [yd,yy,h1]
 rw [HX]
 clear HX
 go_enter Tryz.func80,Tryz.ntmps80
 go_wp2_with (first | (go_at_call 78;refine (zd _ _ _ _).mono ?_;rintro e w' ⟨rfl,rfl⟩) | (go_at_call 47;refine (Y0 _ _ _ _ _ _ _ _ _ _ (by first | rfl | assumption) (by omega)).mono ?_;rintro e w' ⟨rfl,rfl⟩))
 go_loop [7] (fun i=>i=iV 0) (fun _=>0)
 case atStart=>rfl
 case round =>
  subst hrel
  go_wp2_with (go_at_call 78;refine (zd _ _ _ _).mono ?_;rintro e w' ⟨rfl,rfl⟩)
  go_ret
  exact⟨rfl,below_alloc3 _ _ _ _⟩
set_option maxHeartbeats 1000000 in
theorem znl (L:Lp) (k:Nat) (w:World) (a0:Option Addr) (v2:Value) (b off cap cap0:Nat) (ar sp pl:Int) (hks:(k:Int)<(L.body.length:Int)) (hm:cap<=9223372036854775807) (hl:L.body.length<=cap) (hm0:cap0<=9223372036854775807) (hl0:L.logs.length<=cap0) (hb:b<w.heap.size)
  (c0:w.cell? ⟨b,off+k*9,none⟩=some (iV 3)) (c1:w.cell? ⟨b,off+k*9+1,none⟩=some (iV 0)) (c2:w.cell? ⟨b,off+k*9+2,none⟩=some (iV 0)) (c3:w.cell? ⟨b,off+k*9+3,none⟩=some (iV 0)) (c4:w.cell? ⟨b,off+k*9+4,none⟩=some (iV 0)) (c5:w.cell? ⟨b,off+k*9+5,none⟩=some (iV ar)) (c6:w.cell? ⟨b,off+k*9+6,none⟩=some (iV sp)) (c7:w.cell? ⟨b,off+k*9+7,none⟩=some (iV pl)) (c8:w.cell? ⟨b,off+k*9+8,none⟩=some (iV 0)) (h1:inR ar 0 (L.logs.length - 1)=true) (h2:inR sp (-64) 64=false) :
  Calls Tryz.prog 80 #[.agg #[.slice a0 L.logs.length cap0,.slice (some ⟨b,off,none⟩) L.body.length cap,v2],iV k] w fun e w'=>e=.returned (.bool (yd L.logs.length L.body.length k ⟨3,0,0,0,0,ar,sp,pl,0⟩))/\Below w.heap.size w w':=by
 have HX:yd L.logs.length L.body.length k ⟨3,0,0,0,0,ar,sp,pl,0⟩=false:=by
  simp [yd,yy,h2]
 rw [HX]
 clear HX
 go_enter Tryz.func80,Tryz.ntmps80
 go_wp2_with (first | (go_at_call 78;refine (zd _ _ _ _).mono ?_;rintro e w' ⟨rfl,rfl⟩) | (go_at_call 47;refine (Y0 _ _ _ _ _ _ _ _ _ _ (by first | rfl | assumption) (by omega)).mono ?_;rintro e w' ⟨rfl,rfl⟩))
 go_loop [7] (fun i=>i=iV 0) (fun _=>0)
 case atStart=>rfl
 case round =>
  subst hrel
  go_wp2_with (go_at_call 78;refine (zd _ _ _ _).mono ?_;rintro e w' ⟨rfl,rfl⟩)
  go_ret
  exact⟨rfl,below_alloc3 _ _ _ _⟩
set_option maxHeartbeats 1000000 in
theorem znm (L:Lp) (k:Nat) (w:World) (a0:Option Addr) (v2:Value) (b off cap cap0:Nat) (ar sp pl:Int) (hks:(k:Int)<(L.body.length:Int)) (hm:cap<=9223372036854775807) (hl:L.body.length<=cap) (hm0:cap0<=9223372036854775807) (hl0:L.logs.length<=cap0) (hb:b<w.heap.size)
  (c0:w.cell? ⟨b,off+k*9,none⟩=some (iV 3)) (c1:w.cell? ⟨b,off+k*9+1,none⟩=some (iV 0)) (c2:w.cell? ⟨b,off+k*9+2,none⟩=some (iV 0)) (c3:w.cell? ⟨b,off+k*9+3,none⟩=some (iV 0)) (c4:w.cell? ⟨b,off+k*9+4,none⟩=some (iV 0)) (c5:w.cell? ⟨b,off+k*9+5,none⟩=some (iV ar)) (c6:w.cell? ⟨b,off+k*9+6,none⟩=some (iV sp)) (c7:w.cell? ⟨b,off+k*9+7,none⟩=some (iV pl)) (c8:w.cell? ⟨b,off+k*9+8,none⟩=some (iV 0)) (h1:inR ar 0 (L.logs.length - 1)=true) (h2:inR sp (-64) 64=true) :
  Calls Tryz.prog 80 #[.agg #[.slice a0 L.logs.length cap0,.slice (some ⟨b,off,none⟩) L.body.length cap,v2],iV k] w fun e w'=>e=.returned (.bool (yd L.logs.length L.body.length k ⟨3,0,0,0,0,ar,sp,pl,0⟩))/\Below w.heap.size w w':=by
 have HX:yd L.logs.length L.body.length k ⟨3,0,0,0,0,ar,sp,pl,0⟩=inR pl (-64) 64:=by
  simp [yd,yy,h1,h2]
 rw [HX]
 clear HX
 go_enter Tryz.func80,Tryz.ntmps80
 go_wp2_with (first | (go_at_call 78;refine (zd _ _ _ _).mono ?_;rintro e w' ⟨rfl,rfl⟩) | (go_at_call 47;refine (Y0 _ _ _ _ _ _ _ _ _ _ (by first | rfl | assumption) (by omega)).mono ?_;rintro e w' ⟨rfl,rfl⟩))
 go_loop [7] (fun i=>i=iV 0) (fun _=>0)
 case atStart=>rfl
 case round =>
  subst hrel
  go_wp2_with (go_at_call 78;refine (zd _ _ _ _).mono ?_;rintro e w' ⟨rfl,rfl⟩)
  go_ret
  exact⟨rfl,below_alloc3 _ _ _ _⟩
set_option maxHeartbeats 1000000 in
theorem znn (L:Lp) (k:Nat) (w:World) (a0:Option Addr) (v2:Value) (b off cap cap0:Nat) (xa xb ya yb ar sp pl nn:Int) (hks:(k:Int)<(L.body.length:Int)) (hm:cap<=9223372036854775807) (hl:L.body.length<=cap) (hm0:cap0<=9223372036854775807) (hl0:L.logs.length<=cap0) (hb:b<w.heap.size)
  (c0:w.cell? ⟨b,off+k*9,none⟩=some (iV 3)) (c1:w.cell? ⟨b,off+k*9+1,none⟩=some (iV xa)) (c2:w.cell? ⟨b,off+k*9+2,none⟩=some (iV xb)) (c3:w.cell? ⟨b,off+k*9+3,none⟩=some (iV ya)) (c4:w.cell? ⟨b,off+k*9+4,none⟩=some (iV yb)) (c5:w.cell? ⟨b,off+k*9+5,none⟩=some (iV ar)) (c6:w.cell? ⟨b,off+k*9+6,none⟩=some (iV sp)) (c7:w.cell? ⟨b,off+k*9+7,none⟩=some (iV pl)) (c8:w.cell? ⟨b,off+k*9+8,none⟩=some (iV nn)) (hz:¬(xa=0/\xb=0/\ya=0/\yb=0/\nn=0)) :
  Calls Tryz.prog 80 #[.agg #[.slice a0 L.logs.length cap0,.slice (some ⟨b,off,none⟩) L.body.length cap,v2],iV k] w fun e w'=>e=.returned (.bool (yd L.logs.length L.body.length k ⟨3,xa,xb,ya,yb,ar,sp,pl,nn⟩))/\Below w.heap.size w w':=by
 have HX:yd L.logs.length L.body.length k ⟨3,xa,xb,ya,yb,ar,sp,pl,nn⟩=false:=by
  rw [zqw,decide_eq_false hz];rfl
 rw [HX]
 clear HX
 go_enter Tryz.func80,Tryz.ntmps80
 go_wp2_with (first | (go_at_call 78;refine (zd _ _ _ _).mono ?_;rintro e w' ⟨rfl,rfl⟩) | (go_at_call 47;refine (Y0 _ _ _ _ _ _ _ _ _ _ (by first | rfl | assumption) (by omega)).mono ?_;rintro e w' ⟨rfl,rfl⟩))
 go_loop [7] (fun i=>i=iV 0) (fun _=>0)
 case atStart=>rfl
 case round =>
  subst hrel
  go_wp2_with (go_at_call 78;refine (zd _ _ _ _).mono ?_;rintro e w' ⟨rfl,rfl⟩)
  all_goals
   first
   | (go_ret;exact⟨rfl,below_alloc3 _ _ _ _⟩)
   | (exfalso;simp_all;done)
set_option maxHeartbeats 1000000 in
theorem zno (L:Lp) (k:Nat) (w:World) (a0:Option Addr) (v2:Value) (b off cap cap0:Nat) (o xa xb ya yb ar sp pl nn:Int) (hks:(k:Int)<(L.body.length:Int)) (hm:cap<=9223372036854775807) (hl:L.body.length<=cap) (hm0:cap0<=9223372036854775807) (hl0:L.logs.length<=cap0) (hb:b<w.heap.size)
  (c0:w.cell? ⟨b,off+k*9,none⟩=some (iV o)) (c1:w.cell? ⟨b,off+k*9+1,none⟩=some (iV xa)) (c2:w.cell? ⟨b,off+k*9+2,none⟩=some (iV xb)) (c3:w.cell? ⟨b,off+k*9+3,none⟩=some (iV ya)) (c4:w.cell? ⟨b,off+k*9+4,none⟩=some (iV yb)) (c5:w.cell? ⟨b,off+k*9+5,none⟩=some (iV ar)) (c6:w.cell? ⟨b,off+k*9+6,none⟩=some (iV sp)) (c7:w.cell? ⟨b,off+k*9+7,none⟩=some (iV pl)) (c8:w.cell? ⟨b,off+k*9+8,none⟩=some (iV nn)) (o1:(o == 1)=false) (o2:(o == 2)=false) (o3:(o == 3)=false) (o4:(o == 4)=false) (h10:¬10<o) (hi:inR o 11 18=false) :
  Calls Tryz.prog 80 #[.agg #[.slice a0 L.logs.length cap0,.slice (some ⟨b,off,none⟩) L.body.length cap,v2],iV k] w fun e w'=>e=.returned (.bool (yd L.logs.length L.body.length k ⟨o,xa,xb,ya,yb,ar,sp,pl,nn⟩))/\Below w.heap.size w w':=by
 have HX:=zcb (xa:=xa) (xb:=xb) (ya:=ya) (yb:=yb) (ar:=ar) (sp:=sp) (pl:=pl) (nn:=nn) (m:=L.logs.length) (n:=L.body.length) (k:=k) o1 o2 o3 o4 hi
 have n1:(o != 1)=true:=by simpa using o1
 rw [HX]
 clear HX
 go_enter Tryz.func80,Tryz.ntmps80
 go_wp2_with (first | (go_at_call 78;refine (zd _ _ _ _).mono ?_;rintro e w' ⟨rfl,rfl⟩) | (go_at_call 47;refine (Y0 _ _ _ _ _ _ _ _ _ _ (by first | rfl | assumption) (by omega)).mono ?_;rintro e w' ⟨rfl,rfl⟩))
 go_loop [7] (fun i=>i=iV 0) (fun _=>0)
 case atStart=>rfl
 case round =>
  subst hrel
  go_wp2_with (go_at_call 78;refine (zd _ _ _ _).mono ?_;rintro e w' ⟨rfl,rfl⟩)
  all_goals
   first
   | (go_ret;exact⟨rfl,below_alloc3 _ _ _ _⟩)
   | (exfalso;simp_all;done)
end Go.Proofs.YtjoapiafpahihabGreat
