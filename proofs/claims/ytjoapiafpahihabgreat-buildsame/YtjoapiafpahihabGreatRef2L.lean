import Derived.Test.YtjoapiafpahihabGreatRef2Stmt
import Derived.Deep.QuietTactic
import Derived.BigQuiet
import Derived.Test.YtjoapiafpahihabGreatLoopP
namespace Go.Proofs.YtjoapiafpahihabGreat
open Go.RowKit Go.Joins
set_option linter.unusedVariables false
theorem Zb {n k x:Int}:yg n k x 0=inR x 0 (k - 1):=by unfold yg;rw [if_pos rfl];rfl
theorem Za {n k x y:Int} (hy:¬y=0):yg n k x y=(inR y 0 3 && inR x 0 (n - 1)):=by unfold yg;rw [if_neg hy]
theorem zlw:inR 0 0 3=true:=rfl
theorem zV (w:World) (o1 o2 o3 o4:Obj):Below w.heap.size w ((((w.alloc o1).alloc o2).alloc o3).alloc o4):=(below_alloc3 w o1 o2 o3).alloc (by simp;omega) o4
set_option maxHeartbeats 1000000 in
theorem zpm (L:Lp) (k:Nat) (w:World) (a0:Option Addr) (v2:Value) (b off cap cap0:Nat) (xa xb ya yb ar sp pl nn:Int) (r:Bool) (hks:(k:Int)<(L.body.length:Int)) (hm:cap<=9223372036854775807) (hl:L.body.length<=cap) (hm0:cap0<=9223372036854775807) (hl0:L.logs.length<=cap0) (hb:b<w.heap.size)
  (c0:w.cell? ⟨b,off+k*9,none⟩=some (iV 4)) (c1:w.cell? ⟨b,off+k*9+1,none⟩=some (iV xa)) (c2:w.cell? ⟨b,off+k*9+2,none⟩=some (iV xb)) (c3:w.cell? ⟨b,off+k*9+3,none⟩=some (iV ya)) (c4:w.cell? ⟨b,off+k*9+4,none⟩=some (iV yb)) (c5:w.cell? ⟨b,off+k*9+5,none⟩=some (iV ar)) (c6:w.cell? ⟨b,off+k*9+6,none⟩=some (iV sp)) (c7:w.cell? ⟨b,off+k*9+7,none⟩=some (iV pl)) (c8:w.cell? ⟨b,off+k*9+8,none⟩=some (iV nn)) (HR:Hid (r=(decide (ya=0/\yb=0/\nn=0) && yy L.logs.length ar sp pl && yg L.body.length k xa xb))) :
  Calls Tryz.prog 80 #[.agg #[.slice a0 L.logs.length cap0,.slice (some ⟨b,off,none⟩) L.body.length cap,v2],iV k] w fun e w'=>e=.returned (.bool r)/\Below w.heap.size w w':=by
 go_enter Tryz.func80,Tryz.ntmps80
 go_wp2_with (first | (go_at_call 78;refine (zd _ _ _ _).mono ?_;rintro e w' ⟨rfl,rfl⟩) | (go_at_call 47;refine (zo3 _ _ _ _ _ _ _ _ _).mono ?_;rintro e w' ⟨rfl,rfl⟩))
 go_loop [7] (fun i=>∃j:Nat,j<=1/\i=iV j/\(j=1->yg L.body.length k xa xb=true)) (fun i=>1 - (intOf i).toNat)
 case atStart=>exact⟨0,by omega,rfl,fun h=>by omega⟩
 case round =>
  obtain⟨j,hj,rfl,hjr⟩:=hrel
  have hj2:j=0\/j=1:=by omega
  rcases hj2 with rfl | rfl
  ·clear hjr hj
   have z3:=zlw
   cases hq:yg L.body.length k xa xb with
   | false =>
     have HF:Hid (r=false):=by show r=false;rw [HR.out,hq,Bool.and_false]
     by_cases y0:xb=0
     ·subst y0
      rw [Zb] at hq
      go_wp2_with (go_at_call 78;refine (zd _ _ _ _).mono ?_;rintro e w' ⟨rfl,rfl⟩)
      go_ret
      exact⟨z7 (HF.out.symm),zV _ _ _ _ _⟩
     ·have hb0:(xb == 0)=false:=by simpa using y0
      rw [Za y0] at hq
      clear y0
      cases h1:inR xb 0 3 with
      | false =>
        clear hq
        go_wp2_with (go_at_call 78;refine (zd _ _ _ _).mono ?_;rintro e w' ⟨rfl,rfl⟩)
        go_ret
        exact⟨z7 (HF.out.symm),zV _ _ _ _ _⟩
      | true =>
        rw [h1,Bool.true_and] at hq
        go_wp2_with (go_at_call 78;refine (zd _ _ _ _).mono ?_;rintro e w' ⟨rfl,rfl⟩)
        go_ret
        exact⟨z7 (HF.out.symm),zV _ _ _ _ _⟩
   | true =>
     have HQ:=z5 hq
     by_cases y0:xb=0
     ·subst y0
      rw [Zb] at hq
      go_wp2_with (go_at_call 78;refine (zd _ _ _ _).mono ?_;rintro e w' ⟨rfl,rfl⟩)
      go_round
      case rel=>exact⟨1,by omega,rfl,fun _=>by first | exact HQ.out | trivial⟩
      case measure=>simp [intOf]
     ·have hb0:(xb == 0)=false:=by simpa using y0
      rw [Za y0,Bool.and_eq_true] at hq
      clear y0
      obtain⟨hq1,hq2⟩:=hq
      go_wp2_with (go_at_call 78;refine (zd _ _ _ _).mono ?_;rintro e w' ⟨rfl,rfl⟩)
      go_round
      case rel=>exact⟨1,by omega,rfl,fun _=>by first | exact HQ.out | trivial⟩
      case measure=>simp [intOf]
  ·have hq:=hjr rfl
   clear hjr hj
   have HR2:Hid (r=(decide (ya=0/\yb=0/\nn=0) && yy L.logs.length ar sp pl)):=by show r=_;rw [HR.out,hq,Bool.and_true]
   clear HR hq
   by_cases hz:ya=0/\yb=0/\nn=0
   ·obtain⟨rfl,rfl,rfl⟩:=hz
    have HR3:Hid (r=(inR ar 0 (L.logs.length - 1) && inR sp (-64) 64 && inR pl (-64) 64)):=by show r=_;rw [HR2.out,decide_eq_true ⟨rfl,rfl,rfl⟩,Bool.true_and];rfl
    clear HR2
    cases h1:inR ar 0 (L.logs.length - 1) with
    | false =>
      go_wp2_with (go_at_call 78;refine (zd _ _ _ _).mono ?_;rintro e w' ⟨rfl,rfl⟩)
      go_ret
      exact⟨z7 (by rw [HR3.out,h1];rfl),zV _ _ _ _ _⟩
    | true =>
      cases h2:inR sp (-64) 64 with
      | false =>
        go_wp2_with (go_at_call 78;refine (zd _ _ _ _).mono ?_;rintro e w' ⟨rfl,rfl⟩)
        go_ret
        exact⟨z7 (by rw [HR3.out,h1,h2];rfl),zV _ _ _ _ _⟩
      | true =>
        go_wp2_with (go_at_call 78;refine (zd _ _ _ _).mono ?_;rintro e w' ⟨rfl,rfl⟩)
        go_ret
        exact⟨z7 (by rw [HR3.out,h1,h2];rfl),zV _ _ _ _ _⟩
   ·have HF:Hid (r=false):=by show r=false;rw [HR2.out,decide_eq_false hz,Bool.false_and]
    go_wp2_with (go_at_call 78;refine (zd _ _ _ _).mono ?_;rintro e w' ⟨rfl,rfl⟩)
    all_goals
     first
     | (go_ret;exact⟨z7 HF.out.symm,zV _ _ _ _ _⟩)
     | (exfalso;simp_all;done)
set_option maxHeartbeats 1000000 in
theorem znp (L:Lp) (k:Nat) (w:World) (a0:Option Addr) (v2:Value) (b off cap cap0:Nat) (o xa xb ya yb ar sp pl nn:Int) (r:Bool) (hks:(k:Int)<(L.body.length:Int)) (hm:cap<=9223372036854775807) (hl:L.body.length<=cap) (hm0:cap0<=9223372036854775807) (hl0:L.logs.length<=cap0) (hb:b<w.heap.size)
  (c0:w.cell? ⟨b,off+k*9,none⟩=some (iV o)) (c1:w.cell? ⟨b,off+k*9+1,none⟩=some (iV xa)) (c2:w.cell? ⟨b,off+k*9+2,none⟩=some (iV xb)) (c3:w.cell? ⟨b,off+k*9+3,none⟩=some (iV ya)) (c4:w.cell? ⟨b,off+k*9+4,none⟩=some (iV yb)) (c5:w.cell? ⟨b,off+k*9+5,none⟩=some (iV ar)) (c6:w.cell? ⟨b,off+k*9+6,none⟩=some (iV sp)) (c7:w.cell? ⟨b,off+k*9+7,none⟩=some (iV pl)) (c8:w.cell? ⟨b,off+k*9+8,none⟩=some (iV nn)) (o1:(o == 1)=false) (o2:(o == 2)=false) (o3:(o == 3)=false) (o4:(o == 4)=false) (n1:(o != 1)=true) (h10:10<o) (HR:Hid (r=(inR o 11 18 && decide (ar=0/\sp=0/\pl=0/\nn=0) && yg L.body.length k xa xb && yg L.body.length k ya yb))) :
  Calls Tryz.prog 80 #[.agg #[.slice a0 L.logs.length cap0,.slice (some ⟨b,off,none⟩) L.body.length cap,v2],iV k] w fun e w'=>e=.returned (.bool r)/\Below w.heap.size w w':=by
 go_enter Tryz.func80,Tryz.ntmps80
 go_wp2_with (first | (go_at_call 78;refine (zd _ _ _ _).mono ?_;rintro e w' ⟨rfl,rfl⟩) | (go_at_call 47;refine (zi2 _ _ _ _ _ _ _ _ _ _ o4 h10).mono ?_;rintro e w' ⟨rfl,rfl⟩))
 go_loop [7] (fun i=>∃j:Nat,j<=2/\i=iV j/\(1<=j->yg L.body.length k xa xb=true)/\(2<=j->yg L.body.length k ya yb=true)) (fun i=>2 - (intOf i).toNat)
 case atStart=>exact⟨0,by omega,rfl,fun h=>by omega,fun h=>by omega⟩
 case round =>
  obtain⟨j,hj,rfl,hjr,hjs⟩:=hrel
  have hj2:j=0\/j=1\/j=2:=by omega
  rcases hj2 with rfl | rfl | rfl
  ·clear hjr hj hjs
   have z3:=zlw
   cases hq:yg L.body.length k xa xb with
   | false =>
     have HF:Hid (r=false):=by show r=false;rw [HR.out,hq,Bool.and_false,Bool.false_and]
     by_cases y0:xb=0
     ·subst y0
      rw [Zb] at hq
      go_wp2_with (go_at_call 78;refine (zd _ _ _ _).mono ?_;rintro e w' ⟨rfl,rfl⟩)
      go_ret
      exact⟨z7 (HF.out.symm),zV _ _ _ _ _⟩
     ·have hb0:(xb == 0)=false:=by simpa using y0
      rw [Za y0] at hq
      clear y0
      cases h1:inR xb 0 3 with
      | false =>
        clear hq
        go_wp2_with (go_at_call 78;refine (zd _ _ _ _).mono ?_;rintro e w' ⟨rfl,rfl⟩)
        go_ret
        exact⟨z7 (HF.out.symm),zV _ _ _ _ _⟩
      | true =>
        rw [h1,Bool.true_and] at hq
        go_wp2_with (go_at_call 78;refine (zd _ _ _ _).mono ?_;rintro e w' ⟨rfl,rfl⟩)
        go_ret
        exact⟨z7 (HF.out.symm),zV _ _ _ _ _⟩
   | true =>
     have HQ:=z5 hq
     by_cases y0:xb=0
     ·subst y0
      rw [Zb] at hq
      go_wp2_with (go_at_call 78;refine (zd _ _ _ _).mono ?_;rintro e w' ⟨rfl,rfl⟩)
      go_round
      case rel=>exact⟨1,by omega,rfl,fun _=>by first | exact HQ.out | trivial,fun h=>by omega⟩
      case measure=>simp [intOf]
     ·have hb0:(xb == 0)=false:=by simpa using y0
      rw [Za y0,Bool.and_eq_true] at hq
      clear y0
      obtain⟨hq1,hq2⟩:=hq
      go_wp2_with (go_at_call 78;refine (zd _ _ _ _).mono ?_;rintro e w' ⟨rfl,rfl⟩)
      go_round
      case rel=>exact⟨1,by omega,rfl,fun _=>by first | exact HQ.out | trivial,fun h=>by omega⟩
      case measure=>simp [intOf]
  ·have HP:=z5 (hjr (by omega))
   clear hjr hj hjs
   have z3:=zlw
   cases hq:yg L.body.length k ya yb with
   | false =>
     have HF:Hid (r=false):=by show r=false;rw [HR.out,hq,Bool.and_false]
     by_cases y0:yb=0
     ·subst y0
      rw [Zb] at hq
      go_wp2_with (go_at_call 78;refine (zd _ _ _ _).mono ?_;rintro e w' ⟨rfl,rfl⟩)
      go_ret
      exact⟨z7 (HF.out.symm),zV _ _ _ _ _⟩
     ·have hb0:(yb == 0)=false:=by simpa using y0
      rw [Za y0] at hq
      clear y0
      cases h1:inR yb 0 3 with
      | false =>
        clear hq
        go_wp2_with (go_at_call 78;refine (zd _ _ _ _).mono ?_;rintro e w' ⟨rfl,rfl⟩)
        go_ret
        exact⟨z7 (HF.out.symm),zV _ _ _ _ _⟩
      | true =>
        rw [h1,Bool.true_and] at hq
        go_wp2_with (go_at_call 78;refine (zd _ _ _ _).mono ?_;rintro e w' ⟨rfl,rfl⟩)
        go_ret
        exact⟨z7 (HF.out.symm),zV _ _ _ _ _⟩
   | true =>
     have HQ:=z5 hq
     by_cases y0:yb=0
     ·subst y0
      rw [Zb] at hq
      go_wp2_with (go_at_call 78;refine (zd _ _ _ _).mono ?_;rintro e w' ⟨rfl,rfl⟩)
      go_round
      case rel=>exact⟨2,by omega,rfl,fun _=>by first | exact HP.out | trivial,fun _=>by first | exact HQ.out | trivial⟩
      case measure=>simp [intOf]
     ·have hb0:(yb == 0)=false:=by simpa using y0
      rw [Za y0,Bool.and_eq_true] at hq
      clear y0
      obtain⟨hq1,hq2⟩:=hq
      go_wp2_with (go_at_call 78;refine (zd _ _ _ _).mono ?_;rintro e w' ⟨rfl,rfl⟩)
      go_round
      case rel=>exact⟨2,by omega,rfl,fun _=>by first | exact HP.out | trivial,fun _=>by first | exact HQ.out | trivial⟩
      case measure=>simp [intOf]
  ·have HR2:Hid (r=(inR o 11 18 && decide (ar=0/\sp=0/\pl=0/\nn=0))):=by show r=_;rw [HR.out,hjr (by omega),hjs (by omega),Bool.and_true,Bool.and_true]
   clear hjr hj hjs HR
   by_cases hz:ar=0/\sp=0/\pl=0/\nn=0
   ·obtain⟨rfl,rfl,rfl,rfl⟩:=hz
    have HR3:Hid (r=inR o 11 18):=by show r=_;rw [HR2.out,decide_eq_true ⟨rfl,rfl,rfl,rfl⟩,Bool.and_true]
    clear HR2
    go_wp2_with (go_at_call 78;refine (zd _ _ _ _).mono ?_;rintro e w' ⟨rfl,rfl⟩)
    go_ret
    exact⟨z7 HR3.out.symm,zV _ _ _ _ _⟩
   ·have HF:Hid (r=false):=by show r=false;rw [HR2.out,decide_eq_false hz,Bool.and_false]
    go_wp2_with (go_at_call 78;refine (zd _ _ _ _).mono ?_;rintro e w' ⟨rfl,rfl⟩)
    all_goals
     first
     | (go_ret;exact⟨z7 HF.out.symm,zV _ _ _ _ _⟩)
     | (exfalso;simp_all;done)
theorem zav (v:Value) (L:Lp) (k:Nat) (w:World) (h:zk w v L) (hk:k<L.body.length) :
  Calls Tryz.prog 80 #[v,iV k] w fun e w'=>e=.returned (.bool (yd L.logs.length L.body.length k (z6 L.body k)))/\Below w.heap.size w w':=by
 obtain⟨v0,v1,v2,rfl,⟨a0,cap0,rfl,hl0,hm0,-,-⟩,⟨a,cap,rfl,hl,hm,hc⟩,-⟩:=h
 obtain⟨b,off,rfl,hb,hcell⟩:=hc (by omega)
 unfold maxLen at hm hm0
 obtain⟨c0,c1,c2,c3,c4,c5,c6,c7,c8⟩:=Zj (hcell k hk)
 clear hcell hc
 generalize z6 L.body k=s at *
 obtain⟨o,xa,xb,ya,yb,ar,sp,pl,nn⟩:=s
 simp only at c0 c1 c2 c3 c4 c5 c6 c7 c8
 have hks:(k:Int)<(L.body.length:Int):=by omega
 have hm1:cap<=9223372036854775807:=by omega
 have hm2:cap0<=9223372036854775807:=by omega
 by_cases o1:o=1
 ·subst o1
  by_cases hz:xa=0/\xb=0/\ya=0/\yb=0/\ar=0/\sp=0/\pl=0
  ·obtain⟨rfl,rfl,rfl,rfl,rfl,rfl,rfl⟩:=hz
   exact znh L k w a0 v2 b off cap cap0 nn hks hm1 hl hm2 hl0 hb c0 c1 c2 c3 c4 c5 c6 c7 c8
  ·exact zng L k w a0 v2 b off cap cap0 xa xb ya yb ar sp pl nn hks hm1 hl hm2 hl0 hb c0 c1 c2 c3 c4 c5 c6 c7 c8 hz
 by_cases o2:o=2
 ·subst o2
  by_cases hz:xa=0/\xb=0/\ya=0/\yb=0/\ar=0/\sp=0/\pl=0/\nn=0
  ·obtain⟨rfl,rfl,rfl,rfl,rfl,rfl,rfl,rfl⟩:=hz
   exact znj L k w a0 v2 b off cap cap0 hks hm1 hl hm2 hl0 hb c0 c1 c2 c3 c4 c5 c6 c7 c8
  ·exact zni L k w a0 v2 b off cap cap0 xa xb ya yb ar sp pl nn hks hm1 hl hm2 hl0 hb c0 c1 c2 c3 c4 c5 c6 c7 c8 hz
 by_cases o3:o=3
 ·subst o3
  by_cases hz:xa=0/\xb=0/\ya=0/\yb=0/\nn=0
  ·obtain⟨rfl,rfl,rfl,rfl,rfl⟩:=hz
   cases h1:inR ar 0 (L.logs.length - 1) with
   | false=>exact znk L k w a0 v2 b off cap cap0 ar sp pl hks hm1 hl hm2 hl0 hb c0 c1 c2 c3 c4 c5 c6 c7 c8 h1
   | true =>
     cases h2:inR sp (-64) 64 with
     | false=>exact znl L k w a0 v2 b off cap cap0 ar sp pl hks hm1 hl hm2 hl0 hb c0 c1 c2 c3 c4 c5 c6 c7 c8 h1 h2
     | true=>exact znm L k w a0 v2 b off cap cap0 ar sp pl hks hm1 hl hm2 hl0 hb c0 c1 c2 c3 c4 c5 c6 c7 c8 h1 h2
  ·exact znn L k w a0 v2 b off cap cap0 xa xb ya yb ar sp pl nn hks hm1 hl hm2 hl0 hb c0 c1 c2 c3 c4 c5 c6 c7 c8 hz
 by_cases o4:o=4
 ·subst o4
  exact zpm L k w a0 v2 b off cap cap0 xa xb ya yb ar sp pl nn _ hks hm1 hl hm2 hl0 hb c0 c1 c2 c3 c4 c5 c6 c7 c8 (z5 zqx)
 have b1:(o == 1)=false:=by simpa using o1
 have b2:(o == 2)=false:=by simpa using o2
 have b3:(o == 3)=false:=by simpa using o3
 have b4:(o == 4)=false:=by simpa using o4
 have n1:(o != 1)=true:=by simpa using o1
 by_cases h10:10<o
 ·refine znp L k w a0 v2 b off cap cap0 o xa xb ya yb ar sp pl nn _ hks hm1 hl hm2 hl0 hb c0 c1 c2 c3 c4 c5 c6 c7 c8 b1 b2 b3 b4 n1 h10 (z5 ?_)
  cases hi:inR o 11 18 with
  | true=>rw [zcc b1 b2 b3 b4 hi,Bool.true_and]
  | false=>rw [zcb b1 b2 b3 b4 hi];rfl
 ·exact zno L k w a0 v2 b off cap cap0 o xa xb ya yb ar sp pl nn hks hm1 hl hm2 hl0 hb c0 c1 c2 c3 c4 c5 c6 c7 c8 b1 b2 b3 b4 h10 (Z3 (by omega))
theorem yz (x:Int) (h0:-9223372036854775808<=x) (h1:x<=9223372036854775807):IntKind.i64.wrap x=x:=by rw [IntKind.wrap_i64];omega
set_option maxHeartbeats 1000000 in
theorem XX (v:Value) (L:Lp) (w:World) (h:zk w v L) :
  Calls Tryz.prog 34 #[v] w fun e w'=>e=.returned (.bool (zx L))/\Below w.heap.size w w':=by
 have hL:=h
 obtain⟨v0,v1,v2,rfl,⟨a0,cap0,rfl,hl0,hm0,hr0,hc0⟩,⟨a1,cap1,rfl,hl1,hm1,-⟩,⟨a2,cap2,rfl,hl2,hm2,hr2,hc2⟩⟩:=h
 unfold maxLen at hm0 hm1 hm2
 by_cases h1:(3:Int)<L.logs.length
 ·have HX:=z5 (Xq L (.inl (by omega)))
  clear hr0 hc0 hr2 hc2
  go_enter Tryz.func34,Tryz.ntmps34
  go_wp2_with fail
  go_ret
  exact⟨z7 HX.out.symm,below_alloc1 _ _⟩
 by_cases h2:(L.body.length:Int)<1
 ·have HX:=z5 (Xq L (.inr (.inl (by omega))))
  clear hr0 hc0 hr2 hc2
  go_enter Tryz.func34,Tryz.ntmps34
  go_wp2_with fail
  go_ret
  exact⟨z7 HX.out.symm,below_alloc1 _ _⟩
 by_cases h4:(16:Int)<L.body.length
 ·have HX:=z5 (Xq L (.inr (.inr (.inl (by omega)))))
  clear hr0 hc0 hr2 hc2
  go_enter Tryz.func34,Tryz.ntmps34
  go_wp2_with fail
  go_ret
  exact⟨z7 HX.out.symm,below_alloc1 _ _⟩
 have HX:=z5 (zmb L (by omega) (by omega) (by omega))
 go_enter Tryz.func34,Tryz.ntmps34
 go_wp2_with fail
 go_loop [4] (fun i=>∃k:Nat,k<=L.logs.length/\i=iV k/\zh (fun i=>zdd (nth L.logs i)) k=true) (fun i=>L.logs.length - (intOf i).toNat)
 case atStart=>exact⟨0,Nat.zero_le _,rfl,rfl⟩
 case round =>
  obtain⟨k,hk,rfl,hall⟩:=hrel
  have HA:=z5 hall
  clear hall
  by_cases hlt:k<L.logs.length
  ·obtain⟨b,off,rfl,hb,hcell⟩:=hc0 (by omega)
   have hck:=hcell k hlt
   have hki:(k:Int)<(L.logs.length:Int):=by omega
   clear hcell hc0 hr0 hc2 hr2
   cases hx:zdd (nth L.logs k) with
   | true =>
     have HY:=z5 hx
     have hin:inR (nth L.logs k) 0 5=true:=hx
     clear hx
     go_wp2_with (go_at_call 78;refine (zd _ _ _ _).mono ?_;rintro e w' ⟨rfl,rfl⟩)
     go_round
     case rel=>exact⟨k+1,by omega,by go_num,yw HA.out HY.out⟩
     case measure=>simp [intOf];omega
   | false =>
     have HY:Hid (Z5 L.logs=false):=zw hlt hx
     have hin:inR (nth L.logs k) 0 5=false:=hx
     clear hx
     go_wp2_with (go_at_call 78;refine (zd _ _ _ _).mono ?_;rintro e w' ⟨rfl,rfl⟩)
     go_ret
     exact⟨z7 (by rw [HX.out,HY.out];rfl),below_alloc1 _ _⟩
  ·have e:k=L.logs.length:=by omega
   have HL:Hid (Z5 L.logs=true):=by show Z5 L.logs=true;unfold Z5;rw [<-e];exact HA.out
   subst e
   clear HA hlt hc0 hr0
   go_wp2_with fail
   go_loopw [5] (fun i wr=>∃k:Nat,k<=L.outs.length/\i=iV k/\zh (YJ L.body.length L.outs) k=true/\Below (w.heap.size+1) (w.alloc (.cells #[.slice a0 L.logs.length cap0,.slice a1 L.body.length cap1,.slice a2 L.outs.length cap2] 25)) wr) (fun i _=>L.outs.length - (intOf i).toNat)
   case atStart=>exact⟨0,Nat.zero_le _,rfl,rfl,Below.refl _ _⟩
   case round =>
    obtain⟨k,hk,rfl,hall,hbel⟩:=hrel
    have hbox:∀o,wr.cell? ⟨w.heap.size,o,none⟩=(w.alloc (.cells #[.slice a0 L.logs.length cap0,.slice a1 L.body.length cap1,.slice a2 L.outs.length cap2] 25)).cell? ⟨w.heap.size,o,none⟩:=fun o=>hbel.cell (p:=⟨w.heap.size,o,none⟩) (by simp)
    have hbw:Below w.heap.size w wr:=(below_alloc1 _ _).trans (hbel.mono (by omega))
    have HA:=z5 hall
    by_cases hlt:k<L.outs.length
    ·obtain⟨b,off,rfl,hb,hcell⟩:=hc2 (by omega)
     have hck:=hcell k hlt
     rw [<-zc hbw _ _ hb] at hck
     have hki:(k:Int)<(L.outs.length:Int):=by omega
     have hwn:IntKind.i64.wrap ((L.body.length:Int) - 1)=(L.body.length:Int) - 1:=yz _ (by omega) (by omega)
     have hwk:IntKind.i64.wrap ((k:Int) - 1)=(k:Int) - 1:=yz _ (by omega) (by omega)
     cases hx:YJ L.body.length L.outs k with
     | false =>
       have HY:Hid (Z9 L.body.length L.outs=false):=zw hlt hx
       rcases zmt hx with hin | ⟨hin,hk0,hle⟩
       ·clear hx hall hcell hc2 hr2
        go_wp2_with fail
        go_quiet ((go_at_call 78;exact Calls.quiet_of_same (zd _ _ _ _)))
        go_wp2_with fail
        go_ret
        exact⟨z7 (by rw [HX.out,HY.out,Bool.and_false,Bool.false_and]),hbw.trans (below_draws _ _ _)⟩
       ·obtain⟨m,hmk⟩:∃m,k=m+1:=⟨k - 1,by omega⟩
        have hcm:=hcell m (by omega)
        rw [<-zc hbw _ _ hb] at hcm
        have hkp:(0:Int)<(k:Int):=by omega
        have hk3:0<k:=by omega
        have hmi:(m:Int)<(L.outs.length:Int):=by omega
        have hwm:IntKind.i64.wrap ((k:Int) - 1)=(m:Int):=by rw [hwk];omega
        have hle2:decide (nth L.outs k<=nth L.outs m)=true:=decide_eq_true (by rw [show m=k - 1 from by omega];exact hle)
        clear hx hall hcell hc2 hr2 hle hwk hmk
        go_wp2_with fail
        go_quiet ((go_at_call 78;exact Calls.quiet_of_same (zd _ _ _ _)))
        go_wp2_with fail
        go_ret
        exact⟨z7 (by rw [HX.out,HY.out,Bool.and_false,Bool.false_and]),hbw.trans (below_draws _ _ _)⟩
     | true =>
       have HY:=z5 hx
       obtain⟨hin,hgt⟩:=zjm (by omega) hall hx
       by_cases hk0:k=0
       ·subst hk0
        rw [Nat.add_zero] at hck
        clear hx hall hcell hc2 hr2 hgt hwk
        go_wp2_with fail
        go_quiet ((go_at_call 78;exact Calls.quiet_of_same (zd _ _ _ _)))
        go_wp2_with fail
        go_roundw
        case rel=>exact⟨1,by omega,rfl,yw HA.out HY.out,hbel.trans (below_draws _ _ _)⟩
        case measure=>simp [intOf];omega
       ·obtain⟨m,hmk⟩:∃m,k=m+1:=⟨k - 1,by omega⟩
        have hcm:=hcell m (by omega)
        rw [<-zc hbw _ _ hb] at hcm
        have hkp:(0:Int)<(k:Int):=by omega
        have hk3:0<k:=by omega
        have hmi:(m:Int)<(L.outs.length:Int):=by omega
        have hwm:IntKind.i64.wrap ((k:Int) - 1)=(m:Int):=by rw [hwk];omega
        have hle2:decide (nth L.outs k<=nth L.outs m)=false:=decide_eq_false (by rw [show m=k - 1 from by omega];exact hgt (by omega))
        clear hx hall hcell hc2 hr2 hgt hwk hmk
        go_wp2_with fail
        go_quiet ((go_at_call 78;exact Calls.quiet_of_same (zd _ _ _ _)))
        go_wp2_with fail
        go_roundw
        case rel=>exact⟨k+1,by omega,by go_num,yw HA.out HY.out,hbel.trans (below_draws _ _ _)⟩
        case measure=>simp [intOf];omega
    ·have e:k=L.outs.length:=by omega
     have HO:Hid (Z9 L.body.length L.outs=true):=by show Z9 L.body.length L.outs=true;unfold Z9;rw [<-e];exact HA.out
     subst e
     clear HA hlt hc2 hr2 hall
     go_wp2_with fail
     clear hbox hbw
     have HX2:Hid (zx L=xN L):=by show zx L=xN L;rw [HX.out,HL.out,HO.out];rfl
     go_loopw [6] (fun i wr=>∃k:Nat,k<=L.body.length/\i=iV k/\zh (fun k=>yd L.logs.length L.body.length k (z6 L.body k)) k=true/\Below (w.heap.size+1) (w.alloc (.cells #[.slice a0 L.logs.length cap0,.slice a1 L.body.length cap1,.slice a2 L.outs.length cap2] 25)) wr) (fun i _=>L.body.length - (intOf i).toNat)
     case atStart=>exact⟨0,Nat.zero_le _,rfl,rfl,hbel⟩
     case round =>
      clear hbel
      obtain⟨k,hk,rfl,hall,hbel⟩:=hrel
      have hcell:∀o,wr.cell? ⟨w.heap.size,o,none⟩=(w.alloc (.cells #[.slice a0 L.logs.length cap0,.slice a1 L.body.length cap1,.slice a2 L.outs.length cap2] 25)).cell? ⟨w.heap.size,o,none⟩:=fun o=>hbel.cell (p:=⟨w.heap.size,o,none⟩) (by simp)
      have hbw:Below w.heap.size w wr:=(below_alloc1 _ _).trans (hbel.mono (by omega))
      have HA:=z5 hall
      clear hall
      by_cases hlt:k<L.body.length
      ·have hks:(k:Int)<(L.body.length:Int):=by omega
       cases hx:yd L.logs.length L.body.length k (z6 L.body k) with
       | true =>
         have HY:=z5 hx
         go_wp2_with (go_at_call 80;refine (zav _ L k _ (zk.below hL hbw) hlt).mono ?_;rintro e w1 ⟨rfl,hb1⟩)
         go_roundw
         case rel=>exact⟨k+1,by omega,by go_num,yw HA.out HY.out,hbel.trans (hb1.mono (by have:=hbel.size;simp at this;omega))⟩
         case measure=>simp [intOf];omega
       | false =>
         have HY:Hid (xN L=false):=zw hlt hx
         go_wp2_with (go_at_call 80;refine (zav _ L k _ (zk.below hL hbw) hlt).mono ?_;rintro e w1 ⟨rfl,hb1⟩)
         go_ret
         exact⟨z7 (by rw [HX2.out,HY.out]),hbw.trans (hb1.mono hbw.size)⟩
      ·have e:k=L.body.length:=by omega
       have HY:Hid (xN L=true):=by show xN L=true;unfold xN;rw [<-e];rw [<-e] at HA;exact HA.out
       clear HA e
       go_wp2_with fail
       go_ret
       exact⟨z7 (by rw [HX2.out,HY.out]),hbw⟩
theorem zx8 (n l:Nat):((n:Int) != p2 l)=!decide (n=2 ^ l):=by
 unfold p2
 by_cases h:n=2 ^ l
 ·rw [decide_eq_true h,h];simp
 ·rw [decide_eq_false h]
  have h2:((n:Nat):Int)≠((2 ^ l:Nat):Int):=fun e=>h (Int.ofNat.inj e)
  simpa using h2
set_option maxHeartbeats 400000 in
theorem zvp (v s:Value) (L:Lp) (B M:List (List Int)) (w:World) (h:zk w v L) (hs:zey w s B M) :
  Calls Tryz.prog 10 #[v,s] w fun e w'=>e=.returned (.bool (zrx L B M))/\Below w.heap.size w w':=by
 have hL:=h
 have hS:=hs
 obtain⟨v0,v1,v2,rfl,hI,⟨a1,cap1,rfl,hl1,hm1,-⟩,-⟩:=h
 obtain⟨a0,cap0,rfl,hl0,hm0,hr0,hc0⟩:=hI
 obtain⟨s0,s1,rfl,⟨ba,bcap,rfl,bl,bm,bc⟩,⟨ma,mcap,rfl,ml,mm,mc⟩⟩:=hs
 unfold maxLen at hm0 hm1 bm mm
 cases e1:zx L with
 | false =>
   have HX:Hid (zrx L B M=false):=by show zrx L B M=false;unfold zrx;rw [e1];rfl
   clear bc mc hc0 hr0
   go_enter Tryz.func10,Tryz.ntmps10
   go_wp2_with (go_at_call 34;refine (XX _ L _ (zk.below hL (below_alloc2 _ _ _))).mono ?_;rintro e w1 ⟨rfl,hb1⟩;have hc1:=zc hb1)
   go_ret
   exact⟨z7 HX.out.symm,(below_alloc2 _ _ _).trans (hb1.mono (by simp;omega))⟩
 | true =>
   obtain⟨p1,p2,p3,p4,p5,p6,p7⟩:=zj e1
   clear p2 p3 p4 p6 p7
   by_cases h1:B.length=L.body.length
   ·by_cases h2:M.length=L.logs.length
    ·have b1:((B.length:Int) != (L.body.length:Int))=false:=by simp;omega
     have b2:((M.length:Int) != (L.logs.length:Int))=false:=by simp;omega
     have H1:=z5 h1
     have H2:=z5 h2
     clear h1 h2
     go_enter Tryz.func10,Tryz.ntmps10
     go_wp2_with (go_at_call 34;refine (XX _ L _ (zk.below hL (below_alloc2 _ _ _))).mono ?_;rintro e w1 ⟨rfl,hb1⟩;have hc1:=zc hb1)
     have hbw:Below w.heap.size w w1:=(below_alloc2 _ _ _).trans (hb1.mono (by simp;omega))
     have hw2:w.heap.size+1<w1.heap.size:=by have:=hb1.size;simp at this;omega
     go_loop [5] (fun i=>∃k:Nat,k<=B.length/\i=iV k/\zh (fun i=>decide ((VC B i).length=3)) k=true) (fun i=>B.length - (intOf i).toNat)
     case atStart=>exact⟨0,Nat.zero_le _,rfl,rfl⟩
     case round =>
      obtain⟨k,hk,rfl,hall⟩:=hrel
      have HA:=z5 hall
      clear hall
      by_cases hlt:k<B.length
      ·obtain⟨b,off,rfl,hb,hcell⟩:=bc (by omega)
       obtain⟨u,hck,⟨ra,rcap,rfl,rl,rm,-,-⟩⟩:=hcell k hlt
       unfold maxLen at rm
       rw [<-zc hbw _ _ hb] at hck
       clear hcell bc mc hc0 hr0
       by_cases hx:(VC B k).length=3
       ·have HX:=z5 hx
        have hne:(((VC B k).length:Int) != 3)=false:=by simp;omega
        clear hx
        go_wp2_with fail
        go_round
        case rel=>exact⟨k+1,by omega,by go_num,yw HA.out (decide_eq_true HX.out)⟩
        case measure=>simp [intOf];omega
       ·have HX:Hid (zrx L B M=false):=by
         show zrx L B M=false
         unfold zrx
         rw [zw (p:=fun i=>decide ((VC B i).length=3)) hlt (decide_eq_false hx),Bool.and_false,Bool.false_and]
        have hne:(((VC B k).length:Int) != 3)=true:=by simp;omega
        clear hx
        go_wp2_with fail
        go_ret
        exact⟨z7 HX.out.symm,hbw⟩
      ·have e:k=B.length:=by omega
       subst e
       clear bc hlt
       go_wp2_with fail
       go_loop [6] (fun i=>∃k:Nat,k<=M.length/\i=iV k/\zh (fun i=>decide ((VC M i).length=2 ^ (nth L.logs i).toNat)) k=true) (fun i=>M.length - (intOf i).toNat)
       case atStart=>exact⟨0,Nat.zero_le _,rfl,rfl⟩
       case round =>
        obtain⟨j,hj,rfl,hallM⟩:=hrel
        have HM:=z5 hallM
        clear hallM
        by_cases hlt:j<M.length
        ·obtain⟨b,off,rfl,hb,hcell⟩:=mc (by omega)
         obtain⟨u,hck,⟨ra,rcap,rfl,rl,rm,-,-⟩⟩:=hcell j hlt
         unfold maxLen at rm
         rw [<-zc hbw _ _ hb] at hck
         have hjl:j<L.logs.length:=by have:=H2.out;omega
         obtain⟨lb,loff,rfl,hlb,hlc⟩:=hc0 (by omega)
         have hlk:=hlc j hjl
         rw [<-zc hbw _ _ hlb] at hlk
         have hlog:=zo.1 (zl p5 j hjl)
         obtain⟨hg0,hg5⟩:=hlog
         obtain⟨l,hl2⟩:=Int.eq_ofNat_of_zero_le hg0
         have HE:=z5 hl2
         rw [hl2] at hlk hg5
         clear hl2 hg0
         have hji:(j:Int)<(L.logs.length:Int):=by omega
         clear hcell mc hc0 hr0 hlc p5
         have hne:=zx8 (VC M j).length l
         by_cases hx:(VC M j).length=2 ^ l
         ·rw [decide_eq_true hx] at hne
          have HX:=z5 hx
          clear hx
          go_wp2_with (go_at_call 35;refine (ze6 l _ (by omega)).mono ?_;rintro e w' ⟨rfl,rfl⟩)
          go_round
          case rel=>exact⟨j+1,by omega,by go_num,yw HM.out (decide_eq_true (by rw [HE.out];exact HX.out))⟩
          case measure=>simp [intOf];omega
         ·rw [decide_eq_false hx] at hne
          have HX:Hid (zrx L B M=false):=by
           show zrx L B M=false
           unfold zrx
           rw [zw (p:=fun i=>decide ((VC M i).length=2 ^ (nth L.logs i).toNat)) hlt (decide_eq_false (by rw [HE.out];exact hx)),Bool.and_false]
          clear hx
          go_wp2_with (go_at_call 35;refine (ze6 l _ (by omega)).mono ?_;rintro e w' ⟨rfl,rfl⟩)
          go_ret
          exact⟨z7 HX.out.symm,hbw⟩
        ·have e:j=M.length:=by omega
         subst e
         have HX:Hid (zrx L B M=true):=by
          show zrx L B M=true
          unfold zrx
          rw [HM.out,HA.out,e1,decide_eq_true H1.out,decide_eq_true H2.out];rfl
         clear hlt mc hc0 hr0
         go_wp2_with fail
         go_ret
         exact⟨z7 HX.out.symm,hbw⟩
    ·have HX:Hid (zrx L B M=false):=by
      show zrx L B M=false
      unfold zrx
      rw [decide_eq_false h2,Bool.and_false,Bool.false_and,Bool.false_and]
     have b1:((B.length:Int) != (L.body.length:Int))=false:=by simp;omega
     have b2:((M.length:Int) != (L.logs.length:Int))=true:=by simp;omega
     clear h1 h2 bc mc hc0 hr0 p5
     go_enter Tryz.func10,Tryz.ntmps10
     go_wp2_with (go_at_call 34;refine (XX _ L _ (zk.below hL (below_alloc2 _ _ _))).mono ?_;rintro e w1 ⟨rfl,hb1⟩;have hc1:=zc hb1)
     go_ret
     exact⟨z7 HX.out.symm,(below_alloc2 _ _ _).trans (hb1.mono (by simp;omega))⟩
   ·have HX:Hid (zrx L B M=false):=by
     show zrx L B M=false
     unfold zrx
     rw [decide_eq_false h1,Bool.and_false,Bool.false_and,Bool.false_and,Bool.false_and]
    have b1:((B.length:Int) != (L.body.length:Int))=true:=by simp;omega
    clear h1 bc mc hc0 hr0 p5
    go_enter Tryz.func10,Tryz.ntmps10
    go_wp2_with (go_at_call 34;refine (XX _ L _ (zk.below hL (below_alloc2 _ _ _))).mono ?_;rintro e w1 ⟨rfl,hb1⟩;have hc1:=zc hb1)
    go_ret
    exact⟨z7 HX.out.symm,(below_alloc2 _ _ _).trans (hb1.mono (by simp;omega))⟩
end Go.Proofs.YtjoapiafpahihabGreat
