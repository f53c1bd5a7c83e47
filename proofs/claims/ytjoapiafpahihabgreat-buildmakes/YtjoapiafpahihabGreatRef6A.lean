import Derived.Test.YtjoapiafpahihabGreatMaths
import Derived.Test.YtjoapiafpahihabGreatRef2Stmt
import Derived.Test.YtjoapiafpahihabGreatLoopStmt
import Derived.Test.YtjoapiafpahihabGreatNums
namespace Go.Proofs.YtjoapiafpahihabGreat
open Go.RowKit Go.Joins
set_option linter.unusedVariables false
def za0 (w:World) (v:Value) (l:List (Int × Int)):Prop :=
 ∃ a cap,v=.slice a l.length cap/\l.length<=cap/\cap<=maxLen /\
   (0<l.length->∃blk off,a=some ⟨blk,off,none⟩/\blk<w.heap.size/\∀i,i<l.length->w.cell? ⟨blk,off+i*2,none⟩=some (iV (zi l i).1)/\w.cell? ⟨blk,off+i*2+1,none⟩=some (iV (zi l i).2))
theorem za0.below {w w':World} {v:Value} {l:List (Int × Int)} (h:za0 w v l) (hb:Below w.heap.size w w'):za0 w' v l:=by
 obtain⟨a,cap,e,h1,h2,h4⟩:=h
 refine⟨a,cap,e,h1,h2,fun hp=>?_⟩
 obtain⟨b,off,e2,h5,h6⟩:=h4 hp
 exact⟨b,off,e2,Nat.lt_of_lt_of_le h5 hb.size,fun i hi=>by rw [zc hb _ _ h5,zc hb _ _ h5];exact h6 i hi⟩
theorem UI (s:St) (w:World):Calls Tryz.prog 47 #[.agg (zJ s)] w fun e w'=>∃v,e=.returned v/\za0 w' v (za s)/\Below w.heap.size w w':=by
 obtain⟨o,xa,xb,ya,yb,ar,sp,pl,nn⟩:=s
 by_cases h4:o=4
 ·subst h4
  refine (zo3 xa xb ya yb ar sp pl nn w).mono fun e w' ⟨h1,h2⟩=>⟨_,h1,?_,by rw [h2];exact below_alloc2 _ _ _⟩
  have e:za ⟨4,xa,xb,ya,yb,ar,sp,pl,nn⟩=[(xa,xb)]:=rfl
  rw [e,h2]
  refine⟨_,_,rfl,Nat.le_refl _,by unfold maxLen;omega,fun _=>⟨w.heap.size+1,0,rfl,by simp,fun i hi=>?_⟩⟩
  have hi0:i=0:=by have:i<1:=hi;omega
  subst hi0
  exact⟨by go_simp;rfl,by go_simp;rfl⟩
 ·by_cases h10:10<o
  ·refine (zi2 o xa xb ya yb ar sp pl nn w (by simpa using h4) h10).mono fun e w' ⟨h1,h2⟩=>⟨_,h1,?_,by rw [h2];exact below_alloc2 _ _ _⟩
   have e:za ⟨o,xa,xb,ya,yb,ar,sp,pl,nn⟩=[(xa,xb),(ya,yb)]:=by unfold za;rw [if_neg h4,if_pos h10]
   rw [e,h2]
   refine⟨_,_,rfl,Nat.le_refl _,by unfold maxLen;omega,fun _=>⟨w.heap.size+1,0,rfl,by simp,fun i hi=>?_⟩⟩
   have hi0:i=0\/i=1:=by have:i<2:=hi;omega
   rcases hi0 with rfl | rfl
   ·exact⟨by go_simp;rfl,by go_simp;rfl⟩
   ·exact⟨by go_simp;rfl,by go_simp;rfl⟩
  ·refine (Y0 o xa xb ya yb ar sp pl nn w (by simpa using h4) h10).mono fun e w' ⟨h1,h2⟩=>⟨_,h1,?_,by rw [h2];exact below_alloc1 _ _⟩
   have e:za ⟨o,xa,xb,ya,yb,ar,sp,pl,nn⟩=[]:=by unfold za;rw [if_neg h4,if_neg h10]
   rw [e]
   exact⟨none,0,rfl,Nat.le_refl _,Nat.zero_le _,fun hp=>absurd hp (Nat.lt_irrefl _)⟩
theorem V2 (x:Int) (h0:-9223372036854775808<=x) (h1:x<=9223372036854775807):IntKind.i64.wrap x=x:=by rw [IntKind.wrap_i64];omega
set_option maxHeartbeats 400000 in
theorem zfr (o1 xa1 xb1 ya1 yb1 ar1 sp1 pl1 nn1 o2 xa2 xb2 ya2 yb2 ar2 sp2 pl2 nn2:Int) (back SZ:Nat) (w:World) (hS0:0<SZ) (hS:SZ<=32) (hb:back<=32) (h1:-64<=sp1) (h2:sp1<=64) (h3:-64<=pl1) (h4:pl1<=64) (h5:-64<=sp2) (h6:sp2<=64) (h7:-64<=pl2) (h8:pl2<=64) :
  Calls Tryz.prog 142 #[.agg #[iV o1,iV xa1,iV xb1,iV ya1,iV yb1,iV ar1,iV sp1,iV pl1,iV nn1],.agg #[iV o2,iV xa2,iV xb2,iV ya2,iV yb2,iV ar2,iV sp2,iV pl2,iV nn2],iV back,iV SZ] w fun e w'=>e=.returned (.bool (zE ⟨o1,xa1,xb1,ya1,yb1,ar1,sp1,pl1,nn1⟩ ⟨o2,xa2,xb2,ya2,yb2,ar2,sp2,pl2,nn2⟩ back SZ))/\Below w.heap.size w w':=by
 go_enter Tryz.func142,Tryz.ntmps142
 go_wp2_with fail
 go_loopw [9] (fun i wr=>∃k:Nat,k<=SZ/\i=iV k/\exN (Uo ⟨o1,xa1,xb1,ya1,yb1,ar1,sp1,pl1,nn1⟩ ⟨o2,xa2,xb2,ya2,yb2,ar2,sp2,pl2,nn2⟩ back SZ) k=false/\wr=(w.alloc (.cells #[iV o1,iV xa1,iV xb1,iV ya1,iV yb1,iV ar1,iV sp1,iV pl1,iV nn1] 41)).alloc (.cells #[iV o2,iV xa2,iV xb2,iV ya2,iV yb2,iV ar2,iV sp2,iV pl2,iV nn2] 41)) (fun i _=>SZ - (intOf i).toNat)
 case atStart=>exact⟨0,Nat.zero_le _,rfl,rfl,rfl⟩
 case round =>
  obtain⟨k,hk,rfl,hex,rfl⟩:=hrel
  have HEX:=z5 hex
  clear hex
  by_cases hlt:k<SZ
  ·have hki:(k:Int)<(SZ:Int):=by omega
   have r1:=Xs sp1 k (by omega) (by omega) h1 h2
   have r2:=Xs sp2 ((k:Int)+back) (by omega) (by omega) h5 h6
   have e1:IntKind.i64.wrap (sp1*(k:Int))=sp1*k:=V2 _ (by omega) (by omega)
   have e2:IntKind.i64.wrap (sp1*(k:Int)+pl1)=sp1*k+pl1:=V2 _ (by omega) (by omega)
   have e3:IntKind.i64.wrap (sp2*((k:Int)+back))=sp2*((k:Int)+back):=V2 _ (by omega) (by omega)
   have e4:IntKind.i64.wrap (sp2*((k:Int)+back)+pl2)=sp2*((k:Int)+back)+pl2:=V2 _ (by omega) (by omega)
   have HM:Hid (Uo ⟨o1,xa1,xb1,ya1,yb1,ar1,sp1,pl1,nn1⟩ ⟨o2,xa2,xb2,ya2,yb2,ar2,sp2,pl2,nn2⟩ back SZ k=decide ((sp1*k+pl1) % SZ=(sp2*((k:Int)+back)+pl2) % SZ)):=rfl
   have HC1:=z5 (fun W=>YM (sp1*k+pl1) SZ W (by omega) (by omega) (by omega) (by omega))
   have HC2:=z5 (fun W=>YM (sp2*((k:Int)+back)+pl2) SZ W (by omega) (by omega) (by omega) (by omega))
   generalize hX:(sp1*(k:Int)+pl1) % (SZ:Int)=X at *
   generalize hY:(sp2*((k:Int)+back)+pl2) % (SZ:Int)=Y at *
   clear r1 r2 hX hY
   by_cases hXY:X=Y
   ·have HT:Hid (zE ⟨o1,xa1,xb1,ya1,yb1,ar1,sp1,pl1,nn1⟩ ⟨o2,xa2,xb2,ya2,yb2,ar2,sp2,pl2,nn2⟩ back SZ=true):=yR hlt (by rw [HM.out];exact decide_eq_true hXY)
    have hbb:(X == Y)=true:=by simpa using hXY
    go_wp2_with fail
    refine (HC1.out _).mono ?_
    rintro e x2 ⟨rfl,rfl⟩
    go_wp2_with fail
    refine (HC2.out _).mono ?_
    rintro e x2 ⟨rfl,rfl⟩
    go_wp2_with fail
    go_ret
    exact⟨z7 HT.out.symm,below_alloc2 _ _ _⟩
   ·have HF:=z5 (zcz HEX.out (by rw [HM.out];exact decide_eq_false hXY))
    have hbb:(X == Y)=false:=by simpa using hXY
    go_wp2_with fail
    refine (HC1.out _).mono ?_
    rintro e x2 ⟨rfl,rfl⟩
    go_wp2_with fail
    refine (HC2.out _).mono ?_
    rintro e x2 ⟨rfl,rfl⟩
    go_wp2_with fail
    go_roundw
    case rel=>exact⟨k+1,by omega,by go_num,HF.out,trivial⟩
    case measure=>simp [intOf];omega
  ·have e:k=SZ:=by omega
   have HT:Hid (zE ⟨o1,xa1,xb1,ya1,yb1,ar1,sp1,pl1,nn1⟩ ⟨o2,xa2,xb2,ya2,yb2,ar2,sp2,pl2,nn2⟩ back SZ=false):=by show zE _ _ _ _=false;rw [<-e];unfold zE;rw [e];rw [e] at HEX;exact HEX.out
   have hki:¬(k:Int)<(SZ:Int):=by omega
   clear e
   go_wp2_with fail
   go_ret
   exact⟨z7 HT.out.symm,below_alloc2 _ _ _⟩
theorem zao (a b:St) (back SZ:Nat) (w:World) (hS0:0<SZ) (hS:SZ<=32) (hb:back<=32) (h1:-64<=a.sp) (h2:a.sp<=64) (h3:-64<=a.pl) (h4:a.pl<=64) (h5:-64<=b.sp) (h6:b.sp<=64) (h7:-64<=b.pl) (h8:b.pl<=64) :
  Calls Tryz.prog 142 #[.agg (zJ a),.agg (zJ b),iV back,iV SZ] w fun e w'=>e=.returned (.bool (zE a b back SZ))/\Below w.heap.size w w' :=
 zfr a.o a.xa a.xb a.ya a.yb a.ar a.sp a.pl a.nn b.o b.xa b.xb b.ya b.yb b.ar b.sp b.pl b.nn back SZ w hS0 hS hb h1 h2 h3 h4 h5 h6 h7 h8
theorem xo (o:Int):(o=3/\(o == 3)=true/\(o == 4)=false)\/(o=4/\(o == 3)=false/\(o == 4)=true)\/(¬o=3/\¬o=4/\(o == 3)=false/\(o == 4)=false):=by
 by_cases h3:o=3
 ·subst h3;exact .inl ⟨rfl,rfl,rfl⟩
 ·by_cases h4:o=4
  ·subst h4;exact .inr (.inl ⟨rfl,rfl,rfl⟩)
  ·exact .inr (.inr ⟨h3,h4,by simpa using h3,by simpa using h4⟩)
set_option maxHeartbeats 1000000 in
theorem zdh (o1 xa1 xb1 ya1 yb1 ar1 sp1 pl1 nn1 o2 xa2 xb2 ya2 yb2 ar2 sp2 pl2 nn2:Int) (w:World) :
  Calls Tryz.prog 141 #[.agg #[iV o1,iV xa1,iV xb1,iV ya1,iV yb1,iV ar1,iV sp1,iV pl1,iV nn1],.agg #[iV o2,iV xa2,iV xb2,iV ya2,iV yb2,iV ar2,iV sp2,iV pl2,iV nn2]] w fun e w'=>e=.returned (.bool (zU ⟨o1,xa1,xb1,ya1,yb1,ar1,sp1,pl1,nn1⟩ ⟨o2,xa2,xb2,ya2,yb2,ar2,sp2,pl2,nn2⟩))/\Below w.heap.size w w':=by
 have hr:(ar1 == ar2)=decide (ar1=ar2):=by by_cases h:ar1=ar2 <;> simp [h]
 by_cases hra:ar1=ar2
 ·have hrb:(ar1 == ar2)=true:=by rw [hr];exact decide_eq_true hra
  clear hr
  rcases xo o1 with ⟨rfl,a3,a4⟩ | ⟨rfl,a3,a4⟩ | ⟨ap,aq,a3,a4⟩
  ·rcases xo o2 with ⟨rfl,b3,b4⟩ | ⟨rfl,b3,b4⟩ | ⟨bp,bq,b3,b4⟩
   ·have HX:Hid (zU ⟨3,xa1,xb1,ya1,yb1,ar1,sp1,pl1,nn1⟩ ⟨3,xa2,xb2,ya2,yb2,ar2,sp2,pl2,nn2⟩=false):=by show zU _ _=_;simp [zU,yA, *]
    go_enter Tryz.func141,Tryz.ntmps141
    go_wp2_with fail
    go_ret
    exact⟨z7 HX.out.symm,below_alloc2 _ _ _⟩
   ·have HX:Hid (zU ⟨3,xa1,xb1,ya1,yb1,ar1,sp1,pl1,nn1⟩ ⟨4,xa2,xb2,ya2,yb2,ar2,sp2,pl2,nn2⟩=true):=by show zU _ _=_;simp [zU,yA, *]
    go_enter Tryz.func141,Tryz.ntmps141
    go_wp2_with fail
    go_ret
    exact⟨z7 HX.out.symm,below_alloc2 _ _ _⟩
   ·have HX:Hid (zU ⟨3,xa1,xb1,ya1,yb1,ar1,sp1,pl1,nn1⟩ ⟨o2,xa2,xb2,ya2,yb2,ar2,sp2,pl2,nn2⟩=false):=by show zU _ _=_;simp [zU,yA, *]
    go_enter Tryz.func141,Tryz.ntmps141
    go_wp2_with fail
    go_ret
    exact⟨z7 HX.out.symm,below_alloc2 _ _ _⟩
  ·rcases xo o2 with ⟨rfl,b3,b4⟩ | ⟨rfl,b3,b4⟩ | ⟨bp,bq,b3,b4⟩
   ·have HX:Hid (zU ⟨4,xa1,xb1,ya1,yb1,ar1,sp1,pl1,nn1⟩ ⟨3,xa2,xb2,ya2,yb2,ar2,sp2,pl2,nn2⟩=true):=by show zU _ _=_;simp [zU,yA, *]
    go_enter Tryz.func141,Tryz.ntmps141
    go_wp2_with fail
    go_ret
    exact⟨z7 HX.out.symm,below_alloc2 _ _ _⟩
   ·have HX:Hid (zU ⟨4,xa1,xb1,ya1,yb1,ar1,sp1,pl1,nn1⟩ ⟨4,xa2,xb2,ya2,yb2,ar2,sp2,pl2,nn2⟩=true):=by show zU _ _=_;simp [zU,yA, *]
    go_enter Tryz.func141,Tryz.ntmps141
    go_wp2_with fail
    go_ret
    exact⟨z7 HX.out.symm,below_alloc2 _ _ _⟩
   ·have HX:Hid (zU ⟨4,xa1,xb1,ya1,yb1,ar1,sp1,pl1,nn1⟩ ⟨o2,xa2,xb2,ya2,yb2,ar2,sp2,pl2,nn2⟩=false):=by show zU _ _=_;simp [zU,yA, *]
    go_enter Tryz.func141,Tryz.ntmps141
    go_wp2_with fail
    go_ret
    exact⟨z7 HX.out.symm,below_alloc2 _ _ _⟩
  ·rcases xo o2 with ⟨rfl,b3,b4⟩ | ⟨rfl,b3,b4⟩ | ⟨bp,bq,b3,b4⟩
   ·have HX:Hid (zU ⟨o1,xa1,xb1,ya1,yb1,ar1,sp1,pl1,nn1⟩ ⟨3,xa2,xb2,ya2,yb2,ar2,sp2,pl2,nn2⟩=false):=by show zU _ _=_;simp [zU,yA, *]
    go_enter Tryz.func141,Tryz.ntmps141
    go_wp2_with fail
    go_ret
    exact⟨z7 HX.out.symm,below_alloc2 _ _ _⟩
   ·have HX:Hid (zU ⟨o1,xa1,xb1,ya1,yb1,ar1,sp1,pl1,nn1⟩ ⟨4,xa2,xb2,ya2,yb2,ar2,sp2,pl2,nn2⟩=false):=by show zU _ _=_;simp [zU,yA, *]
    go_enter Tryz.func141,Tryz.ntmps141
    go_wp2_with fail
    go_ret
    exact⟨z7 HX.out.symm,below_alloc2 _ _ _⟩
   ·have HX:Hid (zU ⟨o1,xa1,xb1,ya1,yb1,ar1,sp1,pl1,nn1⟩ ⟨o2,xa2,xb2,ya2,yb2,ar2,sp2,pl2,nn2⟩=false):=by show zU _ _=_;simp [zU,yA, *]
    go_enter Tryz.func141,Tryz.ntmps141
    go_wp2_with fail
    go_ret
    exact⟨z7 HX.out.symm,below_alloc2 _ _ _⟩
 ·have hrb:(ar1 == ar2)=false:=by rw [hr];exact decide_eq_false hra
  clear hr
  rcases xo o1 with ⟨rfl,a3,a4⟩ | ⟨rfl,a3,a4⟩ | ⟨ap,aq,a3,a4⟩
  ·rcases xo o2 with ⟨rfl,b3,b4⟩ | ⟨rfl,b3,b4⟩ | ⟨bp,bq,b3,b4⟩
   ·have HX:Hid (zU ⟨3,xa1,xb1,ya1,yb1,ar1,sp1,pl1,nn1⟩ ⟨3,xa2,xb2,ya2,yb2,ar2,sp2,pl2,nn2⟩=false):=by show zU _ _=_;simp [zU,yA, *]
    go_enter Tryz.func141,Tryz.ntmps141
    go_wp2_with fail
    go_ret
    exact⟨z7 HX.out.symm,below_alloc2 _ _ _⟩
   ·have HX:Hid (zU ⟨3,xa1,xb1,ya1,yb1,ar1,sp1,pl1,nn1⟩ ⟨4,xa2,xb2,ya2,yb2,ar2,sp2,pl2,nn2⟩=false):=by show zU _ _=_;simp [zU,yA, *]
    go_enter Tryz.func141,Tryz.ntmps141
    go_wp2_with fail
    go_ret
    exact⟨z7 HX.out.symm,below_alloc2 _ _ _⟩
   ·have HX:Hid (zU ⟨3,xa1,xb1,ya1,yb1,ar1,sp1,pl1,nn1⟩ ⟨o2,xa2,xb2,ya2,yb2,ar2,sp2,pl2,nn2⟩=false):=by show zU _ _=_;simp [zU,yA, *]
    go_enter Tryz.func141,Tryz.ntmps141
    go_wp2_with fail
    go_ret
    exact⟨z7 HX.out.symm,below_alloc2 _ _ _⟩
  ·rcases xo o2 with ⟨rfl,b3,b4⟩ | ⟨rfl,b3,b4⟩ | ⟨bp,bq,b3,b4⟩
   ·have HX:Hid (zU ⟨4,xa1,xb1,ya1,yb1,ar1,sp1,pl1,nn1⟩ ⟨3,xa2,xb2,ya2,yb2,ar2,sp2,pl2,nn2⟩=false):=by show zU _ _=_;simp [zU,yA, *]
    go_enter Tryz.func141,Tryz.ntmps141
    go_wp2_with fail
    go_ret
    exact⟨z7 HX.out.symm,below_alloc2 _ _ _⟩
   ·have HX:Hid (zU ⟨4,xa1,xb1,ya1,yb1,ar1,sp1,pl1,nn1⟩ ⟨4,xa2,xb2,ya2,yb2,ar2,sp2,pl2,nn2⟩=false):=by show zU _ _=_;simp [zU,yA, *]
    go_enter Tryz.func141,Tryz.ntmps141
    go_wp2_with fail
    go_ret
    exact⟨z7 HX.out.symm,below_alloc2 _ _ _⟩
   ·have HX:Hid (zU ⟨4,xa1,xb1,ya1,yb1,ar1,sp1,pl1,nn1⟩ ⟨o2,xa2,xb2,ya2,yb2,ar2,sp2,pl2,nn2⟩=false):=by show zU _ _=_;simp [zU,yA, *]
    go_enter Tryz.func141,Tryz.ntmps141
    go_wp2_with fail
    go_ret
    exact⟨z7 HX.out.symm,below_alloc2 _ _ _⟩
  ·rcases xo o2 with ⟨rfl,b3,b4⟩ | ⟨rfl,b3,b4⟩ | ⟨bp,bq,b3,b4⟩
   ·have HX:Hid (zU ⟨o1,xa1,xb1,ya1,yb1,ar1,sp1,pl1,nn1⟩ ⟨3,xa2,xb2,ya2,yb2,ar2,sp2,pl2,nn2⟩=false):=by show zU _ _=_;simp [zU,yA, *]
    go_enter Tryz.func141,Tryz.ntmps141
    go_wp2_with fail
    go_ret
    exact⟨z7 HX.out.symm,below_alloc2 _ _ _⟩
   ·have HX:Hid (zU ⟨o1,xa1,xb1,ya1,yb1,ar1,sp1,pl1,nn1⟩ ⟨4,xa2,xb2,ya2,yb2,ar2,sp2,pl2,nn2⟩=false):=by show zU _ _=_;simp [zU,yA, *]
    go_enter Tryz.func141,Tryz.ntmps141
    go_wp2_with fail
    go_ret
    exact⟨z7 HX.out.symm,below_alloc2 _ _ _⟩
   ·have HX:Hid (zU ⟨o1,xa1,xb1,ya1,yb1,ar1,sp1,pl1,nn1⟩ ⟨o2,xa2,xb2,ya2,yb2,ar2,sp2,pl2,nn2⟩=false):=by show zU _ _=_;simp [zU,yA, *]
    go_enter Tryz.func141,Tryz.ntmps141
    go_wp2_with fail
    go_ret
    exact⟨z7 HX.out.symm,below_alloc2 _ _ _⟩
theorem zfs (a b:St) (w:World):Calls Tryz.prog 141 #[.agg (zJ a),.agg (zJ b)] w fun e w'=>e=.returned (.bool (zU a b))/\Below w.heap.size w w' :=
 zdh a.o a.xa a.xb a.ya a.yb a.ar a.sp a.pl a.nn b.o b.xa b.xb b.ya b.yb b.ar b.sp b.pl b.nn w
def Tg.cells (t:Tg):Array Value:=#[iV t.u0,iV t.u1,iV t.u2,iV t.w0,iV t.w1,iV t.w2,iV t.r]
set_option maxHeartbeats 1000000 in
theorem Yn (p0 p1 p2 q0 q1 q2 r:Int) (w:World) :
  Calls Tryz.prog 57 #[.agg #[iV p0,iV p1,iV p2,iV q0,iV q1,iV q2,iV r]] w fun e w'=>e=.returned (.bool (zp ⟨p0,p1,p2,q0,q1,q2,r⟩))/\Below w.heap.size w w':=by
 go_enter Tryz.func57,Tryz.ntmps57
 go_wp2_with fail
 go_loopw [3] (fun i wr=>wr=w.alloc (.cells #[iV p0,iV p1,iV p2,iV q0,iV q1,iV q2,iV r] 28)/\(i=iV 0\/(i=iV 1/\yU p0 q0=true)\/(i=iV 2/\yU p0 q0=true/\yU p1 q1=true)\/(i=iV 3/\yU p0 q0=true/\yU p1 q1=true/\yU p2 q2=true))) (fun i _=>3 - (intOf i).toNat)
 case atStart=>exact⟨rfl,.inl rfl⟩
 case round =>
  obtain⟨rfl,hrel⟩:=hrel
  rcases hrel with rfl | ⟨rfl,k0⟩ | ⟨rfl,k0,k1⟩ | ⟨rfl,k0,k1,k2⟩
  ·by_cases ha:p0<1
   ·have HX:Hid (zp ⟨p0,p1,p2,q0,q1,q2,r⟩=false):=by show zp _=false;unfold zp;dsimp only;rw [ xL (u:=p0) (w:=q0) (by omega)];simp
    go_wp2_with fail
    go_ret
    exact⟨z7 HX.out.symm,below_alloc1 _ _⟩
   ·by_cases hb:4<p0
    ·have HX:Hid (zp ⟨p0,p1,p2,q0,q1,q2,r⟩=false):=by show zp _=false;unfold zp;dsimp only;rw [ xL (u:=p0) (w:=q0) (by omega)];simp
     go_wp2_with fail
     go_ret
     exact⟨z7 HX.out.symm,below_alloc1 _ _⟩
    ·by_cases hc:q0<1
     ·have HX:Hid (zp ⟨p0,p1,p2,q0,q1,q2,r⟩=false):=by show zp _=false;unfold zp;dsimp only;rw [ xL (u:=p0) (w:=q0) (by omega)];simp
      go_wp2_with fail
      go_ret
      exact⟨z7 HX.out.symm,below_alloc1 _ _⟩
     ·by_cases hd:6<q0
      ·have HX:Hid (zp ⟨p0,p1,p2,q0,q1,q2,r⟩=false):=by show zp _=false;unfold zp;dsimp only;rw [ xL (u:=p0) (w:=q0) (by omega)];simp
       go_wp2_with fail
       go_ret
       exact⟨z7 HX.out.symm,below_alloc1 _ _⟩
      ·have HY:Hid (yU p0 q0=true):=UE ha hb hc hd
       go_wp2_with fail
       go_roundw
       case rel=>exact⟨by simp,.inr (.inl ⟨rfl,HY.out⟩)⟩
       case measure=>simp [intOf]
  ·have H0:=z5 k0
   clear k0
   by_cases ha:p1<1
   ·have HX:Hid (zp ⟨p0,p1,p2,q0,q1,q2,r⟩=false):=by show zp _=false;unfold zp;dsimp only;rw [H0.out,xL (u:=p1) (w:=q1) (by omega)];simp
    go_wp2_with fail
    go_ret
    exact⟨z7 HX.out.symm,below_alloc1 _ _⟩
   ·by_cases hb:4<p1
    ·have HX:Hid (zp ⟨p0,p1,p2,q0,q1,q2,r⟩=false):=by show zp _=false;unfold zp;dsimp only;rw [H0.out,xL (u:=p1) (w:=q1) (by omega)];simp
     go_wp2_with fail
     go_ret
     exact⟨z7 HX.out.symm,below_alloc1 _ _⟩
    ·by_cases hc:q1<1
     ·have HX:Hid (zp ⟨p0,p1,p2,q0,q1,q2,r⟩=false):=by show zp _=false;unfold zp;dsimp only;rw [H0.out,xL (u:=p1) (w:=q1) (by omega)];simp
      go_wp2_with fail
      go_ret
      exact⟨z7 HX.out.symm,below_alloc1 _ _⟩
     ·by_cases hd:6<q1
      ·have HX:Hid (zp ⟨p0,p1,p2,q0,q1,q2,r⟩=false):=by show zp _=false;unfold zp;dsimp only;rw [H0.out,xL (u:=p1) (w:=q1) (by omega)];simp
       go_wp2_with fail
       go_ret
       exact⟨z7 HX.out.symm,below_alloc1 _ _⟩
      ·have HY:Hid (yU p1 q1=true):=UE ha hb hc hd
       go_wp2_with fail
       go_roundw
       case rel=>exact⟨by simp,.inr (.inr (.inl ⟨rfl,H0.out,HY.out⟩))⟩
       case measure=>simp [intOf]
  ·have H0:=z5 k0
   have H1:=z5 k1
   clear k0 k1
   by_cases ha:p2<1
   ·have HX:Hid (zp ⟨p0,p1,p2,q0,q1,q2,r⟩=false):=by show zp _=false;unfold zp;dsimp only;rw [H0.out,H1.out,xL (u:=p2) (w:=q2) (by omega)];simp
    go_wp2_with fail
    go_ret
    exact⟨z7 HX.out.symm,below_alloc1 _ _⟩
   ·by_cases hb:4<p2
    ·have HX:Hid (zp ⟨p0,p1,p2,q0,q1,q2,r⟩=false):=by show zp _=false;unfold zp;dsimp only;rw [H0.out,H1.out,xL (u:=p2) (w:=q2) (by omega)];simp
     go_wp2_with fail
     go_ret
     exact⟨z7 HX.out.symm,below_alloc1 _ _⟩
    ·by_cases hc:q2<1
     ·have HX:Hid (zp ⟨p0,p1,p2,q0,q1,q2,r⟩=false):=by show zp _=false;unfold zp;dsimp only;rw [H0.out,H1.out,xL (u:=p2) (w:=q2) (by omega)];simp
      go_wp2_with fail
      go_ret
      exact⟨z7 HX.out.symm,below_alloc1 _ _⟩
     ·by_cases hd:6<q2
      ·have HX:Hid (zp ⟨p0,p1,p2,q0,q1,q2,r⟩=false):=by show zp _=false;unfold zp;dsimp only;rw [H0.out,H1.out,xL (u:=p2) (w:=q2) (by omega)];simp
       go_wp2_with fail
       go_ret
       exact⟨z7 HX.out.symm,below_alloc1 _ _⟩
      ·have HY:Hid (yU p2 q2=true):=UE ha hb hc hd
       go_wp2_with fail
       go_roundw
       case rel=>exact⟨by simp,.inr (.inr (.inr ⟨rfl,H0.out,H1.out,HY.out⟩))⟩
       case measure=>simp [intOf]
  ·have HX:Hid (zp ⟨p0,p1,p2,q0,q1,q2,r⟩=inR r 1 128):=by show zp _=_;unfold zp;dsimp only;rw [k0,k1,k2];simp
   clear k0 k1 k2
   by_cases h0:0<r
   ·have HY:Hid (inR r 1 128=decide (r<=128)):=by show _=_;unfold inR;rw [decide_eq_decide];omega
    go_wp2_with fail
    go_ret
    exact⟨z7 (by rw [HX.out,HY.out]),below_alloc1 _ _⟩
   ·have HY:Hid (inR r 1 128=false):=Z3 (by omega)
    go_wp2_with fail
    go_ret
    exact⟨z7 (by rw [HX.out,HY.out]),below_alloc1 _ _⟩
set_option maxHeartbeats 400000 in
theorem YU (p0 p1 p2 q0 q1 q2 r op:Int) (w:World) :
  Calls Tryz.prog 33 #[.agg #[iV p0,iV p1,iV p2,iV q0,iV q1,iV q2,iV r],iV op] w fun e w'=>e=.returned (iV (zr ⟨p0,p1,p2,q0,q1,q2,r⟩ op))/\Below w.heap.size w w':=by
 have hmay:=Yn p0 p1 p2 q0 q1 q2 r (w.alloc (.cells #[iV p0,iV p1,iV p2,iV q0,iV q1,iV q2,iV r] 28))
 cases hm:zp ⟨p0,p1,p2,q0,q1,q2,r⟩ with
 | false =>
   have HX:Hid (zr ⟨p0,p1,p2,q0,q1,q2,r⟩ op=0):=by show zr _ _=0;unfold zr;rw [hm];rfl
   rw [hm] at hmay
   have HM:=z5 hmay
   clear hmay hm
   go_enter Tryz.func33,Tryz.ntmps33
   go_wp2_with fail
   refine HM.out.mono ?_
   rintro e x1 ⟨rfl,hb⟩
   have HB:=z5 ((below_alloc1 w _).trans (hb.mono (by simp)))
   clear hb HM
   go_wp2_with fail
   go_ret
   exact⟨yk HX.out.symm,HB.out⟩
 | true =>
   rw [hm] at hmay
   have HM:=z5 hmay
   have HX:Hid (zr ⟨p0,p1,p2,q0,q1,q2,r⟩ op=xA ⟨p0,p1,p2,q0,q1,q2,r⟩ (zC op)):=by show zr _ _=_;unfold zr;rw [if_pos hm]
   have hcl:=fun W=>Zn op W
   clear hmay hm
   rcases Y2 op with hc | hc | hc
   ·rw [hc] at hcl
    have HC:=z5 hcl
    have HY:Hid (zr ⟨p0,p1,p2,q0,q1,q2,r⟩ op=q0):=by show _=_;rw [HX.out,hc];rfl
    clear hcl hc HX
    go_enter Tryz.func33,Tryz.ntmps33
    go_wp2_with fail
    refine HM.out.mono ?_
    rintro e x1 ⟨rfl,hb⟩
    have hx:x1.cell? ⟨w.heap.size,3,none⟩=some (iV q0):=by rw [zc hb _ _ (by simp)];go_simp
    have HB:=z5 ((below_alloc1 w _).trans (hb.mono (by simp)))
    clear hb HM
    go_wp2_with fail
    refine (HC.out _).mono ?_
    rintro e x2 ⟨rfl,rfl⟩
    go_wp2_with fail
    go_ret
    exact⟨yk HY.out.symm,HB.out⟩
   ·rw [hc] at hcl
    have HC:=z5 hcl
    have HY:Hid (zr ⟨p0,p1,p2,q0,q1,q2,r⟩ op=q1):=by show _=_;rw [HX.out,hc];rfl
    clear hcl hc HX
    go_enter Tryz.func33,Tryz.ntmps33
    go_wp2_with fail
    refine HM.out.mono ?_
    rintro e x1 ⟨rfl,hb⟩
    have hx:x1.cell? ⟨w.heap.size,4,none⟩=some (iV q1):=by rw [zc hb _ _ (by simp)];go_simp
    have HB:=z5 ((below_alloc1 w _).trans (hb.mono (by simp)))
    clear hb HM
    go_wp2_with fail
    refine (HC.out _).mono ?_
    rintro e x2 ⟨rfl,rfl⟩
    go_wp2_with fail
    go_ret
    exact⟨yk HY.out.symm,HB.out⟩
   ·rw [hc] at hcl
    have HC:=z5 hcl
    have HY:Hid (zr ⟨p0,p1,p2,q0,q1,q2,r⟩ op=q2):=by show _=_;rw [HX.out,hc];rfl
    clear hcl hc HX
    go_enter Tryz.func33,Tryz.ntmps33
    go_wp2_with fail
    refine HM.out.mono ?_
    rintro e x1 ⟨rfl,hb⟩
    have hx:x1.cell? ⟨w.heap.size,5,none⟩=some (iV q2):=by rw [zc hb _ _ (by simp)];go_simp
    have HB:=z5 ((below_alloc1 w _).trans (hb.mono (by simp)))
    clear hb HM
    go_wp2_with fail
    refine (HC.out _).mono ?_
    rintro e x2 ⟨rfl,rfl⟩
    go_wp2_with fail
    go_ret
    exact⟨yk HY.out.symm,HB.out⟩
end Go.Proofs.YtjoapiafpahihabGreat
