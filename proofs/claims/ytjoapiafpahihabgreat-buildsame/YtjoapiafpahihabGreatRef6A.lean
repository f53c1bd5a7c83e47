import Derived.Test.YtjoapiafpahihabGreatMaths
import Derived.Test.YtjoapiafpahihabGreatRef2Stmt
import Derived.Test.YtjoapiafpahihabGreatLoopStmt
import Derived.Test.YtjoapiafpahihabGreatNums
namespace Go.Proofs.YtjoapiafpahihabGreat
open Go.RowKit Go.Joins
set_option linter.unusedVariables false
def za0 (w:World) (v:Value) (l:List (Int × Int)):Prop :=
 ∃ a cap,v=.slice a l.length cap/\l.length<=cap/\cap<=maxLen /\
   (0<l.length->∃blk off,a=some ⟨blk,off,none⟩/\blk<w.heap.size/\∀i,i<l.length->w.cell? ⟨blk,off+i*2,none⟩=some (iV (zi l i).1)/\w.cell? ⟨blk,off+i*2+1,none⟩=some (iV (zi l i).2))
theorem za0.below {w w':World} {v:Value} {l:List (Int × Int)} (h:za0 w v l) (hb:Below w.heap.size w w'):za0 w' v l:=by
 obtain⟨a,cap,e,h1,h2,h4⟩:=h
 refine⟨a,cap,e,h1,h2,fun hp=>?_⟩
 obtain⟨b,off,e2,h5,h6⟩:=h4 hp
 exact⟨b,off,e2,Nat.lt_of_lt_of_le h5 hb.size,fun i hi=>by rw [zc hb _ _ h5,zc hb _ _ h5];exact h6 i hi⟩
theorem UI (s:St) (w:World):Calls Tryz.prog 47 #[.agg (zJ s)] w fun e w'=>∃v,e=.returned v/\za0 w' v (yr s)/\Below w.heap.size w w':=by
 obtain⟨o,xa,xb,ya,yb,ar,sp,pl,nn⟩:=s
 by_cases h4:o=4
 ·subst h4
  refine (zo3 xa xb ya yb ar sp pl nn w).mono fun e w' ⟨h1,h2⟩=>⟨_,h1,?_,by rw [h2];exact below_alloc2 _ _ _⟩
  have e:yr ⟨4,xa,xb,ya,yb,ar,sp,pl,nn⟩=[(xa,xb)]:=rfl
  rw [e,h2]
  refine⟨_,_,rfl,Nat.le_refl _,by unfold maxLen;omega,fun _=>⟨w.heap.size+1,0,rfl,by simp,fun i hi=>?_⟩⟩
  have hi0:i=0:=by have:i<1:=hi;omega
  subst hi0
  exact⟨by go_simp;rfl,by go_simp;rfl⟩
 ·by_cases h10:10<o
  ·refine (zi2 o xa xb ya yb ar sp pl nn w (by simpa using h4) h10).mono fun e w' ⟨h1,h2⟩=>⟨_,h1,?_,by rw [h2];exact below_alloc2 _ _ _⟩
   have e:yr ⟨o,xa,xb,ya,yb,ar,sp,pl,nn⟩=[(xa,xb),(ya,yb)]:=by unfold yr;rw [if_neg h4,if_pos h10]
   rw [e,h2]
   refine⟨_,_,rfl,Nat.le_refl _,by unfold maxLen;omega,fun _=>⟨w.heap.size+1,0,rfl,by simp,fun i hi=>?_⟩⟩
   have hi0:i=0\/i=1:=by have:i<2:=hi;omega
   rcases hi0 with rfl | rfl
   ·exact⟨by go_simp;rfl,by go_simp;rfl⟩
   ·exact⟨by go_simp;rfl,by go_simp;rfl⟩
  ·refine (Y0 o xa xb ya yb ar sp pl nn w (by simpa using h4) h10).mono fun e w' ⟨h1,h2⟩=>⟨_,h1,?_,by rw [h2];exact below_alloc1 _ _⟩
   have e:yr ⟨o,xa,xb,ya,yb,ar,sp,pl,nn⟩=[]:=by unfold yr;rw [if_neg h4,if_neg h10]
   rw [e]
   exact⟨none,0,rfl,Nat.le_refl _,Nat.zero_le _,fun hp=>absurd hp (Nat.lt_irrefl _)⟩
theorem V2 (x:Int) (h0:-9223372036854775808<=x) (h1:x<=9223372036854775807):IntKind.i64.wrap x=x:=by rw [IntKind.wrap_i64];omega
theorem xo (o:Int):(o=3/\(o == 3)=true/\(o == 4)=false)\/(o=4/\(o == 3)=false/\(o == 4)=true)\/(¬o=3/\¬o=4/\(o == 3)=false/\(o == 4)=false):=by
 by_cases h3:o=3
 ·subst h3;exact .inl ⟨rfl,rfl,rfl⟩
 ·by_cases h4:o=4
  ·subst h4;exact .inr (.inl ⟨rfl,rfl,rfl⟩)
  ·exact .inr (.inr ⟨h3,h4,by simpa using h3,by simpa using h4⟩)
def Tg.cells (t:Tg):Array Value:=#[iV t.u0,iV t.u1,iV t.u2,iV t.w0,iV t.w1,iV t.w2,iV t.r]
set_option maxHeartbeats 1000000 in
theorem Yn (p0 p1 p2 q0 q1 q2 r:Int) (w:World) :
  Calls Tryz.prog 57 #[.agg #[iV p0,iV p1,iV p2,iV q0,iV q1,iV q2,iV r]] w fun e w'=>e=.returned (.bool (zp ⟨p0,p1,p2,q0,q1,q2,r⟩))/\Below w.heap.size w w':=by
 go_enter Tryz.func57,Tryz.ntmps57
 go_wp2_with fail
 go_loopw [3] (fun i wr=>wr=w.alloc (.cells #[iV p0,iV p1,iV p2,iV q0,iV q1,iV q2,iV r] 28)/\(i=iV 0\/(i=iV 1/\yU p0 q0=true)\/(i=iV 2/\yU p0 q0=true/\yU p1 q1=true)\/(i=iV 3/\yU p0 q0=true/\yU p1 q1=true/\yU p2 q2=true))) (fun i _=>3 - (intOf i).toNat)
 case atStart=>exact⟨rfl,.inl rfl⟩
 case round =>
  obtain⟨rfl,hrel⟩:=hrel
  rcases hrel with rfl | ⟨rfl,k0⟩ | ⟨rfl,k0,k1⟩ | ⟨rfl,k0,k1,k2⟩
  ·by_cases ha:p0<1
   ·have HX:Hid (zp ⟨p0,p1,p2,q0,q1,q2,r⟩=false):=by show zp _=false;unfold zp;dsimp only;rw [ xL (u:=p0) (w:=q0) (by omega)];simp
    go_wp2_with fail
    go_ret
    exact⟨z7 HX.out.symm,below_alloc1 _ _⟩
   ·by_cases hb:4<p0
    ·have HX:Hid (zp ⟨p0,p1,p2,q0,q1,q2,r⟩=false):=by show zp _=false;unfold zp;dsimp only;rw [ xL (u:=p0) (w:=q0) (by omega)];simp
     go_wp2_with fail
     go_ret
     exact⟨z7 HX.out.symm,below_alloc1 _ _⟩
    ·by_cases hc:q0<1
     ·have HX:Hid (zp ⟨p0,p1,p2,q0,q1,q2,r⟩=false):=by show zp _=false;unfold zp;dsimp only;rw [ xL (u:=p0) (w:=q0) (by omega)];simp
      go_wp2_with fail
      go_ret
      exact⟨z7 HX.out.symm,below_alloc1 _ _⟩
     ·by_cases hd:6<q0
      ·have HX:Hid (zp ⟨p0,p1,p2,q0,q1,q2,r⟩=false):=by show zp _=false;unfold zp;dsimp only;rw [ xL (u:=p0) (w:=q0) (by omega)];simp
       go_wp2_with fail
       go_ret
       exact⟨z7 HX.out.symm,below_alloc1 _ _⟩
      ·have HY:Hid (yU p0 q0=true):=UE ha hb hc hd
       go_wp2_with fail
       go_roundw
       case rel=>exact⟨by simp,.inr (.inl ⟨rfl,HY.out⟩)⟩
       case measure=>simp [intOf]
  ·have H0:=z5 k0
   clear k0
   by_cases ha:p1<1
   ·have HX:Hid (zp ⟨p0,p1,p2,q0,q1,q2,r⟩=false):=by show zp _=false;unfold zp;dsimp only;rw [H0.out,xL (u:=p1) (w:=q1) (by omega)];simp
    go_wp2_with fail
    go_ret
    exact⟨z7 HX.out.symm,below_alloc1 _ _⟩
   ·by_cases hb:4<p1
    ·have HX:Hid (zp ⟨p0,p1,p2,q0,q1,q2,r⟩=false):=by show zp _=false;unfold zp;dsimp only;rw [H0.out,xL (u:=p1) (w:=q1) (by omega)];simp
     go_wp2_with fail
     go_ret
     exact⟨z7 HX.out.symm,below_alloc1 _ _⟩
    ·by_cases hc:q1<1
     ·have HX:Hid (zp ⟨p0,p1,p2,q0,q1,q2,r⟩=false):=by show zp _=false;unfold zp;dsimp only;rw [H0.out,xL (u:=p1) (w:=q1) (by omega)];simp
      go_wp2_with fail
      go_ret
      exact⟨z7 HX.out.symm,below_alloc1 _ _⟩
     ·by_cases hd:6<q1
      ·have HX:Hid (zp ⟨p0,p1,p2,q0,q1,q2,r⟩=false):=by show zp _=false;unfold zp;dsimp only;rw [H0.out,xL (u:=p1) (w:=q1) (by omega)];simp
       go_wp2_with fail
       go_ret
       exact⟨z7 HX.out.symm,below_alloc1 _ _⟩
      ·have HY:Hid (yU p1 q1=true):=UE ha hb hc hd
       go_wp2_with fail
       go_roundw
       case rel=>exact⟨by simp,.inr (.inr (.inl ⟨rfl,H0.out,HY.out⟩))⟩
       case measure=>simp [intOf]
  ·have H0:=z5 k0
   have H1:=z5 k1
   clear k0 k1
   by_cases ha:p2<1
   ·have HX:Hid (zp ⟨p0,p1,p2,q0,q1,q2,r⟩=false):=by show zp _=false;unfold zp;dsimp only;rw [H0.out,H1.out,xL (u:=p2) (w:=q2) (by omega)];simp
    go_wp2_with fail
    go_ret
    exact⟨z7 HX.out.symm,below_alloc1 _ _⟩
   ·by_cases hb:4<p2
    ·have HX:Hid (zp ⟨p0,p1,p2,q0,q1,q2,r⟩=false):=by show zp _=false;unfold zp;dsimp only;rw [H0.out,H1.out,xL (u:=p2) (w:=q2) (by omega)];simp
     go_wp2_with fail
     go_ret
     exact⟨z7 HX.out.symm,below_alloc1 _ _⟩
    ·by_cases hc:q2<1
     ·have HX:Hid (zp ⟨p0,p1,p2,q0,q1,q2,r⟩=false):=by show zp _=false;unfold zp;dsimp only;rw [H0.out,H1.out,xL (u:=p2) (w:=q2) (by omega)];simp
      go_wp2_with fail
      go_ret
      exact⟨z7 HX.out.symm,below_alloc1 _ _⟩
     ·by_cases hd:6<q2
      ·have HX:Hid (zp ⟨p0,p1,p2,q0,q1,q2,r⟩=false):=by show zp _=false;unfold zp;dsimp only;rw [H0.out,H1.out,xL (u:=p2) (w:=q2) (by omega)];simp
       go_wp2_with fail
       go_ret
       exact⟨z7 HX.out.symm,below_alloc1 _ _⟩
      ·have HY:Hid (yU p2 q2=true):=UE ha hb hc hd
       go_wp2_with fail
       go_roundw
       case rel=>exact⟨by simp,.inr (.inr (.inr ⟨rfl,H0.out,H1.out,HY.out⟩))⟩
       case measure=>simp [intOf]
  ·have HX:Hid (zp ⟨p0,p1,p2,q0,q1,q2,r⟩=inR r 1 128):=by show zp _=_;unfold zp;dsimp only;rw [k0,k1,k2];simp
   clear k0 k1 k2
   by_cases h0:0<r
   ·have HY:Hid (inR r 1 128=decide (r<=128)):=by show _=_;unfold inR;rw [decide_eq_decide];omega
    go_wp2_with fail
    go_ret
    exact⟨z7 (by rw [HX.out,HY.out]),below_alloc1 _ _⟩
   ·have HY:Hid (inR r 1 128=false):=Z3 (by omega)
    go_wp2_with fail
    go_ret
    exact⟨z7 (by rw [HX.out,HY.out]),below_alloc1 _ _⟩
set_option maxHeartbeats 400000 in
theorem YU (p0 p1 p2 q0 q1 q2 r op:Int) (w:World) :
  Calls Tryz.prog 33 #[.agg #[iV p0,iV p1,iV p2,iV q0,iV q1,iV q2,iV r],iV op] w fun e w'=>e=.returned (iV (zr ⟨p0,p1,p2,q0,q1,q2,r⟩ op))/\Below w.heap.size w w':=by
 have hmay:=Yn p0 p1 p2 q0 q1 q2 r (w.alloc (.cells #[iV p0,iV p1,iV p2,iV q0,iV q1,iV q2,iV r] 28))
 cases hm:zp ⟨p0,p1,p2,q0,q1,q2,r⟩ with
 | false =>
   have HX:Hid (zr ⟨p0,p1,p2,q0,q1,q2,r⟩ op=0):=by show zr _ _=0;unfold zr;rw [hm];rfl
   rw [hm] at hmay
   have HM:=z5 hmay
   clear hmay hm
   go_enter Tryz.func33,Tryz.ntmps33
   go_wp2_with fail
   refine HM.out.mono ?_
   rintro e x1 ⟨rfl,hb⟩
   have HB:=z5 ((below_alloc1 w _).trans (hb.mono (by simp)))
   clear hb HM
   go_wp2_with fail
   go_ret
   exact⟨yk HX.out.symm,HB.out⟩
 | true =>
   rw [hm] at hmay
   have HM:=z5 hmay
   have HX:Hid (zr ⟨p0,p1,p2,q0,q1,q2,r⟩ op=xA ⟨p0,p1,p2,q0,q1,q2,r⟩ (zC op)):=by show zr _ _=_;unfold zr;rw [if_pos hm]
   have hcl:=fun W=>Zn op W
   clear hmay hm
   rcases Y2 op with hc | hc | hc
   ·rw [hc] at hcl
    have HC:=z5 hcl
    have HY:Hid (zr ⟨p0,p1,p2,q0,q1,q2,r⟩ op=q0):=by show _=_;rw [HX.out,hc];rfl
    clear hcl hc HX
    go_enter Tryz.func33,Tryz.ntmps33
    go_wp2_with fail
    refine HM.out.mono ?_
    rintro e x1 ⟨rfl,hb⟩
    have hx:x1.cell? ⟨w.heap.size,3,none⟩=some (iV q0):=by rw [zc hb _ _ (by simp)];go_simp
    have HB:=z5 ((below_alloc1 w _).trans (hb.mono (by simp)))
    clear hb HM
    go_wp2_with fail
    refine (HC.out _).mono ?_
    rintro e x2 ⟨rfl,rfl⟩
    go_wp2_with fail
    go_ret
    exact⟨yk HY.out.symm,HB.out⟩
   ·rw [hc] at hcl
    have HC:=z5 hcl
    have HY:Hid (zr ⟨p0,p1,p2,q0,q1,q2,r⟩ op=q1):=by show _=_;rw [HX.out,hc];rfl
    clear hcl hc HX
    go_enter Tryz.func33,Tryz.ntmps33
    go_wp2_with fail
    refine HM.out.mono ?_
    rintro e x1 ⟨rfl,hb⟩
    have hx:x1.cell? ⟨w.heap.size,4,none⟩=some (iV q1):=by rw [zc hb _ _ (by simp)];go_simp
    have HB:=z5 ((below_alloc1 w _).trans (hb.mono (by simp)))
    clear hb HM
    go_wp2_with fail
    refine (HC.out _).mono ?_
    rintro e x2 ⟨rfl,rfl⟩
    go_wp2_with fail
    go_ret
    exact⟨yk HY.out.symm,HB.out⟩
   ·rw [hc] at hcl
    have HC:=z5 hcl
    have HY:Hid (zr ⟨p0,p1,p2,q0,q1,q2,r⟩ op=q2):=by show _=_;rw [HX.out,hc];rfl
    clear hcl hc HX
    go_enter Tryz.func33,Tryz.ntmps33
    go_wp2_with fail
    refine HM.out.mono ?_
    rintro e x1 ⟨rfl,hb⟩
    have hx:x1.cell? ⟨w.heap.size,5,none⟩=some (iV q2):=by rw [zc hb _ _ (by simp)];go_simp
    have HB:=z5 ((below_alloc1 w _).trans (hb.mono (by simp)))
    clear hb HM
    go_wp2_with fail
    refine (HC.out _).mono ?_
    rintro e x2 ⟨rfl,rfl⟩
    go_wp2_with fail
    go_ret
    exact⟨yk HY.out.symm,HB.out⟩
end Go.Proofs.YtjoapiafpahihabGreat
