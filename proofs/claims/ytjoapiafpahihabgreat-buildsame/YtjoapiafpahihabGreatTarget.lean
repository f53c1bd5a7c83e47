import Derived.Test.YtjoapiafpahihabGreatRef6A
namespace Go.Proofs.YtjoapiafpahihabGreat
open Go.RowKit Go.Joins
set_option linter.unusedVariables false
theorem xz (n hi:Int) (w:World) :
  Calls Tryz.prog 105 #[iV n,iV hi] w fun e w'=>e=.returned (.bool (inR n 1 hi))/\w'=w:=by
 by_cases h:1<=n/\n<=hi
 ·rw [zK h]
  obtain⟨h1,h2⟩:=h
  go_enter Tryz.func105,Tryz.ntmps105
  go_wp2
  go_ret
  exact⟨rfl,rfl⟩
 ·rw [Z3 h]
  by_cases h1:1<=n
  ·have h2:¬n<=hi:=fun h2=>h ⟨h1,h2⟩
   clear h
   go_enter Tryz.func105,Tryz.ntmps105
   go_wp2
   go_ret
   exact⟨rfl,rfl⟩
  ·clear h
   go_enter Tryz.func105,Tryz.ntmps105
   go_wp2
   go_ret
   exact⟨rfl,rfl⟩
def yJ (a b c hi:Int):Bool:=inR a 1 hi && inR b 1 hi && inR c 1 hi
set_option maxHeartbeats 400000 in
theorem Ze (a b c hi:Int) (w:World) :
  Calls Tryz.prog 104 #[.agg #[iV a,iV b,iV c],iV hi] w fun e w'=>e=.returned (.bool (yJ a b c hi))/\Below w.heap.size w w':=by
 have i0:∀w:World,(Instr.index 26 (.agg #[iV a,iV b,iV c]) (iV 0)).run Tryz.prog w=.ok (iV a) w:=fun _=>by kernel_rfl
 have i1:∀w:World,(Instr.index 26 (.agg #[iV a,iV b,iV c]) (iV 1)).run Tryz.prog w=.ok (iV b) w:=fun _=>by kernel_rfl
 have i2:∀w:World,(Instr.index 26 (.agg #[iV a,iV b,iV c]) (iV 2)).run Tryz.prog w=.ok (iV c) w:=fun _=>by kernel_rfl
 go_enter Tryz.func104,Tryz.ntmps104
 go_wp2_with fail
 go_loopw [8] (fun i wr=>wr=w.alloc (.cells #[iV a,iV b,iV c] 26)/\(i=iV 0\/(i=iV 1/\inR a 1 hi=true)\/(i=iV 2/\inR a 1 hi=true/\inR b 1 hi=true)\/(i=iV 3/\inR a 1 hi=true/\inR b 1 hi=true/\inR c 1 hi=true))) (fun i _=>3 - (intOf i).toNat)
 case atStart=>exact⟨rfl,.inl rfl⟩
 case round =>
  obtain⟨rfl,hrel⟩:=hrel
  rcases hrel with rfl | ⟨rfl,k0⟩ | ⟨rfl,k0,k1⟩ | ⟨rfl,k0,k1,k2⟩
  ·cases hx:inR a 1 hi with
   | false =>
     have HX:Hid (yJ a b c hi=false):=by show yJ _ _ _ _=false;unfold yJ;rw [hx];rfl
     have HC:=z5 (fun W=>hx ▸ xz a hi W)
     clear hx
     go_wp2_with fail
     refine (HC.out _).mono ?_
     rintro e x2 ⟨rfl,rfl⟩
     go_wp2_with fail
     go_ret
     exact⟨z7 HX.out.symm,below_alloc1 _ _⟩
   | true =>
     have HX:=z5 hx
     have HC:=z5 (fun W=>hx ▸ xz a hi W)
     clear hx
     go_wp2_with fail
     refine (HC.out _).mono ?_
     rintro e x2 ⟨rfl,rfl⟩
     go_wp2_with fail
     go_roundw
     case rel=>exact⟨by simp,.inr (.inl ⟨rfl,trivial⟩)⟩
     case measure=>simp [intOf]
  ·have H0:=z5 k0
   clear k0
   cases hx:inR b 1 hi with
   | false =>
     have HX:Hid (yJ a b c hi=false):=by show yJ _ _ _ _=false;unfold yJ;rw [H0.out,hx];rfl
     have HC:=z5 (fun W=>hx ▸ xz b hi W)
     clear hx
     go_wp2_with fail
     refine (HC.out _).mono ?_
     rintro e x2 ⟨rfl,rfl⟩
     go_wp2_with fail
     go_ret
     exact⟨z7 HX.out.symm,below_alloc1 _ _⟩
   | true =>
     have HX:=z5 hx
     have HC:=z5 (fun W=>hx ▸ xz b hi W)
     clear hx
     go_wp2_with fail
     refine (HC.out _).mono ?_
     rintro e x2 ⟨rfl,rfl⟩
     go_wp2_with fail
     go_roundw
     case rel=>exact⟨by simp,.inr (.inr (.inl ⟨rfl,H0.out,trivial⟩))⟩
     case measure=>simp [intOf]
  ·have H0:=z5 k0
   have H1:=z5 k1
   clear k0 k1
   cases hx:inR c 1 hi with
   | false =>
     have HX:Hid (yJ a b c hi=false):=by show yJ _ _ _ _=false;unfold yJ;rw [H0.out,H1.out,hx];rfl
     have HC:=z5 (fun W=>hx ▸ xz c hi W)
     clear hx
     go_wp2_with fail
     refine (HC.out _).mono ?_
     rintro e x2 ⟨rfl,rfl⟩
     go_wp2_with fail
     go_ret
     exact⟨z7 HX.out.symm,below_alloc1 _ _⟩
   | true =>
     have HX:=z5 hx
     have HC:=z5 (fun W=>hx ▸ xz c hi W)
     clear hx
     go_wp2_with fail
     refine (HC.out _).mono ?_
     rintro e x2 ⟨rfl,rfl⟩
     go_wp2_with fail
     go_roundw
     case rel=>exact⟨by simp,.inr (.inr (.inr ⟨rfl,H0.out,H1.out,trivial⟩))⟩
     case measure=>simp [intOf]
  ·have HX:Hid (yJ a b c hi=true):=by show yJ _ _ _ _=_;unfold yJ;rw [k0,k1,k2];rfl
   clear k0 k1 k2
   go_wp2_with fail
   go_ret
   exact⟨z7 HX.out.symm,below_alloc1 _ _⟩
theorem zfo (t:Tg):zp t=(yJ t.u0 t.u1 t.u2 4 && yJ t.w0 t.w1 t.w2 6 && inR t.r 1 128):=by
 unfold zp yU yJ
 cases inR t.u0 1 4 <;> cases inR t.u1 1 4 <;> cases inR t.u2 1 4 <;> cases inR t.w0 1 6 <;> cases inR t.w1 1 6 <;> cases inR t.w2 1 6 <;> rfl
set_option maxHeartbeats 400000 in
theorem Yi (p0 p1 p2 q0 q1 q2 r:Int) (w:World) :
  Calls Tryz.prog 53 #[.agg #[iV p0,iV p1,iV p2,iV q0,iV q1,iV q2,iV r]] w fun e w'=>e=.returned (.bool (zp ⟨p0,p1,p2,q0,q1,q2,r⟩))/\Below w.heap.size w w':=by
 have HA:Hid (zp ⟨p0,p1,p2,q0,q1,q2,r⟩=(yJ p0 p1 p2 4 && yJ q0 q1 q2 6 && inR r 1 128)):=zfo _
 cases hu:yJ p0 p1 p2 4 with
 | false =>
   have HX:Hid (zp ⟨p0,p1,p2,q0,q1,q2,r⟩=false):=by show _=false;rw [HA.out,hu];rfl
   have HC:=z5 (fun W=>hu ▸ Ze p0 p1 p2 4 W)
   clear hu HA
   go_enter Tryz.func53,Tryz.ntmps53
   go_wp2_with fail
   refine (HC.out _).mono ?_
   rintro e x1 ⟨rfl,hb⟩
   have HB:=z5 ((below_alloc1 w _).trans (hb.mono (by simp)))
   clear hb HC
   go_wp2_with fail
   go_ret
   exact⟨z7 HX.out.symm,HB.out⟩
 | true =>
   have HU:=z5 (fun W=>hu ▸ Ze p0 p1 p2 4 W)
   cases hw:yJ q0 q1 q2 6 with
   | false =>
     have HX:Hid (zp ⟨p0,p1,p2,q0,q1,q2,r⟩=false):=by show _=false;rw [HA.out,hu,hw];rfl
     have HC:=z5 (fun W=>hw ▸ Ze q0 q1 q2 6 W)
     clear hu hw HA
     go_enter Tryz.func53,Tryz.ntmps53
     go_wp2_with fail
     refine (HU.out _).mono ?_
     rintro e x1 ⟨rfl,hb⟩
     have hc1:=zc hb
     have HB:=z5 ((below_alloc1 w _).trans (hb.mono (by simp)))
     clear hb HU
     go_wp2_with fail
     refine (HC.out _).mono ?_
     rintro e x2 ⟨rfl,hb⟩
     have HB2:=z5 (HB.out.trans (hb.mono HB.out.size))
     clear hb HB hc1 HC
     go_wp2_with fail
     go_ret
     exact⟨z7 HX.out.symm,HB2.out⟩
   | true =>
     have HX:Hid (zp ⟨p0,p1,p2,q0,q1,q2,r⟩=inR r 1 128):=by show _=_;rw [HA.out,hu,hw];rfl
     have HC:=z5 (fun W=>hw ▸ Ze q0 q1 q2 6 W)
     clear hu hw HA
     go_enter Tryz.func53,Tryz.ntmps53
     go_wp2_with fail
     refine (HU.out _).mono ?_
     rintro e x1 ⟨rfl,hb⟩
     have hc1:=zc hb
     have HB:=z5 ((below_alloc1 w _).trans (hb.mono (by simp)))
     have hz:w.heap.size<x1.heap.size:=by have:=hb.size;simp at this;omega
     clear hb HU
     go_wp2_with fail
     refine (HC.out _).mono ?_
     rintro e x2 ⟨rfl,hb⟩
     have HB2:=z5 (HB.out.trans (hb.mono HB.out.size))
     have hx:x2.cell? ⟨w.heap.size,6,none⟩=some (iV r):=by rw [zc hb _ _ hz,hc1 _ _ (by simp)];go_simp
     clear hb HB hc1 HC hz
     go_wp2_with fail
     refine (xz r 128 _).mono ?_
     rintro e x3 ⟨rfl,rfl⟩
     go_wp2_with fail
     go_ret
     exact⟨z7 HX.out.symm,HB2.out⟩
theorem zds (t:Tg) (w:World):Calls Tryz.prog 53 #[.agg t.cells] w fun e w'=>e=.returned (.bool (zp t))/\Below w.heap.size w w' :=
 Yi t.u0 t.u1 t.u2 t.w0 t.w1 t.w2 t.r w
set_option maxHeartbeats 400000 in
theorem YK (p0 p1 p2 q0 q1 q2 r op:Int) (w:World) :
  Calls Tryz.prog 98 #[.agg #[iV p0,iV p1,iV p2,iV q0,iV q1,iV q2,iV r],iV op] w fun e w'=>e=.returned (iV (zr ⟨p0,p1,p2,q0,q1,q2,r⟩ op))/\Below w.heap.size w w':=by
 have hmay:=Yi p0 p1 p2 q0 q1 q2 r (w.alloc (.cells #[iV p0,iV p1,iV p2,iV q0,iV q1,iV q2,iV r] 28))
 cases hm:zp ⟨p0,p1,p2,q0,q1,q2,r⟩ with
 | false =>
   have HX:Hid (zr ⟨p0,p1,p2,q0,q1,q2,r⟩ op=0):=by show zr _ _=0;unfold zr;rw [hm];rfl
   rw [hm] at hmay
   have HM:=z5 hmay
   clear hmay hm
   go_enter Tryz.func98,Tryz.ntmps98
   go_wp2_with fail
   refine HM.out.mono ?_
   rintro e x1 ⟨rfl,hb⟩
   have HB:=z5 ((below_alloc1 w _).trans (hb.mono (by simp)))
   clear hb HM
   go_wp2_with fail
   go_ret
   exact⟨yk HX.out.symm,HB.out⟩
 | true =>
   rw [hm] at hmay
   have HM:=z5 hmay
   have HX:Hid (zr ⟨p0,p1,p2,q0,q1,q2,r⟩ op=xA ⟨p0,p1,p2,q0,q1,q2,r⟩ (zC op)):=by show zr _ _=_;unfold zr;rw [if_pos hm]
   have hcl:=fun W=>V6 op W
   clear hmay hm
   rcases Y2 op with hc | hc | hc
   ·rw [hc] at hcl
    have HC:=z5 hcl
    have HY:Hid (zr ⟨p0,p1,p2,q0,q1,q2,r⟩ op=q0):=by show _=_;rw [HX.out,hc];rfl
    clear hcl hc HX
    go_enter Tryz.func98,Tryz.ntmps98
    go_wp2_with fail
    refine HM.out.mono ?_
    rintro e x1 ⟨rfl,hb⟩
    have hx:x1.cell? ⟨w.heap.size,3,none⟩=some (iV q0):=by rw [zc hb _ _ (by simp)];go_simp
    have HB:=z5 ((below_alloc1 w _).trans (hb.mono (by simp)))
    clear hb HM
    go_wp2_with fail
    refine (HC.out _).mono ?_
    rintro e x2 ⟨rfl,rfl⟩
    go_wp2_with fail
    go_ret
    exact⟨yk HY.out.symm,HB.out⟩
   ·rw [hc] at hcl
    have HC:=z5 hcl
    have HY:Hid (zr ⟨p0,p1,p2,q0,q1,q2,r⟩ op=q1):=by show _=_;rw [HX.out,hc];rfl
    clear hcl hc HX
    go_enter Tryz.func98,Tryz.ntmps98
    go_wp2_with fail
    refine HM.out.mono ?_
    rintro e x1 ⟨rfl,hb⟩
    have hx:x1.cell? ⟨w.heap.size,4,none⟩=some (iV q1):=by rw [zc hb _ _ (by simp)];go_simp
    have HB:=z5 ((below_alloc1 w _).trans (hb.mono (by simp)))
    clear hb HM
    go_wp2_with fail
    refine (HC.out _).mono ?_
    rintro e x2 ⟨rfl,rfl⟩
    go_wp2_with fail
    go_ret
    exact⟨yk HY.out.symm,HB.out⟩
   ·rw [hc] at hcl
    have HC:=z5 hcl
    have HY:Hid (zr ⟨p0,p1,p2,q0,q1,q2,r⟩ op=q2):=by show _=_;rw [HX.out,hc];rfl
    clear hcl hc HX
    go_enter Tryz.func98,Tryz.ntmps98
    go_wp2_with fail
    refine HM.out.mono ?_
    rintro e x1 ⟨rfl,hb⟩
    have hx:x1.cell? ⟨w.heap.size,5,none⟩=some (iV q2):=by rw [zc hb _ _ (by simp)];go_simp
    have HB:=z5 ((below_alloc1 w _).trans (hb.mono (by simp)))
    clear hb HM
    go_wp2_with fail
    refine (HC.out _).mono ?_
    rintro e x2 ⟨rfl,rfl⟩
    go_wp2_with fail
    go_ret
    exact⟨yk HY.out.symm,HB.out⟩
theorem zjw (t:Tg) (op:Int) (w:World):Calls Tryz.prog 98 #[.agg t.cells,iV op] w fun e w'=>e=.returned (iV (zr t op))/\Below w.heap.size w w' :=
 YK t.u0 t.u1 t.u2 t.w0 t.w1 t.w2 t.r op w
end Go.Proofs.YtjoapiafpahihabGreat
