import Derived.Test.YtjoapiafpahihabGreatRef6A
set_option maxHeartbeats 20000000
namespace Go.Proofs.YtjoapiafpahihabGreat
open Go.Proofs.Tryz
open Go.RowKit Go.Joins
set_option linter.unusedVariables false
theorem Zd (n hi:Int) (w:World) :
  Calls prog 105 #[iV n,iV hi] w fun e w'=>e=.returned (.bool (inR n 1 hi))/\w'=w:=by
 by_cases h:1<=n/\n<=hi
 ·rw [yf h]
  obtain⟨h1,h2⟩:=h
  go_enter func105,ntmps105
  go_wp2
  go_ret
  exact⟨rfl,rfl⟩
 ·rw [Yt h]
  by_cases h1:1<=n
  ·have h2:¬n<=hi:=fun h2=>h ⟨h1,h2⟩
   clear h
   go_enter func105,ntmps105
   go_wp2
   go_ret
   exact⟨rfl,rfl⟩
  ·clear h
   go_enter func105,ntmps105
   go_wp2
   go_ret
   exact⟨rfl,rfl⟩
def xp (a b c hi:Int):Bool:=inR a 1 hi && inR b 1 hi && inR c 1 hi
theorem Yf (a b c hi:Int) (w:World) :
  Calls prog 104 #[.agg #[iV a,iV b,iV c],iV hi] w (Rt w (.bool (xp a b c hi))):=by
 have i0:∀w:World,(Instr.index 26 (.agg #[iV a,iV b,iV c]) (iV 0)).run prog w=.ok (iV a) w:=fun _=>by kernel_rfl
 have i1:∀w:World,(Instr.index 26 (.agg #[iV a,iV b,iV c]) (iV 1)).run prog w=.ok (iV b) w:=fun _=>by kernel_rfl
 have i2:∀w:World,(Instr.index 26 (.agg #[iV a,iV b,iV c]) (iV 2)).run prog w=.ok (iV c) w:=fun _=>by kernel_rfl
 go_enter func104,ntmps104
 go_wp2_with fail
 go_loopw [8] (fun i wr=>wr=w.alloc (.cells #[iV a,iV b,iV c] 26)/\(i=iV 0\/(i=iV 1/\inR a 1 hi=true)\/(i=iV 2/\inR a 1 hi=true/\inR b 1 hi=true)\/(i=iV 3/\inR a 1 hi=true/\inR b 1 hi=true/\inR c 1 hi=true))) (fun i _=>3 - (intOf i).toNat)
 case atStart=>exact⟨rfl,.inl rfl⟩
 case round =>
  obtain⟨rfl,hrel⟩:=hrel
  rcases hrel with rfl | ⟨rfl,k0⟩ | ⟨rfl,k0,k1⟩ | ⟨rfl,k0,k1,k2⟩
  ·cases hx:inR a 1 hi with
   | false =>
     have HX:Hid (xp a b c hi=false):=by show xp _ _ _ _=false;unfold xp;rw [hx];rfl
     have HC:=z9 (fun W=>hx ▸ Zd a hi W)
     clear hx
     go_wp2_with fail
     refine (HC.out _).mono ?_
     rintro e x2 ⟨rfl,rfl⟩
     go_wp2_with fail
     go_ret
     exact⟨zg HX.out.symm,below_alloc1 _ _⟩
   | true =>
     have HX:=z9 hx
     have HC:=z9 (fun W=>hx ▸ Zd a hi W)
     clear hx
     go_wp2_with fail
     refine (HC.out _).mono ?_
     rintro e x2 ⟨rfl,rfl⟩
     go_wp2_with fail
     go_roundw
     case rel=>exact⟨by simp,.inr (.inl ⟨rfl,trivial⟩)⟩
     case measure=>simp [intOf]
  ·have H0:=z9 k0
   clear k0
   cases hx:inR b 1 hi with
   | false =>
     have HX:Hid (xp a b c hi=false):=by show xp _ _ _ _=false;unfold xp;rw [H0.out,hx];rfl
     have HC:=z9 (fun W=>hx ▸ Zd b hi W)
     clear hx
     go_wp2_with fail
     refine (HC.out _).mono ?_
     rintro e x2 ⟨rfl,rfl⟩
     go_wp2_with fail
     go_ret
     exact⟨zg HX.out.symm,below_alloc1 _ _⟩
   | true =>
     have HX:=z9 hx
     have HC:=z9 (fun W=>hx ▸ Zd b hi W)
     clear hx
     go_wp2_with fail
     refine (HC.out _).mono ?_
     rintro e x2 ⟨rfl,rfl⟩
     go_wp2_with fail
     go_roundw
     case rel=>exact⟨by simp,.inr (.inr (.inl ⟨rfl,H0.out,trivial⟩))⟩
     case measure=>simp [intOf]
  ·have H0:=z9 k0
   have H1:=z9 k1
   clear k0 k1
   cases hx:inR c 1 hi with
   | false =>
     have HX:Hid (xp a b c hi=false):=by show xp _ _ _ _=false;unfold xp;rw [H0.out,H1.out,hx];rfl
     have HC:=z9 (fun W=>hx ▸ Zd c hi W)
     clear hx
     go_wp2_with fail
     refine (HC.out _).mono ?_
     rintro e x2 ⟨rfl,rfl⟩
     go_wp2_with fail
     go_ret
     exact⟨zg HX.out.symm,below_alloc1 _ _⟩
   | true =>
     have HX:=z9 hx
     have HC:=z9 (fun W=>hx ▸ Zd c hi W)
     clear hx
     go_wp2_with fail
     refine (HC.out _).mono ?_
     rintro e x2 ⟨rfl,rfl⟩
     go_wp2_with fail
     go_roundw
     case rel=>exact⟨by simp,.inr (.inr (.inr ⟨rfl,H0.out,H1.out,trivial⟩))⟩
     case measure=>simp [intOf]
  ·have HX:Hid (xp a b c hi=true):=by show xp _ _ _ _=_;unfold xp;rw [k0,k1,k2];rfl
   clear k0 k1 k2
   go_wp2_with fail
   go_ret
   exact⟨zg HX.out.symm,below_alloc1 _ _⟩
theorem zmb (t:Tg):yj t=(xp t.u0 t.u1 t.u2 4 && xp t.w0 t.w1 t.w2 6 && inR t.r 1 128):=by
 unfold yj Vb xp
 cases inR t.u0 1 4 <;> cases inR t.u1 1 4 <;> cases inR t.u2 1 4 <;> cases inR t.w0 1 6 <;> cases inR t.w1 1 6 <;> cases inR t.w2 1 6 <;> rfl
theorem Y9 (p0 p1 p2 q0 q1 q2 r:Int) (w:World) :
  Calls prog 53 #[(tv p0 p1 p2 q0 q1 q2 r)] w (Rt w (.bool (yj ⟨p0,p1,p2,q0,q1,q2,r⟩))):=by
 have HA:Hid (yj ⟨p0,p1,p2,q0,q1,q2,r⟩=(xp p0 p1 p2 4 && xp q0 q1 q2 6 && inR r 1 128)):=zmb _
 cases hu:xp p0 p1 p2 4 with
 | false =>
   have HX:Hid (yj ⟨p0,p1,p2,q0,q1,q2,r⟩=false):=by show _=false;rw [HA.out,hu];rfl
   have HC:=z9 (fun W=>hu ▸ Yf p0 p1 p2 4 W)
   clear hu HA
   go_enter func53,ntmps53
   go_wp2_with fail
   refine (HC.out _).mono ?_
   rintro e x1 ⟨rfl,hb⟩
   have HB:=z9 ((below_alloc1 w _).trans (hb.mono (by simp)))
   clear hb HC
   go_wp2_with fail
   go_ret
   exact⟨zg HX.out.symm,HB.out⟩
 | true =>
   have HU:=z9 (fun W=>hu ▸ Yf p0 p1 p2 4 W)
   cases hw:xp q0 q1 q2 6 with
   | false =>
     have HX:Hid (yj ⟨p0,p1,p2,q0,q1,q2,r⟩=false):=by show _=false;rw [HA.out,hu,hw];rfl
     have HC:=z9 (fun W=>hw ▸ Yf q0 q1 q2 6 W)
     clear hu hw HA
     go_enter func53,ntmps53
     go_wp2_with fail
     refine (HU.out _).mono ?_
     rintro e x1 ⟨rfl,hb⟩
     have hc1:=zf hb
     have HB:=z9 ((below_alloc1 w _).trans (hb.mono (by simp)))
     clear hb HU
     go_wp2_with fail
     refine (HC.out _).mono ?_
     rintro e x2 ⟨rfl,hb⟩
     have HB2:=z9 (HB.out.trans (hb.mono HB.out.size))
     clear hb HB hc1 HC
     go_wp2_with fail
     go_ret
     exact⟨zg HX.out.symm,HB2.out⟩
   | true =>
     have HX:Hid (yj ⟨p0,p1,p2,q0,q1,q2,r⟩=inR r 1 128):=by show _=_;rw [HA.out,hu,hw];rfl
     have HC:=z9 (fun W=>hw ▸ Yf q0 q1 q2 6 W)
     clear hu hw HA
     go_enter func53,ntmps53
     go_wp2_with fail
     refine (HU.out _).mono ?_
     rintro e x1 ⟨rfl,hb⟩
     have hc1:=zf hb
     have HB:=z9 ((below_alloc1 w _).trans (hb.mono (by simp)))
     have hz:w.heap.size<x1.heap.size:=by have:=hb.size;simp at this;omega
     clear hb HU
     go_wp2_with fail
     refine (HC.out _).mono ?_
     rintro e x2 ⟨rfl,hb⟩
     have HB2:=z9 (HB.out.trans (hb.mono HB.out.size))
     have hx:x2.cell? (ad w.heap.size 6)=sI r:=by rw [zf hb _ _ hz,hc1 _ _ (by simp)];go_simp
     clear hb HB hc1 HC hz
     go_wp2_with fail
     refine (Zd r 128 _).mono ?_
     rintro e x3 ⟨rfl,rfl⟩
     go_wp2_with fail
     go_ret
     exact⟨zg HX.out.symm,HB2.out⟩
theorem zjv (t:Tg) (w:World):Calls prog 53 #[.agg t.cells] w (Rt w (.bool (yj t))) :=
 Y9 t.u0 t.u1 t.u2 t.w0 t.w1 t.w2 t.r w
theorem Xn (p0 p1 p2 q0 q1 q2 r op:Int) (w:World) :
  Calls prog 98 #[(tv p0 p1 p2 q0 q1 q2 r),iV op] w (Rt w (iV (zO ⟨p0,p1,p2,q0,q1,q2,r⟩ op))):=by
 have hmay:=Y9 p0 p1 p2 q0 q1 q2 r (w.alloc (.cells #[iV p0,iV p1,iV p2,iV q0,iV q1,iV q2,iV r] 28))
 cases hm:yj ⟨p0,p1,p2,q0,q1,q2,r⟩ with
 | false =>
   have HX:Hid (zO ⟨p0,p1,p2,q0,q1,q2,r⟩ op=0):=by show zO _ _=0;unfold zO;rw [hm];rfl
   rw [hm] at hmay
   have HM:=z9 hmay
   clear hmay hm
   go_enter func98,ntmps98
   go_wp2_with fail
   refine HM.out.mono ?_
   rintro e x1 ⟨rfl,hb⟩
   have HB:=z9 ((below_alloc1 w _).trans (hb.mono (by simp)))
   clear hb HM
   go_wp2_with fail
   go_ret
   exact⟨yO HX.out.symm,HB.out⟩
 | true =>
   rw [hm] at hmay
   have HM:=z9 hmay
   have HX:Hid (zO ⟨p0,p1,p2,q0,q1,q2,r⟩ op=xW ⟨p0,p1,p2,q0,q1,q2,r⟩ (zW op)):=by show zO _ _=_;unfold zO;rw [if_pos hm]
   have hcl:=fun W=>VZ op W
   clear hmay hm
   rcases XG op with hc | hc | hc
   ·rw [hc] at hcl
    have HC:=z9 hcl
    have HY:Hid (zO ⟨p0,p1,p2,q0,q1,q2,r⟩ op=q0):=by show _=_;rw [HX.out,hc];rfl
    clear hcl hc HX
    go_enter func98,ntmps98
    go_wp2_with fail
    refine HM.out.mono ?_
    rintro e x1 ⟨rfl,hb⟩
    have hx:x1.cell? (ad w.heap.size 3)=sI q0:=by rw [zf hb _ _ (by simp)];go_simp
    have HB:=z9 ((below_alloc1 w _).trans (hb.mono (by simp)))
    clear hb HM
    go_wp2_with fail
    refine (HC.out _).mono ?_
    rintro e x2 ⟨rfl,rfl⟩
    go_wp2_with fail
    go_ret
    exact⟨yO HY.out.symm,HB.out⟩
   ·rw [hc] at hcl
    have HC:=z9 hcl
    have HY:Hid (zO ⟨p0,p1,p2,q0,q1,q2,r⟩ op=q1):=by show _=_;rw [HX.out,hc];rfl
    clear hcl hc HX
    go_enter func98,ntmps98
    go_wp2_with fail
    refine HM.out.mono ?_
    rintro e x1 ⟨rfl,hb⟩
    have hx:x1.cell? (ad w.heap.size 4)=sI q1:=by rw [zf hb _ _ (by simp)];go_simp
    have HB:=z9 ((below_alloc1 w _).trans (hb.mono (by simp)))
    clear hb HM
    go_wp2_with fail
    refine (HC.out _).mono ?_
    rintro e x2 ⟨rfl,rfl⟩
    go_wp2_with fail
    go_ret
    exact⟨yO HY.out.symm,HB.out⟩
   ·rw [hc] at hcl
    have HC:=z9 hcl
    have HY:Hid (zO ⟨p0,p1,p2,q0,q1,q2,r⟩ op=q2):=by show _=_;rw [HX.out,hc];rfl
    clear hcl hc HX
    go_enter func98,ntmps98
    go_wp2_with fail
    refine HM.out.mono ?_
    rintro e x1 ⟨rfl,hb⟩
    have hx:x1.cell? (ad w.heap.size 5)=sI q2:=by rw [zf hb _ _ (by simp)];go_simp
    have HB:=z9 ((below_alloc1 w _).trans (hb.mono (by simp)))
    clear hb HM
    go_wp2_with fail
    refine (HC.out _).mono ?_
    rintro e x2 ⟨rfl,rfl⟩
    go_wp2_with fail
    go_ret
    exact⟨yO HY.out.symm,HB.out⟩
theorem zfy (t:Tg) (op:Int) (w:World):Calls prog 98 #[.agg t.cells,iV op] w (Rt w (iV (zO t op))) :=
 Xn t.u0 t.u1 t.u2 t.w0 t.w1 t.w2 t.r op w
end Go.Proofs.YtjoapiafpahihabGreat
