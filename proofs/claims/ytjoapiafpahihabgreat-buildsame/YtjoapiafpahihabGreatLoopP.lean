import Derived.Test.YtjoapiafpahihabGreatLoopStmt
namespace Go.Proofs.YtjoapiafpahihabGreat
open Go.RowKit Go.Joins
set_option linter.unusedVariables false
set_option maxHeartbeats 400000 in
theorem zdm (v:Value) (L:Lp) (w:World) (h:zk w v L) :
  Calls Tryz.prog 103 #[v] w fun e w'=>e=.returned (.bool (Z9 L.body.length L.outs))/\Below w.heap.size w w':=by
 obtain⟨v0,v1,v2,rfl,-,⟨a1,cap1,rfl,hl1,hm1,-⟩,⟨a,cap,rfl,hl,hm,hr,hc⟩⟩:=h
 unfold maxLen at hm hm1
 go_enter Tryz.func103,Tryz.ntmps103
 go_wp2
 go_loop [3,9] (fun t i=>∃k:Nat,k<=L.outs.length/\i=iV k/\t=iV (zfy L.outs k)/\zh (YJ L.body.length L.outs) k=true) (fun _ i=>L.outs.length - (intOf i).toNat)
 case atStart=>exact⟨0,Nat.zero_le _,rfl,rfl,rfl⟩
 case round =>
  obtain⟨k,hk,rfl,rfl,hall⟩:=hrel
  have hp:=ZG L.body.length L.outs k (by omega) hall
  obtain⟨hp1,hp2⟩:=hp
  have HA:=z5 hall
  clear hall
  by_cases hlt:k<L.outs.length
  ·obtain⟨b,off,rfl,hb,hcell⟩:=hc (by omega)
   have hck:=hcell k hlt
   clear hcell hc
   cases hx:YJ L.body.length L.outs k with
   | true =>
     have HX:=z5 hx
     have hin:inR (nth L.outs k) (zfy L.outs k+1) (L.body.length - 1)=true:=hx
     clear hx
     go_wp2_with (go_at_call 140;refine (zY _ _ _ _).mono ?_;rintro e w' ⟨rfl,rfl⟩)
     go_round
     case rel=>exact⟨k+1,by omega,by go_num,rfl,yw HA.out HX.out⟩
     case measure=>simp [intOf];omega
   | false =>
     have HX:=z5 hx
     have hin:inR (nth L.outs k) (zfy L.outs k+1) (L.body.length - 1)=false:=hx
     clear hx
     go_wp2_with (go_at_call 140;refine (zY _ _ _ _).mono ?_;rintro e w' ⟨rfl,rfl⟩)
     go_ret
     exact⟨z7 (zw hlt HX.out).symm,below_alloc1 _ _⟩
  ·have e:k=L.outs.length:=by omega
   have HL:Hid (Z9 L.body.length L.outs=true):=by show Z9 L.body.length L.outs=true;unfold Z9;rw [<-e];exact HA.out
   clear HA e
   go_wp2
   go_ret
   exact⟨z7 HL.out.symm,below_alloc1 _ _⟩
set_option maxHeartbeats 400000 in
theorem Vu (v:Value) (L:Lp) (w:World) (h:zk w v L) :
  Calls Tryz.prog 102 #[v] w fun e w'=>e=.returned (.bool (xN L))/\Below w.heap.size w w':=by
 have hL:=h
 obtain⟨v0,v1,v2,rfl,-,⟨a,cap,rfl,hl,hm,-⟩,-⟩:=h
 unfold maxLen at hm
 go_enter Tryz.func102,Tryz.ntmps102
 go_wp2
 go_loopw [7] (fun i wr=>∃k:Nat,k<=L.body.length/\i=iV k/\zh (fun k=>yd L.logs.length L.body.length k (z6 L.body k)) k=true/\Below (w.heap.size+1) (w.alloc (.cells #[v0,.slice a L.body.length cap,v2] 25)) wr) (fun i _=>L.body.length - (intOf i).toNat)
 case atStart=>exact⟨0,Nat.zero_le _,rfl,rfl,Below.refl _ _⟩
 case round =>
  obtain⟨k,hk,rfl,hall,hbel⟩:=hrel
  have hcell:∀o,wr.cell? ⟨w.heap.size,o,none⟩=(w.alloc (.cells #[v0,.slice a L.body.length cap,v2] 25)).cell? ⟨w.heap.size,o,none⟩:=fun o=>hbel.cell (p:=⟨w.heap.size,o,none⟩) (by simp)
  have hbw:Below w.heap.size w wr:=(below_alloc1 _ _).trans (hbel.mono (by omega))
  have HA:=z5 hall
  clear hall
  by_cases hlt:k<L.body.length
  ·have hks:(k:Int)<(L.body.length:Int):=by omega
   cases hx:yd L.logs.length L.body.length k (z6 L.body k) with
   | true =>
     have HX:=z5 hx
     go_wp2_with (go_at_call 143;refine (VD _ L k _ (zk.below hL hbw) hlt).mono ?_;rintro e w1 ⟨rfl,hb1⟩)
     go_roundw
     case rel=>exact⟨k+1,by omega,by go_num,yw HA.out HX.out,hbel.trans (hb1.mono (by have:=hbel.size;simp at this;omega))⟩
     case measure=>simp [intOf];omega
   | false =>
     have HX:=z5 hx
     go_wp2_with (go_at_call 143;refine (VD _ L k _ (zk.below hL hbw) hlt).mono ?_;rintro e w1 ⟨rfl,hb1⟩)
     go_ret
     exact⟨z7 (zw hlt HX.out).symm,hbw.trans (hb1.mono hbw.size)⟩
  ·have e:k=L.body.length:=by omega
   have HL:Hid (xN L=true):=by show xN L=true;unfold xN;rw [<-e];rw [<-e] at HA;exact HA.out
   clear HA e
   go_wp2
   go_ret
   exact⟨z7 HL.out.symm,hbw⟩
set_option maxHeartbeats 400000 in
theorem XN (v:Value) (L:Lp) (w:World) (h:zk w v L) :
  Calls Tryz.prog 52 #[v] w fun e w'=>e=.returned (.bool (zx L))/\Below w.heap.size w w':=by
 have hL:=h
 obtain⟨v0,v1,v2,rfl,hI,⟨a1,cap1,rfl,hl1,hm1,-⟩,⟨a2,cap2,rfl,hl2,hm2,hr2,hc2⟩⟩:=h
 have hI2:=hI
 obtain⟨a0,cap0,rfl,hl0,hm0,hr0,hc0⟩:=hI
 clear hr0 hc0 hr2 hc2
 unfold maxLen at hm0 hm1 hm2
 by_cases h1:(3:Int)<L.logs.length
 ·have HX:=z5 (Xq L (.inl (by omega)))
  go_enter Tryz.func52,Tryz.ntmps52
  go_wp2_with fail
  go_ret
  exact⟨z7 HX.out.symm,below_alloc1 _ _⟩
 by_cases h2:(16:Int)<L.outs.length
 ·have HX:=z5 (Xq L (.inr (.inr (.inr (by omega)))))
  go_enter Tryz.func52,Tryz.ntmps52
  go_wp2_with fail
  go_ret
  exact⟨z7 HX.out.symm,below_alloc1 _ _⟩
 by_cases h0:L.body.length=0
 ·have HX:=z5 (Xq L (.inr (.inl (by omega))))
  have h3:((L.body.length:Int) == 0)=true:=beq_iff_eq.2 (by omega)
  clear h0
  go_enter Tryz.func52,Tryz.ntmps52
  go_wp2_with fail
  go_ret
  exact⟨z7 HX.out.symm,below_alloc1 _ _⟩
 have h3':((L.body.length:Int) == 0)=false:=beq_eq_false_iff_ne.2 (by omega)
 have h5:1<=L.body.length:=by omega
 clear h0
 by_cases h4:(16:Int)<L.body.length
 ·have HX:=z5 (Xq L (.inr (.inr (.inl (by omega)))))
  go_enter Tryz.func52,Tryz.ntmps52
  go_wp2_with fail
  go_ret
  exact⟨z7 HX.out.symm,below_alloc1 _ _⟩
 have HX:=z5 (zmb L (by omega) (by omega) (by omega))
 cases e1:Z5 L.logs with
 | false =>
   go_enter Tryz.func52,Tryz.ntmps52
   go_wp2_with (go_at_call 101;refine (YC _ L.logs _ (yf.below hI2 (below_alloc1 _ _))).mono ?_;rintro e w' ⟨rfl,rfl⟩)
   go_ret
   exact⟨z7 (by rw [HX.out,e1];rfl),below_alloc1 _ _⟩
 | true =>
   cases e2:xN L with
   | false =>
     go_enter Tryz.func52,Tryz.ntmps52
     go_wp2_with (first
      | (go_at_call 101;refine (YC _ L.logs _ (yf.below hI2 (below_alloc1 _ _))).mono ?_;rintro e w' ⟨rfl,rfl⟩)
      | (go_at_call 102;refine (Vu _ L _ (zk.below hL (below_alloc1 _ _))).mono ?_;rintro e w1 ⟨rfl,hb1⟩;have hc1:=zc hb1))
     go_ret
     exact⟨z7 (by rw [HX.out,e1,e2,Bool.and_false]),(below_alloc1 _ _).trans (hb1.mono (by simp))⟩
   | true =>
     go_enter Tryz.func52,Tryz.ntmps52
     go_wp2_with (first
      | (go_at_call 101;refine (YC _ L.logs _ (yf.below hI2 (below_alloc1 _ _))).mono ?_;rintro e w' ⟨rfl,rfl⟩)
      | (go_at_call 102;refine (Vu _ L _ (zk.below hL (below_alloc1 _ _))).mono ?_;rintro e w1 ⟨rfl,hb1⟩;have hc1:=zc hb1)
      | (go_at_call 103;refine (zdm _ L _ (zk.below hL ((below_alloc1 _ _).trans (hb1.mono (by simp))))).mono ?_;rintro e w2 ⟨rfl,hb2⟩))
     go_ret
     exact⟨z7 (by rw [HX.out,e1,e2,Bool.and_true];rfl),((below_alloc1 _ _).trans (hb1.mono (by simp))).trans (hb2.mono (by have:=hb1.size;simp at this;omega))⟩
def YY (w:World) (v:Value) (rs:List (List Int)):Prop :=
 ∃ a cap,v=.slice a rs.length cap/\rs.length<=cap/\cap<=maxLen /\
   (0<rs.length->∃b off,a=some ⟨b,off,none⟩/\b<w.heap.size/\∀i,i<rs.length->∃u,w.cell? ⟨b,off+i,none⟩=some u/\yf w u (VC rs i))
theorem YY.below {w w':World} {v:Value} {rs:List (List Int)} (h:YY w v rs) (hb:Below w.heap.size w w'):YY w' v rs:=by
 obtain⟨a,cap,e,h1,h2,h4⟩:=h
 refine⟨a,cap,e,h1,h2,fun hp=>?_⟩
 obtain⟨b,off,e2,h5,h6⟩:=h4 hp
 refine⟨b,off,e2,Nat.lt_of_lt_of_le h5 hb.size,fun i hi=>?_⟩
 obtain⟨u,h7,h8⟩:=h6 i hi
 exact⟨u,by rw [zc hb _ _ h5];exact h7,h8.below hb⟩
def zey (w:World) (v:Value) (B M:List (List Int)):Prop:=∃v0 v1,v=.agg #[v0,v1]/\YY w v0 B/\YY w v1 M
theorem zey.below {w w':World} {v:Value} {B M:List (List Int)} (h:zey w v B M) (hb:Below w.heap.size w w'):zey w' v B M:=by
 obtain⟨v0,v1,e,h1,h2⟩:=h
 exact⟨v0,v1,e,h1.below hb,h2.below hb⟩
theorem zhv (x:Int) (h0:0<=x) (h5:x<=5):wrap64 (2 ^ x.toNat)=((2 ^ x.toNat:Nat):Int):=by
 have h:x=0\/x=1\/x=2\/x=3\/x=4\/x=5:=by omega
 rcases h with rfl | rfl | rfl | rfl | rfl | rfl <;> simp [wrap64]
end Go.Proofs.YtjoapiafpahihabGreat
