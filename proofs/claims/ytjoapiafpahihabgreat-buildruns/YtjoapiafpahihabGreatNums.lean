import Derived.Test.YtjoapiafpahihabGreatRows
import Derived.Test.YtjoapiafpahihabGreatBase
import Derived.WalkSpells
import Derived.WalkLawsBesides
set_option maxHeartbeats 20000000
namespace Go.Proofs.YtjoapiafpahihabGreat
open Go.Proofs.Tryz
open Go.RowKit
set_option linter.unusedVariables false
theorem z9 {p:Prop} (h:p):Hid p:=h
def p2 (k:Nat):Int:=((2 ^ k:Nat):Int)
theorem yak (k:Nat):0<p2 k:=Int.natCast_pos.2 (Nat.two_pow_pos k)
theorem yO {k:IntKind} {a b:Int} (h:a=b):Ending.returned (.int k a)=.returned (.int k b):=by rw [h]
theorem zmv (s t:Int) (ht0:0<=t) (ht:t<=200) (hs0:-64<=s) (hs:s<=64):-12800<=s*t/\s*t<=12800:=by
 have h1:=Int.mul_le_mul_of_nonneg_right hs ht0
 have h2:=Int.mul_le_mul_of_nonneg_right hs0 ht0
 omega
theorem ya0 (s p t l:Int) (hl0:0<=l) (hl:l<=5) (ht0:0<=t) (ht:t<=200) (hs0:-64<=s) (hs:s<=64) (hp0:-64<=p) (hp:p<=64) :
  bits BinOp.and IntKind.i64 (wrap64 (wrap64 (s*t)+p)) (wrap64 (wrap64 (2 ^ l.toNat) - 1))=(s*t+p) % p2 l.toNat:=by
 unfold p2
 have hr:=zmv s t ht0 ht hs0 hs
 have e1:wrap64 (wrap64 (s*t)+p)=s*t+p:=by unfold wrap64;omega
 have hq:((2:Int) ^ l.toNat)=((2 ^ l.toNat:Nat):Int):=by simp
 have hb:2 ^ l.toNat<=2 ^ 5:=Nat.pow_le_pow_right (by omega) (by omega)
 have hb0:=Nat.two_pow_pos l.toNat
 rw [e1,hq]
 have e2:wrap64 (wrap64 ((2 ^ l.toNat:Nat):Int) - 1)=((2 ^ l.toNat:Nat):Int) - 1:=by
  generalize 2 ^ l.toNat=P at *
  unfold wrap64;omega
 rw [e2]
 exact NumMath.i64_mask _ _ (by omega)
theorem znq (n lo hi:Int) (w:World) (h1:lo<=n) (h2:n<=hi) :
  Calls prog 195 #[iV n,iV lo,iV hi] w fun e w'=>e=.returned (.bool true)/\w'=w:=by
 go_enter func195,ntmps195
 go_wp2
 go_ret
 exact⟨rfl,rfl⟩
theorem zsw (n lo hi:Int) (w:World) (h:¬(lo<=n/\n<=hi)) :
  Calls prog 195 #[iV n,iV lo,iV hi] w fun e w'=>e=.returned (.bool false)/\w'=w:=by
 by_cases h1:lo<=n
 ·have h2:decide (n<=hi)=false:=decide_eq_false (by omega)
  clear h
  go_enter func195,ntmps195
  go_wp2
  go_ret
  exact⟨rfl,rfl⟩
 ·clear h
  go_enter func195,ntmps195
  go_wp2
  go_ret
  exact⟨rfl,rfl⟩
def inB (n lo hi:Int):Bool:=decide (lo<=n/\n<=hi)
theorem X9 (n lo hi:Int) (w:World) :
  Calls prog 195 #[iV n,iV lo,iV hi] w fun e w'=>e=.returned (.bool (inB n lo hi))/\w'=w:=by
 by_cases h:lo<=n/\n<=hi
 ·rw [show inB n lo hi=true from decide_eq_true h]
  exact znq n lo hi w h.1 h.2
 ·rw [show inB n lo hi=false from decide_eq_false h]
  exact zsw n lo hi w h
def idx (s p t l:Int):Int :=
 if 0<=l/\l<=5/\0<=t/\t<=200/\-64<=s/\s<=64/\-64<=p/\p<=64 then (s*t+p) % p2 l.toNat else 0
theorem U4 (s p t l:Int) (w:World) :
  Calls prog 175 #[iV s,iV p,iV t,iV l] w fun e w'=>e=.returned (iV (idx s p t l))/\w'=w:=by
 unfold idx
 by_cases hl:0<=l/\l<=5
 ·have bl:inB l 0 5=true:=decide_eq_true hl
  by_cases ht:0<=t/\t<=200
  ·have bt:inB t 0 200=true:=decide_eq_true ht
   by_cases hs:-64<=s/\s<=64
   ·have bs:inB s (-64) 64=true:=decide_eq_true hs
    by_cases hp:-64<=p/\p<=64
    ·have bp:inB p (-64) 64=true:=decide_eq_true hp
     obtain⟨hl0,hl1⟩:=hl
     obtain⟨ht0,ht1⟩:=ht
     obtain⟨hs0,hs1⟩:=hs
     obtain⟨hp0,hp1⟩:=hp
     rw [if_pos ⟨hl0,hl1,ht0,ht1,hs0,hs1,hp0,hp1⟩]
     go_enter func175,ntmps175
     go_wp2_with (go_at_call 195;refine (X9 _ _ _ _).mono ?_;rintro e w' ⟨rfl,rfl⟩)
     go_ret
     exact⟨yO (ya0 s p t l hl0 hl1 ht0 ht1 hs0 hs1 hp0 hp1),rfl⟩
    ·have bp:inB p (-64) 64=false:=decide_eq_false hp
     rw [if_neg (by omega)]
     clear hl ht hs hp
     go_enter func175,ntmps175
     go_wp2_with (go_at_call 195;refine (X9 _ _ _ _).mono ?_;rintro e w' ⟨rfl,rfl⟩)
     go_ret
     exact⟨rfl,rfl⟩
   ·have bs:inB s (-64) 64=false:=decide_eq_false hs
    rw [if_neg (by omega)]
    clear hl ht hs
    go_enter func175,ntmps175
    go_wp2_with (go_at_call 195;refine (X9 _ _ _ _).mono ?_;rintro e w' ⟨rfl,rfl⟩)
    go_ret
    exact⟨rfl,rfl⟩
  ·have bt:inB t 0 200=false:=decide_eq_false ht
   rw [if_neg (by omega)]
   clear hl ht
   go_enter func175,ntmps175
   go_wp2_with (go_at_call 195;refine (X9 _ _ _ _).mono ?_;rintro e w' ⟨rfl,rfl⟩)
   go_ret
   exact⟨rfl,rfl⟩
 ·have bl:inB l 0 5=false:=decide_eq_false hl
  rw [if_neg (by omega)]
  clear hl
  go_enter func175,ntmps175
  go_wp2_with (go_at_call 195;refine (X9 _ _ _ _).mono ?_;rintro e w' ⟨rfl,rfl⟩)
  go_ret
  exact⟨rfl,rfl⟩
def opv (op a b:Int):Int :=
 if op=1 then wrap64 (a+b) else if op=2 then wrap64 (a - b) else if op=3 then wrap64 (a*b)
 else if op=4 then bits .and .i64 a b else if op=5 then bits .or .i64 a b else if op=6 then bits .xor .i64 a b
 else if op=7 then (if a<b then 1 else 0) else if op=8 then (if a=b then 1 else 0) else 0
def zW (op:Int):Int:=if op=3\/op=4 then 2 else if op=13 then 1 else 0
theorem zx2 (w:World) :
  Calls prog 139 #[iV 3] w fun e w'=>e=.returned (iV (zW 3))/\w'=w:=by
 go_enter func139,ntmps139
 go_wp2
 go_ret
 exact⟨rfl,rfl⟩
theorem zx3 (w:World) :
  Calls prog 139 #[iV 4] w fun e w'=>e=.returned (iV (zW 4))/\w'=w:=by
 go_enter func139,ntmps139
 go_wp2
 go_ret
 exact⟨rfl,rfl⟩
theorem zth (w:World) :
  Calls prog 139 #[iV 13] w fun e w'=>e=.returned (iV (zW 13))/\w'=w:=by
 go_enter func139,ntmps139
 go_wp2
 go_ret
 exact⟨rfl,rfl⟩
theorem zti (op:Int) (w:World) (h3:op≠3) (h4:op≠4) (h7:op≠13) :
  Calls prog 139 #[iV op] w fun e w'=>e=.returned (iV (zW op))/\w'=w:=by
 have hv:Hid (zW op=0):=by
  show zW op=0
  unfold zW
  rw [if_neg (by omega),if_neg (by omega)]
 have n3:(op == 3)=false:=beq_eq_false_iff_ne.2 h3
 have n4:(op == 4)=false:=beq_eq_false_iff_ne.2 h4
 have n7:(op == 13)=false:=beq_eq_false_iff_ne.2 h7
 clear h3 h4 h7
 go_enter func139,ntmps139
 go_wp2
 go_ret
 exact⟨yO hv.out.symm,rfl⟩
theorem VZ (op:Int) (w:World) :
  Calls prog 139 #[iV op] w fun e w'=>e=.returned (iV (zW op))/\w'=w:=by
 by_cases h3:op=3
 ·subst h3;exact zx2 w
 by_cases h4:op=4
 ·subst h4;exact zx3 w
 by_cases h7:op=13
 ·subst h7;exact zth w
 exact zti op w h3 h4 h7
theorem ybe (a b:Int) (w:World) :
  Calls prog 151 #[iV 1,iV a,iV b] w (Rt w (iV (opv 1 a b))):=by
 have hmf:∀(fn:Fn) (first cap:Array Value) (w:World),(Instr.makeFunc fn first cap).run prog w=.ok (.func fn first cap) w:=fun _ _ _ _=>rfl
 go_enter func151,ntmps151
 go_wp2
 go_ret
 exact⟨rfl,by repeat (first | exact Below.refl _ _ | apply Below.drew | refine Below.alloc ?_ (Nat.le_refl _) _ | refine Below.alloc ?_ (by simp) _)⟩
theorem ybf (a b:Int) (w:World) :
  Calls prog 151 #[iV 2,iV a,iV b] w (Rt w (iV (opv 2 a b))):=by
 have hmf:∀(fn:Fn) (first cap:Array Value) (w:World),(Instr.makeFunc fn first cap).run prog w=.ok (.func fn first cap) w:=fun _ _ _ _=>rfl
 go_enter func151,ntmps151
 go_wp2
 go_ret
 exact⟨rfl,by repeat (first | exact Below.refl _ _ | apply Below.drew | refine Below.alloc ?_ (Nat.le_refl _) _ | refine Below.alloc ?_ (by simp) _)⟩
theorem ybg (a b:Int) (w:World) :
  Calls prog 151 #[iV 3,iV a,iV b] w (Rt w (iV (opv 3 a b))):=by
 have hmf:∀(fn:Fn) (first cap:Array Value) (w:World),(Instr.makeFunc fn first cap).run prog w=.ok (.func fn first cap) w:=fun _ _ _ _=>rfl
 go_enter func151,ntmps151
 go_wp2
 go_ret
 exact⟨rfl,by repeat (first | exact Below.refl _ _ | apply Below.drew | refine Below.alloc ?_ (Nat.le_refl _) _ | refine Below.alloc ?_ (by simp) _)⟩
theorem ybh (a b:Int) (w:World) :
  Calls prog 151 #[iV 4,iV a,iV b] w (Rt w (iV (opv 4 a b))):=by
 have hmf:∀(fn:Fn) (first cap:Array Value) (w:World),(Instr.makeFunc fn first cap).run prog w=.ok (.func fn first cap) w:=fun _ _ _ _=>rfl
 go_enter func151,ntmps151
 go_wp2
 go_ret
 exact⟨rfl,by repeat (first | exact Below.refl _ _ | apply Below.drew | refine Below.alloc ?_ (Nat.le_refl _) _ | refine Below.alloc ?_ (by simp) _)⟩
theorem ybi (a b:Int) (w:World) :
  Calls prog 151 #[iV 5,iV a,iV b] w (Rt w (iV (opv 5 a b))):=by
 have hmf:∀(fn:Fn) (first cap:Array Value) (w:World),(Instr.makeFunc fn first cap).run prog w=.ok (.func fn first cap) w:=fun _ _ _ _=>rfl
 go_enter func151,ntmps151
 go_wp2
 go_ret
 exact⟨rfl,by repeat (first | exact Below.refl _ _ | apply Below.drew | refine Below.alloc ?_ (Nat.le_refl _) _ | refine Below.alloc ?_ (by simp) _)⟩
theorem ybj (a b:Int) (w:World) :
  Calls prog 151 #[iV 6,iV a,iV b] w (Rt w (iV (opv 6 a b))):=by
 have hmf:∀(fn:Fn) (first cap:Array Value) (w:World),(Instr.makeFunc fn first cap).run prog w=.ok (.func fn first cap) w:=fun _ _ _ _=>rfl
 go_enter func151,ntmps151
 go_wp2
 go_ret
 exact⟨rfl,by repeat (first | exact Below.refl _ _ | apply Below.drew | refine Below.alloc ?_ (Nat.le_refl _) _ | refine Below.alloc ?_ (by simp) _)⟩
theorem zvi (a b:Int) (w:World) (h:a<b) :
  Calls prog 151 #[iV 7,iV a,iV b] w (Rt w (iV (opv 7 a b))):=by
 have hmf:∀(fn:Fn) (first cap:Array Value) (w:World),(Instr.makeFunc fn first cap).run prog w=.ok (.func fn first cap) w:=fun _ _ _ _=>rfl
 go_enter func151,ntmps151
 go_wp2
 go_ret
 exact⟨yO (by simp [opv,h]),by repeat (first | exact Below.refl _ _ | apply Below.drew | refine Below.alloc ?_ (Nat.le_refl _) _ | refine Below.alloc ?_ (by simp) _)⟩
theorem zvh (a b:Int) (w:World) (h:b<a) :
  Calls prog 151 #[iV 7,iV a,iV b] w (Rt w (iV (opv 7 a b))):=by
 have hmf:∀(fn:Fn) (first cap:Array Value) (w:World),(Instr.makeFunc fn first cap).run prog w=.ok (.func fn first cap) w:=fun _ _ _ _=>rfl
 go_enter func151,ntmps151
 go_wp2
 go_ret
 exact⟨yO (by simp [opv,show ¬a<b from by omega]),by repeat (first | exact Below.refl _ _ | apply Below.drew | refine Below.alloc ?_ (Nat.le_refl _) _ | refine Below.alloc ?_ (by simp) _)⟩
theorem zvg (a b:Int) (w:World) (h:a=b) :
  Calls prog 151 #[iV 7,iV a,iV b] w (Rt w (iV (opv 7 a b))):=by
 subst h
 have hmf:∀(fn:Fn) (first cap:Array Value) (w:World),(Instr.makeFunc fn first cap).run prog w=.ok (.func fn first cap) w:=fun _ _ _ _=>rfl
 go_enter func151,ntmps151
 go_wp2
 go_ret
 exact⟨yO (by simp [opv]),by repeat (first | exact Below.refl _ _ | apply Below.drew | refine Below.alloc ?_ (Nat.le_refl _) _ | refine Below.alloc ?_ (by simp) _)⟩
theorem zvl (a b:Int) (w:World) (h:a<b) :
  Calls prog 151 #[iV 8,iV a,iV b] w (Rt w (iV (opv 8 a b))):=by
 have hmf:∀(fn:Fn) (first cap:Array Value) (w:World),(Instr.makeFunc fn first cap).run prog w=.ok (.func fn first cap) w:=fun _ _ _ _=>rfl
 go_enter func151,ntmps151
 go_wp2
 go_ret
 exact⟨yO (by simp [opv,show ¬a=b from by omega]),by repeat (first | exact Below.refl _ _ | apply Below.drew | refine Below.alloc ?_ (Nat.le_refl _) _ | refine Below.alloc ?_ (by simp) _)⟩
theorem zvk (a b:Int) (w:World) (h:b<a) :
  Calls prog 151 #[iV 8,iV a,iV b] w (Rt w (iV (opv 8 a b))):=by
 have hmf:∀(fn:Fn) (first cap:Array Value) (w:World),(Instr.makeFunc fn first cap).run prog w=.ok (.func fn first cap) w:=fun _ _ _ _=>rfl
 go_enter func151,ntmps151
 go_wp2
 go_ret
 exact⟨yO (by simp [opv,show ¬a=b from by omega]),by repeat (first | exact Below.refl _ _ | apply Below.drew | refine Below.alloc ?_ (Nat.le_refl _) _ | refine Below.alloc ?_ (by simp) _)⟩
theorem zvj (a b:Int) (w:World) (h:a=b) :
  Calls prog 151 #[iV 8,iV a,iV b] w (Rt w (iV (opv 8 a b))):=by
 subst h
 have hmf:∀(fn:Fn) (first cap:Array Value) (w:World),(Instr.makeFunc fn first cap).run prog w=.ok (.func fn first cap) w:=fun _ _ _ _=>rfl
 go_enter func151,ntmps151
 go_wp2
 go_ret
 exact⟨yO (by simp [opv]),by repeat (first | exact Below.refl _ _ | apply Below.drew | refine Below.alloc ?_ (Nat.le_refl _) _ | refine Below.alloc ?_ (by simp) _)⟩
theorem yaf (op a b:Int) (w:World) (h:op<1\/8<op) :
  Calls prog 151 #[iV op,iV a,iV b] w (Rt w (iV (opv op a b))):=by
 have hv:Hid (opv op a b=0):=by
  show opv op a b=0
  unfold opv
  rw [if_neg (by omega),if_neg (by omega),if_neg (by omega),if_neg (by omega),if_neg (by omega),if_neg (by omega),if_neg (by omega),if_neg (by omega)]
 have n1:(op == 1)=false:=beq_eq_false_iff_ne.2 (by omega)
 have n2:(op == 2)=false:=beq_eq_false_iff_ne.2 (by omega)
 have n3:(op == 3)=false:=beq_eq_false_iff_ne.2 (by omega)
 have n4:(op == 4)=false:=beq_eq_false_iff_ne.2 (by omega)
 have n5:(op == 5)=false:=beq_eq_false_iff_ne.2 (by omega)
 have n6:(op == 6)=false:=beq_eq_false_iff_ne.2 (by omega)
 have n7:(op == 7)=false:=beq_eq_false_iff_ne.2 (by omega)
 have n8:(op == 8)=false:=beq_eq_false_iff_ne.2 (by omega)
 have hmf:∀(fn:Fn) (first cap:Array Value) (w:World),(Instr.makeFunc fn first cap).run prog w=.ok (.func fn first cap) w:=fun _ _ _ _=>rfl
 clear h
 go_enter func151,ntmps151
 go_wp2
 go_ret
 exact⟨yO hv.out.symm,by repeat (first | exact Below.refl _ _ | apply Below.drew | refine Below.alloc ?_ (Nat.le_refl _) _ | refine Below.alloc ?_ (by simp) _)⟩
theorem zoh (op a b:Int) (w:World) :
  Calls prog 151 #[iV op,iV a,iV b] w (Rt w (iV (opv op a b))):=by
 by_cases h:op<1\/8<op
 ·exact yaf op a b w h
 ·obtain rfl | rfl | rfl | rfl | rfl | rfl | rfl | rfl:op=1\/op=2\/op=3\/op=4\/op=5\/op=6\/op=7\/op=8:=by omega
  ·exact ybe a b w
  ·exact ybf a b w
  ·exact ybg a b w
  ·exact ybh a b w
  ·exact ybi a b w
  ·exact ybj a b w
  ·obtain h1 | h1 | h1:a<b\/b<a\/a=b:=by omega
   ·exact zvi a b w h1
   ·exact zvh a b w h1
   ·exact zvg a b w h1
  ·obtain h1 | h1 | h1:a<b\/b<a\/a=b:=by omega
   ·exact zvl a b w h1
   ·exact zvk a b w h1
   ·exact zvj a b w h1
end Go.Proofs.YtjoapiafpahihabGreat
