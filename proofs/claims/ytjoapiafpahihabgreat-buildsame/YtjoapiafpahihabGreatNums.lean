import Derived.Test.YtjoapiafpahihabGreatRows
import Derived.Test.YtjoapiafpahihabGreatBase
import Derived.WalkKit
import Derived.WalkSpells
import Derived.WalkLawsBesides
import Derived.Below
namespace Go.Proofs.YtjoapiafpahihabGreat
open Go.RowKit
set_option linter.unusedVariables false
theorem z5 {p:Prop} (h:p):Hid p:=h
def p2 (k:Nat):Int:=((2 ^ k:Nat):Int)
theorem zhp (k:Nat):p2 (k+1)=p2 k+p2 k:=by unfold p2;rw [Nat.pow_succ];omega
theorem zmx (k:Nat):0<p2 k:=Int.natCast_pos.2 (Nat.two_pow_pos k)
theorem zrd (k j:Nat) (h:k<=j):p2 k<=p2 j:=Int.ofNat_le.2 (Nat.pow_le_pow_right (by omega) h)
theorem zrc:p2 62=4611686018427387904:=rfl
theorem zxj:p2 5=32:=rfl
theorem yk {k:IntKind} {a b:Int} (h:a=b):Ending.returned (.int k a)=.returned (.int k b):=by rw [h]
theorem Xs (s t:Int) (ht0:0<=t) (ht:t<=200) (hs0:-64<=s) (hs:s<=64):-12800<=s*t/\s*t<=12800:=by
 have h1:=Int.mul_le_mul_of_nonneg_right hs ht0
 have h2:=Int.mul_le_mul_of_nonneg_right hs0 ht0
 omega
theorem zqg (s p t l:Int) (hl0:0<=l) (hl:l<=5) (ht0:0<=t) (ht:t<=200) (hs0:-64<=s) (hs:s<=64) (hp0:-64<=p) (hp:p<=64) :
  bits BinOp.and IntKind.i64 (wrap64 (wrap64 (s*t)+p)) (wrap64 (wrap64 (2 ^ l.toNat) - 1))=(s*t+p) % p2 l.toNat:=by
 unfold p2
 have hr:=Xs s t ht0 ht hs0 hs
 have e1:wrap64 (wrap64 (s*t)+p)=s*t+p:=by unfold wrap64;omega
 have hq:((2:Int) ^ l.toNat)=((2 ^ l.toNat:Nat):Int):=by simp
 have hb:2 ^ l.toNat<=2 ^ 5:=Nat.pow_le_pow_right (by omega) (by omega)
 have hb0:=Nat.two_pow_pos l.toNat
 rw [e1,hq]
 have e2:wrap64 (wrap64 ((2 ^ l.toNat:Nat):Int) - 1)=((2 ^ l.toNat:Nat):Int) - 1:=by
  generalize 2 ^ l.toNat=P at *
  unfold wrap64;omega
 rw [e2]
 exact NumMath.i64_mask _ _ (by omega)
set_option maxHeartbeats 400000 in
theorem zh0 (n lo hi:Int) (w:World) (h1:lo<=n) (h2:n<=hi) :
  Calls Tryz.prog 195 #[iV n,iV lo,iV hi] w fun e w'=>e=.returned (.bool true)/\w'=w:=by
 go_enter Tryz.func195,Tryz.ntmps195
 go_wp2
 go_ret
 exact⟨rfl,rfl⟩
set_option maxHeartbeats 400000 in
theorem zkr (n lo hi:Int) (w:World) (h:¬(lo<=n/\n<=hi)) :
  Calls Tryz.prog 195 #[iV n,iV lo,iV hi] w fun e w'=>e=.returned (.bool false)/\w'=w:=by
 by_cases h1:lo<=n
 ·have h2:decide (n<=hi)=false:=decide_eq_false (by omega)
  clear h
  go_enter Tryz.func195,Tryz.ntmps195
  go_wp2
  go_ret
  exact⟨rfl,rfl⟩
 ·clear h
  go_enter Tryz.func195,Tryz.ntmps195
  go_wp2
  go_ret
  exact⟨rfl,rfl⟩
def inB (n lo hi:Int):Bool:=decide (lo<=n/\n<=hi)
theorem ZL (n lo hi:Int) (w:World) :
  Calls Tryz.prog 195 #[iV n,iV lo,iV hi] w fun e w'=>e=.returned (.bool (inB n lo hi))/\w'=w:=by
 by_cases h:lo<=n/\n<=hi
 ·rw [show inB n lo hi=true from decide_eq_true h]
  exact zh0 n lo hi w h.1 h.2
 ·rw [show inB n lo hi=false from decide_eq_false h]
  exact zkr n lo hi w h
def idx (s p t l:Int):Int :=
 if 0<=l/\l<=5/\0<=t/\t<=200/\-64<=s/\s<=64/\-64<=p/\p<=64 then (s*t+p) % p2 l.toNat else 0
set_option maxHeartbeats 400000 in
theorem zag (s p t l:Int) (w:World) :
  Calls Tryz.prog 175 #[iV s,iV p,iV t,iV l] w fun e w'=>e=.returned (iV (idx s p t l))/\w'=w:=by
 unfold idx
 by_cases hl:0<=l/\l<=5
 ·have bl:inB l 0 5=true:=decide_eq_true hl
  by_cases ht:0<=t/\t<=200
  ·have bt:inB t 0 200=true:=decide_eq_true ht
   by_cases hs:-64<=s/\s<=64
   ·have bs:inB s (-64) 64=true:=decide_eq_true hs
    by_cases hp:-64<=p/\p<=64
    ·have bp:inB p (-64) 64=true:=decide_eq_true hp
     obtain⟨hl0,hl1⟩:=hl
     obtain⟨ht0,ht1⟩:=ht
     obtain⟨hs0,hs1⟩:=hs
     obtain⟨hp0,hp1⟩:=hp
     rw [if_pos ⟨hl0,hl1,ht0,ht1,hs0,hs1,hp0,hp1⟩]
     go_enter Tryz.func175,Tryz.ntmps175
     go_wp2_with (go_at_call 195;refine (ZL _ _ _ _).mono ?_;rintro e w' ⟨rfl,rfl⟩)
     go_ret
     exact⟨yk (zqg s p t l hl0 hl1 ht0 ht1 hs0 hs1 hp0 hp1),rfl⟩
    ·have bp:inB p (-64) 64=false:=decide_eq_false hp
     rw [if_neg (by omega)]
     clear hl ht hs hp
     go_enter Tryz.func175,Tryz.ntmps175
     go_wp2_with (go_at_call 195;refine (ZL _ _ _ _).mono ?_;rintro e w' ⟨rfl,rfl⟩)
     go_ret
     exact⟨rfl,rfl⟩
   ·have bs:inB s (-64) 64=false:=decide_eq_false hs
    rw [if_neg (by omega)]
    clear hl ht hs
    go_enter Tryz.func175,Tryz.ntmps175
    go_wp2_with (go_at_call 195;refine (ZL _ _ _ _).mono ?_;rintro e w' ⟨rfl,rfl⟩)
    go_ret
    exact⟨rfl,rfl⟩
  ·have bt:inB t 0 200=false:=decide_eq_false ht
   rw [if_neg (by omega)]
   clear hl ht
   go_enter Tryz.func175,Tryz.ntmps175
   go_wp2_with (go_at_call 195;refine (ZL _ _ _ _).mono ?_;rintro e w' ⟨rfl,rfl⟩)
   go_ret
   exact⟨rfl,rfl⟩
 ·have bl:inB l 0 5=false:=decide_eq_false hl
  rw [if_neg (by omega)]
  clear hl
  go_enter Tryz.func175,Tryz.ntmps175
  go_wp2_with (go_at_call 195;refine (ZL _ _ _ _).mono ?_;rintro e w' ⟨rfl,rfl⟩)
  go_ret
  exact⟨rfl,rfl⟩
set_option maxHeartbeats 400000 in
theorem ze6 (l:Nat) (w:World) (hl:l<=62) :
  Calls Tryz.prog 35 #[iV l] w fun e w'=>e=.returned (iV (p2 l))/\w'=w:=by
 go_enter Tryz.func35,Tryz.ntmps35
 go_wp2
 go_loop [3,4] (fun n i=>∃k:Nat,k<=l/\i=iV k/\n=iV (p2 k)) (fun _ i=>l - (intOf i).toNat)
 case atStart=>exact⟨0,Nat.zero_le _,rfl,rfl⟩
 case round =>
  obtain⟨k,hk,rfl,rfl⟩:=hrel
  by_cases hlt:k<l
  ·have hb0:=zmx k
   have hb:=zrd (k+1) 62 (by omega)
   rw [zrc,zhp] at hb
   go_wp2
   go_round
   case rel=>exact⟨k+1,by omega,by go_num,by rw [zhp]⟩
   case measure=>simp [intOf];omega
  ·have hkl:k=l:=by omega
   subst hkl
   go_wp2
   go_ret
   exact⟨rfl,rfl⟩
theorem znw (a b:Int) (hb:0<b) (h:a.tmod b<0):a % b=a.tmod b+b:=by
 have h1:=Int.emod_nonneg a (show b≠0 by omega)
 have h2:=Int.emod_lt_of_pos a hb
 have h3:=Int.tmod_eq_emod (a:=a) (b:=b)
 split at h3 <;> omega
theorem znx (a b:Int) (hb:0<b) (h:0<=a.tmod b):a % b=a.tmod b:=by
 have h1:=Int.emod_nonneg a (show b≠0 by omega)
 have h2:=Int.emod_lt_of_pos a hb
 have h3:=Int.tmod_eq_emod (a:=a) (b:=b)
 split at h3 <;> omega
set_option maxHeartbeats 400000 in
theorem YM (a b:Int) (w:World) (ha0:-9223372036854775808<=a) (ha:a<=9223372036854775807) (hb0:0<b) (hb:b<=9223372036854775807) :
  Calls Tryz.prog 48 #[iV a,iV b] w fun e w'=>e=.returned (iV (a % b))/\w'=w:=by
 have h1:=Int.emod_nonneg a (show b≠0 by omega)
 have h2:=Int.emod_lt_of_pos a hb0
 by_cases hn:a.tmod b<0
 ·have e1:wrap64 (a.tmod b+b)=a % b:=by
   rw [znw a b hb0 hn] at *;unfold wrap64;omega
  have E:=z5 e1
  clear e1 h1 h2
  go_enter Tryz.func48,Tryz.ntmps48
  go_wp2
  go_ret
  exact⟨yk E.out,rfl⟩
 ·have e1:=znx a b hb0 (by omega)
  have E:=z5 e1
  clear e1 h1 h2
  go_enter Tryz.func48,Tryz.ntmps48
  go_wp2
  go_ret
  exact⟨yk E.out.symm,rfl⟩
set_option maxHeartbeats 400000 in
theorem zs4 (s p t l:Int) (w:World) :
  Calls Tryz.prog 83 #[iV s,iV p,iV t,iV l] w fun e w'=>e=.returned (iV (idx s p t l))/\w'=w:=by
 unfold idx
 by_cases h:0<=l/\l<=5/\0<=t/\t<=200/\-64<=s/\s<=64/\-64<=p/\p<=64
 ·rw [if_pos h]
  obtain⟨hl0,hl1,ht0,ht1,hs0,hs1,hp0,hp1⟩:=h
  have hr:=Xs s t ht0 ht1 hs0 hs1
  obtain⟨L,rfl⟩:=Int.eq_ofNat_of_zero_le hl0
  have hb:=zrd L 5 (by omega)
  rw [zxj] at hb
  have hb0:=zmx L
  rw [Int.toNat_natCast]
  go_enter Tryz.func83,Tryz.ntmps83
  go_wp2_with fail
  refine (ze6 L _ (by omega)).mono ?_
  rintro e w' ⟨rfl,rfl⟩
  go_wp2_with fail
  refine (YM _ _ _ (by omega) (by omega) (by omega) (by omega)).mono ?_
  rintro e w' ⟨rfl,rfl⟩
  go_wp2
  go_ret
  exact⟨rfl,rfl⟩
 ·rw [if_neg h]
  go_enter Tryz.func83,Tryz.ntmps83
  go_wp2_with fail
  all_goals first | (exfalso;omega) | (go_ret;exact⟨rfl,rfl⟩)
open NumMath
theorem zsh (A:Int):(A.tmod 2=0/\A % 2=0)\/(A.tmod 2=1/\A % 2=1)\/(A.tmod 2=-1/\A % 2=1):=by
 have h1:=Int.emod_nonneg A (show (2:Int)≠0 by omega)
 have h2:=Int.emod_lt_of_pos A (show (0:Int)<2 by omega)
 by_cases h:A.tmod 2<0
 ·have h3:=znw A 2 (by omega) h
  have h4:=Int.tmod_eq_emod (a:=A) (b:=2)
  generalize A.tmod 2=T at *
  split at h4 <;> omega
 ·have h3:=znx A 2 (by omega) (by omega)
  generalize A.tmod 2=T at *
  omega
theorem zrs (A r:Int) (h0:-9223372036854775808<=A) (h1:A<=9223372036854775807) (hr:A % 2=r):wrap64 ((wrap64 (A - r)).tdiv 2)=A / 2:=by
 have e1:wrap64 (A - r)=2*(A / 2):=by unfold wrap64;omega
 rw [e1,Int.mul_tdiv_cancel_left _ (by omega)]
 unfold wrap64;omega
theorem zs0 (A:Int) (hr:A % 2=0):A.tdiv 2=A / 2:=by
 have e1:A=2*(A / 2):=by omega
 rw [e1,Int.mul_tdiv_cancel_left _ (by omega)]
 omega
theorem xr {a b:Int} (h:a=b):iV a=iV b:=by rw [h]
set_option maxHeartbeats 1000000 in
theorem zu0 (a b:Int) (w:World) (ha0:-9223372036854775808<=a) (ha:a<=9223372036854775807) (hb0:-9223372036854775808<=b) (hb:b<=9223372036854775807) :
  Calls Tryz.prog 125 #[iV 4,iV a,iV b] w fun e w'=>e=.returned (iV (bits .and .i64 a b))/\w'=w:=by
 rw [NumMath.bits_and]
 generalize hX:word a &&& word b=X
 have HX:=z5 hX
 clear hX
 go_enter Tryz.func125,Tryz.ntmps125
 go_wp2
 go_loop [1,2,7,8,9] (fun u v n q i=>∃k:Nat,k<=64/\u=iV (zse a k)/\v=iV (zse b k)/\n=iV (low X k)/\q=iV (pow k)/\i=iV k) (fun _ _ _ _ i=>64 - (intOf i).toNat)
 case atStart=>exact⟨0,Nat.zero_le _,by rw [zs8],by rw [zs8],by rw [zte],by rw [zti],rfl⟩
 case round =>
  obtain⟨k,hk,rfl,rfl,rfl,rfl,rfl⟩:=hrel
  by_cases hlt:k<64
  ·obtain⟨hA0,hA1⟩:=zs6 a k ha0 ha
   obtain⟨hB0,hB1⟩:=zs6 b k hb0 hb
   have hA:=z5 (zs7 a k)
   have hB:=z5 (zs7 b k)
   have wA:=z5 (zsi a k hlt)
   have wB:=z5 (zsi b k hlt)
   have hbit:=z5 (zwo (word a) (word b) k)
   rw [HX.out] at hbit
   generalize zse a k=A at *
   generalize zse b k=B at *
   clear ha0 ha hb0 hb
   rcases zsh A with ⟨hp,rA⟩ | ⟨hp,rA⟩ | ⟨hp,rA⟩ <;> rcases zsh B with ⟨hq,rB⟩ | ⟨hq,rB⟩ | ⟨hq,rB⟩
   ·have RA:=z5 rA
    have RB:=z5 rB
    clear rA rB
    go_wp2
    have b1:word a / 2 ^ k % 2=0:=by have h:=wA.out;have h':=RA.out;omega
    have b2:word b / 2 ^ k % 2=0:=by have h:=wB.out;have h':=RB.out;omega
    have b3:X / 2 ^ k % 2=0:=by have h:=hbit.out;rw [b1,b2] at h;exact h
    refine⟨⟨k+1,by omega,xr ?_,xr ?_,xr ?_,xr (pow_succ k),xr (by omega)⟩,by simp [intOf];omega⟩
    ·rw [hA.out];exact zs0 A RA.out
    ·rw [hB.out];exact zs0 B RB.out
    ·exact zsd X k b3
   ·have RA:=z5 rA
    have RB:=z5 rB
    clear rA rB
    go_wp2
    have b1:word a / 2 ^ k % 2=0:=by have h:=wA.out;have h':=RA.out;omega
    have b2:word b / 2 ^ k % 2=1:=by have h:=wB.out;have h':=RB.out;omega
    have b3:X / 2 ^ k % 2=0:=by have h:=hbit.out;rw [b1,b2] at h;exact h
    refine⟨⟨k+1,by omega,xr ?_,xr ?_,xr ?_,xr (pow_succ k),xr (by omega)⟩,by simp [intOf];omega⟩
    ·rw [hA.out];exact zs0 A RA.out
    ·rw [hB.out];exact zrs B 1 hB0 hB1 RB.out
    ·exact zsd X k b3
   ·have RA:=z5 rA
    have RB:=z5 rB
    clear rA rB
    go_wp2
    have b1:word a / 2 ^ k % 2=0:=by have h:=wA.out;have h':=RA.out;omega
    have b2:word b / 2 ^ k % 2=1:=by have h:=wB.out;have h':=RB.out;omega
    have b3:X / 2 ^ k % 2=0:=by have h:=hbit.out;rw [b1,b2] at h;exact h
    refine⟨⟨k+1,by omega,xr ?_,xr ?_,xr ?_,xr (pow_succ k),xr (by omega)⟩,by simp [intOf];omega⟩
    ·rw [hA.out];exact zs0 A RA.out
    ·rw [hB.out];exact zrs B 1 hB0 hB1 RB.out
    ·exact zsd X k b3
   ·have RA:=z5 rA
    have RB:=z5 rB
    clear rA rB
    go_wp2
    have b1:word a / 2 ^ k % 2=1:=by have h:=wA.out;have h':=RA.out;omega
    have b2:word b / 2 ^ k % 2=0:=by have h:=wB.out;have h':=RB.out;omega
    have b3:X / 2 ^ k % 2=0:=by have h:=hbit.out;rw [b1,b2] at h;exact h
    refine⟨⟨k+1,by omega,xr ?_,xr ?_,xr ?_,xr (pow_succ k),xr (by omega)⟩,by simp [intOf];omega⟩
    ·rw [hA.out];exact zrs A 1 hA0 hA1 RA.out
    ·rw [hB.out];exact zs0 B RB.out
    ·exact zsd X k b3
   ·have RA:=z5 rA
    have RB:=z5 rB
    clear rA rB
    go_wp2
    have b1:word a / 2 ^ k % 2=1:=by have h:=wA.out;have h':=RA.out;omega
    have b2:word b / 2 ^ k % 2=1:=by have h:=wB.out;have h':=RB.out;omega
    have b3:X / 2 ^ k % 2=1:=by have h:=hbit.out;rw [b1,b2] at h;exact h
    refine⟨⟨k+1,by omega,xr ?_,xr ?_,xr ?_,xr (pow_succ k),xr (by omega)⟩,by simp [intOf];omega⟩
    ·rw [hA.out];exact zrs A 1 hA0 hA1 RA.out
    ·rw [hB.out];exact zrs B 1 hB0 hB1 RB.out
    ·exact zru X k b3
   ·have RA:=z5 rA
    have RB:=z5 rB
    clear rA rB
    go_wp2
    have b1:word a / 2 ^ k % 2=1:=by have h:=wA.out;have h':=RA.out;omega
    have b2:word b / 2 ^ k % 2=1:=by have h:=wB.out;have h':=RB.out;omega
    have b3:X / 2 ^ k % 2=1:=by have h:=hbit.out;rw [b1,b2] at h;exact h
    refine⟨⟨k+1,by omega,xr ?_,xr ?_,xr ?_,xr (pow_succ k),xr (by omega)⟩,by simp [intOf];omega⟩
    ·rw [hA.out];exact zrs A 1 hA0 hA1 RA.out
    ·rw [hB.out];exact zrs B 1 hB0 hB1 RB.out
    ·exact zru X k b3
   ·have RA:=z5 rA
    have RB:=z5 rB
    clear rA rB
    go_wp2
    have b1:word a / 2 ^ k % 2=1:=by have h:=wA.out;have h':=RA.out;omega
    have b2:word b / 2 ^ k % 2=0:=by have h:=wB.out;have h':=RB.out;omega
    have b3:X / 2 ^ k % 2=0:=by have h:=hbit.out;rw [b1,b2] at h;exact h
    refine⟨⟨k+1,by omega,xr ?_,xr ?_,xr ?_,xr (pow_succ k),xr (by omega)⟩,by simp [intOf];omega⟩
    ·rw [hA.out];exact zrs A 1 hA0 hA1 RA.out
    ·rw [hB.out];exact zs0 B RB.out
    ·exact zsd X k b3
   ·have RA:=z5 rA
    have RB:=z5 rB
    clear rA rB
    go_wp2
    have b1:word a / 2 ^ k % 2=1:=by have h:=wA.out;have h':=RA.out;omega
    have b2:word b / 2 ^ k % 2=1:=by have h:=wB.out;have h':=RB.out;omega
    have b3:X / 2 ^ k % 2=1:=by have h:=hbit.out;rw [b1,b2] at h;exact h
    refine⟨⟨k+1,by omega,xr ?_,xr ?_,xr ?_,xr (pow_succ k),xr (by omega)⟩,by simp [intOf];omega⟩
    ·rw [hA.out];exact zrs A 1 hA0 hA1 RA.out
    ·rw [hB.out];exact zrs B 1 hB0 hB1 RB.out
    ·exact zru X k b3
   ·have RA:=z5 rA
    have RB:=z5 rB
    clear rA rB
    go_wp2
    have b1:word a / 2 ^ k % 2=1:=by have h:=wA.out;have h':=RA.out;omega
    have b2:word b / 2 ^ k % 2=1:=by have h:=wB.out;have h':=RB.out;omega
    have b3:X / 2 ^ k % 2=1:=by have h:=hbit.out;rw [b1,b2] at h;exact h
    refine⟨⟨k+1,by omega,xr ?_,xr ?_,xr ?_,xr (pow_succ k),xr (by omega)⟩,by simp [intOf];omega⟩
    ·rw [hA.out];exact zrs A 1 hA0 hA1 RA.out
    ·rw [hB.out];exact zrs B 1 hB0 hB1 RB.out
    ·exact zru X k b3
  ·have hkl:k=64:=by omega
   subst hkl
   go_wp2
   go_ret
   exact⟨rfl,rfl⟩
set_option maxHeartbeats 1000000 in
theorem zu6 (a b:Int) (w:World) (ha0:-9223372036854775808<=a) (ha:a<=9223372036854775807) (hb0:-9223372036854775808<=b) (hb:b<=9223372036854775807) :
  Calls Tryz.prog 125 #[iV 5,iV a,iV b] w fun e w'=>e=.returned (iV (bits .or .i64 a b))/\w'=w:=by
 rw [NumMath.bits_or]
 generalize hX:word a ||| word b=X
 have HX:=z5 hX
 clear hX
 go_enter Tryz.func125,Tryz.ntmps125
 go_wp2
 go_loop [1,2,7,8,9] (fun u v n q i=>∃k:Nat,k<=64/\u=iV (zse a k)/\v=iV (zse b k)/\n=iV (low X k)/\q=iV (pow k)/\i=iV k) (fun _ _ _ _ i=>64 - (intOf i).toNat)
 case atStart=>exact⟨0,Nat.zero_le _,by rw [zs8],by rw [zs8],by rw [zte],by rw [zti],rfl⟩
 case round =>
  obtain⟨k,hk,rfl,rfl,rfl,rfl,rfl⟩:=hrel
  by_cases hlt:k<64
  ·obtain⟨hA0,hA1⟩:=zs6 a k ha0 ha
   obtain⟨hB0,hB1⟩:=zs6 b k hb0 hb
   have hA:=z5 (zs7 a k)
   have hB:=z5 (zs7 b k)
   have wA:=z5 (zsi a k hlt)
   have wB:=z5 (zsi b k hlt)
   have hbit:=z5 (zwz (word a) (word b) k)
   rw [HX.out] at hbit
   generalize zse a k=A at *
   generalize zse b k=B at *
   clear ha0 ha hb0 hb
   rcases zsh A with ⟨hp,rA⟩ | ⟨hp,rA⟩ | ⟨hp,rA⟩ <;> rcases zsh B with ⟨hq,rB⟩ | ⟨hq,rB⟩ | ⟨hq,rB⟩
   ·have RA:=z5 rA
    have RB:=z5 rB
    clear rA rB
    go_wp2
    have b1:word a / 2 ^ k % 2=0:=by have h:=wA.out;have h':=RA.out;omega
    have b2:word b / 2 ^ k % 2=0:=by have h:=wB.out;have h':=RB.out;omega
    have b3:X / 2 ^ k % 2=0:=by have h:=hbit.out;rw [b1,b2] at h;exact h
    refine⟨⟨k+1,by omega,xr ?_,xr ?_,xr ?_,xr (pow_succ k),xr (by omega)⟩,by simp [intOf];omega⟩
    ·rw [hA.out];exact zs0 A RA.out
    ·rw [hB.out];exact zs0 B RB.out
    ·exact zsd X k b3
   ·have RA:=z5 rA
    have RB:=z5 rB
    clear rA rB
    go_wp2
    have b1:word a / 2 ^ k % 2=0:=by have h:=wA.out;have h':=RA.out;omega
    have b2:word b / 2 ^ k % 2=1:=by have h:=wB.out;have h':=RB.out;omega
    have b3:X / 2 ^ k % 2=1:=by have h:=hbit.out;rw [b1,b2] at h;exact h
    refine⟨⟨k+1,by omega,xr ?_,xr ?_,xr ?_,xr (pow_succ k),xr (by omega)⟩,by simp [intOf];omega⟩
    ·rw [hA.out];exact zs0 A RA.out
    ·rw [hB.out];exact zrs B 1 hB0 hB1 RB.out
    ·exact zru X k b3
   ·have RA:=z5 rA
    have RB:=z5 rB
    clear rA rB
    go_wp2
    have b1:word a / 2 ^ k % 2=0:=by have h:=wA.out;have h':=RA.out;omega
    have b2:word b / 2 ^ k % 2=1:=by have h:=wB.out;have h':=RB.out;omega
    have b3:X / 2 ^ k % 2=1:=by have h:=hbit.out;rw [b1,b2] at h;exact h
    refine⟨⟨k+1,by omega,xr ?_,xr ?_,xr ?_,xr (pow_succ k),xr (by omega)⟩,by simp [intOf];omega⟩
    ·rw [hA.out];exact zs0 A RA.out
    ·rw [hB.out];exact zrs B 1 hB0 hB1 RB.out
    ·exact zru X k b3
   ·have RA:=z5 rA
    have RB:=z5 rB
    clear rA rB
    go_wp2
    have b1:word a / 2 ^ k % 2=1:=by have h:=wA.out;have h':=RA.out;omega
    have b2:word b / 2 ^ k % 2=0:=by have h:=wB.out;have h':=RB.out;omega
    have b3:X / 2 ^ k % 2=1:=by have h:=hbit.out;rw [b1,b2] at h;exact h
    refine⟨⟨k+1,by omega,xr ?_,xr ?_,xr ?_,xr (pow_succ k),xr (by omega)⟩,by simp [intOf];omega⟩
    ·rw [hA.out];exact zrs A 1 hA0 hA1 RA.out
    ·rw [hB.out];exact zs0 B RB.out
    ·exact zru X k b3
   ·have RA:=z5 rA
    have RB:=z5 rB
    clear rA rB
    go_wp2
    have b1:word a / 2 ^ k % 2=1:=by have h:=wA.out;have h':=RA.out;omega
    have b2:word b / 2 ^ k % 2=1:=by have h:=wB.out;have h':=RB.out;omega
    have b3:X / 2 ^ k % 2=1:=by have h:=hbit.out;rw [b1,b2] at h;exact h
    refine⟨⟨k+1,by omega,xr ?_,xr ?_,xr ?_,xr (pow_succ k),xr (by omega)⟩,by simp [intOf];omega⟩
    ·rw [hA.out];exact zrs A 1 hA0 hA1 RA.out
    ·rw [hB.out];exact zrs B 1 hB0 hB1 RB.out
    ·exact zru X k b3
   ·have RA:=z5 rA
    have RB:=z5 rB
    clear rA rB
    go_wp2
    have b1:word a / 2 ^ k % 2=1:=by have h:=wA.out;have h':=RA.out;omega
    have b2:word b / 2 ^ k % 2=1:=by have h:=wB.out;have h':=RB.out;omega
    have b3:X / 2 ^ k % 2=1:=by have h:=hbit.out;rw [b1,b2] at h;exact h
    refine⟨⟨k+1,by omega,xr ?_,xr ?_,xr ?_,xr (pow_succ k),xr (by omega)⟩,by simp [intOf];omega⟩
    ·rw [hA.out];exact zrs A 1 hA0 hA1 RA.out
    ·rw [hB.out];exact zrs B 1 hB0 hB1 RB.out
    ·exact zru X k b3
   ·have RA:=z5 rA
    have RB:=z5 rB
    clear rA rB
    go_wp2
    have b1:word a / 2 ^ k % 2=1:=by have h:=wA.out;have h':=RA.out;omega
    have b2:word b / 2 ^ k % 2=0:=by have h:=wB.out;have h':=RB.out;omega
    have b3:X / 2 ^ k % 2=1:=by have h:=hbit.out;rw [b1,b2] at h;exact h
    refine⟨⟨k+1,by omega,xr ?_,xr ?_,xr ?_,xr (pow_succ k),xr (by omega)⟩,by simp [intOf];omega⟩
    ·rw [hA.out];exact zrs A 1 hA0 hA1 RA.out
    ·rw [hB.out];exact zs0 B RB.out
    ·exact zru X k b3
   ·have RA:=z5 rA
    have RB:=z5 rB
    clear rA rB
    go_wp2
    have b1:word a / 2 ^ k % 2=1:=by have h:=wA.out;have h':=RA.out;omega
    have b2:word b / 2 ^ k % 2=1:=by have h:=wB.out;have h':=RB.out;omega
    have b3:X / 2 ^ k % 2=1:=by have h:=hbit.out;rw [b1,b2] at h;exact h
    refine⟨⟨k+1,by omega,xr ?_,xr ?_,xr ?_,xr (pow_succ k),xr (by omega)⟩,by simp [intOf];omega⟩
    ·rw [hA.out];exact zrs A 1 hA0 hA1 RA.out
    ·rw [hB.out];exact zrs B 1 hB0 hB1 RB.out
    ·exact zru X k b3
   ·have RA:=z5 rA
    have RB:=z5 rB
    clear rA rB
    go_wp2
    have b1:word a / 2 ^ k % 2=1:=by have h:=wA.out;have h':=RA.out;omega
    have b2:word b / 2 ^ k % 2=1:=by have h:=wB.out;have h':=RB.out;omega
    have b3:X / 2 ^ k % 2=1:=by have h:=hbit.out;rw [b1,b2] at h;exact h
    refine⟨⟨k+1,by omega,xr ?_,xr ?_,xr ?_,xr (pow_succ k),xr (by omega)⟩,by simp [intOf];omega⟩
    ·rw [hA.out];exact zrs A 1 hA0 hA1 RA.out
    ·rw [hB.out];exact zrs B 1 hB0 hB1 RB.out
    ·exact zru X k b3
  ·have hkl:k=64:=by omega
   subst hkl
   go_wp2
   go_ret
   exact⟨rfl,rfl⟩
set_option maxHeartbeats 1000000 in
theorem zu1 (a b:Int) (w:World) (ha0:-9223372036854775808<=a) (ha:a<=9223372036854775807) (hb0:-9223372036854775808<=b) (hb:b<=9223372036854775807) :
  Calls Tryz.prog 125 #[iV 6,iV a,iV b] w fun e w'=>e=.returned (iV (bits .xor .i64 a b))/\w'=w:=by
 rw [NumMath.bits_xor]
 generalize hX:word a ^^^ word b=X
 have HX:=z5 hX
 clear hX
 go_enter Tryz.func125,Tryz.ntmps125
 go_wp2
 go_loop [1,2,7,8,9] (fun u v n q i=>∃k:Nat,k<=64/\u=iV (zse a k)/\v=iV (zse b k)/\n=iV (low X k)/\q=iV (pow k)/\i=iV k) (fun _ _ _ _ i=>64 - (intOf i).toNat)
 case atStart=>exact⟨0,Nat.zero_le _,by rw [zs8],by rw [zs8],by rw [zte],by rw [zti],rfl⟩
 case round =>
  obtain⟨k,hk,rfl,rfl,rfl,rfl,rfl⟩:=hrel
  by_cases hlt:k<64
  ·obtain⟨hA0,hA1⟩:=zs6 a k ha0 ha
   obtain⟨hB0,hB1⟩:=zs6 b k hb0 hb
   have hA:=z5 (zs7 a k)
   have hB:=z5 (zs7 b k)
   have wA:=z5 (zsi a k hlt)
   have wB:=z5 (zsi b k hlt)
   have hbit:=z5 (zwx (word a) (word b) k)
   rw [HX.out] at hbit
   generalize zse a k=A at *
   generalize zse b k=B at *
   clear ha0 ha hb0 hb
   rcases zsh A with ⟨hp,rA⟩ | ⟨hp,rA⟩ | ⟨hp,rA⟩ <;> rcases zsh B with ⟨hq,rB⟩ | ⟨hq,rB⟩ | ⟨hq,rB⟩
   ·have RA:=z5 rA
    have RB:=z5 rB
    clear rA rB
    go_wp2
    have b1:word a / 2 ^ k % 2=0:=by have h:=wA.out;have h':=RA.out;omega
    have b2:word b / 2 ^ k % 2=0:=by have h:=wB.out;have h':=RB.out;omega
    have b3:X / 2 ^ k % 2=0:=by have h:=hbit.out;rw [b1,b2] at h;exact h
    refine⟨⟨k+1,by omega,xr ?_,xr ?_,xr ?_,xr (pow_succ k),xr (by omega)⟩,by simp [intOf];omega⟩
    ·rw [hA.out];exact zs0 A RA.out
    ·rw [hB.out];exact zs0 B RB.out
    ·exact zsd X k b3
   ·have RA:=z5 rA
    have RB:=z5 rB
    clear rA rB
    go_wp2
    have b1:word a / 2 ^ k % 2=0:=by have h:=wA.out;have h':=RA.out;omega
    have b2:word b / 2 ^ k % 2=1:=by have h:=wB.out;have h':=RB.out;omega
    have b3:X / 2 ^ k % 2=1:=by have h:=hbit.out;rw [b1,b2] at h;exact h
    refine⟨⟨k+1,by omega,xr ?_,xr ?_,xr ?_,xr (pow_succ k),xr (by omega)⟩,by simp [intOf];omega⟩
    ·rw [hA.out];exact zs0 A RA.out
    ·rw [hB.out];exact zrs B 1 hB0 hB1 RB.out
    ·exact zru X k b3
   ·have RA:=z5 rA
    have RB:=z5 rB
    clear rA rB
    go_wp2
    have b1:word a / 2 ^ k % 2=0:=by have h:=wA.out;have h':=RA.out;omega
    have b2:word b / 2 ^ k % 2=1:=by have h:=wB.out;have h':=RB.out;omega
    have b3:X / 2 ^ k % 2=1:=by have h:=hbit.out;rw [b1,b2] at h;exact h
    refine⟨⟨k+1,by omega,xr ?_,xr ?_,xr ?_,xr (pow_succ k),xr (by omega)⟩,by simp [intOf];omega⟩
    ·rw [hA.out];exact zs0 A RA.out
    ·rw [hB.out];exact zrs B 1 hB0 hB1 RB.out
    ·exact zru X k b3
   ·have RA:=z5 rA
    have RB:=z5 rB
    clear rA rB
    go_wp2
    have b1:word a / 2 ^ k % 2=1:=by have h:=wA.out;have h':=RA.out;omega
    have b2:word b / 2 ^ k % 2=0:=by have h:=wB.out;have h':=RB.out;omega
    have b3:X / 2 ^ k % 2=1:=by have h:=hbit.out;rw [b1,b2] at h;exact h
    refine⟨⟨k+1,by omega,xr ?_,xr ?_,xr ?_,xr (pow_succ k),xr (by omega)⟩,by simp [intOf];omega⟩
    ·rw [hA.out];exact zrs A 1 hA0 hA1 RA.out
    ·rw [hB.out];exact zs0 B RB.out
    ·exact zru X k b3
   ·have RA:=z5 rA
    have RB:=z5 rB
    clear rA rB
    go_wp2
    have b1:word a / 2 ^ k % 2=1:=by have h:=wA.out;have h':=RA.out;omega
    have b2:word b / 2 ^ k % 2=1:=by have h:=wB.out;have h':=RB.out;omega
    have b3:X / 2 ^ k % 2=0:=by have h:=hbit.out;rw [b1,b2] at h;exact h
    refine⟨⟨k+1,by omega,xr ?_,xr ?_,xr ?_,xr (pow_succ k),xr (by omega)⟩,by simp [intOf];omega⟩
    ·rw [hA.out];exact zrs A 1 hA0 hA1 RA.out
    ·rw [hB.out];exact zrs B 1 hB0 hB1 RB.out
    ·exact zsd X k b3
   ·have RA:=z5 rA
    have RB:=z5 rB
    clear rA rB
    go_wp2
    have b1:word a / 2 ^ k % 2=1:=by have h:=wA.out;have h':=RA.out;omega
    have b2:word b / 2 ^ k % 2=1:=by have h:=wB.out;have h':=RB.out;omega
    have b3:X / 2 ^ k % 2=0:=by have h:=hbit.out;rw [b1,b2] at h;exact h
    refine⟨⟨k+1,by omega,xr ?_,xr ?_,xr ?_,xr (pow_succ k),xr (by omega)⟩,by simp [intOf];omega⟩
    ·rw [hA.out];exact zrs A 1 hA0 hA1 RA.out
    ·rw [hB.out];exact zrs B 1 hB0 hB1 RB.out
    ·exact zsd X k b3
   ·have RA:=z5 rA
    have RB:=z5 rB
    clear rA rB
    go_wp2
    have b1:word a / 2 ^ k % 2=1:=by have h:=wA.out;have h':=RA.out;omega
    have b2:word b / 2 ^ k % 2=0:=by have h:=wB.out;have h':=RB.out;omega
    have b3:X / 2 ^ k % 2=1:=by have h:=hbit.out;rw [b1,b2] at h;exact h
    refine⟨⟨k+1,by omega,xr ?_,xr ?_,xr ?_,xr (pow_succ k),xr (by omega)⟩,by simp [intOf];omega⟩
    ·rw [hA.out];exact zrs A 1 hA0 hA1 RA.out
    ·rw [hB.out];exact zs0 B RB.out
    ·exact zru X k b3
   ·have RA:=z5 rA
    have RB:=z5 rB
    clear rA rB
    go_wp2
    have b1:word a / 2 ^ k % 2=1:=by have h:=wA.out;have h':=RA.out;omega
    have b2:word b / 2 ^ k % 2=1:=by have h:=wB.out;have h':=RB.out;omega
    have b3:X / 2 ^ k % 2=0:=by have h:=hbit.out;rw [b1,b2] at h;exact h
    refine⟨⟨k+1,by omega,xr ?_,xr ?_,xr ?_,xr (pow_succ k),xr (by omega)⟩,by simp [intOf];omega⟩
    ·rw [hA.out];exact zrs A 1 hA0 hA1 RA.out
    ·rw [hB.out];exact zrs B 1 hB0 hB1 RB.out
    ·exact zsd X k b3
   ·have RA:=z5 rA
    have RB:=z5 rB
    clear rA rB
    go_wp2
    have b1:word a / 2 ^ k % 2=1:=by have h:=wA.out;have h':=RA.out;omega
    have b2:word b / 2 ^ k % 2=1:=by have h:=wB.out;have h':=RB.out;omega
    have b3:X / 2 ^ k % 2=0:=by have h:=hbit.out;rw [b1,b2] at h;exact h
    refine⟨⟨k+1,by omega,xr ?_,xr ?_,xr ?_,xr (pow_succ k),xr (by omega)⟩,by simp [intOf];omega⟩
    ·rw [hA.out];exact zrs A 1 hA0 hA1 RA.out
    ·rw [hB.out];exact zrs B 1 hB0 hB1 RB.out
    ·exact zsd X k b3
  ·have hkl:k=64:=by omega
   subst hkl
   go_wp2
   go_ret
   exact⟨rfl,rfl⟩
def opv (op a b:Int):Int :=
 if op=1 then wrap64 (a+b) else if op=2 then wrap64 (a - b) else if op=3 then wrap64 (a*b)
 else if op=4 then bits .and .i64 a b else if op=5 then bits .or .i64 a b else if op=6 then bits .xor .i64 a b
 else if op=7 then (if a<b then 1 else 0) else if op=8 then (if a=b then 1 else 0) else 0
def zC (op:Int):Int:=if op=3\/op=4 then 2 else if op=13 then 1 else 0
set_option maxHeartbeats 400000 in
theorem zx9 (a b:Int) (w:World) :
  Calls Tryz.prog 84 #[iV 1,iV a,iV b] w fun e w'=>e=.returned (iV (opv 1 a b))/\w'=w:=by
 go_enter Tryz.func84,Tryz.ntmps84
 go_wp2
 go_ret
 exact⟨rfl,rfl⟩
set_option maxHeartbeats 400000 in
theorem zxa (a b:Int) (w:World) :
  Calls Tryz.prog 84 #[iV 2,iV a,iV b] w fun e w'=>e=.returned (iV (opv 2 a b))/\w'=w:=by
 go_enter Tryz.func84,Tryz.ntmps84
 go_wp2
 go_ret
 exact⟨rfl,rfl⟩
set_option maxHeartbeats 400000 in
theorem zxb (a b:Int) (w:World) :
  Calls Tryz.prog 84 #[iV 3,iV a,iV b] w fun e w'=>e=.returned (iV (opv 3 a b))/\w'=w:=by
 go_enter Tryz.func84,Tryz.ntmps84
 go_wp2
 go_ret
 exact⟨rfl,rfl⟩
set_option maxHeartbeats 400000 in
theorem zxc (a b:Int) (w:World) (ha0:-9223372036854775808<=a) (ha:a<=9223372036854775807) (hb0:-9223372036854775808<=b) (hb:b<=9223372036854775807) :
  Calls Tryz.prog 84 #[iV 4,iV a,iV b] w fun e w'=>e=.returned (iV (opv 4 a b))/\w'=w:=by
 go_enter Tryz.func84,Tryz.ntmps84
 go_wp2_with (go_at_call 125;refine (zu0 _ _ _ ha0 ha hb0 hb).mono ?_;rintro e w' ⟨rfl,rfl⟩)
 go_ret
 exact⟨rfl,rfl⟩
set_option maxHeartbeats 400000 in
theorem zxd (a b:Int) (w:World) (ha0:-9223372036854775808<=a) (ha:a<=9223372036854775807) (hb0:-9223372036854775808<=b) (hb:b<=9223372036854775807) :
  Calls Tryz.prog 84 #[iV 5,iV a,iV b] w fun e w'=>e=.returned (iV (opv 5 a b))/\w'=w:=by
 go_enter Tryz.func84,Tryz.ntmps84
 go_wp2_with (go_at_call 125;refine (zu6 _ _ _ ha0 ha hb0 hb).mono ?_;rintro e w' ⟨rfl,rfl⟩)
 go_ret
 exact⟨rfl,rfl⟩
set_option maxHeartbeats 400000 in
theorem zxe (a b:Int) (w:World) (ha0:-9223372036854775808<=a) (ha:a<=9223372036854775807) (hb0:-9223372036854775808<=b) (hb:b<=9223372036854775807) :
  Calls Tryz.prog 84 #[iV 6,iV a,iV b] w fun e w'=>e=.returned (iV (opv 6 a b))/\w'=w:=by
 go_enter Tryz.func84,Tryz.ntmps84
 go_wp2_with (go_at_call 125;refine (zu1 _ _ _ ha0 ha hb0 hb).mono ?_;rintro e w' ⟨rfl,rfl⟩)
 go_ret
 exact⟨rfl,rfl⟩
set_option maxHeartbeats 400000 in
theorem zvm (a b:Int) (w:World) (h:a<b) :
  Calls Tryz.prog 84 #[iV 7,iV a,iV b] w fun e w'=>e=.returned (iV (opv 7 a b))/\w'=w:=by
 go_enter Tryz.func84,Tryz.ntmps84
 go_wp2
 go_ret
 exact⟨yk (by simp [opv,h]),rfl⟩
set_option maxHeartbeats 400000 in
theorem zwg (a b:Int) (w:World) (h:¬a<b) :
  Calls Tryz.prog 84 #[iV 7,iV a,iV b] w fun e w'=>e=.returned (iV (opv 7 a b))/\w'=w:=by
 go_enter Tryz.func84,Tryz.ntmps84
 go_wp2
 go_ret
 exact⟨yk (by simp [opv,h]),rfl⟩
set_option maxHeartbeats 400000 in
theorem zvn (a b:Int) (w:World) (h:a=b) :
  Calls Tryz.prog 84 #[iV 8,iV a,iV b] w fun e w'=>e=.returned (iV (opv 8 a b))/\w'=w:=by
 subst h
 go_enter Tryz.func84,Tryz.ntmps84
 go_wp2
 go_ret
 exact⟨yk (by simp [opv]),rfl⟩
set_option maxHeartbeats 400000 in
theorem zwh (a b:Int) (w:World) (h:¬a=b) :
  Calls Tryz.prog 84 #[iV 8,iV a,iV b] w fun e w'=>e=.returned (iV (opv 8 a b))/\w'=w:=by
 have hb:(a == b)=false:=beq_eq_false_iff_ne.2 h
 have HH:=z5 h
 clear h
 go_enter Tryz.func84,Tryz.ntmps84
 go_wp2
 go_ret
 exact⟨yk (by simp [opv,HH.out]),rfl⟩
set_option maxHeartbeats 400000 in
theorem zx1 (op a b:Int) (w:World) (h:op<1\/8<op) :
  Calls Tryz.prog 84 #[iV op,iV a,iV b] w fun e w'=>e=.returned (iV (opv op a b))/\w'=w:=by
 have hv:Hid (opv op a b=0):=by
  show opv op a b=0
  unfold opv
  rw [if_neg (by omega),if_neg (by omega),if_neg (by omega),if_neg (by omega),if_neg (by omega),if_neg (by omega),if_neg (by omega),if_neg (by omega)]
 have n1:(op == 1)=false:=beq_eq_false_iff_ne.2 (by omega)
 have n2:(op == 2)=false:=beq_eq_false_iff_ne.2 (by omega)
 have n3:(op == 3)=false:=beq_eq_false_iff_ne.2 (by omega)
 have n4:(op == 4)=false:=beq_eq_false_iff_ne.2 (by omega)
 have n5:(op == 5)=false:=beq_eq_false_iff_ne.2 (by omega)
 have n6:(op == 6)=false:=beq_eq_false_iff_ne.2 (by omega)
 have n7:(op == 7)=false:=beq_eq_false_iff_ne.2 (by omega)
 have n8:(op == 8)=false:=beq_eq_false_iff_ne.2 (by omega)
 clear h
 go_enter Tryz.func84,Tryz.ntmps84
 go_wp2
 go_ret
 exact⟨yk hv.out.symm,rfl⟩
theorem zv2 (op a b:Int) (w:World) (ha0:-9223372036854775808<=a) (ha:a<=9223372036854775807) (hb0:-9223372036854775808<=b) (hb:b<=9223372036854775807) :
  Calls Tryz.prog 84 #[iV op,iV a,iV b] w fun e w'=>e=.returned (iV (opv op a b))/\w'=w:=by
 by_cases h:op<1\/8<op
 ·exact zx1 op a b w h
 ·obtain rfl | rfl | rfl | rfl | rfl | rfl | rfl | rfl:op=1\/op=2\/op=3\/op=4\/op=5\/op=6\/op=7\/op=8:=by omega
  ·exact zx9 a b w
  ·exact zxa a b w
  ·exact zxb a b w
  ·exact zxc a b w ha0 ha hb0 hb
  ·exact zxd a b w ha0 ha hb0 hb
  ·exact zxe a b w ha0 ha hb0 hb
  ·by_cases h1:a<b
   ·exact zvm a b w h1
   ·exact zwg a b w h1
  ·by_cases h1:a=b
   ·exact zvn a b w h1
   ·exact zwh a b w h1
set_option maxHeartbeats 400000 in
theorem zog (w:World) :
  Calls Tryz.prog 139 #[iV 3] w fun e w'=>e=.returned (iV (zC 3))/\w'=w:=by
 go_enter Tryz.func139,Tryz.ntmps139
 go_wp2
 go_ret
 exact⟨rfl,rfl⟩
set_option maxHeartbeats 400000 in
theorem zoh (w:World) :
  Calls Tryz.prog 139 #[iV 4] w fun e w'=>e=.returned (iV (zC 4))/\w'=w:=by
 go_enter Tryz.func139,Tryz.ntmps139
 go_wp2
 go_ret
 exact⟨rfl,rfl⟩
set_option maxHeartbeats 400000 in
theorem zla (w:World) :
  Calls Tryz.prog 139 #[iV 13] w fun e w'=>e=.returned (iV (zC 13))/\w'=w:=by
 go_enter Tryz.func139,Tryz.ntmps139
 go_wp2
 go_ret
 exact⟨rfl,rfl⟩
set_option maxHeartbeats 400000 in
theorem zlb (op:Int) (w:World) (h3:op≠3) (h4:op≠4) (h7:op≠13) :
  Calls Tryz.prog 139 #[iV op] w fun e w'=>e=.returned (iV (zC op))/\w'=w:=by
 have hv:Hid (zC op=0):=by
  show zC op=0
  unfold zC
  rw [if_neg (by omega),if_neg (by omega)]
 have n3:(op == 3)=false:=beq_eq_false_iff_ne.2 h3
 have n4:(op == 4)=false:=beq_eq_false_iff_ne.2 h4
 have n7:(op == 13)=false:=beq_eq_false_iff_ne.2 h7
 clear h3 h4 h7
 go_enter Tryz.func139,Tryz.ntmps139
 go_wp2
 go_ret
 exact⟨yk hv.out.symm,rfl⟩
theorem V6 (op:Int) (w:World) :
  Calls Tryz.prog 139 #[iV op] w fun e w'=>e=.returned (iV (zC op))/\w'=w:=by
 by_cases h3:op=3
 ·subst h3;exact zog w
 by_cases h4:op=4
 ·subst h4;exact zoh w
 by_cases h7:op=13
 ·subst h7;exact zla w
 exact zlb op w h3 h4 h7
set_option maxHeartbeats 400000 in
theorem zg3 (w:World) :
  Calls Tryz.prog 45 #[iV 3] w fun e w'=>e=.returned (iV (zC 3))/\w'=w:=by
 go_enter Tryz.func45,Tryz.ntmps45
 go_wp2
 go_ret
 exact⟨rfl,rfl⟩
set_option maxHeartbeats 400000 in
theorem zg4 (w:World) :
  Calls Tryz.prog 45 #[iV 4] w fun e w'=>e=.returned (iV (zC 4))/\w'=w:=by
 go_enter Tryz.func45,Tryz.ntmps45
 go_wp2
 go_ret
 exact⟨rfl,rfl⟩
set_option maxHeartbeats 400000 in
theorem zdw (w:World) :
  Calls Tryz.prog 45 #[iV 13] w fun e w'=>e=.returned (iV (zC 13))/\w'=w:=by
 go_enter Tryz.func45,Tryz.ntmps45
 go_wp2
 go_ret
 exact⟨rfl,rfl⟩
set_option maxHeartbeats 400000 in
theorem zdx (op:Int) (w:World) (h3:op≠3) (h4:op≠4) (h7:op≠13) :
  Calls Tryz.prog 45 #[iV op] w fun e w'=>e=.returned (iV (zC op))/\w'=w:=by
 have hv:Hid (zC op=0):=by
  show zC op=0
  unfold zC
  rw [if_neg (by omega),if_neg (by omega)]
 have n3:(op == 3)=false:=beq_eq_false_iff_ne.2 h3
 have n4:(op == 4)=false:=beq_eq_false_iff_ne.2 h4
 have n7:(op == 13)=false:=beq_eq_false_iff_ne.2 h7
 clear h3 h4 h7
 go_enter Tryz.func45,Tryz.ntmps45
 go_wp2
 go_ret
 exact⟨yk hv.out.symm,rfl⟩
theorem Zn (op:Int) (w:World) :
  Calls Tryz.prog 45 #[iV op] w fun e w'=>e=.returned (iV (zC op))/\w'=w:=by
 by_cases h3:op=3
 ·subst h3;exact zg3 w
 by_cases h4:op=4
 ·subst h4;exact zg4 w
 by_cases h7:op=13
 ·subst h7;exact zdw w
 exact zdx op w h3 h4 h7
end Go.Proofs.YtjoapiafpahihabGreat
