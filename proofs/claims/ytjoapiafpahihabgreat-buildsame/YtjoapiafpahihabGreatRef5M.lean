import Derived.Test.YtjoapiafpahihabGreatMaths
import Derived.Test.YtjoapiafpahihabGreatRef2L
import Derived.Test.YtjoapiafpahihabGreatRef6A
import Derived.Test.YtjoapiafpahihabGreatKernS
import Derived.Test.YtjoapiafpahihabGreatBase
import Derived.Deep.RegionHeld3
import Derived.BigRegion
import Derived.Deep.QuietTactic
import Derived.BigQuiet
namespace Go.Proofs.YtjoapiafpahihabGreat
open Go.RowKit Go.Joins
set_option linter.unusedVariables false
set_option maxHeartbeats 400000 in
theorem xC (op:Int) (w:World):Calls Tryz.prog 124 #[iV op] w fun e w'=>e=.returned (iV (xl op))/\w'=w:=by
 by_cases h4:op=4
 ·have HX:Hid (xl op=1):=by show xl op=1;unfold xl;rw [if_pos h4]
  have hb:(op == 4)=true:=by simpa using h4
  clear h4
  go_enter Tryz.func124,Tryz.ntmps124
  go_wp2_with fail
  go_ret
  exact⟨yk HX.out.symm,rfl⟩
 ·have hb:(op == 4)=false:=by simpa using h4
  by_cases h10:10<op
  ·have HX:Hid (xl op=2):=by show xl op=2;unfold xl;rw [if_neg h4,if_pos h10]
   clear h4
   go_enter Tryz.func124,Tryz.ntmps124
   go_wp2_with fail
   go_ret
   exact⟨yk HX.out.symm,rfl⟩
  ·have HX:Hid (xl op=0):=by show xl op=0;unfold xl;rw [if_neg h4,if_neg h10]
   clear h4
   go_enter Tryz.func124,Tryz.ntmps124
   go_wp2_with fail
   go_ret
   exact⟨yk HX.out.symm,rfl⟩
theorem zgv (op:Int):xl op=0\/xl op=1\/xl op=2:=by
 unfold xl;split
 ·exact .inr (.inl rfl)
 ·split
  ·exact .inr (.inr rfl)
  ·exact .inl rfl
theorem Ul {w:World} {la:Option Addr} {lc:Nat} {logs:List Int} (sl sg o d a b ar sp pl nn:Int) (h:yf w (.slice la logs.length lc) logs) :
  zk (w.alloc (.cells #[iV 2,iV 0,iV 0,iV 0,iV 0,iV 0,iV 0,iV 0,iV 0,iV o,iV 0,iV 0,iV 0,iV 0,iV ar,iV sp,iV pl,iV nn] 41)) (.agg #[.slice la logs.length lc,.slice (some ⟨w.heap.size,0,none⟩) 2 2,.slice none 0 0]) (Uk logs ⟨sl,sg,o,d,a,b,ar,sp,pl,nn⟩):=by
 refine⟨_,_,_,rfl,h.below (below_alloc1 _ _),⟨_,2,rfl,Nat.le_refl _,by unfold maxLen;omega,fun _=>⟨w.heap.size,0,rfl,by simp,fun i hi j hj=>?_⟩⟩,none,0,rfl,Nat.le_refl _,Nat.zero_le _,fun i hi=>absurd hi (Nat.not_lt_zero _),fun hp=>absurd hp (Nat.not_lt_zero _)⟩
 have hb:(w.alloc (.cells #[iV 2,iV 0,iV 0,iV 0,iV 0,iV 0,iV 0,iV 0,iV 0,iV o,iV 0,iV 0,iV 0,iV 0,iV ar,iV sp,iV pl,iV nn] 41)).heap[w.heap.size]?=some (.cells #[iV 2,iV 0,iV 0,iV 0,iV 0,iV 0,iV 0,iV 0,iV 0,iV o,iV 0,iV 0,iV 0,iV 0,iV ar,iV sp,iV pl,iV nn] 41 (0,0)):=by
  show (w.heap.push _)[w.heap.size]?=_
  simp
 rw [cell_of_block hb]
 have hi2:i<2:=hi
 obtain rfl | rfl:i=0\/i=1:=by omega
 ·obtain rfl | rfl | rfl | rfl | rfl | rfl | rfl | rfl | rfl:j=0\/j=1\/j=2\/j=3\/j=4\/j=5\/j=6\/j=7\/j=8:=by omega
  all_goals rfl
 ·obtain rfl | rfl | rfl | rfl | rfl | rfl | rfl | rfl | rfl:j=0\/j=1\/j=2\/j=3\/j=4\/j=5\/j=6\/j=7\/j=8:=by omega
  all_goals rfl
set_option maxHeartbeats 1000000 in
theorem zmp (p0 p1 p2 q0 q1 q2 r pc st:Int) (ka:Option Addr) (kl kc:Nat) (sl sg o d a b ar sp pl nn:Int) (la:Option Addr) (lc:Nat) (logs:List Int) (w:World) (hp1:1<=pc) (hp2:pc<=200) (hs1:1<=st) (hs2:st<=1001) (hf:ZK pc st ⟨sl,sg,o,d,a,b,ar,sp,pl,nn⟩=false) :
  Calls Tryz.prog 79 #[.agg #[iV p0,iV p1,iV p2,iV q0,iV q1,iV q2,iV r],.agg #[iV pc,iV st,.slice ka kl kc],.agg #[iV sl,iV sg,iV o,iV d,iV a,iV b,iV ar,iV sp,iV pl,iV nn],.slice la logs.length lc] w fun e w'=>e=.returned (.bool (yF r pc st logs ⟨sl,sg,o,d,a,b,ar,sp,pl,nn⟩))/\Below w.heap.size w w':=by
 have HX:Hid (yF r pc st logs ⟨sl,sg,o,d,a,b,ar,sp,pl,nn⟩=false):=by show _=_;unfold yF;rw [hf];rfl
 by_cases h0:sl<0
 ·clear hf
  go_enter Tryz.func79,Tryz.ntmps79
  go_wp2_with fail
  go_ret
  exact⟨z7 HX.out.symm,below_alloc3 _ _ _ _⟩
 ·by_cases h1:pc<=sl
  ·clear hf
   go_enter Tryz.func79,Tryz.ntmps79
   go_wp2_with fail
   go_ret
   exact⟨z7 HX.out.symm,below_alloc3 _ _ _ _⟩
  ·by_cases h2:sg<0
   ·clear hf
    go_enter Tryz.func79,Tryz.ntmps79
    go_wp2_with fail
    go_ret
    exact⟨z7 HX.out.symm,below_alloc3 _ _ _ _⟩
   ·by_cases h3:st<=sg
    ·clear hf
     go_enter Tryz.func79,Tryz.ntmps79
     go_wp2_with fail
     go_ret
     exact⟨z7 HX.out.symm,below_alloc3 _ _ _ _⟩
    ·have hm1:0<=sg*pc:=Int.mul_nonneg (by omega) (by omega)
     have hm2:sg*pc<=1001*200:=Int.mul_le_mul (by omega) hp2 (by omega) (by omega)
     have h5:1000<sg*pc+sl:=by
      by_cases h5:1000<sg*pc+sl
      ·exact h5
      ·rw [YT (x:=⟨sl,sg,o,d,a,b,ar,sp,pl,nn⟩) h0 h1 h2 h3 h5] at hf;cases hf
     clear hf
     go_enter Tryz.func79,Tryz.ntmps79
     go_wp2_with fail
     go_ret
     exact⟨z7 HX.out.symm,below_alloc3 _ _ _ _⟩
set_option maxHeartbeats 2000000 in
theorem zmn (p0 p1 p2 q0 q1 q2 r pc st:Int) (ka:Option Addr) (kl kc:Nat) (sl sg o d a b ar sp pl nn:Int) (la:Option Addr) (lc:Nat) (logs:List Int) (w:World) (hp1:1<=pc) (hp2:pc<=200) (hs1:1<=st) (hs2:st<=1001) (h0:¬sl<0) (h1:¬pc<=sl) (h2:¬sg<0) (h3:¬st<=sg) (h5:¬1000<sg*pc+sl) (hf:d<0\/r<=d\/a<0\/b<0\/r<=a\/r<=b) :
  Calls Tryz.prog 79 #[.agg #[iV p0,iV p1,iV p2,iV q0,iV q1,iV q2,iV r],.agg #[iV pc,iV st,.slice ka kl kc],.agg #[iV sl,iV sg,iV o,iV d,iV a,iV b,iV ar,iV sp,iV pl,iV nn],.slice la logs.length lc] w fun e w'=>e=.returned (.bool (yF r pc st logs ⟨sl,sg,o,d,a,b,ar,sp,pl,nn⟩))/\Below w.heap.size w w':=by
 have HX:Hid (yF r pc st logs ⟨sl,sg,o,d,a,b,ar,sp,pl,nn⟩=false):=by show _=_;unfold yF;rw [VX (x:=⟨sl,sg,o,d,a,b,ar,sp,pl,nn⟩) (by show _\/_;dsimp only;omega)];simp
 have hm1:0<=sg*pc:=Int.mul_nonneg (by omega) (by omega)
 have hm2:sg*pc<=1001*200:=Int.mul_le_mul (by omega) hp2 (by omega) (by omega)
 by_cases g0:d<0
 ·clear hf
  go_enter Tryz.func79,Tryz.ntmps79
  go_wp2_with (go_at_call 124;refine (xC _ _).mono ?_;rintro e w' ⟨rfl,rfl⟩)
  go_ret
  exact⟨z7 HX.out.symm,below_alloc3 _ _ _ _⟩
 ·by_cases g1:r<=d
  ·clear hf
   go_enter Tryz.func79,Tryz.ntmps79
   go_wp2_with (go_at_call 124;refine (xC _ _).mono ?_;rintro e w' ⟨rfl,rfl⟩)
   go_ret
   exact⟨z7 HX.out.symm,below_alloc3 _ _ _ _⟩
  ·by_cases g2:a<0
   ·clear hf
    go_enter Tryz.func79,Tryz.ntmps79
    go_wp2_with (go_at_call 124;refine (xC _ _).mono ?_;rintro e w' ⟨rfl,rfl⟩)
    go_ret
    exact⟨z7 HX.out.symm,below_alloc3 _ _ _ _⟩
   ·by_cases g3:b<0
    ·clear hf
     go_enter Tryz.func79,Tryz.ntmps79
     go_wp2_with (go_at_call 124;refine (xC _ _).mono ?_;rintro e w' ⟨rfl,rfl⟩)
     go_ret
     exact⟨z7 HX.out.symm,below_alloc3 _ _ _ _⟩
    ·by_cases g4:r<=a
     ·clear hf
      go_enter Tryz.func79,Tryz.ntmps79
      go_wp2_with (go_at_call 124;refine (xC _ _).mono ?_;rintro e w' ⟨rfl,rfl⟩)
      go_ret
      exact⟨z7 HX.out.symm,below_alloc3 _ _ _ _⟩
     ·have g5:r<=b:=by omega
      clear hf
      go_enter Tryz.func79,Tryz.ntmps79
      go_wp2_with (go_at_call 124;refine (xC _ _).mono ?_;rintro e w' ⟨rfl,rfl⟩)
      go_ret
      exact⟨z7 HX.out.symm,below_alloc3 _ _ _ _⟩
set_option maxHeartbeats 2000000 in
theorem zjh (p0 p1 p2 q0 q1 q2 r pc st:Int) (ka:Option Addr) (kl kc:Nat) (sl sg o d a b ar sp pl nn:Int) (la:Option Addr) (lc:Nat) (logs:List Int) (w:World) (hlog:yf w (.slice la logs.length lc) logs) (hp1:1<=pc) (hp2:pc<=200) (hs1:1<=st) (hs2:st<=1001) (h0:¬sl<0) (h1:¬pc<=sl) (h2:¬sg<0) (h3:¬st<=sg) (h5:¬1000<sg*pc+sl) (g0:¬d<0) (g1:¬r<=d) (g2:¬a<0) (g3:¬b<0) (g4:¬r<=a) (g5:¬r<=b) (hn:xl o=0) :
  Calls Tryz.prog 79 #[.agg #[iV p0,iV p1,iV p2,iV q0,iV q1,iV q2,iV r],.agg #[iV pc,iV st,.slice ka kl kc],.agg #[iV sl,iV sg,iV o,iV d,iV a,iV b,iV ar,iV sp,iV pl,iV nn],.slice la logs.length lc] w fun e w'=>e=.returned (.bool (yF r pc st logs ⟨sl,sg,o,d,a,b,ar,sp,pl,nn⟩))/\Below w.heap.size w w':=by
 have hm1:0<=sg*pc:=Int.mul_nonneg (by omega) (by omega)
 have hm2:sg*pc<=1001*200:=Int.mul_le_mul (by omega) hp2 (by omega) (by omega)
 have hu:=fun W=>xC o W
 rw [hn] at hu
 have HU:=z5 hu
 clear hu
 by_cases ha:a=0
 ·subst ha
  by_cases hb:b=0
  ·subst hb
   have HX:Hid (yF r pc st logs ⟨sl,sg,o,d,0,0,ar,sp,pl,nn⟩=zx (Uk logs ⟨sl,sg,o,d,0,0,ar,sp,pl,nn⟩)):=by show _=_;unfold yF;rw [YT (x:=⟨sl,sg,o,d,0,0,ar,sp,pl,nn⟩) h0 h1 h2 h3 h5,XW (x:=⟨sl,sg,o,d,0,0,ar,sp,pl,nn⟩) g0 g1 g2 g3 g4 g5 (.inr rfl) (.inr rfl)];simp
   have hbe:Below w.heap.size w ((((w.alloc (.cells #[iV p0,iV p1,iV p2,iV q0,iV q1,iV q2,iV r] 28)).alloc (.cells #[iV pc,iV st,.slice ka kl kc] 31)).alloc (.cells #[iV sl,iV sg,iV o,iV d,iV 0,iV 0,iV ar,iV sp,iV pl,iV nn] 37)).alloc (.cells #[iV o,iV 0,iV 0,iV 0,iV 0,iV ar,iV sp,iV pl,iV nn] 41)):=(below_alloc3 _ _ _ _).alloc (by simp;omega) _
   have hsz:((((w.alloc (.cells #[iV p0,iV p1,iV p2,iV q0,iV q1,iV q2,iV r] 28)).alloc (.cells #[iV pc,iV st,.slice ka kl kc] 31)).alloc (.cells #[iV sl,iV sg,iV o,iV d,iV 0,iV 0,iV ar,iV sp,iV pl,iV nn] 37)).alloc (.cells #[iV o,iV 0,iV 0,iV 0,iV 0,iV ar,iV sp,iV pl,iV nn] 41)).heap.size=w.heap.size+1+1+1+1:=by simp
   have hmay:=XX _ _ _ (Ul sl sg o d 0 0 ar sp pl nn (hlog.below hbe))
   rw [hsz] at hmay
   have HM:=z5 hmay
   have HB:=z5 hbe
   clear hn hbe hmay hsz
   go_enter Tryz.func79,Tryz.ntmps79
   go_wp2_with fail
   refine (HU.out _).mono ?_
   rintro e w' ⟨rfl,rfl⟩
   clear HU
   go_wp2_with fail
   refine HM.out.mono ?_
   rintro e x1 ⟨rfl,hb1⟩
   have HB1:=z5 ((HB.out.alloc HB.out.size _).trans (hb1.mono (by simp;omega)))
   clear hb1 HM
   go_wp2_with fail
   go_ret
   exact⟨z7 HX.out.symm,HB1.out⟩
  ·have hbb:(b != 0)=true:=by simpa using hb
   have HX:Hid (yF r pc st logs ⟨sl,sg,o,d,0,b,ar,sp,pl,nn⟩=false):=by show _=_;unfold yF;rw [VX (x:=⟨sl,sg,o,d,0,b,ar,sp,pl,nn⟩) (by show _\/_;dsimp only;rw [hn];omega)];simp
   clear hn
   go_enter Tryz.func79,Tryz.ntmps79
   go_wp2_with fail
   refine (HU.out _).mono ?_
   rintro e w' ⟨rfl,rfl⟩
   clear HU
   go_wp2_with fail
   go_ret
   exact⟨z7 HX.out.symm,below_alloc3 _ _ _ _⟩
 ·have hab:(a != 0)=true:=by simpa using ha
  have HX:Hid (yF r pc st logs ⟨sl,sg,o,d,a,b,ar,sp,pl,nn⟩=false):=by show _=_;unfold yF;rw [VX (x:=⟨sl,sg,o,d,a,b,ar,sp,pl,nn⟩) (by show _\/_;dsimp only;rw [hn];omega)];simp
  clear hn
  go_enter Tryz.func79,Tryz.ntmps79
  go_wp2_with fail
  refine (HU.out _).mono ?_
  rintro e w' ⟨rfl,rfl⟩
  clear HU
  go_wp2_with fail
  go_ret
  exact⟨z7 HX.out.symm,below_alloc3 _ _ _ _⟩
set_option maxHeartbeats 2000000 in
theorem zji (p0 p1 p2 q0 q1 q2 r pc st:Int) (ka:Option Addr) (kl kc:Nat) (sl sg o d a b ar sp pl nn:Int) (la:Option Addr) (lc:Nat) (logs:List Int) (w:World) (hlog:yf w (.slice la logs.length lc) logs) (hp1:1<=pc) (hp2:pc<=200) (hs1:1<=st) (hs2:st<=1001) (h0:¬sl<0) (h1:¬pc<=sl) (h2:¬sg<0) (h3:¬st<=sg) (h5:¬1000<sg*pc+sl) (g0:¬d<0) (g1:¬r<=d) (g2:¬a<0) (g3:¬b<0) (g4:¬r<=a) (g5:¬r<=b) (hn:xl o=1) :
  Calls Tryz.prog 79 #[.agg #[iV p0,iV p1,iV p2,iV q0,iV q1,iV q2,iV r],.agg #[iV pc,iV st,.slice ka kl kc],.agg #[iV sl,iV sg,iV o,iV d,iV a,iV b,iV ar,iV sp,iV pl,iV nn],.slice la logs.length lc] w fun e w'=>e=.returned (.bool (yF r pc st logs ⟨sl,sg,o,d,a,b,ar,sp,pl,nn⟩))/\Below w.heap.size w w':=by
 have hm1:0<=sg*pc:=Int.mul_nonneg (by omega) (by omega)
 have hm2:sg*pc<=1001*200:=Int.mul_le_mul (by omega) hp2 (by omega) (by omega)
 have hu:=fun W=>xC o W
 rw [hn] at hu
 have HU:=z5 hu
 clear hu
 by_cases hb:b=0
 ·subst hb
  have HX:Hid (yF r pc st logs ⟨sl,sg,o,d,a,0,ar,sp,pl,nn⟩=zx (Uk logs ⟨sl,sg,o,d,a,0,ar,sp,pl,nn⟩)):=by show _=_;unfold yF;rw [YT (x:=⟨sl,sg,o,d,a,0,ar,sp,pl,nn⟩) h0 h1 h2 h3 h5,XW (x:=⟨sl,sg,o,d,a,0,ar,sp,pl,nn⟩) g0 g1 g2 g3 g4 g5 (.inl (by dsimp only;omega)) (.inr rfl)];simp
  have hbe:Below w.heap.size w ((((w.alloc (.cells #[iV p0,iV p1,iV p2,iV q0,iV q1,iV q2,iV r] 28)).alloc (.cells #[iV pc,iV st,.slice ka kl kc] 31)).alloc (.cells #[iV sl,iV sg,iV o,iV d,iV a,iV 0,iV ar,iV sp,iV pl,iV nn] 37)).alloc (.cells #[iV o,iV 0,iV 0,iV 0,iV 0,iV ar,iV sp,iV pl,iV nn] 41)):=(below_alloc3 _ _ _ _).alloc (by simp;omega) _
  have hsz:((((w.alloc (.cells #[iV p0,iV p1,iV p2,iV q0,iV q1,iV q2,iV r] 28)).alloc (.cells #[iV pc,iV st,.slice ka kl kc] 31)).alloc (.cells #[iV sl,iV sg,iV o,iV d,iV a,iV 0,iV ar,iV sp,iV pl,iV nn] 37)).alloc (.cells #[iV o,iV 0,iV 0,iV 0,iV 0,iV ar,iV sp,iV pl,iV nn] 41)).heap.size=w.heap.size+1+1+1+1:=by simp
  have hmay:=XX _ _ _ (Ul sl sg o d a 0 ar sp pl nn (hlog.below hbe))
  rw [hsz] at hmay
  have HM:=z5 hmay
  have HB:=z5 hbe
  clear hn hbe hmay hsz
  go_enter Tryz.func79,Tryz.ntmps79
  go_wp2_with fail
  refine (HU.out _).mono ?_
  rintro e w' ⟨rfl,rfl⟩
  clear HU
  go_wp2_with fail
  refine HM.out.mono ?_
  rintro e x1 ⟨rfl,hb1⟩
  have HB1:=z5 ((HB.out.alloc HB.out.size _).trans (hb1.mono (by simp;omega)))
  clear hb1 HM
  go_wp2_with fail
  go_ret
  exact⟨z7 HX.out.symm,HB1.out⟩
 ·have hbb:(b != 0)=true:=by simpa using hb
  have HX:Hid (yF r pc st logs ⟨sl,sg,o,d,a,b,ar,sp,pl,nn⟩=false):=by show _=_;unfold yF;rw [VX (x:=⟨sl,sg,o,d,a,b,ar,sp,pl,nn⟩) (by show _\/_;dsimp only;rw [hn];omega)];simp
  clear hn
  go_enter Tryz.func79,Tryz.ntmps79
  go_wp2_with fail
  refine (HU.out _).mono ?_
  rintro e w' ⟨rfl,rfl⟩
  clear HU
  go_wp2_with fail
  go_ret
  exact⟨z7 HX.out.symm,below_alloc3 _ _ _ _⟩
set_option maxHeartbeats 2000000 in
theorem zjj (p0 p1 p2 q0 q1 q2 r pc st:Int) (ka:Option Addr) (kl kc:Nat) (sl sg o d a b ar sp pl nn:Int) (la:Option Addr) (lc:Nat) (logs:List Int) (w:World) (hlog:yf w (.slice la logs.length lc) logs) (hp1:1<=pc) (hp2:pc<=200) (hs1:1<=st) (hs2:st<=1001) (h0:¬sl<0) (h1:¬pc<=sl) (h2:¬sg<0) (h3:¬st<=sg) (h5:¬1000<sg*pc+sl) (g0:¬d<0) (g1:¬r<=d) (g2:¬a<0) (g3:¬b<0) (g4:¬r<=a) (g5:¬r<=b) (hn:xl o=2) :
  Calls Tryz.prog 79 #[.agg #[iV p0,iV p1,iV p2,iV q0,iV q1,iV q2,iV r],.agg #[iV pc,iV st,.slice ka kl kc],.agg #[iV sl,iV sg,iV o,iV d,iV a,iV b,iV ar,iV sp,iV pl,iV nn],.slice la logs.length lc] w fun e w'=>e=.returned (.bool (yF r pc st logs ⟨sl,sg,o,d,a,b,ar,sp,pl,nn⟩))/\Below w.heap.size w w':=by
 have hm1:0<=sg*pc:=Int.mul_nonneg (by omega) (by omega)
 have hm2:sg*pc<=1001*200:=Int.mul_le_mul (by omega) hp2 (by omega) (by omega)
 have hu:=fun W=>xC o W
 rw [hn] at hu
 have HU:=z5 hu
 clear hu
 have HX:Hid (yF r pc st logs ⟨sl,sg,o,d,a,b,ar,sp,pl,nn⟩=zx (Uk logs ⟨sl,sg,o,d,a,b,ar,sp,pl,nn⟩)):=by show _=_;unfold yF;rw [YT (x:=⟨sl,sg,o,d,a,b,ar,sp,pl,nn⟩) h0 h1 h2 h3 h5,XW (x:=⟨sl,sg,o,d,a,b,ar,sp,pl,nn⟩) g0 g1 g2 g3 g4 g5 (.inl (by dsimp only;omega)) (.inl (by dsimp only;omega))];simp
 have hbe:Below w.heap.size w ((((w.alloc (.cells #[iV p0,iV p1,iV p2,iV q0,iV q1,iV q2,iV r] 28)).alloc (.cells #[iV pc,iV st,.slice ka kl kc] 31)).alloc (.cells #[iV sl,iV sg,iV o,iV d,iV a,iV b,iV ar,iV sp,iV pl,iV nn] 37)).alloc (.cells #[iV o,iV 0,iV 0,iV 0,iV 0,iV ar,iV sp,iV pl,iV nn] 41)):=(below_alloc3 _ _ _ _).alloc (by simp;omega) _
 have hsz:((((w.alloc (.cells #[iV p0,iV p1,iV p2,iV q0,iV q1,iV q2,iV r] 28)).alloc (.cells #[iV pc,iV st,.slice ka kl kc] 31)).alloc (.cells #[iV sl,iV sg,iV o,iV d,iV a,iV b,iV ar,iV sp,iV pl,iV nn] 37)).alloc (.cells #[iV o,iV 0,iV 0,iV 0,iV 0,iV ar,iV sp,iV pl,iV nn] 41)).heap.size=w.heap.size+1+1+1+1:=by simp
 have hmay:=XX _ _ _ (Ul sl sg o d a b ar sp pl nn (hlog.below hbe))
 rw [hsz] at hmay
 have HM:=z5 hmay
 have HB:=z5 hbe
 clear hn hbe hmay hsz
 go_enter Tryz.func79,Tryz.ntmps79
 go_wp2_with fail
 refine (HU.out _).mono ?_
 rintro e w' ⟨rfl,rfl⟩
 clear HU
 go_wp2_with fail
 refine HM.out.mono ?_
 rintro e x1 ⟨rfl,hb1⟩
 have HB1:=z5 ((HB.out.alloc HB.out.size _).trans (hb1.mono (by simp;omega)))
 clear hb1 HM
 go_wp2_with fail
 go_ret
 exact⟨z7 HX.out.symm,HB1.out⟩
theorem zpa (p0 p1 p2 q0 q1 q2 r pc st:Int) (ka:Option Addr) (kl kc:Nat) (sl sg o d a b ar sp pl nn:Int) (la:Option Addr) (lc:Nat) (logs:List Int) (w:World) (hlog:yf w (.slice la logs.length lc) logs) (hp1:1<=pc) (hp2:pc<=200) (hs1:1<=st) (hs2:st<=1001) :
  Calls Tryz.prog 79 #[.agg #[iV p0,iV p1,iV p2,iV q0,iV q1,iV q2,iV r],.agg #[iV pc,iV st,.slice ka kl kc],.agg #[iV sl,iV sg,iV o,iV d,iV a,iV b,iV ar,iV sp,iV pl,iV nn],.slice la logs.length lc] w fun e w'=>e=.returned (.bool (yF r pc st logs ⟨sl,sg,o,d,a,b,ar,sp,pl,nn⟩))/\Below w.heap.size w w':=by
 cases ht:ZK pc st ⟨sl,sg,o,d,a,b,ar,sp,pl,nn⟩ with
 | false=>exact zmp p0 p1 p2 q0 q1 q2 r pc st ka kl kc sl sg o d a b ar sp pl nn la lc logs w hp1 hp2 hs1 hs2 ht
 | true =>
   have h5:¬(sl<0\/pc<=sl\/sg<0\/st<=sg\/1000<sg*pc+sl):=fun h=>by rw [zpq (x:=⟨sl,sg,o,d,a,b,ar,sp,pl,nn⟩) h] at ht;cases ht
   by_cases hr:d<0\/r<=d\/a<0\/b<0\/r<=a\/r<=b
   ·exact zmn p0 p1 p2 q0 q1 q2 r pc st ka kl kc sl sg o d a b ar sp pl nn la lc logs w hp1 hp2 hs1 hs2 (by omega) (by omega) (by omega) (by omega) (by omega) hr
   ·rcases zgv o with hn | hn | hn
    ·exact zjh p0 p1 p2 q0 q1 q2 r pc st ka kl kc sl sg o d a b ar sp pl nn la lc logs w hlog hp1 hp2 hs1 hs2 (by omega) (by omega) (by omega) (by omega) (by omega) (by omega) (by omega) (by omega) (by omega) (by omega) (by omega) hn
    ·exact zji p0 p1 p2 q0 q1 q2 r pc st ka kl kc sl sg o d a b ar sp pl nn la lc logs w hlog hp1 hp2 hs1 hs2 (by omega) (by omega) (by omega) (by omega) (by omega) (by omega) (by omega) (by omega) (by omega) (by omega) (by omega) hn
    ·exact zjj p0 p1 p2 q0 q1 q2 r pc st ka kl kc sl sg o d a b ar sp pl nn la lc logs w hlog hp1 hp2 hs1 hs2 (by omega) (by omega) (by omega) (by omega) (by omega) (by omega) (by omega) (by omega) (by omega) (by omega) (by omega) hn
set_option linter.unusedSimpArgs false
def bxk (w:World) (p0 p1 p2 q0 q1 q2 r pc st:Int) (ka:Option Addr) (kl kc:Nat):World:=(w.alloc (.cells #[iV p0,iV p1,iV p2,iV q0,iV q1,iV q2,iV r] 28)).alloc (.cells #[iV pc,iV st,.slice ka kl kc] 31)
theorem Y1 (w:World) (p0 p1 p2 q0 q1 q2 r pc st:Int) (ka:Option Addr) (kl kc:Nat):(bxk w p0 p1 p2 q0 q1 q2 r pc st ka kl kc).heap.size=w.heap.size+1+1:=by unfold bxk;simp
theorem zic (w:World) (p0 p1 p2 q0 q1 q2 r pc st:Int) (ka:Option Addr) (kl kc:Nat):Below w.heap.size w (bxk w p0 p1 p2 q0 q1 q2 r pc st ka kl kc):=below_alloc2 _ _ _
theorem Zp {w wr:World} {p0 p1 p2 q0 q1 q2 r pc st:Int} {ka:Option Addr} {kl kc:Nat} (h:Below (w.heap.size+1+1) (bxk w p0 p1 p2 q0 q1 q2 r pc st ka kl kc) wr) :
  (wr.cell? ⟨w.heap.size,0,none⟩=some (iV p0)/\wr.cell? ⟨w.heap.size,1,none⟩=some (iV p1)/\wr.cell? ⟨w.heap.size,2,none⟩=some (iV p2)/\wr.cell? ⟨w.heap.size,3,none⟩=some (iV q0)/\wr.cell? ⟨w.heap.size,4,none⟩=some (iV q1)/\wr.cell? ⟨w.heap.size,5,none⟩=some (iV q2)/\wr.cell? ⟨w.heap.size,6,none⟩=some (iV r))/\wr.cell? ⟨w.heap.size+1,0,none⟩=some (iV pc)/\wr.cell? ⟨w.heap.size+1,1,none⟩=some (iV st)/\wr.cell? ⟨w.heap.size+1,2,none⟩=some (.slice ka kl kc) /\
   w.heap.size<wr.heap.size/\w.heap.size+1<wr.heap.size/\Below w.heap.size w wr:=by
 have hz:=h.size
 rw [Y1] at hz
 have c0:∀o,wr.cell? ⟨w.heap.size,o,none⟩=(bxk w p0 p1 p2 q0 q1 q2 r pc st ka kl kc).cell? ⟨w.heap.size,o,none⟩:=fun o=>h.cell (p:=⟨w.heap.size,o,none⟩) (by show w.heap.size<_;omega)
 have c1:∀o,wr.cell? ⟨w.heap.size+1,o,none⟩=(bxk w p0 p1 p2 q0 q1 q2 r pc st ka kl kc).cell? ⟨w.heap.size+1,o,none⟩:=fun o=>h.cell (p:=⟨w.heap.size+1,o,none⟩) (by show w.heap.size+1<_;omega)
 refine⟨⟨?_,?_,?_,?_,?_,?_,?_⟩,?_,?_,?_,by omega,by omega,(zic w p0 p1 p2 q0 q1 q2 r pc st ka kl kc).trans (h.mono (by omega))⟩
 all_goals first | rw [c0] | rw [c1]
 all_goals (unfold bxk;go_simp)
set_option maxHeartbeats 1000000 in
theorem zoy (p0 p1 p2 q0 q1 q2 r pc st:Int) (ka:Option Addr) (kc:Nat) (ops:List Kop) (la:Option Addr) (lc:Nat) (logs:List Int) (w:World) (hm:ops.length<=kc) (hc:kc<=maxLen) (h:zp ⟨p0,p1,p2,q0,q1,q2,r⟩=false\/inR pc 1 200=false\/inR st 1 1001=false\/inR ops.length 1 16=false) :
  Calls Tryz.prog 32 #[.agg #[iV p0,iV p1,iV p2,iV q0,iV q1,iV q2,iV r],.agg #[iV pc,iV st,.slice ka ops.length kc],.slice la logs.length lc] w fun e w'=>e=.returned (.bool (Z6 ⟨p0,p1,p2,q0,q1,q2,r⟩ ⟨pc,st,ops⟩ logs))/\Below w.heap.size w w':=by
 have HX:=z5 (zp6 (t:=⟨p0,p1,p2,q0,q1,q2,r⟩) (K:=⟨pc,st,ops⟩) (logs:=logs) h)
 unfold maxLen at hc
 have hmay:=Yn p0 p1 p2 q0 q1 q2 r (bxk w p0 p1 p2 q0 q1 q2 r pc st ka ops.length kc)
 cases ht:zp ⟨p0,p1,p2,q0,q1,q2,r⟩ with
 | false =>
   rw [ht] at hmay
   clear ht
   have HM:=z5 hmay
   clear hmay h
   go_enter Tryz.func32,Tryz.ntmps32
   go_wp2_with fail
   refine HM.out.mono ?_
   rintro e x1 ⟨rfl,hb⟩
   rw [Y1] at hb
   obtain⟨-,e1,e2,e3,z0,z1,hbw⟩:=Zp hb
   have HB:=z5 hbw
   clear hb HM hbw
   go_wp2_with (go_at_call 78;refine (zd _ _ _ _).mono ?_;rintro e w' ⟨rfl,rfl⟩)
   go_ret
   exact⟨z7 HX.out.symm,HB.out⟩
 | true =>
   rw [ht] at hmay
   cases h1:inR pc 1 200 with
   | false =>
     clear ht
     have HM:=z5 hmay
     clear hmay h
     go_enter Tryz.func32,Tryz.ntmps32
     go_wp2_with fail
     refine HM.out.mono ?_
     rintro e x1 ⟨rfl,hb⟩
     rw [Y1] at hb
     obtain⟨-,e1,e2,e3,z0,z1,hbw⟩:=Zp hb
     have HB:=z5 hbw
     clear hb HM hbw
     go_wp2_with (go_at_call 78;refine (zd _ _ _ _).mono ?_;rintro e w' ⟨rfl,rfl⟩)
     go_ret
     exact⟨z7 HX.out.symm,HB.out⟩
   | true =>
     cases h2:inR st 1 1001 with
     | false =>
       clear ht
       have HM:=z5 hmay
       clear hmay h
       go_enter Tryz.func32,Tryz.ntmps32
       go_wp2_with fail
       refine HM.out.mono ?_
       rintro e x1 ⟨rfl,hb⟩
       rw [Y1] at hb
       obtain⟨-,e1,e2,e3,z0,z1,hbw⟩:=Zp hb
       have HB:=z5 hbw
       clear hb HM hbw
       go_wp2_with (go_at_call 78;refine (zd _ _ _ _).mono ?_;rintro e w' ⟨rfl,rfl⟩)
       go_ret
       exact⟨z7 HX.out.symm,HB.out⟩
     | true =>
       have h3:inR ops.length 1 16=false:=by rcases h with h | h | h | h <;> simp_all
       clear ht
       have HM:=z5 hmay
       clear hmay h
       go_enter Tryz.func32,Tryz.ntmps32
       go_wp2_with fail
       refine HM.out.mono ?_
       rintro e x1 ⟨rfl,hb⟩
       rw [Y1] at hb
       obtain⟨-,e1,e2,e3,z0,z1,hbw⟩:=Zp hb
       have HB:=z5 hbw
       clear hb HM hbw
       go_wp2_with (go_at_call 78;refine (zd _ _ _ _).mono ?_;rintro e w' ⟨rfl,rfl⟩)
       go_ret
       exact⟨z7 HX.out.symm,HB.out⟩
set_option maxHeartbeats 4000000 in
theorem zlz (p0 p1 p2 q0 q1 q2 r pc st:Int) (ka:Option Addr) (kc:Nat) (ops:List Kop) (la:Option Addr) (lc:Nat) (logs:List Int) (w:World) (hm:ops.length<=kc) (hc:kc<=maxLen) (hO:Xz w (.slice ka ops.length kc) ops) (hlog:yf w (.slice la logs.length lc) logs) (ht:zp ⟨p0,p1,p2,q0,q1,q2,r⟩=true) (h1:inR pc 1 200=true) (h2:inR st 1 1001=true) (h3:inR ops.length 1 16=true) :
  Calls Tryz.prog 32 #[.agg #[iV p0,iV p1,iV p2,iV q0,iV q1,iV q2,iV r],.agg #[iV pc,iV st,.slice ka ops.length kc],.slice la logs.length lc] w fun e w'=>e=.returned (.bool (Z6 ⟨p0,p1,p2,q0,q1,q2,r⟩ ⟨pc,st,ops⟩ logs))/\Below w.heap.size w w':=by
 have HX:=z5 (zma (t:=⟨p0,p1,p2,q0,q1,q2,r⟩) (K:=⟨pc,st,ops⟩) (logs:=logs) ht h1 h2 h3)
 obtain⟨i1,i2⟩:=zo.1 h1
 obtain⟨i3,i4⟩:=zo.1 h2
 obtain⟨i5,i6⟩:=zo.1 h3
 have hmay:=Yn p0 p1 p2 q0 q1 q2 r (bxk w p0 p1 p2 q0 q1 q2 r pc st ka ops.length kc)
 rw [ht] at hmay
 have HM:=z5 hmay
 unfold maxLen at hc
 obtain⟨a9,c9,hv9,-,-,hcell9⟩:=hO
 injection hv9 with e9a e9b e9c
 subst e9a;subst e9c
 obtain⟨b0,of0,rfl,hb0,hcell⟩:=hcell9 (by omega)
 have HC:=z5 hcell
 clear hmay ht hcell9 hcell
 go_enter Tryz.func32,Tryz.ntmps32
 go_wp2_with fail
 refine HM.out.mono ?_
 rintro e x1 ⟨rfl,hb⟩
 rw [Y1] at hb
 obtain⟨-,e1,e2,e3,z0,z1,hbw⟩:=Zp hb
 have HB:=z5 hb
 clear hb HM hbw
 go_wp2_with (go_at_call 78;refine (zd _ _ _ _).mono ?_;rintro e w' ⟨rfl,rfl⟩)
 go_loopw [7] (fun i wr=>∃k:Nat,k<=ops.length/\i=iV k/\zh (fun i=>yF r pc st logs (zq ops i) && decide ((Un ops i:Int)<=zF ⟨p0,p1,p2,q0,q1,q2,r⟩ (zC (zq ops i).o))) k=true/\Below (w.heap.size+1+1) (bxk w p0 p1 p2 q0 q1 q2 r pc st (some ⟨b0,of0,none⟩) ops.length kc) wr) (fun i _=>ops.length - (intOf i).toNat)
 case atStart=>exact⟨0,Nat.zero_le _,rfl,rfl,HB.out⟩
 case round =>
  clear e1 e2 e3 z0 z1 HB
  obtain⟨i,hi,rfl,hall,hbx⟩:=hrel
  have HA:=z5 hall
  have HBX:=z5 hbx
  obtain⟨⟨t0,t1,t2,t3,t4,t5,t6⟩,e1,e2,e3,z0,z1,hbw⟩:=Zp hbx
  have HBW:=z5 hbw
  have hwz:=hbw.size
  clear hall hbx
  by_cases hil:i<ops.length
  ·have hii:(i:Int)<(ops.length:Int):=by omega
   obtain⟨k0,k1,k2,k3,k4,k5,k6,k7,k8,k9⟩:=ten (HC.out i hil)
   rw [<-zc hbw _ _ hb0] at k0 k1 k2 k3 k4 k5 k6 k7 k8 k9
   have hbz:b0<wr.heap.size:=by omega
   have hlw:yf wr.drew (.slice la logs.length lc) logs:=hlog.below (hbw.drew)
   generalize hx:zq ops i=x at *
   have HXX:=z5 hx
   obtain⟨sl,sg,o,d,a,b,ar,sp,pl,nn⟩:=x
   simp only at k0 k1 k2 k3 k4 k5 k6 k7 k8 k9
   have hone:=zpa p0 p1 p2 q0 q1 q2 r pc st (some ⟨b0,of0,none⟩) ops.length kc sl sg o d a b ar sp pl nn la lc logs _ hlw i1 i2 i3 i4
   have HSb:Hid (∀W:World,Below wr.heap.size wr W->W.cell? ⟨w.heap.size,0,none⟩=some (iV p0)/\W.cell? ⟨w.heap.size,1,none⟩=some (iV p1)/\W.cell? ⟨w.heap.size,2,none⟩=some (iV p2)/\W.cell? ⟨w.heap.size,3,none⟩=some (iV q0)/\W.cell? ⟨w.heap.size,4,none⟩=some (iV q1)/\W.cell? ⟨w.heap.size,5,none⟩=some (iV q2)/\W.cell? ⟨w.heap.size,6,none⟩=some (iV r)/\W.cell? ⟨w.heap.size+1,0,none⟩=some (iV pc)/\W.cell? ⟨w.heap.size+1,1,none⟩=some (iV st)/\W.cell? ⟨w.heap.size+1,2,none⟩=some (.slice (some ⟨b0,of0,none⟩) ops.length kc)/\W.cell? ⟨b0,of0+i*10,none⟩=some (iV sl)/\W.cell? ⟨b0,of0+i*10+1,none⟩=some (iV sg)/\W.cell? ⟨b0,of0+i*10+2,none⟩=some (iV o)/\W.cell? ⟨b0,of0+i*10+3,none⟩=some (iV d)/\W.cell? ⟨b0,of0+i*10+4,none⟩=some (iV a)/\W.cell? ⟨b0,of0+i*10+5,none⟩=some (iV b)/\W.cell? ⟨b0,of0+i*10+6,none⟩=some (iV ar)/\W.cell? ⟨b0,of0+i*10+7,none⟩=some (iV sp)/\W.cell? ⟨b0,of0+i*10+8,none⟩=some (iV pl)/\W.cell? ⟨b0,of0+i*10+9,none⟩=some (iV nn)):=fun W hW=>by
    have c:=zc hW
    rw [c _ _ z0,c _ _ z0,c _ _ z0,c _ _ z0,c _ _ z0,c _ _ z0,c _ _ z0,c _ _ z1,c _ _ z1,c _ _ z1,c _ _ hbz,c _ _ hbz,c _ _ hbz,c _ _ hbz,c _ _ hbz,c _ _ hbz,c _ _ hbz,c _ _ hbz,c _ _ hbz,c _ _ hbz]
    exact⟨t0,t1,t2,t3,t4,t5,t6,e1,e2,e3,k0,k1,k2,k3,k4,k5,k6,k7,k8,k9⟩
   have HBL:=z5 hbw
   clear hx hbw hlw
   cases hok:yF r pc st logs ⟨sl,sg,o,d,a,b,ar,sp,pl,nn⟩ with
   | false =>
     rw [hok] at hone
     have HON:=z5 hone
     have HR:Hid (Z6 ⟨p0,p1,p2,q0,q1,q2,r⟩ ⟨pc,st,ops⟩ logs=false):=by
      show _=_
      rw [HX.out]
      refine zw (k:=i) hil ?_
      show (yF r pc st logs (zq ops i) && _)=false
      rw [HXX.out,hok];rfl
     clear hone hok
     go_wp2_with fail
     clear t0 t1 t2 t3 t4 t5 t6 e1 e2 e3 k0 k1 k2 k3 k4 k5 k6 k7 k8 k9
     refine wp_region_noPanic ?_
     refine ze 99 (fun w'=>w'.cell? ⟨w.heap.size,0,none⟩=some (iV p0)/\w'.cell? ⟨w.heap.size,1,none⟩=some (iV p1)/\w'.cell? ⟨w.heap.size,2,none⟩=some (iV p2)/\w'.cell? ⟨w.heap.size,3,none⟩=some (iV q0)/\w'.cell? ⟨w.heap.size,4,none⟩=some (iV q1)/\w'.cell? ⟨w.heap.size,5,none⟩=some (iV q2)/\w'.cell? ⟨w.heap.size,6,none⟩=some (iV r)/\w'.cell? ⟨w.heap.size+1,0,none⟩=some (iV pc)/\w'.cell? ⟨w.heap.size+1,1,none⟩=some (iV st)/\w'.cell? ⟨w.heap.size+1,2,none⟩=some (.slice (some ⟨b0,of0,none⟩) ops.length kc)/\w'.cell? ⟨b0,of0+i*10,none⟩=some (iV sl)/\w'.cell? ⟨b0,of0+i*10+1,none⟩=some (iV sg)/\w'.cell? ⟨b0,of0+i*10+2,none⟩=some (iV o)/\w'.cell? ⟨b0,of0+i*10+3,none⟩=some (iV d)/\w'.cell? ⟨b0,of0+i*10+4,none⟩=some (iV a)/\w'.cell? ⟨b0,of0+i*10+5,none⟩=some (iV b)/\w'.cell? ⟨b0,of0+i*10+6,none⟩=some (iV ar)/\w'.cell? ⟨b0,of0+i*10+7,none⟩=some (iV sp)/\w'.cell? ⟨b0,of0+i*10+8,none⟩=some (iV pl)/\w'.cell? ⟨b0,of0+i*10+9,none⟩=some (iV nn)) (by kernel_rfl) (HSb.out _ ((Below.refl _ _).drew)) (fun hHeld=>?_)
     refine utk (i:=0) rfl hHeld ?_
     refine utk (i:=1) rfl hHeld ?_
     refine utk (i:=2) rfl hHeld ?_
     refine utk (i:=3) rfl hHeld ?_
     refine utk (i:=4) rfl hHeld ?_
     refine utk (i:=5) rfl hHeld ?_
     refine utk (i:=6) rfl hHeld ?_
     refine utk (i:=7) rfl hHeld ?_
     refine z9 (i:=8) rfl (by kernel_rfl) (fun K hK=>?_)
     go_simp
     refine HON.out.mono ?_
     rintro e x2 ⟨rfl,hb2⟩
     have hb3:Below wr.heap.size wr x2:=((Below.refl _ _).drew).trans hb2
     have HB3:=z5 hb3
     clear hb2 hb3 hHeld HON
     have hHeld:=HSb.out _ HB3.out
     refine nxt hK.out (.inr hHeld) ?_
     clear hK K
     refine utk (i:=9) rfl hHeld ?_
     refine zf (by kernel_rfl) ?_ _
     refine NoPanic.normal ?_
     clear hHeld
     go_wp2_with fail
     go_ret
     exact⟨z7 HR.out.symm,HBW.out.trans (HB3.out.mono (by omega))⟩
   | true =>
     rw [hok] at hone
     have HON:=z5 hone
     have HOK:=z5 hok
     obtain⟨cn,hcn,hc3⟩:∃n:Nat,zC o=(n:Int)/\n<3:=by
      rcases Y2 o with h | h | h
      ·exact⟨0,h,by omega⟩
      ·exact⟨1,h,by omega⟩
      ·exact⟨2,h,by omega⟩
     have hcl:=fun W=>Zn o W
     rw [hcn] at hcl
     have HCL:=z5 hcl
     have HCN:=z5 hcn
     clear hone hok hcl hcn
     go_wp2_with fail
     clear t0 t1 t2 t3 t4 t5 t6 e1 e2 e3 k0 k1 k2 k3 k4 k5 k6 k7 k8 k9
     refine wp_region_noPanic ?_
     refine ze 99 (fun w'=>w'.cell? ⟨w.heap.size,0,none⟩=some (iV p0)/\w'.cell? ⟨w.heap.size,1,none⟩=some (iV p1)/\w'.cell? ⟨w.heap.size,2,none⟩=some (iV p2)/\w'.cell? ⟨w.heap.size,3,none⟩=some (iV q0)/\w'.cell? ⟨w.heap.size,4,none⟩=some (iV q1)/\w'.cell? ⟨w.heap.size,5,none⟩=some (iV q2)/\w'.cell? ⟨w.heap.size,6,none⟩=some (iV r)/\w'.cell? ⟨w.heap.size+1,0,none⟩=some (iV pc)/\w'.cell? ⟨w.heap.size+1,1,none⟩=some (iV st)/\w'.cell? ⟨w.heap.size+1,2,none⟩=some (.slice (some ⟨b0,of0,none⟩) ops.length kc)/\w'.cell? ⟨b0,of0+i*10,none⟩=some (iV sl)/\w'.cell? ⟨b0,of0+i*10+1,none⟩=some (iV sg)/\w'.cell? ⟨b0,of0+i*10+2,none⟩=some (iV o)/\w'.cell? ⟨b0,of0+i*10+3,none⟩=some (iV d)/\w'.cell? ⟨b0,of0+i*10+4,none⟩=some (iV a)/\w'.cell? ⟨b0,of0+i*10+5,none⟩=some (iV b)/\w'.cell? ⟨b0,of0+i*10+6,none⟩=some (iV ar)/\w'.cell? ⟨b0,of0+i*10+7,none⟩=some (iV sp)/\w'.cell? ⟨b0,of0+i*10+8,none⟩=some (iV pl)/\w'.cell? ⟨b0,of0+i*10+9,none⟩=some (iV nn)) (by kernel_rfl) (HSb.out _ ((Below.refl _ _).drew)) (fun hHeld=>?_)
     refine utk (i:=0) rfl hHeld ?_
     refine utk (i:=1) rfl hHeld ?_
     refine utk (i:=2) rfl hHeld ?_
     refine utk (i:=3) rfl hHeld ?_
     refine utk (i:=4) rfl hHeld ?_
     refine utk (i:=5) rfl hHeld ?_
     refine utk (i:=6) rfl hHeld ?_
     refine utk (i:=7) rfl hHeld ?_
     refine z9 (i:=8) rfl (by kernel_rfl) (fun K hK=>?_)
     go_simp
     refine HON.out.mono ?_
     rintro e x2 ⟨rfl,hb2⟩
     have hb3:Below wr.heap.size wr x2:=((Below.refl _ _).drew).trans hb2
     have HB3:=z5 hb3
     clear hb2 hb3 hHeld HON
     have hHeld:=HSb.out _ HB3.out
     refine nxt hK.out (.inr hHeld) ?_
     clear hK K
     refine utk (i:=9) rfl hHeld ?_
     refine zf (by kernel_rfl) ?_ _
     refine NoPanic.normal ?_
     have HBX2:Hid (Below (w.heap.size+1+1) (bxk w p0 p1 p2 q0 q1 q2 r pc st (some ⟨b0,of0,none⟩) ops.length kc) x2):=HBX.out.trans (HB3.out.mono (by omega))
     have hsz3:=HB3.out.size
     have hbz2:b0<x2.heap.size:=by omega
     have hz02:w.heap.size<x2.heap.size:=by omega
     have hz12:w.heap.size+1<x2.heap.size:=by omega
     have hop:=hHeld.2.2.2.2.2.2.2.2.2.1
     have hsi:=hHeld.2.2.2.2.2.2.2.2.2.2.1
     have hoi:=hHeld.2.2.2.2.2.2.2.2.2.2.2.2.1
     have hun:x2.cell? ⟨w.heap.size,cn,none⟩=some (iV (zF ⟨p0,p1,p2,q0,q1,q2,r⟩ cn)):=by
      have hb:x2.heap[w.heap.size]?=some (.cells #[iV p0,iV p1,iV p2,iV q0,iV q1,iV q2,iV r] 28 (0,0)):=by
       rw [HBX2.out.block w.heap.size (by omega)]
       unfold bxk
       rw [Below.heap_alloc _ _ _ (by simp)]
       show (w.heap.push _)[w.heap.size]?=_
       simp
      rw [cell_of_block hb]
      have h:=zgt (t:=⟨p0,p1,p2,q0,q1,q2,r⟩) (c:=(cn:Int)) (by omega)
      rw [Int.toNat_natCast] at h
      exact h
     clear hHeld HSb
     go_wp2_with fail
     refine (HCL.out _).mono ?_
     rintro e x2 ⟨rfl,rfl⟩
     clear HCL
     go_wp2_with fail
     go_loopw [9,10] (fun m j wq=>∃jn n:Nat,jn<=ops.length/\j=iV jn/\m=iV (cnt (ZH ops i) jn)/\wq=x2.drewN n) (fun _ j _=>ops.length - (intOf j).toNat)
     case atStart=>exact⟨0,0,Nat.zero_le _,rfl,rfl,rfl⟩
     case round =>
      obtain⟨jn,n,hj,rfl,rfl,rfl⟩:=hrel
      have hmx:=Zw (ZH ops i) jn
      by_cases hjl:jn<ops.length
      ·have hji:(jn:Int)<(ops.length:Int):=by omega
       obtain⟨y0,-,y2,-,-,-,-,-,-,-⟩:=ten (HC.out jn hjl)
       have hbwx:=HBW.out.trans (HB3.out.mono (by omega))
       rw [<-zc hbwx _ _ hb0] at y0 y2
       have HSM:Hid (ZH ops i jn=(decide ((zq ops jn).sl=sl) && decide (zC (zq ops jn).o=(cn:Int)))):=by
        show _=_
        unfold ZH
        rw [HXX.out]
        dsimp only
        rw [HCN.out]
       have hcl:=fun W=>Zn (zq ops jn).o W
       have HCT:Hid (cnt (ZH ops i) (jn+1)=cnt (ZH ops i) jn+(if ZH ops i jn=true then 1 else 0)):=rfl
       generalize cnt (ZH ops i) jn=mn at *
       generalize (zq ops jn).sl=yl at *
       generalize (zq ops jn).o=yo at *
       generalize zC yo=yc at *
       have HCY:=z5 hcl
       clear hcl hbwx
       by_cases hs:yl=sl
       ·subst hs
        by_cases hcq:yc=(cn:Int)
        ·have hq1:(yc == (cn:Int))=true:=by simpa using hcq
         have HM1:Hid (cnt (ZH ops i) (jn+1)=mn+1):=by show _=_;rw [HCT.out,HSM.out,hcq];simp
         clear hcq
         go_wp2_with fail
         go_region_held3 (fun w'=>w'.cell? ⟨w.heap.size+1,2,none⟩=some (.slice (some ⟨b0,of0,none⟩) ops.length kc)/\w'.cell? ⟨b0,of0+jn*10,none⟩=some (iV yl)/\w'.cell? ⟨b0,of0+i*10,none⟩=some (iV yl)/\w'.cell? ⟨b0,of0+jn*10+2,none⟩=some (iV yo)) ((go_keep;done)) (first | (go_at_call 45;refine (HCY.out _).mono ?_;rintro e w' ⟨rfl,rfl⟩))
         go_wp2_with fail
         go_roundw
         case rel=>exact⟨jn+1,n+1,by omega,by go_num,by rw [HM1.out];go_num,rfl⟩
         case measure=>simp [intOf];omega
        ·have hq1:(yc == (cn:Int))=false:=by simpa using hcq
         have HM1:Hid (cnt (ZH ops i) (jn+1)=mn):=by show _=_;rw [HCT.out,HSM.out];simp [hcq]
         clear hcq
         go_wp2_with fail
         go_region_held3 (fun w'=>w'.cell? ⟨w.heap.size+1,2,none⟩=some (.slice (some ⟨b0,of0,none⟩) ops.length kc)/\w'.cell? ⟨b0,of0+jn*10,none⟩=some (iV yl)/\w'.cell? ⟨b0,of0+i*10,none⟩=some (iV yl)/\w'.cell? ⟨b0,of0+jn*10+2,none⟩=some (iV yo)) ((go_keep;done)) (first | (go_at_call 45;refine (HCY.out _).mono ?_;rintro e w' ⟨rfl,rfl⟩))
         go_wp2_with fail
         go_roundw
         case rel=>exact⟨jn+1,n+1,by omega,by go_num,by rw [HM1.out],rfl⟩
         case measure=>simp [intOf];omega
       ·have hq1:(yl == sl)=false:=by simpa using hs
        have HM1:Hid (cnt (ZH ops i) (jn+1)=mn):=by show _=_;rw [HCT.out,HSM.out];simp [hs]
        clear hs
        go_wp2_with fail
        go_quiet ((fail))
        go_wp2_with fail
        go_roundw
        case rel=>exact⟨jn+1,_,by omega,by go_num,by rw [HM1.out],rfl⟩
        case measure=>simp [intOf];omega
      ·have e:jn=ops.length:=by omega
       subst e
       have hci:(cn:Int)<3:=by omega
       have HMK:Hid (Un ops i=cnt (ZH ops i) ops.length):=rfl
       generalize cnt (ZH ops i) ops.length=mn at *
       have HUN:Hid (zF ⟨p0,p1,p2,q0,q1,q2,r⟩ (zC (zq ops i).o)=zF ⟨p0,p1,p2,q0,q1,q2,r⟩ (cn:Int)):=by
        show _=_
        rw [HXX.out]
        dsimp only
        rw [HCN.out]
       have HO1:Hid (yF r pc st logs (zq ops i)=true):=by show _=_;rw [HXX.out];exact HOK.out
       generalize zF ⟨p0,p1,p2,q0,q1,q2,r⟩ (cn:Int)=un at *
       by_cases hgt:un<(mn:Int)
       ·have HR:Hid (Z6 ⟨p0,p1,p2,q0,q1,q2,r⟩ ⟨pc,st,ops⟩ logs=false):=by
         show _=_
         rw [HX.out]
         refine zw (k:=i) hil ?_
         show (_ && decide ((Un ops i:Int)<=zF ⟨p0,p1,p2,q0,q1,q2,r⟩ (zC (zq ops i).o)))=false
         rw [HMK.out,HUN.out,decide_eq_false (by omega)];simp
        go_wp2_with fail
        go_ret
        exact⟨z7 HR.out.symm,(HBW.out.trans (HB3.out.mono (by omega))).trans (below_draws _ _ _)⟩
       ·have HR:Hid ((yF r pc st logs (zq ops i) && decide ((Un ops i:Int)<=zF ⟨p0,p1,p2,q0,q1,q2,r⟩ (zC (zq ops i).o)))=true):=by
         show _=_
         rw [HO1.out,HMK.out,HUN.out,decide_eq_true (by omega)];rfl
        go_wp2_with fail
        go_roundw
        case rel=>exact⟨i+1,by omega,by go_num,yw HA.out HR.out,HBX2.out.trans (below_draws _ _ _)⟩
        case measure=>simp [intOf];omega
  ·have e:i=ops.length:=by omega
   subst e
   have HR:Hid (Z6 ⟨p0,p1,p2,q0,q1,q2,r⟩ ⟨pc,st,ops⟩ logs=true):=by show _=_;rw [HX.out];exact HA.out
   go_wp2_with fail
   go_ret
   exact⟨z7 HR.out.symm,HBW.out⟩
theorem zd8 (t:Tg) (kv:Value) (K:Kn) (la:Option Addr) (lc:Nat) (logs:List Int) (w:World) (hK:xh w kv K) (hlog:yf w (.slice la logs.length lc) logs) :
  Calls Tryz.prog 32 #[.agg t.cells,kv,.slice la logs.length lc] w fun e w'=>e=.returned (.bool (Z6 t K logs))/\Below w.heap.size w w':=by
 obtain⟨ov,rfl,hO⟩:=hK
 have hO':=hO
 obtain⟨ka,kc,rfl,h1,h2,-⟩:=hO'
 obtain⟨pc,st,ops⟩:=K
 obtain⟨p0,p1,p2,q0,q1,q2,r⟩:=t
 by_cases hb:zp ⟨p0,p1,p2,q0,q1,q2,r⟩=true/\inR pc 1 200=true/\inR st 1 1001=true/\inR ops.length 1 16=true
 ·exact zlz p0 p1 p2 q0 q1 q2 r pc st ka kc ops la lc logs w h1 h2 hO hlog hb.1 hb.2.1 hb.2.2.1 hb.2.2.2
 ·refine zoy p0 p1 p2 q0 q1 q2 r pc st ka kc ops la lc logs w h1 h2 ?_
  simp only [<-Bool.not_eq_true]
  by_cases b1:zp ⟨p0,p1,p2,q0,q1,q2,r⟩=true
  ·by_cases b2:inR pc 1 200=true
   ·by_cases b3:inR st 1 1001=true
    ·exact .inr (.inr (.inr fun b4=>hb ⟨b1,b2,b3,b4⟩))
    ·exact .inr (.inr (.inl b3))
   ·exact .inr (.inl b2)
  ·exact .inl b1
end Go.Proofs.YtjoapiafpahihabGreat
