import Derived.Test.YtjoapiafpahihabGreatMaths
import Derived.Test.YtjoapiafpahihabGreatLoopP
import Derived.Deep.QuietTactic
import Derived.BigQuiet
set_option maxHeartbeats 20000000
namespace Go.Proofs.YtjoapiafpahihabGreat
open Go.Proofs.Tryz
open Go.RowKit Go.Joins
set_option linter.unusedVariables false
variable {w w':World} {v:Value}
def yS (x:Kop):Array Value:=#[iV x.sl,iV x.sg,iV x.o,iV x.d,iV x.a,iV x.b,iV x.ar,iV x.sp,iV x.pl,iV x.nn]
def Zf (w:World) (v:Value) (l:List Kop):Prop :=
 ∃ a cap,v=.slice a l.length cap/\l.length<=cap/\cap<=maxLen /\
   (0<l.length->∃blk off,a=some (ad blk off)/\blk<w.heap.size/\∀i,i<l.length->∀j,j<10->w.cell? (ad blk (off+i*10+j))=(yS (zp l i))[j]?)
theorem Zf.gE {l:List Kop} (h:Zf w v l) (hb:Bw w w'):Zf w' v l:=by
 obtain⟨a,cap,e,h1,h2,h4⟩:=h
 refine⟨a,cap,e,h1,h2,fun hp=>?_⟩
 obtain⟨b,off,e2,h5,h6⟩:=h4 hp
 exact⟨b,off,e2,Nat.lt_of_lt_of_le h5 hb.size,fun i hi j hj=>by rw [zf hb _ _ h5];exact h6 i hi j hj⟩
def xF (w:World) (v:Value) (K:Kn):Prop:=∃kv,v=.agg #[iV K.pc,iV K.st,kv]/\Zf w kv K.ops
theorem xF.gE {K:Kn} (h:xF w v K) (hb:Bw w w'):xF w' v K:=by
 obtain⟨kv,e,h1⟩:=h
 exact⟨kv,e,h1.gE hb⟩
theorem ten {b o:Nat} {x:Kop} (h:∀j,j<10->w.cell? (ad b (o+j))=(yS x)[j]?) :
  w.cell? (ad b o)=sI x.sl/\w.cell? (ad b (o+1))=sI x.sg/\w.cell? (ad b (o+2))=sI x.o/\w.cell? (ad b (o+3))=sI x.d/\w.cell? (ad b (o+4))=sI x.a /\
   w.cell? (ad b (o+5))=sI x.b/\w.cell? (ad b (o+6))=sI x.ar/\w.cell? (ad b (o+7))=sI x.sp/\w.cell? (ad b (o+8))=sI x.pl/\w.cell? (ad b (o+9))=sI x.nn :=
 ⟨h 0 (by omega),h 1 (by omega),h 2 (by omega),h 3 (by omega),h 4 (by omega),h 5 (by omega),h 6 (by omega),h 7 (by omega),h 8 (by omega),h 9 (by omega)⟩
theorem zH (n lo hi:Int) (w:World) :
  Calls prog 66 #[iV n,iV lo,iV hi] w fun e w'=>e=.returned (.bool (inR n lo hi))/\w'=w:=by
 by_cases h:lo<=n/\n<=hi
 ·rw [yf h]
  obtain⟨h1,h2⟩:=h
  go_enter func66,ntmps66
  go_wp2
  go_ret
  exact⟨rfl,rfl⟩
 ·rw [Yt h]
  by_cases h1:lo<=n
  ·have h2:¬n<=hi:=fun h2=>h ⟨h1,h2⟩
   clear h
   go_enter func66,ntmps66
   go_wp2
   go_ret
   exact⟨rfl,rfl⟩
  ·clear h
   go_enter func66,ntmps66
   go_wp2
   go_ret
   exact⟨rfl,rfl⟩
theorem Z3 (op:Int) (w:World):Calls prog 99 #[iV op] w fun e w'=>e=.returned (iV (yM op))/\w'=w:=by
 rcases VA op with ⟨h,hx⟩ | ⟨h,h2,hx⟩ | ⟨h,h2,hx⟩
 ·have HX:=z9 hx
  have hb:(op == 4)=true:=by simpa using h
  clear h hx
  go_enter func99,ntmps99
  go_wp2_with fail
  go_ret
  exact⟨yO HX.out.symm,rfl⟩
 ·have HX:=z9 hx
  have hb:(op == 4)=false:=by simpa using h
  clear h hx
  go_enter func99,ntmps99
  go_wp2_with (go_at_call 140;refine (yt _ _ _ _).mono ?_;rintro e w' ⟨rfl,rfl⟩)
  go_ret
  exact⟨yO HX.out.symm,rfl⟩
 ·have HX:=z9 hx
  have hb:(op == 4)=false:=by simpa using h
  clear h hx
  go_enter func99,ntmps99
  go_wp2_with (go_at_call 140;refine (yt _ _ _ _).mono ?_;rintro e w' ⟨rfl,rfl⟩)
  go_ret
  exact⟨yO HX.out.symm,rfl⟩
theorem zkp (pc st:Int) (kv:Value) (sl sg o d a b ar sp pl nn:Int) (w:World) (hp1:1<=pc) (hp2:pc<=200) (hs1:1<=st) (hs2:st<=1001) :
  Calls prog 113 #[.agg #[iV pc,iV st,kv],.agg #[iV sl,iV sg,iV o,iV d,iV a,iV b,iV ar,iV sp,iV pl,iV nn]] w (Rt w (.bool (xv pc st ⟨sl,sg,o,d,a,b,ar,sp,pl,nn⟩))):=by
 have HT:Hid (xv pc st ⟨sl,sg,o,d,a,b,ar,sp,pl,nn⟩=(inR sl 0 (pc - 1) && inR sg 0 (st - 1) && decide (sg*pc+sl<=1000))):=rfl
 cases h1:inR sl 0 (pc - 1) with
 | false =>
   have HX:Hid (xv pc st ⟨sl,sg,o,d,a,b,ar,sp,pl,nn⟩=false):=by show _=_;rw [HT.out,h1];rfl
   clear HT
   go_enter func113,ntmps113
   go_wp2_with (go_at_call 66;refine (zH _ _ _ _).mono ?_;rintro e w' ⟨rfl,rfl⟩)
   go_ret
   exact⟨zg HX.out.symm,below_alloc2 _ _ _⟩
 | true =>
   cases h2:inR sg 0 (st - 1) with
   | false =>
     have HX:Hid (xv pc st ⟨sl,sg,o,d,a,b,ar,sp,pl,nn⟩=false):=by show _=_;rw [HT.out,h1,h2];rfl
     clear HT
     go_enter func113,ntmps113
     go_wp2_with (go_at_call 66;refine (zH _ _ _ _).mono ?_;rintro e w' ⟨rfl,rfl⟩)
     go_ret
     exact⟨zg HX.out.symm,below_alloc2 _ _ _⟩
   | true =>
     have hs:=zx.1 h1
     have hg:=zx.1 h2
     obtain⟨hs3,hs4⟩:=hs
     obtain⟨hg3,hg4⟩:=hg
     have hm1:0<=pc*sg:=Int.mul_nonneg (by omega) (by omega)
     have hm2:pc*sg<=200*1001:=Int.mul_le_mul hp2 (by omega) (by omega) (by omega)
     have HX:Hid (xv pc st ⟨sl,sg,o,d,a,b,ar,sp,pl,nn⟩=decide (sl+pc*sg<=1000)):=by show _=_;rw [HT.out,h1,h2,Int.mul_comm sg pc,Int.add_comm];rfl
     clear HT
     go_enter func113,ntmps113
     go_wp2_with (go_at_call 66;refine (zH _ _ _ _).mono ?_;rintro e w' ⟨rfl,rfl⟩)
     go_ret
     exact⟨zg HX.out.symm,below_alloc2 _ _ _⟩
theorem zdj (p0 p1 p2 q0 q1 q2 r:Int) (sl sg o d a b ar sp pl nn:Int) (w:World) (hr1:1<=r) (hr2:r<=128) (hL:yM o=0) (hd:inR d 0 (r - 1)=true) :
  Calls prog 114 #[(tv p0 p1 p2 q0 q1 q2 r),.agg #[iV sl,iV sg,iV o,iV d,iV a,iV b,iV ar,iV sp,iV pl,iV nn]] w (Rt w (.bool (inR a 0 (0) && inR b 0 (0)))):=by
 have HLK:Hid (∀W,Calls prog 99 #[iV o] W fun e w'=>e=.returned (iV 0)/\w'=W):=fun W=>hL ▸ Z3 o W
 clear hL
 obtain⟨ra,hra⟩:∃z,inR a 0 (0)=z:=⟨_,rfl⟩
 obtain⟨rb,hrb⟩:∃z,inR b 0 (0)=z:=⟨_,rfl⟩
 have HCA:Hid (∀W,Calls prog 66 #[iV a,iV 0,iV (0)] W fun e w'=>e=.returned (.bool ra)/\w'=W):=fun W=>hra ▸ zH a 0 (0) W
 have HCB:Hid (∀W,Calls prog 66 #[iV b,iV 0,iV (0)] W fun e w'=>e=.returned (.bool rb)/\w'=W):=fun W=>hrb ▸ zH b 0 (0) W
 rw [hra,hrb]
 clear hra hrb
 go_enter func114,ntmps114
 go_wp2_with (first
  | (go_at_call 66;refine (zH _ _ _ _).mono ?_;rintro e w' ⟨rfl,rfl⟩)
  | (go_at_call 99;refine (HLK.out _).mono ?_;rintro e w' ⟨rfl,rfl⟩))
 go_loopw [25] (fun i wr=>wr=(((w.alloc (.cells #[iV p0,iV p1,iV p2,iV q0,iV q1,iV q2,iV r] 28)).alloc (.cells #[iV sl,iV sg,iV o,iV d,iV a,iV b,iV ar,iV sp,iV pl,iV nn] 37)).alloc (.cells #[iV a,iV b] 3))/\(i=iV 0\/(i=iV 1/\ra=true)\/(i=iV 2/\ra=true/\rb=true))) (fun i _=>2 - (intOf i).toNat)
 case atStart=>exact⟨rfl,.inl rfl⟩
 case round =>
  obtain⟨rfl,hrel⟩:=hrel
  rcases hrel with rfl | ⟨rfl,rfl⟩ | ⟨rfl,rfl,rfl⟩
  ·cases ra with
   | false =>
     go_wp2_with (go_at_call 66;refine (HCA.out _).mono ?_;rintro e w' ⟨rfl,rfl⟩)
     go_ret
     exact⟨rfl,below_alloc3 _ _ _ _⟩
   | true =>
     go_wp2_with (go_at_call 66;refine (HCA.out _).mono ?_;rintro e w' ⟨rfl,rfl⟩)
     go_roundw
     case rel=>exact⟨by simp,.inr (.inl ⟨rfl,trivial⟩)⟩
     case measure=>simp [intOf]
  ·cases rb with
   | false =>
     go_wp2_with (go_at_call 66;refine (HCB.out _).mono ?_;rintro e w' ⟨rfl,rfl⟩)
     go_ret
     exact⟨rfl,below_alloc3 _ _ _ _⟩
   | true =>
     go_wp2_with (go_at_call 66;refine (HCB.out _).mono ?_;rintro e w' ⟨rfl,rfl⟩)
     go_roundw
     case rel=>exact⟨by simp,.inr (.inr ⟨rfl,trivial,trivial⟩)⟩
     case measure=>simp [intOf]
  ·go_wp2_with fail
   go_ret
   exact⟨rfl,below_alloc3 _ _ _ _⟩
theorem zdk (p0 p1 p2 q0 q1 q2 r:Int) (sl sg o d a b ar sp pl nn:Int) (w:World) (hr1:1<=r) (hr2:r<=128) (hL:yM o=1) (hd:inR d 0 (r - 1)=true) :
  Calls prog 114 #[(tv p0 p1 p2 q0 q1 q2 r),.agg #[iV sl,iV sg,iV o,iV d,iV a,iV b,iV ar,iV sp,iV pl,iV nn]] w (Rt w (.bool (inR a 0 (r - 1) && inR b 0 (0)))):=by
 have HLK:Hid (∀W,Calls prog 99 #[iV o] W fun e w'=>e=.returned (iV 1)/\w'=W):=fun W=>hL ▸ Z3 o W
 clear hL
 obtain⟨ra,hra⟩:∃z,inR a 0 (r - 1)=z:=⟨_,rfl⟩
 obtain⟨rb,hrb⟩:∃z,inR b 0 (0)=z:=⟨_,rfl⟩
 have HCA:Hid (∀W,Calls prog 66 #[iV a,iV 0,iV (r - 1)] W fun e w'=>e=.returned (.bool ra)/\w'=W):=fun W=>hra ▸ zH a 0 (r - 1) W
 have HCB:Hid (∀W,Calls prog 66 #[iV b,iV 0,iV (0)] W fun e w'=>e=.returned (.bool rb)/\w'=W):=fun W=>hrb ▸ zH b 0 (0) W
 rw [hra,hrb]
 clear hra hrb
 go_enter func114,ntmps114
 go_wp2_with (first
  | (go_at_call 66;refine (zH _ _ _ _).mono ?_;rintro e w' ⟨rfl,rfl⟩)
  | (go_at_call 99;refine (HLK.out _).mono ?_;rintro e w' ⟨rfl,rfl⟩))
 go_loopw [25] (fun i wr=>wr=(((w.alloc (.cells #[iV p0,iV p1,iV p2,iV q0,iV q1,iV q2,iV r] 28)).alloc (.cells #[iV sl,iV sg,iV o,iV d,iV a,iV b,iV ar,iV sp,iV pl,iV nn] 37)).alloc (.cells #[iV a,iV b] 3))/\(i=iV 0\/(i=iV 1/\ra=true)\/(i=iV 2/\ra=true/\rb=true))) (fun i _=>2 - (intOf i).toNat)
 case atStart=>exact⟨rfl,.inl rfl⟩
 case round =>
  obtain⟨rfl,hrel⟩:=hrel
  rcases hrel with rfl | ⟨rfl,rfl⟩ | ⟨rfl,rfl,rfl⟩
  ·cases ra with
   | false =>
     go_wp2_with (go_at_call 66;refine (HCA.out _).mono ?_;rintro e w' ⟨rfl,rfl⟩)
     go_ret
     exact⟨rfl,below_alloc3 _ _ _ _⟩
   | true =>
     go_wp2_with (go_at_call 66;refine (HCA.out _).mono ?_;rintro e w' ⟨rfl,rfl⟩)
     go_roundw
     case rel=>exact⟨by simp,.inr (.inl ⟨rfl,trivial⟩)⟩
     case measure=>simp [intOf]
  ·cases rb with
   | false =>
     go_wp2_with (go_at_call 66;refine (HCB.out _).mono ?_;rintro e w' ⟨rfl,rfl⟩)
     go_ret
     exact⟨rfl,below_alloc3 _ _ _ _⟩
   | true =>
     go_wp2_with (go_at_call 66;refine (HCB.out _).mono ?_;rintro e w' ⟨rfl,rfl⟩)
     go_roundw
     case rel=>exact⟨by simp,.inr (.inr ⟨rfl,trivial,trivial⟩)⟩
     case measure=>simp [intOf]
  ·go_wp2_with fail
   go_ret
   exact⟨rfl,below_alloc3 _ _ _ _⟩
theorem zdl (p0 p1 p2 q0 q1 q2 r:Int) (sl sg o d a b ar sp pl nn:Int) (w:World) (hr1:1<=r) (hr2:r<=128) (hL:yM o=2) (hd:inR d 0 (r - 1)=true) :
  Calls prog 114 #[(tv p0 p1 p2 q0 q1 q2 r),.agg #[iV sl,iV sg,iV o,iV d,iV a,iV b,iV ar,iV sp,iV pl,iV nn]] w (Rt w (.bool (inR a 0 (r - 1) && inR b 0 (r - 1)))):=by
 have HLK:Hid (∀W,Calls prog 99 #[iV o] W fun e w'=>e=.returned (iV 2)/\w'=W):=fun W=>hL ▸ Z3 o W
 clear hL
 obtain⟨ra,hra⟩:∃z,inR a 0 (r - 1)=z:=⟨_,rfl⟩
 obtain⟨rb,hrb⟩:∃z,inR b 0 (r - 1)=z:=⟨_,rfl⟩
 have HCA:Hid (∀W,Calls prog 66 #[iV a,iV 0,iV (r - 1)] W fun e w'=>e=.returned (.bool ra)/\w'=W):=fun W=>hra ▸ zH a 0 (r - 1) W
 have HCB:Hid (∀W,Calls prog 66 #[iV b,iV 0,iV (r - 1)] W fun e w'=>e=.returned (.bool rb)/\w'=W):=fun W=>hrb ▸ zH b 0 (r - 1) W
 rw [hra,hrb]
 clear hra hrb
 go_enter func114,ntmps114
 go_wp2_with (first
  | (go_at_call 66;refine (zH _ _ _ _).mono ?_;rintro e w' ⟨rfl,rfl⟩)
  | (go_at_call 99;refine (HLK.out _).mono ?_;rintro e w' ⟨rfl,rfl⟩))
 go_loopw [25] (fun i wr=>wr=(((w.alloc (.cells #[iV p0,iV p1,iV p2,iV q0,iV q1,iV q2,iV r] 28)).alloc (.cells #[iV sl,iV sg,iV o,iV d,iV a,iV b,iV ar,iV sp,iV pl,iV nn] 37)).alloc (.cells #[iV a,iV b] 3))/\(i=iV 0\/(i=iV 1/\ra=true)\/(i=iV 2/\ra=true/\rb=true))) (fun i _=>2 - (intOf i).toNat)
 case atStart=>exact⟨rfl,.inl rfl⟩
 case round =>
  obtain⟨rfl,hrel⟩:=hrel
  rcases hrel with rfl | ⟨rfl,rfl⟩ | ⟨rfl,rfl,rfl⟩
  ·cases ra with
   | false =>
     go_wp2_with (go_at_call 66;refine (HCA.out _).mono ?_;rintro e w' ⟨rfl,rfl⟩)
     go_ret
     exact⟨rfl,below_alloc3 _ _ _ _⟩
   | true =>
     go_wp2_with (go_at_call 66;refine (HCA.out _).mono ?_;rintro e w' ⟨rfl,rfl⟩)
     go_roundw
     case rel=>exact⟨by simp,.inr (.inl ⟨rfl,trivial⟩)⟩
     case measure=>simp [intOf]
  ·cases rb with
   | false =>
     go_wp2_with (go_at_call 66;refine (HCB.out _).mono ?_;rintro e w' ⟨rfl,rfl⟩)
     go_ret
     exact⟨rfl,below_alloc3 _ _ _ _⟩
   | true =>
     go_wp2_with (go_at_call 66;refine (HCB.out _).mono ?_;rintro e w' ⟨rfl,rfl⟩)
     go_roundw
     case rel=>exact⟨by simp,.inr (.inr ⟨rfl,trivial,trivial⟩)⟩
     case measure=>simp [intOf]
  ·go_wp2_with fail
   go_ret
   exact⟨rfl,below_alloc3 _ _ _ _⟩
theorem zdm (p0 p1 p2 q0 q1 q2 r:Int) (sl sg o d a b ar sp pl nn:Int) (w:World) (hr1:1<=r) (hr2:r<=128) (h1:inR d 0 (r - 1)=false) :
  Calls prog 114 #[(tv p0 p1 p2 q0 q1 q2 r),.agg #[iV sl,iV sg,iV o,iV d,iV a,iV b,iV ar,iV sp,iV pl,iV nn]] w (Rt w (.bool false)):=by
 go_enter func114,ntmps114
 go_wp2_with (go_at_call 66;refine (zH _ _ _ _).mono ?_;rintro e w' ⟨rfl,rfl⟩)
 go_ret
 exact⟨rfl,below_alloc2 _ _ _⟩
theorem zbc (p0 p1 p2 q0 q1 q2 r:Int) (sl sg o d a b ar sp pl nn:Int) (w:World) (hr1:1<=r) (hr2:r<=128) :
  Calls prog 114 #[(tv p0 p1 p2 q0 q1 q2 r),.agg #[iV sl,iV sg,iV o,iV d,iV a,iV b,iV ar,iV sp,iV pl,iV nn]] w (Rt w (.bool (YY r ⟨sl,sg,o,d,a,b,ar,sp,pl,nn⟩))):=by
 have HT:YY r ⟨sl,sg,o,d,a,b,ar,sp,pl,nn⟩=(inR d 0 (r - 1) && inR a 0 (if 0<yM o then r - 1 else 0) && inR b 0 (if 1<yM o then r - 1 else 0)):=rfl
 rw [HT]
 cases h1:inR d 0 (r - 1) with
 | false=>exact zdm p0 p1 p2 q0 q1 q2 r sl sg o d a b ar sp pl nn w hr1 hr2 h1
 | true =>
   rcases VA o with ⟨-,hx⟩ | ⟨-,-,hx⟩ | ⟨-,-,hx⟩
   ·rw [hx];exact zdk p0 p1 p2 q0 q1 q2 r sl sg o d a b ar sp pl nn w hr1 hr2 hx h1
   ·rw [hx];exact zdl p0 p1 p2 q0 q1 q2 r sl sg o d a b ar sp pl nn w hr1 hr2 hx h1
   ·rw [hx];exact zdj p0 p1 p2 q0 q1 q2 r sl sg o d a b ar sp pl nn w hr1 hr2 hx h1
theorem zkf (sl sg o d a b ar sp pl nn:Int) (w:World) (hL:yM o=0) :
  Calls prog 115 #[.agg #[iV sl,iV sg,iV o,iV d,iV a,iV b,iV ar,iV sp,iV pl,iV nn]] w (Rt w (.agg #[iV o,iV 0,iV 0,iV 0,iV 0,iV ar,iV sp,iV pl,iV nn])):=by
 have HLK:Hid (∀W,Calls prog 99 #[iV o] W fun e w'=>e=.returned (iV 0)/\w'=W):=fun W=>hL ▸ Z3 o W
 clear hL
 go_enter func115,ntmps115
 go_wp2_with (go_at_call 99;refine (HLK.out _).mono ?_;rintro e w' ⟨rfl,rfl⟩)
 exact bodyPost_ret (v:=.agg #[iV o,iV 0,iV 0,iV 0,iV 0,iV ar,iV sp,iV pl,iV nn]) (by simp [results,results115,go_sem]) rfl ⟨rfl,(below_alloc3 _ _ _ _).alloc (by simp;omega) _⟩
theorem zkg (sl sg o d a b ar sp pl nn:Int) (w:World) (hL:yM o=1) :
  Calls prog 115 #[.agg #[iV sl,iV sg,iV o,iV d,iV a,iV b,iV ar,iV sp,iV pl,iV nn]] w (Rt w (.agg #[iV o,iV 0,iV 1,iV 0,iV 0,iV ar,iV sp,iV pl,iV nn])):=by
 have HLK:Hid (∀W,Calls prog 99 #[iV o] W fun e w'=>e=.returned (iV 1)/\w'=W):=fun W=>hL ▸ Z3 o W
 clear hL
 go_enter func115,ntmps115
 go_wp2_with (go_at_call 99;refine (HLK.out _).mono ?_;rintro e w' ⟨rfl,rfl⟩)
 exact bodyPost_ret (v:=.agg #[iV o,iV 0,iV 1,iV 0,iV 0,iV ar,iV sp,iV pl,iV nn]) (by simp [results,results115,go_sem]) rfl ⟨rfl,(below_alloc3 _ _ _ _).alloc (by simp;omega) _⟩
theorem zkh (sl sg o d a b ar sp pl nn:Int) (w:World) (hL:yM o=2) :
  Calls prog 115 #[.agg #[iV sl,iV sg,iV o,iV d,iV a,iV b,iV ar,iV sp,iV pl,iV nn]] w (Rt w (.agg #[iV o,iV 0,iV 1,iV 0,iV 1,iV ar,iV sp,iV pl,iV nn])):=by
 have HLK:Hid (∀W,Calls prog 99 #[iV o] W fun e w'=>e=.returned (iV 2)/\w'=W):=fun W=>hL ▸ Z3 o W
 clear hL
 go_enter func115,ntmps115
 go_wp2_with (go_at_call 99;refine (HLK.out _).mono ?_;rintro e w' ⟨rfl,rfl⟩)
 exact bodyPost_ret (v:=.agg #[iV o,iV 0,iV 1,iV 0,iV 1,iV ar,iV sp,iV pl,iV nn]) (by simp [results,results115,go_sem]) rfl ⟨rfl,(below_alloc3 _ _ _ _).alloc (by simp;omega) _⟩
theorem zeq (x:Kop) (w:World) :
  Calls prog 115 #[.agg (yS x)] w (Rt w (.agg (zP (stK x)))):=by
 obtain⟨sl,sg,o,d,a,b,ar,sp,pl,nn⟩:=x
 rcases VA o with ⟨-,hx⟩ | ⟨-,-,hx⟩ | ⟨-,-,hx⟩
 ·have e:zP (stK ⟨sl,sg,o,d,a,b,ar,sp,pl,nn⟩)=#[iV o,iV 0,iV 1,iV 0,iV 0,iV ar,iV sp,iV pl,iV nn]:=by unfold zP stK;dsimp only;rw [hx];rfl
  rw [e];exact zkg sl sg o d a b ar sp pl nn w hx
 ·have e:zP (stK ⟨sl,sg,o,d,a,b,ar,sp,pl,nn⟩)=#[iV o,iV 0,iV 1,iV 0,iV 1,iV ar,iV sp,iV pl,iV nn]:=by unfold zP stK;dsimp only;rw [hx];rfl
  rw [e];exact zkh sl sg o d a b ar sp pl nn w hx
 ·have e:zP (stK ⟨sl,sg,o,d,a,b,ar,sp,pl,nn⟩)=#[iV o,iV 0,iV 0,iV 0,iV 0,iV ar,iV sp,iV pl,iV nn]:=by unfold zP stK;dsimp only;rw [hx];rfl
  rw [e];exact zkf sl sg o d a b ar sp pl nn w hx
end Go.Proofs.YtjoapiafpahihabGreat
