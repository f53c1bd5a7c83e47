import Derived.Test.YtjoapiafpahihabGreatKernS
import Derived.Test.YtjoapiafpahihabGreatBase
import Derived.Test.YtjoapiafpahihabGreatRef2L
import Derived.Test.YtjoapiafpahihabGreatRef11A
import Derived.Test.YtjoapiafpahihabGreatDepQ
import Derived.Test.YtjoapiafpahihabGreatRef8A
namespace Go.Proofs.YtjoapiafpahihabGreat
open Go.RowKit Go.Joins
set_option linter.unusedVariables false
set_option linter.unusedSimpArgs false
set_option maxRecDepth 8192
set_option maxHeartbeats 1000000 in
theorem zfc (p0 p1 p2 q0 q1 q2 r:Int) (D:List Int) (ta:Option Addr) (tc:Nat) (w:World) (h:yf w (.slice ta D.length tc) D) :
  Calls Tryz.prog 146 #[.agg #[iV p0,iV p1,iV p2,iV q0,iV q1,iV q2,iV r],.slice ta D.length tc] w fun e w'=>e=.returned (.bool (zh (fun s=>inR (nth D s) 0 (r - 1)) D.length))/\Below w.heap.size w w':=by
 obtain⟨a,cap,he,hl,hm,hr,hc⟩:=h
 injection he with e1 e2 e3
 subst e1;subst e3
 unfold maxLen at hm
 clear e2
 have HC:=z5 hc
 clear hc hr
 go_enter Tryz.func146,Tryz.ntmps146
 go_wp2_with fail
 go_loopw [9] (fun i wr=>∃k:Nat,k<=D.length/\i=iV k/\zh (fun s=>inR (nth D s) 0 (r - 1)) k=true/\wr=w.alloc (.cells #[iV p0,iV p1,iV p2,iV q0,iV q1,iV q2,iV r] 28)) (fun i _=>D.length - (intOf i).toNat)
 case atStart=>exact⟨0,Nat.zero_le _,rfl,rfl,rfl⟩
 case round =>
  obtain⟨k,hk,rfl,hall,rfl⟩:=hrel
  have HA:=z5 hall
  clear hall
  by_cases hlt:k<D.length
  ·obtain⟨b,off,rfl,hb,hcell⟩:=HC.out (by omega)
   have hck:=hcell k hlt
   have hki:(k:Int)<(D.length:Int):=by omega
   clear hcell HC
   obtain⟨x,hx⟩:∃x,nth D k=x:=⟨_,rfl⟩
   rw [hx] at hck
   have HX:=z5 hx
   clear hx
   by_cases h0:x<0
   ·have HF:Hid (zh (fun s=>inR (nth D s) 0 (r - 1)) D.length=false):=zw hlt (by rw [HX.out];exact Z3 (by omega))
    go_wp2_with fail
    go_ret
    exact⟨z7 (by rw [HF.out]),below_alloc1 _ _⟩
   ·by_cases h1:r<=x
    ·have HF:Hid (zh (fun s=>inR (nth D s) 0 (r - 1)) D.length=false):=zw hlt (by rw [HX.out];exact Z3 (by omega))
     go_wp2_with fail
     go_ret
     exact⟨z7 (by rw [HF.out]),below_alloc1 _ _⟩
    ·have HF:Hid (inR (nth D k) 0 (r - 1)=true):=by show _=_;rw [HX.out];exact zK (by omega)
     go_wp2_with fail
     go_roundw
     case rel=>exact⟨k+1,by omega,by go_num,yw HA.out HF.out,by first | trivial | rfl⟩
     case measure=>simp [intOf];omega
  ·have e:k=D.length:=by omega
   subst e
   have hki:¬(D.length:Int)<(D.length:Int):=by omega
   go_wp2_with fail
   go_ret
   exact⟨z7 (by rw [HA.out]),below_alloc1 _ _⟩
set_option maxHeartbeats 1000000 in
theorem zft (x0 x1 x2 x3 x4 x5 x6 x7 x8 x9 p r:Int) (w:World) (h1:0<=x1) (h2:x1<=1000) (h3:0<=x3) (h4:x3<=128) (h5:0<=p) (h6:p<=5000) (h7:1<=r) (h8:r<=128) :
  Calls Tryz.prog 174 #[.agg #[iV x0,iV x1,iV x2,iV x3,iV x4,iV x5,iV x6,iV x7,iV x8,iV x9],iV p,iV r] w fun e w'=>e=.returned (iV ((x3+x1 - p) % r))/\Below w.heap.size w w':=by
 have hp0:¬r=0:=by omega
 obtain⟨rm,hrm⟩:∃rm,(x3+x1 - p).tmod r=rm:=⟨_,rfl⟩
 have hw0:wrap64 (x3+x1)=x3+x1:=by unfold wrap64;omega
 have hw1:wrap64 (x3+x1 - p)=x3+x1 - p:=by unfold wrap64;omega
 have hb:-128<rm/\rm<128/\(x3+x1 - p) % r=if rm<0 then rm+r else rm:=by
  have e1:=Int.emod_nonneg (x3+x1 - p) (show r≠0 by omega)
  have e2:=Int.emod_lt_of_pos (x3+x1 - p) (show 0<r by omega)
  rw [Int.tmod_eq_emod] at hrm
  split at hrm
  ·rw [if_neg (by omega)];omega
  ·have en:((r.natAbs:Nat):Int)=r:=by omega
   have e3:(x3+x1 - p) % r≠0:=fun h=>by rename_i hd;exact hd (Or.inr (Int.dvd_of_emod_eq_zero h))
   rw [if_pos (by omega)];omega
 obtain⟨hb1,hb2,hb3⟩:=hb
 have hw2:wrap64 rm=rm:=by unfold wrap64;omega
 have hw3:wrap64 (rm+r)=rm+r:=by unfold wrap64;omega
 rw [hb3]
 clear hb3
 by_cases hn:rm<0
 ·rw [if_pos hn]
  go_enter Tryz.func174,Tryz.ntmps174
  go_wp2_with fail
  go_ret
  exact⟨rfl,below_alloc1 _ _⟩
 ·rw [if_neg hn]
  go_enter Tryz.func174,Tryz.ntmps174
  go_wp2_with fail
  go_ret
  exact⟨rfl,below_alloc1 _ _⟩
set_option maxHeartbeats 2000000 in
theorem zmr (o xa xb ya yb ar sp pl nn tm p d:Int) (w:World) (h0:0<=tm) (h1:tm<=1000) (h3:1<=p) (h4:p<=200) :
  Calls Tryz.prog 147 #[.agg #[iV o,iV xa,iV xb,iV ya,iV yb,iV ar,iV sp,iV pl,iV nn],iV tm,iV p,iV d] w fun e w'=>e=.returned (.agg #[iV (tm % p),iV (tm / p),iV o,iV d,iV 0,iV 0,iV ar,iV sp,iV pl,iV nn])/\Below w.heap.size w w':=by
 have hp0:¬p=0:=by omega
 have hm1:=Int.emod_nonneg tm (show p≠0 by omega)
 have hm2:=Int.emod_lt_of_pos tm (show 0<p by omega)
 have hq1:0<=tm / p:=Int.ediv_nonneg h0 (by omega)
 have hq2:tm / p<=tm:=Int.ediv_le_self _ h0
 have ht1:tm.tmod p=tm % p:=Int.tmod_eq_emod_of_nonneg h0
 have ht2:tm.tdiv p=tm / p:=Int.tdiv_eq_ediv_of_nonneg h0
 obtain⟨rm,hrm⟩:∃rm,tm % p=rm:=⟨_,rfl⟩
 obtain⟨qt,hqt⟩:∃qt,tm / p=qt:=⟨_,rfl⟩
 rw [hrm] at hm1 hm2 ht1 ⊢
 rw [hqt] at hq1 hq2 ht2 ⊢
 have hw1:wrap64 rm=rm:=by unfold wrap64;omega
 have hw2:IntKind.i64.wrap rm=rm:=yz _ (by omega) (by omega)
 have hw3:wrap64 qt=qt:=by unfold wrap64;omega
 have hw4:IntKind.i64.wrap qt=qt:=yz _ (by omega) (by omega)
 clear hrm hqt
 go_enter Tryz.func147,Tryz.ntmps147
 go_wp2_with fail
 refine wp_region_noPanic ?_
 refine ze 18 (fun w'=>(w'.cell? ⟨w.heap.size,0,none⟩=some (iV o)/\w'.cell? ⟨w.heap.size,5,none⟩=some (iV ar)/\w'.cell? ⟨w.heap.size,6,none⟩=some (iV sp)/\w'.cell? ⟨w.heap.size,7,none⟩=some (iV pl)/\w'.cell? ⟨w.heap.size,8,none⟩=some (iV nn))) (by kernel_rfl) ⟨by go_simp,by go_simp,by go_simp,by go_simp,by go_simp⟩ (fun hHeld=>?_)
 refine utk (i:=0) rfl hHeld ?_
 refine utk (i:=1) rfl hHeld ?_
 refine utk (i:=2) rfl hHeld ?_
 refine utk (i:=3) rfl hHeld ?_
 refine utk (i:=4) rfl hHeld ?_
 refine utk (i:=5) rfl hHeld ?_
 refine utk (i:=6) rfl hHeld ?_
 refine utk (i:=7) rfl hHeld ?_
 refine utk (i:=8) rfl hHeld ?_
 refine utk (i:=9) rfl hHeld ?_
 refine utk (i:=10) rfl hHeld ?_
 refine utk (i:=11) rfl hHeld ?_
 refine utk (i:=12) rfl hHeld ?_
 refine utk (i:=13) rfl hHeld ?_
 refine utk (i:=14) rfl hHeld ?_
 refine utk (i:=15) rfl hHeld ?_
 refine utk (i:=16) rfl hHeld ?_
 refine utk (i:=17) rfl hHeld ?_
 refine z9 (i:=18) rfl (by kernel_rfl) (fun K hK=>?_)
 go_simp
 refine nxt hK.out (.inl rfl) ?_
 clear hK K
 refine zf (by kernel_rfl) ?_ _
 refine NoPanic.normal ?_
 go_wp2_with fail
 exact bodyPost_ret (v:=.agg #[iV rm,iV qt,iV o,iV d,iV 0,iV 0,iV ar,iV sp,iV pl,iV nn]) (by simp [results,Tryz.results147,go_sem]) rfl ⟨rfl,(below_alloc2 _ _ _).drew⟩
end Go.Proofs.YtjoapiafpahihabGreat
namespace Go.Proofs.YtjoapiafpahihabGreat
open Go.RowKit Go.Joins
set_option linter.unusedVariables false
set_option linter.unusedSimpArgs false
set_option maxRecDepth 8192
variable {L:Lp} {t:Tg} {P:Int} {T D:List Int}
theorem EmJ.set {x1 wr:World} {g lc i j:Nat} (h:EmJ L t P T D x1 g lc i j wr) (hi:i<L.body.length) (hj2:j<2):EmJ L t P T D x1 g lc i (j+1) (wr.setCell ⟨g,i*10+4+j,none⟩ (iV (xV L t P T D i j))):=by
 obtain rfl | rfl:j=0\/j=1:=by omega
 ·exact h.setA hi
 ·exact h.setB hi (by omega) (by omega)
structure zcs (a b:Array Value) (n:Nat) (wr:World):Prop where
 nm:wr.heap[n]?=some (.cells a 241 (0,0))
 rf:wr.heap[n+1]?=some (.cells b 159 (0,0))
theorem zcs.below {a b:Array Value} {n:Nat} {w w':World} (h:zcs a b n w) (hb:Below w.heap.size w w'):zcs a b n w' :=
 ⟨(hb.block _ (Array.getElem?_eq_some_iff.1 h.nm).1).trans h.nm,(hb.block _ (Array.getElem?_eq_some_iff.1 h.rf).1).trans h.rf⟩
theorem zcs.set {a b:Array Value} {n g k:Nat} {w:World} (h:zcs a b n w) (hg:g<n) (v:Value):zcs a b n (w.setCell ⟨g,k,none⟩ v) :=
 ⟨by rw [Below.heap_setCell _ _ _ _ (show n≠g by omega)];exact h.nm,by rw [Below.heap_setCell _ _ _ _ (show n+1≠g by omega)];exact h.rf⟩
theorem zqu {x:World} {n g k j:Nat} (h:x.heap[n]?=some (.cells #[.pointer (some ⟨g,k+4,none⟩),.pointer (some ⟨g,k+5,none⟩)] 241 (0,0))) (hj:j<2):x.cell? ⟨n,j,none⟩=some (.pointer (some ⟨g,k+4+j,none⟩)):=by
 obtain rfl | rfl:j=0\/j=1:=by omega
 ·rw [cell_of_block h];rfl
 ·rw [cell_of_block h];rfl
theorem zpl {x:World} {n:Nat} {o xa xb ya yb ar sp pl nn:Int} (h:x.heap[n]?=some (.cells #[iV xa,iV xb,iV ya,iV yb] 159 (0,0))):zg x n 159 4 (Xf ⟨o,xa,xb,ya,yb,ar,sp,pl,nn⟩) :=
 ⟨_,h,by simp,fun i hi=>by
  have:i=0\/i=1\/i=2\/i=3:=by omega
  rcases this with rfl | rfl | rfl | rfl <;> rfl⟩
set_option maxHeartbeats 8000000 in
theorem UT (p0 p1 p2 q0 q1 q2 r:Int) (L:Lp) (P:Int) (T D:List Int) (x1:World) (g lc i:Nat) (o xa xb ya yb ar sp pl nn:Int) (w:World) (hleg:zD L ⟨p0,p1,p2,q0,q1,q2,r⟩ P T=true) (hdo:yI L ⟨p0,p1,p2,q0,q1,q2,r⟩ D=true) (hst:z6 L.body i=⟨o,xa,xb,ya,yb,ar,sp,pl,nn⟩) (hil:i<L.body.length) (hc1:L.body.length<=lc) (hc2:lc<=9223372036854775807) (hj:EmJ L ⟨p0,p1,p2,q0,q1,q2,r⟩ P T D x1 g lc i 0 w) :
  Calls Tryz.prog 148 #[.slice (some ⟨g,0,none⟩) L.body.length lc,iV i,.agg #[iV o,iV xa,iV xb,iV ya,iV yb,iV ar,iV sp,iV pl,iV nn],iV r] w fun e w'=>e=.returned (.tuple #[])/\EmJ L ⟨p0,p1,p2,q0,q1,q2,r⟩ P T D x1 g lc (i+1) 0 w':=by
 obtain⟨hm,hmt,hP1,hP2,hTn,htl,-⟩:=zL hleg
 have hr:1<=r/\r<=128:=by obtain⟨-,-,-,h4,h5⟩:=yi hmt;exact⟨h4,h5⟩
 obtain⟨hr1,hr2⟩:=hr
 obtain⟨-,hl1,hl16,-⟩:=zj hm
 have HSG:Hid (∀s,s<L.body.length->0<=nth T s / P/\nth T s / P<=1000):=fun s hs=>by
  have h:=zl htl s (by omega)
  unfold Y6 at h
  simp only [Bool.and_eq_true] at h
  have h2:=zo.1 h.1
  exact⟨Int.ediv_nonneg h2.1 (by omega),Int.le_trans (Int.ediv_le_self _ h2.1) h2.2⟩
 have HD:Hid (∀s,s<L.body.length->0<=nth D s/\nth D s<=128):=fun s hs=>by
  unfold yI at hdo
  rw [Bool.and_eq_true] at hdo
  have h2:=zo.1 (zl hdo.2 s hs)
  exact⟨h2.1,by have:=h2.2;dsimp only at this;omega⟩
 have HUS:=z5 (fun (rf:Int × Int) (h:rf∈yr (z6 L.body i))=>zcj hm hil h)
 have hlk0:=Xp (zl (zj hm).2.2.2.2.2.2 i hil)
 have HNX:=z5 (fun (y:World) (h:EmJ L ⟨p0,p1,p2,q0,q1,q2,r⟩ P T D x1 g lc i (yr (z6 L.body i)).length y)=>h.next)
 have HNE:=z5 (fun j=>show xV L ⟨p0,p1,p2,q0,q1,q2,r⟩ P T D i j=(nth D (zi (yr (z6 L.body i)) j).1.toNat+nth T (zi (yr (z6 L.body i)) j).1.toNat / P - (zi (yr (z6 L.body i)) j).2 - nth T i / P) % r from rfl)
 rw [hst] at HUS hlk0 HNX HNE
 obtain⟨hlk,hus2⟩:=hlk0
 dsimp only at hlk
 obtain⟨us,hus⟩:∃us,yr ⟨o,xa,xb,ya,yb,ar,sp,pl,nn⟩=us:=⟨_,rfl⟩
 rw [hus] at HUS hlk hus2 HNX HNE
 have HUSQ:=z5 hus
 have hgz:g<w.heap.size:=zg.lt hj.row
 have hgx:=hj.gt
 have HJ:=z5 hj
 clear hus hj hleg hdo hm hmt htl hst
 go_enter Tryz.func148,Tryz.ntmps148
 have HJ1:Hid (EmJ L ⟨p0,p1,p2,q0,q1,q2,r⟩ P T D x1 g lc i 0 (w.alloc (.cells #[iV o,iV xa,iV xb,iV ya,iV yb,iV ar,iV sp,iV pl,iV nn] 41))):=HJ.out.below (below_alloc1 _ _)
 have hz1:(w.alloc (.cells #[iV o,iV xa,iV xb,iV ya,iV yb,iV ar,iV sp,iV pl,iV nn] 41)).heap.size=w.heap.size+1:=by simp
 have HZ1:=z5 hz1
 have k1:(w.alloc (.cells #[iV o,iV xa,iV xb,iV ya,iV yb,iV ar,iV sp,iV pl,iV nn] 41)).heap[w.heap.size]?=some (.cells #[iV o,iV xa,iV xb,iV ya,iV yb,iV ar,iV sp,iV pl,iV nn] 41 (0,0)):=zn _ _ _
 have HK1:=z5 k1
 clear hz1 k1
 have hii:(i:Int)<(L.body.length:Int):=by omega
 go_wp2_with fail
 refine wp_region_noPanic ?_
 refine ze 8 (fun w'=>True) (by kernel_rfl) trivial (fun hHeld=>?_)
 refine utk (i:=0) rfl hHeld ?_
 refine utk (i:=1) rfl hHeld ?_
 refine utk (i:=2) rfl hHeld ?_
 refine utk (i:=3) rfl hHeld ?_
 refine utk (i:=4) rfl hHeld ?_
 refine utk (i:=5) rfl hHeld ?_
 refine utk (i:=6) rfl hHeld ?_
 refine z9 (i:=7) rfl (by kernel_rfl) (fun K hK=>?_)
 go_simp
 refine nxt hK.out (.inr trivial) ?_
 clear hK K
 refine z9 (i:=8) rfl (by kernel_rfl) (fun K hK=>?_)
 go_simp
 refine nxt hK.out (.inl rfl) ?_
 clear hK K
 refine zf (by kernel_rfl) ?_ _
 refine NoPanic.normal ?_
 have HZ3:Hid ((((w.alloc (.cells #[iV o,iV xa,iV xb,iV ya,iV yb,iV ar,iV sp,iV pl,iV nn] 41)).alloc (.cells #[.pointer (some ⟨g,i*10+4,none⟩),.pointer (some ⟨g,i*10+5,none⟩)] 241)).alloc (.cells #[iV xa,iV xb,iV ya,iV yb] 159)).drew.heap.size=w.heap.size+1+1+1):=by show (((w.alloc (.cells #[iV o,iV xa,iV xb,iV ya,iV yb,iV ar,iV sp,iV pl,iV nn] 41)).alloc (.cells #[.pointer (some ⟨g,i*10+4,none⟩),.pointer (some ⟨g,i*10+5,none⟩)] 241)).alloc (.cells #[iV xa,iV xb,iV ya,iV yb] 159)).heap.size=_;simp
 have HB3:Hid (Below w.heap.size w (((w.alloc (.cells #[iV o,iV xa,iV xb,iV ya,iV yb,iV ar,iV sp,iV pl,iV nn] 41)).alloc (.cells #[.pointer (some ⟨g,i*10+4,none⟩),.pointer (some ⟨g,i*10+5,none⟩)] 241)).alloc (.cells #[iV xa,iV xb,iV ya,iV yb] 159)).drew):=(below_alloc3 _ _ _ _).drew
 have HT3:Hid (zcs #[.pointer (some ⟨g,i*10+4,none⟩),.pointer (some ⟨g,i*10+5,none⟩)] #[iV xa,iV xb,iV ya,iV yb] (w.heap.size+1) (((w.alloc (.cells #[iV o,iV xa,iV xb,iV ya,iV yb,iV ar,iV sp,iV pl,iV nn] 41)).alloc (.cells #[.pointer (some ⟨g,i*10+4,none⟩),.pointer (some ⟨g,i*10+5,none⟩)] 241)).alloc (.cells #[iV xa,iV xb,iV ya,iV yb] 159)).drew):=by
  refine⟨?_,?_⟩
  ·show (((w.alloc (.cells #[iV o,iV xa,iV xb,iV ya,iV yb,iV ar,iV sp,iV pl,iV nn] 41)).alloc (.cells #[.pointer (some ⟨g,i*10+4,none⟩),.pointer (some ⟨g,i*10+5,none⟩)] 241)).alloc (.cells #[iV xa,iV xb,iV ya,iV yb] 159)).heap[_]?=_
   rw [Below.heap_alloc _ _ _ (by simp),<-HZ1.out];exact zn _ _ _
  ·show (((w.alloc (.cells #[iV o,iV xa,iV xb,iV ya,iV yb,iV ar,iV sp,iV pl,iV nn] 41)).alloc (.cells #[.pointer (some ⟨g,i*10+4,none⟩),.pointer (some ⟨g,i*10+5,none⟩)] 241)).alloc (.cells #[iV xa,iV xb,iV ya,iV yb] 159)).heap[_]?=_
   have e:((w.alloc (.cells #[iV o,iV xa,iV xb,iV ya,iV yb,iV ar,iV sp,iV pl,iV nn] 41)).alloc (.cells #[.pointer (some ⟨g,i*10+4,none⟩),.pointer (some ⟨g,i*10+5,none⟩)] 241)).heap.size=w.heap.size+1+1:=by simp
   rw [<-e];exact zn _ _ _
 clear HK1 HJ1
 go_wp2_with fail
 refine (Ve o _).mono ?_
 rintro e w' ⟨rfl,hw'⟩
 have hw':=hw'.symm;subst hw'
 rw [hlk]
 go_wp2_with fail
 go_loopw [31] (fun iv wr=>∃j:Nat,j<=us.length/\iv=iV j/\EmJ L ⟨p0,p1,p2,q0,q1,q2,r⟩ P T D x1 g lc i j wr/\zcs #[.pointer (some ⟨g,i*10+4,none⟩),.pointer (some ⟨g,i*10+5,none⟩)] #[iV xa,iV xb,iV ya,iV yb] (w.heap.size+1) wr) (fun iv _=>us.length - (intOf iv).toNat)
 case atStart=>exact⟨0,Nat.zero_le _,rfl,HJ.out.below HB3.out,HT3.out⟩
 case round =>
  clear HJ HB3 HT3 HZ3
  obtain⟨j,hjl,rfl,hj,h2⟩:=hrel
  by_cases hjn:j<us.length
  ·have hji:(j:Int)<(us.length:Int):=by omega
   have hj2:j<2:=by omega
   have hjh:(j:Int)<2:=by omega
   have HJ:=z5 hj
   have H2:=z5 h2
   have hrf:=HUS.out (zi us j) (by
    unfold zi
    rw [List.getD_eq_getElem?_getD,List.getElem?_eq_getElem hjn]
    exact List.getElem_mem hjn)
   have hcc:=zc7 (zpl (o:=o) (ar:=ar) (sp:=sp) (pl:=pl) (nn:=nn) h2.rf) (i:=j) (by rw [HUSQ.out];exact hjn)
   rw [HUSQ.out] at hcc
   obtain⟨f0,f1⟩:=hcc
   have pn:=zqu h2.nm hj2
   have HNM:=z5 (HNE.out j)
   have HST:=z5 (hj.set hil hj2)
   have hgr:g<wr.heap.size:=zg.lt hj.row
   have hwz:w.heap.size+1+1<wr.heap.size:=(Array.getElem?_eq_some_iff.1 h2.rf).1
   generalize zi us j=rf at *
   obtain⟨ra,rb⟩:=rf
   obtain⟨u1,u2,u3,u4⟩:=hrf
   simp only at f0 f1 u1 u2 u3 u4
   obtain⟨rn,rfl⟩:=Int.eq_ofNat_of_zero_le u1
   have hrl:rn<L.body.length:=by omega
   have hrli:(rn:Int)<(L.body.length:Int):=by omega
   have hnm:=HNM.out
   rw [show (((rn:Nat):Int),rb).1.toNat=rn from Int.toNat_natCast _] at hnm
   simp only at hnm
   obtain⟨s1,s2⟩:=HSG.out rn hrl
   obtain⟨d1,d2⟩:=HD.out rn hrl
   obtain⟨v1,v2⟩:=HSG.out i hil
   have ho:=zaq (L:=L) (t:=⟨p0,p1,p2,q0,q1,q2,r⟩) (P:=P) (T:=T) (D:=D) i j rn
   have hoi:=(zaq (L:=L) (t:=⟨p0,p1,p2,q0,q1,q2,r⟩) (P:=P) (T:=T) (D:=D) i j i).1
   obtain⟨c0,c1,c2,c3,c4,c5,c6,c7,c8,c9⟩:=ten (fun k hk=>hj.row.cells hrl k hk)
   have ci:=(ten (fun k hk=>hj.row.cells hil k hk)).2.1
   rw [hoi] at ci
   obtain⟨ho1,ho2⟩:=ho
   rw [ho1] at c1
   rw [ho2] at c3
   obtain⟨si,hsi⟩:∃si,nth T i / P=si:=⟨_,rfl⟩
   obtain⟨y1,hy1⟩:∃y1,nth T rn / P=y1:=⟨_,rfl⟩
   obtain⟨y3,hy3⟩:∃y3,nth D rn=y3:=⟨_,rfl⟩
   rw [hsi] at ci hnm v1 v2
   rw [hy1] at c1 hnm s1 s2
   rw [hy3] at c3 hnm d1 d2
   have hnm2:xV L ⟨p0,p1,p2,q0,q1,q2,r⟩ P T D i j=(y3+y1 - (rb+si)) % r:=by rw [hnm];congr 1;omega
   have HNM2:=z5 hnm2
   clear hnm hnm2 HNM ho1 ho2 hoi hsi hy1 hy3
   generalize (Z7 L ⟨p0,p1,p2,q0,q1,q2,r⟩ P T D i j rn).sl=y0 at c0
   generalize (Z7 L ⟨p0,p1,p2,q0,q1,q2,r⟩ P T D i j rn).o=y2 at c2
   generalize (Z7 L ⟨p0,p1,p2,q0,q1,q2,r⟩ P T D i j rn).a=y4 at c4
   generalize (Z7 L ⟨p0,p1,p2,q0,q1,q2,r⟩ P T D i j rn).b=y5 at c5
   generalize (Z7 L ⟨p0,p1,p2,q0,q1,q2,r⟩ P T D i j rn).ar=y6 at c6
   generalize (Z7 L ⟨p0,p1,p2,q0,q1,q2,r⟩ P T D i j rn).sp=y7 at c7
   generalize (Z7 L ⟨p0,p1,p2,q0,q1,q2,r⟩ P T D i j rn).pl=y8 at c8
   generalize (Z7 L ⟨p0,p1,p2,q0,q1,q2,r⟩ P T D i j rn).nn=y9 at c9
   have HSS:Hid (∀y:World,Below (wr.heap.size+1) (wr.alloc (.cells #[iV (rn:Int),iV rb] 39)) y->(y.cell? ⟨w.heap.size+1,j,none⟩=some (.pointer (some ⟨g,i*10+4+j,none⟩))/\y.cell? ⟨wr.heap.size,0,none⟩=some (iV (rn:Int))/\y.cell? ⟨wr.heap.size,1,none⟩=some (iV rb)/\y.cell? ⟨g,rn*10,none⟩=some (iV y0)/\y.cell? ⟨g,rn*10+1,none⟩=some (iV y1)/\y.cell? ⟨g,rn*10+2,none⟩=some (iV y2)/\y.cell? ⟨g,rn*10+3,none⟩=some (iV y3)/\y.cell? ⟨g,rn*10+4,none⟩=some (iV y4)/\y.cell? ⟨g,rn*10+5,none⟩=some (iV y5)/\y.cell? ⟨g,rn*10+6,none⟩=some (iV y6)/\y.cell? ⟨g,rn*10+7,none⟩=some (iV y7)/\y.cell? ⟨g,rn*10+8,none⟩=some (iV y8)/\y.cell? ⟨g,rn*10+9,none⟩=some (iV y9)/\y.cell? ⟨g,i*10+1,none⟩=some (iV si))):=by
    intro y h
    have e1:(wr.alloc (.cells #[iV (rn:Int),iV rb] 39)).heap.size=wr.heap.size+1:=by simp
    have h':Below (wr.alloc (.cells #[iV (rn:Int),iV rb] 39)).heap.size (wr.alloc (.cells #[iV (rn:Int),iV rb] 39)) y:=by rw [e1];exact h
    have hz:∀q o,q<wr.heap.size->y.cell? ⟨q,o,none⟩=wr.cell? ⟨q,o,none⟩:=fun q o hq=>by rw [zc h' _ _ (by omega),zc (below_alloc1 wr _) _ _ hq]
    rw [hz _ _ (show w.heap.size+1<wr.heap.size by omega),hz _ _ hgr,hz _ _ hgr,hz _ _ hgr,hz _ _ hgr,hz _ _ hgr,hz _ _ hgr,hz _ _ hgr,hz _ _ hgr,hz _ _ hgr,hz _ _ hgr,hz _ _ hgr]
    refine⟨pn,?_,?_,c0,c1,c2,c3,c4,c5,c6,c7,c8,c9,ci⟩
    ·rw [zc h' _ _ (by omega)];go_simp
    ·rw [zc h' _ _ (by omega)];go_simp
   have HRW:Hid (∀y:World,Below (wr.heap.size+1) (wr.alloc (.cells #[iV (rn:Int),iV rb] 39)) y->Below wr.heap.size wr y):=fun y h=>(below_alloc1 wr _).trans (h.mono (Nat.le_succ _))
   have hwsi:wrap64 (rb+si)=rb+si:=by unfold wrap64;omega
   have hwsj:IntKind.i64.wrap (rb+si)=rb+si:=yz _ (by omega) (by omega)
   have HNA:=z5 (fun W=>zft y0 y1 y2 y3 y4 y5 y6 y7 y8 y9 (rb+si) r W s1 s2 d1 d2 (by omega) (by omega) hr1 hr2)
   have HSET:Hid (∀y:World,Below wr.heap.size wr y->EmJ L ⟨p0,p1,p2,q0,q1,q2,r⟩ P T D x1 g lc i (j+1) (y.setCell ⟨g,i*10+4+j,none⟩ (iV ((y3+y1 - (rb+si)) % r)))):=fun y h=>by rw [<-HNM2.out];exact (HJ.out.below h).set hil hj2
   obtain⟨nm,hnmq⟩:∃nm,(y3+y1 - (rb+si)) % r=nm:=⟨_,rfl⟩
   rw [hnmq] at HNA HSET
   have HOLD:Hid (∀y:World,Below wr.heap.size wr y->(∃u,y.cell? ⟨g,i*10+4+j,none⟩=some (iV u))/\y.frozen? ⟨g,i*10+4+j,none⟩=false):=fun y h=>by
    have hq:=(HJ.out.below h).row
    refine⟨?_,zg.frozen hq _⟩
    obtain⟨-,-,-,-,e4,e5,-⟩:=ten (fun k hk=>hq.cells hil k hk)
    obtain rfl | rfl:j=0\/j=1:=by omega
    ·exact⟨_,e4⟩
    ·exact⟨_,e5⟩
   clear hnmq hj h2 c0 c1 c2 c3 c4 c5 c6 c7 c8 c9 ci HNM2
   go_wp2_with fail
   clear f0 f1 pn
   refine wp_region_noPanic ?_
   refine ze 18 (fun w'=>(w'.cell? ⟨w.heap.size+1,j,none⟩=some (.pointer (some ⟨g,i*10+4+j,none⟩))/\w'.cell? ⟨wr.heap.size,0,none⟩=some (iV (rn:Int))/\w'.cell? ⟨wr.heap.size,1,none⟩=some (iV rb)/\w'.cell? ⟨g,rn*10,none⟩=some (iV y0)/\w'.cell? ⟨g,rn*10+1,none⟩=some (iV y1)/\w'.cell? ⟨g,rn*10+2,none⟩=some (iV y2)/\w'.cell? ⟨g,rn*10+3,none⟩=some (iV y3)/\w'.cell? ⟨g,rn*10+4,none⟩=some (iV y4)/\w'.cell? ⟨g,rn*10+5,none⟩=some (iV y5)/\w'.cell? ⟨g,rn*10+6,none⟩=some (iV y6)/\w'.cell? ⟨g,rn*10+7,none⟩=some (iV y7)/\w'.cell? ⟨g,rn*10+8,none⟩=some (iV y8)/\w'.cell? ⟨g,rn*10+9,none⟩=some (iV y9)/\w'.cell? ⟨g,i*10+1,none⟩=some (iV si))) (by kernel_rfl) (HSS.out _ (zH _ _)) (fun hHeld=>?_)
   refine utk (i:=0) rfl hHeld ?_
   refine utk (i:=1) rfl hHeld ?_
   refine utk (i:=2) rfl hHeld ?_
   refine utk (i:=3) rfl hHeld ?_
   refine utk (i:=4) rfl hHeld ?_
   refine utk (i:=5) rfl hHeld ?_
   refine utk (i:=6) rfl hHeld ?_
   refine utk (i:=7) rfl hHeld ?_
   refine utk (i:=8) rfl hHeld ?_
   refine utk (i:=9) rfl hHeld ?_
   refine utk (i:=10) rfl hHeld ?_
   refine utk (i:=11) rfl hHeld ?_
   refine utk (i:=12) rfl hHeld ?_
   refine utk (i:=13) rfl hHeld ?_
   refine utk (i:=14) rfl hHeld ?_
   refine utk (i:=15) rfl hHeld ?_
   refine z9 (i:=16) rfl (by kernel_rfl) (fun K hK=>?_)
   go_simp
   refine (HNA.out _).mono ?_
   rintro e x2 ⟨rfl,hb9⟩
   have HB9:Hid (Below (wr.heap.size+1) (wr.alloc (.cells #[iV (rn:Int),iV rb] 39)) x2):=by
    have e1:(wr.alloc (.cells #[iV (rn:Int),iV rb] 39)).heap.size=wr.heap.size+1:=by simp
    exact (zH _ _).trans (hb9.mono (by show _<=(wr.alloc (.cells #[iV (rn:Int),iV rb] 39)).heap.size;omega))
   have hHeld2:=HSS.out _ HB9.out
   clear hb9
   refine nxt hK.out (.inr hHeld2) ?_
   clear hK K
   refine utk (i:=17) rfl hHeld2 ?_
   obtain⟨⟨u,hu⟩,hfu⟩:=HOLD.out x2 (HRW.out x2 HB9.out)
   refine z9 (i:=18) rfl (by kernel_rfl) (fun K hK=>?_)
   go_simp
   refine nxt hK.out (.inl rfl) ?_
   clear hK K
   refine zf (by kernel_rfl) ?_ _
   refine NoPanic.normal ?_
   have HF1:=z5 (HSET.out x2 (HRW.out x2 HB9.out))
   have HF2:=z5 ((H2.out.below (HRW.out x2 HB9.out)).set (k:=i*10+4+j) (show g<w.heap.size+1 by omega) (iV nm))
   clear hHeld hHeld2 hu hfu HSS HB9
   go_wp2_with fail
   go_roundw
   case rel=>exact⟨j+1,by omega,by go_num,HF1.out,HF2.out⟩
   case measure=>simp [intOf];omega
  ·have e:j=us.length:=by omega
   subst e
   have hji:¬(us.length:Int)<(us.length:Int):=by omega
   have HF:=z5 (HNX.out wr hj)
   clear hj h2
   go_wp2_with fail
   go_end0
   exact⟨rfl,HF.out⟩
end Go.Proofs.YtjoapiafpahihabGreat
namespace Go.Proofs.YtjoapiafpahihabGreat
open Go.RowKit Go.Joins
set_option linter.unusedVariables false
set_option linter.unusedSimpArgs false
set_option maxRecDepth 8192
theorem Zi {w y:World} {lv tv pv:Array Value} (h:Below (w.heap.size+1+1+1+1) ((((w.alloc (.cells lv 25)).alloc (.cells tv 28)).alloc (.cells pv 49)).alloc (.cells #[iV 0,iV 0,.slice none 0 0] 31)) y) :
  y.heap[w.heap.size]?=some (.cells lv 25 (0,0))/\y.heap[w.heap.size+1]?=some (.cells tv 28 (0,0))/\y.heap[w.heap.size+1+1]?=some (.cells pv 49 (0,0))/\y.heap[(w.heap.size+1+1+1)]?=some (.cells #[iV 0,iV 0,.slice none 0 0] 31 (0,0))/\(w.heap.size+1+1+1+1)<=y.heap.size/\Below w.heap.size w y:=by
 have z1:(w.alloc (.cells lv 25)).heap.size=w.heap.size+1:=by simp
 have z2:((w.alloc (.cells lv 25)).alloc (.cells tv 28)).heap.size=w.heap.size+1+1:=by simp
 have z3:(((w.alloc (.cells lv 25)).alloc (.cells tv 28)).alloc (.cells pv 49)).heap.size=w.heap.size+1+1+1:=by simp
 have z4:((((w.alloc (.cells lv 25)).alloc (.cells tv 28)).alloc (.cells pv 49)).alloc (.cells #[iV 0,iV 0,.slice none 0 0] 31)).heap.size=(w.heap.size+1+1+1+1):=by simp
 have hz:=h.size
 rw [z4] at hz
 refine⟨?_,?_,?_,?_,hz,?_⟩
 ·rw [h.block _ (by omega),Below.heap_alloc _ _ _ (by rw [z3];omega),Below.heap_alloc _ _ _ (by rw [z2];omega),Below.heap_alloc _ _ _ (by rw [z1];omega)];exact zn _ _ _
 ·rw [h.block _ (by omega),Below.heap_alloc _ _ _ (by rw [z3];omega),Below.heap_alloc _ _ _ (by rw [z2];omega),<-z1];exact zn _ _ _
 ·rw [h.block _ (by omega),Below.heap_alloc _ _ _ (by rw [z3];omega),<-z2];exact zn _ _ _
 ·rw [h.block _ (by omega),<-z3];exact zn _ _ _
 ·exact ((below_alloc3 _ _ _ _).trans ((below_alloc1 _ _).mono (by rw [z3];omega))).trans (h.mono (by omega))
theorem EmI.next2 {L:Lp} {t:Tg} {P:Int} {T D:List Int} {x1 wr y w1:World} {k:Nat} {la la':Option Addr} {lc lc':Nat} {st:Int} (ho:wr.ownsRow (x1.heap.size+1) 37 10 (.slice la k lc) k (Zh ((List.range k).map fun s=>opQ L t P T D s 0))) (hbx:Below x1.heap.size x1 y) (hy:y.heap[x1.heap.size]?=some (.cells #[iV P,iV st,.slice la k lc] 31 (0,0)))
  (ho1:w1.ownsRow (x1.heap.size+1) 37 10 (.slice la' (k+1) lc') (k+1) (Zh ((List.range k).map fun s=>opQ L t P T D s 0)++(yX (opQ L t P T D k 0)).toList)) (hg:y.grownBy w1 (Value.ownBlock (.slice la k lc))) :
  EmI L t P T D x1 (k+1) ((w1.setCell ⟨x1.heap.size,2,none⟩ (.slice la' (k+1) lc')).setCell ⟨x1.heap.size,1,none⟩ (iV (zM P T (k+1))))/\w1.heap[x1.heap.size]?=some (.cells #[iV P,iV st,.slice la k lc] 31 (0,0)):=by
 have hge:=ye ho
 have hyz:x1.heap.size<y.heap.size:=(Array.getElem?_eq_some_iff.1 hy).1
 have hb1:w1.heap[x1.heap.size]?=some (.cells #[iV P,iV st,.slice la k lc] 31 (0,0)):=by
  rw [hg.block _ hyz (fun e=>by have:=hge _ e.symm;omega)];exact hy
 refine⟨⟨((hbx.grown hg (Nat.le_of_lt hyz) fun q hq=>by have:=hge q hq;omega).setCell (Nat.le_refl _) _).setCell (Nat.le_refl _) _,la',lc',?_,?_⟩,hb1⟩
 ·simp [World.setCell,Array.getElem?_modify,hb1]
 ·have e:Zh ((List.range k).map fun s=>opQ L t P T D s 0)++(yX (opQ L t P T D k 0)).toList=Zh ((List.range (k+1)).map fun s=>opQ L t P T D s 0):=by
   rw [Ue,List.range_succ,List.map_append];rfl
  rw [e] at ho1
  obtain⟨hl,hc⟩:=ho1
  refine⟨hl,?_⟩
  rcases hc with hc | ⟨g,cap,cur,hv,hg',hk',r⟩
  ·exact .inl hc
  ·exact .inr ⟨g,cap,cur,hv,hg',by rw [Below.heap_setCell _ _ _ _ (show g≠x1.heap.size by omega),Below.heap_setCell _ _ _ _ (show g≠x1.heap.size by omega)];exact hk',r⟩
theorem zpp {x:World} {g:Nat} {e:TypeId} {a0 a1 a2 a3 a4 a5 a6 a7 a8 a9 b0 b1 b2 b3 b4 b5 b6 b7 b8 b9:Value} (h:x.heap[g]?=some (.cells #[a0,a1,a2,a3,a4,a5,a6,a7,a8,a9] e (0,0))):((((((((((x.setCell ⟨g,0,none⟩ b0).setCell ⟨g,1,none⟩ b1).setCell ⟨g,2,none⟩ b2).setCell ⟨g,3,none⟩ b3).setCell ⟨g,4,none⟩ b4).setCell ⟨g,5,none⟩ b5).setCell ⟨g,6,none⟩ b6).setCell ⟨g,7,none⟩ b7).setCell ⟨g,8,none⟩ b8).setCell ⟨g,9,none⟩ b9).heap[g]?=some (.cells #[b0,b1,b2,b3,b4,b5,b6,b7,b8,b9] e (0,0)):=by
 simp [World.setCell,Array.getElem?_modify,h]
set_option maxHeartbeats 32000000 in
theorem zfe (hS:YZ) (p0 p1 p2 q0 q1 q2 r:Int) (L:Lp) (a0 a2:Option Addr) (bb bo:Nat) (cap0 cap1 cap2:Nat) (P:Int) (T D:List Int) (tb tz tc db dz dc:Nat) (w:World) (hL:zk w (.agg #[.slice a0 L.logs.length cap0,.slice (some ⟨bb,bo,none⟩) L.body.length cap1,.slice a2 L.outs.length cap2]) L) (hP:Zl w (.agg #[iV P,.slice (some ⟨tb,tz,none⟩) L.body.length tc]) P T) (hD:yf w (.slice (some ⟨db,dz,none⟩) L.body.length dc) D) (hleg:zD L ⟨p0,p1,p2,q0,q1,q2,r⟩ P T=true) (hDn:D.length=L.body.length) (hall:zh (fun s=>inR (nth D s) 0 (r - 1)) D.length=true)
  (hbb:bb<w.heap.size) (hbc:L.body.length<=cap1) (hbm:cap1<=9223372036854775807) (hbody:∀i,i<L.body.length->∀j,j<9->w.cell? ⟨bb,bo+i*9+j,none⟩=(zJ (z6 L.body i))[j]?)
  (htb:tb<w.heap.size) (htc:L.body.length<=tc) (htm:tc<=9223372036854775807) (htimes:∀i,i<L.body.length->w.cell? ⟨tb,tz+i,none⟩=some (iV (nth T i)))
  (hdb:db<w.heap.size) (hdc:L.body.length<=dc) (hdm:dc<=9223372036854775807) (hdests:∀i,i<L.body.length->w.cell? ⟨db,dz+i,none⟩=some (iV (nth D i))) :
  Calls Tryz.prog 109 #[.agg #[.slice a0 L.logs.length cap0,.slice (some ⟨bb,bo,none⟩) L.body.length cap1,.slice a2 L.outs.length cap2],.agg #[iV p0,iV p1,iV p2,iV q0,iV q1,iV q2,iV r],.agg #[iV P,.slice (some ⟨tb,tz,none⟩) L.body.length tc],.slice (some ⟨db,dz,none⟩) L.body.length dc] w (U0 L ⟨p0,p1,p2,q0,q1,q2,r⟩ P T D w):=by
 have hdo:yI L ⟨p0,p1,p2,q0,q1,q2,r⟩ D=true:=by
  rw [hDn] at hall
  unfold yI
  rw [show zh (fun s=>inR (nth D s) 0 ((⟨p0,p1,p2,q0,q1,q2,r⟩:Tg).r - 1)) L.body.length=true from hall,decide_eq_true hDn];rfl
 have HDY:Hid (zcx L ⟨p0,p1,p2,q0,q1,q2,r⟩ P T D=zy L ⟨p0,p1,p2,q0,q1,q2,r⟩ P T D/\zcw L ⟨p0,p1,p2,q0,q1,q2,r⟩ P T D=0):=by
  have hn:(zD L ⟨p0,p1,p2,q0,q1,q2,r⟩ P T && yI L ⟨p0,p1,p2,q0,q1,q2,r⟩ D)=true:=by rw [hleg,hdo];rfl
  show _/\_
  unfold zcx zcw
  rw [hn]
  exact⟨if_pos rfl,if_pos rfl⟩
 obtain⟨hm,hmt,hP1,hP2,hTn,htl,-⟩:=zL hleg
 obtain⟨-,hl1,hl16,-⟩:=zj hm
 obtain⟨i0,hi,hz0,hz1,hz2⟩:=info_parts Tryz.iop37
 have HTR:Hid (∀i,i<L.body.length->0<=nth T i/\nth T i<=1000):=fun i hi=>by
  have h:=zl htl i (by omega)
  unfold Y6 at h
  rw [Bool.and_eq_true] at h
  exact zo.1 h.1
 have HS4:Hid (((((w.alloc (.cells #[.slice a0 L.logs.length cap0,.slice (some ⟨bb,bo,none⟩) L.body.length cap1,.slice a2 L.outs.length cap2] 25)).alloc (.cells #[iV p0,iV p1,iV p2,iV q0,iV q1,iV q2,iV r] 28)).alloc (.cells #[iV P,.slice (some ⟨tb,tz,none⟩) L.body.length tc] 49)).alloc (.cells #[iV 0,iV 0,.slice none 0 0] 31)).heap.size=(w.heap.size+1+1+1+1)):=by show _=_;simp
 have HBW:=z5 (Zi (Below.refl (w.heap.size+1+1+1+1) ((((w.alloc (.cells #[.slice a0 L.logs.length cap0,.slice (some ⟨bb,bo,none⟩) L.body.length cap1,.slice a2 L.outs.length cap2] 25)).alloc (.cells #[iV p0,iV p1,iV p2,iV q0,iV q1,iV q2,iV r] 28)).alloc (.cells #[iV P,.slice (some ⟨tb,tz,none⟩) L.body.length tc] 49)).alloc (.cells #[iV 0,iV 0,.slice none 0 0] 31)))).2.2.2.2.2
 have HLG:=z5 (hS (.agg #[.slice a0 L.logs.length cap0,.slice (some ⟨bb,bo,none⟩) L.body.length cap1,.slice a2 L.outs.length cap2]) (.agg #[iV P,.slice (some ⟨tb,tz,none⟩) L.body.length tc]) ⟨p0,p1,p2,q0,q1,q2,r⟩ L P T ((((w.alloc (.cells #[.slice a0 L.logs.length cap0,.slice (some ⟨bb,bo,none⟩) L.body.length cap1,.slice a2 L.outs.length cap2] 25)).alloc (.cells #[iV p0,iV p1,iV p2,iV q0,iV q1,iV q2,iV r] 28)).alloc (.cells #[iV P,.slice (some ⟨tb,tz,none⟩) L.body.length tc] 49)).alloc (.cells #[iV 0,iV 0,.slice none 0 0] 31)) (hL.below HBW.out) (hP.below HBW.out))
 rw [hleg] at HLG
 have hD2:=hD
 rw [<-hDn] at hD2
 have HDM:=z5 (fun W (hb:Below w.heap.size w W)=>zfc p0 p1 p2 q0 q1 q2 r D (some ⟨db,dz,none⟩) dc W (hD2.below hb))
 rw [hall,hDn] at HDM
 have HBO:=z5 hbody
 have HTI:=z5 htimes
 have HDE:=z5 hdests
 have HLEG:=z5 hleg
 have HDO:=z5 hdo
 clear hL hP hD hD2 hleg hbody htimes hdests hm hmt htl hall hDn hTn hdo HBW
 go_enter Tryz.func109,Tryz.ntmps109
 go_wp2_with fail
 refine HLG.out.mono ?_
 rintro e x0 ⟨rfl,hb0⟩
 have HX0:Hid (Below (w.heap.size+1+1+1+1) ((((w.alloc (.cells #[.slice a0 L.logs.length cap0,.slice (some ⟨bb,bo,none⟩) L.body.length cap1,.slice a2 L.outs.length cap2] 25)).alloc (.cells #[iV p0,iV p1,iV p2,iV q0,iV q1,iV q2,iV r] 28)).alloc (.cells #[iV P,.slice (some ⟨tb,tz,none⟩) L.body.length tc] 49)).alloc (.cells #[iV 0,iV 0,.slice none 0 0] 31)) x0):=by show Below _ _ _;rw [<-HS4.out];exact hb0
 obtain⟨b0,b1,b2,b3,hz,hbw⟩:=Zi HX0.out
 have t0:x0.cell? ⟨w.heap.size+1,0,none⟩=some (iV p0):=by rw [cell_of_block b1];rfl
 have t1:x0.cell? ⟨w.heap.size+1,1,none⟩=some (iV p1):=by rw [cell_of_block b1];rfl
 have t2:x0.cell? ⟨w.heap.size+1,2,none⟩=some (iV p2):=by rw [cell_of_block b1];rfl
 have t3:x0.cell? ⟨w.heap.size+1,3,none⟩=some (iV q0):=by rw [cell_of_block b1];rfl
 have t4:x0.cell? ⟨w.heap.size+1,4,none⟩=some (iV q1):=by rw [cell_of_block b1];rfl
 have t5:x0.cell? ⟨w.heap.size+1,5,none⟩=some (iV q2):=by rw [cell_of_block b1];rfl
 have t6:x0.cell? ⟨w.heap.size+1,6,none⟩=some (iV r):=by rw [cell_of_block b1];rfl
 have HDX:=z5 (HDM.out x0 hbw)
 clear hb0 b0 b1 b2 b3 hbw HLG HDM
 go_wp2_with fail
 refine HDX.out.mono ?_
 rintro e x1 ⟨rfl,hb1⟩
 have HX1:Hid (Below (w.heap.size+1+1+1+1) ((((w.alloc (.cells #[.slice a0 L.logs.length cap0,.slice (some ⟨bb,bo,none⟩) L.body.length cap1,.slice a2 L.outs.length cap2] 25)).alloc (.cells #[iV p0,iV p1,iV p2,iV q0,iV q1,iV q2,iV r] 28)).alloc (.cells #[iV P,.slice (some ⟨tb,tz,none⟩) L.body.length tc] 49)).alloc (.cells #[iV 0,iV 0,.slice none 0 0] 31)) x1):=HX0.out.trans (hb1.mono hz)
 obtain⟨b0,b1,b2,b3,hzx,-⟩:=Zi HX1.out
 have l1:x1.cell? ⟨w.heap.size,1,none⟩=some (.slice (some ⟨bb,bo,none⟩) L.body.length cap1):=by rw [cell_of_block b0];rfl
 have e0:x1.cell? ⟨w.heap.size+1+1,0,none⟩=some (iV P):=by rw [cell_of_block b2];rfl
 have HST:=z5 (EmI.start L ⟨p0,p1,p2,q0,q1,q2,r⟩ P T D x1)
 have hzl:w.heap.size<x1.heap.size:=by omega
 clear t0 t1 t2 t3 t4 t5 t6 hz hb1 b0 b1 b2 b3 HDX HX0
 go_wp2_with fail
 clear l1 e0
 go_loopw [42] (fun i wr=>∃k:Nat,k<=L.body.length/\i=iV k/\EmI L ⟨p0,p1,p2,q0,q1,q2,r⟩ P T D x1 k wr) (fun i _=>L.body.length - (intOf i).toNat)
 case atStart=>exact⟨0,Nat.zero_le _,rfl,HST.out⟩
 case round =>
  clear HST
  obtain⟨k,hk,rfl,hem⟩:=hrel
  have HXW:Hid (Below (w.heap.size+1+1+1+1) ((((w.alloc (.cells #[.slice a0 L.logs.length cap0,.slice (some ⟨bb,bo,none⟩) L.body.length cap1,.slice a2 L.outs.length cap2] 25)).alloc (.cells #[iV p0,iV p1,iV p2,iV q0,iV q1,iV q2,iV r] 28)).alloc (.cells #[iV P,.slice (some ⟨tb,tz,none⟩) L.body.length tc] 49)).alloc (.cells #[iV 0,iV 0,.slice none 0 0] 31)) wr):=HX1.out.trans (hem.bel.mono hzx)
  obtain⟨b0,b1,b2,b3,hsw,hbw⟩:=Zi HXW.out
  by_cases hkl:k<L.body.length
  ·have hki:(k:Int)<(L.body.length:Int):=by omega
   obtain⟨c0,c1,c2,c3,c4,c5,c6,c7,c8⟩:=Zj (fun j hj=>(zc hbw bb (bo+k*9+j) hbb).trans (HBO.out k hkl j hj))
   have hbz:bb<wr.heap.size:=by omega
   have hdk:=(zc hbw db (dz+k) hdb).trans (HDE.out k hkl)
   have htk:=(zc hbw tb (tz+k) htb).trans (HTI.out k hkl)
   obtain⟨tk1,tk2⟩:=HTR.out k hkl
   have hkz:=hem.lt
   have HOPJ:Hid (opQ L ⟨p0,p1,p2,q0,q1,q2,r⟩ P T D k 0=⟨nth T k % P,nth T k / P,(z6 L.body k).o,nth D k,0,0,(z6 L.body k).ar,(z6 L.body k).sp,(z6 L.body k).pl,(z6 L.body k).nn⟩):=rfl
   have HSTG:Hid (zM P T (k+1)=if zM P T k<=nth T k / P then nth T k / P+1 else zM P T k):=rfl
   have hst0:0<=zM P T k:=by
    rcases Nat.eq_zero_or_pos k with e | e
    ·rw [e];exact Int.le_refl _
    ·have:=Vp P T k 0 e
     have:=Int.ediv_nonneg (HTR.out 0 (by omega)).1 (show 0<=P by omega)
     omega
   have hst1:zM P T k<=1001:=Vq P T 1001 (by omega) k (fun s hs=>by
    have h:=HTR.out s (by omega)
    have:=Int.le_trans (Int.ediv_le_self P h.1) h.2
    omega)
   obtain⟨la,lc,hkb,hown⟩:=hem.blk
   have HKB:=z5 hkb
   have HOWN:=z5 hown
   have HNEXT:=z5 (fun y w1 la' lc' h1 h2 h3 h4=>EmI.next2 (y:=y) (w1:=w1) (la':=la') (lc':=lc') (st:=zM P T k) hown h1 h2 h3 h4)
   have HBX1:=z5 hem.bel
   rw [HOPJ.out] at HNEXT
   have hsg0:=Int.ediv_nonneg tk1 (show 0<=P by omega)
   have hsg1:nth T k / P<=1000:=Int.le_trans (Int.ediv_le_self _ tk1) tk2
   obtain⟨tk,htke⟩:∃tk,nth T k=tk:=⟨_,rfl⟩
   obtain⟨dk,hdke⟩:∃dk,nth D k=dk:=⟨_,rfl⟩
   rw [hdke] at hdk HNEXT
   rw [htke] at htk tk1 tk2 hsg0 hsg1 HNEXT HSTG
   obtain⟨st,hste⟩:∃st,zM P T k=st:=⟨_,rfl⟩
   rw [hste] at HKB HSTG hst0 hst1 HNEXT
   generalize z6 L.body k=xk at c0 c1 c2 c3 c4 c5 c6 c7 c8 HNEXT
   obtain⟨o,xa,xb,ya,yb,ar,sp,pl,nn⟩:=xk
   simp only at c0 c1 c2 c3 c4 c5 c6 c7 c8 HNEXT
   have HOF:=z5 (fun W=>zmr o xa xb ya yb ar sp pl nn tk P dk W tk1 tk2 hP1 hP2)
   obtain⟨sl,hsle⟩:∃sl,tk % P=sl:=⟨_,rfl⟩
   obtain⟨sg,hsge⟩:∃sg,tk / P=sg:=⟨_,rfl⟩
   rw [hsle] at HNEXT HOF
   rw [hsge] at hsg0 hsg1 HNEXT HSTG HOF
   have hza:(wr.alloc (.cells #[iV o,iV xa,iV xb,iV ya,iV yb,iV ar,iV sp,iV pl,iV nn] 41)).heap.size=wr.heap.size+1:=by simp
   have HZA:=z5 hza
   have HSE:Hid (∀y,Below (wr.heap.size+1) (wr.alloc (.cells #[iV o,iV xa,iV xb,iV ya,iV yb,iV ar,iV sp,iV pl,iV nn] 41)) y->((y.cell? ⟨wr.heap.size,0,none⟩=some (iV o)/\y.cell? ⟨wr.heap.size,1,none⟩=some (iV xa)/\y.cell? ⟨wr.heap.size,2,none⟩=some (iV xb)/\y.cell? ⟨wr.heap.size,3,none⟩=some (iV ya)/\y.cell? ⟨wr.heap.size,4,none⟩=some (iV yb)/\y.cell? ⟨wr.heap.size,5,none⟩=some (iV ar)/\y.cell? ⟨wr.heap.size,6,none⟩=some (iV sp)/\y.cell? ⟨wr.heap.size,7,none⟩=some (iV pl)/\y.cell? ⟨wr.heap.size,8,none⟩=some (iV nn))/\(y.cell? ⟨w.heap.size+1+1,0,none⟩=some (iV P)/\y.cell? ⟨w.heap.size+1+1,1,none⟩=some (.slice (some ⟨tb,tz,none⟩) L.body.length tc))/\y.cell? ⟨tb,tz+k,none⟩=some (iV tk)/\y.cell? ⟨db,dz+k,none⟩=some (iV dk))):=fun y hy=>by
    have hb:y.heap[wr.heap.size]?=some (.cells #[iV o,iV xa,iV xb,iV ya,iV yb,iV ar,iV sp,iV pl,iV nn] 41 (0,0)):=(hy.block _ (by omega)).trans (zn _ _ _)
    have h2:=(below_alloc1 wr (.cells #[iV o,iV xa,iV xb,iV ya,iV yb,iV ar,iV sp,iV pl,iV nn] 41)).trans (hy.mono (by omega))
    have hb2:=(h2.block (w.heap.size+1+1) (by omega)).trans b2
    refine⟨⟨?_,?_,?_,?_,?_,?_,?_,?_,?_⟩,⟨by rw [cell_of_block hb2];rfl,by rw [cell_of_block hb2];rfl⟩,(zc h2 _ _ (by omega)).trans htk,(zc h2 _ _ (by omega)).trans hdk⟩ <;> (rw [cell_of_block hb];rfl)
   have HRW:Hid (∀y,Below (wr.heap.size+1) (wr.alloc (.cells #[iV o,iV xa,iV xb,iV ya,iV yb,iV ar,iV sp,iV pl,iV nn] 41)) y->Below wr.heap.size wr y):=fun y hy=>(below_alloc1 wr _).trans (hy.mono (Nat.le_succ _))
   clear htke hdke hste hsle hsge hkb hown hem b0 b1 b2 b3 hza
   go_wp2_with fail
   clear c0 c1 c2 c3 c4 c5 c6 c7 c8 hdk htk
   refine wp_region_noPanic ?_
   refine ze 14 (fun w'=>((w'.cell? ⟨wr.heap.size,0,none⟩=some (iV o)/\w'.cell? ⟨wr.heap.size,1,none⟩=some (iV xa)/\w'.cell? ⟨wr.heap.size,2,none⟩=some (iV xb)/\w'.cell? ⟨wr.heap.size,3,none⟩=some (iV ya)/\w'.cell? ⟨wr.heap.size,4,none⟩=some (iV yb)/\w'.cell? ⟨wr.heap.size,5,none⟩=some (iV ar)/\w'.cell? ⟨wr.heap.size,6,none⟩=some (iV sp)/\w'.cell? ⟨wr.heap.size,7,none⟩=some (iV pl)/\w'.cell? ⟨wr.heap.size,8,none⟩=some (iV nn))/\(w'.cell? ⟨w.heap.size+1+1,0,none⟩=some (iV P)/\w'.cell? ⟨w.heap.size+1+1,1,none⟩=some (.slice (some ⟨tb,tz,none⟩) L.body.length tc))/\w'.cell? ⟨tb,tz+k,none⟩=some (iV tk)/\w'.cell? ⟨db,dz+k,none⟩=some (iV dk))) (by kernel_rfl) (HSE.out _ (zv _ _)) (fun hHeld=>?_)
   refine utk (i:=0) rfl hHeld ?_
   refine utk (i:=1) rfl hHeld ?_
   refine utk (i:=2) rfl hHeld ?_
   refine utk (i:=3) rfl hHeld ?_
   refine utk (i:=4) rfl hHeld ?_
   refine utk (i:=5) rfl hHeld ?_
   refine utk (i:=6) rfl hHeld ?_
   refine utk (i:=7) rfl hHeld ?_
   refine utk (i:=8) rfl hHeld ?_
   refine utk (i:=9) rfl hHeld ?_
   refine utk (i:=10) rfl hHeld ?_
   refine utk (i:=11) rfl hHeld ?_
   refine Vr (i:=12) (j:=13) rfl rfl (by kernel_rfl) (fun K hK=>?a1) (fun K hK=>?a2)
   case' a1 =>
    go_simp
    refine (HOF.out _).mono ?_
    rintro e x2 ⟨rfl,hb2⟩
    have HB2:Hid (Below (wr.heap.size+1) (wr.alloc (.cells #[iV o,iV xa,iV xb,iV ya,iV yb,iV ar,iV sp,iV pl,iV nn] 41)) x2):=(zv _ _).trans (hb2.mono (by show _<=(wr.alloc (.cells #[iV o,iV xa,iV xb,iV ya,iV yb,iV ar,iV sp,iV pl,iV nn] 41)).heap.size;rw [HZA.out];exact Nat.le_refl _))
    have hHeld1:=HSE.out _ HB2.out
    have hsx:wr.heap.size+1<=x2.heap.size:=by have:=HB2.out.size;rw [HZA.out] at this;exact this
    clear hb2
    refine nxt hK.out (.inr hHeld1) ?_
    clear hK K
    have hHeld2:=HSE.out _ (HB2.out.alloc hsx (.cells #[iV 0,iV 0,iV 0,iV 0,iV 0,iV 0,iV 0,iV 0,iV 0,iV 0] 37))
    refine z9 (i:=13) rfl (by kernel_rfl) (fun K hK=>?_)
    go_simp
    refine nxt hK.out (.inr hHeld2) ?_
    clear hK K
    refine z9 (i:=14) rfl (by kernel_rfl) (fun K hK=>?_)
    go_simp
    refine nxt hK.out (.inl rfl) ?_
    clear hK K
    refine zf (by kernel_rfl) ?_ _
    refine NoPanic.normal ?_
    clear hHeld hHeld1 hHeld2
    have HW:Hid (Below wr.heap.size wr (x2.alloc (.cells #[iV sl,iV sg,iV o,iV dk,iV 0,iV 0,iV ar,iV sp,iV pl,iV nn] 37))):=HRW.out _ (HB2.out.alloc hsx _)
    have HU:Hid ((x2.alloc (.cells #[iV sl,iV sg,iV o,iV dk,iV 0,iV 0,iV ar,iV sp,iV pl,iV nn] 37)).heap[x2.heap.size]?=some (.cells #[iV sl,iV sg,iV o,iV dk,iV 0,iV 0,iV ar,iV sp,iV pl,iV nn] 37 (0,0))):=zn _ _ _
    have hub:wr.heap.size<x2.heap.size:=by omega
    clear HB2 hsx
    generalize (x2.alloc (.cells #[iV sl,iV sg,iV o,iV dk,iV 0,iV 0,iV ar,iV sp,iV pl,iV nn] 37))=W at *
    generalize hub2:x2.heap.size=ub at *
    clear hub2
   case' a2 =>
    go_simp
    have hBA:Below (wr.heap.size+1) (wr.alloc (.cells #[iV o,iV xa,iV xb,iV ya,iV yb,iV ar,iV sp,iV pl,iV nn] 41)) ((wr.alloc (.cells #[iV o,iV xa,iV xb,iV ya,iV yb,iV ar,iV sp,iV pl,iV nn] 41)).drew.alloc (.cells #[iV 0,iV 0,iV 0,iV 0,iV 0,iV 0,iV 0,iV 0,iV 0,iV 0] 37)):=(zv _ _).alloc (by show _<=(wr.alloc (.cells #[iV o,iV xa,iV xb,iV ya,iV yb,iV ar,iV sp,iV pl,iV nn] 41)).heap.size;rw [HZA.out];exact Nat.le_refl _) _
    have hHeld1:=HSE.out _ hBA
    refine nxt hK.out (.inr hHeld1) ?_
    clear hK K
    refine z9 (i:=12) rfl (by kernel_rfl) (fun K hK=>?_)
    go_simp
    refine (HOF.out _).mono ?_
    rintro e x2 ⟨rfl,hb2⟩
    have HN0:Hid (((wr.alloc (.cells #[iV o,iV xa,iV xb,iV ya,iV yb,iV ar,iV sp,iV pl,iV nn] 41)).drew.alloc (.cells #[iV 0,iV 0,iV 0,iV 0,iV 0,iV 0,iV 0,iV 0,iV 0,iV 0] 37)).heap[wr.heap.size+1]?=some (.cells #[iV 0,iV 0,iV 0,iV 0,iV 0,iV 0,iV 0,iV 0,iV 0,iV 0] 37 (0,0))):=by
     show _=_
     have e:(wr.alloc (.cells #[iV o,iV xa,iV xb,iV ya,iV yb,iV ar,iV sp,iV pl,iV nn] 41)).drew.heap.size=wr.heap.size+1:=HZA.out
     rw [<-e];exact zn _ _ _
    have hz:wr.heap.size+1+1<=((wr.alloc (.cells #[iV o,iV xa,iV xb,iV ya,iV yb,iV ar,iV sp,iV pl,iV nn] 41)).drew.alloc (.cells #[iV 0,iV 0,iV 0,iV 0,iV 0,iV 0,iV 0,iV 0,iV 0,iV 0] 37)).heap.size:=by
     have e:((wr.alloc (.cells #[iV o,iV xa,iV xb,iV ya,iV yb,iV ar,iV sp,iV pl,iV nn] 41)).drew.alloc (.cells #[iV 0,iV 0,iV 0,iV 0,iV 0,iV 0,iV 0,iV 0,iV 0,iV 0] 37)).heap.size=(wr.alloc (.cells #[iV o,iV xa,iV xb,iV ya,iV yb,iV ar,iV sp,iV pl,iV nn] 41)).heap.size+1:=by simp
     rw [e,HZA.out];exact Nat.le_refl _
    have HN1:Hid (x2.heap[wr.heap.size+1]?=some (.cells #[iV 0,iV 0,iV 0,iV 0,iV 0,iV 0,iV 0,iV 0,iV 0,iV 0] 37 (0,0))):=(hb2.block _ (Nat.lt_of_lt_of_le (Nat.lt_succ_self _) hz)).trans HN0.out
    have HB2:Hid (Below (wr.heap.size+1) (wr.alloc (.cells #[iV o,iV xa,iV xb,iV ya,iV yb,iV ar,iV sp,iV pl,iV nn] 41)) x2):=hBA.trans (hb2.mono (Nat.le_trans (Nat.le_succ _) hz))
    have hHeld2:=HSE.out _ HB2.out
    clear hb2 hBA hHeld hz
    refine nxt hK.out (.inr hHeld2) ?_
    clear hK K
    have n0:x2.cell? ⟨wr.heap.size+1,0,none⟩=some (iV 0):=by rw [cell_of_block HN1.out];rfl
    have f0:x2.frozen? ⟨wr.heap.size+1,0,none⟩=false:=by simp [World.frozen?,HN1.out]
    have n1:x2.cell? ⟨wr.heap.size+1,1,none⟩=some (iV 0):=by rw [cell_of_block HN1.out];rfl
    have f1:x2.frozen? ⟨wr.heap.size+1,1,none⟩=false:=by simp [World.frozen?,HN1.out]
    have n2:x2.cell? ⟨wr.heap.size+1,2,none⟩=some (iV 0):=by rw [cell_of_block HN1.out];rfl
    have f2:x2.frozen? ⟨wr.heap.size+1,2,none⟩=false:=by simp [World.frozen?,HN1.out]
    have n3:x2.cell? ⟨wr.heap.size+1,3,none⟩=some (iV 0):=by rw [cell_of_block HN1.out];rfl
    have f3:x2.frozen? ⟨wr.heap.size+1,3,none⟩=false:=by simp [World.frozen?,HN1.out]
    have n4:x2.cell? ⟨wr.heap.size+1,4,none⟩=some (iV 0):=by rw [cell_of_block HN1.out];rfl
    have f4:x2.frozen? ⟨wr.heap.size+1,4,none⟩=false:=by simp [World.frozen?,HN1.out]
    have n5:x2.cell? ⟨wr.heap.size+1,5,none⟩=some (iV 0):=by rw [cell_of_block HN1.out];rfl
    have f5:x2.frozen? ⟨wr.heap.size+1,5,none⟩=false:=by simp [World.frozen?,HN1.out]
    have n6:x2.cell? ⟨wr.heap.size+1,6,none⟩=some (iV 0):=by rw [cell_of_block HN1.out];rfl
    have f6:x2.frozen? ⟨wr.heap.size+1,6,none⟩=false:=by simp [World.frozen?,HN1.out]
    have n7:x2.cell? ⟨wr.heap.size+1,7,none⟩=some (iV 0):=by rw [cell_of_block HN1.out];rfl
    have f7:x2.frozen? ⟨wr.heap.size+1,7,none⟩=false:=by simp [World.frozen?,HN1.out]
    have n8:x2.cell? ⟨wr.heap.size+1,8,none⟩=some (iV 0):=by rw [cell_of_block HN1.out];rfl
    have f8:x2.frozen? ⟨wr.heap.size+1,8,none⟩=false:=by simp [World.frozen?,HN1.out]
    have n9:x2.cell? ⟨wr.heap.size+1,9,none⟩=some (iV 0):=by rw [cell_of_block HN1.out];rfl
    have f9:x2.frozen? ⟨wr.heap.size+1,9,none⟩=false:=by simp [World.frozen?,HN1.out]
    refine z9 (i:=14) rfl (by kernel_rfl) (fun K hK=>?_)
    go_simp
    refine nxt hK.out (.inl rfl) ?_
    clear hK K
    refine zf (by kernel_rfl) ?_ _
    refine NoPanic.normal ?_
    clear hHeld1 hHeld2 n0 n1 n2 n3 n4 n5 n6 n7 n8 n9 f0 f1 f2 f3 f4 f5 f6 f7 f8 f9
    have HW:Hid (Below wr.heap.size wr ((((((((((x2.setCell ⟨wr.heap.size+1,0,none⟩ (iV sl)).setCell ⟨wr.heap.size+1,1,none⟩ (iV sg)).setCell ⟨wr.heap.size+1,2,none⟩ (iV o)).setCell ⟨wr.heap.size+1,3,none⟩ (iV dk)).setCell ⟨wr.heap.size+1,4,none⟩ (iV 0)).setCell ⟨wr.heap.size+1,5,none⟩ (iV 0)).setCell ⟨wr.heap.size+1,6,none⟩ (iV ar)).setCell ⟨wr.heap.size+1,7,none⟩ (iV sp)).setCell ⟨wr.heap.size+1,8,none⟩ (iV pl)).setCell ⟨wr.heap.size+1,9,none⟩ (iV nn))):=HRW.out _ (((((((((((HB2.out.setCell (Nat.le_refl _) _).setCell (Nat.le_refl _) _).setCell (Nat.le_refl _) _).setCell (Nat.le_refl _) _).setCell (Nat.le_refl _) _).setCell (Nat.le_refl _) _).setCell (Nat.le_refl _) _).setCell (Nat.le_refl _) _).setCell (Nat.le_refl _) _).setCell (Nat.le_refl _) _))
    have HU:Hid (((((((((((x2.setCell ⟨wr.heap.size+1,0,none⟩ (iV sl)).setCell ⟨wr.heap.size+1,1,none⟩ (iV sg)).setCell ⟨wr.heap.size+1,2,none⟩ (iV o)).setCell ⟨wr.heap.size+1,3,none⟩ (iV dk)).setCell ⟨wr.heap.size+1,4,none⟩ (iV 0)).setCell ⟨wr.heap.size+1,5,none⟩ (iV 0)).setCell ⟨wr.heap.size+1,6,none⟩ (iV ar)).setCell ⟨wr.heap.size+1,7,none⟩ (iV sp)).setCell ⟨wr.heap.size+1,8,none⟩ (iV pl)).setCell ⟨wr.heap.size+1,9,none⟩ (iV nn)).heap[wr.heap.size+1]?=some (.cells #[iV sl,iV sg,iV o,iV dk,iV 0,iV 0,iV ar,iV sp,iV pl,iV nn] 37 (0,0))):=zpp HN1.out
    have hub:wr.heap.size<wr.heap.size+1:=Nat.lt_succ_self _
    clear HN0 HN1 HB2
    generalize ((((((((((x2.setCell ⟨wr.heap.size+1,0,none⟩ (iV sl)).setCell ⟨wr.heap.size+1,1,none⟩ (iV sg)).setCell ⟨wr.heap.size+1,2,none⟩ (iV o)).setCell ⟨wr.heap.size+1,3,none⟩ (iV dk)).setCell ⟨wr.heap.size+1,4,none⟩ (iV 0)).setCell ⟨wr.heap.size+1,5,none⟩ (iV 0)).setCell ⟨wr.heap.size+1,6,none⟩ (iV ar)).setCell ⟨wr.heap.size+1,7,none⟩ (iV sp)).setCell ⟨wr.heap.size+1,8,none⟩ (iV pl)).setCell ⟨wr.heap.size+1,9,none⟩ (iV nn))=W at *
    generalize hub2:wr.heap.size+1=ub at HU hub ⊢
    clear hub2
   all_goals
    clear HSE HRW HZA HOF
    have hubz:ub<W.heap.size:=(Array.getElem?_eq_some_iff.1 HU.out).1
    have HK6:Hid (W.heap[x1.heap.size]?=some (.cells #[iV P,iV st,.slice la k lc] 31 (0,0))):=(HW.out.block _ hkz).trans HKB.out
    have HW6:Hid (W.ownsRow (x1.heap.size+1) 37 10 (.slice la k lc) k (Zh ((List.range k).map fun s=>opQ L ⟨p0,p1,p2,q0,q1,q2,r⟩ P T D s 0))):=zt HOWN.out HW.out
    have HBX6:Hid (Below x1.heap.size x1 W):=HBX1.out.trans (HW.out.mono (Nat.le_of_lt hkz))
    have hkne:¬x1.heap.size=ub:=by omega
    have hkne2:¬ub=x1.heap.size:=by omega
    have hkz6:x1.heap.size<W.heap.size:=by omega
    have hogl:=yZ HOWN.out
    obtain⟨o0,o1,o2,o3,o4,o5,o6,o7,o8,o9⟩:=ten (b:=ub) (o:=0) (x:=⟨sl,sg,o,dk,0,0,ar,sp,pl,nn⟩) (w:=W) (fun j hj=>by rw [cell_of_block HU.out,Nat.zero_add];rfl)
    simp only [Nat.zero_add] at o1 o2 o3 o4 o5 o6 o7 o8 o9
    have m0:W.cell? ⟨x1.heap.size,0,none⟩=some (iV P):=by rw [cell_of_block HK6.out];rfl
    have m1:W.cell? ⟨x1.heap.size,1,none⟩=some (iV st):=by rw [cell_of_block HK6.out];rfl
    have m2:W.cell? ⟨x1.heap.size,2,none⟩=some (.slice la k lc):=by rw [cell_of_block HK6.out];rfl
    have hown6:=zS HW6.out
    obtain⟨la9,lc9,hsh,hkc,hcm⟩:=hown6
    injection hsh with hsh1 hsh2 hsh3
    clear hsh1 hsh2
    subst hsh3
    unfold maxLen at hcm
    have HZK:Hid ((W.alloc (.cells #[iV sl,iV sg,iV o,iV dk,iV 0,iV 0,iV ar,iV sp,iV pl,iV nn] 37)).heap[x1.heap.size]?=some (.cells #[iV P,iV st,.slice la k lc] 31 (0,0))):=by
     show _=_
     rw [Below.heap_alloc _ _ _ hkz6]
     exact HK6.out
    have HZU:Hid ((W.alloc (.cells #[iV sl,iV sg,iV o,iV dk,iV 0,iV 0,iV ar,iV sp,iV pl,iV nn] 37)).heap[ub]?=some (.cells #[iV sl,iV sg,iV o,iV dk,iV 0,iV 0,iV ar,iV sp,iV pl,iV nn] 37 (0,0))):=by
     show _=_
     rw [Below.heap_alloc _ _ _ hubz]
     exact HU.out
    have HZB:Hid (Below x1.heap.size x1 (W.alloc (.cells #[iV sl,iV sg,iV o,iV dk,iV 0,iV 0,iV ar,iV sp,iV pl,iV nn] 37))):=HBX6.out.alloc (by omega) _
    have HOC:Hid (∀(j:Nat) (u:Value),[iV sl,iV sg,iV o,iV dk,iV 0,iV 0,iV ar,iV sp,iV pl,iV nn][j]?=some u->(W.alloc (.cells #[iV sl,iV sg,iV o,iV dk,iV 0,iV 0,iV ar,iV sp,iV pl,iV nn] 37)).cell? ((⟨W.heap.size,0,none⟩:Addr).add j)=some u):=zgo W #[iV sl,iV sg,iV o,iV dk,iV 0,iV 0,iV ar,iV sp,iV pl,iV nn] 37
    have hwa:wrap64 (sg+1)=sg+1:=by unfold wrap64;omega
    have hwb:IntKind.i64.wrap (sg+1)=sg+1:=yz _ (by omega) (by omega)
    have HGU:Hid (∀w1:World,(W.alloc (.cells #[iV sl,iV sg,iV o,iV dk,iV 0,iV 0,iV ar,iV sp,iV pl,iV nn] 37)).grownBy w1 (Value.ownBlock (.slice la k lc))->w1.heap[ub]?=some (.cells #[iV sl,iV sg,iV o,iV dk,iV 0,iV 0,iV ar,iV sp,iV pl,iV nn] 37 (0,0))):=fun w1 hg=>(hg.block ub (by simp;omega) (fun e=>by have:=hogl ub e.symm;omega)).trans HZU.out
    clear hogl
    go_wp2_with (at_builtin;refine wpList_append_own _ rfl (.tmp 61) (.tmp 63) 29 rfl (x1.heap.size+1) 37 i0 (.agg #[iV 0,iV 0,iV 0,iV 0,iV 0,iV 0,iV 0,iV 0,iV 0,iV 0]) 10 80 Tryz.underlying29 hi hz0 hz1 hz2 rfl (by decide) _ _ _ rfl (zt HW6.out (below_alloc1 _ _)) ⟨W.heap.size,0,none⟩ 1 1 [iV sl,iV sg,iV o,iV dk,iV 0,iV 0,iV ar,iV sp,iV pl,iV nn] rfl rfl (by exact HOC.out) (by intro u hu;simp at hu;rcases hu with rfl | rfl | rfl | rfl | rfl | rfl | rfl | rfl | rfl | rfl <;> rfl) (by unfold maxLen;omega) (by omega) (by simp;omega) ?_;intro v1 w1 hown1 hgrow1 hnil1;obtain⟨la1,lc1,rfl,-,-⟩:=zS hown1;have HO1:=z5 hown1;have HG1:=z5 hgrow1;clear hown1 hgrow1 hnil1;have HNX:=z5 (HNEXT.out _ w1 _ _ HZB.out HZK.out HO1.out HG1.out);have HGV:=z5 (HGU.out w1 HG1.out);clear m0 m1 m2 o0 o1 o2 o3 o4 o5 o6 o7 o8 o9;have m1:w1.cell? ⟨x1.heap.size,1,none⟩=some (iV st):=(by rw [cell_of_block HNX.out.2];rfl);have m2:w1.cell? ⟨x1.heap.size,2,none⟩=some (.slice la k lc):=(by rw [cell_of_block HNX.out.2];rfl);have o1:w1.cell? ⟨ub,1,none⟩=some (iV sg):=(by rw [cell_of_block HGV.out];rfl);have mf:w1.frozen? ⟨x1.heap.size,2,none⟩=false:=(by simp [World.frozen?,HNX.out.2]);have mf1:w1.frozen? ⟨x1.heap.size,1,none⟩=false:=(by simp [World.frozen?,HNX.out.2]))
    go_roundw
    case rel =>
     have HSQ:(if st<sg+1 then sg+1 else st)=zM P T (k+1):=by
      rw [HSTG.out]
      by_cases h:st<=sg
      ·rw [if_pos h,if_pos (by omega)]
      ·rw [if_neg h,if_neg (by omega)]
     exact⟨k+1,by omega,by go_num,by rw [HSQ];exact HNX.out.1⟩
    case measure=>simp [intOf];omega
  ·have e:k=L.body.length:=by omega
   subst e
   have hki:¬(L.body.length:Int)<(L.body.length:Int):=by omega
   obtain⟨g,lc,hkb,hgx,hlc1,hlc2,hrow⟩:=hem.row (by omega)
   have HJ0:Hid (EmJ L ⟨p0,p1,p2,q0,q1,q2,r⟩ P T D x1 g lc 0 0 wr):=⟨hem.bel,hkb,hrow,hgx⟩
   have HOPS:=z5 (fun wr (h:EmJ L ⟨p0,p1,p2,q0,q1,q2,r⟩ P T D x1 g lc L.body.length 0 wr)=>h.ops hlc1 hlc2)
   unfold maxLen at hlc2
   have l1:wr.cell? ⟨w.heap.size,1,none⟩=some (.slice (some ⟨bb,bo,none⟩) L.body.length cap1):=by rw [cell_of_block b0];rfl
   clear hem hkb hrow b0 b1 b2 b3 hbw HXW
   go_wp2_with fail
   clear l1
   go_loopw [77] (fun iv wr=>∃i:Nat,i<=L.body.length/\iv=iV i/\EmJ L ⟨p0,p1,p2,q0,q1,q2,r⟩ P T D x1 g lc i 0 wr) (fun iv _=>L.body.length - (intOf iv).toNat)
   case atStart=>exact⟨0,Nat.zero_le _,rfl,HJ0.out⟩
   case round =>
    clear HJ0
    obtain⟨i,hi2,rfl,hj⟩:=hrel
    have hxi:Below (w.heap.size+1+1+1+1) ((((w.alloc (.cells #[.slice a0 L.logs.length cap0,.slice (some ⟨bb,bo,none⟩) L.body.length cap1,.slice a2 L.outs.length cap2] 25)).alloc (.cells #[iV p0,iV p1,iV p2,iV q0,iV q1,iV q2,iV r] 28)).alloc (.cells #[iV P,.slice (some ⟨tb,tz,none⟩) L.body.length tc] 49)).alloc (.cells #[iV 0,iV 0,.slice none 0 0] 31)) wr:=HX1.out.trans (hj.bel.mono hzx)
    obtain⟨b0,b1,b2,b3,hzw,hbw⟩:=Zi hxi
    have hjz:=hj.lt
    by_cases hil:i<L.body.length
    ·have hii:(i:Int)<(L.body.length:Int):=by omega
     obtain⟨c0,c1,c2,c3,c4,c5,c6,c7,c8⟩:=Zj (fun j hj=>(zc hbw bb (bo+i*9+j) hbb).trans (HBO.out i hil j hj))
     have hbz:bb<wr.heap.size:=by omega
     have t6:wr.cell? ⟨w.heap.size+1,6,none⟩=some (iV r):=by rw [cell_of_block b1];rfl
     have m2:wr.cell? ⟨x1.heap.size,2,none⟩=some (.slice (some ⟨g,0,none⟩) L.body.length lc):=by rw [cell_of_block hj.blk];rfl
     have hzt:w.heap.size+1<wr.heap.size:=by omega
     obtain⟨xk,hxk⟩:∃xk,z6 L.body i=xk:=⟨_,rfl⟩
     rw [hxk] at c0 c1 c2 c3 c4 c5 c6 c7 c8
     obtain⟨o,xa,xb,ya,yb,ar,sp,pl,nn⟩:=xk
     simp only at c0 c1 c2 c3 c4 c5 c6 c7 c8
     have HNR:=z5 (UT p0 p1 p2 q0 q1 q2 r L P T D x1 g lc i o xa xb ya yb ar sp pl nn (wr.alloc (.cells #[iV o,iV xa,iV xb,iV ya,iV yb,iV ar,iV sp,iV pl,iV nn] 41)) HLEG.out HDO.out hxk hil hlc1 hlc2 (hj.below (below_alloc1 _ _)))
     clear hxk hj b0 b1 b2 b3 hbw hxi
     go_wp2_with fail
     refine HNR.out.mono ?_
     rintro e x5 ⟨rfl,hj5⟩
     have HJ5:=z5 hj5
     clear hj5 c0 c1 c2 c3 c4 c5 c6 c7 c8 t6 m2
     go_wp2_with fail
     go_roundw
     case rel=>exact⟨i+1,by omega,by go_num,HJ5.out⟩
     case measure=>simp [intOf];omega
    ·have e:i=L.body.length:=by omega
     subst e
     have hii:¬(L.body.length:Int)<(L.body.length:Int):=by omega
     have m0:wr.cell? ⟨x1.heap.size,0,none⟩=some (iV P):=by rw [cell_of_block hj.blk];rfl
     have m1:wr.cell? ⟨x1.heap.size,1,none⟩=some (iV (zM P T L.body.length)):=by rw [cell_of_block hj.blk];rfl
     have m2:wr.cell? ⟨x1.heap.size,2,none⟩=some (.slice (some ⟨g,0,none⟩) L.body.length lc):=by rw [cell_of_block hj.blk];rfl
     have k0:wr.cell? ⟨(w.heap.size+1+1+1),0,none⟩=some (iV 0):=by rw [cell_of_block b3];rfl
     have k1:wr.cell? ⟨(w.heap.size+1+1+1),1,none⟩=some (iV 0):=by rw [cell_of_block b3];rfl
     have k2:wr.cell? ⟨(w.heap.size+1+1+1),2,none⟩=some (.slice none 0 0):=by rw [cell_of_block b3];rfl
     have f0:wr.frozen? ⟨(w.heap.size+1+1+1),0,none⟩=false:=by simp [World.frozen?,b3]
     have f1:wr.frozen? ⟨(w.heap.size+1+1+1),1,none⟩=false:=by simp [World.frozen?,b3]
     have f2:wr.frozen? ⟨(w.heap.size+1+1+1),2,none⟩=false:=by simp [World.frozen?,b3]
     have HT:=z5 (zgp (a':=iV P) (b':=iV (zM P T L.body.length)) (d':=.slice (some ⟨g,0,none⟩) L.body.length lc) b3)
     have hO:=HOPS.out wr hj
     obtain⟨hek,hec⟩:=HDY.out
     have HF:Hid (U0 L ⟨p0,p1,p2,q0,q1,q2,r⟩ P T D w (.returned (.tuple #[.agg #[iV P,iV (zM P T L.body.length),.slice (some ⟨g,0,none⟩) L.body.length lc],iV 0])) (((wr.setCell ⟨(w.heap.size+1+1+1),0,none⟩ (iV P)).setCell ⟨(w.heap.size+1+1+1),1,none⟩ (iV (zM P T L.body.length))).setCell ⟨(w.heap.size+1+1+1),2,none⟩ (.slice (some ⟨g,0,none⟩) L.body.length lc))):=by
      refine⟨((hbw.setCell (by show w.heap.size<=(w.heap.size+1+1+1);omega) _).setCell (by show w.heap.size<=(w.heap.size+1+1+1);omega) _).setCell (by show w.heap.size<=(w.heap.size+1+1+1);omega) _,P,zM P T L.body.length,_,by rw [hec],?_⟩
      rw [hek]
      exact⟨_,rfl,zc4 (zc4 (zc4 hO (show (w.heap.size+1+1+1)≠g by omega) 0 _) (show (w.heap.size+1+1+1)≠g by omega) 1 _) (show (w.heap.size+1+1+1)≠g by omega) 2 _⟩
     obtain⟨stn,hstn⟩:∃stn,zM P T L.body.length=stn:=⟨_,rfl⟩
     rw [hstn] at m1 HT HF
     clear hO b0 b1 b2 b3 hj hbw hxi hek hec hstn
     go_wp2_with fail
     have s0:(((wr.setCell ⟨(w.heap.size+1+1+1),0,none⟩ (iV P)).setCell ⟨(w.heap.size+1+1+1),1,none⟩ (iV stn)).setCell ⟨(w.heap.size+1+1+1),2,none⟩ (.slice (some ⟨g,0,none⟩) L.body.length lc)).cell? ⟨(w.heap.size+1+1+1),0,none⟩=some (iV P):=by rw [cell_of_block HT.out];rfl
     have s1:(((wr.setCell ⟨(w.heap.size+1+1+1),0,none⟩ (iV P)).setCell ⟨(w.heap.size+1+1+1),1,none⟩ (iV stn)).setCell ⟨(w.heap.size+1+1+1),2,none⟩ (.slice (some ⟨g,0,none⟩) L.body.length lc)).cell? ⟨(w.heap.size+1+1+1),1,none⟩=some (iV stn):=by rw [cell_of_block HT.out];rfl
     have s2:(((wr.setCell ⟨(w.heap.size+1+1+1),0,none⟩ (iV P)).setCell ⟨(w.heap.size+1+1+1),1,none⟩ (iV stn)).setCell ⟨(w.heap.size+1+1+1),2,none⟩ (.slice (some ⟨g,0,none⟩) L.body.length lc)).cell? ⟨(w.heap.size+1+1+1),2,none⟩=some (.slice (some ⟨g,0,none⟩) L.body.length lc):=by rw [cell_of_block HT.out];rfl
     exact bodyPost_ret (v:=.tuple #[.agg #[iV P,iV stn,.slice (some ⟨g,0,none⟩) L.body.length lc],iV 0]) (by simp [results,Tryz.results109,go_sem,s0,s1,s2]) rfl HF.out
end Go.Proofs.YtjoapiafpahihabGreat
