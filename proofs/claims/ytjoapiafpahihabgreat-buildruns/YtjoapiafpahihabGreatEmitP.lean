import Derived.Test.YtjoapiafpahihabGreatRef11A
import Derived.Test.YtjoapiafpahihabGreatDepQ
set_option maxHeartbeats 20000000
namespace Go.Proofs.YtjoapiafpahihabGreat
open Go.Proofs.Tryz
open Go.RowKit Go.Joins
set_option linter.unusedVariables false
set_option linter.unusedSimpArgs false
set_option maxRecDepth 8192
variable {x1 wr w x y:World} {g lc j n k:Nat} {a b:Array Value}
theorem zlr (p0 p1 p2 q0 q1 q2 r:Int) (D:List Int) (ta:Option Addr) (tc:Nat) (w:World) (h:zK w (.slice ta D.length tc) D) :
  Calls prog 146 #[(tv p0 p1 p2 q0 q1 q2 r),.slice ta D.length tc] w (Rt w (.bool (zC (fun s=>inR (nth D s) 0 (r - 1)) D.length))):=by
 obtain⟨a,cap,he,hl,hm,hr,hc⟩:=h
 injection he with e1 e2 e3
 subst e1;subst e3
 unfold maxLen at hm
 clear e2
 have HC:=z9 hc
 clear hc hr
 go_enter func146,ntmps146
 go_wp2_with fail
 go_loopw [9] (fun i wr=>∃k:Nat,k<=D.length/\i=iV k/\zC (fun s=>inR (nth D s) 0 (r - 1)) k=true/\wr=w.alloc (.cells #[iV p0,iV p1,iV p2,iV q0,iV q1,iV q2,iV r] 28)) (fun i _=>D.length - (intOf i).toNat)
 case atStart=>exact⟨0,Nat.zero_le _,rfl,rfl,rfl⟩
 case round =>
  obtain⟨k,hk,rfl,hall,rfl⟩:=hrel
  have HA:=z9 hall
  clear hall
  by_cases hlt:k<D.length
  ·obtain⟨b,off,rfl,hb,gR⟩:=HC.out (by omega)
   have hck:=gR k hlt
   have hki:(k:Int)<(D.length:Int):=by omega
   clear gR HC
   obtain⟨x,hx⟩:∃x,nth D k=x:=⟨_,rfl⟩
   rw [hx] at hck
   have HX:=z9 hx
   clear hx
   by_cases h0:x<0
   ·have HF:Hid (zC (fun s=>inR (nth D s) 0 (r - 1)) D.length=false):=zZ hlt (by rw [HX.out];exact Yt (by omega))
    go_wp2_with fail
    go_ret
    exact⟨zg (by rw [HF.out]),below_alloc1 _ _⟩
   ·by_cases h1:r<=x
    ·have HF:Hid (zC (fun s=>inR (nth D s) 0 (r - 1)) D.length=false):=zZ hlt (by rw [HX.out];exact Yt (by omega))
     go_wp2_with fail
     go_ret
     exact⟨zg (by rw [HF.out]),below_alloc1 _ _⟩
    ·have HF:Hid (inR (nth D k) 0 (r - 1)=true):=by show _=_;rw [HX.out];exact yf (by omega)
     go_wp2_with fail
     go_roundw
     case rel=>exact⟨k+1,by omega,by go_num,yl HA.out HF.out,by first | trivial | rfl⟩
     case measure=>simp [intOf];omega
  ·have e:k=D.length:=by omega
   subst e
   have hki:¬(D.length:Int)<(D.length:Int):=by omega
   go_wp2_with fail
   go_ret
   exact⟨zg (by rw [HA.out]),below_alloc1 _ _⟩
theorem zmi (x0 x1 x2 x3 x4 x5 x6 x7 x8 x9 p r:Int) (w:World) (h1:0<=x1) (h2:x1<=1000) (h3:0<=x3) (h4:x3<=128) (h5:0<=p) (h6:p<=5000) (h7:1<=r) (h8:r<=128) :
  Calls prog 174 #[.agg #[iV x0,iV x1,iV x2,iV x3,iV x4,iV x5,iV x6,iV x7,iV x8,iV x9],iV p,iV r] w (Rt w (iV ((x3+x1 - p) % r))):=by
 have hp0:¬r=0:=by omega
 obtain⟨rm,hrm⟩:∃rm,(x3+x1 - p).tmod r=rm:=⟨_,rfl⟩
 have hw0:wrap64 (x3+x1)=x3+x1:=by unfold wrap64;omega
 have hw1:wrap64 (x3+x1 - p)=x3+x1 - p:=by unfold wrap64;omega
 have hb:-128<rm/\rm<128/\(x3+x1 - p) % r=if rm<0 then rm+r else rm:=by
  have e1:=Int.emod_nonneg (x3+x1 - p) (show r≠0 by omega)
  have e2:=Int.emod_lt_of_pos (x3+x1 - p) (show 0<r by omega)
  rw [Int.tmod_eq_emod] at hrm
  split at hrm
  ·rw [if_neg (by omega)];omega
  ·have en:((r.natAbs:Nat):Int)=r:=by omega
   have e3:(x3+x1 - p) % r≠0:=fun h=>by rename_i hd;exact hd (Or.inr (Int.dvd_of_emod_eq_zero h))
   rw [if_pos (by omega)];omega
 obtain⟨hb1,hb2,hb3⟩:=hb
 have hw2:wrap64 rm=rm:=by unfold wrap64;omega
 have hw3:wrap64 (rm+r)=rm+r:=by unfold wrap64;omega
 rw [hb3]
 clear hb3
 by_cases hn:rm<0
 ·rw [if_pos hn]
  go_enter func174,ntmps174
  go_wp2_with fail
  go_ret
  exact⟨rfl,below_alloc1 _ _⟩
 ·rw [if_neg hn]
  go_enter func174,ntmps174
  go_wp2_with fail
  go_ret
  exact⟨rfl,below_alloc1 _ _⟩
theorem zvf (o xa xb ya yb ar sp pl nn tm p d:Int) (w:World) (h0:0<=tm) (h1:tm<=1000) (h3:1<=p) (h4:p<=200) :
  Calls prog 147 #[.agg #[iV o,iV xa,iV xb,iV ya,iV yb,iV ar,iV sp,iV pl,iV nn],iV tm,iV p,iV d] w (Rt w (.agg #[iV (tm % p),iV (tm / p),iV o,iV d,iV 0,iV 0,iV ar,iV sp,iV pl,iV nn])):=by
 have hp0:¬p=0:=by omega
 have hm1:=Int.emod_nonneg tm (show p≠0 by omega)
 have hm2:=Int.emod_lt_of_pos tm (show 0<p by omega)
 have hq1:0<=tm / p:=Int.ediv_nonneg h0 (by omega)
 have hq2:tm / p<=tm:=Int.ediv_le_self _ h0
 have ht1:tm.tmod p=tm % p:=Int.tmod_eq_emod_of_nonneg h0
 have ht2:tm.tdiv p=tm / p:=Int.tdiv_eq_ediv_of_nonneg h0
 obtain⟨rm,hrm⟩:∃rm,tm % p=rm:=⟨_,rfl⟩
 obtain⟨qt,hqt⟩:∃qt,tm / p=qt:=⟨_,rfl⟩
 rw [hrm] at hm1 hm2 ht1 ⊢
 rw [hqt] at hq1 hq2 ht2 ⊢
 have hw1:wrap64 rm=rm:=by unfold wrap64;omega
 have hw2:IntKind.i64.wrap rm=rm:=xw _ (by omega) (by omega)
 have hw3:wrap64 qt=qt:=by unfold wrap64;omega
 have hw4:IntKind.i64.wrap qt=qt:=xw _ (by omega) (by omega)
 clear hrm hqt
 go_enter func147,ntmps147
 go_wp2_with fail
 refine wp_region_noPanic ?_
 refine zm 18 (fun w'=>(w'.cell? (ad w.heap.size 0)=sI o/\w'.cell? (ad w.heap.size 5)=sI ar/\w'.cell? (ad w.heap.size 6)=sI sp/\w'.cell? (ad w.heap.size 7)=sI pl/\w'.cell? (ad w.heap.size 8)=sI nn)) (by kernel_rfl) ⟨by go_simp,by go_simp,by go_simp,by go_simp,by go_simp⟩ (fun h9=>?_)
 refine uk 0 h9 ?_
 refine uk 1 h9 ?_
 refine uk 2 h9 ?_
 refine uk 3 h9 ?_
 refine uk 4 h9 ?_
 refine uk 5 h9 ?_
 refine uk 6 h9 ?_
 refine uk 7 h9 ?_
 refine uk 8 h9 ?_
 refine uk 9 h9 ?_
 refine uk 10 h9 ?_
 refine uk 11 h9 ?_
 refine uk 12 h9 ?_
 refine uk 13 h9 ?_
 refine uk 14 h9 ?_
 refine uk 15 h9 ?_
 refine uk 16 h9 ?_
 refine uk 17 h9 ?_
 refine ze (i:=18) rfl (by kernel_rfl) (fun K hK=>?_)
 go_simp
 refine nxt hK.out (.inl rfl) ?_
 clear hK K
 refine zq (by kernel_rfl) ?_ _
 refine NoPanic.normal ?_
 go_wp2_with fail
 exact bodyPost_ret (v:=.agg #[iV rm,iV qt,iV o,iV d,iV 0,iV 0,iV ar,iV sp,iV pl,iV nn]) (by simp [results,results147,go_sem]) rfl ⟨rfl,(below_alloc2 _ _ _).drew⟩
section
variable {L:Lp} {t:Tg} {P:Int} {T D:List Int}
theorem EmJ.set {i:Nat} (h:EmJ L t P T D x1 g lc i j wr) (hi:i<L.b.length) (hj2:j<2):EmJ L t P T D x1 g lc i (j+1) (wr.setCell (ad g (i*10+4+j)) (iV (ZO L t P T D i j))):=by
 obtain rfl | rfl:j=0\/j=1:=by omega
 ·exact h.setA hi
 ·exact h.setB hi (by omega) (by omega)
structure zi4 (a b:Array Value) (n:Nat) (wr:World):Prop where
 nm:wr.heap[n]?=some (.cells a 241 (0,0))
 rf:wr.heap[n+1]?=some (.cells b 159 (0,0))
theorem zi4.gE {w':World} (h:zi4 a b n w) (hb:Bw w w'):zi4 a b n w' :=
 ⟨(hb.block _ (Array.getElem?_eq_some_iff.1 h.nm).1).trans h.nm,(hb.block _ (Array.getElem?_eq_some_iff.1 h.rf).1).trans h.rf⟩
theorem zi4.set (h:zi4 a b n w) (hg:g<n) (v:Value):zi4 a b n (w.setCell (ad g k) v) :=
 ⟨by rw [Below.heap_setCell _ _ _ _ (show n≠g by omega)];exact h.nm,by rw [Below.heap_setCell _ _ _ _ (show n+1≠g by omega)];exact h.rf⟩
theorem yam (h:x.heap[n]?=some (.cells #[.pointer (some (ad g (k+4))),.pointer (some (ad g (k+5)))] 241 (0,0))) (hj:j<2):x.cell? (ad n j)=some (.pointer (some (ad g (k+4+j)))):=by
 obtain rfl | rfl:j=0\/j=1:=by omega
 ·rw [cell_of_block h];rfl
 ·rw [cell_of_block h];rfl
theorem zym {o xa xb ya yb ar sp pl nn:Int} (h:x.heap[n]?=some (.cells #[iV xa,iV xb,iV ya,iV yb] 159 (0,0))):zu x n 159 4 (Uq ⟨o,xa,xb,ya,yb,ar,sp,pl,nn⟩) :=
 ⟨_,h,by simp,fun i hi=>by
  have:i=0\/i=1\/i=2\/i=3:=by omega
  rcases this with rfl | rfl | rfl | rfl <;> rfl⟩
theorem zem (p0 p1 p2 q0 q1 q2 r:Int) (L:Lp) (P:Int) (T D:List Int) (x1:World) (g lc i:Nat) (o xa xb ya yb ar sp pl nn:Int) (w:World) (hleg:zV L ⟨p0,p1,p2,q0,q1,q2,r⟩ P T=true) (hdo:xj L ⟨p0,p1,p2,q0,q1,q2,r⟩ D=true) (hst:zc L.b i=⟨o,xa,xb,ya,yb,ar,sp,pl,nn⟩) (hil:i<L.b.length) (hc1:L.b.length<=lc) (hc2:lc<=9223372036854775807) (hj:EmJ L ⟨p0,p1,p2,q0,q1,q2,r⟩ P T D x1 g lc i 0 w) :
  Calls prog 148 #[.slice (pA g) L.b.length lc,iV i,.agg #[iV o,iV xa,iV xb,iV ya,iV yb,iV ar,iV sp,iV pl,iV nn],iV r] w fun e w'=>e=.returned (.tuple #[])/\EmJ L ⟨p0,p1,p2,q0,q1,q2,r⟩ P T D x1 g lc (i+1) 0 w':=by
 obtain⟨hm,hmt,hP1,hP2,hTn,htl,-⟩:=yd hleg
 have hr:1<=r/\r<=128:=by obtain⟨-,-,-,h4,h5⟩:=ym hmt;exact⟨h4,h5⟩
 obtain⟨hr1,hr2⟩:=hr
 obtain⟨-,hl1,hl16,-⟩:=zw hm
 have HSG:Hid (∀s,s<L.b.length->0<=nth T s / P/\nth T s / P<=1000):=fun s hs=>by
  have h:=zo htl s (by omega)
  unfold XN at h
  simp only [Bool.and_eq_true] at h
  have h2:=zx.1 h.1
  exact⟨Int.ediv_nonneg h2.1 (by omega),Int.le_trans (Int.ediv_le_self _ h2.1) h2.2⟩
 have HD:Hid (∀s,s<L.b.length->0<=nth D s/\nth D s<=128):=fun s hs=>by
  unfold xj at hdo
  rw [Bool.and_eq_true] at hdo
  have h2:=zx.1 (zo hdo.2 s hs)
  exact⟨h2.1,by have:=h2.2;dsimp only at this;omega⟩
 have HUS:=z9 (fun (rf:Int × Int) (h:rf∈zj (zc L.b i))=>zhz hm hil h)
 have hlk0:=V0 (zo (zw hm).2.2.2.2.2.2 i hil)
 have HNX:=z9 (fun (y:World) (h:EmJ L ⟨p0,p1,p2,q0,q1,q2,r⟩ P T D x1 g lc i (zj (zc L.b i)).length y)=>h.next)
 have HNE:=z9 (fun j=>show ZO L ⟨p0,p1,p2,q0,q1,q2,r⟩ P T D i j=(nth D (zy (zj (zc L.b i)) j).1.toNat+nth T (zy (zj (zc L.b i)) j).1.toNat / P - (zy (zj (zc L.b i)) j).2 - nth T i / P) % r from rfl)
 rw [hst] at HUS hlk0 HNX HNE
 obtain⟨hlk,hus2⟩:=hlk0
 dsimp only at hlk
 obtain⟨us,hus⟩:∃us,zj ⟨o,xa,xb,ya,yb,ar,sp,pl,nn⟩=us:=⟨_,rfl⟩
 rw [hus] at HUS hlk hus2 HNX HNE
 have HUSQ:=z9 hus
 have hgz:g<w.heap.size:=zu.lt hj.row
 have hgx:=hj.gt
 have HJ:=z9 hj
 clear hus hj hleg hdo hm hmt htl hst
 go_enter func148,ntmps148
 have HJ1:Hid (EmJ L ⟨p0,p1,p2,q0,q1,q2,r⟩ P T D x1 g lc i 0 (w.alloc (.cells #[iV o,iV xa,iV xb,iV ya,iV yb,iV ar,iV sp,iV pl,iV nn] 41))):=HJ.out.gE (below_alloc1 _ _)
 have hz1:(w.alloc (.cells #[iV o,iV xa,iV xb,iV ya,iV yb,iV ar,iV sp,iV pl,iV nn] 41)).heap.size=w.heap.size+1:=by simp
 have HZ1:=z9 hz1
 have k1:(w.alloc (.cells #[iV o,iV xa,iV xb,iV ya,iV yb,iV ar,iV sp,iV pl,iV nn] 41)).heap[w.heap.size]?=some (.cells #[iV o,iV xa,iV xb,iV ya,iV yb,iV ar,iV sp,iV pl,iV nn] 41 (0,0)):=zD _ _ _
 have HK1:=z9 k1
 clear hz1 k1
 have hii:(i:Int)<(L.b.length:Int):=by omega
 go_wp2_with fail
 refine wp_region_noPanic ?_
 refine zm 8 (fun w'=>True) (by kernel_rfl) trivial (fun h9=>?_)
 refine uk 0 h9 ?_
 refine uk 1 h9 ?_
 refine uk 2 h9 ?_
 refine uk 3 h9 ?_
 refine uk 4 h9 ?_
 refine uk 5 h9 ?_
 refine uk 6 h9 ?_
 refine ze (i:=7) rfl (by kernel_rfl) (fun K hK=>?_)
 go_simp
 refine nxt hK.out (.inr trivial) ?_
 clear hK K
 refine ze (i:=8) rfl (by kernel_rfl) (fun K hK=>?_)
 go_simp
 refine nxt hK.out (.inl rfl) ?_
 clear hK K
 refine zq (by kernel_rfl) ?_ _
 refine NoPanic.normal ?_
 have HZ3:Hid ((((w.alloc (.cells #[iV o,iV xa,iV xb,iV ya,iV yb,iV ar,iV sp,iV pl,iV nn] 41)).alloc (.cells #[.pointer (some (ad g (i*10+4))),.pointer (some (ad g (i*10+5)))] 241)).alloc (.cells #[iV xa,iV xb,iV ya,iV yb] 159)).drew.heap.size=w.heap.size+1+1+1):=by show (((w.alloc (.cells #[iV o,iV xa,iV xb,iV ya,iV yb,iV ar,iV sp,iV pl,iV nn] 41)).alloc (.cells #[.pointer (some (ad g (i*10+4))),.pointer (some (ad g (i*10+5)))] 241)).alloc (.cells #[iV xa,iV xb,iV ya,iV yb] 159)).heap.size=_;simp
 have HB3:Hid (Bw w (((w.alloc (.cells #[iV o,iV xa,iV xb,iV ya,iV yb,iV ar,iV sp,iV pl,iV nn] 41)).alloc (.cells #[.pointer (some (ad g (i*10+4))),.pointer (some (ad g (i*10+5)))] 241)).alloc (.cells #[iV xa,iV xb,iV ya,iV yb] 159)).drew):=(below_alloc3 _ _ _ _).drew
 have HT3:Hid (zi4 #[.pointer (some (ad g (i*10+4))),.pointer (some (ad g (i*10+5)))] #[iV xa,iV xb,iV ya,iV yb] (w.heap.size+1) (((w.alloc (.cells #[iV o,iV xa,iV xb,iV ya,iV yb,iV ar,iV sp,iV pl,iV nn] 41)).alloc (.cells #[.pointer (some (ad g (i*10+4))),.pointer (some (ad g (i*10+5)))] 241)).alloc (.cells #[iV xa,iV xb,iV ya,iV yb] 159)).drew):=by
  refine⟨?_,?_⟩
  ·show (((w.alloc (.cells #[iV o,iV xa,iV xb,iV ya,iV yb,iV ar,iV sp,iV pl,iV nn] 41)).alloc (.cells #[.pointer (some (ad g (i*10+4))),.pointer (some (ad g (i*10+5)))] 241)).alloc (.cells #[iV xa,iV xb,iV ya,iV yb] 159)).heap[_]?=_
   rw [Below.heap_alloc _ _ _ (by simp),<-HZ1.out];exact zD _ _ _
  ·show (((w.alloc (.cells #[iV o,iV xa,iV xb,iV ya,iV yb,iV ar,iV sp,iV pl,iV nn] 41)).alloc (.cells #[.pointer (some (ad g (i*10+4))),.pointer (some (ad g (i*10+5)))] 241)).alloc (.cells #[iV xa,iV xb,iV ya,iV yb] 159)).heap[_]?=_
   have e:((w.alloc (.cells #[iV o,iV xa,iV xb,iV ya,iV yb,iV ar,iV sp,iV pl,iV nn] 41)).alloc (.cells #[.pointer (some (ad g (i*10+4))),.pointer (some (ad g (i*10+5)))] 241)).heap.size=w.heap.size+1+1:=by simp
   rw [<-e];exact zD _ _ _
 clear HK1 HJ1
 go_wp2_with fail
 refine (Z3 o _).mono ?_
 rintro e w' ⟨rfl,hw'⟩
 have hw':=hw'.symm;subst hw'
 rw [hlk]
 go_wp2_with fail
 go_loopw [31] (fun iv wr=>∃j:Nat,j<=us.length/\iv=iV j/\EmJ L ⟨p0,p1,p2,q0,q1,q2,r⟩ P T D x1 g lc i j wr/\zi4 #[.pointer (some (ad g (i*10+4))),.pointer (some (ad g (i*10+5)))] #[iV xa,iV xb,iV ya,iV yb] (w.heap.size+1) wr) (fun iv _=>us.length - (intOf iv).toNat)
 case atStart=>exact⟨0,Nat.zero_le _,rfl,HJ.out.gE HB3.out,HT3.out⟩
 case round =>
  clear HJ HB3 HT3 HZ3
  obtain⟨j,hjl,rfl,hj,h2⟩:=hrel
  by_cases hjn:j<us.length
  ·have hji:(j:Int)<(us.length:Int):=by omega
   have hj2:j<2:=by omega
   have hjh:(j:Int)<2:=by omega
   have HJ:=z9 hj
   have H2:=z9 h2
   have hrf:=HUS.out (zy us j) (by
    unfold zy
    rw [List.getD_eq_getElem?_getD,List.getElem?_eq_getElem hjn]
    exact List.getElem_mem hjn)
   have hcc:=zho (zym (o:=o) (ar:=ar) (sp:=sp) (pl:=pl) (nn:=nn) h2.rf) (i:=j) (by rw [HUSQ.out];exact hjn)
   rw [HUSQ.out] at hcc
   obtain⟨f0,f1⟩:=hcc
   have pn:=yam h2.nm hj2
   have HNM:=z9 (HNE.out j)
   have HST:=z9 (hj.set hil hj2)
   have hgr:g<wr.heap.size:=zu.lt hj.row
   have hwz:w.heap.size+1+1<wr.heap.size:=(Array.getElem?_eq_some_iff.1 h2.rf).1
   generalize zy us j=rf at *
   obtain⟨ra,rb⟩:=rf
   obtain⟨u1,u2,u3,u4⟩:=hrf
   simp only at f0 f1 u1 u2 u3 u4
   obtain⟨rn,rfl⟩:=Int.eq_ofNat_of_zero_le u1
   have hrl:rn<L.b.length:=by omega
   have hrli:(rn:Int)<(L.b.length:Int):=by omega
   have hnm:=HNM.out
   rw [show (((rn:Nat):Int),rb).1.toNat=rn from Int.toNat_natCast _] at hnm
   simp only at hnm
   obtain⟨s1,s2⟩:=HSG.out rn hrl
   obtain⟨d1,d2⟩:=HD.out rn hrl
   obtain⟨v1,v2⟩:=HSG.out i hil
   have ho:=zfv (L:=L) (t:=⟨p0,p1,p2,q0,q1,q2,r⟩) (P:=P) (T:=T) (D:=D) i j rn
   have hoi:=(zfv (L:=L) (t:=⟨p0,p1,p2,q0,q1,q2,r⟩) (P:=P) (T:=T) (D:=D) i j i).1
   obtain⟨c0,c1,c2,c3,c4,c5,c6,c7,c8,c9⟩:=ten (fun k hk=>hj.row.cells hrl k hk)
   have ci:=(ten (fun k hk=>hj.row.cells hil k hk)).2.1
   rw [hoi] at ci
   obtain⟨ho1,ho2⟩:=ho
   rw [ho1] at c1
   rw [ho2] at c3
   obtain⟨si,hsi⟩:∃si,nth T i / P=si:=⟨_,rfl⟩
   obtain⟨y1,hy1⟩:∃y1,nth T rn / P=y1:=⟨_,rfl⟩
   obtain⟨y3,hy3⟩:∃y3,nth D rn=y3:=⟨_,rfl⟩
   rw [hsi] at ci hnm v1 v2
   rw [hy1] at c1 hnm s1 s2
   rw [hy3] at c3 hnm d1 d2
   have hnm2:ZO L ⟨p0,p1,p2,q0,q1,q2,r⟩ P T D i j=(y3+y1 - (rb+si)) % r:=by rw [hnm];congr 1;omega
   have HNM2:=z9 hnm2
   clear hnm hnm2 HNM ho1 ho2 hoi hsi hy1 hy3
   generalize (Y7 L ⟨p0,p1,p2,q0,q1,q2,r⟩ P T D i j rn).sl=y0 at c0
   generalize (Y7 L ⟨p0,p1,p2,q0,q1,q2,r⟩ P T D i j rn).o=y2 at c2
   generalize (Y7 L ⟨p0,p1,p2,q0,q1,q2,r⟩ P T D i j rn).a=y4 at c4
   generalize (Y7 L ⟨p0,p1,p2,q0,q1,q2,r⟩ P T D i j rn).b=y5 at c5
   generalize (Y7 L ⟨p0,p1,p2,q0,q1,q2,r⟩ P T D i j rn).ar=y6 at c6
   generalize (Y7 L ⟨p0,p1,p2,q0,q1,q2,r⟩ P T D i j rn).sp=y7 at c7
   generalize (Y7 L ⟨p0,p1,p2,q0,q1,q2,r⟩ P T D i j rn).pl=y8 at c8
   generalize (Y7 L ⟨p0,p1,p2,q0,q1,q2,r⟩ P T D i j rn).nn=y9 at c9
   have HSS:Hid (∀y:World,Below (wr.heap.size+1) (wr.alloc (.cells #[iV (rn:Int),iV rb] 39)) y->(y.cell? (ad (w.heap.size+1) j)=some (.pointer (some (ad g (i*10+4+j))))/\y.cell? (ad wr.heap.size 0)=sI (rn:Int)/\y.cell? (ad wr.heap.size 1)=sI rb/\y.cell? (ad g (rn*10))=sI y0/\y.cell? (ad g (rn*10+1))=sI y1/\y.cell? (ad g (rn*10+2))=sI y2/\y.cell? (ad g (rn*10+3))=sI y3/\y.cell? (ad g (rn*10+4))=sI y4/\y.cell? (ad g (rn*10+5))=sI y5/\y.cell? (ad g (rn*10+6))=sI y6/\y.cell? (ad g (rn*10+7))=sI y7/\y.cell? (ad g (rn*10+8))=sI y8/\y.cell? (ad g (rn*10+9))=sI y9/\y.cell? (ad g (i*10+1))=sI si)):=by
    intro y h
    have e1:(wr.alloc (.cells #[iV (rn:Int),iV rb] 39)).heap.size=wr.heap.size+1:=by simp
    have h':Below (wr.alloc (.cells #[iV (rn:Int),iV rb] 39)).heap.size (wr.alloc (.cells #[iV (rn:Int),iV rb] 39)) y:=by rw [e1];exact h
    have hz:∀q o,q<wr.heap.size->y.cell? (ad q o)=wr.cell? (ad q o):=fun q o hq=>by rw [zf h' _ _ (by omega),zf (below_alloc1 wr _) _ _ hq]
    rw [hz _ _ (show w.heap.size+1<wr.heap.size by omega),hz _ _ hgr,hz _ _ hgr,hz _ _ hgr,hz _ _ hgr,hz _ _ hgr,hz _ _ hgr,hz _ _ hgr,hz _ _ hgr,hz _ _ hgr,hz _ _ hgr,hz _ _ hgr]
    refine⟨pn,?_,?_,c0,c1,c2,c3,c4,c5,c6,c7,c8,c9,ci⟩
    ·rw [zf h' _ _ (by omega)];go_simp
    ·rw [zf h' _ _ (by omega)];go_simp
   have HRW:Hid (∀y:World,Below (wr.heap.size+1) (wr.alloc (.cells #[iV (rn:Int),iV rb] 39)) y->Bw wr y):=fun y h=>(below_alloc1 wr _).trans (h.mono (Nat.le_succ _))
   have hwsi:wrap64 (rb+si)=rb+si:=by unfold wrap64;omega
   have hwsj:IntKind.i64.wrap (rb+si)=rb+si:=xw _ (by omega) (by omega)
   have HNA:=z9 (fun W=>zmi y0 y1 y2 y3 y4 y5 y6 y7 y8 y9 (rb+si) r W s1 s2 d1 d2 (by omega) (by omega) hr1 hr2)
   have HSET:Hid (∀y:World,Bw wr y->EmJ L ⟨p0,p1,p2,q0,q1,q2,r⟩ P T D x1 g lc i (j+1) (y.setCell (ad g (i*10+4+j)) (iV ((y3+y1 - (rb+si)) % r)))):=fun y h=>by rw [<-HNM2.out];exact (HJ.out.gE h).set hil hj2
   obtain⟨nm,hnmq⟩:∃nm,(y3+y1 - (rb+si)) % r=nm:=⟨_,rfl⟩
   rw [hnmq] at HNA HSET
   have HOLD:Hid (∀y:World,Bw wr y->(∃u,y.cell? (ad g (i*10+4+j))=sI u)/\y.frozen? (ad g (i*10+4+j))=false):=fun y h=>by
    have hq:=(HJ.out.gE h).row
    refine⟨?_,zu.frozen hq _⟩
    obtain⟨-,-,-,-,e4,e5,-⟩:=ten (fun k hk=>hq.cells hil k hk)
    obtain rfl | rfl:j=0\/j=1:=by omega
    ·exact⟨_,e4⟩
    ·exact⟨_,e5⟩
   clear hnmq hj h2 c0 c1 c2 c3 c4 c5 c6 c7 c8 c9 ci HNM2
   go_wp2_with fail
   clear f0 f1 pn
   refine wp_region_noPanic ?_
   refine zm 18 (fun w'=>(w'.cell? (ad (w.heap.size+1) j)=some (.pointer (some (ad g (i*10+4+j))))/\w'.cell? (ad wr.heap.size 0)=sI (rn:Int)/\w'.cell? (ad wr.heap.size 1)=sI rb/\w'.cell? (ad g (rn*10))=sI y0/\w'.cell? (ad g (rn*10+1))=sI y1/\w'.cell? (ad g (rn*10+2))=sI y2/\w'.cell? (ad g (rn*10+3))=sI y3/\w'.cell? (ad g (rn*10+4))=sI y4/\w'.cell? (ad g (rn*10+5))=sI y5/\w'.cell? (ad g (rn*10+6))=sI y6/\w'.cell? (ad g (rn*10+7))=sI y7/\w'.cell? (ad g (rn*10+8))=sI y8/\w'.cell? (ad g (rn*10+9))=sI y9/\w'.cell? (ad g (i*10+1))=sI si)) (by kernel_rfl) (HSS.out _ (zU _ _)) (fun h9=>?_)
   refine uk 0 h9 ?_
   refine uk 1 h9 ?_
   refine uk 2 h9 ?_
   refine uk 3 h9 ?_
   refine uk 4 h9 ?_
   refine uk 5 h9 ?_
   refine uk 6 h9 ?_
   refine uk 7 h9 ?_
   refine uk 8 h9 ?_
   refine uk 9 h9 ?_
   refine uk 10 h9 ?_
   refine uk 11 h9 ?_
   refine uk 12 h9 ?_
   refine uk 13 h9 ?_
   refine uk 14 h9 ?_
   refine uk 15 h9 ?_
   refine ze (i:=16) rfl (by kernel_rfl) (fun K hK=>?_)
   go_simp
   refine (HNA.out _).mono ?_
   rintro e x2 ⟨rfl,hb9⟩
   have HB9:Hid (Below (wr.heap.size+1) (wr.alloc (.cells #[iV (rn:Int),iV rb] 39)) x2):=by
    have e1:(wr.alloc (.cells #[iV (rn:Int),iV rb] 39)).heap.size=wr.heap.size+1:=by simp
    exact (zU _ _).trans (hb9.mono (by show _<=(wr.alloc (.cells #[iV (rn:Int),iV rb] 39)).heap.size;omega))
   have gX:=HSS.out _ HB9.out
   clear hb9
   refine nxt hK.out (.inr gX) ?_
   clear hK K
   refine uk 17 gX ?_
   obtain⟨⟨u,hu⟩,hfu⟩:=HOLD.out x2 (HRW.out x2 HB9.out)
   refine ze (i:=18) rfl (by kernel_rfl) (fun K hK=>?_)
   go_simp
   refine nxt hK.out (.inl rfl) ?_
   clear hK K
   refine zq (by kernel_rfl) ?_ _
   refine NoPanic.normal ?_
   have HF1:=z9 (HSET.out x2 (HRW.out x2 HB9.out))
   have HF2:=z9 ((H2.out.gE (HRW.out x2 HB9.out)).set (k:=i*10+4+j) (show g<w.heap.size+1 by omega) (iV nm))
   clear h9 gX hu hfu HSS HB9
   go_wp2_with fail
   go_roundw
   case rel=>exact⟨j+1,by omega,by go_num,HF1.out,HF2.out⟩
   case measure=>simp [intOf];omega
  ·have e:j=us.length:=by omega
   subst e
   have hji:¬(us.length:Int)<(us.length:Int):=by omega
   have HF:=z9 (HNX.out wr hj)
   clear hj h2
   go_wp2_with fail
   go_end0
   exact⟨rfl,HF.out⟩
end
theorem Yo {lv tv pv:Array Value} (h:Below (w.heap.size+1+1+1+1) ((((w.alloc (.cells lv 25)).alloc (.cells tv 28)).alloc (.cells pv 49)).alloc (.cells #[iV 0,iV 0,.slice none 0 0] 31)) y) :
  y.heap[w.heap.size]?=some (.cells lv 25 (0,0))/\y.heap[w.heap.size+1]?=some (.cells tv 28 (0,0))/\y.heap[w.heap.size+1+1]?=some (.cells pv 49 (0,0))/\y.heap[(w.heap.size+1+1+1)]?=some (.cells #[iV 0,iV 0,.slice none 0 0] 31 (0,0))/\(w.heap.size+1+1+1+1)<=y.heap.size/\Bw w y:=by
 have z1:(w.alloc (.cells lv 25)).heap.size=w.heap.size+1:=by simp
 have z2:((w.alloc (.cells lv 25)).alloc (.cells tv 28)).heap.size=w.heap.size+1+1:=by simp
 have z3:(((w.alloc (.cells lv 25)).alloc (.cells tv 28)).alloc (.cells pv 49)).heap.size=w.heap.size+1+1+1:=by simp
 have z4:((((w.alloc (.cells lv 25)).alloc (.cells tv 28)).alloc (.cells pv 49)).alloc (.cells #[iV 0,iV 0,.slice none 0 0] 31)).heap.size=(w.heap.size+1+1+1+1):=by simp
 have hz:=h.size
 rw [z4] at hz
 refine⟨?_,?_,?_,?_,hz,?_⟩
 ·rw [h.block _ (by omega),Below.heap_alloc _ _ _ (by rw [z3];omega),Below.heap_alloc _ _ _ (by rw [z2];omega),Below.heap_alloc _ _ _ (by rw [z1];omega)];exact zD _ _ _
 ·rw [h.block _ (by omega),Below.heap_alloc _ _ _ (by rw [z3];omega),Below.heap_alloc _ _ _ (by rw [z2];omega),<-z1];exact zD _ _ _
 ·rw [h.block _ (by omega),Below.heap_alloc _ _ _ (by rw [z3];omega),<-z2];exact zD _ _ _
 ·rw [h.block _ (by omega),<-z3];exact zD _ _ _
 ·exact ((below_alloc3 _ _ _ _).trans ((below_alloc1 _ _).mono (by rw [z3];omega))).trans (h.mono (by omega))
theorem EmI.next2 {L:Lp} {t:Tg} {P:Int} {T D:List Int} {w1:World} {la la':Option Addr} {lc':Nat} {st:Int} (ho:wr.ownsRow (x1.heap.size+1) 37 10 (.slice la k lc) k (Ym ((List.range k).map fun s=>opQ L t P T D s 0))) (hbx:Bw x1 y) (hy:y.heap[x1.heap.size]?=some (.cells #[iV P,iV st,.slice la k lc] 31 (0,0)))
  (ho1:w1.ownsRow (x1.heap.size+1) 37 10 (.slice la' (k+1) lc') (k+1) (Ym ((List.range k).map fun s=>opQ L t P T D s 0)++(yS (opQ L t P T D k 0)).toList)) (hg:y.grownBy w1 (Value.ownBlock (.slice la k lc))) :
  EmI L t P T D x1 (k+1) ((w1.setCell (ad x1.heap.size 2) (.slice la' (k+1) lc')).setCell (ad x1.heap.size 1) (iV (yp P T (k+1))))/\w1.heap[x1.heap.size]?=some (.cells #[iV P,iV st,.slice la k lc] 31 (0,0)):=by
 have hge:=zG ho
 have hyz:x1.heap.size<y.heap.size:=(Array.getElem?_eq_some_iff.1 hy).1
 have hb1:w1.heap[x1.heap.size]?=some (.cells #[iV P,iV st,.slice la k lc] 31 (0,0)):=by
  rw [hg.block _ hyz (fun e=>by have:=hge _ e.symm;omega)];exact hy
 refine⟨⟨((hbx.grown hg (Nat.le_of_lt hyz) fun q hq=>by have:=hge q hq;omega).setCell (Nat.le_refl _) _).setCell (Nat.le_refl _) _,la',lc',?_,?_⟩,hb1⟩
 ·simp [World.setCell,Array.getElem?_modify,hb1]
 ·have e:Ym ((List.range k).map fun s=>opQ L t P T D s 0)++(yS (opQ L t P T D k 0)).toList=Ym ((List.range (k+1)).map fun s=>opQ L t P T D s 0):=by
   rw [zd1,List.range_succ,List.map_append];rfl
  rw [e] at ho1
  obtain⟨hl,hc⟩:=ho1
  refine⟨hl,?_⟩
  rcases hc with hc | ⟨g,cap,cur,hv,hg',hk',r⟩
  ·exact .inl hc
  ·exact .inr ⟨g,cap,cur,hv,hg',by rw [Below.heap_setCell _ _ _ _ (show g≠x1.heap.size by omega),Below.heap_setCell _ _ _ _ (show g≠x1.heap.size by omega)];exact hk',r⟩
theorem zyw {e:TypeId} {a0 a1 a2 a3 a4 a5 a6 a7 a8 a9 b0 b1 b2 b3 b4 b5 b6 b7 b8 b9:Value} (h:x.heap[g]?=some (.cells #[a0,a1,a2,a3,a4,a5,a6,a7,a8,a9] e (0,0))):((((((((((x.setCell (ad g 0) b0).setCell (ad g 1) b1).setCell (ad g 2) b2).setCell (ad g 3) b3).setCell (ad g 4) b4).setCell (ad g 5) b5).setCell (ad g 6) b6).setCell (ad g 7) b7).setCell (ad g 8) b8).setCell (ad g 9) b9).heap[g]?=some (.cells #[b0,b1,b2,b3,b4,b5,b6,b7,b8,b9] e (0,0)):=by
 simp [World.setCell,Array.getElem?_modify,h]
theorem zlt (hS:zcf) (p0 p1 p2 q0 q1 q2 r:Int) (L:Lp) (a0 a2:Option Addr) (bb bo:Nat) (gA gB gC:Nat) (P:Int) (T D:List Int) (tb tz tc db dz dc:Nat) (w:World) (hL:zE w ((lv L a0 (some (ad bb bo)) a2 gA gB gC)) L) (hP:YI w (.agg #[iV P,.slice (some (ad tb tz)) L.b.length tc]) P T) (hD:zK w (.slice (some (ad db dz)) L.b.length dc) D) (hleg:zV L ⟨p0,p1,p2,q0,q1,q2,r⟩ P T=true) (hDn:D.length=L.b.length) (hall:zC (fun s=>inR (nth D s) 0 (r - 1)) D.length=true)
  (hbb:bb<w.heap.size) (hbc:L.b.length<=gB) (hbm:gB<=9223372036854775807) (gQ:∀i,i<L.b.length->∀j,j<9->w.cell? (ad bb (bo+i*9+j))=(zP (zc L.b i))[j]?)
  (htb:tb<w.heap.size) (htc:L.b.length<=tc) (htm:tc<=9223372036854775807) (htimes:∀i,i<L.b.length->w.cell? (ad tb (tz+i))=sI (nth T i))
  (hdb:db<w.heap.size) (hdc:L.b.length<=dc) (hdm:dc<=9223372036854775807) (hdests:∀i,i<L.b.length->w.cell? (ad db (dz+i))=sI (nth D i)) :
  Calls prog 109 #[(lv L a0 (some (ad bb bo)) a2 gA gB gC),(tv p0 p1 p2 q0 q1 q2 r),.agg #[iV P,.slice (some (ad tb tz)) L.b.length tc],.slice (some (ad db dz)) L.b.length dc] w (zcb L ⟨p0,p1,p2,q0,q1,q2,r⟩ P T D w):=by
 have hdo:xj L ⟨p0,p1,p2,q0,q1,q2,r⟩ D=true:=by
  rw [hDn] at hall
  unfold xj
  rw [show zC (fun s=>inR (nth D s) 0 ((⟨p0,p1,p2,q0,q1,q2,r⟩:Tg).r - 1)) L.b.length=true from hall,decide_eq_true hDn];rfl
 have HDY:Hid (zir L ⟨p0,p1,p2,q0,q1,q2,r⟩ P T D=zR L ⟨p0,p1,p2,q0,q1,q2,r⟩ P T D/\ziq L ⟨p0,p1,p2,q0,q1,q2,r⟩ P T D=0):=by
  have hn:(zV L ⟨p0,p1,p2,q0,q1,q2,r⟩ P T && xj L ⟨p0,p1,p2,q0,q1,q2,r⟩ D)=true:=by rw [hleg,hdo];rfl
  show _/\_
  unfold zir ziq
  rw [hn]
  exact⟨if_pos rfl,if_pos rfl⟩
 obtain⟨hm,hmt,hP1,hP2,hTn,htl,-⟩:=yd hleg
 obtain⟨-,hl1,hl16,-⟩:=zw hm
 obtain⟨i0,hi,hz0,hz1,hz2⟩:=info_parts Tryz.iop37
 have HTR:Hid (∀i,i<L.b.length->0<=nth T i/\nth T i<=1000):=fun i hi=>by
  have h:=zo htl i (by omega)
  unfold XN at h
  rw [Bool.and_eq_true] at h
  exact zx.1 h.1
 have HS4:Hid (((((w.alloc (.cells #[.slice a0 L.l.length gA,.slice (some (ad bb bo)) L.b.length gB,.slice a2 L.o.length gC] 25)).alloc (.cells #[iV p0,iV p1,iV p2,iV q0,iV q1,iV q2,iV r] 28)).alloc (.cells #[iV P,.slice (some (ad tb tz)) L.b.length tc] 49)).alloc (.cells #[iV 0,iV 0,.slice none 0 0] 31)).heap.size=(w.heap.size+1+1+1+1)):=by show _=_;simp
 have HBW:=z9 (Yo (Below.refl (w.heap.size+1+1+1+1) ((((w.alloc (.cells #[.slice a0 L.l.length gA,.slice (some (ad bb bo)) L.b.length gB,.slice a2 L.o.length gC] 25)).alloc (.cells #[iV p0,iV p1,iV p2,iV q0,iV q1,iV q2,iV r] 28)).alloc (.cells #[iV P,.slice (some (ad tb tz)) L.b.length tc] 49)).alloc (.cells #[iV 0,iV 0,.slice none 0 0] 31)))).2.2.2.2.2
 have HLG:=z9 (hS ((lv L a0 (some (ad bb bo)) a2 gA gB gC)) (.agg #[iV P,.slice (some (ad tb tz)) L.b.length tc]) ⟨p0,p1,p2,q0,q1,q2,r⟩ L P T ((((w.alloc (.cells #[.slice a0 L.l.length gA,.slice (some (ad bb bo)) L.b.length gB,.slice a2 L.o.length gC] 25)).alloc (.cells #[iV p0,iV p1,iV p2,iV q0,iV q1,iV q2,iV r] 28)).alloc (.cells #[iV P,.slice (some (ad tb tz)) L.b.length tc] 49)).alloc (.cells #[iV 0,iV 0,.slice none 0 0] 31)) (hL.gE HBW.out) (hP.gE HBW.out) hleg)
 have hD2:=hD
 rw [<-hDn] at hD2
 have HDM:=z9 (fun W (hb:Bw w W)=>zlr p0 p1 p2 q0 q1 q2 r D (some (ad db dz)) dc W (hD2.gE hb))
 rw [hall,hDn] at HDM
 have HBO:=z9 gQ
 have HTI:=z9 htimes
 have HDE:=z9 hdests
 have HLEG:=z9 hleg
 have HDO:=z9 hdo
 clear hL hP hD hD2 hleg gQ htimes hdests hm hmt htl hall hDn hTn hdo HBW
 go_enter func109,ntmps109
 go_wp2_with fail
 refine HLG.out.mono ?_
 rintro e x0 ⟨rfl,hb0⟩
 have HX0:Hid (Below (w.heap.size+1+1+1+1) ((((w.alloc (.cells #[.slice a0 L.l.length gA,.slice (some (ad bb bo)) L.b.length gB,.slice a2 L.o.length gC] 25)).alloc (.cells #[iV p0,iV p1,iV p2,iV q0,iV q1,iV q2,iV r] 28)).alloc (.cells #[iV P,.slice (some (ad tb tz)) L.b.length tc] 49)).alloc (.cells #[iV 0,iV 0,.slice none 0 0] 31)) x0):=by show Below _ _ _;rw [<-HS4.out];exact hb0
 obtain⟨b0,b1,b2,b3,hz,hbw⟩:=Yo HX0.out
 have t0:x0.cell? (ad (w.heap.size+1) 0)=sI p0:=by rw [cell_of_block b1];rfl
 have t1:x0.cell? (ad (w.heap.size+1) 1)=sI p1:=by rw [cell_of_block b1];rfl
 have t2:x0.cell? (ad (w.heap.size+1) 2)=sI p2:=by rw [cell_of_block b1];rfl
 have t3:x0.cell? (ad (w.heap.size+1) 3)=sI q0:=by rw [cell_of_block b1];rfl
 have t4:x0.cell? (ad (w.heap.size+1) 4)=sI q1:=by rw [cell_of_block b1];rfl
 have t5:x0.cell? (ad (w.heap.size+1) 5)=sI q2:=by rw [cell_of_block b1];rfl
 have t6:x0.cell? (ad (w.heap.size+1) 6)=sI r:=by rw [cell_of_block b1];rfl
 have HDX:=z9 (HDM.out x0 hbw)
 clear hb0 b0 b1 b2 b3 hbw HLG HDM
 go_wp2_with fail
 refine HDX.out.mono ?_
 rintro e x1 ⟨rfl,hb1⟩
 have HX1:Hid (Below (w.heap.size+1+1+1+1) ((((w.alloc (.cells #[.slice a0 L.l.length gA,.slice (some (ad bb bo)) L.b.length gB,.slice a2 L.o.length gC] 25)).alloc (.cells #[iV p0,iV p1,iV p2,iV q0,iV q1,iV q2,iV r] 28)).alloc (.cells #[iV P,.slice (some (ad tb tz)) L.b.length tc] 49)).alloc (.cells #[iV 0,iV 0,.slice none 0 0] 31)) x1):=HX0.out.trans (hb1.mono hz)
 obtain⟨b0,b1,b2,b3,hzx,-⟩:=Yo HX1.out
 have l1:x1.cell? (ad w.heap.size 1)=some (.slice (some (ad bb bo)) L.b.length gB):=by rw [cell_of_block b0];rfl
 have e0:x1.cell? (ad (w.heap.size+1+1) 0)=sI P:=by rw [cell_of_block b2];rfl
 have HST:=z9 (EmI.start L ⟨p0,p1,p2,q0,q1,q2,r⟩ P T D x1)
 have hzl:w.heap.size<x1.heap.size:=by omega
 clear t0 t1 t2 t3 t4 t5 t6 hz hb1 b0 b1 b2 b3 HDX HX0
 go_wp2_with fail
 clear l1 e0
 go_loopw [42] (fun i wr=>∃k:Nat,k<=L.b.length/\i=iV k/\EmI L ⟨p0,p1,p2,q0,q1,q2,r⟩ P T D x1 k wr) (fun i _=>L.b.length - (intOf i).toNat)
 case atStart=>exact⟨0,Nat.zero_le _,rfl,HST.out⟩
 case round =>
  clear HST
  obtain⟨k,hk,rfl,hem⟩:=hrel
  have HXW:Hid (Below (w.heap.size+1+1+1+1) ((((w.alloc (.cells #[.slice a0 L.l.length gA,.slice (some (ad bb bo)) L.b.length gB,.slice a2 L.o.length gC] 25)).alloc (.cells #[iV p0,iV p1,iV p2,iV q0,iV q1,iV q2,iV r] 28)).alloc (.cells #[iV P,.slice (some (ad tb tz)) L.b.length tc] 49)).alloc (.cells #[iV 0,iV 0,.slice none 0 0] 31)) wr):=HX1.out.trans (hem.bel.mono hzx)
  obtain⟨b0,b1,b2,b3,hsw,hbw⟩:=Yo HXW.out
  by_cases hkl:k<L.b.length
  ·have hki:(k:Int)<(L.b.length:Int):=by omega
   obtain⟨c0,c1,c2,c3,c4,c5,c6,c7,c8⟩:=V5 (fun j hj=>(zf hbw bb (bo+k*9+j) hbb).trans (HBO.out k hkl j hj))
   have hbz:bb<wr.heap.size:=by omega
   have hdk:=(zf hbw db (dz+k) hdb).trans (HDE.out k hkl)
   have htk:=(zf hbw tb (tz+k) htb).trans (HTI.out k hkl)
   obtain⟨tk1,tk2⟩:=HTR.out k hkl
   have hkz:=hem.lt
   have HOPJ:Hid (opQ L ⟨p0,p1,p2,q0,q1,q2,r⟩ P T D k 0=⟨nth T k % P,nth T k / P,(zc L.b k).o,nth D k,0,0,(zc L.b k).ar,(zc L.b k).sp,(zc L.b k).pl,(zc L.b k).nn⟩):=rfl
   have HSTG:Hid (yp P T (k+1)=if yp P T k<=nth T k / P then nth T k / P+1 else yp P T k):=rfl
   have hst0:0<=yp P T k:=by
    rcases Nat.eq_zero_or_pos k with e | e
    ·rw [e];exact Int.le_refl _
    ·have:=zbe P T k 0 e
     have:=Int.ediv_nonneg (HTR.out 0 (by omega)).1 (show 0<=P by omega)
     omega
   have hst1:yp P T k<=1001:=zbf P T 1001 (by omega) k (fun s hs=>by
    have h:=HTR.out s (by omega)
    have:=Int.le_trans (Int.ediv_le_self P h.1) h.2
    omega)
   obtain⟨la,lc,hkb,gJ⟩:=hem.blk
   have HKB:=z9 hkb
   have HOWN:=z9 gJ
   have HNEXT:=z9 (fun y w1 la' lc' h1 h2 h3 h4=>EmI.next2 (y:=y) (w1:=w1) (la':=la') (lc':=lc') (st:=yp P T k) gJ h1 h2 h3 h4)
   have HBX1:=z9 hem.bel
   rw [HOPJ.out] at HNEXT
   have hsg0:=Int.ediv_nonneg tk1 (show 0<=P by omega)
   have hsg1:nth T k / P<=1000:=Int.le_trans (Int.ediv_le_self _ tk1) tk2
   obtain⟨tk,htke⟩:∃tk,nth T k=tk:=⟨_,rfl⟩
   obtain⟨dk,hdke⟩:∃dk,nth D k=dk:=⟨_,rfl⟩
   rw [hdke] at hdk HNEXT
   rw [htke] at htk tk1 tk2 hsg0 hsg1 HNEXT HSTG
   obtain⟨st,hste⟩:∃st,yp P T k=st:=⟨_,rfl⟩
   rw [hste] at HKB HSTG hst0 hst1 HNEXT
   generalize zc L.b k=xk at c0 c1 c2 c3 c4 c5 c6 c7 c8 HNEXT
   obtain⟨o,xa,xb,ya,yb,ar,sp,pl,nn⟩:=xk
   simp only at c0 c1 c2 c3 c4 c5 c6 c7 c8 HNEXT
   have HOF:=z9 (fun W=>zvf o xa xb ya yb ar sp pl nn tk P dk W tk1 tk2 hP1 hP2)
   obtain⟨sl,hsle⟩:∃sl,tk % P=sl:=⟨_,rfl⟩
   obtain⟨sg,hsge⟩:∃sg,tk / P=sg:=⟨_,rfl⟩
   rw [hsle] at HNEXT HOF
   rw [hsge] at hsg0 hsg1 HNEXT HSTG HOF
   have hza:(wr.alloc (.cells #[iV o,iV xa,iV xb,iV ya,iV yb,iV ar,iV sp,iV pl,iV nn] 41)).heap.size=wr.heap.size+1:=by simp
   have HZA:=z9 hza
   have HSE:Hid (∀y,Below (wr.heap.size+1) (wr.alloc (.cells #[iV o,iV xa,iV xb,iV ya,iV yb,iV ar,iV sp,iV pl,iV nn] 41)) y->((y.cell? (ad wr.heap.size 0)=sI o/\y.cell? (ad wr.heap.size 1)=sI xa/\y.cell? (ad wr.heap.size 2)=sI xb/\y.cell? (ad wr.heap.size 3)=sI ya/\y.cell? (ad wr.heap.size 4)=sI yb/\y.cell? (ad wr.heap.size 5)=sI ar/\y.cell? (ad wr.heap.size 6)=sI sp/\y.cell? (ad wr.heap.size 7)=sI pl/\y.cell? (ad wr.heap.size 8)=sI nn)/\(y.cell? (ad (w.heap.size+1+1) 0)=sI P/\y.cell? (ad (w.heap.size+1+1) 1)=some (.slice (some (ad tb tz)) L.b.length tc))/\y.cell? (ad tb (tz+k))=sI tk/\y.cell? (ad db (dz+k))=sI dk)):=fun y hy=>by
    have hb:y.heap[wr.heap.size]?=some (.cells #[iV o,iV xa,iV xb,iV ya,iV yb,iV ar,iV sp,iV pl,iV nn] 41 (0,0)):=(hy.block _ (by omega)).trans (zD _ _ _)
    have h2:=(below_alloc1 wr (.cells #[iV o,iV xa,iV xb,iV ya,iV yb,iV ar,iV sp,iV pl,iV nn] 41)).trans (hy.mono (by omega))
    have hb2:=(h2.block (w.heap.size+1+1) (by omega)).trans b2
    refine⟨⟨?_,?_,?_,?_,?_,?_,?_,?_,?_⟩,⟨by rw [cell_of_block hb2];rfl,by rw [cell_of_block hb2];rfl⟩,(zf h2 _ _ (by omega)).trans htk,(zf h2 _ _ (by omega)).trans hdk⟩ <;> (rw [cell_of_block hb];rfl)
   have HRW:Hid (∀y,Below (wr.heap.size+1) (wr.alloc (.cells #[iV o,iV xa,iV xb,iV ya,iV yb,iV ar,iV sp,iV pl,iV nn] 41)) y->Bw wr y):=fun y hy=>(below_alloc1 wr _).trans (hy.mono (Nat.le_succ _))
   clear htke hdke hste hsle hsge hkb gJ hem b0 b1 b2 b3 hza
   go_wp2_with fail
   clear c0 c1 c2 c3 c4 c5 c6 c7 c8 hdk htk
   refine wp_region_noPanic ?_
   refine zm 14 (fun w'=>((w'.cell? (ad wr.heap.size 0)=sI o/\w'.cell? (ad wr.heap.size 1)=sI xa/\w'.cell? (ad wr.heap.size 2)=sI xb/\w'.cell? (ad wr.heap.size 3)=sI ya/\w'.cell? (ad wr.heap.size 4)=sI yb/\w'.cell? (ad wr.heap.size 5)=sI ar/\w'.cell? (ad wr.heap.size 6)=sI sp/\w'.cell? (ad wr.heap.size 7)=sI pl/\w'.cell? (ad wr.heap.size 8)=sI nn)/\(w'.cell? (ad (w.heap.size+1+1) 0)=sI P/\w'.cell? (ad (w.heap.size+1+1) 1)=some (.slice (some (ad tb tz)) L.b.length tc))/\w'.cell? (ad tb (tz+k))=sI tk/\w'.cell? (ad db (dz+k))=sI dk)) (by kernel_rfl) (HSE.out _ (zI _ _)) (fun h9=>?_)
   refine uk 0 h9 ?_
   refine uk 1 h9 ?_
   refine uk 2 h9 ?_
   refine uk 3 h9 ?_
   refine uk 4 h9 ?_
   refine uk 5 h9 ?_
   refine uk 6 h9 ?_
   refine uk 7 h9 ?_
   refine uk 8 h9 ?_
   refine uk 9 h9 ?_
   refine uk 10 h9 ?_
   refine uk 11 h9 ?_
   refine Ue (i:=12) (j:=13) rfl rfl (by kernel_rfl) (fun K hK=>?a1) (fun K hK=>?a2)
   case' a1 =>
    go_simp
    refine (HOF.out _).mono ?_
    rintro e x2 ⟨rfl,hb2⟩
    have HB2:Hid (Below (wr.heap.size+1) (wr.alloc (.cells #[iV o,iV xa,iV xb,iV ya,iV yb,iV ar,iV sp,iV pl,iV nn] 41)) x2):=(zI _ _).trans (hb2.mono (by show _<=(wr.alloc (.cells #[iV o,iV xa,iV xb,iV ya,iV yb,iV ar,iV sp,iV pl,iV nn] 41)).heap.size;rw [HZA.out];exact Nat.le_refl _))
    have gY:=HSE.out _ HB2.out
    have hsx:wr.heap.size+1<=x2.heap.size:=by have:=HB2.out.size;rw [HZA.out] at this;exact this
    clear hb2
    refine nxt hK.out (.inr gY) ?_
    clear hK K
    have gX:=HSE.out _ (HB2.out.alloc hsx (.cells #[iV 0,iV 0,iV 0,iV 0,iV 0,iV 0,iV 0,iV 0,iV 0,iV 0] 37))
    refine ze (i:=13) rfl (by kernel_rfl) (fun K hK=>?_)
    go_simp
    refine nxt hK.out (.inr gX) ?_
    clear hK K
    refine ze (i:=14) rfl (by kernel_rfl) (fun K hK=>?_)
    go_simp
    refine nxt hK.out (.inl rfl) ?_
    clear hK K
    refine zq (by kernel_rfl) ?_ _
    refine NoPanic.normal ?_
    clear h9 gY gX
    have HW:Hid (Bw wr (x2.alloc (.cells #[iV sl,iV sg,iV o,iV dk,iV 0,iV 0,iV ar,iV sp,iV pl,iV nn] 37))):=HRW.out _ (HB2.out.alloc hsx _)
    have HU:Hid ((x2.alloc (.cells #[iV sl,iV sg,iV o,iV dk,iV 0,iV 0,iV ar,iV sp,iV pl,iV nn] 37)).heap[x2.heap.size]?=some (.cells #[iV sl,iV sg,iV o,iV dk,iV 0,iV 0,iV ar,iV sp,iV pl,iV nn] 37 (0,0))):=zD _ _ _
    have hub:wr.heap.size<x2.heap.size:=by omega
    clear HB2 hsx
    generalize (x2.alloc (.cells #[iV sl,iV sg,iV o,iV dk,iV 0,iV 0,iV ar,iV sp,iV pl,iV nn] 37))=W at *
    generalize hub2:x2.heap.size=ub at *
    clear hub2
   case' a2 =>
    go_simp
    have hBA:Below (wr.heap.size+1) (wr.alloc (.cells #[iV o,iV xa,iV xb,iV ya,iV yb,iV ar,iV sp,iV pl,iV nn] 41)) ((wr.alloc (.cells #[iV o,iV xa,iV xb,iV ya,iV yb,iV ar,iV sp,iV pl,iV nn] 41)).drew.alloc (.cells #[iV 0,iV 0,iV 0,iV 0,iV 0,iV 0,iV 0,iV 0,iV 0,iV 0] 37)):=(zI _ _).alloc (by show _<=(wr.alloc (.cells #[iV o,iV xa,iV xb,iV ya,iV yb,iV ar,iV sp,iV pl,iV nn] 41)).heap.size;rw [HZA.out];exact Nat.le_refl _) _
    have gY:=HSE.out _ hBA
    refine nxt hK.out (.inr gY) ?_
    clear hK K
    refine ze (i:=12) rfl (by kernel_rfl) (fun K hK=>?_)
    go_simp
    refine (HOF.out _).mono ?_
    rintro e x2 ⟨rfl,hb2⟩
    have HN0:Hid (((wr.alloc (.cells #[iV o,iV xa,iV xb,iV ya,iV yb,iV ar,iV sp,iV pl,iV nn] 41)).drew.alloc (.cells #[iV 0,iV 0,iV 0,iV 0,iV 0,iV 0,iV 0,iV 0,iV 0,iV 0] 37)).heap[wr.heap.size+1]?=some (.cells #[iV 0,iV 0,iV 0,iV 0,iV 0,iV 0,iV 0,iV 0,iV 0,iV 0] 37 (0,0))):=by
     show _=_
     have e:(wr.alloc (.cells #[iV o,iV xa,iV xb,iV ya,iV yb,iV ar,iV sp,iV pl,iV nn] 41)).drew.heap.size=wr.heap.size+1:=HZA.out
     rw [<-e];exact zD _ _ _
    have hz:wr.heap.size+1+1<=((wr.alloc (.cells #[iV o,iV xa,iV xb,iV ya,iV yb,iV ar,iV sp,iV pl,iV nn] 41)).drew.alloc (.cells #[iV 0,iV 0,iV 0,iV 0,iV 0,iV 0,iV 0,iV 0,iV 0,iV 0] 37)).heap.size:=by
     have e:((wr.alloc (.cells #[iV o,iV xa,iV xb,iV ya,iV yb,iV ar,iV sp,iV pl,iV nn] 41)).drew.alloc (.cells #[iV 0,iV 0,iV 0,iV 0,iV 0,iV 0,iV 0,iV 0,iV 0,iV 0] 37)).heap.size=(wr.alloc (.cells #[iV o,iV xa,iV xb,iV ya,iV yb,iV ar,iV sp,iV pl,iV nn] 41)).heap.size+1:=by simp
     rw [e,HZA.out];exact Nat.le_refl _
    have HN1:Hid (x2.heap[wr.heap.size+1]?=some (.cells #[iV 0,iV 0,iV 0,iV 0,iV 0,iV 0,iV 0,iV 0,iV 0,iV 0] 37 (0,0))):=(hb2.block _ (Nat.lt_of_lt_of_le (Nat.lt_succ_self _) hz)).trans HN0.out
    have HB2:Hid (Below (wr.heap.size+1) (wr.alloc (.cells #[iV o,iV xa,iV xb,iV ya,iV yb,iV ar,iV sp,iV pl,iV nn] 41)) x2):=hBA.trans (hb2.mono (Nat.le_trans (Nat.le_succ _) hz))
    have gX:=HSE.out _ HB2.out
    clear hb2 hBA h9 hz
    refine nxt hK.out (.inr gX) ?_
    clear hK K
    have n0:x2.cell? (ad (wr.heap.size+1) 0)=sI 0:=by rw [cell_of_block HN1.out];rfl
    have f0:x2.frozen? (ad (wr.heap.size+1) 0)=false:=by simp [World.frozen?,HN1.out]
    have n1:x2.cell? (ad (wr.heap.size+1) 1)=sI 0:=by rw [cell_of_block HN1.out];rfl
    have f1:x2.frozen? (ad (wr.heap.size+1) 1)=false:=by simp [World.frozen?,HN1.out]
    have n2:x2.cell? (ad (wr.heap.size+1) 2)=sI 0:=by rw [cell_of_block HN1.out];rfl
    have f2:x2.frozen? (ad (wr.heap.size+1) 2)=false:=by simp [World.frozen?,HN1.out]
    have n3:x2.cell? (ad (wr.heap.size+1) 3)=sI 0:=by rw [cell_of_block HN1.out];rfl
    have f3:x2.frozen? (ad (wr.heap.size+1) 3)=false:=by simp [World.frozen?,HN1.out]
    have n4:x2.cell? (ad (wr.heap.size+1) 4)=sI 0:=by rw [cell_of_block HN1.out];rfl
    have f4:x2.frozen? (ad (wr.heap.size+1) 4)=false:=by simp [World.frozen?,HN1.out]
    have n5:x2.cell? (ad (wr.heap.size+1) 5)=sI 0:=by rw [cell_of_block HN1.out];rfl
    have f5:x2.frozen? (ad (wr.heap.size+1) 5)=false:=by simp [World.frozen?,HN1.out]
    have n6:x2.cell? (ad (wr.heap.size+1) 6)=sI 0:=by rw [cell_of_block HN1.out];rfl
    have f6:x2.frozen? (ad (wr.heap.size+1) 6)=false:=by simp [World.frozen?,HN1.out]
    have n7:x2.cell? (ad (wr.heap.size+1) 7)=sI 0:=by rw [cell_of_block HN1.out];rfl
    have f7:x2.frozen? (ad (wr.heap.size+1) 7)=false:=by simp [World.frozen?,HN1.out]
    have n8:x2.cell? (ad (wr.heap.size+1) 8)=sI 0:=by rw [cell_of_block HN1.out];rfl
    have f8:x2.frozen? (ad (wr.heap.size+1) 8)=false:=by simp [World.frozen?,HN1.out]
    have n9:x2.cell? (ad (wr.heap.size+1) 9)=sI 0:=by rw [cell_of_block HN1.out];rfl
    have f9:x2.frozen? (ad (wr.heap.size+1) 9)=false:=by simp [World.frozen?,HN1.out]
    refine ze (i:=14) rfl (by kernel_rfl) (fun K hK=>?_)
    go_simp
    refine nxt hK.out (.inl rfl) ?_
    clear hK K
    refine zq (by kernel_rfl) ?_ _
    refine NoPanic.normal ?_
    clear gY gX n0 n1 n2 n3 n4 n5 n6 n7 n8 n9 f0 f1 f2 f3 f4 f5 f6 f7 f8 f9
    have HW:Hid (Bw wr ((((((((((x2.setCell (ad (wr.heap.size+1) 0) (iV sl)).setCell (ad (wr.heap.size+1) 1) (iV sg)).setCell (ad (wr.heap.size+1) 2) (iV o)).setCell (ad (wr.heap.size+1) 3) (iV dk)).setCell (ad (wr.heap.size+1) 4) (iV 0)).setCell (ad (wr.heap.size+1) 5) (iV 0)).setCell (ad (wr.heap.size+1) 6) (iV ar)).setCell (ad (wr.heap.size+1) 7) (iV sp)).setCell (ad (wr.heap.size+1) 8) (iV pl)).setCell (ad (wr.heap.size+1) 9) (iV nn))):=HRW.out _ (((((((((((HB2.out.setCell (Nat.le_refl _) _).setCell (Nat.le_refl _) _).setCell (Nat.le_refl _) _).setCell (Nat.le_refl _) _).setCell (Nat.le_refl _) _).setCell (Nat.le_refl _) _).setCell (Nat.le_refl _) _).setCell (Nat.le_refl _) _).setCell (Nat.le_refl _) _).setCell (Nat.le_refl _) _))
    have HU:Hid (((((((((((x2.setCell (ad (wr.heap.size+1) 0) (iV sl)).setCell (ad (wr.heap.size+1) 1) (iV sg)).setCell (ad (wr.heap.size+1) 2) (iV o)).setCell (ad (wr.heap.size+1) 3) (iV dk)).setCell (ad (wr.heap.size+1) 4) (iV 0)).setCell (ad (wr.heap.size+1) 5) (iV 0)).setCell (ad (wr.heap.size+1) 6) (iV ar)).setCell (ad (wr.heap.size+1) 7) (iV sp)).setCell (ad (wr.heap.size+1) 8) (iV pl)).setCell (ad (wr.heap.size+1) 9) (iV nn)).heap[wr.heap.size+1]?=some (.cells #[iV sl,iV sg,iV o,iV dk,iV 0,iV 0,iV ar,iV sp,iV pl,iV nn] 37 (0,0))):=zyw HN1.out
    have hub:wr.heap.size<wr.heap.size+1:=Nat.lt_succ_self _
    clear HN0 HN1 HB2
    generalize ((((((((((x2.setCell (ad (wr.heap.size+1) 0) (iV sl)).setCell (ad (wr.heap.size+1) 1) (iV sg)).setCell (ad (wr.heap.size+1) 2) (iV o)).setCell (ad (wr.heap.size+1) 3) (iV dk)).setCell (ad (wr.heap.size+1) 4) (iV 0)).setCell (ad (wr.heap.size+1) 5) (iV 0)).setCell (ad (wr.heap.size+1) 6) (iV ar)).setCell (ad (wr.heap.size+1) 7) (iV sp)).setCell (ad (wr.heap.size+1) 8) (iV pl)).setCell (ad (wr.heap.size+1) 9) (iV nn))=W at *
    generalize hub2:wr.heap.size+1=ub at HU hub ⊢
    clear hub2
   all_goals
    clear HSE HRW HZA HOF
    have hubz:ub<W.heap.size:=(Array.getElem?_eq_some_iff.1 HU.out).1
    have HK6:Hid (W.heap[x1.heap.size]?=some (.cells #[iV P,iV st,.slice la k lc] 31 (0,0))):=(HW.out.block _ hkz).trans HKB.out
    have HW6:Hid (W.ownsRow (x1.heap.size+1) 37 10 (.slice la k lc) k (Ym ((List.range k).map fun s=>opQ L ⟨p0,p1,p2,q0,q1,q2,r⟩ P T D s 0))):=zA HOWN.out HW.out
    have HBX6:Hid (Bw x1 W):=HBX1.out.trans (HW.out.mono (Nat.le_of_lt hkz))
    have hkne:¬x1.heap.size=ub:=by omega
    have hkne2:¬ub=x1.heap.size:=by omega
    have hkz6:x1.heap.size<W.heap.size:=by omega
    have hogl:=zB HOWN.out
    obtain⟨o0,o1,o2,o3,o4,o5,o6,o7,o8,o9⟩:=ten (b:=ub) (o:=0) (x:=⟨sl,sg,o,dk,0,0,ar,sp,pl,nn⟩) (w:=W) (fun j hj=>by rw [cell_of_block HU.out,Nat.zero_add];rfl)
    simp only [Nat.zero_add] at o1 o2 o3 o4 o5 o6 o7 o8 o9
    have m0:W.cell? (ad x1.heap.size 0)=sI P:=by rw [cell_of_block HK6.out];rfl
    have m1:W.cell? (ad x1.heap.size 1)=sI st:=by rw [cell_of_block HK6.out];rfl
    have m2:W.cell? (ad x1.heap.size 2)=some (.slice la k lc):=by rw [cell_of_block HK6.out];rfl
    have hown6:=zS HW6.out
    obtain⟨la9,lc9,hsh,hkc,hcm⟩:=hown6
    injection hsh with hsh1 hsh2 hsh3
    clear hsh1 hsh2
    subst hsh3
    unfold maxLen at hcm
    have HZK:Hid ((W.alloc (.cells #[iV sl,iV sg,iV o,iV dk,iV 0,iV 0,iV ar,iV sp,iV pl,iV nn] 37)).heap[x1.heap.size]?=some (.cells #[iV P,iV st,.slice la k lc] 31 (0,0))):=by
     show _=_
     rw [Below.heap_alloc _ _ _ hkz6]
     exact HK6.out
    have HZU:Hid ((W.alloc (.cells #[iV sl,iV sg,iV o,iV dk,iV 0,iV 0,iV ar,iV sp,iV pl,iV nn] 37)).heap[ub]?=some (.cells #[iV sl,iV sg,iV o,iV dk,iV 0,iV 0,iV ar,iV sp,iV pl,iV nn] 37 (0,0))):=by
     show _=_
     rw [Below.heap_alloc _ _ _ hubz]
     exact HU.out
    have HZB:Hid (Bw x1 (W.alloc (.cells #[iV sl,iV sg,iV o,iV dk,iV 0,iV 0,iV ar,iV sp,iV pl,iV nn] 37))):=HBX6.out.alloc (by omega) _
    have HOC:Hid (∀(j:Nat) (u:Value),[iV sl,iV sg,iV o,iV dk,iV 0,iV 0,iV ar,iV sp,iV pl,iV nn][j]?=some u->(W.alloc (.cells #[iV sl,iV sg,iV o,iV dk,iV 0,iV 0,iV ar,iV sp,iV pl,iV nn] 37)).cell? (((ad W.heap.size 0):Addr).add j)=some u):=znh W #[iV sl,iV sg,iV o,iV dk,iV 0,iV 0,iV ar,iV sp,iV pl,iV nn] 37
    have hwa:wrap64 (sg+1)=sg+1:=by unfold wrap64;omega
    have hwb:IntKind.i64.wrap (sg+1)=sg+1:=xw _ (by omega) (by omega)
    have HGU:Hid (∀w1:World,(W.alloc (.cells #[iV sl,iV sg,iV o,iV dk,iV 0,iV 0,iV ar,iV sp,iV pl,iV nn] 37)).grownBy w1 (Value.ownBlock (.slice la k lc))->w1.heap[ub]?=some (.cells #[iV sl,iV sg,iV o,iV dk,iV 0,iV 0,iV ar,iV sp,iV pl,iV nn] 37 (0,0))):=fun w1 hg=>(hg.block ub (by simp;omega) (fun e=>by have:=hogl ub e.symm;omega)).trans HZU.out
    clear hogl
    go_wp2_with (at_builtin;refine wpList_append_own _ rfl (.tmp 61) (.tmp 63) 29 rfl (x1.heap.size+1) 37 i0 (.agg #[iV 0,iV 0,iV 0,iV 0,iV 0,iV 0,iV 0,iV 0,iV 0,iV 0]) 10 80 underlying29 hi hz0 hz1 hz2 rfl (by decide) _ _ _ rfl (zA HW6.out (below_alloc1 _ _)) (ad W.heap.size 0) 1 1 [iV sl,iV sg,iV o,iV dk,iV 0,iV 0,iV ar,iV sp,iV pl,iV nn] rfl rfl (by exact HOC.out) (by intro u hu;simp at hu;rcases hu with rfl | rfl | rfl | rfl | rfl | rfl | rfl | rfl | rfl | rfl <;> rfl) (by unfold maxLen;omega) (by omega) (by simp;omega) ?_;intro v1 w1 gM gL hnil1;obtain⟨la1,lc1,rfl,-,-⟩:=zS gM;have HO1:=z9 gM;have HG1:=z9 gL;clear gM gL hnil1;have HNX:=z9 (HNEXT.out _ w1 _ _ HZB.out HZK.out HO1.out HG1.out);have HGV:=z9 (HGU.out w1 HG1.out);clear m0 m1 m2 o0 o1 o2 o3 o4 o5 o6 o7 o8 o9;have m1:w1.cell? (ad x1.heap.size 1)=sI st:=(by rw [cell_of_block HNX.out.2];rfl);have m2:w1.cell? (ad x1.heap.size 2)=some (.slice la k lc):=(by rw [cell_of_block HNX.out.2];rfl);have o1:w1.cell? (ad ub 1)=sI sg:=(by rw [cell_of_block HGV.out];rfl);have mf:w1.frozen? (ad x1.heap.size 2)=false:=(by simp [World.frozen?,HNX.out.2]);have mf1:w1.frozen? (ad x1.heap.size 1)=false:=(by simp [World.frozen?,HNX.out.2]))
    go_roundw
    case rel =>
     have HSQ:(if st<sg+1 then sg+1 else st)=yp P T (k+1):=by
      rw [HSTG.out]
      by_cases h:st<=sg
      ·rw [if_pos h,if_pos (by omega)]
      ·rw [if_neg h,if_neg (by omega)]
     exact⟨k+1,by omega,by go_num,by rw [HSQ];exact HNX.out.1⟩
    case measure=>simp [intOf];omega
  ·have e:k=L.b.length:=by omega
   subst e
   have hki:¬(L.b.length:Int)<(L.b.length:Int):=by omega
   obtain⟨g,lc,hkb,hgx,hlc1,hlc2,gI⟩:=hem.row (by omega)
   have HJ0:Hid (EmJ L ⟨p0,p1,p2,q0,q1,q2,r⟩ P T D x1 g lc 0 0 wr):=⟨hem.bel,hkb,gI,hgx⟩
   have HOPS:=z9 (fun wr (h:EmJ L ⟨p0,p1,p2,q0,q1,q2,r⟩ P T D x1 g lc L.b.length 0 wr)=>h.ops hlc1 hlc2)
   unfold maxLen at hlc2
   have l1:wr.cell? (ad w.heap.size 1)=some (.slice (some (ad bb bo)) L.b.length gB):=by rw [cell_of_block b0];rfl
   clear hem hkb gI b0 b1 b2 b3 hbw HXW
   go_wp2_with fail
   clear l1
   go_loopw [77] (fun iv wr=>∃i:Nat,i<=L.b.length/\iv=iV i/\EmJ L ⟨p0,p1,p2,q0,q1,q2,r⟩ P T D x1 g lc i 0 wr) (fun iv _=>L.b.length - (intOf iv).toNat)
   case atStart=>exact⟨0,Nat.zero_le _,rfl,HJ0.out⟩
   case round =>
    clear HJ0
    obtain⟨i,hi2,rfl,hj⟩:=hrel
    have hxi:Below (w.heap.size+1+1+1+1) ((((w.alloc (.cells #[.slice a0 L.l.length gA,.slice (some (ad bb bo)) L.b.length gB,.slice a2 L.o.length gC] 25)).alloc (.cells #[iV p0,iV p1,iV p2,iV q0,iV q1,iV q2,iV r] 28)).alloc (.cells #[iV P,.slice (some (ad tb tz)) L.b.length tc] 49)).alloc (.cells #[iV 0,iV 0,.slice none 0 0] 31)) wr:=HX1.out.trans (hj.bel.mono hzx)
    obtain⟨b0,b1,b2,b3,hzw,hbw⟩:=Yo hxi
    have hjz:=hj.lt
    by_cases hil:i<L.b.length
    ·have hii:(i:Int)<(L.b.length:Int):=by omega
     obtain⟨c0,c1,c2,c3,c4,c5,c6,c7,c8⟩:=V5 (fun j hj=>(zf hbw bb (bo+i*9+j) hbb).trans (HBO.out i hil j hj))
     have hbz:bb<wr.heap.size:=by omega
     have t6:wr.cell? (ad (w.heap.size+1) 6)=sI r:=by rw [cell_of_block b1];rfl
     have m2:wr.cell? (ad x1.heap.size 2)=some (.slice (pA g) L.b.length lc):=by rw [cell_of_block hj.blk];rfl
     have hzt:w.heap.size+1<wr.heap.size:=by omega
     obtain⟨xk,hxk⟩:∃xk,zc L.b i=xk:=⟨_,rfl⟩
     rw [hxk] at c0 c1 c2 c3 c4 c5 c6 c7 c8
     obtain⟨o,xa,xb,ya,yb,ar,sp,pl,nn⟩:=xk
     simp only at c0 c1 c2 c3 c4 c5 c6 c7 c8
     have HNR:=z9 (zem p0 p1 p2 q0 q1 q2 r L P T D x1 g lc i o xa xb ya yb ar sp pl nn (wr.alloc (.cells #[iV o,iV xa,iV xb,iV ya,iV yb,iV ar,iV sp,iV pl,iV nn] 41)) HLEG.out HDO.out hxk hil hlc1 hlc2 (hj.gE (below_alloc1 _ _)))
     clear hxk hj b0 b1 b2 b3 hbw hxi
     go_wp2_with fail
     refine HNR.out.mono ?_
     rintro e x5 ⟨rfl,hj5⟩
     have HJ5:=z9 hj5
     clear hj5 c0 c1 c2 c3 c4 c5 c6 c7 c8 t6 m2
     go_wp2_with fail
     go_roundw
     case rel=>exact⟨i+1,by omega,by go_num,HJ5.out⟩
     case measure=>simp [intOf];omega
    ·have e:i=L.b.length:=by omega
     subst e
     have hii:¬(L.b.length:Int)<(L.b.length:Int):=by omega
     have m0:wr.cell? (ad x1.heap.size 0)=sI P:=by rw [cell_of_block hj.blk];rfl
     have m1:wr.cell? (ad x1.heap.size 1)=sI (yp P T L.b.length):=by rw [cell_of_block hj.blk];rfl
     have m2:wr.cell? (ad x1.heap.size 2)=some (.slice (pA g) L.b.length lc):=by rw [cell_of_block hj.blk];rfl
     have k0:wr.cell? (ad ((w.heap.size+1+1+1)) 0)=sI 0:=by rw [cell_of_block b3];rfl
     have k1:wr.cell? (ad ((w.heap.size+1+1+1)) 1)=sI 0:=by rw [cell_of_block b3];rfl
     have k2:wr.cell? (ad ((w.heap.size+1+1+1)) 2)=some (.slice none 0 0):=by rw [cell_of_block b3];rfl
     have f0:wr.frozen? (ad ((w.heap.size+1+1+1)) 0)=false:=by simp [World.frozen?,b3]
     have f1:wr.frozen? (ad ((w.heap.size+1+1+1)) 1)=false:=by simp [World.frozen?,b3]
     have f2:wr.frozen? (ad ((w.heap.size+1+1+1)) 2)=false:=by simp [World.frozen?,b3]
     have HT:=z9 (znj (a':=iV P) (b':=iV (yp P T L.b.length)) (d':=.slice (pA g) L.b.length lc) b3)
     have hO:=HOPS.out wr hj
     obtain⟨hek,hec⟩:=HDY.out
     have HF:Hid (zcb L ⟨p0,p1,p2,q0,q1,q2,r⟩ P T D w (.returned (.tuple #[.agg #[iV P,iV (yp P T L.b.length),.slice (pA g) L.b.length lc],iV 0])) (((wr.setCell (ad ((w.heap.size+1+1+1)) 0) (iV P)).setCell (ad ((w.heap.size+1+1+1)) 1) (iV (yp P T L.b.length))).setCell (ad ((w.heap.size+1+1+1)) 2) (.slice (pA g) L.b.length lc))):=by
      refine⟨((hbw.setCell (by show w.heap.size<=(w.heap.size+1+1+1);omega) _).setCell (by show w.heap.size<=(w.heap.size+1+1+1);omega) _).setCell (by show w.heap.size<=(w.heap.size+1+1+1);omega) _,P,yp P T L.b.length,_,by rw [hec],?_⟩
      rw [hek]
      exact⟨_,rfl,zhl (zhl (zhl hO (show (w.heap.size+1+1+1)≠g by omega) 0 _) (show (w.heap.size+1+1+1)≠g by omega) 1 _) (show (w.heap.size+1+1+1)≠g by omega) 2 _⟩
     obtain⟨stn,hstn⟩:∃stn,yp P T L.b.length=stn:=⟨_,rfl⟩
     rw [hstn] at m1 HT HF
     clear hO b0 b1 b2 b3 hj hbw hxi hek hec hstn
     go_wp2_with fail
     have s0:(((wr.setCell (ad ((w.heap.size+1+1+1)) 0) (iV P)).setCell (ad ((w.heap.size+1+1+1)) 1) (iV stn)).setCell (ad ((w.heap.size+1+1+1)) 2) (.slice (pA g) L.b.length lc)).cell? (ad ((w.heap.size+1+1+1)) 0)=sI P:=by rw [cell_of_block HT.out];rfl
     have s1:(((wr.setCell (ad ((w.heap.size+1+1+1)) 0) (iV P)).setCell (ad ((w.heap.size+1+1+1)) 1) (iV stn)).setCell (ad ((w.heap.size+1+1+1)) 2) (.slice (pA g) L.b.length lc)).cell? (ad ((w.heap.size+1+1+1)) 1)=sI stn:=by rw [cell_of_block HT.out];rfl
     have s2:(((wr.setCell (ad ((w.heap.size+1+1+1)) 0) (iV P)).setCell (ad ((w.heap.size+1+1+1)) 1) (iV stn)).setCell (ad ((w.heap.size+1+1+1)) 2) (.slice (pA g) L.b.length lc)).cell? (ad ((w.heap.size+1+1+1)) 2)=some (.slice (pA g) L.b.length lc):=by rw [cell_of_block HT.out];rfl
     exact bodyPost_ret (v:=.tuple #[.agg #[iV P,iV stn,.slice (pA g) L.b.length lc],iV 0]) (by simp [results,results109,go_sem,s0,s1,s2]) rfl HF.out
end Go.Proofs.YtjoapiafpahihabGreat
