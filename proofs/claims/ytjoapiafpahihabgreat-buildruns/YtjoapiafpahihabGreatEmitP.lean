import Derived.Test.YtjoapiafpahihabGreatRef11A
import Derived.Test.YtjoapiafpahihabGreatDepQ
set_option maxHeartbeats 20000000
namespace Go.Proofs.YtjoapiafpahihabGreat
open Go.Proofs.Tryz
open Go.RowKit Go.Joins
set_option linter.unusedVariables false
set_option linter.unusedSimpArgs false
set_option maxRecDepth 8192
variable {x1 wr w x y:World} {g lc j n k:Nat} {a b:Array Value}
theorem zlr (p0 p1 p2 q0 q1 q2 r:Int) (D:List Int) (ta:Option Addr) (tc:Nat) (w:World) (h:zK w (.slice ta D.length tc) D) :
  Calls prog 146 #[(tv p0 p1 p2 q0 q1 q2 r),.slice ta D.length tc] w (Rt w (.bool (zC (fun s=>inR (nth D s) 0 (r - 1)) D.length))):=by
 obtain⟨a,cap,he,hl,hm,hr,hc⟩:=h
 injection he with e1 e2 e3
 subst e1;subst e3
 unfold maxLen at hm
 clear e2
 have HC:=z9 hc
 clear hc hr
 go_enter func146,ntmps146
 go_wp2_with fail
 go_loopw [9] (fun i wr=>∃k:Nat,k<=D.length/\i=iV k/\zC (fun s=>inR (nth D s) 0 (r - 1)) k=true/\wr=w.alloc (.cells #[iV p0,iV p1,iV p2,iV q0,iV q1,iV q2,iV r] 28)) (fun i _=>D.length - (intOf i).toNat)
 case atStart=>exact⟨0,Nat.zero_le _,rfl,rfl,rfl⟩
 case round =>
  obtain⟨k,hk,rfl,hall,rfl⟩:=hrel
  have HA:=z9 hall
  clear hall
  by_cases hlt:k<D.length
  ·obtain⟨b,off,rfl,hb,gR⟩:=HC.out (by omega)
   have eA:=gR k hlt
   have ce:(k:Int)<(D.length:Int):=by omega
   clear gR HC
   obtain⟨x,hx⟩:∃x,nth D k=x:=⟨_,rfl⟩
   rw [hx] at eA
   have HX:=z9 hx
   clear hx
   by_cases h0:x<0
   ·have HF:Hid (zC (fun s=>inR (nth D s) 0 (r - 1)) D.length=false):=zZ hlt (by rw [HX.out];exact Yt (by omega))
    go_wp2_with fail
    go_ret
    exact⟨zg (by rw [HF.out]),below_alloc1 _ _⟩
   ·by_cases h1:r<=x
    ·have HF:Hid (zC (fun s=>inR (nth D s) 0 (r - 1)) D.length=false):=zZ hlt (by rw [HX.out];exact Yt (by omega))
     go_wp2_with fail
     go_ret
     exact⟨zg (by rw [HF.out]),below_alloc1 _ _⟩
    ·have HF:Hid (inR (nth D k) 0 (r - 1)=true):=by show _=_;rw [HX.out];exact yf (by omega)
     go_wp2_with fail
     go_roundw
     case rel=>exact⟨k+1,by omega,by go_num,yl HA.out HF.out,by first | trivial | rfl⟩
     case measure=>simp [intOf];omega
  ·have e:k=D.length:=by omega
   subst e
   have ce:¬(D.length:Int)<(D.length:Int):=by omega
   go_wp2_with fail
   go_ret
   exact⟨zg (by rw [HA.out]),below_alloc1 _ _⟩
theorem zmi (x0 x1 x2 x3 x4 x5 x6 x7 x8 x9 p r:Int) (w:World) (h1:0<=x1) (h2:x1<=1000) (h3:0<=x3) (h4:x3<=128) (h5:0<=p) (h6:p<=5000) (h7:1<=r) (h8:r<=128) :
  Calls prog 174 #[.agg #[iV x0,iV x1,iV x2,iV x3,iV x4,iV x5,iV x6,iV x7,iV x8,iV x9],iV p,iV r] w (Rt w (iV ((x3+x1 - p) % r))):=by
 have eK:¬r=0:=by omega
 obtain⟨rm,aY⟩:∃rm,(x3+x1 - p).tmod r=rm:=⟨_,rfl⟩
 have fA:wrap64 (x3+x1)=x3+x1:=by unfold wrap64;omega
 have eU:wrap64 (x3+x1 - p)=x3+x1 - p:=by unfold wrap64;omega
 have hb:-128<rm/\rm<128/\(x3+x1 - p) % r=if rm<0 then rm+r else rm:=by
  have e1:=Int.emod_nonneg (x3+x1 - p) (show r≠0 by omega)
  have e2:=Int.emod_lt_of_pos (x3+x1 - p) (show 0<r by omega)
  rw [Int.tmod_eq_emod] at aY
  split at aY
  ·rw [if_neg (by omega)];omega
  ·have en:((r.natAbs:Nat):Int)=r:=by omega
   have e3:(x3+x1 - p) % r≠0:=fun h=>by rename_i hd;exact hd (Or.inr (Int.dvd_of_emod_eq_zero h))
   rw [if_pos (by omega)];omega
 obtain⟨aH,an,dp⟩:=hb
 have eV:wrap64 rm=rm:=by unfold wrap64;omega
 have eW:wrap64 (rm+r)=rm+r:=by unfold wrap64;omega
 rw [dp]
 clear dp
 by_cases hn:rm<0
 ·rw [if_pos hn]
  go_enter func174,ntmps174
  go_wp2_with fail
  go_ret
  exact⟨rfl,below_alloc1 _ _⟩
 ·rw [if_neg hn]
  go_enter func174,ntmps174
  go_wp2_with fail
  go_ret
  exact⟨rfl,below_alloc1 _ _⟩
theorem zvf (o xa xb ya yb ar sp pl nn tm p d:Int) (w:World) (h0:0<=tm) (h1:tm<=1000) (h3:1<=p) (h4:p<=200) :
  Calls prog 147 #[.agg #[iV o,iV xa,iV xb,iV ya,iV yb,iV ar,iV sp,iV pl,iV nn],iV tm,iV p,iV d] w (Rt w (.agg #[iV (tm % p),iV (tm / p),iV o,iV d,iV 0,iV 0,iV ar,iV sp,iV pl,iV nn])):=by
 have eK:¬p=0:=by omega
 have eI:=Int.emod_nonneg tm (show p≠0 by omega)
 have eJ:=Int.emod_lt_of_pos tm (show 0<p by omega)
 have eL:0<=tm / p:=Int.ediv_nonneg h0 (by omega)
 have eM:tm / p<=tm:=Int.ediv_le_self _ h0
 have ht1:tm.tmod p=tm % p:=Int.tmod_eq_emod_of_nonneg h0
 have ht2:tm.tdiv p=tm / p:=Int.tdiv_eq_ediv_of_nonneg h0
 obtain⟨rm,aY⟩:∃rm,tm % p=rm:=⟨_,rfl⟩
 obtain⟨qt,dG⟩:∃qt,tm / p=qt:=⟨_,rfl⟩
 rw [aY] at eI eJ ht1 ⊢
 rw [dG] at eL eM ht2 ⊢
 have eU:wrap64 rm=rm:=by unfold wrap64;omega
 have eV:IntKind.i64.wrap rm=rm:=xw _ (by omega) (by omega)
 have eW:wrap64 qt=qt:=by unfold wrap64;omega
 have fB:IntKind.i64.wrap qt=qt:=xw _ (by omega) (by omega)
 clear aY dG
 go_enter func147,ntmps147
 go_wp2_with fail
 refine wp_region_noPanic ?_
 refine zm 18 (fun w'=>(w'.cell? (ad w.heap.size 0)=sI o/\w'.cell? (ad w.heap.size 5)=sI ar/\w'.cell? (ad w.heap.size 6)=sI sp/\w'.cell? (ad w.heap.size 7)=sI pl/\w'.cell? (ad w.heap.size 8)=sI nn)) (by kernel_rfl) ⟨by go_simp,by go_simp,by go_simp,by go_simp,by go_simp⟩ (fun h9=>?_)
 refine uk 0 h9 ?_
 refine uk 1 h9 ?_
 refine uk 2 h9 ?_
 refine uk 3 h9 ?_
 refine uk 4 h9 ?_
 refine uk 5 h9 ?_
 refine uk 6 h9 ?_
 refine uk 7 h9 ?_
 refine uk 8 h9 ?_
 refine uk 9 h9 ?_
 refine uk 10 h9 ?_
 refine uk 11 h9 ?_
 refine uk 12 h9 ?_
 refine uk 13 h9 ?_
 refine uk 14 h9 ?_
 refine uk 15 h9 ?_
 refine uk 16 h9 ?_
 refine uk 17 h9 ?_
 refine ze (i:=18) rfl (by kernel_rfl) (fun K hK=>?_)
 go_simp
 refine nxt hK.out (.inl rfl) ?_
 clear hK K
 refine zq (by kernel_rfl) ?_ _
 refine NoPanic.normal ?_
 go_wp2_with fail
 exact bodyPost_ret (v:=.agg #[iV rm,iV qt,iV o,iV d,iV 0,iV 0,iV ar,iV sp,iV pl,iV nn]) (by simp [results,results147,go_sem]) rfl ⟨rfl,(below_alloc2 _ _ _).drew⟩
section
variable {L:Lp} {t:Tg} {P:Int} {T D:List Int}
theorem EmJ.set {i:Nat} (h:EmJ L t P T D x1 g lc i j wr) (hi:i<L.b.length) (bE:j<2):EmJ L t P T D x1 g lc i (j+1) (wr.setCell (ad g (i*10+4+j)) (iV (ZO L t P T D i j))):=by
 obtain rfl | rfl:j=0\/j=1:=by omega
 ·exact h.setA hi
 ·exact h.setB hi (by omega) (by omega)
structure zi4 (a b:Array Value) (n:Nat) (wr:World):Prop where
 nm:wr.heap[n]?=some (.cells a 241 (0,0))
 rf:wr.heap[n+1]?=some (.cells b 159 (0,0))
theorem zi4.gE {w':World} (h:zi4 a b n w) (hb:Bw w w'):zi4 a b n w' :=
 ⟨(hb.block _ (Array.getElem?_eq_some_iff.1 h.nm).1).trans h.nm,(hb.block _ (Array.getElem?_eq_some_iff.1 h.rf).1).trans h.rf⟩
theorem zi4.set (h:zi4 a b n w) (hg:g<n) (v:Value):zi4 a b n (w.setCell (ad g k) v) :=
 ⟨by rw [Below.heap_setCell _ _ _ _ (show n≠g by omega)];exact h.nm,by rw [Below.heap_setCell _ _ _ _ (show n+1≠g by omega)];exact h.rf⟩
theorem yam (h:x.heap[n]?=some (.cells #[.pointer (some (ad g (k+4))),.pointer (some (ad g (k+5)))] 241 (0,0))) (hj:j<2):x.cell? (ad n j)=some (.pointer (some (ad g (k+4+j)))):=by
 obtain rfl | rfl:j=0\/j=1:=by omega
 ·rw [cell_of_block h];rfl
 ·rw [cell_of_block h];rfl
theorem zym {o xa xb ya yb ar sp pl nn:Int} (h:x.heap[n]?=some (.cells #[iV xa,iV xb,iV ya,iV yb] 159 (0,0))):zu x n 159 4 (Uq ⟨o,xa,xb,ya,yb,ar,sp,pl,nn⟩) :=
 ⟨_,h,by simp,fun i hi=>by
  have:i=0\/i=1\/i=2\/i=3:=by omega
  rcases this with rfl | rfl | rfl | rfl <;> rfl⟩
theorem zem (p0 p1 p2 q0 q1 q2 r:Int) (L:Lp) (P:Int) (T D:List Int) (x1:World) (g lc i:Nat) (o xa xb ya yb ar sp pl nn:Int) (w:World) (af:zV L ⟨p0,p1,p2,q0,q1,q2,r⟩ P T=true) (aA:xj L ⟨p0,p1,p2,q0,q1,q2,r⟩ D=true) (dI:zc L.b i=⟨o,xa,xb,ya,yb,ar,sp,pl,nn⟩) (ao:i<L.b.length) (fg:L.b.length<=lc) (fh:lc<=9223372036854775807) (hj:EmJ L ⟨p0,p1,p2,q0,q1,q2,r⟩ P T D x1 g lc i 0 w) :
  Calls prog 148 #[.slice (pA g) L.b.length lc,iV i,.agg #[iV o,iV xa,iV xb,iV ya,iV yb,iV ar,iV sp,iV pl,iV nn],iV r] w fun e w'=>e=.returned (.tuple #[])/\EmJ L ⟨p0,p1,p2,q0,q1,q2,r⟩ P T D x1 g lc (i+1) 0 w':=by
 obtain⟨hm,bF,di,dj,dm,bC,-⟩:=yd af
 have hr:1<=r/\r<=128:=by obtain⟨-,-,-,h4,h5⟩:=ym bF;exact⟨h4,h5⟩
 obtain⟨eO,eP⟩:=hr
 obtain⟨-,eH,cu,-⟩:=zw hm
 have de:Hid (∀s,s<L.b.length->0<=nth T s / P/\nth T s / P<=1000):=fun s hs=>by
  have h:=zo bC s (by omega)
  unfold XN at h
  simp only [Bool.and_eq_true] at h
  have h2:=zx.1 h.1
  exact⟨Int.ediv_nonneg h2.1 (by omega),Int.le_trans (Int.ediv_le_self _ h2.1) h2.2⟩
 have HD:Hid (∀s,s<L.b.length->0<=nth D s/\nth D s<=128):=fun s hs=>by
  unfold xj at aA
  rw [Bool.and_eq_true] at aA
  have h2:=zx.1 (zo aA.2 s hs)
  exact⟨h2.1,by have:=h2.2;dsimp only at this;omega⟩
 have bT:=z9 (fun (rf:Int × Int) (h:rf∈zj (zc L.b i))=>zhz hm ao h)
 have aS:=V0 (zo (zw hm).2.2.2.2.2.2 i ao)
 have ay:=z9 (fun (y:World) (h:EmJ L ⟨p0,p1,p2,q0,q1,q2,r⟩ P T D x1 g lc i (zj (zc L.b i)).length y)=>h.next)
 have bM:=z9 (fun j=>show ZO L ⟨p0,p1,p2,q0,q1,q2,r⟩ P T D i j=(nth D (zy (zj (zc L.b i)) j).1.toNat+nth T (zy (zj (zc L.b i)) j).1.toNat / P - (zy (zj (zc L.b i)) j).2 - nth T i / P) % r from rfl)
 rw [dI] at bT aS ay bM
 obtain⟨cw,cG⟩:=aS
 dsimp only at cw
 obtain⟨us,cF⟩:∃us,zj ⟨o,xa,xb,ya,yb,ar,sp,pl,nn⟩=us:=⟨_,rfl⟩
 rw [cF] at bT cw cG ay bM
 have aN:=z9 cF
 have fm:g<w.heap.size:=zu.lt hj.row
 have dy:=hj.gt
 have HJ:=z9 hj
 clear cF hj af aA hm bF bC dI
 go_enter func148,ntmps148
 have dW:Hid (EmJ L ⟨p0,p1,p2,q0,q1,q2,r⟩ P T D x1 g lc i 0 (w.alloc (.cells #[iV o,iV xa,iV xb,iV ya,iV yb,iV ar,iV sp,iV pl,iV nn] 41))):=HJ.out.gE (below_alloc1 _ _)
 have bG:(w.alloc (.cells #[iV o,iV xa,iV xb,iV ya,iV yb,iV ar,iV sp,iV pl,iV nn] 41)).heap.size=w.heap.size+1:=by simp
 have el:=z9 bG
 have k1:(w.alloc (.cells #[iV o,iV xa,iV xb,iV ya,iV yb,iV ar,iV sp,iV pl,iV nn] 41)).heap[w.heap.size]?=some (.cells #[iV o,iV xa,iV xb,iV ya,iV yb,iV ar,iV sp,iV pl,iV nn] 41 (0,0)):=zD _ _ _
 have dY:=z9 k1
 clear bG k1
 have dA:(i:Int)<(L.b.length:Int):=by omega
 go_wp2_with fail
 refine wp_region_noPanic ?_
 refine zm 8 (fun w'=>True) (by kernel_rfl) trivial (fun h9=>?_)
 refine uk 0 h9 ?_
 refine uk 1 h9 ?_
 refine uk 2 h9 ?_
 refine uk 3 h9 ?_
 refine uk 4 h9 ?_
 refine uk 5 h9 ?_
 refine uk 6 h9 ?_
 refine ze (i:=7) rfl (by kernel_rfl) (fun K hK=>?_)
 go_simp
 refine nxt hK.out (.inr trivial) ?_
 clear hK K
 refine ze (i:=8) rfl (by kernel_rfl) (fun K hK=>?_)
 go_simp
 refine nxt hK.out (.inl rfl) ?_
 clear hK K
 refine zq (by kernel_rfl) ?_ _
 refine NoPanic.normal ?_
 have em:Hid ((((w.alloc (.cells #[iV o,iV xa,iV xb,iV ya,iV yb,iV ar,iV sp,iV pl,iV nn] 41)).alloc (.cells #[.pointer (some (ad g (i*10+4))),.pointer (some (ad g (i*10+5)))] 241)).alloc (.cells #[iV xa,iV xb,iV ya,iV yb] 159)).drew.heap.size=w.heap.size+1+1+1):=by show (((w.alloc (.cells #[iV o,iV xa,iV xb,iV ya,iV yb,iV ar,iV sp,iV pl,iV nn] 41)).alloc (.cells #[.pointer (some (ad g (i*10+4))),.pointer (some (ad g (i*10+5)))] 241)).alloc (.cells #[iV xa,iV xb,iV ya,iV yb] 159)).heap.size=_;simp
 have cL:Hid (Bw w (((w.alloc (.cells #[iV o,iV xa,iV xb,iV ya,iV yb,iV ar,iV sp,iV pl,iV nn] 41)).alloc (.cells #[.pointer (some (ad g (i*10+4))),.pointer (some (ad g (i*10+5)))] 241)).alloc (.cells #[iV xa,iV xb,iV ya,iV yb] 159)).drew):=(below_alloc3 _ _ _ _).drew
 have df:Hid (zi4 #[.pointer (some (ad g (i*10+4))),.pointer (some (ad g (i*10+5)))] #[iV xa,iV xb,iV ya,iV yb] (w.heap.size+1) (((w.alloc (.cells #[iV o,iV xa,iV xb,iV ya,iV yb,iV ar,iV sp,iV pl,iV nn] 41)).alloc (.cells #[.pointer (some (ad g (i*10+4))),.pointer (some (ad g (i*10+5)))] 241)).alloc (.cells #[iV xa,iV xb,iV ya,iV yb] 159)).drew):=by
  refine⟨?_,?_⟩
  ·show (((w.alloc (.cells #[iV o,iV xa,iV xb,iV ya,iV yb,iV ar,iV sp,iV pl,iV nn] 41)).alloc (.cells #[.pointer (some (ad g (i*10+4))),.pointer (some (ad g (i*10+5)))] 241)).alloc (.cells #[iV xa,iV xb,iV ya,iV yb] 159)).heap[_]?=_
   rw [Below.heap_alloc _ _ _ (by simp),<-el.out];exact zD _ _ _
  ·show (((w.alloc (.cells #[iV o,iV xa,iV xb,iV ya,iV yb,iV ar,iV sp,iV pl,iV nn] 41)).alloc (.cells #[.pointer (some (ad g (i*10+4))),.pointer (some (ad g (i*10+5)))] 241)).alloc (.cells #[iV xa,iV xb,iV ya,iV yb] 159)).heap[_]?=_
   have e:((w.alloc (.cells #[iV o,iV xa,iV xb,iV ya,iV yb,iV ar,iV sp,iV pl,iV nn] 41)).alloc (.cells #[.pointer (some (ad g (i*10+4))),.pointer (some (ad g (i*10+5)))] 241)).heap.size=w.heap.size+1+1:=by simp
   rw [<-e];exact zD _ _ _
 clear dY dW
 go_wp2_with fail
 refine (Z3 o _).mono ?_
 rintro e w' ⟨rfl,cH⟩
 have cH:=cH.symm;subst cH
 rw [cw]
 go_wp2_with fail
 go_loopw [31] (fun iv wr=>∃j:Nat,j<=us.length/\iv=iV j/\EmJ L ⟨p0,p1,p2,q0,q1,q2,r⟩ P T D x1 g lc i j wr/\zi4 #[.pointer (some (ad g (i*10+4))),.pointer (some (ad g (i*10+5)))] #[iV xa,iV xb,iV ya,iV yb] (w.heap.size+1) wr) (fun iv _=>us.length - (intOf iv).toNat)
 case atStart=>exact⟨0,Nat.zero_le _,rfl,HJ.out.gE cL.out,df.out⟩
 case round =>
  clear HJ cL df em
  obtain⟨j,fq,rfl,hj,h2⟩:=hrel
  by_cases hjn:j<us.length
  ·have eE:(j:Int)<(us.length:Int):=by omega
   have bE:j<2:=by omega
   have fp:(j:Int)<2:=by omega
   have HJ:=z9 hj
   have H2:=z9 h2
   have eQ:=bT.out (zy us j) (by
    unfold zy
    rw [List.getD_eq_getElem?_getD,List.getElem?_eq_getElem hjn]
    exact List.getElem_mem hjn)
   have dr:=zho (zym (o:=o) (ar:=ar) (sp:=sp) (pl:=pl) (nn:=nn) h2.rf) (i:=j) (by rw [aN.out];exact hjn)
   rw [aN.out] at dr
   obtain⟨f0,f1⟩:=dr
   have pn:=yam h2.nm bE
   have cZ:=z9 (bM.out j)
   have bR:=z9 (hj.set ao bE)
   have ai:g<wr.heap.size:=zu.lt hj.row
   have fE:w.heap.size+1+1<wr.heap.size:=(Array.getElem?_eq_some_iff.1 h2.rf).1
   generalize zy us j=rf at *
   obtain⟨ra,rb⟩:=rf
   obtain⟨u1,u2,u3,u4⟩:=eQ
   simp only at f0 f1 u1 u2 u3 u4
   obtain⟨rn,rfl⟩:=Int.eq_ofNat_of_zero_le u1
   have cx:rn<L.b.length:=by omega
   have eR:(rn:Int)<(L.b.length:Int):=by omega
   have aE:=cZ.out
   rw [show (((rn:Nat):Int),rb).1.toNat=rn from Int.toNat_natCast _] at aE
   simp only at aE
   obtain⟨s1,s2⟩:=de.out rn cx
   obtain⟨d1,d2⟩:=HD.out rn cx
   obtain⟨v1,v2⟩:=de.out i ao
   have ho:=zfv (L:=L) (t:=⟨p0,p1,p2,q0,q1,q2,r⟩) (P:=P) (T:=T) (D:=D) i j rn
   have dF:=(zfv (L:=L) (t:=⟨p0,p1,p2,q0,q1,q2,r⟩) (P:=P) (T:=T) (D:=D) i j i).1
   obtain⟨c0,c1,c2,c3,c4,c5,c6,c7,c8,c9⟩:=ten (fun k hk=>hj.row.cells cx k hk)
   have ci:=(ten (fun k hk=>hj.row.cells ao k hk)).2.1
   rw [dF] at ci
   obtain⟨aV,dE⟩:=ho
   rw [aV] at c1
   rw [dE] at c3
   obtain⟨si,dH⟩:∃si,nth T i / P=si:=⟨_,rfl⟩
   obtain⟨y1,dK⟩:∃y1,nth T rn / P=y1:=⟨_,rfl⟩
   obtain⟨y3,dL⟩:∃y3,nth D rn=y3:=⟨_,rfl⟩
   rw [dH] at ci aE v1 v2
   rw [dK] at c1 aE s1 s2
   rw [dL] at c3 aE d1 d2
   have aT:ZO L ⟨p0,p1,p2,q0,q1,q2,r⟩ P T D i j=(y3+y1 - (rb+si)) % r:=by rw [aE];congr 1;omega
   have aJ:=z9 aT
   clear aE aT cZ aV dE dF dH dK dL
   generalize (Y7 L ⟨p0,p1,p2,q0,q1,q2,r⟩ P T D i j rn).sl=y0 at c0
   generalize (Y7 L ⟨p0,p1,p2,q0,q1,q2,r⟩ P T D i j rn).o=y2 at c2
   generalize (Y7 L ⟨p0,p1,p2,q0,q1,q2,r⟩ P T D i j rn).a=y4 at c4
   generalize (Y7 L ⟨p0,p1,p2,q0,q1,q2,r⟩ P T D i j rn).b=y5 at c5
   generalize (Y7 L ⟨p0,p1,p2,q0,q1,q2,r⟩ P T D i j rn).ar=y6 at c6
   generalize (Y7 L ⟨p0,p1,p2,q0,q1,q2,r⟩ P T D i j rn).sp=y7 at c7
   generalize (Y7 L ⟨p0,p1,p2,q0,q1,q2,r⟩ P T D i j rn).pl=y8 at c8
   generalize (Y7 L ⟨p0,p1,p2,q0,q1,q2,r⟩ P T D i j rn).nn=y9 at c9
   have bQ:Hid (∀y:World,Below (wr.heap.size+1) (wr.alloc (.cells #[iV (rn:Int),iV rb] 39)) y->(y.cell? (ad (w.heap.size+1) j)=some (.pointer (some (ad g (i*10+4+j))))/\y.cell? (ad wr.heap.size 0)=sI (rn:Int)/\y.cell? (ad wr.heap.size 1)=sI rb/\y.cell? (ad g (rn*10))=sI y0/\y.cell? (ad g (rn*10+1))=sI y1/\y.cell? (ad g (rn*10+2))=sI y2/\y.cell? (ad g (rn*10+3))=sI y3/\y.cell? (ad g (rn*10+4))=sI y4/\y.cell? (ad g (rn*10+5))=sI y5/\y.cell? (ad g (rn*10+6))=sI y6/\y.cell? (ad g (rn*10+7))=sI y7/\y.cell? (ad g (rn*10+8))=sI y8/\y.cell? (ad g (rn*10+9))=sI y9/\y.cell? (ad g (i*10+1))=sI si)):=by
    intro y h
    have e1:(wr.alloc (.cells #[iV (rn:Int),iV rb] 39)).heap.size=wr.heap.size+1:=by simp
    have h':Below (wr.alloc (.cells #[iV (rn:Int),iV rb] 39)).heap.size (wr.alloc (.cells #[iV (rn:Int),iV rb] 39)) y:=by rw [e1];exact h
    have hz:∀q o,q<wr.heap.size->y.cell? (ad q o)=wr.cell? (ad q o):=fun q o hq=>by rw [zf h' _ _ (by omega),zf (below_alloc1 wr _) _ _ hq]
    rw [hz _ _ (show w.heap.size+1<wr.heap.size by omega),hz _ _ ai,hz _ _ ai,hz _ _ ai,hz _ _ ai,hz _ _ ai,hz _ _ ai,hz _ _ ai,hz _ _ ai,hz _ _ ai,hz _ _ ai,hz _ _ ai]
    refine⟨pn,?_,?_,c0,c1,c2,c3,c4,c5,c6,c7,c8,c9,ci⟩
    ·rw [zf h' _ _ (by omega)];go_simp
    ·rw [zf h' _ _ (by omega)];go_simp
   have aC:Hid (∀y:World,Below (wr.heap.size+1) (wr.alloc (.cells #[iV (rn:Int),iV rb] 39)) y->Bw wr y):=fun y h=>(below_alloc1 wr _).trans (h.mono (Nat.le_succ _))
   have eX:wrap64 (rb+si)=rb+si:=by unfold wrap64;omega
   have eY:IntKind.i64.wrap (rb+si)=rb+si:=xw _ (by omega) (by omega)
   have cY:=z9 (fun W=>zmi y0 y1 y2 y3 y4 y5 y6 y7 y8 y9 (rb+si) r W s1 s2 d1 d2 (by omega) (by omega) eO eP)
   have aM:Hid (∀y:World,Bw wr y->EmJ L ⟨p0,p1,p2,q0,q1,q2,r⟩ P T D x1 g lc i (j+1) (y.setCell (ad g (i*10+4+j)) (iV ((y3+y1 - (rb+si)) % r)))):=fun y h=>by rw [<-aJ.out];exact (HJ.out.gE h).set ao bE
   obtain⟨nm,aU⟩:∃nm,(y3+y1 - (rb+si)) % r=nm:=⟨_,rfl⟩
   rw [aU] at cY aM
   have bN:Hid (∀y:World,Bw wr y->(∃u,y.cell? (ad g (i*10+4+j))=sI u)/\y.frozen? (ad g (i*10+4+j))=false):=fun y h=>by
    have hq:=(HJ.out.gE h).row
    refine⟨?_,zu.frozen hq _⟩
    obtain⟨-,-,-,-,e4,e5,-⟩:=ten (fun k hk=>hq.cells ao k hk)
    obtain rfl | rfl:j=0\/j=1:=by omega
    ·exact⟨_,e4⟩
    ·exact⟨_,e5⟩
   clear aU hj h2 c0 c1 c2 c3 c4 c5 c6 c7 c8 c9 ci aJ
   go_wp2_with fail
   clear f0 f1 pn
   refine wp_region_noPanic ?_
   refine zm 18 (fun w'=>(w'.cell? (ad (w.heap.size+1) j)=some (.pointer (some (ad g (i*10+4+j))))/\w'.cell? (ad wr.heap.size 0)=sI (rn:Int)/\w'.cell? (ad wr.heap.size 1)=sI rb/\w'.cell? (ad g (rn*10))=sI y0/\w'.cell? (ad g (rn*10+1))=sI y1/\w'.cell? (ad g (rn*10+2))=sI y2/\w'.cell? (ad g (rn*10+3))=sI y3/\w'.cell? (ad g (rn*10+4))=sI y4/\w'.cell? (ad g (rn*10+5))=sI y5/\w'.cell? (ad g (rn*10+6))=sI y6/\w'.cell? (ad g (rn*10+7))=sI y7/\w'.cell? (ad g (rn*10+8))=sI y8/\w'.cell? (ad g (rn*10+9))=sI y9/\w'.cell? (ad g (i*10+1))=sI si)) (by kernel_rfl) (bQ.out _ (zU _ _)) (fun h9=>?_)
   refine uk 0 h9 ?_
   refine uk 1 h9 ?_
   refine uk 2 h9 ?_
   refine uk 3 h9 ?_
   refine uk 4 h9 ?_
   refine uk 5 h9 ?_
   refine uk 6 h9 ?_
   refine uk 7 h9 ?_
   refine uk 8 h9 ?_
   refine uk 9 h9 ?_
   refine uk 10 h9 ?_
   refine uk 11 h9 ?_
   refine uk 12 h9 ?_
   refine uk 13 h9 ?_
   refine uk 14 h9 ?_
   refine uk 15 h9 ?_
   refine ze (i:=16) rfl (by kernel_rfl) (fun K hK=>?_)
   go_simp
   refine (cY.out _).mono ?_
   rintro e x2 ⟨rfl,dq⟩
   have aI:Hid (Below (wr.heap.size+1) (wr.alloc (.cells #[iV (rn:Int),iV rb] 39)) x2):=by
    have e1:(wr.alloc (.cells #[iV (rn:Int),iV rb] 39)).heap.size=wr.heap.size+1:=by simp
    exact (zU _ _).trans (dq.mono (by show _<=(wr.alloc (.cells #[iV (rn:Int),iV rb] 39)).heap.size;omega))
   have gX:=bQ.out _ aI.out
   clear dq
   refine nxt hK.out (.inr gX) ?_
   clear hK K
   refine uk 17 gX ?_
   obtain⟨⟨u,hu⟩,hfu⟩:=bN.out x2 (aC.out x2 aI.out)
   refine ze (i:=18) rfl (by kernel_rfl) (fun K hK=>?_)
   go_simp
   refine nxt hK.out (.inl rfl) ?_
   clear hK K
   refine zq (by kernel_rfl) ?_ _
   refine NoPanic.normal ?_
   have dS:=z9 (aM.out x2 (aC.out x2 aI.out))
   have dT:=z9 ((H2.out.gE (aC.out x2 aI.out)).set (k:=i*10+4+j) (show g<w.heap.size+1 by omega) (iV nm))
   clear h9 gX hu hfu bQ aI
   go_wp2_with fail
   go_roundw
   case rel=>exact⟨j+1,by omega,by go_num,dS.out,dT.out⟩
   case measure=>simp [intOf];omega
  ·have e:j=us.length:=by omega
   subst e
   have eE:¬(us.length:Int)<(us.length:Int):=by omega
   have HF:=z9 (ay.out wr hj)
   clear hj h2
   go_wp2_with fail
   go_end0
   exact⟨rfl,HF.out⟩
end
theorem Yo {lv tv pv:Array Value} (h:Below (w.heap.size+1+1+1+1) ((((w.alloc (.cells lv 25)).alloc (.cells tv 28)).alloc (.cells pv 49)).alloc (.cells #[iV 0,iV 0,.slice none 0 0] 31)) y) :
  y.heap[w.heap.size]?=some (.cells lv 25 (0,0))/\y.heap[w.heap.size+1]?=some (.cells tv 28 (0,0))/\y.heap[w.heap.size+1+1]?=some (.cells pv 49 (0,0))/\y.heap[(w.heap.size+1+1+1)]?=some (.cells #[iV 0,iV 0,.slice none 0 0] 31 (0,0))/\(w.heap.size+1+1+1+1)<=y.heap.size/\Bw w y:=by
 have z1:(w.alloc (.cells lv 25)).heap.size=w.heap.size+1:=by simp
 have z2:((w.alloc (.cells lv 25)).alloc (.cells tv 28)).heap.size=w.heap.size+1+1:=by simp
 have z3:(((w.alloc (.cells lv 25)).alloc (.cells tv 28)).alloc (.cells pv 49)).heap.size=w.heap.size+1+1+1:=by simp
 have z4:((((w.alloc (.cells lv 25)).alloc (.cells tv 28)).alloc (.cells pv 49)).alloc (.cells #[iV 0,iV 0,.slice none 0 0] 31)).heap.size=(w.heap.size+1+1+1+1):=by simp
 have hz:=h.size
 rw [z4] at hz
 refine⟨?_,?_,?_,?_,hz,?_⟩
 ·rw [h.block _ (by omega),Below.heap_alloc _ _ _ (by rw [z3];omega),Below.heap_alloc _ _ _ (by rw [z2];omega),Below.heap_alloc _ _ _ (by rw [z1];omega)];exact zD _ _ _
 ·rw [h.block _ (by omega),Below.heap_alloc _ _ _ (by rw [z3];omega),Below.heap_alloc _ _ _ (by rw [z2];omega),<-z1];exact zD _ _ _
 ·rw [h.block _ (by omega),Below.heap_alloc _ _ _ (by rw [z3];omega),<-z2];exact zD _ _ _
 ·rw [h.block _ (by omega),<-z3];exact zD _ _ _
 ·exact ((below_alloc3 _ _ _ _).trans ((below_alloc1 _ _).mono (by rw [z3];omega))).trans (h.mono (by omega))
theorem EmI.next2 {L:Lp} {t:Tg} {P:Int} {T D:List Int} {w1:World} {la la':Option Addr} {lc':Nat} {st:Int} (ho:wr.ownsRow (x1.heap.size+1) 37 10 (.slice la k lc) k (Ym ((List.range k).map fun s=>opQ L t P T D s 0))) (eu:Bw x1 y) (hy:y.heap[x1.heap.size]?=some (.cells #[iV P,iV st,.slice la k lc] 31 (0,0)))
  (aV:w1.ownsRow (x1.heap.size+1) 37 10 (.slice la' (k+1) lc') (k+1) (Ym ((List.range k).map fun s=>opQ L t P T D s 0)++(yS (opQ L t P T D k 0)).toList)) (hg:y.grownBy w1 (Value.ownBlock (.slice la k lc))) :
  EmI L t P T D x1 (k+1) ((w1.setCell (ad x1.heap.size 2) (.slice la' (k+1) lc')).setCell (ad x1.heap.size 1) (iV (yp P T (k+1))))/\w1.heap[x1.heap.size]?=some (.cells #[iV P,iV st,.slice la k lc] 31 (0,0)):=by
 have dx:=zG ho
 have dM:x1.heap.size<y.heap.size:=(Array.getElem?_eq_some_iff.1 hy).1
 have aH:w1.heap[x1.heap.size]?=some (.cells #[iV P,iV st,.slice la k lc] 31 (0,0)):=by
  rw [hg.block _ dM (fun e=>by have:=dx _ e.symm;omega)];exact hy
 refine⟨⟨((eu.grown hg (Nat.le_of_lt dM) fun q hq=>by have:=dx q hq;omega).setCell (Nat.le_refl _) _).setCell (Nat.le_refl _) _,la',lc',?_,?_⟩,aH⟩
 ·simp [World.setCell,Array.getElem?_modify,aH]
 ·have e:Ym ((List.range k).map fun s=>opQ L t P T D s 0)++(yS (opQ L t P T D k 0)).toList=Ym ((List.range (k+1)).map fun s=>opQ L t P T D s 0):=by
   rw [zd1,List.range_succ,List.map_append];rfl
  rw [e] at aV
  obtain⟨hl,hc⟩:=aV
  refine⟨hl,?_⟩
  rcases hc with hc | ⟨g,cap,cur,hv,eD,eF,r⟩
  ·exact .inl hc
  ·exact .inr ⟨g,cap,cur,hv,eD,by rw [Below.heap_setCell _ _ _ _ (show g≠x1.heap.size by omega),Below.heap_setCell _ _ _ _ (show g≠x1.heap.size by omega)];exact eF,r⟩
theorem zyw {e:TypeId} {a0 a1 a2 a3 a4 a5 a6 a7 a8 a9 b0 b1 b2 b3 b4 b5 b6 b7 b8 b9:Value} (h:x.heap[g]?=some (.cells #[a0,a1,a2,a3,a4,a5,a6,a7,a8,a9] e (0,0))):((((((((((x.setCell (ad g 0) b0).setCell (ad g 1) b1).setCell (ad g 2) b2).setCell (ad g 3) b3).setCell (ad g 4) b4).setCell (ad g 5) b5).setCell (ad g 6) b6).setCell (ad g 7) b7).setCell (ad g 8) b8).setCell (ad g 9) b9).heap[g]?=some (.cells #[b0,b1,b2,b3,b4,b5,b6,b7,b8,b9] e (0,0)):=by
 simp [World.setCell,Array.getElem?_modify,h]
theorem zlt (hS:zcf) (p0 p1 p2 q0 q1 q2 r:Int) (L:Lp) (a0 a2:Option Addr) (bb bo:Nat) (gA gB gC:Nat) (P:Int) (T D:List Int) (tb tz tc db dz dc:Nat) (w:World) (hL:zE w ((lv L a0 (some (ad bb bo)) a2 gA gB gC)) L) (hP:YI w (.agg #[iV P,.slice (some (ad tb tz)) L.b.length tc]) P T) (hD:zK w (.slice (some (ad db dz)) L.b.length dc) D) (af:zV L ⟨p0,p1,p2,q0,q1,q2,r⟩ P T=true) (aO:D.length=L.b.length) (hall:zC (fun s=>inR (nth D s) 0 (r - 1)) D.length=true)
  (hbb:bb<w.heap.size) (fc:L.b.length<=gB) (fe:gB<=9223372036854775807) (gQ:∀i,i<L.b.length->∀j,j<9->w.cell? (ad bb (bo+i*9+j))=(zP (zc L.b i))[j]?)
  (eT:tb<w.heap.size) (fx:L.b.length<=tc) (fy:tc<=9223372036854775807) (aj:∀i,i<L.b.length->w.cell? (ad tb (tz+i))=sI (nth T i))
  (eC:db<w.heap.size) (fi:L.b.length<=dc) (fj:dc<=9223372036854775807) (ah:∀i,i<L.b.length->w.cell? (ad db (dz+i))=sI (nth D i)) :
  Calls prog 109 #[(lv L a0 (some (ad bb bo)) a2 gA gB gC),(tv p0 p1 p2 q0 q1 q2 r),.agg #[iV P,.slice (some (ad tb tz)) L.b.length tc],.slice (some (ad db dz)) L.b.length dc] w (zcb L ⟨p0,p1,p2,q0,q1,q2,r⟩ P T D w):=by
 have aA:xj L ⟨p0,p1,p2,q0,q1,q2,r⟩ D=true:=by
  rw [aO] at hall
  unfold xj
  rw [show zC (fun s=>inR (nth D s) 0 ((⟨p0,p1,p2,q0,q1,q2,r⟩:Tg).r - 1)) L.b.length=true from hall,decide_eq_true aO];rfl
 have dR:Hid (zir L ⟨p0,p1,p2,q0,q1,q2,r⟩ P T D=zR L ⟨p0,p1,p2,q0,q1,q2,r⟩ P T D/\ziq L ⟨p0,p1,p2,q0,q1,q2,r⟩ P T D=0):=by
  have hn:(zV L ⟨p0,p1,p2,q0,q1,q2,r⟩ P T && xj L ⟨p0,p1,p2,q0,q1,q2,r⟩ D)=true:=by rw [af,aA];rfl
  show _/\_
  unfold zir ziq
  rw [hn]
  exact⟨if_pos rfl,if_pos rfl⟩
 obtain⟨hm,bF,di,dj,dm,bC,-⟩:=yd af
 obtain⟨-,eH,cu,-⟩:=zw hm
 obtain⟨i0,hi,eZ,bG,fa⟩:=info_parts Tryz.iop37
 have bS:Hid (∀i,i<L.b.length->0<=nth T i/\nth T i<=1000):=fun i hi=>by
  have h:=zo bC i (by omega)
  unfold XN at h
  rw [Bool.and_eq_true] at h
  exact zx.1 h.1
 have ef:Hid (((((w.alloc (.cells #[.slice a0 L.l.length gA,.slice (some (ad bb bo)) L.b.length gB,.slice a2 L.o.length gC] 25)).alloc (.cells #[iV p0,iV p1,iV p2,iV q0,iV q1,iV q2,iV r] 28)).alloc (.cells #[iV P,.slice (some (ad tb tz)) L.b.length tc] 49)).alloc (.cells #[iV 0,iV 0,.slice none 0 0] 31)).heap.size=(w.heap.size+1+1+1+1)):=by show _=_;simp
 have bH:=z9 (Yo (Below.refl (w.heap.size+1+1+1+1) ((((w.alloc (.cells #[.slice a0 L.l.length gA,.slice (some (ad bb bo)) L.b.length gB,.slice a2 L.o.length gC] 25)).alloc (.cells #[iV p0,iV p1,iV p2,iV q0,iV q1,iV q2,iV r] 28)).alloc (.cells #[iV P,.slice (some (ad tb tz)) L.b.length tc] 49)).alloc (.cells #[iV 0,iV 0,.slice none 0 0] 31)))).2.2.2.2.2
 have cW:=z9 (hS ((lv L a0 (some (ad bb bo)) a2 gA gB gC)) (.agg #[iV P,.slice (some (ad tb tz)) L.b.length tc]) ⟨p0,p1,p2,q0,q1,q2,r⟩ L P T ((((w.alloc (.cells #[.slice a0 L.l.length gA,.slice (some (ad bb bo)) L.b.length gB,.slice a2 L.o.length gC] 25)).alloc (.cells #[iV p0,iV p1,iV p2,iV q0,iV q1,iV q2,iV r] 28)).alloc (.cells #[iV P,.slice (some (ad tb tz)) L.b.length tc] 49)).alloc (.cells #[iV 0,iV 0,.slice none 0 0] 31)) (hL.gE bH.out) (hP.gE bH.out) af)
 have bY:=hD
 rw [<-aO] at bY
 have bK:=z9 (fun W (hb:Bw w W)=>zlr p0 p1 p2 q0 q1 q2 r D (some (ad db dz)) dc W (bY.gE hb))
 rw [hall,aO] at bK
 have cM:=z9 gQ
 have ek:=z9 aj
 have dP:=z9 ah
 have bL:=z9 af
 have dQ:=z9 aA
 clear hL hP hD bY af gQ aj ah hm bF bC hall aO dm aA bH
 go_enter func109,ntmps109
 go_wp2_with fail
 refine cW.out.mono ?_
 rintro e x0 ⟨rfl,dn⟩
 have bU:Hid (Below (w.heap.size+1+1+1+1) ((((w.alloc (.cells #[.slice a0 L.l.length gA,.slice (some (ad bb bo)) L.b.length gB,.slice a2 L.o.length gC] 25)).alloc (.cells #[iV p0,iV p1,iV p2,iV q0,iV q1,iV q2,iV r] 28)).alloc (.cells #[iV P,.slice (some (ad tb tz)) L.b.length tc] 49)).alloc (.cells #[iV 0,iV 0,.slice none 0 0] 31)) x0):=by show Below _ _ _;rw [<-ef.out];exact dn
 obtain⟨b0,b1,b2,b3,hz,ag⟩:=Yo bU.out
 have t0:x0.cell? (ad (w.heap.size+1) 0)=sI p0:=by rw [cell_of_block b1];rfl
 have t1:x0.cell? (ad (w.heap.size+1) 1)=sI p1:=by rw [cell_of_block b1];rfl
 have t2:x0.cell? (ad (w.heap.size+1) 2)=sI p2:=by rw [cell_of_block b1];rfl
 have t3:x0.cell? (ad (w.heap.size+1) 3)=sI q0:=by rw [cell_of_block b1];rfl
 have t4:x0.cell? (ad (w.heap.size+1) 4)=sI q1:=by rw [cell_of_block b1];rfl
 have t5:x0.cell? (ad (w.heap.size+1) 5)=sI q2:=by rw [cell_of_block b1];rfl
 have t6:x0.cell? (ad (w.heap.size+1) 6)=sI r:=by rw [cell_of_block b1];rfl
 have cN:=z9 (bK.out x0 ag)
 clear dn b0 b1 b2 b3 ag cW bK
 go_wp2_with fail
 refine cN.out.mono ?_
 rintro e x1 ⟨rfl,aH⟩
 have bV:Hid (Below (w.heap.size+1+1+1+1) ((((w.alloc (.cells #[.slice a0 L.l.length gA,.slice (some (ad bb bo)) L.b.length gB,.slice a2 L.o.length gC] 25)).alloc (.cells #[iV p0,iV p1,iV p2,iV q0,iV q1,iV q2,iV r] 28)).alloc (.cells #[iV P,.slice (some (ad tb tz)) L.b.length tc] 49)).alloc (.cells #[iV 0,iV 0,.slice none 0 0] 31)) x1):=bU.out.trans (aH.mono hz)
 obtain⟨b0,b1,b2,b3,dO,-⟩:=Yo bV.out
 have l1:x1.cell? (ad w.heap.size 1)=some (.slice (some (ad bb bo)) L.b.length gB):=by rw [cell_of_block b0];rfl
 have e0:x1.cell? (ad (w.heap.size+1+1) 0)=sI P:=by rw [cell_of_block b2];rfl
 have bR:=z9 (EmI.start L ⟨p0,p1,p2,q0,q1,q2,r⟩ P T D x1)
 have fF:w.heap.size<x1.heap.size:=by omega
 clear t0 t1 t2 t3 t4 t5 t6 hz aH b0 b1 b2 b3 cN bU
 go_wp2_with fail
 clear l1 e0
 go_loopw [42] (fun i wr=>∃k:Nat,k<=L.b.length/\i=iV k/\EmI L ⟨p0,p1,p2,q0,q1,q2,r⟩ P T D x1 k wr) (fun i _=>L.b.length - (intOf i).toNat)
 case atStart=>exact⟨0,Nat.zero_le _,rfl,bR.out⟩
 case round =>
  clear bR
  obtain⟨k,hk,rfl,aB⟩:=hrel
  have dh:Hid (Below (w.heap.size+1+1+1+1) ((((w.alloc (.cells #[.slice a0 L.l.length gA,.slice (some (ad bb bo)) L.b.length gB,.slice a2 L.o.length gC] 25)).alloc (.cells #[iV p0,iV p1,iV p2,iV q0,iV q1,iV q2,iV r] 28)).alloc (.cells #[iV P,.slice (some (ad tb tz)) L.b.length tc] 49)).alloc (.cells #[iV 0,iV 0,.slice none 0 0] 31)) wr):=bV.out.trans (aB.bel.mono dO)
  obtain⟨b0,b1,b2,b3,fu,ag⟩:=Yo dh.out
  by_cases hkl:k<L.b.length
  ·have ce:(k:Int)<(L.b.length:Int):=by omega
   obtain⟨c0,c1,c2,c3,c4,c5,c6,c7,c8⟩:=V5 (fun j hj=>(zf ag bb (bo+k*9+j) hbb).trans (cM.out k hkl j hj))
   have ey:bb<wr.heap.size:=by omega
   have bZ:=(zf ag db (dz+k) eC).trans (dP.out k hkl)
   have cD:=(zf ag tb (tz+k) eT).trans (ek.out k hkl)
   obtain⟨tk1,tk2⟩:=bS.out k hkl
   have dD:=aB.lt
   have bO:Hid (opQ L ⟨p0,p1,p2,q0,q1,q2,r⟩ P T D k 0=⟨nth T k % P,nth T k / P,(zc L.b k).o,nth D k,0,0,(zc L.b k).ar,(zc L.b k).sp,(zc L.b k).pl,(zc L.b k).nn⟩):=rfl
   have az:Hid (yp P T (k+1)=if yp P T k<=nth T k / P then nth T k / P+1 else yp P T k):=rfl
   have cA:0<=yp P T k:=by
    rcases Nat.eq_zero_or_pos k with e | e
    ·rw [e];exact Int.le_refl _
    ·have:=zbe P T k 0 e
     have:=Int.ediv_nonneg (bS.out 0 (by omega)).1 (show 0<=P by omega)
     omega
   have cB:yp P T k<=1001:=zbf P T 1001 (by omega) k (fun s hs=>by
    have h:=bS.out s (by omega)
    have:=Int.le_trans (Int.ediv_le_self P h.1) h.2
    omega)
   obtain⟨la,lc,aQ,gJ⟩:=aB.blk
   have cU:=z9 aQ
   have aL:=z9 gJ
   have ab:=z9 (fun y w1 la' lc' h1 h2 h3 h4=>EmI.next2 (y:=y) (w1:=w1) (la':=la') (lc':=lc') (st:=yp P T k) gJ h1 h2 h3 h4)
   have bI:=z9 aB.bel
   rw [bO.out] at ab
   have aZ:=Int.ediv_nonneg tk1 (show 0<=P by omega)
   have bf:nth T k / P<=1000:=Int.le_trans (Int.ediv_le_self _ tk1) tk2
   obtain⟨tk,bz⟩:∃tk,nth T k=tk:=⟨_,rfl⟩
   obtain⟨dk,aP⟩:∃dk,nth D k=dk:=⟨_,rfl⟩
   rw [aP] at bZ ab
   rw [bz] at cD tk1 tk2 aZ bf ab az
   obtain⟨st,bj⟩:∃st,yp P T k=st:=⟨_,rfl⟩
   rw [bj] at cU az cA cB ab
   generalize zc L.b k=xk at c0 c1 c2 c3 c4 c5 c6 c7 c8 ab
   obtain⟨o,xa,xb,ya,yb,ar,sp,pl,nn⟩:=xk
   simp only at c0 c1 c2 c3 c4 c5 c6 c7 c8 ab
   have aK:=z9 (fun W=>zvf o xa xb ya yb ar sp pl nn tk P dk W tk1 tk2 di dj)
   obtain⟨sl,bh⟩:∃sl,tk % P=sl:=⟨_,rfl⟩
   obtain⟨sg,bg⟩:∃sg,tk / P=sg:=⟨_,rfl⟩
   rw [bh] at ab aK
   rw [bg] at aZ bf ab az aK
   have dN:(wr.alloc (.cells #[iV o,iV xa,iV xb,iV ya,iV yb,iV ar,iV sp,iV pl,iV nn] 41)).heap.size=wr.heap.size+1:=by simp
   have aG:=z9 dN
   have aF:Hid (∀y,Below (wr.heap.size+1) (wr.alloc (.cells #[iV o,iV xa,iV xb,iV ya,iV yb,iV ar,iV sp,iV pl,iV nn] 41)) y->((y.cell? (ad wr.heap.size 0)=sI o/\y.cell? (ad wr.heap.size 1)=sI xa/\y.cell? (ad wr.heap.size 2)=sI xb/\y.cell? (ad wr.heap.size 3)=sI ya/\y.cell? (ad wr.heap.size 4)=sI yb/\y.cell? (ad wr.heap.size 5)=sI ar/\y.cell? (ad wr.heap.size 6)=sI sp/\y.cell? (ad wr.heap.size 7)=sI pl/\y.cell? (ad wr.heap.size 8)=sI nn)/\(y.cell? (ad (w.heap.size+1+1) 0)=sI P/\y.cell? (ad (w.heap.size+1+1) 1)=some (.slice (some (ad tb tz)) L.b.length tc))/\y.cell? (ad tb (tz+k))=sI tk/\y.cell? (ad db (dz+k))=sI dk)):=fun y hy=>by
    have hb:y.heap[wr.heap.size]?=some (.cells #[iV o,iV xa,iV xb,iV ya,iV yb,iV ar,iV sp,iV pl,iV nn] 41 (0,0)):=(hy.block _ (by omega)).trans (zD _ _ _)
    have h2:=(below_alloc1 wr (.cells #[iV o,iV xa,iV xb,iV ya,iV yb,iV ar,iV sp,iV pl,iV nn] 41)).trans (hy.mono (by omega))
    have an:=(h2.block (w.heap.size+1+1) (by omega)).trans b2
    refine⟨⟨?_,?_,?_,?_,?_,?_,?_,?_,?_⟩,⟨by rw [cell_of_block an];rfl,by rw [cell_of_block an];rfl⟩,(zf h2 _ _ (by omega)).trans cD,(zf h2 _ _ (by omega)).trans bZ⟩ <;> (rw [cell_of_block hb];rfl)
   have aC:Hid (∀y,Below (wr.heap.size+1) (wr.alloc (.cells #[iV o,iV xa,iV xb,iV ya,iV yb,iV ar,iV sp,iV pl,iV nn] 41)) y->Bw wr y):=fun y hy=>(below_alloc1 wr _).trans (hy.mono (Nat.le_succ _))
   clear bz aP bj bh bg aQ gJ aB b0 b1 b2 b3 dN
   go_wp2_with fail
   clear c0 c1 c2 c3 c4 c5 c6 c7 c8 bZ cD
   refine wp_region_noPanic ?_
   refine zm 14 (fun w'=>((w'.cell? (ad wr.heap.size 0)=sI o/\w'.cell? (ad wr.heap.size 1)=sI xa/\w'.cell? (ad wr.heap.size 2)=sI xb/\w'.cell? (ad wr.heap.size 3)=sI ya/\w'.cell? (ad wr.heap.size 4)=sI yb/\w'.cell? (ad wr.heap.size 5)=sI ar/\w'.cell? (ad wr.heap.size 6)=sI sp/\w'.cell? (ad wr.heap.size 7)=sI pl/\w'.cell? (ad wr.heap.size 8)=sI nn)/\(w'.cell? (ad (w.heap.size+1+1) 0)=sI P/\w'.cell? (ad (w.heap.size+1+1) 1)=some (.slice (some (ad tb tz)) L.b.length tc))/\w'.cell? (ad tb (tz+k))=sI tk/\w'.cell? (ad db (dz+k))=sI dk)) (by kernel_rfl) (aF.out _ (zI _ _)) (fun h9=>?_)
   refine uk 0 h9 ?_
   refine uk 1 h9 ?_
   refine uk 2 h9 ?_
   refine uk 3 h9 ?_
   refine uk 4 h9 ?_
   refine uk 5 h9 ?_
   refine uk 6 h9 ?_
   refine uk 7 h9 ?_
   refine uk 8 h9 ?_
   refine uk 9 h9 ?_
   refine uk 10 h9 ?_
   refine uk 11 h9 ?_
   refine Ue (i:=12) (j:=13) rfl rfl (by kernel_rfl) (fun K hK=>?a1) (fun K hK=>?a2)
   case' a1 =>
    go_simp
    refine (aK.out _).mono ?_
    rintro e x2 ⟨rfl,an⟩
    have au:Hid (Below (wr.heap.size+1) (wr.alloc (.cells #[iV o,iV xa,iV xb,iV ya,iV yb,iV ar,iV sp,iV pl,iV nn] 41)) x2):=(zI _ _).trans (an.mono (by show _<=(wr.alloc (.cells #[iV o,iV xa,iV xb,iV ya,iV yb,iV ar,iV sp,iV pl,iV nn] 41)).heap.size;rw [aG.out];exact Nat.le_refl _))
    have gY:=aF.out _ au.out
    have cC:wr.heap.size+1<=x2.heap.size:=by have:=au.out.size;rw [aG.out] at this;exact this
    clear an
    refine nxt hK.out (.inr gY) ?_
    clear hK K
    have gX:=aF.out _ (au.out.alloc cC (.cells #[iV 0,iV 0,iV 0,iV 0,iV 0,iV 0,iV 0,iV 0,iV 0,iV 0] 37))
    refine ze (i:=13) rfl (by kernel_rfl) (fun K hK=>?_)
    go_simp
    refine nxt hK.out (.inr gX) ?_
    clear hK K
    refine ze (i:=14) rfl (by kernel_rfl) (fun K hK=>?_)
    go_simp
    refine nxt hK.out (.inl rfl) ?_
    clear hK K
    refine zq (by kernel_rfl) ?_ _
    refine NoPanic.normal ?_
    clear h9 gY gX
    have HW:Hid (Bw wr (x2.alloc (.cells #[iV sl,iV sg,iV o,iV dk,iV 0,iV 0,iV ar,iV sp,iV pl,iV nn] 37))):=aC.out _ (au.out.alloc cC _)
    have HU:Hid ((x2.alloc (.cells #[iV sl,iV sg,iV o,iV dk,iV 0,iV 0,iV ar,iV sp,iV pl,iV nn] 37)).heap[x2.heap.size]?=some (.cells #[iV sl,iV sg,iV o,iV dk,iV 0,iV 0,iV ar,iV sp,iV pl,iV nn] 37 (0,0))):=zD _ _ _
    have dJ:wr.heap.size<x2.heap.size:=by omega
    clear au cC
    generalize (x2.alloc (.cells #[iV sl,iV sg,iV o,iV dk,iV 0,iV 0,iV ar,iV sp,iV pl,iV nn] 37))=W at *
    generalize hub2:x2.heap.size=ub at *
    clear hub2
   case' a2 =>
    go_simp
    have bW:Below (wr.heap.size+1) (wr.alloc (.cells #[iV o,iV xa,iV xb,iV ya,iV yb,iV ar,iV sp,iV pl,iV nn] 41)) ((wr.alloc (.cells #[iV o,iV xa,iV xb,iV ya,iV yb,iV ar,iV sp,iV pl,iV nn] 41)).drew.alloc (.cells #[iV 0,iV 0,iV 0,iV 0,iV 0,iV 0,iV 0,iV 0,iV 0,iV 0] 37)):=(zI _ _).alloc (by show _<=(wr.alloc (.cells #[iV o,iV xa,iV xb,iV ya,iV yb,iV ar,iV sp,iV pl,iV nn] 41)).heap.size;rw [aG.out];exact Nat.le_refl _) _
    have gY:=aF.out _ bW
    refine nxt hK.out (.inr gY) ?_
    clear hK K
    refine ze (i:=12) rfl (by kernel_rfl) (fun K hK=>?_)
    go_simp
    refine (aK.out _).mono ?_
    rintro e x2 ⟨rfl,an⟩
    have cX:Hid (((wr.alloc (.cells #[iV o,iV xa,iV xb,iV ya,iV yb,iV ar,iV sp,iV pl,iV nn] 41)).drew.alloc (.cells #[iV 0,iV 0,iV 0,iV 0,iV 0,iV 0,iV 0,iV 0,iV 0,iV 0] 37)).heap[wr.heap.size+1]?=some (.cells #[iV 0,iV 0,iV 0,iV 0,iV 0,iV 0,iV 0,iV 0,iV 0,iV 0] 37 (0,0))):=by
     show _=_
     have e:(wr.alloc (.cells #[iV o,iV xa,iV xb,iV ya,iV yb,iV ar,iV sp,iV pl,iV nn] 41)).drew.heap.size=wr.heap.size+1:=aG.out
     rw [<-e];exact zD _ _ _
    have hz:wr.heap.size+1+1<=((wr.alloc (.cells #[iV o,iV xa,iV xb,iV ya,iV yb,iV ar,iV sp,iV pl,iV nn] 41)).drew.alloc (.cells #[iV 0,iV 0,iV 0,iV 0,iV 0,iV 0,iV 0,iV 0,iV 0,iV 0] 37)).heap.size:=by
     have e:((wr.alloc (.cells #[iV o,iV xa,iV xb,iV ya,iV yb,iV ar,iV sp,iV pl,iV nn] 41)).drew.alloc (.cells #[iV 0,iV 0,iV 0,iV 0,iV 0,iV 0,iV 0,iV 0,iV 0,iV 0] 37)).heap.size=(wr.alloc (.cells #[iV o,iV xa,iV xb,iV ya,iV yb,iV ar,iV sp,iV pl,iV nn] 41)).heap.size+1:=by simp
     rw [e,aG.out];exact Nat.le_refl _
    have ae:Hid (x2.heap[wr.heap.size+1]?=some (.cells #[iV 0,iV 0,iV 0,iV 0,iV 0,iV 0,iV 0,iV 0,iV 0,iV 0] 37 (0,0))):=(an.block _ (Nat.lt_of_lt_of_le (Nat.lt_succ_self _) hz)).trans cX.out
    have au:Hid (Below (wr.heap.size+1) (wr.alloc (.cells #[iV o,iV xa,iV xb,iV ya,iV yb,iV ar,iV sp,iV pl,iV nn] 41)) x2):=bW.trans (an.mono (Nat.le_trans (Nat.le_succ _) hz))
    have gX:=aF.out _ au.out
    clear an bW h9 hz
    refine nxt hK.out (.inr gX) ?_
    clear hK K
    have n0:x2.cell? (ad (wr.heap.size+1) 0)=sI 0:=by rw [cell_of_block ae.out];rfl
    have f0:x2.frozen? (ad (wr.heap.size+1) 0)=false:=by simp [World.frozen?,ae.out]
    have n1:x2.cell? (ad (wr.heap.size+1) 1)=sI 0:=by rw [cell_of_block ae.out];rfl
    have f1:x2.frozen? (ad (wr.heap.size+1) 1)=false:=by simp [World.frozen?,ae.out]
    have n2:x2.cell? (ad (wr.heap.size+1) 2)=sI 0:=by rw [cell_of_block ae.out];rfl
    have f2:x2.frozen? (ad (wr.heap.size+1) 2)=false:=by simp [World.frozen?,ae.out]
    have n3:x2.cell? (ad (wr.heap.size+1) 3)=sI 0:=by rw [cell_of_block ae.out];rfl
    have f3:x2.frozen? (ad (wr.heap.size+1) 3)=false:=by simp [World.frozen?,ae.out]
    have n4:x2.cell? (ad (wr.heap.size+1) 4)=sI 0:=by rw [cell_of_block ae.out];rfl
    have f4:x2.frozen? (ad (wr.heap.size+1) 4)=false:=by simp [World.frozen?,ae.out]
    have n5:x2.cell? (ad (wr.heap.size+1) 5)=sI 0:=by rw [cell_of_block ae.out];rfl
    have f5:x2.frozen? (ad (wr.heap.size+1) 5)=false:=by simp [World.frozen?,ae.out]
    have n6:x2.cell? (ad (wr.heap.size+1) 6)=sI 0:=by rw [cell_of_block ae.out];rfl
    have f6:x2.frozen? (ad (wr.heap.size+1) 6)=false:=by simp [World.frozen?,ae.out]
    have n7:x2.cell? (ad (wr.heap.size+1) 7)=sI 0:=by rw [cell_of_block ae.out];rfl
    have f7:x2.frozen? (ad (wr.heap.size+1) 7)=false:=by simp [World.frozen?,ae.out]
    have n8:x2.cell? (ad (wr.heap.size+1) 8)=sI 0:=by rw [cell_of_block ae.out];rfl
    have f8:x2.frozen? (ad (wr.heap.size+1) 8)=false:=by simp [World.frozen?,ae.out]
    have n9:x2.cell? (ad (wr.heap.size+1) 9)=sI 0:=by rw [cell_of_block ae.out];rfl
    have f9:x2.frozen? (ad (wr.heap.size+1) 9)=false:=by simp [World.frozen?,ae.out]
    refine ze (i:=14) rfl (by kernel_rfl) (fun K hK=>?_)
    go_simp
    refine nxt hK.out (.inl rfl) ?_
    clear hK K
    refine zq (by kernel_rfl) ?_ _
    refine NoPanic.normal ?_
    clear gY gX n0 n1 n2 n3 n4 n5 n6 n7 n8 n9 f0 f1 f2 f3 f4 f5 f6 f7 f8 f9
    have HW:Hid (Bw wr ((((((((((x2.setCell (ad (wr.heap.size+1) 0) (iV sl)).setCell (ad (wr.heap.size+1) 1) (iV sg)).setCell (ad (wr.heap.size+1) 2) (iV o)).setCell (ad (wr.heap.size+1) 3) (iV dk)).setCell (ad (wr.heap.size+1) 4) (iV 0)).setCell (ad (wr.heap.size+1) 5) (iV 0)).setCell (ad (wr.heap.size+1) 6) (iV ar)).setCell (ad (wr.heap.size+1) 7) (iV sp)).setCell (ad (wr.heap.size+1) 8) (iV pl)).setCell (ad (wr.heap.size+1) 9) (iV nn))):=aC.out _ (((((((((((au.out.setCell (Nat.le_refl _) _).setCell (Nat.le_refl _) _).setCell (Nat.le_refl _) _).setCell (Nat.le_refl _) _).setCell (Nat.le_refl _) _).setCell (Nat.le_refl _) _).setCell (Nat.le_refl _) _).setCell (Nat.le_refl _) _).setCell (Nat.le_refl _) _).setCell (Nat.le_refl _) _))
    have HU:Hid (((((((((((x2.setCell (ad (wr.heap.size+1) 0) (iV sl)).setCell (ad (wr.heap.size+1) 1) (iV sg)).setCell (ad (wr.heap.size+1) 2) (iV o)).setCell (ad (wr.heap.size+1) 3) (iV dk)).setCell (ad (wr.heap.size+1) 4) (iV 0)).setCell (ad (wr.heap.size+1) 5) (iV 0)).setCell (ad (wr.heap.size+1) 6) (iV ar)).setCell (ad (wr.heap.size+1) 7) (iV sp)).setCell (ad (wr.heap.size+1) 8) (iV pl)).setCell (ad (wr.heap.size+1) 9) (iV nn)).heap[wr.heap.size+1]?=some (.cells #[iV sl,iV sg,iV o,iV dk,iV 0,iV 0,iV ar,iV sp,iV pl,iV nn] 37 (0,0))):=zyw ae.out
    have dJ:wr.heap.size<wr.heap.size+1:=Nat.lt_succ_self _
    clear cX ae au
    generalize ((((((((((x2.setCell (ad (wr.heap.size+1) 0) (iV sl)).setCell (ad (wr.heap.size+1) 1) (iV sg)).setCell (ad (wr.heap.size+1) 2) (iV o)).setCell (ad (wr.heap.size+1) 3) (iV dk)).setCell (ad (wr.heap.size+1) 4) (iV 0)).setCell (ad (wr.heap.size+1) 5) (iV 0)).setCell (ad (wr.heap.size+1) 6) (iV ar)).setCell (ad (wr.heap.size+1) 7) (iV sp)).setCell (ad (wr.heap.size+1) 8) (iV pl)).setCell (ad (wr.heap.size+1) 9) (iV nn))=W at *
    generalize hub2:wr.heap.size+1=ub at HU dJ ⊢
    clear hub2
   all_goals
    clear aF aC aG aK
    have cE:ub<W.heap.size:=(Array.getElem?_eq_some_iff.1 HU.out).1
    have bD:Hid (W.heap[x1.heap.size]?=some (.cells #[iV P,iV st,.slice la k lc] 31 (0,0))):=(HW.out.block _ dD).trans cU.out
    have dg:Hid (W.ownsRow (x1.heap.size+1) 37 10 (.slice la k lc) k (Ym ((List.range k).map fun s=>opQ L ⟨p0,p1,p2,q0,q1,q2,r⟩ P T D s 0))):=zA aL.out HW.out
    have bJ:Hid (Bw x1 W):=bI.out.trans (HW.out.mono (Nat.le_of_lt dD))
    have eG:¬x1.heap.size=ub:=by omega
    have dC:¬ub=x1.heap.size:=by omega
    have cg:x1.heap.size<W.heap.size:=by omega
    have aW:=zB aL.out
    obtain⟨o0,o1,o2,o3,o4,o5,o6,o7,o8,o9⟩:=ten (b:=ub) (o:=0) (x:=⟨sl,sg,o,dk,0,0,ar,sp,pl,nn⟩) (w:=W) (fun j hj=>by rw [cell_of_block HU.out,Nat.zero_add];rfl)
    simp only [Nat.zero_add] at o1 o2 o3 o4 o5 o6 o7 o8 o9
    have m0:W.cell? (ad x1.heap.size 0)=sI P:=by rw [cell_of_block bD.out];rfl
    have m1:W.cell? (ad x1.heap.size 1)=sI st:=by rw [cell_of_block bD.out];rfl
    have m2:W.cell? (ad x1.heap.size 2)=some (.slice la k lc):=by rw [cell_of_block bD.out];rfl
    have aX:=zS dg.out
    obtain⟨la9,lc9,eS,ft,eB⟩:=aX
    injection eS with hsh1 hsh2 hsh3
    clear hsh1 hsh2
    subst hsh3
    unfold maxLen at eB
    have eq:Hid ((W.alloc (.cells #[iV sl,iV sg,iV o,iV dk,iV 0,iV 0,iV ar,iV sp,iV pl,iV nn] 37)).heap[x1.heap.size]?=some (.cells #[iV P,iV st,.slice la k lc] 31 (0,0))):=by
     show _=_
     rw [Below.heap_alloc _ _ _ cg]
     exact bD.out
    have er:Hid ((W.alloc (.cells #[iV sl,iV sg,iV o,iV dk,iV 0,iV 0,iV ar,iV sp,iV pl,iV nn] 37)).heap[ub]?=some (.cells #[iV sl,iV sg,iV o,iV dk,iV 0,iV 0,iV ar,iV sp,iV pl,iV nn] 37 (0,0))):=by
     show _=_
     rw [Below.heap_alloc _ _ _ cE]
     exact HU.out
    have ep:Hid (Bw x1 (W.alloc (.cells #[iV sl,iV sg,iV o,iV dk,iV 0,iV 0,iV ar,iV sp,iV pl,iV nn] 37))):=bJ.out.alloc (by omega) _
    have ee:Hid (∀(j:Nat) (u:Value),[iV sl,iV sg,iV o,iV dk,iV 0,iV 0,iV ar,iV sp,iV pl,iV nn][j]?=some u->(W.alloc (.cells #[iV sl,iV sg,iV o,iV dk,iV 0,iV 0,iV ar,iV sp,iV pl,iV nn] 37)).cell? (((ad W.heap.size 0):Addr).add j)=some u):=znh W #[iV sl,iV sg,iV o,iV dk,iV 0,iV 0,iV ar,iV sp,iV pl,iV nn] 37
    have fC:wrap64 (sg+1)=sg+1:=by unfold wrap64;omega
    have fD:IntKind.i64.wrap (sg+1)=sg+1:=xw _ (by omega) (by omega)
    have dU:Hid (∀w1:World,(W.alloc (.cells #[iV sl,iV sg,iV o,iV dk,iV 0,iV 0,iV ar,iV sp,iV pl,iV nn] 37)).grownBy w1 (Value.ownBlock (.slice la k lc))->w1.heap[ub]?=some (.cells #[iV sl,iV sg,iV o,iV dk,iV 0,iV 0,iV ar,iV sp,iV pl,iV nn] 37 (0,0))):=fun w1 hg=>(hg.block ub (by simp;omega) (fun e=>by have:=aW ub e.symm;omega)).trans er.out
    clear aW
    go_wp2_with (at_builtin;refine wpList_append_own _ rfl (.tmp 61) (.tmp 63) 29 rfl (x1.heap.size+1) 37 i0 (.agg #[iV 0,iV 0,iV 0,iV 0,iV 0,iV 0,iV 0,iV 0,iV 0,iV 0]) 10 80 underlying29 hi eZ bG fa rfl (by decide) _ _ _ rfl (zA dg.out (below_alloc1 _ _)) (ad W.heap.size 0) 1 1 [iV sl,iV sg,iV o,iV dk,iV 0,iV 0,iV ar,iV sp,iV pl,iV nn] rfl rfl (by exact ee.out) (by intro u hu;simp at hu;rcases hu with rfl | rfl | rfl | rfl | rfl | rfl | rfl | rfl | rfl | rfl <;> rfl) (by unfold maxLen;omega) (by omega) (by simp;omega) ?_;intro v1 w1 gM gL hnil1;obtain⟨la1,lc1,rfl,-,-⟩:=zS gM;have ed:=z9 gM;have cO:=z9 gL;clear gM gL hnil1;have ay:=z9 (ab.out _ w1 _ _ ep.out eq.out ed.out cO.out);have dV:=z9 (dU.out w1 cO.out);clear m0 m1 m2 o0 o1 o2 o3 o4 o5 o6 o7 o8 o9;have m1:w1.cell? (ad x1.heap.size 1)=sI st:=(by rw [cell_of_block ay.out.2];rfl);have m2:w1.cell? (ad x1.heap.size 2)=some (.slice la k lc):=(by rw [cell_of_block ay.out.2];rfl);have o1:w1.cell? (ad ub 1)=sI sg:=(by rw [cell_of_block dV.out];rfl);have mf:w1.frozen? (ad x1.heap.size 2)=false:=(by simp [World.frozen?,ay.out.2]);have mf1:w1.frozen? (ad x1.heap.size 1)=false:=(by simp [World.frozen?,ay.out.2]))
    go_roundw
    case rel =>
     have eh:(if st<sg+1 then sg+1 else st)=yp P T (k+1):=by
      rw [az.out]
      by_cases h:st<=sg
      ·rw [if_pos h,if_pos (by omega)]
      ·rw [if_neg h,if_neg (by omega)]
     exact⟨k+1,by omega,by go_num,by rw [eh];exact ay.out.1⟩
    case measure=>simp [intOf];omega
  ·have e:k=L.b.length:=by omega
   subst e
   have ce:¬(L.b.length:Int)<(L.b.length:Int):=by omega
   obtain⟨g,lc,aQ,dy,aR,aD,gI⟩:=aB.row (by omega)
   have cS:Hid (EmJ L ⟨p0,p1,p2,q0,q1,q2,r⟩ P T D x1 g lc 0 0 wr):=⟨aB.bel,aQ,gI,dy⟩
   have bP:=z9 (fun wr (h:EmJ L ⟨p0,p1,p2,q0,q1,q2,r⟩ P T D x1 g lc L.b.length 0 wr)=>h.ops aR aD)
   unfold maxLen at aD
   have l1:wr.cell? (ad w.heap.size 1)=some (.slice (some (ad bb bo)) L.b.length gB):=by rw [cell_of_block b0];rfl
   clear aB aQ gI b0 b1 b2 b3 ag dh
   go_wp2_with fail
   clear l1
   go_loopw [77] (fun iv wr=>∃i:Nat,i<=L.b.length/\iv=iV i/\EmJ L ⟨p0,p1,p2,q0,q1,q2,r⟩ P T D x1 g lc i 0 wr) (fun iv _=>L.b.length - (intOf iv).toNat)
   case atStart=>exact⟨0,Nat.zero_le _,rfl,cS.out⟩
   case round =>
    clear cS
    obtain⟨i,fo,rfl,hj⟩:=hrel
    have cI:Below (w.heap.size+1+1+1+1) ((((w.alloc (.cells #[.slice a0 L.l.length gA,.slice (some (ad bb bo)) L.b.length gB,.slice a2 L.o.length gC] 25)).alloc (.cells #[iV p0,iV p1,iV p2,iV q0,iV q1,iV q2,iV r] 28)).alloc (.cells #[iV P,.slice (some (ad tb tz)) L.b.length tc] 49)).alloc (.cells #[iV 0,iV 0,.slice none 0 0] 31)) wr:=bV.out.trans (hj.bel.mono dO)
    obtain⟨b0,b1,b2,b3,fH,ag⟩:=Yo cI
    have fs:=hj.lt
    by_cases ao:i<L.b.length
    ·have dA:(i:Int)<(L.b.length:Int):=by omega
     obtain⟨c0,c1,c2,c3,c4,c5,c6,c7,c8⟩:=V5 (fun j hj=>(zf ag bb (bo+i*9+j) hbb).trans (cM.out i ao j hj))
     have ey:bb<wr.heap.size:=by omega
     have t6:wr.cell? (ad (w.heap.size+1) 6)=sI r:=by rw [cell_of_block b1];rfl
     have m2:wr.cell? (ad x1.heap.size 2)=some (.slice (pA g) L.b.length lc):=by rw [cell_of_block hj.blk];rfl
     have fG:w.heap.size+1<wr.heap.size:=by omega
     obtain⟨xk,cJ⟩:∃xk,zc L.b i=xk:=⟨_,rfl⟩
     rw [cJ] at c0 c1 c2 c3 c4 c5 c6 c7 c8
     obtain⟨o,xa,xb,ya,yb,ar,sp,pl,nn⟩:=xk
     simp only at c0 c1 c2 c3 c4 c5 c6 c7 c8
     have dZ:=z9 (zem p0 p1 p2 q0 q1 q2 r L P T D x1 g lc i o xa xb ya yb ar sp pl nn (wr.alloc (.cells #[iV o,iV xa,iV xb,iV ya,iV yb,iV ar,iV sp,iV pl,iV nn] 41)) bL.out dQ.out cJ ao aR aD (hj.gE (below_alloc1 _ _)))
     clear cJ hj b0 b1 b2 b3 ag cI
     go_wp2_with fail
     refine dZ.out.mono ?_
     rintro e x5 ⟨rfl,dB⟩
     have dX:=z9 dB
     clear dB c0 c1 c2 c3 c4 c5 c6 c7 c8 t6 m2
     go_wp2_with fail
     go_roundw
     case rel=>exact⟨i+1,by omega,by go_num,dX.out⟩
     case measure=>simp [intOf];omega
    ·have e:i=L.b.length:=by omega
     subst e
     have dA:¬(L.b.length:Int)<(L.b.length:Int):=by omega
     have m0:wr.cell? (ad x1.heap.size 0)=sI P:=by rw [cell_of_block hj.blk];rfl
     have m1:wr.cell? (ad x1.heap.size 1)=sI (yp P T L.b.length):=by rw [cell_of_block hj.blk];rfl
     have m2:wr.cell? (ad x1.heap.size 2)=some (.slice (pA g) L.b.length lc):=by rw [cell_of_block hj.blk];rfl
     have k0:wr.cell? (ad ((w.heap.size+1+1+1)) 0)=sI 0:=by rw [cell_of_block b3];rfl
     have k1:wr.cell? (ad ((w.heap.size+1+1+1)) 1)=sI 0:=by rw [cell_of_block b3];rfl
     have k2:wr.cell? (ad ((w.heap.size+1+1+1)) 2)=some (.slice none 0 0):=by rw [cell_of_block b3];rfl
     have f0:wr.frozen? (ad ((w.heap.size+1+1+1)) 0)=false:=by simp [World.frozen?,b3]
     have f1:wr.frozen? (ad ((w.heap.size+1+1+1)) 1)=false:=by simp [World.frozen?,b3]
     have f2:wr.frozen? (ad ((w.heap.size+1+1+1)) 2)=false:=by simp [World.frozen?,b3]
     have HT:=z9 (znj (a':=iV P) (b':=iV (yp P T L.b.length)) (d':=.slice (pA g) L.b.length lc) b3)
     have hO:=bP.out wr hj
     obtain⟨dw,dt⟩:=dR.out
     have HF:Hid (zcb L ⟨p0,p1,p2,q0,q1,q2,r⟩ P T D w (.returned (.tuple #[.agg #[iV P,iV (yp P T L.b.length),.slice (pA g) L.b.length lc],iV 0])) (((wr.setCell (ad ((w.heap.size+1+1+1)) 0) (iV P)).setCell (ad ((w.heap.size+1+1+1)) 1) (iV (yp P T L.b.length))).setCell (ad ((w.heap.size+1+1+1)) 2) (.slice (pA g) L.b.length lc))):=by
      refine⟨((ag.setCell (by show w.heap.size<=(w.heap.size+1+1+1);omega) _).setCell (by show w.heap.size<=(w.heap.size+1+1+1);omega) _).setCell (by show w.heap.size<=(w.heap.size+1+1+1);omega) _,P,yp P T L.b.length,_,by rw [dt],?_⟩
      rw [dw]
      exact⟨_,rfl,zhl (zhl (zhl hO (show (w.heap.size+1+1+1)≠g by omega) 0 _) (show (w.heap.size+1+1+1)≠g by omega) 1 _) (show (w.heap.size+1+1+1)≠g by omega) 2 _⟩
     obtain⟨stn,bq⟩:∃stn,yp P T L.b.length=stn:=⟨_,rfl⟩
     rw [bq] at m1 HT HF
     clear hO b0 b1 b2 b3 hj ag cI dw dt bq
     go_wp2_with fail
     have s0:(((wr.setCell (ad ((w.heap.size+1+1+1)) 0) (iV P)).setCell (ad ((w.heap.size+1+1+1)) 1) (iV stn)).setCell (ad ((w.heap.size+1+1+1)) 2) (.slice (pA g) L.b.length lc)).cell? (ad ((w.heap.size+1+1+1)) 0)=sI P:=by rw [cell_of_block HT.out];rfl
     have s1:(((wr.setCell (ad ((w.heap.size+1+1+1)) 0) (iV P)).setCell (ad ((w.heap.size+1+1+1)) 1) (iV stn)).setCell (ad ((w.heap.size+1+1+1)) 2) (.slice (pA g) L.b.length lc)).cell? (ad ((w.heap.size+1+1+1)) 1)=sI stn:=by rw [cell_of_block HT.out];rfl
     have s2:(((wr.setCell (ad ((w.heap.size+1+1+1)) 0) (iV P)).setCell (ad ((w.heap.size+1+1+1)) 1) (iV stn)).setCell (ad ((w.heap.size+1+1+1)) 2) (.slice (pA g) L.b.length lc)).cell? (ad ((w.heap.size+1+1+1)) 2)=some (.slice (pA g) L.b.length lc):=by rw [cell_of_block HT.out];rfl
     exact bodyPost_ret (v:=.tuple #[.agg #[iV P,iV stn,.slice (pA g) L.b.length lc],iV 0]) (by simp [results,results109,go_sem,s0,s1,s2]) rfl HF.out
end Go.Proofs.YtjoapiafpahihabGreat
