import Derived.Test.YtjoapiafpahihabGreatRef6A
import Derived.Test.YtjoapiafpahihabGreatBase
import Derived.Deep.RegionHeld3
import Derived.BigRegion
import Derived.Deep.QuietTactic
import Derived.BigQuiet
namespace Go.Proofs.YtjoapiafpahihabGreat
open Go.RowKit Go.Joins
set_option linter.unusedVariables false
def bxd (w:World) (v0 v1 v2:Value) (p0 p1 p2 q0 q1 q2 r fr to bk wt:Int):World:=((w.alloc (.cells #[v0,v1,v2] 25)).alloc (.cells #[iV p0,iV p1,iV p2,iV q0,iV q1,iV q2,iV r] 28)).alloc (.cells #[iV fr,iV to,iV bk,iV wt] 100)
theorem U6 (w:World) (v0 v1 v2:Value) (p0 p1 p2 q0 q1 q2 r fr to bk wt:Int):(bxd w v0 v1 v2 p0 p1 p2 q0 q1 q2 r fr to bk wt).heap.size=w.heap.size+1+1+1:=by unfold bxd;simp
theorem za3 (w:World) (v0 v1 v2:Value) (p0 p1 p2 q0 q1 q2 r fr to bk wt:Int):Below w.heap.size w (bxd w v0 v1 v2 p0 p1 p2 q0 q1 q2 r fr to bk wt):=below_alloc3 _ _ _ _
theorem yN {w wr:World} {v0 v1 v2:Value} {p0 p1 p2 q0 q1 q2 r fr to bk wt:Int} (h:Below (bxd w v0 v1 v2 p0 p1 p2 q0 q1 q2 r fr to bk wt).heap.size (bxd w v0 v1 v2 p0 p1 p2 q0 q1 q2 r fr to bk wt) wr) :
  (wr.cell? ⟨w.heap.size,0,none⟩=some v0/\wr.cell? ⟨w.heap.size,1,none⟩=some v1/\wr.cell? ⟨w.heap.size,2,none⟩=some v2) /\
  (wr.cell? ⟨w.heap.size+1,0,none⟩=some (iV p0)/\wr.cell? ⟨w.heap.size+1,1,none⟩=some (iV p1)/\wr.cell? ⟨w.heap.size+1,2,none⟩=some (iV p2)/\wr.cell? ⟨w.heap.size+1,3,none⟩=some (iV q0)/\wr.cell? ⟨w.heap.size+1,4,none⟩=some (iV q1)/\wr.cell? ⟨w.heap.size+1,5,none⟩=some (iV q2)/\wr.cell? ⟨w.heap.size+1,6,none⟩=some (iV r)) /\
  (wr.cell? ⟨w.heap.size+1+1,0,none⟩=some (iV fr)/\wr.cell? ⟨w.heap.size+1+1,1,none⟩=some (iV to)/\wr.cell? ⟨w.heap.size+1+1,2,none⟩=some (iV bk)/\wr.cell? ⟨w.heap.size+1+1,3,none⟩=some (iV wt)) /\
  w.heap.size<wr.heap.size/\w.heap.size+1<wr.heap.size/\w.heap.size+1+1<wr.heap.size/\Below w.heap.size w wr:=by
 have hz:=h.size
 have hs:=U6 w v0 v1 v2 p0 p1 p2 q0 q1 q2 r fr to bk wt
 refine⟨⟨?_,?_,?_⟩,⟨?_,?_,?_,?_,?_,?_,?_⟩,⟨?_,?_,?_,?_⟩,by omega,by omega,by omega,(za3 w v0 v1 v2 p0 p1 p2 q0 q1 q2 r fr to bk wt).trans (h.mono (by omega))⟩
 all_goals rw [zc h _ _ (by omega)]
 all_goals (unfold bxd;go_simp)
theorem Zd {m n k:Int} {s:St} (h:yd m n k s=true) (hw:yA s=true):(0<=s.ar/\s.ar<m)/\(-64<=s.sp/\s.sp<=64)/\(-64<=s.pl/\s.pl<=64):=by
 have key:yy m s.ar s.sp s.pl=true->(0<=s.ar/\s.ar<m)/\(-64<=s.sp/\s.sp<=64)/\(-64<=s.pl/\s.pl<=64):=fun h=>by
  unfold yy at h
  simp only [Bool.and_eq_true] at h
  have h1:=zo.1 h.1.1
  have h2:=zo.1 h.1.2
  have h3:=zo.1 h.2
  exact⟨by omega,h2,h3⟩
 have ho:s.o=3\/s.o=4:=by unfold yA at hw;simpa using hw
 unfold yd at h
 rcases ho with ho | ho
 ·rw [if_neg (by omega),if_neg (by omega),if_pos ho] at h
  simp only [Bool.and_eq_true] at h
  exact key h.2
 ·rw [if_neg (by omega),if_neg (by omega),if_neg (by omega),if_pos ho] at h
  simp only [Bool.and_eq_true] at h
  exact key h.1.2
theorem ZD {a b:St} (h:zU a b=true):yA a=true/\yA b=true:=by
 unfold zU at h
 simp only [Bool.and_eq_true] at h
 exact⟨h.1.1.1,h.1.1.2⟩
theorem UA {L:Lp} {s:St} (hl:Z5 L.logs=true) (h1:0<=s.ar) (h2:s.ar<L.logs.length):∃i lg:Nat,s.ar=i/\i<L.logs.length/\nth L.logs i=(lg:Int)/\lg<=5/\p2 lg=(yS L s:Int)/\0<yS L s/\yS L s<=32:=by
 obtain⟨i,hi⟩:=Int.eq_ofNat_of_zero_le h1
 have hiL:i<L.logs.length:=by omega
 have h3:=zo.1 (zl hl i hiL)
 obtain⟨lg,hlg⟩:=Int.eq_ofNat_of_zero_le h3.1
 have e:yS L s=2 ^ lg:=by unfold yS;rw [hi,Int.toNat_natCast,hlg,Int.toNat_natCast]
 refine⟨i,lg,hi,hiL,hlg,by omega,?_,?_,?_⟩
 ·rw [e];unfold p2;simp
 ·rw [e];exact Nat.pow_pos (by decide)
 ·rw [e];exact Nat.le_trans (Nat.pow_le_pow_right (by decide) (show lg<=5 by omega)) (by decide)
theorem VM (p:Nat->Bool) (lo:Nat):zh (fun i=>decide (i<lo) || p i) lo=true:=zN fun k hk=>by rw [decide_eq_true hk];rfl
theorem xj {wr y:World} {o1 xa1 xb1 ya1 yb1 ar1 sp1 pl1 nn1 o2 xa2 xb2 ya2 yb2 ar2 sp2 pl2 nn2:Int} {ta tb:TypeId} (h:Below ((wr.alloc (.cells #[iV o1,iV xa1,iV xb1,iV ya1,iV yb1,iV ar1,iV sp1,iV pl1,iV nn1] ta)).alloc (.cells #[iV o2,iV xa2,iV xb2,iV ya2,iV yb2,iV ar2,iV sp2,iV pl2,iV nn2] tb)).heap.size ((wr.alloc (.cells #[iV o1,iV xa1,iV xb1,iV ya1,iV yb1,iV ar1,iV sp1,iV pl1,iV nn1] ta)).alloc (.cells #[iV o2,iV xa2,iV xb2,iV ya2,iV yb2,iV ar2,iV sp2,iV pl2,iV nn2] tb)) y) :
  (y.cell? ⟨wr.heap.size,0,none⟩=some (iV o1)/\y.cell? ⟨wr.heap.size,1,none⟩=some (iV xa1)/\y.cell? ⟨wr.heap.size,2,none⟩=some (iV xb1)/\y.cell? ⟨wr.heap.size,3,none⟩=some (iV ya1)/\y.cell? ⟨wr.heap.size,4,none⟩=some (iV yb1)/\y.cell? ⟨wr.heap.size,5,none⟩=some (iV ar1)/\y.cell? ⟨wr.heap.size,6,none⟩=some (iV sp1)/\y.cell? ⟨wr.heap.size,7,none⟩=some (iV pl1)/\y.cell? ⟨wr.heap.size,8,none⟩=some (iV nn1)) /\
  (y.cell? ⟨wr.heap.size+1,0,none⟩=some (iV o2)/\y.cell? ⟨wr.heap.size+1,1,none⟩=some (iV xa2)/\y.cell? ⟨wr.heap.size+1,2,none⟩=some (iV xb2)/\y.cell? ⟨wr.heap.size+1,3,none⟩=some (iV ya2)/\y.cell? ⟨wr.heap.size+1,4,none⟩=some (iV yb2)/\y.cell? ⟨wr.heap.size+1,5,none⟩=some (iV ar2)/\y.cell? ⟨wr.heap.size+1,6,none⟩=some (iV sp2)/\y.cell? ⟨wr.heap.size+1,7,none⟩=some (iV pl2)/\y.cell? ⟨wr.heap.size+1,8,none⟩=some (iV nn2))/\wr.heap.size<y.heap.size/\wr.heap.size+1<y.heap.size/\Below wr.heap.size wr y:=by
 have hz:=h.size
 have hs:((wr.alloc (.cells #[iV o1,iV xa1,iV xb1,iV ya1,iV yb1,iV ar1,iV sp1,iV pl1,iV nn1] ta)).alloc (.cells #[iV o2,iV xa2,iV xb2,iV ya2,iV yb2,iV ar2,iV sp2,iV pl2,iV nn2] tb)).heap.size=wr.heap.size+1+1:=by simp
 refine⟨⟨?_,?_,?_,?_,?_,?_,?_,?_,?_⟩,⟨?_,?_,?_,?_,?_,?_,?_,?_,?_⟩,by omega,by omega,(below_alloc2 wr _ _).trans (h.mono (by omega))⟩
 all_goals rw [zc h _ _ (by omega)]
 all_goals go_simp
set_option maxHeartbeats 40000000 in
set_option maxRecDepth 100000 in
theorem zow (p0 p1 p2 q0 q1 q2 r:Int) (fr to bk wt:Nat) (L:Lp) (a0:Option Addr) (cap0 b off cap:Nat) (v2:Value) (w:World) (hl0:L.logs.length<=cap0) (hm0:cap0<=9223372036854775807) (hl1:L.body.length<=cap) (hm1:cap<=9223372036854775807) (hb:b<w.heap.size)
  (hbody:∀i,i<L.body.length->∀j,j<9->w.cell? ⟨b,off+i*9+j,none⟩=(zJ (z6 L.body i))[j]?) (hlogs:yf w (.slice a0 L.logs.length cap0) L.logs) (hm:zx L=true) (hfr:fr<L.body.length) (hto:to<L.body.length) (hbk:bk<=32) (hwt:wt<=6) :
  Calls Tryz.prog 100 #[.agg #[.slice a0 L.logs.length cap0,.slice (some ⟨b,off,none⟩) L.body.length cap,v2],.agg #[iV p0,iV p1,iV p2,iV q0,iV q1,iV q2,iV r],.agg #[iV fr,iV to,iV bk,iV wt]] w fun e w'=>e=.returned (.bool (isD L ⟨p0,p1,p2,q0,q1,q2,r⟩ fr to bk wt))/\Below w.heap.size w w':=by
 have HBODY:=z5 hbody
 have HLOGS:=z5 hlogs
 have HM:=z5 hm
 obtain⟨WQ,hWQ⟩:∃WQ,decide ((wt:Int)=zr ⟨p0,p1,p2,q0,q1,q2,r⟩ (z6 L.body fr).o)=WQ:=⟨_,rfl⟩
 have HWQ:=z5 hWQ
 obtain⟨LK,hLK⟩:∃LK,Vy (z6 L.body to) fr bk=LK:=⟨_,rfl⟩
 obtain⟨c0,c1,c2,c3,c4,c5,c6,c7,c8⟩:=Zj (HBODY.out to hto)
 have HB0:Hid (Below (bxd w (.slice a0 L.logs.length cap0) (.slice (some ⟨b,off,none⟩) L.body.length cap) v2 p0 p1 p2 q0 q1 q2 r fr to bk wt).heap.size (bxd w (.slice a0 L.logs.length cap0) (.slice (some ⟨b,off,none⟩) L.body.length cap) v2 p0 p1 p2 q0 q1 q2 r fr to bk wt) (bxd w (.slice a0 L.logs.length cap0) (.slice (some ⟨b,off,none⟩) L.body.length cap) v2 p0 p1 p2 q0 q1 q2 r fr to bk wt)):=Below.refl _ _
 have hb1:b<w.heap.size+1:=by omega
 have hb2:b<w.heap.size+1+1:=by omega
 have hft:(fr:Int)<(L.body.length:Int):=by omega
 have htt:(to:Int)<(L.body.length:Int):=by omega
 have hbz:b<(bxd w (.slice a0 L.logs.length cap0) (.slice (some ⟨b,off,none⟩) L.body.length cap) v2 p0 p1 p2 q0 q1 q2 r fr to bk wt).heap.size:=by rw [U6];omega
 clear hWQ hLK hbody hlogs hm
 go_enter Tryz.func100,Tryz.ntmps100
 go_wp2_with fail
 refine (UI (z6 L.body to) _).mono ?_
 rintro e x1 ⟨uv,rfl,hU,hb⟩
 have HBx1:Hid (Below (bxd w (.slice a0 L.logs.length cap0) (.slice (some ⟨b,off,none⟩) L.body.length cap) v2 p0 p1 p2 q0 q1 q2 r fr to bk wt).heap.size (bxd w (.slice a0 L.logs.length cap0) (.slice (some ⟨b,off,none⟩) L.body.length cap) v2 p0 p1 p2 q0 q1 q2 r fr to bk wt) x1):=hb
 obtain⟨ua,uc,rfl,hu1,hu2,hu3⟩:=hU
 have HU:=z5 hu3
 have HLKD:Hid (Vy (z6 L.body to) fr bk=exN (xI (za (z6 L.body to)) fr bk) (za (z6 L.body to)).length):=rfl
 unfold maxLen at hu2
 generalize za (z6 L.body to)=us at *
 clear hb hu3 c0 c1 c2 c3 c4 c5 c6 c7 c8 hbz
 go_wp2_with fail
 go_loopw [8] (fun i wr=>∃k:Nat,k<=us.length/\i=iV k/\(exN (xI us fr bk) k && WQ)=false/\Below x1.heap.size x1 wr) (fun i _=>us.length - (intOf i).toNat)
 case atStart=>exact⟨0,Nat.zero_le _,rfl,rfl,Below.refl _ _⟩
 case round =>
  obtain⟨k,hk,rfl,hex,hbel⟩:=hrel
  have HEX:=z5 hex
  have HBr:=z5 (HBx1.out.trans (hbel.mono HBx1.out.size))
  have hzx:=hbel.size
  obtain⟨⟨l0,l1,l2⟩,⟨t0,t1,t2,t3,t4,t5,t6⟩,⟨g0,g1,g2,g3⟩,z0,z1,z2,hbw⟩:=yN HBr.out
  have hbz:b<wr.heap.size:=by have:=hbw.size;omega
  clear hex
  by_cases hlt:k<us.length
  ·have hki:(k:Int)<(us.length:Int):=by omega
   obtain⟨ub,uo,rfl,hub,huc⟩:=HU.out (by omega)
   obtain⟨uc0,uc1⟩:=huc k hlt
   rw [<-zc hbel _ _ hub] at uc0 uc1
   have huz:ub<wr.heap.size:=by omega
   have HLA:Hid (xI us fr bk k=(decide ((zi us k).1=fr) && decide ((zi us k).2=bk))):=rfl
   generalize zi us k=rk at *
   obtain⟨xr,yr⟩:=rk
   dsimp only at uc0 uc1 HLA
   have HBE:=z5 hbel
   have HBW:=z5 hbw
   clear hbel hbw huc
   by_cases hx:xr=(fr:Int)
   ·have hxb:(xr == (fr:Int))=true:=by simpa using hx
    by_cases hy:yr=(bk:Int)
    ·have hyb:(yr == (bk:Int))=true:=by simpa using hy
     have hoo:=(Zj (HBODY.out fr hfr)).1
     rw [<-zc HBW.out _ _ hb] at hoo
     have HWT:Hid (∀W,Calls Tryz.prog 33 #[.agg #[iV p0,iV p1,iV p2,iV q0,iV q1,iV q2,iV r],iV (z6 L.body fr).o] W fun e w'=>e=.returned (iV (zr ⟨p0,p1,p2,q0,q1,q2,r⟩ (z6 L.body fr).o))/\Below W.heap.size W w'):=fun W=>YU p0 p1 p2 q0 q1 q2 r (z6 L.body fr).o W
     have HQQ:=HWQ
     generalize zr ⟨p0,p1,p2,q0,q1,q2,r⟩ (z6 L.body fr).o=wv at HQQ HWT
     generalize (z6 L.body fr).o=oo at hoo HWT
     have HLT:Hid (xI us fr bk k=true):=by show xI us fr bk k=true;rw [HLA.out,decide_eq_true hx,decide_eq_true hy];rfl
     have HS5:Hid (wr.cell? ⟨ub,uo+k*2,none⟩=some (iV xr)/\wr.cell? ⟨ub,uo+k*2+1,none⟩=some (iV yr)/\wr.cell? ⟨w.heap.size+1+1,0,none⟩=some (iV (fr:Int))/\wr.cell? ⟨w.heap.size+1+1,2,none⟩=some (iV (bk:Int))/\wr.cell? ⟨w.heap.size+1+1,3,none⟩=some (iV (wt:Int))/\wr.cell? ⟨w.heap.size+1,0,none⟩=some (iV p0)/\wr.cell? ⟨w.heap.size+1,1,none⟩=some (iV p1)/\wr.cell? ⟨w.heap.size+1,2,none⟩=some (iV p2)/\wr.cell? ⟨w.heap.size+1,3,none⟩=some (iV q0)/\wr.cell? ⟨w.heap.size+1,4,none⟩=some (iV q1)/\wr.cell? ⟨w.heap.size+1,5,none⟩=some (iV q2)/\wr.cell? ⟨w.heap.size+1,6,none⟩=some (iV r)/\wr.cell? ⟨w.heap.size,1,none⟩=some (.slice (some ⟨b,off,none⟩) L.body.length cap)/\wr.cell? ⟨b,off+fr*9,none⟩=some (iV oo)):=⟨uc0,uc1,g0,g2,g3,t0,t1,t2,t3,t4,t5,t6,l1,hoo⟩
     have HXX:=z5 hx
     have HYY:=z5 hy
     clear hx hy uc0 uc1 hoo
     cases WQ with
     | false =>
       have hwb:((wt:Int) == wv)=false:=by have h:=HQQ.out;simpa using h
       go_wp2_with fail
       clear l0 l1 l2 t0 t1 t2 t3 t4 t5 t6 g0 g1 g2 g3 z0 z1 z2
       refine wp_region_noPanic ?_
       refine ze 99 (fun w'=>w'.cell? ⟨ub,uo+k*2,none⟩=some (iV xr)/\w'.cell? ⟨ub,uo+k*2+1,none⟩=some (iV yr)/\w'.cell? ⟨w.heap.size+1+1,0,none⟩=some (iV (fr:Int))/\w'.cell? ⟨w.heap.size+1+1,2,none⟩=some (iV (bk:Int))/\w'.cell? ⟨w.heap.size+1+1,3,none⟩=some (iV (wt:Int))/\w'.cell? ⟨w.heap.size+1,0,none⟩=some (iV p0)/\w'.cell? ⟨w.heap.size+1,1,none⟩=some (iV p1)/\w'.cell? ⟨w.heap.size+1,2,none⟩=some (iV p2)/\w'.cell? ⟨w.heap.size+1,3,none⟩=some (iV q0)/\w'.cell? ⟨w.heap.size+1,4,none⟩=some (iV q1)/\w'.cell? ⟨w.heap.size+1,5,none⟩=some (iV q2)/\w'.cell? ⟨w.heap.size+1,6,none⟩=some (iV r)/\w'.cell? ⟨w.heap.size,1,none⟩=some (.slice (some ⟨b,off,none⟩) L.body.length cap)/\w'.cell? ⟨b,off+fr*9,none⟩=some (iV oo)) (by kernel_rfl) HS5.out (fun hHeld=>?_)
       refine utk (i:=0) rfl hHeld ?_
       refine utk (i:=1) rfl hHeld ?_
       refine utk (i:=2) rfl hHeld ?_
       refine utk (i:=3) rfl hHeld ?_
       refine utk (i:=4) rfl hHeld ?_
       refine utk (i:=5) rfl hHeld ?_
       refine utk (i:=6) rfl hHeld ?_
       refine utk (i:=7) rfl hHeld ?_
       refine utk (i:=8) rfl hHeld ?_
       refine utk (i:=9) rfl hHeld ?_
       refine utk (i:=10) rfl hHeld ?_
       refine utk (i:=11) rfl hHeld ?_
       refine utk (i:=12) rfl hHeld ?_
       refine utk (i:=13) rfl hHeld ?_
       refine utk (i:=14) rfl hHeld ?_
       refine utk (i:=15) rfl hHeld ?_
       refine utk (i:=16) rfl hHeld ?_
       refine utk (i:=17) rfl hHeld ?_
       refine utk (i:=18) rfl hHeld ?_
       refine utk (i:=19) rfl hHeld ?_
       refine utk (i:=20) rfl hHeld ?_
       refine utk (i:=21) rfl hHeld ?_
       refine utk (i:=22) rfl hHeld ?_
       refine utk (i:=23) rfl hHeld ?_
       refine utk (i:=24) rfl hHeld ?_
       refine utk (i:=25) rfl hHeld ?_
       refine utk (i:=26) rfl hHeld ?_
       refine utk (i:=27) rfl hHeld ?_
       refine utk (i:=28) rfl hHeld ?_
       refine z9 (i:=29) rfl (by kernel_rfl) (fun K hK9=>?_)
       go_simp
       refine (HWT.out _).mono ?_
       rintro e x2 ⟨rfl,hb9⟩
       have HB9:Hid (Below x1.heap.size x1 x2):=(HBE.out.trans (below_draws _ _ 1)).trans (hb9.mono (by simpa using hzx))
       have hc9:=zc hb9
       have hHeld:x2.cell? ⟨ub,uo+k*2,none⟩=some (iV xr)/\x2.cell? ⟨ub,uo+k*2+1,none⟩=some (iV yr)/\x2.cell? ⟨w.heap.size+1+1,0,none⟩=some (iV (fr:Int))/\x2.cell? ⟨w.heap.size+1+1,2,none⟩=some (iV (bk:Int))/\x2.cell? ⟨w.heap.size+1+1,3,none⟩=some (iV (wt:Int))/\x2.cell? ⟨w.heap.size+1,0,none⟩=some (iV p0)/\x2.cell? ⟨w.heap.size+1,1,none⟩=some (iV p1)/\x2.cell? ⟨w.heap.size+1,2,none⟩=some (iV p2)/\x2.cell? ⟨w.heap.size+1,3,none⟩=some (iV q0)/\x2.cell? ⟨w.heap.size+1,4,none⟩=some (iV q1)/\x2.cell? ⟨w.heap.size+1,5,none⟩=some (iV q2)/\x2.cell? ⟨w.heap.size+1,6,none⟩=some (iV r)/\x2.cell? ⟨w.heap.size,1,none⟩=some (.slice (some ⟨b,off,none⟩) L.body.length cap)/\x2.cell? ⟨b,off+fr*9,none⟩=some (iV oo):=by
        have h:=HS5.out
        have hz:∀g o,g<wr.heap.size->x2.cell? ⟨g,o,none⟩=wr.cell? ⟨g,o,none⟩:=fun g o hg=>hc9 g o (by simpa using hg)
        obtain⟨⟨l0,l1,l2⟩,⟨t0,t1,t2,t3,t4,t5,t6⟩,⟨g0,g1,g2,g3⟩,z0,z1,z2,-⟩:=yN HBr.out
        rw [hz _ _ huz,hz _ _ huz,hz _ _ z2,hz _ _ z2,hz _ _ z2,hz _ _ z1,hz _ _ z1,hz _ _ z1,hz _ _ z1,hz _ _ z1,hz _ _ z1,hz _ _ z1,hz _ _ z0,hz _ _ hbz]
        exact h
       refine nxt hK9.out (.inr hHeld) ?_
       clear hK9 K hb9 hc9
       refine utk (i:=30) rfl hHeld ?_
       refine utk (i:=31) rfl hHeld ?_
       refine zf (by kernel_rfl) ?_ _
       refine NoPanic.normal ?_
       clear hHeld
       go_wp2_with fail
       go_roundw
       case rel=>exact⟨k+1,by omega,by go_num,by simp,HB9.out⟩
       case measure=>simp [intOf];omega
     | true =>
       have hwb:((wt:Int) == wv)=true:=by have h:=HQQ.out;simpa using h
       go_wp2_with fail
       clear l0 l1 l2 t0 t1 t2 t3 t4 t5 t6 g0 g1 g2 g3 z0 z1 z2
       refine wp_region_noPanic ?_
       refine ze 99 (fun w'=>w'.cell? ⟨ub,uo+k*2,none⟩=some (iV xr)/\w'.cell? ⟨ub,uo+k*2+1,none⟩=some (iV yr)/\w'.cell? ⟨w.heap.size+1+1,0,none⟩=some (iV (fr:Int))/\w'.cell? ⟨w.heap.size+1+1,2,none⟩=some (iV (bk:Int))/\w'.cell? ⟨w.heap.size+1+1,3,none⟩=some (iV (wt:Int))/\w'.cell? ⟨w.heap.size+1,0,none⟩=some (iV p0)/\w'.cell? ⟨w.heap.size+1,1,none⟩=some (iV p1)/\w'.cell? ⟨w.heap.size+1,2,none⟩=some (iV p2)/\w'.cell? ⟨w.heap.size+1,3,none⟩=some (iV q0)/\w'.cell? ⟨w.heap.size+1,4,none⟩=some (iV q1)/\w'.cell? ⟨w.heap.size+1,5,none⟩=some (iV q2)/\w'.cell? ⟨w.heap.size+1,6,none⟩=some (iV r)/\w'.cell? ⟨w.heap.size,1,none⟩=some (.slice (some ⟨b,off,none⟩) L.body.length cap)/\w'.cell? ⟨b,off+fr*9,none⟩=some (iV oo)) (by kernel_rfl) HS5.out (fun hHeld=>?_)
       refine utk (i:=0) rfl hHeld ?_
       refine utk (i:=1) rfl hHeld ?_
       refine utk (i:=2) rfl hHeld ?_
       refine utk (i:=3) rfl hHeld ?_
       refine utk (i:=4) rfl hHeld ?_
       refine utk (i:=5) rfl hHeld ?_
       refine utk (i:=6) rfl hHeld ?_
       refine utk (i:=7) rfl hHeld ?_
       refine utk (i:=8) rfl hHeld ?_
       refine utk (i:=9) rfl hHeld ?_
       refine utk (i:=10) rfl hHeld ?_
       refine utk (i:=11) rfl hHeld ?_
       refine utk (i:=12) rfl hHeld ?_
       refine utk (i:=13) rfl hHeld ?_
       refine utk (i:=14) rfl hHeld ?_
       refine utk (i:=15) rfl hHeld ?_
       refine utk (i:=16) rfl hHeld ?_
       refine utk (i:=17) rfl hHeld ?_
       refine utk (i:=18) rfl hHeld ?_
       refine utk (i:=19) rfl hHeld ?_
       refine utk (i:=20) rfl hHeld ?_
       refine utk (i:=21) rfl hHeld ?_
       refine utk (i:=22) rfl hHeld ?_
       refine utk (i:=23) rfl hHeld ?_
       refine utk (i:=24) rfl hHeld ?_
       refine utk (i:=25) rfl hHeld ?_
       refine utk (i:=26) rfl hHeld ?_
       refine utk (i:=27) rfl hHeld ?_
       refine utk (i:=28) rfl hHeld ?_
       refine z9 (i:=29) rfl (by kernel_rfl) (fun K hK9=>?_)
       go_simp
       refine (HWT.out _).mono ?_
       rintro e x2 ⟨rfl,hb9⟩
       have HB9:Hid (Below x1.heap.size x1 x2):=(HBE.out.trans (below_draws _ _ 1)).trans (hb9.mono (by simpa using hzx))
       have hc9:=zc hb9
       have hHeld:x2.cell? ⟨ub,uo+k*2,none⟩=some (iV xr)/\x2.cell? ⟨ub,uo+k*2+1,none⟩=some (iV yr)/\x2.cell? ⟨w.heap.size+1+1,0,none⟩=some (iV (fr:Int))/\x2.cell? ⟨w.heap.size+1+1,2,none⟩=some (iV (bk:Int))/\x2.cell? ⟨w.heap.size+1+1,3,none⟩=some (iV (wt:Int))/\x2.cell? ⟨w.heap.size+1,0,none⟩=some (iV p0)/\x2.cell? ⟨w.heap.size+1,1,none⟩=some (iV p1)/\x2.cell? ⟨w.heap.size+1,2,none⟩=some (iV p2)/\x2.cell? ⟨w.heap.size+1,3,none⟩=some (iV q0)/\x2.cell? ⟨w.heap.size+1,4,none⟩=some (iV q1)/\x2.cell? ⟨w.heap.size+1,5,none⟩=some (iV q2)/\x2.cell? ⟨w.heap.size+1,6,none⟩=some (iV r)/\x2.cell? ⟨w.heap.size,1,none⟩=some (.slice (some ⟨b,off,none⟩) L.body.length cap)/\x2.cell? ⟨b,off+fr*9,none⟩=some (iV oo):=by
        have h:=HS5.out
        have hz:∀g o,g<wr.heap.size->x2.cell? ⟨g,o,none⟩=wr.cell? ⟨g,o,none⟩:=fun g o hg=>hc9 g o (by simpa using hg)
        obtain⟨⟨l0,l1,l2⟩,⟨t0,t1,t2,t3,t4,t5,t6⟩,⟨g0,g1,g2,g3⟩,z0,z1,z2,-⟩:=yN HBr.out
        rw [hz _ _ huz,hz _ _ huz,hz _ _ z2,hz _ _ z2,hz _ _ z2,hz _ _ z1,hz _ _ z1,hz _ _ z1,hz _ _ z1,hz _ _ z1,hz _ _ z1,hz _ _ z1,hz _ _ z0,hz _ _ hbz]
        exact h
       refine nxt hK9.out (.inr hHeld) ?_
       clear hK9 K hb9 hc9
       refine utk (i:=30) rfl hHeld ?_
       refine utk (i:=31) rfl hHeld ?_
       refine zf (by kernel_rfl) ?_ _
       refine NoPanic.normal ?_
       clear hHeld
       go_wp2_with fail
       have HT:Hid (isD L ⟨p0,p1,p2,q0,q1,q2,r⟩ fr to bk wt=true):=by
        show isD L ⟨p0,p1,p2,q0,q1,q2,r⟩ fr to bk wt=true
        unfold isD
        rw [HLKD.out,yR hlt HLT.out,HWQ.out];rfl
       go_ret
       exact⟨z7 HT.out.symm,(za3 w (.slice a0 L.logs.length cap0) (.slice (some ⟨b,off,none⟩) L.body.length cap) v2 p0 p1 p2 q0 q1 q2 r fr to bk wt).trans ((HBx1.out.trans (HB9.out.mono HBx1.out.size)).mono (by rw [U6];omega))⟩
    ·have hyb:(yr == (bk:Int))=false:=by simpa using hy
     have HST:Hid ((exN (xI us fr bk) (k+1) && WQ)=false):=by
      show ((exN (xI us fr bk) k || xI us fr bk k) && WQ)=false
      rw [HLA.out,decide_eq_false hy,Bool.and_false,Bool.or_false];exact HEX.out
     have HXX:=z5 hx
     clear hy hx
     go_wp2_with fail
     go_big_quiet ((fail))
     go_wp2_with fail
     go_roundw
     case rel=>exact⟨k+1,by omega,by go_num,HST.out,HBE.out.trans (below_draws _ _ _)⟩
     case measure=>simp [intOf];omega
   ·have hxb:(xr == (fr:Int))=false:=by simpa using hx
    have HST:Hid ((exN (xI us fr bk) (k+1) && WQ)=false):=by
     show ((exN (xI us fr bk) k || xI us fr bk k) && WQ)=false
     rw [HLA.out,decide_eq_false hx,Bool.false_and,Bool.or_false];exact HEX.out
    clear hx
    go_wp2_with fail
    go_big_quiet ((fail))
    go_wp2_with fail
    go_roundw
    case rel=>exact⟨k+1,by omega,by go_num,HST.out,HBE.out.trans (below_draws _ _ _)⟩
    case measure=>simp [intOf];omega
  ·have e:k=us.length:=by omega
   have hki:¬(k:Int)<(us.length:Int):=by omega
   rename World=>wo
   have HIS:Hid (isD L ⟨p0,p1,p2,q0,q1,q2,r⟩ fr to bk wt=(zU (z6 L.body fr) (z6 L.body to) && decide ((wt:Int)=xm (z6 L.body fr)) && zW (z6 L.body fr) (z6 L.body to) (yh fr to) bk (yS L (z6 L.body fr)))):=by
    have h:=HEX.out
    rw [e,<-HLKD.out] at h
    show isD _ _ _ _ _ _=_
    unfold isD
    rw [HWQ.out,h,Bool.false_or]
   obtain⟨m1,m2,m3,m4,m5,m6,m7⟩:=zj HM.out
   have HS1:=z5 (zl m7 fr hfr)
   have HS2:=z5 (zl m7 to hto)
   have HLO:=z5 m5
   obtain⟨c0,c1,c2,c3,c4,c5,c6,c7,c8⟩:=Zj (HBODY.out fr hfr)
   obtain⟨k0,k1,k2,k3,k4,k5,k6,k7,k8⟩:=Zj (HBODY.out to hto)
   rw [<-zc hbw _ _ hb] at c0 c1 c2 c3 c4 c5 c6 c7 c8 k0 k1 k2 k3 k4 k5 k6 k7 k8
   have HLV:=z5 (HLOGS.out.below hbw)
   clear HBODY HLKD HWQ HEX
   generalize z6 L.body fr=sa at *
   generalize z6 L.body to=sb at *
   obtain⟨o1,xa1,xb1,ya1,yb1,ar1,sp1,pl1,nn1⟩:=sa
   obtain⟨o2,xa2,xb2,ya2,yb2,ar2,sp2,pl2,nn2⟩:=sb
   dsimp only at c0 c1 c2 c3 c4 c5 c6 c7 c8 k0 k1 k2 k3 k4 k5 k6 k7 k8
   obtain⟨mb,hmb⟩:∃mb,zU ⟨o1,xa1,xb1,ya1,yb1,ar1,sp1,pl1,nn1⟩ ⟨o2,xa2,xb2,ya2,yb2,ar2,sp2,pl2,nn2⟩=mb:=⟨_,rfl⟩
   have HMEM:Hid (∀W,Calls Tryz.prog 141 #[.agg #[iV o1,iV xa1,iV xb1,iV ya1,iV yb1,iV ar1,iV sp1,iV pl1,iV nn1],.agg #[iV o2,iV xa2,iV xb2,iV ya2,iV yb2,iV ar2,iV sp2,iV pl2,iV nn2]] W fun e w'=>e=.returned (.bool mb)/\Below W.heap.size W w'):=fun W=>hmb ▸ zfs ⟨o1,xa1,xb1,ya1,yb1,ar1,sp1,pl1,nn1⟩ ⟨o2,xa2,xb2,ya2,yb2,ar2,sp2,pl2,nn2⟩ W
   have HMB:=z5 hmb
   clear hmb m1 m2 m3 m4 m5 m6 m7 hbel hbw
   by_cases ho4:o1=4
   ·subst ho4
    have HWD:Hid (xm ⟨4,xa1,xb1,ya1,yb1,ar1,sp1,pl1,nn1⟩=1):=rfl
    go_wp2_with fail
    refine (HMEM.out _).mono ?_
    rintro e x2 ⟨rfl,hb2⟩
    have HB2:Hid (Below ((wo.alloc (.cells #[iV 4,iV xa1,iV xb1,iV ya1,iV yb1,iV ar1,iV sp1,iV pl1,iV nn1] 41)).alloc (.cells #[iV o2,iV xa2,iV xb2,iV ya2,iV yb2,iV ar2,iV sp2,iV pl2,iV nn2] 41)).heap.size ((wo.alloc (.cells #[iV 4,iV xa1,iV xb1,iV ya1,iV yb1,iV ar1,iV sp1,iV pl1,iV nn1] 41)).alloc (.cells #[iV o2,iV xa2,iV xb2,iV ya2,iV yb2,iV ar2,iV sp2,iV pl2,iV nn2] 41)) x2):=hb2
    clear l0 l1 l2 t0 t1 t2 t3 t4 t5 t6 g0 g1 g2 g3 z0 z1 z2
    obtain⟨⟨d0,d1,d2,d3,d4,d5,d6,d7,d8⟩,⟨f0,f1,f2,f3,f4,f5,f6,f7,f8⟩,y0,y1,hby⟩:=xj HB2.out
    obtain⟨⟨l0,l1,l2⟩,⟨t0,t1,t2,t3,t4,t5,t6⟩,⟨g0,g1,g2,g3⟩,z0,z1,z2,hbw⟩:=yN (HBr.out.trans (hby.mono HBr.out.size))
    have HWx2:=z5 hbw
    have HLx2:=z5 (HLV.out.below hby)
    clear hb2 hbw hby c0 c1 c2 c3 c4 c5 c6 c7 c8 k0 k1 k2 k3 k4 k5 k6 k7 k8
    cases mb with
    | false =>
      have HT:Hid (isD L ⟨p0,p1,p2,q0,q1,q2,r⟩ fr to bk wt=false):=by show isD _ _ _ _ _ _=false;rw [HIS.out,HMB.out];rfl
      go_wp2_with fail
      go_ret
      exact⟨z7 HT.out.symm,HWx2.out⟩
    | true =>
      by_cases hw:(wt:Int)=1
      ·have hwb:((wt:Int) != 1)=false:=by simp [hw]
       have HIF:Hid (isD L ⟨p0,p1,p2,q0,q1,q2,r⟩ fr to bk wt=zW ⟨4,xa1,xb1,ya1,yb1,ar1,sp1,pl1,nn1⟩ ⟨o2,xa2,xb2,ya2,yb2,ar2,sp2,pl2,nn2⟩ (yh fr to) bk (yS L ⟨4,xa1,xb1,ya1,yb1,ar1,sp1,pl1,nn1⟩)):=by show isD _ _ _ _ _ _=_;rw [HIS.out,HMB.out,HWD.out,decide_eq_true hw,Bool.true_and,Bool.true_and]
       obtain⟨⟨r1,r2⟩,⟨r3,r4⟩,r5,r6⟩:=Zd HS1.out (ZD HMB.out).1
       obtain⟨-,⟨r7,r8⟩,r9,r10⟩:=Zd HS2.out (ZD HMB.out).2
       obtain⟨i,lg,hi,hiL,hlg,hl5,hp2,hsz0,hsz⟩:=UA HLO.out r1 r2
       dsimp only at r3 r4 r5 r6 r7 r8 r9 r10 hi
       subst hi
       generalize yS L ⟨4,xa1,xb1,ya1,yb1,(i:Int),sp1,pl1,nn1⟩=SZ at *
       obtain⟨a0',cap0',hv0,-,-,-,hlc⟩:=HLx2.out
       injection hv0 with hv1 hv2 hv3
       obtain⟨lb,lo',hv4,hlb,hlcell⟩:=hlc (by omega)
       have hlk:=hlcell i hiL
       rw [hlg] at hlk
       rw [hv4] at hv1
       subst hv1
       have hii:(i:Int)<(L.logs.length:Int):=by omega
       have HCS:Hid (∀W,Calls Tryz.prog 35 #[iV (lg:Int)] W fun e w'=>e=.returned (iV (SZ:Int))/\w'=W):=fun W=>hp2 ▸ ze6 lg W (by omega)
       have HME:Hid (∀(j:Nat) W,j<=32->Calls Tryz.prog 142 #[.agg #[iV 4,iV xa1,iV xb1,iV ya1,iV yb1,iV (i:Int),iV sp1,iV pl1,iV nn1],.agg #[iV o2,iV xa2,iV xb2,iV ya2,iV yb2,iV ar2,iV sp2,iV pl2,iV nn2],iV j,iV SZ] W fun e w'=>e=.returned (.bool (zE ⟨4,xa1,xb1,ya1,yb1,(i:Int),sp1,pl1,nn1⟩ ⟨o2,xa2,xb2,ya2,yb2,ar2,sp2,pl2,nn2⟩ j SZ))/\Below W.heap.size W w'):=fun j W hj=>zao ⟨4,xa1,xb1,ya1,yb1,(i:Int),sp1,pl1,nn1⟩ ⟨o2,xa2,xb2,ya2,yb2,ar2,sp2,pl2,nn2⟩ j SZ W hsz0 hsz hj r3 r4 r5 r6 r7 r8 r9 r10
       clear hlc hlcell hv2 hv3 hv4 r1 r2 r3 r4 r5 r6 r7 r8 r9 r10 hp2
       by_cases hle:to<=fr
       ·as_aux_lemma =>
         have HLD:Hid (yh fr to=1):=by show yh fr to=1;unfold yh;rw [if_pos hle]
         have hge:(to:Int)<=(fr:Int):=by omega
         have HIG:Hid (isD L ⟨p0,p1,p2,q0,q1,q2,r⟩ fr to bk wt=zW ⟨4,xa1,xb1,ya1,yb1,(i:Int),sp1,pl1,nn1⟩ ⟨o2,xa2,xb2,ya2,yb2,ar2,sp2,pl2,nn2⟩ 1 bk SZ):=by show isD _ _ _ _ _ _=_;rw [HIF.out,HLD.out]
         by_cases hb1:bk<1
         ·have hbi:(bk:Int)<1:=by omega
          have hbd:decide ((bk:Int)<1)=true:=decide_eq_true hbi
          have HT:Hid (isD L ⟨p0,p1,p2,q0,q1,q2,r⟩ fr to bk wt=false):=by show isD _ _ _ _ _ _=false;rw [HIG.out];unfold zW;rw [decide_eq_false (show ¬1<=bk by omega)];rfl
          go_wp2_with (go_at_call 35;refine (HCS.out _).mono ?_;rintro e x9 ⟨rfl,rfl⟩)
          go_ret
          exact⟨z7 HT.out.symm,HWx2.out⟩
         ·have hbi:¬(bk:Int)<1:=by omega
          have hbd:decide ((bk:Int)<1)=false:=decide_eq_false hbi
          by_cases hb2:SZ<bk
          ·have hbj:(SZ:Int)<(bk:Int):=by omega
           have hbe:decide ((SZ:Int)<(bk:Int))=true:=decide_eq_true hbj
           have HT:Hid (isD L ⟨p0,p1,p2,q0,q1,q2,r⟩ fr to bk wt=false):=by show isD _ _ _ _ _ _=false;rw [HIG.out];unfold zW;rw [decide_eq_false (show ¬bk<=SZ by omega),Bool.and_false];rfl
           go_wp2_with (go_at_call 35;refine (HCS.out _).mono ?_;rintro e x9 ⟨rfl,rfl⟩)
           go_ret
           exact⟨z7 HT.out.symm,HWx2.out⟩
          ·have hbj:¬(SZ:Int)<(bk:Int):=by omega
           have hbe:decide ((SZ:Int)<(bk:Int))=false:=decide_eq_false hbj
           obtain⟨mt,hmt⟩:∃mt,zE ⟨4,xa1,xb1,ya1,yb1,(i:Int),sp1,pl1,nn1⟩ ⟨o2,xa2,xb2,ya2,yb2,ar2,sp2,pl2,nn2⟩ bk SZ=mt:=⟨_,rfl⟩
           have HMT:=z5 hmt
           have hme:=fun W=>HME.out bk W hbk
           rw [hmt] at hme
           have HMK:=z5 hme
           clear hmt hme
           go_wp2_with (go_at_call 35;refine (HCS.out _).mono ?_;rintro e x9 ⟨rfl,rfl⟩)
           refine (HMK.out _).mono ?_
           rintro e x3 ⟨rfl,hb3⟩
           have HB3:Hid (Below ((wo.alloc (.cells #[iV 4,iV xa1,iV xb1,iV ya1,iV yb1,iV (i:Int),iV sp1,iV pl1,iV nn1] 41)).alloc (.cells #[iV o2,iV xa2,iV xb2,iV ya2,iV yb2,iV ar2,iV sp2,iV pl2,iV nn2] 41)).heap.size ((wo.alloc (.cells #[iV 4,iV xa1,iV xb1,iV ya1,iV yb1,iV (i:Int),iV sp1,iV pl1,iV nn1] 41)).alloc (.cells #[iV o2,iV xa2,iV xb2,iV ya2,iV yb2,iV ar2,iV sp2,iV pl2,iV nn2] 41)) x3):=HB2.out.trans (hb3.mono HB2.out.size)
           clear d0 d1 d2 d3 d4 d5 d6 d7 d8 f0 f1 f2 f3 f4 f5 f6 f7 f8 y0 y1
           clear l0 l1 l2 t0 t1 t2 t3 t4 t5 t6 g0 g1 g2 g3 z0 z1 z2
           obtain⟨⟨d0,d1,d2,d3,d4,d5,d6,d7,d8⟩,⟨f0,f1,f2,f3,f4,f5,f6,f7,f8⟩,y0,y1,hby⟩:=xj HB3.out
           obtain⟨⟨l0,l1,l2⟩,⟨t0,t1,t2,t3,t4,t5,t6⟩,⟨g0,g1,g2,g3⟩,z0,z1,z2,hbw⟩:=yN (HBr.out.trans (hby.mono HBr.out.size))
           have HWx3:=z5 hbw
           clear hb3 hbw hby
           cases mt with
           | false =>
             have HT:Hid (isD L ⟨p0,p1,p2,q0,q1,q2,r⟩ fr to bk wt=false):=by show isD _ _ _ _ _ _=false;rw [HIG.out];unfold zW;rw [HMT.out,Bool.and_false];rfl
             go_wp2_with fail
             go_ret
             exact⟨z7 HT.out.symm,HWx3.out⟩
           | true =>
             go_wp2_with fail
             go_loopw [14] (fun iv wq=>∃j:Nat,1<=j/\j<=bk/\iv=iV j/\zh (fun y=>decide (y<1) || !zE ⟨4,xa1,xb1,ya1,yb1,(i:Int),sp1,pl1,nn1⟩ ⟨o2,xa2,xb2,ya2,yb2,ar2,sp2,pl2,nn2⟩ y SZ) j=true/\Below ((wo.alloc (.cells #[iV 4,iV xa1,iV xb1,iV ya1,iV yb1,iV (i:Int),iV sp1,iV pl1,iV nn1] 41)).alloc (.cells #[iV o2,iV xa2,iV xb2,iV ya2,iV yb2,iV ar2,iV sp2,iV pl2,iV nn2] 41)).heap.size ((wo.alloc (.cells #[iV 4,iV xa1,iV xb1,iV ya1,iV yb1,iV (i:Int),iV sp1,iV pl1,iV nn1] 41)).alloc (.cells #[iV o2,iV xa2,iV xb2,iV ya2,iV yb2,iV ar2,iV sp2,iV pl2,iV nn2] 41)) wq) (fun iv _=>bk - (intOf iv).toNat)
             case atStart=>exact⟨1,Nat.le_refl _,by omega,rfl,VM _ _,HB3.out⟩
             case round =>
              clear d0 d1 d2 d3 d4 d5 d6 d7 d8 f0 f1 f2 f3 f4 f5 f6 f7 f8 y0 y1
              clear l0 l1 l2 t0 t1 t2 t3 t4 t5 t6 g0 g1 g2 g3 z0 z1 z2
              obtain⟨j,hj1,hj2,rfl,hall,hbel⟩:=hrel
              obtain⟨⟨d0,d1,d2,d3,d4,d5,d6,d7,d8⟩,⟨f0,f1,f2,f3,f4,f5,f6,f7,f8⟩,y0,y1,hby⟩:=xj hbel
              obtain⟨⟨l0,l1,l2⟩,⟨t0,t1,t2,t3,t4,t5,t6⟩,⟨g0,g1,g2,g3⟩,z0,z1,z2,hbw⟩:=yN (HBr.out.trans (hby.mono HBr.out.size))
              have HWq:=z5 hbw
              have HBq:=z5 hbel
              have HAL:=z5 hall
              clear hbw hby hall hbel
              by_cases hjb:j<bk
              ·have hji:(j:Int)<(bk:Int):=by omega
               obtain⟨mj,hmj⟩:∃mj,zE ⟨4,xa1,xb1,ya1,yb1,(i:Int),sp1,pl1,nn1⟩ ⟨o2,xa2,xb2,ya2,yb2,ar2,sp2,pl2,nn2⟩ j SZ=mj:=⟨_,rfl⟩
               have HMJ:=z5 hmj
               have hme:=fun W=>HME.out j W (by omega)
               rw [hmj] at hme
               have HMK2:=z5 hme
               clear hmj hme
               go_wp2_with fail
               refine (HMK2.out _).mono ?_
               rintro e x4 ⟨rfl,hb4⟩
               have HB4:Hid (Below ((wo.alloc (.cells #[iV 4,iV xa1,iV xb1,iV ya1,iV yb1,iV (i:Int),iV sp1,iV pl1,iV nn1] 41)).alloc (.cells #[iV o2,iV xa2,iV xb2,iV ya2,iV yb2,iV ar2,iV sp2,iV pl2,iV nn2] 41)).heap.size ((wo.alloc (.cells #[iV 4,iV xa1,iV xb1,iV ya1,iV yb1,iV (i:Int),iV sp1,iV pl1,iV nn1] 41)).alloc (.cells #[iV o2,iV xa2,iV xb2,iV ya2,iV yb2,iV ar2,iV sp2,iV pl2,iV nn2] 41)) x4):=HBq.out.trans (hb4.mono HBq.out.size)
               have HW4:=z5 (HWq.out.trans (hb4.mono HWq.out.size))
               clear hb4
               cases mj with
               | true =>
                 have HT:Hid (isD L ⟨p0,p1,p2,q0,q1,q2,r⟩ fr to bk wt=false):=by
                  show isD _ _ _ _ _ _=false
                  rw [HIG.out];unfold zW;rw [zw (k:=j) hjb (by rw [HMJ.out,decide_eq_false (show ¬j<1 by omega)];rfl),Bool.and_false]
                 go_wp2_with fail
                 go_ret
                 exact⟨z7 HT.out.symm,HW4.out⟩
               | false =>
                 go_wp2_with fail
                 go_roundw
                 case rel=>exact⟨j+1,by omega,by omega,by go_num,yw HAL.out (by rw [HMJ.out];simp),HB4.out⟩
                 case measure=>simp [intOf];omega
              ·have e:j=bk:=by omega
               have hji:¬(j:Int)<(bk:Int):=by omega
               have HT:Hid (isD L ⟨p0,p1,p2,q0,q1,q2,r⟩ fr to bk wt=true):=by
                show isD _ _ _ _ _ _=true
                have h:=HAL.out
                rw [e] at h
                rw [HIG.out];unfold zW;rw [h,HMT.out,decide_eq_true (show 1<=bk by omega),decide_eq_true (show bk<=SZ by omega)];rfl
               clear e
               go_wp2_with fail
               go_ret
               exact⟨z7 HT.out.symm,HWq.out⟩
       ·as_aux_lemma =>
         have HLD:Hid (yh fr to=0):=by show yh fr to=0;unfold yh;rw [if_neg hle]
         have hge:¬(to:Int)<=(fr:Int):=by omega
         have HIG:Hid (isD L ⟨p0,p1,p2,q0,q1,q2,r⟩ fr to bk wt=zW ⟨4,xa1,xb1,ya1,yb1,(i:Int),sp1,pl1,nn1⟩ ⟨o2,xa2,xb2,ya2,yb2,ar2,sp2,pl2,nn2⟩ 0 bk SZ):=by show isD _ _ _ _ _ _=_;rw [HIF.out,HLD.out]
         by_cases hb1:bk<0
         ·exact absurd hb1 (Nat.not_lt_zero _)
         ·have hbi:¬(bk:Int)<0:=by omega
          have hbd:decide ((bk:Int)<0)=false:=decide_eq_false hbi
          by_cases hb2:SZ<bk
          ·have hbj:(SZ:Int)<(bk:Int):=by omega
           have hbe:decide ((SZ:Int)<(bk:Int))=true:=decide_eq_true hbj
           have HT:Hid (isD L ⟨p0,p1,p2,q0,q1,q2,r⟩ fr to bk wt=false):=by show isD _ _ _ _ _ _=false;rw [HIG.out];unfold zW;rw [decide_eq_false (show ¬bk<=SZ by omega),Bool.and_false];rfl
           go_wp2_with (go_at_call 35;refine (HCS.out _).mono ?_;rintro e x9 ⟨rfl,rfl⟩)
           go_ret
           exact⟨z7 HT.out.symm,HWx2.out⟩
          ·have hbj:¬(SZ:Int)<(bk:Int):=by omega
           have hbe:decide ((SZ:Int)<(bk:Int))=false:=decide_eq_false hbj
           obtain⟨mt,hmt⟩:∃mt,zE ⟨4,xa1,xb1,ya1,yb1,(i:Int),sp1,pl1,nn1⟩ ⟨o2,xa2,xb2,ya2,yb2,ar2,sp2,pl2,nn2⟩ bk SZ=mt:=⟨_,rfl⟩
           have HMT:=z5 hmt
           have hme:=fun W=>HME.out bk W hbk
           rw [hmt] at hme
           have HMK:=z5 hme
           clear hmt hme
           go_wp2_with (go_at_call 35;refine (HCS.out _).mono ?_;rintro e x9 ⟨rfl,rfl⟩)
           refine (HMK.out _).mono ?_
           rintro e x3 ⟨rfl,hb3⟩
           have HB3:Hid (Below ((wo.alloc (.cells #[iV 4,iV xa1,iV xb1,iV ya1,iV yb1,iV (i:Int),iV sp1,iV pl1,iV nn1] 41)).alloc (.cells #[iV o2,iV xa2,iV xb2,iV ya2,iV yb2,iV ar2,iV sp2,iV pl2,iV nn2] 41)).heap.size ((wo.alloc (.cells #[iV 4,iV xa1,iV xb1,iV ya1,iV yb1,iV (i:Int),iV sp1,iV pl1,iV nn1] 41)).alloc (.cells #[iV o2,iV xa2,iV xb2,iV ya2,iV yb2,iV ar2,iV sp2,iV pl2,iV nn2] 41)) x3):=HB2.out.trans (hb3.mono HB2.out.size)
           clear d0 d1 d2 d3 d4 d5 d6 d7 d8 f0 f1 f2 f3 f4 f5 f6 f7 f8 y0 y1
           clear l0 l1 l2 t0 t1 t2 t3 t4 t5 t6 g0 g1 g2 g3 z0 z1 z2
           obtain⟨⟨d0,d1,d2,d3,d4,d5,d6,d7,d8⟩,⟨f0,f1,f2,f3,f4,f5,f6,f7,f8⟩,y0,y1,hby⟩:=xj HB3.out
           obtain⟨⟨l0,l1,l2⟩,⟨t0,t1,t2,t3,t4,t5,t6⟩,⟨g0,g1,g2,g3⟩,z0,z1,z2,hbw⟩:=yN (HBr.out.trans (hby.mono HBr.out.size))
           have HWx3:=z5 hbw
           clear hb3 hbw hby
           cases mt with
           | false =>
             have HT:Hid (isD L ⟨p0,p1,p2,q0,q1,q2,r⟩ fr to bk wt=false):=by show isD _ _ _ _ _ _=false;rw [HIG.out];unfold zW;rw [HMT.out,Bool.and_false];rfl
             go_wp2_with fail
             go_ret
             exact⟨z7 HT.out.symm,HWx3.out⟩
           | true =>
             go_wp2_with fail
             go_loopw [14] (fun iv wq=>∃j:Nat,0<=j/\j<=bk/\iv=iV j/\zh (fun y=>decide (y<0) || !zE ⟨4,xa1,xb1,ya1,yb1,(i:Int),sp1,pl1,nn1⟩ ⟨o2,xa2,xb2,ya2,yb2,ar2,sp2,pl2,nn2⟩ y SZ) j=true/\Below ((wo.alloc (.cells #[iV 4,iV xa1,iV xb1,iV ya1,iV yb1,iV (i:Int),iV sp1,iV pl1,iV nn1] 41)).alloc (.cells #[iV o2,iV xa2,iV xb2,iV ya2,iV yb2,iV ar2,iV sp2,iV pl2,iV nn2] 41)).heap.size ((wo.alloc (.cells #[iV 4,iV xa1,iV xb1,iV ya1,iV yb1,iV (i:Int),iV sp1,iV pl1,iV nn1] 41)).alloc (.cells #[iV o2,iV xa2,iV xb2,iV ya2,iV yb2,iV ar2,iV sp2,iV pl2,iV nn2] 41)) wq) (fun iv _=>bk - (intOf iv).toNat)
             case atStart=>exact⟨0,Nat.le_refl _,by omega,rfl,VM _ _,HB3.out⟩
             case round =>
              clear d0 d1 d2 d3 d4 d5 d6 d7 d8 f0 f1 f2 f3 f4 f5 f6 f7 f8 y0 y1
              clear l0 l1 l2 t0 t1 t2 t3 t4 t5 t6 g0 g1 g2 g3 z0 z1 z2
              obtain⟨j,hj1,hj2,rfl,hall,hbel⟩:=hrel
              obtain⟨⟨d0,d1,d2,d3,d4,d5,d6,d7,d8⟩,⟨f0,f1,f2,f3,f4,f5,f6,f7,f8⟩,y0,y1,hby⟩:=xj hbel
              obtain⟨⟨l0,l1,l2⟩,⟨t0,t1,t2,t3,t4,t5,t6⟩,⟨g0,g1,g2,g3⟩,z0,z1,z2,hbw⟩:=yN (HBr.out.trans (hby.mono HBr.out.size))
              have HWq:=z5 hbw
              have HBq:=z5 hbel
              have HAL:=z5 hall
              clear hbw hby hall hbel
              by_cases hjb:j<bk
              ·have hji:(j:Int)<(bk:Int):=by omega
               obtain⟨mj,hmj⟩:∃mj,zE ⟨4,xa1,xb1,ya1,yb1,(i:Int),sp1,pl1,nn1⟩ ⟨o2,xa2,xb2,ya2,yb2,ar2,sp2,pl2,nn2⟩ j SZ=mj:=⟨_,rfl⟩
               have HMJ:=z5 hmj
               have hme:=fun W=>HME.out j W (by omega)
               rw [hmj] at hme
               have HMK2:=z5 hme
               clear hmj hme
               go_wp2_with fail
               refine (HMK2.out _).mono ?_
               rintro e x4 ⟨rfl,hb4⟩
               have HB4:Hid (Below ((wo.alloc (.cells #[iV 4,iV xa1,iV xb1,iV ya1,iV yb1,iV (i:Int),iV sp1,iV pl1,iV nn1] 41)).alloc (.cells #[iV o2,iV xa2,iV xb2,iV ya2,iV yb2,iV ar2,iV sp2,iV pl2,iV nn2] 41)).heap.size ((wo.alloc (.cells #[iV 4,iV xa1,iV xb1,iV ya1,iV yb1,iV (i:Int),iV sp1,iV pl1,iV nn1] 41)).alloc (.cells #[iV o2,iV xa2,iV xb2,iV ya2,iV yb2,iV ar2,iV sp2,iV pl2,iV nn2] 41)) x4):=HBq.out.trans (hb4.mono HBq.out.size)
               have HW4:=z5 (HWq.out.trans (hb4.mono HWq.out.size))
               clear hb4
               cases mj with
               | true =>
                 have HT:Hid (isD L ⟨p0,p1,p2,q0,q1,q2,r⟩ fr to bk wt=false):=by
                  show isD _ _ _ _ _ _=false
                  rw [HIG.out];unfold zW;rw [zw (k:=j) hjb (by rw [HMJ.out,decide_eq_false (show ¬j<0 by omega)];rfl),Bool.and_false]
                 go_wp2_with fail
                 go_ret
                 exact⟨z7 HT.out.symm,HW4.out⟩
               | false =>
                 go_wp2_with fail
                 go_roundw
                 case rel=>exact⟨j+1,by omega,by omega,by go_num,yw HAL.out (by rw [HMJ.out];simp),HB4.out⟩
                 case measure=>simp [intOf];omega
              ·have e:j=bk:=by omega
               have hji:¬(j:Int)<(bk:Int):=by omega
               have HT:Hid (isD L ⟨p0,p1,p2,q0,q1,q2,r⟩ fr to bk wt=true):=by
                show isD _ _ _ _ _ _=true
                have h:=HAL.out
                rw [e] at h
                rw [HIG.out];unfold zW;rw [h,HMT.out,decide_eq_true (show 0<=bk by omega),decide_eq_true (show bk<=SZ by omega)];rfl
               clear e
               go_wp2_with fail
               go_ret
               exact⟨z7 HT.out.symm,HWq.out⟩
      ·have hwb:((wt:Int) != 1)=true:=by simpa using hw
       have HT:Hid (isD L ⟨p0,p1,p2,q0,q1,q2,r⟩ fr to bk wt=false):=by show isD _ _ _ _ _ _=false;rw [HIS.out,HMB.out,HWD.out,decide_eq_false hw];rfl
       clear hw
       go_wp2_with fail
       go_ret
       exact⟨z7 HT.out.symm,HWx2.out⟩
   ·have hob:(o1 == 4)=false:=by simpa using ho4
    have HWD:Hid (xm ⟨o1,xa1,xb1,ya1,yb1,ar1,sp1,pl1,nn1⟩=0):=by show xm _=0;unfold xm;rw [if_neg ho4]
    go_wp2_with fail
    refine (HMEM.out _).mono ?_
    rintro e x2 ⟨rfl,hb2⟩
    have HB2:Hid (Below ((wo.alloc (.cells #[iV o1,iV xa1,iV xb1,iV ya1,iV yb1,iV ar1,iV sp1,iV pl1,iV nn1] 41)).alloc (.cells #[iV o2,iV xa2,iV xb2,iV ya2,iV yb2,iV ar2,iV sp2,iV pl2,iV nn2] 41)).heap.size ((wo.alloc (.cells #[iV o1,iV xa1,iV xb1,iV ya1,iV yb1,iV ar1,iV sp1,iV pl1,iV nn1] 41)).alloc (.cells #[iV o2,iV xa2,iV xb2,iV ya2,iV yb2,iV ar2,iV sp2,iV pl2,iV nn2] 41)) x2):=hb2
    clear l0 l1 l2 t0 t1 t2 t3 t4 t5 t6 g0 g1 g2 g3 z0 z1 z2
    obtain⟨⟨d0,d1,d2,d3,d4,d5,d6,d7,d8⟩,⟨f0,f1,f2,f3,f4,f5,f6,f7,f8⟩,y0,y1,hby⟩:=xj HB2.out
    obtain⟨⟨l0,l1,l2⟩,⟨t0,t1,t2,t3,t4,t5,t6⟩,⟨g0,g1,g2,g3⟩,z0,z1,z2,hbw⟩:=yN (HBr.out.trans (hby.mono HBr.out.size))
    have HWx2:=z5 hbw
    have HLx2:=z5 (HLV.out.below hby)
    clear hb2 hbw hby c0 c1 c2 c3 c4 c5 c6 c7 c8 k0 k1 k2 k3 k4 k5 k6 k7 k8
    cases mb with
    | false =>
      have HT:Hid (isD L ⟨p0,p1,p2,q0,q1,q2,r⟩ fr to bk wt=false):=by show isD _ _ _ _ _ _=false;rw [HIS.out,HMB.out];rfl
      go_wp2_with fail
      go_ret
      exact⟨z7 HT.out.symm,HWx2.out⟩
    | true =>
      by_cases hw:(wt:Int)=0
      ·have hwb:((wt:Int) != 0)=false:=by simp [hw]
       have HIF:Hid (isD L ⟨p0,p1,p2,q0,q1,q2,r⟩ fr to bk wt=zW ⟨o1,xa1,xb1,ya1,yb1,ar1,sp1,pl1,nn1⟩ ⟨o2,xa2,xb2,ya2,yb2,ar2,sp2,pl2,nn2⟩ (yh fr to) bk (yS L ⟨o1,xa1,xb1,ya1,yb1,ar1,sp1,pl1,nn1⟩)):=by show isD _ _ _ _ _ _=_;rw [HIS.out,HMB.out,HWD.out,decide_eq_true hw,Bool.true_and,Bool.true_and]
       obtain⟨⟨r1,r2⟩,⟨r3,r4⟩,r5,r6⟩:=Zd HS1.out (ZD HMB.out).1
       obtain⟨-,⟨r7,r8⟩,r9,r10⟩:=Zd HS2.out (ZD HMB.out).2
       obtain⟨i,lg,hi,hiL,hlg,hl5,hp2,hsz0,hsz⟩:=UA HLO.out r1 r2
       dsimp only at r3 r4 r5 r6 r7 r8 r9 r10 hi
       subst hi
       generalize yS L ⟨o1,xa1,xb1,ya1,yb1,(i:Int),sp1,pl1,nn1⟩=SZ at *
       obtain⟨a0',cap0',hv0,-,-,-,hlc⟩:=HLx2.out
       injection hv0 with hv1 hv2 hv3
       obtain⟨lb,lo',hv4,hlb,hlcell⟩:=hlc (by omega)
       have hlk:=hlcell i hiL
       rw [hlg] at hlk
       rw [hv4] at hv1
       subst hv1
       have hii:(i:Int)<(L.logs.length:Int):=by omega
       have HCS:Hid (∀W,Calls Tryz.prog 35 #[iV (lg:Int)] W fun e w'=>e=.returned (iV (SZ:Int))/\w'=W):=fun W=>hp2 ▸ ze6 lg W (by omega)
       have HME:Hid (∀(j:Nat) W,j<=32->Calls Tryz.prog 142 #[.agg #[iV o1,iV xa1,iV xb1,iV ya1,iV yb1,iV (i:Int),iV sp1,iV pl1,iV nn1],.agg #[iV o2,iV xa2,iV xb2,iV ya2,iV yb2,iV ar2,iV sp2,iV pl2,iV nn2],iV j,iV SZ] W fun e w'=>e=.returned (.bool (zE ⟨o1,xa1,xb1,ya1,yb1,(i:Int),sp1,pl1,nn1⟩ ⟨o2,xa2,xb2,ya2,yb2,ar2,sp2,pl2,nn2⟩ j SZ))/\Below W.heap.size W w'):=fun j W hj=>zao ⟨o1,xa1,xb1,ya1,yb1,(i:Int),sp1,pl1,nn1⟩ ⟨o2,xa2,xb2,ya2,yb2,ar2,sp2,pl2,nn2⟩ j SZ W hsz0 hsz hj r3 r4 r5 r6 r7 r8 r9 r10
       clear hlc hlcell hv2 hv3 hv4 r1 r2 r3 r4 r5 r6 r7 r8 r9 r10 hp2
       by_cases hle:to<=fr
       ·as_aux_lemma =>
         have HLD:Hid (yh fr to=1):=by show yh fr to=1;unfold yh;rw [if_pos hle]
         have hge:(to:Int)<=(fr:Int):=by omega
         have HIG:Hid (isD L ⟨p0,p1,p2,q0,q1,q2,r⟩ fr to bk wt=zW ⟨o1,xa1,xb1,ya1,yb1,(i:Int),sp1,pl1,nn1⟩ ⟨o2,xa2,xb2,ya2,yb2,ar2,sp2,pl2,nn2⟩ 1 bk SZ):=by show isD _ _ _ _ _ _=_;rw [HIF.out,HLD.out]
         by_cases hb1:bk<1
         ·have hbi:(bk:Int)<1:=by omega
          have hbd:decide ((bk:Int)<1)=true:=decide_eq_true hbi
          have HT:Hid (isD L ⟨p0,p1,p2,q0,q1,q2,r⟩ fr to bk wt=false):=by show isD _ _ _ _ _ _=false;rw [HIG.out];unfold zW;rw [decide_eq_false (show ¬1<=bk by omega)];rfl
          go_wp2_with (go_at_call 35;refine (HCS.out _).mono ?_;rintro e x9 ⟨rfl,rfl⟩)
          go_ret
          exact⟨z7 HT.out.symm,HWx2.out⟩
         ·have hbi:¬(bk:Int)<1:=by omega
          have hbd:decide ((bk:Int)<1)=false:=decide_eq_false hbi
          by_cases hb2:SZ<bk
          ·have hbj:(SZ:Int)<(bk:Int):=by omega
           have hbe:decide ((SZ:Int)<(bk:Int))=true:=decide_eq_true hbj
           have HT:Hid (isD L ⟨p0,p1,p2,q0,q1,q2,r⟩ fr to bk wt=false):=by show isD _ _ _ _ _ _=false;rw [HIG.out];unfold zW;rw [decide_eq_false (show ¬bk<=SZ by omega),Bool.and_false];rfl
           go_wp2_with (go_at_call 35;refine (HCS.out _).mono ?_;rintro e x9 ⟨rfl,rfl⟩)
           go_ret
           exact⟨z7 HT.out.symm,HWx2.out⟩
          ·have hbj:¬(SZ:Int)<(bk:Int):=by omega
           have hbe:decide ((SZ:Int)<(bk:Int))=false:=decide_eq_false hbj
           obtain⟨mt,hmt⟩:∃mt,zE ⟨o1,xa1,xb1,ya1,yb1,(i:Int),sp1,pl1,nn1⟩ ⟨o2,xa2,xb2,ya2,yb2,ar2,sp2,pl2,nn2⟩ bk SZ=mt:=⟨_,rfl⟩
           have HMT:=z5 hmt
           have hme:=fun W=>HME.out bk W hbk
           rw [hmt] at hme
           have HMK:=z5 hme
           clear hmt hme
           go_wp2_with (go_at_call 35;refine (HCS.out _).mono ?_;rintro e x9 ⟨rfl,rfl⟩)
           refine (HMK.out _).mono ?_
           rintro e x3 ⟨rfl,hb3⟩
           have HB3:Hid (Below ((wo.alloc (.cells #[iV o1,iV xa1,iV xb1,iV ya1,iV yb1,iV (i:Int),iV sp1,iV pl1,iV nn1] 41)).alloc (.cells #[iV o2,iV xa2,iV xb2,iV ya2,iV yb2,iV ar2,iV sp2,iV pl2,iV nn2] 41)).heap.size ((wo.alloc (.cells #[iV o1,iV xa1,iV xb1,iV ya1,iV yb1,iV (i:Int),iV sp1,iV pl1,iV nn1] 41)).alloc (.cells #[iV o2,iV xa2,iV xb2,iV ya2,iV yb2,iV ar2,iV sp2,iV pl2,iV nn2] 41)) x3):=HB2.out.trans (hb3.mono HB2.out.size)
           clear d0 d1 d2 d3 d4 d5 d6 d7 d8 f0 f1 f2 f3 f4 f5 f6 f7 f8 y0 y1
           clear l0 l1 l2 t0 t1 t2 t3 t4 t5 t6 g0 g1 g2 g3 z0 z1 z2
           obtain⟨⟨d0,d1,d2,d3,d4,d5,d6,d7,d8⟩,⟨f0,f1,f2,f3,f4,f5,f6,f7,f8⟩,y0,y1,hby⟩:=xj HB3.out
           obtain⟨⟨l0,l1,l2⟩,⟨t0,t1,t2,t3,t4,t5,t6⟩,⟨g0,g1,g2,g3⟩,z0,z1,z2,hbw⟩:=yN (HBr.out.trans (hby.mono HBr.out.size))
           have HWx3:=z5 hbw
           clear hb3 hbw hby
           cases mt with
           | false =>
             have HT:Hid (isD L ⟨p0,p1,p2,q0,q1,q2,r⟩ fr to bk wt=false):=by show isD _ _ _ _ _ _=false;rw [HIG.out];unfold zW;rw [HMT.out,Bool.and_false];rfl
             go_wp2_with fail
             go_ret
             exact⟨z7 HT.out.symm,HWx3.out⟩
           | true =>
             go_wp2_with fail
             go_loopw [14] (fun iv wq=>∃j:Nat,1<=j/\j<=bk/\iv=iV j/\zh (fun y=>decide (y<1) || !zE ⟨o1,xa1,xb1,ya1,yb1,(i:Int),sp1,pl1,nn1⟩ ⟨o2,xa2,xb2,ya2,yb2,ar2,sp2,pl2,nn2⟩ y SZ) j=true/\Below ((wo.alloc (.cells #[iV o1,iV xa1,iV xb1,iV ya1,iV yb1,iV (i:Int),iV sp1,iV pl1,iV nn1] 41)).alloc (.cells #[iV o2,iV xa2,iV xb2,iV ya2,iV yb2,iV ar2,iV sp2,iV pl2,iV nn2] 41)).heap.size ((wo.alloc (.cells #[iV o1,iV xa1,iV xb1,iV ya1,iV yb1,iV (i:Int),iV sp1,iV pl1,iV nn1] 41)).alloc (.cells #[iV o2,iV xa2,iV xb2,iV ya2,iV yb2,iV ar2,iV sp2,iV pl2,iV nn2] 41)) wq) (fun iv _=>bk - (intOf iv).toNat)
             case atStart=>exact⟨1,Nat.le_refl _,by omega,rfl,VM _ _,HB3.out⟩
             case round =>
              clear d0 d1 d2 d3 d4 d5 d6 d7 d8 f0 f1 f2 f3 f4 f5 f6 f7 f8 y0 y1
              clear l0 l1 l2 t0 t1 t2 t3 t4 t5 t6 g0 g1 g2 g3 z0 z1 z2
              obtain⟨j,hj1,hj2,rfl,hall,hbel⟩:=hrel
              obtain⟨⟨d0,d1,d2,d3,d4,d5,d6,d7,d8⟩,⟨f0,f1,f2,f3,f4,f5,f6,f7,f8⟩,y0,y1,hby⟩:=xj hbel
              obtain⟨⟨l0,l1,l2⟩,⟨t0,t1,t2,t3,t4,t5,t6⟩,⟨g0,g1,g2,g3⟩,z0,z1,z2,hbw⟩:=yN (HBr.out.trans (hby.mono HBr.out.size))
              have HWq:=z5 hbw
              have HBq:=z5 hbel
              have HAL:=z5 hall
              clear hbw hby hall hbel
              by_cases hjb:j<bk
              ·have hji:(j:Int)<(bk:Int):=by omega
               obtain⟨mj,hmj⟩:∃mj,zE ⟨o1,xa1,xb1,ya1,yb1,(i:Int),sp1,pl1,nn1⟩ ⟨o2,xa2,xb2,ya2,yb2,ar2,sp2,pl2,nn2⟩ j SZ=mj:=⟨_,rfl⟩
               have HMJ:=z5 hmj
               have hme:=fun W=>HME.out j W (by omega)
               rw [hmj] at hme
               have HMK2:=z5 hme
               clear hmj hme
               go_wp2_with fail
               refine (HMK2.out _).mono ?_
               rintro e x4 ⟨rfl,hb4⟩
               have HB4:Hid (Below ((wo.alloc (.cells #[iV o1,iV xa1,iV xb1,iV ya1,iV yb1,iV (i:Int),iV sp1,iV pl1,iV nn1] 41)).alloc (.cells #[iV o2,iV xa2,iV xb2,iV ya2,iV yb2,iV ar2,iV sp2,iV pl2,iV nn2] 41)).heap.size ((wo.alloc (.cells #[iV o1,iV xa1,iV xb1,iV ya1,iV yb1,iV (i:Int),iV sp1,iV pl1,iV nn1] 41)).alloc (.cells #[iV o2,iV xa2,iV xb2,iV ya2,iV yb2,iV ar2,iV sp2,iV pl2,iV nn2] 41)) x4):=HBq.out.trans (hb4.mono HBq.out.size)
               have HW4:=z5 (HWq.out.trans (hb4.mono HWq.out.size))
               clear hb4
               cases mj with
               | true =>
                 have HT:Hid (isD L ⟨p0,p1,p2,q0,q1,q2,r⟩ fr to bk wt=false):=by
                  show isD _ _ _ _ _ _=false
                  rw [HIG.out];unfold zW;rw [zw (k:=j) hjb (by rw [HMJ.out,decide_eq_false (show ¬j<1 by omega)];rfl),Bool.and_false]
                 go_wp2_with fail
                 go_ret
                 exact⟨z7 HT.out.symm,HW4.out⟩
               | false =>
                 go_wp2_with fail
                 go_roundw
                 case rel=>exact⟨j+1,by omega,by omega,by go_num,yw HAL.out (by rw [HMJ.out];simp),HB4.out⟩
                 case measure=>simp [intOf];omega
              ·have e:j=bk:=by omega
               have hji:¬(j:Int)<(bk:Int):=by omega
               have HT:Hid (isD L ⟨p0,p1,p2,q0,q1,q2,r⟩ fr to bk wt=true):=by
                show isD _ _ _ _ _ _=true
                have h:=HAL.out
                rw [e] at h
                rw [HIG.out];unfold zW;rw [h,HMT.out,decide_eq_true (show 1<=bk by omega),decide_eq_true (show bk<=SZ by omega)];rfl
               clear e
               go_wp2_with fail
               go_ret
               exact⟨z7 HT.out.symm,HWq.out⟩
       ·as_aux_lemma =>
         have HLD:Hid (yh fr to=0):=by show yh fr to=0;unfold yh;rw [if_neg hle]
         have hge:¬(to:Int)<=(fr:Int):=by omega
         have HIG:Hid (isD L ⟨p0,p1,p2,q0,q1,q2,r⟩ fr to bk wt=zW ⟨o1,xa1,xb1,ya1,yb1,(i:Int),sp1,pl1,nn1⟩ ⟨o2,xa2,xb2,ya2,yb2,ar2,sp2,pl2,nn2⟩ 0 bk SZ):=by show isD _ _ _ _ _ _=_;rw [HIF.out,HLD.out]
         by_cases hb1:bk<0
         ·exact absurd hb1 (Nat.not_lt_zero _)
         ·have hbi:¬(bk:Int)<0:=by omega
          have hbd:decide ((bk:Int)<0)=false:=decide_eq_false hbi
          by_cases hb2:SZ<bk
          ·have hbj:(SZ:Int)<(bk:Int):=by omega
           have hbe:decide ((SZ:Int)<(bk:Int))=true:=decide_eq_true hbj
           have HT:Hid (isD L ⟨p0,p1,p2,q0,q1,q2,r⟩ fr to bk wt=false):=by show isD _ _ _ _ _ _=false;rw [HIG.out];unfold zW;rw [decide_eq_false (show ¬bk<=SZ by omega),Bool.and_false];rfl
           go_wp2_with (go_at_call 35;refine (HCS.out _).mono ?_;rintro e x9 ⟨rfl,rfl⟩)
           go_ret
           exact⟨z7 HT.out.symm,HWx2.out⟩
          ·have hbj:¬(SZ:Int)<(bk:Int):=by omega
           have hbe:decide ((SZ:Int)<(bk:Int))=false:=decide_eq_false hbj
           obtain⟨mt,hmt⟩:∃mt,zE ⟨o1,xa1,xb1,ya1,yb1,(i:Int),sp1,pl1,nn1⟩ ⟨o2,xa2,xb2,ya2,yb2,ar2,sp2,pl2,nn2⟩ bk SZ=mt:=⟨_,rfl⟩
           have HMT:=z5 hmt
           have hme:=fun W=>HME.out bk W hbk
           rw [hmt] at hme
           have HMK:=z5 hme
           clear hmt hme
           go_wp2_with (go_at_call 35;refine (HCS.out _).mono ?_;rintro e x9 ⟨rfl,rfl⟩)
           refine (HMK.out _).mono ?_
           rintro e x3 ⟨rfl,hb3⟩
           have HB3:Hid (Below ((wo.alloc (.cells #[iV o1,iV xa1,iV xb1,iV ya1,iV yb1,iV (i:Int),iV sp1,iV pl1,iV nn1] 41)).alloc (.cells #[iV o2,iV xa2,iV xb2,iV ya2,iV yb2,iV ar2,iV sp2,iV pl2,iV nn2] 41)).heap.size ((wo.alloc (.cells #[iV o1,iV xa1,iV xb1,iV ya1,iV yb1,iV (i:Int),iV sp1,iV pl1,iV nn1] 41)).alloc (.cells #[iV o2,iV xa2,iV xb2,iV ya2,iV yb2,iV ar2,iV sp2,iV pl2,iV nn2] 41)) x3):=HB2.out.trans (hb3.mono HB2.out.size)
           clear d0 d1 d2 d3 d4 d5 d6 d7 d8 f0 f1 f2 f3 f4 f5 f6 f7 f8 y0 y1
           clear l0 l1 l2 t0 t1 t2 t3 t4 t5 t6 g0 g1 g2 g3 z0 z1 z2
           obtain⟨⟨d0,d1,d2,d3,d4,d5,d6,d7,d8⟩,⟨f0,f1,f2,f3,f4,f5,f6,f7,f8⟩,y0,y1,hby⟩:=xj HB3.out
           obtain⟨⟨l0,l1,l2⟩,⟨t0,t1,t2,t3,t4,t5,t6⟩,⟨g0,g1,g2,g3⟩,z0,z1,z2,hbw⟩:=yN (HBr.out.trans (hby.mono HBr.out.size))
           have HWx3:=z5 hbw
           clear hb3 hbw hby
           cases mt with
           | false =>
             have HT:Hid (isD L ⟨p0,p1,p2,q0,q1,q2,r⟩ fr to bk wt=false):=by show isD _ _ _ _ _ _=false;rw [HIG.out];unfold zW;rw [HMT.out,Bool.and_false];rfl
             go_wp2_with fail
             go_ret
             exact⟨z7 HT.out.symm,HWx3.out⟩
           | true =>
             go_wp2_with fail
             go_loopw [14] (fun iv wq=>∃j:Nat,0<=j/\j<=bk/\iv=iV j/\zh (fun y=>decide (y<0) || !zE ⟨o1,xa1,xb1,ya1,yb1,(i:Int),sp1,pl1,nn1⟩ ⟨o2,xa2,xb2,ya2,yb2,ar2,sp2,pl2,nn2⟩ y SZ) j=true/\Below ((wo.alloc (.cells #[iV o1,iV xa1,iV xb1,iV ya1,iV yb1,iV (i:Int),iV sp1,iV pl1,iV nn1] 41)).alloc (.cells #[iV o2,iV xa2,iV xb2,iV ya2,iV yb2,iV ar2,iV sp2,iV pl2,iV nn2] 41)).heap.size ((wo.alloc (.cells #[iV o1,iV xa1,iV xb1,iV ya1,iV yb1,iV (i:Int),iV sp1,iV pl1,iV nn1] 41)).alloc (.cells #[iV o2,iV xa2,iV xb2,iV ya2,iV yb2,iV ar2,iV sp2,iV pl2,iV nn2] 41)) wq) (fun iv _=>bk - (intOf iv).toNat)
             case atStart=>exact⟨0,Nat.le_refl _,by omega,rfl,VM _ _,HB3.out⟩
             case round =>
              clear d0 d1 d2 d3 d4 d5 d6 d7 d8 f0 f1 f2 f3 f4 f5 f6 f7 f8 y0 y1
              clear l0 l1 l2 t0 t1 t2 t3 t4 t5 t6 g0 g1 g2 g3 z0 z1 z2
              obtain⟨j,hj1,hj2,rfl,hall,hbel⟩:=hrel
              obtain⟨⟨d0,d1,d2,d3,d4,d5,d6,d7,d8⟩,⟨f0,f1,f2,f3,f4,f5,f6,f7,f8⟩,y0,y1,hby⟩:=xj hbel
              obtain⟨⟨l0,l1,l2⟩,⟨t0,t1,t2,t3,t4,t5,t6⟩,⟨g0,g1,g2,g3⟩,z0,z1,z2,hbw⟩:=yN (HBr.out.trans (hby.mono HBr.out.size))
              have HWq:=z5 hbw
              have HBq:=z5 hbel
              have HAL:=z5 hall
              clear hbw hby hall hbel
              by_cases hjb:j<bk
              ·have hji:(j:Int)<(bk:Int):=by omega
               obtain⟨mj,hmj⟩:∃mj,zE ⟨o1,xa1,xb1,ya1,yb1,(i:Int),sp1,pl1,nn1⟩ ⟨o2,xa2,xb2,ya2,yb2,ar2,sp2,pl2,nn2⟩ j SZ=mj:=⟨_,rfl⟩
               have HMJ:=z5 hmj
               have hme:=fun W=>HME.out j W (by omega)
               rw [hmj] at hme
               have HMK2:=z5 hme
               clear hmj hme
               go_wp2_with fail
               refine (HMK2.out _).mono ?_
               rintro e x4 ⟨rfl,hb4⟩
               have HB4:Hid (Below ((wo.alloc (.cells #[iV o1,iV xa1,iV xb1,iV ya1,iV yb1,iV (i:Int),iV sp1,iV pl1,iV nn1] 41)).alloc (.cells #[iV o2,iV xa2,iV xb2,iV ya2,iV yb2,iV ar2,iV sp2,iV pl2,iV nn2] 41)).heap.size ((wo.alloc (.cells #[iV o1,iV xa1,iV xb1,iV ya1,iV yb1,iV (i:Int),iV sp1,iV pl1,iV nn1] 41)).alloc (.cells #[iV o2,iV xa2,iV xb2,iV ya2,iV yb2,iV ar2,iV sp2,iV pl2,iV nn2] 41)) x4):=HBq.out.trans (hb4.mono HBq.out.size)
               have HW4:=z5 (HWq.out.trans (hb4.mono HWq.out.size))
               clear hb4
               cases mj with
               | true =>
                 have HT:Hid (isD L ⟨p0,p1,p2,q0,q1,q2,r⟩ fr to bk wt=false):=by
                  show isD _ _ _ _ _ _=false
                  rw [HIG.out];unfold zW;rw [zw (k:=j) hjb (by rw [HMJ.out,decide_eq_false (show ¬j<0 by omega)];rfl),Bool.and_false]
                 go_wp2_with fail
                 go_ret
                 exact⟨z7 HT.out.symm,HW4.out⟩
               | false =>
                 go_wp2_with fail
                 go_roundw
                 case rel=>exact⟨j+1,by omega,by omega,by go_num,yw HAL.out (by rw [HMJ.out];simp),HB4.out⟩
                 case measure=>simp [intOf];omega
              ·have e:j=bk:=by omega
               have hji:¬(j:Int)<(bk:Int):=by omega
               have HT:Hid (isD L ⟨p0,p1,p2,q0,q1,q2,r⟩ fr to bk wt=true):=by
                show isD _ _ _ _ _ _=true
                have h:=HAL.out
                rw [e] at h
                rw [HIG.out];unfold zW;rw [h,HMT.out,decide_eq_true (show 0<=bk by omega),decide_eq_true (show bk<=SZ by omega)];rfl
               clear e
               go_wp2_with fail
               go_ret
               exact⟨z7 HT.out.symm,HWq.out⟩
      ·have hwb:((wt:Int) != 0)=true:=by simpa using hw
       have HT:Hid (isD L ⟨p0,p1,p2,q0,q1,q2,r⟩ fr to bk wt=false):=by show isD _ _ _ _ _ _=false;rw [HIS.out,HMB.out,HWD.out,decide_eq_false hw];rfl
       clear hw
       go_wp2_with fail
       go_ret
       exact⟨z7 HT.out.symm,HWx2.out⟩
end Go.Proofs.YtjoapiafpahihabGreat
