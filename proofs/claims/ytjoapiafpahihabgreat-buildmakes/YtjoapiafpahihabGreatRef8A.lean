import Derived.Test.YtjoapiafpahihabGreatRounds
import Derived.Test.YtjoapiafpahihabGreatRef67
import Derived.Deep.QuietTactic
import Derived.BigQuiet
import Derived.Test.YtjoapiafpahihabGreatRef6A
import Derived.Test.YtjoapiafpahihabGreatBase
namespace Go.Proofs.YtjoapiafpahihabGreat
open Go.RowKit Go.Joins
set_option linter.unusedVariables false
set_option linter.unusedSimpArgs false
set_option maxRecDepth 8192
def Zl (w:World) (v:Value) (P:Int) (T:List Int):Prop:=∃tv,v=.agg #[iV P,tv]/\yf w tv T
theorem Zl.below {w w':World} {v:Value} {P:Int} {T:List Int} (h:Zl w v P T) (hb:Below w.heap.size w w'):Zl w' v P T:=by
 obtain⟨tv,e,h1⟩:=h
 exact⟨tv,e,h1.below hb⟩
theorem Uj {L:Lp} {t:Tg} {P:Int} {T:List Int} (h:(zx L && zp t)=false\/P<1\/200<P\/T.length≠L.body.length):zD L t P T=false:=by
 cases e:zD L t P T with
 | false=>rfl
 | true =>
   obtain⟨h1,h2,h3,h4,h5,-⟩:=zL e
   rw [h1,h2] at h
   rcases h with h | h | h | h
   ·cases h
   ·omega
   ·omega
   ·exact absurd h5 h
theorem zm5 {L:Lp} {t:Tg} {P:Int} {T:List Int} (h1:(zx L && zp t)=true) (h2:1<=P) (h3:P<=200) (h4:T.length=L.body.length):zD L t P T=(zh (Y6 L t P T) T.length && zh (fun i=>Yz P T (zu (z8 L t) i)) (z8 L t).length):=by
 have h5:zx L=true/\zp t=true:=by simpa using h1
 unfold zD
 rw [h5.1,h5.2,zK ⟨h2,h3⟩,decide_eq_true h4]
 rfl
theorem yY {w wr:World} {L:Lp} {a0 a1 a2 ta:Option Addr} {cap0 cap1 cap2 tc:Nat} {p0 p1 p2 q0 q1 q2 r P:Int} {T:List Int} (h:Below (w.heap.size+1+1+1) (((w.alloc (.cells #[.slice a0 L.logs.length cap0,.slice a1 L.body.length cap1,.slice a2 L.outs.length cap2] 25)).alloc (.cells #[iV p0,iV p1,iV p2,iV q0,iV q1,iV q2,iV r] 28)).alloc (.cells #[iV P,.slice ta T.length tc] 49)) wr):(wr.cell? ⟨w.heap.size,0,none⟩=some (.slice a0 L.logs.length cap0)/\wr.cell? ⟨w.heap.size,1,none⟩=some (.slice a1 L.body.length cap1)/\wr.cell? ⟨w.heap.size,2,none⟩=some (.slice a2 L.outs.length cap2)) /\
  (wr.cell? ⟨w.heap.size+1,0,none⟩=some (iV p0)/\wr.cell? ⟨w.heap.size+1,1,none⟩=some (iV p1)/\wr.cell? ⟨w.heap.size+1,2,none⟩=some (iV p2)/\wr.cell? ⟨w.heap.size+1,3,none⟩=some (iV q0)/\wr.cell? ⟨w.heap.size+1,4,none⟩=some (iV q1)/\wr.cell? ⟨w.heap.size+1,5,none⟩=some (iV q2)/\wr.cell? ⟨w.heap.size+1,6,none⟩=some (iV r)) /\
  (wr.cell? ⟨w.heap.size+1+1,0,none⟩=some (iV P)/\wr.cell? ⟨w.heap.size+1+1,1,none⟩=some (.slice ta T.length tc))/\w.heap.size+1+1<wr.heap.size/\Below w.heap.size w wr:=by
 have hs:(((w.alloc (.cells #[.slice a0 L.logs.length cap0,.slice a1 L.body.length cap1,.slice a2 L.outs.length cap2] 25)).alloc (.cells #[iV p0,iV p1,iV p2,iV q0,iV q1,iV q2,iV r] 28)).alloc (.cells #[iV P,.slice ta T.length tc] 49)).heap.size=w.heap.size+1+1+1:=by simp
 have hz:=h.size
 have h':Below (((w.alloc (.cells #[.slice a0 L.logs.length cap0,.slice a1 L.body.length cap1,.slice a2 L.outs.length cap2] 25)).alloc (.cells #[iV p0,iV p1,iV p2,iV q0,iV q1,iV q2,iV r] 28)).alloc (.cells #[iV P,.slice ta T.length tc] 49)).heap.size (((w.alloc (.cells #[.slice a0 L.logs.length cap0,.slice a1 L.body.length cap1,.slice a2 L.outs.length cap2] 25)).alloc (.cells #[iV p0,iV p1,iV p2,iV q0,iV q1,iV q2,iV r] 28)).alloc (.cells #[iV P,.slice ta T.length tc] 49)) wr:=by rw [hs];exact h
 refine⟨⟨?_,?_,?_⟩,⟨?_,?_,?_,?_,?_,?_,?_⟩,⟨?_,?_⟩,by omega,(below_alloc3 w _ _ _).trans (h.mono (by omega))⟩
 all_goals rw [zc h' _ _ (by omega)]
 all_goals go_simp
theorem VO (o:Int):∃cn:Nat,zC o=(cn:Int)/\cn<3:=by
 rcases Y2 o with h | h | h
 ·exact⟨0,h,by omega⟩
 ·exact⟨1,h,by omega⟩
 ·exact⟨2,h,by omega⟩
set_option maxRecDepth 8192
def yC (L:Lp) (t:Tg) (k:Nat):Int:=yH (fun i=>zr t (z6 L.body i).o) k
def Zm (L:Lp) (t:Tg):Int:=yC L t L.body.length
theorem xp {t:Tg} (o:Int) (h:zp t=true):1<=zr t o/\zr t o<=6:=by
 obtain⟨h1,h2,h3,-,-⟩:=yi h
 have h1:=zT h1
 have h2:=zT h2
 have h3:=zT h3
 have hw:zr t o=xA t (zC o):=by unfold zr;rw [if_pos h]
 rw [hw]
 unfold xA
 split
 ·omega
 ·split <;> omega
theorem V0 {L:Lp} {t:Tg} (h:zp t=true):∀k,0<=yC L t k/\yC L t k<=6*k:=by
 intro k
 induction k with
 | zero=>exact⟨Int.le_refl _,Int.le_refl _⟩
 | succ k ih =>
   have:=xp (z6 L.body k).o h
   show 0<=yC L t k+zr t (z6 L.body k).o/\yC L t k+zr t (z6 L.body k).o<=_
   omega
set_option maxHeartbeats 4000000 in
theorem zl3 (p0 p1 p2 q0 q1 q2 r:Int) (L:Lp) (v0 v2:Value) (b off cap:Nat) (w:World) (hl:L.body.length<=cap) (hm:cap<=9223372036854775807) (hb:b<w.heap.size) (hcell:∀i,i<L.body.length->∀j,j<9->w.cell? ⟨b,off+i*9+j,none⟩=(zJ (z6 L.body i))[j]?) (h16:L.body.length<=16) (hmt:zp ⟨p0,p1,p2,q0,q1,q2,r⟩=true) :
  Calls Tryz.prog 24 #[.agg #[v0,.slice (some ⟨b,off,none⟩) L.body.length cap,v2],.agg #[iV p0,iV p1,iV p2,iV q0,iV q1,iV q2,iV r]] w fun e w'=>e=.returned (iV (Zm L ⟨p0,p1,p2,q0,q1,q2,r⟩))/\Below w.heap.size w w':=by
 have HCE:=z5 hcell
 have HWL:=z5 (V0 (L:=L) hmt)
 have HWO:=z5 (fun o=>xp o hmt)
 clear hcell hmt
 go_enter Tryz.func24,Tryz.ntmps24
 go_wp2_with fail
 go_loopw [5,6] (fun nv i wr=>∃k:Nat,k<=L.body.length/\i=iV k/\nv=iV (yC L ⟨p0,p1,p2,q0,q1,q2,r⟩ k)/\Below (w.heap.size+1+1) ((w.alloc (.cells #[v0,.slice (some ⟨b,off,none⟩) L.body.length cap,v2] 25)).alloc (.cells #[iV p0,iV p1,iV p2,iV q0,iV q1,iV q2,iV r] 28)) wr) (fun _ i _=>L.body.length - (intOf i).toNat)
 case atStart=>exact⟨0,Nat.zero_le _,rfl,rfl,Below.refl _ _⟩
 case round =>
  obtain⟨k,hk,rfl,rfl,hbel⟩:=hrel
  have HB:=z5 hbel
  have hbx:=zI hbel
  obtain⟨⟨l0,l1,l2⟩,⟨t0,t1,t2,t3,t4,t5,t6⟩,z0,z1,hbw⟩:=hbx
  have HBW:=z5 hbw
  by_cases hkl:k<L.body.length
  ·have hki:(k:Int)<(L.body.length:Int):=by omega
   have c0:=(Zj (HCE.out k hkl)).1
   rw [<-zc hbw _ _ hb] at c0
   have hbz:b<wr.heap.size:=by have:=hbw.size;omega
   have HWT:=z5 (fun W=>YU p0 p1 p2 q0 q1 q2 r (z6 L.body k).o W)
   have HST:Hid (yC L ⟨p0,p1,p2,q0,q1,q2,r⟩ (k+1)=yC L ⟨p0,p1,p2,q0,q1,q2,r⟩ k+zr ⟨p0,p1,p2,q0,q1,q2,r⟩ (z6 L.body k).o):=rfl
   obtain⟨hw1,hw2⟩:=HWO.out (z6 L.body k).o
   obtain⟨hs1,hs2⟩:=HWL.out k
   generalize (z6 L.body k).o=ok at *
   generalize zr ⟨p0,p1,p2,q0,q1,q2,r⟩ ok=wk at *
   generalize yC L ⟨p0,p1,p2,q0,q1,q2,r⟩ k=sk at *
   have H0:Hid ((wr.cell? ⟨w.heap.size,0,none⟩=some v0/\wr.cell? ⟨w.heap.size,1,none⟩=some (.slice (some ⟨b,off,none⟩) L.body.length cap)/\wr.cell? ⟨w.heap.size,2,none⟩=some v2)/\(wr.cell? ⟨w.heap.size+1,0,none⟩=some (iV p0)/\wr.cell? ⟨w.heap.size+1,1,none⟩=some (iV p1)/\wr.cell? ⟨w.heap.size+1,2,none⟩=some (iV p2)/\wr.cell? ⟨w.heap.size+1,3,none⟩=some (iV q0)/\wr.cell? ⟨w.heap.size+1,4,none⟩=some (iV q1)/\wr.cell? ⟨w.heap.size+1,5,none⟩=some (iV q2)/\wr.cell? ⟨w.heap.size+1,6,none⟩=some (iV r))/\wr.cell? ⟨b,off+k*9,none⟩=some (iV ok)):=⟨⟨l0,l1,l2⟩,⟨t0,t1,t2,t3,t4,t5,t6⟩,c0⟩
   clear hbel hbw
   go_wp2_with fail
   clear l0 l1 l2 t0 t1 t2 t3 t4 t5 t6 c0
   refine wp_region_noPanic ?_
   refine ze 99 (fun w'=>(w'.cell? ⟨w.heap.size,0,none⟩=some v0/\w'.cell? ⟨w.heap.size,1,none⟩=some (.slice (some ⟨b,off,none⟩) L.body.length cap)/\w'.cell? ⟨w.heap.size,2,none⟩=some v2)/\(w'.cell? ⟨w.heap.size+1,0,none⟩=some (iV p0)/\w'.cell? ⟨w.heap.size+1,1,none⟩=some (iV p1)/\w'.cell? ⟨w.heap.size+1,2,none⟩=some (iV p2)/\w'.cell? ⟨w.heap.size+1,3,none⟩=some (iV q0)/\w'.cell? ⟨w.heap.size+1,4,none⟩=some (iV q1)/\w'.cell? ⟨w.heap.size+1,5,none⟩=some (iV q2)/\w'.cell? ⟨w.heap.size+1,6,none⟩=some (iV r))/\w'.cell? ⟨b,off+k*9,none⟩=some (iV ok)) (by kernel_rfl) H0.out (fun hHeld=>?_)
   refine utk (i:=0) rfl hHeld ?_
   refine utk (i:=1) rfl hHeld ?_
   refine utk (i:=2) rfl hHeld ?_
   refine utk (i:=3) rfl hHeld ?_
   refine utk (i:=4) rfl hHeld ?_
   refine utk (i:=5) rfl hHeld ?_
   refine utk (i:=6) rfl hHeld ?_
   refine z9 (i:=7) rfl (by kernel_rfl) (fun K hK=>?_)
   go_simp
   refine (HWT.out _).mono ?_
   rintro e x2 ⟨rfl,hb2⟩
   have HB2:Hid (Below wr.heap.size wr x2):=(Below.refl _ _).drew.trans hb2
   have hc2:=zc HB2.out
   have hHeld2:(x2.cell? ⟨w.heap.size,0,none⟩=some v0/\x2.cell? ⟨w.heap.size,1,none⟩=some (.slice (some ⟨b,off,none⟩) L.body.length cap)/\x2.cell? ⟨w.heap.size,2,none⟩=some v2)/\(x2.cell? ⟨w.heap.size+1,0,none⟩=some (iV p0)/\x2.cell? ⟨w.heap.size+1,1,none⟩=some (iV p1)/\x2.cell? ⟨w.heap.size+1,2,none⟩=some (iV p2)/\x2.cell? ⟨w.heap.size+1,3,none⟩=some (iV q0)/\x2.cell? ⟨w.heap.size+1,4,none⟩=some (iV q1)/\x2.cell? ⟨w.heap.size+1,5,none⟩=some (iV q2)/\x2.cell? ⟨w.heap.size+1,6,none⟩=some (iV r))/\x2.cell? ⟨b,off+k*9,none⟩=some (iV ok):=by
    rw [hc2 _ _ z0,hc2 _ _ z0,hc2 _ _ z0,hc2 _ _ z1,hc2 _ _ z1,hc2 _ _ z1,hc2 _ _ z1,hc2 _ _ z1,hc2 _ _ z1,hc2 _ _ z1,hc2 _ _ hbz]
    exact H0.out
   clear hb2 hc2 hHeld
   refine nxt hK.out (.inr hHeld2) ?_
   clear hK K
   refine z9 (i:=8) rfl (by kernel_rfl) (fun K hK=>?_)
   go_simp
   refine nxt hK.out (.inr hHeld2) ?_
   clear hK K
   refine zf (by kernel_rfl) ?_ _
   refine NoPanic.normal ?_
   clear hHeld2
   go_wp2_with fail
   go_roundw
   case rel=>exact⟨k+1,by omega,by go_num,by rw [HST.out],HB.out.trans (HB2.out.mono (by omega))⟩
   case measure=>simp [intOf];omega
  ·have e:k=L.body.length:=by omega
   subst e
   have hki:¬(L.body.length:Int)<(L.body.length:Int):=by omega
   clear hbel hbw
   go_wp2_with fail
   go_ret
   exact⟨rfl,HBW.out⟩
theorem zod (t:Tg) (L:Lp) (v:Value) (w:World) (hL:zk w v L) (hm:zx L=true) (hmt:zp t=true) :
  Calls Tryz.prog 24 #[v,.agg t.cells] w fun e w'=>e=.returned (iV (Zm L t))/\Below w.heap.size w w':=by
 obtain⟨-,h1,h16,-⟩:=zj hm
 obtain⟨v0,v1,v2,rfl,-,⟨a,cap,rfl,hl,hc,h4⟩,-⟩:=hL
 obtain⟨b,off,rfl,hb,hcell⟩:=h4 (by omega)
 obtain⟨p0,p1,p2,q0,q1,q2,r⟩:=t
 exact zl3 p0 p1 p2 q0 q1 q2 r L v0 v2 b off cap w hl (by unfold maxLen at hc;omega) hb hcell h16 hmt
set_option maxRecDepth 8192
def YZ:Prop:=∀(v pv:Value) (t:Tg) (L:Lp) (P:Int) (T:List Int) (w:World),zk w v L->Zl w pv P T ->
 Calls Tryz.prog 40 #[v,.agg t.cells,pv] w fun e w'=>e=.returned (.bool (zD L t P T))/\Below w.heap.size w w'
end Go.Proofs.YtjoapiafpahihabGreat
