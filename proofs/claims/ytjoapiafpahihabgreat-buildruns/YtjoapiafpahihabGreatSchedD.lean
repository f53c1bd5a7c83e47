import Derived.Test.YtjoapiafpahihabGreatSchedF
import Derived.Test.YtjoapiafpahihabGreatSchedOne
import Derived.Test.YtjoapiafpahihabGreatBoundP
namespace Go.Proofs.YtjoapiafpahihabGreat
open Go.Proofs.Tryz
open Go.RowKit Go.Joins
set_option linter.unusedVariables false
set_option linter.unusedSimpArgs false
set_option maxRecDepth 8192
variable {y:World}
theorem Uz {w:World} {L:Lp} {a0 a1 a2:Option Addr} {gA gB gC:Nat} {p0 p1 p2 q0 q1 q2 r:Int} (h:Below (w.heap.size+1+1+1) (((w.alloc (.cells #[.slice a0 L.l.length gA,.slice a1 L.b.length gB,.slice a2 L.o.length gC] 25)).alloc (.cells #[iV p0,iV p1,iV p2,iV q0,iV q1,iV q2,iV r] 28)).alloc (.cells #[iV 0,.slice none 0 0] 49)) y):((y.cell? (ad w.heap.size 0)=some (.slice a0 L.l.length gA)/\y.cell? (ad w.heap.size 1)=some (.slice a1 L.b.length gB)/\y.cell? (ad w.heap.size 2)=some (.slice a2 L.o.length gC))/\(y.cell? (ad (w.heap.size+1) 0)=sI p0/\y.cell? (ad (w.heap.size+1) 1)=sI p1/\y.cell? (ad (w.heap.size+1) 2)=sI p2/\y.cell? (ad (w.heap.size+1) 3)=sI q0/\y.cell? (ad (w.heap.size+1) 4)=sI q1/\y.cell? (ad (w.heap.size+1) 5)=sI q2/\y.cell? (ad (w.heap.size+1) 6)=sI r))/\y.heap[(w.heap.size+1+1)]?=some (.cells #[iV 0,.slice none 0 0] 49 (0,0)):=by
 have e2:((w.alloc (.cells #[.slice a0 L.l.length gA,.slice a1 L.b.length gB,.slice a2 L.o.length gC] 25)).alloc (.cells #[iV p0,iV p1,iV p2,iV q0,iV q1,iV q2,iV r] 28)).heap.size=w.heap.size+1+1:=by simp
 have e1:(w.alloc (.cells #[.slice a0 L.l.length gA,.slice a1 L.b.length gB,.slice a2 L.o.length gC] 25)).heap.size=w.heap.size+1:=by simp
 have b2:y.heap[(w.heap.size+1+1)]?=some (.cells #[iV 0,.slice none 0 0] 49 (0,0)):=by
  rw [h.block _ (by omega),<-e2];exact zD _ _ _
 have b1:y.heap[w.heap.size+1]?=some (.cells #[iV p0,iV p1,iV p2,iV q0,iV q1,iV q2,iV r] 28 (0,0)):=by
  rw [h.block _ (by omega),Below.heap_alloc _ _ _ (by simp),<-e1];exact zD _ _ _
 have b0:y.heap[w.heap.size]?=some (.cells #[.slice a0 L.l.length gA,.slice a1 L.b.length gB,.slice a2 L.o.length gC] 25 (0,0)):=by
  rw [h.block _ (by omega),Below.heap_alloc _ _ _ (by simp;omega),Below.heap_alloc _ _ _ (by simp)];exact zD _ _ _
 refine⟨⟨⟨?_,?_,?_⟩,⟨?_,?_,?_,?_,?_,?_,?_⟩⟩,b2⟩
 all_goals first | (rw [cell_of_block b0];rfl) | (rw [cell_of_block b1];rfl)
theorem za4 {g n c:Nat} {T:List Int} {b:Nat} (h:zK y (.slice (pA g) n c) T) (hb:b≠g) (i:Nat) (v:Value):zK (y.setCell (ad b i) v) (.slice (pA g) n c) T/\True:=by
 obtain⟨a,cap,e,h1,h2,h3,h4⟩:=h
 refine⟨⟨a,cap,e,h1,h2,h3,fun hp=>?_⟩,trivial⟩
 obtain⟨b',off,e2,h5,h6⟩:=h4 hp
 injection e with e3
 rw [e2] at e3
 injection e3 with e3
 injection e3 with e3 e4
 refine⟨b',off,e2,by simpa using h5,fun i hi=>?_⟩
 rw [Zg (Below.heap_setCell _ _ _ _ (show b'≠b by omega))]
 exact h6 i hi
def znt (L:Lp) (t:Tg) (gU:Int) (w:World) (e:Ending) (w':World):Prop:=Bw w w'/\∃P ta tl tc c,e=.returned (.tuple #[.agg #[iV P,.slice ta tl tc],iV c]) /\
    ((zY L && yj t)=false->c=2/\P=0/\tl=0)/\((zY L && yj t)=true->inR gU 1 200=false->c=3/\P=0/\tl=0) /\
    ((zY L && yj t)=true->inR gU 1 200=true->c=0/\∃T,tl=T.length/\zK w' (.slice ta tl tc) T/\zV L t P T=true/\gU<=P/\P<=max gU (Xc L t))
set_option maxHeartbeats 16000000 in
theorem zuz (hE:Zv) (hB:zns) (p0 p1 p2 q0 q1 q2 r:Int) (L:Lp) (a0 a2:Option Addr) (bb bo:Nat) (gA gB gC:Nat) (gU:Int) (w:World) (hL:zE w ((lv L a0 (some (ad bb bo)) a2 gA gB gC)) L) (hm:zY L=true) (ht:yj ⟨p0,p1,p2,q0,q1,q2,r⟩=true) (hr1:1<=gU) (hr2:gU<=200) :
  Calls prog 108 #[(lv L a0 (some (ad bb bo)) a2 gA gB gC),(tv p0 p1 p2 q0 q1 q2 r),iV gU] w fun e w'=>znt L ⟨p0,p1,p2,q0,q1,q2,r⟩ gU w e w':=by
 have hmt:(zY L && yj ⟨p0,p1,p2,q0,q1,q2,r⟩)=true:=by rw [hm,ht];rfl
 have HB3:=z9 (below_alloc3 w (.cells #[.slice a0 L.l.length gA,.slice (some (ad bb bo)) L.b.length gB,.slice a2 L.o.length gC] 25) (.cells #[iV p0,iV p1,iV p2,iV q0,iV q1,iV q2,iV r] 28) (.cells #[iV 0,.slice none 0 0] 49))
 have HS3:Hid ((((w.alloc (.cells #[.slice a0 L.l.length gA,.slice (some (ad bb bo)) L.b.length gB,.slice a2 L.o.length gC] 25)).alloc (.cells #[iV p0,iV p1,iV p2,iV q0,iV q1,iV q2,iV r] 28)).alloc (.cells #[iV 0,.slice none 0 0] 49)).heap.size=(w.heap.size+1+1+1)):=by show _=_;simp
 have HBC:=z9 (hB _ ⟨p0,p1,p2,q0,q1,q2,r⟩ L (((w.alloc (.cells #[.slice a0 L.l.length gA,.slice (some (ad bb bo)) L.b.length gB,.slice a2 L.o.length gC] 25)).alloc (.cells #[iV p0,iV p1,iV p2,iV q0,iV q1,iV q2,iV r] 28)).alloc (.cells #[iV 0,.slice none 0 0] 49)) (hL.gE HB3.out) hmt)
 have HM:=z9 (fun W (h:zE W ((lv L a0 (some (ad bb bo)) a2 gA gB gC)) L)=>hE ((lv L a0 (some (ad bb bo)) a2 gA gB gC)) ⟨p0,p1,p2,q0,q1,q2,r⟩ L W h hmt)
 have HWI:=z9 (fun W=>VM gU 1 200 W)
 rw [yf ⟨hr1,hr2⟩] at HWI
 have HL:=z9 hL
 obtain⟨-,hl1,hl16,-⟩:=zw hm
 obtain⟨v0,v1,v2,hv,-,⟨a1',c1',hv1,hlc,hmc,hc1⟩,-⟩:=hL
 injection hv with hv
 obtain⟨e0,e1,e2⟩:(.slice a0 L.l.length gA:Value)=v0/\(.slice (some (ad bb bo)) L.b.length gB:Value)=v1/\(.slice a2 L.o.length gC:Value)=v2:=by simpa using hv
 subst e1
 injection hv1 with f1 f2 f3
 subst f1;subst f3
 obtain⟨bb',bo',hbe,hbb,gQ⟩:=hc1 (by omega)
 injection hbe with hbe
 injection hbe with g1 g2
 subst g1;subst g2
 unfold maxLen at hmc
 have HONE:=z9 (fun W (hW:Bw w W)=>zac p0 p1 p2 q0 q1 q2 r L (.slice a0 L.l.length gA) (.slice a2 L.o.length gC) bb bo gB gU W hm ht hr1 hr2 (Nat.lt_of_lt_of_le hbb hW.size) hlc (by omega) (fun i hi j hj=>(zf hW _ _ hbb).trans (gQ i hi j hj)))
 have HAT:=z9 (fun W (P:Int) ea ec (hW:Bw w W) (hEV:Z8 W (.slice ea (zi L ⟨p0,p1,p2,q0,q1,q2,r⟩).length ec) (zi L ⟨p0,p1,p2,q0,q1,q2,r⟩)) (h1:1<=P) (h2:P<=200)=>zmt p0 p1 p2 q0 q1 q2 r L (.slice a0 L.l.length gA) (.slice a2 L.o.length gC) bb bo gB P ea ec W hm ht h1 h2 (Nat.lt_of_lt_of_le hbb hW.size) hlc (by omega) (fun i hi j hj=>(zf hW _ _ hbb).trans (gQ i hi j hj)) hEV)
 have hal:=zgx hm ht
 have hub:=zsv L ⟨p0,p1,p2,q0,q1,q2,r⟩
 have HSEQ:Hid (zV L ⟨p0,p1,p2,q0,q1,q2,r⟩ (max gU (Xc L ⟨p0,p1,p2,q0,q1,q2,r⟩)) (Uh L ⟨p0,p1,p2,q0,q1,q2,r⟩)=true):=zg6 hm ht (by omega) (by omega)
 have HLEN:Hid ((Uh L ⟨p0,p1,p2,q0,q1,q2,r⟩).length=L.b.length):=by show _=_;unfold Uh;simp
 have HEND:Hid (∀(W:World) (P:Int) ta tl tc,Bw w W->(∃T,tl=T.length/\zK W (.slice ta tl tc) T/\zV L ⟨p0,p1,p2,q0,q1,q2,r⟩ P T=true)->gU<=P->P<=max gU (Xc L ⟨p0,p1,p2,q0,q1,q2,r⟩)->znt L ⟨p0,p1,p2,q0,q1,q2,r⟩ gU w (.returned (.tuple #[.agg #[iV P,.slice ta tl tc],iV 0])) W):=fun W P ta tl tc h1 ⟨T,h2,h3,h4⟩ h5 h6=>⟨h1,P,ta,tl,tc,0,rfl,fun h=>absurd (hmt.symm.trans h) (by simp),fun _ h=>absurd ((yf ⟨hr1,hr2⟩).symm.trans h) (by simp),fun _ _=>⟨rfl,T,h2,h3,h4,h5,h6⟩⟩
 clear gQ hc1 hv hmt hm ht f2 e0 e2
 obtain⟨aw,haw⟩:∃aw,Xc L ⟨p0,p1,p2,q0,q1,q2,r⟩=aw:=⟨_,rfl⟩
 obtain⟨es,hes⟩:∃es,zi L ⟨p0,p1,p2,q0,q1,q2,r⟩=es:=⟨_,rfl⟩
 rw [haw] at hal HSEQ HEND
 have HAW:=z9 haw
 rw [hes] at HM HAT
 obtain⟨ub,hube⟩:∃ub,X7 L ⟨p0,p1,p2,q0,q1,q2,r⟩=ub:=⟨_,rfl⟩
 rw [hube] at HBC hub
 generalize ZA L ⟨p0,p1,p2,q0,q1,q2,r⟩=rb at HBC
 clear haw hes hube
 obtain⟨mx,hmx⟩:∃mx,max gU aw=mx:=⟨_,rfl⟩
 rw [hmx] at HSEQ HEND
 have hmx1:gU<=mx/\mx<=200:=by omega
 obtain⟨hmx1,hmx2⟩:=hmx1
 have HMX:Hid (max gU (Xc L ⟨p0,p1,p2,q0,q1,q2,r⟩)=mx):=by show _=_;rw [HAW.out];exact hmx
 go_enter func108,ntmps108
 go_wp2_with fail
 refine HBC.out.mono ?_
 rintro e x1 ⟨rfl,hb1⟩
 have HX1:Hid (Below (w.heap.size+1+1+1) (((w.alloc (.cells #[.slice a0 L.l.length gA,.slice (some (ad bb bo)) L.b.length gB,.slice a2 L.o.length gC] 25)).alloc (.cells #[iV p0,iV p1,iV p2,iV q0,iV q1,iV q2,iV r] 28)).alloc (.cells #[iV 0,.slice none 0 0] 49)) x1):=by show Below _ _ _;rw [<-HS3.out];exact hb1
 have HW1:Hid (Bw w x1):=HB3.out.trans (hb1.mono HB3.out.size)
 have hz1:(w.heap.size+1+1+1)<=x1.heap.size:=by have:=HX1.out.size;rw [HS3.out] at this;exact this
 obtain⟨⟨⟨l0,l1,l2⟩,⟨t0,t1,t2,t3,t4,t5,t6⟩⟩,-⟩:=Uz HX1.out
 clear hb1 HBC hmx
 go_wp2_with (go_at_call 132;refine (HWI.out _).mono ?_;rintro e w' ⟨rfl,hw'⟩;have hw':=hw'.symm;subst hw')
 refine (HM.out _ (HL.out.gE HW1.out)).mono ?_
 rintro e x2 ⟨ea,en,ec,rfl,hev,hb2⟩
 obtain⟨ea2,ec2,hen,-⟩:=id hev
 injection hen with hen1 hen2 hen3
 subst hen1;subst hen2;subst hen3
 have HX2:Hid (Below (w.heap.size+1+1+1) (((w.alloc (.cells #[.slice a0 L.l.length gA,.slice (some (ad bb bo)) L.b.length gB,.slice a2 L.o.length gC] 25)).alloc (.cells #[iV p0,iV p1,iV p2,iV q0,iV q1,iV q2,iV r] 28)).alloc (.cells #[iV 0,.slice none 0 0] 49)) x2):=HX1.out.trans (hb2.mono hz1)
 have HW2:Hid (Bw w x2):=HW1.out.trans (hb2.mono HW1.out.size)
 have hz2:(w.heap.size+1+1+1)<=x2.heap.size:=Nat.le_trans hz1 hb2.size
 have HEV2:=z9 hev
 clear l0 l1 l2 t0 t1 t2 t3 t4 t5 t6 hb2 hev HM
 obtain⟨⟨⟨l0,l1,l2⟩,⟨t0,t1,t2,t3,t4,t5,t6⟩⟩,-⟩:=Uz HX2.out
 go_wp2_with fail
 refine (HONE.out _ HW2.out).mono ?_
 rintro e x3 ⟨hb3,g3,tc3,rfl,hg3,hints⟩
 rw [HMX.out]
 have HX3:Hid (Below (w.heap.size+1+1+1) (((w.alloc (.cells #[.slice a0 L.l.length gA,.slice (some (ad bb bo)) L.b.length gB,.slice a2 L.o.length gC] 25)).alloc (.cells #[iV p0,iV p1,iV p2,iV q0,iV q1,iV q2,iV r] 28)).alloc (.cells #[iV 0,.slice none 0 0] 49)) x3):=HX2.out.trans (hb3.mono hz2)
 have HW3:Hid (Bw w x3):=HW2.out.trans (hb3.mono HW2.out.size)
 have hz3:(w.heap.size+1+1+1)<=x3.heap.size:=Nat.le_trans hz2 hb3.size
 have HEV3:=z9 (HEV2.out.gE hb3)
 have HIN3:=z9 hints
 have HX4:Hid (Bw x3 (x3.alloc (.cells #[iV mx,.slice (pA g3) L.b.length tc3] 49))):=below_alloc1 _ _
 have HS4:Hid ((x3.alloc (.cells #[iV mx,.slice (pA g3) L.b.length tc3] 49)).heap[x3.heap.size]?=some (.cells #[iV mx,.slice (pA g3) L.b.length tc3] 49 (0,0))):=zD _ _ _
 have HZ4:Hid ((x3.alloc (.cells #[iV mx,.slice (pA g3) L.b.length tc3] 49)).heap.size=x3.heap.size+1):=by show _=_;simp
 clear l0 l1 l2 t0 t1 t2 t3 t4 t5 t6 hb3 hints HEV2 HONE
 go_wp2_with fail
 all_goals
  go_loopw [14] (fun pv wr=>∃pc:Int,pv=iV pc/\gU<=pc/\Below (x3.heap.size+1) (x3.alloc (.cells #[iV mx,.slice (pA g3) L.b.length tc3] 49)) wr) (fun pv _=>(mx - intOf pv).toNat)
  case atStart=>exact⟨_,rfl,by omega,Below.refl _ _⟩
  case round =>
   obtain⟨pc,rfl,hpc,gH⟩:=hrel
   have HB:=z9 gH
   have HBX:Hid (Bw x3 wr):=HX4.out.trans (gH.mono (by omega))
   have HXW:Hid (Below (w.heap.size+1+1+1) (((w.alloc (.cells #[.slice a0 L.l.length gA,.slice (some (ad bb bo)) L.b.length gB,.slice a2 L.o.length gC] 25)).alloc (.cells #[iV p0,iV p1,iV p2,iV q0,iV q1,iV q2,iV r] 28)).alloc (.cells #[iV 0,.slice none 0 0] 49)) wr):=HX3.out.trans (HBX.out.mono hz3)
   have HWW:Hid (Bw w wr):=HW3.out.trans (HBX.out.mono HW3.out.size)
   have hsz:x3.heap.size+1<=wr.heap.size:=by have:=gH.size;rw [HZ4.out] at this;exact this
   have hsb:wr.heap[x3.heap.size]?=some (.cells #[iV mx,.slice (pA g3) L.b.length tc3] 49 (0,0)):=(gH.block _ (by omega)).trans HS4.out
   have m0:wr.cell? (ad x3.heap.size 0)=sI mx:=by rw [cell_of_block hsb];rfl
   have m1:wr.cell? (ad x3.heap.size 1)=some (.slice (pA g3) L.b.length tc3):=by rw [cell_of_block hsb];rfl
   obtain⟨⟨⟨l0,l1,l2⟩,⟨t0,t1,t2,t3,t4,t5,t6⟩⟩,hz⟩:=Uz HXW.out
   have HZ:=z9 hz
   have hgm:=hg3
   clear gH hsb hz
   by_cases hlt:pc<mx
   ·have HATC:=z9 (HAT.out wr pc ea ec HWW.out (HEV3.out.gE HBX.out) (by omega) (by omega))
    go_wp2_with fail
    refine HATC.out.mono ?_
    rintro e x5 ⟨hb5,P5,ta5,tl5,tc5,bk5,rfl,hyes⟩
    have HB5:Hid (Below (x3.heap.size+1) (x3.alloc (.cells #[iV mx,.slice (pA g3) L.b.length tc3] 49)) x5):=HB.out.trans (hb5.mono hsz)
    have HW5:Hid (Bw w x5):=HWW.out.trans (hb5.mono HWW.out.size)
    have hz5:x5.heap[(w.heap.size+1+1)]?=some (.cells #[iV 0,.slice none 0 0] 49 (0,0)):=(hb5.block _ (by omega)).trans HZ.out
    have hs5:wr.heap.size<=x5.heap.size:=hb5.size
    have HYES:=z9 hyes
    clear hyes hb5 l0 l1 l2 t0 t1 t2 t3 t4 t5 t6 m0 m1
    cases bk5 with
    | true =>
      obtain⟨rfl,g5,T5,rfl,hg5,rfl,hin5,hleg5⟩:=HYES.out rfl
      have n0:x5.cell? (ad ((w.heap.size+1+1)) 0)=sI 0:=by rw [cell_of_block hz5];rfl
      have n1:x5.cell? (ad ((w.heap.size+1+1)) 1)=some (.slice none 0 0):=by rw [cell_of_block hz5];rfl
      have k0:x5.frozen? (ad ((w.heap.size+1+1)) 0)=false:=by simp [World.frozen?,hz5]
      have k1:x5.frozen? (ad ((w.heap.size+1+1)) 1)=false:=by simp [World.frozen?,hz5]
      have hrz:(w.heap.size+1+1)<x5.heap.size:=(Array.getElem?_eq_some_iff.1 hz5).1
      have hne5:¬x5.heap.size=(w.heap.size+1+1):=by omega
      have hne6:¬(w.heap.size+1+1)=x5.heap.size:=by omega
      obtain⟨s0,s1⟩:=ZQ (a':=iV P5) (b':=.slice (pA g5) T5.length tc5) hz5
      have HF:Hid (∀o,znt L ⟨p0,p1,p2,q0,q1,q2,r⟩ gU w (.returned (.tuple #[.agg #[iV P5,.slice (pA g5) T5.length tc5],iV 0])) (((x5.setCell (ad ((w.heap.size+1+1)) 0) (iV P5)).setCell (ad ((w.heap.size+1+1)) 1) (.slice (pA g5) T5.length tc5)).alloc o)):=fun o=>by
       refine HEND.out _ P5 _ _ _ (((HW5.out.setCell (by show w.heap.size<=(w.heap.size+1+1);omega) _).setCell (by show w.heap.size<=(w.heap.size+1+1);omega) _).alloc (by have:=HW5.out.size;simp;omega) _) ⟨T5,rfl,?_,hleg5⟩ hpc (by omega)
       exact ((za4 hin5 (show (w.heap.size+1+1)≠g5 by omega) 0 _).1 |> fun h=>(za4 h (show (w.heap.size+1+1)≠g5 by omega) 1 _).1).gE (below_alloc1 _ _)
      clear hz5 hin5 hleg5
      have HS01:Hid (∀o,(((x5.setCell (ad ((w.heap.size+1+1)) 0) (iV P5)).setCell (ad ((w.heap.size+1+1)) 1) (.slice (pA g5) T5.length tc5)).alloc o).cell? (ad ((w.heap.size+1+1)) 0)=sI P5/\(((x5.setCell (ad ((w.heap.size+1+1)) 0) (iV P5)).setCell (ad ((w.heap.size+1+1)) 1) (.slice (pA g5) T5.length tc5)).alloc o).cell? (ad ((w.heap.size+1+1)) 1)=some (.slice (pA g5) T5.length tc5)):=fun o=>⟨(zf (below_alloc1 _ _) _ _ (by simpa using hrz)).trans s0,(zf (below_alloc1 _ _) _ _ (by simpa using hrz)).trans s1⟩
      clear s0 s1
      go_wp2_with fail
      obtain⟨s0,s1⟩:=HS01.out (.cells #[iV P5,.slice (pA g5) T5.length tc5] 49)
      exact bodyPost_ret (v:=.tuple #[.agg #[iV P5,.slice (pA g5) T5.length tc5],iV 0]) (by simp [results,results108,go_sem,s0,s1]) rfl (HF.out _)
    | false =>
      go_wp2_with fail
      go_roundw
      case rel=>exact⟨pc+1,by go_num,by omega,HB5.out.alloc (by have:=HB5.out.size;rw [HZ4.out] at this;exact this) _⟩
      case measure=>simp [intOf];omega
   ·have HIN4:=z9 (HIN3.out.gE HBX.out)
    have n0:wr.cell? (ad ((w.heap.size+1+1)) 0)=sI 0:=by rw [cell_of_block HZ.out];rfl
    have n1:wr.cell? (ad ((w.heap.size+1+1)) 1)=some (.slice none 0 0):=by rw [cell_of_block HZ.out];rfl
    have k0:wr.frozen? (ad ((w.heap.size+1+1)) 0)=false:=by simp [World.frozen?,HZ.out]
    have k1:wr.frozen? (ad ((w.heap.size+1+1)) 1)=false:=by simp [World.frozen?,HZ.out]
    obtain⟨s0,s1⟩:=ZQ (a':=iV mx) (b':=.slice (pA g3) L.b.length tc3) HZ.out
    have HF:Hid (znt L ⟨p0,p1,p2,q0,q1,q2,r⟩ gU w (.returned (.tuple #[.agg #[iV mx,.slice (pA g3) L.b.length tc3],iV 0])) ((wr.setCell (ad ((w.heap.size+1+1)) 0) (iV mx)).setCell (ad ((w.heap.size+1+1)) 1) (.slice (pA g3) L.b.length tc3))):=by
     refine HEND.out _ mx _ _ _ ((HWW.out.setCell (by show w.heap.size<=(w.heap.size+1+1);omega) _).setCell (by show w.heap.size<=(w.heap.size+1+1);omega) _) ⟨Uh L ⟨p0,p1,p2,q0,q1,q2,r⟩,HLEN.out.symm,?_,HSEQ.out⟩ hmx1 (Int.le_refl _)
     exact (za4 (za4 HIN4.out (show (w.heap.size+1+1)≠g3 by omega) 0 _).1 (show (w.heap.size+1+1)≠g3 by omega) 1 _).1
    go_wp2_with fail
    exact bodyPost_ret (v:=.tuple #[.agg #[iV mx,.slice (pA g3) L.b.length tc3],iV 0]) (by simp [results,results108,go_sem,s0,s1]) rfl HF.out
end Go.Proofs.YtjoapiafpahihabGreat
