import Derived.Test.YtjoapiafpahihabGreatSchedA
import Derived.Test.YtjoapiafpahihabGreatDepP
namespace Go.Proofs.YtjoapiafpahihabGreat
open Go.RowKit Go.Joins
set_option linter.unusedVariables false
set_option linter.unusedSimpArgs false
set_option maxRecDepth 8192
set_option maxHeartbeats 4000000 in
theorem zn5 (hE:Zv) (p0 p1 p2 q0 q1 q2 r:Int) (L:Lp) (a0 a2:Option Addr) (bb bo:Nat) (gA gB gC:Nat) (P:Int) (T:List Int) (tb tz:Nat) (tc:Nat) (w:World) (hL:zE w ((lv L a0 (some (ad bb bo)) a2 gA gB gC)) L) (hT:zK w (.slice (some (ad tb tz)) T.length tc) T) (h:T.length=L.b.length) (hm:zY L=true) (ht:yj ⟨p0,p1,p2,q0,q1,q2,r⟩=true) :
  Calls Tryz.prog 40 #[(lv L a0 (some (ad bb bo)) a2 gA gB gC),(tv p0 p1 p2 q0 q1 q2 r),.agg #[iV P,.slice (some (ad tb tz)) T.length tc]] w (Rt w (.bool (zV L ⟨p0,p1,p2,q0,q1,q2,r⟩ P T))):=by
 have HM:=z9 (fun W (h:zE W ((lv L a0 (some (ad bb bo)) a2 gA gB gC)) L)=>hE ((lv L a0 (some (ad bb bo)) a2 gA gB gC)) ⟨p0,p1,p2,q0,q1,q2,r⟩ L W h (by rw [hm,ht];rfl))
 have HB3:=z9 (below_alloc3 w (.cells #[.slice a0 L.l.length gA,.slice (some (ad bb bo)) L.b.length gB,.slice a2 L.o.length gC] 25) (.cells #[iV p0,iV p1,iV p2,iV q0,iV q1,iV q2,iV r] 28) (.cells #[iV P,.slice (some (ad tb tz)) T.length tc] 49))
 have HS3:Hid ((((w.alloc (.cells #[.slice a0 L.l.length gA,.slice (some (ad bb bo)) L.b.length gB,.slice a2 L.o.length gC] 25)).alloc (.cells #[iV p0,iV p1,iV p2,iV q0,iV q1,iV q2,iV r] 28)).alloc (.cells #[iV P,.slice (some (ad tb tz)) T.length tc] 49)).heap.size=w.heap.size+1+1+1):=by show _=_;simp
 obtain⟨-,hb1,h16,-⟩:=zw hm
 have HL:=z9 hL
 have HT:=z9 hT
 obtain⟨v0,v1,v2,hv,-,⟨a1',c1',hv1,hl1,hm1,hc1⟩,-⟩:=hL
 injection hv with hv
 obtain⟨e0,e1,e2⟩:(.slice a0 L.l.length gA:Value)=v0/\(.slice (some (ad bb bo)) L.b.length gB:Value)=v1/\(.slice a2 L.o.length gC:Value)=v2:=by simpa using hv
 subst e1
 injection hv1 with f1 f2 f3
 subst f1;subst f3
 obtain⟨bb',bo',hbe,hbb,gQ⟩:=hc1 (by omega)
 injection hbe with hbe
 injection hbe with g1 g2
 subst g1;subst g2
 obtain⟨ta',tc',hte,hl2,hm2,hr2,hc2⟩:=hT
 injection hte with f4 f5 f6
 subst f4;subst f6
 obtain⟨tb',tz',hte2,htb,htimes⟩:=hc2 (by omega)
 injection hte2 with hte2
 injection hte2 with g3 g4
 subst g3;subst g4
 unfold maxLen at hm1 hm2
 have HNU:=z9 (fun W (h:zK W (.slice (some (ad tb tz)) T.length tc) T)=>zdc P T (some (ad tb tz)) tc W h)
 have HOK:Hid (∀e∈zi L ⟨p0,p1,p2,q0,q1,q2,r⟩,zek L.b.length e):=fun e he=>by
  obtain⟨fr,to,bk,wt,h0,h1,h2,h3,h4,h5⟩:=Zc hm e he
  exact⟨fr,to,bk,wt,h0,h1,h2,h5,h4⟩
 have HLE:Hid (1<=P->P<=200->(zC (fun i=>inR (nth T i) 0 1000) T.length && zC (fun i=>Vu P T (zM (zi L ⟨p0,p1,p2,q0,q1,q2,r⟩) i)) (zi L ⟨p0,p1,p2,q0,q1,q2,r⟩).length && zC (Vc L ⟨p0,p1,p2,q0,q1,q2,r⟩ P T) T.length)=zV L ⟨p0,p1,p2,q0,q1,q2,r⟩ P T):=fun h1 h2=>zst ht h h1 h2 hm
 have HNO:Hid (¬(1<=P/\P<=200)->zV L ⟨p0,p1,p2,q0,q1,q2,r⟩ P T=false):=fun h=>zup (by by_cases h1:1<=P;exact .inr (.inr (.inl (by omega)));exact .inr (.inl (by omega)))
 have HEK:=z9 (fun W ea ec (hW:Bw w W) (hE:Z8 W (.slice ea (zi L ⟨p0,p1,p2,q0,q1,q2,r⟩).length ec) (zi L ⟨p0,p1,p2,q0,q1,q2,r⟩)) (hP1:1<=P) (hP2:P<=200) (hTT:∀i,i<L.b.length->0<=nth T i/\nth T i<=1000)=>zel L.b.length P T tb tz tc ea ec (zi L ⟨p0,p1,p2,q0,q1,q2,r⟩) W hE HOK.out h16 hP1 hP2 h (by omega) (by omega) (Nat.lt_of_lt_of_le htb hW.size) (fun i hi=>(zf hW _ _ htb).trans (htimes i (by omega))) hTT)
 have HUK:=z9 (fun W (hW:Bw w W) (hP1:1<=P) (hP2:P<=200) (hTT:∀i,i<L.b.length->0<=nth T i/\nth T i<=1000)=>zes p0 p1 p2 q0 q1 q2 r L (.slice a0 L.l.length gA) (.slice a2 L.o.length gC) bb bo gB P T tb tz tc W h16 hl1 (by omega) (Nat.lt_of_lt_of_le hbb hW.size) (fun i hi j hj=>(zf hW _ _ hbb).trans (gQ i hi j hj)) (by omega) (by omega) (Nat.lt_of_lt_of_le htb hW.size) (fun i hi=>(zf hW _ _ htb).trans (htimes i (by omega))) hTT hP1 hP2)
 have HIN:Hid (zC (fun i=>inR (nth T i) 0 1000) T.length=true->∀i,i<L.b.length->0<=nth T i/\nth T i<=1000):=fun ha i hi=>zx.1 (zo ha i (by omega))
 clear hm ht gQ htimes hr2 hc1 hc2 hv f2 f5 e0 e2
 generalize zV L ⟨p0,p1,p2,q0,q1,q2,r⟩ P T=lb at *
 obtain⟨es,hes⟩:∃es,zi L ⟨p0,p1,p2,q0,q1,q2,r⟩=es:=⟨_,rfl⟩
 rw [hes] at HM HLE HEK
 obtain⟨bn,hbn⟩:∃b,zC (fun i=>inR (nth T i) 0 1000) T.length=b:=⟨_,rfl⟩
 obtain⟨bp,hbp⟩:∃b,inR P 1 200=b:=⟨_,rfl⟩
 obtain⟨be,hbe⟩:∃b,zC (fun i=>Vu P T (zM es i)) es.length=b:=⟨_,rfl⟩
 obtain⟨bu,hbu⟩:∃b,zC (Vc L ⟨p0,p1,p2,q0,q1,q2,r⟩ P T) T.length=b:=⟨_,rfl⟩
 rw [hbn] at HLE HNU HIN
 rw [hbp] at HNU
 rw [hbe] at HLE HEK
 rw [hbu] at HLE
 rw [h] at hbu
 rw [hbu] at HUK
 have HBP:=z9 hbp
 have HCELLS:Hid (∀x,Below (w.heap.size+1+1+1) (((w.alloc (.cells #[.slice a0 L.l.length gA,.slice (some (ad bb bo)) L.b.length gB,.slice a2 L.o.length gC] 25)).alloc (.cells #[iV p0,iV p1,iV p2,iV q0,iV q1,iV q2,iV r] 28)).alloc (.cells #[iV P,.slice (some (ad tb tz)) T.length tc] 49)) x->(x.cell? (ad w.heap.size 0)=some (.slice a0 L.l.length gA)/\x.cell? (ad w.heap.size 1)=some (.slice (some (ad bb bo)) L.b.length gB)/\x.cell? (ad w.heap.size 2)=some (.slice a2 L.o.length gC)) /\
  (x.cell? (ad (w.heap.size+1) 0)=sI p0/\x.cell? (ad (w.heap.size+1) 1)=sI p1/\x.cell? (ad (w.heap.size+1) 2)=sI p2/\x.cell? (ad (w.heap.size+1) 3)=sI q0/\x.cell? (ad (w.heap.size+1) 4)=sI q1/\x.cell? (ad (w.heap.size+1) 5)=sI q2/\x.cell? (ad (w.heap.size+1) 6)=sI r) /\
  (x.cell? (ad (w.heap.size+1+1) 0)=sI P/\x.cell? (ad (w.heap.size+1+1) 1)=some (.slice (some (ad tb tz)) T.length tc))):=fun x hx=>by
  obtain⟨k1,k2,k3,-,-⟩:=xM hx
  exact⟨k1,k2,k3⟩
 rw [h] at HT HNU HB3 HS3 HCELLS hl2 ⊢
 clear hbn hbp hbe hbu hes
 clear h
 go_enter Tryz.func40,Tryz.ntmps40
 go_wp2_with fail
 refine (HM.out _ (HL.out.gE HB3.out)).mono ?_
 rintro e x1 ⟨ea,en,ec,rfl,hev,hb⟩
 have HX1:Hid (Below (w.heap.size+1+1+1) (((w.alloc (.cells #[.slice a0 L.l.length gA,.slice (some (ad bb bo)) L.b.length gB,.slice a2 L.o.length gC] 25)).alloc (.cells #[iV p0,iV p1,iV p2,iV q0,iV q1,iV q2,iV r] 28)).alloc (.cells #[iV P,.slice (some (ad tb tz)) L.b.length tc] 49)) x1):=by show Below _ _ _;rw [<-HS3.out];exact hb
 have HW1:Hid (Bw w x1):=HB3.out.trans (hb.mono HB3.out.size)
 obtain⟨ea2,ec2,hen,-⟩:=id hev
 injection hen with hen1 hen2 hen3
 subst hen1;subst hen2;subst hen3
 have HEV:=z9 hev
 clear hb hev
 obtain⟨⟨l0,l1,l2⟩,⟨t0,t1,t2,t3,t4,t5,t6⟩,⟨k0,k1⟩⟩:=HCELLS.out _ HX1.out
 go_wp2_with fail
 refine (HNU.out _ (HT.out.gE HW1.out)).mono ?_
 rintro e x2 ⟨rfl,hb2⟩
 have HX2:Hid (Below (w.heap.size+1+1+1) (((w.alloc (.cells #[.slice a0 L.l.length gA,.slice (some (ad bb bo)) L.b.length gB,.slice a2 L.o.length gC] 25)).alloc (.cells #[iV p0,iV p1,iV p2,iV q0,iV q1,iV q2,iV r] 28)).alloc (.cells #[iV P,.slice (some (ad tb tz)) L.b.length tc] 49)) x2):=HX1.out.trans (hb2.mono (by have:=HX1.out.size;rw [HS3.out] at this;exact this))
 have HW2:Hid (Bw w x2):=HW1.out.trans (hb2.mono HW1.out.size)
 have HEV2:=z9 (HEV.out.gE hb2)
 clear hb2 l0 l1 l2 t0 t1 t2 t3 t4 t5 t6 k0 k1
 obtain⟨⟨l0,l1,l2⟩,⟨t0,t1,t2,t3,t4,t5,t6⟩,⟨k0,k1⟩⟩:=HCELLS.out _ HX2.out
 have HPR:Hid (bp=true->1<=P/\P<=200):=fun h=>zx.1 (HBP.out.trans h)
 have HPN:Hid (bp=false->lb=false):=fun h=>HNO.out fun h2=>by rw [yf h2,h] at HBP;exact absurd HBP.out (by simp)
 cases bp with
 | false =>
   have HLB:=z9 (HPN.out rfl)
   rw [Bool.and_false]
   go_wp2_with fail
   go_ret
   exact⟨zg HLB.out.symm,HW2.out⟩
 | true =>
   obtain⟨hP1,hP2⟩:=HPR.out rfl
   have HLE2:=z9 (HLE.out hP1 hP2)
   cases bn with
   | false =>
     have HLB:Hid (lb=false):=by show _=_;rw [<-HLE2.out];rfl
     rw [Bool.false_and]
     go_wp2_with fail
     go_ret
     exact⟨zg HLB.out.symm,HW2.out⟩
   | true =>
     have HTT:=z9 (HIN.out rfl)
     rw [Bool.true_and]
     go_wp2_with fail
     refine (HEK.out _ _ _ HW2.out HEV2.out hP1 hP2 HTT.out).mono ?_
     rintro e x3 ⟨rfl,hb3⟩
     have HX3:Hid (Below (w.heap.size+1+1+1) (((w.alloc (.cells #[.slice a0 L.l.length gA,.slice (some (ad bb bo)) L.b.length gB,.slice a2 L.o.length gC] 25)).alloc (.cells #[iV p0,iV p1,iV p2,iV q0,iV q1,iV q2,iV r] 28)).alloc (.cells #[iV P,.slice (some (ad tb tz)) L.b.length tc] 49)) x3):=HX2.out.trans (hb3.mono (by have:=HX2.out.size;rw [HS3.out] at this;exact this))
     have HW3:Hid (Bw w x3):=HW2.out.trans (hb3.mono HW2.out.size)
     clear hb3 l0 l1 l2 t0 t1 t2 t3 t4 t5 t6 k0 k1
     obtain⟨⟨l0,l1,l2⟩,⟨t0,t1,t2,t3,t4,t5,t6⟩,⟨k0,k1⟩⟩:=HCELLS.out _ HX3.out
     cases be with
     | false =>
       have HLB:Hid (lb=false):=by show _=_;rw [<-HLE2.out];rfl
       go_wp2_with fail
       go_ret
       exact⟨zg HLB.out.symm,HW3.out⟩
     | true =>
       have HLB:Hid (lb=bu):=by show _=_;rw [<-HLE2.out];rfl
       go_wp2_with fail
       refine (HUK.out _ HW3.out hP1 hP2 HTT.out).mono ?_
       rintro e x4 ⟨rfl,hb4⟩
       have HW4:Hid (Bw w x4):=HW3.out.trans (hb4.mono HW3.out.size)
       clear hb4
       go_wp2_with fail
       go_ret
       exact⟨zg HLB.out.symm,HW4.out⟩
end Go.Proofs.YtjoapiafpahihabGreat
