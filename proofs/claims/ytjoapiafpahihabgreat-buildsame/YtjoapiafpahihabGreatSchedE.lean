import Derived.Test.YtjoapiafpahihabGreatSchedA
import Derived.Test.YtjoapiafpahihabGreatRef8A
import Derived.Test.YtjoapiafpahihabGreatRef67
import Derived.Test.YtjoapiafpahihabGreatDepP
namespace Go.Proofs.YtjoapiafpahihabGreat
open Go.RowKit Go.Joins
set_option linter.unusedVariables false
set_option linter.unusedSimpArgs false
set_option maxRecDepth 8192
set_option maxHeartbeats 2000000 in
theorem zga (p0 p1 p2 q0 q1 q2 r:Int) (L:Lp) (a0 a1 a2:Option Addr) (cap0 cap1 cap2:Nat) (P:Int) (T:List Int) (ta:Option Addr) (tc:Nat) (w:World) (h:T.length≠L.body.length) :
  Calls Tryz.prog 40 #[.agg #[.slice a0 L.logs.length cap0,.slice a1 L.body.length cap1,.slice a2 L.outs.length cap2],.agg #[iV p0,iV p1,iV p2,iV q0,iV q1,iV q2,iV r],.agg #[iV P,.slice ta T.length tc]] w fun e w'=>e=.returned (.bool false)/\Below w.heap.size w w':=by
 have hd:¬(T.length:Int)=(L.body.length:Int):=by omega
 go_enter Tryz.func40,Tryz.ntmps40
 go_wp2_with fail
 go_ret
 exact⟨rfl,below_alloc3 _ _ _ _⟩
set_option maxHeartbeats 2000000 in
theorem zk8 (hE:ZW) (p0 p1 p2 q0 q1 q2 r:Int) (L:Lp) (a0 a1 a2:Option Addr) (cap0 cap1 cap2:Nat) (P:Int) (T:List Int) (ta:Option Addr) (tc:Nat) (w:World) (hL:zk w (.agg #[.slice a0 L.logs.length cap0,.slice a1 L.body.length cap1,.slice a2 L.outs.length cap2]) L) (h:T.length=L.body.length) (hm:(zx L && zp ⟨p0,p1,p2,q0,q1,q2,r⟩)=false) :
  Calls Tryz.prog 40 #[.agg #[.slice a0 L.logs.length cap0,.slice a1 L.body.length cap1,.slice a2 L.outs.length cap2],.agg #[iV p0,iV p1,iV p2,iV q0,iV q1,iV q2,iV r],.agg #[iV P,.slice ta T.length tc]] w fun e w'=>e=.returned (.bool false)/\Below w.heap.size w w':=by
 have HM:=z5 (fun W (h:zk W (.agg #[.slice a0 L.logs.length cap0,.slice a1 L.body.length cap1,.slice a2 L.outs.length cap2]) L)=>za6 hE (.agg #[.slice a0 L.logs.length cap0,.slice a1 L.body.length cap1,.slice a2 L.outs.length cap2]) ⟨p0,p1,p2,q0,q1,q2,r⟩ L W h hm)
 have HB3:=z5 (below_alloc3 w (.cells #[.slice a0 L.logs.length cap0,.slice a1 L.body.length cap1,.slice a2 L.outs.length cap2] 25) (.cells #[iV p0,iV p1,iV p2,iV q0,iV q1,iV q2,iV r] 28) (.cells #[iV P,.slice ta T.length tc] 49))
 have HL:=z5 hL
 have hd:(T.length:Int)=(L.body.length:Int):=by omega
 rw [h] at HB3 ⊢
 clear hm hL hd h
 go_enter Tryz.func40,Tryz.ntmps40
 go_wp2_with fail
 refine (HM.out _ (HL.out.below HB3.out)).mono ?_
 rintro e x1 ⟨ea,ec,rfl,hb⟩
 have HW1:Hid (Below w.heap.size w x1):=HB3.out.trans (hb.mono HB3.out.size)
 clear hb
 go_wp2_with fail
 go_ret
 exact⟨rfl,HW1.out⟩
set_option maxHeartbeats 4000000 in
theorem zgb (hE:ZW) (p0 p1 p2 q0 q1 q2 r:Int) (L:Lp) (a0 a2:Option Addr) (bb bo:Nat) (cap0 cap1 cap2:Nat) (P:Int) (T:List Int) (tb tz:Nat) (tc:Nat) (w:World) (hL:zk w (.agg #[.slice a0 L.logs.length cap0,.slice (some ⟨bb,bo,none⟩) L.body.length cap1,.slice a2 L.outs.length cap2]) L) (hT:yf w (.slice (some ⟨tb,tz,none⟩) T.length tc) T) (h:T.length=L.body.length) (hm:zx L=true) (ht:zp ⟨p0,p1,p2,q0,q1,q2,r⟩=true) :
  Calls Tryz.prog 40 #[.agg #[.slice a0 L.logs.length cap0,.slice (some ⟨bb,bo,none⟩) L.body.length cap1,.slice a2 L.outs.length cap2],.agg #[iV p0,iV p1,iV p2,iV q0,iV q1,iV q2,iV r],.agg #[iV P,.slice (some ⟨tb,tz,none⟩) T.length tc]] w fun e w'=>e=.returned (.bool (zD L ⟨p0,p1,p2,q0,q1,q2,r⟩ P T))/\Below w.heap.size w w':=by
 have HM:=z5 (fun W (h:zk W (.agg #[.slice a0 L.logs.length cap0,.slice (some ⟨bb,bo,none⟩) L.body.length cap1,.slice a2 L.outs.length cap2]) L)=>Xk hE (.agg #[.slice a0 L.logs.length cap0,.slice (some ⟨bb,bo,none⟩) L.body.length cap1,.slice a2 L.outs.length cap2]) ⟨p0,p1,p2,q0,q1,q2,r⟩ L W h (by rw [hm,ht];rfl))
 have HB3:=z5 (below_alloc3 w (.cells #[.slice a0 L.logs.length cap0,.slice (some ⟨bb,bo,none⟩) L.body.length cap1,.slice a2 L.outs.length cap2] 25) (.cells #[iV p0,iV p1,iV p2,iV q0,iV q1,iV q2,iV r] 28) (.cells #[iV P,.slice (some ⟨tb,tz,none⟩) T.length tc] 49))
 have HS3:Hid ((((w.alloc (.cells #[.slice a0 L.logs.length cap0,.slice (some ⟨bb,bo,none⟩) L.body.length cap1,.slice a2 L.outs.length cap2] 25)).alloc (.cells #[iV p0,iV p1,iV p2,iV q0,iV q1,iV q2,iV r] 28)).alloc (.cells #[iV P,.slice (some ⟨tb,tz,none⟩) T.length tc] 49)).heap.size=w.heap.size+1+1+1):=by show _=_;simp
 obtain⟨-,hb1,h16,-⟩:=zj hm
 have HL:=z5 hL
 have HT:=z5 hT
 obtain⟨v0,v1,v2,hv,-,⟨a1',c1',hv1,hl1,hm1,hc1⟩,-⟩:=hL
 injection hv with hv
 obtain⟨e0,e1,e2⟩:(.slice a0 L.logs.length cap0:Value)=v0/\(.slice (some ⟨bb,bo,none⟩) L.body.length cap1:Value)=v1/\(.slice a2 L.outs.length cap2:Value)=v2:=by simpa using hv
 subst e1
 injection hv1 with f1 f2 f3
 subst f1;subst f3
 obtain⟨bb',bo',hbe,hbb,hbody⟩:=hc1 (by omega)
 injection hbe with hbe
 injection hbe with g1 g2
 subst g1;subst g2
 obtain⟨ta',tc',hte,hl2,hm2,hr2,hc2⟩:=hT
 injection hte with f4 f5 f6
 subst f4;subst f6
 obtain⟨tb',tz',hte2,htb,htimes⟩:=hc2 (by omega)
 injection hte2 with hte2
 injection hte2 with g3 g4
 subst g3;subst g4
 unfold maxLen at hm1 hm2
 have HNU:=z5 (fun W (h:yf W (.slice (some ⟨tb,tz,none⟩) T.length tc) T)=>Ur P T (some ⟨tb,tz,none⟩) tc W h)
 have HOK:Hid (∀e∈z8 L ⟨p0,p1,p2,q0,q1,q2,r⟩,VJ L.body.length e):=fun e he=>by
  obtain⟨fr,to,bk,wt,h0,h1,h2,h3,h4,h5⟩:=xq hm e he
  exact⟨fr,to,bk,wt,h0,h1,h2,h5,h4⟩
 have HLE:Hid (1<=P->P<=200->(zh (fun i=>inR (nth T i) 0 1000) T.length && zh (fun i=>Yz P T (zu (z8 L ⟨p0,p1,p2,q0,q1,q2,r⟩) i)) (z8 L ⟨p0,p1,p2,q0,q1,q2,r⟩).length && zh (Yo L ⟨p0,p1,p2,q0,q1,q2,r⟩ P T) T.length)=zD L ⟨p0,p1,p2,q0,q1,q2,r⟩ P T):=fun h1 h2=>zkp ht h h1 h2 hm
 have HNO:Hid (¬(1<=P/\P<=200)->zD L ⟨p0,p1,p2,q0,q1,q2,r⟩ P T=false):=fun h=>Uj (by by_cases h1:1<=P;exact .inr (.inr (.inl (by omega)));exact .inr (.inl (by omega)))
 have HEK:=z5 (fun W ea ec (hW:Below w.heap.size w W) (hE:yP W (.slice ea (z8 L ⟨p0,p1,p2,q0,q1,q2,r⟩).length ec) (z8 L ⟨p0,p1,p2,q0,q1,q2,r⟩)) (hP1:1<=P) (hP2:P<=200) (hTT:∀i,i<L.body.length->0<=nth T i/\nth T i<=1000)=>US L.body.length P T tb tz tc ea ec (z8 L ⟨p0,p1,p2,q0,q1,q2,r⟩) W hE HOK.out h16 hP1 hP2 h (by omega) (by omega) (Nat.lt_of_lt_of_le htb hW.size) (fun i hi=>(zc hW _ _ htb).trans (htimes i (by omega))) hTT)
 have HUK:=z5 (fun W (hW:Below w.heap.size w W) (hP1:1<=P) (hP2:P<=200) (hTT:∀i,i<L.body.length->0<=nth T i/\nth T i<=1000)=>UY p0 p1 p2 q0 q1 q2 r L (.slice a0 L.logs.length cap0) (.slice a2 L.outs.length cap2) bb bo cap1 P T tb tz tc W h16 hl1 (by omega) (Nat.lt_of_lt_of_le hbb hW.size) (fun i hi j hj=>(zc hW _ _ hbb).trans (hbody i hi j hj)) (by omega) (by omega) (Nat.lt_of_lt_of_le htb hW.size) (fun i hi=>(zc hW _ _ htb).trans (htimes i (by omega))) hTT hP1 hP2)
 have HIN:Hid (zh (fun i=>inR (nth T i) 0 1000) T.length=true->∀i,i<L.body.length->0<=nth T i/\nth T i<=1000):=fun ha i hi=>zo.1 (zl ha i (by omega))
 clear hm ht hbody htimes hr2 hc1 hc2 hv f2 f5 e0 e2
 generalize zD L ⟨p0,p1,p2,q0,q1,q2,r⟩ P T=lb at *
 obtain⟨es,hes⟩:∃es,z8 L ⟨p0,p1,p2,q0,q1,q2,r⟩=es:=⟨_,rfl⟩
 rw [hes] at HM HLE HEK
 obtain⟨bn,hbn⟩:∃b,zh (fun i=>inR (nth T i) 0 1000) T.length=b:=⟨_,rfl⟩
 obtain⟨bp,hbp⟩:∃b,inR P 1 200=b:=⟨_,rfl⟩
 obtain⟨be,hbe⟩:∃b,zh (fun i=>Yz P T (zu es i)) es.length=b:=⟨_,rfl⟩
 obtain⟨bu,hbu⟩:∃b,zh (Yo L ⟨p0,p1,p2,q0,q1,q2,r⟩ P T) T.length=b:=⟨_,rfl⟩
 rw [hbn] at HLE HNU HIN
 rw [hbp] at HNU
 rw [hbe] at HLE HEK
 rw [hbu] at HLE
 rw [h] at hbu
 rw [hbu] at HUK
 have HBP:=z5 hbp
 have HCELLS:Hid (∀x,Below (w.heap.size+1+1+1) (((w.alloc (.cells #[.slice a0 L.logs.length cap0,.slice (some ⟨bb,bo,none⟩) L.body.length cap1,.slice a2 L.outs.length cap2] 25)).alloc (.cells #[iV p0,iV p1,iV p2,iV q0,iV q1,iV q2,iV r] 28)).alloc (.cells #[iV P,.slice (some ⟨tb,tz,none⟩) T.length tc] 49)) x->(x.cell? ⟨w.heap.size,0,none⟩=some (.slice a0 L.logs.length cap0)/\x.cell? ⟨w.heap.size,1,none⟩=some (.slice (some ⟨bb,bo,none⟩) L.body.length cap1)/\x.cell? ⟨w.heap.size,2,none⟩=some (.slice a2 L.outs.length cap2)) /\
  (x.cell? ⟨w.heap.size+1,0,none⟩=some (iV p0)/\x.cell? ⟨w.heap.size+1,1,none⟩=some (iV p1)/\x.cell? ⟨w.heap.size+1,2,none⟩=some (iV p2)/\x.cell? ⟨w.heap.size+1,3,none⟩=some (iV q0)/\x.cell? ⟨w.heap.size+1,4,none⟩=some (iV q1)/\x.cell? ⟨w.heap.size+1,5,none⟩=some (iV q2)/\x.cell? ⟨w.heap.size+1,6,none⟩=some (iV r)) /\
  (x.cell? ⟨w.heap.size+1+1,0,none⟩=some (iV P)/\x.cell? ⟨w.heap.size+1+1,1,none⟩=some (.slice (some ⟨tb,tz,none⟩) T.length tc))):=fun x hx=>by
  obtain⟨k1,k2,k3,-,-⟩:=yY hx
  exact⟨k1,k2,k3⟩
 rw [h] at HT HNU HB3 HS3 HCELLS hl2 ⊢
 clear hbn hbp hbe hbu hes
 clear h
 go_enter Tryz.func40,Tryz.ntmps40
 go_wp2_with fail
 refine (HM.out _ (HL.out.below HB3.out)).mono ?_
 rintro e x1 ⟨ea,en,ec,rfl,hev,hb⟩
 have HX1:Hid (Below (w.heap.size+1+1+1) (((w.alloc (.cells #[.slice a0 L.logs.length cap0,.slice (some ⟨bb,bo,none⟩) L.body.length cap1,.slice a2 L.outs.length cap2] 25)).alloc (.cells #[iV p0,iV p1,iV p2,iV q0,iV q1,iV q2,iV r] 28)).alloc (.cells #[iV P,.slice (some ⟨tb,tz,none⟩) L.body.length tc] 49)) x1):=by show Below _ _ _;rw [<-HS3.out];exact hb
 have HW1:Hid (Below w.heap.size w x1):=HB3.out.trans (hb.mono HB3.out.size)
 obtain⟨ea2,ec2,hen,-⟩:=id hev
 injection hen with hen1 hen2 hen3
 subst hen1;subst hen2;subst hen3
 have HEV:=z5 hev
 clear hb hev
 obtain⟨⟨l0,l1,l2⟩,⟨t0,t1,t2,t3,t4,t5,t6⟩,⟨k0,k1⟩⟩:=HCELLS.out _ HX1.out
 go_wp2_with fail
 refine (HNU.out _ (HT.out.below HW1.out)).mono ?_
 rintro e x2 ⟨rfl,hb2⟩
 have HX2:Hid (Below (w.heap.size+1+1+1) (((w.alloc (.cells #[.slice a0 L.logs.length cap0,.slice (some ⟨bb,bo,none⟩) L.body.length cap1,.slice a2 L.outs.length cap2] 25)).alloc (.cells #[iV p0,iV p1,iV p2,iV q0,iV q1,iV q2,iV r] 28)).alloc (.cells #[iV P,.slice (some ⟨tb,tz,none⟩) L.body.length tc] 49)) x2):=HX1.out.trans (hb2.mono (by have:=HX1.out.size;rw [HS3.out] at this;exact this))
 have HW2:Hid (Below w.heap.size w x2):=HW1.out.trans (hb2.mono HW1.out.size)
 have HEV2:=z5 (HEV.out.below hb2)
 clear hb2 l0 l1 l2 t0 t1 t2 t3 t4 t5 t6 k0 k1
 obtain⟨⟨l0,l1,l2⟩,⟨t0,t1,t2,t3,t4,t5,t6⟩,⟨k0,k1⟩⟩:=HCELLS.out _ HX2.out
 have HPR:Hid (bp=true->1<=P/\P<=200):=fun h=>zo.1 (HBP.out.trans h)
 have HPN:Hid (bp=false->lb=false):=fun h=>HNO.out fun h2=>by rw [zK h2,h] at HBP;exact absurd HBP.out (by simp)
 cases bp with
 | false =>
   have HLB:=z5 (HPN.out rfl)
   rw [Bool.and_false]
   go_wp2_with fail
   go_ret
   exact⟨z7 HLB.out.symm,HW2.out⟩
 | true =>
   obtain⟨hP1,hP2⟩:=HPR.out rfl
   have HLE2:=z5 (HLE.out hP1 hP2)
   cases bn with
   | false =>
     have HLB:Hid (lb=false):=by show _=_;rw [<-HLE2.out];rfl
     rw [Bool.false_and]
     go_wp2_with fail
     go_ret
     exact⟨z7 HLB.out.symm,HW2.out⟩
   | true =>
     have HTT:=z5 (HIN.out rfl)
     rw [Bool.true_and]
     go_wp2_with fail
     refine (HEK.out _ _ _ HW2.out HEV2.out hP1 hP2 HTT.out).mono ?_
     rintro e x3 ⟨rfl,hb3⟩
     have HX3:Hid (Below (w.heap.size+1+1+1) (((w.alloc (.cells #[.slice a0 L.logs.length cap0,.slice (some ⟨bb,bo,none⟩) L.body.length cap1,.slice a2 L.outs.length cap2] 25)).alloc (.cells #[iV p0,iV p1,iV p2,iV q0,iV q1,iV q2,iV r] 28)).alloc (.cells #[iV P,.slice (some ⟨tb,tz,none⟩) L.body.length tc] 49)) x3):=HX2.out.trans (hb3.mono (by have:=HX2.out.size;rw [HS3.out] at this;exact this))
     have HW3:Hid (Below w.heap.size w x3):=HW2.out.trans (hb3.mono HW2.out.size)
     clear hb3 l0 l1 l2 t0 t1 t2 t3 t4 t5 t6 k0 k1
     obtain⟨⟨l0,l1,l2⟩,⟨t0,t1,t2,t3,t4,t5,t6⟩,⟨k0,k1⟩⟩:=HCELLS.out _ HX3.out
     cases be with
     | false =>
       have HLB:Hid (lb=false):=by show _=_;rw [<-HLE2.out];rfl
       go_wp2_with fail
       go_ret
       exact⟨z7 HLB.out.symm,HW3.out⟩
     | true =>
       have HLB:Hid (lb=bu):=by show _=_;rw [<-HLE2.out];rfl
       go_wp2_with fail
       refine (HUK.out _ HW3.out hP1 hP2 HTT.out).mono ?_
       rintro e x4 ⟨rfl,hb4⟩
       have HW4:Hid (Below w.heap.size w x4):=HW3.out.trans (hb4.mono HW3.out.size)
       clear hb4
       go_wp2_with fail
       go_ret
       exact⟨z7 HLB.out.symm,HW4.out⟩
theorem UX (hE:ZW):YZ:=by
 intro v pv t L P T w hL hP
 obtain⟨p0,p1,p2,q0,q1,q2,r⟩:=t
 have hL':=hL
 obtain⟨v0,v1,v2,rfl,⟨a0,cap0,rfl,-⟩,⟨a1,cap1,rfl,h1,h2,h3⟩,⟨a2,cap2,rfl,-,-,-,-⟩⟩:=hL'
 obtain⟨tv,rfl,hT⟩:=hP
 have hT':=hT
 obtain⟨ta,tc,rfl,k1,k2,k3,k4⟩:=hT'
 by_cases hlen:T.length=L.body.length
 ·cases hm:(zx L && zp ⟨p0,p1,p2,q0,q1,q2,r⟩) with
  | false =>
    rw [Uj (.inl hm)]
    exact zk8 hE p0 p1 p2 q0 q1 q2 r L a0 a1 a2 cap0 cap1 cap2 P T ta tc w hL hlen hm
  | true =>
    have hm2:zx L=true/\zp ⟨p0,p1,p2,q0,q1,q2,r⟩=true:=by simpa using hm
    have hb1:=(zj hm2.1).2.1
    obtain⟨bb,bo,rfl,-,-⟩:=h3 (by omega)
    obtain⟨tb,tz,rfl,-,-⟩:=k4 (by omega)
    exact zgb hE p0 p1 p2 q0 q1 q2 r L a0 a2 bb bo cap0 cap1 cap2 P T tb tz tc w hL hT hlen hm2.1 hm2.2
 ·rw [Uj (.inr (.inr (.inr hlen)))]
  exact zga p0 p1 p2 q0 q1 q2 r L a0 a1 a2 cap0 cap1 cap2 P T ta tc w hlen
theorem YP:YZ:=UX Ye
end Go.Proofs.YtjoapiafpahihabGreat
