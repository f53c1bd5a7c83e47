import Derived.Test.YtjoapiafpahihabGreatSchedB
import Derived.Test.YtjoapiafpahihabGreatRef67
namespace Go.Proofs.YtjoapiafpahihabGreat
open Go.RowKit Go.Joins
set_option linter.unusedVariables false
set_option linter.unusedSimpArgs false
set_option maxRecDepth 8192
structure PSt (c:Pc) (I:Nat->Bool) (T N:Nat->Int) (a k:Nat) (x:World):Prop where
 rows:zR c I T N x
 sok:SOk c.L c.t c.P I T N a k
 map:∃q:Nat,yE (fun s r=>(inC c.L c.P I T s r:Int)) q c.mb x/\(q:Int)+cnt I c.L.body.length<=2*yH N c.L.body.length
variable {c:Pc} {I:Nat->Bool} {T N:Nat->Int}
theorem PSt.below {a k:Nat} {x y:World} (h:PSt c I T N a k x) (hb:Below x.heap.size x y):PSt c I T N a k y:=by
 obtain⟨q,h1,h2⟩:=h.map
 exact⟨h.rows.below hb,h.sok,q,h1.below hb,h2⟩
theorem PSt.sum {a k:Nat} {x:World} (h:PSt c I T N a k x) (ok:Ya c):0<=yH N c.L.body.length/\yH N c.L.body.length<=16016:=by
 have h1:=zb1 (N:=N) (lo:=0) (hi:=1001) c.L.body.length h.sok.nexts
 have h2:=ok.len.2
 have h3:(c.L.body.length:Int)*1001<=16*1001:=Int.mul_le_mul_of_nonneg_right (by omega) (by omega)
 omega
theorem zqi (L:Lp) (P:Int) (I:Nat->Bool) (T:Nat->Int) (s r:Int):inC L P I T s r<=L.body.length:=Zw _ _
theorem zaf (ok:Ya c) (I:Nat->Bool) (T:Nat->Int) (s r:Int):-1000000<=(inC c.L c.P I T s r:Int)/\(inC c.L c.P I T s r:Int)<=1000000:=by
 have h1:=zqi c.L c.P I T s r
 have h2:=ok.len.2
 omega
theorem PSt.out {a k b:Nat} {x y:World} (h:PSt c I T N a k x) (hb:b<c.L.body.length) (hI:I b=true) (hk:k<(z8 c.L c.t).length) (he:(zu (z8 c.L c.t) k).to.toNat=b) (hr:zR c (upB I b false) T N y) {q:Nat} (hq:(q:Int)+cnt I c.L.body.length<=2*yH N c.L.body.length)
  (hm:yE (fun s r=>if s=zC (z6 c.L.body b).o/\r=(T b).tmod c.P then (inC c.L c.P I T s r:Int) - 1 else (inC c.L c.P I T s r:Int)) (q+1) c.mb y):PSt c (upB I b false) T N a (k+1) y:=by
 refine⟨hr,h.sok.out hb hI hk he,q+1,hm.congr fun s r=>?_,?_⟩
 ·have h1:=zlx (P:=c.P) (T:=T) hb hI s r
  by_cases e:s=zC (z6 c.L.body b).o/\r=(T b).tmod c.P
  ·rw [if_pos e];rw [if_pos ⟨e.1.symm,e.2.symm⟩] at h1;omega
  ·rw [if_neg e];rw [if_neg fun e2=>e ⟨e2.1.symm,e2.2.symm⟩] at h1;omega
 ·have h1:=zlc (n:=c.L.body.length) hb hI
  omega
theorem PSt.putin {a0 a:Nat} {tm:Int} {x y:World} (h:PSt c I T N a0 (z8 c.L c.t).length x) (ha:a<c.L.body.length) (hI:I a=false) (hrp:xM c I T N a (z8 c.L c.t).length tm) (h1:tm<=1000)
  (hfull:(inC c.L c.P I T (zC (z6 c.L.body a).o) (tm.tmod c.P):Int)≠zF c.t (zC (z6 c.L.body a).o)) (hr:zR c (upB I a true) (upI T a tm) (upI N a (tm+1)) y) {q:Nat} (hq:(q:Int)+cnt I c.L.body.length<=2*yH N c.L.body.length)
  (hm:yE (fun s r=>if s=zC (z6 c.L.body a).o/\r=tm.tmod c.P then (inC c.L c.P I T s r:Int)+1 else (inC c.L c.P I T s r:Int)) (q+1) c.mb y):PSt c (upB I a true) (upI T a tm) (upI N a (tm+1)) a 0 y/\yH N c.L.body.length+1<=yH (upI N a (tm+1)) c.L.body.length:=by
 have hs:yH (upI N a (tm+1)) c.L.body.length=yH N c.L.body.length+(tm+1 - N a):=by rw [zqz,if_pos ha]
 have h0:=hrp.1
 refine⟨⟨hr,h.sok.put (k0:=0) ha hI h0 h1 hfull (fun j hj e1 e2=>hrp.2.2 j hj e1 e2),q+1,hm.congr fun s r=>?_,?_⟩,by omega⟩
 ·rw [zly ha hI]
  by_cases e:s=zC (z6 c.L.body a).o/\r=tm.tmod c.P
  ·rw [if_pos e,if_pos ⟨e.1.symm,e.2.symm⟩];omega
  ·rw [if_neg e,if_neg fun e2=>e ⟨e2.1.symm,e2.2.symm⟩];omega
 ·have h2:=XC (n:=c.L.body.length) ha hI
  omega
theorem PSt.nextk {a k:Nat} {x y:World} (h:PSt c I T N a k x) (hb:Below x.heap.size x y) (hk:k<(z8 c.L c.t).length) (hn:(zu (z8 c.L c.t) k).fr.toNat=a->I (zu (z8 c.L c.t) k).to.toNat=true->T a+zbw c.P (zu (z8 c.L c.t) k)<=T (zu (z8 c.L c.t) k).to.toNat):PSt c I T N a (k+1) y:=by
 have h2:=h.below hb
 exact⟨h2.rows,h2.sok.next hk hn,h2.map⟩
theorem PSt.anyk {a k b:Nat} {x:World} (h:PSt c I T N a k x) (hk:(z8 c.L c.t).length<=k):PSt c I T N b (z8 c.L c.t).length x:=⟨h.rows,h.sok.any hk,h.map⟩
def zqc (c:Pc) (N:Nat->Int) (e:Ending) (w':World):Prop :=
 (e=.returned (.bool false)/\Below c.w0.heap.size c.w0 w')\/(e=.returned (.bool true)/\∃I' T' N',PSt c I' T' N' 0 (z8 c.L c.t).length w'/\yH N c.L.body.length+1<=yH N' c.L.body.length)
theorem xM.later {a k:Nat} {tm:Int} (h:xM c I T N a k tm) (h1:tm<=1000):xM c I T N a k (tm+1):=⟨by have:=h.1;omega,by omega,fun j hj e1 e2=>by have:=h.2.2 j hj e1 e2;omega⟩
set_option maxHeartbeats 16000000 in
theorem zkc (x:World) (a:Nat) (ok:Ya c) (h:PSt c I T N 0 (z8 c.L c.t).length x) (ha:a<c.L.body.length) (hI:I a=false) :
  Calls Tryz.prog 173 #[.pointer (some ⟨c.pb,0,none⟩),iV a] x fun e w'=>zqc c N e w':=by
 have hn1:=h.sok.nexts a ha
 have HRD:=z5 (fun W (hW:Below x.heap.size x W)=>zjx W a ok (h.rows.below hW) ha h.sok.times hn1)
 obtain⟨q,hM,hq⟩:=h.map
 have HFU:=z5 (fun W (tm:Int) (hW:Below x.heap.size x W) (h0:0<=tm) (h1:tm<=1000)=>zlv W a q tm _ ok (h.rows.below hW) (hM.below hW) ha h0 h1)
 have HM:=z5 hM
 have HQ:=z5 hq
 have HP:=z5 h
 have hpz:=h.rows.lt
 have HBX:=z5 h.rows.bel
 have hai:(a:Int)<(c.L.body.length:Int):=by omega
 have HLAT:=z5 (fun tm=>@xM.later c I T N a (z8 c.L c.t).length tm)
 have HFAIL:Hid (∀w',Below x.heap.size x w'->zqc c N (.returned (.bool false)) w'):=fun w' hw=>.inl ⟨rfl,HBX.out.trans (hw.mono HBX.out.size)⟩
 have HN0:=z5 hn1
 clear h hn1 hM hq
 go_enter Tryz.func173,Tryz.ntmps173
 go_wp2_with fail
 refine (HRD.out _ (Below.refl _ _)).mono ?_
 rintro e x1 ⟨tm0,rfl,hrp0,hb1⟩
 have HRP0:=z5 hrp0
 have HB1:=z5 hb1
 clear hrp0 hb1
 go_wp2_with fail
 go_loopw [5] (fun tv wr=>∃tm:Int,tv=iV tm/\xM c I T N a (z8 c.L c.t).length tm/\Below x.heap.size x wr) (fun tv _=>(1100 - intOf tv).toNat)
 case atStart=>exact⟨tm0,rfl,HRP0.out,HB1.out⟩
 case round =>
  clear HRP0 HB1
  obtain⟨tm,rfl,hrp,hbel⟩:=hrel
  have HRP:=z5 hrp
  have HB:=z5 hbel
  have htm0:0<=tm:=by have:=hrp.1;have:=HN0.out;omega
  have htm2:=hrp.2.1
  clear hrp hbel
  by_cases htm1:tm<=1000
  ·have HFC:=z5 (HFU.out wr tm HB.out htm0 htm1)
   obtain⟨bd,hbd⟩:∃bd,decide ((inC c.L c.P I T (zC (z6 c.L.body a).o) (tm.tmod c.P):Int)=zF c.t (zC (z6 c.L.body a).o))=bd:=⟨_,rfl⟩
   rw [hbd] at HFC
   have HBD:=z5 hbd
   clear hbd
   cases bd with
   | true =>
     go_wp2_with fail
     refine HFC.out.mono ?_
     rintro e x2 ⟨rfl,hb2⟩
     have HB2:=z5 (HB.out.trans (hb2.mono HB.out.size))
     clear hb2
     go_wp2_with fail
     go_roundw
     case rel=>exact⟨tm+1,by go_num,HLAT.out tm HRP.out htm1,HB2.out⟩
     case measure=>simp [intOf];omega
   | false =>
     have HNF:Hid ((inC c.L c.P I T (zC (z6 c.L.body a).o) (tm.tmod c.P):Int)≠zF c.t (zC (z6 c.L.body a).o)):=of_decide_eq_false HBD.out
     clear HLAT
     go_wp2_with fail
     refine HFC.out.mono ?_
     rintro e x2 ⟨rfl,hb2⟩
     have HB2:=z5 (HB.out.trans (hb2.mono HB.out.size))
     clear hb2 HFC HFU HRD
     have hgt:¬1000<tm:=by omega
     go_wp2_with fail
     have HR2:Hid (zR c I T N x2.drew):=(HP.out.rows.below HB2.out).below (zv _ _)
     have HM2:Hid (yE (fun s r=>(inC c.L c.P I T s r:Int)) q c.mb x2.drew):=(HM.out.below HB2.out).below (zv _ _)
     have hwt:IntKind.i64.wrap (tm+1)=tm+1:=yz _ (by omega) (by omega)
     have HFL:Hid (∀I T N y,zR c I T N y->y.cell? ⟨c.pb,13,none⟩=some (.slice (some ⟨c.ib,0,none⟩) c.L.body.length c.L.body.length)/\y.cell? ⟨c.pb,14,none⟩=some (.slice (some ⟨c.tb,0,none⟩) c.L.body.length c.L.body.length)/\y.cell? ⟨c.pb,15,none⟩=some (.slice (some ⟨c.nb,0,none⟩) c.L.body.length c.L.body.length)):=fun I T N y hy=>by
      obtain⟨f1,f10,f11,f12,f13,f14,f15,f16⟩:=hy.fields
      exact⟨f13,f14,f15⟩
     have hiz:=HR2.out.ir.lt
     have htz:=HR2.out.tr.lt
     have hnz:=HR2.out.nr.lt
     refine wp_region_noPanic ?_
     refine ze 99 (fun w'=>w'.cell? ⟨c.pb,13,none⟩=some (.slice (some ⟨c.ib,0,none⟩) c.L.body.length c.L.body.length)/\w'.cell? ⟨c.pb,14,none⟩=some (.slice (some ⟨c.tb,0,none⟩) c.L.body.length c.L.body.length)/\w'.cell? ⟨c.pb,15,none⟩=some (.slice (some ⟨c.nb,0,none⟩) c.L.body.length c.L.body.length)) (by kernel_rfl) (HFL.out _ _ _ _ HR2.out) (fun hHeld=>?_)
     generalize x2.drew=y0 at *
     refine utk (i:=0) rfl hHeld ?_
     refine utk (i:=1) rfl hHeld ?_
     refine utk (i:=2) rfl hHeld ?_
     refine utk (i:=3) rfl hHeld ?_
     refine utk (i:=4) rfl hHeld ?_
     refine utk (i:=5) rfl hHeld ?_
     refine utk (i:=6) rfl hHeld ?_
     refine utk (i:=7) rfl hHeld ?_
     refine utk (i:=8) rfl hHeld ?_
     refine utk (i:=9) rfl hHeld ?_
     refine utk (i:=10) rfl hHeld ?_
     refine utk (i:=11) rfl hHeld ?_
     refine utk (i:=12) rfl hHeld ?_
     refine utk (i:=13) rfl hHeld ?_
     refine utk (i:=14) rfl hHeld ?_
     refine utk (i:=15) rfl hHeld ?_
     refine utk (i:=16) rfl hHeld ?_
     refine utk (i:=17) rfl hHeld ?_
     refine utk (i:=18) rfl hHeld ?_
     have s1:=HR2.out.ir.cell ha
     have s2:=HR2.out.ir.frozen a
     have HR3:Hid (zR c (upB I a true) T N (y0.setCell ⟨c.ib,a,none⟩ (.bool true))):=HR2.out.setIn a ha true
     have HM3:Hid (yE (fun s r=>(inC c.L c.P I T s r:Int)) q c.mb (y0.setCell ⟨c.ib,a,none⟩ (.bool true))):=HM2.out.of_block (Below.heap_setCell _ _ _ _ (yV HM2.out HR2.out.ir).symm)
     have hHeld2:=HFL.out _ _ _ _ HR3.out
     refine z9 (i:=19) rfl (by kernel_rfl) (fun K hK=>?_)
     go_simp
     refine nxt hK.out (.inr hHeld2) ?_
     clear hK K
     clear s1 s2 hHeld HR2 HM2
     generalize y0.setCell ⟨c.ib,a,none⟩ (.bool true)=y1 at *
     have hHeld:=hHeld2
     clear hHeld2
     refine utk (i:=20) rfl hHeld ?_
     have s1:=HR3.out.tr.cell ha
     have s2:=HR3.out.tr.frozen a
     have HR4:Hid (zR c (upB I a true) (upI T a tm) N (y1.setCell ⟨c.tb,a,none⟩ (iV tm))):=HR3.out.setT a ha tm
     have HM4:Hid (yE (fun s r=>(inC c.L c.P I T s r:Int)) q c.mb (y1.setCell ⟨c.tb,a,none⟩ (iV tm))):=HM3.out.of_block (Below.heap_setCell _ _ _ _ (yV HM3.out HR3.out.tr).symm)
     have hHeld2:=HFL.out _ _ _ _ HR4.out
     refine z9 (i:=21) rfl (by kernel_rfl) (fun K hK=>?_)
     go_simp
     refine nxt hK.out (.inr hHeld2) ?_
     clear hK K
     clear s1 s2 hHeld HR3 HM3
     generalize y1.setCell ⟨c.tb,a,none⟩ (iV tm)=y2 at *
     have hHeld:=hHeld2
     clear hHeld2
     refine utk (i:=22) rfl hHeld ?_
     have s1:=HR4.out.nr.cell ha
     have s2:=HR4.out.nr.frozen a
     have HR5:Hid (zR c (upB I a true) (upI T a tm) (upI N a (tm+1)) (y2.setCell ⟨c.nb,a,none⟩ (iV (tm+1)))):=HR4.out.setN a ha (tm+1)
     have HM5:Hid (yE (fun s r=>(inC c.L c.P I T s r:Int)) q c.mb (y2.setCell ⟨c.nb,a,none⟩ (iV (tm+1)))):=HM4.out.of_block (Below.heap_setCell _ _ _ _ (yV HM4.out HR4.out.nr).symm)
     have hHeld2:=HFL.out _ _ _ _ HR5.out
     refine z9 (i:=23) rfl (by kernel_rfl) (fun K hK=>?_)
     go_simp
     refine nxt hK.out (.inr hHeld2) ?_
     clear hK K
     refine zf (by kernel_rfl) ?_ _
     refine NoPanic.normal ?_
     clear s1 s2 hHeld HR4 HM4 hHeld2
     generalize y2.setCell ⟨c.nb,a,none⟩ (iV (tm+1))=y3 at *
     have hup:upI T a tm a=tm:=by unfold upI;rw [if_pos rfl]
     have HUA:=z5 (fun W (hW:zR c (upB I a true) (upI T a tm) (upI N a (tm+1)) W)=>zel W a ok hW ha (by rw [hup];exact htm0) (by rw [hup];exact htm1))
     rw [hup] at HUA
     have hq:=HQ.out
     have hsum:=HP.out.sum ok
     have HPI:=z5 (fun y hr hm=>HP.out.putin (y:=y) ha hI HRP.out htm1 HNF.out hr HQ.out hm)
     have hp1:=ok.p1
     have hp2:=ok.p2
     obtain⟨cn,hcn,hcn3⟩:=VO (z6 c.L.body a).o
     have hm1:=Int.tmod_nonneg c.P htm0
     have hm2:=Int.tmod_lt_of_pos tm (show 0<c.P by omega)
     rw [hcn] at HUA HPI
     obtain⟨rm,hrm⟩:∃rm,tm.tmod c.P=rm:=⟨_,rfl⟩
     rw [hrm] at HUA HPI hm1 hm2
     obtain⟨hf1,hf2⟩:=zaf ok I T cn rm
     have HLK:Hid (∀y,yE (fun s r=>(inC c.L c.P I T s r:Int)) q c.mb y->(Instr.lookup 194 (.map (some c.mb)) (.agg #[iV cn,iV rm]) false).run Tryz.prog y=.ok (iV (inC c.L c.P I T cn rm:Int)) y):=fun y hy=>hy.look cn rm (Yp _ (by omega) (by omega)) (Yp _ (by omega) (by omega))
     have HST:Hid (∀y,yE (fun s r=>(inC c.L c.P I T s r:Int)) q c.mb y->_):=fun y (hy:yE (fun s r=>(inC c.L c.P I T s r:Int)) q c.mb y)=>hy.step (by unfold maxLen;omega) cn rm (Yp _ (by omega) (by omega)) (Yp _ (by omega) (by omega)) ((inC c.L c.P I T cn rm:Int)+1) (Yp _ (by omega) (by omega))
     have HEQ:Hid (∀s r,(fun c' r'=>if c'=(cn:Int)/\r'=rm then (inC c.L c.P I T cn rm:Int)+1 else (inC c.L c.P I T c' r':Int)) s r=(fun s r=>if s=(cn:Int)/\r=rm then (inC c.L c.P I T s r:Int)+1 else (inC c.L c.P I T s r:Int)) s r):=fun s r=>by
      dsimp only
      by_cases e:s=(cn:Int)/\r=rm
      ·rw [if_pos e,if_pos e,e.1,e.2]
      ·rw [if_neg e,if_neg e]
     obtain⟨fv,hfv⟩:∃fv,(inC c.L c.P I T (cn:Int) rm:Int)=fv:=⟨_,rfl⟩
     rw [hfv] at HLK HST HEQ hf1 hf2
     have hwr:IntKind.i64.wrap (fv+1)=fv+1:=yz _ (by omega) (by omega)
     have HSE:Hid (∀y,Below y3.heap.size y3 y->(y.cell? ⟨c.pb,16,none⟩=some (.map (some c.mb)))/\(Instr.lookup 194 (.map (some c.mb)) (.agg #[iV cn,iV rm]) false).run Tryz.prog y=.ok (iV fv) y):=fun y hy=>⟨(HR5.out.below hy).fields.2.2.2.2.2.2.2,HLK.out y (HM5.out.below hy)⟩
     clear hcn hrm hfv hq hsum
     go_wp2_with fail
     refine wp_region_noPanic ?_
     refine ze 11 (fun w'=>(w'.cell? ⟨c.pb,16,none⟩=some (.map (some c.mb)))/\(Instr.lookup 194 (.map (some c.mb)) (.agg #[iV cn,iV rm]) false).run Tryz.prog w'=.ok (iV fv) w') (by kernel_rfl) (HSE.out _ (zv _ _)) (fun hHeld=>?_)
     refine utk (i:=0) rfl hHeld ?_
     refine utk (i:=1) rfl hHeld ?_
     refine utk (i:=2) rfl hHeld ?_
     refine utk (i:=3) rfl hHeld ?_
     refine utk (i:=4) rfl hHeld ?_
     refine utk (i:=5) rfl hHeld ?_
     refine z9 (i:=6) rfl (by kernel_rfl) (fun K hK=>?_)
     go_simp
     refine (HUA.out _ (HR5.out.below (zv _ _))).mono ?_
     rintro e x3 ⟨rfl,hb3⟩
     have HB3:Hid (Below y3.heap.size y3 x3):=(zv _ _).trans hb3
     have hHeld:=HSE.out _ HB3.out
     clear hb3
     have HMX:=z5 (HM5.out.below HB3.out)
     have HXX:=z5 (HR5.out.below HB3.out)
     obtain⟨ve,stp,w1,e1,e2,e3,w3,g1,g2,g3⟩:=HST.out _ HMX.out
     refine nxt hK.out (.inr hHeld) ?_
     clear hK K
     refine utk (i:=7) rfl hHeld ?_
     refine utk (i:=8) rfl hHeld ?_
     have HR6:Hid (zR c (upB I a true) (upI T a tm) (upI N a (tm+1)) w1):=HXX.out.grown (HXX.out.mne HMX.out) e2
     have HR7:Hid (zR c (upB I a true) (upI T a tm) (upI N a (tm+1)) w3):=HR6.out.grown (HXX.out.mne HMX.out) g2
     have HPS:=z5 (HPI.out w3 HR7.out (g3.congr HEQ.out))
     have H1:Hid ((w1.cell? ⟨c.pb,16,none⟩=some (.map (some c.mb)))/\(Instr.lookup 194 (.map (some c.mb)) (.agg #[iV cn,iV rm]) false).run Tryz.prog w1=.ok (iV fv) w1):=⟨HR6.out.fields.2.2.2.2.2.2.2,e3⟩
     clear g2 g3 e2
     refine z9 (i:=9) rfl (by kernel_rfl) (fun K hK=>?_)
     go_simp
     have hHeld:=H1.out
     refine nxt hK.out (.inr hHeld) ?_
     clear hK K
     refine utk (i:=10) rfl hHeld ?_
     refine z9 (i:=11) rfl (by kernel_rfl) (fun K hK=>?_)
     go_simp
     refine nxt hK.out (.inl rfl) ?_
     clear hK K
     refine zf (by kernel_rfl) ?_ _
     refine NoPanic.normal ?_
     clear hHeld e1 g1 e3 H1 HPI HST HLK HEQ HSE HUA HR5 HM5 HMX HXX HR6 HB3
     have hpz3:=HR7.out.lt
     obtain⟨f1,f10,f11,f12,f13,f14,f15,f16⟩:=HR7.out.fields
     have HTA:Hid (upI T a tm a=tm):=hup
     clear hup HR7 hf1 hf2 hwr
     generalize (upB I a true)=I1 at HPS
     generalize (upI T a tm)=T1 at HPS HTA
     obtain⟨N1,hN1⟩:∃N1,(upI N a (tm+1))=N1:=⟨_,rfl⟩
     rw [hN1] at HPS
     clear hN1
     have HSUM:=z5 HPS.out.2
     have HPS0:=z5 HPS.out.1
     clear HPS
     obtain⟨hec1,hec2⟩:=ok.ecap
     obtain⟨es,hes⟩:∃es,z8 c.L c.t=es:=⟨_,rfl⟩
     rw [hes] at f10 hec1
     have HES:=z5 hes
     clear hes HRP HNF HBD HM HQ HP HB HFAIL HBX HFL HB2 hwt hiz htz hnz
     have HW3:Hid (c.w0=c.w0):=rfl
     go_wp2_with fail
     clear f1 f10 f11 f12 f13 f14 f15 f16
     go_loopw [60] (fun i wr=>∃(k:Nat) (I2:Nat->Bool),k<=es.length/\i=iV k/\PSt c I2 T1 N1 a k wr) (fun i _=>es.length - (intOf i).toNat)
     case atStart=>exact⟨0,I1,Nat.zero_le _,rfl,HPS0.out⟩
     case round =>
      clear HPS0 hpz3
      obtain⟨k,I2,hk,rfl,hst⟩:=hrel
      have HPS:=z5 hst
      by_cases hkl:k<es.length
      ·have hki:(k:Int)<(es.length:Int):=by omega
       obtain⟨eb,eo,hea,hebz,-,-,fr,to,bk,wt,hed,hfr,hto,hbk,hwt,c0,c1,c2,c3⟩:=hst.rows.edge ok k (by rw [HES.out];exact hkl)
       have hpw:=hst.rows.lt
       have h3:=hst.rows.ir.cell hto
       have h5:=hst.rows.ir.lt
       obtain⟨tf1,tf2⟩:=hst.sok.times to hto
       have htt:=hst.rows.tr.lt
       have htoi:(to:Int)<(c.L.body.length:Int):=by omega
       have HGAP:=z5 (fun W=>VR fr to bk wt c.P W hbk hwt hp1 hp2)
       have hpb1:0<=(bk:Int)*c.P:=Int.mul_nonneg (by omega) (by omega)
       have hpb2:(bk:Int)*c.P<=32*200:=Int.mul_le_mul (by omega) hp2 (by omega) (by omega)
       have HNX:Hid (∀y,Below wr.heap.size wr y->(fr=a->I2 to=true->tm+((wt:Int) - (bk:Int)*c.P)<=T1 to)->PSt c I2 T1 N1 a (k+1) y):=fun y hy g=>hst.nextk hy (by rw [HES.out];exact hkl) (by rw [hed,HTA.out];simpa [zbw] using g)
       have HOUT:Hid (∀(y:World) (q:Nat),I2 to=true->zR c (upB I2 to false) T1 N1 y->(q:Int)+cnt I2 c.L.body.length<=2*yH N1 c.L.body.length->yE (fun s r=>if s=zC (z6 c.L.body to).o/\r=(T1 to).tmod c.P then (inC c.L c.P I2 T1 s r:Int) - 1 else (inC c.L c.P I2 T1 s r:Int)) (q+1) c.mb y->PSt c (upB I2 to false) T1 N1 a (k+1) y):=fun y q g1 g2 g3 g4=>hst.out hto g1 (by rw [HES.out];exact hkl) (by rw [hed];simp) g2 g3 g4
       have HTK:Hid (∀(y:World) (q:Nat),Below wr.heap.size wr y->yE (fun s r=>(inC c.L c.P I2 T1 s r:Int)) q c.mb y->(q:Int)+cnt I2 c.L.body.length<=2*yH N1 c.L.body.length->Calls Tryz.prog 194 #[.pointer (some ⟨c.pb,0,none⟩),iV to] y fun e w'=>e=.returned (.tuple #[])/\zR c (upB I2 to false) T1 N1 w'/\yE (fun s r=>if s=zC (z6 c.L.body to).o/\r=(T1 to).tmod c.P then (inC c.L c.P I2 T1 s r:Int) - 1 else (inC c.L c.P I2 T1 s r:Int)) (q+1) c.mb w'):=fun y q g1 g2 g3=>zeg y to q _ ok (hst.rows.below g1) g2 (by have:=hst.sum ok;omega) hto tf1 tf2 (zaf ok I2 T1)
       have HMAP:=z5 hst.map
       have HROW:Hid (∀y,Below wr.heap.size wr y->(y.cell? ⟨c.pb,11,none⟩=some (iV c.P)/\y.cell? ⟨c.pb,13,none⟩=some (.slice (some ⟨c.ib,0,none⟩) c.L.body.length c.L.body.length)/\y.cell? ⟨c.pb,14,none⟩=some (.slice (some ⟨c.tb,0,none⟩) c.L.body.length c.L.body.length))/\y.cell? ⟨c.ib,to,none⟩=some (.bool (I2 to))/\y.cell? ⟨c.tb,to,none⟩=some (iV (T1 to))):=fun y hy=>by
        have hq:=hst.rows.below hy
        obtain⟨f1,f10,f11,f12,f13,f14,f15,f16⟩:=hq.fields
        exact⟨⟨f11,f13,f14⟩,hq.ir.cell hto,hq.tr.cell hto⟩
       obtain⟨gp,hgp⟩:∃g,(wt:Int) - (bk:Int)*c.P=g:=⟨_,rfl⟩
       rw [hgp] at HGAP HNX
       have hgb:-10000<=gp/\gp<=6:=by omega
       obtain⟨ik,hik⟩:∃ik,I2 to=ik:=⟨_,rfl⟩
       obtain⟨tf,htf⟩:∃tf,T1 to=tf:=⟨_,rfl⟩
       rw [hik] at h3 HNX HROW HOUT
       rw [htf] at tf1 tf2 HNX HROW HOUT HTK
       have hwr:IntKind.i64.wrap (tm+gp)=tm+gp:=yz _ (by omega) (by omega)
       have HBOX:Hid (∀y:World,Below (wr.heap.size+1) (wr.alloc (.cells #[iV fr,iV to,iV bk,iV wt] 100)) y->y.cell? ⟨wr.heap.size,0,none⟩=some (iV fr)/\y.cell? ⟨wr.heap.size,1,none⟩=some (iV to)/\y.cell? ⟨wr.heap.size,2,none⟩=some (iV bk)/\y.cell? ⟨wr.heap.size,3,none⟩=some (iV wt)):=fun y hy=>by
        have hb:y.heap[wr.heap.size]?=some (.cells #[iV fr,iV to,iV bk,iV wt] 100 (0,0)):=(hy.block _ (by omega)).trans (zn _ _ _)
        refine⟨?_,?_,?_,?_⟩ <;> (rw [cell_of_block hb];rfl)
       have HBAL:Hid (Below wr.heap.size wr (wr.alloc (.cells #[iV fr,iV to,iV bk,iV wt] 100))):=below_alloc1 _ _
       have HS:Hid ((wr.alloc (.cells #[iV fr,iV to,iV bk,iV wt] 100)).heap.size=wr.heap.size+1):=by show _=_;simp
       obtain⟨f1,f10,f11,f12,f13,f14,f15,f16⟩:=hst.rows.fields
       clear hed hgp hik htf f1 f10 f11 f12 f14 f15 f16 hst
       rw [hea]
       by_cases hta:fr=a
       ·cases ik with
        | false =>
          subst hta
          go_wp2_with fail
          go_big_quiet ((fail))
          go_wp2_with fail
          go_roundw
          case rel=>exact⟨k+1,I2,by omega,by go_num,HNX.out _ (HBAL.out.trans (below_draws _ _ _)) (fun _ h=>absurd h (by simp))⟩
          case measure=>simp [intOf];omega
        | true =>
          subst hta
          have HSE:Hid (∀y:World,Below (wr.heap.size+1) (wr.alloc (.cells #[iV fr,iV to,iV bk,iV wt] 100)) y->(y.cell? ⟨c.pb,11,none⟩=some (iV c.P)/\y.cell? ⟨c.pb,13,none⟩=some (.slice (some ⟨c.ib,0,none⟩) c.L.body.length c.L.body.length)/\y.cell? ⟨c.pb,14,none⟩=some (.slice (some ⟨c.tb,0,none⟩) c.L.body.length c.L.body.length))/\(y.cell? ⟨c.ib,to,none⟩=some (.bool true))/\(y.cell? ⟨c.tb,to,none⟩=some (iV tf))/\(y.cell? ⟨wr.heap.size,0,none⟩=some (iV fr)/\y.cell? ⟨wr.heap.size,1,none⟩=some (iV to)/\y.cell? ⟨wr.heap.size,2,none⟩=some (iV bk)/\y.cell? ⟨wr.heap.size,3,none⟩=some (iV wt))):=fun y hy=>by
           obtain⟨g1,g2,g3⟩:=HROW.out y (HBAL.out.trans (hy.mono (by omega)))
           exact⟨g1,g2,g3,HBOX.out y hy⟩
          obtain⟨bd,hbd⟩:∃bd,decide (tf<tm+gp)=bd:=⟨_,rfl⟩
          have HBD:=z5 hbd
          clear h3 f13
          go_wp2_with fail
          refine wp_region_noPanic ?_
          refine ze 99 (fun w'=>(w'.cell? ⟨c.pb,11,none⟩=some (iV c.P)/\w'.cell? ⟨c.pb,13,none⟩=some (.slice (some ⟨c.ib,0,none⟩) c.L.body.length c.L.body.length)/\w'.cell? ⟨c.pb,14,none⟩=some (.slice (some ⟨c.tb,0,none⟩) c.L.body.length c.L.body.length))/\(w'.cell? ⟨c.ib,to,none⟩=some (.bool true))/\(w'.cell? ⟨c.tb,to,none⟩=some (iV tf))/\(w'.cell? ⟨wr.heap.size,0,none⟩=some (iV fr)/\w'.cell? ⟨wr.heap.size,1,none⟩=some (iV to)/\w'.cell? ⟨wr.heap.size,2,none⟩=some (iV bk)/\w'.cell? ⟨wr.heap.size,3,none⟩=some (iV wt))) (by kernel_rfl) (HSE.out _ (zv _ _)) (fun hHeld=>?_)
          refine utk (i:=0) rfl hHeld ?_
          refine utk (i:=1) rfl hHeld ?_
          refine utk (i:=2) rfl hHeld ?_
          refine utk (i:=3) rfl hHeld ?_
          refine utk (i:=4) rfl hHeld ?_
          refine utk (i:=5) rfl hHeld ?_
          refine utk (i:=6) rfl hHeld ?_
          refine utk (i:=7) rfl hHeld ?_
          refine utk (i:=8) rfl hHeld ?_
          refine utk (i:=9) rfl hHeld ?_
          refine utk (i:=10) rfl hHeld ?_
          refine utk (i:=11) rfl hHeld ?_
          refine utk (i:=12) rfl hHeld ?_
          refine utk (i:=13) rfl hHeld ?_
          refine utk (i:=14) rfl hHeld ?_
          refine utk (i:=15) rfl hHeld ?_
          refine utk (i:=16) rfl hHeld ?_
          refine utk (i:=17) rfl hHeld ?_
          refine utk (i:=18) rfl hHeld ?_
          refine utk (i:=19) rfl hHeld ?_
          refine utk (i:=20) rfl hHeld ?_
          refine utk (i:=21) rfl hHeld ?_
          refine utk (i:=22) rfl hHeld ?_
          refine utk (i:=23) rfl hHeld ?_
          refine utk (i:=24) rfl hHeld ?_
          refine utk (i:=25) rfl hHeld ?_
          refine utk (i:=26) rfl hHeld ?_
          refine utk (i:=27) rfl hHeld ?_
          refine utk (i:=28) rfl hHeld ?_
          refine z9 (i:=29) rfl (by kernel_rfl) (fun K hK=>?_)
          go_simp
          refine (HGAP.out _).mono ?_
          rintro e x4 ⟨rfl,hb4⟩
          have HB4:Hid (Below (wr.heap.size+1) (wr.alloc (.cells #[iV fr,iV to,iV bk,iV wt] 100)) x4):=(zv _ _).trans (hb4.mono (by show _<=(wr.alloc (.cells #[iV fr,iV to,iV bk,iV wt] 100)).heap.size;rw [HS.out];exact Nat.le_refl _))
          have hHeld:=HSE.out _ HB4.out
          clear hb4
          refine nxt hK.out (.inr hHeld) ?_
          clear hK K
          refine utk (i:=30) rfl hHeld ?_
          refine utk (i:=31) rfl hHeld ?_
          refine utk (i:=32) rfl hHeld ?_
          refine zf (by kernel_rfl) ?_ _
          refine NoPanic.normal ?_
          have HB5:Hid (Below wr.heap.size wr x4):=HBAL.out.trans (HB4.out.mono (by omega))
          obtain⟨g1,g2,g3⟩:=hHeld
          clear g1 g2 hHeld
          obtain⟨x0,x1',x2',x3'⟩:=HBOX.out _ HB4.out
          clear x0 x2' x3' g3
          cases bd with
          | true =>
            go_wp2_with fail
            obtain⟨q2,hm2,hq2⟩:=HMAP.out
            refine (HTK.out x4 q2 HB5.out (hm2.below HB5.out) hq2).mono ?_
            rintro e x5 ⟨rfl,hr5,hm5⟩
            have HF:=z5 (HOUT.out x5 q2 (by first | rfl | trivial) hr5 hq2 hm5)
            clear hr5 hm5 hm2 hq2
            go_wp2_with fail
            go_roundw
            case rel=>exact⟨k+1,_,by omega,by go_num,HF.out⟩
            case measure=>simp [intOf];omega
          | false =>
            have HF:=z5 (HNX.out x4 HB5.out (fun _ _=>by have:=of_decide_eq_false HBD.out;omega))
            go_wp2_with fail
            go_roundw
            case rel=>exact⟨k+1,I2,by omega,by go_num,HF.out⟩
            case measure=>simp [intOf];omega
       ·have htd2:¬(fr:Int)=(a:Int):=by omega
        have htd4:((fr:Int) == (a:Int))=false:=beq_false_of_ne htd2
        go_wp2_with fail
        go_big_quiet ((fail))
        go_wp2_with fail
        go_roundw
        case rel=>exact⟨k+1,I2,by omega,by go_num,HNX.out _ (HBAL.out.trans (below_draws _ _ _)) (fun h=>absurd h hta)⟩
        case measure=>simp [intOf];omega
      ·have e:k=es.length:=by omega
       subst e
       have hki:¬(es.length:Int)<(es.length:Int):=by omega
       have HF:Hid (zqc c N (.returned (.bool true)) wr):=.inr ⟨rfl,I2,T1,N1,hst.anyk (by rw [HES.out];exact Nat.le_refl _),HSUM.out⟩
       clear hst
       go_wp2_with fail
       exact bodyPost_ret (v:=.bool true) (by simp [results,Tryz.results173,go_sem]) rfl HF.out
  ·have hgt:1000<tm:=by omega
   have HF:=z5 (HFAIL.out wr HB.out)
   go_wp2_with fail
   exact bodyPost_ret (v:=.bool false) (by simp [results,Tryz.results173,go_sem]) rfl HF.out
end Go.Proofs.YtjoapiafpahihabGreat
namespace Go.Proofs.YtjoapiafpahihabGreat
open Go.RowKit Go.Joins
set_option linter.unusedVariables false
set_option linter.unusedSimpArgs false
set_option maxRecDepth 8192
theorem zl6:(Tryz.prog.info? 4).map (fun i=>(i.zero,i.size,i.bytes))=some (some (.bool false),1,1):=by kernel_rfl
def ApS (u v:Value):Prop:=∀g g' n n' m m',u=.slice (some ⟨g,0,none⟩) n m->v=.slice (some ⟨g',0,none⟩) n' m'->g≠g'
theorem ApS.symm (u v:Value) (h:ApS u v):ApS v u:=fun g g' n n' m m' e1 e2=>(h g' g n' n m' m e2 e1).symm
def zcn (x:World) (n i:Nat) (v:Value) (w:World):Prop :=
 (i=7->∃g,v=.slice (some ⟨g,0,none⟩) n n/\x.heap.size<=g/\∃H:Nat->Int,zg w g 3 n (fun i=>iV (H i))) /\
 (i=9->∃g,v=.slice (some ⟨g,0,none⟩) n n/\x.heap.size<=g/\zg w g 4 n (fun _=>.bool false)) /\
 (i=14->∃g,v=.map (some g)/\x.heap.size<=g/\yE (fun _ _=>0) 0 g w) /\
 (i=11\/i=13->∃g,v=.slice (some ⟨g,0,none⟩) n n/\x.heap.size<=g/\zg w g 3 n (fun _=>iV 0))
theorem zcn.below {x:World} {n i:Nat} {v:Value} {w w':World} (h:zcn x n i v w) (hb:Below w.heap.size w w'):zcn x n i v w':=by
 obtain⟨h1,h2,h3,h4⟩:=h
 refine⟨fun e=>?_,fun e=>?_,fun e=>?_,fun e=>?_⟩
 ·obtain⟨g,k1,k2,H,k3⟩:=h1 e;exact⟨g,k1,k2,H,k3.below hb k3.lt⟩
 ·obtain⟨g,k1,k2,k3⟩:=h2 e;exact⟨g,k1,k2,k3.below hb k3.lt⟩
 ·obtain⟨g,k1,k2,k3⟩:=h3 e;exact⟨g,k1,k2,k3.below hb⟩
 ·obtain⟨g,k1,k2,k3⟩:=h4 e;exact⟨g,k1,k2,k3.below hb k3.lt⟩
theorem zcn.lt {x:World} {n i:Nat} {v:Value} {w:World} (h:zcn x n i v w) (hi:i∈[7,9,11,13,14]):∀g a b,v=.slice (some ⟨g,0,none⟩) a b->g<w.heap.size:=by
 intro g a b e
 obtain⟨h1,h2,h3,h4⟩:=h
 have key:∀g',v=.slice (some ⟨g',0,none⟩) n n->g'<w.heap.size->g<w.heap.size:=fun g' e1 hlt=>by
  rw [e1] at e
  injection e with e2
  injection e2 with e2
  injection e2 with e2
  omega
 simp only [List.mem_cons,List.not_mem_nil,or_false] at hi
 rcases hi with hi | hi | hi | hi | hi
 ·obtain⟨g',k1,k2,H,k3⟩:=h1 hi;exact key g' k1 k3.lt
 ·obtain⟨g',k1,k2,k3⟩:=h2 hi;exact key g' k1 k3.lt
 ·obtain⟨g',k1,k2,k3⟩:=h4 (.inl hi);exact key g' k1 k3.lt
 ·obtain⟨g',k1,k2,k3⟩:=h4 (.inr hi);exact key g' k1 k3.lt
 ·obtain⟨g',k1,k2,k3⟩:=h3 hi;rw [k1] at e;cases e
theorem X4 {x w:World} {n:Nat} {g a b:Nat} (hg:w.heap.size<=g):∀j∈[7,9,11,13,14],∀u,zcn x n j u w->ApS u (.slice (some ⟨g,0,none⟩) a b):=fun j hj u hu g1 g2 n1 n2 m1 m2 e1 e2=>by
 have h1:=hu.lt hj g1 n1 m1 e1
 injection e2 with e3
 injection e3 with e3
 injection e3 with e3
 omega
theorem zj7 {x w:World} {n:Nat} {g:Nat}:∀j∈[7,9,11,13,14],∀u,zcn x n j u w->ApS u (.map (some g)):=fun j _ u hu g1 g2 n1 n2 m1 m2 e1 e2=>by cases e2
set_option maxHeartbeats 16000000 in
theorem Up (p0 p1 p2 q0 q1 q2 r:Int) (L:Lp) (v0 v2:Value) (bb bo bc:Nat) (P:Int) (ea:Option Addr) (ec:Nat) (x:World) (hm:zx L=true) (ht:zp ⟨p0,p1,p2,q0,q1,q2,r⟩=true) (hP1:1<=P) (hP2:P<=200) (hbb:bb<x.heap.size) (hbc:L.body.length<=bc) (hbm:bc<=9223372036854775807) (hbody:∀i,i<L.body.length->∀j,j<9->x.cell? ⟨bb,bo+i*9+j,none⟩=(zJ (z6 L.body i))[j]?) (hE:yP x (.slice ea (z8 L ⟨p0,p1,p2,q0,q1,q2,r⟩).length ec) (z8 L ⟨p0,p1,p2,q0,q1,q2,r⟩)) :
  Calls Tryz.prog 171 #[.agg #[v0,.slice (some ⟨bb,bo,none⟩) L.body.length bc,v2],.agg #[iV p0,iV p1,iV p2,iV q0,iV q1,iV q2,iV r],.slice ea (z8 L ⟨p0,p1,p2,q0,q1,q2,r⟩).length ec,iV P] x fun e w'=>∃c:Pc,e=.returned (.pointer (some ⟨c.pb,0,none⟩))/\Ya c/\c.w0=x/\c.L=L/\c.t=⟨p0,p1,p2,q0,q1,q2,r⟩/\c.P=P/\PSt c (fun _=>false) (fun _=>0) (fun _=>0) 0 (z8 c.L c.t).length w':=by
 obtain⟨-,hl1,hl16,-⟩:=zj hm
 have HOK:Hid (∀e∈z8 L ⟨p0,p1,p2,q0,q1,q2,r⟩,VJ L.body.length e):=fun e he=>by
  obtain⟨fr,to,bk,wt,h0,h1,h2,h3,h4,h5⟩:=xq hm e he
  exact⟨fr,to,bk,wt,h0,h1,h2,h5,h4⟩
 have HHE:=z5 (fun W (hW:yP W (.slice ea (z8 L ⟨p0,p1,p2,q0,q1,q2,r⟩).length ec) (z8 L ⟨p0,p1,p2,q0,q1,q2,r⟩))=>zd3 L.body.length P ea ec _ W hW HOK.out hl16 hP1 hP2)
 have hmkI:=run_make_row' (P:=Tryz.prog) 22 3 (iV 0) 8 Tryz.underlying22 Tryz.j3 rfl .i64 .i64 L.body.length (by omega) (by omega)
 have hmkB:=run_make_row' (P:=Tryz.prog) 148 4 (.bool false) 1 Tryz.underlying148 zl6 rfl .i64 .i64 L.body.length (by omega) (by omega)
 have hmm:=@run_makeMap Tryz.prog
 have HB2:=z5 (below_alloc2 x (.cells #[v0,.slice (some ⟨bb,bo,none⟩) L.body.length bc,v2] 25) (.cells #[iV p0,iV p1,iV p2,iV q0,iV q1,iV q2,iV r] 28))
 have HS2:Hid (((x.alloc (.cells #[v0,.slice (some ⟨bb,bo,none⟩) L.body.length bc,v2] 25)).alloc (.cells #[iV p0,iV p1,iV p2,iV q0,iV q1,iV q2,iV r] 28)).heap.size=x.heap.size+1+1):=by show _=_;simp
 have HEV:=z5 hE
 have HSE:Hid (∀y,Below (x.heap.size+1+1) ((x.alloc (.cells #[v0,.slice (some ⟨bb,bo,none⟩) L.body.length bc,v2] 25)).alloc (.cells #[iV p0,iV p1,iV p2,iV q0,iV q1,iV q2,iV r] 28)) y->(y.cell? ⟨x.heap.size,0,none⟩=some v0/\y.cell? ⟨x.heap.size,1,none⟩=some (.slice (some ⟨bb,bo,none⟩) L.body.length bc)/\y.cell? ⟨x.heap.size,2,none⟩=some v2)/\(y.cell? ⟨x.heap.size+1,0,none⟩=some (iV p0)/\y.cell? ⟨x.heap.size+1,1,none⟩=some (iV p1)/\y.cell? ⟨x.heap.size+1,2,none⟩=some (iV p2)/\y.cell? ⟨x.heap.size+1,3,none⟩=some (iV q0)/\y.cell? ⟨x.heap.size+1,4,none⟩=some (iV q1)/\y.cell? ⟨x.heap.size+1,5,none⟩=some (iV q2)/\y.cell? ⟨x.heap.size+1,6,none⟩=some (iV r))):=fun y hy=>by
  obtain⟨h1,h2,-⟩:=zI hy
  exact⟨h1,h2⟩
 have HEND:Hid (∀(pb hb ib tb nb mb:Nat) (y:World),Below x.heap.size x y->x.heap.size<=hb->x.heap.size<=ib->x.heap.size<=tb->x.heap.size<=nb->x.heap.size<=mb->hb≠tb->hb≠nb->tb≠nb->(∃H:Nat->Int,zg y hb 3 L.body.length (fun i=>iV (H i)))->zg y ib 4 L.body.length (fun _=>.bool false)->zg y tb 3 L.body.length (fun _=>iV 0)->zg y nb 3 L.body.length (fun _=>iV 0)->yE (fun _ _=>0) 0 mb y->x.heap.size<=pb ->
   y.heap[pb]?=some (.cells (plC ⟨x,L,⟨p0,p1,p2,q0,q1,q2,r⟩,P,pb,hb,ib,tb,nb,mb,v0,v2,bb,bo,bc,ea,ec⟩) 238 (0,0))->∃c:Pc,(.returned (.pointer (some ⟨pb,0,none⟩)):Ending)=.returned (.pointer (some ⟨c.pb,0,none⟩))/\Ya c/\c.w0=x/\c.L=L/\c.t=⟨p0,p1,p2,q0,q1,q2,r⟩/\c.P=P/\PSt c (fun _=>false) (fun _=>0) (fun _=>0) 0 (z8 c.L c.t).length y):=by
  intro pb hb ib tb nb mb y k1 k2 k3 k4 k5 k6 k7 k8 k9 r1 r2 r3 r4 r5 k10 k11
  refine⟨⟨x,L,⟨p0,p1,p2,q0,q1,q2,r⟩,P,pb,hb,ib,tb,nb,mb,v0,v2,bb,bo,bc,ea,ec⟩,rfl,⟨hm,ht,hP1,hP2,hbb,hbc,hbm,hbody,hE⟩,rfl,rfl,rfl,rfl,⟨⟨k1,k11,r1,r2,r3,r4,⟨k10,k2,k3,k4,k5,k6⟩,⟨k7,k8,k9⟩⟩,SOk.start ht _ _,0,r5.congr fun s q=>?_,?_⟩⟩
  ·have h1:inC L P (fun _=>false) (fun _=>0) s q=0:=by
    rcases xQ (fun i=>(fun _:Nat=>false) i && (decide (zC (z6 L.body i).o=s) && decide (((fun _:Nat=>(0:Int)) i).tmod P=q))) L.body.length with h | ⟨i,_,h⟩
    ·exact h
    ·simp at h
   show (0:Int)=(inC L P (fun _=>false) (fun _=>0) s q:Int)
   rw [h1];rfl
  ·have h1:cnt (fun _=>false) L.body.length=0:=by
    rcases xQ (fun _=>false) L.body.length with h | ⟨i,_,h⟩
    ·exact h
    ·cases h
   have h2:=(zb1 (N:=fun _=>0) (lo:=0) (hi:=0) L.body.length (fun _ _=>⟨Int.le_refl _,Int.le_refl _⟩)).1
   show ((0:Nat):Int)+(cnt (fun _=>false) L.body.length:Nat)<=2*yH (fun _=>0) L.body.length
   rw [h1]
   omega
 have HELN:Hid ((z8 L ⟨p0,p1,p2,q0,q1,q2,r⟩).length=(z8 L ⟨p0,p1,p2,q0,q1,q2,r⟩).length):=rfl
 clear hE hbody hm ht
 obtain⟨es,hes⟩:∃es,z8 L ⟨p0,p1,p2,q0,q1,q2,r⟩=es:=⟨_,rfl⟩
 rw [hes] at HHE HEV ⊢
 have HES:=z5 hes
 clear hes
 go_enter Tryz.func171,Tryz.ntmps171
 go_wp2_with fail
 refine wp_region_noPanic ?_
 refine ze 99 (fun w'=>(Below (x.heap.size+1+1) ((x.alloc (.cells #[v0,.slice (some ⟨bb,bo,none⟩) L.body.length bc,v2] 25)).alloc (.cells #[iV p0,iV p1,iV p2,iV q0,iV q1,iV q2,iV r] 28)) w')/\((w'.cell? ⟨x.heap.size,0,none⟩=some v0/\w'.cell? ⟨x.heap.size,1,none⟩=some (.slice (some ⟨bb,bo,none⟩) L.body.length bc)/\w'.cell? ⟨x.heap.size,2,none⟩=some v2)/\(w'.cell? ⟨x.heap.size+1,0,none⟩=some (iV p0)/\w'.cell? ⟨x.heap.size+1,1,none⟩=some (iV p1)/\w'.cell? ⟨x.heap.size+1,2,none⟩=some (iV p2)/\w'.cell? ⟨x.heap.size+1,3,none⟩=some (iV q0)/\w'.cell? ⟨x.heap.size+1,4,none⟩=some (iV q1)/\w'.cell? ⟨x.heap.size+1,5,none⟩=some (iV q2)/\w'.cell? ⟨x.heap.size+1,6,none⟩=some (iV r)))) (by kernel_rfl) ⟨zv _ _,HSE.out _ (zv _ _)⟩ (fun hHeld=>?_)
 refine utk (i:=0) rfl hHeld ?_
 refine utk (i:=1) rfl hHeld ?_
 refine utk (i:=2) rfl hHeld ?_
 refine utk (i:=3) rfl hHeld ?_
 refine utk (i:=4) rfl hHeld ?_
 refine utk (i:=5) rfl hHeld ?_
 refine utk (i:=6) rfl hHeld ?_
 refine utk (i:=8) rfl hHeld ?_
 refine utk (i:=10) rfl hHeld ?_
 refine utk (i:=12) rfl hHeld ?_
 refine zer (zcn x L.body.length) ApS ApS.symm [7,9,11,13,14] #[true,true,true,true,true,true,true,true,true,true,true,true,true,true,true,false,false,false] (fun _ _ _ h=>h) (by decide) (fun _ _ _ _ _ h hb=>h.below hb) ?mk ?fin 5 [7,9,11,13,14] [] (fun _=>undef) _ _ rfl (List.Perm.refl _) (by kernel_rfl) hHeld (fun i hi=>absurd hi (by simp)) (fun i hi=>absurd hi (by simp))
 case mk =>
  intro i hi
  simp only [List.mem_cons,List.not_mem_nil,or_false] at hi
  rcases hi with rfl | rfl | rfl | rfl | rfl
  ·refine XM rfl (by kernel_rfl) (by rfl) (by kernel_rfl) (fun w hS K hK=>?_)
   have hbx:=HB2.out.trans (hS.1.mono (by omega))
   have HEW:=z5 (HEV.out.below hbx)
   have HSZ:=z5 hbx.size
   have HSW:=z5 hS.1
   clear hS hbx hmkI hmkB hmm HEV
   go_simp
   refine (HHE.out w HEW.out).mono ?_
   rintro e y ⟨rfl,hb,hr⟩
   have hsy:Below (x.heap.size+1+1) ((x.alloc (.cells #[v0,.slice (some ⟨bb,bo,none⟩) L.body.length bc,v2] 25)).alloc (.cells #[iV p0,iV p1,iV p2,iV q0,iV q1,iV q2,iV r] 28)) y:=HSW.out.trans (hb.mono (by have:=HSW.out.size;rw [HS2.out] at this;exact this))
   exact hK.out _ _ ⟨hsy,HSE.out _ hsy⟩ hb ⟨fun _=>⟨_,rfl,HSZ.out,hr⟩,fun h=>absurd h (by decide),fun h=>absurd h (by decide),fun h=>absurd h (by decide)⟩ (X4 (Nat.le_refl _))
  ·refine XM rfl (by kernel_rfl) (by rfl) (by kernel_rfl) (fun w hS K hK=>?_)
   have HSZ:=z5 (HB2.out.trans (hS.1.mono (by omega))).size
   have HSW:=z5 hS.1
   clear hS hmkI hmm
   go_simp
   have hb:Below w.heap.size w (w.alloc (.cells (madeCells #[.bool false] L.body.length) 4)):=below_alloc1 _ _
   have hsy:Below (x.heap.size+1+1) ((x.alloc (.cells #[v0,.slice (some ⟨bb,bo,none⟩) L.body.length bc,v2] 25)).alloc (.cells #[iV p0,iV p1,iV p2,iV q0,iV q1,iV q2,iV r] 28)) (w.alloc (.cells (madeCells #[.bool false] L.body.length) 4)):=HSW.out.trans (hb.mono (by have:=HSW.out.size;rw [HS2.out] at this;exact this))
   exact hK.out _ _ ⟨hsy,HSE.out _ hsy⟩ hb ⟨fun h=>absurd h (by decide),fun _=>⟨_,rfl,HSZ.out,zg.zeros w _ _ _⟩,fun h=>absurd h (by decide),fun h=>absurd h (by decide)⟩ (X4 (Nat.le_refl _))
  ·refine XM rfl (by kernel_rfl) (by rfl) (by kernel_rfl) (fun w hS K hK=>?_)
   have HSZ:=z5 (HB2.out.trans (hS.1.mono (by omega))).size
   have HSW:=z5 hS.1
   clear hS hmkB hmm
   go_simp
   have hb:Below w.heap.size w (w.alloc (.cells (madeCells #[iV 0] L.body.length) 3)):=below_alloc1 _ _
   have hsy:Below (x.heap.size+1+1) ((x.alloc (.cells #[v0,.slice (some ⟨bb,bo,none⟩) L.body.length bc,v2] 25)).alloc (.cells #[iV p0,iV p1,iV p2,iV q0,iV q1,iV q2,iV r] 28)) (w.alloc (.cells (madeCells #[iV 0] L.body.length) 3)):=HSW.out.trans (hb.mono (by have:=HSW.out.size;rw [HS2.out] at this;exact this))
   exact hK.out _ _ ⟨hsy,HSE.out _ hsy⟩ hb ⟨fun h=>absurd h (by decide),fun h=>absurd h (by decide),fun h=>absurd h (by decide),fun _=>⟨_,rfl,HSZ.out,zg.zeros w _ _ _⟩⟩ (X4 (Nat.le_refl _))
  ·refine XM rfl (by kernel_rfl) (by rfl) (by kernel_rfl) (fun w hS K hK=>?_)
   have HSZ:=z5 (HB2.out.trans (hS.1.mono (by omega))).size
   have HSW:=z5 hS.1
   clear hS hmkB hmm
   go_simp
   have hb:Below w.heap.size w (w.alloc (.cells (madeCells #[iV 0] L.body.length) 3)):=below_alloc1 _ _
   have hsy:Below (x.heap.size+1+1) ((x.alloc (.cells #[v0,.slice (some ⟨bb,bo,none⟩) L.body.length bc,v2] 25)).alloc (.cells #[iV p0,iV p1,iV p2,iV q0,iV q1,iV q2,iV r] 28)) (w.alloc (.cells (madeCells #[iV 0] L.body.length) 3)):=HSW.out.trans (hb.mono (by have:=HSW.out.size;rw [HS2.out] at this;exact this))
   exact hK.out _ _ ⟨hsy,HSE.out _ hsy⟩ hb ⟨fun h=>absurd h (by decide),fun h=>absurd h (by decide),fun h=>absurd h (by decide),fun _=>⟨_,rfl,HSZ.out,zg.zeros w _ _ _⟩⟩ (X4 (Nat.le_refl _))
  ·refine XM rfl (by kernel_rfl) (by rfl) (by kernel_rfl) (fun w hS K hK=>?_)
   have HSZ:=z5 (HB2.out.trans (hS.1.mono (by omega))).size
   have HSW:=z5 hS.1
   clear hS hmkB hmkI
   go_simp
   have hb:Below w.heap.size w (w.alloc (.map #[] 0)):=below_alloc1 _ _
   have hsy:Below (x.heap.size+1+1) ((x.alloc (.cells #[v0,.slice (some ⟨bb,bo,none⟩) L.body.length bc,v2] 25)).alloc (.cells #[iV p0,iV p1,iV p2,iV q0,iV q1,iV q2,iV r] 28)) (w.alloc (.map #[] 0)):=HSW.out.trans (hb.mono (by have:=HSW.out.size;rw [HS2.out] at this;exact this))
   exact hK.out _ _ ⟨hsy,HSE.out _ hsy⟩ hb ⟨fun h=>absurd h (by decide),fun h=>absurd h (by decide),fun _=>⟨_,rfl,HSZ.out,yE.made w⟩,fun h=>absurd h (by decide)⟩ zj7
 case fin =>
  intro val w1 hS hR hA
  obtain⟨hb,e7,k7,r7⟩:=(hR 7 (by decide)).1 rfl
  obtain⟨ib,e9,k9,r9⟩:=(hR 9 (by decide)).2.1 rfl
  obtain⟨tb,e11,k11,r11⟩:=(hR 11 (by decide)).2.2.2 (.inl rfl)
  obtain⟨nb,e13,k13,r13⟩:=(hR 13 (by decide)).2.2.2 (.inr rfl)
  obtain⟨mb,e14,k14,r14⟩:=(hR 14 (by decide)).2.2.1 rfl
  have n1:=hA 7 (by decide) 11 (by decide) (by decide) _ _ _ _ _ _ e7 e11
  have n2:=hA 7 (by decide) 13 (by decide) (by decide) _ _ _ _ _ _ e7 e13
  have n3:=hA 11 (by decide) 13 (by decide) (by decide) _ _ _ _ _ _ e11 e13
  have HBW:Hid (Below x.heap.size x w1):=HB2.out.trans (hS.1.mono (by omega))
  have HRS:=z5 (And.intro r7 (And.intro r9 (And.intro r11 (And.intro r13 r14))))
  have hHeld2:=hS
  clear hR hA hS hHeld hmkI hmkB hmm HHE
  show Yb _ _ _ _ _ _ _ _ ((((((_:Act).put (some 20) (val 7)).put (some 22) (val 9)).put (some 24) (val 11)).put (some 26) (val 13)).put (some 27) (val 14)) _
  rw [e7,e9,e11,e13,e14]
  clear e7 e9 e11 e13 e14 r7 r9 r11 r13 r14
  have hHeld:=hHeld2
  clear hHeld2
  try simp only [Act.put,List.setIfInBounds_toArray,List.set_cons_zero,List.set_cons_succ]
  refine utk (i:=15) rfl hHeld ?_
  have HPB:Hid ((w1.alloc (.cells #[v0,.slice (some ⟨bb,bo,none⟩) L.body.length bc,v2,iV p0,iV p1,iV p2,iV q0,iV q1,iV q2,iV r,.slice ea es.length ec,iV P,.slice (some ⟨hb,0,none⟩) L.body.length L.body.length,.slice (some ⟨ib,0,none⟩) L.body.length L.body.length,.slice (some ⟨tb,0,none⟩) L.body.length L.body.length,.slice (some ⟨nb,0,none⟩) L.body.length L.body.length,.map (some mb)] 238)).heap[w1.heap.size]?=some (.cells (plC ⟨x,L,⟨p0,p1,p2,q0,q1,q2,r⟩,P,w1.heap.size,hb,ib,tb,nb,mb,v0,v2,bb,bo,bc,ea,ec⟩) 238 (0,0))):=by
   show _=_
   unfold plC
   dsimp only
   rw [HES.out]
   exact zn _ _ _
  have HBP:Hid (Below w1.heap.size w1 (w1.alloc (.cells #[v0,.slice (some ⟨bb,bo,none⟩) L.body.length bc,v2,iV p0,iV p1,iV p2,iV q0,iV q1,iV q2,iV r,.slice ea es.length ec,iV P,.slice (some ⟨hb,0,none⟩) L.body.length L.body.length,.slice (some ⟨ib,0,none⟩) L.body.length L.body.length,.slice (some ⟨tb,0,none⟩) L.body.length L.body.length,.slice (some ⟨nb,0,none⟩) L.body.length L.body.length,.map (some mb)] 238))):=below_alloc1 _ _
  have hsy:Below (x.heap.size+1+1) ((x.alloc (.cells #[v0,.slice (some ⟨bb,bo,none⟩) L.body.length bc,v2] 25)).alloc (.cells #[iV p0,iV p1,iV p2,iV q0,iV q1,iV q2,iV r] 28)) (w1.alloc (.cells #[v0,.slice (some ⟨bb,bo,none⟩) L.body.length bc,v2,iV p0,iV p1,iV p2,iV q0,iV q1,iV q2,iV r,.slice ea es.length ec,iV P,.slice (some ⟨hb,0,none⟩) L.body.length L.body.length,.slice (some ⟨ib,0,none⟩) L.body.length L.body.length,.slice (some ⟨tb,0,none⟩) L.body.length L.body.length,.slice (some ⟨nb,0,none⟩) L.body.length L.body.length,.map (some mb)] 238)):=hHeld.1.trans (HBP.out.mono (by have:=hHeld.1.size;rw [HS2.out] at this;exact this))
  have hHeld2:=And.intro hsy (HSE.out _ hsy)
  refine z9 (i:=16) rfl (by kernel_rfl) (fun K hK=>?_)
  go_simp
  refine nxt hK.out (.inr hHeld2) ?_
  clear hK K
  have hHeld:=hHeld2
  refine z9 (i:=17) rfl (by kernel_rfl) (fun K hK=>?_)
  go_simp
  refine nxt hK.out (.inr hHeld) ?_
  clear hK K
  refine zf (by kernel_rfl) ?_ _
  refine NoPanic.normal ?_
  have HF:=z5 (HEND.out w1.heap.size hb ib tb nb mb (w1.alloc (.cells #[v0,.slice (some ⟨bb,bo,none⟩) L.body.length bc,v2,iV p0,iV p1,iV p2,iV q0,iV q1,iV q2,iV r,.slice ea es.length ec,iV P,.slice (some ⟨hb,0,none⟩) L.body.length L.body.length,.slice (some ⟨ib,0,none⟩) L.body.length L.body.length,.slice (some ⟨tb,0,none⟩) L.body.length L.body.length,.slice (some ⟨nb,0,none⟩) L.body.length L.body.length,.map (some mb)] 238)) (HBW.out.trans (HBP.out.mono HBW.out.size)) k7 k9 k11 k13 k14 n1 n2 n3 (by obtain⟨H,hH⟩:=HRS.out.1;exact⟨H,hH.below HBP.out hH.lt⟩) (HRS.out.2.1.below HBP.out HRS.out.2.1.lt) (HRS.out.2.2.1.below HBP.out HRS.out.2.2.1.lt) (HRS.out.2.2.2.1.below HBP.out HRS.out.2.2.2.1.lt) (HRS.out.2.2.2.2.below HBP.out) HBW.out.size HPB.out)
  clear hHeld hHeld2 hsy
  go_wp2_with fail
  exact bodyPost_ret (v:=.pointer (some ⟨w1.heap.size,0,none⟩)) (by simp [results,Tryz.results171,go_sem]) rfl HF.out
end Go.Proofs.YtjoapiafpahihabGreat
namespace Go.Proofs.YtjoapiafpahihabGreat
open Go.RowKit Go.Joins
set_option linter.unusedVariables false
set_option linter.unusedSimpArgs false
set_option maxRecDepth 8192
def zc3 (w:World) (g n:Nat):Int:=yH (fun i=>match w.cell? ⟨g,i,none⟩ with | some (.int _ z)=>z | _=>0) n
theorem zkg {f g:Nat->Int}:∀n,(∀i,i<n->f i=g i)->yH f n=yH g n:=by
 intro n
 induction n with
 | zero=>intro _;rfl
 | succ n ih =>
   intro h
   show yH f n+f n=yH g n+g n
   rw [ih fun i hi=>h i (by omega),h n (by omega)]
theorem zdj {w:World} {g n:Nat} {e:TypeId} {N:Nat->Int} (h:zg w g e n (fun i=>iV (N i))):zc3 w g n=yH N n :=
 zkg n fun i hi=>by rw [h.cell hi]
def AtP (L:Lp) (t:Tg) (P:Int) (x:World) (e:Ending) (w':World):Prop:=Below x.heap.size x w'/\∃(P':Int) (ta:Option Addr) (tl tc:Nat) (b:Bool),e=.returned (.tuple #[.agg #[iV P',.slice ta tl tc],.bool b])/\(b=true->P'=P/\∃g T,ta=some ⟨g,0,none⟩/\x.heap.size<=g/\tl=T.length/\yf w' (.slice ta tl tc) T/\zD L t P T=true)
theorem PSt.ints {c:Pc} {I:Nat->Bool} {T N:Nat->Int} {a k:Nat} {x:World} (h:PSt c I T N a k x) (ok:Ya c):yf x (.slice (some ⟨c.tb,0,none⟩) c.L.body.length c.L.body.length) ((List.range c.L.body.length).map T):=by
 have hl:=ok.len
 have hlen:((List.range c.L.body.length).map T).length=c.L.body.length:=by simp
 refine⟨some ⟨c.tb,0,none⟩,c.L.body.length,by rw [hlen],by rw [hlen];exact Nat.le_refl _,by unfold maxLen;omega,fun i hi=>?_,fun _=>⟨c.tb,0,rfl,h.rows.tr.lt,fun i hi=>?_⟩⟩
 ·rw [hlen] at hi
  rw [xR hi]
  have:=h.sok.times i hi
  omega
 ·rw [hlen] at hi
  rw [xR hi,Nat.zero_add]
  exact h.rows.tr.cell hi
set_option maxHeartbeats 16000000 in
theorem zfx (p0 p1 p2 q0 q1 q2 r:Int) (L:Lp) (v0 v2:Value) (bb bo bc:Nat) (P:Int) (ea:Option Addr) (ec:Nat) (x:World) (hm:zx L=true) (ht:zp ⟨p0,p1,p2,q0,q1,q2,r⟩=true) (hP1:1<=P) (hP2:P<=200) (hbb:bb<x.heap.size) (hbc:L.body.length<=bc) (hbm:bc<=9223372036854775807) (hbody:∀i,i<L.body.length->∀j,j<9->x.cell? ⟨bb,bo+i*9+j,none⟩=(zJ (z6 L.body i))[j]?) (hE:yP x (.slice ea (z8 L ⟨p0,p1,p2,q0,q1,q2,r⟩).length ec) (z8 L ⟨p0,p1,p2,q0,q1,q2,r⟩)) :
  Calls Tryz.prog 145 #[.agg #[v0,.slice (some ⟨bb,bo,none⟩) L.body.length bc,v2],.agg #[iV p0,iV p1,iV p2,iV q0,iV q1,iV q2,iV r],.slice ea (z8 L ⟨p0,p1,p2,q0,q1,q2,r⟩).length ec,iV P] x fun e w'=>AtP L ⟨p0,p1,p2,q0,q1,q2,r⟩ P x e w':=by
 have HB3:=z5 (below_alloc3 x (.cells #[v0,.slice (some ⟨bb,bo,none⟩) L.body.length bc,v2] 25) (.cells #[iV p0,iV p1,iV p2,iV q0,iV q1,iV q2,iV r] 28) (.cells #[iV 0,.slice none 0 0] 49))
 have HS3:Hid ((((x.alloc (.cells #[v0,.slice (some ⟨bb,bo,none⟩) L.body.length bc,v2] 25)).alloc (.cells #[iV p0,iV p1,iV p2,iV q0,iV q1,iV q2,iV r] 28)).alloc (.cells #[iV 0,.slice none 0 0] 49)).heap.size=x.heap.size+1+1+1):=by show _=_;simp
 have HZ3:Hid ((((x.alloc (.cells #[v0,.slice (some ⟨bb,bo,none⟩) L.body.length bc,v2] 25)).alloc (.cells #[iV p0,iV p1,iV p2,iV q0,iV q1,iV q2,iV r] 28)).alloc (.cells #[iV 0,.slice none 0 0] 49)).heap[x.heap.size+1+1]?=some (.cells #[iV 0,.slice none 0 0] 49 (0,0))):=by
  show _=_
  have e:((x.alloc (.cells #[v0,.slice (some ⟨bb,bo,none⟩) L.body.length bc,v2] 25)).alloc (.cells #[iV p0,iV p1,iV p2,iV q0,iV q1,iV q2,iV r] 28)).heap.size=x.heap.size+1+1:=by simp
  rw [<-e];exact zn _ _ _
 have HNP:=z5 (Up p0 p1 p2 q0 q1 q2 r L v0 v2 bb bo bc P ea ec (((x.alloc (.cells #[v0,.slice (some ⟨bb,bo,none⟩) L.body.length bc,v2] 25)).alloc (.cells #[iV p0,iV p1,iV p2,iV q0,iV q1,iV q2,iV r] 28)).alloc (.cells #[iV 0,.slice none 0 0] 49)) hm ht hP1 hP2 (Nat.lt_of_lt_of_le hbb HB3.out.size) hbc hbm (fun i hi j hj=>(zc HB3.out _ _ hbb).trans (hbody i hi j hj)) (hE.below HB3.out))
 have HLEG:Hid (∀(c:Pc) I T N x,c.L=L->c.t=⟨p0,p1,p2,q0,q1,q2,r⟩->c.P=P->PSt c I T N 0 (z8 c.L c.t).length x->(∀i,i<c.L.body.length->I i=true)->zD L ⟨p0,p1,p2,q0,q1,q2,r⟩ P ((List.range c.L.body.length).map T)=true):=fun c I T N x e1 e2 e3 h1 h2=>by
  obtain⟨_,hs,_⟩:=h1
  rw [e1,e2,e3] at hs
  rw [e1] at h2 ⊢
  exact hs.legal hm ht hP1 hP2 h2
 have hbl:0<=1:=by omega
 clear hbody hE hm ht
 obtain⟨es,hes⟩:∃es,z8 L ⟨p0,p1,p2,q0,q1,q2,r⟩=es:=⟨_,rfl⟩
 rw [hes] at HNP ⊢
 have HES:=z5 hes
 clear hes
 go_enter Tryz.func145,Tryz.ntmps145
 go_wp2_with fail
 refine HNP.out.mono ?_
 rintro e x1 ⟨c,rfl,ok,hw0,hcL,hct,hcP,hst⟩
 have HW0:=z5 hw0
 have HCL:=z5 hcL
 have HCT:=z5 hct
 have HCP:=z5 hcP
 have HST:=z5 hst
 clear HNP hw0 hcL hct hcP hst hbl
 have HHI:=z5 (fun W I T N (h:PSt c I T N 0 (z8 c.L c.t).length W)=>zd4 W ok h.rows)
 have HPUT:=z5 (fun W a I T N (h:PSt c I T N 0 (z8 c.L c.t).length W) ha hI=>zkc W a ok h ha hI)
 have HSUM:Hid (∀I T N W,PSt c I T N 0 (z8 c.L c.t).length W->zc3 W c.nb c.L.body.length=yH N c.L.body.length/\0<=yH N c.L.body.length/\yH N c.L.body.length<=16016):=fun I T N W h=>⟨zdj h.rows.nr,h.sum ok⟩
 have HRES:Hid (∀W,Below c.w0.heap.size c.w0 W->W.heap[x.heap.size+1+1]?=some (.cells #[iV 0,.slice none 0 0] 49 (0,0))):=fun W hW=>by
  rw [hW.block _ (by rw [HW0.out,HS3.out];omega),HW0.out];exact HZ3.out
 have HBX:Hid (∀W,Below c.w0.heap.size c.w0 W->Below x.heap.size x W):=fun W hW=>by
  rw [HW0.out] at hW
  exact HB3.out.trans (hW.mono HB3.out.size)
 go_wp2_with fail
 refine (HHI.out x1 _ _ _ HST.out).mono ?_
 rintro e x2 ⟨fd,lf,rfl,hfd,hno,hyes,hb2⟩
 have HST2:=z5 (HST.out.below hb2)
 have HNO:=z5 hno
 have HYES:=z5 hyes
 clear HST hno hyes hb2
 go_wp2_with fail
 go_loopw [11,12] (fun av lv wr=>∃(fd:Nat) (lf:Bool) (I:Nat->Bool) (T N:Nat->Int),av=iV fd/\lv=.bool lf/\fd<c.L.body.length/\(lf=false->∀j,j<c.L.body.length->I j=true)/\(lf=true->I fd=false)/\PSt c I T N 0 (z8 c.L c.t).length wr) (fun _ _ wr=>(16020 - zc3 wr c.nb c.L.body.length).toNat)
 case atStart=>exact⟨fd,lf,_,_,_,rfl,rfl,hfd,HNO.out,fun _=>rfl,HST2.out⟩
 case round =>
  clear HNO HYES HST2
  obtain⟨fd,lf,I,T,N,rfl,rfl,hfd,hno,hyes,hst⟩:=hrel
  have HST:=z5 hst
  have HNO:=z5 hno
  have HYES:=z5 hyes
  have hsum:=HSUM.out I T N wr hst
  clear hst hno hyes
  cases lf with
  | true =>
    have HI:Hid (I fd=false):=HYES.out rfl
    have HM0:=z5 hsum
    clear hsum HNO HYES
    go_wp2_with fail
    refine (HPUT.out wr fd I T N HST.out hfd HI.out).mono ?_
    rintro e x3 hput
    rcases hput with ⟨rfl,hbf⟩ | ⟨rfl,I3,T3,N3,hst3,hsum3⟩
    ·have hz:=HRES.out x3 hbf
     have HBF:=z5 (HBX.out x3 hbf)
     have n0:x3.cell? ⟨x.heap.size+1+1,0,none⟩=some (iV 0):=by rw [cell_of_block hz];rfl
     have n1:x3.cell? ⟨x.heap.size+1+1,1,none⟩=some (.slice none 0 0):=by rw [cell_of_block hz];rfl
     have f0:x3.frozen? ⟨x.heap.size+1+1,0,none⟩=false:=by simp [World.frozen?,hz]
     have f1:x3.frozen? ⟨x.heap.size+1+1,1,none⟩=false:=by simp [World.frozen?,hz]
     obtain⟨s0,s1⟩:=xX (a':=iV 0) (b':=.slice none 0 0) hz
     have HW:Hid (AtP L ⟨p0,p1,p2,q0,q1,q2,r⟩ P x (.returned (.tuple #[.agg #[iV 0,.slice none 0 0],.bool false])) ((x3.setCell ⟨x.heap.size+1+1,0,none⟩ (iV 0)).setCell ⟨x.heap.size+1+1,1,none⟩ (.slice none 0 0))):=⟨(HBF.out.setCell (by show x.heap.size<=x.heap.size+1+1;omega) _).setCell (by show x.heap.size<=x.heap.size+1+1;omega) _,0,none,0,0,false,rfl,fun h=>absurd h (by simp)⟩
     clear hz hbf
     go_wp2_with fail
     exact bodyPost_ret (v:=.tuple #[.agg #[iV 0,.slice none 0 0],.bool false]) (by simp [results,Tryz.results145,go_sem,s0,s1]) rfl HW.out
    ·have HST3:=z5 hst3
     have HS3':=z5 (HSUM.out I3 T3 N3 x3 hst3)
     have HM3:=z5 hsum3
     clear hst3 hsum3
     go_wp2_with fail
     refine (HHI.out x3 _ _ _ HST3.out).mono ?_
     rintro e x4 ⟨fd4,lf4,rfl,hfd4,hno4,hyes4,hb4⟩
     have HST4:=z5 (HST3.out.below hb4)
     have HNO4:=z5 hno4
     have HYES4:=z5 hyes4
     have HS4:=z5 (HSUM.out I3 T3 N3 x4 HST4.out)
     clear hno4 hyes4 hb4
     go_wp2_with fail
     go_roundw
     case rel=>exact⟨fd4,lf4,I3,T3,N3,rfl,rfl,hfd4,HNO4.out,HYES4.out,HST4.out⟩
     case measure =>
      have h1:=HM0.out
      have h2:=HS4.out
      have h3:=HM3.out
      omega
  | false =>
    have HALL:Hid (∀j,j<c.L.body.length->I j=true):=HNO.out rfl
    have HLG:=z5 (HLEG.out c I T N wr HCL.out HCT.out HCP.out HST.out HALL.out)
    have hpz:=HST.out.rows.lt
    obtain⟨f1,f10,f11,f12,f13,f14,f15,f16⟩:=HST.out.rows.fields
    have hbf:=HST.out.rows.bel
    have hz:=HRES.out wr hbf
    have HBF:=z5 (HBX.out wr hbf)
    have n0:wr.cell? ⟨x.heap.size+1+1,0,none⟩=some (iV 0):=by rw [cell_of_block hz];rfl
    have n1:wr.cell? ⟨x.heap.size+1+1,1,none⟩=some (.slice none 0 0):=by rw [cell_of_block hz];rfl
    have g0:wr.frozen? ⟨x.heap.size+1+1,0,none⟩=false:=by simp [World.frozen?,hz]
    have g1:wr.frozen? ⟨x.heap.size+1+1,1,none⟩=false:=by simp [World.frozen?,hz]
    obtain⟨s0,s1⟩:=xX (a':=iV P) (b':=.slice (some ⟨c.tb,0,none⟩) c.L.body.length c.L.body.length) hz
    have hI:=HST.out.ints ok
    have htb:x.heap.size+1+1<c.tb:=by have:=HST.out.rows.ge.2.2.2.1;rw [HW0.out,HS3.out] at this;omega
    have hzz:x.heap.size+1+1<wr.heap.size:=(Array.getElem?_eq_some_iff.1 hz).1
    have HW:Hid (AtP L ⟨p0,p1,p2,q0,q1,q2,r⟩ P x (.returned (.tuple #[.agg #[iV P,.slice (some ⟨c.tb,0,none⟩) c.L.body.length c.L.body.length],.bool true])) ((wr.setCell ⟨x.heap.size+1+1,0,none⟩ (iV P)).setCell ⟨x.heap.size+1+1,1,none⟩ (.slice (some ⟨c.tb,0,none⟩) c.L.body.length c.L.body.length))):=by
     refine⟨(HBF.out.setCell (by show x.heap.size<=x.heap.size+1+1;omega) _).setCell (by show x.heap.size<=x.heap.size+1+1;omega) _,P,_,_,_,true,rfl,fun _=>⟨rfl,c.tb,(List.range c.L.body.length).map T,rfl,by omega,by simp,?_,HLG.out⟩⟩
     have hl:=ok.len
     have hlen:((List.range c.L.body.length).map T).length=c.L.body.length:=by simp
     have hr:=(HST.out.rows.tr.setOther (a:=⟨x.heap.size+1+1,0,none⟩) (by show c.tb≠x.heap.size+1+1;omega) (iV P)).setOther (a:=⟨x.heap.size+1+1,1,none⟩) (by show c.tb≠x.heap.size+1+1;omega) (.slice (some ⟨c.tb,0,none⟩) c.L.body.length c.L.body.length)
     refine⟨some ⟨c.tb,0,none⟩,c.L.body.length,by rw [hlen],by rw [hlen];exact Nat.le_refl _,by unfold maxLen;omega,fun i hi=>?_,fun _=>⟨c.tb,0,rfl,hr.lt,fun i hi=>?_⟩⟩
     ·rw [hlen] at hi
      rw [xR hi]
      have:=HST.out.sok.times i hi
      omega
     ·rw [hlen] at hi
      rw [xR hi,Nat.zero_add]
      exact hr.cell hi
    clear hz hbf f1 f10 f11 f12 f13 f15 f16 hI hzz htb hsum
    go_wp2_with fail
    exact bodyPost_ret (v:=.tuple #[.agg #[iV P,.slice (some ⟨c.tb,0,none⟩) c.L.body.length c.L.body.length],.bool true]) (by simp [results,Tryz.results145,go_sem,s0,s1]) rfl HW.out
end Go.Proofs.YtjoapiafpahihabGreat
