import Derived.Test.YtjoapiafpahihabGreatSchedB
set_option maxHeartbeats 20000000
namespace Go.Proofs.YtjoapiafpahihabGreat
open Go.Proofs.Tryz
open Go.RowKit Go.Joins
set_option linter.unusedVariables false
set_option linter.unusedSimpArgs false
set_option maxRecDepth 8192
variable {a k b n i g:Nat} {x y w:World} {v:Value}
section
structure PSt (c:Pc) (I:Nat->Bool) (T N:Nat->Int) (a k:Nat) (x:World):Prop where
 rows:yk c I T N x
 sok:SOk c.L c.t c.P I T N a k
 map:∃q:Nat,yW (fun s r=>(inC c.L c.P I T s r:Int)) q c.mb x/\(q:Int)+cnt I c.L.b.length<=2*xe N c.L.b.length
variable {c:Pc} {I:Nat->Bool} {T N:Nat->Int}
theorem PSt.gE (h:PSt c I T N a k x) (hb:Bw x y):PSt c I T N a k y:=by
 obtain⟨q,h1,h2⟩:=h.map
 exact⟨h.rows.gE hb,h.sok,q,h1.gE hb,h2⟩
theorem PSt.sum (h:PSt c I T N a k x) (ok:XS c):0<=xe N c.L.b.length/\xe N c.L.b.length<=16016:=by
 have h1:=zgf (N:=N) (lo:=0) (hi:=1001) c.L.b.length h.sok.nexts
 have h2:=ok.len.2
 have h3:(c.L.b.length:Int)*1001<=16*1001:=Int.mul_le_mul_of_nonneg_right (by omega) (by omega)
 omega
theorem ya3 (L:Lp) (P:Int) (I:Nat->Bool) (T:Nat->Int) (s r:Int):inC L P I T s r<=L.b.length:=Xw _ _
theorem zfc (ok:XS c) (I:Nat->Bool) (T:Nat->Int) (s r:Int):-1000000<=(inC c.L c.P I T s r:Int)/\(inC c.L c.P I T s r:Int)<=1000000:=by
 have h1:=ya3 c.L c.P I T s r
 have h2:=ok.len.2
 omega
theorem PSt.out (h:PSt c I T N a k x) (hb:b<c.L.b.length) (hI:I b=true) (hk:k<(zi c.L c.t).length) (he:(zM (zi c.L c.t) k).to.toNat=b) (hr:yk c (upB I b false) T N y) {q:Nat} (hq:(q:Int)+cnt I c.L.b.length<=2*xe N c.L.b.length)
  (hm:yW (fun s r=>if s=zW (zc c.L.b b).o/\r=(T b).tmod c.P then (inC c.L c.P I T s r:Int) - 1 else (inC c.L c.P I T s r:Int)) (q+1) c.mb y):PSt c (upB I b false) T N a (k+1) y:=by
 refine⟨hr,h.sok.out hb hI hk he,q+1,hm.congr fun s r=>?_,?_⟩
 ·have h1:=zuc (P:=c.P) (T:=T) hb hI s r
  by_cases e:s=zW (zc c.L.b b).o/\r=(T b).tmod c.P
  ·rw [if_pos e];rw [if_pos ⟨e.1.symm,e.2.symm⟩] at h1;omega
  ·rw [if_neg e];rw [if_neg fun e2=>e ⟨e2.1.symm,e2.2.symm⟩] at h1;omega
 ·have h1:=ztk (n:=c.L.b.length) hb hI
  omega
theorem PSt.putin {a0:Nat} {tm:Int} (h:PSt c I T N a0 (zi c.L c.t).length x) (ha:a<c.L.b.length) (hI:I a=false) (hrp:ZB c I T N a (zi c.L c.t).length tm) (h1:tm<=1000)
  (hfull:(inC c.L c.P I T (zW (zc c.L.b a).o) (tm.tmod c.P):Int)≠ye c.t (zW (zc c.L.b a).o)) (hr:yk c (upB I a true) (upI T a tm) (upI N a (tm+1)) y) {q:Nat} (hq:(q:Int)+cnt I c.L.b.length<=2*xe N c.L.b.length)
  (hm:yW (fun s r=>if s=zW (zc c.L.b a).o/\r=tm.tmod c.P then (inC c.L c.P I T s r:Int)+1 else (inC c.L c.P I T s r:Int)) (q+1) c.mb y):PSt c (upB I a true) (upI T a tm) (upI N a (tm+1)) a 0 y/\xe N c.L.b.length+1<=xe (upI N a (tm+1)) c.L.b.length:=by
 have hs:xe (upI N a (tm+1)) c.L.b.length=xe N c.L.b.length+(tm+1 - N a):=by rw [yav,if_pos ha]
 have h0:=hrp.1
 refine⟨⟨hr,h.sok.put (k0:=0) ha hI h0 h1 hfull (fun j hj e1 e2=>hrp.2.2 j hj e1 e2),q+1,hm.congr fun s r=>?_,?_⟩,by omega⟩
 ·rw [zud ha hI]
  by_cases e:s=zW (zc c.L.b a).o/\r=tm.tmod c.P
  ·rw [if_pos e,if_pos ⟨e.1.symm,e.2.symm⟩];omega
  ·rw [if_neg e,if_neg fun e2=>e ⟨e2.1.symm,e2.2.symm⟩];omega
 ·have h2:=US (n:=c.L.b.length) ha hI
  omega
theorem PSt.nextk (h:PSt c I T N a k x) (hb:Bw x y) (hk:k<(zi c.L c.t).length) (hn:(zM (zi c.L c.t) k).fr.toNat=a->I (zM (zi c.L c.t) k).to.toNat=true->T a+zhb c.P (zM (zi c.L c.t) k)<=T (zM (zi c.L c.t) k).to.toNat):PSt c I T N a (k+1) y:=by
 have h2:=h.gE hb
 exact⟨h2.rows,h2.sok.next hk hn,h2.map⟩
theorem PSt.anyk (h:PSt c I T N a k x) (hk:(zi c.L c.t).length<=k):PSt c I T N b (zi c.L c.t).length x:=⟨h.rows,h.sok.any hk,h.map⟩
def zzo (c:Pc) (N:Nat->Int) (e:Ending) (w':World):Prop :=
 (e=.returned (.bool false)/\Below c.w0.heap.size c.w0 w')\/(e=.returned (.bool true)/\∃I' T' N',PSt c I' T' N' 0 (zi c.L c.t).length w'/\xe N c.L.b.length+1<=xe N' c.L.b.length)
theorem ZB.later {a k:Nat} {tm:Int} (h:ZB c I T N a k tm) (h1:tm<=1000):ZB c I T N a k (tm+1):=⟨by have:=h.1;omega,by omega,fun j hj e1 e2=>by have:=h.2.2 j hj e1 e2;omega⟩
theorem zsf (x:World) (a:Nat) (ok:XS c) (h:PSt c I T N 0 (zi c.L c.t).length x) (ha:a<c.L.b.length) (hI:I a=false) :
  Calls prog 173 #[.pointer (pA c.pb),iV a] x fun e w'=>zzo c N e w':=by
 have hn1:=h.sok.nexts a ha
 have HRD:=z9 (fun W (hW:Bw x W)=>zrw W a ok (h.rows.gE hW) ha h.sok.times hn1)
 obtain⟨q,hM,hq⟩:=h.map
 have HFU:=z9 (fun W (tm:Int) (hW:Bw x W) (h0:0<=tm) (h1:tm<=1000)=>zu6 W a q tm _ ok (h.rows.gE hW) (hM.gE hW) ha h0 h1)
 have HM:=z9 hM
 have HQ:=z9 hq
 have HP:=z9 h
 have hpz:=h.rows.lt
 have HBX:=z9 h.rows.bel
 have hai:(a:Int)<(c.L.b.length:Int):=by omega
 have HLAT:=z9 (fun tm=>@ZB.later c I T N a (zi c.L c.t).length tm)
 have HFAIL:Hid (∀w',Bw x w'->zzo c N (.returned (.bool false)) w'):=fun w' hw=>.inl ⟨rfl,HBX.out.trans (hw.mono HBX.out.size)⟩
 have HN0:=z9 hn1
 clear h hn1 hM hq
 go_enter func173,ntmps173
 go_wp2_with fail
 refine (HRD.out _ (Below.refl _ _)).mono ?_
 rintro e x1 ⟨tm0,rfl,hrp0,hb1⟩
 have HRP0:=z9 hrp0
 have HB1:=z9 hb1
 clear hrp0 hb1
 go_wp2_with fail
 go_loopw [5] (fun tv wr=>∃tm:Int,tv=iV tm/\ZB c I T N a (zi c.L c.t).length tm/\Bw x wr) (fun tv _=>(1100 - intOf tv).toNat)
 case atStart=>exact⟨tm0,rfl,HRP0.out,HB1.out⟩
 case round =>
  clear HRP0 HB1
  obtain⟨tm,rfl,hrp,gH⟩:=hrel
  have HRP:=z9 hrp
  have HB:=z9 gH
  have htm0:0<=tm:=by have:=hrp.1;have:=HN0.out;omega
  have htm2:=hrp.2.1
  clear hrp gH
  by_cases htm1:tm<=1000
  ·have HFC:=z9 (HFU.out wr tm HB.out htm0 htm1)
   obtain⟨bd,hbd⟩:∃bd,decide ((inC c.L c.P I T (zW (zc c.L.b a).o) (tm.tmod c.P):Int)=ye c.t (zW (zc c.L.b a).o))=bd:=⟨_,rfl⟩
   rw [hbd] at HFC
   have HBD:=z9 hbd
   clear hbd
   cases bd with
   | true =>
     go_wp2_with fail
     refine HFC.out.mono ?_
     rintro e x2 ⟨rfl,hb2⟩
     have HB2:=z9 (HB.out.trans (hb2.mono HB.out.size))
     clear hb2
     go_wp2_with fail
     go_roundw
     case rel=>exact⟨tm+1,by go_num,HLAT.out tm HRP.out htm1,HB2.out⟩
     case measure=>simp [intOf];omega
   | false =>
     have HNF:Hid ((inC c.L c.P I T (zW (zc c.L.b a).o) (tm.tmod c.P):Int)≠ye c.t (zW (zc c.L.b a).o)):=of_decide_eq_false HBD.out
     clear HLAT
     go_wp2_with fail
     refine HFC.out.mono ?_
     rintro e x2 ⟨rfl,hb2⟩
     have HB2:=z9 (HB.out.trans (hb2.mono HB.out.size))
     clear hb2 HFC HFU HRD
     have hgt:¬1000<tm:=by omega
     go_wp2_with fail
     have HR2:Hid (yk c I T N x2.drew):=(HP.out.rows.gE HB2.out).gE (zI _ _)
     have HM2:Hid (yW (fun s r=>(inC c.L c.P I T s r:Int)) q c.mb x2.drew):=(HM.out.gE HB2.out).gE (zI _ _)
     have hwt:IntKind.i64.wrap (tm+1)=tm+1:=xw _ (by omega) (by omega)
     have HFL:Hid (∀I T N y,yk c I T N y->y.cell? (ad c.pb 13)=some (.slice (pA c.ib) c.L.b.length c.L.b.length)/\y.cell? (ad c.pb 14)=some (.slice (pA c.tb) c.L.b.length c.L.b.length)/\y.cell? (ad c.pb 15)=some (.slice (pA c.nb) c.L.b.length c.L.b.length)):=fun I T N y hy=>by
      obtain⟨f1,f10,f11,f12,f13,f14,f15,f16⟩:=hy.fields
      exact⟨f13,f14,f15⟩
     have hiz:=HR2.out.ir.lt
     have htz:=HR2.out.tr.lt
     have hnz:=HR2.out.nr.lt
     refine wp_region_noPanic ?_
     refine zm 99 (fun w'=>w'.cell? (ad c.pb 13)=some (.slice (pA c.ib) c.L.b.length c.L.b.length)/\w'.cell? (ad c.pb 14)=some (.slice (pA c.tb) c.L.b.length c.L.b.length)/\w'.cell? (ad c.pb 15)=some (.slice (pA c.nb) c.L.b.length c.L.b.length)) (by kernel_rfl) (HFL.out _ _ _ _ HR2.out) (fun h9=>?_)
     generalize x2.drew=y0 at *
     refine uk 0 h9 ?_
     refine uk 1 h9 ?_
     refine uk 2 h9 ?_
     refine uk 3 h9 ?_
     refine uk 4 h9 ?_
     refine uk 5 h9 ?_
     refine uk 6 h9 ?_
     refine uk 7 h9 ?_
     refine uk 8 h9 ?_
     refine uk 9 h9 ?_
     refine uk 10 h9 ?_
     refine uk 11 h9 ?_
     refine uk 12 h9 ?_
     refine uk 13 h9 ?_
     refine uk 14 h9 ?_
     refine uk 15 h9 ?_
     refine uk 16 h9 ?_
     refine uk 17 h9 ?_
     refine uk 18 h9 ?_
     have s1:=HR2.out.ir.cell ha
     have s2:=HR2.out.ir.frozen a
     have HR3:Hid (yk c (upB I a true) T N (y0.setCell (ad c.ib a) (.bool true))):=HR2.out.setIn a ha true
     have HM3:Hid (yW (fun s r=>(inC c.L c.P I T s r:Int)) q c.mb (y0.setCell (ad c.ib a) (.bool true))):=HM2.out.gG (Below.heap_setCell _ _ _ _ (xL HM2.out HR2.out.ir).symm)
     have gX:=HFL.out _ _ _ _ HR3.out
     refine ze (i:=19) rfl (by kernel_rfl) (fun K hK=>?_)
     go_simp
     refine nxt hK.out (.inr gX) ?_
     clear hK K
     clear s1 s2 h9 HR2 HM2
     generalize y0.setCell (ad c.ib a) (.bool true)=y1 at *
     have h9:=gX
     clear gX
     refine uk 20 h9 ?_
     have s1:=HR3.out.tr.cell ha
     have s2:=HR3.out.tr.frozen a
     have HR4:Hid (yk c (upB I a true) (upI T a tm) N (y1.setCell (ad c.tb a) (iV tm))):=HR3.out.setT a ha tm
     have HM4:Hid (yW (fun s r=>(inC c.L c.P I T s r:Int)) q c.mb (y1.setCell (ad c.tb a) (iV tm))):=HM3.out.gG (Below.heap_setCell _ _ _ _ (xL HM3.out HR3.out.tr).symm)
     have gX:=HFL.out _ _ _ _ HR4.out
     refine ze (i:=21) rfl (by kernel_rfl) (fun K hK=>?_)
     go_simp
     refine nxt hK.out (.inr gX) ?_
     clear hK K
     clear s1 s2 h9 HR3 HM3
     generalize y1.setCell (ad c.tb a) (iV tm)=y2 at *
     have h9:=gX
     clear gX
     refine uk 22 h9 ?_
     have s1:=HR4.out.nr.cell ha
     have s2:=HR4.out.nr.frozen a
     have HR5:Hid (yk c (upB I a true) (upI T a tm) (upI N a (tm+1)) (y2.setCell (ad c.nb a) (iV (tm+1)))):=HR4.out.setN a ha (tm+1)
     have HM5:Hid (yW (fun s r=>(inC c.L c.P I T s r:Int)) q c.mb (y2.setCell (ad c.nb a) (iV (tm+1)))):=HM4.out.gG (Below.heap_setCell _ _ _ _ (xL HM4.out HR4.out.nr).symm)
     have gX:=HFL.out _ _ _ _ HR5.out
     refine ze (i:=23) rfl (by kernel_rfl) (fun K hK=>?_)
     go_simp
     refine nxt hK.out (.inr gX) ?_
     clear hK K
     refine zq (by kernel_rfl) ?_ _
     refine NoPanic.normal ?_
     clear s1 s2 h9 HR4 HM4 gX
     generalize y2.setCell (ad c.nb a) (iV (tm+1))=y3 at *
     have hup:upI T a tm a=tm:=by unfold upI;rw [if_pos rfl]
     have HUA:=z9 (fun W (hW:yk c (upB I a true) (upI T a tm) (upI N a (tm+1)) W)=>zks W a ok hW ha (by rw [hup];exact htm0) (by rw [hup];exact htm1))
     rw [hup] at HUA
     have hq:=HQ.out
     have hsum:=HP.out.sum ok
     have HPI:=z9 (fun y hr hm=>HP.out.putin (y:=y) ha hI HRP.out htm1 HNF.out hr HQ.out hm)
     have hp1:=ok.p1
     have hp2:=ok.p2
     obtain⟨cn,hcn,hcn3⟩:=zc1 (zc c.L.b a).o
     have hm1:=Int.tmod_nonneg c.P htm0
     have hm2:=Int.tmod_lt_of_pos tm (show 0<c.P by omega)
     rw [hcn] at HUA HPI
     obtain⟨rm,hrm⟩:∃rm,tm.tmod c.P=rm:=⟨_,rfl⟩
     rw [hrm] at HUA HPI hm1 hm2
     obtain⟨hf1,hf2⟩:=zfc ok I T cn rm
     have HLK:Hid (∀y,yW (fun s r=>(inC c.L c.P I T s r:Int)) q c.mb y->(Instr.lookup 194 (.map (some c.mb)) (.agg #[iV cn,iV rm]) false).run prog y=.ok (iV (inC c.L c.P I T cn rm:Int)) y):=fun y hy=>hy.look cn rm (Vd _ (by omega) (by omega)) (Vd _ (by omega) (by omega))
     have HST:Hid (∀y,yW (fun s r=>(inC c.L c.P I T s r:Int)) q c.mb y->_):=fun y (hy:yW (fun s r=>(inC c.L c.P I T s r:Int)) q c.mb y)=>hy.step (by unfold maxLen;omega) cn rm (Vd _ (by omega) (by omega)) (Vd _ (by omega) (by omega)) ((inC c.L c.P I T cn rm:Int)+1) (Vd _ (by omega) (by omega))
     have HEQ:Hid (∀s r,(fun c' r'=>if c'=(cn:Int)/\r'=rm then (inC c.L c.P I T cn rm:Int)+1 else (inC c.L c.P I T c' r':Int)) s r=(fun s r=>if s=(cn:Int)/\r=rm then (inC c.L c.P I T s r:Int)+1 else (inC c.L c.P I T s r:Int)) s r):=fun s r=>by
      dsimp only
      by_cases e:s=(cn:Int)/\r=rm
      ·rw [if_pos e,if_pos e,e.1,e.2]
      ·rw [if_neg e,if_neg e]
     obtain⟨fv,hfv⟩:∃fv,(inC c.L c.P I T (cn:Int) rm:Int)=fv:=⟨_,rfl⟩
     rw [hfv] at HLK HST HEQ hf1 hf2
     have hwr:IntKind.i64.wrap (fv+1)=fv+1:=xw _ (by omega) (by omega)
     have HSE:Hid (∀y,Bw y3 y->(y.cell? (ad c.pb 16)=some (.map (some c.mb)))/\(Instr.lookup 194 (.map (some c.mb)) (.agg #[iV cn,iV rm]) false).run prog y=.ok (iV fv) y):=fun y hy=>⟨(HR5.out.gE hy).fields.2.2.2.2.2.2.2,HLK.out y (HM5.out.gE hy)⟩
     clear hcn hrm hfv hq hsum
     go_wp2_with fail
     refine wp_region_noPanic ?_
     refine zm 11 (fun w'=>(w'.cell? (ad c.pb 16)=some (.map (some c.mb)))/\(Instr.lookup 194 (.map (some c.mb)) (.agg #[iV cn,iV rm]) false).run prog w'=.ok (iV fv) w') (by kernel_rfl) (HSE.out _ (zI _ _)) (fun h9=>?_)
     refine uk 0 h9 ?_
     refine uk 1 h9 ?_
     refine uk 2 h9 ?_
     refine uk 3 h9 ?_
     refine uk 4 h9 ?_
     refine uk 5 h9 ?_
     refine ze (i:=6) rfl (by kernel_rfl) (fun K hK=>?_)
     go_simp
     refine (HUA.out _ (HR5.out.gE (zI _ _))).mono ?_
     rintro e x3 ⟨rfl,hb3⟩
     have HB3:Hid (Bw y3 x3):=(zI _ _).trans hb3
     have h9:=HSE.out _ HB3.out
     clear hb3
     have HMX:=z9 (HM5.out.gE HB3.out)
     have HXX:=z9 (HR5.out.gE HB3.out)
     obtain⟨ve,stp,w1,e1,e2,e3,w3,g1,g2,g3⟩:=HST.out _ HMX.out
     refine nxt hK.out (.inr h9) ?_
     clear hK K
     refine uk 7 h9 ?_
     refine uk 8 h9 ?_
     have HR6:Hid (yk c (upB I a true) (upI T a tm) (upI N a (tm+1)) w1):=HXX.out.grown (HXX.out.mne HMX.out) e2
     have HR7:Hid (yk c (upB I a true) (upI T a tm) (upI N a (tm+1)) w3):=HR6.out.grown (HXX.out.mne HMX.out) g2
     have HPS:=z9 (HPI.out w3 HR7.out (g3.congr HEQ.out))
     have H1:Hid ((w1.cell? (ad c.pb 16)=some (.map (some c.mb)))/\(Instr.lookup 194 (.map (some c.mb)) (.agg #[iV cn,iV rm]) false).run prog w1=.ok (iV fv) w1):=⟨HR6.out.fields.2.2.2.2.2.2.2,e3⟩
     clear g2 g3 e2
     refine ze (i:=9) rfl (by kernel_rfl) (fun K hK=>?_)
     go_simp
     have h9:=H1.out
     refine nxt hK.out (.inr h9) ?_
     clear hK K
     refine uk 10 h9 ?_
     refine ze (i:=11) rfl (by kernel_rfl) (fun K hK=>?_)
     go_simp
     refine nxt hK.out (.inl rfl) ?_
     clear hK K
     refine zq (by kernel_rfl) ?_ _
     refine NoPanic.normal ?_
     clear h9 e1 g1 e3 H1 HPI HST HLK HEQ HSE HUA HR5 HM5 HMX HXX HR6 HB3
     have hpz3:=HR7.out.lt
     obtain⟨f1,f10,f11,f12,f13,f14,f15,f16⟩:=HR7.out.fields
     have HTA:Hid (upI T a tm a=tm):=hup
     clear hup HR7 hf1 hf2 hwr
     generalize (upB I a true)=I1 at HPS
     generalize (upI T a tm)=T1 at HPS HTA
     obtain⟨N1,hN1⟩:∃N1,(upI N a (tm+1))=N1:=⟨_,rfl⟩
     rw [hN1] at HPS
     clear hN1
     have HSUM:=z9 HPS.out.2
     have HPS0:=z9 HPS.out.1
     clear HPS
     obtain⟨hec1,hec2⟩:=ok.ecap
     obtain⟨es,hes⟩:∃es,zi c.L c.t=es:=⟨_,rfl⟩
     rw [hes] at f10 hec1
     have HES:=z9 hes
     clear hes HRP HNF HBD HM HQ HP HB HFAIL HBX HFL HB2 hwt hiz htz hnz
     have HW3:Hid (c.w0=c.w0):=rfl
     go_wp2_with fail
     clear f1 f10 f11 f12 f13 f14 f15 f16
     go_loopw [60] (fun i wr=>∃(k:Nat) (I2:Nat->Bool),k<=es.length/\i=iV k/\PSt c I2 T1 N1 a k wr) (fun i _=>es.length - (intOf i).toNat)
     case atStart=>exact⟨0,I1,Nat.zero_le _,rfl,HPS0.out⟩
     case round =>
      clear HPS0 hpz3
      obtain⟨k,I2,hk,rfl,hst⟩:=hrel
      have HPS:=z9 hst
      by_cases hkl:k<es.length
      ·have hki:(k:Int)<(es.length:Int):=by omega
       obtain⟨eb,eo,hea,hebz,-,-,fr,to,bk,wt,hed,hfr,hto,hbk,hwt,c0,c1,c2,c3⟩:=hst.rows.edge ok k (by rw [HES.out];exact hkl)
       have hpw:=hst.rows.lt
       have h3:=hst.rows.ir.cell hto
       have h5:=hst.rows.ir.lt
       obtain⟨tf1,tf2⟩:=hst.sok.times to hto
       have htt:=hst.rows.tr.lt
       have htoi:(to:Int)<(c.L.b.length:Int):=by omega
       have HGAP:=z9 (fun W=>zc3 fr to bk wt c.P W hbk hwt hp1 hp2)
       have hpb1:0<=(bk:Int)*c.P:=Int.mul_nonneg (by omega) (by omega)
       have hpb2:(bk:Int)*c.P<=32*200:=Int.mul_le_mul (by omega) hp2 (by omega) (by omega)
       have HNX:Hid (∀y,Bw wr y->(fr=a->I2 to=true->tm+((wt:Int) - (bk:Int)*c.P)<=T1 to)->PSt c I2 T1 N1 a (k+1) y):=fun y hy g=>hst.nextk hy (by rw [HES.out];exact hkl) (by rw [hed,HTA.out];simpa [zhb] using g)
       have HOUT:Hid (∀(y:World) (q:Nat),I2 to=true->yk c (upB I2 to false) T1 N1 y->(q:Int)+cnt I2 c.L.b.length<=2*xe N1 c.L.b.length->yW (fun s r=>if s=zW (zc c.L.b to).o/\r=(T1 to).tmod c.P then (inC c.L c.P I2 T1 s r:Int) - 1 else (inC c.L c.P I2 T1 s r:Int)) (q+1) c.mb y->PSt c (upB I2 to false) T1 N1 a (k+1) y):=fun y q g1 g2 g3 g4=>hst.out hto g1 (by rw [HES.out];exact hkl) (by rw [hed];simp) g2 g3 g4
       have HTK:Hid (∀(y:World) (q:Nat),Bw wr y->yW (fun s r=>(inC c.L c.P I2 T1 s r:Int)) q c.mb y->(q:Int)+cnt I2 c.L.b.length<=2*xe N1 c.L.b.length->Calls prog 194 #[.pointer (pA c.pb),iV to] y fun e w'=>e=.returned (.tuple #[])/\yk c (upB I2 to false) T1 N1 w'/\yW (fun s r=>if s=zW (zc c.L.b to).o/\r=(T1 to).tmod c.P then (inC c.L c.P I2 T1 s r:Int) - 1 else (inC c.L c.P I2 T1 s r:Int)) (q+1) c.mb w'):=fun y q g1 g2 g3=>zko y to q _ ok (hst.rows.gE g1) g2 (by have:=hst.sum ok;omega) hto tf1 tf2 (zfc ok I2 T1)
       have HMAP:=z9 hst.map
       have gS:Hid (∀y,Bw wr y->(y.cell? (ad c.pb 11)=sI c.P/\y.cell? (ad c.pb 13)=some (.slice (pA c.ib) c.L.b.length c.L.b.length)/\y.cell? (ad c.pb 14)=some (.slice (pA c.tb) c.L.b.length c.L.b.length))/\y.cell? (ad c.ib to)=some (.bool (I2 to))/\y.cell? (ad c.tb to)=sI (T1 to)):=fun y hy=>by
        have hq:=hst.rows.gE hy
        obtain⟨f1,f10,f11,f12,f13,f14,f15,f16⟩:=hq.fields
        exact⟨⟨f11,f13,f14⟩,hq.ir.cell hto,hq.tr.cell hto⟩
       obtain⟨gp,hgp⟩:∃g,(wt:Int) - (bk:Int)*c.P=g:=⟨_,rfl⟩
       rw [hgp] at HGAP HNX
       have hgb:-10000<=gp/\gp<=6:=by omega
       obtain⟨ik,hik⟩:∃ik,I2 to=ik:=⟨_,rfl⟩
       obtain⟨tf,htf⟩:∃tf,T1 to=tf:=⟨_,rfl⟩
       rw [hik] at h3 HNX gS HOUT
       rw [htf] at tf1 tf2 HNX gS HOUT HTK
       have hwr:IntKind.i64.wrap (tm+gp)=tm+gp:=xw _ (by omega) (by omega)
       have HBOX:Hid (∀y:World,Below (wr.heap.size+1) (wr.alloc (.cells #[iV fr,iV to,iV bk,iV wt] 100)) y->y.cell? (ad wr.heap.size 0)=sI fr/\y.cell? (ad wr.heap.size 1)=sI to/\y.cell? (ad wr.heap.size 2)=sI bk/\y.cell? (ad wr.heap.size 3)=sI wt):=fun y hy=>by
        have hb:y.heap[wr.heap.size]?=some (.cells #[iV fr,iV to,iV bk,iV wt] 100 (0,0)):=(hy.block _ (by omega)).trans (zD _ _ _)
        refine⟨?_,?_,?_,?_⟩ <;> (rw [cell_of_block hb];rfl)
       have HBAL:Hid (Bw wr (wr.alloc (.cells #[iV fr,iV to,iV bk,iV wt] 100))):=below_alloc1 _ _
       have HS:Hid ((wr.alloc (.cells #[iV fr,iV to,iV bk,iV wt] 100)).heap.size=wr.heap.size+1):=by show _=_;simp
       obtain⟨f1,f10,f11,f12,f13,f14,f15,f16⟩:=hst.rows.fields
       clear hed hgp hik htf f1 f10 f11 f12 f14 f15 f16 hst
       rw [hea]
       by_cases hta:fr=a
       ·cases ik with
        | false =>
          subst hta
          go_wp2_with fail
          go_big_quiet ((fail))
          go_wp2_with fail
          go_roundw
          case rel=>exact⟨k+1,I2,by omega,by go_num,HNX.out _ (HBAL.out.trans (below_draws _ _ _)) (fun _ h=>absurd h (by simp))⟩
          case measure=>simp [intOf];omega
        | true =>
          subst hta
          have HSE:Hid (∀y:World,Below (wr.heap.size+1) (wr.alloc (.cells #[iV fr,iV to,iV bk,iV wt] 100)) y->(y.cell? (ad c.pb 11)=sI c.P/\y.cell? (ad c.pb 13)=some (.slice (pA c.ib) c.L.b.length c.L.b.length)/\y.cell? (ad c.pb 14)=some (.slice (pA c.tb) c.L.b.length c.L.b.length))/\(y.cell? (ad c.ib to)=some (.bool true))/\(y.cell? (ad c.tb to)=sI tf)/\(y.cell? (ad wr.heap.size 0)=sI fr/\y.cell? (ad wr.heap.size 1)=sI to/\y.cell? (ad wr.heap.size 2)=sI bk/\y.cell? (ad wr.heap.size 3)=sI wt)):=fun y hy=>by
           obtain⟨g1,g2,g3⟩:=gS.out y (HBAL.out.trans (hy.mono (by omega)))
           exact⟨g1,g2,g3,HBOX.out y hy⟩
          obtain⟨bd,hbd⟩:∃bd,decide (tf<tm+gp)=bd:=⟨_,rfl⟩
          have HBD:=z9 hbd
          clear h3 f13
          go_wp2_with fail
          refine wp_region_noPanic ?_
          refine zm 99 (fun w'=>(w'.cell? (ad c.pb 11)=sI c.P/\w'.cell? (ad c.pb 13)=some (.slice (pA c.ib) c.L.b.length c.L.b.length)/\w'.cell? (ad c.pb 14)=some (.slice (pA c.tb) c.L.b.length c.L.b.length))/\(w'.cell? (ad c.ib to)=some (.bool true))/\(w'.cell? (ad c.tb to)=sI tf)/\(w'.cell? (ad wr.heap.size 0)=sI fr/\w'.cell? (ad wr.heap.size 1)=sI to/\w'.cell? (ad wr.heap.size 2)=sI bk/\w'.cell? (ad wr.heap.size 3)=sI wt)) (by kernel_rfl) (HSE.out _ (zI _ _)) (fun h9=>?_)
          refine uk 0 h9 ?_
          refine uk 1 h9 ?_
          refine uk 2 h9 ?_
          refine uk 3 h9 ?_
          refine uk 4 h9 ?_
          refine uk 5 h9 ?_
          refine uk 6 h9 ?_
          refine uk 7 h9 ?_
          refine uk 8 h9 ?_
          refine uk 9 h9 ?_
          refine uk 10 h9 ?_
          refine uk 11 h9 ?_
          refine uk 12 h9 ?_
          refine uk 13 h9 ?_
          refine uk 14 h9 ?_
          refine uk 15 h9 ?_
          refine uk 16 h9 ?_
          refine uk 17 h9 ?_
          refine uk 18 h9 ?_
          refine uk 19 h9 ?_
          refine uk 20 h9 ?_
          refine uk 21 h9 ?_
          refine uk 22 h9 ?_
          refine uk 23 h9 ?_
          refine uk 24 h9 ?_
          refine uk 25 h9 ?_
          refine uk 26 h9 ?_
          refine uk 27 h9 ?_
          refine uk 28 h9 ?_
          refine ze (i:=29) rfl (by kernel_rfl) (fun K hK=>?_)
          go_simp
          refine (HGAP.out _).mono ?_
          rintro e x4 ⟨rfl,hb4⟩
          have HB4:Hid (Below (wr.heap.size+1) (wr.alloc (.cells #[iV fr,iV to,iV bk,iV wt] 100)) x4):=(zI _ _).trans (hb4.mono (by show _<=(wr.alloc (.cells #[iV fr,iV to,iV bk,iV wt] 100)).heap.size;rw [HS.out];exact Nat.le_refl _))
          have h9:=HSE.out _ HB4.out
          clear hb4
          refine nxt hK.out (.inr h9) ?_
          clear hK K
          refine uk 30 h9 ?_
          refine uk 31 h9 ?_
          refine uk 32 h9 ?_
          refine zq (by kernel_rfl) ?_ _
          refine NoPanic.normal ?_
          have HB5:Hid (Bw wr x4):=HBAL.out.trans (HB4.out.mono (by omega))
          obtain⟨g1,g2,g3⟩:=h9
          clear g1 g2 h9
          obtain⟨x0,x1',x2',x3'⟩:=HBOX.out _ HB4.out
          clear x0 x2' x3' g3
          cases bd with
          | true =>
            go_wp2_with fail
            obtain⟨q2,hm2,hq2⟩:=HMAP.out
            refine (HTK.out x4 q2 HB5.out (hm2.gE HB5.out) hq2).mono ?_
            rintro e x5 ⟨rfl,hr5,hm5⟩
            have HF:=z9 (HOUT.out x5 q2 (by first | rfl | trivial) hr5 hq2 hm5)
            clear hr5 hm5 hm2 hq2
            go_wp2_with fail
            go_roundw
            case rel=>exact⟨k+1,_,by omega,by go_num,HF.out⟩
            case measure=>simp [intOf];omega
          | false =>
            have HF:=z9 (HNX.out x4 HB5.out (fun _ _=>by have:=of_decide_eq_false HBD.out;omega))
            go_wp2_with fail
            go_roundw
            case rel=>exact⟨k+1,I2,by omega,by go_num,HF.out⟩
            case measure=>simp [intOf];omega
       ·have htd2:¬(fr:Int)=(a:Int):=by omega
        have htd4:((fr:Int) == (a:Int))=false:=beq_false_of_ne htd2
        go_wp2_with fail
        go_big_quiet ((fail))
        go_wp2_with fail
        go_roundw
        case rel=>exact⟨k+1,I2,by omega,by go_num,HNX.out _ (HBAL.out.trans (below_draws _ _ _)) (fun h=>absurd h hta)⟩
        case measure=>simp [intOf];omega
      ·have e:k=es.length:=by omega
       subst e
       have hki:¬(es.length:Int)<(es.length:Int):=by omega
       have HF:Hid (zzo c N (.returned (.bool true)) wr):=.inr ⟨rfl,I2,T1,N1,hst.anyk (by rw [HES.out];exact Nat.le_refl _),HSUM.out⟩
       clear hst
       go_wp2_with fail
       exact bodyPost_ret (v:=.bool true) (by simp [results,results173,go_sem]) rfl HF.out
  ·have hgt:1000<tm:=by omega
   have HF:=z9 (HFAIL.out wr HB.out)
   go_wp2_with fail
   exact bodyPost_ret (v:=.bool false) (by simp [results,results173,go_sem]) rfl HF.out
end
theorem ztd:(prog.info? 4).map (fun i=>(i.zero,i.size,i.bytes))=some (some (.bool false),1,1):=by kernel_rfl
def ApS (u v:Value):Prop:=∀g g' n n' m m',u=.slice (pA g) n m->v=.slice (pA g') n' m'->g≠g'
theorem ApS.symm (u v:Value) (h:ApS u v):ApS v u:=fun g g' n n' m m' e1 e2=>(h g' g n' n m' m e2 e1).symm
def zi2 (x:World) (n i:Nat) (v:Value) (w:World):Prop :=
 (i=7->∃g,v=.slice (pA g) n n/\x.heap.size<=g/\∃H:Nat->Int,zu w g 3 n (fun i=>iV (H i))) /\
 (i=9->∃g,v=.slice (pA g) n n/\x.heap.size<=g/\zu w g 4 n (fun _=>.bool false)) /\
 (i=14->∃g,v=.map (some g)/\x.heap.size<=g/\yW (fun _ _=>0) 0 g w) /\
 (i=11\/i=13->∃g,v=.slice (pA g) n n/\x.heap.size<=g/\zu w g 3 n (fun _=>iV 0))
theorem zi2.gE {w':World} (h:zi2 x n i v w) (hb:Bw w w'):zi2 x n i v w':=by
 obtain⟨h1,h2,h3,h4⟩:=h
 refine⟨fun e=>?_,fun e=>?_,fun e=>?_,fun e=>?_⟩
 ·obtain⟨g,k1,k2,H,k3⟩:=h1 e;exact⟨g,k1,k2,H,k3.gE hb k3.lt⟩
 ·obtain⟨g,k1,k2,k3⟩:=h2 e;exact⟨g,k1,k2,k3.gE hb k3.lt⟩
 ·obtain⟨g,k1,k2,k3⟩:=h3 e;exact⟨g,k1,k2,k3.gE hb⟩
 ·obtain⟨g,k1,k2,k3⟩:=h4 e;exact⟨g,k1,k2,k3.gE hb k3.lt⟩
theorem zi2.lt (h:zi2 x n i v w) (hi:i∈[7,9,11,13,14]):∀g a b,v=.slice (pA g) a b->g<w.heap.size:=by
 intro g a b e
 obtain⟨h1,h2,h3,h4⟩:=h
 have key:∀g',v=.slice (pA g') n n->g'<w.heap.size->g<w.heap.size:=fun g' e1 hlt=>by
  rw [e1] at e
  injection e with e2
  injection e2 with e2
  injection e2 with e2
  omega
 simp only [List.mem_cons,List.not_mem_nil,or_false] at hi
 rcases hi with hi | hi | hi | hi | hi
 ·obtain⟨g',k1,k2,H,k3⟩:=h1 hi;exact key g' k1 k3.lt
 ·obtain⟨g',k1,k2,k3⟩:=h2 hi;exact key g' k1 k3.lt
 ·obtain⟨g',k1,k2,k3⟩:=h4 (.inl hi);exact key g' k1 k3.lt
 ·obtain⟨g',k1,k2,k3⟩:=h4 (.inr hi);exact key g' k1 k3.lt
 ·obtain⟨g',k1,k2,k3⟩:=h3 hi;rw [k1] at e;cases e
theorem U5 (hg:w.heap.size<=g):∀j∈[7,9,11,13,14],∀u,zi2 x n j u w->ApS u (.slice (pA g) a b):=fun j hj u hu g1 g2 n1 n2 m1 m2 e1 e2=>by
 have h1:=hu.lt hj g1 n1 m1 e1
 injection e2 with e3
 injection e3 with e3
 injection e3 with e3
 omega
theorem zqv:∀j∈[7,9,11,13,14],∀u,zi2 x n j u w->ApS u (.map (some g)):=fun j _ u hu g1 g2 n1 n2 m1 m2 e1 e2=>by cases e2
theorem zdb (p0 p1 p2 q0 q1 q2 r:Int) (L:Lp) (v0 v2:Value) (bb bo bc:Nat) (P:Int) (ea:Option Addr) (ec:Nat) (x:World) (hm:zY L=true) (ht:yj ⟨p0,p1,p2,q0,q1,q2,r⟩=true) (hP1:1<=P) (hP2:P<=200) (hbb:bb<x.heap.size) (hbc:L.b.length<=bc) (hbm:bc<=9223372036854775807) (gQ:∀i,i<L.b.length->∀j,j<9->x.cell? (ad bb (bo+i*9+j))=(zP (zc L.b i))[j]?) (hE:Z8 x (.slice ea (zi L ⟨p0,p1,p2,q0,q1,q2,r⟩).length ec) (zi L ⟨p0,p1,p2,q0,q1,q2,r⟩)) :
  Calls prog 171 #[.agg #[v0,.slice (some (ad bb bo)) L.b.length bc,v2],(tv p0 p1 p2 q0 q1 q2 r),.slice ea (zi L ⟨p0,p1,p2,q0,q1,q2,r⟩).length ec,iV P] x fun e w'=>∃c:Pc,e=.returned (.pointer (pA c.pb))/\XS c/\c.w0=x/\c.L=L/\c.t=⟨p0,p1,p2,q0,q1,q2,r⟩/\c.P=P/\PSt c (fun _=>false) (fun _=>0) (fun _=>0) 0 (zi c.L c.t).length w':=by
 obtain⟨-,hl1,hl16,-⟩:=zw hm
 have HOK:Hid (∀e∈zi L ⟨p0,p1,p2,q0,q1,q2,r⟩,zek L.b.length e):=fun e he=>by
  obtain⟨fr,to,bk,wt,h0,h1,h2,h3,h4,h5⟩:=Zc hm e he
  exact⟨fr,to,bk,wt,h0,h1,h2,h5,h4⟩
 have HHE:=z9 (fun W (hW:Z8 W (.slice ea (zi L ⟨p0,p1,p2,q0,q1,q2,r⟩).length ec) (zi L ⟨p0,p1,p2,q0,q1,q2,r⟩))=>zj0 L.b.length P ea ec _ W hW HOK.out hl16 hP1 hP2)
 have hmkI:=run_make_row' (P:=prog) 22 3 (iV 0) 8 underlying22 Tryz.j3 rfl .i64 .i64 L.b.length (by omega) (by omega)
 have hmkB:=run_make_row' (P:=prog) 148 4 (.bool false) 1 underlying148 ztd rfl .i64 .i64 L.b.length (by omega) (by omega)
 have hmm:=@run_makeMap prog
 have HB2:=z9 (below_alloc2 x (.cells #[v0,.slice (some (ad bb bo)) L.b.length bc,v2] 25) (.cells #[iV p0,iV p1,iV p2,iV q0,iV q1,iV q2,iV r] 28))
 have HS2:Hid (((x.alloc (.cells #[v0,.slice (some (ad bb bo)) L.b.length bc,v2] 25)).alloc (.cells #[iV p0,iV p1,iV p2,iV q0,iV q1,iV q2,iV r] 28)).heap.size=x.heap.size+1+1):=by show _=_;simp
 have HEV:=z9 hE
 have HSE:Hid (∀y,Below (x.heap.size+1+1) ((x.alloc (.cells #[v0,.slice (some (ad bb bo)) L.b.length bc,v2] 25)).alloc (.cells #[iV p0,iV p1,iV p2,iV q0,iV q1,iV q2,iV r] 28)) y->(y.cell? (ad x.heap.size 0)=some v0/\y.cell? (ad x.heap.size 1)=some (.slice (some (ad bb bo)) L.b.length bc)/\y.cell? (ad x.heap.size 2)=some v2)/\(y.cell? (ad (x.heap.size+1) 0)=sI p0/\y.cell? (ad (x.heap.size+1) 1)=sI p1/\y.cell? (ad (x.heap.size+1) 2)=sI p2/\y.cell? (ad (x.heap.size+1) 3)=sI q0/\y.cell? (ad (x.heap.size+1) 4)=sI q1/\y.cell? (ad (x.heap.size+1) 5)=sI q2/\y.cell? (ad (x.heap.size+1) 6)=sI r)):=fun y hy=>by
  obtain⟨h1,h2,-⟩:=Zb hy
  exact⟨h1,h2⟩
 have HEND:Hid (∀(pb hb ib tb nb mb:Nat) (y:World),Bw x y->x.heap.size<=hb->x.heap.size<=ib->x.heap.size<=tb->x.heap.size<=nb->x.heap.size<=mb->hb≠tb->hb≠nb->tb≠nb->(∃H:Nat->Int,zu y hb 3 L.b.length (fun i=>iV (H i)))->zu y ib 4 L.b.length (fun _=>.bool false)->zu y tb 3 L.b.length (fun _=>iV 0)->zu y nb 3 L.b.length (fun _=>iV 0)->yW (fun _ _=>0) 0 mb y->x.heap.size<=pb ->
   y.heap[pb]?=some (.cells (plC ⟨x,L,⟨p0,p1,p2,q0,q1,q2,r⟩,P,pb,hb,ib,tb,nb,mb,v0,v2,bb,bo,bc,ea,ec⟩) 238 (0,0))->∃c:Pc,(.returned (.pointer (pA pb)):Ending)=.returned (.pointer (pA c.pb))/\XS c/\c.w0=x/\c.L=L/\c.t=⟨p0,p1,p2,q0,q1,q2,r⟩/\c.P=P/\PSt c (fun _=>false) (fun _=>0) (fun _=>0) 0 (zi c.L c.t).length y):=by
  intro pb hb ib tb nb mb y k1 k2 k3 k4 k5 k6 k7 k8 k9 r1 r2 r3 r4 r5 k10 k11
  refine⟨⟨x,L,⟨p0,p1,p2,q0,q1,q2,r⟩,P,pb,hb,ib,tb,nb,mb,v0,v2,bb,bo,bc,ea,ec⟩,rfl,⟨hm,ht,hP1,hP2,hbb,hbc,hbm,gQ,hE⟩,rfl,rfl,rfl,rfl,⟨⟨k1,k11,r1,r2,r3,r4,⟨k10,k2,k3,k4,k5,k6⟩,⟨k7,k8,k9⟩⟩,SOk.start ht _ _,0,r5.congr fun s q=>?_,?_⟩⟩
  ·have h1:inC L P (fun _=>false) (fun _=>0) s q=0:=by
    rcases ZG (fun i=>(fun _:Nat=>false) i && (decide (zW (zc L.b i).o=s) && decide (((fun _:Nat=>(0:Int)) i).tmod P=q))) L.b.length with h | ⟨i,_,h⟩
    ·exact h
    ·simp at h
   show (0:Int)=(inC L P (fun _=>false) (fun _=>0) s q:Int)
   rw [h1];rfl
  ·have h1:cnt (fun _=>false) L.b.length=0:=by
    rcases ZG (fun _=>false) L.b.length with h | ⟨i,_,h⟩
    ·exact h
    ·cases h
   have h2:=(zgf (N:=fun _=>0) (lo:=0) (hi:=0) L.b.length (fun _ _=>⟨Int.le_refl _,Int.le_refl _⟩)).1
   show ((0:Nat):Int)+(cnt (fun _=>false) L.b.length:Nat)<=2*xe (fun _=>0) L.b.length
   rw [h1]
   omega
 have HELN:Hid ((zi L ⟨p0,p1,p2,q0,q1,q2,r⟩).length=(zi L ⟨p0,p1,p2,q0,q1,q2,r⟩).length):=rfl
 clear hE gQ hm ht
 obtain⟨es,hes⟩:∃es,zi L ⟨p0,p1,p2,q0,q1,q2,r⟩=es:=⟨_,rfl⟩
 rw [hes] at HHE HEV ⊢
 have HES:=z9 hes
 clear hes
 go_enter func171,ntmps171
 go_wp2_with fail
 refine wp_region_noPanic ?_
 refine zm 99 (fun w'=>(Below (x.heap.size+1+1) ((x.alloc (.cells #[v0,.slice (some (ad bb bo)) L.b.length bc,v2] 25)).alloc (.cells #[iV p0,iV p1,iV p2,iV q0,iV q1,iV q2,iV r] 28)) w')/\((w'.cell? (ad x.heap.size 0)=some v0/\w'.cell? (ad x.heap.size 1)=some (.slice (some (ad bb bo)) L.b.length bc)/\w'.cell? (ad x.heap.size 2)=some v2)/\(w'.cell? (ad (x.heap.size+1) 0)=sI p0/\w'.cell? (ad (x.heap.size+1) 1)=sI p1/\w'.cell? (ad (x.heap.size+1) 2)=sI p2/\w'.cell? (ad (x.heap.size+1) 3)=sI q0/\w'.cell? (ad (x.heap.size+1) 4)=sI q1/\w'.cell? (ad (x.heap.size+1) 5)=sI q2/\w'.cell? (ad (x.heap.size+1) 6)=sI r))) (by kernel_rfl) ⟨zI _ _,HSE.out _ (zI _ _)⟩ (fun h9=>?_)
 refine uk 0 h9 ?_
 refine uk 1 h9 ?_
 refine uk 2 h9 ?_
 refine uk 3 h9 ?_
 refine uk 4 h9 ?_
 refine uk 5 h9 ?_
 refine uk 6 h9 ?_
 refine uk 8 h9 ?_
 refine uk 10 h9 ?_
 refine uk 12 h9 ?_
 refine zkw (zi2 x L.b.length) ApS ApS.symm [7,9,11,13,14] #[true,true,true,true,true,true,true,true,true,true,true,true,true,true,true,false,false,false] (fun _ _ _ h=>h) (by decide) (fun _ _ _ _ _ h hb=>h.gE hb) ?mk ?fin 5 [7,9,11,13,14] [] (fun _=>undef) _ _ rfl (List.Perm.refl _) (by kernel_rfl) h9 (fun i hi=>absurd hi (by simp)) (fun i hi=>absurd hi (by simp))
 case mk =>
  intro i hi
  simp only [List.mem_cons,List.not_mem_nil,or_false] at hi
  rcases hi with rfl | rfl | rfl | rfl | rfl
  ·refine za8 rfl (by kernel_rfl) (by rfl) (by kernel_rfl) (fun w hS K hK=>?_)
   have hbx:=HB2.out.trans (hS.1.mono (by omega))
   have HEW:=z9 (HEV.out.gE hbx)
   have HSZ:=z9 hbx.size
   have HSW:=z9 hS.1
   clear hS hbx hmkI hmkB hmm HEV
   go_simp
   refine (HHE.out w HEW.out).mono ?_
   rintro e y ⟨rfl,hb,hr⟩
   have hsy:Below (x.heap.size+1+1) ((x.alloc (.cells #[v0,.slice (some (ad bb bo)) L.b.length bc,v2] 25)).alloc (.cells #[iV p0,iV p1,iV p2,iV q0,iV q1,iV q2,iV r] 28)) y:=HSW.out.trans (hb.mono (by have:=HSW.out.size;rw [HS2.out] at this;exact this))
   exact hK.out _ _ ⟨hsy,HSE.out _ hsy⟩ hb ⟨fun _=>⟨_,rfl,HSZ.out,hr⟩,fun h=>absurd h (by decide),fun h=>absurd h (by decide),fun h=>absurd h (by decide)⟩ (U5 (Nat.le_refl _))
  ·refine za8 rfl (by kernel_rfl) (by rfl) (by kernel_rfl) (fun w hS K hK=>?_)
   have HSZ:=z9 (HB2.out.trans (hS.1.mono (by omega))).size
   have HSW:=z9 hS.1
   clear hS hmkI hmm
   go_simp
   have hb:Bw w (w.alloc (.cells (madeCells #[.bool false] L.b.length) 4)):=below_alloc1 _ _
   have hsy:Below (x.heap.size+1+1) ((x.alloc (.cells #[v0,.slice (some (ad bb bo)) L.b.length bc,v2] 25)).alloc (.cells #[iV p0,iV p1,iV p2,iV q0,iV q1,iV q2,iV r] 28)) (w.alloc (.cells (madeCells #[.bool false] L.b.length) 4)):=HSW.out.trans (hb.mono (by have:=HSW.out.size;rw [HS2.out] at this;exact this))
   exact hK.out _ _ ⟨hsy,HSE.out _ hsy⟩ hb ⟨fun h=>absurd h (by decide),fun _=>⟨_,rfl,HSZ.out,zu.zeros w _ _ _⟩,fun h=>absurd h (by decide),fun h=>absurd h (by decide)⟩ (U5 (Nat.le_refl _))
  ·refine za8 rfl (by kernel_rfl) (by rfl) (by kernel_rfl) (fun w hS K hK=>?_)
   have HSZ:=z9 (HB2.out.trans (hS.1.mono (by omega))).size
   have HSW:=z9 hS.1
   clear hS hmkB hmm
   go_simp
   have hb:Bw w (w.alloc (.cells (madeCells #[iV 0] L.b.length) 3)):=below_alloc1 _ _
   have hsy:Below (x.heap.size+1+1) ((x.alloc (.cells #[v0,.slice (some (ad bb bo)) L.b.length bc,v2] 25)).alloc (.cells #[iV p0,iV p1,iV p2,iV q0,iV q1,iV q2,iV r] 28)) (w.alloc (.cells (madeCells #[iV 0] L.b.length) 3)):=HSW.out.trans (hb.mono (by have:=HSW.out.size;rw [HS2.out] at this;exact this))
   exact hK.out _ _ ⟨hsy,HSE.out _ hsy⟩ hb ⟨fun h=>absurd h (by decide),fun h=>absurd h (by decide),fun h=>absurd h (by decide),fun _=>⟨_,rfl,HSZ.out,zu.zeros w _ _ _⟩⟩ (U5 (Nat.le_refl _))
  ·refine za8 rfl (by kernel_rfl) (by rfl) (by kernel_rfl) (fun w hS K hK=>?_)
   have HSZ:=z9 (HB2.out.trans (hS.1.mono (by omega))).size
   have HSW:=z9 hS.1
   clear hS hmkB hmm
   go_simp
   have hb:Bw w (w.alloc (.cells (madeCells #[iV 0] L.b.length) 3)):=below_alloc1 _ _
   have hsy:Below (x.heap.size+1+1) ((x.alloc (.cells #[v0,.slice (some (ad bb bo)) L.b.length bc,v2] 25)).alloc (.cells #[iV p0,iV p1,iV p2,iV q0,iV q1,iV q2,iV r] 28)) (w.alloc (.cells (madeCells #[iV 0] L.b.length) 3)):=HSW.out.trans (hb.mono (by have:=HSW.out.size;rw [HS2.out] at this;exact this))
   exact hK.out _ _ ⟨hsy,HSE.out _ hsy⟩ hb ⟨fun h=>absurd h (by decide),fun h=>absurd h (by decide),fun h=>absurd h (by decide),fun _=>⟨_,rfl,HSZ.out,zu.zeros w _ _ _⟩⟩ (U5 (Nat.le_refl _))
  ·refine za8 rfl (by kernel_rfl) (by rfl) (by kernel_rfl) (fun w hS K hK=>?_)
   have HSZ:=z9 (HB2.out.trans (hS.1.mono (by omega))).size
   have HSW:=z9 hS.1
   clear hS hmkB hmkI
   go_simp
   have hb:Bw w (w.alloc (.map #[] 0)):=below_alloc1 _ _
   have hsy:Below (x.heap.size+1+1) ((x.alloc (.cells #[v0,.slice (some (ad bb bo)) L.b.length bc,v2] 25)).alloc (.cells #[iV p0,iV p1,iV p2,iV q0,iV q1,iV q2,iV r] 28)) (w.alloc (.map #[] 0)):=HSW.out.trans (hb.mono (by have:=HSW.out.size;rw [HS2.out] at this;exact this))
   exact hK.out _ _ ⟨hsy,HSE.out _ hsy⟩ hb ⟨fun h=>absurd h (by decide),fun h=>absurd h (by decide),fun _=>⟨_,rfl,HSZ.out,yW.made w⟩,fun h=>absurd h (by decide)⟩ zqv
 case fin =>
  intro val w1 hS hR hA
  obtain⟨hb,e7,k7,r7⟩:=(hR 7 (by decide)).1 rfl
  obtain⟨ib,e9,k9,r9⟩:=(hR 9 (by decide)).2.1 rfl
  obtain⟨tb,e11,k11,r11⟩:=(hR 11 (by decide)).2.2.2 (.inl rfl)
  obtain⟨nb,e13,k13,r13⟩:=(hR 13 (by decide)).2.2.2 (.inr rfl)
  obtain⟨mb,e14,k14,r14⟩:=(hR 14 (by decide)).2.2.1 rfl
  have n1:=hA 7 (by decide) 11 (by decide) (by decide) _ _ _ _ _ _ e7 e11
  have n2:=hA 7 (by decide) 13 (by decide) (by decide) _ _ _ _ _ _ e7 e13
  have n3:=hA 11 (by decide) 13 (by decide) (by decide) _ _ _ _ _ _ e11 e13
  have HBW:Hid (Bw x w1):=HB2.out.trans (hS.1.mono (by omega))
  have HRS:=z9 (And.intro r7 (And.intro r9 (And.intro r11 (And.intro r13 r14))))
  have gX:=hS
  clear hR hA hS h9 hmkI hmkB hmm HHE
  show YK _ _ _ _ _ _ _ _ ((((((_:Act).put (some 20) (val 7)).put (some 22) (val 9)).put (some 24) (val 11)).put (some 26) (val 13)).put (some 27) (val 14)) _
  rw [e7,e9,e11,e13,e14]
  clear e7 e9 e11 e13 e14 r7 r9 r11 r13 r14
  have h9:=gX
  clear gX
  try simp only [Act.put,List.setIfInBounds_toArray,List.set_cons_zero,List.set_cons_succ]
  refine uk 15 h9 ?_
  have HPB:Hid ((w1.alloc (.cells #[v0,.slice (some (ad bb bo)) L.b.length bc,v2,iV p0,iV p1,iV p2,iV q0,iV q1,iV q2,iV r,.slice ea es.length ec,iV P,.slice (pA hb) L.b.length L.b.length,.slice (pA ib) L.b.length L.b.length,.slice (pA tb) L.b.length L.b.length,.slice (pA nb) L.b.length L.b.length,.map (some mb)] 238)).heap[w1.heap.size]?=some (.cells (plC ⟨x,L,⟨p0,p1,p2,q0,q1,q2,r⟩,P,w1.heap.size,hb,ib,tb,nb,mb,v0,v2,bb,bo,bc,ea,ec⟩) 238 (0,0))):=by
   show _=_
   unfold plC
   dsimp only
   rw [HES.out]
   exact zD _ _ _
  have HBP:Hid (Bw w1 (w1.alloc (.cells #[v0,.slice (some (ad bb bo)) L.b.length bc,v2,iV p0,iV p1,iV p2,iV q0,iV q1,iV q2,iV r,.slice ea es.length ec,iV P,.slice (pA hb) L.b.length L.b.length,.slice (pA ib) L.b.length L.b.length,.slice (pA tb) L.b.length L.b.length,.slice (pA nb) L.b.length L.b.length,.map (some mb)] 238))):=below_alloc1 _ _
  have hsy:Below (x.heap.size+1+1) ((x.alloc (.cells #[v0,.slice (some (ad bb bo)) L.b.length bc,v2] 25)).alloc (.cells #[iV p0,iV p1,iV p2,iV q0,iV q1,iV q2,iV r] 28)) (w1.alloc (.cells #[v0,.slice (some (ad bb bo)) L.b.length bc,v2,iV p0,iV p1,iV p2,iV q0,iV q1,iV q2,iV r,.slice ea es.length ec,iV P,.slice (pA hb) L.b.length L.b.length,.slice (pA ib) L.b.length L.b.length,.slice (pA tb) L.b.length L.b.length,.slice (pA nb) L.b.length L.b.length,.map (some mb)] 238)):=h9.1.trans (HBP.out.mono (by have:=h9.1.size;rw [HS2.out] at this;exact this))
  have gX:=And.intro hsy (HSE.out _ hsy)
  refine ze (i:=16) rfl (by kernel_rfl) (fun K hK=>?_)
  go_simp
  refine nxt hK.out (.inr gX) ?_
  clear hK K
  have h9:=gX
  refine ze (i:=17) rfl (by kernel_rfl) (fun K hK=>?_)
  go_simp
  refine nxt hK.out (.inr h9) ?_
  clear hK K
  refine zq (by kernel_rfl) ?_ _
  refine NoPanic.normal ?_
  have HF:=z9 (HEND.out w1.heap.size hb ib tb nb mb (w1.alloc (.cells #[v0,.slice (some (ad bb bo)) L.b.length bc,v2,iV p0,iV p1,iV p2,iV q0,iV q1,iV q2,iV r,.slice ea es.length ec,iV P,.slice (pA hb) L.b.length L.b.length,.slice (pA ib) L.b.length L.b.length,.slice (pA tb) L.b.length L.b.length,.slice (pA nb) L.b.length L.b.length,.map (some mb)] 238)) (HBW.out.trans (HBP.out.mono HBW.out.size)) k7 k9 k11 k13 k14 n1 n2 n3 (by obtain⟨H,hH⟩:=HRS.out.1;exact⟨H,hH.gE HBP.out hH.lt⟩) (HRS.out.2.1.gE HBP.out HRS.out.2.1.lt) (HRS.out.2.2.1.gE HBP.out HRS.out.2.2.1.lt) (HRS.out.2.2.2.1.gE HBP.out HRS.out.2.2.2.1.lt) (HRS.out.2.2.2.2.gE HBP.out) HBW.out.size HPB.out)
  clear h9 gX hsy
  go_wp2_with fail
  exact bodyPost_ret (v:=.pointer (pA w1.heap.size)) (by simp [results,results171,go_sem]) rfl HF.out
def zhj (w:World) (g n:Nat):Int:=xe (fun i=>match w.cell? (ad g i) with | some (.int _ z)=>z | _=>0) n
theorem zso {f g:Nat->Int}:∀n,(∀i,i<n->f i=g i)->xe f n=xe g n:=by
 intro n
 induction n with
 | zero=>intro _;rfl
 | succ n ih =>
   intro h
   show xe f n+f n=xe g n+g n
   rw [ih fun i hi=>h i (by omega),h n (by omega)]
theorem zjn {e:TypeId} {N:Nat->Int} (h:zu w g e n (fun i=>iV (N i))):zhj w g n=xe N n :=
 zso n fun i hi=>by rw [h.cell hi]
def AtP (L:Lp) (t:Tg) (P:Int) (x:World) (e:Ending) (w':World):Prop:=Bw x w'/\∃(P':Int) (ta:Option Addr) (tl tc:Nat) (b:Bool),e=.returned (.tuple #[.agg #[iV P',.slice ta tl tc],.bool b])/\(b=true->P'=P/\∃g T,ta=some (ad g 0)/\x.heap.size<=g/\tl=T.length/\zK w' (.slice ta tl tc) T/\zV L t P T=true)
theorem PSt.ints {c:Pc} {I:Nat->Bool} {T N:Nat->Int} (h:PSt c I T N a k x) (ok:XS c):zK x (.slice (pA c.tb) c.L.b.length c.L.b.length) ((List.range c.L.b.length).map T):=by
 have hl:=ok.len
 have hlen:((List.range c.L.b.length).map T).length=c.L.b.length:=by simp
 refine⟨some (ad c.tb 0),c.L.b.length,by rw [hlen],by rw [hlen];exact Nat.le_refl _,by unfold maxLen;omega,fun i hi=>?_,fun _=>⟨c.tb,0,rfl,h.rows.tr.lt,fun i hi=>?_⟩⟩
 ·rw [hlen] at hi
  rw [xI hi]
  have:=h.sok.times i hi
  omega
 ·rw [hlen] at hi
  rw [xI hi,Nat.zero_add]
  exact h.rows.tr.cell hi
theorem zmt (p0 p1 p2 q0 q1 q2 r:Int) (L:Lp) (v0 v2:Value) (bb bo bc:Nat) (P:Int) (ea:Option Addr) (ec:Nat) (x:World) (hm:zY L=true) (ht:yj ⟨p0,p1,p2,q0,q1,q2,r⟩=true) (hP1:1<=P) (hP2:P<=200) (hbb:bb<x.heap.size) (hbc:L.b.length<=bc) (hbm:bc<=9223372036854775807) (gQ:∀i,i<L.b.length->∀j,j<9->x.cell? (ad bb (bo+i*9+j))=(zP (zc L.b i))[j]?) (hE:Z8 x (.slice ea (zi L ⟨p0,p1,p2,q0,q1,q2,r⟩).length ec) (zi L ⟨p0,p1,p2,q0,q1,q2,r⟩)) :
  Calls prog 145 #[.agg #[v0,.slice (some (ad bb bo)) L.b.length bc,v2],(tv p0 p1 p2 q0 q1 q2 r),.slice ea (zi L ⟨p0,p1,p2,q0,q1,q2,r⟩).length ec,iV P] x fun e w'=>AtP L ⟨p0,p1,p2,q0,q1,q2,r⟩ P x e w':=by
 have HB3:=z9 (below_alloc3 x (.cells #[v0,.slice (some (ad bb bo)) L.b.length bc,v2] 25) (.cells #[iV p0,iV p1,iV p2,iV q0,iV q1,iV q2,iV r] 28) (.cells #[iV 0,.slice none 0 0] 49))
 have HS3:Hid ((((x.alloc (.cells #[v0,.slice (some (ad bb bo)) L.b.length bc,v2] 25)).alloc (.cells #[iV p0,iV p1,iV p2,iV q0,iV q1,iV q2,iV r] 28)).alloc (.cells #[iV 0,.slice none 0 0] 49)).heap.size=x.heap.size+1+1+1):=by show _=_;simp
 have HZ3:Hid ((((x.alloc (.cells #[v0,.slice (some (ad bb bo)) L.b.length bc,v2] 25)).alloc (.cells #[iV p0,iV p1,iV p2,iV q0,iV q1,iV q2,iV r] 28)).alloc (.cells #[iV 0,.slice none 0 0] 49)).heap[x.heap.size+1+1]?=some (.cells #[iV 0,.slice none 0 0] 49 (0,0))):=by
  show _=_
  have e:((x.alloc (.cells #[v0,.slice (some (ad bb bo)) L.b.length bc,v2] 25)).alloc (.cells #[iV p0,iV p1,iV p2,iV q0,iV q1,iV q2,iV r] 28)).heap.size=x.heap.size+1+1:=by simp
  rw [<-e];exact zD _ _ _
 have HNP:=z9 (zdb p0 p1 p2 q0 q1 q2 r L v0 v2 bb bo bc P ea ec (((x.alloc (.cells #[v0,.slice (some (ad bb bo)) L.b.length bc,v2] 25)).alloc (.cells #[iV p0,iV p1,iV p2,iV q0,iV q1,iV q2,iV r] 28)).alloc (.cells #[iV 0,.slice none 0 0] 49)) hm ht hP1 hP2 (Nat.lt_of_lt_of_le hbb HB3.out.size) hbc hbm (fun i hi j hj=>(zf HB3.out _ _ hbb).trans (gQ i hi j hj)) (hE.gE HB3.out))
 have HLEG:Hid (∀(c:Pc) I T N x,c.L=L->c.t=⟨p0,p1,p2,q0,q1,q2,r⟩->c.P=P->PSt c I T N 0 (zi c.L c.t).length x->(∀i,i<c.L.b.length->I i=true)->zV L ⟨p0,p1,p2,q0,q1,q2,r⟩ P ((List.range c.L.b.length).map T)=true):=fun c I T N x e1 e2 e3 h1 h2=>by
  obtain⟨_,hs,_⟩:=h1
  rw [e1,e2,e3] at hs
  rw [e1] at h2 ⊢
  exact hs.legal hm ht hP1 hP2 h2
 have hbl:0<=1:=by omega
 clear gQ hE hm ht
 obtain⟨es,hes⟩:∃es,zi L ⟨p0,p1,p2,q0,q1,q2,r⟩=es:=⟨_,rfl⟩
 rw [hes] at HNP ⊢
 have HES:=z9 hes
 clear hes
 go_enter func145,ntmps145
 go_wp2_with fail
 refine HNP.out.mono ?_
 rintro e x1 ⟨c,rfl,ok,hw0,hcL,hct,hcP,hst⟩
 have HW0:=z9 hw0
 have HCL:=z9 hcL
 have HCT:=z9 hct
 have HCP:=z9 hcP
 have HST:=z9 hst
 clear HNP hw0 hcL hct hcP hst hbl
 have HHI:=z9 (fun W I T N (h:PSt c I T N 0 (zi c.L c.t).length W)=>zj2 W ok h.rows)
 have HPUT:=z9 (fun W a I T N (h:PSt c I T N 0 (zi c.L c.t).length W) ha hI=>zsf W a ok h ha hI)
 have HSUM:Hid (∀I T N W,PSt c I T N 0 (zi c.L c.t).length W->zhj W c.nb c.L.b.length=xe N c.L.b.length/\0<=xe N c.L.b.length/\xe N c.L.b.length<=16016):=fun I T N W h=>⟨zjn h.rows.nr,h.sum ok⟩
 have HRES:Hid (∀W,Below c.w0.heap.size c.w0 W->W.heap[x.heap.size+1+1]?=some (.cells #[iV 0,.slice none 0 0] 49 (0,0))):=fun W hW=>by
  rw [hW.block _ (by rw [HW0.out,HS3.out];omega),HW0.out];exact HZ3.out
 have HBX:Hid (∀W,Below c.w0.heap.size c.w0 W->Bw x W):=fun W hW=>by
  rw [HW0.out] at hW
  exact HB3.out.trans (hW.mono HB3.out.size)
 go_wp2_with fail
 refine (HHI.out x1 _ _ _ HST.out).mono ?_
 rintro e x2 ⟨fd,lf,rfl,hfd,hno,hyes,hb2⟩
 have HST2:=z9 (HST.out.gE hb2)
 have HNO:=z9 hno
 have HYES:=z9 hyes
 clear HST hno hyes hb2
 go_wp2_with fail
 go_loopw [11,12] (fun av lv wr=>∃(fd:Nat) (lf:Bool) (I:Nat->Bool) (T N:Nat->Int),av=iV fd/\lv=.bool lf/\fd<c.L.b.length/\(lf=false->∀j,j<c.L.b.length->I j=true)/\(lf=true->I fd=false)/\PSt c I T N 0 (zi c.L c.t).length wr) (fun _ _ wr=>(16020 - zhj wr c.nb c.L.b.length).toNat)
 case atStart=>exact⟨fd,lf,_,_,_,rfl,rfl,hfd,HNO.out,fun _=>rfl,HST2.out⟩
 case round =>
  clear HNO HYES HST2
  obtain⟨fd,lf,I,T,N,rfl,rfl,hfd,hno,hyes,hst⟩:=hrel
  have HST:=z9 hst
  have HNO:=z9 hno
  have HYES:=z9 hyes
  have hsum:=HSUM.out I T N wr hst
  clear hst hno hyes
  cases lf with
  | true =>
    have HI:Hid (I fd=false):=HYES.out rfl
    have HM0:=z9 hsum
    clear hsum HNO HYES
    go_wp2_with fail
    refine (HPUT.out wr fd I T N HST.out hfd HI.out).mono ?_
    rintro e x3 hput
    rcases hput with ⟨rfl,hbf⟩ | ⟨rfl,I3,T3,N3,hst3,hsum3⟩
    ·have hz:=HRES.out x3 hbf
     have HBF:=z9 (HBX.out x3 hbf)
     have n0:x3.cell? (ad (x.heap.size+1+1) 0)=sI 0:=by rw [cell_of_block hz];rfl
     have n1:x3.cell? (ad (x.heap.size+1+1) 1)=some (.slice none 0 0):=by rw [cell_of_block hz];rfl
     have f0:x3.frozen? (ad (x.heap.size+1+1) 0)=false:=by simp [World.frozen?,hz]
     have f1:x3.frozen? (ad (x.heap.size+1+1) 1)=false:=by simp [World.frozen?,hz]
     obtain⟨s0,s1⟩:=ZQ (a':=iV 0) (b':=.slice none 0 0) hz
     have HW:Hid (AtP L ⟨p0,p1,p2,q0,q1,q2,r⟩ P x (.returned (.tuple #[.agg #[iV 0,.slice none 0 0],.bool false])) ((x3.setCell (ad (x.heap.size+1+1) 0) (iV 0)).setCell (ad (x.heap.size+1+1) 1) (.slice none 0 0))):=⟨(HBF.out.setCell (by show x.heap.size<=x.heap.size+1+1;omega) _).setCell (by show x.heap.size<=x.heap.size+1+1;omega) _,0,none,0,0,false,rfl,fun h=>absurd h (by simp)⟩
     clear hz hbf
     go_wp2_with fail
     exact bodyPost_ret (v:=.tuple #[.agg #[iV 0,.slice none 0 0],.bool false]) (by simp [results,results145,go_sem,s0,s1]) rfl HW.out
    ·have HST3:=z9 hst3
     have HS3':=z9 (HSUM.out I3 T3 N3 x3 hst3)
     have HM3:=z9 hsum3
     clear hst3 hsum3
     go_wp2_with fail
     refine (HHI.out x3 _ _ _ HST3.out).mono ?_
     rintro e x4 ⟨fd4,lf4,rfl,hfd4,hno4,hyes4,hb4⟩
     have HST4:=z9 (HST3.out.gE hb4)
     have HNO4:=z9 hno4
     have HYES4:=z9 hyes4
     have HS4:=z9 (HSUM.out I3 T3 N3 x4 HST4.out)
     clear hno4 hyes4 hb4
     go_wp2_with fail
     go_roundw
     case rel=>exact⟨fd4,lf4,I3,T3,N3,rfl,rfl,hfd4,HNO4.out,HYES4.out,HST4.out⟩
     case measure =>
      have h1:=HM0.out
      have h2:=HS4.out
      have h3:=HM3.out
      omega
  | false =>
    have HALL:Hid (∀j,j<c.L.b.length->I j=true):=HNO.out rfl
    have HLG:=z9 (HLEG.out c I T N wr HCL.out HCT.out HCP.out HST.out HALL.out)
    have hpz:=HST.out.rows.lt
    obtain⟨f1,f10,f11,f12,f13,f14,f15,f16⟩:=HST.out.rows.fields
    have hbf:=HST.out.rows.bel
    have hz:=HRES.out wr hbf
    have HBF:=z9 (HBX.out wr hbf)
    have n0:wr.cell? (ad (x.heap.size+1+1) 0)=sI 0:=by rw [cell_of_block hz];rfl
    have n1:wr.cell? (ad (x.heap.size+1+1) 1)=some (.slice none 0 0):=by rw [cell_of_block hz];rfl
    have g0:wr.frozen? (ad (x.heap.size+1+1) 0)=false:=by simp [World.frozen?,hz]
    have g1:wr.frozen? (ad (x.heap.size+1+1) 1)=false:=by simp [World.frozen?,hz]
    obtain⟨s0,s1⟩:=ZQ (a':=iV P) (b':=.slice (pA c.tb) c.L.b.length c.L.b.length) hz
    have hI:=HST.out.ints ok
    have htb:x.heap.size+1+1<c.tb:=by have:=HST.out.rows.ge.2.2.2.1;rw [HW0.out,HS3.out] at this;omega
    have hzz:x.heap.size+1+1<wr.heap.size:=(Array.getElem?_eq_some_iff.1 hz).1
    have HW:Hid (AtP L ⟨p0,p1,p2,q0,q1,q2,r⟩ P x (.returned (.tuple #[.agg #[iV P,.slice (pA c.tb) c.L.b.length c.L.b.length],.bool true])) ((wr.setCell (ad (x.heap.size+1+1) 0) (iV P)).setCell (ad (x.heap.size+1+1) 1) (.slice (pA c.tb) c.L.b.length c.L.b.length))):=by
     refine⟨(HBF.out.setCell (by show x.heap.size<=x.heap.size+1+1;omega) _).setCell (by show x.heap.size<=x.heap.size+1+1;omega) _,P,_,_,_,true,rfl,fun _=>⟨rfl,c.tb,(List.range c.L.b.length).map T,rfl,by omega,by simp,?_,HLG.out⟩⟩
     have hl:=ok.len
     have hlen:((List.range c.L.b.length).map T).length=c.L.b.length:=by simp
     have hr:=(HST.out.rows.tr.gF (a:=(ad (x.heap.size+1+1) 0)) (by show c.tb≠x.heap.size+1+1;omega) (iV P)).gF (a:=(ad (x.heap.size+1+1) 1)) (by show c.tb≠x.heap.size+1+1;omega) (.slice (pA c.tb) c.L.b.length c.L.b.length)
     refine⟨some (ad c.tb 0),c.L.b.length,by rw [hlen],by rw [hlen];exact Nat.le_refl _,by unfold maxLen;omega,fun i hi=>?_,fun _=>⟨c.tb,0,rfl,hr.lt,fun i hi=>?_⟩⟩
     ·rw [hlen] at hi
      rw [xI hi]
      have:=HST.out.sok.times i hi
      omega
     ·rw [hlen] at hi
      rw [xI hi,Nat.zero_add]
      exact hr.cell hi
    clear hz hbf f1 f10 f11 f12 f13 f15 f16 hI hzz htb hsum
    go_wp2_with fail
    exact bodyPost_ret (v:=.tuple #[.agg #[iV P,.slice (pA c.tb) c.L.b.length c.L.b.length],.bool true]) (by simp [results,results145,go_sem,s0,s1]) rfl HW.out
end Go.Proofs.YtjoapiafpahihabGreat
