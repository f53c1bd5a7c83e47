import Derived.Test.YtjoapiafpahihabGreatRef3B
import Derived.Deep.RegionHeld3
import Derived.BigRegion
namespace Go.Proofs.YtjoapiafpahihabGreat
open Go.RowKit Go.Joins
set_option linter.unusedVariables false
set_option maxHeartbeats 4000000 in
set_option maxRecDepth 100000 in
theorem zwe (lv sv:Value) (L:Lp) (B M:List (List Int)) (turns:Nat) (w:World) (hL:zk w lv L) (hS:zey w sv B M) (hf:zrx L B M=true) (ht:turns<=200) (hLI:LoopIn L) (hB:zsc B) (hM:zsc M) :
  Calls Tryz.prog 39 #[lv,sv,iV turns] w fun e w'=>∃ov mv,e=.returned (.agg #[ov,mv])/\yf w' ov (zrt L B turns (zpn L B turns (zgf M))) /\
   YY w' mv (ztf M (zpn L B turns (zgf M)))/\Below w.heap.size w w':=by
 obtain⟨f1,f2,f3,f4,f5⟩:=zsr hf
 have h32:=zxf f1 f3 f5
 obtain⟨m1,m2,m3,m4,m5,m6,m7⟩:=zj f1
 have hLc:=hL
 have hSc:=hS
 obtain⟨v0,v1,v2,rfl,⟨a0,cap0,rfl,hl0,hm0,hr0,hc0⟩,⟨a1,cap1,rfl,hl1,hm1,hc1⟩,⟨a2,cap2,rfl,hl2,hm2,hr2,hc2⟩⟩:=hL
 obtain⟨s0,s1,rfl,hs0,hs1⟩:=hS
 have hs1c:=hs1
 obtain⟨ba,bcap,rfl,bl,bm,bc⟩:=hs0
 obtain⟨ma,mcap,rfl,ml,mm,mc⟩:=hs1
 unfold maxLen at hm0 hm1 hm2 bm mm
 have hM3:M.length<=3:=by omega
 have HF2:=z5 f2
 have HF3:=z5 f3
 have HBo:=z5 m7
 have HLo:=z5 m5
 have HOu:=z5 m6
 clear f1 f2 f3 hf m5 m6 m7
 have H32:=z5 h32
 have HF4:=z5 f4
 have HF5:=z5 f5
 clear h32 f4 f5 hr0 hr2 mc
 go_enter Tryz.func39,Tryz.ntmps39
 go_wp2_with fail
 refine (zt9 _ M _ (hs1c.below (below_alloc3 _ _ _ _)) (by omega) H32.out).mono ?_
 rintro e w1 ⟨mv,G,C,rfl,hown,hin,hb1⟩
 obtain⟨am,capm,rfl,hcm1,hcm2⟩:=X7 hown
 have hcell1:=zc hb1
 have hmk:=run_make_row' (P:=Tryz.prog) 32 63 (.slice none 0 0) 24 Tryz.underlying32 Tryz.i63 rfl .i64 .i64 turns (by omega) (by omega)
 have HO:=z5 hown
 have HI:=z5 hin
 clear hown hin
 go_wp2_with fail
 have hb0:Below (zsb w (.slice a0 L.logs.length cap0) (.slice a1 L.body.length cap1) (.slice a2 L.outs.length cap2) (.slice ba B.length bcap) (.slice ma M.length mcap)).heap.size (zsb w (.slice a0 L.logs.length cap0) (.slice a1 L.body.length cap1) (.slice a2 L.outs.length cap2) (.slice ba B.length bcap) (.slice ma M.length mcap)) w1:=hb1
 obtain⟨gm,hP0⟩:=zi8.first (turns:=turns) (N:=L.body.length) hb0 HO.out HI.out
 rw [zt7] at hP0
 have HP0:=z5 hP0
 clear hP0 hb0 hb1 hcell1 HO HI
 go_loopw [9] (fun i wr=>∃T:Nat,T<=turns/\i=iV T/\∃GA,zi8 (zsb w (.slice a0 L.logs.length cap0) (.slice a1 L.body.length cap1) (.slice a2 L.outs.length cap2) (.slice ba B.length bcap) (.slice ma M.length mcap)) (w.heap.size+3) (.slice am M.length capm) gm capm w1.heap.size turns L.body.length M.length T G C (fun i=>(VC M i).length) GA (zpn L B T (zgf M)) wr) (fun i _=>turns - (intOf i).toNat)
 case atStart=>exact⟨0,Nat.zero_le _,rfl,_,HP0.out⟩
 case round =>
  obtain⟨T,hT,rfl,GA,hP⟩:=hrel
  have hbx:=zt4 hP.bel
  obtain⟨x0,x1,x2,y0,y1,hbw,hbz⟩:=hbx
  have HP:=z5 hP
  have HB:=z5 hbw
  by_cases hlt:T<turns
  ·have hTi:(T:Int)<(turns:Int):=by omega
   have hmk2:=run_make_row' (P:=Tryz.prog) 63 2 (iV 0) 8 Tryz.underlying63 Tryz.i2 rfl .i64 .i64 L.body.length (by omega) (by omega)
   have hfz:=hP.hall.frozen T
   have hca:=hP.hall.cell hlt
   have hAz:=hP.hall.lt
   clear hP hbw
   go_wp2_with fail
   obtain⟨GB,hQ0⟩:∃GB,zi8 (zsb w (.slice a0 L.logs.length cap0) (.slice a1 L.body.length cap1) (.slice a2 L.outs.length cap2) (.slice ba B.length bcap) (.slice ma M.length mcap)) (w.heap.size+3) (.slice am M.length capm) gm capm w1.heap.size turns L.body.length M.length (T+1) G C (fun i=>(VC M i).length) GB (zpn L B T (zgf M)) ((wr.setCell ⟨w1.heap.size,T,none⟩ (.slice (some ⟨wr.heap.size,0,none⟩) L.body.length L.body.length)).alloc (.cells (madeCells #[iV 0] L.body.length) 2)):=⟨_,by rw [<-World.setCell_alloc_past _ _ _ _ hAz];exact HP.out.newRow hbz hlt (fun k=>zvu (Nat.le_refl _))⟩
   have HQ0:=z5 hQ0
   clear hQ0 HP HB x0 x1 x2 y0 y1 hca hfz hmk hmk2 hAz hbz
   go_loopw [10] (fun i wq=>∃k:Nat,k<=L.body.length/\i=iV k/\zi8 (zsb w (.slice a0 L.logs.length cap0) (.slice a1 L.body.length cap1) (.slice a2 L.outs.length cap2) (.slice ba B.length bcap) (.slice ma M.length mcap)) (w.heap.size+3) (.slice am M.length capm) gm capm w1.heap.size turns L.body.length M.length (T+1) G C (fun i=>(VC M i).length) GB (znz L B T k (zpn L B T (zgf M))) wq) (fun i _=>L.body.length - (intOf i).toNat)
   case atStart=>exact⟨0,Nat.zero_le _,rfl,HQ0.out⟩
   case round =>
    clear HQ0
    obtain⟨k,hk,rfl,hQ⟩:=hrel
    obtain⟨x0,x1,x2,y0,y1,hbw,hbz⟩:=zt4 hQ.bel
    by_cases hkl:k<L.body.length
    ·have hki:(k:Int)<(L.body.length:Int):=by omega
     obtain⟨b,off,rfl,hb,hcell⟩:=hc1 (by omega)
     obtain⟨c0,c1,c2,c3,c4,c5,c6,c7,c8⟩:=Zj (hcell k hkl)
     rw [<-zc hbw _ _ hb] at c0 c1 c2 c3 c4 c5 c6 c7 c8
     have hst:=zl HBo.out k hkl
     have hca:=hQ.hall.cell hlt
     rw [if_pos (Nat.lt_succ_self T)] at hca
     have hAz:=hQ.hall.lt
     have hgr:=(hQ.rows T (Nat.lt_succ_self T)).2
     have hgc:=hgr.cell hkl
     have hgf:=hgr.frozen k
     have hgz:=hgr.lt
     have hgA:=(hQ.rows T (Nat.lt_succ_self T)).1
     have HQ:=z5 hQ
     have HST:=z5 hst
     have HB:=z5 hbw
     have HFN:Hid (Sq.fine (znz L B T k (zpn L B T (zgf M)))):=ztn hLI hB (by omega) (zu9 hLI hB (by omega) (ztb hM))
     have HCO:Hid (zq5 L B T (znz L B T k (zpn L B T (zgf M))) k=znz L B T (k+1) (zpn L B T (zgf M))):=rfl
     clear hQ hst hbw hcell hc1 hgr
     generalize znz L B T k (zpn L B T (zgf M))=sq at *
     generalize hx:z6 L.body k=x at *
     have HXX:=z5 hx
     clear hx
     obtain⟨o,xa,xb,ya,yb,ar,sp,pl,nn⟩:=x
     simp only at c0 c1 c2 c3 c4 c5 c6 c7 c8
     have hpos:=zea HST.out
     simp only at hpos
     rcases hpos with rfl | rfl | ⟨rfl,q1,q2⟩ | ⟨rfl,q1,q2,q3⟩ | ⟨q1,q2,q3,q4⟩
     ·go_wp2_with fail
      go_region
      go_wp2_with fail
      go_roundw
      case rel=>exact⟨k+1,by omega,by go_num,by
       rw [<-HCO.out,zx2 HXX.out]
       exact (HQ.out.setVal T k nn (by omega) hkl).below (((Below.refl _ _).alloc (Nat.le_refl _) _).drew) (by simpa using hbz)⟩
      case measure=>simp [intOf];omega
     ·go_wp2_with fail
      go_roundw
      case rel=>exact⟨k+1,by omega,by go_num,by
       rw [<-HCO.out,zx3 HXX.out]
       exact (HQ.out.setVal T k (T:Int) (by omega) hkl).below ((Below.refl _ _).alloc (Nat.le_refl _) _) (by simpa using hbz)⟩
      case measure=>simp [intOf];omega
     ·obtain⟨i,rfl⟩:=Int.eq_ofNat_of_zero_le q1
      have hiL:i<L.logs.length:=by omega
      have hiM:i<M.length:=by have:=HF3.out;omega
      obtain⟨lb,lo,rfl,hlb,hlc⟩:=hc0 (by omega)
      have hlk:=hlc i hiL
      rw [<-zc HB.out _ _ hlb] at hlk
      rcases HQ.out.outer with hn0 | ⟨hmv,-,-,hmr,hmb,hmA⟩
      ·omega
      injection hmv with hmv1 hmv2 hmv3
      subst hmv1
      have hmo:wr.cell? ⟨gm,i,none⟩=some (.slice (some ⟨G i,0,none⟩) (VC M i).length (C i)):=hmr.cell hiM
      have hmz:=hmr.lt
      obtain⟨hin1,hin2,hin3,hin4⟩:=HQ.out.inner.1 i hiM
      have hGz:=hin4.lt
      have hjc:=zes L T ⟨3,xa,xb,ya,yb,i,sp,pl,nn⟩
      have hjl:=zty L T ⟨3,xa,xb,ya,yb,i,sp,pl,nn⟩
      dsimp only at hjc hjl
      rw [Int.toNat_natCast] at hjc hjl
      rw [<-HF5.out i hiM] at hjl
      generalize hj:xe L T ⟨3,xa,xb,ya,yb,i,sp,pl,nn⟩=j at *
      have HJ:=z5 hj
      have hmj:=hin4.cell hjl
      have hmf:=hin4.frozen j
      have i1:(i:Int)<(L.logs.length:Int):=by omega
      have i4:lb<wr.heap.size:=by omega
      have i5:w.heap.size<wr.heap.size:=by omega
      have i6:w.heap.size+1<wr.heap.size:=by omega
      have i2:(i:Int)<(M.length:Int):=by omega
      have i3:(j:Int)<((VC M i).length:Int):=by omega
      clear hj hlc hc0 hmr hin4 hmv2 hmv3
      go_wp2_with fail
      go_quiet ((go_at_call 83;exact Calls.quiet_of_same (zs4 _ _ _ _ _)))
      go_wp2_with fail
      go_region
      go_wp2_with fail
      go_roundw
      case rel=>exact⟨k+1,by omega,by go_num,by
       rw [<-HCO.out,zx4 HXX.out,HJ.out,Int.toNat_natCast]
       exact (HQ.out.below (((Below.refl _ _).alloc (Nat.le_refl _) _).trans (below_draws _ _ _)) hbz).setVal T k _ (by omega) hkl⟩
      case measure=>simp [intOf];omega
     ·obtain⟨i,rfl⟩:=Int.eq_ofNat_of_zero_le q1
      have hiL:i<L.logs.length:=by omega
      have hiM:i<M.length:=by have:=HF3.out;omega
      obtain⟨lb,lo,rfl,hlb,hlc⟩:=hc0 (by omega)
      have hlk:=hlc i hiL
      rw [<-zc HB.out _ _ hlb] at hlk
      rcases HQ.out.outer with hn0 | ⟨hmv,-,-,hmr,hmb,hmA⟩
      ·omega
      injection hmv with hmv1 hmv2 hmv3
      subst hmv1
      have hmo:wr.cell? ⟨gm,i,none⟩=some (.slice (some ⟨G i,0,none⟩) (VC M i).length (C i)):=hmr.cell hiM
      have hmz:=hmr.lt
      obtain⟨hin1,hin2,hin3,hin4⟩:=HQ.out.inner.1 i hiM
      have hGz:=hin4.lt
      have hjc:=zes L T ⟨4,xa,xb,ya,yb,i,sp,pl,nn⟩
      have hjl:=zty L T ⟨4,xa,xb,ya,yb,i,sp,pl,nn⟩
      dsimp only at hjc hjl
      rw [Int.toNat_natCast] at hjc hjl
      rw [<-HF5.out i hiM] at hjl
      generalize hj:xe L T ⟨4,xa,xb,ya,yb,i,sp,pl,nn⟩=j at *
      have HJ:=z5 hj
      have hmj:=hin4.cell hjl
      have hmf:=hin4.frozen j
      have i1:(i:Int)<(L.logs.length:Int):=by omega
      have i4:lb<wr.heap.size:=by omega
      have i5:w.heap.size<wr.heap.size:=by omega
      have i6:w.heap.size+1<wr.heap.size:=by omega
      have i2:(i:Int)<(M.length:Int):=by omega
      have i3:(j:Int)<((VC M i).length:Int):=by omega
      clear hj hlc hc0 hmr hin4 hmv2 hmv3
      obtain⟨r1,r2,r3,r4⟩:=Vn q3 (by omega)
      have hcells:(wr.alloc (.cells #[iV 4,iV xa,iV xb,iV ya,iV yb,iV i,iV sp,iV pl,iV nn] 41)).heap.size=wr.heap.size+1:=by simp
      go_wp2_with fail
      go_quiet ((go_at_call 83;exact Calls.quiet_of_same (zs4 _ _ _ _ _)))
      go_wp2_with fail
      refine (zup _ _ B M turns L.body.length T sq.val xa xb _ (hSc.below (HB.out.trans ((((Below.refl _ _).alloc (Nat.le_refl _) _).trans (below_draws _ _ _)).mono HB.out.size))) ((HQ.out.below (((Below.refl _ _).alloc (Nat.le_refl _) _).trans (below_draws _ _ _)) hbz).grid (by omega) ht m3) hlt ht r1 r2 m3 r3 r4 HF2.out (fun a ha=>HF4.out a (by have:=HF2.out;omega))).mono ?_
      rintro e w2 ⟨rfl,hb2⟩
      have hb3:Below wr.heap.size wr w2:=(((Below.refl _ _).alloc (Nat.le_refl _) _).trans (below_draws _ _ _)).trans (hb2.mono (by simp))
      have hxc:∀o,w2.cell? ⟨wr.heap.size,o,none⟩=(wr.alloc (.cells #[iV 4,iV xa,iV xb,iV ya,iV yb,iV i,iV sp,iV pl,iV nn] 41)).cell? ⟨wr.heap.size,o,none⟩:=fun o=>hb2.cell (p:=⟨wr.heap.size,o,none⟩) (by simp)
      have HQ2:=z5 (HQ.out.below hb3 hbz)
      have hw2:=hb3.size
      rw [<-zc hb3 _ _ hmz] at hmo
      rw [<-zc hb3 _ _ hGz] at hmj
      rw [<-zc hb3 _ _ hAz] at hca
      rw [<-zc hb3 _ _ hgz] at hgc
      have hmf2:=(HQ2.out.inner.1 i hiM).2.2.2.frozen j
      have hgf2:=(HQ2.out.rows T (Nat.lt_succ_self T)).2.frozen k
      have hne1:w1.heap.size≠G i:=by have:=HQ.out.under i hiM;omega
      have hne2:GB T≠G i:=by have:=HQ.out.under i hiM;omega
      clear hb2 hcells c0 c1 c2 c3 c4 c5 c6 c7 c8 x0 x1 x2 y0 y1 hmf hgf hlk
      go_wp2_with fail
      go_roundw
      case rel=>exact⟨k+1,by omega,by go_num,by
       rw [<-HCO.out,zx5 HXX.out,HJ.out,Int.toNat_natCast]
       exact (HQ2.out.setMem i j _ hiM hjl).setVal T k _ (by omega) hkl⟩
      case measure=>simp [intOf];omega
     ·have b1:(o == 1)=false:=beq_eq_false_iff_ne.2 (by omega)
      have b2:(o == 2)=false:=beq_eq_false_iff_ne.2 (by omega)
      have b3:(o == 3)=false:=beq_eq_false_iff_ne.2 (by omega)
      have b4:(o == 4)=false:=beq_eq_false_iff_ne.2 (by omega)
      obtain⟨r1,r2,r3,r4⟩:=Vn q3 (by omega)
      obtain⟨t1,t2,t3,t4⟩:=Vn q4 (by omega)
      have i5:w.heap.size<wr.heap.size:=by omega
      have i6:w.heap.size+1<wr.heap.size:=by omega
      have hbal:Below wr.heap.size wr (wr.alloc (.cells #[iV o,iV xa,iV xb,iV ya,iV yb,iV ar,iV sp,iV pl,iV nn] 41)):=below_alloc1 _ _
      have HN:Hid (Sq.fine sq):=HFN.out
      go_wp2_with fail
      refine (zup _ _ B M turns L.body.length T sq.val xa xb _ (hSc.below (HB.out.trans (hbal.mono HB.out.size))) ((HQ.out.below hbal hbz).grid (by omega) ht m3) hlt ht r1 r2 m3 r3 r4 HF2.out (fun a ha=>HF4.out a (by have:=HF2.out;omega))).mono ?_
      rintro e w2 ⟨rfl,hb2⟩
      have hb3:Below wr.heap.size wr w2:=hbal.trans (hb2.mono (by simp))
      have hxc:∀p,w2.cell? ⟨wr.heap.size,p,none⟩=(wr.alloc (.cells #[iV o,iV xa,iV xb,iV ya,iV yb,iV ar,iV sp,iV pl,iV nn] 41)).cell? ⟨wr.heap.size,p,none⟩:=fun p=>hb2.cell (p:=⟨wr.heap.size,p,none⟩) (by simp)
      have hwz2:wr.heap.size<w2.heap.size:=by have:=hb2.size;simp at this;omega
      rw [<-zc hb3 _ _ i6] at y0 y1
      go_wp2_with fail
      refine (zup _ _ B M turns L.body.length T sq.val ya yb _ (hSc.below (HB.out.trans (hb3.mono HB.out.size))) ((HQ.out.below hb3 hbz).grid (by omega) ht m3) hlt ht t1 t2 m3 t3 t4 HF2.out (fun a ha=>HF4.out a (by have:=HF2.out;omega))).mono ?_
      rintro e w3 ⟨rfl,hb4⟩
      have hb5:Below wr.heap.size wr w3:=hb3.trans (hb4.mono (by omega))
      have hx0:w3.cell? ⟨wr.heap.size,0,none⟩=some (iV o):=by
       rw [hb4.cell (p:=⟨wr.heap.size,0,none⟩) hwz2,hxc 0];go_simp
      have HQ3:=z5 (HQ.out.below hb5 hbz)
      rw [<-zc hb5 _ _ hAz] at hca
      rw [<-zc hb5 _ _ hgz] at hgc
      have hgf3:=(HQ3.out.rows T (Nat.lt_succ_self T)).2.frozen k
      obtain⟨ia0,ia1⟩:I64 (zjz B sq.val T xa xb):=ztd hB HN.out.2
      obtain⟨ib0,ib1⟩:I64 (zjz B sq.val T ya yb):=ztd hB HN.out.2
      have HST5:=z5 (zww (B:=B) (t:=T) (s:=sq) HXX.out q1)
      generalize zjz B sq.val T xa xb=av at *
      generalize zjz B sq.val T ya yb=bv at *
      have hk1:∀u,(w3.setCell ⟨GB T,k,none⟩ u).cell? ⟨w1.heap.size,T,none⟩=some (.slice (some ⟨GB T,0,none⟩) L.body.length L.body.length):=fun u=>by
       rw [World.cell?_of_block (w:=w3) (a:=⟨w1.heap.size,T,none⟩) (Below.heap_setCell _ _ _ _ (by show w1.heap.size≠GB T;omega))];exact hca
      have hk2:∀u,(w3.setCell ⟨GB T,k,none⟩ u).cell? ⟨wr.heap.size,0,none⟩=some (iV o):=fun u=>by
       rw [World.cell?_of_block (w:=w3) (a:=⟨wr.heap.size,0,none⟩) (Below.heap_setCell _ _ _ _ (by show wr.heap.size≠GB T;omega))];exact hx0
      have ho10:IntKind.i64.wrap (o - 10)=o - 10:=zw2 _ (by omega) (by omega)
      clear hb2 hb4 hxc c0 c1 c2 c3 c4 c5 c6 c7 c8 x0 x1 x2 y0 y1 hgf hb3 hbal b1 b2 b3 b4
      go_wp2_with fail
      go_region_held3 (fun w'=>w'.cell? ⟨w1.heap.size,T,none⟩=some (.slice (some ⟨GB T,0,none⟩) L.body.length L.body.length)/\w'.cell? ⟨wr.heap.size,0,none⟩=some (iV o)) (go_keep) (first | (go_at_call 84;refine (zv2 _ _ _ _ ia0 ia1 ib0 ib1).mono ?_;rintro e w' ⟨rfl,rfl⟩))
      all_goals
       go_wp2_with fail
       go_roundw
       case rel=>exact⟨k+1,by omega,by go_num,by
        rw [<-HCO.out,HST5.out]
        exact (HQ3.out.setVal T k _ (by omega) hkl).below ((Below.refl _ _).drew) (by have:=hb5.size;simp;omega)⟩
       case measure=>simp [intOf];omega
    ·have e:k=L.body.length:=by omega
     subst e
     have HQ:=z5 hQ
     clear hQ hbw hc1
     go_wp2_with fail
     go_roundw
     case rel=>exact⟨T+1,by omega,by go_num,GB,HQ.out⟩
     case measure=>simp [intOf];omega
  ·have e:T=turns:=by omega
   subst e
   have hca:0<T->wr.cell? ⟨w1.heap.size,T - 1,none⟩=some (.slice (some ⟨GA (T - 1),0,none⟩) L.body.length L.body.length):=fun h0=>by
    rw [hP.hall.cell (show T - 1<T by omega),if_pos (by omega)]
   have hrw:0<T->∀c,c<L.body.length->wr.cell? ⟨GA (T - 1),c,none⟩=some (iV ((zpn L B T (zgf M)).val (T - 1) c)):=fun h0 c hc=>(hP.rows (T - 1) (by omega)).2.cell hc
   have hrz:0<T->GA (T - 1)<wr.heap.size:=fun h0=>(hP.rows (T - 1) (by omega)).2.lt
   have hAz:=hP.hall.lt
   have HFN:Hid (Sq.fine (zpn L B T (zgf M))):=zu9 hLI hB ht (ztb hM)
   have HCA:=z5 hca
   have HRW:=z5 hrw
   have HRZ:=z5 hrz
   obtain⟨i0,hi,hz0,hz1,hz2⟩:=info_parts Tryz.i2
   have i5:w.heap.size<wr.heap.size:=by omega
   have i6:w.heap.size+1<wr.heap.size:=by omega
   clear hP hbw hca hrw hrz hc1 hc0 hmk
   rename World=>wo
   go_wp2_with fail
   go_loopw [18] (fun i wq=>∃q:Nat,q<=L.outs.length/\i=iV q/\∃oa oc,Xh wo wq (zrt L B T (zpn L B T (zgf M))) q (.slice am M.length capm) oa oc) (fun i _=>L.outs.length - (intOf i).toNat)
   case atStart=>exact⟨0,Nat.zero_le _,rfl,none,0,Xh.first _ _ _⟩
   case round =>
    obtain⟨q,hq,rfl,oa,oc,hO⟩:=hrel
    obtain⟨o1,o2,o3,o4⟩:=hO.cells
    have HO:=z5 hO
    have hbq:=hO.2.2
    rw [<-zc hbq _ _ i5] at x0 x1 x2
    rw [<-zc hbq _ _ i6] at y0 y1
    by_cases hql:q<L.outs.length
    ·have hqi:(q:Int)<(L.outs.length:Int):=by omega
     obtain⟨ob,of,rfl,hob,hoc⟩:=hc2 (by omega)
     have hoq:=hoc q hql
     obtain⟨z0,z1⟩:=zjn HOu.out hql
     obtain⟨c,hc⟩:=Int.eq_ofNat_of_zero_le z0
     rw [<-zc HB.out _ _ hob,<-zc hbq _ _ (by have:=HB.out.size;omega),hc] at hoq
     have hcN:c<L.body.length:=by omega
     obtain⟨bb,bo,rfl,hbb,hbr⟩:=bc (by have:=HF2.out;omega)
     obtain⟨u,hu,⟨ra,rc,rfl,rl,rm,rr,rcell⟩⟩:=hbr c (by have:=HF2.out;omega)
     have h3:=HF4.out c (by have:=HF2.out;omega)
     obtain⟨rb,ro,rfl,hrb,hrc⟩:=rcell (by omega)
     have hr0:=hrc 0 (by omega)
     rw [<-zc HB.out _ _ hbb,<-zc hbq _ _ (by have:=HB.out.size;omega)] at hu
     rw [Nat.add_zero,<-zc HB.out _ _ hrb,<-zc hbq _ _ (by have:=HB.out.size;omega)] at hr0
     have e1:(c:Int)<(B.length:Int):=by have:=HF2.out;omega
     have e2:(0:Int)<((VC B c).length:Int):=by omega
     have HV:=z5 (ztg L B T (zpn L B T (zgf M)) q hql)
     rw [hc,Int.toNat_natCast] at HV
     have HC:=z5 hc
     have hqz:q<(zrt L B T (zpn L B T (zgf M))).length:=by rw [zsl];exact hql
     clear h3 hoc hc hbr rcell hrc hc2 bc rr hO z0 z1
     by_cases hT0:T=0
     ·have HV0:Hid (nth (zrt L B T (zpn L B T (zgf M))) q=nth (VC B c) 0):=by show _=_;rw [HV.out,if_pos hT0]
      have hTz:¬(0:Int)<(T:Int):=by omega
      clear HV hT0
      go_wp2_with fail
      go_quiet ((fail))
      go_wp2_with (at_builtin;refine wpList_append_own _ rfl (.tmp 192) (.tmp 194) 63 rfl (wo.heap.size+1) 2 i0 (iV 0) 1 8 Tryz.underlying63 hi hz0 hz1 hz2 rfl (by decide) _ _ _ rfl (zt HO.out.2.1 (by first | exact (below_draws _ _ _).alloc (Nat.le_refl _) _ | exact (below_alloc1 _ _).trans (below_draws _ _ _))) ⟨wr.heap.size,0,none⟩ 1 1 [iV (nth (VC B c) 0)] rfl rfl (by exact zml _ _ _) (by intro u hu;simp at hu;subst hu;rfl) (by unfold maxLen;omega) (by omega) (by simp;omega) ?_;intro v2 w2 hown2 hgrow2 hnil2;obtain⟨oa2,oc2,rfl,hs1,hs2,hO2⟩:=Xh.step HO.out hqz (by rw [HV0.out];exact hown2) (by exact hgrow2);have HO2:=z5 hO2;clear hO2)
      go_roundw
      case rel=>exact⟨q+1,by omega,by go_num,oa2,oc2,HO2.out⟩
      case measure=>simp [intOf];omega
     ·obtain⟨m,hm⟩:∃m,T=m+1:=⟨T - 1,by omega⟩
      have HV0:Hid (nth (zrt L B T (zpn L B T (zgf M))) q=(zpn L B T (zgf M)).val m c):=by show _=_;rw [HV.out,if_neg hT0,show T - 1=m from by omega]
      have hTz:(0:Int)<(T:Int):=by omega
      have hcm:=HCA.out (by omega)
      have hrm:=HRW.out (by omega) c hcN
      have hzm:=HRZ.out (by omega)
      rw [show T - 1=m from by omega] at hcm hrm hzm
      rw [<-zc hbq _ _ hAz] at hcm
      rw [<-zc hbq _ _ hzm] at hrm
      have hwm:IntKind.i64.wrap ((T:Int) - 1)=(m:Int):=by rw [zw2 _ (by omega) (by omega)];omega
      have hmT:(m:Int)<(T:Int):=by omega
      have hcB:(c:Int)<(L.body.length:Int):=by omega
      clear HV hT0 hm HCA HRW HRZ
      go_wp2_with fail
      go_quiet ((fail))
      go_wp2_with fail
      go_quiet ((fail))
      go_wp2_with (at_builtin;refine wpList_append_own _ rfl (.tmp 192) (.tmp 194) 63 rfl (wo.heap.size+1) 2 i0 (iV 0) 1 8 Tryz.underlying63 hi hz0 hz1 hz2 rfl (by decide) _ _ _ rfl (zt HO.out.2.1 (by first | exact (below_draws _ _ _).alloc (Nat.le_refl _) _ | exact (below_alloc1 _ _).trans (below_draws _ _ _))) ⟨wr.heap.size,0,none⟩ 1 1 [iV ((zpn L B T (zgf M)).val m c)] rfl rfl (by exact zml _ _ _) (by intro u hu;simp at hu;subst hu;rfl) (by unfold maxLen;omega) (by omega) (by simp;omega) ?_;intro v2 w2 hown2 hgrow2 hnil2;obtain⟨oa2,oc2,rfl,hs1,hs2,hO2⟩:=Xh.step HO.out hqz (by rw [HV0.out];exact hown2) (by exact hgrow2);have HO2:=z5 hO2;clear hO2)
      go_roundw
      case rel=>exact⟨q+1,by omega,by go_num,oa2,oc2,HO2.out⟩
      case measure=>simp [intOf];omega
    ·have e:q=L.outs.length:=by omega
     subst e
     have HPq:=z5 (HP.out.below hbq hbz)
     have hrs:=zv6 HPq.out.bel
     have hs1:wr.cell? ⟨w.heap.size+1+1,0,none⟩=some (.slice none 0 0):=by rw [cell_of_block hrs];rfl
     have hs2:wr.cell? ⟨w.heap.size+1+1,1,none⟩=some (.slice none 0 0):=by rw [cell_of_block hrs];rfl
     have hs3:wr.frozen? ⟨w.heap.size+1+1,0,none⟩=false:=unfrozen_of_block hrs 0
     have hs4:wr.frozen? ⟨w.heap.size+1+1,1,none⟩=false:=unfrozen_of_block hrs 1
     have HOW:Hid (wr.ownsRow (wo.heap.size+1) 2 1 (.slice oa L.outs.length oc) (zrt L B T (zpn L B T (zgf M))).length ((zrt L B T (zpn L B T (zgf M))).map (Value.int .i64))):=by
      have h:=HO.out.2.1
      rw [List.take_of_length_le (by rw [zsl];omega)] at h
      show wr.ownsRow _ _ _ _ (zrt L B T (zpn L B T (zgf M))).length _
      rw [zsl];exact h
     have HBW:=z5 (HB.out.trans (hbq.mono HB.out.size))
     have hf0:∀ov,(wr.setCell ⟨w.heap.size+1+1,0,none⟩ ov).cell? ⟨w.heap.size+1+1,0,none⟩=some ov:=fun ov=>by rw [cell_of_block (block_setCell hrs ov)];rfl
     have hf1:∀ov mv,((wr.setCell ⟨w.heap.size+1+1,0,none⟩ ov).setCell ⟨w.heap.size+1+1,1,none⟩ mv).cell? ⟨w.heap.size+1+1,1,none⟩=some mv:=fun ov mv=>by rw [cell_of_block (block_setCell (block_setCell hrs ov) mv)];rfl
     clear hc2 bc hO hrs
     go_wp2_with fail
     refine bodyPost_ret (v:=.agg #[.slice oa L.outs.length oc,.slice am M.length capm]) (by simp [results,Tryz.results39,go_sem,hf0,hf1]) rfl ⟨_,_,rfl,?_,?_,?_⟩
     ·refine zt5 (base:=wo.heap.size+1) ?_ (zvl _ _ _ _ hB HFN.out)
      exact ownsRow_setCell_below (ownsRow_setCell_below HOW.out (by show w.heap.size+1+1<_;omega) _) (by show w.heap.size+1+1<_;omega) _
     ·exact zuf ((HPq.out.words (by omega) _).words (by omega) _) hcm1 hcm2 HFN.out
     ·exact (HBW.out.setCell (by show w.heap.size<=w.heap.size+1+1;omega) _).setCell (by show w.heap.size<=w.heap.size+1+1;omega) _
end Go.Proofs.YtjoapiafpahihabGreat
