import Derived.Test.YtjoapiafpahihabGreatRef5A
import Derived.Test.YtjoapiafpahihabGreatBase
import Derived.Test.YtjoapiafpahihabGreatNums
import Derived.Deep.QuietTactic
import Derived.BigQuiet
import Derived.Deep.RegionHeld3
import Derived.BigRegion
import Derived.Deep.AppendLies
namespace Go.Proofs.YtjoapiafpahihabGreat
open Go.RowKit Go.Joins
set_option linter.unusedVariables false
set_option maxHeartbeats 40000000 in
set_option maxRecDepth 100000 in
theorem zud (p0 p1 p2 q0 q1 q2:Int) (RR PC ST turns:Nat) (ops:List Kop) (ka:Option Addr) (kc:Nat) (ra:Option Addr) (rc:Nat) (R:List Int) (ma:Option Addr) (mc:Nat) (M:List (List Int)) (w:World)
  (hK:Xz w (.slice ka ops.length kc) ops) (hR:yf w (.slice ra R.length rc) R) (hM:YY w (.slice ma M.length mc) M) (hmay:Z6 ⟨p0,p1,p2,q0,q1,q2,RR⟩ ⟨PC,ST,ops⟩ (zrp M)=true) (hlogs:zs3 M=true)
  (hrl:R.length=RR) (ht:turns<=200) (hnn:∀x∈ops,I64 x.nn) :
  Calls Tryz.prog 37 #[.agg #[iV p0,iV p1,iV p2,iV q0,iV q1,iV q2,iV RR],.agg #[iV PC,iV ST,.slice ka ops.length kc],.slice ra R.length rc,.slice ma M.length mc,iV turns] w fun e w'=>∃rv mv,e=.returned (.tuple #[rv,mv]) /\
   yf w' rv (zs5 R.length (zq2 ⟨p0,p1,p2,q0,q1,q2,RR⟩ ⟨PC,ST,ops⟩ (zrp M) turns R M))/\YY w' mv (zrz M (zq2 ⟨p0,p1,p2,q0,q1,q2,RR⟩ ⟨PC,ST,ops⟩ (zrp M) turns R M))/\Below w.heap.size w w':=by
 subst hrl
 obtain⟨k1,k2,k3,k4,k5,k6,k7,k8⟩:=zss hmay
 obtain⟨-,-,-,r1,r2⟩:=yi k1
 dsimp only at k2 k3 k4 k5 k6 k7 k8 r1 r2
 have hM3:M.length<=3:=by
  have h:=(zt0 (k8 0 (by omega))).2.2.2.2.2.1
  rw [zry] at h;exact h
 have HROW:=z5 (zue hlogs)
 have HONE:=z5 k8
 have HMT:=z5 k1
 obtain⟨LA,hLA,hlast⟩:=zw6 (PC:=PC) (ST:=ST) (turns:=turns) (by omega) (by omega) (by omega) ht
 have hRc:=hR
 have hMc:=hM
 obtain⟨ra',rc',he,rl,rm,rr,rcell⟩:=hR
 injection he with e1 e2 e3
 subst e1;subst e3
 obtain⟨b2,o2,rfl,hb2,hcell2⟩:=rcell (by omega)
 obtain⟨ka',kc',he,kl,km,kcell⟩:=hK
 injection he with e1 e2 e3
 subst e1;subst e3
 obtain⟨kb,ko,rfl,hkb,hkc⟩:=kcell (by omega)
 clear kcell rcell k8
 unfold maxLen at rm km
 have HRR:=z5 rr
 have HLAST:=z5 hlast
 have HKC:=z5 hkc
 have HLG:=z5 hlogs
 clear rr hkc hlogs hmay k1
 obtain⟨i0,hi,hz0,hz1,hz2⟩:=info_parts Tryz.i2
 obtain⟨j0,ji,jz0,jz1,jz2⟩:=info_parts Tryz.i136
 have N1:Hid ((R.map (Value.int .i64)).length=R.length*1):=by show _=_;simp
 have N2:Hid (∀j u,(R.map (Value.int .i64))[j]?=some u->((bxp w p0 p1 p2 q0 q1 q2 R.length PC ST (some ⟨kb,ko,none⟩) ops.length kc).alloc (.cells #[] 2)).cell? ((⟨b2,o2,none⟩:Addr).add j)=some u):=ztw (fun i hi=>by
  rw [zc (below_alloc1 _ _) _ _ (by rw [zsf];omega),zc (zsy ..) _ _ hb2];exact hcell2 i hi)
 have N3:=z5 (zuc R)
 have HE:=z5 (zjo (bxp w p0 p1 p2 q0 q1 q2 R.length PC ST (some ⟨kb,ko,none⟩) ops.length kc) 2)
 rw [zsf] at HE
 clear hcell2
 go_enter Tryz.func37,Tryz.ntmps37
 go_wp2_with (at_builtin;refine wpList_append_own _ rfl (.tmp 30) (.tmp 31) 63 rfl (w.heap.size+1+1) 2 i0 (iV 0) 1 8 Tryz.underlying63 hi hz0 hz1 hz2 rfl (by decide) _ _ _ rfl HE.out ⟨b2,o2,none⟩ _ rc _ rfl N1.out N2.out N3.out (by unfold maxLen;omega) (by omega) (by simp) ?_;intro v1 w1 hown1 hgrow1 hnil1;obtain⟨g1,cap1,rfl,hg1,hcp1,hmx1,hrow1⟩:=Zs hown1 (.inr (by omega)))
 have HB1:Hid (Below (bxp w p0 p1 p2 q0 q1 q2 R.length PC ST (some ⟨kb,ko,none⟩) ops.length kc).heap.size (bxp w p0 p1 p2 q0 q1 q2 R.length PC ST (some ⟨kb,ko,none⟩) ops.length kc) w1):=zt3 (by rw [zsf];exact hgrow1)
 have HO1:Hid (zg w1 g1 2 R.length (fun i=>iV (nth R i))):=by
  have h:=hrow1
  rw [Nat.zero_add] at h
  exact h.congr fun i hi=>by rw [List.nil_append];exact zad R i hi
 clear hgrow1 hown1 hrow1 hnil1 N2 HE
 generalize hW:bxp w p0 p1 p2 q0 q1 q2 R.length PC ST (some ⟨kb,ko,none⟩) ops.length kc=W0 at *
 have hW0z:w.heap.size+1+1=W0.heap.size:=by rw [<-hW,zsf]
 have HW:=z5 hW
 have HBW:Hid (Below w.heap.size w W0):=by show Below _ _ _;rw [<-hW];exact zsy ..
 clear N1 N3 hW
 have HG1:Hid (W0.heap.size<=g1):=by show W0.heap.size<=g1;omega
 have hz1:=HB1.out.size
 have HMW:=z5 (hMc.below (HBW.out.trans (HB1.out.mono (by omega))))
 refine (zt9 _ M _ HMW.out hM3 (fun i hi=>⟨(HROW.out i hi).1,(HROW.out i hi).2.1⟩)).mono ?_
 rintro e x2 ⟨mv,G,C,rfl,hown,hin,hb⟩
 have HB2:=z5 (HB1.out.trans (hb.mono hz1))
 have HO2:=z5 (HO1.out.below hb HO1.out.lt)
 obtain⟨gm,cm,hmr⟩:=MR.of_copy hown hin
 have hGa:∀i,i<M.length->G i≠g1:=fun i hi=>by have:=(hin.1 i hi).1;have:=HO1.out.lt;omega
 have HGA:=z5 hGa
 have HMR:=z5 (hmr.mono (base':=W0.heap.size) hz1)
 have HMX:=z5 (HMW.out.below hb)
 have hz2:=HB2.out.size
 obtain⟨am,rfl,hc1,hc2⟩:=hmr.shape
 clear hown hin hb hGa hmr HB1 HO1 HMW
 go_wp2_with fail
 refine (zwb _ M _ HMX.out (by omega) HLG.out).mono ?_
 rintro e x3 ⟨lv,rfl,hown,hb⟩
 obtain⟨la,lc,rfl,hl1,hl2⟩:=zS hown
 have HP0:Hid (zi7 W0 R.length g1 cap1 (.slice am M.length cm) M.length (fun i=>(VC M i).length) gm cm G C (.slice none 0 0) (.slice la (zrp M).length lc) (zrp M) (Ym R M) x3) :=
  zuq (HB2.out.trans (hb.mono hz2)) (HO2.out.below hb HO2.out.lt) HG1.out (by omega) hmx1 (HMR.out.below hb) HGA.out (ztv hown hz2)
 have HF0:Hid ((Ym R M).fine R.length):=zua (zu3 HRR.out) (zvx hMc)
 clear hown hb HB2 HO2 HMR HMX HGA hz1 hz2
 obtain⟨x0,x1,x2c,x3c,z0,z1,hbw⟩:=zsu HW.out HP0.out.bel
 have HBX:=z5 hbw
 clear hbw
 by_cases ht0:turns=0
 ·have HX:Hid (zq2 ⟨p0,p1,p2,q0,q1,q2,R.length⟩ ⟨PC,ST,ops⟩ (zrp M) turns R M=Ym R M):=by show zq2 _ _ _ _ _ _=_;unfold zq2;rw [if_pos (by omega)]
  have ht1:(turns:Int)=0:=by omega
  have htb:((turns:Int) == 0)=true:=by rw [ht1];rfl
  go_wp2_with fail
  refine bodyPost_ret (v:=.tuple #[.slice (some ⟨g1,0,none⟩) R.length cap1,.slice am M.length cm]) (by simp [results,Tryz.results37,go_sem]) rfl ⟨_,_,rfl,?_,?_,HBX.out⟩
  ·rw [HX.out];exact (zsv HP0.out HF0.out).1
  ·rw [HX.out];exact (zsv HP0.out HF0.out).2
 ·have ht1:(turns:Int)≠0:=by omega
  have htb:((turns:Int) == 0)=false:=by simpa using ht0
  have hlw:IntKind.i64.wrap (((turns:Int)+(ST:Int) - 1)*(PC:Int))=(LA:Int):=by rw [HLAST.out];exact IntKind.wrap_i64 _ ▸ (by omega)
  go_wp2_with fail
  clear x0 x1 x2c x3c z0 z1 HBX hlw
  have HT:Hid (zq2 ⟨p0,p1,p2,q0,q1,q2,R.length⟩ ⟨PC,ST,ops⟩ (zrp M) turns R M=xD ⟨p0,p1,p2,q0,q1,q2,R.length⟩ ⟨PC,ST,ops⟩ (zrp M) turns (Ym R M) (LA+7)):=by
   show zq2 _ _ _ _ _ _=_
   unfold zq2 Xe
   rw [if_neg (by omega)]
   dsimp only
   rw [HLAST.out]
   rfl
  have HRF:Hid (∀T,T<=LA+7->(xD ⟨p0,p1,p2,q0,q1,q2,R.length⟩ ⟨PC,ST,ops⟩ (zrp M) turns (Ym R M) T).fine R.length) :=
   zvb (t:=⟨p0,p1,p2,q0,q1,q2,R.length⟩) (K:=⟨PC,ST,ops⟩) r1 HF0.out (fun T hT k hk=>by
    have h1:=(zt0 (HONE.out k hk)).2.1
    refine⟨hnn _ (zwr hk),?_⟩
    have h2:(T:Int) / (PC:Int)<=T:=Int.ediv_le_self _ (by omega)
    have h3:0<=(T:Int) / (PC:Int):=Int.ediv_nonneg (by omega) (by omega)
    unfold I64;dsimp only;omega)
  have HRL:Hid (∀T,(xD ⟨p0,p1,p2,q0,q1,q2,R.length⟩ ⟨PC,ST,ops⟩ (zrp M) turns (Ym R M) T).due.length<=T*16):=fun T=>by
   have h:=zwv ⟨p0,p1,p2,q0,q1,q2,R.length⟩ ⟨PC,ST,ops⟩ (zrp M) turns (Ym R M) T
   have h2:T*ops.length<=T*16:=Nat.mul_le_mul_left _ k7
   have h3:(Ym R M).due.length=0:=rfl
   dsimp only at h
   omega
  have HRS:Hid (∀T:Nat,xD ⟨p0,p1,p2,q0,q1,q2,R.length⟩ ⟨PC,ST,ops⟩ (zrp M) turns (Ym R M) (T+1)=zf7 ⟨p0,p1,p2,q0,q1,q2,R.length⟩ ⟨PC,ST,ops⟩ (zrp M) turns T (xD ⟨p0,p1,p2,q0,q1,q2,R.length⟩ ⟨PC,ST,ops⟩ (zrp M) turns (Ym R M) T)):=fun T=>rfl
  have HR0:Hid (Ym R M=xD ⟨p0,p1,p2,q0,q1,q2,R.length⟩ ⟨PC,ST,ops⟩ (zrp M) turns (Ym R M) 0):=rfl
  generalize xD ⟨p0,p1,p2,q0,q1,q2,R.length⟩ ⟨PC,ST,ops⟩ (zrp M) turns (Ym R M)=run at *
  go_loopw [13,16,18] (fun mw dw nw wr=>∃T:Nat,T<=LA+7/\nw=iV T/\∃am cm gm G C da dc,mw=.slice am M.length cm/\dw=.slice da (run T).due.length dc/\zi7 W0 R.length g1 cap1 (.slice am M.length cm) M.length (fun i=>(VC M i).length) gm cm G C (.slice da (run T).due.length dc) (.slice la (zrp M).length lc) (zrp M) (run T) wr) (fun _ _ nw _=>LA+7 - (intOf nw).toNat)
  case atStart =>
   refine⟨0,by omega,rfl,am,cm,gm,G,C,none,0,rfl,?_,?_⟩
   ·rw [<-HR0.out];rfl
   ·rw [<-HR0.out];exact HP0.out
  case round =>
   clear HP0 HF0 HR0 hc1 hc2 HG1
   obtain⟨T,hT,rfl,am,cm,gm,G,C,da,dc,rfl,rfl,hP⟩:=hrel
   obtain⟨x0,x1,x2,x3,z0,z1,hbw⟩:=zsu HW.out hP.bel
   by_cases hlt:T<LA+7
   ·have hTi:(T:Int)<(LA:Int)+6+1:=by omega
    have HFN:=z5 (HRF.out T hT)
    have hln:=HRL.out T
    have HCY:=z5 (HRS.out T)
    have HFI:Hid (∀i,I64 (ZC T (run T).due (run T).f (run T).due.length i)):=ztq (HRF.out T hT).f (HRF.out T hT).due _ (Nat.le_refl _)
    generalize run T=s at *
    have HLN:=z5 hln
    have HP:=z5 hP
    have hsz:=hP.bel.size
    rename World=>wo
    clear hln hP x0 x1 x2 x3 hbw z0 z1
    go_wp2_with fail
    go_loopw [19,20] (fun ev iv wr=>∃k:Nat,k<=s.due.length/\iv=iV k/\∃ea ec,ev=.slice ea (ZS T s.due k).length ec/\zi7 W0 R.length g1 cap1 (.slice am M.length cm) M.length (fun i=>(VC M i).length) gm cm G C (.slice da s.due.length dc) (.slice la (zrp M).length lc) (zrp M) ⟨ZC T s.due s.f k,s.m,s.due⟩ wr /\
      wr.ownsRow wo.heap.size 136 3 (.slice ea (ZS T s.due k).length ec) (ZS T s.due k).length (Xd (ZS T s.due k))/\wo.heap.size<=wr.heap.size) (fun _ iv _=>s.due.length - (intOf iv).toNat)
    case atStart=>exact⟨0,Nat.zero_le _,rfl,none,0,rfl,HP.out,World.ownsRow_nil _ _ _ _,Nat.le_refl _⟩
    case round =>
     obtain⟨k,hk,rfl,ea,ec,rfl,hQ,hown,hzz⟩:=hrel
     by_cases hkl:k<s.due.length
     ·have hki:(k:Int)<(s.due.length:Int):=by omega
      obtain⟨dg,dc',hv,hdb,hd1,hd2,hdz,hdc⟩:=zin hQ.due (by show 0<s.due.length;omega)
      dsimp only at hv hd1 hdc
      injection hv with hv1 hv2 hv3
      subst hv1
      subst hv3
      unfold maxLen at hd2
      obtain⟨y0,y1,y2⟩:=hdc k hkl
      have hdu:=HFN.out.due _ (zhd hkl)
      have HQ:=z5 hQ
      have HO:=z5 hown
      have hre:=ztj T s.due k
      by_cases hat:(zrq s.due k).at_=(T:Int)
      ·as_aux_lemma =>
        obtain⟨rg,hrg⟩:=Int.eq_ofNat_of_zero_le hdu.1
        have HR:=z5 (zw5 hQ hown hat (by rw [hrg,Int.toNat_natCast];omega))
        have HE:=z5 (zve hat)
        have hrgl:rg<R.length:=by omega
        have hrgi:(rg:Int)<(R.length:Int):=by omega
        rw [hrg] at y1
        have hgf:=hQ.regs.frozen rg
        have hgc:=hQ.regs.cell hrgl
        have hgz:=hQ.regs.lt
        have HRG:=z5 hrg
        rw [hat] at y0
        generalize (zrq s.due k).v=dvv at *
        clear hQ hown hdu hat hdc hrg hdz
        go_wp2_with fail
        go_big_region
        go_wp2_with fail
        go_roundw
        case rel =>
         have h:=HR.out
         rw [HRG.out,Int.toNat_natCast] at h
         exact⟨k+1,by omega,by go_num,ea,ec,by rw [HE.out],h.1.below ((Below.refl _ _).drew),by rw [HE.out];exact zt h.2 ((Below.refl _ _).drew),by simp;omega⟩
        case measure=>simp [intOf];omega
      ·as_aux_lemma =>
        have hne:((zrq s.due k).at_ == (T:Int))=false:=by simpa using hat
        have HQ0:=z5 HP.out.due
        have hbd:=hsz
        clear hQ hown hdu hdc
        go_wp2_with (at_builtin;refine wpList_append_own _ rfl (.tmp 84) (.tmp 89) 134 rfl wo.heap.size 136 j0 (.agg #[iV 0,iV 0,iV 0]) 3 24 Tryz.underlying134 ji jz0 jz1 jz2 rfl (by decide) _ _ _ rfl (zt HO.out (below_alloc1 _ _)) ⟨wr.heap.size,0,none⟩ 1 1 (ZQ (zrq s.due k)) rfl rfl (by exact zei _ _ _ _ _) (by intro u hu;unfold ZQ at hu;simp at hu;rcases hu with rfl | rfl | rfl <;> rfl) (by unfold maxLen;have:=HLN.out;omega) (by have:=HLN.out;omega) (by simp;omega) ?_;intro v2 w2 hown2 hgrow2 hnil2;obtain⟨ea2,ec2,rfl,hl1,hl2⟩:=zS hown2;have HO2:=z5 hown2;have HG2:=z5 hgrow2;clear hown2 hgrow2)
        go_roundw
        case rel =>
         obtain⟨r1,r2⟩:=zvg HQ.out HO.out hat hbd (fun g hg=>yZ HQ0.out g hg) HG2.out HO2.out
         have hlen:(ZS T s.due k).length+1=(ZS T s.due (k+1)).length:=by rw [ztu hat,List.length_append];rfl
         exact⟨k+1,by omega,by go_num,ea2,ec2,by rw [hlen],r1,by rw [<-hlen] at r2 ⊢;exact r2,by have:=HG2.out.size;simp at this;omega⟩
        case measure=>simp [intOf];omega
     ·have e:k=s.due.length:=by omega
      subst e
      have HQ:Hid (zi7 W0 R.length g1 cap1 (.slice am M.length cm) M.length (fun i=>(VC M i).length) gm cm G C (.slice ea (ZS T s.due s.due.length).length ec) (.slice la (zrp M).length lc) (zrp M) ⟨ZC T s.due s.f s.due.length,s.m,ZS T s.due s.due.length⟩ wr):=hQ.newDue (ztv hown hsz)
      clear hQ hown
      by_cases hlast:LA<=T
      ·as_aux_lemma =>
        have hli:(LA:Int)<=(T:Int):=by omega
        have HCC:Hid (zf7 ⟨p0,p1,p2,q0,q1,q2,R.length⟩ ⟨PC,ST,ops⟩ (zrp M) turns T s=⟨ZC T s.due s.f s.due.length,s.m,ZS T s.due s.due.length⟩):=by
         show zf7 _ _ _ _ _ _=_
         unfold zf7 Xe
         dsimp only
         rw [HLAST.out,if_pos hli]
        go_wp2_with fail
        go_roundw
        case rel=>exact⟨T+1,by omega,by go_num,am,cm,gm,G,C,ea,ec,rfl,by rw [HCY.out,HCC.out],by rw [HCY.out,HCC.out];exact HQ.out⟩
        case measure=>simp [intOf];omega
      ·have hli:¬(LA:Int)<=(T:Int):=by omega
       rename World=>wi
       obtain⟨x0,x1,x2,x3,z0,z1,-⟩:=zsu HW.out HQ.out.bel
       have HPC:=z5 k2
       have HIR:Hid (YY wi (.slice am M.length cm) (zrz M s)):=HQ.out.mem.rows HFN.out.m
       obtain⟨q,hq,hqT,hqw⟩:=zwd (T:=T) (PC:=PC) (by omega)
       have HQD:=z5 hq
       clear hq
       go_wp2_with fail
       refine (zuk _ M s _ HIR.out hM3 (fun i hi=>⟨(HROW.out i hi).1,(HROW.out i hi).2.1⟩)).mono ?_
       rintro e xn ⟨nv,gn,cn,Gn,Cn,rfl,hmn,hbn⟩
       obtain⟨an,rfl,hn1,hn2⟩:=hmn.shape
       have HMN:=z5 hmn
       have HBB:Hid (∀i,i<M.length->G i<wi.heap.size):=fun i hi=>(HQ.out.mem.inn.1 i hi).2.2.2.lt
       have HBG:Hid (g1<wi.heap.size):=HQ.out.regs.lt
       have HQ2:=z5 (HQ.out.below hbn)
       have HBN:=z5 hbn
       have hnz:=hbn.size
       have HWZ:Hid (W0.heap.size<=wi.heap.size):=HQ.out.bel.size
       clear hmn hbn HIR x0 x1 x2 x3 z0 z1 hqw
       have HCC:Hid (zf7 ⟨p0,p1,p2,q0,q1,q2,R.length⟩ ⟨PC,ST,ops⟩ (zrp M) turns T s=⟨ZC T s.due s.f s.due.length,
         (VK ⟨p0,p1,p2,q0,q1,q2,R.length⟩ ⟨PC,ST,ops⟩ (zrp M) turns T (ZC T s.due s.f s.due.length) s.m ⟨s.m,ZS T s.due s.due.length⟩ ops.length).nx,
         (VK ⟨p0,p1,p2,q0,q1,q2,R.length⟩ ⟨PC,ST,ops⟩ (zrp M) turns T (ZC T s.due s.f s.due.length) s.m ⟨s.m,ZS T s.due s.due.length⟩ ops.length).du⟩):=by
        show zf7 _ _ _ _ _ _=_
        unfold zf7 Xe
        dsimp only
        rw [HLAST.out,if_neg (by omega)]
       have HQS:Hid (∀k,VK ⟨p0,p1,p2,q0,q1,q2,R.length⟩ ⟨PC,ST,ops⟩ (zrp M) turns T (ZC T s.due s.f s.due.length) s.m ⟨s.m,ZS T s.due s.due.length⟩ (k+1) =
         opK ⟨p0,p1,p2,q0,q1,q2,R.length⟩ (zrp M) PC turns T (ZC T s.due s.f s.due.length) s.m (VK ⟨p0,p1,p2,q0,q1,q2,R.length⟩ ⟨PC,ST,ops⟩ (zrp M) turns T (ZC T s.due s.f s.due.length) s.m ⟨s.m,ZS T s.due s.due.length⟩ k) (zq ops k)):=fun k=>rfl
       have HQ0:Hid ((⟨s.m,ZS T s.due s.due.length⟩:Nx)=VK ⟨p0,p1,p2,q0,q1,q2,R.length⟩ ⟨PC,ST,ops⟩ (zrp M) turns T (ZC T s.due s.f s.due.length) s.m ⟨s.m,ZS T s.due s.due.length⟩ 0):=rfl
       have HQL:Hid (∀k,(VK ⟨p0,p1,p2,q0,q1,q2,R.length⟩ ⟨PC,ST,ops⟩ (zrp M) turns T (ZC T s.due s.f s.due.length) s.m ⟨s.m,ZS T s.due s.due.length⟩ k).du.length<=s.due.length+k):=fun k=>by
        have h1:=zv1 ⟨p0,p1,p2,q0,q1,q2,R.length⟩ ⟨PC,ST,ops⟩ (zrp M) turns T (ZC T s.due s.f s.due.length) s.m ⟨s.m,ZS T s.due s.due.length⟩ k
        have h2:=ztj T s.due s.due.length
        dsimp only at h1
        omega
       generalize VK ⟨p0,p1,p2,q0,q1,q2,R.length⟩ ⟨PC,ST,ops⟩ (zrp M) turns T (ZC T s.due s.f s.due.length) s.m ⟨s.m,ZS T s.due s.due.length⟩=qs at *
       generalize ZC T s.due s.f s.due.length=F at *
       generalize ZS T s.due s.due.length=rs at *
       have HF:Hid (∀i,I64 (F i)):=HFI.out
       go_wp2_with fail
       go_loopw [16,23] (fun dw iv wr=>∃k:Nat,k<=ops.length/\iv=iV k/\∃da dc,dw=.slice da (qs k).du.length dc/\zi7 W0 R.length g1 cap1 (.slice am M.length cm) M.length (fun i=>(VC M i).length) gm cm G C (.slice da (qs k).du.length dc) (.slice la (zrp M).length lc) (zrp M) ⟨F,s.m,(qs k).du⟩ wr /\
         MR wr wi.heap.size (.slice an M.length cn) M.length (fun i=>(VC M i).length) (qs k).nx gn cn Gn Cn) (fun _ iv _=>ops.length - (intOf iv).toNat)
       case atStart =>
        refine⟨0,Nat.zero_le _,rfl,ea,ec,?_,?_,?_⟩
        ·rw [<-HQ0.out]
        ·rw [<-HQ0.out];exact HQ2.out
        ·rw [<-HQ0.out];exact HMN.out
       case round =>
        obtain⟨k,hk,rfl,da,dc,rfl,hI,hN⟩:=hrel
        obtain⟨⟨x3,x4,x5,x6⟩,y0,y1,y2,z0,z1,hbw⟩:=zsu HW.out hI.bel
        by_cases hkl:k<ops.length
        ·have hki:(k:Int)<(ops.length:Int):=by omega
         obtain⟨c0,c1,c2,c3,c4,c5,c6,c7,c8,c9⟩:=ten (HKC.out k hkl)
         rw [<-zc hbw _ _ hkb] at c0 c1 c2 c3 c4 c5 c6 c7 c8 c9
         have hkz:kb<wr.heap.size:=by have:=hbw.size;omega
         have hone:=HONE.out k hkl
         have HI:=z5 hI
         have HN:=z5 hN
         have HQK:=z5 (HQS.out k)
         have hql:=HQL.out k
         generalize qs k=qk at *
         generalize hx:zq ops k=x at *
         clear hx hbw hI hN
         obtain⟨sl,sg,o,d,a,b,ar,sp,pl,nn⟩:=x
         obtain⟨⟨a1,a2⟩,⟨b1,b2⟩,⟨d1,d2⟩,⟨e1,e2⟩,⟨f1,f2⟩,-,hpos⟩:=zt0 hone
         dsimp only at c0 c1 c2 c3 c4 c5 c6 c7 c8 c9 a1 a2 b1 b2 d1 d2 e1 e2 f1 f2 hpos
         obtain⟨sl,rfl⟩:=Int.eq_ofNat_of_zero_le a1
         obtain⟨sg,rfl⟩:=Int.eq_ofNat_of_zero_le b1
         obtain⟨d,rfl⟩:=Int.eq_ofNat_of_zero_le d1
         obtain⟨a,rfl⟩:=Int.eq_ofNat_of_zero_le e1
         obtain⟨b,rfl⟩:=Int.eq_ofNat_of_zero_le f1
         clear a1 b1 d1 e1 f1 hone
         obtain⟨m0,hm0⟩:∃m0:Nat,(T:Int) % (PC:Int)=(m0:Int):=⟨T % PC,rfl⟩
         have HM0:=z5 hm0
         have hPC0:(PC:Int)≠0:=by omega
         have htm:(T:Int).tmod (PC:Int)=(m0:Int):=by rw [Int.tmod_eq_emod_of_nonneg (by omega)];exact hm0
         by_cases hs:sl=m0
         ·have hsb:((sl:Int) != (m0:Int))=false:=by simp [hs]
          by_cases hneg:(q:Int) - (sg:Int)<0
          ·as_aux_lemma =>
            go_wp2_with fail
            go_big_quiet ((fail))
            go_wp2_with fail
            go_roundw
            case rel =>
             have h2:qs (k+1)=qk:=by rw [HQK.out,zu4 (zuj (.inr (.inl (by dsimp only;rw [HQD.out];exact hneg))))]
             exact⟨k+1,by omega,by go_num,da,dc,by rw [h2],by rw [h2];exact HI.out.below ((below_alloc1 _ _).trans (below_draws _ _ _)),by rw [h2];exact HN.out.below ((below_alloc1 _ _).trans (below_draws _ _ _))⟩
            case measure=>simp [intOf];omega
          ·by_cases htu:(turns:Int)<=(q:Int) - (sg:Int)
           ·as_aux_lemma =>
             have hnb:decide ((q:Int) - (sg:Int)<0)=false:=decide_eq_false hneg
             have htub:decide ((turns:Int)<=(q:Int) - (sg:Int))=true:=decide_eq_true htu
             have HTU:=z5 htu
             clear htu hneg
             go_wp2_with fail
             go_big_quiet ((fail))
             go_wp2_with fail
             go_roundw
             case rel =>
              have h2:qs (k+1)=qk:=by rw [HQK.out,zu4 (zuj (.inr (.inr (by dsimp only;rw [HQD.out];exact HTU.out))))]
              exact⟨k+1,by omega,by go_num,da,dc,by rw [h2],by rw [h2];exact HI.out.below ((below_alloc1 _ _).trans (below_draws _ _ _)),by rw [h2];exact HN.out.below ((below_alloc1 _ _).trans (below_draws _ _ _))⟩
             case measure=>simp [intOf];omega
           ·obtain⟨tn,htn⟩:=Int.eq_ofNat_of_zero_le (show 0<=(q:Int) - (sg:Int) by omega)
            have htl:(tn:Int)<(turns:Int):=by omega
            have htb2:decide ((turns:Int)<=(tn:Int))=false:=decide_eq_false (by omega)
            have hnb:decide ((tn:Int)<0)=false:=decide_eq_false (by omega)
            have HAC:Hid (U3 PC turns T ⟨sl,sg,o,d,a,b,ar,sp,pl,nn⟩=true):=zwn (by dsimp only;rw [HM0.out];omega) (by dsimp only;rw [HQD.out];omega) (by dsimp only;rw [HQD.out];omega)
            obtain⟨ia,hia,hiaR,hiat⟩:=zu5 (a:=a) (q:=q) (R:=R.length) (by omega)
            obtain⟨ib,hib,hibR,hibt⟩:=zu5 (a:=b) (q:=q) (R:=R.length) (by omega)
            obtain⟨id,hid,hidR,hidt⟩:=zu5 (a:=d) (q:=q) (R:=R.length) (by omega)
            obtain⟨c,wt,hc,hc3,hcw,hw1,hw2,hwv⟩:=zvv (op:=o) HMT.out x3 x4 x5
            have HCL:Hid (∀W,Calls Tryz.prog 45 #[iV o] W fun e w'=>e=.returned (iV (c:Int))/\w'=W):=fun W=>hc ▸ Zn o W
            have hra:=HI.out.regs.cell hiaR
            have hrb:=HI.out.regs.cell hibR
            have hgz:=HI.out.regs.lt
            have hiai:(ia:Int)<(R.length:Int):=by omega
            have hibi:(ib:Int)<(R.length:Int):=by omega
            have hR0:(R.length:Int)≠0:=by omega
            dsimp only at hra hrb
            have HIA:=z5 hia
            have HIB:=z5 hib
            have HID:=z5 hid
            have HC:=z5 hc
            have HWV:=z5 hwv
            clear hneg htu hc hwv x3 x4 x5
            have HTN:=z5 htn
            have hT9:T<=300000:=by omega
            have hq9:q<=300000:=by omega
            have hd9:d<=300000:=by omega
            have hRn:¬R=[]:=fun e=>by rw [e] at r1;exact absurd r1 (by decide)
            have hwd:IntKind.i64.wrap ((d:Int)+(q:Int))=(d:Int)+(q:Int):=zvz hd9 hq9
            have hwt2:IntKind.i64.wrap ((T:Int)+wt)=(T:Int)+wt:=zv4 hT9 hw1 hw2
            go_wp2_with fail
            go_big_quiet ((fail))
            rcases hpos with rfl | rfl | ⟨rfl,ar1,ar2⟩ | ⟨rfl,ar1,ar2⟩ | ⟨op1,op2⟩
            ·as_aux_lemma =>
              have hbt:Below wr.heap.size wr ((wr.alloc (.cells #[iV m0,iV sg,iV 1,iV d,iV a,iV b,iV ar,iV sp,iV pl,iV nn] 37)).drewN (nq+1)):=(below_alloc1 _ _).trans (below_draws _ _ _)
              have hbt0:Below wr.heap.size wr ((wr.alloc (.cells #[iV m0,iV sg,iV 1,iV d,iV a,iV b,iV ar,iV sp,iV pl,iV nn] 37)).drewN nq):=(below_alloc1 _ _).trans (below_draws _ _ _)
              have HIt:=z5 (HI.out.below hbt)
              have HNt:=z5 (HN.out.below hbt)
              have HSt:Hid (((wr.alloc (.cells #[iV m0,iV sg,iV 1,iV d,iV a,iV b,iV ar,iV sp,iV pl,iV nn] 37)).drewN nq).cell? ⟨w.heap.size,3+c,none⟩=some (iV wt)/\((wr.alloc (.cells #[iV m0,iV sg,iV 1,iV d,iV a,iV b,iV ar,iV sp,iV pl,iV nn] 37)).drewN nq).cell? ⟨wr.heap.size,3,none⟩=some (iV d)/\((wr.alloc (.cells #[iV m0,iV sg,iV 1,iV d,iV a,iV b,iV ar,iV sp,iV pl,iV nn] 37)).drewN nq).cell? ⟨w.heap.size,6,none⟩=some (iV R.length)):=⟨by rw [zc hbt0 _ _ z0];exact hcw,by go_simp,by rw [zc hbt0 _ _ z0];exact x6⟩
              have HSa:Hid (∀Y,(((wr.alloc (.cells #[iV m0,iV sg,iV 1,iV d,iV a,iV b,iV ar,iV sp,iV pl,iV nn] 37)).drewN (nq+1)).alloc Y).cell? ⟨w.heap.size,3+c,none⟩=some (iV wt)/\(((wr.alloc (.cells #[iV m0,iV sg,iV 1,iV d,iV a,iV b,iV ar,iV sp,iV pl,iV nn] 37)).drewN (nq+1)).alloc Y).cell? ⟨wr.heap.size,3,none⟩=some (iV d)/\(((wr.alloc (.cells #[iV m0,iV sg,iV 1,iV d,iV a,iV b,iV ar,iV sp,iV pl,iV nn] 37)).drewN (nq+1)).alloc Y).cell? ⟨w.heap.size,6,none⟩=some (iV R.length)):=fun Y=>by
               have h:((wr.alloc (.cells #[iV m0,iV sg,iV 1,iV d,iV a,iV b,iV ar,iV sp,iV pl,iV nn] 37)).drewN (nq+1)).cell? ⟨w.heap.size,3+c,none⟩=some (iV wt)/\((wr.alloc (.cells #[iV m0,iV sg,iV 1,iV d,iV a,iV b,iV ar,iV sp,iV pl,iV nn] 37)).drewN (nq+1)).cell? ⟨wr.heap.size,3,none⟩=some (iV d)/\((wr.alloc (.cells #[iV m0,iV sg,iV 1,iV d,iV a,iV b,iV ar,iV sp,iV pl,iV nn] 37)).drewN (nq+1)).cell? ⟨w.heap.size,6,none⟩=some (iV R.length):=⟨by rw [zc hbt _ _ z0];exact hcw,by go_simp,by rw [zc hbt _ _ z0];exact x6⟩
               have hb:=below_alloc1 ((wr.alloc (.cells #[iV m0,iV sg,iV 1,iV d,iV a,iV b,iV ar,iV sp,iV pl,iV nn] 37)).drewN (nq+1)) Y
               have hz:wr.heap.size<((wr.alloc (.cells #[iV m0,iV sg,iV 1,iV d,iV a,iV b,iV ar,iV sp,iV pl,iV nn] 37)).drewN (nq+1)).heap.size:=by simp
               exact⟨by rw [zc hb _ _ (by omega)];exact h.1,by rw [zc hb _ _ hz];exact h.2.1,by rw [zc hb _ _ (by omega)];exact h.2.2⟩
              clear hbt hbt0
              go_wp2_with (go_at_call 45;refine (HCL.out _).mono ?_;rintro e x9 ⟨rfl,rfl⟩)
              refine wp_region_noPanic ?_
              refine ze 99 (fun w'=>w'.cell? ⟨w.heap.size,3+c,none⟩=some (iV wt)/\w'.cell? ⟨wr.heap.size,3,none⟩=some (iV d)/\w'.cell? ⟨w.heap.size,6,none⟩=some (iV R.length)) (by kernel_rfl) HSt.out (fun hHeld=>?_)
              refine utk (i:=0) rfl hHeld ?_
              refine utk (i:=1) rfl hHeld ?_
              refine utk (i:=2) rfl hHeld ?_
              refine utk (i:=3) rfl hHeld ?_
              refine utk (i:=4) rfl hHeld ?_
              refine utk (i:=5) rfl hHeld ?_
              refine utk (i:=6) rfl hHeld ?_
              refine utk (i:=7) rfl hHeld ?_
              refine utk (i:=8) rfl hHeld ?_
              refine utk (i:=9) rfl hHeld ?_
              refine utk (i:=10) rfl hHeld ?_
              refine utk (i:=11) rfl hHeld ?_
              refine utk (i:=12) rfl hHeld ?_
              refine utk (i:=13) rfl hHeld ?_
              refine utk (i:=14) rfl hHeld ?_
              refine utk (i:=15) rfl hHeld ?_
              refine z9 (i:=16) rfl (by kernel_rfl) (fun K hK=>?_)
              go_simp
              refine nxt hK.out (.inr (HSa.out _)) ?_
              clear hK K
              have HOW:=z5 (zt HIt.out.due (below_alloc1 ((wr.alloc (.cells #[iV m0,iV sg,iV 1,iV d,iV a,iV b,iV ar,iV sp,iV pl,iV nn] 37)).drewN (nq+1)) (.cells #[iV ((T:Int)+wt),iV (id:Int),iV nn] 136)))
              refine z9 (i:=17) rfl (by kernel_rfl) (fun K hK=>?_)
              refine step_append_lies _ (by rfl) (.tmp 212) (.tmp 228) 134 (by rfl) W0.heap.size 136 j0 (.agg #[iV 0,iV 0,iV 0]) 3 24 Tryz.underlying134 ji jz0 jz1 jz2 rfl (by decide) _ qk.du.length _ (by rfl) HOW.out ⟨wr.heap.size+1,0,none⟩ 1 1 (ZQ ⟨(T:Int)+wt,id,nn⟩) (by rfl) rfl (by have h:=zei ((wr.alloc (.cells #[iV m0,iV sg,iV 1,iV d,iV a,iV b,iV ar,iV sp,iV pl,iV nn] 37)).drewN (nq+1)) (iV ((T:Int)+wt)) (iV (id:Int)) (iV nn) 136;rw [show ((wr.alloc (.cells #[iV m0,iV sg,iV 1,iV d,iV a,iV b,iV ar,iV sp,iV pl,iV nn] 37)).drewN (nq+1)).heap.size=wr.heap.size+1 from by simp] at h;exact h) (by intro u hu;unfold ZQ at hu;simp at hu;rcases hu with rfl | rfl | rfl <;> rfl) (by decide) (by unfold maxLen;have:=HLN.out;omega) (by have:=HLN.out;omega) (by have:=HIt.out.bel.size;simp at this ⊢;omega) _ rfl ?_
              intro g3 cap3 w3 hown3 hgrow3 hat3 hlt3
              have hPP:=(HIt.out.below (below_alloc1 ((wr.alloc (.cells #[iV m0,iV sg,iV 1,iV d,iV a,iV b,iV ar,iV sp,iV pl,iV nn] 37)).drewN (nq+1)) (.cells #[iV ((T:Int)+wt),iV (id:Int),iV nn] 136))).push (d:=⟨(T:Int)+wt,id,nn⟩) (by exact hgrow3) hown3
              have hNN:=zsg (HIt.out.below (below_alloc1 ((wr.alloc (.cells #[iV m0,iV sg,iV 1,iV d,iV a,iV b,iV ar,iV sp,iV pl,iV nn] 37)).drewN (nq+1)) (.cells #[iV ((T:Int)+wt),iV (id:Int),iV nn] 136))) (by exact hgrow3) (HNt.out.below (below_alloc1 _ _))
              have hS3:w3.cell? ⟨w.heap.size,3+c,none⟩=some (iV wt)/\w3.cell? ⟨wr.heap.size,3,none⟩=some (iV d)/\w3.cell? ⟨w.heap.size,6,none⟩=some (iV R.length):=by
               refine⟨by rw [zc hPP.bel _ _ (by omega),<-zc HI.out.bel _ _ (by omega)];exact hcw,?_,by rw [zc hPP.bel _ _ (by omega),<-zc HI.out.bel _ _ (by omega)];exact x6⟩
               rw [hgrow3.cell_far ⟨wr.heap.size,3,none⟩ (by simp;omega) (fun e=>by have h9:wr.heap.size<wr.heap.size:=yZ HI.out.due _ e.symm;omega)]
               exact (HSa.out _).2.1
              have HP3:=z5 hPP
              have HN3:=z5 hNN
              clear hPP hNN hown3 hgrow3 hat3 hHeld
              refine nxt hK.out (.inr hS3) ?_
              clear hK K
              have hHeld:=hS3
              refine utk (i:=18) rfl hHeld ?_
              refine zf (by kernel_rfl) ?_ _
              refine NoPanic.normal ?_
              clear hHeld hS3
              go_wp2_with fail
              go_roundw
              case rel =>
               have h2:qs (k+1)=⟨qk.nx,qk.du++[⟨(T:Int)+wt,id,nn⟩]⟩:=by
                rw [HQK.out,zt6 HAC.out (by show (1:Int)≠4;decide)]
                dsimp only
                rw [<-HWV.out,HQD.out,HID.out,zxg rfl]
               have hl:(qs (k+1)).du.length=qk.du.length+1:=by rw [h2];simp
               exact⟨k+1,by omega,by go_num,some ⟨g3,0,none⟩,cap3,by rw [hl],by rw [hl,h2];exact HP3.out,by rw [h2];exact HN3.out⟩
              case measure=>simp [intOf];omega
            ·as_aux_lemma =>
              have hbt:Below wr.heap.size wr ((wr.alloc (.cells #[iV m0,iV sg,iV 2,iV d,iV a,iV b,iV ar,iV sp,iV pl,iV nn] 37)).drewN (nq+1)):=(below_alloc1 _ _).trans (below_draws _ _ _)
              have hbt0:Below wr.heap.size wr ((wr.alloc (.cells #[iV m0,iV sg,iV 2,iV d,iV a,iV b,iV ar,iV sp,iV pl,iV nn] 37)).drewN nq):=(below_alloc1 _ _).trans (below_draws _ _ _)
              have HIt:=z5 (HI.out.below hbt)
              have HNt:=z5 (HN.out.below hbt)
              have HSt:Hid (((wr.alloc (.cells #[iV m0,iV sg,iV 2,iV d,iV a,iV b,iV ar,iV sp,iV pl,iV nn] 37)).drewN nq).cell? ⟨w.heap.size,3+c,none⟩=some (iV wt)/\((wr.alloc (.cells #[iV m0,iV sg,iV 2,iV d,iV a,iV b,iV ar,iV sp,iV pl,iV nn] 37)).drewN nq).cell? ⟨wr.heap.size,3,none⟩=some (iV d)/\((wr.alloc (.cells #[iV m0,iV sg,iV 2,iV d,iV a,iV b,iV ar,iV sp,iV pl,iV nn] 37)).drewN nq).cell? ⟨w.heap.size,6,none⟩=some (iV R.length)):=⟨by rw [zc hbt0 _ _ z0];exact hcw,by go_simp,by rw [zc hbt0 _ _ z0];exact x6⟩
              have HSa:Hid (∀Y,(((wr.alloc (.cells #[iV m0,iV sg,iV 2,iV d,iV a,iV b,iV ar,iV sp,iV pl,iV nn] 37)).drewN (nq+1)).alloc Y).cell? ⟨w.heap.size,3+c,none⟩=some (iV wt)/\(((wr.alloc (.cells #[iV m0,iV sg,iV 2,iV d,iV a,iV b,iV ar,iV sp,iV pl,iV nn] 37)).drewN (nq+1)).alloc Y).cell? ⟨wr.heap.size,3,none⟩=some (iV d)/\(((wr.alloc (.cells #[iV m0,iV sg,iV 2,iV d,iV a,iV b,iV ar,iV sp,iV pl,iV nn] 37)).drewN (nq+1)).alloc Y).cell? ⟨w.heap.size,6,none⟩=some (iV R.length)):=fun Y=>by
               have h:((wr.alloc (.cells #[iV m0,iV sg,iV 2,iV d,iV a,iV b,iV ar,iV sp,iV pl,iV nn] 37)).drewN (nq+1)).cell? ⟨w.heap.size,3+c,none⟩=some (iV wt)/\((wr.alloc (.cells #[iV m0,iV sg,iV 2,iV d,iV a,iV b,iV ar,iV sp,iV pl,iV nn] 37)).drewN (nq+1)).cell? ⟨wr.heap.size,3,none⟩=some (iV d)/\((wr.alloc (.cells #[iV m0,iV sg,iV 2,iV d,iV a,iV b,iV ar,iV sp,iV pl,iV nn] 37)).drewN (nq+1)).cell? ⟨w.heap.size,6,none⟩=some (iV R.length):=⟨by rw [zc hbt _ _ z0];exact hcw,by go_simp,by rw [zc hbt _ _ z0];exact x6⟩
               have hb:=below_alloc1 ((wr.alloc (.cells #[iV m0,iV sg,iV 2,iV d,iV a,iV b,iV ar,iV sp,iV pl,iV nn] 37)).drewN (nq+1)) Y
               have hz:wr.heap.size<((wr.alloc (.cells #[iV m0,iV sg,iV 2,iV d,iV a,iV b,iV ar,iV sp,iV pl,iV nn] 37)).drewN (nq+1)).heap.size:=by simp
               exact⟨by rw [zc hb _ _ (by omega)];exact h.1,by rw [zc hb _ _ hz];exact h.2.1,by rw [zc hb _ _ (by omega)];exact h.2.2⟩
              clear hbt hbt0
              go_wp2_with (go_at_call 45;refine (HCL.out _).mono ?_;rintro e x9 ⟨rfl,rfl⟩)
              refine wp_region_noPanic ?_
              refine ze 99 (fun w'=>w'.cell? ⟨w.heap.size,3+c,none⟩=some (iV wt)/\w'.cell? ⟨wr.heap.size,3,none⟩=some (iV d)/\w'.cell? ⟨w.heap.size,6,none⟩=some (iV R.length)) (by kernel_rfl) HSt.out (fun hHeld=>?_)
              refine utk (i:=0) rfl hHeld ?_
              refine utk (i:=1) rfl hHeld ?_
              refine utk (i:=2) rfl hHeld ?_
              refine utk (i:=3) rfl hHeld ?_
              refine utk (i:=4) rfl hHeld ?_
              refine utk (i:=5) rfl hHeld ?_
              refine utk (i:=6) rfl hHeld ?_
              refine utk (i:=7) rfl hHeld ?_
              refine utk (i:=8) rfl hHeld ?_
              refine utk (i:=9) rfl hHeld ?_
              refine utk (i:=10) rfl hHeld ?_
              refine utk (i:=11) rfl hHeld ?_
              refine utk (i:=12) rfl hHeld ?_
              refine utk (i:=13) rfl hHeld ?_
              refine utk (i:=14) rfl hHeld ?_
              refine utk (i:=15) rfl hHeld ?_
              refine z9 (i:=16) rfl (by kernel_rfl) (fun K hK=>?_)
              go_simp
              refine nxt hK.out (.inr (HSa.out _)) ?_
              clear hK K
              have HOW:=z5 (zt HIt.out.due (below_alloc1 ((wr.alloc (.cells #[iV m0,iV sg,iV 2,iV d,iV a,iV b,iV ar,iV sp,iV pl,iV nn] 37)).drewN (nq+1)) (.cells #[iV ((T:Int)+wt),iV (id:Int),iV (tn:Int)] 136)))
              refine z9 (i:=17) rfl (by kernel_rfl) (fun K hK=>?_)
              refine step_append_lies _ (by rfl) (.tmp 212) (.tmp 228) 134 (by rfl) W0.heap.size 136 j0 (.agg #[iV 0,iV 0,iV 0]) 3 24 Tryz.underlying134 ji jz0 jz1 jz2 rfl (by decide) _ qk.du.length _ (by rfl) HOW.out ⟨wr.heap.size+1,0,none⟩ 1 1 (ZQ ⟨(T:Int)+wt,id,(tn:Int)⟩) (by rfl) rfl (by have h:=zei ((wr.alloc (.cells #[iV m0,iV sg,iV 2,iV d,iV a,iV b,iV ar,iV sp,iV pl,iV nn] 37)).drewN (nq+1)) (iV ((T:Int)+wt)) (iV (id:Int)) (iV (tn:Int)) 136;rw [show ((wr.alloc (.cells #[iV m0,iV sg,iV 2,iV d,iV a,iV b,iV ar,iV sp,iV pl,iV nn] 37)).drewN (nq+1)).heap.size=wr.heap.size+1 from by simp] at h;exact h) (by intro u hu;unfold ZQ at hu;simp at hu;rcases hu with rfl | rfl | rfl <;> rfl) (by decide) (by unfold maxLen;have:=HLN.out;omega) (by have:=HLN.out;omega) (by have:=HIt.out.bel.size;simp at this ⊢;omega) _ rfl ?_
              intro g3 cap3 w3 hown3 hgrow3 hat3 hlt3
              have hPP:=(HIt.out.below (below_alloc1 ((wr.alloc (.cells #[iV m0,iV sg,iV 2,iV d,iV a,iV b,iV ar,iV sp,iV pl,iV nn] 37)).drewN (nq+1)) (.cells #[iV ((T:Int)+wt),iV (id:Int),iV (tn:Int)] 136))).push (d:=⟨(T:Int)+wt,id,(tn:Int)⟩) (by exact hgrow3) hown3
              have hNN:=zsg (HIt.out.below (below_alloc1 ((wr.alloc (.cells #[iV m0,iV sg,iV 2,iV d,iV a,iV b,iV ar,iV sp,iV pl,iV nn] 37)).drewN (nq+1)) (.cells #[iV ((T:Int)+wt),iV (id:Int),iV (tn:Int)] 136))) (by exact hgrow3) (HNt.out.below (below_alloc1 _ _))
              have hS3:w3.cell? ⟨w.heap.size,3+c,none⟩=some (iV wt)/\w3.cell? ⟨wr.heap.size,3,none⟩=some (iV d)/\w3.cell? ⟨w.heap.size,6,none⟩=some (iV R.length):=by
               refine⟨by rw [zc hPP.bel _ _ (by omega),<-zc HI.out.bel _ _ (by omega)];exact hcw,?_,by rw [zc hPP.bel _ _ (by omega),<-zc HI.out.bel _ _ (by omega)];exact x6⟩
               rw [hgrow3.cell_far ⟨wr.heap.size,3,none⟩ (by simp;omega) (fun e=>by have h9:wr.heap.size<wr.heap.size:=yZ HI.out.due _ e.symm;omega)]
               exact (HSa.out _).2.1
              have HP3:=z5 hPP
              have HN3:=z5 hNN
              clear hPP hNN hown3 hgrow3 hat3 hHeld
              refine nxt hK.out (.inr hS3) ?_
              clear hK K
              have hHeld:=hS3
              refine utk (i:=18) rfl hHeld ?_
              refine zf (by kernel_rfl) ?_ _
              refine NoPanic.normal ?_
              clear hHeld hS3
              go_wp2_with fail
              go_roundw
              case rel =>
               have h2:qs (k+1)=⟨qk.nx,qk.du++[⟨(T:Int)+wt,id,(tn:Int)⟩]⟩:=by
                rw [HQK.out,zt6 HAC.out (by show (2:Int)≠4;decide)]
                dsimp only
                rw [<-HWV.out,HQD.out,HID.out,zxh rfl,HQD.out,HTN.out]
               have hl:(qs (k+1)).du.length=qk.du.length+1:=by rw [h2];simp
               exact⟨k+1,by omega,by go_num,some ⟨g3,0,none⟩,cap3,by rw [hl],by rw [hl,h2];exact HP3.out,by rw [h2];exact HN3.out⟩
              case measure=>simp [intOf];omega
            ·as_aux_lemma =>
              obtain⟨i,rfl⟩:=Int.eq_ofNat_of_zero_le ar1
              have hiL:i<(zrp M).length:=by omega
              have hiM:i<M.length:=by rw [zry] at hiL;exact hiL
              obtain⟨gl,lc',hlv,hlb,hl3,hl4,hlr⟩:=Zs HI.out.lgs (.inr (by omega))
              injection hlv with hlv1 hlv2 hlv3
              subst hlv1
              subst hlv3
              have hlk:wr.cell? ⟨gl,i,none⟩=some (iV (nth (zrp M) i)):=by rw [hlr.cell hiL,zad _ _ hiL]
              have hlz:=hlr.lt
              have hjc:=ztm (zrp M) PC T ⟨sl,sg,3,d,a,b,(i:Int),sp,pl,nn⟩
              have hjl:=zuh (zrp M) PC T ⟨sl,sg,3,d,a,b,(i:Int),sp,pl,nn⟩
              dsimp only at hjc hjl
              rw [HQD.out,HTN.out,Int.toNat_natCast] at hjc
              rw [Int.toNat_natCast,<-(HROW.out i hiM).2.2] at hjl
              generalize hj:VH (zrp M) PC T ⟨sl,sg,3,d,a,b,(i:Int),sp,pl,nn⟩=j at *
              have HJ:=z5 hj
              have i1:(i:Int)<((zrp M).length:Int):=by omega
              have i2:(i:Int)<(M.length:Int):=by omega
              have i3:(j:Int)<((VC M i).length:Int):=by omega
              have HIX:Hid (∀W,Calls Tryz.prog 83 #[iV sp,iV pl,iV (tn:Int),iV (nth (zrp M) i)] W fun e w'=>e=.returned (iV (j:Int))/\w'=W):=fun W=>hjc ▸ zs4 sp pl tn (nth (zrp M) i) W
              rcases HI.out.mem.out with hn0 | ⟨hmv,hmr,hmb⟩
              ·omega
              injection hmv with hmv1 hmv2 hmv3
              subst hmv1
              have hmo:wr.cell? ⟨gm,i,none⟩=some (.slice (some ⟨G i,0,none⟩) (VC M i).length (C i)):=hmr.cell hiM
              have hmz:=hmr.lt
              obtain⟨hin1,hin2,hin3,hin4⟩:=HI.out.mem.inn.1 i hiM
              have hGz:=hin4.lt
              have hmj:=hin4.cell hjl
              dsimp only at hmj
              clear hj hlr hmr hin4 hin2 hin3 hmv2 hlv2 hl3 hl4
              obtain⟨n1,rfl⟩:∃n1,n1=nq:=⟨nq,rfl⟩
              go_wp2_with fail
              go_big_quiet ((go_at_call 83;exact (zs4 _ _ _ _ _).mono (fun e w' h=>⟨h.1,⟨_,h.2⟩⟩)))
              have hbt:Below wr.heap.size wr ((wr.alloc (.cells #[iV m0,iV sg,iV 3,iV d,iV a,iV b,iV i,iV sp,iV pl,iV nn] 37)).drewN (n1+nq+1)):=(below_alloc1 _ _).trans (below_draws _ _ _)
              have hbt0:Below wr.heap.size wr ((wr.alloc (.cells #[iV m0,iV sg,iV 3,iV d,iV a,iV b,iV i,iV sp,iV pl,iV nn] 37)).drewN (n1+nq)):=(below_alloc1 _ _).trans (below_draws _ _ _)
              have HIt:=z5 (HI.out.below hbt)
              have HNt:=z5 (HN.out.below hbt)
              have HSt:Hid (((wr.alloc (.cells #[iV m0,iV sg,iV 3,iV d,iV a,iV b,iV i,iV sp,iV pl,iV nn] 37)).drewN (n1+nq)).cell? ⟨w.heap.size,3+c,none⟩=some (iV wt)/\((wr.alloc (.cells #[iV m0,iV sg,iV 3,iV d,iV a,iV b,iV i,iV sp,iV pl,iV nn] 37)).drewN (n1+nq)).cell? ⟨wr.heap.size,3,none⟩=some (iV d)/\((wr.alloc (.cells #[iV m0,iV sg,iV 3,iV d,iV a,iV b,iV i,iV sp,iV pl,iV nn] 37)).drewN (n1+nq)).cell? ⟨w.heap.size,6,none⟩=some (iV R.length)):=⟨by rw [zc hbt0 _ _ z0];exact hcw,by go_simp,by rw [zc hbt0 _ _ z0];exact x6⟩
              have HSa:Hid (∀Y,(((wr.alloc (.cells #[iV m0,iV sg,iV 3,iV d,iV a,iV b,iV i,iV sp,iV pl,iV nn] 37)).drewN (n1+nq+1)).alloc Y).cell? ⟨w.heap.size,3+c,none⟩=some (iV wt)/\(((wr.alloc (.cells #[iV m0,iV sg,iV 3,iV d,iV a,iV b,iV i,iV sp,iV pl,iV nn] 37)).drewN (n1+nq+1)).alloc Y).cell? ⟨wr.heap.size,3,none⟩=some (iV d)/\(((wr.alloc (.cells #[iV m0,iV sg,iV 3,iV d,iV a,iV b,iV i,iV sp,iV pl,iV nn] 37)).drewN (n1+nq+1)).alloc Y).cell? ⟨w.heap.size,6,none⟩=some (iV R.length)):=fun Y=>by
               have h:((wr.alloc (.cells #[iV m0,iV sg,iV 3,iV d,iV a,iV b,iV i,iV sp,iV pl,iV nn] 37)).drewN (n1+nq+1)).cell? ⟨w.heap.size,3+c,none⟩=some (iV wt)/\((wr.alloc (.cells #[iV m0,iV sg,iV 3,iV d,iV a,iV b,iV i,iV sp,iV pl,iV nn] 37)).drewN (n1+nq+1)).cell? ⟨wr.heap.size,3,none⟩=some (iV d)/\((wr.alloc (.cells #[iV m0,iV sg,iV 3,iV d,iV a,iV b,iV i,iV sp,iV pl,iV nn] 37)).drewN (n1+nq+1)).cell? ⟨w.heap.size,6,none⟩=some (iV R.length):=⟨by rw [zc hbt _ _ z0];exact hcw,by go_simp,by rw [zc hbt _ _ z0];exact x6⟩
               have hb:=below_alloc1 ((wr.alloc (.cells #[iV m0,iV sg,iV 3,iV d,iV a,iV b,iV i,iV sp,iV pl,iV nn] 37)).drewN (n1+nq+1)) Y
               have hz:wr.heap.size<((wr.alloc (.cells #[iV m0,iV sg,iV 3,iV d,iV a,iV b,iV i,iV sp,iV pl,iV nn] 37)).drewN (n1+nq+1)).heap.size:=by simp
               exact⟨by rw [zc hb _ _ (by omega)];exact h.1,by rw [zc hb _ _ hz];exact h.2.1,by rw [zc hb _ _ (by omega)];exact h.2.2⟩
              clear hbt hbt0
              go_wp2_with (go_at_call 45;refine (HCL.out _).mono ?_;rintro e x9 ⟨rfl,rfl⟩)
              refine wp_region_noPanic ?_
              refine ze 99 (fun w'=>w'.cell? ⟨w.heap.size,3+c,none⟩=some (iV wt)/\w'.cell? ⟨wr.heap.size,3,none⟩=some (iV d)/\w'.cell? ⟨w.heap.size,6,none⟩=some (iV R.length)) (by kernel_rfl) HSt.out (fun hHeld=>?_)
              refine utk (i:=0) rfl hHeld ?_
              refine utk (i:=1) rfl hHeld ?_
              refine utk (i:=2) rfl hHeld ?_
              refine utk (i:=3) rfl hHeld ?_
              refine utk (i:=4) rfl hHeld ?_
              refine utk (i:=5) rfl hHeld ?_
              refine utk (i:=6) rfl hHeld ?_
              refine utk (i:=7) rfl hHeld ?_
              refine utk (i:=8) rfl hHeld ?_
              refine utk (i:=9) rfl hHeld ?_
              refine utk (i:=10) rfl hHeld ?_
              refine utk (i:=11) rfl hHeld ?_
              refine utk (i:=12) rfl hHeld ?_
              refine utk (i:=13) rfl hHeld ?_
              refine utk (i:=14) rfl hHeld ?_
              refine utk (i:=15) rfl hHeld ?_
              refine z9 (i:=16) rfl (by kernel_rfl) (fun K hK=>?_)
              go_simp
              refine nxt hK.out (.inr (HSa.out _)) ?_
              clear hK K
              have HOW:=z5 (zt HIt.out.due (below_alloc1 ((wr.alloc (.cells #[iV m0,iV sg,iV 3,iV d,iV a,iV b,iV i,iV sp,iV pl,iV nn] 37)).drewN (n1+nq+1)) (.cells #[iV ((T:Int)+wt),iV (id:Int),iV (s.m i j)] 136)))
              refine z9 (i:=17) rfl (by kernel_rfl) (fun K hK=>?_)
              refine step_append_lies _ (by rfl) (.tmp 212) (.tmp 228) 134 (by rfl) W0.heap.size 136 j0 (.agg #[iV 0,iV 0,iV 0]) 3 24 Tryz.underlying134 ji jz0 jz1 jz2 rfl (by decide) _ qk.du.length _ (by rfl) HOW.out ⟨wr.heap.size+1,0,none⟩ 1 1 (ZQ ⟨(T:Int)+wt,id,(s.m i j)⟩) (by rfl) rfl (by have h:=zei ((wr.alloc (.cells #[iV m0,iV sg,iV 3,iV d,iV a,iV b,iV i,iV sp,iV pl,iV nn] 37)).drewN (n1+nq+1)) (iV ((T:Int)+wt)) (iV (id:Int)) (iV (s.m i j)) 136;rw [show ((wr.alloc (.cells #[iV m0,iV sg,iV 3,iV d,iV a,iV b,iV i,iV sp,iV pl,iV nn] 37)).drewN (n1+nq+1)).heap.size=wr.heap.size+1 from by simp] at h;exact h) (by intro u hu;unfold ZQ at hu;simp at hu;rcases hu with rfl | rfl | rfl <;> rfl) (by decide) (by unfold maxLen;have:=HLN.out;omega) (by have:=HLN.out;omega) (by have:=HIt.out.bel.size;simp at this ⊢;omega) _ rfl ?_
              intro g3 cap3 w3 hown3 hgrow3 hat3 hlt3
              have hPP:=(HIt.out.below (below_alloc1 ((wr.alloc (.cells #[iV m0,iV sg,iV 3,iV d,iV a,iV b,iV i,iV sp,iV pl,iV nn] 37)).drewN (n1+nq+1)) (.cells #[iV ((T:Int)+wt),iV (id:Int),iV (s.m i j)] 136))).push (d:=⟨(T:Int)+wt,id,(s.m i j)⟩) (by exact hgrow3) hown3
              have hNN:=zsg (HIt.out.below (below_alloc1 ((wr.alloc (.cells #[iV m0,iV sg,iV 3,iV d,iV a,iV b,iV i,iV sp,iV pl,iV nn] 37)).drewN (n1+nq+1)) (.cells #[iV ((T:Int)+wt),iV (id:Int),iV (s.m i j)] 136))) (by exact hgrow3) (HNt.out.below (below_alloc1 _ _))
              have hS3:w3.cell? ⟨w.heap.size,3+c,none⟩=some (iV wt)/\w3.cell? ⟨wr.heap.size,3,none⟩=some (iV d)/\w3.cell? ⟨w.heap.size,6,none⟩=some (iV R.length):=by
               refine⟨by rw [zc hPP.bel _ _ (by omega),<-zc HI.out.bel _ _ (by omega)];exact hcw,?_,by rw [zc hPP.bel _ _ (by omega),<-zc HI.out.bel _ _ (by omega)];exact x6⟩
               rw [hgrow3.cell_far ⟨wr.heap.size,3,none⟩ (by simp;omega) (fun e=>by have h9:wr.heap.size<wr.heap.size:=yZ HI.out.due _ e.symm;omega)]
               exact (HSa.out _).2.1
              have HP3:=z5 hPP
              have HN3:=z5 hNN
              clear hPP hNN hown3 hgrow3 hat3 hHeld
              refine nxt hK.out (.inr hS3) ?_
              clear hK K
              have hHeld:=hS3
              refine utk (i:=18) rfl hHeld ?_
              refine zf (by kernel_rfl) ?_ _
              refine NoPanic.normal ?_
              clear hHeld hS3
              go_wp2_with fail
              go_roundw
              case rel =>
               have h2:qs (k+1)=⟨qk.nx,qk.du++[⟨(T:Int)+wt,id,(s.m i j)⟩]⟩:=by
                rw [HQK.out,zt6 HAC.out (by show (3:Int)≠4;decide)]
                dsimp only
                rw [<-HWV.out,HQD.out,HID.out,zxi rfl,Int.toNat_natCast,HJ.out]
               have hl:(qs (k+1)).du.length=qk.du.length+1:=by rw [h2];simp
               exact⟨k+1,by omega,by go_num,some ⟨g3,0,none⟩,cap3,by rw [hl],by rw [hl,h2];exact HP3.out,by rw [h2];exact HN3.out⟩
              case measure=>simp [intOf];omega
            ·as_aux_lemma =>
              obtain⟨i,rfl⟩:=Int.eq_ofNat_of_zero_le ar1
              have hiL:i<(zrp M).length:=by omega
              have hiM:i<M.length:=by rw [zry] at hiL;exact hiL
              obtain⟨gl,lc',hlv,hlb,hl3,hl4,hlr⟩:=Zs HI.out.lgs (.inr (by omega))
              injection hlv with hlv1 hlv2 hlv3
              subst hlv1
              subst hlv3
              have hlk:wr.cell? ⟨gl,i,none⟩=some (iV (nth (zrp M) i)):=by rw [hlr.cell hiL,zad _ _ hiL]
              have hlz:=hlr.lt
              have hjc:=ztm (zrp M) PC T ⟨sl,sg,4,d,a,b,(i:Int),sp,pl,nn⟩
              have hjl:=zuh (zrp M) PC T ⟨sl,sg,4,d,a,b,(i:Int),sp,pl,nn⟩
              dsimp only at hjc hjl
              rw [HQD.out,HTN.out,Int.toNat_natCast] at hjc
              rw [Int.toNat_natCast,<-(HROW.out i hiM).2.2] at hjl
              generalize hj:VH (zrp M) PC T ⟨sl,sg,4,d,a,b,(i:Int),sp,pl,nn⟩=j at *
              have HJ:=z5 hj
              have i1:(i:Int)<((zrp M).length:Int):=by omega
              have i2:(i:Int)<(M.length:Int):=by omega
              have i3:(j:Int)<((VC M i).length:Int):=by omega
              have HIX:Hid (∀W,Calls Tryz.prog 83 #[iV sp,iV pl,iV (tn:Int),iV (nth (zrp M) i)] W fun e w'=>e=.returned (iV (j:Int))/\w'=W):=fun W=>hjc ▸ zs4 sp pl tn (nth (zrp M) i) W
              rcases HN.out.out with hn0 | ⟨hmv,hmr,hmb⟩
              ·omega
              injection hmv with hmv1 hmv2 hmv3
              subst hmv1
              have hmo:wr.cell? ⟨gn,i,none⟩=some (.slice (some ⟨Gn i,0,none⟩) (VC M i).length (Cn i)):=hmr.cell hiM
              have hmz:=hmr.lt
              obtain⟨hin1,hin2,hin3,hin4⟩:=HN.out.inn.1 i hiM
              have hGz:=hin4.lt
              have hmj:=hin4.cell hjl
              have hmf:=hin4.frozen j
              have hb1:Below wr.heap.size wr ((wr.alloc (.cells #[iV m0,iV sg,iV 4,iV d,iV a,iV b,iV i,iV sp,iV pl,iV nn] 37)).drewN (nq+1)):=(below_alloc1 _ _).trans (below_draws _ _ _)
              have HIt0:=z5 ((HI.out.below hb1).setNext (j:=j) (hin4.below hb1 hin4.lt) (by have:=HWZ.out;omega) (by have:=HBG.out;omega) (fun a ha=>by have:=HBB.out a ha;omega) (iV (F ia)))
              have HNt0:=z5 ((HN.out.below hb1).set i j (F ia) hiM hjl)
              have HSt:Hid ((((wr.alloc (.cells #[iV m0,iV sg,iV 4,iV d,iV a,iV b,iV i,iV sp,iV pl,iV nn] 37)).drewN (nq+1)).setCell ⟨Gn i,j,none⟩ (iV (F ia))).cell? ⟨w.heap.size,3+c,none⟩=some (iV wt)/\(((wr.alloc (.cells #[iV m0,iV sg,iV 4,iV d,iV a,iV b,iV i,iV sp,iV pl,iV nn] 37)).drewN (nq+1)).setCell ⟨Gn i,j,none⟩ (iV (F ia))).cell? ⟨wr.heap.size,3,none⟩=some (iV d)/\(((wr.alloc (.cells #[iV m0,iV sg,iV 4,iV d,iV a,iV b,iV i,iV sp,iV pl,iV nn] 37)).drewN (nq+1)).setCell ⟨Gn i,j,none⟩ (iV (F ia))).cell? ⟨w.heap.size,6,none⟩=some (iV R.length)):=⟨by rw [zs1 _ _ _ _ _ (by show w.heap.size≠Gn i;have:=HWZ.out;omega),zc hb1 _ _ z0];exact hcw,by rw [zs1 _ _ _ _ _ (by show wr.heap.size≠Gn i;have:=hin4.lt;omega)];go_simp,by rw [zs1 _ _ _ _ _ (by show w.heap.size≠Gn i;have:=HWZ.out;omega),zc hb1 _ _ z0];exact x6⟩
              have hbd:Below (((wr.alloc (.cells #[iV m0,iV sg,iV 4,iV d,iV a,iV b,iV i,iV sp,iV pl,iV nn] 37)).drewN (nq+1)).setCell ⟨Gn i,j,none⟩ (iV (F ia))).heap.size (((wr.alloc (.cells #[iV m0,iV sg,iV 4,iV d,iV a,iV b,iV i,iV sp,iV pl,iV nn] 37)).drewN (nq+1)).setCell ⟨Gn i,j,none⟩ (iV (F ia))) ((((wr.alloc (.cells #[iV m0,iV sg,iV 4,iV d,iV a,iV b,iV i,iV sp,iV pl,iV nn] 37)).drewN (nq+1)).setCell ⟨Gn i,j,none⟩ (iV (F ia))).drew):=(Below.refl _ _).drew
              have HIt:=z5 (HIt0.out.below hbd)
              have HNt:=z5 (HNt0.out.below hbd)
              have hzs:wr.heap.size<((((wr.alloc (.cells #[iV m0,iV sg,iV 4,iV d,iV a,iV b,iV i,iV sp,iV pl,iV nn] 37)).drewN (nq+1)).setCell ⟨Gn i,j,none⟩ (iV (F ia))).drew).heap.size:=by simp
              have HSa:Hid (∀Y,(((((wr.alloc (.cells #[iV m0,iV sg,iV 4,iV d,iV a,iV b,iV i,iV sp,iV pl,iV nn] 37)).drewN (nq+1)).setCell ⟨Gn i,j,none⟩ (iV (F ia))).drew).alloc Y).cell? ⟨w.heap.size,3+c,none⟩=some (iV wt)/\(((((wr.alloc (.cells #[iV m0,iV sg,iV 4,iV d,iV a,iV b,iV i,iV sp,iV pl,iV nn] 37)).drewN (nq+1)).setCell ⟨Gn i,j,none⟩ (iV (F ia))).drew).alloc Y).cell? ⟨wr.heap.size,3,none⟩=some (iV d)/\(((((wr.alloc (.cells #[iV m0,iV sg,iV 4,iV d,iV a,iV b,iV i,iV sp,iV pl,iV nn] 37)).drewN (nq+1)).setCell ⟨Gn i,j,none⟩ (iV (F ia))).drew).alloc Y).cell? ⟨w.heap.size,6,none⟩=some (iV R.length)):=fun Y=>by
               have hb:=below_alloc1 ((((wr.alloc (.cells #[iV m0,iV sg,iV 4,iV d,iV a,iV b,iV i,iV sp,iV pl,iV nn] 37)).drewN (nq+1)).setCell ⟨Gn i,j,none⟩ (iV (F ia))).drew) Y
               have h:=HSt.out
               exact⟨by rw [zc hb _ _ (by omega)];exact h.1,by rw [zc hb _ _ hzs];exact h.2.1,by rw [zc hb _ _ (by omega)];exact h.2.2⟩
              clear hb1 hbd HIt0 HNt0
              have hap1:gl≠Gn i:=hlr.apart hin4 (by decide)
              have hap2:gn≠Gn i:=hmr.apart hin4 (by decide)
              clear hj hjc hlr hmr hin4 hin2 hin3 hmv2 hlv2 hl3 hl4
              go_wp2_with fail
              have HS4:Hid (((wr.alloc (.cells #[iV m0,iV sg,iV 4,iV d,iV a,iV b,iV i,iV sp,iV pl,iV nn] 37)).drewN nq).cell? ⟨wr.heap.size,6,none⟩=some (iV (i:Int))/\((wr.alloc (.cells #[iV m0,iV sg,iV 4,iV d,iV a,iV b,iV i,iV sp,iV pl,iV nn] 37)).drewN nq).cell? ⟨wr.heap.size,7,none⟩=some (iV sp)/\((wr.alloc (.cells #[iV m0,iV sg,iV 4,iV d,iV a,iV b,iV i,iV sp,iV pl,iV nn] 37)).drewN nq).cell? ⟨wr.heap.size,8,none⟩=some (iV pl)/\((wr.alloc (.cells #[iV m0,iV sg,iV 4,iV d,iV a,iV b,iV i,iV sp,iV pl,iV nn] 37)).drewN nq).cell? ⟨gl,i,none⟩=some (iV (nth (zrp M) i))/\((wr.alloc (.cells #[iV m0,iV sg,iV 4,iV d,iV a,iV b,iV i,iV sp,iV pl,iV nn] 37)).drewN nq).cell? ⟨gn,i,none⟩=some (.slice (some ⟨Gn i,0,none⟩) (VC M i).length (Cn i))):=by
               have hb:Below wr.heap.size wr ((wr.alloc (.cells #[iV m0,iV sg,iV 4,iV d,iV a,iV b,iV i,iV sp,iV pl,iV nn] 37)).drewN nq):=(below_alloc1 _ _).trans (below_draws _ _ _)
               exact⟨by go_simp,by go_simp,by go_simp,by rw [zc hb _ _ hlz];exact hlk,by rw [zc hb _ _ hmz];exact hmo⟩
              refine wp_region_noPanic ?_
              refine ze 99 (fun w'=>w'.cell? ⟨wr.heap.size,6,none⟩=some (iV (i:Int))/\w'.cell? ⟨wr.heap.size,7,none⟩=some (iV sp)/\w'.cell? ⟨wr.heap.size,8,none⟩=some (iV pl)/\w'.cell? ⟨gl,i,none⟩=some (iV (nth (zrp M) i))/\w'.cell? ⟨gn,i,none⟩=some (.slice (some ⟨Gn i,0,none⟩) (VC M i).length (Cn i))) (by kernel_rfl) HS4.out (fun hHeld=>?_)
              refine utk (i:=0) rfl hHeld ?_
              refine utk (i:=1) rfl hHeld ?_
              refine utk (i:=2) rfl hHeld ?_
              refine utk (i:=3) rfl hHeld ?_
              refine utk (i:=4) rfl hHeld ?_
              refine utk (i:=5) rfl hHeld ?_
              refine utk (i:=6) rfl hHeld ?_
              refine utk (i:=7) rfl hHeld ?_
              refine utk (i:=8) rfl hHeld ?_
              refine utk (i:=9) rfl hHeld ?_
              refine utk (i:=10) rfl hHeld ?_
              refine utk (i:=11) rfl hHeld ?_
              refine utk (i:=12) rfl hHeld ?_
              refine utk (i:=13) rfl hHeld ?_
              refine utk (i:=14) rfl hHeld ?_
              refine utk (i:=16) rfl hHeld ?_
              refine z9 (i:=15) rfl (by kernel_rfl) (fun K hK=>?_)
              go_simp
              refine (HIX.out _).mono ?_
              rintro e x8 ⟨rfl,rfl⟩
              refine nxt hK.out (.inr HS4.out) ?_
              clear hK K
              refine utk (i:=17) rfl hHeld ?_
              refine z9 (i:=18) rfl (by kernel_rfl) (fun K hK=>?_)
              go_simp
              have HS5:Hid ((((wr.alloc (.cells #[iV m0,iV sg,iV 4,iV d,iV a,iV b,iV i,iV sp,iV pl,iV nn] 37)).drewN (nq+1)).setCell ⟨Gn i,j,none⟩ (iV (F ia))).cell? ⟨wr.heap.size,6,none⟩=some (iV (i:Int))/\(((wr.alloc (.cells #[iV m0,iV sg,iV 4,iV d,iV a,iV b,iV i,iV sp,iV pl,iV nn] 37)).drewN (nq+1)).setCell ⟨Gn i,j,none⟩ (iV (F ia))).cell? ⟨wr.heap.size,7,none⟩=some (iV sp)/\(((wr.alloc (.cells #[iV m0,iV sg,iV 4,iV d,iV a,iV b,iV i,iV sp,iV pl,iV nn] 37)).drewN (nq+1)).setCell ⟨Gn i,j,none⟩ (iV (F ia))).cell? ⟨wr.heap.size,8,none⟩=some (iV pl)/\(((wr.alloc (.cells #[iV m0,iV sg,iV 4,iV d,iV a,iV b,iV i,iV sp,iV pl,iV nn] 37)).drewN (nq+1)).setCell ⟨Gn i,j,none⟩ (iV (F ia))).cell? ⟨gl,i,none⟩=some (iV (nth (zrp M) i))/\(((wr.alloc (.cells #[iV m0,iV sg,iV 4,iV d,iV a,iV b,iV i,iV sp,iV pl,iV nn] 37)).drewN (nq+1)).setCell ⟨Gn i,j,none⟩ (iV (F ia))).cell? ⟨gn,i,none⟩=some (.slice (some ⟨Gn i,0,none⟩) (VC M i).length (Cn i))):=by
               have hb:Below wr.heap.size wr ((wr.alloc (.cells #[iV m0,iV sg,iV 4,iV d,iV a,iV b,iV i,iV sp,iV pl,iV nn] 37)).drewN (nq+1)):=(below_alloc1 _ _).trans (below_draws _ _ _)
               refine⟨?_,?_,?_,?_,?_⟩
               ·rw [zs1 _ _ _ _ _ (by show wr.heap.size≠Gn i;omega)];go_simp
               ·rw [zs1 _ _ _ _ _ (by show wr.heap.size≠Gn i;omega)];go_simp
               ·rw [zs1 _ _ _ _ _ (by show wr.heap.size≠Gn i;omega)];go_simp
               ·rw [zs1 _ _ _ _ _ (by show gl≠Gn i;exact hap1),zc hb _ _ hlz];exact hlk
               ·rw [zs1 _ _ _ _ _ (by show gn≠Gn i;exact hap2),zc hb _ _ hmz];exact hmo
              refine nxt hK.out (.inr HS5.out) ?_
              clear hK K hHeld
              refine zf (by kernel_rfl) ?_ _
              refine NoPanic.normal ?_
              clear HS5 HS4
              go_wp2_with (go_at_call 45;refine (HCL.out _).mono ?_;rintro e x9 ⟨rfl,rfl⟩)
              refine wp_region_noPanic ?_
              refine ze 99 (fun w'=>w'.cell? ⟨w.heap.size,3+c,none⟩=some (iV wt)/\w'.cell? ⟨wr.heap.size,3,none⟩=some (iV d)/\w'.cell? ⟨w.heap.size,6,none⟩=some (iV R.length)) (by kernel_rfl) HSt.out (fun hHeld=>?_)
              refine utk (i:=0) rfl hHeld ?_
              refine utk (i:=1) rfl hHeld ?_
              refine utk (i:=2) rfl hHeld ?_
              refine utk (i:=3) rfl hHeld ?_
              refine utk (i:=4) rfl hHeld ?_
              refine utk (i:=5) rfl hHeld ?_
              refine utk (i:=6) rfl hHeld ?_
              refine utk (i:=7) rfl hHeld ?_
              refine utk (i:=8) rfl hHeld ?_
              refine utk (i:=9) rfl hHeld ?_
              refine utk (i:=10) rfl hHeld ?_
              refine utk (i:=11) rfl hHeld ?_
              refine utk (i:=12) rfl hHeld ?_
              refine utk (i:=13) rfl hHeld ?_
              refine utk (i:=14) rfl hHeld ?_
              refine utk (i:=15) rfl hHeld ?_
              refine z9 (i:=16) rfl (by kernel_rfl) (fun K hK=>?_)
              go_simp
              refine nxt hK.out (.inr (HSa.out _)) ?_
              clear hK K
              have HOW:=z5 (zt HIt.out.due (below_alloc1 ((((wr.alloc (.cells #[iV m0,iV sg,iV 4,iV d,iV a,iV b,iV i,iV sp,iV pl,iV nn] 37)).drewN (nq+1)).setCell ⟨Gn i,j,none⟩ (iV (F ia))).drew) (.cells #[iV ((T:Int)+wt),iV (id:Int),iV (F ia)] 136)))
              refine z9 (i:=17) rfl (by kernel_rfl) (fun K hK=>?_)
              refine step_append_lies _ (by rfl) (.tmp 212) (.tmp 228) 134 (by rfl) W0.heap.size 136 j0 (.agg #[iV 0,iV 0,iV 0]) 3 24 Tryz.underlying134 ji jz0 jz1 jz2 rfl (by decide) _ qk.du.length _ (by rfl) HOW.out ⟨wr.heap.size+1,0,none⟩ 1 1 (ZQ ⟨(T:Int)+wt,id,(F ia)⟩) (by rfl) rfl (by have h:=zei ((((wr.alloc (.cells #[iV m0,iV sg,iV 4,iV d,iV a,iV b,iV i,iV sp,iV pl,iV nn] 37)).drewN (nq+1)).setCell ⟨Gn i,j,none⟩ (iV (F ia))).drew) (iV ((T:Int)+wt)) (iV (id:Int)) (iV (F ia)) 136;rw [show ((((wr.alloc (.cells #[iV m0,iV sg,iV 4,iV d,iV a,iV b,iV i,iV sp,iV pl,iV nn] 37)).drewN (nq+1)).setCell ⟨Gn i,j,none⟩ (iV (F ia))).drew).heap.size=wr.heap.size+1 from by simp] at h;exact h) (by intro u hu;unfold ZQ at hu;simp at hu;rcases hu with rfl | rfl | rfl <;> rfl) (by decide) (by unfold maxLen;have:=HLN.out;omega) (by have:=HLN.out;omega) (by have:=HIt.out.bel.size;simp at this ⊢;omega) _ rfl ?_
              intro g3 cap3 w3 hown3 hgrow3 hat3 hlt3
              have hPP:=(HIt.out.below (below_alloc1 ((((wr.alloc (.cells #[iV m0,iV sg,iV 4,iV d,iV a,iV b,iV i,iV sp,iV pl,iV nn] 37)).drewN (nq+1)).setCell ⟨Gn i,j,none⟩ (iV (F ia))).drew) (.cells #[iV ((T:Int)+wt),iV (id:Int),iV (F ia)] 136))).push (d:=⟨(T:Int)+wt,id,(F ia)⟩) (by exact hgrow3) hown3
              have hNN:=zsg (HIt.out.below (below_alloc1 ((((wr.alloc (.cells #[iV m0,iV sg,iV 4,iV d,iV a,iV b,iV i,iV sp,iV pl,iV nn] 37)).drewN (nq+1)).setCell ⟨Gn i,j,none⟩ (iV (F ia))).drew) (.cells #[iV ((T:Int)+wt),iV (id:Int),iV (F ia)] 136))) (by exact hgrow3) (HNt.out.below (below_alloc1 _ _))
              have hS3:w3.cell? ⟨w.heap.size,3+c,none⟩=some (iV wt)/\w3.cell? ⟨wr.heap.size,3,none⟩=some (iV d)/\w3.cell? ⟨w.heap.size,6,none⟩=some (iV R.length):=by
               refine⟨by rw [zc hPP.bel _ _ (by omega),<-zc HI.out.bel _ _ (by omega)];exact hcw,?_,by rw [zc hPP.bel _ _ (by omega),<-zc HI.out.bel _ _ (by omega)];exact x6⟩
               rw [hgrow3.cell_far ⟨wr.heap.size,3,none⟩ (by simp;omega) (fun e=>by have h9:wr.heap.size<wr.heap.size:=yZ HI.out.due _ e.symm;omega)]
               exact (HSa.out _).2.1
              have HP3:=z5 hPP
              have HN3:=z5 hNN
              clear hPP hNN hown3 hgrow3 hat3 hHeld
              refine nxt hK.out (.inr hS3) ?_
              clear hK K
              have hHeld:=hS3
              refine utk (i:=18) rfl hHeld ?_
              refine zf (by kernel_rfl) ?_ _
              refine NoPanic.normal ?_
              clear hHeld hS3
              go_wp2_with fail
              go_roundw
              case rel =>
               have h2:qs (k+1)=⟨Yj qk.nx i j (F ia),qk.du++[⟨(T:Int)+wt,id,F ia⟩]⟩:=by
                rw [HQK.out,zwc HAC.out rfl]
                dsimp only [zk0]
                rw [<-HWV.out,HQD.out,HID.out,HIA.out,Int.toNat_natCast,Int.toNat_natCast,HJ.out]
               have hl:(qs (k+1)).du.length=qk.du.length+1:=by rw [h2];simp
               exact⟨k+1,by omega,by go_num,some ⟨g3,0,none⟩,cap3,by rw [hl],by rw [hl,h2];exact HP3.out,by rw [h2];exact HN3.out⟩
              case measure=>simp [intOf];omega
            ·as_aux_lemma =>
              obtain⟨vo,hvo⟩:∃vo,vo=opv (o - 10) (F ia) (F ib):=⟨_,rfl⟩
              have HOP:Hid (∀W,Calls Tryz.prog 84 #[iV (o - 10),iV (F ia),iV (F ib)] W fun e w'=>e=.returned (iV vo)/\w'=W):=fun W=>hvo ▸ zv2 (o - 10) (F ia) (F ib) W (HF.out ia).1 (HF.out ia).2 (HF.out ib).1 (HF.out ib).2
              have HVO:=z5 hvo
              clear hvo
              have on1:(o == 1)=false:=by simpa using (show o≠1 by omega)
              have om1:¬o=1:=by omega
              have on2:(o == 2)=false:=by simpa using (show o≠2 by omega)
              have om2:¬o=2:=by omega
              have on3:(o == 3)=false:=by simpa using (show o≠3 by omega)
              have om3:¬o=3:=by omega
              have on4:(o == 4)=false:=by simpa using (show o≠4 by omega)
              have om4:¬o=4:=by omega
              have hbt:Below wr.heap.size wr ((wr.alloc (.cells #[iV m0,iV sg,iV o,iV d,iV a,iV b,iV ar,iV sp,iV pl,iV nn] 37)).drewN (nq+1)):=(below_alloc1 _ _).trans (below_draws _ _ _)
              have hbt0:Below wr.heap.size wr ((wr.alloc (.cells #[iV m0,iV sg,iV o,iV d,iV a,iV b,iV ar,iV sp,iV pl,iV nn] 37)).drewN nq):=(below_alloc1 _ _).trans (below_draws _ _ _)
              have HIt:=z5 (HI.out.below hbt)
              have HNt:=z5 (HN.out.below hbt)
              have HSt:Hid (((wr.alloc (.cells #[iV m0,iV sg,iV o,iV d,iV a,iV b,iV ar,iV sp,iV pl,iV nn] 37)).drewN nq).cell? ⟨w.heap.size,3+c,none⟩=some (iV wt)/\((wr.alloc (.cells #[iV m0,iV sg,iV o,iV d,iV a,iV b,iV ar,iV sp,iV pl,iV nn] 37)).drewN nq).cell? ⟨wr.heap.size,3,none⟩=some (iV d)/\((wr.alloc (.cells #[iV m0,iV sg,iV o,iV d,iV a,iV b,iV ar,iV sp,iV pl,iV nn] 37)).drewN nq).cell? ⟨w.heap.size,6,none⟩=some (iV R.length)):=⟨by rw [zc hbt0 _ _ z0];exact hcw,by go_simp,by rw [zc hbt0 _ _ z0];exact x6⟩
              have HSa:Hid (∀Y,(((wr.alloc (.cells #[iV m0,iV sg,iV o,iV d,iV a,iV b,iV ar,iV sp,iV pl,iV nn] 37)).drewN (nq+1)).alloc Y).cell? ⟨w.heap.size,3+c,none⟩=some (iV wt)/\(((wr.alloc (.cells #[iV m0,iV sg,iV o,iV d,iV a,iV b,iV ar,iV sp,iV pl,iV nn] 37)).drewN (nq+1)).alloc Y).cell? ⟨wr.heap.size,3,none⟩=some (iV d)/\(((wr.alloc (.cells #[iV m0,iV sg,iV o,iV d,iV a,iV b,iV ar,iV sp,iV pl,iV nn] 37)).drewN (nq+1)).alloc Y).cell? ⟨w.heap.size,6,none⟩=some (iV R.length)):=fun Y=>by
               have h:((wr.alloc (.cells #[iV m0,iV sg,iV o,iV d,iV a,iV b,iV ar,iV sp,iV pl,iV nn] 37)).drewN (nq+1)).cell? ⟨w.heap.size,3+c,none⟩=some (iV wt)/\((wr.alloc (.cells #[iV m0,iV sg,iV o,iV d,iV a,iV b,iV ar,iV sp,iV pl,iV nn] 37)).drewN (nq+1)).cell? ⟨wr.heap.size,3,none⟩=some (iV d)/\((wr.alloc (.cells #[iV m0,iV sg,iV o,iV d,iV a,iV b,iV ar,iV sp,iV pl,iV nn] 37)).drewN (nq+1)).cell? ⟨w.heap.size,6,none⟩=some (iV R.length):=⟨by rw [zc hbt _ _ z0];exact hcw,by go_simp,by rw [zc hbt _ _ z0];exact x6⟩
               have hb:=below_alloc1 ((wr.alloc (.cells #[iV m0,iV sg,iV o,iV d,iV a,iV b,iV ar,iV sp,iV pl,iV nn] 37)).drewN (nq+1)) Y
               have hz:wr.heap.size<((wr.alloc (.cells #[iV m0,iV sg,iV o,iV d,iV a,iV b,iV ar,iV sp,iV pl,iV nn] 37)).drewN (nq+1)).heap.size:=by simp
               exact⟨by rw [zc hb _ _ (by omega)];exact h.1,by rw [zc hb _ _ hz];exact h.2.1,by rw [zc hb _ _ (by omega)];exact h.2.2⟩
              clear hbt hbt0
              go_wp2_with (first | (go_at_call 84;refine (HOP.out _).mono ?_;rintro e x9 ⟨rfl,rfl⟩) | (go_at_call 45;refine (HCL.out _).mono ?_;rintro e x9 ⟨rfl,rfl⟩))
              refine wp_region_noPanic ?_
              refine ze 99 (fun w'=>w'.cell? ⟨w.heap.size,3+c,none⟩=some (iV wt)/\w'.cell? ⟨wr.heap.size,3,none⟩=some (iV d)/\w'.cell? ⟨w.heap.size,6,none⟩=some (iV R.length)) (by kernel_rfl) HSt.out (fun hHeld=>?_)
              refine utk (i:=0) rfl hHeld ?_
              refine utk (i:=1) rfl hHeld ?_
              refine utk (i:=2) rfl hHeld ?_
              refine utk (i:=3) rfl hHeld ?_
              refine utk (i:=4) rfl hHeld ?_
              refine utk (i:=5) rfl hHeld ?_
              refine utk (i:=6) rfl hHeld ?_
              refine utk (i:=7) rfl hHeld ?_
              refine utk (i:=8) rfl hHeld ?_
              refine utk (i:=9) rfl hHeld ?_
              refine utk (i:=10) rfl hHeld ?_
              refine utk (i:=11) rfl hHeld ?_
              refine utk (i:=12) rfl hHeld ?_
              refine utk (i:=13) rfl hHeld ?_
              refine utk (i:=14) rfl hHeld ?_
              refine utk (i:=15) rfl hHeld ?_
              refine z9 (i:=16) rfl (by kernel_rfl) (fun K hK=>?_)
              go_simp
              refine nxt hK.out (.inr (HSa.out _)) ?_
              clear hK K
              have HOW:=z5 (zt HIt.out.due (below_alloc1 ((wr.alloc (.cells #[iV m0,iV sg,iV o,iV d,iV a,iV b,iV ar,iV sp,iV pl,iV nn] 37)).drewN (nq+1)) (.cells #[iV ((T:Int)+wt),iV (id:Int),iV vo] 136)))
              refine z9 (i:=17) rfl (by kernel_rfl) (fun K hK=>?_)
              refine step_append_lies _ (by rfl) (.tmp 212) (.tmp 228) 134 (by rfl) W0.heap.size 136 j0 (.agg #[iV 0,iV 0,iV 0]) 3 24 Tryz.underlying134 ji jz0 jz1 jz2 rfl (by decide) _ qk.du.length _ (by rfl) HOW.out ⟨wr.heap.size+1,0,none⟩ 1 1 (ZQ ⟨(T:Int)+wt,id,vo⟩) (by rfl) rfl (by have h:=zei ((wr.alloc (.cells #[iV m0,iV sg,iV o,iV d,iV a,iV b,iV ar,iV sp,iV pl,iV nn] 37)).drewN (nq+1)) (iV ((T:Int)+wt)) (iV (id:Int)) (iV vo) 136;rw [show ((wr.alloc (.cells #[iV m0,iV sg,iV o,iV d,iV a,iV b,iV ar,iV sp,iV pl,iV nn] 37)).drewN (nq+1)).heap.size=wr.heap.size+1 from by simp] at h;exact h) (by intro u hu;unfold ZQ at hu;simp at hu;rcases hu with rfl | rfl | rfl <;> rfl) (by decide) (by unfold maxLen;have:=HLN.out;omega) (by have:=HLN.out;omega) (by have:=HIt.out.bel.size;simp at this ⊢;omega) _ rfl ?_
              intro g3 cap3 w3 hown3 hgrow3 hat3 hlt3
              have hPP:=(HIt.out.below (below_alloc1 ((wr.alloc (.cells #[iV m0,iV sg,iV o,iV d,iV a,iV b,iV ar,iV sp,iV pl,iV nn] 37)).drewN (nq+1)) (.cells #[iV ((T:Int)+wt),iV (id:Int),iV vo] 136))).push (d:=⟨(T:Int)+wt,id,vo⟩) (by exact hgrow3) hown3
              have hNN:=zsg (HIt.out.below (below_alloc1 ((wr.alloc (.cells #[iV m0,iV sg,iV o,iV d,iV a,iV b,iV ar,iV sp,iV pl,iV nn] 37)).drewN (nq+1)) (.cells #[iV ((T:Int)+wt),iV (id:Int),iV vo] 136))) (by exact hgrow3) (HNt.out.below (below_alloc1 _ _))
              have hS3:w3.cell? ⟨w.heap.size,3+c,none⟩=some (iV wt)/\w3.cell? ⟨wr.heap.size,3,none⟩=some (iV d)/\w3.cell? ⟨w.heap.size,6,none⟩=some (iV R.length):=by
               refine⟨by rw [zc hPP.bel _ _ (by omega),<-zc HI.out.bel _ _ (by omega)];exact hcw,?_,by rw [zc hPP.bel _ _ (by omega),<-zc HI.out.bel _ _ (by omega)];exact x6⟩
               rw [hgrow3.cell_far ⟨wr.heap.size,3,none⟩ (by simp;omega) (fun e=>by have h9:wr.heap.size<wr.heap.size:=yZ HI.out.due _ e.symm;omega)]
               exact (HSa.out _).2.1
              have HP3:=z5 hPP
              have HN3:=z5 hNN
              clear hPP hNN hown3 hgrow3 hat3 hHeld
              refine nxt hK.out (.inr hS3) ?_
              clear hK K
              have hHeld:=hS3
              refine utk (i:=18) rfl hHeld ?_
              refine zf (by kernel_rfl) ?_ _
              refine NoPanic.normal ?_
              clear hHeld hS3
              go_wp2_with fail
              go_roundw
              case rel =>
               have h2:qs (k+1)=⟨qk.nx,qk.du++[⟨(T:Int)+wt,id,vo⟩]⟩:=by
                rw [HQK.out,zt6 HAC.out (by dsimp only;omega)]
                dsimp only
                rw [<-HWV.out,HQD.out,HID.out,zx6 (by dsimp only;omega),HQD.out,HIA.out,HIB.out,Int.toNat_natCast,Int.toNat_natCast,<-HVO.out]
               have hl:(qs (k+1)).du.length=qk.du.length+1:=by rw [h2];simp
               exact⟨k+1,by omega,by go_num,some ⟨g3,0,none⟩,cap3,by rw [hl],by rw [hl,h2];exact HP3.out,by rw [h2];exact HN3.out⟩
              case measure=>simp [intOf];omega
         ·as_aux_lemma =>
           have hsb:((sl:Int) != (m0:Int))=true:=by simp;omega
           go_wp2_with fail
           go_big_quiet ((fail))
           go_wp2_with fail
           go_roundw
           case rel =>
            have h2:qs (k+1)=qk:=by rw [HQK.out,zu4 (zuj (.inl (by dsimp only;rw [HM0.out];omega)))]
            exact⟨k+1,by omega,by go_num,da,dc,by rw [h2],by rw [h2];exact HI.out.below ((below_alloc1 _ _).trans (below_draws _ _ _)),by rw [h2];exact HN.out.below ((below_alloc1 _ _).trans (below_draws _ _ _))⟩
           case measure=>simp [intOf];omega
        ·as_aux_lemma =>
          have e:k=ops.length:=by omega
          subst e
          have HI:=z5 hI
          have HN:=z5 hN
          clear hI hN hbw
          go_wp2_with fail
          go_roundw
          case rel =>
           refine⟨T+1,by omega,by go_num,an,cn,gn,Gn,Cn,da,dc,rfl,by rw [HCY.out,HCC.out],?_⟩
           rw [HCY.out,HCC.out]
           exact HI.out.newMem (HN.out.mono HWZ.out) (fun i hi=>by have:=(HN.out.inn.1 i hi).1;have:=HBG.out;omega)
          case measure=>simp [intOf];omega
   ·as_aux_lemma =>
     have e:T=LA+7:=by omega
     have hTi:¬(T:Int)<(LA:Int)+6+1:=by omega
     have HP:=z5 hP
     have HBX:=z5 hbw
     clear hP hbw
     go_wp2_with fail
     refine bodyPost_ret (v:=.tuple #[.slice (some ⟨g1,0,none⟩) R.length cap1,.slice am M.length cm]) (by simp [results,Tryz.results37,go_sem]) rfl ⟨_,_,rfl,?_,?_,HBX.out⟩
     ·rw [HT.out,<-e];exact (zsv HP.out (HRF.out T hT)).1
     ·rw [HT.out,<-e];exact (zsv HP.out (HRF.out T hT)).2
end Go.Proofs.YtjoapiafpahihabGreat
