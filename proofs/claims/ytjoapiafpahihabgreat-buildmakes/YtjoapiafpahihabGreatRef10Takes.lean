import Derived.Test.YtjoapiafpahihabGreatRef10C
import Derived.Test.YtjoapiafpahihabGreatRef10A
import Derived.Test.YtjoapiafpahihabGreatBase
namespace Go.Proofs.YtjoapiafpahihabGreat
open Go.RowKit Go.Joins
set_option linter.unusedVariables false
set_option linter.unusedSimpArgs false
set_option maxRecDepth 8192
theorem zeh {L:Lp} {t:Tg} {K:Kn} {O:List Int} (h:xH L t K O=false\/zh (fun i=>Yy K O (zu (z8 L t) i)) (z8 L t).length=false\/zh (fun s=>zh (YV L t K O s) (za (z6 L.body s)).length) L.body.length=false\/zh (xU (xx L t K O L.body.length)) (xx L t K O L.body.length).length=false\/zh (fun i=>Y7 L t K O (nth L.outs i).toNat) L.outs.length=false):yv L t K O=false:=by
 unfold yv
 rcases h with h | h | h | h | h <;> rw [h] <;> simp
theorem zki {L:Lp} {t:Tg} {K:Kn} {O:List Int} (h1:xH L t K O=true) (h2:zh (fun i=>Yy K O (zu (z8 L t) i)) (z8 L t).length=true) (h3:zh (fun s=>zh (YV L t K O s) (za (z6 L.body s)).length) L.body.length=true) (h4:zh (xU (xx L t K O L.body.length)) (xx L t K O L.body.length).length=true) (h5:zh (fun i=>Y7 L t K O (nth L.outs i).toNat) L.outs.length=true):yv L t K O=true:=by
 unfold yv
 rw [h1,h2,h3,h4,h5];rfl
set_option maxHeartbeats 16000000 in
set_option maxRecDepth 100000 in
theorem zgn (p0 p1 p2 q0 q1 q2 r pc st:Int) (ops:List Kop) (L:Lp) (O:List Int) (a0 a1 a2 ka oa:Option Addr) (cap0 cap1 cap2 kc oc:Nat) (w:World) (hL:zk w (.agg #[.slice a0 L.logs.length cap0,.slice a1 L.body.length cap1,.slice a2 L.outs.length cap2]) L) (hK:Xz w (.slice ka ops.length kc) ops) (hO:yf w (.slice oa O.length oc) O) :
  Calls Tryz.prog 17 #[.agg #[.slice a0 L.logs.length cap0,.slice a1 L.body.length cap1,.slice a2 L.outs.length cap2],.agg #[iV p0,iV p1,iV p2,iV q0,iV q1,iV q2,iV r],.agg #[iV pc,iV st,.slice ka ops.length kc],.slice oa O.length oc] w fun e w'=>e=.returned (.bool (yv L ⟨p0,p1,p2,q0,q1,q2,r⟩ ⟨pc,st,ops⟩ O))/\Below w.heap.size w w':=by
 have HLY:=z5 (fun W (h1:zk W (.agg #[.slice a0 L.logs.length cap0,.slice a1 L.body.length cap1,.slice a2 L.outs.length cap2]) L) (h2:Xz W (.slice ka ops.length kc) ops) (h3:yf W (.slice oa O.length oc) O)=>zfj _ _ _ ⟨p0,p1,p2,q0,q1,q2,r⟩ L ⟨pc,st,ops⟩ O W h1 ⟨_,rfl,h2⟩ h3)
 have HL:=z5 hL
 have HK:=z5 hK
 have HO:=z5 hO
 have HS:Hid ((((w.alloc (.cells #[.slice a0 L.logs.length cap0,.slice a1 L.body.length cap1,.slice a2 L.outs.length cap2] 25)).alloc (.cells #[iV p0,iV p1,iV p2,iV q0,iV q1,iV q2,iV r] 28)).alloc (.cells #[iV pc,iV st,.slice ka ops.length kc] 31)).heap.size=w.heap.size+1+1+1):=by show _=_;simp
 have HB0:=z5 (below_alloc3 w (.cells #[.slice a0 L.logs.length cap0,.slice a1 L.body.length cap1,.slice a2 L.outs.length cap2] 25) (.cells #[iV p0,iV p1,iV p2,iV q0,iV q1,iV q2,iV r] 28) (.cells #[iV pc,iV st,.slice ka ops.length kc] 31))
 clear hL hK hO
 cases hlay:xH L ⟨p0,p1,p2,q0,q1,q2,r⟩ ⟨pc,st,ops⟩ O with
 | false =>
   have HN:Hid (yv L ⟨p0,p1,p2,q0,q1,q2,r⟩ ⟨pc,st,ops⟩ O=false):=zeh (.inl hlay)
   go_enter Tryz.func17,Tryz.ntmps17
   go_wp2_with fail
   refine (HLY.out _ (HL.out.below HB0.out) (HK.out.below HB0.out) (HO.out.below HB0.out)).mono ?_
   rintro e x1 ⟨hbx,-,hno⟩
   obtain rfl:=hno hlay
   have HW1:=z5 (HB0.out.trans (hbx.mono HB0.out.size))
   clear hbx hno
   go_wp2_with fail
   go_ret
   exact⟨z7 HN.out.symm,HW1.out⟩
 | true =>
   have HLAY:=z5 hlay
   obtain⟨hm,hmt,hmk,hkl,hol,hord⟩:=Zq hlay
   obtain⟨⟨hpc1,hpc2,hr1⟩,hrg⟩:=Z4 hlay
   obtain⟨-,h1n,h16,hou,-,hoo,-⟩:=zj hm
   obtain⟨-,-,-,-,hr2⟩:=yi hmt
   have hpc1:1<=pc:=hpc1
   have hpc2:pc<=200:=hpc2
   have hr1:1<=r:=hr1
   have hr2:r<=128:=hr2
   have HRG:=z5 hrg
   have HPL:=z5 (fun s (h:s<L.body.length)=>zdr hlay h)
   have HOR:=z5 (fun i (h:i<L.outs.length)=>zjn hoo h)
   have HED:=z5 (fun W (h:zk W (.agg #[.slice a0 L.logs.length cap0,.slice a1 L.body.length cap1,.slice a2 L.outs.length cap2]) L)=>Uw _ ⟨p0,p1,p2,q0,q1,q2,r⟩ L W h hm)
   have HEK:=z5 (xq (t:=⟨p0,p1,p2,q0,q1,q2,r⟩) hm)
   have HELN:Hid ((z8 L ⟨p0,p1,p2,q0,q1,q2,r⟩).length<=60000):=by
    show _<=_
    have:=VQ L ⟨p0,p1,p2,q0,q1,q2,r⟩ L.body.length h16
    have h2:L.body.length*3696<=16*3696:=Nat.mul_le_mul_right _ h16
    show (frD L ⟨p0,p1,p2,q0,q1,q2,r⟩ L.body.length).length<=60000
    omega
   have HREST:=z5 (fun x W h0 h1=>YM x r W h0 h1 (by omega) (by omega))
   have HUSE:=z5 (fun s (h:s<L.body.length) rf (h2:rf∈za (z6 L.body s))=>xK hm h rf h2)
   have HFT:Hid (∀s,s<L.body.length->ym L s<=3/\((ym L s:Nat):Int)=Xl L s):=fun s hs=>by
    have h1:=XG hm s L.body.length (Nat.le_refl _)
    have h2:=zbs L s L.body.length
    unfold ym Xl
    omega
   have HFNO:=z5 (fun h=>zeh (L:=L) (t:=⟨p0,p1,p2,q0,q1,q2,r⟩) (K:=⟨pc,st,ops⟩) (O:=O) h)
   have HFYES:=z5 (fun h2 h3 h4 h5=>zki (L:=L) (t:=⟨p0,p1,p2,q0,q1,q2,r⟩) (K:=⟨pc,st,ops⟩) (O:=O) hlay h2 h3 h4 h5)
   have HKL:=z5 hkl
   have HOLN:=z5 hol
   have HORD:=z5 hord
   have HOPR:=z5 (fun k (h:k<ops.length)=>Us (K:=⟨pc,st,ops⟩) hmk h)
   have HFAR:Hid (∀(W:World) (s:Nat),Below w.heap.size w W->Calls Tryz.prog 50 #[.agg #[.slice a0 L.logs.length cap0,.slice a1 L.body.length cap1,.slice a2 L.outs.length cap2],iV (s:Int)] W fun e w'=>e=.returned (iV (Xl L s))/\Below W.heap.size W w'):=fun W s hW=>by
    have h2:=HL.out.below hW
    obtain⟨v0,v1,v2,e,-,⟨x1,y1,e3,f1,f2,f3⟩,-⟩:=h2
    simp only [Value.agg.injEq,Array.mk.injEq,List.cons.injEq,and_true] at e
    obtain⟨-,e4,-⟩:=e
    rw [e3] at e4
    injection e4 with e5 e6 e7
    obtain⟨b,off,e8,g1,g2⟩:=f3 (by omega)
    subst e5;subst e7;subst e8
    exact zlo L _ _ b off cap1 s W f1 (by unfold maxLen at f2;omega) g1 g2
   clear hlay hm hmt hmk hkl hol hord hrg hoo
   go_enter Tryz.func17,Tryz.ntmps17
   go_wp2_with fail
   refine (HLY.out _ (HL.out.below HB0.out) (HK.out.below HB0.out) (HO.out.below HB0.out)).mono ?_
   rintro e x1 ⟨hbx,hyes,-⟩
   obtain⟨xa,xc,rfl,hof⟩:=hyes HLAY.out
   have hb1:Below (w.heap.size+1+1+1) (((w.alloc (.cells #[.slice a0 L.logs.length cap0,.slice a1 L.body.length cap1,.slice a2 L.outs.length cap2] 25)).alloc (.cells #[iV p0,iV p1,iV p2,iV q0,iV q1,iV q2,iV r] 28)).alloc (.cells #[iV pc,iV st,.slice ka ops.length kc] 31)) x1:=by rw [<-HS.out];exact hbx
   have HB1:=z5 hb1
   obtain⟨⟨l0,l1,l2⟩,⟨t0,t1,t2,t3,t4,t5,t6⟩,⟨k0,k1,k2⟩,hz,hbw⟩:=zZ hb1
   have HW1:=z5 hbw
   have HOF1:=z5 hof
   clear hbx hb1 hbw hof hyes
   go_wp2_with fail
   refine (HED.out _ (HL.out.below HW1.out)).mono ?_
   rintro e x2 ⟨ev,rfl,hev,hbx⟩
   have HB2:=z5 (HB1.out.trans (hbx.mono (by omega)))
   have HOF:=z5 (HOF1.out.below hbx)
   have HEV:=z5 hev
   obtain⟨ea,ec,rfl,he1,he2,-⟩:=id hev
   unfold maxLen at he2
   clear l0 l1 l2 t0 t1 t2 t3 t4 t5 t6 k0 k1 k2 hz
   obtain⟨⟨l0,l1,l2⟩,⟨t0,t1,t2,t3,t4,t5,t6⟩,⟨k0,k1,k2⟩,hz,hbw⟩:=zZ HB2.out
   have HW2:=z5 hbw
   have HL2:=z5 (HL.out.below hbw)
   have HK2:=z5 (HK.out.below hbw)
   have HO2:=z5 (HO.out.below hbw)
   obtain⟨fb,fo,rfl,hfb,hfcell,hfl,hfm⟩:∃fb fo,xa=some ⟨fb,fo,none⟩/\fb<x2.heap.size/\(∀i,i<L.body.length->x2.cell? ⟨fb,fo+i*3,none⟩=some (iV (zX ⟨pc,st,ops⟩ O i))/\x2.cell? ⟨fb,fo+i*3+1,none⟩=some (iV (zA ⟨p0,p1,p2,q0,q1,q2,r⟩ ⟨pc,st,ops⟩ O i))/\x2.cell? ⟨fb,fo+i*3+2,none⟩=some (iV (zm ⟨pc,st,ops⟩ O i)))/\L.body.length<=xc/\xc<=9223372036854775807:=by
    obtain⟨y1,y2,e3,f1,f2,f3⟩:=HOF.out
    injection e3 with e5 e6 e7
    obtain⟨fb,fo,e8,g1,g2⟩:=f3 (by omega)
    exact⟨fb,fo,by rw [e5,e8],g1,g2,by omega,by unfold maxLen at f2;omega⟩
   have HFC:=z5 hfcell
   clear hbx hbw hev HB1 HW1 HOF1 hfcell
   have hza:w.heap.size<x2.heap.size:=by omega
   have hzb:w.heap.size+1<x2.heap.size:=by omega
   go_wp2_with fail
   clear l0 l1 l2 t0 t1 t2 t3 t4 t5 t6 k0 k1 k2
   go_loopw [12] (fun iv wr=>∃k:Nat,k<=(z8 L ⟨p0,p1,p2,q0,q1,q2,r⟩).length/\iv=iV k/\zh (fun i=>Yy ⟨pc,st,ops⟩ O (zu (z8 L ⟨p0,p1,p2,q0,q1,q2,r⟩) i)) k=true/\Below x2.heap.size x2 wr) (fun iv _=>(z8 L ⟨p0,p1,p2,q0,q1,q2,r⟩).length - (intOf iv).toNat)
   case atStart=>exact⟨0,Nat.zero_le _,rfl,rfl,Below.refl _ _⟩
   case round =>
    obtain⟨k,hk,rfl,hall,hbel⟩:=hrel
    have HA:=z5 hall
    have HBL:=z5 hbel
    obtain⟨⟨l0,l1,l2⟩,⟨t0,t1,t2,t3,t4,t5,t6⟩,⟨k0,k1,k2⟩,hz2,hbw⟩:=zZ (HB2.out.trans (hbel.mono (by omega)))
    have HW:=z5 hbw
    have hzr:=hbel.size
    have hza2:w.heap.size<wr.heap.size:=by omega
    have hzb2:w.heap.size+1<wr.heap.size:=by omega
    have hfbz:fb<wr.heap.size:=by omega
    clear hall hbel hbw
    by_cases hkl:k<(z8 L ⟨p0,p1,p2,q0,q1,q2,r⟩).length
    ·have hki:(k:Int)<((z8 L ⟨p0,p1,p2,q0,q1,q2,r⟩).length:Int):=by omega
     obtain⟨y1,y2,e3,f1,f2,f3⟩:=HEV.out.below HBL.out
     injection e3 with e5 e6 e7
     subst e5;subst e7
     obtain⟨eb,eo,rfl,hebz,hecell⟩:=f3 (by omega)
     obtain⟨c0,c1,c2,c3⟩:=zac (hecell k hkl)
     obtain⟨fr,to,bk,wt,hed,hfr,hto,-,hwt,hbk⟩:=HEK.out _ (Zf hkl)
     have HSTEP:Hid (zh (fun i=>Yy ⟨pc,st,ops⟩ O (zu (z8 L ⟨p0,p1,p2,q0,q1,q2,r⟩) i)) (k+1)=Yy ⟨pc,st,ops⟩ O (zu (z8 L ⟨p0,p1,p2,q0,q1,q2,r⟩) k)):=by show (zh _ k && _)=_;rw [HA.out,Bool.true_and]
     have HNO:Hid (Yy ⟨pc,st,ops⟩ O (zu (z8 L ⟨p0,p1,p2,q0,q1,q2,r⟩) k)=false->yv L ⟨p0,p1,p2,q0,q1,q2,r⟩ ⟨pc,st,ops⟩ O=false):=fun h=>HFNO.out (.inr (.inl (zw hkl h)))
     have HEJ:Hid (Yy ⟨pc,st,ops⟩ O ⟨fr,to,bk,wt⟩=decide (zX ⟨pc,st,ops⟩ O fr+wt<=zX ⟨pc,st,ops⟩ O to+bk*pc)):=rfl
     rw [hed] at c0 c1 c2 c3 HSTEP HNO
     simp only at c0 c1 c2 c3
     have cf:=(HFC.out fr hfr).1
     have ct:=(HFC.out to hto).1
     rw [<-zc HBL.out _ _ hfb] at cf ct
     obtain⟨rf1,rf2,-⟩:=HRG.out fr hfr
     obtain⟨rt1,rt2,-⟩:=HRG.out to hto
     generalize zX ⟨pc,st,ops⟩ O fr=tf at *
     generalize zX ⟨pc,st,ops⟩ O to=tt at *
     have hbp1:0<=(bk:Int)*pc:=Int.mul_nonneg (by omega) (by omega)
     have hbp2:(bk:Int)*pc<=32*200:=Int.mul_le_mul (by omega) hpc2 (by omega) (by omega)
     obtain⟨bp,hbp⟩:∃bp,(bk:Int)*pc=bp:=⟨_,rfl⟩
     rw [hbp] at hbp1 hbp2 HEJ
     have hw0:IntKind.i64.wrap ((bk:Int)*pc)=bp:=by rw [hbp,IntKind.wrap_i64];omega
     have hw1:IntKind.i64.wrap (tt+bp)=tt+bp:=by rw [IntKind.wrap_i64];omega
     have hw2:IntKind.i64.wrap (tf+(wt:Int))=tf+(wt:Int):=by rw [IntKind.wrap_i64];omega
     have hfri:(fr:Int)<(L.body.length:Int):=by omega
     have htoi:(to:Int)<(L.body.length:Int):=by omega
     clear hecell f3 hed e6 hbp l0 l1 l2 t0 t1 t2 t3 t4 t5 t6 k1 k2
     by_cases hlt:tt+bp<tf+(wt:Int)
     ·have hltd:decide (tt+bp<tf+(wt:Int))=true:=decide_eq_true hlt
      have HN:Hid (yv L ⟨p0,p1,p2,q0,q1,q2,r⟩ ⟨pc,st,ops⟩ O=false):=HNO.out (by rw [HEJ.out,decide_eq_false (by omega)])
      clear HNO HEJ HSTEP
      go_wp2_with fail
      go_big_quiet ((fail))
      go_wp2_with fail
      go_ret
      exact⟨z7 HN.out.symm,HW.out.trans (((below_alloc1 wr _).trans (below_draws _ _ _)).mono HW.out.size)⟩
     ·have hltd:decide (tt+bp<tf+(wt:Int))=false:=decide_eq_false hlt
      have HN:Hid (zh (fun i=>Yy ⟨pc,st,ops⟩ O (zu (z8 L ⟨p0,p1,p2,q0,q1,q2,r⟩) i)) (k+1)=true):=by show _=_;rw [HSTEP.out,HEJ.out,decide_eq_true (by omega)]
      clear HNO HEJ HSTEP
      go_wp2_with fail
      go_big_quiet ((fail))
      go_wp2_with fail
      go_roundw
      case rel=>exact⟨k+1,by omega,by go_num,HN.out,HBL.out.trans (((below_alloc1 wr _).trans (below_draws _ _ _)).mono hzr)⟩
      case measure=>simp [intOf];omega
    ·have e:k=(z8 L ⟨p0,p1,p2,q0,q1,q2,r⟩).length:=by omega
     subst e
     have hki:¬((z8 L ⟨p0,p1,p2,q0,q1,q2,r⟩).length:Int)<((z8 L ⟨p0,p1,p2,q0,q1,q2,r⟩).length:Int):=by omega
     have HEDG:Hid (zh (fun i=>Yy ⟨pc,st,ops⟩ O (zu (z8 L ⟨p0,p1,p2,q0,q1,q2,r⟩) i)) (z8 L ⟨p0,p1,p2,q0,q1,q2,r⟩).length=true):=HA.out
     clear HA l0 l1 l2 t0 t1 t2 t3 t4 t5 t6 k0 k1 k2
     rename World=>wo
     go_wp2_with fail
     obtain⟨PF,hPF⟩:∃PF,xx L ⟨p0,p1,p2,q0,q1,q2,r⟩ ⟨pc,st,ops⟩ O L.body.length=PF:=⟨_,rfl⟩
     have HPFL:Hid (PF.length=xT (ym L) L.body.length):=by show _=_;rw [<-hPF];exact Uf _ _ _
     have HPFE:=z5 hPF
     have HFA:Hid (∀s q,s<L.body.length->q<ym L s->nth PF (xT (ym L) s+q)=(zm ⟨pc,st,ops⟩ O s - ((q:Int)+1)) % r):=fun s q h1 h2=>by rw [<-hPF];exact zbv (ym L) (Uc ⟨p0,p1,p2,q0,q1,q2,r⟩ ⟨pc,st,ops⟩ O) L.body.length s q h1 h2
     have HPB:Hid (∀s,s<=L.body.length->xT (ym L) s<=3*s):=by
      intro s
      induction s with
      | zero=>exact fun _=>Nat.le_refl _
      | succ s ih =>
        intro hs
        have h1:=ih (by omega)
        have h2:=(HFT.out s (by omega)).1
        show xT (ym L) s+ym L s<=_
        omega
     have HBO:=z5 HBL.out
     have hzo:=hzr
     obtain⟨j0,ji,jz0,jz1,jz2⟩:=info_parts Tryz.j3
     clear hPF
     go_loopw [14,15] (fun fv iv wr=>∃s:Nat,s<=L.body.length/\iv=iV s/\∃fa fc,fv=.slice fa (xT (ym L) s) fc/\wr.ownsRow x2.heap.size 3 1 (.slice fa (xT (ym L) s) fc) (xT (ym L) s) ((PF.take (xT (ym L) s)).map (Value.int .i64))/\zh (fun s=>zh (YV L ⟨p0,p1,p2,q0,q1,q2,r⟩ ⟨pc,st,ops⟩ O s) (za (z6 L.body s)).length) s=true/\zh (xU PF) (xT (ym L) s)=true/\Below x2.heap.size x2 wr) (fun _ iv _=>L.body.length - (intOf iv).toNat)
     case atStart=>exact⟨0,Nat.zero_le _,rfl,none,0,rfl,World.ownsRow_nil _ _ _ _,rfl,rfl,HBO.out⟩
     case round =>
      clear HBO HBL HW hzo hzr hza2 hzb2 hfbz hz2
      obtain⟨s,hs,rfl,fa,fc,rfl,hown,huse,hfre,hbel⟩:=hrel
      have HOW:=z5 hown
      have HU:=z5 huse
      have HFR:=z5 hfre
      have HBL:=z5 hbel
      obtain⟨⟨l0,l1,l2⟩,⟨t0,t1,t2,t3,t4,t5,t6⟩,⟨k0,k1,k2⟩,hz2,hbw⟩:=zZ (HB2.out.trans (hbel.mono (by omega)))
      have HW:=z5 hbw
      have hzr:=hbel.size
      clear hown huse hfre hbel hbw
      by_cases hsl:s<L.body.length
      ·have hsi:(s:Int)<(L.body.length:Int):=by omega
       obtain⟨y1,y2,e3,f1,f2,-,f3⟩:=HO2.out.below HBL.out
       injection e3 with e5 e6 e7
       subst e5;subst e7
       unfold maxLen at f2
       obtain⟨ob,oo,rfl,hobz,hocell⟩:=f3 (by have:=HOLN.out;omega)
       have cO:=hocell s (by have:=HOLN.out;omega)
       have hsO:(s:Int)<(O.length:Int):=by have:=HOLN.out;omega
       obtain⟨ho1,ho2,-⟩:=X6 (HORD.out s hsl).1
       obtain⟨ox,hox⟩:∃ox:Nat,nth O s=(ox:Int):=⟨(nth O s).toNat,by omega⟩
       rw [hox] at cO ho1 ho2
       have hoxo:ox<ops.length:=by have:=HKL.out;omega
       have hoxi:(ox:Int)<(ops.length:Int):=by omega
       obtain⟨z1,z2,g3,u1,u2,u3⟩:=HK2.out.below HBL.out
       injection g3 with g5 g6 g7
       subst g5;subst g7
       unfold maxLen at u2
       obtain⟨kb,ko,rfl,hkbz,hkcell⟩:=u3 (by omega)
       obtain⟨c0,c1,c2,c3,c4,c5,c6,c7,c8,c9⟩:=ten (hkcell ox hoxo)
       obtain⟨-,-,⟨gs1,gs2⟩,-,-,-⟩:=HOPR.out ox hoxo
       have HOPJ:Hid (opJ ⟨pc,st,ops⟩ O s=zq ops ox):=by show zq ops (nth O s).toNat=_;rw [hox,Int.toNat_natCast]
       obtain⟨b,off,rfl,hbz,hbody,hl1,hm1⟩:∃b off,a1=some ⟨b,off,none⟩/\b<wr.heap.size/\(∀i,i<L.body.length->∀j,j<9->wr.cell? ⟨b,off+i*9+j,none⟩=(zJ (z6 L.body i))[j]?)/\L.body.length<=cap1/\cap1<=9223372036854775807:=by
        obtain⟨v0,v1,v2,e,-,⟨x1,y1,e3,f1,f2,f3⟩,-⟩:=HL2.out.below HBL.out
        simp only [Value.agg.injEq,Array.mk.injEq,List.cons.injEq,and_true] at e
        obtain⟨-,e4,-⟩:=e
        rw [e3] at e4
        injection e4 with e5 e6 e7
        obtain⟨b,off,e8,g1,g2⟩:=f3 (by omega)
        refine⟨b,off,by rw [e5,e8],g1,g2,by omega,by unfold maxLen at f2;omega⟩
       obtain⟨b0,b1,b2,b3,b4,b5,b6,b7,b8⟩:=Zj (fun j hj=>hbody s hsl j hj)
       have HUS:Hid (∀W,Calls Tryz.prog 47 #[.agg #[iV (z6 L.body s).o,iV (z6 L.body s).xa,iV (z6 L.body s).xb,iV (z6 L.body s).ya,iV (z6 L.body s).yb,iV (z6 L.body s).ar,iV (z6 L.body s).sp,iV (z6 L.body s).pl,iV (z6 L.body s).nn]] W fun e w'=>∃v,e=.returned v/\za0 w' v (za (z6 L.body s))/\Below W.heap.size W w'):=fun W=>UI (z6 L.body s) W
       have HUSL:Hid ((za (z6 L.body s)).length<=2):=by
        show _<=_
        unfold za
        split
        ·simp
        ·split <;> simp
       have HUSE2:=z5 (HUSE.out s hsl)
       have HSTEPU:Hid (zh (fun s=>zh (YV L ⟨p0,p1,p2,q0,q1,q2,r⟩ ⟨pc,st,ops⟩ O s) (za (z6 L.body s)).length) (s+1)=zh (YV L ⟨p0,p1,p2,q0,q1,q2,r⟩ ⟨pc,st,ops⟩ O s) (za (z6 L.body s)).length):=by show (zh _ s && _)=_;rw [HU.out,Bool.true_and]
       have HNOU:Hid (∀i,i<(za (z6 L.body s)).length->YV L ⟨p0,p1,p2,q0,q1,q2,r⟩ ⟨pc,st,ops⟩ O s i=false->yv L ⟨p0,p1,p2,q0,q1,q2,r⟩ ⟨pc,st,ops⟩ O=false):=fun i h1 h2=>HFNO.out (.inr (.inr (.inl (zw hsl (zw h1 h2)))))
       have HUJ:Hid (∀i,YV L ⟨p0,p1,p2,q0,q1,q2,r⟩ ⟨pc,st,ops⟩ O s i=(decide ((if i=1 then (zq ops ox).b else (zq ops ox).a)=(zm ⟨pc,st,ops⟩ O (zi (za (z6 L.body s)) i).1.toNat - (zi (za (z6 L.body s)) i).2 - (zq ops ox).sg) % r) && Ui L ⟨p0,p1,p2,q0,q1,q2,r⟩ ⟨pc,st,ops⟩ O (zi (za (z6 L.body s)) i).1.toNat (zi (za (z6 L.body s)) i).2 (zX ⟨pc,st,ops⟩ O s+(zi (za (z6 L.body s)) i).2*pc))):=fun i=>by rw [<-HOPJ.out];rfl
       generalize za (z6 L.body s)=us at *
       generalize zq ops ox=kx at *
       generalize z6 L.body s=sx at *
       obtain⟨sl,sg,o,dd,oa1,ob1,ar,sp,pl,nn⟩:=kx
       obtain⟨o',xa',xb',ya',yb',ar',sp',pl',nn'⟩:=sx
       dsimp only at gs1 gs2 c0 c1 c2 c3 c4 c5 c6 c7 c8 c9 b0 b1 b2 b3 b4 b5 b6 b7 b8 HUJ
       clear hocell hkcell hbody f3 u3 hox e6 g6 HOPJ
       have HSS:Hid (∀w':World,Below wr.heap.size wr w'->w'.cell? ⟨w.heap.size+1+1,2,none⟩=some (.slice (some ⟨kb,ko,none⟩) ops.length kc)/\w'.cell? ⟨ob,oo+s,none⟩=some (iV (ox:Int))/\w'.cell? ⟨kb,ko+ox*10,none⟩=some (iV sl)/\w'.cell? ⟨kb,ko+ox*10+1,none⟩=some (iV sg)/\w'.cell? ⟨kb,ko+ox*10+2,none⟩=some (iV o)/\w'.cell? ⟨kb,ko+ox*10+3,none⟩=some (iV dd)/\w'.cell? ⟨kb,ko+ox*10+4,none⟩=some (iV oa1)/\w'.cell? ⟨kb,ko+ox*10+5,none⟩=some (iV ob1)/\w'.cell? ⟨kb,ko+ox*10+6,none⟩=some (iV ar)/\w'.cell? ⟨kb,ko+ox*10+7,none⟩=some (iV sp)/\w'.cell? ⟨kb,ko+ox*10+8,none⟩=some (iV pl)/\w'.cell? ⟨kb,ko+ox*10+9,none⟩=some (iV nn)):=by
        intro w' h
        refine⟨?_,?_,?_,?_,?_,?_,?_,?_,?_,?_,?_,?_⟩
        all_goals (rw [zc h _ _ (by omega)];assumption)
       go_wp2_with fail
       refine wp_region_noPanic ?_
       refine ze 9 (fun w'=>w'.cell? ⟨w.heap.size+1+1,2,none⟩=some (.slice (some ⟨kb,ko,none⟩) ops.length kc)/\w'.cell? ⟨ob,oo+s,none⟩=some (iV (ox:Int))/\w'.cell? ⟨kb,ko+ox*10,none⟩=some (iV sl)/\w'.cell? ⟨kb,ko+ox*10+1,none⟩=some (iV sg)/\w'.cell? ⟨kb,ko+ox*10+2,none⟩=some (iV o)/\w'.cell? ⟨kb,ko+ox*10+3,none⟩=some (iV dd)/\w'.cell? ⟨kb,ko+ox*10+4,none⟩=some (iV oa1)/\w'.cell? ⟨kb,ko+ox*10+5,none⟩=some (iV ob1)/\w'.cell? ⟨kb,ko+ox*10+6,none⟩=some (iV ar)/\w'.cell? ⟨kb,ko+ox*10+7,none⟩=some (iV sp)/\w'.cell? ⟨kb,ko+ox*10+8,none⟩=some (iV pl)/\w'.cell? ⟨kb,ko+ox*10+9,none⟩=some (iV nn)) (by kernel_rfl) (HSS.out _ (zP _ _)) (fun hHeld=>?_)
       refine utk (i:=0) rfl hHeld ?_
       refine utk (i:=1) rfl hHeld ?_
       refine utk (i:=2) rfl hHeld ?_
       refine utk (i:=3) rfl hHeld ?_
       refine utk (i:=4) rfl hHeld ?_
       refine utk (i:=5) rfl hHeld ?_
       refine utk (i:=6) rfl hHeld ?_
       refine utk (i:=7) rfl hHeld ?_
       obtain⟨W0,hW0,hWb,hWs⟩:∃W0:World,wr.drew=W0/\Below wr.heap.size wr W0/\W0.heap.size=wr.heap.size:=⟨_,rfl,zP _ _,rfl⟩
       have hHeld:=HSS.out W0 hWb
       rw [hW0]
       have HWS:=z5 hWs
       clear hWs
       refine z9 (i:=8) rfl (by kernel_rfl) (fun K hK9=>?_)
       go_simp
       have hHeld:=HSS.out _ (hWb.alloc (by have:=HWS.out;omega) (.cells #[iV 0,iV 0,iV 0,iV 0,iV 0,iV 0,iV 0,iV 0,iV 0,iV 0] 37))
       refine nxt hK9.out (.inr hHeld) ?_
       clear hK9 K
       refine z9 (i:=9) rfl (by kernel_rfl) (fun K hK9=>?_)
       go_simp
       refine nxt hK9.out (.inl rfl) ?_
       clear hK9 K
       refine zf (by kernel_rfl) ?_ _
       refine NoPanic.normal ?_
       clear hHeld HSS hW0
       have HWB:=z5 hWb
       have HB0x:=z5 (HBL.out.trans (hWb.mono hzr))
       rw [<-zc hWb _ _ hbz] at b0 b1 b2 b3 b4 b5 b6 b7 b8
       clear l0 l1 l2 t0 t1 t2 t3 t4 t5 t6 k0 k1 k2 cO c0 c1 c2 c3 c4 c5 c6 c7 c8 c9 hz2
       obtain⟨⟨l0,l1,l2⟩,⟨t0,t1,t2,t3,t4,t5,t6⟩,⟨k0,k1,k2⟩,hz2,hbw0⟩:=zZ (HB2.out.trans (HB0x.out.mono (by omega)))
       have HW0:=z5 hbw0
       have hwz:wr.heap.size=W0.heap.size:=HWS.out.symm
       have hbz0:b<W0.heap.size:=by omega
       have hza0:w.heap.size<W0.heap.size:=by omega
       have hzb0:w.heap.size+1<W0.heap.size:=by omega
       have hxz0:x2.heap.size<=W0.heap.size:=by omega
       have HZ:=z5 hwz
       have HOPX:Hid (∀y:World,Below (W0.heap.size+1) (W0.alloc (.cells #[iV sl,iV sg,iV o,iV dd,iV oa1,iV ob1,iV ar,iV sp,iV pl,iV nn] 37)) y->y.cell? ⟨W0.heap.size,1,none⟩=some (iV sg)/\y.cell? ⟨W0.heap.size,4,none⟩=some (iV oa1)/\y.cell? ⟨W0.heap.size,5,none⟩=some (iV ob1)/\W0.heap.size<y.heap.size):=fun y h=>by
        have h':Below (W0.alloc (.cells #[iV sl,iV sg,iV o,iV dd,iV oa1,iV ob1,iV ar,iV sp,iV pl,iV nn] 37)).heap.size (W0.alloc (.cells #[iV sl,iV sg,iV o,iV dd,iV oa1,iV ob1,iV ar,iV sp,iV pl,iV nn] 37)) y:=by simpa using h
        have hz:=h.size
        refine⟨?_,?_,?_,by simp at hz;omega⟩
        all_goals rw [zc h' _ _ (by simp)]
        all_goals go_simp
       clear hWb hwz hbw0
       go_wp2_with fail
       refine (HUS.out _).mono ?_
       rintro e x3 ⟨uv,rfl,hU,hb3⟩
       have hb4:Below (W0.heap.size+1) (W0.alloc (.cells #[iV sl,iV sg,iV o,iV dd,iV oa1,iV ob1,iV ar,iV sp,iV pl,iV nn] 37)) x3:=by simpa using hb3
       have HB3:=z5 hb4
       have HX3:=z5 (HB0x.out.trans (((below_alloc1 W0 (.cells #[iV sl,iV sg,iV o,iV dd,iV oa1,iV ob1,iV ar,iV sp,iV pl,iV nn] 37)).trans (hb3.mono (by simp))).mono hxz0))
       have HO3:=z5 (zt HOW.out (HWB.out.trans (((below_alloc1 W0 (.cells #[iV sl,iV sg,iV o,iV dd,iV oa1,iV ob1,iV ar,iV sp,iV pl,iV nn] 37)).trans (hb3.mono (by simp))).mono (by have:=HZ.out;omega))))
       have HUV:=z5 hU
       obtain⟨ua,uc,rfl,hu1,hu2,-⟩:=id hU
       unfold maxLen at hu2
       clear hb3 hb4 hU b0 b1 b2 b3 b4 b5 b6 b7 b8 l0 l1 l2 t0 t1 t2 t3 t4 t5 t6 k0 k1 k2
       go_wp2_with fail
       go_loopw [18] (fun iv wr3=>∃i:Nat,i<=us.length/\iv=iV i/\zh (YV L ⟨p0,p1,p2,q0,q1,q2,r⟩ ⟨pc,st,ops⟩ O s) i=true/\Below x3.heap.size x3 wr3) (fun iv _=>us.length - (intOf iv).toNat)
       case atStart=>exact⟨0,Nat.zero_le _,rfl,rfl,Below.refl _ _⟩
       case round =>
        rename World=>wr3
        obtain⟨i,hi,rfl,hall,hbel⟩:=hrel
        have HA:=z5 hall
        have HBL3:=z5 hbel
        have hx3z:=HB3.out.size
        simp at hx3z
        have HBX3:=z5 (HX3.out.trans (hbel.mono (by omega)))
        obtain⟨⟨l0,l1,l2⟩,⟨t0,t1,t2,t3,t4,t5,t6⟩,⟨k0,k1,k2⟩,hz3b,hbw⟩:=zZ (HB2.out.trans (HBX3.out.mono (by omega)))
        have HW3:=z5 hbw
        obtain⟨o1,o4,o5,oz⟩:=HOPX.out wr3 (HB3.out.trans (hbel.mono (by omega)))
        have hz3:=hbel.size
        clear hall hbel hbw
        by_cases hil:i<us.length
        ·have hii:(i:Int)<(us.length:Int):=by omega
         obtain⟨y1,y2,e3,f1,f2,f3⟩:=HUV.out.below HBL3.out
         injection e3 with e5 e6 e7
         subst e5;subst e7
         obtain⟨ub,uo,rfl,hubz,hucell⟩:=f3 (by omega)
         obtain⟨d0,d1⟩:=hucell i hil
         obtain⟨rf1,rf2,rf3,rf4⟩:=HUSE2.out _ (xv hil)
         have HUI:=z5 (HUJ.out i)
         have HNO3:=z5 (HNOU.out i hil)
         have HST:Hid (zh (YV L ⟨p0,p1,p2,q0,q1,q2,r⟩ ⟨pc,st,ops⟩ O s) (i+1)=YV L ⟨p0,p1,p2,q0,q1,q2,r⟩ ⟨pc,st,ops⟩ O s i):=by show (zh _ i && _)=_;rw [HA.out,Bool.true_and]
         generalize zi us i=rf at *
         obtain⟨at0,bk⟩:=rf
         dsimp only at d0 d1 rf1 rf2 rf3 rf4 HUI
         obtain⟨at_,rfl⟩:∃at_:Nat,at0=(at_:Int):=⟨at0.toNat,by omega⟩
         rw [Int.toNat_natCast] at HUI
         have hatl:at_<L.body.length:=by omega
         have cP:=(HFC.out at_ hatl).2.2
         have cT:=(HFC.out s hsl).1
         rw [<-zc HBX3.out _ _ hfb] at cP cT
         have hfbz:fb<wr3.heap.size:=by omega
         obtain⟨pa1,pa2⟩:=HPL.out at_ hatl
         obtain⟨tm1,tm2,-⟩:=HRG.out s hsl
         have HKC:=z5 (fun (W:World) (hW:Below wr3.heap.size wr3 W)=>zj0 L.body.length (zX ⟨pc,st,ops⟩ O) (zA ⟨p0,p1,p2,q0,q1,q2,r⟩ ⟨pc,st,ops⟩ O) (zm ⟨pc,st,ops⟩ O) pc r at_ bk (zX ⟨pc,st,ops⟩ O s+bk*pc) (some ⟨fb,fo,none⟩) xc W ((HOF.out.below HBX3.out).below hW) hatl h16 (fun m hm=>by have:=HRG.out m hm;omega) (fun m hm=>by have:=HPL.out m hm;omega) hpc1 hpc2 hr1 hr2)
         have HKJ:Hid (zaj (zA ⟨p0,p1,p2,q0,q1,q2,r⟩ ⟨pc,st,ops⟩ O) (zm ⟨pc,st,ops⟩ O) pc r L.body.length at_ bk (zX ⟨pc,st,ops⟩ O s+bk*pc)=Ui L ⟨p0,p1,p2,q0,q1,q2,r⟩ ⟨pc,st,ops⟩ O at_ bk (zX ⟨pc,st,ops⟩ O s+bk*pc)):=rfl
         rw [HKJ.out] at HKC
         obtain⟨pla,hpla⟩:∃pla,zm ⟨pc,st,ops⟩ O at_=pla:=⟨_,rfl⟩
         rw [hpla] at cP pa1 pa2 HUI
         obtain⟨ts,hts⟩:∃ts,zX ⟨pc,st,ops⟩ O s=ts:=⟨_,rfl⟩
         rw [hts] at cT tm1 tm2 HUI HKC
         have hbp1:0<=bk*pc:=Int.mul_nonneg rf3 (by omega)
         have hbp2:bk*pc<=3*200:=Int.mul_le_mul rf4 hpc2 (by omega) (by omega)
         obtain⟨bp,hbp⟩:∃bp,bk*pc=bp:=⟨_,rfl⟩
         rw [hbp] at hbp1 hbp2 HUI HKC
         obtain⟨rr,hrr⟩:∃rr,(pla - bk - sg) % r=rr:=⟨_,rfl⟩
         have HUV2:=z5 HUI.out
         rw [hrr] at HUV2
         have hw0:IntKind.i64.wrap (bk*pc)=bp:=by rw [hbp,IntKind.wrap_i64];omega
         have hw1:IntKind.i64.wrap (ts+bp)=ts+bp:=by rw [IntKind.wrap_i64];omega
         have hw2:IntKind.i64.wrap (pla - bk)=pla - bk:=by rw [IntKind.wrap_i64];omega
         have hw3:IntKind.i64.wrap (pla - bk - sg)=pla - bk - sg:=by rw [IntKind.wrap_i64];omega
         have HRS:Hid (∀W,Calls Tryz.prog 48 #[iV (pla - bk - sg),iV r] W fun e w'=>e=.returned (iV rr)/\w'=W):=fun W=>by rw [<-hrr];exact HREST.out _ W (by omega) (by omega)
         have hati:(at_:Int)<(L.body.length:Int):=by omega
         have hza3:w.heap.size<wr3.heap.size:=by omega
         have hzb3:w.heap.size+1<wr3.heap.size:=by omega
         have HSS:Hid (∀w':World,Below wr3.heap.size wr3 w'->w'.cell? ⟨ub,uo+i*2,none⟩=some (iV (at_:Int))/\w'.cell? ⟨ub,uo+i*2+1,none⟩=some (iV bk)/\w'.cell? ⟨fb,fo+at_*3+2,none⟩=some (iV pla)/\w'.cell? ⟨fb,fo+s*3,none⟩=some (iV ts)/\w'.cell? ⟨W0.heap.size,1,none⟩=some (iV sg)/\w'.cell? ⟨w.heap.size+1,6,none⟩=some (iV r)/\w'.cell? ⟨w.heap.size+1+1,0,none⟩=some (iV pc)):=by
          intro w' h
          refine⟨?_,?_,?_,?_,?_,?_,?_⟩
          all_goals (rw [zc h _ _ (by omega)];assumption)
         clear hucell f3 e6 hpla hts hbp hrr HUI HKJ HA
         by_cases hi1:i=1
         ·have hib:((i:Int) == (1:Int))=true:=by simp [hi1]
          rw [if_pos hi1] at HUV2
          clear hi1
          as_aux_lemma =>
           by_cases hne:ob1=rr
           ·have hnb:(ob1 != rr)=false:=by simpa using hne
            cases hkp:Ui L ⟨p0,p1,p2,q0,q1,q2,r⟩ ⟨pc,st,ops⟩ O at_ bk (ts+bp) with
            | true =>
              have HT:Hid (zh (YV L ⟨p0,p1,p2,q0,q1,q2,r⟩ ⟨pc,st,ops⟩ O s) (i+1)=true):=by show _=_;rw [HST.out,HUV2.out,decide_eq_true hne,hkp];rfl
              have HKP:Hid (∀W,Below wr3.heap.size wr3 W->Calls Tryz.prog 49 #[.slice (some ⟨fb,fo,none⟩) L.body.length xc,iV pc,iV r,.agg #[iV (at_:Int),iV bk],iV (ts+bp)] W fun e w'=>e=.returned (.bool true)/\Below wr3.heap.size W w'):=fun W hW=>((hkp ▸ HKC.out W hW):Calls Tryz.prog 49 #[.slice (some ⟨fb,fo,none⟩) L.body.length xc,iV pc,iV r,.agg #[iV (at_:Int),iV bk],iV (ts+bp)] W fun e w'=>e=.returned (.bool true)/\Below W.heap.size W w').mono fun e w' ⟨h1,h2⟩=>⟨h1,h2.mono hW.size⟩
              clear hne hkp HST HUV2 HNO3
              go_wp2_with fail
              refine wp_region_noPanic ?_
              refine ze 99 (fun w'=>w'.cell? ⟨ub,uo+i*2,none⟩=some (iV (at_:Int))/\w'.cell? ⟨ub,uo+i*2+1,none⟩=some (iV bk)/\w'.cell? ⟨fb,fo+at_*3+2,none⟩=some (iV pla)/\w'.cell? ⟨fb,fo+s*3,none⟩=some (iV ts)/\w'.cell? ⟨W0.heap.size,1,none⟩=some (iV sg)/\w'.cell? ⟨w.heap.size+1,6,none⟩=some (iV r)/\w'.cell? ⟨w.heap.size+1+1,0,none⟩=some (iV pc)) (by kernel_rfl) (HSS.out _ (zP _ _)) (fun hHeld=>?_)
              refine utk (i:=0) rfl hHeld ?_
              refine utk (i:=1) rfl hHeld ?_
              refine utk (i:=2) rfl hHeld ?_
              refine utk (i:=3) rfl hHeld ?_
              refine utk (i:=4) rfl hHeld ?_
              refine utk (i:=5) rfl hHeld ?_
              refine utk (i:=6) rfl hHeld ?_
              refine utk (i:=7) rfl hHeld ?_
              refine utk (i:=8) rfl hHeld ?_
              refine utk (i:=9) rfl hHeld ?_
              refine utk (i:=10) rfl hHeld ?_
              refine utk (i:=11) rfl hHeld ?_
              refine utk (i:=12) rfl hHeld ?_
              refine utk (i:=13) rfl hHeld ?_
              refine utk (i:=14) rfl hHeld ?_
              refine utk (i:=15) rfl hHeld ?_
              refine utk (i:=16) rfl hHeld ?_
              refine utk (i:=17) rfl hHeld ?_
              refine utk (i:=18) rfl hHeld ?_
              refine utk (i:=19) rfl hHeld ?_
              refine utk (i:=20) rfl hHeld ?_
              refine z9 (i:=21) rfl (by kernel_rfl) (fun K hK9=>?_)
              go_simp
              refine (HRS.out _).mono ?_
              rintro e y2 ⟨rfl,hy2⟩
              have hy2:=hy2.symm
              subst hy2
              refine nxt hK9.out (.inr hHeld) ?_
              clear hK9 K
              refine utk (i:=22) rfl hHeld ?_
              refine utk (i:=23) rfl hHeld ?_
              refine utk (i:=24) rfl hHeld ?_
              refine utk (i:=25) rfl hHeld ?_
              refine utk (i:=26) rfl hHeld ?_
              refine utk (i:=27) rfl hHeld ?_
              refine utk (i:=28) rfl hHeld ?_
              refine utk (i:=29) rfl hHeld ?_
              refine utk (i:=30) rfl hHeld ?_
              refine utk (i:=31) rfl hHeld ?_
              refine utk (i:=32) rfl hHeld ?_
              refine utk (i:=33) rfl hHeld ?_
              refine utk (i:=34) rfl hHeld ?_
              refine utk (i:=35) rfl hHeld ?_
              refine utk (i:=36) rfl hHeld ?_
              refine utk (i:=37) rfl hHeld ?_
              refine utk (i:=38) rfl hHeld ?_
              refine utk (i:=39) rfl hHeld ?_
              refine utk (i:=40) rfl hHeld ?_
              refine utk (i:=41) rfl hHeld ?_
              refine utk (i:=42) rfl hHeld ?_
              refine utk (i:=43) rfl hHeld ?_
              refine utk (i:=44) rfl hHeld ?_
              refine utk (i:=45) rfl hHeld ?_
              refine utk (i:=46) rfl hHeld ?_
              refine z9 (i:=47) rfl (by kernel_rfl) (fun K hK9=>?_)
              go_simp
              refine (HKP.out _ (zP _ _)).mono ?_
              rintro e y3 ⟨rfl,hy3⟩
              have HY3:=z5 ((zP wr3.heap.size wr3).trans hy3)
              have hHeld:=HSS.out _ HY3.out
              clear hy3
              refine nxt hK9.out (.inr hHeld) ?_
              clear hK9 K
              refine utk (i:=48) rfl hHeld ?_
              refine utk (i:=49) rfl hHeld ?_
              refine zf (by kernel_rfl) ?_ _
              refine NoPanic.normal ?_
              clear hHeld
              go_wp2_with fail
              go_roundw
              case rel=>exact⟨i+1,by omega,by go_num,HT.out,HBL3.out.trans (HY3.out.mono hz3)⟩
              case measure=>simp [intOf];omega
            | false =>
              have HN:Hid (yv L ⟨p0,p1,p2,q0,q1,q2,r⟩ ⟨pc,st,ops⟩ O=false):=HNO3.out (by rw [HUV2.out,hkp];simp)
              have HKP:Hid (∀W,Below wr3.heap.size wr3 W->Calls Tryz.prog 49 #[.slice (some ⟨fb,fo,none⟩) L.body.length xc,iV pc,iV r,.agg #[iV (at_:Int),iV bk],iV (ts+bp)] W fun e w'=>e=.returned (.bool false)/\Below wr3.heap.size W w'):=fun W hW=>((hkp ▸ HKC.out W hW):Calls Tryz.prog 49 #[.slice (some ⟨fb,fo,none⟩) L.body.length xc,iV pc,iV r,.agg #[iV (at_:Int),iV bk],iV (ts+bp)] W fun e w'=>e=.returned (.bool false)/\Below W.heap.size W w').mono fun e w' ⟨h1,h2⟩=>⟨h1,h2.mono hW.size⟩
              clear hne hkp HST HUV2 HNO3
              go_wp2_with fail
              refine wp_region_noPanic ?_
              refine ze 99 (fun w'=>w'.cell? ⟨ub,uo+i*2,none⟩=some (iV (at_:Int))/\w'.cell? ⟨ub,uo+i*2+1,none⟩=some (iV bk)/\w'.cell? ⟨fb,fo+at_*3+2,none⟩=some (iV pla)/\w'.cell? ⟨fb,fo+s*3,none⟩=some (iV ts)/\w'.cell? ⟨W0.heap.size,1,none⟩=some (iV sg)/\w'.cell? ⟨w.heap.size+1,6,none⟩=some (iV r)/\w'.cell? ⟨w.heap.size+1+1,0,none⟩=some (iV pc)) (by kernel_rfl) (HSS.out _ (zP _ _)) (fun hHeld=>?_)
              refine utk (i:=0) rfl hHeld ?_
              refine utk (i:=1) rfl hHeld ?_
              refine utk (i:=2) rfl hHeld ?_
              refine utk (i:=3) rfl hHeld ?_
              refine utk (i:=4) rfl hHeld ?_
              refine utk (i:=5) rfl hHeld ?_
              refine utk (i:=6) rfl hHeld ?_
              refine utk (i:=7) rfl hHeld ?_
              refine utk (i:=8) rfl hHeld ?_
              refine utk (i:=9) rfl hHeld ?_
              refine utk (i:=10) rfl hHeld ?_
              refine utk (i:=11) rfl hHeld ?_
              refine utk (i:=12) rfl hHeld ?_
              refine utk (i:=13) rfl hHeld ?_
              refine utk (i:=14) rfl hHeld ?_
              refine utk (i:=15) rfl hHeld ?_
              refine utk (i:=16) rfl hHeld ?_
              refine utk (i:=17) rfl hHeld ?_
              refine utk (i:=18) rfl hHeld ?_
              refine utk (i:=19) rfl hHeld ?_
              refine utk (i:=20) rfl hHeld ?_
              refine z9 (i:=21) rfl (by kernel_rfl) (fun K hK9=>?_)
              go_simp
              refine (HRS.out _).mono ?_
              rintro e y2 ⟨rfl,hy2⟩
              have hy2:=hy2.symm
              subst hy2
              refine nxt hK9.out (.inr hHeld) ?_
              clear hK9 K
              refine utk (i:=22) rfl hHeld ?_
              refine utk (i:=23) rfl hHeld ?_
              refine utk (i:=24) rfl hHeld ?_
              refine utk (i:=25) rfl hHeld ?_
              refine utk (i:=26) rfl hHeld ?_
              refine utk (i:=27) rfl hHeld ?_
              refine utk (i:=28) rfl hHeld ?_
              refine utk (i:=29) rfl hHeld ?_
              refine utk (i:=30) rfl hHeld ?_
              refine utk (i:=31) rfl hHeld ?_
              refine utk (i:=32) rfl hHeld ?_
              refine utk (i:=33) rfl hHeld ?_
              refine utk (i:=34) rfl hHeld ?_
              refine utk (i:=35) rfl hHeld ?_
              refine utk (i:=36) rfl hHeld ?_
              refine utk (i:=37) rfl hHeld ?_
              refine utk (i:=38) rfl hHeld ?_
              refine utk (i:=39) rfl hHeld ?_
              refine utk (i:=40) rfl hHeld ?_
              refine utk (i:=41) rfl hHeld ?_
              refine utk (i:=42) rfl hHeld ?_
              refine utk (i:=43) rfl hHeld ?_
              refine utk (i:=44) rfl hHeld ?_
              refine utk (i:=45) rfl hHeld ?_
              refine utk (i:=46) rfl hHeld ?_
              refine z9 (i:=47) rfl (by kernel_rfl) (fun K hK9=>?_)
              go_simp
              refine (HKP.out _ (zP _ _)).mono ?_
              rintro e y3 ⟨rfl,hy3⟩
              have HY3:=z5 ((zP wr3.heap.size wr3).trans hy3)
              have hHeld:=HSS.out _ HY3.out
              clear hy3
              refine nxt hK9.out (.inr hHeld) ?_
              clear hK9 K
              refine utk (i:=48) rfl hHeld ?_
              refine utk (i:=49) rfl hHeld ?_
              refine zf (by kernel_rfl) ?_ _
              refine NoPanic.normal ?_
              clear hHeld
              go_wp2_with fail
              go_ret
              exact⟨z7 HN.out.symm,HW3.out.trans (HY3.out.mono HW3.out.size)⟩
           ·have hnb:(ob1 != rr)=true:=by simpa using hne
            have HN:Hid (yv L ⟨p0,p1,p2,q0,q1,q2,r⟩ ⟨pc,st,ops⟩ O=false):=HNO3.out (by rw [HUV2.out,decide_eq_false hne];rfl)
            clear hne HST HUV2 HNO3 HKC
            go_wp2_with fail
            go_big_quiet ((go_at_call 48;exact Calls.quiet_of_same (HRS.out _)))
            go_wp2_with fail
            go_ret
            exact⟨z7 HN.out.symm,HW3.out.trans (below_draws _ _ _)⟩
         ·have hib:((i:Int) == (1:Int))=false:=by simp;omega
          rw [if_neg hi1] at HUV2
          clear hi1
          as_aux_lemma =>
           by_cases hne:oa1=rr
           ·have hnb:(oa1 != rr)=false:=by simpa using hne
            cases hkp:Ui L ⟨p0,p1,p2,q0,q1,q2,r⟩ ⟨pc,st,ops⟩ O at_ bk (ts+bp) with
            | true =>
              have HT:Hid (zh (YV L ⟨p0,p1,p2,q0,q1,q2,r⟩ ⟨pc,st,ops⟩ O s) (i+1)=true):=by show _=_;rw [HST.out,HUV2.out,decide_eq_true hne,hkp];rfl
              have HKP:Hid (∀W,Below wr3.heap.size wr3 W->Calls Tryz.prog 49 #[.slice (some ⟨fb,fo,none⟩) L.body.length xc,iV pc,iV r,.agg #[iV (at_:Int),iV bk],iV (ts+bp)] W fun e w'=>e=.returned (.bool true)/\Below wr3.heap.size W w'):=fun W hW=>((hkp ▸ HKC.out W hW):Calls Tryz.prog 49 #[.slice (some ⟨fb,fo,none⟩) L.body.length xc,iV pc,iV r,.agg #[iV (at_:Int),iV bk],iV (ts+bp)] W fun e w'=>e=.returned (.bool true)/\Below W.heap.size W w').mono fun e w' ⟨h1,h2⟩=>⟨h1,h2.mono hW.size⟩
              clear hne hkp HST HUV2 HNO3
              go_wp2_with fail
              refine wp_region_noPanic ?_
              refine ze 99 (fun w'=>w'.cell? ⟨ub,uo+i*2,none⟩=some (iV (at_:Int))/\w'.cell? ⟨ub,uo+i*2+1,none⟩=some (iV bk)/\w'.cell? ⟨fb,fo+at_*3+2,none⟩=some (iV pla)/\w'.cell? ⟨fb,fo+s*3,none⟩=some (iV ts)/\w'.cell? ⟨W0.heap.size,1,none⟩=some (iV sg)/\w'.cell? ⟨w.heap.size+1,6,none⟩=some (iV r)/\w'.cell? ⟨w.heap.size+1+1,0,none⟩=some (iV pc)) (by kernel_rfl) (HSS.out _ (zP _ _)) (fun hHeld=>?_)
              refine utk (i:=0) rfl hHeld ?_
              refine utk (i:=1) rfl hHeld ?_
              refine utk (i:=2) rfl hHeld ?_
              refine utk (i:=3) rfl hHeld ?_
              refine utk (i:=4) rfl hHeld ?_
              refine utk (i:=5) rfl hHeld ?_
              refine utk (i:=6) rfl hHeld ?_
              refine utk (i:=7) rfl hHeld ?_
              refine utk (i:=8) rfl hHeld ?_
              refine utk (i:=9) rfl hHeld ?_
              refine utk (i:=10) rfl hHeld ?_
              refine utk (i:=11) rfl hHeld ?_
              refine utk (i:=12) rfl hHeld ?_
              refine utk (i:=13) rfl hHeld ?_
              refine utk (i:=14) rfl hHeld ?_
              refine utk (i:=15) rfl hHeld ?_
              refine utk (i:=16) rfl hHeld ?_
              refine utk (i:=17) rfl hHeld ?_
              refine utk (i:=18) rfl hHeld ?_
              refine utk (i:=19) rfl hHeld ?_
              refine utk (i:=20) rfl hHeld ?_
              refine z9 (i:=21) rfl (by kernel_rfl) (fun K hK9=>?_)
              go_simp
              refine (HRS.out _).mono ?_
              rintro e y2 ⟨rfl,hy2⟩
              have hy2:=hy2.symm
              subst hy2
              refine nxt hK9.out (.inr hHeld) ?_
              clear hK9 K
              refine utk (i:=22) rfl hHeld ?_
              refine utk (i:=23) rfl hHeld ?_
              refine utk (i:=24) rfl hHeld ?_
              refine utk (i:=25) rfl hHeld ?_
              refine utk (i:=26) rfl hHeld ?_
              refine utk (i:=27) rfl hHeld ?_
              refine utk (i:=28) rfl hHeld ?_
              refine utk (i:=29) rfl hHeld ?_
              refine utk (i:=30) rfl hHeld ?_
              refine utk (i:=31) rfl hHeld ?_
              refine utk (i:=32) rfl hHeld ?_
              refine utk (i:=33) rfl hHeld ?_
              refine utk (i:=34) rfl hHeld ?_
              refine utk (i:=35) rfl hHeld ?_
              refine utk (i:=36) rfl hHeld ?_
              refine utk (i:=37) rfl hHeld ?_
              refine utk (i:=38) rfl hHeld ?_
              refine utk (i:=39) rfl hHeld ?_
              refine utk (i:=40) rfl hHeld ?_
              refine utk (i:=41) rfl hHeld ?_
              refine utk (i:=42) rfl hHeld ?_
              refine utk (i:=43) rfl hHeld ?_
              refine utk (i:=44) rfl hHeld ?_
              refine utk (i:=45) rfl hHeld ?_
              refine utk (i:=46) rfl hHeld ?_
              refine z9 (i:=47) rfl (by kernel_rfl) (fun K hK9=>?_)
              go_simp
              refine (HKP.out _ (zP _ _)).mono ?_
              rintro e y3 ⟨rfl,hy3⟩
              have HY3:=z5 ((zP wr3.heap.size wr3).trans hy3)
              have hHeld:=HSS.out _ HY3.out
              clear hy3
              refine nxt hK9.out (.inr hHeld) ?_
              clear hK9 K
              refine utk (i:=48) rfl hHeld ?_
              refine utk (i:=49) rfl hHeld ?_
              refine zf (by kernel_rfl) ?_ _
              refine NoPanic.normal ?_
              clear hHeld
              go_wp2_with fail
              go_roundw
              case rel=>exact⟨i+1,by omega,by go_num,HT.out,HBL3.out.trans (HY3.out.mono hz3)⟩
              case measure=>simp [intOf];omega
            | false =>
              have HN:Hid (yv L ⟨p0,p1,p2,q0,q1,q2,r⟩ ⟨pc,st,ops⟩ O=false):=HNO3.out (by rw [HUV2.out,hkp];simp)
              have HKP:Hid (∀W,Below wr3.heap.size wr3 W->Calls Tryz.prog 49 #[.slice (some ⟨fb,fo,none⟩) L.body.length xc,iV pc,iV r,.agg #[iV (at_:Int),iV bk],iV (ts+bp)] W fun e w'=>e=.returned (.bool false)/\Below wr3.heap.size W w'):=fun W hW=>((hkp ▸ HKC.out W hW):Calls Tryz.prog 49 #[.slice (some ⟨fb,fo,none⟩) L.body.length xc,iV pc,iV r,.agg #[iV (at_:Int),iV bk],iV (ts+bp)] W fun e w'=>e=.returned (.bool false)/\Below W.heap.size W w').mono fun e w' ⟨h1,h2⟩=>⟨h1,h2.mono hW.size⟩
              clear hne hkp HST HUV2 HNO3
              go_wp2_with fail
              refine wp_region_noPanic ?_
              refine ze 99 (fun w'=>w'.cell? ⟨ub,uo+i*2,none⟩=some (iV (at_:Int))/\w'.cell? ⟨ub,uo+i*2+1,none⟩=some (iV bk)/\w'.cell? ⟨fb,fo+at_*3+2,none⟩=some (iV pla)/\w'.cell? ⟨fb,fo+s*3,none⟩=some (iV ts)/\w'.cell? ⟨W0.heap.size,1,none⟩=some (iV sg)/\w'.cell? ⟨w.heap.size+1,6,none⟩=some (iV r)/\w'.cell? ⟨w.heap.size+1+1,0,none⟩=some (iV pc)) (by kernel_rfl) (HSS.out _ (zP _ _)) (fun hHeld=>?_)
              refine utk (i:=0) rfl hHeld ?_
              refine utk (i:=1) rfl hHeld ?_
              refine utk (i:=2) rfl hHeld ?_
              refine utk (i:=3) rfl hHeld ?_
              refine utk (i:=4) rfl hHeld ?_
              refine utk (i:=5) rfl hHeld ?_
              refine utk (i:=6) rfl hHeld ?_
              refine utk (i:=7) rfl hHeld ?_
              refine utk (i:=8) rfl hHeld ?_
              refine utk (i:=9) rfl hHeld ?_
              refine utk (i:=10) rfl hHeld ?_
              refine utk (i:=11) rfl hHeld ?_
              refine utk (i:=12) rfl hHeld ?_
              refine utk (i:=13) rfl hHeld ?_
              refine utk (i:=14) rfl hHeld ?_
              refine utk (i:=15) rfl hHeld ?_
              refine utk (i:=16) rfl hHeld ?_
              refine utk (i:=17) rfl hHeld ?_
              refine utk (i:=18) rfl hHeld ?_
              refine utk (i:=19) rfl hHeld ?_
              refine utk (i:=20) rfl hHeld ?_
              refine z9 (i:=21) rfl (by kernel_rfl) (fun K hK9=>?_)
              go_simp
              refine (HRS.out _).mono ?_
              rintro e y2 ⟨rfl,hy2⟩
              have hy2:=hy2.symm
              subst hy2
              refine nxt hK9.out (.inr hHeld) ?_
              clear hK9 K
              refine utk (i:=22) rfl hHeld ?_
              refine utk (i:=23) rfl hHeld ?_
              refine utk (i:=24) rfl hHeld ?_
              refine utk (i:=25) rfl hHeld ?_
              refine utk (i:=26) rfl hHeld ?_
              refine utk (i:=27) rfl hHeld ?_
              refine utk (i:=28) rfl hHeld ?_
              refine utk (i:=29) rfl hHeld ?_
              refine utk (i:=30) rfl hHeld ?_
              refine utk (i:=31) rfl hHeld ?_
              refine utk (i:=32) rfl hHeld ?_
              refine utk (i:=33) rfl hHeld ?_
              refine utk (i:=34) rfl hHeld ?_
              refine utk (i:=35) rfl hHeld ?_
              refine utk (i:=36) rfl hHeld ?_
              refine utk (i:=37) rfl hHeld ?_
              refine utk (i:=38) rfl hHeld ?_
              refine utk (i:=39) rfl hHeld ?_
              refine utk (i:=40) rfl hHeld ?_
              refine utk (i:=41) rfl hHeld ?_
              refine utk (i:=42) rfl hHeld ?_
              refine utk (i:=43) rfl hHeld ?_
              refine utk (i:=44) rfl hHeld ?_
              refine utk (i:=45) rfl hHeld ?_
              refine utk (i:=46) rfl hHeld ?_
              refine z9 (i:=47) rfl (by kernel_rfl) (fun K hK9=>?_)
              go_simp
              refine (HKP.out _ (zP _ _)).mono ?_
              rintro e y3 ⟨rfl,hy3⟩
              have HY3:=z5 ((zP wr3.heap.size wr3).trans hy3)
              have hHeld:=HSS.out _ HY3.out
              clear hy3
              refine nxt hK9.out (.inr hHeld) ?_
              clear hK9 K
              refine utk (i:=48) rfl hHeld ?_
              refine utk (i:=49) rfl hHeld ?_
              refine zf (by kernel_rfl) ?_ _
              refine NoPanic.normal ?_
              clear hHeld
              go_wp2_with fail
              go_ret
              exact⟨z7 HN.out.symm,HW3.out.trans (HY3.out.mono HW3.out.size)⟩
           ·have hnb:(oa1 != rr)=true:=by simpa using hne
            have HN:Hid (yv L ⟨p0,p1,p2,q0,q1,q2,r⟩ ⟨pc,st,ops⟩ O=false):=HNO3.out (by rw [HUV2.out,decide_eq_false hne];rfl)
            clear hne HST HUV2 HNO3 HKC
            go_wp2_with fail
            go_big_quiet ((go_at_call 48;exact Calls.quiet_of_same (HRS.out _)))
            go_wp2_with fail
            go_ret
            exact⟨z7 HN.out.symm,HW3.out.trans (below_draws _ _ _)⟩
        ·have e:i=us.length:=by omega
         subst e
         have hii:¬(us.length:Int)<(us.length:Int):=by omega
         have HUY:Hid (zh (fun s=>zh (YV L ⟨p0,p1,p2,q0,q1,q2,r⟩ ⟨pc,st,ops⟩ O s) (za (z6 L.body s)).length) (s+1)=true):=by show _=_;rw [HSTEPU.out,HA.out]
         obtain⟨hft,hfe⟩:=HFT.out s hsl
         have HPOS:Hid (xT (ym L) (s+1)=xT (ym L) s+ym L s):=rfl
         have HPB2:=z5 (HPB.out s hs)
         have HPB3:=z5 (HPB.out (s+1) hsl)
         have HPF:=z5 (fun q (h:q<ym L s)=>HFA.out s q hsl h)
         have HFR0:=z5 (fun W h=>HFAR.out W s h)
         rw [<-hfe] at HFR0
         have HOW3:=z5 (zt HO3.out HBL3.out)
         have HLT:Hid (∀q,q<ym L s->xT (ym L) s+q<PF.length):=fun q h=>by rw [HPFL.out];have:=zn0 (ym L) L.body.length s hsl;omega
         have HFR4:=z5 HFR.out
         obtain⟨fl,hfl⟩:∃fl,ym L s=fl:=⟨_,rfl⟩
         rw [hfl] at hft HPOS HPF HFR0 HLT
         obtain⟨ps,hps⟩:∃ps,xT (ym L) s=ps:=⟨_,rfl⟩
         rw [hps] at HPOS HPF HPB2 HLT HOW3 HFR4 ⊢
         rw [HPOS.out] at HPB3
         have hps48:ps+fl<=48:=by have:=HPB3.out;omega
         obtain⟨pa1,pa2⟩:=HPL.out s hsl
         have cPs:=(HFC.out s hsl).2.2
         obtain⟨pls,hpls⟩:∃pls,zm ⟨pc,st,ops⟩ O s=pls:=⟨_,rfl⟩
         rw [hpls] at HPF pa1 pa2 cPs
         have HCPS:=z5 cPs
         clear hfe hfl hps hpls cPs HUSE2 HUJ HNOU HSTEPU HUS HUV HUSL HA o1 o4 o5 l0 l1 l2 t0 t1 t2 t3 t4 t5 t6 k0 k1 k2
         go_wp2_with fail
         go_loopw [14,20] (fun fv iv wr4=>∃q:Nat,q<=fl/\iv=iV ((q:Int)+1)/\∃ga gc,fv=.slice ga (ps+q) gc/\wr4.ownsRow x2.heap.size 3 1 (.slice ga (ps+q) gc) (ps+q) ((PF.take (ps+q)).map (Value.int .i64))/\zh (xU PF) (ps+q)=true/\Below x2.heap.size x2 wr4) (fun _ iv _=>5 - (intOf iv).toNat)
         case atStart=>exact⟨0,Nat.zero_le _,rfl,fa,fc,rfl,HOW3.out,HFR4.out,HBX3.out⟩
         case round =>
          clear HOW3 HFR4 HBX3 HBL3 HW3 hz3b hz3
          rename World=>wr4
          obtain⟨q,hq,rfl,ga,gc,rfl,hown,hfre,hbel⟩:=hrel
          have HOQ:=z5 hown
          have HFQ:=z5 hfre
          have HB4:=z5 hbel
          obtain⟨⟨l0,l1,l2⟩,⟨t0,t1,t2,t3,t4,t5,t6⟩,⟨k0,k1,k2⟩,hz4,hbw⟩:=zZ (HB2.out.trans (hbel.mono (by omega)))
          have HW4:=z5 hbw
          have hzr4:=hbel.size
          clear hown hfre hbel hbw
          by_cases hql:q<fl
          ·have hqi:(q:Int)+1<=(fl:Int):=by omega
           go_wp2_with fail
           refine (HFR0.out _ HW4.out).mono ?_
           rintro e y ⟨rfl,hby⟩
           have HBY:=z5 (HB4.out.trans (hby.mono hzr4))
           have HOY:=z5 (zt HOQ.out hby)
           have hzy:=hby.size
           clear l0 l1 l2 t0 t1 t2 t3 t4 t5 t6 k0 k1 k2
           obtain⟨⟨l0,l1,l2⟩,⟨t0,t1,t2,t3,t4,t5,t6⟩,⟨k0,k1,k2⟩,hz5,hbw⟩:=zZ (HB2.out.trans (HBY.out.mono (by omega)))
           have HWY:=z5 hbw
           have cP:=HCPS.out
           rw [<-zc HBY.out _ _ hfb] at cP
           have hfby:fb<y.heap.size:=by omega
           have hzay:w.heap.size<y.heap.size:=by omega
           have hzby:w.heap.size+1<y.heap.size:=by omega
           have hPq:=HPF.out q hql
           have hlt:=HLT.out q hql
           obtain⟨pp,hpp⟩:∃pp,(pls - ((q:Int)+1)) % r=pp:=⟨_,rfl⟩
           rw [hpp] at hPq
           have HPQ:=z5 hPq
           have hw1:IntKind.i64.wrap (pls - ((q:Int)+1))=pls - ((q:Int)+1):=by rw [IntKind.wrap_i64];omega
           have HRS:Hid (∀W,Calls Tryz.prog 48 #[iV (pls - ((q:Int)+1)),iV r] W fun e w'=>e=.returned (iV pp)/\w'=W):=fun W=>by rw [<-hpp];exact HREST.out _ W (by omega) (by omega)
           have HFJ:Hid (xU PF (ps+q)=zh (fun j=>!decide (nth PF j=pp)) (ps+q)):=by show zh (fun j=>!decide (nth PF j=nth PF (ps+q))) (ps+q)=_;rw [hPq]
           have HNOF:Hid (xU PF (ps+q)=false->yv L ⟨p0,p1,p2,q0,q1,q2,r⟩ ⟨pc,st,ops⟩ O=false):=fun h=>HFNO.out (.inr (.inr (.inr (.inl (by rw [HPFE.out];exact zw hlt h)))))
           have HSTF:Hid (zh (xU PF) (ps+(q+1))=xU PF (ps+q)):=by show (zh (xU PF) (ps+q) && xU PF (ps+q))=_;rw [HFQ.out,Bool.true_and]
           have HCEL:Hid (0<ps+q->∃g:Nat,ga=some ⟨g,0,none⟩/\g<y.heap.size/\(∀j,j<ps+q->y.cell? ⟨g,j,none⟩=some (iV (nth PF j)))/\ps+q<=gc/\gc<=9223372036854775807):=fun h=>by
            obtain⟨g,c,hv2,hg,h3,h4,hr⟩:=Zs HOY.out (.inr h)
            injection hv2 with e1 e2 e3
            subst e3
            refine⟨g,e1,hr.lt,fun j hj=>?_,h3,by unfold maxLen at h4;omega⟩
            rw [hr.cell hj,zad _ _ (by rw [List.length_take];omega)]
            congr 2
            unfold nth
            rw [List.getD,List.getD,List.getElem?_take,if_pos hj]
           obtain⟨ga2,gc2,heqs,hcap1,hcap2⟩:=X7 HOY.out
           injection heqs with heq1 heq2 heq3
           subst heq1;subst heq3
           clear heq2
           unfold maxLen at hcap2
           clear hby hbw hPq hpp l0 l1 l2 t0 t1 t2 t3 t4 t5 k0 k1 k2
           go_wp2_with fail
           go_big_quiet ((go_at_call 48;exact Calls.quiet_of_same (HRS.out _)))
           clear t6 cP
           go_wp2_with fail
           go_loopw [22] (fun iv wr5=>∃j:Nat,j<=ps+q/\iv=iV j/\zh (fun j=>!decide (nth PF j=pp)) j=true/\wr5=y.drewN nq) (fun iv _=>ps+q - (intOf iv).toNat)
           case atStart=>exact⟨0,Nat.zero_le _,rfl,rfl,rfl⟩
           case round =>
            obtain⟨j,hj,rfl,hall,rfl⟩:=hrel
            have HAJ:=z5 hall
            clear hall
            by_cases hjl:j<ps+q
            ·have hji:(j:Int)<((ps+q:Nat):Int):=by omega
             have hji2:(j:Int)<(ps:Int)+(q:Int):=by omega
             obtain⟨g,rfl,hgz,hgc,hgl,hgm⟩:=HCEL.out (by omega)
             have cJ:=hgc j hjl
             have HSJ:Hid (zh (fun j=>!decide (nth PF j=pp)) (j+1)=!decide (nth PF j=pp)):=by show (zh _ j && _)=_;rw [HAJ.out,Bool.true_and]
             have HNJ:Hid (nth PF j=pp->yv L ⟨p0,p1,p2,q0,q1,q2,r⟩ ⟨pc,st,ops⟩ O=false):=fun h=>HNOF.out (by rw [HFJ.out];exact zw hjl (by rw [decide_eq_true h];rfl))
             generalize nth PF j=pj at *
             clear hgc
             by_cases heq:pj=pp
             ·have hbq:(pj == pp)=true:=by simpa using heq
              have HN:=z5 (HNJ.out heq)
              clear heq HSJ HNJ
              go_wp2_with fail
              go_ret
              exact⟨z7 HN.out.symm,HWY.out.trans (below_draws _ _ _)⟩
             ·have hbq:(pj == pp)=false:=by simpa using heq
              have HN:Hid (zh (fun j=>!decide (nth PF j=pp)) (j+1)=true):=by show _=_;rw [HSJ.out,decide_eq_false heq];rfl
              clear heq HSJ HNJ
              go_wp2_with fail
              go_roundw
              case rel=>exact⟨j+1,by omega,by go_num,HN.out,trivial⟩
              case measure=>simp [intOf];omega
            ·have e:j=ps+q:=by omega
             subst e
             have hji:¬(((ps+q:Nat):Int))<(((ps+q:Nat):Int)):=by omega
             have hji2:¬((ps:Int)+(q:Int))<((ps:Int)+(q:Int)):=by omega
             have HNX:Hid (zh (xU PF) (ps+(q+1))=true):=by show _=_;rw [HSTF.out,HFJ.out,HAJ.out]
             have HTK:=z5 (zb3 PF (ps+q) hlt)
             rw [HPQ.out] at HTK
             clear HNOF HSTF HFJ HCEL
             go_wp2_with (at_builtin;refine wpList_append_own _ rfl (.tmp 180) (.tmp 182) 22 rfl x2.heap.size 3 j0 (iV 0) 1 8 Tryz.underlying22 ji jz0 jz1 jz2 rfl (by decide) _ _ _ rfl (zt HOY.out (by first | exact (below_draws _ _ _).alloc (Nat.le_refl _) _ | exact (below_alloc1 _ _).trans (below_draws _ _ _))) ⟨y.heap.size,0,none⟩ 1 1 [iV pp] rfl rfl (by exact zml _ _ _) (by intro u hu;simp at hu;subst hu;rfl) (by unfold maxLen;omega) (by omega) (by simp;omega) ?_;intro v2' w2 hown2 hgrow2 hnil2;obtain⟨oa2,oc2,rfl,hl1',hl2'⟩:=X7 hown2;have HOZ:=z5 hown2;have HGZ:=z5 hgrow2;clear hown2 hgrow2)
             go_roundw
             case rel =>
              have h2:=HOZ.out
              rw [HTK.out] at h2
              exact⟨q+1,by omega,by go_num,oa2,oc2,rfl,h2,HNX.out,(HBY.out.trans ((below_draws _ _ _).alloc (by simp;omega) _)).grown HGZ.out (by simp;omega) (fun g hg=>yW HOY.out g hg)⟩
             case measure=>simp [intOf];omega
          ·have e:q=fl:=by omega
           subst e
           have hqi:¬(q:Int)+1<=(q:Int):=by omega
           go_wp2_with fail
           refine (HFR0.out _ HW4.out).mono ?_
           rintro e y ⟨rfl,hby⟩
           have HBY:=z5 (HB4.out.trans (hby.mono hzr4))
           have HOY:=z5 (zt HOQ.out hby)
           clear hby l0 l1 l2 t0 t1 t2 t3 t4 t5 t6 k0 k1 k2
           go_wp2_with fail
           go_roundw
           case rel=>exact⟨s+1,by omega,by go_num,ga,gc,by rw [HPOS.out],by rw [HPOS.out];exact HOY.out,HUY.out,by rw [HPOS.out];exact HFQ.out,HBY.out⟩
           case measure=>simp [intOf];omega
      ·have e:s=L.body.length:=by omega
       subst e
       have hsi:¬(L.body.length:Int)<(L.body.length:Int):=by omega
       have HFY:Hid (zh (xU (xx L ⟨p0,p1,p2,q0,q1,q2,r⟩ ⟨pc,st,ops⟩ O L.body.length)) (xx L ⟨p0,p1,p2,q0,q1,q2,r⟩ ⟨pc,st,ops⟩ O L.body.length).length=true):=by show _=_;rw [HPFE.out,HPFL.out];exact HFR.out
       have HYES:=z5 (fun h5=>HFYES.out HEDG.out HU.out HFY.out h5)
       have HLO:=z5 (YD HL2.out).2
       clear HOW l0 l1 l2 t0 t1 t2 t3 t4 t5 t6 k0 k1 k2
       go_wp2_with fail
       go_loopw [23] (fun iv wr6=>∃k:Nat,k<=L.outs.length/\iv=iV k/\zh (fun i=>Y7 L ⟨p0,p1,p2,q0,q1,q2,r⟩ ⟨pc,st,ops⟩ O (nth L.outs i).toNat) k=true/\Below x2.heap.size x2 wr6) (fun iv _=>L.outs.length - (intOf iv).toNat)
       case atStart=>exact⟨0,Nat.zero_le _,rfl,rfl,HBL.out⟩
       case round =>
        clear HBL HW hzr hz2
        rename World=>wr6
        obtain⟨k,hk,rfl,hall,hbel⟩:=hrel
        have HA:=z5 hall
        have HB6:=z5 hbel
        obtain⟨⟨l0,l1,l2⟩,⟨t0,t1,t2,t3,t4,t5,t6⟩,⟨k0,k1,k2⟩,hz6,hbw⟩:=zZ (HB2.out.trans (hbel.mono (by omega)))
        have HW6:=z5 hbw
        have hzr6:=hbel.size
        clear hall hbel hbw
        by_cases hkl:k<L.outs.length
        ·have hki:(k:Int)<(L.outs.length:Int):=by omega
         obtain⟨xo1,xo2,heo,ho1,ho2,-,hoc⟩:=HLO.out.below HB6.out
         injection heo with eo1 eo2 eo3
         subst eo1;subst eo3
         unfold maxLen at ho2
         obtain⟨gb,go,rfl,hgb,hgc⟩:=hoc (by omega)
         have cK:=hgc k hkl
         obtain⟨ho3,ho4⟩:=HOR.out k hkl
         have HST:Hid (zh (fun i=>Y7 L ⟨p0,p1,p2,q0,q1,q2,r⟩ ⟨pc,st,ops⟩ O (nth L.outs i).toNat) (k+1)=Y7 L ⟨p0,p1,p2,q0,q1,q2,r⟩ ⟨pc,st,ops⟩ O (nth L.outs k).toNat):=by show (zh _ k && _)=_;rw [HA.out,Bool.true_and]
         have HNO:Hid (Y7 L ⟨p0,p1,p2,q0,q1,q2,r⟩ ⟨pc,st,ops⟩ O (nth L.outs k).toNat=false->yv L ⟨p0,p1,p2,q0,q1,q2,r⟩ ⟨pc,st,ops⟩ O=false):=fun h=>HFNO.out (.inr (.inr (.inr (.inr (zw hkl h)))))
         obtain⟨on,hon⟩:∃on:Nat,nth L.outs k=(on:Int):=⟨(nth L.outs k).toNat,by omega⟩
         rw [hon] at cK ho3 ho4 HST HNO
         rw [Int.toNat_natCast] at HST HNO
         have honl:on<L.body.length:=by omega
         have HTC:=z5 (fun (W:World) (hW:Below wr6.heap.size wr6 W)=>zkm L.body.length (zX ⟨pc,st,ops⟩ O) (zA ⟨p0,p1,p2,q0,q1,q2,r⟩ ⟨pc,st,ops⟩ O) (zm ⟨pc,st,ops⟩ O) pc r on (some ⟨fb,fo,none⟩) xc W ((HOF.out.below HB6.out).below hW) honl h16 (fun m hm=>by have:=HRG.out m hm;omega) (fun m hm=>by have:=HPL.out m hm;omega) hpc1 hpc2 hr1 hr2)
         have HTJ:Hid (zej (zA ⟨p0,p1,p2,q0,q1,q2,r⟩ ⟨pc,st,ops⟩ O) (zm ⟨pc,st,ops⟩ O) pc r L.body.length on=Y7 L ⟨p0,p1,p2,q0,q1,q2,r⟩ ⟨pc,st,ops⟩ O on):=rfl
         rw [HTJ.out] at HTC
         have hza6:w.heap.size<wr6.heap.size:=by omega
         have hzb6:w.heap.size+1<wr6.heap.size:=by omega
         have HSS:Hid (∀w':World,Below wr6.heap.size wr6 w'->w'.cell? ⟨w.heap.size+1+1,0,none⟩=some (iV pc)/\w'.cell? ⟨w.heap.size+1,6,none⟩=some (iV r)/\w'.cell? ⟨w.heap.size,2,none⟩=some (.slice (some ⟨gb,go,none⟩) L.outs.length cap2)/\w'.cell? ⟨gb,go+k,none⟩=some (iV (on:Int))):=by
          intro w' h
          refine⟨?_,?_,?_,?_⟩
          all_goals (rw [zc h _ _ (by omega)];assumption)
         obtain⟨tb,htb⟩:∃tb,Y7 L ⟨p0,p1,p2,q0,q1,q2,r⟩ ⟨pc,st,ops⟩ O on=tb:=⟨_,rfl⟩
         rw [htb] at HTC HST HNO
         clear hgc hoc hon eo2 htb HTJ
         go_wp2_with fail
         refine wp_region_noPanic ?_
         refine ze 99 (fun w'=>w'.cell? ⟨w.heap.size+1+1,0,none⟩=some (iV pc)/\w'.cell? ⟨w.heap.size+1,6,none⟩=some (iV r)/\w'.cell? ⟨w.heap.size,2,none⟩=some (.slice (some ⟨gb,go,none⟩) L.outs.length cap2)/\w'.cell? ⟨gb,go+k,none⟩=some (iV (on:Int))) (by kernel_rfl) (HSS.out _ (zP _ _)) (fun hHeld=>?_)
         refine utk (i:=0) rfl hHeld ?_
         refine utk (i:=1) rfl hHeld ?_
         refine utk (i:=2) rfl hHeld ?_
         refine utk (i:=3) rfl hHeld ?_
         refine utk (i:=4) rfl hHeld ?_
         refine utk (i:=5) rfl hHeld ?_
         refine utk (i:=6) rfl hHeld ?_
         refine utk (i:=7) rfl hHeld ?_
         refine utk (i:=8) rfl hHeld ?_
         refine utk (i:=9) rfl hHeld ?_
         refine z9 (i:=10) rfl (by kernel_rfl) (fun K hK9=>?_)
         go_simp
         refine (HTC.out _ (zP _ _)).mono ?_
         rintro e y3 ⟨rfl,hy3⟩
         have HY3:=z5 ((zP wr6.heap.size wr6).trans hy3)
         have hHeld:=HSS.out _ HY3.out
         clear hy3
         refine nxt hK9.out (.inr hHeld) ?_
         clear hK9 K
         refine utk (i:=11) rfl hHeld ?_
         refine zf (by kernel_rfl) ?_ _
         refine NoPanic.normal ?_
         clear hHeld
         cases tb with
         | true =>
           go_wp2_with fail
           go_roundw
           case rel=>exact⟨k+1,by omega,by go_num,HST.out,HB6.out.trans (HY3.out.mono hzr6)⟩
           case measure=>simp [intOf];omega
         | false =>
           have HN:=z5 (HNO.out rfl)
           go_wp2_with fail
           go_ret
           exact⟨z7 HN.out.symm,HW6.out.trans (HY3.out.mono HW6.out.size)⟩
        ·have e:k=L.outs.length:=by omega
         subst e
         have hki:¬(L.outs.length:Int)<(L.outs.length:Int):=by omega
         have HN:=z5 (HYES.out HA.out)
         go_wp2_with fail
         go_ret
         exact⟨z7 HN.out.symm,HW6.out⟩
theorem zkj (v kv ov:Value) (t:Tg) (L:Lp) (K:Kn) (O:List Int) (w:World) (hL:zk w v L) (hK:xh w kv K) (hO:yf w ov O) :
  Calls Tryz.prog 17 #[v,.agg t.cells,kv,ov] w fun e w'=>e=.returned (.bool (yv L t K O))/\Below w.heap.size w w':=by
 have hL':=hL
 obtain⟨v0,v1,v2,rfl,⟨a0,cap0,rfl,-⟩,⟨a1,cap1,rfl,-⟩,⟨a2,cap2,rfl,-⟩⟩:=hL'
 obtain⟨kl,rfl,hOp⟩:=hK
 have hOp':=hOp
 obtain⟨ka,kc,rfl,-⟩:=hOp'
 have hO':=hO
 obtain⟨oa,oc,rfl,-⟩:=hO'
 obtain⟨pc,st,ops⟩:=K
 obtain⟨p0,p1,p2,q0,q1,q2,r⟩:=t
 exact zgn p0 p1 p2 q0 q1 q2 r pc st ops L O a0 a1 a2 ka oa cap0 cap1 cap2 kc oc w hL hOp hO
end Go.Proofs.YtjoapiafpahihabGreat
