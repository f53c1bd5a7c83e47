import Derived.Test.YtjoapiafpahihabGreatCheckD
import Derived.Test.YtjoapiafpahihabGreatRef10C
import Derived.Test.YtjoapiafpahihabGreatDepP
import Derived.Test.YtjoapiafpahihabGreatKernQ
set_option maxHeartbeats 20000000
namespace Go.Proofs.YtjoapiafpahihabGreat
open Go.Proofs.Tryz
open Go.RowKit Go.Joins
set_option linter.unusedVariables false
set_option linter.unusedSimpArgs false
set_option maxRecDepth 8192
open Go.RowKit Go.Joins Go.Maps
variable {ra:Option Addr} {rl rc p:Nat} {left:Lit->Bool}
section
theorem zlj (w:World) (e:TypeId):(w.alloc (.cells #[] e)).ownsRow w.heap.size e 1 (.slice (pA w.heap.size) 0 0) 0 []:=by
 refine⟨rfl,.inr ⟨w.heap.size,0,#[],rfl,Nat.le_refl _,?_,Nat.le_refl _,Nat.zero_le _,rfl,rfl⟩⟩
 show (w.heap.push _)[w.heap.size]?=_
 simp
def VT (L:Lp) (t:Tg) (K:Kn) (O:List Int) (B:List (List Int)) (R:List Int) (gD:Int) (w:World) (e:Ending) (w':World):Prop :=
 Bw w w'/\∃ra rl rc c,e=.returned (.tuple #[.slice ra rl rc,iV c])/\((zQ L t K O && Z9 L B && decide ((R.length:Int)=t.r))=false->c=2/\rl=0)/\((zQ L t K O && Z9 L B && decide ((R.length:Int)=t.r))=true->inR gD 0 200=false->c=3/\rl=0)/\((zQ L t K O && Z9 L B && decide ((R.length:Int)=t.r))=true->inR gD 0 200=true->c=0/\zK w' (.slice ra rl rc) (xS L t K O B R gD))
variable {L:Lp} {t:Tg} {K:Kn} {O:List Int} {B:List (List Int)} {R:List Int} {gD:Int} {w w':World}
theorem zux (h:(zQ L t K O && Z9 L B && decide ((R.length:Int)=t.r))=false) (hb:Bw w w'):VT L t K O B R gD w (.returned (.tuple #[.slice none 0 0,iV 2])) w' :=
 ⟨hb,none,0,0,2,rfl,fun _=>⟨rfl,rfl⟩,fun h2=>(by rw [h] at h2;cases h2),fun h2=>(by rw [h] at h2;cases h2)⟩
theorem zuy (h:(zQ L t K O && Z9 L B && decide ((R.length:Int)=t.r))=true) (h3:inR gD 0 200=false) (hb:Bw w w'):VT L t K O B R gD w (.returned (.tuple #[.slice none 0 0,iV 3])) w' :=
 ⟨hb,none,0,0,3,rfl,fun h2=>(by rw [h] at h2;cases h2),fun _ _=>⟨rfl,rfl⟩,fun _ h4=>(by rw [h3] at h4;cases h4)⟩
theorem yab (h:(zQ L t K O && Z9 L B && decide ((R.length:Int)=t.r))=true) (h3:inR gD 0 200=true) (hb:Bw w w') (hi:zK w' (.slice ra rl rc) (xS L t K O B R gD)):VT L t K O B R gD w (.returned (.tuple #[.slice ra rl rc,iV 0])) w' :=
 ⟨hb,ra,rl,rc,0,rfl,fun h2=>(by rw [h] at h2;cases h2),fun _ h4=>(by rw [h3] at h4;cases h4),fun _ _=>⟨rfl,hi⟩⟩
theorem zif (hM:zbv) (hE:Zv) (p0 p1 p2 q0 q1 q2 r pc st:Int) (ops:List Kop) (L:Lp) (O R:List Int) (B:List (List Int)) (gD:Int) (a0 a1 a2 ka oa ba ra:Option Addr) (gA gB gC kc oc bc rc:Nat) (w:World) (hL:zE w ((lv L a0 a1 a2 gA gB gC)) L) (hK:Zf w (.slice ka ops.length kc) ops) (hO:zK w (.slice oa O.length oc) O) (hB:yo w (.slice ba B.length bc) B) (hR:zK w (.slice ra R.length rc) R) :
  Calls prog 28 #[(lv L a0 a1 a2 gA gB gC),(tv p0 p1 p2 q0 q1 q2 r),.agg #[iV pc,iV st,.slice ka ops.length kc],.slice oa O.length oc,.slice ba B.length bc,.slice ra R.length rc,iV gD] w (VT L ⟨p0,p1,p2,q0,q1,q2,r⟩ ⟨pc,st,ops⟩ O B R gD w):=by
 have HBZ:=z9 (below_alloc3 w (.cells #[.slice a0 L.l.length gA,.slice a1 L.b.length gB,.slice a2 L.o.length gC] 25) (.cells #[iV p0,iV p1,iV p2,iV q0,iV q1,iV q2,iV r] 28) (.cells #[iV pc,iV st,.slice ka ops.length kc] 31))
 have HS3:Hid ((((w.alloc (.cells #[.slice a0 L.l.length gA,.slice a1 L.b.length gB,.slice a2 L.o.length gC] 25)).alloc (.cells #[iV p0,iV p1,iV p2,iV q0,iV q1,iV q2,iV r] 28)).alloc (.cells #[iV pc,iV st,.slice ka ops.length kc] 31)).heap.size=w.heap.size+1+1+1):=by show _=_;simp
 have HTK:=z9 (zf2 hM hE p0 p1 p2 q0 q1 q2 r pc st ops L O a0 a1 a2 ka oa gA gB gC kc oc (((w.alloc (.cells #[.slice a0 L.l.length gA,.slice a1 L.b.length gB,.slice a2 L.o.length gC] 25)).alloc (.cells #[iV p0,iV p1,iV p2,iV q0,iV q1,iV q2,iV r] 28)).alloc (.cells #[iV pc,iV st,.slice ka ops.length kc] 31)) (hL.gE HBZ.out) (hK.gE HBZ.out) (hO.gE HBZ.out))
 have HBF:=z9 (fun W (hb:Bw w W)=>zbj L (.slice a0 L.l.length gA) (.slice a2 L.o.length gC) a1 gB (.slice ba B.length bc) B W (hB.gE hb))
 have HIN:=z9 (zum L ⟨p0,p1,p2,q0,q1,q2,r⟩ ⟨pc,st,ops⟩ O B R gD (Ud hB) (zob hR))
 have HLN:=z9 (zfh L ⟨p0,p1,p2,q0,q1,q2,r⟩ ⟨pc,st,ops⟩ O B R gD)
 have HNT:=z9 (zfi L ⟨p0,p1,p2,q0,q1,q2,r⟩ ⟨pc,st,ops⟩ O B R gD)
 have HBC:=z9 hB
 have HRC:=z9 hR
 have HLM:=z9 (show R.length<=9223372036854775807 by obtain⟨_,_,e,h1,h2,-⟩:=hR;unfold maxLen at h2;omega)
 obtain⟨j0,ji,jz0,jz1,jz2⟩:=info_parts Tryz.i2
 clear hL hK hO hM hE hB hR
 go_enter func28,ntmps28
 go_wp2_with fail
 refine HTK.out.mono ?_
 rintro e x1 ⟨pv,rfl,hb,htk⟩
 rw [HS3.out] at hb
 have HB1:=z9 hb
 obtain⟨⟨l0,l1,l2⟩,⟨t0,t1,t2,t3,t4,t5,t6⟩,⟨k0,k1,k2⟩,hz,hbw⟩:=yy hb
 have HBX:=z9 hbw
 have hx1:w.heap.size+1+1+1<=x1.heap.size:=by have:=HB1.out.size;rw [HS3.out] at this;exact this
 have HTAK:=z9 htk
 clear hb hbw HTK HBZ htk
 cases htd:zQ L ⟨p0,p1,p2,q0,q1,q2,r⟩ ⟨pc,st,ops⟩ O with
 | false =>
   have HN:Hid ((zQ L ⟨p0,p1,p2,q0,q1,q2,r⟩ ⟨pc,st,ops⟩ O && Z9 L B && decide ((R.length:Int)=r))=false):=by show _=_;rw [htd];rfl
   clear htd
   go_wp2_with fail
   exact bodyPost_ret (v:=.tuple #[.slice none 0 0,iV 2]) (by simp [results,results28,go_sem]) rfl (zux HN.out HBX.out)
 | true =>
   obtain⟨c,M,rfl,hsv,hlr,hms⟩:=HTAK.out htd
   have hlay:xD L ⟨p0,p1,p2,q0,q1,q2,r⟩ ⟨pc,st,ops⟩ O=true:=by
    cases hl:xD L ⟨p0,p1,p2,q0,q1,q2,r⟩ ⟨pc,st,ops⟩ O with
    | true=>rfl
    | false=>rw [zat hl] at htd;cases htd
   have HTD:=z9 htd
   have HLR1:=z9 hlr
   have HLAY:=z9 hlay
   clear htd hsv hlr hms hlay HTAK
   go_wp2_with fail
   refine (HBF.out x1 HBX.out).mono ?_
   rintro e x2 ⟨rfl,hb⟩
   have HB2:=z9 (HB1.out.trans (hb.mono hx1))
   have HLR2:=z9 (HLR1.out.gE hb)
   clear hb l0 l1 l2 t0 t1 t2 t3 t4 t5 t6 k0 k1 k2 hz HLR1 HBF
   obtain⟨⟨l0,l1,l2⟩,⟨t0,t1,t2,t3,t4,t5,t6⟩,⟨k0,k1,k2⟩,hz,hbw⟩:=yy HB2.out
   have gT:=z9 hbw
   clear hbw HB1 HBX hx1
   cases hbd:Z9 L B with
   | false =>
     have HN:Hid ((zQ L ⟨p0,p1,p2,q0,q1,q2,r⟩ ⟨pc,st,ops⟩ O && Z9 L B && decide ((R.length:Int)=r))=false):=by show _=_;rw [hbd];simp
     clear hbd
     go_wp2_with fail
     exact bodyPost_ret (v:=.tuple #[.slice none 0 0,iV 2]) (by simp [results,results28,go_sem]) rfl (zux HN.out gT.out)
   | true =>
     have HBD:Hid (B.length=L.b.length/\∀i,i<B.length->(zv B i).length=3):=by
      have hb3:=hbd
      unfold Z9 at hb3
      rw [Bool.and_eq_true] at hb3
      exact⟨of_decide_eq_true hb3.1,fun i hi=>of_decide_eq_true (zo hb3.2 i hi)⟩
     by_cases hrl:(R.length:Int)=r
     ·have HN:Hid ((zQ L ⟨p0,p1,p2,q0,q1,q2,r⟩ ⟨pc,st,ops⟩ O && Z9 L B && decide ((R.length:Int)=r))=true):=by show _=_;rw [HTD.out,hbd,decide_eq_true hrl];rfl
      have hrb:((R.length:Int) != r)=false:=by simp [hrl]
      cases hin:inR gD 0 200 with
      | false =>
        have HI:=z9 hin
        have HWI:=z9 (fun W=>Vs gD 0 200 W)
        rw [hin] at HWI
        clear hbd hin
        go_wp2_with (go_at_call 69;refine (HWI.out _).mono ?_;rintro e w' ⟨rfl,hw'⟩;have hw':=hw'.symm;subst hw')
        exact bodyPost_ret (v:=.tuple #[.slice none 0 0,iV 3]) (by simp [results,results28,go_sem]) rfl (zuy HN.out HI.out gT.out)
      | true =>
        have HI:=z9 hin
        have htr:=zx.1 hin
        obtain⟨ht0,ht1⟩:=htr
        have HWI:=z9 (fun W=>Vs gD 0 200 W)
        rw [hin] at HWI
        obtain⟨hm,-⟩:=yP HLAY.out
        obtain⟨⟨-,-,hr1⟩,-⟩:=yz HLAY.out
        obtain⟨-,hn1,hn16,hol16,-⟩:=zw hm
        have hr2:r<=128:=by
         obtain⟨-,-,-,-,-,-,-,-,hr2,-⟩:=Z7 HLAY.out (s:=0) (by omega)
         exact hr2
        simp only at hr1
        have HOR:=z9 (fun i (hi:i<L.o.length)=>Y8 hm hi)
        have HPL:=z9 (fun (s:Nat) (hs:s<L.b.length)=>And.intro (Z7 HLAY.out hs).2.2.2.2.2.2.1 (Z7 HLAY.out hs).2.2.2.2.2.2.2.1)
        obtain⟨v0,v1,v2,hlv,-,-,⟨o1,oc1,rfl,hol,hom,-,hoc⟩⟩:=HLR2.out.lv
        unfold maxLen at hom
        injection hlv with hlv
        obtain⟨hv0,hv1,hv2⟩:c.l0=v0/\c.l1=v1/\c.l2=.slice o1 L.o.length oc1:=by
         have:=congrArg Array.toList hlv
         simpa using this
        obtain⟨-,-,y2,-,-,-,-,y7,-⟩:=HLR2.out.cells
        rw [hv2] at y2
        have HOC:=z9 hoc
        have hyz:=HLR2.out.lt
        have HOE:=z9 (zlj x2 2)
        clear hbd hin hlv hv0 hv1 hv2 hoc hm
        go_wp2_with (go_at_call 69;refine (HWI.out _).mono ?_;rintro e w' ⟨rfl,hw'⟩;have hw':=hw'.symm;subst hw')
        clear l0 l1 l2 t0 t1 t2 t3 t4 t5 t6 k0 k1 k2 hz y2
        go_loopw [18,55] (fun ov iv wr=>∃k:Nat,k<=L.o.length/\iv=iV k/\∃ua uc,ov=.slice ua k uc/\wr.ownsRow x2.heap.size 2 1 (.slice ua k uc) k (((xS L ⟨p0,p1,p2,q0,q1,q2,r⟩ ⟨pc,st,ops⟩ O B R gD).take k).map (Value.int .i64))/\Bw x2 wr) (fun _ iv _=>L.o.length - (intOf iv).toNat)
        case atStart=>exact⟨0,Nat.zero_le _,rfl,some (ad x2.heap.size 0),0,rfl,HOE.out,below_alloc1 _ _⟩
        case round =>
         clear HOE
         obtain⟨k,hk,rfl,ua,uc,rfl,gJ,gH⟩:=hrel
         have HOW:=z9 gJ
         have HBL:=z9 gH
         have HW:=z9 (gT.out.trans (gH.mono gT.out.size))
         have HLR:=z9 (HLR2.out.gE gH)
         have hzr:=gH.size
         by_cases hkl:k<L.o.length
         ·have hki:(k:Int)<(L.o.length:Int):=by omega
          obtain⟨gb,go,rfl,hgb,hgc⟩:=HOC.out (by omega)
          have cK:=(zf gH gb (go+k) hgb).trans (hgc k hkl)
          have hgz:gb<wr.heap.size:=by omega
          obtain⟨ho3,ho4⟩:=HOR.out k hkl
          obtain⟨on,hon⟩:∃on:Nat,nth L.o k=(on:Int):=⟨(nth L.o k).toNat,by omega⟩
          have HVL:=z9 (HNT.out k hkl)
          rw [hon] at cK ho3 ho4 HVL
          rw [Int.toNat_natCast] at HVL
          have honl:on<L.b.length:=by omega
          obtain⟨hBl,hB3⟩:=HBD.out
          obtain⟨xb1,xb2,heb,hbb1,hbb2,hbbc⟩:=HBC.out.gE HW.out
          injection heb with eb1 eb2 eb3
          subst eb1;subst eb3
          unfold maxLen at hbb2
          obtain⟨bb,bo,rfl,hbbz,hbbcell⟩:=hbbc (by omega)
          obtain⟨u,hu,hui⟩:=hbbcell on (by omega)
          obtain⟨va,vc,rfl,hv1,hv2,-,hvc⟩:=hui
          rw [hB3 on (by omega)] at hu hv1 hvc
          unfold maxLen at hv2
          obtain⟨vb,vo,rfl,hvb,hvcell⟩:=hvc (by omega)
          have cV:=hvcell 0 (by omega)
          rw [Nat.add_zero] at cV
          have hBi:(on:Int)<(B.length:Int):=by omega
          have hoi:(on:Int)<(L.b.length:Int):=by omega
          obtain⟨-,-,-,-,-,-,-,y7,-⟩:=HLR.out.cells
          have cP:=HLR.out.pl.cell honl
          have hpz:=HLR.out.pl.lt
          have hyz:=HLR.out.lt
          obtain⟨cp1,cp2⟩:=HLR.out.cp
          unfold maxLen at cp2
          obtain⟨hp1,hp2⟩:=HPL.out on honl
          have HLE0:=z9 (fun n h1 h2=>U0 c L ⟨p0,p1,p2,q0,q1,q2,r⟩ ⟨pc,st,ops⟩ O n wr HLR.out hr1 hr2 h1 h2)
          generalize zr ⟨pc,st,ops⟩ O on=pl at *
          generalize nth (zv B on) 0=b0 at *
          have hlenk:k<(xS L ⟨p0,p1,p2,q0,q1,q2,r⟩ ⟨pc,st,ops⟩ O B R gD).length:=by rw [HLN.out];exact hkl
          have HTK:=z9 (zgh _ k hlenk)
          clear hgc hbbc hbbcell hvc hvcell hon eb2 hBl hB3 gJ gH
          by_cases htp:0<gD
          ·have HV2:Hid (nth (xS L ⟨p0,p1,p2,q0,q1,q2,r⟩ ⟨pc,st,ops⟩ O B R gD) k=nth R ((pl+gD - 1) % r).toNat):=by show _=_;rw [HVL.out,if_pos htp]
           obtain⟨rr,hrr⟩:∃rr:Nat,(pl+gD - 1) % r=(rr:Int):=⟨((pl+gD - 1) % r).toNat,by have:=Int.emod_nonneg (pl+gD - 1) (show r≠0 by omega);omega⟩
           have hrrl:=Int.emod_lt_of_pos (pl+gD - 1) (show 0<r by omega)
           rw [hrr] at hrrl HV2
           rw [Int.toNat_natCast] at HV2
           obtain⟨xr1,xr2,her,hr3,hr4,-,hrcc⟩:=HRC.out.gE HW.out
           injection her with er1 er2 er3
           subst er1;subst er3
           unfold maxLen at hr4
           obtain⟨rb,ro,rfl,hrz,hrcell⟩:=hrcc (by omega)
           have cR:=hrcell rr (by omega)
           have hri:(rr:Int)<(R.length:Int):=by omega
           have hw1:wrap64 (pl+gD)=pl+gD:=by unfold wrap64;omega
           have hw2:wrap64 (pl+gD - 1)=pl+gD - 1:=by unfold wrap64;omega
           have HLE:=z9 (HLE0.out (pl+gD - 1) (by omega) (by omega))
           simp only at HLE
           rw [hrr] at HLE
           generalize nth R rr=rv at *
           rw [HV2.out] at HTK
           clear hrcc hrcell hrr er2 HVL HV2 hrl HLE0 HRC HBC
           go_wp2_with fail
           refine HLE.out.mono ?_
           rintro e w1 ⟨rfl,n1,rfl⟩
           go_wp2_with (at_builtin;refine wpList_append_own _ rfl (.tmp 82) (.tmp 84) 63 rfl x2.heap.size 2 j0 (iV 0) 1 8 underlying63 ji jz0 jz1 jz2 rfl (by decide) _ _ _ rfl (zA HOW.out (by first | exact (below_draws _ _ _).alloc (Nat.le_refl _) _ | exact (below_alloc1 _ _).trans (below_draws _ _ _))) (ad wr.heap.size 0) 1 1 [iV rv] rfl rfl (by exact xU _ _ _) (by intro u hu;simp at hu;subst hu;rfl) (by unfold maxLen;omega) (by omega) (by simp;omega) ?_;intro v2' w2 gP gN hnil2;obtain⟨oa2,oc2,rfl,hl1',hl2'⟩:=ZI gP;have HO2:=z9 gP;have HG2:=z9 gN;clear gP gN)
           go_roundw
           case rel =>
            have h2:=HO2.out
            rw [HTK.out] at h2
            exact⟨k+1,by omega,by go_num,oa2,oc2,rfl,h2,(HBL.out.trans (((below_draws _ _ _).alloc (Nat.le_refl _) _).mono HBL.out.size)).grown HG2.out (by simp;omega) (fun g hg=>yc HOW.out g hg)⟩
           case measure=>simp [intOf];omega
          ·have HV2:Hid (nth (xS L ⟨p0,p1,p2,q0,q1,q2,r⟩ ⟨pc,st,ops⟩ O B R gD) k=b0):=by show _=_;rw [HVL.out,if_neg htp]
           rw [HV2.out] at HTK
           clear HVL HV2 hrl HLE0 HRC HBC
           go_wp2_with (at_builtin;refine wpList_append_own _ rfl (.tmp 82) (.tmp 84) 63 rfl x2.heap.size 2 j0 (iV 0) 1 8 underlying63 ji jz0 jz1 jz2 rfl (by decide) _ _ _ rfl (zA HOW.out (below_alloc1 _ _)) (ad wr.heap.size 0) 1 1 [iV b0] rfl rfl (by exact xU _ _ _) (by intro u hu;simp at hu;subst hu;rfl) (by unfold maxLen;omega) (by omega) (by simp;omega) ?_;intro v2' w2 gP gN hnil2;obtain⟨oa2,oc2,rfl,hl1',hl2'⟩:=ZI gP;have HO2:=z9 gP;have HG2:=z9 gN;clear gP gN)
           go_roundw
           case rel =>
            have h2:=HO2.out
            rw [HTK.out] at h2
            exact⟨k+1,by omega,by go_num,oa2,oc2,rfl,h2,(HBL.out.alloc (by omega) _).grown HG2.out (by simp;omega) (fun g hg=>yc HOW.out g hg)⟩
           case measure=>simp [intOf];omega
         ·have e:k=L.o.length:=by omega
          subst e
          have hki:¬(L.o.length:Int)<(L.o.length:Int):=by omega
          have HFIN:Hid (zK wr (.slice ua L.o.length uc) (xS L ⟨p0,p1,p2,q0,q1,q2,r⟩ ⟨pc,st,ops⟩ O B R gD)):=by
           have h:=HOW.out
           have e1:(xS L ⟨p0,p1,p2,q0,q1,q2,r⟩ ⟨pc,st,ops⟩ O B R gD).take L.o.length=(xS L ⟨p0,p1,p2,q0,q1,q2,r⟩ ⟨pc,st,ops⟩ O B R gD):=by rw [<-HLN.out];exact List.take_length
           rw [e1] at h
           refine zbn (base:=x2.heap.size) ?_ HIN.out
           rw [HLN.out];exact h
          clear gJ gH
          go_wp2_with fail
          exact bodyPost_ret (v:=.tuple #[.slice ua L.o.length uc,iV 0]) (by simp [results,results28,go_sem]) rfl (yab HN.out HI.out HW.out HFIN.out)
     ·have HN:Hid ((zQ L ⟨p0,p1,p2,q0,q1,q2,r⟩ ⟨pc,st,ops⟩ O && Z9 L B && decide ((R.length:Int)=r))=false):=by show _=_;rw [decide_eq_false hrl];simp
      have hrb:((R.length:Int) != r)=true:=by simp [hrl]
      clear hbd
      go_wp2_with fail
      exact bodyPost_ret (v:=.tuple #[.slice none 0 0,iV 2]) (by simp [results,results28,go_sem]) rfl (zux HN.out gT.out)
theorem zle (hM:zbv) (hE:Zv):zgs:=by
 intro v kv ov bv rv t L K O B R gD w hL hK hO hB hR
 obtain⟨a0,a1,a2,ka,oa,gA,gB,gC,kc,oc,rfl,rfl,rfl,hOp⟩:=zbk hL hK hO
 have hB':=hB
 obtain⟨ba,bc,rfl,-⟩:=hB'
 have hR':=hR
 obtain⟨ra,rc,rfl,-⟩:=hR'
 exact zif hM hE t.u0 t.u1 t.u2 t.w0 t.w1 t.w2 t.r K.pc K.st K.ops L O R B gD a0 a1 a2 ka oa ba ra gA gB gC kc oc bc rc w hL hOp hO hB hR
end
section
def zeg (F V:List Int) (p:Nat) (left:Lit->Bool) (g:Nat->Int):Prop :=
 (∀i,i<p->left (.int .i64 (nth F i))=false->g (nth F i).toNat=nth V i)/\∀z:Nat,(left (.int .i64 (z:Int))=true\/∀i,i<p->nth F i≠z)->g z=0
theorem zeg.start {F V:List Int} {D:DataW Unit} (h:∀z,Maps.has D (.int .i64 z)=true↔∃i,i<p/\nth F i=z):zeg F V p (Maps.has D) (fun _=>0) :=
 ⟨fun i hi h2=>(by rw [(h _).2 ⟨i,hi,rfl⟩] at h2;cases h2),fun z _=>rfl⟩
theorem zxt (z:Int):WideAt.IsKeyLit (.int .i64 z):=trivial
theorem zeg.step {F V:List Int} {i:Nat} {g:Nat->Int} (h:zeg F V p left g) (hi:i<p) (hl:left (.int .i64 (nth F i))=true) (hd:∀i j,i<j->j<p->nth F i≠nth F j) (h0:∀i,i<p->0<=nth F i) :
  zeg F V p (fun z=>left z && !z.sameKey (.int .i64 (nth F i))) (fun z=>if z=(nth F i).toNat then nth V i else g z):=by
 have hinj:∀a b,a<p->b<p->nth F a=nth F b->a=b:=fun a b ha hb e=>by
  by_cases h1:a<b
  ·exact absurd e (hd a b h1 hb)
  ·by_cases h2:b<a
   ·exact absurd e.symm (hd b a h2 ha)
   ·omega
 refine⟨fun j hj h2=>?_,fun z h2=>?_⟩
 ·by_cases e:nth F j=nth F i
  ·have:=hinj j i hj hi e
   subst this
   exact if_pos rfl
  ·have hne:(nth F j).toNat≠(nth F i).toNat:=by have:=h0 j hj;have:=h0 i hi;omega
   show (if (nth F j).toNat=(nth F i).toNat then nth V i else g (nth F j).toNat)=_
   rw [if_neg hne]
   have h3:(left (.int .i64 (nth F j)) && !(Lit.int .i64 (nth F j)).sameKey (.int .i64 (nth F i)))=false:=h2
   rw [sameKey_ne (fun h=>e (by injection h))] at h3
   exact h.1 j hj (by simpa using h3)
 ·have hz:z≠(nth F i).toNat:=by
   intro e
   have e2:nth F i=z:=by have:=h0 i hi;omega
   rcases h2 with h2 | h2
   ·have h3:(left (.int .i64 (z:Int)) && !(Lit.int .i64 (z:Int)).sameKey (.int .i64 (nth F i)))=true:=h2
    rw [e2,WideAt.sameKey_self (zxt _)] at h3
    simp at h3
   ·exact h2 i hi e2
  show (if z=(nth F i).toNat then nth V i else g z)=0
  rw [if_neg hz]
  refine h.2 z ?_
  rcases h2 with h2 | h2
  ·have h3:(left (.int .i64 (z:Int)) && !(Lit.int .i64 (z:Int)).sameKey (.int .i64 (nth F i)))=true:=h2
   rw [Bool.and_eq_true] at h3
   exact .inl h3.1
  ·exact .inr h2
theorem zeg.fin {F V:List Int} {g:Nat->Int} (h:zeg F V p left g) (hl:∀kl,left kl=false) (hd:∀i j,i<j->j<p->nth F i≠nth F j) (h0:∀i,i<p->0<=nth F i) (z:Nat):g z=Up F V p z:=by
 by_cases e:∃i,i<p/\nth F i=z
 ·obtain⟨i,hi,e⟩:=e
  have h1:=h.1 i hi (hl _)
  have h2:=zop (F:=F) (V:=V) p (fun a b hab hb he=>hd a b hab hb (by have:=h0 a (by omega);have:=h0 b hb;omega)) i hi
  rw [e] at h1 h2
  rw [show ((z:Int)).toNat=z from rfl] at h1 h2
  rw [h1,h2]
 ·have hn:∀i,i<p->nth F i≠z:=fun i hi h=>e ⟨i,hi,h⟩
  rw [h.2 z (.inr hn),zvv p (fun i hi h=>hn i hi (by have:=h0 i hi;omega))]
def zaq (L:Lp) (t:Tg) (K:Kn) (O:List Int) (B:List (List Int)) (w:World) (e:Ending) (w':World):Prop :=
 Bw w w'/\∃ra rl rc c,e=.returned (.tuple #[.slice ra rl rc,iV c])/\((zQ L t K O && Z9 L B)=false->c=2/\rl=0)/\((zQ L t K O && Z9 L B)=true->c=0/\zK w' (.slice ra rl rc) (xA L t K O B))
variable {L:Lp} {t:Tg} {K:Kn} {O:List Int} {B:List (List Int)} {w w':World}
theorem zzb (h:(zQ L t K O && Z9 L B)=false) (hb:Bw w w'):zaq L t K O B w (.returned (.tuple #[.slice none 0 0,iV 2])) w' :=
 ⟨hb,none,0,0,2,rfl,fun _=>⟨rfl,rfl⟩,fun h2=>(by rw [h] at h2;cases h2)⟩
theorem zzu (h:(zQ L t K O && Z9 L B)=true) (hb:Bw w w') (hi:zK w' (.slice ra rl rc) (xA L t K O B)):zaq L t K O B w (.returned (.tuple #[.slice ra rl rc,iV 0])) w' :=
 ⟨hb,ra,rl,rc,0,rfl,fun h2=>(by rw [h] at h2;cases h2),fun _=>⟨rfl,hi⟩⟩
theorem zxv (key:Value) (kl:Lit) (h:keyOf prog 3 key=some kl):∃x:Int,key=.int .i64 x:=by
 obtain⟨x,e,-⟩:=Maps.keyOf_int_inv underlying3 h
 exact⟨x,e⟩
theorem zz5 (v:Value) (y:DataW Unit × List MemPlace) (h:Zz v=some y):∃c:Int × Int,v=.agg #[iV c.1,iV c.2]:=by
 obtain⟨a,q,e,-⟩:=zbq h
 exact⟨(a,q),e⟩
theorem zr3 (w:World) {ops:Array Oper} {rest:List Oper} {o:Oper} {a:Act} {Q:Exit->Act->World->Prop} (hg:o.guard=none) (it:Operand) (hop:o.op=Op.next it false)
  (b r n:Nat) (D:DataW Unit) (left:Lit->Bool) (cnt:Nat) (hit:a.eval it=.pointer (pA r)) (h:w.ranges prog 3 Zz b r n D left cnt)
  (hDone:cnt=0->(∀kl,left kl=false)->wpList prog ops Q rest (a.put o.dst (.tuple #[.bool false])) w)
  (hMore:∀(x ca cq:Int) (w':World) (cnt':Nat),(Lit.int .i64 x).wf=true->left (.int .i64 x)=true->(∀zd,D.atKey (.int .i64 x) zd=V8 ca cq)->w'.ranges prog 3 Zz b r n D (fun z=>left z && !z.sameKey (.int .i64 x)) cnt'->cnt'<cnt ->
   w.grownBy w' (some r)->w'.heap.size=w.heap.size->(Instr.entry (.pointer (pA r))).run prog w'=.ok (.tuple #[.int .i64 x,.agg #[.int .i64 ca,.int .i64 cq]]) w'->wpList prog ops Q rest (a.put o.dst (.tuple #[.bool true,.int .i64 x,.agg #[.int .i64 ca,.int .i64 cq]])) w') :
  wpList prog ops Q (o :: rest) a w :=
 wpList_next_ranges w hg it hop 3 Vx Zz (Value.int .i64) (fun p:Int × Int=>.agg #[.int .i64 p.1,.int .i64 p.2]) zxv zz5 b r n D left cnt hit h hDone (fun x c kl y w' cnt' hkey hlk hv hat hrg hlt hgr hsz hen=>by
  obtain⟨x',ex,rfl,hwx⟩:=Maps.keyOf_int_inv underlying3 hkey
  injection ex with ex1 ex2
  subst ex2
  have hy:y=(V8 c.1 c.2,[]):=Option.some.inj (hv.symm.trans (UD c.1 c.2))
  subst hy
  exact hMore x c.1 c.2 w' cnt' hwx hlk hat hrg hlt hgr hsz hen)
theorem zie (hM:zbv) (hE:Zv) (p0 p1 p2 q0 q1 q2 r pc st:Int) (ops:List Kop) (L:Lp) (O:List Int) (B:List (List Int)) (a0 a1 a2 ka oa ba:Option Addr) (gA gB gC kc oc bc:Nat) (w:World) (hL:zE w ((lv L a0 a1 a2 gA gB gC)) L) (hK:Zf w (.slice ka ops.length kc) ops) (hO:zK w (.slice oa O.length oc) O) (hB:yo w (.slice ba B.length bc) B) :
  Calls prog 26 #[(lv L a0 a1 a2 gA gB gC),.agg #[.int .i64 p0,.int .i64 p1,.int .i64 p2,.int .i64 q0,.int .i64 q1,.int .i64 q2,.int .i64 r],.agg #[.int .i64 pc,.int .i64 st,.slice ka ops.length kc],.slice oa O.length oc,.slice ba B.length bc] w (zaq L ⟨p0,p1,p2,q0,q1,q2,r⟩ ⟨pc,st,ops⟩ O B w):=by
 have HBZ:=z9 (below_alloc3 w (.cells #[.slice a0 L.l.length gA,.slice a1 L.b.length gB,.slice a2 L.o.length gC] 25) (.cells #[.int .i64 p0,.int .i64 p1,.int .i64 p2,.int .i64 q0,.int .i64 q1,.int .i64 q2,.int .i64 r] 28) (.cells #[.int .i64 pc,.int .i64 st,.slice ka ops.length kc] 31))
 have HS3:Hid ((((w.alloc (.cells #[.slice a0 L.l.length gA,.slice a1 L.b.length gB,.slice a2 L.o.length gC] 25)).alloc (.cells #[.int .i64 p0,.int .i64 p1,.int .i64 p2,.int .i64 q0,.int .i64 q1,.int .i64 q2,.int .i64 r] 28)).alloc (.cells #[.int .i64 pc,.int .i64 st,.slice ka ops.length kc] 31)).heap.size=w.heap.size+1+1+1):=by show _=_;simp
 have HTK:=z9 (zf2 hM hE p0 p1 p2 q0 q1 q2 r pc st ops L O a0 a1 a2 ka oa gA gB gC kc oc (((w.alloc (.cells #[.slice a0 L.l.length gA,.slice a1 L.b.length gB,.slice a2 L.o.length gC] 25)).alloc (.cells #[.int .i64 p0,.int .i64 p1,.int .i64 p2,.int .i64 q0,.int .i64 q1,.int .i64 q2,.int .i64 r] 28)).alloc (.cells #[.int .i64 pc,.int .i64 st,.slice ka ops.length kc] 31)) (hL.gE HBZ.out) (hK.gE HBZ.out) (hO.gE HBZ.out))
 have HBF:=z9 (fun W (hb:Bw w W)=>zbj L (.slice a0 L.l.length gA) (.slice a2 L.o.length gC) a1 gB (.slice ba B.length bc) B W (hB.gE hb))
 have hBin:=Ud hB
 have HIN:=z9 (fun m c=>zyj (F:=yu L ⟨p0,p1,p2,q0,q1,q2,r⟩ ⟨pc,st,ops⟩ O) (V:=YC L B L.b.length) (zxn _ _ (fun s q=>hBin s q) _) m c)
 have HBC:=z9 hB
 clear hL hK hO hM hE hB hBin
 go_enter func26,ntmps26
 go_wp2_with fail
 refine HTK.out.mono ?_
 rintro e x1 ⟨pv,rfl,hb,htk⟩
 rw [HS3.out] at hb
 have HB1:=z9 hb
 obtain⟨⟨l0,l1,l2⟩,⟨t0,t1,t2,t3,t4,t5,t6⟩,⟨k0,k1,k2⟩,hz,hbw⟩:=yy hb
 have HBX:=z9 hbw
 have hx1:w.heap.size+1+1+1<=x1.heap.size:=by have:=HB1.out.size;rw [HS3.out] at this;exact this
 have HTAK:=z9 htk
 clear hb hbw HTK HBZ htk
 cases htd:zQ L ⟨p0,p1,p2,q0,q1,q2,r⟩ ⟨pc,st,ops⟩ O with
 | false =>
   have HN:Hid ((zQ L ⟨p0,p1,p2,q0,q1,q2,r⟩ ⟨pc,st,ops⟩ O && Z9 L B)=false):=by show _=_;rw [htd];rfl
   clear htd
   go_wp2_with fail
   exact bodyPost_ret (v:=.tuple #[.slice none 0 0,.int .i64 2]) (by simp [results,results26,go_sem]) rfl (zzb HN.out HBX.out)
 | true =>
   obtain⟨c,M,rfl,hsv,hlr,hms⟩:=HTAK.out htd
   have hlay:xD L ⟨p0,p1,p2,q0,q1,q2,r⟩ ⟨pc,st,ops⟩ O=true:=by
    cases hl:xD L ⟨p0,p1,p2,q0,q1,q2,r⟩ ⟨pc,st,ops⟩ O with
    | true=>rfl
    | false=>rw [zat hl] at htd;cases htd
   have hbeg:Zw L ⟨p0,p1,p2,q0,q1,q2,r⟩ ⟨pc,st,ops⟩ O=true:=by
    have h:=htd
    rw [zdx hlay] at h
    simp only [Bool.and_eq_true] at h
    exact h.1.1.1.1
   have HTD:=z9 htd
   have HLR1:=z9 hlr
   have HLAY:=z9 hlay
   have HBG:=z9 hbeg
   have HMS1:=z9 hms
   have HSV:=z9 hsv
   clear htd hsv hlr hms hlay HTAK hbeg
   go_wp2_with fail
   refine (HBF.out x1 HBX.out).mono ?_
   rintro e x2 ⟨rfl,hb⟩
   have HB2:=z9 (HB1.out.trans (hb.mono hx1))
   have HLR2:=z9 (HLR1.out.gE hb)
   have HMS2:=z9 (HMS1.out.gG (hb.block _ HMS1.out.lt))
   clear hb l0 l1 l2 t0 t1 t2 t3 t4 t5 t6 k0 k1 k2 hz HLR1 HBF HMS1
   obtain⟨⟨l0,l1,l2⟩,⟨t0,t1,t2,t3,t4,t5,t6⟩,⟨k0,k1,k2⟩,hz,hbw⟩:=yy HB2.out
   have gT:=z9 hbw
   clear hbw HB1 HBX hx1
   cases hbd:Z9 L B with
   | false =>
     have HN:Hid ((zQ L ⟨p0,p1,p2,q0,q1,q2,r⟩ ⟨pc,st,ops⟩ O && Z9 L B)=false):=by show _=_;rw [hbd];simp
     clear hbd
     go_wp2_with fail
     exact bodyPost_ret (v:=.tuple #[.slice none 0 0,.int .i64 2]) (by simp [results,results26,go_sem]) rfl (zzb HN.out gT.out)
   | true =>
     have HBD:Hid (B.length=L.b.length/\∀i,i<B.length->(zv B i).length=3):=by
      have hb3:=hbd
      unfold Z9 at hb3
      rw [Bool.and_eq_true] at hb3
      exact⟨of_decide_eq_true hb3.1,fun i hi=>of_decide_eq_true (zo hb3.2 i hi)⟩
     have HN:Hid ((zQ L ⟨p0,p1,p2,q0,q1,q2,r⟩ ⟨pc,st,ops⟩ O && Z9 L B)=true):=by show _=_;rw [HTD.out,hbd];rfl
     obtain⟨hm,-⟩:=yP HLAY.out
     obtain⟨⟨-,-,hr1⟩,-⟩:=yz HLAY.out
     obtain⟨-,hn1,hn16,-⟩:=zw hm
     have hr2:r<=128:=by
      obtain⟨-,-,-,-,-,-,-,-,hr2,-⟩:=Z7 HLAY.out (s:=0) (by omega)
      exact hr2
     simp only at hr1
     have HDI:Hid (∀i j,i<j->j<Zt L L.b.length->nth (yu L ⟨p0,p1,p2,q0,q1,q2,r⟩ ⟨pc,st,ops⟩ O) i≠nth (yu L ⟨p0,p1,p2,q0,q1,q2,r⟩ ⟨pc,st,ops⟩ O) j):=fun i j hij hj=>by
      have h:=HBG.out
      have e:Zw L ⟨p0,p1,p2,q0,q1,q2,r⟩ ⟨pc,st,ops⟩ O=zC (YV (yu L ⟨p0,p1,p2,q0,q1,q2,r⟩ ⟨pc,st,ops⟩ O)) (Zt L L.b.length):=by show zC (YV (yu L ⟨p0,p1,p2,q0,q1,q2,r⟩ ⟨pc,st,ops⟩ O)) (yu L ⟨p0,p1,p2,q0,q1,q2,r⟩ ⟨pc,st,ops⟩ O).length=_;rw [zf5]
      rw [e] at h
      have h6:=zo (zo h j hj) i hij
      simpa using h6
     have HFG:Hid (∀i,i<Zt L L.b.length->0<=nth (yu L ⟨p0,p1,p2,q0,q1,q2,r⟩ ⟨pc,st,ops⟩ O) i/\nth (yu L ⟨p0,p1,p2,q0,q1,q2,r⟩ ⟨pc,st,ops⟩ O) i<r):=fun i hi=>UY (t:=⟨p0,p1,p2,q0,q1,q2,r⟩) hr1 L ⟨pc,st,ops⟩ O (k:=L.b.length) hi
     have HWH:Hid (∀i,i<Zt L L.b.length->∃s q:Nat,s<L.b.length/\q<3/\nth (zeb L) i=s/\nth (X8 L) i=(q:Int)+1/\nth (YC L B L.b.length) i=nth (zv B s) q):=fun i hi=>by
      obtain⟨s,q,h1,h2,h3⟩:=UZ (yg L) L.b.length i hi
      have h4:=zaw hm s
      obtain⟨-,f2,f3⟩:=ziv (t:=⟨p0,p1,p2,q0,q1,q2,r⟩) (K:=⟨pc,st,ops⟩) (O:=O) h1 h2
      refine⟨s,q,h1,by omega,?_,?_,?_⟩
      ·rw [h3];exact f2
      ·rw [h3];exact f3
      ·rw [h3];exact YE (yg L) (fun s q=>nth (zv B s) q) L.b.length s q h1 h2
     have HEQ:Hid (xA L ⟨p0,p1,p2,q0,q1,q2,r⟩ ⟨pc,st,ops⟩ O B=(List.range r.toNat).map (Up (yu L ⟨p0,p1,p2,q0,q1,q2,r⟩ ⟨pc,st,ops⟩ O) (YC L B L.b.length) (Zt L L.b.length))):=rfl
     obtain⟨rn,hrn⟩:∃rn:Nat,r=(rn:Int):=⟨r.toNat,by omega⟩
     subst hrn
     rw [Int.toNat_natCast] at HEQ
     obtain⟨-,-,-,-,-,-,-,-,-,y9⟩:=HLR2.out.cells
     rw [HSV.out] at y9
     have hyz:=HLR2.out.lt
     have hmk:=run_make_row' (P:=prog) 63 2 (.int .i64 0) 8 underlying63 Tryz.i2 rfl .i64 .i64 rn (by omega) (by omega)
     obtain⟨D,gJ,hisD,hhas,hat0⟩:=HMS2.out
     have HOWN:=z9 gJ
     have HHAS:=z9 hhas
     have HAT:=z9 hat0
     have HZR:Hid (zu (x2.alloc (.cells (madeCells #[.int .i64 0] rn) 2)) x2.heap.size 2 rn (fun c=>.int .i64 ((fun _:Nat=>(0:Int)) c))):=zu.zeros x2 _ rn _
     have y9A:(x2.alloc (.cells (madeCells #[.int .i64 0] rn) 2)).cell? (ad c.y 9)=some (.map (some M)):=(zf (below_alloc1 x2 _) c.y 9 hyz).trans y9
     obtain⟨X,hX⟩:∃X,x2.alloc (.cells (madeCells #[.int .i64 0] rn) 2)=X:=⟨_,rfl⟩
     have hXz:X.heap.size=x2.heap.size+1:=by rw [<-hX];simp
     have HXZ:=z9 hXz
     have hMz:=HOWN.out.lt
     have HOX:Hid (X.ownsMap prog 3 Zz M (Zt L L.b.length) D):=by rw [<-hX];exact gJ.alloc _
     have HXB:Hid (Bw x2 X):=by rw [<-hX];exact below_alloc1 _ _
     rw [hX] at HZR
     have HXE:=z9 hX
     clear hbd hm gJ hhas hat0 hX y9 hXz
     go_wp2_with (first
      | (at_range;rw [HXE.out];refine wpList_range_own _ rfl _ 118 rfl 3 39 Vx underlying118 Zz M (Zt L L.b.length) D rfl HOX.out ?_;intro w0 hrg0 hg0 hs0)
      | fail)
     go_frame
     clear l0 l1 l2 t0 t1 t2 t3 t4 t5 t6 k0 k1 k2 hz y9A
     obtain⟨r0,hr0⟩:∃r0,X.heap.size=r0:=⟨_,rfl⟩
     rw [hr0] at hrg0 hs0 HXZ ⊢
     have HRG0:=z9 hrg0
     have HG0:=z9 hg0
     have hrx:x2.heap.size<r0:=by rw [HXZ.out];omega
     have HGN:Hid (∀{u u':World} {row:Option Nat},Bw u u'->u.grownBy u' row):=fun hb=>⟨hb.os,hb.tape,hb.output,hb.size,fun i hi _=>hb.block i hi⟩
     clear hrg0 hg0 hs0 hr0 hmk
     go_loopw [15] (fun _ wr=>∃(left:Lit->Bool) (cnt:Nat) (g:Nat->Int),wr.ranges prog 3 Zz M r0 (Zt L L.b.length) D left cnt/\zu wr x2.heap.size 2 rn (fun z=>.int .i64 (g z))/\zeg (yu L ⟨p0,p1,p2,q0,q1,q2,(rn:Int)⟩ ⟨pc,st,ops⟩ O) (YC L B L.b.length) (Zt L L.b.length) left g/\Bw x2 wr) (fun _ wr=>wr.rangeLeft M r0)
     case atStart=>exact⟨_,_,_,HRG0.out,HZR.out.grown HG0.out (by simp),zeg.start HHAS.out,HXB.out.grown HG0.out (by rw [<-HXE.out];simp) (fun j hj=>by cases hj)⟩
     case round =>
      clear HRG0 HG0 HZR
      obtain⟨left,cnt,g,hrg,gI,hent,gH⟩:=hrel
      have HRW:=z9 gI
      have HEN:=z9 hent
      have HBL:=z9 gH
      have HRG:=z9 hrg
      have hrz:r0<wr.heap.size:=hrg.lt
      clear gI hent gH
      go_wp2_with (first
       | (at_next;refine zr3 _ rfl _ rfl M r0 (Zt L L.b.length) D left cnt rfl HRG.out ?_ ?_)
       | fail)
      ·intro hc0 hl0
       have HFIN:Hid (zK wr (.slice (pA x2.heap.size) rn rn) (xA L ⟨p0,p1,p2,q0,q1,q2,(rn:Int)⟩ ⟨pc,st,ops⟩ O B)):=by
        rw [HEQ.out]
        refine zj5 (e:=2) ?_ (by unfold maxLen;omega) (HIN.out _)
        refine HRW.out.congr fun z hz=>?_
        rw [HEN.out.fin hl0 HDI.out (fun i hi=>(HFG.out i hi).1) z]
       have HWF:=z9 (gT.out.trans (HBL.out.mono gT.out.size))
       clear hc0 hl0 hrg
       go_wp2_with fail
       exact bodyPost_ret (v:=.tuple #[.slice (pA x2.heap.size) rn rn,.int .i64 0]) (by simp [results,results26,go_sem]) rfl (zzu HN.out HWF.out HFIN.out)
      ·intro x ca cq w1 cnt1 hwx hlk hat hrg1 hlt hg1 hs1 hen
       obtain⟨i,hi,hFi⟩:=(HHAS.out x).1 (Maps.has_true_of_atKey hat)
       have hpr:V8 ca cq=V8 (nth (zeb L) i) (nth (X8 L) i):=by
        have h1:=HAT.out i hi (.lit (.int .i64 0))
        rw [hFi] at h1
        exact (hat _).symm.trans h1
       obtain⟨s,q,hs,hq3,f2,f3,f4⟩:=HWH.out i hi
       rw [f2,f3] at hpr
       obtain⟨rfl,rfl⟩:ca=(s:Int)/\cq=(q:Int)+1:=by
        unfold V8 at hpr
        injection hpr with hpr
        injection hpr with h1 h2
        injection h2 with h2 _
        injection h1 with h1
        injection h2 with h2
        injection h1 with _ h1
        injection h2 with _ h2
        exact⟨h1,h2⟩
       obtain⟨g1,g2⟩:=HFG.out i hi
       rw [hFi] at g1 g2
       obtain⟨zn,rfl⟩:∃zn:Nat,x=zn:=⟨x.toNat,by omega⟩
       have hzr:zn<rn:=by omega
       have hzi:(zn:Int)<(rn:Int):=by omega
       have hb1:Bw x2 w1:=HBL.out.grown hg1 (by omega) (fun j hj=>by injection hj with hj;omega)
       have hw1:=gT.out.trans (hb1.mono gT.out.size)
       obtain⟨hBl,hB3⟩:=HBD.out
       obtain⟨xb1,xb2,heb,hbb1,hbb2,hbbc⟩:=HBC.out.gE hw1
       injection heb with eb1 eb2 eb3
       subst eb1;subst eb3
       unfold maxLen at hbb2
       obtain⟨bb,bo,rfl,hbbz,hbbcell⟩:=hbbc (by omega)
       obtain⟨u,hu,hui⟩:=hbbcell s (by omega)
       obtain⟨va,vc,rfl,hv1,hv2,-,hvc⟩:=hui
       rw [hB3 s (by omega)] at hu hv1 hvc
       unfold maxLen at hv2
       obtain⟨vb,vo,rfl,hvb,hvcell⟩:=hvc (by omega)
       have cV:=hvcell q (by omega)
       have hBi:(s:Int)<(B.length:Int):=by omega
       have hq3i:(q:Int)<3:=by omega
       have hwq:wrap64 ((q:Int)+1 - 1)=q:=by unfold wrap64;omega
       have hwq2:IntKind.i64.wrap ((q:Int)+1 - 1)=q:=by rw [zl5 (by omega) (by omega)];omega
       have hwq3:IntKind.i64.wrap (q:Int)=q:=zl5 (by omega) (by omega)
       have HVV:=z9 f4
       obtain⟨bv,hbv⟩:∃bv,nth (zv B s) q=bv:=⟨_,rfl⟩
       rw [hbv] at cV HVV
       have HFI:=z9 hFi
       have HI:=z9 hi
       have HLK:=z9 hlk
       have HRG1:=z9 hrg1
       have HLT:=z9 hlt
       have hrow1:zu w1 x2.heap.size 2 rn (fun z=>.int .i64 (g z)):=HRW.out.grown hg1 (by intro e;injection e with e;omega)
       have HRW1:=z9 hrow1
       obtain⟨W,hW⟩:∃W,w1.alloc (.cells #[.int .i64 (s:Int),.int .i64 ((q:Int)+1)] 39)=W:=⟨_,rfl⟩
       have hWb:Bw w1 W:=by rw [<-hW];exact below_alloc1 _ _
       have hWr:W.heap[w1.heap.size]?=some (.cells #[.int .i64 (s:Int),.int .i64 ((q:Int)+1)] 39 (0,0)):=by rw [<-hW];exact xT _ _ _
       have hxz1:x2.heap.size<w1.heap.size:=hrow1.lt
       have HS8:Hid (W.drew.cell? (ad w1.heap.size 0)=some (.int .i64 (s:Int))/\W.drew.cell? (ad w1.heap.size 1)=some (.int .i64 ((q:Int)+1))/\W.drew.cell? (ad bb (bo+s))=some (.slice (some (ad vb vo)) 3 vc)/\W.drew.cell? (ad vb (vo+q))=some (.int .i64 bv)/\W.drew.cell? (ad x2.heap.size zn)=some (.int .i64 (g zn))):=⟨by show W.cell? _=_;rw [cell_of_block hWr];rfl,by show W.cell? _=_;rw [cell_of_block hWr];rfl,(zf hWb bb (bo+s) hbbz).trans hu,(zf hWb vb (vo+q) hvb).trans cV,(zf hWb x2.heap.size zn hxz1).trans (hrow1.cell hzr)⟩
       have HWE:=z9 hW
       have HWB:=z9 hWb
       have HB1:=z9 hb1
       have hfW:W.frozen? (ad x2.heap.size zn)=false:=by rw [<-hW];exact (hrow1.alloc _).frozen zn
       have cfW:W.cell? (ad x2.heap.size zn)=some (.int .i64 (g zn)):=(zf hWb x2.heap.size zn hxz1).trans (hrow1.cell hzr)
       have hWz:w1.heap.size<W.heap.size:=(Array.getElem?_eq_some_iff.1 hWr).1
       clear hbbc hbbcell hvc hvcell hu cV hbv f2 f3 f4 hFi hi hlk hrg1 hlt hrow1 hW hWb hWr hb1 hw1 hBl hB3 eb2 hat hpr hg1 hs1 hrg
       go_wp2_with fail
       rw [HWE.out]
       refine wp_region_noPanic ?_
       refine zm 13 (fun w'=>w'.cell? (ad w1.heap.size 0)=some (.int .i64 (s:Int))/\w'.cell? (ad w1.heap.size 1)=some (.int .i64 ((q:Int)+1))/\w'.cell? (ad bb (bo+s))=some (.slice (some (ad vb vo)) 3 vc)/\w'.cell? (ad vb (vo+q))=some (.int .i64 bv)/\w'.cell? (ad x2.heap.size zn)=some (.int .i64 (g zn))) (by kernel_rfl) HS8.out (fun h9=>?_)
       refine uk 0 h9 ?_
       refine uk 1 h9 ?_
       refine uk 2 h9 ?_
       refine uk 3 h9 ?_
       refine uk 4 h9 ?_
       refine uk 5 h9 ?_
       refine uk 6 h9 ?_
       refine uk 7 h9 ?_
       refine uk 8 h9 ?_
       refine uk 9 h9 ?_
       refine uk 10 h9 ?_
       refine uk 11 h9 ?_
       refine uk 12 h9 ?_
       refine ze (i:=13) rfl (by kernel_rfl) (fun K hK=>?_)
       go_simp
       refine nxt hK.out (.inl rfl) ?_
       clear hK K
       refine zq (by kernel_rfl) ?_ _
       refine NoPanic.normal ?_
       have HFB:Hid (Bw x2 (W.setCell (ad x2.heap.size zn) (.int .i64 bv)).drew):=((HB1.out.trans (HWB.out.mono (by omega))).setCell (Nat.le_refl _) _).trans (below_draws _ _ 1)
       have HFG2:Hid (w1.grownBy (W.setCell (ad x2.heap.size zn) (.int .i64 bv)).drew (some x2.heap.size)):=((HGN.out (row:=some x2.heap.size) HWB.out).andThen (row':=some x2.heap.size) (c:=W.setCell (ad x2.heap.size zn) (.int .i64 bv)) ⟨rfl,rfl,rfl,by simp,fun i _ hne=>Below.heap_setCell _ _ _ _ (fun e=>hne (by rw [e]))⟩ (fun j hj=>.inr hj)).andThen (row':=none) (HGN.out (below_draws _ _ 1)) (fun j hj=>by cases hj)
       have HFR:Hid (zu (W.setCell (ad x2.heap.size zn) (.int .i64 bv)).drew x2.heap.size 2 rn (fun z=>.int .i64 ((fun z=>if z=(nth (yu L ⟨p0,p1,p2,q0,q1,q2,(rn:Int)⟩ ⟨pc,st,ops⟩ O) i).toNat then nth (YC L B L.b.length) i else g z) z))):=by
        refine (((HRW1.out.gE HWB.out hxz1).set zn (.int .i64 bv) hzr).congr fun z hz=>?_)
        rw [HFI.out,HVV.out]
        show (if z=zn then Value.int .i64 bv else .int .i64 (g z))=.int .i64 (if z=zn then bv else g z)
        split <;> rfl
       have HFE:Hid (zeg (yu L ⟨p0,p1,p2,q0,q1,q2,(rn:Int)⟩ ⟨pc,st,ops⟩ O) (YC L B L.b.length) (Zt L L.b.length) (fun z=>left z && !z.sameKey (.int .i64 (zn:Int))) (fun z=>if z=(nth (yu L ⟨p0,p1,p2,q0,q1,q2,(rn:Int)⟩ ⟨pc,st,ops⟩ O) i).toNat then nth (YC L B L.b.length) i else g z)):=by
        have h:=HEN.out.step HI.out (by rw [HFI.out];exact HLK.out) HDI.out (fun i hi=>(HFG.out i hi).1)
        rw [HFI.out] at h ⊢
        exact h
       have HFK:=z9 (HRG1.out.kept HFG2.out (by intro e;injection e with e;omega) (by intro e;injection e with e;omega))
       clear cfW hfW h9
       go_wp2_with fail
       go_roundw
       case rel=>exact⟨_,_,_,HFK.out,HFR.out,HFE.out,HFB.out⟩
       case measure=>rw [HFK.out.left_eq,HRG.out.left_eq];exact HLT.out
theorem zlc (hM:zbv) (hE:Zv):zgr:=by
 intro v kv ov bv t L K O B w hL hK hO hB
 obtain⟨a0,a1,a2,ka,oa,gA,gB,gC,kc,oc,rfl,rfl,rfl,hOp⟩:=zbk hL hK hO
 have hB':=hB
 obtain⟨ba,bc,rfl,-⟩:=hB'
 exact zie hM hE t.u0 t.u1 t.u2 t.w0 t.w1 t.w2 t.r K.pc K.st K.ops L O B a0 a1 a2 ka oa ba gA gB gC kc oc bc w hL hOp hO hB
end
theorem checkEnter_yc:zgr:=zlc Uk Vv
theorem checkLeave_yc:zgs:=zle Uk Vv
end Go.Proofs.YtjoapiafpahihabGreat
