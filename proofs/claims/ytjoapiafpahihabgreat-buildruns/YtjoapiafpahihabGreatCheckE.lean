import Derived.Test.YtjoapiafpahihabGreatCheckD
import Derived.Test.YtjoapiafpahihabGreatRef10C
import Derived.Test.YtjoapiafpahihabGreatDepP
import Derived.Test.YtjoapiafpahihabGreatKernQ
set_option maxHeartbeats 20000000
namespace Go.Proofs.YtjoapiafpahihabGreat
open Go.Proofs.Tryz
open Go.RowKit Go.Joins
set_option linter.unusedVariables false
set_option linter.unusedSimpArgs false
set_option maxRecDepth 8192
open Go.RowKit Go.Joins Go.Maps
variable {ra:Option Addr} {rl rc p:Nat} {left:Lit->Bool}
section
theorem zlj (w:World) (e:TypeId):(w.alloc (.cells #[] e)).ownsRow w.heap.size e 1 (.slice (pA w.heap.size) 0 0) 0 []:=by
 refine⟨rfl,.inr ⟨w.heap.size,0,#[],rfl,Nat.le_refl _,?_,Nat.le_refl _,Nat.zero_le _,rfl,rfl⟩⟩
 show (w.heap.push _)[w.heap.size]?=_
 simp
def VT (L:Lp) (t:Tg) (K:Kn) (O:List Int) (B:List (List Int)) (R:List Int) (gD:Int) (w:World) (e:Ending) (w':World):Prop :=
 Bw w w'/\∃ra rl rc c,e=.returned (.tuple #[.slice ra rl rc,iV c])/\((zQ L t K O && Z9 L B && decide ((R.length:Int)=t.r))=false->c=2/\rl=0)/\((zQ L t K O && Z9 L B && decide ((R.length:Int)=t.r))=true->inR gD 0 200=false->c=3/\rl=0)/\((zQ L t K O && Z9 L B && decide ((R.length:Int)=t.r))=true->inR gD 0 200=true->c=0/\zK w' (.slice ra rl rc) (xS L t K O B R gD))
variable {L:Lp} {t:Tg} {K:Kn} {O:List Int} {B:List (List Int)} {R:List Int} {gD:Int} {w w':World}
theorem zux (h:(zQ L t K O && Z9 L B && decide ((R.length:Int)=t.r))=false) (hb:Bw w w'):VT L t K O B R gD w (.returned (.tuple #[.slice none 0 0,iV 2])) w' :=
 ⟨hb,none,0,0,2,rfl,fun _=>⟨rfl,rfl⟩,fun h2=>(by rw [h] at h2;cases h2),fun h2=>(by rw [h] at h2;cases h2)⟩
theorem zuy (h:(zQ L t K O && Z9 L B && decide ((R.length:Int)=t.r))=true) (h3:inR gD 0 200=false) (hb:Bw w w'):VT L t K O B R gD w (.returned (.tuple #[.slice none 0 0,iV 3])) w' :=
 ⟨hb,none,0,0,3,rfl,fun h2=>(by rw [h] at h2;cases h2),fun _ _=>⟨rfl,rfl⟩,fun _ h4=>(by rw [h3] at h4;cases h4)⟩
theorem yab (h:(zQ L t K O && Z9 L B && decide ((R.length:Int)=t.r))=true) (h3:inR gD 0 200=true) (hb:Bw w w') (hi:zK w' (.slice ra rl rc) (xS L t K O B R gD)):VT L t K O B R gD w (.returned (.tuple #[.slice ra rl rc,iV 0])) w' :=
 ⟨hb,ra,rl,rc,0,rfl,fun h2=>(by rw [h] at h2;cases h2),fun _ h4=>(by rw [h3] at h4;cases h4),fun _ _=>⟨rfl,hi⟩⟩
theorem zif (hM:zbv) (hE:Zv) (p0 p1 p2 q0 q1 q2 r pc st:Int) (ops:List Kop) (L:Lp) (O R:List Int) (B:List (List Int)) (gD:Int) (a0 a1 a2 ka oa ba ra:Option Addr) (gA gB gC kc oc bc rc:Nat) (w:World) (hL:zE w ((lv L a0 a1 a2 gA gB gC)) L) (hK:Zf w (.slice ka ops.length kc) ops) (hO:zK w (.slice oa O.length oc) O) (hB:yo w (.slice ba B.length bc) B) (hR:zK w (.slice ra R.length rc) R) :
  Calls prog 28 #[(lv L a0 a1 a2 gA gB gC),(tv p0 p1 p2 q0 q1 q2 r),.agg #[iV pc,iV st,.slice ka ops.length kc],.slice oa O.length oc,.slice ba B.length bc,.slice ra R.length rc,iV gD] w (VT L ⟨p0,p1,p2,q0,q1,q2,r⟩ ⟨pc,st,ops⟩ O B R gD w):=by
 have aA:=z9 (below_alloc3 w (.cells #[.slice a0 L.l.length gA,.slice a1 L.b.length gB,.slice a2 L.o.length gC] 25) (.cells #[iV p0,iV p1,iV p2,iV q0,iV q1,iV q2,iV r] 28) (.cells #[iV pc,iV st,.slice ka ops.length kc] 31))
 have aY:Hid ((((w.alloc (.cells #[.slice a0 L.l.length gA,.slice a1 L.b.length gB,.slice a2 L.o.length gC] 25)).alloc (.cells #[iV p0,iV p1,iV p2,iV q0,iV q1,iV q2,iV r] 28)).alloc (.cells #[iV pc,iV st,.slice ka ops.length kc] 31)).heap.size=w.heap.size+1+1+1):=by show _=_;simp
 have ay:=z9 (zf2 hM hE p0 p1 p2 q0 q1 q2 r pc st ops L O a0 a1 a2 ka oa gA gB gC kc oc (((w.alloc (.cells #[.slice a0 L.l.length gA,.slice a1 L.b.length gB,.slice a2 L.o.length gC] 25)).alloc (.cells #[iV p0,iV p1,iV p2,iV q0,iV q1,iV q2,iV r] 28)).alloc (.cells #[iV pc,iV st,.slice ka ops.length kc] 31)) (hL.gE aA.out) (hK.gE aA.out) (hO.gE aA.out))
 have aU:=z9 (fun W (hb:Bw w W)=>zbj L (.slice a0 L.l.length gA) (.slice a2 L.o.length gC) a1 gB (.slice ba B.length bc) B W (hB.gE hb))
 have cg:=z9 (zum L ⟨p0,p1,p2,q0,q1,q2,r⟩ ⟨pc,st,ops⟩ O B R gD (Ud hB) (zob hR))
 have cw:=z9 (zfh L ⟨p0,p1,p2,q0,q1,q2,r⟩ ⟨pc,st,ops⟩ O B R gD)
 have dQ:=z9 (zfi L ⟨p0,p1,p2,q0,q1,q2,r⟩ ⟨pc,st,ops⟩ O B R gD)
 have aT:=z9 hB
 have cC:=z9 hR
 have eL:=z9 (show R.length<=9223372036854775807 by obtain⟨_,_,e,h1,h2,-⟩:=hR;unfold maxLen at h2;omega)
 obtain⟨j0,ji,jz0,jz1,jz2⟩:=info_parts Tryz.i2
 clear hL hK hO hM hE hB hR
 go_enter func28,ntmps28
 go_wp2_with fail
 refine ay.out.mono ?_
 rintro e x1 ⟨pv,rfl,hb,bK⟩
 rw [aY.out] at hb
 have az:=z9 hb
 obtain⟨⟨l0,l1,l2⟩,⟨t0,t1,t2,t3,t4,t5,t6⟩,⟨k0,k1,k2⟩,hz,hbw⟩:=yy hb
 have aC:=z9 hbw
 have bM:w.heap.size+1+1+1<=x1.heap.size:=by have:=az.out.size;rw [aY.out] at this;exact this
 have an:=z9 bK
 clear hb hbw ay aA bK
 cases htd:zQ L ⟨p0,p1,p2,q0,q1,q2,r⟩ ⟨pc,st,ops⟩ O with
 | false =>
   have HN:Hid ((zQ L ⟨p0,p1,p2,q0,q1,q2,r⟩ ⟨pc,st,ops⟩ O && Z9 L B && decide ((R.length:Int)=r))=false):=by show _=_;rw [htd];rfl
   clear htd
   go_wp2_with fail
   exact bodyPost_ret (v:=.tuple #[.slice none 0 0,iV 2]) (by simp [results,results28,go_sem]) rfl (zux HN.out aC.out)
 | true =>
   obtain⟨c,M,rfl,bR,bG,bQ⟩:=an.out htd
   have ai:xD L ⟨p0,p1,p2,q0,q1,q2,r⟩ ⟨pc,st,ops⟩ O=true:=by
    cases hl:xD L ⟨p0,p1,p2,q0,q1,q2,r⟩ ⟨pc,st,ops⟩ O with
    | true=>rfl
    | false=>rw [zat hl] at htd;cases htd
   have cF:=z9 htd
   have aj:=z9 bG
   have ag:=z9 ai
   clear htd bR bG bQ ai an
   go_wp2_with fail
   refine (aU.out x1 aC.out).mono ?_
   rintro e x2 ⟨rfl,hb⟩
   have bT:=z9 (az.out.trans (hb.mono bM))
   have ah:=z9 (aj.out.gE hb)
   clear hb l0 l1 l2 t0 t1 t2 t3 t4 t5 t6 k0 k1 k2 hz aj aU
   obtain⟨⟨l0,l1,l2⟩,⟨t0,t1,t2,t3,t4,t5,t6⟩,⟨k0,k1,k2⟩,hz,hbw⟩:=yy bT.out
   have gT:=z9 hbw
   clear hbw az aC bM
   cases hbd:Z9 L B with
   | false =>
     have HN:Hid ((zQ L ⟨p0,p1,p2,q0,q1,q2,r⟩ ⟨pc,st,ops⟩ O && Z9 L B && decide ((R.length:Int)=r))=false):=by show _=_;rw [hbd];simp
     clear hbd
     go_wp2_with fail
     exact bodyPost_ret (v:=.tuple #[.slice none 0 0,iV 2]) (by simp [results,results28,go_sem]) rfl (zux HN.out gT.out)
   | true =>
     have bU:Hid (B.length=L.b.length/\∀i,i<B.length->(zv B i).length=3):=by
      have aB:=hbd
      unfold Z9 at aB
      rw [Bool.and_eq_true] at aB
      exact⟨of_decide_eq_true aB.1,fun i hi=>of_decide_eq_true (zo aB.2 i hi)⟩
     by_cases hrl:(R.length:Int)=r
     ·have HN:Hid ((zQ L ⟨p0,p1,p2,q0,q1,q2,r⟩ ⟨pc,st,ops⟩ O && Z9 L B && decide ((R.length:Int)=r))=true):=by show _=_;rw [cF.out,hbd,decide_eq_true hrl];rfl
      have eE:((R.length:Int) != r)=false:=by simp [hrl]
      cases hin:inR gD 0 200 with
      | false =>
        have HI:=z9 hin
        have aZ:=z9 (fun W=>Vs gD 0 200 W)
        rw [hin] at aZ
        clear hbd hin
        go_wp2_with (go_at_call 69;refine (aZ.out _).mono ?_;rintro e w' ⟨rfl,aJ⟩;have aJ:=aJ.symm;subst aJ)
        exact bodyPost_ret (v:=.tuple #[.slice none 0 0,iV 3]) (by simp [results,results28,go_sem]) rfl (zuy HN.out HI.out gT.out)
      | true =>
        have HI:=z9 hin
        have eH:=zx.1 hin
        obtain⟨eZ,ht1⟩:=eH
        have aZ:=z9 (fun W=>Vs gD 0 200 W)
        rw [hin] at aZ
        obtain⟨hm,-⟩:=yP ag.out
        obtain⟨⟨-,-,bI⟩,-⟩:=yz ag.out
        obtain⟨-,er,cX,dE,-⟩:=zw hm
        have aQ:r<=128:=by
         obtain⟨-,-,-,-,-,-,-,-,aQ,-⟩:=Z7 ag.out (s:=0) (by omega)
         exact aQ
        simp only at bI
        have dS:=z9 (fun i (hi:i<L.o.length)=>Y8 hm hi)
        have dU:=z9 (fun (s:Nat) (hs:s<L.b.length)=>And.intro (Z7 ag.out hs).2.2.2.2.2.2.1 (Z7 ag.out hs).2.2.2.2.2.2.2.1)
        obtain⟨v0,v1,v2,bP,-,-,⟨o1,oc1,rfl,eR,eA,-,dD⟩⟩:=ah.out.lv
        unfold maxLen at eA
        injection bP with bP
        obtain⟨eI,bL,aS⟩:c.l0=v0/\c.l1=v1/\c.l2=.slice o1 L.o.length oc1:=by
         have:=congrArg Array.toList bP
         simpa using this
        obtain⟨-,-,y2,-,-,-,-,y7,-⟩:=ah.out.cells
        rw [aS] at y2
        have dR:=z9 dD
        have dh:=ah.out.lt
        have dq:=z9 (zlj x2 2)
        clear hbd hin bP eI bL aS dD hm
        go_wp2_with (go_at_call 69;refine (aZ.out _).mono ?_;rintro e w' ⟨rfl,aJ⟩;have aJ:=aJ.symm;subst aJ)
        clear l0 l1 l2 t0 t1 t2 t3 t4 t5 t6 k0 k1 k2 hz y2
        go_loopw [18,55] (fun ov iv wr=>∃k:Nat,k<=L.o.length/\iv=iV k/\∃ua uc,ov=.slice ua k uc/\wr.ownsRow x2.heap.size 2 1 (.slice ua k uc) k (((xS L ⟨p0,p1,p2,q0,q1,q2,r⟩ ⟨pc,st,ops⟩ O B R gD).take k).map (Value.int .i64))/\Bw x2 wr) (fun _ iv _=>L.o.length - (intOf iv).toNat)
        case atStart=>exact⟨0,Nat.zero_le _,rfl,some (ad x2.heap.size 0),0,rfl,dq.out,below_alloc1 _ _⟩
        case round =>
         clear dq
         obtain⟨k,hk,rfl,ua,uc,rfl,gJ,gH⟩:=hrel
         have aW:=z9 gJ
         have aL:=z9 gH
         have HW:=z9 (gT.out.trans (gH.mono gT.out.size))
         have aM:=z9 (ah.out.gE gH)
         have bS:=gH.size
         by_cases hkl:k<L.o.length
         ·have ep:(k:Int)<(L.o.length:Int):=by omega
          obtain⟨gb,go,rfl,el,dC⟩:=dR.out (by omega)
          have cK:=(zf gH gb (go+k) el).trans (dC k hkl)
          have eP:gb<wr.heap.size:=by omega
          obtain⟨eu,ey⟩:=dS.out k hkl
          obtain⟨on,dF⟩:∃on:Nat,nth L.o k=(on:Int):=⟨(nth L.o k).toNat,by omega⟩
          have aN:=z9 (dQ.out k hkl)
          rw [dF] at cK eu ey aN
          rw [Int.toNat_natCast] at aN
          have bH:on<L.b.length:=by omega
          obtain⟨cJ,bf⟩:=bU.out
          obtain⟨xb1,xb2,cO,cN,aH,ao⟩:=aT.out.gE HW.out
          injection cO with eb1 eb2 eb3
          subst eb1;subst eb3
          unfold maxLen at aH
          obtain⟨bb,bo,rfl,bz,ab⟩:=ao (by omega)
          obtain⟨u,hu,df⟩:=ab on (by omega)
          obtain⟨va,vc,rfl,bL,aS,-,aI⟩:=df
          rw [bf on (by omega)] at hu bL aI
          unfold maxLen at aS
          obtain⟨vb,vo,rfl,dH,ae⟩:=aI (by omega)
          have cV:=ae 0 (by omega)
          rw [Nat.add_zero] at cV
          have ee:(on:Int)<(B.length:Int):=by omega
          have eQ:(on:Int)<(L.b.length:Int):=by omega
          obtain⟨-,-,-,-,-,-,-,y7,-⟩:=aM.out.cells
          have cP:=aM.out.pl.cell bH
          have eU:=aM.out.pl.lt
          have dh:=aM.out.lt
          obtain⟨cp1,cp2⟩:=aM.out.cp
          unfold maxLen at cp2
          obtain⟨eS,eT⟩:=dU.out on bH
          have aE:=z9 (fun n h1 h2=>U0 c L ⟨p0,p1,p2,q0,q1,q2,r⟩ ⟨pc,st,ops⟩ O n wr aM.out bI aQ h1 h2)
          generalize zr ⟨pc,st,ops⟩ O on=pl at *
          generalize nth (zv B on) 0=b0 at *
          have bF:k<(xS L ⟨p0,p1,p2,q0,q1,q2,r⟩ ⟨pc,st,ops⟩ O B R gD).length:=by rw [cw.out];exact hkl
          have ay:=z9 (zgh _ k bF)
          clear dC ao ab aI ae dF eb2 cJ bf gJ gH
          by_cases htp:0<gD
          ·have aG:Hid (nth (xS L ⟨p0,p1,p2,q0,q1,q2,r⟩ ⟨pc,st,ops⟩ O B R gD) k=nth R ((pl+gD - 1) % r).toNat):=by show _=_;rw [aN.out,if_pos htp]
           obtain⟨rr,cZ⟩:∃rr:Nat,(pl+gD - 1) % r=(rr:Int):=⟨((pl+gD - 1) % r).toNat,by have:=Int.emod_nonneg (pl+gD - 1) (show r≠0 by omega);omega⟩
           have de:=Int.emod_lt_of_pos (pl+gD - 1) (show 0<r by omega)
           rw [cZ] at de aG
           rw [Int.toNat_natCast] at aG
           obtain⟨xr1,xr2,eh,eW,eD,-,bJ⟩:=cC.out.gE HW.out
           injection eh with er1 er2 er3
           subst er1;subst er3
           unfold maxLen at eD
           obtain⟨rb,ro,rfl,eG,au⟩:=bJ (by omega)
           have cR:=au rr (by omega)
           have eX:(rr:Int)<(R.length:Int):=by omega
           have dg:wrap64 (pl+gD)=pl+gD:=by unfold wrap64;omega
           have fa:wrap64 (pl+gD - 1)=pl+gD - 1:=by unfold wrap64;omega
           have cu:=z9 (aE.out (pl+gD - 1) (by omega) (by omega))
           simp only at cu
           rw [cZ] at cu
           generalize nth R rr=rv at *
           rw [aG.out] at ay
           clear bJ au cZ er2 aN aG hrl aE cC aT
           go_wp2_with fail
           refine cu.out.mono ?_
           rintro e w1 ⟨rfl,n1,rfl⟩
           go_wp2_with (at_builtin;refine wpList_append_own _ rfl (.tmp 82) (.tmp 84) 63 rfl x2.heap.size 2 j0 (iV 0) 1 8 underlying63 ji jz0 jz1 jz2 rfl (by decide) _ _ _ rfl (zA aW.out (by first | exact (below_draws _ _ _).alloc (Nat.le_refl _) _ | exact (below_alloc1 _ _).trans (below_draws _ _ _))) (ad wr.heap.size 0) 1 1 [iV rv] rfl rfl (by exact xU _ _ _) (by intro u hu;simp at hu;subst hu;rfl) (by unfold maxLen;omega) (by omega) (by simp;omega) ?_;intro v2' w2 gP gN hnil2;obtain⟨oa2,oc2,rfl,cU,cW⟩:=ZI gP;have cA:=z9 gP;have ce:=z9 gN;clear gP gN)
           go_roundw
           case rel =>
            have h2:=cA.out
            rw [ay.out] at h2
            exact⟨k+1,by omega,by go_num,oa2,oc2,rfl,h2,(aL.out.trans (((below_draws _ _ _).alloc (Nat.le_refl _) _).mono aL.out.size)).grown ce.out (by simp;omega) (fun g hg=>yc aW.out g hg)⟩
           case measure=>simp [intOf];omega
          ·have aG:Hid (nth (xS L ⟨p0,p1,p2,q0,q1,q2,r⟩ ⟨pc,st,ops⟩ O B R gD) k=b0):=by show _=_;rw [aN.out,if_neg htp]
           rw [aG.out] at ay
           clear aN aG hrl aE cC aT
           go_wp2_with (at_builtin;refine wpList_append_own _ rfl (.tmp 82) (.tmp 84) 63 rfl x2.heap.size 2 j0 (iV 0) 1 8 underlying63 ji jz0 jz1 jz2 rfl (by decide) _ _ _ rfl (zA aW.out (below_alloc1 _ _)) (ad wr.heap.size 0) 1 1 [iV b0] rfl rfl (by exact xU _ _ _) (by intro u hu;simp at hu;subst hu;rfl) (by unfold maxLen;omega) (by omega) (by simp;omega) ?_;intro v2' w2 gP gN hnil2;obtain⟨oa2,oc2,rfl,cU,cW⟩:=ZI gP;have cA:=z9 gP;have ce:=z9 gN;clear gP gN)
           go_roundw
           case rel =>
            have h2:=cA.out
            rw [ay.out] at h2
            exact⟨k+1,by omega,by go_num,oa2,oc2,rfl,h2,(aL.out.alloc (by omega) _).grown ce.out (by simp;omega) (fun g hg=>yc aW.out g hg)⟩
           case measure=>simp [intOf];omega
         ·have e:k=L.o.length:=by omega
          subst e
          have ep:¬(L.o.length:Int)<(L.o.length:Int):=by omega
          have aD:Hid (zK wr (.slice ua L.o.length uc) (xS L ⟨p0,p1,p2,q0,q1,q2,r⟩ ⟨pc,st,ops⟩ O B R gD)):=by
           have h:=aW.out
           have e1:(xS L ⟨p0,p1,p2,q0,q1,q2,r⟩ ⟨pc,st,ops⟩ O B R gD).take L.o.length=(xS L ⟨p0,p1,p2,q0,q1,q2,r⟩ ⟨pc,st,ops⟩ O B R gD):=by rw [<-cw.out];exact List.take_length
           rw [e1] at h
           refine zbn (base:=x2.heap.size) ?_ cg.out
           rw [cw.out];exact h
          clear gJ gH
          go_wp2_with fail
          exact bodyPost_ret (v:=.tuple #[.slice ua L.o.length uc,iV 0]) (by simp [results,results28,go_sem]) rfl (yab HN.out HI.out HW.out aD.out)
     ·have HN:Hid ((zQ L ⟨p0,p1,p2,q0,q1,q2,r⟩ ⟨pc,st,ops⟩ O && Z9 L B && decide ((R.length:Int)=r))=false):=by show _=_;rw [decide_eq_false hrl];simp
      have eE:((R.length:Int) != r)=true:=by simp [hrl]
      clear hbd
      go_wp2_with fail
      exact bodyPost_ret (v:=.tuple #[.slice none 0 0,iV 2]) (by simp [results,results28,go_sem]) rfl (zux HN.out gT.out)
theorem zle (hM:zbv) (hE:Zv):zgs:=by
 intro v kv ov bv rv t L K O B R gD w hL hK hO hB hR
 obtain⟨a0,a1,a2,ka,oa,gA,gB,gC,kc,oc,rfl,rfl,rfl,cL⟩:=zbk hL hK hO
 have cI:=hB
 obtain⟨ba,bc,rfl,-⟩:=cI
 have ef:=hR
 obtain⟨ra,rc,rfl,-⟩:=ef
 exact zif hM hE t.u0 t.u1 t.u2 t.w0 t.w1 t.w2 t.r K.pc K.st K.ops L O R B gD a0 a1 a2 ka oa ba ra gA gB gC kc oc bc rc w hL cL hO hB hR
end
section
def zeg (F V:List Int) (p:Nat) (left:Lit->Bool) (g:Nat->Int):Prop :=
 (∀i,i<p->left (.int .i64 (nth F i))=false->g (nth F i).toNat=nth V i)/\∀z:Nat,(left (.int .i64 (z:Int))=true\/∀i,i<p->nth F i≠z)->g z=0
theorem zeg.start {F V:List Int} {D:DataW Unit} (h:∀z,Maps.has D (.int .i64 z)=true↔∃i,i<p/\nth F i=z):zeg F V p (Maps.has D) (fun _=>0) :=
 ⟨fun i hi h2=>(by rw [(h _).2 ⟨i,hi,rfl⟩] at h2;cases h2),fun z _=>rfl⟩
theorem zxt (z:Int):WideAt.IsKeyLit (.int .i64 z):=trivial
theorem zeg.step {F V:List Int} {i:Nat} {g:Nat->Int} (h:zeg F V p left g) (hi:i<p) (hl:left (.int .i64 (nth F i))=true) (hd:∀i j,i<j->j<p->nth F i≠nth F j) (h0:∀i,i<p->0<=nth F i) :
  zeg F V p (fun z=>left z && !z.sameKey (.int .i64 (nth F i))) (fun z=>if z=(nth F i).toNat then nth V i else g z):=by
 have cS:∀a b,a<p->b<p->nth F a=nth F b->a=b:=fun a b ha hb e=>by
  by_cases h1:a<b
  ·exact absurd e (hd a b h1 hb)
  ·by_cases h2:b<a
   ·exact absurd e.symm (hd b a h2 ha)
   ·omega
 refine⟨fun j hj h2=>?_,fun z h2=>?_⟩
 ·by_cases e:nth F j=nth F i
  ·have:=cS j i hj hi e
   subst this
   exact if_pos rfl
  ·have cY:(nth F j).toNat≠(nth F i).toNat:=by have:=h0 j hj;have:=h0 i hi;omega
   show (if (nth F j).toNat=(nth F i).toNat then nth V i else g (nth F j).toNat)=_
   rw [if_neg cY]
   have h3:(left (.int .i64 (nth F j)) && !(Lit.int .i64 (nth F j)).sameKey (.int .i64 (nth F i)))=false:=h2
   rw [sameKey_ne (fun h=>e (by injection h))] at h3
   exact h.1 j hj (by simpa using h3)
 ·have hz:z≠(nth F i).toNat:=by
   intro e
   have e2:nth F i=z:=by have:=h0 i hi;omega
   rcases h2 with h2 | h2
   ·have h3:(left (.int .i64 (z:Int)) && !(Lit.int .i64 (z:Int)).sameKey (.int .i64 (nth F i)))=true:=h2
    rw [e2,WideAt.sameKey_self (zxt _)] at h3
    simp at h3
   ·exact h2 i hi e2
  show (if z=(nth F i).toNat then nth V i else g z)=0
  rw [if_neg hz]
  refine h.2 z ?_
  rcases h2 with h2 | h2
  ·have h3:(left (.int .i64 (z:Int)) && !(Lit.int .i64 (z:Int)).sameKey (.int .i64 (nth F i)))=true:=h2
   rw [Bool.and_eq_true] at h3
   exact .inl h3.1
  ·exact .inr h2
theorem zeg.fin {F V:List Int} {g:Nat->Int} (h:zeg F V p left g) (hl:∀kl,left kl=false) (hd:∀i j,i<j->j<p->nth F i≠nth F j) (h0:∀i,i<p->0<=nth F i) (z:Nat):g z=Up F V p z:=by
 by_cases e:∃i,i<p/\nth F i=z
 ·obtain⟨i,hi,e⟩:=e
  have h1:=h.1 i hi (hl _)
  have h2:=zop (F:=F) (V:=V) p (fun a b hab hb he=>hd a b hab hb (by have:=h0 a (by omega);have:=h0 b hb;omega)) i hi
  rw [e] at h1 h2
  rw [show ((z:Int)).toNat=z from rfl] at h1 h2
  rw [h1,h2]
 ·have hn:∀i,i<p->nth F i≠z:=fun i hi h=>e ⟨i,hi,h⟩
  rw [h.2 z (.inr hn),zvv p (fun i hi h=>hn i hi (by have:=h0 i hi;omega))]
def zaq (L:Lp) (t:Tg) (K:Kn) (O:List Int) (B:List (List Int)) (w:World) (e:Ending) (w':World):Prop :=
 Bw w w'/\∃ra rl rc c,e=.returned (.tuple #[.slice ra rl rc,iV c])/\((zQ L t K O && Z9 L B)=false->c=2/\rl=0)/\((zQ L t K O && Z9 L B)=true->c=0/\zK w' (.slice ra rl rc) (xA L t K O B))
variable {L:Lp} {t:Tg} {K:Kn} {O:List Int} {B:List (List Int)} {w w':World}
theorem zzb (h:(zQ L t K O && Z9 L B)=false) (hb:Bw w w'):zaq L t K O B w (.returned (.tuple #[.slice none 0 0,iV 2])) w' :=
 ⟨hb,none,0,0,2,rfl,fun _=>⟨rfl,rfl⟩,fun h2=>(by rw [h] at h2;cases h2)⟩
theorem zzu (h:(zQ L t K O && Z9 L B)=true) (hb:Bw w w') (hi:zK w' (.slice ra rl rc) (xA L t K O B)):zaq L t K O B w (.returned (.tuple #[.slice ra rl rc,iV 0])) w' :=
 ⟨hb,ra,rl,rc,0,rfl,fun h2=>(by rw [h] at h2;cases h2),fun _=>⟨rfl,hi⟩⟩
theorem zxv (key:Value) (kl:Lit) (h:keyOf prog 3 key=some kl):∃x:Int,key=.int .i64 x:=by
 obtain⟨x,e,-⟩:=Maps.keyOf_int_inv underlying3 h
 exact⟨x,e⟩
theorem zz5 (v:Value) (y:DataW Unit × List MemPlace) (h:Zz v=some y):∃c:Int × Int,v=.agg #[iV c.1,iV c.2]:=by
 obtain⟨a,q,e,-⟩:=zbq h
 exact⟨(a,q),e⟩
theorem zr3 (w:World) {ops:Array Oper} {rest:List Oper} {o:Oper} {a:Act} {Q:Exit->Act->World->Prop} (hg:o.guard=none) (it:Operand) (eB:o.op=Op.next it false)
  (b r n:Nat) (D:DataW Unit) (left:Lit->Bool) (cnt:Nat) (hit:a.eval it=.pointer (pA r)) (h:w.ranges prog 3 Zz b r n D left cnt)
  (bh:cnt=0->(∀kl,left kl=false)->wpList prog ops Q rest (a.put o.dst (.tuple #[.bool false])) w)
  (bj:∀(x ca cq:Int) (w':World) (cnt':Nat),(Lit.int .i64 x).wf=true->left (.int .i64 x)=true->(∀zd,D.atKey (.int .i64 x) zd=V8 ca cq)->w'.ranges prog 3 Zz b r n D (fun z=>left z && !z.sameKey (.int .i64 x)) cnt'->cnt'<cnt ->
   w.grownBy w' (some r)->w'.heap.size=w.heap.size->(Instr.entry (.pointer (pA r))).run prog w'=.ok (.tuple #[.int .i64 x,.agg #[.int .i64 ca,.int .i64 cq]]) w'->wpList prog ops Q rest (a.put o.dst (.tuple #[.bool true,.int .i64 x,.agg #[.int .i64 ca,.int .i64 cq]])) w') :
  wpList prog ops Q (o :: rest) a w :=
 wpList_next_ranges w hg it eB 3 Vx Zz (Value.int .i64) (fun p:Int × Int=>.agg #[.int .i64 p.1,.int .i64 p.2]) zxv zz5 b r n D left cnt hit h bh (fun x c kl y w' cnt' hkey hlk hv hat aR hlt hgr hsz hen=>by
  obtain⟨x',ex,rfl,dI⟩:=Maps.keyOf_int_inv underlying3 hkey
  injection ex with ex1 ex2
  subst ex2
  have hy:y=(V8 c.1 c.2,[]):=Option.some.inj (hv.symm.trans (UD c.1 c.2))
  subst hy
  exact bj x c.1 c.2 w' cnt' dI hlk hat aR hlt hgr hsz hen)
theorem zie (hM:zbv) (hE:Zv) (p0 p1 p2 q0 q1 q2 r pc st:Int) (ops:List Kop) (L:Lp) (O:List Int) (B:List (List Int)) (a0 a1 a2 ka oa ba:Option Addr) (gA gB gC kc oc bc:Nat) (w:World) (hL:zE w ((lv L a0 a1 a2 gA gB gC)) L) (hK:Zf w (.slice ka ops.length kc) ops) (hO:zK w (.slice oa O.length oc) O) (hB:yo w (.slice ba B.length bc) B) :
  Calls prog 26 #[(lv L a0 a1 a2 gA gB gC),.agg #[.int .i64 p0,.int .i64 p1,.int .i64 p2,.int .i64 q0,.int .i64 q1,.int .i64 q2,.int .i64 r],.agg #[.int .i64 pc,.int .i64 st,.slice ka ops.length kc],.slice oa O.length oc,.slice ba B.length bc] w (zaq L ⟨p0,p1,p2,q0,q1,q2,r⟩ ⟨pc,st,ops⟩ O B w):=by
 have aA:=z9 (below_alloc3 w (.cells #[.slice a0 L.l.length gA,.slice a1 L.b.length gB,.slice a2 L.o.length gC] 25) (.cells #[.int .i64 p0,.int .i64 p1,.int .i64 p2,.int .i64 q0,.int .i64 q1,.int .i64 q2,.int .i64 r] 28) (.cells #[.int .i64 pc,.int .i64 st,.slice ka ops.length kc] 31))
 have aY:Hid ((((w.alloc (.cells #[.slice a0 L.l.length gA,.slice a1 L.b.length gB,.slice a2 L.o.length gC] 25)).alloc (.cells #[.int .i64 p0,.int .i64 p1,.int .i64 p2,.int .i64 q0,.int .i64 q1,.int .i64 q2,.int .i64 r] 28)).alloc (.cells #[.int .i64 pc,.int .i64 st,.slice ka ops.length kc] 31)).heap.size=w.heap.size+1+1+1):=by show _=_;simp
 have ay:=z9 (zf2 hM hE p0 p1 p2 q0 q1 q2 r pc st ops L O a0 a1 a2 ka oa gA gB gC kc oc (((w.alloc (.cells #[.slice a0 L.l.length gA,.slice a1 L.b.length gB,.slice a2 L.o.length gC] 25)).alloc (.cells #[.int .i64 p0,.int .i64 p1,.int .i64 p2,.int .i64 q0,.int .i64 q1,.int .i64 q2,.int .i64 r] 28)).alloc (.cells #[.int .i64 pc,.int .i64 st,.slice ka ops.length kc] 31)) (hL.gE aA.out) (hK.gE aA.out) (hO.gE aA.out))
 have aU:=z9 (fun W (hb:Bw w W)=>zbj L (.slice a0 L.l.length gA) (.slice a2 L.o.length gC) a1 gB (.slice ba B.length bc) B W (hB.gE hb))
 have bg:=Ud hB
 have cg:=z9 (fun m c=>zyj (F:=yu L ⟨p0,p1,p2,q0,q1,q2,r⟩ ⟨pc,st,ops⟩ O) (V:=YC L B L.b.length) (zxn _ _ (fun s q=>bg s q) _) m c)
 have aT:=z9 hB
 clear hL hK hO hM hE hB bg
 go_enter func26,ntmps26
 go_wp2_with fail
 refine ay.out.mono ?_
 rintro e x1 ⟨pv,rfl,hb,bK⟩
 rw [aY.out] at hb
 have az:=z9 hb
 obtain⟨⟨l0,l1,l2⟩,⟨t0,t1,t2,t3,t4,t5,t6⟩,⟨k0,k1,k2⟩,hz,hbw⟩:=yy hb
 have aC:=z9 hbw
 have bM:w.heap.size+1+1+1<=x1.heap.size:=by have:=az.out.size;rw [aY.out] at this;exact this
 have an:=z9 bK
 clear hb hbw ay aA bK
 cases htd:zQ L ⟨p0,p1,p2,q0,q1,q2,r⟩ ⟨pc,st,ops⟩ O with
 | false =>
   have HN:Hid ((zQ L ⟨p0,p1,p2,q0,q1,q2,r⟩ ⟨pc,st,ops⟩ O && Z9 L B)=false):=by show _=_;rw [htd];rfl
   clear htd
   go_wp2_with fail
   exact bodyPost_ret (v:=.tuple #[.slice none 0 0,.int .i64 2]) (by simp [results,results26,go_sem]) rfl (zzb HN.out aC.out)
 | true =>
   obtain⟨c,M,rfl,bR,bG,bQ⟩:=an.out htd
   have ai:xD L ⟨p0,p1,p2,q0,q1,q2,r⟩ ⟨pc,st,ops⟩ O=true:=by
    cases hl:xD L ⟨p0,p1,p2,q0,q1,q2,r⟩ ⟨pc,st,ops⟩ O with
    | true=>rfl
    | false=>rw [zat hl] at htd;cases htd
   have bC:Zw L ⟨p0,p1,p2,q0,q1,q2,r⟩ ⟨pc,st,ops⟩ O=true:=by
    have h:=htd
    rw [zdx ai] at h
    simp only [Bool.and_eq_true] at h
    exact h.1.1.1.1
   have cF:=z9 htd
   have aj:=z9 bG
   have ag:=z9 ai
   have dK:=z9 bC
   have aF:=z9 bQ
   have dW:=z9 bR
   clear htd bR bG bQ ai an bC
   go_wp2_with fail
   refine (aU.out x1 aC.out).mono ?_
   rintro e x2 ⟨rfl,hb⟩
   have bT:=z9 (az.out.trans (hb.mono bM))
   have ah:=z9 (aj.out.gE hb)
   have cx:=z9 (aF.out.gG (hb.block _ aF.out.lt))
   clear hb l0 l1 l2 t0 t1 t2 t3 t4 t5 t6 k0 k1 k2 hz aj aU aF
   obtain⟨⟨l0,l1,l2⟩,⟨t0,t1,t2,t3,t4,t5,t6⟩,⟨k0,k1,k2⟩,hz,hbw⟩:=yy bT.out
   have gT:=z9 hbw
   clear hbw az aC bM
   cases hbd:Z9 L B with
   | false =>
     have HN:Hid ((zQ L ⟨p0,p1,p2,q0,q1,q2,r⟩ ⟨pc,st,ops⟩ O && Z9 L B)=false):=by show _=_;rw [hbd];simp
     clear hbd
     go_wp2_with fail
     exact bodyPost_ret (v:=.tuple #[.slice none 0 0,.int .i64 2]) (by simp [results,results26,go_sem]) rfl (zzb HN.out gT.out)
   | true =>
     have bU:Hid (B.length=L.b.length/\∀i,i<B.length->(zv B i).length=3):=by
      have aB:=hbd
      unfold Z9 at aB
      rw [Bool.and_eq_true] at aB
      exact⟨of_decide_eq_true aB.1,fun i hi=>of_decide_eq_true (zo aB.2 i hi)⟩
     have HN:Hid ((zQ L ⟨p0,p1,p2,q0,q1,q2,r⟩ ⟨pc,st,ops⟩ O && Z9 L B)=true):=by show _=_;rw [cF.out,hbd];rfl
     obtain⟨hm,-⟩:=yP ag.out
     obtain⟨⟨-,-,bI⟩,-⟩:=yz ag.out
     obtain⟨-,er,cX,-⟩:=zw hm
     have aQ:r<=128:=by
      obtain⟨-,-,-,-,-,-,-,-,aQ,-⟩:=Z7 ag.out (s:=0) (by omega)
      exact aQ
     simp only at bI
     have di:Hid (∀i j,i<j->j<Zt L L.b.length->nth (yu L ⟨p0,p1,p2,q0,q1,q2,r⟩ ⟨pc,st,ops⟩ O) i≠nth (yu L ⟨p0,p1,p2,q0,q1,q2,r⟩ ⟨pc,st,ops⟩ O) j):=fun i j hij hj=>by
      have h:=dK.out
      have e:Zw L ⟨p0,p1,p2,q0,q1,q2,r⟩ ⟨pc,st,ops⟩ O=zC (YV (yu L ⟨p0,p1,p2,q0,q1,q2,r⟩ ⟨pc,st,ops⟩ O)) (Zt L L.b.length):=by show zC (YV (yu L ⟨p0,p1,p2,q0,q1,q2,r⟩ ⟨pc,st,ops⟩ O)) (yu L ⟨p0,p1,p2,q0,q1,q2,r⟩ ⟨pc,st,ops⟩ O).length=_;rw [zf5]
      rw [e] at h
      have h6:=zo (zo h j hj) i hij
      simpa using h6
     have bV:Hid (∀i,i<Zt L L.b.length->0<=nth (yu L ⟨p0,p1,p2,q0,q1,q2,r⟩ ⟨pc,st,ops⟩ O) i/\nth (yu L ⟨p0,p1,p2,q0,q1,q2,r⟩ ⟨pc,st,ops⟩ O) i<r):=fun i hi=>UY (t:=⟨p0,p1,p2,q0,q1,q2,r⟩) bI L ⟨pc,st,ops⟩ O (k:=L.b.length) hi
     have dZ:Hid (∀i,i<Zt L L.b.length->∃s q:Nat,s<L.b.length/\q<3/\nth (zeb L) i=s/\nth (X8 L) i=(q:Int)+1/\nth (YC L B L.b.length) i=nth (zv B s) q):=fun i hi=>by
      obtain⟨s,q,h1,h2,h3⟩:=UZ (yg L) L.b.length i hi
      have h4:=zaw hm s
      obtain⟨-,f2,f3⟩:=ziv (t:=⟨p0,p1,p2,q0,q1,q2,r⟩) (K:=⟨pc,st,ops⟩) (O:=O) h1 h2
      refine⟨s,q,h1,by omega,?_,?_,?_⟩
      ·rw [h3];exact f2
      ·rw [h3];exact f3
      ·rw [h3];exact YE (yg L) (fun s q=>nth (zv B s) q) L.b.length s q h1 h2
     have dm:Hid (xA L ⟨p0,p1,p2,q0,q1,q2,r⟩ ⟨pc,st,ops⟩ O B=(List.range r.toNat).map (Up (yu L ⟨p0,p1,p2,q0,q1,q2,r⟩ ⟨pc,st,ops⟩ O) (YC L B L.b.length) (Zt L L.b.length))):=rfl
     obtain⟨rn,eF⟩:∃rn:Nat,r=(rn:Int):=⟨r.toNat,by omega⟩
     subst eF
     rw [Int.toNat_natCast] at dm
     obtain⟨-,-,-,-,-,-,-,-,-,y9⟩:=ah.out.cells
     rw [dW.out] at y9
     have dh:=ah.out.lt
     have eq:=run_make_row' (P:=prog) 63 2 (.int .i64 0) 8 underlying63 Tryz.i2 rfl .i64 .i64 rn (by omega) (by omega)
     obtain⟨D,gJ,em,bE,bq⟩:=cx.out
     have cB:=z9 gJ
     have aV:=z9 bE
     have dJ:=z9 bq
     have cH:Hid (zu (x2.alloc (.cells (madeCells #[.int .i64 0] rn) 2)) x2.heap.size 2 rn (fun c=>.int .i64 ((fun _:Nat=>(0:Int)) c))):=zu.zeros x2 _ rn _
     have y9A:(x2.alloc (.cells (madeCells #[.int .i64 0] rn) 2)).cell? (ad c.y 9)=some (.map (some M)):=(zf (below_alloc1 x2 _) c.y 9 dh).trans y9
     obtain⟨X,hX⟩:∃X,x2.alloc (.cells (madeCells #[.int .i64 0] rn) 2)=X:=⟨_,rfl⟩
     have dA:X.heap.size=x2.heap.size+1:=by rw [<-hX];simp
     have dy:=z9 dA
     have eM:=cB.out.lt
     have dT:Hid (X.ownsMap prog 3 Zz M (Zt L L.b.length) D):=by rw [<-hX];exact gJ.alloc _
     have ed:Hid (Bw x2 X):=by rw [<-hX];exact below_alloc1 _ _
     rw [hX] at cH
     have dx:=z9 hX
     clear hbd hm gJ bE bq hX y9 dA
     go_wp2_with (first
      | (at_range;rw [dx.out];refine wpList_range_own _ rfl _ 118 rfl 3 39 Vx underlying118 Zz M (Zt L L.b.length) D rfl dT.out ?_;intro w0 hrg0 hg0 hs0)
      | fail)
     go_frame
     clear l0 l1 l2 t0 t1 t2 t3 t4 t5 t6 k0 k1 k2 hz y9A
     obtain⟨r0,dG⟩:∃r0,X.heap.size=r0:=⟨_,rfl⟩
     rw [dG] at hrg0 hs0 dy ⊢
     have aX:=z9 hrg0
     have bZ:=z9 hg0
     have eY:x2.heap.size<r0:=by rw [dy.out];omega
     have dp:Hid (∀{u u':World} {row:Option Nat},Bw u u'->u.grownBy u' row):=fun hb=>⟨hb.os,hb.tape,hb.output,hb.size,fun i hi _=>hb.block i hi⟩
     clear hrg0 hg0 hs0 dG eq
     go_loopw [15] (fun _ wr=>∃(left:Lit->Bool) (cnt:Nat) (g:Nat->Int),wr.ranges prog 3 Zz M r0 (Zt L L.b.length) D left cnt/\zu wr x2.heap.size 2 rn (fun z=>.int .i64 (g z))/\zeg (yu L ⟨p0,p1,p2,q0,q1,q2,(rn:Int)⟩ ⟨pc,st,ops⟩ O) (YC L B L.b.length) (Zt L L.b.length) left g/\Bw x2 wr) (fun _ wr=>wr.rangeLeft M r0)
     case atStart=>exact⟨_,_,_,aX.out,cH.out.grown bZ.out (by simp),zeg.start aV.out,ed.out.grown bZ.out (by rw [<-dx.out];simp) (fun j hj=>by cases hj)⟩
     case round =>
      clear aX bZ cH
      obtain⟨left,cnt,g,aR,gI,bD,gH⟩:=hrel
      have dt:=z9 gI
      have dj:=z9 bD
      have aL:=z9 gH
      have dr:=z9 aR
      have eG:r0<wr.heap.size:=aR.lt
      clear gI bD gH
      go_wp2_with (first
       | (at_next;refine zr3 _ rfl _ rfl M r0 (Zt L L.b.length) D left cnt rfl dr.out ?_ ?_)
       | fail)
      ·intro hc0 hl0
       have aD:Hid (zK wr (.slice (pA x2.heap.size) rn rn) (xA L ⟨p0,p1,p2,q0,q1,q2,(rn:Int)⟩ ⟨pc,st,ops⟩ O B)):=by
        rw [dm.out]
        refine zj5 (e:=2) ?_ (by unfold maxLen;omega) (cg.out _)
        refine dt.out.congr fun z hz=>?_
        rw [dj.out.fin hl0 di.out (fun i hi=>(bV.out i hi).1) z]
       have dY:=z9 (gT.out.trans (aL.out.mono gT.out.size))
       clear hc0 hl0 aR
       go_wp2_with fail
       exact bodyPost_ret (v:=.tuple #[.slice (pA x2.heap.size) rn rn,.int .i64 0]) (by simp [results,results26,go_sem]) rfl (zzu HN.out dY.out aD.out)
      ·intro x ca cq w1 cnt1 dI hlk hat hrg1 hlt hg1 hs1 hen
       obtain⟨i,hi,bN⟩:=(aV.out x).1 (Maps.has_true_of_atKey hat)
       have aP:V8 ca cq=V8 (nth (zeb L) i) (nth (X8 L) i):=by
        have h1:=dJ.out i hi (.lit (.int .i64 0))
        rw [bN] at h1
        exact (hat _).symm.trans h1
       obtain⟨s,q,hs,eV,f2,f3,f4⟩:=dZ.out i hi
       rw [f2,f3] at aP
       obtain⟨rfl,rfl⟩:ca=(s:Int)/\cq=(q:Int)+1:=by
        unfold V8 at aP
        injection aP with aP
        injection aP with h1 h2
        injection h2 with h2 _
        injection h1 with h1
        injection h2 with h2
        injection h1 with _ h1
        injection h2 with _ h2
        exact⟨h1,h2⟩
       obtain⟨g1,g2⟩:=bV.out i hi
       rw [bN] at g1 g2
       obtain⟨zn,rfl⟩:∃zn:Nat,x=zn:=⟨x.toNat,by omega⟩
       have bS:zn<rn:=by omega
       have fe:(zn:Int)<(rn:Int):=by omega
       have cM:Bw x2 w1:=aL.out.grown hg1 (by omega) (fun j hj=>by injection hj with hj;omega)
       have dg:=gT.out.trans (cM.mono gT.out.size)
       obtain⟨cJ,bf⟩:=bU.out
       obtain⟨xb1,xb2,cO,cN,aH,ao⟩:=aT.out.gE dg
       injection cO with eb1 eb2 eb3
       subst eb1;subst eb3
       unfold maxLen at aH
       obtain⟨bb,bo,rfl,bz,ab⟩:=ao (by omega)
       obtain⟨u,hu,df⟩:=ab s (by omega)
       obtain⟨va,vc,rfl,bL,aS,-,aI⟩:=df
       rw [bf s (by omega)] at hu bL aI
       unfold maxLen at aS
       obtain⟨vb,vo,rfl,dH,ae⟩:=aI (by omega)
       have cV:=ae q (by omega)
       have ee:(s:Int)<(B.length:Int):=by omega
       have eC:(q:Int)<3:=by omega
       have fc:wrap64 ((q:Int)+1 - 1)=q:=by unfold wrap64;omega
       have eJ:IntKind.i64.wrap ((q:Int)+1 - 1)=q:=by rw [zl5 (by omega) (by omega)];omega
       have eK:IntKind.i64.wrap (q:Int)=q:=zl5 (by omega) (by omega)
       have dw:=z9 f4
       obtain⟨bv,dB⟩:∃bv,nth (zv B s) q=bv:=⟨_,rfl⟩
       rw [dB] at cV dw
       have bY:=z9 bN
       have HI:=z9 hi
       have dO:=z9 hlk
       have cD:=z9 hrg1
       have dP:=z9 hlt
       have af:zu w1 x2.heap.size 2 rn (fun z=>.int .i64 (g z)):=dt.out.grown hg1 (by intro e;injection e with e;omega)
       have cE:=z9 af
       obtain⟨W,hW⟩:∃W,w1.alloc (.cells #[.int .i64 (s:Int),.int .i64 ((q:Int)+1)] 39)=W:=⟨_,rfl⟩
       have aO:Bw w1 W:=by rw [<-hW];exact below_alloc1 _ _
       have bO:W.heap[w1.heap.size]?=some (.cells #[.int .i64 (s:Int),.int .i64 ((q:Int)+1)] 39 (0,0)):=by rw [<-hW];exact xT _ _ _
       have aK:x2.heap.size<w1.heap.size:=af.lt
       have dV:Hid (W.drew.cell? (ad w1.heap.size 0)=some (.int .i64 (s:Int))/\W.drew.cell? (ad w1.heap.size 1)=some (.int .i64 ((q:Int)+1))/\W.drew.cell? (ad bb (bo+s))=some (.slice (some (ad vb vo)) 3 vc)/\W.drew.cell? (ad vb (vo+q))=some (.int .i64 bv)/\W.drew.cell? (ad x2.heap.size zn)=some (.int .i64 (g zn))):=⟨by show W.cell? _=_;rw [cell_of_block bO];rfl,by show W.cell? _=_;rw [cell_of_block bO];rfl,(zf aO bb (bo+s) bz).trans hu,(zf aO vb (vo+q) dH).trans cV,(zf aO x2.heap.size zn aK).trans (af.cell bS)⟩
       have dX:=z9 hW
       have cG:=z9 aO
       have az:=z9 cM
       have ek:W.frozen? (ad x2.heap.size zn)=false:=by rw [<-hW];exact (af.alloc _).frozen zn
       have cfW:W.cell? (ad x2.heap.size zn)=some (.int .i64 (g zn)):=(zf aO x2.heap.size zn aK).trans (af.cell bS)
       have eO:w1.heap.size<W.heap.size:=(Array.getElem?_eq_some_iff.1 bO).1
       clear ao ab aI ae hu cV dB f2 f3 f4 bN hi hlk hrg1 hlt af hW aO bO cM dg cJ bf eb2 hat aP hg1 hs1 aR
       go_wp2_with fail
       rw [dX.out]
       refine wp_region_noPanic ?_
       refine zm 13 (fun w'=>w'.cell? (ad w1.heap.size 0)=some (.int .i64 (s:Int))/\w'.cell? (ad w1.heap.size 1)=some (.int .i64 ((q:Int)+1))/\w'.cell? (ad bb (bo+s))=some (.slice (some (ad vb vo)) 3 vc)/\w'.cell? (ad vb (vo+q))=some (.int .i64 bv)/\w'.cell? (ad x2.heap.size zn)=some (.int .i64 (g zn))) (by kernel_rfl) dV.out (fun h9=>?_)
       refine uk 0 h9 ?_
       refine uk 1 h9 ?_
       refine uk 2 h9 ?_
       refine uk 3 h9 ?_
       refine uk 4 h9 ?_
       refine uk 5 h9 ?_
       refine uk 6 h9 ?_
       refine uk 7 h9 ?_
       refine uk 8 h9 ?_
       refine uk 9 h9 ?_
       refine uk 10 h9 ?_
       refine uk 11 h9 ?_
       refine uk 12 h9 ?_
       refine ze (i:=13) rfl (by kernel_rfl) (fun K hK=>?_)
       go_simp
       refine nxt hK.out (.inl rfl) ?_
       clear hK K
       refine zq (by kernel_rfl) ?_ _
       refine NoPanic.normal ?_
       have dL:Hid (Bw x2 (W.setCell (ad x2.heap.size zn) (.int .i64 bv)).drew):=((az.out.trans (cG.out.mono (by omega))).setCell (Nat.le_refl _) _).trans (below_draws _ _ 1)
       have bW:Hid (w1.grownBy (W.setCell (ad x2.heap.size zn) (.int .i64 bv)).drew (some x2.heap.size)):=((dp.out (row:=some x2.heap.size) cG.out).andThen (row':=some x2.heap.size) (c:=W.setCell (ad x2.heap.size zn) (.int .i64 bv)) ⟨rfl,rfl,rfl,by simp,fun i _ cY=>Below.heap_setCell _ _ _ _ (fun e=>cY (by rw [e]))⟩ (fun j hj=>.inr hj)).andThen (row':=none) (dp.out (below_draws _ _ 1)) (fun j hj=>by cases hj)
       have dN:Hid (zu (W.setCell (ad x2.heap.size zn) (.int .i64 bv)).drew x2.heap.size 2 rn (fun z=>.int .i64 ((fun z=>if z=(nth (yu L ⟨p0,p1,p2,q0,q1,q2,(rn:Int)⟩ ⟨pc,st,ops⟩ O) i).toNat then nth (YC L B L.b.length) i else g z) z))):=by
        refine (((cE.out.gE cG.out aK).set zn (.int .i64 bv) bS).congr fun z hz=>?_)
        rw [bY.out,dw.out]
        show (if z=zn then Value.int .i64 bv else .int .i64 (g z))=.int .i64 (if z=zn then bv else g z)
        split <;> rfl
       have dM:Hid (zeg (yu L ⟨p0,p1,p2,q0,q1,q2,(rn:Int)⟩ ⟨pc,st,ops⟩ O) (YC L B L.b.length) (Zt L L.b.length) (fun z=>left z && !z.sameKey (.int .i64 (zn:Int))) (fun z=>if z=(nth (yu L ⟨p0,p1,p2,q0,q1,q2,(rn:Int)⟩ ⟨pc,st,ops⟩ O) i).toNat then nth (YC L B L.b.length) i else g z)):=by
        have h:=dj.out.step HI.out (by rw [bY.out];exact dO.out) di.out (fun i hi=>(bV.out i hi).1)
        rw [bY.out] at h ⊢
        exact h
       have dn:=z9 (cD.out.kept bW.out (by intro e;injection e with e;omega) (by intro e;injection e with e;omega))
       clear cfW ek h9
       go_wp2_with fail
       go_roundw
       case rel=>exact⟨_,_,_,dn.out,dN.out,dM.out,dL.out⟩
       case measure=>rw [dn.out.left_eq,dr.out.left_eq];exact dP.out
theorem zlc (hM:zbv) (hE:Zv):zgr:=by
 intro v kv ov bv t L K O B w hL hK hO hB
 obtain⟨a0,a1,a2,ka,oa,gA,gB,gC,kc,oc,rfl,rfl,rfl,cL⟩:=zbk hL hK hO
 have cI:=hB
 obtain⟨ba,bc,rfl,-⟩:=cI
 exact zie hM hE t.u0 t.u1 t.u2 t.w0 t.w1 t.w2 t.r K.pc K.st K.ops L O B a0 a1 a2 ka oa ba gA gB gC kc oc bc w hL cL hO hB
end
theorem checkEnter_yc:zgr:=zlc Uk Vv
theorem checkLeave_yc:zgs:=zle Uk Vv
end Go.Proofs.YtjoapiafpahihabGreat
