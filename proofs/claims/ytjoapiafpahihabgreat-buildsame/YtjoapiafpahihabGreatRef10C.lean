import Derived.Test.YtjoapiafpahihabGreatRef10Lay
import Derived.Test.YtjoapiafpahihabGreatRef3B
import Derived.Test.YtjoapiafpahihabGreatRef10B
import Derived.Test.YtjoapiafpahihabGreatBase
namespace Go.Proofs.YtjoapiafpahihabGreat
open Go.RowKit Go.Joins
set_option linter.unusedVariables false
set_option linter.unusedSimpArgs false
set_option maxRecDepth 8192
theorem zts (L:Lp) (t:Tg) (K:Kn) (O:List Int) (B:List (List Int)) (R:List Int) (turns:Int):(zrw L t K O B R turns).length=L.outs.length:=by unfold zrw;simp
theorem ztt (L:Lp) (t:Tg) (K:Kn) (O:List Int) (B:List (List Int)) (R:List Int) (turns:Int) (i:Nat) (h:i<L.outs.length):nth (zrw L t K O B R turns) i=if 0<turns then nth R ((zm K O (nth L.outs i).toNat+turns - 1) % t.r).toNat else nth (VC B (nth L.outs i).toNat) 0:=by
 unfold zrw nth;simp [List.getD,h]
theorem zdr {L:Lp} {t:Tg} {K:Kn} {O:List Int} (h:xH L t K O=true) {s:Nat} (hs:s<L.body.length):0<=zm K O s/\zm K O s<=1127:=by
 obtain⟨h1,h2,h3,h4,h5,h6⟩:=Zq h
 obtain⟨o1,o2,-⟩:=X6 (h6 s hs).1
 obtain⟨-,-,⟨g5,g6⟩,-,g9,g10⟩:=Us h3 (k:=yt O s) (by unfold yt;omega)
 unfold zm opJ
 omega
theorem zuz {w:World} {v:Value} {zs:List Int} (h:yf w v zs):∀i,I64 (nth zs i):=by
 obtain⟨a,cap,-,-,-,h3,-⟩:=h
 intro i
 by_cases hi:i<zs.length
 ·exact h3 i hi
 ·have:nth zs i=0:=by show (zs[i]?).getD 0=0;rw [List.getElem?_eq_none (by omega)];rfl
  rw [this];exact zsq
theorem zsp {w:World} {v:Value} {rs:List (List Int)} (h:YY w v rs):zsc rs:=by
 obtain⟨a,cap,-,-,-,hc⟩:=h
 intro i j
 by_cases hi:i<rs.length
 ·obtain⟨b,off,-,-,h2⟩:=hc (by omega)
  obtain⟨u,-,h3⟩:=h2 i hi
  exact zuz h3 j
 ·have:VC rs i=[]:=by show (rs[i]?).getD []=[];rw [List.getElem?_eq_none (by omega)];rfl
  rw [this];exact zsq
theorem zw7 (L:Lp) (t:Tg) (K:Kn) (O:List Int) (B:List (List Int)) (R:List Int) (turns:Int) (hB:zsc B) (hR:∀i,I64 (nth R i)):∀i,I64 (nth (zrw L t K O B R turns) i):=by
 intro i
 by_cases h:i<L.outs.length
 ·rw [ztt _ _ _ _ _ _ _ _ h]
  split
  ·exact hR _
  ·exact hB _ _
 ·have:nth (zrw L t K O B R turns) i=0:=by
   show ((zrw L t K O B R turns)[i]?).getD 0=0
   rw [List.getElem?_eq_none (by rw [zts];omega)];rfl
  rw [this];exact zsq
set_option maxHeartbeats 8000000 in
theorem zur (p0 p1 p2 q0 q1 q2 r pc st:Int) (ops:List Kop) (L:Lp) (O R:List Int) (B:List (List Int)) (turns:Int) (a0 a1 a2 ka oa ba ra:Option Addr) (cap0 cap1 cap2 kc oc bc rc:Nat) (w:World) (hL:zk w (.agg #[.slice a0 L.logs.length cap0,.slice a1 L.body.length cap1,.slice a2 L.outs.length cap2]) L) (hK:Xz w (.slice ka ops.length kc) ops) (hO:yf w (.slice oa O.length oc) O) (hB:YY w (.slice ba B.length bc) B) (hR:yf w (.slice ra R.length rc) R)
  (hlay:xH L ⟨p0,p1,p2,q0,q1,q2,r⟩ ⟨pc,st,ops⟩ O=true) (hb3:zv5 L B=true) (hrl:(R.length:Int)=r) (ht0:0<=turns) (ht1:turns<=200) :
  Calls Tryz.prog 38 #[.agg #[.slice a0 L.logs.length cap0,.slice a1 L.body.length cap1,.slice a2 L.outs.length cap2],.agg #[iV p0,iV p1,iV p2,iV q0,iV q1,iV q2,iV r],.agg #[iV pc,iV st,.slice ka ops.length kc],.slice oa O.length oc,.slice ba B.length bc,.slice ra R.length rc,iV turns] w fun e w'=>(∃xa xc,e=.returned (.slice xa (zrw L ⟨p0,p1,p2,q0,q1,q2,r⟩ ⟨pc,st,ops⟩ O B R turns).length xc)/\yf w' (.slice xa (zrw L ⟨p0,p1,p2,q0,q1,q2,r⟩ ⟨pc,st,ops⟩ O B R turns).length xc) (zrw L ⟨p0,p1,p2,q0,q1,q2,r⟩ ⟨pc,st,ops⟩ O B R turns))/\Below w.heap.size w w':=by
 have HLY:=z5 (fun W (h1:zk W (.agg #[.slice a0 L.logs.length cap0,.slice a1 L.body.length cap1,.slice a2 L.outs.length cap2]) L) (h2:Xz W (.slice ka ops.length kc) ops) (h3:yf W (.slice oa O.length oc) O)=>zfj _ _ _ ⟨p0,p1,p2,q0,q1,q2,r⟩ L ⟨pc,st,ops⟩ O W h1 ⟨_,rfl,h2⟩ h3)
 obtain⟨hm,hmt,-⟩:=Zq hlay
 obtain⟨-,h1n,h16,hol,-,hoo,-⟩:=zj hm
 obtain⟨-,-,-,hr1,hr2⟩:=yi hmt
 have hr1:1<=r:=hr1
 have hr2:r<=128:=hr2
 have HOR:=z5 (fun i (h:i<L.outs.length)=>zjn hoo h)
 have HPL:=z5 (fun s (h:s<L.body.length)=>zdr hlay h)
 have HLAY:=z5 hlay
 have HIN:=z5 (zw7 L ⟨p0,p1,p2,q0,q1,q2,r⟩ ⟨pc,st,ops⟩ O B R turns (zsp hB) (zuz hR))
 have HLN:=z5 (zts L ⟨p0,p1,p2,q0,q1,q2,r⟩ ⟨pc,st,ops⟩ O B R turns)
 have HNT:=z5 (ztt L ⟨p0,p1,p2,q0,q1,q2,r⟩ ⟨pc,st,ops⟩ O B R turns)
 have HBF:Hid (B.length=L.body.length/\∀i,i<B.length->(VC B i).length=3):=by
  unfold zv5 at hb3
  rw [Bool.and_eq_true] at hb3
  exact⟨of_decide_eq_true hb3.1,fun i hi=>of_decide_eq_true (zl hb3.2 i hi)⟩
 have HL:=z5 hL
 have HK:=z5 hK
 have HO:=z5 hO
 have HLO:=z5 (YD hL).2
 have HBC:=z5 hB
 have HRC:=z5 hR
 have HS:Hid ((((w.alloc (.cells #[.slice a0 L.logs.length cap0,.slice a1 L.body.length cap1,.slice a2 L.outs.length cap2] 25)).alloc (.cells #[iV p0,iV p1,iV p2,iV q0,iV q1,iV q2,iV r] 28)).alloc (.cells #[iV pc,iV st,.slice ka ops.length kc] 31)).heap.size=w.heap.size+1+1+1):=by show _=_;simp
 have HREST:=z5 (fun x W h0 h1=>YM x r W h0 h1 (by omega) (by omega))
 obtain⟨j0,ji,jz0,jz1,jz2⟩:=info_parts Tryz.i2
 clear hL hK hO hB hR hlay hb3 hm hmt hoo
 go_enter Tryz.func38,Tryz.ntmps38
 go_wp2_with fail
 have HB0:=z5 (below_alloc3 w (.cells #[.slice a0 L.logs.length cap0,.slice a1 L.body.length cap1,.slice a2 L.outs.length cap2] 25) (.cells #[iV p0,iV p1,iV p2,iV q0,iV q1,iV q2,iV r] 28) (.cells #[iV pc,iV st,.slice ka ops.length kc] 31))
 refine (HLY.out _ (HL.out.below HB0.out) (HK.out.below HB0.out) (HO.out.below HB0.out)).mono ?_
 rintro e x1 ⟨hbx,hyes,-⟩
 obtain⟨xa,xc,rfl,hof⟩:=hyes HLAY.out
 have hb1:Below (w.heap.size+1+1+1) (((w.alloc (.cells #[.slice a0 L.logs.length cap0,.slice a1 L.body.length cap1,.slice a2 L.outs.length cap2] 25)).alloc (.cells #[iV p0,iV p1,iV p2,iV q0,iV q1,iV q2,iV r] 28)).alloc (.cells #[iV pc,iV st,.slice ka ops.length kc] 31)) x1:=by rw [<-HS.out];exact hbx
 obtain⟨⟨l0,l1,l2⟩,⟨t0,t1,t2,t3,t4,t5,t6⟩,⟨k0,k1,k2⟩,hz,hbw⟩:=zZ hb1
 have HB1:=z5 hb1
 have HW1:=z5 hbw
 have HOF:=z5 hof
 have HLO1:=z5 (HLO.out.below HW1.out)
 have HBC1:=z5 (HBC.out.below HW1.out)
 have HRC1:=z5 (HRC.out.below HW1.out)
 have hza:w.heap.size<x1.heap.size:=by omega
 have hzb:w.heap.size+1<x1.heap.size:=by omega
 clear hbx hb1 hbw hof hyes
 go_wp2_with fail
 clear l0 l1 l2 t0 t1 t2 t3 t4 t5 t6 k0 k1 k2
 go_loopw [17,18] (fun ov iv wr=>∃k:Nat,k<=L.outs.length/\iv=iV k/\∃ua uc,ov=.slice ua k uc/\wr.ownsRow x1.heap.size 2 1 (.slice ua k uc) k (((zrw L ⟨p0,p1,p2,q0,q1,q2,r⟩ ⟨pc,st,ops⟩ O B R turns).take k).map (Value.int .i64))/\Below x1.heap.size x1 wr) (fun _ iv _=>L.outs.length - (intOf iv).toNat)
 case atStart=>exact⟨0,Nat.zero_le _,rfl,none,0,rfl,World.ownsRow_nil _ _ _ _,Below.refl _ _⟩
 case round =>
  obtain⟨k,hk,rfl,ua,uc,rfl,hown,hbel⟩:=hrel
  have HOW:=z5 hown
  have HBL:=z5 hbel
  have HBX:=z5 (HB1.out.trans (hbel.mono (by omega)))
  obtain⟨⟨l0,l1,l2⟩,⟨t0,t1,t2,t3,t4,t5,t6⟩,⟨k0,k1,k2⟩,hz2,hbw⟩:=zZ HBX.out
  have HW:=z5 hbw
  have hzr:=hbel.size
  clear hown hbel hbw
  by_cases hkl:k<L.outs.length
  ·have hki:(k:Int)<(L.outs.length:Int):=by omega
   obtain⟨xo1,xo2,heo,ho1,ho2,-,hoc⟩:=HLO1.out.below HBL.out
   injection heo with eo1 eo2 eo3
   subst eo1;subst eo3
   unfold maxLen at ho2
   obtain⟨gb,go,rfl,hgb,hgc⟩:=hoc (by omega)
   have cK:=hgc k hkl
   obtain⟨ho3,ho4⟩:=HOR.out k hkl
   obtain⟨on,hon⟩:∃on:Nat,nth L.outs k=(on:Int):=⟨(nth L.outs k).toNat,by omega⟩
   have HVL:=z5 (HNT.out k hkl)
   rw [hon] at cK ho3 ho4 HVL
   rw [Int.toNat_natCast] at HVL
   have honl:on<L.body.length:=by omega
   obtain⟨hBl,hB3⟩:=HBF.out
   obtain⟨xb1,xb2,heb,hbb1,hbb2,hbbc⟩:=HBC1.out.below HBL.out
   injection heb with eb1 eb2 eb3
   subst eb1;subst eb3
   unfold maxLen at hbb2
   obtain⟨bb,bo,rfl,hbbz,hbbcell⟩:=hbbc (by omega)
   obtain⟨u,hu,hui⟩:=hbbcell on (by omega)
   obtain⟨va,vc,rfl,hv1,hv2,-,hvc⟩:=hui
   rw [hB3 on (by omega)] at hu hv1 hvc
   unfold maxLen at hv2
   obtain⟨vb,vo,rfl,hvb,hvcell⟩:=hvc (by omega)
   have cV:=hvcell 0 (by omega)
   rw [Nat.add_zero] at cV
   have hBi:(on:Int)<(B.length:Int):=by omega
   obtain⟨xf1,xf2,hef,hf1,hf2,hfc⟩:=HOF.out.below HBL.out
   injection hef with ef1 ef2 ef3
   subst ef1;subst ef3
   unfold maxLen at hf2
   obtain⟨fb,fo,rfl,hfb,hfcell⟩:=hfc (by omega)
   have cF:=(hfcell on honl).2.2
   obtain⟨hp1,hp2⟩:=HPL.out on honl
   generalize zm ⟨pc,st,ops⟩ O on=pl at *
   generalize nth (VC B on) 0=b0 at *
   have hlenk:k<(zrw L ⟨p0,p1,p2,q0,q1,q2,r⟩ ⟨pc,st,ops⟩ O B R turns).length:=by rw [HLN.out];exact hkl
   have HTK:=z5 (zb3 _ k hlenk)
   have hxz:x1.heap.size<=wr.heap.size:=hzr
   clear hgc hoc hbbc hbbcell hvc hvcell hfc hfcell hon eo2 eb2 ef2 hBl hB3
   by_cases htp:0<turns
   ·have HV2:Hid (nth (zrw L ⟨p0,p1,p2,q0,q1,q2,r⟩ ⟨pc,st,ops⟩ O B R turns) k=nth R ((pl+turns - 1) % r).toNat):=by show _=_;rw [HVL.out,if_pos htp]
    obtain⟨rr,hrr⟩:∃rr:Nat,(pl+turns - 1) % r=(rr:Int):=⟨((pl+turns - 1) % r).toNat,by have:=Int.emod_nonneg (pl+turns - 1) (show r≠0 by omega);omega⟩
    have hrrl:=Int.emod_lt_of_pos (pl+turns - 1) (show 0<r by omega)
    rw [hrr] at hrrl HV2
    rw [Int.toNat_natCast] at HV2
    obtain⟨xr1,xr2,her,hr3,hr4,-,hrcc⟩:=HRC1.out.below HBL.out
    injection her with er1 er2 er3
    subst er1;subst er3
    unfold maxLen at hr4
    obtain⟨rb,ro,rfl,hrb,hrcell⟩:=hrcc (by omega)
    have cR:=hrcell rr (by omega)
    have hri:(rr:Int)<(R.length:Int):=by omega
    have hw1:IntKind.i64.wrap (pl+turns)=pl+turns:=by rw [IntKind.wrap_i64];omega
    have hw2:IntKind.i64.wrap (pl+turns - 1)=pl+turns - 1:=by rw [IntKind.wrap_i64];omega
    have HRS:Hid (∀W,Calls Tryz.prog 48 #[iV (pl+turns - 1),iV r] W fun e w'=>e=.returned (iV (rr:Int))/\w'=W):=fun W=>by rw [<-hrr];exact HREST.out _ W (by omega) (by omega)
    generalize nth R rr=rv at *
    rw [HV2.out] at HTK
    clear hrcc hrcell hrr er2 HVL HV2 hrl
    go_wp2_with fail
    go_big_quiet ((go_at_call 48;exact Calls.quiet_of_same (HRS.out _)))
    go_wp2_with (at_builtin;refine wpList_append_own _ rfl (.tmp 65) (.tmp 67) 63 rfl x1.heap.size 2 j0 (iV 0) 1 8 Tryz.underlying63 ji jz0 jz1 jz2 rfl (by decide) _ _ _ rfl (zt HOW.out (by first | exact (below_draws _ _ _).alloc (Nat.le_refl _) _ | exact (below_alloc1 _ _).trans (below_draws _ _ _))) ⟨wr.heap.size,0,none⟩ 1 1 [iV rv] rfl rfl (by exact zml _ _ _) (by intro u hu;simp at hu;subst hu;rfl) (by unfold maxLen;omega) (by omega) (by simp;omega) ?_;intro v2' w2 hown2 hgrow2 hnil2;obtain⟨oa2,oc2,rfl,hl1',hl2'⟩:=X7 hown2;have HO2:=z5 hown2;have HG2:=z5 hgrow2;clear hown2 hgrow2)
    go_roundw
    case rel =>
     have h2:=HO2.out
     rw [HTK.out] at h2
     exact⟨k+1,by omega,by go_num,oa2,oc2,rfl,h2,(HBL.out.trans ((below_draws _ _ _).alloc (by simp;omega) _)).grown HG2.out (by simp;omega) (fun g hg=>yW HOW.out g hg)⟩
    case measure=>simp [intOf];omega
   ·have HV2:Hid (nth (zrw L ⟨p0,p1,p2,q0,q1,q2,r⟩ ⟨pc,st,ops⟩ O B R turns) k=b0):=by show _=_;rw [HVL.out,if_neg htp]
    rw [HV2.out] at HTK
    clear HVL HV2 hrl
    go_wp2_with (at_builtin;refine wpList_append_own _ rfl (.tmp 65) (.tmp 67) 63 rfl x1.heap.size 2 j0 (iV 0) 1 8 Tryz.underlying63 ji jz0 jz1 jz2 rfl (by decide) _ _ _ rfl (zt HOW.out (below_alloc1 _ _)) ⟨wr.heap.size,0,none⟩ 1 1 [iV b0] rfl rfl (by exact zml _ _ _) (by intro u hu;simp at hu;subst hu;rfl) (by unfold maxLen;omega) (by omega) (by simp;omega) ?_;intro v2' w2 hown2 hgrow2 hnil2;obtain⟨oa2,oc2,rfl,hl1',hl2'⟩:=X7 hown2;have HO2:=z5 hown2;have HG2:=z5 hgrow2;clear hown2 hgrow2)
    go_roundw
    case rel =>
     have h2:=HO2.out
     rw [HTK.out] at h2
     exact⟨k+1,by omega,by go_num,oa2,oc2,rfl,h2,(HBL.out.alloc (by omega) _).grown HG2.out (by simp;omega) (fun g hg=>yW HOW.out g hg)⟩
    case measure=>simp [intOf];omega
  ·have e:k=L.outs.length:=by omega
   subst e
   have hki:¬(L.outs.length:Int)<(L.outs.length:Int):=by omega
   have HFIN:Hid (yf wr (.slice ua L.outs.length uc) (zrw L ⟨p0,p1,p2,q0,q1,q2,r⟩ ⟨pc,st,ops⟩ O B R turns)):=by
    have h:=HOW.out
    have e1:(zrw L ⟨p0,p1,p2,q0,q1,q2,r⟩ ⟨pc,st,ops⟩ O B R turns).take L.outs.length=zrw L ⟨p0,p1,p2,q0,q1,q2,r⟩ ⟨pc,st,ops⟩ O B R turns:=by rw [<-HLN.out];exact List.take_length
    rw [e1] at h
    refine zt5 (base:=x1.heap.size) ?_ HIN.out
    rw [HLN.out];exact h
   go_wp2_with fail
   exact bodyPost_ret (v:=.slice ua L.outs.length uc) (by simp [results,Tryz.results38,go_sem]) rfl ⟨⟨ua,uc,by rw [HLN.out],by rw [HLN.out];exact HFIN.out⟩,HW.out⟩
set_option maxRecDepth 8192
theorem zva (L:Lp) (t:Tg) (K:Kn) (O:List Int) (B:List (List Int)):(zrv L t K O B).length=t.r.toNat:=by unfold zrv;simp
theorem zwt {F V:List Int} (hV:∀i,I64 (nth V i)):∀m c,I64 (zsm F V m c):=by
 intro m
 induction m with
 | zero=>intro c;exact zsq
 | succ m ih =>
   intro c
   show I64 (zn1 (zsm F V m) (nth F m).toNat (nth V m) c)
   unfold zn1
   split
   ·exact hV m
   ·exact ih c
theorem zwq (len:Nat->Nat) (g:Nat->Nat->Int) (hg:∀s q,I64 (g s q)):∀k i,I64 (nth (zaa len g k) i):=by
 have hall:∀k x,x∈zaa len g k->I64 x:=by
  intro k
  induction k with
  | zero=>intro x hx;cases hx
  | succ k ih =>
    intro x hx
    have hx':x∈zaa len g k++(List.range (len k)).map (g k):=hx
    rcases List.mem_append.1 hx' with hx2 | hx2
    ·exact ih x hx2
    ·obtain⟨y,-,rfl⟩:=List.mem_map.1 hx2
     exact hg _ _
 intro k i
 by_cases hi:i<(zaa len g k).length
 ·refine hall k _ ?_
  unfold nth
  rw [List.getD,List.getElem?_eq_getElem hi]
  exact List.getElem_mem _
 ·have:nth (zaa len g k) i=0:=by show ((zaa len g k)[i]?).getD 0=0;rw [List.getElem?_eq_none (by omega)];rfl
  rw [this];exact zsq
theorem zub {w:World} {g n:Nat} {e:TypeId} {f:Nat->Int} (h:zg w g e n (fun c=>iV (f c))) (hn:n<=maxLen) (hf:∀c,I64 (f c)):yf w (.slice (some ⟨g,0,none⟩) n n) ((List.range n).map f):=by
 have hl:((List.range n).map f).length=n:=by simp
 refine⟨_,n,by rw [hl],by rw [hl];exact Nat.le_refl _,hn,fun i hi=>?_,fun _=>⟨g,0,rfl,h.lt,fun i hi=>?_⟩⟩
 ·rw [hl] at hi;rw [xR hi];exact hf i
 ·rw [hl] at hi;rw [Nat.zero_add,xR hi];exact h.cell hi
theorem zt2 (n:Nat) (w:World):Below n w w.drew:=below_draws _ _ 1
set_option maxHeartbeats 8000000 in
set_option maxRecDepth 100000 in
theorem zum (p0 p1 p2 q0 q1 q2 r pc st:Int) (ops:List Kop) (L:Lp) (O:List Int) (B:List (List Int)) (a0 a1 a2 ka oa ba:Option Addr) (cap0 cap1 cap2 kc oc bc:Nat) (w:World) (hL:zk w (.agg #[.slice a0 L.logs.length cap0,.slice a1 L.body.length cap1,.slice a2 L.outs.length cap2]) L) (hK:Xz w (.slice ka ops.length kc) ops) (hO:yf w (.slice oa O.length oc) O) (hB:YY w (.slice ba B.length bc) B)
  (hlay:xH L ⟨p0,p1,p2,q0,q1,q2,r⟩ ⟨pc,st,ops⟩ O=true) (hb3:zv5 L B=true) :
  Calls Tryz.prog 36 #[.agg #[.slice a0 L.logs.length cap0,.slice a1 L.body.length cap1,.slice a2 L.outs.length cap2],.agg #[iV p0,iV p1,iV p2,iV q0,iV q1,iV q2,iV r],.agg #[iV pc,iV st,.slice ka ops.length kc],.slice oa O.length oc,.slice ba B.length bc] w fun e w'=>(∃xa xc,e=.returned (.slice xa (zrv L ⟨p0,p1,p2,q0,q1,q2,r⟩ ⟨pc,st,ops⟩ O B).length xc)/\yf w' (.slice xa (zrv L ⟨p0,p1,p2,q0,q1,q2,r⟩ ⟨pc,st,ops⟩ O B).length xc) (zrv L ⟨p0,p1,p2,q0,q1,q2,r⟩ ⟨pc,st,ops⟩ O B))/\Below w.heap.size w w':=by
 have HLY:=z5 (fun W (h1:zk W (.agg #[.slice a0 L.logs.length cap0,.slice a1 L.body.length cap1,.slice a2 L.outs.length cap2]) L) (h2:Xz W (.slice ka ops.length kc) ops) (h3:yf W (.slice oa O.length oc) O)=>zfj _ _ _ ⟨p0,p1,p2,q0,q1,q2,r⟩ L ⟨pc,st,ops⟩ O W h1 ⟨_,rfl,h2⟩ h3)
 obtain⟨hm,hmt,-⟩:=Zq hlay
 obtain⟨-,h1n,h16,hol,-,hoo,-⟩:=zj hm
 obtain⟨-,-,-,hr1,hr2⟩:=yi hmt
 have hr1:1<=r:=hr1
 have hr2:r<=128:=hr2
 obtain⟨rn,rfl⟩:∃rn:Nat,r=(rn:Int):=⟨r.toNat,by omega⟩
 have HPL:=z5 (fun s (h:s<L.body.length)=>zdr hlay h)
 have HLAY:=z5 hlay
 have hBin:=zsp hB
 have HIN:=z5 (fun m c=>zwt (F:=xx L ⟨p0,p1,p2,q0,q1,q2,rn⟩ ⟨pc,st,ops⟩ O L.body.length) (V:=zst L B L.body.length) (zwq _ _ (fun s q=>hBin s q) _) m c)
 have HBF:Hid (B.length=L.body.length/\∀i,i<B.length->(VC B i).length=3):=by
  unfold zv5 at hb3
  rw [Bool.and_eq_true] at hb3
  exact⟨of_decide_eq_true hb3.1,fun i hi=>of_decide_eq_true (zl hb3.2 i hi)⟩
 have HFT:Hid (∀s,s<L.body.length->ym L s<=3/\((ym L s:Nat):Int)=Xl L s):=fun s hs=>by
  have h1:=XG hm s L.body.length (Nat.le_refl _)
  have h2:=zbs L s L.body.length
  unfold ym Xl
  omega
 have HF:=z5 (fun s q (h1:s<L.body.length) (h2:q<ym L s)=>zbv (ym L) (Uc ⟨p0,p1,p2,q0,q1,q2,rn⟩ ⟨pc,st,ops⟩ O) L.body.length s q h1 h2)
 have HV:=z5 (fun s q (h1:s<L.body.length) (h2:q<ym L s)=>zbv (ym L) (fun s q=>nth (VC B s) q) L.body.length s q h1 h2)
 have HL:=z5 hL
 have HK:=z5 hK
 have HO:=z5 hO
 have HBC:=z5 hB
 have HFAR:Hid (∀(W:World) (s:Nat),Below w.heap.size w W->Calls Tryz.prog 50 #[.agg #[.slice a0 L.logs.length cap0,.slice a1 L.body.length cap1,.slice a2 L.outs.length cap2],iV (s:Int)] W fun e w'=>e=.returned (iV (Xl L s))/\Below W.heap.size W w'):=fun W s hW=>by
  have h2:=hL.below hW
  obtain⟨v0,v1,v2,e,-,⟨x1,y1,e3,f1,f2,f3⟩,-⟩:=h2
  simp only [Value.agg.injEq,Array.mk.injEq,List.cons.injEq,and_true] at e
  obtain⟨-,e4,-⟩:=e
  rw [e3] at e4
  injection e4 with e5 e6 e7
  obtain⟨b,off,e8,g1,g2⟩:=f3 (by omega)
  subst e5;subst e7;subst e8
  exact zlo L _ _ b off cap1 s W f1 (by unfold maxLen at f2;omega) g1 g2
 have HS:Hid ((((w.alloc (.cells #[.slice a0 L.logs.length cap0,.slice a1 L.body.length cap1,.slice a2 L.outs.length cap2] 25)).alloc (.cells #[iV p0,iV p1,iV p2,iV q0,iV q1,iV q2,iV rn] 28)).alloc (.cells #[iV pc,iV st,.slice ka ops.length kc] 31)).heap.size=w.heap.size+1+1+1):=by show _=_;simp
 have HREST:=z5 (fun x W h0 h1=>YM x (rn:Int) W h0 h1 (by omega) (by omega))
 have hmk:=run_make_row' (P:=Tryz.prog) 63 2 (iV 0) 8 Tryz.underlying63 Tryz.i2 rfl .i64 .i64 rn (by omega) (by omega)
 clear hL hK hO hB hlay hb3 hm hmt hoo hBin
 go_enter Tryz.func36,Tryz.ntmps36
 go_wp2_with fail
 have HB0:=z5 (below_alloc3 w (.cells #[.slice a0 L.logs.length cap0,.slice a1 L.body.length cap1,.slice a2 L.outs.length cap2] 25) (.cells #[iV p0,iV p1,iV p2,iV q0,iV q1,iV q2,iV rn] 28) (.cells #[iV pc,iV st,.slice ka ops.length kc] 31))
 refine (HLY.out _ (HL.out.below HB0.out) (HK.out.below HB0.out) (HO.out.below HB0.out)).mono ?_
 rintro e x1 ⟨hbx,hyes,-⟩
 obtain⟨xa,xc,rfl,hof⟩:=hyes HLAY.out
 have hb1:Below (w.heap.size+1+1+1) (((w.alloc (.cells #[.slice a0 L.logs.length cap0,.slice a1 L.body.length cap1,.slice a2 L.outs.length cap2] 25)).alloc (.cells #[iV p0,iV p1,iV p2,iV q0,iV q1,iV q2,iV rn] 28)).alloc (.cells #[iV pc,iV st,.slice ka ops.length kc] 31)) x1:=by rw [<-HS.out];exact hbx
 obtain⟨⟨l0,l1,l2⟩,⟨t0,t1,t2,t3,t4,t5,t6⟩,⟨k0,k1,k2⟩,hz,hbw⟩:=zZ hb1
 have HB1:=z5 hb1
 have HW1:=z5 hbw
 have HOF:=z5 hof
 have HBC1:=z5 (HBC.out.below HW1.out)
 have hza:w.heap.size<x1.heap.size:=by omega
 have hzb:w.heap.size+1<x1.heap.size:=by omega
 have H0:Hid (zg (x1.alloc (.cells (madeCells #[iV 0] rn) 2)) x1.heap.size 2 rn (fun c=>iV (zsm (xx L ⟨p0,p1,p2,q0,q1,q2,rn⟩ ⟨pc,st,ops⟩ O L.body.length) (zst L B L.body.length) 0 c))):=zg.zeros x1 _ rn _
 clear hbx hb1 hbw hof hyes
 go_wp2_with fail
 clear l0 l1 l2 t0 t1 t2 t3 t4 t5 t6 k0 k1 k2 hmk
 obtain⟨PF,hPF⟩:∃PF,xx L ⟨p0,p1,p2,q0,q1,q2,rn⟩ ⟨pc,st,ops⟩ O L.body.length=PF:=⟨_,rfl⟩
 obtain⟨PV,hPV⟩:∃PV,zst L B L.body.length=PV:=⟨_,rfl⟩
 have HEN:Hid (zrv L ⟨p0,p1,p2,q0,q1,q2,rn⟩ ⟨pc,st,ops⟩ O B=(List.range rn).map (zsm PF PV (xT (ym L) L.body.length))):=by show (List.range ((rn:Int)).toNat).map (zul L ⟨p0,p1,p2,q0,q1,q2,rn⟩ ⟨pc,st,ops⟩ O B)=_;rw [Int.toNat_natCast,<-hPF,<-hPV];rfl
 have HF2:Hid (∀s q,s<L.body.length->q<ym L s->nth PF (xT (ym L) s+q)=Uc ⟨p0,p1,p2,q0,q1,q2,rn⟩ ⟨pc,st,ops⟩ O s q):=fun s q h1 h2=>by rw [<-hPF];exact HF.out s q h1 h2
 have HV2:Hid (∀s q,s<L.body.length->q<ym L s->nth PV (xT (ym L) s+q)=nth (VC B s) q):=fun s q h1 h2=>by rw [<-hPV];exact HV.out s q h1 h2
 rw [hPF,hPV] at H0 HIN
 clear hPF hPV HF HV
 go_loopw [14] (fun iv wr=>∃s:Nat,s<=L.body.length/\iv=iV s/\zg wr x1.heap.size 2 rn (fun c=>iV (zsm PF PV (xT (ym L) s) c))/\Below x1.heap.size x1 wr) (fun iv _=>L.body.length - (intOf iv).toNat)
 case atStart=>exact⟨0,Nat.zero_le _,rfl,H0.out,below_alloc1 _ _⟩
 case round =>
  clear H0
  obtain⟨s,hs,rfl,hrow,hbel⟩:=hrel
  have HROW:=z5 hrow
  have HBL:=z5 hbel
  clear hrow hbel
  by_cases hsl:s<L.body.length
  ·have hsi:(s:Int)<(L.body.length:Int):=by omega
   obtain⟨hft,hfe⟩:=HFT.out s hsl
   have HPOS:Hid (xT (ym L) (s+1)=xT (ym L) s+ym L s):=rfl
   have HPF:=z5 (fun q (h:q<ym L s)=>HF2.out s q hsl h)
   have HPV:=z5 (fun q (h:q<ym L s)=>HV2.out s q hsl h)
   have HFR:=z5 (fun W h=>HFAR.out W s h)
   rw [<-hfe] at HFR
   obtain⟨fl,hfl⟩:∃fl,ym L s=fl:=⟨_,rfl⟩
   rw [hfl] at hft HPOS HPF HPV HFR
   obtain⟨ps,hps⟩:∃ps,xT (ym L) s=ps:=⟨_,rfl⟩
   rw [hps] at HPOS HPF HPV HROW
   clear hfe hfl hps
   go_wp2_with fail
   go_loopw [15] (fun iv wr2=>∃q:Nat,q<=fl/\iv=iV ((q:Int)+1)/\zg wr2 x1.heap.size 2 rn (fun c=>iV (zsm PF PV (ps+q) c))/\Below x1.heap.size x1 wr2) (fun iv _=>5 - (intOf iv).toNat)
   case atStart=>exact⟨0,Nat.zero_le _,rfl,HROW.out,HBL.out⟩
   case round =>
    clear HROW HBL
    obtain⟨q,hq,rfl,hrow,hbel⟩:=hrel
    have HROW:=z5 hrow
    have HBL:=z5 hbel
    have hb2:=HB1.out.trans (hbel.mono (by omega))
    obtain⟨⟨l0,l1,l2⟩,⟨t0,t1,t2,t3,t4,t5,t6⟩,⟨k0,k1,k2⟩,hz2,hbw⟩:=zZ hb2
    have HW:=z5 hbw
    have hzr:=hrow.lt
    clear hrow hbel hbw hb2
    by_cases hql:q<fl
    ·have hqi:(q:Int)+1<=(fl:Int):=by omega
     go_wp2_with fail
     refine (HFR.out _ HW.out).mono ?_
     rintro e y ⟨rfl,hby⟩
     have HBY:=z5 (HBL.out.trans (hby.mono (by omega)))
     have HRY:=z5 (HROW.out.below hby (by omega))
     have hyb:=HB1.out.trans (HBY.out.mono (by omega))
     clear l0 l1 l2 t0 t1 t2 t3 t4 t5 t6 k0 k1 k2 hz2
     obtain⟨⟨l0,l1,l2⟩,⟨t0,t1,t2,t3,t4,t5,t6⟩,⟨k0,k1,k2⟩,hz2,-⟩:=zZ hyb
     obtain⟨xf1,xf2,hef,hf1,hf2,hfc⟩:=HOF.out.below HBY.out
     injection hef with ef1 ef2 ef3
     subst ef1;subst ef3
     unfold maxLen at hf2
     obtain⟨fb,fo,rfl,hfb,hfcell⟩:=hfc (by omega)
     have cF:=(hfcell s hsl).2.2
     obtain⟨hp1,hp2⟩:=HPL.out s hsl
     obtain⟨hBl,hB3⟩:=HBF.out
     obtain⟨xb1,xb2,heb,hbb1,hbb2,hbbc⟩:=HBC1.out.below HBY.out
     injection heb with eb1 eb2 eb3
     subst eb1;subst eb3
     unfold maxLen at hbb2
     obtain⟨bb,bo,rfl,hbbz,hbbcell⟩:=hbbc (by omega)
     obtain⟨u,hu,hui⟩:=hbbcell s (by omega)
     obtain⟨va,vc,rfl,hv1,hv2,-,hvc⟩:=hui
     rw [hB3 s (by omega)] at hu hv1 hvc
     unfold maxLen at hv2
     obtain⟨vb,vo,rfl,hvb,hvcell⟩:=hvc (by omega)
     have cV:=hvcell q (by omega)
     have hBi:(s:Int)<(B.length:Int):=by omega
     have hFQ:=HPF.out q hql
     have hVQ:=HPV.out q hql
     have HFJ:Hid (Uc ⟨p0,p1,p2,q0,q1,q2,rn⟩ ⟨pc,st,ops⟩ O s q=(zm ⟨pc,st,ops⟩ O s - ((q:Int)+1)) % (rn:Int)):=rfl
     rw [HFJ.out] at hFQ
     generalize zm ⟨pc,st,ops⟩ O s=pl at *
     obtain⟨bv,hbv⟩:∃bv,nth (VC B s) q=bv:=⟨_,rfl⟩
     rw [hbv] at cV hVQ
     obtain⟨rr,hrr⟩:∃rr:Nat,(pl - ((q:Int)+1)) % (rn:Int)=(rr:Int):=⟨((pl - ((q:Int)+1)) % (rn:Int)).toNat,by have:=Int.emod_nonneg (pl - ((q:Int)+1)) (show (rn:Int)≠0 by omega);omega⟩
     have hrrl:=Int.emod_lt_of_pos (pl - ((q:Int)+1)) (show 0<(rn:Int) by omega)
     rw [hrr] at hrrl hFQ
     have hrn:rr<rn:=by omega
     have hw1:IntKind.i64.wrap (pl - ((q:Int)+1))=pl - ((q:Int)+1):=by rw [IntKind.wrap_i64];omega
     have hw2:IntKind.i64.wrap ((q:Int)+1 - 1)=(q:Int):=by rw [IntKind.wrap_i64];omega
     have hw3:IntKind.i64.wrap (q:Int)=(q:Int):=by rw [IntKind.wrap_i64];omega
     have hq0:(0:Int)<=(q:Int):=by omega
     have HRS:Hid (∀W,Calls Tryz.prog 48 #[iV (pl - ((q:Int)+1)),iV (rn:Int)] W fun e w'=>e=.returned (iV (rr:Int))/\w'=W):=fun W=>by rw [<-hrr];exact HREST.out _ W (by omega) (by omega)
     have HSS:Hid (∀w':World,Below y.heap.size y w'->w'.cell? ⟨fb,fo+s*3+2,none⟩=some (iV pl)/\w'.cell? ⟨w.heap.size+1,6,none⟩=some (iV (rn:Int))/\w'.cell? ⟨bb,bo+s,none⟩=some (.slice (some ⟨vb,vo,none⟩) 3 vc)/\w'.cell? ⟨vb,vo+q,none⟩=some (iV bv)):=by
      intro w' h
      refine⟨?_,?_,?_,?_⟩
      all_goals (rw [zc h _ _ (by omega)];assumption)
     have hcs:=HRY.out.cell hrn
     have hfs:=HRY.out.frozen rr
     have HNEW:Hid (zg (y.drew.setCell ⟨x1.heap.size,rr,none⟩ (iV bv)) x1.heap.size 2 rn (fun c=>iV (zsm PF PV (ps+(q+1)) c))):=by
      have h:=(zg.drawn HRY.out 1).set rr (iV bv) hrn
      refine zg.congr h fun c hc=>?_
      show (if c=rr then iV bv else _)=iV (zn1 (zsm PF PV (ps+q)) (nth PF (ps+q)).toNat (nth PV (ps+q)) c)
      rw [hFQ,hVQ,Int.toNat_natCast]
      unfold zn1
      by_cases e:c=rr
      ·rw [if_pos e,if_pos e]
      ·rw [if_neg e,if_neg e]
     have HNB:Hid (Below x1.heap.size x1 (y.drew.setCell ⟨x1.heap.size,rr,none⟩ (iV bv))):=(HBY.out.trans (zt2 _ _)).setCell (Nat.le_refl _) _
     have hri:(rr:Int)<(rn:Int):=by omega
     have hq3:(q:Int)<3:=by omega
     have hyz:x1.heap.size<y.heap.size:=HRY.out.lt
     clear hby hyb hfc hfcell hbbc hbbcell hvc hvcell hBl hB3 hFQ hVQ hrr hbv ef2 eb2 l0 l1 l2 t0 t1 t2 t3 t4 t5 k0 k1 k2
     go_wp2_with fail
     refine wp_region_noPanic ?_
     refine ze 20 (fun w'=>w'.cell? ⟨fb,fo+s*3+2,none⟩=some (iV pl)/\w'.cell? ⟨w.heap.size+1,6,none⟩=some (iV (rn:Int))/\w'.cell? ⟨bb,bo+s,none⟩=some (.slice (some ⟨vb,vo,none⟩) 3 vc)/\w'.cell? ⟨vb,vo+q,none⟩=some (iV bv)) (by kernel_rfl) (HSS.out _ (zt2 _ _)) (fun hHeld=>?_)
     refine utk (i:=0) rfl hHeld ?_
     refine utk (i:=1) rfl hHeld ?_
     refine utk (i:=2) rfl hHeld ?_
     refine utk (i:=3) rfl hHeld ?_
     refine utk (i:=4) rfl hHeld ?_
     refine utk (i:=5) rfl hHeld ?_
     refine utk (i:=6) rfl hHeld ?_
     refine utk (i:=7) rfl hHeld ?_
     refine utk (i:=8) rfl hHeld ?_
     refine utk (i:=9) rfl hHeld ?_
     refine utk (i:=11) rfl hHeld ?_
     refine utk (i:=12) rfl hHeld ?_
     refine utk (i:=13) rfl hHeld ?_
     refine utk (i:=14) rfl hHeld ?_
     refine utk (i:=15) rfl hHeld ?_
     refine utk (i:=16) rfl hHeld ?_
     refine utk (i:=17) rfl hHeld ?_
     refine utk (i:=18) rfl hHeld ?_
     refine z9 (i:=10) rfl (by kernel_rfl) (fun K hK9=>?_)
     go_simp
     refine (HRS.out _).mono ?_
     rintro e y2 ⟨rfl,hy2⟩
     have hy2:=hy2.symm
     subst hy2
     refine nxt hK9.out (.inr hHeld) ?_
     clear hK9 K
     refine utk (i:=19) rfl hHeld ?_
     refine z9 (i:=20) rfl (by kernel_rfl) (fun K hK9=>?_)
     go_simp
     refine nxt hK9.out (.inl rfl) ?_
     clear hK9 K
     refine zf (by kernel_rfl) ?_ _
     refine NoPanic.normal ?_
     clear hHeld
     go_wp2_with fail
     go_roundw
     case rel=>exact⟨q+1,by omega,by go_num,HNEW.out,HNB.out⟩
     case measure=>simp [intOf];omega
    ·have e:q=fl:=by omega
     subst e
     have hqi:¬(q:Int)+1<=(q:Int):=by omega
     go_wp2_with fail
     refine (HFR.out _ HW.out).mono ?_
     rintro e y ⟨rfl,hby⟩
     have HBY:=z5 (HBL.out.trans (hby.mono (by omega)))
     have HRY:=z5 (HROW.out.below hby (by omega))
     clear hby l0 l1 l2 t0 t1 t2 t3 t4 t5 t6 k0 k1 k2
     go_wp2_with fail
     go_roundw
     case rel=>exact⟨s+1,by omega,by go_num,by rw [HPOS.out];exact HRY.out,HBY.out⟩
     case measure=>simp [intOf];omega
  ·have e:s=L.body.length:=by omega
   subst e
   have hsi:¬(L.body.length:Int)<(L.body.length:Int):=by omega
   have HFIN:=z5 (zub HROW.out (by unfold maxLen;omega) (HIN.out _))
   have HWF:=z5 (HW1.out.trans (HBL.out.mono HW1.out.size))
   have HLEN:Hid ((zrv L ⟨p0,p1,p2,q0,q1,q2,rn⟩ ⟨pc,st,ops⟩ O B).length=rn):=by show _=_;rw [HEN.out];simp
   go_wp2_with fail
   exact bodyPost_ret (v:=.slice (some ⟨x1.heap.size,0,none⟩) rn rn) (by simp [results,Tryz.results36,go_sem]) rfl ⟨⟨_,rn,by rw [HLEN.out],by rw [HLEN.out,HEN.out];exact HFIN.out⟩,HWF.out⟩
end Go.Proofs.YtjoapiafpahihabGreat
