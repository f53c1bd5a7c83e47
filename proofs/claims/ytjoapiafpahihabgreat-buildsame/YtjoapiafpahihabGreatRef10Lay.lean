import Derived.Test.YtjoapiafpahihabGreatSounds
import Derived.Test.YtjoapiafpahihabGreatRef10A
import Derived.Test.YtjoapiafpahihabGreatRef5M
import Derived.Test.YtjoapiafpahihabGreatRef67
import Derived.Test.YtjoapiafpahihabGreatRef8A
import Derived.Test.YtjoapiafpahihabGreatBase
namespace Go.Proofs.YtjoapiafpahihabGreat
open Go.RowKit Go.Joins
set_option linter.unusedVariables false
set_option linter.unusedSimpArgs false
set_option maxRecDepth 8192
theorem Tryz.i81:(Tryz.prog.info? 81).map (fun i=>(i.zero,i.size,i.bytes))=some (some (.agg #[iV 0,iV 0,iV 0]),3,24):=by kernel_rfl
theorem zP (n:Nat) (w:World):Below n w w.drew:=below_draws _ _ 1
theorem zZ {w wr:World} {x0 x1 x2 y0 y1 y2:Value} {p0 p1 p2 q0 q1 q2 r:Int} {ta tb tc:TypeId} (h:Below (w.heap.size+1+1+1) (((w.alloc (.cells #[x0,x1,x2] ta)).alloc (.cells #[iV p0,iV p1,iV p2,iV q0,iV q1,iV q2,iV r] tb)).alloc (.cells #[y0,y1,y2] tc)) wr) :
  (wr.cell? ⟨w.heap.size,0,none⟩=some x0/\wr.cell? ⟨w.heap.size,1,none⟩=some x1/\wr.cell? ⟨w.heap.size,2,none⟩=some x2) /\
  (wr.cell? ⟨w.heap.size+1,0,none⟩=some (iV p0)/\wr.cell? ⟨w.heap.size+1,1,none⟩=some (iV p1)/\wr.cell? ⟨w.heap.size+1,2,none⟩=some (iV p2)/\wr.cell? ⟨w.heap.size+1,3,none⟩=some (iV q0)/\wr.cell? ⟨w.heap.size+1,4,none⟩=some (iV q1)/\wr.cell? ⟨w.heap.size+1,5,none⟩=some (iV q2)/\wr.cell? ⟨w.heap.size+1,6,none⟩=some (iV r)) /\
  (wr.cell? ⟨w.heap.size+1+1,0,none⟩=some y0/\wr.cell? ⟨w.heap.size+1+1,1,none⟩=some y1/\wr.cell? ⟨w.heap.size+1+1,2,none⟩=some y2)/\w.heap.size+1+1<wr.heap.size/\Below w.heap.size w wr:=by
 have hs:(((w.alloc (.cells #[x0,x1,x2] ta)).alloc (.cells #[iV p0,iV p1,iV p2,iV q0,iV q1,iV q2,iV r] tb)).alloc (.cells #[y0,y1,y2] tc)).heap.size=w.heap.size+1+1+1:=by simp
 have hz:=h.size
 have h':Below (((w.alloc (.cells #[x0,x1,x2] ta)).alloc (.cells #[iV p0,iV p1,iV p2,iV q0,iV q1,iV q2,iV r] tb)).alloc (.cells #[y0,y1,y2] tc)).heap.size (((w.alloc (.cells #[x0,x1,x2] ta)).alloc (.cells #[iV p0,iV p1,iV p2,iV q0,iV q1,iV q2,iV r] tb)).alloc (.cells #[y0,y1,y2] tc)) wr:=by rw [hs];exact h
 refine⟨⟨?_,?_,?_⟩,⟨?_,?_,?_,?_,?_,?_,?_⟩,⟨?_,?_,?_⟩,by omega,(below_alloc3 w _ _ _).trans (h.mono (by omega))⟩
 all_goals rw [zc h' _ _ (by omega)]
 all_goals go_simp
theorem YD {w:World} {x0 x1 x2:Value} {L:Lp} (h:zk w (.agg #[x0,x1,x2]) L):yf w x0 L.logs/\yf w x2 L.outs:=by
 obtain⟨v0,v1,v2,e,h0,-,h2⟩:=h
 simp only [Value.agg.injEq,Array.mk.injEq,List.cons.injEq,and_true] at e
 obtain⟨rfl,-,rfl⟩:=e
 exact⟨h0,h2⟩
def ofL (t:Tg) (K:Kn) (O:List Int) (k:Nat):List Du:=(List.range k).map fun s=>⟨zX K O s,zA t K O s,zm K O s⟩
theorem zmk (t:Tg) (K:Kn) (O:List Int) (k:Nat):ofL t K O k++[⟨zX K O k,zA t K O k,zm K O k⟩]=ofL t K O (k+1):=by unfold ofL;rw [List.range_succ];simp
theorem zp8 (t:Tg) (K:Kn) (O:List Int) (k:Nat):(ofL t K O k).length=k:=by unfold ofL;simp
theorem zqp {t:Tg} {K:Kn} {O:List Int} {k i:Nat} (h:i<k):zrq (ofL t K O k) i=⟨zX K O i,zA t K O i,zm K O i⟩:=by
 unfold zrq ofL
 rw [List.getD,List.getElem?_map,List.getElem?_range h]
 rfl
theorem OfV.of_own {w:World} {base:Nat} {e:TypeId} {v:Value} {t:Tg} {K:Kn} {O:List Int} {k:Nat} (h:w.ownsRow base e 3 v k (Xd (ofL t K O k))):OfV w v k (zX K O) (zA t K O) (zm K O):=by
 obtain⟨a,cap,rfl,h1,h2⟩:=zS h
 refine⟨a,cap,rfl,h1,h2,fun hp=>?_⟩
 have hl:=zp8 t K O k
 have h':w.ownsRow base e 3 (.slice a k cap) (ofL t K O k).length (Xd (ofL t K O k)):=by rw [hl];exact h
 obtain⟨g,cap',e1,-,-,-,h6,h7⟩:=zin h' (by omega)
 injection e1 with e2 _ _
 refine⟨g,0,e2,h6,fun i hi=>?_⟩
 have h8:=h7 i (by omega)
 rw [zqp hi] at h8
 rw [Nat.zero_add]
 exact h8
theorem Us {t:Tg} {K:Kn} {logs:List Int} (h:Z6 t K logs=true) {k:Nat} (hk:k<K.ops.length):(1<=K.pc/\K.pc<=200)/\(0<=(zq K.ops k).sl/\(zq K.ops k).sl<=1000)/\(0<=(zq K.ops k).sg/\(zq K.ops k).sg<=1000)/\(0<=K.pc*(zq K.ops k).sg/\(zq K.ops k).sl+K.pc*(zq K.ops k).sg<=1000)/\0<=(zq K.ops k).d/\(zq K.ops k).d<=127:=by
 unfold Z6 at h
 simp only [Bool.and_eq_true] at h
 obtain⟨⟨⟨⟨hk1,hk2⟩,hk3⟩,hk4⟩,hk5⟩:=h
 have hp:=zo.1 hk2
 obtain⟨-,-,-,hr1,hr2⟩:=yi hk1
 have h7:=zl hk5 k hk
 unfold yF ZK Xt at h7
 simp only [Bool.and_eq_true,decide_eq_true_eq] at h7
 have h8:=zo.1 h7.1.1.1.1.1
 have h9:=zo.1 h7.1.1.1.1.2
 have h10:=h7.1.1.1.2
 have h11:=zo.1 h7.1.1.2.1.1.1.1
 have h12:0<=(zq K.ops k).sg*K.pc:=Int.mul_nonneg h9.1 (by omega)
 have h13:(zq K.ops k).sg*1<=(zq K.ops k).sg*K.pc:=Int.mul_le_mul_of_nonneg_left hp.1 h9.1
 have h14:K.pc*(zq K.ops k).sg=(zq K.ops k).sg*K.pc:=Int.mul_comm _ _
 refine⟨hp,⟨h8.1,by omega⟩,⟨h9.1,by omega⟩,⟨by omega,by omega⟩,h11.1,by omega⟩
theorem zbz {L:Lp} {t:Tg} {K:Kn} {O:List Int} (h:(zx L && zp t)=false\/Z6 t K L.logs=false\/K.ops.length≠L.body.length\/O.length≠L.body.length):xH L t K O=false:=by
 unfold xH
 rcases h with h | h | h | h
 ·rw [h];rfl
 ·rw [h];simp
 ·rw [decide_eq_false h];simp
 ·rw [decide_eq_false h];simp
theorem zp0 {L:Lp} {t:Tg} {K:Kn} {O:List Int} (h1:(zx L && zp t)=true) (h2:Z6 t K L.logs=true) (h3:K.ops.length=L.body.length) (h4:O.length=L.body.length):xH L t K O=zh (fun s=>Z8 L O s && YO L K O s) L.body.length:=by
 unfold xH
 rw [h1,h2,decide_eq_true h3,decide_eq_true h4];simp
set_option maxHeartbeats 4000000 in
theorem X3 (p0 p1 p2 q0 q1 q2 r pc st:Int) (ops:List Kop) (L:Lp) (O:List Int) (a0 a1 a2 ka oa:Option Addr) (cap0 cap1 cap2 kc oc:Nat) (w:World) (hL:zk w (.agg #[.slice a0 L.logs.length cap0,.slice a1 L.body.length cap1,.slice a2 L.outs.length cap2]) L) (hK:Xz w (.slice ka ops.length kc) ops) (hO:yf w (.slice oa O.length oc) O) (h:(zx L && zp ⟨p0,p1,p2,q0,q1,q2,r⟩)=false\/Z6 ⟨p0,p1,p2,q0,q1,q2,r⟩ ⟨pc,st,ops⟩ L.logs=false\/ops.length≠L.body.length\/O.length≠L.body.length) :
  Calls Tryz.prog 9 #[.agg #[.slice a0 L.logs.length cap0,.slice a1 L.body.length cap1,.slice a2 L.outs.length cap2],.agg #[iV p0,iV p1,iV p2,iV q0,iV q1,iV q2,iV r],.agg #[iV pc,iV st,.slice ka ops.length kc],.slice oa O.length oc] w fun e w'=>e=.returned (.tuple #[.slice none 0 0,.bool false])/\Below w.heap.size w w':=by
 have HMAY:=z5 (fun W (h:zk W (.agg #[.slice a0 L.logs.length cap0,.slice a1 L.body.length cap1,.slice a2 L.outs.length cap2]) L)=>Yk p0 p1 p2 q0 q1 q2 r L a0 a1 a2 cap0 cap1 cap2 W h)
 have HKM:=z5 (fun W (h1:Xz W (.slice ka ops.length kc) ops) (h2:yf W (.slice a0 L.logs.length cap0) L.logs)=>zd8 ⟨p0,p1,p2,q0,q1,q2,r⟩ (.agg #[iV pc,iV st,.slice ka ops.length kc]) ⟨pc,st,ops⟩ a0 cap0 L.logs W ⟨_,rfl,h1⟩ h2)
 have HL:=z5 hL
 have HK:=z5 hK
 have HLG:=z5 (YD hL).1
 have HS:Hid ((((w.alloc (.cells #[.slice a0 L.logs.length cap0,.slice a1 L.body.length cap1,.slice a2 L.outs.length cap2] 25)).alloc (.cells #[iV p0,iV p1,iV p2,iV q0,iV q1,iV q2,iV r] 28)).alloc (.cells #[iV pc,iV st,.slice ka ops.length kc] 31)).heap.size=w.heap.size+1+1+1):=by show _=_;simp
 clear hL hK hO
 obtain⟨m1,hm1⟩:∃m1,(zx L && zp ⟨p0,p1,p2,q0,q1,q2,r⟩)=m1:=⟨_,rfl⟩
 rw [hm1] at HMAY h
 obtain⟨m2,hm2⟩:∃m2,Z6 ⟨p0,p1,p2,q0,q1,q2,r⟩ ⟨pc,st,ops⟩ L.logs=m2:=⟨_,rfl⟩
 rw [hm2] at HKM h
 have HN:Hid (m1=false\/m2=false\/ops.length≠L.body.length\/O.length≠L.body.length):=h
 clear h hm1 hm2
 go_enter Tryz.func9,Tryz.ntmps9
 go_wp2_with fail
 refine (HMAY.out _ (HL.out.below (below_alloc3 _ _ _ _))).mono ?_
 rintro e x1 ⟨rfl,hb⟩
 have hb1:Below (w.heap.size+1+1+1) (((w.alloc (.cells #[.slice a0 L.logs.length cap0,.slice a1 L.body.length cap1,.slice a2 L.outs.length cap2] 25)).alloc (.cells #[iV p0,iV p1,iV p2,iV q0,iV q1,iV q2,iV r] 28)).alloc (.cells #[iV pc,iV st,.slice ka ops.length kc] 31)) x1:=by rw [<-HS.out];exact hb
 have HB1:=z5 hb1
 obtain⟨⟨l0,l1,l2⟩,⟨t0,t1,t2,t3,t4,t5,t6⟩,⟨k0,k1,k2⟩,hz,hbw⟩:=zZ hb1
 have HW1:=z5 hbw
 clear hb hb1 hbw
 cases m1 with
 | false =>
   go_wp2_with fail
   exact bodyPost_ret (v:=.tuple #[.slice none 0 0,.bool false]) (by simp [results,Tryz.results9,go_sem]) rfl ⟨rfl,HW1.out⟩
 | true =>
   go_wp2_with fail
   refine (HKM.out _ (HK.out.below HW1.out) (HLG.out.below HW1.out)).mono ?_
   rintro e x2 ⟨rfl,hb⟩
   have hb2:=HB1.out.trans (hb.mono (by have:=HB1.out.size;rw [HS.out] at this;exact this))
   clear l0 l1 l2 t0 t1 t2 t3 t4 t5 t6 k0 k1 k2 hz
   obtain⟨⟨l0,l1,l2⟩,⟨t0,t1,t2,t3,t4,t5,t6⟩,⟨k0,k1,k2⟩,hz,hbw⟩:=zZ hb2
   have HW2:=z5 hbw
   clear hb hb2 hbw
   cases m2 with
   | false =>
     go_wp2_with fail
     exact bodyPost_ret (v:=.tuple #[.slice none 0 0,.bool false]) (by simp [results,Tryz.results9,go_sem]) rfl ⟨rfl,HW2.out⟩
   | true =>
     by_cases e1:ops.length=L.body.length
     ·have e2:O.length≠L.body.length:=by
       rcases HN.out with h | h | h | h
       ·cases h
       ·cases h
       ·exact absurd e1 h
       ·exact h
      have d1:((ops.length:Int) != (L.body.length:Int))=false:=by simp [e1]
      have d2:((O.length:Int) != (L.body.length:Int))=true:=by simp;omega
      clear e1 e2
      go_wp2_with fail
      exact bodyPost_ret (v:=.tuple #[.slice none 0 0,.bool false]) (by simp [results,Tryz.results9,go_sem]) rfl ⟨rfl,HW2.out⟩
     ·have d1:((ops.length:Int) != (L.body.length:Int))=true:=by simp;omega
      clear e1
      go_wp2_with fail
      exact bodyPost_ret (v:=.tuple #[.slice none 0 0,.bool false]) (by simp [results,Tryz.results9,go_sem]) rfl ⟨rfl,HW2.out⟩
def yM (L:Lp) (t:Tg) (K:Kn) (O:List Int) (w:World) (e:Ending) (w':World):Prop :=
 Below w.heap.size w w'/\(xH L t K O=true->∃xa xc,e=.returned (.tuple #[.slice xa L.body.length xc,.bool true])/\OfV w' (.slice xa L.body.length xc) L.body.length (zX K O) (zA t K O) (zm K O))/\(xH L t K O=false->e=.returned (.tuple #[.slice none 0 0,.bool false]))
theorem yM.no {L:Lp} {t:Tg} {K:Kn} {O:List Int} {w w':World} (h:xH L t K O=false) (hb:Below w.heap.size w w'):yM L t K O w (.returned (.tuple #[.slice none 0 0,.bool false])) w' :=
 ⟨hb,fun h2=>(by rw [h] at h2;cases h2),fun _=>rfl⟩
theorem yM.yes {L:Lp} {t:Tg} {K:Kn} {O:List Int} {w w':World} {xa:Option Addr} {xc:Nat} (h:xH L t K O=true) (hb:Below w.heap.size w w') (hO:OfV w' (.slice xa L.body.length xc) L.body.length (zX K O) (zA t K O) (zm K O)):yM L t K O w (.returned (.tuple #[.slice xa L.body.length xc,.bool true])) w' :=
 ⟨hb,fun _=>⟨xa,xc,rfl,hO⟩,fun h2=>(by rw [h] at h2;cases h2)⟩
set_option maxHeartbeats 16000000 in
set_option maxRecDepth 100000 in
theorem zj1 (p0 p1 p2 q0 q1 q2 r pc st:Int) (ops:List Kop) (L:Lp) (O:List Int) (a0 a1 a2 ka oa:Option Addr) (cap0 cap1 cap2 kc oc:Nat) (w:World) (hL:zk w (.agg #[.slice a0 L.logs.length cap0,.slice a1 L.body.length cap1,.slice a2 L.outs.length cap2]) L) (hK:Xz w (.slice ka ops.length kc) ops) (hO:yf w (.slice oa O.length oc) O) (hm:(zx L && zp ⟨p0,p1,p2,q0,q1,q2,r⟩)=true) (hk:Z6 ⟨p0,p1,p2,q0,q1,q2,r⟩ ⟨pc,st,ops⟩ L.logs=true) (e1:ops.length=L.body.length) (e2:O.length=L.body.length) :
  Calls Tryz.prog 9 #[.agg #[.slice a0 L.logs.length cap0,.slice a1 L.body.length cap1,.slice a2 L.outs.length cap2],.agg #[iV p0,iV p1,iV p2,iV q0,iV q1,iV q2,iV r],.agg #[iV pc,iV st,.slice ka ops.length kc],.slice oa O.length oc] w (yM L ⟨p0,p1,p2,q0,q1,q2,r⟩ ⟨pc,st,ops⟩ O w):=by
 have HMAY:=z5 (fun W (h:zk W (.agg #[.slice a0 L.logs.length cap0,.slice a1 L.body.length cap1,.slice a2 L.outs.length cap2]) L)=>hm ▸ Yk p0 p1 p2 q0 q1 q2 r L a0 a1 a2 cap0 cap1 cap2 W h)
 have HKM:=z5 (fun W (h1:Xz W (.slice ka ops.length kc) ops) (h2:yf W (.slice a0 L.logs.length cap0) L.logs)=>hk ▸ zd8 ⟨p0,p1,p2,q0,q1,q2,r⟩ (.agg #[iV pc,iV st,.slice ka ops.length kc]) ⟨pc,st,ops⟩ a0 cap0 L.logs W ⟨_,rfl,h1⟩ h2)
 have HL:=z5 hL
 have HK:=z5 hK
 have HLG:=z5 (YD hL).1
 have HS:Hid ((((w.alloc (.cells #[.slice a0 L.logs.length cap0,.slice a1 L.body.length cap1,.slice a2 L.outs.length cap2] 25)).alloc (.cells #[iV p0,iV p1,iV p2,iV q0,iV q1,iV q2,iV r] 28)).alloc (.cells #[iV pc,iV st,.slice ka ops.length kc] 31)).heap.size=w.heap.size+1+1+1):=by show _=_;simp
 have HLAY:=z5 (zp0 (O:=O) (K:=⟨pc,st,ops⟩) hm hk e1 e2)
 have HRNG:=z5 (fun k (h:k<ops.length)=>Us (K:=⟨pc,st,ops⟩) hk h)
 have hmm:zx L=true/\zp ⟨p0,p1,p2,q0,q1,q2,r⟩=true:=by simpa using hm
 have h16:=(zj hmm.1).2.2.1
 have h1n:=(zj hmm.1).2.1
 have HWO:=z5 (fun o=>xp (t:=⟨p0,p1,p2,q0,q1,q2,r⟩) o hmm.2)
 have HWT:=z5 (fun op W=>YU p0 p1 p2 q0 q1 q2 r op W)
 obtain⟨b,off,rfl,hb,hbody,hl1,hm1⟩:∃b off,a1=some ⟨b,off,none⟩/\b<w.heap.size/\(∀i,i<L.body.length->∀j,j<9->w.cell? ⟨b,off+i*9+j,none⟩=(zJ (z6 L.body i))[j]?)/\L.body.length<=cap1/\cap1<=9223372036854775807:=by
  obtain⟨v0,v1,v2,e,-,⟨x1,y1,e3,f1,f2,f3⟩,-⟩:=hL
  simp only [Value.agg.injEq,Array.mk.injEq,List.cons.injEq,and_true] at e
  obtain⟨-,e4,-⟩:=e
  rw [e3] at e4
  injection e4 with e5 e6 e7
  obtain⟨b,off,e8,g1,g2⟩:=f3 (by omega)
  refine⟨b,off,by rw [e5,e8],g1,g2,by omega,by unfold maxLen at f2;omega⟩
 obtain⟨kb,ko,rfl,hkb,hkcell,hkl,hkm⟩:∃kb ko,ka=some ⟨kb,ko,none⟩/\kb<w.heap.size/\(∀i,i<ops.length->∀j,j<10->w.cell? ⟨kb,ko+i*10+j,none⟩=(yX (zq ops i))[j]?)/\ops.length<=kc/\kc<=9223372036854775807:=by
  obtain⟨x1,y1,e3,f1,f2,f3⟩:=hK
  injection e3 with e5 e6 e7
  obtain⟨kb,ko,e8,g1,g2⟩:=f3 (by omega)
  exact⟨kb,ko,by rw [e5,e8],g1,g2,by omega,by unfold maxLen at f2;omega⟩
 obtain⟨ob,oo,rfl,hob,hocell,hol,hom⟩:∃ob oo,oa=some ⟨ob,oo,none⟩/\ob<w.heap.size/\(∀i,i<O.length->w.cell? ⟨ob,oo+i,none⟩=some (iV (nth O i)))/\O.length<=oc/\oc<=9223372036854775807:=by
  obtain⟨x1,y1,e3,f1,f2,-,f3⟩:=hO
  injection e3 with e5 e6 e7
  obtain⟨ob,oo,e8,g1,g2⟩:=f3 (by omega)
  exact⟨ob,oo,by rw [e5,e8],g1,g2,by omega,by unfold maxLen at f2;omega⟩
 have HBODY:=z5 hbody
 have HKC:=z5 hkcell
 have HOC:=z5 hocell
 have d1:((ops.length:Int) != (L.body.length:Int))=false:=by simp [e1]
 have d2:((O.length:Int) != (L.body.length:Int))=false:=by simp [e2]
 have HE1:=z5 e1
 have HE2:=z5 e2
 obtain⟨j0,ji,jz0,jz1,jz2⟩:=info_parts Tryz.i81
 clear hL hK hO hm hk hmm e1 e2 hbody hkcell hocell
 go_enter Tryz.func9,Tryz.ntmps9
 go_wp2_with fail
 refine (HMAY.out _ (HL.out.below (below_alloc3 _ _ _ _))).mono ?_
 rintro e x1 ⟨rfl,hbx⟩
 have hb1:Below (w.heap.size+1+1+1) (((w.alloc (.cells #[.slice a0 L.logs.length cap0,.slice (some ⟨b,off,none⟩) L.body.length cap1,.slice a2 L.outs.length cap2] 25)).alloc (.cells #[iV p0,iV p1,iV p2,iV q0,iV q1,iV q2,iV r] 28)).alloc (.cells #[iV pc,iV st,.slice (some ⟨kb,ko,none⟩) ops.length kc] 31)) x1:=by rw [<-HS.out];exact hbx
 have HB1:=z5 hb1
 obtain⟨⟨l0,l1,l2⟩,⟨t0,t1,t2,t3,t4,t5,t6⟩,⟨k0,k1,k2⟩,hz,hbw⟩:=zZ hb1
 have HW1:=z5 hbw
 clear hbx hb1 hbw
 go_wp2_with fail
 refine (HKM.out _ (HK.out.below HW1.out) (HLG.out.below HW1.out)).mono ?_
 rintro e x2 ⟨rfl,hbx⟩
 have hb2:=HB1.out.trans (hbx.mono (by have:=HB1.out.size;rw [HS.out] at this;exact this))
 have HB2:=z5 hb2
 clear l0 l1 l2 t0 t1 t2 t3 t4 t5 t6 k0 k1 k2 hz
 obtain⟨⟨l0,l1,l2⟩,⟨t0,t1,t2,t3,t4,t5,t6⟩,⟨k0,k1,k2⟩,hz,hbw⟩:=zZ hb2
 clear hbx hb2 hbw HB1 HW1
 go_wp2_with fail
 clear l0 l1 l2 t0 t1 t2 t3 t4 t5 t6 k0 k1 k2 hz d1 d2
 go_loopw [11,12] (fun ov iv wr=>∃s:Nat,s<=L.body.length/\iv=iV s/\∃xa xc,ov=.slice xa s xc/\wr.ownsRow (w.heap.size+1+1+1) 81 3 (.slice xa s xc) s (Xd (ofL ⟨p0,p1,p2,q0,q1,q2,r⟩ ⟨pc,st,ops⟩ O s))/\zh (fun s=>Z8 L O s && YO L ⟨pc,st,ops⟩ O s) s=true/\Below (w.heap.size+1+1+1) (((w.alloc (.cells #[.slice a0 L.logs.length cap0,.slice (some ⟨b,off,none⟩) L.body.length cap1,.slice a2 L.outs.length cap2] 25)).alloc (.cells #[iV p0,iV p1,iV p2,iV q0,iV q1,iV q2,iV r] 28)).alloc (.cells #[iV pc,iV st,.slice (some ⟨kb,ko,none⟩) ops.length kc] 31)) wr) (fun _ iv _=>L.body.length - (intOf iv).toNat)
 case atStart=>exact⟨0,Nat.zero_le _,rfl,none,0,rfl,World.ownsRow_nil _ _ _ _,rfl,HB2.out⟩
 case round =>
  clear HB2
  obtain⟨s,hs,rfl,xa,xc,rfl,hown,hall,hbel⟩:=hrel
  have HO:=z5 hown
  have HA:=z5 hall
  have HB:=z5 hbel
  obtain⟨⟨l0,l1,l2⟩,⟨t0,t1,t2,t3,t4,t5,t6⟩,⟨k0,k1,k2⟩,hz,hbw⟩:=zZ hbel
  have HW:=z5 hbw
  by_cases hsl:s<L.body.length
  ·have hsi:(s:Int)<(L.body.length:Int):=by omega
   have cO:=HOC.out s (by have:=HE2.out;omega)
   rw [<-zc hbw _ _ hob] at cO
   have hobz:ob<wr.heap.size:=by have:=hbw.size;omega
   have hkbz:kb<wr.heap.size:=by have:=hbw.size;omega
   have hbz:b<wr.heap.size:=by have:=hbw.size;omega
   have hsO:(s:Int)<(O.length:Int):=by have:=HE2.out;omega
   have HSTEP:Hid (zh (fun s=>Z8 L O s && YO L ⟨pc,st,ops⟩ O s) (s+1)=(Z8 L O s && YO L ⟨pc,st,ops⟩ O s)):=by show (zh _ s && _)=_;rw [HA.out,Bool.true_and]
   have HNO:Hid ((Z8 L O s && YO L ⟨pc,st,ops⟩ O s)=false->xH L ⟨p0,p1,p2,q0,q1,q2,r⟩ ⟨pc,st,ops⟩ O=false):=fun h=>by rw [HLAY.out];exact zw hsl h
   have HORD:Hid (Z8 L O s=(inR (nth O s) 0 (L.body.length - 1) && zh (fun i=>!decide (nth O i=nth O s)) s)):=rfl
   obtain⟨os,hos⟩:∃os,nth O s=os:=⟨_,rfl⟩
   have HOS:=z5 hos
   rw [hos] at cO HORD
   clear hown hall hbel hbw hos
   by_cases hin:0<=os/\os<L.body.length
   ·obtain⟨hin1,hin2⟩:=hin
    go_wp2_with fail
    go_loopw [13] (fun iv wr2=>∃q:Nat,q<=s/\iv=iV q/\zh (fun i=>!decide (nth O i=os)) q=true/\∃d,wr2=wr.drewN d) (fun iv _=>s - (intOf iv).toNat)
    case atStart=>exact⟨0,Nat.zero_le _,rfl,rfl,0,rfl⟩
    case round =>
     obtain⟨q,hq,rfl,hqa,d,rfl⟩:=hrel
     have HQ:=z5 hqa
     clear hqa
     by_cases hql:q<s
     ·have hqi:(q:Int)<(s:Int):=by omega
      have cQ:=HOC.out q (by have:=HE2.out;omega)
      rw [<-zc HW.out _ _ hob] at cQ
      have hqO:(q:Int)<(O.length:Int):=by omega
      have HQS:Hid (zh (fun i=>!decide (nth O i=os)) (q+1)=!decide (nth O q=os)):=by show (zh _ q && _)=_;rw [HQ.out,Bool.true_and]
      have HQN:Hid (nth O q=os->xH L ⟨p0,p1,p2,q0,q1,q2,r⟩ ⟨pc,st,ops⟩ O=false):=fun h=>HNO.out (by rw [HORD.out,zw (p:=fun i=>!decide (nth O i=os)) hql (by rw [decide_eq_true h];rfl)];simp)
      obtain⟨oq,hoq⟩:∃oq,nth O q=oq:=⟨_,rfl⟩
      rw [hoq] at cQ HQS HQN
      clear hoq
      by_cases heq:oq=os
      ·have hbq:(oq == os)=true:=by simpa using heq
       have HN:=z5 (HQN.out heq)
       clear heq HQS HQN
       go_wp2_with fail
       go_big_quiet ((fail))
       go_wp2_with fail
       exact bodyPost_ret (v:=.tuple #[.slice none 0 0,.bool false]) (by simp [results,Tryz.results9,go_sem]) rfl (yM.no HN.out ((HW.out.trans (below_draws _ _ d)).trans (below_draws _ _ _)))
      ·have hbq:(oq == os)=false:=by simpa using heq
       have HN:Hid (zh (fun i=>!decide (nth O i=os)) (q+1)=true):=by show _=_;rw [HQS.out,decide_eq_false heq];rfl
       clear heq HQS HQN
       go_wp2_with fail
       go_big_quiet ((fail))
       go_wp2_with fail
       go_roundw
       case rel=>exact⟨q+1,by omega,by go_num,HN.out,_,rfl⟩
       case measure=>simp [intOf];omega
     ·have e:q=s:=by omega
      subst e
      have hqi:¬(q:Int)<(q:Int):=by omega
      have HORY:Hid (Z8 L O q=true):=by show _=_;rw [HORD.out,HQ.out,zK (by omega)];rfl
      obtain⟨ox,rfl⟩:∃ox:Nat,os=(ox:Int):=⟨os.toNat,by omega⟩
      have hoxo:ox<ops.length:=by have:=HE1.out;omega
      have hoxi:(ox:Int)<(ops.length:Int):=by omega
      obtain⟨c0,c1,c2,c3,c4,c5,c6,c7,c8,c9⟩:=ten (fun j hj=>(zc HW.out kb (ko+ox*10+j) hkb).trans (HKC.out ox hoxo j hj))
      obtain⟨⟨g1,g2⟩,⟨g3,g4⟩,⟨g5,g6⟩,⟨g7,g8⟩,g9,g10⟩:=HRNG.out ox hoxo
      obtain⟨b0,b1,b2,b3,b4,b5,b6,b7,b8⟩:=Zj (fun j hj=>(zc HW.out b (off+q*9+j) hb).trans (HBODY.out q hsl j hj))
      have HOPJ:Hid (opJ ⟨pc,st,ops⟩ O q=zq ops ox):=by show zq ops (nth O q).toNat=_;rw [HOS.out,Int.toNat_natCast]
      have HSAM:Hid (YO L ⟨pc,st,ops⟩ O q=(decide ((opJ ⟨pc,st,ops⟩ O q).o=(z6 L.body q).o) && decide ((opJ ⟨pc,st,ops⟩ O q).ar=(z6 L.body q).ar) && decide ((opJ ⟨pc,st,ops⟩ O q).sp=(z6 L.body q).sp) && decide ((opJ ⟨pc,st,ops⟩ O q).pl=(z6 L.body q).pl) && decide ((opJ ⟨pc,st,ops⟩ O q).nn=(z6 L.body q).nn))):=rfl
      have HTM:Hid (zX ⟨pc,st,ops⟩ O q=(opJ ⟨pc,st,ops⟩ O q).sl+pc*(opJ ⟨pc,st,ops⟩ O q).sg/\zA ⟨p0,p1,p2,q0,q1,q2,r⟩ ⟨pc,st,ops⟩ O q=zX ⟨pc,st,ops⟩ O q+zr ⟨p0,p1,p2,q0,q1,q2,r⟩ (opJ ⟨pc,st,ops⟩ O q).o/\zm ⟨pc,st,ops⟩ O q=(opJ ⟨pc,st,ops⟩ O q).d+(opJ ⟨pc,st,ops⟩ O q).sg):=⟨rfl,rfl,rfl⟩
      rw [HOPJ.out] at HSAM HTM
      generalize zq ops ox=kx at *
      generalize z6 L.body q=sx at *
      obtain⟨sl,sg,o,dd,oa1,ob1,ar,sp,pl,nn⟩:=kx
      obtain⟨o',xa',xb',ya',yb',ar',sp',pl',nn'⟩:=sx
      try dsimp only at g1 g2
      dsimp only at g3 g4 g5 g6 g7 g8 g9 g10 c0 c1 c2 c3 c4 c5 c6 c7 c8 c9 b0 b1 b2 b3 b4 b5 b6 b7 b8 HSAM HTM
      have HSS:Hid (∀w':World,Below wr.heap.size wr w'->w'.cell? ⟨w.heap.size+1+1,2,none⟩=some (.slice (some ⟨kb,ko,none⟩) ops.length kc)/\w'.cell? ⟨ob,oo+q,none⟩=some (iV (ox:Int))/\w'.cell? ⟨kb,ko+ox*10,none⟩=some (iV sl)/\w'.cell? ⟨kb,ko+ox*10+1,none⟩=some (iV sg)/\w'.cell? ⟨kb,ko+ox*10+2,none⟩=some (iV o)/\w'.cell? ⟨kb,ko+ox*10+3,none⟩=some (iV dd)/\w'.cell? ⟨kb,ko+ox*10+4,none⟩=some (iV oa1)/\w'.cell? ⟨kb,ko+ox*10+5,none⟩=some (iV ob1)/\w'.cell? ⟨kb,ko+ox*10+6,none⟩=some (iV ar)/\w'.cell? ⟨kb,ko+ox*10+7,none⟩=some (iV sp)/\w'.cell? ⟨kb,ko+ox*10+8,none⟩=some (iV pl)/\w'.cell? ⟨kb,ko+ox*10+9,none⟩=some (iV nn)):=by
       intro w' h
       refine⟨?_,?_,?_,?_,?_,?_,?_,?_,?_,?_,?_,?_⟩
       all_goals (rw [zc h _ _ (by omega)];assumption)
      go_wp2_with fail
      refine wp_region_noPanic ?_
      refine ze 9 (fun w'=>w'.cell? ⟨w.heap.size+1+1,2,none⟩=some (.slice (some ⟨kb,ko,none⟩) ops.length kc)/\w'.cell? ⟨ob,oo+q,none⟩=some (iV (ox:Int))/\w'.cell? ⟨kb,ko+ox*10,none⟩=some (iV sl)/\w'.cell? ⟨kb,ko+ox*10+1,none⟩=some (iV sg)/\w'.cell? ⟨kb,ko+ox*10+2,none⟩=some (iV o)/\w'.cell? ⟨kb,ko+ox*10+3,none⟩=some (iV dd)/\w'.cell? ⟨kb,ko+ox*10+4,none⟩=some (iV oa1)/\w'.cell? ⟨kb,ko+ox*10+5,none⟩=some (iV ob1)/\w'.cell? ⟨kb,ko+ox*10+6,none⟩=some (iV ar)/\w'.cell? ⟨kb,ko+ox*10+7,none⟩=some (iV sp)/\w'.cell? ⟨kb,ko+ox*10+8,none⟩=some (iV pl)/\w'.cell? ⟨kb,ko+ox*10+9,none⟩=some (iV nn)) (by kernel_rfl) (HSS.out _ ((below_draws _ _ d).trans (zP _ _))) (fun hHeld=>?_)
      refine utk (i:=0) rfl hHeld ?_
      refine utk (i:=1) rfl hHeld ?_
      refine utk (i:=2) rfl hHeld ?_
      refine utk (i:=3) rfl hHeld ?_
      refine utk (i:=4) rfl hHeld ?_
      refine utk (i:=5) rfl hHeld ?_
      refine utk (i:=6) rfl hHeld ?_
      refine utk (i:=7) rfl hHeld ?_
      obtain⟨W0,hW0,hWb,hWs⟩:∃W0:World,wr.drewN (d+1)=W0/\Below wr.heap.size wr W0/\W0.heap.size=wr.heap.size:=⟨_,rfl,below_draws _ _ _,rfl⟩
      have hHeld:=HSS.out W0 hWb
      have hW1:(wr.drewN d).drew=W0:=hW0
      rw [hW1]
      have HWS:=z5 hWs
      clear hWs
      refine z9 (i:=8) rfl (by kernel_rfl) (fun K hK9=>?_)
      go_simp
      have hHeld:=HSS.out _ (hWb.alloc (by have:=HWS.out;omega) (.cells #[iV 0,iV 0,iV 0,iV 0,iV 0,iV 0,iV 0,iV 0,iV 0,iV 0] 37))
      refine nxt hK9.out (.inr hHeld) ?_
      clear hK9 K
      refine z9 (i:=9) rfl (by kernel_rfl) (fun K hK9=>?_)
      go_simp
      refine nxt hK9.out (.inl rfl) ?_
      clear hK9 K
      refine zf (by kernel_rfl) ?_ _
      refine NoPanic.normal ?_
      clear hHeld HSS hW0 hW1
      have HWB:=z5 hWb
      have hWs:=HWS.out
      have HW0:=z5 (HW.out.trans (hWb.mono HW.out.size))
      have HB0:=z5 (HB.out.trans (hWb.mono (by omega)))
      clear l0 l1 l2 t0 t1 t2 t3 t4 t5 t6 k0 k1 k2 cO c0 c1 c2 c3 c4 c5 c6 c7 c8 c9
      obtain⟨⟨l0,l1,l2⟩,⟨t0,t1,t2,t3,t4,t5,t6⟩,⟨k0,k1,k2⟩,hz0,-⟩:=zZ HB0.out
      rw [<-zc hWb _ _ hbz] at b0 b1 b2 b3 b4 b5 b6 b7 b8
      have hbz0:b<W0.heap.size:=by omega
      have hza:w.heap.size<W0.heap.size:=by omega
      have hzb:w.heap.size+1<W0.heap.size:=by omega
      have HZ:Hid (wr.heap.size=W0.heap.size):=hWs.symm
      clear hWb hWs
      have HNOP:Hid (∀(x:Bool),YO L ⟨pc,st,ops⟩ O q=x->x=false->xH L ⟨p0,p1,p2,q0,q1,q2,r⟩ ⟨pc,st,ops⟩ O=false):=fun x h1 h2=>HNO.out (by rw [h1,h2];simp)
      have HBN:=z5 (below_alloc2 W0 (.cells #[iV sl,iV sg,iV o,iV dd,iV oa1,iV ob1,iV ar,iV sp,iV pl,iV nn] 37) (.cells #[iV o',iV xa',iV xb',iV ya',iV yb',iV ar',iV sp',iV pl',iV nn'] 41))
      have HW2:=z5 (HW0.out.trans (HBN.out.mono HW0.out.size))
      by_cases f1:o=o'
      rotate_left
      ·have f1b:(o != o')=true:=by simpa using f1
       have HN:Hid (xH L ⟨p0,p1,p2,q0,q1,q2,r⟩ ⟨pc,st,ops⟩ O=false):=HNOP.out _ HSAM.out (by rw [decide_eq_false f1];simp)
       clear f1 HSAM HTM
       go_wp2_with fail
       exact bodyPost_ret (v:=.tuple #[.slice none 0 0,.bool false]) (by simp [results,Tryz.results9,go_sem]) rfl (yM.no HN.out HW2.out)
      have f1b:(o != o')=false:=by simpa using f1
      have F1:=z5 f1
      clear f1
      by_cases f2:ar=ar'
      rotate_left
      ·have f2b:(ar != ar')=true:=by simpa using f2
       have HN:Hid (xH L ⟨p0,p1,p2,q0,q1,q2,r⟩ ⟨pc,st,ops⟩ O=false):=HNOP.out _ HSAM.out (by rw [decide_eq_false f2];simp)
       clear f2 HSAM HTM
       go_wp2_with fail
       exact bodyPost_ret (v:=.tuple #[.slice none 0 0,.bool false]) (by simp [results,Tryz.results9,go_sem]) rfl (yM.no HN.out HW2.out)
      have f2b:(ar != ar')=false:=by simpa using f2
      have F2:=z5 f2
      clear f2
      by_cases f3:sp=sp'
      rotate_left
      ·have f3b:(sp != sp')=true:=by simpa using f3
       have HN:Hid (xH L ⟨p0,p1,p2,q0,q1,q2,r⟩ ⟨pc,st,ops⟩ O=false):=HNOP.out _ HSAM.out (by rw [decide_eq_false f3];simp)
       clear f3 HSAM HTM
       go_wp2_with fail
       exact bodyPost_ret (v:=.tuple #[.slice none 0 0,.bool false]) (by simp [results,Tryz.results9,go_sem]) rfl (yM.no HN.out HW2.out)
      have f3b:(sp != sp')=false:=by simpa using f3
      have F3:=z5 f3
      clear f3
      by_cases f4:pl=pl'
      rotate_left
      ·have f4b:(pl != pl')=true:=by simpa using f4
       have HN:Hid (xH L ⟨p0,p1,p2,q0,q1,q2,r⟩ ⟨pc,st,ops⟩ O=false):=HNOP.out _ HSAM.out (by rw [decide_eq_false f4];simp)
       clear f4 HSAM HTM
       go_wp2_with fail
       exact bodyPost_ret (v:=.tuple #[.slice none 0 0,.bool false]) (by simp [results,Tryz.results9,go_sem]) rfl (yM.no HN.out HW2.out)
      have f4b:(pl != pl')=false:=by simpa using f4
      have F4:=z5 f4
      clear f4
      by_cases f5:nn=nn'
      rotate_left
      ·have f5b:(nn != nn')=true:=by simpa using f5
       have HN:Hid (xH L ⟨p0,p1,p2,q0,q1,q2,r⟩ ⟨pc,st,ops⟩ O=false):=HNOP.out _ HSAM.out (by rw [decide_eq_false f5];simp)
       clear f5 HSAM HTM
       go_wp2_with fail
       exact bodyPost_ret (v:=.tuple #[.slice none 0 0,.bool false]) (by simp [results,Tryz.results9,go_sem]) rfl (yM.no HN.out HW2.out)
      have f5b:(nn != nn')=false:=by simpa using f5
      have F5:=z5 f5
      clear f5
      have HALL:Hid (zh (fun s=>Z8 L O s && YO L ⟨pc,st,ops⟩ O s) (q+1)=true):=by show _=_;rw [HSTEP.out,HORY.out,HSAM.out,decide_eq_true F1.out,decide_eq_true F2.out,decide_eq_true F3.out,decide_eq_true F4.out,decide_eq_true F5.out];rfl
      obtain⟨ps,hps⟩:∃ps,pc*sg=ps:=⟨_,rfl⟩
      rw [hps] at g7 g8 HTM
      obtain⟨wv1,wv2⟩:=HWO.out o
      have HWC:=z5 (HWT.out o)
      obtain⟨wv,hwv⟩:∃wv,zr ⟨p0,p1,p2,q0,q1,q2,r⟩ o=wv:=⟨_,rfl⟩
      rw [hwv] at HWC wv1 wv2 HTM
      clear HSAM HNOP hwv
      go_wp2_with fail
      refine (HWC.out _).mono ?_
      rintro e x3 ⟨rfl,hb3⟩
      have e0:x3.cell? ⟨W0.heap.size,1,none⟩=some (iV sg):=by rw [zc hb3 _ _ (by simp;omega)];go_simp
      have e3:x3.cell? ⟨W0.heap.size,3,none⟩=some (iV dd):=by rw [zc hb3 _ _ (by simp;omega)];go_simp
      have hxz:W0.heap.size<x3.heap.size:=by have:=hb3.size;simp at this;omega
      have HX3:=z5 (HBN.out.trans (hb3.mono (by simp;omega)))
      have HOX:=z5 (zt HO.out (HWB.out.trans (HX3.out.mono (by have:=HZ.out;omega))))
      have HBX:=z5 (HB0.out.trans (HX3.out.mono (by omega)))
      have hlz:w.heap.size+1+1+1<=x3.heap.size:=by omega
      have HVAL:Hid (zX ⟨pc,st,ops⟩ O q=sl+ps/\zA ⟨p0,p1,p2,q0,q1,q2,r⟩ ⟨pc,st,ops⟩ O q=sl+ps+wv/\zm ⟨pc,st,ops⟩ O q=dd+sg):=⟨HTM.out.1,by rw [HTM.out.2.1,HTM.out.1],HTM.out.2.2⟩
      clear hb3 HWC HTM b0 b1 b2 b3 b4 b5 b6 b7 b8 l0 l1 l2 t0 t1 t2 t3 t4 t5 t6 k0 k1 k2
      go_wp2_with (at_builtin;refine wpList_append_own _ rfl (.tmp 136) (.tmp 147) 42 rfl (w.heap.size+1+1+1) 81 j0 (.agg #[iV 0,iV 0,iV 0]) 3 24 Tryz.underlying42 ji jz0 jz1 jz2 rfl (by decide) _ _ _ rfl (zt HOX.out (below_alloc1 _ _)) ⟨x3.heap.size,0,none⟩ 1 1 (ZQ ⟨sl+ps,sl+ps+wv,dd+sg⟩) rfl rfl (by exact zei _ _ _ _ _) (by intro u hu;unfold ZQ at hu;simp at hu;rcases hu with rfl | rfl | rfl <;> rfl) (by unfold maxLen;omega) (by omega) (by simp;omega) ?_;intro v2' w2 hown2 hgrow2 hnil2;obtain⟨oa2,oc2,rfl,hl1',hl2'⟩:=zS hown2;have HO2:=z5 hown2;have HG2:=z5 hgrow2;clear hown2 hgrow2)
      go_roundw
      case rel =>
       have h2:=HO2.out
       have h3:(⟨sl+ps,sl+ps+wv,dd+sg⟩:Du)=⟨zX ⟨pc,st,ops⟩ O q,zA ⟨p0,p1,p2,q0,q1,q2,r⟩ ⟨pc,st,ops⟩ O q,zm ⟨pc,st,ops⟩ O q⟩:=by rw [HVAL.out.1,HVAL.out.2.1,HVAL.out.2.2]
       rw [zff,h3,zmk] at h2
       exact⟨q+1,by omega,by go_num,oa2,oc2,rfl,h2,HALL.out,(HBX.out.alloc (by omega) _).grown HG2.out (by simp;omega) (ye HO.out)⟩
      case measure=>simp [intOf];omega
   ·have HN:Hid (xH L ⟨p0,p1,p2,q0,q1,q2,r⟩ ⟨pc,st,ops⟩ O=false):=HNO.out (by rw [HORD.out,Z3 (by omega)];rfl)
    by_cases hneg:os<0
    ·clear hin
     go_wp2_with fail
     exact bodyPost_ret (v:=.tuple #[.slice none 0 0,.bool false]) (by simp [results,Tryz.results9,go_sem]) rfl (yM.no HN.out HW.out)
    ·have hge:(L.body.length:Int)<=os:=by omega
     clear hin
     go_wp2_with fail
     exact bodyPost_ret (v:=.tuple #[.slice none 0 0,.bool false]) (by simp [results,Tryz.results9,go_sem]) rfl (yM.no HN.out HW.out)
  ·have e:s=L.body.length:=by omega
   subst e
   have hsi:¬(L.body.length:Int)<(L.body.length:Int):=by omega
   have HY:Hid (xH L ⟨p0,p1,p2,q0,q1,q2,r⟩ ⟨pc,st,ops⟩ O=true):=by show _=_;rw [HLAY.out,HA.out]
   have HOV:=z5 (OfV.of_own HO.out)
   clear hown hall hbel hbw
   go_wp2_with fail
   exact bodyPost_ret (v:=.tuple #[.slice xa L.body.length xc,.bool true]) (by simp [results,Tryz.results9,go_sem]) rfl (yM.yes HY.out HW.out HOV.out)
theorem zfj (v kv ov:Value) (t:Tg) (L:Lp) (K:Kn) (O:List Int) (w:World) (hL:zk w v L) (hK:xh w kv K) (hO:yf w ov O) :
  Calls Tryz.prog 9 #[v,.agg t.cells,kv,ov] w (yM L t K O w):=by
 have hL':=hL
 obtain⟨v0,v1,v2,rfl,⟨a0,cap0,rfl,-⟩,⟨a1,cap1,rfl,-⟩,⟨a2,cap2,rfl,-⟩⟩:=hL'
 obtain⟨kl,rfl,hOp⟩:=hK
 have hOp':=hOp
 obtain⟨ka,kc,rfl,-⟩:=hOp'
 have hO':=hO
 obtain⟨oa,oc,rfl,-⟩:=hO'
 obtain⟨pc,st,ops⟩:=K
 obtain⟨p0,p1,p2,q0,q1,q2,r⟩:=t
 by_cases h1:(zx L && zp ⟨p0,p1,p2,q0,q1,q2,r⟩)=true
 ·by_cases h2:Z6 ⟨p0,p1,p2,q0,q1,q2,r⟩ ⟨pc,st,ops⟩ L.logs=true
  ·by_cases h3:ops.length=L.body.length
   ·by_cases h4:O.length=L.body.length
    ·exact zj1 p0 p1 p2 q0 q1 q2 r pc st ops L O a0 a1 a2 ka oa cap0 cap1 cap2 kc oc w hL hOp hO h1 h2 h3 h4
    ·exact (X3 p0 p1 p2 q0 q1 q2 r pc st ops L O a0 a1 a2 ka oa cap0 cap1 cap2 kc oc w hL hOp hO (.inr (.inr (.inr h4)))).mono fun e w' ⟨he,hb⟩=>he ▸ yM.no (zbz (.inr (.inr (.inr h4)))) hb
   ·exact (X3 p0 p1 p2 q0 q1 q2 r pc st ops L O a0 a1 a2 ka oa cap0 cap1 cap2 kc oc w hL hOp hO (.inr (.inr (.inl h3)))).mono fun e w' ⟨he,hb⟩=>he ▸ yM.no (zbz (.inr (.inr (.inl h3)))) hb
  ·have h2':Z6 ⟨p0,p1,p2,q0,q1,q2,r⟩ ⟨pc,st,ops⟩ L.logs=false:=by simpa using h2
   exact (X3 p0 p1 p2 q0 q1 q2 r pc st ops L O a0 a1 a2 ka oa cap0 cap1 cap2 kc oc w hL hOp hO (.inr (.inl h2'))).mono fun e w' ⟨he,hb⟩=>he ▸ yM.no (zbz (.inr (.inl h2'))) hb
 ·have h1':(zx L && zp ⟨p0,p1,p2,q0,q1,q2,r⟩)=false:=by simpa using h1
  exact (X3 p0 p1 p2 q0 q1 q2 r pc st ops L O a0 a1 a2 ka oa cap0 cap1 cap2 kc oc w hL hOp hO (.inl h1')).mono fun e w' ⟨he,hb⟩=>he ▸ yM.no (zbz (.inl h1')) hb
end Go.Proofs.YtjoapiafpahihabGreat
