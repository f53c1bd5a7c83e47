import Derived.Test.YtjoapiafpahihabGreatCheckC
import Derived.Test.YtjoapiafpahihabGreatDepQ
import Derived.Test.YtjoapiafpahihabGreatSchedA
namespace Go.Proofs.YtjoapiafpahihabGreat
open Go.Proofs.Tryz
open Go.RowKit Go.Joins
set_option linter.unusedVariables false
set_option linter.unusedSimpArgs false
set_option maxRecDepth 8192
def XO (f:Nat->Int) (k:Nat):List Int:=(List.range k).map f
theorem zbg (f:Nat->Int) (k:Nat):XO f (k+1)=XO f k++[f k]:=by unfold XO;rw [List.range_succ,List.map_append];rfl
theorem Tryz.iintC:(prog.info? 3).map (fun i=>(i.zero,i.size,i.bytes))=some (some (iV 0),1,8):=by kernel_rfl
theorem Tryz.ireadC:(prog.info? 185).map (fun i=>(i.zero,i.size,i.bytes))=some (some (.agg #[iV 0,iV 0,iV 0,iV 0,iV 0]),5,40):=by kernel_rfl
theorem zxa {L:Lp} {K:Kn} {O:List Int} {s:Nat} (h:Yz L K O s=true):(opJ K O s).o=(zc L.b s).o:=by
 unfold Yz at h
 simp only [Bool.and_eq_true,decide_eq_true_eq] at h
 exact h.1.1.1.1
theorem zb7 (w:World) (v:Value) (e:TypeId) {B:Nat} (hB:w.heap.size=B):∀(j:Nat) (u:Value),[v][j]?=some u->(w.alloc (.cells #[v] e)).cell? (((ad B 0):Addr).add j)=some u:=by
 subst hB
 intro j u hj
 have ha:((ad w.heap.size 0):Addr).add j=(ad w.heap.size j):=by simp [Addr.add];omega
 rw [ha,cell_of_block (xT w #[v] e)]
 simpa using hj
theorem VW (X:World) (o:Obj):Bw X (X.drew.alloc o):=(below_draws _ _ 1).trans ((below_alloc1 X.drew o))
theorem VX (X:World) (o o':Obj):Bw X ((X.drew.alloc o).alloc o'):=(VW X o).trans ((below_alloc1 (X.drew.alloc o) o').mono (VW X o).size)
theorem ZU {x w1:World} {base y o b:Nat} {e e':TypeId} {sz n:Nat} {v u:Value} {xs:List Value} {cs:Array Value} (ho:x.ownsRow base e sz v n xs) (hg:x.grownBy w1 v.ownBlock) (hb:x.heap[b]?=some (.cells cs e' (0,0))) (he:e'≠e) (hy:b≠y):(w1.setCell (ad y o) u).heap[b]?=some (.cells cs e' (0,0)):=by
 rw [Below.heap_setCell _ _ _ _ hy];exact Yp ho hg hb he
set_option maxHeartbeats 32000000 in
theorem zpj (p0 p1 p2 q0 q1 q2 r pc st:Int) (ops:List Kop) (L:Lp) (O:List Int) (a0 a2:Option Addr) (bb bo kb ko ob oo gA gB gC kc oc:Nat) (w:World) (hl:xD L ⟨p0,p1,p2,q0,q1,q2,r⟩ ⟨pc,st,ops⟩ O=true)
  (hbb:bb<w.heap.size) (hbc:L.b.length<=gB) (hbm:gB<=9223372036854775807) (gQ:∀i,i<L.b.length->∀j,j<9->w.cell? (ad bb (bo+i*9+j))=(zP (zc L.b i))[j]?)
  (hkb:kb<w.heap.size) (hkc:ops.length<=kc) (hkm:kc<=9223372036854775807) (hops:∀i,i<ops.length->∀j,j<10->w.cell? (ad kb (ko+i*10+j))=(yS (zp ops i))[j]?)
  (hob:ob<w.heap.size) (hoc:O.length<=oc) (hom:oc<=9223372036854775807) (hord:∀i,i<O.length->w.cell? (ad ob (oo+i))=sI (nth O i)) :
  Calls prog 72 #[(lv L a0 (some (ad bb bo)) a2 gA gB gC),(tv p0 p1 p2 q0 q1 q2 r),.agg #[iV pc,iV st,.slice (some (ad kb ko)) ops.length kc],.slice (some (ad ob oo)) O.length oc] w fun e w'=>e=.returned (.pointer (some (ad ((w.heap.size+1+1+1)) 0)))/\Bw w w'/\∃ta tc ra rc pa pq da dc,LyM (((w.alloc (.cells #[.slice a0 L.l.length gA,.slice (some (ad bb bo)) L.b.length gB,.slice a2 L.o.length gC] 25)).alloc (.cells #[iV p0,iV p1,iV p2,iV q0,iV q1,iV q2,iV r] 28)).alloc (.cells #[iV pc,iV st,.slice (some (ad kb ko)) ops.length kc] 31)) (w.heap.size+1+1+1) (.slice a0 L.l.length gA) (.slice (some (ad bb bo)) L.b.length gB) (.slice a2 L.o.length gC) pc r (.slice ta L.b.length tc) (.slice ra L.b.length rc) (.slice pa L.b.length pq) (.slice da (yh L ⟨pc,st,ops⟩ O).length dc) L.b.length L.b.length L.b.length (yh L ⟨pc,st,ops⟩ O).length (XO (yD ⟨pc,st,ops⟩ O) L.b.length) (XO (zF ⟨p0,p1,p2,q0,q1,q2,r⟩ ⟨pc,st,ops⟩ O) L.b.length) (XO (zr ⟨pc,st,ops⟩ O) L.b.length) (yh L ⟨pc,st,ops⟩ O) w':=by
 obtain⟨hm,hmt,hmk,h4,h5,h6⟩:=yP hl
 obtain⟨⟨hp1,hp2,hr1⟩,hrg⟩:=yz hl
 obtain⟨-,hn1,hn16,-,-,-,h7⟩:=zw hm
 obtain⟨i0,hi,hz0,hz1,hz2⟩:=info_parts Tryz.iintC
 obtain⟨j0,hj,hy0,hy1,hy2⟩:=info_parts Tryz.ireadC
 simp only at hp1 hp2 hr1 h4
 have HRG:=z9 (fun (s:Nat) (hs:s<L.b.length)=>hrg s hs)
 have HOPS:=z9 (fun (s:Nat) (hs:s<L.b.length)=>Z7 hl hs)
 have HSAM:=z9 (fun (s:Nat) (hs:s<L.b.length)=>zxa (h6 s hs).2)
 have HLOO:=z9 (fun (s:Nat) (hs:s<L.b.length)=>V0 (zo h7 s hs))
 have HRL:=z9 (fun (k:Nat) (hk:k<=L.b.length)=>zrv (K:=⟨pc,st,ops⟩) (O:=O) hm k hk)
 have HBO:=z9 gQ
 have HOP:=z9 hops
 have HOR:=z9 hord
 have HLN:=z9 (And.intro h4 h5)
 obtain⟨x3,hx3⟩:∃x3,(((w.alloc (.cells #[.slice a0 L.l.length gA,.slice (some (ad bb bo)) L.b.length gB,.slice a2 L.o.length gC] 25)).alloc (.cells #[iV p0,iV p1,iV p2,iV q0,iV q1,iV q2,iV r] 28)).alloc (.cells #[iV pc,iV st,.slice (some (ad kb ko)) ops.length kc] 31))=x3:=⟨_,rfl⟩
 have hz3:x3.heap.size=(w.heap.size+1+1+1):=by rw [<-hx3];simp
 have HBZ:=z9 (show Bw w x3 by rw [<-hx3];exact below_alloc3 w _ _ _)
 have HLK:Hid (∀wr,Below (w.heap.size+1+1+1) x3 wr->_):=fun wr hb=>yy (w:=w) (wr:=wr) (hx3 ▸ hb)
 have HST:=z9 (LyM.start x3 (.slice a0 L.l.length gA) (.slice (some (ad bb bo)) L.b.length gB) (.slice a2 L.o.length gC) pc r)
 rw [hz3] at HST
 have HZ3:=z9 hz3
 rw [hx3]
 have HX3:=z9 hx3
 clear gQ hops hord hl hm hmt hmk h4 h5 h6 h7 hrg hx3 hz3
 go_enter func72,ntmps72
 go_wp2_with fail
 go_loopw [27] (fun i wr=>∃k:Nat,k<=L.b.length/\i=iV k/\∃ta tc ra rc pa pq da dc,LyM x3 (w.heap.size+1+1+1) (.slice a0 L.l.length gA) (.slice (some (ad bb bo)) L.b.length gB) (.slice a2 L.o.length gC) pc r (.slice ta k tc) (.slice ra k rc) (.slice pa k pq) (.slice da (Z5 L ⟨pc,st,ops⟩ O k).length dc) k k k (Z5 L ⟨pc,st,ops⟩ O k).length (XO (yD ⟨pc,st,ops⟩ O) k) (XO (zF ⟨p0,p1,p2,q0,q1,q2,r⟩ ⟨pc,st,ops⟩ O) k) (XO (zr ⟨pc,st,ops⟩ O) k) (Z5 L ⟨pc,st,ops⟩ O k) wr) (fun i _=>L.b.length - (intOf i).toNat)
 case atStart=>exact⟨0,Nat.zero_le _,rfl,none,0,none,0,none,0,none,0,by rw [HX3.out];exact HST.out⟩
 case round =>
  clear HST
  obtain⟨k,hk,rfl,ta,tc,ra,rc,pa,pq,da,dc,hly⟩:=hrel
  have HLY:=z9 hly
  by_cases hkl:k<L.b.length
  ·have hki:(k:Int)<(L.b.length:Int):=by omega
   have hkO:(k:Int)<(O.length:Int):=by have:=HLN.out.2;omega
   obtain⟨⟨l0,l1,l2⟩,⟨t0,t1,t2,t3,t4,t5,t6⟩,⟨k0,k1,k2⟩,hz,hbw⟩:=HLK.out _ hly.bel
   have HBW:=z9 hbw
   obtain⟨c0,c1,c2,c3,c4,c5,c6,c7,c8⟩:=V5 (fun j hj=>(zf hbw bb (bo+k*9+j) hbb).trans (HBO.out k hkl j hj))
   have hyz:=hly.lt
   have hbz:bb<wr.heap.size:=by omega
   obtain⟨og0,og1,os0,os1,od0,od1,op0,op1,-,otm,onz,onl⟩:=HOPS.out k hkl
   obtain⟨rg0,rg1,rg2,rg3⟩:=HRG.out k hkl
   obtain⟨lk1,lk2⟩:=HLOO.out k hkl
   have hsam:=HSAM.out k hkl
   obtain⟨z,hzo⟩:∃z:Nat,nth O k=z:=⟨(nth O k).toNat,by omega⟩
   have co:=(zf hbw ob (oo+k) hob).trans (HOR.out k (by have:=HLN.out.2;omega))
   rw [hzo] at co onz onl
   have hzn:z<ops.length:=by have:=HLN.out.1;omega
   have hzi:(z:Int)<(ops.length:Int):=by omega
   obtain⟨d0,d1,d2,d3,d4,d5,d6,d7,d8,d9⟩:=ten (fun j hj=>(zf hbw kb (ko+z*10+j) hkb).trans (HOP.out z hzn j hj))
   have hkz:kb<wr.heap.size:=by omega
   have hoz:ob<wr.heap.size:=by omega
   have hoJ:opJ ⟨pc,st,ops⟩ O k=zp ops z:=by unfold opJ yF;rw [hzo];rfl
   have HRD:Hid (Z5 L ⟨pc,st,ops⟩ O (k+1)=Z5 L ⟨pc,st,ops⟩ O k++Yb L ⟨pc,st,ops⟩ O k (zj (zc L.b k)).length):=rfl
   have HR0:Hid (∀i,i<(zj (zc L.b k)).length->xu L ⟨pc,st,ops⟩ O k i=⟨(if i=1 then (zc L.b k).ya else (zc L.b k).xa),(if i=1 then (zc L.b k).yb else (zc L.b k).xb),yD ⟨pc,st,ops⟩ O k,(zp ops z).sg,if i=1 then (zp ops z).b else (zp ops z).a⟩):=fun i hi=>by
    unfold xu
    rw [hoJ]
    have hu:zy (zj (zc L.b k)) i=if i=1 then ((zc L.b k).ya,(zc L.b k).yb) else ((zc L.b k).xa,(zc L.b k).xb):=by
     have hi2:i<2:=by omega
     unfold zj at hi ⊢
     by_cases e4:(zc L.b k).o=4
     ·rw [if_pos e4] at hi ⊢
      have:i=0:=by simp at hi;omega
      subst this;rfl
     ·rw [if_neg e4] at hi ⊢
      by_cases e10:10<(zc L.b k).o
      ·rw [if_pos e10]
       rcases (show i=0\/i=1 by omega) with rfl | rfl <;> rfl
      ·rw [if_neg e10] at hi;exact absurd hi (Nat.not_lt_zero _)
    rw [hu]
    by_cases e:i=1
    ·simp [e]
    ·simp [e]
   have HRY:Hid (zF ⟨p0,p1,p2,q0,q1,q2,r⟩ ⟨pc,st,ops⟩ O k=yD ⟨pc,st,ops⟩ O k+zO ⟨p0,p1,p2,q0,q1,q2,r⟩ (zc L.b k).o):=by show yD ⟨pc,st,ops⟩ O k+zO ⟨p0,p1,p2,q0,q1,q2,r⟩ (opJ ⟨pc,st,ops⟩ O k).o=_;rw [hsam]
   have HPL:Hid (zr ⟨pc,st,ops⟩ O k=(zp ops z).d+(zp ops z).sg):=by show (opJ ⟨pc,st,ops⟩ O k).d+(opJ ⟨pc,st,ops⟩ O k).sg=_;rw [hoJ]
   have HUS:=z9 lk1
   have HU2:=z9 lk2
   have HUN:Hid ((zj (zc L.b k)).length=(zj (zc L.b k)).length):=rfl
   rw [hoJ] at og0 og1 os0 os1 od0 od1 otm hsam
   have HTS:=z9 (zbg (yD ⟨pc,st,ops⟩ O) k)
   have HRS:=z9 (zbg (zF ⟨p0,p1,p2,q0,q1,q2,r⟩ ⟨pc,st,ops⟩ O) k)
   have HPS:=z9 (zbg (zr ⟨pc,st,ops⟩ O) k)
   obtain⟨un,hun⟩:∃un,(zj (zc L.b k)).length=un:=⟨_,rfl⟩
   rw [hun] at HRD HR0 HUS HU2
   obtain⟨tm,htm⟩:∃tm,yD ⟨pc,st,ops⟩ O k=tm:=⟨_,rfl⟩
   obtain⟨ry,hry⟩:∃ry,zF ⟨p0,p1,p2,q0,q1,q2,r⟩ ⟨pc,st,ops⟩ O k=ry:=⟨_,rfl⟩
   obtain⟨pt,hpt⟩:∃pt,zr ⟨pc,st,ops⟩ O k=pt:=⟨_,rfl⟩
   rw [htm] at rg0 rg1 rg2 rg3 otm HR0 HRY HTS
   rw [hry] at rg2 rg3 HRY HRS
   rw [hpt] at op0 op1 HPL HPS
   generalize zc L.b k=xk at *
   obtain⟨so,xa,xb,ya,yb,ar,sp,pl,nn⟩:=xk
   generalize zp ops z=ox at *
   obtain⟨o0,o1,o2,o3,o4,o5,o6,o7,o8,o9⟩:=ox
   simp only at c0 c1 c2 c3 c4 c5 c6 c7 c8 d0 d1 d2 d3 d4 d5 d6 d7 d8 d9 og0 og1 os0 os1 od0 od1 otm hsam HR0 HRY HPL HUS
   clear hly hbw hun htm hry hpt hoJ hzo lk1 lk2 HUN hsam
   have HS5:Hid (∀w',Bw wr w'->w'.cell? (ad (w.heap.size+1+1) 2)=some (.slice (some (ad kb ko)) ops.length kc)/\w'.cell? (ad ob (oo+k))=sI (z:Int)/\w'.cell? (ad kb (ko+z*10))=sI o0/\w'.cell? (ad kb (ko+z*10+1))=sI o1/\w'.cell? (ad kb (ko+z*10+2))=sI o2/\w'.cell? (ad kb (ko+z*10+3))=sI o3/\w'.cell? (ad kb (ko+z*10+4))=sI o4/\w'.cell? (ad kb (ko+z*10+5))=sI o5/\w'.cell? (ad kb (ko+z*10+6))=sI o6/\w'.cell? (ad kb (ko+z*10+7))=sI o7/\w'.cell? (ad kb (ko+z*10+8))=sI o8/\w'.cell? (ad kb (ko+z*10+9))=sI o9):=fun w' hb=>⟨(zf hb (w.heap.size+1+1) 2 hz).trans k2,(zf hb ob (oo+k) hoz).trans co,(zf hb kb (ko+z*10) hkz).trans d0,(zf hb kb (ko+z*10+1) hkz).trans d1,(zf hb kb (ko+z*10+2) hkz).trans d2,(zf hb kb (ko+z*10+3) hkz).trans d3,(zf hb kb (ko+z*10+4) hkz).trans d4,(zf hb kb (ko+z*10+5) hkz).trans d5,(zf hb kb (ko+z*10+6) hkz).trans d6,(zf hb kb (ko+z*10+7) hkz).trans d7,(zf hb kb (ko+z*10+8) hkz).trans d8,(zf hb kb (ko+z*10+9) hkz).trans d9⟩
   go_wp2_with fail
   refine wp_region_noPanic ?_
   refine zm 9 (fun w'=>w'.cell? (ad (w.heap.size+1+1) 2)=some (.slice (some (ad kb ko)) ops.length kc)/\w'.cell? (ad ob (oo+k))=sI (z:Int)/\w'.cell? (ad kb (ko+z*10))=sI o0/\w'.cell? (ad kb (ko+z*10+1))=sI o1/\w'.cell? (ad kb (ko+z*10+2))=sI o2/\w'.cell? (ad kb (ko+z*10+3))=sI o3/\w'.cell? (ad kb (ko+z*10+4))=sI o4/\w'.cell? (ad kb (ko+z*10+5))=sI o5/\w'.cell? (ad kb (ko+z*10+6))=sI o6/\w'.cell? (ad kb (ko+z*10+7))=sI o7/\w'.cell? (ad kb (ko+z*10+8))=sI o8/\w'.cell? (ad kb (ko+z*10+9))=sI o9) (by kernel_rfl) ⟨by go_simp,by go_simp,by go_simp,by go_simp,by go_simp,by go_simp,by go_simp,by go_simp,by go_simp,by go_simp,by go_simp,by go_simp⟩ (fun h9=>?_)
   refine uk 0 h9 ?_
   refine uk 1 h9 ?_
   refine uk 2 h9 ?_
   refine uk 3 h9 ?_
   refine uk 4 h9 ?_
   refine uk 5 h9 ?_
   refine uk 6 h9 ?_
   refine uk 7 h9 ?_
   obtain⟨W0,hW0,hWb,hWz⟩:∃W0,(wr.alloc (.cells #[iV so,iV xa,iV xb,iV ya,iV yb,iV ar,iV sp,iV pl,iV nn] 41)).drew=W0/\Bw wr W0/\W0.heap.size=wr.heap.size+1:=⟨_,rfl,(below_alloc1 wr (.cells #[iV so,iV xa,iV xb,iV ya,iV yb,iV ar,iV sp,iV pl,iV nn] 41)).trans (below_draws _ _ 1),by show (wr.alloc _).heap.size=_;simp⟩
   have hWs:W0.heap[wr.heap.size]?=some (.cells #[iV so,iV xa,iV xb,iV ya,iV yb,iV ar,iV sp,iV pl,iV nn] 41 (0,0)):=by rw [<-hW0];exact xT _ _ _
   have HWS:=z9 hWs
   have HWB:=z9 hWb
   have HWZ:=z9 hWz
   rw [hW0]
   rw [hW0] at h9
   have HA5:=z9 (HS5.out _ (HWB.out.alloc HWB.out.size (.cells #[iV 0,iV 0,iV 0,iV 0,iV 0,iV 0,iV 0,iV 0,iV 0,iV 0] 37)))
   clear hW0 hWz hWs hWb
   refine ze (i:=8) rfl (by kernel_rfl) (fun K hK=>?_)
   go_simp
   refine nxt hK.out (.inr HA5.out) ?_
   clear hK K
   refine ze (i:=9) rfl (by kernel_rfl) (fun K hK=>?_)
   go_simp
   refine nxt hK.out (.inl rfl) ?_
   clear hK K
   refine zq (by kernel_rfl) ?_ _
   refine NoPanic.normal ?_
   obtain⟨b2,hb2⟩:∃b2,W0.heap.size=b2:=⟨_,rfl⟩
   obtain⟨b1,hb1⟩:∃b1,wr.heap.size=b1:=⟨_,rfl⟩
   obtain⟨X1,hX1⟩:∃X1,W0.alloc (.cells #[iV o0,iV o1,iV o2,iV o3,iV o4,iV o5,iV o6,iV o7,iV o8,iV o9] 37)=X1:=⟨_,rfl⟩
   have hXb:Bw wr X1:=by rw [<-hX1];exact HWB.out.alloc HWB.out.size _
   have HLY1:=z9 (HLY.out.gE hXb)
   have HB1:Hid (X1.heap[b1]?=some (.cells #[iV so,iV xa,iV xb,iV ya,iV yb,iV ar,iV sp,iV pl,iV nn] 41 (0,0))):=by show _=_;rw [<-hX1,<-hb1,Below.heap_alloc _ _ _ (by rw [HWZ.out];omega)];exact HWS.out
   have HB2:Hid (X1.heap[b2]?=some (.cells #[iV o0,iV o1,iV o2,iV o3,iV o4,iV o5,iV o6,iV o7,iV o8,iV o9] 37 (0,0))):=by show _=_;rw [<-hX1,<-hb2];exact xT _ _ _
   have hb12:b2=b1+1:=by rw [<-hb2,HWZ.out,hb1]
   have hyb:(w.heap.size+1+1+1)<b1:=by rw [<-hb1];exact hyz
   have hyb2:(w.heap.size+1+1+1)<b2:=by omega
   have hb1z:b1<X1.heap.size:=(Array.getElem?_eq_some_iff.1 HB1.out).1
   have hb2z:b2<X1.heap.size:=(Array.getElem?_eq_some_iff.1 HB2.out).1
   rw [hX1,hb1,hb2]
   clear hb12 hX1 hb1 hb2 hXb HWS HWB HWZ HA5 HS5 h9 hz c0 c1 c2 c3 c4 c5 c6 c7 c8 d0 d1 d2 d3 d4 d5 d6 d7 d8 d9 l0 l1 l2 t0 t1 t2 t3 t4 t5 t6 k0 k1 k2 co hyz hbz hkz hoz
   obtain⟨⟨l0,l1,l2⟩,⟨t0,t1,t2,t3,t4,t5,t6⟩,⟨k0,k1,k2⟩,hz,-⟩:=HLK.out _ HLY1.out.bel
   obtain⟨-,-,-,-,-,y5,-⟩:=HLY1.out.cells
   have hyz:=HLY1.out.lt
   have m0:X1.cell? (ad b2 0)=sI o0:=by rw [cell_of_block HB2.out];rfl
   have m1:X1.cell? (ad b2 1)=sI o1:=by rw [cell_of_block HB2.out];rfl
   obtain⟨mu,hmu⟩:∃mu,o1*pc=mu:=⟨_,rfl⟩
   rw [hmu] at otm
   have hw1:wrap64 (o1*pc)=mu:=by rw [hmu];unfold wrap64;omega
   have hw2:wrap64 (o0+mu)=tm:=by unfold wrap64;omega
   clear hmu otm
   have HLA:=z9 (HLY1.out.gE (below_alloc1 X1 (.cells #[iV tm] 3)))
   clear l0 l1 l2 t0 t1 t2 t3 t4 t5 t6 k1 k2
   go_wp2_with (at_builtin;refine wpList_append_lies _ rfl (.tmp 52) (.tmp 54) 22 (by rfl) ((w.heap.size+1+1+1)+1) 3 i0 (iV 0) 1 8 underlying22 hi hz0 hz1 hz2 rfl (by decide) _ k (ZL (XO (yD ⟨pc,st,ops⟩ O) k)) (by rfl) HLA.out.ot (ad X1.heap.size 0) 1 1 [iV tm] (by rfl) rfl (zb7 _ _ _ rfl) (by intro u hu;simp at hu;subst hu;rfl) (by decide) (by unfold maxLen;omega) (by omega) HLA.out.lt _ rfl ?_)
   intro g1 e1 w1 gJ gK hat hlt
   obtain⟨hyw,hbx⟩:=HLA.out.grow_t gK
   have HP:=z9 (HLA.out.push_t gJ gK hat (by simp))
   have HP1:=z9 (ZU (u:=.slice (pA g1) (k+1) e1) (o:=5) HLA.out.ot gK ((Below.heap_alloc _ _ _ (by omega)).trans HB1.out) (by decide) (show b1≠(w.heap.size+1+1+1) by omega))
   have HP2:=z9 (ZU (u:=.slice (pA g1) (k+1) e1) (o:=5) HLA.out.ot gK ((Below.heap_alloc _ _ _ (by omega)).trans HB2.out) (by decide) (show b2≠(w.heap.size+1+1+1) by omega))
   clear y5 m0 m1 k0 hz hyz hb2z hb1z
   have y5:w1.cell? (ad ((w.heap.size+1+1+1)) 5)=some (.slice ta k tc):=by rw [cell_of_block hyw];rfl
   have fz:w1.frozen? (ad ((w.heap.size+1+1+1)) 5)=false:=by simp [World.frozen?,hyw]
   have hyz:(w.heap.size+1+1+1)<w1.heap.size:=(Array.getElem?_eq_some_iff.1 hyw).1
   clear hyw hbx gJ gK hat hlt hw1 hw2 HLA HB1 HB2
   go_wp2_with fail
   obtain⟨X2,hX2⟩:∃X2,w1.setCell (ad ((w.heap.size+1+1+1)) 5) (.slice (pA g1) (k+1) e1)=X2:=⟨_,rfl⟩
   rw [hX2] at HP HP1 HP2 ⊢
   clear hX2
   have HS8:Hid (∀w',Below (w.heap.size+1+1+1) x3 w'->w'.heap[(w.heap.size+1+1+1)]?=some (.cells #[.slice a0 L.l.length gA,.slice (some (ad bb bo)) L.b.length gB,.slice a2 L.o.length gC,iV pc,iV r,.slice (pA g1) (k+1) e1,.slice ra k rc,.slice pa k pq,.slice da (Z5 L ⟨pc,st,ops⟩ O k).length dc,.map none] 120 (0,0))->w'.heap[b1]?=some (.cells #[iV so,iV xa,iV xb,iV ya,iV yb,iV ar,iV sp,iV pl,iV nn] 41 (0,0))->w'.heap[b2]?=some (.cells #[iV o0,iV o1,iV o2,iV o3,iV o4,iV o5,iV o6,iV o7,iV o8,iV o9] 37 (0,0))->w'.cell? (ad ((w.heap.size+1+1+1)) 6)=some (.slice ra k rc)/\w'.cell? (ad (w.heap.size+1) 0)=sI p0/\w'.cell? (ad (w.heap.size+1) 1)=sI p1/\w'.cell? (ad (w.heap.size+1) 2)=sI p2/\w'.cell? (ad (w.heap.size+1) 3)=sI q0/\w'.cell? (ad (w.heap.size+1) 4)=sI q1/\w'.cell? (ad (w.heap.size+1) 5)=sI q2/\w'.cell? (ad (w.heap.size+1) 6)=sI r/\w'.cell? (ad b1 0)=sI so):=fun w' hb hy h1 h2=>by
    obtain⟨-,⟨t0,t1,t2,t3,t4,t5,t6⟩,-,-,-⟩:=HLK.out _ hb
    exact⟨(by rw [cell_of_block hy];rfl),t0,t1,t2,t3,t4,t5,t6,(by rw [cell_of_block h1];rfl)⟩
   have HS8X:=z9 (HS8.out _ HP.out.bel HP.out.blk HP1.out HP2.out)
   clear y5 fz hyz
   have hyz:=HP.out.lt
   refine wp_region_noPanic ?_
   refine zm 15 (fun w'=>w'.cell? (ad ((w.heap.size+1+1+1)) 6)=some (.slice ra k rc)/\w'.cell? (ad (w.heap.size+1) 0)=sI p0/\w'.cell? (ad (w.heap.size+1) 1)=sI p1/\w'.cell? (ad (w.heap.size+1) 2)=sI p2/\w'.cell? (ad (w.heap.size+1) 3)=sI q0/\w'.cell? (ad (w.heap.size+1) 4)=sI q1/\w'.cell? (ad (w.heap.size+1) 5)=sI q2/\w'.cell? (ad (w.heap.size+1) 6)=sI r/\w'.cell? (ad b1 0)=sI so) (by kernel_rfl) HS8X.out (fun h9=>?_)
   refine uk 0 h9 ?_
   refine uk 1 h9 ?_
   refine uk 2 h9 ?_
   refine uk 3 h9 ?_
   refine uk 4 h9 ?_
   refine uk 5 h9 ?_
   refine uk 6 h9 ?_
   refine uk 7 h9 ?_
   refine uk 8 h9 ?_
   refine ze (i:=9) rfl (by kernel_rfl) (fun K hK=>?_)
   go_simp
   refine (Xn p0 p1 p2 q0 q1 q2 r so _).mono ?_
   rintro e x5 ⟨rfl,hb5⟩
   have hb5:Bw X2 x5:=(below_draws _ _ 1).trans hb5
   have HL5:=z9 (HP.out.gE hb5)
   have H51:=z9 ((hb5.block _ (Array.getElem?_eq_some_iff.1 HP1.out).1).trans HP1.out)
   have H52:=z9 ((hb5.block _ (Array.getElem?_eq_some_iff.1 HP2.out).1).trans HP2.out)
   have hH5:=HS8.out _ HL5.out.bel HL5.out.blk H51.out H52.out
   clear hb5
   refine nxt hK.out (.inr hH5) ?_
   clear hK K
   have hwr:IntKind.i64.wrap (tm+zO ⟨p0,p1,p2,q0,q1,q2,r⟩ so)=ry:=by rw [<-HRY.out];exact zl5 (by omega) (by omega)
   have hwr2:wrap64 (tm+zO ⟨p0,p1,p2,q0,q1,q2,r⟩ so)=ry:=by rw [<-HRY.out];unfold wrap64;omega
   refine uk 10 hH5 ?_
   have HL6:=z9 (HL5.out.gE (below_alloc1 x5 (.cells #[iV ry] 3)))
   have H61:=z9 ((Below.heap_alloc x5 (.cells #[iV ry] 3) _ (Array.getElem?_eq_some_iff.1 H51.out).1).trans H51.out)
   have H62:=z9 ((Below.heap_alloc x5 (.cells #[iV ry] 3) _ (Array.getElem?_eq_some_iff.1 H52.out).1).trans H52.out)
   have hH6:=HS8.out _ HL6.out.bel HL6.out.blk H61.out H62.out
   refine ze (i:=11) rfl (by kernel_rfl) (fun K hK=>?_)
   go_simp
   refine nxt hK.out (.inr hH6) ?_
   clear hK K
   refine ze (i:=12) rfl (by kernel_rfl) (fun K hK=>?_)
   refine step_append_lies _ (by rfl) (.tmp 62) (.tmp 69) 22 (by rfl) ((w.heap.size+1+1+1)+1) 3 i0 (iV 0) 1 8 underlying22 hi hz0 hz1 hz2 rfl (by decide) _ k (ZL (XO (zF ⟨p0,p1,p2,q0,q1,q2,r⟩ ⟨pc,st,ops⟩ O) k)) (by rfl) HL6.out.or (ad x5.heap.size 0) 1 1 [iV ry] (by rfl) rfl (zb7 _ _ _ rfl) (by intro u hu;simp at hu;subst hu;rfl) (by decide) (by unfold maxLen;omega) (by omega) HL6.out.lt _ rfl ?_
   intro g2 e2 w2 gJ gK hat hlt
   obtain⟨hyw,hbx⟩:=HL6.out.grow_r gK
   have HQ:=z9 (HL6.out.push_r gJ gK hat (by simp))
   have HQ1:=z9 (ZU (u:=(.slice (pA g2) (k+1) e2)) (o:=6) HL6.out.or gK H61.out (by decide) (show b1≠(w.heap.size+1+1+1) by omega))
   have HQ2:=z9 (ZU (u:=(.slice (pA g2) (k+1) e2)) (o:=6) HL6.out.or gK H62.out (by decide) (show b2≠(w.heap.size+1+1+1) by omega))
   have hH7:=HS8.out _ hbx hyw (Yp HL6.out.or gK H61.out (by decide)) (Yp HL6.out.or gK H62.out (by decide))
   have y6:w2.cell? (ad ((w.heap.size+1+1+1)) 6)=some (.slice ra k rc):=by rw [cell_of_block hyw];rfl
   have fz:w2.frozen? (ad ((w.heap.size+1+1+1)) 6)=false:=by simp [World.frozen?,hyw]
   have hyz2:(w.heap.size+1+1+1)<w2.heap.size:=(Array.getElem?_eq_some_iff.1 hyw).1
   clear hyw hbx gJ gK hat hlt
   refine nxt hK.out (.inr hH7) ?_
   clear hK K
   refine uk 13 hH7 ?_
   refine uk 14 hH7 ?_
   refine ze (i:=15) rfl (by kernel_rfl) (fun K hK=>?_)
   go_simp
   refine nxt hK.out (.inl rfl) ?_
   clear hK K
   refine zq (by kernel_rfl) ?_ _
   refine NoPanic.normal ?_
   clear hH5 hH6 hH7 y6 fz hyz2 hyz hwr hwr2 h9 HS8X HS8 HL5 HL6 H51 H52 H61 H62 HP HP1 HP2
   obtain⟨X3,hX3⟩:∃X3,w2.setCell (ad ((w.heap.size+1+1+1)) 6) (.slice (pA g2) (k+1) e2)=X3:=⟨_,rfl⟩
   rw [hX3] at HQ HQ1 HQ2 ⊢
   clear hX3
   go_wp2_with fail
   have HS9:Hid (∀w',Below (w.heap.size+1+1+1) x3 w'->w'.heap[(w.heap.size+1+1+1)]?=some (.cells #[.slice a0 L.l.length gA,.slice (some (ad bb bo)) L.b.length gB,.slice a2 L.o.length gC,iV pc,iV r,.slice (pA g1) (k+1) e1,.slice (pA g2) (k+1) e2,.slice pa k pq,.slice da (Z5 L ⟨pc,st,ops⟩ O k).length dc,.map none] 120 (0,0))->w'.heap[b1]?=some (.cells #[iV so,iV xa,iV xb,iV ya,iV yb,iV ar,iV sp,iV pl,iV nn] 41 (0,0))->w'.heap[b2]?=some (.cells #[iV o0,iV o1,iV o2,iV o3,iV o4,iV o5,iV o6,iV o7,iV o8,iV o9] 37 (0,0))->w'.cell? (ad ((w.heap.size+1+1+1)) 7)=some (.slice pa k pq)/\w'.cell? (ad b2 3)=sI o3/\w'.cell? (ad b2 1)=sI o1):=fun w' hb hy h1 h2=>by
    obtain⟨-,⟨t0,t1,t2,t3,t4,t5,t6⟩,-,-,-⟩:=HLK.out _ hb
    exact⟨(by rw [cell_of_block hy];rfl),(by rw [cell_of_block h2];rfl),(by rw [cell_of_block h2];rfl)⟩
   have HS9X:=z9 (HS9.out _ HQ.out.bel HQ.out.blk HQ1.out HQ2.out)
   have hyz:=HQ.out.lt
   have hwr:IntKind.i64.wrap (o3+o1)=pt:=by rw [HPL.out];exact zl5 (by omega) (by omega)
   have hwr2:wrap64 (o3+o1)=pt:=by rw [HPL.out];unfold wrap64;omega
   refine wp_region_noPanic ?_
   refine zm 14 (fun w'=>w'.cell? (ad ((w.heap.size+1+1+1)) 7)=some (.slice pa k pq)/\w'.cell? (ad b2 3)=sI o3/\w'.cell? (ad b2 1)=sI o1) (by kernel_rfl) HS9X.out (fun h9=>?_)
   refine uk 0 h9 ?_
   refine uk 1 h9 ?_
   refine uk 2 h9 ?_
   refine uk 3 h9 ?_
   refine uk 4 h9 ?_
   refine uk 5 h9 ?_
   refine uk 6 h9 ?_
   refine uk 7 h9 ?_
   refine uk 8 h9 ?_
   refine uk 9 h9 ?_
   have HQd:=z9 (HQ.out.gE (below_draws _ _ 1))
   have HL6:=z9 (HQd.out.gE (below_alloc1 X3.drew (.cells #[iV pt] 3)))
   have H61:=z9 ((Below.heap_alloc X3.drew (.cells #[iV pt] 3) _ (show b1<X3.drew.heap.size from (Array.getElem?_eq_some_iff.1 HQ1.out).1)).trans HQ1.out)
   have H62:=z9 ((Below.heap_alloc X3.drew (.cells #[iV pt] 3) _ (show b2<X3.drew.heap.size from (Array.getElem?_eq_some_iff.1 HQ2.out).1)).trans HQ2.out)
   have hH6:=HS9.out _ HL6.out.bel HL6.out.blk H61.out H62.out
   refine ze (i:=10) rfl (by kernel_rfl) (fun K hK=>?_)
   go_simp
   refine nxt hK.out (.inr hH6) ?_
   clear hK K
   refine ze (i:=11) rfl (by kernel_rfl) (fun K hK=>?_)
   refine step_append_lies _ (by rfl) (.tmp 77) (.tmp 83) 22 (by rfl) ((w.heap.size+1+1+1)+1) 3 i0 (iV 0) 1 8 underlying22 hi hz0 hz1 hz2 rfl (by decide) _ k (ZL (XO (zr ⟨pc,st,ops⟩ O) k)) (by rfl) HL6.out.op (ad X3.drew.heap.size 0) 1 1 [iV pt] (by rfl) rfl (zb7 _ _ _ rfl) (by intro u hu;simp at hu;subst hu;rfl) (by decide) (by unfold maxLen;omega) (by omega) HL6.out.lt _ rfl ?_
   intro g3 e3 w3 gJ gK hat hlt
   obtain⟨hyw,hbx⟩:=HL6.out.grow_p gK
   have HR:=z9 (HL6.out.push_p gJ gK hat (by simp))
   have HR1:=z9 (ZU (u:=(.slice (pA g3) (k+1) e3)) (o:=7) HL6.out.op gK H61.out (by decide) (show b1≠(w.heap.size+1+1+1) by omega))
   have HR2:=z9 (ZU (u:=(.slice (pA g3) (k+1) e3)) (o:=7) HL6.out.op gK H62.out (by decide) (show b2≠(w.heap.size+1+1+1) by omega))
   have hH7:=HS9.out _ hbx hyw (Yp HL6.out.op gK H61.out (by decide)) (Yp HL6.out.op gK H62.out (by decide))
   have y7:w3.cell? (ad ((w.heap.size+1+1+1)) 7)=some (.slice pa k pq):=by rw [cell_of_block hyw];rfl
   have fz:w3.frozen? (ad ((w.heap.size+1+1+1)) 7)=false:=by simp [World.frozen?,hyw]
   have hyz2:(w.heap.size+1+1+1)<w3.heap.size:=(Array.getElem?_eq_some_iff.1 hyw).1
   clear hyw hbx gJ gK hat hlt
   refine nxt hK.out (.inr hH7) ?_
   clear hK K
   refine uk 12 hH7 ?_
   refine uk 13 hH7 ?_
   refine ze (i:=14) rfl (by kernel_rfl) (fun K hK=>?_)
   go_simp
   refine nxt hK.out (.inl rfl) ?_
   clear hK K
   refine zq (by kernel_rfl) ?_ _
   refine NoPanic.normal ?_
   clear hH6 hH7 y7 fz hyz2 hyz hwr hwr2 h9 HS9X HS9 HL6 H61 H62 HQ HQ1 HQ2 HQd
   obtain⟨X4,hX4⟩:∃X4,w3.setCell (ad ((w.heap.size+1+1+1)) 7) (.slice (pA g3) (k+1) e3)=X4:=⟨_,rfl⟩
   rw [hX4] at HR HR1 HR2 ⊢
   clear hX4
   go_wp2_with fail
   have HS10:Hid (∀w',Bw X4 w'->w'.cell? (ad b1 1)=sI xa/\w'.cell? (ad b1 2)=sI xb/\w'.cell? (ad b1 3)=sI ya/\w'.cell? (ad b1 4)=sI yb/\w'.cell? (ad b2 4)=sI o4/\w'.cell? (ad b2 5)=sI o5):=fun w' hb=>by
    have h1:=(hb.block _ (Array.getElem?_eq_some_iff.1 HR1.out).1).trans HR1.out
    have h2:=(hb.block _ (Array.getElem?_eq_some_iff.1 HR2.out).1).trans HR2.out
    exact⟨(by rw [cell_of_block h1];rfl),(by rw [cell_of_block h1];rfl),(by rw [cell_of_block h1];rfl),(by rw [cell_of_block h1];rfl),(by rw [cell_of_block h2];rfl),(by rw [cell_of_block h2];rfl)⟩
   have hb1z:b1<X4.heap.size:=(Array.getElem?_eq_some_iff.1 HR1.out).1
   have hb2z:b2<X4.heap.size:=(Array.getElem?_eq_some_iff.1 HR2.out).1
   refine wp_region_noPanic ?_
   refine zm 13 (fun w'=>w'.cell? (ad b1 1)=sI xa/\w'.cell? (ad b1 2)=sI xb/\w'.cell? (ad b1 3)=sI ya/\w'.cell? (ad b1 4)=sI yb/\w'.cell? (ad b2 4)=sI o4/\w'.cell? (ad b2 5)=sI o5) (by kernel_rfl) (HS10.out _ (below_draws _ _ 1)) (fun h9=>?_)
   refine uk 0 h9 ?_
   refine uk 1 h9 ?_
   refine uk 2 h9 ?_
   refine uk 3 h9 ?_
   refine uk 4 h9 ?_
   refine uk 5 h9 ?_
   refine uk 6 h9 ?_
   refine uk 7 h9 ?_
   refine uk 8 h9 ?_
   refine uk 9 h9 ?_
   refine Ue (i:=10) (j:=11) rfl rfl (by kernel_rfl) (fun K hK=>?a1) (fun K hK=>?a2)
   case' a1 =>
    go_simp
    refine nxt hK.out (.inr (HS10.out _ (VW X4 (.cells #[iV 0,iV 0,iV 0,iV 0] 159)))) ?_
    clear hK K
    refine ze (i:=11) rfl (by kernel_rfl) (fun K hK=>?_)
    go_simp
    refine nxt hK.out (.inr (HS10.out _ (VX X4 (.cells #[iV 0,iV 0,iV 0,iV 0] 159) (.cells #[iV 0,iV 0] 183)))) ?_
    clear hK K
    refine ze (i:=12) rfl (by kernel_rfl) (fun K hK=>?_)
    go_simp
    refine nxt hK.out (.inr (HS10.out _ (VX X4 _ _))) ?_
    clear hK K
    refine ze (i:=13) rfl (by kernel_rfl) (fun K hK=>?_)
    go_simp
    refine nxt hK.out (.inl rfl) ?_
    clear hK K
    refine zq (by kernel_rfl) ?_ _
    refine NoPanic.normal ?_
    obtain⟨X5,hX5⟩:∃X5,((X4.alloc (.cells #[iV xa,iV xb,iV ya,iV yb] 159)).alloc (.cells #[iV o4,iV o5] 183)).drew=X5:=⟨_,rfl⟩
    have hXb:Bw X4 X5:=by rw [<-hX5];exact (below_alloc2 X4 _ _).trans (below_draws _ _ 1)
    have h1:X5.heap[X4.heap.size]?=some (.cells #[iV xa,iV xb,iV ya,iV yb] 159 (0,0)):=by rw [<-hX5];exact (Below.heap_alloc _ _ _ (by simp)).trans (xT _ _ _)
    have h2:X5.heap[X4.heap.size+1]?=some (.cells #[iV o4,iV o5] 183 (0,0)):=by
     rw [<-hX5]
     have e:(X4.alloc (.cells #[iV xa,iV xb,iV ya,iV yb] 159)).heap.size=X4.heap.size+1:=by simp
     have h:=xT (X4.alloc (.cells #[iV xa,iV xb,iV ya,iV yb] 159)) #[iV o4,iV o5] 183
     rw [e] at h
     exact h
    rw [hX5]
    obtain⟨qb,hq2⟩:∃q,X4.heap.size+1=q:=⟨_,rfl⟩
    rw [hq2] at h2 ⊢
    obtain⟨qa,hq1⟩:∃q,X4.heap.size=q:=⟨_,rfl⟩
    rw [hq1] at h1 ⊢
    have HQA:=z9 h1
    have HQB:=z9 h2
    have HT:=z9 (HR.out.gE hXb)
    have HT2:=z9 ((hXb.block _ (Array.getElem?_eq_some_iff.1 HR2.out).1).trans HR2.out)
    have hqa:(w.heap.size+1+1+1)<qa:=by have:=HR.out.lt;omega
    have hqb:(w.heap.size+1+1+1)<qb:=by have:=HR.out.lt;omega
    have s0:X5.cell? (ad b1 0)=sI so:=by rw [cell_of_block ((hXb.block _ (Array.getElem?_eq_some_iff.1 HR1.out).1).trans HR1.out)];rfl
    clear hX5 hXb h1 h2 hq1 hq2
   case' a2 =>
    go_simp
    refine nxt hK.out (.inr (HS10.out _ (VW X4 (.cells #[iV 0,iV 0] 183)))) ?_
    clear hK K
    refine ze (i:=10) rfl (by kernel_rfl) (fun K hK=>?_)
    go_simp
    refine nxt hK.out (.inr (HS10.out _ (VX X4 (.cells #[iV 0,iV 0] 183) (.cells #[iV 0,iV 0,iV 0,iV 0] 159)))) ?_
    clear hK K
    refine ze (i:=12) rfl (by kernel_rfl) (fun K hK=>?_)
    go_simp
    refine nxt hK.out (.inr (HS10.out _ (VX X4 _ _))) ?_
    clear hK K
    refine ze (i:=13) rfl (by kernel_rfl) (fun K hK=>?_)
    go_simp
    refine nxt hK.out (.inl rfl) ?_
    clear hK K
    refine zq (by kernel_rfl) ?_ _
    refine NoPanic.normal ?_
    obtain⟨X5,hX5⟩:∃X5,((X4.alloc (.cells #[iV o4,iV o5] 183)).alloc (.cells #[iV xa,iV xb,iV ya,iV yb] 159)).drew=X5:=⟨_,rfl⟩
    have hXb:Bw X4 X5:=by rw [<-hX5];exact (below_alloc2 X4 _ _).trans (below_draws _ _ 1)
    have h1:X5.heap[X4.heap.size]?=some (.cells #[iV o4,iV o5] 183 (0,0)):=by rw [<-hX5];exact (Below.heap_alloc _ _ _ (by simp)).trans (xT _ _ _)
    have h2:X5.heap[X4.heap.size+1]?=some (.cells #[iV xa,iV xb,iV ya,iV yb] 159 (0,0)):=by
     rw [<-hX5]
     have e:(X4.alloc (.cells #[iV o4,iV o5] 183)).heap.size=X4.heap.size+1:=by simp
     have h:=xT (X4.alloc (.cells #[iV o4,iV o5] 183)) #[iV xa,iV xb,iV ya,iV yb] 159
     rw [e] at h
     exact h
    rw [hX5]
    obtain⟨qa,hq2⟩:∃q,X4.heap.size+1=q:=⟨_,rfl⟩
    rw [hq2] at h2 ⊢
    obtain⟨qb,hq1⟩:∃q,X4.heap.size=q:=⟨_,rfl⟩
    rw [hq1] at h1 ⊢
    have HQA:=z9 h2
    have HQB:=z9 h1
    have HT:=z9 (HR.out.gE hXb)
    have HT2:=z9 ((hXb.block _ (Array.getElem?_eq_some_iff.1 HR2.out).1).trans HR2.out)
    have hqa:(w.heap.size+1+1+1)<qa:=by have:=HR.out.lt;omega
    have hqb:(w.heap.size+1+1+1)<qb:=by have:=HR.out.lt;omega
    have s0:X5.cell? (ad b1 0)=sI so:=by rw [cell_of_block ((hXb.block _ (Array.getElem?_eq_some_iff.1 HR1.out).1).trans HR1.out)];rfl
    clear hX5 hXb h1 h2 hq1 hq2
   all_goals
    clear HR HR1 HR2 HS10 hb1z hb2z h9
    go_wp2_with fail
    refine (Z3 so _).mono ?_
    rintro e w' ⟨rfl,hw'⟩
    have hw':=hw'.symm;subst hw'
    rw [HUS.out]
    clear s0
    go_wp2_with fail
    have HNL:Hid ((Z5 L ⟨pc,st,ops⟩ O k).length<=2*k):=HRL.out k hk
    rename World=>wo
    go_loopw [100] (fun iv wr2=>∃i:Nat,i<=un/\iv=iV i/\∃da dc nd dl,LyM x3 (w.heap.size+1+1+1) (.slice a0 L.l.length gA) (.slice (some (ad bb bo)) L.b.length gB) (.slice a2 L.o.length gC) pc r (.slice (pA g1) (k+1) e1) (.slice (pA g2) (k+1) e2) (.slice (pA g3) (k+1) e3) (.slice da nd dc) (k+1) (k+1) (k+1) nd ((XO (yD ⟨pc,st,ops⟩ O) k)++[tm]) ((XO (zF ⟨p0,p1,p2,q0,q1,q2,r⟩ ⟨pc,st,ops⟩ O) k)++[ry]) ((XO (zr ⟨pc,st,ops⟩ O) k)++[pt]) dl wr2/\dl=(Z5 L ⟨pc,st,ops⟩ O k)++Yb L ⟨pc,st,ops⟩ O k i/\wr2.heap[b2]?=some (.cells #[iV o0,iV o1,iV o2,iV o3,iV o4,iV o5,iV o6,iV o7,iV o8,iV o9] 37 (0,0))/\wr2.heap[qa]?=some (.cells #[iV xa,iV xb,iV ya,iV yb] 159 (0,0))/\wr2.heap[qb]?=some (.cells #[iV o4,iV o5] 183 (0,0))) (fun iv _=>un - (intOf iv).toNat)
    case atStart=>exact⟨0,Nat.zero_le _,rfl,da,dc,_,_,HT.out,by rw [show Yb L ⟨pc,st,ops⟩ O k 0=[] from rfl,List.append_nil],HT2.out,HQA.out,HQB.out⟩
    case round =>
     clear HT HT2 HQA HQB HLY HLY1
     obtain⟨i,hil,rfl,da,dc,nd,dl,hly,hdl,hb2,hqa',hqb'⟩:=hrel
     have HLY:=z9 hly
     have HDL:=z9 hdl
     have HB2:=z9 hb2
     have HQA:=z9 hqa'
     have HQB:=z9 hqb'
     have hnd:nd*5=dl.length*5:=by rw [<-zlz];exact hly.od.1.symm
     have hnl:dl.length<=2*k+i:=by
      rw [hdl,List.length_append,zdi]
      have:=HNL.out
      omega
     clear hly hdl hb2 hqa' hqb'
     by_cases hiu:i<un
     ·have hii:(i:Int)<(un:Int):=by omega
      have hu2:=HU2.out
      have hi2:i<2:=by omega
      have hi2i:(i:Int)<2:=by omega
      have HRO:=z9 (HR0.out i hiu)
      obtain⟨va,hva⟩:∃va,(if i=1 then ya else xa)=va:=⟨_,rfl⟩
      obtain⟨vb,hvb⟩:∃vb,(if i=1 then yb else xb)=vb:=⟨_,rfl⟩
      obtain⟨vn,hvn⟩:∃vn,(if i=1 then o5 else o4)=vn:=⟨_,rfl⟩
      rw [hva,hvb,hvn] at HRO
      have HRC:Hid (∀w':World,w'.heap[qa]?=some (.cells #[iV xa,iV xb,iV ya,iV yb] 159 (0,0))->w'.cell? (ad qa (i*2))=sI va/\w'.cell? (ad qa (i*2+1))=sI vb):=fun w' h=>by
       have key:=cell_of_block h
       rcases (show i=0\/i=1 by omega) with e | e
       ·subst e;subst hva;subst hvb;exact⟨by rw [key];rfl,by rw [key];rfl⟩
       ·subst e;subst hva;subst hvb;exact⟨by rw [key];rfl,by rw [key];rfl⟩
      have HNC:Hid (∀w':World,w'.heap[qb]?=some (.cells #[iV o4,iV o5] 183 (0,0))->w'.cell? (ad qb i)=sI vn):=fun w' h=>by
       have key:=cell_of_block h
       rcases (show i=0\/i=1 by omega) with e | e
       ·subst e;subst hvn;rw [key];rfl
       ·subst e;subst hvn;rw [key];rfl
      have HS14:Hid (∀w':World,w'.heap[(w.heap.size+1+1+1)]?=some (.cells #[.slice a0 L.l.length gA,.slice (some (ad bb bo)) L.b.length gB,.slice a2 L.o.length gC,iV pc,iV r,.slice (pA g1) (k+1) e1,.slice (pA g2) (k+1) e2,.slice (pA g3) (k+1) e3,.slice da nd dc,.map none] 120 (0,0))->w'.heap[b2]?=some (.cells #[iV o0,iV o1,iV o2,iV o3,iV o4,iV o5,iV o6,iV o7,iV o8,iV o9] 37 (0,0))->w'.heap[qa]?=some (.cells #[iV xa,iV xb,iV ya,iV yb] 159 (0,0))->w'.heap[qb]?=some (.cells #[iV o4,iV o5] 183 (0,0))->w'.cell? (ad ((w.heap.size+1+1+1)) 8)=some (.slice da nd dc)/\w'.cell? (ad qa (i*2))=sI va/\w'.cell? (ad qa (i*2+1))=sI vb/\w'.cell? (ad b2 1)=sI o1/\w'.cell? (ad qb i)=sI vn):=fun w' h1 h2 h3 h4=>⟨by rw [cell_of_block h1];rfl,(HRC.out w' h3).1,(HRC.out w' h3).2,by rw [cell_of_block h2];rfl,HNC.out w' h4⟩
      have HS14X:=z9 (HS14.out _ HLY.out.blk HB2.out HQA.out HQB.out)
      have hyz:=HLY.out.lt
      have hqaz:qa<wr.heap.size:=(Array.getElem?_eq_some_iff.1 HQA.out).1
      have hqbz:qb<wr.heap.size:=(Array.getElem?_eq_some_iff.1 HQB.out).1
      have hb2z:b2<wr.heap.size:=(Array.getElem?_eq_some_iff.1 HB2.out).1
      have HLD:=z9 (HLY.out.gE (below_draws _ _ 1))
      have HL6:=z9 (HLD.out.gE (below_alloc1 wr.drew (.cells #[iV va,iV vb,iV tm,iV o1,iV vn] 185)))
      have H62:=z9 ((Below.heap_alloc wr.drew (.cells #[iV va,iV vb,iV tm,iV o1,iV vn] 185) _ (show b2<wr.drew.heap.size from hb2z)).trans HB2.out)
      have H6a:=z9 ((Below.heap_alloc wr.drew (.cells #[iV va,iV vb,iV tm,iV o1,iV vn] 185) _ (show qa<wr.drew.heap.size from hqaz)).trans HQA.out)
      have H6b:=z9 ((Below.heap_alloc wr.drew (.cells #[iV va,iV vb,iV tm,iV o1,iV vn] 185) _ (show qb<wr.drew.heap.size from hqbz)).trans HQB.out)
      have hH6:=HS14.out _ HL6.out.blk H62.out H6a.out H6b.out
      clear hva hvb hvn HRC HNC
      go_wp2_with fail
      refine wp_region_noPanic ?_
      refine zm 19 (fun w'=>w'.cell? (ad ((w.heap.size+1+1+1)) 8)=some (.slice da nd dc)/\w'.cell? (ad qa (i*2))=sI va/\w'.cell? (ad qa (i*2+1))=sI vb/\w'.cell? (ad b2 1)=sI o1/\w'.cell? (ad qb i)=sI vn) (by kernel_rfl) HS14X.out (fun h9=>?_)
      refine uk 0 h9 ?_
      refine uk 1 h9 ?_
      refine uk 2 h9 ?_
      refine uk 3 h9 ?_
      refine uk 4 h9 ?_
      refine uk 5 h9 ?_
      refine uk 6 h9 ?_
      refine uk 7 h9 ?_
      refine uk 8 h9 ?_
      refine uk 9 h9 ?_
      refine uk 10 h9 ?_
      refine uk 11 h9 ?_
      refine uk 12 h9 ?_
      refine uk 13 h9 ?_
      refine uk 14 h9 ?_
      refine ze (i:=15) rfl (by kernel_rfl) (fun K hK=>?_)
      go_simp
      refine nxt hK.out (.inr hH6) ?_
      clear hK K
      refine ze (i:=16) rfl (by kernel_rfl) (fun K hK=>?_)
      refine step_append_lies _ (by rfl) (.tmp 107) (.tmp 118) 117 (by rfl) ((w.heap.size+1+1+1)+1) 185 j0 (.agg #[iV 0,iV 0,iV 0,iV 0,iV 0]) 5 40 underlying117 hj hy0 hy1 hy2 rfl (by decide) _ nd (YU dl) (by rfl) HL6.out.od (ad wr.drew.heap.size 0) 1 1 (Zy ⟨va,vb,tm,o1,vn⟩).toList (by rfl) rfl (World.news_of_block (xT wr.drew #[iV va,iV vb,iV tm,iV o1,iV vn] 185)) (by intro u hu;simp [Zy] at hu;rcases hu with rfl | rfl | rfl | rfl | rfl <;> rfl) (by decide) (by unfold maxLen;omega) (by omega) HL6.out.lt _ rfl ?_
      intro g4 e4 w4 gJ gK hat hlt
      obtain⟨hyw,hbx⟩:=HL6.out.grow_d gK
      have HQ:=z9 (HL6.out.push_d gJ gK hat (by simp))
      have HQ2:=z9 (ZU (u:=.slice (pA g4) (nd+1) e4) (o:=8) HL6.out.od gK H62.out (by decide) (show b2≠(w.heap.size+1+1+1) by omega))
      have HQ3:=z9 (ZU (u:=.slice (pA g4) (nd+1) e4) (o:=8) HL6.out.od gK H6a.out (by decide) (show qa≠(w.heap.size+1+1+1) by omega))
      have HQ4:=z9 (ZU (u:=.slice (pA g4) (nd+1) e4) (o:=8) HL6.out.od gK H6b.out (by decide) (show qb≠(w.heap.size+1+1+1) by omega))
      have hH7:=HS14.out _ hyw (Yp HL6.out.od gK H62.out (by decide)) (Yp HL6.out.od gK H6a.out (by decide)) (Yp HL6.out.od gK H6b.out (by decide))
      have y8:w4.cell? (ad ((w.heap.size+1+1+1)) 8)=some (.slice da nd dc):=by rw [cell_of_block hyw];rfl
      have fz:w4.frozen? (ad ((w.heap.size+1+1+1)) 8)=false:=by simp [World.frozen?,hyw]
      have hyz2:(w.heap.size+1+1+1)<w4.heap.size:=(Array.getElem?_eq_some_iff.1 hyw).1
      clear hyw hbx gJ gK hat hlt
      refine nxt hK.out (.inr hH7) ?_
      clear hK K
      refine uk 17 hH7 ?_
      refine uk 18 hH7 ?_
      refine ze (i:=19) rfl (by kernel_rfl) (fun K hK=>?_)
      go_simp
      refine nxt hK.out (.inl rfl) ?_
      clear hK K
      refine zq (by kernel_rfl) ?_ _
      refine NoPanic.normal ?_
      clear hH6 hH7 y8 fz hyz2 hyz h9 HS14X HS14 HL6 H62 H6a H6b HLD
      go_wp2_with fail
      go_roundw
      case rel=>exact⟨i+1,by omega,by go_num,_,_,_,_,HQ.out,by rw [HDL.out,zbp,HRO.out,List.append_assoc],HQ2.out,HQ3.out,HQ4.out⟩
      case measure=>simp [intOf];omega
     ·have e:i=un:=by omega
      subst e
      have hii:¬(i:Int)<(i:Int):=by omega
      go_wp2_with fail
      go_roundw
      case rel =>
       refine⟨k+1,by omega,by go_num,some (ad g1 0),e1,some (ad g2 0),e2,some (ad g3 0),e3,da,dc,?_⟩
       have e9:nd=(Z5 L ⟨pc,st,ops⟩ O (k+1)).length:=by rw [HRD.out,<-HDL.out];omega
       rw [HTS.out,HRS.out,HPS.out,<-e9,HRD.out,<-HDL.out]
       exact HLY.out
      case measure=>simp [intOf];omega
  ·have e:k=L.b.length:=by omega
   subst e
   have hki:¬(L.b.length:Int)<(L.b.length:Int):=by omega
   obtain⟨-,-,-,-,hbw⟩:=HLK.out _ hly.bel
   have HBW:=z9 hbw
   clear hly hbw
   go_wp2_with fail
   go_ret
   exact⟨rfl,HBW.out,ta,tc,ra,rc,pa,pq,da,dc,HLY.out⟩
end Go.Proofs.YtjoapiafpahihabGreat
