import Derived.Test.YtjoapiafpahihabGreatSchedB
import Derived.Test.YtjoapiafpahihabGreatTarget
import Derived.Test.YtjoapiafpahihabGreatRef67
import Derived.Test.YtjoapiafpahihabGreatRounds
namespace Go.Proofs.YtjoapiafpahihabGreat
open Go.RowKit Go.Joins
set_option linter.unusedVariables false
set_option linter.unusedSimpArgs false
set_option maxRecDepth 8192
structure UO (L:Lp) (t:Tg) (x A:World) (k:Nat) (wr:World):Prop where
 bel:Below (x.heap.size+1+1+1) A wr
 blk:∃la lc,wr.heap[(x.heap.size+1+1+1)]?=some (.cells #[iV 0,.slice la k lc] 49 (0,0))/\wr.ownsRow (x.heap.size+1+1+1+1) 3 1 (.slice la k lc) k ((List.range k).map fun i=>iV (yC L t i))
theorem zjg (w:World) (x:Value) (t:TypeId):∀(j:Nat) (u:Value),[x][j]?=some u->(w.alloc (.cells #[x] t)).cell? ((⟨w.heap.size,0,none⟩:Addr).add j)=some u:=by
 intro j u hj
 have ha:(⟨w.heap.size,0,none⟩:Addr).add j=⟨w.heap.size,j,none⟩:=by simp [Addr.add];omega
 rw [ha,cell_of_block (zn w #[x] t)]
 simpa using hj
theorem zmo (f:Nat->Value) (k:Nat):(List.range k).map f++[f k]=(List.range (k+1)).map f:=by rw [List.range_succ,List.map_append];rfl
theorem UO.below {L:Lp} {t:Tg} {x A wr y:World} {k:Nat} (h:UO L t x A k wr) (hA:A.heap.size<=wr.heap.size) (hb:Below wr.heap.size wr y) (hz:(x.heap.size+1+1+1)<wr.heap.size):UO L t x A k y:=by
 obtain⟨la,lc,h1,h2⟩:=h.blk
 exact⟨h.bel.trans (hb.mono (Nat.le_of_lt hz)),la,lc,(hb.block _ hz).trans h1,zt h2 hb⟩
theorem UO.next {L:Lp} {t:Tg} {x A wr y w1:World} {k:Nat} {la la':Option Addr} {lc lc':Nat} (h:UO L t x A k wr) (hz:(x.heap.size+1+1+1)<wr.heap.size) (hb:Below wr.heap.size wr y) (hk:wr.heap[(x.heap.size+1+1+1)]?=some (.cells #[iV 0,.slice la k lc] 49 (0,0))) (ho:wr.ownsRow (x.heap.size+1+1+1+1) 3 1 (.slice la k lc) k ((List.range k).map fun i=>iV (yC L t i)))
  (ho1:w1.ownsRow (x.heap.size+1+1+1+1) 3 1 (.slice la' (k+1) lc') (k+1) ((List.range k).map (fun i=>iV (yC L t i))++[iV (yC L t k)])) (hg:y.grownBy w1 (Value.ownBlock (.slice la k lc))):UO L t x A (k+1) (w1.setCell ⟨(x.heap.size+1+1+1),1,none⟩ (.slice la' (k+1) lc'))/\w1.heap[(x.heap.size+1+1+1)]?=some (.cells #[iV 0,.slice la k lc] 49 (0,0)):=by
 have hge:=yW ho
 have hzy:(x.heap.size+1+1+1)<y.heap.size:=Nat.lt_of_lt_of_le hz hb.size
 have hb1:w1.heap[(x.heap.size+1+1+1)]?=some (.cells #[iV 0,.slice la k lc] 49 (0,0)):=by
  rw [hg.block _ hzy (fun e=>by have:=hge _ e.symm;omega),hb.block _ hz];exact hk
 have hbel:Below (x.heap.size+1+1+1) A w1:=((h.bel.trans (hb.mono (Nat.le_of_lt hz))).grown hg (Nat.le_of_lt hzy) fun q hq=>by have:=hge q hq;omega)
 refine⟨⟨hbel.setCell (Nat.le_refl _) _,la',lc',?_,?_⟩,hb1⟩
 ·simp [World.setCell,Array.getElem?_modify,hb1]
 ·rw [zmo (fun i=>iV (yC L t i)) k] at ho1
  obtain⟨hl,hc⟩:=ho1
  refine⟨hl,?_⟩
  rcases hc with hc | ⟨g,cap,cur,hv,hg',hk',r⟩
  ·exact .inl hc
  ·exact .inr ⟨g,cap,cur,hv,hg',by rw [Below.heap_setCell _ _ _ _ (show g≠(x.heap.size+1+1+1) by omega)];exact hk',r⟩
def zqb (L:Lp) (t:Tg) (least:Int) (x:World) (e:Ending) (w':World):Prop:=Below x.heap.size x w'/\∃g tc,e=.returned (.agg #[iV (max least (Zm L t)),.slice (some ⟨g,0,none⟩) L.body.length tc])/\x.heap.size<=g/\yf w' (.slice (some ⟨g,0,none⟩) L.body.length tc) (Xb L t)
set_option maxHeartbeats 8000000 in
theorem XQ (p0 p1 p2 q0 q1 q2 r:Int) (L:Lp) (v0 v2:Value) (bb bo bc:Nat) (least:Int) (x:World) (hm:zx L=true) (ht:zp ⟨p0,p1,p2,q0,q1,q2,r⟩=true) (hle1:1<=least) (hle2:least<=200) (hbb:bb<x.heap.size) (hbc:L.body.length<=bc) (hbm:bc<=9223372036854775807) (hbody:∀i,i<L.body.length->∀j,j<9->x.cell? ⟨bb,bo+i*9+j,none⟩=(zJ (z6 L.body i))[j]?) :
  Calls Tryz.prog 107 #[.agg #[v0,.slice (some ⟨bb,bo,none⟩) L.body.length bc,v2],.agg #[iV p0,iV p1,iV p2,iV q0,iV q1,iV q2,iV r],iV least] x fun e w'=>zqb L ⟨p0,p1,p2,q0,q1,q2,r⟩ least x e w':=by
 obtain⟨-,hl1,hl16,-⟩:=zj hm
 obtain⟨i0,hi,hz0,hz1,hz2⟩:=info_parts Tryz.j3
 have HB3:=z5 (below_alloc3 x (.cells #[v0,.slice (some ⟨bb,bo,none⟩) L.body.length bc,v2] 25) (.cells #[iV p0,iV p1,iV p2,iV q0,iV q1,iV q2,iV r] 28) (.cells #[iV 0,.slice none 0 0] 49))
 have HS3:Hid ((((x.alloc (.cells #[v0,.slice (some ⟨bb,bo,none⟩) L.body.length bc,v2] 25)).alloc (.cells #[iV p0,iV p1,iV p2,iV q0,iV q1,iV q2,iV r] 28)).alloc (.cells #[iV 0,.slice none 0 0] 49)).heap.size=(x.heap.size+1+1+1)):=by show _=_;simp
 have HZ3:Hid ((((x.alloc (.cells #[v0,.slice (some ⟨bb,bo,none⟩) L.body.length bc,v2] 25)).alloc (.cells #[iV p0,iV p1,iV p2,iV q0,iV q1,iV q2,iV r] 28)).alloc (.cells #[iV 0,.slice none 0 0] 49)).heap[x.heap.size+1+1]?=some (.cells #[iV 0,.slice none 0 0] 49 (0,0))):=by
  show _=_
  have e:((x.alloc (.cells #[v0,.slice (some ⟨bb,bo,none⟩) L.body.length bc,v2] 25)).alloc (.cells #[iV p0,iV p1,iV p2,iV q0,iV q1,iV q2,iV r] 28)).heap.size=x.heap.size+1+1:=by simp
  rw [<-e];exact zn _ _ _
 have HTB3:Hid ((((x.alloc (.cells #[v0,.slice (some ⟨bb,bo,none⟩) L.body.length bc,v2] 25)).alloc (.cells #[iV p0,iV p1,iV p2,iV q0,iV q1,iV q2,iV r] 28)).alloc (.cells #[iV 0,.slice none 0 0] 49)).heap[x.heap.size+1]?=some (.cells #[iV p0,iV p1,iV p2,iV q0,iV q1,iV q2,iV r] 28 (0,0))):=by
  show _=_
  rw [Below.heap_alloc _ _ _ (by simp)]
  have e:(x.alloc (.cells #[v0,.slice (some ⟨bb,bo,none⟩) L.body.length bc,v2] 25)).heap.size=x.heap.size+1:=by simp
  rw [<-e];exact zn _ _ _
 have HST:Hid (UO L ⟨p0,p1,p2,q0,q1,q2,r⟩ x (((x.alloc (.cells #[v0,.slice (some ⟨bb,bo,none⟩) L.body.length bc,v2] 25)).alloc (.cells #[iV p0,iV p1,iV p2,iV q0,iV q1,iV q2,iV r] 28)).alloc (.cells #[iV 0,.slice none 0 0] 49)) 0 ((((x.alloc (.cells #[v0,.slice (some ⟨bb,bo,none⟩) L.body.length bc,v2] 25)).alloc (.cells #[iV p0,iV p1,iV p2,iV q0,iV q1,iV q2,iV r] 28)).alloc (.cells #[iV 0,.slice none 0 0] 49)).alloc (.cells #[iV 0,.slice none 0 0] 49))):=by
  refine⟨(Below.refl _ _).alloc (by rw [HS3.out];exact Nat.le_refl _) _,none,0,?_,⟨rfl,.inl ⟨rfl,rfl⟩⟩⟩
  have h:=zn (((x.alloc (.cells #[v0,.slice (some ⟨bb,bo,none⟩) L.body.length bc,v2] 25)).alloc (.cells #[iV p0,iV p1,iV p2,iV q0,iV q1,iV q2,iV r] 28)).alloc (.cells #[iV 0,.slice none 0 0] 49)) #[iV 0,.slice none 0 0] 49
  rw [HS3.out] at h
  exact h
 have HBO:=z5 hbody
 have HWL:=z5 (fun k=>V0 (L:=L) (t:=⟨p0,p1,p2,q0,q1,q2,r⟩) ht k)
 have HW1:=z5 (fun k=>xp (t:=⟨p0,p1,p2,q0,q1,q2,r⟩) (z6 L.body k).o ht)
 have HAL:=z5 (zbg hm ht)
 have HPW:=z5 (fun op W=>zjw ⟨p0,p1,p2,q0,q1,q2,r⟩ op W)
 clear hbody hm ht
 go_enter Tryz.func107,Tryz.ntmps107
 go_wp2_with fail
 go_loopw [8,15] (fun ovv i wr=>∃k:Nat,k<=L.body.length/\i=iV k/\ovv=iV (yC L ⟨p0,p1,p2,q0,q1,q2,r⟩ k)/\UO L ⟨p0,p1,p2,q0,q1,q2,r⟩ x (((x.alloc (.cells #[v0,.slice (some ⟨bb,bo,none⟩) L.body.length bc,v2] 25)).alloc (.cells #[iV p0,iV p1,iV p2,iV q0,iV q1,iV q2,iV r] 28)).alloc (.cells #[iV 0,.slice none 0 0] 49)) k wr/\(x.heap.size+1+1+1+1)<=wr.heap.size) (fun _ i _=>L.body.length - (intOf i).toNat)
 case atStart=>exact⟨0,Nat.zero_le _,rfl,rfl,HST.out,by simp⟩
 case round =>
  clear HST
  obtain⟨k,hk,rfl,rfl,hone,hsz⟩:=hrel
  have HONE:=z5 hone
  have hbw:Below x.heap.size x wr:=HB3.out.trans (hone.bel.mono (by omega))
  by_cases hkl:k<L.body.length
  ·have hki:(k:Int)<(L.body.length:Int):=by omega
   obtain⟨c0,c1,c2,c3,c4,c5,c6,c7,c8⟩:=Zj (fun j hj=>(zc hbw bb (bo+k*9+j) hbb).trans (HBO.out k hkl j hj))
   have hbz:bb<wr.heap.size:=by omega
   obtain⟨la,lc,hpk,hown⟩:=hone.blk
   have HPK:=z5 hpk
   have HOWN:=z5 hown
   have m0:wr.cell? ⟨(x.heap.size+1+1+1),0,none⟩=some (iV 0):=by rw [cell_of_block hpk];rfl
   have m1:wr.cell? ⟨(x.heap.size+1+1+1),1,none⟩=some (.slice la k lc):=by rw [cell_of_block hpk];rfl
   have hwl:=HWL.out k
   have hw1:=HW1.out k
   have HNXW:Hid (yC L ⟨p0,p1,p2,q0,q1,q2,r⟩ (k+1)=yC L ⟨p0,p1,p2,q0,q1,q2,r⟩ k+zr ⟨p0,p1,p2,q0,q1,q2,r⟩ (z6 L.body k).o):=UK _ _ _
   have HTGC:Hid (∀y,Below (x.heap.size+1+1+1) wr y->y.cell? ⟨x.heap.size+1,0,none⟩=some (iV p0)/\y.cell? ⟨x.heap.size+1,1,none⟩=some (iV p1)/\y.cell? ⟨x.heap.size+1,2,none⟩=some (iV p2)/\y.cell? ⟨x.heap.size+1,3,none⟩=some (iV q0)/\y.cell? ⟨x.heap.size+1,4,none⟩=some (iV q1)/\y.cell? ⟨x.heap.size+1,5,none⟩=some (iV q2)/\y.cell? ⟨x.heap.size+1,6,none⟩=some (iV r)):=fun y hy=>by
    have hb:=((hy.block (x.heap.size+1) (by omega)).trans (hone.bel.block _ (by omega))).trans HTB3.out
    refine⟨?_,?_,?_,?_,?_,?_,?_⟩ <;> (rw [cell_of_block hb];rfl)
   have HNEXT:=z5 (fun y w1 la' lc' (hb:Below wr.heap.size wr y) ho1 hg=>UO.next (w1:=w1) (la':=la') (lc':=lc') hone (by omega) hb hpk hown ho1 hg)
   obtain⟨ov,hov⟩:∃ov,yC L ⟨p0,p1,p2,q0,q1,q2,r⟩ k=ov:=⟨_,rfl⟩
   rw [hov] at hwl HNXW HNEXT ⊢
   obtain⟨wt,hwt⟩:∃wt,zr ⟨p0,p1,p2,q0,q1,q2,r⟩ (z6 L.body k).o=wt:=⟨_,rfl⟩
   have HPW2:=z5 (fun W=>HPW.out (z6 L.body k).o W)
   rw [hwt] at HNXW hw1 HPW2
   generalize z6 L.body k=xk at c0 c1 c2 c3 c4 c5 c6 c7 c8 HPW2
   obtain⟨o,xa,xb,ya,yb,ar,sp,pl,nn⟩:=xk
   simp only at c0 c1 c2 c3 c4 c5 c6 c7 c8 HPW2
   have HAS:Hid (Below wr.heap.size wr ((wr.alloc (.cells #[iV o,iV xa,iV xb,iV ya,iV yb,iV ar,iV sp,iV pl,iV nn] 41)).alloc (.cells #[iV ov] 3))):=below_alloc2 _ _ _
   have hpbz:(x.heap.size+1+1+1)<wr.heap.size:=by omega
   clear hov hwt hpk hown hone hbw
   have hoc:∀(j:Nat) (u:Value),[(iV ov:Value)][j]?=some u->((wr.alloc (.cells #[iV o,iV xa,iV xb,iV ya,iV yb,iV ar,iV sp,iV pl,iV nn] 41)).alloc (.cells #[iV ov] 3)).cell? ((⟨wr.heap.size+1,0,none⟩:Addr).add j)=some u:=by
    have h:=zjg (wr.alloc (.cells #[iV o,iV xa,iV xb,iV ya,iV yb,iV ar,iV sp,iV pl,iV nn] 41)) (iV ov) 3
    have e:(wr.alloc (.cells #[iV o,iV xa,iV xb,iV ya,iV yb,iV ar,iV sp,iV pl,iV nn] 41)).heap.size=wr.heap.size+1:=by simp
    rw [e] at h
    exact h
   have HOC:=z5 hoc
   have HSB:Hid (((wr.alloc (.cells #[iV o,iV xa,iV xb,iV ya,iV yb,iV ar,iV sp,iV pl,iV nn] 41)).alloc (.cells #[iV ov] 3)).heap[wr.heap.size]?=some (.cells #[iV o,iV xa,iV xb,iV ya,iV yb,iV ar,iV sp,iV pl,iV nn] 41 (0,0))):=by
    show _=_
    rw [Below.heap_alloc _ _ _ (by simp)]
    exact zn _ _ _
   have HOB:Hid (∀g,Value.ownBlock (.slice la k lc)=some g->g<wr.heap.size):=yZ HOWN.out
   have HGE:=z5 (yW HOWN.out)
   have hsl:wr.heap.size<((wr.alloc (.cells #[iV o,iV xa,iV xb,iV ya,iV yb,iV ar,iV sp,iV pl,iV nn] 41)).alloc (.cells #[iV ov] 3)).heap.size:=by simp;omega
   clear hoc
   rename World=>wo
   have hne:¬wo.heap.size=(x.heap.size+1+1+1):=by omega
   go_wp2_with (at_builtin;refine wpList_append_own _ rfl (.tmp 20) (.tmp 22) 22 rfl (x.heap.size+1+1+1+1) 3 i0 (iV 0) 1 8 Tryz.underlying22 hi hz0 hz1 hz2 rfl (by decide) _ _ _ rfl (zt HOWN.out HAS.out) ⟨wo.heap.size+1,0,none⟩ 1 1 [iV ov] rfl rfl (by exact HOC.out) (by intro u hu;simp at hu;subst hu;rfl) (by unfold maxLen;omega) (by omega) (by simp;omega) ?_;intro v1 w1 hown1 hgrow1 hnil1;obtain⟨g1,cap1,rfl,-,-,-,-⟩:=Zs hown1 (.inr (by omega));have HO2:=z5 hown1;have HG2:=z5 hgrow1;clear hown1 hgrow1 hnil1 c0 c1 c2 c3 c4 c5 c6 c7 c8 m0 m1;have HNX:=z5 (HNEXT.out _ w1 _ _ HAS.out HO2.out HG2.out);have m0:w1.cell? ⟨(x.heap.size+1+1+1),0,none⟩=some (iV 0):=(by rw [cell_of_block HNX.out.2];rfl);have m1:w1.cell? ⟨(x.heap.size+1+1+1),1,none⟩=some (.slice la k lc):=(by rw [cell_of_block HNX.out.2];rfl);have mf:w1.frozen? ⟨(x.heap.size+1+1+1),1,none⟩=false:=(by simp [World.frozen?,HNX.out.2]);have hb1:Below (x.heap.size+1+1+1) wo w1:=((HAS.out.mono (by omega)).grown HG2.out (by omega) (fun q hq=>by have:=HGE.out q hq;omega));obtain⟨t0,t1,t2,t3,t4,t5,t6⟩:=HTGC.out w1 hb1;have hsb:w1.heap[wo.heap.size]?=some (.cells #[iV o,iV xa,iV xb,iV ya,iV yb,iV ar,iV sp,iV pl,iV nn] 41 (0,0)):=((HG2.out.block _ hsl (fun e=>by have:=HOB.out _ e.symm;omega)).trans HSB.out);have s0:w1.cell? ⟨wo.heap.size,0,none⟩=some (iV o):=(by rw [cell_of_block hsb];rfl);have hw1z:wo.heap.size<w1.heap.size:=(Array.getElem?_eq_some_iff.1 hsb).1;clear hb1 hsb)
   refine (HPW2.out _).mono ?_
   rintro e x3 ⟨rfl,hb3⟩
   have hzs:(x.heap.size+1+1+1)<(w1.setCell ⟨(x.heap.size+1+1+1),1,none⟩ (.slice (some ⟨g1,0,none⟩) (k+1) cap1)).heap.size:=by simp;omega
   have HN3:Hid (UO L ⟨p0,p1,p2,q0,q1,q2,r⟩ x (((x.alloc (.cells #[v0,.slice (some ⟨bb,bo,none⟩) L.body.length bc,v2] 25)).alloc (.cells #[iV p0,iV p1,iV p2,iV q0,iV q1,iV q2,iV r] 28)).alloc (.cells #[iV 0,.slice none 0 0] 49)) (k+1) x3):=HNX.out.1.below (by simp;omega) hb3 hzs
   have hsz3:(x.heap.size+1+1+1+1)<=x3.heap.size:=Nat.le_trans hzs hb3.size
   clear hb3 hzs t0 t1 t2 t3 t4 t5 t6 s0 m0 m1 mf
   have hov:wrap64 (ov+wt)=ov+wt:=by unfold wrap64;omega
   go_wp2_with fail
   go_roundw
   case rel=>exact⟨k+1,by omega,by go_num,by rw [HNXW.out],HN3.out,hsz3⟩
   case measure=>simp [intOf];omega
  ·have e:k=L.body.length:=by omega
   subst e
   have hki:¬(L.body.length:Int)<(L.body.length:Int):=by omega
   obtain⟨la,lc,hpk,hown⟩:=hone.blk
   have m0:wr.cell? ⟨(x.heap.size+1+1+1),0,none⟩=some (iV 0):=by rw [cell_of_block hpk];rfl
   have m1:wr.cell? ⟨(x.heap.size+1+1+1),1,none⟩=some (.slice la L.body.length lc):=by rw [cell_of_block hpk];rfl
   have mf0:wr.frozen? ⟨(x.heap.size+1+1+1),0,none⟩=false:=by simp [World.frozen?,hpk]
   have hrk:wr.heap[x.heap.size+1+1]?=some (.cells #[iV 0,.slice none 0 0] 49 (0,0)):=(hone.bel.block _ (by omega)).trans HZ3.out
   have r0:wr.cell? ⟨x.heap.size+1+1,0,none⟩=some (iV 0):=by rw [cell_of_block hrk];rfl
   have r1:wr.cell? ⟨x.heap.size+1+1,1,none⟩=some (.slice none 0 0):=by rw [cell_of_block hrk];rfl
   have rf0:wr.frozen? ⟨x.heap.size+1+1,0,none⟩=false:=by simp [World.frozen?,hrk]
   have rf1:wr.frozen? ⟨x.heap.size+1+1,1,none⟩=false:=by simp [World.frozen?,hrk]
   have HOWN:=z5 hown
   have HBW:=z5 hbw
   obtain⟨ov,hov⟩:∃ov,yC L ⟨p0,p1,p2,q0,q1,q2,r⟩ L.body.length=ov:=⟨_,rfl⟩
   have HALW:Hid (Zm L ⟨p0,p1,p2,q0,q1,q2,r⟩=ov):=hov
   have hal:=HAL.out
   rw [HALW.out] at hal
   rw [hov]
   have HEND:Hid (∀mx,mx=max least ov->zqb L ⟨p0,p1,p2,q0,q1,q2,r⟩ least x (.returned (.agg #[iV mx,.slice la L.body.length lc])) (((wr.setCell ⟨(x.heap.size+1+1+1),0,none⟩ (iV mx)).setCell ⟨x.heap.size+1+1,0,none⟩ (iV mx)).setCell ⟨x.heap.size+1+1,1,none⟩ (.slice la L.body.length lc))/\(((wr.setCell ⟨(x.heap.size+1+1+1),0,none⟩ (iV mx)).setCell ⟨x.heap.size+1+1,0,none⟩ (iV mx)).setCell ⟨x.heap.size+1+1,1,none⟩ (.slice la L.body.length lc)).cell? ⟨x.heap.size+1+1,0,none⟩=some (iV mx)/\(((wr.setCell ⟨(x.heap.size+1+1+1),0,none⟩ (iV mx)).setCell ⟨x.heap.size+1+1,0,none⟩ (iV mx)).setCell ⟨x.heap.size+1+1,1,none⟩ (.slice la L.body.length lc)).cell? ⟨x.heap.size+1+1,1,none⟩=some (.slice la L.body.length lc)):=by
    intro mx hmx
    have hrk2:(wr.setCell ⟨(x.heap.size+1+1+1),0,none⟩ (iV mx)).heap[x.heap.size+1+1]?=some (.cells #[iV 0,.slice none 0 0] 49 (0,0)):=by
     rw [Below.heap_setCell _ _ _ _ (show x.heap.size+1+1≠(x.heap.size+1+1+1) by omega)];exact hrk
    obtain⟨s0,s1⟩:=xX (a':=iV mx) (b':=.slice la L.body.length lc) hrk2
    obtain⟨g,cap,hv,hg,hn,hmx2,hrow⟩:=Zs hown (.inr (by omega))
    injection hv with hv1 hv2 hv3
    subst hv1;subst hv3
    refine⟨⟨((HBW.out.setCell (by show x.heap.size<=(x.heap.size+1+1+1);omega) _).setCell (by show x.heap.size<=x.heap.size+1+1;omega) _).setCell (by show x.heap.size<=x.heap.size+1+1;omega) _,g,lc,by rw [HALW.out,hmx],by omega,?_⟩,s0,s1⟩
    have hr:=((hrow.setOther (a:=⟨(x.heap.size+1+1+1),0,none⟩) (by show g≠(x.heap.size+1+1+1);omega) (iV mx)).setOther (a:=⟨x.heap.size+1+1,0,none⟩) (by show g≠x.heap.size+1+1;omega) (iV mx)).setOther (a:=⟨x.heap.size+1+1,1,none⟩) (by show g≠x.heap.size+1+1;omega) (.slice (some ⟨g,0,none⟩) L.body.length lc)
    have hlen:(Xb L ⟨p0,p1,p2,q0,q1,q2,r⟩).length=L.body.length:=by unfold Xb;simp
    refine⟨some ⟨g,0,none⟩,lc,by rw [hlen],by rw [hlen];exact hn,hmx2,fun i hi=>?_,fun _=>⟨g,0,rfl,hr.lt,fun i hi=>?_⟩⟩
    ·rw [hlen] at hi
     rw [ZV hi]
     have:=HWL.out i
     omega
    ·rw [hlen] at hi
     rw [ZV hi,Nat.zero_add,hr.cell hi]
     exact congrArg some (Ug (fun i=>iV (yC L ⟨p0,p1,p2,q0,q1,q2,r⟩ i)) L.body.length i hi)
   clear hov hpk hrk hown hone hbw
   rename World=>wo
   go_wp2_with fail
   all_goals first
    | (obtain⟨h1,h2,h3⟩:=HEND.out least (by omega);exact bodyPost_ret (v:=.agg #[iV least,.slice la L.body.length lc]) (by simp [results,Tryz.results107,go_sem,h2,h3]) rfl h1)
    | (obtain⟨h1,h2,h3⟩:=HEND.out (max least ov) rfl;exact bodyPost_ret (v:=.agg #[iV (max least ov),.slice la L.body.length lc]) (by simp [results,Tryz.results107,go_sem,h2,h3]) rfl h1)
    | (obtain⟨h1,h2,h3⟩:=HEND.out ov (by omega);exact bodyPost_ret (v:=.agg #[iV ov,.slice la L.body.length lc]) (by simp [results,Tryz.results107,go_sem,h2,h3]) rfl h1)
end Go.Proofs.YtjoapiafpahihabGreat
