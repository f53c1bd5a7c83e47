import Derived.Test.YtjoapiafpahihabGreatSchedB
import Derived.Test.YtjoapiafpahihabGreatTarget
namespace Go.Proofs.YtjoapiafpahihabGreat
open Go.Proofs.Tryz
open Go.RowKit Go.Joins
set_option linter.unusedVariables false
set_option linter.unusedSimpArgs false
set_option maxRecDepth 8192
variable {L:Lp} {t:Tg} {x A wr y:World} {k:Nat}
structure zeh (L:Lp) (t:Tg) (x A:World) (k:Nat) (wr:World):Prop where
 bel:Below (x.heap.size+1+1+1) A wr
 blk:∃la lc,wr.heap[(x.heap.size+1+1+1)]?=some (.cells #[iV 0,.slice la k lc] 49 (0,0))/\wr.ownsRow (x.heap.size+1+1+1+1) 3 1 (.slice la k lc) k ((List.range k).map fun i=>iV (xB L t i))
theorem zr8 (w:World) (x:Value) (t:TypeId):∀(j:Nat) (u:Value),[x][j]?=some u->(w.alloc (.cells #[x] t)).cell? (((ad w.heap.size 0):Addr).add j)=some u:=by
 intro j u hj
 have ha:((ad w.heap.size 0):Addr).add j=(ad w.heap.size j):=by simp [Addr.add];omega
 rw [ha,cell_of_block (zD w #[x] t)]
 simpa using hj
theorem zvd (f:Nat->Value) (k:Nat):(List.range k).map f++[f k]=(List.range (k+1)).map f:=by rw [List.range_succ,List.map_append];rfl
theorem zeh.gE (h:zeh L t x A k wr) (hA:A.heap.size<=wr.heap.size) (hb:Bw wr y) (hz:(x.heap.size+1+1+1)<wr.heap.size):zeh L t x A k y:=by
 obtain⟨la,lc,h1,h2⟩:=h.blk
 exact⟨h.bel.trans (hb.mono (Nat.le_of_lt hz)),la,lc,(hb.block _ hz).trans h1,zA h2 hb⟩
theorem zeh.next {w1:World} {la la':Option Addr} {lc lc':Nat} (h:zeh L t x A k wr) (hz:(x.heap.size+1+1+1)<wr.heap.size) (hb:Bw wr y) (hk:wr.heap[(x.heap.size+1+1+1)]?=some (.cells #[iV 0,.slice la k lc] 49 (0,0))) (ho:wr.ownsRow (x.heap.size+1+1+1+1) 3 1 (.slice la k lc) k ((List.range k).map fun i=>iV (xB L t i)))
  (ho1:w1.ownsRow (x.heap.size+1+1+1+1) 3 1 (.slice la' (k+1) lc') (k+1) ((List.range k).map (fun i=>iV (xB L t i))++[iV (xB L t k)])) (hg:y.grownBy w1 (Value.ownBlock (.slice la k lc))):zeh L t x A (k+1) (w1.setCell (ad ((x.heap.size+1+1+1)) 1) (.slice la' (k+1) lc'))/\w1.heap[(x.heap.size+1+1+1)]?=some (.cells #[iV 0,.slice la k lc] 49 (0,0)):=by
 have hge:=yc ho
 have hzy:(x.heap.size+1+1+1)<y.heap.size:=Nat.lt_of_lt_of_le hz hb.size
 have hb1:w1.heap[(x.heap.size+1+1+1)]?=some (.cells #[iV 0,.slice la k lc] 49 (0,0)):=by
  rw [hg.block _ hzy (fun e=>by have:=hge _ e.symm;omega),hb.block _ hz];exact hk
 have gH:Below (x.heap.size+1+1+1) A w1:=((h.bel.trans (hb.mono (Nat.le_of_lt hz))).grown hg (Nat.le_of_lt hzy) fun q hq=>by have:=hge q hq;omega)
 refine⟨⟨gH.setCell (Nat.le_refl _) _,la',lc',?_,?_⟩,hb1⟩
 ·simp [World.setCell,Array.getElem?_modify,hb1]
 ·rw [zvd (fun i=>iV (xB L t i)) k] at ho1
  obtain⟨hl,hc⟩:=ho1
  refine⟨hl,?_⟩
  rcases hc with hc | ⟨g,cap,cur,hv,hg',hk',r⟩
  ·exact .inl hc
  ·exact .inr ⟨g,cap,cur,hv,hg',by rw [Below.heap_setCell _ _ _ _ (show g≠(x.heap.size+1+1+1) by omega)];exact hk',r⟩
def zzm (L:Lp) (t:Tg) (gU:Int) (x:World) (e:Ending) (w':World):Prop:=Bw x w'/\∃g tc,e=.returned (.agg #[iV (max gU (Xc L t)),.slice (pA g) L.b.length tc])/\x.heap.size<=g/\zK w' (.slice (pA g) L.b.length tc) (Uh L t)
set_option maxHeartbeats 8000000 in
theorem zac (p0 p1 p2 q0 q1 q2 r:Int) (L:Lp) (v0 v2:Value) (bb bo bc:Nat) (gU:Int) (x:World) (hm:zY L=true) (ht:yj ⟨p0,p1,p2,q0,q1,q2,r⟩=true) (hle1:1<=gU) (hle2:gU<=200) (hbb:bb<x.heap.size) (hbc:L.b.length<=bc) (hbm:bc<=9223372036854775807) (gQ:∀i,i<L.b.length->∀j,j<9->x.cell? (ad bb (bo+i*9+j))=(zP (zc L.b i))[j]?) :
  Calls prog 107 #[.agg #[v0,.slice (some (ad bb bo)) L.b.length bc,v2],.agg #[.int .i64 p0,.int .i64 p1,.int .i64 p2,.int .i64 q0,.int .i64 q1,.int .i64 q2,.int .i64 r],.int .i64 gU] x fun e w'=>zzm L ⟨p0,p1,p2,q0,q1,q2,r⟩ gU x e w':=by
 obtain⟨-,hl1,hl16,-⟩:=zw hm
 obtain⟨i0,hi,hz0,hz1,hz2⟩:=info_parts Tryz.j3
 have HB3:=z9 (below_alloc3 x (.cells #[v0,.slice (some (ad bb bo)) L.b.length bc,v2] 25) (.cells #[.int .i64 p0,.int .i64 p1,.int .i64 p2,.int .i64 q0,.int .i64 q1,.int .i64 q2,.int .i64 r] 28) (.cells #[.int .i64 0,.slice none 0 0] 49))
 have HS3:Hid ((((x.alloc (.cells #[v0,.slice (some (ad bb bo)) L.b.length bc,v2] 25)).alloc (.cells #[.int .i64 p0,.int .i64 p1,.int .i64 p2,.int .i64 q0,.int .i64 q1,.int .i64 q2,.int .i64 r] 28)).alloc (.cells #[.int .i64 0,.slice none 0 0] 49)).heap.size=(x.heap.size+1+1+1)):=by show _=_;simp
 have HZ3:Hid ((((x.alloc (.cells #[v0,.slice (some (ad bb bo)) L.b.length bc,v2] 25)).alloc (.cells #[.int .i64 p0,.int .i64 p1,.int .i64 p2,.int .i64 q0,.int .i64 q1,.int .i64 q2,.int .i64 r] 28)).alloc (.cells #[.int .i64 0,.slice none 0 0] 49)).heap[x.heap.size+1+1]?=some (.cells #[.int .i64 0,.slice none 0 0] 49 (0,0))):=by
  show _=_
  have e:((x.alloc (.cells #[v0,.slice (some (ad bb bo)) L.b.length bc,v2] 25)).alloc (.cells #[.int .i64 p0,.int .i64 p1,.int .i64 p2,.int .i64 q0,.int .i64 q1,.int .i64 q2,.int .i64 r] 28)).heap.size=x.heap.size+1+1:=by simp
  rw [<-e];exact zD _ _ _
 have HTB3:Hid ((((x.alloc (.cells #[v0,.slice (some (ad bb bo)) L.b.length bc,v2] 25)).alloc (.cells #[.int .i64 p0,.int .i64 p1,.int .i64 p2,.int .i64 q0,.int .i64 q1,.int .i64 q2,.int .i64 r] 28)).alloc (.cells #[.int .i64 0,.slice none 0 0] 49)).heap[x.heap.size+1]?=some (.cells #[.int .i64 p0,.int .i64 p1,.int .i64 p2,.int .i64 q0,.int .i64 q1,.int .i64 q2,.int .i64 r] 28 (0,0))):=by
  show _=_
  rw [Below.heap_alloc _ _ _ (by simp)]
  have e:(x.alloc (.cells #[v0,.slice (some (ad bb bo)) L.b.length bc,v2] 25)).heap.size=x.heap.size+1:=by simp
  rw [<-e];exact zD _ _ _
 have HST:Hid (zeh L ⟨p0,p1,p2,q0,q1,q2,r⟩ x (((x.alloc (.cells #[v0,.slice (some (ad bb bo)) L.b.length bc,v2] 25)).alloc (.cells #[.int .i64 p0,.int .i64 p1,.int .i64 p2,.int .i64 q0,.int .i64 q1,.int .i64 q2,.int .i64 r] 28)).alloc (.cells #[.int .i64 0,.slice none 0 0] 49)) 0 ((((x.alloc (.cells #[v0,.slice (some (ad bb bo)) L.b.length bc,v2] 25)).alloc (.cells #[.int .i64 p0,.int .i64 p1,.int .i64 p2,.int .i64 q0,.int .i64 q1,.int .i64 q2,.int .i64 r] 28)).alloc (.cells #[.int .i64 0,.slice none 0 0] 49)).alloc (.cells #[.int .i64 0,.slice none 0 0] 49))):=by
  refine⟨(Below.refl _ _).alloc (by rw [HS3.out];exact Nat.le_refl _) _,none,0,?_,⟨rfl,.inl ⟨rfl,rfl⟩⟩⟩
  have h:=zD (((x.alloc (.cells #[v0,.slice (some (ad bb bo)) L.b.length bc,v2] 25)).alloc (.cells #[.int .i64 p0,.int .i64 p1,.int .i64 p2,.int .i64 q0,.int .i64 q1,.int .i64 q2,.int .i64 r] 28)).alloc (.cells #[.int .i64 0,.slice none 0 0] 49)) #[.int .i64 0,.slice none 0 0] 49
  rw [HS3.out] at h
  exact h
 have HBO:=z9 gQ
 have HWL:=z9 (fun k=>zan (L:=L) (t:=⟨p0,p1,p2,q0,q1,q2,r⟩) ht k)
 have HW1:=z9 (fun k=>Zk (t:=⟨p0,p1,p2,q0,q1,q2,r⟩) (zc L.b k).o ht)
 have HAL:=z9 (zgx hm ht)
 have HPW:=z9 (fun op W=>zfy ⟨p0,p1,p2,q0,q1,q2,r⟩ op W)
 clear gQ hm ht
 go_enter func107,ntmps107
 go_wp2_with fail
 go_loopw [8,15] (fun ovv i wr=>∃k:Nat,k<=L.b.length/\i=.int .i64 k/\ovv=.int .i64 (xB L ⟨p0,p1,p2,q0,q1,q2,r⟩ k)/\zeh L ⟨p0,p1,p2,q0,q1,q2,r⟩ x (((x.alloc (.cells #[v0,.slice (some (ad bb bo)) L.b.length bc,v2] 25)).alloc (.cells #[.int .i64 p0,.int .i64 p1,.int .i64 p2,.int .i64 q0,.int .i64 q1,.int .i64 q2,.int .i64 r] 28)).alloc (.cells #[.int .i64 0,.slice none 0 0] 49)) k wr/\(x.heap.size+1+1+1+1)<=wr.heap.size) (fun _ i _=>L.b.length - (intOf i).toNat)
 case atStart=>exact⟨0,Nat.zero_le _,rfl,rfl,HST.out,by simp⟩
 case round =>
  clear HST
  obtain⟨k,hk,rfl,rfl,hone,hsz⟩:=hrel
  have HONE:=z9 hone
  have hbw:Bw x wr:=HB3.out.trans (hone.bel.mono (by omega))
  by_cases hkl:k<L.b.length
  ·have hki:(k:Int)<(L.b.length:Int):=by omega
   obtain⟨c0,c1,c2,c3,c4,c5,c6,c7,c8⟩:=V5 (fun j hj=>(zf hbw bb (bo+k*9+j) hbb).trans (HBO.out k hkl j hj))
   have hbz:bb<wr.heap.size:=by omega
   obtain⟨la,lc,hpk,gJ⟩:=hone.blk
   have HPK:=z9 hpk
   have HOWN:=z9 gJ
   have m0:wr.cell? (ad ((x.heap.size+1+1+1)) 0)=some (.int .i64 0):=by rw [cell_of_block hpk];rfl
   have m1:wr.cell? (ad ((x.heap.size+1+1+1)) 1)=some (.slice la k lc):=by rw [cell_of_block hpk];rfl
   have hwl:=HWL.out k
   have hw1:=HW1.out k
   have HNXW:Hid (xB L ⟨p0,p1,p2,q0,q1,q2,r⟩ (k+1)=xB L ⟨p0,p1,p2,q0,q1,q2,r⟩ k+zO ⟨p0,p1,p2,q0,q1,q2,r⟩ (zc L.b k).o):=ze9 _ _ _
   have HTGC:Hid (∀y,Below (x.heap.size+1+1+1) wr y->y.cell? (ad (x.heap.size+1) 0)=some (.int .i64 p0)/\y.cell? (ad (x.heap.size+1) 1)=some (.int .i64 p1)/\y.cell? (ad (x.heap.size+1) 2)=some (.int .i64 p2)/\y.cell? (ad (x.heap.size+1) 3)=some (.int .i64 q0)/\y.cell? (ad (x.heap.size+1) 4)=some (.int .i64 q1)/\y.cell? (ad (x.heap.size+1) 5)=some (.int .i64 q2)/\y.cell? (ad (x.heap.size+1) 6)=some (.int .i64 r)):=fun y hy=>by
    have hb:=((hy.block (x.heap.size+1) (by omega)).trans (hone.bel.block _ (by omega))).trans HTB3.out
    refine⟨?_,?_,?_,?_,?_,?_,?_⟩ <;> (rw [cell_of_block hb];rfl)
   have HNEXT:=z9 (fun y w1 la' lc' (hb:Bw wr y) ho1 hg=>zeh.next (w1:=w1) (la':=la') (lc':=lc') hone (by omega) hb hpk gJ ho1 hg)
   obtain⟨ov,hov⟩:∃ov,xB L ⟨p0,p1,p2,q0,q1,q2,r⟩ k=ov:=⟨_,rfl⟩
   rw [hov] at hwl HNXW HNEXT ⊢
   obtain⟨wt,hwt⟩:∃wt,zO ⟨p0,p1,p2,q0,q1,q2,r⟩ (zc L.b k).o=wt:=⟨_,rfl⟩
   have HPW2:=z9 (fun W=>HPW.out (zc L.b k).o W)
   rw [hwt] at HNXW hw1 HPW2
   generalize zc L.b k=xk at c0 c1 c2 c3 c4 c5 c6 c7 c8 HPW2
   obtain⟨o,xa,xb,ya,yb,ar,sp,pl,nn⟩:=xk
   simp only at c0 c1 c2 c3 c4 c5 c6 c7 c8 HPW2
   have HAS:Hid (Bw wr ((wr.alloc (.cells #[.int .i64 o,.int .i64 xa,.int .i64 xb,.int .i64 ya,.int .i64 yb,.int .i64 ar,.int .i64 sp,.int .i64 pl,.int .i64 nn] 41)).alloc (.cells #[.int .i64 ov] 3))):=below_alloc2 _ _ _
   have hpbz:(x.heap.size+1+1+1)<wr.heap.size:=by omega
   clear hov hwt hpk gJ hone hbw
   have hoc:∀(j:Nat) (u:Value),[(.int .i64 ov:Value)][j]?=some u->((wr.alloc (.cells #[.int .i64 o,.int .i64 xa,.int .i64 xb,.int .i64 ya,.int .i64 yb,.int .i64 ar,.int .i64 sp,.int .i64 pl,.int .i64 nn] 41)).alloc (.cells #[.int .i64 ov] 3)).cell? (((ad (wr.heap.size+1) 0):Addr).add j)=some u:=by
    have h:=zr8 (wr.alloc (.cells #[.int .i64 o,.int .i64 xa,.int .i64 xb,.int .i64 ya,.int .i64 yb,.int .i64 ar,.int .i64 sp,.int .i64 pl,.int .i64 nn] 41)) (.int .i64 ov) 3
    have e:(wr.alloc (.cells #[.int .i64 o,.int .i64 xa,.int .i64 xb,.int .i64 ya,.int .i64 yb,.int .i64 ar,.int .i64 sp,.int .i64 pl,.int .i64 nn] 41)).heap.size=wr.heap.size+1:=by simp
    rw [e] at h
    exact h
   have HOC:=z9 hoc
   have HSB:Hid (((wr.alloc (.cells #[.int .i64 o,.int .i64 xa,.int .i64 xb,.int .i64 ya,.int .i64 yb,.int .i64 ar,.int .i64 sp,.int .i64 pl,.int .i64 nn] 41)).alloc (.cells #[.int .i64 ov] 3)).heap[wr.heap.size]?=some (.cells #[.int .i64 o,.int .i64 xa,.int .i64 xb,.int .i64 ya,.int .i64 yb,.int .i64 ar,.int .i64 sp,.int .i64 pl,.int .i64 nn] 41 (0,0))):=by
    show _=_
    rw [Below.heap_alloc _ _ _ (by simp)]
    exact zD _ _ _
   have HOB:Hid (∀g,Value.ownBlock (.slice la k lc)=some g->g<wr.heap.size):=zB HOWN.out
   have HGE:=z9 (yc HOWN.out)
   have hsl:wr.heap.size<((wr.alloc (.cells #[.int .i64 o,.int .i64 xa,.int .i64 xb,.int .i64 ya,.int .i64 yb,.int .i64 ar,.int .i64 sp,.int .i64 pl,.int .i64 nn] 41)).alloc (.cells #[.int .i64 ov] 3)).heap.size:=by simp;omega
   clear hoc
   rename World=>wo
   have hne:¬wo.heap.size=(x.heap.size+1+1+1):=by omega
   go_wp2_with (at_builtin;refine wpList_append_own _ rfl (.tmp 20) (.tmp 22) 22 rfl (x.heap.size+1+1+1+1) 3 i0 (.int .i64 0) 1 8 underlying22 hi hz0 hz1 hz2 rfl (by decide) _ _ _ rfl (zA HOWN.out HAS.out) (ad (wo.heap.size+1) 0) 1 1 [.int .i64 ov] rfl rfl (by exact HOC.out) (by intro u hu;simp at hu;subst hu;rfl) (by unfold maxLen;omega) (by omega) (by simp;omega) ?_;intro v1 w1 gM gL hnil1;obtain⟨g1,gB,rfl,-,-,-,-⟩:=yx gM (.inr (by omega));have HO2:=z9 gM;have HG2:=z9 gL;clear gM gL hnil1 c0 c1 c2 c3 c4 c5 c6 c7 c8 m0 m1;have HNX:=z9 (HNEXT.out _ w1 _ _ HAS.out HO2.out HG2.out);have m0:w1.cell? (ad ((x.heap.size+1+1+1)) 0)=some (.int .i64 0):=(by rw [cell_of_block HNX.out.2];rfl);have m1:w1.cell? (ad ((x.heap.size+1+1+1)) 1)=some (.slice la k lc):=(by rw [cell_of_block HNX.out.2];rfl);have mf:w1.frozen? (ad ((x.heap.size+1+1+1)) 1)=false:=(by simp [World.frozen?,HNX.out.2]);have hb1:Below (x.heap.size+1+1+1) wo w1:=((HAS.out.mono (by omega)).grown HG2.out (by omega) (fun q hq=>by have:=HGE.out q hq;omega));obtain⟨t0,t1,t2,t3,t4,t5,t6⟩:=HTGC.out w1 hb1;have hsb:w1.heap[wo.heap.size]?=some (.cells #[.int .i64 o,.int .i64 xa,.int .i64 xb,.int .i64 ya,.int .i64 yb,.int .i64 ar,.int .i64 sp,.int .i64 pl,.int .i64 nn] 41 (0,0)):=((HG2.out.block _ hsl (fun e=>by have:=HOB.out _ e.symm;omega)).trans HSB.out);have s0:w1.cell? (ad wo.heap.size 0)=some (.int .i64 o):=(by rw [cell_of_block hsb];rfl);have hw1z:wo.heap.size<w1.heap.size:=(Array.getElem?_eq_some_iff.1 hsb).1;clear hb1 hsb)
   refine (HPW2.out _).mono ?_
   rintro e x3 ⟨rfl,hb3⟩
   have hzs:(x.heap.size+1+1+1)<(w1.setCell (ad ((x.heap.size+1+1+1)) 1) (.slice (pA g1) (k+1) gB)).heap.size:=by simp;omega
   have HN3:Hid (zeh L ⟨p0,p1,p2,q0,q1,q2,r⟩ x (((x.alloc (.cells #[v0,.slice (some (ad bb bo)) L.b.length bc,v2] 25)).alloc (.cells #[.int .i64 p0,.int .i64 p1,.int .i64 p2,.int .i64 q0,.int .i64 q1,.int .i64 q2,.int .i64 r] 28)).alloc (.cells #[.int .i64 0,.slice none 0 0] 49)) (k+1) x3):=HNX.out.1.gE (by simp;omega) hb3 hzs
   have hsz3:(x.heap.size+1+1+1+1)<=x3.heap.size:=Nat.le_trans hzs hb3.size
   clear hb3 hzs t0 t1 t2 t3 t4 t5 t6 s0 m0 m1 mf
   have hov:wrap64 (ov+wt)=ov+wt:=by unfold wrap64;omega
   go_wp2_with fail
   go_roundw
   case rel=>exact⟨k+1,by omega,by go_num,by rw [HNXW.out],HN3.out,hsz3⟩
   case measure=>simp [intOf];omega
  ·have e:k=L.b.length:=by omega
   subst e
   have hki:¬(L.b.length:Int)<(L.b.length:Int):=by omega
   obtain⟨la,lc,hpk,gJ⟩:=hone.blk
   have m0:wr.cell? (ad ((x.heap.size+1+1+1)) 0)=some (.int .i64 0):=by rw [cell_of_block hpk];rfl
   have m1:wr.cell? (ad ((x.heap.size+1+1+1)) 1)=some (.slice la L.b.length lc):=by rw [cell_of_block hpk];rfl
   have mf0:wr.frozen? (ad ((x.heap.size+1+1+1)) 0)=false:=by simp [World.frozen?,hpk]
   have hrk:wr.heap[x.heap.size+1+1]?=some (.cells #[.int .i64 0,.slice none 0 0] 49 (0,0)):=(hone.bel.block _ (by omega)).trans HZ3.out
   have r0:wr.cell? (ad (x.heap.size+1+1) 0)=some (.int .i64 0):=by rw [cell_of_block hrk];rfl
   have r1:wr.cell? (ad (x.heap.size+1+1) 1)=some (.slice none 0 0):=by rw [cell_of_block hrk];rfl
   have rf0:wr.frozen? (ad (x.heap.size+1+1) 0)=false:=by simp [World.frozen?,hrk]
   have rf1:wr.frozen? (ad (x.heap.size+1+1) 1)=false:=by simp [World.frozen?,hrk]
   have HOWN:=z9 gJ
   have HBW:=z9 hbw
   obtain⟨ov,hov⟩:∃ov,xB L ⟨p0,p1,p2,q0,q1,q2,r⟩ L.b.length=ov:=⟨_,rfl⟩
   have HALW:Hid (Xc L ⟨p0,p1,p2,q0,q1,q2,r⟩=ov):=hov
   have hal:=HAL.out
   rw [HALW.out] at hal
   rw [hov]
   have HEND:Hid (∀mx,mx=max gU ov->zzm L ⟨p0,p1,p2,q0,q1,q2,r⟩ gU x (.returned (.agg #[.int .i64 mx,.slice la L.b.length lc])) (((wr.setCell (ad ((x.heap.size+1+1+1)) 0) (.int .i64 mx)).setCell (ad (x.heap.size+1+1) 0) (.int .i64 mx)).setCell (ad (x.heap.size+1+1) 1) (.slice la L.b.length lc))/\(((wr.setCell (ad ((x.heap.size+1+1+1)) 0) (.int .i64 mx)).setCell (ad (x.heap.size+1+1) 0) (.int .i64 mx)).setCell (ad (x.heap.size+1+1) 1) (.slice la L.b.length lc)).cell? (ad (x.heap.size+1+1) 0)=some (.int .i64 mx)/\(((wr.setCell (ad ((x.heap.size+1+1+1)) 0) (.int .i64 mx)).setCell (ad (x.heap.size+1+1) 0) (.int .i64 mx)).setCell (ad (x.heap.size+1+1) 1) (.slice la L.b.length lc)).cell? (ad (x.heap.size+1+1) 1)=some (.slice la L.b.length lc)):=by
    intro mx hmx
    have hrk2:(wr.setCell (ad ((x.heap.size+1+1+1)) 0) (.int .i64 mx)).heap[x.heap.size+1+1]?=some (.cells #[.int .i64 0,.slice none 0 0] 49 (0,0)):=by
     rw [Below.heap_setCell _ _ _ _ (show x.heap.size+1+1≠(x.heap.size+1+1+1) by omega)];exact hrk
    obtain⟨s0,s1⟩:=ZQ (a':=.int .i64 mx) (b':=.slice la L.b.length lc) hrk2
    obtain⟨g,cap,hv,hg,hn,hmx2,gI⟩:=yx gJ (.inr (by omega))
    injection hv with hv1 hv2 hv3
    subst hv1;subst hv3
    refine⟨⟨((HBW.out.setCell (by show x.heap.size<=(x.heap.size+1+1+1);omega) _).setCell (by show x.heap.size<=x.heap.size+1+1;omega) _).setCell (by show x.heap.size<=x.heap.size+1+1;omega) _,g,lc,by rw [HALW.out,hmx],by omega,?_⟩,s0,s1⟩
    have hr:=((gI.gF (a:=(ad ((x.heap.size+1+1+1)) 0)) (by show g≠(x.heap.size+1+1+1);omega) (.int .i64 mx)).gF (a:=(ad (x.heap.size+1+1) 0)) (by show g≠x.heap.size+1+1;omega) (.int .i64 mx)).gF (a:=(ad (x.heap.size+1+1) 1)) (by show g≠x.heap.size+1+1;omega) (.slice (pA g) L.b.length lc)
    have hlen:(Uh L ⟨p0,p1,p2,q0,q1,q2,r⟩).length=L.b.length:=by unfold Uh;simp
    refine⟨some (ad g 0),lc,by rw [hlen],by rw [hlen];exact hn,hmx2,fun i hi=>?_,fun _=>⟨g,0,rfl,hr.lt,fun i hi=>?_⟩⟩
    ·rw [hlen] at hi
     rw [Xr hi]
     have:=HWL.out i
     omega
    ·rw [hlen] at hi
     rw [Xr hi,Nat.zero_add,hr.cell hi]
     exact congrArg some (Y5 (fun i=>.int .i64 (xB L ⟨p0,p1,p2,q0,q1,q2,r⟩ i)) L.b.length i hi)
   clear hov hpk hrk gJ hone hbw
   rename World=>wo
   go_wp2_with fail
   all_goals first
    | (obtain⟨h1,h2,h3⟩:=HEND.out gU (by omega);exact bodyPost_ret (v:=.agg #[.int .i64 gU,.slice la L.b.length lc]) (by simp [results,results107,go_sem,h2,h3]) rfl h1)
    | (obtain⟨h1,h2,h3⟩:=HEND.out (max gU ov) rfl;exact bodyPost_ret (v:=.agg #[.int .i64 (max gU ov),.slice la L.b.length lc]) (by simp [results,results107,go_sem,h2,h3]) rfl h1)
    | (obtain⟨h1,h2,h3⟩:=HEND.out ov (by omega);exact bodyPost_ret (v:=.agg #[.int .i64 ov,.slice la L.b.length lc]) (by simp [results,results107,go_sem,h2,h3]) rfl h1)
end Go.Proofs.YtjoapiafpahihabGreat
