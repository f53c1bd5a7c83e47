import Derived.Test.YtjoapiafpahihabGreatYields
import Derived.Test.YtjoapiafpahihabGreatSchedOne
import Derived.Test.YtjoapiafpahihabGreatRegsE
import Derived.Shelf.Abstract
import Derived.OwnWalkIn
import Derived.TacticsInMore
import Derived.LoopNIn
import Derived.LoopIn
import Derived.Test.YtjoapiafpahihabGreatRef11A
import Derived.Test.YtjoapiafpahihabGreatBuildMakes
set_option maxHeartbeats 20000000
namespace Go.Proofs.YtjoapiafpahihabGreat
open Go.Proofs.Tryz
open Go.RowKit Go.Joins
set_option linter.unusedVariables false
set_option linter.unusedSimpArgs false
set_option maxRecDepth 8192
variable {A B x y w V:World} {v k0 k1 kv ov c:Value} {P:Int} {T:List Int} {L:Lp} {t:Tg} {g n:Nat} {e ta tb tc:TypeId} {K:Kn} {o:Obj}
section
attribute [local go_sem] Oper.semAt_some
theorem zK.ck {zs:List Int} (h:zK A v zs) (k:Ck A B):zK B v zs:=by
 obtain⟨a,cap,e,h1,h2,h3,h4⟩:=h
 refine⟨a,cap,e,h1,h2,h3,fun hp=>?_⟩
 obtain⟨b,off,e2,h5,h6⟩:=h4 hp
 exact⟨b,off,e2,Nat.lt_of_lt_of_le h5 k.size,fun i hi=>k.cell _ _ (h6 i hi)⟩
theorem YI.ck (h:YI A v P T) (k:Ck A B):YI B v P T:=by
 obtain⟨tv,e,h1⟩:=h
 exact⟨tv,e,h1.ck k⟩
def zrh (x:Int × Option Addr × Nat × Nat):Value:=.agg #[iV x.1,.slice x.2.1 x.2.2.1 x.2.2.2]
def zi3 (L:Lp) (t:Tg) (la:Bool) (x:Int × Option Addr × Nat × Nat) (A:World):Prop :=
 ∃T,YI A (zrh x) x.1 T/\zV L t x.1 T=true/\x.1<=Xc L t/\(la=true->zaf L t x.1 T=true)
theorem zi3.ck {la:Bool} {x:Int × Option Addr × Nat × Nat} (h:zi3 L t la x A) (k:Ck A B):zi3 L t la x B:=by
 obtain⟨T,h1,h2⟩:=h
 exact⟨T,h1.ck k,h2⟩
def zgt:Prop:=∀(v:Value) (t:Tg) (L:Lp) (gU:Int) (w:World),zE w v L->zY L=true->yj t=true->1<=gU->gU<=200 ->
 Calls prog 108 #[v,.agg t.cells,iV gU] w fun e w'=>Bw w w'/\∃P ta tc T,e=.returned (.tuple #[.agg #[iV P,.slice ta T.length tc],iV 0])/\zK w' (.slice ta T.length tc) T/\zV L t P T=true/\gU<=P/\P<=max gU (Xc L t)
def zwy:Prop:=∀(v:Value) (t:Tg) (L:Lp) (gU:Int) (w:World),zE w v L->zY L=true->yj t=true->1<=gU->gU<=200->Calls prog 107 #[v,.agg t.cells,iV gU] w fun e w'=>zzm L t gU w e w'
theorem zs8 (ht:yj t=true) (hP:Xc L t<=P):zaf L t P (Uh L t)=true:=by
 unfold zaf
 exact zL fun i hi=>decide_eq_true (zk9 ht hP i hi)
theorem zrl (hM:zgt) (hO:zwy) (p0 p1 p2 q0 q1 q2 r:Int) (L:Lp) (a0 a1 a2:Option Addr) (gA gB gC:Nat) (w:World) (b1 b2:Nat) (hm:zY L=true) (ht:yj ⟨p0,p1,p2,q0,q1,q2,r⟩=true)
  (hL:zE w ((lv L a0 a1 a2 gA gB gC)) L)
  (ay:w.heap[b1]?=some (.cells #[.slice a0 L.l.length gA,.slice a1 L.b.length gB,.slice a2 L.o.length gC] 25 (0,0))) (ai:w.heap[b2]?=some (.cells #[iV p0,iV p1,iV p2,iV q0,iV q1,iV q2,iV r] 28 (0,0))) :
  znw prog 106 #[.pointer (pA b1),.pointer (pA b2)] zrh (zi3 L ⟨p0,p1,p2,q0,q1,q2,r⟩) w:=by
 intro n l J0 J1 Jx W hJw hJg hY h0
 have aY:=zgx hm ht
 have dC:=z9 (fun W (h:zE W ((lv L a0 a1 a2 gA gB gC)) L) lst h1 h2=>hM _ ⟨p0,p1,p2,q0,q1,q2,r⟩ L lst W h hm ht h1 h2)
 have dE:=z9 (fun W (h:zE W ((lv L a0 a1 a2 gA gB gC)) L)=>hO _ ⟨p0,p1,p2,q0,q1,q2,r⟩ L 1 W h hm ht (by omega) (by omega))
 have cE:Hid (∀A,J0 A->zE A ((lv L a0 a1 a2 gA gB gC)) L):=fun A h=>hL.gE (hJw A h)
 have ag:Hid (∀A,J0 A->(A.cell? (ad b1 0)=some (.slice a0 L.l.length gA)/\A.cell? (ad b1 1)=some (.slice a1 L.b.length gB)/\A.cell? (ad b1 2)=some (.slice a2 L.o.length gC))/\A.cell? (ad b2 0)=sI p0/\A.cell? (ad b2 1)=sI p1/\A.cell? (ad b2 2)=sI p2/\A.cell? (ad b2 3)=sI q0/\A.cell? (ad b2 4)=sI q1/\A.cell? (ad b2 5)=sI q2/\A.cell? (ad b2 6)=sI r):=fun A h=>by
  have h1:=((hJw A h).block b1 (Array.getElem?_eq_some_iff.1 ay).1).trans ay
  have h2:=((hJw A h).block b2 (Array.getElem?_eq_some_iff.1 ai).1).trans ai
  refine⟨⟨?_,?_,?_⟩,?_,?_,?_,?_,?_,?_,?_⟩
  all_goals first | (rw [cell_of_block h1];rfl) | (rw [cell_of_block h2];rfl)
 obtain⟨AW,aQ⟩:∃x,Xc L ⟨p0,p1,p2,q0,q1,q2,r⟩=x:=⟨_,rfl⟩
 have aZ:=z9 aQ
 have bF:=z9 hJg
 have HY:=z9 hY
 have cB:=z9 h0
 have dJ:=z9 (zg6 (P:=AW) hm ht (by rw [aQ];omega) (by omega))
 have dK:=z9 (zs8 (P:=AW) ht (by rw [aQ];omega))
 rw [aQ] at aY
 obtain⟨⟨l0,l1,l2⟩,t0,t1,t2,t3,t4,t5,t6⟩:=ag.out _ h0
 have ee:=(Array.getElem?_eq_some_iff.1 ay).1
 have ef:=(Array.getElem?_eq_some_iff.1 ai).1
 have eq:=(hJw _ h0).size
 have el:=z9 hJw
 clear hm ht hL ay ai hJw hJg hY h0 aQ
 refine callsIn_of_wp func106 rfl trivial ?_ rfl
 simp only [ntmps106,List.size_toArray,List.length_cons,List.length_nil,Nat.reduceAdd,Nat.reduceSub,Array.replicate_succ,Array.replicate_zero,List.push_toArray,List.append_toArray,List.nil_append,List.cons_append]
 gi_wp2_with fail
 refine XQ (dE.out _ (cE.out _ cB.out)) ?_
 rintro e x1 ⟨hb,g,tc,rfl,hg,hI⟩
 have ae:=z9 hb
 have dq:=z9 hI
 have cN:max 1 AW=AW:=by omega
 rw [aZ.out,cN]
 clear l0 l1 l2 t0 t1 t2 t3 t4 t5 t6 hb hI cN
 obtain⟨Wa,bh⟩:∃Wa,x1.alloc (.cells #[iV AW,.slice (pA g) L.b.length tc] 49)=Wa:=⟨_,rfl⟩
 have cL:=z9 bh
 have dy:Hid (J0 Wa):=by
  show J0 Wa
  rw [<-bh];exact bF.out _ _ (bF.out _ _ cB.out ae.out) (below_alloc1 _ _)
 have ce:Hid (∀A,Ck Wa A->A.cell? (ad x1.heap.size 0)=sI AW/\A.cell? (ad x1.heap.size 1)=some (.slice (pA g) L.b.length tc)):=fun A h=>by
  have hb:Wa.heap[x1.heap.size]?=some (.cells #[iV AW,.slice (pA g) L.b.length tc] 49 (0,0)):=by rw [<-cL.out];exact zD _ _ _
  refine⟨h.cell _ _ ?_,h.cell _ _ ?_⟩ <;> (rw [cell_of_block hb];rfl)
 have aC:Hid (∀k A,J0 A->Ck Wa A->YieldAt Fence.wide k prog l #[.agg #[iV AW,.slice (pA g) L.b.length tc]] A fun e B=>(e=.returned (.bool true)/\J1 B)\/(e=.returned (.bool false)/\Jx B)):=fun k A hj hc=>by
  refine (HY.out k true (AW,some (ad g 0),L.b.length,tc) A hj ⟨_,YI.ck (A:=Wa) ⟨_,rfl,?_⟩ hc,dJ.out,Int.le_of_eq aZ.out.symm,fun _=>dK.out⟩).mono fun e B h=>h.imp (fun h=>⟨h.1,h.2.2.2 rfl⟩) id
  rw [<-cL.out];exact dq.out.gE (below_alloc1 _ _)
 have ey:x1.heap.size<Wa.heap.size:=by rw [<-bh];simp
 have bD:Hid (Ck Wa Wa):=Ck.gE (Below.refl _ _)
 have dG:=z9 (fun (wr:World) (lst:Int) (h:J0 wr) h1 h2=>dC.out wr (cE.out wr h) lst h1 h2)
 have bR:=aY.1
 have dP:=aY.2
 clear aY
 gi_wp2_with fail
 clear bh
 gi_loopw [5] (fun lv wr=>∃lst:Int,lv=iV lst/\1<=lst/\lst<=AW/\J0 wr/\Ck Wa wr) (fun lv _=>(AW - intOf lv).toNat)
 case atStart=>exact⟨1,rfl,Int.le_refl _,bR,dy.out,bD.out⟩
 case round =>
  obtain⟨lst,rfl,dS,eu,hj,bz⟩:=hrel
  have HJ:=z9 hj
  have cg:=z9 bz
  obtain⟨m0,m1⟩:=ce.out _ bz
  obtain⟨⟨l0,l1,l2⟩,t0,t1,t2,t3,t4,t5,t6⟩:=ag.out _ hj
  have hz:=bz.size
  clear hj bz
  by_cases hlt:lst<AW
  ·gi_wp2_with fail
   refine XQ (dG.out wr lst HJ.out dS (by omega)) ?_
   rintro e x2 ⟨hb,P,ta,tc2,T,rfl,bO,ah,de,bV⟩
   rw [aZ.out] at bV
   have bZ:=z9 hb
   have ek:=z9 bO
   have aN:=z9 ah
   have dV:P<=AW:=by omega
   obtain⟨Wp,bj⟩:∃Wp,x2.alloc (.cells #[iV P,.slice ta T.length tc2] 49)=Wp:=⟨_,rfl⟩
   have ep:=z9 bj
   have bS:Bw wr Wp:=by rw [<-bj];exact hb.trans ((below_alloc1 _ _).mono hb.size)
   have cC:Hid (J0 Wp):=bF.out _ _ HJ.out bS
   have bE:Hid (Ck Wa Wp):=cg.out.trans (Ck.gE bS)
   have bH:Hid (Wp.heap[x2.heap.size]?=some (.cells #[iV P,.slice ta T.length tc2] 49 (0,0))):=by show _=_;rw [<-bj];exact zD _ _ _
   have dH:Hid (YI Wp (.agg #[iV P,.slice ta T.length tc2]) P T):=by
    refine⟨_,rfl,?_⟩
    rw [<-bj];exact bO.gE (below_alloc1 _ _)
   have ed:=hb.size
   clear m0 m1 l0 l1 l2 t0 t1 t2 t3 t4 t5 t6 hb bO ah bS bV
   obtain⟨m0,m1⟩:=ce.out _ bE.out
   have n0:Wp.cell? (ad x2.heap.size 0)=sI P:=by rw [cell_of_block bH.out];rfl
   have n1:Wp.cell? (ad x2.heap.size 1)=some (.slice ta T.length tc2):=by rw [cell_of_block bH.out];rfl
   by_cases hge:AW<=P
   ·obtain⟨fn,tmps,assign,body,hy,hR⟩:=aC.out (n - 1) Wp cC.out bE.out
    have HR:=z9 hR
    clear hR
    gi_wp2_with fail
    refine⟨fun h=>absurd h (by simp [Fence.wide]),HR.out.mono ?_⟩
    rintro e W3 (⟨rfl,h⟩ | ⟨rfl,h⟩)
    ·gi_wp2_with fail
     go_end0
     exact⟨⟨_,rfl⟩,.inl h⟩
    ·gi_wp2_with fail
     go_end0
     exact⟨⟨_,rfl⟩,.inr h⟩
   ·obtain⟨fn,tmps,assign,body,hy,hR⟩:=HY.out (n - 1) false (P,ta,T.length,tc2) Wp cC.out ⟨_,dH.out,aN.out,by rw [aZ.out];exact dV,fun h=>absurd h (by simp)⟩
    have HR:=z9 hR
    clear hR
    dsimp only [zrh] at hy
    gi_wp2_with fail
    refine⟨fun h=>absurd h (by simp [Fence.wide]),HR.out.mono ?_⟩
    rintro e W3 (⟨rfl,bq,cW,-⟩ | ⟨rfl,h⟩)
    ·have di:=z9 bq
     have dx:Hid (J0 W3):=by show J0 W3;simpa using cW
     have k0:W3.cell? (ad x2.heap.size 0)=sI P:=bq.cell _ _ n0
     have eC:x2.heap.size<W3.heap.size:=Nat.lt_of_lt_of_le (Array.getElem?_eq_some_iff.1 bH.out).1 bq.size
     clear bq cW m0 m1 n0 n1 hy
     gi_wp2_with fail
     go_roundw
     case rel=>exact⟨P+1,by go_num,by omega,by omega,dx.out,bE.out.trans di.out⟩
     case measure=>simp [intOf];omega
    ·gi_wp2_with fail
     refine bodyPost_ret (results_none rfl _ _ _) rfl ?_
     exact⟨⟨_,rfl⟩,.inr h⟩
  ·obtain⟨fn,tmps,assign,body,hy,hR⟩:=aC.out (n - 1) wr HJ.out cg.out
   have HR:=z9 hR
   clear hR
   gi_wp2_with fail
   refine⟨fun h=>absurd h (by simp [Fence.wide]),HR.out.mono ?_⟩
   rintro e W3 (⟨rfl,h⟩ | ⟨rfl,h⟩)
   ·gi_wp2_with fail
    go_end0
    exact⟨⟨_,rfl⟩,.inl h⟩
   ·gi_wp2_with fail
    go_end0
    exact⟨⟨_,rfl⟩,.inr h⟩
theorem zrm (v0 v1 v2 p0 p1 p2 q0 q1 q2 r:Value) (w:World):Calls prog 54 #[.agg #[v0,v1,v2],.agg #[p0,p1,p2,q0,q1,q2,r]] w fun e w'=>e=.returned (.func (.func 106) #[] #[.pointer (pA w.heap.size),.pointer (pA (w.heap.size+1))])/\w'=(w.alloc (.cells #[v0,v1,v2] 25)).alloc (.cells #[p0,p1,p2,q0,q1,q2,r] 28):=by
 go_enter func54,ntmps54
 go_wp2_with fail
 go_ret
 exact⟨rfl,rfl⟩
end
theorem zgk {a b d a' b' d':Value} (h:x.heap[g]?=some (.cells #[a,b,d] e (0,0))) :
  (((x.setCell (ad g 0) a').setCell (ad g 1) b').setCell (ad g 2) d').cell? (ad g 0)=some a'/\(((x.setCell (ad g 0) a').setCell (ad g 1) b').setCell (ad g 2) d').cell? (ad g 1)=some b'/\(((x.setCell (ad g 0) a').setCell (ad g 1) b').setCell (ad g 2) d').cell? (ad g 2)=some d':=by
 have hb:(((x.setCell (ad g 0) a').setCell (ad g 1) b').setCell (ad g 2) d').heap[g]?=some (.cells #[a',b',d'] e (0,0)):=by simp [World.setCell,Array.getElem?_modify,h]
 refine⟨?_,?_,?_⟩ <;> (rw [cell_of_block hb];rfl)
theorem xF.set {i:Nat} {cs:Array Value} {z:Nat × Nat} (h:xF x v K) (hb:x.heap[g]?=some (.cells cs e z)) (hc:cs.size<10) (u:Value):xF (x.setCell (ad g i) u) v K:=by
 obtain⟨kv,e1,a,cap,e2,h1,h2,h3⟩:=h
 refine⟨kv,e1,a,cap,e2,h1,h2,fun hp=>?_⟩
 obtain⟨b,off,e3,h4,h5⟩:=h3 hp
 have dU:b≠g:=fun hh=>by
  subst hh
  have h6:=h5 0 hp 9 (by omega)
  rw [show (yS (zp K.ops 0))[9]?=some (iV (zp K.ops 0).nn) from rfl] at h6
  have h7:(x.cell? (ad b (off+0*10+9))).isSome:=by rw [h6];rfl
  simp [World.cell?,hb] at h7
  omega
 refine⟨b,off,e3,by simpa [World.setCell] using h4,fun i hi j hj=>?_⟩
 rw [Zg (Below.heap_setCell _ _ _ _ dU)]
 exact h5 i hi j hj
theorem zK.set {c:Nat} {b:Nat} (h:zK y (.slice (pA g) n c) T) (hb:b≠g) (i:Nat) (v:Value):zK (y.setCell (ad b i) v) (.slice (pA g) n c) T:=by
 obtain⟨a,cap,e,h1,h2,h3,h4⟩:=h
 refine⟨a,cap,e,h1,h2,h3,fun hp=>?_⟩
 obtain⟨b',off,e2,h5,h6⟩:=h4 hp
 injection e with e3
 rw [e2] at e3
 injection e3 with e3
 injection e3 with e3 e4
 refine⟨b',off,e2,by simpa [World.setCell] using h5,fun i hi=>?_⟩
 rw [Zg (Below.heap_setCell _ _ _ _ (show b'≠b by omega))]
 exact h6 i hi
def zgq:Prop:=∀(v pv dv:Value) (t:Tg) (L:Lp) (P:Int) (T D:List Int) (w:World),zE w v L->YI w pv P T->zK w dv D->zV L t P T=true->xj L t D=true->Calls prog 109 #[v,.agg t.cells,pv,dv] w (zcb L t P T D w)
def zza (L:Lp) (t:Tg) (P:Int) (T:List Int) (w:World) (e:Ending) (w':World):Prop :=
 Bw w w'/\∃k0 k1 kv c,e=.returned (.tuple #[.agg #[iV k0,iV k1,kv],iV c]) /\
  ((c=1/\kv=.slice none 0 0/\¬(5*(L.b.length:Int)<=t.r/\zaf L t P T=true)) \/
   (c=0/\∃D,xF w' (.agg #[iV k0,iV k1,kv]) (zR L t P T D)/\zQ L t (zR L t P T D) (yI L.b.length)=true))
theorem zhg (hR:zgu) (hE:zgq) (p0 p1 p2 q0 q1 q2 r:Int) (L:Lp) (a0 a1 a2:Option Addr) (gA gB gC:Nat) (P:Int) (T:List Int) (ta:Option Addr) (tl tc:Nat) (w:World)
  (hL:zE w ((lv L a0 a1 a2 gA gB gC)) L) (hP:YI w (.agg #[iV P,.slice ta tl tc]) P T) (ah:zV L ⟨p0,p1,p2,q0,q1,q2,r⟩ P T=true) :
  Calls prog 55 #[(lv L a0 a1 a2 gA gB gC),(tv p0 p1 p2 q0 q1 q2 r),.agg #[iV P,.slice ta tl tc]] w fun e w'=>zza L ⟨p0,p1,p2,q0,q1,q2,r⟩ P T w e w':=by
 have HL:=z9 hL
 have HP:=z9 hP
 have dI:=z9 (fun W (hW:Bw w W)=>hR _ _ ⟨p0,p1,p2,q0,q1,q2,r⟩ L P T W (HL.out.gE hW) (HP.out.gE hW) ah)
 have dn:=z9 (fun W dv D (hW:Bw w W) (hD:zK W dv D) aV=>hE _ _ dv ⟨p0,p1,p2,q0,q1,q2,r⟩ L P T D W (HL.out.gE hW) (HP.out.gE hW) hD ah aV)
 have aN:=z9 ah
 obtain⟨W4,aF⟩:∃W4,(((w.alloc (.cells #[.slice a0 L.l.length gA,.slice a1 L.b.length gB,.slice a2 L.o.length gC] 25)).alloc (.cells #[iV p0,iV p1,iV p2,iV q0,iV q1,iV q2,iV r] 28)).alloc (.cells #[iV P,.slice ta tl tc] 49)).alloc (.cells #[iV 0,iV 0,.slice none 0 0] 31)=W4:=⟨_,rfl⟩
 have aL:Hid (Bw w W4):=by show Below _ _ _;rw [<-aF];exact ((below_alloc3 _ _ _ _).alloc (by simp;omega) _)
 have cH:Hid (W4.heap.size=w.heap.size+4):=by show _=_;rw [<-aF];simp
 have e1:(w.alloc (.cells #[.slice a0 L.l.length gA,.slice a1 L.b.length gB,.slice a2 L.o.length gC] 25)).heap.size=w.heap.size+1:=by simp
 have e2:((w.alloc (.cells #[.slice a0 L.l.length gA,.slice a1 L.b.length gB,.slice a2 L.o.length gC] 25)).alloc (.cells #[iV p0,iV p1,iV p2,iV q0,iV q1,iV q2,iV r] 28)).heap.size=w.heap.size+1+1:=by simp
 have e3:(((w.alloc (.cells #[.slice a0 L.l.length gA,.slice a1 L.b.length gB,.slice a2 L.o.length gC] 25)).alloc (.cells #[iV p0,iV p1,iV p2,iV q0,iV q1,iV q2,iV r] 28)).alloc (.cells #[iV P,.slice ta tl tc] 49)).heap.size=w.heap.size+1+1+1:=by simp
 have ag:Hid (∀y,Bw W4 y->((y.cell? (ad w.heap.size 0)=some (.slice a0 L.l.length gA)/\y.cell? (ad w.heap.size 1)=some (.slice a1 L.b.length gB)/\y.cell? (ad w.heap.size 2)=some (.slice a2 L.o.length gC))/\(y.cell? (ad (w.heap.size+1) 0)=sI p0/\y.cell? (ad (w.heap.size+1) 1)=sI p1/\y.cell? (ad (w.heap.size+1) 2)=sI p2/\y.cell? (ad (w.heap.size+1) 3)=sI q0/\y.cell? (ad (w.heap.size+1) 4)=sI q1/\y.cell? (ad (w.heap.size+1) 5)=sI q2/\y.cell? (ad (w.heap.size+1) 6)=sI r)/\(y.cell? (ad (w.heap.size+1+1) 0)=sI P/\y.cell? (ad (w.heap.size+1+1) 1)=some (.slice ta tl tc)))/\y.heap[w.heap.size+1+1+1]?=some (.cells #[iV 0,iV 0,.slice none 0 0] 31 (0,0))):=fun y hy=>by
  have hs:=cH.out
  have b3:y.heap[w.heap.size+1+1+1]?=some (.cells #[iV 0,iV 0,.slice none 0 0] 31 (0,0)):=by
   rw [hy.block _ (by omega),<-aF,<-e3];exact zD _ _ _
  have b2:y.heap[w.heap.size+1+1]?=some (.cells #[iV P,.slice ta tl tc] 49 (0,0)):=by
   rw [hy.block _ (by omega),<-aF,Below.heap_alloc _ _ _ (by omega),<-e2];exact zD _ _ _
  have b1:y.heap[w.heap.size+1]?=some (.cells #[iV p0,iV p1,iV p2,iV q0,iV q1,iV q2,iV r] 28 (0,0)):=by
   rw [hy.block _ (by omega),<-aF,Below.heap_alloc _ _ _ (by omega),Below.heap_alloc _ _ _ (by omega),<-e1];exact zD _ _ _
  have b0:y.heap[w.heap.size]?=some (.cells #[.slice a0 L.l.length gA,.slice a1 L.b.length gB,.slice a2 L.o.length gC] 25 (0,0)):=by
   rw [hy.block _ (by omega),<-aF,Below.heap_alloc _ _ _ (by omega),Below.heap_alloc _ _ _ (by omega),Below.heap_alloc _ _ _ (by omega)];exact zD _ _ _
  refine⟨⟨⟨?_,?_,?_⟩,⟨?_,?_,?_,?_,?_,?_,?_⟩,?_,?_⟩,b3⟩
  all_goals first | (rw [cell_of_block b0];rfl) | (rw [cell_of_block b1];rfl) | (rw [cell_of_block b2];rfl)
 have bJ:Hid (∀y,Bw W4 y->w.heap.size+4<=y.heap.size):=fun y hy=>by have:=hy.size;have:=cH.out;omega
 obtain⟨⟨⟨l0,l1,l2⟩,⟨t0,t1,t2,t3,t4,t5,t6⟩,s0,s1⟩,-⟩:=ag.out W4 (Below.refl _ _)
 have eh:=bJ.out W4 (Below.refl _ _)
 clear hL hP ah e1 e2 e3
 go_enter func55,ntmps55
 go_wp2_with fail
 refine (dI.out W4 aL.out).mono ?_
 rintro e x1 ⟨hb,da,dl,dc,c,rfl,bW⟩
 have ae:=z9 hb
 clear hb l0 l1 l2 t0 t1 t2 t3 t4 t5 t6 s0 s1 eh aF
 obtain⟨⟨⟨l0,l1,l2⟩,⟨t0,t1,t2,t3,t4,t5,t6⟩,s0,s1⟩,ab⟩:=ag.out x1 ae.out
 have ee:=bJ.out x1 ae.out
 rcases bW with ⟨rfl,rfl,aW⟩ | ⟨rfl,D,hD,aV,aH⟩
 ·have k0:x1.cell? (ad (w.heap.size+1+1+1) 0)=sI 0:=by rw [cell_of_block ab];rfl
  have k1:x1.cell? (ad (w.heap.size+1+1+1) 1)=sI 0:=by rw [cell_of_block ab];rfl
  have k2:x1.cell? (ad (w.heap.size+1+1+1) 2)=some (.slice none 0 0):=by rw [cell_of_block ab];rfl
  have f0:x1.frozen? (ad (w.heap.size+1+1+1) 0)=false:=by simp [World.frozen?,ab]
  have f1:x1.frozen? (ad (w.heap.size+1+1+1) 1)=false:=by simp [World.frozen?,ab]
  have f2:x1.frozen? (ad (w.heap.size+1+1+1) 2)=false:=by simp [World.frozen?,ab]
  have HF:Hid (∀y,Bw w y->zza L ⟨p0,p1,p2,q0,q1,q2,r⟩ P T w (.returned (.tuple #[.agg #[iV 0,iV 0,.slice none 0 0],iV 1])) y):=fun y hy=>⟨hy,0,0,_,1,rfl,.inl ⟨rfl,rfl,aW⟩⟩
  have af:Hid (Bw w x1):=aL.out.trans (ae.out.mono aL.out.size)
  have aB:=z9 ab
  have bK:=z9 (zgk (a':=iV 0) (b':=iV 0) (d':=.slice none 0 0) ab)
  clear aW ab
  go_wp2_with fail
  obtain⟨g0,g1,g2⟩:=bK.out
  exact bodyPost_ret (v:=.tuple #[.agg #[iV 0,iV 0,.slice none 0 0],iV 1]) (by simp [results,results55,go_sem,g0,g1,g2]) rfl (HF.out _ (((af.out.setCell (by show w.heap.size<=w.heap.size+1+1+1;omega) _).setCell (by show w.heap.size<=w.heap.size+1+1+1;omega) _).setCell (by show w.heap.size<=w.heap.size+1+1+1;omega) _))
 ·have HD:=z9 hD
  have af:Hid (Bw w x1):=aL.out.trans (ae.out.mono aL.out.size)
  obtain⟨da2,dc2,dQ,-⟩:=id hD
  injection dQ with d1 d2 d3
  subst d1;subst d2;subst d3
  have cS:zir L ⟨p0,p1,p2,q0,q1,q2,r⟩ P T D=zR L ⟨p0,p1,p2,q0,q1,q2,r⟩ P T D/\ziq L ⟨p0,p1,p2,q0,q1,q2,r⟩ P T D=0:=by unfold zir ziq;rw [aN.out,aV];exact⟨rfl,rfl⟩
  have cu:=z9 cS
  have bL:=z9 aH
  have dp:=z9 (dn.out x1 _ D af.out HD.out aV)
  clear hD aV aH cS ab
  go_wp2_with fail
  refine dp.out.mono ?_
  rintro e x2 ⟨ai,k0,k1,kv,rfl,hk⟩
  rw [cu.out.1] at hk
  rw [cu.out.2]
  have bZ:=z9 ai
  have cM:Hid (Bw W4 x2):=ae.out.trans (ai.mono ae.out.size)
  obtain⟨-,ab⟩:=ag.out x2 cM.out
  have ef:=bJ.out x2 cM.out
  have HK:=z9 hk
  obtain⟨kl,aD,ka,kc,rfl,-⟩:=id hk
  simp only [Value.agg.injEq,Array.mk.injEq,List.cons.injEq,and_true] at aD
  obtain⟨-,-,rfl⟩:=aD
  have c0:x2.cell? (ad (w.heap.size+1+1+1) 0)=sI 0:=by rw [cell_of_block ab];rfl
  have c1:x2.cell? (ad (w.heap.size+1+1+1) 1)=sI 0:=by rw [cell_of_block ab];rfl
  have c2:x2.cell? (ad (w.heap.size+1+1+1) 2)=some (.slice none 0 0):=by rw [cell_of_block ab];rfl
  have f0:x2.frozen? (ad (w.heap.size+1+1+1) 0)=false:=by simp [World.frozen?,ab]
  have f1:x2.frozen? (ad (w.heap.size+1+1+1) 1)=false:=by simp [World.frozen?,ab]
  have f2:x2.frozen? (ad (w.heap.size+1+1+1) 2)=false:=by simp [World.frozen?,ab]
  have aB:=z9 ab
  generalize hkn:(zR L ⟨p0,p1,p2,q0,q1,q2,r⟩ P T D).ops.length=kn at *
  have bK:=z9 (zgk (a':=iV k0) (b':=iV k1) (d':=.slice ka kn kc) ab)
  have em:=z9 hkn
  clear l0 l1 l2 t0 t1 t2 t3 t4 t5 t6 s0 s1 ai hk ab hkn
  go_wp2_with fail
  obtain⟨g0,g1,g2⟩:=bK.out
  refine bodyPost_ret (v:=.tuple #[.agg #[iV k0,iV k1,.slice ka kn kc],iV 0]) (by simp [results,results55,go_sem,g0,g1,g2]) rfl ?_
  have aS:Bw w x2:=af.out.trans (bZ.out.mono af.out.size)
  refine⟨((aS.setCell (by show w.heap.size<=w.heap.size+1+1+1;omega) _).setCell (by show w.heap.size<=w.heap.size+1+1+1;omega) _).setCell (by show w.heap.size<=w.heap.size+1+1+1;omega) _,k0,k1,_,0,rfl,.inr ⟨rfl,D,?_,bL.out⟩⟩
  have h1:=HK.out.set (i:=0) aB.out (by show 3<10;omega) (iV k0)
  have b1:(x2.setCell (ad (w.heap.size+1+1+1) 0) (iV k0)).heap[w.heap.size+1+1+1]?=some (.cells #[iV k0,iV 0,.slice none 0 0] 31 (0,0)):=by simp [World.setCell,Array.getElem?_modify,aB.out]
  have h2:=h1.set (i:=1) b1 (by show 3<10;omega) (iV k1)
  have b2:((x2.setCell (ad (w.heap.size+1+1+1) 0) (iV k0)).setCell (ad (w.heap.size+1+1+1) 1) (iV k1)).heap[w.heap.size+1+1+1]?=some (.cells #[iV k0,iV k1,.slice none 0 0] 31 (0,0)):=by simp [World.setCell,Array.getElem?_modify,aB.out]
  exact h2.set (i:=2) b2 (by show 3<10;omega) _
theorem zj3 (n:Nat) (x:World) (hn:n<=16):Calls prog 56 #[iV (n:Int)] x fun e w'=>e=.returned (.slice (pA x.heap.size) n n)/\Bw x w'/\zK w' (.slice (pA x.heap.size) n n) (yI n):=by
 have dT:=run_make_row' (P:=prog) 22 3 (iV 0) 8 underlying22 Tryz.j3 rfl .i64 .i64 n (by omega) (by omega)
 have H0:Hid (zu (x.alloc (.cells (madeCells #[iV 0] n) 3)) x.heap.size 3 n (fun v=>iV (if v<0 then (v:Int) else 0))):=zu.zeros x _ n _
 have bY:Hid (Bw x (x.alloc (.cells (madeCells #[iV 0] n) 3))):=below_alloc1 _ _
 go_enter func56,ntmps56
 go_wp2_with fail
 go_loopw [9] (fun i wr=>∃k:Nat,k<=n/\i=iV k/\Bw x wr/\zu wr x.heap.size 3 n (fun v=>iV (if v<k then (v:Int) else 0))) (fun i _=>n - (intOf i).toNat)
 case atStart=>exact⟨0,by omega,rfl,bY.out,H0.out⟩
 case round =>
  clear H0 bY dT
  obtain⟨k,hk,rfl,gH,gI⟩:=hrel
  have HB:=z9 gH
  have gS:=z9 gI
  by_cases aD:k<n
  ·have dR:(k:Int)<(n:Int):=by omega
   have c0:wr.cell? (ad x.heap.size k)=sI 0:=by rw [gI.cell aD];simp
   have hz:=gI.lt
   have fz:=gI.frozen k
   clear gH gI
   go_wp2_with fail
   go_roundw
   case rel =>
    refine⟨k+1,by omega,by go_num,HB.out.setCell (Nat.le_refl _) _,(gS.out.set k _ aD).congr fun i hi=>?_⟩
    by_cases e:i=k
    ·subst e;rw [if_pos rfl,if_pos (Nat.lt_succ_self _)]
    ·rw [if_neg e];congr 1;by_cases h:i<k
     ·rw [if_pos h,if_pos (by omega)]
     ·rw [if_neg h,if_neg (by omega)]
   case measure=>simp [intOf];omega
  ·have e:k=n:=by omega
   subst e
   have dR:¬(k:Int)<(k:Int):=by omega
   have HF:Hid (zK wr (.slice (pA x.heap.size) k k) (yI k)):=by
    refine⟨some (ad x.heap.size 0),k,by rw [VD],by rw [VD];exact Nat.le_refl _,by unfold maxLen;omega,fun i hi=>?_,fun _=>⟨x.heap.size,0,rfl,gI.lt,fun i hi=>?_⟩⟩
    ·rw [VD] at hi;rw [zab hi];omega
    ·rw [VD] at hi;rw [Nat.zero_add,zab hi,gI.cell hi,if_pos hi]
   clear gH gI
   go_wp2_with fail
   exact bodyPost_ret (v:=.slice (pA x.heap.size) k k) (by simp [results,results56,go_sem]) rfl ⟨rfl,HB.out,HF.out⟩
section
attribute [local go_sem] Oper.semAt_some
theorem xF.ck (h:xF A v K) (k:Ck A B):xF B v K:=by
 obtain⟨kv,e,a,cap,e1,h1,h2,h4⟩:=h
 refine⟨kv,e,a,cap,e1,h1,h2,fun hp=>?_⟩
 obtain⟨b,off,e2,h5,h6⟩:=h4 hp
 refine⟨b,off,e2,Nat.lt_of_lt_of_le h5 k.size,fun i hi j hj=>?_⟩
 have h7:=h6 i hi j hj
 obtain⟨u,hu⟩:∃u,(yS (zp K.ops i))[j]?=some u:=⟨_,Array.getElem?_eq_getElem (show j<(yS (zp K.ops i)).size from hj)⟩
 rw [hu] at h7 ⊢
 exact k.cell _ _ h7
def zl6 (L:Lp) (t:Tg) (w:World) (e:Ending) (w':World):Prop :=
 Bw w w'/\∃k0 k1 kv oa ol oc c,e=.returned (.tuple #[.agg #[iV k0,iV k1,kv],.slice oa ol oc,iV c]) /\
  ((zY L && yj t)=false->c=2/\ol=0/\xF w' (.agg #[iV k0,iV k1,kv]) ⟨0,0,[]⟩) /\
  ((zY L && yj t)=true->(c=1/\t.r<5*(L.b.length:Int)/\ol=0/\xF w' (.agg #[iV k0,iV k1,kv]) ⟨0,0,[]⟩)\/(c=0/\∃K O,xF w' (.agg #[iV k0,iV k1,kv]) K/\zK w' (.slice oa ol oc) O/\zQ L t K O=true/\(X7 L t:Int)<=K.pc/\(ZA L t:Int)<=K.pc/\K.pc<=Xc L t/\K.st*K.pc<=1200))
theorem zfd (w:World):xF w (.agg #[iV 0,iV 0,.slice none 0 0]) ⟨0,0,[]⟩:=⟨_,rfl,none,0,rfl,Nat.le_refl _,Nat.zero_le _,fun h=>absurd h (Nat.lt_irrefl _)⟩
theorem zn8 (h:zV L t P T=true):yp P T L.b.length*P<=1200:=by
 obtain⟨hm,bU,de,bV,hlen,hT,-⟩:=yd h
 have h1:yp P T L.b.length<=1000 / P+1:=zbf P T _ (by have:=Int.ediv_nonneg (show (0:Int)<=1000 by omega) (show 0<=P by omega);omega) _ fun s hs=>by
  have h2:=zo hT s (by omega)
  unfold XN at h2
  simp only [Bool.and_eq_true,decide_eq_true_eq] at h2
  have h3:=zx.1 h2.1
  have h4:=Int.ediv_le_ediv (show 0<P by omega) h3.2
  omega
 have h2:=Int.mul_le_mul_of_nonneg_right h1 (show 0<=P by omega)
 have h3:=Int.ediv_mul_le 1000 (show P≠0 by omega)
 have h4:(1000 / P+1)*P=1000 / P*P+P:=by rw [Int.add_mul,Int.one_mul]
 omega
theorem zqu {D:List Int} (ah:zV L t P T=true) (hP:P<=Xc L t):(X7 L t:Int)<=(zR L t P T D).pc/\(ZA L t:Int)<=(zR L t P T D).pc/\(zR L t P T D).pc<=Xc L t/\(zR L t P T D).st*(zR L t P T D).pc<=1200:=by
 obtain⟨-,-,de,-,-⟩:=yd ah
 have dO:((P.toNat:Nat):Int)=P:=Int.toNat_of_nonneg (by omega)
 have h2:zV L t (P.toNat:Int) T=true:=by rw [dO];exact ah
 have h3:=zjc h2
 have h4:=zhh h2
 exact⟨by show _<=P;omega,by show _<=P;omega,hP,zn8 ah⟩
theorem zch {x0 x1 x2 p0 p1 p2 q0 q1 q2 r:Value} (h:Below (w.heap.size+5) (((((w.alloc (.cells #[x0,x1,x2] 25)).alloc (.cells #[p0,p1,p2,q0,q1,q2,r] 28)).alloc (.cells #[iV 0,iV 0,.slice none 0 0] 31)).alloc (.cells #[.slice none 0 0] 22)).alloc (.cells #[iV 0] 50)) y) :
  y.heap[w.heap.size]?=some (.cells #[x0,x1,x2] 25 (0,0))/\y.heap[w.heap.size+1]?=some (.cells #[p0,p1,p2,q0,q1,q2,r] 28 (0,0))/\y.heap[w.heap.size+1+1]?=some (.cells #[iV 0,iV 0,.slice none 0 0] 31 (0,0))/\y.heap[w.heap.size+1+1+1]?=some (.cells #[.slice none 0 0] 22 (0,0))/\y.heap[w.heap.size+1+1+1+1]?=some (.cells #[iV 0] 50 (0,0)):=by
 have e1:(w.alloc (.cells #[x0,x1,x2] 25)).heap.size=w.heap.size+1:=by simp
 have e2:((w.alloc (.cells #[x0,x1,x2] 25)).alloc (.cells #[p0,p1,p2,q0,q1,q2,r] 28)).heap.size=w.heap.size+1+1:=by simp
 have e3:(((w.alloc (.cells #[x0,x1,x2] 25)).alloc (.cells #[p0,p1,p2,q0,q1,q2,r] 28)).alloc (.cells #[iV 0,iV 0,.slice none 0 0] 31)).heap.size=w.heap.size+1+1+1:=by simp
 have e4:((((w.alloc (.cells #[x0,x1,x2] 25)).alloc (.cells #[p0,p1,p2,q0,q1,q2,r] 28)).alloc (.cells #[iV 0,iV 0,.slice none 0 0] 31)).alloc (.cells #[.slice none 0 0] 22)).heap.size=w.heap.size+1+1+1+1:=by simp
 refine⟨?_,?_,?_,?_,?_⟩
 all_goals rw [h.block _ (by omega)]
 ·rw [Below.heap_alloc _ _ _ (by omega),Below.heap_alloc _ _ _ (by omega),Below.heap_alloc _ _ _ (by omega),Below.heap_alloc _ _ _ (by omega)];exact zD _ _ _
 ·rw [Below.heap_alloc _ _ _ (by omega),Below.heap_alloc _ _ _ (by omega),Below.heap_alloc _ _ _ (by omega),<-e1];exact zD _ _ _
 ·rw [Below.heap_alloc _ _ _ (by omega),Below.heap_alloc _ _ _ (by omega),<-e2];exact zD _ _ _
 ·rw [Below.heap_alloc _ _ _ (by omega),<-e3];exact zD _ _ _
 ·rw [<-e4];exact zD _ _ _
theorem zta (w:World) (x0 x1 x2 p0 p1 p2 q0 q1 q2 r:Value):∃W,((((w.alloc (.cells #[x0,x1,x2] 25)).alloc (.cells #[p0,p1,p2,q0,q1,q2,r] 28)).alloc (.cells #[iV 0,iV 0,.slice none 0 0] 31)).alloc (.cells #[.slice none 0 0] 22)).alloc (.cells #[iV 0] 50)=W/\W.heap.size=w.heap.size+5/\Bw w W/\(∀y,Bw W y->y.heap[w.heap.size+1+1]?=some (.cells #[iV 0,iV 0,.slice none 0 0] 31 (0,0))/\y.heap[w.heap.size+1+1+1]?=some (.cells #[.slice none 0 0] 22 (0,0))/\y.heap[w.heap.size+1+1+1+1]?=some (.cells #[iV 0] 50 (0,0)))/\∀y,Bw W y->(y.cell? (ad w.heap.size 0)=some x0/\y.cell? (ad w.heap.size 1)=some x1/\y.cell? (ad w.heap.size 2)=some x2)/\(y.cell? (ad (w.heap.size+1) 0)=some p0/\y.cell? (ad (w.heap.size+1) 1)=some p1/\y.cell? (ad (w.heap.size+1) 2)=some p2/\y.cell? (ad (w.heap.size+1) 3)=some q0/\y.cell? (ad (w.heap.size+1) 4)=some q1/\y.cell? (ad (w.heap.size+1) 5)=some q2/\y.cell? (ad (w.heap.size+1) 6)=some r)/\w.heap.size+5<=y.heap.size:=by
 have hs:(((((w.alloc (.cells #[x0,x1,x2] 25)).alloc (.cells #[p0,p1,p2,q0,q1,q2,r] 28)).alloc (.cells #[iV 0,iV 0,.slice none 0 0] 31)).alloc (.cells #[.slice none 0 0] 22)).alloc (.cells #[iV 0] 50)).heap.size=w.heap.size+5:=by simp
 refine⟨_,rfl,hs,((below_alloc3 _ _ _ _).alloc (by simp;omega) _).alloc (by simp;omega) _,fun y hy=>(zch (by rw [<-hs];exact hy)).2.2,fun y hy=>?_⟩
 obtain⟨b0,b1,-⟩:=zch (by rw [<-hs];exact hy)
 have:=hy.size
 refine⟨⟨?_,?_,?_⟩,⟨?_,?_,?_,?_,?_,?_,?_⟩,by omega⟩
 all_goals first | (rw [cell_of_block b0];rfl) | (rw [cell_of_block b1];rfl)
def zgp (L:Lp) (t:Tg) (w W:World):Prop:=Bw w W/\∃k0 k1 kv ov K,W.heap[w.heap.size+1+1]?=some (.cells #[iV k0,iV k1,kv] 31 (0,0))/\W.heap[w.heap.size+1+1+1]?=some (.cells #[ov] 22 (0,0))/\W.heap[w.heap.size+1+1+1+1]?=some (.cells #[iV 0] 50 (0,0)) /\
 xF W (.agg #[iV k0,iV k1,kv]) K/\zK W ov (yI L.b.length)/\zQ L t K (yI L.b.length)=true/\(X7 L t:Int)<=K.pc/\(ZA L t:Int)<=K.pc/\K.pc<=Xc L t/\K.st*K.pc<=1200
theorem zgp.put {l:Nat} {o':Obj} (h:zgp L t w A) (hl:w.heap.size+5<=l) (hA:A.heap[l]?=some o) (ho:o.isCells=false):zgp L t w (A.putObj l o'):=by
 obtain⟨hb,k0,k1,kv,ov,K,h1,h2,h3,h4,h5,h6⟩:=h
 have hc:=Ck.put o' hA ho
 exact⟨hb.trans (zas o' hA (by omega)),k0,k1,kv,ov,K,(World.putObj_heap_other (by omega)).trans h1,(World.putObj_heap_other (by omega)).trans h2,(World.putObj_heap_other (by omega)).trans h3,h4.ck hc,h5.ck hc,h6⟩
theorem zck {B:Nat} {c0 u0 u1 u2 u3:Value} (h0:y.heap[B+1+1]?=some (.cells #[k0,k1,kv] ta (0,0))) (h1:y.heap[B+1+1+1]?=some (.cells #[ov] tb (0,0))) (h2:y.heap[B+1+1+1+1]?=some (.cells #[c0] tc (0,0))) (hb:Below n w y) (hn:n<=B) :
  ∃ V,((((y.setCell (ad (B+1+1) 0) u0).setCell (ad (B+1+1) 1) u1).setCell (ad (B+1+1) 2) u2).setCell (ad (B+1+1+1) 0) u3).setCell (ad (B+1+1+1+1) 0) c=V/\Below n w V/\(V.heap.size=y.heap.size/\∀k,B+5<=k->V.heap[k]?=y.heap[k]?)/\(V.heap[B+1+1]?=some (.cells #[u0,u1,u2] ta (0,0))/\V.heap[B+1+1+1]?=some (.cells #[u3] tb (0,0))/\V.heap[B+1+1+1+1]?=some (.cells #[c] tc (0,0))) /\
    (∀v K,xF y v K->xF V v K)/\(∀g m q T,B+5<=g->zK y (.slice (pA g) m q) T->zK V (.slice (pA g) m q) T):=by
 have b1:∀{x:World} {g i:Nat} {e:TypeId} {cs:Array Value} {u:Value},x.heap[g]?=some (.cells cs e (0,0))->(x.setCell (ad g i) u).heap[g]?=some (.cells (cs.setIfInBounds i u) e (0,0)):=fun h=>by simp [World.setCell,Array.getElem?_modify,h]
 have b2:∀{x:World} {g k i:Nat} {o:Option Obj} {u:Value},x.heap[k]?=o->k≠g->(x.setCell (ad g i) u).heap[k]?=o:=fun h hk=>by rw [Below.heap_setCell _ _ _ _ hk];exact h
 have d1:B+1+1+1≠B+1+1:=by omega
 have d2:B+1+1+1+1≠B+1+1:=by omega
 have d3:B+1+1+1+1≠B+1+1+1:=by omega
 have e1:=b2 (i:=2) (u:=u2) (b2 (i:=1) (u:=u1) (b2 (i:=0) (u:=u0) h1 d1) d1) d1
 have e2:=b2 (i:=0) (u:=u3) (b2 (i:=2) (u:=u2) (b2 (i:=1) (u:=u1) (b2 (i:=0) (u:=u0) h2 d2) d2) d2) d3
 refine⟨_,rfl,((((hb.setCell (by show n<=B+1+1;omega) _).setCell (by show n<=B+1+1;omega) _).setCell (by show n<=B+1+1;omega) _).setCell (by show n<=B+1+1+1;omega) _).setCell (by show n<=B+1+1+1+1;omega) _,⟨by simp [World.setCell],fun k hk=>b2 (b2 (b2 (b2 (b2 rfl (by omega)) (by omega)) (by omega)) (by omega)) (by omega)⟩,⟨b2 (b2 (b1 (b1 (b1 h0))) d1.symm) d2.symm,b2 (b1 e1) d3.symm,b1 e2⟩,fun v K h=>?_,fun g m q T hg h=>?_⟩
 ·exact ((((h.set h0 (by show 3<10;omega) _).set (b1 h0) (by simp) _).set (b1 (b1 h0)) (by simp) _).set e1 (by show 1<10;omega) _).set e2 (by show 1<10;omega) _
 ·exact ((((h.set (by omega) _ _).set (by omega) _ _).set (by omega) _ _).set (by omega) _ _).set (by omega) _ _
theorem ZF {B:Nat} (h0:V.heap[B+1+1]?=some (.cells #[k0,k1,kv] ta (0,0))) (h1:V.heap[B+1+1+1]?=some (.cells #[ov] tb (0,0))) (h2:V.heap[B+1+1+1+1]?=some (.cells #[c] tc (0,0))) :
  V.cell? (ad (B+1+1) 0)=some k0/\V.cell? (ad (B+1+1) 1)=some k1/\V.cell? (ad (B+1+1) 2)=some kv/\V.cell? (ad (B+1+1+1) 0)=some ov/\V.cell? (ad (B+1+1+1+1) 0)=some c:=by
 refine⟨?_,?_,?_,?_,?_⟩
 all_goals first | (rw [cell_of_block h0];rfl) | (rw [cell_of_block h1];rfl) | (rw [cell_of_block h2];rfl)
theorem XU {B:Nat} (h0:V.heap[B+1+1]?=some (.cells #[k0,k1,kv] ta (0,0))) (h1:V.heap[B+1+1+1]?=some (.cells #[ov] tb (0,0))) (h2:V.heap[B+1+1+1+1]?=some (.cells #[c] tc (0,0))) :
  V.frozen? (ad (B+1+1) 0)=false/\V.frozen? (ad (B+1+1) 1)=false/\V.frozen? (ad (B+1+1) 2)=false/\V.frozen? (ad (B+1+1+1) 0)=false/\V.frozen? (ad (B+1+1+1+1) 0)=false:=by
 refine⟨?_,?_,?_,?_,?_⟩ <;> simp [World.frozen?,h0,h1,h2]
theorem zcj {B D:Nat} (h0:V.heap[B+1+1]?=some (.cells #[k0,k1,kv] ta (0,0))) (h1:V.heap[B+1+1+1]?=some (.cells #[ov] tb (0,0))) (h2:V.heap[B+1+1+1+1]?=some (.cells #[c] tc (0,0))) (hD:B+5<=D) :
  (V.putObj D o).cell? (ad (B+1+1) 0)=some k0/\(V.putObj D o).cell? (ad (B+1+1) 1)=some k1/\(V.putObj D o).cell? (ad (B+1+1) 2)=some kv/\(V.putObj D o).cell? (ad (B+1+1+1) 0)=some ov/\(V.putObj D o).cell? (ad (B+1+1+1+1) 0)=some c :=
 ZF ((World.putObj_heap_other (show B+1+1≠D by omega)).trans h0) ((World.putObj_heap_other (show B+1+1+1≠D by omega)).trans h1) ((World.putObj_heap_other (show B+1+1+1+1≠D by omega)).trans h2)
theorem zpg (hM:zgt) (hO:zwy) (hR:zgu) (hE:zgq) (p0 p1 p2 q0 q1 q2 r:Int) (L:Lp) (a0 a1 a2:Option Addr) (gA gB gC:Nat) (w:World) (hm:zY L=true) (ht:yj ⟨p0,p1,p2,q0,q1,q2,r⟩=true)
  (hL:zE w ((lv L a0 a1 a2 gA gB gC)) L) :
  Calls prog 19 #[(lv L a0 a1 a2 gA gB gC),(tv p0 p1 p2 q0 q1 q2 r)] w fun e w'=>zl6 L ⟨p0,p1,p2,q0,q1,q2,r⟩ w e w':=by
 obtain⟨W5,bP,aE,aR,aT,aU⟩:=zta w (.slice a0 L.l.length gA) (.slice a1 L.b.length gB) (.slice a2 L.o.length gC) (iV p0) (iV p1) (iV p2) (iV q0) (iV q1) (iV q2) (iV r)
 have aJ:=z9 aE
 have aj:=z9 aR
 have af:=z9 aT
 have ag:=z9 aU
 clear aE aR aT aU
 have HL:=z9 hL
 have bG:=z9 (fun W (h:zE W ((lv L a0 a1 a2 gA gB gC)) L)=>hm ▸ Yh _ L W h)
 have bM:=z9 (fun W=>ht ▸ zjv ⟨p0,p1,p2,q0,q1,q2,r⟩ W)
 obtain⟨⟨l0,l1,l2⟩,⟨t0,t1,t2,t3,t4,t5,t6⟩,hz⟩:=ag.out W5 (Below.refl _ _)
 have HM:=z9 hm
 have HT:=z9 ht
 clear hL hm ht
 obtain⟨n,-⟩:∃n:Nat,True:=⟨3,trivial⟩
 refine (callsIn_wide (n:=n)).1 ?_
 refine callsIn_of_wp_marks func19 rfl trivial ?_ rfl
 simp only [ntmps19,List.size_toArray,List.length_cons,List.length_nil,Nat.reduceAdd,Nat.reduceSub,Array.replicate_succ,Array.replicate_zero,List.push_toArray,List.append_toArray,List.nil_append,List.cons_append]
 gi_wp2_with fail
 refine XQ (bG.out W5 (HL.out.gE aj.out)) ?_
 rintro e x1 ⟨rfl,ay⟩
 have ae:=z9 ay
 clear bP l0 l1 l2 t0 t1 t2 t3 t4 t5 t6 hz ay
 obtain⟨⟨l0,l1,l2⟩,⟨t0,t1,t2,t3,t4,t5,t6⟩,hz⟩:=ag.out x1 ae.out
 gi_wp2_with fail
 refine XQ (bM.out x1) ?_
 rintro e x2 ⟨rfl,ai⟩
 have an:Hid (Bw W5 x2):=ae.out.trans (ai.mono ae.out.size)
 clear l0 l1 l2 t0 t1 t2 t3 t4 t5 t6 hz ai
 obtain⟨⟨l0,l1,l2⟩,⟨t0,t1,t2,t3,t4,t5,t6⟩,hz⟩:=ag.out x2 an.out
 gi_wp2_with fail
 refine XQ (zrm _ _ _ _ _ _ _ _ _ _ x2) ?_
 rintro e x3 ⟨rfl,rfl⟩
 obtain⟨x3,aX⟩:∃x3,(x2.alloc (.cells #[.slice a0 L.l.length gA,.slice a1 L.b.length gB,.slice a2 L.o.length gC] 25)).alloc (.cells #[iV p0,iV p1,iV p2,iV q0,iV q1,iV q2,iV r] 28)=x3:=⟨_,rfl⟩
 have aI:Hid (Bw x2 x3):=by show Below _ _ _;rw [<-aX];exact below_alloc2 _ _ _
 have aP:Hid (Bw W5 x3):=an.out.trans (aI.out.mono an.out.size)
 have bf:Hid (x3.heap.size=x2.heap.size+1+1):=by show _=_;rw [<-aX];simp
 have dm:Hid (x3.heap[x2.heap.size]?=some (.cells #[.slice a0 L.l.length gA,.slice a1 L.b.length gB,.slice a2 L.o.length gC] 25 (0,0))):=by
  show _=_;rw [<-aX,Below.heap_alloc _ _ _ (by simp)];exact zD _ _ _
 have aM:Hid (x3.heap[x2.heap.size+1]?=some (.cells #[iV p0,iV p1,iV p2,iV q0,iV q1,iV q2,iV r] 28 (0,0))):=by
  show _=_;rw [<-aX,<-World.size_alloc];exact zD _ _ _
 have dL:Hid (Bw w x3):=aj.out.trans (aP.out.mono aj.out.size)
 have dw:=z9 (zrl hM hO p0 p1 p2 q0 q1 q2 r L a0 a1 a2 gA gB gC x3 x2.heap.size (x2.heap.size+1) HM.out HT.out (HL.out.gE dL.out) dm.out aM.out)
 clear l0 l1 l2 t0 t1 t2 t3 t4 t5 t6 hz
 gi_wp2_with fail
 clear aX
 refine zmx (gf:=106) (lb:=#[.pointer (pA x2.heap.size),.pointer (pA (x2.heap.size+1))]) rfl (enters_of func106 (by kernel_rfl) rfl) dw.out rfl (fun la x A B h k=>zi3.ck h k)
  (r<5*(L.b.length:Int)) (zgp L ⟨p0,p1,p2,q0,q1,q2,r⟩ w) ?res
  (fun x B=>{ tmps:=#[(lv L a0 a1 a2 gA gB gC),(tv p0 p1 p2 q0 q1 q2 r),.pointer (pA w.heap.size),.pointer (pA (w.heap.size+1)),.pointer (pA (w.heap.size+1+1)),.pointer (pA (w.heap.size+1+1+1)),.pointer (pA (w.heap.size+1+1+1+1)),.pointer (pA B),undef,undef,(lv L a0 a1 a2 gA gB gC),.bool true,.bool false,.bool false,(tv p0 p1 p2 q0 q1 q2 r),.bool true,.bool false,.bool false,undef,(lv L a0 a1 a2 gA gB gC),(tv p0 p1 p2 q0 q1 q2 r),.func (.func 106) #[] #[.pointer (pA x2.heap.size),.pointer (pA (x2.heap.size+1))],zrh x,undef,undef,undef,undef,undef,undef,undef,undef,undef,undef,undef,undef,undef,undef,undef],defers:=[] }) (fun x=>.cells #[iV x.1,.slice x.2.1 x.2.2.1 x.2.2.2] 49 (0,0)) ?assign ?body ?done ?stop
 case res =>
  intro A l o o' h hl hA ho
  have:=bf.out;have:=an.out.size;have:=aJ.out
  exact h.put (by omega) hA ho
 case assign =>
  intro l k x W K hK
  dsimp only [zrh] at *
  gi_wp2_with fail
  exact hK
 case body =>
  rintro l k B la ⟨P,ta,tl,tc⟩ W aS ⟨T,hP,ah,cX,cZ⟩ hBs hB
  dsimp only [zrh] at *
  have ao:Hid (Bw W5 W):=aP.out.trans (aS.mono aP.out.size)
  obtain⟨⟨l0,l1,l2⟩,⟨t0,t1,t2,t3,t4,t5,t6⟩,hz⟩:=ag.out W ao.out
  have b0:W.cell? (ad B 0)=sI P:=by rw [cell_of_block hB];rfl
  have b1:W.cell? (ad B 1)=some (.slice ta tl tc):=by rw [cell_of_block hB];rfl
  have dA:=z9 (zhg hR hE p0 p1 p2 q0 q1 q2 r L a0 a1 a2 gA gB gC P T ta tl tc W (HL.out.gE (aj.out.trans (ao.out.mono aj.out.size))) hP ah)
  have aN:=z9 ah
  have dB:=z9 cX
  have dF:=z9 cZ
  have dh:=z9 aS
  clear hP ah cX cZ hB aS
  gi_wp2_with fail
  refine zn3 dA.out ?_
  rintro e y1 ⟨hb,k0,k1,kv,c,rfl,hc⟩
  have az:=z9 hb
  clear l0 l1 l2 t0 t1 t2 t3 t4 t5 t6 hz b0 b1 hb
  rcases hc with ⟨rfl,rfl,aW⟩ | ⟨rfl,D,hk,aH⟩
  ·have dD:=z9 aW
   clear aW
   gi_wp2_with fail
   refine⟨az.out.trans ((below_alloc1 _ _).mono az.out.size),fun h=>?_⟩
   by_cases hr5:r<5*(L.b.length:Int)
   ·exact hr5
   ·exact absurd ⟨show 5*(L.b.length:Int)<=r by omega,dF.out h⟩ dD.out
  ·obtain⟨kl,aD,ka,kc,rfl,-⟩:=id hk
   simp only [Value.agg.injEq,Array.mk.injEq,List.cons.injEq,and_true] at aD
   obtain⟨-,-,rfl⟩:=aD
   have HK:=z9 hk
   have bL:=z9 aH
   generalize hkn:(zR L ⟨p0,p1,p2,q0,q1,q2,r⟩ P T D).ops.length=kn at *
   clear hk aH hkn
   have cD:Hid (∀y:World,Bw y1 y->(y.cell? (ad w.heap.size 0)=some (.slice a0 L.l.length gA)/\y.cell? (ad w.heap.size 1)=some (.slice a1 L.b.length gB)/\y.cell? (ad w.heap.size 2)=some (.slice a2 L.o.length gC))):=fun y hy=>(ag.out y (ao.out.trans ((az.out.trans (hy.mono az.out.size)).mono ao.out.size))).1
   gi_wp2_with fail
   obtain⟨y2,bC⟩:∃y2,y1.alloc (.cells #[iV k0,iV k1,.slice ka kn kc] 31)=y2:=⟨_,rfl⟩
   have aA:Hid (Bw y1 y2):=by show Below _ _ _;rw [<-bC];exact below_alloc1 _ _
   obtain⟨l0,l1,l2⟩:=cD.out y2 aA.out
   have ab:y2.heap[y1.heap.size]?=some (.cells #[iV k0,iV k1,.slice ka kn kc] 31 (0,0)):=by rw [<-bC];exact zD _ _ _
   have c0:y2.cell? (ad y1.heap.size 0)=sI k0:=by rw [cell_of_block ab];rfl
   have c1:y2.cell? (ad y1.heap.size 1)=sI k1:=by rw [cell_of_block ab];rfl
   have c2:y2.cell? (ad y1.heap.size 2)=some (.slice ka kn kc):=by rw [cell_of_block ab];rfl
   have dM:=(zw HM.out).2.2.1
   have dt:Hid (Calls prog 56 #[iV (L.b.length:Int)] y2.drew fun e w'=>e=.returned (.slice (pA y2.heap.size) L.b.length L.b.length)/\Below y2.heap.size y2.drew w'/\zK w' (.slice (pA y2.heap.size) L.b.length L.b.length) (yI L.b.length)):=zj3 L.b.length y2.drew dM
   have aB:=z9 ab
   have eB:w.heap.size+5<=y1.heap.size:=by have:=az.out.size;have:=ao.out.size;have:=aJ.out;omega
   have cI:Hid (∀w':World,Bw y2 w'->((w'.cell? (ad w.heap.size 0)=some (.slice a0 L.l.length gA)/\w'.cell? (ad w.heap.size 1)=some (.slice a1 L.b.length gB)/\w'.cell? (ad w.heap.size 2)=some (.slice a2 L.o.length gC))/\w'.cell? (ad y1.heap.size 0)=sI k0/\w'.cell? (ad y1.heap.size 1)=sI k1/\w'.cell? (ad y1.heap.size 2)=some (.slice ka kn kc))):=fun w' h=>by
    have hb:=(h.block _ (Array.getElem?_eq_some_iff.1 aB.out).1).trans aB.out
    refine⟨cD.out w' (aA.out.trans (h.mono aA.out.size)),?_,?_,?_⟩ <;> (rw [cell_of_block hb];rfl)
   have aO:Hid (∀(v:World) (b i:Nat) (u:Value),((v.cell? (ad w.heap.size 0)=some (.slice a0 L.l.length gA)/\v.cell? (ad w.heap.size 1)=some (.slice a1 L.b.length gB)/\v.cell? (ad w.heap.size 2)=some (.slice a2 L.o.length gC))/\v.cell? (ad y1.heap.size 0)=sI k0/\v.cell? (ad y1.heap.size 1)=sI k1/\v.cell? (ad y1.heap.size 2)=some (.slice ka kn kc))->b≠w.heap.size->b≠y1.heap.size->(((v.setCell (ad b i) u).cell? (ad w.heap.size 0)=some (.slice a0 L.l.length gA)/\(v.setCell (ad b i) u).cell? (ad w.heap.size 1)=some (.slice a1 L.b.length gB)/\(v.setCell (ad b i) u).cell? (ad w.heap.size 2)=some (.slice a2 L.o.length gC))/\(v.setCell (ad b i) u).cell? (ad y1.heap.size 0)=sI k0/\(v.setCell (ad b i) u).cell? (ad y1.heap.size 1)=sI k1/\(v.setCell (ad b i) u).cell? (ad y1.heap.size 2)=some (.slice ka kn kc))):=fun v b i u h h1 h2=>by
    obtain⟨⟨e0,e1,e2⟩,e3,e4,e5⟩:=h
    refine⟨⟨?_,?_,?_⟩,?_,?_,?_⟩
    all_goals (rw [Zg (Below.heap_setCell _ _ _ _ (Ne.symm (by assumption)))];assumption)
   have gT:Hid (∀y,Bw y2 y->_):=fun y hy=>af.out y (ao.out.trans ((az.out.trans ((aA.out.trans (hy.mono aA.out.size)).mono az.out.size)).mono ao.out.size))
   rw [bC]
   clear bC ab
   refine zhp 99 (fun w'=>((w'.cell? (ad w.heap.size 0)=some (.slice a0 L.l.length gA)/\w'.cell? (ad w.heap.size 1)=some (.slice a1 L.b.length gB)/\w'.cell? (ad w.heap.size 2)=some (.slice a2 L.o.length gC))/\w'.cell? (ad y1.heap.size 0)=sI k0/\w'.cell? (ad y1.heap.size 1)=sI k1/\w'.cell? (ad y1.heap.size 2)=some (.slice ka kn kc))) (by kernel_rfl) (by kernel_rfl) (cI.out _ (below_draws _ _ 1)) (fun h9=>?_)
   refine uk 0 h9 ?_
   refine uk 1 h9 ?_
   refine uk 2 h9 ?_
   refine uk 3 h9 ?_
   refine ze (i:=4) rfl (by kernel_rfl) (fun K hK=>?_)
   go_simp
   refine dt.out.mono ?_
   rintro e y3 ⟨rfl,cO,cU⟩
   have aI:Hid (Bw y2 y3):=(below_draws y2.heap.size y2 1).trans cO
   have dr:=z9 cU
   have h9:=cI.out _ aI.out
   clear cO cU c0 c1 c2 l0 l1 l2
   refine nxt hK.out (.inr h9) ?_
   clear hK K
   obtain⟨r0,r1,r2⟩:=gT.out y3 aI.out
   obtain⟨n0,n1,n2,n3,n4⟩:=ZF r0 r1 r2
   obtain⟨f0,f1,f2,f3,f4⟩:=XU r0 r1 r2
   have eA:y1.heap.size<y2.heap.size:=(Array.getElem?_eq_some_iff.1 aB.out).1
   have aK:Bw w W:=aj.out.trans (ao.out.mono aj.out.size)
   have bQ:Bw W y3:=az.out.trans ((aA.out.trans (aI.out.mono aA.out.size)).mono az.out.size)
   have bI:=z9 (zck (u0:=iV k0) (u1:=iV k1) (u2:=.slice ka kn kc) (u3:=.slice (pA y2.heap.size) L.b.length L.b.length) (c:=iV 0) r0 r1 r2 (aK.trans (bQ.mono aK.size)) (Nat.le_refl _))
   have cJ:=z9 bQ
   have au:Hid (∀k,2<=k->k<=4->w.heap.size+k≠w.heap.size/\w.heap.size+k≠y1.heap.size):=fun k h1 h2=>by omega
   have H5:=z9 (aO.out _ _ 2 (.slice ka kn kc) (aO.out _ _ 1 (iV k1) (aO.out _ _ 0 (iV k0) h9 (au.out 2 (by omega) (by omega)).1 (au.out 2 (by omega) (by omega)).2) (au.out 2 (by omega) (by omega)).1 (au.out 2 (by omega) (by omega)).2) (au.out 2 (by omega) (by omega)).1 (au.out 2 (by omega) (by omega)).2)
   have H6:=z9 (aO.out _ _ 0 (.slice (pA y2.heap.size) L.b.length L.b.length) H5.out (au.out 3 (by omega) (by omega)).1 (au.out 3 (by omega) (by omega)).2)
   have H7:=z9 (aO.out _ _ 0 (iV 0) H6.out (au.out 4 (by omega) (by omega)).1 (au.out 4 (by omega) (by omega)).2)
   clear aK bQ r0 r1 r2 h9
   refine ze (i:=5) rfl (by kernel_rfl) (fun K hK=>?_)
   go_simp
   refine nxt hK.out (.inr H5.out) ?_
   clear hK K
   refine ze (i:=6) rfl (by kernel_rfl) (fun K hK=>?_)
   go_simp
   refine nxt hK.out (.inr H6.out) ?_
   clear hK K
   refine ze (i:=7) rfl (by kernel_rfl) (fun K hK=>?_)
   go_simp
   refine nxt hK.out (.inr H7.out) ?_
   clear hK K
   refine zq (by kernel_rfl) ?_ _
   refine UN.normal ?_
   gi_wp2_with fail
   obtain⟨V,hV,aG,⟨eD,bT⟩,⟨v0,v1,v2⟩,bg,hIV⟩:=bI.out
   rw [hV]
   have dg:=bf.out;have df:=an.out.size;have aE:=aJ.out;have eE:=cJ.out.size;have eF:=dh.out.size
   exact⟨by omega,fun q hq1 hq2=>(bT q (by omega)).trans (cJ.out.block q hq2),aG,k0,k1,_,_,(zR L ⟨p0,p1,p2,q0,q1,q2,r⟩ P T D),v0,v1,v2,bg _ _ (HK.out.gE (aA.out.trans (aI.out.mono aA.out.size))),hIV _ _ _ _ (by omega) dr.out,bL.out,zqu aN.out dB.out⟩
 case done =>
  intro D W hD hf hb hK
  have HF:=z9 hf
  have ao:Hid (Bw W5 W):=aP.out.trans (hb.mono aP.out.size)
  have aK:Bw w W:=aj.out.trans (ao.out.mono aj.out.size)
  obtain⟨r0,r1,r2⟩:=af.out W ao.out
  obtain⟨n0,n1,n2,n3,n4⟩:=ZF r0 r1 r2
  obtain⟨f0,f1,f2,f3,f4⟩:=XU r0 r1 r2
  have bI:=z9 (zck (u0:=iV 0) (u1:=iV 0) (u2:=.slice none 0 0) (u3:=.slice none 0 0) (c:=iV 1) r0 r1 r2 aK (Nat.le_refl _))
  have HK:=z9 hK
  have dj:=z9 hD
  clear hb aK r0 r1 r2 hK hf hD
  gi_wp2_with fail
  obtain⟨V,hV,aG,⟨-,bT⟩,⟨v0,v1,v2⟩,-⟩:=bI.out
  rw [hV]
  have hd:=dj.out;have dg:=bf.out;have df:=an.out.size;have aE:=aJ.out
  have bg:=(bT D (by omega)).trans HK.out
  obtain⟨g0,g1,g2,g3,g4⟩:=zcj (o:=.deferred none) v0 v1 v2 (show w.heap.size+5<=D by omega)
  refine⟨by simp,.inl ⟨_,_,rfl,run_takeDeferred bg,?_⟩⟩
  refine⟨.tuple #[.agg #[iV 0,iV 0,.slice none 0 0],.slice none 0 0,iV 1],by simp [results,results19,go_sem,g0,g1,g2,g3,g4],aG.trans (zas _ bg (by omega)),0,0,_,none,0,0,1,rfl,fun h=>?_,fun _=>.inl ⟨rfl,HF.out,rfl,zfd _⟩⟩
  rw [HM.out,HT.out] at h
  cases h
 case stop =>
  intro D W hD hr hK
  obtain⟨hb,k0,k1,kv,ov,K,h0,h1,h2,hk,hi,aH,dW,dX,dY,dZ⟩:=hr
  gi_wp2_with fail
  have dg:=bf.out;have df:=an.out.size;have aE:=aJ.out
  obtain⟨g0,g1,g2,g3,g4⟩:=zcj (o:=.deferred none) h0 h1 h2 (show w.heap.size+5<=D by omega)
  have hc:=Ck.put (.deferred none) hK rfl
  obtain⟨oa,oc,rfl,er⟩:=id hi
  refine⟨by simp,.inl ⟨_,_,rfl,run_takeDeferred hK,?_⟩⟩
  refine⟨.tuple #[.agg #[iV k0,iV k1,kv],.slice oa (yI L.b.length).length oc,iV 0],by simp [results,results19,go_sem,g0,g1,g2,g3,g4],hb.trans (zas _ hK (by omega)),k0,k1,kv,oa,_,oc,0,rfl,fun h=>?_,fun _=>.inr ⟨rfl,K,_,hk.ck hc,hi.ck hc,aH,dW,dX,dY,dZ⟩⟩
  rw [HM.out,HT.out] at h
  cases h
theorem ztf (p0 p1 p2 q0 q1 q2 r:Int) (L:Lp) (a0 a1 a2:Option Addr) (gA gB gC:Nat) (w:World) (cY:(zY L && yj ⟨p0,p1,p2,q0,q1,q2,r⟩)=false)
  (hL:zE w ((lv L a0 a1 a2 gA gB gC)) L) :
  Calls prog 19 #[(lv L a0 a1 a2 gA gB gC),(tv p0 p1 p2 q0 q1 q2 r)] w fun e w'=>zl6 L ⟨p0,p1,p2,q0,q1,q2,r⟩ w e w':=by
 obtain⟨W5,bP,aE,aR,aT,aU⟩:=zta w (.slice a0 L.l.length gA) (.slice a1 L.b.length gB) (.slice a2 L.o.length gC) (iV p0) (iV p1) (iV p2) (iV q0) (iV q1) (iV q2) (iV r)
 have aJ:=z9 aE
 have aj:=z9 aR
 have af:=z9 aT
 have ag:=z9 aU
 clear aE aR aT aU
 have HL:=z9 hL
 have cF:=z9 cY
 have cA:Hid (∀V:World,Bw w V->zl6 L ⟨p0,p1,p2,q0,q1,q2,r⟩ w (.returned (.tuple #[.agg #[iV 0,iV 0,.slice none 0 0],.slice none 0 0,iV 2])) V):=fun V hV=>⟨hV,0,0,_,none,0,0,2,rfl,fun _=>⟨rfl,rfl,zfd _⟩,fun h=>absurd (cF.out.symm.trans h) (by simp)⟩
 have cG:=z9 (fun y hy=>ZF (af.out y hy).1 (af.out y hy).2.1 (af.out y hy).2.2)
 have cx:=z9 (fun y hy=>XU (af.out y hy).1 (af.out y hy).2.1 (af.out y hy).2.2)
 have cw:=z9 (fun y hy=>zck (u0:=iV 0) (u1:=iV 0) (u2:=.slice none 0 0) (u3:=.slice none 0 0) (c:=iV 2) (af.out y hy).1 (af.out y hy).2.1 (af.out y hy).2.2 (aj.out.trans (hy.mono aj.out.size)) (Nat.le_refl _))
 have bG:=z9 (Yh _ L W5 (HL.out.gE aj.out))
 have bM:=z9 (fun W=>zjv ⟨p0,p1,p2,q0,q1,q2,r⟩ W)
 obtain⟨⟨l0,l1,l2⟩,⟨t0,t1,t2,t3,t4,t5,t6⟩,hz⟩:=ag.out W5 (Below.refl _ _)
 clear hL cY
 go_enter func19,ntmps19
 go_wp2_with fail
 refine bG.out.mono ?_
 rintro e x1 ⟨rfl,ay⟩
 have ae:=z9 ay
 clear bP l0 l1 l2 t0 t1 t2 t3 t4 t5 t6 hz ay
 obtain⟨⟨l0,l1,l2⟩,⟨t0,t1,t2,t3,t4,t5,t6⟩,hz⟩:=ag.out x1 ae.out
 obtain⟨n0,n1,n2,n3,n4⟩:=cG.out x1 ae.out
 obtain⟨f0,f1,f2,f3,f4⟩:=cx.out x1 ae.out
 cases hm:zY L with
 | false =>
   have aM:=z9 (cw.out x1 ae.out)
   go_wp2_with fail
   obtain⟨V,hV,aG,-,⟨v0,v1,v2⟩,-⟩:=aM.out
   obtain⟨g0,g1,g2,g3,g4⟩:=ZF v0 v1 v2
   rw [hV]
   exact bodyPost_ret (v:=.tuple #[.agg #[iV 0,iV 0,.slice none 0 0],.slice none 0 0,iV 2]) (by simp [results,results19,go_sem,g0,g1,g2,g3,g4]) rfl (cA.out _ aG)
 | true =>
   have bU:yj ⟨p0,p1,p2,q0,q1,q2,r⟩=false:=by have:=cF.out;rw [hm] at this;simpa using this
   have bN:=z9 (bU ▸ bM.out x1)
   clear hm bU
   go_wp2_with fail
   refine bN.out.mono ?_
   rintro e x2 ⟨rfl,ai⟩
   have an:Hid (Bw W5 x2):=ae.out.trans (ai.mono ae.out.size)
   clear l0 l1 l2 t0 t1 t2 t3 t4 t5 t6 hz ai n0 n1 n2 n3 n4 f0 f1 f2 f3 f4
   obtain⟨-,-,hz⟩:=ag.out x2 an.out
   obtain⟨n0,n1,n2,n3,n4⟩:=cG.out x2 an.out
   obtain⟨f0,f1,f2,f3,f4⟩:=cx.out x2 an.out
   have aM:=z9 (cw.out x2 an.out)
   go_wp2_with fail
   obtain⟨V,hV,aG,-,⟨v0,v1,v2⟩,-⟩:=aM.out
   obtain⟨g0,g1,g2,g3,g4⟩:=ZF v0 v1 v2
   rw [hV]
   exact bodyPost_ret (v:=.tuple #[.agg #[iV 0,iV 0,.slice none 0 0],.slice none 0 0,iV 2]) (by simp [results,results19,go_sem,g0,g1,g2,g3,g4]) rfl (cA.out _ aG)
theorem ztg (hM:zgt) (hO:zwy) (hR:zgu) (hE:zgq):zgo:=fun v t L w hL=>by
 have dN:=hL
 obtain⟨v0,v1,v2,rfl,⟨a0,gA,rfl,-⟩,⟨a1,gB,rfl,-⟩,⟨a2,gC,rfl,-⟩⟩:=dN
 obtain⟨p0,p1,p2,q0,q1,q2,r⟩:=t
 by_cases h:(zY L && yj ⟨p0,p1,p2,q0,q1,q2,r⟩)=true
 ·have h2:zY L=true/\yj ⟨p0,p1,p2,q0,q1,q2,r⟩=true:=by simpa using h
  exact zpg hM hO hR hE p0 p1 p2 q0 q1 q2 r L a0 a1 a2 gA gB gC w h2.1 h2.2 hL
 ·exact ztf p0 p1 p2 q0 q1 q2 r L a0 a1 a2 gA gB gC w (by simpa using h) hL
end
end Go.Proofs.YtjoapiafpahihabGreat
