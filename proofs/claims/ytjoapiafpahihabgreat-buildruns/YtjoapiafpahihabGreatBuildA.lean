import Derived.Test.YtjoapiafpahihabGreatYields
import Derived.Test.YtjoapiafpahihabGreatSchedOne
import Derived.Test.YtjoapiafpahihabGreatRegsE
import Derived.Shelf.Abstract
import Derived.OwnWalkIn
import Derived.TacticsInMore
import Derived.LoopNIn
import Derived.LoopIn
import Derived.Test.YtjoapiafpahihabGreatRef11A
import Derived.Test.YtjoapiafpahihabGreatBuildMakes
set_option maxHeartbeats 20000000
namespace Go.Proofs.YtjoapiafpahihabGreat
open Go.Proofs.Tryz
open Go.RowKit Go.Joins
set_option linter.unusedVariables false
set_option linter.unusedSimpArgs false
set_option maxRecDepth 8192
variable {A B x y w V:World} {v k0 k1 kv ov c:Value} {P:Int} {T:List Int} {L:Lp} {t:Tg} {g n:Nat} {e ta tb tc:TypeId} {K:Kn} {o:Obj}
section
attribute [local go_sem] Oper.semAt_some
theorem zK.ck {zs:List Int} (h:zK A v zs) (k:Ck A B):zK B v zs:=by
 obtain⟨a,cap,e,h1,h2,h3,h4⟩:=h
 refine⟨a,cap,e,h1,h2,h3,fun hp=>?_⟩
 obtain⟨b,off,e2,h5,h6⟩:=h4 hp
 exact⟨b,off,e2,Nat.lt_of_lt_of_le h5 k.size,fun i hi=>k.cell _ _ (h6 i hi)⟩
theorem YI.ck (h:YI A v P T) (k:Ck A B):YI B v P T:=by
 obtain⟨tv,e,h1⟩:=h
 exact⟨tv,e,h1.ck k⟩
def zrh (x:Int × Option Addr × Nat × Nat):Value:=.agg #[iV x.1,.slice x.2.1 x.2.2.1 x.2.2.2]
def zi3 (L:Lp) (t:Tg) (la:Bool) (x:Int × Option Addr × Nat × Nat) (A:World):Prop :=
 ∃T,YI A (zrh x) x.1 T/\zV L t x.1 T=true/\x.1<=Xc L t/\(la=true->zaf L t x.1 T=true)
theorem zi3.ck {la:Bool} {x:Int × Option Addr × Nat × Nat} (h:zi3 L t la x A) (k:Ck A B):zi3 L t la x B:=by
 obtain⟨T,h1,h2⟩:=h
 exact⟨T,h1.ck k,h2⟩
def zgt:Prop:=∀(v:Value) (t:Tg) (L:Lp) (gU:Int) (w:World),zE w v L->zY L=true->yj t=true->1<=gU->gU<=200 ->
 Calls prog 108 #[v,.agg t.cells,iV gU] w fun e w'=>Bw w w'/\∃P ta tc T,e=.returned (.tuple #[.agg #[iV P,.slice ta T.length tc],iV 0])/\zK w' (.slice ta T.length tc) T/\zV L t P T=true/\gU<=P/\P<=max gU (Xc L t)
def zwy:Prop:=∀(v:Value) (t:Tg) (L:Lp) (gU:Int) (w:World),zE w v L->zY L=true->yj t=true->1<=gU->gU<=200->Calls prog 107 #[v,.agg t.cells,iV gU] w fun e w'=>zzm L t gU w e w'
theorem zs8 (ht:yj t=true) (hP:Xc L t<=P):zaf L t P (Uh L t)=true:=by
 unfold zaf
 exact zL fun i hi=>decide_eq_true (zk9 ht hP i hi)
theorem zrl (hM:zgt) (hO:zwy) (p0 p1 p2 q0 q1 q2 r:Int) (L:Lp) (a0 a1 a2:Option Addr) (gA gB gC:Nat) (w:World) (b1 b2:Nat) (hm:zY L=true) (ht:yj ⟨p0,p1,p2,q0,q1,q2,r⟩=true)
  (hL:zE w ((lv L a0 a1 a2 gA gB gC)) L)
  (hb1:w.heap[b1]?=some (.cells #[.slice a0 L.l.length gA,.slice a1 L.b.length gB,.slice a2 L.o.length gC] 25 (0,0))) (hb2:w.heap[b2]?=some (.cells #[iV p0,iV p1,iV p2,iV q0,iV q1,iV q2,iV r] 28 (0,0))) :
  znw prog 106 #[.pointer (pA b1),.pointer (pA b2)] zrh (zi3 L ⟨p0,p1,p2,q0,q1,q2,r⟩) w:=by
 intro n l J0 J1 Jx W hJw hJg hY h0
 have HAL:=zgx hm ht
 have HMK:=z9 (fun W (h:zE W ((lv L a0 a1 a2 gA gB gC)) L) lst h1 h2=>hM _ ⟨p0,p1,p2,q0,q1,q2,r⟩ L lst W h hm ht h1 h2)
 have HON:=z9 (fun W (h:zE W ((lv L a0 a1 a2 gA gB gC)) L)=>hO _ ⟨p0,p1,p2,q0,q1,q2,r⟩ L 1 W h hm ht (by omega) (by omega))
 have HLV:Hid (∀A,J0 A->zE A ((lv L a0 a1 a2 gA gB gC)) L):=fun A h=>hL.gE (hJw A h)
 have HCL:Hid (∀A,J0 A->(A.cell? (ad b1 0)=some (.slice a0 L.l.length gA)/\A.cell? (ad b1 1)=some (.slice a1 L.b.length gB)/\A.cell? (ad b1 2)=some (.slice a2 L.o.length gC))/\A.cell? (ad b2 0)=sI p0/\A.cell? (ad b2 1)=sI p1/\A.cell? (ad b2 2)=sI p2/\A.cell? (ad b2 3)=sI q0/\A.cell? (ad b2 4)=sI q1/\A.cell? (ad b2 5)=sI q2/\A.cell? (ad b2 6)=sI r):=fun A h=>by
  have h1:=((hJw A h).block b1 (Array.getElem?_eq_some_iff.1 hb1).1).trans hb1
  have h2:=((hJw A h).block b2 (Array.getElem?_eq_some_iff.1 hb2).1).trans hb2
  refine⟨⟨?_,?_,?_⟩,?_,?_,?_,?_,?_,?_,?_⟩
  all_goals first | (rw [cell_of_block h1];rfl) | (rw [cell_of_block h2];rfl)
 obtain⟨AW,hAW⟩:∃x,Xc L ⟨p0,p1,p2,q0,q1,q2,r⟩=x:=⟨_,rfl⟩
 have HAW:=z9 hAW
 have HJG:=z9 hJg
 have HY:=z9 hY
 have HJ0:=z9 h0
 have HSL:=z9 (zg6 (P:=AW) hm ht (by rw [hAW];omega) (by omega))
 have HSO:=z9 (zs8 (P:=AW) ht (by rw [hAW];omega))
 rw [hAW] at HAL
 obtain⟨⟨l0,l1,l2⟩,t0,t1,t2,t3,t4,t5,t6⟩:=HCL.out _ h0
 have hz1:=(Array.getElem?_eq_some_iff.1 hb1).1
 have hz2:=(Array.getElem?_eq_some_iff.1 hb2).1
 have HZW:=(hJw _ h0).size
 have HJW:=z9 hJw
 clear hm ht hL hb1 hb2 hJw hJg hY h0 hAW
 refine callsIn_of_wp func106 rfl trivial ?_ rfl
 simp only [ntmps106,List.size_toArray,List.length_cons,List.length_nil,Nat.reduceAdd,Nat.reduceSub,Array.replicate_succ,Array.replicate_zero,List.push_toArray,List.append_toArray,List.nil_append,List.cons_append]
 gi_wp2_with fail
 refine XQ (HON.out _ (HLV.out _ HJ0.out)) ?_
 rintro e x1 ⟨hb,g,tc,rfl,hg,hI⟩
 have HX1:=z9 hb
 have HI1:=z9 hI
 have hax:max 1 AW=AW:=by omega
 rw [HAW.out,hax]
 clear l0 l1 l2 t0 t1 t2 t3 t4 t5 t6 hb hI hax
 obtain⟨Wa,hWa⟩:∃Wa,x1.alloc (.cells #[iV AW,.slice (pA g) L.b.length tc] 49)=Wa:=⟨_,rfl⟩
 have HWa:=z9 hWa
 have HJA:Hid (J0 Wa):=by
  show J0 Wa
  rw [<-hWa];exact HJG.out _ _ (HJG.out _ _ HJ0.out HX1.out) (below_alloc1 _ _)
 have HCA:Hid (∀A,Ck Wa A->A.cell? (ad x1.heap.size 0)=sI AW/\A.cell? (ad x1.heap.size 1)=some (.slice (pA g) L.b.length tc)):=fun A h=>by
  have hb:Wa.heap[x1.heap.size]?=some (.cells #[iV AW,.slice (pA g) L.b.length tc] 49 (0,0)):=by rw [<-HWa.out];exact zD _ _ _
  refine⟨h.cell _ _ ?_,h.cell _ _ ?_⟩ <;> (rw [cell_of_block hb];rfl)
 have HLAST:Hid (∀k A,J0 A->Ck Wa A->YieldAt Fence.wide k prog l #[.agg #[iV AW,.slice (pA g) L.b.length tc]] A fun e B=>(e=.returned (.bool true)/\J1 B)\/(e=.returned (.bool false)/\Jx B)):=fun k A hj hc=>by
  refine (HY.out k true (AW,some (ad g 0),L.b.length,tc) A hj ⟨_,YI.ck (A:=Wa) ⟨_,rfl,?_⟩ hc,HSL.out,Int.le_of_eq HAW.out.symm,fun _=>HSO.out⟩).mono fun e B h=>h.imp (fun h=>⟨h.1,h.2.2.2 rfl⟩) id
  rw [<-HWa.out];exact HI1.out.gE (below_alloc1 _ _)
 have hxz:x1.heap.size<Wa.heap.size:=by rw [<-hWa];simp
 have HCK0:Hid (Ck Wa Wa):=Ck.gE (Below.refl _ _)
 have HPR:=z9 (fun (wr:World) (lst:Int) (h:J0 wr) h1 h2=>HMK.out wr (HLV.out wr h) lst h1 h2)
 have hal1:=HAL.1
 have hal2:=HAL.2
 clear HAL
 gi_wp2_with fail
 clear hWa
 gi_loopw [5] (fun lv wr=>∃lst:Int,lv=iV lst/\1<=lst/\lst<=AW/\J0 wr/\Ck Wa wr) (fun lv _=>(AW - intOf lv).toNat)
 case atStart=>exact⟨1,rfl,Int.le_refl _,hal1,HJA.out,HCK0.out⟩
 case round =>
  obtain⟨lst,rfl,hl1,hl2,hj,hck⟩:=hrel
  have HJ:=z9 hj
  have HCK:=z9 hck
  obtain⟨m0,m1⟩:=HCA.out _ hck
  obtain⟨⟨l0,l1,l2⟩,t0,t1,t2,t3,t4,t5,t6⟩:=HCL.out _ hj
  have hz:=hck.size
  clear hj hck
  by_cases hlt:lst<AW
  ·gi_wp2_with fail
   refine XQ (HPR.out wr lst HJ.out hl1 (by omega)) ?_
   rintro e x2 ⟨hb,P,ta,tc2,T,rfl,hI2,hlg,hp1,hp2⟩
   rw [HAW.out] at hp2
   have HB2:=z9 hb
   have HI2:=z9 hI2
   have HLG:=z9 hlg
   have hp3:P<=AW:=by omega
   obtain⟨Wp,hWp⟩:∃Wp,x2.alloc (.cells #[iV P,.slice ta T.length tc2] 49)=Wp:=⟨_,rfl⟩
   have HWP:=z9 hWp
   have hbp:Bw wr Wp:=by rw [<-hWp];exact hb.trans ((below_alloc1 _ _).mono hb.size)
   have HJP:Hid (J0 Wp):=HJG.out _ _ HJ.out hbp
   have HCP:Hid (Ck Wa Wp):=HCK.out.trans (Ck.gE hbp)
   have HPP:Hid (Wp.heap[x2.heap.size]?=some (.cells #[iV P,.slice ta T.length tc2] 49 (0,0))):=by show _=_;rw [<-hWp];exact zD _ _ _
   have HPX:Hid (YI Wp (.agg #[iV P,.slice ta T.length tc2]) P T):=by
    refine⟨_,rfl,?_⟩
    rw [<-hWp];exact hI2.gE (below_alloc1 _ _)
   have hx2z:=hb.size
   clear m0 m1 l0 l1 l2 t0 t1 t2 t3 t4 t5 t6 hb hI2 hlg hbp hp2
   obtain⟨m0,m1⟩:=HCA.out _ HCP.out
   have n0:Wp.cell? (ad x2.heap.size 0)=sI P:=by rw [cell_of_block HPP.out];rfl
   have n1:Wp.cell? (ad x2.heap.size 1)=some (.slice ta T.length tc2):=by rw [cell_of_block HPP.out];rfl
   by_cases hge:AW<=P
   ·obtain⟨fn,tmps,assign,body,hy,hR⟩:=HLAST.out (n - 1) Wp HJP.out HCP.out
    have HR:=z9 hR
    clear hR
    gi_wp2_with fail
    refine⟨fun h=>absurd h (by simp [Fence.wide]),HR.out.mono ?_⟩
    rintro e W3 (⟨rfl,h⟩ | ⟨rfl,h⟩)
    ·gi_wp2_with fail
     go_end0
     exact⟨⟨_,rfl⟩,.inl h⟩
    ·gi_wp2_with fail
     go_end0
     exact⟨⟨_,rfl⟩,.inr h⟩
   ·obtain⟨fn,tmps,assign,body,hy,hR⟩:=HY.out (n - 1) false (P,ta,T.length,tc2) Wp HJP.out ⟨_,HPX.out,HLG.out,by rw [HAW.out];exact hp3,fun h=>absurd h (by simp)⟩
    have HR:=z9 hR
    clear hR
    dsimp only [zrh] at hy
    gi_wp2_with fail
    refine⟨fun h=>absurd h (by simp [Fence.wide]),HR.out.mono ?_⟩
    rintro e W3 (⟨rfl,hc3,hj3,-⟩ | ⟨rfl,h⟩)
    ·have HC3:=z9 hc3
     have HJ3:Hid (J0 W3):=by show J0 W3;simpa using hj3
     have k0:W3.cell? (ad x2.heap.size 0)=sI P:=hc3.cell _ _ n0
     have hz3:x2.heap.size<W3.heap.size:=Nat.lt_of_lt_of_le (Array.getElem?_eq_some_iff.1 HPP.out).1 hc3.size
     clear hc3 hj3 m0 m1 n0 n1 hy
     gi_wp2_with fail
     go_roundw
     case rel=>exact⟨P+1,by go_num,by omega,by omega,HJ3.out,HCP.out.trans HC3.out⟩
     case measure=>simp [intOf];omega
    ·gi_wp2_with fail
     refine bodyPost_ret (results_none rfl _ _ _) rfl ?_
     exact⟨⟨_,rfl⟩,.inr h⟩
  ·obtain⟨fn,tmps,assign,body,hy,hR⟩:=HLAST.out (n - 1) wr HJ.out HCK.out
   have HR:=z9 hR
   clear hR
   gi_wp2_with fail
   refine⟨fun h=>absurd h (by simp [Fence.wide]),HR.out.mono ?_⟩
   rintro e W3 (⟨rfl,h⟩ | ⟨rfl,h⟩)
   ·gi_wp2_with fail
    go_end0
    exact⟨⟨_,rfl⟩,.inl h⟩
   ·gi_wp2_with fail
    go_end0
    exact⟨⟨_,rfl⟩,.inr h⟩
theorem zrm (v0 v1 v2 p0 p1 p2 q0 q1 q2 r:Value) (w:World):Calls prog 54 #[.agg #[v0,v1,v2],.agg #[p0,p1,p2,q0,q1,q2,r]] w fun e w'=>e=.returned (.func (.func 106) #[] #[.pointer (pA w.heap.size),.pointer (pA (w.heap.size+1))])/\w'=(w.alloc (.cells #[v0,v1,v2] 25)).alloc (.cells #[p0,p1,p2,q0,q1,q2,r] 28):=by
 go_enter func54,ntmps54
 go_wp2_with fail
 go_ret
 exact⟨rfl,rfl⟩
end
theorem zgk {a b d a' b' d':Value} (h:x.heap[g]?=some (.cells #[a,b,d] e (0,0))) :
  (((x.setCell (ad g 0) a').setCell (ad g 1) b').setCell (ad g 2) d').cell? (ad g 0)=some a'/\(((x.setCell (ad g 0) a').setCell (ad g 1) b').setCell (ad g 2) d').cell? (ad g 1)=some b'/\(((x.setCell (ad g 0) a').setCell (ad g 1) b').setCell (ad g 2) d').cell? (ad g 2)=some d':=by
 have hb:(((x.setCell (ad g 0) a').setCell (ad g 1) b').setCell (ad g 2) d').heap[g]?=some (.cells #[a',b',d'] e (0,0)):=by simp [World.setCell,Array.getElem?_modify,h]
 refine⟨?_,?_,?_⟩ <;> (rw [cell_of_block hb];rfl)
theorem xF.set {i:Nat} {cs:Array Value} {z:Nat × Nat} (h:xF x v K) (hb:x.heap[g]?=some (.cells cs e z)) (hc:cs.size<10) (u:Value):xF (x.setCell (ad g i) u) v K:=by
 obtain⟨kv,e1,a,cap,e2,h1,h2,h3⟩:=h
 refine⟨kv,e1,a,cap,e2,h1,h2,fun hp=>?_⟩
 obtain⟨b,off,e3,h4,h5⟩:=h3 hp
 have hne:b≠g:=fun hh=>by
  subst hh
  have h6:=h5 0 hp 9 (by omega)
  rw [show (yS (zp K.ops 0))[9]?=some (iV (zp K.ops 0).nn) from rfl] at h6
  have h7:(x.cell? (ad b (off+0*10+9))).isSome:=by rw [h6];rfl
  simp [World.cell?,hb] at h7
  omega
 refine⟨b,off,e3,by simpa [World.setCell] using h4,fun i hi j hj=>?_⟩
 rw [Zg (Below.heap_setCell _ _ _ _ hne)]
 exact h5 i hi j hj
theorem zK.set {c:Nat} {b:Nat} (h:zK y (.slice (pA g) n c) T) (hb:b≠g) (i:Nat) (v:Value):zK (y.setCell (ad b i) v) (.slice (pA g) n c) T:=by
 obtain⟨a,cap,e,h1,h2,h3,h4⟩:=h
 refine⟨a,cap,e,h1,h2,h3,fun hp=>?_⟩
 obtain⟨b',off,e2,h5,h6⟩:=h4 hp
 injection e with e3
 rw [e2] at e3
 injection e3 with e3
 injection e3 with e3 e4
 refine⟨b',off,e2,by simpa [World.setCell] using h5,fun i hi=>?_⟩
 rw [Zg (Below.heap_setCell _ _ _ _ (show b'≠b by omega))]
 exact h6 i hi
def zgq:Prop:=∀(v pv dv:Value) (t:Tg) (L:Lp) (P:Int) (T D:List Int) (w:World),zE w v L->YI w pv P T->zK w dv D->zV L t P T=true->xj L t D=true->Calls prog 109 #[v,.agg t.cells,pv,dv] w (zcb L t P T D w)
def zza (L:Lp) (t:Tg) (P:Int) (T:List Int) (w:World) (e:Ending) (w':World):Prop :=
 Bw w w'/\∃k0 k1 kv c,e=.returned (.tuple #[.agg #[iV k0,iV k1,kv],iV c]) /\
  ((c=1/\kv=.slice none 0 0/\¬(5*(L.b.length:Int)<=t.r/\zaf L t P T=true)) \/
   (c=0/\∃D,xF w' (.agg #[iV k0,iV k1,kv]) (zR L t P T D)/\zQ L t (zR L t P T D) (yI L.b.length)=true))
theorem zhg (hR:zgu) (hE:zgq) (p0 p1 p2 q0 q1 q2 r:Int) (L:Lp) (a0 a1 a2:Option Addr) (gA gB gC:Nat) (P:Int) (T:List Int) (ta:Option Addr) (tl tc:Nat) (w:World)
  (hL:zE w ((lv L a0 a1 a2 gA gB gC)) L) (hP:YI w (.agg #[iV P,.slice ta tl tc]) P T) (hlg:zV L ⟨p0,p1,p2,q0,q1,q2,r⟩ P T=true) :
  Calls prog 55 #[(lv L a0 a1 a2 gA gB gC),(tv p0 p1 p2 q0 q1 q2 r),.agg #[iV P,.slice ta tl tc]] w fun e w'=>zza L ⟨p0,p1,p2,q0,q1,q2,r⟩ P T w e w':=by
 have HL:=z9 hL
 have HP:=z9 hP
 have HRG:=z9 (fun W (hW:Bw w W)=>hR _ _ ⟨p0,p1,p2,q0,q1,q2,r⟩ L P T W (HL.out.gE hW) (HP.out.gE hW) hlg)
 have HEM:=z9 (fun W dv D (hW:Bw w W) (hD:zK W dv D) hdo=>hE _ _ dv ⟨p0,p1,p2,q0,q1,q2,r⟩ L P T D W (HL.out.gE hW) (HP.out.gE hW) hD hlg hdo)
 have HLG:=z9 hlg
 obtain⟨W4,hW4⟩:∃W4,(((w.alloc (.cells #[.slice a0 L.l.length gA,.slice a1 L.b.length gB,.slice a2 L.o.length gC] 25)).alloc (.cells #[iV p0,iV p1,iV p2,iV q0,iV q1,iV q2,iV r] 28)).alloc (.cells #[iV P,.slice ta tl tc] 49)).alloc (.cells #[iV 0,iV 0,.slice none 0 0] 31)=W4:=⟨_,rfl⟩
 have HB4:Hid (Bw w W4):=by show Below _ _ _;rw [<-hW4];exact ((below_alloc3 _ _ _ _).alloc (by simp;omega) _)
 have HS4:Hid (W4.heap.size=w.heap.size+4):=by show _=_;rw [<-hW4];simp
 have e1:(w.alloc (.cells #[.slice a0 L.l.length gA,.slice a1 L.b.length gB,.slice a2 L.o.length gC] 25)).heap.size=w.heap.size+1:=by simp
 have e2:((w.alloc (.cells #[.slice a0 L.l.length gA,.slice a1 L.b.length gB,.slice a2 L.o.length gC] 25)).alloc (.cells #[iV p0,iV p1,iV p2,iV q0,iV q1,iV q2,iV r] 28)).heap.size=w.heap.size+1+1:=by simp
 have e3:(((w.alloc (.cells #[.slice a0 L.l.length gA,.slice a1 L.b.length gB,.slice a2 L.o.length gC] 25)).alloc (.cells #[iV p0,iV p1,iV p2,iV q0,iV q1,iV q2,iV r] 28)).alloc (.cells #[iV P,.slice ta tl tc] 49)).heap.size=w.heap.size+1+1+1:=by simp
 have HCL:Hid (∀y,Bw W4 y->((y.cell? (ad w.heap.size 0)=some (.slice a0 L.l.length gA)/\y.cell? (ad w.heap.size 1)=some (.slice a1 L.b.length gB)/\y.cell? (ad w.heap.size 2)=some (.slice a2 L.o.length gC))/\(y.cell? (ad (w.heap.size+1) 0)=sI p0/\y.cell? (ad (w.heap.size+1) 1)=sI p1/\y.cell? (ad (w.heap.size+1) 2)=sI p2/\y.cell? (ad (w.heap.size+1) 3)=sI q0/\y.cell? (ad (w.heap.size+1) 4)=sI q1/\y.cell? (ad (w.heap.size+1) 5)=sI q2/\y.cell? (ad (w.heap.size+1) 6)=sI r)/\(y.cell? (ad (w.heap.size+1+1) 0)=sI P/\y.cell? (ad (w.heap.size+1+1) 1)=some (.slice ta tl tc)))/\y.heap[w.heap.size+1+1+1]?=some (.cells #[iV 0,iV 0,.slice none 0 0] 31 (0,0))):=fun y hy=>by
  have hs:=HS4.out
  have b3:y.heap[w.heap.size+1+1+1]?=some (.cells #[iV 0,iV 0,.slice none 0 0] 31 (0,0)):=by
   rw [hy.block _ (by omega),<-hW4,<-e3];exact zD _ _ _
  have b2:y.heap[w.heap.size+1+1]?=some (.cells #[iV P,.slice ta tl tc] 49 (0,0)):=by
   rw [hy.block _ (by omega),<-hW4,Below.heap_alloc _ _ _ (by omega),<-e2];exact zD _ _ _
  have b1:y.heap[w.heap.size+1]?=some (.cells #[iV p0,iV p1,iV p2,iV q0,iV q1,iV q2,iV r] 28 (0,0)):=by
   rw [hy.block _ (by omega),<-hW4,Below.heap_alloc _ _ _ (by omega),Below.heap_alloc _ _ _ (by omega),<-e1];exact zD _ _ _
  have b0:y.heap[w.heap.size]?=some (.cells #[.slice a0 L.l.length gA,.slice a1 L.b.length gB,.slice a2 L.o.length gC] 25 (0,0)):=by
   rw [hy.block _ (by omega),<-hW4,Below.heap_alloc _ _ _ (by omega),Below.heap_alloc _ _ _ (by omega),Below.heap_alloc _ _ _ (by omega)];exact zD _ _ _
  refine⟨⟨⟨?_,?_,?_⟩,⟨?_,?_,?_,?_,?_,?_,?_⟩,?_,?_⟩,b3⟩
  all_goals first | (rw [cell_of_block b0];rfl) | (rw [cell_of_block b1];rfl) | (rw [cell_of_block b2];rfl)
 have HSY:Hid (∀y,Bw W4 y->w.heap.size+4<=y.heap.size):=fun y hy=>by have:=hy.size;have:=HS4.out;omega
 obtain⟨⟨⟨l0,l1,l2⟩,⟨t0,t1,t2,t3,t4,t5,t6⟩,s0,s1⟩,-⟩:=HCL.out W4 (Below.refl _ _)
 have hz4:=HSY.out W4 (Below.refl _ _)
 clear hL hP hlg e1 e2 e3
 go_enter func55,ntmps55
 go_wp2_with fail
 refine (HRG.out W4 HB4.out).mono ?_
 rintro e x1 ⟨hb,da,dl,dc,c,rfl,hyes⟩
 have HX1:=z9 hb
 clear hb l0 l1 l2 t0 t1 t2 t3 t4 t5 t6 s0 s1 hz4 hW4
 obtain⟨⟨⟨l0,l1,l2⟩,⟨t0,t1,t2,t3,t4,t5,t6⟩,s0,s1⟩,hkb⟩:=HCL.out x1 HX1.out
 have hz1:=HSY.out x1 HX1.out
 rcases hyes with ⟨rfl,rfl,hno⟩ | ⟨rfl,D,hD,hdo,htk⟩
 ·have k0:x1.cell? (ad (w.heap.size+1+1+1) 0)=sI 0:=by rw [cell_of_block hkb];rfl
  have k1:x1.cell? (ad (w.heap.size+1+1+1) 1)=sI 0:=by rw [cell_of_block hkb];rfl
  have k2:x1.cell? (ad (w.heap.size+1+1+1) 2)=some (.slice none 0 0):=by rw [cell_of_block hkb];rfl
  have f0:x1.frozen? (ad (w.heap.size+1+1+1) 0)=false:=by simp [World.frozen?,hkb]
  have f1:x1.frozen? (ad (w.heap.size+1+1+1) 1)=false:=by simp [World.frozen?,hkb]
  have f2:x1.frozen? (ad (w.heap.size+1+1+1) 2)=false:=by simp [World.frozen?,hkb]
  have HF:Hid (∀y,Bw w y->zza L ⟨p0,p1,p2,q0,q1,q2,r⟩ P T w (.returned (.tuple #[.agg #[iV 0,iV 0,.slice none 0 0],iV 1])) y):=fun y hy=>⟨hy,0,0,_,1,rfl,.inl ⟨rfl,rfl,hno⟩⟩
  have HBX:Hid (Bw w x1):=HB4.out.trans (HX1.out.mono HB4.out.size)
  have HKB:=z9 hkb
  have HTC:=z9 (zgk (a':=iV 0) (b':=iV 0) (d':=.slice none 0 0) hkb)
  clear hno hkb
  go_wp2_with fail
  obtain⟨g0,g1,g2⟩:=HTC.out
  exact bodyPost_ret (v:=.tuple #[.agg #[iV 0,iV 0,.slice none 0 0],iV 1]) (by simp [results,results55,go_sem,g0,g1,g2]) rfl (HF.out _ (((HBX.out.setCell (by show w.heap.size<=w.heap.size+1+1+1;omega) _).setCell (by show w.heap.size<=w.heap.size+1+1+1;omega) _).setCell (by show w.heap.size<=w.heap.size+1+1+1;omega) _))
 ·have HD:=z9 hD
  have HBX:Hid (Bw w x1):=HB4.out.trans (HX1.out.mono HB4.out.size)
  obtain⟨da2,dc2,hds,-⟩:=id hD
  injection hds with d1 d2 d3
  subst d1;subst d2;subst d3
  have hek:zir L ⟨p0,p1,p2,q0,q1,q2,r⟩ P T D=zR L ⟨p0,p1,p2,q0,q1,q2,r⟩ P T D/\ziq L ⟨p0,p1,p2,q0,q1,q2,r⟩ P T D=0:=by unfold zir ziq;rw [HLG.out,hdo];exact⟨rfl,rfl⟩
  have HEK:=z9 hek
  have HTK:=z9 htk
  have HEP:=z9 (HEM.out x1 _ D HBX.out HD.out hdo)
  clear hD hdo htk hek hkb
  go_wp2_with fail
  refine HEP.out.mono ?_
  rintro e x2 ⟨hb2,k0,k1,kv,rfl,hk⟩
  rw [HEK.out.1] at hk
  rw [HEK.out.2]
  have HB2:=z9 hb2
  have HXX:Hid (Bw W4 x2):=HX1.out.trans (hb2.mono HX1.out.size)
  obtain⟨-,hkb⟩:=HCL.out x2 HXX.out
  have hz2:=HSY.out x2 HXX.out
  have HK:=z9 hk
  obtain⟨kl,hkl,ka,kc,rfl,-⟩:=id hk
  simp only [Value.agg.injEq,Array.mk.injEq,List.cons.injEq,and_true] at hkl
  obtain⟨-,-,rfl⟩:=hkl
  have c0:x2.cell? (ad (w.heap.size+1+1+1) 0)=sI 0:=by rw [cell_of_block hkb];rfl
  have c1:x2.cell? (ad (w.heap.size+1+1+1) 1)=sI 0:=by rw [cell_of_block hkb];rfl
  have c2:x2.cell? (ad (w.heap.size+1+1+1) 2)=some (.slice none 0 0):=by rw [cell_of_block hkb];rfl
  have f0:x2.frozen? (ad (w.heap.size+1+1+1) 0)=false:=by simp [World.frozen?,hkb]
  have f1:x2.frozen? (ad (w.heap.size+1+1+1) 1)=false:=by simp [World.frozen?,hkb]
  have f2:x2.frozen? (ad (w.heap.size+1+1+1) 2)=false:=by simp [World.frozen?,hkb]
  have HKB:=z9 hkb
  generalize hkn:(zR L ⟨p0,p1,p2,q0,q1,q2,r⟩ P T D).ops.length=kn at *
  have HTC:=z9 (zgk (a':=iV k0) (b':=iV k1) (d':=.slice ka kn kc) hkb)
  have HKN:=z9 hkn
  clear l0 l1 l2 t0 t1 t2 t3 t4 t5 t6 s0 s1 hb2 hk hkb hkn
  go_wp2_with fail
  obtain⟨g0,g1,g2⟩:=HTC.out
  refine bodyPost_ret (v:=.tuple #[.agg #[iV k0,iV k1,.slice ka kn kc],iV 0]) (by simp [results,results55,go_sem,g0,g1,g2]) rfl ?_
  have hbw:Bw w x2:=HBX.out.trans (HB2.out.mono HBX.out.size)
  refine⟨((hbw.setCell (by show w.heap.size<=w.heap.size+1+1+1;omega) _).setCell (by show w.heap.size<=w.heap.size+1+1+1;omega) _).setCell (by show w.heap.size<=w.heap.size+1+1+1;omega) _,k0,k1,_,0,rfl,.inr ⟨rfl,D,?_,HTK.out⟩⟩
  have h1:=HK.out.set (i:=0) HKB.out (by show 3<10;omega) (iV k0)
  have b1:(x2.setCell (ad (w.heap.size+1+1+1) 0) (iV k0)).heap[w.heap.size+1+1+1]?=some (.cells #[iV k0,iV 0,.slice none 0 0] 31 (0,0)):=by simp [World.setCell,Array.getElem?_modify,HKB.out]
  have h2:=h1.set (i:=1) b1 (by show 3<10;omega) (iV k1)
  have b2:((x2.setCell (ad (w.heap.size+1+1+1) 0) (iV k0)).setCell (ad (w.heap.size+1+1+1) 1) (iV k1)).heap[w.heap.size+1+1+1]?=some (.cells #[iV k0,iV k1,.slice none 0 0] 31 (0,0)):=by simp [World.setCell,Array.getElem?_modify,HKB.out]
  exact h2.set (i:=2) b2 (by show 3<10;omega) _
theorem zj3 (n:Nat) (x:World) (hn:n<=16):Calls prog 56 #[iV (n:Int)] x fun e w'=>e=.returned (.slice (pA x.heap.size) n n)/\Bw x w'/\zK w' (.slice (pA x.heap.size) n n) (yI n):=by
 have hmk:=run_make_row' (P:=prog) 22 3 (iV 0) 8 underlying22 Tryz.j3 rfl .i64 .i64 n (by omega) (by omega)
 have H0:Hid (zu (x.alloc (.cells (madeCells #[iV 0] n) 3)) x.heap.size 3 n (fun v=>iV (if v<0 then (v:Int) else 0))):=zu.zeros x _ n _
 have HB0:Hid (Bw x (x.alloc (.cells (madeCells #[iV 0] n) 3))):=below_alloc1 _ _
 go_enter func56,ntmps56
 go_wp2_with fail
 go_loopw [9] (fun i wr=>∃k:Nat,k<=n/\i=iV k/\Bw x wr/\zu wr x.heap.size 3 n (fun v=>iV (if v<k then (v:Int) else 0))) (fun i _=>n - (intOf i).toNat)
 case atStart=>exact⟨0,by omega,rfl,HB0.out,H0.out⟩
 case round =>
  clear H0 HB0 hmk
  obtain⟨k,hk,rfl,gH,gI⟩:=hrel
  have HB:=z9 gH
  have gS:=z9 gI
  by_cases hkl:k<n
  ·have hki:(k:Int)<(n:Int):=by omega
   have c0:wr.cell? (ad x.heap.size k)=sI 0:=by rw [gI.cell hkl];simp
   have hz:=gI.lt
   have fz:=gI.frozen k
   clear gH gI
   go_wp2_with fail
   go_roundw
   case rel =>
    refine⟨k+1,by omega,by go_num,HB.out.setCell (Nat.le_refl _) _,(gS.out.set k _ hkl).congr fun i hi=>?_⟩
    by_cases e:i=k
    ·subst e;rw [if_pos rfl,if_pos (Nat.lt_succ_self _)]
    ·rw [if_neg e];congr 1;by_cases h:i<k
     ·rw [if_pos h,if_pos (by omega)]
     ·rw [if_neg h,if_neg (by omega)]
   case measure=>simp [intOf];omega
  ·have e:k=n:=by omega
   subst e
   have hki:¬(k:Int)<(k:Int):=by omega
   have HF:Hid (zK wr (.slice (pA x.heap.size) k k) (yI k)):=by
    refine⟨some (ad x.heap.size 0),k,by rw [VD],by rw [VD];exact Nat.le_refl _,by unfold maxLen;omega,fun i hi=>?_,fun _=>⟨x.heap.size,0,rfl,gI.lt,fun i hi=>?_⟩⟩
    ·rw [VD] at hi;rw [zab hi];omega
    ·rw [VD] at hi;rw [Nat.zero_add,zab hi,gI.cell hi,if_pos hi]
   clear gH gI
   go_wp2_with fail
   exact bodyPost_ret (v:=.slice (pA x.heap.size) k k) (by simp [results,results56,go_sem]) rfl ⟨rfl,HB.out,HF.out⟩
section
attribute [local go_sem] Oper.semAt_some
theorem xF.ck (h:xF A v K) (k:Ck A B):xF B v K:=by
 obtain⟨kv,e,a,cap,e1,h1,h2,h4⟩:=h
 refine⟨kv,e,a,cap,e1,h1,h2,fun hp=>?_⟩
 obtain⟨b,off,e2,h5,h6⟩:=h4 hp
 refine⟨b,off,e2,Nat.lt_of_lt_of_le h5 k.size,fun i hi j hj=>?_⟩
 have h7:=h6 i hi j hj
 obtain⟨u,hu⟩:∃u,(yS (zp K.ops i))[j]?=some u:=⟨_,Array.getElem?_eq_getElem (show j<(yS (zp K.ops i)).size from hj)⟩
 rw [hu] at h7 ⊢
 exact k.cell _ _ h7
def zl6 (L:Lp) (t:Tg) (w:World) (e:Ending) (w':World):Prop :=
 Bw w w'/\∃k0 k1 kv oa ol oc c,e=.returned (.tuple #[.agg #[iV k0,iV k1,kv],.slice oa ol oc,iV c]) /\
  ((zY L && yj t)=false->c=2/\ol=0/\xF w' (.agg #[iV k0,iV k1,kv]) ⟨0,0,[]⟩) /\
  ((zY L && yj t)=true->(c=1/\t.r<5*(L.b.length:Int)/\ol=0/\xF w' (.agg #[iV k0,iV k1,kv]) ⟨0,0,[]⟩)\/(c=0/\∃K O,xF w' (.agg #[iV k0,iV k1,kv]) K/\zK w' (.slice oa ol oc) O/\zQ L t K O=true/\(X7 L t:Int)<=K.pc/\(ZA L t:Int)<=K.pc/\K.pc<=Xc L t/\K.st*K.pc<=1200))
theorem zfd (w:World):xF w (.agg #[iV 0,iV 0,.slice none 0 0]) ⟨0,0,[]⟩:=⟨_,rfl,none,0,rfl,Nat.le_refl _,Nat.zero_le _,fun h=>absurd h (Nat.lt_irrefl _)⟩
theorem zn8 (h:zV L t P T=true):yp P T L.b.length*P<=1200:=by
 obtain⟨hm,hmt,hp1,hp2,hlen,hT,-⟩:=yd h
 have h1:yp P T L.b.length<=1000 / P+1:=zbf P T _ (by have:=Int.ediv_nonneg (show (0:Int)<=1000 by omega) (show 0<=P by omega);omega) _ fun s hs=>by
  have h2:=zo hT s (by omega)
  unfold XN at h2
  simp only [Bool.and_eq_true,decide_eq_true_eq] at h2
  have h3:=zx.1 h2.1
  have h4:=Int.ediv_le_ediv (show 0<P by omega) h3.2
  omega
 have h2:=Int.mul_le_mul_of_nonneg_right h1 (show 0<=P by omega)
 have h3:=Int.ediv_mul_le 1000 (show P≠0 by omega)
 have h4:(1000 / P+1)*P=1000 / P*P+P:=by rw [Int.add_mul,Int.one_mul]
 omega
theorem zqu {D:List Int} (hlg:zV L t P T=true) (hP:P<=Xc L t):(X7 L t:Int)<=(zR L t P T D).pc/\(ZA L t:Int)<=(zR L t P T D).pc/\(zR L t P T D).pc<=Xc L t/\(zR L t P T D).st*(zR L t P T D).pc<=1200:=by
 obtain⟨-,-,hp1,-,-⟩:=yd hlg
 have hPn:((P.toNat:Nat):Int)=P:=Int.toNat_of_nonneg (by omega)
 have h2:zV L t (P.toNat:Int) T=true:=by rw [hPn];exact hlg
 have h3:=zjc h2
 have h4:=zhh h2
 exact⟨by show _<=P;omega,by show _<=P;omega,hP,zn8 hlg⟩
theorem zch {x0 x1 x2 p0 p1 p2 q0 q1 q2 r:Value} (h:Below (w.heap.size+5) (((((w.alloc (.cells #[x0,x1,x2] 25)).alloc (.cells #[p0,p1,p2,q0,q1,q2,r] 28)).alloc (.cells #[iV 0,iV 0,.slice none 0 0] 31)).alloc (.cells #[.slice none 0 0] 22)).alloc (.cells #[iV 0] 50)) y) :
  y.heap[w.heap.size]?=some (.cells #[x0,x1,x2] 25 (0,0))/\y.heap[w.heap.size+1]?=some (.cells #[p0,p1,p2,q0,q1,q2,r] 28 (0,0))/\y.heap[w.heap.size+1+1]?=some (.cells #[iV 0,iV 0,.slice none 0 0] 31 (0,0))/\y.heap[w.heap.size+1+1+1]?=some (.cells #[.slice none 0 0] 22 (0,0))/\y.heap[w.heap.size+1+1+1+1]?=some (.cells #[iV 0] 50 (0,0)):=by
 have e1:(w.alloc (.cells #[x0,x1,x2] 25)).heap.size=w.heap.size+1:=by simp
 have e2:((w.alloc (.cells #[x0,x1,x2] 25)).alloc (.cells #[p0,p1,p2,q0,q1,q2,r] 28)).heap.size=w.heap.size+1+1:=by simp
 have e3:(((w.alloc (.cells #[x0,x1,x2] 25)).alloc (.cells #[p0,p1,p2,q0,q1,q2,r] 28)).alloc (.cells #[iV 0,iV 0,.slice none 0 0] 31)).heap.size=w.heap.size+1+1+1:=by simp
 have e4:((((w.alloc (.cells #[x0,x1,x2] 25)).alloc (.cells #[p0,p1,p2,q0,q1,q2,r] 28)).alloc (.cells #[iV 0,iV 0,.slice none 0 0] 31)).alloc (.cells #[.slice none 0 0] 22)).heap.size=w.heap.size+1+1+1+1:=by simp
 refine⟨?_,?_,?_,?_,?_⟩
 all_goals rw [h.block _ (by omega)]
 ·rw [Below.heap_alloc _ _ _ (by omega),Below.heap_alloc _ _ _ (by omega),Below.heap_alloc _ _ _ (by omega),Below.heap_alloc _ _ _ (by omega)];exact zD _ _ _
 ·rw [Below.heap_alloc _ _ _ (by omega),Below.heap_alloc _ _ _ (by omega),Below.heap_alloc _ _ _ (by omega),<-e1];exact zD _ _ _
 ·rw [Below.heap_alloc _ _ _ (by omega),Below.heap_alloc _ _ _ (by omega),<-e2];exact zD _ _ _
 ·rw [Below.heap_alloc _ _ _ (by omega),<-e3];exact zD _ _ _
 ·rw [<-e4];exact zD _ _ _
theorem zta (w:World) (x0 x1 x2 p0 p1 p2 q0 q1 q2 r:Value):∃W,((((w.alloc (.cells #[x0,x1,x2] 25)).alloc (.cells #[p0,p1,p2,q0,q1,q2,r] 28)).alloc (.cells #[iV 0,iV 0,.slice none 0 0] 31)).alloc (.cells #[.slice none 0 0] 22)).alloc (.cells #[iV 0] 50)=W/\W.heap.size=w.heap.size+5/\Bw w W/\(∀y,Bw W y->y.heap[w.heap.size+1+1]?=some (.cells #[iV 0,iV 0,.slice none 0 0] 31 (0,0))/\y.heap[w.heap.size+1+1+1]?=some (.cells #[.slice none 0 0] 22 (0,0))/\y.heap[w.heap.size+1+1+1+1]?=some (.cells #[iV 0] 50 (0,0)))/\∀y,Bw W y->(y.cell? (ad w.heap.size 0)=some x0/\y.cell? (ad w.heap.size 1)=some x1/\y.cell? (ad w.heap.size 2)=some x2)/\(y.cell? (ad (w.heap.size+1) 0)=some p0/\y.cell? (ad (w.heap.size+1) 1)=some p1/\y.cell? (ad (w.heap.size+1) 2)=some p2/\y.cell? (ad (w.heap.size+1) 3)=some q0/\y.cell? (ad (w.heap.size+1) 4)=some q1/\y.cell? (ad (w.heap.size+1) 5)=some q2/\y.cell? (ad (w.heap.size+1) 6)=some r)/\w.heap.size+5<=y.heap.size:=by
 have hs:(((((w.alloc (.cells #[x0,x1,x2] 25)).alloc (.cells #[p0,p1,p2,q0,q1,q2,r] 28)).alloc (.cells #[iV 0,iV 0,.slice none 0 0] 31)).alloc (.cells #[.slice none 0 0] 22)).alloc (.cells #[iV 0] 50)).heap.size=w.heap.size+5:=by simp
 refine⟨_,rfl,hs,((below_alloc3 _ _ _ _).alloc (by simp;omega) _).alloc (by simp;omega) _,fun y hy=>(zch (by rw [<-hs];exact hy)).2.2,fun y hy=>?_⟩
 obtain⟨b0,b1,-⟩:=zch (by rw [<-hs];exact hy)
 have:=hy.size
 refine⟨⟨?_,?_,?_⟩,⟨?_,?_,?_,?_,?_,?_,?_⟩,by omega⟩
 all_goals first | (rw [cell_of_block b0];rfl) | (rw [cell_of_block b1];rfl)
def zgp (L:Lp) (t:Tg) (w W:World):Prop:=Bw w W/\∃k0 k1 kv ov K,W.heap[w.heap.size+1+1]?=some (.cells #[iV k0,iV k1,kv] 31 (0,0))/\W.heap[w.heap.size+1+1+1]?=some (.cells #[ov] 22 (0,0))/\W.heap[w.heap.size+1+1+1+1]?=some (.cells #[iV 0] 50 (0,0)) /\
 xF W (.agg #[iV k0,iV k1,kv]) K/\zK W ov (yI L.b.length)/\zQ L t K (yI L.b.length)=true/\(X7 L t:Int)<=K.pc/\(ZA L t:Int)<=K.pc/\K.pc<=Xc L t/\K.st*K.pc<=1200
theorem zgp.put {l:Nat} {o':Obj} (h:zgp L t w A) (hl:w.heap.size+5<=l) (hA:A.heap[l]?=some o) (ho:o.isCells=false):zgp L t w (A.putObj l o'):=by
 obtain⟨hb,k0,k1,kv,ov,K,h1,h2,h3,h4,h5,h6⟩:=h
 have hc:=Ck.put o' hA ho
 exact⟨hb.trans (zas o' hA (by omega)),k0,k1,kv,ov,K,(World.putObj_heap_other (by omega)).trans h1,(World.putObj_heap_other (by omega)).trans h2,(World.putObj_heap_other (by omega)).trans h3,h4.ck hc,h5.ck hc,h6⟩
theorem zck {B:Nat} {c0 u0 u1 u2 u3:Value} (h0:y.heap[B+1+1]?=some (.cells #[k0,k1,kv] ta (0,0))) (h1:y.heap[B+1+1+1]?=some (.cells #[ov] tb (0,0))) (h2:y.heap[B+1+1+1+1]?=some (.cells #[c0] tc (0,0))) (hb:Below n w y) (hn:n<=B) :
  ∃ V,((((y.setCell (ad (B+1+1) 0) u0).setCell (ad (B+1+1) 1) u1).setCell (ad (B+1+1) 2) u2).setCell (ad (B+1+1+1) 0) u3).setCell (ad (B+1+1+1+1) 0) c=V/\Below n w V/\(V.heap.size=y.heap.size/\∀k,B+5<=k->V.heap[k]?=y.heap[k]?)/\(V.heap[B+1+1]?=some (.cells #[u0,u1,u2] ta (0,0))/\V.heap[B+1+1+1]?=some (.cells #[u3] tb (0,0))/\V.heap[B+1+1+1+1]?=some (.cells #[c] tc (0,0))) /\
    (∀v K,xF y v K->xF V v K)/\(∀g m q T,B+5<=g->zK y (.slice (pA g) m q) T->zK V (.slice (pA g) m q) T):=by
 have b1:∀{x:World} {g i:Nat} {e:TypeId} {cs:Array Value} {u:Value},x.heap[g]?=some (.cells cs e (0,0))->(x.setCell (ad g i) u).heap[g]?=some (.cells (cs.setIfInBounds i u) e (0,0)):=fun h=>by simp [World.setCell,Array.getElem?_modify,h]
 have b2:∀{x:World} {g k i:Nat} {o:Option Obj} {u:Value},x.heap[k]?=o->k≠g->(x.setCell (ad g i) u).heap[k]?=o:=fun h hk=>by rw [Below.heap_setCell _ _ _ _ hk];exact h
 have d1:B+1+1+1≠B+1+1:=by omega
 have d2:B+1+1+1+1≠B+1+1:=by omega
 have d3:B+1+1+1+1≠B+1+1+1:=by omega
 have e1:=b2 (i:=2) (u:=u2) (b2 (i:=1) (u:=u1) (b2 (i:=0) (u:=u0) h1 d1) d1) d1
 have e2:=b2 (i:=0) (u:=u3) (b2 (i:=2) (u:=u2) (b2 (i:=1) (u:=u1) (b2 (i:=0) (u:=u0) h2 d2) d2) d2) d3
 refine⟨_,rfl,((((hb.setCell (by show n<=B+1+1;omega) _).setCell (by show n<=B+1+1;omega) _).setCell (by show n<=B+1+1;omega) _).setCell (by show n<=B+1+1+1;omega) _).setCell (by show n<=B+1+1+1+1;omega) _,⟨by simp [World.setCell],fun k hk=>b2 (b2 (b2 (b2 (b2 rfl (by omega)) (by omega)) (by omega)) (by omega)) (by omega)⟩,⟨b2 (b2 (b1 (b1 (b1 h0))) d1.symm) d2.symm,b2 (b1 e1) d3.symm,b1 e2⟩,fun v K h=>?_,fun g m q T hg h=>?_⟩
 ·exact ((((h.set h0 (by show 3<10;omega) _).set (b1 h0) (by simp) _).set (b1 (b1 h0)) (by simp) _).set e1 (by show 1<10;omega) _).set e2 (by show 1<10;omega) _
 ·exact ((((h.set (by omega) _ _).set (by omega) _ _).set (by omega) _ _).set (by omega) _ _).set (by omega) _ _
theorem ZF {B:Nat} (h0:V.heap[B+1+1]?=some (.cells #[k0,k1,kv] ta (0,0))) (h1:V.heap[B+1+1+1]?=some (.cells #[ov] tb (0,0))) (h2:V.heap[B+1+1+1+1]?=some (.cells #[c] tc (0,0))) :
  V.cell? (ad (B+1+1) 0)=some k0/\V.cell? (ad (B+1+1) 1)=some k1/\V.cell? (ad (B+1+1) 2)=some kv/\V.cell? (ad (B+1+1+1) 0)=some ov/\V.cell? (ad (B+1+1+1+1) 0)=some c:=by
 refine⟨?_,?_,?_,?_,?_⟩
 all_goals first | (rw [cell_of_block h0];rfl) | (rw [cell_of_block h1];rfl) | (rw [cell_of_block h2];rfl)
theorem XU {B:Nat} (h0:V.heap[B+1+1]?=some (.cells #[k0,k1,kv] ta (0,0))) (h1:V.heap[B+1+1+1]?=some (.cells #[ov] tb (0,0))) (h2:V.heap[B+1+1+1+1]?=some (.cells #[c] tc (0,0))) :
  V.frozen? (ad (B+1+1) 0)=false/\V.frozen? (ad (B+1+1) 1)=false/\V.frozen? (ad (B+1+1) 2)=false/\V.frozen? (ad (B+1+1+1) 0)=false/\V.frozen? (ad (B+1+1+1+1) 0)=false:=by
 refine⟨?_,?_,?_,?_,?_⟩ <;> simp [World.frozen?,h0,h1,h2]
theorem zcj {B D:Nat} (h0:V.heap[B+1+1]?=some (.cells #[k0,k1,kv] ta (0,0))) (h1:V.heap[B+1+1+1]?=some (.cells #[ov] tb (0,0))) (h2:V.heap[B+1+1+1+1]?=some (.cells #[c] tc (0,0))) (hD:B+5<=D) :
  (V.putObj D o).cell? (ad (B+1+1) 0)=some k0/\(V.putObj D o).cell? (ad (B+1+1) 1)=some k1/\(V.putObj D o).cell? (ad (B+1+1) 2)=some kv/\(V.putObj D o).cell? (ad (B+1+1+1) 0)=some ov/\(V.putObj D o).cell? (ad (B+1+1+1+1) 0)=some c :=
 ZF ((World.putObj_heap_other (show B+1+1≠D by omega)).trans h0) ((World.putObj_heap_other (show B+1+1+1≠D by omega)).trans h1) ((World.putObj_heap_other (show B+1+1+1+1≠D by omega)).trans h2)
theorem zpg (hM:zgt) (hO:zwy) (hR:zgu) (hE:zgq) (p0 p1 p2 q0 q1 q2 r:Int) (L:Lp) (a0 a1 a2:Option Addr) (gA gB gC:Nat) (w:World) (hm:zY L=true) (ht:yj ⟨p0,p1,p2,q0,q1,q2,r⟩=true)
  (hL:zE w ((lv L a0 a1 a2 gA gB gC)) L) :
  Calls prog 19 #[(lv L a0 a1 a2 gA gB gC),(tv p0 p1 p2 q0 q1 q2 r)] w fun e w'=>zl6 L ⟨p0,p1,p2,q0,q1,q2,r⟩ w e w':=by
 obtain⟨W5,hW5,hs5,hb5,hbx,hcl⟩:=zta w (.slice a0 L.l.length gA) (.slice a1 L.b.length gB) (.slice a2 L.o.length gC) (iV p0) (iV p1) (iV p2) (iV q0) (iV q1) (iV q2) (iV r)
 have HS5:=z9 hs5
 have HB5:=z9 hb5
 have HBX:=z9 hbx
 have HCL:=z9 hcl
 clear hs5 hb5 hbx hcl
 have HL:=z9 hL
 have HMY:=z9 (fun W (h:zE W ((lv L a0 a1 a2 gA gB gC)) L)=>hm ▸ Yh _ L W h)
 have HTM:=z9 (fun W=>ht ▸ zjv ⟨p0,p1,p2,q0,q1,q2,r⟩ W)
 obtain⟨⟨l0,l1,l2⟩,⟨t0,t1,t2,t3,t4,t5,t6⟩,hz⟩:=HCL.out W5 (Below.refl _ _)
 have HM:=z9 hm
 have HT:=z9 ht
 clear hL hm ht
 obtain⟨n,-⟩:∃n:Nat,True:=⟨3,trivial⟩
 refine (callsIn_wide (n:=n)).1 ?_
 refine callsIn_of_wp_marks func19 rfl trivial ?_ rfl
 simp only [ntmps19,List.size_toArray,List.length_cons,List.length_nil,Nat.reduceAdd,Nat.reduceSub,Array.replicate_succ,Array.replicate_zero,List.push_toArray,List.append_toArray,List.nil_append,List.cons_append]
 gi_wp2_with fail
 refine XQ (HMY.out W5 (HL.out.gE HB5.out)) ?_
 rintro e x1 ⟨rfl,hb1⟩
 have HX1:=z9 hb1
 clear hW5 l0 l1 l2 t0 t1 t2 t3 t4 t5 t6 hz hb1
 obtain⟨⟨l0,l1,l2⟩,⟨t0,t1,t2,t3,t4,t5,t6⟩,hz⟩:=HCL.out x1 HX1.out
 gi_wp2_with fail
 refine XQ (HTM.out x1) ?_
 rintro e x2 ⟨rfl,hb2⟩
 have HX2:Hid (Bw W5 x2):=HX1.out.trans (hb2.mono HX1.out.size)
 clear l0 l1 l2 t0 t1 t2 t3 t4 t5 t6 hz hb2
 obtain⟨⟨l0,l1,l2⟩,⟨t0,t1,t2,t3,t4,t5,t6⟩,hz⟩:=HCL.out x2 HX2.out
 gi_wp2_with fail
 refine XQ (zrm _ _ _ _ _ _ _ _ _ _ x2) ?_
 rintro e x3 ⟨rfl,rfl⟩
 obtain⟨x3,hx3⟩:∃x3,(x2.alloc (.cells #[.slice a0 L.l.length gA,.slice a1 L.b.length gB,.slice a2 L.o.length gC] 25)).alloc (.cells #[iV p0,iV p1,iV p2,iV q0,iV q1,iV q2,iV r] 28)=x3:=⟨_,rfl⟩
 have HB3:Hid (Bw x2 x3):=by show Below _ _ _;rw [<-hx3];exact below_alloc2 _ _ _
 have HX3:Hid (Bw W5 x3):=HX2.out.trans (HB3.out.mono HX2.out.size)
 have HS3:Hid (x3.heap.size=x2.heap.size+1+1):=by show _=_;rw [<-hx3];simp
 have HE0:Hid (x3.heap[x2.heap.size]?=some (.cells #[.slice a0 L.l.length gA,.slice a1 L.b.length gB,.slice a2 L.o.length gC] 25 (0,0))):=by
  show _=_;rw [<-hx3,Below.heap_alloc _ _ _ (by simp)];exact zD _ _ _
 have HE1:Hid (x3.heap[x2.heap.size+1]?=some (.cells #[iV p0,iV p1,iV p2,iV q0,iV q1,iV q2,iV r] 28 (0,0))):=by
  show _=_;rw [<-hx3,<-World.size_alloc];exact zD _ _ _
 have HW3:Hid (Bw w x3):=HB5.out.trans (HX3.out.mono HB5.out.size)
 have HIT:=z9 (zrl hM hO p0 p1 p2 q0 q1 q2 r L a0 a1 a2 gA gB gC x3 x2.heap.size (x2.heap.size+1) HM.out HT.out (HL.out.gE HW3.out) HE0.out HE1.out)
 clear l0 l1 l2 t0 t1 t2 t3 t4 t5 t6 hz
 gi_wp2_with fail
 clear hx3
 refine zmx (gf:=106) (lb:=#[.pointer (pA x2.heap.size),.pointer (pA (x2.heap.size+1))]) rfl (enters_of func106 (by kernel_rfl) rfl) HIT.out rfl (fun la x A B h k=>zi3.ck h k)
  (r<5*(L.b.length:Int)) (zgp L ⟨p0,p1,p2,q0,q1,q2,r⟩ w) ?res
  (fun x B=>{ tmps:=#[(lv L a0 a1 a2 gA gB gC),(tv p0 p1 p2 q0 q1 q2 r),.pointer (pA w.heap.size),.pointer (pA (w.heap.size+1)),.pointer (pA (w.heap.size+1+1)),.pointer (pA (w.heap.size+1+1+1)),.pointer (pA (w.heap.size+1+1+1+1)),.pointer (pA B),undef,undef,(lv L a0 a1 a2 gA gB gC),.bool true,.bool false,.bool false,(tv p0 p1 p2 q0 q1 q2 r),.bool true,.bool false,.bool false,undef,(lv L a0 a1 a2 gA gB gC),(tv p0 p1 p2 q0 q1 q2 r),.func (.func 106) #[] #[.pointer (pA x2.heap.size),.pointer (pA (x2.heap.size+1))],zrh x,undef,undef,undef,undef,undef,undef,undef,undef,undef,undef,undef,undef,undef,undef,undef],defers:=[] }) (fun x=>.cells #[iV x.1,.slice x.2.1 x.2.2.1 x.2.2.2] 49 (0,0)) ?assign ?body ?done ?stop
 case res =>
  intro A l o o' h hl hA ho
  have:=HS3.out;have:=HX2.out.size;have:=HS5.out
  exact h.put (by omega) hA ho
 case assign =>
  intro l k x W K hK
  dsimp only [zrh] at *
  gi_wp2_with fail
  exact hK
 case body =>
  rintro l k B la ⟨P,ta,tl,tc⟩ W hbw ⟨T,hP,hlg,hle,hov⟩ hBs hB
  dsimp only [zrh] at *
  have HXW:Hid (Bw W5 W):=HX3.out.trans (hbw.mono HX3.out.size)
  obtain⟨⟨l0,l1,l2⟩,⟨t0,t1,t2,t3,t4,t5,t6⟩,hz⟩:=HCL.out W HXW.out
  have b0:W.cell? (ad B 0)=sI P:=by rw [cell_of_block hB];rfl
  have b1:W.cell? (ad B 1)=some (.slice ta tl tc):=by rw [cell_of_block hB];rfl
  have HKO:=z9 (zhg hR hE p0 p1 p2 q0 q1 q2 r L a0 a1 a2 gA gB gC P T ta tl tc W (HL.out.gE (HB5.out.trans (HXW.out.mono HB5.out.size))) hP hlg)
  have HLG:=z9 hlg
  have HLE:=z9 hle
  have HOV:=z9 hov
  have HBW:=z9 hbw
  clear hP hlg hle hov hB hbw
  gi_wp2_with fail
  refine zn3 HKO.out ?_
  rintro e y1 ⟨hb,k0,k1,kv,c,rfl,hc⟩
  have HY1:=z9 hb
  clear l0 l1 l2 t0 t1 t2 t3 t4 t5 t6 hz b0 b1 hb
  rcases hc with ⟨rfl,rfl,hno⟩ | ⟨rfl,D,hk,htk⟩
  ·have HNO:=z9 hno
   clear hno
   gi_wp2_with fail
   refine⟨HY1.out.trans ((below_alloc1 _ _).mono HY1.out.size),fun h=>?_⟩
   by_cases hr5:r<5*(L.b.length:Int)
   ·exact hr5
   ·exact absurd ⟨show 5*(L.b.length:Int)<=r by omega,HOV.out h⟩ HNO.out
  ·obtain⟨kl,hkl,ka,kc,rfl,-⟩:=id hk
   simp only [Value.agg.injEq,Array.mk.injEq,List.cons.injEq,and_true] at hkl
   obtain⟨-,-,rfl⟩:=hkl
   have HK:=z9 hk
   have HTK:=z9 htk
   generalize hkn:(zR L ⟨p0,p1,p2,q0,q1,q2,r⟩ P T D).ops.length=kn at *
   clear hk htk hkn
   have HL2:Hid (∀y:World,Bw y1 y->(y.cell? (ad w.heap.size 0)=some (.slice a0 L.l.length gA)/\y.cell? (ad w.heap.size 1)=some (.slice a1 L.b.length gB)/\y.cell? (ad w.heap.size 2)=some (.slice a2 L.o.length gC))):=fun y hy=>(HCL.out y (HXW.out.trans ((HY1.out.trans (hy.mono HY1.out.size)).mono HXW.out.size))).1
   gi_wp2_with fail
   obtain⟨y2,hy2⟩:∃y2,y1.alloc (.cells #[iV k0,iV k1,.slice ka kn kc] 31)=y2:=⟨_,rfl⟩
   have HY2:Hid (Bw y1 y2):=by show Below _ _ _;rw [<-hy2];exact below_alloc1 _ _
   obtain⟨l0,l1,l2⟩:=HL2.out y2 HY2.out
   have hkb:y2.heap[y1.heap.size]?=some (.cells #[iV k0,iV k1,.slice ka kn kc] 31 (0,0)):=by rw [<-hy2];exact zD _ _ _
   have c0:y2.cell? (ad y1.heap.size 0)=sI k0:=by rw [cell_of_block hkb];rfl
   have c1:y2.cell? (ad y1.heap.size 1)=sI k1:=by rw [cell_of_block hkb];rfl
   have c2:y2.cell? (ad y1.heap.size 2)=some (.slice ka kn kc):=by rw [cell_of_block hkb];rfl
   have h16:=(zw HM.out).2.2.1
   have HIO:Hid (Calls prog 56 #[iV (L.b.length:Int)] y2.drew fun e w'=>e=.returned (.slice (pA y2.heap.size) L.b.length L.b.length)/\Below y2.heap.size y2.drew w'/\zK w' (.slice (pA y2.heap.size) L.b.length L.b.length) (yI L.b.length)):=zj3 L.b.length y2.drew h16
   have HKB:=z9 hkb
   have hyz:w.heap.size+5<=y1.heap.size:=by have:=HY1.out.size;have:=HXW.out.size;have:=HS5.out;omega
   have HSS:Hid (∀w':World,Bw y2 w'->((w'.cell? (ad w.heap.size 0)=some (.slice a0 L.l.length gA)/\w'.cell? (ad w.heap.size 1)=some (.slice a1 L.b.length gB)/\w'.cell? (ad w.heap.size 2)=some (.slice a2 L.o.length gC))/\w'.cell? (ad y1.heap.size 0)=sI k0/\w'.cell? (ad y1.heap.size 1)=sI k1/\w'.cell? (ad y1.heap.size 2)=some (.slice ka kn kc))):=fun w' h=>by
    have hb:=(h.block _ (Array.getElem?_eq_some_iff.1 HKB.out).1).trans HKB.out
    refine⟨HL2.out w' (HY2.out.trans (h.mono HY2.out.size)),?_,?_,?_⟩ <;> (rw [cell_of_block hb];rfl)
   have HSC:Hid (∀(v:World) (b i:Nat) (u:Value),((v.cell? (ad w.heap.size 0)=some (.slice a0 L.l.length gA)/\v.cell? (ad w.heap.size 1)=some (.slice a1 L.b.length gB)/\v.cell? (ad w.heap.size 2)=some (.slice a2 L.o.length gC))/\v.cell? (ad y1.heap.size 0)=sI k0/\v.cell? (ad y1.heap.size 1)=sI k1/\v.cell? (ad y1.heap.size 2)=some (.slice ka kn kc))->b≠w.heap.size->b≠y1.heap.size->(((v.setCell (ad b i) u).cell? (ad w.heap.size 0)=some (.slice a0 L.l.length gA)/\(v.setCell (ad b i) u).cell? (ad w.heap.size 1)=some (.slice a1 L.b.length gB)/\(v.setCell (ad b i) u).cell? (ad w.heap.size 2)=some (.slice a2 L.o.length gC))/\(v.setCell (ad b i) u).cell? (ad y1.heap.size 0)=sI k0/\(v.setCell (ad b i) u).cell? (ad y1.heap.size 1)=sI k1/\(v.setCell (ad b i) u).cell? (ad y1.heap.size 2)=some (.slice ka kn kc))):=fun v b i u h h1 h2=>by
    obtain⟨⟨e0,e1,e2⟩,e3,e4,e5⟩:=h
    refine⟨⟨?_,?_,?_⟩,?_,?_,?_⟩
    all_goals (rw [Zg (Below.heap_setCell _ _ _ _ (Ne.symm (by assumption)))];assumption)
   have gT:Hid (∀y,Bw y2 y->_):=fun y hy=>HBX.out y (HXW.out.trans ((HY1.out.trans ((HY2.out.trans (hy.mono HY2.out.size)).mono HY1.out.size)).mono HXW.out.size))
   rw [hy2]
   clear hy2 hkb
   refine zhp 99 (fun w'=>((w'.cell? (ad w.heap.size 0)=some (.slice a0 L.l.length gA)/\w'.cell? (ad w.heap.size 1)=some (.slice a1 L.b.length gB)/\w'.cell? (ad w.heap.size 2)=some (.slice a2 L.o.length gC))/\w'.cell? (ad y1.heap.size 0)=sI k0/\w'.cell? (ad y1.heap.size 1)=sI k1/\w'.cell? (ad y1.heap.size 2)=some (.slice ka kn kc))) (by kernel_rfl) (by kernel_rfl) (HSS.out _ (below_draws _ _ 1)) (fun h9=>?_)
   refine uk 0 h9 ?_
   refine uk 1 h9 ?_
   refine uk 2 h9 ?_
   refine uk 3 h9 ?_
   refine ze (i:=4) rfl (by kernel_rfl) (fun K hK=>?_)
   go_simp
   refine HIO.out.mono ?_
   rintro e y3 ⟨rfl,hb3,hi3⟩
   have HB3:Hid (Bw y2 y3):=(below_draws y2.heap.size y2 1).trans hb3
   have HI3:=z9 hi3
   have h9:=HSS.out _ HB3.out
   clear hb3 hi3 c0 c1 c2 l0 l1 l2
   refine nxt hK.out (.inr h9) ?_
   clear hK K
   obtain⟨r0,r1,r2⟩:=gT.out y3 HB3.out
   obtain⟨n0,n1,n2,n3,n4⟩:=ZF r0 r1 r2
   obtain⟨f0,f1,f2,f3,f4⟩:=XU r0 r1 r2
   have hyg:y1.heap.size<y2.heap.size:=(Array.getElem?_eq_some_iff.1 HKB.out).1
   have hwW:Bw w W:=HB5.out.trans (HXW.out.mono HB5.out.size)
   have hWy:Bw W y3:=HY1.out.trans ((HY2.out.trans (HB3.out.mono HY2.out.size)).mono HY1.out.size)
   have HRS:=z9 (zck (u0:=iV k0) (u1:=iV k1) (u2:=.slice ka kn kc) (u3:=.slice (pA y2.heap.size) L.b.length L.b.length) (c:=iV 0) r0 r1 r2 (hwW.trans (hWy.mono hwW.size)) (Nat.le_refl _))
   have HWY:=z9 hWy
   have HNE:Hid (∀k,2<=k->k<=4->w.heap.size+k≠w.heap.size/\w.heap.size+k≠y1.heap.size):=fun k h1 h2=>by omega
   have H5:=z9 (HSC.out _ _ 2 (.slice ka kn kc) (HSC.out _ _ 1 (iV k1) (HSC.out _ _ 0 (iV k0) h9 (HNE.out 2 (by omega) (by omega)).1 (HNE.out 2 (by omega) (by omega)).2) (HNE.out 2 (by omega) (by omega)).1 (HNE.out 2 (by omega) (by omega)).2) (HNE.out 2 (by omega) (by omega)).1 (HNE.out 2 (by omega) (by omega)).2)
   have H6:=z9 (HSC.out _ _ 0 (.slice (pA y2.heap.size) L.b.length L.b.length) H5.out (HNE.out 3 (by omega) (by omega)).1 (HNE.out 3 (by omega) (by omega)).2)
   have H7:=z9 (HSC.out _ _ 0 (iV 0) H6.out (HNE.out 4 (by omega) (by omega)).1 (HNE.out 4 (by omega) (by omega)).2)
   clear hwW hWy r0 r1 r2 h9
   refine ze (i:=5) rfl (by kernel_rfl) (fun K hK=>?_)
   go_simp
   refine nxt hK.out (.inr H5.out) ?_
   clear hK K
   refine ze (i:=6) rfl (by kernel_rfl) (fun K hK=>?_)
   go_simp
   refine nxt hK.out (.inr H6.out) ?_
   clear hK K
   refine ze (i:=7) rfl (by kernel_rfl) (fun K hK=>?_)
   go_simp
   refine nxt hK.out (.inr H7.out) ?_
   clear hK K
   refine zq (by kernel_rfl) ?_ _
   refine UN.normal ?_
   gi_wp2_with fail
   obtain⟨V,hV,hbV,⟨hzV,hkV⟩,⟨v0,v1,v2⟩,hKV,hIV⟩:=HRS.out
   rw [hV]
   have hs3:=HS3.out;have hs2:=HX2.out.size;have hs5:=HS5.out;have hzW:=HWY.out.size;have hzx:=HBW.out.size
   exact⟨by omega,fun q hq1 hq2=>(hkV q (by omega)).trans (HWY.out.block q hq2),hbV,k0,k1,_,_,(zR L ⟨p0,p1,p2,q0,q1,q2,r⟩ P T D),v0,v1,v2,hKV _ _ (HK.out.gE (HY2.out.trans (HB3.out.mono HY2.out.size))),hIV _ _ _ _ (by omega) HI3.out,HTK.out,zqu HLG.out HLE.out⟩
 case done =>
  intro D W hD hf hb hK
  have HF:=z9 hf
  have HXW:Hid (Bw W5 W):=HX3.out.trans (hb.mono HX3.out.size)
  have hwW:Bw w W:=HB5.out.trans (HXW.out.mono HB5.out.size)
  obtain⟨r0,r1,r2⟩:=HBX.out W HXW.out
  obtain⟨n0,n1,n2,n3,n4⟩:=ZF r0 r1 r2
  obtain⟨f0,f1,f2,f3,f4⟩:=XU r0 r1 r2
  have HRS:=z9 (zck (u0:=iV 0) (u1:=iV 0) (u2:=.slice none 0 0) (u3:=.slice none 0 0) (c:=iV 1) r0 r1 r2 hwW (Nat.le_refl _))
  have HK:=z9 hK
  have HDD:=z9 hD
  clear hb hwW r0 r1 r2 hK hf hD
  gi_wp2_with fail
  obtain⟨V,hV,hbV,⟨-,hkV⟩,⟨v0,v1,v2⟩,-⟩:=HRS.out
  rw [hV]
  have hd:=HDD.out;have hs3:=HS3.out;have hs2:=HX2.out.size;have hs5:=HS5.out
  have hKV:=(hkV D (by omega)).trans HK.out
  obtain⟨g0,g1,g2,g3,g4⟩:=zcj (o:=.deferred none) v0 v1 v2 (show w.heap.size+5<=D by omega)
  refine⟨by simp,.inl ⟨_,_,rfl,run_takeDeferred hKV,?_⟩⟩
  refine⟨.tuple #[.agg #[iV 0,iV 0,.slice none 0 0],.slice none 0 0,iV 1],by simp [results,results19,go_sem,g0,g1,g2,g3,g4],hbV.trans (zas _ hKV (by omega)),0,0,_,none,0,0,1,rfl,fun h=>?_,fun _=>.inl ⟨rfl,HF.out,rfl,zfd _⟩⟩
  rw [HM.out,HT.out] at h
  cases h
 case stop =>
  intro D W hD hr hK
  obtain⟨hb,k0,k1,kv,ov,K,h0,h1,h2,hk,hi,htk,hu1,hu2,hu3,hu4⟩:=hr
  gi_wp2_with fail
  have hs3:=HS3.out;have hs2:=HX2.out.size;have hs5:=HS5.out
  obtain⟨g0,g1,g2,g3,g4⟩:=zcj (o:=.deferred none) h0 h1 h2 (show w.heap.size+5<=D by omega)
  have hc:=Ck.put (.deferred none) hK rfl
  obtain⟨oa,oc,rfl,hi2⟩:=id hi
  refine⟨by simp,.inl ⟨_,_,rfl,run_takeDeferred hK,?_⟩⟩
  refine⟨.tuple #[.agg #[iV k0,iV k1,kv],.slice oa (yI L.b.length).length oc,iV 0],by simp [results,results19,go_sem,g0,g1,g2,g3,g4],hb.trans (zas _ hK (by omega)),k0,k1,kv,oa,_,oc,0,rfl,fun h=>?_,fun _=>.inr ⟨rfl,K,_,hk.ck hc,hi.ck hc,htk,hu1,hu2,hu3,hu4⟩⟩
  rw [HM.out,HT.out] at h
  cases h
theorem ztf (p0 p1 p2 q0 q1 q2 r:Int) (L:Lp) (a0 a1 a2:Option Addr) (gA gB gC:Nat) (w:World) (hmm:(zY L && yj ⟨p0,p1,p2,q0,q1,q2,r⟩)=false)
  (hL:zE w ((lv L a0 a1 a2 gA gB gC)) L) :
  Calls prog 19 #[(lv L a0 a1 a2 gA gB gC),(tv p0 p1 p2 q0 q1 q2 r)] w fun e w'=>zl6 L ⟨p0,p1,p2,q0,q1,q2,r⟩ w e w':=by
 obtain⟨W5,hW5,hs5,hb5,hbx,hcl⟩:=zta w (.slice a0 L.l.length gA) (.slice a1 L.b.length gB) (.slice a2 L.o.length gC) (iV p0) (iV p1) (iV p2) (iV q0) (iV q1) (iV q2) (iV r)
 have HS5:=z9 hs5
 have HB5:=z9 hb5
 have HBX:=z9 hbx
 have HCL:=z9 hcl
 clear hs5 hb5 hbx hcl
 have HL:=z9 hL
 have HMM:=z9 hmm
 have HFI:Hid (∀V:World,Bw w V->zl6 L ⟨p0,p1,p2,q0,q1,q2,r⟩ w (.returned (.tuple #[.agg #[iV 0,iV 0,.slice none 0 0],.slice none 0 0,iV 2])) V):=fun V hV=>⟨hV,0,0,_,none,0,0,2,rfl,fun _=>⟨rfl,rfl,zfd _⟩,fun h=>absurd (HMM.out.symm.trans h) (by simp)⟩
 have HNF:=z9 (fun y hy=>ZF (HBX.out y hy).1 (HBX.out y hy).2.1 (HBX.out y hy).2.2)
 have HFF:=z9 (fun y hy=>XU (HBX.out y hy).1 (HBX.out y hy).2.1 (HBX.out y hy).2.2)
 have HEN:=z9 (fun y hy=>zck (u0:=iV 0) (u1:=iV 0) (u2:=.slice none 0 0) (u3:=.slice none 0 0) (c:=iV 2) (HBX.out y hy).1 (HBX.out y hy).2.1 (HBX.out y hy).2.2 (HB5.out.trans (hy.mono HB5.out.size)) (Nat.le_refl _))
 have HMY:=z9 (Yh _ L W5 (HL.out.gE HB5.out))
 have HTM:=z9 (fun W=>zjv ⟨p0,p1,p2,q0,q1,q2,r⟩ W)
 obtain⟨⟨l0,l1,l2⟩,⟨t0,t1,t2,t3,t4,t5,t6⟩,hz⟩:=HCL.out W5 (Below.refl _ _)
 clear hL hmm
 go_enter func19,ntmps19
 go_wp2_with fail
 refine HMY.out.mono ?_
 rintro e x1 ⟨rfl,hb1⟩
 have HX1:=z9 hb1
 clear hW5 l0 l1 l2 t0 t1 t2 t3 t4 t5 t6 hz hb1
 obtain⟨⟨l0,l1,l2⟩,⟨t0,t1,t2,t3,t4,t5,t6⟩,hz⟩:=HCL.out x1 HX1.out
 obtain⟨n0,n1,n2,n3,n4⟩:=HNF.out x1 HX1.out
 obtain⟨f0,f1,f2,f3,f4⟩:=HFF.out x1 HX1.out
 cases hm:zY L with
 | false =>
   have HE1:=z9 (HEN.out x1 HX1.out)
   go_wp2_with fail
   obtain⟨V,hV,hbV,-,⟨v0,v1,v2⟩,-⟩:=HE1.out
   obtain⟨g0,g1,g2,g3,g4⟩:=ZF v0 v1 v2
   rw [hV]
   exact bodyPost_ret (v:=.tuple #[.agg #[iV 0,iV 0,.slice none 0 0],.slice none 0 0,iV 2]) (by simp [results,results19,go_sem,g0,g1,g2,g3,g4]) rfl (HFI.out _ hbV)
 | true =>
   have hmt:yj ⟨p0,p1,p2,q0,q1,q2,r⟩=false:=by have:=HMM.out;rw [hm] at this;simpa using this
   have HTM2:=z9 (hmt ▸ HTM.out x1)
   clear hm hmt
   go_wp2_with fail
   refine HTM2.out.mono ?_
   rintro e x2 ⟨rfl,hb2⟩
   have HX2:Hid (Bw W5 x2):=HX1.out.trans (hb2.mono HX1.out.size)
   clear l0 l1 l2 t0 t1 t2 t3 t4 t5 t6 hz hb2 n0 n1 n2 n3 n4 f0 f1 f2 f3 f4
   obtain⟨-,-,hz⟩:=HCL.out x2 HX2.out
   obtain⟨n0,n1,n2,n3,n4⟩:=HNF.out x2 HX2.out
   obtain⟨f0,f1,f2,f3,f4⟩:=HFF.out x2 HX2.out
   have HE1:=z9 (HEN.out x2 HX2.out)
   go_wp2_with fail
   obtain⟨V,hV,hbV,-,⟨v0,v1,v2⟩,-⟩:=HE1.out
   obtain⟨g0,g1,g2,g3,g4⟩:=ZF v0 v1 v2
   rw [hV]
   exact bodyPost_ret (v:=.tuple #[.agg #[iV 0,iV 0,.slice none 0 0],.slice none 0 0,iV 2]) (by simp [results,results19,go_sem,g0,g1,g2,g3,g4]) rfl (HFI.out _ hbV)
theorem ztg (hM:zgt) (hO:zwy) (hR:zgu) (hE:zgq):zgo:=fun v t L w hL=>by
 have hL':=hL
 obtain⟨v0,v1,v2,rfl,⟨a0,gA,rfl,-⟩,⟨a1,gB,rfl,-⟩,⟨a2,gC,rfl,-⟩⟩:=hL'
 obtain⟨p0,p1,p2,q0,q1,q2,r⟩:=t
 by_cases h:(zY L && yj ⟨p0,p1,p2,q0,q1,q2,r⟩)=true
 ·have h2:zY L=true/\yj ⟨p0,p1,p2,q0,q1,q2,r⟩=true:=by simpa using h
  exact zpg hM hO hR hE p0 p1 p2 q0 q1 q2 r L a0 a1 a2 gA gB gC w h2.1 h2.2 hL
 ·exact ztf p0 p1 p2 q0 q1 q2 r L a0 a1 a2 gA gB gC w (by simpa using h) hL
end
end Go.Proofs.YtjoapiafpahihabGreat
