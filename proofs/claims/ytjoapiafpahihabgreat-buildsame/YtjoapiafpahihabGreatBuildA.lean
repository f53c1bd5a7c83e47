import Derived.Test.YtjoapiafpahihabGreatYields
import Derived.Test.YtjoapiafpahihabGreatSchedOne
import Derived.Test.YtjoapiafpahihabGreatRegsE
import Derived.Test.YtjoapiafpahihabGreatSchedA
import Derived.Shelf.Abstract
import Derived.OwnWalkIn
import Derived.TacticsInMore
import Derived.LoopNIn
import Derived.LoopIn
import Derived.Test.YtjoapiafpahihabGreatRef11A
import Derived.Test.YtjoapiafpahihabGreatRounds
import Derived.Test.YtjoapiafpahihabGreatSchedB
import Derived.Test.YtjoapiafpahihabGreatBuildMakes
import Derived.Test.YtjoapiafpahihabGreatLoopP
import Derived.Test.YtjoapiafpahihabGreatTarget
namespace Go.Proofs.YtjoapiafpahihabGreat
open Go.RowKit Go.Joins
set_option linter.unusedVariables false
set_option linter.unusedSimpArgs false
set_option maxRecDepth 8192
attribute [local go_sem] Oper.semAt_some
theorem yf.ck {A B:World} {v:Value} {zs:List Int} (h:yf A v zs) (k:Ck A B):yf B v zs:=by
 obtain⟨a,cap,e,h1,h2,h3,h4⟩:=h
 refine⟨a,cap,e,h1,h2,h3,fun hp=>?_⟩
 obtain⟨b,off,e2,h5,h6⟩:=h4 hp
 exact⟨b,off,e2,Nat.lt_of_lt_of_le h5 k.size,fun i hi=>k.cell _ _ (h6 i hi)⟩
theorem Zl.ck {A B:World} {v:Value} {P:Int} {T:List Int} (h:Zl A v P T) (k:Ck A B):Zl B v P T:=by
 obtain⟨tv,e,h1⟩:=h
 exact⟨tv,e,h1.ck k⟩
def zjp (x:Int × Option Addr × Nat × Nat):Value:=.agg #[iV x.1,.slice x.2.1 x.2.2.1 x.2.2.2]
def zco (L:Lp) (t:Tg) (la:Bool) (x:Int × Option Addr × Nat × Nat) (A:World):Prop :=
 ∃T,Zl A (zjp x) x.1 T/\zD L t x.1 T=true/\x.1<=Zm L t/\(la=true->XS L t x.1 T=true)
theorem zco.ck {L:Lp} {t:Tg} {la:Bool} {x:Int × Option Addr × Nat × Nat} {A B:World} (h:zco L t la x A) (k:Ck A B):zco L t la x B:=by
 obtain⟨T,h1,h2⟩:=h
 exact⟨T,h1.ck k,h2⟩
def zbd:Prop:=∀(v:Value) (t:Tg) (L:Lp) (least:Int) (w:World),zk w v L->zx L=true->zp t=true->1<=least->least<=200 ->
 Calls Tryz.prog 108 #[v,.agg t.cells,iV least] w fun e w'=>Below w.heap.size w w'/\∃P ta tc T,e=.returned (.tuple #[.agg #[iV P,.slice ta T.length tc],iV 0])/\yf w' (.slice ta T.length tc) T/\zD L t P T=true/\least<=P/\P<=max least (Zm L t)
def zoc:Prop:=∀(v:Value) (t:Tg) (L:Lp) (least:Int) (w:World),zk w v L->zx L=true->zp t=true->1<=least->least<=200->Calls Tryz.prog 107 #[v,.agg t.cells,iV least] w fun e w'=>zqb L t least w e w'
theorem zk7 {L:Lp} {t:Tg} (ht:zp t=true) {P:Int} (hP:Zm L t<=P):XS L t P (Xb L t)=true:=by
 unfold XS
 exact zN fun i hi=>decide_eq_true (ze4 ht hP i hi)
set_option maxHeartbeats 4000000 in
theorem zjr (hM:zbd) (hO:zoc) (p0 p1 p2 q0 q1 q2 r:Int) (L:Lp) (a0 a1 a2:Option Addr) (cap0 cap1 cap2:Nat) (w:World) (b1 b2:Nat) (hm:zx L=true) (ht:zp ⟨p0,p1,p2,q0,q1,q2,r⟩=true)
  (hL:zk w (.agg #[.slice a0 L.logs.length cap0,.slice a1 L.body.length cap1,.slice a2 L.outs.length cap2]) L)
  (hb1:w.heap[b1]?=some (.cells #[.slice a0 L.logs.length cap0,.slice a1 L.body.length cap1,.slice a2 L.outs.length cap2] 25 (0,0))) (hb2:w.heap[b2]?=some (.cells #[iV p0,iV p1,iV p2,iV q0,iV q1,iV q2,iV r] 28 (0,0))) :
  zh5 Tryz.prog 106 #[.pointer (some ⟨b1,0,none⟩),.pointer (some ⟨b2,0,none⟩)] zjp (zco L ⟨p0,p1,p2,q0,q1,q2,r⟩) w:=by
 intro n l J0 J1 Jx W hJw hJg hY h0
 have HAL:=zbg hm ht
 have HMK:=z5 (fun W (h:zk W (.agg #[.slice a0 L.logs.length cap0,.slice a1 L.body.length cap1,.slice a2 L.outs.length cap2]) L) lst h1 h2=>hM _ ⟨p0,p1,p2,q0,q1,q2,r⟩ L lst W h hm ht h1 h2)
 have HON:=z5 (fun W (h:zk W (.agg #[.slice a0 L.logs.length cap0,.slice a1 L.body.length cap1,.slice a2 L.outs.length cap2]) L)=>hO _ ⟨p0,p1,p2,q0,q1,q2,r⟩ L 1 W h hm ht (by omega) (by omega))
 have HLV:Hid (∀A,J0 A->zk A (.agg #[.slice a0 L.logs.length cap0,.slice a1 L.body.length cap1,.slice a2 L.outs.length cap2]) L):=fun A h=>hL.below (hJw A h)
 have HCL:Hid (∀A,J0 A->(A.cell? ⟨b1,0,none⟩=some (.slice a0 L.logs.length cap0)/\A.cell? ⟨b1,1,none⟩=some (.slice a1 L.body.length cap1)/\A.cell? ⟨b1,2,none⟩=some (.slice a2 L.outs.length cap2))/\A.cell? ⟨b2,0,none⟩=some (iV p0)/\A.cell? ⟨b2,1,none⟩=some (iV p1)/\A.cell? ⟨b2,2,none⟩=some (iV p2)/\A.cell? ⟨b2,3,none⟩=some (iV q0)/\A.cell? ⟨b2,4,none⟩=some (iV q1)/\A.cell? ⟨b2,5,none⟩=some (iV q2)/\A.cell? ⟨b2,6,none⟩=some (iV r)):=fun A h=>by
  have h1:=((hJw A h).block b1 (Array.getElem?_eq_some_iff.1 hb1).1).trans hb1
  have h2:=((hJw A h).block b2 (Array.getElem?_eq_some_iff.1 hb2).1).trans hb2
  refine⟨⟨?_,?_,?_⟩,?_,?_,?_,?_,?_,?_,?_⟩
  all_goals first | (rw [cell_of_block h1];rfl) | (rw [cell_of_block h2];rfl)
 obtain⟨AW,hAW⟩:∃x,Zm L ⟨p0,p1,p2,q0,q1,q2,r⟩=x:=⟨_,rfl⟩
 have HAW:=z5 hAW
 have HJG:=z5 hJg
 have HY:=z5 hY
 have HJ0:=z5 h0
 have HSL:=z5 (zaw (P:=AW) hm ht (by rw [hAW];omega) (by omega))
 have HSO:=z5 (zk7 (P:=AW) ht (by rw [hAW];omega))
 rw [hAW] at HAL
 obtain⟨⟨l0,l1,l2⟩,t0,t1,t2,t3,t4,t5,t6⟩:=HCL.out _ h0
 have hz1:=(Array.getElem?_eq_some_iff.1 hb1).1
 have hz2:=(Array.getElem?_eq_some_iff.1 hb2).1
 have HZW:=(hJw _ h0).size
 have HJW:=z5 hJw
 clear hm ht hL hb1 hb2 hJw hJg hY h0 hAW
 refine callsIn_of_wp Tryz.func106 rfl trivial ?_ rfl
 simp only [Tryz.ntmps106,List.size_toArray,List.length_cons,List.length_nil,Nat.reduceAdd,Nat.reduceSub,Array.replicate_succ,Array.replicate_zero,List.push_toArray,List.append_toArray,List.nil_append,List.cons_append]
 gi_wp2_with fail
 refine Y8 (HON.out _ (HLV.out _ HJ0.out)) ?_
 rintro e x1 ⟨hb,g,tc,rfl,hg,hI⟩
 have HX1:=z5 hb
 have HI1:=z5 hI
 have hax:max 1 AW=AW:=by omega
 rw [HAW.out,hax]
 clear l0 l1 l2 t0 t1 t2 t3 t4 t5 t6 hb hI hax
 obtain⟨Wa,hWa⟩:∃Wa,x1.alloc (.cells #[iV AW,.slice (some ⟨g,0,none⟩) L.body.length tc] 49)=Wa:=⟨_,rfl⟩
 have HWa:=z5 hWa
 have HJA:Hid (J0 Wa):=by
  show J0 Wa
  rw [<-hWa];exact HJG.out _ _ (HJG.out _ _ HJ0.out HX1.out) (below_alloc1 _ _)
 have HCA:Hid (∀A,Ck Wa A->A.cell? ⟨x1.heap.size,0,none⟩=some (iV AW)/\A.cell? ⟨x1.heap.size,1,none⟩=some (.slice (some ⟨g,0,none⟩) L.body.length tc)):=fun A h=>by
  have hb:Wa.heap[x1.heap.size]?=some (.cells #[iV AW,.slice (some ⟨g,0,none⟩) L.body.length tc] 49 (0,0)):=by rw [<-HWa.out];exact zn _ _ _
  refine⟨h.cell _ _ ?_,h.cell _ _ ?_⟩ <;> (rw [cell_of_block hb];rfl)
 have HLAST:Hid (∀k A,J0 A->Ck Wa A->YieldAt Fence.wide k Tryz.prog l #[.agg #[iV AW,.slice (some ⟨g,0,none⟩) L.body.length tc]] A fun e B=>(e=.returned (.bool true)/\J1 B)\/(e=.returned (.bool false)/\Jx B)):=fun k A hj hc=>by
  refine (HY.out k true (AW,some ⟨g,0,none⟩,L.body.length,tc) A hj ⟨_,Zl.ck (A:=Wa) ⟨_,rfl,?_⟩ hc,HSL.out,Int.le_of_eq HAW.out.symm,fun _=>HSO.out⟩).mono fun e B h=>h.imp (fun h=>⟨h.1,h.2.2.2 rfl⟩) id
  rw [<-HWa.out];exact HI1.out.below (below_alloc1 _ _)
 have hxz:x1.heap.size<Wa.heap.size:=by rw [<-hWa];simp
 have HCK0:Hid (Ck Wa Wa):=Ck.below (Below.refl _ _)
 have HPR:=z5 (fun (wr:World) (lst:Int) (h:J0 wr) h1 h2=>HMK.out wr (HLV.out wr h) lst h1 h2)
 have hal1:=HAL.1
 have hal2:=HAL.2
 clear HAL
 gi_wp2_with fail
 clear hWa
 gi_loopw [5] (fun lv wr=>∃lst:Int,lv=iV lst/\1<=lst/\lst<=AW/\J0 wr/\Ck Wa wr) (fun lv _=>(AW - intOf lv).toNat)
 case atStart=>exact⟨1,rfl,Int.le_refl _,hal1,HJA.out,HCK0.out⟩
 case round =>
  obtain⟨lst,rfl,hl1,hl2,hj,hck⟩:=hrel
  have HJ:=z5 hj
  have HCK:=z5 hck
  obtain⟨m0,m1⟩:=HCA.out _ hck
  obtain⟨⟨l0,l1,l2⟩,t0,t1,t2,t3,t4,t5,t6⟩:=HCL.out _ hj
  have hz:=hck.size
  clear hj hck
  by_cases hlt:lst<AW
  ·gi_wp2_with fail
   refine Y8 (HPR.out wr lst HJ.out hl1 (by omega)) ?_
   rintro e x2 ⟨hb,P,ta,tc2,T,rfl,hI2,hlg,hp1,hp2⟩
   rw [HAW.out] at hp2
   have HB2:=z5 hb
   have HI2:=z5 hI2
   have HLG:=z5 hlg
   have hp3:P<=AW:=by omega
   obtain⟨Wp,hWp⟩:∃Wp,x2.alloc (.cells #[iV P,.slice ta T.length tc2] 49)=Wp:=⟨_,rfl⟩
   have HWP:=z5 hWp
   have hbp:Below wr.heap.size wr Wp:=by rw [<-hWp];exact hb.trans ((below_alloc1 _ _).mono hb.size)
   have HJP:Hid (J0 Wp):=HJG.out _ _ HJ.out hbp
   have HCP:Hid (Ck Wa Wp):=HCK.out.trans (Ck.below hbp)
   have HPP:Hid (Wp.heap[x2.heap.size]?=some (.cells #[iV P,.slice ta T.length tc2] 49 (0,0))):=by show _=_;rw [<-hWp];exact zn _ _ _
   have HPX:Hid (Zl Wp (.agg #[iV P,.slice ta T.length tc2]) P T):=by
    refine⟨_,rfl,?_⟩
    rw [<-hWp];exact hI2.below (below_alloc1 _ _)
   have hx2z:=hb.size
   clear m0 m1 l0 l1 l2 t0 t1 t2 t3 t4 t5 t6 hb hI2 hlg hbp hp2
   obtain⟨m0,m1⟩:=HCA.out _ HCP.out
   have n0:Wp.cell? ⟨x2.heap.size,0,none⟩=some (iV P):=by rw [cell_of_block HPP.out];rfl
   have n1:Wp.cell? ⟨x2.heap.size,1,none⟩=some (.slice ta T.length tc2):=by rw [cell_of_block HPP.out];rfl
   by_cases hge:AW<=P
   ·obtain⟨fn,tmps,assign,body,hy,hR⟩:=HLAST.out (n - 1) Wp HJP.out HCP.out
    have HR:=z5 hR
    clear hR
    gi_wp2_with fail
    refine⟨fun h=>absurd h (by simp [Fence.wide]),HR.out.mono ?_⟩
    rintro e W3 (⟨rfl,h⟩ | ⟨rfl,h⟩)
    ·gi_wp2_with fail
     go_end0
     exact⟨⟨_,rfl⟩,.inl h⟩
    ·gi_wp2_with fail
     go_end0
     exact⟨⟨_,rfl⟩,.inr h⟩
   ·obtain⟨fn,tmps,assign,body,hy,hR⟩:=HY.out (n - 1) false (P,ta,T.length,tc2) Wp HJP.out ⟨_,HPX.out,HLG.out,by rw [HAW.out];exact hp3,fun h=>absurd h (by simp)⟩
    have HR:=z5 hR
    clear hR
    dsimp only [zjp] at hy
    gi_wp2_with fail
    refine⟨fun h=>absurd h (by simp [Fence.wide]),HR.out.mono ?_⟩
    rintro e W3 (⟨rfl,hc3,hj3,-⟩ | ⟨rfl,h⟩)
    ·have HC3:=z5 hc3
     have HJ3:Hid (J0 W3):=by show J0 W3;simpa using hj3
     have k0:W3.cell? ⟨x2.heap.size,0,none⟩=some (iV P):=hc3.cell _ _ n0
     have hz3:x2.heap.size<W3.heap.size:=Nat.lt_of_lt_of_le (Array.getElem?_eq_some_iff.1 HPP.out).1 hc3.size
     clear hc3 hj3 m0 m1 n0 n1 hy
     gi_wp2_with fail
     go_roundw
     case rel=>exact⟨P+1,by go_num,by omega,by omega,HJ3.out,HCP.out.trans HC3.out⟩
     case measure=>simp [intOf];omega
    ·gi_wp2_with fail
     refine bodyPost_ret (results_none rfl _ _ _) rfl ?_
     exact⟨⟨_,rfl⟩,.inr h⟩
  ·obtain⟨fn,tmps,assign,body,hy,hR⟩:=HLAST.out (n - 1) wr HJ.out HCK.out
   have HR:=z5 hR
   clear hR
   gi_wp2_with fail
   refine⟨fun h=>absurd h (by simp [Fence.wide]),HR.out.mono ?_⟩
   rintro e W3 (⟨rfl,h⟩ | ⟨rfl,h⟩)
   ·gi_wp2_with fail
    go_end0
    exact⟨⟨_,rfl⟩,.inl h⟩
   ·gi_wp2_with fail
    go_end0
    exact⟨⟨_,rfl⟩,.inr h⟩
theorem zjs (v0 v1 v2 p0 p1 p2 q0 q1 q2 r:Value) (w:World):Calls Tryz.prog 54 #[.agg #[v0,v1,v2],.agg #[p0,p1,p2,q0,q1,q2,r]] w fun e w'=>e=.returned (.func (.func 106) #[] #[.pointer (some ⟨w.heap.size,0,none⟩),.pointer (some ⟨w.heap.size+1,0,none⟩)])/\w'=(w.alloc (.cells #[v0,v1,v2] 25)).alloc (.cells #[p0,p1,p2,q0,q1,q2,r] 28):=by
 go_enter Tryz.func54,Tryz.ntmps54
 go_wp2_with fail
 go_ret
 exact⟨rfl,rfl⟩
set_option maxRecDepth 8192
theorem zb5 {x:World} {g:Nat} {e:TypeId} {a b d a' b' d':Value} (h:x.heap[g]?=some (.cells #[a,b,d] e (0,0))) :
  (((x.setCell ⟨g,0,none⟩ a').setCell ⟨g,1,none⟩ b').setCell ⟨g,2,none⟩ d').cell? ⟨g,0,none⟩=some a'/\(((x.setCell ⟨g,0,none⟩ a').setCell ⟨g,1,none⟩ b').setCell ⟨g,2,none⟩ d').cell? ⟨g,1,none⟩=some b'/\(((x.setCell ⟨g,0,none⟩ a').setCell ⟨g,1,none⟩ b').setCell ⟨g,2,none⟩ d').cell? ⟨g,2,none⟩=some d':=by
 have hb:(((x.setCell ⟨g,0,none⟩ a').setCell ⟨g,1,none⟩ b').setCell ⟨g,2,none⟩ d').heap[g]?=some (.cells #[a',b',d'] e (0,0)):=by simp [World.setCell,Array.getElem?_modify,h]
 refine⟨?_,?_,?_⟩ <;> (rw [cell_of_block hb];rfl)
theorem xh.set {x:World} {v:Value} {K:Kn} {g i:Nat} {cs:Array Value} {e:TypeId} {z:Nat × Nat} (h:xh x v K) (hb:x.heap[g]?=some (.cells cs e z)) (hc:cs.size<10) (u:Value):xh (x.setCell ⟨g,i,none⟩ u) v K:=by
 obtain⟨kv,e1,a,cap,e2,h1,h2,h3⟩:=h
 refine⟨kv,e1,a,cap,e2,h1,h2,fun hp=>?_⟩
 obtain⟨b,off,e3,h4,h5⟩:=h3 hp
 have hne:b≠g:=fun hh=>by
  subst hh
  have h6:=h5 0 hp 9 (by omega)
  rw [show (yX (zq K.ops 0))[9]?=some (iV (zq K.ops 0).nn) from rfl] at h6
  have h7:(x.cell? ⟨b,off+0*10+9,none⟩).isSome:=by rw [h6];rfl
  simp [World.cell?,hb] at h7
  omega
 refine⟨b,off,e3,by simpa [World.setCell] using h4,fun i hi j hj=>?_⟩
 rw [xB (Below.heap_setCell _ _ _ _ hne)]
 exact h5 i hi j hj
theorem yf.set {y:World} {g n c:Nat} {T:List Int} {b:Nat} (h:yf y (.slice (some ⟨g,0,none⟩) n c) T) (hb:b≠g) (i:Nat) (v:Value):yf (y.setCell ⟨b,i,none⟩ v) (.slice (some ⟨g,0,none⟩) n c) T:=by
 obtain⟨a,cap,e,h1,h2,h3,h4⟩:=h
 refine⟨a,cap,e,h1,h2,h3,fun hp=>?_⟩
 obtain⟨b',off,e2,h5,h6⟩:=h4 hp
 injection e with e3
 rw [e2] at e3
 injection e3 with e3
 injection e3 with e3 e4
 refine⟨b',off,e2,by simpa [World.setCell] using h5,fun i hi=>?_⟩
 rw [xB (Below.heap_setCell _ _ _ _ (show b'≠b by omega))]
 exact h6 i hi
def zbb:Prop:=∀(v pv dv:Value) (t:Tg) (L:Lp) (P:Int) (T D:List Int) (w:World),zk w v L->Zl w pv P T->yf w dv D->zD L t P T=true->yI L t D=true->Calls Tryz.prog 109 #[v,.agg t.cells,pv,dv] w (U0 L t P T D w)
def zq0 (L:Lp) (t:Tg) (P:Int) (T:List Int) (w:World) (e:Ending) (w':World):Prop :=
 Below w.heap.size w w'/\∃k0 k1 kv c,e=.returned (.tuple #[.agg #[iV k0,iV k1,kv],iV c]) /\
  ((c=1/\kv=.slice none 0 0/\¬(5*(L.body.length:Int)<=t.r/\XS L t P T=true)) \/
   (c=0/\∃D,xh w' (.agg #[iV k0,iV k1,kv]) (zy L t P T D)/\yv L t (zy L t P T D) (yp L.body.length)=true))
set_option maxHeartbeats 4000000 in
theorem zby (hR:zcp) (hE:zbb) (p0 p1 p2 q0 q1 q2 r:Int) (L:Lp) (a0 a1 a2:Option Addr) (cap0 cap1 cap2:Nat) (P:Int) (T:List Int) (ta:Option Addr) (tl tc:Nat) (w:World)
  (hL:zk w (.agg #[.slice a0 L.logs.length cap0,.slice a1 L.body.length cap1,.slice a2 L.outs.length cap2]) L) (hP:Zl w (.agg #[iV P,.slice ta tl tc]) P T) (hlg:zD L ⟨p0,p1,p2,q0,q1,q2,r⟩ P T=true) :
  Calls Tryz.prog 55 #[.agg #[.slice a0 L.logs.length cap0,.slice a1 L.body.length cap1,.slice a2 L.outs.length cap2],.agg #[iV p0,iV p1,iV p2,iV q0,iV q1,iV q2,iV r],.agg #[iV P,.slice ta tl tc]] w fun e w'=>zq0 L ⟨p0,p1,p2,q0,q1,q2,r⟩ P T w e w':=by
 have HL:=z5 hL
 have HP:=z5 hP
 have HRG:=z5 (fun W (hW:Below w.heap.size w W)=>hR _ _ ⟨p0,p1,p2,q0,q1,q2,r⟩ L P T W (HL.out.below hW) (HP.out.below hW))
 have HEM:=z5 (fun W dv D (hW:Below w.heap.size w W) (hD:yf W dv D) hdo=>hE _ _ dv ⟨p0,p1,p2,q0,q1,q2,r⟩ L P T D W (HL.out.below hW) (HP.out.below hW) hD hlg hdo)
 have HLG:=z5 hlg
 obtain⟨W4,hW4⟩:∃W4,(((w.alloc (.cells #[.slice a0 L.logs.length cap0,.slice a1 L.body.length cap1,.slice a2 L.outs.length cap2] 25)).alloc (.cells #[iV p0,iV p1,iV p2,iV q0,iV q1,iV q2,iV r] 28)).alloc (.cells #[iV P,.slice ta tl tc] 49)).alloc (.cells #[iV 0,iV 0,.slice none 0 0] 31)=W4:=⟨_,rfl⟩
 have HB4:Hid (Below w.heap.size w W4):=by show Below _ _ _;rw [<-hW4];exact ((below_alloc3 _ _ _ _).alloc (by simp;omega) _)
 have HS4:Hid (W4.heap.size=w.heap.size+4):=by show _=_;rw [<-hW4];simp
 have e1:(w.alloc (.cells #[.slice a0 L.logs.length cap0,.slice a1 L.body.length cap1,.slice a2 L.outs.length cap2] 25)).heap.size=w.heap.size+1:=by simp
 have e2:((w.alloc (.cells #[.slice a0 L.logs.length cap0,.slice a1 L.body.length cap1,.slice a2 L.outs.length cap2] 25)).alloc (.cells #[iV p0,iV p1,iV p2,iV q0,iV q1,iV q2,iV r] 28)).heap.size=w.heap.size+1+1:=by simp
 have e3:(((w.alloc (.cells #[.slice a0 L.logs.length cap0,.slice a1 L.body.length cap1,.slice a2 L.outs.length cap2] 25)).alloc (.cells #[iV p0,iV p1,iV p2,iV q0,iV q1,iV q2,iV r] 28)).alloc (.cells #[iV P,.slice ta tl tc] 49)).heap.size=w.heap.size+1+1+1:=by simp
 have HCL:Hid (∀y,Below W4.heap.size W4 y->((y.cell? ⟨w.heap.size,0,none⟩=some (.slice a0 L.logs.length cap0)/\y.cell? ⟨w.heap.size,1,none⟩=some (.slice a1 L.body.length cap1)/\y.cell? ⟨w.heap.size,2,none⟩=some (.slice a2 L.outs.length cap2))/\(y.cell? ⟨w.heap.size+1,0,none⟩=some (iV p0)/\y.cell? ⟨w.heap.size+1,1,none⟩=some (iV p1)/\y.cell? ⟨w.heap.size+1,2,none⟩=some (iV p2)/\y.cell? ⟨w.heap.size+1,3,none⟩=some (iV q0)/\y.cell? ⟨w.heap.size+1,4,none⟩=some (iV q1)/\y.cell? ⟨w.heap.size+1,5,none⟩=some (iV q2)/\y.cell? ⟨w.heap.size+1,6,none⟩=some (iV r))/\(y.cell? ⟨w.heap.size+1+1,0,none⟩=some (iV P)/\y.cell? ⟨w.heap.size+1+1,1,none⟩=some (.slice ta tl tc)))/\y.heap[w.heap.size+1+1+1]?=some (.cells #[iV 0,iV 0,.slice none 0 0] 31 (0,0))):=fun y hy=>by
  have hs:=HS4.out
  have b3:y.heap[w.heap.size+1+1+1]?=some (.cells #[iV 0,iV 0,.slice none 0 0] 31 (0,0)):=by
   rw [hy.block _ (by omega),<-hW4,<-e3];exact zn _ _ _
  have b2:y.heap[w.heap.size+1+1]?=some (.cells #[iV P,.slice ta tl tc] 49 (0,0)):=by
   rw [hy.block _ (by omega),<-hW4,Below.heap_alloc _ _ _ (by omega),<-e2];exact zn _ _ _
  have b1:y.heap[w.heap.size+1]?=some (.cells #[iV p0,iV p1,iV p2,iV q0,iV q1,iV q2,iV r] 28 (0,0)):=by
   rw [hy.block _ (by omega),<-hW4,Below.heap_alloc _ _ _ (by omega),Below.heap_alloc _ _ _ (by omega),<-e1];exact zn _ _ _
  have b0:y.heap[w.heap.size]?=some (.cells #[.slice a0 L.logs.length cap0,.slice a1 L.body.length cap1,.slice a2 L.outs.length cap2] 25 (0,0)):=by
   rw [hy.block _ (by omega),<-hW4,Below.heap_alloc _ _ _ (by omega),Below.heap_alloc _ _ _ (by omega),Below.heap_alloc _ _ _ (by omega)];exact zn _ _ _
  refine⟨⟨⟨?_,?_,?_⟩,⟨?_,?_,?_,?_,?_,?_,?_⟩,?_,?_⟩,b3⟩
  all_goals first | (rw [cell_of_block b0];rfl) | (rw [cell_of_block b1];rfl) | (rw [cell_of_block b2];rfl)
 have HSY:Hid (∀y,Below W4.heap.size W4 y->w.heap.size+4<=y.heap.size):=fun y hy=>by have:=hy.size;have:=HS4.out;omega
 obtain⟨⟨⟨l0,l1,l2⟩,⟨t0,t1,t2,t3,t4,t5,t6⟩,s0,s1⟩,-⟩:=HCL.out W4 (Below.refl _ _)
 have hz4:=HSY.out W4 (Below.refl _ _)
 clear hL hP hlg e1 e2 e3
 go_enter Tryz.func55,Tryz.ntmps55
 go_wp2_with fail
 refine (HRG.out W4 HB4.out).mono ?_
 rintro e x1 ⟨hb,da,dl,dc,c,rfl,-,hyes⟩
 have HX1:=z5 hb
 have hyes:=hyes HLG.out
 clear hb l0 l1 l2 t0 t1 t2 t3 t4 t5 t6 s0 s1 hz4 hW4
 obtain⟨⟨⟨l0,l1,l2⟩,⟨t0,t1,t2,t3,t4,t5,t6⟩,s0,s1⟩,hkb⟩:=HCL.out x1 HX1.out
 have hz1:=HSY.out x1 HX1.out
 rcases hyes with ⟨rfl,rfl,hno⟩ | ⟨rfl,D,hD,hdo,htk⟩
 ·have k0:x1.cell? ⟨w.heap.size+1+1+1,0,none⟩=some (iV 0):=by rw [cell_of_block hkb];rfl
  have k1:x1.cell? ⟨w.heap.size+1+1+1,1,none⟩=some (iV 0):=by rw [cell_of_block hkb];rfl
  have k2:x1.cell? ⟨w.heap.size+1+1+1,2,none⟩=some (.slice none 0 0):=by rw [cell_of_block hkb];rfl
  have f0:x1.frozen? ⟨w.heap.size+1+1+1,0,none⟩=false:=by simp [World.frozen?,hkb]
  have f1:x1.frozen? ⟨w.heap.size+1+1+1,1,none⟩=false:=by simp [World.frozen?,hkb]
  have f2:x1.frozen? ⟨w.heap.size+1+1+1,2,none⟩=false:=by simp [World.frozen?,hkb]
  have HF:Hid (∀y,Below w.heap.size w y->zq0 L ⟨p0,p1,p2,q0,q1,q2,r⟩ P T w (.returned (.tuple #[.agg #[iV 0,iV 0,.slice none 0 0],iV 1])) y):=fun y hy=>⟨hy,0,0,_,1,rfl,.inl ⟨rfl,rfl,hno⟩⟩
  have HBX:Hid (Below w.heap.size w x1):=HB4.out.trans (HX1.out.mono HB4.out.size)
  have HKB:=z5 hkb
  have HTC:=z5 (zb5 (a':=iV 0) (b':=iV 0) (d':=.slice none 0 0) hkb)
  clear hno hkb
  go_wp2_with fail
  obtain⟨g0,g1,g2⟩:=HTC.out
  exact bodyPost_ret (v:=.tuple #[.agg #[iV 0,iV 0,.slice none 0 0],iV 1]) (by simp [results,Tryz.results55,go_sem,g0,g1,g2]) rfl (HF.out _ (((HBX.out.setCell (by show w.heap.size<=w.heap.size+1+1+1;omega) _).setCell (by show w.heap.size<=w.heap.size+1+1+1;omega) _).setCell (by show w.heap.size<=w.heap.size+1+1+1;omega) _))
 ·have HD:=z5 hD
  have HBX:Hid (Below w.heap.size w x1):=HB4.out.trans (HX1.out.mono HB4.out.size)
  obtain⟨da2,dc2,hds,-⟩:=id hD
  injection hds with d1 d2 d3
  subst d1;subst d2;subst d3
  have hek:zcx L ⟨p0,p1,p2,q0,q1,q2,r⟩ P T D=zy L ⟨p0,p1,p2,q0,q1,q2,r⟩ P T D/\zcw L ⟨p0,p1,p2,q0,q1,q2,r⟩ P T D=0:=by unfold zcx zcw;rw [HLG.out,hdo];exact⟨rfl,rfl⟩
  have HEK:=z5 hek
  have HTK:=z5 htk
  have HEP:=z5 (HEM.out x1 _ D HBX.out HD.out hdo)
  clear hD hdo htk hek hkb
  go_wp2_with fail
  refine HEP.out.mono ?_
  rintro e x2 ⟨hb2,k0,k1,kv,rfl,hk⟩
  rw [HEK.out.1] at hk
  rw [HEK.out.2]
  have HB2:=z5 hb2
  have HXX:Hid (Below W4.heap.size W4 x2):=HX1.out.trans (hb2.mono HX1.out.size)
  obtain⟨-,hkb⟩:=HCL.out x2 HXX.out
  have hz2:=HSY.out x2 HXX.out
  have HK:=z5 hk
  obtain⟨kl,hkl,ka,kc,rfl,-⟩:=id hk
  simp only [Value.agg.injEq,Array.mk.injEq,List.cons.injEq,and_true] at hkl
  obtain⟨-,-,rfl⟩:=hkl
  have c0:x2.cell? ⟨w.heap.size+1+1+1,0,none⟩=some (iV 0):=by rw [cell_of_block hkb];rfl
  have c1:x2.cell? ⟨w.heap.size+1+1+1,1,none⟩=some (iV 0):=by rw [cell_of_block hkb];rfl
  have c2:x2.cell? ⟨w.heap.size+1+1+1,2,none⟩=some (.slice none 0 0):=by rw [cell_of_block hkb];rfl
  have f0:x2.frozen? ⟨w.heap.size+1+1+1,0,none⟩=false:=by simp [World.frozen?,hkb]
  have f1:x2.frozen? ⟨w.heap.size+1+1+1,1,none⟩=false:=by simp [World.frozen?,hkb]
  have f2:x2.frozen? ⟨w.heap.size+1+1+1,2,none⟩=false:=by simp [World.frozen?,hkb]
  have HKB:=z5 hkb
  generalize hkn:(zy L ⟨p0,p1,p2,q0,q1,q2,r⟩ P T D).ops.length=kn at *
  have HTC:=z5 (zb5 (a':=iV k0) (b':=iV k1) (d':=.slice ka kn kc) hkb)
  have HKN:=z5 hkn
  clear l0 l1 l2 t0 t1 t2 t3 t4 t5 t6 s0 s1 hb2 hk hkb hkn
  go_wp2_with fail
  obtain⟨g0,g1,g2⟩:=HTC.out
  refine bodyPost_ret (v:=.tuple #[.agg #[iV k0,iV k1,.slice ka kn kc],iV 0]) (by simp [results,Tryz.results55,go_sem,g0,g1,g2]) rfl ?_
  have hbw:Below w.heap.size w x2:=HBX.out.trans (HB2.out.mono HBX.out.size)
  refine⟨((hbw.setCell (by show w.heap.size<=w.heap.size+1+1+1;omega) _).setCell (by show w.heap.size<=w.heap.size+1+1+1;omega) _).setCell (by show w.heap.size<=w.heap.size+1+1+1;omega) _,k0,k1,_,0,rfl,.inr ⟨rfl,D,?_,HTK.out⟩⟩
  have h1:=HK.out.set (i:=0) HKB.out (by show 3<10;omega) (iV k0)
  have b1:(x2.setCell ⟨w.heap.size+1+1+1,0,none⟩ (iV k0)).heap[w.heap.size+1+1+1]?=some (.cells #[iV k0,iV 0,.slice none 0 0] 31 (0,0)):=by simp [World.setCell,Array.getElem?_modify,HKB.out]
  have h2:=h1.set (i:=1) b1 (by show 3<10;omega) (iV k1)
  have b2:((x2.setCell ⟨w.heap.size+1+1+1,0,none⟩ (iV k0)).setCell ⟨w.heap.size+1+1+1,1,none⟩ (iV k1)).heap[w.heap.size+1+1+1]?=some (.cells #[iV k0,iV k1,.slice none 0 0] 31 (0,0)):=by simp [World.setCell,Array.getElem?_modify,HKB.out]
  exact h2.set (i:=2) b2 (by show 3<10;omega) _
set_option maxHeartbeats 4000000 in
theorem zd5 (n:Nat) (x:World) (hn:n<=16):Calls Tryz.prog 56 #[iV (n:Int)] x fun e w'=>e=.returned (.slice (some ⟨x.heap.size,0,none⟩) n n)/\Below x.heap.size x w'/\yf w' (.slice (some ⟨x.heap.size,0,none⟩) n n) (yp n):=by
 have hmk:=run_make_row' (P:=Tryz.prog) 22 3 (iV 0) 8 Tryz.underlying22 Tryz.j3 rfl .i64 .i64 n (by omega) (by omega)
 have H0:Hid (zg (x.alloc (.cells (madeCells #[iV 0] n) 3)) x.heap.size 3 n (fun v=>iV (if v<0 then (v:Int) else 0))):=zg.zeros x _ n _
 have HB0:Hid (Below x.heap.size x (x.alloc (.cells (madeCells #[iV 0] n) 3))):=below_alloc1 _ _
 go_enter Tryz.func56,Tryz.ntmps56
 go_wp2_with fail
 go_loopw [9] (fun i wr=>∃k:Nat,k<=n/\i=iV k/\Below x.heap.size x wr/\zg wr x.heap.size 3 n (fun v=>iV (if v<k then (v:Int) else 0))) (fun i _=>n - (intOf i).toNat)
 case atStart=>exact⟨0,by omega,rfl,HB0.out,H0.out⟩
 case round =>
  clear H0 HB0 hmk
  obtain⟨k,hk,rfl,hbel,hrow⟩:=hrel
  have HB:=z5 hbel
  have HROW:=z5 hrow
  by_cases hkl:k<n
  ·have hki:(k:Int)<(n:Int):=by omega
   have c0:wr.cell? ⟨x.heap.size,k,none⟩=some (iV 0):=by rw [hrow.cell hkl];simp
   have hz:=hrow.lt
   have fz:=hrow.frozen k
   clear hbel hrow
   go_wp2_with fail
   go_roundw
   case rel =>
    refine⟨k+1,by omega,by go_num,HB.out.setCell (Nat.le_refl _) _,(HROW.out.set k _ hkl).congr fun i hi=>?_⟩
    by_cases e:i=k
    ·subst e;rw [if_pos rfl,if_pos (Nat.lt_succ_self _)]
    ·rw [if_neg e];congr 1;by_cases h:i<k
     ·rw [if_pos h,if_pos (by omega)]
     ·rw [if_neg h,if_neg (by omega)]
   case measure=>simp [intOf];omega
  ·have e:k=n:=by omega
   subst e
   have hki:¬(k:Int)<(k:Int):=by omega
   have HF:Hid (yf wr (.slice (some ⟨x.heap.size,0,none⟩) k k) (yp k)):=by
    refine⟨some ⟨x.heap.size,0,none⟩,k,by rw [YF],by rw [YF];exact Nat.le_refl _,by unfold maxLen;omega,fun i hi=>?_,fun _=>⟨x.heap.size,0,rfl,hrow.lt,fun i hi=>?_⟩⟩
    ·rw [YF] at hi;rw [XP hi];omega
    ·rw [YF] at hi;rw [Nat.zero_add,XP hi,hrow.cell hi,if_pos hi]
   clear hbel hrow
   go_wp2_with fail
   exact bodyPost_ret (v:=.slice (some ⟨x.heap.size,0,none⟩) k k) (by simp [results,Tryz.results56,go_sem]) rfl ⟨rfl,HB.out,HF.out⟩
set_option maxRecDepth 8192
attribute [local go_sem] Oper.semAt_some
theorem xh.ck {A B:World} {v:Value} {K:Kn} (h:xh A v K) (k:Ck A B):xh B v K:=by
 obtain⟨kv,e,a,cap,e1,h1,h2,h4⟩:=h
 refine⟨kv,e,a,cap,e1,h1,h2,fun hp=>?_⟩
 obtain⟨b,off,e2,h5,h6⟩:=h4 hp
 refine⟨b,off,e2,Nat.lt_of_lt_of_le h5 k.size,fun i hi j hj=>?_⟩
 have h7:=h6 i hi j hj
 obtain⟨u,hu⟩:∃u,(yX (zq K.ops i))[j]?=some u:=⟨_,Array.getElem?_eq_getElem (show j<(yX (zq K.ops i)).size from hj)⟩
 rw [hu] at h7 ⊢
 exact k.cell _ _ h7
def zex (L:Lp) (t:Tg) (w:World) (e:Ending) (w':World):Prop :=
 Below w.heap.size w w'/\∃k0 k1 kv oa ol oc c,e=.returned (.tuple #[.agg #[iV k0,iV k1,kv],.slice oa ol oc,iV c]) /\
  ((zx L && zp t)=false->c=2/\ol=0/\xh w' (.agg #[iV k0,iV k1,kv]) ⟨0,0,[]⟩) /\
  ((zx L && zp t)=true->(c=1/\t.r<5*(L.body.length:Int)/\ol=0/\xh w' (.agg #[iV k0,iV k1,kv]) ⟨0,0,[]⟩)\/(c=0/\∃K O,xh w' (.agg #[iV k0,iV k1,kv]) K/\yf w' (.slice oa ol oc) O/\yv L t K O=true/\(xP L t:Int)<=K.pc/\(xi L t:Int)<=K.pc/\K.pc<=Zm L t/\K.st*K.pc<=1200))
theorem zal (w:World):xh w (.agg #[iV 0,iV 0,.slice none 0 0]) ⟨0,0,[]⟩:=⟨_,rfl,none,0,rfl,Nat.le_refl _,Nat.zero_le _,fun h=>absurd h (Nat.lt_irrefl _)⟩
theorem zge {L:Lp} {t:Tg} {P:Int} {T:List Int} (h:zD L t P T=true):zM P T L.body.length*P<=1200:=by
 obtain⟨hm,hmt,hp1,hp2,hlen,hT,-⟩:=zL h
 have h1:zM P T L.body.length<=1000 / P+1:=Vq P T _ (by have:=Int.ediv_nonneg (show (0:Int)<=1000 by omega) (show 0<=P by omega);omega) _ fun s hs=>by
  have h2:=zl hT s (by omega)
  unfold Y6 at h2
  simp only [Bool.and_eq_true,decide_eq_true_eq] at h2
  have h3:=zo.1 h2.1
  have h4:=Int.ediv_le_ediv (show 0<P by omega) h3.2
  omega
 have h2:=Int.mul_le_mul_of_nonneg_right h1 (show 0<=P by omega)
 have h3:=Int.ediv_mul_le 1000 (show P≠0 by omega)
 have h4:(1000 / P+1)*P=1000 / P*P+P:=by rw [Int.add_mul,Int.one_mul]
 omega
theorem zj6 {L:Lp} {t:Tg} {P:Int} {T D:List Int} (hlg:zD L t P T=true) (hP:P<=Zm L t):(xP L t:Int)<=(zy L t P T D).pc/\(xi L t:Int)<=(zy L t P T D).pc/\(zy L t P T D).pc<=Zm L t/\(zy L t P T D).st*(zy L t P T D).pc<=1200:=by
 obtain⟨-,-,hp1,-,-⟩:=zL hlg
 have hPn:((P.toNat:Nat):Int)=P:=Int.toNat_of_nonneg (by omega)
 have h2:zD L t (P.toNat:Int) T=true:=by rw [hPn];exact hlg
 have h3:=zdc h2
 have h4:=zc0 h2
 exact⟨by show _<=P;omega,by show _<=P;omega,hP,zge hlg⟩
theorem U4 {w y:World} {x0 x1 x2 p0 p1 p2 q0 q1 q2 r:Value} (h:Below (w.heap.size+5) (((((w.alloc (.cells #[x0,x1,x2] 25)).alloc (.cells #[p0,p1,p2,q0,q1,q2,r] 28)).alloc (.cells #[iV 0,iV 0,.slice none 0 0] 31)).alloc (.cells #[.slice none 0 0] 22)).alloc (.cells #[iV 0] 50)) y) :
  y.heap[w.heap.size]?=some (.cells #[x0,x1,x2] 25 (0,0))/\y.heap[w.heap.size+1]?=some (.cells #[p0,p1,p2,q0,q1,q2,r] 28 (0,0))/\y.heap[w.heap.size+1+1]?=some (.cells #[iV 0,iV 0,.slice none 0 0] 31 (0,0))/\y.heap[w.heap.size+1+1+1]?=some (.cells #[.slice none 0 0] 22 (0,0))/\y.heap[w.heap.size+1+1+1+1]?=some (.cells #[iV 0] 50 (0,0)):=by
 have e1:(w.alloc (.cells #[x0,x1,x2] 25)).heap.size=w.heap.size+1:=by simp
 have e2:((w.alloc (.cells #[x0,x1,x2] 25)).alloc (.cells #[p0,p1,p2,q0,q1,q2,r] 28)).heap.size=w.heap.size+1+1:=by simp
 have e3:(((w.alloc (.cells #[x0,x1,x2] 25)).alloc (.cells #[p0,p1,p2,q0,q1,q2,r] 28)).alloc (.cells #[iV 0,iV 0,.slice none 0 0] 31)).heap.size=w.heap.size+1+1+1:=by simp
 have e4:((((w.alloc (.cells #[x0,x1,x2] 25)).alloc (.cells #[p0,p1,p2,q0,q1,q2,r] 28)).alloc (.cells #[iV 0,iV 0,.slice none 0 0] 31)).alloc (.cells #[.slice none 0 0] 22)).heap.size=w.heap.size+1+1+1+1:=by simp
 refine⟨?_,?_,?_,?_,?_⟩
 all_goals rw [h.block _ (by omega)]
 ·rw [Below.heap_alloc _ _ _ (by omega),Below.heap_alloc _ _ _ (by omega),Below.heap_alloc _ _ _ (by omega),Below.heap_alloc _ _ _ (by omega)];exact zn _ _ _
 ·rw [Below.heap_alloc _ _ _ (by omega),Below.heap_alloc _ _ _ (by omega),Below.heap_alloc _ _ _ (by omega),<-e1];exact zn _ _ _
 ·rw [Below.heap_alloc _ _ _ (by omega),Below.heap_alloc _ _ _ (by omega),<-e2];exact zn _ _ _
 ·rw [Below.heap_alloc _ _ _ (by omega),<-e3];exact zn _ _ _
 ·rw [<-e4];exact zn _ _ _
def zba (L:Lp) (t:Tg) (w W:World):Prop:=Below w.heap.size w W/\∃k0 k1 kv ov K,W.heap[w.heap.size+1+1]?=some (.cells #[iV k0,iV k1,kv] 31 (0,0))/\W.heap[w.heap.size+1+1+1]?=some (.cells #[ov] 22 (0,0))/\W.heap[w.heap.size+1+1+1+1]?=some (.cells #[iV 0] 50 (0,0)) /\
 xh W (.agg #[iV k0,iV k1,kv]) K/\yf W ov (yp L.body.length)/\yv L t K (yp L.body.length)=true/\(xP L t:Int)<=K.pc/\(xi L t:Int)<=K.pc/\K.pc<=Zm L t/\K.st*K.pc<=1200
theorem zba.put {L:Lp} {t:Tg} {w A:World} {l:Nat} {o o':Obj} (h:zba L t w A) (hl:w.heap.size+5<=l) (hA:A.heap[l]?=some o) (ho:o.isCells=false):zba L t w (A.putObj l o'):=by
 obtain⟨hb,k0,k1,kv,ov,K,h1,h2,h3,h4,h5,h6⟩:=h
 have hc:=Ck.put o' hA ho
 exact⟨hb.trans (V4 o' hA (by omega)),k0,k1,kv,ov,K,(World.putObj_heap_other (by omega)).trans h1,(World.putObj_heap_other (by omega)).trans h2,(World.putObj_heap_other (by omega)).trans h3,h4.ck hc,h5.ck hc,h6⟩
theorem zxl {y:World} {B:Nat} {ta tb tc:TypeId} {k0 k1 kv ov c0 c:Value} (h0:y.heap[B+1+1]?=some (.cells #[k0,k1,kv] ta (0,0))) (h1:y.heap[B+1+1+1]?=some (.cells #[ov] tb (0,0))) (h2:y.heap[B+1+1+1+1]?=some (.cells #[c0] tc (0,0))) {n:Nat} {w:World} (hb:Below n w y) (hn:n<=B) :
  ∃V,((((y.setCell ⟨B+1+1,0,none⟩ (iV 0)).setCell ⟨B+1+1,1,none⟩ (iV 0)).setCell ⟨B+1+1,2,none⟩ (.slice none 0 0)).setCell ⟨B+1+1+1,0,none⟩ (.slice none 0 0)).setCell ⟨B+1+1+1+1,0,none⟩ c=V/\Below n w V/\(∀k,B+5<=k->V.heap[k]?=y.heap[k]?)/\V.heap[B+1+1]?=some (.cells #[iV 0,iV 0,.slice none 0 0] ta (0,0))/\V.heap[B+1+1+1]?=some (.cells #[.slice none 0 0] tb (0,0))/\V.heap[B+1+1+1+1]?=some (.cells #[c] tc (0,0)):=by
 refine⟨_,rfl,((((hb.setCell (by show n<=B+1+1;omega) _).setCell (by show n<=B+1+1;omega) _).setCell (by show n<=B+1+1;omega) _).setCell (by show n<=B+1+1+1;omega) _).setCell (by show n<=B+1+1+1+1;omega) _,fun k hk=>?_,?_,?_,?_⟩
 ·rw [Below.heap_setCell _ _ _ _ (by show k≠B+1+1+1+1;omega),Below.heap_setCell _ _ _ _ (by show k≠B+1+1+1;omega),Below.heap_setCell _ _ _ _ (by show k≠B+1+1;omega),Below.heap_setCell _ _ _ _ (by show k≠B+1+1;omega),Below.heap_setCell _ _ _ _ (by show k≠B+1+1;omega)]
 ·rw [Below.heap_setCell _ _ _ _ (by show B+1+1≠B+1+1+1+1;omega),Below.heap_setCell _ _ _ _ (by show B+1+1≠B+1+1+1;omega)]
  simp [World.setCell,Array.getElem?_modify,h0]
 ·rw [Below.heap_setCell _ _ _ _ (by show B+1+1+1≠B+1+1+1+1;omega)]
  simp [World.setCell,Array.getElem?_modify,h1]
 ·simp [World.setCell,Array.getElem?_modify,h2]
theorem zxm {V:World} {B:Nat} {ta tb tc:TypeId} {k0 k1 kv ov c:Value} (h0:V.heap[B+1+1]?=some (.cells #[k0,k1,kv] ta (0,0))) (h1:V.heap[B+1+1+1]?=some (.cells #[ov] tb (0,0))) (h2:V.heap[B+1+1+1+1]?=some (.cells #[c] tc (0,0))) :
  V.cell? ⟨B+1+1,0,none⟩=some k0/\V.cell? ⟨B+1+1,1,none⟩=some k1/\V.cell? ⟨B+1+1,2,none⟩=some kv/\V.cell? ⟨B+1+1+1,0,none⟩=some ov/\V.cell? ⟨B+1+1+1+1,0,none⟩=some c:=by
 refine⟨?_,?_,?_,?_,?_⟩
 all_goals first | (rw [cell_of_block h0];rfl) | (rw [cell_of_block h1];rfl) | (rw [cell_of_block h2];rfl)
theorem zxn {V:World} {B:Nat} {ta tb tc:TypeId} {k0 k1 kv ov c:Value} (h0:V.heap[B+1+1]?=some (.cells #[k0,k1,kv] ta (0,0))) (h1:V.heap[B+1+1+1]?=some (.cells #[ov] tb (0,0))) (h2:V.heap[B+1+1+1+1]?=some (.cells #[c] tc (0,0))) :
  V.frozen? ⟨B+1+1,0,none⟩=false/\V.frozen? ⟨B+1+1,1,none⟩=false/\V.frozen? ⟨B+1+1,2,none⟩=false/\V.frozen? ⟨B+1+1+1,0,none⟩=false/\V.frozen? ⟨B+1+1+1+1,0,none⟩=false:=by
 refine⟨?_,?_,?_,?_,?_⟩ <;> simp [World.frozen?,h0,h1,h2]
theorem zxk {V:World} {B D:Nat} {o:Obj} {ta tb tc:TypeId} {k0 k1 kv ov c:Value} (h0:V.heap[B+1+1]?=some (.cells #[k0,k1,kv] ta (0,0))) (h1:V.heap[B+1+1+1]?=some (.cells #[ov] tb (0,0))) (h2:V.heap[B+1+1+1+1]?=some (.cells #[c] tc (0,0))) (hD:B+5<=D) :
  (V.putObj D o).cell? ⟨B+1+1,0,none⟩=some k0/\(V.putObj D o).cell? ⟨B+1+1,1,none⟩=some k1/\(V.putObj D o).cell? ⟨B+1+1,2,none⟩=some kv/\(V.putObj D o).cell? ⟨B+1+1+1,0,none⟩=some ov/\(V.putObj D o).cell? ⟨B+1+1+1+1,0,none⟩=some c :=
 zxm ((World.putObj_heap_other (show B+1+1≠D by omega)).trans h0) ((World.putObj_heap_other (show B+1+1+1≠D by omega)).trans h1) ((World.putObj_heap_other (show B+1+1+1+1≠D by omega)).trans h2)
set_option maxHeartbeats 4000000 in
theorem zib (hM:zbd) (hO:zoc) (hR:zcp) (hE:zbb) (p0 p1 p2 q0 q1 q2 r:Int) (L:Lp) (a0 a1 a2:Option Addr) (cap0 cap1 cap2:Nat) (w:World) (hm:zx L=true) (ht:zp ⟨p0,p1,p2,q0,q1,q2,r⟩=true)
  (hL:zk w (.agg #[.slice a0 L.logs.length cap0,.slice a1 L.body.length cap1,.slice a2 L.outs.length cap2]) L) :
  Calls Tryz.prog 19 #[.agg #[.slice a0 L.logs.length cap0,.slice a1 L.body.length cap1,.slice a2 L.outs.length cap2],.agg #[iV p0,iV p1,iV p2,iV q0,iV q1,iV q2,iV r]] w fun e w'=>zex L ⟨p0,p1,p2,q0,q1,q2,r⟩ w e w':=by
 obtain⟨W5,hW5⟩:∃W5,(((((w.alloc (.cells #[.slice a0 L.logs.length cap0,.slice a1 L.body.length cap1,.slice a2 L.outs.length cap2] 25)).alloc (.cells #[iV p0,iV p1,iV p2,iV q0,iV q1,iV q2,iV r] 28)).alloc (.cells #[iV 0,iV 0,.slice none 0 0] 31)).alloc (.cells #[.slice none 0 0] 22)).alloc (.cells #[iV 0] 50))=W5:=⟨_,rfl⟩
 have HS5:Hid (W5.heap.size=w.heap.size+5):=by show _=_;rw [<-hW5];simp
 have HB5:Hid (Below w.heap.size w W5):=by show Below _ _ _;rw [<-hW5];exact (((below_alloc3 _ _ _ _).alloc (by simp;omega) _).alloc (by simp;omega) _)
 have HBX:Hid (∀y,Below W5.heap.size W5 y->_):=fun y hy=>U4 (by rw [hW5,<-HS5.out];exact hy)
 have HCL:Hid (∀y,Below W5.heap.size W5 y->(y.cell? ⟨w.heap.size,0,none⟩=some (.slice a0 L.logs.length cap0)/\y.cell? ⟨w.heap.size,1,none⟩=some (.slice a1 L.body.length cap1)/\y.cell? ⟨w.heap.size,2,none⟩=some (.slice a2 L.outs.length cap2))/\(y.cell? ⟨w.heap.size+1,0,none⟩=some (iV p0)/\y.cell? ⟨w.heap.size+1,1,none⟩=some (iV p1)/\y.cell? ⟨w.heap.size+1,2,none⟩=some (iV p2)/\y.cell? ⟨w.heap.size+1,3,none⟩=some (iV q0)/\y.cell? ⟨w.heap.size+1,4,none⟩=some (iV q1)/\y.cell? ⟨w.heap.size+1,5,none⟩=some (iV q2)/\y.cell? ⟨w.heap.size+1,6,none⟩=some (iV r))/\w.heap.size+5<=y.heap.size):=fun y hy=>by
  obtain⟨b0,b1,-⟩:=HBX.out y hy
  have:=hy.size
  have:=HS5.out
  refine⟨⟨?_,?_,?_⟩,⟨?_,?_,?_,?_,?_,?_,?_⟩,by omega⟩
  all_goals first | (rw [cell_of_block b0];rfl) | (rw [cell_of_block b1];rfl)
 have HL:=z5 hL
 have HMY:=z5 (fun W (h:zk W (.agg #[.slice a0 L.logs.length cap0,.slice a1 L.body.length cap1,.slice a2 L.outs.length cap2]) L)=>hm ▸ XN _ L W h)
 have HTM:=z5 (fun W=>ht ▸ zds ⟨p0,p1,p2,q0,q1,q2,r⟩ W)
 obtain⟨⟨l0,l1,l2⟩,⟨t0,t1,t2,t3,t4,t5,t6⟩,hz⟩:=HCL.out W5 (Below.refl _ _)
 have HM:=z5 hm
 have HT:=z5 ht
 clear hL hm ht
 obtain⟨n,-⟩:∃n:Nat,True:=⟨3,trivial⟩
 refine (callsIn_wide (n:=n)).1 ?_
 refine callsIn_of_wp_marks Tryz.func19 rfl trivial ?_ rfl
 simp only [Tryz.ntmps19,List.size_toArray,List.length_cons,List.length_nil,Nat.reduceAdd,Nat.reduceSub,Array.replicate_succ,Array.replicate_zero,List.push_toArray,List.append_toArray,List.nil_append,List.cons_append]
 gi_wp2_with fail
 refine Y8 (HMY.out W5 (HL.out.below HB5.out)) ?_
 rintro e x1 ⟨rfl,hb1⟩
 have HX1:=z5 hb1
 clear hW5 l0 l1 l2 t0 t1 t2 t3 t4 t5 t6 hz hb1
 obtain⟨⟨l0,l1,l2⟩,⟨t0,t1,t2,t3,t4,t5,t6⟩,hz⟩:=HCL.out x1 HX1.out
 gi_wp2_with fail
 refine Y8 (HTM.out x1) ?_
 rintro e x2 ⟨rfl,hb2⟩
 have HX2:Hid (Below W5.heap.size W5 x2):=HX1.out.trans (hb2.mono HX1.out.size)
 clear l0 l1 l2 t0 t1 t2 t3 t4 t5 t6 hz hb2
 obtain⟨⟨l0,l1,l2⟩,⟨t0,t1,t2,t3,t4,t5,t6⟩,hz⟩:=HCL.out x2 HX2.out
 gi_wp2_with fail
 refine Y8 (zjs _ _ _ _ _ _ _ _ _ _ x2) ?_
 rintro e x3 ⟨rfl,rfl⟩
 obtain⟨x3,hx3⟩:∃x3,(x2.alloc (.cells #[.slice a0 L.logs.length cap0,.slice a1 L.body.length cap1,.slice a2 L.outs.length cap2] 25)).alloc (.cells #[iV p0,iV p1,iV p2,iV q0,iV q1,iV q2,iV r] 28)=x3:=⟨_,rfl⟩
 have HB3:Hid (Below x2.heap.size x2 x3):=by show Below _ _ _;rw [<-hx3];exact below_alloc2 _ _ _
 have HX3:Hid (Below W5.heap.size W5 x3):=HX2.out.trans (HB3.out.mono HX2.out.size)
 have HS3:Hid (x3.heap.size=x2.heap.size+1+1):=by show _=_;rw [<-hx3];simp
 have HE0:Hid (x3.heap[x2.heap.size]?=some (.cells #[.slice a0 L.logs.length cap0,.slice a1 L.body.length cap1,.slice a2 L.outs.length cap2] 25 (0,0))):=by
  show _=_;rw [<-hx3,Below.heap_alloc _ _ _ (by simp)];exact zn _ _ _
 have HE1:Hid (x3.heap[x2.heap.size+1]?=some (.cells #[iV p0,iV p1,iV p2,iV q0,iV q1,iV q2,iV r] 28 (0,0))):=by
  show _=_;rw [<-hx3,<-World.size_alloc];exact zn _ _ _
 have HW3:Hid (Below w.heap.size w x3):=HB5.out.trans (HX3.out.mono HB5.out.size)
 have HIT:=z5 (zjr hM hO p0 p1 p2 q0 q1 q2 r L a0 a1 a2 cap0 cap1 cap2 x3 x2.heap.size (x2.heap.size+1) HM.out HT.out (HL.out.below HW3.out) HE0.out HE1.out)
 clear l0 l1 l2 t0 t1 t2 t3 t4 t5 t6 hz
 gi_wp2_with fail
 clear hx3
 refine zg0 (gf:=106) (lb:=#[.pointer (some ⟨x2.heap.size,0,none⟩),.pointer (some ⟨x2.heap.size+1,0,none⟩)]) rfl (enters_of Tryz.func106 (by kernel_rfl) rfl) HIT.out rfl (fun la x A B h k=>zco.ck h k)
  (r<5*(L.body.length:Int)) (zba L ⟨p0,p1,p2,q0,q1,q2,r⟩ w) ?res
  (fun x B=>{ tmps:=#[.agg #[.slice a0 L.logs.length cap0,.slice a1 L.body.length cap1,.slice a2 L.outs.length cap2],.agg #[iV p0,iV p1,iV p2,iV q0,iV q1,iV q2,iV r],.pointer (some ⟨w.heap.size,0,none⟩),.pointer (some ⟨w.heap.size+1,0,none⟩),.pointer (some ⟨w.heap.size+1+1,0,none⟩),.pointer (some ⟨w.heap.size+1+1+1,0,none⟩),.pointer (some ⟨w.heap.size+1+1+1+1,0,none⟩),.pointer (some ⟨B,0,none⟩),undef,undef,.agg #[.slice a0 L.logs.length cap0,.slice a1 L.body.length cap1,.slice a2 L.outs.length cap2],.bool true,.bool false,.bool false,.agg #[iV p0,iV p1,iV p2,iV q0,iV q1,iV q2,iV r],.bool true,.bool false,.bool false,undef,.agg #[.slice a0 L.logs.length cap0,.slice a1 L.body.length cap1,.slice a2 L.outs.length cap2],.agg #[iV p0,iV p1,iV p2,iV q0,iV q1,iV q2,iV r],.func (.func 106) #[] #[.pointer (some ⟨x2.heap.size,0,none⟩),.pointer (some ⟨x2.heap.size+1,0,none⟩)],zjp x,undef,undef,undef,undef,undef,undef,undef,undef,undef,undef,undef,undef,undef,undef,undef],defers:=[] }) (fun x=>.cells #[iV x.1,.slice x.2.1 x.2.2.1 x.2.2.2] 49 (0,0)) ?assign ?body ?done ?stop
 case res =>
  intro A l o o' h hl hA ho
  have:=HS3.out;have:=HX2.out.size;have:=HS5.out
  exact h.put (by omega) hA ho
 case assign =>
  intro l k x W K hK
  dsimp only [zjp] at *
  gi_wp2_with fail
  exact hK
 case body =>
  rintro l k B la ⟨P,ta,tl,tc⟩ W hbw ⟨T,hP,hlg,hle,hov⟩ hBs hB
  dsimp only [zjp] at *
  have HXW:Hid (Below W5.heap.size W5 W):=HX3.out.trans (hbw.mono HX3.out.size)
  obtain⟨⟨l0,l1,l2⟩,⟨t0,t1,t2,t3,t4,t5,t6⟩,hz⟩:=HCL.out W HXW.out
  have b0:W.cell? ⟨B,0,none⟩=some (iV P):=by rw [cell_of_block hB];rfl
  have b1:W.cell? ⟨B,1,none⟩=some (.slice ta tl tc):=by rw [cell_of_block hB];rfl
  have HKO:=z5 (zby hR hE p0 p1 p2 q0 q1 q2 r L a0 a1 a2 cap0 cap1 cap2 P T ta tl tc W (HL.out.below (HB5.out.trans (HXW.out.mono HB5.out.size))) hP hlg)
  have HLG:=z5 hlg
  have HLE:=z5 hle
  have HOV:=z5 hov
  have HBW:=z5 hbw
  clear hP hlg hle hov hB hbw
  gi_wp2_with fail
  refine zg7 HKO.out ?_
  rintro e y1 ⟨hb,k0,k1,kv,c,rfl,hc⟩
  have HY1:=z5 hb
  clear l0 l1 l2 t0 t1 t2 t3 t4 t5 t6 hz b0 b1 hb
  rcases hc with ⟨rfl,rfl,hno⟩ | ⟨rfl,D,hk,htk⟩
  ·have HNO:=z5 hno
   clear hno
   gi_wp2_with fail
   refine⟨HY1.out.trans ((below_alloc1 _ _).mono HY1.out.size),fun h=>?_⟩
   by_cases hr5:r<5*(L.body.length:Int)
   ·exact hr5
   ·exact absurd ⟨show 5*(L.body.length:Int)<=r by omega,HOV.out h⟩ HNO.out
  ·obtain⟨kl,hkl,ka,kc,rfl,-⟩:=id hk
   simp only [Value.agg.injEq,Array.mk.injEq,List.cons.injEq,and_true] at hkl
   obtain⟨-,-,rfl⟩:=hkl
   have HK:=z5 hk
   have HTK:=z5 htk
   generalize hkn:(zy L ⟨p0,p1,p2,q0,q1,q2,r⟩ P T D).ops.length=kn at *
   clear hk htk hkn
   have HL2:Hid (∀y:World,Below y1.heap.size y1 y->(y.cell? ⟨w.heap.size,0,none⟩=some (.slice a0 L.logs.length cap0)/\y.cell? ⟨w.heap.size,1,none⟩=some (.slice a1 L.body.length cap1)/\y.cell? ⟨w.heap.size,2,none⟩=some (.slice a2 L.outs.length cap2))):=fun y hy=>(HCL.out y (HXW.out.trans ((HY1.out.trans (hy.mono HY1.out.size)).mono HXW.out.size))).1
   gi_wp2_with fail
   obtain⟨y2,hy2⟩:∃y2,y1.alloc (.cells #[iV k0,iV k1,.slice ka kn kc] 31)=y2:=⟨_,rfl⟩
   have HY2:Hid (Below y1.heap.size y1 y2):=by show Below _ _ _;rw [<-hy2];exact below_alloc1 _ _
   obtain⟨l0,l1,l2⟩:=HL2.out y2 HY2.out
   have hkb:y2.heap[y1.heap.size]?=some (.cells #[iV k0,iV k1,.slice ka kn kc] 31 (0,0)):=by rw [<-hy2];exact zn _ _ _
   have c0:y2.cell? ⟨y1.heap.size,0,none⟩=some (iV k0):=by rw [cell_of_block hkb];rfl
   have c1:y2.cell? ⟨y1.heap.size,1,none⟩=some (iV k1):=by rw [cell_of_block hkb];rfl
   have c2:y2.cell? ⟨y1.heap.size,2,none⟩=some (.slice ka kn kc):=by rw [cell_of_block hkb];rfl
   have h16:=(zj HM.out).2.2.1
   have HIO:Hid (Calls Tryz.prog 56 #[iV (L.body.length:Int)] y2.drew fun e w'=>e=.returned (.slice (some ⟨y2.heap.size,0,none⟩) L.body.length L.body.length)/\Below y2.heap.size y2.drew w'/\yf w' (.slice (some ⟨y2.heap.size,0,none⟩) L.body.length L.body.length) (yp L.body.length)):=zd5 L.body.length y2.drew h16
   have HKB:=z5 hkb
   have hyz:w.heap.size+5<=y1.heap.size:=by have:=HY1.out.size;have:=HXW.out.size;have:=HS5.out;omega
   have HSS:Hid (∀w':World,Below y2.heap.size y2 w'->((w'.cell? ⟨w.heap.size,0,none⟩=some (.slice a0 L.logs.length cap0)/\w'.cell? ⟨w.heap.size,1,none⟩=some (.slice a1 L.body.length cap1)/\w'.cell? ⟨w.heap.size,2,none⟩=some (.slice a2 L.outs.length cap2))/\w'.cell? ⟨y1.heap.size,0,none⟩=some (iV k0)/\w'.cell? ⟨y1.heap.size,1,none⟩=some (iV k1)/\w'.cell? ⟨y1.heap.size,2,none⟩=some (.slice ka kn kc))):=fun w' h=>by
    have hb:=(h.block _ (Array.getElem?_eq_some_iff.1 HKB.out).1).trans HKB.out
    refine⟨HL2.out w' (HY2.out.trans (h.mono HY2.out.size)),?_,?_,?_⟩ <;> (rw [cell_of_block hb];rfl)
   have HSC:Hid (∀(v:World) (b i:Nat) (u:Value),((v.cell? ⟨w.heap.size,0,none⟩=some (.slice a0 L.logs.length cap0)/\v.cell? ⟨w.heap.size,1,none⟩=some (.slice a1 L.body.length cap1)/\v.cell? ⟨w.heap.size,2,none⟩=some (.slice a2 L.outs.length cap2))/\v.cell? ⟨y1.heap.size,0,none⟩=some (iV k0)/\v.cell? ⟨y1.heap.size,1,none⟩=some (iV k1)/\v.cell? ⟨y1.heap.size,2,none⟩=some (.slice ka kn kc))->b≠w.heap.size->b≠y1.heap.size->(((v.setCell ⟨b,i,none⟩ u).cell? ⟨w.heap.size,0,none⟩=some (.slice a0 L.logs.length cap0)/\(v.setCell ⟨b,i,none⟩ u).cell? ⟨w.heap.size,1,none⟩=some (.slice a1 L.body.length cap1)/\(v.setCell ⟨b,i,none⟩ u).cell? ⟨w.heap.size,2,none⟩=some (.slice a2 L.outs.length cap2))/\(v.setCell ⟨b,i,none⟩ u).cell? ⟨y1.heap.size,0,none⟩=some (iV k0)/\(v.setCell ⟨b,i,none⟩ u).cell? ⟨y1.heap.size,1,none⟩=some (iV k1)/\(v.setCell ⟨b,i,none⟩ u).cell? ⟨y1.heap.size,2,none⟩=some (.slice ka kn kc))):=fun v b i u h h1 h2=>by
    obtain⟨⟨e0,e1,e2⟩,e3,e4,e5⟩:=h
    refine⟨⟨?_,?_,?_⟩,?_,?_,?_⟩
    all_goals (rw [xB (Below.heap_setCell _ _ _ _ (Ne.symm (by assumption)))];assumption)
   have HBX2:Hid (∀y,Below y2.heap.size y2 y->_):=fun y hy=>(HBX.out y (HXW.out.trans ((HY1.out.trans ((HY2.out.trans (hy.mono HY2.out.size)).mono HY1.out.size)).mono HXW.out.size))).2.2
   rw [hy2]
   clear hy2 hkb
   refine zc8 99 (fun w'=>((w'.cell? ⟨w.heap.size,0,none⟩=some (.slice a0 L.logs.length cap0)/\w'.cell? ⟨w.heap.size,1,none⟩=some (.slice a1 L.body.length cap1)/\w'.cell? ⟨w.heap.size,2,none⟩=some (.slice a2 L.outs.length cap2))/\w'.cell? ⟨y1.heap.size,0,none⟩=some (iV k0)/\w'.cell? ⟨y1.heap.size,1,none⟩=some (iV k1)/\w'.cell? ⟨y1.heap.size,2,none⟩=some (.slice ka kn kc))) (by kernel_rfl) (by kernel_rfl) (HSS.out _ (below_draws _ _ 1)) (fun hHeld=>?_)
   refine utk (i:=0) rfl hHeld ?_
   refine utk (i:=1) rfl hHeld ?_
   refine utk (i:=2) rfl hHeld ?_
   refine utk (i:=3) rfl hHeld ?_
   refine z9 (i:=4) rfl (by kernel_rfl) (fun K hK=>?_)
   go_simp
   refine HIO.out.mono ?_
   rintro e y3 ⟨rfl,hb3,hi3⟩
   have HB3:Hid (Below y2.heap.size y2 y3):=(below_draws y2.heap.size y2 1).trans hb3
   have HI3:=z5 hi3
   have hHeld:=HSS.out _ HB3.out
   clear hb3 hi3 c0 c1 c2 l0 l1 l2
   refine nxt hK.out (.inr hHeld) ?_
   clear hK K
   obtain⟨r0,r1,r2⟩:=HBX2.out y3 HB3.out
   have n0:y3.cell? ⟨w.heap.size+1+1,0,none⟩=some (iV 0):=by rw [cell_of_block r0];rfl
   have n1:y3.cell? ⟨w.heap.size+1+1,1,none⟩=some (iV 0):=by rw [cell_of_block r0];rfl
   have n2:y3.cell? ⟨w.heap.size+1+1,2,none⟩=some (.slice none 0 0):=by rw [cell_of_block r0];rfl
   have f0:y3.frozen? ⟨w.heap.size+1+1,0,none⟩=false:=by simp [World.frozen?,r0]
   have f1:y3.frozen? ⟨w.heap.size+1+1,1,none⟩=false:=by simp [World.frozen?,r0]
   have f2:y3.frozen? ⟨w.heap.size+1+1,2,none⟩=false:=by simp [World.frozen?,r0]
   have hne1:w.heap.size+1+1≠w.heap.size/\w.heap.size+1+1≠y1.heap.size:=by omega
   have hne2:w.heap.size+1+1+1≠w.heap.size/\w.heap.size+1+1+1≠y1.heap.size:=by omega
   have hne3:w.heap.size+1+1+1+1≠w.heap.size/\w.heap.size+1+1+1+1≠y1.heap.size:=by omega
   have HNE:=z5 (⟨hne1,hne2,hne3⟩:_/\_/\_)
   have hyg:y1.heap.size<y2.heap.size:=(Array.getElem?_eq_some_iff.1 HKB.out).1
   clear hne1 hne2 hne3
   refine z9 (i:=5) rfl (by kernel_rfl) (fun K hK=>?_)
   go_simp
   obtain⟨y4,hy4⟩:∃y4,((y3.setCell ⟨w.heap.size+1+1,0,none⟩ (iV k0)).setCell ⟨w.heap.size+1+1,1,none⟩ (iV k1)).setCell ⟨w.heap.size+1+1,2,none⟩ (.slice ka kn kc)=y4:=⟨_,rfl⟩
   rw [hy4]
   have HG0:Hid (y4.heap[w.heap.size+1+1]?=some (.cells #[iV k0,iV k1,.slice ka kn kc] 31 (0,0))):=by show _=_;rw [<-hy4];simp [World.setCell,Array.getElem?_modify,r0]
   have HO4:Hid (∀k,k≠w.heap.size+1+1->y4.heap[k]?=y3.heap[k]?):=fun k hk=>by rw [<-hy4,Below.heap_setCell _ _ _ _ hk,Below.heap_setCell _ _ _ _ hk,Below.heap_setCell _ _ _ _ hk]
   have HZ4:Hid (y4.heap.size=y3.heap.size):=by show _=_;rw [<-hy4];simp [World.setCell]
   have HK4:Hid (xh y4 (.agg #[iV k0,iV k1,.slice ka kn kc]) (zy L ⟨p0,p1,p2,q0,q1,q2,r⟩ P T D)):=by
    show xh _ _ _
    have h0:=HK.out.below (HY2.out.trans (HB3.out.mono HY2.out.size))
    rw [<-hy4]
    exact ((h0.set (i:=0) r0 (by show 3<10;omega) (iV k0)).set (i:=1) (V5 r0) (by simp) _).set (i:=2) (V5 (V5 r0)) (by simp) _
   have HI4:Hid (yf y4 (.slice (some ⟨y2.heap.size,0,none⟩) L.body.length L.body.length) (yp L.body.length)):=by
    show yf _ _ _
    rw [<-hy4]
    exact ((HI3.out.set (by omega) _ _).set (by omega) _ _).set (by omega) _ _
   have HB4:Hid (Below w.heap.size y3 y4):=by
    show Below _ _ _
    rw [<-hy4]
    exact (((Below.refl _ _).setCell (by show w.heap.size<=w.heap.size+1+1;omega) _).setCell (by show w.heap.size<=w.heap.size+1+1;omega) _).setCell (by show w.heap.size<=w.heap.size+1+1;omega) _
   have hH4:=HSC.out _ _ 2 (.slice ka kn kc) (HSC.out _ _ 1 (iV k1) (HSC.out _ _ 0 (iV k0) hHeld HNE.out.1.1 HNE.out.1.2) HNE.out.1.1 HNE.out.1.2) HNE.out.1.1 HNE.out.1.2
   rw [hy4] at hH4
   have g1:=(HO4.out _ (show w.heap.size+1+1+1≠w.heap.size+1+1 by omega)).trans r1
   have HG2:=z5 ((HO4.out _ (show w.heap.size+1+1+1+1≠w.heap.size+1+1 by omega)).trans r2)
   clear hy4 hHeld n0 n1 n2 f0 f1 f2 r0 r1 r2
   have hHeld:=hH4
   clear hH4
   refine nxt hK.out (.inr hHeld) ?_
   clear hK K
   have n0:y4.cell? ⟨w.heap.size+1+1+1,0,none⟩=some (.slice none 0 0):=by rw [cell_of_block g1];rfl
   have f0:y4.frozen? ⟨w.heap.size+1+1+1,0,none⟩=false:=by simp [World.frozen?,g1]
   refine z9 (i:=6) rfl (by kernel_rfl) (fun K hK=>?_)
   go_simp
   obtain⟨y5,hy5⟩:∃y5,y4.setCell ⟨w.heap.size+1+1+1,0,none⟩ (.slice (some ⟨y2.heap.size,0,none⟩) L.body.length L.body.length)=y5:=⟨_,rfl⟩
   rw [hy5]
   have HG1:Hid (y5.heap[w.heap.size+1+1+1]?=some (.cells #[.slice (some ⟨y2.heap.size,0,none⟩) L.body.length L.body.length] 22 (0,0))):=by show _=_;rw [<-hy5];simp [World.setCell,Array.getElem?_modify,g1]
   have HO5:Hid (∀k,k≠w.heap.size+1+1+1->y5.heap[k]?=y4.heap[k]?):=fun k hk=>by rw [<-hy5,Below.heap_setCell _ _ _ _ hk]
   have HZ5:Hid (y5.heap.size=y4.heap.size):=by show _=_;rw [<-hy5];simp [World.setCell]
   have HK5:Hid (xh y5 (.agg #[iV k0,iV k1,.slice ka kn kc]) (zy L ⟨p0,p1,p2,q0,q1,q2,r⟩ P T D)):=by show xh _ _ _;rw [<-hy5];exact HK4.out.set g1 (by show 1<10;omega) _
   have HI5:Hid (yf y5 (.slice (some ⟨y2.heap.size,0,none⟩) L.body.length L.body.length) (yp L.body.length)):=by show yf _ _ _;rw [<-hy5];exact HI4.out.set (by omega) _ _
   have HB5':Hid (Below w.heap.size y3 y5):=by show Below _ _ _;rw [<-hy5];exact HB4.out.setCell (by show w.heap.size<=w.heap.size+1+1+1;omega) _
   have hH5:=HSC.out _ _ 0 (.slice (some ⟨y2.heap.size,0,none⟩) L.body.length L.body.length) hHeld HNE.out.2.1.1 HNE.out.2.1.2
   rw [hy5] at hH5
   have g2:=(HO5.out _ (show w.heap.size+1+1+1+1≠w.heap.size+1+1+1 by omega)).trans HG2.out
   clear hy5 hHeld n0 f0 g1
   have hHeld:=hH5
   clear hH5
   refine nxt hK.out (.inr hHeld) ?_
   clear hK K
   have n0:y5.cell? ⟨w.heap.size+1+1+1+1,0,none⟩=some (iV 0):=by rw [cell_of_block g2];rfl
   have f0:y5.frozen? ⟨w.heap.size+1+1+1+1,0,none⟩=false:=by simp [World.frozen?,g2]
   refine z9 (i:=7) rfl (by kernel_rfl) (fun K hK=>?_)
   go_simp
   have hH6:=HSC.out _ _ 0 (iV 0) hHeld HNE.out.2.2.1 HNE.out.2.2.2
   have HG6:Hid ((y5.setCell ⟨w.heap.size+1+1+1+1,0,none⟩ (iV 0)).heap[w.heap.size+1+1+1+1]?=some (.cells #[iV 0] 50 (0,0))):=by show _=_;simp [World.setCell,Array.getElem?_modify,g2]
   have HK6:=z5 (HK5.out.set (i:=0) g2 (by show 1<10;omega) (iV 0))
   clear n0 f0 g2 hHeld
   refine nxt hK.out (.inr hH6) ?_
   clear hK K hH6
   refine zf (by kernel_rfl) ?_ _
   refine Xy.normal ?_
   gi_wp2_with fail
   have hs3:=HS3.out
   have hs2:=HX2.out.size
   have hs5:=HS5.out
   have hWy:Below W.heap.size W y3:=HY1.out.trans ((HY2.out.trans (HB3.out.mono HY2.out.size)).mono HY1.out.size)
   have hwW:Below w.heap.size w W:=HB5.out.trans (HXW.out.mono HB5.out.size)
   have hz5:=HZ5.out
   have hz4:=HZ4.out
   have hzW:=hWy.size
   have hzx:=HBW.out.size
   refine⟨by simp [World.setCell];omega,fun q hq1 hq2=>?_,(hwW.trans ((hWy.mono hwW.size).trans HB5'.out)).setCell (by show w.heap.size<=w.heap.size+1+1+1+1;omega) _,k0,k1,.slice ka kn kc,.slice (some ⟨y2.heap.size,0,none⟩) L.body.length L.body.length,(zy L ⟨p0,p1,p2,q0,q1,q2,r⟩ P T D),?_,?_,HG6.out,HK6.out,HI5.out.set (by omega) _ _,HTK.out,zj6 HLG.out HLE.out⟩
   ·rw [Below.heap_setCell _ _ _ _ (by show q≠w.heap.size+1+1+1+1;omega),HO5.out q (by omega),HO4.out q (by omega),hWy.block q hq2]
   ·rw [Below.heap_setCell _ _ _ _ (by show w.heap.size+1+1≠w.heap.size+1+1+1+1;omega),HO5.out _ (by omega)];exact HG0.out
   ·rw [Below.heap_setCell _ _ _ _ (by show w.heap.size+1+1+1≠w.heap.size+1+1+1+1;omega)];exact HG1.out
 case done =>
  intro D W hD hf hb hK
  have HF:=z5 hf
  have HXW:Hid (Below W5.heap.size W5 W):=HX3.out.trans (hb.mono HX3.out.size)
  have hwW:Below w.heap.size w W:=HB5.out.trans (HXW.out.mono HB5.out.size)
  obtain⟨-,-,r0,r1,r2⟩:=HBX.out W HXW.out
  obtain⟨n0,n1,n2,n3,n4⟩:=zxm r0 r1 r2
  obtain⟨f0,f1,f2,f3,f4⟩:=zxn r0 r1 r2
  have HRS:=z5 (zxl (c:=iV 1) r0 r1 r2 hwW (Nat.le_refl _))
  have HK:=z5 hK
  have HDD:=z5 hD
  clear hb hwW r0 r1 r2 hK hf hD
  gi_wp2_with fail
  obtain⟨V,hV,hbV,hkV,v0,v1,v2⟩:=HRS.out
  rw [hV]
  have hd:=HDD.out;have hs3:=HS3.out;have hs2:=HX2.out.size;have hs5:=HS5.out
  have hKV:=(hkV D (by omega)).trans HK.out
  obtain⟨g0,g1,g2,g3,g4⟩:=zxk (o:=.deferred none) v0 v1 v2 (show w.heap.size+5<=D by omega)
  refine⟨by simp,.inl ⟨_,_,rfl,run_takeDeferred hKV,?_⟩⟩
  refine⟨.tuple #[.agg #[iV 0,iV 0,.slice none 0 0],.slice none 0 0,iV 1],by simp [results,Tryz.results19,go_sem,g0,g1,g2,g3,g4],hbV.trans (V4 _ hKV (by omega)),0,0,_,none,0,0,1,rfl,fun h=>?_,fun _=>.inl ⟨rfl,HF.out,rfl,zal _⟩⟩
  rw [HM.out,HT.out] at h
  cases h
 case stop =>
  intro D W hD hr hK
  obtain⟨hb,k0,k1,kv,ov,K,h0,h1,h2,hk,hi,htk,hu1,hu2,hu3,hu4⟩:=hr
  gi_wp2_with fail
  have hs3:=HS3.out;have hs2:=HX2.out.size;have hs5:=HS5.out
  obtain⟨g0,g1,g2,g3,g4⟩:=zxk (o:=.deferred none) h0 h1 h2 (show w.heap.size+5<=D by omega)
  have hc:=Ck.put (.deferred none) hK rfl
  obtain⟨oa,oc,rfl,hi2⟩:=id hi
  refine⟨by simp,.inl ⟨_,_,rfl,run_takeDeferred hK,?_⟩⟩
  refine⟨.tuple #[.agg #[iV k0,iV k1,kv],.slice oa (yp L.body.length).length oc,iV 0],by simp [results,Tryz.results19,go_sem,g0,g1,g2,g3,g4],hb.trans (V4 _ hK (by omega)),k0,k1,kv,oa,_,oc,0,rfl,fun h=>?_,fun _=>.inr ⟨rfl,K,_,hk.ck hc,hi.ck hc,htk,hu1,hu2,hu3,hu4⟩⟩
  rw [HM.out,HT.out] at h
  cases h
set_option maxHeartbeats 4000000 in
theorem zl8 (p0 p1 p2 q0 q1 q2 r:Int) (L:Lp) (a0 a1 a2:Option Addr) (cap0 cap1 cap2:Nat) (w:World) (hmm:(zx L && zp ⟨p0,p1,p2,q0,q1,q2,r⟩)=false)
  (hL:zk w (.agg #[.slice a0 L.logs.length cap0,.slice a1 L.body.length cap1,.slice a2 L.outs.length cap2]) L) :
  Calls Tryz.prog 19 #[.agg #[.slice a0 L.logs.length cap0,.slice a1 L.body.length cap1,.slice a2 L.outs.length cap2],.agg #[iV p0,iV p1,iV p2,iV q0,iV q1,iV q2,iV r]] w fun e w'=>zex L ⟨p0,p1,p2,q0,q1,q2,r⟩ w e w':=by
 obtain⟨W5,hW5⟩:∃W5,(((((w.alloc (.cells #[.slice a0 L.logs.length cap0,.slice a1 L.body.length cap1,.slice a2 L.outs.length cap2] 25)).alloc (.cells #[iV p0,iV p1,iV p2,iV q0,iV q1,iV q2,iV r] 28)).alloc (.cells #[iV 0,iV 0,.slice none 0 0] 31)).alloc (.cells #[.slice none 0 0] 22)).alloc (.cells #[iV 0] 50))=W5:=⟨_,rfl⟩
 have HS5:Hid (W5.heap.size=w.heap.size+5):=by show _=_;rw [<-hW5];simp
 have HB5:Hid (Below w.heap.size w W5):=by show Below _ _ _;rw [<-hW5];exact (((below_alloc3 _ _ _ _).alloc (by simp;omega) _).alloc (by simp;omega) _)
 have HBX:Hid (∀y,Below W5.heap.size W5 y->_):=fun y hy=>U4 (by rw [hW5,<-HS5.out];exact hy)
 have HL:=z5 hL
 have HMM:=z5 hmm
 have HFI:Hid (∀V:World,Below w.heap.size w V->zex L ⟨p0,p1,p2,q0,q1,q2,r⟩ w (.returned (.tuple #[.agg #[iV 0,iV 0,.slice none 0 0],.slice none 0 0,iV 2])) V):=fun V hV=>⟨hV,0,0,_,none,0,0,2,rfl,fun _=>⟨rfl,rfl,zal _⟩,fun h=>absurd (HMM.out.symm.trans h) (by simp)⟩
 have HCL:Hid (∀y,Below W5.heap.size W5 y->((y.cell? ⟨w.heap.size,0,none⟩=some (.slice a0 L.logs.length cap0)/\y.cell? ⟨w.heap.size,1,none⟩=some (.slice a1 L.body.length cap1)/\y.cell? ⟨w.heap.size,2,none⟩=some (.slice a2 L.outs.length cap2))/\(y.cell? ⟨w.heap.size+1,0,none⟩=some (iV p0)/\y.cell? ⟨w.heap.size+1,1,none⟩=some (iV p1)/\y.cell? ⟨w.heap.size+1,2,none⟩=some (iV p2)/\y.cell? ⟨w.heap.size+1,3,none⟩=some (iV q0)/\y.cell? ⟨w.heap.size+1,4,none⟩=some (iV q1)/\y.cell? ⟨w.heap.size+1,5,none⟩=some (iV q2)/\y.cell? ⟨w.heap.size+1,6,none⟩=some (iV r)))/\w.heap.size+5<=y.heap.size):=fun y hy=>by
  obtain⟨b0,b1,-⟩:=HBX.out y hy
  have:=hy.size
  have:=HS5.out
  refine⟨⟨⟨?_,?_,?_⟩,⟨?_,?_,?_,?_,?_,?_,?_⟩⟩,by omega⟩
  all_goals first | (rw [cell_of_block b0];rfl) | (rw [cell_of_block b1];rfl)
 have HNF:=z5 (fun y hy=>zxm (HBX.out y hy).2.2.1 (HBX.out y hy).2.2.2.1 (HBX.out y hy).2.2.2.2)
 have HFF:=z5 (fun y hy=>zxn (HBX.out y hy).2.2.1 (HBX.out y hy).2.2.2.1 (HBX.out y hy).2.2.2.2)
 have HEN:=z5 (fun y hy=>zxl (c:=iV 2) (HBX.out y hy).2.2.1 (HBX.out y hy).2.2.2.1 (HBX.out y hy).2.2.2.2 (HB5.out.trans (hy.mono HB5.out.size)) (Nat.le_refl _))
 have HMY:=z5 (XN _ L W5 (HL.out.below HB5.out))
 have HTM:=z5 (fun W=>zds ⟨p0,p1,p2,q0,q1,q2,r⟩ W)
 obtain⟨⟨⟨l0,l1,l2⟩,⟨t0,t1,t2,t3,t4,t5,t6⟩⟩,hz⟩:=HCL.out W5 (Below.refl _ _)
 clear hL hmm
 go_enter Tryz.func19,Tryz.ntmps19
 go_wp2_with fail
 refine HMY.out.mono ?_
 rintro e x1 ⟨rfl,hb1⟩
 have HX1:=z5 hb1
 clear hW5 l0 l1 l2 t0 t1 t2 t3 t4 t5 t6 hz hb1
 obtain⟨⟨⟨l0,l1,l2⟩,⟨t0,t1,t2,t3,t4,t5,t6⟩⟩,hz⟩:=HCL.out x1 HX1.out
 obtain⟨n0,n1,n2,n3,n4⟩:=HNF.out x1 HX1.out
 obtain⟨f0,f1,f2,f3,f4⟩:=HFF.out x1 HX1.out
 cases hm:zx L with
 | false =>
   have HE1:=z5 (HEN.out x1 HX1.out)
   go_wp2_with fail
   obtain⟨V,hV,hbV,-,v0,v1,v2⟩:=HE1.out
   obtain⟨g0,g1,g2,g3,g4⟩:=zxm v0 v1 v2
   rw [hV]
   exact bodyPost_ret (v:=.tuple #[.agg #[iV 0,iV 0,.slice none 0 0],.slice none 0 0,iV 2]) (by simp [results,Tryz.results19,go_sem,g0,g1,g2,g3,g4]) rfl (HFI.out _ hbV)
 | true =>
   have hmt:zp ⟨p0,p1,p2,q0,q1,q2,r⟩=false:=by have:=HMM.out;rw [hm] at this;simpa using this
   have HTM2:=z5 (hmt ▸ HTM.out x1)
   clear hm hmt
   go_wp2_with fail
   refine HTM2.out.mono ?_
   rintro e x2 ⟨rfl,hb2⟩
   have HX2:Hid (Below W5.heap.size W5 x2):=HX1.out.trans (hb2.mono HX1.out.size)
   clear l0 l1 l2 t0 t1 t2 t3 t4 t5 t6 hz hb2 n0 n1 n2 n3 n4 f0 f1 f2 f3 f4
   obtain⟨-,hz⟩:=HCL.out x2 HX2.out
   obtain⟨n0,n1,n2,n3,n4⟩:=HNF.out x2 HX2.out
   obtain⟨f0,f1,f2,f3,f4⟩:=HFF.out x2 HX2.out
   have HE1:=z5 (HEN.out x2 HX2.out)
   go_wp2_with fail
   obtain⟨V,hV,hbV,-,v0,v1,v2⟩:=HE1.out
   obtain⟨g0,g1,g2,g3,g4⟩:=zxm v0 v1 v2
   rw [hV]
   exact bodyPost_ret (v:=.tuple #[.agg #[iV 0,iV 0,.slice none 0 0],.slice none 0 0,iV 2]) (by simp [results,Tryz.results19,go_sem,g0,g1,g2,g3,g4]) rfl (HFI.out _ hbV)
theorem zl9 (hM:zbd) (hO:zoc) (hR:zcp) (hE:zbb):VZ:=fun v t L w hL=>by
 have hL':=hL
 obtain⟨v0,v1,v2,rfl,⟨a0,cap0,rfl,-⟩,⟨a1,cap1,rfl,-⟩,⟨a2,cap2,rfl,-⟩⟩:=hL'
 obtain⟨p0,p1,p2,q0,q1,q2,r⟩:=t
 by_cases h:(zx L && zp ⟨p0,p1,p2,q0,q1,q2,r⟩)=true
 ·have h2:zx L=true/\zp ⟨p0,p1,p2,q0,q1,q2,r⟩=true:=by simpa using h
  exact zib hM hO hR hE p0 p1 p2 q0 q1 q2 r L a0 a1 a2 cap0 cap1 cap2 w h2.1 h2.2 hL
 ·exact zl8 p0 p1 p2 q0 q1 q2 r L a0 a1 a2 cap0 cap1 cap2 w (by simpa using h) hL
end Go.Proofs.YtjoapiafpahihabGreat
