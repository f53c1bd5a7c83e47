import Derived.Test.YtjoapiafpahihabGreatRef5B
import Derived.Test.YtjoapiafpahihabGreatBuildMakes
namespace Go.Proofs.YtjoapiafpahihabGreat
open Go.RowKit Go.Joins
set_option linter.unusedVariables false
set_option linter.unusedSimpArgs false
set_option maxRecDepth 8192
variable {L:Lp} {B M:List (List Int)}
theorem zqp:∀g,g<=5->xQ (2 ^ g)=g:=by
 intro g hg
 obtain rfl | rfl | rfl | rfl | rfl | rfl:g=0\/g=1\/g=2\/g=3\/g=4\/g=5:=by omega
 all_goals rfl
theorem zb3 (h:zY L=true) {i:Nat} (hi:i<L.l.length):0<=nth L.l i/\nth L.l i<=5:=by
 obtain⟨-,-,-,-,h5,-⟩:=zw h
 exact zx.1 (zo h5 i hi)
theorem zqb (h:xG L B M=true):Zx M=true/\zN M=L.l:=by
 obtain⟨f1,f2,f3,f4,f5⟩:=Y4 h
 have hl:∀i,i<M.length->xQ (zv M i).length=(nth L.l i).toNat:=fun i hi=>by
  have:=zb3 f1 (i:=i) (by omega)
  rw [f5 i hi]
  exact zqp _ (by omega)
 refine⟨zL fun i hi=>?_,zog (by rw [xZ];exact f3) fun j hj=>?_⟩
 ·have:=zb3 f1 (i:=i) (by omega)
  unfold zd4
  rw [hl i hi]
  exact decide_eq_true (by omega)
 ·rw [xZ] at hj
  have:=zb3 f1 (i:=j) (by omega)
  rw [Y6 M j hj,hl j hj]
  omega
theorem zsg (h:xG L B M=true):Z9 L B=true:=by
 obtain⟨f1,f2,f3,f4,f5⟩:=Y4 h
 unfold Z9
 rw [decide_eq_true f2,Bool.true_and]
 exact zL fun i hi=>decide_eq_true (f4 i hi)
theorem Yq {w wr:World} {x0 x1 x2 s0 s1:Value} {p0 p1 p2 q0 q1 q2 r:Int} {ta tb tc:TypeId} (h:Below (w.heap.size+1+1+1) (((w.alloc (.cells #[x0,x1,x2] ta)).alloc (.cells #[iV p0,iV p1,iV p2,iV q0,iV q1,iV q2,iV r] tb)).alloc (.cells #[s0,s1] tc)) wr) :
  (wr.cell? (ad w.heap.size 0)=some x0/\wr.cell? (ad w.heap.size 1)=some x1/\wr.cell? (ad w.heap.size 2)=some x2) /\
  (wr.cell? (ad (w.heap.size+1) 0)=sI p0/\wr.cell? (ad (w.heap.size+1) 1)=sI p1/\wr.cell? (ad (w.heap.size+1) 2)=sI p2/\wr.cell? (ad (w.heap.size+1) 3)=sI q0/\wr.cell? (ad (w.heap.size+1) 4)=sI q1/\wr.cell? (ad (w.heap.size+1) 5)=sI q2/\wr.cell? (ad (w.heap.size+1) 6)=sI r) /\
  (wr.cell? (ad (w.heap.size+1+1) 0)=some s0/\wr.cell? (ad (w.heap.size+1+1) 1)=some s1)/\w.heap.size+1+1<wr.heap.size/\Bw w wr:=by
 have hs:(((w.alloc (.cells #[x0,x1,x2] ta)).alloc (.cells #[iV p0,iV p1,iV p2,iV q0,iV q1,iV q2,iV r] tb)).alloc (.cells #[s0,s1] tc)).heap.size=w.heap.size+1+1+1:=by simp
 have hz:=h.size
 have h':Below (((w.alloc (.cells #[x0,x1,x2] ta)).alloc (.cells #[iV p0,iV p1,iV p2,iV q0,iV q1,iV q2,iV r] tb)).alloc (.cells #[s0,s1] tc)).heap.size (((w.alloc (.cells #[x0,x1,x2] ta)).alloc (.cells #[iV p0,iV p1,iV p2,iV q0,iV q1,iV q2,iV r] tb)).alloc (.cells #[s0,s1] tc)) wr:=by rw [hs];exact h
 refine⟨⟨?_,?_,?_⟩,⟨?_,?_,?_,?_,?_,?_,?_⟩,⟨?_,?_⟩,by omega,(below_alloc3 w _ _ _).trans (h.mono (by omega))⟩
 all_goals rw [zf h' _ _ (by omega)]
 all_goals go_simp
theorem zwf {t:Tg} {K:Kn} {O:List Int} (h:zQ L t K O=true) (hLI:LoopIn L):∀x∈K.ops,I64 x.nn:=by
 intro x hx
 have ht:=zdy h
 obtain⟨k,hk,e⟩:=List.mem_iff_getElem.1 hx
 obtain⟨s,hs,hsk⟩:=ht.hit (k:=k) hk
 obtain⟨hl,-⟩:=Xs h
 obtain⟨-,-,-,-,-,h6⟩:=yP hl
 have h7:=(zdq (h6 s hs).2).2.2.2.2
 have e2:opJ K O s=x:=by
  unfold opJ
  rw [hsk]
  unfold zp
  rw [List.getD,List.getElem?_eq_getElem hk,e];rfl
 rw [e2] at h7
 rw [h7]
 exact hLI s
end Go.Proofs.YtjoapiafpahihabGreat
