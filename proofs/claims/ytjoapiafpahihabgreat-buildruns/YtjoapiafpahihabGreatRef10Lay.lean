import Derived.Test.YtjoapiafpahihabGreatSounds
import Derived.Test.YtjoapiafpahihabGreatKernS
import Derived.Test.YtjoapiafpahihabGreatRef8A
namespace Go.Proofs.YtjoapiafpahihabGreat
open Go.RowKit Go.Joins
set_option linter.unusedVariables false
set_option linter.unusedSimpArgs false
set_option maxRecDepth 8192
theorem yy {w wr:World} {x0 x1 x2 y0 y1 y2:Value} {p0 p1 p2 q0 q1 q2 r:Int} {ta tb tc:TypeId} (h:Below (w.heap.size+1+1+1) (((w.alloc (.cells #[x0,x1,x2] ta)).alloc (.cells #[iV p0,iV p1,iV p2,iV q0,iV q1,iV q2,iV r] tb)).alloc (.cells #[y0,y1,y2] tc)) wr) :
  (wr.cell? (ad w.heap.size 0)=some x0/\wr.cell? (ad w.heap.size 1)=some x1/\wr.cell? (ad w.heap.size 2)=some x2) /\
  (wr.cell? (ad (w.heap.size+1) 0)=sI p0/\wr.cell? (ad (w.heap.size+1) 1)=sI p1/\wr.cell? (ad (w.heap.size+1) 2)=sI p2/\wr.cell? (ad (w.heap.size+1) 3)=sI q0/\wr.cell? (ad (w.heap.size+1) 4)=sI q1/\wr.cell? (ad (w.heap.size+1) 5)=sI q2/\wr.cell? (ad (w.heap.size+1) 6)=sI r) /\
  (wr.cell? (ad (w.heap.size+1+1) 0)=some y0/\wr.cell? (ad (w.heap.size+1+1) 1)=some y1/\wr.cell? (ad (w.heap.size+1+1) 2)=some y2)/\w.heap.size+1+1<wr.heap.size/\Bw w wr:=by
 have hs:(((w.alloc (.cells #[x0,x1,x2] ta)).alloc (.cells #[iV p0,iV p1,iV p2,iV q0,iV q1,iV q2,iV r] tb)).alloc (.cells #[y0,y1,y2] tc)).heap.size=w.heap.size+1+1+1:=by simp
 have hz:=h.size
 have h':Below (((w.alloc (.cells #[x0,x1,x2] ta)).alloc (.cells #[iV p0,iV p1,iV p2,iV q0,iV q1,iV q2,iV r] tb)).alloc (.cells #[y0,y1,y2] tc)).heap.size (((w.alloc (.cells #[x0,x1,x2] ta)).alloc (.cells #[iV p0,iV p1,iV p2,iV q0,iV q1,iV q2,iV r] tb)).alloc (.cells #[y0,y1,y2] tc)) wr:=by rw [hs];exact h
 refine⟨⟨?_,?_,?_⟩,⟨?_,?_,?_,?_,?_,?_,?_⟩,⟨?_,?_,?_⟩,by omega,(below_alloc3 w _ _ _).trans (h.mono (by omega))⟩
 all_goals rw [zf h' _ _ (by omega)]
 all_goals go_simp
end Go.Proofs.YtjoapiafpahihabGreat
