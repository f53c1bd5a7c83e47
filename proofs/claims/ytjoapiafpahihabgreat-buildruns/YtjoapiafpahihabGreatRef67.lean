import Derived.Test.YtjoapiafpahihabGreatRef6Is
import Derived.Test.YtjoapiafpahihabGreatRounds
import Derived.Test.YtjoapiafpahihabGreatRef2L
namespace Go.Proofs.YtjoapiafpahihabGreat
open Go.Proofs.Tryz
open Go.RowKit Go.Joins
set_option linter.unusedVariables false
set_option linter.unusedSimpArgs false
set_option maxRecDepth 8192
variable {p:Int} {l:List Ed} {a:Nat->Int} {n q:Nat} {L:Lp} {t:Tg}
theorem Tryz.i100:(prog.info? 100).map (fun i=>(i.zero,i.size,i.bytes))=some (some (.agg #[iV 0,iV 0,iV 0,iV 0]),4,32):=by kernel_rfl
theorem Zb {w wr:World} {v0 v1 v2:Value} {p0 p1 p2 q0 q1 q2 r:Int} {ta tb:TypeId} (h:Below (w.heap.size+1+1) ((w.alloc (.cells #[v0,v1,v2] ta)).alloc (.cells #[iV p0,iV p1,iV p2,iV q0,iV q1,iV q2,iV r] tb)) wr) :
  (wr.cell? (ad w.heap.size 0)=some v0/\wr.cell? (ad w.heap.size 1)=some v1/\wr.cell? (ad w.heap.size 2)=some v2) /\
  (wr.cell? (ad (w.heap.size+1) 0)=sI p0/\wr.cell? (ad (w.heap.size+1) 1)=sI p1/\wr.cell? (ad (w.heap.size+1) 2)=sI p2/\wr.cell? (ad (w.heap.size+1) 3)=sI q0/\wr.cell? (ad (w.heap.size+1) 4)=sI q1/\wr.cell? (ad (w.heap.size+1) 5)=sI q2/\wr.cell? (ad (w.heap.size+1) 6)=sI r)/\w.heap.size<wr.heap.size/\w.heap.size+1<wr.heap.size/\Bw w wr:=by
 have hs:((w.alloc (.cells #[v0,v1,v2] ta)).alloc (.cells #[iV p0,iV p1,iV p2,iV q0,iV q1,iV q2,iV r] tb)).heap.size=w.heap.size+1+1:=by simp
 have hz:=h.size
 have h':Below ((w.alloc (.cells #[v0,v1,v2] ta)).alloc (.cells #[iV p0,iV p1,iV p2,iV q0,iV q1,iV q2,iV r] tb)).heap.size ((w.alloc (.cells #[v0,v1,v2] ta)).alloc (.cells #[iV p0,iV p1,iV p2,iV q0,iV q1,iV q2,iV r] tb)) wr:=by rw [hs];exact h
 refine⟨⟨?_,?_,?_⟩,⟨?_,?_,?_,?_,?_,?_,?_⟩,by omega,by omega,(below_alloc2 w _ _).trans (h.mono (by omega))⟩
 all_goals rw [zf h' _ _ (by omega)]
 all_goals go_simp
def ZJ (a b:List Ed):List Ed:=a++b
theorem UR (a:List Ed):ZJ a []=a:=List.append_nil a
theorem zib (a b:List Ed):(ZJ a b).length=a.length+b.length:=List.length_append
def Zv:Prop:=∀(v:Value) (t:Tg) (L:Lp) (w:World),zE w v L->(zY L && yj t)=true ->
 Calls prog 86 #[v,.agg t.cells] w fun e w'=>∃a n c,e=.returned (.tuple #[.slice a n c,iV 0])/\Z8 w' (.slice a n c) (zi L t)/\Bw w w'
theorem Tryz.j3:(prog.info? 3).map (fun i=>(i.zero,i.size,i.bytes))=some (some (iV 0),1,8):=by kernel_rfl
def zek (n:Nat) (e:Ed):Prop:=∃fr to bk wt:Nat,e=⟨fr,to,bk,wt⟩/\fr<n/\to<n/\bk<=32/\wt<=6
theorem zrj:∀k,k<=l.length->zC (fun j=>okE p a (zM l j)) k=true->yG p l a k=a:=by
 intro k
 induction k with
 | zero=>exact fun _ _=>rfl
 | succ k ih =>
   intro hk h
   have h1:zC (fun j=>okE p a (zM l j)) k=true:=zL fun j hj=>zo h j (by omega)
   show Xg p (yG p l a k) (zM l k)=a
   rw [ih (by omega) h1]
   have h2:=of_decide_eq_true (zo h k (by omega))
   unfold Xg
   rw [if_neg (by omega)]
theorem zfx {B:Int} (hp:0<=p) (hl:∀e∈l,zek n e) (ha:∀v,a v<=B):∀k,k<=l.length->∀v,yG p l a k v<=B+6*k:=by
 intro k
 induction k with
 | zero=>intro _ v;have:=ha v;show a v<=_;omega
 | succ k ih =>
   intro hk v
   show Xg p (yG p l a k) (zM l k) v<=_
   by_cases h:Xg p (yG p l a k) (zM l k) v=yG p l a k v
   ·rw [h];have:=ih (by omega) v;omega
   ·obtain⟨h1,h2⟩:=zhq h
    rw [h2]
    have h3:=ih (by omega) (zM l k).fr.toNat
    obtain⟨fr,to,bk,wt,he,-,-,h5,h6⟩:=hl _ (Xl (show k<l.length by omega))
    have h7:0<=p*(bk:Int):=Int.mul_nonneg hp (by omega)
    have h8:Xy p (zM l k)<=6:=by rw [he];unfold Xy;show (wt:Int) - p*(bk:Int)<=6;omega
    omega
theorem zmq (hp:0<=p) (hl:∀e∈l,zek n e):∀r v,zt p l r v<=6*((r*l.length:Nat):Int):=by
 intro r
 induction r with
 | zero=>intro v;show (0:Int)<=_;omega
 | succ r ih =>
   intro v
   have:=zfx hp hl ih l.length (Nat.le_refl _) v
   show yG p l (zt p l r) l.length v<=_
   rw [Nat.succ_mul,Int.natCast_add]
   omega
theorem zri (r v:Nat):0<=zt p l r v:=ZR p l v 0 r (Nat.zero_le _)
theorem zvr (r k v:Nat):0<=yG p l (zt p l r) k v:=Int.le_trans (zri r v) (U9 p l _ v 0 k (Nat.zero_le _))
theorem zq3 {p:Nat->Bool} {k:Nat} (h:∀q,q<k->p q=false):exN p k=false:=by
 cases e:exN p k with
 | false=>rfl
 | true =>
   obtain⟨q,h1,h2⟩:=XY.1 e
   rw [h q h1] at h2;cases h2
theorem zk4 (hm:zY L=true) (hq:1<=q) (h:xo L.b.length (zi L t) q=true) (hno:∀q':Nat,1<=q'->q'<q->xo L.b.length (zi L t) q'=false):ZA L t=q:=by
 obtain⟨h1,h2,h3,h4⟩:=zcy 95 1 (VL (t:=t) hm)
 by_cases e:YT (fun p:Nat=>xo L.b.length (zi L t) p) 95 1=q
 ·exact e
 ·exfalso
  by_cases hlt:YT (fun p:Nat=>xo L.b.length (zi L t) p) 95 1<q
  ·have h5:=hno _ h2 hlt
   have h6:xo L.b.length (zi L t) (YT (fun p:Nat=>xo L.b.length (zi L t) p) 95 1:Nat)=true:=h1
   rw [h5] at h6;cases h6
  ·have h5:=h4 q hq (by omega)
   have h6:xo L.b.length (zi L t) (q:Nat)=false:=h5
   rw [h] at h6;cases h6
theorem zs4 (hm:zY L=true) (hno:∀q':Nat,1<=q'->q'<q->xo L.b.length (zi L t) q'=false):q<=96:=by
 obtain⟨h1,h2,h3,h4⟩:=zcy 95 1 (VL (t:=t) hm)
 refine Classical.byContradiction fun hlt=>?_
 have h5:=hno _ h2 (by omega)
 have h6:xo L.b.length (zi L t) (YT (fun p:Nat=>xo L.b.length (zi L t) p) 95 1:Nat)=true:=h1
 rw [h5] at h6;cases h6
def zns:Prop:=∀(v:Value) (t:Tg) (L:Lp) (w:World),zE w v L->(zY L && yj t)=true ->
 Calls prog 144 #[v,.agg t.cells] w (Rt w (.tuple #[iV (X7 L t),iV (ZA L t),iV 0]))
end Go.Proofs.YtjoapiafpahihabGreat
