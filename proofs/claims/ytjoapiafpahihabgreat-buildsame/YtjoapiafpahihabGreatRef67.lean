import Derived.Test.YtjoapiafpahihabGreatRef6Is
import Derived.Test.YtjoapiafpahihabGreatRounds
import Derived.Test.YtjoapiafpahihabGreatRef2L
import Derived.Test.YtjoapiafpahihabGreatBase
import Derived.Deep.QuietTactic
import Derived.BigQuiet
namespace Go.Proofs.YtjoapiafpahihabGreat
open Go.RowKit Go.Joins
set_option linter.unusedVariables false
theorem Tryz.i100:(Tryz.prog.info? 100).map (fun i=>(i.zero,i.size,i.bytes))=some (some (.agg #[iV 0,iV 0,iV 0,iV 0]),4,32):=by kernel_rfl
theorem zI {w wr:World} {v0 v1 v2:Value} {p0 p1 p2 q0 q1 q2 r:Int} {ta tb:TypeId} (h:Below (w.heap.size+1+1) ((w.alloc (.cells #[v0,v1,v2] ta)).alloc (.cells #[iV p0,iV p1,iV p2,iV q0,iV q1,iV q2,iV r] tb)) wr) :
  (wr.cell? ⟨w.heap.size,0,none⟩=some v0/\wr.cell? ⟨w.heap.size,1,none⟩=some v1/\wr.cell? ⟨w.heap.size,2,none⟩=some v2) /\
  (wr.cell? ⟨w.heap.size+1,0,none⟩=some (iV p0)/\wr.cell? ⟨w.heap.size+1,1,none⟩=some (iV p1)/\wr.cell? ⟨w.heap.size+1,2,none⟩=some (iV p2)/\wr.cell? ⟨w.heap.size+1,3,none⟩=some (iV q0)/\wr.cell? ⟨w.heap.size+1,4,none⟩=some (iV q1)/\wr.cell? ⟨w.heap.size+1,5,none⟩=some (iV q2)/\wr.cell? ⟨w.heap.size+1,6,none⟩=some (iV r))/\w.heap.size<wr.heap.size/\w.heap.size+1<wr.heap.size/\Below w.heap.size w wr:=by
 have hs:((w.alloc (.cells #[v0,v1,v2] ta)).alloc (.cells #[iV p0,iV p1,iV p2,iV q0,iV q1,iV q2,iV r] tb)).heap.size=w.heap.size+1+1:=by simp
 have hz:=h.size
 have h':Below ((w.alloc (.cells #[v0,v1,v2] ta)).alloc (.cells #[iV p0,iV p1,iV p2,iV q0,iV q1,iV q2,iV r] tb)).heap.size ((w.alloc (.cells #[v0,v1,v2] ta)).alloc (.cells #[iV p0,iV p1,iV p2,iV q0,iV q1,iV q2,iV r] tb)) wr:=by rw [hs];exact h
 refine⟨⟨?_,?_,?_⟩,⟨?_,?_,?_,?_,?_,?_,?_⟩,by omega,by omega,(below_alloc2 w _ _).trans (h.mono (by omega))⟩
 all_goals rw [zc h' _ _ (by omega)]
 all_goals go_simp
def zB (a b:List Ed):List Ed:=a++b
theorem xJ (a:List Ed):zB a []=a:=List.append_nil a
theorem Yw (a b:List Ed):(zB a b).length=a.length+b.length:=List.length_append
set_option maxHeartbeats 400000 in
theorem Yk (p0 p1 p2 q0 q1 q2 r:Int) (L:Lp) (a0 a1 a2:Option Addr) (cap0 cap1 cap2:Nat) (w:World) (hL:zk w (.agg #[.slice a0 L.logs.length cap0,.slice a1 L.body.length cap1,.slice a2 L.outs.length cap2]) L) :
  Calls Tryz.prog 20 #[(.agg #[.slice a0 L.logs.length cap0,.slice a1 L.body.length cap1,.slice a2 L.outs.length cap2]),.agg #[iV p0,iV p1,iV p2,iV q0,iV q1,iV q2,iV r]] w fun e w'=>e=.returned (.bool (zx L && zp ⟨p0,p1,p2,q0,q1,q2,r⟩))/\Below w.heap.size w w':=by
 obtain⟨mb,hmb⟩:∃mb,zx L=mb:=⟨_,rfl⟩
 have HM:=z5 (fun W (h:zk W (.agg #[.slice a0 L.logs.length cap0,.slice a1 L.body.length cap1,.slice a2 L.outs.length cap2]) L)=>hmb ▸ XX (.agg #[.slice a0 L.logs.length cap0,.slice a1 L.body.length cap1,.slice a2 L.outs.length cap2]) L W h)
 have HT:=z5 (Yn p0 p1 p2 q0 q1 q2 r)
 rw [hmb]
 clear hmb
 cases mb with
 | false =>
   go_enter Tryz.func20,Tryz.ntmps20
   go_wp2_with fail
   refine (HM.out _ (hL.below (below_alloc2 _ _ _))).mono ?_
   rintro e x1 ⟨rfl,hb⟩
   have HB:=z5 ((below_alloc2 w _ _).trans (hb.mono (by simp;omega)))
   clear hb
   go_wp2_with fail
   go_ret
   exact⟨by simp,HB.out⟩
 | true =>
   go_enter Tryz.func20,Tryz.ntmps20
   go_wp2_with fail
   refine (HM.out _ (hL.below (below_alloc2 _ _ _))).mono ?_
   rintro e x1 ⟨rfl,hb⟩
   have hb1:Below (w.heap.size+1+1) ((w.alloc (.cells #[.slice a0 L.logs.length cap0,.slice a1 L.body.length cap1,.slice a2 L.outs.length cap2] 25)).alloc (.cells #[iV p0,iV p1,iV p2,iV q0,iV q1,iV q2,iV r] 28)) x1:=by
    have hs:((w.alloc (.cells #[.slice a0 L.logs.length cap0,.slice a1 L.body.length cap1,.slice a2 L.outs.length cap2] 25)).alloc (.cells #[iV p0,iV p1,iV p2,iV q0,iV q1,iV q2,iV r] 28)).heap.size=w.heap.size+1+1:=by simp
    rw [<-hs];exact hb
   obtain⟨⟨l0,l1,l2⟩,⟨t0,t1,t2,t3,t4,t5,t6⟩,z0,z1,hbw⟩:=zI hb1
   have HB:=z5 hbw
   clear hb hb1 hbw
   go_wp2_with fail
   refine (HT.out _).mono ?_
   rintro e x2 ⟨rfl,hb⟩
   have HB2:=z5 (HB.out.trans (hb.mono HB.out.size))
   clear hb
   go_wp2_with fail
   go_ret
   exact⟨by simp,HB2.out⟩
def ZW:Prop:=∀(v:Value) (t:Tg) (L:Lp) (w:World),zk w v L ->
 Calls Tryz.prog 86 #[v,.agg t.cells] w fun e w'=>∃a n c,e=.returned (.tuple #[.slice a n c,iV (if (zx L && zp t)=true then 0 else 2)])/\Below w.heap.size w w'/\((zx L && zp t)=true->yP w' (.slice a n c) (z8 L t))/\((zx L && zp t)=false->n=0)
theorem za6 (hE:ZW) (v:Value) (t:Tg) (L:Lp) (w:World) (hL:zk w v L) (hm:(zx L && zp t)=false) :
  Calls Tryz.prog 86 #[v,.agg t.cells] w fun e w'=>∃a c,e=.returned (.tuple #[.slice a 0 c,iV 2])/\Below w.heap.size w w' :=
 (hE v t L w hL).mono fun e w' ⟨a,n,c,h1,h2,h3,h4⟩=>by
  obtain rfl:=h4 hm
  rw [hm] at h1
  exact⟨a,c,h1,h2⟩
theorem Xk (hE:ZW) (v:Value) (t:Tg) (L:Lp) (w:World) (hL:zk w v L) (hm:(zx L && zp t)=true) :
  Calls Tryz.prog 86 #[v,.agg t.cells] w fun e w'=>∃a n c,e=.returned (.tuple #[.slice a n c,iV 0])/\yP w' (.slice a n c) (z8 L t)/\Below w.heap.size w w' :=
 (hE v t L w hL).mono fun e w' ⟨a,n,c,h1,h2,h3,h4⟩=>by
  rw [hm] at h1
  exact⟨a,n,c,h1,h3 hm,h2⟩
set_option linter.unusedSimpArgs false
set_option maxRecDepth 8192
theorem Tryz.j3:(Tryz.prog.info? 3).map (fun i=>(i.zero,i.size,i.bytes))=some (some (iV 0),1,8):=by kernel_rfl
def VJ (n:Nat) (e:Ed):Prop:=∃fr to bk wt:Nat,e=⟨fr,to,bk,wt⟩/\fr<n/\to<n/\bk<=32/\wt<=6
theorem zar {p:Int} {l:List Ed} {a:Nat->Int}:∀k,k<=l.length->zh (fun j=>okE p a (zu l j)) k=true->zQ p l a k=a:=by
 intro k
 induction k with
 | zero=>exact fun _ _=>rfl
 | succ k ih =>
   intro hk h
   have h1:zh (fun j=>okE p a (zu l j)) k=true:=zN fun j hj=>zl h j (by omega)
   show Zo p (zQ p l a k) (zu l k)=a
   rw [ih (by omega) h1]
   have h2:=of_decide_eq_true (zl h k (by omega))
   unfold Zo
   rw [if_neg (by omega)]
theorem Vm {p:Int} {l:List Ed} {a:Nat->Int} {n:Nat} {B:Int} (hp:0<=p) (hl:∀e∈l,VJ n e) (ha:∀v,a v<=B):∀k,k<=l.length->∀v,zQ p l a k v<=B+6*k:=by
 intro k
 induction k with
 | zero=>intro _ v;have:=ha v;show a v<=_;omega
 | succ k ih =>
   intro hk v
   show Zo p (zQ p l a k) (zu l k) v<=_
   by_cases h:Zo p (zQ p l a k) (zu l k) v=zQ p l a k v
   ·rw [h];have:=ih (by omega) v;omega
   ·obtain⟨h1,h2⟩:=zc9 h
    rw [h2]
    have h3:=ih (by omega) (zu l k).fr.toNat
    obtain⟨fr,to,bk,wt,he,-,-,h5,h6⟩:=hl _ (Zf (show k<l.length by omega))
    have h7:0<=p*(bk:Int):=Int.mul_nonneg hp (by omega)
    have h8:ZY p (zu l k)<=6:=by rw [he];unfold ZY;show (wt:Int) - p*(bk:Int)<=6;omega
    omega
theorem Uu {p:Int} {l:List Ed} {n:Nat} (hp:0<=p) (hl:∀e∈l,VJ n e):∀r v,zro p l r v<=6*((r*l.length:Nat):Int):=by
 intro r
 induction r with
 | zero=>intro v;show (0:Int)<=_;omega
 | succ r ih =>
   intro v
   have:=Vm hp hl ih l.length (Nat.le_refl _) v
   show zQ p l (zro p l r) l.length v<=_
   rw [Nat.succ_mul,Int.natCast_add]
   omega
theorem zjq {p:Int} {l:List Ed} (r v:Nat):0<=zro p l r v:=xY p l v 0 r (Nat.zero_le _)
theorem zdq {p:Int} {l:List Ed} (r k v:Nat):0<=zQ p l (zro p l r) k v:=Int.le_trans (zjq r v) (X8 p l _ v 0 k (Nat.zero_le _))
theorem za8 {p:Nat->Bool} {k:Nat} (h:∀q,q<k->p q=false):exN p k=false:=by
 cases e:exN p k with
 | false=>rfl
 | true =>
   obtain⟨q,h1,h2⟩:=Yf.1 e
   rw [h q h1] at h2;cases h2
set_option maxRecDepth 8192
theorem VB {L:Lp} {t:Tg} {q:Nat} (hm:zx L=true) (hq:1<=q) (h:yn L.body.length (z8 L t) q=true) (hno:∀q':Nat,1<=q'->q'<q->yn L.body.length (z8 L t) q'=false):xi L t=q:=by
 obtain⟨h1,h2,h3,h4⟩:=Ud 95 1 (YN (t:=t) hm)
 by_cases e:ZA (fun p:Nat=>yn L.body.length (z8 L t) p) 95 1=q
 ·exact e
 ·exfalso
  by_cases hlt:ZA (fun p:Nat=>yn L.body.length (z8 L t) p) 95 1<q
  ·have h5:=hno _ h2 hlt
   have h6:yn L.body.length (z8 L t) (ZA (fun p:Nat=>yn L.body.length (z8 L t) p) 95 1:Nat)=true:=h1
   rw [h5] at h6;cases h6
  ·have h5:=h4 q hq (by omega)
   have h6:yn L.body.length (z8 L t) (q:Nat)=false:=h5
   rw [h] at h6;cases h6
theorem zau {L:Lp} {t:Tg} (hm:zx L=true) {q:Nat} (hno:∀q':Nat,1<=q'->q'<q->yn L.body.length (z8 L t) q'=false):q<=96:=by
 obtain⟨h1,h2,h3,h4⟩:=Ud 95 1 (YN (t:=t) hm)
 refine Classical.byContradiction fun hlt=>?_
 have h5:=hno _ h2 (by omega)
 have h6:yn L.body.length (z8 L t) (ZA (fun p:Nat=>yn L.body.length (z8 L t) p) 95 1:Nat)=true:=h1
 rw [h5] at h6;cases h6
set_option maxRecDepth 8192
def zb9:Prop:=∀(v:Value) (t:Tg) (L:Lp) (w:World),zk w v L ->
 Calls Tryz.prog 144 #[v,.agg t.cells] w fun e w'=>(if (zx L && zp t)=true then e=.returned (.tuple #[iV (xP L t),iV (xi L t),iV 0]) else e=.returned (.tuple #[iV 0,iV 0,iV 2]))/\Below w.heap.size w w'
end Go.Proofs.YtjoapiafpahihabGreat
