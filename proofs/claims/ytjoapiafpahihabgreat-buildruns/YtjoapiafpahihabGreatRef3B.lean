import Derived.Test.YtjoapiafpahihabGreatRef3A
namespace Go.Proofs.YtjoapiafpahihabGreat
open Go.RowKit Go.Joins
set_option linter.unusedVariables false
variable {w wr wq:World} {base n q oc:Nat} {v l0 l1 l2 s0 s1 mv:Value} {zs:List Int} {oa:Option Addr}
structure zzn (w0:World) (base:Nat) (mv:Value) (gm cap A gD N n T:Nat) (G C len GA:Nat->Nat) (s:Sq) (wr:World):Prop where
 bel:Below base w0 wr
 outer:n=0\/(mv=.slice (pA gm) n cap/\n<=cap/\cap<=maxLen/\zu wr gm 63 n (ZT G C len)/\base<=gm/\gm<A)
 inner:ZY wr base G C n len s.mem
 under:∀i,i<n->G i<A
 hall:zu wr A 63 gD (fun i=>if i<T then .slice (pA (GA i)) N N else .slice none 0 0)
 rows:∀i,i<T->A<GA i/\zu wr (GA i) 2 N (fun k=>iV (s.val i k))
 inj:∀i j,i<T->j<T->i≠j->GA i≠GA j
 hA:base<=A
theorem ZI {e:TypeId} {xs:List Value} (h:w.ownsRow base e 1 v n xs):∃a cap,v=.slice a n cap/\n<=cap/\cap<=maxLen:=by
 obtain⟨hl,h⟩:=h
 rcases h with ⟨rfl,rfl⟩ | ⟨g,cap,cur,rfl,hg,hb,hn,hm,r⟩
 ·exact⟨none,0,rfl,Nat.le_refl _,Nat.zero_le _⟩
 ·exact⟨_,cap,rfl,hn,hm⟩
def XF (w:World) (l0 l1 l2 s0 s1:Value):World:=((w.alloc (.cells #[l0,l1,l2] 25)).alloc (.cells #[s0,s1] 34)).alloc (.cells #[.slice none 0 0,.slice none 0 0] 65)
theorem YM (w:World) (l0 l1 l2 s0 s1:Value):(XF w l0 l1 l2 s0 s1).heap.size=w.heap.size+3:=by unfold XF;simp
theorem yY (w:World) (l0 l1 l2 s0 s1:Value):Bw w (XF w l0 l1 l2 s0 s1):=below_alloc3 _ _ _ _
theorem zia (h:Below (w.heap.size+3) (XF w l0 l1 l2 s0 s1) wr) :
  wr.cell? (ad w.heap.size 0)=some l0/\wr.cell? (ad w.heap.size 1)=some l1/\wr.cell? (ad w.heap.size 2)=some l2/\wr.cell? (ad (w.heap.size+1) 0)=some s0/\wr.cell? (ad (w.heap.size+1) 1)=some s1 /\
   Bw w wr/\w.heap.size+3<=wr.heap.size:=by
 have hz:=h.size
 rw [YM] at hz
 refine⟨?_,?_,?_,?_,?_,(yY w l0 l1 l2 s0 s1).trans (h.mono (by omega)),hz⟩
 ·rw [h.cell (p:=(ad w.heap.size 0)) (by show w.heap.size<_;omega)];unfold XF;go_simp
 ·rw [h.cell (p:=(ad w.heap.size 1)) (by show w.heap.size<_;omega)];unfold XF;go_simp
 ·rw [h.cell (p:=(ad w.heap.size 2)) (by show w.heap.size<_;omega)];unfold XF;go_simp
 ·rw [h.cell (p:=(ad (w.heap.size+1) 0)) (by show w.heap.size+1<_;omega)];unfold XF;go_simp
 ·rw [h.cell (p:=(ad (w.heap.size+1) 1)) (by show w.heap.size+1<_;omega)];unfold XF;go_simp
theorem zzn.first {w0 w1:World} {am:Option Addr} {capm gD N:Nat} {G C len:Nat->Nat} {f:Nat->Nat->Int} (hb:Bw w0 w1) (ho:w1.ownsRow w0.heap.size 63 1 (.slice am n capm) n ((List.range n).map (ZT G C len)))
  (hi:ZY w1 w0.heap.size G C n len f):∃gm,zzn w0 w0.heap.size (.slice am n capm) gm capm w1.heap.size gD N n 0 G C len (fun _=>0) ⟨f,fun _ _=>0⟩ (w1.alloc (.cells (madeCells #[.slice none 0 0] gD) 63)):=by
 have hz:=hb.size
 have hal:=below_alloc1 w1 (.cells (madeCells #[.slice none 0 0] gD) 63)
 have hcommon:∀gm,(n=0\/(Value.slice am n capm=.slice (pA gm) n capm/\n<=capm/\capm<=maxLen/\zu w1 gm 63 n (ZT G C len)/\w0.heap.size<=gm/\gm<w1.heap.size)) ->
   zzn w0 w0.heap.size (.slice am n capm) gm capm w1.heap.size gD N n 0 G C len (fun _=>0) ⟨f,fun _ _=>0⟩ (w1.alloc (.cells (madeCells #[.slice none 0 0] gD) 63)):=by
  intro gm hg
  refine { bel:=hb.trans (hal.mono hz),outer:=?_,inner:=hi.gE hal,under:=fun i h=>(hi.1 i h).2.2.2.lt,hall:=?_,rows:=fun i h=>absurd h (Nat.not_lt_zero _),inj:=fun i j h=>absurd h (Nat.not_lt_zero _),hA:=hz }
  ·rcases hg with e | ⟨e1,e2,e3,e4,e5⟩
   ·exact .inl e
   ·exact .inr ⟨e1,e2,e3,e4.gE hal e4.lt,e5⟩
  ·exact (zu.zeros w1 (.slice none 0 0) gD 63).congr fun i _=>by rw [if_neg (Nat.not_lt_zero _)]
 by_cases e:n=0
 ·exact⟨0,hcommon 0 (.inl e)⟩
 ·obtain⟨g,cap,hv,hg,h1,h2,hr⟩:=yx ho (.inr (by omega))
  injection hv with e1 e2 e3
  subst e1;subst e3
  refine⟨g,hcommon g (.inr ⟨rfl,h1,h2,hr.congr fun i hi=>?_,hg,hr.lt⟩)⟩
  simp [List.getD,hi]
theorem zre {l:List Int} (h:Xz n l=true) {i:Nat} (hi:i<l.length):0<=nth l i/\nth l i<n:=by
 have h1:=zx.1 (zo h i hi)
 have h2:=Ya n l i (by omega) (zL fun k hk=>zo h k (by omega))
 omega
def Xu (wr wq:World) (zs:List Int) (q:Nat) (mv:Value) (oa:Option Addr) (oc:Nat):Prop :=
 wq.heap[wr.heap.size]?=some (.cells #[.slice oa q oc,mv] 65 (0,0))/\wq.ownsRow (wr.heap.size+1) 2 1 (.slice oa q oc) q ((zs.take q).map (Value.int .i64))/\Bw wr wq
theorem Xu.first (wr:World) (zs:List Int) (mv:Value):Xu wr (wr.alloc (.cells #[.slice none 0 0,mv] 65)) zs 0 mv none 0 :=
 ⟨by show (wr.heap.push _)[wr.heap.size]?=_;simp,World.ownsRow_nil _ _ _ _,below_alloc1 _ _⟩
theorem Xu.cells (h:Xu wr wq zs q mv oa oc) :
  wq.cell? (ad wr.heap.size 0)=some (.slice oa q oc)/\wq.cell? (ad wr.heap.size 1)=some mv/\(∀i,wq.frozen? (ad wr.heap.size i)=false)/\wr.heap.size<wq.heap.size :=
 ⟨by rw [cell_of_block h.1];rfl,by rw [cell_of_block h.1];rfl,fun i=>unfrozen_of_block h.1 i,(Array.getElem?_eq_some_iff.1 h.1).1⟩
theorem zgh (zs:List Int) (q:Nat) (h:q<zs.length):(zs.take q).map (Value.int .i64)++[iV (nth zs q)]=(zs.take (q+1)).map (Value.int .i64):=by
 rw [List.take_succ_eq_append_getElem h,List.map_append]
 congr 1
 simp [nth,List.getD,h]
theorem Xu.step {w2:World} {v2:Value} {o1:Obj} (h:Xu wr wq zs q mv oa oc) (hq:q<zs.length)
  (ho:w2.ownsRow (wr.heap.size+1) 2 1 v2 (q+1) ((zs.take q).map (Value.int .i64)++[iV (nth zs q)])) (hg:((wq.drewN n).alloc o1).grownBy w2 (Value.ownBlock (.slice oa q oc))) :
  ∃oa' oc',v2=.slice oa' (q+1) oc'/\w2.cell? (ad wr.heap.size 0)=some (.slice oa q oc)/\w2.frozen? (ad wr.heap.size 0)=false/\Xu wr (w2.setCell (ad wr.heap.size 0) v2) zs (q+1) mv oa' oc':=by
 obtain⟨oa',oc',rfl,-,hx⟩:=ZI ho
 have hlt:=h.cells.2.2.2
 have gJ:=h.2.1
 have hne:some wr.heap.size≠Value.ownBlock (.slice oa q oc):=fun e=>by have:=yc gJ _ e.symm;omega
 have hblk:w2.heap[wr.heap.size]?=some (.cells #[.slice oa q oc,mv] 65 (0,0)):=by
  rw [hg.block wr.heap.size (by simp;omega) hne,Below.heap_alloc (wq.drewN n) o1 wr.heap.size hlt]
  exact h.1
 refine⟨oa',oc',rfl,by rw [cell_of_block hblk];rfl,unfrozen_of_block hblk 0,?_,?_,?_⟩
 ·rw [block_setCell hblk];rfl
 ·refine ownsRow_setCell_below ?_ (by show wr.heap.size<_;omega) _
  rw [<-zgh zs q hq];exact ho
 ·refine Below.setCell ?_ (by show wr.heap.size<=wr.heap.size;omega) _
  have hb:=h.2.2
  refine (hb.trans ((below_draws _ _ n).alloc (by have:=hb.size;simp;omega) o1)).grown hg (by have:=hb.size;simp;omega) (fun k hk=>by have:=yc gJ k hk;omega)
theorem zbn (h:w.ownsRow base 2 1 v zs.length (zs.map (Value.int .i64))) (hz:∀i,I64 (nth zs i)):zK w v zs:=by
 obtain⟨a,cap,hv,h1,h2⟩:=ZI h
 refine⟨a,cap,hv,h1,h2,fun i _=>hz i,fun hp=>?_⟩
 obtain⟨g,c,hv2,hg,h3,h4,hr⟩:=yx h (.inr hp)
 rw [hv] at hv2
 injection hv2 with e1 e2 e3
 refine⟨g,0,e1,hr.lt,fun i hi=>?_⟩
 rw [Nat.zero_add,hr.cell hi,XI zs i hi]
theorem zpf (h:Below (w.heap.size+3) (XF w l0 l1 l2 s0 s1) wr):wr.heap[w.heap.size+2]?=some (.cells #[.slice none 0 0,.slice none 0 0] 65 (0,0)):=by
 rw [h.block _ (by omega)]
 unfold XF
 show ((((w.heap.push _).push _).push _))[w.heap.size+2]?=_
 rw [Array.getElem?_push,if_pos (by simp)]
theorem V6 (L:Lp) (B:List (List Int)) (t:Nat) (s:Sq):(xH L B t s).length=L.o.length:=by unfold xH;simp
theorem zdd (L:Lp) (B:List (List Int)) (t:Nat) (s:Sq) (i:Nat) (h:i<L.o.length):nth (xH L B t s) i=if t=0 then nth (zv B (nth L.o i).toNat) 0 else s.val (t - 1) (nth L.o i).toNat:=by
 unfold xH nth;simp [List.getD,h]
theorem zrf (L:Lp) (B:List (List Int)) (t:Nat) (s:Sq) (hB:Y1 B) (hs:s.fine):∀i,I64 (nth (xH L B t s) i):=by
 intro i
 by_cases h:i<L.o.length
 ·rw [zdd L B t s i h];exact yL (hB _ _) (hs.2 _ _)
 ·have:nth (xH L B t s) i=0:=by
   show ((xH L B t s)[i]?).getD 0=0
   rw [List.getElem?_eq_none (by rw [V6];omega)];rfl
  rw [this];exact Uj
end Go.Proofs.YtjoapiafpahihabGreat
