import Derived.Test.YtjoapiafpahihabGreatRef3A
namespace Go.Proofs.YtjoapiafpahihabGreat
open Go.RowKit Go.Joins
set_option linter.unusedVariables false
structure zi8 (w0:World) (base:Nat) (mv:Value) (gm cap A turns N n T:Nat) (G C len GA:Nat->Nat) (s:Sq) (wr:World):Prop where
 bel:Below base w0 wr
 outer:n=0\/(mv=.slice (some ⟨gm,0,none⟩) n cap/\n<=cap/\cap<=maxLen/\zg wr gm 63 n (znf G C len)/\base<=gm/\gm<A)
 inner:Xx wr base G C n len s.mem
 under:∀i,i<n->G i<A
 hall:zg wr A 63 turns (fun i=>if i<T then .slice (some ⟨GA i,0,none⟩) N N else .slice none 0 0)
 rows:∀i,i<T->A<GA i/\zg wr (GA i) 2 N (fun k=>iV (s.val i k))
 inj:∀i j,i<T->j<T->i≠j->GA i≠GA j
 hA:base<=A
theorem zi8.below {w0:World} {base:Nat} {mv:Value} {gm cap A turns N n T:Nat} {G C len GA:Nat->Nat} {s:Sq} {wr w':World} (h:zi8 w0 base mv gm cap A turns N n T G C len GA s wr) (hb:Below wr.heap.size wr w') (hbase:base<=wr.heap.size) :
  zi8 w0 base mv gm cap A turns N n T G C len GA s w' where
 bel:=h.bel.trans (hb.mono hbase)
 outer:=by
  rcases h.outer with h1 | ⟨h1,h2,h3,h4,h5⟩
  ·exact .inl h1
  ·exact .inr ⟨h1,h2,h3,h4.below hb h4.lt,h5⟩
 inner:=h.inner.below hb
 under:=h.under
 hall:=h.hall.below hb h.hall.lt
 rows:=fun i hi=>⟨(h.rows i hi).1,(h.rows i hi).2.below hb (h.rows i hi).2.lt⟩
 inj:=h.inj
 hA:=h.hA
theorem X7 {w:World} {base:Nat} {e:TypeId} {v:Value} {n:Nat} {xs:List Value} (h:w.ownsRow base e 1 v n xs):∃a cap,v=.slice a n cap/\n<=cap/\cap<=maxLen:=by
 obtain⟨hl,h⟩:=h
 rcases h with ⟨rfl,rfl⟩ | ⟨g,cap,cur,rfl,hg,hb,hn,hm,r⟩
 ·exact⟨none,0,rfl,Nat.le_refl _,Nat.zero_le _⟩
 ·exact⟨_,cap,rfl,hn,hm⟩
theorem zi8.first {w0 w1:World} {am:Option Addr} {n capm turns N:Nat} {G C len:Nat->Nat} {f:Nat->Nat->Int} (hb:Below w0.heap.size w0 w1) (ho:w1.ownsRow w0.heap.size 63 1 (.slice am n capm) n ((List.range n).map (znf G C len)))
  (hi:Xx w1 w0.heap.size G C n len f):∃gm,zi8 w0 w0.heap.size (.slice am n capm) gm capm w1.heap.size turns N n 0 G C len (fun _=>0) ⟨f,fun _ _=>0⟩ (w1.alloc (.cells (madeCells #[.slice none 0 0] turns) 63)):=by
 have hz:=hb.size
 have hal:=below_alloc1 w1 (.cells (madeCells #[.slice none 0 0] turns) 63)
 have hcommon:∀gm,(n=0\/(Value.slice am n capm=.slice (some ⟨gm,0,none⟩) n capm/\n<=capm/\capm<=maxLen/\zg w1 gm 63 n (znf G C len)/\w0.heap.size<=gm/\gm<w1.heap.size)) ->
   zi8 w0 w0.heap.size (.slice am n capm) gm capm w1.heap.size turns N n 0 G C len (fun _=>0) ⟨f,fun _ _=>0⟩ (w1.alloc (.cells (madeCells #[.slice none 0 0] turns) 63)):=by
  intro gm hg
  refine { bel:=hb.trans (hal.mono hz),outer:=?_,inner:=hi.below hal,under:=fun i h=>(hi.1 i h).2.2.2.lt,hall:=?_,rows:=fun i h=>absurd h (Nat.not_lt_zero _),inj:=fun i j h=>absurd h (Nat.not_lt_zero _),hA:=hz }
  ·rcases hg with e | ⟨e1,e2,e3,e4,e5⟩
   ·exact .inl e
   ·exact .inr ⟨e1,e2,e3,e4.below hal e4.lt,e5⟩
  ·exact (zg.zeros w1 (.slice none 0 0) turns 63).congr fun i _=>by rw [if_neg (Nat.not_lt_zero _)]
 by_cases e:n=0
 ·exact⟨0,hcommon 0 (.inl e)⟩
 ·obtain⟨g,cap,hv,hg,h1,h2,hr⟩:=Zs ho (.inr (by omega))
  injection hv with e1 e2 e3
  subst e1;subst e3
  refine⟨g,hcommon g (.inr ⟨rfl,h1,h2,hr.congr fun i hi=>?_,hg,hr.lt⟩)⟩
  simp [List.getD,hi]
theorem zjn {n:Nat} {l:List Int} (h:Z9 n l=true) {i:Nat} (hi:i<l.length):0<=nth l i/\nth l i<n:=by
 have h1:=zo.1 (zl h i hi)
 have h2:=ZG n l i (by omega) (zN fun k hk=>zl h k (by omega))
 omega
def Xh (wr wq:World) (zs:List Int) (q:Nat) (mv:Value) (oa:Option Addr) (oc:Nat):Prop :=
 wq.heap[wr.heap.size]?=some (.cells #[.slice oa q oc,mv] 65 (0,0))/\wq.ownsRow (wr.heap.size+1) 2 1 (.slice oa q oc) q ((zs.take q).map (Value.int .i64))/\Below wr.heap.size wr wq
theorem Xh.first (wr:World) (zs:List Int) (mv:Value):Xh wr (wr.alloc (.cells #[.slice none 0 0,mv] 65)) zs 0 mv none 0 :=
 ⟨by show (wr.heap.push _)[wr.heap.size]?=_;simp,World.ownsRow_nil _ _ _ _,below_alloc1 _ _⟩
theorem Xh.cells {wr wq:World} {zs:List Int} {q:Nat} {mv:Value} {oa:Option Addr} {oc:Nat} (h:Xh wr wq zs q mv oa oc) :
  wq.cell? ⟨wr.heap.size,0,none⟩=some (.slice oa q oc)/\wq.cell? ⟨wr.heap.size,1,none⟩=some mv/\(∀i,wq.frozen? ⟨wr.heap.size,i,none⟩=false)/\wr.heap.size<wq.heap.size :=
 ⟨by rw [cell_of_block h.1];rfl,by rw [cell_of_block h.1];rfl,fun i=>unfrozen_of_block h.1 i,(Array.getElem?_eq_some_iff.1 h.1).1⟩
theorem zb3 (zs:List Int) (q:Nat) (h:q<zs.length):(zs.take q).map (Value.int .i64)++[iV (nth zs q)]=(zs.take (q+1)).map (Value.int .i64):=by
 rw [List.take_succ_eq_append_getElem h,List.map_append]
 congr 1
 simp [nth,List.getD,h]
theorem Xh.step {wr wq w2:World} {zs:List Int} {q:Nat} {mv v2:Value} {oa:Option Addr} {oc n:Nat} {o1:Obj} (h:Xh wr wq zs q mv oa oc) (hq:q<zs.length)
  (ho:w2.ownsRow (wr.heap.size+1) 2 1 v2 (q+1) ((zs.take q).map (Value.int .i64)++[iV (nth zs q)])) (hg:((wq.drewN n).alloc o1).grownBy w2 (Value.ownBlock (.slice oa q oc))) :
  ∃oa' oc',v2=.slice oa' (q+1) oc'/\w2.cell? ⟨wr.heap.size,0,none⟩=some (.slice oa q oc)/\w2.frozen? ⟨wr.heap.size,0,none⟩=false/\Xh wr (w2.setCell ⟨wr.heap.size,0,none⟩ v2) zs (q+1) mv oa' oc':=by
 obtain⟨oa',oc',rfl,-,hx⟩:=X7 ho
 have hlt:=h.cells.2.2.2
 have hown:=h.2.1
 have hne:some wr.heap.size≠Value.ownBlock (.slice oa q oc):=fun e=>by have:=yW hown _ e.symm;omega
 have hblk:w2.heap[wr.heap.size]?=some (.cells #[.slice oa q oc,mv] 65 (0,0)):=by
  rw [hg.block wr.heap.size (by simp;omega) hne,Below.heap_alloc (wq.drewN n) o1 wr.heap.size hlt]
  exact h.1
 refine⟨oa',oc',rfl,by rw [cell_of_block hblk];rfl,unfrozen_of_block hblk 0,?_,?_,?_⟩
 ·rw [block_setCell hblk];rfl
 ·refine ownsRow_setCell_below ?_ (by show wr.heap.size<_;omega) _
  rw [<-zb3 zs q hq];exact ho
 ·refine Below.setCell ?_ (by show wr.heap.size<=wr.heap.size;omega) _
  have hb:=h.2.2
  refine (hb.trans ((below_draws _ _ n).alloc (by have:=hb.size;simp;omega) o1)).grown hg (by have:=hb.size;simp;omega) (fun k hk=>by have:=yW hown k hk;omega)
end Go.Proofs.YtjoapiafpahihabGreat
