import Derived.Test.YtjoapiafpahihabGreatRef3A
namespace Go.Proofs.YtjoapiafpahihabGreat
open Go.RowKit Go.Joins
set_option linter.unusedVariables false
structure zi8 (w0:World) (base:Nat) (mv:Value) (gm cap A turns N n T:Nat) (G C len GA:Nat->Nat) (s:Sq) (wr:World):Prop where
 bel:Below base w0 wr
 outer:n=0\/(mv=.slice (some ⟨gm,0,none⟩) n cap/\n<=cap/\cap<=maxLen/\zg wr gm 63 n (znf G C len)/\base<=gm/\gm<A)
 inner:Xx wr base G C n len s.mem
 under:∀i,i<n->G i<A
 hall:zg wr A 63 turns (fun i=>if i<T then .slice (some ⟨GA i,0,none⟩) N N else .slice none 0 0)
 rows:∀i,i<T->A<GA i/\zg wr (GA i) 2 N (fun k=>iV (s.val i k))
 inj:∀i j,i<T->j<T->i≠j->GA i≠GA j
 hA:base<=A
theorem zi8.below {w0:World} {base:Nat} {mv:Value} {gm cap A turns N n T:Nat} {G C len GA:Nat->Nat} {s:Sq} {wr w':World} (h:zi8 w0 base mv gm cap A turns N n T G C len GA s wr) (hb:Below wr.heap.size wr w') (hbase:base<=wr.heap.size) :
  zi8 w0 base mv gm cap A turns N n T G C len GA s w' where
 bel:=h.bel.trans (hb.mono hbase)
 outer:=by
  rcases h.outer with h1 | ⟨h1,h2,h3,h4,h5⟩
  ·exact .inl h1
  ·exact .inr ⟨h1,h2,h3,h4.below hb h4.lt,h5⟩
 inner:=h.inner.below hb
 under:=h.under
 hall:=h.hall.below hb h.hall.lt
 rows:=fun i hi=>⟨(h.rows i hi).1,(h.rows i hi).2.below hb (h.rows i hi).2.lt⟩
 inj:=h.inj
 hA:=h.hA
theorem zi8.setVal {w0:World} {base:Nat} {mv:Value} {gm cap A turns N n T:Nat} {G C len GA:Nat->Nat} {s:Sq} {wr:World} (h:zi8 w0 base mv gm cap A turns N n T G C len GA s wr) (t k:Nat) (v:Int) (ht:t<T) (hk:k<N) :
  zi8 w0 base mv gm cap A turns N n T G C len GA ⟨s.mem,Yj s.val t k v⟩ (wr.setCell ⟨GA t,k,none⟩ (iV v)) where
 bel:=h.bel.setCell (by have:=(h.rows t ht).1;have:=h.hA;show base<=GA t;omega) _
 outer:=by
  have hg:=(h.rows t ht).1
  rcases h.outer with h1 | ⟨h1,h2,h3,h4,h5,h6⟩
  ·exact .inl h1
  ·exact .inr ⟨h1,h2,h3,h4.setOther (by show gm≠GA t;omega) _,h5,h6⟩
 inner:=h.inner.keep fun i hi=>Below.heap_setCell _ _ _ _ (by have:=h.under i hi;have:=(h.rows t ht).1;show G i≠GA t;omega)
 under:=h.under
 hall:=h.hall.setOther (by have:=(h.rows t ht).1;show A≠GA t;omega) _
 rows:=fun i hi=>by
  refine⟨(h.rows i hi).1,?_⟩
  by_cases e:i=t
  ·subst e
   refine ((h.rows i hi).2.set k _ hk).congr fun j hj=>?_
   show (if j=k then iV v else iV (s.val i j))=iV (Yj s.val i k v i j)
   rw [zph]
   split <;> rfl
  ·refine ((h.rows i hi).2.setOther (by show GA i≠GA t;exact h.inj i t hi ht e) _).congr fun j hj=>?_
   show iV (s.val i j)=iV (Yj s.val t k v i j)
   rw [zn2 _ _ _ _ _ _ e]
 inj:=h.inj
 hA:=h.hA
theorem zi8.setMem {w0:World} {base:Nat} {mv:Value} {gm cap A turns N n T:Nat} {G C len GA:Nat->Nat} {s:Sq} {wr:World} (h:zi8 w0 base mv gm cap A turns N n T G C len GA s wr) (i k:Nat) (v:Int) (hi:i<n) (hk:k<len i) :
  zi8 w0 base mv gm cap A turns N n T G C len GA ⟨Yj s.mem i k v,s.val⟩ (wr.setCell ⟨G i,k,none⟩ (iV v)) where
 bel:=h.bel.setCell (by show base<=G i;exact (h.inner.1 i hi).1) _
 outer:=by
  rcases h.outer with h1 | ⟨h1,h2,h3,h4,h5,h6⟩
  ·exact .inl h1
  ·exact .inr ⟨h1,h2,h3,h4.setOther (by show gm≠G i;exact h4.apart (h.inner.1 i hi).2.2.2 (by decide)) _,h5,h6⟩
 inner:=by
  refine⟨fun j hj=>⟨(h.inner.1 j hj).1,(h.inner.1 j hj).2.1,(h.inner.1 j hj).2.2.1,?_⟩,h.inner.2⟩
  by_cases e:j=i
  ·subst e
   refine ((h.inner.1 j hj).2.2.2.set k _ hk).congr fun a ha=>?_
   show (if a=k then iV v else iV (s.mem j a))=iV (Yj s.mem j k v j a)
   rw [zph]
   split <;> rfl
  ·refine ((h.inner.1 j hj).2.2.2.setOther (by show G j≠G i;exact h.inner.2 j i hj hi e) _).congr fun a ha=>?_
   show iV (s.mem j a)=iV (Yj s.mem i k v j a)
   rw [zn2 _ _ _ _ _ _ e]
 under:=h.under
 hall:=h.hall.setOther (by have:=h.under i hi;show A≠G i;omega) _
 rows:=fun j hj=>⟨(h.rows j hj).1,(h.rows j hj).2.setOther (by have:=h.under i hi;have:=(h.rows j hj).1;show GA j≠G i;omega) _⟩
 inj:=h.inj
 hA:=h.hA
theorem zi8.newRow {w0:World} {base:Nat} {mv:Value} {gm cap A turns N n T:Nat} {G C len GA:Nat->Nat} {s:Sq} {wr:World} (h:zi8 w0 base mv gm cap A turns N n T G C len GA s wr) (hbase:base<=wr.heap.size) (hT:T<turns) (hz:∀k,s.val T k=0) :
  zi8 w0 base mv gm cap A turns N n (T+1) G C len (fun i=>if i=T then wr.heap.size else GA i) s
   ((wr.alloc (.cells (madeCells #[iV 0] N) 2)).setCell ⟨A,T,none⟩ (.slice (some ⟨wr.heap.size,0,none⟩) N N)):=by
 have hal:=h.hall.lt
 have h1:=h.below (below_alloc1 wr (.cells (madeCells #[iV 0] N) 2)) hbase
 have hz2:=zg.zeros wr (iV 0) N 2
 refine { bel:=h1.bel.setCell (by show base<=A;exact h.hA) _,outer:=?_,inner:=?_,under:=h.under,hall:=?_,rows:=?_,inj:=?_,hA:=h.hA }
 ·rcases h1.outer with e | ⟨e1,e2,e3,e4,e5,e6⟩
  ·exact .inl e
  ·exact .inr ⟨e1,e2,e3,e4.setOther (by show gm≠A;omega) _,e5,e6⟩
 ·exact h1.inner.keep fun i hi=>Below.heap_setCell _ _ _ _ (by have:=h.under i hi;show G i≠A;omega)
 ·refine (h1.hall.set T _ hT).congr fun i hi=>?_
  show (if i=T then (Value.slice (some ⟨wr.heap.size,0,none⟩) N N) else if i<T then .slice (some ⟨GA i,0,none⟩) N N else .slice none 0 0)=if i<T+1 then .slice (some ⟨if i=T then wr.heap.size else GA i,0,none⟩) N N else .slice none 0 0
  by_cases e:i=T
  ·subst e;simp
  ·rw [if_neg e]
   by_cases e2:i<T
   ·rw [if_pos e2,if_pos (by omega),if_neg e]
   ·rw [if_neg e2,if_neg (by omega)]
 ·intro i hi
  by_cases e:i=T
  ·subst e
   simp only [if_true]
   refine⟨hal,(hz2.setOther (by show wr.heap.size≠A;omega) _).congr fun k hk=>by rw [hz k]⟩
  ·simp only [if_neg e]
   exact⟨(h.rows i (by omega)).1,(h1.rows i (by omega)).2.setOther (by have:=(h.rows i (by omega)).1;show GA i≠A;omega) _⟩
 ·intro i j hi hj hij
  by_cases e1:i=T
  ·by_cases e2:j=T
   ·omega
   ·simp only [if_pos e1,if_neg e2]
    have:=(h.rows j (by omega)).2.lt
    omega
  ·by_cases e2:j=T
   ·simp only [if_neg e1,if_pos e2]
    have:=(h.rows i (by omega)).2.lt
    omega
   ·simp only [if_neg e1,if_neg e2]
    exact h.inj i j (by omega) (by omega) hij
theorem zi8.grid {w0:World} {base:Nat} {mv:Value} {gm cap A turns N n T:Nat} {G C len GA:Nat->Nat} {s:Sq} {wr:World} (h:zi8 w0 base mv gm cap A turns N n T G C len GA s wr) (hT:T<=turns) (ht:turns<=200) (hN:N<=16) :
  zkw wr (.slice (some ⟨A,0,none⟩) turns turns) turns T N s.val:=by
 refine⟨A,turns,rfl,Nat.le_refl _,by unfold maxLen;omega,h.hall.lt,fun i hi=>?_⟩
 refine⟨GA i,N,?_,Nat.le_refl _,by unfold maxLen;omega,(h.rows i hi).2.lt,fun k hk=>(h.rows i hi).2.cell hk⟩
 rw [h.hall.cell (by omega),if_pos hi]
theorem X7 {w:World} {base:Nat} {e:TypeId} {v:Value} {n:Nat} {xs:List Value} (h:w.ownsRow base e 1 v n xs):∃a cap,v=.slice a n cap/\n<=cap/\cap<=maxLen:=by
 obtain⟨hl,h⟩:=h
 rcases h with ⟨rfl,rfl⟩ | ⟨g,cap,cur,rfl,hg,hb,hn,hm,r⟩
 ·exact⟨none,0,rfl,Nat.le_refl _,Nat.zero_le _⟩
 ·exact⟨_,cap,rfl,hn,hm⟩
def zsb (w:World) (l0 l1 l2 s0 s1:Value):World:=((w.alloc (.cells #[l0,l1,l2] 25)).alloc (.cells #[s0,s1] 34)).alloc (.cells #[.slice none 0 0,.slice none 0 0] 65)
theorem zt7 (w:World) (l0 l1 l2 s0 s1:Value):(zsb w l0 l1 l2 s0 s1).heap.size=w.heap.size+3:=by unfold zsb;simp
theorem zu7 (w:World) (l0 l1 l2 s0 s1:Value):Below w.heap.size w (zsb w l0 l1 l2 s0 s1):=below_alloc3 _ _ _ _
theorem zt4 {w wr:World} {l0 l1 l2 s0 s1:Value} (h:Below (w.heap.size+3) (zsb w l0 l1 l2 s0 s1) wr) :
  wr.cell? ⟨w.heap.size,0,none⟩=some l0/\wr.cell? ⟨w.heap.size,1,none⟩=some l1/\wr.cell? ⟨w.heap.size,2,none⟩=some l2/\wr.cell? ⟨w.heap.size+1,0,none⟩=some s0/\wr.cell? ⟨w.heap.size+1,1,none⟩=some s1 /\
   Below w.heap.size w wr/\w.heap.size+3<=wr.heap.size:=by
 have hz:=h.size
 rw [zt7] at hz
 refine⟨?_,?_,?_,?_,?_,(zu7 w l0 l1 l2 s0 s1).trans (h.mono (by omega)),hz⟩
 ·rw [h.cell (p:=⟨w.heap.size,0,none⟩) (by show w.heap.size<_;omega)];unfold zsb;go_simp
 ·rw [h.cell (p:=⟨w.heap.size,1,none⟩) (by show w.heap.size<_;omega)];unfold zsb;go_simp
 ·rw [h.cell (p:=⟨w.heap.size,2,none⟩) (by show w.heap.size<_;omega)];unfold zsb;go_simp
 ·rw [h.cell (p:=⟨w.heap.size+1,0,none⟩) (by show w.heap.size+1<_;omega)];unfold zsb;go_simp
 ·rw [h.cell (p:=⟨w.heap.size+1,1,none⟩) (by show w.heap.size+1<_;omega)];unfold zsb;go_simp
theorem zi8.first {w0 w1:World} {am:Option Addr} {n capm turns N:Nat} {G C len:Nat->Nat} {f:Nat->Nat->Int} (hb:Below w0.heap.size w0 w1) (ho:w1.ownsRow w0.heap.size 63 1 (.slice am n capm) n ((List.range n).map (znf G C len)))
  (hi:Xx w1 w0.heap.size G C n len f):∃gm,zi8 w0 w0.heap.size (.slice am n capm) gm capm w1.heap.size turns N n 0 G C len (fun _=>0) ⟨f,fun _ _=>0⟩ (w1.alloc (.cells (madeCells #[.slice none 0 0] turns) 63)):=by
 have hz:=hb.size
 have hal:=below_alloc1 w1 (.cells (madeCells #[.slice none 0 0] turns) 63)
 have hcommon:∀gm,(n=0\/(Value.slice am n capm=.slice (some ⟨gm,0,none⟩) n capm/\n<=capm/\capm<=maxLen/\zg w1 gm 63 n (znf G C len)/\w0.heap.size<=gm/\gm<w1.heap.size)) ->
   zi8 w0 w0.heap.size (.slice am n capm) gm capm w1.heap.size turns N n 0 G C len (fun _=>0) ⟨f,fun _ _=>0⟩ (w1.alloc (.cells (madeCells #[.slice none 0 0] turns) 63)):=by
  intro gm hg
  refine { bel:=hb.trans (hal.mono hz),outer:=?_,inner:=hi.below hal,under:=fun i h=>(hi.1 i h).2.2.2.lt,hall:=?_,rows:=fun i h=>absurd h (Nat.not_lt_zero _),inj:=fun i j h=>absurd h (Nat.not_lt_zero _),hA:=hz }
  ·rcases hg with e | ⟨e1,e2,e3,e4,e5⟩
   ·exact .inl e
   ·exact .inr ⟨e1,e2,e3,e4.below hal e4.lt,e5⟩
  ·exact (zg.zeros w1 (.slice none 0 0) turns 63).congr fun i _=>by rw [if_neg (Nat.not_lt_zero _)]
 by_cases e:n=0
 ·exact⟨0,hcommon 0 (.inl e)⟩
 ·obtain⟨g,cap,hv,hg,h1,h2,hr⟩:=Zs ho (.inr (by omega))
  injection hv with e1 e2 e3
  subst e1;subst e3
  refine⟨g,hcommon g (.inr ⟨rfl,h1,h2,hr.congr fun i hi=>?_,hg,hr.lt⟩)⟩
  simp [List.getD,hi]
theorem zjn {n:Nat} {l:List Int} (h:Z9 n l=true) {i:Nat} (hi:i<l.length):0<=nth l i/\nth l i<n:=by
 have h1:=zo.1 (zl h i hi)
 have h2:=ZG n l i (by omega) (zN fun k hk=>zl h k (by omega))
 omega
def Xh (wr wq:World) (zs:List Int) (q:Nat) (mv:Value) (oa:Option Addr) (oc:Nat):Prop :=
 wq.heap[wr.heap.size]?=some (.cells #[.slice oa q oc,mv] 65 (0,0))/\wq.ownsRow (wr.heap.size+1) 2 1 (.slice oa q oc) q ((zs.take q).map (Value.int .i64))/\Below wr.heap.size wr wq
theorem Xh.first (wr:World) (zs:List Int) (mv:Value):Xh wr (wr.alloc (.cells #[.slice none 0 0,mv] 65)) zs 0 mv none 0 :=
 ⟨by show (wr.heap.push _)[wr.heap.size]?=_;simp,World.ownsRow_nil _ _ _ _,below_alloc1 _ _⟩
theorem Xh.cells {wr wq:World} {zs:List Int} {q:Nat} {mv:Value} {oa:Option Addr} {oc:Nat} (h:Xh wr wq zs q mv oa oc) :
  wq.cell? ⟨wr.heap.size,0,none⟩=some (.slice oa q oc)/\wq.cell? ⟨wr.heap.size,1,none⟩=some mv/\(∀i,wq.frozen? ⟨wr.heap.size,i,none⟩=false)/\wr.heap.size<wq.heap.size :=
 ⟨by rw [cell_of_block h.1];rfl,by rw [cell_of_block h.1];rfl,fun i=>unfrozen_of_block h.1 i,(Array.getElem?_eq_some_iff.1 h.1).1⟩
theorem zb3 (zs:List Int) (q:Nat) (h:q<zs.length):(zs.take q).map (Value.int .i64)++[iV (nth zs q)]=(zs.take (q+1)).map (Value.int .i64):=by
 rw [List.take_succ_eq_append_getElem h,List.map_append]
 congr 1
 simp [nth,List.getD,h]
theorem Xh.step {wr wq w2:World} {zs:List Int} {q:Nat} {mv v2:Value} {oa:Option Addr} {oc n:Nat} {o1:Obj} (h:Xh wr wq zs q mv oa oc) (hq:q<zs.length)
  (ho:w2.ownsRow (wr.heap.size+1) 2 1 v2 (q+1) ((zs.take q).map (Value.int .i64)++[iV (nth zs q)])) (hg:((wq.drewN n).alloc o1).grownBy w2 (Value.ownBlock (.slice oa q oc))) :
  ∃oa' oc',v2=.slice oa' (q+1) oc'/\w2.cell? ⟨wr.heap.size,0,none⟩=some (.slice oa q oc)/\w2.frozen? ⟨wr.heap.size,0,none⟩=false/\Xh wr (w2.setCell ⟨wr.heap.size,0,none⟩ v2) zs (q+1) mv oa' oc':=by
 obtain⟨oa',oc',rfl,-,hx⟩:=X7 ho
 have hlt:=h.cells.2.2.2
 have hown:=h.2.1
 have hne:some wr.heap.size≠Value.ownBlock (.slice oa q oc):=fun e=>by have:=yW hown _ e.symm;omega
 have hblk:w2.heap[wr.heap.size]?=some (.cells #[.slice oa q oc,mv] 65 (0,0)):=by
  rw [hg.block wr.heap.size (by simp;omega) hne,Below.heap_alloc (wq.drewN n) o1 wr.heap.size hlt]
  exact h.1
 refine⟨oa',oc',rfl,by rw [cell_of_block hblk];rfl,unfrozen_of_block hblk 0,?_,?_,?_⟩
 ·rw [block_setCell hblk];rfl
 ·refine ownsRow_setCell_below ?_ (by show wr.heap.size<_;omega) _
  rw [<-zb3 zs q hq];exact ho
 ·refine Below.setCell ?_ (by show wr.heap.size<=wr.heap.size;omega) _
  have hb:=h.2.2
  refine (hb.trans ((below_draws _ _ n).alloc (by have:=hb.size;simp;omega) o1)).grown hg (by have:=hb.size;simp;omega) (fun k hk=>by have:=yW hown k hk;omega)
theorem zt5 {w:World} {base:Nat} {v:Value} {zs:List Int} (h:w.ownsRow base 2 1 v zs.length (zs.map (Value.int .i64))) (hz:∀i,I64 (nth zs i)):yf w v zs:=by
 obtain⟨a,cap,hv,h1,h2⟩:=X7 h
 refine⟨a,cap,hv,h1,h2,fun i _=>hz i,fun hp=>?_⟩
 obtain⟨g,c,hv2,hg,h3,h4,hr⟩:=Zs h (.inr hp)
 rw [hv] at hv2
 injection hv2 with e1 e2 e3
 refine⟨g,0,e1,hr.lt,fun i hi=>?_⟩
 rw [Nat.zero_add,hr.cell hi,zad zs i hi]
theorem zuf {w0:World} {base:Nat} {am:Option Addr} {capm gm cap A turns N n T:Nat} {G C len GA:Nat->Nat} {s:Sq} {wr:World} (h:zi8 w0 base (.slice am n capm) gm cap A turns N n T G C len GA s wr) (hc1:n<=capm) (hc2:capm<=maxLen) (hs:s.fine) :
  YY wr (.slice am n capm) ((List.range n).map fun i=>(List.range (len i)).map fun j=>s.mem i j):=by
 have hl:((List.range n).map fun i=>(List.range (len i)).map fun j=>s.mem i j).length=n:=by simp
 refine⟨am,capm,by rw [hl],by rw [hl];exact hc1,hc2,fun hp=>?_⟩
 rw [hl] at hp ⊢
 rcases h.outer with e | ⟨e1,e2,e3,e4,e5,e6⟩
 ·omega
 injection e1 with f1 f2 f3
 refine⟨gm,0,f1,e4.lt,fun i hi=>⟨znf G C len i,by rw [Nat.zero_add];exact e4.cell hi,?_⟩⟩
 obtain⟨g1,g2,g3,g4⟩:=h.inner.1 i hi
 have hr:VC ((List.range n).map fun i=>(List.range (len i)).map fun j=>s.mem i j) i=(List.range (len i)).map fun j=>s.mem i j:=by unfold VC;simp [List.getD,hi]
 have hnth:∀j,j<len i->nth ((List.range (len i)).map fun j=>s.mem i j) j=s.mem i j:=fun j hj=>by unfold nth;simp [List.getD,hj]
 have hl2:((List.range (len i)).map fun j=>s.mem i j).length=len i:=by simp
 rw [hr]
 refine⟨some ⟨G i,0,none⟩,C i,by rw [hl2];rfl,by rw [hl2];exact g2,g3,fun j hj=>?_,fun _=>⟨G i,0,rfl,g4.lt,fun j hj=>?_⟩⟩
 ·rw [hl2] at hj;rw [hnth j hj];exact hs.1 i j
 ·rw [hl2] at hj;rw [Nat.zero_add,hnth j hj];exact g4.cell hj
theorem zi8.words {w0:World} {base:Nat} {am:Option Addr} {capm gm A turns N n T:Nat} {G C len GA:Nat->Nat} {s:Sq} {wr:World} (h:zi8 w0 base (.slice am n capm) gm capm A turns N n T G C len GA s wr) {b i:Nat} (hb:b<base) (u:Value) :
  zi8 (w0.setCell ⟨b,i,none⟩ u) base (.slice am n capm) gm capm A turns N n T G C len GA s (wr.setCell ⟨b,i,none⟩ u) where
 bel:=by
  refine⟨h.bel.os,h.bel.tape,h.bel.output,by simpa [World.setCell] using h.bel.size,fun k hk=>?_⟩
  by_cases e:k=b
  ·subst e
   simp only [World.setCell,Array.getElem?_modify]
   rw [h.bel.block k hk]
  ·rw [Below.heap_setCell _ _ _ _ (by show k≠b;exact e),Below.heap_setCell _ _ _ _ (by show k≠b;exact e)]
   exact h.bel.block k hk
 outer:=by
  rcases h.outer with h1 | ⟨h1,h2,h3,h4,h5,h6⟩
  ·exact .inl h1
  ·exact .inr ⟨h1,h2,h3,h4.setOther (by show gm≠b;omega) _,h5,h6⟩
 inner:=h.inner.keep fun j hj=>Below.heap_setCell _ _ _ _ (by have:=(h.inner.1 j hj).1;show G j≠b;omega)
 under:=h.under
 hall:=h.hall.setOther (by have:=h.hA;show A≠b;omega) _
 rows:=fun j hj=>⟨(h.rows j hj).1,(h.rows j hj).2.setOther (by have:=(h.rows j hj).1;have:=h.hA;show GA j≠b;omega) _⟩
 inj:=h.inj
 hA:=h.hA
theorem zv6 {w wr:World} {l0 l1 l2 s0 s1:Value} (h:Below (w.heap.size+3) (zsb w l0 l1 l2 s0 s1) wr):wr.heap[w.heap.size+2]?=some (.cells #[.slice none 0 0,.slice none 0 0] 65 (0,0)):=by
 rw [h.block _ (by omega)]
 unfold zsb
 show ((((w.heap.push _).push _).push _))[w.heap.size+2]?=_
 rw [Array.getElem?_push,if_pos (by simp)]
theorem zsl (L:Lp) (B:List (List Int)) (t:Nat) (s:Sq):(zrt L B t s).length=L.outs.length:=by unfold zrt;simp
theorem ztg (L:Lp) (B:List (List Int)) (t:Nat) (s:Sq) (i:Nat) (h:i<L.outs.length):nth (zrt L B t s) i=if t=0 then nth (VC B (nth L.outs i).toNat) 0 else s.val (t - 1) (nth L.outs i).toNat:=by
 unfold zrt nth;simp [List.getD,h]
theorem zvl (L:Lp) (B:List (List Int)) (t:Nat) (s:Sq) (hB:zsc B) (hs:s.fine):∀i,I64 (nth (zrt L B t s) i):=by
 intro i
 by_cases h:i<L.outs.length
 ·rw [ztg L B t s i h];exact zrr (hB _ _) (hs.2 _ _)
 ·have:nth (zrt L B t s) i=0:=by
   show ((zrt L B t s)[i]?).getD 0=0
   rw [List.getElem?_eq_none (by rw [zsl];omega)];rfl
  rw [this];exact zsq
end Go.Proofs.YtjoapiafpahihabGreat
