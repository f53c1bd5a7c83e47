import Derived.Test.YtjoapiafpahihabGreatKernM
import Derived.Test.YtjoapiafpahihabGreatSchedA
namespace Go.Proofs.YtjoapiafpahihabGreat
open Go.RowKit Go.Joins
set_option linter.unusedVariables false
set_option linter.unusedSimpArgs false
set_option maxRecDepth 8192
variable {w x1 wr y:World} {g n i k lc j:Nat} {O:Nat->Kop}
def zir (L:Lp) (t:Tg) (P:Int) (T D:List Int):Kn:=if (zV L t P T && xj L t D)=true then zR L t P T D else ⟨0,0,[]⟩
def ziq (L:Lp) (t:Tg) (P:Int) (T D:List Int):Int:=if (zV L t P T && xj L t D)=true then 0 else 2
def zcb (L:Lp) (t:Tg) (P:Int) (T D:List Int) (w:World) (e:Ending) (w':World):Prop :=
 Bw w w'/\∃k0 k1 kv,e=.returned (.tuple #[.agg #[iV k0,iV k1,kv],iV (ziq L t P T D)])/\xF w' (.agg #[iV k0,iV k1,kv]) (zir L t P T D)
section
section
variable (L:Lp) (t:Tg) (P:Int) (T D:List Int)
def opQ (s j:Nat):Kop:=⟨nth T s % P,nth T s / P,(zc L.b s).o,nth D s,if 0<j then ZO L t P T D s 0 else 0,if 1<j then ZO L t P T D s 1 else 0,(zc L.b s).ar,(zc L.b s).sp,(zc L.b s).pl,(zc L.b s).nn⟩
def Y7 (i j:Nat):Nat->Kop:=fun s=>if s<i then opE L t P T D s else if s=i then opQ L t P T D s j else opQ L t P T D s 0
end
variable {L:Lp} {t:Tg} {P:Int} {T D:List Int}
theorem zyb (s:Nat):opQ L t P T D s (zj (zc L.b s)).length=opE L t P T D s:=rfl
theorem zr9 (i:Nat):Y7 L t P T D i (zj (zc L.b i)).length=Y7 L t P T D (i+1) 0:=by
 funext s
 unfold Y7
 by_cases h1:s<i
 ·rw [if_pos h1,if_pos (by omega)]
 ·rw [if_neg h1]
  by_cases h2:s=i
  ·subst h2;rw [if_pos rfl,if_pos (by omega),zyb]
  ·rw [if_neg h2,if_neg (by omega)]
   by_cases h3:s=i+1
   ·rw [if_pos h3]
   ·rw [if_neg h3]
theorem zra:Y7 L t P T D 0 0=fun s=>opQ L t P T D s 0:=by
 funext s
 unfold Y7
 rw [if_neg (Nat.not_lt_zero _)]
 split <;> rfl
theorem zfv (i j s:Nat):(Y7 L t P T D i j s).sg=nth T s / P/\(Y7 L t P T D i j s).d=nth D s:=by
 unfold Y7
 split
 ·exact⟨rfl,rfl⟩
 ·split <;> exact⟨rfl,rfl⟩
theorem yag (i:Nat):Y7 L t P T D i 1=fun s=>if s=i then { Y7 L t P T D i 0 s with a:=ZO L t P T D i 0 } else Y7 L t P T D i 0 s:=by
 funext s
 unfold Y7
 by_cases h2:s=i
 ·subst h2;simp [opQ]
 ·by_cases h1:s<i
  ·simp [h1,h2]
  ·simp [h1,h2]
theorem yah (i j:Nat) (hj:0<j) (hj2:j<2):Y7 L t P T D i (j+1)=fun s=>if s=i then { Y7 L t P T D i j s with b:=ZO L t P T D i j } else Y7 L t P T D i j s:=by
 obtain rfl:j=1:=by omega
 funext s
 unfold Y7
 by_cases h2:s=i
 ·subst h2;simp [opQ]
 ·by_cases h1:s<i
  ·simp [h1,h2]
  ·simp [h1,h2]
def zid (O:Nat->Kop) (c:Nat):Value:=((yS (O (c / 10)))[c % 10]?).getD undef
theorem zcm (O:Nat->Kop) (s j:Nat) (hj:j<10):some (zid O (s*10+j))=(yS (O s))[j]?:=by
 unfold zid
 have h1:(s*10+j) / 10=s:=by omega
 have h2:(s*10+j) % 10=j:=by omega
 rw [h1,h2]
 have h3:j<(yS (O s)).size:=hj
 rw [Array.getElem?_eq_getElem h3]
 rfl
def zei (w:World) (g n:Nat) (O:Nat->Kop):Prop:=zu w g 37 (n*10) (zid O)
theorem zei.cells (h:zei w g n O) {s:Nat} (hs:s<n):∀j,j<10->w.cell? (ad g (s*10+j))=(yS (O s))[j]?:=fun j hj=>by
 rw [zu.cell h (show s*10+j<n*10 by omega),zcm O s j hj]
theorem zei.setA (h:zei w g n O) (hi:i<n) (v:Int):zei (w.setCell (ad g (i*10+4)) (iV v)) g n (fun s=>if s=i then { O s with a:=v } else O s):=by
 refine (zu.set h (i*10+4) (iV v) (by omega)).congr fun c hc=>?_
 by_cases e:c=i*10+4
 ·subst e
  rw [if_pos rfl]
  have:=zcm (fun s=>if s=i then { O s with a:=v } else O s) i 4 (by omega)
  dsimp only at this
  rw [if_pos rfl] at this
  exact (Option.some.inj (this.trans rfl)).symm
 ·rw [if_neg e]
  unfold zid
  dsimp only
  by_cases e2:c / 10=i
  ·rw [e2,if_pos rfl]
   have e3:c % 10≠4:=by omega
   have e4:c % 10<10:=by omega
   generalize c % 10=q at e3 e4
   obtain rfl | rfl | rfl | rfl | rfl | rfl | rfl | rfl | rfl | rfl:q=0\/q=1\/q=2\/q=3\/q=4\/q=5\/q=6\/q=7\/q=8\/q=9:=by omega
   all_goals first | rfl | exact absurd rfl e3
  ·rw [if_neg e2]
theorem zei.setB (h:zei w g n O) (hi:i<n) (v:Int):zei (w.setCell (ad g (i*10+5)) (iV v)) g n (fun s=>if s=i then { O s with b:=v } else O s):=by
 refine (zu.set h (i*10+5) (iV v) (by omega)).congr fun c hc=>?_
 by_cases e:c=i*10+5
 ·subst e
  rw [if_pos rfl]
  have:=zcm (fun s=>if s=i then { O s with b:=v } else O s) i 5 (by omega)
  dsimp only at this
  rw [if_pos rfl] at this
  exact (Option.some.inj (this.trans rfl)).symm
 ·rw [if_neg e]
  unfold zid
  dsimp only
  by_cases e2:c / 10=i
  ·rw [e2,if_pos rfl]
   have e3:c % 10≠5:=by omega
   have e4:c % 10<10:=by omega
   generalize c % 10=q at e3 e4
   obtain rfl | rfl | rfl | rfl | rfl | rfl | rfl | rfl | rfl | rfl:q=0\/q=1\/q=2\/q=3\/q=4\/q=5\/q=6\/q=7\/q=8\/q=9:=by omega
   all_goals first | rfl | exact absurd rfl e3
  ·rw [if_neg e2]
structure EmI (L:Lp) (t:Tg) (P:Int) (T D:List Int) (x1:World) (k:Nat) (wr:World):Prop where
 bel:Bw x1 wr
 blk:∃la lc,wr.heap[x1.heap.size]?=some (.cells #[iV P,iV (yp P T k),.slice la k lc] 31 (0,0))/\wr.ownsRow (x1.heap.size+1) 37 10 (.slice la k lc) k (Ym ((List.range k).map fun s=>opQ L t P T D s 0))
theorem EmI.lt (h:EmI L t P T D x1 k wr):x1.heap.size<wr.heap.size:=by
 obtain⟨la,lc,h1,h2⟩:=h.blk
 exact (Array.getElem?_eq_some_iff.1 h1).1
theorem EmI.start (L:Lp) (t:Tg) (P:Int) (T D:List Int) (x1:World):EmI L t P T D x1 0 (x1.alloc (.cells #[iV P,iV 0,.slice none 0 0] 31)) :=
 ⟨below_alloc1 _ _,none,0,zD _ _ _,rfl,.inl ⟨rfl,rfl⟩⟩
theorem EmI.row (h:EmI L t P T D x1 k wr) (hk:0<k):∃g lc,wr.heap[x1.heap.size]?=some (.cells #[iV P,iV (yp P T k),.slice (pA g) k lc] 31 (0,0))/\x1.heap.size<g/\k<=lc/\lc<=maxLen/\zei wr g k (Y7 L t P T D 0 0):=by
 obtain⟨la,lc,h1,hl,h2⟩:=h.blk
 rcases h2 with ⟨_,hn⟩ | ⟨g,cap,cur,hv,hg,hb,hn,hm,hc,ht⟩
 ·omega
 ·injection hv with hv1 hv2 hv3
  subst hv1;subst hv3
  refine⟨g,lc,h1,by omega,hn,hm,cur,hb,by omega,fun c hc2=>?_⟩
  have hlen:((List.range k).map fun s=>opQ L t P T D s 0).length=k:=by simp
  have h3:(cur.toList.take (k*10))[c]?=(Ym ((List.range k).map fun s=>opQ L t P T D s 0))[c]?:=by rw [ht]
  rw [List.getElem?_take,if_pos hc2] at h3
  have e:c=c / 10*10+c % 10:=by omega
  have h4:=zf6 ((List.range k).map fun s=>opQ L t P T D s 0) (c / 10) (c % 10) (by rw [hlen];omega) (by omega)
  rw [<-e] at h4
  have h5:zp ((List.range k).map fun s=>opQ L t P T D s 0) (c / 10)=opQ L t P T D (c / 10) 0:=by
   unfold zp
   rw [List.getD,List.getElem?_map,List.getElem?_range (by omega)]
   rfl
  rw [h5] at h4
  have h6:cur.toList[c]?=cur[c]?:=by simp
  rw [<-h6,h3,h4,zra]
  have h7:c % 10<(yS (opQ L t P T D (c / 10) 0)).size:=Nat.mod_lt _ (by decide)
  show _=some (((yS (opQ L t P T D (c / 10) 0))[c % 10]?).getD undef)
  rw [Array.getElem?_eq_getElem h7]
  rfl
structure EmJ (L:Lp) (t:Tg) (P:Int) (T D:List Int) (x1:World) (g lc i j:Nat) (wr:World):Prop where
 bel:Bw x1 wr
 blk:wr.heap[x1.heap.size]?=some (.cells #[iV P,iV (yp P T L.b.length),.slice (pA g) L.b.length lc] 31 (0,0))
 row:zei wr g L.b.length (Y7 L t P T D i j)
 gt:x1.heap.size<g
theorem EmJ.lt (h:EmJ L t P T D x1 g lc i j wr):x1.heap.size<wr.heap.size:=(Array.getElem?_eq_some_iff.1 h.blk).1
theorem EmJ.gE (h:EmJ L t P T D x1 g lc i j wr) (hb:Bw wr y):EmJ L t P T D x1 g lc i j y :=
 ⟨h.bel.trans (hb.mono (Nat.le_of_lt h.lt)),(hb.block _ h.lt).trans h.blk,zu.gE h.row hb (zu.lt h.row),h.gt⟩
theorem EmJ.next (h:EmJ L t P T D x1 g lc i (zj (zc L.b i)).length wr):EmJ L t P T D x1 g lc (i+1) 0 wr :=
 ⟨h.bel,h.blk,by have:=h.row;rw [zr9] at this;exact this,h.gt⟩
theorem EmJ.setA (h:EmJ L t P T D x1 g lc i 0 wr) (hi:i<L.b.length):EmJ L t P T D x1 g lc i 1 (wr.setCell (ad g (i*10+4)) (iV (ZO L t P T D i 0))):=by
 have hg:=h.gt
 refine⟨h.bel.setCell (by show x1.heap.size<=g;omega) _,by rw [Below.heap_setCell _ _ _ _ (show x1.heap.size≠g by omega)];exact h.blk,?_,hg⟩
 rw [yag]
 exact h.row.setA hi _
theorem EmJ.setB (h:EmJ L t P T D x1 g lc i j wr) (hi:i<L.b.length) (hj:0<j) (hj2:j<2):EmJ L t P T D x1 g lc i (j+1) (wr.setCell (ad g (i*10+5)) (iV (ZO L t P T D i j))):=by
 have hg:=h.gt
 refine⟨h.bel.setCell (by show x1.heap.size<=g;omega) _,by rw [Below.heap_setCell _ _ _ _ (show x1.heap.size≠g by omega)];exact h.blk,?_,hg⟩
 rw [yah i j hj hj2]
 exact h.row.setB hi _
theorem EmJ.ops (h:EmJ L t P T D x1 g lc L.b.length 0 wr) (h1:L.b.length<=lc) (h2:lc<=maxLen):Zf wr (.slice (pA g) L.b.length lc) (zR L t P T D).ops:=by
 refine⟨some (ad g 0),lc,by rw [YR],by rw [YR];exact h1,h2,fun _=>⟨g,0,rfl,zu.lt h.row,fun i hi j hj=>?_⟩⟩
 rw [YR] at hi
 rw [UW hi,Nat.zero_add,h.row.cells hi j hj]
 unfold Y7
 rw [if_pos hi]
end
theorem znj {x:World} {e:TypeId} {a b d a' b' d':Value} (h:x.heap[g]?=some (.cells #[a,b,d] e (0,0))):(((x.setCell (ad g 0) a').setCell (ad g 1) b').setCell (ad g 2) d').heap[g]?=some (.cells #[a',b',d'] e (0,0)):=by
 simp [World.setCell,Array.getElem?_modify,h]
theorem zhl {c:Nat} {l:List Kop} {b:Nat} (h:Zf y (.slice (pA g) n c) l) (hb:b≠g) (i:Nat) (v:Value):Zf (y.setCell (ad b i) v) (.slice (pA g) n c) l:=by
 obtain⟨a,cap,e,h1,h2,h4⟩:=h
 refine⟨a,cap,e,h1,h2,fun hp=>?_⟩
 obtain⟨b',off,e2,h5,h6⟩:=h4 hp
 injection e with e3
 rw [e2] at e3
 injection e3 with e3
 injection e3 with e3 e4
 refine⟨b',off,e2,by simpa using h5,fun i hi j hj=>?_⟩
 rw [Zg (Below.heap_setCell _ _ _ _ (show b'≠b by omega))]
 exact h6 i hi j hj
theorem Tryz.iop37:(Tryz.prog.info? 37).map (fun i=>(i.zero,i.size,i.bytes))=some (some (.agg #[iV 0,iV 0,iV 0,iV 0,iV 0,iV 0,iV 0,iV 0,iV 0,iV 0]),10,80):=by kernel_rfl
theorem znh (w:World) (cs:Array Value) (e:TypeId):∀(j:Nat) (u:Value),cs.toList[j]?=some u->(w.alloc (.cells cs e)).cell? (((ad w.heap.size 0):Addr).add j)=some u:=by
 intro j u hj
 have ha:((ad w.heap.size 0):Addr).add j=(ad w.heap.size j):=by simp [Addr.add];omega
 rw [ha,cell_of_block (zD w cs e)]
 simpa using hj
end Go.Proofs.YtjoapiafpahihabGreat
