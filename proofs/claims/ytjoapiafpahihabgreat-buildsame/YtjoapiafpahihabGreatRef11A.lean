import Derived.Test.YtjoapiafpahihabGreatSounds
import Derived.Test.YtjoapiafpahihabGreatKernS
import Derived.Test.YtjoapiafpahihabGreatRef8A
import Derived.Test.YtjoapiafpahihabGreatKernM
import Derived.Test.YtjoapiafpahihabGreatSchedA
import Derived.Test.YtjoapiafpahihabGreatRef6A
import Derived.BigQuiet
namespace Go.Proofs.YtjoapiafpahihabGreat
open Go.RowKit Go.Joins
set_option linter.unusedVariables false
set_option linter.unusedSimpArgs false
set_option maxRecDepth 8192
def zcx (L:Lp) (t:Tg) (P:Int) (T D:List Int):Kn:=if (zD L t P T && yI L t D)=true then zy L t P T D else ⟨0,0,[]⟩
def zcw (L:Lp) (t:Tg) (P:Int) (T D:List Int):Int:=if (zD L t P T && yI L t D)=true then 0 else 2
def U0 (L:Lp) (t:Tg) (P:Int) (T D:List Int) (w:World) (e:Ending) (w':World):Prop :=
 Below w.heap.size w w'/\∃k0 k1 kv,e=.returned (.tuple #[.agg #[iV k0,iV k1,kv],iV (zcw L t P T D)])/\xh w' (.agg #[iV k0,iV k1,kv]) (zcx L t P T D)
end Go.Proofs.YtjoapiafpahihabGreat
namespace Go.Proofs.YtjoapiafpahihabGreat
open Go.RowKit Go.Joins
set_option linter.unusedVariables false
set_option linter.unusedSimpArgs false
set_option maxRecDepth 8192
section
variable (L:Lp) (t:Tg) (P:Int) (T D:List Int)
def opQ (s j:Nat):Kop:=⟨nth T s % P,nth T s / P,(z6 L.body s).o,nth D s,if 0<j then xV L t P T D s 0 else 0,if 1<j then xV L t P T D s 1 else 0,(z6 L.body s).ar,(z6 L.body s).sp,(z6 L.body s).pl,(z6 L.body s).nn⟩
def Z7 (i j:Nat):Nat->Kop:=fun s=>if s<i then opE L t P T D s else if s=i then opQ L t P T D s j else opQ L t P T D s 0
end
variable {L:Lp} {t:Tg} {P:Int} {T D:List Int}
theorem zpb (s:Nat):opQ L t P T D s (yr (z6 L.body s)).length=opE L t P T D s:=rfl
theorem zjk (i:Nat):Z7 L t P T D i (yr (z6 L.body i)).length=Z7 L t P T D (i+1) 0:=by
 funext s
 unfold Z7
 by_cases h1:s<i
 ·rw [if_pos h1,if_pos (by omega)]
 ·rw [if_neg h1]
  by_cases h2:s=i
  ·subst h2;rw [if_pos rfl,if_pos (by omega),zpb]
  ·rw [if_neg h2,if_neg (by omega)]
   by_cases h3:s=i+1
   ·rw [if_pos h3]
   ·rw [if_neg h3]
theorem zjl:Z7 L t P T D 0 0=fun s=>opQ L t P T D s 0:=by
 funext s
 unfold Z7
 rw [if_neg (Nat.not_lt_zero _)]
 split <;> rfl
theorem zaq (i j s:Nat):(Z7 L t P T D i j s).sg=nth T s / P/\(Z7 L t P T D i j s).d=nth D s:=by
 unfold Z7
 split
 ·exact⟨rfl,rfl⟩
 ·split <;> exact⟨rfl,rfl⟩
theorem zqq (i:Nat):Z7 L t P T D i 1=fun s=>if s=i then { Z7 L t P T D i 0 s with a:=xV L t P T D i 0 } else Z7 L t P T D i 0 s:=by
 funext s
 unfold Z7
 by_cases h2:s=i
 ·subst h2;simp [opQ]
 ·by_cases h1:s<i
  ·simp [h1,h2]
  ·simp [h1,h2]
theorem zqr (i j:Nat) (hj:0<j) (hj2:j<2):Z7 L t P T D i (j+1)=fun s=>if s=i then { Z7 L t P T D i j s with b:=xV L t P T D i j } else Z7 L t P T D i j s:=by
 obtain rfl:j=1:=by omega
 funext s
 unfold Z7
 by_cases h2:s=i
 ·subst h2;simp [opQ]
 ·by_cases h1:s<i
  ·simp [h1,h2]
  ·simp [h1,h2]
def zcu (O:Nat->Kop) (c:Nat):Value:=((yX (O (c / 10)))[c % 10]?).getD undef
theorem U7 (O:Nat->Kop) (s j:Nat) (hj:j<10):some (zcu O (s*10+j))=(yX (O s))[j]?:=by
 unfold zcu
 have h1:(s*10+j) / 10=s:=by omega
 have h2:(s*10+j) % 10=j:=by omega
 rw [h1,h2]
 have h3:j<(yX (O s)).size:=hj
 rw [Array.getElem?_eq_getElem h3]
 rfl
def UP (w:World) (g n:Nat) (O:Nat->Kop):Prop:=zg w g 37 (n*10) (zcu O)
theorem UP.cells {w:World} {g n:Nat} {O:Nat->Kop} (h:UP w g n O) {s:Nat} (hs:s<n):∀j,j<10->w.cell? ⟨g,s*10+j,none⟩=(yX (O s))[j]?:=fun j hj=>by
 rw [zg.cell h (show s*10+j<n*10 by omega),U7 O s j hj]
theorem UP.setA {w:World} {g n:Nat} {O:Nat->Kop} (h:UP w g n O) {i:Nat} (hi:i<n) (v:Int):UP (w.setCell ⟨g,i*10+4,none⟩ (iV v)) g n (fun s=>if s=i then { O s with a:=v } else O s):=by
 refine (zg.set h (i*10+4) (iV v) (by omega)).congr fun c hc=>?_
 by_cases e:c=i*10+4
 ·subst e
  rw [if_pos rfl]
  have:=U7 (fun s=>if s=i then { O s with a:=v } else O s) i 4 (by omega)
  dsimp only at this
  rw [if_pos rfl] at this
  exact (Option.some.inj (this.trans rfl)).symm
 ·rw [if_neg e]
  unfold zcu
  dsimp only
  by_cases e2:c / 10=i
  ·rw [e2,if_pos rfl]
   have e3:c % 10≠4:=by omega
   have e4:c % 10<10:=by omega
   generalize c % 10=q at e3 e4
   obtain rfl | rfl | rfl | rfl | rfl | rfl | rfl | rfl | rfl | rfl:q=0\/q=1\/q=2\/q=3\/q=4\/q=5\/q=6\/q=7\/q=8\/q=9:=by omega
   all_goals first | rfl | exact absurd rfl e3
  ·rw [if_neg e2]
theorem UP.setB {w:World} {g n:Nat} {O:Nat->Kop} (h:UP w g n O) {i:Nat} (hi:i<n) (v:Int):UP (w.setCell ⟨g,i*10+5,none⟩ (iV v)) g n (fun s=>if s=i then { O s with b:=v } else O s):=by
 refine (zg.set h (i*10+5) (iV v) (by omega)).congr fun c hc=>?_
 by_cases e:c=i*10+5
 ·subst e
  rw [if_pos rfl]
  have:=U7 (fun s=>if s=i then { O s with b:=v } else O s) i 5 (by omega)
  dsimp only at this
  rw [if_pos rfl] at this
  exact (Option.some.inj (this.trans rfl)).symm
 ·rw [if_neg e]
  unfold zcu
  dsimp only
  by_cases e2:c / 10=i
  ·rw [e2,if_pos rfl]
   have e3:c % 10≠5:=by omega
   have e4:c % 10<10:=by omega
   generalize c % 10=q at e3 e4
   obtain rfl | rfl | rfl | rfl | rfl | rfl | rfl | rfl | rfl | rfl:q=0\/q=1\/q=2\/q=3\/q=4\/q=5\/q=6\/q=7\/q=8\/q=9:=by omega
   all_goals first | rfl | exact absurd rfl e3
  ·rw [if_neg e2]
structure EmI (L:Lp) (t:Tg) (P:Int) (T D:List Int) (x1:World) (k:Nat) (wr:World):Prop where
 bel:Below x1.heap.size x1 wr
 blk:∃la lc,wr.heap[x1.heap.size]?=some (.cells #[iV P,iV (zM P T k),.slice la k lc] 31 (0,0))/\wr.ownsRow (x1.heap.size+1) 37 10 (.slice la k lc) k (Zh ((List.range k).map fun s=>opQ L t P T D s 0))
theorem EmI.lt {x1 wr:World} {k:Nat} (h:EmI L t P T D x1 k wr):x1.heap.size<wr.heap.size:=by
 obtain⟨la,lc,h1,h2⟩:=h.blk
 exact (Array.getElem?_eq_some_iff.1 h1).1
theorem EmI.start (L:Lp) (t:Tg) (P:Int) (T D:List Int) (x1:World):EmI L t P T D x1 0 (x1.alloc (.cells #[iV P,iV 0,.slice none 0 0] 31)) :=
 ⟨below_alloc1 _ _,none,0,zn _ _ _,rfl,.inl ⟨rfl,rfl⟩⟩
theorem EmI.row {x1 wr:World} {k:Nat} (h:EmI L t P T D x1 k wr) (hk:0<k):∃g lc,wr.heap[x1.heap.size]?=some (.cells #[iV P,iV (zM P T k),.slice (some ⟨g,0,none⟩) k lc] 31 (0,0))/\x1.heap.size<g/\k<=lc/\lc<=maxLen/\UP wr g k (Z7 L t P T D 0 0):=by
 obtain⟨la,lc,h1,hl,h2⟩:=h.blk
 rcases h2 with ⟨_,hn⟩ | ⟨g,cap,cur,hv,hg,hb,hn,hm,hc,ht⟩
 ·omega
 ·injection hv with hv1 hv2 hv3
  subst hv1;subst hv3
  refine⟨g,lc,h1,by omega,hn,hm,cur,hb,by omega,fun c hc2=>?_⟩
  have hlen:((List.range k).map fun s=>opQ L t P T D s 0).length=k:=by simp
  have h3:(cur.toList.take (k*10))[c]?=(Zh ((List.range k).map fun s=>opQ L t P T D s 0))[c]?:=by rw [ht]
  rw [List.getElem?_take,if_pos hc2] at h3
  have e:c=c / 10*10+c % 10:=by omega
  have h4:=zix ((List.range k).map fun s=>opQ L t P T D s 0) (c / 10) (c % 10) (by rw [hlen];omega) (by omega)
  rw [<-e] at h4
  have h5:zq ((List.range k).map fun s=>opQ L t P T D s 0) (c / 10)=opQ L t P T D (c / 10) 0:=by
   unfold zq
   rw [List.getD,List.getElem?_map,List.getElem?_range (by omega)]
   rfl
  rw [h5] at h4
  have h6:cur.toList[c]?=cur[c]?:=by simp
  rw [<-h6,h3,h4,zjl]
  have h7:c % 10<(yX (opQ L t P T D (c / 10) 0)).size:=Nat.mod_lt _ (by decide)
  show _=some (((yX (opQ L t P T D (c / 10) 0))[c % 10]?).getD undef)
  rw [Array.getElem?_eq_getElem h7]
  rfl
theorem EmI.next {x1 wr y w1:World} {k:Nat} {la la':Option Addr} {lc lc':Nat} (h:EmI L t P T D x1 k wr) (ho:wr.ownsRow (x1.heap.size+1) 37 10 (.slice la k lc) k (Zh ((List.range k).map fun s=>opQ L t P T D s 0))) (hbx:Below x1.heap.size x1 y) (hy:y.heap[x1.heap.size]?=some (.cells #[iV P,iV (zM P T (k+1)),.slice la k lc] 31 (0,0)))
  (ho1:w1.ownsRow (x1.heap.size+1) 37 10 (.slice la' (k+1) lc') (k+1) (Zh ((List.range k).map fun s=>opQ L t P T D s 0)++(yX (opQ L t P T D k 0)).toList)) (hg:y.grownBy w1 (Value.ownBlock (.slice la k lc))) :
  EmI L t P T D x1 (k+1) (w1.setCell ⟨x1.heap.size,2,none⟩ (.slice la' (k+1) lc'))/\w1.heap[x1.heap.size]?=some (.cells #[iV P,iV (zM P T (k+1)),.slice la k lc] 31 (0,0)):=by
 have hge:=ye ho
 have hyz:x1.heap.size<y.heap.size:=(Array.getElem?_eq_some_iff.1 hy).1
 have hb1:w1.heap[x1.heap.size]?=some (.cells #[iV P,iV (zM P T (k+1)),.slice la k lc] 31 (0,0)):=by
  rw [hg.block _ hyz (fun e=>by have:=hge _ e.symm;omega)];exact hy
 refine⟨⟨(hbx.grown hg (Nat.le_of_lt hyz) fun q hq=>by have:=hge q hq;omega).setCell (Nat.le_refl _) _,la',lc',?_,?_⟩,hb1⟩
 ·simp [World.setCell,Array.getElem?_modify,hb1]
 ·have e:Zh ((List.range k).map fun s=>opQ L t P T D s 0)++(yX (opQ L t P T D k 0)).toList=Zh ((List.range (k+1)).map fun s=>opQ L t P T D s 0):=by
   rw [Ue,List.range_succ,List.map_append];rfl
  rw [e] at ho1
  obtain⟨hl,hc⟩:=ho1
  refine⟨hl,?_⟩
  rcases hc with hc | ⟨g,cap,cur,hv,hg',hk',r⟩
  ·exact .inl hc
  ·exact .inr ⟨g,cap,cur,hv,hg',by rw [Below.heap_setCell _ _ _ _ (show g≠x1.heap.size by omega)];exact hk',r⟩
theorem EmI.below {x1 wr y:World} {k:Nat} (h:EmI L t P T D x1 k wr) (hb:Below wr.heap.size wr y):EmI L t P T D x1 k y:=by
 have hlt:=h.lt
 obtain⟨la,lc,h1,h2⟩:=h.blk
 exact⟨h.bel.trans (hb.mono (Nat.le_of_lt hlt)),la,lc,(hb.block _ hlt).trans h1,zt h2 hb⟩
structure EmJ (L:Lp) (t:Tg) (P:Int) (T D:List Int) (x1:World) (g lc i j:Nat) (wr:World):Prop where
 bel:Below x1.heap.size x1 wr
 blk:wr.heap[x1.heap.size]?=some (.cells #[iV P,iV (zM P T L.body.length),.slice (some ⟨g,0,none⟩) L.body.length lc] 31 (0,0))
 row:UP wr g L.body.length (Z7 L t P T D i j)
 gt:x1.heap.size<g
theorem EmJ.lt {x1 wr:World} {g lc i j:Nat} (h:EmJ L t P T D x1 g lc i j wr):x1.heap.size<wr.heap.size:=(Array.getElem?_eq_some_iff.1 h.blk).1
theorem EmJ.below {x1 wr y:World} {g lc i j:Nat} (h:EmJ L t P T D x1 g lc i j wr) (hb:Below wr.heap.size wr y):EmJ L t P T D x1 g lc i j y :=
 ⟨h.bel.trans (hb.mono (Nat.le_of_lt h.lt)),(hb.block _ h.lt).trans h.blk,zg.below h.row hb (zg.lt h.row),h.gt⟩
theorem EmJ.next {x1 wr:World} {g lc i:Nat} (h:EmJ L t P T D x1 g lc i (yr (z6 L.body i)).length wr):EmJ L t P T D x1 g lc (i+1) 0 wr :=
 ⟨h.bel,h.blk,by have:=h.row;rw [zjk] at this;exact this,h.gt⟩
theorem EmJ.setA {x1 wr:World} {g lc i:Nat} (h:EmJ L t P T D x1 g lc i 0 wr) (hi:i<L.body.length):EmJ L t P T D x1 g lc i 1 (wr.setCell ⟨g,i*10+4,none⟩ (iV (xV L t P T D i 0))):=by
 have hg:=h.gt
 refine⟨h.bel.setCell (by show x1.heap.size<=g;omega) _,by rw [Below.heap_setCell _ _ _ _ (show x1.heap.size≠g by omega)];exact h.blk,?_,hg⟩
 rw [zqq]
 exact h.row.setA hi _
theorem EmJ.setB {x1 wr:World} {g lc i j:Nat} (h:EmJ L t P T D x1 g lc i j wr) (hi:i<L.body.length) (hj:0<j) (hj2:j<2):EmJ L t P T D x1 g lc i (j+1) (wr.setCell ⟨g,i*10+5,none⟩ (iV (xV L t P T D i j))):=by
 have hg:=h.gt
 refine⟨h.bel.setCell (by show x1.heap.size<=g;omega) _,by rw [Below.heap_setCell _ _ _ _ (show x1.heap.size≠g by omega)];exact h.blk,?_,hg⟩
 rw [zqr i j hj hj2]
 exact h.row.setB hi _
theorem EmJ.ops {x1 wr:World} {g lc:Nat} (h:EmJ L t P T D x1 g lc L.body.length 0 wr) (h1:L.body.length<=lc) (h2:lc<=maxLen):Xz wr (.slice (some ⟨g,0,none⟩) L.body.length lc) (zy L t P T D).ops:=by
 refine⟨some ⟨g,0,none⟩,lc,by rw [Zz],by rw [Zz];exact h1,h2,fun _=>⟨g,0,rfl,zg.lt h.row,fun i hi j hj=>?_⟩⟩
 rw [Zz] at hi
 rw [XE hi,Nat.zero_add,h.row.cells hi j hj]
 unfold Z7
 rw [if_pos hi]
end Go.Proofs.YtjoapiafpahihabGreat
namespace Go.Proofs.YtjoapiafpahihabGreat
open Go.RowKit Go.Joins
set_option linter.unusedVariables false
set_option linter.unusedSimpArgs false
set_option maxRecDepth 8192
theorem zgp {x:World} {g:Nat} {e:TypeId} {a b d a' b' d':Value} (h:x.heap[g]?=some (.cells #[a,b,d] e (0,0))):(((x.setCell ⟨g,0,none⟩ a').setCell ⟨g,1,none⟩ b').setCell ⟨g,2,none⟩ d').heap[g]?=some (.cells #[a',b',d'] e (0,0)):=by
 simp [World.setCell,Array.getElem?_modify,h]
theorem V5 {x:World} {g i:Nat} {e:TypeId} {cs:Array Value} {v:Value} (h:x.heap[g]?=some (.cells cs e (0,0))):(x.setCell ⟨g,i,none⟩ v).heap[g]?=some (.cells (cs.setIfInBounds i v) e (0,0)):=by
 simp [World.setCell,Array.getElem?_modify,h]
theorem zc4 {y:World} {g n c:Nat} {l:List Kop} {b:Nat} (h:Xz y (.slice (some ⟨g,0,none⟩) n c) l) (hb:b≠g) (i:Nat) (v:Value):Xz (y.setCell ⟨b,i,none⟩ v) (.slice (some ⟨g,0,none⟩) n c) l:=by
 obtain⟨a,cap,e,h1,h2,h4⟩:=h
 refine⟨a,cap,e,h1,h2,fun hp=>?_⟩
 obtain⟨b',off,e2,h5,h6⟩:=h4 hp
 injection e with e3
 rw [e2] at e3
 injection e3 with e3
 injection e3 with e3 e4
 refine⟨b',off,e2,by simpa using h5,fun i hi j hj=>?_⟩
 rw [xB (Below.heap_setCell _ _ _ _ (show b'≠b by omega))]
 exact h6 i hi j hj
theorem Tryz.iop37:(Tryz.prog.info? 37).map (fun i=>(i.zero,i.size,i.bytes))=some (some (.agg #[iV 0,iV 0,iV 0,iV 0,iV 0,iV 0,iV 0,iV 0,iV 0,iV 0]),10,80):=by kernel_rfl
theorem zgo (w:World) (cs:Array Value) (e:TypeId):∀(j:Nat) (u:Value),cs.toList[j]?=some u->(w.alloc (.cells cs e)).cell? ((⟨w.heap.size,0,none⟩:Addr).add j)=some u:=by
 intro j u hj
 have ha:(⟨w.heap.size,0,none⟩:Addr).add j=⟨w.heap.size,j,none⟩:=by simp [Addr.add];omega
 rw [ha,cell_of_block (zn w cs e)]
 simpa using hj
end Go.Proofs.YtjoapiafpahihabGreat
