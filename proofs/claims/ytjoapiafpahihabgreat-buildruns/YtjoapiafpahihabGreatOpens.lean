import Derived.ProofKit
import Derived.Deep.Slices
import Derived.Test.YtjoapiafpahihabGreatRef6A
import Derived.Test.YtjoapiafpahihabGreatKernS
namespace Go.Proofs.YtjoapiafpahihabGreat
open Go.Proofs.Tryz
open Go.ChangeShapes Go.WideShapes Go.ChangeAt Go.RowKit Go.Joins Go.Deep
set_option linter.unusedVariables false
set_option maxRecDepth 8192
variable {fuel o b0:Nat} {v:Value} {cs:List Value} {r:Reach} {p:List MemPlace}
section
theorem Tryz.c3:prog.cellsOf 3=1:=by kernel_rfl
theorem Tryz.c2:prog.cellsOf 2=1:=by kernel_rfl
theorem Tryz.c63:prog.cellsOf 63=1:=by kernel_rfl
theorem Tryz.c39:prog.cellsOf 39=2:=by kernel_rfl
theorem Tryz.c41:prog.cellsOf 41=9:=by kernel_rfl
theorem Tryz.c25:prog.cellsOf 25=3:=by kernel_rfl
theorem Tryz.c34:prog.cellsOf 34=2:=by kernel_rfl
theorem Uy {w:World} {a:Addr} {u:Value} (h:w.cell? a=some u):a.block<w.heap.size:=by
 unfold World.cell? at h
 cases e:w.heap[a.block]? with
 | none=>rw [e] at h;cases h
 | some x=>exact (Array.getElem?_eq_some_iff.1 e).1
theorem zgv (b off i:Nat):((ad b off):Addr).add i=(ad b (off+i)):=by simp [Addr.add]
theorem zjo (zs:List Int) (n i:Nat) (h:i<n):nth (zs.take n) i=zs.getD i 0:=by
 unfold nth;simp [List.getD,h]
section
variable {H:Type} {enc:TypeId × Value->H} {W:World} {held:Bool}
theorem zaz {P:Program} {t e:TypeId} {x:DataW H × List MemPlace} (ht:P.underlying t=some (.slice e)) (he:P.underlying e=some (.int .i64)) (hc:P.cellsOf e=1)
  (h:DataW.trod enc P W 0 (fun _=>true) held fuel t [v]=some x):∃zs,zK W v zs:=by
 rcases open_ints ht he hc h with ⟨hcs,_⟩ | ⟨a,l,c,zs,hcs,_,hl,hm,hz,_,gR,hwz⟩
 ·have hv:v=.slice none 0 0:=by simpa using hcs
  subst hv
  exact⟨[],none,0,rfl,Nat.le_refl _,Nat.zero_le _,fun i hi=>absurd hi (Nat.not_lt_zero _),fun hp=>absurd hp (Nat.not_lt_zero _)⟩
 ·have hv:v=.slice (some a) l c:=by simpa using hcs
  subst hv
  simp only [if_true] at hz
  have hlen:(zs.take l).length=l:=by rw [List.length_take];omega
  refine⟨zs.take l,some a,c,by rw [hlen],by rw [hlen];exact hl,hm,fun i hi=>?_,fun hp=>?_⟩
  ·rw [hlen] at hi
   rw [zjo zs l i hi]
   refine bounds_i64 (hwz _ ?_)
   rw [List.getD,List.getElem?_eq_getElem (by omega)]
   exact List.getElem_mem _
  ·rw [hlen] at hp ⊢
   obtain⟨b,off,spot⟩:=a
   have h0:=gR 0 (by omega)
   have hs:spot=none:=by simpa [Addr.add] using World.cell?_spot h0
   subst hs
   refine⟨b,off,rfl,Uy h0,fun i hi=>?_⟩
   rw [zjo zs l i hi]
   rw [<-zgv]
   exact gR i (by omega)
theorem VN (h:(cs.drop o).take 1=[v]):cs[o]?=some v:=by
 have h1:((cs.drop o).take 1)[0]?=some v:=by rw [h];rfl
 simpa [List.getElem?_take,List.getElem?_drop] using h1
theorem znf {x:DataW H × List MemPlace} (h:DataW.trod enc prog W 0 (fun _=>true) held fuel 41 cs=some x) :
  ∃s:St,(∀j,j<9->cs[j]?=(zP s)[j]?)/\-9223372036854775808<=s.nn/\s.nn<=9223372036854775807:=by
 obtain⟨xs,n,-,-,hl,hxl,hf⟩:=DataW.trod_struct underlying41 h
 have gi:∀(i o:Nat) (f:Field) (t:TypeId),prog.underlying t=some (.int .i64)->prog.cellsOf t=1->f.type=t->f.offset=o->i<xs.length->DataW.trod enc prog W 0 (fun _=>true) held n f.type ((cs.drop f.offset).take (prog.cellsOf f.type))=xs[i]?->∃z,cs[o]?=sI z/\-9223372036854775808<=z/\z<=9223372036854775807:=by
  intro i o f t hu hc e1 e2 hi hx
  subst e1;subst e2
  rw [hc,List.getElem?_eq_getElem hi] at hx
  obtain⟨z,hz,-,hw⟩:=DataW.trod_int hu hx
  exact⟨z,VN hz,bounds_i64 hw⟩
 have gr:∀(i o:Nat) (f:Field),f.type=39->f.offset=o->i<xs.length->DataW.trod enc prog W 0 (fun _=>true) held n f.type ((cs.drop f.offset).take (prog.cellsOf f.type))=xs[i]?->∃y z,cs[o]?=sI y/\cs[o+1]?=sI z:=by
  intro i o f e1 e2 hi hx
  rw [e1,e2,Tryz.c39,List.getElem?_eq_getElem hi] at hx
  obtain⟨ys,m,-,-,-,hyl,hg⟩:=DataW.trod_struct underlying39 hx
  have g0:DataW.trod enc prog W 0 (fun _=>true) held m 3 ((((cs.drop o).take 2).drop 0).take (prog.cellsOf 3))=ys[0]?:=hg 0 _ rfl
  have g1:DataW.trod enc prog W 0 (fun _=>true) held m 3 ((((cs.drop o).take 2).drop 1).take (prog.cellsOf 3))=ys[1]?:=hg 1 _ rfl
  have hy2:ys.length=2:=hyl
  rw [Tryz.c3,List.getElem?_eq_getElem (by omega)] at g0 g1
  obtain⟨y,hy,-⟩:=DataW.trod_int underlying3 g0
  obtain⟨z,hz,-⟩:=DataW.trod_int underlying3 g1
  refine⟨y,z,?_,?_⟩
  ·have:=VN hy
   simpa [List.getElem?_take,List.getElem?_drop] using this
  ·have:=VN hz
   simpa [List.getElem?_take,List.getElem?_drop] using this
 have hx7:xs.length=7:=hxl
 obtain⟨o,ho,-⟩:=gi 0 0 _ 3 underlying3 Tryz.c3 rfl rfl (by omega) (hf 0 _ rfl)
 obtain⟨xa,xb,hxa,hxb⟩:=gr 1 1 _ rfl rfl (by omega) (hf 1 _ rfl)
 obtain⟨ya,yb,hya,hyb⟩:=gr 2 3 _ rfl rfl (by omega) (hf 2 _ rfl)
 obtain⟨ar,har,-⟩:=gi 3 5 _ 3 underlying3 Tryz.c3 rfl rfl (by omega) (hf 3 _ rfl)
 obtain⟨sp,hsp,-⟩:=gi 4 6 _ 3 underlying3 Tryz.c3 rfl rfl (by omega) (hf 4 _ rfl)
 obtain⟨pl,hpl,-⟩:=gi 5 7 _ 3 underlying3 Tryz.c3 rfl rfl (by omega) (hf 5 _ rfl)
 obtain⟨nn,hnn,hin⟩:=gi 6 8 _ 2 underlying2 Tryz.c2 rfl rfl (by omega) (hf 6 _ rfl)
 refine⟨⟨o,xa,xb,ya,yb,ar,sp,pl,nn⟩,fun j hj=>?_,hin⟩
 have hj9:j=0\/j=1\/j=2\/j=3\/j=4\/j=5\/j=6\/j=7\/j=8:=by omega
 rcases hj9 with rfl | rfl | rfl | rfl | rfl | rfl | rfl | rfl | rfl
 ·exact ho
 ·exact hxa
 ·exact hxb
 ·exact hya
 ·exact hyb
 ·exact har
 ·exact hsp
 ·exact hpl
 ·exact hnn
theorem zkd (n:Nat) (f:Nat->St) (i:Nat) (h:i<n):zc ((List.range n).map f) i=f i:=by
 unfold zc;simp [List.getD,h]
theorem zs5 (n:Nat) (f:Nat->List Int) (i:Nat) (h:i<n):zv ((List.range n).map f) i=f i:=by
 unfold zv;simp [List.getD,h]
theorem zok {α:Type} (d:α) {n:Nat} {p:Nat->α->Prop} (h:∀i,i<n->∃x,p i x):∃f:Nat->α,∀i,i<n->p i (f i):=by
 refine⟨fun i=>if hi:i<n then Classical.choose (h i hi) else d,fun i hi=>?_⟩
 simp only [dif_pos hi]
 exact Classical.choose_spec (h i hi)
theorem zvb (l:List St) (k:Nat) (h:l.length<=k):-9223372036854775808<=(zc l k).nn/\(zc l k).nn<=9223372036854775807:=by
 have e:zc l k=St.nil:=by
  show (l[k]?).getD St.nil=St.nil
  rw [List.getElem?_eq_none h];rfl
 rw [e]
 show -9223372036854775808<=(0:Int)/\(0:Int)<=9223372036854775807
 omega
theorem zng {x:DataW H × List MemPlace} (h:DataW.trod enc prog W 0 (fun _=>true) held fuel 23 [v]=some x):∃b,zev W v b/\∀k,-9223372036854775808<=(zc b k).nn/\(zc b k).nn<=9223372036854775807:=by
 rcases open_slice underlying23 h with ⟨hcs,_⟩ | ⟨a,l,c,m,n,D,Pl,hcs,_,hl,hm,hmm,_,hx⟩
 ·have hv:v=.slice none 0 0:=by simpa using hcs
  subst hv
  exact⟨[],⟨none,0,rfl,Nat.le_refl _,Nat.zero_le _,fun hp=>absurd hp (Nat.not_lt_zero _)⟩,fun k=>zvb _ _ (Nat.zero_le k)⟩
 ·have hv:v=.slice (some a) l c:=by simpa using hcs
  subst hv
  simp only [if_true] at hmm
  rw [hmm] at hx
  clear hmm
  rw [Tryz.c41] at hx
  obtain⟨f,hf⟩:=zok (n:=l) (p:=fun i (s:St)=>(∀j,j<9->W.cell? ((a.add (i*9)).add j)=(zP s)[j]?)/\-9223372036854775808<=s.nn/\s.nn<=9223372036854775807) St.nil (fun i hi=>by
   obtain⟨cs,h1,h2⟩:=hx i (by omega)
   obtain⟨s,hs⟩:=znf h2
   exact⟨s,fun j hj=>by rw [(World.cells?_some h1).2.2 j hj];exact hs.1 j hj,hs.2⟩)
  refine⟨(List.range l).map f,⟨some a,c,by simp,by simpa using hl,hm,fun hp=>?_⟩,fun k=>?_⟩
  rotate_left
  ·by_cases hk:k<l
   ·rw [zkd l f k hk];exact (hf k hk).2
   ·exact zvb _ _ (by simpa using hk)
  have hl2:((List.range l).map f).length=l:=by simp
  rw [hl2] at hp ⊢
  obtain⟨b,off,spot⟩:=a
  have h0:W.cell? ((Addr.add ⟨b,off,spot⟩ (0*9)).add 0)=some (iV (f 0).o):=(hf 0 hp).1 0 (by omega)
  have hs:spot=none:=by simpa [Addr.add] using World.cell?_spot h0
  subst hs
  refine⟨b,off,rfl,Uy h0,fun i hi j hj=>?_⟩
  rw [zkd l f i hi]
  rw [<-zgv,<-zgv]
  exact (hf i hi).1 j hj
theorem zg5 {x:DataW H × List MemPlace} (h:DataW.trod enc prog W 0 (fun _=>true) held fuel 32 [v]=some x):∃rs,yo W v rs:=by
 rcases open_slice1 underlying32 Tryz.c63 h with ⟨hcs,_⟩ | ⟨a,l,c,m,n,V,D,Pl,hcs,_,hl,hm,hmm,_,hx⟩
 ·have hv:v=.slice none 0 0:=by simpa using hcs
  subst hv
  exact⟨[],none,0,rfl,Nat.le_refl _,Nat.zero_le _,fun hp=>absurd hp (Nat.not_lt_zero _)⟩
 ·have hv:v=.slice (some a) l c:=by simpa using hcs
  subst hv
  simp only [if_true] at hmm
  rw [hmm] at hx
  clear hmm
  obtain⟨f,hf⟩:=zok (n:=l) (p:=fun i (r:List Int)=>zK W (V i) r) [] (fun i hi=>zaz underlying63 underlying2 Tryz.c2 (hx i (by omega)).2)
  refine⟨(List.range l).map f,some a,c,by simp,by simpa using hl,hm,fun hp=>?_⟩
  have hl2:((List.range l).map f).length=l:=by simp
  rw [hl2] at hp ⊢
  obtain⟨b,off,spot⟩:=a
  have h0:=(hx 0 (by omega)).1
  have hs:spot=none:=by simpa [Addr.add] using World.cell?_spot h0
  subst hs
  refine⟨b,off,rfl,Uy h0,fun i hi=>⟨V i,by rw [<-zgv];exact (hx i (by omega)).1,?_⟩⟩
  rw [zs5 l f i hi]
  exact hf i hi
theorem loop_open_in {d:DataW H} (hv:Value.okWide prog W r b0 25 v) (h:DataW.Trod enc prog W 0 (fun _=>true) held 25 v d p):∃L,zE W v L/\∀k,-9223372036854775808<=(zc L.b k).nn/\(zc L.b k).nn<=9223372036854775807:=by
 obtain⟨c0,c1,c2,y0,y1,y2,m,rfl,rfl,rfl,h0,h1,h2⟩:=open_agg3 underlying25 (by kernel_rfl) Tryz.c25 hv h
 obtain⟨logs,g0⟩:=zaz underlying22 underlying3 Tryz.c3 h0
 obtain⟨body,g1,g3⟩:=zng h1
 obtain⟨outs,g2⟩:=zaz underlying22 underlying3 Tryz.c3 h2
 exact⟨⟨logs,body,outs⟩,⟨c0,c1,c2,rfl,g0,g1,g2⟩,g3⟩
theorem state_open {d:DataW H} (hv:Value.okWide prog W r b0 34 v) (h:DataW.Trod enc prog W 0 (fun _=>true) held 34 v d p):∃B M,Ys W v B M:=by
 obtain⟨c0,c1,y0,y1,m,rfl,rfl,rfl,h0,h1⟩:=open_agg2 underlying34 (by kernel_rfl) Tryz.c34 hv h
 obtain⟨B,g0⟩:=zg5 h0
 obtain⟨M,g1⟩:=zg5 h1
 exact⟨B,M,c0,c1,rfl,g0,g1⟩
end
end
section
theorem Tryz.c26:prog.cellsOf 26=3:=by kernel_rfl
theorem Tryz.c28:prog.cellsOf 28=7:=by kernel_rfl
section
variable {H:Type} {enc:TypeId × Value->H} {W:World} {held:Bool}
theorem zdz {x:DataW H × List MemPlace} (h:DataW.trod enc prog W 0 (fun _=>true) held fuel 26 ((cs.drop o).take 3)=some x) :
  ∃a b c,cs[o]?=sI a/\cs[o+1]?=sI b/\cs[o+2]?=sI c:=by
 obtain⟨xs,m,-,-,-,hl,hf⟩:=DataW.trod_array underlying26 h
 have g:∀i,i<3->∃z,cs[o+i]?=sI z:=fun i hi=>by
  have hx:=hf i hi
  rw [Tryz.c3,List.getElem?_eq_getElem (by omega)] at hx
  obtain⟨z,hz,-⟩:=DataW.trod_int underlying3 hx
  refine⟨z,?_⟩
  have h1:=VN hz
  rw [Nat.mul_one] at h1
  rw [List.getElem?_take,if_pos hi,List.getElem?_drop] at h1
  exact h1
 obtain⟨a,ha⟩:=g 0 (by omega)
 obtain⟨b,hb⟩:=g 1 (by omega)
 obtain⟨c,hc⟩:=g 2 (by omega)
 exact⟨a,b,c,ha,hb,hc⟩
theorem zhv {x:DataW H × List MemPlace} (h:DataW.trod enc prog W 0 (fun _=>true) held fuel 28 cs=some x):∃t:Tg,cs=t.cells.toList:=by
 obtain⟨xs,n,-,-,hl,hxl,hf⟩:=DataW.trod_struct underlying28 h
 rw [Tryz.c28] at hl
 have hx3:xs.length=3:=hxl
 have g0:DataW.trod enc prog W 0 (fun _=>true) held n 26 ((cs.drop 0).take (prog.cellsOf 26))=xs[0]?:=hf 0 _ rfl
 have g1:DataW.trod enc prog W 0 (fun _=>true) held n 26 ((cs.drop 3).take (prog.cellsOf 26))=xs[1]?:=hf 1 _ rfl
 have g2:DataW.trod enc prog W 0 (fun _=>true) held n 3 ((cs.drop 6).take (prog.cellsOf 3))=xs[2]?:=hf 2 _ rfl
 rw [Tryz.c26,List.getElem?_eq_getElem (by omega)] at g0 g1
 rw [Tryz.c3,List.getElem?_eq_getElem (by omega)] at g2
 obtain⟨u0,u1,u2,a0,a1,a2⟩:=zdz g0
 obtain⟨w0,w1,w2,b0,b1,b2⟩:=zdz g1
 obtain⟨r,hr,-⟩:=DataW.trod_int underlying3 g2
 have hr:=VN hr
 refine⟨⟨u0,u1,u2,w0,w1,w2,r⟩,?_⟩
 refine List.ext_getElem? fun i=>?_
 by_cases hi:i<7
 ·obtain rfl | rfl | rfl | rfl | rfl | rfl | rfl:i=0\/i=1\/i=2\/i=3\/i=4\/i=5\/i=6:=by omega
  ·exact a0
  ·exact a1
  ·exact a2
  ·exact b0
  ·exact b1
  ·exact b2
  ·exact hr
 ·rw [List.getElem?_eq_none (by omega),List.getElem?_eq_none (by simp [Tg.cells];omega)]
theorem target_open {d:DataW H} (hv:Value.okWide prog W r b0 28 v) (h:DataW.Trod enc prog W 0 (fun _=>true) held 28 v d p):∃t:Tg,v=.agg t.cells:=by
 obtain⟨cs,rfl,hsz⟩:=okWide_struct underlying28 hv
 obtain⟨fuel,hf⟩:=h
 obtain⟨t,ht⟩:=zhv hf
 refine⟨t,?_⟩
 have e:cs.toList=t.cells.toList:=ht
 rw [Array.toList_inj.1 e]
end
end
end Go.Proofs.YtjoapiafpahihabGreat
