import Derived.Test.YtjoapiafpahihabGreatBase
import Derived.Test.YtjoapiafpahihabGreatNums
import Derived.Test.YtjoapiafpahihabGreatRef3A
import Derived.Deep.QuietTactic
import Derived.BigQuiet
import Derived.Deep.RegionHeld3
import Derived.BigRegion
import Derived.Test.YtjoapiafpahihabGreatRounds
import Derived.Test.YtjoapiafpahihabGreatKernS
namespace Go.Proofs.YtjoapiafpahihabGreat
open Go.RowKit Go.Joins
set_option linter.unusedVariables false
structure MR (w:World) (base:Nat) (mv:Value) (n:Nat) (len:Nat->Nat) (m:Nat->Nat->Int) (gm cm:Nat) (G C:Nat->Nat):Prop where
 shape:∃am,mv=.slice am n cm/\n<=cm/\cm<=maxLen
 out:n=0\/(mv=.slice (some ⟨gm,0,none⟩) n cm/\zg w gm 63 n (znf G C len)/\base<=gm)
 inn:Xx w base G C n len m
theorem MR.keep {w w':World} {base:Nat} {mv:Value} {n:Nat} {len:Nat->Nat} {m:Nat->Nat->Int} {gm cm:Nat} {G C:Nat->Nat} (h:MR w base mv n len m gm cm G C) (h1:0<n->w'.heap[gm]?=w.heap[gm]?) (h2:∀i,i<n->w'.heap[G i]?=w.heap[G i]?):MR w' base mv n len m gm cm G C where
 shape:=h.shape
 out:=by
  rcases h.out with e | ⟨e1,e2,e3⟩
  ·exact .inl e
  ·by_cases hn:n=0
   ·exact .inl hn
   ·exact .inr ⟨e1,e2.of_block (h1 (by omega)),e3⟩
 inn:=h.inn.keep h2
theorem MR.lt {w:World} {base:Nat} {mv:Value} {n:Nat} {len:Nat->Nat} {m:Nat->Nat->Int} {gm cm:Nat} {G C:Nat->Nat} (h:MR w base mv n len m gm cm G C) (hn:0<n):gm<w.heap.size:=by
 rcases h.out with e | ⟨e1,e2,e3⟩
 ·omega
 ·exact e2.lt
theorem MR.below {w w':World} {base:Nat} {mv:Value} {n:Nat} {len:Nat->Nat} {m:Nat->Nat->Int} {gm cm:Nat} {G C:Nat->Nat} (h:MR w base mv n len m gm cm G C) (hb:Below w.heap.size w w'):MR w' base mv n len m gm cm G C :=
 h.keep (fun hn=>hb.block _ (h.lt hn)) (fun i hi=>hb.block _ (h.inn.1 i hi).2.2.2.lt)
theorem MR.set {w:World} {base:Nat} {mv:Value} {n:Nat} {len:Nat->Nat} {m:Nat->Nat->Int} {gm cm:Nat} {G C:Nat->Nat} (h:MR w base mv n len m gm cm G C) (i j:Nat) (v:Int) (hi:i<n) (hj:j<len i) :
  MR (w.setCell ⟨G i,j,none⟩ (iV v)) base mv n len (Yj m i j v) gm cm G C where
 shape:=h.shape
 out:=by
  rcases h.out with e | ⟨e1,e2,e3⟩
  ·exact .inl e
  ·exact .inr ⟨e1,e2.setOther (by show gm≠G i;exact e2.apart (h.inn.1 i hi).2.2.2 (by decide)) _,e3⟩
 inn:=by
  refine⟨fun a ha=>⟨(h.inn.1 a ha).1,(h.inn.1 a ha).2.1,(h.inn.1 a ha).2.2.1,?_⟩,h.inn.2⟩
  by_cases e:a=i
  ·subst e
   refine ((h.inn.1 a ha).2.2.2.set j _ hj).congr fun q hq=>?_
   show (if q=j then iV v else iV (m a q))=iV (Yj m a j v a q)
   rw [zph]
   split <;> rfl
  ·refine ((h.inn.1 a ha).2.2.2.setOther (by show G a≠G i;exact h.inn.2 a i ha hi e) _).congr fun q hq=>?_
   show iV (m a q)=iV (Yj m i j v a q)
   rw [zn2 _ _ _ _ _ _ e]
theorem MR.mono {w:World} {base base':Nat} {mv:Value} {n:Nat} {len:Nat->Nat} {m:Nat->Nat->Int} {gm cm:Nat} {G C:Nat->Nat} (h:MR w base mv n len m gm cm G C) (hb:base'<=base):MR w base' mv n len m gm cm G C where
 shape:=h.shape
 out:=by
  rcases h.out with e | ⟨e1,e2,e3⟩
  ·exact .inl e
  ·exact .inr ⟨e1,e2,by omega⟩
 inn:=⟨fun i hi=>⟨by have:=(h.inn.1 i hi).1;omega,(h.inn.1 i hi).2.1,(h.inn.1 i hi).2.2.1,(h.inn.1 i hi).2.2.2⟩,h.inn.2⟩
theorem MR.rows {w:World} {base:Nat} {mv:Value} {n:Nat} {len:Nat->Nat} {m:Nat->Nat->Int} {gm cm:Nat} {G C:Nat->Nat} (h:MR w base mv n len m gm cm G C) (hs:∀i j,I64 (m i j)) :
  YY w mv ((List.range n).map fun i=>(List.range (len i)).map fun j=>m i j):=by
 have hl:((List.range n).map fun i=>(List.range (len i)).map fun j=>m i j).length=n:=by simp
 obtain⟨am,hv,hc1,hc2⟩:=h.shape
 refine⟨am,cm,by rw [hl];exact hv,by rw [hl];exact hc1,hc2,fun hp=>?_⟩
 rw [hl] at hp ⊢
 rcases h.out with e | ⟨e1,e4,e5⟩
 ·omega
 rw [hv] at e1
 injection e1 with f1 f2 f3
 refine⟨gm,0,f1,e4.lt,fun i hi=>⟨znf G C len i,by rw [Nat.zero_add];exact e4.cell hi,?_⟩⟩
 obtain⟨g1,g2,g3,g4⟩:=h.inn.1 i hi
 have hr:VC ((List.range n).map fun i=>(List.range (len i)).map fun j=>m i j) i=(List.range (len i)).map fun j=>m i j:=by unfold VC;simp [List.getD,hi]
 have hnth:∀j,j<len i->nth ((List.range (len i)).map fun j=>m i j) j=m i j:=fun j hj=>by unfold nth;simp [List.getD,hj]
 have hl2:((List.range (len i)).map fun j=>m i j).length=len i:=by simp
 rw [hr]
 refine⟨some ⟨G i,0,none⟩,C i,by rw [hl2];rfl,by rw [hl2];exact g2,g3,fun j hj=>?_,fun _=>⟨G i,0,rfl,g4.lt,fun j hj=>?_⟩⟩
 ·rw [hl2] at hj;rw [hnth j hj];exact hs i j
 ·rw [hl2] at hj;rw [Nat.zero_add,hnth j hj];exact g4.cell hj
structure zi7 (w0:World) (R gr rc:Nat) (mv:Value) (n:Nat) (len:Nat->Nat) (gm cm:Nat) (G C:Nat->Nat) (dv lv:Value) (logs:List Int) (s:Kst) (wr:World):Prop where
 bel:Below w0.heap.size w0 wr
 regs:zg wr gr 2 R (fun i=>iV (s.f i))
 rb:w0.heap.size<=gr/\R<=rc/\rc<=maxLen
 mem:MR wr w0.heap.size mv n len s.m gm cm G C
 ma:∀i,i<n->G i≠gr
 due:wr.ownsRow w0.heap.size 136 3 dv s.due.length (Xd s.due)
 lgs:wr.ownsRow w0.heap.size 3 1 lv logs.length (logs.map (Value.int .i64))
theorem zi7.below {w0:World} {R gr rc:Nat} {mv:Value} {n:Nat} {len:Nat->Nat} {gm cm:Nat} {G C:Nat->Nat} {dv lv:Value} {logs:List Int} {s:Kst} {wr w':World} (h:zi7 w0 R gr rc mv n len gm cm G C dv lv logs s wr) (hb:Below wr.heap.size wr w'):zi7 w0 R gr rc mv n len gm cm G C dv lv logs s w' where
 bel:=h.bel.trans (hb.mono h.bel.size)
 regs:=h.regs.below hb h.regs.lt
 rb:=h.rb
 mem:=h.mem.below hb
 ma:=h.ma
 due:=zt h.due hb
 lgs:=zt h.lgs hb
theorem zi7.grown {w0:World} {R gr rc:Nat} {mv:Value} {n:Nat} {len:Nat->Nat} {gm cm:Nat} {G C:Nat->Nat} {dv lv:Value} {logs:List Int} {s:Kst} {wr w':World} (h:zi7 w0 R gr rc mv n len gm cm G C dv lv logs s wr) {b k:Nat} {v:Value} {xs:List Value}
  (ho:wr.ownsRow b 136 3 v k xs) (hb:w0.heap.size<=b) (hg:wr.grownBy w' v.ownBlock) (hd:∀g,dv.ownBlock=some g->some g≠v.ownBlock):zi7 w0 R gr rc mv n len gm cm G C dv lv logs s w' where
 bel:=h.bel.grown hg h.bel.size (fun q hq=>by have:=ye ho q hq;omega)
 regs:=h.regs.grown hg (ZE ho h.regs (by decide))
 rb:=h.rb
 mem := h.mem.keep (fun hn=>hg.block _ (h.mem.lt hn) (by
     rcases h.mem.out with e | ⟨e1,e2,e3⟩
     ·omega
     ·exact ZE ho e2 (by decide))) (fun i hi=>hg.block _ (h.mem.inn.1 i hi).2.2.2.lt (ZE ho (h.mem.inn.1 i hi).2.2.2 (by decide)))
 ma:=h.ma
 due:=Y3 h.due fun g hk=>hg.block _ (yZ h.due g hk) (hd g hk)
 lgs:=Y3 h.lgs fun g hk=>hg.block _ (yZ h.lgs g hk) (zmw h.lgs ho (by decide) g hk)
end Go.Proofs.YtjoapiafpahihabGreat
