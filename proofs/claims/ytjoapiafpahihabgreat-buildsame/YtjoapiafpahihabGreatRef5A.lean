import Derived.Test.YtjoapiafpahihabGreatBase
import Derived.Test.YtjoapiafpahihabGreatNums
import Derived.Test.YtjoapiafpahihabGreatRef3A
import Derived.Deep.QuietTactic
import Derived.BigQuiet
import Derived.Deep.RegionHeld3
import Derived.BigRegion
import Derived.Test.YtjoapiafpahihabGreatRounds
import Derived.Test.YtjoapiafpahihabGreatKernS
namespace Go.Proofs.YtjoapiafpahihabGreat
open Go.RowKit Go.Joins
set_option linter.unusedVariables false
theorem Tryz.i3:(Tryz.prog.info? 3).map (fun i=>(i.zero,i.size,i.bytes))=some (some (iV 0),1,8):=by kernel_rfl
theorem zvj (M:List (List Int)) (k:Nat) (h:k<M.length):((zrp M).take k).map (Value.int .i64)++[iV (zs2 (VC M k).length:Int)]=((zrp M).take (k+1)).map (Value.int .i64):=by
 have hl:k<(zrp M).length:=by rw [zry];exact h
 rw [List.take_succ_eq_append_getElem hl,List.map_append]
 congr 1
 have:=zsk M k h
 simp [nth,List.getD,hl] at this
 simp [this]
theorem zx0 {g n:Nat} (h:2 ^ g≠n):(p2 g != (n:Int))=true:=by
 unfold p2
 simp only [bne_iff_ne,ne_eq]
 omega
theorem zx7 {g n:Nat} (h:2 ^ g=n):(p2 g != (n:Int))=false:=by
 unfold p2
 rw [h];simp
theorem zth {w:World} {base:Nat} {e:TypeId} {v:Value} {n:Nat} {xs:List Value} (h:w.ownsRow base e 1 v n xs):∃a cap,v=.slice a n cap/\n<=cap/\cap<=maxLen:=by
 obtain⟨hl,h⟩:=h
 rcases h with ⟨rfl,rfl⟩ | ⟨g,cap,cur,rfl,hg,hb,hn,hm,r⟩
 ·exact⟨none,0,rfl,Nat.le_refl _,Nat.zero_le _⟩
 ·exact⟨_,cap,rfl,hn,hm⟩
theorem zu2 {w:World} {base:Nat} {e:TypeId} {v:Value} {zs:List Int} (h:w.ownsRow base e 1 v zs.length (zs.map (Value.int .i64))) (hz:∀i,i<zs.length->-9223372036854775808<=nth zs i/\nth zs i<=9223372036854775807):yf w v zs:=by
 obtain⟨a,cap,hv,h1,h2⟩:=zth h
 refine⟨a,cap,hv,h1,h2,hz,fun hp=>?_⟩
 obtain⟨g,c,hv2,hg,h3,h4,hr⟩:=Zs h (.inr hp)
 rw [hv] at hv2
 injection hv2 with e1 e2 e3
 refine⟨g,0,e1,hr.lt,fun i hi=>?_⟩
 rw [Nat.zero_add,hr.cell hi,zad zs i hi]
set_option maxRecDepth 8192 in
set_option maxHeartbeats 2000000 in
theorem zwa (v:Value) (M:List (List Int)) (w:World) (h:YY w v M) (hbig:M.length*24<=140737488351232) :
  Calls Tryz.prog 82 #[v] w fun e w'=>∃lv,e=.returned (.tuple #[lv,.bool (zs3 M)])/\(zs3 M=true->yf w' lv (zrp M)/\w'.ownsRow w.heap.size 3 1 lv (zrp M).length ((zrp M).map (Value.int .i64)))/\(zs3 M=false->lv=.slice none 0 0)/\Below w.heap.size w w':=by
 obtain⟨ma,mcap,rfl,ml,mm,mc⟩:=h
 unfold maxLen at mm
 obtain⟨i0,hi,hz0,hz1,hz2⟩:=info_parts Tryz.i3
 have HMC:=z5 mc
 clear mc
 go_enter Tryz.func82,Tryz.ntmps82
 go_wp2_with fail
 go_loopw [4,5] (fun l i wr=>∃k:Nat,k<=M.length/\i=iV k/\zh (fun i=>zuo (VC M i)) k=true/\Below w.heap.size w wr/\∃la lc,l=.slice la k lc/\wr.ownsRow w.heap.size 3 1 (.slice la k lc) k (((zrp M).take k).map (Value.int .i64))) (fun _ i _=>M.length - (intOf i).toNat)
 case atStart=>exact⟨0,Nat.zero_le _,rfl,rfl,Below.refl _ _,none,0,rfl,World.ownsRow_nil _ _ _ _⟩
 case round =>
  obtain⟨k,hk,rfl,hall,hbel,la,lc,rfl,hown⟩:=hrel
  have HA:=z5 hall
  have HB:=z5 hbel
  have HO:=z5 hown
  have hsz:=hbel.size
  clear hall hown
  by_cases hlt:k<M.length
  ·have hki:(k:Int)<(M.length:Int):=by omega
   obtain⟨b,off,rfl,hb,hrow⟩:=HMC.out (by omega)
   obtain⟨u,hu,⟨ra,rc,rfl,rl,rm,rr,rcell⟩⟩:=hrow k hlt
   rw [<-zc hbel _ _ hb] at hu
   have hbz:b<wr.heap.size:=by omega
   clear rr rcell hrow hbel
   rename World=>wo
   go_wp2_with fail
   go_loopw [6] (fun i wq=>∃g n:Nat,g<=6/\i=iV g/\(∀j,j<g->2 ^ j≠(VC M k).length)/\wq=wo.drewN n) (fun i _=>6 - (intOf i).toNat)
   case atStart=>exact⟨0,0,by omega,rfl,fun j hj=>absurd hj (Nat.not_lt_zero _),rfl⟩
   case round =>
    obtain⟨g,n,hg,rfl,hno,rfl⟩:=hrel
    have HNO:=z5 hno
    clear hno
    by_cases hg6:g=6
    ·have hgi:¬(g:Int)<=5:=by omega
     have hg5:(5:Int)<(g:Int):=by omega
     have HL:Hid (zs3 M=false):=by
      show zs3 M=false
      refine zw hlt ?_
      show decide (zs2 _<6)=false
      rw [zus (fun j hj=>HNO.out j (by omega))];rfl
     go_wp2_with fail
     go_quiet ((fail))
     go_wp2_with fail
     refine bodyPost_ret (v:=.tuple #[.slice none 0 0,.bool false]) (by simp [results,Tryz.results82,go_sem]) rfl ⟨_,by rw [HL.out],fun e=>?_,fun _=>rfl,HB.out.trans (below_draws _ _ _)⟩
     rw [HL.out] at e;cases e
    ·have hgi:(g:Int)<=5:=by omega
     have hg5:¬(5:Int)<(g:Int):=by omega
     by_cases hgl:2 ^ g=(VC M k).length
     ·have hne:=zx7 hgl
      have HG:=z5 (zw9 (by omega) hgl)
      clear hgl
      go_wp2_with fail
      go_region_held3 (fun w'=>w'.cell? ⟨b,off+k,none⟩=some (.slice ra (VC M k).length rc)) ((go_keep;done)) (first | (go_at_call 35;refine (ze6 g _ (by omega)).mono ?_;rintro e w' ⟨rfl,rfl⟩))
      go_wp2_with (at_builtin;refine wpList_append_own _ rfl (.tmp 29) (.tmp 31) 22 rfl w.heap.size 3 i0 (iV 0) 1 8 Tryz.underlying22 hi hz0 hz1 hz2 rfl (by decide) _ _ _ rfl (zt HO.out (by first | exact (below_draws _ _ _).alloc (Nat.le_refl _) _ | exact (below_alloc1 _ _).trans (below_draws _ _ _))) ⟨wo.heap.size,0,none⟩ 1 1 [iV g] rfl rfl (by exact zml _ _ _) (by intro u hu;simp at hu;subst hu;rfl) (by unfold maxLen;omega) (by omega) (by simp;omega) ?_;intro v2 w2 hown2 hgrow2 hnil2;obtain⟨la2,lc2,rfl,hl1,hl2⟩:=zth hown2;have HO2:=z5 hown2;have HG2:=z5 hgrow2;clear hown2 hgrow2)
      go_roundw
      case rel =>
       refine⟨k+1,by omega,by go_num,yw HA.out (by show decide (zs2 _<6)=true;rw [HG.out];simp;omega),?_,la2,lc2,rfl,?_⟩
       ·exact (HB.out.trans ((below_draws _ _ _).alloc (by simp;omega) _)).grown HG2.out (by simp;omega) (yW HO.out)
       ·rw [<-zvj M k hlt,HG.out];exact HO2.out
      case measure=>simp [intOf];omega
     ·have hne:=zx0 hgl
      have HGL:=z5 hgl
      clear hgl
      go_wp2_with fail
      go_region_held3 (fun w'=>w'.cell? ⟨b,off+k,none⟩=some (.slice ra (VC M k).length rc)) ((go_keep;done)) (first | (go_at_call 35;refine (ze6 g _ (by omega)).mono ?_;rintro e w' ⟨rfl,rfl⟩))
      go_wp2_with fail
      go_roundw
      case rel=>exact⟨g+1,n+1,by omega,by go_num,fun j hj=>by
       by_cases e:j=g
       ·rw [e];exact HGL.out
       ·exact HNO.out j (by omega),rfl⟩
      case measure=>simp [intOf];omega
  ·have e:k=M.length:=by omega
   subst e
   have HL:Hid (zs3 M=true):=HA.out
   have HO2:Hid (wr.ownsRow w.heap.size 3 1 (.slice la M.length lc) (zrp M).length ((zrp M).map (Value.int .i64))):=by
    have h:=HO.out
    rw [List.take_of_length_le (by rw [zry];omega)] at h
    show wr.ownsRow _ _ _ _ (zrp M).length _
    rw [zry];exact h
   clear hbel
   go_wp2_with fail
   refine bodyPost_ret (v:=.tuple #[.slice la M.length lc,.bool true]) (by simp [results,Tryz.results82,go_sem]) rfl ⟨_,by rw [HL.out],fun _=>⟨?_,HO2.out⟩,fun e=>?_,HB.out⟩
   ·refine zu2 HO2.out (fun i hi=>?_)
    rw [zsk M i (by rw [zry] at hi;exact hi)]
    have:=zw8 (VC M i).length
    omega
   ·rw [HL.out] at e;cases e
structure MR (w:World) (base:Nat) (mv:Value) (n:Nat) (len:Nat->Nat) (m:Nat->Nat->Int) (gm cm:Nat) (G C:Nat->Nat):Prop where
 shape:∃am,mv=.slice am n cm/\n<=cm/\cm<=maxLen
 out:n=0\/(mv=.slice (some ⟨gm,0,none⟩) n cm/\zg w gm 63 n (znf G C len)/\base<=gm)
 inn:Xx w base G C n len m
theorem MR.keep {w w':World} {base:Nat} {mv:Value} {n:Nat} {len:Nat->Nat} {m:Nat->Nat->Int} {gm cm:Nat} {G C:Nat->Nat} (h:MR w base mv n len m gm cm G C) (h1:0<n->w'.heap[gm]?=w.heap[gm]?) (h2:∀i,i<n->w'.heap[G i]?=w.heap[G i]?):MR w' base mv n len m gm cm G C where
 shape:=h.shape
 out:=by
  rcases h.out with e | ⟨e1,e2,e3⟩
  ·exact .inl e
  ·by_cases hn:n=0
   ·exact .inl hn
   ·exact .inr ⟨e1,e2.of_block (h1 (by omega)),e3⟩
 inn:=h.inn.keep h2
theorem MR.lt {w:World} {base:Nat} {mv:Value} {n:Nat} {len:Nat->Nat} {m:Nat->Nat->Int} {gm cm:Nat} {G C:Nat->Nat} (h:MR w base mv n len m gm cm G C) (hn:0<n):gm<w.heap.size:=by
 rcases h.out with e | ⟨e1,e2,e3⟩
 ·omega
 ·exact e2.lt
theorem MR.below {w w':World} {base:Nat} {mv:Value} {n:Nat} {len:Nat->Nat} {m:Nat->Nat->Int} {gm cm:Nat} {G C:Nat->Nat} (h:MR w base mv n len m gm cm G C) (hb:Below w.heap.size w w'):MR w' base mv n len m gm cm G C :=
 h.keep (fun hn=>hb.block _ (h.lt hn)) (fun i hi=>hb.block _ (h.inn.1 i hi).2.2.2.lt)
theorem MR.set {w:World} {base:Nat} {mv:Value} {n:Nat} {len:Nat->Nat} {m:Nat->Nat->Int} {gm cm:Nat} {G C:Nat->Nat} (h:MR w base mv n len m gm cm G C) (i j:Nat) (v:Int) (hi:i<n) (hj:j<len i) :
  MR (w.setCell ⟨G i,j,none⟩ (iV v)) base mv n len (Yj m i j v) gm cm G C where
 shape:=h.shape
 out:=by
  rcases h.out with e | ⟨e1,e2,e3⟩
  ·exact .inl e
  ·exact .inr ⟨e1,e2.setOther (by show gm≠G i;exact e2.apart (h.inn.1 i hi).2.2.2 (by decide)) _,e3⟩
 inn:=by
  refine⟨fun a ha=>⟨(h.inn.1 a ha).1,(h.inn.1 a ha).2.1,(h.inn.1 a ha).2.2.1,?_⟩,h.inn.2⟩
  by_cases e:a=i
  ·subst e
   refine ((h.inn.1 a ha).2.2.2.set j _ hj).congr fun q hq=>?_
   show (if q=j then iV v else iV (m a q))=iV (Yj m a j v a q)
   rw [zph]
   split <;> rfl
  ·refine ((h.inn.1 a ha).2.2.2.setOther (by show G a≠G i;exact h.inn.2 a i ha hi e) _).congr fun q hq=>?_
   show iV (m a q)=iV (Yj m i j v a q)
   rw [zn2 _ _ _ _ _ _ e]
theorem MR.mono {w:World} {base base':Nat} {mv:Value} {n:Nat} {len:Nat->Nat} {m:Nat->Nat->Int} {gm cm:Nat} {G C:Nat->Nat} (h:MR w base mv n len m gm cm G C) (hb:base'<=base):MR w base' mv n len m gm cm G C where
 shape:=h.shape
 out:=by
  rcases h.out with e | ⟨e1,e2,e3⟩
  ·exact .inl e
  ·exact .inr ⟨e1,e2,by omega⟩
 inn:=⟨fun i hi=>⟨by have:=(h.inn.1 i hi).1;omega,(h.inn.1 i hi).2.1,(h.inn.1 i hi).2.2.1,(h.inn.1 i hi).2.2.2⟩,h.inn.2⟩
theorem MR.of_copy {w':World} {base:Nat} {mv:Value} {n:Nat} {len:Nat->Nat} {m:Nat->Nat->Int} {G C:Nat->Nat} (ho:w'.ownsRow base 63 1 mv n ((List.range n).map (znf G C len))) (hi:Xx w' base G C n len m):∃gm cm,MR w' base mv n len m gm cm G C:=by
 obtain⟨am,cm,hv,h1,h2⟩:=zS ho
 by_cases e:n=0
 ·exact⟨0,cm,⟨am,hv,h1,h2⟩,.inl e,hi⟩
 ·obtain⟨g,cap,hv2,hg,h3,h4,hr⟩:=Zs ho (.inr (by omega))
  have hcc:cap=cm:=by
   rw [hv] at hv2
   injection hv2 with _ _ e3
   exact e3.symm
  subst hcc
  exact⟨g,cap,⟨am,hv,h1,h2⟩,.inr ⟨hv2,hr.congr fun i hi=>by simp [List.getD,hi],hg⟩,hi⟩
theorem MR.rows {w:World} {base:Nat} {mv:Value} {n:Nat} {len:Nat->Nat} {m:Nat->Nat->Int} {gm cm:Nat} {G C:Nat->Nat} (h:MR w base mv n len m gm cm G C) (hs:∀i j,I64 (m i j)) :
  YY w mv ((List.range n).map fun i=>(List.range (len i)).map fun j=>m i j):=by
 have hl:((List.range n).map fun i=>(List.range (len i)).map fun j=>m i j).length=n:=by simp
 obtain⟨am,hv,hc1,hc2⟩:=h.shape
 refine⟨am,cm,by rw [hl];exact hv,by rw [hl];exact hc1,hc2,fun hp=>?_⟩
 rw [hl] at hp ⊢
 rcases h.out with e | ⟨e1,e4,e5⟩
 ·omega
 rw [hv] at e1
 injection e1 with f1 f2 f3
 refine⟨gm,0,f1,e4.lt,fun i hi=>⟨znf G C len i,by rw [Nat.zero_add];exact e4.cell hi,?_⟩⟩
 obtain⟨g1,g2,g3,g4⟩:=h.inn.1 i hi
 have hr:VC ((List.range n).map fun i=>(List.range (len i)).map fun j=>m i j) i=(List.range (len i)).map fun j=>m i j:=by unfold VC;simp [List.getD,hi]
 have hnth:∀j,j<len i->nth ((List.range (len i)).map fun j=>m i j) j=m i j:=fun j hj=>by unfold nth;simp [List.getD,hj]
 have hl2:((List.range (len i)).map fun j=>m i j).length=len i:=by simp
 rw [hr]
 refine⟨some ⟨G i,0,none⟩,C i,by rw [hl2];rfl,by rw [hl2];exact g2,g3,fun j hj=>?_,fun _=>⟨G i,0,rfl,g4.lt,fun j hj=>?_⟩⟩
 ·rw [hl2] at hj;rw [hnth j hj];exact hs i j
 ·rw [hl2] at hj;rw [Nat.zero_add,hnth j hj];exact g4.cell hj
structure zi7 (w0:World) (R gr rc:Nat) (mv:Value) (n:Nat) (len:Nat->Nat) (gm cm:Nat) (G C:Nat->Nat) (dv lv:Value) (logs:List Int) (s:Kst) (wr:World):Prop where
 bel:Below w0.heap.size w0 wr
 regs:zg wr gr 2 R (fun i=>iV (s.f i))
 rb:w0.heap.size<=gr/\R<=rc/\rc<=maxLen
 mem:MR wr w0.heap.size mv n len s.m gm cm G C
 ma:∀i,i<n->G i≠gr
 due:wr.ownsRow w0.heap.size 136 3 dv s.due.length (Xd s.due)
 lgs:wr.ownsRow w0.heap.size 3 1 lv logs.length (logs.map (Value.int .i64))
theorem zi7.below {w0:World} {R gr rc:Nat} {mv:Value} {n:Nat} {len:Nat->Nat} {gm cm:Nat} {G C:Nat->Nat} {dv lv:Value} {logs:List Int} {s:Kst} {wr w':World} (h:zi7 w0 R gr rc mv n len gm cm G C dv lv logs s wr) (hb:Below wr.heap.size wr w'):zi7 w0 R gr rc mv n len gm cm G C dv lv logs s w' where
 bel:=h.bel.trans (hb.mono h.bel.size)
 regs:=h.regs.below hb h.regs.lt
 rb:=h.rb
 mem:=h.mem.below hb
 ma:=h.ma
 due:=zt h.due hb
 lgs:=zt h.lgs hb
theorem zi7.setReg {w0:World} {R gr rc:Nat} {mv:Value} {n:Nat} {len:Nat->Nat} {gm cm:Nat} {G C:Nat->Nat} {dv lv:Value} {logs:List Int} {s:Kst} {wr:World} (h:zi7 w0 R gr rc mv n len gm cm G C dv lv logs s wr) (i:Nat) (v:Int) (hi:i<R) :
  zi7 w0 R gr rc mv n len gm cm G C dv lv logs ⟨zn1 s.f i v,s.m,s.due⟩ (wr.setCell ⟨gr,i,none⟩ (iV v)) where
 bel:=h.bel.setCell (by show w0.heap.size<=gr;exact h.rb.1) _
 regs:=(h.regs.set i _ hi).congr fun j hj=>by
  show (if j=i then iV v else iV (s.f j))=iV (if j=i then v else s.f j)
  split <;> rfl
 rb:=h.rb
 mem := h.mem.keep (fun hn=>Below.heap_setCell _ _ _ _ (by
     show gm≠gr
     rcases h.mem.out with e | ⟨e1,e2,e3⟩
     ·omega
     ·exact e2.apart h.regs (by decide))) (fun a ha=>Below.heap_setCell _ _ _ _ (by show G a≠gr;exact h.ma a ha))
 ma:=h.ma
 due:=Y3 h.due fun g hg=>Below.heap_setCell _ _ _ _ (by show g≠gr;exact fun e=>ZE h.due h.regs (by decide) (by rw [<-e];exact hg.symm))
 lgs:=Y3 h.lgs fun g hg=>Below.heap_setCell _ _ _ _ (by show g≠gr;exact fun e=>ZE h.lgs h.regs (by decide) (by rw [<-e];exact hg.symm))
theorem zi7.grown {w0:World} {R gr rc:Nat} {mv:Value} {n:Nat} {len:Nat->Nat} {gm cm:Nat} {G C:Nat->Nat} {dv lv:Value} {logs:List Int} {s:Kst} {wr w':World} (h:zi7 w0 R gr rc mv n len gm cm G C dv lv logs s wr) {b k:Nat} {v:Value} {xs:List Value}
  (ho:wr.ownsRow b 136 3 v k xs) (hb:w0.heap.size<=b) (hg:wr.grownBy w' v.ownBlock) (hd:∀g,dv.ownBlock=some g->some g≠v.ownBlock):zi7 w0 R gr rc mv n len gm cm G C dv lv logs s w' where
 bel:=h.bel.grown hg h.bel.size (fun q hq=>by have:=ye ho q hq;omega)
 regs:=h.regs.grown hg (ZE ho h.regs (by decide))
 rb:=h.rb
 mem := h.mem.keep (fun hn=>hg.block _ (h.mem.lt hn) (by
     rcases h.mem.out with e | ⟨e1,e2,e3⟩
     ·omega
     ·exact ZE ho e2 (by decide))) (fun i hi=>hg.block _ (h.mem.inn.1 i hi).2.2.2.lt (ZE ho (h.mem.inn.1 i hi).2.2.2 (by decide)))
 ma:=h.ma
 due:=Y3 h.due fun g hk=>hg.block _ (yZ h.due g hk) (hd g hk)
 lgs:=Y3 h.lgs fun g hk=>hg.block _ (yZ h.lgs g hk) (zmw h.lgs ho (by decide) g hk)
theorem zi7.newDue {w0:World} {R gr rc:Nat} {mv:Value} {n:Nat} {len:Nat->Nat} {gm cm:Nat} {G C:Nat->Nat} {dv dv' lv:Value} {logs:List Int} {s:Kst} {wr:World} {l:List Du} (h:zi7 w0 R gr rc mv n len gm cm G C dv lv logs s wr)
  (ho:wr.ownsRow w0.heap.size 136 3 dv' l.length (Xd l)):zi7 w0 R gr rc mv n len gm cm G C dv' lv logs ⟨s.f,s.m,l⟩ wr :=
 { h with due:=ho }
theorem zi7.push {w0:World} {R gr rc:Nat} {mv:Value} {n:Nat} {len:Nat->Nat} {gm cm:Nat} {G C:Nat->Nat} {dv dv' lv:Value} {logs:List Int} {s:Kst} {wr w':World} {d:Du} (h:zi7 w0 R gr rc mv n len gm cm G C dv lv logs s wr)
  (hg:wr.grownBy w' dv.ownBlock) (ho:w'.ownsRow w0.heap.size 136 3 dv' (s.due.length+1) (Xd s.due++ZQ d)):zi7 w0 R gr rc mv n len gm cm G C dv' lv logs ⟨s.f,s.m,s.due++[d]⟩ w' where
 bel:=h.bel.grown hg h.bel.size (fun q hq=>ye h.due q hq)
 regs:=h.regs.grown hg (ZE h.due h.regs (by decide))
 rb:=h.rb
 mem := h.mem.keep (fun hn=>hg.block _ (h.mem.lt hn) (by
     rcases h.mem.out with e | ⟨e1,e2,e3⟩
     ·omega
     ·exact ZE h.due e2 (by decide))) (fun i hi=>hg.block _ (h.mem.inn.1 i hi).2.2.2.lt (ZE h.due (h.mem.inn.1 i hi).2.2.2 (by decide)))
 ma:=h.ma
 due:=by
  rw [zff] at ho
  show w'.ownsRow _ _ _ _ (s.due++[d]).length _
  rw [List.length_append];exact ho
 lgs:=Y3 h.lgs fun g hk=>hg.block _ (yZ h.lgs g hk) (zmw h.lgs h.due (by decide) g hk)
theorem zi7.setNext {w0:World} {R gr rc:Nat} {mv:Value} {n:Nat} {len:Nat->Nat} {gm cm:Nat} {G C:Nat->Nat} {dv lv:Value} {logs:List Int} {s:Kst} {wr:World} (h:zi7 w0 R gr rc mv n len gm cm G C dv lv logs s wr) {b k j:Nat} {f:Nat->Value} (hr:zg wr b 2 k f)
  (hb:w0.heap.size<=b) (h1:b≠gr) (h2:∀i,i<n->G i≠b) (v:Value):zi7 w0 R gr rc mv n len gm cm G C dv lv logs s (wr.setCell ⟨b,j,none⟩ v) where
 bel:=h.bel.setCell (by show w0.heap.size<=b;exact hb) _
 regs:=h.regs.setOther (by show gr≠b;exact h1.symm) _
 rb:=h.rb
 mem := h.mem.keep (fun hn=>Below.heap_setCell _ _ _ _ (by
     show gm≠b
     rcases h.mem.out with e | ⟨e1,e2,e3⟩
     ·omega
     ·exact e2.apart hr (by decide))) (fun a ha=>Below.heap_setCell _ _ _ _ (by show G a≠b;exact h2 a ha))
 ma:=h.ma
 due:=Y3 h.due fun g hg=>Below.heap_setCell _ _ _ _ (by show g≠b;exact fun e=>ZE h.due hr (by decide) (by rw [<-e];exact hg.symm))
 lgs:=Y3 h.lgs fun g hg=>Below.heap_setCell _ _ _ _ (by show g≠b;exact fun e=>ZE h.lgs hr (by decide) (by rw [<-e];exact hg.symm))
theorem zi7.newMem {w0:World} {R gr rc:Nat} {mv mv':Value} {n:Nat} {len:Nat->Nat} {gm cm gm' cm':Nat} {G C G' C':Nat->Nat} {dv lv:Value} {logs:List Int} {s:Kst} {m':Nat->Nat->Int} {wr:World} (h:zi7 w0 R gr rc mv n len gm cm G C dv lv logs s wr)
  (hm:MR wr w0.heap.size mv' n len m' gm' cm' G' C') (ha:∀i,i<n->G' i≠gr):zi7 w0 R gr rc mv' n len gm' cm' G' C' dv lv logs ⟨s.f,m',s.due⟩ wr :=
 { h with mem:=hm,ma:=ha }
theorem Tryz.i136:(Tryz.prog.info? 136).map (fun i=>(i.zero,i.size,i.bytes))=some (some (.agg #[iV 0,iV 0,iV 0]),3,24):=by kernel_rfl
def bxp (w:World) (p0 p1 p2 q0 q1 q2 r pc st:Int) (ka:Option Addr) (kl kc:Nat):World:=(w.alloc (.cells #[iV p0,iV p1,iV p2,iV q0,iV q1,iV q2,iV r] 28)).alloc (.cells #[iV pc,iV st,.slice ka kl kc] 31)
theorem zsf (w:World) (p0 p1 p2 q0 q1 q2 r pc st:Int) (ka:Option Addr) (kl kc:Nat):(bxp w p0 p1 p2 q0 q1 q2 r pc st ka kl kc).heap.size=w.heap.size+1+1:=by unfold bxp;simp
theorem zsy (w:World) (p0 p1 p2 q0 q1 q2 r pc st:Int) (ka:Option Addr) (kl kc:Nat):Below w.heap.size w (bxp w p0 p1 p2 q0 q1 q2 r pc st ka kl kc):=below_alloc2 _ _ _
theorem zv7 {w wr:World} {p0 p1 p2 q0 q1 q2 r pc st:Int} {ka:Option Addr} {kl kc:Nat} (h:Below (w.heap.size+1+1) (bxp w p0 p1 p2 q0 q1 q2 r pc st ka kl kc) wr) :
  (wr.cell? ⟨w.heap.size,3,none⟩=some (iV q0)/\wr.cell? ⟨w.heap.size,4,none⟩=some (iV q1)/\wr.cell? ⟨w.heap.size,5,none⟩=some (iV q2)/\wr.cell? ⟨w.heap.size,6,none⟩=some (iV r))/\wr.cell? ⟨w.heap.size+1,0,none⟩=some (iV pc)/\wr.cell? ⟨w.heap.size+1,1,none⟩=some (iV st)/\wr.cell? ⟨w.heap.size+1,2,none⟩=some (.slice ka kl kc) /\
   w.heap.size<wr.heap.size/\w.heap.size+1<wr.heap.size/\Below w.heap.size w wr:=by
 have hz:=h.size
 rw [zsf] at hz
 have c0:∀o,wr.cell? ⟨w.heap.size,o,none⟩=(bxp w p0 p1 p2 q0 q1 q2 r pc st ka kl kc).cell? ⟨w.heap.size,o,none⟩:=fun o=>h.cell (p:=⟨w.heap.size,o,none⟩) (by show w.heap.size<_;omega)
 have c1:∀o,wr.cell? ⟨w.heap.size+1,o,none⟩=(bxp w p0 p1 p2 q0 q1 q2 r pc st ka kl kc).cell? ⟨w.heap.size+1,o,none⟩:=fun o=>h.cell (p:=⟨w.heap.size+1,o,none⟩) (by show w.heap.size+1<_;omega)
 refine⟨⟨?_,?_,?_,?_⟩,?_,?_,?_,by omega,by omega,(zsy w p0 p1 p2 q0 q1 q2 r pc st ka kl kc).trans (h.mono (by omega))⟩
 all_goals first | rw [c0] | rw [c1]
 all_goals (unfold bxp;go_simp)
theorem zw5 {w0:World} {R gr rc:Nat} {mv:Value} {n:Nat} {len:Nat->Nat} {gm cm:Nat} {G C:Nat->Nat} {dv lv ev:Value} {logs:List Int} {f:Nat->Int} {m:Nat->Nat->Int} {due l:List Du} {now:Int} {k base:Nat} {wr:World}
  (h:zi7 w0 R gr rc mv n len gm cm G C dv lv logs ⟨ZC now due f k,m,due⟩ wr) (ho:wr.ownsRow base 136 3 ev l.length (Xd l)) (hd:(zrq due k).at_=now) (h1:(zrq due k).rg.toNat<R) :
  zi7 w0 R gr rc mv n len gm cm G C dv lv logs ⟨ZC now due f (k+1),m,due⟩ (wr.setCell ⟨gr,(zrq due k).rg.toNat,none⟩ (iV (zrq due k).v)) /\
   (wr.setCell ⟨gr,(zrq due k).rg.toNat,none⟩ (iV (zrq due k).v)).ownsRow base 136 3 ev l.length (Xd l):=by
 refine⟨?_,Y3 ho fun g hg=>Below.heap_setCell _ _ _ _ (by show g≠gr;exact fun e=>ZE ho h.regs (by decide) (by rw [<-e];exact hg.symm))⟩
 have h2:=h.setReg _ (zrq due k).v h1
 have e:ZC now due f (k+1)=zn1 (ZC now due f k) (zrq due k).rg.toNat (zrq due k).v:=if_pos hd
 rw [e];exact h2
theorem zve {now:Int} {due:List Du} {k:Nat} (hd:(zrq due k).at_=now):ZS now due (k+1)=ZS now due k:=if_pos hd
theorem ztu {now:Int} {due:List Du} {k:Nat} (hd:(zrq due k).at_≠now):ZS now due (k+1)=ZS now due k++[zrq due k]:=if_neg hd
theorem zvf {now:Int} {due:List Du} {f:Nat->Int} {k:Nat} (hd:(zrq due k).at_≠now):ZC now due f (k+1)=ZC now due f k:=if_neg hd
theorem zu4 {t:Tg} {logs:List Int} {pc turns now:Int} {f:Nat->Int} {m:Nat->Nat->Int} {q:Nx} {x:Kop} (h:U3 pc turns now x=false):opK t logs pc turns now f m q x=q:=by
 unfold opK;rw [if_neg (by rw [h];exact Bool.false_ne_true)]
theorem zt6 {t:Tg} {logs:List Int} {pc turns now:Int} {f:Nat->Int} {m:Nat->Nat->Int} {q:Nx} {x:Kop} (h:U3 pc turns now x=true) (ho:x.o≠4) :
  opK t logs pc turns now f m q x=⟨q.nx,q.du++[⟨now+xA t (zC x.o),(x.d+now / pc) % t.r,zgw logs t.r pc now f m x⟩]⟩:=by
 unfold opK;rw [if_pos h,if_neg ho]
theorem zwc {t:Tg} {logs:List Int} {pc turns now:Int} {f:Nat->Int} {m:Nat->Nat->Int} {q:Nx} {x:Kop} (h:U3 pc turns now x=true) (ho:x.o=4) :
  opK t logs pc turns now f m q x=⟨Yj q.nx x.ar.toNat (VH logs pc now x) (zk0 f t.r x.a (now / pc)),q.du++[⟨now+xA t (zC x.o),(x.d+now / pc) % t.r,zk0 f t.r x.a (now / pc)⟩]⟩:=by
 have hv:zgw logs t.r pc now f m x=zk0 f t.r x.a (now / pc):=by unfold zgw;rw [ho];rfl
 unfold opK;rw [if_pos h,if_pos ho,hv]
theorem zsg {w0:World} {R gr rc:Nat} {mv:Value} {n:Nat} {len:Nat->Nat} {gm cm:Nat} {G C:Nat->Nat} {dv lv:Value} {logs:List Int} {s:Kst} {wr w':World} (h:zi7 w0 R gr rc mv n len gm cm G C dv lv logs s wr)
  (hg:wr.grownBy w' dv.ownBlock) {base gn cn:Nat} {nv:Value} {nx:Nat->Nat->Int} {Gn Cn:Nat->Nat} (hm:MR wr base nv n len nx gn cn Gn Cn):MR w' base nv n len nx gn cn Gn Cn :=
 hm.keep (fun hn=>hg.block _ (hm.lt hn) (by
   rcases hm.out with e | ⟨e1,e2,e3⟩
   ·omega
   ·exact ZE h.due e2 (by decide))) (fun i hi=>hg.block _ (hm.inn.1 i hi).2.2.2.lt (ZE h.due (hm.inn.1 i hi).2.2.2 (by decide)))
theorem zuq {w0 wr:World} {R:List Int} {M:List (List Int)} {gr rc cm:Nat} {mv lv:Value} {gm:Nat} {G C:Nat->Nat} (hb:Below w0.heap.size w0 wr) (hr:zg wr gr 2 R.length (fun i=>iV (nth R i))) (h1:w0.heap.size<=gr) (h2:R.length<=rc) (h3:rc<=maxLen)
  (hm:MR wr w0.heap.size mv M.length (fun i=>(VC M i).length) (fun i j=>nth (VC M i) j) gm cm G C) (ha:∀i,i<M.length->G i≠gr) (hl:wr.ownsRow w0.heap.size 3 1 lv (zrp M).length ((zrp M).map (Value.int .i64))) :
  zi7 w0 R.length gr rc mv M.length (fun i=>(VC M i).length) gm cm G C (.slice none 0 0) lv (zrp M) (Ym R M) wr where
 bel:=hb
 regs:=hr
 rb:=⟨h1,h2,h3⟩
 mem:=hm
 ma:=ha
 due:=World.ownsRow_nil _ _ _ _
 lgs:=hl
theorem zss {t:Tg} {K:Kn} {logs:List Int} (h:Z6 t K logs=true):zp t=true/\1<=K.pc/\K.pc<=200/\1<=K.st/\K.st<=1001/\1<=K.ops.length/\K.ops.length<=16/\∀k,k<K.ops.length->yF t.r K.pc K.st logs (zq K.ops k)=true:=by
 unfold Z6 at h
 simp only [Bool.and_eq_true] at h
 obtain⟨⟨⟨⟨h1,h2⟩,h3⟩,h4⟩,h5⟩:=h
 have h2:=zo.1 h2
 have h3:=zo.1 h3
 have h4:=zo.1 h4
 refine⟨h1,h2.1,h2.2,h3.1,h3.2,by omega,by omega,fun k hk=>?_⟩
 have h6:=zl h5 k hk
 simp only [Bool.and_eq_true] at h6
 exact h6.1
theorem zt0 {r pc st:Int} {logs:List Int} {x:Kop} (h:yF r pc st logs x=true):(0<=x.sl/\x.sl<pc)/\(0<=x.sg/\x.sg<st)/\(0<=x.d/\x.d<r)/\(0<=x.a/\x.a<r)/\(0<=x.b/\x.b<r)/\logs.length<=3 /\
  (x.o=1\/x.o=2\/(x.o=3/\0<=x.ar/\x.ar<logs.length)\/(x.o=4/\0<=x.ar/\x.ar<logs.length)\/(11<=x.o/\x.o<=18)):=by
 unfold yF ZK Xt at h
 simp only [Bool.and_eq_true] at h
 obtain⟨⟨⟨⟨a1,a2⟩,a3⟩,⟨⟨⟨b1,b2⟩,b3⟩,b4⟩,b5⟩,c⟩:=h
 have a1:=zo.1 a1
 have a2:=zo.1 a2
 have b1:=zo.1 b1
 have b2:=zo.1 b2
 have b3:=zo.1 b3
 obtain⟨m1,m2,m3,m4,m5,m6,m7⟩:=zj c
 refine⟨by omega,by omega,by omega,by omega,by omega,m1,?_⟩
 have hs:yd logs.length 2 1 ⟨x.o,0,0,0,0,x.ar,x.sp,x.pl,x.nn⟩=true:=zl m7 1 (by show 1<2;omega)
 have hp:=zea hs
 rcases hp with h | h | h | ⟨h,h2,h3,-⟩ | ⟨h,h2,-,-⟩
 ·exact .inl h
 ·exact .inr (.inl h)
 ·exact .inr (.inr (.inl h))
 ·exact .inr (.inr (.inr (.inl ⟨h,h2,h3⟩)))
 ·exact .inr (.inr (.inr (.inr ⟨h,h2⟩)))
theorem zue {M:List (List Int)} (h:zs3 M=true):∀i,i<M.length->0<(VC M i).length/\(VC M i).length<=32/\(VC M i).length=2 ^ (nth (zrp M) i).toNat:=by
 intro i hi
 have h1:decide (zs2 (VC M i).length<6)=true:=zl h i hi
 have h2:zs2 (VC M i).length<6:=of_decide_eq_true h1
 have h3:=zvh h2
 rw [zsk M i hi]
 have h4:((zs2 (VC M i).length:Int)).toNat=zs2 (VC M i).length:=Int.toNat_natCast _
 rw [h4,h3]
 refine⟨?_,?_,rfl⟩
 ·rw [<-h3];exact Nat.pow_pos (by decide)
 ·rw [<-h3]
  exact Nat.le_trans (Nat.pow_le_pow_right (by decide) (show zs2 (VC M i).length<=5 by omega)) (by decide)
theorem ztm (logs:List Int) (pc now:Int) (x:Kop):idx x.sp x.pl (now / pc - x.sg) (nth logs x.ar.toNat)=(VH logs pc now x:Int):=by
 have h:=zqh x.sp x.pl (now / pc - x.sg) (nth logs x.ar.toNat)
 unfold VH
 omega
theorem zuh (logs:List Int) (pc now:Int) (x:Kop):VH logs pc now x<2 ^ (nth logs x.ar.toNat).toNat:=by
 have h:=zqh x.sp x.pl (now / pc - x.sg) (nth logs x.ar.toNat)
 unfold p2 at h
 unfold VH
 omega
theorem zw6 {PC ST turns:Nat} (h1:1<=ST) (h2:PC<=200) (h3:ST<=1001) (h4:turns<=200):∃LA:Nat,LA<=240000/\((turns:Int)+(ST:Int) - 1)*(PC:Int)=(LA:Int):=by
 refine⟨(turns+ST - 1)*PC,?_,?_⟩
 ·exact Nat.le_trans (Nat.mul_le_mul (show turns+ST - 1<=1200 by omega) h2) (by decide)
 ·rw [show ((turns:Int)+(ST:Int) - 1)=((turns+ST - 1:Nat):Int) by omega]
  exact (Int.natCast_mul _ _).symm
theorem zsu {w W0 wr:World} {p0 p1 p2 q0 q1 q2 r pc st:Int} {ka:Option Addr} {kl kc:Nat} (hW:bxp w p0 p1 p2 q0 q1 q2 r pc st ka kl kc=W0) (h:Below W0.heap.size W0 wr) :
  (wr.cell? ⟨w.heap.size,3,none⟩=some (iV q0)/\wr.cell? ⟨w.heap.size,4,none⟩=some (iV q1)/\wr.cell? ⟨w.heap.size,5,none⟩=some (iV q2)/\wr.cell? ⟨w.heap.size,6,none⟩=some (iV r))/\wr.cell? ⟨w.heap.size+1,0,none⟩=some (iV pc)/\wr.cell? ⟨w.heap.size+1,1,none⟩=some (iV st)/\wr.cell? ⟨w.heap.size+1,2,none⟩=some (.slice ka kl kc) /\
   w.heap.size<wr.heap.size/\w.heap.size+1<wr.heap.size/\Below w.heap.size w wr:=by
 subst hW
 exact zv7 (by rw [zsf] at h;exact h)
theorem zwb (v:Value) (M:List (List Int)) (w:World) (h:YY w v M) (hbig:M.length*24<=140737488351232) (hL:zs3 M=true) :
  Calls Tryz.prog 82 #[v] w fun e w'=>∃lv,e=.returned (.tuple #[lv,.bool true])/\w'.ownsRow w.heap.size 3 1 lv (zrp M).length ((zrp M).map (Value.int .i64))/\Below w.heap.size w w' :=
 (zwa v M w h hbig).mono fun e w' ⟨lv,h1,h2,h3,h4⟩=>⟨lv,by rw [hL] at h1;exact h1,(h2 hL).2,h4⟩
theorem zsv {w0:World} {gr rc cm gm:Nat} {M:List (List Int)} {mv dv lv:Value} {n:Nat} {G C:Nat->Nat} {logs:List Int} {s:Kst} {wr:World} {X:Int} (h:zi7 w0 n gr rc mv M.length (fun i=>(VC M i).length) gm cm G C dv lv logs s wr) (hf:s.fine X) :
  yf wr (.slice (some ⟨gr,0,none⟩) n rc) (zs5 n s)/\YY wr mv (zrz M s):=by
 have hl:(zs5 n s).length=n:=by unfold zs5;simp
 have hn:∀i,i<n->nth (zs5 n s) i=s.f i:=fun i hi=>by unfold zs5 nth;simp [List.getD,hi]
 refine⟨⟨some ⟨gr,0,none⟩,rc,by rw [hl],by rw [hl];exact h.rb.2.1,h.rb.2.2,fun i hi=>?_,fun _=>⟨gr,0,rfl,h.regs.lt,fun i hi=>?_⟩⟩,h.mem.rows hf.m⟩
 ·rw [hl] at hi;rw [hn i hi];exact hf.f i
 ·rw [hl] at hi;rw [hn i hi,Nat.zero_add];exact h.regs.cell hi
theorem zwr {l:List Kop} {i:Nat} (h:i<l.length):zq l i∈l:=by
 unfold zq
 rw [List.getD,List.getElem?_eq_getElem h]
 exact List.getElem_mem _
theorem zu3 {l:List Int} (h:∀i,i<l.length->-9223372036854775808<=nth l i/\nth l i<=9223372036854775807) (i:Nat):I64 (nth l i):=by
 by_cases hi:i<l.length
 ·exact h i hi
 ·have e:nth l i=0:=by unfold nth;simp [List.getD,hi]
  rw [e];exact⟨by decide,by decide⟩
theorem zua {R:List Int} {M:List (List Int)} {X:Int} (hR:∀i,I64 (nth R i)) (hM:∀i j,I64 (nth (VC M i) j)):(Ym R M).fine X :=
 ⟨hR,hM,fun d hd=>absurd hd (by show ¬d∈[];simp)⟩
theorem zvx {w:World} {v:Value} {M:List (List Int)} (h:YY w v M):∀i j,I64 (nth (VC M i) j):=by
 intro i j
 by_cases hi:i<M.length
 ·obtain⟨a,cap,e,h1,h2,h3⟩:=h
  obtain⟨b,off,e2,h4,h5⟩:=h3 (by omega)
  obtain⟨u,hu,⟨ra,rc,hv,rl,rm,rr,rcell⟩⟩:=h5 i hi
  exact zu3 rr j
 ·have e:VC M i=[]:=by unfold VC;simp [List.getD,hi]
  rw [e]
  exact zu3 (l:=[]) (fun i hi=>absurd hi (Nat.not_lt_zero _)) j
theorem zw1 {t:Tg} {K:Kn} {logs:List Int} {turns now:Int} {f:Nat->Int} {m:Nat->Nat->Int} {q:Nx} (hr:1<=t.r) (hf:∀i,I64 (f i)) (hm:∀i j,I64 (m i j)) (hq:∀i j,I64 (q.nx i j)) (hd:∀d∈q.du,0<=d.rg/\d.rg<t.r/\I64 d.v)
  (hx:∀k,k<K.ops.length->I64 (zq K.ops k).nn/\I64 (now / K.pc - (zq K.ops k).sg)):∀k,k<=K.ops.length->(∀i j,I64 ((VK t K logs turns now f m q k).nx i j))/\∀d∈(VK t K logs turns now f m q k).du,0<=d.rg/\d.rg<t.r/\I64 d.v:=by
 intro k
 induction k with
 | zero=>exact fun _=>⟨hq,hd⟩
 | succ k ih =>
   intro hk
   obtain⟨h1,h2⟩:=ih (by omega)
   have hv:I64 (zgw logs t.r K.pc now f m (zq K.ops k)):=zwj hf hm (hx k (by omega)).1 (hx k (by omega)).2
   show (∀i j,I64 ((opK t logs K.pc turns now f m (VK t K logs turns now f m q k) (zq K.ops k)).nx i j))/\∀d∈(opK t logs K.pc turns now f m (VK t K logs turns now f m q k) (zq K.ops k)).du,_
   unfold opK
   split
   ·refine⟨fun i j=>?_,fun d hd=>?_⟩
    ·dsimp only
     split
     ·exact zrr hv (h1 i j)
     ·exact h1 i j
    ·rcases List.mem_append.1 hd with h3 | h3
     ·exact h2 d h3
     ·rw [List.mem_singleton.1 h3]
      exact⟨Int.emod_nonneg _ (by omega),Int.emod_lt_of_pos _ (by omega),hv⟩
   ·exact⟨h1,h2⟩
theorem zw0 {t:Tg} {K:Kn} {logs:List Int} {turns now:Int} {s:Kst} (hr:1<=t.r) (hs:s.fine t.r) (hx:∀k,k<K.ops.length->I64 (zq K.ops k).nn/\I64 (now / K.pc - (zq K.ops k).sg)):(zf7 t K logs turns now s).fine t.r:=by
 have h1:=ztq (now:=now) hs.f hs.due s.due.length (Nat.le_refl _)
 have h2:=zvo (now:=now) hs.due s.due.length (Nat.le_refl _)
 unfold zf7
 split
 ·exact⟨h1,hs.m,h2⟩
 ·obtain⟨a,b⟩:=zw1 (t:=t) (logs:=logs) (turns:=turns) (now:=now) hr h1 hs.m (q:=⟨s.m,ZS now s.due s.due.length⟩) hs.m h2 hx K.ops.length (Nat.le_refl _)
  exact⟨h1,a,b⟩
theorem zvb {t:Tg} {K:Kn} {logs:List Int} {turns:Int} {s:Kst} {N:Nat} (hr:1<=t.r) (hs:s.fine t.r) (hx:∀T:Nat,T<N->∀k,k<K.ops.length->I64 (zq K.ops k).nn/\I64 ((T:Int) / K.pc - (zq K.ops k).sg)):∀T,T<=N->(xD t K logs turns s T).fine t.r:=by
 intro T
 induction T with
 | zero=>exact fun _=>hs
 | succ T ih=>exact fun h=>zw0 hr (ih (by omega)) (hx T (by omega))
theorem zvg {w0:World} {R gr rc:Nat} {mv:Value} {n:Nat} {len:Nat->Nat} {gm cm:Nat} {G C:Nat->Nat} {dv lv ev ev':Value} {logs:List Int} {f:Nat->Int} {m:Nat->Nat->Int} {due:List Du} {now:Int} {k b:Nat} {wr w':World} {X:Obj}
  (h:zi7 w0 R gr rc mv n len gm cm G C dv lv logs ⟨ZC now due f k,m,due⟩ wr) (ho:wr.ownsRow b 136 3 ev (ZS now due k).length (Xd (ZS now due k))) (hne:(zrq due k).at_≠now) (hb:w0.heap.size<=b) (hdv:∀g,dv.ownBlock=some g->g<b)
  (hg:(wr.alloc X).grownBy w' ev.ownBlock) (ho2:w'.ownsRow b 136 3 ev' ((ZS now due k).length+1) (Xd (ZS now due k)++ZQ (zrq due k))) :
  zi7 w0 R gr rc mv n len gm cm G C dv lv logs ⟨ZC now due f (k+1),m,due⟩ w'/\w'.ownsRow b 136 3 ev' (ZS now due (k+1)).length (Xd (ZS now due (k+1))):=by
 have ho1:=zt ho (below_alloc1 wr X)
 refine⟨?_,?_⟩
 ·rw [zvf hne]
  exact (h.below (below_alloc1 _ _)).grown ho1 hb hg (fun g hg1 hg2=>by have:=hdv g hg1;have:=ye ho g hg2.symm;omega)
 ·rw [ztu hne,<-zff,List.length_append]
  exact ho2
theorem zvy (M:List (List Int)) (s:Kst):(zrz M s).length=M.length:=by unfold zrz;simp
theorem ztz (M:List (List Int)) (s:Kst) (i:Nat) (h:i<M.length):VC (zrz M s) i=(List.range (VC M i).length).map fun j=>s.m i j:=by unfold zrz VC;simp [List.getD,h]
theorem zuk (v:Value) (M:List (List Int)) (s:Kst) (w:World) (h:YY w v (zrz M s)) (h3:M.length<=3) (h32:∀i,i<M.length->0<(VC M i).length/\(VC M i).length<=32) :
  Calls Tryz.prog 81 #[v] w fun e w'=>∃nv gn cn Gn Cn,e=.returned nv/\MR w' w.heap.size nv M.length (fun i=>(VC M i).length) s.m gn cn Gn Cn/\Below w.heap.size w w':=by
 have hl:=zvy M s
 have hr:∀i,i<M.length->(VC (zrz M s) i).length=(VC M i).length:=fun i hi=>by rw [ztz M s i hi];simp
 have hn:∀i,i<M.length->∀j,j<(VC M i).length->nth (VC (zrz M s) i) j=s.m i j:=fun i hi j hj=>by rw [ztz M s i hi];unfold nth;simp [List.getD,hj]
 refine (zt9 v (zrz M s) w h (by rw [hl];exact h3) (fun i hi=>by rw [hl] at hi;rw [hr i hi];exact h32 i hi)).mono fun e w' ⟨m,G,C,h1,h2,h4,h5⟩=>?_
 rw [hl] at h2 h4
 have h2':w'.ownsRow w.heap.size 63 1 m M.length ((List.range M.length).map (znf G C (fun i=>(VC M i).length))):=by
  have e:(List.range M.length).map (znf G C (fun i=>(VC (zrz M s) i).length))=(List.range M.length).map (znf G C (fun i=>(VC M i).length)):=by
   refine List.map_congr_left fun i hi=>?_
   have hi2:=List.mem_range.1 hi
   unfold znf
   dsimp only
   rw [hr i hi2]
  rw [<-e];exact h2
 have h4':Xx w' w.heap.size G C M.length (fun i=>(VC M i).length) s.m:=by
  refine⟨fun i hi=>?_,h4.2⟩
  obtain⟨a1,a2,a3,a4⟩:=h4.1 i hi
  dsimp only at a2 a4
  rw [hr i hi] at a2 a4
  exact⟨a1,a2,a3,a4.congr fun j hj=>by rw [hn i hi j hj]⟩
 obtain⟨gm,cm,hm⟩:=MR.of_copy h2' h4'
 exact⟨m,gm,cm,G,C,h1,hm,h5⟩
theorem zwn {pc turns now:Int} {x:Kop} (h1:x.sl=now % pc) (h2:0<=now / pc - x.sg) (h3:now / pc - x.sg<turns):U3 pc turns now x=true:=by
 unfold U3
 rw [decide_eq_true h1,decide_eq_true h2,decide_eq_true h3];rfl
theorem zuj {pc turns now:Int} {x:Kop} (h:x.sl≠now % pc\/now / pc - x.sg<0\/turns<=now / pc - x.sg):U3 pc turns now x=false:=by
 unfold U3
 rw [Bool.eq_false_iff]
 intro h2
 simp only [Bool.and_eq_true,decide_eq_true_eq] at h2
 omega
theorem zuw (x:Int) (h0:-9223372036854775808<=x) (h1:x<=9223372036854775807):wrap64 x=x:=by unfold wrap64;omega
theorem zwd {T PC:Nat} (hT:T<=300000):∃q:Nat,(T:Int) / (PC:Int)=(q:Int)/\q<=T/\wrap64 ((T:Int) / (PC:Int))=(q:Int):=by
 have h2:(T:Int) / (PC:Int)<=T:=Int.ediv_le_self _ (by omega)
 obtain⟨q,hq⟩:∃q:Nat,(T:Int) / (PC:Int)=(q:Int):=⟨T / PC,rfl⟩
 rw [hq] at h2
 exact⟨q,hq,by omega,by rw [hq];exact zuw _ (by omega) (by omega)⟩
theorem zu5 {a q R:Nat} (hR:1<=R):∃i:Nat,((a:Int)+(q:Int)) % (R:Int)=(i:Int)/\i<R/\((a:Int)+(q:Int)).tmod (R:Int)=(i:Int):=by
 refine⟨(a+q) % R,?_,Nat.mod_lt _ hR,?_⟩
 ·rw [<-Int.natCast_add];rfl
 ·rw [<-Int.natCast_add];rfl
theorem zvv {w:World} {g:Nat} {p0 p1 p2 q0 q1 q2 r op:Int} (hm:zp ⟨p0,p1,p2,q0,q1,q2,r⟩=true) (h3:w.cell? ⟨g,3,none⟩=some (iV q0)) (h4:w.cell? ⟨g,4,none⟩=some (iV q1)) (h5:w.cell? ⟨g,5,none⟩=some (iV q2)) :
  ∃(c:Nat) (wt:Int),zC op=(c:Int)/\(c:Int)<3/\w.cell? ⟨g,3+c,none⟩=some (iV wt)/\1<=wt/\wt<=6/\wt=xA ⟨p0,p1,p2,q0,q1,q2,r⟩ (zC op):=by
 obtain⟨a,b,c,-,-⟩:=yi hm
 have a:=zT a
 have b:=zT b
 have c:=zT c
 dsimp only at a b c
 rcases Y2 op with h | h | h
 ·exact⟨0,q0,h,by decide,h3,by omega,by omega,by rw [h];rfl⟩
 ·exact⟨1,q1,h,by decide,h4,by omega,by omega,by rw [h];rfl⟩
 ·exact⟨2,q2,h,by decide,h5,by omega,by omega,by rw [h];rfl⟩
theorem zxg {logs:List Int} {R pc now:Int} {f:Nat->Int} {m:Nat->Nat->Int} {x:Kop} (h:x.o=1):zgw logs R pc now f m x=x.nn:=by unfold zgw;rw [if_pos h]
theorem zxh {logs:List Int} {R pc now:Int} {f:Nat->Int} {m:Nat->Nat->Int} {x:Kop} (h:x.o=2):zgw logs R pc now f m x=now / pc - x.sg:=by unfold zgw;rw [if_neg (by omega),if_pos h]
theorem zxi {logs:List Int} {R pc now:Int} {f:Nat->Int} {m:Nat->Nat->Int} {x:Kop} (h:x.o=3):zgw logs R pc now f m x=m x.ar.toNat (VH logs pc now x):=by unfold zgw;rw [if_neg (by omega),if_neg (by omega),if_pos h]
theorem zx6 {logs:List Int} {R pc now:Int} {f:Nat->Int} {m:Nat->Nat->Int} {x:Kop} (h:11<=x.o):zgw logs R pc now f m x=opv (x.o - 10) (f ((x.a+now / pc) % R).toNat) (f ((x.b+now / pc) % R).toNat):=by
 unfold zgw;rw [if_neg (by omega),if_neg (by omega),if_neg (by omega),if_neg (by omega)];rfl
theorem zvz {d q:Nat} (hd:d<=300000) (hq:q<=300000):IntKind.i64.wrap ((d:Int)+(q:Int))=(d:Int)+(q:Int):=by rw [IntKind.wrap_i64];omega
theorem zv4 {T:Nat} {wt:Int} (hT:T<=300000) (h1:1<=wt) (h2:wt<=6):IntKind.i64.wrap ((T:Int)+wt)=(T:Int)+wt:=by rw [IntKind.wrap_i64];omega
theorem zs1 (w:World) (a:Addr) (v:Value) (b o:Nat) (h:b≠a.block):(w.setCell a v).cell? ⟨b,o,none⟩=w.cell? ⟨b,o,none⟩:=by
 have e:=Below.heap_setCell w a v b h
 unfold World.cell?
 dsimp only
 rw [e]
end Go.Proofs.YtjoapiafpahihabGreat
