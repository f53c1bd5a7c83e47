import Derived.Test.YtjoapiafpahihabGreatLaid
import Derived.Test.YtjoapiafpahihabGreatDepQ
import Derived.Laws.AppendOwnNone
import Derived.Laws.StructEq
import Derived.Laws.IdiomCopy
import Derived.Lib.SliceRun
import Derived.Deep.LoopGhost
import Derived.Shelf.SlSortCmp.NoneTotal
set_option maxHeartbeats 20000000
namespace Go.Proofs.YtjoapiafpahihabGreat
open Go.Proofs.Tryz
open Go.RowKit Go.Joins
set_option linter.unusedVariables false
open Go.RowKit Go.Joins Go.Lib
open Go.RowKit Go.Joins Go.Lib Go.Shelf
variable {w:World} {B g n c k:Nat} {e:TypeId} {xs:List Value} {d:Array Ed} {l:List Int}
theorem zvn (w:World) (cur:Array Value) (e:TypeId) (cap:Nat) (h:cur.size=cap*4) (hm:cap<=maxLen):(w.drew.alloc (.cells cur e)).ownsRow w.heap.size e 4 (.slice (pA w.heap.size) 0 cap) 0 []:=by
 refine⟨rfl,.inr ⟨w.heap.size,cap,cur,rfl,Nat.le_refl _,?_,Nat.zero_le _,hm,h,by simp⟩⟩
 show (w.heap.push _)[w.heap.size]?=_
 simp
theorem zm2 (w:World):Calls prog 159 #[.slice none 0 0,iV 0] w fun e w'=>e=.returned (.slice none 0 0)/\w'=w :=
 Any8.slices_Grow_room Tryz.growE none 0 0 0 w (by omega) (by omega) (by omega) (by omega)
theorem zm1 (n:Nat) (w:World) (h0:0<n) (h:n<=300):Calls prog 159 #[.slice none 0 0,iV n] w fun e w'=>∃c,e=.returned (.slice (pA w.heap.size) 0 c)/\w'.ownsRow w.heap.size 100 4 (.slice (pA w.heap.size) 0 c) 0 []/\Bw w w':=by
 obtain⟨j0,ji,jz0,jz1,jz2⟩:=info_parts Tryz.i100
 have hcon:=Any8.slices_Grow_grow Tryz.growE j0 (.agg #[iV 0,iV 0,iV 0,iV 0]) ji jz0 (by rw [jz1];omega) none 0 0 n [] w (by omega) (by omega) (by rw [jz2];omega) (by omega) (by simp) (fun _=>rfl) (fun a h=>by cases h)
 refine hcon.mono fun e w' ⟨he,hw⟩=>⟨_,he,?_,?_⟩
 ·subst hw
  have hge:0+n<=grownCap w (0+n) 0 (Tryz.growE_ren.t 25):=grownCap_ge w _ _ _
  refine zvn w _ 100 _ ?_ (grownCap_le_maxLen w _ _ _ (by unfold maxLen;omega))
  simp only [Array.size_append,size_zeroCells]
  show 0+(0+n - 0)*4+(grownCap w (0+n) 0 (Tryz.growE_ren.t 25) - (0+n))*4=_
  omega
 ·subst hw
  exact (zU w.heap.size w).trans (below_alloc1 w.drew _)
theorem U3 (n:Nat) (w:World) (h:n<=300):Calls prog 159 #[.slice none 0 0,iV n] w fun e w'=>∃a c,e=.returned (.slice a 0 c)/\w'.ownsRow w.heap.size 100 4 (.slice a 0 c) 0 []/\Bw w w':=by
 by_cases h0:n=0
 ·subst h0
  exact (zm2 w).mono fun e w' ⟨he,hw⟩=>⟨none,0,he,World.ownsRow_nil _ _ _ _,by rw [hw];exact Below.refl _ _⟩
 ·exact (zm1 n w (by omega) h).mono fun e w' ⟨c,he,ho,hb⟩=>⟨_,c,he,ho,hb⟩
theorem zc8 (h:w.ownsRow B e 4 (.slice (pA g) n c) n xs):∀(j:Nat) (u:Value),xs[j]?=some u->w.cell? (((ad g 0):Addr).add j)=some u:=by
 intro j u hj
 obtain⟨hl,h⟩:=h
 rcases h with ⟨h,-⟩ | ⟨g',cap,cur,hv,hg,hb,hn,hm,hc,ht⟩
 ·injection h with h1;cases h1
 ·injection hv with e1 e2 e3
  injection e1 with e1
  injection e1 with e1
  subst e1
  have ha:((ad g 0):Addr).add j=(ad g j):=by simp [Addr.add];omega
  rw [<-ht,List.getElem?_take] at hj
  split at hj
  ·rw [ha,cell_of_block hb]
   simpa using hj
  ·cases hj
theorem za1 (l:List Ed):∀u∈yw l,u.oneCell'=true:=by
 intro u hu
 unfold yw at hu
 obtain⟨d,-,hd⟩:=List.mem_flatMap.1 hu
 unfold zX at hd
 simp at hd
 rcases hd with rfl | rfl | rfl | rfl <;> rfl
theorem zha (a b:List Ed):yw (a++b)=yw a++yw b:=by unfold yw;simp
theorem Yi (h:w.ownsRow B e 4 (.slice none n c) n xs):n=0/\c=0/\xs=[]:=by
 obtain⟨hl,h⟩:=h
 rcases h with ⟨h,hn⟩ | ⟨g',cap,cur,hv,_⟩
 ·injection h with h1 h2 h3
  exact⟨hn,h3,List.length_eq_zero_iff.1 (by rw [hl,hn])⟩
 ·injection hv with e1;cases e1
theorem ZP {a:Addr} (h:w.ownsRow B e 4 (.slice (some a) n c) n xs):∃g,a=(ad g 0):=by
 obtain⟨hl,h⟩:=h
 rcases h with ⟨h,hn⟩ | ⟨g',cap,cur,hv,_⟩
 ·injection h with h1;cases h1
 ·injection hv with e1;injection e1 with e1;exact⟨g',e1⟩
set_option maxRecDepth 100000 in
theorem zpv (l1 l2:List Ed) (gs n1 n2 c1 c2 B1 B2 g1 g2:Nat) (w:World) (hn1:l1.length=n1) (hn2:l2.length=n2) (hs0:w.cell? (ad gs 0)=some (.slice (pA g1) n1 c1)) (hs1:w.cell? (ad gs 1)=some (.slice (pA g2) n2 c2)) (hgs:gs<w.heap.size)
  (h1:w.ownsRow B1 100 4 (.slice (pA g1) n1 c1) n1 (yw l1)) (h2:w.ownsRow B2 100 4 (.slice (pA g2) n2 c2) n2 (yw l2)) (hlen:n1+n2<=300) :
  Calls prog 126 #[.slice (pA gs) 2 2] w fun e w'=>∃ev,e=.returned ev/\w'.ownsRow w.heap.size 100 4 ev (n1+n2) (yw l1++yw l2)/\Bw w w':=by
 have H1:=z9 h1
 have H2:=z9 h2
 have HGR:Hid (Calls prog 159 #[.slice none 0 0,iV ((n1:Int)+(n2:Int))] w fun e w'=>∃a c,e=.returned (.slice a 0 c)/\w'.ownsRow w.heap.size 100 4 (.slice a 0 c) 0 []/\Bw w w'):=by
  have h:=U3 (n1+n2) w (by omega)

  exact h
 obtain⟨j0,ji,jz0,jz1,jz2⟩:=info_parts Tryz.i100
 have hc1:n1<=c1/\c1<=maxLen:=by obtain⟨a,c,e,h3,h4⟩:=zS h1;injection e with e1 e2 e3;subst e3;exact⟨h3,h4⟩
 unfold maxLen at hc1
 obtain⟨hc11,hc12⟩:=hc1
 have hc2:n2<=c2/\c2<=maxLen:=by obtain⟨a,c,e,h3,h4⟩:=zS h2;injection e with e1 e2 e3;subst e3;exact⟨h3,h4⟩
 unfold maxLen at hc2
 obtain⟨hc21,hc22⟩:=hc2
 clear h1 h2
 go_enter func126,ntmps126
 go_wp2_with fail
 refine wp_loop_rounds 3 ?_
 rw [rounds_succ]
 go_wp2_with fail
 rw [rounds_succ]
 go_wp2_with fail
 rw [rounds_succ]
 go_wp2_with fail
 refine HGR.out.mono ?_
 rintro e x1 ⟨ga,gc,rfl,ho,hb1⟩
 have HO1:=z9 ho
 have HB1:=z9 hb1
 have d0:=(zf hb1 gs 0 hgs).trans hs0
 have d1:=(zf hb1 gs 1 hgs).trans hs1
 have hz1:=hb1.size
 clear ho hb1 hs0 hs1
 go_wp2_with fail
 refine wp_loop_rounds 3 ?_
 rw [rounds_succ]
 go_wp2_with (at_builtin;refine wpList_append_own _ rfl (.tmp 31) (.tmp 32) 97 rfl w.heap.size 100 j0 (.agg #[iV 0,iV 0,iV 0,iV 0]) 4 32 underlying97 ji jz0 jz1 jz2 rfl (by decide) _ _ _ rfl HO1.out (ad g1 0) n1 c1 (yw l1) rfl (by rw [U2,hn1]) (zc8 (zA H1.out HB1.out)) (za1 l1) (by unfold maxLen;omega) (by omega) hz1 ?_;intro v2' w2 gP gN hnil2;rw [Nat.zero_add,List.nil_append] at gP;obtain⟨oa2,oc2,rfl,hl1',hl2'⟩:=zS gP;have HO2:=z9 gP;have HB2:=z9 (HB1.out.grown gN hz1 (zG HO1.out));clear gP gN)
 have d1:=(zf HB2.out gs 1 hgs).trans ((zf HB1.out gs 1 hgs).symm.trans d1)
 rw [rounds_succ]
 have hz2:=HB2.out.size
 go_wp2_with (at_builtin;refine wpList_append_own _ rfl (.tmp 31) (.tmp 32) 97 rfl w.heap.size 100 j0 (.agg #[iV 0,iV 0,iV 0,iV 0]) 4 32 underlying97 ji jz0 jz1 jz2 rfl (by decide) _ _ _ rfl HO2.out (ad g2 0) n2 c2 (yw l2) rfl (by rw [U2,hn2]) (zc8 (zA H2.out HB2.out)) (za1 l2) (by unfold maxLen;omega) (by omega) hz2 ?_;intro v3' w3 hown3 hgrow3 hnil3;obtain⟨oa3,oc3,rfl,hl3',hl4'⟩:=zS hown3;have HO3:=z9 hown3;have HB3:=z9 (HB2.out.grown hgrow3 hz2 (zG HO2.out));clear hown3 hgrow3)
 rw [rounds_succ]
 go_wp2_with fail
 go_ret
 exact⟨_,rfl,by have h:=HO3.out;exact h,HB3.out⟩
set_option maxRecDepth 100000 in
theorem zpu (l1 l2:List Ed) (gs n1 n2 c1 c2 B1 B2 g1 g2:Nat) (w:World) (hn1:l1.length=n1) (hn2:l2.length=n2) (hs0:w.cell? (ad gs 0)=some (.slice (pA g1) n1 c1)) (hs1:w.cell? (ad gs 1)=some (.slice none 0 0)) (hgs:gs<w.heap.size)
  (h1:w.ownsRow B1 100 4 (.slice (pA g1) n1 c1) n1 (yw l1)) (h2:w.ownsRow B2 100 4 (.slice none 0 0) 0 (yw [])) (hlen:n1+n2<=300) :
  Calls prog 126 #[.slice (pA gs) 2 2] w fun e w'=>∃ev,e=.returned ev/\w'.ownsRow w.heap.size 100 4 ev (n1+0) (yw l1++yw [])/\Bw w w':=by
 have H1:=z9 h1
 have H2:=z9 h2
 have HGR:Hid (Calls prog 159 #[.slice none 0 0,iV ((n1:Int))] w fun e w'=>∃a c,e=.returned (.slice a 0 c)/\w'.ownsRow w.heap.size 100 4 (.slice a 0 c) 0 []/\Bw w w'):=by
  have h:=U3 (n1+0) w (by omega)
  rw [Nat.add_zero] at h
  exact h
 obtain⟨j0,ji,jz0,jz1,jz2⟩:=info_parts Tryz.i100
 have hc1:n1<=c1/\c1<=maxLen:=by obtain⟨a,c,e,h3,h4⟩:=zS h1;injection e with e1 e2 e3;subst e3;exact⟨h3,h4⟩
 unfold maxLen at hc1
 obtain⟨hc11,hc12⟩:=hc1
 clear h1 h2
 go_enter func126,ntmps126
 go_wp2_with fail
 refine wp_loop_rounds 3 ?_
 rw [rounds_succ]
 go_wp2_with fail
 rw [rounds_succ]
 go_wp2_with fail
 rw [rounds_succ]
 go_wp2_with fail
 refine HGR.out.mono ?_
 rintro e x1 ⟨ga,gc,rfl,ho,hb1⟩
 have HO1:=z9 ho
 have HB1:=z9 hb1
 have d0:=(zf hb1 gs 0 hgs).trans hs0
 have d1:=(zf hb1 gs 1 hgs).trans hs1
 have hz1:=hb1.size
 clear ho hb1 hs0 hs1
 go_wp2_with fail
 refine wp_loop_rounds 3 ?_
 rw [rounds_succ]
 go_wp2_with (at_builtin;refine wpList_append_own _ rfl (.tmp 31) (.tmp 32) 97 rfl w.heap.size 100 j0 (.agg #[iV 0,iV 0,iV 0,iV 0]) 4 32 underlying97 ji jz0 jz1 jz2 rfl (by decide) _ _ _ rfl HO1.out (ad g1 0) n1 c1 (yw l1) rfl (by rw [U2,hn1]) (zc8 (zA H1.out HB1.out)) (za1 l1) (by unfold maxLen;omega) (by omega) hz1 ?_;intro v2' w2 gP gN hnil2;rw [Nat.zero_add,List.nil_append] at gP;obtain⟨oa2,oc2,rfl,hl1',hl2'⟩:=zS gP;have HO2:=z9 gP;have HB2:=z9 (HB1.out.grown gN hz1 (zG HO1.out));clear gP gN)
 have d1:=(zf HB2.out gs 1 hgs).trans ((zf HB1.out gs 1 hgs).symm.trans d1)
 rw [rounds_succ]
 go_wp2_with (at_builtin;refine wpList_append_own_none rfl (.tmp 31) (.tmp 32) 97 rfl w.heap.size 100 j0 4 underlying97 ji _ _ _ rfl HO2.out rfl ?_)
 rw [rounds_succ]
 go_wp2_with fail
 go_ret
 exact⟨_,rfl,by have h:=HO2.out;simpa [yw] using h,HB2.out⟩
set_option maxRecDepth 100000 in
theorem zpt (l1 l2:List Ed) (gs n1 n2 c1 c2 B1 B2 g1 g2:Nat) (w:World) (hn1:l1.length=n1) (hn2:l2.length=n2) (hs0:w.cell? (ad gs 0)=some (.slice none 0 0)) (hs1:w.cell? (ad gs 1)=some (.slice (pA g2) n2 c2)) (hgs:gs<w.heap.size)
  (h1:w.ownsRow B1 100 4 (.slice none 0 0) 0 (yw [])) (h2:w.ownsRow B2 100 4 (.slice (pA g2) n2 c2) n2 (yw l2)) (hlen:n1+n2<=300) :
  Calls prog 126 #[.slice (pA gs) 2 2] w fun e w'=>∃ev,e=.returned ev/\w'.ownsRow w.heap.size 100 4 ev (0+n2) (yw []++yw l2)/\Bw w w':=by
 have H1:=z9 h1
 have H2:=z9 h2
 have HGR:Hid (Calls prog 159 #[.slice none 0 0,iV ((n2:Int))] w fun e w'=>∃a c,e=.returned (.slice a 0 c)/\w'.ownsRow w.heap.size 100 4 (.slice a 0 c) 0 []/\Bw w w'):=by
  have h:=U3 (0+n2) w (by omega)
  rw [Nat.zero_add] at h
  exact h
 obtain⟨j0,ji,jz0,jz1,jz2⟩:=info_parts Tryz.i100
 have hc2:n2<=c2/\c2<=maxLen:=by obtain⟨a,c,e,h3,h4⟩:=zS h2;injection e with e1 e2 e3;subst e3;exact⟨h3,h4⟩
 unfold maxLen at hc2
 obtain⟨hc21,hc22⟩:=hc2
 clear h1 h2
 go_enter func126,ntmps126
 go_wp2_with fail
 refine wp_loop_rounds 3 ?_
 rw [rounds_succ]
 go_wp2_with fail
 rw [rounds_succ]
 go_wp2_with fail
 rw [rounds_succ]
 go_wp2_with fail
 refine HGR.out.mono ?_
 rintro e x1 ⟨ga,gc,rfl,ho,hb1⟩
 have HO1:=z9 ho
 have HB1:=z9 hb1
 have d0:=(zf hb1 gs 0 hgs).trans hs0
 have d1:=(zf hb1 gs 1 hgs).trans hs1
 have hz1:=hb1.size
 clear ho hb1 hs0 hs1
 go_wp2_with fail
 refine wp_loop_rounds 3 ?_
 rw [rounds_succ]
 go_wp2_with (at_builtin;refine wpList_append_own_none rfl (.tmp 31) (.tmp 32) 97 rfl w.heap.size 100 j0 4 underlying97 ji _ _ _ rfl HO1.out rfl ?_)
 rw [rounds_succ]
 have hz2:=HB1.out.size
 go_wp2_with (at_builtin;refine wpList_append_own _ rfl (.tmp 31) (.tmp 32) 97 rfl w.heap.size 100 j0 (.agg #[iV 0,iV 0,iV 0,iV 0]) 4 32 underlying97 ji jz0 jz1 jz2 rfl (by decide) _ _ _ rfl HO1.out (ad g2 0) n2 c2 (yw l2) rfl (by rw [U2,hn2]) (zc8 (zA H2.out HB1.out)) (za1 l2) (by unfold maxLen;omega) (by omega) hz2 ?_;intro v3' w3 hown3 hgrow3 hnil3;rw [Nat.zero_add,List.nil_append] at hown3;obtain⟨oa3,oc3,rfl,hl3',hl4'⟩:=zS hown3;have HO3:=z9 hown3;have HB3:=z9 (HB1.out.grown hgrow3 hz2 (zG HO1.out));clear hown3 hgrow3)
 rw [rounds_succ]
 go_wp2_with fail
 go_ret
 exact⟨_,rfl,by have h:=HO3.out;simpa [yw] using h,HB3.out⟩
set_option maxRecDepth 100000 in
theorem zps (l1 l2:List Ed) (gs n1 n2 c1 c2 B1 B2 g1 g2:Nat) (w:World) (hn1:l1.length=n1) (hn2:l2.length=n2) (hs0:w.cell? (ad gs 0)=some (.slice none 0 0)) (hs1:w.cell? (ad gs 1)=some (.slice none 0 0)) (hgs:gs<w.heap.size)
  (h1:w.ownsRow B1 100 4 (.slice none 0 0) 0 (yw [])) (h2:w.ownsRow B2 100 4 (.slice none 0 0) 0 (yw [])) (hlen:n1+n2<=300) :
  Calls prog 126 #[.slice (pA gs) 2 2] w fun e w'=>∃ev,e=.returned ev/\w'.ownsRow w.heap.size 100 4 ev (0+0) (yw []++yw [])/\Bw w w':=by
 have H1:=z9 h1
 have H2:=z9 h2
 have HGR:Hid (Calls prog 159 #[.slice none 0 0,iV (0)] w fun e w'=>∃a c,e=.returned (.slice a 0 c)/\w'.ownsRow w.heap.size 100 4 (.slice a 0 c) 0 []/\Bw w w'):=by
  have h:=U3 (0+0) w (by omega)

  exact h
 obtain⟨j0,ji,jz0,jz1,jz2⟩:=info_parts Tryz.i100
 clear h1 h2
 go_enter func126,ntmps126
 go_wp2_with fail
 refine wp_loop_rounds 3 ?_
 rw [rounds_succ]
 go_wp2_with fail
 rw [rounds_succ]
 go_wp2_with fail
 rw [rounds_succ]
 go_wp2_with fail
 refine HGR.out.mono ?_
 rintro e x1 ⟨ga,gc,rfl,ho,hb1⟩
 have HO1:=z9 ho
 have HB1:=z9 hb1
 have d0:=(zf hb1 gs 0 hgs).trans hs0
 have d1:=(zf hb1 gs 1 hgs).trans hs1
 have hz1:=hb1.size
 clear ho hb1 hs0 hs1
 go_wp2_with fail
 refine wp_loop_rounds 3 ?_
 rw [rounds_succ]
 go_wp2_with (at_builtin;refine wpList_append_own_none rfl (.tmp 31) (.tmp 32) 97 rfl w.heap.size 100 j0 4 underlying97 ji _ _ _ rfl HO1.out rfl ?_)
 rw [rounds_succ]
 go_wp2_with (at_builtin;refine wpList_append_own_none rfl (.tmp 31) (.tmp 32) 97 rfl w.heap.size 100 j0 4 underlying97 ji _ _ _ rfl HO1.out rfl ?_)
 rw [rounds_succ]
 go_wp2_with fail
 go_ret
 exact⟨_,rfl,by have h:=HO1.out;simpa [yw] using h,HB1.out⟩
theorem zli (l1 l2:List Ed) (gs B1 B2:Nat) (v1 v2:Value) (w:World) (hs0:w.cell? (ad gs 0)=some v1) (hs1:w.cell? (ad gs 1)=some v2) (hgs:gs<w.heap.size)
  (h1:w.ownsRow B1 100 4 v1 l1.length (yw l1)) (h2:w.ownsRow B2 100 4 v2 l2.length (yw l2)) (hlen:l1.length+l2.length<=300) :
  Calls prog 126 #[.slice (pA gs) 2 2] w fun e w'=>∃ev,e=.returned ev/\w'.ownsRow w.heap.size 100 4 ev (l1++l2).length (yw (l1++l2))/\Bw w w':=by
 rw [zha,List.length_append]
 obtain⟨a1,c1,rfl,-,-⟩:=zS h1
 obtain⟨a2,c2,rfl,-,-⟩:=zS h2
 cases a1 with
 | none =>
   obtain⟨e1,rfl,e3⟩:=Yi h1
   have e4:l1=[]:=List.length_eq_zero_iff.1 e1
   subst e4
   cases a2 with
   | none =>
     obtain⟨e1,rfl,e3⟩:=Yi h2
     have e4:l2=[]:=List.length_eq_zero_iff.1 e1
     subst e4
     exact zps [] [] gs 0 0 0 0 B1 B2 0 0 w rfl rfl hs0 hs1 hgs h1 h2 (by omega)
   | some a =>
     obtain⟨g2,rfl⟩:=ZP h2
     exact zpt [] l2 gs 0 l2.length 0 c2 B1 B2 0 g2 w rfl rfl hs0 hs1 hgs h1 h2 (by simpa using hlen)
 | some a =>
   obtain⟨g1,rfl⟩:=ZP h1
   cases a2 with
   | none =>
     obtain⟨e1,rfl,e3⟩:=Yi h2
     have e4:l2=[]:=List.length_eq_zero_iff.1 e1
     subst e4
     exact zpu l1 [] gs l1.length 0 c1 0 B1 B2 g1 0 w rfl rfl hs0 hs1 hgs h1 h2 (by simpa using hlen)
   | some a =>
     obtain⟨g2,rfl⟩:=ZP h2
     exact zpv l1 l2 gs l1.length l2.length c1 c2 B1 B2 g1 g2 w rfl rfl hs0 hs1 hgs h1 h2 hlen
def ErV [Inhabited Ed] (w:World) (g:Nat) (d:Array Ed):Prop:=∀i,i<d.size->∀j,j<4->w.cell? (ad g (i*4+j))=(zX d[i]!)[j]?/\w.frozen? (ad g (i*4+j))=false
theorem ErV.parts [Inhabited Ed] (h:ErV w g d) {i:Nat} (hi:i<d.size) :
  (w.cell? (ad g (i*4))=some (iV d[i]!.fr)/\w.cell? (ad g (i*4+1))=some (iV d[i]!.to)/\w.cell? (ad g (i*4+2))=some (iV d[i]!.bk)/\w.cell? (ad g (i*4+3))=some (iV d[i]!.wt)) /\
  (w.frozen? (ad g (i*4))=false/\w.frozen? (ad g (i*4+1))=false/\w.frozen? (ad g (i*4+2))=false/\w.frozen? (ad g (i*4+3))=false) :=
 ⟨⟨(h i hi 0 (by omega)).1,(h i hi 1 (by omega)).1,(h i hi 2 (by omega)).1,(h i hi 3 (by omega)).1⟩,⟨(h i hi 0 (by omega)).2,(h i hi 1 (by omega)).2,(h i hi 2 (by omega)).2,(h i hi 3 (by omega)).2⟩⟩
theorem ErV.set [Inhabited Ed] (h:ErV w g d) (hk:k<d.size) (u:Ed):ErV (w.setCells g (k*4) (zX u)) g (d.setIfInBounds k u):=by
 intro i hi j hj
 have hi':i<d.size:=by simpa using hi
 refine⟨?_,by rw [World.frozen?_setCells];exact (h i hi' j hj).2⟩
 by_cases e:i=k
 ·subst e
  have h1:=World.cell?_setCells_in g (zX u) (i*4) w (fun q hq=>by
   have:=(h i hi' q (by have:(zX u).length=4:=rfl;omega)).1
   rw [this]
   have:q<(zX d[i]!).length:=by have:(zX u).length=4:=rfl;show q<4;omega
   rw [List.getElem?_eq_getElem this];rfl) j (by show j<4;exact hj)
  rw [h1,Go.Sort.getElem!_set_same d i u hi',List.getElem?_eq_getElem (by show j<4;exact hj)]
 ·rw [World.cell?_setCells_out _ _ _ _ _ (fun _ _=>by
   have:(zX u).length=4:=rfl
   show i*4+j<k*4\/k*4+(zX u).length<=i*4+j
   omega),Go.Sort.getElem!_set_other d k i u e]
  exact (h i hi' j hj).1
theorem ErV.out [Inhabited Ed] (h:ErV w g d) (o:Nat) (vs:List Value) (ho:d.size*4<=o):ErV (w.setCells g o vs) g d:=by
 intro i hi j hj
 refine⟨?_,by rw [World.frozen?_setCells];exact (h i hi j hj).2⟩
 rw [World.cell?_setCells_out _ _ _ _ _ (fun _ _=>.inl (by show i*4+j<o;omega))]
 exact (h i hi j hj).1
theorem ErV.less [Inhabited Ed] {d':Array Ed} (h:ErV w g d) (hs:d'.size<=d.size) (he:∀i,i<d'.size->d'[i]! = d[i]!):ErV w g d':=fun i hi j hj=>by
 rw [he i hi];exact h i (by omega) j hj
theorem YL (hB:B<=g):∀(vs:List Value) (o:Nat) (a w:World),Below B a w->Below B a (w.setCells g o vs)
 | [],_,_,_,h=>h
 | v :: r,o,a,w,h=>YL hB r (o+1) a _ (h.setCell (p:=(ad g o)) hB v)
theorem zpk {P:Program} (w:World) (t e ty:TypeId) (z:Value) (ht:P.underlying t=some (.slice e)) (hv:∀w,(zeroValue e).run P w=.ok z w) (b o n c:Nat) (hn:0<n)
  (hc:∀j,j<(Builtin.zeroCells z.cells n).toList.length->(w.cell? (ad b (o+j))).isSome=true) (hf:∀j,j<(Builtin.zeroCells z.cells n).toList.length->w.frozen? (ad b (o+j))=false) (h1:∀v∈(Builtin.zeroCells z.cells n).toList,v.oneCell'=true) :
  (Builtin.clear_ #[t] ty #[.slice (some (ad b o)) n c]).run P w=.ok (.tuple #[]) (w.setCells b o (Builtin.zeroCells z.cells n).toList):=by
 have hst:=run_storeCells_cells (P:=P) b o (Builtin.zeroCells z.cells n).toList 0 w (by simpa using hc) (by simpa using hf) h1
 simp only [Nat.add_zero] at hst
 obtain⟨m,rfl⟩:∃m,n=m+1:=⟨n - 1,by omega⟩
 simp [Builtin.clear_,run_underlying ht,hv,hst]
theorem zwv:∀v∈(Builtin.zeroCells (.agg #[iV 0,iV 0,iV 0,iV 0]:Value).cells n).toList,v.oneCell'=true:=by
 intro v hv
 unfold Builtin.zeroCells at hv
 simp at hv
 obtain⟨i,hi,rfl⟩:=hv
 have:i % 4=0\/i % 4=1\/i % 4=2\/i % 4=3:=by omega
 rcases this with h | h | h | h <;> simp [Value.cells,h] <;> rfl
theorem XB (b:Nat):∀(vs:List Value) (o:Nat) (w:World),(w.setCells b o vs).heap.size=w.heap.size
 | [],_,_=>rfl
 | v :: r,o,w=>(XB b r (o+1) _).trans (by simp [World.setCell])
theorem ybs (x1 x2 x3 x4 y1 y2 y3 y4:Int) (b:Bool) (hb:b=decide (x1=y1/\x2=y2/\x3=y3/\x4=y4)) (w:World):(binOp .eql 100 (.agg #[iV x1,iV x2,iV x3,iV x4]) (.agg #[iV y1,iV y2,iV y3,iV y4])).run prog w=.ok (.bool b) w:=by
 have hS:prog.underlying 100=some (.struct (prog.fieldsOf 100)):=by kernel_rfl
 have hp:prog.stoodInHeld 100=false:=by kernel_rfl
 rw [run_eql_struct,show (10000:Nat)=9999+1 from rfl,run_equalIn_agg w 9999 100 _ _ hS hp]
 simp only [Program.fieldsOf,underlying100]
 have u3:=underlying3
 go_simp
 subst hb
 by_cases h1:x1=y1 <;> by_cases h2:x2=y2 <;> by_cases h3:x3=y3 <;> by_cases h4:x4=y4 <;> simp [h1,h2,h3,h4]
theorem ybt (x1 x2 x3 x4 y1 y2 y3 y4:Int) (b:Bool) (hb:b=!decide (x1=y1/\x2=y2/\x3=y3/\x4=y4)) (w:World):(binOp .neq 100 (.agg #[iV x1,iV x2,iV x3,iV x4]) (.agg #[iV y1,iV y2,iV y3,iV y4])).run prog w=.ok (.bool b) w:=by
 have hS:prog.underlying 100=some (.struct (prog.fieldsOf 100)):=by kernel_rfl
 have hp:prog.stoodInHeld 100=false:=by kernel_rfl
 rw [run_neq_struct,show (10000:Nat)=9999+1 from rfl,run_equalIn_agg w 9999 100 _ _ hS hp]
 simp only [Program.fieldsOf,underlying100]
 have u3:=underlying3
 go_simp
 subst hb
 by_cases h1:x1=y1 <;> by_cases h2:x2=y2 <;> by_cases h3:x3=y3 <;> by_cases h4:x4=y4 <;> simp [h1,h2,h3,h4]
theorem zzy (op:BinOp) (a b:Operand) (x1 x2 x3 x4 y1 y2 y3 y4:Int) (w:World):(eqGuard op 100 a b (.agg #[iV x1,iV x2,iV x3,iV x4]) (.agg #[iV y1,iV y2,iV y3,iV y4])).run prog w=.ok () w:=run_eqGuard_agg w op 100 a b _ _ (by kernel_rfl)
set_option maxRecDepth 100000 in
theorem zej [Inhabited Ed] [DecidableEq Ed] (g cap B:Nat) (d:Array Ed) (w:World) (hH:ErV w g d) (hB:B<=g) (hg:g<w.heap.size) (hsz:d.size<=300) (hcap:d.size<=cap) (hm:cap<=9223372036854775807) :
  Calls prog 131 #[.slice (pA g) d.size cap] w fun e w'=>e=.returned (.slice (pA g) (compactUpTo d d.size).length cap)/\ErV w' g (compactUpTo d d.size).toArray/\Below B w w'/\w.heap.size<=w'.heap.size:=by
 have HH:=z9 hH
 clear hH
 have HALL:Hid (∀wr,ErV wr g d->(∀j,j<d.size->keeps d j=true)->compactUpTo d d.size=d.toList/\ErV wr g (compactUpTo d d.size).toArray):=by
  intro wr hr hall
  have e:compactUpTo d d.size=d.toList:=by rw [compactUpTo_all d _ hall,range_map_get]
  exact⟨e,by rw [e];simpa using hr⟩
 have HEQ:=z9 ybs
 have HNE:=z9 ybt
 have HGU:=z9 zzy
 by_cases h2:d.size<2
 ·have h2i:(d.size:Int)<2:=by omega
  go_enter func131,ntmps131
  go_wp2_with fail
  go_ret
  obtain⟨e1,e2⟩:=HALL.out w HH.out (fun j hj=>keeps_lt_one d j (by omega))
  exact⟨by rw [e1];simp,e2,Below.refl _ _,Nat.le_refl _⟩
 ·have h2i:¬(d.size:Int)<2:=by omega
  go_enter func131,ntmps131
  go_wp2_with fail
  go_loopw [3] (fun s3 wr=>∃k:Nat,1<=k/\k<=d.size/\s3=iV k/\(∀j,j<k->keeps d j=true)/\ErV wr g d/\Below B w wr/\w.heap.size<=wr.heap.size) (fun s3 _=>d.size - (intOf s3).toNat)
  case atStart=>exact⟨1,Nat.le_refl _,by omega,rfl,keeps_lt_one d,HH.out,Below.refl _ _,Nat.le_refl _⟩
  case round =>
   obtain⟨k,hk1,hk,rfl,hall,hE,hBe,hZ⟩:=hrel
   have HA:=z9 hall
   have HE:=z9 hE
   have HBe:=z9 hBe
   clear hall hE hBe
   by_cases hlt:k<d.size
   ·obtain⟨m,rfl⟩:∃m,k=m+1:=⟨k - 1,by omega⟩
    obtain⟨⟨c0,c1,c2,c3⟩,-⟩:=HE.out.parts hlt
    obtain⟨⟨e0,e1,e2,e3⟩,-⟩:=HE.out.parts (i:=m) (by omega)
    have HKP:=z9 (fun h=>keeps_pos (d:=d) (m:=m+1) h)
    have HKN:=z9 (fun h=>keeps_neg (d:=d) (m:=m+1) (by omega) h)
    rw [Nat.add_sub_cancel] at HKP HKN
    generalize d[m+1]! = x at *
    generalize d[m]! = y at *
    obtain⟨x1,x2,x3,x4⟩:=x
    obtain⟨y1,y2,y3,y4⟩:=y
    dsimp only at c0 c1 c2 c3 e0 e1 e2 e3
    have hmi:(m:Int)<(d.size:Int):=by omega
    have hki:((m:Int)+1)<(d.size:Int):=by omega
    have hws:IntKind.i64.wrap ((m:Int)+1 - 1)=(m:Int):=by rw [IntKind.wrap_i64];omega
    have hgu:=HGU.out .eql
    by_cases hdup:(⟨x1,x2,x3,x4⟩:Ed)=⟨y1,y2,y3,y4⟩
    ·have heq:=HEQ.out x1 x2 x3 x4 y1 y2 y3 y4 true (by rw [Ed.mk.injEq] at hdup;simp [hdup])
     go_wp2_with fail
     go_big_quiet ((fail))
     clear c0 c1 c2 c3 e0 e1 e2 e3 heq hgu hws
     have HDN:=z9 (HKN.out hdup)
     obtain⟨R,hR⟩:∃R,d.size - (m+1)=R:=⟨_,rfl⟩
     have hRc:R<=cap - (m+1):=by omega
     rename World=>wo
     go_wp2_with fail
     go_loopw [3,5] (fun s3 s5 wr=>∃(kk m2:Nat) (dk:Array Ed),s3=iV kk/\s5=iV ((m2:Int)+1)/\m+1+(m2+1)<=d.size/\CompInv d (m+1+(m2+1)) kk dk/\ErV wr g dk/\Below B w wr/\w.heap.size<=wr.heap.size) (fun _ s5 _=>d.size - (intOf s5).toNat)
     case atStart=>exact⟨m+1,0,d,rfl,rfl,by omega,CompInv.start HA.out HDN.out,HE.out,HBe.out.trans (below_draws _ _ _),by simpa using hZ⟩
     case round =>
      clear HE HBe hZ
      obtain⟨kk,m2,dk,rfl,rfl,hle,hI,hE,hBe,hZ⟩:=hrel
      have hkk:=hI.lt
      have hds:=hI.size
      have HI:=z9 hI
      have HE:=z9 hE
      have HBe:=z9 hBe
      by_cases hlt2:m+1+(m2+1)<d.size
      ·obtain⟨⟨c0,c1,c2,c3⟩,-⟩:=hE.parts (i:=m+1+(m2+1)) (by omega)
       obtain⟨⟨e0,e1,e2,e3⟩,-⟩:=hE.parts (i:=m+1+m2) (by omega)
       obtain⟨⟨b0,b1,b2,b3⟩,⟨f0,f1,f2,f3⟩⟩:=hE.parts (i:=kk) (by omega)
       rw [hI.high (m+1+(m2+1)) (by omega)] at c0 c1 c2 c3
       rw [hI.high (m+1+m2) (by omega)] at e0 e1 e2 e3
       rw [show (m+1+(m2+1))*4=(m+1)*4+(m2+1)*4 by omega] at c0 c1 c2 c3
       rw [show (m+1+m2)*4=(m+1)*4+m2*4 by omega] at e0 e1 e2 e3
       have HSK:=z9 (fun h=>hI.skip (keeps_neg (d:=d) (m:=m+1+(m2+1)) (by omega) h))
       have HKE:=z9 (fun h=>hI.keep hlt2 (keeps_pos (d:=d) (m:=m+1+(m2+1)) h))
       rw [show m+1+(m2+1) - 1=m+1+m2 by omega] at HSK HKE
       have HST:=z9 (fun u=>hE.set (k:=kk) (by omega) u)
       clear hI hE hBe
       generalize d[m+1+(m2+1)]! = x at *
       generalize d[m+1+m2]! = y at *
       generalize dk[kk]! = z at *
       obtain⟨x1,x2,x3,x4⟩:=x
       obtain⟨y1,y2,y3,y4⟩:=y
       dsimp only at c0 c1 c2 c3 e0 e1 e2 e3
       have i1:(m2:Int)+1<(R:Int):=by omega
       have i2:(m2:Int)<(R:Int):=by omega
       have i3:(kk:Int)<(d.size:Int):=by omega
       have hws:IntKind.i64.wrap ((m2:Int)+1 - 1)=(m2:Int):=by rw [IntKind.wrap_i64];omega
       have hgu:=HGU.out .neq
       by_cases hxy:(⟨x1,x2,x3,x4⟩:Ed)=⟨y1,y2,y3,y4⟩
       ·have hne:=HNE.out x1 x2 x3 x4 y1 y2 y3 y4 false (by rw [Ed.mk.injEq] at hxy;simp [hxy])
        have HIS:=z9 (HSK.out hxy)
        clear hxy HSK HKE HST
        go_wp2_with fail
        go_big_quiet ((fail))
        go_wp2_with fail
        go_roundw
        case rel=>exact⟨kk,m2+1,dk,rfl,by go_num,by omega,HIS.out,HE.out,HBe.out.trans (below_draws _ _ _),by simpa using hZ⟩
        case measure=>simp [intOf];omega
       ·have hne:=HNE.out x1 x2 x3 x4 y1 y2 y3 y4 true (by rw [Ed.mk.injEq] at hxy;simp [hxy])
        have HIS:=z9 (HKE.out hxy)
        clear hxy HSK HKE
        go_wp2_with fail
        go_big_quiet ((fail))
        go_wp2_with fail
        go_roundw
        case rel=>exact⟨kk+1,m2+1,dk.setIfInBounds kk ⟨x1,x2,x3,x4⟩,by go_num,by go_num,by omega,HIS.out,HST.out ⟨x1,x2,x3,x4⟩,YL hB (zX ⟨x1,x2,x3,x4⟩) (kk*4) w _ (HBe.out.trans (below_draws _ _ _)),by have:=XB g (zX ⟨x1,x2,x3,x4⟩) (kk*4) wr;simpa using Nat.le_trans hZ (Nat.le_of_eq this.symm)⟩
        case measure=>simp [intOf];omega
      ·have hend:m+1+(m2+1)=d.size:=by omega
       have HCL:Hid (∀ty,(Builtin.clear_ #[97] ty #[.slice (some (ad g (kk*4))) (d.size - kk) (cap - kk)]).run prog wr=.ok (.tuple #[]) (wr.setCells g (kk*4) (Builtin.zeroCells (.agg #[iV 0,iV 0,iV 0,iV 0]:Value).cells (d.size - kk)).toList)):=by
        intro ty
        have hzl:(Builtin.zeroCells (.agg #[iV 0,iV 0,iV 0,iV 0]:Value).cells (d.size - kk)).toList.length=(d.size - kk)*4:=by rw [Array.length_toList,size_zeroCells];rfl
        refine zpk wr _ _ ty _ underlying97 Tryz.zeroValue100 g (kk*4) _ _ (by omega) ?_ ?_ ?_
        ·intro j hj
         rw [hzl] at hj
         have h:=(hE (kk+j / 4) (by omega) (j % 4) (by omega)).1
         rw [show (kk+j / 4)*4+j % 4=kk*4+j by omega] at h
         rw [h,List.getElem?_eq_getElem (show j % 4<(zX dk[kk+j / 4]!).length by show j % 4<4;omega)];rfl
        ·intro j hj
         rw [hzl] at hj
         have h:=(hE (kk+j / 4) (by omega) (j % 4) (by omega)).2
         rw [show (kk+j / 4)*4+j % 4=kk*4+j by omega] at h
         exact h
        ·intro v hv
         exact zwv v hv
       rw [hend] at HI
       have i1:¬(m2:Int)+1<(R:Int):=by omega
       have i3:(kk:Int)<=(d.size:Int):=by omega
       have hcl:=HCL.out
       clear hI hE hBe
       go_wp2_with fail
       go_ret
       refine⟨by rw [HI.out.len];rfl,?_,YL hB _ _ _ _ HBe.out,by rw [XB];exact hZ⟩
       refine (HE.out.less (d':=(compactUpTo d d.size).toArray) ?_ ?_).out _ _ ?_
       ·rw [List.size_toArray,HI.out.len];omega
       ·intro i hi
        have hi':i<kk:=by rw [List.size_toArray,HI.out.len] at hi;exact hi
        have h:=HI.out.low i hi'
        rw [getElem!_pos _ i hi]
        simp only [List.getElem_toArray]
        have h2:=List.getElem?_eq_getElem (l:=compactUpTo d d.size) (i:=i) (by rw [HI.out.len];exact hi')
        rw [h] at h2
        exact (Option.some.inj h2).symm
       ·rw [List.size_toArray,HI.out.len];exact Nat.le_refl _
    ·have heq:=HEQ.out x1 x2 x3 x4 y1 y2 y3 y4 false (by rw [Ed.mk.injEq] at hdup;simp [hdup])
     have HK2:=z9 (HKP.out hdup)
     go_wp2_with fail
     go_big_quiet ((fail))
     go_wp2_with fail
     go_roundw
     case rel=>exact⟨m+1+1,by omega,by omega,by go_num,fun j hj=>(by by_cases e:j=m+1;exact e ▸ HK2.out;exact HA.out j (by omega)),HE.out,HBe.out.trans (below_draws _ _ _),by simpa using hZ⟩
     case measure=>simp [intOf];omega
   ·have:k=d.size:=by omega
    subst this
    have hki:¬(d.size:Int)<(d.size:Int):=by omega
    go_wp2_with fail
    go_ret
    obtain⟨e1,e2⟩:=HALL.out _ HE.out HA.out
    exact⟨by rw [e1];simp,e2,HBe.out,hZ⟩
theorem zb0 (x:Int) (w:World):Calls prog 188 #[iV x] w fun e w'=>e=.returned (.bool false)/\w'=w:=by
 have hb:(x != x)=false:=by simp
 go_enter func188,ntmps188
 go_wp2_with fail
 go_ret
 exact⟨rfl,rfl⟩
theorem Xk (x y:Int) (w:World):Calls prog 165 #[iV x,iV y] w fun e w'=>e=.returned (iV (ZK x y))/\w'=w:=by
 unfold ZK
 by_cases h1:x<y
 ·rw [if_pos h1]
  go_enter func165,ntmps165
  go_wp2_with (go_at_call 188;refine (zb0 _ _).mono ?_;rintro e w' ⟨rfl,rfl⟩)
  go_ret
  exact⟨rfl,rfl⟩
 ·rw [if_neg h1]
  by_cases h2:y<x
  ·rw [if_pos h2]
   go_enter func165,ntmps165
   go_wp2_with (go_at_call 188;refine (zb0 _ _).mono ?_;rintro e w' ⟨rfl,rfl⟩)
   go_ret
   exact⟨rfl,rfl⟩
  ·rw [if_neg h2]
   go_enter func165,ntmps165
   go_wp2_with (go_at_call 188;refine (zb0 _ _).mono ?_;rintro e w' ⟨rfl,rfl⟩)
   go_ret
   exact⟨rfl,rfl⟩
def zba (l:List Int) (k:Nat):Int:=match (l.drop k).find? (fun x=>decide (x≠0)) with | some x=>x | none=>0
theorem VG (hk:k<l.length) (h:nth l k≠0):zba l k=nth l k:=by
 have e:l.drop k=nth l k :: l.drop (k+1):=by
  rw [List.drop_eq_getElem_cons hk]
  unfold nth
  rw [List.getD_eq_getElem?_getD,List.getElem?_eq_getElem hk];rfl
 unfold zba
 rw [e,List.find?_cons_of_pos (by simpa using h)]
theorem zae (hk:k<l.length) (h:nth l k=0):zba l k=zba l (k+1):=by
 have e:l.drop k=nth l k :: l.drop (k+1):=by
  rw [List.drop_eq_getElem_cons hk]
  unfold nth
  rw [List.getD_eq_getElem?_getD,List.getElem?_eq_getElem hk];rfl
 unfold zba
 rw [e,List.find?_cons_of_neg (by simpa using h)]
theorem zjp:zba l l.length=0:=by unfold zba;rw [List.drop_length];rfl
theorem yaj (a b:Ed):zba [ZK a.fr b.fr,ZK a.to b.to,ZK a.bk b.bk,ZK a.wt b.wt] 0=Uw a b:=by
 unfold Uw
 generalize ZK a.fr b.fr=x
 generalize ZK a.to b.to=y
 generalize ZK a.bk b.bk=z
 generalize ZK a.wt b.wt=u
 by_cases h1:x≠0
 ·rw [if_pos h1,VG (by simp) (show nth [x,y,z,u] 0≠0 from h1)];rfl
 ·rw [if_neg h1,zae (by simp) (show nth [x,y,z,u] 0=0 from Classical.not_not.1 h1)]
  by_cases h2:y≠0
  ·rw [if_pos h2,VG (by simp) (show nth [x,y,z,u] 1≠0 from h2)];rfl
  ·rw [if_neg h2,zae (by simp) (show nth [x,y,z,u] 1=0 from Classical.not_not.1 h2)]
   by_cases h3:z≠0
   ·rw [if_pos h3,VG (by simp) (show nth [x,y,z,u] 2≠0 from h3)];rfl
   ·rw [if_neg h3,zae (by simp) (show nth [x,y,z,u] 2=0 from Classical.not_not.1 h3)]
    by_cases h4:u=0
    ·rw [zae (by simp) (show nth [x,y,z,u] 3=0 from h4),h4];exact zjp (l:=[x,y,z,0])
    ·rw [VG (by simp) (show nth [x,y,z,u] 3≠0 from h4)];rfl
theorem yai (zs:List Int) (g cap:Nat) (w:World) (hn:zs.length<=cap) (hcap:cap<=9223372036854775807) (hc:∀i,i<zs.length->w.cell? (ad g i)=sI (nth zs i)) :
  Calls prog 164 #[.slice (pA g) zs.length cap] w fun e w'=>e=.returned (iV (zba zs 0))/\w'=w:=by
 have HC:=z9 hc
 clear hc
 go_enter func164,ntmps164
 go_wp2_with fail
 go_loop [8] (fun i=>∃k:Nat,k<=zs.length/\i=iV k/\zba zs 0=zba zs k) (fun i=>zs.length - (intOf i).toNat)
 case atStart=>exact⟨0,Nat.zero_le _,rfl,rfl⟩
 case round =>
  obtain⟨k,hk,rfl,hor⟩:=hrel
  have HOR:=z9 hor
  clear hor
  by_cases hlt:k<zs.length
  ·have hki:(k:Int)<(zs.length:Int):=by omega
   have hck:=HC.out k hlt
   by_cases h0:nth zs k=0
   ·have HN:=z9 (zae hlt h0)
    have hbb:(nth zs k != 0)=false:=by simpa using h0
    clear h0
    go_wp2_with fail
    go_round
    case rel=>exact⟨k+1,by omega,by go_num,HOR.out.trans HN.out⟩
    case measure=>simp [intOf];omega
   ·have HY:=z9 (VG hlt h0)
    have hbb:(nth zs k != 0)=true:=by simpa using h0
    clear h0
    go_wp2_with fail
    go_ret
    exact⟨yO (by rw [HOR.out,HY.out]),rfl⟩
  ·have e:k=zs.length:=by omega
   have HE:Hid (zba zs k=0):=by show zba zs k=0;rw [e];exact zjp
   have hki:¬(k:Int)<(zs.length:Int):=by omega
   clear e
   go_wp2_with fail
   go_ret
   exact⟨yO (by rw [HOR.out,HE.out]),rfl⟩
set_option maxRecDepth 100000 in
theorem zh4 (a1 a2 a3 a4 b1 b2 b3 b4:Int) (w:World) :
  Calls prog 130 #[.agg #[iV a1,iV a2,iV a3,iV a4],.agg #[iV b1,iV b2,iV b3,iV b4]] w fun e w'=>e=.returned (iV (Uw ⟨a1,a2,a3,a4⟩ ⟨b1,b2,b3,b4⟩))/\∃q os',w'=Go.Sort.grow (w.drewN q) os':=by
 have HX:Hid (((w.alloc (.cells #[iV a1,iV a2,iV a3,iV a4] 100)).alloc (.cells #[iV b1,iV b2,iV b3,iV b4] 100)).heap.size=w.heap.size+1+1):=by show _=_;simp
 have HSS:Hid (∀w':World,Below (w.heap.size+1+1) ((w.alloc (.cells #[iV a1,iV a2,iV a3,iV a4] 100)).alloc (.cells #[iV b1,iV b2,iV b3,iV b4] 100)) w'->(w'.cell? (ad w.heap.size 0)=sI a1/\w'.cell? (ad w.heap.size 1)=sI a2/\w'.cell? (ad w.heap.size 2)=sI a3/\w'.cell? (ad w.heap.size 3)=sI a4)/\(w'.cell? (ad (w.heap.size+1) 0)=sI b1/\w'.cell? (ad (w.heap.size+1) 1)=sI b2/\w'.cell? (ad (w.heap.size+1) 2)=sI b3/\w'.cell? (ad (w.heap.size+1) 3)=sI b4)):=by
  intro w' h
  have h':Below ((w.alloc (.cells #[iV a1,iV a2,iV a3,iV a4] 100)).alloc (.cells #[iV b1,iV b2,iV b3,iV b4] 100)).heap.size ((w.alloc (.cells #[iV a1,iV a2,iV a3,iV a4] 100)).alloc (.cells #[iV b1,iV b2,iV b3,iV b4] 100)) w':=by rw [HX.out];exact h
  refine⟨⟨?_,?_,?_,?_⟩,⟨?_,?_,?_,?_⟩⟩
  all_goals rw [zf h' _ _ (by rw [HX.out];omega)]
  all_goals go_simp
 have HE:=z9 (yaj ⟨a1,a2,a3,a4⟩ ⟨b1,b2,b3,b4⟩)
 simp only at HE
 go_enter func130,ntmps130
 go_wp2_with fail
 refine wp_region_noPanic ?_
 refine zm 99 (fun w'=>(w'.cell? (ad w.heap.size 0)=sI a1/\w'.cell? (ad w.heap.size 1)=sI a2/\w'.cell? (ad w.heap.size 2)=sI a3/\w'.cell? (ad w.heap.size 3)=sI a4)/\(w'.cell? (ad (w.heap.size+1) 0)=sI b1/\w'.cell? (ad (w.heap.size+1) 1)=sI b2/\w'.cell? (ad (w.heap.size+1) 2)=sI b3/\w'.cell? (ad (w.heap.size+1) 3)=sI b4)) (by kernel_rfl) (HSS.out _ (zU _ _)) (fun h9=>?_)
 refine uk 0 h9 ?_
 refine uk 1 h9 ?_
 refine uk 2 h9 ?_
 refine uk 3 h9 ?_
 refine uk 5 h9 ?_
 refine uk 6 h9 ?_
 refine uk 7 h9 ?_
 refine uk 8 h9 ?_
 refine uk 10 h9 ?_
 refine uk 11 h9 ?_
 refine uk 12 h9 ?_
 refine uk 13 h9 ?_
 refine uk 15 h9 ?_
 refine uk 16 h9 ?_
 refine uk 17 h9 ?_
 refine uk 18 h9 ?_
 refine ze (i:=4) rfl (by kernel_rfl) (fun K hK9=>?_)
 go_simp
 refine (Xk _ _ _).mono ?_
 rintro e x1 ⟨rfl,rfl⟩
 refine nxt hK9.out (.inr h9) ?_
 clear hK9 K
 refine ze (i:=9) rfl (by kernel_rfl) (fun K hK9=>?_)
 go_simp
 refine (Xk _ _ _).mono ?_
 rintro e x2 ⟨rfl,rfl⟩
 refine nxt hK9.out (.inr h9) ?_
 clear hK9 K
 refine ze (i:=14) rfl (by kernel_rfl) (fun K hK9=>?_)
 go_simp
 refine (Xk _ _ _).mono ?_
 rintro e x3 ⟨rfl,rfl⟩
 refine nxt hK9.out (.inr h9) ?_
 clear hK9 K
 refine ze (i:=19) rfl (by kernel_rfl) (fun K hK9=>?_)
 go_simp
 refine (Xk _ _ _).mono ?_
 rintro e x4 ⟨rfl,rfl⟩
 refine nxt hK9.out (.inr h9) ?_
 clear hK9 K
 refine ze (i:=20) rfl (by kernel_rfl) (fun K hK9=>?_)
 go_simp
 have h9:=HSS.out _ ((zU (w.heap.size+1+1) ((w.alloc (.cells #[iV a1,iV a2,iV a3,iV a4] 100)).alloc (.cells #[iV b1,iV b2,iV b3,iV b4] 100))).trans ((below_alloc1 ((w.alloc (.cells #[iV a1,iV a2,iV a3,iV a4] 100)).alloc (.cells #[iV b1,iV b2,iV b3,iV b4] 100)).drew (.cells #[iV (ZK a1 b1),iV (ZK a2 b2),iV (ZK a3 b3),iV (ZK a4 b4)] 3)).mono (by show _<=((w.alloc (.cells #[iV a1,iV a2,iV a3,iV a4] 100)).alloc (.cells #[iV b1,iV b2,iV b3,iV b4] 100)).heap.size;rw [HX.out];omega)))
 refine nxt hK9.out (.inr h9) ?_
 clear hK9 K
 refine ze (i:=21) rfl (by kernel_rfl) (fun K hK9=>?_)
 go_simp
 refine (yai [ZK a1 b1,ZK a2 b2,ZK a3 b3,ZK a4 b4] (w.heap.size+1+1) 4 _ (by simp) (by decide) (fun i hi=>?_)).mono ?_
 ·have hh:i=0\/i=1\/i=2\/i=3:=by have:i<4:=hi;omega
  rcases hh with rfl | rfl | rfl | rfl
  all_goals go_simp
  all_goals rfl
 rintro e x6 ⟨rfl,rfl⟩
 refine nxt hK9.out (.inr h9) ?_
 clear hK9 K
 refine uk 22 h9 ?_
 refine zq (by kernel_rfl) ?_ _
 refine NoPanic.normal ?_
 clear h9
 go_wp2_with fail
 go_ret
 refine⟨yO HE.out,1,#[(.cells #[iV a1,iV a2,iV a3,iV a4] 100),(.cells #[iV b1,iV b2,iV b3,iV b4] 100),(.cells #[iV (ZK a1 b1),iV (ZK a2 b2),iV (ZK a3 b3),iV (ZK a4 b4)] 3)],?_⟩
 rfl
theorem ErV.holds [Inhabited Ed] (h:ErV w g d):Go.Sort.HoldsK zX 4 w g 0 d:=by
 intro t ht
 have ht':t<d.size*4:=by simpa using ht
 have h1:=h (t / 4) (by omega) (t % 4) (by omega)
 rw [show t / 4*4+t % 4=t by omega] at h1
 rw [Nat.zero_add,Go.Sort.get_flatK _ _ _ _ ht']
 refine⟨?_,h1.2⟩
 rw [h1.1,List.getElem?_eq_getElem (show t % 4<(zX d[t / 4]!).length by show t % 4<4;omega),getElem!_pos (zX d[t / 4]!) (t % 4) (show t % 4<(zX d[t / 4]!).length by show t % 4<4;omega)]
 rfl
theorem ErV.of_holds [Inhabited Ed] (h:Go.Sort.HoldsK zX 4 w g 0 d):ErV w g d:=by
 intro i hi j hj
 have h1:=h.cell (i:=i) (c:=j) hi hj
 rw [Nat.zero_add] at h1
 refine⟨?_,h1.2⟩
 rw [h1.1,List.getElem?_eq_getElem (show j<(zX d[i]!).length by show j<4;omega),getElem!_pos (zX d[i]!) j (show j<(zX d[i]!).length by show j<4;omega)]
theorem ErV.of_own [Inhabited Ed] {cap:Nat} {l:List Ed} (h:w.ownsRow B e 4 (.slice (pA g) n cap) n (yw l)) (hn:l.length=n):ErV w g l.toArray/\B<=g/\g<w.heap.size/\n<=cap/\cap<=maxLen:=by
 obtain⟨hl,h⟩:=h
 rcases h with ⟨h,-⟩ | ⟨g',c',cur,hv,hg,hb,hn',hm,hc,ht⟩
 ·injection h with h1;cases h1
 ·injection hv with e1 e2 e3
  injection e1 with e1
  injection e1 with e1
  subst e1;subst e3
  refine⟨fun i hi j hj=>?_,hg,(Array.getElem?_eq_some_iff.1 hb).1,hn',hm⟩
  have hi':i<l.length:=by simpa using hi
  have e4:l.toArray[i]! = zM l i:=by
   rw [getElem!_pos _ i hi]
   unfold zM
   rw [List.getD_eq_getElem?_getD,List.getElem?_eq_getElem hi']
   simp
  refine⟨?_,?_⟩
  ·rw [cell_of_block hb,e4,<-zqc l i j hi' hj,<-ht,List.getElem?_take,if_pos (by omega)]
   simp
  ·simp [World.frozen?,hb]
theorem zla [Inhabited Ed] {os:Array Obj} (hB:B<=g) (hg:g<w.heap.size):Below B w (sortWorldK zX 4 w g 0 n d os):=by
 refine⟨rfl,rfl,rfl,?_,fun k hk=>?_⟩
 ·exact size_sortWorldK_c zX 4 w g 0 n d os
 ·show ((w.heap.modify g _)++os)[k]?=_
  rw [Array.getElem?_append_left (by simp;omega),Array.getElem?_modify,if_neg (by omega)]
theorem ya9 (x:Ed):ltOf Uw x x=false:=by unfold ltOf;exact decide_eq_false (fun h=>za7 x (Xj.1 h))
theorem ybd (x y z:Ed) (h1:ltOf Uw x y=true) (h2:ltOf Uw y z=true):ltOf Uw x z=true:=by
 unfold ltOf at *
 exact decide_eq_true (Xj.2 (zfl (Xj.1 (of_decide_eq_true h1)) (Xj.1 (of_decide_eq_true h2))))
theorem yaa (x y z:Ed) (h1:ltOf Uw x y=false) (h2:ltOf Uw y z=false):ltOf Uw x z=false:=by
 unfold ltOf at *
 have a1:=of_decide_eq_false h1
 have a2:=of_decide_eq_false h2
 exact decide_eq_false (fun h=>ya8 (a:=z) (b:=y) (c:=x) (fun h3=>a2 (Xj.2 h3)) (fun h3=>a1 (Xj.2 h3)) (Xj.1 h))
theorem ybu:Go.Sort.SWO (ltOf Uw):=⟨ya9,ybd,yaa⟩
theorem zn6 [Inhabited Ed] (d:Array Ed) (g cap B:Nat) (w:World) (hE:ErV w g d) (hB:B<=g) (hg:g<w.heap.size) (hsz:d.size<=300) :
  Calls prog 129 #[.slice (pA g) d.size cap,.func (.func 130) #[] #[]] w fun e w'=>e=.returned (.tuple #[])/\∃d':Array Ed,d'.size=d.size/\d'.toList.Perm d.toList/\(∀i j,i<j->j<d'.size->¬ltE d'[j]! d'[i]!)/\ErV w' g d'/\Below B w w'/\w.heap.size<=w'.heap.size:=by
 have eg:∀args w,(callFunc 130 args).run prog w=.ok (.enter 130 args) w:=enters_of func130 (by kernel_rfl) rfl
 have hcmp:CmpLays prog 130 #[] zX 4 Uw g 0 d.size w:=fun _ _ _ _ x y=>zh4 x.fr x.to x.bk x.wt y.fr y.to y.bk y.wt _
 have hcon:=AnyQ.slices_SortFunc Tryz.sortE 4 Tryz.isAgg100 Tryz.sizeOf100 zX (fun _=>rfl) (fun x v hv=>by unfold zX at hv;simp at hv;rcases hv with rfl | rfl | rfl | rfl <;> rfl) Uw ybu 130 #[] g 0 cap d w eg hcmp hE.holds hg (by omega)
 refine hcon.mono fun e w' ⟨he,d',n,os,hp,hs,hw⟩=>⟨he,d',hp.1,?_,?_,?_,?_,?_⟩
 ·have h:=hp.2.2
  rw [Array.extract_eq_self_of_le (by rw [hp.1];exact Nat.le_refl _),Array.extract_eq_self_of_le (Nat.le_refl _)] at h
  exact h
 ·intro i j hij hj h
  have:=hs i j (Nat.zero_le _) hij (by rw [<-hp.1];exact hj)
  unfold ltOf at this
  exact of_decide_eq_false this (Xj.2 h)
 ·rw [hw]
  exact ErV.of_holds (holdsK_sortWorldK_c zX 4 w g 0 d d' n os hE.holds hg hp.1)
 ·rw [hw];exact zla hB hg
 ·rw [hw];exact size_sortWorldK_c zX 4 w g 0 n d' os
theorem zse (p:Option Addr) (cap:Nat) (fv:Value) (w:World):Calls prog 129 #[.slice p 0 cap,fv] w fun e w'=>e=.returned (.tuple #[])/\w'=w :=
 AnyF.slices_SortFunc_none Tryz.sortE p cap fv w
theorem zh3 (p:Option Addr) (cap:Nat) (w:World) (hm:cap<=9223372036854775807):Calls prog 131 #[.slice p 0 cap] w fun e w'=>e=.returned (.slice p 0 cap)/\w'=w:=by
 go_enter func131,ntmps131
 go_wp2_with fail
 go_ret
 exact⟨rfl,rfl⟩
theorem zlo {L:Lp} {t:Tg} (hm:zY L=true) (ht:yj t=true) (B:Nat) (v:Value) (w:World) (h:w.ownsRow B 100 4 v (zar L t).length (yw (zar L t))) :
  Calls prog 129 #[v,.func (.func 130) #[] #[]] w fun e w'=>e=.returned (.tuple #[])/\Below B w w'/\Calls prog 131 #[v] w' fun e w2=>∃a n c,e=.returned (.slice a n c)/\Z8 w2 (.slice a n c) (zi L t)/\Below B w' w2:=by
 have:Inhabited Ed:=⟨Ed.nil⟩
 have:DecidableEq Ed:=fun a b=>Classical.propDecidable _
 have hlen:=znx (L:=L) (t:=t) (zw hm).2.2.1
 obtain⟨a,c,rfl,hc1,hc2⟩:=zS h
 unfold maxLen at hc2
 cases a with
 | none =>
   obtain⟨e1,rfl,e3⟩:=Yi h
   rw [e1]
   have e0:zar L t=[]:=List.length_eq_zero_iff.1 e1
   have e4:zi L t=[]:=by
    cases e5:zi L t with
    | nil=>rfl
    | cons x l=>exact absurd ((zny hm ht x).2 (by rw [e5];simp)) (by rw [e0];simp)
   refine (zse none 0 _ w).mono fun e w' ⟨he,hw⟩=>⟨he,by rw [hw];exact Below.refl _ _,?_⟩
   refine (zh3 none 0 w' (by omega)).mono fun e w2 ⟨he,hw⟩=>⟨none,0,0,he,?_,by rw [hw];exact Below.refl _ _⟩
   rw [e4]
   exact⟨none,0,rfl,Nat.le_refl _,Nat.zero_le _,fun h=>absurd h (by simp)⟩
 | some ad =>
   obtain⟨g,rfl⟩:=ZP h
   obtain⟨hE,hB,hg,-,-⟩:=ErV.of_own h rfl
   have hs:(zar L t).toArray.size=(zar L t).length:=by simp
   have hsort:=zn6 (zar L t).toArray g c B w hE hB hg (by rw [hs];omega)
   rw [hs] at hsort
   refine hsort.mono fun e w' ⟨he,d',hz,hp,hst,hE',hb,hzw⟩=>⟨he,hb,?_⟩
   have hcd:compactUpTo d' d'.size=zi L t:=zlh hm ht d' hp hst
   have hcomp:=zej g c B d' w' hE' hB (by omega) (by omega) (by omega) (by omega)
   rw [hcd,hz] at hcomp
   refine hcomp.mono fun e w2 ⟨he2,hE2,hb2,hz2⟩=>⟨_,_,_,he2,?_,hb2⟩
   have hle:(zi L t).length<=(zar L t).length:=by
    rw [<-hcd,<-hz]
    unfold compactUpTo
    rw [List.length_map]
    exact Nat.le_trans (List.length_filter_le _ _) (by simp)
   refine⟨_,_,rfl,by omega,by unfold maxLen;omega,fun _=>⟨g,0,rfl,by omega,fun i hi j hj=>?_⟩⟩
   have h2:=(hE2 i (by simpa using hi) j hj).1
   rw [Nat.zero_add,h2]
   have e4:(zi L t).toArray[i]! = zM (zi L t) i:=by
    rw [getElem!_pos _ i (by simpa using hi)]
    unfold zM
    rw [List.getD_eq_getElem?_getD,List.getElem?_eq_getElem hi]
    simp
   rw [e4]
set_option maxRecDepth 100000 in
theorem zq1 (p0 p1 p2 q0 q1 q2 r:Int) (L:Lp) (a0 a2:Option Addr) (gA b off gB gC:Nat) (w:World) (hL:zE w ((lv L a0 (some (ad b off)) a2 gA gB gC)) L) (hm:zY L=true) (ht:yj ⟨p0,p1,p2,q0,q1,q2,r⟩=true) (hl0:L.l.length<=gA) (hm0:gA<=9223372036854775807) (hl1:L.b.length<=gB) (hm1:gB<=9223372036854775807) (hb:b<w.heap.size)
  (gQ:∀i,i<L.b.length->∀j,j<9->w.cell? (ad b (off+i*9+j))=(zP (zc L.b i))[j]?) (hlogs:zK w (.slice a0 L.l.length gA) L.l) :
  Calls prog 86 #[(lv L a0 (some (ad b off)) a2 gA gB gC),(tv p0 p1 p2 q0 q1 q2 r)] w fun e w'=>∃a n c,e=.returned (.tuple #[.slice a n c,iV 0])/\Z8 w' (.slice a n c) (zi L ⟨p0,p1,p2,q0,q1,q2,r⟩)/\Bw w w':=by
 have HT:=z9 (fun W=>ht ▸ Y9 p0 p1 p2 q0 q1 q2 r W)
 have h16:=(zw hm).2.2.1
 have HRE:=z9 (fun W (hW:Bw w W)=>zeo p0 p1 p2 q0 q1 q2 r L b off gB (.slice a0 L.l.length gA) (.slice a2 L.o.length gC) W hl1 hm1 (by have:=hW.size;omega) (fun i hi j hj=>by rw [zf hW _ _ hb];exact gQ i hi j hj) hm h16)
 have HWE:=z9 (fun W (hW:Bw w W)=>zec L a0 gA b off gB (.slice a2 L.o.length gC) W hl0 hm0 hl1 hm1 (by have:=hW.size;omega) (fun i hi j hj=>by rw [zf hW _ _ hb];exact gQ i hi j hj) (hlogs.gE hW) hm h16)
 have HDN:=z9 (fun B v W h=>zlo (L:=L) (t:=⟨p0,p1,p2,q0,q1,q2,r⟩) hm ht B v W h)
 have HLN:=z9 (znx (L:=L) (t:=⟨p0,p1,p2,q0,q1,q2,r⟩) h16)
 have HAL:Hid (zar L ⟨p0,p1,p2,q0,q1,q2,r⟩=ZS L ⟨p0,p1,p2,q0,q1,q2,r⟩ L.b.length++xy L L.b.length):=rfl
 have HLA:Hid ((ZS L ⟨p0,p1,p2,q0,q1,q2,r⟩ L.b.length).length+(xy L L.b.length).length<=300):=by
  show _<=_
  have h:=HLN.out
  rw [HAL.out,List.length_append] at h
  omega
 clear ht gQ hlogs
 have HM:=z9 (fun W (h:zE W ((lv L a0 (some (ad b off)) a2 gA gB gC)) L)=>hm ▸ Yh ((lv L a0 (some (ad b off)) a2 gA gB gC)) L W h)
 have HS:Hid (((w.alloc (.cells #[.slice a0 L.l.length gA,.slice (some (ad b off)) L.b.length gB,.slice a2 L.o.length gC] 25)).alloc (.cells #[iV p0,iV p1,iV p2,iV q0,iV q1,iV q2,iV r] 28)).heap.size=w.heap.size+1+1):=by show _=_;simp
 clear hm
 go_enter func86,ntmps86
 go_wp2_with fail
 refine (HM.out _ (hL.gE (below_alloc2 _ _ _))).mono ?_
 rintro e x1 ⟨rfl,hb⟩
 have HB1:Hid (Below (w.heap.size+1+1) ((w.alloc (.cells #[.slice a0 L.l.length gA,.slice (some (ad b off)) L.b.length gB,.slice a2 L.o.length gC] 25)).alloc (.cells #[iV p0,iV p1,iV p2,iV q0,iV q1,iV q2,iV r] 28)) x1):=by show Below _ _ _;rw [<-HS.out];exact hb
 obtain⟨⟨l0,l1,l2⟩,⟨t0,t1,t2,t3,t4,t5,t6⟩,z0,z1,hbw⟩:=Zb HB1.out
 have HW1:=z9 hbw
 clear hb hbw
 go_wp2_with fail
 refine (HT.out _).mono ?_
 rintro e x2 ⟨rfl,hb2⟩
 have HB2:=z9 (HB1.out.trans (hb2.mono (by omega)))
 have HW2:=z9 (HW1.out.trans (hb2.mono HW1.out.size))
 clear hb2 l0 l1 l2 t0 t1 t2 t3 t4 t5 t6
 have HSS:Hid (∀w':World,Below (w.heap.size+1+1) ((w.alloc (.cells #[.slice a0 L.l.length gA,.slice (some (ad b off)) L.b.length gB,.slice a2 L.o.length gC] 25)).alloc (.cells #[iV p0,iV p1,iV p2,iV q0,iV q1,iV q2,iV r] 28)) w'->(w'.cell? (ad w.heap.size 0)=some (.slice a0 L.l.length gA)/\w'.cell? (ad w.heap.size 1)=some (.slice (some (ad b off)) L.b.length gB)/\w'.cell? (ad w.heap.size 2)=some (.slice a2 L.o.length gC))/\(w'.cell? (ad (w.heap.size+1) 0)=sI p0/\w'.cell? (ad (w.heap.size+1) 1)=sI p1/\w'.cell? (ad (w.heap.size+1) 2)=sI p2/\w'.cell? (ad (w.heap.size+1) 3)=sI q0/\w'.cell? (ad (w.heap.size+1) 4)=sI q1/\w'.cell? (ad (w.heap.size+1) 5)=sI q2/\w'.cell? (ad (w.heap.size+1) 6)=sI r)):=by
  intro w' h
  obtain⟨h1,h2,-⟩:=Zb h
  exact⟨h1,h2⟩
 have hz2:w.heap.size+1+1<=x2.heap.size:=by have:=HB2.out.size;rw [HS.out] at this;exact this
 go_wp2_with fail
 refine wp_region_noPanic ?_
 refine zm 99 (fun w'=>(w'.cell? (ad w.heap.size 0)=some (.slice a0 L.l.length gA)/\w'.cell? (ad w.heap.size 1)=some (.slice (some (ad b off)) L.b.length gB)/\w'.cell? (ad w.heap.size 2)=some (.slice a2 L.o.length gC))/\(w'.cell? (ad (w.heap.size+1) 0)=sI p0/\w'.cell? (ad (w.heap.size+1) 1)=sI p1/\w'.cell? (ad (w.heap.size+1) 2)=sI p2/\w'.cell? (ad (w.heap.size+1) 3)=sI q0/\w'.cell? (ad (w.heap.size+1) 4)=sI q1/\w'.cell? (ad (w.heap.size+1) 5)=sI q2/\w'.cell? (ad (w.heap.size+1) 6)=sI r)) (by kernel_rfl) (HSS.out _ (HB2.out.trans (zU _ _))) (fun h9=>?_)
 refine uk 0 h9 ?_
 refine uk 1 h9 ?_
 refine uk 3 h9 ?_
 refine ze (i:=2) rfl (by kernel_rfl) (fun K hK9=>?_)
 go_simp
 refine (HRE.out _ (HW2.out.trans (zU _ _))).mono ?_
 rintro e x3 ⟨ev1,rfl,ho1,hb3⟩
 have hB3:=HB2.out.trans ((zU _ _).trans (hb3.mono (by simpa using hz2)))
 have HB3:=z9 hB3
 have HW3:=z9 (HW2.out.trans ((zU _ _).trans (hb3.mono (by simpa using HW2.out.size))))
 have h9:=HSS.out _ hB3
 obtain⟨ra,rc,rfl,-,-⟩:=zS ho1
 have HO1:=z9 ho1
 clear ho1 hb3 hB3
 refine nxt hK9.out (.inr h9) ?_
 clear hK9 K
 refine ze (i:=4) rfl (by kernel_rfl) (fun K hK9=>?_)
 go_simp
 refine (HWE.out _ HW3.out).mono ?_
 rintro e x4 ⟨ev2,rfl,ho2,hb4⟩
 have hz3:w.heap.size+1+1<=x3.heap.size:=by have:=HB3.out.size;rw [HS.out] at this;exact this
 have hB4:=HB3.out.trans (hb4.mono hz3)
 have HB4:=z9 hB4
 have HW4:=z9 (HW3.out.trans (hb4.mono HW3.out.size))
 have h9:=HSS.out _ hB4
 obtain⟨wa,wc,rfl,-,-⟩:=zS ho2
 have HO2:=z9 ho2
 have HO1b:=z9 (zA HO1.out hb4)
 clear ho2 hb4 hB4
 refine nxt hK9.out (.inr h9) ?_
 clear hK9 K
 have HCC:=z9 (zli (ZS L ⟨p0,p1,p2,q0,q1,q2,r⟩ L.b.length) (xy L L.b.length) x4.heap.size _ _ _ _ (x4.alloc (.cells #[.slice ra (ZS L ⟨p0,p1,p2,q0,q1,q2,r⟩ L.b.length).length rc,.slice wa (xy L L.b.length).length wc] 97)) (by go_simp) (by go_simp) (by simp) (zA HO1b.out (below_alloc1 _ _)) (zA HO2.out (below_alloc1 _ _)) HLA.out)
 have HW5:=z9 (HW4.out.trans ((below_alloc1 x4 (.cells #[.slice ra (ZS L ⟨p0,p1,p2,q0,q1,q2,r⟩ L.b.length).length rc,.slice wa (xy L L.b.length).length wc] 97)).mono HW4.out.size))
 have hz4:w.heap.size+1+1<=x4.heap.size:=by have:=HB4.out.size;rw [HS.out] at this;exact this
 have HB5:=z9 (HB4.out.trans ((below_alloc1 x4 (.cells #[.slice ra (ZS L ⟨p0,p1,p2,q0,q1,q2,r⟩ L.b.length).length rc,.slice wa (xy L L.b.length).length wc] 97)).mono hz4))
 rw [<-HAL.out] at HCC
 refine ze (i:=5) rfl (by kernel_rfl) (fun K hK9=>?_)
 go_simp
 have h9:=HSS.out _ HB5.out
 refine nxt hK9.out (.inr h9) ?_
 clear hK9 K
 refine ze (i:=6) rfl (by kernel_rfl) (fun K hK9=>?_)
 go_simp
 refine HCC.out.mono ?_
 rintro e x6 ⟨ev3,rfl,ho3,hb6⟩
 have hB6:=HB5.out.trans (hb6.mono (by simp;omega))
 have HW6:=z9 (HW5.out.trans (hb6.mono HW5.out.size))
 have h9:=HSS.out _ hB6
 have HD:=z9 (HDN.out _ _ _ ho3)
 clear ho3 hb6 hB6
 refine nxt hK9.out (.inr h9) ?_
 clear hK9 K
 refine uk 7 h9 ?_
 refine zq (by kernel_rfl) ?_ _
 refine NoPanic.normal ?_
 clear h9
 go_wp2_with fail
 refine HD.out.mono ?_
 rintro e x7 ⟨rfl,hb7,hcmp⟩
 have HBB:=z9 hb7
 have HCM:=z9 hcmp
 have HW7:=z9 (HW6.out.trans (hb7.mono HW5.out.size))
 clear hb7 hcmp
 go_wp2_with fail
 refine HCM.out.mono ?_
 rintro e x8 ⟨ea,en,ec,rfl,hev,hb8⟩
 have HEV:=z9 hev
 have HW8:=z9 (HW7.out.trans (hb8.mono HW5.out.size))
 clear hev hb8
 go_wp2_with fail
 exact bodyPost_ret (v:=.tuple #[.slice ea en ec,iV 0]) (by simp [results,results86,go_sem]) rfl ⟨ea,en,ec,rfl,HEV.out,HW8.out⟩
theorem Vv:Zv:=fun v t L w hL hmt=>by
 obtain⟨p0,p1,p2,q0,q1,q2,r⟩:=t
 have hL':=hL
 obtain⟨v0,v1,v2,rfl,hI0,⟨a1,gB,rfl,h1,h2,h3⟩,⟨a2,gC,rfl,-,-,-,-⟩⟩:=hL'
 have hI0':=hI0
 obtain⟨a0,gA,rfl,k1,k2,-,-⟩:=hI0'
 unfold maxLen at h2 k2
 obtain⟨hm,ht⟩:zY L=true/\yj ⟨p0,p1,p2,q0,q1,q2,r⟩=true:=by simpa using hmt
 obtain⟨b,off,rfl,hb,gR⟩:=h3 (by have:=(zw hm).2.1;omega)
 exact zq1 p0 p1 p2 q0 q1 q2 r L a0 a2 gA b off gB gC w hL hm ht k1 (by omega) h1 (by omega) hb gR hI0
end Go.Proofs.YtjoapiafpahihabGreat
