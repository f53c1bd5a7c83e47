/- DepP: texts that are built as one: DepConcat, DepCompact, DepCmp, DepSort, DepAll. -/
import Derived.Test.YtjoapiafpahihabLaid
import Derived.Test.YtjoapiafpahihabDepQ
import Derived.Laws.AppendOwnNone
import Derived.Test.YtjoapiafpahihabDepS
import Derived.Laws.StructEq
import Derived.Laws.IdiomCopy
import Derived.Lib.SliceRun
import Derived.Deep.LoopGhost
import Derived.BigQuiet
import Derived.Deep.QuietTactic
import Derived.Test.YtjoapiafpahihabBase
import Derived.Test.YtjoapiafpahihabRounds
import Derived.Shelf.SlSortCmp.NoneTotal
import Derived.Test.YtjoapiafpahihabRef67
/- Contracts of slices.Grow and slices.Concat at edges: a row of the call's own that holds both; nothing that was there is changed. -/
namespace Go.Proofs.Ytjoapiafpahihab
open Go.RowKit Go.Joins
set_option linter.unusedVariables false

theorem own_made (w : World) (cur : Array Value) (e : TypeId) (cap : Nat) (h : cur.size = cap * 4) (hm : cap ≤ maxLen) : (w.drew.alloc (.cells cur e)).ownsRow w.heap.size e 4 (.slice (some ⟨w.heap.size, 0, none⟩) 0 cap) 0 [] := by
  refine ⟨rfl, .inr ⟨w.heap.size, cap, cur, rfl, Nat.le_refl _, ?_, Nat.zero_le _, hm, h, by simp⟩⟩
  show (w.heap.push _)[w.heap.size]? = _
  simp
theorem growE_zero (w : World) : Calls Try.prog 84 #[.slice none 0 0, .int .i64 0] w fun e w' => e = .returned (.slice none 0 0) ∧ w' = w :=
  Any8.slices_Grow_room Try.growE none 0 0 0 w (by omega) (by omega) (by omega) (by omega)
theorem growE_some (n : Nat) (w : World) (h0 : 0 < n) (h : n ≤ 300) : Calls Try.prog 84 #[.slice none 0 0, .int .i64 n] w fun e w' => ∃ c, e = .returned (.slice (some ⟨w.heap.size, 0, none⟩) 0 c) ∧ w'.ownsRow w.heap.size 68 4 (.slice (some ⟨w.heap.size, 0, none⟩) 0 c) 0 [] ∧ Below w.heap.size w w' := by
  obtain ⟨j0, ji, jz0, jz1, jz2⟩ := info_parts Try.i68
  have hcon := Any8.slices_Grow_grow Try.growE j0 (.agg #[.int .i64 0, .int .i64 0, .int .i64 0, .int .i64 0]) ji jz0 (by rw [jz1]; omega) none 0 0 n [] w (by omega) (by omega) (by rw [jz2]; omega) (by omega) (by simp) (fun _ => rfl) (fun a h => by cases h)
  refine hcon.mono fun e w' ⟨he, hw⟩ => ⟨_, he, ?_, ?_⟩
  · subst hw
    have hge : 0 + n ≤ grownCap w (0 + n) 0 (Try.growE_ren.t 25) := grownCap_ge w _ _ _
    refine own_made w _ 68 _ ?_ (grownCap_le_maxLen w _ _ _ (by unfold maxLen; omega))
    simp only [Array.size_append, size_zeroCells]
    show 0 + (0 + n - 0) * 4 + (grownCap w (0 + n) 0 (Try.growE_ren.t 25) - (0 + n)) * 4 = _
    omega
  · subst hw
    exact (below_drew1 w.heap.size w).trans (below_alloc1 w.drew _)
theorem growE_any (n : Nat) (w : World) (h : n ≤ 300) : Calls Try.prog 84 #[.slice none 0 0, .int .i64 n] w fun e w' => ∃ a c, e = .returned (.slice a 0 c) ∧ w'.ownsRow w.heap.size 68 4 (.slice a 0 c) 0 [] ∧ Below w.heap.size w w' := by
  by_cases h0 : n = 0
  · subst h0
    exact (growE_zero w).mono fun e w' ⟨he, hw⟩ => ⟨none, 0, he, World.ownsRow_nil _ _ _ _, by rw [hw]; exact Below.refl _ _⟩
  · exact (growE_some n w (by omega) h).mono fun e w' ⟨c, he, ho, hb⟩ => ⟨_, c, he, ho, hb⟩
theorem own_src {w : World} {B g n c : Nat} {e : TypeId} {xs : List Value} (h : w.ownsRow B e 4 (.slice (some ⟨g, 0, none⟩) n c) n xs) : ∀ (j : Nat) (u : Value), xs[j]? = some u → w.cell? ((⟨g, 0, none⟩ : Addr).add j) = some u := by
  intro j u hj
  obtain ⟨hl, h⟩ := h
  rcases h with ⟨h, -⟩ | ⟨g', cap, cur, hv, hg, hb, hn, hm, hc, ht⟩
  · injection h with h1; cases h1
  · injection hv with e1 e2 e3
    injection e1 with e1
    injection e1 with e1
    subst e1
    have ha : (⟨g, 0, none⟩ : Addr).add j = ⟨g, j, none⟩ := by simp [Addr.add]; omega
    rw [← ht, List.getElem?_take] at hj
    split at hj
    · rw [ha, cell_of_block hb]
      simpa using hj
    · cases hj
theorem flat_one (l : List Ed) : ∀ u ∈ flatE l, u.oneCell' = true := by
  intro u hu
  unfold flatE at hu
  obtain ⟨d, -, hd⟩ := List.mem_flatMap.1 hu
  unfold edCells at hd
  simp at hd
  rcases hd with rfl | rfl | rfl | rfl <;> rfl
theorem flatE_append (a b : List Ed) : flatE (a ++ b) = flatE a ++ flatE b := by unfold flatE; simp
theorem own_nil_parts {w : World} {B n c : Nat} {e : TypeId} {xs : List Value} (h : w.ownsRow B e 4 (.slice none n c) n xs) : n = 0 ∧ c = 0 ∧ xs = [] := by
  obtain ⟨hl, h⟩ := h
  rcases h with ⟨h, hn⟩ | ⟨g', cap, cur, hv, _⟩
  · injection h with h1 h2 h3
    exact ⟨hn, h3, List.length_eq_zero_iff.1 (by rw [hl, hn])⟩
  · injection hv with e1; cases e1
theorem own_some_parts {w : World} {B n c : Nat} {a : Addr} {e : TypeId} {xs : List Value} (h : w.ownsRow B e 4 (.slice (some a) n c) n xs) : ∃ g, a = ⟨g, 0, none⟩ := by
  obtain ⟨hl, h⟩ := h
  rcases h with ⟨h, hn⟩ | ⟨g', cap, cur, hv, _⟩
  · injection h with h1; cases h1
  · injection hv with e1; injection e1 with e1; exact ⟨g', e1⟩

set_option maxHeartbeats 4000000 in
set_option maxRecDepth 100000 in
theorem concat_ss (l1 l2 : List Ed) (gs n1 n2 c1 c2 B1 B2 g1 g2 : Nat) (w : World) (hn1 : l1.length = n1) (hn2 : l2.length = n2) (hs0 : w.cell? ⟨gs, 0, none⟩ = some (.slice (some ⟨g1, 0, none⟩) n1 c1)) (hs1 : w.cell? ⟨gs, 1, none⟩ = some (.slice (some ⟨g2, 0, none⟩) n2 c2)) (hgs : gs < w.heap.size)
    (h1 : w.ownsRow B1 68 4 (.slice (some ⟨g1, 0, none⟩) n1 c1) n1 (flatE l1)) (h2 : w.ownsRow B2 68 4 (.slice (some ⟨g2, 0, none⟩) n2 c2) n2 (flatE l2)) (hlen : n1 + n2 ≤ 300) :
    Calls Try.prog 51 #[.slice (some ⟨gs, 0, none⟩) 2 2] w fun e w' => ∃ ev, e = .returned ev ∧ w'.ownsRow w.heap.size 68 4 ev (n1 + n2) (flatE l1 ++ flatE l2) ∧ Below w.heap.size w w' := by
  have H1 := hide h1
  have H2 := hide h2
  have HGR : Hid (Calls Try.prog 84 #[.slice none 0 0, .int .i64 ((n1 : Int) + (n2 : Int))] w fun e w' => ∃ a c, e = .returned (.slice a 0 c) ∧ w'.ownsRow w.heap.size 68 4 (.slice a 0 c) 0 [] ∧ Below w.heap.size w w') := by
    have h := growE_any (n1 + n2) w (by omega)
    
    exact h
  obtain ⟨j0, ji, jz0, jz1, jz2⟩ := info_parts Try.i68
  have hc1 : n1 ≤ c1 ∧ c1 ≤ maxLen := by obtain ⟨a, c, e, h3, h4⟩ := ownz_shape h1; injection e with e1 e2 e3; subst e3; exact ⟨h3, h4⟩
  unfold maxLen at hc1
  obtain ⟨hc11, hc12⟩ := hc1
  have hc2 : n2 ≤ c2 ∧ c2 ≤ maxLen := by obtain ⟨a, c, e, h3, h4⟩ := ownz_shape h2; injection e with e1 e2 e3; subst e3; exact ⟨h3, h4⟩
  unfold maxLen at hc2
  obtain ⟨hc21, hc22⟩ := hc2
  clear h1 h2
  go_enter Try.func51, Try.ntmps51
  go_wp2_with fail
  refine wp_loop_rounds 3 ?_
  rw [rounds_succ]
  go_wp2_with fail
  rw [rounds_succ]
  go_wp2_with fail
  rw [rounds_succ]
  go_wp2_with fail
  refine HGR.out.mono ?_
  rintro e x1 ⟨ga, gc, rfl, ho, hb1⟩
  have HO1 := hide ho
  have HB1 := hide hb1
  have d0 := (bcell hb1 gs 0 hgs).trans hs0
  have d1 := (bcell hb1 gs 1 hgs).trans hs1
  have hz1 := hb1.size
  clear ho hb1 hs0 hs1
  go_wp2_with fail
  refine wp_loop_rounds 3 ?_
  rw [rounds_succ]
  go_wp2_with (at_builtin; refine wpList_append_own _ rfl (.tmp 31) (.tmp 32) 56 rfl w.heap.size 68 j0 (.agg #[.int .i64 0, .int .i64 0, .int .i64 0, .int .i64 0]) 4 32 Try.underlying56 ji jz0 jz1 jz2 rfl (by decide) _ _ _ rfl HO1.out ⟨g1, 0, none⟩ n1 c1 (flatE l1) rfl (by rw [flatE_len, hn1]) (own_src (own_below H1.out HB1.out)) (flat_one l1) (by unfold maxLen; omega) (by omega) hz1 ?_; intro v2' w2 hown2 hgrow2 hnil2; rw [Nat.zero_add, List.nil_append] at hown2; obtain ⟨oa2, oc2, rfl, hl1', hl2'⟩ := ownz_shape hown2; have HO2 := hide hown2; have HB2 := hide (HB1.out.grown hgrow2 hz1 (ownz_block_ge HO1.out)); clear hown2 hgrow2)
  have d1 := (bcell HB2.out gs 1 hgs).trans ((bcell HB1.out gs 1 hgs).symm.trans d1)
  rw [rounds_succ]
  have hz2 := HB2.out.size
  go_wp2_with (at_builtin; refine wpList_append_own _ rfl (.tmp 31) (.tmp 32) 56 rfl w.heap.size 68 j0 (.agg #[.int .i64 0, .int .i64 0, .int .i64 0, .int .i64 0]) 4 32 Try.underlying56 ji jz0 jz1 jz2 rfl (by decide) _ _ _ rfl HO2.out ⟨g2, 0, none⟩ n2 c2 (flatE l2) rfl (by rw [flatE_len, hn2]) (own_src (own_below H2.out HB2.out)) (flat_one l2) (by unfold maxLen; omega) (by omega) hz2 ?_; intro v3' w3 hown3 hgrow3 hnil3; obtain ⟨oa3, oc3, rfl, hl3', hl4'⟩ := ownz_shape hown3; have HO3 := hide hown3; have HB3 := hide (HB2.out.grown hgrow3 hz2 (ownz_block_ge HO2.out)); clear hown3 hgrow3)
  rw [rounds_succ]
  go_wp2_with fail
  go_ret
  exact ⟨_, rfl, by have h := HO3.out; exact h, HB3.out⟩
set_option maxHeartbeats 4000000 in
set_option maxRecDepth 100000 in
theorem concat_sn (l1 l2 : List Ed) (gs n1 n2 c1 c2 B1 B2 g1 g2 : Nat) (w : World) (hn1 : l1.length = n1) (hn2 : l2.length = n2) (hs0 : w.cell? ⟨gs, 0, none⟩ = some (.slice (some ⟨g1, 0, none⟩) n1 c1)) (hs1 : w.cell? ⟨gs, 1, none⟩ = some (.slice none 0 0)) (hgs : gs < w.heap.size)
    (h1 : w.ownsRow B1 68 4 (.slice (some ⟨g1, 0, none⟩) n1 c1) n1 (flatE l1)) (h2 : w.ownsRow B2 68 4 (.slice none 0 0) 0 (flatE [])) (hlen : n1 + n2 ≤ 300) :
    Calls Try.prog 51 #[.slice (some ⟨gs, 0, none⟩) 2 2] w fun e w' => ∃ ev, e = .returned ev ∧ w'.ownsRow w.heap.size 68 4 ev (n1 + 0) (flatE l1 ++ flatE []) ∧ Below w.heap.size w w' := by
  have H1 := hide h1
  have H2 := hide h2
  have HGR : Hid (Calls Try.prog 84 #[.slice none 0 0, .int .i64 ((n1 : Int))] w fun e w' => ∃ a c, e = .returned (.slice a 0 c) ∧ w'.ownsRow w.heap.size 68 4 (.slice a 0 c) 0 [] ∧ Below w.heap.size w w') := by
    have h := growE_any (n1 + 0) w (by omega)
    rw [Nat.add_zero] at h
    exact h
  obtain ⟨j0, ji, jz0, jz1, jz2⟩ := info_parts Try.i68
  have hc1 : n1 ≤ c1 ∧ c1 ≤ maxLen := by obtain ⟨a, c, e, h3, h4⟩ := ownz_shape h1; injection e with e1 e2 e3; subst e3; exact ⟨h3, h4⟩
  unfold maxLen at hc1
  obtain ⟨hc11, hc12⟩ := hc1
  clear h1 h2
  go_enter Try.func51, Try.ntmps51
  go_wp2_with fail
  refine wp_loop_rounds 3 ?_
  rw [rounds_succ]
  go_wp2_with fail
  rw [rounds_succ]
  go_wp2_with fail
  rw [rounds_succ]
  go_wp2_with fail
  refine HGR.out.mono ?_
  rintro e x1 ⟨ga, gc, rfl, ho, hb1⟩
  have HO1 := hide ho
  have HB1 := hide hb1
  have d0 := (bcell hb1 gs 0 hgs).trans hs0
  have d1 := (bcell hb1 gs 1 hgs).trans hs1
  have hz1 := hb1.size
  clear ho hb1 hs0 hs1
  go_wp2_with fail
  refine wp_loop_rounds 3 ?_
  rw [rounds_succ]
  go_wp2_with (at_builtin; refine wpList_append_own _ rfl (.tmp 31) (.tmp 32) 56 rfl w.heap.size 68 j0 (.agg #[.int .i64 0, .int .i64 0, .int .i64 0, .int .i64 0]) 4 32 Try.underlying56 ji jz0 jz1 jz2 rfl (by decide) _ _ _ rfl HO1.out ⟨g1, 0, none⟩ n1 c1 (flatE l1) rfl (by rw [flatE_len, hn1]) (own_src (own_below H1.out HB1.out)) (flat_one l1) (by unfold maxLen; omega) (by omega) hz1 ?_; intro v2' w2 hown2 hgrow2 hnil2; rw [Nat.zero_add, List.nil_append] at hown2; obtain ⟨oa2, oc2, rfl, hl1', hl2'⟩ := ownz_shape hown2; have HO2 := hide hown2; have HB2 := hide (HB1.out.grown hgrow2 hz1 (ownz_block_ge HO1.out)); clear hown2 hgrow2)
  have d1 := (bcell HB2.out gs 1 hgs).trans ((bcell HB1.out gs 1 hgs).symm.trans d1)
  rw [rounds_succ]
  go_wp2_with (at_builtin; refine wpList_append_own_none rfl (.tmp 31) (.tmp 32) 56 rfl w.heap.size 68 j0 4 Try.underlying56 ji _ _ _ rfl HO2.out rfl ?_)
  rw [rounds_succ]
  go_wp2_with fail
  go_ret
  exact ⟨_, rfl, by have h := HO2.out; simpa [flatE] using h, HB2.out⟩
set_option maxHeartbeats 4000000 in
set_option maxRecDepth 100000 in
theorem concat_ns (l1 l2 : List Ed) (gs n1 n2 c1 c2 B1 B2 g1 g2 : Nat) (w : World) (hn1 : l1.length = n1) (hn2 : l2.length = n2) (hs0 : w.cell? ⟨gs, 0, none⟩ = some (.slice none 0 0)) (hs1 : w.cell? ⟨gs, 1, none⟩ = some (.slice (some ⟨g2, 0, none⟩) n2 c2)) (hgs : gs < w.heap.size)
    (h1 : w.ownsRow B1 68 4 (.slice none 0 0) 0 (flatE [])) (h2 : w.ownsRow B2 68 4 (.slice (some ⟨g2, 0, none⟩) n2 c2) n2 (flatE l2)) (hlen : n1 + n2 ≤ 300) :
    Calls Try.prog 51 #[.slice (some ⟨gs, 0, none⟩) 2 2] w fun e w' => ∃ ev, e = .returned ev ∧ w'.ownsRow w.heap.size 68 4 ev (0 + n2) (flatE [] ++ flatE l2) ∧ Below w.heap.size w w' := by
  have H1 := hide h1
  have H2 := hide h2
  have HGR : Hid (Calls Try.prog 84 #[.slice none 0 0, .int .i64 ((n2 : Int))] w fun e w' => ∃ a c, e = .returned (.slice a 0 c) ∧ w'.ownsRow w.heap.size 68 4 (.slice a 0 c) 0 [] ∧ Below w.heap.size w w') := by
    have h := growE_any (0 + n2) w (by omega)
    rw [Nat.zero_add] at h
    exact h
  obtain ⟨j0, ji, jz0, jz1, jz2⟩ := info_parts Try.i68
  have hc2 : n2 ≤ c2 ∧ c2 ≤ maxLen := by obtain ⟨a, c, e, h3, h4⟩ := ownz_shape h2; injection e with e1 e2 e3; subst e3; exact ⟨h3, h4⟩
  unfold maxLen at hc2
  obtain ⟨hc21, hc22⟩ := hc2
  clear h1 h2
  go_enter Try.func51, Try.ntmps51
  go_wp2_with fail
  refine wp_loop_rounds 3 ?_
  rw [rounds_succ]
  go_wp2_with fail
  rw [rounds_succ]
  go_wp2_with fail
  rw [rounds_succ]
  go_wp2_with fail
  refine HGR.out.mono ?_
  rintro e x1 ⟨ga, gc, rfl, ho, hb1⟩
  have HO1 := hide ho
  have HB1 := hide hb1
  have d0 := (bcell hb1 gs 0 hgs).trans hs0
  have d1 := (bcell hb1 gs 1 hgs).trans hs1
  have hz1 := hb1.size
  clear ho hb1 hs0 hs1
  go_wp2_with fail
  refine wp_loop_rounds 3 ?_
  rw [rounds_succ]
  go_wp2_with (at_builtin; refine wpList_append_own_none rfl (.tmp 31) (.tmp 32) 56 rfl w.heap.size 68 j0 4 Try.underlying56 ji _ _ _ rfl HO1.out rfl ?_)
  rw [rounds_succ]
  have hz2 := HB1.out.size
  go_wp2_with (at_builtin; refine wpList_append_own _ rfl (.tmp 31) (.tmp 32) 56 rfl w.heap.size 68 j0 (.agg #[.int .i64 0, .int .i64 0, .int .i64 0, .int .i64 0]) 4 32 Try.underlying56 ji jz0 jz1 jz2 rfl (by decide) _ _ _ rfl HO1.out ⟨g2, 0, none⟩ n2 c2 (flatE l2) rfl (by rw [flatE_len, hn2]) (own_src (own_below H2.out HB1.out)) (flat_one l2) (by unfold maxLen; omega) (by omega) hz2 ?_; intro v3' w3 hown3 hgrow3 hnil3; rw [Nat.zero_add, List.nil_append] at hown3; obtain ⟨oa3, oc3, rfl, hl3', hl4'⟩ := ownz_shape hown3; have HO3 := hide hown3; have HB3 := hide (HB1.out.grown hgrow3 hz2 (ownz_block_ge HO1.out)); clear hown3 hgrow3)
  rw [rounds_succ]
  go_wp2_with fail
  go_ret
  exact ⟨_, rfl, by have h := HO3.out; simpa [flatE] using h, HB3.out⟩
set_option maxHeartbeats 4000000 in
set_option maxRecDepth 100000 in
theorem concat_nn (l1 l2 : List Ed) (gs n1 n2 c1 c2 B1 B2 g1 g2 : Nat) (w : World) (hn1 : l1.length = n1) (hn2 : l2.length = n2) (hs0 : w.cell? ⟨gs, 0, none⟩ = some (.slice none 0 0)) (hs1 : w.cell? ⟨gs, 1, none⟩ = some (.slice none 0 0)) (hgs : gs < w.heap.size)
    (h1 : w.ownsRow B1 68 4 (.slice none 0 0) 0 (flatE [])) (h2 : w.ownsRow B2 68 4 (.slice none 0 0) 0 (flatE [])) (hlen : n1 + n2 ≤ 300) :
    Calls Try.prog 51 #[.slice (some ⟨gs, 0, none⟩) 2 2] w fun e w' => ∃ ev, e = .returned ev ∧ w'.ownsRow w.heap.size 68 4 ev (0 + 0) (flatE [] ++ flatE []) ∧ Below w.heap.size w w' := by
  have H1 := hide h1
  have H2 := hide h2
  have HGR : Hid (Calls Try.prog 84 #[.slice none 0 0, .int .i64 (0)] w fun e w' => ∃ a c, e = .returned (.slice a 0 c) ∧ w'.ownsRow w.heap.size 68 4 (.slice a 0 c) 0 [] ∧ Below w.heap.size w w') := by
    have h := growE_any (0 + 0) w (by omega)
    
    exact h
  obtain ⟨j0, ji, jz0, jz1, jz2⟩ := info_parts Try.i68
  clear h1 h2
  go_enter Try.func51, Try.ntmps51
  go_wp2_with fail
  refine wp_loop_rounds 3 ?_
  rw [rounds_succ]
  go_wp2_with fail
  rw [rounds_succ]
  go_wp2_with fail
  rw [rounds_succ]
  go_wp2_with fail
  refine HGR.out.mono ?_
  rintro e x1 ⟨ga, gc, rfl, ho, hb1⟩
  have HO1 := hide ho
  have HB1 := hide hb1
  have d0 := (bcell hb1 gs 0 hgs).trans hs0
  have d1 := (bcell hb1 gs 1 hgs).trans hs1
  have hz1 := hb1.size
  clear ho hb1 hs0 hs1
  go_wp2_with fail
  refine wp_loop_rounds 3 ?_
  rw [rounds_succ]
  go_wp2_with (at_builtin; refine wpList_append_own_none rfl (.tmp 31) (.tmp 32) 56 rfl w.heap.size 68 j0 4 Try.underlying56 ji _ _ _ rfl HO1.out rfl ?_)
  rw [rounds_succ]
  go_wp2_with (at_builtin; refine wpList_append_own_none rfl (.tmp 31) (.tmp 32) 56 rfl w.heap.size 68 j0 4 Try.underlying56 ji _ _ _ rfl HO1.out rfl ?_)
  rw [rounds_succ]
  go_wp2_with fail
  go_ret
  exact ⟨_, rfl, by have h := HO1.out; simpa [flatE] using h, HB1.out⟩
theorem concat_any (l1 l2 : List Ed) (gs B1 B2 : Nat) (v1 v2 : Value) (w : World) (hs0 : w.cell? ⟨gs, 0, none⟩ = some v1) (hs1 : w.cell? ⟨gs, 1, none⟩ = some v2) (hgs : gs < w.heap.size)
    (h1 : w.ownsRow B1 68 4 v1 l1.length (flatE l1)) (h2 : w.ownsRow B2 68 4 v2 l2.length (flatE l2)) (hlen : l1.length + l2.length ≤ 300) :
    Calls Try.prog 51 #[.slice (some ⟨gs, 0, none⟩) 2 2] w fun e w' => ∃ ev, e = .returned ev ∧ w'.ownsRow w.heap.size 68 4 ev (l1 ++ l2).length (flatE (l1 ++ l2)) ∧ Below w.heap.size w w' := by
  rw [flatE_append, List.length_append]
  obtain ⟨a1, c1, rfl, -, -⟩ := ownz_shape h1
  obtain ⟨a2, c2, rfl, -, -⟩ := ownz_shape h2
  cases a1 with
  | none =>
    obtain ⟨e1, rfl, e3⟩ := own_nil_parts h1
    have e4 : l1 = [] := List.length_eq_zero_iff.1 e1
    subst e4
    cases a2 with
    | none =>
      obtain ⟨e1, rfl, e3⟩ := own_nil_parts h2
      have e4 : l2 = [] := List.length_eq_zero_iff.1 e1
      subst e4
      exact concat_nn [] [] gs 0 0 0 0 B1 B2 0 0 w rfl rfl hs0 hs1 hgs h1 h2 (by omega)
    | some a =>
      obtain ⟨g2, rfl⟩ := own_some_parts h2
      exact concat_ns [] l2 gs 0 l2.length 0 c2 B1 B2 0 g2 w rfl rfl hs0 hs1 hgs h1 h2 (by simpa using hlen)
  | some a =>
    obtain ⟨g1, rfl⟩ := own_some_parts h1
    cases a2 with
    | none =>
      obtain ⟨e1, rfl, e3⟩ := own_nil_parts h2
      have e4 : l2 = [] := List.length_eq_zero_iff.1 e1
      subst e4
      exact concat_sn l1 [] gs l1.length 0 c1 0 B1 B2 g1 0 w rfl rfl hs0 hs1 hgs h1 h2 (by simpa using hlen)
    | some a =>
      obtain ⟨g2, rfl⟩ := own_some_parts h2
      exact concat_ss l1 l2 gs l1.length l2.length c1 c2 B1 B2 g1 g2 w rfl rfl hs0 hs1 hgs h1 h2 hlen
end Go.Proofs.Ytjoapiafpahihab
/- The contract of slices.Compact at edges: each once; nothing but the row is changed. -/
namespace Go.Proofs.Ytjoapiafpahihab
open Go.RowKit Go.Joins Go.Lib
set_option linter.unusedVariables false

/-- block g holds the edges d, none of its cells frozen -/
def ErV [Inhabited Ed] (w : World) (g : Nat) (d : Array Ed) : Prop := ∀ i, i < d.size → ∀ j, j < 4 → w.cell? ⟨g, i * 4 + j, none⟩ = (edCells d[i]!)[j]? ∧ w.frozen? ⟨g, i * 4 + j, none⟩ = false
theorem ErV.parts [Inhabited Ed] {w : World} {g : Nat} {d : Array Ed} (h : ErV w g d) {i : Nat} (hi : i < d.size) :
    (w.cell? ⟨g, i * 4, none⟩ = some (.int .i64 d[i]!.fr) ∧ w.cell? ⟨g, i * 4 + 1, none⟩ = some (.int .i64 d[i]!.to) ∧ w.cell? ⟨g, i * 4 + 2, none⟩ = some (.int .i64 d[i]!.bk) ∧ w.cell? ⟨g, i * 4 + 3, none⟩ = some (.int .i64 d[i]!.wt)) ∧
    (w.frozen? ⟨g, i * 4, none⟩ = false ∧ w.frozen? ⟨g, i * 4 + 1, none⟩ = false ∧ w.frozen? ⟨g, i * 4 + 2, none⟩ = false ∧ w.frozen? ⟨g, i * 4 + 3, none⟩ = false) :=
  ⟨⟨(h i hi 0 (by omega)).1, (h i hi 1 (by omega)).1, (h i hi 2 (by omega)).1, (h i hi 3 (by omega)).1⟩, ⟨(h i hi 0 (by omega)).2, (h i hi 1 (by omega)).2, (h i hi 2 (by omega)).2, (h i hi 3 (by omega)).2⟩⟩
theorem ErV.set [Inhabited Ed] {w : World} {g : Nat} {d : Array Ed} (h : ErV w g d) {k : Nat} (hk : k < d.size) (u : Ed) : ErV (w.setCells g (k * 4) (edCells u)) g (d.setIfInBounds k u) := by
  intro i hi j hj
  have hi' : i < d.size := by simpa using hi
  refine ⟨?_, by rw [World.frozen?_setCells]; exact (h i hi' j hj).2⟩
  by_cases e : i = k
  · subst e
    have h1 := World.cell?_setCells_in g (edCells u) (i * 4) w (fun q hq => by
      have := (h i hi' q (by have : (edCells u).length = 4 := rfl; omega)).1
      rw [this]
      have : q < (edCells d[i]!).length := by have : (edCells u).length = 4 := rfl; show q < 4; omega
      rw [List.getElem?_eq_getElem this]; rfl) j (by show j < 4; exact hj)
    rw [h1, Go.Sort.getElem!_set_same d i u hi', List.getElem?_eq_getElem (by show j < 4; exact hj)]
  · rw [World.cell?_setCells_out _ _ _ _ _ (fun _ _ => by
      have : (edCells u).length = 4 := rfl
      show i * 4 + j < k * 4 ∨ k * 4 + (edCells u).length ≤ i * 4 + j
      omega), Go.Sort.getElem!_set_other d k i u e]
    exact (h i hi' j hj).1
theorem ErV.out [Inhabited Ed] {w : World} {g : Nat} {d : Array Ed} (h : ErV w g d) (o : Nat) (vs : List Value) (ho : d.size * 4 ≤ o) : ErV (w.setCells g o vs) g d := by
  intro i hi j hj
  refine ⟨?_, by rw [World.frozen?_setCells]; exact (h i hi j hj).2⟩
  rw [World.cell?_setCells_out _ _ _ _ _ (fun _ _ => .inl (by show i * 4 + j < o; omega))]
  exact (h i hi j hj).1
theorem ErV.less [Inhabited Ed] {w : World} {g : Nat} {d d' : Array Ed} (h : ErV w g d) (hs : d'.size ≤ d.size) (he : ∀ i, i < d'.size → d'[i]! = d[i]!) : ErV w g d' := fun i hi j hj => by
  rw [he i hi]; exact h i (by omega) j hj
theorem ErV.below [Inhabited Ed] {w w' : World} {g B : Nat} {d : Array Ed} (h : ErV w g d) (hb : Below B w w') (hg : g < B) : ErV w' g d := fun i hi j hj => by
  have hc : w'.cell? ⟨g, i * 4 + j, none⟩ = w.cell? ⟨g, i * 4 + j, none⟩ := hb.cell (p := ⟨g, i * 4 + j, none⟩) hg
  have hf : w'.frozen? ⟨g, i * 4 + j, none⟩ = w.frozen? ⟨g, i * 4 + j, none⟩ := by unfold World.frozen?; rw [hb.block g hg]
  rw [hc, hf]; exact h i hi j hj
theorem ErV.drawn [Inhabited Ed] {w : World} {g : Nat} {d : Array Ed} (h : ErV w g d) (n : Nat) : ErV (w.drewN n) g d := h
theorem below_setCells {B g : Nat} (hB : B ≤ g) : ∀ (vs : List Value) (o : Nat) (a w : World), Below B a w → Below B a (w.setCells g o vs)
  | [], _, _, _, h => h
  | v :: r, o, a, w, h => below_setCells hB r (o + 1) a _ (h.setCell (p := ⟨g, o, none⟩) hB v)
theorem clear_run {P : Program} (w : World) (t e ty : TypeId) (z : Value) (ht : P.underlying t = some (.slice e)) (hv : ∀ w, (zeroValue e).run P w = .ok z w) (b o n c : Nat) (hn : 0 < n)
    (hc : ∀ j, j < (Builtin.zeroCells z.cells n).toList.length → (w.cell? ⟨b, o + j, none⟩).isSome = true) (hf : ∀ j, j < (Builtin.zeroCells z.cells n).toList.length → w.frozen? ⟨b, o + j, none⟩ = false) (h1 : ∀ v ∈ (Builtin.zeroCells z.cells n).toList, v.oneCell' = true) :
    (Builtin.clear_ #[t] ty #[.slice (some ⟨b, o, none⟩) n c]).run P w = .ok (.tuple #[]) (w.setCells b o (Builtin.zeroCells z.cells n).toList) := by
  have hst := run_storeCells_cells (P := P) b o (Builtin.zeroCells z.cells n).toList 0 w (by simpa using hc) (by simpa using hf) h1
  simp only [Nat.add_zero] at hst
  obtain ⟨m, rfl⟩ : ∃ m, n = m + 1 := ⟨n - 1, by omega⟩
  simp [Builtin.clear_, run_underlying ht, hv, hst]
theorem zero_one {n : Nat} : ∀ v ∈ (Builtin.zeroCells (.agg #[.int .i64 0, .int .i64 0, .int .i64 0, .int .i64 0] : Value).cells n).toList, v.oneCell' = true := by
  intro v hv
  unfold Builtin.zeroCells at hv
  simp at hv
  obtain ⟨i, hi, rfl⟩ := hv
  have : i % 4 = 0 ∨ i % 4 = 1 ∨ i % 4 = 2 ∨ i % 4 = 3 := by omega
  rcases this with h | h | h | h <;> simp [Value.cells, h] <;> rfl
theorem size_setCells (b : Nat) : ∀ (vs : List Value) (o : Nat) (w : World), (w.setCells b o vs).heap.size = w.heap.size
  | [], _, _ => rfl
  | v :: r, o, w => (size_setCells b r (o + 1) _).trans (by simp [World.setCell])
theorem eqlE (x1 x2 x3 x4 y1 y2 y3 y4 : Int) (b : Bool) (hb : b = decide (x1 = y1 ∧ x2 = y2 ∧ x3 = y3 ∧ x4 = y4)) (w : World) : (binOp .eql 68 (.agg #[.int .i64 x1, .int .i64 x2, .int .i64 x3, .int .i64 x4]) (.agg #[.int .i64 y1, .int .i64 y2, .int .i64 y3, .int .i64 y4])).run Try.prog w = .ok (.bool b) w := by
  have hS : Try.prog.underlying 68 = some (.struct (Try.prog.fieldsOf 68)) := by kernel_rfl
  have hp : Try.prog.stoodInHeld 68 = false := by kernel_rfl
  rw [run_eql_struct, show (10000 : Nat) = 9999 + 1 from rfl, run_equalIn_agg w 9999 68 _ _ hS hp]
  simp only [Program.fieldsOf, Try.underlying68]
  have u3 := Try.underlying3
  go_simp
  subst hb
  by_cases h1 : x1 = y1 <;> by_cases h2 : x2 = y2 <;> by_cases h3 : x3 = y3 <;> by_cases h4 : x4 = y4 <;> simp [h1, h2, h3, h4]
theorem neqE (x1 x2 x3 x4 y1 y2 y3 y4 : Int) (b : Bool) (hb : b = !decide (x1 = y1 ∧ x2 = y2 ∧ x3 = y3 ∧ x4 = y4)) (w : World) : (binOp .neq 68 (.agg #[.int .i64 x1, .int .i64 x2, .int .i64 x3, .int .i64 x4]) (.agg #[.int .i64 y1, .int .i64 y2, .int .i64 y3, .int .i64 y4])).run Try.prog w = .ok (.bool b) w := by
  have hS : Try.prog.underlying 68 = some (.struct (Try.prog.fieldsOf 68)) := by kernel_rfl
  have hp : Try.prog.stoodInHeld 68 = false := by kernel_rfl
  rw [run_neq_struct, show (10000 : Nat) = 9999 + 1 from rfl, run_equalIn_agg w 9999 68 _ _ hS hp]
  simp only [Program.fieldsOf, Try.underlying68]
  have u3 := Try.underlying3
  go_simp
  subst hb
  by_cases h1 : x1 = y1 <;> by_cases h2 : x2 = y2 <;> by_cases h3 : x3 = y3 <;> by_cases h4 : x4 = y4 <;> simp [h1, h2, h3, h4]
theorem guardE (op : BinOp) (a b : Operand) (x1 x2 x3 x4 y1 y2 y3 y4 : Int) (w : World) : (eqGuard op 68 a b (.agg #[.int .i64 x1, .int .i64 x2, .int .i64 x3, .int .i64 x4]) (.agg #[.int .i64 y1, .int .i64 y2, .int .i64 y3, .int .i64 y4])).run Try.prog w = .ok () w := run_eqGuard_agg w op 68 a b _ _ (by kernel_rfl)

set_option maxHeartbeats 8000000 in
set_option maxRecDepth 100000 in
theorem compactE_walk [Inhabited Ed] [DecidableEq Ed] (g cap B : Nat) (d : Array Ed) (w : World) (hH : ErV w g d) (hB : B ≤ g) (hg : g < w.heap.size) (hsz : d.size ≤ 300) (hcap : d.size ≤ cap) (hm : cap ≤ 9223372036854775807) :
    Calls Try.prog 56 #[.slice (some ⟨g, 0, none⟩) d.size cap] w fun e w' => e = .returned (.slice (some ⟨g, 0, none⟩) (compactUpTo d d.size).length cap) ∧ ErV w' g (compactUpTo d d.size).toArray ∧ Below B w w' ∧ w.heap.size ≤ w'.heap.size := by
  have HH := hide hH
  clear hH
  have HALL : Hid (∀ wr, ErV wr g d → (∀ j, j < d.size → keeps d j = true) → compactUpTo d d.size = d.toList ∧ ErV wr g (compactUpTo d d.size).toArray) := by
    intro wr hr hall
    have e : compactUpTo d d.size = d.toList := by rw [compactUpTo_all d _ hall, range_map_get]
    exact ⟨e, by rw [e]; simpa using hr⟩
  have HEQ := hide eqlE
  have HNE := hide neqE
  have HGU := hide guardE
  by_cases h2 : d.size < 2
  · have h2i : (d.size : Int) < 2 := by omega
    go_enter Try.func56, Try.ntmps56
    go_wp2_with fail
    go_ret
    obtain ⟨e1, e2⟩ := HALL.out w HH.out (fun j hj => keeps_lt_one d j (by omega))
    exact ⟨by rw [e1]; simp, e2, Below.refl _ _, Nat.le_refl _⟩
  · have h2i : ¬ (d.size : Int) < 2 := by omega
    go_enter Try.func56, Try.ntmps56
    go_wp2_with fail
    go_loopw [3] (fun s3 wr => ∃ k : Nat, 1 ≤ k ∧ k ≤ d.size ∧ s3 = .int .i64 k ∧ (∀ j, j < k → keeps d j = true) ∧ ErV wr g d ∧ Below B w wr ∧ w.heap.size ≤ wr.heap.size) (fun s3 _ => d.size - (intOf s3).toNat)
    case atStart => exact ⟨1, Nat.le_refl _, by omega, rfl, keeps_lt_one d, HH.out, Below.refl _ _, Nat.le_refl _⟩
    case round =>
      obtain ⟨k, hk1, hk, rfl, hall, hE, hBe, hZ⟩ := hrel
      have HA := hide hall
      have HE := hide hE
      have HBe := hide hBe
      clear hall hE hBe
      by_cases hlt : k < d.size
      · obtain ⟨m, rfl⟩ : ∃ m, k = m + 1 := ⟨k - 1, by omega⟩
        obtain ⟨⟨c0, c1, c2, c3⟩, -⟩ := HE.out.parts hlt
        obtain ⟨⟨e0, e1, e2, e3⟩, -⟩ := HE.out.parts (i := m) (by omega)
        have HKP := hide (fun h => keeps_pos (d := d) (m := m + 1) h)
        have HKN := hide (fun h => keeps_neg (d := d) (m := m + 1) (by omega) h)
        rw [Nat.add_sub_cancel] at HKP HKN
        generalize d[m + 1]! = x at *
        generalize d[m]! = y at *
        obtain ⟨x1, x2, x3, x4⟩ := x
        obtain ⟨y1, y2, y3, y4⟩ := y
        dsimp only at c0 c1 c2 c3 e0 e1 e2 e3
        have hmi : (m : Int) < (d.size : Int) := by omega
        have hki : ((m : Int) + 1) < (d.size : Int) := by omega
        have hws : IntKind.i64.wrap ((m : Int) + 1 - 1) = (m : Int) := by rw [IntKind.wrap_i64]; omega
        have hgu := HGU.out .eql
        by_cases hdup : (⟨x1, x2, x3, x4⟩ : Ed) = ⟨y1, y2, y3, y4⟩
        · have heq := HEQ.out x1 x2 x3 x4 y1 y2 y3 y4 true (by rw [Ed.mk.injEq] at hdup; simp [hdup])
          go_wp2_with fail
          go_big_quiet ((fail))
          clear c0 c1 c2 c3 e0 e1 e2 e3 heq hgu hws
          have HDN := hide (HKN.out hdup)
          obtain ⟨R, hR⟩ : ∃ R, d.size - (m + 1) = R := ⟨_, rfl⟩
          have hRc : R ≤ cap - (m + 1) := by omega
          rename World => wo
          go_wp2_with fail
          go_loopw [3, 5] (fun s3 s5 wr => ∃ (kk m2 : Nat) (dk : Array Ed), s3 = .int .i64 kk ∧ s5 = .int .i64 ((m2 : Int) + 1) ∧ m + 1 + (m2 + 1) ≤ d.size ∧ CompInv d (m + 1 + (m2 + 1)) kk dk ∧ ErV wr g dk ∧ Below B w wr ∧ w.heap.size ≤ wr.heap.size) (fun _ s5 _ => d.size - (intOf s5).toNat)
          case atStart => exact ⟨m + 1, 0, d, rfl, rfl, by omega, CompInv.start HA.out HDN.out, HE.out, HBe.out.trans (below_draws _ _ _), by simpa using hZ⟩
          case round =>
            clear HE HBe hZ
            obtain ⟨kk, m2, dk, rfl, rfl, hle, hI, hE, hBe, hZ⟩ := hrel
            have hkk := hI.lt
            have hds := hI.size
            have HI := hide hI
            have HE := hide hE
            have HBe := hide hBe
            by_cases hlt2 : m + 1 + (m2 + 1) < d.size
            · obtain ⟨⟨c0, c1, c2, c3⟩, -⟩ := hE.parts (i := m + 1 + (m2 + 1)) (by omega)
              obtain ⟨⟨e0, e1, e2, e3⟩, -⟩ := hE.parts (i := m + 1 + m2) (by omega)
              obtain ⟨⟨b0, b1, b2, b3⟩, ⟨f0, f1, f2, f3⟩⟩ := hE.parts (i := kk) (by omega)
              rw [hI.high (m + 1 + (m2 + 1)) (by omega)] at c0 c1 c2 c3
              rw [hI.high (m + 1 + m2) (by omega)] at e0 e1 e2 e3
              rw [show (m + 1 + (m2 + 1)) * 4 = (m + 1) * 4 + (m2 + 1) * 4 by omega] at c0 c1 c2 c3
              rw [show (m + 1 + m2) * 4 = (m + 1) * 4 + m2 * 4 by omega] at e0 e1 e2 e3
              have HSK := hide (fun h => hI.skip (keeps_neg (d := d) (m := m + 1 + (m2 + 1)) (by omega) h))
              have HKE := hide (fun h => hI.keep hlt2 (keeps_pos (d := d) (m := m + 1 + (m2 + 1)) h))
              rw [show m + 1 + (m2 + 1) - 1 = m + 1 + m2 by omega] at HSK HKE
              have HST := hide (fun u => hE.set (k := kk) (by omega) u)
              clear hI hE hBe
              generalize d[m + 1 + (m2 + 1)]! = x at *
              generalize d[m + 1 + m2]! = y at *
              generalize dk[kk]! = z at *
              obtain ⟨x1, x2, x3, x4⟩ := x
              obtain ⟨y1, y2, y3, y4⟩ := y
              dsimp only at c0 c1 c2 c3 e0 e1 e2 e3
              have i1 : (m2 : Int) + 1 < (R : Int) := by omega
              have i2 : (m2 : Int) < (R : Int) := by omega
              have i3 : (kk : Int) < (d.size : Int) := by omega
              have hws : IntKind.i64.wrap ((m2 : Int) + 1 - 1) = (m2 : Int) := by rw [IntKind.wrap_i64]; omega
              have hgu := HGU.out .neq
              by_cases hxy : (⟨x1, x2, x3, x4⟩ : Ed) = ⟨y1, y2, y3, y4⟩
              · have hne := HNE.out x1 x2 x3 x4 y1 y2 y3 y4 false (by rw [Ed.mk.injEq] at hxy; simp [hxy])
                have HIS := hide (HSK.out hxy)
                clear hxy HSK HKE HST
                go_wp2_with fail
                go_big_quiet ((fail))
                go_wp2_with fail
                go_roundw
                case rel => exact ⟨kk, m2 + 1, dk, rfl, by go_num, by omega, HIS.out, HE.out, HBe.out.trans (below_draws _ _ _), by simpa using hZ⟩
                case measure => simp [intOf]; omega
              · have hne := HNE.out x1 x2 x3 x4 y1 y2 y3 y4 true (by rw [Ed.mk.injEq] at hxy; simp [hxy])
                have HIS := hide (HKE.out hxy)
                clear hxy HSK HKE
                go_wp2_with fail
                go_big_quiet ((fail))
                go_wp2_with fail
                go_roundw
                case rel => exact ⟨kk + 1, m2 + 1, dk.setIfInBounds kk ⟨x1, x2, x3, x4⟩, by go_num, by go_num, by omega, HIS.out, HST.out ⟨x1, x2, x3, x4⟩, below_setCells hB (edCells ⟨x1, x2, x3, x4⟩) (kk * 4) w _ (HBe.out.trans (below_draws _ _ _)), by have := size_setCells g (edCells ⟨x1, x2, x3, x4⟩) (kk * 4) wr; simpa using Nat.le_trans hZ (Nat.le_of_eq this.symm)⟩
                case measure => simp [intOf]; omega
            · have hend : m + 1 + (m2 + 1) = d.size := by omega
              have HCL : Hid (∀ ty, (Builtin.clear_ #[56] ty #[.slice (some ⟨g, kk * 4, none⟩) (d.size - kk) (cap - kk)]).run Try.prog wr = .ok (.tuple #[]) (wr.setCells g (kk * 4) (Builtin.zeroCells (.agg #[.int .i64 0, .int .i64 0, .int .i64 0, .int .i64 0] : Value).cells (d.size - kk)).toList)) := by
                intro ty
                have hzl : (Builtin.zeroCells (.agg #[.int .i64 0, .int .i64 0, .int .i64 0, .int .i64 0] : Value).cells (d.size - kk)).toList.length = (d.size - kk) * 4 := by rw [Array.length_toList, size_zeroCells]; rfl
                refine clear_run wr _ _ ty _ Try.underlying56 Try.zeroValue68 g (kk * 4) _ _ (by omega) ?_ ?_ ?_
                · intro j hj
                  rw [hzl] at hj
                  have h := (hE (kk + j / 4) (by omega) (j % 4) (by omega)).1
                  rw [show (kk + j / 4) * 4 + j % 4 = kk * 4 + j by omega] at h
                  rw [h, List.getElem?_eq_getElem (show j % 4 < (edCells dk[kk + j / 4]!).length by show j % 4 < 4; omega)]; rfl
                · intro j hj
                  rw [hzl] at hj
                  have h := (hE (kk + j / 4) (by omega) (j % 4) (by omega)).2
                  rw [show (kk + j / 4) * 4 + j % 4 = kk * 4 + j by omega] at h
                  exact h
                · intro v hv
                  exact zero_one v hv
              rw [hend] at HI
              have i1 : ¬ (m2 : Int) + 1 < (R : Int) := by omega
              have i3 : (kk : Int) ≤ (d.size : Int) := by omega
              have hcl := HCL.out
              clear hI hE hBe
              go_wp2_with fail
              go_ret
              refine ⟨by rw [HI.out.len]; rfl, ?_, below_setCells hB _ _ _ _ HBe.out, by rw [size_setCells]; exact hZ⟩
              refine (HE.out.less (d' := (compactUpTo d d.size).toArray) ?_ ?_).out _ _ ?_
              · rw [List.size_toArray, HI.out.len]; omega
              · intro i hi
                have hi' : i < kk := by rw [List.size_toArray, HI.out.len] at hi; exact hi
                have h := HI.out.low i hi'
                rw [getElem!_pos _ i hi]
                simp only [List.getElem_toArray]
                have h2 := List.getElem?_eq_getElem (l := compactUpTo d d.size) (i := i) (by rw [HI.out.len]; exact hi')
                rw [h] at h2
                exact (Option.some.inj h2).symm
              · rw [List.size_toArray, HI.out.len]; exact Nat.le_refl _
        · have heq := HEQ.out x1 x2 x3 x4 y1 y2 y3 y4 false (by rw [Ed.mk.injEq] at hdup; simp [hdup])
          have HK2 := hide (HKP.out hdup)
          go_wp2_with fail
          go_big_quiet ((fail))
          go_wp2_with fail
          go_roundw
          case rel => exact ⟨m + 1 + 1, by omega, by omega, by go_num, fun j hj => (by by_cases e : j = m + 1; exact e ▸ HK2.out; exact HA.out j (by omega)), HE.out, HBe.out.trans (below_draws _ _ _), by simpa using hZ⟩
          case measure => simp [intOf]; omega
      · have : k = d.size := by omega
        subst this
        have hki : ¬ (d.size : Int) < (d.size : Int) := by omega
        go_wp2_with fail
        go_ret
        obtain ⟨e1, e2⟩ := HALL.out _ HE.out HA.out
        exact ⟨by rw [e1]; simp, e2, HBe.out, hZ⟩
end Go.Proofs.Ytjoapiafpahihab
/- Contracts of comparing: cmp.Compare and cmp.Or of ints, and of package dep's compare; what they lay is new. -/
namespace Go.Proofs.Ytjoapiafpahihab
open Go.RowKit Go.Joins
set_option linter.unusedVariables false

theorem isNaN_int (x : Int) (w : World) : Calls Try.prog 121 #[.int .i64 x] w fun e w' => e = .returned (.bool false) ∧ w' = w := by
  have hb : (x != x) = false := by simp
  go_enter Try.func121, Try.ntmps121
  go_wp2_with fail
  go_ret
  exact ⟨rfl, rfl⟩
set_option maxHeartbeats 400000 in
theorem compare_int (x y : Int) (w : World) : Calls Try.prog 91 #[.int .i64 x, .int .i64 y] w fun e w' => e = .returned (.int .i64 (cmpI x y)) ∧ w' = w := by
  unfold cmpI
  by_cases h1 : x < y
  · rw [if_pos h1]
    go_enter Try.func91, Try.ntmps91
    go_wp2_with (go_at_call 121; refine (isNaN_int _ _).mono ?_; rintro e w' ⟨rfl, rfl⟩)
    go_ret
    exact ⟨rfl, rfl⟩
  · rw [if_neg h1]
    by_cases h2 : y < x
    · rw [if_pos h2]
      go_enter Try.func91, Try.ntmps91
      go_wp2_with (go_at_call 121; refine (isNaN_int _ _).mono ?_; rintro e w' ⟨rfl, rfl⟩)
      go_ret
      exact ⟨rfl, rfl⟩
    · rw [if_neg h2]
      go_enter Try.func91, Try.ntmps91
      go_wp2_with (go_at_call 121; refine (isNaN_int _ _).mono ?_; rintro e w' ⟨rfl, rfl⟩)
      go_ret
      exact ⟨rfl, rfl⟩
/-- the first that is not 0 -/
def orAt (l : List Int) (k : Nat) : Int := match (l.drop k).find? (fun x => decide (x ≠ 0)) with | some x => x | none => 0
theorem orAt_yes {l : List Int} {k : Nat} (hk : k < l.length) (h : nth l k ≠ 0) : orAt l k = nth l k := by
  have e : l.drop k = nth l k :: l.drop (k + 1) := by
    rw [List.drop_eq_getElem_cons hk]
    unfold nth
    rw [List.getD_eq_getElem?_getD, List.getElem?_eq_getElem hk]; rfl
  unfold orAt
  rw [e, List.find?_cons_of_pos (by simpa using h)]
theorem orAt_no {l : List Int} {k : Nat} (hk : k < l.length) (h : nth l k = 0) : orAt l k = orAt l (k + 1) := by
  have e : l.drop k = nth l k :: l.drop (k + 1) := by
    rw [List.drop_eq_getElem_cons hk]
    unfold nth
    rw [List.getD_eq_getElem?_getD, List.getElem?_eq_getElem hk]; rfl
  unfold orAt
  rw [e, List.find?_cons_of_neg (by simpa using h)]
theorem orAt_end {l : List Int} : orAt l l.length = 0 := by unfold orAt; rw [List.drop_length]; rfl
theorem or_cmp (a b : Ed) : orAt [cmpI a.fr b.fr, cmpI a.to b.to, cmpI a.bk b.bk, cmpI a.wt b.wt] 0 = cmpE a b := by
  unfold cmpE
  generalize cmpI a.fr b.fr = x
  generalize cmpI a.to b.to = y
  generalize cmpI a.bk b.bk = z
  generalize cmpI a.wt b.wt = u
  by_cases h1 : x ≠ 0
  · rw [if_pos h1, orAt_yes (by simp) (show nth [x, y, z, u] 0 ≠ 0 from h1)]; rfl
  · rw [if_neg h1, orAt_no (by simp) (show nth [x, y, z, u] 0 = 0 from Classical.not_not.1 h1)]
    by_cases h2 : y ≠ 0
    · rw [if_pos h2, orAt_yes (by simp) (show nth [x, y, z, u] 1 ≠ 0 from h2)]; rfl
    · rw [if_neg h2, orAt_no (by simp) (show nth [x, y, z, u] 1 = 0 from Classical.not_not.1 h2)]
      by_cases h3 : z ≠ 0
      · rw [if_pos h3, orAt_yes (by simp) (show nth [x, y, z, u] 2 ≠ 0 from h3)]; rfl
      · rw [if_neg h3, orAt_no (by simp) (show nth [x, y, z, u] 2 = 0 from Classical.not_not.1 h3)]
        by_cases h4 : u = 0
        · rw [orAt_no (by simp) (show nth [x, y, z, u] 3 = 0 from h4), h4]; exact orAt_end (l := [x, y, z, 0])
        · rw [orAt_yes (by simp) (show nth [x, y, z, u] 3 ≠ 0 from h4)]; rfl
set_option maxHeartbeats 400000 in
theorem or_any (zs : List Int) (g cap : Nat) (w : World) (hn : zs.length ≤ cap) (hcap : cap ≤ 9223372036854775807) (hc : ∀ i, i < zs.length → w.cell? ⟨g, i, none⟩ = some (.int .i64 (nth zs i))) :
    Calls Try.prog 90 #[.slice (some ⟨g, 0, none⟩) zs.length cap] w fun e w' => e = .returned (.int .i64 (orAt zs 0)) ∧ w' = w := by
  have HC := hide hc
  clear hc
  go_enter Try.func90, Try.ntmps90
  go_wp2_with fail
  go_loop [8] (fun i => ∃ k : Nat, k ≤ zs.length ∧ i = .int .i64 k ∧ orAt zs 0 = orAt zs k) (fun i => zs.length - (intOf i).toNat)
  case atStart => exact ⟨0, Nat.zero_le _, rfl, rfl⟩
  case round =>
    obtain ⟨k, hk, rfl, hor⟩ := hrel
    have HOR := hide hor
    clear hor
    by_cases hlt : k < zs.length
    · have hki : (k : Int) < (zs.length : Int) := by omega
      have hck := HC.out k hlt
      by_cases h0 : nth zs k = 0
      · have HN := hide (orAt_no hlt h0)
        have hbb : (nth zs k != 0) = false := by simpa using h0
        clear h0
        go_wp2_with fail
        go_round
        case rel => exact ⟨k + 1, by omega, by go_num, HOR.out.trans HN.out⟩
        case measure => simp [intOf]; omega
      · have HY := hide (orAt_yes hlt h0)
        have hbb : (nth zs k != 0) = true := by simpa using h0
        clear h0
        go_wp2_with fail
        go_ret
        exact ⟨ret_int (by rw [HOR.out, HY.out]), rfl⟩
    · have e : k = zs.length := by omega
      have HE : Hid (orAt zs k = 0) := by show orAt zs k = 0; rw [e]; exact orAt_end
      have hki : ¬ (k : Int) < (zs.length : Int) := by omega
      clear e
      go_wp2_with fail
      go_ret
      exact ⟨ret_int (by rw [HOR.out, HE.out]), rfl⟩

set_option maxHeartbeats 4000000 in
set_option maxRecDepth 100000 in
theorem compare_four (a1 a2 a3 a4 b1 b2 b3 b4 : Int) (w : World) :
    Calls Try.prog 55 #[.agg #[.int .i64 a1, .int .i64 a2, .int .i64 a3, .int .i64 a4], .agg #[.int .i64 b1, .int .i64 b2, .int .i64 b3, .int .i64 b4]] w fun e w' => e = .returned (.int .i64 (cmpE ⟨a1, a2, a3, a4⟩ ⟨b1, b2, b3, b4⟩)) ∧ ∃ q os', w' = Go.Sort.grow (w.drewN q) os' := by
  have HX : Hid (((w.alloc (.cells #[.int .i64 a1, .int .i64 a2, .int .i64 a3, .int .i64 a4] 68)).alloc (.cells #[.int .i64 b1, .int .i64 b2, .int .i64 b3, .int .i64 b4] 68)).heap.size = w.heap.size + 1 + 1) := by show _ = _; simp
  have HSS : Hid (∀ w' : World, Below (w.heap.size + 1 + 1) ((w.alloc (.cells #[.int .i64 a1, .int .i64 a2, .int .i64 a3, .int .i64 a4] 68)).alloc (.cells #[.int .i64 b1, .int .i64 b2, .int .i64 b3, .int .i64 b4] 68)) w' → (w'.cell? ⟨w.heap.size, 0, none⟩ = some (.int .i64 a1) ∧ w'.cell? ⟨w.heap.size, 1, none⟩ = some (.int .i64 a2) ∧ w'.cell? ⟨w.heap.size, 2, none⟩ = some (.int .i64 a3) ∧ w'.cell? ⟨w.heap.size, 3, none⟩ = some (.int .i64 a4)) ∧ (w'.cell? ⟨w.heap.size + 1, 0, none⟩ = some (.int .i64 b1) ∧ w'.cell? ⟨w.heap.size + 1, 1, none⟩ = some (.int .i64 b2) ∧ w'.cell? ⟨w.heap.size + 1, 2, none⟩ = some (.int .i64 b3) ∧ w'.cell? ⟨w.heap.size + 1, 3, none⟩ = some (.int .i64 b4))) := by
    intro w' h
    have h' : Below ((w.alloc (.cells #[.int .i64 a1, .int .i64 a2, .int .i64 a3, .int .i64 a4] 68)).alloc (.cells #[.int .i64 b1, .int .i64 b2, .int .i64 b3, .int .i64 b4] 68)).heap.size ((w.alloc (.cells #[.int .i64 a1, .int .i64 a2, .int .i64 a3, .int .i64 a4] 68)).alloc (.cells #[.int .i64 b1, .int .i64 b2, .int .i64 b3, .int .i64 b4] 68)) w' := by rw [HX.out]; exact h
    refine ⟨⟨?_, ?_, ?_, ?_⟩, ⟨?_, ?_, ?_, ?_⟩⟩
    all_goals rw [bcell h' _ _ (by rw [HX.out]; omega)]
    all_goals go_simp
  have HE := hide (or_cmp ⟨a1, a2, a3, a4⟩ ⟨b1, b2, b3, b4⟩)
  simp only at HE
  go_enter Try.func55, Try.ntmps55
  go_wp2_with fail
  refine wp_region_noPanic ?_
  refine region_until 99 (fun w' => (w'.cell? ⟨w.heap.size, 0, none⟩ = some (.int .i64 a1) ∧ w'.cell? ⟨w.heap.size, 1, none⟩ = some (.int .i64 a2) ∧ w'.cell? ⟨w.heap.size, 2, none⟩ = some (.int .i64 a3) ∧ w'.cell? ⟨w.heap.size, 3, none⟩ = some (.int .i64 a4)) ∧ (w'.cell? ⟨w.heap.size + 1, 0, none⟩ = some (.int .i64 b1) ∧ w'.cell? ⟨w.heap.size + 1, 1, none⟩ = some (.int .i64 b2) ∧ w'.cell? ⟨w.heap.size + 1, 2, none⟩ = some (.int .i64 b3) ∧ w'.cell? ⟨w.heap.size + 1, 3, none⟩ = some (.int .i64 b4))) (by kernel_rfl) (HSS.out _ (below_drew1 _ _)) (fun hHeld => ?_)
  refine utk (i := 0) rfl hHeld ?_
  try simp only [Act.put, List.setIfInBounds_toArray, List.set_cons_zero, List.set_cons_succ]
  refine utk (i := 1) rfl hHeld ?_
  try simp only [Act.put, List.setIfInBounds_toArray, List.set_cons_zero, List.set_cons_succ]
  refine utk (i := 2) rfl hHeld ?_
  try simp only [Act.put, List.setIfInBounds_toArray, List.set_cons_zero, List.set_cons_succ]
  refine utk (i := 3) rfl hHeld ?_
  try simp only [Act.put, List.setIfInBounds_toArray, List.set_cons_zero, List.set_cons_succ]
  refine utk (i := 5) rfl hHeld ?_
  try simp only [Act.put, List.setIfInBounds_toArray, List.set_cons_zero, List.set_cons_succ]
  refine utk (i := 6) rfl hHeld ?_
  try simp only [Act.put, List.setIfInBounds_toArray, List.set_cons_zero, List.set_cons_succ]
  refine utk (i := 7) rfl hHeld ?_
  try simp only [Act.put, List.setIfInBounds_toArray, List.set_cons_zero, List.set_cons_succ]
  refine utk (i := 8) rfl hHeld ?_
  try simp only [Act.put, List.setIfInBounds_toArray, List.set_cons_zero, List.set_cons_succ]
  refine utk (i := 10) rfl hHeld ?_
  try simp only [Act.put, List.setIfInBounds_toArray, List.set_cons_zero, List.set_cons_succ]
  refine utk (i := 11) rfl hHeld ?_
  try simp only [Act.put, List.setIfInBounds_toArray, List.set_cons_zero, List.set_cons_succ]
  refine utk (i := 12) rfl hHeld ?_
  try simp only [Act.put, List.setIfInBounds_toArray, List.set_cons_zero, List.set_cons_succ]
  refine utk (i := 13) rfl hHeld ?_
  try simp only [Act.put, List.setIfInBounds_toArray, List.set_cons_zero, List.set_cons_succ]
  refine utk (i := 15) rfl hHeld ?_
  try simp only [Act.put, List.setIfInBounds_toArray, List.set_cons_zero, List.set_cons_succ]
  refine utk (i := 16) rfl hHeld ?_
  try simp only [Act.put, List.setIfInBounds_toArray, List.set_cons_zero, List.set_cons_succ]
  refine utk (i := 17) rfl hHeld ?_
  try simp only [Act.put, List.setIfInBounds_toArray, List.set_cons_zero, List.set_cons_succ]
  refine utk (i := 18) rfl hHeld ?_
  try simp only [Act.put, List.setIfInBounds_toArray, List.set_cons_zero, List.set_cons_succ]
  refine until_one (i := 4) rfl (by kernel_rfl) (fun K hK9 => ?_)
  go_simp
  refine (compare_int _ _ _).mono ?_
  rintro e x1 ⟨rfl, rfl⟩
  refine hK9.out _ _ (.inr hHeld) ?_
  clear hK9 K
  try simp only [Act.put, List.setIfInBounds_toArray, List.set_cons_zero, List.set_cons_succ]
  refine until_one (i := 9) rfl (by kernel_rfl) (fun K hK9 => ?_)
  go_simp
  refine (compare_int _ _ _).mono ?_
  rintro e x2 ⟨rfl, rfl⟩
  refine hK9.out _ _ (.inr hHeld) ?_
  clear hK9 K
  try simp only [Act.put, List.setIfInBounds_toArray, List.set_cons_zero, List.set_cons_succ]
  refine until_one (i := 14) rfl (by kernel_rfl) (fun K hK9 => ?_)
  go_simp
  refine (compare_int _ _ _).mono ?_
  rintro e x3 ⟨rfl, rfl⟩
  refine hK9.out _ _ (.inr hHeld) ?_
  clear hK9 K
  try simp only [Act.put, List.setIfInBounds_toArray, List.set_cons_zero, List.set_cons_succ]
  refine until_one (i := 19) rfl (by kernel_rfl) (fun K hK9 => ?_)
  go_simp
  refine (compare_int _ _ _).mono ?_
  rintro e x4 ⟨rfl, rfl⟩
  refine hK9.out _ _ (.inr hHeld) ?_
  clear hK9 K
  try simp only [Act.put, List.setIfInBounds_toArray, List.set_cons_zero, List.set_cons_succ]
  refine until_one (i := 20) rfl (by kernel_rfl) (fun K hK9 => ?_)
  go_simp
  have hHeld := HSS.out _ ((below_drew1 (w.heap.size + 1 + 1) ((w.alloc (.cells #[.int .i64 a1, .int .i64 a2, .int .i64 a3, .int .i64 a4] 68)).alloc (.cells #[.int .i64 b1, .int .i64 b2, .int .i64 b3, .int .i64 b4] 68))).trans ((below_alloc1 ((w.alloc (.cells #[.int .i64 a1, .int .i64 a2, .int .i64 a3, .int .i64 a4] 68)).alloc (.cells #[.int .i64 b1, .int .i64 b2, .int .i64 b3, .int .i64 b4] 68)).drew (.cells #[.int .i64 (cmpI a1 b1), .int .i64 (cmpI a2 b2), .int .i64 (cmpI a3 b3), .int .i64 (cmpI a4 b4)] 3)).mono (by show _ ≤ ((w.alloc (.cells #[.int .i64 a1, .int .i64 a2, .int .i64 a3, .int .i64 a4] 68)).alloc (.cells #[.int .i64 b1, .int .i64 b2, .int .i64 b3, .int .i64 b4] 68)).heap.size; rw [HX.out]; omega)))
  refine hK9.out _ _ (.inr hHeld) ?_
  clear hK9 K
  try simp only [Act.put, List.setIfInBounds_toArray, List.set_cons_zero, List.set_cons_succ]
  refine until_one (i := 21) rfl (by kernel_rfl) (fun K hK9 => ?_)
  go_simp
  refine (or_any [cmpI a1 b1, cmpI a2 b2, cmpI a3 b3, cmpI a4 b4] (w.heap.size + 1 + 1) 4 _ (by simp) (by decide) (fun i hi => ?_)).mono ?_
  · have hh : i = 0 ∨ i = 1 ∨ i = 2 ∨ i = 3 := by have : i < 4 := hi; omega
    rcases hh with rfl | rfl | rfl | rfl
    all_goals go_simp
    all_goals rfl
  rintro e x6 ⟨rfl, rfl⟩
  refine hK9.out _ _ (.inr hHeld) ?_
  clear hK9 K
  try simp only [Act.put, List.setIfInBounds_toArray, List.set_cons_zero, List.set_cons_succ]
  refine utk (i := 22) rfl hHeld ?_
  try simp only [Act.put, List.setIfInBounds_toArray, List.set_cons_zero, List.set_cons_succ]
  refine until_done (by kernel_rfl) ?_ _
  refine NoPanic.normal ?_
  clear hHeld
  go_wp2_with fail
  go_ret
  refine ⟨ret_int HE.out, 1, #[(.cells #[.int .i64 a1, .int .i64 a2, .int .i64 a3, .int .i64 a4] 68), (.cells #[.int .i64 b1, .int .i64 b2, .int .i64 b3, .int .i64 b4] 68), (.cells #[.int .i64 (cmpI a1 b1), .int .i64 (cmpI a2 b2), .int .i64 (cmpI a3 b3), .int .i64 (cmpI a4 b4)] 3)], ?_⟩
  rfl
end Go.Proofs.Ytjoapiafpahihab
/- The contract of slices.SortFunc at edges, by package dep's compare: the same edges, in their order; nothing but the row is changed. -/
namespace Go.Proofs.Ytjoapiafpahihab
open Go.RowKit Go.Joins Go.Lib Go.Shelf
set_option linter.unusedVariables false

theorem ErV.holds [Inhabited Ed] {w : World} {g : Nat} {d : Array Ed} (h : ErV w g d) : Go.Sort.HoldsK edCells 4 w g 0 d := by
  intro t ht
  have ht' : t < d.size * 4 := by simpa using ht
  have h1 := h (t / 4) (by omega) (t % 4) (by omega)
  rw [show t / 4 * 4 + t % 4 = t by omega] at h1
  rw [Nat.zero_add, Go.Sort.get_flatK _ _ _ _ ht']
  refine ⟨?_, h1.2⟩
  rw [h1.1, List.getElem?_eq_getElem (show t % 4 < (edCells d[t / 4]!).length by show t % 4 < 4; omega), getElem!_pos (edCells d[t / 4]!) (t % 4) (show t % 4 < (edCells d[t / 4]!).length by show t % 4 < 4; omega)]
  rfl
theorem ErV.of_holds [Inhabited Ed] {w : World} {g : Nat} {d : Array Ed} (h : Go.Sort.HoldsK edCells 4 w g 0 d) : ErV w g d := by
  intro i hi j hj
  have h1 := h.cell (i := i) (c := j) hi hj
  rw [Nat.zero_add] at h1
  refine ⟨?_, h1.2⟩
  rw [h1.1, List.getElem?_eq_getElem (show j < (edCells d[i]!).length by show j < 4; omega), getElem!_pos (edCells d[i]!) j (show j < (edCells d[i]!).length by show j < 4; omega)]
theorem ErV.of_own [Inhabited Ed] {w : World} {B g n cap : Nat} {e : TypeId} {l : List Ed} (h : w.ownsRow B e 4 (.slice (some ⟨g, 0, none⟩) n cap) n (flatE l)) (hn : l.length = n) : ErV w g l.toArray ∧ B ≤ g ∧ g < w.heap.size ∧ n ≤ cap ∧ cap ≤ maxLen := by
  obtain ⟨hl, h⟩ := h
  rcases h with ⟨h, -⟩ | ⟨g', c', cur, hv, hg, hb, hn', hm, hc, ht⟩
  · injection h with h1; cases h1
  · injection hv with e1 e2 e3
    injection e1 with e1
    injection e1 with e1
    subst e1; subst e3
    refine ⟨fun i hi j hj => ?_, hg, (Array.getElem?_eq_some_iff.1 hb).1, hn', hm⟩
    have hi' : i < l.length := by simpa using hi
    have e4 : l.toArray[i]! = edAt l i := by
      rw [getElem!_pos _ i hi]
      unfold edAt
      rw [List.getD_eq_getElem?_getD, List.getElem?_eq_getElem hi']
      simp
    refine ⟨?_, ?_⟩
    · rw [cell_of_block hb, e4, ← flatE_get l i j hi' hj, ← ht, List.getElem?_take, if_pos (by omega)]
      simp
    · simp [World.frozen?, hb]
theorem below_sort [Inhabited Ed] {B g n : Nat} {w : World} {d : Array Ed} {os : Array Obj} (hB : B ≤ g) (hg : g < w.heap.size) : Below B w (sortWorldK edCells 4 w g 0 n d os) := by
  refine ⟨rfl, rfl, rfl, ?_, fun k hk => ?_⟩
  · exact size_sortWorldK_c edCells 4 w g 0 n d os
  · show ((w.heap.modify g _) ++ os)[k]? = _
    rw [Array.getElem?_append_left (by simp; omega), Array.getElem?_modify, if_neg (by omega)]
theorem lt_irr (x : Ed) : ltOf cmpE x x = false := by unfold ltOf; exact decide_eq_false (fun h => ltE_irr x (cmpE_lt.1 h))
theorem lt_tr (x y z : Ed) (h1 : ltOf cmpE x y = true) (h2 : ltOf cmpE y z = true) : ltOf cmpE x z = true := by
  unfold ltOf at *
  exact decide_eq_true (cmpE_lt.2 (ltE_trans (cmpE_lt.1 (of_decide_eq_true h1)) (cmpE_lt.1 (of_decide_eq_true h2))))
theorem lt_ntr (x y z : Ed) (h1 : ltOf cmpE x y = false) (h2 : ltOf cmpE y z = false) : ltOf cmpE x z = false := by
  unfold ltOf at *
  have a1 := of_decide_eq_false h1
  have a2 := of_decide_eq_false h2
  exact decide_eq_false (fun h => ltE_le (a := z) (b := y) (c := x) (fun h3 => a2 (cmpE_lt.2 h3)) (fun h3 => a1 (cmpE_lt.2 h3)) (cmpE_lt.1 h))
theorem swoE : Go.Sort.SWO (ltOf cmpE) := ⟨lt_irr, lt_tr, lt_ntr⟩
theorem sort_edges [Inhabited Ed] (d : Array Ed) (g cap B : Nat) (w : World) (hE : ErV w g d) (hB : B ≤ g) (hg : g < w.heap.size) (hsz : d.size ≤ 300) :
    Calls Try.prog 54 #[.slice (some ⟨g, 0, none⟩) d.size cap, .func (.func 55) #[] #[]] w fun e w' => e = .returned (.tuple #[]) ∧ ∃ d' : Array Ed, d'.size = d.size ∧ d'.toList.Perm d.toList ∧ (∀ i j, i < j → j < d'.size → ¬ ltE d'[j]! d'[i]!) ∧ ErV w' g d' ∧ Below B w w' ∧ w.heap.size ≤ w'.heap.size := by
  have eg : ∀ args w, (callFunc 55 args).run Try.prog w = .ok (.enter 55 args) w := enters_of Try.func55 (by kernel_rfl) rfl
  have hcmp : CmpLays Try.prog 55 #[] edCells 4 cmpE g 0 d.size w := fun _ _ _ _ x y => compare_four x.fr x.to x.bk x.wt y.fr y.to y.bk y.wt _
  have hcon := AnyQ.slices_SortFunc Try.sortE 4 Try.isAgg68 Try.sizeOf68 edCells (fun _ => rfl) (fun x v hv => by unfold edCells at hv; simp at hv; rcases hv with rfl | rfl | rfl | rfl <;> rfl) cmpE swoE 55 #[] g 0 cap d w eg hcmp hE.holds hg (by omega)
  refine hcon.mono fun e w' ⟨he, d', n, os, hp, hs, hw⟩ => ⟨he, d', hp.1, ?_, ?_, ?_, ?_, ?_⟩
  · have h := hp.2.2
    rw [Array.extract_eq_self_of_le (by rw [hp.1]; exact Nat.le_refl _), Array.extract_eq_self_of_le (Nat.le_refl _)] at h
    exact h
  · intro i j hij hj h
    have := hs i j (Nat.zero_le _) hij (by rw [← hp.1]; exact hj)
    unfold ltOf at this
    exact of_decide_eq_false this (cmpE_lt.2 h)
  · rw [hw]
    exact ErV.of_holds (holdsK_sortWorldK_c edCells 4 w g 0 d d' n os hE.holds hg hp.1)
  · rw [hw]; exact below_sort hB hg
  · rw [hw]; exact size_sortWorldK_c edCells 4 w g 0 n d' os
end Go.Proofs.Ytjoapiafpahihab
/- The contract of package dep's Edges: all edges of a loop on a machine, or what is wrong; nothing that was there is changed. -/
namespace Go.Proofs.Ytjoapiafpahihab
open Go.RowKit Go.Joins Go.Lib Go.Shelf
set_option linter.unusedVariables false

theorem sort_none (p : Option Addr) (cap : Nat) (fv : Value) (w : World) : Calls Try.prog 54 #[.slice p 0 cap, fv] w fun e w' => e = .returned (.tuple #[]) ∧ w' = w :=
  AnyF.slices_SortFunc_none Try.sortE p cap fv w
theorem compact_none (p : Option Addr) (cap : Nat) (w : World) (hm : cap ≤ 9223372036854775807) : Calls Try.prog 56 #[.slice p 0 cap] w fun e w' => e = .returned (.slice p 0 cap) ∧ w' = w := by
  go_enter Try.func56, Try.ntmps56
  go_wp2_with fail
  go_ret
  exact ⟨rfl, rfl⟩
/-- sorted, each once: what comes of the row that both were laid into -/
theorem done_edges {L : Lp} {t : Tg} (hm : mayB L = true) (ht : mayT t = true) (B : Nat) (v : Value) (w : World) (h : w.ownsRow B 68 4 v (allE L t).length (flatE (allE L t))) :
    Calls Try.prog 54 #[v, .func (.func 55) #[] #[]] w fun e w' => e = .returned (.tuple #[]) ∧ Below B w w' ∧ Calls Try.prog 56 #[v] w' fun e w2 => ∃ a n c, e = .returned (.slice a n c) ∧ EdgesV w2 (.slice a n c) (edgesD L t) ∧ Below B w' w2 := by
  have : Inhabited Ed := ⟨Ed.nil⟩
  have : DecidableEq Ed := fun a b => Classical.propDecidable _
  have hlen := all_len (L := L) (t := t) (may_parts hm).2.2.1
  obtain ⟨a, c, rfl, hc1, hc2⟩ := ownz_shape h
  unfold maxLen at hc2
  cases a with
  | none =>
    obtain ⟨e1, rfl, e3⟩ := own_nil_parts h
    rw [e1]
    have e0 : allE L t = [] := List.length_eq_zero_iff.1 e1
    have e4 : edgesD L t = [] := by
      cases e5 : edgesD L t with
      | nil => rfl
      | cons x l => exact absurd ((all_mem hm ht x).2 (by rw [e5]; simp)) (by rw [e0]; simp)
    refine (sort_none none 0 _ w).mono fun e w' ⟨he, hw⟩ => ⟨he, by rw [hw]; exact Below.refl _ _, ?_⟩
    refine (compact_none none 0 w' (by omega)).mono fun e w2 ⟨he, hw⟩ => ⟨none, 0, 0, he, ?_, by rw [hw]; exact Below.refl _ _⟩
    rw [e4]
    exact ⟨none, 0, rfl, Nat.le_refl _, Nat.zero_le _, fun h => absurd h (by simp)⟩
  | some ad =>
    obtain ⟨g, rfl⟩ := own_some_parts h
    obtain ⟨hE, hB, hg, -, -⟩ := ErV.of_own h rfl
    have hs : (allE L t).toArray.size = (allE L t).length := by simp
    have hsort := sort_edges (allE L t).toArray g c B w hE hB hg (by rw [hs]; omega)
    rw [hs] at hsort
    refine hsort.mono fun e w' ⟨he, d', hz, hp, hst, hE', hb, hzw⟩ => ⟨he, hb, ?_⟩
    have hcd : compactUpTo d' d'.size = edgesD L t := comp_edges hm ht d' hp hst
    have hcomp := compactE_walk g c B d' w' hE' hB (by omega) (by omega) (by omega) (by omega)
    rw [hcd, hz] at hcomp
    refine hcomp.mono fun e w2 ⟨he2, hE2, hb2, hz2⟩ => ⟨_, _, _, he2, ?_, hb2⟩
    have hle : (edgesD L t).length ≤ (allE L t).length := by
      rw [← hcd, ← hz]
      unfold compactUpTo
      rw [List.length_map]
      exact Nat.le_trans (List.length_filter_le _ _) (by simp)
    refine ⟨_, _, rfl, by omega, by unfold maxLen; omega, fun _ => ⟨g, 0, rfl, by omega, fun i hi j hj => ?_⟩⟩
    have h2 := (hE2 i (by simpa using hi) j hj).1
    rw [Nat.zero_add, h2]
    have e4 : (edgesD L t).toArray[i]! = edAt (edgesD L t) i := by
      rw [getElem!_pos _ i (by simpa using hi)]
      unfold edAt
      rw [List.getD_eq_getElem?_getD, List.getElem?_eq_getElem hi]
      simp
    rw [e4]
set_option maxHeartbeats 1000000 in
theorem edges_no1 (p0 p1 p2 q0 q1 q2 r : Int) (L : Lp) (a0 a1 a2 : Option Addr) (cap0 cap1 cap2 : Nat) (w : World) (hL : LoopV w (.agg #[.slice a0 L.logs.length cap0, .slice a1 L.body.length cap1, .slice a2 L.outs.length cap2]) L) (hm : mayB L = false) :
    Calls Try.prog 23 #[.agg #[.slice a0 L.logs.length cap0, .slice a1 L.body.length cap1, .slice a2 L.outs.length cap2], .agg #[.int .i64 p0, .int .i64 p1, .int .i64 p2, .int .i64 q0, .int .i64 q1, .int .i64 q2, .int .i64 r]] w fun e w' => e = .returned (.tuple #[.slice none 0 0, .int .i64 2]) ∧ Below w.heap.size w w' := by
  have HM := hide (fun W (h : LoopV W (.agg #[.slice a0 L.logs.length cap0, .slice a1 L.body.length cap1, .slice a2 L.outs.length cap2]) L) => hm ▸ may_any (.agg #[.slice a0 L.logs.length cap0, .slice a1 L.body.length cap1, .slice a2 L.outs.length cap2]) L W h)
  have HS : Hid (((w.alloc (.cells #[.slice a0 L.logs.length cap0, .slice a1 L.body.length cap1, .slice a2 L.outs.length cap2] 25)).alloc (.cells #[.int .i64 p0, .int .i64 p1, .int .i64 p2, .int .i64 q0, .int .i64 q1, .int .i64 q2, .int .i64 r] 28)).heap.size = w.heap.size + 1 + 1) := by show _ = _; simp
  clear hm
  go_enter Try.func23, Try.ntmps23
  go_wp2_with fail
  refine (HM.out _ (hL.below (below_alloc2 _ _ _))).mono ?_
  rintro e x1 ⟨rfl, hb⟩
  have HB1 : Hid (Below (w.heap.size + 1 + 1) ((w.alloc (.cells #[.slice a0 L.logs.length cap0, .slice a1 L.body.length cap1, .slice a2 L.outs.length cap2] 25)).alloc (.cells #[.int .i64 p0, .int .i64 p1, .int .i64 p2, .int .i64 q0, .int .i64 q1, .int .i64 q2, .int .i64 r] 28)) x1) := by show Below _ _ _; rw [← HS.out]; exact hb
  obtain ⟨⟨l0, l1, l2⟩, ⟨t0, t1, t2, t3, t4, t5, t6⟩, z0, z1, hbw⟩ := ebox_cells HB1.out
  have HW1 := hide hbw
  clear hb hbw
  go_wp2_with fail
  exact bodyPost_ret (v := .tuple #[.slice none 0 0, .int .i64 2]) (by simp [results, Try.results23, go_sem]) rfl ⟨rfl, HW1.out⟩
set_option maxHeartbeats 1000000 in
theorem edges_no2 (p0 p1 p2 q0 q1 q2 r : Int) (L : Lp) (a0 a1 a2 : Option Addr) (cap0 cap1 cap2 : Nat) (w : World) (hL : LoopV w (.agg #[.slice a0 L.logs.length cap0, .slice a1 L.body.length cap1, .slice a2 L.outs.length cap2]) L) (hm : mayB L = true) (ht : mayT ⟨p0, p1, p2, q0, q1, q2, r⟩ = false) :
    Calls Try.prog 23 #[.agg #[.slice a0 L.logs.length cap0, .slice a1 L.body.length cap1, .slice a2 L.outs.length cap2], .agg #[.int .i64 p0, .int .i64 p1, .int .i64 p2, .int .i64 q0, .int .i64 q1, .int .i64 q2, .int .i64 r]] w fun e w' => e = .returned (.tuple #[.slice none 0 0, .int .i64 2]) ∧ Below w.heap.size w w' := by
  have HT := hide (fun W => ht ▸ pmay_seven p0 p1 p2 q0 q1 q2 r W)
  clear ht
  have HM := hide (fun W (h : LoopV W (.agg #[.slice a0 L.logs.length cap0, .slice a1 L.body.length cap1, .slice a2 L.outs.length cap2]) L) => hm ▸ may_any (.agg #[.slice a0 L.logs.length cap0, .slice a1 L.body.length cap1, .slice a2 L.outs.length cap2]) L W h)
  have HS : Hid (((w.alloc (.cells #[.slice a0 L.logs.length cap0, .slice a1 L.body.length cap1, .slice a2 L.outs.length cap2] 25)).alloc (.cells #[.int .i64 p0, .int .i64 p1, .int .i64 p2, .int .i64 q0, .int .i64 q1, .int .i64 q2, .int .i64 r] 28)).heap.size = w.heap.size + 1 + 1) := by show _ = _; simp
  clear hm
  go_enter Try.func23, Try.ntmps23
  go_wp2_with fail
  refine (HM.out _ (hL.below (below_alloc2 _ _ _))).mono ?_
  rintro e x1 ⟨rfl, hb⟩
  have HB1 : Hid (Below (w.heap.size + 1 + 1) ((w.alloc (.cells #[.slice a0 L.logs.length cap0, .slice a1 L.body.length cap1, .slice a2 L.outs.length cap2] 25)).alloc (.cells #[.int .i64 p0, .int .i64 p1, .int .i64 p2, .int .i64 q0, .int .i64 q1, .int .i64 q2, .int .i64 r] 28)) x1) := by show Below _ _ _; rw [← HS.out]; exact hb
  obtain ⟨⟨l0, l1, l2⟩, ⟨t0, t1, t2, t3, t4, t5, t6⟩, z0, z1, hbw⟩ := ebox_cells HB1.out
  have HW1 := hide hbw
  clear hb hbw
  go_wp2_with fail
  refine (HT.out _).mono ?_
  rintro e x2 ⟨rfl, hb⟩
  have HW2 := hide (HW1.out.trans (hb.mono HW1.out.size))
  clear hb l0 l1 l2 t0 t1 t2 t3 t4 t5 t6
  go_wp2_with fail
  exact bodyPost_ret (v := .tuple #[.slice none 0 0, .int .i64 2]) (by simp [results, Try.results23, go_sem]) rfl ⟨rfl, HW2.out⟩
set_option maxHeartbeats 4000000 in
set_option maxRecDepth 100000 in
theorem edges_yes (p0 p1 p2 q0 q1 q2 r : Int) (L : Lp) (a0 a2 : Option Addr) (cap0 b off cap1 cap2 : Nat) (w : World) (hL : LoopV w (.agg #[.slice a0 L.logs.length cap0, .slice (some ⟨b, off, none⟩) L.body.length cap1, .slice a2 L.outs.length cap2]) L) (hm : mayB L = true) (ht : mayT ⟨p0, p1, p2, q0, q1, q2, r⟩ = true) (hl0 : L.logs.length ≤ cap0) (hm0 : cap0 ≤ 9223372036854775807) (hl1 : L.body.length ≤ cap1) (hm1 : cap1 ≤ 9223372036854775807) (hb : b < w.heap.size)
    (hbody : ∀ i, i < L.body.length → ∀ j, j < 9 → w.cell? ⟨b, off + i * 9 + j, none⟩ = (stCells (stAt L.body i))[j]?) (hlogs : Ints w (.slice a0 L.logs.length cap0) L.logs) :
    Calls Try.prog 23 #[.agg #[.slice a0 L.logs.length cap0, .slice (some ⟨b, off, none⟩) L.body.length cap1, .slice a2 L.outs.length cap2], .agg #[.int .i64 p0, .int .i64 p1, .int .i64 p2, .int .i64 q0, .int .i64 q1, .int .i64 q2, .int .i64 r]] w fun e w' => ∃ a n c, e = .returned (.tuple #[.slice a n c, .int .i64 0]) ∧ EdgesV w' (.slice a n c) (edgesD L ⟨p0, p1, p2, q0, q1, q2, r⟩) ∧ Below w.heap.size w w' := by
  have HT := hide (fun W => ht ▸ pmay_seven p0 p1 p2 q0 q1 q2 r W)
  have h16 := (may_parts hm).2.2.1
  have HRE := hide (fun W (hW : Below w.heap.size w W) => refEdges_walk p0 p1 p2 q0 q1 q2 r L b off cap1 (.slice a0 L.logs.length cap0) (.slice a2 L.outs.length cap2) W hl1 hm1 (by have := hW.size; omega) (fun i hi j hj => by rw [bcell hW _ _ hb]; exact hbody i hi j hj) hm h16)
  have HWE := hide (fun W (hW : Below w.heap.size w W) => wordEdges_walk L a0 cap0 b off cap1 (.slice a2 L.outs.length cap2) W hl0 hm0 hl1 hm1 (by have := hW.size; omega) (fun i hi j hj => by rw [bcell hW _ _ hb]; exact hbody i hi j hj) (hlogs.below hW) hm h16)
  have HDN := hide (fun B v W h => done_edges (L := L) (t := ⟨p0, p1, p2, q0, q1, q2, r⟩) hm ht B v W h)
  have HLN := hide (all_len (L := L) (t := ⟨p0, p1, p2, q0, q1, q2, r⟩) h16)
  have HAL : Hid (allE L ⟨p0, p1, p2, q0, q1, q2, r⟩ = refE L ⟨p0, p1, p2, q0, q1, q2, r⟩ L.body.length ++ wordE L L.body.length) := rfl
  have HLA : Hid ((refE L ⟨p0, p1, p2, q0, q1, q2, r⟩ L.body.length).length + (wordE L L.body.length).length ≤ 300) := by
    show _ ≤ _
    have h := HLN.out
    rw [HAL.out, List.length_append] at h
    omega
  clear ht hbody hlogs
  have HM := hide (fun W (h : LoopV W (.agg #[.slice a0 L.logs.length cap0, .slice (some ⟨b, off, none⟩) L.body.length cap1, .slice a2 L.outs.length cap2]) L) => hm ▸ may_any (.agg #[.slice a0 L.logs.length cap0, .slice (some ⟨b, off, none⟩) L.body.length cap1, .slice a2 L.outs.length cap2]) L W h)
  have HS : Hid (((w.alloc (.cells #[.slice a0 L.logs.length cap0, .slice (some ⟨b, off, none⟩) L.body.length cap1, .slice a2 L.outs.length cap2] 25)).alloc (.cells #[.int .i64 p0, .int .i64 p1, .int .i64 p2, .int .i64 q0, .int .i64 q1, .int .i64 q2, .int .i64 r] 28)).heap.size = w.heap.size + 1 + 1) := by show _ = _; simp
  clear hm
  go_enter Try.func23, Try.ntmps23
  go_wp2_with fail
  refine (HM.out _ (hL.below (below_alloc2 _ _ _))).mono ?_
  rintro e x1 ⟨rfl, hb⟩
  have HB1 : Hid (Below (w.heap.size + 1 + 1) ((w.alloc (.cells #[.slice a0 L.logs.length cap0, .slice (some ⟨b, off, none⟩) L.body.length cap1, .slice a2 L.outs.length cap2] 25)).alloc (.cells #[.int .i64 p0, .int .i64 p1, .int .i64 p2, .int .i64 q0, .int .i64 q1, .int .i64 q2, .int .i64 r] 28)) x1) := by show Below _ _ _; rw [← HS.out]; exact hb
  obtain ⟨⟨l0, l1, l2⟩, ⟨t0, t1, t2, t3, t4, t5, t6⟩, z0, z1, hbw⟩ := ebox_cells HB1.out
  have HW1 := hide hbw
  clear hb hbw
  go_wp2_with fail
  refine (HT.out _).mono ?_
  rintro e x2 ⟨rfl, hb2⟩
  have HB2 := hide (HB1.out.trans (hb2.mono (by omega)))
  have HW2 := hide (HW1.out.trans (hb2.mono HW1.out.size))
  clear hb2 l0 l1 l2 t0 t1 t2 t3 t4 t5 t6
  have HSS : Hid (∀ w' : World, Below (w.heap.size + 1 + 1) ((w.alloc (.cells #[.slice a0 L.logs.length cap0, .slice (some ⟨b, off, none⟩) L.body.length cap1, .slice a2 L.outs.length cap2] 25)).alloc (.cells #[.int .i64 p0, .int .i64 p1, .int .i64 p2, .int .i64 q0, .int .i64 q1, .int .i64 q2, .int .i64 r] 28)) w' → (w'.cell? ⟨w.heap.size, 0, none⟩ = some (.slice a0 L.logs.length cap0) ∧ w'.cell? ⟨w.heap.size, 1, none⟩ = some (.slice (some ⟨b, off, none⟩) L.body.length cap1) ∧ w'.cell? ⟨w.heap.size, 2, none⟩ = some (.slice a2 L.outs.length cap2)) ∧ (w'.cell? ⟨w.heap.size + 1, 0, none⟩ = some (.int .i64 p0) ∧ w'.cell? ⟨w.heap.size + 1, 1, none⟩ = some (.int .i64 p1) ∧ w'.cell? ⟨w.heap.size + 1, 2, none⟩ = some (.int .i64 p2) ∧ w'.cell? ⟨w.heap.size + 1, 3, none⟩ = some (.int .i64 q0) ∧ w'.cell? ⟨w.heap.size + 1, 4, none⟩ = some (.int .i64 q1) ∧ w'.cell? ⟨w.heap.size + 1, 5, none⟩ = some (.int .i64 q2) ∧ w'.cell? ⟨w.heap.size + 1, 6, none⟩ = some (.int .i64 r))) := by
    intro w' h
    obtain ⟨h1, h2, -⟩ := ebox_cells h
    exact ⟨h1, h2⟩
  have hz2 : w.heap.size + 1 + 1 ≤ x2.heap.size := by have := HB2.out.size; rw [HS.out] at this; exact this
  go_wp2_with fail
  refine wp_region_noPanic ?_
  refine region_until 99 (fun w' => (w'.cell? ⟨w.heap.size, 0, none⟩ = some (.slice a0 L.logs.length cap0) ∧ w'.cell? ⟨w.heap.size, 1, none⟩ = some (.slice (some ⟨b, off, none⟩) L.body.length cap1) ∧ w'.cell? ⟨w.heap.size, 2, none⟩ = some (.slice a2 L.outs.length cap2)) ∧ (w'.cell? ⟨w.heap.size + 1, 0, none⟩ = some (.int .i64 p0) ∧ w'.cell? ⟨w.heap.size + 1, 1, none⟩ = some (.int .i64 p1) ∧ w'.cell? ⟨w.heap.size + 1, 2, none⟩ = some (.int .i64 p2) ∧ w'.cell? ⟨w.heap.size + 1, 3, none⟩ = some (.int .i64 q0) ∧ w'.cell? ⟨w.heap.size + 1, 4, none⟩ = some (.int .i64 q1) ∧ w'.cell? ⟨w.heap.size + 1, 5, none⟩ = some (.int .i64 q2) ∧ w'.cell? ⟨w.heap.size + 1, 6, none⟩ = some (.int .i64 r))) (by kernel_rfl) (HSS.out _ (HB2.out.trans (below_drew1 _ _))) (fun hHeld => ?_)
  refine utk (i := 0) rfl hHeld ?_
  try simp only [Act.put, List.setIfInBounds_toArray, List.set_cons_zero, List.set_cons_succ]
  refine utk (i := 1) rfl hHeld ?_
  try simp only [Act.put, List.setIfInBounds_toArray, List.set_cons_zero, List.set_cons_succ]
  refine utk (i := 3) rfl hHeld ?_
  try simp only [Act.put, List.setIfInBounds_toArray, List.set_cons_zero, List.set_cons_succ]
  refine until_one (i := 2) rfl (by kernel_rfl) (fun K hK9 => ?_)
  go_simp
  refine (HRE.out _ (HW2.out.trans (below_drew1 _ _))).mono ?_
  rintro e x3 ⟨ev1, rfl, ho1, hb3⟩
  have hB3 := HB2.out.trans ((below_drew1 _ _).trans (hb3.mono (by simpa using hz2)))
  have HB3 := hide hB3
  have HW3 := hide (HW2.out.trans ((below_drew1 _ _).trans (hb3.mono (by simpa using HW2.out.size))))
  have hHeld := HSS.out _ hB3
  obtain ⟨ra, rc, rfl, -, -⟩ := ownz_shape ho1
  have HO1 := hide ho1
  clear ho1 hb3 hB3
  refine hK9.out _ _ (.inr hHeld) ?_
  clear hK9 K
  try simp only [Act.put, List.setIfInBounds_toArray, List.set_cons_zero, List.set_cons_succ]
  refine until_one (i := 4) rfl (by kernel_rfl) (fun K hK9 => ?_)
  go_simp
  refine (HWE.out _ HW3.out).mono ?_
  rintro e x4 ⟨ev2, rfl, ho2, hb4⟩
  have hz3 : w.heap.size + 1 + 1 ≤ x3.heap.size := by have := HB3.out.size; rw [HS.out] at this; exact this
  have hB4 := HB3.out.trans (hb4.mono hz3)
  have HB4 := hide hB4
  have HW4 := hide (HW3.out.trans (hb4.mono HW3.out.size))
  have hHeld := HSS.out _ hB4
  obtain ⟨wa, wc, rfl, -, -⟩ := ownz_shape ho2
  have HO2 := hide ho2
  have HO1b := hide (own_below HO1.out hb4)
  clear ho2 hb4 hB4
  refine hK9.out _ _ (.inr hHeld) ?_
  clear hK9 K
  try simp only [Act.put, List.setIfInBounds_toArray, List.set_cons_zero, List.set_cons_succ]
  have HCC := hide (concat_any (refE L ⟨p0, p1, p2, q0, q1, q2, r⟩ L.body.length) (wordE L L.body.length) x4.heap.size _ _ _ _ (x4.alloc (.cells #[.slice ra (refE L ⟨p0, p1, p2, q0, q1, q2, r⟩ L.body.length).length rc, .slice wa (wordE L L.body.length).length wc] 56)) (by go_simp) (by go_simp) (by simp) (own_below HO1b.out (below_alloc1 _ _)) (own_below HO2.out (below_alloc1 _ _)) HLA.out)
  have HW5 := hide (HW4.out.trans ((below_alloc1 x4 (.cells #[.slice ra (refE L ⟨p0, p1, p2, q0, q1, q2, r⟩ L.body.length).length rc, .slice wa (wordE L L.body.length).length wc] 56)).mono HW4.out.size))
  have hz4 : w.heap.size + 1 + 1 ≤ x4.heap.size := by have := HB4.out.size; rw [HS.out] at this; exact this
  have HB5 := hide (HB4.out.trans ((below_alloc1 x4 (.cells #[.slice ra (refE L ⟨p0, p1, p2, q0, q1, q2, r⟩ L.body.length).length rc, .slice wa (wordE L L.body.length).length wc] 56)).mono hz4))
  rw [← HAL.out] at HCC
  refine until_one (i := 5) rfl (by kernel_rfl) (fun K hK9 => ?_)
  go_simp
  have hHeld := HSS.out _ HB5.out
  refine hK9.out _ _ (.inr hHeld) ?_
  clear hK9 K
  try simp only [Act.put, List.setIfInBounds_toArray, List.set_cons_zero, List.set_cons_succ]
  refine until_one (i := 6) rfl (by kernel_rfl) (fun K hK9 => ?_)
  go_simp
  refine HCC.out.mono ?_
  rintro e x6 ⟨ev3, rfl, ho3, hb6⟩
  have hB6 := HB5.out.trans (hb6.mono (by simp; omega))
  have HW6 := hide (HW5.out.trans (hb6.mono HW5.out.size))
  have hHeld := HSS.out _ hB6
  have HD := hide (HDN.out _ _ _ ho3)
  clear ho3 hb6 hB6
  refine hK9.out _ _ (.inr hHeld) ?_
  clear hK9 K
  try simp only [Act.put, List.setIfInBounds_toArray, List.set_cons_zero, List.set_cons_succ]
  refine utk (i := 7) rfl hHeld ?_
  try simp only [Act.put, List.setIfInBounds_toArray, List.set_cons_zero, List.set_cons_succ]
  refine until_done (by kernel_rfl) ?_ _
  refine NoPanic.normal ?_
  clear hHeld
  go_wp2_with fail
  refine HD.out.mono ?_
  rintro e x7 ⟨rfl, hb7, hcmp⟩
  have HBB := hide hb7
  have HCM := hide hcmp
  have HW7 := hide (HW6.out.trans (hb7.mono HW5.out.size))
  clear hb7 hcmp
  go_wp2_with fail
  refine HCM.out.mono ?_
  rintro e x8 ⟨ea, en, ec, rfl, hev, hb8⟩
  have HEV := hide hev
  have HW8 := hide (HW7.out.trans (hb8.mono HW5.out.size))
  clear hev hb8
  go_wp2_with fail
  exact bodyPost_ret (v := .tuple #[.slice ea en ec, .int .i64 0]) (by simp [results, Try.results23, go_sem]) rfl ⟨ea, en, ec, rfl, HEV.out, HW8.out⟩
theorem depEdges_all : EdgesC := by
  intro v t L w hL
  obtain ⟨p0, p1, p2, q0, q1, q2, r⟩ := t
  have hL' := hL
  obtain ⟨v0, v1, v2, rfl, hI0, ⟨a1, cap1, rfl, h1, h2, h3⟩, ⟨a2, cap2, rfl, -, -, -, -⟩⟩ := hL'
  have hI0' := hI0
  obtain ⟨a0, cap0, rfl, k1, k2, -, -⟩ := hI0'
  unfold maxLen at h2 k2
  cases hm : mayB L with
  | false =>
    refine (edges_no1 p0 p1 p2 q0 q1 q2 r L a0 a1 a2 cap0 cap1 cap2 w hL hm).mono fun e w' ⟨he, hb⟩ => ⟨none, 0, 0, he, hb, fun h => ?_, fun _ => rfl⟩
    cases h
  | true =>
    cases ht : mayT ⟨p0, p1, p2, q0, q1, q2, r⟩ with
    | false =>
      refine (edges_no2 p0 p1 p2 q0 q1 q2 r L a0 a1 a2 cap0 cap1 cap2 w hL hm ht).mono fun e w' ⟨he, hb⟩ => ⟨none, 0, 0, he, hb, fun h => ?_, fun _ => rfl⟩
      cases h
    | true =>
      obtain ⟨b, off, rfl, hb, hcell⟩ := h3 (by have := (may_parts hm).2.1; omega)
      refine (edges_yes p0 p1 p2 q0 q1 q2 r L a0 a2 cap0 b off cap1 cap2 w hL hm ht k1 (by omega) h1 (by omega) hb hcell hI0).mono fun e w' ⟨a, n, c, he, hev, hbw⟩ => ⟨a, n, c, he, hbw, fun _ => hev, fun h => ?_⟩
      cases h
end Go.Proofs.Ytjoapiafpahihab
