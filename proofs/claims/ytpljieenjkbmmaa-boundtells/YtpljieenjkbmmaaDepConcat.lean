/- Contracts of slices.Grow and slices.Concat at edges: a row of the call's own that holds both; nothing that was there is changed. -/
import Derived.Test.YtpljieenjkbmmaaLaid
import Derived.Test.YtpljieenjkbmmaaDepRefs
import Derived.Laws.AppendOwnNone
namespace Go.Proofs.Ytpljieenjkbmmaa
open Go.RowKit Go.Joins
set_option linter.unusedVariables false

theorem own_made (w : World) (cur : Array Value) (e : TypeId) (cap : Nat) (h : cur.size = cap * 4) (hm : cap ≤ maxLen) : (w.drew.alloc (.cells cur e)).ownsRow w.heap.size e 4 (.slice (some ⟨w.heap.size, 0, none⟩) 0 cap) 0 [] := by
  refine ⟨rfl, .inr ⟨w.heap.size, cap, cur, rfl, Nat.le_refl _, ?_, Nat.zero_le _, hm, h, by simp⟩⟩
  show (w.heap.push _)[w.heap.size]? = _
  simp
theorem growE_zero (w : World) : Calls Try.prog 99 #[.slice none 0 0, .int .i64 0] w fun e w' => e = .returned (.slice none 0 0) ∧ w' = w :=
  Any8.slices_Grow_room Try.growE none 0 0 0 w (by omega) (by omega) (by omega) (by omega)
theorem growE_some (n : Nat) (w : World) (h0 : 0 < n) (h : n ≤ 300) : Calls Try.prog 99 #[.slice none 0 0, .int .i64 n] w fun e w' => ∃ c, e = .returned (.slice (some ⟨w.heap.size, 0, none⟩) 0 c) ∧ w'.ownsRow w.heap.size 81 4 (.slice (some ⟨w.heap.size, 0, none⟩) 0 c) 0 [] ∧ Below w.heap.size w w' := by
  obtain ⟨j0, ji, jz0, jz1, jz2⟩ := info_parts Try.i81
  have hcon := Any8.slices_Grow_grow Try.growE j0 (.agg #[.int .i64 0, .int .i64 0, .int .i64 0, .int .i64 0]) ji jz0 (by rw [jz1]; omega) none 0 0 n [] w (by omega) (by omega) (by rw [jz2]; omega) (by omega) (by simp) (fun _ => rfl) (fun a h => by cases h)
  refine hcon.mono fun e w' ⟨he, hw⟩ => ⟨_, he, ?_, ?_⟩
  · subst hw
    have hge : 0 + n ≤ grownCap w (0 + n) 0 (Try.growE_ren.t 25) := grownCap_ge w _ _ _
    refine own_made w _ 81 _ ?_ (grownCap_le_maxLen w _ _ _ (by unfold maxLen; omega))
    simp only [Array.size_append, size_zeroCells]
    show 0 + (0 + n - 0) * 4 + (grownCap w (0 + n) 0 (Try.growE_ren.t 25) - (0 + n)) * 4 = _
    omega
  · subst hw
    exact (below_drew1 w.heap.size w).trans (below_alloc1 w.drew _)
theorem growE_any (n : Nat) (w : World) (h : n ≤ 300) : Calls Try.prog 99 #[.slice none 0 0, .int .i64 n] w fun e w' => ∃ a c, e = .returned (.slice a 0 c) ∧ w'.ownsRow w.heap.size 81 4 (.slice a 0 c) 0 [] ∧ Below w.heap.size w w' := by
  by_cases h0 : n = 0
  · subst h0
    exact (growE_zero w).mono fun e w' ⟨he, hw⟩ => ⟨none, 0, he, World.ownsRow_nil _ _ _ _, by rw [hw]; exact Below.refl _ _⟩
  · exact (growE_some n w (by omega) h).mono fun e w' ⟨c, he, ho, hb⟩ => ⟨_, c, he, ho, hb⟩
theorem own_src {w : World} {B g n c : Nat} {e : TypeId} {xs : List Value} (h : w.ownsRow B e 4 (.slice (some ⟨g, 0, none⟩) n c) n xs) : ∀ (j : Nat) (u : Value), xs[j]? = some u → w.cell? ((⟨g, 0, none⟩ : Addr).add j) = some u := by
  intro j u hj
  obtain ⟨hl, h⟩ := h
  rcases h with ⟨h, -⟩ | ⟨g', cap, cur, hv, hg, hb, hn, hm, hc, ht⟩
  · injection h with h1; cases h1
  · injection hv with e1 e2 e3
    injection e1 with e1
    injection e1 with e1
    subst e1
    have ha : (⟨g, 0, none⟩ : Addr).add j = ⟨g, j, none⟩ := by simp [Addr.add]; omega
    rw [← ht, List.getElem?_take] at hj
    split at hj
    · rw [ha, cell_of_block hb]
      simpa using hj
    · cases hj
theorem flat_one (l : List Ed) : ∀ u ∈ flatE l, u.oneCell' = true := by
  intro u hu
  unfold flatE at hu
  obtain ⟨d, -, hd⟩ := List.mem_flatMap.1 hu
  unfold edCells at hd
  simp at hd
  rcases hd with rfl | rfl | rfl | rfl <;> rfl
theorem flatE_append (a b : List Ed) : flatE (a ++ b) = flatE a ++ flatE b := by unfold flatE; simp
theorem own_nil_parts {w : World} {B n c : Nat} {e : TypeId} {xs : List Value} (h : w.ownsRow B e 4 (.slice none n c) n xs) : n = 0 ∧ c = 0 ∧ xs = [] := by
  obtain ⟨hl, h⟩ := h
  rcases h with ⟨h, hn⟩ | ⟨g', cap, cur, hv, _⟩
  · injection h with h1 h2 h3
    exact ⟨hn, h3, List.length_eq_zero_iff.1 (by rw [hl, hn])⟩
  · injection hv with e1; cases e1
theorem own_some_parts {w : World} {B n c : Nat} {a : Addr} {e : TypeId} {xs : List Value} (h : w.ownsRow B e 4 (.slice (some a) n c) n xs) : ∃ g, a = ⟨g, 0, none⟩ := by
  obtain ⟨hl, h⟩ := h
  rcases h with ⟨h, hn⟩ | ⟨g', cap, cur, hv, _⟩
  · injection h with h1; cases h1
  · injection hv with e1; injection e1 with e1; exact ⟨g', e1⟩

set_option maxHeartbeats 4000000 in
set_option maxRecDepth 100000 in
theorem concat_ss (l1 l2 : List Ed) (gs n1 n2 c1 c2 B1 B2 g1 g2 : Nat) (w : World) (hn1 : l1.length = n1) (hn2 : l2.length = n2) (hs0 : w.cell? ⟨gs, 0, none⟩ = some (.slice (some ⟨g1, 0, none⟩) n1 c1)) (hs1 : w.cell? ⟨gs, 1, none⟩ = some (.slice (some ⟨g2, 0, none⟩) n2 c2)) (hgs : gs < w.heap.size)
    (h1 : w.ownsRow B1 81 4 (.slice (some ⟨g1, 0, none⟩) n1 c1) n1 (flatE l1)) (h2 : w.ownsRow B2 81 4 (.slice (some ⟨g2, 0, none⟩) n2 c2) n2 (flatE l2)) (hlen : n1 + n2 ≤ 300) :
    Calls Try.prog 77 #[.slice (some ⟨gs, 0, none⟩) 2 2] w fun e w' => ∃ ev, e = .returned ev ∧ w'.ownsRow w.heap.size 81 4 ev (n1 + n2) (flatE l1 ++ flatE l2) ∧ Below w.heap.size w w' := by
  have H1 := hide h1
  have H2 := hide h2
  have HGR : Hid (Calls Try.prog 99 #[.slice none 0 0, .int .i64 ((n1 : Int) + (n2 : Int))] w fun e w' => ∃ a c, e = .returned (.slice a 0 c) ∧ w'.ownsRow w.heap.size 81 4 (.slice a 0 c) 0 [] ∧ Below w.heap.size w w') := by
    have h := growE_any (n1 + n2) w (by omega)
    
    exact h
  obtain ⟨j0, ji, jz0, jz1, jz2⟩ := info_parts Try.i81
  have hc1 : n1 ≤ c1 ∧ c1 ≤ maxLen := by obtain ⟨a, c, e, h3, h4⟩ := ownz_shape h1; injection e with e1 e2 e3; subst e3; exact ⟨h3, h4⟩
  unfold maxLen at hc1
  obtain ⟨hc11, hc12⟩ := hc1
  have hc2 : n2 ≤ c2 ∧ c2 ≤ maxLen := by obtain ⟨a, c, e, h3, h4⟩ := ownz_shape h2; injection e with e1 e2 e3; subst e3; exact ⟨h3, h4⟩
  unfold maxLen at hc2
  obtain ⟨hc21, hc22⟩ := hc2
  clear h1 h2
  go_enter Try.func77, Try.ntmps77
  go_wp2_with fail
  refine wp_loop_rounds 3 ?_
  rw [rounds_succ]
  go_wp2_with fail
  rw [rounds_succ]
  go_wp2_with fail
  rw [rounds_succ]
  go_wp2_with fail
  refine HGR.out.mono ?_
  rintro e x1 ⟨ga, gc, rfl, ho, hb1⟩
  have HO1 := hide ho
  have HB1 := hide hb1
  have d0 := (bcell hb1 gs 0 hgs).trans hs0
  have d1 := (bcell hb1 gs 1 hgs).trans hs1
  have hz1 := hb1.size
  clear ho hb1 hs0 hs1
  go_wp2_with fail
  refine wp_loop_rounds 3 ?_
  rw [rounds_succ]
  go_wp2_with (at_builtin; refine wpList_append_own _ rfl (.tmp 31) (.tmp 32) 70 rfl w.heap.size 81 j0 (.agg #[.int .i64 0, .int .i64 0, .int .i64 0, .int .i64 0]) 4 32 Try.underlying70 ji jz0 jz1 jz2 rfl (by decide) _ _ _ rfl HO1.out ⟨g1, 0, none⟩ n1 c1 (flatE l1) rfl (by rw [flatE_len, hn1]) (own_src (own_below H1.out HB1.out)) (flat_one l1) (by unfold maxLen; omega) (by omega) hz1 ?_; intro v2' w2 hown2 hgrow2 hnil2; rw [Nat.zero_add, List.nil_append] at hown2; obtain ⟨oa2, oc2, rfl, hl1', hl2'⟩ := ownz_shape hown2; have HO2 := hide hown2; have HB2 := hide (HB1.out.grown hgrow2 hz1 (ownz_block_ge HO1.out)); clear hown2 hgrow2)
  have d1 := (bcell HB2.out gs 1 hgs).trans ((bcell HB1.out gs 1 hgs).symm.trans d1)
  rw [rounds_succ]
  have hz2 := HB2.out.size
  go_wp2_with (at_builtin; refine wpList_append_own _ rfl (.tmp 31) (.tmp 32) 70 rfl w.heap.size 81 j0 (.agg #[.int .i64 0, .int .i64 0, .int .i64 0, .int .i64 0]) 4 32 Try.underlying70 ji jz0 jz1 jz2 rfl (by decide) _ _ _ rfl HO2.out ⟨g2, 0, none⟩ n2 c2 (flatE l2) rfl (by rw [flatE_len, hn2]) (own_src (own_below H2.out HB2.out)) (flat_one l2) (by unfold maxLen; omega) (by omega) hz2 ?_; intro v3' w3 hown3 hgrow3 hnil3; obtain ⟨oa3, oc3, rfl, hl3', hl4'⟩ := ownz_shape hown3; have HO3 := hide hown3; have HB3 := hide (HB2.out.grown hgrow3 hz2 (ownz_block_ge HO2.out)); clear hown3 hgrow3)
  rw [rounds_succ]
  go_wp2_with fail
  go_ret
  exact ⟨_, rfl, by have h := HO3.out; exact h, HB3.out⟩
set_option maxHeartbeats 4000000 in
set_option maxRecDepth 100000 in
theorem concat_sn (l1 l2 : List Ed) (gs n1 n2 c1 c2 B1 B2 g1 g2 : Nat) (w : World) (hn1 : l1.length = n1) (hn2 : l2.length = n2) (hs0 : w.cell? ⟨gs, 0, none⟩ = some (.slice (some ⟨g1, 0, none⟩) n1 c1)) (hs1 : w.cell? ⟨gs, 1, none⟩ = some (.slice none 0 0)) (hgs : gs < w.heap.size)
    (h1 : w.ownsRow B1 81 4 (.slice (some ⟨g1, 0, none⟩) n1 c1) n1 (flatE l1)) (h2 : w.ownsRow B2 81 4 (.slice none 0 0) 0 (flatE [])) (hlen : n1 + n2 ≤ 300) :
    Calls Try.prog 77 #[.slice (some ⟨gs, 0, none⟩) 2 2] w fun e w' => ∃ ev, e = .returned ev ∧ w'.ownsRow w.heap.size 81 4 ev (n1 + 0) (flatE l1 ++ flatE []) ∧ Below w.heap.size w w' := by
  have H1 := hide h1
  have H2 := hide h2
  have HGR : Hid (Calls Try.prog 99 #[.slice none 0 0, .int .i64 ((n1 : Int))] w fun e w' => ∃ a c, e = .returned (.slice a 0 c) ∧ w'.ownsRow w.heap.size 81 4 (.slice a 0 c) 0 [] ∧ Below w.heap.size w w') := by
    have h := growE_any (n1 + 0) w (by omega)
    rw [Nat.add_zero] at h
    exact h
  obtain ⟨j0, ji, jz0, jz1, jz2⟩ := info_parts Try.i81
  have hc1 : n1 ≤ c1 ∧ c1 ≤ maxLen := by obtain ⟨a, c, e, h3, h4⟩ := ownz_shape h1; injection e with e1 e2 e3; subst e3; exact ⟨h3, h4⟩
  unfold maxLen at hc1
  obtain ⟨hc11, hc12⟩ := hc1
  clear h1 h2
  go_enter Try.func77, Try.ntmps77
  go_wp2_with fail
  refine wp_loop_rounds 3 ?_
  rw [rounds_succ]
  go_wp2_with fail
  rw [rounds_succ]
  go_wp2_with fail
  rw [rounds_succ]
  go_wp2_with fail
  refine HGR.out.mono ?_
  rintro e x1 ⟨ga, gc, rfl, ho, hb1⟩
  have HO1 := hide ho
  have HB1 := hide hb1
  have d0 := (bcell hb1 gs 0 hgs).trans hs0
  have d1 := (bcell hb1 gs 1 hgs).trans hs1
  have hz1 := hb1.size
  clear ho hb1 hs0 hs1
  go_wp2_with fail
  refine wp_loop_rounds 3 ?_
  rw [rounds_succ]
  go_wp2_with (at_builtin; refine wpList_append_own _ rfl (.tmp 31) (.tmp 32) 70 rfl w.heap.size 81 j0 (.agg #[.int .i64 0, .int .i64 0, .int .i64 0, .int .i64 0]) 4 32 Try.underlying70 ji jz0 jz1 jz2 rfl (by decide) _ _ _ rfl HO1.out ⟨g1, 0, none⟩ n1 c1 (flatE l1) rfl (by rw [flatE_len, hn1]) (own_src (own_below H1.out HB1.out)) (flat_one l1) (by unfold maxLen; omega) (by omega) hz1 ?_; intro v2' w2 hown2 hgrow2 hnil2; rw [Nat.zero_add, List.nil_append] at hown2; obtain ⟨oa2, oc2, rfl, hl1', hl2'⟩ := ownz_shape hown2; have HO2 := hide hown2; have HB2 := hide (HB1.out.grown hgrow2 hz1 (ownz_block_ge HO1.out)); clear hown2 hgrow2)
  have d1 := (bcell HB2.out gs 1 hgs).trans ((bcell HB1.out gs 1 hgs).symm.trans d1)
  rw [rounds_succ]
  go_wp2_with (at_builtin; refine wpList_append_own_none rfl (.tmp 31) (.tmp 32) 70 rfl w.heap.size 81 j0 4 Try.underlying70 ji _ _ _ rfl HO2.out rfl ?_)
  rw [rounds_succ]
  go_wp2_with fail
  go_ret
  exact ⟨_, rfl, by have h := HO2.out; simpa [flatE] using h, HB2.out⟩
set_option maxHeartbeats 4000000 in
set_option maxRecDepth 100000 in
theorem concat_ns (l1 l2 : List Ed) (gs n1 n2 c1 c2 B1 B2 g1 g2 : Nat) (w : World) (hn1 : l1.length = n1) (hn2 : l2.length = n2) (hs0 : w.cell? ⟨gs, 0, none⟩ = some (.slice none 0 0)) (hs1 : w.cell? ⟨gs, 1, none⟩ = some (.slice (some ⟨g2, 0, none⟩) n2 c2)) (hgs : gs < w.heap.size)
    (h1 : w.ownsRow B1 81 4 (.slice none 0 0) 0 (flatE [])) (h2 : w.ownsRow B2 81 4 (.slice (some ⟨g2, 0, none⟩) n2 c2) n2 (flatE l2)) (hlen : n1 + n2 ≤ 300) :
    Calls Try.prog 77 #[.slice (some ⟨gs, 0, none⟩) 2 2] w fun e w' => ∃ ev, e = .returned ev ∧ w'.ownsRow w.heap.size 81 4 ev (0 + n2) (flatE [] ++ flatE l2) ∧ Below w.heap.size w w' := by
  have H1 := hide h1
  have H2 := hide h2
  have HGR : Hid (Calls Try.prog 99 #[.slice none 0 0, .int .i64 ((n2 : Int))] w fun e w' => ∃ a c, e = .returned (.slice a 0 c) ∧ w'.ownsRow w.heap.size 81 4 (.slice a 0 c) 0 [] ∧ Below w.heap.size w w') := by
    have h := growE_any (0 + n2) w (by omega)
    rw [Nat.zero_add] at h
    exact h
  obtain ⟨j0, ji, jz0, jz1, jz2⟩ := info_parts Try.i81
  have hc2 : n2 ≤ c2 ∧ c2 ≤ maxLen := by obtain ⟨a, c, e, h3, h4⟩ := ownz_shape h2; injection e with e1 e2 e3; subst e3; exact ⟨h3, h4⟩
  unfold maxLen at hc2
  obtain ⟨hc21, hc22⟩ := hc2
  clear h1 h2
  go_enter Try.func77, Try.ntmps77
  go_wp2_with fail
  refine wp_loop_rounds 3 ?_
  rw [rounds_succ]
  go_wp2_with fail
  rw [rounds_succ]
  go_wp2_with fail
  rw [rounds_succ]
  go_wp2_with fail
  refine HGR.out.mono ?_
  rintro e x1 ⟨ga, gc, rfl, ho, hb1⟩
  have HO1 := hide ho
  have HB1 := hide hb1
  have d0 := (bcell hb1 gs 0 hgs).trans hs0
  have d1 := (bcell hb1 gs 1 hgs).trans hs1
  have hz1 := hb1.size
  clear ho hb1 hs0 hs1
  go_wp2_with fail
  refine wp_loop_rounds 3 ?_
  rw [rounds_succ]
  go_wp2_with (at_builtin; refine wpList_append_own_none rfl (.tmp 31) (.tmp 32) 70 rfl w.heap.size 81 j0 4 Try.underlying70 ji _ _ _ rfl HO1.out rfl ?_)
  rw [rounds_succ]
  have hz2 := HB1.out.size
  go_wp2_with (at_builtin; refine wpList_append_own _ rfl (.tmp 31) (.tmp 32) 70 rfl w.heap.size 81 j0 (.agg #[.int .i64 0, .int .i64 0, .int .i64 0, .int .i64 0]) 4 32 Try.underlying70 ji jz0 jz1 jz2 rfl (by decide) _ _ _ rfl HO1.out ⟨g2, 0, none⟩ n2 c2 (flatE l2) rfl (by rw [flatE_len, hn2]) (own_src (own_below H2.out HB1.out)) (flat_one l2) (by unfold maxLen; omega) (by omega) hz2 ?_; intro v3' w3 hown3 hgrow3 hnil3; rw [Nat.zero_add, List.nil_append] at hown3; obtain ⟨oa3, oc3, rfl, hl3', hl4'⟩ := ownz_shape hown3; have HO3 := hide hown3; have HB3 := hide (HB1.out.grown hgrow3 hz2 (ownz_block_ge HO1.out)); clear hown3 hgrow3)
  rw [rounds_succ]
  go_wp2_with fail
  go_ret
  exact ⟨_, rfl, by have h := HO3.out; simpa [flatE] using h, HB3.out⟩
set_option maxHeartbeats 4000000 in
set_option maxRecDepth 100000 in
theorem concat_nn (l1 l2 : List Ed) (gs n1 n2 c1 c2 B1 B2 g1 g2 : Nat) (w : World) (hn1 : l1.length = n1) (hn2 : l2.length = n2) (hs0 : w.cell? ⟨gs, 0, none⟩ = some (.slice none 0 0)) (hs1 : w.cell? ⟨gs, 1, none⟩ = some (.slice none 0 0)) (hgs : gs < w.heap.size)
    (h1 : w.ownsRow B1 81 4 (.slice none 0 0) 0 (flatE [])) (h2 : w.ownsRow B2 81 4 (.slice none 0 0) 0 (flatE [])) (hlen : n1 + n2 ≤ 300) :
    Calls Try.prog 77 #[.slice (some ⟨gs, 0, none⟩) 2 2] w fun e w' => ∃ ev, e = .returned ev ∧ w'.ownsRow w.heap.size 81 4 ev (0 + 0) (flatE [] ++ flatE []) ∧ Below w.heap.size w w' := by
  have H1 := hide h1
  have H2 := hide h2
  have HGR : Hid (Calls Try.prog 99 #[.slice none 0 0, .int .i64 (0)] w fun e w' => ∃ a c, e = .returned (.slice a 0 c) ∧ w'.ownsRow w.heap.size 81 4 (.slice a 0 c) 0 [] ∧ Below w.heap.size w w') := by
    have h := growE_any (0 + 0) w (by omega)
    
    exact h
  obtain ⟨j0, ji, jz0, jz1, jz2⟩ := info_parts Try.i81
  clear h1 h2
  go_enter Try.func77, Try.ntmps77
  go_wp2_with fail
  refine wp_loop_rounds 3 ?_
  rw [rounds_succ]
  go_wp2_with fail
  rw [rounds_succ]
  go_wp2_with fail
  rw [rounds_succ]
  go_wp2_with fail
  refine HGR.out.mono ?_
  rintro e x1 ⟨ga, gc, rfl, ho, hb1⟩
  have HO1 := hide ho
  have HB1 := hide hb1
  have d0 := (bcell hb1 gs 0 hgs).trans hs0
  have d1 := (bcell hb1 gs 1 hgs).trans hs1
  have hz1 := hb1.size
  clear ho hb1 hs0 hs1
  go_wp2_with fail
  refine wp_loop_rounds 3 ?_
  rw [rounds_succ]
  go_wp2_with (at_builtin; refine wpList_append_own_none rfl (.tmp 31) (.tmp 32) 70 rfl w.heap.size 81 j0 4 Try.underlying70 ji _ _ _ rfl HO1.out rfl ?_)
  rw [rounds_succ]
  go_wp2_with (at_builtin; refine wpList_append_own_none rfl (.tmp 31) (.tmp 32) 70 rfl w.heap.size 81 j0 4 Try.underlying70 ji _ _ _ rfl HO1.out rfl ?_)
  rw [rounds_succ]
  go_wp2_with fail
  go_ret
  exact ⟨_, rfl, by have h := HO1.out; simpa [flatE] using h, HB1.out⟩
theorem concat_any (l1 l2 : List Ed) (gs B1 B2 : Nat) (v1 v2 : Value) (w : World) (hs0 : w.cell? ⟨gs, 0, none⟩ = some v1) (hs1 : w.cell? ⟨gs, 1, none⟩ = some v2) (hgs : gs < w.heap.size)
    (h1 : w.ownsRow B1 81 4 v1 l1.length (flatE l1)) (h2 : w.ownsRow B2 81 4 v2 l2.length (flatE l2)) (hlen : l1.length + l2.length ≤ 300) :
    Calls Try.prog 77 #[.slice (some ⟨gs, 0, none⟩) 2 2] w fun e w' => ∃ ev, e = .returned ev ∧ w'.ownsRow w.heap.size 81 4 ev (l1 ++ l2).length (flatE (l1 ++ l2)) ∧ Below w.heap.size w w' := by
  rw [flatE_append, List.length_append]
  obtain ⟨a1, c1, rfl, -, -⟩ := ownz_shape h1
  obtain ⟨a2, c2, rfl, -, -⟩ := ownz_shape h2
  cases a1 with
  | none =>
    obtain ⟨e1, rfl, e3⟩ := own_nil_parts h1
    have e4 : l1 = [] := List.length_eq_zero_iff.1 e1
    subst e4
    cases a2 with
    | none =>
      obtain ⟨e1, rfl, e3⟩ := own_nil_parts h2
      have e4 : l2 = [] := List.length_eq_zero_iff.1 e1
      subst e4
      exact concat_nn [] [] gs 0 0 0 0 B1 B2 0 0 w rfl rfl hs0 hs1 hgs h1 h2 (by omega)
    | some a =>
      obtain ⟨g2, rfl⟩ := own_some_parts h2
      exact concat_ns [] l2 gs 0 l2.length 0 c2 B1 B2 0 g2 w rfl rfl hs0 hs1 hgs h1 h2 (by simpa using hlen)
  | some a =>
    obtain ⟨g1, rfl⟩ := own_some_parts h1
    cases a2 with
    | none =>
      obtain ⟨e1, rfl, e3⟩ := own_nil_parts h2
      have e4 : l2 = [] := List.length_eq_zero_iff.1 e1
      subst e4
      exact concat_sn l1 [] gs l1.length 0 c1 0 B1 B2 g1 0 w rfl rfl hs0 hs1 hgs h1 h2 (by simpa using hlen)
    | some a =>
      obtain ⟨g2, rfl⟩ := own_some_parts h2
      exact concat_ss l1 l2 gs l1.length l2.length c1 c2 B1 B2 g1 g2 w rfl rfl hs0 hs1 hgs h1 h2 hlen
end Go.Proofs.Ytpljieenjkbmmaa
