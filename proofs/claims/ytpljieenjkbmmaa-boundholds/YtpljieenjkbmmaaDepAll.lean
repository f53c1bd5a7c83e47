/- The contract of package dep's Edges: all edges of a loop on a machine, or what is wrong; nothing that was there is changed. -/
import Derived.Test.YtpljieenjkbmmaaDepSort
import Derived.Test.YtpljieenjkbmmaaDepWords
import Derived.Test.YtpljieenjkbmmaaDepTells
namespace Go.Proofs.Ytpljieenjkbmmaa
open Go.RowKit Go.Joins Go.Lib Go.Shelf
set_option linter.unusedVariables false

theorem sort_none (p : Option Addr) (cap : Nat) (fv : Value) (w : World) : Calls Try.prog 80 #[.slice p 0 cap, fv] w fun e w' => e = .returned (.tuple #[]) ∧ w' = w :=
  AnyF.slices_SortFunc_none Try.sortE p cap fv w
theorem compact_none (p : Option Addr) (cap : Nat) (w : World) (hm : cap ≤ 9223372036854775807) : Calls Try.prog 82 #[.slice p 0 cap] w fun e w' => e = .returned (.slice p 0 cap) ∧ w' = w := by
  go_enter Try.func82, Try.ntmps82
  go_wp2_with fail
  go_ret
  exact ⟨rfl, rfl⟩
/-- sorted, each once: what comes of the row that both were laid into -/
theorem done_edges {L : Lp} {t : Tg} (hm : mayB L = true) (ht : mayT t = true) (B : Nat) (v : Value) (w : World) (h : w.ownsRow B 81 4 v (allE L t).length (flatE (allE L t))) :
    Calls Try.prog 80 #[v, .func (.func 81) #[] #[]] w fun e w' => e = .returned (.tuple #[]) ∧ Below B w w' ∧ Calls Try.prog 82 #[v] w' fun e w2 => ∃ a n c, e = .returned (.slice a n c) ∧ EdgesV w2 (.slice a n c) (edgesD L t) ∧ Below B w' w2 := by
  have : Inhabited Ed := ⟨Ed.nil⟩
  have : DecidableEq Ed := fun a b => Classical.propDecidable _
  have hlen := all_len (L := L) (t := t) (may_parts hm).2.2.1
  obtain ⟨a, c, rfl, hc1, hc2⟩ := ownz_shape h
  unfold maxLen at hc2
  cases a with
  | none =>
    obtain ⟨e1, rfl, e3⟩ := own_nil_parts h
    rw [e1]
    have e0 : allE L t = [] := List.length_eq_zero_iff.1 e1
    have e4 : edgesD L t = [] := by
      cases e5 : edgesD L t with
      | nil => rfl
      | cons x l => exact absurd ((all_mem hm ht x).2 (by rw [e5]; simp)) (by rw [e0]; simp)
    refine (sort_none none 0 _ w).mono fun e w' ⟨he, hw⟩ => ⟨he, by rw [hw]; exact Below.refl _ _, ?_⟩
    refine (compact_none none 0 w' (by omega)).mono fun e w2 ⟨he, hw⟩ => ⟨none, 0, 0, he, ?_, by rw [hw]; exact Below.refl _ _⟩
    rw [e4]
    exact ⟨none, 0, rfl, Nat.le_refl _, Nat.zero_le _, fun h => absurd h (by simp)⟩
  | some ad =>
    obtain ⟨g, rfl⟩ := own_some_parts h
    obtain ⟨hE, hB, hg, -, -⟩ := ErV.of_own h rfl
    have hs : (allE L t).toArray.size = (allE L t).length := by simp
    have hsort := sort_edges (allE L t).toArray g c B w hE hB hg (by rw [hs]; omega)
    rw [hs] at hsort
    refine hsort.mono fun e w' ⟨he, d', hz, hp, hst, hE', hb, hzw⟩ => ⟨he, hb, ?_⟩
    have hcd : compactUpTo d' d'.size = edgesD L t := comp_edges hm ht d' hp hst
    have hcomp := compactE_walk g c B d' w' hE' hB (by omega) (by omega) (by omega) (by omega)
    rw [hcd, hz] at hcomp
    refine hcomp.mono fun e w2 ⟨he2, hE2, hb2, hz2⟩ => ⟨_, _, _, he2, ?_, hb2⟩
    have hle : (edgesD L t).length ≤ (allE L t).length := by
      rw [← hcd, ← hz]
      unfold compactUpTo
      rw [List.length_map]
      exact Nat.le_trans (List.length_filter_le _ _) (by simp)
    refine ⟨_, _, rfl, by omega, by unfold maxLen; omega, fun _ => ⟨g, 0, rfl, by omega, fun i hi j hj => ?_⟩⟩
    have h2 := (hE2 i (by simpa using hi) j hj).1
    rw [Nat.zero_add, h2]
    have e4 : (edgesD L t).toArray[i]! = edAt (edgesD L t) i := by
      rw [getElem!_pos _ i (by simpa using hi)]
      unfold edAt
      rw [List.getD_eq_getElem?_getD, List.getElem?_eq_getElem hi]
      simp
    rw [e4]
set_option maxHeartbeats 1000000 in
theorem edges_no1 (p0 p1 p2 q0 q1 q2 r : Int) (L : Lp) (a0 a1 a2 : Option Addr) (cap0 cap1 cap2 : Nat) (w : World) (hL : LoopV w (.agg #[.slice a0 L.logs.length cap0, .slice a1 L.body.length cap1, .slice a2 L.outs.length cap2]) L) (hm : mayB L = false) :
    Calls Try.prog 42 #[.agg #[.slice a0 L.logs.length cap0, .slice a1 L.body.length cap1, .slice a2 L.outs.length cap2], .agg #[.int .i64 p0, .int .i64 p1, .int .i64 p2, .int .i64 q0, .int .i64 q1, .int .i64 q2, .int .i64 r]] w fun e w' => e = .returned (.tuple #[.slice none 0 0, .int .i64 2]) ∧ Below w.heap.size w w' := by
  have HM := hide (fun W (h : LoopV W (.agg #[.slice a0 L.logs.length cap0, .slice a1 L.body.length cap1, .slice a2 L.outs.length cap2]) L) => hm ▸ may_any (.agg #[.slice a0 L.logs.length cap0, .slice a1 L.body.length cap1, .slice a2 L.outs.length cap2]) L W h)
  have HS : Hid (((w.alloc (.cells #[.slice a0 L.logs.length cap0, .slice a1 L.body.length cap1, .slice a2 L.outs.length cap2] 30)).alloc (.cells #[.int .i64 p0, .int .i64 p1, .int .i64 p2, .int .i64 q0, .int .i64 q1, .int .i64 q2, .int .i64 r] 49)).heap.size = w.heap.size + 1 + 1) := by show _ = _; simp
  clear hm
  go_enter Try.func42, Try.ntmps42
  go_wp2_with fail
  refine (HM.out _ (hL.below (below_alloc2 _ _ _))).mono ?_
  rintro e x1 ⟨rfl, hb⟩
  have HB1 : Hid (Below (w.heap.size + 1 + 1) ((w.alloc (.cells #[.slice a0 L.logs.length cap0, .slice a1 L.body.length cap1, .slice a2 L.outs.length cap2] 30)).alloc (.cells #[.int .i64 p0, .int .i64 p1, .int .i64 p2, .int .i64 q0, .int .i64 q1, .int .i64 q2, .int .i64 r] 49)) x1) := by show Below _ _ _; rw [← HS.out]; exact hb
  obtain ⟨⟨l0, l1, l2⟩, ⟨t0, t1, t2, t3, t4, t5, t6⟩, z0, z1, hbw⟩ := ebox_cells HB1.out
  have HW1 := hide hbw
  clear hb hbw
  go_wp2_with fail
  exact bodyPost_ret (v := .tuple #[.slice none 0 0, .int .i64 2]) (by simp [results, Try.results42, go_sem]) rfl ⟨rfl, HW1.out⟩
set_option maxHeartbeats 1000000 in
theorem edges_no2 (p0 p1 p2 q0 q1 q2 r : Int) (L : Lp) (a0 a1 a2 : Option Addr) (cap0 cap1 cap2 : Nat) (w : World) (hL : LoopV w (.agg #[.slice a0 L.logs.length cap0, .slice a1 L.body.length cap1, .slice a2 L.outs.length cap2]) L) (hm : mayB L = true) (ht : mayT ⟨p0, p1, p2, q0, q1, q2, r⟩ = false) :
    Calls Try.prog 42 #[.agg #[.slice a0 L.logs.length cap0, .slice a1 L.body.length cap1, .slice a2 L.outs.length cap2], .agg #[.int .i64 p0, .int .i64 p1, .int .i64 p2, .int .i64 q0, .int .i64 q1, .int .i64 q2, .int .i64 r]] w fun e w' => e = .returned (.tuple #[.slice none 0 0, .int .i64 2]) ∧ Below w.heap.size w w' := by
  have HT := hide (fun W => ht ▸ pmay_seven p0 p1 p2 q0 q1 q2 r W)
  clear ht
  have HM := hide (fun W (h : LoopV W (.agg #[.slice a0 L.logs.length cap0, .slice a1 L.body.length cap1, .slice a2 L.outs.length cap2]) L) => hm ▸ may_any (.agg #[.slice a0 L.logs.length cap0, .slice a1 L.body.length cap1, .slice a2 L.outs.length cap2]) L W h)
  have HS : Hid (((w.alloc (.cells #[.slice a0 L.logs.length cap0, .slice a1 L.body.length cap1, .slice a2 L.outs.length cap2] 30)).alloc (.cells #[.int .i64 p0, .int .i64 p1, .int .i64 p2, .int .i64 q0, .int .i64 q1, .int .i64 q2, .int .i64 r] 49)).heap.size = w.heap.size + 1 + 1) := by show _ = _; simp
  clear hm
  go_enter Try.func42, Try.ntmps42
  go_wp2_with fail
  refine (HM.out _ (hL.below (below_alloc2 _ _ _))).mono ?_
  rintro e x1 ⟨rfl, hb⟩
  have HB1 : Hid (Below (w.heap.size + 1 + 1) ((w.alloc (.cells #[.slice a0 L.logs.length cap0, .slice a1 L.body.length cap1, .slice a2 L.outs.length cap2] 30)).alloc (.cells #[.int .i64 p0, .int .i64 p1, .int .i64 p2, .int .i64 q0, .int .i64 q1, .int .i64 q2, .int .i64 r] 49)) x1) := by show Below _ _ _; rw [← HS.out]; exact hb
  obtain ⟨⟨l0, l1, l2⟩, ⟨t0, t1, t2, t3, t4, t5, t6⟩, z0, z1, hbw⟩ := ebox_cells HB1.out
  have HW1 := hide hbw
  clear hb hbw
  go_wp2_with fail
  refine (HT.out _).mono ?_
  rintro e x2 ⟨rfl, hb⟩
  have HW2 := hide (HW1.out.trans (hb.mono HW1.out.size))
  clear hb l0 l1 l2 t0 t1 t2 t3 t4 t5 t6
  go_wp2_with fail
  exact bodyPost_ret (v := .tuple #[.slice none 0 0, .int .i64 2]) (by simp [results, Try.results42, go_sem]) rfl ⟨rfl, HW2.out⟩
set_option maxHeartbeats 4000000 in
set_option maxRecDepth 100000 in
theorem edges_yes (p0 p1 p2 q0 q1 q2 r : Int) (L : Lp) (a0 a2 : Option Addr) (cap0 b off cap1 cap2 : Nat) (w : World) (hL : LoopV w (.agg #[.slice a0 L.logs.length cap0, .slice (some ⟨b, off, none⟩) L.body.length cap1, .slice a2 L.outs.length cap2]) L) (hm : mayB L = true) (ht : mayT ⟨p0, p1, p2, q0, q1, q2, r⟩ = true) (hl0 : L.logs.length ≤ cap0) (hm0 : cap0 ≤ 9223372036854775807) (hl1 : L.body.length ≤ cap1) (hm1 : cap1 ≤ 9223372036854775807) (hb : b < w.heap.size)
    (hbody : ∀ i, i < L.body.length → ∀ j, j < 9 → w.cell? ⟨b, off + i * 9 + j, none⟩ = (stCells (stAt L.body i))[j]?) (hlogs : Ints w (.slice a0 L.logs.length cap0) L.logs) :
    Calls Try.prog 42 #[.agg #[.slice a0 L.logs.length cap0, .slice (some ⟨b, off, none⟩) L.body.length cap1, .slice a2 L.outs.length cap2], .agg #[.int .i64 p0, .int .i64 p1, .int .i64 p2, .int .i64 q0, .int .i64 q1, .int .i64 q2, .int .i64 r]] w fun e w' => ∃ a n c, e = .returned (.tuple #[.slice a n c, .int .i64 0]) ∧ EdgesV w' (.slice a n c) (edgesD L ⟨p0, p1, p2, q0, q1, q2, r⟩) ∧ Below w.heap.size w w' := by
  have HT := hide (fun W => ht ▸ pmay_seven p0 p1 p2 q0 q1 q2 r W)
  have h16 := (may_parts hm).2.2.1
  have HRE := hide (fun W (hW : Below w.heap.size w W) => refEdges_walk p0 p1 p2 q0 q1 q2 r L b off cap1 (.slice a0 L.logs.length cap0) (.slice a2 L.outs.length cap2) W hl1 hm1 (by have := hW.size; omega) (fun i hi j hj => by rw [bcell hW _ _ hb]; exact hbody i hi j hj) hm h16)
  have HWE := hide (fun W (hW : Below w.heap.size w W) => wordEdges_walk L a0 cap0 b off cap1 (.slice a2 L.outs.length cap2) W hl0 hm0 hl1 hm1 (by have := hW.size; omega) (fun i hi j hj => by rw [bcell hW _ _ hb]; exact hbody i hi j hj) (hlogs.below hW) hm h16)
  have HDN := hide (fun B v W h => done_edges (L := L) (t := ⟨p0, p1, p2, q0, q1, q2, r⟩) hm ht B v W h)
  have HLN := hide (all_len (L := L) (t := ⟨p0, p1, p2, q0, q1, q2, r⟩) h16)
  have HAL : Hid (allE L ⟨p0, p1, p2, q0, q1, q2, r⟩ = refE L ⟨p0, p1, p2, q0, q1, q2, r⟩ L.body.length ++ wordE L L.body.length) := rfl
  have HLA : Hid ((refE L ⟨p0, p1, p2, q0, q1, q2, r⟩ L.body.length).length + (wordE L L.body.length).length ≤ 300) := by
    show _ ≤ _
    have h := HLN.out
    rw [HAL.out, List.length_append] at h
    omega
  clear ht hbody hlogs
  have HM := hide (fun W (h : LoopV W (.agg #[.slice a0 L.logs.length cap0, .slice (some ⟨b, off, none⟩) L.body.length cap1, .slice a2 L.outs.length cap2]) L) => hm ▸ may_any (.agg #[.slice a0 L.logs.length cap0, .slice (some ⟨b, off, none⟩) L.body.length cap1, .slice a2 L.outs.length cap2]) L W h)
  have HS : Hid (((w.alloc (.cells #[.slice a0 L.logs.length cap0, .slice (some ⟨b, off, none⟩) L.body.length cap1, .slice a2 L.outs.length cap2] 30)).alloc (.cells #[.int .i64 p0, .int .i64 p1, .int .i64 p2, .int .i64 q0, .int .i64 q1, .int .i64 q2, .int .i64 r] 49)).heap.size = w.heap.size + 1 + 1) := by show _ = _; simp
  clear hm
  go_enter Try.func42, Try.ntmps42
  go_wp2_with fail
  refine (HM.out _ (hL.below (below_alloc2 _ _ _))).mono ?_
  rintro e x1 ⟨rfl, hb⟩
  have HB1 : Hid (Below (w.heap.size + 1 + 1) ((w.alloc (.cells #[.slice a0 L.logs.length cap0, .slice (some ⟨b, off, none⟩) L.body.length cap1, .slice a2 L.outs.length cap2] 30)).alloc (.cells #[.int .i64 p0, .int .i64 p1, .int .i64 p2, .int .i64 q0, .int .i64 q1, .int .i64 q2, .int .i64 r] 49)) x1) := by show Below _ _ _; rw [← HS.out]; exact hb
  obtain ⟨⟨l0, l1, l2⟩, ⟨t0, t1, t2, t3, t4, t5, t6⟩, z0, z1, hbw⟩ := ebox_cells HB1.out
  have HW1 := hide hbw
  clear hb hbw
  go_wp2_with fail
  refine (HT.out _).mono ?_
  rintro e x2 ⟨rfl, hb2⟩
  have HB2 := hide (HB1.out.trans (hb2.mono (by omega)))
  have HW2 := hide (HW1.out.trans (hb2.mono HW1.out.size))
  clear hb2 l0 l1 l2 t0 t1 t2 t3 t4 t5 t6
  have HSS : Hid (∀ w' : World, Below (w.heap.size + 1 + 1) ((w.alloc (.cells #[.slice a0 L.logs.length cap0, .slice (some ⟨b, off, none⟩) L.body.length cap1, .slice a2 L.outs.length cap2] 30)).alloc (.cells #[.int .i64 p0, .int .i64 p1, .int .i64 p2, .int .i64 q0, .int .i64 q1, .int .i64 q2, .int .i64 r] 49)) w' → (w'.cell? ⟨w.heap.size, 0, none⟩ = some (.slice a0 L.logs.length cap0) ∧ w'.cell? ⟨w.heap.size, 1, none⟩ = some (.slice (some ⟨b, off, none⟩) L.body.length cap1) ∧ w'.cell? ⟨w.heap.size, 2, none⟩ = some (.slice a2 L.outs.length cap2)) ∧ (w'.cell? ⟨w.heap.size + 1, 0, none⟩ = some (.int .i64 p0) ∧ w'.cell? ⟨w.heap.size + 1, 1, none⟩ = some (.int .i64 p1) ∧ w'.cell? ⟨w.heap.size + 1, 2, none⟩ = some (.int .i64 p2) ∧ w'.cell? ⟨w.heap.size + 1, 3, none⟩ = some (.int .i64 q0) ∧ w'.cell? ⟨w.heap.size + 1, 4, none⟩ = some (.int .i64 q1) ∧ w'.cell? ⟨w.heap.size + 1, 5, none⟩ = some (.int .i64 q2) ∧ w'.cell? ⟨w.heap.size + 1, 6, none⟩ = some (.int .i64 r))) := by
    intro w' h
    obtain ⟨h1, h2, -⟩ := ebox_cells h
    exact ⟨h1, h2⟩
  have hz2 : w.heap.size + 1 + 1 ≤ x2.heap.size := by have := HB2.out.size; rw [HS.out] at this; exact this
  go_wp2_with fail
  refine wp_region_noPanic ?_
  refine region_until 99 (fun w' => (w'.cell? ⟨w.heap.size, 0, none⟩ = some (.slice a0 L.logs.length cap0) ∧ w'.cell? ⟨w.heap.size, 1, none⟩ = some (.slice (some ⟨b, off, none⟩) L.body.length cap1) ∧ w'.cell? ⟨w.heap.size, 2, none⟩ = some (.slice a2 L.outs.length cap2)) ∧ (w'.cell? ⟨w.heap.size + 1, 0, none⟩ = some (.int .i64 p0) ∧ w'.cell? ⟨w.heap.size + 1, 1, none⟩ = some (.int .i64 p1) ∧ w'.cell? ⟨w.heap.size + 1, 2, none⟩ = some (.int .i64 p2) ∧ w'.cell? ⟨w.heap.size + 1, 3, none⟩ = some (.int .i64 q0) ∧ w'.cell? ⟨w.heap.size + 1, 4, none⟩ = some (.int .i64 q1) ∧ w'.cell? ⟨w.heap.size + 1, 5, none⟩ = some (.int .i64 q2) ∧ w'.cell? ⟨w.heap.size + 1, 6, none⟩ = some (.int .i64 r))) (by kernel_rfl) (HSS.out _ (HB2.out.trans (below_drew1 _ _))) (fun hHeld => ?_)
  refine until_take (i := 0) (v := ?_) rfl (by kernel_rfl) (by kernel_rfl) (by kernel_rfl) (by kernel_rfl) (fun _ _ _ h => h) (Or.inl ⟨by rfl, ?_⟩) hHeld ?_
  rotate_left
  · intro w hSw
    try dsimp only at hSw
    go_simp
    try with_reducible rfl
  try simp only [Act.put, List.setIfInBounds_toArray, List.set_cons_zero, List.set_cons_succ]
  refine until_take (i := 1) (v := ?_) rfl (by kernel_rfl) (by kernel_rfl) (by kernel_rfl) (by kernel_rfl) (fun _ _ _ h => h) (Or.inl ⟨by rfl, ?_⟩) hHeld ?_
  rotate_left
  · intro w hSw
    try dsimp only at hSw
    go_simp
    try with_reducible rfl
  try simp only [Act.put, List.setIfInBounds_toArray, List.set_cons_zero, List.set_cons_succ]
  refine until_take (i := 3) (v := ?_) rfl (by kernel_rfl) (by kernel_rfl) (by kernel_rfl) (by kernel_rfl) (fun _ _ _ h => h) (Or.inl ⟨by rfl, ?_⟩) hHeld ?_
  rotate_left
  · intro w hSw
    try dsimp only at hSw
    go_simp
    try with_reducible rfl
  try simp only [Act.put, List.setIfInBounds_toArray, List.set_cons_zero, List.set_cons_succ]
  refine until_one (i := 2) rfl (by kernel_rfl) (fun K hK9 => ?_)
  go_simp
  refine (HRE.out _ (HW2.out.trans (below_drew1 _ _))).mono ?_
  rintro e x3 ⟨ev1, rfl, ho1, hb3⟩
  have hB3 := HB2.out.trans ((below_drew1 _ _).trans (hb3.mono (by simpa using hz2)))
  have HB3 := hide hB3
  have HW3 := hide (HW2.out.trans ((below_drew1 _ _).trans (hb3.mono (by simpa using HW2.out.size))))
  have hHeld := HSS.out _ hB3
  obtain ⟨ra, rc, rfl, -, -⟩ := ownz_shape ho1
  have HO1 := hide ho1
  clear ho1 hb3 hB3
  refine hK9.out _ _ (.inr hHeld) ?_
  clear hK9 K
  try simp only [Act.put, List.setIfInBounds_toArray, List.set_cons_zero, List.set_cons_succ]
  refine until_one (i := 4) rfl (by kernel_rfl) (fun K hK9 => ?_)
  go_simp
  refine (HWE.out _ HW3.out).mono ?_
  rintro e x4 ⟨ev2, rfl, ho2, hb4⟩
  have hz3 : w.heap.size + 1 + 1 ≤ x3.heap.size := by have := HB3.out.size; rw [HS.out] at this; exact this
  have hB4 := HB3.out.trans (hb4.mono hz3)
  have HB4 := hide hB4
  have HW4 := hide (HW3.out.trans (hb4.mono HW3.out.size))
  have hHeld := HSS.out _ hB4
  obtain ⟨wa, wc, rfl, -, -⟩ := ownz_shape ho2
  have HO2 := hide ho2
  have HO1b := hide (own_below HO1.out hb4)
  clear ho2 hb4 hB4
  refine hK9.out _ _ (.inr hHeld) ?_
  clear hK9 K
  try simp only [Act.put, List.setIfInBounds_toArray, List.set_cons_zero, List.set_cons_succ]
  have HCC := hide (concat_any (refE L ⟨p0, p1, p2, q0, q1, q2, r⟩ L.body.length) (wordE L L.body.length) x4.heap.size _ _ _ _ (x4.alloc (.cells #[.slice ra (refE L ⟨p0, p1, p2, q0, q1, q2, r⟩ L.body.length).length rc, .slice wa (wordE L L.body.length).length wc] 70)) (by go_simp) (by go_simp) (by simp) (own_below HO1b.out (below_alloc1 _ _)) (own_below HO2.out (below_alloc1 _ _)) HLA.out)
  have HW5 := hide (HW4.out.trans ((below_alloc1 x4 (.cells #[.slice ra (refE L ⟨p0, p1, p2, q0, q1, q2, r⟩ L.body.length).length rc, .slice wa (wordE L L.body.length).length wc] 70)).mono HW4.out.size))
  have hz4 : w.heap.size + 1 + 1 ≤ x4.heap.size := by have := HB4.out.size; rw [HS.out] at this; exact this
  have HB5 := hide (HB4.out.trans ((below_alloc1 x4 (.cells #[.slice ra (refE L ⟨p0, p1, p2, q0, q1, q2, r⟩ L.body.length).length rc, .slice wa (wordE L L.body.length).length wc] 70)).mono hz4))
  rw [← HAL.out] at HCC
  refine until_one (i := 5) rfl (by kernel_rfl) (fun K hK9 => ?_)
  go_simp
  have hHeld := HSS.out _ HB5.out
  refine hK9.out _ _ (.inr hHeld) ?_
  clear hK9 K
  try simp only [Act.put, List.setIfInBounds_toArray, List.set_cons_zero, List.set_cons_succ]
  refine until_one (i := 6) rfl (by kernel_rfl) (fun K hK9 => ?_)
  go_simp
  refine HCC.out.mono ?_
  rintro e x6 ⟨ev3, rfl, ho3, hb6⟩
  have hB6 := HB5.out.trans (hb6.mono (by simp; omega))
  have HW6 := hide (HW5.out.trans (hb6.mono HW5.out.size))
  have hHeld := HSS.out _ hB6
  have HD := hide (HDN.out _ _ _ ho3)
  clear ho3 hb6 hB6
  refine hK9.out _ _ (.inr hHeld) ?_
  clear hK9 K
  try simp only [Act.put, List.setIfInBounds_toArray, List.set_cons_zero, List.set_cons_succ]
  refine until_take (i := 7) (v := ?_) rfl (by kernel_rfl) (by kernel_rfl) (by kernel_rfl) (by kernel_rfl) (fun _ _ _ h => h) (Or.inl ⟨by rfl, ?_⟩) hHeld ?_
  rotate_left
  · intro w hSw
    try dsimp only at hSw
    go_simp
    try with_reducible rfl
  try simp only [Act.put, List.setIfInBounds_toArray, List.set_cons_zero, List.set_cons_succ]
  refine until_done (by kernel_rfl) ?_ _
  refine NoPanic.normal ?_
  clear hHeld
  go_wp2_with fail
  refine HD.out.mono ?_
  rintro e x7 ⟨rfl, hb7, hcmp⟩
  have HBB := hide hb7
  have HCM := hide hcmp
  have HW7 := hide (HW6.out.trans (hb7.mono HW5.out.size))
  clear hb7 hcmp
  go_wp2_with fail
  refine HCM.out.mono ?_
  rintro e x8 ⟨ea, en, ec, rfl, hev, hb8⟩
  have HEV := hide hev
  have HW8 := hide (HW7.out.trans (hb8.mono HW5.out.size))
  clear hev hb8
  go_wp2_with fail
  exact bodyPost_ret (v := .tuple #[.slice ea en ec, .int .i64 0]) (by simp [results, Try.results42, go_sem]) rfl ⟨ea, en, ec, rfl, HEV.out, HW8.out⟩
theorem depEdges_all : EdgesC := by
  intro v t L w hL
  obtain ⟨p0, p1, p2, q0, q1, q2, r⟩ := t
  have hL' := hL
  obtain ⟨v0, v1, v2, rfl, hI0, ⟨a1, cap1, rfl, h1, h2, h3⟩, ⟨a2, cap2, rfl, -, -, -, -⟩⟩ := hL'
  have hI0' := hI0
  obtain ⟨a0, cap0, rfl, k1, k2, -, -⟩ := hI0'
  unfold maxLen at h2 k2
  cases hm : mayB L with
  | false =>
    refine (edges_no1 p0 p1 p2 q0 q1 q2 r L a0 a1 a2 cap0 cap1 cap2 w hL hm).mono fun e w' ⟨he, hb⟩ => ⟨none, 0, 0, he, hb, fun h => ?_, fun _ => rfl⟩
    cases h
  | true =>
    cases ht : mayT ⟨p0, p1, p2, q0, q1, q2, r⟩ with
    | false =>
      refine (edges_no2 p0 p1 p2 q0 q1 q2 r L a0 a1 a2 cap0 cap1 cap2 w hL hm ht).mono fun e w' ⟨he, hb⟩ => ⟨none, 0, 0, he, hb, fun h => ?_, fun _ => rfl⟩
      cases h
    | true =>
      obtain ⟨b, off, rfl, hb, hcell⟩ := h3 (by have := (may_parts hm).2.1; omega)
      refine (edges_yes p0 p1 p2 q0 q1 q2 r L a0 a2 cap0 b off cap1 cap2 w hL hm ht k1 (by omega) h1 (by omega) hb hcell hI0).mono fun e w' ⟨a, n, c, he, hev, hbw⟩ => ⟨a, n, c, he, hbw, fun _ => hev, fun h => ?_⟩
      cases h
end Go.Proofs.Ytpljieenjkbmmaa
