/- SchedMakes' walk: for every loop, machine and least pace in memory the law returns true, if the program's Make answers as MakeC says; nothing that was there is changed. -/
import Derived.Test.YteijdgeaegpdmabRef8Legal
import Derived.Test.YteijdgeaegpdmabRef8All
import Derived.Test.YteijdgeaegpdmabBase
namespace Go.Proofs.Yteijdgeaegpdmab
open Go.RowKit Go.Joins
set_option linter.unusedVariables false
set_option linter.unusedSimpArgs false
set_option maxRecDepth 8192

/-- how the program makes a plan -/
def MakeC : Prop := ∀ (v : Value) (t : Tg) (L : Lp) (least : Int) (w : World), LoopV w v L →
  Calls Try.prog 9 #[v, .agg t.cells, .int .i64 least] w fun e w' => Below w.heap.size w w' ∧ ∃ P ta tl tc c, e = .returned (.tuple #[.agg #[.int .i64 P, .slice ta tl tc], .int .i64 c]) ∧
    ((mayB L && mayT t) = false → c = 2 ∧ P = 0 ∧ tl = 0) ∧ ((mayB L && mayT t) = true → inR least 1 200 = false → c = 3 ∧ P = 0 ∧ tl = 0) ∧
    ((mayB L && mayT t) = true → inR least 1 200 = true → c = 0 ∧ ∃ T, tl = T.length ∧ Ints w' (.slice ta tl tc) T ∧ legalD L t P T = true ∧ least ≤ P ∧ P ≤ max least (allW L t))
theorem new_blk (w : World) (cs : Array Value) (e : TypeId) : (w.alloc (.cells cs e)).heap[w.heap.size]? = some (.cells cs e (0, 0)) := by
  show (w.heap.push _)[w.heap.size]? = _
  simp
set_option maxHeartbeats 4000000 in
theorem makes_no (hMake : MakeC) (p0 p1 p2 q0 q1 q2 r : Int) (L : Lp) (a0 a1 a2 : Option Addr) (cap0 cap1 cap2 : Nat) (least : Int) (w : World) (hL : LoopV w (.agg #[.slice a0 L.logs.length cap0, .slice a1 L.body.length cap1, .slice a2 L.outs.length cap2]) L) (h : (mayB L && mayT ⟨p0, p1, p2, q0, q1, q2, r⟩) = false ∨ ((mayB L && mayT ⟨p0, p1, p2, q0, q1, q2, r⟩) = true ∧ inR least 1 200 = false)) : Calls Try.prog 4 #[.agg #[.slice a0 L.logs.length cap0, .slice a1 L.body.length cap1, .slice a2 L.outs.length cap2], .agg #[.int .i64 p0, .int .i64 p1, .int .i64 p2, .int .i64 q0, .int .i64 q1, .int .i64 q2, .int .i64 r], .int .i64 least] w fun e w' => e = .returned (.bool true) ∧ Below w.heap.size w w' := by
  have HMK := hide (fun W (h : LoopV W (.agg #[.slice a0 L.logs.length cap0, .slice a1 L.body.length cap1, .slice a2 L.outs.length cap2]) L) => hMake _ ⟨p0, p1, p2, q0, q1, q2, r⟩ L least W h)
  have HMAY := hide (fun W (h : LoopV W (.agg #[.slice a0 L.logs.length cap0, .slice a1 L.body.length cap1, .slice a2 L.outs.length cap2]) L) => rdmay_walk p0 p1 p2 q0 q1 q2 r L a0 a1 a2 cap0 cap1 cap2 W h)
  have HL := hide hL
  clear hL
  rcases h with h | ⟨h, h1⟩
  · rw [h] at HMAY
    have HH := hide h
    clear h
    go_enter Try.func4, Try.ntmps4
    go_wp2_with fail
    refine (HMK.out _ (HL.out.below (below_alloc2 _ _ _))).mono ?_
    rintro e x1 ⟨hbx, P, ta, tl, tc, c, rfl, hA, -, -⟩
    obtain ⟨rfl, rfl, rfl⟩ := hA HH.out
    have hb2 : Below (w.heap.size + 1 + 1) ((w.alloc (.cells #[.slice a0 L.logs.length cap0, .slice a1 L.body.length cap1, .slice a2 L.outs.length cap2] 25)).alloc (.cells #[.int .i64 p0, .int .i64 p1, .int .i64 p2, .int .i64 q0, .int .i64 q1, .int .i64 q2, .int .i64 r] 28)) x1 := by
      have hs : ((w.alloc (.cells #[.slice a0 L.logs.length cap0, .slice a1 L.body.length cap1, .slice a2 L.outs.length cap2] 25)).alloc (.cells #[.int .i64 p0, .int .i64 p1, .int .i64 p2, .int .i64 q0, .int .i64 q1, .int .i64 q2, .int .i64 r] 28)).heap.size = w.heap.size + 1 + 1 := by simp
      rw [← hs]; exact hbx
    obtain ⟨⟨l0, l1, l2⟩, ⟨t0, t1, t2, t3, t4, t5, t6⟩, z0, z1, hbw⟩ := ebox_cells hb2
    have HB2 := hide hb2
    have HBW := hide hbw
    clear hbx hb2 hbw
    go_wp2_with fail
    refine (HMAY.out _ ((HL.out.below HBW.out).below (below_alloc1 _ _))).mono ?_
    rintro e x2 ⟨rfl, hbx⟩
    have HX2 : Hid (Below x1.heap.size x1 x2) := (below_alloc1 x1 (.cells #[.int .i64 0, .slice ta 0 tc] 30)).trans (hbx.mono (by simp))
    have HPX : Hid (x2.heap[x1.heap.size]? = some (.cells #[.int .i64 0, .slice ta 0 tc] 30 (0, 0))) := by show _ = _; rw [hbx.block _ (by simp)]; exact new_blk _ _ _
    have hb3 := HB2.out.trans (HX2.out.mono (by have := HB2.out.size; simp at this; omega))
    clear l0 l1 l2 t0 t1 t2 t3 t4 t5 t6 z0 z1
    obtain ⟨⟨l0, l1, l2⟩, ⟨t0, t1, t2, t3, t4, t5, t6⟩, z0, z1, hbw⟩ := ebox_cells hb3
    have HBW2 := hide hbw
    have k0 : x2.cell? ⟨x1.heap.size, 0, none⟩ = some (.int .i64 0) := by rw [cell_of_block HPX.out]; rfl
    have k1 : x2.cell? ⟨x1.heap.size, 1, none⟩ = some (.slice ta 0 tc) := by rw [cell_of_block HPX.out]; rfl
    clear hbx hb3 hbw
    go_wp2_with fail
    go_ret
    exact ⟨rfl, HBW2.out⟩
  · rw [h] at HMAY
    have HH := hide (And.intro h h1)
    have hr : least < 1 ∨ (¬ least < 1 ∧ 200 < least) := by
      by_cases e : least < 1
      · exact .inl e
      · refine .inr ⟨e, ?_⟩
        by_cases e2 : 200 < least
        · exact e2
        · rw [inR_yes (by omega)] at h1; cases h1
    clear h h1
    rcases hr with hr | ⟨hr, hr2⟩
    all_goals
      go_enter Try.func4, Try.ntmps4
      go_wp2_with fail
      refine (HMK.out _ (HL.out.below (below_alloc2 _ _ _))).mono ?_
      rintro e x1 ⟨hbx, P, ta, tl, tc, c, rfl, -, hA, -⟩
      obtain ⟨rfl, rfl, rfl⟩ := hA HH.out.1 HH.out.2
      have hb2 : Below (w.heap.size + 1 + 1) ((w.alloc (.cells #[.slice a0 L.logs.length cap0, .slice a1 L.body.length cap1, .slice a2 L.outs.length cap2] 25)).alloc (.cells #[.int .i64 p0, .int .i64 p1, .int .i64 p2, .int .i64 q0, .int .i64 q1, .int .i64 q2, .int .i64 r] 28)) x1 := by
        have hs : ((w.alloc (.cells #[.slice a0 L.logs.length cap0, .slice a1 L.body.length cap1, .slice a2 L.outs.length cap2] 25)).alloc (.cells #[.int .i64 p0, .int .i64 p1, .int .i64 p2, .int .i64 q0, .int .i64 q1, .int .i64 q2, .int .i64 r] 28)).heap.size = w.heap.size + 1 + 1 := by simp
        rw [← hs]; exact hbx
      obtain ⟨⟨l0, l1, l2⟩, ⟨t0, t1, t2, t3, t4, t5, t6⟩, z0, z1, hbw⟩ := ebox_cells hb2
      have HB2 := hide hb2
      have HBW := hide hbw
      clear hbx hb2 hbw
      go_wp2_with fail
      refine (HMAY.out _ ((HL.out.below HBW.out).below (below_alloc1 _ _))).mono ?_
      rintro e x2 ⟨rfl, hbx⟩
      have HX2 : Hid (Below x1.heap.size x1 x2) := (below_alloc1 x1 (.cells #[.int .i64 0, .slice ta 0 tc] 30)).trans (hbx.mono (by simp))
      have HPX : Hid (x2.heap[x1.heap.size]? = some (.cells #[.int .i64 0, .slice ta 0 tc] 30 (0, 0))) := by show _ = _; rw [hbx.block _ (by simp)]; exact new_blk _ _ _
      have hb3 := HB2.out.trans (HX2.out.mono (by have := HB2.out.size; simp at this; omega))
      clear l0 l1 l2 t0 t1 t2 t3 t4 t5 t6 z0 z1
      obtain ⟨⟨l0, l1, l2⟩, ⟨t0, t1, t2, t3, t4, t5, t6⟩, z0, z1, hbw⟩ := ebox_cells hb3
      have HBW2 := hide hbw
      have k0 : x2.cell? ⟨x1.heap.size, 0, none⟩ = some (.int .i64 0) := by rw [cell_of_block HPX.out]; rfl
      have k1 : x2.cell? ⟨x1.heap.size, 1, none⟩ = some (.slice ta 0 tc) := by rw [cell_of_block HPX.out]; rfl
      clear hbx hb3 hbw
      go_wp2_with fail
      go_ret
      exact ⟨rfl, HBW2.out⟩
set_option maxHeartbeats 8000000 in
theorem makes_yes (hMake : MakeC) (p0 p1 p2 q0 q1 q2 r : Int) (L : Lp) (a0 a1 a2 : Option Addr) (cap0 cap1 cap2 : Nat) (least : Int) (w : World) (hL : LoopV w (.agg #[.slice a0 L.logs.length cap0, .slice a1 L.body.length cap1, .slice a2 L.outs.length cap2]) L) (h : (mayB L && mayT ⟨p0, p1, p2, q0, q1, q2, r⟩) = true) (h1 : inR least 1 200 = true) : Calls Try.prog 4 #[.agg #[.slice a0 L.logs.length cap0, .slice a1 L.body.length cap1, .slice a2 L.outs.length cap2], .agg #[.int .i64 p0, .int .i64 p1, .int .i64 p2, .int .i64 q0, .int .i64 q1, .int .i64 q2, .int .i64 r], .int .i64 least] w fun e w' => e = .returned (.bool true) ∧ Below w.heap.size w w' := by
  have HMK := hide (fun W (h : LoopV W (.agg #[.slice a0 L.logs.length cap0, .slice a1 L.body.length cap1, .slice a2 L.outs.length cap2]) L) => hMake _ ⟨p0, p1, p2, q0, q1, q2, r⟩ L least W h)
  have HMAY := hide (fun W (h : LoopV W (.agg #[.slice a0 L.logs.length cap0, .slice a1 L.body.length cap1, .slice a2 L.outs.length cap2]) L) => rdmay_walk p0 p1 p2 q0 q1 q2 r L a0 a1 a2 cap0 cap1 cap2 W h)
  have HL := hide hL
  have hm2 : mayB L = true ∧ mayT ⟨p0, p1, p2, q0, q1, q2, r⟩ = true := by simpa using h
  have HAL := hide (fun W (h : LoopV W (.agg #[.slice a0 L.logs.length cap0, .slice a1 L.body.length cap1, .slice a2 L.outs.length cap2]) L) => all_any ⟨p0, p1, p2, q0, q1, q2, r⟩ L _ W h hm2.1 hm2.2)
  have HLE := hide (fun W P T ta tc (h : LoopV W (.agg #[.slice a0 L.logs.length cap0, .slice a1 L.body.length cap1, .slice a2 L.outs.length cap2]) L) (h2 : PlanV W (.agg #[.int .i64 P, .slice ta T.length tc]) P T) => legal_any ⟨p0, p1, p2, q0, q1, q2, r⟩ L _ _ P T W h h2)
  obtain ⟨hl1, hl2⟩ := inR_iff.1 h1
  have hl1n : ¬ least < 1 := by omega
  have hl2n : ¬ 200 < least := by omega
  rw [h] at HMAY
  have HH := hide (And.intro h h1)
  clear hL h h1 hm2
  go_enter Try.func4, Try.ntmps4
  go_wp2_with fail
  refine (HMK.out _ (HL.out.below (below_alloc2 _ _ _))).mono ?_
  rintro e x1 ⟨hbx, P, ta, tl, tc, c, rfl, -, -, hA⟩
  obtain ⟨rfl, T, rfl, hTi, hleg, hlo, hhi⟩ := hA HH.out.1 HH.out.2
  have HTI := hide hTi
  have HLG := hide hleg
  obtain ⟨al, hal⟩ : ∃ al, allW L ⟨p0, p1, p2, q0, q1, q2, r⟩ = al := ⟨_, rfl⟩
  rw [hal] at hhi HAL
  clear hal hTi hleg hA
  have hb2 : Below (w.heap.size + 1 + 1) ((w.alloc (.cells #[.slice a0 L.logs.length cap0, .slice a1 L.body.length cap1, .slice a2 L.outs.length cap2] 25)).alloc (.cells #[.int .i64 p0, .int .i64 p1, .int .i64 p2, .int .i64 q0, .int .i64 q1, .int .i64 q2, .int .i64 r] 28)) x1 := by
    have hs : ((w.alloc (.cells #[.slice a0 L.logs.length cap0, .slice a1 L.body.length cap1, .slice a2 L.outs.length cap2] 25)).alloc (.cells #[.int .i64 p0, .int .i64 p1, .int .i64 p2, .int .i64 q0, .int .i64 q1, .int .i64 q2, .int .i64 r] 28)).heap.size = w.heap.size + 1 + 1 := by simp
    rw [← hs]; exact hbx
  obtain ⟨⟨l0, l1, l2⟩, ⟨t0, t1, t2, t3, t4, t5, t6⟩, z0, z1, hbw⟩ := ebox_cells hb2
  have HB2 := hide hb2
  have HBW := hide hbw
  clear hbx hb2 hbw
  go_wp2_with fail
  refine (HMAY.out _ ((HL.out.below HBW.out).below (below_alloc1 _ _))).mono ?_
  rintro e x2 ⟨rfl, hbx⟩
  have HX2 : Hid (Below x1.heap.size x1 x2) := (below_alloc1 x1 (.cells #[.int .i64 P, .slice ta T.length tc] 30)).trans (hbx.mono (by simp))
  have HPX : Hid (x2.heap[x1.heap.size]? = some (.cells #[.int .i64 P, .slice ta T.length tc] 30 (0, 0))) := by show _ = _; rw [hbx.block _ (by simp)]; exact new_blk _ _ _
  have hb3 := HB2.out.trans (HX2.out.mono (by have := HB2.out.size; simp at this; omega))
  clear l0 l1 l2 t0 t1 t2 t3 t4 t5 t6 z0 z1
  obtain ⟨⟨l0, l1, l2⟩, ⟨t0, t1, t2, t3, t4, t5, t6⟩, z0, z1, hbw⟩ := ebox_cells hb3
  have HBW2 := hide hbw
  have H0 : Hid ((x2.cell? ⟨w.heap.size, 0, none⟩ = some (.slice a0 L.logs.length cap0) ∧ x2.cell? ⟨w.heap.size, 1, none⟩ = some (.slice a1 L.body.length cap1) ∧ x2.cell? ⟨w.heap.size, 2, none⟩ = some (.slice a2 L.outs.length cap2)) ∧ (x2.cell? ⟨w.heap.size + 1, 0, none⟩ = some (.int .i64 p0) ∧ x2.cell? ⟨w.heap.size + 1, 1, none⟩ = some (.int .i64 p1) ∧ x2.cell? ⟨w.heap.size + 1, 2, none⟩ = some (.int .i64 p2) ∧ x2.cell? ⟨w.heap.size + 1, 3, none⟩ = some (.int .i64 q0) ∧ x2.cell? ⟨w.heap.size + 1, 4, none⟩ = some (.int .i64 q1) ∧ x2.cell? ⟨w.heap.size + 1, 5, none⟩ = some (.int .i64 q2) ∧ x2.cell? ⟨w.heap.size + 1, 6, none⟩ = some (.int .i64 r)) ∧ x2.cell? ⟨x1.heap.size, 0, none⟩ = some (.int .i64 P) ∧ x2.cell? ⟨x1.heap.size, 1, none⟩ = some (.slice ta T.length tc)) := ⟨⟨l0, l1, l2⟩, ⟨t0, t1, t2, t3, t4, t5, t6⟩, by rw [cell_of_block HPX.out]; rfl, by rw [cell_of_block HPX.out]; rfl⟩
  have hxz : x1.heap.size < x2.heap.size := (Array.getElem?_eq_some_iff.1 HPX.out).1
  have HPV : Hid (∀ W, Below x2.heap.size x2 W → PlanV W (.agg #[.int .i64 P, .slice ta T.length tc]) P T) := fun W hW => ⟨_, rfl, (HTI.out.below HX2.out).below hW⟩
  clear hbx hb3 hbw
  go_wp2_with fail
  clear l0 l1 l2 t0 t1 t2 t3 t4 t5 t6
  refine wp_region_noPanic ?_
  refine region_until 99 (fun w' => (w'.cell? ⟨w.heap.size, 0, none⟩ = some (.slice a0 L.logs.length cap0) ∧ w'.cell? ⟨w.heap.size, 1, none⟩ = some (.slice a1 L.body.length cap1) ∧ w'.cell? ⟨w.heap.size, 2, none⟩ = some (.slice a2 L.outs.length cap2)) ∧ (w'.cell? ⟨w.heap.size + 1, 0, none⟩ = some (.int .i64 p0) ∧ w'.cell? ⟨w.heap.size + 1, 1, none⟩ = some (.int .i64 p1) ∧ w'.cell? ⟨w.heap.size + 1, 2, none⟩ = some (.int .i64 p2) ∧ w'.cell? ⟨w.heap.size + 1, 3, none⟩ = some (.int .i64 q0) ∧ w'.cell? ⟨w.heap.size + 1, 4, none⟩ = some (.int .i64 q1) ∧ w'.cell? ⟨w.heap.size + 1, 5, none⟩ = some (.int .i64 q2) ∧ w'.cell? ⟨w.heap.size + 1, 6, none⟩ = some (.int .i64 r)) ∧ w'.cell? ⟨x1.heap.size, 0, none⟩ = some (.int .i64 P) ∧ w'.cell? ⟨x1.heap.size, 1, none⟩ = some (.slice ta T.length tc)) (by kernel_rfl) H0.out (fun hHeld => ?_)
  refine until_take (i := 0) (v := ?_) rfl (by kernel_rfl) (by kernel_rfl) (by kernel_rfl) (by kernel_rfl) (fun _ _ _ h => h) (Or.inl ⟨by rfl, ?_⟩) hHeld ?_
  rotate_left
  · intro w hSw
    try dsimp only at hSw
    go_simp
    try with_reducible rfl
  try simp only [Act.put, List.setIfInBounds_toArray, List.set_cons_zero, List.set_cons_succ]
  refine until_take (i := 1) (v := ?_) rfl (by kernel_rfl) (by kernel_rfl) (by kernel_rfl) (by kernel_rfl) (fun _ _ _ h => h) (Or.inl ⟨by rfl, ?_⟩) hHeld ?_
  rotate_left
  · intro w hSw
    try dsimp only at hSw
    go_simp
    try with_reducible rfl
  try simp only [Act.put, List.setIfInBounds_toArray, List.set_cons_zero, List.set_cons_succ]
  refine until_take (i := 2) (v := ?_) rfl (by kernel_rfl) (by kernel_rfl) (by kernel_rfl) (by kernel_rfl) (fun _ _ _ h => h) (Or.inl ⟨by rfl, ?_⟩) hHeld ?_
  rotate_left
  · intro w hSw
    try dsimp only at hSw
    go_simp
    try with_reducible rfl
  try simp only [Act.put, List.setIfInBounds_toArray, List.set_cons_zero, List.set_cons_succ]
  refine until_take (i := 3) (v := ?_) rfl (by kernel_rfl) (by kernel_rfl) (by kernel_rfl) (by kernel_rfl) (fun _ _ _ h => h) (Or.inl ⟨by rfl, ?_⟩) hHeld ?_
  rotate_left
  · intro w hSw
    try dsimp only at hSw
    go_simp
    try with_reducible rfl
  try simp only [Act.put, List.setIfInBounds_toArray, List.set_cons_zero, List.set_cons_succ]
  refine until_take (i := 4) (v := ?_) rfl (by kernel_rfl) (by kernel_rfl) (by kernel_rfl) (by kernel_rfl) (fun _ _ _ h => h) (Or.inl ⟨by rfl, ?_⟩) hHeld ?_
  rotate_left
  · intro w hSw
    try dsimp only at hSw
    go_simp
    try with_reducible rfl
  try simp only [Act.put, List.setIfInBounds_toArray, List.set_cons_zero, List.set_cons_succ]
  refine until_take (i := 5) (v := ?_) rfl (by kernel_rfl) (by kernel_rfl) (by kernel_rfl) (by kernel_rfl) (fun _ _ _ h => h) (Or.inl ⟨by rfl, ?_⟩) hHeld ?_
  rotate_left
  · intro w hSw
    try dsimp only at hSw
    go_simp
    try with_reducible rfl
  try simp only [Act.put, List.setIfInBounds_toArray, List.set_cons_zero, List.set_cons_succ]
  refine until_one (i := 6) rfl (by kernel_rfl) (fun K hK => ?_)
  go_simp
  refine (HLE.out _ P T ta tc ((HL.out.below HBW2.out).below (Below.refl _ _).drew) (HPV.out _ (Below.refl _ _).drew)).mono ?_
  rintro e x3 ⟨rfl, hb3⟩
  have HB3 : Hid (Below x2.heap.size x2 x3) := (Below.refl _ _).drew.trans hb3
  have hc_x3 := bcell HB3.out
  have hHeld_x3 : (x3.cell? ⟨w.heap.size, 0, none⟩ = some (.slice a0 L.logs.length cap0) ∧ x3.cell? ⟨w.heap.size, 1, none⟩ = some (.slice a1 L.body.length cap1) ∧ x3.cell? ⟨w.heap.size, 2, none⟩ = some (.slice a2 L.outs.length cap2)) ∧ (x3.cell? ⟨w.heap.size + 1, 0, none⟩ = some (.int .i64 p0) ∧ x3.cell? ⟨w.heap.size + 1, 1, none⟩ = some (.int .i64 p1) ∧ x3.cell? ⟨w.heap.size + 1, 2, none⟩ = some (.int .i64 p2) ∧ x3.cell? ⟨w.heap.size + 1, 3, none⟩ = some (.int .i64 q0) ∧ x3.cell? ⟨w.heap.size + 1, 4, none⟩ = some (.int .i64 q1) ∧ x3.cell? ⟨w.heap.size + 1, 5, none⟩ = some (.int .i64 q2) ∧ x3.cell? ⟨w.heap.size + 1, 6, none⟩ = some (.int .i64 r)) ∧ x3.cell? ⟨x1.heap.size, 0, none⟩ = some (.int .i64 P) ∧ x3.cell? ⟨x1.heap.size, 1, none⟩ = some (.slice ta T.length tc) := by
    rw [hc_x3 _ _ z0, hc_x3 _ _ z0, hc_x3 _ _ z0, hc_x3 _ _ z1, hc_x3 _ _ z1, hc_x3 _ _ z1, hc_x3 _ _ z1, hc_x3 _ _ z1, hc_x3 _ _ z1, hc_x3 _ _ z1, hc_x3 _ _ hxz, hc_x3 _ _ hxz]
    exact H0.out
  rw [HLG.out]
  clear hb3 hc_x3 hHeld
  refine hK.out _ _ (.inr hHeld_x3) ?_
  clear hK K
  try simp only [Act.put, List.setIfInBounds_toArray, List.set_cons_zero, List.set_cons_succ]
  have hHeld := hHeld_x3
  refine until_take (i := 7) (v := ?_) rfl (by kernel_rfl) (by kernel_rfl) (by kernel_rfl) (by kernel_rfl) (fun _ _ _ h => h) (Or.inl ⟨by rfl, ?_⟩) hHeld ?_
  rotate_left
  · intro w hSw
    try dsimp only at hSw
    go_simp
    try with_reducible rfl
  try simp only [Act.put, List.setIfInBounds_toArray, List.set_cons_zero, List.set_cons_succ]
  refine until_take (i := 8) (v := ?_) rfl (by kernel_rfl) (by kernel_rfl) (by kernel_rfl) (by kernel_rfl) (fun _ _ _ h => h) (Or.inl ⟨by rfl, ?_⟩) hHeld ?_
  rotate_left
  · intro w hSw
    try dsimp only at hSw
    go_simp
    try with_reducible rfl
  try simp only [Act.put, List.setIfInBounds_toArray, List.set_cons_zero, List.set_cons_succ]
  refine until_take (i := 9) (v := ?_) rfl (by kernel_rfl) (by kernel_rfl) (by kernel_rfl) (by kernel_rfl) (fun _ _ _ h => h) (Or.inl ⟨by rfl, ?_⟩) hHeld ?_
  rotate_left
  · intro w hSw
    try dsimp only at hSw
    go_simp
    try with_reducible rfl
  try simp only [Act.put, List.setIfInBounds_toArray, List.set_cons_zero, List.set_cons_succ]
  refine until_take (i := 10) (v := ?_) rfl (by kernel_rfl) (by kernel_rfl) (by kernel_rfl) (by kernel_rfl) (fun _ _ _ h => h) (Or.inl ⟨by rfl, ?_⟩) hHeld ?_
  rotate_left
  · intro w hSw
    try dsimp only at hSw
    go_simp
    try with_reducible rfl
  try simp only [Act.put, List.setIfInBounds_toArray, List.set_cons_zero, List.set_cons_succ]
  refine until_take (i := 11) (v := ?_) rfl (by kernel_rfl) (by kernel_rfl) (by kernel_rfl) (by kernel_rfl) (fun _ _ _ h => h) (Or.inl ⟨by rfl, ?_⟩) hHeld ?_
  rotate_left
  · intro w hSw
    try dsimp only at hSw
    go_simp
    try with_reducible rfl
  try simp only [Act.put, List.setIfInBounds_toArray, List.set_cons_zero, List.set_cons_succ]
  refine until_take (i := 12) (v := ?_) rfl (by kernel_rfl) (by kernel_rfl) (by kernel_rfl) (by kernel_rfl) (fun _ _ _ h => h) (Or.inl ⟨by rfl, ?_⟩) hHeld ?_
  rotate_left
  · intro w hSw
    try dsimp only at hSw
    go_simp
    try with_reducible rfl
  try simp only [Act.put, List.setIfInBounds_toArray, List.set_cons_zero, List.set_cons_succ]
  refine until_take (i := 13) (v := ?_) rfl (by kernel_rfl) (by kernel_rfl) (by kernel_rfl) (by kernel_rfl) (fun _ _ _ h => h) (Or.inl ⟨by rfl, ?_⟩) hHeld ?_
  rotate_left
  · intro w hSw
    try dsimp only at hSw
    go_simp
    try with_reducible rfl
  try simp only [Act.put, List.setIfInBounds_toArray, List.set_cons_zero, List.set_cons_succ]
  refine until_take (i := 14) (v := ?_) rfl (by kernel_rfl) (by kernel_rfl) (by kernel_rfl) (by kernel_rfl) (fun _ _ _ h => h) (Or.inl ⟨by rfl, ?_⟩) hHeld ?_
  rotate_left
  · intro w hSw
    try dsimp only at hSw
    go_simp
    try with_reducible rfl
  try simp only [Act.put, List.setIfInBounds_toArray, List.set_cons_zero, List.set_cons_succ]
  refine until_take (i := 15) (v := ?_) rfl (by kernel_rfl) (by kernel_rfl) (by kernel_rfl) (by kernel_rfl) (fun _ _ _ h => h) (Or.inl ⟨by rfl, ?_⟩) hHeld ?_
  rotate_left
  · intro w hSw
    try dsimp only at hSw
    go_simp
    try with_reducible rfl
  try simp only [Act.put, List.setIfInBounds_toArray, List.set_cons_zero, List.set_cons_succ]
  refine until_take (i := 16) (v := ?_) rfl (by kernel_rfl) (by kernel_rfl) (by kernel_rfl) (by kernel_rfl) (fun _ _ _ h => h) (Or.inl ⟨by rfl, ?_⟩) hHeld ?_
  rotate_left
  · intro w hSw
    try dsimp only at hSw
    go_simp
    try with_reducible rfl
  try simp only [Act.put, List.setIfInBounds_toArray, List.set_cons_zero, List.set_cons_succ]
  refine until_take (i := 17) (v := ?_) rfl (by kernel_rfl) (by kernel_rfl) (by kernel_rfl) (by kernel_rfl) (fun _ _ _ h => h) (Or.inl ⟨by rfl, ?_⟩) hHeld ?_
  rotate_left
  · intro w hSw
    try dsimp only at hSw
    go_simp
    try with_reducible rfl
  try simp only [Act.put, List.setIfInBounds_toArray, List.set_cons_zero, List.set_cons_succ]
  refine until_take (i := 18) (v := ?_) rfl (by kernel_rfl) (by kernel_rfl) (by kernel_rfl) (by kernel_rfl) (fun _ _ _ h => h) (Or.inl ⟨by rfl, ?_⟩) hHeld ?_
  rotate_left
  · intro w hSw
    try dsimp only at hSw
    go_simp
    try with_reducible rfl
  try simp only [Act.put, List.setIfInBounds_toArray, List.set_cons_zero, List.set_cons_succ]
  refine until_take (i := 19) (v := ?_) rfl (by kernel_rfl) (by kernel_rfl) (by kernel_rfl) (by kernel_rfl) (fun _ _ _ h => h) (Or.inl ⟨by rfl, ?_⟩) hHeld ?_
  rotate_left
  · intro w hSw
    try dsimp only at hSw
    go_simp
    try with_reducible rfl
  try simp only [Act.put, List.setIfInBounds_toArray, List.set_cons_zero, List.set_cons_succ]
  refine until_one (i := 20) rfl (by kernel_rfl) (fun K hK => ?_)
  go_simp
  refine (HAL.out _ ((HL.out.below HBW2.out).below HB3.out)).mono ?_
  rintro e x4 ⟨rfl, hb4⟩
  have HB4 : Hid (Below x2.heap.size x2 x4) := HB3.out.trans (hb4.mono HB3.out.size)
  have hc_x4 := bcell HB4.out
  have hHeld_x4 : (x4.cell? ⟨w.heap.size, 0, none⟩ = some (.slice a0 L.logs.length cap0) ∧ x4.cell? ⟨w.heap.size, 1, none⟩ = some (.slice a1 L.body.length cap1) ∧ x4.cell? ⟨w.heap.size, 2, none⟩ = some (.slice a2 L.outs.length cap2)) ∧ (x4.cell? ⟨w.heap.size + 1, 0, none⟩ = some (.int .i64 p0) ∧ x4.cell? ⟨w.heap.size + 1, 1, none⟩ = some (.int .i64 p1) ∧ x4.cell? ⟨w.heap.size + 1, 2, none⟩ = some (.int .i64 p2) ∧ x4.cell? ⟨w.heap.size + 1, 3, none⟩ = some (.int .i64 q0) ∧ x4.cell? ⟨w.heap.size + 1, 4, none⟩ = some (.int .i64 q1) ∧ x4.cell? ⟨w.heap.size + 1, 5, none⟩ = some (.int .i64 q2) ∧ x4.cell? ⟨w.heap.size + 1, 6, none⟩ = some (.int .i64 r)) ∧ x4.cell? ⟨x1.heap.size, 0, none⟩ = some (.int .i64 P) ∧ x4.cell? ⟨x1.heap.size, 1, none⟩ = some (.slice ta T.length tc) := by
    rw [hc_x4 _ _ z0, hc_x4 _ _ z0, hc_x4 _ _ z0, hc_x4 _ _ z1, hc_x4 _ _ z1, hc_x4 _ _ z1, hc_x4 _ _ z1, hc_x4 _ _ z1, hc_x4 _ _ z1, hc_x4 _ _ z1, hc_x4 _ _ hxz, hc_x4 _ _ hxz]
    exact H0.out
  clear hb4 hc_x4 hHeld
  refine hK.out _ _ (.inr hHeld_x4) ?_
  clear hK K hHeld_x3
  try simp only [Act.put, List.setIfInBounds_toArray, List.set_cons_zero, List.set_cons_succ]
  have hHeld := hHeld_x4
  clear HMK HLE HAL HMAY
  refine until_one (i := 21) rfl (by kernel_rfl) (fun K hK => ?_)
  go_simp
  refine hK.out _ _ (.inr hHeld) ?_
  clear hK K
  try simp only [Act.put, List.setIfInBounds_toArray, List.set_cons_zero, List.set_cons_succ]
  refine until_take (i := 22) (v := ?_) rfl (by kernel_rfl) (by kernel_rfl) (by kernel_rfl) (by kernel_rfl) (fun _ _ _ h => h) (Or.inl ⟨by rfl, ?_⟩) hHeld ?_
  rotate_left
  · intro w hSw
    try dsimp only at hSw
    go_simp
    try with_reducible rfl
  try simp only [Act.put, List.setIfInBounds_toArray, List.set_cons_zero, List.set_cons_succ]
  refine until_take (i := 23) (v := ?_) rfl (by kernel_rfl) (by kernel_rfl) (by kernel_rfl) (by kernel_rfl) (fun _ _ _ h => h) (Or.inl ⟨by rfl, ?_⟩) hHeld ?_
  rotate_left
  · intro w hSw
    try dsimp only at hSw
    go_simp
    try with_reducible rfl
  try simp only [Act.put, List.setIfInBounds_toArray, List.set_cons_zero, List.set_cons_succ]
  refine until_one (i := 24) rfl (by kernel_rfl) (fun K hK => ?_)
  go_simp
  refine hK.out _ _ (.inr hHeld) ?_
  clear hK K
  try simp only [Act.put, List.setIfInBounds_toArray, List.set_cons_zero, List.set_cons_succ]
  refine until_done (by kernel_rfl) ?_ _
  refine NoPanic.normal ?_
  have hmx : P ≤ least ∨ P ≤ al := by omega
  clear hhi
  go_wp2_with fail
  all_goals
    go_ret
    refine ⟨?_, HBW2.out.trans (HB4.out.mono HBW2.out.size)⟩
    show Ending.returned (.bool (decide _)) = .returned (.bool true)
    rw [decide_eq_true (by omega)]
theorem schedMakes_any (hMake : MakeC) (v : Value) (t : Tg) (L : Lp) (least : Int) (w : World) (hL : LoopV w v L) : Calls Try.prog 4 #[v, .agg t.cells, .int .i64 least] w fun e w' => e = .returned (.bool true) ∧ Below w.heap.size w w' := by
  have hL' := hL
  obtain ⟨v0, v1, v2, rfl, ⟨a0, cap0, rfl, -⟩, ⟨a1, cap1, rfl, -⟩, ⟨a2, cap2, rfl, -⟩⟩ := hL'
  obtain ⟨p0, p1, p2, q0, q1, q2, r⟩ := t
  cases h : (mayB L && mayT ⟨p0, p1, p2, q0, q1, q2, r⟩)
  · exact makes_no hMake p0 p1 p2 q0 q1 q2 r L a0 a1 a2 cap0 cap1 cap2 least w hL (.inl h)
  · cases h1 : inR least 1 200
    · exact makes_no hMake p0 p1 p2 q0 q1 q2 r L a0 a1 a2 cap0 cap1 cap2 least w hL (.inr ⟨h, h1⟩)
    · exact makes_yes hMake p0 p1 p2 q0 q1 q2 r L a0 a1 a2 cap0 cap1 cap2 least w hL h h1
end Go.Proofs.Yteijdgeaegpdmab
