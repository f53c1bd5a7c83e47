/- The contract of package sched's newPlanner: a planner with nothing in it. -/
import Derived.Test.YteijdgeaegpdmabSchedPut
import Derived.Test.YteijdgeaegpdmabSchedB
import Derived.Test.YteijdgeaegpdmabRef67
namespace Go.Proofs.Yteijdgeaegpdmab
open Go.RowKit Go.Joins
set_option linter.unusedVariables false
set_option linter.unusedSimpArgs false
set_option maxRecDepth 8192

theorem boolInfo : (Try.prog.info? 4).map (fun i => (i.zero, i.size, i.bytes)) = some (some (.bool false), 1, 1) := by kernel_rfl
/-- two rows are two -/
def ApS (u v : Value) : Prop := ∀ g g' n n' m m', u = .slice (some ⟨g, 0, none⟩) n m → v = .slice (some ⟨g', 0, none⟩) n' m' → g ≠ g'
theorem ApS.symm (u v : Value) (h : ApS u v) : ApS v u := fun g g' n n' m m' e1 e2 => (h g' g n' n m' m e2 e1).symm
/-- what a planner's fields hold at first -/
def NewR (x : World) (n i : Nat) (v : Value) (w : World) : Prop :=
  (i = 7 → ∃ g, v = .slice (some ⟨g, 0, none⟩) n n ∧ x.heap.size ≤ g ∧ ∃ H : Nat → Int, RowF w g 3 n (fun i => .int .i64 (H i))) ∧
  (i = 9 → ∃ g, v = .slice (some ⟨g, 0, none⟩) n n ∧ x.heap.size ≤ g ∧ RowF w g 4 n (fun _ => .bool false)) ∧
  (i = 14 → ∃ g, v = .map (some g) ∧ x.heap.size ≤ g ∧ MapG (fun _ _ => 0) 0 g w) ∧
  (i = 11 ∨ i = 13 → ∃ g, v = .slice (some ⟨g, 0, none⟩) n n ∧ x.heap.size ≤ g ∧ RowF w g 3 n (fun _ => .int .i64 0))
theorem NewR.below {x : World} {n i : Nat} {v : Value} {w w' : World} (h : NewR x n i v w) (hb : Below w.heap.size w w') : NewR x n i v w' := by
  obtain ⟨h1, h2, h3, h4⟩ := h
  refine ⟨fun e => ?_, fun e => ?_, fun e => ?_, fun e => ?_⟩
  · obtain ⟨g, k1, k2, H, k3⟩ := h1 e; exact ⟨g, k1, k2, H, k3.below hb k3.lt⟩
  · obtain ⟨g, k1, k2, k3⟩ := h2 e; exact ⟨g, k1, k2, k3.below hb k3.lt⟩
  · obtain ⟨g, k1, k2, k3⟩ := h3 e; exact ⟨g, k1, k2, k3.below hb⟩
  · obtain ⟨g, k1, k2, k3⟩ := h4 e; exact ⟨g, k1, k2, k3.below hb k3.lt⟩
theorem NewR.lt {x : World} {n i : Nat} {v : Value} {w : World} (h : NewR x n i v w) (hi : i ∈ [7, 9, 11, 13, 14]) : ∀ g a b, v = .slice (some ⟨g, 0, none⟩) a b → g < w.heap.size := by
  intro g a b e
  obtain ⟨h1, h2, h3, h4⟩ := h
  have key : ∀ g', v = .slice (some ⟨g', 0, none⟩) n n → g' < w.heap.size → g < w.heap.size := fun g' e1 hlt => by
    rw [e1] at e
    injection e with e2
    injection e2 with e2
    injection e2 with e2
    omega
  simp only [List.mem_cons, List.not_mem_nil, or_false] at hi
  rcases hi with hi | hi | hi | hi | hi
  · obtain ⟨g', k1, k2, H, k3⟩ := h1 hi; exact key g' k1 k3.lt
  · obtain ⟨g', k1, k2, k3⟩ := h2 hi; exact key g' k1 k3.lt
  · obtain ⟨g', k1, k2, k3⟩ := h4 (.inl hi); exact key g' k1 k3.lt
  · obtain ⟨g', k1, k2, k3⟩ := h4 (.inr hi); exact key g' k1 k3.lt
  · obtain ⟨g', k1, k2, k3⟩ := h3 hi; rw [k1] at e; cases e
/-- a new row is none of those that are there -/
theorem new_apart {x w : World} {n : Nat} {g a b : Nat} (hg : w.heap.size ≤ g) : ∀ j ∈ [7, 9, 11, 13, 14], ∀ u, NewR x n j u w → ApS u (.slice (some ⟨g, 0, none⟩) a b) := fun j hj u hu g1 g2 n1 n2 m1 m2 e1 e2 => by
  have h1 := hu.lt hj g1 n1 m1 e1
  injection e2 with e3
  injection e3 with e3
  injection e3 with e3
  omega
theorem map_apart {x w : World} {n : Nat} {g : Nat} : ∀ j ∈ [7, 9, 11, 13, 14], ∀ u, NewR x n j u w → ApS u (.map (some g)) := fun j _ u hu g1 g2 n1 n2 m1 m2 e1 e2 => by cases e2
set_option maxHeartbeats 16000000 in
theorem newPlanner_any (p0 p1 p2 q0 q1 q2 r : Int) (L : Lp) (v0 v2 : Value) (bb bo bc : Nat) (P : Int) (ea : Option Addr) (ec : Nat) (x : World) (hm : mayB L = true) (ht : mayT ⟨p0, p1, p2, q0, q1, q2, r⟩ = true) (hP1 : 1 ≤ P) (hP2 : P ≤ 200) (hbb : bb < x.heap.size) (hbc : L.body.length ≤ bc) (hbm : bc ≤ 9223372036854775807) (hbody : ∀ i, i < L.body.length → ∀ j, j < 9 → x.cell? ⟨bb, bo + i * 9 + j, none⟩ = (stCells (stAt L.body i))[j]?) (hE : EdgesV x (.slice ea (edgesD L ⟨p0, p1, p2, q0, q1, q2, r⟩).length ec) (edgesD L ⟨p0, p1, p2, q0, q1, q2, r⟩)) :
    Calls Try.prog 65 #[.agg #[v0, .slice (some ⟨bb, bo, none⟩) L.body.length bc, v2], .agg #[.int .i64 p0, .int .i64 p1, .int .i64 p2, .int .i64 q0, .int .i64 q1, .int .i64 q2, .int .i64 r], .slice ea (edgesD L ⟨p0, p1, p2, q0, q1, q2, r⟩).length ec, .int .i64 P] x fun e w' => ∃ c : Pc, e = .returned (.pointer (some ⟨c.pb, 0, none⟩)) ∧ PcOk c ∧ c.w0 = x ∧ c.L = L ∧ c.t = ⟨p0, p1, p2, q0, q1, q2, r⟩ ∧ c.P = P ∧ PSt c (fun _ => false) (fun _ => 0) (fun _ => 0) 0 (edgesD c.L c.t).length w' := by
  obtain ⟨-, hl1, hl16, -⟩ := may_parts hm
  have HOK : Hid (∀ e ∈ edgesD L ⟨p0, p1, p2, q0, q1, q2, r⟩, edOk L.body.length e) := fun e he => by
    obtain ⟨fr, to, bk, wt, h0, h1, h2, h3, h4, h5⟩ := edges_ok hm e he
    exact ⟨fr, to, bk, wt, h0, h1, h2, h5, h4⟩
  have HHE := hide (fun W (hW : EdgesV W (.slice ea (edgesD L ⟨p0, p1, p2, q0, q1, q2, r⟩).length ec) (edgesD L ⟨p0, p1, p2, q0, q1, q2, r⟩)) => heights_any L.body.length P ea ec _ W hW HOK.out hl16 hP1 hP2)
  have hmkI := run_make_row' (P := Try.prog) 22 3 (.int .i64 0) 8 Try.underlying22 Try.j3 rfl .i64 .i64 L.body.length (by omega) (by omega)
  have hmkB := run_make_row' (P := Try.prog) 126 4 (.bool false) 1 Try.underlying126 boolInfo rfl .i64 .i64 L.body.length (by omega) (by omega)
  have hmm := @run_makeMap Try.prog
  have HB2 := hide (below_alloc2 x (.cells #[v0, .slice (some ⟨bb, bo, none⟩) L.body.length bc, v2] 25) (.cells #[.int .i64 p0, .int .i64 p1, .int .i64 p2, .int .i64 q0, .int .i64 q1, .int .i64 q2, .int .i64 r] 28))
  have HS2 : Hid (((x.alloc (.cells #[v0, .slice (some ⟨bb, bo, none⟩) L.body.length bc, v2] 25)).alloc (.cells #[.int .i64 p0, .int .i64 p1, .int .i64 p2, .int .i64 q0, .int .i64 q1, .int .i64 q2, .int .i64 r] 28)).heap.size = x.heap.size + 1 + 1) := by show _ = _; simp
  have HEV := hide hE
  have HSE : Hid (∀ y, Below (x.heap.size + 1 + 1) ((x.alloc (.cells #[v0, .slice (some ⟨bb, bo, none⟩) L.body.length bc, v2] 25)).alloc (.cells #[.int .i64 p0, .int .i64 p1, .int .i64 p2, .int .i64 q0, .int .i64 q1, .int .i64 q2, .int .i64 r] 28)) y → (y.cell? ⟨x.heap.size, 0, none⟩ = some v0 ∧ y.cell? ⟨x.heap.size, 1, none⟩ = some (.slice (some ⟨bb, bo, none⟩) L.body.length bc) ∧ y.cell? ⟨x.heap.size, 2, none⟩ = some v2) ∧ (y.cell? ⟨x.heap.size + 1, 0, none⟩ = some (.int .i64 p0) ∧ y.cell? ⟨x.heap.size + 1, 1, none⟩ = some (.int .i64 p1) ∧ y.cell? ⟨x.heap.size + 1, 2, none⟩ = some (.int .i64 p2) ∧ y.cell? ⟨x.heap.size + 1, 3, none⟩ = some (.int .i64 q0) ∧ y.cell? ⟨x.heap.size + 1, 4, none⟩ = some (.int .i64 q1) ∧ y.cell? ⟨x.heap.size + 1, 5, none⟩ = some (.int .i64 q2) ∧ y.cell? ⟨x.heap.size + 1, 6, none⟩ = some (.int .i64 r))) := fun y hy => by
    obtain ⟨h1, h2, -⟩ := ebox_cells hy
    exact ⟨h1, h2⟩
  have HEND : Hid (∀ (pb hb ib tb nb mb : Nat) (y : World), Below x.heap.size x y → x.heap.size ≤ hb → x.heap.size ≤ ib → x.heap.size ≤ tb → x.heap.size ≤ nb → x.heap.size ≤ mb → hb ≠ tb → hb ≠ nb → tb ≠ nb → (∃ H : Nat → Int, RowF y hb 3 L.body.length (fun i => .int .i64 (H i))) → RowF y ib 4 L.body.length (fun _ => .bool false) → RowF y tb 3 L.body.length (fun _ => .int .i64 0) → RowF y nb 3 L.body.length (fun _ => .int .i64 0) → MapG (fun _ _ => 0) 0 mb y → x.heap.size ≤ pb →
      y.heap[pb]? = some (.cells (plC ⟨x, L, ⟨p0, p1, p2, q0, q1, q2, r⟩, P, pb, hb, ib, tb, nb, mb, v0, v2, bb, bo, bc, ea, ec⟩) 128 (0, 0)) → ∃ c : Pc, (.returned (.pointer (some ⟨pb, 0, none⟩)) : Ending) = .returned (.pointer (some ⟨c.pb, 0, none⟩)) ∧ PcOk c ∧ c.w0 = x ∧ c.L = L ∧ c.t = ⟨p0, p1, p2, q0, q1, q2, r⟩ ∧ c.P = P ∧ PSt c (fun _ => false) (fun _ => 0) (fun _ => 0) 0 (edgesD c.L c.t).length y) := by
    intro pb hb ib tb nb mb y k1 k2 k3 k4 k5 k6 k7 k8 k9 r1 r2 r3 r4 r5 k10 k11
    refine ⟨⟨x, L, ⟨p0, p1, p2, q0, q1, q2, r⟩, P, pb, hb, ib, tb, nb, mb, v0, v2, bb, bo, bc, ea, ec⟩, rfl, ⟨hm, ht, hP1, hP2, hbb, hbc, hbm, hbody, hE⟩, rfl, rfl, rfl, rfl, ⟨⟨k1, k11, r1, r2, r3, r4, ⟨k10, k2, k3, k4, k5, k6⟩, ⟨k7, k8, k9⟩⟩, SOk.start ht _ _, 0, r5.congr fun s q => ?_, ?_⟩⟩
    · have h1 : inC L P (fun _ => false) (fun _ => 0) s q = 0 := by
        rcases cnt_zero_or (fun i => (fun _ : Nat => false) i && (decide (clsv (stAt L.body i).o = s) && decide (((fun _ : Nat => (0 : Int)) i).tmod P = q))) L.body.length with h | ⟨i, _, h⟩
        · exact h
        · simp at h
      show (0 : Int) = (inC L P (fun _ => false) (fun _ => 0) s q : Int)
      rw [h1]; rfl
    · have h1 : cnt (fun _ => false) L.body.length = 0 := by
        rcases cnt_zero_or (fun _ => false) L.body.length with h | ⟨i, _, h⟩
        · exact h
        · cases h
      have h2 := (sum_range (N := fun _ => 0) (lo := 0) (hi := 0) L.body.length (fun _ _ => ⟨Int.le_refl _, Int.le_refl _⟩)).1
      show ((0 : Nat) : Int) + (cnt (fun _ => false) L.body.length : Nat) ≤ 2 * sumN (fun _ => 0) L.body.length
      rw [h1]
      omega
  have HELN : Hid ((edgesD L ⟨p0, p1, p2, q0, q1, q2, r⟩).length = (edgesD L ⟨p0, p1, p2, q0, q1, q2, r⟩).length) := rfl
  clear hE hbody hm ht
  obtain ⟨es, hes⟩ : ∃ es, edgesD L ⟨p0, p1, p2, q0, q1, q2, r⟩ = es := ⟨_, rfl⟩
  rw [hes] at HHE HEV ⊢
  have HES := hide hes
  clear hes
  go_enter Try.func65, Try.ntmps65
  go_wp2_with fail
  refine wp_region_noPanic ?_
  refine region_until 99 (fun w' => (Below (x.heap.size + 1 + 1) ((x.alloc (.cells #[v0, .slice (some ⟨bb, bo, none⟩) L.body.length bc, v2] 25)).alloc (.cells #[.int .i64 p0, .int .i64 p1, .int .i64 p2, .int .i64 q0, .int .i64 q1, .int .i64 q2, .int .i64 r] 28)) w') ∧ ((w'.cell? ⟨x.heap.size, 0, none⟩ = some v0 ∧ w'.cell? ⟨x.heap.size, 1, none⟩ = some (.slice (some ⟨bb, bo, none⟩) L.body.length bc) ∧ w'.cell? ⟨x.heap.size, 2, none⟩ = some v2) ∧ (w'.cell? ⟨x.heap.size + 1, 0, none⟩ = some (.int .i64 p0) ∧ w'.cell? ⟨x.heap.size + 1, 1, none⟩ = some (.int .i64 p1) ∧ w'.cell? ⟨x.heap.size + 1, 2, none⟩ = some (.int .i64 p2) ∧ w'.cell? ⟨x.heap.size + 1, 3, none⟩ = some (.int .i64 q0) ∧ w'.cell? ⟨x.heap.size + 1, 4, none⟩ = some (.int .i64 q1) ∧ w'.cell? ⟨x.heap.size + 1, 5, none⟩ = some (.int .i64 q2) ∧ w'.cell? ⟨x.heap.size + 1, 6, none⟩ = some (.int .i64 r)))) (by kernel_rfl) ⟨below_dr1 _ _, HSE.out _ (below_dr1 _ _)⟩ (fun hHeld => ?_)
  refine until_take (i := 0) (v := ?_) rfl (by kernel_rfl) (by kernel_rfl) (by kernel_rfl) (by kernel_rfl) (fun _ _ _ h => h) (Or.inl ⟨by rfl, ?_⟩) hHeld ?_
  rotate_left
  · intro w hSw
    try dsimp only at hSw
    go_simp
    try with_reducible rfl
  try simp only [Act.put, List.setIfInBounds_toArray, List.set_cons_zero, List.set_cons_succ]
  refine until_take (i := 1) (v := ?_) rfl (by kernel_rfl) (by kernel_rfl) (by kernel_rfl) (by kernel_rfl) (fun _ _ _ h => h) (Or.inl ⟨by rfl, ?_⟩) hHeld ?_
  rotate_left
  · intro w hSw
    try dsimp only at hSw
    go_simp
    try with_reducible rfl
  try simp only [Act.put, List.setIfInBounds_toArray, List.set_cons_zero, List.set_cons_succ]
  refine until_take (i := 2) (v := ?_) rfl (by kernel_rfl) (by kernel_rfl) (by kernel_rfl) (by kernel_rfl) (fun _ _ _ h => h) (Or.inl ⟨by rfl, ?_⟩) hHeld ?_
  rotate_left
  · intro w hSw
    try dsimp only at hSw
    go_simp
    try with_reducible rfl
  try simp only [Act.put, List.setIfInBounds_toArray, List.set_cons_zero, List.set_cons_succ]
  refine until_take (i := 3) (v := ?_) rfl (by kernel_rfl) (by kernel_rfl) (by kernel_rfl) (by kernel_rfl) (fun _ _ _ h => h) (Or.inl ⟨by rfl, ?_⟩) hHeld ?_
  rotate_left
  · intro w hSw
    try dsimp only at hSw
    go_simp
    try with_reducible rfl
  try simp only [Act.put, List.setIfInBounds_toArray, List.set_cons_zero, List.set_cons_succ]
  refine until_take (i := 4) (v := ?_) rfl (by kernel_rfl) (by kernel_rfl) (by kernel_rfl) (by kernel_rfl) (fun _ _ _ h => h) (Or.inl ⟨by rfl, ?_⟩) hHeld ?_
  rotate_left
  · intro w hSw
    try dsimp only at hSw
    go_simp
    try with_reducible rfl
  try simp only [Act.put, List.setIfInBounds_toArray, List.set_cons_zero, List.set_cons_succ]
  refine until_take (i := 5) (v := ?_) rfl (by kernel_rfl) (by kernel_rfl) (by kernel_rfl) (by kernel_rfl) (fun _ _ _ h => h) (Or.inl ⟨by rfl, ?_⟩) hHeld ?_
  rotate_left
  · intro w hSw
    try dsimp only at hSw
    go_simp
    try with_reducible rfl
  try simp only [Act.put, List.setIfInBounds_toArray, List.set_cons_zero, List.set_cons_succ]
  refine until_take (i := 6) (v := ?_) rfl (by kernel_rfl) (by kernel_rfl) (by kernel_rfl) (by kernel_rfl) (fun _ _ _ h => h) (Or.inl ⟨by rfl, ?_⟩) hHeld ?_
  rotate_left
  · intro w hSw
    try dsimp only at hSw
    go_simp
    try with_reducible rfl
  try simp only [Act.put, List.setIfInBounds_toArray, List.set_cons_zero, List.set_cons_succ]
  refine until_take (i := 8) (v := ?_) rfl (by kernel_rfl) (by kernel_rfl) (by kernel_rfl) (by kernel_rfl) (fun _ _ _ h => h) (Or.inl ⟨by rfl, ?_⟩) hHeld ?_
  rotate_left
  · intro w hSw
    try dsimp only at hSw
    go_simp
    try with_reducible rfl
  try simp only [Act.put, List.setIfInBounds_toArray, List.set_cons_zero, List.set_cons_succ]
  refine until_take (i := 10) (v := ?_) rfl (by kernel_rfl) (by kernel_rfl) (by kernel_rfl) (by kernel_rfl) (fun _ _ _ h => h) (Or.inl ⟨by rfl, ?_⟩) hHeld ?_
  rotate_left
  · intro w hSw
    try dsimp only at hSw
    go_simp
    try with_reducible rfl
  try simp only [Act.put, List.setIfInBounds_toArray, List.set_cons_zero, List.set_cons_succ]
  refine until_take (i := 12) (v := ?_) rfl (by kernel_rfl) (by kernel_rfl) (by kernel_rfl) (by kernel_rfl) (fun _ _ _ h => h) (Or.inl ⟨by rfl, ?_⟩) hHeld ?_
  rotate_left
  · intro w hSw
    try dsimp only at hSw
    go_simp
    try with_reducible rfl
  try simp only [Act.put, List.setIfInBounds_toArray, List.set_cons_zero, List.set_cons_succ]
  refine until_makes (NewR x L.body.length) ApS ApS.symm [7, 9, 11, 13, 14] #[true, true, true, true, true, true, true, true, true, true, true, true, true, true, true, false, false, false] (fun _ _ _ h => h) (by decide) (fun _ _ _ _ _ h hb => h.below hb) ?mk ?fin 5 [7, 9, 11, 13, 14] [] (fun _ => undef) _ _ rfl (List.Perm.refl _) (by kernel_rfl) hHeld (fun i hi => absurd hi (by simp)) (fun i hi => absurd hi (by simp))
  case mk =>
    intro i hi
    simp only [List.mem_cons, List.not_mem_nil, or_false] at hi
    rcases hi with rfl | rfl | rfl | rfl | rfl
    · refine makesAt rfl (by kernel_rfl) (by rfl) (by kernel_rfl) (fun w hS K hK => ?_)
      have hbx := HB2.out.trans (hS.1.mono (by omega))
      have HEW := hide (HEV.out.below hbx)
      have HSZ := hide hbx.size
      have HSW := hide hS.1
      clear hS hbx hmkI hmkB hmm HEV
      go_simp
      refine (HHE.out w HEW.out).mono ?_
      rintro e y ⟨rfl, hb, hr⟩
      have hsy : Below (x.heap.size + 1 + 1) ((x.alloc (.cells #[v0, .slice (some ⟨bb, bo, none⟩) L.body.length bc, v2] 25)).alloc (.cells #[.int .i64 p0, .int .i64 p1, .int .i64 p2, .int .i64 q0, .int .i64 q1, .int .i64 q2, .int .i64 r] 28)) y := HSW.out.trans (hb.mono (by have := HSW.out.size; rw [HS2.out] at this; exact this))
      exact hK.out _ _ ⟨hsy, HSE.out _ hsy⟩ hb ⟨fun _ => ⟨_, rfl, HSZ.out, hr⟩, fun h => absurd h (by decide), fun h => absurd h (by decide), fun h => absurd h (by decide)⟩ (new_apart (Nat.le_refl _))
    · refine makesAt rfl (by kernel_rfl) (by rfl) (by kernel_rfl) (fun w hS K hK => ?_)
      have HSZ := hide (HB2.out.trans (hS.1.mono (by omega))).size
      have HSW := hide hS.1
      clear hS hmkI hmm
      go_simp
      have hb : Below w.heap.size w (w.alloc (.cells (madeCells #[.bool false] L.body.length) 4)) := below_alloc1 _ _
      have hsy : Below (x.heap.size + 1 + 1) ((x.alloc (.cells #[v0, .slice (some ⟨bb, bo, none⟩) L.body.length bc, v2] 25)).alloc (.cells #[.int .i64 p0, .int .i64 p1, .int .i64 p2, .int .i64 q0, .int .i64 q1, .int .i64 q2, .int .i64 r] 28)) (w.alloc (.cells (madeCells #[.bool false] L.body.length) 4)) := HSW.out.trans (hb.mono (by have := HSW.out.size; rw [HS2.out] at this; exact this))
      exact hK.out _ _ ⟨hsy, HSE.out _ hsy⟩ hb ⟨fun h => absurd h (by decide), fun _ => ⟨_, rfl, HSZ.out, RowF.zeros w _ _ _⟩, fun h => absurd h (by decide), fun h => absurd h (by decide)⟩ (new_apart (Nat.le_refl _))
    · refine makesAt rfl (by kernel_rfl) (by rfl) (by kernel_rfl) (fun w hS K hK => ?_)
      have HSZ := hide (HB2.out.trans (hS.1.mono (by omega))).size
      have HSW := hide hS.1
      clear hS hmkB hmm
      go_simp
      have hb : Below w.heap.size w (w.alloc (.cells (madeCells #[.int .i64 0] L.body.length) 3)) := below_alloc1 _ _
      have hsy : Below (x.heap.size + 1 + 1) ((x.alloc (.cells #[v0, .slice (some ⟨bb, bo, none⟩) L.body.length bc, v2] 25)).alloc (.cells #[.int .i64 p0, .int .i64 p1, .int .i64 p2, .int .i64 q0, .int .i64 q1, .int .i64 q2, .int .i64 r] 28)) (w.alloc (.cells (madeCells #[.int .i64 0] L.body.length) 3)) := HSW.out.trans (hb.mono (by have := HSW.out.size; rw [HS2.out] at this; exact this))
      exact hK.out _ _ ⟨hsy, HSE.out _ hsy⟩ hb ⟨fun h => absurd h (by decide), fun h => absurd h (by decide), fun h => absurd h (by decide), fun _ => ⟨_, rfl, HSZ.out, RowF.zeros w _ _ _⟩⟩ (new_apart (Nat.le_refl _))
    · refine makesAt rfl (by kernel_rfl) (by rfl) (by kernel_rfl) (fun w hS K hK => ?_)
      have HSZ := hide (HB2.out.trans (hS.1.mono (by omega))).size
      have HSW := hide hS.1
      clear hS hmkB hmm
      go_simp
      have hb : Below w.heap.size w (w.alloc (.cells (madeCells #[.int .i64 0] L.body.length) 3)) := below_alloc1 _ _
      have hsy : Below (x.heap.size + 1 + 1) ((x.alloc (.cells #[v0, .slice (some ⟨bb, bo, none⟩) L.body.length bc, v2] 25)).alloc (.cells #[.int .i64 p0, .int .i64 p1, .int .i64 p2, .int .i64 q0, .int .i64 q1, .int .i64 q2, .int .i64 r] 28)) (w.alloc (.cells (madeCells #[.int .i64 0] L.body.length) 3)) := HSW.out.trans (hb.mono (by have := HSW.out.size; rw [HS2.out] at this; exact this))
      exact hK.out _ _ ⟨hsy, HSE.out _ hsy⟩ hb ⟨fun h => absurd h (by decide), fun h => absurd h (by decide), fun h => absurd h (by decide), fun _ => ⟨_, rfl, HSZ.out, RowF.zeros w _ _ _⟩⟩ (new_apart (Nat.le_refl _))
    · refine makesAt rfl (by kernel_rfl) (by rfl) (by kernel_rfl) (fun w hS K hK => ?_)
      have HSZ := hide (HB2.out.trans (hS.1.mono (by omega))).size
      have HSW := hide hS.1
      clear hS hmkB hmkI
      go_simp
      have hb : Below w.heap.size w (w.alloc (.map #[] 0)) := below_alloc1 _ _
      have hsy : Below (x.heap.size + 1 + 1) ((x.alloc (.cells #[v0, .slice (some ⟨bb, bo, none⟩) L.body.length bc, v2] 25)).alloc (.cells #[.int .i64 p0, .int .i64 p1, .int .i64 p2, .int .i64 q0, .int .i64 q1, .int .i64 q2, .int .i64 r] 28)) (w.alloc (.map #[] 0)) := HSW.out.trans (hb.mono (by have := HSW.out.size; rw [HS2.out] at this; exact this))
      exact hK.out _ _ ⟨hsy, HSE.out _ hsy⟩ hb ⟨fun h => absurd h (by decide), fun h => absurd h (by decide), fun _ => ⟨_, rfl, HSZ.out, MapG.made w⟩, fun h => absurd h (by decide)⟩ map_apart
  case fin =>
    intro val w1 hS hR hA
    obtain ⟨hb, e7, k7, r7⟩ := (hR 7 (by decide)).1 rfl
    obtain ⟨ib, e9, k9, r9⟩ := (hR 9 (by decide)).2.1 rfl
    obtain ⟨tb, e11, k11, r11⟩ := (hR 11 (by decide)).2.2.2 (.inl rfl)
    obtain ⟨nb, e13, k13, r13⟩ := (hR 13 (by decide)).2.2.2 (.inr rfl)
    obtain ⟨mb, e14, k14, r14⟩ := (hR 14 (by decide)).2.2.1 rfl
    have n1 := hA 7 (by decide) 11 (by decide) (by decide) _ _ _ _ _ _ e7 e11
    have n2 := hA 7 (by decide) 13 (by decide) (by decide) _ _ _ _ _ _ e7 e13
    have n3 := hA 11 (by decide) 13 (by decide) (by decide) _ _ _ _ _ _ e11 e13
    have HBW : Hid (Below x.heap.size x w1) := HB2.out.trans (hS.1.mono (by omega))
    have HRS := hide (And.intro r7 (And.intro r9 (And.intro r11 (And.intro r13 r14))))
    have hHeld2 := hS
    clear hR hA hS hHeld hmkI hmkB hmm HHE
    show anyU _ _ _ _ _ _ _ _ ((((((_ : Act).put (some 20) (val 7)).put (some 22) (val 9)).put (some 24) (val 11)).put (some 26) (val 13)).put (some 27) (val 14)) _
    rw [e7, e9, e11, e13, e14]
    clear e7 e9 e11 e13 e14 r7 r9 r11 r13 r14
    have hHeld := hHeld2
    clear hHeld2
    try simp only [Act.put, List.setIfInBounds_toArray, List.set_cons_zero, List.set_cons_succ]
    refine until_take (i := 15) (v := ?_) rfl (by kernel_rfl) (by kernel_rfl) (by kernel_rfl) (by kernel_rfl) (fun _ _ _ h => h) (Or.inl ⟨by rfl, ?_⟩) hHeld ?_
    rotate_left
    · intro w hSw
      try dsimp only at hSw
      go_simp
      try with_reducible rfl
    try simp only [Act.put, List.setIfInBounds_toArray, List.set_cons_zero, List.set_cons_succ]
    have HPB : Hid ((w1.alloc (.cells #[v0, .slice (some ⟨bb, bo, none⟩) L.body.length bc, v2, .int .i64 p0, .int .i64 p1, .int .i64 p2, .int .i64 q0, .int .i64 q1, .int .i64 q2, .int .i64 r, .slice ea es.length ec, .int .i64 P, .slice (some ⟨hb, 0, none⟩) L.body.length L.body.length, .slice (some ⟨ib, 0, none⟩) L.body.length L.body.length, .slice (some ⟨tb, 0, none⟩) L.body.length L.body.length, .slice (some ⟨nb, 0, none⟩) L.body.length L.body.length, .map (some mb)] 128)).heap[w1.heap.size]? = some (.cells (plC ⟨x, L, ⟨p0, p1, p2, q0, q1, q2, r⟩, P, w1.heap.size, hb, ib, tb, nb, mb, v0, v2, bb, bo, bc, ea, ec⟩) 128 (0, 0))) := by
      show _ = _
      unfold plC
      dsimp only
      rw [HES.out]
      exact new_blkS _ _ _
    have HBP : Hid (Below w1.heap.size w1 (w1.alloc (.cells #[v0, .slice (some ⟨bb, bo, none⟩) L.body.length bc, v2, .int .i64 p0, .int .i64 p1, .int .i64 p2, .int .i64 q0, .int .i64 q1, .int .i64 q2, .int .i64 r, .slice ea es.length ec, .int .i64 P, .slice (some ⟨hb, 0, none⟩) L.body.length L.body.length, .slice (some ⟨ib, 0, none⟩) L.body.length L.body.length, .slice (some ⟨tb, 0, none⟩) L.body.length L.body.length, .slice (some ⟨nb, 0, none⟩) L.body.length L.body.length, .map (some mb)] 128))) := below_alloc1 _ _
    have hsy : Below (x.heap.size + 1 + 1) ((x.alloc (.cells #[v0, .slice (some ⟨bb, bo, none⟩) L.body.length bc, v2] 25)).alloc (.cells #[.int .i64 p0, .int .i64 p1, .int .i64 p2, .int .i64 q0, .int .i64 q1, .int .i64 q2, .int .i64 r] 28)) (w1.alloc (.cells #[v0, .slice (some ⟨bb, bo, none⟩) L.body.length bc, v2, .int .i64 p0, .int .i64 p1, .int .i64 p2, .int .i64 q0, .int .i64 q1, .int .i64 q2, .int .i64 r, .slice ea es.length ec, .int .i64 P, .slice (some ⟨hb, 0, none⟩) L.body.length L.body.length, .slice (some ⟨ib, 0, none⟩) L.body.length L.body.length, .slice (some ⟨tb, 0, none⟩) L.body.length L.body.length, .slice (some ⟨nb, 0, none⟩) L.body.length L.body.length, .map (some mb)] 128)) := hHeld.1.trans (HBP.out.mono (by have := hHeld.1.size; rw [HS2.out] at this; exact this))
    have hHeld2 := And.intro hsy (HSE.out _ hsy)
    refine until_one (i := 16) rfl (by kernel_rfl) (fun K hK => ?_)
    go_simp
    refine hK.out _ _ (.inr hHeld2) ?_
    clear hK K
    try simp only [Act.put, List.setIfInBounds_toArray, List.set_cons_zero, List.set_cons_succ]
    have hHeld := hHeld2
    refine until_one (i := 17) rfl (by kernel_rfl) (fun K hK => ?_)
    go_simp
    refine hK.out _ _ (.inr hHeld) ?_
    clear hK K
    try simp only [Act.put, List.setIfInBounds_toArray, List.set_cons_zero, List.set_cons_succ]
    refine until_done (by kernel_rfl) ?_ _
    refine NoPanic.normal ?_
    have HF := hide (HEND.out w1.heap.size hb ib tb nb mb (w1.alloc (.cells #[v0, .slice (some ⟨bb, bo, none⟩) L.body.length bc, v2, .int .i64 p0, .int .i64 p1, .int .i64 p2, .int .i64 q0, .int .i64 q1, .int .i64 q2, .int .i64 r, .slice ea es.length ec, .int .i64 P, .slice (some ⟨hb, 0, none⟩) L.body.length L.body.length, .slice (some ⟨ib, 0, none⟩) L.body.length L.body.length, .slice (some ⟨tb, 0, none⟩) L.body.length L.body.length, .slice (some ⟨nb, 0, none⟩) L.body.length L.body.length, .map (some mb)] 128)) (HBW.out.trans (HBP.out.mono HBW.out.size)) k7 k9 k11 k13 k14 n1 n2 n3 (by obtain ⟨H, hH⟩ := HRS.out.1; exact ⟨H, hH.below HBP.out hH.lt⟩) (HRS.out.2.1.below HBP.out HRS.out.2.1.lt) (HRS.out.2.2.1.below HBP.out HRS.out.2.2.1.lt) (HRS.out.2.2.2.1.below HBP.out HRS.out.2.2.2.1.lt) (HRS.out.2.2.2.2.below HBP.out) HBW.out.size HPB.out)
    clear hHeld hHeld2 hsy
    go_wp2_with fail
    exact bodyPost_ret (v := .pointer (some ⟨w1.heap.size, 0, none⟩)) (by simp [results, Try.results65, go_sem]) rfl HF.out
end Go.Proofs.Yteijdgeaegpdmab
