/- The contract of the Waits of all statements together, by the document; nothing that was there is changed. -/
import Derived.Test.YteijdgeaegpdmabRounds
import Derived.Test.YteijdgeaegpdmabRef67
import Derived.Test.YteijdgeaegpdmabRef6A
import Derived.Test.YteijdgeaegpdmabBase
namespace Go.Proofs.Yteijdgeaegpdmab
open Go.RowKit Go.Joins
set_option linter.unusedVariables false
set_option linter.unusedSimpArgs false
set_option maxRecDepth 8192

/-- the Waits of the first k statements together -/
def waitsL (L : Lp) (t : Tg) (k : Nat) : Int := sumN (fun i => waitT t (stAt L.body i).o) k
def allW (L : Lp) (t : Tg) : Int := waitsL L t L.body.length
theorem wait_le {t : Tg} (o : Int) (h : mayT t = true) : 1 ≤ waitT t o ∧ waitT t o ≤ 6 := by
  obtain ⟨h1, h2, h3, -, -⟩ := mayT_parts h
  have h1 := unit_iff h1
  have h2 := unit_iff h2
  have h3 := unit_iff h3
  have hw : waitT t o = waitsT t (clsv o) := by unfold waitT; rw [if_pos h]
  rw [hw]
  unfold waitsT
  split
  · omega
  · split <;> omega
theorem waits_le {L : Lp} {t : Tg} (h : mayT t = true) : ∀ k, 0 ≤ waitsL L t k ∧ waitsL L t k ≤ 6 * k := by
  intro k
  induction k with
  | zero => exact ⟨Int.le_refl _, Int.le_refl _⟩
  | succ k ih =>
    have := wait_le (stAt L.body k).o h
    show 0 ≤ waitsL L t k + waitT t (stAt L.body k).o ∧ waitsL L t k + waitT t (stAt L.body k).o ≤ _
    omega
set_option maxHeartbeats 4000000 in
theorem all_walk (p0 p1 p2 q0 q1 q2 r : Int) (L : Lp) (v0 v2 : Value) (b off cap : Nat) (w : World) (hl : L.body.length ≤ cap) (hm : cap ≤ 9223372036854775807) (hb : b < w.heap.size) (hcell : ∀ i, i < L.body.length → ∀ j, j < 9 → w.cell? ⟨b, off + i * 9 + j, none⟩ = (stCells (stAt L.body i))[j]?) (h16 : L.body.length ≤ 16) (hmt : mayT ⟨p0, p1, p2, q0, q1, q2, r⟩ = true) :
    Calls Try.prog 11 #[.agg #[v0, .slice (some ⟨b, off, none⟩) L.body.length cap, v2], .agg #[.int .i64 p0, .int .i64 p1, .int .i64 p2, .int .i64 q0, .int .i64 q1, .int .i64 q2, .int .i64 r]] w fun e w' => e = .returned (.int .i64 (allW L ⟨p0, p1, p2, q0, q1, q2, r⟩)) ∧ Below w.heap.size w w' := by
  have HCE := hide hcell
  have HWL := hide (waits_le (L := L) hmt)
  have HWO := hide (fun o => wait_le o hmt)
  clear hcell hmt
  go_enter Try.func11, Try.ntmps11
  go_wp2_with fail
  go_loopw [5, 6] (fun nv i wr => ∃ k : Nat, k ≤ L.body.length ∧ i = .int .i64 k ∧ nv = .int .i64 (waitsL L ⟨p0, p1, p2, q0, q1, q2, r⟩ k) ∧ Below (w.heap.size + 1 + 1) ((w.alloc (.cells #[v0, .slice (some ⟨b, off, none⟩) L.body.length cap, v2] 25)).alloc (.cells #[.int .i64 p0, .int .i64 p1, .int .i64 p2, .int .i64 q0, .int .i64 q1, .int .i64 q2, .int .i64 r] 28)) wr) (fun _ i _ => L.body.length - (intOf i).toNat)
  case atStart => exact ⟨0, Nat.zero_le _, rfl, rfl, Below.refl _ _⟩
  case round =>
    obtain ⟨k, hk, rfl, rfl, hbel⟩ := hrel
    have HB := hide hbel
    have hbx := ebox_cells hbel
    obtain ⟨⟨l0, l1, l2⟩, ⟨t0, t1, t2, t3, t4, t5, t6⟩, z0, z1, hbw⟩ := hbx
    have HBW := hide hbw
    by_cases hkl : k < L.body.length
    · have hki : (k : Int) < (L.body.length : Int) := by omega
      have c0 := (nine (HCE.out k hkl)).1
      rw [← bcell hbw _ _ hb] at c0
      have hbz : b < wr.heap.size := by have := hbw.size; omega
      have HWT := hide (fun W => twait_seven p0 p1 p2 q0 q1 q2 r (stAt L.body k).o W)
      have HST : Hid (waitsL L ⟨p0, p1, p2, q0, q1, q2, r⟩ (k + 1) = waitsL L ⟨p0, p1, p2, q0, q1, q2, r⟩ k + waitT ⟨p0, p1, p2, q0, q1, q2, r⟩ (stAt L.body k).o) := rfl
      obtain ⟨hw1, hw2⟩ := HWO.out (stAt L.body k).o
      obtain ⟨hs1, hs2⟩ := HWL.out k
      generalize (stAt L.body k).o = ok at *
      generalize waitT ⟨p0, p1, p2, q0, q1, q2, r⟩ ok = wk at *
      generalize waitsL L ⟨p0, p1, p2, q0, q1, q2, r⟩ k = sk at *
      have H0 : Hid ((wr.cell? ⟨w.heap.size, 0, none⟩ = some v0 ∧ wr.cell? ⟨w.heap.size, 1, none⟩ = some (.slice (some ⟨b, off, none⟩) L.body.length cap) ∧ wr.cell? ⟨w.heap.size, 2, none⟩ = some v2) ∧ (wr.cell? ⟨w.heap.size + 1, 0, none⟩ = some (.int .i64 p0) ∧ wr.cell? ⟨w.heap.size + 1, 1, none⟩ = some (.int .i64 p1) ∧ wr.cell? ⟨w.heap.size + 1, 2, none⟩ = some (.int .i64 p2) ∧ wr.cell? ⟨w.heap.size + 1, 3, none⟩ = some (.int .i64 q0) ∧ wr.cell? ⟨w.heap.size + 1, 4, none⟩ = some (.int .i64 q1) ∧ wr.cell? ⟨w.heap.size + 1, 5, none⟩ = some (.int .i64 q2) ∧ wr.cell? ⟨w.heap.size + 1, 6, none⟩ = some (.int .i64 r)) ∧ wr.cell? ⟨b, off + k * 9, none⟩ = some (.int .i64 ok)) := ⟨⟨l0, l1, l2⟩, ⟨t0, t1, t2, t3, t4, t5, t6⟩, c0⟩
      clear hbel hbw
      go_wp2_with fail
      clear l0 l1 l2 t0 t1 t2 t3 t4 t5 t6 c0
      refine wp_region_noPanic ?_
      refine region_until 99 (fun w' => (w'.cell? ⟨w.heap.size, 0, none⟩ = some v0 ∧ w'.cell? ⟨w.heap.size, 1, none⟩ = some (.slice (some ⟨b, off, none⟩) L.body.length cap) ∧ w'.cell? ⟨w.heap.size, 2, none⟩ = some v2) ∧ (w'.cell? ⟨w.heap.size + 1, 0, none⟩ = some (.int .i64 p0) ∧ w'.cell? ⟨w.heap.size + 1, 1, none⟩ = some (.int .i64 p1) ∧ w'.cell? ⟨w.heap.size + 1, 2, none⟩ = some (.int .i64 p2) ∧ w'.cell? ⟨w.heap.size + 1, 3, none⟩ = some (.int .i64 q0) ∧ w'.cell? ⟨w.heap.size + 1, 4, none⟩ = some (.int .i64 q1) ∧ w'.cell? ⟨w.heap.size + 1, 5, none⟩ = some (.int .i64 q2) ∧ w'.cell? ⟨w.heap.size + 1, 6, none⟩ = some (.int .i64 r)) ∧ w'.cell? ⟨b, off + k * 9, none⟩ = some (.int .i64 ok)) (by kernel_rfl) H0.out (fun hHeld => ?_)
      refine until_take (i := 0) (v := ?_) rfl (by kernel_rfl) (by kernel_rfl) (by kernel_rfl) (by kernel_rfl) (fun _ _ _ h => h) (Or.inl ⟨by rfl, ?_⟩) hHeld ?_
      rotate_left
      · intro w hSw
        try dsimp only at hSw
        go_simp
        try with_reducible rfl
      try simp only [Act.put, List.setIfInBounds_toArray, List.set_cons_zero, List.set_cons_succ]
      refine until_take (i := 1) (v := ?_) rfl (by kernel_rfl) (by kernel_rfl) (by kernel_rfl) (by kernel_rfl) (fun _ _ _ h => h) (Or.inl ⟨by rfl, ?_⟩) hHeld ?_
      rotate_left
      · intro w hSw
        try dsimp only at hSw
        go_simp
        try with_reducible rfl
      try simp only [Act.put, List.setIfInBounds_toArray, List.set_cons_zero, List.set_cons_succ]
      refine until_take (i := 2) (v := ?_) rfl (by kernel_rfl) (by kernel_rfl) (by kernel_rfl) (by kernel_rfl) (fun _ _ _ h => h) (Or.inl ⟨by rfl, ?_⟩) hHeld ?_
      rotate_left
      · intro w hSw
        try dsimp only at hSw
        go_simp
        try with_reducible rfl
      try simp only [Act.put, List.setIfInBounds_toArray, List.set_cons_zero, List.set_cons_succ]
      refine until_take (i := 3) (v := ?_) rfl (by kernel_rfl) (by kernel_rfl) (by kernel_rfl) (by kernel_rfl) (fun _ _ _ h => h) (Or.inl ⟨by rfl, ?_⟩) hHeld ?_
      rotate_left
      · intro w hSw
        try dsimp only at hSw
        go_simp
        try with_reducible rfl
      try simp only [Act.put, List.setIfInBounds_toArray, List.set_cons_zero, List.set_cons_succ]
      refine until_take (i := 4) (v := ?_) rfl (by kernel_rfl) (by kernel_rfl) (by kernel_rfl) (by kernel_rfl) (fun _ _ _ h => h) (Or.inl ⟨by rfl, ?_⟩) hHeld ?_
      rotate_left
      · intro w hSw
        try dsimp only at hSw
        go_simp
        try with_reducible rfl
      try simp only [Act.put, List.setIfInBounds_toArray, List.set_cons_zero, List.set_cons_succ]
      refine until_take (i := 5) (v := ?_) rfl (by kernel_rfl) (by kernel_rfl) (by kernel_rfl) (by kernel_rfl) (fun _ _ _ h => h) (Or.inl ⟨by rfl, ?_⟩) hHeld ?_
      rotate_left
      · intro w hSw
        try dsimp only at hSw
        go_simp
        try with_reducible rfl
      try simp only [Act.put, List.setIfInBounds_toArray, List.set_cons_zero, List.set_cons_succ]
      refine until_take (i := 6) (v := ?_) rfl (by kernel_rfl) (by kernel_rfl) (by kernel_rfl) (by kernel_rfl) (fun _ _ _ h => h) (Or.inl ⟨by rfl, ?_⟩) hHeld ?_
      rotate_left
      · intro w hSw
        try dsimp only at hSw
        go_simp
        try with_reducible rfl
      try simp only [Act.put, List.setIfInBounds_toArray, List.set_cons_zero, List.set_cons_succ]
      refine until_one (i := 7) rfl (by kernel_rfl) (fun K hK => ?_)
      go_simp
      refine (HWT.out _).mono ?_
      rintro e x2 ⟨rfl, hb2⟩
      have HB2 : Hid (Below wr.heap.size wr x2) := (Below.refl _ _).drew.trans hb2
      have hc2 := bcell HB2.out
      have hHeld2 : (x2.cell? ⟨w.heap.size, 0, none⟩ = some v0 ∧ x2.cell? ⟨w.heap.size, 1, none⟩ = some (.slice (some ⟨b, off, none⟩) L.body.length cap) ∧ x2.cell? ⟨w.heap.size, 2, none⟩ = some v2) ∧ (x2.cell? ⟨w.heap.size + 1, 0, none⟩ = some (.int .i64 p0) ∧ x2.cell? ⟨w.heap.size + 1, 1, none⟩ = some (.int .i64 p1) ∧ x2.cell? ⟨w.heap.size + 1, 2, none⟩ = some (.int .i64 p2) ∧ x2.cell? ⟨w.heap.size + 1, 3, none⟩ = some (.int .i64 q0) ∧ x2.cell? ⟨w.heap.size + 1, 4, none⟩ = some (.int .i64 q1) ∧ x2.cell? ⟨w.heap.size + 1, 5, none⟩ = some (.int .i64 q2) ∧ x2.cell? ⟨w.heap.size + 1, 6, none⟩ = some (.int .i64 r)) ∧ x2.cell? ⟨b, off + k * 9, none⟩ = some (.int .i64 ok) := by
        rw [hc2 _ _ z0, hc2 _ _ z0, hc2 _ _ z0, hc2 _ _ z1, hc2 _ _ z1, hc2 _ _ z1, hc2 _ _ z1, hc2 _ _ z1, hc2 _ _ z1, hc2 _ _ z1, hc2 _ _ hbz]
        exact H0.out
      clear hb2 hc2 hHeld
      refine hK.out _ _ (.inr hHeld2) ?_
      clear hK K
      try simp only [Act.put, List.setIfInBounds_toArray, List.set_cons_zero, List.set_cons_succ]
      refine until_one (i := 8) rfl (by kernel_rfl) (fun K hK => ?_)
      go_simp
      refine hK.out _ _ (.inr hHeld2) ?_
      clear hK K
      try simp only [Act.put, List.setIfInBounds_toArray, List.set_cons_zero, List.set_cons_succ]
      refine until_done (by kernel_rfl) ?_ _
      refine NoPanic.normal ?_
      clear hHeld2
      go_wp2_with fail
      go_roundw
      case rel => exact ⟨k + 1, by omega, by go_num, by rw [HST.out], HB.out.trans (HB2.out.mono (by omega))⟩
      case measure => simp [intOf]; omega
    · have e : k = L.body.length := by omega
      subst e
      have hki : ¬ (L.body.length : Int) < (L.body.length : Int) := by omega
      clear hbel hbw
      go_wp2_with fail
      go_ret
      exact ⟨rfl, HBW.out⟩
theorem all_any (t : Tg) (L : Lp) (v : Value) (w : World) (hL : LoopV w v L) (hm : mayB L = true) (hmt : mayT t = true) :
    Calls Try.prog 11 #[v, .agg t.cells] w fun e w' => e = .returned (.int .i64 (allW L t)) ∧ Below w.heap.size w w' := by
  obtain ⟨-, h1, h16, -⟩ := may_parts hm
  obtain ⟨v0, v1, v2, rfl, -, ⟨a, cap, rfl, hl, hc, h4⟩, -⟩ := hL
  obtain ⟨b, off, rfl, hb, hcell⟩ := h4 (by omega)
  obtain ⟨p0, p1, p2, q0, q1, q2, r⟩ := t
  exact all_walk p0 p1 p2 q0 q1 q2 r L v0 v2 b off cap w hl (by unfold maxLen at hc; omega) hb hcell h16 hmt
end Go.Proofs.Yteijdgeaegpdmab
