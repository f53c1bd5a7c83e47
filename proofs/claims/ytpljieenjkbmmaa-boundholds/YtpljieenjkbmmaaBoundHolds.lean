/- BoundHolds' walk: for every loop, machine and plan in memory the law returns true, if the program's Bound answers as BoundC says; nothing that was there is changed. -/
import Derived.Test.YtpljieenjkbmmaaRef67
import Derived.Test.YtpljieenjkbmmaaRef8Legal
namespace Go.Proofs.Ytpljieenjkbmmaa
open Go.RowKit Go.Joins
set_option linter.unusedVariables false
set_option linter.unusedSimpArgs false
set_option maxRecDepth 8192

set_option maxHeartbeats 4000000 in
theorem boundHolds_walk (hBound : BoundC) (p0 p1 p2 q0 q1 q2 r : Int) (L : Lp) (a0 a1 a2 : Option Addr) (cap0 cap1 cap2 : Nat) (P : Int) (T : List Int) (ta : Option Addr) (tc : Nat) (w : World) (hL : LoopV w (.agg #[.slice a0 L.logs.length cap0, .slice a1 L.body.length cap1, .slice a2 L.outs.length cap2]) L) (hP : PlanV w (.agg #[.int .i64 P, .slice ta T.length tc]) P T) :
    Calls Try.prog 14 #[.agg #[.slice a0 L.logs.length cap0, .slice a1 L.body.length cap1, .slice a2 L.outs.length cap2], .agg #[.int .i64 p0, .int .i64 p1, .int .i64 p2, .int .i64 q0, .int .i64 q1, .int .i64 q2, .int .i64 r], .agg #[.int .i64 P, .slice ta T.length tc]] w fun e w' => e = .returned (.bool true) ∧ Below w.heap.size w w' := by
  have HBO := hide (fun W (h : LoopV W (.agg #[.slice a0 L.logs.length cap0, .slice a1 L.body.length cap1, .slice a2 L.outs.length cap2]) L) => hBound _ ⟨p0, p1, p2, q0, q1, q2, r⟩ L W h)
  have HLE := hide (fun W (h : LoopV W (.agg #[.slice a0 L.logs.length cap0, .slice a1 L.body.length cap1, .slice a2 L.outs.length cap2]) L) (h2 : PlanV W (.agg #[.int .i64 P, .slice ta T.length tc]) P T) => legal_any ⟨p0, p1, p2, q0, q1, q2, r⟩ L _ _ P T W h h2)
  have HL := hide hL
  have HP := hide hP
  clear hL hP
  cases hm : (mayB L && mayT ⟨p0, p1, p2, q0, q1, q2, r⟩) with
  | false =>
    have HBO2 : Hid (∀ W, LoopV W (.agg #[.slice a0 L.logs.length cap0, .slice a1 L.body.length cap1, .slice a2 L.outs.length cap2]) L → Calls Try.prog 46 #[.agg #[.slice a0 L.logs.length cap0, .slice a1 L.body.length cap1, .slice a2 L.outs.length cap2], .agg #[.int .i64 p0, .int .i64 p1, .int .i64 p2, .int .i64 q0, .int .i64 q1, .int .i64 q2, .int .i64 r]] W fun e w' => e = .returned (.tuple #[.int .i64 0, .int .i64 0, .int .i64 2]) ∧ Below W.heap.size W w') := fun W hW => by
      have h2 := HBO.out W hW
      rw [hm] at h2
      exact h2
    rw [legal_no (.inl hm)] at HLE
    clear hm HBO
    go_enter Try.func14, Try.ntmps14
    go_wp2_with fail
    refine (HBO2.out _ (HL.out.below (below_alloc3 _ _ _ _))).mono ?_
    rintro e x1 ⟨rfl, hbx⟩
    have hb3 : Below (w.heap.size + 1 + 1 + 1) (((w.alloc (.cells #[.slice a0 L.logs.length cap0, .slice a1 L.body.length cap1, .slice a2 L.outs.length cap2] 30)).alloc (.cells #[.int .i64 p0, .int .i64 p1, .int .i64 p2, .int .i64 q0, .int .i64 q1, .int .i64 q2, .int .i64 r] 49)).alloc (.cells #[.int .i64 P, .slice ta T.length tc] 86)) x1 := by
      have hs : (((w.alloc (.cells #[.slice a0 L.logs.length cap0, .slice a1 L.body.length cap1, .slice a2 L.outs.length cap2] 30)).alloc (.cells #[.int .i64 p0, .int .i64 p1, .int .i64 p2, .int .i64 q0, .int .i64 q1, .int .i64 q2, .int .i64 r] 49)).alloc (.cells #[.int .i64 P, .slice ta T.length tc] 86)).heap.size = w.heap.size + 1 + 1 + 1 := by simp
      rw [← hs]; exact hbx
    have HB1 := hide hb3
    obtain ⟨⟨l0, l1, l2⟩, ⟨t0, t1, t2, t3, t4, t5, t6⟩, ⟨k0, k1⟩, hz, hbw⟩ := lbox_cells hb3
    have HBW := hide hbw
    clear hbx hb3 hbw
    go_wp2_with fail
    refine (HLE.out _ (HL.out.below HBW.out) (HP.out.below HBW.out)).mono ?_
    rintro e x2 ⟨rfl, hbx⟩
    have hb4 := HB1.out.trans (hbx.mono (by have := HB1.out.size; simp at this; omega))
    clear l0 l1 l2 t0 t1 t2 t3 t4 t5 t6 k0 k1 hz
    obtain ⟨⟨l0, l1, l2⟩, ⟨t0, t1, t2, t3, t4, t5, t6⟩, ⟨k0, k1⟩, hz, hbw⟩ := lbox_cells hb4
    have HBW2 := hide hbw
    clear hbx hb4 hbw
    go_wp2_with fail
    go_ret
    exact ⟨rfl, HBW2.out⟩
  | true =>
    have hm2 : mayB L = true ∧ mayT ⟨p0, p1, p2, q0, q1, q2, r⟩ = true := by simpa using hm
    have HBO2 : Hid (∀ W, LoopV W (.agg #[.slice a0 L.logs.length cap0, .slice a1 L.body.length cap1, .slice a2 L.outs.length cap2]) L → Calls Try.prog 46 #[.agg #[.slice a0 L.logs.length cap0, .slice a1 L.body.length cap1, .slice a2 L.outs.length cap2], .agg #[.int .i64 p0, .int .i64 p1, .int .i64 p2, .int .i64 q0, .int .i64 q1, .int .i64 q2, .int .i64 r]] W fun e w' => e = .returned (.tuple #[.int .i64 (unitsB L ⟨p0, p1, p2, q0, q1, q2, r⟩), .int .i64 (roundsB L ⟨p0, p1, p2, q0, q1, q2, r⟩), .int .i64 0]) ∧ Below W.heap.size W w') := fun W hW => by
      have h2 := HBO.out W hW
      rw [hm] at h2
      exact h2
    have hu1 := units_pos L ⟨p0, p1, p2, q0, q1, q2, r⟩
    have hr1 := rounds_pos L ⟨p0, p1, p2, q0, q1, q2, r⟩ hm2.1
    cases hl : legalD L ⟨p0, p1, p2, q0, q1, q2, r⟩ P T with
    | false =>
      rw [hl] at HLE
      generalize unitsB L ⟨p0, p1, p2, q0, q1, q2, r⟩ = ub at *
      generalize roundsB L ⟨p0, p1, p2, q0, q1, q2, r⟩ = rb at *
      have hui : (1 : Int) ≤ (ub : Int) := by omega
      have hri : (1 : Int) ≤ (rb : Int) := by omega
      clear hm hm2 HBO hl
      go_enter Try.func14, Try.ntmps14
      go_wp2_with fail
      refine (HBO2.out _ (HL.out.below (below_alloc3 _ _ _ _))).mono ?_
      rintro e x1 ⟨rfl, hbx⟩
      have hb3 : Below (w.heap.size + 1 + 1 + 1) (((w.alloc (.cells #[.slice a0 L.logs.length cap0, .slice a1 L.body.length cap1, .slice a2 L.outs.length cap2] 30)).alloc (.cells #[.int .i64 p0, .int .i64 p1, .int .i64 p2, .int .i64 q0, .int .i64 q1, .int .i64 q2, .int .i64 r] 49)).alloc (.cells #[.int .i64 P, .slice ta T.length tc] 86)) x1 := by
        have hs : (((w.alloc (.cells #[.slice a0 L.logs.length cap0, .slice a1 L.body.length cap1, .slice a2 L.outs.length cap2] 30)).alloc (.cells #[.int .i64 p0, .int .i64 p1, .int .i64 p2, .int .i64 q0, .int .i64 q1, .int .i64 q2, .int .i64 r] 49)).alloc (.cells #[.int .i64 P, .slice ta T.length tc] 86)).heap.size = w.heap.size + 1 + 1 + 1 := by simp
        rw [← hs]; exact hbx
      have HB1 := hide hb3
      obtain ⟨⟨l0, l1, l2⟩, ⟨t0, t1, t2, t3, t4, t5, t6⟩, ⟨k0, k1⟩, hz, hbw⟩ := lbox_cells hb3
      have HBW := hide hbw
      clear hbx hb3 hbw
      go_wp2_with fail
      refine (HLE.out _ (HL.out.below HBW.out) (HP.out.below HBW.out)).mono ?_
      rintro e x2 ⟨rfl, hbx⟩
      have hb4 := HB1.out.trans (hbx.mono (by have := HB1.out.size; simp at this; omega))
      clear l0 l1 l2 t0 t1 t2 t3 t4 t5 t6 k0 k1 hz
      obtain ⟨⟨l0, l1, l2⟩, ⟨t0, t1, t2, t3, t4, t5, t6⟩, ⟨k0, k1⟩, hz, hbw⟩ := lbox_cells hb4
      have HBW2 := hide hbw
      clear hbx hb4 hbw
      go_wp2_with fail
      go_ret
      exact ⟨by simp, HBW2.out⟩
    | true =>
      rw [hl] at HLE
      obtain ⟨-, -, hP1, hP2, -⟩ := legal_parts hl
      obtain ⟨PN, rfl⟩ : ∃ PN : Nat, P = (PN : Int) := ⟨P.toNat, by omega⟩
      have hlu := legal_units hl
      have hlr := legal_rounds hl
      generalize unitsB L ⟨p0, p1, p2, q0, q1, q2, r⟩ = ub at *
      generalize roundsB L ⟨p0, p1, p2, q0, q1, q2, r⟩ = rb at *
      have hui : (1 : Int) ≤ (ub : Int) := by omega
      have hri : (1 : Int) ≤ (rb : Int) := by omega
      have hpu : (ub : Int) ≤ (PN : Int) := by omega
      have hpr : (rb : Int) ≤ (PN : Int) := by omega
      clear hm hm2 HBO hl
      go_enter Try.func14, Try.ntmps14
      go_wp2_with fail
      refine (HBO2.out _ (HL.out.below (below_alloc3 _ _ _ _))).mono ?_
      rintro e x1 ⟨rfl, hbx⟩
      have hb3 : Below (w.heap.size + 1 + 1 + 1) (((w.alloc (.cells #[.slice a0 L.logs.length cap0, .slice a1 L.body.length cap1, .slice a2 L.outs.length cap2] 30)).alloc (.cells #[.int .i64 p0, .int .i64 p1, .int .i64 p2, .int .i64 q0, .int .i64 q1, .int .i64 q2, .int .i64 r] 49)).alloc (.cells #[.int .i64 (PN : Int), .slice ta T.length tc] 86)) x1 := by
        have hs : (((w.alloc (.cells #[.slice a0 L.logs.length cap0, .slice a1 L.body.length cap1, .slice a2 L.outs.length cap2] 30)).alloc (.cells #[.int .i64 p0, .int .i64 p1, .int .i64 p2, .int .i64 q0, .int .i64 q1, .int .i64 q2, .int .i64 r] 49)).alloc (.cells #[.int .i64 (PN : Int), .slice ta T.length tc] 86)).heap.size = w.heap.size + 1 + 1 + 1 := by simp
        rw [← hs]; exact hbx
      have HB1 := hide hb3
      obtain ⟨⟨l0, l1, l2⟩, ⟨t0, t1, t2, t3, t4, t5, t6⟩, ⟨k0, k1⟩, hz, hbw⟩ := lbox_cells hb3
      have HBW := hide hbw
      clear hbx hb3 hbw
      go_wp2_with fail
      refine (HLE.out _ (HL.out.below HBW.out) (HP.out.below HBW.out)).mono ?_
      rintro e x2 ⟨rfl, hbx⟩
      have hb4 := HB1.out.trans (hbx.mono (by have := HB1.out.size; simp at this; omega))
      clear l0 l1 l2 t0 t1 t2 t3 t4 t5 t6 k0 k1 hz
      obtain ⟨⟨l0, l1, l2⟩, ⟨t0, t1, t2, t3, t4, t5, t6⟩, ⟨k0, k1⟩, hz, hbw⟩ := lbox_cells hb4
      have HBW2 := hide hbw
      clear hbx hb4 hbw
      go_wp2_with fail
      go_ret
      exact ⟨by simp, HBW2.out⟩
theorem boundHolds_any (hBound : BoundC) (v pv : Value) (t : Tg) (L : Lp) (P : Int) (T : List Int) (w : World) (hL : LoopV w v L) (hP : PlanV w pv P T) : Calls Try.prog 14 #[v, .agg t.cells, pv] w fun e w' => e = .returned (.bool true) ∧ Below w.heap.size w w' := by
  have hL' := hL
  obtain ⟨v0, v1, v2, rfl, ⟨a0, cap0, rfl, -⟩, ⟨a1, cap1, rfl, -⟩, ⟨a2, cap2, rfl, -⟩⟩ := hL'
  have hP' := hP
  obtain ⟨tv, rfl, ⟨ta, tc, rfl, -⟩⟩ := hP'
  obtain ⟨p0, p1, p2, q0, q1, q2, r⟩ := t
  exact boundHolds_walk hBound p0 p1 p2 q0 q1 q2 r L a0 a1 a2 cap0 cap1 cap2 P T ta tc w hL hP
end Go.Proofs.Ytpljieenjkbmmaa
