/- BoundTells' walk: for every loop and machine in memory the law returns true, if the program's Bound answers as BoundC says; nothing that was there is changed. -/
import Derived.Test.YtpljieenjkbmmaaRef7Units
import Derived.Test.YtpljieenjkbmmaaRef7Least
namespace Go.Proofs.Ytpljieenjkbmmaa
open Go.RowKit Go.Joins
set_option linter.unusedVariables false
set_option linter.unusedSimpArgs false
set_option maxRecDepth 8192

/-- how the program tells the least paces -/
def BoundC : Prop := ∀ (v : Value) (t : Tg) (L : Lp) (w : World), LoopV w v L →
  Calls Try.prog 46 #[v, .agg t.cells] w fun e w' => (if (mayB L && mayT t) = true then e = .returned (.tuple #[.int .i64 (unitsB L t), .int .i64 (roundsB L t), .int .i64 0]) else e = .returned (.tuple #[.int .i64 0, .int .i64 0, .int .i64 2])) ∧ Below w.heap.size w w'
theorem units7_any (t : Tg) (L : Lp) (v : Value) (w : World) (hL : LoopV w v L) (hm : mayB L = true) (hmt : mayT t = true) :
    Calls Try.prog 47 #[v, .agg t.cells] w fun e w' => e = .returned (.int .i64 (unitsB L t)) ∧ Below w.heap.size w w' := by
  obtain ⟨-, h1, h16, -⟩ := may_parts hm
  obtain ⟨v0, v1, v2, rfl, -, ⟨a, cap, rfl, hl, hc, h4⟩, -⟩ := hL
  obtain ⟨b, off, rfl, hb, hcell⟩ := h4 (by omega)
  obtain ⟨p0, p1, p2, q0, q1, q2, r⟩ := t
  exact units7_walk p0 p1 p2 q0 q1 q2 r L v0 v2 b off cap w hl (by unfold maxLen at hc; omega) hb hcell h16 hmt
theorem least7_any (t : Tg) (L : Lp) (v : Value) (w : World) (hL : LoopV w v L) (hm : mayB L = true) :
    Calls Try.prog 48 #[v, .agg t.cells] w fun e w' => e = .returned (.int .i64 (roundsB L t)) ∧ Below w.heap.size w w' := by
  have hL' := hL
  obtain ⟨v0, v1, v2, rfl, -, ⟨a, cap, rfl, hl, hc, h4⟩, -⟩ := hL'
  obtain ⟨p0, p1, p2, q0, q1, q2, r⟩ := t
  exact least7_walk p0 p1 p2 q0 q1 q2 r L v0 v2 a cap w hL hm

set_option maxHeartbeats 4000000 in
theorem boundTells_walk (hBound : BoundC) (p0 p1 p2 q0 q1 q2 r : Int) (L : Lp) (a0 a1 a2 : Option Addr) (cap0 cap1 cap2 : Nat) (w : World) (hL : LoopV w (.agg #[.slice a0 L.logs.length cap0, .slice a1 L.body.length cap1, .slice a2 L.outs.length cap2]) L) :
    Calls Try.prog 13 #[.agg #[.slice a0 L.logs.length cap0, .slice a1 L.body.length cap1, .slice a2 L.outs.length cap2], .agg #[.int .i64 p0, .int .i64 p1, .int .i64 p2, .int .i64 q0, .int .i64 q1, .int .i64 q2, .int .i64 r]] w fun e w' => e = .returned (.bool true) ∧ Below w.heap.size w w' := by
  have HBO := hide (fun W (h : LoopV W (.agg #[.slice a0 L.logs.length cap0, .slice a1 L.body.length cap1, .slice a2 L.outs.length cap2]) L) => hBound _ ⟨p0, p1, p2, q0, q1, q2, r⟩ L W h)
  have HMAY := hide (fun W (h : LoopV W (.agg #[.slice a0 L.logs.length cap0, .slice a1 L.body.length cap1, .slice a2 L.outs.length cap2]) L) => rdmay_walk p0 p1 p2 q0 q1 q2 r L a0 a1 a2 cap0 cap1 cap2 W h)
  have HL := hide hL
  clear hL
  cases h : (mayB L && mayT ⟨p0, p1, p2, q0, q1, q2, r⟩) with
  | false =>
    rw [h] at HMAY
    have HBO2 : Hid (∀ W, LoopV W (.agg #[.slice a0 L.logs.length cap0, .slice a1 L.body.length cap1, .slice a2 L.outs.length cap2]) L → Calls Try.prog 46 #[.agg #[.slice a0 L.logs.length cap0, .slice a1 L.body.length cap1, .slice a2 L.outs.length cap2], .agg #[.int .i64 p0, .int .i64 p1, .int .i64 p2, .int .i64 q0, .int .i64 q1, .int .i64 q2, .int .i64 r]] W fun e w' => e = .returned (.tuple #[.int .i64 0, .int .i64 0, .int .i64 2]) ∧ Below W.heap.size W w') := fun W hW => by
      have h2 := HBO.out W hW
      rw [h] at h2
      exact h2
    clear h HBO
    go_enter Try.func13, Try.ntmps13
    go_wp2_with fail
    refine (HBO2.out _ (HL.out.below (below_alloc2 _ _ _))).mono ?_
    rintro e x1 ⟨rfl, hb⟩
    have hb1 : Below (w.heap.size + 1 + 1) ((w.alloc (.cells #[.slice a0 L.logs.length cap0, .slice a1 L.body.length cap1, .slice a2 L.outs.length cap2] 30)).alloc (.cells #[.int .i64 p0, .int .i64 p1, .int .i64 p2, .int .i64 q0, .int .i64 q1, .int .i64 q2, .int .i64 r] 49)) x1 := by
      have hs : ((w.alloc (.cells #[.slice a0 L.logs.length cap0, .slice a1 L.body.length cap1, .slice a2 L.outs.length cap2] 30)).alloc (.cells #[.int .i64 p0, .int .i64 p1, .int .i64 p2, .int .i64 q0, .int .i64 q1, .int .i64 q2, .int .i64 r] 49)).heap.size = w.heap.size + 1 + 1 := by simp
      rw [← hs]; exact hb
    obtain ⟨⟨l0, l1, l2⟩, ⟨t0, t1, t2, t3, t4, t5, t6⟩, z0, z1, hbw⟩ := ebox_cells hb1
    have HB := hide hbw
    clear hb hb1 hbw
    go_wp2_with fail
    refine (HMAY.out _ (HL.out.below HB.out)).mono ?_
    rintro e x2 ⟨rfl, hb⟩
    have HB2 := hide (HB.out.trans (hb.mono HB.out.size))
    clear hb
    go_wp2_with fail
    go_ret
    exact ⟨rfl, HB2.out⟩
  | true =>
    have hm : mayB L = true ∧ mayT ⟨p0, p1, p2, q0, q1, q2, r⟩ = true := by simpa using h
    rw [h] at HMAY
    have HBO2 : Hid (∀ W, LoopV W (.agg #[.slice a0 L.logs.length cap0, .slice a1 L.body.length cap1, .slice a2 L.outs.length cap2]) L → Calls Try.prog 46 #[.agg #[.slice a0 L.logs.length cap0, .slice a1 L.body.length cap1, .slice a2 L.outs.length cap2], .agg #[.int .i64 p0, .int .i64 p1, .int .i64 p2, .int .i64 q0, .int .i64 q1, .int .i64 q2, .int .i64 r]] W fun e w' => e = .returned (.tuple #[.int .i64 (unitsB L ⟨p0, p1, p2, q0, q1, q2, r⟩), .int .i64 (roundsB L ⟨p0, p1, p2, q0, q1, q2, r⟩), .int .i64 0]) ∧ Below W.heap.size W w') := fun W hW => by
      have h2 := HBO.out W hW
      rw [h] at h2
      exact h2
    have HUN := hide (fun W (h : LoopV W (.agg #[.slice a0 L.logs.length cap0, .slice a1 L.body.length cap1, .slice a2 L.outs.length cap2]) L) => units7_any ⟨p0, p1, p2, q0, q1, q2, r⟩ L _ W h hm.1 hm.2)
    have HLE := hide (fun W (h : LoopV W (.agg #[.slice a0 L.logs.length cap0, .slice a1 L.body.length cap1, .slice a2 L.outs.length cap2]) L) => least7_any ⟨p0, p1, p2, q0, q1, q2, r⟩ L _ W h hm.1)
    generalize unitsB L ⟨p0, p1, p2, q0, q1, q2, r⟩ = ub at *
    generalize roundsB L ⟨p0, p1, p2, q0, q1, q2, r⟩ = rb at *
    clear h HBO hm
    go_enter Try.func13, Try.ntmps13
    go_wp2_with fail
    refine (HBO2.out _ (HL.out.below (below_alloc2 _ _ _))).mono ?_
    rintro e x1 ⟨rfl, hb⟩
    have hb1 : Below (w.heap.size + 1 + 1) ((w.alloc (.cells #[.slice a0 L.logs.length cap0, .slice a1 L.body.length cap1, .slice a2 L.outs.length cap2] 30)).alloc (.cells #[.int .i64 p0, .int .i64 p1, .int .i64 p2, .int .i64 q0, .int .i64 q1, .int .i64 q2, .int .i64 r] 49)) x1 := by
      have hs : ((w.alloc (.cells #[.slice a0 L.logs.length cap0, .slice a1 L.body.length cap1, .slice a2 L.outs.length cap2] 30)).alloc (.cells #[.int .i64 p0, .int .i64 p1, .int .i64 p2, .int .i64 q0, .int .i64 q1, .int .i64 q2, .int .i64 r] 49)).heap.size = w.heap.size + 1 + 1 := by simp
      rw [← hs]; exact hb
    have HB1 := hide hb1
    obtain ⟨⟨l0, l1, l2⟩, ⟨t0, t1, t2, t3, t4, t5, t6⟩, z0, z1, hbw⟩ := ebox_cells hb1
    have HB := hide hbw
    clear hb hb1 hbw
    go_wp2_with fail
    refine (HMAY.out _ (HL.out.below HB.out)).mono ?_
    rintro e x2 ⟨rfl, hb⟩
    have hb2 := HB1.out.trans (hb.mono (by have := HB1.out.size; simp at this; omega))
    have HB2 := hide hb2
    clear l0 l1 l2 t0 t1 t2 t3 t4 t5 t6 z0 z1
    obtain ⟨⟨l0, l1, l2⟩, ⟨t0, t1, t2, t3, t4, t5, t6⟩, z0, z1, hbw⟩ := ebox_cells hb2
    have HBW2 := hide hbw
    clear hb hb2 hbw
    go_wp2_with fail
    refine (HUN.out _ (HL.out.below HBW2.out)).mono ?_
    rintro e x3 ⟨rfl, hb⟩
    have hb3 := HB2.out.trans (hb.mono (by have := HB2.out.size; simp at this; omega))
    have HB3 := hide hb3
    clear l0 l1 l2 t0 t1 t2 t3 t4 t5 t6 z0 z1
    obtain ⟨⟨l0, l1, l2⟩, ⟨t0, t1, t2, t3, t4, t5, t6⟩, z0, z1, hbw⟩ := ebox_cells hb3
    have HBW3 := hide hbw
    clear hb hb3 hbw
    go_wp2_with fail
    refine (HLE.out _ (HL.out.below HBW3.out)).mono ?_
    rintro e x4 ⟨rfl, hb⟩
    have HBW4 := hide (HBW3.out.trans (hb.mono HBW3.out.size))
    clear hb
    go_wp2_with fail
    go_ret
    exact ⟨by simp, HBW4.out⟩
theorem boundTells_any (hBound : BoundC) (v : Value) (t : Tg) (L : Lp) (w : World) (hL : LoopV w v L) : Calls Try.prog 13 #[v, .agg t.cells] w fun e w' => e = .returned (.bool true) ∧ Below w.heap.size w w' := by
  have hL' := hL
  obtain ⟨v0, v1, v2, rfl, ⟨a0, cap0, rfl, -⟩, ⟨a1, cap1, rfl, -⟩, ⟨a2, cap2, rfl, -⟩⟩ := hL'
  obtain ⟨p0, p1, p2, q0, q1, q2, r⟩ := t
  exact boundTells_walk hBound p0 p1 p2 q0 q1 q2 r L a0 a1 a2 cap0 cap1 cap2 w hL
end Go.Proofs.Ytpljieenjkbmmaa
