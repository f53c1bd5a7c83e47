/- DepTells' walk: for every loop and machine in memory the law returns true, if the program's Edges answers as EdgesC says; nothing that was there is changed. -/
import Derived.Test.YtpljieenjkbmmaaRef6Edges
import Derived.Test.YtpljieenjkbmmaaEdgesSame
import Derived.Test.YtpljieenjkbmmaaRef2May
namespace Go.Proofs.Ytpljieenjkbmmaa
open Go.RowKit Go.Joins
set_option linter.unusedVariables false

theorem redges_any (v : Value) (t : Tg) (L : Lp) (w : World) (hL : LoopV w v L) (hm : mayB L = true) :
    Calls Try.prog 44 #[v, .agg t.cells] w fun e w' => ∃ ev, e = .returned ev ∧ EdgesV w' ev (edgesD L t) ∧ Below w.heap.size w w' := by
  obtain ⟨m1, m2, m3, m4, m5, m6, m7⟩ := may_parts hm
  obtain ⟨v0, v1, v2, rfl, h0, ⟨a1, cap1, rfl, hl1, hm1, hc1⟩, h2⟩ := hL
  have h0' := h0
  obtain ⟨a0, cap0, rfl, hl0, hm0, -, -⟩ := h0'
  obtain ⟨b, off, rfl, hb, hcell⟩ := hc1 (by omega)
  unfold maxLen at hm0 hm1
  obtain ⟨p0, p1, p2, q0, q1, q2, r⟩ := t
  exact (redges_walk p0 p1 p2 q0 q1 q2 r L a0 cap0 b off cap1 v2 w hl0 (by omega) hl1 (by omega) hb hcell h0 hm m3).mono fun e w' ⟨ev, h1, h2, h3⟩ => ⟨ev, h1, EdgesV.of_own h2, h3⟩

set_option maxHeartbeats 400000 in
theorem rdmay_walk (p0 p1 p2 q0 q1 q2 r : Int) (L : Lp) (a0 a1 a2 : Option Addr) (cap0 cap1 cap2 : Nat) (w : World) (hL : LoopV w (.agg #[.slice a0 L.logs.length cap0, .slice a1 L.body.length cap1, .slice a2 L.outs.length cap2]) L) :
    Calls Try.prog 43 #[(.agg #[.slice a0 L.logs.length cap0, .slice a1 L.body.length cap1, .slice a2 L.outs.length cap2]), .agg #[.int .i64 p0, .int .i64 p1, .int .i64 p2, .int .i64 q0, .int .i64 q1, .int .i64 q2, .int .i64 r]] w fun e w' => e = .returned (.bool (mayB L && mayT ⟨p0, p1, p2, q0, q1, q2, r⟩)) ∧ Below w.heap.size w w' := by
  obtain ⟨mb, hmb⟩ : ∃ mb, mayB L = mb := ⟨_, rfl⟩
  have HM := hide (fun W (h : LoopV W (.agg #[.slice a0 L.logs.length cap0, .slice a1 L.body.length cap1, .slice a2 L.outs.length cap2]) L) => hmb ▸ rmay_any (.agg #[.slice a0 L.logs.length cap0, .slice a1 L.body.length cap1, .slice a2 L.outs.length cap2]) L W h)
  have HT := hide (tmay_seven p0 p1 p2 q0 q1 q2 r)
  rw [hmb]
  clear hmb
  cases mb with
  | false =>
    go_enter Try.func43, Try.ntmps43
    go_wp2_with fail
    refine (HM.out _ (hL.below (below_alloc2 _ _ _))).mono ?_
    rintro e x1 ⟨rfl, hb⟩
    have HB := hide ((below_alloc2 w _ _).trans (hb.mono (by simp; omega)))
    clear hb
    go_wp2_with fail
    go_ret
    exact ⟨by simp, HB.out⟩
  | true =>
    go_enter Try.func43, Try.ntmps43
    go_wp2_with fail
    refine (HM.out _ (hL.below (below_alloc2 _ _ _))).mono ?_
    rintro e x1 ⟨rfl, hb⟩
    have hb1 : Below (w.heap.size + 1 + 1) ((w.alloc (.cells #[.slice a0 L.logs.length cap0, .slice a1 L.body.length cap1, .slice a2 L.outs.length cap2] 30)).alloc (.cells #[.int .i64 p0, .int .i64 p1, .int .i64 p2, .int .i64 q0, .int .i64 q1, .int .i64 q2, .int .i64 r] 49)) x1 := by
      have hs : ((w.alloc (.cells #[.slice a0 L.logs.length cap0, .slice a1 L.body.length cap1, .slice a2 L.outs.length cap2] 30)).alloc (.cells #[.int .i64 p0, .int .i64 p1, .int .i64 p2, .int .i64 q0, .int .i64 q1, .int .i64 q2, .int .i64 r] 49)).heap.size = w.heap.size + 1 + 1 := by simp
      rw [← hs]; exact hb
    obtain ⟨⟨l0, l1, l2⟩, ⟨t0, t1, t2, t3, t4, t5, t6⟩, z0, z1, hbw⟩ := ebox_cells hb1
    have HB := hide hbw
    clear hb hb1 hbw
    go_wp2_with fail
    refine (HT.out _).mono ?_
    rintro e x2 ⟨rfl, hb⟩
    have HB2 := hide (HB.out.trans (hb.mono HB.out.size))
    clear hb
    go_wp2_with fail
    go_ret
    exact ⟨by simp, HB2.out⟩
/-- how the program tells edges -/
def EdgesC : Prop := ∀ (v : Value) (t : Tg) (L : Lp) (w : World), LoopV w v L →
  Calls Try.prog 42 #[v, .agg t.cells] w fun e w' => ∃ a n c, e = .returned (.tuple #[.slice a n c, .int .i64 (if (mayB L && mayT t) = true then 0 else 2)]) ∧ Below w.heap.size w w' ∧ ((mayB L && mayT t) = true → EdgesV w' (.slice a n c) (edgesD L t)) ∧ ((mayB L && mayT t) = false → n = 0)
theorem edgesC_no (hE : EdgesC) (v : Value) (t : Tg) (L : Lp) (w : World) (hL : LoopV w v L) (hm : (mayB L && mayT t) = false) :
    Calls Try.prog 42 #[v, .agg t.cells] w fun e w' => ∃ a c, e = .returned (.tuple #[.slice a 0 c, .int .i64 2]) ∧ Below w.heap.size w w' :=
  (hE v t L w hL).mono fun e w' ⟨a, n, c, h1, h2, h3, h4⟩ => by
    obtain rfl := h4 hm
    rw [hm] at h1
    exact ⟨a, c, h1, h2⟩
theorem edgesC_yes (hE : EdgesC) (v : Value) (t : Tg) (L : Lp) (w : World) (hL : LoopV w v L) (hm : (mayB L && mayT t) = true) :
    Calls Try.prog 42 #[v, .agg t.cells] w fun e w' => ∃ a n c, e = .returned (.tuple #[.slice a n c, .int .i64 0]) ∧ EdgesV w' (.slice a n c) (edgesD L t) ∧ Below w.heap.size w w' :=
  (hE v t L w hL).mono fun e w' ⟨a, n, c, h1, h2, h3, h4⟩ => by
    rw [hm] at h1
    exact ⟨a, n, c, h1, h3 hm, h2⟩

set_option maxHeartbeats 1000000 in
theorem depTells_walk (hE : EdgesC) (p0 p1 p2 q0 q1 q2 r : Int) (L : Lp) (a0 a1 a2 : Option Addr) (cap0 cap1 cap2 : Nat) (w : World) (hL : LoopV w (.agg #[.slice a0 L.logs.length cap0, .slice a1 L.body.length cap1, .slice a2 L.outs.length cap2]) L) :
    Calls Try.prog 11 #[(.agg #[.slice a0 L.logs.length cap0, .slice a1 L.body.length cap1, .slice a2 L.outs.length cap2]), .agg #[.int .i64 p0, .int .i64 p1, .int .i64 p2, .int .i64 q0, .int .i64 q1, .int .i64 q2, .int .i64 r]] w fun e w' => e = .returned (.bool true) ∧ Below w.heap.size w w' := by
  have HMY := hide (fun W (h : LoopV W (.agg #[.slice a0 L.logs.length cap0, .slice a1 L.body.length cap1, .slice a2 L.outs.length cap2]) L) => rdmay_walk p0 p1 p2 q0 q1 q2 r L a0 a1 a2 cap0 cap1 cap2 W h)
  have hs : ((w.alloc (.cells #[.slice a0 L.logs.length cap0, .slice a1 L.body.length cap1, .slice a2 L.outs.length cap2] 30)).alloc (.cells #[.int .i64 p0, .int .i64 p1, .int .i64 p2, .int .i64 q0, .int .i64 q1, .int .i64 q2, .int .i64 r] 49)).heap.size = w.heap.size + 1 + 1 := by simp
  have HS := hide hs
  obtain ⟨mb, hmb⟩ : ∃ mb, (mayB L && mayT ⟨p0, p1, p2, q0, q1, q2, r⟩) = mb := ⟨_, rfl⟩
  rw [hmb] at HMY
  have HMB := hide hmb
  clear hs hmb
  cases mb with
  | false =>
    go_enter Try.func11, Try.ntmps11
    go_wp2_with fail
    refine (edgesC_no hE (.agg #[.slice a0 L.logs.length cap0, .slice a1 L.body.length cap1, .slice a2 L.outs.length cap2]) ⟨p0, p1, p2, q0, q1, q2, r⟩ L _ (hL.below (below_alloc2 _ _ _)) HMB.out).mono ?_
    rintro e x1 ⟨ea, ec, rfl, hb⟩
    have HB1 : Hid (Below (w.heap.size + 1 + 1) ((w.alloc (.cells #[.slice a0 L.logs.length cap0, .slice a1 L.body.length cap1, .slice a2 L.outs.length cap2] 30)).alloc (.cells #[.int .i64 p0, .int .i64 p1, .int .i64 p2, .int .i64 q0, .int .i64 q1, .int .i64 q2, .int .i64 r] 49)) x1) := by show Below _ _ _; rw [← HS.out]; exact hb
    obtain ⟨⟨l0, l1, l2⟩, ⟨t0, t1, t2, t3, t4, t5, t6⟩, z0, z1, hbw⟩ := ebox_cells HB1.out
    have HW1 := hide hbw
    clear hb hbw
    go_wp2_with fail
    refine (HMY.out _ (hL.below HW1.out)).mono ?_
    rintro e x2 ⟨rfl, hb⟩
    have HW2 := hide (HW1.out.trans (hb.mono HW1.out.size))
    clear hb
    go_wp2_with fail
    go_ret
    exact ⟨by simp, HW2.out⟩
  | true =>
    have HMM : Hid (mayB L = true) := by
      have h := HMB.out
      rw [Bool.and_eq_true] at h
      exact h.1
    go_enter Try.func11, Try.ntmps11
    go_wp2_with fail
    refine (edgesC_yes hE (.agg #[.slice a0 L.logs.length cap0, .slice a1 L.body.length cap1, .slice a2 L.outs.length cap2]) ⟨p0, p1, p2, q0, q1, q2, r⟩ L _ (hL.below (below_alloc2 _ _ _)) HMB.out).mono ?_
    rintro e x1 ⟨ea, en, ec, rfl, hev, hb⟩
    have HB1 : Hid (Below (w.heap.size + 1 + 1) ((w.alloc (.cells #[.slice a0 L.logs.length cap0, .slice a1 L.body.length cap1, .slice a2 L.outs.length cap2] 30)).alloc (.cells #[.int .i64 p0, .int .i64 p1, .int .i64 p2, .int .i64 q0, .int .i64 q1, .int .i64 q2, .int .i64 r] 49)) x1) := by show Below _ _ _; rw [← HS.out]; exact hb
    obtain ⟨⟨l0, l1, l2⟩, ⟨t0, t1, t2, t3, t4, t5, t6⟩, z0, z1, hbw⟩ := ebox_cells HB1.out
    have HW1 := hide hbw
    have HEV := hide hev
    clear hb hbw hev
    go_wp2_with fail
    refine (HMY.out _ (hL.below HW1.out)).mono ?_
    rintro e x2 ⟨rfl, hb⟩
    have HB2 := hide (HB1.out.trans (hb.mono (by have := HB1.out.size; rw [HS.out] at this; omega)))
    have HEV2 := hide (HEV.out.below hb)
    clear l0 l1 l2 t0 t1 t2 t3 t4 t5 t6 z0 z1
    obtain ⟨⟨l0, l1, l2⟩, ⟨t0, t1, t2, t3, t4, t5, t6⟩, z0, z1, hbw⟩ := ebox_cells HB2.out
    have HW2 := hide hbw
    clear hb hbw
    go_wp2_with fail
    refine (redges_any (.agg #[.slice a0 L.logs.length cap0, .slice a1 L.body.length cap1, .slice a2 L.outs.length cap2]) ⟨p0, p1, p2, q0, q1, q2, r⟩ L _ (hL.below HW2.out) HMM.out).mono ?_
    rintro e x3 ⟨ev, rfl, hv, hb⟩
    have HEV3 := hide (HEV2.out.below hb)
    have HV3 := hide hv
    have HW3 := hide (HW2.out.trans (hb.mono HW2.out.size))
    clear hb hv
    clear l0 l1 l2 t0 t1 t2 t3 t4 t5 t6 z0 z1
    go_wp2_with fail
    refine (edges_same _ _ _ _ HEV3.out HV3.out).mono ?_
    rintro e x4 ⟨rfl, n4, rfl⟩
    go_wp2_with fail
    go_ret
    exact ⟨by simp, HW3.out.trans (below_draws _ _ _)⟩
theorem depTells_any (hE : EdgesC) (v : Value) (t : Tg) (L : Lp) (w : World) (hL : LoopV w v L) :
    Calls Try.prog 11 #[v, .agg t.cells] w fun e w' => e = .returned (.bool true) ∧ Below w.heap.size w w' := by
  obtain ⟨p0, p1, p2, q0, q1, q2, r⟩ := t
  have hL' := hL
  obtain ⟨v0, v1, v2, rfl, ⟨a0, cap0, rfl, -⟩, ⟨a1, cap1, rfl, -⟩, ⟨a2, cap2, rfl, -⟩⟩ := hL'
  exact depTells_walk hE p0 p1 p2 q0 q1 q2 r L a0 a1 a2 cap0 cap1 cap2 w hL
end Go.Proofs.Ytpljieenjkbmmaa
