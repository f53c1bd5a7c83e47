/- SchedLegal's walk: for every loop, machine and plan in memory the law returns true, if the program's Legal answers as SLegalC says; nothing that was there is changed. -/
import Derived.Test.YteijdgeaegpdmabRef8Legal
namespace Go.Proofs.Yteijdgeaegpdmab
open Go.RowKit Go.Joins
set_option linter.unusedVariables false
set_option linter.unusedSimpArgs false
set_option maxRecDepth 8192

/-- how the program tells whether a plan is legal -/
def SLegalC : Prop := ∀ (v pv : Value) (t : Tg) (L : Lp) (P : Int) (T : List Int) (w : World), LoopV w v L → PlanV w pv P T →
  Calls Try.prog 7 #[v, .agg t.cells, pv] w fun e w' => e = .returned (.bool (legalD L t P T)) ∧ Below w.heap.size w w'
set_option maxHeartbeats 2000000 in
theorem schedLegal_walk (hLegal : SLegalC) (p0 p1 p2 q0 q1 q2 r : Int) (L : Lp) (a0 a1 a2 : Option Addr) (cap0 cap1 cap2 : Nat) (P : Int) (T : List Int) (ta : Option Addr) (tc : Nat) (w : World) (hL : LoopV w (.agg #[.slice a0 L.logs.length cap0, .slice a1 L.body.length cap1, .slice a2 L.outs.length cap2]) L) (hP : PlanV w (.agg #[.int .i64 P, .slice ta T.length tc]) P T) :
    Calls Try.prog 3 #[.agg #[.slice a0 L.logs.length cap0, .slice a1 L.body.length cap1, .slice a2 L.outs.length cap2], .agg #[.int .i64 p0, .int .i64 p1, .int .i64 p2, .int .i64 q0, .int .i64 q1, .int .i64 q2, .int .i64 r], .agg #[.int .i64 P, .slice ta T.length tc]] w fun e w' => e = .returned (.bool true) ∧ Below w.heap.size w w' := by
  have HPR := hide (fun W (h : LoopV W (.agg #[.slice a0 L.logs.length cap0, .slice a1 L.body.length cap1, .slice a2 L.outs.length cap2]) L) (h2 : PlanV W (.agg #[.int .i64 P, .slice ta T.length tc]) P T) => hLegal _ _ ⟨p0, p1, p2, q0, q1, q2, r⟩ L P T W h h2)
  have HDO := hide (fun W (h : LoopV W (.agg #[.slice a0 L.logs.length cap0, .slice a1 L.body.length cap1, .slice a2 L.outs.length cap2]) L) (h2 : PlanV W (.agg #[.int .i64 P, .slice ta T.length tc]) P T) => legal_any ⟨p0, p1, p2, q0, q1, q2, r⟩ L _ _ P T W h h2)
  generalize legalD L ⟨p0, p1, p2, q0, q1, q2, r⟩ P T = lb at *
  have HL := hide hL
  have HP := hide hP
  clear hL hP
  go_enter Try.func3, Try.ntmps3
  go_wp2_with fail
  refine (HPR.out _ (HL.out.below (below_alloc3 _ _ _ _)) (HP.out.below (below_alloc3 _ _ _ _))).mono ?_
  rintro e x1 ⟨rfl, hbx⟩
  have hb3 : Below (w.heap.size + 1 + 1 + 1) (((w.alloc (.cells #[.slice a0 L.logs.length cap0, .slice a1 L.body.length cap1, .slice a2 L.outs.length cap2] 25)).alloc (.cells #[.int .i64 p0, .int .i64 p1, .int .i64 p2, .int .i64 q0, .int .i64 q1, .int .i64 q2, .int .i64 r] 28)).alloc (.cells #[.int .i64 P, .slice ta T.length tc] 30)) x1 := by
    have hs : (((w.alloc (.cells #[.slice a0 L.logs.length cap0, .slice a1 L.body.length cap1, .slice a2 L.outs.length cap2] 25)).alloc (.cells #[.int .i64 p0, .int .i64 p1, .int .i64 p2, .int .i64 q0, .int .i64 q1, .int .i64 q2, .int .i64 r] 28)).alloc (.cells #[.int .i64 P, .slice ta T.length tc] 30)).heap.size = w.heap.size + 1 + 1 + 1 := by simp
    rw [← hs]; exact hbx
  obtain ⟨⟨l0, l1, l2⟩, ⟨t0, t1, t2, t3, t4, t5, t6⟩, ⟨k0, k1⟩, hz, hbw⟩ := lbox_cells hb3
  have HBW := hide hbw
  clear hbx hb3 hbw
  go_wp2_with fail
  refine (HDO.out _ (HL.out.below HBW.out) (HP.out.below HBW.out)).mono ?_
  rintro e x2 ⟨rfl, hbx⟩
  have HBW2 := hide (HBW.out.trans (hbx.mono HBW.out.size))
  clear hbx
  go_wp2_with fail
  go_ret
  exact ⟨by simp, HBW2.out⟩
theorem schedLegal_any (hLegal : SLegalC) (v pv : Value) (t : Tg) (L : Lp) (P : Int) (T : List Int) (w : World) (hL : LoopV w v L) (hP : PlanV w pv P T) : Calls Try.prog 3 #[v, .agg t.cells, pv] w fun e w' => e = .returned (.bool true) ∧ Below w.heap.size w w' := by
  have hL' := hL
  obtain ⟨v0, v1, v2, rfl, ⟨a0, cap0, rfl, -⟩, ⟨a1, cap1, rfl, -⟩, ⟨a2, cap2, rfl, -⟩⟩ := hL'
  have hP' := hP
  obtain ⟨tv, rfl, ⟨ta, tc, rfl, -⟩⟩ := hP'
  obtain ⟨p0, p1, p2, q0, q1, q2, r⟩ := t
  exact schedLegal_walk hLegal p0 p1 p2 q0 q1 q2 r L a0 a1 a2 cap0 cap1 cap2 P T ta tc w hL hP
end Go.Proofs.Yteijdgeaegpdmab
