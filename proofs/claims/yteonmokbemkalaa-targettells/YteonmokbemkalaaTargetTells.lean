/- TargetTells' walk: for every machine and Op the law returns true; nothing that was there is changed. -/
import Derived.Test.YteonmokbemkalaaTarget
namespace Go.Proofs.Yteonmokbemkalaa
open Go.RowKit Go.Joins
set_option linter.unusedVariables false

set_option maxHeartbeats 400000 in
theorem targetTells_seven (p0 p1 p2 q0 q1 q2 r op : Int) (w : World) :
    Calls Try.prog 8 #[.agg #[.int .i64 p0, .int .i64 p1, .int .i64 p2, .int .i64 q0, .int .i64 q1, .int .i64 q2, .int .i64 r], .int .i64 op] w fun e w' => e = .returned (.bool true) ∧ Below w.heap.size w w' := by
  have H1 := hide (pmay_seven p0 p1 p2 q0 q1 q2 r)
  have H2 := hide (pwait_seven p0 p1 p2 q0 q1 q2 r op)
  have H3 := hide (tmay_seven p0 p1 p2 q0 q1 q2 r)
  have H4 := hide (twait_seven p0 p1 p2 q0 q1 q2 r op)
  go_enter Try.func8, Try.ntmps8
  go_wp2_with fail
  refine (H1.out _).mono ?_
  rintro e x1 ⟨rfl, hb1⟩
  have hc1 := bcell hb1
  have hw1 : Below w.heap.size w x1 := (below_alloc1 _ _).trans (hb1.mono (by simp))
  have hz1 : w.heap.size < x1.heap.size := by have := hb1.size; simp at this; omega
  go_wp2_with fail
  refine (H2.out _).mono ?_
  rintro e x2 ⟨rfl, hb2⟩
  have hw2 : Below w.heap.size w x2 := hw1.trans (hb2.mono (by omega))
  have hz2 : w.heap.size < x2.heap.size := by have := hb2.size; omega
  have hc2 : ∀ b o, b < w.heap.size + 1 → x2.cell? ⟨b, o, none⟩ = x1.cell? ⟨b, o, none⟩ := fun b o h => bcell hb2 b o (by omega)
  go_wp2_with fail
  refine (H3.out _).mono ?_
  rintro e x3 ⟨rfl, hb3⟩
  have hw3 : Below w.heap.size w x3 := hw2.trans (hb3.mono (by omega))
  have hz3 : w.heap.size < x3.heap.size := by have := hb3.size; omega
  have hc3 : ∀ b o, b < w.heap.size + 1 → x3.cell? ⟨b, o, none⟩ = x2.cell? ⟨b, o, none⟩ := fun b o h => bcell hb3 b o (by omega)
  go_wp2_with fail
  refine (H4.out _).mono ?_
  rintro e x4 ⟨rfl, hb4⟩
  go_wp2_with fail
  go_ret
  exact ⟨by simp, hw3.trans (hb4.mono (by omega))⟩
theorem targetTells_any (t : Tg) (op : Int) (w : World) : Calls Try.prog 8 #[.agg t.cells, .int .i64 op] w fun e w' => e = .returned (.bool true) ∧ Below w.heap.size w w' :=
  targetTells_seven t.u0 t.u1 t.u2 t.w0 t.w1 t.w2 t.r op w
end Go.Proofs.Yteonmokbemkalaa
