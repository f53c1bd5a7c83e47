/- Ref67: texts that are built as one: Ref6Edges, DepMay, Ref7Units, Ref7Rounds, Ref7Least, BoundSay. -/
import Derived.Test.YtbpaffkkphacdabGreatRef6Is
import Derived.Test.YtbpaffkkphacdabGreatRounds
import Derived.Test.YtbpaffkkphacdabGreatRef2L
import Derived.Test.YtbpaffkkphacdabGreatBase
import Derived.Deep.QuietTactic
import Derived.BigQuiet
/- The contract of the document's own edges: all that there are; nothing that was there is changed. -/
namespace Go.Proofs.YtbpaffkkphacdabGreat
open Go.RowKit Go.Joins
set_option linter.unusedVariables false

theorem Tryz.i135 : (Tryz.prog.info? 135).map (fun i => (i.zero, i.size, i.bytes)) = some (some (.agg #[.int .i64 0, .int .i64 0, .int .i64 0, .int .i64 0]), 4, 32) := by kernel_rfl

theorem ebox_cells {w wr : World} {v0 v1 v2 : Value} {p0 p1 p2 q0 q1 q2 r : Int} {ta tb : TypeId} (h : Below (w.heap.size + 1 + 1) ((w.alloc (.cells #[v0, v1, v2] ta)).alloc (.cells #[.int .i64 p0, .int .i64 p1, .int .i64 p2, .int .i64 q0, .int .i64 q1, .int .i64 q2, .int .i64 r] tb)) wr) :
    (wr.cell? ⟨w.heap.size, 0, none⟩ = some v0 ∧ wr.cell? ⟨w.heap.size, 1, none⟩ = some v1 ∧ wr.cell? ⟨w.heap.size, 2, none⟩ = some v2) ∧
    (wr.cell? ⟨w.heap.size + 1, 0, none⟩ = some (.int .i64 p0) ∧ wr.cell? ⟨w.heap.size + 1, 1, none⟩ = some (.int .i64 p1) ∧ wr.cell? ⟨w.heap.size + 1, 2, none⟩ = some (.int .i64 p2) ∧ wr.cell? ⟨w.heap.size + 1, 3, none⟩ = some (.int .i64 q0) ∧ wr.cell? ⟨w.heap.size + 1, 4, none⟩ = some (.int .i64 q1) ∧ wr.cell? ⟨w.heap.size + 1, 5, none⟩ = some (.int .i64 q2) ∧ wr.cell? ⟨w.heap.size + 1, 6, none⟩ = some (.int .i64 r)) ∧ w.heap.size < wr.heap.size ∧ w.heap.size + 1 < wr.heap.size ∧ Below w.heap.size w wr := by
  have hs : ((w.alloc (.cells #[v0, v1, v2] ta)).alloc (.cells #[.int .i64 p0, .int .i64 p1, .int .i64 p2, .int .i64 q0, .int .i64 q1, .int .i64 q2, .int .i64 r] tb)).heap.size = w.heap.size + 1 + 1 := by simp
  have hz := h.size
  have h' : Below ((w.alloc (.cells #[v0, v1, v2] ta)).alloc (.cells #[.int .i64 p0, .int .i64 p1, .int .i64 p2, .int .i64 q0, .int .i64 q1, .int .i64 q2, .int .i64 r] tb)).heap.size ((w.alloc (.cells #[v0, v1, v2] ta)).alloc (.cells #[.int .i64 p0, .int .i64 p1, .int .i64 p2, .int .i64 q0, .int .i64 q1, .int .i64 q2, .int .i64 r] tb)) wr := by rw [hs]; exact h
  refine ⟨⟨?_, ?_, ?_⟩, ⟨?_, ?_, ?_, ?_, ?_, ?_, ?_⟩, by omega, by omega, (below_alloc2 w _ _).trans (h.mono (by omega))⟩
  all_goals rw [bcell h' _ _ (by omega)]
  all_goals go_simp
/-- one row behind the other: a name, so that no walk opens it -/
def catE (a b : List Ed) : List Ed := a ++ b
theorem catE_nil (a : List Ed) : catE a [] = a := List.append_nil a
theorem catE_len (a b : List Ed) : (catE a b).length = a.length + b.length := List.length_append
end Go.Proofs.YtbpaffkkphacdabGreat
/- The contracts of the document's own edges and of what may be, at loops and machines in memory; how the program tells edges (EdgesC). -/
namespace Go.Proofs.YtbpaffkkphacdabGreat
open Go.RowKit Go.Joins
set_option linter.unusedVariables false

set_option maxHeartbeats 400000 in
theorem rdmay_walk (p0 p1 p2 q0 q1 q2 r : Int) (L : Lp) (a0 a1 a2 : Option Addr) (cap0 cap1 cap2 : Nat) (w : World) (hL : LoopV w (.agg #[.slice a0 L.logs.length cap0, .slice a1 L.body.length cap1, .slice a2 L.outs.length cap2]) L) :
    Calls Tryz.prog 18 #[(.agg #[.slice a0 L.logs.length cap0, .slice a1 L.body.length cap1, .slice a2 L.outs.length cap2]), .agg #[.int .i64 p0, .int .i64 p1, .int .i64 p2, .int .i64 q0, .int .i64 q1, .int .i64 q2, .int .i64 r]] w fun e w' => e = .returned (.bool (mayB L && mayT ⟨p0, p1, p2, q0, q1, q2, r⟩)) ∧ Below w.heap.size w w' := by
  obtain ⟨mb, hmb⟩ : ∃ mb, mayB L = mb := ⟨_, rfl⟩
  have HM := hide (fun W (h : LoopV W (.agg #[.slice a0 L.logs.length cap0, .slice a1 L.body.length cap1, .slice a2 L.outs.length cap2]) L) => hmb ▸ rmay_any (.agg #[.slice a0 L.logs.length cap0, .slice a1 L.body.length cap1, .slice a2 L.outs.length cap2]) L W h)
  have HT := hide (tmay_seven p0 p1 p2 q0 q1 q2 r)
  rw [hmb]
  clear hmb
  cases mb with
  | false =>
    go_enter Tryz.func18, Tryz.ntmps18
    go_wp2_with fail
    refine (HM.out _ (hL.below (below_alloc2 _ _ _))).mono ?_
    rintro e x1 ⟨rfl, hb⟩
    have HB := hide ((below_alloc2 w _ _).trans (hb.mono (by simp; omega)))
    clear hb
    go_wp2_with fail
    go_ret
    exact ⟨by simp, HB.out⟩
  | true =>
    go_enter Tryz.func18, Tryz.ntmps18
    go_wp2_with fail
    refine (HM.out _ (hL.below (below_alloc2 _ _ _))).mono ?_
    rintro e x1 ⟨rfl, hb⟩
    have hb1 : Below (w.heap.size + 1 + 1) ((w.alloc (.cells #[.slice a0 L.logs.length cap0, .slice a1 L.body.length cap1, .slice a2 L.outs.length cap2] 25)).alloc (.cells #[.int .i64 p0, .int .i64 p1, .int .i64 p2, .int .i64 q0, .int .i64 q1, .int .i64 q2, .int .i64 r] 28)) x1 := by
      have hs : ((w.alloc (.cells #[.slice a0 L.logs.length cap0, .slice a1 L.body.length cap1, .slice a2 L.outs.length cap2] 25)).alloc (.cells #[.int .i64 p0, .int .i64 p1, .int .i64 p2, .int .i64 q0, .int .i64 q1, .int .i64 q2, .int .i64 r] 28)).heap.size = w.heap.size + 1 + 1 := by simp
      rw [← hs]; exact hb
    obtain ⟨⟨l0, l1, l2⟩, ⟨t0, t1, t2, t3, t4, t5, t6⟩, z0, z1, hbw⟩ := ebox_cells hb1
    have HB := hide hbw
    clear hb hb1 hbw
    go_wp2_with fail
    refine (HT.out _).mono ?_
    rintro e x2 ⟨rfl, hb⟩
    have HB2 := hide (HB.out.trans (hb.mono HB.out.size))
    clear hb
    go_wp2_with fail
    go_ret
    exact ⟨by simp, HB2.out⟩
/-- how the program tells edges -/
def EdgesC : Prop := ∀ (v : Value) (t : Tg) (L : Lp) (w : World), LoopV w v L →
  Calls Tryz.prog 74 #[v, .agg t.cells] w fun e w' => ∃ a n c, e = .returned (.tuple #[.slice a n c, .int .i64 (if (mayB L && mayT t) = true then 0 else 2)]) ∧ Below w.heap.size w w' ∧ ((mayB L && mayT t) = true → EdgesV w' (.slice a n c) (edgesD L t)) ∧ ((mayB L && mayT t) = false → n = 0)
end Go.Proofs.YtbpaffkkphacdabGreat
/- The contract of the document's own answer on units; nothing that was there is changed. -/
namespace Go.Proofs.YtbpaffkkphacdabGreat
open Go.RowKit Go.Joins
set_option linter.unusedVariables false
set_option linter.unusedSimpArgs false
set_option maxRecDepth 8192

end Go.Proofs.YtbpaffkkphacdabGreat
/- The contract of the document's own answer on rounds of edges; nothing that was there is changed. -/
namespace Go.Proofs.YtbpaffkkphacdabGreat
open Go.RowKit Go.Joins
set_option linter.unusedVariables false
set_option linter.unusedSimpArgs false
set_option maxRecDepth 8192

end Go.Proofs.YtbpaffkkphacdabGreat
/- The contract of the document's own least pace by rounds; nothing that was there is changed. -/
namespace Go.Proofs.YtbpaffkkphacdabGreat
open Go.RowKit Go.Joins
set_option linter.unusedVariables false
set_option linter.unusedSimpArgs false
set_option maxRecDepth 8192

end Go.Proofs.YtbpaffkkphacdabGreat
/- How the program tells the least paces (BoundC); the document's own, at loops and machines in memory. -/
namespace Go.Proofs.YtbpaffkkphacdabGreat
open Go.RowKit Go.Joins
set_option linter.unusedVariables false
set_option linter.unusedSimpArgs false
set_option maxRecDepth 8192

end Go.Proofs.YtbpaffkkphacdabGreat
