/- SchedD: texts that are built as one: SchedMakeGo, SchedMakeAll. -/
import Derived.Test.YtjoapiafpahihabSchedF
import Derived.Test.YtjoapiafpahihabSchedOne
import Derived.Test.YtjoapiafpahihabRef8A
import Derived.Test.YtjoapiafpahihabRef67
import Derived.Test.YtjoapiafpahihabBoundP
/- The contract of package sched's Make: a legal plan, not faster than is asked for and not slower than one statement behind the other; or what is wrong; nothing that was there is changed. -/
namespace Go.Proofs.Ytjoapiafpahihab
open Go.RowKit Go.Joins
set_option linter.unusedVariables false
set_option linter.unusedSimpArgs false
set_option maxRecDepth 8192

theorem mbox_cells {w y : World} {L : Lp} {a0 a1 a2 : Option Addr} {cap0 cap1 cap2 : Nat} {p0 p1 p2 q0 q1 q2 r : Int} (h : Below (w.heap.size + 1 + 1 + 1) (((w.alloc (.cells #[.slice a0 L.logs.length cap0, .slice a1 L.body.length cap1, .slice a2 L.outs.length cap2] 25)).alloc (.cells #[.int .i64 p0, .int .i64 p1, .int .i64 p2, .int .i64 q0, .int .i64 q1, .int .i64 q2, .int .i64 r] 28)).alloc (.cells #[.int .i64 0, .slice none 0 0] 30)) y) : ((y.cell? ⟨w.heap.size, 0, none⟩ = some (.slice a0 L.logs.length cap0) ∧ y.cell? ⟨w.heap.size, 1, none⟩ = some (.slice a1 L.body.length cap1) ∧ y.cell? ⟨w.heap.size, 2, none⟩ = some (.slice a2 L.outs.length cap2)) ∧ (y.cell? ⟨w.heap.size + 1, 0, none⟩ = some (.int .i64 p0) ∧ y.cell? ⟨w.heap.size + 1, 1, none⟩ = some (.int .i64 p1) ∧ y.cell? ⟨w.heap.size + 1, 2, none⟩ = some (.int .i64 p2) ∧ y.cell? ⟨w.heap.size + 1, 3, none⟩ = some (.int .i64 q0) ∧ y.cell? ⟨w.heap.size + 1, 4, none⟩ = some (.int .i64 q1) ∧ y.cell? ⟨w.heap.size + 1, 5, none⟩ = some (.int .i64 q2) ∧ y.cell? ⟨w.heap.size + 1, 6, none⟩ = some (.int .i64 r))) ∧ y.heap[(w.heap.size + 1 + 1)]? = some (.cells #[.int .i64 0, .slice none 0 0] 30 (0, 0)) := by
  have e2 : ((w.alloc (.cells #[.slice a0 L.logs.length cap0, .slice a1 L.body.length cap1, .slice a2 L.outs.length cap2] 25)).alloc (.cells #[.int .i64 p0, .int .i64 p1, .int .i64 p2, .int .i64 q0, .int .i64 q1, .int .i64 q2, .int .i64 r] 28)).heap.size = w.heap.size + 1 + 1 := by simp
  have e1 : (w.alloc (.cells #[.slice a0 L.logs.length cap0, .slice a1 L.body.length cap1, .slice a2 L.outs.length cap2] 25)).heap.size = w.heap.size + 1 := by simp
  have b2 : y.heap[(w.heap.size + 1 + 1)]? = some (.cells #[.int .i64 0, .slice none 0 0] 30 (0, 0)) := by
    rw [h.block _ (by omega), ← e2]; exact new_blkS _ _ _
  have b1 : y.heap[w.heap.size + 1]? = some (.cells #[.int .i64 p0, .int .i64 p1, .int .i64 p2, .int .i64 q0, .int .i64 q1, .int .i64 q2, .int .i64 r] 28 (0, 0)) := by
    rw [h.block _ (by omega), Below.heap_alloc _ _ _ (by simp), ← e1]; exact new_blkS _ _ _
  have b0 : y.heap[w.heap.size]? = some (.cells #[.slice a0 L.logs.length cap0, .slice a1 L.body.length cap1, .slice a2 L.outs.length cap2] 25 (0, 0)) := by
    rw [h.block _ (by omega), Below.heap_alloc _ _ _ (by simp; omega), Below.heap_alloc _ _ _ (by simp)]; exact new_blkS _ _ _
  refine ⟨⟨⟨?_, ?_, ?_⟩, ⟨?_, ?_, ?_, ?_, ?_, ?_, ?_⟩⟩, b2⟩
  all_goals first | (rw [cell_of_block b0]; rfl) | (rw [cell_of_block b1]; rfl)
theorem boundC_no (hB : BoundC) (v : Value) (t : Tg) (L : Lp) (w : World) (hL : LoopV w v L) (hm : (mayB L && mayT t) = false) : Calls Try.prog 29 #[v, .agg t.cells] w fun e w' => e = .returned (.tuple #[.int .i64 0, .int .i64 0, .int .i64 2]) ∧ Below w.heap.size w w' :=
  (hB v t L w hL).mono fun e w' ⟨he, hb⟩ => ⟨by rw [if_neg (by rw [hm]; simp)] at he; exact he, hb⟩
theorem boundC_yes (hB : BoundC) (v : Value) (t : Tg) (L : Lp) (w : World) (hL : LoopV w v L) (hm : (mayB L && mayT t) = true) : Calls Try.prog 29 #[v, .agg t.cells] w fun e w' => e = .returned (.tuple #[.int .i64 (unitsB L t), .int .i64 (roundsB L t), .int .i64 0]) ∧ Below w.heap.size w w' :=
  (hB v t L w hL).mono fun e w' ⟨he, hb⟩ => ⟨by rw [if_pos hm] at he; exact he, hb⟩
theorem ints_set {y : World} {g n c : Nat} {T : List Int} {b : Nat} (h : Ints y (.slice (some ⟨g, 0, none⟩) n c) T) (hb : b ≠ g) (i : Nat) (v : Value) : Ints (y.setCell ⟨b, i, none⟩ v) (.slice (some ⟨g, 0, none⟩) n c) T ∧ True := by
  obtain ⟨a, cap, e, h1, h2, h3, h4⟩ := h
  refine ⟨⟨a, cap, e, h1, h2, h3, fun hp => ?_⟩, trivial⟩
  obtain ⟨b', off, e2, h5, h6⟩ := h4 hp
  injection e with e3
  rw [e2] at e3
  injection e3 with e3
  injection e3 with e3 e4
  refine ⟨b', off, e2, by simpa using h5, fun i hi => ?_⟩
  rw [cell_same (Below.heap_setCell _ _ _ _ (show b' ≠ b by omega))]
  exact h6 i hi
/-- what Make tells -/
def MakeP (L : Lp) (t : Tg) (least : Int) (w : World) (e : Ending) (w' : World) : Prop := Below w.heap.size w w' ∧ ∃ P ta tl tc c, e = .returned (.tuple #[.agg #[.int .i64 P, .slice ta tl tc], .int .i64 c]) ∧
    ((mayB L && mayT t) = false → c = 2 ∧ P = 0 ∧ tl = 0) ∧ ((mayB L && mayT t) = true → inR least 1 200 = false → c = 3 ∧ P = 0 ∧ tl = 0) ∧
    ((mayB L && mayT t) = true → inR least 1 200 = true → c = 0 ∧ ∃ T, tl = T.length ∧ Ints w' (.slice ta tl tc) T ∧ legalD L t P T = true ∧ least ≤ P ∧ P ≤ max least (allW L t))
set_option maxHeartbeats 2000000 in
theorem make_no (hB : BoundC) (p0 p1 p2 q0 q1 q2 r : Int) (L : Lp) (a0 a1 a2 : Option Addr) (cap0 cap1 cap2 : Nat) (least : Int) (w : World) (hL : LoopV w (.agg #[.slice a0 L.logs.length cap0, .slice a1 L.body.length cap1, .slice a2 L.outs.length cap2]) L) (hm : (mayB L && mayT ⟨p0, p1, p2, q0, q1, q2, r⟩) = false) :
    Calls Try.prog 9 #[.agg #[.slice a0 L.logs.length cap0, .slice a1 L.body.length cap1, .slice a2 L.outs.length cap2], .agg #[.int .i64 p0, .int .i64 p1, .int .i64 p2, .int .i64 q0, .int .i64 q1, .int .i64 q2, .int .i64 r], .int .i64 least] w fun e w' => MakeP L ⟨p0, p1, p2, q0, q1, q2, r⟩ least w e w' := by
  have HB3 := hide (below_alloc3 w (.cells #[.slice a0 L.logs.length cap0, .slice a1 L.body.length cap1, .slice a2 L.outs.length cap2] 25) (.cells #[.int .i64 p0, .int .i64 p1, .int .i64 p2, .int .i64 q0, .int .i64 q1, .int .i64 q2, .int .i64 r] 28) (.cells #[.int .i64 0, .slice none 0 0] 30))
  have HS3 : Hid ((((w.alloc (.cells #[.slice a0 L.logs.length cap0, .slice a1 L.body.length cap1, .slice a2 L.outs.length cap2] 25)).alloc (.cells #[.int .i64 p0, .int .i64 p1, .int .i64 p2, .int .i64 q0, .int .i64 q1, .int .i64 q2, .int .i64 r] 28)).alloc (.cells #[.int .i64 0, .slice none 0 0] 30)).heap.size = (w.heap.size + 1 + 1 + 1)) := by show _ = _; simp
  have HBC := hide (boundC_no hB _ ⟨p0, p1, p2, q0, q1, q2, r⟩ L (((w.alloc (.cells #[.slice a0 L.logs.length cap0, .slice a1 L.body.length cap1, .slice a2 L.outs.length cap2] 25)).alloc (.cells #[.int .i64 p0, .int .i64 p1, .int .i64 p2, .int .i64 q0, .int .i64 q1, .int .i64 q2, .int .i64 r] 28)).alloc (.cells #[.int .i64 0, .slice none 0 0] 30)) (hL.below HB3.out) hm)
  have HM := hide hm
  clear hm hL
  go_enter Try.func9, Try.ntmps9
  go_wp2_with fail
  refine HBC.out.mono ?_
  rintro e x1 ⟨rfl, hb1⟩
  have HX1 : Hid (Below (w.heap.size + 1 + 1 + 1) (((w.alloc (.cells #[.slice a0 L.logs.length cap0, .slice a1 L.body.length cap1, .slice a2 L.outs.length cap2] 25)).alloc (.cells #[.int .i64 p0, .int .i64 p1, .int .i64 p2, .int .i64 q0, .int .i64 q1, .int .i64 q2, .int .i64 r] 28)).alloc (.cells #[.int .i64 0, .slice none 0 0] 30)) x1) := by show Below _ _ _; rw [← HS3.out]; exact hb1
  have HW1 : Hid (Below w.heap.size w x1) := HB3.out.trans (hb1.mono HB3.out.size)
  obtain ⟨-, hz⟩ := mbox_cells HX1.out
  have n0 : x1.cell? ⟨(w.heap.size + 1 + 1), 0, none⟩ = some (.int .i64 0) := by rw [cell_of_block hz]; rfl
  have n1 : x1.cell? ⟨(w.heap.size + 1 + 1), 1, none⟩ = some (.slice none 0 0) := by rw [cell_of_block hz]; rfl
  have f0 : x1.frozen? ⟨(w.heap.size + 1 + 1), 0, none⟩ = false := by simp [World.frozen?, hz]
  have f1 : x1.frozen? ⟨(w.heap.size + 1 + 1), 1, none⟩ = false := by simp [World.frozen?, hz]
  obtain ⟨s0, s1⟩ := pair_set (a' := .int .i64 0) (b' := .slice none 0 0) hz
  have HF : Hid (MakeP L ⟨p0, p1, p2, q0, q1, q2, r⟩ least w (.returned (.tuple #[.agg #[.int .i64 0, .slice none 0 0], .int .i64 2])) ((x1.setCell ⟨(w.heap.size + 1 + 1), 0, none⟩ (.int .i64 0)).setCell ⟨(w.heap.size + 1 + 1), 1, none⟩ (.slice none 0 0))) := ⟨(HW1.out.setCell (by show w.heap.size ≤ (w.heap.size + 1 + 1); omega) _).setCell (by show w.heap.size ≤ (w.heap.size + 1 + 1); omega) _, 0, none, 0, 0, 2, rfl, fun _ => ⟨rfl, rfl, rfl⟩, fun h => absurd (HM.out.symm.trans h) (by simp), fun h => absurd (HM.out.symm.trans h) (by simp)⟩
  clear hz hb1
  go_wp2_with fail
  exact bodyPost_ret (v := .tuple #[.agg #[.int .i64 0, .slice none 0 0], .int .i64 2]) (by simp [results, Try.results9, go_sem, s0, s1]) rfl HF.out
set_option maxHeartbeats 2000000 in
theorem make_range (hB : BoundC) (p0 p1 p2 q0 q1 q2 r : Int) (L : Lp) (a0 a1 a2 : Option Addr) (cap0 cap1 cap2 : Nat) (least : Int) (w : World) (hL : LoopV w (.agg #[.slice a0 L.logs.length cap0, .slice a1 L.body.length cap1, .slice a2 L.outs.length cap2]) L) (hm : (mayB L && mayT ⟨p0, p1, p2, q0, q1, q2, r⟩) = true) (hr : inR least 1 200 = false) :
    Calls Try.prog 9 #[.agg #[.slice a0 L.logs.length cap0, .slice a1 L.body.length cap1, .slice a2 L.outs.length cap2], .agg #[.int .i64 p0, .int .i64 p1, .int .i64 p2, .int .i64 q0, .int .i64 q1, .int .i64 q2, .int .i64 r], .int .i64 least] w fun e w' => MakeP L ⟨p0, p1, p2, q0, q1, q2, r⟩ least w e w' := by
  have HB3 := hide (below_alloc3 w (.cells #[.slice a0 L.logs.length cap0, .slice a1 L.body.length cap1, .slice a2 L.outs.length cap2] 25) (.cells #[.int .i64 p0, .int .i64 p1, .int .i64 p2, .int .i64 q0, .int .i64 q1, .int .i64 q2, .int .i64 r] 28) (.cells #[.int .i64 0, .slice none 0 0] 30))
  have HS3 : Hid ((((w.alloc (.cells #[.slice a0 L.logs.length cap0, .slice a1 L.body.length cap1, .slice a2 L.outs.length cap2] 25)).alloc (.cells #[.int .i64 p0, .int .i64 p1, .int .i64 p2, .int .i64 q0, .int .i64 q1, .int .i64 q2, .int .i64 r] 28)).alloc (.cells #[.int .i64 0, .slice none 0 0] 30)).heap.size = (w.heap.size + 1 + 1 + 1)) := by show _ = _; simp
  have HBC := hide (boundC_yes hB _ ⟨p0, p1, p2, q0, q1, q2, r⟩ L (((w.alloc (.cells #[.slice a0 L.logs.length cap0, .slice a1 L.body.length cap1, .slice a2 L.outs.length cap2] 25)).alloc (.cells #[.int .i64 p0, .int .i64 p1, .int .i64 p2, .int .i64 q0, .int .i64 q1, .int .i64 q2, .int .i64 r] 28)).alloc (.cells #[.int .i64 0, .slice none 0 0] 30)) (hL.below HB3.out) hm)
  have HM := hide hm
  have HWI := hide (fun W => swithin_any least 1 200 W)
  rw [hr] at HWI
  have HR := hide hr
  clear hm hL hr
  go_enter Try.func9, Try.ntmps9
  go_wp2_with fail
  refine HBC.out.mono ?_
  rintro e x1 ⟨rfl, hb1⟩
  have HX1 : Hid (Below (w.heap.size + 1 + 1 + 1) (((w.alloc (.cells #[.slice a0 L.logs.length cap0, .slice a1 L.body.length cap1, .slice a2 L.outs.length cap2] 25)).alloc (.cells #[.int .i64 p0, .int .i64 p1, .int .i64 p2, .int .i64 q0, .int .i64 q1, .int .i64 q2, .int .i64 r] 28)).alloc (.cells #[.int .i64 0, .slice none 0 0] 30)) x1) := by show Below _ _ _; rw [← HS3.out]; exact hb1
  have HW1 : Hid (Below w.heap.size w x1) := HB3.out.trans (hb1.mono HB3.out.size)
  obtain ⟨-, hz⟩ := mbox_cells HX1.out
  have n0 : x1.cell? ⟨(w.heap.size + 1 + 1), 0, none⟩ = some (.int .i64 0) := by rw [cell_of_block hz]; rfl
  have n1 : x1.cell? ⟨(w.heap.size + 1 + 1), 1, none⟩ = some (.slice none 0 0) := by rw [cell_of_block hz]; rfl
  have f0 : x1.frozen? ⟨(w.heap.size + 1 + 1), 0, none⟩ = false := by simp [World.frozen?, hz]
  have f1 : x1.frozen? ⟨(w.heap.size + 1 + 1), 1, none⟩ = false := by simp [World.frozen?, hz]
  obtain ⟨s0, s1⟩ := pair_set (a' := .int .i64 0) (b' := .slice none 0 0) hz
  have HF : Hid (MakeP L ⟨p0, p1, p2, q0, q1, q2, r⟩ least w (.returned (.tuple #[.agg #[.int .i64 0, .slice none 0 0], .int .i64 3])) ((x1.setCell ⟨(w.heap.size + 1 + 1), 0, none⟩ (.int .i64 0)).setCell ⟨(w.heap.size + 1 + 1), 1, none⟩ (.slice none 0 0))) := ⟨(HW1.out.setCell (by show w.heap.size ≤ (w.heap.size + 1 + 1); omega) _).setCell (by show w.heap.size ≤ (w.heap.size + 1 + 1); omega) _, 0, none, 0, 0, 3, rfl, fun h => absurd (HM.out.symm.trans h) (by simp), fun _ _ => ⟨rfl, rfl, rfl⟩, fun _ h => absurd (HR.out.symm.trans h) (by simp)⟩
  clear hz hb1
  generalize unitsB L ⟨p0, p1, p2, q0, q1, q2, r⟩ = ub at *
  generalize roundsB L ⟨p0, p1, p2, q0, q1, q2, r⟩ = rb at *
  go_wp2_with (go_at_call 30; refine (HWI.out _).mono ?_; rintro e w' ⟨rfl, hw'⟩; have hw' := hw'.symm; subst hw')
  exact bodyPost_ret (v := .tuple #[.agg #[.int .i64 0, .slice none 0 0], .int .i64 3]) (by simp [results, Try.results9, go_sem, s0, s1]) rfl HF.out

set_option maxHeartbeats 16000000 in
theorem make_yes (hE : EdgesC) (hB : BoundC) (p0 p1 p2 q0 q1 q2 r : Int) (L : Lp) (a0 a2 : Option Addr) (bb bo : Nat) (cap0 cap1 cap2 : Nat) (least : Int) (w : World) (hL : LoopV w (.agg #[.slice a0 L.logs.length cap0, .slice (some ⟨bb, bo, none⟩) L.body.length cap1, .slice a2 L.outs.length cap2]) L) (hm : mayB L = true) (ht : mayT ⟨p0, p1, p2, q0, q1, q2, r⟩ = true) (hr1 : 1 ≤ least) (hr2 : least ≤ 200) :
    Calls Try.prog 9 #[.agg #[.slice a0 L.logs.length cap0, .slice (some ⟨bb, bo, none⟩) L.body.length cap1, .slice a2 L.outs.length cap2], .agg #[.int .i64 p0, .int .i64 p1, .int .i64 p2, .int .i64 q0, .int .i64 q1, .int .i64 q2, .int .i64 r], .int .i64 least] w fun e w' => MakeP L ⟨p0, p1, p2, q0, q1, q2, r⟩ least w e w' := by
  have hmt : (mayB L && mayT ⟨p0, p1, p2, q0, q1, q2, r⟩) = true := by rw [hm, ht]; rfl
  have HB3 := hide (below_alloc3 w (.cells #[.slice a0 L.logs.length cap0, .slice (some ⟨bb, bo, none⟩) L.body.length cap1, .slice a2 L.outs.length cap2] 25) (.cells #[.int .i64 p0, .int .i64 p1, .int .i64 p2, .int .i64 q0, .int .i64 q1, .int .i64 q2, .int .i64 r] 28) (.cells #[.int .i64 0, .slice none 0 0] 30))
  have HS3 : Hid ((((w.alloc (.cells #[.slice a0 L.logs.length cap0, .slice (some ⟨bb, bo, none⟩) L.body.length cap1, .slice a2 L.outs.length cap2] 25)).alloc (.cells #[.int .i64 p0, .int .i64 p1, .int .i64 p2, .int .i64 q0, .int .i64 q1, .int .i64 q2, .int .i64 r] 28)).alloc (.cells #[.int .i64 0, .slice none 0 0] 30)).heap.size = (w.heap.size + 1 + 1 + 1)) := by show _ = _; simp
  have HBC := hide (boundC_yes hB _ ⟨p0, p1, p2, q0, q1, q2, r⟩ L (((w.alloc (.cells #[.slice a0 L.logs.length cap0, .slice (some ⟨bb, bo, none⟩) L.body.length cap1, .slice a2 L.outs.length cap2] 25)).alloc (.cells #[.int .i64 p0, .int .i64 p1, .int .i64 p2, .int .i64 q0, .int .i64 q1, .int .i64 q2, .int .i64 r] 28)).alloc (.cells #[.int .i64 0, .slice none 0 0] 30)) (hL.below HB3.out) hmt)
  have HM := hide (fun W (h : LoopV W (.agg #[.slice a0 L.logs.length cap0, .slice (some ⟨bb, bo, none⟩) L.body.length cap1, .slice a2 L.outs.length cap2]) L) => edgesC_yes hE (.agg #[.slice a0 L.logs.length cap0, .slice (some ⟨bb, bo, none⟩) L.body.length cap1, .slice a2 L.outs.length cap2]) ⟨p0, p1, p2, q0, q1, q2, r⟩ L W h hmt)
  have HWI := hide (fun W => swithin_any least 1 200 W)
  rw [inR_yes ⟨hr1, hr2⟩] at HWI
  have HL := hide hL
  obtain ⟨-, hl1, hl16, -⟩ := may_parts hm
  obtain ⟨v0, v1, v2, hv, -, ⟨a1', c1', hv1, hlc, hmc, hc1⟩, -⟩ := hL
  injection hv with hv
  obtain ⟨e0, e1, e2⟩ : (.slice a0 L.logs.length cap0 : Value) = v0 ∧ (.slice (some ⟨bb, bo, none⟩) L.body.length cap1 : Value) = v1 ∧ (.slice a2 L.outs.length cap2 : Value) = v2 := by simpa using hv
  subst e1
  injection hv1 with f1 f2 f3
  subst f1; subst f3
  obtain ⟨bb', bo', hbe, hbb, hbody⟩ := hc1 (by omega)
  injection hbe with hbe
  injection hbe with g1 g2
  subst g1; subst g2
  unfold maxLen at hmc
  have HONE := hide (fun W (hW : Below w.heap.size w W) => oneByOne_any p0 p1 p2 q0 q1 q2 r L (.slice a0 L.logs.length cap0) (.slice a2 L.outs.length cap2) bb bo cap1 least W hm ht hr1 hr2 (Nat.lt_of_lt_of_le hbb hW.size) hlc (by omega) (fun i hi j hj => (bcell hW _ _ hbb).trans (hbody i hi j hj)))
  have HAT := hide (fun W (P : Int) ea ec (hW : Below w.heap.size w W) (hEV : EdgesV W (.slice ea (edgesD L ⟨p0, p1, p2, q0, q1, q2, r⟩).length ec) (edgesD L ⟨p0, p1, p2, q0, q1, q2, r⟩)) (h1 : 1 ≤ P) (h2 : P ≤ 200) => planAt_any p0 p1 p2 q0 q1 q2 r L (.slice a0 L.logs.length cap0) (.slice a2 L.outs.length cap2) bb bo cap1 P ea ec W hm ht h1 h2 (Nat.lt_of_lt_of_le hbb hW.size) hlc (by omega) (fun i hi j hj => (bcell hW _ _ hbb).trans (hbody i hi j hj)) hEV)
  have hal := all_le hm ht
  have hub := units_pos L ⟨p0, p1, p2, q0, q1, q2, r⟩
  have HSEQ : Hid (legalD L ⟨p0, p1, p2, q0, q1, q2, r⟩ (max least (allW L ⟨p0, p1, p2, q0, q1, q2, r⟩)) (seqT L ⟨p0, p1, p2, q0, q1, q2, r⟩) = true) := seq_legal hm ht (by omega) (by omega)
  have HLEN : Hid ((seqT L ⟨p0, p1, p2, q0, q1, q2, r⟩).length = L.body.length) := by show _ = _; unfold seqT; simp
  have HEND : Hid (∀ (W : World) (P : Int) ta tl tc, Below w.heap.size w W → (∃ T, tl = T.length ∧ Ints W (.slice ta tl tc) T ∧ legalD L ⟨p0, p1, p2, q0, q1, q2, r⟩ P T = true) → least ≤ P → P ≤ max least (allW L ⟨p0, p1, p2, q0, q1, q2, r⟩) → MakeP L ⟨p0, p1, p2, q0, q1, q2, r⟩ least w (.returned (.tuple #[.agg #[.int .i64 P, .slice ta tl tc], .int .i64 0])) W) := fun W P ta tl tc h1 ⟨T, h2, h3, h4⟩ h5 h6 => ⟨h1, P, ta, tl, tc, 0, rfl, fun h => absurd (hmt.symm.trans h) (by simp), fun _ h => absurd ((inR_yes ⟨hr1, hr2⟩).symm.trans h) (by simp), fun _ _ => ⟨rfl, T, h2, h3, h4, h5, h6⟩⟩
  clear hbody hc1 hv hmt hm ht f2 e0 e2
  obtain ⟨aw, haw⟩ : ∃ aw, allW L ⟨p0, p1, p2, q0, q1, q2, r⟩ = aw := ⟨_, rfl⟩
  obtain ⟨es, hes⟩ : ∃ es, edgesD L ⟨p0, p1, p2, q0, q1, q2, r⟩ = es := ⟨_, rfl⟩
  rw [haw] at hal HSEQ HEND
  have HAW := hide haw
  rw [hes] at HM HAT
  obtain ⟨ub, hube⟩ : ∃ ub, unitsB L ⟨p0, p1, p2, q0, q1, q2, r⟩ = ub := ⟨_, rfl⟩
  rw [hube] at HBC hub
  generalize roundsB L ⟨p0, p1, p2, q0, q1, q2, r⟩ = rb at HBC
  clear haw hes hube
  obtain ⟨mx, hmx⟩ : ∃ mx, max least aw = mx := ⟨_, rfl⟩
  rw [hmx] at HSEQ HEND
  have hmx1 : least ≤ mx ∧ mx ≤ 200 := by omega
  obtain ⟨hmx1, hmx2⟩ := hmx1
  have HMX : Hid (max least (allW L ⟨p0, p1, p2, q0, q1, q2, r⟩) = mx) := by show _ = _; rw [HAW.out]; exact hmx
  go_enter Try.func9, Try.ntmps9
  go_wp2_with fail
  refine HBC.out.mono ?_
  rintro e x1 ⟨rfl, hb1⟩
  have HX1 : Hid (Below (w.heap.size + 1 + 1 + 1) (((w.alloc (.cells #[.slice a0 L.logs.length cap0, .slice (some ⟨bb, bo, none⟩) L.body.length cap1, .slice a2 L.outs.length cap2] 25)).alloc (.cells #[.int .i64 p0, .int .i64 p1, .int .i64 p2, .int .i64 q0, .int .i64 q1, .int .i64 q2, .int .i64 r] 28)).alloc (.cells #[.int .i64 0, .slice none 0 0] 30)) x1) := by show Below _ _ _; rw [← HS3.out]; exact hb1
  have HW1 : Hid (Below w.heap.size w x1) := HB3.out.trans (hb1.mono HB3.out.size)
  have hz1 : (w.heap.size + 1 + 1 + 1) ≤ x1.heap.size := by have := HX1.out.size; rw [HS3.out] at this; exact this
  obtain ⟨⟨⟨l0, l1, l2⟩, ⟨t0, t1, t2, t3, t4, t5, t6⟩⟩, -⟩ := mbox_cells HX1.out
  clear hb1 HBC hmx
  go_wp2_with (go_at_call 30; refine (HWI.out _).mono ?_; rintro e w' ⟨rfl, hw'⟩; have hw' := hw'.symm; subst hw')
  refine (HM.out _ (HL.out.below HW1.out)).mono ?_
  rintro e x2 ⟨ea, en, ec, rfl, hev, hb2⟩
  obtain ⟨ea2, ec2, hen, -⟩ := id hev
  injection hen with hen1 hen2 hen3
  subst hen1; subst hen2; subst hen3
  have HX2 : Hid (Below (w.heap.size + 1 + 1 + 1) (((w.alloc (.cells #[.slice a0 L.logs.length cap0, .slice (some ⟨bb, bo, none⟩) L.body.length cap1, .slice a2 L.outs.length cap2] 25)).alloc (.cells #[.int .i64 p0, .int .i64 p1, .int .i64 p2, .int .i64 q0, .int .i64 q1, .int .i64 q2, .int .i64 r] 28)).alloc (.cells #[.int .i64 0, .slice none 0 0] 30)) x2) := HX1.out.trans (hb2.mono hz1)
  have HW2 : Hid (Below w.heap.size w x2) := HW1.out.trans (hb2.mono HW1.out.size)
  have hz2 : (w.heap.size + 1 + 1 + 1) ≤ x2.heap.size := Nat.le_trans hz1 hb2.size
  have HEV2 := hide hev
  clear l0 l1 l2 t0 t1 t2 t3 t4 t5 t6 hb2 hev HM
  obtain ⟨⟨⟨l0, l1, l2⟩, ⟨t0, t1, t2, t3, t4, t5, t6⟩⟩, -⟩ := mbox_cells HX2.out
  go_wp2_with fail
  refine (HONE.out _ HW2.out).mono ?_
  rintro e x3 ⟨hb3, g3, tc3, rfl, hg3, hints⟩
  rw [HMX.out]
  have HX3 : Hid (Below (w.heap.size + 1 + 1 + 1) (((w.alloc (.cells #[.slice a0 L.logs.length cap0, .slice (some ⟨bb, bo, none⟩) L.body.length cap1, .slice a2 L.outs.length cap2] 25)).alloc (.cells #[.int .i64 p0, .int .i64 p1, .int .i64 p2, .int .i64 q0, .int .i64 q1, .int .i64 q2, .int .i64 r] 28)).alloc (.cells #[.int .i64 0, .slice none 0 0] 30)) x3) := HX2.out.trans (hb3.mono hz2)
  have HW3 : Hid (Below w.heap.size w x3) := HW2.out.trans (hb3.mono HW2.out.size)
  have hz3 : (w.heap.size + 1 + 1 + 1) ≤ x3.heap.size := Nat.le_trans hz2 hb3.size
  have HEV3 := hide (HEV2.out.below hb3)
  have HIN3 := hide hints
  have HX4 : Hid (Below x3.heap.size x3 (x3.alloc (.cells #[.int .i64 mx, .slice (some ⟨g3, 0, none⟩) L.body.length tc3] 30))) := below_alloc1 _ _
  have HS4 : Hid ((x3.alloc (.cells #[.int .i64 mx, .slice (some ⟨g3, 0, none⟩) L.body.length tc3] 30)).heap[x3.heap.size]? = some (.cells #[.int .i64 mx, .slice (some ⟨g3, 0, none⟩) L.body.length tc3] 30 (0, 0))) := new_blkS _ _ _
  have HZ4 : Hid ((x3.alloc (.cells #[.int .i64 mx, .slice (some ⟨g3, 0, none⟩) L.body.length tc3] 30)).heap.size = x3.heap.size + 1) := by show _ = _; simp
  clear l0 l1 l2 t0 t1 t2 t3 t4 t5 t6 hb3 hints HEV2 HONE
  go_wp2_with fail
  all_goals
    go_loopw [14] (fun pv wr => ∃ pc : Int, pv = .int .i64 pc ∧ least ≤ pc ∧ Below (x3.heap.size + 1) (x3.alloc (.cells #[.int .i64 mx, .slice (some ⟨g3, 0, none⟩) L.body.length tc3] 30)) wr) (fun pv _ => (mx - intOf pv).toNat)
    case atStart => exact ⟨_, rfl, by omega, Below.refl _ _⟩
    case round =>
      obtain ⟨pc, rfl, hpc, hbel⟩ := hrel
      have HB := hide hbel
      have HBX : Hid (Below x3.heap.size x3 wr) := HX4.out.trans (hbel.mono (by omega))
      have HXW : Hid (Below (w.heap.size + 1 + 1 + 1) (((w.alloc (.cells #[.slice a0 L.logs.length cap0, .slice (some ⟨bb, bo, none⟩) L.body.length cap1, .slice a2 L.outs.length cap2] 25)).alloc (.cells #[.int .i64 p0, .int .i64 p1, .int .i64 p2, .int .i64 q0, .int .i64 q1, .int .i64 q2, .int .i64 r] 28)).alloc (.cells #[.int .i64 0, .slice none 0 0] 30)) wr) := HX3.out.trans (HBX.out.mono hz3)
      have HWW : Hid (Below w.heap.size w wr) := HW3.out.trans (HBX.out.mono HW3.out.size)
      have hsz : x3.heap.size + 1 ≤ wr.heap.size := by have := hbel.size; rw [HZ4.out] at this; exact this
      have hsb : wr.heap[x3.heap.size]? = some (.cells #[.int .i64 mx, .slice (some ⟨g3, 0, none⟩) L.body.length tc3] 30 (0, 0)) := (hbel.block _ (by omega)).trans HS4.out
      have m0 : wr.cell? ⟨x3.heap.size, 0, none⟩ = some (.int .i64 mx) := by rw [cell_of_block hsb]; rfl
      have m1 : wr.cell? ⟨x3.heap.size, 1, none⟩ = some (.slice (some ⟨g3, 0, none⟩) L.body.length tc3) := by rw [cell_of_block hsb]; rfl
      obtain ⟨⟨⟨l0, l1, l2⟩, ⟨t0, t1, t2, t3, t4, t5, t6⟩⟩, hz⟩ := mbox_cells HXW.out
      have HZ := hide hz
      have hgm := hg3
      clear hbel hsb hz
      by_cases hlt : pc < mx
      · have HATC := hide (HAT.out wr pc ea ec HWW.out (HEV3.out.below HBX.out) (by omega) (by omega))
        go_wp2_with fail
        refine HATC.out.mono ?_
        rintro e x5 ⟨hb5, P5, ta5, tl5, tc5, bk5, rfl, hyes⟩
        have HB5 : Hid (Below (x3.heap.size + 1) (x3.alloc (.cells #[.int .i64 mx, .slice (some ⟨g3, 0, none⟩) L.body.length tc3] 30)) x5) := HB.out.trans (hb5.mono hsz)
        have HW5 : Hid (Below w.heap.size w x5) := HWW.out.trans (hb5.mono HWW.out.size)
        have hz5 : x5.heap[(w.heap.size + 1 + 1)]? = some (.cells #[.int .i64 0, .slice none 0 0] 30 (0, 0)) := (hb5.block _ (by omega)).trans HZ.out
        have hs5 : wr.heap.size ≤ x5.heap.size := hb5.size
        have HYES := hide hyes
        clear hyes hb5 l0 l1 l2 t0 t1 t2 t3 t4 t5 t6 m0 m1
        cases bk5 with
        | true =>
          obtain ⟨rfl, g5, T5, rfl, hg5, rfl, hin5, hleg5⟩ := HYES.out rfl
          have n0 : x5.cell? ⟨(w.heap.size + 1 + 1), 0, none⟩ = some (.int .i64 0) := by rw [cell_of_block hz5]; rfl
          have n1 : x5.cell? ⟨(w.heap.size + 1 + 1), 1, none⟩ = some (.slice none 0 0) := by rw [cell_of_block hz5]; rfl
          have k0 : x5.frozen? ⟨(w.heap.size + 1 + 1), 0, none⟩ = false := by simp [World.frozen?, hz5]
          have k1 : x5.frozen? ⟨(w.heap.size + 1 + 1), 1, none⟩ = false := by simp [World.frozen?, hz5]
          have hrz : (w.heap.size + 1 + 1) < x5.heap.size := (Array.getElem?_eq_some_iff.1 hz5).1
          have hne5 : ¬ x5.heap.size = (w.heap.size + 1 + 1) := by omega
          have hne6 : ¬ (w.heap.size + 1 + 1) = x5.heap.size := by omega
          obtain ⟨s0, s1⟩ := pair_set (a' := .int .i64 P5) (b' := .slice (some ⟨g5, 0, none⟩) T5.length tc5) hz5
          have HF : Hid (∀ o, MakeP L ⟨p0, p1, p2, q0, q1, q2, r⟩ least w (.returned (.tuple #[.agg #[.int .i64 P5, .slice (some ⟨g5, 0, none⟩) T5.length tc5], .int .i64 0])) (((x5.setCell ⟨(w.heap.size + 1 + 1), 0, none⟩ (.int .i64 P5)).setCell ⟨(w.heap.size + 1 + 1), 1, none⟩ (.slice (some ⟨g5, 0, none⟩) T5.length tc5)).alloc o)) := fun o => by
            refine HEND.out _ P5 _ _ _ (((HW5.out.setCell (by show w.heap.size ≤ (w.heap.size + 1 + 1); omega) _).setCell (by show w.heap.size ≤ (w.heap.size + 1 + 1); omega) _).alloc (by have := HW5.out.size; simp; omega) _) ⟨T5, rfl, ?_, hleg5⟩ hpc (by omega)
            exact ((ints_set hin5 (show (w.heap.size + 1 + 1) ≠ g5 by omega) 0 _).1 |> fun h => (ints_set h (show (w.heap.size + 1 + 1) ≠ g5 by omega) 1 _).1).below (below_alloc1 _ _)
          clear hz5 hin5 hleg5
          have HS01 : Hid (∀ o, (((x5.setCell ⟨(w.heap.size + 1 + 1), 0, none⟩ (.int .i64 P5)).setCell ⟨(w.heap.size + 1 + 1), 1, none⟩ (.slice (some ⟨g5, 0, none⟩) T5.length tc5)).alloc o).cell? ⟨(w.heap.size + 1 + 1), 0, none⟩ = some (.int .i64 P5) ∧ (((x5.setCell ⟨(w.heap.size + 1 + 1), 0, none⟩ (.int .i64 P5)).setCell ⟨(w.heap.size + 1 + 1), 1, none⟩ (.slice (some ⟨g5, 0, none⟩) T5.length tc5)).alloc o).cell? ⟨(w.heap.size + 1 + 1), 1, none⟩ = some (.slice (some ⟨g5, 0, none⟩) T5.length tc5)) := fun o => ⟨(bcell (below_alloc1 _ _) _ _ (by simpa using hrz)).trans s0, (bcell (below_alloc1 _ _) _ _ (by simpa using hrz)).trans s1⟩
          clear s0 s1
          go_wp2_with fail
          obtain ⟨s0, s1⟩ := HS01.out (.cells #[.int .i64 P5, .slice (some ⟨g5, 0, none⟩) T5.length tc5] 30)
          exact bodyPost_ret (v := .tuple #[.agg #[.int .i64 P5, .slice (some ⟨g5, 0, none⟩) T5.length tc5], .int .i64 0]) (by simp [results, Try.results9, go_sem, s0, s1]) rfl (HF.out _)
        | false =>
          go_wp2_with fail
          go_roundw
          case rel => exact ⟨pc + 1, by go_num, by omega, HB5.out.alloc (by have := HB5.out.size; rw [HZ4.out] at this; exact this) _⟩
          case measure => simp [intOf]; omega
      · have HIN4 := hide (HIN3.out.below HBX.out)
        have n0 : wr.cell? ⟨(w.heap.size + 1 + 1), 0, none⟩ = some (.int .i64 0) := by rw [cell_of_block HZ.out]; rfl
        have n1 : wr.cell? ⟨(w.heap.size + 1 + 1), 1, none⟩ = some (.slice none 0 0) := by rw [cell_of_block HZ.out]; rfl
        have k0 : wr.frozen? ⟨(w.heap.size + 1 + 1), 0, none⟩ = false := by simp [World.frozen?, HZ.out]
        have k1 : wr.frozen? ⟨(w.heap.size + 1 + 1), 1, none⟩ = false := by simp [World.frozen?, HZ.out]
        obtain ⟨s0, s1⟩ := pair_set (a' := .int .i64 mx) (b' := .slice (some ⟨g3, 0, none⟩) L.body.length tc3) HZ.out
        have HF : Hid (MakeP L ⟨p0, p1, p2, q0, q1, q2, r⟩ least w (.returned (.tuple #[.agg #[.int .i64 mx, .slice (some ⟨g3, 0, none⟩) L.body.length tc3], .int .i64 0])) ((wr.setCell ⟨(w.heap.size + 1 + 1), 0, none⟩ (.int .i64 mx)).setCell ⟨(w.heap.size + 1 + 1), 1, none⟩ (.slice (some ⟨g3, 0, none⟩) L.body.length tc3))) := by
          refine HEND.out _ mx _ _ _ ((HWW.out.setCell (by show w.heap.size ≤ (w.heap.size + 1 + 1); omega) _).setCell (by show w.heap.size ≤ (w.heap.size + 1 + 1); omega) _) ⟨seqT L ⟨p0, p1, p2, q0, q1, q2, r⟩, HLEN.out.symm, ?_, HSEQ.out⟩ hmx1 (Int.le_refl _)
          exact (ints_set (ints_set HIN4.out (show (w.heap.size + 1 + 1) ≠ g3 by omega) 0 _).1 (show (w.heap.size + 1 + 1) ≠ g3 by omega) 1 _).1
        go_wp2_with fail
        exact bodyPost_ret (v := .tuple #[.agg #[.int .i64 mx, .slice (some ⟨g3, 0, none⟩) L.body.length tc3], .int .i64 0]) (by simp [results, Try.results9, go_sem, s0, s1]) rfl HF.out
theorem make_of (hE : EdgesC) (hB : BoundC) : MakeC := by
  intro v t L least w hL
  obtain ⟨p0, p1, p2, q0, q1, q2, r⟩ := t
  have hL' := hL
  obtain ⟨v0, v1, v2, rfl, ⟨a0, cap0, rfl, -⟩, ⟨a1, cap1, rfl, h1, h2, h3⟩, ⟨a2, cap2, rfl, -, -, -, -⟩⟩ := hL'
  cases hm : (mayB L && mayT ⟨p0, p1, p2, q0, q1, q2, r⟩) with
  | false => exact make_no hB p0 p1 p2 q0 q1 q2 r L a0 a1 a2 cap0 cap1 cap2 least w hL hm |>.mono fun e w' ⟨k1, P, ta, tl, tc, c, k2, k3, k4, k5⟩ => ⟨k1, P, ta, tl, tc, c, k2, by rw [hm] at k3; exact k3, by rw [hm] at k4; exact k4, by rw [hm] at k5; exact k5⟩
  | true =>
    have hm2 : mayB L = true ∧ mayT ⟨p0, p1, p2, q0, q1, q2, r⟩ = true := by simpa using hm
    cases hr : inR least 1 200 with
    | false => exact make_range hB p0 p1 p2 q0 q1 q2 r L a0 a1 a2 cap0 cap1 cap2 least w hL hm hr |>.mono fun e w' ⟨k1, P, ta, tl, tc, c, k2, k3, k4, k5⟩ => ⟨k1, P, ta, tl, tc, c, k2, by rw [hm] at k3; exact k3, by rw [hm, hr] at k4; exact k4, by rw [hm, hr] at k5; exact k5⟩
    | true =>
      have hr2 := inR_iff.1 hr
      obtain ⟨bb, bo, rfl, -, -⟩ := h3 (by have := (may_parts hm2.1).2.1; omega)
      exact make_yes hE hB p0 p1 p2 q0 q1 q2 r L a0 a2 bb bo cap0 cap1 cap2 least w hL hm2.1 hm2.2 hr2.1 hr2.2 |>.mono fun e w' ⟨k1, P, ta, tl, tc, c, k2, k3, k4, k5⟩ => ⟨k1, P, ta, tl, tc, c, k2, by rw [hm] at k3; exact k3, by rw [hm, hr] at k4; exact k4, by rw [hm, hr] at k5; exact k5⟩
end Go.Proofs.Ytjoapiafpahihab
/- Package sched's Make answers as MakeC says. -/
namespace Go.Proofs.Ytjoapiafpahihab
theorem make_all : MakeC := make_of depEdges_all bound_all
end Go.Proofs.Ytjoapiafpahihab
