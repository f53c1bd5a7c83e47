/- SeqRuns' walk: for every loop and state in memory and every number of turns the law returns true; nothing that was there is changed. -/
import Derived.Test.YtjjiiacdblhnmaaSeqRun
import Derived.Test.YtjjiiacdblhnmaaRef3Play
import Derived.Test.YtjjiiacdblhnmaaRef3Wrong
import Derived.Test.YtjjiiacdblhnmaaRef3Same
namespace Go.Proofs.Ytjjiiacdblhnmaa
open Go.RowKit Go.Joins
set_option linter.unusedVariables false

/-- the cells of the law's own loop and state -/
theorem box2_cells {w wr : World} {l0 l1 l2 s0 s1 : Value} (h : Below (boxed2 w l0 l1 l2 s0 s1).heap.size (boxed2 w l0 l1 l2 s0 s1) wr) :
    wr.cell? ⟨w.heap.size, 0, none⟩ = some l0 ∧ wr.cell? ⟨w.heap.size, 1, none⟩ = some l1 ∧ wr.cell? ⟨w.heap.size, 2, none⟩ = some l2 ∧ wr.cell? ⟨w.heap.size + 1, 0, none⟩ = some s0 ∧ wr.cell? ⟨w.heap.size + 1, 1, none⟩ = some s1 ∧ w.heap.size < wr.heap.size ∧ w.heap.size + 1 < wr.heap.size := by
  have hz := h.size
  rw [boxed2_size] at hz
  refine ⟨?_, ?_, ?_, ?_, ?_, by omega, by omega⟩
  · rw [bcell h _ _ (by rw [boxed2_size]; omega)]; unfold boxed2; go_simp
  · rw [bcell h _ _ (by rw [boxed2_size]; omega)]; unfold boxed2; go_simp
  · rw [bcell h _ _ (by rw [boxed2_size]; omega)]; unfold boxed2; go_simp
  · rw [bcell h _ _ (by rw [boxed2_size]; omega)]; unfold boxed2; go_simp
  · rw [bcell h _ _ (by rw [boxed2_size]; omega)]; unfold boxed2; go_simp

set_option maxHeartbeats 1000000 in
theorem seqRuns_wrong (v s : Value) (L : Lp) (B M : List (List Int)) (turns c : Int) (w : World) (hL : LoopV w v L) (hS : StateV w s B M) (hw : wrongV L B M turns = c) (h0 : (c == 0) = false)
    (hrun : ∀ W, LoopV W v L → StateV W s B M → Calls Try.prog 18 #[v, s, .int .i64 turns] W fun e w' => e = .returned (.tuple #[.agg #[.slice none 0 0, .slice none 0 0], .int .i64 c]) ∧ Below W.heap.size W w') :
    Calls Try.prog 6 #[v, s, .int .i64 turns] w fun e w' => e = .returned (.bool true) ∧ Below w.heap.size w w' := by
  have h := hL
  have hs := hS
  obtain ⟨v0, v1, v2, rfl, -, -, -⟩ := h
  obtain ⟨s0, s1, rfl, -, -⟩ := hs
  have hne : (c != 0) = true := by simpa using h0
  have HR := hide hrun
  have HW := hide hw
  clear hrun hw h0
  go_enter Try.func6, Try.ntmps6
  go_wp2_with fail
  refine (HR.out _ (LoopV.below hL (below_alloc2 _ _ _)) (StateV.below hS (below_alloc2 _ _ _))).mono ?_
  rintro e w1 ⟨rfl, hb1⟩
  obtain ⟨x0, x1, x2, y0, y1, hz0, hz1⟩ := box2_cells (w := w) hb1
  have hw1 : Below w.heap.size w w1 := (below_alloc2 _ _ _).trans (hb1.mono (by simp; omega))
  have hw1a : Below w.heap.size w (w1.alloc (.cells #[.slice none 0 0, .slice none 0 0] 38)) := hw1.alloc (by omega) _
  have hwr := wrong_any _ _ L B M turns _ (LoopV.below hL hw1a) (StateV.below hS hw1a)
  rw [HW.out] at hwr
  have HWR := hide hwr
  have HW1 := hide hw1a
  clear hwr hw1 hw1a hb1
  go_wp2_with fail
  refine HWR.out.mono ?_
  rintro e w2 ⟨rfl, hb2⟩
  have hx0 : w2.cell? ⟨w1.heap.size, 0, none⟩ = some (.slice none 0 0) := by rw [bcell hb2 _ _ (by simp)]; go_simp
  have hx1 : w2.cell? ⟨w1.heap.size, 1, none⟩ = some (.slice none 0 0) := by rw [bcell hb2 _ _ (by simp)]; go_simp
  have HW2 := hide (HW1.out.trans (hb2.mono (by simp; omega)))
  clear hb2 HWR x0 x1 x2 y0 y1
  go_wp2_with fail
  refine (same_any _ _ _ _ [] [] [] [] _ (ints_nil _) (rows_nil _) (ints_nil _) (rows_nil _)).mono ?_
  rintro e w3 ⟨rfl, hb3⟩
  have HW3 := hide (HW2.out.trans (hb3.mono HW2.out.size))
  clear hb3
  go_wp2_with fail
  go_ret
  exact ⟨by simp, HW3.out⟩

set_option maxHeartbeats 1000000 in
theorem seqRuns_ok (v s : Value) (L : Lp) (B M : List (List Int)) (t : Nat) (w : World) (hL : LoopV w v L) (hS : StateV w s B M) (hf : fitsB L B M = true) (ht : t ≤ 200) (hLI : LoopIn L) (hB : RowsIn B) (hM : RowsIn M) :
    Calls Try.prog 6 #[v, s, .int .i64 t] w fun e w' => e = .returned (.bool true) ∧ Below w.heap.size w w' := by
  have h := hL
  have hs := hS
  obtain ⟨v0, v1, v2, rfl, -, -, -⟩ := h
  obtain ⟨s0, s1, rfl, -, -⟩ := hs
  have HF := hide hf
  have HW : Hid (wrongV L B M t = 0) := by show wrongV L B M t = 0; unfold wrongV; rw [if_pos hf, if_pos (by omega)]
  clear hf
  go_enter Try.func6, Try.ntmps6
  go_wp2_with fail
  refine (run_ok _ _ L B M t _ (LoopV.below hL (below_alloc2 _ _ _)) (StateV.below hS (below_alloc2 _ _ _)) HF.out ht hLI hB hM).mono ?_
  rintro e w1 ⟨ov, mv, rfl, hov, hmv, hb1⟩
  have HOV := hide hov
  have HMV := hide hmv
  obtain ⟨oa, oc, rfl, ol, om, -, -⟩ := hov
  obtain ⟨ma, mc, rfl, ml, mm, -⟩ := hmv
  obtain ⟨x0, x1, x2, y0, y1, hz0, hz1⟩ := box2_cells (w := w) hb1
  have hw1 : Below w.heap.size w w1 := (below_alloc2 _ _ _).trans (hb1.mono (by simp; omega))
  generalize (outsOf L B t (runS L B t (startS M))).length = ln at *
  generalize (memOf M (runS L B t (startS M))).length = lm at *
  have hba : Below w1.heap.size w1 (w1.alloc (.cells #[.slice oa ln oc, .slice ma lm mc] 38)) := below_alloc1 _ _
  have HBA := hide hba
  have HW1 := hide (hw1.trans (hba.mono (by omega)))
  have hwr := wrong_any _ _ L B M t _ (LoopV.below hL HW1.out) (StateV.below hS HW1.out)
  rw [HW.out] at hwr
  have HWR := hide hwr
  clear hwr hw1 hba hb1
  go_wp2_with fail
  refine HWR.out.mono ?_
  rintro e w2 ⟨rfl, hb2⟩
  have hx0 : w2.cell? ⟨w1.heap.size, 0, none⟩ = some (.slice oa ln oc) := by rw [bcell hb2 _ _ (by simp)]; go_simp
  have hx1 : w2.cell? ⟨w1.heap.size, 1, none⟩ = some (.slice ma lm mc) := by rw [bcell hb2 _ _ (by simp)]; go_simp
  have hc2 : ∀ b o, b < w1.heap.size → w2.cell? ⟨b, o, none⟩ = w1.cell? ⟨b, o, none⟩ := fun b o h => by rw [bcell hb2 _ _ (by simp; omega), bcell HBA.out _ _ h]
  rw [← hc2 _ _ hz0] at x0 x1 x2
  rw [← hc2 _ _ hz1] at y0 y1
  have hz2 : w1.heap.size < w2.heap.size := by have := hb2.size; simp at this; omega
  have HW2 := hide (HW1.out.trans (hb2.mono (by simp; omega)))
  have HWW := hide (HBA.out.trans (hb2.mono (by simp)))
  have HPL := hide (play_any _ _ L B M t _ (LoopV.below hL HW2.out) (StateV.below hS HW2.out) HF.out ht hLI hB hM)
  clear hb2 HWR hc2
  go_wp2_with fail
  refine HPL.out.mono ?_
  rintro e w3 ⟨pv, nv, rfl, hpv, hnv, hb3⟩
  have HPV := hide hpv
  have HNV := hide hnv
  obtain ⟨pa, pc, rfl, pl, pm, -, -⟩ := hpv
  obtain ⟨na, nc, rfl, nl, nm, -⟩ := hnv
  generalize (outsOf L B t (runS L B t (startS M))).length = ln2 at *
  generalize (memOf M (runS L B t (startS M))).length = lm2 at *
  rw [← bcell hb3 _ _ hz2] at hx0 hx1
  have hz3 : w1.heap.size < w3.heap.size := by have := hb3.size; omega
  have hbc : Below w3.heap.size w3 (w3.alloc (.cells #[.slice pa ln2 pc, .slice na lm2 nc] 38)) := below_alloc1 _ _
  have HBC := hide hbc
  have HW3 := hide (HW2.out.trans ((hb3.trans (hbc.mono hb3.size)).mono HW2.out.size))
  have HWX := hide (HWW.out.trans ((hb3.trans (hbc.mono hb3.size)).mono HWW.out.size))
  have HSA := hide (same_any _ _ _ _ _ _ _ _ _ (HOV.out.below HWX.out) (HMV.out.below HWX.out) (HPV.out.below HBC.out) (HNV.out.below HBC.out))
  clear hb3 hbc HPL x0 x1 x2 y0 y1
  go_wp2_with fail
  refine HSA.out.mono ?_
  rintro e w4 ⟨rfl, hb4⟩
  have HW4 := hide (HW3.out.trans (hb4.mono HW3.out.size))
  clear hb4 HSA
  go_wp2_with fail
  go_ret
  exact ⟨by simp, HW4.out⟩

theorem seqRuns_any (v s : Value) (L : Lp) (B M : List (List Int)) (turns : Int) (w : World) (hL : LoopV w v L) (hS : StateV w s B M) (hLI : LoopIn L) :
    Calls Try.prog 6 #[v, s, .int .i64 turns] w fun e w' => e = .returned (.bool true) ∧ Below w.heap.size w w' := by
  cases hf : fitsB L B M with
  | false => exact seqRuns_wrong v s L B M turns 2 w hL hS (by unfold wrongV; rw [hf]; rfl) rfl (fun W h1 h2 => run_form v s L B M turns W h1 h2 hf)
  | true =>
    by_cases ht : 0 ≤ turns ∧ turns ≤ 200
    · obtain ⟨t, rfl⟩ := Int.eq_ofNat_of_zero_le ht.1
      have hS' := hS
      obtain ⟨s0, s1, -, h1, h2⟩ := hS'
      exact seqRuns_ok v s L B M t w hL hS hf (by omega) hLI (rows_in h1) (rows_in h2)
    · exact seqRuns_wrong v s L B M turns 3 w hL hS (by unfold wrongV; rw [if_pos hf, if_neg ht]) rfl (fun W h1 h2 => run_range v s L B M turns W h1 h2 hf (by omega))
end Go.Proofs.Ytjjiiacdblhnmaa
