/- LoopTells' walk: for every loop and state in memory the law returns true; nothing that was there is changed. -/
import Derived.Test.YtgijlmmjmjjejaaLoopFits
import Derived.Test.YtgijlmmjmjjejaaRef2Fits
namespace Go.Proofs.Ytgijlmmjmjjejaa
open Go.RowKit Go.Joins
set_option linter.unusedVariables false

set_option maxHeartbeats 400000 in
theorem loopTells_any (v s : Value) (L : Lp) (B M : List (List Int)) (w : World) (hL : LoopV w v L) (hS : StateV w s B M) :
    Calls Try.prog 5 #[v, s] w fun e w' => e = .returned (.bool true) ∧ Below w.heap.size w w' := by
  have h := hL
  have hs := hS
  obtain ⟨v0, v1, v2, rfl, -, -, -⟩ := h
  obtain ⟨s0, s1, rfl, -, -⟩ := hs
  go_enter Try.func5, Try.ntmps5
  go_wp2_with fail
  refine (may_any _ L _ (LoopV.below hL (below_alloc2 _ _ _))).mono ?_
  rintro e w1 ⟨rfl, hb1⟩
  have hc1 := bcell hb1
  have hw1 : Below w.heap.size w w1 := (below_alloc2 _ _ _).trans (hb1.mono (by simp; omega))
  have hz1 : w.heap.size + 1 < w1.heap.size := by have := hb1.size; simp at this; omega
  go_wp2_with fail
  refine (fits_any _ _ L B M _ (LoopV.below hL hw1) (StateV.below hS hw1)).mono ?_
  rintro e w2 ⟨rfl, hb2⟩
  have hw2 : Below w.heap.size w w2 := hw1.trans (hb2.mono (by omega))
  have hz2 : w.heap.size + 1 < w2.heap.size := by have := hb2.size; omega
  have hc2 : ∀ b o, b < w.heap.size + 2 → w2.cell? ⟨b, o, none⟩ = w1.cell? ⟨b, o, none⟩ := fun b o h => bcell hb2 b o (by omega)
  go_wp2_with fail
  refine (rmay_any _ L _ (LoopV.below hL hw2)).mono ?_
  rintro e w3 ⟨rfl, hb3⟩
  have hw3 : Below w.heap.size w w3 := hw2.trans (hb3.mono (by omega))
  have hz3 : w.heap.size + 1 < w3.heap.size := by have := hb3.size; omega
  have hc3 : ∀ b o, b < w.heap.size + 2 → w3.cell? ⟨b, o, none⟩ = w2.cell? ⟨b, o, none⟩ := fun b o h => bcell hb3 b o (by omega)
  go_wp2_with fail
  refine (rfits_any _ _ L B M _ (LoopV.below hL hw3) (StateV.below hS hw3)).mono ?_
  rintro e w4 ⟨rfl, hb4⟩
  go_wp2_with fail
  go_ret
  exact ⟨by simp, hw3.trans (hb4.mono (by omega))⟩
end Go.Proofs.Ytgijlmmjmjjejaa
