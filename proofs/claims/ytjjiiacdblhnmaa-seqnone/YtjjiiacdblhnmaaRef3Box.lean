/- The document's own run of a loop, as it begins: what it boxes, and where it first stands. -/
import Derived.Test.YtjjiiacdblhnmaaRef3Inv
namespace Go.Proofs.Ytjjiiacdblhnmaa
open Go.RowKit Go.Joins
set_option linter.unusedVariables false

theorem own_shape {w : World} {base : Nat} {e : TypeId} {v : Value} {n : Nat} {xs : List Value} (h : w.ownsRow base e 1 v n xs) : ∃ a cap, v = .slice a n cap ∧ n ≤ cap ∧ cap ≤ maxLen := by
  obtain ⟨hl, h⟩ := h
  rcases h with ⟨rfl, rfl⟩ | ⟨g, cap, cur, rfl, hg, hb, hn, hm, r⟩
  · exact ⟨none, 0, rfl, Nat.le_refl _, Nat.zero_le _⟩
  · exact ⟨_, cap, rfl, hn, hm⟩

/-- the world in which Play has boxed its loop, its state and its result -/
def boxed (w : World) (l0 l1 l2 s0 s1 : Value) : World := ((w.alloc (.cells #[l0, l1, l2] 30)).alloc (.cells #[s0, s1] 33)).alloc (.cells #[.slice none 0 0, .slice none 0 0] 38)
theorem boxed_size (w : World) (l0 l1 l2 s0 s1 : Value) : (boxed w l0 l1 l2 s0 s1).heap.size = w.heap.size + 3 := by unfold boxed; simp
theorem boxed_below (w : World) (l0 l1 l2 s0 s1 : Value) : Below w.heap.size w (boxed w l0 l1 l2 s0 s1) := below_alloc3 _ _ _ _
theorem boxed_cells {w wr : World} {l0 l1 l2 s0 s1 : Value} (h : Below (w.heap.size + 3) (boxed w l0 l1 l2 s0 s1) wr) :
    wr.cell? ⟨w.heap.size, 0, none⟩ = some l0 ∧ wr.cell? ⟨w.heap.size, 1, none⟩ = some l1 ∧ wr.cell? ⟨w.heap.size, 2, none⟩ = some l2 ∧ wr.cell? ⟨w.heap.size + 1, 0, none⟩ = some s0 ∧ wr.cell? ⟨w.heap.size + 1, 1, none⟩ = some s1 ∧
      Below w.heap.size w wr ∧ w.heap.size + 3 ≤ wr.heap.size := by
  have hz := h.size
  rw [boxed_size] at hz
  refine ⟨?_, ?_, ?_, ?_, ?_, (boxed_below w l0 l1 l2 s0 s1).trans (h.mono (by omega)), hz⟩
  · rw [h.cell (p := ⟨w.heap.size, 0, none⟩) (by show w.heap.size < _; omega)]; unfold boxed; go_simp
  · rw [h.cell (p := ⟨w.heap.size, 1, none⟩) (by show w.heap.size < _; omega)]; unfold boxed; go_simp
  · rw [h.cell (p := ⟨w.heap.size, 2, none⟩) (by show w.heap.size < _; omega)]; unfold boxed; go_simp
  · rw [h.cell (p := ⟨w.heap.size + 1, 0, none⟩) (by show w.heap.size + 1 < _; omega)]; unfold boxed; go_simp
  · rw [h.cell (p := ⟨w.heap.size + 1, 1, none⟩) (by show w.heap.size + 1 < _; omega)]; unfold boxed; go_simp

/-- the run's first stand -/
theorem PInv.first {w0 w1 : World} {am : Option Addr} {n capm turns N : Nat} {G C len : Nat → Nat} {f : Nat → Nat → Int} (hb : Below w0.heap.size w0 w1) (ho : w1.ownsRow w0.heap.size 36 1 (.slice am n capm) n ((List.range n).map (rowV G C len)))
    (hi : Inner w1 w0.heap.size G C n len f) : ∃ gm, PInv w0 w0.heap.size (.slice am n capm) gm capm w1.heap.size turns N n 0 G C len (fun _ => 0) ⟨f, fun _ _ => 0⟩ (w1.alloc (.cells (madeCells #[.slice none 0 0] turns) 36)) := by
  have hz := hb.size
  have hal := below_alloc1 w1 (.cells (madeCells #[.slice none 0 0] turns) 36)
  have hcommon : ∀ gm, (n = 0 ∨ (Value.slice am n capm = .slice (some ⟨gm, 0, none⟩) n capm ∧ n ≤ capm ∧ capm ≤ maxLen ∧ RowF w1 gm 36 n (rowV G C len) ∧ w0.heap.size ≤ gm ∧ gm < w1.heap.size)) →
      PInv w0 w0.heap.size (.slice am n capm) gm capm w1.heap.size turns N n 0 G C len (fun _ => 0) ⟨f, fun _ _ => 0⟩ (w1.alloc (.cells (madeCells #[.slice none 0 0] turns) 36)) := by
    intro gm hg
    refine { bel := hb.trans (hal.mono hz), outer := ?_, inner := hi.below hal, under := fun i h => (hi.1 i h).2.2.2.lt, hall := ?_, rows := fun i h => absurd h (Nat.not_lt_zero _), inj := fun i j h => absurd h (Nat.not_lt_zero _), hA := hz }
    · rcases hg with e | ⟨e1, e2, e3, e4, e5⟩
      · exact .inl e
      · exact .inr ⟨e1, e2, e3, e4.below hal e4.lt, e5⟩
    · exact (RowF.zeros w1 (.slice none 0 0) turns 36).congr fun i _ => by rw [if_neg (Nat.not_lt_zero _)]
  by_cases e : n = 0
  · exact ⟨0, hcommon 0 (.inl e)⟩
  · obtain ⟨g, cap, hv, hg, h1, h2, hr⟩ := own_parts ho (.inr (by omega))
    injection hv with e1 e2 e3
    subst e1; subst e3
    refine ⟨g, hcommon g (.inr ⟨rfl, h1, h2, hr.congr fun i hi => ?_, hg, hr.lt⟩)⟩
    simp [List.getD, hi]

end Go.Proofs.Ytjjiiacdblhnmaa
