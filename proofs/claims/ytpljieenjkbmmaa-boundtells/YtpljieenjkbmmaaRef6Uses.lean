/- Contracts of the document's own answer on what a statement looks at, as a list; nothing that was there is changed. -/
import Derived.Test.YtpljieenjkbmmaaDepMath
import Derived.Test.YtpljieenjkbmmaaRef2Stmt
namespace Go.Proofs.Ytpljieenjkbmmaa
open Go.RowKit Go.Joins
set_option linter.unusedVariables false

/-- v is a slice of the Refs l -/
def RefsV (w : World) (v : Value) (l : List (Int × Int)) : Prop :=
  ∃ a cap, v = .slice a l.length cap ∧ l.length ≤ cap ∧ cap ≤ maxLen ∧
    (0 < l.length → ∃ blk off, a = some ⟨blk, off, none⟩ ∧ blk < w.heap.size ∧ ∀ i, i < l.length → w.cell? ⟨blk, off + i * 2, none⟩ = some (.int .i64 (refAt l i).1) ∧ w.cell? ⟨blk, off + i * 2 + 1, none⟩ = some (.int .i64 (refAt l i).2))
theorem RefsV.below {w w' : World} {v : Value} {l : List (Int × Int)} (h : RefsV w v l) (hb : Below w.heap.size w w') : RefsV w' v l := by
  obtain ⟨a, cap, e, h1, h2, h4⟩ := h
  refine ⟨a, cap, e, h1, h2, fun hp => ?_⟩
  obtain ⟨b, off, e2, h5, h6⟩ := h4 hp
  exact ⟨b, off, e2, Nat.lt_of_lt_of_le h5 hb.size, fun i hi => by rw [bcell hb _ _ h5, bcell hb _ _ h5]; exact h6 i hi⟩
theorem uses_any (s : St) (w : World) : Calls Try.prog 90 #[.agg (stCells s)] w fun e w' => ∃ v, e = .returned v ∧ RefsV w' v (usesL s) ∧ Below w.heap.size w w' := by
  obtain ⟨o, xa, xb, ya, yb, ar, sp, pl, nn⟩ := s
  by_cases h4 : o = 4
  · subst h4
    refine (uses_4 xa xb ya yb ar sp pl nn w).mono fun e w' ⟨h1, h2⟩ => ⟨_, h1, ?_, by rw [h2]; exact below_alloc2 _ _ _⟩
    have e : usesL ⟨4, xa, xb, ya, yb, ar, sp, pl, nn⟩ = [(xa, xb)] := rfl
    rw [e, h2]
    refine ⟨_, _, rfl, Nat.le_refl _, by unfold maxLen; omega, fun _ => ⟨w.heap.size + 1, 0, rfl, by simp, fun i hi => ?_⟩⟩
    have hi0 : i = 0 := by have : i < 1 := hi; omega
    subst hi0
    exact ⟨by go_simp; rfl, by go_simp; rfl⟩
  · by_cases h10 : 10 < o
    · refine (uses_op o xa xb ya yb ar sp pl nn w (by simpa using h4) h10).mono fun e w' ⟨h1, h2⟩ => ⟨_, h1, ?_, by rw [h2]; exact below_alloc2 _ _ _⟩
      have e : usesL ⟨o, xa, xb, ya, yb, ar, sp, pl, nn⟩ = [(xa, xb), (ya, yb)] := by unfold usesL; rw [if_neg h4, if_pos h10]
      rw [e, h2]
      refine ⟨_, _, rfl, Nat.le_refl _, by unfold maxLen; omega, fun _ => ⟨w.heap.size + 1, 0, rfl, by simp, fun i hi => ?_⟩⟩
      have hi0 : i = 0 ∨ i = 1 := by have : i < 2 := hi; omega
      rcases hi0 with rfl | rfl
      · exact ⟨by go_simp; rfl, by go_simp; rfl⟩
      · exact ⟨by go_simp; rfl, by go_simp; rfl⟩
    · refine (uses_0 o xa xb ya yb ar sp pl nn w (by simpa using h4) h10).mono fun e w' ⟨h1, h2⟩ => ⟨_, h1, ?_, by rw [h2]; exact below_alloc1 _ _⟩
      have e : usesL ⟨o, xa, xb, ya, yb, ar, sp, pl, nn⟩ = [] := by unfold usesL; rw [if_neg h4, if_neg h10]
      rw [e]
      exact ⟨none, 0, rfl, Nat.le_refl _, Nat.zero_le _, fun hp => absurd hp (Nat.lt_irrefl _)⟩
end Go.Proofs.Ytpljieenjkbmmaa
