/- What is due, in six lists by cycle, as the program keeps it; the Ops of a Slot; stores that wait: all of it against the document's own run; no Go in sight. -/
import Derived.Test.YtghlcmljgpkjiabGreatMaths
namespace Go.Proofs.YtghlcmljgpkjiabGreat
set_option linter.unusedVariables false

/-- those that are due in a cycle that leaves j -/
def lane (D : List Du) (j : Int) : List Du := D.filter fun d => decide (d.at_ % 6 = j)
theorem lane_snoc (D : List Du) (d : Du) (j : Int) : lane (D ++ [d]) j = if d.at_ % 6 = j then lane D j ++ [d] else lane D j := by
  unfold lane
  rw [List.filter_append]
  by_cases h : d.at_ % 6 = j
  · rw [if_pos h]; simp [h]
  · rw [if_neg h]; simp [h]
theorem duAt_left (D E : List Du) (k : Nat) (h : k < D.length) : duAt (D ++ E) k = duAt D k := by
  unfold duAt; simp [List.getD, List.getElem?_append, h]
theorem duAt_mid (D : List Du) (d : Du) : duAt (D ++ [d]) D.length = d := by
  unfold duAt; simp [List.getD]
theorem rest_left (now : Int) (D E : List Du) : ∀ k, k ≤ D.length → restN now (D ++ E) k = restN now D k := by
  intro k
  induction k with
  | zero => exact fun _ => rfl
  | succ k ih =>
    intro hk
    show (if (duAt (D ++ E) k).at_ = now then _ else _) = (if (duAt D k).at_ = now then _ else _)
    rw [duAt_left _ _ _ (by omega), ih (by omega)]
theorem snoc_induct {α : Type} {p : List α → Prop} (h0 : p []) (hs : ∀ l a, p l → p (l ++ [a])) (l : List α) : p l := by
  rw [← List.reverse_reverse l]
  induction l.reverse with
  | nil => exact h0
  | cons a r ih => rw [List.reverse_cons]; exact hs _ _ ih
theorem rest_filter (now : Int) (D : List Du) : restN now D D.length = D.filter fun d => !decide (d.at_ = now) := by
  refine snoc_induct (p := fun D => restN now D D.length = D.filter fun d => !decide (d.at_ = now)) rfl (fun l d ih => ?_) D
  rw [List.length_append, List.filter_append]
  show (if (duAt (l ++ [d]) l.length).at_ = now then restN now (l ++ [d]) l.length else restN now (l ++ [d]) l.length ++ [duAt (l ++ [d]) l.length]) = _
  rw [duAt_mid, rest_left _ _ _ _ (Nat.le_refl _), ih]
  by_cases e : d.at_ = now
  · rw [if_pos e]; simp [e]
  · rw [if_neg e]; simp [e]
/-- the Ops of a Slot, in order -/
def slotOf (l : List Kop) (s : Int) : List Kop := l.filter fun x => decide (x.sl = s)
/-- a store that waits: array, word, number -/
structure Sto where
  i : Nat
  j : Nat
  v : Int
def stoAt (l : List Sto) (k : Nat) : Sto := l.getD k ⟨0, 0, 0⟩
theorem stoAt_left (l r : List Sto) (k : Nat) (h : k < l.length) : stoAt (l ++ r) k = stoAt l k := by
  unfold stoAt; simp [List.getD, List.getElem?_append, h]
theorem stoAt_mid (l : List Sto) (d : Sto) : stoAt (l ++ [d]) l.length = d := by
  unfold stoAt; simp [List.getD]
end Go.Proofs.YtghlcmljgpkjiabGreat
