/- Rows of a call's own whose room is known: what an append needs and gives; no Go in sight. -/
import Derived.Test.YtlgphgfldfjkkaaOwn
namespace Go.Proofs.Ytlgphgfldfjkkaa
open Go.RowKit Go.Joins
set_option linter.unusedVariables false

/-- block g is a row of cap elements of type e, none frozen, whose first n cells hold f -/
def RowX (w : World) (g : Nat) (e : TypeId) (cap n : Nat) (f : Nat → Value) : Prop :=
  ∃ cur : Array Value, w.heap[g]? = some (.cells cur e (0, 0)) ∧ cur.size = cap ∧ n ≤ cap ∧ ∀ i, i < n → cur[i]? = some (f i)
theorem RowX.row {w : World} {g : Nat} {e : TypeId} {cap n : Nat} {f : Nat → Value} (h : RowX w g e cap n f) : RowF w g e n f := by
  obtain ⟨c, hb, hs, hn, hc⟩ := h
  exact ⟨c, hb, by omega, hc⟩
theorem RowX.le {w : World} {g : Nat} {e : TypeId} {cap n : Nat} {f : Nat → Value} (h : RowX w g e cap n f) : n ≤ cap := by
  obtain ⟨c, hb, hs, hn, hc⟩ := h
  exact hn
theorem RowX.lt {w : World} {g : Nat} {e : TypeId} {cap n : Nat} {f : Nat → Value} (h : RowX w g e cap n f) : g < w.heap.size := h.row.lt
theorem RowX.congr {w : World} {g : Nat} {e : TypeId} {cap n : Nat} {f f' : Nat → Value} (h : RowX w g e cap n f) (he : ∀ i, i < n → f i = f' i) : RowX w g e cap n f' := by
  obtain ⟨c, hb, hs, hn, hc⟩ := h
  exact ⟨c, hb, hs, hn, fun i hi => by rw [hc i hi, he i hi]⟩
theorem RowX.of_block {w w' : World} {g : Nat} {e : TypeId} {cap n : Nat} {f : Nat → Value} (h : RowX w g e cap n f) (he : w'.heap[g]? = w.heap[g]?) : RowX w' g e cap n f := by
  obtain ⟨c, hb, hn, hc⟩ := h
  exact ⟨c, he.trans hb, hn, hc⟩
theorem RowX.setOther {w : World} {g : Nat} {e : TypeId} {cap n : Nat} {f : Nat → Value} (h : RowX w g e cap n f) {a : Addr} (ha : g ≠ a.block) (v : Value) : RowX (w.setCell a v) g e cap n f :=
  h.of_block (Below.heap_setCell _ _ _ _ ha)
theorem RowX.set {w : World} {g : Nat} {e : TypeId} {cap n : Nat} {f : Nat → Value} (h : RowX w g e cap n f) (i : Nat) (v : Value) (hi : i < n) : RowX (w.setCell ⟨g, i, none⟩ v) g e cap n (fun j => if j = i then v else f j) := by
  obtain ⟨c, hb, hs, hn, hc⟩ := h
  refine ⟨c.setIfInBounds i v, ?_, by simpa using hs, hn, fun j hj => ?_⟩
  · simp [World.setCell, Array.getElem?_modify, hb]
  · rw [Array.getElem?_setIfInBounds]
    by_cases e : j = i
    · subst e
      have : j < c.size := by omega
      simp [this]
    · rw [if_neg (fun h => e h.symm)]
      show c[j]? = some (if j = i then v else f j)
      rw [if_neg e]
      exact hc j hj
theorem RowX.below {w w' : World} {g B : Nat} {e : TypeId} {cap n : Nat} {f : Nat → Value} (h : RowX w g e cap n f) (hb : Below B w w') (hg : g < B) : RowX w' g e cap n f :=
  h.of_block (hb.block g hg)
theorem getD_range (f : Nat → Value) (n i : Nat) (h : i < n) : ((List.range n).map f).getD i (.bool false) = f i := by
  simp [List.getD, h]
/-- what an append asks -/
theorem RowX.own {w : World} {g base : Nat} {e : TypeId} {cap n : Nat} {f : Nat → Value} (h : RowX w g e cap n f) (hb : base ≤ g) (hm : cap ≤ maxLen) : w.ownsRow base e 1 (.slice (some ⟨g, 0, none⟩) n cap) n ((List.range n).map f) := by
  obtain ⟨c, hk, hs, hn, hc⟩ := h
  refine ⟨by simp, .inr ⟨g, cap, c, rfl, hb, hk, hn, hm, by omega, ?_⟩⟩
  rw [Nat.mul_one]
  refine List.ext_getElem? fun i => ?_
  rw [List.getElem?_take, List.getElem?_map]
  by_cases hi : i < n
  · rw [if_pos hi, Array.getElem?_toList, hc i hi]; simp [hi]
  · rw [if_neg hi, List.getElem?_eq_none (by simp; omega)]; rfl
/-- what an append gives -/
theorem own_x {w : World} {base g cap n : Nat} {e : TypeId} {xs : List Value} (h : w.ownsRow base e 1 (.slice (some ⟨g, 0, none⟩) n cap) n xs) : base ≤ g ∧ cap ≤ maxLen ∧ RowX w g e cap n (fun i => xs.getD i (.bool false)) := by
  obtain ⟨hl, h⟩ := h
  rcases h with ⟨h, hn⟩ | ⟨g', cap', cur, hv, hg, hb, hn, hm, hc, ht⟩
  · exact absurd h (by intro h; injection h with h1; cases h1)
  · injection hv with e1 e2 e3
    injection e1 with e1
    injection e1 with e1
    subst e1; subst e3
    refine ⟨hg, hm, cur, hb, by omega, hn, fun i hi => ?_⟩
    have h1 : (cur.toList.take (n * 1))[i]? = xs[i]? := by rw [ht]
    rw [List.getElem?_take, if_pos (by omega)] at h1
    have h2 : cur.toList[i]? = cur[i]? := by simp
    have h3 : xs[i]? = some (xs[i]'(by omega)) := List.getElem?_eq_getElem (by omega)
    rw [← h2, h1]
    show xs[i]? = some ((xs[i]?).getD (.bool false))
    rw [h3]; rfl
end Go.Proofs.Ytlgphgfldfjkkaa
