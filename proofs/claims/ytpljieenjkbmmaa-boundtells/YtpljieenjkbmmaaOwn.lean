/- Rows in memory of a call's own: what a block holds, cell by cell, and what new blocks and stores elsewhere leave of it; no Go in sight. -/
import Derived.WalkKit
import Derived.Below
import Derived.Deep.OwnRows
import Derived.Lib.SmallJoins
namespace Go.Proofs.Ytpljieenjkbmmaa
open Go.RowKit Go.Joins
set_option linter.unusedVariables false

/-- block g is a row of elements of type e, none frozen, whose first n cells hold f -/
def RowF (w : World) (g : Nat) (e : TypeId) (n : Nat) (f : Nat → Value) : Prop :=
  ∃ cur : Array Value, w.heap[g]? = some (.cells cur e (0, 0)) ∧ n ≤ cur.size ∧ ∀ i, i < n → cur[i]? = some (f i)

theorem RowF.cell {w : World} {g : Nat} {e : TypeId} {n : Nat} {f : Nat → Value} (h : RowF w g e n f) {i : Nat} (hi : i < n) : w.cell? ⟨g, i, none⟩ = some (f i) := by
  obtain ⟨c, hb, _, hc⟩ := h
  simp [World.cell?, hb, hc i hi]
theorem RowF.frozen {w : World} {g : Nat} {e : TypeId} {n : Nat} {f : Nat → Value} (h : RowF w g e n f) (i : Nat) : w.frozen? ⟨g, i, none⟩ = false := by
  obtain ⟨c, hb, _, _⟩ := h
  simp [World.frozen?, hb]
theorem RowF.lt {w : World} {g : Nat} {e : TypeId} {n : Nat} {f : Nat → Value} (h : RowF w g e n f) : g < w.heap.size := by
  obtain ⟨c, hb, _, _⟩ := h
  exact (Array.getElem?_eq_some_iff.1 hb).1
theorem RowF.congr {w : World} {g : Nat} {e : TypeId} {n : Nat} {f f' : Nat → Value} (h : RowF w g e n f) (he : ∀ i, i < n → f i = f' i) : RowF w g e n f' := by
  obtain ⟨c, hb, hn, hc⟩ := h
  exact ⟨c, hb, hn, fun i hi => by rw [hc i hi, he i hi]⟩
theorem RowF.of_block {w w' : World} {g : Nat} {e : TypeId} {n : Nat} {f : Nat → Value} (h : RowF w g e n f) (he : w'.heap[g]? = w.heap[g]?) : RowF w' g e n f := by
  obtain ⟨c, hb, hn, hc⟩ := h
  exact ⟨c, he.trans hb, hn, hc⟩
theorem RowF.set {w : World} {g : Nat} {e : TypeId} {n : Nat} {f : Nat → Value} (h : RowF w g e n f) (i : Nat) (v : Value) (hi : i < n) : RowF (w.setCell ⟨g, i, none⟩ v) g e n (fun j => if j = i then v else f j) := by
  obtain ⟨c, hb, hn, hc⟩ := h
  refine ⟨c.setIfInBounds i v, ?_, by simpa using hn, fun j hj => ?_⟩
  · simp [World.setCell, Array.getElem?_modify, hb]
  · rw [Array.getElem?_setIfInBounds]
    by_cases e : j = i
    · subst e
      have : j < c.size := by omega
      simp [this]
    · rw [if_neg (fun h => e h.symm)]
      show c[j]? = some (if j = i then v else f j)
      rw [if_neg e]
      exact hc j hj
theorem RowF.setOther {w : World} {g : Nat} {e : TypeId} {n : Nat} {f : Nat → Value} (h : RowF w g e n f) {a : Addr} (ha : g ≠ a.block) (v : Value) : RowF (w.setCell a v) g e n f :=
  h.of_block (Below.heap_setCell _ _ _ _ ha)
theorem RowF.alloc {w : World} {g : Nat} {e : TypeId} {n : Nat} {f : Nat → Value} (h : RowF w g e n f) (o : Obj) : RowF (w.alloc o) g e n f :=
  h.of_block (Below.heap_alloc _ _ _ h.lt)
theorem RowF.drawn {w : World} {g : Nat} {e : TypeId} {n : Nat} {f : Nat → Value} (h : RowF w g e n f) (k : Nat) : RowF (w.drewN k) g e n f := h
theorem RowF.grown {w w' : World} {g : Nat} {e : TypeId} {n : Nat} {f : Nat → Value} {row : Option Nat} (h : RowF w g e n f) (hg : w.grownBy w' row) (hr : some g ≠ row) : RowF w' g e n f :=
  h.of_block (hg.block g h.lt hr)
theorem RowF.below {w w' : World} {g B : Nat} {e : TypeId} {n : Nat} {f : Nat → Value} (h : RowF w g e n f) (hb : Below B w w') (hg : g < B) : RowF w' g e n f :=
  h.of_block (hb.block g hg)
/-- rows of two types are two -/
theorem RowF.apart {w : World} {g g' : Nat} {e e' : TypeId} {n n' : Nat} {f f' : Nat → Value} (h : RowF w g e n f) (h' : RowF w g' e' n' f') (he : e ≠ e') : g ≠ g' := by
  intro hg
  subst hg
  obtain ⟨c, hb, _, _⟩ := h
  obtain ⟨c', hb', _, _⟩ := h'
  rw [hb] at hb'
  have h1 := Option.some.inj hb'
  injection h1 with _ h2
  exact he h2
/-- a new row, written out -/
theorem RowF.made (w : World) (c : Array Value) (e : TypeId) (n : Nat) (f : Nat → Value) (hn : n ≤ c.size) (hf : ∀ i, i < n → c[i]? = some (f i)) : RowF (w.alloc (.cells c e)) w.heap.size e n f :=
  ⟨c, by show (w.heap.push _)[w.heap.size]? = _; simp, hn, hf⟩
theorem RowF.zeros (w : World) (z : Value) (n : Nat) (e : TypeId) : RowF (w.alloc (.cells (madeCells #[z] n) e)) w.heap.size e n (fun _ => z) := by
  obtain ⟨c, hb, hn, hc⟩ := World.rowIs_made w z n e
  exact ⟨c, hb, by omega, hc⟩
theorem RowF.less {w : World} {g : Nat} {e : TypeId} {n m : Nat} {f : Nat → Value} (h : RowF w g e n f) (hm : m ≤ n) : RowF w g e m f := by
  obtain ⟨c, hb, hn, hc⟩ := h
  exact ⟨c, hb, by omega, fun i hi => hc i (by omega)⟩

/-- out of the library's word for a row that was appended to -/
theorem own_parts {w : World} {base : Nat} {e : TypeId} {v : Value} {n : Nat} {xs : List Value} (h : w.ownsRow base e 1 v n xs) (hv : v ≠ .slice none 0 0 ∨ 0 < n) :
    ∃ g cap, v = .slice (some ⟨g, 0, none⟩) n cap ∧ base ≤ g ∧ n ≤ cap ∧ cap ≤ maxLen ∧ RowF w g e n (fun i => xs.getD i (.bool false)) := by
  obtain ⟨hl, h⟩ := h
  rcases h with ⟨rfl, hn⟩ | ⟨g, cap, cur, rfl, hg, hb, hn, hm, hc, ht⟩
  · rcases hv with hv | hv
    · exact absurd rfl hv
    · omega
  · refine ⟨g, cap, rfl, hg, hn, hm, cur, hb, by omega, fun i hi => ?_⟩
    have h1 : (cur.toList.take (n * 1))[i]? = xs[i]? := by rw [ht]
    rw [List.getElem?_take, if_pos (by omega)] at h1
    have h2 : cur.toList[i]? = cur[i]? := by simp
    have h3 : xs[i]? = some (xs[i]'(by omega)) := List.getElem?_eq_getElem (by omega)
    rw [← h2, h1]
    show xs[i]? = some ((xs[i]?).getD (.bool false))
    rw [h3]; rfl

theorem own_below {w w' : World} {base : Nat} {e : TypeId} {sz : Nat} {v : Value} {n : Nat} {xs : List Value} (h : w.ownsRow base e sz v n xs) (hb : Below w.heap.size w w') : w'.ownsRow base e sz v n xs := by
  obtain ⟨hl, h⟩ := h
  refine ⟨hl, ?_⟩
  rcases h with h | ⟨g, cap, cur, hv, hg, hk, r⟩
  · exact .inl h
  · exact .inr ⟨g, cap, cur, hv, hg, by rw [hb.block g (Array.getElem?_eq_some_iff.1 hk).1]; exact hk, r⟩
/-- a row of another type is not the one that an append writes to -/
theorem own_apart {w : World} {base : Nat} {e e' : TypeId} {v : Value} {n m : Nat} {xs : List Value} {g : Nat} {f : Nat → Value} (h : w.ownsRow base e 1 v n xs) (hr : RowF w g e' m f) (he : e' ≠ e) : some g ≠ v.ownBlock := by
  obtain ⟨hl, h⟩ := h
  rcases h with ⟨rfl, _⟩ | ⟨g', cap, cur, rfl, hg, hk, r⟩
  · intro h; cases h
  · intro h
    have hgg : g = g' := by simpa [Value.ownBlock] using h
    subst hgg
    obtain ⟨c, hb, _, _⟩ := hr
    rw [hk] at hb
    have h1 := Option.some.inj hb
    injection h1 with _ h2
    exact he h2.symm
theorem own_block_ge {w : World} {base : Nat} {e : TypeId} {v : Value} {n : Nat} {xs : List Value} (h : w.ownsRow base e 1 v n xs) : ∀ k, v.ownBlock = some k → base ≤ k := by
  obtain ⟨hl, h⟩ := h
  rcases h with ⟨rfl, _⟩ | ⟨g', cap, cur, rfl, hg, hk, r⟩
  · intro k h; cases h
  · intro k h
    have : g' = k := by simpa [Value.ownBlock] using h
    omega
/-- an empty slice literal of the call's own -/
theorem own_empty (w : World) (e : TypeId) : (w.alloc (.cells #[] e)).ownsRow w.heap.size e 1 (.slice (some ⟨w.heap.size, 0, none⟩) 0 0) 0 [] := by
  refine ⟨rfl, .inr ⟨w.heap.size, 0, #[], rfl, Nat.le_refl _, ?_, Nat.le_refl _, Nat.zero_le _, rfl, rfl⟩⟩
  show (w.heap.push _)[w.heap.size]? = _
  simp
end Go.Proofs.Ytpljieenjkbmmaa
