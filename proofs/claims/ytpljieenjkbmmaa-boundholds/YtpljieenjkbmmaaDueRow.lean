/- Rows of results that are due, three cells each: what a row of the call's own holds, and what an append makes of it. -/
import Derived.Test.YtpljieenjkbmmaaKernRun
import Derived.Test.YtpljieenjkbmmaaOwn
namespace Go.Proofs.Ytpljieenjkbmmaa
open Go.RowKit Go.Joins
set_option linter.unusedVariables false

def duCells (d : Du) : List Value := [.int .i64 d.at_, .int .i64 d.rg, .int .i64 d.v]
def flatD (l : List Du) : List Value := l.flatMap duCells
theorem flatD_nil : flatD [] = [] := rfl
theorem flatD_snoc (l : List Du) (d : Du) : flatD l ++ duCells d = flatD (l ++ [d]) := by unfold flatD; simp
theorem flatD_len (l : List Du) : (flatD l).length = l.length * 3 := by
  induction l with
  | nil => rfl
  | cons d l ih =>
    show (duCells d ++ flatD l).length = (l.length + 1) * 3
    rw [List.length_append, ih]
    show 3 + _ = _
    omega
theorem flatD_get (l : List Du) : ∀ i c, i < l.length → c < 3 → (flatD l)[i * 3 + c]? = (duCells (duAt l i))[c]? := by
  induction l with
  | nil => intro i c h; exact absurd h (Nat.not_lt_zero _)
  | cons d l ih =>
    intro i c h hc
    show (duCells d ++ flatD l)[i * 3 + c]? = _
    have h3 : (duCells d).length = 3 := rfl
    cases i with
    | zero =>
      rw [List.getElem?_append_left (by omega), Nat.zero_mul, Nat.zero_add]
      rfl
    | succ i =>
      rw [List.getElem?_append_right (by omega), h3, show (i + 1) * 3 + c - 3 = i * 3 + c from by omega, ih i c (by simpa using h) hc]
      rfl
/-- any size: out of an own row -/
theorem ownz_block_ge {w : World} {base sz : Nat} {e : TypeId} {v : Value} {n : Nat} {xs : List Value} (h : w.ownsRow base e sz v n xs) : ∀ k, v.ownBlock = some k → base ≤ k := by
  obtain ⟨hl, h⟩ := h
  rcases h with ⟨rfl, _⟩ | ⟨g', cap, cur, rfl, hg, hk, r⟩
  · intro k h; cases h
  · intro k h
    have : g' = k := by simpa [Value.ownBlock] using h
    omega
theorem ownz_block_lt {w : World} {base sz : Nat} {e : TypeId} {v : Value} {n : Nat} {xs : List Value} (h : w.ownsRow base e sz v n xs) : ∀ k, v.ownBlock = some k → k < w.heap.size := by
  obtain ⟨hl, h⟩ := h
  rcases h with ⟨rfl, _⟩ | ⟨g', cap, cur, rfl, hg, hk, r⟩
  · intro k h; cases h
  · intro k h
    have e : g' = k := by simpa [Value.ownBlock] using h
    subst e
    exact (Array.getElem?_eq_some_iff.1 hk).1
theorem ownz_apart {w : World} {base sz : Nat} {e e' : TypeId} {v : Value} {n m : Nat} {xs : List Value} {g : Nat} {f : Nat → Value} (h : w.ownsRow base e sz v n xs) (hr : RowF w g e' m f) (he : e' ≠ e) : some g ≠ v.ownBlock := by
  obtain ⟨hl, h⟩ := h
  rcases h with ⟨rfl, _⟩ | ⟨g', cap, cur, rfl, hg, hk, r⟩
  · intro h; cases h
  · intro h
    have hgg : g = g' := by simpa [Value.ownBlock] using h
    subst hgg
    obtain ⟨c, hb, _, _⟩ := hr
    rw [hk] at hb
    have h1 := Option.some.inj hb
    injection h1 with _ h2
    exact he h2.symm
theorem ownz_shape {w : World} {base sz : Nat} {e : TypeId} {v : Value} {n : Nat} {xs : List Value} (h : w.ownsRow base e sz v n xs) : ∃ a cap, v = .slice a n cap ∧ n ≤ cap ∧ cap ≤ maxLen := by
  obtain ⟨hl, h⟩ := h
  rcases h with ⟨rfl, rfl⟩ | ⟨g, cap, cur, rfl, hg, hb, hn, hm, r⟩
  · exact ⟨none, 0, rfl, Nat.le_refl _, Nat.zero_le _⟩
  · exact ⟨_, cap, rfl, hn, hm⟩
theorem ownz_mono {w : World} {base base' sz : Nat} {e : TypeId} {v : Value} {n : Nat} {xs : List Value} (h : w.ownsRow base e sz v n xs) (hb : base' ≤ base) : w.ownsRow base' e sz v n xs := by
  obtain ⟨hl, h⟩ := h
  refine ⟨hl, ?_⟩
  rcases h with h | ⟨g, cap, cur, hv, hg, r⟩
  · exact .inl h
  · exact .inr ⟨g, cap, cur, hv, by omega, r⟩
/-- what leaves the row's block as it was -/
theorem ownz_keep {w w' : World} {base sz : Nat} {e : TypeId} {v : Value} {n : Nat} {xs : List Value} (h : w.ownsRow base e sz v n xs) (hk : ∀ g, v.ownBlock = some g → w'.heap[g]? = w.heap[g]?) : w'.ownsRow base e sz v n xs := by
  obtain ⟨hl, h⟩ := h
  refine ⟨hl, ?_⟩
  rcases h with h | ⟨g, cap, cur, hv, hg, hb, r⟩
  · exact .inl h
  · exact .inr ⟨g, cap, cur, hv, hg, by rw [hk g (by rw [hv]; rfl)]; exact hb, r⟩
/-- two own rows of two types -/
theorem ownz_two {w : World} {base base' sz sz' : Nat} {e e' : TypeId} {v v' : Value} {n n' : Nat} {xs xs' : List Value} (h : w.ownsRow base e sz v n xs) (h' : w.ownsRow base' e' sz' v' n' xs') (he : e ≠ e') : ∀ g, v.ownBlock = some g → some g ≠ v'.ownBlock := by
  intro g hg hg'
  obtain ⟨_, h⟩ := h
  obtain ⟨_, h'⟩ := h'
  rcases h with ⟨rfl, _⟩ | ⟨g1, c1, cur1, rfl, _, hb1, _⟩
  · cases hg
  rcases h' with ⟨rfl, _⟩ | ⟨g2, c2, cur2, rfl, _, hb2, _⟩
  · cases hg'
  have e1 : g1 = g := by simpa [Value.ownBlock] using hg
  have e2 : g = g2 := by simpa [Value.ownBlock] using hg'
  subst e1; subst e2
  rw [hb1] at hb2
  have h1 := Option.some.inj hb2
  injection h1 with _ h2
  exact he h2
/-- the cells of one that is due -/
theorem due_cells {w : World} {base : Nat} {e : TypeId} {v : Value} {l : List Du} (h : w.ownsRow base e 3 v l.length (flatD l)) (hp : 0 < l.length) :
    ∃ g cap, v = .slice (some ⟨g, 0, none⟩) l.length cap ∧ base ≤ g ∧ l.length ≤ cap ∧ cap ≤ maxLen ∧ g < w.heap.size ∧
      ∀ i, i < l.length → w.cell? ⟨g, i * 3, none⟩ = some (.int .i64 (duAt l i).at_) ∧ w.cell? ⟨g, i * 3 + 1, none⟩ = some (.int .i64 (duAt l i).rg) ∧ w.cell? ⟨g, i * 3 + 2, none⟩ = some (.int .i64 (duAt l i).v) := by
  obtain ⟨hl, h⟩ := h
  rcases h with ⟨_, hn⟩ | ⟨g, cap, cur, rfl, hg, hb, hn, hm, hc, ht⟩
  · omega
  · have key : ∀ i c, i < l.length → c < 3 → w.cell? ⟨g, i * 3 + c, none⟩ = (duCells (duAt l i))[c]? := fun i c hi hc3 => by
      rw [cell_of_block hb, ← flatD_get l i c hi hc3, ← ht, List.getElem?_take, if_pos (by omega)]
      simp
    exact ⟨g, cap, rfl, hg, hn, hm, (Array.getElem?_eq_some_iff.1 hb).1, fun i hi => ⟨key i 0 hi (by omega), key i 1 hi (by omega), key i 2 hi (by omega)⟩⟩
theorem three_cells (w : World) (a b c : Value) (t : TypeId) : ∀ (j : Nat) (u : Value), [a, b, c][j]? = some u → (w.alloc (.cells #[a, b, c] t)).cell? ((⟨w.heap.size, 0, none⟩ : Addr).add j) = some u := by
  intro j u hj
  have hb : (w.alloc (.cells #[a, b, c] t)).heap[w.heap.size]? = some (.cells #[a, b, c] t (0, 0)) := by
    show (w.heap.push _)[w.heap.size]? = _
    simp
  have ha : (⟨w.heap.size, 0, none⟩ : Addr).add j = ⟨w.heap.size, j, none⟩ := by simp [Addr.add]; omega
  rw [ha, cell_of_block hb]
  simpa using hj
end Go.Proofs.Ytpljieenjkbmmaa
