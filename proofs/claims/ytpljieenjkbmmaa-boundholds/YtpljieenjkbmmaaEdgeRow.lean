/- Rows of edges, four cells each: what a row of the call's own holds, and what an append makes of it. -/
import Derived.Test.YtpljieenjkbmmaaDepMath
import Derived.Test.YtpljieenjkbmmaaDueRow
import Derived.Test.YtpljieenjkbmmaaLoopStmt
namespace Go.Proofs.Ytpljieenjkbmmaa
open Go.RowKit Go.Joins
set_option linter.unusedVariables false

def Ed.nil : Ed := ⟨0, 0, 0, 0⟩
def edAt (l : List Ed) (i : Nat) : Ed := l.getD i Ed.nil
def edCells (d : Ed) : List Value := [.int .i64 d.fr, .int .i64 d.to, .int .i64 d.bk, .int .i64 d.wt]
def flatE (l : List Ed) : List Value := l.flatMap edCells
theorem flatE_nil : flatE [] = [] := rfl
theorem flatE_snoc (l : List Ed) (d : Ed) : flatE l ++ edCells d = flatE (l ++ [d]) := by unfold flatE; simp
theorem flatE_len (l : List Ed) : (flatE l).length = l.length * 4 := by
  induction l with
  | nil => rfl
  | cons d l ih =>
    show (edCells d ++ flatE l).length = (l.length + 1) * 4
    rw [List.length_append, ih]
    show 4 + _ = _
    omega
theorem flatE_get (l : List Ed) : ∀ i c, i < l.length → c < 4 → (flatE l)[i * 4 + c]? = (edCells (edAt l i))[c]? := by
  induction l with
  | nil => intro i c h; exact absurd h (Nat.not_lt_zero _)
  | cons d l ih =>
    intro i c h hc
    show (edCells d ++ flatE l)[i * 4 + c]? = _
    have h3 : (edCells d).length = 4 := rfl
    cases i with
    | zero =>
      rw [List.getElem?_append_left (by omega), Nat.zero_mul, Nat.zero_add]
      rfl
    | succ i =>
      rw [List.getElem?_append_right (by omega), h3, show (i + 1) * 4 + c - 4 = i * 4 + c from by omega, ih i c (by simpa using h) hc]
      rfl
/-- v is a slice of the edges l -/
def EdgesV (w : World) (v : Value) (l : List Ed) : Prop :=
  ∃ a cap, v = .slice a l.length cap ∧ l.length ≤ cap ∧ cap ≤ maxLen ∧
    (0 < l.length → ∃ blk off, a = some ⟨blk, off, none⟩ ∧ blk < w.heap.size ∧ ∀ i, i < l.length → ∀ j, j < 4 → w.cell? ⟨blk, off + i * 4 + j, none⟩ = (edCells (edAt l i))[j]?)
theorem EdgesV.below {w w' : World} {v : Value} {l : List Ed} (h : EdgesV w v l) (hb : Below w.heap.size w w') : EdgesV w' v l := by
  obtain ⟨a, cap, e, h1, h2, h4⟩ := h
  refine ⟨a, cap, e, h1, h2, fun hp => ?_⟩
  obtain ⟨b, off, e2, h5, h6⟩ := h4 hp
  exact ⟨b, off, e2, Nat.lt_of_lt_of_le h5 hb.size, fun i hi j hj => by rw [bcell hb _ _ h5]; exact h6 i hi j hj⟩
theorem EdgesV.of_own {w : World} {base : Nat} {e : TypeId} {v : Value} {l : List Ed} (h : w.ownsRow base e 4 v l.length (flatE l)) : EdgesV w v l := by
  obtain ⟨hl, h⟩ := h
  rcases h with ⟨rfl, hn⟩ | ⟨g, cap, cur, rfl, hg, hb, hn, hm, hc, ht⟩
  · refine ⟨none, 0, by rw [hn], by omega, Nat.zero_le _, fun hp => by omega⟩
  · refine ⟨some ⟨g, 0, none⟩, cap, rfl, hn, hm, fun _ => ⟨g, 0, rfl, (Array.getElem?_eq_some_iff.1 hb).1, fun i hi j hj => ?_⟩⟩
    rw [Nat.zero_add, cell_of_block hb, ← flatE_get l i j hi hj, ← ht, List.getElem?_take, if_pos (by omega)]
    simp
theorem four_cells (w : World) (a b c d : Value) (t : TypeId) : ∀ (j : Nat) (u : Value), [a, b, c, d][j]? = some u → (w.alloc (.cells #[a, b, c, d] t)).cell? ((⟨w.heap.size, 0, none⟩ : Addr).add j) = some u := by
  intro j u hj
  have hb : (w.alloc (.cells #[a, b, c, d] t)).heap[w.heap.size]? = some (.cells #[a, b, c, d] t (0, 0)) := by
    show (w.heap.push _)[w.heap.size]? = _
    simp
  have ha : (⟨w.heap.size, 0, none⟩ : Addr).add j = ⟨w.heap.size, j, none⟩ := by simp [Addr.add]; omega
  rw [ha, cell_of_block hb]
  simpa using hj
end Go.Proofs.Ytpljieenjkbmmaa
