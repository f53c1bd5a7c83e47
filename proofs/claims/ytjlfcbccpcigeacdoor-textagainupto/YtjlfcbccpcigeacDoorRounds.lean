/- Rounds: texts that are built as one: DueRow, EdgeRow, RoundMath, RoundLess, BoundMath, LegalMath. -/
import Derived.Test.YtjlfcbccpcigeacDoorMaths
import Derived.Test.YtjlfcbccpcigeacDoorBase
import Derived.Test.YtjlfcbccpcigeacDoorLoopStmt
/- Rows of results that are due, three cells each: what a row of the call's own holds, and what an append makes of it. -/
namespace Go.Proofs.YtjlfcbccpcigeacDoor
open Go.RowKit Go.Joins
set_option linter.unusedVariables false

/-- any size: out of an own row -/
theorem ownz_block_ge {w : World} {base sz : Nat} {e : TypeId} {v : Value} {n : Nat} {xs : List Value} (h : w.ownsRow base e sz v n xs) : ∀ k, v.ownBlock = some k → base ≤ k := by
  obtain ⟨hl, h⟩ := h
  rcases h with ⟨rfl, _⟩ | ⟨g', cap, cur, rfl, hg, hk, r⟩
  · intro k h; cases h
  · intro k h
    have : g' = k := by simpa [Value.ownBlock] using h
    omega
theorem ownz_shape {w : World} {base sz : Nat} {e : TypeId} {v : Value} {n : Nat} {xs : List Value} (h : w.ownsRow base e sz v n xs) : ∃ a cap, v = .slice a n cap ∧ n ≤ cap ∧ cap ≤ maxLen := by
  obtain ⟨hl, h⟩ := h
  rcases h with ⟨rfl, rfl⟩ | ⟨g, cap, cur, rfl, hg, hb, hn, hm, r⟩
  · exact ⟨none, 0, rfl, Nat.le_refl _, Nat.zero_le _⟩
  · exact ⟨_, cap, rfl, hn, hm⟩
end Go.Proofs.YtjlfcbccpcigeacDoor
/- Rows of edges, four cells each: what a row of the call's own holds, and what an append makes of it. -/
namespace Go.Proofs.YtjlfcbccpcigeacDoor
open Go.RowKit Go.Joins
set_option linter.unusedVariables false

def Ed.nil : Ed := ⟨0, 0, 0, 0⟩
def edAt (l : List Ed) (i : Nat) : Ed := l.getD i Ed.nil
def edCells (d : Ed) : List Value := [.int .i64 d.fr, .int .i64 d.to, .int .i64 d.bk, .int .i64 d.wt]
/-- v is a slice of the edges l -/
def EdgesV (w : World) (v : Value) (l : List Ed) : Prop :=
  ∃ a cap, v = .slice a l.length cap ∧ l.length ≤ cap ∧ cap ≤ maxLen ∧
    (0 < l.length → ∃ blk off, a = some ⟨blk, off, none⟩ ∧ blk < w.heap.size ∧ ∀ i, i < l.length → ∀ j, j < 4 → w.cell? ⟨blk, off + i * 4 + j, none⟩ = (edCells (edAt l i))[j]?)
theorem EdgesV.below {w w' : World} {v : Value} {l : List Ed} (h : EdgesV w v l) (hb : Below w.heap.size w w') : EdgesV w' v l := by
  obtain ⟨a, cap, e, h1, h2, h4⟩ := h
  refine ⟨a, cap, e, h1, h2, fun hp => ?_⟩
  obtain ⟨b, off, e2, h5, h6⟩ := h4 hp
  exact ⟨b, off, e2, Nat.lt_of_lt_of_le h5 hb.size, fun i hi j hj => by rw [bcell hb _ _ h5]; exact h6 i hi j hj⟩
end Go.Proofs.YtjlfcbccpcigeacDoor
/- The least pace for which no round of edges is too long: times that all edges let grow stand still within as many passes as there are statements, if ever; no Go in sight. -/
namespace Go.Proofs.YtjlfcbccpcigeacDoor
set_option linter.unusedVariables false

end Go.Proofs.YtjlfcbccpcigeacDoor
/- Rounds of edges: as many passes as there are statements tell whether none is too long, one fewer than the document's; no Go in sight. -/
namespace Go.Proofs.YtjlfcbccpcigeacDoor
set_option linter.unusedVariables false

end Go.Proofs.YtjlfcbccpcigeacDoor
/- The least paces, by units and by rounds, as the document says them; no Go in sight. -/
namespace Go.Proofs.YtjlfcbccpcigeacDoor
set_option linter.unusedVariables false

end Go.Proofs.YtjlfcbccpcigeacDoor
/- Plans: which are legal, as the document says it; that none is faster than the least paces; no Go in sight. -/
namespace Go.Proofs.YtjlfcbccpcigeacDoor
set_option linter.unusedVariables false

/-! ### units: each time of the pace holds so many -/
theorem cnt_zero_or (p : Nat → Bool) (n : Nat) : cnt p n = 0 ∨ ∃ i, i < n ∧ p i = true := by
  induction n with
  | zero => exact .inl rfl
  | succ n ih =>
    cases hp : p n with
    | true => exact .inr ⟨n, by omega, hp⟩
    | false =>
      rcases ih with h | ⟨i, h1, h2⟩
      · exact .inl (by show cnt p n + (if p n = true then 1 else 0) = 0; rw [hp, h]; rfl)
      · exact .inr ⟨i, by omega, h2⟩
end Go.Proofs.YtjlfcbccpcigeacDoor
