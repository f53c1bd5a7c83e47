/- A loop under way in memory: its block, its three rows, no two of which lie in one block; what appends, stores and new memory leave of it; no walk. -/
import Derived.Test.YtjlfcbccpcigeacDoorRef14Stmt
import Derived.Test.YtjlfcbccpcigeacDoorRef14Take
import Derived.Test.YtjlfcbccpcigeacDoorRounds
import Derived.Maps.AppendAt
import Derived.Deep.AppendLies
namespace Go.Proofs.YtjlfcbccpcigeacDoor
open Go.RowKit Go.Joins
set_option linter.unusedVariables false

theorem own_keptP {x w1 : World} {base : Nat} {e : TypeId} {sz n : Nat} {v : Value} {xs : List Value} {row : Option Nat} (h : x.ownsRow base e sz v n xs) (hg : x.grownBy w1 row) (hne : ∀ g, v.ownBlock = some g → row ≠ some g) : w1.ownsRow base e sz v n xs := by
  obtain ⟨hl, h⟩ := h
  refine ⟨hl, ?_⟩
  rcases h with h | ⟨g, cap, cur, hv, hb, hk, r⟩
  · exact .inl h
  · refine .inr ⟨g, cap, cur, hv, hb, ?_, r⟩
    rw [hg.block g (Array.getElem?_eq_some_iff.1 hk).1 (fun e => hne g (by rw [hv]; rfl) e.symm)]
    exact hk
theorem own_setP {x : World} {base y : Nat} {e : TypeId} {sz n : Nat} {v u : Value} {xs : List Value} {o : Nat} (h : x.ownsRow base e sz v n xs) (hy : y < base) : (x.setCell ⟨y, o, none⟩ u).ownsRow base e sz v n xs := by
  obtain ⟨hl, h⟩ := h
  refine ⟨hl, ?_⟩
  rcases h with h | ⟨g, cap, cur, hv, hb, hk, r⟩
  · exact .inl h
  · exact .inr ⟨g, cap, cur, hv, hb, by rw [Below.heap_setCell _ _ _ _ (show g ≠ y by omega)]; exact hk, r⟩
theorem ownz_geP {w : World} {base sz : Nat} {e : TypeId} {v : Value} {n : Nat} {xs : List Value} (h : w.ownsRow base e sz v n xs) : ∀ k, v.ownBlock = some k → base ≤ k := by
  obtain ⟨hl, h⟩ := h
  rcases h with ⟨rfl, _⟩ | ⟨g', cap, cur, rfl, hg, hk, r⟩
  · intro k h; cases h
  · intro k h
    have : g' = k := by simpa [Value.ownBlock] using h
    omega
theorem ownz_ltP {w : World} {base sz : Nat} {e : TypeId} {v : Value} {n : Nat} {xs : List Value} (h : w.ownsRow base e sz v n xs) : ∀ k, v.ownBlock = some k → k < w.heap.size := by
  obtain ⟨hl, h⟩ := h
  rcases h with ⟨rfl, _⟩ | ⟨g', cap, cur, rfl, hg, hk, r⟩
  · intro k h; cases h
  · intro k h
    have : g' = k := by simpa [Value.ownBlock] using h
    subst this
    exact (Array.getElem?_eq_some_iff.1 hk).1
/-- no block of one is a block of the other -/
def apP (u v : Value) : Prop := ∀ g, u.ownBlock = some g → v.ownBlock ≠ some g
theorem apP.symm {u v : Value} (h : apP u v) : apP v u := fun g h1 h2 => h g h2 h1
def flatSP (l : List St) : List Value := l.flatMap fun x => (stCells x).toList
theorem flatSP_snoc (l : List St) (x : St) : flatSP (l ++ [x]) = flatSP l ++ (stCells x).toList := by unfold flatSP; rw [List.flatMap_append]; simp
theorem flatSP_len (l : List St) : (flatSP l).length = l.length * 9 := by
  induction l with
  | nil => rfl
  | cons x l ih =>
    show ((stCells x).toList ++ flatSP l).length = _
    rw [List.length_append, ih, List.length_cons]
    show 9 + _ = _
    omega
theorem flatSP_get (l : List St) : ∀ i j, i < l.length → j < 9 → (flatSP l)[i * 9 + j]? = (stCells (stAt l i))[j]? := by
  induction l with
  | nil => intro i j hi; exact absurd hi (Nat.not_lt_zero _)
  | cons x l ih =>
    intro i j hi hj
    show ((stCells x).toList ++ flatSP l)[i * 9 + j]? = _
    have h9 : (stCells x).toList.length = 9 := rfl
    cases i with
    | zero =>
      rw [List.getElem?_append_left (by omega), Nat.zero_mul, Nat.zero_add]
      simp [stAt]
    | succ i =>
      rw [List.getElem?_append_right (by omega), h9, show (i + 1) * 9 + j - 9 = i * 9 + j by omega, ih i j (by simpa using hi) hj]
      rfl
def cellsP (l : List Int) : List Value := l.map (Value.int .i64)
theorem cellsP_snoc (l : List Int) (z : Int) : cellsP (l ++ [z]) = cellsP l ++ [.int .i64 z] := by unfold cellsP; rw [List.map_append]; rfl
theorem Ints.of_ownP {w : World} {base : Nat} {e : TypeId} {v : Value} {l : List Int} (h : w.ownsRow base e 1 v l.length (cellsP l)) (hr : ∀ z ∈ l, -9223372036854775808 ≤ z ∧ z ≤ 9223372036854775807) : Ints w v l := by
  have hr' : ∀ i, i < l.length → -9223372036854775808 ≤ nth l i ∧ nth l i ≤ 9223372036854775807 := fun i hi => hr _ (by unfold nth; rw [List.getD, List.getElem?_eq_getElem hi]; exact List.getElem_mem _)
  obtain ⟨hl, h⟩ := h
  rcases h with ⟨rfl, hn⟩ | ⟨g, cap, cur, rfl, hg, hb, hn, hm, hc, ht⟩
  · exact ⟨none, 0, by rw [hn], by omega, Nat.zero_le _, hr', fun hp => by omega⟩
  · refine ⟨some ⟨g, 0, none⟩, cap, rfl, hn, hm, hr', fun _ => ⟨g, 0, rfl, (Array.getElem?_eq_some_iff.1 hb).1, fun i hi => ?_⟩⟩
    have h1 : (cur.toList.take (l.length * 1))[i]? = (cellsP l)[i]? := by rw [ht]
    rw [List.getElem?_take, if_pos (by omega)] at h1
    rw [Nat.zero_add, cell_of_block hb]
    have h2 : cur.toList[i]? = cur[i]? := by simp
    rw [← h2, h1]
    unfold cellsP nth
    rw [List.getElem?_map, List.getD, List.getElem?_eq_getElem hi]
    rfl
theorem Stmts.of_ownP {w : World} {base : Nat} {e : TypeId} {v : Value} {l : List St} (h : w.ownsRow base e 9 v l.length (flatSP l)) : Stmts w v l := by
  obtain ⟨hl, h⟩ := h
  rcases h with ⟨rfl, hn⟩ | ⟨g, cap, cur, rfl, hg, hb, hn, hm, hc, ht⟩
  · exact ⟨none, 0, by rw [hn], by omega, Nat.zero_le _, fun hp => by omega⟩
  · refine ⟨some ⟨g, 0, none⟩, cap, rfl, hn, hm, fun _ => ⟨g, 0, rfl, (Array.getElem?_eq_some_iff.1 hb).1, fun i hi j hj => ?_⟩⟩
    rw [Nat.zero_add, cell_of_block hb, ← flatSP_get l i j hi hj, ← ht, List.getElem?_take, if_pos (by omega)]
    simp
/-- a loop under way -/
structure LpM (x1 : World) (y : Nat) (lv bv ov : Value) (nl nb no : Nat) (ll : List Int) (bl : List St) (ol : List Int) (wr : World) : Prop where
  bel : Below y x1 wr
  blk : wr.heap[y]? = some (.cells #[lv, bv, ov] 25 (0, 0))
  ol_ : wr.ownsRow (y + 1) 3 1 lv nl (cellsP ll)
  ob : wr.ownsRow (y + 1) 53 9 bv nb (flatSP bl)
  oo : wr.ownsRow (y + 1) 3 1 ov no (cellsP ol)
  alb : apP lv bv
  alo : apP lv ov
  abo : apP bv ov
variable {x1 wr wr' : World} {y : Nat} {lv bv ov : Value} {nl nb no : Nat} {ll ol : List Int} {bl : List St}
theorem LpM.lt (h : LpM x1 y lv bv ov nl nb no ll bl ol wr) : y < wr.heap.size := (Array.getElem?_eq_some_iff.1 h.blk).1
theorem LpM.below (h : LpM x1 y lv bv ov nl nb no ll bl ol wr) (hb : Below wr.heap.size wr wr') : LpM x1 y lv bv ov nl nb no ll bl ol wr' :=
  ⟨h.bel.trans (hb.mono (Nat.le_of_lt h.lt)), (hb.block _ h.lt).trans h.blk, own_below h.ol_ hb, own_below h.ob hb, own_below h.oo hb, h.alb, h.alo, h.abo⟩
theorem LpM.cells (h : LpM x1 y lv bv ov nl nb no ll bl ol wr) : wr.cell? ⟨y, 0, none⟩ = some lv ∧ wr.cell? ⟨y, 1, none⟩ = some bv ∧ wr.cell? ⟨y, 2, none⟩ = some ov := by
  have key := cell_of_block h.blk
  refine ⟨?_, ?_, ?_⟩ <;> rw [key] <;> rfl
theorem LpM.grow_l (h : LpM x1 y lv bv ov nl nb no ll bl ol wr) {w1 : World} (hg : wr.grownBy w1 lv.ownBlock) : w1.heap[y]? = some (.cells #[lv, bv, ov] 25 (0, 0)) ∧ Below y x1 w1 := by
  have hge := ownz_geP h.ol_
  refine ⟨?_, h.bel.grown hg (Nat.le_of_lt h.lt) fun q hq => by have := hge q hq; omega⟩
  rw [hg.block y h.lt (fun e => by have := hge y e.symm; omega)]
  exact h.blk
theorem LpM.push_l (h : LpM x1 y lv bv ov nl nb no ll bl ol wr) {w1 : World} {g cap H : Nat} {z : Int} (ho : w1.ownsRow (y + 1) 3 1 (.slice (some ⟨g, 0, none⟩) (nl + 1) cap) (nl + 1) (cellsP ll ++ [.int .i64 z])) (hg : wr.grownBy w1 lv.ownBlock) (hat : lv.ownBlock = some g ∨ g = H) (hH : wr.heap.size = H) :
    LpM x1 y (.slice (some ⟨g, 0, none⟩) (nl + 1) cap) bv ov (nl + 1) nb no (ll ++ [z]) bl ol (w1.setCell ⟨y, 0, none⟩ (.slice (some ⟨g, 0, none⟩) (nl + 1) cap)) := by
  obtain ⟨hb, hx⟩ := h.grow_l hg
  rw [← cellsP_snoc] at ho
  have a_b : apP (.slice (some ⟨g, 0, none⟩) (nl + 1) cap) bv := fun g' h1 h2 => by
    have e : g = g' := by simpa [Value.ownBlock] using h1
    subst e
    rcases hat with hat | hat
    · exact h.alb g hat h2
    · have := ownz_ltP h.ob g h2; omega
  have o_b := own_keptP h.ob hg (fun g' h1 h2 => h.alb g' h2 h1)
  have a_o : apP (.slice (some ⟨g, 0, none⟩) (nl + 1) cap) ov := fun g' h1 h2 => by
    have e : g = g' := by simpa [Value.ownBlock] using h1
    subst e
    rcases hat with hat | hat
    · exact h.alo g hat h2
    · have := ownz_ltP h.oo g h2; omega
  have o_o := own_keptP h.oo hg (fun g' h1 h2 => h.alo g' h2 h1)
  refine ⟨hx.setCell (Nat.le_refl _) _, ?_, (own_setP ho (Nat.lt_succ_self _)), (own_setP o_b (Nat.lt_succ_self _)), (own_setP o_o (Nat.lt_succ_self _)), a_b, a_o, h.abo⟩
  simp [World.setCell, Array.getElem?_modify, hb]
theorem LpM.grow_b (h : LpM x1 y lv bv ov nl nb no ll bl ol wr) {w1 : World} (hg : wr.grownBy w1 bv.ownBlock) : w1.heap[y]? = some (.cells #[lv, bv, ov] 25 (0, 0)) ∧ Below y x1 w1 := by
  have hge := ownz_geP h.ob
  refine ⟨?_, h.bel.grown hg (Nat.le_of_lt h.lt) fun q hq => by have := hge q hq; omega⟩
  rw [hg.block y h.lt (fun e => by have := hge y e.symm; omega)]
  exact h.blk
theorem LpM.push_b (h : LpM x1 y lv bv ov nl nb no ll bl ol wr) {w1 : World} {g cap H : Nat} {z : St} (ho : w1.ownsRow (y + 1) 53 9 (.slice (some ⟨g, 0, none⟩) (nb + 1) cap) (nb + 1) (flatSP bl ++ (stCells z).toList)) (hg : wr.grownBy w1 bv.ownBlock) (hat : bv.ownBlock = some g ∨ g = H) (hH : wr.heap.size = H) :
    LpM x1 y lv (.slice (some ⟨g, 0, none⟩) (nb + 1) cap) ov nl (nb + 1) no ll (bl ++ [z]) ol (w1.setCell ⟨y, 1, none⟩ (.slice (some ⟨g, 0, none⟩) (nb + 1) cap)) := by
  obtain ⟨hb, hx⟩ := h.grow_b hg
  rw [← flatSP_snoc] at ho
  have a_l : apP (.slice (some ⟨g, 0, none⟩) (nb + 1) cap) lv := fun g' h1 h2 => by
    have e : g = g' := by simpa [Value.ownBlock] using h1
    subst e
    rcases hat with hat | hat
    · exact h.alb.symm g hat h2
    · have := ownz_ltP h.ol_ g h2; omega
  have o_l := own_keptP h.ol_ hg (fun g' h1 h2 => h.alb.symm g' h2 h1)
  have a_o : apP (.slice (some ⟨g, 0, none⟩) (nb + 1) cap) ov := fun g' h1 h2 => by
    have e : g = g' := by simpa [Value.ownBlock] using h1
    subst e
    rcases hat with hat | hat
    · exact h.abo g hat h2
    · have := ownz_ltP h.oo g h2; omega
  have o_o := own_keptP h.oo hg (fun g' h1 h2 => h.abo g' h2 h1)
  refine ⟨hx.setCell (Nat.le_refl _) _, ?_, (own_setP o_l (Nat.lt_succ_self _)), (own_setP ho (Nat.lt_succ_self _)), (own_setP o_o (Nat.lt_succ_self _)), a_l.symm, h.alo, a_o⟩
  simp [World.setCell, Array.getElem?_modify, hb]
theorem LpM.grow_o (h : LpM x1 y lv bv ov nl nb no ll bl ol wr) {w1 : World} (hg : wr.grownBy w1 ov.ownBlock) : w1.heap[y]? = some (.cells #[lv, bv, ov] 25 (0, 0)) ∧ Below y x1 w1 := by
  have hge := ownz_geP h.oo
  refine ⟨?_, h.bel.grown hg (Nat.le_of_lt h.lt) fun q hq => by have := hge q hq; omega⟩
  rw [hg.block y h.lt (fun e => by have := hge y e.symm; omega)]
  exact h.blk
theorem LpM.push_o (h : LpM x1 y lv bv ov nl nb no ll bl ol wr) {w1 : World} {g cap H : Nat} {z : Int} (ho : w1.ownsRow (y + 1) 3 1 (.slice (some ⟨g, 0, none⟩) (no + 1) cap) (no + 1) (cellsP ol ++ [.int .i64 z])) (hg : wr.grownBy w1 ov.ownBlock) (hat : ov.ownBlock = some g ∨ g = H) (hH : wr.heap.size = H) :
    LpM x1 y lv bv (.slice (some ⟨g, 0, none⟩) (no + 1) cap) nl nb (no + 1) ll bl (ol ++ [z]) (w1.setCell ⟨y, 2, none⟩ (.slice (some ⟨g, 0, none⟩) (no + 1) cap)) := by
  obtain ⟨hb, hx⟩ := h.grow_o hg
  rw [← cellsP_snoc] at ho
  have a_l : apP (.slice (some ⟨g, 0, none⟩) (no + 1) cap) lv := fun g' h1 h2 => by
    have e : g = g' := by simpa [Value.ownBlock] using h1
    subst e
    rcases hat with hat | hat
    · exact h.alo.symm g hat h2
    · have := ownz_ltP h.ol_ g h2; omega
  have o_l := own_keptP h.ol_ hg (fun g' h1 h2 => h.alo.symm g' h2 h1)
  have a_b : apP (.slice (some ⟨g, 0, none⟩) (no + 1) cap) bv := fun g' h1 h2 => by
    have e : g = g' := by simpa [Value.ownBlock] using h1
    subst e
    rcases hat with hat | hat
    · exact h.abo.symm g hat h2
    · have := ownz_ltP h.ob g h2; omega
  have o_b := own_keptP h.ob hg (fun g' h1 h2 => h.abo.symm g' h2 h1)
  refine ⟨hx.setCell (Nat.le_refl _) _, ?_, (own_setP o_l (Nat.lt_succ_self _)), (own_setP o_b (Nat.lt_succ_self _)), (own_setP ho (Nat.lt_succ_self _)), h.alb, a_l.symm, a_b.symm⟩
  simp [World.setCell, Array.getElem?_modify, hb]
/-- a loop's beginning -/
theorem LpM.start (x1 : World) : LpM x1 x1.heap.size (.slice none 0 0) (.slice none 0 0) (.slice none 0 0) 0 0 0 [] [] [] (x1.alloc (.cells #[.slice none 0 0, .slice none 0 0, .slice none 0 0] 25)) := by
  refine ⟨below_alloc1 _ _, ?_, ⟨rfl, .inl ⟨rfl, rfl⟩⟩, ⟨rfl, .inl ⟨rfl, rfl⟩⟩, ⟨rfl, .inl ⟨rfl, rfl⟩⟩, ?_, ?_, ?_⟩
  · show (x1.heap.push _)[x1.heap.size]? = _
    simp
  all_goals (intro g h; cases h)
theorem LpM.nums (h : LpM x1 y lv bv ov nl nb no ll bl ol wr) : nl = ll.length ∧ nb = bl.length ∧ no = ol.length := by
  have h1 := h.ol_.1
  have h2 := h.ob.1
  have h3 := h.oo.1
  rw [flatSP_len] at h2
  unfold cellsP at h1 h3
  rw [List.length_map] at h1 h3
  omega
theorem LpM.loop (h : LpM x1 y lv bv ov nl nb no ll bl ol wr) (h1 : ∀ z ∈ ll, -9223372036854775808 ≤ z ∧ z ≤ 9223372036854775807) (h2 : ∀ z ∈ ol, -9223372036854775808 ≤ z ∧ z ≤ 9223372036854775807) : LoopV wr (.agg #[lv, bv, ov]) ⟨ll, bl, ol⟩ := by
  obtain ⟨e1, e2, e3⟩ := h.nums
  subst e1; subst e2; subst e3
  exact ⟨lv, bv, ov, rfl, Ints.of_ownP h.ol_ h1, Stmts.of_ownP h.ob, Ints.of_ownP h.oo h2⟩
end Go.Proofs.YtjlfcbccpcigeacDoor
