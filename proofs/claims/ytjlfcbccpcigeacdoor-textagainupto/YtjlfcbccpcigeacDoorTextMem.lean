/- The program's reader under way: its block, its three rows; rows that keep at most one beyond their limits tell as much as all; no walk. -/
import Derived.Test.YtjlfcbccpcigeacDoorRef14Mem
import Derived.Test.YtjlfcbccpcigeacDoorRef14Parse
namespace Go.Proofs.YtjlfcbccpcigeacDoor
open Go.RowKit Go.Joins
set_option linter.unusedVariables false

/-- a reader under way -/
structure RdM (x1 : World) (y : Nat) (lv bv ov : Value) (nl nb no : Nat) (ll : List Int) (bl : List St) (ol : List Int) (wr : World) : Prop where
  bel : Below y x1 wr
  blk : wr.heap[y]? = some (.cells #[lv, bv, ov] 62 (0, 0))
  ol_ : wr.ownsRow (y + 1) 3 1 lv nl (cellsP ll)
  ob : wr.ownsRow (y + 1) 53 9 bv nb (flatSP bl)
  oo : wr.ownsRow (y + 1) 3 1 ov no (cellsP ol)
  alb : apP lv bv
  alo : apP lv ov
  abo : apP bv ov
variable {x1 wr wr' : World} {y : Nat} {lv bv ov : Value} {nl nb no : Nat} {ll ol : List Int} {bl : List St}
theorem RdM.lt (h : RdM x1 y lv bv ov nl nb no ll bl ol wr) : y < wr.heap.size := (Array.getElem?_eq_some_iff.1 h.blk).1
theorem RdM.below (h : RdM x1 y lv bv ov nl nb no ll bl ol wr) (hb : Below wr.heap.size wr wr') : RdM x1 y lv bv ov nl nb no ll bl ol wr' :=
  ⟨h.bel.trans (hb.mono (Nat.le_of_lt h.lt)), (hb.block _ h.lt).trans h.blk, own_below h.ol_ hb, own_below h.ob hb, own_below h.oo hb, h.alb, h.alo, h.abo⟩
theorem RdM.cells (h : RdM x1 y lv bv ov nl nb no ll bl ol wr) : wr.cell? ⟨y, 0, none⟩ = some lv ∧ wr.cell? ⟨y, 1, none⟩ = some bv ∧ wr.cell? ⟨y, 2, none⟩ = some ov := by
  have key := cell_of_block h.blk
  refine ⟨?_, ?_, ?_⟩ <;> rw [key] <;> rfl
theorem RdM.grow_l (h : RdM x1 y lv bv ov nl nb no ll bl ol wr) {w1 : World} (hg : wr.grownBy w1 lv.ownBlock) : w1.heap[y]? = some (.cells #[lv, bv, ov] 62 (0, 0)) ∧ Below y x1 w1 := by
  have hge := ownz_geP h.ol_
  refine ⟨?_, h.bel.grown hg (Nat.le_of_lt h.lt) fun q hq => by have := hge q hq; omega⟩
  rw [hg.block y h.lt (fun e => by have := hge y e.symm; omega)]
  exact h.blk
theorem RdM.push_l (h : RdM x1 y lv bv ov nl nb no ll bl ol wr) {w1 : World} {g cap H : Nat} {z : Int} (ho : w1.ownsRow (y + 1) 3 1 (.slice (some ⟨g, 0, none⟩) (nl + 1) cap) (nl + 1) (cellsP ll ++ [.int .i64 z])) (hg : wr.grownBy w1 lv.ownBlock) (hat : lv.ownBlock = some g ∨ g = H) (hH : wr.heap.size = H) :
    RdM x1 y (.slice (some ⟨g, 0, none⟩) (nl + 1) cap) bv ov (nl + 1) nb no (ll ++ [z]) bl ol (w1.setCell ⟨y, 0, none⟩ (.slice (some ⟨g, 0, none⟩) (nl + 1) cap)) := by
  obtain ⟨hb, hx⟩ := h.grow_l hg
  rw [← cellsP_snoc] at ho
  have a_b : apP (.slice (some ⟨g, 0, none⟩) (nl + 1) cap) bv := fun g' h1 h2 => by
    have e : g = g' := by simpa [Value.ownBlock] using h1
    subst e
    rcases hat with hat | hat
    · exact h.alb g hat h2
    · have := ownz_ltP h.ob g h2; omega
  have o_b := own_keptP h.ob hg (fun g' h1 h2 => h.alb g' h2 h1)
  have a_o : apP (.slice (some ⟨g, 0, none⟩) (nl + 1) cap) ov := fun g' h1 h2 => by
    have e : g = g' := by simpa [Value.ownBlock] using h1
    subst e
    rcases hat with hat | hat
    · exact h.alo g hat h2
    · have := ownz_ltP h.oo g h2; omega
  have o_o := own_keptP h.oo hg (fun g' h1 h2 => h.alo g' h2 h1)
  refine ⟨hx.setCell (Nat.le_refl _) _, ?_, (own_setP ho (Nat.lt_succ_self _)), (own_setP o_b (Nat.lt_succ_self _)), (own_setP o_o (Nat.lt_succ_self _)), a_b, a_o, h.abo⟩
  simp [World.setCell, Array.getElem?_modify, hb]
theorem RdM.grow_b (h : RdM x1 y lv bv ov nl nb no ll bl ol wr) {w1 : World} (hg : wr.grownBy w1 bv.ownBlock) : w1.heap[y]? = some (.cells #[lv, bv, ov] 62 (0, 0)) ∧ Below y x1 w1 := by
  have hge := ownz_geP h.ob
  refine ⟨?_, h.bel.grown hg (Nat.le_of_lt h.lt) fun q hq => by have := hge q hq; omega⟩
  rw [hg.block y h.lt (fun e => by have := hge y e.symm; omega)]
  exact h.blk
theorem RdM.push_b (h : RdM x1 y lv bv ov nl nb no ll bl ol wr) {w1 : World} {g cap H : Nat} {z : St} (ho : w1.ownsRow (y + 1) 53 9 (.slice (some ⟨g, 0, none⟩) (nb + 1) cap) (nb + 1) (flatSP bl ++ (stCells z).toList)) (hg : wr.grownBy w1 bv.ownBlock) (hat : bv.ownBlock = some g ∨ g = H) (hH : wr.heap.size = H) :
    RdM x1 y lv (.slice (some ⟨g, 0, none⟩) (nb + 1) cap) ov nl (nb + 1) no ll (bl ++ [z]) ol (w1.setCell ⟨y, 1, none⟩ (.slice (some ⟨g, 0, none⟩) (nb + 1) cap)) := by
  obtain ⟨hb, hx⟩ := h.grow_b hg
  rw [← flatSP_snoc] at ho
  have a_l : apP (.slice (some ⟨g, 0, none⟩) (nb + 1) cap) lv := fun g' h1 h2 => by
    have e : g = g' := by simpa [Value.ownBlock] using h1
    subst e
    rcases hat with hat | hat
    · exact h.alb.symm g hat h2
    · have := ownz_ltP h.ol_ g h2; omega
  have o_l := own_keptP h.ol_ hg (fun g' h1 h2 => h.alb.symm g' h2 h1)
  have a_o : apP (.slice (some ⟨g, 0, none⟩) (nb + 1) cap) ov := fun g' h1 h2 => by
    have e : g = g' := by simpa [Value.ownBlock] using h1
    subst e
    rcases hat with hat | hat
    · exact h.abo g hat h2
    · have := ownz_ltP h.oo g h2; omega
  have o_o := own_keptP h.oo hg (fun g' h1 h2 => h.abo g' h2 h1)
  refine ⟨hx.setCell (Nat.le_refl _) _, ?_, (own_setP o_l (Nat.lt_succ_self _)), (own_setP ho (Nat.lt_succ_self _)), (own_setP o_o (Nat.lt_succ_self _)), a_l.symm, h.alo, a_o⟩
  simp [World.setCell, Array.getElem?_modify, hb]
theorem RdM.grow_o (h : RdM x1 y lv bv ov nl nb no ll bl ol wr) {w1 : World} (hg : wr.grownBy w1 ov.ownBlock) : w1.heap[y]? = some (.cells #[lv, bv, ov] 62 (0, 0)) ∧ Below y x1 w1 := by
  have hge := ownz_geP h.oo
  refine ⟨?_, h.bel.grown hg (Nat.le_of_lt h.lt) fun q hq => by have := hge q hq; omega⟩
  rw [hg.block y h.lt (fun e => by have := hge y e.symm; omega)]
  exact h.blk
theorem RdM.push_o (h : RdM x1 y lv bv ov nl nb no ll bl ol wr) {w1 : World} {g cap H : Nat} {z : Int} (ho : w1.ownsRow (y + 1) 3 1 (.slice (some ⟨g, 0, none⟩) (no + 1) cap) (no + 1) (cellsP ol ++ [.int .i64 z])) (hg : wr.grownBy w1 ov.ownBlock) (hat : ov.ownBlock = some g ∨ g = H) (hH : wr.heap.size = H) :
    RdM x1 y lv bv (.slice (some ⟨g, 0, none⟩) (no + 1) cap) nl nb (no + 1) ll bl (ol ++ [z]) (w1.setCell ⟨y, 2, none⟩ (.slice (some ⟨g, 0, none⟩) (no + 1) cap)) := by
  obtain ⟨hb, hx⟩ := h.grow_o hg
  rw [← cellsP_snoc] at ho
  have a_l : apP (.slice (some ⟨g, 0, none⟩) (no + 1) cap) lv := fun g' h1 h2 => by
    have e : g = g' := by simpa [Value.ownBlock] using h1
    subst e
    rcases hat with hat | hat
    · exact h.alo.symm g hat h2
    · have := ownz_ltP h.ol_ g h2; omega
  have o_l := own_keptP h.ol_ hg (fun g' h1 h2 => h.alo.symm g' h2 h1)
  have a_b : apP (.slice (some ⟨g, 0, none⟩) (no + 1) cap) bv := fun g' h1 h2 => by
    have e : g = g' := by simpa [Value.ownBlock] using h1
    subst e
    rcases hat with hat | hat
    · exact h.abo.symm g hat h2
    · have := ownz_ltP h.ob g h2; omega
  have o_b := own_keptP h.ob hg (fun g' h1 h2 => h.abo.symm g' h2 h1)
  refine ⟨hx.setCell (Nat.le_refl _) _, ?_, (own_setP o_l (Nat.lt_succ_self _)), (own_setP o_b (Nat.lt_succ_self _)), (own_setP ho (Nat.lt_succ_self _)), h.alb, a_l.symm, a_b.symm⟩
  simp [World.setCell, Array.getElem?_modify, hb]
/-- a reader's beginning -/
theorem RdM.start (x1 : World) : RdM x1 x1.heap.size (.slice none 0 0) (.slice none 0 0) (.slice none 0 0) 0 0 0 [] [] [] (x1.alloc (.cells #[.slice none 0 0, .slice none 0 0, .slice none 0 0] 62)) := by
  refine ⟨below_alloc1 _ _, ?_, ⟨rfl, .inl ⟨rfl, rfl⟩⟩, ⟨rfl, .inl ⟨rfl, rfl⟩⟩, ⟨rfl, .inl ⟨rfl, rfl⟩⟩, ?_, ?_, ?_⟩
  · show (x1.heap.push _)[x1.heap.size]? = _
    simp
  all_goals (intro g h; cases h)
theorem RdM.nums (h : RdM x1 y lv bv ov nl nb no ll bl ol wr) : nl = ll.length ∧ nb = bl.length ∧ no = ol.length := by
  have h1 := h.ol_.1
  have h2 := h.ob.1
  have h3 := h.oo.1
  rw [flatSP_len] at h2
  unfold cellsP at h1 h3
  rw [List.length_map] at h1 h3
  omega
theorem RdM.loop (h : RdM x1 y lv bv ov nl nb no ll bl ol wr) (h1 : ∀ z ∈ ll, -9223372036854775808 ≤ z ∧ z ≤ 9223372036854775807) (h2 : ∀ z ∈ ol, -9223372036854775808 ≤ z ∧ z ≤ 9223372036854775807) : LoopV wr (.agg #[lv, bv, ov]) ⟨ll, bl, ol⟩ := by
  obtain ⟨e1, e2, e3⟩ := h.nums
  subst e1; subst e2; subst e3
  exact ⟨lv, bv, ov, rfl, Ints.of_ownP h.ol_ h1, Stmts.of_ownP h.ob, Ints.of_ownP h.oo h2⟩
theorem rd_five {x1 wr : World} {y g : Nat} {lv bv ov u' v' : Value} {nl nb no : Nat} {ll ol : List Int} {bl : List St} (h : RdM x1 y lv bv ov nl nb no ll bl ol wr) (hg : g + 1 + 1 ≤ y) (hin : InP ⟨ll, bl, ol⟩) :
    LoopV (((((wr.setCell ⟨g, 0, none⟩ lv).setCell ⟨g, 1, none⟩ bv).setCell ⟨g, 2, none⟩ ov).setCell ⟨g + 1, 0, none⟩ u').setCell ⟨g + 1, 1, none⟩ v') (.agg #[lv, bv, ov]) ⟨ll, bl, ol⟩ := by
  have k0 : g < y + 1 := by omega
  have k1 : g + 1 < y + 1 := by omega
  have o1 := own_setP (u := v') (o := 1) (own_setP (u := u') (o := 0) (own_setP (u := ov) (o := 2) (own_setP (u := bv) (o := 1) (own_setP (u := lv) (o := 0) h.ol_ k0) k0) k0) k1) k1
  have o2 := own_setP (u := v') (o := 1) (own_setP (u := u') (o := 0) (own_setP (u := ov) (o := 2) (own_setP (u := bv) (o := 1) (own_setP (u := lv) (o := 0) h.ob k0) k0) k0) k1) k1
  have o3 := own_setP (u := v') (o := 1) (own_setP (u := u') (o := 0) (own_setP (u := ov) (o := 2) (own_setP (u := bv) (o := 1) (own_setP (u := lv) (o := 0) h.oo k0) k0) k0) k1) k1
  obtain ⟨e1, e2, e3⟩ := h.nums
  subst e1; subst e2; subst e3
  exact ⟨lv, bv, ov, rfl, Ints.of_ownP o1 hin.1, Stmts.of_ownP o2, Ints.of_ownP o3 hin.2.1⟩
/-- the first so many of each -/
def cutL (L : Lp) : Lp := ⟨L.logs.take 4, L.body.take 17, L.outs.take 17⟩
theorem take_snoc {α : Type} (l : List α) (x : α) (n : Nat) : (l ++ [x]).take (n + 1) = if n < (l.take (n + 1)).length then l.take (n + 1) else l.take (n + 1) ++ [x] := by
  rw [List.length_take]
  by_cases h : n < l.length
  · rw [if_pos (by omega), List.take_append_of_le_length (by omega)]
  · rw [if_neg (by omega), List.take_of_length_le (by simp; omega), List.take_of_length_le (by omega)]
theorem take_none {α : Type} (l : List α) (n : Nat) : (l.take (n + 1)).length = 0 ↔ l.length = 0 := by rw [List.length_take]; omega
theorem cut_small {L : Lp} (h1 : L.logs.length ≤ 3) (h2 : L.body.length ≤ 16) (h3 : L.outs.length ≤ 16) : cutL L = L := by
  unfold cutL
  rw [List.take_of_length_le (by omega), List.take_of_length_le (by omega), List.take_of_length_le (by omega)]
theorem cut_yes {L : Lp} (h : mayB L = true) : cutL L = L := by
  have := may_parts h
  exact cut_small this.1 this.2.2.1 this.2.2.2.1
theorem cut_may (L : Lp) : mayB (cutL L) = mayB L := by
  cases h : mayB (cutL L) with
  | true =>
    obtain ⟨h1, -, h2, h3, -⟩ := may_parts h
    have e : cutL L = L := by
      refine cut_small ?_ ?_ ?_
      · have : (L.logs.take 4).length ≤ 3 := h1
        rw [List.length_take] at this; omega
      · have : (L.body.take 17).length ≤ 16 := h2
        rw [List.length_take] at this; omega
      · have : (L.outs.take 17).length ≤ 16 := h3
        rw [List.length_take] at this; omega
    rw [← e, h]
  | false =>
    cases h2 : mayB L with
    | false => rfl
    | true => rw [cut_yes h2, h2] at h; cases h
theorem InP.cut {L : Lp} (h : InP L) : InP (cutL L) := ⟨fun z hz => h.1 z (List.mem_of_mem_take hz), fun z hz => h.2.1 z (List.mem_of_mem_take hz), fun z hz => h.2.2 z (List.mem_of_mem_take hz)⟩
end Go.Proofs.YtjlfcbccpcigeacDoor
