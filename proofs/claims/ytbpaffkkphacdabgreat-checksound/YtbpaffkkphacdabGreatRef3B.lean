/- Ref3B: texts that are built as one: Ref3Inv, Ref3Box, Ref3Outs. -/
import Derived.Test.YtbpaffkkphacdabGreatRef3A
/- Where a run stands in memory, by the document's own program: the words, and what all turns came to; what a store, a new row and a callee leave of it. -/
namespace Go.Proofs.YtbpaffkkphacdabGreat
open Go.RowKit Go.Joins
set_option linter.unusedVariables false

/-- base: from where on all is the call's own; the words lie in the blocks G i, below A; all leads to the rows GA i, the first T of them there; what they hold is s -/
structure PInv (w0 : World) (base : Nat) (mv : Value) (gm cap A turns N n T : Nat) (G C len GA : Nat → Nat) (s : Sq) (wr : World) : Prop where
  bel : Below base w0 wr
  outer : n = 0 ∨ (mv = .slice (some ⟨gm, 0, none⟩) n cap ∧ n ≤ cap ∧ cap ≤ maxLen ∧ RowF wr gm 48 n (rowV G C len) ∧ base ≤ gm ∧ gm < A)
  inner : Inner wr base G C n len s.mem
  under : ∀ i, i < n → G i < A
  hall : RowF wr A 48 turns (fun i => if i < T then .slice (some ⟨GA i, 0, none⟩) N N else .slice none 0 0)
  rows : ∀ i, i < T → A < GA i ∧ RowF wr (GA i) 2 N (fun k => .int .i64 (s.val i k))
  inj : ∀ i j, i < T → j < T → i ≠ j → GA i ≠ GA j
  hA : base ≤ A

/-- what leaves all blocks as they were -/
theorem PInv.below {w0 : World} {base : Nat} {mv : Value} {gm cap A turns N n T : Nat} {G C len GA : Nat → Nat} {s : Sq} {wr w' : World} (h : PInv w0 base mv gm cap A turns N n T G C len GA s wr) (hb : Below wr.heap.size wr w') (hbase : base ≤ wr.heap.size) :
    PInv w0 base mv gm cap A turns N n T G C len GA s w' where
  bel := h.bel.trans (hb.mono hbase)
  outer := by
    rcases h.outer with h1 | ⟨h1, h2, h3, h4, h5⟩
    · exact .inl h1
    · exact .inr ⟨h1, h2, h3, h4.below hb h4.lt, h5⟩
  inner := h.inner.below hb
  under := h.under
  hall := h.hall.below hb h.hall.lt
  rows := fun i hi => ⟨(h.rows i hi).1, (h.rows i hi).2.below hb (h.rows i hi).2.lt⟩
  inj := h.inj
  hA := h.hA

/-- a statement has come to v -/
theorem PInv.setVal {w0 : World} {base : Nat} {mv : Value} {gm cap A turns N n T : Nat} {G C len GA : Nat → Nat} {s : Sq} {wr : World} (h : PInv w0 base mv gm cap A turns N n T G C len GA s wr) (t k : Nat) (v : Int) (ht : t < T) (hk : k < N) :
    PInv w0 base mv gm cap A turns N n T G C len GA ⟨s.mem, put2 s.val t k v⟩ (wr.setCell ⟨GA t, k, none⟩ (.int .i64 v)) where
  bel := h.bel.setCell (by have := (h.rows t ht).1; have := h.hA; show base ≤ GA t; omega) _
  outer := by
    have hg := (h.rows t ht).1
    rcases h.outer with h1 | ⟨h1, h2, h3, h4, h5, h6⟩
    · exact .inl h1
    · exact .inr ⟨h1, h2, h3, h4.setOther (by show gm ≠ GA t; omega) _, h5, h6⟩
  inner := h.inner.keep fun i hi => Below.heap_setCell _ _ _ _ (by have := h.under i hi; have := (h.rows t ht).1; show G i ≠ GA t; omega)
  under := h.under
  hall := h.hall.setOther (by have := (h.rows t ht).1; show A ≠ GA t; omega) _
  rows := fun i hi => by
    refine ⟨(h.rows i hi).1, ?_⟩
    by_cases e : i = t
    · subst e
      refine ((h.rows i hi).2.set k _ hk).congr fun j hj => ?_
      show (if j = k then Value.int .i64 v else .int .i64 (s.val i j)) = .int .i64 (put2 s.val i k v i j)
      rw [put2_in]
      split <;> rfl
    · refine ((h.rows i hi).2.setOther (by show GA i ≠ GA t; exact h.inj i t hi ht e) _).congr fun j hj => ?_
      show Value.int .i64 (s.val i j) = .int .i64 (put2 s.val t k v i j)
      rw [put2_row _ _ _ _ _ _ e]
  inj := h.inj
  hA := h.hA

/-- a word becomes v -/
theorem PInv.setMem {w0 : World} {base : Nat} {mv : Value} {gm cap A turns N n T : Nat} {G C len GA : Nat → Nat} {s : Sq} {wr : World} (h : PInv w0 base mv gm cap A turns N n T G C len GA s wr) (i k : Nat) (v : Int) (hi : i < n) (hk : k < len i) :
    PInv w0 base mv gm cap A turns N n T G C len GA ⟨put2 s.mem i k v, s.val⟩ (wr.setCell ⟨G i, k, none⟩ (.int .i64 v)) where
  bel := h.bel.setCell (by show base ≤ G i; exact (h.inner.1 i hi).1) _
  outer := by
    rcases h.outer with h1 | ⟨h1, h2, h3, h4, h5, h6⟩
    · exact .inl h1
    · exact .inr ⟨h1, h2, h3, h4.setOther (by show gm ≠ G i; exact h4.apart (h.inner.1 i hi).2.2.2 (by decide)) _, h5, h6⟩
  inner := by
    refine ⟨fun j hj => ⟨(h.inner.1 j hj).1, (h.inner.1 j hj).2.1, (h.inner.1 j hj).2.2.1, ?_⟩, h.inner.2⟩
    by_cases e : j = i
    · subst e
      refine ((h.inner.1 j hj).2.2.2.set k _ hk).congr fun a ha => ?_
      show (if a = k then Value.int .i64 v else .int .i64 (s.mem j a)) = .int .i64 (put2 s.mem j k v j a)
      rw [put2_in]
      split <;> rfl
    · refine ((h.inner.1 j hj).2.2.2.setOther (by show G j ≠ G i; exact h.inner.2 j i hj hi e) _).congr fun a ha => ?_
      show Value.int .i64 (s.mem j a) = .int .i64 (put2 s.mem i k v j a)
      rw [put2_row _ _ _ _ _ _ e]
  under := h.under
  hall := h.hall.setOther (by have := h.under i hi; show A ≠ G i; omega) _
  rows := fun j hj => ⟨(h.rows j hj).1, (h.rows j hj).2.setOther (by have := h.under i hi; have := (h.rows j hj).1; show GA j ≠ G i; omega) _⟩
  inj := h.inj
  hA := h.hA

/-- a new turn's row -/
theorem PInv.newRow {w0 : World} {base : Nat} {mv : Value} {gm cap A turns N n T : Nat} {G C len GA : Nat → Nat} {s : Sq} {wr : World} (h : PInv w0 base mv gm cap A turns N n T G C len GA s wr) (hbase : base ≤ wr.heap.size) (hT : T < turns) (hz : ∀ k, s.val T k = 0) :
    PInv w0 base mv gm cap A turns N n (T + 1) G C len (fun i => if i = T then wr.heap.size else GA i) s
      ((wr.alloc (.cells (madeCells #[.int .i64 0] N) 2)).setCell ⟨A, T, none⟩ (.slice (some ⟨wr.heap.size, 0, none⟩) N N)) := by
  have hal := h.hall.lt
  have h1 := h.below (below_alloc1 wr (.cells (madeCells #[.int .i64 0] N) 2)) hbase
  have hz2 := RowF.zeros wr (.int .i64 0) N 2
  refine { bel := h1.bel.setCell (by show base ≤ A; exact h.hA) _, outer := ?_, inner := ?_, under := h.under, hall := ?_, rows := ?_, inj := ?_, hA := h.hA }
  · rcases h1.outer with e | ⟨e1, e2, e3, e4, e5, e6⟩
    · exact .inl e
    · exact .inr ⟨e1, e2, e3, e4.setOther (by show gm ≠ A; omega) _, e5, e6⟩
  · exact h1.inner.keep fun i hi => Below.heap_setCell _ _ _ _ (by have := h.under i hi; show G i ≠ A; omega)
  · refine (h1.hall.set T _ hT).congr fun i hi => ?_
    show (if i = T then (Value.slice (some ⟨wr.heap.size, 0, none⟩) N N) else if i < T then .slice (some ⟨GA i, 0, none⟩) N N else .slice none 0 0) = if i < T + 1 then .slice (some ⟨if i = T then wr.heap.size else GA i, 0, none⟩) N N else .slice none 0 0
    by_cases e : i = T
    · subst e; simp
    · rw [if_neg e]
      by_cases e2 : i < T
      · rw [if_pos e2, if_pos (by omega), if_neg e]
      · rw [if_neg e2, if_neg (by omega)]
  · intro i hi
    by_cases e : i = T
    · subst e
      simp only [if_true]
      refine ⟨hal, (hz2.setOther (by show wr.heap.size ≠ A; omega) _).congr fun k hk => by rw [hz k]⟩
    · simp only [if_neg e]
      exact ⟨(h.rows i (by omega)).1, (h1.rows i (by omega)).2.setOther (by have := (h.rows i (by omega)).1; show GA i ≠ A; omega) _⟩
  · intro i j hi hj hij
    by_cases e1 : i = T
    · by_cases e2 : j = T
      · omega
      · simp only [if_pos e1, if_neg e2]
        have := (h.rows j (by omega)).2.lt
        omega
    · by_cases e2 : j = T
      · simp only [if_neg e1, if_pos e2]
        have := (h.rows i (by omega)).2.lt
        omega
      · simp only [if_neg e1, if_neg e2]
        exact h.inj i j (by omega) (by omega) hij

/-- what all turns came to, to be read -/
theorem PInv.grid {w0 : World} {base : Nat} {mv : Value} {gm cap A turns N n T : Nat} {G C len GA : Nat → Nat} {s : Sq} {wr : World} (h : PInv w0 base mv gm cap A turns N n T G C len GA s wr) (hT : T ≤ turns) (ht : turns ≤ 200) (hN : N ≤ 16) :
    GridR wr (.slice (some ⟨A, 0, none⟩) turns turns) turns T N s.val := by
  refine ⟨A, turns, rfl, Nat.le_refl _, by unfold maxLen; omega, h.hall.lt, fun i hi => ?_⟩
  refine ⟨GA i, N, ?_, Nat.le_refl _, by unfold maxLen; omega, (h.rows i hi).2.lt, fun k hk => (h.rows i hi).2.cell hk⟩
  rw [h.hall.cell (by omega), if_pos hi]
end Go.Proofs.YtbpaffkkphacdabGreat
/- The document's own run of a loop, as it begins: what it boxes, and where it first stands. -/
namespace Go.Proofs.YtbpaffkkphacdabGreat
open Go.RowKit Go.Joins
set_option linter.unusedVariables false

theorem own_shape {w : World} {base : Nat} {e : TypeId} {v : Value} {n : Nat} {xs : List Value} (h : w.ownsRow base e 1 v n xs) : ∃ a cap, v = .slice a n cap ∧ n ≤ cap ∧ cap ≤ maxLen := by
  obtain ⟨hl, h⟩ := h
  rcases h with ⟨rfl, rfl⟩ | ⟨g, cap, cur, rfl, hg, hb, hn, hm, r⟩
  · exact ⟨none, 0, rfl, Nat.le_refl _, Nat.zero_le _⟩
  · exact ⟨_, cap, rfl, hn, hm⟩

/-- the world in which Play has boxed its loop, its state and its result -/
def boxed (w : World) (l0 l1 l2 s0 s1 : Value) : World := ((w.alloc (.cells #[l0, l1, l2] 25)).alloc (.cells #[s0, s1] 34)).alloc (.cells #[.slice none 0 0, .slice none 0 0] 50)
theorem boxed_size (w : World) (l0 l1 l2 s0 s1 : Value) : (boxed w l0 l1 l2 s0 s1).heap.size = w.heap.size + 3 := by unfold boxed; simp
theorem boxed_below (w : World) (l0 l1 l2 s0 s1 : Value) : Below w.heap.size w (boxed w l0 l1 l2 s0 s1) := below_alloc3 _ _ _ _
theorem boxed_cells {w wr : World} {l0 l1 l2 s0 s1 : Value} (h : Below (w.heap.size + 3) (boxed w l0 l1 l2 s0 s1) wr) :
    wr.cell? ⟨w.heap.size, 0, none⟩ = some l0 ∧ wr.cell? ⟨w.heap.size, 1, none⟩ = some l1 ∧ wr.cell? ⟨w.heap.size, 2, none⟩ = some l2 ∧ wr.cell? ⟨w.heap.size + 1, 0, none⟩ = some s0 ∧ wr.cell? ⟨w.heap.size + 1, 1, none⟩ = some s1 ∧
      Below w.heap.size w wr ∧ w.heap.size + 3 ≤ wr.heap.size := by
  have hz := h.size
  rw [boxed_size] at hz
  refine ⟨?_, ?_, ?_, ?_, ?_, (boxed_below w l0 l1 l2 s0 s1).trans (h.mono (by omega)), hz⟩
  · rw [h.cell (p := ⟨w.heap.size, 0, none⟩) (by show w.heap.size < _; omega)]; unfold boxed; go_simp
  · rw [h.cell (p := ⟨w.heap.size, 1, none⟩) (by show w.heap.size < _; omega)]; unfold boxed; go_simp
  · rw [h.cell (p := ⟨w.heap.size, 2, none⟩) (by show w.heap.size < _; omega)]; unfold boxed; go_simp
  · rw [h.cell (p := ⟨w.heap.size + 1, 0, none⟩) (by show w.heap.size + 1 < _; omega)]; unfold boxed; go_simp
  · rw [h.cell (p := ⟨w.heap.size + 1, 1, none⟩) (by show w.heap.size + 1 < _; omega)]; unfold boxed; go_simp

/-- the run's first stand -/
theorem PInv.first {w0 w1 : World} {am : Option Addr} {n capm turns N : Nat} {G C len : Nat → Nat} {f : Nat → Nat → Int} (hb : Below w0.heap.size w0 w1) (ho : w1.ownsRow w0.heap.size 48 1 (.slice am n capm) n ((List.range n).map (rowV G C len)))
    (hi : Inner w1 w0.heap.size G C n len f) : ∃ gm, PInv w0 w0.heap.size (.slice am n capm) gm capm w1.heap.size turns N n 0 G C len (fun _ => 0) ⟨f, fun _ _ => 0⟩ (w1.alloc (.cells (madeCells #[.slice none 0 0] turns) 48)) := by
  have hz := hb.size
  have hal := below_alloc1 w1 (.cells (madeCells #[.slice none 0 0] turns) 48)
  have hcommon : ∀ gm, (n = 0 ∨ (Value.slice am n capm = .slice (some ⟨gm, 0, none⟩) n capm ∧ n ≤ capm ∧ capm ≤ maxLen ∧ RowF w1 gm 48 n (rowV G C len) ∧ w0.heap.size ≤ gm ∧ gm < w1.heap.size)) →
      PInv w0 w0.heap.size (.slice am n capm) gm capm w1.heap.size turns N n 0 G C len (fun _ => 0) ⟨f, fun _ _ => 0⟩ (w1.alloc (.cells (madeCells #[.slice none 0 0] turns) 48)) := by
    intro gm hg
    refine { bel := hb.trans (hal.mono hz), outer := ?_, inner := hi.below hal, under := fun i h => (hi.1 i h).2.2.2.lt, hall := ?_, rows := fun i h => absurd h (Nat.not_lt_zero _), inj := fun i j h => absurd h (Nat.not_lt_zero _), hA := hz }
    · rcases hg with e | ⟨e1, e2, e3, e4, e5⟩
      · exact .inl e
      · exact .inr ⟨e1, e2, e3, e4.below hal e4.lt, e5⟩
    · exact (RowF.zeros w1 (.slice none 0 0) turns 48).congr fun i _ => by rw [if_neg (Nat.not_lt_zero _)]
  by_cases e : n = 0
  · exact ⟨0, hcommon 0 (.inl e)⟩
  · obtain ⟨g, cap, hv, hg, h1, h2, hr⟩ := own_parts ho (.inr (by omega))
    injection hv with e1 e2 e3
    subst e1; subst e3
    refine ⟨g, hcommon g (.inr ⟨rfl, h1, h2, hr.congr fun i hi => ?_, hg, hr.lt⟩)⟩
    simp [List.getD, hi]

end Go.Proofs.YtbpaffkkphacdabGreat
/- The document's own run of a loop, as it ends: the outs are gathered one by one; what lies there reads as the Result. -/
namespace Go.Proofs.YtbpaffkkphacdabGreat
open Go.RowKit Go.Joins
set_option linter.unusedVariables false

theorem out_range {n : Nat} {l : List Int} (h : outsOk n l = true) {i : Nat} (hi : i < l.length) : 0 ≤ nth l i ∧ nth l i < n := by
  have h1 := inR_iff.1 (allN_get h i hi)
  have h2 := prev_range n l i (by omega) (allN_mk fun k hk => allN_get h k (by omega))
  omega

/-- where the gathering stands: q outs in the result's first field, the words in its second -/
def OutsAt (wr wq : World) (zs : List Int) (q : Nat) (mv : Value) (oa : Option Addr) (oc : Nat) : Prop :=
  wq.heap[wr.heap.size]? = some (.cells #[.slice oa q oc, mv] 50 (0, 0)) ∧ wq.ownsRow (wr.heap.size + 1) 2 1 (.slice oa q oc) q ((zs.take q).map (Value.int .i64)) ∧ Below wr.heap.size wr wq

theorem OutsAt.first (wr : World) (zs : List Int) (mv : Value) : OutsAt wr (wr.alloc (.cells #[.slice none 0 0, mv] 50)) zs 0 mv none 0 :=
  ⟨by show (wr.heap.push _)[wr.heap.size]? = _; simp, World.ownsRow_nil _ _ _ _, below_alloc1 _ _⟩
theorem OutsAt.cells {wr wq : World} {zs : List Int} {q : Nat} {mv : Value} {oa : Option Addr} {oc : Nat} (h : OutsAt wr wq zs q mv oa oc) :
    wq.cell? ⟨wr.heap.size, 0, none⟩ = some (.slice oa q oc) ∧ wq.cell? ⟨wr.heap.size, 1, none⟩ = some mv ∧ (∀ i, wq.frozen? ⟨wr.heap.size, i, none⟩ = false) ∧ wr.heap.size < wq.heap.size :=
  ⟨by rw [cell_of_block h.1]; rfl, by rw [cell_of_block h.1]; rfl, fun i => unfrozen_of_block h.1 i, (Array.getElem?_eq_some_iff.1 h.1).1⟩
theorem take_next (zs : List Int) (q : Nat) (h : q < zs.length) : (zs.take q).map (Value.int .i64) ++ [.int .i64 (nth zs q)] = (zs.take (q + 1)).map (Value.int .i64) := by
  rw [List.take_succ_eq_append_getElem h, List.map_append]
  congr 1
  simp [nth, List.getD, h]
/-- one out more -/
theorem OutsAt.step {wr wq w2 : World} {zs : List Int} {q : Nat} {mv v2 : Value} {oa : Option Addr} {oc n : Nat} {o1 : Obj} (h : OutsAt wr wq zs q mv oa oc) (hq : q < zs.length)
    (ho : w2.ownsRow (wr.heap.size + 1) 2 1 v2 (q + 1) ((zs.take q).map (Value.int .i64) ++ [.int .i64 (nth zs q)])) (hg : ((wq.drewN n).alloc o1).grownBy w2 (Value.ownBlock (.slice oa q oc))) :
    ∃ oa' oc', v2 = .slice oa' (q + 1) oc' ∧ w2.cell? ⟨wr.heap.size, 0, none⟩ = some (.slice oa q oc) ∧ w2.frozen? ⟨wr.heap.size, 0, none⟩ = false ∧ OutsAt wr (w2.setCell ⟨wr.heap.size, 0, none⟩ v2) zs (q + 1) mv oa' oc' := by
  obtain ⟨oa', oc', rfl, -, hx⟩ := own_shape ho
  have hlt := h.cells.2.2.2
  have hown := h.2.1
  have hne : some wr.heap.size ≠ Value.ownBlock (.slice oa q oc) := fun e => by have := own_block_ge hown _ e.symm; omega
  have hblk : w2.heap[wr.heap.size]? = some (.cells #[.slice oa q oc, mv] 50 (0, 0)) := by
    rw [hg.block wr.heap.size (by simp; omega) hne, Below.heap_alloc (wq.drewN n) o1 wr.heap.size hlt]
    exact h.1
  refine ⟨oa', oc', rfl, by rw [cell_of_block hblk]; rfl, unfrozen_of_block hblk 0, ?_, ?_, ?_⟩
  · rw [block_setCell hblk]; rfl
  · refine ownsRow_setCell_below ?_ (by show wr.heap.size < _; omega) _
    rw [← take_next zs q hq]; exact ho
  · refine Below.setCell ?_ (by show wr.heap.size ≤ wr.heap.size; omega) _
    have hb := h.2.2
    refine (hb.trans ((below_draws _ _ n).alloc (by have := hb.size; simp; omega) o1)).grown hg (by have := hb.size; simp; omega) (fun k hk => by have := own_block_ge hown k hk; omega)

theorem ints_of_own {w : World} {base : Nat} {v : Value} {zs : List Int} (h : w.ownsRow base 2 1 v zs.length (zs.map (Value.int .i64))) (hz : ∀ i, I64 (nth zs i)) : Ints w v zs := by
  obtain ⟨a, cap, hv, h1, h2⟩ := own_shape h
  refine ⟨a, cap, hv, h1, h2, fun i _ => hz i, fun hp => ?_⟩
  obtain ⟨g, c, hv2, hg, h3, h4, hr⟩ := own_parts h (.inr hp)
  rw [hv] at hv2
  injection hv2 with e1 e2 e3
  refine ⟨g, 0, e1, hr.lt, fun i hi => ?_⟩
  rw [Nat.zero_add, hr.cell hi, getD_ints zs i hi]
theorem rows_of_inv {w0 : World} {base : Nat} {am : Option Addr} {capm gm cap A turns N n T : Nat} {G C len GA : Nat → Nat} {s : Sq} {wr : World} (h : PInv w0 base (.slice am n capm) gm cap A turns N n T G C len GA s wr) (hc1 : n ≤ capm) (hc2 : capm ≤ maxLen) (hs : s.fine) :
    IntRows wr (.slice am n capm) ((List.range n).map fun i => (List.range (len i)).map fun j => s.mem i j) := by
  have hl : ((List.range n).map fun i => (List.range (len i)).map fun j => s.mem i j).length = n := by simp
  refine ⟨am, capm, by rw [hl], by rw [hl]; exact hc1, hc2, fun hp => ?_⟩
  rw [hl] at hp ⊢
  rcases h.outer with e | ⟨e1, e2, e3, e4, e5, e6⟩
  · omega
  injection e1 with f1 f2 f3
  refine ⟨gm, 0, f1, e4.lt, fun i hi => ⟨rowV G C len i, by rw [Nat.zero_add]; exact e4.cell hi, ?_⟩⟩
  obtain ⟨g1, g2, g3, g4⟩ := h.inner.1 i hi
  have hr : rowAt ((List.range n).map fun i => (List.range (len i)).map fun j => s.mem i j) i = (List.range (len i)).map fun j => s.mem i j := by unfold rowAt; simp [List.getD, hi]
  have hnth : ∀ j, j < len i → nth ((List.range (len i)).map fun j => s.mem i j) j = s.mem i j := fun j hj => by unfold nth; simp [List.getD, hj]
  have hl2 : ((List.range (len i)).map fun j => s.mem i j).length = len i := by simp
  rw [hr]
  refine ⟨some ⟨G i, 0, none⟩, C i, by rw [hl2]; rfl, by rw [hl2]; exact g2, g3, fun j hj => ?_, fun _ => ⟨G i, 0, rfl, g4.lt, fun j hj => ?_⟩⟩
  · rw [hl2] at hj; rw [hnth j hj]; exact hs.1 i j
  · rw [hl2] at hj; rw [Nat.zero_add, hnth j hj]; exact g4.cell hj
/-- a store below what is the call's own leaves the words to be read -/
theorem PInv.words {w0 : World} {base : Nat} {am : Option Addr} {capm gm A turns N n T : Nat} {G C len GA : Nat → Nat} {s : Sq} {wr : World} (h : PInv w0 base (.slice am n capm) gm capm A turns N n T G C len GA s wr) {b i : Nat} (hb : b < base) (u : Value) :
    PInv (w0.setCell ⟨b, i, none⟩ u) base (.slice am n capm) gm capm A turns N n T G C len GA s (wr.setCell ⟨b, i, none⟩ u) where
  bel := by
    refine ⟨h.bel.os, h.bel.tape, h.bel.output, by simpa [World.setCell] using h.bel.size, fun k hk => ?_⟩
    by_cases e : k = b
    · subst e
      simp only [World.setCell, Array.getElem?_modify]
      rw [h.bel.block k hk]
    · rw [Below.heap_setCell _ _ _ _ (by show k ≠ b; exact e), Below.heap_setCell _ _ _ _ (by show k ≠ b; exact e)]
      exact h.bel.block k hk
  outer := by
    rcases h.outer with h1 | ⟨h1, h2, h3, h4, h5, h6⟩
    · exact .inl h1
    · exact .inr ⟨h1, h2, h3, h4.setOther (by show gm ≠ b; omega) _, h5, h6⟩
  inner := h.inner.keep fun j hj => Below.heap_setCell _ _ _ _ (by have := (h.inner.1 j hj).1; show G j ≠ b; omega)
  under := h.under
  hall := h.hall.setOther (by have := h.hA; show A ≠ b; omega) _
  rows := fun j hj => ⟨(h.rows j hj).1, (h.rows j hj).2.setOther (by have := (h.rows j hj).1; have := h.hA; show GA j ≠ b; omega) _⟩
  inj := h.inj
  hA := h.hA
/-- the cells of the result's own variable -/
theorem boxed_res {w wr : World} {l0 l1 l2 s0 s1 : Value} (h : Below (w.heap.size + 3) (boxed w l0 l1 l2 s0 s1) wr) : wr.heap[w.heap.size + 2]? = some (.cells #[.slice none 0 0, .slice none 0 0] 50 (0, 0)) := by
  rw [h.block _ (by omega)]
  unfold boxed
  show ((((w.heap.push _).push _).push _))[w.heap.size + 2]? = _
  rw [Array.getElem?_push, if_pos (by simp)]
theorem outsOf_len (L : Lp) (B : List (List Int)) (t : Nat) (s : Sq) : (outsOf L B t s).length = L.outs.length := by unfold outsOf; simp
theorem outsOf_nth (L : Lp) (B : List (List Int)) (t : Nat) (s : Sq) (i : Nat) (h : i < L.outs.length) : nth (outsOf L B t s) i = if t = 0 then nth (rowAt B (nth L.outs i).toNat) 0 else s.val (t - 1) (nth L.outs i).toNat := by
  unfold outsOf nth; simp [List.getD, h]
theorem outsOf_in (L : Lp) (B : List (List Int)) (t : Nat) (s : Sq) (hB : RowsIn B) (hs : s.fine) : ∀ i, I64 (nth (outsOf L B t s) i) := by
  intro i
  by_cases h : i < L.outs.length
  · rw [outsOf_nth L B t s i h]; exact i64_ite (hB _ _) (hs.2 _ _)
  · have : nth (outsOf L B t s) i = 0 := by
      show ((outsOf L B t s)[i]?).getD 0 = 0
      rw [List.getElem?_eq_none (by rw [outsOf_len]; omega)]; rfl
    rw [this]; exact i64_0
end Go.Proofs.YtbpaffkkphacdabGreat
