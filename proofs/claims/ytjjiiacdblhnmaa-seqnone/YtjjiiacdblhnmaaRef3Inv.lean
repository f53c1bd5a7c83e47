/- Where a run stands in memory, by the document's own program: the words, and what all turns came to; what a store, a new row and a callee leave of it. -/
import Derived.Test.YtjjiiacdblhnmaaRef3Copy
import Derived.Test.YtjjiiacdblhnmaaRef3Is
namespace Go.Proofs.Ytjjiiacdblhnmaa
open Go.RowKit Go.Joins
set_option linter.unusedVariables false

/-- base: from where on all is the call's own; the words lie in the blocks G i, below A; all leads to the rows GA i, the first T of them there; what they hold is s -/
structure PInv (w0 : World) (base : Nat) (mv : Value) (gm cap A turns N n T : Nat) (G C len GA : Nat → Nat) (s : Sq) (wr : World) : Prop where
  bel : Below base w0 wr
  outer : n = 0 ∨ (mv = .slice (some ⟨gm, 0, none⟩) n cap ∧ n ≤ cap ∧ cap ≤ maxLen ∧ RowF wr gm 36 n (rowV G C len) ∧ base ≤ gm ∧ gm < A)
  inner : Inner wr base G C n len s.mem
  under : ∀ i, i < n → G i < A
  hall : RowF wr A 36 turns (fun i => if i < T then .slice (some ⟨GA i, 0, none⟩) N N else .slice none 0 0)
  rows : ∀ i, i < T → A < GA i ∧ RowF wr (GA i) 2 N (fun k => .int .i64 (s.val i k))
  inj : ∀ i j, i < T → j < T → i ≠ j → GA i ≠ GA j
  hA : base ≤ A

/-- what leaves all blocks as they were -/
theorem PInv.below {w0 : World} {base : Nat} {mv : Value} {gm cap A turns N n T : Nat} {G C len GA : Nat → Nat} {s : Sq} {wr w' : World} (h : PInv w0 base mv gm cap A turns N n T G C len GA s wr) (hb : Below wr.heap.size wr w') (hbase : base ≤ wr.heap.size) :
    PInv w0 base mv gm cap A turns N n T G C len GA s w' where
  bel := h.bel.trans (hb.mono hbase)
  outer := by
    rcases h.outer with h1 | ⟨h1, h2, h3, h4, h5⟩
    · exact .inl h1
    · exact .inr ⟨h1, h2, h3, h4.below hb h4.lt, h5⟩
  inner := h.inner.below hb
  under := h.under
  hall := h.hall.below hb h.hall.lt
  rows := fun i hi => ⟨(h.rows i hi).1, (h.rows i hi).2.below hb (h.rows i hi).2.lt⟩
  inj := h.inj
  hA := h.hA

/-- a statement has come to v -/
theorem PInv.setVal {w0 : World} {base : Nat} {mv : Value} {gm cap A turns N n T : Nat} {G C len GA : Nat → Nat} {s : Sq} {wr : World} (h : PInv w0 base mv gm cap A turns N n T G C len GA s wr) (t k : Nat) (v : Int) (ht : t < T) (hk : k < N) :
    PInv w0 base mv gm cap A turns N n T G C len GA ⟨s.mem, put2 s.val t k v⟩ (wr.setCell ⟨GA t, k, none⟩ (.int .i64 v)) where
  bel := h.bel.setCell (by have := (h.rows t ht).1; have := h.hA; show base ≤ GA t; omega) _
  outer := by
    have hg := (h.rows t ht).1
    rcases h.outer with h1 | ⟨h1, h2, h3, h4, h5, h6⟩
    · exact .inl h1
    · exact .inr ⟨h1, h2, h3, h4.setOther (by show gm ≠ GA t; omega) _, h5, h6⟩
  inner := h.inner.keep fun i hi => Below.heap_setCell _ _ _ _ (by have := h.under i hi; have := (h.rows t ht).1; show G i ≠ GA t; omega)
  under := h.under
  hall := h.hall.setOther (by have := (h.rows t ht).1; show A ≠ GA t; omega) _
  rows := fun i hi => by
    refine ⟨(h.rows i hi).1, ?_⟩
    by_cases e : i = t
    · subst e
      refine ((h.rows i hi).2.set k _ hk).congr fun j hj => ?_
      show (if j = k then Value.int .i64 v else .int .i64 (s.val i j)) = .int .i64 (put2 s.val i k v i j)
      rw [put2_in]
      split <;> rfl
    · refine ((h.rows i hi).2.setOther (by show GA i ≠ GA t; exact h.inj i t hi ht e) _).congr fun j hj => ?_
      show Value.int .i64 (s.val i j) = .int .i64 (put2 s.val t k v i j)
      rw [put2_row _ _ _ _ _ _ e]
  inj := h.inj
  hA := h.hA

/-- a word becomes v -/
theorem PInv.setMem {w0 : World} {base : Nat} {mv : Value} {gm cap A turns N n T : Nat} {G C len GA : Nat → Nat} {s : Sq} {wr : World} (h : PInv w0 base mv gm cap A turns N n T G C len GA s wr) (i k : Nat) (v : Int) (hi : i < n) (hk : k < len i) :
    PInv w0 base mv gm cap A turns N n T G C len GA ⟨put2 s.mem i k v, s.val⟩ (wr.setCell ⟨G i, k, none⟩ (.int .i64 v)) where
  bel := h.bel.setCell (by show base ≤ G i; exact (h.inner.1 i hi).1) _
  outer := by
    rcases h.outer with h1 | ⟨h1, h2, h3, h4, h5, h6⟩
    · exact .inl h1
    · exact .inr ⟨h1, h2, h3, h4.setOther (by show gm ≠ G i; exact h4.apart (h.inner.1 i hi).2.2.2 (by decide)) _, h5, h6⟩
  inner := by
    refine ⟨fun j hj => ⟨(h.inner.1 j hj).1, (h.inner.1 j hj).2.1, (h.inner.1 j hj).2.2.1, ?_⟩, h.inner.2⟩
    by_cases e : j = i
    · subst e
      refine ((h.inner.1 j hj).2.2.2.set k _ hk).congr fun a ha => ?_
      show (if a = k then Value.int .i64 v else .int .i64 (s.mem j a)) = .int .i64 (put2 s.mem j k v j a)
      rw [put2_in]
      split <;> rfl
    · refine ((h.inner.1 j hj).2.2.2.setOther (by show G j ≠ G i; exact h.inner.2 j i hj hi e) _).congr fun a ha => ?_
      show Value.int .i64 (s.mem j a) = .int .i64 (put2 s.mem i k v j a)
      rw [put2_row _ _ _ _ _ _ e]
  under := h.under
  hall := h.hall.setOther (by have := h.under i hi; show A ≠ G i; omega) _
  rows := fun j hj => ⟨(h.rows j hj).1, (h.rows j hj).2.setOther (by have := h.under i hi; have := (h.rows j hj).1; show GA j ≠ G i; omega) _⟩
  inj := h.inj
  hA := h.hA

/-- a new turn's row -/
theorem PInv.newRow {w0 : World} {base : Nat} {mv : Value} {gm cap A turns N n T : Nat} {G C len GA : Nat → Nat} {s : Sq} {wr : World} (h : PInv w0 base mv gm cap A turns N n T G C len GA s wr) (hbase : base ≤ wr.heap.size) (hT : T < turns) (hz : ∀ k, s.val T k = 0) :
    PInv w0 base mv gm cap A turns N n (T + 1) G C len (fun i => if i = T then wr.heap.size else GA i) s
      ((wr.alloc (.cells (madeCells #[.int .i64 0] N) 2)).setCell ⟨A, T, none⟩ (.slice (some ⟨wr.heap.size, 0, none⟩) N N)) := by
  have hal := h.hall.lt
  have h1 := h.below (below_alloc1 wr (.cells (madeCells #[.int .i64 0] N) 2)) hbase
  have hz2 := RowF.zeros wr (.int .i64 0) N 2
  refine { bel := h1.bel.setCell (by show base ≤ A; exact h.hA) _, outer := ?_, inner := ?_, under := h.under, hall := ?_, rows := ?_, inj := ?_, hA := h.hA }
  · rcases h1.outer with e | ⟨e1, e2, e3, e4, e5, e6⟩
    · exact .inl e
    · exact .inr ⟨e1, e2, e3, e4.setOther (by show gm ≠ A; omega) _, e5, e6⟩
  · exact h1.inner.keep fun i hi => Below.heap_setCell _ _ _ _ (by have := h.under i hi; show G i ≠ A; omega)
  · refine (h1.hall.set T _ hT).congr fun i hi => ?_
    show (if i = T then (Value.slice (some ⟨wr.heap.size, 0, none⟩) N N) else if i < T then .slice (some ⟨GA i, 0, none⟩) N N else .slice none 0 0) = if i < T + 1 then .slice (some ⟨if i = T then wr.heap.size else GA i, 0, none⟩) N N else .slice none 0 0
    by_cases e : i = T
    · subst e; simp
    · rw [if_neg e]
      by_cases e2 : i < T
      · rw [if_pos e2, if_pos (by omega), if_neg e]
      · rw [if_neg e2, if_neg (by omega)]
  · intro i hi
    by_cases e : i = T
    · subst e
      simp only [if_true]
      refine ⟨hal, (hz2.setOther (by show wr.heap.size ≠ A; omega) _).congr fun k hk => by rw [hz k]⟩
    · simp only [if_neg e]
      exact ⟨(h.rows i (by omega)).1, (h1.rows i (by omega)).2.setOther (by have := (h.rows i (by omega)).1; show GA i ≠ A; omega) _⟩
  · intro i j hi hj hij
    by_cases e1 : i = T
    · by_cases e2 : j = T
      · omega
      · simp only [if_pos e1, if_neg e2]
        have := (h.rows j (by omega)).2.lt
        omega
    · by_cases e2 : j = T
      · simp only [if_neg e1, if_pos e2]
        have := (h.rows i (by omega)).2.lt
        omega
      · simp only [if_neg e1, if_neg e2]
        exact h.inj i j (by omega) (by omega) hij

/-- what all turns came to, to be read -/
theorem PInv.grid {w0 : World} {base : Nat} {mv : Value} {gm cap A turns N n T : Nat} {G C len GA : Nat → Nat} {s : Sq} {wr : World} (h : PInv w0 base mv gm cap A turns N n T G C len GA s wr) (hT : T ≤ turns) (ht : turns ≤ 200) (hN : N ≤ 16) :
    GridR wr (.slice (some ⟨A, 0, none⟩) turns turns) turns T N s.val := by
  refine ⟨A, turns, rfl, Nat.le_refl _, by unfold maxLen; omega, h.hall.lt, fun i hi => ?_⟩
  refine ⟨GA i, N, ?_, Nat.le_refl _, by unfold maxLen; omega, (h.rows i hi).2.lt, fun k hk => (h.rows i hi).2.cell hk⟩
  rw [h.hall.cell (by omega), if_pos hi]
end Go.Proofs.Ytjjiiacdblhnmaa
