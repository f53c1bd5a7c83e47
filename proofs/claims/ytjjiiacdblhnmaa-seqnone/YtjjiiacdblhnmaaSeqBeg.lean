/- Where a run that begins stands in memory: the pasts are gathered row by row, then the words; and that it comes to the first stand of a run. -/
import Derived.Test.YtjjiiacdblhnmaaSeqInv
import Derived.Test.YtjjiiacdblhnmaaSeqLib
namespace Go.Proofs.Ytjjiiacdblhnmaa
open Go.RowKit Go.Joins
set_option linter.unusedVariables false

/-- k pasts are gathered; the runner lies in the block behind wb -/
structure B1 (wb : World) (l0 l1 l2 : Value) (B : List (List Int)) (k : Nat) (G C : Nat → Nat) (pa : Option Addr) (pc : Nat) (wr : World) : Prop where
  bel : Below wb.heap.size wb wr
  hR : wr.heap[wb.heap.size]? = some (.cells #[l0, l1, l2, .slice pa k pc, .slice none 0 0] 68 (0, 0))
  own : wr.ownsRow (wb.heap.size + 1) 36 1 (.slice pa k pc) k ((List.range k).map (rowV G C (fun _ => 3)))
  rows : ∀ i, i < k → wb.heap.size + 1 ≤ G i ∧ C i ≤ maxLen ∧ RowX wr (G i) 2 (C i) 3 (fun j => .int .i64 (nth (rowAt B i) (2 - j)))
  inj : ∀ i j, i < k → j < k → i ≠ j → G i ≠ G j
theorem B1.first (wb : World) (l0 l1 l2 : Value) (B : List (List Int)) : B1 wb l0 l1 l2 B 0 (fun _ => 0) (fun _ => 0) none 0 (wb.alloc (.cells #[l0, l1, l2, .slice none 0 0, .slice none 0 0] 68)) where
  bel := below_alloc1 _ _
  hR := by show (wb.heap.push _)[wb.heap.size]? = _; simp
  own := World.ownsRow_nil _ _ _ _
  rows := fun i hi => absurd hi (Nat.not_lt_zero _)
  inj := fun i j hi => absurd hi (Nat.not_lt_zero _)
theorem B1.cells {wb : World} {l0 l1 l2 : Value} {B : List (List Int)} {k : Nat} {G C : Nat → Nat} {pa : Option Addr} {pc : Nat} {wr : World} (h : B1 wb l0 l1 l2 B k G C pa pc wr) :
    wr.cell? ⟨wb.heap.size, 3, none⟩ = some (.slice pa k pc) ∧ wr.cell? ⟨wb.heap.size, 4, none⟩ = some (.slice none 0 0) ∧ wb.heap.size < wr.heap.size :=
  ⟨by rw [cell_of_block h.hR]; rfl, by rw [cell_of_block h.hR]; rfl, (Array.getElem?_eq_some_iff.1 h.hR).1⟩
theorem own_ne {w : World} {base : Nat} {e : TypeId} {v : Value} {n : Nat} {xs : List Value} {g : Nat} (h : w.ownsRow base e 1 v n xs) (hg : g < base) : some g ≠ v.ownBlock := fun e => by have := own_block_ge h _ e.symm; omega
/-- the runner's block behind an append -/
theorem begin_run {w w2 : World} {R base : Nat} {c : Array Value} {t e : TypeId} {v : Value} {n : Nat} {xs : List Value} {X : Obj} (hR : w.heap[R]? = some (.cells c t (0, 0))) (ho : w.ownsRow base e 1 v n xs) (hb : R < base) (hg : (w.alloc X).grownBy w2 v.ownBlock) :
    w2.heap[R]? = some (.cells c t (0, 0)) := by
  have hlt := (Array.getElem?_eq_some_iff.1 hR).1
  rw [hg.block R (by simp; omega) (own_ne ho hb), Below.heap_alloc _ _ _ hlt]
  exact hR
theorem B1.step {wb : World} {l0 l1 l2 : Value} {B : List (List Int)} {k : Nat} {G C : Nat → Nat} {pa : Option Addr} {pc : Nat} {wr w1 w2 : World} {g cap : Nat} {pa2 : Option Addr} {pc2 : Nat} {X : Obj} (h : B1 wb l0 l1 l2 B k G C pa pc wr)
    (hb1 : Below wr.heap.size wr w1) (hg1 : wr.heap.size ≤ g) (hm : cap ≤ maxLen) (hx : RowX w1 g 2 cap 3 (fun j => .int .i64 (turn3 (nth (rowAt B k)) j)))
    (ho2 : w2.ownsRow (wb.heap.size + 1) 36 1 (.slice pa2 (k + 1) pc2) (k + 1) ((List.range k).map (rowV G C (fun _ => 3)) ++ [.slice (some ⟨g, 0, none⟩) 3 cap])) (hg2 : (w1.alloc X).grownBy w2 (Value.ownBlock (.slice pa k pc))) :
    w2.cell? ⟨wb.heap.size, 3, none⟩ = some (.slice pa k pc) ∧ w2.frozen? ⟨wb.heap.size, 3, none⟩ = false ∧
      B1 wb l0 l1 l2 B (k + 1) (fun i => if i = k then g else G i) (fun i => if i = k then cap else C i) pa2 pc2 (w2.setCell ⟨wb.heap.size, 3, none⟩ (.slice pa2 (k + 1) pc2)) := by
  have hRl := h.cells.2.2
  have hs1 := hb1.size
  have hR1 : w1.heap[wb.heap.size]? = some (.cells #[l0, l1, l2, .slice pa k pc, .slice none 0 0] 68 (0, 0)) := by rw [hb1.block _ hRl]; exact h.hR
  have ho1 := own_below h.own hb1
  have hR2 := begin_run hR1 ho1 (by omega) hg2
  have hoa := own_below ho1 (below_alloc1 w1 X)
  have hbel1 : Below wb.heap.size wb (w1.alloc X) := (h.bel.trans (hb1.mono (by omega))).alloc (by omega) _
  have hbel2 : Below wb.heap.size wb w2 := hbel1.grown hg2 (by simp; omega) (fun q hq => by have := own_block_ge ho1 q hq; omega)
  have blk : ∀ q e n f, RowX w1 q 2 e n f → RowX w2 q 2 e n f := fun q e n f hq => by
    have hr : RowF (w1.alloc X) q 2 n f := hq.row.alloc X
    refine hq.of_block ?_
    rw [hg2.block q hr.lt (own_apart hoa hr (by decide)), Below.heap_alloc _ _ _ hq.lt]
  have hne : ∀ q e n f, RowX w2 q 2 e n f → q ≠ wb.heap.size := fun q e n f hq => (block_apart hR2 hq.row (by decide)).symm
  refine ⟨by rw [cell_of_block hR2]; rfl, unfrozen_of_block hR2 3, ?_⟩
  refine { bel := hbel2.setCell (by show wb.heap.size ≤ wb.heap.size; omega) _, hR := ?_, own := ?_, rows := ?_, inj := ?_ }
  · rw [block_setCell hR2]; rfl
  · refine ownsRow_setCell_below ?_ (by show wb.heap.size < _; omega) _
    rw [← rowV_snoc]; exact ho2
  · intro i hi
    by_cases e : i = k
    · subst e
      simp only [if_true]
      refine ⟨by omega, hm, ((blk _ _ _ _ hx).setOther (by show g ≠ wb.heap.size; omega) _).congr fun j hj => ?_⟩
      obtain rfl | rfl | rfl : j = 0 ∨ j = 1 ∨ j = 2 := by omega
      · rfl
      · rfl
      · rfl
    · simp only [if_neg e]
      obtain ⟨r1, r2, r3⟩ := h.rows i (by omega)
      have r4 := blk _ _ _ _ (r3.below hb1 r3.lt)
      exact ⟨r1, r2, r4.setOther (by show G i ≠ wb.heap.size; omega) _⟩
  · intro i j hi hj hij
    by_cases e1 : i = k
    · by_cases e2 : j = k
      · omega
      · simp only [if_pos e1, if_neg e2]
        have := (h.rows j (by omega)).2.2.lt
        omega
    · by_cases e2 : j = k
      · simp only [if_neg e1, if_pos e2]
        have := (h.rows i (by omega)).2.2.lt
        omega
      · simp only [if_neg e1, if_neg e2]
        exact h.inj i j (by omega) (by omega) hij

/-- k rows of words are gathered; w1: as the pasts were there -/
structure B2 (wb w1 : World) (l0 l1 l2 pv : Value) (k : Nat) (GM CM lenM : Nat → Nat) (f : Nat → Nat → Int) (ma : Option Addr) (mc : Nat) (wr : World) : Prop where
  bel : Below wb.heap.size wb wr
  hR : wr.heap[wb.heap.size]? = some (.cells #[l0, l1, l2, pv, .slice ma k mc] 68 (0, 0))
  keep : ∀ g, g < w1.heap.size → g ≠ wb.heap.size → wr.heap[g]? = w1.heap[g]?
  size : wb.heap.size < w1.heap.size ∧ w1.heap.size ≤ wr.heap.size
  own : wr.ownsRow w1.heap.size 36 1 (.slice ma k mc) k ((List.range k).map (rowV GM CM lenM))
  inner : Inner wr w1.heap.size GM CM k lenM f
theorem B2.first {wb : World} {l0 l1 l2 : Value} {B : List (List Int)} {k : Nat} {G C : Nat → Nat} {pa : Option Addr} {pc : Nat} {w1 : World} (lenM : Nat → Nat) (f : Nat → Nat → Int) (h : B1 wb l0 l1 l2 B k G C pa pc w1) :
    B2 wb w1 l0 l1 l2 (.slice pa k pc) 0 (fun _ => 0) (fun _ => 0) lenM f none 0 w1 where
  bel := h.bel
  hR := h.hR
  keep := fun g _ _ => rfl
  size := ⟨h.cells.2.2, Nat.le_refl _⟩
  own := World.ownsRow_nil _ _ _ _
  inner := ⟨fun i hi => absurd hi (Nat.not_lt_zero _), fun i j hi => absurd hi (Nat.not_lt_zero _)⟩
theorem B2.cells {wb w1 : World} {l0 l1 l2 pv : Value} {k : Nat} {GM CM lenM : Nat → Nat} {f : Nat → Nat → Int} {ma : Option Addr} {mc : Nat} {wr : World} (h : B2 wb w1 l0 l1 l2 pv k GM CM lenM f ma mc wr) :
    wr.cell? ⟨wb.heap.size, 4, none⟩ = some (.slice ma k mc) ∧ wb.heap.size < wr.heap.size :=
  ⟨by rw [cell_of_block h.hR]; rfl, (Array.getElem?_eq_some_iff.1 h.hR).1⟩
theorem B2.step {wb w1 : World} {l0 l1 l2 pv : Value} {k : Nat} {GM CM lenM : Nat → Nat} {f : Nat → Nat → Int} {ma : Option Addr} {mc : Nat} {wr wc w2 : World} {g cap : Nat} {ma2 : Option Addr} {mc2 : Nat} {X : Obj} (h : B2 wb w1 l0 l1 l2 pv k GM CM lenM f ma mc wr)
    (hb1 : Below wr.heap.size wr wc) (hg1 : wr.heap.size ≤ g) (hm : cap ≤ maxLen) (hx : RowX wc g 2 cap (lenM k) (fun j => .int .i64 (f k j)))
    (ho2 : w2.ownsRow w1.heap.size 36 1 (.slice ma2 (k + 1) mc2) (k + 1) ((List.range k).map (rowV GM CM lenM) ++ [.slice (some ⟨g, 0, none⟩) (lenM k) cap])) (hg2 : (wc.alloc X).grownBy w2 (Value.ownBlock (.slice ma k mc))) :
    w2.cell? ⟨wb.heap.size, 4, none⟩ = some (.slice ma k mc) ∧ w2.frozen? ⟨wb.heap.size, 4, none⟩ = false ∧
      B2 wb w1 l0 l1 l2 pv (k + 1) (fun i => if i = k then g else GM i) (fun i => if i = k then cap else CM i) lenM f ma2 mc2 (w2.setCell ⟨wb.heap.size, 4, none⟩ (.slice ma2 (k + 1) mc2)) := by
  have hRl := h.cells.2
  have hs1 := hb1.size
  obtain ⟨z1, z2⟩ := h.size
  have hRc : wc.heap[wb.heap.size]? = some (.cells #[l0, l1, l2, pv, .slice ma k mc] 68 (0, 0)) := by rw [hb1.block _ hRl]; exact h.hR
  have ho1 := own_below h.own hb1
  have hR2 := begin_run hRc ho1 (by omega) hg2
  have hoa := own_below ho1 (below_alloc1 wc X)
  have hbel1 : Below wb.heap.size wb (wc.alloc X) := (h.bel.trans (hb1.mono (by omega))).alloc (by omega) _
  have hbel2 : Below wb.heap.size wb w2 := hbel1.grown hg2 (by simp; omega) (fun q hq => by have := own_block_ge ho1 q hq; omega)
  have hx2 : RowF w2 g 2 (lenM k) (fun j => .int .i64 (f k j)) := by
    have hr : RowF (wc.alloc X) g 2 (lenM k) (fun j => .int .i64 (f k j)) := hx.row.alloc X
    exact hr.of_block (hg2.block g hr.lt (own_apart hoa hr (by decide)))
  have hi1 := (h.inner.below hb1).below (below_alloc1 wc X)
  have hi2 : Inner w2 w1.heap.size GM CM k lenM f := hi1.keep fun i hi => hg2.block _ (hi1.1 i hi).2.2.2.lt (own_apart hoa (hi1.1 i hi).2.2.2 (by decide))
  refine ⟨by rw [cell_of_block hR2]; rfl, unfrozen_of_block hR2 4, ?_⟩
  refine { bel := hbel2.setCell (by show wb.heap.size ≤ wb.heap.size; omega) _, hR := ?_, keep := ?_, size := ?_, own := ?_, inner := ?_ }
  · rw [block_setCell hR2]; rfl
  · intro q hq hne
    rw [Below.heap_setCell _ _ _ _ (by show q ≠ wb.heap.size; exact hne), hg2.block q (by simp; omega) (own_ne ho1 hq), Below.heap_alloc _ _ _ (by omega), hb1.block q (by omega)]
    exact h.keep q hq hne
  · refine ⟨z1, ?_⟩
    have h2 := hg2.size
    simp at h2 ⊢
    omega
  · refine ownsRow_setCell_below ?_ (by show wb.heap.size < _; omega) _
    rw [← rowV_snoc]; exact ho2
  · refine (hi2.snoc g cap (by omega) hx.le hm hx2 (fun i hi => by have := (h.inner.1 i hi).2.2.2.lt; omega)).keep fun i hi => Below.heap_setCell _ _ _ _ ?_
    show (if i = k then g else GM i) ≠ wb.heap.size
    by_cases e : i = k
    · rw [if_pos e]; omega
    · rw [if_neg e]
      have := (h.inner.1 i (by omega)).1
      omega

/-- the first stand of a run -/
theorem begin_inv {w wb w1 wr : World} {l0 l1 l2 : Value} {B M : List (List Int)} {N n : Nat} {G C GM CM : Nat → Nat} {pa ma : Option Addr} {pc mc : Nat} (hw : Below w.heap.size w wb) (h1 : B1 wb l0 l1 l2 B N G C pa pc w1) (hN : 0 < N)
    (h2 : B2 wb w1 l0 l1 l2 (.slice pa N pc) n GM CM (fun i => (rowAt M i).length) (fun i j => nth (rowAt M i) j) ma mc wr) :
    ∃ gp gm, RInv w wb.heap.size l0 l1 l2 gp pc (.slice ma n mc) gm mc N n (fun i => (rowAt M i).length) GM CM B G C 0 0 (startS M) wr ∧ n ≤ mc ∧ mc ≤ maxLen := by
  have hws := hw.size
  obtain ⟨z1, z2⟩ := h2.size
  obtain ⟨gp, cp, hv, hgp, hc1, hc2, hrow⟩ := own_parts h1.own (.inr hN)
  injection hv with e1 e2 e3
  subst e1; subst e3
  have hgne : gp ≠ wb.heap.size := by omega
  have hpo : RowF wr gp 36 N (rowV G C (plen 0 0)) := by
    refine (hrow.of_block (h2.keep gp hrow.lt hgne)).congr fun i hi => ?_
    rw [getD_range _ _ _ hi]
    rfl
  obtain ⟨ma', mc', hmv, hm1, hm2⟩ := own_shape h2.own
  injection hmv with f1 f2 f3
  subst f1; subst f3
  have hcommon : ∀ gm, (n = 0 ∨ (Value.slice ma n mc = .slice (some ⟨gm, 0, none⟩) n mc ∧ n ≤ mc ∧ mc ≤ maxLen ∧ RowF wr gm 36 n (rowV GM CM (fun i => (rowAt M i).length)) ∧ w.heap.size ≤ gm ∧ gm ≠ gp)) →
      RInv w wb.heap.size l0 l1 l2 gp pc (.slice ma n mc) gm mc N n (fun i => (rowAt M i).length) GM CM B G C 0 0 (startS M) wr := by
    intro gm hg
    refine { bel := hw.trans (h2.bel.mono hws), hR := h2.hR, hRb := hws, pout := hpo, pb := ⟨by omega, hc1, hc2⟩, pin := ?_, pinj := h1.inj, mout := hg, min := ?_, apart := ?_ }
    · intro i hi
      obtain ⟨r1, r2, r3⟩ := h1.rows i hi
      refine ⟨by omega, r2, (r3.of_block (h2.keep _ r3.lt (by omega))).congr fun j hj => ?_⟩
      unfold pastV
      rw [if_pos hj]
    · exact ⟨fun i hi => ⟨by have := (h2.inner.1 i hi).1; omega, (h2.inner.1 i hi).2.1, (h2.inner.1 i hi).2.2.1, (h2.inner.1 i hi).2.2.2⟩, h2.inner.2⟩
    · intro i j hi hj
      have a1 := (h1.rows i hi).2.2.lt
      have a2 := (h2.inner.1 j hj).1
      omega
  by_cases e : n = 0
  · exact ⟨gp, 0, hcommon 0 (.inl e), hm1, hm2⟩
  · obtain ⟨gm, cm, hv, hgm, d1, d2, hr⟩ := own_parts h2.own (.inr (by omega))
    injection hv with x1 x2 x3
    have hgpl := hrow.lt
    refine ⟨gp, gm, hcommon gm (.inr ⟨by rw [x1], hm1, hm2, hr.congr fun i hi => getD_range _ _ _ hi, by omega, by omega⟩), hm1, hm2⟩
end Go.Proofs.Ytjjiiacdblhnmaa
