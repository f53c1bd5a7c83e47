/- The document's own run of a loop, as it ends: the outs are gathered one by one; what lies there reads as the Result. -/
import Derived.Test.YtjjiiacdblhnmaaRef3Box
namespace Go.Proofs.Ytjjiiacdblhnmaa
open Go.RowKit Go.Joins
set_option linter.unusedVariables false

theorem out_range {n : Nat} {l : List Int} (h : outsOk n l = true) {i : Nat} (hi : i < l.length) : 0 ≤ nth l i ∧ nth l i < n := by
  have h1 := inR_iff.1 (allN_get h i hi)
  have h2 := prev_range n l i (by omega) (allN_mk fun k hk => allN_get h k (by omega))
  omega

/-- where the gathering stands: q outs in the result's first field, the words in its second -/
def OutsAt (wr wq : World) (zs : List Int) (q : Nat) (mv : Value) (oa : Option Addr) (oc : Nat) : Prop :=
  wq.heap[wr.heap.size]? = some (.cells #[.slice oa q oc, mv] 38 (0, 0)) ∧ wq.ownsRow (wr.heap.size + 1) 2 1 (.slice oa q oc) q ((zs.take q).map (Value.int .i64)) ∧ Below wr.heap.size wr wq

theorem OutsAt.first (wr : World) (zs : List Int) (mv : Value) : OutsAt wr (wr.alloc (.cells #[.slice none 0 0, mv] 38)) zs 0 mv none 0 :=
  ⟨by show (wr.heap.push _)[wr.heap.size]? = _; simp, World.ownsRow_nil _ _ _ _, below_alloc1 _ _⟩
theorem OutsAt.cells {wr wq : World} {zs : List Int} {q : Nat} {mv : Value} {oa : Option Addr} {oc : Nat} (h : OutsAt wr wq zs q mv oa oc) :
    wq.cell? ⟨wr.heap.size, 0, none⟩ = some (.slice oa q oc) ∧ wq.cell? ⟨wr.heap.size, 1, none⟩ = some mv ∧ (∀ i, wq.frozen? ⟨wr.heap.size, i, none⟩ = false) ∧ wr.heap.size < wq.heap.size :=
  ⟨by rw [cell_of_block h.1]; rfl, by rw [cell_of_block h.1]; rfl, fun i => unfrozen_of_block h.1 i, (Array.getElem?_eq_some_iff.1 h.1).1⟩
theorem take_next (zs : List Int) (q : Nat) (h : q < zs.length) : (zs.take q).map (Value.int .i64) ++ [.int .i64 (nth zs q)] = (zs.take (q + 1)).map (Value.int .i64) := by
  rw [List.take_succ_eq_append_getElem h, List.map_append]
  congr 1
  simp [nth, List.getD, h]
/-- one out more -/
theorem OutsAt.step {wr wq w2 : World} {zs : List Int} {q : Nat} {mv v2 : Value} {oa : Option Addr} {oc n : Nat} {o1 : Obj} (h : OutsAt wr wq zs q mv oa oc) (hq : q < zs.length)
    (ho : w2.ownsRow (wr.heap.size + 1) 2 1 v2 (q + 1) ((zs.take q).map (Value.int .i64) ++ [.int .i64 (nth zs q)])) (hg : ((wq.drewN n).alloc o1).grownBy w2 (Value.ownBlock (.slice oa q oc))) :
    ∃ oa' oc', v2 = .slice oa' (q + 1) oc' ∧ w2.cell? ⟨wr.heap.size, 0, none⟩ = some (.slice oa q oc) ∧ w2.frozen? ⟨wr.heap.size, 0, none⟩ = false ∧ OutsAt wr (w2.setCell ⟨wr.heap.size, 0, none⟩ v2) zs (q + 1) mv oa' oc' := by
  obtain ⟨oa', oc', rfl, -, hx⟩ := own_shape ho
  have hlt := h.cells.2.2.2
  have hown := h.2.1
  have hne : some wr.heap.size ≠ Value.ownBlock (.slice oa q oc) := fun e => by have := own_block_ge hown _ e.symm; omega
  have hblk : w2.heap[wr.heap.size]? = some (.cells #[.slice oa q oc, mv] 38 (0, 0)) := by
    rw [hg.block wr.heap.size (by simp; omega) hne, Below.heap_alloc (wq.drewN n) o1 wr.heap.size hlt]
    exact h.1
  refine ⟨oa', oc', rfl, by rw [cell_of_block hblk]; rfl, unfrozen_of_block hblk 0, ?_, ?_, ?_⟩
  · rw [block_setCell hblk]; rfl
  · refine ownsRow_setCell_below ?_ (by show wr.heap.size < _; omega) _
    rw [← take_next zs q hq]; exact ho
  · refine Below.setCell ?_ (by show wr.heap.size ≤ wr.heap.size; omega) _
    have hb := h.2.2
    refine (hb.trans ((below_draws _ _ n).alloc (by have := hb.size; simp; omega) o1)).grown hg (by have := hb.size; simp; omega) (fun k hk => by have := own_block_ge hown k hk; omega)

theorem ints_of_own {w : World} {base : Nat} {v : Value} {zs : List Int} (h : w.ownsRow base 2 1 v zs.length (zs.map (Value.int .i64))) (hz : ∀ i, I64 (nth zs i)) : Ints w v zs := by
  obtain ⟨a, cap, hv, h1, h2⟩ := own_shape h
  refine ⟨a, cap, hv, h1, h2, fun i _ => hz i, fun hp => ?_⟩
  obtain ⟨g, c, hv2, hg, h3, h4, hr⟩ := own_parts h (.inr hp)
  rw [hv] at hv2
  injection hv2 with e1 e2 e3
  refine ⟨g, 0, e1, hr.lt, fun i hi => ?_⟩
  rw [Nat.zero_add, hr.cell hi, getD_ints zs i hi]
theorem rows_of_inv {w0 : World} {base : Nat} {am : Option Addr} {capm gm cap A turns N n T : Nat} {G C len GA : Nat → Nat} {s : Sq} {wr : World} (h : PInv w0 base (.slice am n capm) gm cap A turns N n T G C len GA s wr) (hc1 : n ≤ capm) (hc2 : capm ≤ maxLen) (hs : s.fine) :
    IntRows wr (.slice am n capm) ((List.range n).map fun i => (List.range (len i)).map fun j => s.mem i j) := by
  have hl : ((List.range n).map fun i => (List.range (len i)).map fun j => s.mem i j).length = n := by simp
  refine ⟨am, capm, by rw [hl], by rw [hl]; exact hc1, hc2, fun hp => ?_⟩
  rw [hl] at hp ⊢
  rcases h.outer with e | ⟨e1, e2, e3, e4, e5, e6⟩
  · omega
  injection e1 with f1 f2 f3
  refine ⟨gm, 0, f1, e4.lt, fun i hi => ⟨rowV G C len i, by rw [Nat.zero_add]; exact e4.cell hi, ?_⟩⟩
  obtain ⟨g1, g2, g3, g4⟩ := h.inner.1 i hi
  have hr : rowAt ((List.range n).map fun i => (List.range (len i)).map fun j => s.mem i j) i = (List.range (len i)).map fun j => s.mem i j := by unfold rowAt; simp [List.getD, hi]
  have hnth : ∀ j, j < len i → nth ((List.range (len i)).map fun j => s.mem i j) j = s.mem i j := fun j hj => by unfold nth; simp [List.getD, hj]
  have hl2 : ((List.range (len i)).map fun j => s.mem i j).length = len i := by simp
  rw [hr]
  refine ⟨some ⟨G i, 0, none⟩, C i, by rw [hl2]; rfl, by rw [hl2]; exact g2, g3, fun j hj => ?_, fun _ => ⟨G i, 0, rfl, g4.lt, fun j hj => ?_⟩⟩
  · rw [hl2] at hj; rw [hnth j hj]; exact hs.1 i j
  · rw [hl2] at hj; rw [Nat.zero_add, hnth j hj]; exact g4.cell hj
/-- a store below what is the call's own leaves the words to be read -/
theorem PInv.words {w0 : World} {base : Nat} {am : Option Addr} {capm gm A turns N n T : Nat} {G C len GA : Nat → Nat} {s : Sq} {wr : World} (h : PInv w0 base (.slice am n capm) gm capm A turns N n T G C len GA s wr) {b i : Nat} (hb : b < base) (u : Value) :
    PInv (w0.setCell ⟨b, i, none⟩ u) base (.slice am n capm) gm capm A turns N n T G C len GA s (wr.setCell ⟨b, i, none⟩ u) where
  bel := by
    refine ⟨h.bel.os, h.bel.tape, h.bel.output, by simpa [World.setCell] using h.bel.size, fun k hk => ?_⟩
    by_cases e : k = b
    · subst e
      simp only [World.setCell, Array.getElem?_modify]
      rw [h.bel.block k hk]
    · rw [Below.heap_setCell _ _ _ _ (by show k ≠ b; exact e), Below.heap_setCell _ _ _ _ (by show k ≠ b; exact e)]
      exact h.bel.block k hk
  outer := by
    rcases h.outer with h1 | ⟨h1, h2, h3, h4, h5, h6⟩
    · exact .inl h1
    · exact .inr ⟨h1, h2, h3, h4.setOther (by show gm ≠ b; omega) _, h5, h6⟩
  inner := h.inner.keep fun j hj => Below.heap_setCell _ _ _ _ (by have := (h.inner.1 j hj).1; show G j ≠ b; omega)
  under := h.under
  hall := h.hall.setOther (by have := h.hA; show A ≠ b; omega) _
  rows := fun j hj => ⟨(h.rows j hj).1, (h.rows j hj).2.setOther (by have := (h.rows j hj).1; have := h.hA; show GA j ≠ b; omega) _⟩
  inj := h.inj
  hA := h.hA
/-- the cells of the result's own variable -/
theorem boxed_res {w wr : World} {l0 l1 l2 s0 s1 : Value} (h : Below (w.heap.size + 3) (boxed w l0 l1 l2 s0 s1) wr) : wr.heap[w.heap.size + 2]? = some (.cells #[.slice none 0 0, .slice none 0 0] 38 (0, 0)) := by
  rw [h.block _ (by omega)]
  unfold boxed
  show ((((w.heap.push _).push _).push _))[w.heap.size + 2]? = _
  rw [Array.getElem?_push, if_pos (by simp)]
theorem outsOf_len (L : Lp) (B : List (List Int)) (t : Nat) (s : Sq) : (outsOf L B t s).length = L.outs.length := by unfold outsOf; simp
theorem outsOf_nth (L : Lp) (B : List (List Int)) (t : Nat) (s : Sq) (i : Nat) (h : i < L.outs.length) : nth (outsOf L B t s) i = if t = 0 then nth (rowAt B (nth L.outs i).toNat) 0 else s.val (t - 1) (nth L.outs i).toNat := by
  unfold outsOf nth; simp [List.getD, h]
theorem outsOf_in (L : Lp) (B : List (List Int)) (t : Nat) (s : Sq) (hB : RowsIn B) (hs : s.fine) : ∀ i, I64 (nth (outsOf L B t s) i) := by
  intro i
  by_cases h : i < L.outs.length
  · rw [outsOf_nth L B t s i h]; exact i64_ite (hB _ _) (hs.2 _ _)
  · have : nth (outsOf L B t s) i = 0 := by
      show ((outsOf L B t s)[i]?).getD 0 = 0
      rw [List.getElem?_eq_none (by rw [outsOf_len]; omega)]; rfl
    rw [this]; exact i64_0
end Go.Proofs.Ytjjiiacdblhnmaa
