/- What stands in memory while an Op is done, and what its result makes of it. -/
import Derived.Test.YtlgphgfldfjkkaaKernSto
import Derived.Test.YtlgphgfldfjkkaaKernOne
namespace Go.Proofs.Ytlgphgfldfjkkaa
open Go.RowKit Go.Joins
set_option linter.unusedVariables false
set_option linter.unusedSimpArgs false

theorem Try.i129 : (Try.prog.info? 129).map (fun i => (i.zero, i.size, i.bytes)) = some (some (.agg #[.int .i64 0, .int .i64 0]), 2, 16) := by kernel_rfl
theorem Try.i1 : (Try.prog.info? 1).map (fun i => (i.zero, i.size, i.bytes)) = some (some .nilFunc, 1, 8) := by kernel_rfl
/-- the cells of a variable of type Op -/
theorem op_box {w : World} {X : Nat} {sl sg o d a b ar sp pl nn : Int} (h : w.heap[X]? = some (.cells #[.int .i64 sl, .int .i64 sg, .int .i64 o, .int .i64 d, .int .i64 a, .int .i64 b, .int .i64 ar, .int .i64 sp, .int .i64 pl, .int .i64 nn] 68 (0, 0))) :
    w.cell? ⟨X, 0, none⟩ = some (.int .i64 sl) ∧ w.cell? ⟨X, 1, none⟩ = some (.int .i64 sg) ∧ w.cell? ⟨X, 2, none⟩ = some (.int .i64 o) ∧ w.cell? ⟨X, 3, none⟩ = some (.int .i64 d) ∧ w.cell? ⟨X, 4, none⟩ = some (.int .i64 a) ∧ w.cell? ⟨X, 5, none⟩ = some (.int .i64 b) ∧ w.cell? ⟨X, 6, none⟩ = some (.int .i64 ar) ∧ w.cell? ⟨X, 7, none⟩ = some (.int .i64 sp) ∧ w.cell? ⟨X, 8, none⟩ = some (.int .i64 pl) ∧ w.cell? ⟨X, 9, none⟩ = some (.int .i64 nn) := by
  have key := cell_of_block h
  refine ⟨?_, ?_, ?_, ?_, ?_, ?_, ?_, ?_, ?_, ?_⟩ <;> (rw [key]; rfl)
theorem new_block (w : World) (cs : Array Value) (e : TypeId) : (w.alloc (.cells cs e)).heap[w.heap.size]? = some (.cells cs e (0, 0)) := by
  show (w.heap.push _)[w.heap.size]? = _
  simp
theorem act_is {pc turns : Int} {T P : Nat} {x : Kop} (hs : x.sl = (T : Int) % pc) (hp : (T : Int) / pc = (P : Int)) : actK pc turns T x = inR (P - x.sg) 0 (turns - 1) := by
  unfold actK inR
  rw [decide_eq_true hs, hp, Bool.true_and, ← Bool.decide_and]
  exact decide_eq_decide.2 (by omega)
theorem wait_nat {t : Tg} (h : mayT t = true) (o : Int) : ∃ wt : Nat, waitsT t (clsv o) = (wt : Int) ∧ 1 ≤ wt ∧ wt ≤ 6 ∧ waitT t o = (wt : Int) := by
  obtain ⟨h1, h2, h3, -, -⟩ := mayT_parts h
  have h1 := unit_iff h1
  have h2 := unit_iff h2
  have h3 := unit_iff h3
  have hw : waitT t o = waitsT t (clsv o) := by unfold waitT; rw [if_pos h]
  rw [hw]
  rcases cls_three o with hc | hc | hc
  · exact ⟨t.w0.toNat, by rw [hc]; show t.w0 = _; omega, by omega, by omega, by rw [hc]; show t.w0 = _; omega⟩
  · exact ⟨t.w1.toNat, by rw [hc]; show t.w1 = _; omega, by omega, by omega, by rw [hc]; show t.w1 = _; omega⟩
  · exact ⟨t.w2.toNat, by rw [hc]; show t.w2 = _; omega, by omega, by omega, by rw [hc]; show t.w2 = _; omega⟩
theorem wait_cells (t : Tg) (o : Int) (wt : Nat) (h : waitT t o = (wt : Int)) (w : World) : Calls Try.prog 27 #[.agg #[.int .i64 t.u0, .int .i64 t.u1, .int .i64 t.u2, .int .i64 t.w0, .int .i64 t.w1, .int .i64 t.w2, .int .i64 t.r], .int .i64 o] w fun e w' => e = .returned (.int .i64 wt) ∧ Below w.heap.size w w' := by
  rw [← h]; exact pwait_any t o w
theorem dueAt_sum (A T wt : Nat) (w : World) (h : T + wt ≤ 40000) : Calls Try.prog 83 #[.pointer (some ⟨A, 0, none⟩), .int .i64 ((T : Int) + (wt : Int))] w fun e w' => e = .returned (.pointer (some ⟨A, 14 + (T + wt) % 6, none⟩)) ∧ w' = w := by
  have := dueAt_at A (T + wt) w h
  rw [Int.natCast_add] at this
  exact this
/-- an Op is being done: its own variable lies at X, what it came to at BI -/
structure Rdy (c : Mc) (V : Nat → Value) (D : List Du) (f : Nat → Int) (m : Nat → Nat → Int) (X BI : Nat) (sl sg o d a b ar sp pl nn v : Int) (x : World) : Prop where
  inv : MInv c V D f m x
  hX : x.heap[X]? = some (.cells #[.int .i64 sl, .int .i64 sg, .int .i64 o, .int .i64 d, .int .i64 a, .int .i64 b, .int .i64 ar, .int .i64 sp, .int .i64 pl, .int .i64 nn] 68 (0, 0))
  hB : x.heap[BI]? = some (.cells #[.int .i64 v] 2 (0, 0))
variable {c : Mc} {V : Nat → Value} {D : List Du} {f : Nat → Int} {m : Nat → Nat → Int} {X BI : Nat} {sl sg o d a b ar sp pl nn v : Int} {x : World}
theorem Rdy.below {x' : World} (h : Rdy c V D f m X BI sl sg o d a b ar sp pl nn v x) (hb : Below x.heap.size x x') : Rdy c V D f m X BI sl sg o d a b ar sp pl nn v x' :=
  ⟨h.inv.below hb, by rw [hb.block _ (Array.getElem?_eq_some_iff.1 h.hX).1]; exact h.hX, by rw [hb.block _ (Array.getElem?_eq_some_iff.1 h.hB).1]; exact h.hB⟩
theorem Rdy.s10 (h : Rdy c V D f m X BI sl sg o d a b ar sp pl nn v x) : (x.cell? ⟨c.A, 0, none⟩ = some (.int .i64 c.t.u0) ∧ x.cell? ⟨c.A, 1, none⟩ = some (.int .i64 c.t.u1) ∧ x.cell? ⟨c.A, 2, none⟩ = some (.int .i64 c.t.u2) ∧ x.cell? ⟨c.A, 3, none⟩ = some (.int .i64 c.t.w0) ∧ x.cell? ⟨c.A, 4, none⟩ = some (.int .i64 c.t.w1) ∧ x.cell? ⟨c.A, 5, none⟩ = some (.int .i64 c.t.w2) ∧ x.cell? ⟨c.A, 6, none⟩ = some (.int .i64 c.t.r)) ∧ x.cell? ⟨X, 2, none⟩ = some (.int .i64 o) :=
  ⟨h.inv.cells.1, (op_box h.hX).2.2.1⟩
theorem Rdy.s11 {j n0 vc : Nat} {va : Option Addr} (h : Rdy c V D f m X BI sl sg o d a b ar sp pl nn v x) (hj : j < 6) (hV : V j = .slice va n0 vc) : x.cell? ⟨c.A, 14 + j, none⟩ = some (.slice va n0 vc) ∧ x.cell? ⟨X, 3, none⟩ = some (.int .i64 d) ∧ x.cell? ⟨c.A, 6, none⟩ = some (.int .i64 c.t.r) ∧ x.cell? ⟨BI, 0, none⟩ = some (.int .i64 v) :=
  ⟨by rw [h.inv.cells.2.2 j hj, hV], (op_box h.hX).2.2.2.1, h.inv.cells.1.2.2.2.2.2.2, by rw [cell_of_block h.hB]; rfl⟩
/-- a block of another type is not the one that is appended to -/
theorem due_far {j g : Nat} {cs : Array Value} {e : TypeId} (h : MInv c V D f m x) (hj : j < 6) (hb : x.heap[g]? = some (.cells cs e (0, 0))) (he : e ≠ 129) : some g ≠ (V j).ownBlock := by
  intro e2
  obtain ⟨-, hd⟩ := h.due j hj
  rcases hd with ⟨e3, _⟩ | ⟨g', cap, cur, e3, _, hb3, _⟩
  · rw [e3] at e2; cases e2
  · rw [e3] at e2
    have e4 : g = g' := by simpa [Value.ownBlock] using e2
    subst e4
    exact blocks_apart hb hb3 he rfl
theorem Rdy.grown {j n0 vc : Nat} {va : Option Addr} {w6 : World} (h : Rdy c V D f m X BI sl sg o d a b ar sp pl nn v x) (hj : j < 6) (hV : V j = .slice va n0 vc) (hg : x.grownBy w6 (Value.slice va n0 vc).ownBlock) : (w6.cell? ⟨c.A, 14 + j, none⟩ = some (.slice va n0 vc) ∧ w6.cell? ⟨X, 3, none⟩ = some (.int .i64 d) ∧ w6.cell? ⟨c.A, 6, none⟩ = some (.int .i64 c.t.r) ∧ w6.cell? ⟨BI, 0, none⟩ = some (.int .i64 v)) ∧ w6.frozen? ⟨c.A, 14 + j, none⟩ = false := by
  rw [← hV] at hg
  have bA := hg.block c.A h.inv.A_lt (due_far h.inv hj h.inv.hA (by decide))
  have bX := hg.block X (Array.getElem?_eq_some_iff.1 h.hX).1 (due_far h.inv hj h.hX (by decide))
  have bB := hg.block BI (Array.getElem?_eq_some_iff.1 h.hB).1 (due_far h.inv hj h.hB (by decide))
  obtain ⟨s1, s2, s3, s4⟩ := h.s11 hj hV
  refine ⟨⟨?_, ?_, ?_, ?_⟩, ?_⟩
  · rw [World.cell?_of_block (a := ⟨c.A, 14 + j, none⟩) bA]; exact s1
  · rw [World.cell?_of_block (a := ⟨X, 3, none⟩) bX]; exact s2
  · rw [World.cell?_of_block (a := ⟨c.A, 6, none⟩) bA]; exact s3
  · rw [World.cell?_of_block (a := ⟨BI, 0, none⟩) bB]; exact s4
  · simp [World.frozen?, bA, h.inv.hA]
theorem two_cells (w : World) (a b : Value) (t : TypeId) : ∀ (j : Nat) (u : Value), [a, b][j]? = some u → (w.alloc (.cells #[a, b] t)).cell? ((⟨w.heap.size, 0, none⟩ : Addr).add j) = some u := by
  intro j u hj
  have ha : (⟨w.heap.size, 0, none⟩ : Addr).add j = ⟨w.heap.size, j, none⟩ := by simp [Addr.add]; omega
  rw [ha, cell_of_block (new_block _ _ _)]
  simpa using hj
/-- a result is on its way -/
theorem MInv.push {T wt j n0 g cap vc : Nat} {va : Option Addr} {rg u : Int} {l0 : List Du} {w6 : World} (h : MInv c V D f m x) (hj : (T + wt) % 6 = j) (hV : V j = .slice va n0 vc) (hl : lane D (j : Int) = l0) (hn : l0.length = n0)
    (hown : w6.ownsRow c.w1.heap.size 129 2 (.slice (some ⟨g, 0, none⟩) (n0 + 1) cap) (n0 + 1) (flatR l0 ++ [.int .i64 rg, .int .i64 u])) (hg : x.grownBy w6 (Value.slice va n0 vc).ownBlock) (hat : (Value.slice va n0 vc).ownBlock = some g ∨ x.heap.size ≤ g) :
    MInv c (fun i => if i = j then .slice (some ⟨g, 0, none⟩) (n0 + 1) cap else V i) (D ++ [⟨(T : Int) + (wt : Int), rg, u⟩]) f m (w6.setCell ⟨c.A, 14 + j, none⟩ (.slice (some ⟨g, 0, none⟩) (n0 + 1) cap)) := by
  have h6 : j < 6 := by omega
  have hq : ((T : Int) + (wt : Int)) % 6 = (j : Int) := by omega
  rw [← hV] at hg hat
  have e1 : lane (D ++ [⟨(T : Int) + (wt : Int), rg, u⟩]) (j : Int) = l0 ++ [⟨(T : Int) + (wt : Int), rg, u⟩] := by rw [lane_snoc, if_pos (by exact hq), hl]
  refine h.setDue j _ _ w6 h6 hg ?_ ?_ (fun i hi hne => ?_)
  · rw [e1, ← flatR_snoc, List.length_append, hn]
    exact hown
  · rcases hat with e | e
    · exact .inl (by rw [e]; rfl)
    · refine .inr fun q hq2 => ?_
      have e3 : g = q := by simpa [Value.ownBlock] using hq2
      omega
  · rw [lane_snoc, if_neg (by show ¬ ((T : Int) + (wt : Int)) % 6 = (i : Int); omega)]
theorem opsL_len (t : Tg) (logs : List Int) (pc turns now : Int) (f : Nat → Int) (m : Nat → Nat → Int) : ∀ (q : Nx) (l : List Kop), (opsL t logs pc turns now f m q l).du.length ≤ q.du.length + l.length := by
  intro q l
  induction l generalizing q with
  | nil => exact Nat.le_refl _
  | cons x l ih =>
    have h := ih (opK t logs pc turns now f m q x)
    have h2 : (opK t logs pc turns now f m q x).du.length ≤ q.du.length + 1 := by
      unfold opK
      split
      · show (_ ++ [_]).length ≤ _
        rw [List.length_append]; simp
      · omega
    show (opsL t logs pc turns now f m (opK t logs pc turns now f m q x) l).du.length ≤ q.du.length + (l.length + 1)
    omega
theorem stos_len (t : Tg) (logs : List Int) (pc turns now : Int) (f : Nat → Int) (m : Nat → Nat → Int) (l : List Kop) : (stosL t logs pc turns now f m l).length ≤ l.length := by
  unfold stosL
  rw [List.length_map]
  exact List.length_filter_le _ _
/-- a block of another type than a row's is left by an append to that row -/
theorem row_far {b1 n : Nat} {e0 e : TypeId} {u : Value} {xs : List Value} {y w5 : World} {g : Nat} {cs : Array Value} (hrow : y.ownsRow b1 e0 1 u n xs) (hg : y.grownBy w5 u.ownBlock) (hb : y.heap[g]? = some (.cells cs e (0, 0))) (he : e ≠ e0) : w5.heap[g]? = y.heap[g]? := by
  refine hg.block g (Array.getElem?_eq_some_iff.1 hb).1 fun e2 => ?_
  obtain ⟨-, hd⟩ := hrow
  rcases hd with ⟨e3, _⟩ | ⟨g', cap, cur, e3, _, hb3, _⟩
  · rw [e3] at e2; cases e2
  · rw [e3] at e2
    have e4 : g = g' := by simpa [Value.ownBlock] using e2
    subst e4
    exact blocks_apart hb hb3 he rfl
/-- behind an append to the row of closures -/
theorem Rdy.sto {b1 n : Nat} {u : Value} {xs : List Value} {w5 : World} (h : Rdy c V D f m X BI sl sg o d a b ar sp pl nn v x) (hrow : x.ownsRow b1 1 1 u n xs) (hb1 : c.w1.heap.size ≤ b1) (hg : x.grownBy w5 u.ownBlock) : Rdy c V D f m X BI sl sg o d a b ar sp pl nn v w5 := by
  have hge : ∀ k, u.ownBlock = some k → b1 ≤ k := fun k e => ownz_block_ge hrow k e
  refine ⟨h.inv.same ((Below.refl _ _).grown hg h.inv.bel.size fun k e => ?_) (fun g hlt => ?_) (fun j hj g e => ?_), ?_, ?_⟩
  · have := hge k e; have := h.inv.w01; omega
  · exact hg.block g (Nat.lt_of_lt_of_le hlt h.inv.keep.1) fun e => by have := hge g e.symm; omega
  · exact hg.block g (ownz_block_lt (h.inv.due j hj) g e) (ownz_two (h.inv.due j hj) hrow (by decide) g e)
  · rw [row_far hrow hg h.hX (by decide)]; exact h.hX
  · rw [row_far hrow hg h.hB (by decide)]; exact h.hB
theorem one_at (w : World) (v : Value) (t : TypeId) {B : Nat} (hB : w.heap.size = B) : ∀ (j : Nat) (u : Value), [v][j]? = some u → (w.alloc (.cells #[v] t)).cell? ((⟨B, 0, none⟩ : Addr).add j) = some u := by
  subst hB
  intro j u hj
  have ha : (⟨w.heap.size, 0, none⟩ : Addr).add j = ⟨w.heap.size, j, none⟩ := by simp [Addr.add]; omega
  rw [ha, cell_of_block (new_block _ _ _)]
  simpa using hj
theorem ap7 {b1 : Nat} {y y' : World} {l : List Sto} {BI BW : Nat → Nat} (h : (∀ i, i < l.length → (b1 ≤ BI i ∧ y.heap[BI i]? = some (.cells #[.int .i64 (stoAt l i).v] 2 (0, 0))) ∧ (b1 ≤ BW i ∧ y.heap[BW i]? = some (.cells #[.pointer (some ⟨c.GM (stoAt l i).i, (stoAt l i).j, none⟩)] 119 (0, 0))) ∧ (stoAt l i).i < c.n ∧ (stoAt l i).j < c.lenM (stoAt l i).i)) (hb : Below y.heap.size y y') : ∀ i, i < l.length → (b1 ≤ BI i ∧ y'.heap[BI i]? = some (.cells #[.int .i64 (stoAt l i).v] 2 (0, 0))) ∧ (b1 ≤ BW i ∧ y'.heap[BW i]? = some (.cells #[.pointer (some ⟨c.GM (stoAt l i).i, (stoAt l i).j, none⟩)] 119 (0, 0))) ∧ (stoAt l i).i < c.n ∧ (stoAt l i).j < c.lenM (stoAt l i).i := fun i hi => by
  obtain ⟨⟨a1, a2⟩, ⟨a3, a4⟩, a5⟩ := h i hi
  exact ⟨⟨a1, by rw [hb.block _ (Array.getElem?_eq_some_iff.1 a2).1]; exact a2⟩, ⟨a3, by rw [hb.block _ (Array.getElem?_eq_some_iff.1 a4).1]; exact a4⟩, a5⟩
/-- behind a store, the stores that wait lie as they did -/
theorem StoV.two {b1 : Nat} {y : World} {u : Value} {l : List Sto} {BI BW : Nat → Nat} (h1 : y.ownsRow b1 1 1 u l.length ((List.range l.length).map fun i => cloV (BI i) (BW i))) (h2 : (∀ i, i < l.length → (b1 ≤ BI i ∧ y.heap[BI i]? = some (.cells #[.int .i64 (stoAt l i).v] 2 (0, 0))) ∧ (b1 ≤ BW i ∧ y.heap[BW i]? = some (.cells #[.pointer (some ⟨c.GM (stoAt l i).i, (stoAt l i).j, none⟩)] 119 (0, 0))) ∧ (stoAt l i).i < c.n ∧ (stoAt l i).j < c.lenM (stoAt l i).i)) (hI : MInv c V D f m y) (i j : Nat) (hi : i < c.n) (hb1 : c.w1.heap.size ≤ b1) (uu : Value) :
    (y.setCell ⟨c.GM i, j, none⟩ uu).ownsRow b1 1 1 u l.length ((List.range l.length).map fun i => cloV (BI i) (BW i)) ∧ (∀ s, s < l.length → (b1 ≤ BI s ∧ (y.setCell ⟨c.GM i, j, none⟩ uu).heap[BI s]? = some (.cells #[.int .i64 (stoAt l s).v] 2 (0, 0))) ∧ (b1 ≤ BW s ∧ (y.setCell ⟨c.GM i, j, none⟩ uu).heap[BW s]? = some (.cells #[.pointer (some ⟨c.GM (stoAt l s).i, (stoAt l s).j, none⟩)] 119 (0, 0))) ∧ (stoAt l s).i < c.n ∧ (stoAt l s).j < c.lenM (stoAt l s).i) := by
  have far : ∀ g, b1 ≤ g → (y.setCell ⟨c.GM i, j, none⟩ uu).heap[g]? = y.heap[g]? := fun g hg => Below.heap_setCell _ _ _ _ (by show g ≠ c.GM i; have := (hI.min i hi).2.1; omega)
  refine ⟨ownz_keep h1 fun g hg => far g (ownz_block_ge h1 g hg), fun s hs => ?_⟩
  obtain ⟨⟨a1, a2⟩, ⟨a3, a4⟩, a5⟩ := h2 s hs
  exact ⟨⟨a1, by rw [far _ a1]; exact a2⟩, ⟨a3, by rw [far _ a3]; exact a4⟩, a5⟩
theorem i64_wrap (x : Int) (h0 : -9223372036854775808 ≤ x) (h1 : x ≤ 9223372036854775807) : IntKind.i64.wrap x = x := by rw [IntKind.wrap_i64]; omega
end Go.Proofs.Ytlgphgfldfjkkaa
