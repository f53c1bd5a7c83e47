/- KernM: texts that are built as one: KernMach, KernRead, KernLand, KernSto, KernPush. -/
import Derived.Test.YtghlcmljgpkjiabGreatLaneMath
import Derived.Test.YtghlcmljgpkjiabGreatRounds
import Derived.Test.YtghlcmljgpkjiabGreatRef3A
import Derived.Test.YtghlcmljgpkjiabGreatBase
import Derived.Test.YtghlcmljgpkjiabGreatKernS
import Derived.Test.YtghlcmljgpkjiabGreatNums
import Derived.Deep.QuietTactic
import Derived.BigQuiet
import Derived.Test.YtghlcmljgpkjiabGreatRef5A
import Derived.Test.YtghlcmljgpkjiabGreatTarget
/- Where a run of a kernel stands in memory, by the program: the machine, its registers, the words, what is due; what stores, appends and callees leave of it. -/
namespace Go.Proofs.YtghlcmljgpkjiabGreat
open Go.RowKit Go.Joins
set_option linter.unusedVariables false

/-- rows of results, two cells each -/
def reCells (d : Du) : List Value := [.int .i64 d.rg, .int .i64 d.v]
def flatR (l : List Du) : List Value := l.flatMap reCells
theorem flatR_snoc (l : List Du) (d : Du) : flatR l ++ reCells d = flatR (l ++ [d]) := by unfold flatR; simp
/-- what a run leaves as it is: w0: as Run began; w1: as the cycles began; A: the machine; gr: the registers' row; GM i: the words' rows -/
structure Mc where
  w0 : World
  w1 : World
  A : Nat
  t : Tg
  pc : Int
  st : Int
  kv : Value
  lv : Value
  mv : Value
  turns : Int
  R : Nat
  gr : Nat
  cr : Nat
  n : Nat
  lenM : Nat → Nat
  GM : Nat → Nat
/-- all but the machine, its registers and its words is as it was -/
def KeptM (c : Mc) (x : World) : Prop := c.w1.heap.size ≤ x.heap.size ∧ ∀ g, g < c.w1.heap.size → g ≠ c.A → g ≠ c.gr → (∀ i, i < c.n → g ≠ c.GM i) → x.heap[g]? = c.w1.heap[g]?
def machC (c : Mc) (V : Nat → Value) : Array Value :=
  #[.int .i64 c.t.u0, .int .i64 c.t.u1, .int .i64 c.t.u2, .int .i64 c.t.w0, .int .i64 c.t.w1, .int .i64 c.t.w2, .int .i64 c.t.r, .int .i64 c.pc, .int .i64 c.st, c.kv, c.lv, .slice (some ⟨c.gr, 0, none⟩) c.R c.cr, c.mv, .int .i64 c.turns, V 0, V 1, V 2, V 3, V 4, V 5]
structure MInv (c : Mc) (V : Nat → Value) (D : List Du) (f : Nat → Int) (m : Nat → Nat → Int) (wr : World) : Prop where
  bel : Below c.w0.heap.size c.w0 wr
  keep : KeptM c wr
  hA : wr.heap[c.A]? = some (.cells (machC c V) 120 (0, 0))
  hA1 : c.w0.heap.size ≤ c.A ∧ c.A < c.w1.heap.size
  regs : RowF wr c.gr 2 c.R (fun i => .int .i64 (f i))
  hr : c.w0.heap.size ≤ c.gr ∧ c.gr < c.w1.heap.size ∧ c.R ≤ c.cr ∧ c.cr ≤ maxLen
  min : ∀ i, i < c.n → c.w0.heap.size ≤ c.GM i ∧ c.GM i < c.w1.heap.size ∧ RowF wr (c.GM i) 2 (c.lenM i) (fun j => .int .i64 (m i j))
  minj : ∀ i j, i < c.n → j < c.n → i ≠ j → c.GM i ≠ c.GM j
  rM : ∀ i, i < c.n → c.gr ≠ c.GM i
  due : ∀ j : Nat, j < 6 → wr.ownsRow c.w1.heap.size 205 2 (V j) (lane D j).length (flatR (lane D j))
  dinj : ∀ i j : Nat, i < 6 → j < 6 → i ≠ j → ∀ g, (V i).ownBlock = some g → some g ≠ (V j).ownBlock
  w01 : c.w0.heap.size ≤ c.w1.heap.size

/-- blocks of two types are two -/
theorem blocks_apart {w : World} {R g : Nat} {c c' : Array Value} {e e' : TypeId} (h : w.heap[R]? = some (.cells c e (0, 0))) (hr : w.heap[g]? = some (.cells c' e' (0, 0))) (he : e ≠ e') : R ≠ g := by
  intro hg
  subst hg
  rw [h] at hr
  have h1 := Option.some.inj hr
  injection h1 with _ h2
  exact he h2
theorem blockrow_apart {w : World} {R g : Nat} {c : Array Value} {e e' : TypeId} {n : Nat} {f : Nat → Value} (h : w.heap[R]? = some (.cells c e (0, 0))) (hr : RowF w g e' n f) (he : e ≠ e') : R ≠ g := by
  obtain ⟨c', hb, _, _⟩ := hr
  exact blocks_apart h hb he
variable {c : Mc} {V : Nat → Value} {D : List Du} {f : Nat → Int} {m : Nat → Nat → Int} {wr w' : World}

theorem MInv.A_lt (h : MInv c V D f m wr) : c.A < wr.heap.size := (Array.getElem?_eq_some_iff.1 h.hA).1
theorem MInv.A_gr (h : MInv c V D f m wr) : c.A ≠ c.gr := blockrow_apart h.hA h.regs (by decide)
theorem MInv.A_GM (h : MInv c V D f m wr) (i : Nat) (hi : i < c.n) : c.A ≠ c.GM i := blockrow_apart h.hA (h.min i hi).2.2 (by decide)
theorem KeptM.step {x : World} (h : KeptM c wr) (hs : wr.heap.size ≤ x.heap.size) (hb : ∀ g, g < c.w1.heap.size → g ≠ c.A → g ≠ c.gr → (∀ i, i < c.n → g ≠ c.GM i) → x.heap[g]? = wr.heap[g]?) : KeptM c x :=
  ⟨Nat.le_trans h.1 hs, fun g h1 h2 h3 h4 => (hb g h1 h2 h3 h4).trans (h.2 g h1 h2 h3 h4)⟩

/-- whatever writes none of its blocks -/
theorem MInv.same (h : MInv c V D f m wr) (hb : Below c.w0.heap.size wr w') (hk : ∀ g, g < c.w1.heap.size → w'.heap[g]? = wr.heap[g]?) (hd : ∀ j : Nat, j < 6 → ∀ g, (V j).ownBlock = some g → w'.heap[g]? = wr.heap[g]?) : MInv c V D f m w' where
  bel := h.bel.trans hb
  keep := h.keep.step hb.size fun g h1 _ _ _ => hk g h1
  hA := by rw [hk _ h.hA1.2]; exact h.hA
  hA1 := h.hA1
  regs := h.regs.of_block (hk _ h.hr.2.1)
  hr := h.hr
  min := fun i hi => ⟨(h.min i hi).1, (h.min i hi).2.1, (h.min i hi).2.2.of_block (hk _ (h.min i hi).2.1)⟩
  minj := h.minj
  rM := h.rM
  due := fun j hj => ownz_keep (h.due j hj) (hd j hj)
  dinj := h.dinj
  w01 := h.w01
/-- whatever makes new memory alone -/
theorem MInv.below (h : MInv c V D f m wr) (hb : Below wr.heap.size wr w') : MInv c V D f m w' :=
  h.same (hb.mono h.bel.size) (fun g hg => hb.block g (Nat.lt_of_lt_of_le hg h.keep.1)) (fun j hj g hg => hb.block g (ownz_block_lt (h.due j hj) g hg))

/-- the machine's cells -/
theorem MInv.cells (h : MInv c V D f m wr) : (wr.cell? ⟨c.A, 0, none⟩ = some (.int .i64 c.t.u0) ∧ wr.cell? ⟨c.A, 1, none⟩ = some (.int .i64 c.t.u1) ∧ wr.cell? ⟨c.A, 2, none⟩ = some (.int .i64 c.t.u2) ∧ wr.cell? ⟨c.A, 3, none⟩ = some (.int .i64 c.t.w0) ∧ wr.cell? ⟨c.A, 4, none⟩ = some (.int .i64 c.t.w1) ∧ wr.cell? ⟨c.A, 5, none⟩ = some (.int .i64 c.t.w2) ∧ wr.cell? ⟨c.A, 6, none⟩ = some (.int .i64 c.t.r)) ∧
    (wr.cell? ⟨c.A, 7, none⟩ = some (.int .i64 c.pc) ∧ wr.cell? ⟨c.A, 8, none⟩ = some (.int .i64 c.st) ∧ wr.cell? ⟨c.A, 9, none⟩ = some c.kv ∧ wr.cell? ⟨c.A, 10, none⟩ = some c.lv ∧ wr.cell? ⟨c.A, 11, none⟩ = some (.slice (some ⟨c.gr, 0, none⟩) c.R c.cr) ∧ wr.cell? ⟨c.A, 12, none⟩ = some c.mv ∧ wr.cell? ⟨c.A, 13, none⟩ = some (.int .i64 c.turns)) ∧
    (∀ j : Nat, j < 6 → wr.cell? ⟨c.A, 14 + j, none⟩ = some (V j)) := by
  have key : ∀ o, wr.cell? ⟨c.A, o, none⟩ = (machC c V)[o]? := cell_of_block h.hA
  refine ⟨⟨?_, ?_, ?_, ?_, ?_, ?_, ?_⟩, ⟨?_, ?_, ?_, ?_, ?_, ?_, ?_⟩, fun j hj => ?_⟩
  all_goals first
    | (rw [key]; rfl)
    | (rw [key]; obtain rfl | rfl | rfl | rfl | rfl | rfl : j = 0 ∨ j = 1 ∨ j = 2 ∨ j = 3 ∨ j = 4 ∨ j = 5 := by omega
       all_goals rfl)
theorem machC_set (c : Mc) (V : Nat → Value) (j : Nat) (v : Value) (hj : j < 6) : (machC c V).setIfInBounds (14 + j) v = machC c (fun i => if i = j then v else V i) := by
  obtain rfl | rfl | rfl | rfl | rfl | rfl : j = 0 ∨ j = 1 ∨ j = 2 ∨ j = 3 ∨ j = 4 ∨ j = 5 := by omega
  all_goals rfl
/-- a list of what is due becomes another row: all else in it is as it was in wr but for that list's row -/
theorem MInv.setDue (h : MInv c V D f m wr) (j : Nat) (v : Value) (D' : List Du) (w2 : World) (hj : j < 6) (hg : wr.grownBy w2 (V j).ownBlock)
    (ho : w2.ownsRow c.w1.heap.size 205 2 v (lane D' j).length (flatR (lane D' j))) (hv : v.ownBlock = (V j).ownBlock ∨ ∀ g, v.ownBlock = some g → wr.heap.size ≤ g) (hD : ∀ i : Nat, i < 6 → i ≠ j → lane D' i = lane D i) :
    MInv c (fun i => if i = j then v else V i) D' f m (w2.setCell ⟨c.A, 14 + j, none⟩ v) := by
  have hge : ∀ g, (V j).ownBlock = some g → c.w1.heap.size ≤ g := fun g e => ownz_block_ge (h.due j hj) g e
  have blk : ∀ g, g < c.w1.heap.size → w2.heap[g]? = wr.heap[g]? := fun g hg1 => hg.block g (Nat.lt_of_lt_of_le hg1 h.keep.1) fun e => by have := hge g e.symm; omega
  have hbel2 : Below c.w0.heap.size c.w0 w2 := h.bel.grown hg h.bel.size fun k e => by have := hge k e; have := h.w01; omega
  have ho2 : ∀ i : Nat, i < 6 → i ≠ j → w2.ownsRow c.w1.heap.size 205 2 (V i) (lane D i).length (flatR (lane D i)) := fun i hi hij => ownz_keep (h.due i hi) fun g e => hg.block g (ownz_block_lt (h.due i hi) g e) (h.dinj i j hi hj hij g e)
  refine { bel := hbel2.setCell (by show c.w0.heap.size ≤ c.A; exact h.hA1.1) _, keep := ?_, hA := ?_, hA1 := h.hA1, regs := ?_, hr := h.hr, min := ?_, minj := h.minj, rM := h.rM, due := ?_, dinj := ?_, w01 := h.w01 }
  · exact (h.keep.step hg.size fun g h1 _ _ _ => blk g h1).step (by simp [World.setCell]) fun g _ h2 _ _ => Below.heap_setCell _ _ _ _ (by show g ≠ c.A; exact h2)
  · have hb : w2.heap[c.A]? = some (.cells (machC c V) 120 (0, 0)) := by rw [blk _ h.hA1.2]; exact h.hA
    have e : (w2.setCell ⟨c.A, 14 + j, none⟩ v).heap[c.A]? = some (.cells ((machC c V).setIfInBounds (14 + j) v) 120 (0, 0)) := by simp [World.setCell, Array.getElem?_modify, hb]
    rw [e, machC_set _ _ _ _ hj]
  · exact (h.regs.of_block (blk _ h.hr.2.1)).setOther (by show c.gr ≠ c.A; exact h.A_gr.symm) _
  · exact fun i hi => ⟨(h.min i hi).1, (h.min i hi).2.1, ((h.min i hi).2.2.of_block (blk _ (h.min i hi).2.1)).setOther (by show c.GM i ≠ c.A; exact (h.A_GM i hi).symm) _⟩
  · intro i hi
    have far : ∀ g, c.w1.heap.size ≤ g → (w2.setCell ⟨c.A, 14 + j, none⟩ v).heap[g]? = w2.heap[g]? := fun g hg1 => Below.heap_setCell _ _ _ _ (by show g ≠ c.A; have := h.hA1.2; omega)
    by_cases e : i = j
    · subst e
      simp only [if_true]
      exact ownz_keep ho fun g hg1 => far g (ownz_block_ge ho g hg1)
    · simp only [if_neg e]
      rw [hD i hi e]
      exact ownz_keep (ho2 i hi e) fun g hg1 => far g (ownz_block_ge (ho2 i hi e) g hg1)
  · intro i k hi hk hik g hg1
    by_cases e1 : i = j
    · by_cases e2 : k = j
      · omega
      · simp only [if_pos e1] at hg1
        simp only [if_neg e2]
        intro e3
        rcases hv with hv | hv
        · exact h.dinj j k hj hk (by omega) g (by rw [← hv]; exact hg1) e3
        · have h1 := hv g hg1
          have h2 := ownz_block_lt (h.due k hk) g e3.symm
          omega
    · by_cases e2 : k = j
      · simp only [if_neg e1] at hg1
        simp only [if_pos e2]
        intro e3
        rcases hv with hv | hv
        · rw [hv] at e3; exact h.dinj i j hi hj e1 g hg1 e3
        · have h1 := hv g e3.symm
          have h2 := ownz_block_lt (h.due i hi) g hg1
          omega
      · simp only [if_neg e1] at hg1
        simp only [if_neg e2]
        exact h.dinj i k hi hk hik g hg1
end Go.Proofs.YtghlcmljgpkjiabGreat
/- The contracts of a running machine's reading: a register's number, the list that is due, where a word lies, what an Op comes to; nothing that was there is changed. -/
namespace Go.Proofs.YtghlcmljgpkjiabGreat
open Go.RowKit Go.Joins
set_option linter.unusedVariables false
set_option linter.unusedSimpArgs false

/-- what is static: the Logs, and where the words' rows lie -/
def StatM (c : Mc) (logs : List Int) (gm cm : Nat) (CM : Nat → Nat) (x : World) : Prop :=
  Ints x c.lv logs ∧ (0 < c.n → c.mv = .slice (some ⟨gm, 0, none⟩) c.n cm ∧ c.n ≤ cm ∧ cm ≤ maxLen ∧ gm < x.heap.size) ∧ ∀ i, i < c.n → x.cell? ⟨gm, i, none⟩ = some (.slice (some ⟨c.GM i, 0, none⟩) (c.lenM i) (CM i)) ∧ c.lenM i ≤ CM i ∧ CM i ≤ maxLen

end Go.Proofs.YtghlcmljgpkjiabGreat
/- The contract of a cycle's beginning: what is due has become what is in its registers. -/
namespace Go.Proofs.YtghlcmljgpkjiabGreat
open Go.RowKit Go.Joins
set_option linter.unusedVariables false
set_option linter.unusedSimpArgs false

end Go.Proofs.YtghlcmljgpkjiabGreat
/- Stores that wait, as closures in memory; and what an Op comes to, whichever it is. -/
namespace Go.Proofs.YtghlcmljgpkjiabGreat
open Go.RowKit Go.Joins
set_option linter.unusedVariables false
set_option linter.unusedSimpArgs false

/-- a closure that has caught its number and its word -/
def cloV (bi bw : Nat) : Value := .func (.func 137) #[] #[.pointer (some ⟨bi, 0, none⟩), .pointer (some ⟨bw, 0, none⟩)]
/-- v is a row of closures, for the stores l -/
def StoV (c : Mc) (b1 : Nat) (wr : World) (v : Value) (l : List Sto) : Prop :=
  ∃ BI BW : Nat → Nat, wr.ownsRow b1 1 1 v l.length ((List.range l.length).map fun i => cloV (BI i) (BW i)) ∧
    ∀ i, i < l.length → (b1 ≤ BI i ∧ wr.heap[BI i]? = some (.cells #[.int .i64 (stoAt l i).v] 2 (0, 0))) ∧ (b1 ≤ BW i ∧ wr.heap[BW i]? = some (.cells #[.pointer (some ⟨c.GM (stoAt l i).i, (stoAt l i).j, none⟩)] 190 (0, 0))) ∧ (stoAt l i).i < c.n ∧ (stoAt l i).j < c.lenM (stoAt l i).i
/-- whatever leaves the blocks from b1 on as they were, but for rows of results -/
theorem StoV.keep {c : Mc} {b1 : Nat} {wr w' : World} {v : Value} {l : List Sto} (h : StoV c b1 wr v l) (hk : ∀ (g : Nat) (cs : Array Value) (e : TypeId), b1 ≤ g → g < wr.heap.size → wr.heap[g]? = some (.cells cs e (0, 0)) → e ≠ 205 → w'.heap[g]? = wr.heap[g]?) : StoV c b1 w' v l := by
  obtain ⟨BI, BW, h1, h2⟩ := h
  refine ⟨BI, BW, ownz_keep h1 fun g hg => ?_, fun i hi => ?_⟩
  · have h3 := ownz_block_ge h1 g hg
    have h4 := ownz_block_lt h1 g hg
    obtain ⟨-, h1⟩ := h1
    rcases h1 with ⟨rfl, _⟩ | ⟨g', cap, cur, rfl, _, hb, _⟩
    · cases hg
    · have e : g' = g := by simpa [Value.ownBlock] using hg
      subst e
      exact hk _ _ _ h3 h4 hb (by decide)
  · obtain ⟨⟨a1, a2⟩, ⟨b1, b2⟩, c1⟩ := h2 i hi
    exact ⟨⟨a1, by rw [hk _ _ _ a1 (Array.getElem?_eq_some_iff.1 a2).1 a2 (by decide)]; exact a2⟩, ⟨b1, by rw [hk _ _ _ b1 (Array.getElem?_eq_some_iff.1 b2).1 b2 (by decide)]; exact b2⟩, c1⟩
theorem StoV.below {c : Mc} {b1 : Nat} {wr w' : World} {v : Value} {l : List Sto} (h : StoV c b1 wr v l) (hb : Below wr.heap.size wr w') : StoV c b1 w' v l :=
  h.keep fun g cs e _ hg _ _ => hb.block g hg
/-- behind an append to a list of what is due, and its store into the machine -/
theorem StoV.setDue {c : Mc} {b1 : Nat} {V : Nat → Value} {D : List Du} {f : Nat → Int} {m : Nat → Nat → Int} {wr w2 : World} {v : Value} {l : List Sto} (h : StoV c b1 wr v l) (hI : MInv c V D f m wr) (j : Nat) (hj : j < 6) (hb1 : c.w1.heap.size ≤ b1) (hg : wr.grownBy w2 (V j).ownBlock) (u : Value) (o : Nat) :
    StoV c b1 (w2.setCell ⟨c.A, o, none⟩ u) v l := by
  refine h.keep fun g cs e hge hlt hb he => ?_
  rw [Below.heap_setCell _ _ _ _ (by show g ≠ c.A; have := hI.hA1.2; omega)]
  refine hg.block g hlt fun e2 => ?_
  have hd := hI.due j hj
  obtain ⟨-, hd⟩ := hd
  rcases hd with ⟨e3, _⟩ | ⟨g', cap, cur, e3, _, hb3, _⟩
  · rw [e3] at e2; cases e2
  · rw [e3] at e2
    have e4 : g = g' := by simpa [Value.ownBlock] using e2
    subst e4
    exact blocks_apart hb hb3 he rfl
theorem StoV.nil (c : Mc) (b1 : Nat) (wr : World) : StoV c b1 wr (.slice none 0 0) [] :=
  ⟨fun _ => 0, fun _ => 0, World.ownsRow_nil _ _ _ _, fun i hi => absurd hi (Nat.not_lt_zero _)⟩
theorem range_snoc (f : Nat → Value) (n : Nat) : (List.range n).map f ++ [f n] = (List.range (n + 1)).map f := by
  rw [List.range_succ, List.map_append]; rfl
/-- one store more: w2 is behind the append, its two boxes are those of wr -/
theorem StoV.push {c : Mc} {b1 bi bw : Nat} {wr w2 : World} {v v' : Value} {l : List Sto} {i j : Nat} {u : Int} {BI BW : Nat → Nat} (h1 : wr.ownsRow b1 1 1 v l.length ((List.range l.length).map fun i => cloV (BI i) (BW i)))
    (h2 : ∀ i, i < l.length → (b1 ≤ BI i ∧ wr.heap[BI i]? = some (.cells #[.int .i64 (stoAt l i).v] 2 (0, 0))) ∧ (b1 ≤ BW i ∧ wr.heap[BW i]? = some (.cells #[.pointer (some ⟨c.GM (stoAt l i).i, (stoAt l i).j, none⟩)] 190 (0, 0))) ∧ (stoAt l i).i < c.n ∧ (stoAt l i).j < c.lenM (stoAt l i).i)
    (hg : wr.grownBy w2 v.ownBlock) (h3 : w2.ownsRow b1 1 1 v' (l.length + 1) (((List.range l.length).map fun i => cloV (BI i) (BW i)) ++ [cloV bi bw]))
    (hbi : b1 ≤ bi ∧ wr.heap[bi]? = some (.cells #[.int .i64 u] 2 (0, 0))) (hbw : b1 ≤ bw ∧ wr.heap[bw]? = some (.cells #[.pointer (some ⟨c.GM i, j, none⟩)] 190 (0, 0))) (hi : i < c.n) (hj : j < c.lenM i) :
    StoV c b1 w2 v' (l ++ [⟨i, j, u⟩]) := by
  have far : ∀ (g : Nat) (cs : Array Value) (e : TypeId), wr.heap[g]? = some (.cells cs e (0, 0)) → e ≠ 1 → w2.heap[g]? = wr.heap[g]? := fun g cs e hb he => hg.block g (Array.getElem?_eq_some_iff.1 hb).1 fun e2 => by
    obtain ⟨-, hd⟩ := h1
    rcases hd with ⟨e3, _⟩ | ⟨g', cap, cur, e3, _, hb3, _⟩
    · rw [e3] at e2; cases e2
    · rw [e3] at e2
      have e4 : g = g' := by simpa [Value.ownBlock] using e2
      subst e4
      exact blocks_apart hb hb3 he rfl
  refine ⟨fun q => if q = l.length then bi else BI q, fun q => if q = l.length then bw else BW q, ?_, fun q hq => ?_⟩
  · have hl : (l ++ [Sto.mk i j u]).length = l.length + 1 := by simp
    have he : (List.range (l ++ [Sto.mk i j u]).length).map (fun q => cloV (if q = l.length then bi else BI q) (if q = l.length then bw else BW q)) = (List.range l.length).map (fun i => cloV (BI i) (BW i)) ++ [cloV bi bw] := by
      rw [hl, ← range_snoc]
      congr 1
      · refine List.map_congr_left fun q hq => ?_
        have : q < l.length := List.mem_range.1 hq
        rw [if_neg (by omega), if_neg (by omega)]
      · simp
    rw [he, hl]
    exact h3
  · have hl : (l ++ [Sto.mk i j u]).length = l.length + 1 := by simp
    by_cases e : q = l.length
    · subst e
      rw [stoAt_mid]
      simp only [if_true]
      exact ⟨⟨hbi.1, by rw [far _ _ _ hbi.2 (by decide)]; exact hbi.2⟩, ⟨hbw.1, by rw [far _ _ _ hbw.2 (by decide)]; exact hbw.2⟩, hi, hj⟩
    · rw [stoAt_left _ _ _ (by omega)]
      simp only [if_neg e]
      obtain ⟨⟨a1, a2⟩, ⟨b1, b2⟩, c1⟩ := h2 q (by omega)
      exact ⟨⟨a1, by rw [far _ _ _ a2 (by decide)]; exact a2⟩, ⟨b1, by rw [far _ _ _ b2 (by decide)]; exact b2⟩, c1⟩

end Go.Proofs.YtghlcmljgpkjiabGreat
/- What stands in memory while an Op is done, and what its result makes of it. -/
namespace Go.Proofs.YtghlcmljgpkjiabGreat
open Go.RowKit Go.Joins
set_option linter.unusedVariables false
set_option linter.unusedSimpArgs false

theorem Tryz.i205 : (Tryz.prog.info? 205).map (fun i => (i.zero, i.size, i.bytes)) = some (some (.agg #[.int .i64 0, .int .i64 0]), 2, 16) := by kernel_rfl
theorem Tryz.i1 : (Tryz.prog.info? 1).map (fun i => (i.zero, i.size, i.bytes)) = some (some .nilFunc, 1, 8) := by kernel_rfl
/-- the cells of a variable of type Op -/
theorem op_box {w : World} {X : Nat} {sl sg o d a b ar sp pl nn : Int} (h : w.heap[X]? = some (.cells #[.int .i64 sl, .int .i64 sg, .int .i64 o, .int .i64 d, .int .i64 a, .int .i64 b, .int .i64 ar, .int .i64 sp, .int .i64 pl, .int .i64 nn] 37 (0, 0))) :
    w.cell? ⟨X, 0, none⟩ = some (.int .i64 sl) ∧ w.cell? ⟨X, 1, none⟩ = some (.int .i64 sg) ∧ w.cell? ⟨X, 2, none⟩ = some (.int .i64 o) ∧ w.cell? ⟨X, 3, none⟩ = some (.int .i64 d) ∧ w.cell? ⟨X, 4, none⟩ = some (.int .i64 a) ∧ w.cell? ⟨X, 5, none⟩ = some (.int .i64 b) ∧ w.cell? ⟨X, 6, none⟩ = some (.int .i64 ar) ∧ w.cell? ⟨X, 7, none⟩ = some (.int .i64 sp) ∧ w.cell? ⟨X, 8, none⟩ = some (.int .i64 pl) ∧ w.cell? ⟨X, 9, none⟩ = some (.int .i64 nn) := by
  have key := cell_of_block h
  refine ⟨?_, ?_, ?_, ?_, ?_, ?_, ?_, ?_, ?_, ?_⟩ <;> (rw [key]; rfl)
/-- an Op is being done: its own variable lies at X, what it came to at BI -/
structure Rdy (c : Mc) (V : Nat → Value) (D : List Du) (f : Nat → Int) (m : Nat → Nat → Int) (X BI : Nat) (sl sg o d a b ar sp pl nn v : Int) (x : World) : Prop where
  inv : MInv c V D f m x
  hX : x.heap[X]? = some (.cells #[.int .i64 sl, .int .i64 sg, .int .i64 o, .int .i64 d, .int .i64 a, .int .i64 b, .int .i64 ar, .int .i64 sp, .int .i64 pl, .int .i64 nn] 37 (0, 0))
  hB : x.heap[BI]? = some (.cells #[.int .i64 v] 2 (0, 0))
variable {c : Mc} {V : Nat → Value} {D : List Du} {f : Nat → Int} {m : Nat → Nat → Int} {X BI : Nat} {sl sg o d a b ar sp pl nn v : Int} {x : World}
theorem Rdy.below {x' : World} (h : Rdy c V D f m X BI sl sg o d a b ar sp pl nn v x) (hb : Below x.heap.size x x') : Rdy c V D f m X BI sl sg o d a b ar sp pl nn v x' :=
  ⟨h.inv.below hb, by rw [hb.block _ (Array.getElem?_eq_some_iff.1 h.hX).1]; exact h.hX, by rw [hb.block _ (Array.getElem?_eq_some_iff.1 h.hB).1]; exact h.hB⟩
theorem Rdy.s11 {j n0 vc : Nat} {va : Option Addr} (h : Rdy c V D f m X BI sl sg o d a b ar sp pl nn v x) (hj : j < 6) (hV : V j = .slice va n0 vc) : x.cell? ⟨c.A, 14 + j, none⟩ = some (.slice va n0 vc) ∧ x.cell? ⟨X, 3, none⟩ = some (.int .i64 d) ∧ x.cell? ⟨c.A, 6, none⟩ = some (.int .i64 c.t.r) ∧ x.cell? ⟨BI, 0, none⟩ = some (.int .i64 v) :=
  ⟨by rw [h.inv.cells.2.2 j hj, hV], (op_box h.hX).2.2.2.1, h.inv.cells.1.2.2.2.2.2.2, by rw [cell_of_block h.hB]; rfl⟩
/-- a block of another type is not the one that is appended to -/
theorem due_far {j g : Nat} {cs : Array Value} {e : TypeId} (h : MInv c V D f m x) (hj : j < 6) (hb : x.heap[g]? = some (.cells cs e (0, 0))) (he : e ≠ 205) : some g ≠ (V j).ownBlock := by
  intro e2
  obtain ⟨-, hd⟩ := h.due j hj
  rcases hd with ⟨e3, _⟩ | ⟨g', cap, cur, e3, _, hb3, _⟩
  · rw [e3] at e2; cases e2
  · rw [e3] at e2
    have e4 : g = g' := by simpa [Value.ownBlock] using e2
    subst e4
    exact blocks_apart hb hb3 he rfl
theorem Rdy.grown {j n0 vc : Nat} {va : Option Addr} {w6 : World} (h : Rdy c V D f m X BI sl sg o d a b ar sp pl nn v x) (hj : j < 6) (hV : V j = .slice va n0 vc) (hg : x.grownBy w6 (Value.slice va n0 vc).ownBlock) : (w6.cell? ⟨c.A, 14 + j, none⟩ = some (.slice va n0 vc) ∧ w6.cell? ⟨X, 3, none⟩ = some (.int .i64 d) ∧ w6.cell? ⟨c.A, 6, none⟩ = some (.int .i64 c.t.r) ∧ w6.cell? ⟨BI, 0, none⟩ = some (.int .i64 v)) ∧ w6.frozen? ⟨c.A, 14 + j, none⟩ = false := by
  rw [← hV] at hg
  have bA := hg.block c.A h.inv.A_lt (due_far h.inv hj h.inv.hA (by decide))
  have bX := hg.block X (Array.getElem?_eq_some_iff.1 h.hX).1 (due_far h.inv hj h.hX (by decide))
  have bB := hg.block BI (Array.getElem?_eq_some_iff.1 h.hB).1 (due_far h.inv hj h.hB (by decide))
  obtain ⟨s1, s2, s3, s4⟩ := h.s11 hj hV
  refine ⟨⟨?_, ?_, ?_, ?_⟩, ?_⟩
  · rw [World.cell?_of_block (a := ⟨c.A, 14 + j, none⟩) bA]; exact s1
  · rw [World.cell?_of_block (a := ⟨X, 3, none⟩) bX]; exact s2
  · rw [World.cell?_of_block (a := ⟨c.A, 6, none⟩) bA]; exact s3
  · rw [World.cell?_of_block (a := ⟨BI, 0, none⟩) bB]; exact s4
  · simp [World.frozen?, bA, h.inv.hA]
/-- a result is on its way -/
theorem MInv.push {T wt j n0 g cap vc : Nat} {va : Option Addr} {rg u : Int} {l0 : List Du} {w6 : World} (h : MInv c V D f m x) (hj : (T + wt) % 6 = j) (hV : V j = .slice va n0 vc) (hl : lane D (j : Int) = l0) (hn : l0.length = n0)
    (hown : w6.ownsRow c.w1.heap.size 205 2 (.slice (some ⟨g, 0, none⟩) (n0 + 1) cap) (n0 + 1) (flatR l0 ++ [.int .i64 rg, .int .i64 u])) (hg : x.grownBy w6 (Value.slice va n0 vc).ownBlock) (hat : (Value.slice va n0 vc).ownBlock = some g ∨ x.heap.size ≤ g) :
    MInv c (fun i => if i = j then .slice (some ⟨g, 0, none⟩) (n0 + 1) cap else V i) (D ++ [⟨(T : Int) + (wt : Int), rg, u⟩]) f m (w6.setCell ⟨c.A, 14 + j, none⟩ (.slice (some ⟨g, 0, none⟩) (n0 + 1) cap)) := by
  have h6 : j < 6 := by omega
  have hq : ((T : Int) + (wt : Int)) % 6 = (j : Int) := by omega
  rw [← hV] at hg hat
  have e1 : lane (D ++ [⟨(T : Int) + (wt : Int), rg, u⟩]) (j : Int) = l0 ++ [⟨(T : Int) + (wt : Int), rg, u⟩] := by rw [lane_snoc, if_pos (by exact hq), hl]
  refine h.setDue j _ _ w6 h6 hg ?_ ?_ (fun i hi hne => ?_)
  · rw [e1, ← flatR_snoc, List.length_append, hn]
    exact hown
  · rcases hat with e | e
    · exact .inl (by rw [e]; rfl)
    · refine .inr fun q hq2 => ?_
      have e3 : g = q := by simpa [Value.ownBlock] using hq2
      omega
  · rw [lane_snoc, if_neg (by show ¬ ((T : Int) + (wt : Int)) % 6 = (i : Int); omega)]
/-- a block of another type than a row's is left by an append to that row -/
theorem row_far {b1 n : Nat} {e0 e : TypeId} {u : Value} {xs : List Value} {y w5 : World} {g : Nat} {cs : Array Value} (hrow : y.ownsRow b1 e0 1 u n xs) (hg : y.grownBy w5 u.ownBlock) (hb : y.heap[g]? = some (.cells cs e (0, 0))) (he : e ≠ e0) : w5.heap[g]? = y.heap[g]? := by
  refine hg.block g (Array.getElem?_eq_some_iff.1 hb).1 fun e2 => ?_
  obtain ⟨-, hd⟩ := hrow
  rcases hd with ⟨e3, _⟩ | ⟨g', cap, cur, e3, _, hb3, _⟩
  · rw [e3] at e2; cases e2
  · rw [e3] at e2
    have e4 : g = g' := by simpa [Value.ownBlock] using e2
    subst e4
    exact blocks_apart hb hb3 he rfl
/-- behind an append to the row of closures -/
theorem Rdy.sto {b1 n : Nat} {u : Value} {xs : List Value} {w5 : World} (h : Rdy c V D f m X BI sl sg o d a b ar sp pl nn v x) (hrow : x.ownsRow b1 1 1 u n xs) (hb1 : c.w1.heap.size ≤ b1) (hg : x.grownBy w5 u.ownBlock) : Rdy c V D f m X BI sl sg o d a b ar sp pl nn v w5 := by
  have hge : ∀ k, u.ownBlock = some k → b1 ≤ k := fun k e => ownz_block_ge hrow k e
  refine ⟨h.inv.same ((Below.refl _ _).grown hg h.inv.bel.size fun k e => ?_) (fun g hlt => ?_) (fun j hj g e => ?_), ?_, ?_⟩
  · have := hge k e; have := h.inv.w01; omega
  · exact hg.block g (Nat.lt_of_lt_of_le hlt h.inv.keep.1) fun e => by have := hge g e.symm; omega
  · exact hg.block g (ownz_block_lt (h.inv.due j hj) g e) (ownz_two (h.inv.due j hj) hrow (by decide) g e)
  · rw [row_far hrow hg h.hX (by decide)]; exact h.hX
  · rw [row_far hrow hg h.hB (by decide)]; exact h.hB
/-- behind a store, the stores that wait lie as they did -/
theorem StoV.two {b1 : Nat} {y : World} {u : Value} {l : List Sto} {BI BW : Nat → Nat} (h1 : y.ownsRow b1 1 1 u l.length ((List.range l.length).map fun i => cloV (BI i) (BW i))) (h2 : (∀ i, i < l.length → (b1 ≤ BI i ∧ y.heap[BI i]? = some (.cells #[.int .i64 (stoAt l i).v] 2 (0, 0))) ∧ (b1 ≤ BW i ∧ y.heap[BW i]? = some (.cells #[.pointer (some ⟨c.GM (stoAt l i).i, (stoAt l i).j, none⟩)] 190 (0, 0))) ∧ (stoAt l i).i < c.n ∧ (stoAt l i).j < c.lenM (stoAt l i).i)) (hI : MInv c V D f m y) (i j : Nat) (hi : i < c.n) (hb1 : c.w1.heap.size ≤ b1) (uu : Value) :
    (y.setCell ⟨c.GM i, j, none⟩ uu).ownsRow b1 1 1 u l.length ((List.range l.length).map fun i => cloV (BI i) (BW i)) ∧ (∀ s, s < l.length → (b1 ≤ BI s ∧ (y.setCell ⟨c.GM i, j, none⟩ uu).heap[BI s]? = some (.cells #[.int .i64 (stoAt l s).v] 2 (0, 0))) ∧ (b1 ≤ BW s ∧ (y.setCell ⟨c.GM i, j, none⟩ uu).heap[BW s]? = some (.cells #[.pointer (some ⟨c.GM (stoAt l s).i, (stoAt l s).j, none⟩)] 190 (0, 0))) ∧ (stoAt l s).i < c.n ∧ (stoAt l s).j < c.lenM (stoAt l s).i) := by
  have far : ∀ g, b1 ≤ g → (y.setCell ⟨c.GM i, j, none⟩ uu).heap[g]? = y.heap[g]? := fun g hg => Below.heap_setCell _ _ _ _ (by show g ≠ c.GM i; have := (hI.min i hi).2.1; omega)
  refine ⟨ownz_keep h1 fun g hg => far g (ownz_block_ge h1 g hg), fun s hs => ?_⟩
  obtain ⟨⟨a1, a2⟩, ⟨a3, a4⟩, a5⟩ := h2 s hs
  exact ⟨⟨a1, by rw [far _ a1]; exact a2⟩, ⟨a3, by rw [far _ a3]; exact a4⟩, a5⟩
end Go.Proofs.YtghlcmljgpkjiabGreat
