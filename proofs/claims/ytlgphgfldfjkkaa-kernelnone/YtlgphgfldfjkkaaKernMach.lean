/- Where a run of a kernel stands in memory, by the program: the machine, its registers, the words, what is due; what stores, appends and callees leave of it. -/
import Derived.Test.YtlgphgfldfjkkaaLaneMath
import Derived.Test.YtlgphgfldfjkkaaDueRow
import Derived.Test.YtlgphgfldfjkkaaRef3Copy
import Derived.Test.YtlgphgfldfjkkaaRowx
import Derived.Test.YtlgphgfldfjkkaaKernState
namespace Go.Proofs.Ytlgphgfldfjkkaa
open Go.RowKit Go.Joins
set_option linter.unusedVariables false

/-- rows of results, two cells each -/
def reCells (d : Du) : List Value := [.int .i64 d.rg, .int .i64 d.v]
def flatR (l : List Du) : List Value := l.flatMap reCells
theorem flatR_nil : flatR [] = [] := rfl
theorem flatR_snoc (l : List Du) (d : Du) : flatR l ++ reCells d = flatR (l ++ [d]) := by unfold flatR; simp
theorem flatR_len (l : List Du) : (flatR l).length = l.length * 2 := by
  induction l with
  | nil => rfl
  | cons d l ih =>
    show (reCells d ++ flatR l).length = (l.length + 1) * 2
    rw [List.length_append, ih]
    show 2 + _ = _
    omega
theorem flatR_get (l : List Du) : ∀ i c, i < l.length → c < 2 → (flatR l)[i * 2 + c]? = (reCells (duAt l i))[c]? := by
  induction l with
  | nil => intro i c h; exact absurd h (Nat.not_lt_zero _)
  | cons d l ih =>
    intro i c h hc
    show (reCells d ++ flatR l)[i * 2 + c]? = _
    have h3 : (reCells d).length = 2 := rfl
    cases i with
    | zero =>
      rw [List.getElem?_append_left (by omega), Nat.zero_mul, Nat.zero_add]
      rfl
    | succ i =>
      rw [List.getElem?_append_right (by omega), h3, show (i + 1) * 2 + c - 2 = i * 2 + c from by omega, ih i c (by simpa using h) hc]
      rfl
theorem res_cells {w : World} {base : Nat} {e : TypeId} {v : Value} {l : List Du} (h : w.ownsRow base e 2 v l.length (flatR l)) (hp : 0 < l.length) :
    ∃ g cap, v = .slice (some ⟨g, 0, none⟩) l.length cap ∧ base ≤ g ∧ l.length ≤ cap ∧ cap ≤ maxLen ∧ g < w.heap.size ∧
      ∀ i, i < l.length → w.cell? ⟨g, i * 2, none⟩ = some (.int .i64 (duAt l i).rg) ∧ w.cell? ⟨g, i * 2 + 1, none⟩ = some (.int .i64 (duAt l i).v) := by
  obtain ⟨hl, h⟩ := h
  rcases h with ⟨_, hn⟩ | ⟨g, cap, cur, rfl, hg, hb, hn, hm, hc, ht⟩
  · omega
  · have key : ∀ i c, i < l.length → c < 2 → w.cell? ⟨g, i * 2 + c, none⟩ = (reCells (duAt l i))[c]? := fun i c hi hc3 => by
      rw [cell_of_block hb, ← flatR_get l i c hi hc3, ← ht, List.getElem?_take, if_pos (by omega)]
      simp
    exact ⟨g, cap, rfl, hg, hn, hm, (Array.getElem?_eq_some_iff.1 hb).1, fun i hi => ⟨key i 0 hi (by omega), key i 1 hi (by omega)⟩⟩
/-- a row, cut to none -/
def cut0 : Value → Value
  | .slice a _ c => .slice a 0 c
  | v => v
theorem cut0_own {w : World} {base sz : Nat} {e : TypeId} {v : Value} {n : Nat} {xs : List Value} (h : w.ownsRow base e sz v n xs) : w.ownsRow base e sz (cut0 v) 0 [] := by
  obtain ⟨hl, h⟩ := h
  refine ⟨by simp, ?_⟩
  rcases h with ⟨rfl, _⟩ | ⟨g, cap, cur, rfl, hg, hb, hn, hm, hc, ht⟩
  · exact .inl ⟨rfl, rfl⟩
  · exact .inr ⟨g, cap, cur, rfl, hg, hb, Nat.zero_le _, hm, hc, by simp⟩
theorem cut0_block {w : World} {base sz : Nat} {e : TypeId} {v : Value} {n : Nat} {xs : List Value} (h : w.ownsRow base e sz v n xs) : (cut0 v).ownBlock = v.ownBlock := by
  obtain ⟨hl, h⟩ := h
  rcases h with ⟨rfl, _⟩ | ⟨g, cap, cur, rfl, hg, hb, hn, hm, hc, ht⟩ <;> rfl

/-- what a run leaves as it is: w0: as Run began; w1: as the cycles began; A: the machine; gr: the registers' row; GM i: the words' rows -/
structure Mc where
  w0 : World
  w1 : World
  A : Nat
  t : Tg
  pc : Int
  st : Int
  kv : Value
  lv : Value
  mv : Value
  turns : Int
  R : Nat
  gr : Nat
  cr : Nat
  n : Nat
  lenM : Nat → Nat
  GM : Nat → Nat
/-- all but the machine, its registers and its words is as it was -/
def KeptM (c : Mc) (x : World) : Prop := c.w1.heap.size ≤ x.heap.size ∧ ∀ g, g < c.w1.heap.size → g ≠ c.A → g ≠ c.gr → (∀ i, i < c.n → g ≠ c.GM i) → x.heap[g]? = c.w1.heap[g]?
def machC (c : Mc) (V : Nat → Value) : Array Value :=
  #[.int .i64 c.t.u0, .int .i64 c.t.u1, .int .i64 c.t.u2, .int .i64 c.t.w0, .int .i64 c.t.w1, .int .i64 c.t.w2, .int .i64 c.t.r, .int .i64 c.pc, .int .i64 c.st, c.kv, c.lv, .slice (some ⟨c.gr, 0, none⟩) c.R c.cr, c.mv, .int .i64 c.turns, V 0, V 1, V 2, V 3, V 4, V 5]
structure MInv (c : Mc) (V : Nat → Value) (D : List Du) (f : Nat → Int) (m : Nat → Nat → Int) (wr : World) : Prop where
  bel : Below c.w0.heap.size c.w0 wr
  keep : KeptM c wr
  hA : wr.heap[c.A]? = some (.cells (machC c V) 98 (0, 0))
  hA1 : c.w0.heap.size ≤ c.A ∧ c.A < c.w1.heap.size
  regs : RowF wr c.gr 2 c.R (fun i => .int .i64 (f i))
  hr : c.w0.heap.size ≤ c.gr ∧ c.gr < c.w1.heap.size ∧ c.R ≤ c.cr ∧ c.cr ≤ maxLen
  min : ∀ i, i < c.n → c.w0.heap.size ≤ c.GM i ∧ c.GM i < c.w1.heap.size ∧ RowF wr (c.GM i) 2 (c.lenM i) (fun j => .int .i64 (m i j))
  minj : ∀ i j, i < c.n → j < c.n → i ≠ j → c.GM i ≠ c.GM j
  rM : ∀ i, i < c.n → c.gr ≠ c.GM i
  due : ∀ j : Nat, j < 6 → wr.ownsRow c.w1.heap.size 129 2 (V j) (lane D j).length (flatR (lane D j))
  dinj : ∀ i j : Nat, i < 6 → j < 6 → i ≠ j → ∀ g, (V i).ownBlock = some g → some g ≠ (V j).ownBlock
  w01 : c.w0.heap.size ≤ c.w1.heap.size

/-- blocks of two types are two -/
theorem blocks_apart {w : World} {R g : Nat} {c c' : Array Value} {e e' : TypeId} (h : w.heap[R]? = some (.cells c e (0, 0))) (hr : w.heap[g]? = some (.cells c' e' (0, 0))) (he : e ≠ e') : R ≠ g := by
  intro hg
  subst hg
  rw [h] at hr
  have h1 := Option.some.inj hr
  injection h1 with _ h2
  exact he h2
theorem blockrow_apart {w : World} {R g : Nat} {c : Array Value} {e e' : TypeId} {n : Nat} {f : Nat → Value} (h : w.heap[R]? = some (.cells c e (0, 0))) (hr : RowF w g e' n f) (he : e ≠ e') : R ≠ g := by
  obtain ⟨c', hb, _, _⟩ := hr
  exact blocks_apart h hb he
variable {c : Mc} {V : Nat → Value} {D : List Du} {f : Nat → Int} {m : Nat → Nat → Int} {wr w' : World}

theorem MInv.A_lt (h : MInv c V D f m wr) : c.A < wr.heap.size := (Array.getElem?_eq_some_iff.1 h.hA).1
theorem MInv.A_gr (h : MInv c V D f m wr) : c.A ≠ c.gr := blockrow_apart h.hA h.regs (by decide)
theorem MInv.A_GM (h : MInv c V D f m wr) (i : Nat) (hi : i < c.n) : c.A ≠ c.GM i := blockrow_apart h.hA (h.min i hi).2.2 (by decide)
theorem KeptM.step {x : World} (h : KeptM c wr) (hs : wr.heap.size ≤ x.heap.size) (hb : ∀ g, g < c.w1.heap.size → g ≠ c.A → g ≠ c.gr → (∀ i, i < c.n → g ≠ c.GM i) → x.heap[g]? = wr.heap[g]?) : KeptM c x :=
  ⟨Nat.le_trans h.1 hs, fun g h1 h2 h3 h4 => (hb g h1 h2 h3 h4).trans (h.2 g h1 h2 h3 h4)⟩

/-- whatever writes none of its blocks -/
theorem MInv.same (h : MInv c V D f m wr) (hb : Below c.w0.heap.size wr w') (hk : ∀ g, g < c.w1.heap.size → w'.heap[g]? = wr.heap[g]?) (hd : ∀ j : Nat, j < 6 → ∀ g, (V j).ownBlock = some g → w'.heap[g]? = wr.heap[g]?) : MInv c V D f m w' where
  bel := h.bel.trans hb
  keep := h.keep.step hb.size fun g h1 _ _ _ => hk g h1
  hA := by rw [hk _ h.hA1.2]; exact h.hA
  hA1 := h.hA1
  regs := h.regs.of_block (hk _ h.hr.2.1)
  hr := h.hr
  min := fun i hi => ⟨(h.min i hi).1, (h.min i hi).2.1, (h.min i hi).2.2.of_block (hk _ (h.min i hi).2.1)⟩
  minj := h.minj
  rM := h.rM
  due := fun j hj => ownz_keep (h.due j hj) (hd j hj)
  dinj := h.dinj
  w01 := h.w01
/-- whatever makes new memory alone -/
theorem MInv.below (h : MInv c V D f m wr) (hb : Below wr.heap.size wr w') : MInv c V D f m w' :=
  h.same (hb.mono h.bel.size) (fun g hg => hb.block g (Nat.lt_of_lt_of_le hg h.keep.1)) (fun j hj g hg => hb.block g (ownz_block_lt (h.due j hj) g hg))

/-- the machine's cells -/
theorem MInv.cells (h : MInv c V D f m wr) : (wr.cell? ⟨c.A, 0, none⟩ = some (.int .i64 c.t.u0) ∧ wr.cell? ⟨c.A, 1, none⟩ = some (.int .i64 c.t.u1) ∧ wr.cell? ⟨c.A, 2, none⟩ = some (.int .i64 c.t.u2) ∧ wr.cell? ⟨c.A, 3, none⟩ = some (.int .i64 c.t.w0) ∧ wr.cell? ⟨c.A, 4, none⟩ = some (.int .i64 c.t.w1) ∧ wr.cell? ⟨c.A, 5, none⟩ = some (.int .i64 c.t.w2) ∧ wr.cell? ⟨c.A, 6, none⟩ = some (.int .i64 c.t.r)) ∧
    (wr.cell? ⟨c.A, 7, none⟩ = some (.int .i64 c.pc) ∧ wr.cell? ⟨c.A, 8, none⟩ = some (.int .i64 c.st) ∧ wr.cell? ⟨c.A, 9, none⟩ = some c.kv ∧ wr.cell? ⟨c.A, 10, none⟩ = some c.lv ∧ wr.cell? ⟨c.A, 11, none⟩ = some (.slice (some ⟨c.gr, 0, none⟩) c.R c.cr) ∧ wr.cell? ⟨c.A, 12, none⟩ = some c.mv ∧ wr.cell? ⟨c.A, 13, none⟩ = some (.int .i64 c.turns)) ∧
    (∀ j : Nat, j < 6 → wr.cell? ⟨c.A, 14 + j, none⟩ = some (V j)) := by
  have key : ∀ o, wr.cell? ⟨c.A, o, none⟩ = (machC c V)[o]? := cell_of_block h.hA
  refine ⟨⟨?_, ?_, ?_, ?_, ?_, ?_, ?_⟩, ⟨?_, ?_, ?_, ?_, ?_, ?_, ?_⟩, fun j hj => ?_⟩
  all_goals first
    | (rw [key]; rfl)
    | (rw [key]; obtain rfl | rfl | rfl | rfl | rfl | rfl : j = 0 ∨ j = 1 ∨ j = 2 ∨ j = 3 ∨ j = 4 ∨ j = 5 := by omega
       all_goals rfl)
theorem MInv.frozenA (h : MInv c V D f m wr) (o : Nat) : wr.frozen? ⟨c.A, o, none⟩ = false := by
  simp [World.frozen?, h.hA]

/-- a register becomes v -/
theorem MInv.setReg (h : MInv c V D f m wr) (i : Nat) (v : Int) (hi : i < c.R) : MInv c V D (put1 f i v) m (wr.setCell ⟨c.gr, i, none⟩ (.int .i64 v)) where
  bel := h.bel.setCell (by show c.w0.heap.size ≤ c.gr; exact h.hr.1) _
  keep := h.keep.step (by simp [World.setCell]) fun g _ _ h3 _ => Below.heap_setCell _ _ _ _ (by show g ≠ c.gr; exact h3)
  hA := by rw [Below.heap_setCell _ _ _ _ (by show c.A ≠ c.gr; exact h.A_gr)]; exact h.hA
  hA1 := h.hA1
  regs := (h.regs.set i _ hi).congr fun j hj => by
    show (if j = i then Value.int .i64 v else .int .i64 (f j)) = .int .i64 (put1 f i v j)
    unfold put1
    split <;> rfl
  hr := h.hr
  min := fun a ha => ⟨(h.min a ha).1, (h.min a ha).2.1, (h.min a ha).2.2.setOther (by show c.GM a ≠ c.gr; exact (h.rM a ha).symm) _⟩
  minj := h.minj
  rM := h.rM
  due := fun j hj => ownz_keep (h.due j hj) fun g hg => Below.heap_setCell _ _ _ _ (by show g ≠ c.gr; have := ownz_block_ge (h.due j hj) g hg; have := h.hr.2.1; omega)
  dinj := h.dinj
  w01 := h.w01
/-- a word becomes v -/
theorem MInv.setMem (h : MInv c V D f m wr) (i j : Nat) (v : Int) (hi : i < c.n) (hj : j < c.lenM i) : MInv c V D f (put2 m i j v) (wr.setCell ⟨c.GM i, j, none⟩ (.int .i64 v)) where
  bel := h.bel.setCell (by show c.w0.heap.size ≤ c.GM i; exact (h.min i hi).1) _
  keep := h.keep.step (by simp [World.setCell]) fun g _ _ _ h4 => Below.heap_setCell _ _ _ _ (by show g ≠ c.GM i; exact h4 i hi)
  hA := by rw [Below.heap_setCell _ _ _ _ (by show c.A ≠ c.GM i; exact h.A_GM i hi)]; exact h.hA
  hA1 := h.hA1
  regs := h.regs.setOther (by show c.gr ≠ c.GM i; exact h.rM i hi) _
  hr := h.hr
  min := fun a ha => by
    refine ⟨(h.min a ha).1, (h.min a ha).2.1, ?_⟩
    by_cases e : a = i
    · subst e
      refine ((h.min a ha).2.2.set j _ hj).congr fun q hq => ?_
      show (if q = j then Value.int .i64 v else .int .i64 (m a q)) = .int .i64 (put2 m a j v a q)
      rw [put2_in]
      split <;> rfl
    · refine ((h.min a ha).2.2.setOther (by show c.GM a ≠ c.GM i; exact h.minj a i ha hi e) _).congr fun q hq => ?_
      show Value.int .i64 (m a q) = .int .i64 (put2 m i j v a q)
      rw [put2_row _ _ _ _ _ _ e]
  minj := h.minj
  rM := h.rM
  due := fun q hq => ownz_keep (h.due q hq) fun g hg => Below.heap_setCell _ _ _ _ (by show g ≠ c.GM i; have := ownz_block_ge (h.due q hq) g hg; have := (h.min i hi).2.1; omega)
  dinj := h.dinj
  w01 := h.w01
theorem machC_set (c : Mc) (V : Nat → Value) (j : Nat) (v : Value) (hj : j < 6) : (machC c V).setIfInBounds (14 + j) v = machC c (fun i => if i = j then v else V i) := by
  obtain rfl | rfl | rfl | rfl | rfl | rfl : j = 0 ∨ j = 1 ∨ j = 2 ∨ j = 3 ∨ j = 4 ∨ j = 5 := by omega
  all_goals rfl
/-- a list of what is due becomes another row: all else in it is as it was in wr but for that list's row -/
theorem MInv.setDue (h : MInv c V D f m wr) (j : Nat) (v : Value) (D' : List Du) (w2 : World) (hj : j < 6) (hg : wr.grownBy w2 (V j).ownBlock)
    (ho : w2.ownsRow c.w1.heap.size 129 2 v (lane D' j).length (flatR (lane D' j))) (hv : v.ownBlock = (V j).ownBlock ∨ ∀ g, v.ownBlock = some g → wr.heap.size ≤ g) (hD : ∀ i : Nat, i < 6 → i ≠ j → lane D' i = lane D i) :
    MInv c (fun i => if i = j then v else V i) D' f m (w2.setCell ⟨c.A, 14 + j, none⟩ v) := by
  have hge : ∀ g, (V j).ownBlock = some g → c.w1.heap.size ≤ g := fun g e => ownz_block_ge (h.due j hj) g e
  have blk : ∀ g, g < c.w1.heap.size → w2.heap[g]? = wr.heap[g]? := fun g hg1 => hg.block g (Nat.lt_of_lt_of_le hg1 h.keep.1) fun e => by have := hge g e.symm; omega
  have hbel2 : Below c.w0.heap.size c.w0 w2 := h.bel.grown hg h.bel.size fun k e => by have := hge k e; have := h.w01; omega
  have ho2 : ∀ i : Nat, i < 6 → i ≠ j → w2.ownsRow c.w1.heap.size 129 2 (V i) (lane D i).length (flatR (lane D i)) := fun i hi hij => ownz_keep (h.due i hi) fun g e => hg.block g (ownz_block_lt (h.due i hi) g e) (h.dinj i j hi hj hij g e)
  refine { bel := hbel2.setCell (by show c.w0.heap.size ≤ c.A; exact h.hA1.1) _, keep := ?_, hA := ?_, hA1 := h.hA1, regs := ?_, hr := h.hr, min := ?_, minj := h.minj, rM := h.rM, due := ?_, dinj := ?_, w01 := h.w01 }
  · exact (h.keep.step hg.size fun g h1 _ _ _ => blk g h1).step (by simp [World.setCell]) fun g _ h2 _ _ => Below.heap_setCell _ _ _ _ (by show g ≠ c.A; exact h2)
  · have hb : w2.heap[c.A]? = some (.cells (machC c V) 98 (0, 0)) := by rw [blk _ h.hA1.2]; exact h.hA
    have e : (w2.setCell ⟨c.A, 14 + j, none⟩ v).heap[c.A]? = some (.cells ((machC c V).setIfInBounds (14 + j) v) 98 (0, 0)) := by simp [World.setCell, Array.getElem?_modify, hb]
    rw [e, machC_set _ _ _ _ hj]
  · exact (h.regs.of_block (blk _ h.hr.2.1)).setOther (by show c.gr ≠ c.A; exact h.A_gr.symm) _
  · exact fun i hi => ⟨(h.min i hi).1, (h.min i hi).2.1, ((h.min i hi).2.2.of_block (blk _ (h.min i hi).2.1)).setOther (by show c.GM i ≠ c.A; exact (h.A_GM i hi).symm) _⟩
  · intro i hi
    have far : ∀ g, c.w1.heap.size ≤ g → (w2.setCell ⟨c.A, 14 + j, none⟩ v).heap[g]? = w2.heap[g]? := fun g hg1 => Below.heap_setCell _ _ _ _ (by show g ≠ c.A; have := h.hA1.2; omega)
    by_cases e : i = j
    · subst e
      simp only [if_true]
      exact ownz_keep ho fun g hg1 => far g (ownz_block_ge ho g hg1)
    · simp only [if_neg e]
      rw [hD i hi e]
      exact ownz_keep (ho2 i hi e) fun g hg1 => far g (ownz_block_ge (ho2 i hi e) g hg1)
  · intro i k hi hk hik g hg1
    by_cases e1 : i = j
    · by_cases e2 : k = j
      · omega
      · simp only [if_pos e1] at hg1
        simp only [if_neg e2]
        intro e3
        rcases hv with hv | hv
        · exact h.dinj j k hj hk (by omega) g (by rw [← hv]; exact hg1) e3
        · have h1 := hv g hg1
          have h2 := ownz_block_lt (h.due k hk) g e3.symm
          omega
    · by_cases e2 : k = j
      · simp only [if_neg e1] at hg1
        simp only [if_pos e2]
        intro e3
        rcases hv with hv | hv
        · rw [hv] at e3; exact h.dinj i j hi hj e1 g hg1 e3
        · have h1 := hv g e3.symm
          have h2 := ownz_block_lt (h.due i hi) g hg1
          omega
      · simp only [if_neg e1] at hg1
        simp only [if_neg e2]
        exact h.dinj i k hi hk hik g hg1
end Go.Proofs.Ytlgphgfldfjkkaa
