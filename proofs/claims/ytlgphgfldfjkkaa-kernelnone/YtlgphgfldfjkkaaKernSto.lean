/- Stores that wait, as closures in memory; and what an Op comes to, whichever it is. -/
import Derived.Test.YtlgphgfldfjkkaaKernLand
import Derived.Test.YtlgphgfldfjkkaaKernStep
import Derived.Test.YtlgphgfldfjkkaaTarget
namespace Go.Proofs.Ytlgphgfldfjkkaa
open Go.RowKit Go.Joins
set_option linter.unusedVariables false
set_option linter.unusedSimpArgs false

/-- a closure that has caught its number and its word -/
def cloV (bi bw : Nat) : Value := .func (.func 86) #[] #[.pointer (some ⟨bi, 0, none⟩), .pointer (some ⟨bw, 0, none⟩)]
/-- v is a row of closures, for the stores l -/
def StoV (c : Mc) (b1 : Nat) (wr : World) (v : Value) (l : List Sto) : Prop :=
  ∃ BI BW : Nat → Nat, wr.ownsRow b1 1 1 v l.length ((List.range l.length).map fun i => cloV (BI i) (BW i)) ∧
    ∀ i, i < l.length → (b1 ≤ BI i ∧ wr.heap[BI i]? = some (.cells #[.int .i64 (stoAt l i).v] 2 (0, 0))) ∧ (b1 ≤ BW i ∧ wr.heap[BW i]? = some (.cells #[.pointer (some ⟨c.GM (stoAt l i).i, (stoAt l i).j, none⟩)] 119 (0, 0))) ∧ (stoAt l i).i < c.n ∧ (stoAt l i).j < c.lenM (stoAt l i).i
/-- whatever leaves the blocks from b1 on as they were, but for rows of results -/
theorem StoV.keep {c : Mc} {b1 : Nat} {wr w' : World} {v : Value} {l : List Sto} (h : StoV c b1 wr v l) (hk : ∀ (g : Nat) (cs : Array Value) (e : TypeId), b1 ≤ g → g < wr.heap.size → wr.heap[g]? = some (.cells cs e (0, 0)) → e ≠ 129 → w'.heap[g]? = wr.heap[g]?) : StoV c b1 w' v l := by
  obtain ⟨BI, BW, h1, h2⟩ := h
  refine ⟨BI, BW, ownz_keep h1 fun g hg => ?_, fun i hi => ?_⟩
  · have h3 := ownz_block_ge h1 g hg
    have h4 := ownz_block_lt h1 g hg
    obtain ⟨-, h1⟩ := h1
    rcases h1 with ⟨rfl, _⟩ | ⟨g', cap, cur, rfl, _, hb, _⟩
    · cases hg
    · have e : g' = g := by simpa [Value.ownBlock] using hg
      subst e
      exact hk _ _ _ h3 h4 hb (by decide)
  · obtain ⟨⟨a1, a2⟩, ⟨b1, b2⟩, c1⟩ := h2 i hi
    exact ⟨⟨a1, by rw [hk _ _ _ a1 (Array.getElem?_eq_some_iff.1 a2).1 a2 (by decide)]; exact a2⟩, ⟨b1, by rw [hk _ _ _ b1 (Array.getElem?_eq_some_iff.1 b2).1 b2 (by decide)]; exact b2⟩, c1⟩
theorem StoV.below {c : Mc} {b1 : Nat} {wr w' : World} {v : Value} {l : List Sto} (h : StoV c b1 wr v l) (hb : Below wr.heap.size wr w') : StoV c b1 w' v l :=
  h.keep fun g cs e _ hg _ _ => hb.block g hg
/-- behind an append to a list of what is due, and its store into the machine -/
theorem StoV.setDue {c : Mc} {b1 : Nat} {V : Nat → Value} {D : List Du} {f : Nat → Int} {m : Nat → Nat → Int} {wr w2 : World} {v : Value} {l : List Sto} (h : StoV c b1 wr v l) (hI : MInv c V D f m wr) (j : Nat) (hj : j < 6) (hb1 : c.w1.heap.size ≤ b1) (hg : wr.grownBy w2 (V j).ownBlock) (u : Value) (o : Nat) :
    StoV c b1 (w2.setCell ⟨c.A, o, none⟩ u) v l := by
  refine h.keep fun g cs e hge hlt hb he => ?_
  rw [Below.heap_setCell _ _ _ _ (by show g ≠ c.A; have := hI.hA1.2; omega)]
  refine hg.block g hlt fun e2 => ?_
  have hd := hI.due j hj
  obtain ⟨-, hd⟩ := hd
  rcases hd with ⟨e3, _⟩ | ⟨g', cap, cur, e3, _, hb3, _⟩
  · rw [e3] at e2; cases e2
  · rw [e3] at e2
    have e4 : g = g' := by simpa [Value.ownBlock] using e2
    subst e4
    exact blocks_apart hb hb3 he rfl
theorem StoV.setMem {c : Mc} {b1 : Nat} {V : Nat → Value} {D : List Du} {f : Nat → Int} {m : Nat → Nat → Int} {wr : World} {v : Value} {l : List Sto} (h : StoV c b1 wr v l) (hI : MInv c V D f m wr) (i j : Nat) (hi : i < c.n) (hb1 : c.w1.heap.size ≤ b1) (u : Value) : StoV c b1 (wr.setCell ⟨c.GM i, j, none⟩ u) v l :=
  h.keep fun g cs e hge hlt hb he => Below.heap_setCell _ _ _ _ (by show g ≠ c.GM i; have := (hI.min i hi).2.1; omega)
theorem StoV.nil (c : Mc) (b1 : Nat) (wr : World) : StoV c b1 wr (.slice none 0 0) [] :=
  ⟨fun _ => 0, fun _ => 0, World.ownsRow_nil _ _ _ _, fun i hi => absurd hi (Nat.not_lt_zero _)⟩
theorem range_snoc (f : Nat → Value) (n : Nat) : (List.range n).map f ++ [f n] = (List.range (n + 1)).map f := by
  rw [List.range_succ, List.map_append]; rfl
/-- one store more: w2 is behind the append, its two boxes are those of wr -/
theorem StoV.push {c : Mc} {b1 bi bw : Nat} {wr w2 : World} {v v' : Value} {l : List Sto} {i j : Nat} {u : Int} {BI BW : Nat → Nat} (h1 : wr.ownsRow b1 1 1 v l.length ((List.range l.length).map fun i => cloV (BI i) (BW i)))
    (h2 : ∀ i, i < l.length → (b1 ≤ BI i ∧ wr.heap[BI i]? = some (.cells #[.int .i64 (stoAt l i).v] 2 (0, 0))) ∧ (b1 ≤ BW i ∧ wr.heap[BW i]? = some (.cells #[.pointer (some ⟨c.GM (stoAt l i).i, (stoAt l i).j, none⟩)] 119 (0, 0))) ∧ (stoAt l i).i < c.n ∧ (stoAt l i).j < c.lenM (stoAt l i).i)
    (hg : wr.grownBy w2 v.ownBlock) (h3 : w2.ownsRow b1 1 1 v' (l.length + 1) (((List.range l.length).map fun i => cloV (BI i) (BW i)) ++ [cloV bi bw]))
    (hbi : b1 ≤ bi ∧ wr.heap[bi]? = some (.cells #[.int .i64 u] 2 (0, 0))) (hbw : b1 ≤ bw ∧ wr.heap[bw]? = some (.cells #[.pointer (some ⟨c.GM i, j, none⟩)] 119 (0, 0))) (hi : i < c.n) (hj : j < c.lenM i) :
    StoV c b1 w2 v' (l ++ [⟨i, j, u⟩]) := by
  have far : ∀ (g : Nat) (cs : Array Value) (e : TypeId), wr.heap[g]? = some (.cells cs e (0, 0)) → e ≠ 1 → w2.heap[g]? = wr.heap[g]? := fun g cs e hb he => hg.block g (Array.getElem?_eq_some_iff.1 hb).1 fun e2 => by
    obtain ⟨-, hd⟩ := h1
    rcases hd with ⟨e3, _⟩ | ⟨g', cap, cur, e3, _, hb3, _⟩
    · rw [e3] at e2; cases e2
    · rw [e3] at e2
      have e4 : g = g' := by simpa [Value.ownBlock] using e2
      subst e4
      exact blocks_apart hb hb3 he rfl
  refine ⟨fun q => if q = l.length then bi else BI q, fun q => if q = l.length then bw else BW q, ?_, fun q hq => ?_⟩
  · have hl : (l ++ [Sto.mk i j u]).length = l.length + 1 := by simp
    have he : (List.range (l ++ [Sto.mk i j u]).length).map (fun q => cloV (if q = l.length then bi else BI q) (if q = l.length then bw else BW q)) = (List.range l.length).map (fun i => cloV (BI i) (BW i)) ++ [cloV bi bw] := by
      rw [hl, ← range_snoc]
      congr 1
      · refine List.map_congr_left fun q hq => ?_
        have : q < l.length := List.mem_range.1 hq
        rw [if_neg (by omega), if_neg (by omega)]
      · simp
    rw [he, hl]
    exact h3
  · have hl : (l ++ [Sto.mk i j u]).length = l.length + 1 := by simp
    by_cases e : q = l.length
    · subst e
      rw [stoAt_mid]
      simp only [if_true]
      exact ⟨⟨hbi.1, by rw [far _ _ _ hbi.2 (by decide)]; exact hbi.2⟩, ⟨hbw.1, by rw [far _ _ _ hbw.2 (by decide)]; exact hbw.2⟩, hi, hj⟩
    · rw [stoAt_left _ _ _ (by omega)]
      simp only [if_neg e]
      obtain ⟨⟨a1, a2⟩, ⟨b1, b2⟩, c1⟩ := h2 q (by omega)
      exact ⟨⟨a1, by rw [far _ _ _ a2 (by decide)]; exact a2⟩, ⟨b1, by rw [far _ _ _ b2 (by decide)]; exact b2⟩, c1⟩

/-- what the walk wants of an Op -/
def goodK (r : Int) (n : Nat) (x : Kop) : Prop := (0 ≤ x.d ∧ x.d < r) ∧ (0 ≤ x.a ∧ x.a < r) ∧ (0 ≤ x.b ∧ x.b < r) ∧ (0 ≤ x.sg ∧ x.sg ≤ 1000) ∧ (x.o = 1 ∨ x.o = 2 ∨ (x.o = 3 ∧ 0 ≤ x.ar ∧ x.ar < n) ∨ (x.o = 4 ∧ 0 ≤ x.ar ∧ x.ar < n) ∨ (11 ≤ x.o ∧ x.o ≤ 18))
theorem mcomes_any {c : Mc} {V : Nat → Value} {D : List Du} {f : Nat → Int} {m : Nat → Nat → Int} (w : World) (logs : List Int) (gm cm : Nat) (CM : Nat → Nat) (sl sg o d a b ar sp pl nn pc now p T : Int)
    (hI : MInv c V D f m w) (hS : ∀ x, KeptM c x → StatM c logs gm cm CM x) (hn : c.n = logs.length) (hlen : ∀ i, i < c.n → c.lenM i = 2 ^ (nth logs i).toNat ∧ c.lenM i ≤ 32) (hR : (c.R : Int) = c.t.r) (hr1 : 1 ≤ c.t.r) (hr2 : c.t.r ≤ 128)
    (hx : goodK c.t.r c.n ⟨sl, sg, o, d, a, b, ar, sp, pl, nn⟩) (hp : now / pc = p) (hT : p - sg = T) (hp1 : 0 ≤ p) (hp2 : p ≤ 20000) :
    Calls Try.prog 84 #[.pointer (some ⟨c.A, 0, none⟩), .agg #[.int .i64 sl, .int .i64 sg, .int .i64 o, .int .i64 d, .int .i64 a, .int .i64 b, .int .i64 ar, .int .i64 sp, .int .i64 pl, .int .i64 nn], .int .i64 p, .int .i64 T] w fun e w' =>
      e = .returned (.int .i64 (valK logs c.t.r pc now f m ⟨sl, sg, o, d, a, b, ar, sp, pl, nn⟩)) ∧ Below w.heap.size w w' := by
  have hjc := wordK_cast logs pc now ⟨sl, sg, o, d, a, b, ar, sp, pl, nn⟩
  have hjl := wordK_lt logs pc now ⟨sl, sg, o, d, a, b, ar, sp, pl, nn⟩
  have hT' : now / pc - sg = T := by rw [hp]; exact hT
  have hV : valK logs c.t.r pc now f m ⟨sl, sg, o, d, a, b, ar, sp, pl, nn⟩ = if o = 1 then nn else if o = 2 then T else if o = 3 then m ar.toNat (wordK logs pc now ⟨sl, sg, o, d, a, b, ar, sp, pl, nn⟩) else if o = 4 then f ((a + p) % c.t.r).toNat else opv (o - 10) (f ((a + p) % c.t.r).toNat) (f ((b + p) % c.t.r).toNat) := by
    unfold valK regK
    dsimp only
    rw [hT', hp]
  rw [hV]
  dsimp only at hjc hjl
  rw [hT'] at hjc
  obtain ⟨hd, ha, hb, hsg, ho⟩ := hx
  dsimp only at hd ha hb hsg ho
  rcases ho with rfl | rfl | ⟨rfl, h1, h2⟩ | ⟨rfl, h1, h2⟩ | ⟨h1, h2⟩
  · exact mcomes_1 c.A sl sg d a b ar sp pl nn p T w
  · exact mcomes_2 c.A sl sg d a b ar sp pl nn p T w
  · generalize wordK logs pc now ⟨sl, sg, 3, d, a, b, ar, sp, pl, nn⟩ = j at *
    obtain ⟨i, rfl⟩ : ∃ i : Nat, ar = (i : Int) := ⟨ar.toNat, by omega⟩
    rw [Int.toNat_natCast] at hjc hjl ⊢
    have hi : i < c.n := by omega
    exact mcomes_3 w logs gm cm CM sl sg d a b sp pl nn p i j T hI hS hn hi hjc (by rw [(hlen i hi).1]; exact hjl) (hlen i hi).2
  · exact mcomes_4 w sl sg d a b ar sp pl nn p T hI hR hr1 hr2 ha.1 (by omega) hb.1 (by omega) hp1 hp2
  · rw [if_neg (by omega), if_neg (by omega), if_neg (by omega), if_neg (by omega)]
    exact mcomes_op w sl sg o d a b ar sp pl nn p T hI hR hr1 hr2 ha.1 (by omega) hb.1 (by omega) hp1 hp2 h1 h2

/-- the closure does its store -/
theorem do1_any {c : Mc} {V : Nat → Value} {D : List Du} {f : Nat → Int} {m : Nat → Nat → Int} (w : World) (bi bw i j : Nat) (u : Int) (hI : MInv c V D f m w) (hbi : w.heap[bi]? = some (.cells #[.int .i64 u] 2 (0, 0))) (hbw : w.heap[bw]? = some (.cells #[.pointer (some ⟨c.GM i, j, none⟩)] 119 (0, 0))) (hi : i < c.n) (hj : j < c.lenM i) :
    Calls Try.prog 86 #[.pointer (some ⟨bi, 0, none⟩), .pointer (some ⟨bw, 0, none⟩)] w fun e w' => e = .returned (.tuple #[]) ∧ w' = w.setCell ⟨c.GM i, j, none⟩ (.int .i64 u) := by
  have c0 : w.cell? ⟨bi, 0, none⟩ = some (.int .i64 u) := by rw [cell_of_block hbi]; rfl
  have c1 : w.cell? ⟨bw, 0, none⟩ = some (.pointer (some ⟨c.GM i, j, none⟩)) := by rw [cell_of_block hbw]; rfl
  have hr := (hI.min i hi).2.2
  have c2 := hr.cell hj
  have hf := hr.frozen j
  clear hI hbi hbw hr
  go_enter Try.func86, Try.ntmps86
  go_wp2_with fail
  go_end0
  exact ⟨rfl, rfl⟩
end Go.Proofs.Ytlgphgfldfjkkaa
