/- Ref11A: texts that are built as one: EmitTells, Ref11Math, Ref11Emit. -/
import Derived.Test.YtjdbmldkgjcniabSounds
import Derived.Test.YtjdbmldkgjcniabKernS
import Derived.Test.YtjdbmldkgjcniabRef8A
import Derived.Test.YtjdbmldkgjcniabKernM
import Derived.Test.YtjdbmldkgjcniabSchedA
import Derived.Test.YtjdbmldkgjcniabRef6A
import Derived.BigQuiet
/- EmitTells' walk: for every loop, machine, plan and registers in memory the law returns true, if the program's Emit and the document's answer as EmitPost says; nothing that was there is changed. -/
namespace Go.Proofs.Ytjdbmldkgjcniab
open Go.RowKit Go.Joins
set_option linter.unusedVariables false
set_option linter.unusedSimpArgs false
set_option maxRecDepth 8192

end Go.Proofs.Ytjdbmldkgjcniab
/- Where the document's Emit stands in memory: the kernel, its Ops as they are laid, and as their registers' names are filled in. -/
namespace Go.Proofs.Ytjdbmldkgjcniab
open Go.RowKit Go.Joins
set_option linter.unusedVariables false
set_option linter.unusedSimpArgs false
set_option maxRecDepth 8192

section
variable (L : Lp) (t : Tg) (P : Int) (T D : List Int)
/-- an Op of which j Refs have been looked at -/
def opQ (s j : Nat) : Kop := ⟨nth T s % P, nth T s / P, (stAt L.body s).o, nth D s, if 0 < j then nameE L t P T D s 0 else 0, if 1 < j then nameE L t P T D s 1 else 0, (stAt L.body s).ar, (stAt L.body s).sp, (stAt L.body s).pl, (stAt L.body s).nn⟩
/-- the Ops when i statements and of the next one j Refs have been looked at -/
def opsJ (i j : Nat) : Nat → Kop := fun s => if s < i then opE L t P T D s else if s = i then opQ L t P T D s j else opQ L t P T D s 0
end
variable {L : Lp} {t : Tg} {P : Int} {T D : List Int}
theorem opQ_all (s : Nat) : opQ L t P T D s (usesL (stAt L.body s)).length = opE L t P T D s := rfl
theorem opsJ_next (i : Nat) : opsJ L t P T D i (usesL (stAt L.body i)).length = opsJ L t P T D (i + 1) 0 := by
  funext s
  unfold opsJ
  by_cases h1 : s < i
  · rw [if_pos h1, if_pos (by omega)]
  · rw [if_neg h1]
    by_cases h2 : s = i
    · subst h2; rw [if_pos rfl, if_pos (by omega), opQ_all]
    · rw [if_neg h2, if_neg (by omega)]
      by_cases h3 : s = i + 1
      · rw [if_pos h3]
      · rw [if_neg h3]
theorem opsJ_zero : opsJ L t P T D 0 0 = fun s => opQ L t P T D s 0 := by
  funext s
  unfold opsJ
  rw [if_neg (Nat.not_lt_zero _)]
  split <;> rfl
/-- cells of a row of Ops -/
def cellO (O : Nat → Kop) (c : Nat) : Value := ((kCells (O (c / 10)))[c % 10]?).getD undef
theorem cellO_at (O : Nat → Kop) (s j : Nat) (hj : j < 10) : some (cellO O (s * 10 + j)) = (kCells (O s))[j]? := by
  unfold cellO
  have h1 : (s * 10 + j) / 10 = s := by omega
  have h2 : (s * 10 + j) % 10 = j := by omega
  rw [h1, h2]
  have h3 : j < (kCells (O s)).size := hj
  rw [Array.getElem?_eq_getElem h3]
  rfl
def RowO (w : World) (g n : Nat) (O : Nat → Kop) : Prop := RowF w g 89 (n * 10) (cellO O)
theorem RowO.cells {w : World} {g n : Nat} {O : Nat → Kop} (h : RowO w g n O) {s : Nat} (hs : s < n) : ∀ j, j < 10 → w.cell? ⟨g, s * 10 + j, none⟩ = (kCells (O s))[j]? := fun j hj => by
  rw [RowF.cell h (show s * 10 + j < n * 10 by omega), cellO_at O s j hj]
/-- where Emit stands when k statements have their Ops: x1: the world ahead of the kernel -/
structure EmI (L : Lp) (t : Tg) (P : Int) (T D : List Int) (x1 : World) (k : Nat) (wr : World) : Prop where
  bel : Below x1.heap.size x1 wr
  blk : ∃ la lc, wr.heap[x1.heap.size]? = some (.cells #[.int .i64 P, .int .i64 (stagesE P T k), .slice la k lc] 40 (0, 0)) ∧ wr.ownsRow (x1.heap.size + 1) 89 10 (.slice la k lc) k (flatO ((List.range k).map fun s => opQ L t P T D s 0))
theorem EmI.lt {x1 wr : World} {k : Nat} (h : EmI L t P T D x1 k wr) : x1.heap.size < wr.heap.size := by
  obtain ⟨la, lc, h1, h2⟩ := h.blk
  exact (Array.getElem?_eq_some_iff.1 h1).1
theorem EmI.start (L : Lp) (t : Tg) (P : Int) (T D : List Int) (x1 : World) : EmI L t P T D x1 0 (x1.alloc (.cells #[.int .i64 P, .int .i64 0, .slice none 0 0] 40)) :=
  ⟨below_alloc1 _ _, none, 0, new_blkS _ _ _, rfl, .inl ⟨rfl, rfl⟩⟩
/-- the row, when all have their Ops -/
theorem EmI.row {x1 wr : World} {k : Nat} (h : EmI L t P T D x1 k wr) (hk : 0 < k) : ∃ g lc, wr.heap[x1.heap.size]? = some (.cells #[.int .i64 P, .int .i64 (stagesE P T k), .slice (some ⟨g, 0, none⟩) k lc] 40 (0, 0)) ∧ x1.heap.size < g ∧ k ≤ lc ∧ lc ≤ maxLen ∧ RowO wr g k (opsJ L t P T D 0 0) := by
  obtain ⟨la, lc, h1, hl, h2⟩ := h.blk
  rcases h2 with ⟨_, hn⟩ | ⟨g, cap, cur, hv, hg, hb, hn, hm, hc, ht⟩
  · omega
  · injection hv with hv1 hv2 hv3
    subst hv1; subst hv3
    refine ⟨g, lc, h1, by omega, hn, hm, cur, hb, by omega, fun c hc2 => ?_⟩
    have hlen : ((List.range k).map fun s => opQ L t P T D s 0).length = k := by simp
    have h3 : (cur.toList.take (k * 10))[c]? = (flatO ((List.range k).map fun s => opQ L t P T D s 0))[c]? := by rw [ht]
    rw [List.getElem?_take, if_pos hc2] at h3
    have e : c = c / 10 * 10 + c % 10 := by omega
    have h4 := flatO_get ((List.range k).map fun s => opQ L t P T D s 0) (c / 10) (c % 10) (by rw [hlen]; omega) (by omega)
    rw [← e] at h4
    have h5 : opAt ((List.range k).map fun s => opQ L t P T D s 0) (c / 10) = opQ L t P T D (c / 10) 0 := by
      unfold opAt
      rw [List.getD, List.getElem?_map, List.getElem?_range (by omega)]
      rfl
    rw [h5] at h4
    have h6 : cur.toList[c]? = cur[c]? := by simp
    rw [← h6, h3, h4, opsJ_zero]
    have h7 : c % 10 < (kCells (opQ L t P T D (c / 10) 0)).size := Nat.mod_lt _ (by decide)
    show _ = some (((kCells (opQ L t P T D (c / 10) 0))[c % 10]?).getD undef)
    rw [Array.getElem?_eq_getElem h7]
    rfl
/-- one Op more: y: the world ahead of the append, in which the kernel's Stages are those of one more -/
theorem EmI.next {x1 wr y w1 : World} {k : Nat} {la la' : Option Addr} {lc lc' : Nat} (h : EmI L t P T D x1 k wr) (ho : wr.ownsRow (x1.heap.size + 1) 89 10 (.slice la k lc) k (flatO ((List.range k).map fun s => opQ L t P T D s 0))) (hbx : Below x1.heap.size x1 y) (hy : y.heap[x1.heap.size]? = some (.cells #[.int .i64 P, .int .i64 (stagesE P T (k + 1)), .slice la k lc] 40 (0, 0)))
    (ho1 : w1.ownsRow (x1.heap.size + 1) 89 10 (.slice la' (k + 1) lc') (k + 1) (flatO ((List.range k).map fun s => opQ L t P T D s 0) ++ (kCells (opQ L t P T D k 0)).toList)) (hg : y.grownBy w1 (Value.ownBlock (.slice la k lc))) :
    EmI L t P T D x1 (k + 1) (w1.setCell ⟨x1.heap.size, 2, none⟩ (.slice la' (k + 1) lc')) ∧ w1.heap[x1.heap.size]? = some (.cells #[.int .i64 P, .int .i64 (stagesE P T (k + 1)), .slice la k lc] 40 (0, 0)) := by
  have hge := ownz_block_ge ho
  have hyz : x1.heap.size < y.heap.size := (Array.getElem?_eq_some_iff.1 hy).1
  have hb1 : w1.heap[x1.heap.size]? = some (.cells #[.int .i64 P, .int .i64 (stagesE P T (k + 1)), .slice la k lc] 40 (0, 0)) := by
    rw [hg.block _ hyz (fun e => by have := hge _ e.symm; omega)]; exact hy
  refine ⟨⟨(hbx.grown hg (Nat.le_of_lt hyz) fun q hq => by have := hge q hq; omega).setCell (Nat.le_refl _) _, la', lc', ?_, ?_⟩, hb1⟩
  · simp [World.setCell, Array.getElem?_modify, hb1]
  · have e : flatO ((List.range k).map fun s => opQ L t P T D s 0) ++ (kCells (opQ L t P T D k 0)).toList = flatO ((List.range (k + 1)).map fun s => opQ L t P T D s 0) := by
      rw [flatO_snoc, List.range_succ, List.map_append]; rfl
    rw [e] at ho1
    obtain ⟨hl, hc⟩ := ho1
    refine ⟨hl, ?_⟩
    rcases hc with hc | ⟨g, cap, cur, hv, hg', hk', r⟩
    · exact .inl hc
    · exact .inr ⟨g, cap, cur, hv, hg', by rw [Below.heap_setCell _ _ _ _ (show g ≠ x1.heap.size by omega)]; exact hk', r⟩
theorem EmI.below {x1 wr y : World} {k : Nat} (h : EmI L t P T D x1 k wr) (hb : Below wr.heap.size wr y) : EmI L t P T D x1 k y := by
  have hlt := h.lt
  obtain ⟨la, lc, h1, h2⟩ := h.blk
  exact ⟨h.bel.trans (hb.mono (Nat.le_of_lt hlt)), la, lc, (hb.block _ hlt).trans h1, own_below h2 hb⟩
/-- where Emit stands when the names of i statements are there, and of the next one's j first Refs -/
structure EmJ (L : Lp) (t : Tg) (P : Int) (T D : List Int) (x1 : World) (g lc i j : Nat) (wr : World) : Prop where
  bel : Below x1.heap.size x1 wr
  blk : wr.heap[x1.heap.size]? = some (.cells #[.int .i64 P, .int .i64 (stagesE P T L.body.length), .slice (some ⟨g, 0, none⟩) L.body.length lc] 40 (0, 0))
  row : RowO wr g L.body.length (opsJ L t P T D i j)
  gt : x1.heap.size < g
theorem EmJ.lt {x1 wr : World} {g lc i j : Nat} (h : EmJ L t P T D x1 g lc i j wr) : x1.heap.size < wr.heap.size := (Array.getElem?_eq_some_iff.1 h.blk).1
theorem EmJ.below {x1 wr y : World} {g lc i j : Nat} (h : EmJ L t P T D x1 g lc i j wr) (hb : Below wr.heap.size wr y) : EmJ L t P T D x1 g lc i j y :=
  ⟨h.bel.trans (hb.mono (Nat.le_of_lt h.lt)), (hb.block _ h.lt).trans h.blk, RowF.below h.row hb (RowF.lt h.row), h.gt⟩
theorem EmJ.next {x1 wr : World} {g lc i : Nat} (h : EmJ L t P T D x1 g lc i (usesL (stAt L.body i)).length wr) : EmJ L t P T D x1 g lc (i + 1) 0 wr :=
  ⟨h.bel, h.blk, by have := h.row; rw [opsJ_next] at this; exact this, h.gt⟩
/-- the Ops, when all names are there -/
theorem EmJ.ops {x1 wr : World} {g lc : Nat} (h : EmJ L t P T D x1 g lc L.body.length 0 wr) (h1 : L.body.length ≤ lc) (h2 : lc ≤ maxLen) : OpsV wr (.slice (some ⟨g, 0, none⟩) L.body.length lc) (emitD L t P T D).ops := by
  refine ⟨some ⟨g, 0, none⟩, lc, by rw [emit_len], by rw [emit_len]; exact h1, h2, fun _ => ⟨g, 0, rfl, RowF.lt h.row, fun i hi j hj => ?_⟩⟩
  rw [emit_len] at hi
  rw [emit_op hi, Nat.zero_add, h.row.cells hi j hj]
  unfold opsJ
  rw [if_pos hi]
end Go.Proofs.Ytjdbmldkgjcniab
/- The contract of the document's own Emit: the kernel of a plan, or that there is none; nothing that was there is changed. -/
namespace Go.Proofs.Ytjdbmldkgjcniab
open Go.RowKit Go.Joins
set_option linter.unusedVariables false
set_option linter.unusedSimpArgs false
set_option maxRecDepth 8192

/-- three cells that were stored -/
theorem triple_set {x : World} {g : Nat} {e : TypeId} {a b d a' b' d' : Value} (h : x.heap[g]? = some (.cells #[a, b, d] e (0, 0))) : (((x.setCell ⟨g, 0, none⟩ a').setCell ⟨g, 1, none⟩ b').setCell ⟨g, 2, none⟩ d').heap[g]? = some (.cells #[a', b', d'] e (0, 0)) := by
  simp [World.setCell, Array.getElem?_modify, h]
theorem none_kern (w : World) : KernV w (.agg #[.int .i64 0, .int .i64 0, .slice none 0 0]) ⟨0, 0, []⟩ := ⟨_, rfl, none, 0, rfl, Nat.le_refl _, Nat.zero_le _, fun h => absurd h (Nat.lt_irrefl _)⟩
theorem Try.iop89 : (Try.prog.info? 89).map (fun i => (i.zero, i.size, i.bytes)) = some (some (.agg #[.int .i64 0, .int .i64 0, .int .i64 0, .int .i64 0, .int .i64 0, .int .i64 0, .int .i64 0, .int .i64 0, .int .i64 0, .int .i64 0]), 10, 80) := by kernel_rfl
theorem ten_cellsE (w : World) (cs : Array Value) (e : TypeId) : ∀ (j : Nat) (u : Value), cs.toList[j]? = some u → (w.alloc (.cells cs e)).cell? ((⟨w.heap.size, 0, none⟩ : Addr).add j) = some u := by
  intro j u hj
  have ha : (⟨w.heap.size, 0, none⟩ : Addr).add j = ⟨w.heap.size, j, none⟩ := by simp [Addr.add]; omega
  rw [ha, cell_of_block (new_blkS w cs e)]
  simpa using hj
end Go.Proofs.Ytjdbmldkgjcniab
