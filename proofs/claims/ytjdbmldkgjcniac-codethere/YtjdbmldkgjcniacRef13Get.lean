/- The contract of the document's own Get: the kernel whose bytes they are, or that there is none; nothing that was there is changed. -/
import Derived.Test.YtjdbmldkgjcniacRef13Num
import Derived.Test.YtjdbmldkgjcniacRef11A
namespace Go.Proofs.Ytjdbmldkgjcniac
open Go.RowKit Go.Joins
set_option linter.unusedVariables false
set_option linter.unusedSimpArgs false
set_option maxRecDepth 8192

/-- what Get answers -/
def getK (b : List Int) : Kn := if okB b = true then kernB b else ⟨0, 0, []⟩
def getC (b : List Int) : Int := if okB b = true then 0 else 2
def GetPost (b : List Int) (w : World) (e : Ending) (w' : World) : Prop :=
  Below w.heap.size w w' ∧ ∃ k0 k1 kv, e = .returned (.tuple #[.agg #[.int .i64 k0, .int .i64 k1, kv], .int .i64 (getC b)]) ∧ KernV w' (.agg #[.int .i64 k0, .int .i64 k1, kv]) (getK b)
/-- where a kernel stands to which Ops are added: x1: the world ahead of it -/
structure RowK (x1 : World) (pc st : Int) (f : Nat → Kop) (k : Nat) (wr : World) : Prop where
  bel : Below x1.heap.size x1 wr
  blk : ∃ la lc, wr.heap[x1.heap.size]? = some (.cells #[.int .i64 pc, .int .i64 st, .slice la k lc] 28 (0, 0)) ∧ wr.ownsRow (x1.heap.size + 1) 37 10 (.slice la k lc) k (flatO ((List.range k).map f))
variable {x1 wr y w1 : World} {pc st : Int} {f : Nat → Kop} {k : Nat}
theorem RowK.lt (h : RowK x1 pc st f k wr) : x1.heap.size < wr.heap.size := by
  obtain ⟨la, lc, h1, h2⟩ := h.blk
  exact (Array.getElem?_eq_some_iff.1 h1).1
theorem RowK.start (x1 : World) (pc st : Int) (f : Nat → Kop) : RowK x1 pc st f 0 (x1.alloc (.cells #[.int .i64 pc, .int .i64 st, .slice none 0 0] 28)) :=
  ⟨below_alloc1 _ _, none, 0, new_blkS _ _ _, rfl, .inl ⟨rfl, rfl⟩⟩
theorem RowK.next {la la' : Option Addr} {lc lc' : Nat} (h : RowK x1 pc st f k wr) (ho : wr.ownsRow (x1.heap.size + 1) 37 10 (.slice la k lc) k (flatO ((List.range k).map f))) (hbx : Below x1.heap.size x1 y) (hy : y.heap[x1.heap.size]? = some (.cells #[.int .i64 pc, .int .i64 st, .slice la k lc] 28 (0, 0)))
    (ho1 : w1.ownsRow (x1.heap.size + 1) 37 10 (.slice la' (k + 1) lc') (k + 1) (flatO ((List.range k).map f) ++ (kCells (f k)).toList)) (hg : y.grownBy w1 (Value.ownBlock (.slice la k lc))) :
    RowK x1 pc st f (k + 1) (w1.setCell ⟨x1.heap.size, 2, none⟩ (.slice la' (k + 1) lc')) ∧ w1.heap[x1.heap.size]? = some (.cells #[.int .i64 pc, .int .i64 st, .slice la k lc] 28 (0, 0)) := by
  have hge := ownz_block_ge ho
  have hyz : x1.heap.size < y.heap.size := (Array.getElem?_eq_some_iff.1 hy).1
  have hb1 : w1.heap[x1.heap.size]? = some (.cells #[.int .i64 pc, .int .i64 st, .slice la k lc] 28 (0, 0)) := by
    rw [hg.block _ hyz (fun e => by have := hge _ e.symm; omega)]; exact hy
  refine ⟨⟨(hbx.grown hg (Nat.le_of_lt hyz) fun q hq => by have := hge q hq; omega).setCell (Nat.le_refl _) _, la', lc', ?_, ?_⟩, hb1⟩
  · simp [World.setCell, Array.getElem?_modify, hb1]
  · have e : flatO ((List.range k).map f) ++ (kCells (f k)).toList = flatO ((List.range (k + 1)).map f) := by
      rw [flatO_snoc, List.range_succ, List.map_append]; rfl
    rw [e] at ho1
    obtain ⟨hl, hc⟩ := ho1
    refine ⟨hl, ?_⟩
    rcases hc with hc | ⟨g, cap, cur, hv, hg', hk', r⟩
    · exact .inl hc
    · exact .inr ⟨g, cap, cur, hv, hg', by rw [Below.heap_setCell _ _ _ _ (show g ≠ x1.heap.size by omega)]; exact hk', r⟩
/-- the Ops, behind a store to a block that was there -/
theorem ops3 {base b : Nat} {la : Option Addr} {lc : Nat} (h2 : wr.ownsRow base 37 10 (.slice la k lc) k (flatO ((List.range k).map f))) (hb : b < base) (v0 v1 v2 : Value) : OpsV (((wr.setCell ⟨b, 0, none⟩ v0).setCell ⟨b, 1, none⟩ v1).setCell ⟨b, 2, none⟩ v2) (.slice la k lc) ((List.range k).map f) := by
  have hlen : ((List.range k).map f).length = k := by simp
  have h3 : (((wr.setCell ⟨b, 0, none⟩ v0).setCell ⟨b, 1, none⟩ v1).setCell ⟨b, 2, none⟩ v2).ownsRow base 37 10 (.slice la k lc) k (flatO ((List.range k).map f)) := ownz_keep h2 fun g hg => by
    have := ownz_block_ge h2 g hg
    rw [Below.heap_setCell _ _ _ _ (show g ≠ b by omega), Below.heap_setCell _ _ _ _ (show g ≠ b by omega), Below.heap_setCell _ _ _ _ (show g ≠ b by omega)]
  have h4 : (((wr.setCell ⟨b, 0, none⟩ v0).setCell ⟨b, 1, none⟩ v1).setCell ⟨b, 2, none⟩ v2).ownsRow base 37 10 (.slice la k lc) ((List.range k).map f).length (flatO ((List.range k).map f)) := by rw [hlen]; exact h3
  exact ops_own h4
theorem get_none {b : List Int} (h : okB b = false) : getK b = ⟨0, 0, []⟩ ∧ getC b = 2 := by
  unfold getK getC
  rw [h]
  exact ⟨if_neg Bool.false_ne_true, if_neg Bool.false_ne_true⟩
theorem get_some {b : List Int} (h : okB b = true) : getK b = kernB b ∧ getC b = 0 := by
  unfold getK getC
  rw [h]
  exact ⟨if_pos rfl, if_pos rfl⟩
theorem wrap64_range (x : Int) : -9223372036854775808 ≤ wrap64 x ∧ wrap64 x ≤ 9223372036854775807 := by unfold wrap64; omega
theorem atB_range (l : List Int) (k : Nat) : -9223372036854775808 ≤ atB l k ∧ atB l k ≤ 9223372036854775807 := wrap64_range _
end Go.Proofs.Ytjdbmldkgjcniac
