/- Contracts of package loop, statement by statement: what lies in memory as a loop, and for every loop whether a statement of it may be; nothing that was there is changed. -/
import Derived.Test.YtjdbmldkgjcniacRows
import Derived.Test.YtjdbmldkgjcniacNums
import Derived.Test.YtjdbmldkgjcniacBase
import Derived.WalkKit
import Derived.WalkSpells
import Derived.WalkLawsBesides
import Derived.Below
import Derived.Lib.SmallJoins
namespace Go.Proofs.Ytjdbmldkgjcniac
open Go.RowKit Go.Joins
set_option linter.unusedVariables false

/-- v is a slice of the numbers zs -/
def Ints (w : World) (v : Value) (zs : List Int) : Prop :=
  ∃ a cap, v = .slice a zs.length cap ∧ zs.length ≤ cap ∧ cap ≤ maxLen ∧ (∀ i, i < zs.length → -9223372036854775808 ≤ nth zs i ∧ nth zs i ≤ 9223372036854775807) ∧
    (0 < zs.length → ∃ b off, a = some ⟨b, off, none⟩ ∧ b < w.heap.size ∧ ∀ i, i < zs.length → w.cell? ⟨b, off + i, none⟩ = some (.int .i64 (nth zs i)))

def stCells (s : St) : Array Value := #[.int .i64 s.o, .int .i64 s.xa, .int .i64 s.xb, .int .i64 s.ya, .int .i64 s.yb, .int .i64 s.ar, .int .i64 s.sp, .int .i64 s.pl, .int .i64 s.nn]
/-- v is a slice of the statements b -/
def Stmts (w : World) (v : Value) (b : List St) : Prop :=
  ∃ a cap, v = .slice a b.length cap ∧ b.length ≤ cap ∧ cap ≤ maxLen ∧
    (0 < b.length → ∃ blk off, a = some ⟨blk, off, none⟩ ∧ blk < w.heap.size ∧ ∀ i, i < b.length → ∀ j, j < 9 → w.cell? ⟨blk, off + i * 9 + j, none⟩ = (stCells (stAt b i))[j]?)
/-- v is the loop L -/
def LoopV (w : World) (v : Value) (L : Lp) : Prop := ∃ v0 v1 v2, v = .agg #[v0, v1, v2] ∧ Ints w v0 L.logs ∧ Stmts w v1 L.body ∧ Ints w v2 L.outs

theorem bcell {W w1 : World} (hb : Below W.heap.size W w1) : ∀ b o, b < W.heap.size → w1.cell? ⟨b, o, none⟩ = W.cell? ⟨b, o, none⟩ :=
  fun b o h => hb.cell (p := ⟨b, o, none⟩) h
theorem Ints.below {w w' : World} {v : Value} {zs : List Int} (h : Ints w v zs) (hb : Below w.heap.size w w') : Ints w' v zs := by
  obtain ⟨a, cap, e, h1, h2, h3, h4⟩ := h
  refine ⟨a, cap, e, h1, h2, h3, fun hp => ?_⟩
  obtain ⟨b, off, e2, h5, h6⟩ := h4 hp
  exact ⟨b, off, e2, Nat.lt_of_lt_of_le h5 hb.size, fun i hi => by rw [bcell hb _ _ h5]; exact h6 i hi⟩
theorem Stmts.below {w w' : World} {v : Value} {l : List St} (h : Stmts w v l) (hb : Below w.heap.size w w') : Stmts w' v l := by
  obtain ⟨a, cap, e, h1, h2, h4⟩ := h
  refine ⟨a, cap, e, h1, h2, fun hp => ?_⟩
  obtain ⟨b, off, e2, h5, h6⟩ := h4 hp
  exact ⟨b, off, e2, Nat.lt_of_lt_of_le h5 hb.size, fun i hi j hj => by rw [bcell hb _ _ h5]; exact h6 i hi j hj⟩
theorem LoopV.below {w w' : World} {v : Value} {L : Lp} (h : LoopV w v L) (hb : Below w.heap.size w w') : LoopV w' v L := by
  obtain ⟨v0, v1, v2, e, h1, h2, h3⟩ := h
  exact ⟨v0, v1, v2, e, h1.below hb, h2.below hb, h3.below hb⟩

end Go.Proofs.Ytjdbmldkgjcniac
