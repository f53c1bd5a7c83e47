/- KernS: texts that are built as one: KernState, KernOne, KernSame. -/
import Derived.Test.YtjlfcbccpcigeacDoorMaths
import Derived.Test.YtjlfcbccpcigeacDoorLoopStmt
import Derived.Test.YtjlfcbccpcigeacDoorLoopP
import Derived.Deep.QuietTactic
import Derived.BigQuiet
/- What lies in memory as a kernel, and that new memory leaves it as it was. -/
namespace Go.Proofs.YtjlfcbccpcigeacDoor
open Go.RowKit Go.Joins
set_option linter.unusedVariables false

def kCells (x : Kop) : Array Value := #[.int .i64 x.sl, .int .i64 x.sg, .int .i64 x.o, .int .i64 x.d, .int .i64 x.a, .int .i64 x.b, .int .i64 x.ar, .int .i64 x.sp, .int .i64 x.pl, .int .i64 x.nn]
/-- v is a slice of the Ops l -/
def OpsV (w : World) (v : Value) (l : List Kop) : Prop :=
  ∃ a cap, v = .slice a l.length cap ∧ l.length ≤ cap ∧ cap ≤ maxLen ∧
    (0 < l.length → ∃ blk off, a = some ⟨blk, off, none⟩ ∧ blk < w.heap.size ∧ ∀ i, i < l.length → ∀ j, j < 10 → w.cell? ⟨blk, off + i * 10 + j, none⟩ = (kCells (opAt l i))[j]?)
theorem OpsV.below {w w' : World} {v : Value} {l : List Kop} (h : OpsV w v l) (hb : Below w.heap.size w w') : OpsV w' v l := by
  obtain ⟨a, cap, e, h1, h2, h4⟩ := h
  refine ⟨a, cap, e, h1, h2, fun hp => ?_⟩
  obtain ⟨b, off, e2, h5, h6⟩ := h4 hp
  exact ⟨b, off, e2, Nat.lt_of_lt_of_le h5 hb.size, fun i hi j hj => by rw [bcell hb _ _ h5]; exact h6 i hi j hj⟩
/-- v is the kernel K -/
def KernV (w : World) (v : Value) (K : Kn) : Prop := ∃ kv, v = .agg #[.int .i64 K.pc, .int .i64 K.st, kv] ∧ OpsV w kv K.ops
theorem KernV.below {w w' : World} {v : Value} {K : Kn} (h : KernV w v K) (hb : Below w.heap.size w w') : KernV w' v K := by
  obtain ⟨kv, e, h1⟩ := h
  exact ⟨kv, e, h1.below hb⟩
end Go.Proofs.YtjlfcbccpcigeacDoor
/- The contracts of the program's answers on one Op of a kernel: its time, its registers, its statement; nothing that was there is changed. -/
namespace Go.Proofs.YtjlfcbccpcigeacDoor
open Go.RowKit Go.Joins
set_option linter.unusedVariables false

end Go.Proofs.YtjlfcbccpcigeacDoor
/- The contract of the document's own comparison of kernels, of two that are the same; nothing that was there is changed. -/
namespace Go.Proofs.YtjlfcbccpcigeacDoor
open Go.RowKit Go.Joins
set_option linter.unusedVariables false
set_option linter.unusedSimpArgs false
set_option maxRecDepth 8192

end Go.Proofs.YtjlfcbccpcigeacDoor
