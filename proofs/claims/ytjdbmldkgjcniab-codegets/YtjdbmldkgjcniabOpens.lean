/- Opens: texts that are built as one: LoopOpen, TargetOpen, KernOpen, NumsOpen. -/
import Derived.Test.YtjdbmldkgjcniabLoopP
import Derived.ProofKit
import Derived.OpenShut
import Derived.Deep.Slices
import Derived.Lib.SmallJoins
import Derived.Test.YtjdbmldkgjcniabRef6A
import Derived.Test.YtjdbmldkgjcniabKernS
/- From a reading of the arguments to a loop and a state in memory. -/
namespace Go.Proofs.Ytjdbmldkgjcniab
open Go.ChangeShapes Go.WideShapes Go.ChangeAt Go.RowKit Go.Joins Go.Deep
set_option linter.unusedVariables false
set_option maxRecDepth 8192

theorem Try.c3 : Try.prog.cellsOf 3 = 1 := by kernel_rfl
theorem Try.c2 : Try.prog.cellsOf 2 = 1 := by kernel_rfl
theorem Try.c46 : Try.prog.cellsOf 46 = 1 := by kernel_rfl
theorem Try.c72 : Try.prog.cellsOf 72 = 2 := by kernel_rfl
theorem Try.c74 : Try.prog.cellsOf 74 = 9 := by kernel_rfl
theorem Try.c25 : Try.prog.cellsOf 25 = 3 := by kernel_rfl
theorem lt_of_cell {w : World} {a : Addr} {u : Value} (h : w.cell? a = some u) : a.block < w.heap.size := by
  unfold World.cell? at h
  cases e : w.heap[a.block]? with
  | none => rw [e] at h; cases h
  | some x => exact (Array.getElem?_eq_some_iff.1 e).1

theorem add_at (b off i : Nat) : (⟨b, off, none⟩ : Addr).add i = ⟨b, off + i, none⟩ := by simp [Addr.add]
theorem nth_take (zs : List Int) (n i : Nat) (h : i < n) : nth (zs.take n) i = zs.getD i 0 := by
  unfold nth; simp [List.getD, h]

section
variable {H : Type} {enc : TypeId × Value → H} {W : World} {held : Bool}

theorem take_one {cs : List Value} {o : Nat} {v : Value} (h : (cs.drop o).take 1 = [v]) : cs[o]? = some v := by
  have h1 : ((cs.drop o).take 1)[0]? = some v := by rw [h]; rfl
  simpa [List.getElem?_take, List.getElem?_drop] using h1

theorem pick_lt {α : Type} (d : α) {n : Nat} {p : Nat → α → Prop} (h : ∀ i, i < n → ∃ x, p i x) : ∃ f : Nat → α, ∀ i, i < n → p i (f i) := by
  refine ⟨fun i => if hi : i < n then Classical.choose (h i hi) else d, fun i hi => ?_⟩
  simp only [dif_pos hi]
  exact Classical.choose_spec (h i hi)

end
end Go.Proofs.Ytjdbmldkgjcniab
/- From a reading of an argument to a machine. -/
namespace Go.Proofs.Ytjdbmldkgjcniab
open Go.ChangeShapes Go.WideShapes Go.ChangeAt Go.RowKit Go.Joins Go.Deep
set_option linter.unusedVariables false
set_option maxRecDepth 8192

theorem Try.c26 : Try.prog.cellsOf 26 = 3 := by kernel_rfl
theorem Try.c28 : Try.prog.cellsOf 28 = 7 := by kernel_rfl
section
variable {H : Type} {enc : TypeId × Value → H} {W : World} {held : Bool}

end
end Go.Proofs.Ytjdbmldkgjcniab
/- From a reading of an argument to a kernel in memory. -/
namespace Go.Proofs.Ytjdbmldkgjcniab
open Go.ChangeShapes Go.WideShapes Go.ChangeAt Go.RowKit Go.Joins Go.Deep
set_option linter.unusedVariables false
set_option maxRecDepth 8192

theorem Try.c89 : Try.prog.cellsOf 89 = 10 := by kernel_rfl
theorem Try.c38 : Try.prog.cellsOf 38 = 1 := by kernel_rfl
theorem Try.c40 : Try.prog.cellsOf 40 = 3 := by kernel_rfl

section
variable {H : Type} {enc : TypeId × Value → H} {W : World} {held : Bool}

theorem opAt_map (n : Nat) (f : Nat → Kop) (i : Nat) (h : i < n) : opAt ((List.range n).map f) i = f i := by
  unfold opAt; simp [List.getD, h]
theorem slice_arg {P : Program} {r : Reach} {b0 : Nat} {t e : TypeId} {v : Value} (ht : P.underlying t = some (.slice e)) (h : Value.okWide P W r b0 t v) : ∃ a l c, v = .slice a l c := by
  simp only [Value.okWide, ht, Cell.okWide] at h
  cases v <;> simp_all [Cell.ok]
end
end Go.Proofs.Ytjdbmldkgjcniab
/- From a reading of an argument to a slice of whole numbers in memory. -/
namespace Go.Proofs.Ytjdbmldkgjcniab
open Go.ChangeShapes Go.WideShapes Go.ChangeAt Go.RowKit Go.Joins Go.Deep
set_option linter.unusedVariables false
set_option maxRecDepth 8192
section
variable {H : Type} {enc : TypeId × Value → H} {W : World} {held : Bool}
end
end Go.Proofs.Ytjdbmldkgjcniab
