/- KernM: texts that are built as one: KernMach, KernRead, KernLand, KernSto, KernPush. -/
import Derived.Test.YtbpaffkkphacdabLaneMath
import Derived.Test.YtbpaffkkphacdabRounds
import Derived.Test.YtbpaffkkphacdabRef3A
import Derived.Test.YtbpaffkkphacdabBase
import Derived.Test.YtbpaffkkphacdabKernS
import Derived.Test.YtbpaffkkphacdabNums
import Derived.Deep.QuietTactic
import Derived.BigQuiet
import Derived.Test.YtbpaffkkphacdabRef5A
import Derived.Test.YtbpaffkkphacdabTarget
/- Where a run of a kernel stands in memory, by the program: the machine, its registers, the words, what is due; what stores, appends and callees leave of it. -/
namespace Go.Proofs.Ytbpaffkkphacdab
open Go.RowKit Go.Joins
set_option linter.unusedVariables false

/-- what a run leaves as it is: w0: as Run began; w1: as the cycles began; A: the machine; gr: the registers' row; GM i: the words' rows -/
structure Mc where
  w0 : World
  w1 : World
  A : Nat
  t : Tg
  pc : Int
  st : Int
  kv : Value
  lv : Value
  mv : Value
  turns : Int
  R : Nat
  gr : Nat
  cr : Nat
  n : Nat
  lenM : Nat → Nat
  GM : Nat → Nat
/-- all but the machine, its registers and its words is as it was -/
def KeptM (c : Mc) (x : World) : Prop := c.w1.heap.size ≤ x.heap.size ∧ ∀ g, g < c.w1.heap.size → g ≠ c.A → g ≠ c.gr → (∀ i, i < c.n → g ≠ c.GM i) → x.heap[g]? = c.w1.heap[g]?
variable {c : Mc} {V : Nat → Value} {D : List Du} {f : Nat → Int} {m : Nat → Nat → Int} {wr w' : World}

theorem KeptM.step {x : World} (h : KeptM c wr) (hs : wr.heap.size ≤ x.heap.size) (hb : ∀ g, g < c.w1.heap.size → g ≠ c.A → g ≠ c.gr → (∀ i, i < c.n → g ≠ c.GM i) → x.heap[g]? = wr.heap[g]?) : KeptM c x :=
  ⟨Nat.le_trans h.1 hs, fun g h1 h2 h3 h4 => (hb g h1 h2 h3 h4).trans (h.2 g h1 h2 h3 h4)⟩

end Go.Proofs.Ytbpaffkkphacdab
/- The contracts of a running machine's reading: a register's number, the list that is due, where a word lies, what an Op comes to; nothing that was there is changed. -/
namespace Go.Proofs.Ytbpaffkkphacdab
open Go.RowKit Go.Joins
set_option linter.unusedVariables false
set_option linter.unusedSimpArgs false

/-- what is static: the Logs, and where the words' rows lie -/
def StatM (c : Mc) (logs : List Int) (gm cm : Nat) (CM : Nat → Nat) (x : World) : Prop :=
  Ints x c.lv logs ∧ (0 < c.n → c.mv = .slice (some ⟨gm, 0, none⟩) c.n cm ∧ c.n ≤ cm ∧ cm ≤ maxLen ∧ gm < x.heap.size) ∧ ∀ i, i < c.n → x.cell? ⟨gm, i, none⟩ = some (.slice (some ⟨c.GM i, 0, none⟩) (c.lenM i) (CM i)) ∧ c.lenM i ≤ CM i ∧ CM i ≤ maxLen

end Go.Proofs.Ytbpaffkkphacdab
/- The contract of a cycle's beginning: what is due has become what is in its registers. -/
namespace Go.Proofs.Ytbpaffkkphacdab
open Go.RowKit Go.Joins
set_option linter.unusedVariables false
set_option linter.unusedSimpArgs false

end Go.Proofs.Ytbpaffkkphacdab
/- Stores that wait, as closures in memory; and what an Op comes to, whichever it is. -/
namespace Go.Proofs.Ytbpaffkkphacdab
open Go.RowKit Go.Joins
set_option linter.unusedVariables false
set_option linter.unusedSimpArgs false

end Go.Proofs.Ytbpaffkkphacdab
/- What stands in memory while an Op is done, and what its result makes of it. -/
namespace Go.Proofs.Ytbpaffkkphacdab
open Go.RowKit Go.Joins
set_option linter.unusedVariables false
set_option linter.unusedSimpArgs false

theorem Try.i1 : (Try.prog.info? 1).map (fun i => (i.zero, i.size, i.bytes)) = some (some .nilFunc, 1, 8) := by kernel_rfl
/-- the cells of a variable of type Op -/
theorem op_box {w : World} {X : Nat} {sl sg o d a b ar sp pl nn : Int} (h : w.heap[X]? = some (.cells #[.int .i64 sl, .int .i64 sg, .int .i64 o, .int .i64 d, .int .i64 a, .int .i64 b, .int .i64 ar, .int .i64 sp, .int .i64 pl, .int .i64 nn] 91 (0, 0))) :
    w.cell? ⟨X, 0, none⟩ = some (.int .i64 sl) ∧ w.cell? ⟨X, 1, none⟩ = some (.int .i64 sg) ∧ w.cell? ⟨X, 2, none⟩ = some (.int .i64 o) ∧ w.cell? ⟨X, 3, none⟩ = some (.int .i64 d) ∧ w.cell? ⟨X, 4, none⟩ = some (.int .i64 a) ∧ w.cell? ⟨X, 5, none⟩ = some (.int .i64 b) ∧ w.cell? ⟨X, 6, none⟩ = some (.int .i64 ar) ∧ w.cell? ⟨X, 7, none⟩ = some (.int .i64 sp) ∧ w.cell? ⟨X, 8, none⟩ = some (.int .i64 pl) ∧ w.cell? ⟨X, 9, none⟩ = some (.int .i64 nn) := by
  have key := cell_of_block h
  refine ⟨?_, ?_, ?_, ?_, ?_, ?_, ?_, ?_, ?_, ?_⟩ <;> (rw [key]; rfl)
theorem new_block (w : World) (cs : Array Value) (e : TypeId) : (w.alloc (.cells cs e)).heap[w.heap.size]? = some (.cells cs e (0, 0)) := by
  show (w.heap.push _)[w.heap.size]? = _
  simp
variable {c : Mc} {V : Nat → Value} {D : List Du} {f : Nat → Int} {m : Nat → Nat → Int} {X BI : Nat} {sl sg o d a b ar sp pl nn v : Int} {x : World}
theorem i64_wrapK (x : Int) (h0 : -9223372036854775808 ≤ x) (h1 : x ≤ 9223372036854775807) : IntKind.i64.wrap x = x := by rw [IntKind.wrap_i64]; omega
end Go.Proofs.Ytbpaffkkphacdab
