/- SchedB: texts that are built as one: UntilMany, SchedPlan, SchedFull, SchedHigh, SchedHeights. -/
import Derived.Test.YtghlcmljgpkjiabGreatBase
import Derived.Below
import Derived.WalkKit
import Derived.Lib.SmallJoins
import Derived.Test.YtghlcmljgpkjiabGreatSchedA
import Derived.BigQuiet
import Derived.Test.YtghlcmljgpkjiabGreatRef67
/- A region that draws its order, and in which several operations that make memory may come up in any order: each adds blocks and yields a value of which something is known that new blocks leave true; no Go in sight. -/
namespace Go.Proofs.YtghlcmljgpkjiabGreat
open Go.RowKit Go.Joins
set_option linter.unusedVariables false
variable {P : Program} {ops : Array Oper} {Q : Exit → Act → World → Prop} {md : Region.Mode} {S : World → Prop} {z : Nat}

end Go.Proofs.YtghlcmljgpkjiabGreat
/- Where a planner stands in memory: its fields, its four rows, its map; what stores and new blocks leave of it. -/
namespace Go.Proofs.YtghlcmljgpkjiabGreat
open Go.RowKit Go.Joins
set_option linter.unusedVariables false
set_option linter.unusedSimpArgs false
set_option maxRecDepth 8192

/-- what a planner leaves as it is: w0: the world ahead of it; pb: its own block; hb, ib, tb, nb: the rows of heights, of those that are in, of times, of next times; mb: the map -/
structure Pc where
  w0 : World
  L : Lp
  t : Tg
  P : Int
  pb : Nat
  hb : Nat
  ib : Nat
  tb : Nat
  nb : Nat
  mb : Nat
  v0 : Value
  v2 : Value
  bb : Nat
  bo : Nat
  bc : Nat
  ea : Option Addr
  ec : Nat
structure PcOk (c : Pc) : Prop where
  may : mayB c.L = true
  mayt : mayT c.t = true
  p1 : 1 ≤ c.P
  p2 : c.P ≤ 200
  hbb : c.bb < c.w0.heap.size
  bcap : c.L.body.length ≤ c.bc
  bmax : c.bc ≤ 9223372036854775807
  body : ∀ i, i < c.L.body.length → ∀ j, j < 9 → c.w0.cell? ⟨c.bb, c.bo + i * 9 + j, none⟩ = (stCells (stAt c.L.body i))[j]?
  edges : EdgesV c.w0 (.slice c.ea (edgesD c.L c.t).length c.ec) (edgesD c.L c.t)
theorem PcOk.len {c : Pc} (h : PcOk c) : 1 ≤ c.L.body.length ∧ c.L.body.length ≤ 16 := ⟨(may_parts h.may).2.1, (may_parts h.may).2.2.1⟩
variable {c : Pc} {I : Nat → Bool} {T N : Nat → Int} {x y : World}
end Go.Proofs.YtghlcmljgpkjiabGreat
/- The contracts of a planner's unit, full and takeOut. -/
namespace Go.Proofs.YtghlcmljgpkjiabGreat
open Go.RowKit Go.Joins
set_option linter.unusedVariables false
set_option linter.unusedSimpArgs false
set_option maxRecDepth 8192
variable {c : Pc} {I : Nat → Bool} {T N : Nat → Int}

end Go.Proofs.YtghlcmljgpkjiabGreat
/- The contracts of a planner's highest and ready; nothing that was there is changed. -/
namespace Go.Proofs.YtghlcmljgpkjiabGreat
open Go.RowKit Go.Joins
set_option linter.unusedVariables false
set_option linter.unusedSimpArgs false
set_option maxRecDepth 8192
variable {c : Pc} {I : Nat → Bool} {T N : Nat → Int}

def ReadyP (c : Pc) (I : Nat → Bool) (T N : Nat → Int) (a k : Nat) (tm : Int) : Prop := N a ≤ tm ∧ tm ≤ 1010 ∧ ∀ j, j < k → (edAt (edgesD c.L c.t) j).to.toNat = a → I (edAt (edgesD c.L c.t) j).fr.toNat = true → T (edAt (edgesD c.L c.t) j).fr.toNat + gapP c.P (edAt (edgesD c.L c.t) j) ≤ tm
theorem ReadyP.step {a k : Nat} {tm tm' : Int} (h : ReadyP c I T N a k tm) (h1 : tm ≤ tm') (h2 : tm' ≤ 1010) (h3 : (edAt (edgesD c.L c.t) k).to.toNat = a → I (edAt (edgesD c.L c.t) k).fr.toNat = true → T (edAt (edgesD c.L c.t) k).fr.toNat + gapP c.P (edAt (edgesD c.L c.t) k) ≤ tm') : ReadyP c I T N a (k + 1) tm' :=
  ⟨by have := h.1; omega, h2, fun j hj e1 e2 => by
    by_cases e : j = k
    · subst e; exact h3 e1 e2
    · have := h.2.2 j (by omega) e1 e2; omega⟩
end Go.Proofs.YtghlcmljgpkjiabGreat
/- The contract of package sched's heights: a row of numbers, whichever; nothing that was there is changed. -/
namespace Go.Proofs.YtghlcmljgpkjiabGreat
open Go.RowKit Go.Joins
set_option linter.unusedVariables false
set_option linter.unusedSimpArgs false
set_option maxRecDepth 8192

end Go.Proofs.YtghlcmljgpkjiabGreat
