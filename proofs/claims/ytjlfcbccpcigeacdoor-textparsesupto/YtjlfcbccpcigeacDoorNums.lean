/- Nums: texts that are built as one: Index, Bits, Ops, OpsBelow. -/
import Derived.Test.YtjlfcbccpcigeacDoorRows
import Derived.Test.YtjlfcbccpcigeacDoorBase
import Derived.WalkKit
import Derived.WalkSpells
import Derived.WalkLawsBesides
import Derived.Below
/- Contracts of the number functions: the index, by the program and by the document: for every input each returns what idx says, and leaves the world as it was. -/
namespace Go.Proofs.YtjlfcbccpcigeacDoor
open Go.RowKit
set_option linter.unusedVariables false

theorem hide {p : Prop} (h : p) : Hid p := h
/-- 2 to the power of k, as a whole number; a name, so that no walk opens it -/
def p2 (k : Nat) : Int := ((2 ^ k : Nat) : Int)
theorem p2_pos (k : Nat) : 0 < p2 k := Int.natCast_pos.2 (Nat.two_pow_pos k)
/-- the word that a statement is at, as the document says it -/
def idx (s p t l : Int) : Int :=
  if 0 ≤ l ∧ l ≤ 5 ∧ 0 ≤ t ∧ t ≤ 200 ∧ -64 ≤ s ∧ s ≤ 64 ∧ -64 ≤ p ∧ p ≤ 64 then (s * t + p) % p2 l.toNat else 0

end Go.Proofs.YtjlfcbccpcigeacDoor
/- What the document says of And, Or and Xor, bit by bit, is what the machine's operation gives: the contract of the document's function bits. -/
namespace Go.Proofs.YtjlfcbccpcigeacDoor
open Go.RowKit
set_option linter.unusedVariables false
open NumMath

end Go.Proofs.YtjlfcbccpcigeacDoor
/- Contracts of the operation and the class, by the program and by the document: for every input each returns what opv and clsv say. -/
namespace Go.Proofs.YtjlfcbccpcigeacDoor
open Go.RowKit
set_option linter.unusedVariables false

/-- what an operation of two numbers of 64 bits comes to -/
def opv (op a b : Int) : Int :=
  if op = 1 then wrap64 (a + b) else if op = 2 then wrap64 (a - b) else if op = 3 then wrap64 (a * b)
  else if op = 4 then bits .and .i64 a b else if op = 5 then bits .or .i64 a b else if op = 6 then bits .xor .i64 a b
  else if op = 7 then (if a < b then 1 else 0) else if op = 8 then (if a = b then 1 else 0) else 0
def clsv (op : Int) : Int := if op = 3 ∨ op = 4 then 2 else if op = 13 then 1 else 0

end Go.Proofs.YtjlfcbccpcigeacDoor
/- The program's operation once more: it changes nothing that was there, block by block. -/
namespace Go.Proofs.YtjlfcbccpcigeacDoor
open Go.RowKit
set_option linter.unusedVariables false

end Go.Proofs.YtjlfcbccpcigeacDoor
