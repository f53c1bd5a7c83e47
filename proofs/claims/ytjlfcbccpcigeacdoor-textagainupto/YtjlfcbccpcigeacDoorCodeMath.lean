/- M1, M2: kernels as bytes, there and back; no Go in sight. -/
import Derived.Test.YtjlfcbccpcigeacDoorMaths
namespace Go.Proofs.YtjlfcbccpcigeacDoor
open Go.RowKit
set_option linter.unusedVariables false

/-- the number of eight bytes -/
def val8 (c0 c1 c2 c3 c4 c5 c6 c7 : Int) : Int := wrap64 (((((((c0 * 256 + c1) * 256 + c2) * 256 + c3) * 256 + c4) * 256 + c5) * 256 + c6) * 256 + c7)
def atB (b : List Int) (k : Nat) : Int := val8 (nth b (8 * k)) (nth b (8 * k + 1)) (nth b (8 * k + 2)) (nth b (8 * k + 3)) (nth b (8 * k + 4)) (nth b (8 * k + 5)) (nth b (8 * k + 6)) (nth b (8 * k + 7))
/-- M2: are there such bytes? -/
def okB (b : List Int) : Bool := decide (24 ≤ b.length) && inR (atB b 2) 0 16 && decide ((b.length : Int) = 24 + 80 * atB b 2)
end Go.Proofs.YtjlfcbccpcigeacDoor
