/- The contracts of the document's own number, numbers and at: eight bytes a number, the highest first. -/
import Derived.Test.YtjdbmldkgjcniacCodeMath
import Derived.Test.YtjdbmldkgjcniacSchedA
import Derived.Test.YtjdbmldkgjcniacKernS
import Derived.Test.YtjdbmldkgjcniacNums
import Derived.Laws.BytesArg
namespace Go.Proofs.Ytjdbmldkgjcniac
open Go.RowKit Go.Joins
set_option linter.unusedVariables false
set_option linter.unusedSimpArgs false
set_option maxRecDepth 8192

/-- a number, so many bytes taken off -/
def shN (n : Int) : Nat → Int
  | 0 => n
  | d + 1 => shN n d / 256
/-- byte j of the eight -/
def byteN (n : Int) (j : Nat) : Int := shN n (7 - j) % 256
theorem div2 (n a b : Int) (ha : 0 ≤ a) : n / a / b = n / (a * b) := Int.ediv_ediv_of_nonneg ha
theorem numB_byte (n : Int) : numB n = (List.range 8).map (byteN n) := by
  show _ = [shN n 7 % 256, shN n 6 % 256, shN n 5 % 256, shN n 4 % 256, shN n 3 % 256, shN n 2 % 256, shN n 1 % 256, shN n 0 % 256]
  unfold numB
  simp only [shN]
  rw [div2 n 256 256 (by decide), div2 n (256 * 256) 256 (by decide), div2 n (256 * 256 * 256) 256 (by decide), div2 n (256 * 256 * 256 * 256) 256 (by decide), div2 n (256 * 256 * 256 * 256 * 256) 256 (by decide), div2 n (256 * 256 * 256 * 256 * 256 * 256) 256 (by decide)]
  rfl
theorem byteN_range (n : Int) (j : Nat) : 0 ≤ byteN n j ∧ byteN n j < 256 := ⟨Int.emod_nonneg _ (by decide), Int.emod_lt_of_pos _ (by decide)⟩
theorem shN_range {n : Int} (h0 : -9223372036854775808 ≤ n) (h1 : n ≤ 9223372036854775807) : ∀ d, -9223372036854775808 ≤ shN n d ∧ shN n d ≤ 9223372036854775807 := by
  intro d
  induction d with
  | zero => exact ⟨h0, h1⟩
  | succ d ih =>
    have h2 := Int.mul_ediv_add_emod (shN n d) 256
    have h3 := Int.emod_nonneg (shN n d) (show (256 : Int) ≠ 0 by decide)
    have h4 := Int.emod_lt_of_pos (shN n d) (show (0 : Int) < 256 by decide)
    show _ ≤ shN n d / 256 ∧ shN n d / 256 ≤ _
    omega
theorem numB_len (n : Int) : (numB n).length = 8 := rfl
theorem nums_take (l : List Int) (k : Nat) (h : k < l.length) : bytesW (l.take k) ++ numB (nth l k) = bytesW (l.take (k + 1)) := by
  unfold bytesW
  rw [List.take_add_one, List.getElem?_eq_getElem h, List.flatMap_append]
  have e : nth l k = l[k] := by unfold nth; rw [List.getD, List.getElem?_eq_getElem h]; rfl
  rw [e]
  simp
/-- v is a slice of the bytes l -/
def BytesV (w : World) (v : Value) (l : List Int) : Prop :=
  ∃ a cap, v = .slice a l.length cap ∧ l.length ≤ cap ∧ cap ≤ maxLen ∧ (∀ i, i < l.length → 0 ≤ nth l i ∧ nth l i < 256) ∧
    (0 < l.length → ∃ b off, a = some ⟨b, off, none⟩ ∧ b < w.heap.size ∧ ∀ i, i < l.length → w.cell? ⟨b, off + i, none⟩ = some (.int .u8 (nth l i)))
theorem BytesV.below {w w' : World} {v : Value} {l : List Int} (h : BytesV w v l) (hb : Below w.heap.size w w') : BytesV w' v l := by
  obtain ⟨a, cap, e, h1, h2, h3, h4⟩ := h
  refine ⟨a, cap, e, h1, h2, h3, fun hp => ?_⟩
  obtain ⟨b, off, e2, h5, h6⟩ := h4 hp
  exact ⟨b, off, e2, Nat.lt_of_lt_of_le h5 hb.size, fun i hi => by rw [bcell hb _ _ h5]; exact h6 i hi⟩
end Go.Proofs.Ytjdbmldkgjcniac
