/- A string as the letters that it has. -/
import Derived.Test.YtjlfcbccpcigeacDoorRef14Split
namespace Go.Proofs.YtjlfcbccpcigeacDoor
open Go.RowKit Go.Joins
set_option linter.unusedVariables false

theorem str_nums (s : ByteArray) : ∃ l : List Int, ByteL l ∧ s = strOfNums l ∧ l.length = s.size := by
  refine ⟨s.data.toList.map fun b => (b.toNat : Int), fun i => ?_, ?_, ?_⟩
  · unfold nth
    rw [List.getD, List.getElem?_map]
    cases h : s.data.toList[i]? with
    | none => exact ⟨Int.le_refl _, by decide⟩
    | some b =>
      have := b.toNat_lt
      exact ⟨by show (0 : Int) ≤ (b.toNat : Int); omega, by show (b.toNat : Int) ≤ 255; omega⟩
  · apply ByteArray.ext
    apply Array.toList_inj.1
    rw [strOfNums_data, List.map_map]
    have e : ((fun n : Int => UInt8.ofNat n.toNat) ∘ fun b : UInt8 => (b.toNat : Int)) = id := by
      funext b
      show UInt8.ofNat ((b.toNat : Int)).toNat = b
      rw [Int.toNat_natCast]; simp
    rw [e, List.map_id]
  · rw [List.length_map, Array.length_toList]; rfl
end Go.Proofs.YtjlfcbccpcigeacDoor
