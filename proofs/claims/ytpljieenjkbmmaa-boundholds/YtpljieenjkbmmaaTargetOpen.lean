/- From a reading of an argument to a machine. -/
import Derived.Test.YtpljieenjkbmmaaRef4
import Derived.Test.YtpljieenjkbmmaaLoopOpen
namespace Go.Proofs.Ytpljieenjkbmmaa
open Go.ChangeShapes Go.WideShapes Go.ChangeAt Go.RowKit Go.Joins Go.Deep
set_option linter.unusedVariables false
set_option maxRecDepth 8192

theorem Try.c47 : Try.prog.cellsOf 47 = 3 := by kernel_rfl
theorem Try.c49 : Try.prog.cellsOf 49 = 7 := by kernel_rfl
section
variable {H : Type} {enc : TypeId × Value → H} {W : World} {held : Bool}

/-- three whole numbers in a row of cells -/
theorem three_open {fuel o : Nat} {cs : List Value} {x : DataW H × List MemPlace} (h : DataW.trod enc Try.prog W 0 (fun _ => true) held fuel 47 ((cs.drop o).take 3) = some x) :
    ∃ a b c, cs[o]? = some (.int .i64 a) ∧ cs[o + 1]? = some (.int .i64 b) ∧ cs[o + 2]? = some (.int .i64 c) := by
  obtain ⟨xs, m, -, -, -, hl, hf⟩ := DataW.trod_array Try.underlying47 h
  have g : ∀ i, i < 3 → ∃ z, cs[o + i]? = some (.int .i64 z) := fun i hi => by
    have hx := hf i hi
    rw [Try.c3, List.getElem?_eq_getElem (by omega)] at hx
    obtain ⟨z, hz, -⟩ := DataW.trod_int Try.underlying3 hx
    refine ⟨z, ?_⟩
    have h1 := take_one hz
    rw [Nat.mul_one] at h1
    rw [List.getElem?_take, if_pos hi, List.getElem?_drop] at h1
    exact h1
  obtain ⟨a, ha⟩ := g 0 (by omega)
  obtain ⟨b, hb⟩ := g 1 (by omega)
  obtain ⟨c, hc⟩ := g 2 (by omega)
  exact ⟨a, b, c, ha, hb, hc⟩

theorem target_cells {fuel : Nat} {cs : List Value} {x : DataW H × List MemPlace} (h : DataW.trod enc Try.prog W 0 (fun _ => true) held fuel 49 cs = some x) : ∃ t : Tg, cs = t.cells.toList := by
  obtain ⟨xs, n, -, -, hl, hxl, hf⟩ := DataW.trod_struct Try.underlying49 h
  rw [Try.c49] at hl
  have hx3 : xs.length = 3 := hxl
  have g0 : DataW.trod enc Try.prog W 0 (fun _ => true) held n 47 ((cs.drop 0).take (Try.prog.cellsOf 47)) = xs[0]? := hf 0 _ rfl
  have g1 : DataW.trod enc Try.prog W 0 (fun _ => true) held n 47 ((cs.drop 3).take (Try.prog.cellsOf 47)) = xs[1]? := hf 1 _ rfl
  have g2 : DataW.trod enc Try.prog W 0 (fun _ => true) held n 3 ((cs.drop 6).take (Try.prog.cellsOf 3)) = xs[2]? := hf 2 _ rfl
  rw [Try.c47, List.getElem?_eq_getElem (by omega)] at g0 g1
  rw [Try.c3, List.getElem?_eq_getElem (by omega)] at g2
  obtain ⟨u0, u1, u2, a0, a1, a2⟩ := three_open g0
  obtain ⟨w0, w1, w2, b0, b1, b2⟩ := three_open g1
  obtain ⟨r, hr, -⟩ := DataW.trod_int Try.underlying3 g2
  have hr := take_one hr
  refine ⟨⟨u0, u1, u2, w0, w1, w2, r⟩, ?_⟩
  refine List.ext_getElem? fun i => ?_
  by_cases hi : i < 7
  · obtain rfl | rfl | rfl | rfl | rfl | rfl | rfl : i = 0 ∨ i = 1 ∨ i = 2 ∨ i = 3 ∨ i = 4 ∨ i = 5 ∨ i = 6 := by omega
    · exact a0
    · exact a1
    · exact a2
    · exact b0
    · exact b1
    · exact b2
    · exact hr
  · rw [List.getElem?_eq_none (by omega), List.getElem?_eq_none (by simp [Tg.cells]; omega)]
/-- a machine, by value -/
theorem target_open {r : Reach} {b0 : Nat} {v : Value} {d : DataW H} {p : List MemPlace} (hv : Value.okWide Try.prog W r b0 49 v) (h : DataW.Trod enc Try.prog W 0 (fun _ => true) held 49 v d p) : ∃ t : Tg, v = .agg t.cells := by
  obtain ⟨cs, rfl, hsz⟩ := okWide_struct Try.underlying49 hv
  obtain ⟨fuel, hf⟩ := h
  obtain ⟨t, ht⟩ := target_cells hf
  refine ⟨t, ?_⟩
  have e : cs.toList = t.cells.toList := ht
  rw [Array.toList_inj.1 e]
end
end Go.Proofs.Ytpljieenjkbmmaa
