/- From a reading of an argument to a kernel whose numbers are all int64, and to bytes. -/
import Derived.Test.YtjdbmldkgjcniabOpens
import Derived.Test.YtjdbmldkgjcniabRef13Num
namespace Go.Proofs.Ytjdbmldkgjcniab
open Go.ChangeShapes Go.WideShapes Go.ChangeAt Go.RowKit Go.Joins Go.Deep
set_option linter.unusedVariables false
set_option maxRecDepth 8192
section
variable {H : Type} {enc : TypeId × Value → H} {W : World} {held : Bool}
def OpIn (s : Kop) : Prop := ∀ i, i < 10 → I64 (nth (opW s) i)
/-- the ten cells of an Op, each of them an int64 -/
theorem op_cells_in {fuel : Nat} {cs : List Value} {x : DataW H × List MemPlace} (h : DataW.trod enc Try.prog W 0 (fun _ => true) held fuel 89 cs = some x) :
    ∃ s : Kop, (∀ j, j < 10 → cs[j]? = (kCells s)[j]?) ∧ OpIn s := by
  obtain ⟨xs, n, -, -, hl, hxl, hf⟩ := DataW.trod_struct Try.underlying89 h
  have gi : ∀ (i o : Nat) (f : Field) (t : TypeId), Try.prog.underlying t = some (.int .i64) → Try.prog.cellsOf t = 1 → f.type = t → f.offset = o → i < xs.length → DataW.trod enc Try.prog W 0 (fun _ => true) held n f.type ((cs.drop f.offset).take (Try.prog.cellsOf f.type)) = xs[i]? → ∃ z, cs[o]? = some (.int .i64 z) ∧ I64 z := by
    intro i o f t hu hc e1 e2 hi hx
    subst e1; subst e2
    rw [hc, List.getElem?_eq_getElem hi] at hx
    obtain ⟨z, hz, -, hw⟩ := DataW.trod_int hu hx
    exact ⟨z, take_one hz, bounds_i64 hw⟩
  have hx7 : xs.length = 10 := hxl
  obtain ⟨z0, h0, i0⟩ := gi 0 0 _ 3 Try.underlying3 Try.c3 rfl rfl (by omega) (hf 0 _ rfl)
  obtain ⟨z1, h1, i1⟩ := gi 1 1 _ 3 Try.underlying3 Try.c3 rfl rfl (by omega) (hf 1 _ rfl)
  obtain ⟨z2, h2, i2⟩ := gi 2 2 _ 3 Try.underlying3 Try.c3 rfl rfl (by omega) (hf 2 _ rfl)
  obtain ⟨z3, h3, i3⟩ := gi 3 3 _ 3 Try.underlying3 Try.c3 rfl rfl (by omega) (hf 3 _ rfl)
  obtain ⟨z4, h4, i4⟩ := gi 4 4 _ 3 Try.underlying3 Try.c3 rfl rfl (by omega) (hf 4 _ rfl)
  obtain ⟨z5, h5, i5⟩ := gi 5 5 _ 3 Try.underlying3 Try.c3 rfl rfl (by omega) (hf 5 _ rfl)
  obtain ⟨z6, h6, i6⟩ := gi 6 6 _ 3 Try.underlying3 Try.c3 rfl rfl (by omega) (hf 6 _ rfl)
  obtain ⟨z7, h7, i7⟩ := gi 7 7 _ 3 Try.underlying3 Try.c3 rfl rfl (by omega) (hf 7 _ rfl)
  obtain ⟨z8, h8, i8⟩ := gi 8 8 _ 3 Try.underlying3 Try.c3 rfl rfl (by omega) (hf 8 _ rfl)
  obtain ⟨z9, h9, i9⟩ := gi 9 9 _ 2 Try.underlying2 Try.c2 rfl rfl (by omega) (hf 9 _ rfl)
  refine ⟨⟨z0, z1, z2, z3, z4, z5, z6, z7, z8, z9⟩, fun j hj => ?_, fun j hj => ?_⟩
  all_goals
    have hj9 : j = 0 ∨ j = 1 ∨ j = 2 ∨ j = 3 ∨ j = 4 ∨ j = 5 ∨ j = 6 ∨ j = 7 ∨ j = 8 ∨ j = 9 := by omega
    rcases hj9 with rfl | rfl | rfl | rfl | rfl | rfl | rfl | rfl | rfl | rfl
    all_goals first | assumption
/-- a slice of Ops, each of them of int64s -/
theorem ops_open_in {fuel : Nat} {v : Value} {x : DataW H × List MemPlace} (h : DataW.trod enc Try.prog W 0 (fun _ => true) held fuel 38 [v] = some x) : ∃ b, OpsV W v b ∧ ∀ k, k < b.length → OpIn (opAt b k) := by
  rcases open_slice Try.underlying38 h with ⟨hcs, _⟩ | ⟨a, l, c, m, n, D, Pl, hcs, _, hl, hm, hmm, _, hx⟩
  · have hv : v = .slice none 0 0 := by simpa using hcs
    subst hv
    exact ⟨[], ⟨none, 0, rfl, Nat.le_refl _, Nat.zero_le _, fun hp => absurd hp (Nat.not_lt_zero _)⟩, fun k hk => absurd hk (Nat.not_lt_zero _)⟩
  · have hv : v = .slice (some a) l c := by simpa using hcs
    subst hv
    simp only [if_true] at hmm
    rw [hmm] at hx
    clear hmm
    rw [Try.c89] at hx
    obtain ⟨f, hf⟩ := pick_lt (n := l) (p := fun i (s : Kop) => (∀ j, j < 10 → W.cell? ((a.add (i * 10)).add j) = (kCells s)[j]?) ∧ OpIn s) Kop.nil (fun i hi => by
      obtain ⟨cs, h1, h2⟩ := hx i (by omega)
      obtain ⟨s, hs⟩ := op_cells_in h2
      exact ⟨s, fun j hj => by rw [(World.cells?_some h1).2.2 j hj]; exact hs.1 j hj, hs.2⟩)
    have hl2 : ((List.range l).map f).length = l := by simp
    refine ⟨(List.range l).map f, ⟨some a, c, by simp, by simpa using hl, hm, fun hp => ?_⟩, fun k hk => ?_⟩
    rotate_left
    · rw [hl2] at hk
      rw [opAt_map l f k hk]; exact (hf k hk).2
    rw [hl2] at hp ⊢
    obtain ⟨b, off, spot⟩ := a
    have h0 : W.cell? ((Addr.add ⟨b, off, spot⟩ (0 * 10)).add 0) = some (.int .i64 (f 0).sl) := (hf 0 hp).1 0 (by omega)
    have hs : spot = none := by simpa [Addr.add] using World.cell?_spot h0
    subst hs
    refine ⟨b, off, rfl, lt_of_cell h0, fun i hi j hj => ?_⟩
    rw [opAt_map l f i hi]
    rw [← add_at, ← add_at]
    exact (hf i hi).1 j hj
/-- a kernel, by value -/
theorem kern_open_in {r : Reach} {b0 : Nat} {v : Value} {d : DataW H} {p : List MemPlace} (hv : Value.okWide Try.prog W r b0 40 v) (h : DataW.Trod enc Try.prog W 0 (fun _ => true) held 40 v d p) : ∃ K, KernV W v K ∧ KernIn K := by
  obtain ⟨c0, c1, c2, y0, y1, y2, m, rfl, rfl, rfl, h0, h1, h2⟩ := open_agg3 Try.underlying40 (by kernel_rfl) Try.c40 hv h
  obtain ⟨pc, g0, -, b0⟩ := DataW.trod_int Try.underlying3 h0
  obtain ⟨st, g1, -, b1⟩ := DataW.trod_int Try.underlying3 h1
  obtain ⟨ops, g2, g3⟩ := ops_open_in h2
  have e0 : c0 = .int .i64 pc := by simpa using g0
  have e1 : c1 = .int .i64 st := by simpa using g1
  subst e0; subst e1
  exact ⟨⟨pc, st, ops⟩, ⟨c2, rfl, g2⟩, bounds_i64 b0, bounds_i64 b1, g3⟩
theorem bounds_u8 {z : Int} (h : (Lit.int .u8 z).wf = true) : 0 ≤ z ∧ z < 256 := by
  simp only [Lit.wf, Bool.and_eq_true, decide_eq_true_eq] at h
  exact ⟨h.1, Int.lt_of_le_of_lt h.2 (by decide)⟩
theorem bounds_u16 {z : Int} (h : (Lit.int .u16 z).wf = true) : 0 ≤ z ∧ z ≤ 65535 := by
  simp only [Lit.wf, Bool.and_eq_true, decide_eq_true_eq] at h
  exact ⟨h.1, Int.le_trans h.2 (by decide)⟩
/-- a slice of bytes, as an argument -/
theorem bytes_arg {r : Reach} {b0 : Nat} {v : Value} {d : DataW H} {p : List MemPlace} (hv : Value.okWide Try.prog W r b0 56 v) (h : DataW.Trod enc Try.prog W 0 (fun _ => true) held 56 v d p) : ∃ b, BytesV W v b := by
  obtain ⟨a0, l0, c0, rfl⟩ := slice_arg Try.underlying56 hv
  obtain ⟨fuel, hf⟩ := h
  rcases open_ints Try.underlying56 Try.underlying5 (by kernel_rfl) hf with ⟨hcs, _⟩ | ⟨a, l, c, zs, hcs, _, hl, hm, hz, _, hcell, hwz⟩
  · have e : Value.slice a0 l0 c0 = .slice none 0 0 := by simpa [Value.cells] using hcs
    rw [e]
    exact ⟨[], none, 0, rfl, Nat.le_refl _, Nat.zero_le _, fun i hi => absurd hi (Nat.not_lt_zero _), fun hp => absurd hp (Nat.not_lt_zero _)⟩
  · have e : Value.slice a0 l0 c0 = .slice (some a) l c := by simpa [Value.cells] using hcs
    rw [e]
    simp only [if_true] at hz
    have hlen : (zs.take l).length = l := by rw [List.length_take]; omega
    refine ⟨zs.take l, some a, c, by rw [hlen], by rw [hlen]; exact hl, hm, fun i hi => ?_, fun hp => ?_⟩
    · rw [hlen] at hi
      rw [nth_take zs l i hi]
      refine bounds_u8 (hwz _ ?_)
      rw [List.getD, List.getElem?_eq_getElem (by omega)]
      exact List.getElem_mem _
    · rw [hlen] at hp ⊢
      obtain ⟨b, off, spot⟩ := a
      have h0 := hcell 0 (by omega)
      have hs : spot = none := by simpa [Addr.add] using World.cell?_spot h0
      subst hs
      refine ⟨b, off, rfl, lt_of_cell h0, fun i hi => ?_⟩
      rw [nth_take zs l i hi]
      rw [← add_at]
      exact hcell i (by omega)
end
end Go.Proofs.Ytjdbmldkgjcniab
