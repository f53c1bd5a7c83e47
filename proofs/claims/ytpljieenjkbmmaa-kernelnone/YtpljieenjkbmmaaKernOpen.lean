/- From a reading of an argument to a kernel in memory. -/
import Derived.Test.YtpljieenjkbmmaaKernS
import Derived.Test.YtpljieenjkbmmaaOpens
namespace Go.Proofs.Ytpljieenjkbmmaa
open Go.ChangeShapes Go.WideShapes Go.ChangeAt Go.RowKit Go.Joins Go.Deep
set_option linter.unusedVariables false
set_option maxRecDepth 8192

theorem Try.c68 : Try.prog.cellsOf 68 = 10 := by kernel_rfl
theorem Try.c53 : Try.prog.cellsOf 53 = 1 := by kernel_rfl
theorem Try.c55 : Try.prog.cellsOf 55 = 3 := by kernel_rfl

section
variable {H : Type} {enc : TypeId × Value → H} {W : World} {held : Bool}

def Kop.small (s : Kop) : Prop := -9223372036854775808 ≤ s.nn ∧ s.nn ≤ 9223372036854775807
/-- the ten cells of an Op -/
theorem op_cells {fuel : Nat} {cs : List Value} {x : DataW H × List MemPlace} (h : DataW.trod enc Try.prog W 0 (fun _ => true) held fuel 68 cs = some x) :
    ∃ s : Kop, (∀ j, j < 10 → cs[j]? = (kCells s)[j]?) ∧ s.small := by
  obtain ⟨xs, n, -, -, hl, hxl, hf⟩ := DataW.trod_struct Try.underlying68 h
  have gi : ∀ (i o : Nat) (f : Field) (t : TypeId), Try.prog.underlying t = some (.int .i64) → Try.prog.cellsOf t = 1 → f.type = t → f.offset = o → i < xs.length → DataW.trod enc Try.prog W 0 (fun _ => true) held n f.type ((cs.drop f.offset).take (Try.prog.cellsOf f.type)) = xs[i]? → ∃ z, cs[o]? = some (.int .i64 z) ∧ -9223372036854775808 ≤ z ∧ z ≤ 9223372036854775807 := by
    intro i o f t hu hc e1 e2 hi hx
    subst e1; subst e2
    rw [hc, List.getElem?_eq_getElem hi] at hx
    obtain ⟨z, hz, -, hw⟩ := DataW.trod_int hu hx
    exact ⟨z, take_one hz, bounds_i64 hw⟩
  have hx7 : xs.length = 10 := hxl
  obtain ⟨z0, h0, -⟩ := gi 0 0 _ 3 Try.underlying3 Try.c3 rfl rfl (by omega) (hf 0 _ rfl)
  obtain ⟨z1, h1, -⟩ := gi 1 1 _ 3 Try.underlying3 Try.c3 rfl rfl (by omega) (hf 1 _ rfl)
  obtain ⟨z2, h2, -⟩ := gi 2 2 _ 3 Try.underlying3 Try.c3 rfl rfl (by omega) (hf 2 _ rfl)
  obtain ⟨z3, h3, -⟩ := gi 3 3 _ 3 Try.underlying3 Try.c3 rfl rfl (by omega) (hf 3 _ rfl)
  obtain ⟨z4, h4, -⟩ := gi 4 4 _ 3 Try.underlying3 Try.c3 rfl rfl (by omega) (hf 4 _ rfl)
  obtain ⟨z5, h5, -⟩ := gi 5 5 _ 3 Try.underlying3 Try.c3 rfl rfl (by omega) (hf 5 _ rfl)
  obtain ⟨z6, h6, -⟩ := gi 6 6 _ 3 Try.underlying3 Try.c3 rfl rfl (by omega) (hf 6 _ rfl)
  obtain ⟨z7, h7, -⟩ := gi 7 7 _ 3 Try.underlying3 Try.c3 rfl rfl (by omega) (hf 7 _ rfl)
  obtain ⟨z8, h8, -⟩ := gi 8 8 _ 3 Try.underlying3 Try.c3 rfl rfl (by omega) (hf 8 _ rfl)
  obtain ⟨z9, h9, hin⟩ := gi 9 9 _ 2 Try.underlying2 Try.c2 rfl rfl (by omega) (hf 9 _ rfl)
  refine ⟨⟨z0, z1, z2, z3, z4, z5, z6, z7, z8, z9⟩, fun j hj => ?_, hin⟩
  have hj9 : j = 0 ∨ j = 1 ∨ j = 2 ∨ j = 3 ∨ j = 4 ∨ j = 5 ∨ j = 6 ∨ j = 7 ∨ j = 8 ∨ j = 9 := by omega
  rcases hj9 with rfl | rfl | rfl | rfl | rfl | rfl | rfl | rfl | rfl | rfl
  · exact h0
  · exact h1
  · exact h2
  · exact h3
  · exact h4
  · exact h5
  · exact h6
  · exact h7
  · exact h8
  · exact h9
theorem opAt_map (n : Nat) (f : Nat → Kop) (i : Nat) (h : i < n) : opAt ((List.range n).map f) i = f i := by
  unfold opAt; simp [List.getD, h]
/-- a slice of Ops -/
theorem ops_open {fuel : Nat} {v : Value} {x : DataW H × List MemPlace} (h : DataW.trod enc Try.prog W 0 (fun _ => true) held fuel 53 [v] = some x) : ∃ b, OpsV W v b ∧ ∀ s ∈ b, s.small := by
  rcases open_slice Try.underlying53 h with ⟨hcs, _⟩ | ⟨a, l, c, m, n, D, Pl, hcs, _, hl, hm, hmm, _, hx⟩
  · have hv : v = .slice none 0 0 := by simpa using hcs
    subst hv
    exact ⟨[], ⟨none, 0, rfl, Nat.le_refl _, Nat.zero_le _, fun hp => absurd hp (Nat.not_lt_zero _)⟩, fun s hs => absurd hs (by simp)⟩
  · have hv : v = .slice (some a) l c := by simpa using hcs
    subst hv
    simp only [if_true] at hmm
    rw [hmm] at hx
    clear hmm
    rw [Try.c68] at hx
    obtain ⟨f, hf⟩ := pick_lt (n := l) (p := fun i (s : Kop) => (∀ j, j < 10 → W.cell? ((a.add (i * 10)).add j) = (kCells s)[j]?) ∧ s.small) Kop.nil (fun i hi => by
      obtain ⟨cs, h1, h2⟩ := hx i (by omega)
      obtain ⟨s, hs⟩ := op_cells h2
      exact ⟨s, fun j hj => by rw [(World.cells?_some h1).2.2 j hj]; exact hs.1 j hj, hs.2⟩)
    refine ⟨(List.range l).map f, ⟨some a, c, by simp, by simpa using hl, hm, fun hp => ?_⟩, fun s hs => ?_⟩
    rotate_left
    · obtain ⟨i, hi, rfl⟩ := List.mem_map.1 hs
      exact (hf i (List.mem_range.1 hi)).2
    have hl2 : ((List.range l).map f).length = l := by simp
    rw [hl2] at hp ⊢
    obtain ⟨b, off, spot⟩ := a
    have h0 : W.cell? ((Addr.add ⟨b, off, spot⟩ (0 * 10)).add 0) = some (.int .i64 (f 0).sl) := (hf 0 hp).1 0 (by omega)
    have hs : spot = none := by simpa [Addr.add] using World.cell?_spot h0
    subst hs
    refine ⟨b, off, rfl, lt_of_cell h0, fun i hi j hj => ?_⟩
    rw [opAt_map l f i hi]
    rw [← add_at, ← add_at]
    exact (hf i hi).1 j hj
/-- a kernel, by value -/
theorem kern_open {r : Reach} {b0 : Nat} {v : Value} {d : DataW H} {p : List MemPlace} (hv : Value.okWide Try.prog W r b0 55 v) (h : DataW.Trod enc Try.prog W 0 (fun _ => true) held 55 v d p) : ∃ K, KernV W v K ∧ ∀ s ∈ K.ops, s.small := by
  obtain ⟨c0, c1, c2, y0, y1, y2, m, rfl, rfl, rfl, h0, h1, h2⟩ := open_agg3 Try.underlying55 (by kernel_rfl) Try.c55 hv h
  obtain ⟨pc, g0, -⟩ := DataW.trod_int Try.underlying3 h0
  obtain ⟨st, g1, -⟩ := DataW.trod_int Try.underlying3 h1
  obtain ⟨ops, g2, g3⟩ := ops_open h2
  have e0 : c0 = .int .i64 pc := by simpa using g0
  have e1 : c1 = .int .i64 st := by simpa using g1
  subst e0; subst e1
  exact ⟨⟨pc, st, ops⟩, ⟨c2, rfl, g2⟩, g3⟩
theorem slice_arg {P : Program} {r : Reach} {b0 : Nat} {t e : TypeId} {v : Value} (ht : P.underlying t = some (.slice e)) (h : Value.okWide P W r b0 t v) : ∃ a l c, v = .slice a l c := by
  simp only [Value.okWide, ht, Cell.okWide] at h
  cases v <;> simp_all [Cell.ok]
/-- a slice of numbers, as an argument -/
theorem ints_arg {r : Reach} {b0 : Nat} {v : Value} {d : DataW H} {p : List MemPlace} (hv : Value.okWide Try.prog W r b0 36 v) (h : DataW.Trod enc Try.prog W 0 (fun _ => true) held 36 v d p) : ∃ zs, Ints W v zs := by
  obtain ⟨a, l, c, rfl⟩ := slice_arg Try.underlying36 hv
  obtain ⟨fuel, hf⟩ := h
  exact ints_open Try.underlying36 Try.underlying2 Try.c2 hf
/-- a slice of rows, as an argument -/
theorem rows_arg {r : Reach} {b0 : Nat} {v : Value} {d : DataW H} {p : List MemPlace} (hv : Value.okWide Try.prog W r b0 31 v) (h : DataW.Trod enc Try.prog W 0 (fun _ => true) held 31 v d p) :
    ∃ rs, IntRows W v rs ∧ (rs = [] ∨ ∃ es sp, d = .slice es sp ∧ es.length = rs.length) := by
  obtain ⟨a, l, c, rfl⟩ := slice_arg Try.underlying31 hv
  obtain ⟨fuel, hf⟩ := h
  have hf' : DataW.trod enc Try.prog W 0 (fun _ => true) held fuel 31 [.slice a l c] = some (d, p) := hf
  obtain ⟨rs, hr⟩ := rows_open hf'
  refine ⟨rs, hr, ?_⟩
  obtain ⟨a0, cap0, hv0, _⟩ := hr
  injection hv0 with e1 e2 e3
  rcases open_slice1 Try.underlying31 Try.c36 hf' with ⟨hcs, _⟩ | ⟨a', l', c', m, n, V, D, Pl, hcs, _, _, _, _, hx, _⟩
  · have h1 : Value.slice a l c = .slice none 0 0 := by simpa using hcs
    injection h1 with f1 f2 f3
    exact .inl (List.eq_nil_of_length_eq_zero (by omega))
  · have h1 : Value.slice a l c = .slice (some a') l' c' := by simpa using hcs
    injection h1 with f1 f2 f3
    injection hx with g1 g2
    exact .inr ⟨_, _, g1, by simp; omega⟩
end
end Go.Proofs.Ytpljieenjkbmmaa
