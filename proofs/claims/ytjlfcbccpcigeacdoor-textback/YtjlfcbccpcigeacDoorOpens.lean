/- Opens: texts that are built as one: LoopOpen, TargetOpen, KernOpen, NumsOpen. -/
import Derived.Test.YtjlfcbccpcigeacDoorLoopP
import Derived.ProofKit
import Derived.OpenShut
import Derived.Deep.Slices
import Derived.Lib.SmallJoins
import Derived.Test.YtjlfcbccpcigeacDoorRef6A
import Derived.Test.YtjlfcbccpcigeacDoorKernS
/- From a reading of the arguments to a loop and a state in memory. -/
namespace Go.Proofs.YtjlfcbccpcigeacDoor
open Go.ChangeShapes Go.WideShapes Go.ChangeAt Go.RowKit Go.Joins Go.Deep
set_option linter.unusedVariables false
set_option maxRecDepth 8192

theorem Tryd.c3 : Tryd.prog.cellsOf 3 = 1 := by kernel_rfl
theorem Tryd.c2 : Tryd.prog.cellsOf 2 = 1 := by kernel_rfl
theorem Tryd.c51 : Tryd.prog.cellsOf 51 = 2 := by kernel_rfl
theorem Tryd.c53 : Tryd.prog.cellsOf 53 = 9 := by kernel_rfl
theorem Tryd.c25 : Tryd.prog.cellsOf 25 = 3 := by kernel_rfl
theorem lt_of_cell {w : World} {a : Addr} {u : Value} (h : w.cell? a = some u) : a.block < w.heap.size := by
  unfold World.cell? at h
  cases e : w.heap[a.block]? with
  | none => rw [e] at h; cases h
  | some x => exact (Array.getElem?_eq_some_iff.1 e).1

theorem add_at (b off i : Nat) : (⟨b, off, none⟩ : Addr).add i = ⟨b, off + i, none⟩ := by simp [Addr.add]
theorem nth_take (zs : List Int) (n i : Nat) (h : i < n) : nth (zs.take n) i = zs.getD i 0 := by
  unfold nth; simp [List.getD, h]

section
variable {H : Type} {enc : TypeId × Value → H} {W : World} {held : Bool}

/-- a slice of whole numbers of 64 bits -/
theorem ints_open {P : Program} {t e : TypeId} {fuel : Nat} {v : Value} {x : DataW H × List MemPlace} (ht : P.underlying t = some (.slice e)) (he : P.underlying e = some (.int .i64)) (hc : P.cellsOf e = 1)
    (h : DataW.trod enc P W 0 (fun _ => true) held fuel t [v] = some x) : ∃ zs, Ints W v zs := by
  rcases open_ints ht he hc h with ⟨hcs, _⟩ | ⟨a, l, c, zs, hcs, _, hl, hm, hz, _, hcell, hwz⟩
  · have hv : v = .slice none 0 0 := by simpa using hcs
    subst hv
    exact ⟨[], none, 0, rfl, Nat.le_refl _, Nat.zero_le _, fun i hi => absurd hi (Nat.not_lt_zero _), fun hp => absurd hp (Nat.not_lt_zero _)⟩
  · have hv : v = .slice (some a) l c := by simpa using hcs
    subst hv
    simp only [if_true] at hz
    have hlen : (zs.take l).length = l := by rw [List.length_take]; omega
    refine ⟨zs.take l, some a, c, by rw [hlen], by rw [hlen]; exact hl, hm, fun i hi => ?_, fun hp => ?_⟩
    · rw [hlen] at hi
      rw [nth_take zs l i hi]
      refine bounds_i64 (hwz _ ?_)
      rw [List.getD, List.getElem?_eq_getElem (by omega)]
      exact List.getElem_mem _
    · rw [hlen] at hp ⊢
      obtain ⟨b, off, spot⟩ := a
      have h0 := hcell 0 (by omega)
      have hs : spot = none := by simpa [Addr.add] using World.cell?_spot h0
      subst hs
      refine ⟨b, off, rfl, lt_of_cell h0, fun i hi => ?_⟩
      rw [nth_take zs l i hi]
      rw [← add_at]
      exact hcell i (by omega)

theorem take_one {cs : List Value} {o : Nat} {v : Value} (h : (cs.drop o).take 1 = [v]) : cs[o]? = some v := by
  have h1 : ((cs.drop o).take 1)[0]? = some v := by rw [h]; rfl
  simpa [List.getElem?_take, List.getElem?_drop] using h1

/-- the nine cells of a statement -/
theorem stmt_cells {fuel : Nat} {cs : List Value} {x : DataW H × List MemPlace} (h : DataW.trod enc Tryd.prog W 0 (fun _ => true) held fuel 53 cs = some x) :
    ∃ s : St, (∀ j, j < 9 → cs[j]? = (stCells s)[j]?) ∧ -9223372036854775808 ≤ s.nn ∧ s.nn ≤ 9223372036854775807 := by
  obtain ⟨xs, n, -, -, hl, hxl, hf⟩ := DataW.trod_struct Tryd.underlying53 h
  have gi : ∀ (i o : Nat) (f : Field) (t : TypeId), Tryd.prog.underlying t = some (.int .i64) → Tryd.prog.cellsOf t = 1 → f.type = t → f.offset = o → i < xs.length → DataW.trod enc Tryd.prog W 0 (fun _ => true) held n f.type ((cs.drop f.offset).take (Tryd.prog.cellsOf f.type)) = xs[i]? → ∃ z, cs[o]? = some (.int .i64 z) ∧ -9223372036854775808 ≤ z ∧ z ≤ 9223372036854775807 := by
    intro i o f t hu hc e1 e2 hi hx
    subst e1; subst e2
    rw [hc, List.getElem?_eq_getElem hi] at hx
    obtain ⟨z, hz, -, hw⟩ := DataW.trod_int hu hx
    exact ⟨z, take_one hz, bounds_i64 hw⟩
  have gr : ∀ (i o : Nat) (f : Field), f.type = 51 → f.offset = o → i < xs.length → DataW.trod enc Tryd.prog W 0 (fun _ => true) held n f.type ((cs.drop f.offset).take (Tryd.prog.cellsOf f.type)) = xs[i]? → ∃ y z, cs[o]? = some (.int .i64 y) ∧ cs[o + 1]? = some (.int .i64 z) := by
    intro i o f e1 e2 hi hx
    rw [e1, e2, Tryd.c51, List.getElem?_eq_getElem hi] at hx
    obtain ⟨ys, m, -, -, -, hyl, hg⟩ := DataW.trod_struct Tryd.underlying51 hx
    have g0 : DataW.trod enc Tryd.prog W 0 (fun _ => true) held m 3 ((((cs.drop o).take 2).drop 0).take (Tryd.prog.cellsOf 3)) = ys[0]? := hg 0 _ rfl
    have g1 : DataW.trod enc Tryd.prog W 0 (fun _ => true) held m 3 ((((cs.drop o).take 2).drop 1).take (Tryd.prog.cellsOf 3)) = ys[1]? := hg 1 _ rfl
    have hy2 : ys.length = 2 := hyl
    rw [Tryd.c3, List.getElem?_eq_getElem (by omega)] at g0 g1
    obtain ⟨y, hy, -⟩ := DataW.trod_int Tryd.underlying3 g0
    obtain ⟨z, hz, -⟩ := DataW.trod_int Tryd.underlying3 g1
    refine ⟨y, z, ?_, ?_⟩
    · have := take_one hy
      simpa [List.getElem?_take, List.getElem?_drop] using this
    · have := take_one hz
      simpa [List.getElem?_take, List.getElem?_drop] using this
  have hx7 : xs.length = 7 := hxl
  obtain ⟨o, ho, -⟩ := gi 0 0 _ 3 Tryd.underlying3 Tryd.c3 rfl rfl (by omega) (hf 0 _ rfl)
  obtain ⟨xa, xb, hxa, hxb⟩ := gr 1 1 _ rfl rfl (by omega) (hf 1 _ rfl)
  obtain ⟨ya, yb, hya, hyb⟩ := gr 2 3 _ rfl rfl (by omega) (hf 2 _ rfl)
  obtain ⟨ar, har, -⟩ := gi 3 5 _ 3 Tryd.underlying3 Tryd.c3 rfl rfl (by omega) (hf 3 _ rfl)
  obtain ⟨sp, hsp, -⟩ := gi 4 6 _ 3 Tryd.underlying3 Tryd.c3 rfl rfl (by omega) (hf 4 _ rfl)
  obtain ⟨pl, hpl, -⟩ := gi 5 7 _ 3 Tryd.underlying3 Tryd.c3 rfl rfl (by omega) (hf 5 _ rfl)
  obtain ⟨nn, hnn, hin⟩ := gi 6 8 _ 2 Tryd.underlying2 Tryd.c2 rfl rfl (by omega) (hf 6 _ rfl)
  refine ⟨⟨o, xa, xb, ya, yb, ar, sp, pl, nn⟩, fun j hj => ?_, hin⟩
  have hj9 : j = 0 ∨ j = 1 ∨ j = 2 ∨ j = 3 ∨ j = 4 ∨ j = 5 ∨ j = 6 ∨ j = 7 ∨ j = 8 := by omega
  rcases hj9 with rfl | rfl | rfl | rfl | rfl | rfl | rfl | rfl | rfl
  · exact ho
  · exact hxa
  · exact hxb
  · exact hya
  · exact hyb
  · exact har
  · exact hsp
  · exact hpl
  · exact hnn

theorem stAt_map (n : Nat) (f : Nat → St) (i : Nat) (h : i < n) : stAt ((List.range n).map f) i = f i := by
  unfold stAt; simp [List.getD, h]
theorem pick_lt {α : Type} (d : α) {n : Nat} {p : Nat → α → Prop} (h : ∀ i, i < n → ∃ x, p i x) : ∃ f : Nat → α, ∀ i, i < n → p i (f i) := by
  refine ⟨fun i => if hi : i < n then Classical.choose (h i hi) else d, fun i hi => ?_⟩
  simp only [dif_pos hi]
  exact Classical.choose_spec (h i hi)

theorem nn_nil (l : List St) (k : Nat) (h : l.length ≤ k) : -9223372036854775808 ≤ (stAt l k).nn ∧ (stAt l k).nn ≤ 9223372036854775807 := by
  have e : stAt l k = St.nil := by
    show (l[k]?).getD St.nil = St.nil
    rw [List.getElem?_eq_none h]; rfl
  rw [e]
  show -9223372036854775808 ≤ (0 : Int) ∧ (0 : Int) ≤ 9223372036854775807
  omega
/-- a slice of statements -/
theorem stmts_open {fuel : Nat} {v : Value} {x : DataW H × List MemPlace} (h : DataW.trod enc Tryd.prog W 0 (fun _ => true) held fuel 23 [v] = some x) : ∃ b, Stmts W v b ∧ ∀ k, -9223372036854775808 ≤ (stAt b k).nn ∧ (stAt b k).nn ≤ 9223372036854775807 := by
  rcases open_slice Tryd.underlying23 h with ⟨hcs, _⟩ | ⟨a, l, c, m, n, D, Pl, hcs, _, hl, hm, hmm, _, hx⟩
  · have hv : v = .slice none 0 0 := by simpa using hcs
    subst hv
    exact ⟨[], ⟨none, 0, rfl, Nat.le_refl _, Nat.zero_le _, fun hp => absurd hp (Nat.not_lt_zero _)⟩, fun k => nn_nil _ _ (Nat.zero_le k)⟩
  · have hv : v = .slice (some a) l c := by simpa using hcs
    subst hv
    simp only [if_true] at hmm
    rw [hmm] at hx
    clear hmm
    rw [Tryd.c53] at hx
    obtain ⟨f, hf⟩ := pick_lt (n := l) (p := fun i (s : St) => (∀ j, j < 9 → W.cell? ((a.add (i * 9)).add j) = (stCells s)[j]?) ∧ -9223372036854775808 ≤ s.nn ∧ s.nn ≤ 9223372036854775807) St.nil (fun i hi => by
      obtain ⟨cs, h1, h2⟩ := hx i (by omega)
      obtain ⟨s, hs⟩ := stmt_cells h2
      exact ⟨s, fun j hj => by rw [(World.cells?_some h1).2.2 j hj]; exact hs.1 j hj, hs.2⟩)
    refine ⟨(List.range l).map f, ⟨some a, c, by simp, by simpa using hl, hm, fun hp => ?_⟩, fun k => ?_⟩
    rotate_left
    · by_cases hk : k < l
      · rw [stAt_map l f k hk]; exact (hf k hk).2
      · exact nn_nil _ _ (by simpa using hk)
    have hl2 : ((List.range l).map f).length = l := by simp
    rw [hl2] at hp ⊢
    obtain ⟨b, off, spot⟩ := a
    have h0 : W.cell? ((Addr.add ⟨b, off, spot⟩ (0 * 9)).add 0) = some (.int .i64 (f 0).o) := (hf 0 hp).1 0 (by omega)
    have hs : spot = none := by simpa [Addr.add] using World.cell?_spot h0
    subst hs
    refine ⟨b, off, rfl, lt_of_cell h0, fun i hi j hj => ?_⟩
    rw [stAt_map l f i hi]
    rw [← add_at, ← add_at]
    exact (hf i hi).1 j hj

/-- a loop, by value -/
theorem loop_open_in {r : Reach} {b0 : Nat} {v : Value} {d : DataW H} {p : List MemPlace} (hv : Value.okWide Tryd.prog W r b0 25 v) (h : DataW.Trod enc Tryd.prog W 0 (fun _ => true) held 25 v d p) : ∃ L, LoopV W v L ∧ ∀ k, -9223372036854775808 ≤ (stAt L.body k).nn ∧ (stAt L.body k).nn ≤ 9223372036854775807 := by
  obtain ⟨c0, c1, c2, y0, y1, y2, m, rfl, rfl, rfl, h0, h1, h2⟩ := open_agg3 Tryd.underlying25 (by kernel_rfl) Tryd.c25 hv h
  obtain ⟨logs, g0⟩ := ints_open Tryd.underlying22 Tryd.underlying3 Tryd.c3 h0
  obtain ⟨body, g1, g3⟩ := stmts_open h1
  obtain ⟨outs, g2⟩ := ints_open Tryd.underlying22 Tryd.underlying3 Tryd.c3 h2
  exact ⟨⟨logs, body, outs⟩, ⟨c0, c1, c2, rfl, g0, g1, g2⟩, g3⟩
end
end Go.Proofs.YtjlfcbccpcigeacDoor
/- From a reading of an argument to a machine. -/
namespace Go.Proofs.YtjlfcbccpcigeacDoor
open Go.ChangeShapes Go.WideShapes Go.ChangeAt Go.RowKit Go.Joins Go.Deep
set_option linter.unusedVariables false
set_option maxRecDepth 8192

section
variable {H : Type} {enc : TypeId × Value → H} {W : World} {held : Bool}

end
end Go.Proofs.YtjlfcbccpcigeacDoor
/- From a reading of an argument to a kernel in memory. -/
namespace Go.Proofs.YtjlfcbccpcigeacDoor
open Go.ChangeShapes Go.WideShapes Go.ChangeAt Go.RowKit Go.Joins Go.Deep
set_option linter.unusedVariables false
set_option maxRecDepth 8192

section
variable {H : Type} {enc : TypeId × Value → H} {W : World} {held : Bool}

end
end Go.Proofs.YtjlfcbccpcigeacDoor
/- From a reading of an argument to a slice of whole numbers in memory. -/
namespace Go.Proofs.YtjlfcbccpcigeacDoor
open Go.ChangeShapes Go.WideShapes Go.ChangeAt Go.RowKit Go.Joins Go.Deep
set_option linter.unusedVariables false
set_option maxRecDepth 8192
section
variable {H : Type} {enc : TypeId × Value → H} {W : World} {held : Bool}
end
end Go.Proofs.YtjlfcbccpcigeacDoor
