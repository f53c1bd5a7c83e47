/- The contracts of slices.Clone and slices.Reverse at the numbers that the program hands them. -/
import Derived.Test.YtjjiiacdblhnmaaRef3Copy
import Derived.Test.YtjjiiacdblhnmaaRowx
import Derived.Lib.SliceRun
namespace Go.Proofs.Ytjjiiacdblhnmaa
open Go.RowKit Go.Joins
set_option linter.unusedVariables false

set_option maxHeartbeats 1000000 in
theorem clone_any (v : Value) (zs : List Int) (w : World) (h : Ints w v zs) (h0 : 0 < zs.length) (h32 : zs.length ≤ 32) :
    Calls Try.prog 44 #[v] w fun e w' => ∃ g cap, e = .returned (.slice (some ⟨g, 0, none⟩) zs.length cap) ∧ w.heap.size ≤ g ∧ cap ≤ maxLen ∧
      RowX w' g 2 cap zs.length (fun j => .int .i64 (nth zs j)) ∧ Below w.heap.size w w' := by
  obtain ⟨a, rc, rfl, hl, hm, hr, hc⟩ := h
  unfold maxLen at hm
  obtain ⟨b2, o2, rfl, hb2, hcell2⟩ := hc h0
  obtain ⟨i0, hi, hz0, hz1, hz2⟩ := info_parts Try.i2
  have hq : ∀ (w : World) (a : Option Addr) (n c n' c' : Nat), (binOp .eql 36 (.slice a n c) (.slice none n' c')).run Try.prog w = .ok (.bool a.isNone) w := fun w a n c n' c' => Lib.run_eql_slice_nil w _ _ a n c n' c' Try.underlying36
  have hbe : Below w.heap.size w (w.alloc (.cells #[] 2)) := below_alloc1 _ _
  have N1 : Hid ((zs.map (Value.int .i64)).length = zs.length * 1) := by show _ = _; simp
  have N2 : Hid (∀ j u, (zs.map (Value.int .i64))[j]? = some u → (w.alloc (.cells #[] 2)).cell? ((⟨b2, o2, none⟩ : Addr).add j) = some u) := row_cells (fun i hi => by
    rw [bcell hbe _ _ hb2]; exact hcell2 i hi)
  have N3 := hide (ints_one zs)
  clear hc hcell2 hr
  go_enter Try.func44, Try.ntmps44
  go_wp2_with (at_builtin; refine wpList_append_own _ rfl (.tmp 5) (.tmp 6) 36 rfl w.heap.size 2 i0 (.int .i64 0) 1 8 Try.underlying36 hi hz0 hz1 hz2 rfl (by decide) _ _ _ rfl (own_empty w 2) ⟨b2, o2, none⟩ _ rc _ rfl N1.out N2.out N3.out (by unfold maxLen; omega) (by omega) (by simp) ?_; intro v1 w1 hown1 hgrow1 hnil1; obtain ⟨g1, cap1, rfl, -, -, -, -⟩ := own_parts hown1 (.inr (by omega)); go_must (have HB1 := below_empty hgrow1); have HO1 := hide hown1; clear hown1)
  go_ret
  simp only [Nat.zero_add] at HO1 ⊢
  obtain ⟨h1, h2, h3⟩ := own_x HO1.out
  refine ⟨g1, cap1, rfl, h1, h2, h3.congr fun j hj => ?_, HB1⟩
  rw [List.nil_append]
  exact getD_ints zs j hj

/-- the order of three is turned about -/
def turn3 (f : Nat → Int) : Nat → Int := fun j => if j = 0 then f 2 else if j = 2 then f 0 else f j
set_option maxHeartbeats 1000000 in
theorem reverse_any (g cap : Nat) (f : Nat → Int) (w : World) (h : RowX w g 2 cap 3 (fun j => .int .i64 (f j))) (hm : cap ≤ maxLen) :
    Calls Try.prog 45 #[.slice (some ⟨g, 0, none⟩) 3 cap] w fun e w' => e = .returned (.tuple #[]) ∧ RowX w' g 2 cap 3 (fun j => .int .i64 (turn3 f j)) ∧ ∀ B, B ≤ g → Below B w w' := by
  unfold maxLen at hm
  have c0 := h.row.cell (i := 0) (by omega)
  have c2 := h.row.cell (i := 2) (by omega)
  have f0 := h.row.frozen 0
  have f2 := h.row.frozen 2
  have hle := h.le
  have HX := hide h
  clear h
  go_enter Try.func45, Try.ntmps45
  go_wp2_with fail
  go_loopw [2, 3] (fun i j wr => (i = .int .i64 0 ∧ j = .int .i64 2 ∧ wr = w) ∨ (i = .int .i64 1 ∧ j = .int .i64 1 ∧ RowX wr g 2 cap 3 (fun j => .int .i64 (turn3 f j)) ∧ ∀ B, B ≤ g → Below B w wr)) (fun i _ _ => 2 - (intOf i).toNat)
  case atStart => exact .inl ⟨rfl, rfl, rfl⟩
  case round =>
    rcases hrel with ⟨rfl, rfl, rfl⟩ | ⟨rfl, rfl, hx, hk⟩
    · go_wp2_with fail
      go_region
      go_wp2_with fail
      go_roundw
      case rel =>
        refine .inr ⟨rfl, rfl, ?_, fun B hB => ?_⟩
        · have h := ((HX.out.set 0 (.int .i64 (f 2)) (by omega)).set 2 (.int .i64 (f 0)) (by omega))
          refine RowX.congr h fun j hj => ?_
          unfold turn3
          by_cases e0 : j = 0
          · subst e0; rfl
          · by_cases e2 : j = 2
            · subst e2; rfl
            · simp [e0, e2]
        · exact (((Below.refl _ _).setCell (by show B ≤ g; exact hB) _).setCell (by show B ≤ g; exact hB) _).drew
      case measure => simp [intOf]
    · have HX2 := hide hx
      have HK := hide hk
      clear hx hk
      go_wp2_with fail
      go_end0
      exact ⟨rfl, HX2.out, HK.out⟩
end Go.Proofs.Ytjjiiacdblhnmaa
