/- The contract of the document's own reading of a Ref: what it is in a turn; nothing that was there is changed. -/
import Derived.Test.YtjjiiacdblhnmaaLoopState
import Derived.Test.YtjjiiacdblhnmaaSeqMath
import Derived.Deep.QuietTactic
import Derived.BigQuiet
namespace Go.Proofs.Ytjjiiacdblhnmaa
open Go.RowKit Go.Joins
set_option linter.unusedVariables false

theorem i64_is (x : Int) (h0 : -9223372036854775808 ≤ x) (h1 : x ≤ 9223372036854775807) : IntKind.i64.wrap x = x := by rw [IntKind.wrap_i64]; omega

/-- v leads to rows of n numbers each: the first T of its len cells read as val -/
def GridR (w : World) (v : Value) (len T n : Nat) (val : Nat → Nat → Int) : Prop :=
  ∃ g cap, v = .slice (some ⟨g, 0, none⟩) len cap ∧ len ≤ cap ∧ cap ≤ maxLen ∧ g < w.heap.size ∧
    ∀ i, i < T → ∃ b c, w.cell? ⟨g, i, none⟩ = some (.slice (some ⟨b, 0, none⟩) n c) ∧ n ≤ c ∧ c ≤ maxLen ∧ b < w.heap.size ∧ ∀ k, k < n → w.cell? ⟨b, k, none⟩ = some (.int .i64 (val i k))
theorem GridR.below {w w' : World} {v : Value} {len T n : Nat} {val : Nat → Nat → Int} (h : GridR w v len T n val) (hb : Below w.heap.size w w') : GridR w' v len T n val := by
  obtain ⟨g, cap, e, h1, h2, h3, h4⟩ := h
  refine ⟨g, cap, e, h1, h2, Nat.lt_of_lt_of_le h3 hb.size, fun i hi => ?_⟩
  obtain ⟨b, c, h5, h6, h7, h8, h9⟩ := h4 i hi
  exact ⟨b, c, by rw [bcell hb _ _ h3]; exact h5, h6, h7, Nat.lt_of_lt_of_le h8 hb.size, fun k hk => by rw [bcell hb _ _ h8]; exact h9 k hk⟩

set_option maxHeartbeats 400000 in
theorem is_any (sv gv : Value) (B M : List (List Int)) (len n t : Nat) (val : Nat → Nat → Int) (x y : Int) (w : World) (hS : StateV w sv B M) (hG : GridR w gv len (t + 1) n val)
    (ht : t < len) (hl : len ≤ 200) (hx0 : 0 ≤ x) (hx : x < n) (hn : n ≤ 16) (hy0 : 0 ≤ y) (hy : y ≤ 3) (hB : B.length = n) (hB3 : ∀ i, i < n → (rowAt B i).length = 3) :
    Calls Try.prog 39 #[sv, gv, .agg #[.int .i64 x, .int .i64 y], .int .i64 t] w fun e w' => e = .returned (.int .i64 (refV B val t x y)) ∧ Below w.heap.size w w' := by
  obtain ⟨a, rfl⟩ := Int.eq_ofNat_of_zero_le hx0
  obtain ⟨d, rfl⟩ := Int.eq_ofNat_of_zero_le hy0
  obtain ⟨s0, s1, rfl, hr0, -⟩ := hS
  obtain ⟨ba, bc, rfl, bl, bm, bcell'⟩ := hr0
  obtain ⟨g, cap, rfl, gl, gm, gz, grow⟩ := hG
  clear hx0 hy0
  unfold maxLen at bm gm
  by_cases hd : d ≤ t
  · obtain ⟨i, hi⟩ : ∃ i, t = d + i := ⟨t - d, by omega⟩
    have HV : Hid (refV B val t a d = val i a) := by
      show refV B val t a d = val i a
      unfold refV; rw [if_pos (by omega), show ((t : Int) - (d : Int)).toNat = i from by omega, Int.toNat_natCast]
    obtain ⟨b, c, c1, c2, c3, c4, c5⟩ := grow i (by omega)
    have ca := c5 a (by omega)
    have e1 : (t : Int) - (d : Int) = (i : Int) := by omega
    have e2 : (i : Int) < (len : Int) := by omega
    have e3 : (a : Int) < (n : Int) := by omega
    have e4 : (0 : Int) ≤ (i : Int) := by omega
    unfold maxLen at c3
    clear c5 grow bcell' hi hB3 hB
    go_enter Try.func39, Try.ntmps39
    go_wp2_with fail
    go_quiet ((fail))
    go_wp2_with fail
    go_ret
    exact ⟨ret_int HV.out.symm, (below_alloc2 _ _ _).trans (below_draws _ _ _)⟩
  · obtain ⟨i, hi⟩ : ∃ i, d = t + 1 + i := ⟨d - t - 1, by omega⟩
    have HV : Hid (refV B val t a d = nth (rowAt B a) i) := by
      show refV B val t a d = nth (rowAt B a) i
      unfold refV; rw [if_neg (by omega), show ((d : Int) - (t : Int) - 1).toNat = i from by omega, Int.toNat_natCast]
    obtain ⟨b, o, rfl, hb, hrow⟩ := bcell' (by omega)
    obtain ⟨u, c1, ⟨ra, rc, rfl, rl, rm, rr, rcell⟩⟩ := hrow a (by omega)
    have h3 := hB3 a (by omega)
    obtain ⟨b2, o2, rfl, hb2, hrow2⟩ := rcell (by omega)
    have ci := hrow2 i (by omega)
    have e1 : (t : Int) - (d : Int) = -((i : Int) + 1) := by omega
    have e2 : (i : Int) < ((rowAt B a).length : Int) := by omega
    have e3 : (a : Int) < (B.length : Int) := by omega
    have e4 : ¬ (0 : Int) ≤ -((i : Int) + 1) := by omega
    unfold maxLen at rm
    clear hrow2 hrow rcell bcell' grow hi hB3 hB rr
    go_enter Try.func39, Try.ntmps39
    go_wp2_with fail
    go_ret
    exact ⟨ret_int HV.out.symm, below_alloc2 _ _ _⟩

/-- what the document says is wrong: C1 -/
def wrongV (L : Lp) (B M : List (List Int)) (turns : Int) : Int := if fitsB L B M = true then (if 0 ≤ turns ∧ turns ≤ 200 then 0 else 3) else 2
end Go.Proofs.Ytjjiiacdblhnmaa
