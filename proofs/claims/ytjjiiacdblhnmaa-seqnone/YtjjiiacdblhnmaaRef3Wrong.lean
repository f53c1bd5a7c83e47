/- The contract of the document's own answer on what is wrong with a run; nothing that was there is changed. -/
import Derived.Test.YtjjiiacdblhnmaaRef2Fits
import Derived.Test.YtjjiiacdblhnmaaRef3Is
namespace Go.Proofs.Ytjjiiacdblhnmaa
open Go.RowKit Go.Joins
set_option linter.unusedVariables false

theorem nth_out (zs : List Int) (i : Nat) (h : ¬ i < zs.length) : nth zs i = 0 := by
  show (zs[i]?).getD 0 = 0
  rw [List.getElem?_eq_none (by omega)]; rfl
/-- what is read as rows is of 64 bits -/
theorem rows_in {w : World} {v : Value} {rs : List (List Int)} (h : IntRows w v rs) : RowsIn rs := by
  obtain ⟨a, cap, -, -, -, hc⟩ := h
  intro i j
  by_cases hi : i < rs.length
  · obtain ⟨b, off, -, -, hr⟩ := hc (by omega)
    obtain ⟨u, -, ⟨ra, rc, -, -, -, rr, -⟩⟩ := hr i hi
    by_cases hj : j < (rowAt rs i).length
    · exact rr j hj
    · rw [nth_out _ _ hj]; exact i64_0
  · have e : rowAt rs i = [] := by
      show (rs[i]?).getD [] = []
      rw [List.getElem?_eq_none (by omega)]; rfl
    rw [e, nth_out [] j (by simp)]; exact i64_0

set_option maxHeartbeats 400000 in
theorem wrong_any (v s : Value) (L : Lp) (B M : List (List Int)) (turns : Int) (w : World) (hL : LoopV w v L) (hS : StateV w s B M) :
    Calls Try.prog 19 #[v, s, .int .i64 turns] w fun e w' => e = .returned (.int .i64 (wrongV L B M turns)) ∧ Below w.heap.size w w' := by
  have h := hL
  have hs := hS
  obtain ⟨v0, v1, v2, rfl, -, -, -⟩ := h
  obtain ⟨s0, s1, rfl, -, -⟩ := hs
  cases hf : fitsB L B M with
  | false =>
    have HX : Hid (wrongV L B M turns = 2) := by show wrongV L B M turns = 2; unfold wrongV; rw [hf]; rfl
    go_enter Try.func19, Try.ntmps19
    go_wp2_with (go_at_call 17; refine (rfits_any _ _ L B M _ (LoopV.below hL (below_alloc2 _ _ _)) (StateV.below hS (below_alloc2 _ _ _))).mono ?_; rintro e w1 ⟨rfl, hb1⟩)
    go_ret
    exact ⟨ret_int HX.out.symm, (below_alloc2 _ _ _).trans (hb1.mono (by simp; omega))⟩
  | true =>
    by_cases h0 : turns < 0
    · have HX : Hid (wrongV L B M turns = 3) := by show wrongV L B M turns = 3; unfold wrongV; rw [if_pos hf, if_neg (by omega)]
      go_enter Try.func19, Try.ntmps19
      go_wp2_with (go_at_call 17; refine (rfits_any _ _ L B M _ (LoopV.below hL (below_alloc2 _ _ _)) (StateV.below hS (below_alloc2 _ _ _))).mono ?_; rintro e w1 ⟨rfl, hb1⟩)
      go_ret
      exact ⟨ret_int HX.out.symm, (below_alloc2 _ _ _).trans (hb1.mono (by simp; omega))⟩
    · by_cases h2 : 200 < turns
      · have HX : Hid (wrongV L B M turns = 3) := by show wrongV L B M turns = 3; unfold wrongV; rw [if_pos hf, if_neg (by omega)]
        go_enter Try.func19, Try.ntmps19
        go_wp2_with (go_at_call 17; refine (rfits_any _ _ L B M _ (LoopV.below hL (below_alloc2 _ _ _)) (StateV.below hS (below_alloc2 _ _ _))).mono ?_; rintro e w1 ⟨rfl, hb1⟩)
        go_ret
        exact ⟨ret_int HX.out.symm, (below_alloc2 _ _ _).trans (hb1.mono (by simp; omega))⟩
      · have HX : Hid (wrongV L B M turns = 0) := by show wrongV L B M turns = 0; unfold wrongV; rw [if_pos hf, if_pos (by omega)]
        go_enter Try.func19, Try.ntmps19
        go_wp2_with (go_at_call 17; refine (rfits_any _ _ L B M _ (LoopV.below hL (below_alloc2 _ _ _)) (StateV.below hS (below_alloc2 _ _ _))).mono ?_; rintro e w1 ⟨rfl, hb1⟩)
        go_ret
        exact ⟨ret_int HX.out.symm, (below_alloc2 _ _ _).trans (hb1.mono (by simp; omega))⟩
end Go.Proofs.Ytjjiiacdblhnmaa
