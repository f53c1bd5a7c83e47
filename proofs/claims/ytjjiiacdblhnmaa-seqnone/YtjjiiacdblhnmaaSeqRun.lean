/- The contract of the program's run of a loop: the Result that the document says, or what is wrong; nothing that was there is changed. -/
import Derived.Test.YtjjiiacdblhnmaaSeqBegin
import Derived.Test.YtjjiiacdblhnmaaSeqDo
import Derived.Test.YtjjiiacdblhnmaaSeqResult
import Derived.Test.YtjjiiacdblhnmaaLoopFits
namespace Go.Proofs.Ytjjiiacdblhnmaa
open Go.RowKit Go.Joins
set_option linter.unusedVariables false

/-- the Result that is nothing -/
theorem ints_nil (w : World) : Ints w (.slice none 0 0) [] := ⟨none, 0, rfl, Nat.le_refl _, Nat.zero_le _, fun i hi => absurd hi (Nat.not_lt_zero _), fun h => absurd h (Nat.not_lt_zero _)⟩
theorem rows_nil (w : World) : IntRows w (.slice none 0 0) [] := ⟨none, 0, rfl, Nat.le_refl _, Nat.zero_le _, fun h => absurd h (Nat.not_lt_zero _)⟩
/-- the cells of Run's own result -/
theorem boxed_store {w w1 : World} {l0 l1 l2 s0 s1 : Value} (h : Below (w.heap.size + 3) (boxed w l0 l1 l2 s0 s1) w1) :
    w1.cell? ⟨w.heap.size + 1 + 1, 0, none⟩ = some (.slice none 0 0) ∧ w1.cell? ⟨w.heap.size + 1 + 1, 1, none⟩ = some (.slice none 0 0) ∧ w1.frozen? ⟨w.heap.size + 1 + 1, 0, none⟩ = false ∧ w1.frozen? ⟨w.heap.size + 1 + 1, 1, none⟩ = false ∧
      (∀ ov, (w1.setCell ⟨w.heap.size + 1 + 1, 0, none⟩ ov).cell? ⟨w.heap.size + 1 + 1, 0, none⟩ = some ov) ∧
      (∀ ov mv, ((w1.setCell ⟨w.heap.size + 1 + 1, 0, none⟩ ov).setCell ⟨w.heap.size + 1 + 1, 1, none⟩ mv).cell? ⟨w.heap.size + 1 + 1, 1, none⟩ = some mv) ∧
      (∀ ov mv, ((w1.setCell ⟨w.heap.size + 1 + 1, 0, none⟩ ov).setCell ⟨w.heap.size + 1 + 1, 1, none⟩ mv).cell? ⟨w.heap.size + 1 + 1, 0, none⟩ = some ov) := by
  have hrs := boxed_res h
  have hrs' : w1.heap[w.heap.size + 1 + 1]? = some (.cells #[.slice none 0 0, .slice none 0 0] 38 (0, 0)) := hrs
  exact ⟨by rw [cell_of_block hrs']; rfl, by rw [cell_of_block hrs']; rfl, unfrozen_of_block hrs' 0, unfrozen_of_block hrs' 1, fun ov => by rw [cell_of_block (block_setCell hrs' ov)]; rfl,
    fun ov mv => by rw [cell_of_block (block_setCell (block_setCell hrs' ov) mv)]; rfl, fun ov mv => by rw [cell_of_block (block_setCell (block_setCell hrs' ov) mv)]; rfl⟩

set_option maxHeartbeats 1000000 in
theorem run_form (lv sv : Value) (L : Lp) (B M : List (List Int)) (turns : Int) (w : World) (hL : LoopV w lv L) (hS : StateV w sv B M) (hf : fitsB L B M = false) :
    Calls Try.prog 18 #[lv, sv, .int .i64 turns] w fun e w' => e = .returned (.tuple #[.agg #[.slice none 0 0, .slice none 0 0], .int .i64 2]) ∧ Below w.heap.size w w' := by
  have h := hL
  have hs := hS
  obtain ⟨l0, l1, l2, rfl, -, -, -⟩ := h
  obtain ⟨s0, s1, rfl, -, -⟩ := hs
  have hfa := fits_any _ _ L B M _ (hL.below (boxed_below w l0 l1 l2 s0 s1)) (hS.below (boxed_below w l0 l1 l2 s0 s1))
  rw [hf] at hfa
  have HFA := hide hfa
  clear hfa hf
  go_enter Try.func18, Try.ntmps18
  go_wp2_with fail
  refine HFA.out.mono ?_
  rintro e w1 ⟨rfl, hb1⟩
  rw [boxed_size] at hb1
  obtain ⟨c0, c1, f0, f1, g0, g1, g2⟩ := boxed_store hb1
  have HB := hide ((boxed_below w l0 l1 l2 s0 s1).trans (hb1.mono (by omega)))
  clear hb1 HFA
  go_wp2_with fail
  refine bodyPost_ret (v := .tuple #[.agg #[.slice none 0 0, .slice none 0 0], .int .i64 2]) (by simp [results, Try.results18, go_sem, g1, g2]) rfl ⟨rfl, ?_⟩
  exact (HB.out.setCell (by show w.heap.size ≤ w.heap.size + 1 + 1; omega) _).setCell (by show w.heap.size ≤ w.heap.size + 1 + 1; omega) _

set_option maxHeartbeats 1000000 in
theorem run_range (lv sv : Value) (L : Lp) (B M : List (List Int)) (turns : Int) (w : World) (hL : LoopV w lv L) (hS : StateV w sv B M) (hf : fitsB L B M = true) (ht : turns < 0 ∨ 200 < turns) :
    Calls Try.prog 18 #[lv, sv, .int .i64 turns] w fun e w' => e = .returned (.tuple #[.agg #[.slice none 0 0, .slice none 0 0], .int .i64 3]) ∧ Below w.heap.size w w' := by
  have h := hL
  have hs := hS
  obtain ⟨l0, l1, l2, rfl, -, -, -⟩ := h
  obtain ⟨s0, s1, rfl, -, -⟩ := hs
  have hfa := fits_any _ _ L B M _ (hL.below (boxed_below w l0 l1 l2 s0 s1)) (hS.below (boxed_below w l0 l1 l2 s0 s1))
  rw [hf] at hfa
  have HFA := hide hfa
  clear hfa hf
  by_cases h0 : turns < 0
  · clear ht
    go_enter Try.func18, Try.ntmps18
    go_wp2_with fail
    refine HFA.out.mono ?_
    rintro e w1 ⟨rfl, hb1⟩
    rw [boxed_size] at hb1
    obtain ⟨c0, c1, f0, f1, g0, g1, g2⟩ := boxed_store hb1
    have HB := hide ((boxed_below w l0 l1 l2 s0 s1).trans (hb1.mono (by omega)))
    clear hb1 HFA
    go_wp2_with fail
    refine bodyPost_ret (v := .tuple #[.agg #[.slice none 0 0, .slice none 0 0], .int .i64 3]) (by simp [results, Try.results18, go_sem, g1, g2]) rfl ⟨rfl, ?_⟩
    exact (HB.out.setCell (by show w.heap.size ≤ w.heap.size + 1 + 1; omega) _).setCell (by show w.heap.size ≤ w.heap.size + 1 + 1; omega) _
  · have h2 : 200 < turns := by omega
    clear ht
    go_enter Try.func18, Try.ntmps18
    go_wp2_with fail
    refine HFA.out.mono ?_
    rintro e w1 ⟨rfl, hb1⟩
    rw [boxed_size] at hb1
    obtain ⟨c0, c1, f0, f1, g0, g1, g2⟩ := boxed_store hb1
    have HB := hide ((boxed_below w l0 l1 l2 s0 s1).trans (hb1.mono (by omega)))
    clear hb1 HFA
    go_wp2_with fail
    refine bodyPost_ret (v := .tuple #[.agg #[.slice none 0 0, .slice none 0 0], .int .i64 3]) (by simp [results, Try.results18, go_sem, g1, g2]) rfl ⟨rfl, ?_⟩
    exact (HB.out.setCell (by show w.heap.size ≤ w.heap.size + 1 + 1; omega) _).setCell (by show w.heap.size ≤ w.heap.size + 1 + 1; omega) _

set_option maxHeartbeats 2000000 in
theorem run_ok (lv sv : Value) (L : Lp) (B M : List (List Int)) (t : Nat) (w : World) (hL : LoopV w lv L) (hS : StateV w sv B M) (hf : fitsB L B M = true) (ht : t ≤ 200) (hLI : LoopIn L) (hB : RowsIn B) (hM : RowsIn M) :
    Calls Try.prog 18 #[lv, sv, .int .i64 t] w fun e w' => ∃ ov mv, e = .returned (.tuple #[.agg #[ov, mv], .int .i64 0]) ∧ Ints w' ov (outsOf L B t (runS L B t (startS M))) ∧ IntRows w' mv (memOf M (runS L B t (startS M))) ∧ Below w.heap.size w w' := by
  obtain ⟨f1, f2, f3, f4, f5⟩ := fits_parts hf
  have h32 := row32 f1 f3 f5
  obtain ⟨m1, m2, m3, m4, m5, m6, m7⟩ := may_parts f1
  have h := hL
  have hs := hS
  obtain ⟨l0, l1, l2, rfl, -, -, -⟩ := h
  obtain ⟨s0, s1, rfl, -, -⟩ := hs
  have hfa := fits_any _ _ L B M _ (hL.below (boxed_below w l0 l1 l2 s0 s1)) (hS.below (boxed_below w l0 l1 l2 s0 s1))
  rw [hf] at hfa
  have HFA := hide hfa
  have HLE : Hid (∀ i, i < M.length → (rowAt M i).length = 2 ^ (nth L.logs i).toNat ∧ (rowAt M i).length ≤ 32) := fun i hi => ⟨f5 i hi, (h32 i hi).2⟩
  have H3 := hide f3
  have HF := hide hf
  have HBO := hide m7
  have HOU := hide m6
  have hn0 : ¬ (t : Int) < 0 := by omega
  have hn2 : ¬ (200 : Int) < (t : Int) := by omega
  clear hfa hf f1 f2 f3 f4 f5 h32 m7 m6 m5
  go_enter Try.func18, Try.ntmps18
  go_wp2_with fail
  refine HFA.out.mono ?_
  rintro e w1 ⟨rfl, hb1⟩
  rw [boxed_size] at hb1
  obtain ⟨x0, x1, x2, y0, y1, hbw, hbz⟩ := boxed_cells hb1
  have HB1 := hide hb1
  have HBW := hide hbw
  have i5 : w.heap.size < w1.heap.size := by omega
  have i6 : w.heap.size + 1 < w1.heap.size := by omega
  clear hb1 hbw HFA
  go_wp2_with fail
  refine (begin_any _ _ L B M _ (hL.below HBW.out) (hS.below HBW.out) HF.out).mono ?_
  rintro e w2 ⟨k0, k1, k2, R, gp, cp, am, cm, gm, G0, C0, GM, CM, hag, rfl, hI, hc1, hc2⟩
  have HI := hide hI
  have HLV := hide (hL.below HBW.out)
  rw [hag] at HLV
  have HAG := hide hag
  clear hI hag
  go_wp2_with fail
  go_loopw [26] (fun i wr => ∃ T : Nat, T ≤ t ∧ i = .int .i64 T ∧ ∃ G C, RInv w1 R k0 k1 k2 gp cp (.slice am M.length cm) gm cm L.body.length M.length (fun i => (rowAt M i).length) GM CM B G C T 0 (runS L B T (startS M)) wr) (fun i _ => t - (intOf i).toNat)
  case atStart => exact ⟨0, Nat.zero_le _, rfl, G0, C0, HI.out⟩
  case round =>
    clear HI
    obtain ⟨T, hT, rfl, G, C, hQ⟩ := hrel
    have HQ := hide hQ
    clear hQ
    by_cases hlt : T < t
    · have hTi : (T : Int) < (t : Int) := by omega
      go_wp2_with fail
      refine (do_any _ L HQ.out HLV.out rfl H3.out HLE.out HBO.out m3 (by omega)).mono ?_
      rintro e w3 ⟨rfl, G', C', hI3⟩
      have HI3 := hide hI3
      clear hI3
      go_wp2_with fail
      go_roundw
      case rel => exact ⟨T + 1, by omega, by go_num, G', C', HI3.out⟩
      case measure => simp [intOf]; omega
    · have e : T = t := by omega
      subst e
      go_wp2_with fail
      refine (result_any _ L HQ.out HLV.out rfl HOU.out m4 ht hc1 hc2).mono ?_
      rintro e w3 ⟨ov, rfl, hown, hb3⟩
      obtain ⟨oa, oc, rfl, ho1, ho2⟩ := own_shape hown
      have hb13 : Below (w.heap.size + 3) (boxed w l0 l1 l2 s0 s1) w3 := HB1.out.trans ((HQ.out.bel.trans (hb3.mono HQ.out.bel.size)).mono hbz)
      obtain ⟨c0, c1, f0, f1, g0, g1, g2⟩ := boxed_store hb13
      have HFI := hide ((boxed_below w l0 l1 l2 s0 s1).trans (hb13.mono (by omega)))
      have HI3 := hide (HQ.out.below hb3)
      have HOW := hide hown
      have hwr := HQ.out.bel.size
      clear hown hb3 hb13
      go_wp2_with fail
      refine bodyPost_ret (v := .tuple #[.agg #[.slice oa (outsOf L B T (runS L B T (startS M))).length oc, .slice am M.length cm], .int .i64 0]) (by simp [results, Try.results18, go_sem, g1, g2]) rfl ⟨_, _, rfl, ?_, ?_, ?_⟩
      · refine ints_of_own (base := wr.heap.size) ?_ (outsOf_in _ _ _ _ hB (fine_run hLI hB ht (fine_start hM)))
        exact ownsRow_setCell_below (ownsRow_setCell_below HOW.out (by show w.heap.size + 1 + 1 < _; omega) _) (by show w.heap.size + 1 + 1 < _; omega) _
      · exact ((HI3.out.low (by omega) _).low (by simp; omega) _).words hc1 hc2 (fine_run hLI hB ht (fine_start hM))
      · exact (HFI.out.setCell (by show w.heap.size ≤ w.heap.size + 1 + 1; omega) _).setCell (by show w.heap.size ≤ w.heap.size + 1 + 1; omega) _
end Go.Proofs.Ytjjiiacdblhnmaa
