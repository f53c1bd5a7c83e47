/- SeqNone's walk: for every loop and state in memory the law returns true: with no turns nothing becomes anything else; nothing that was there is changed. -/
import Derived.Test.YtjjiiacdblhnmaaSeqRuns
namespace Go.Proofs.Ytjjiiacdblhnmaa
open Go.RowKit Go.Joins
set_option linter.unusedVariables false

theorem memOf_start (M : List (List Int)) : memOf M (startS M) = M := by
  unfold memOf startS
  refine row_ext (by simp) fun i hi => ?_
  have hi' : i < M.length := by simpa using hi
  have hr : rowAt ((List.range M.length).map fun i => (List.range (rowAt M i).length).map fun j => nth (rowAt M i) j) i = (List.range (rowAt M i).length).map fun j => nth (rowAt M i) j := by
    unfold rowAt; simp [List.getD, hi']
  show rowAt ((List.range M.length).map fun i => (List.range (rowAt M i).length).map fun j => nth (rowAt M i) j) i = rowAt M i
  rw [hr]
  refine nth_ext (by simp) fun j hj => ?_
  have hj' : j < (rowAt M i).length := by simpa using hj
  show ((List.range (rowAt M i).length).map fun j => nth (rowAt M i) j).getD j 0 = _
  simp [List.getD, hj']

set_option maxHeartbeats 1000000 in
theorem seqNone_form (v s : Value) (L : Lp) (B M : List (List Int)) (w : World) (hL : LoopV w v L) (hS : StateV w s B M) (hf : fitsB L B M = false) :
    Calls Try.prog 7 #[v, s] w fun e w' => e = .returned (.bool true) ∧ Below w.heap.size w w' := by
  have h := hL
  have hs := hS
  obtain ⟨v0, v1, v2, rfl, -, -, -⟩ := h
  obtain ⟨s0, s1, rfl, -, -⟩ := hs
  have HR := hide (run_form _ _ L B M 0 _ (LoopV.below hL (boxed2_below w v0 v1 v2 s0 s1)) (StateV.below hS (boxed2_below w v0 v1 v2 s0 s1)) hf)
  clear hf
  go_enter Try.func7, Try.ntmps7
  go_wp2_with fail
  refine HR.out.mono ?_
  rintro e w1 ⟨rfl, hb1⟩
  have HW := hide ((boxed2_below w v0 v1 v2 s0 s1).trans (hb1.mono (by rw [boxed2_size]; omega)))
  clear hb1 HR
  go_wp2_with fail
  go_ret
  exact ⟨by simp, HW.out.alloc HW.out.size _⟩

set_option maxHeartbeats 2000000 in
theorem seqNone_ok (v s : Value) (L : Lp) (B M : List (List Int)) (w : World) (hL : LoopV w v L) (hS : StateV w s B M) (hf : fitsB L B M = true) (hLI : LoopIn L) (hB : RowsIn B) (hM : RowsIn M) :
    Calls Try.prog 7 #[v, s] w fun e w' => e = .returned (.bool true) ∧ Below w.heap.size w w' := by
  obtain ⟨f1, f2, f3, f4, f5⟩ := fits_parts hf
  obtain ⟨m1, m2, m3, m4, m5, m6, m7⟩ := may_parts f1
  have h := hL
  have hs := hS
  obtain ⟨v0, v1, v2, rfl, ⟨a0, cap0, rfl, hl0, hm0, hr0, hc0⟩, ⟨a1, cap1, rfl, hl1, hm1, hc1⟩, ⟨a2, cap2, rfl, hl2, hm2, hr2, hc2⟩⟩ := h
  obtain ⟨s0, s1, rfl, hs0, hs1⟩ := hs
  have HS1 := hide hs1
  obtain ⟨ba, bcap, rfl, bl, bm, bc⟩ := hs0
  obtain ⟨ma, mcap, rfl, ml, mm, mc⟩ := hs1
  unfold maxLen at hm0 hm1 hm2 bm mm
  have hrun := run_ok _ _ L B M 0 _ (LoopV.below hL (boxed2_below w (.slice a0 L.logs.length cap0) (.slice a1 L.body.length cap1) (.slice a2 L.outs.length cap2) (.slice ba B.length bcap) (.slice ma M.length mcap))) (StateV.below hS (boxed2_below w (.slice a0 L.logs.length cap0) (.slice a1 L.body.length cap1) (.slice a2 L.outs.length cap2) (.slice ba B.length bcap) (.slice ma M.length mcap))) hf (by omega) hLI hB hM
  have hz : (outsOf L B 0 (runS L B 0 (startS M))).length = L.outs.length := outsOf_len _ _ _ _
  have hn : ∀ i, i < L.outs.length → nth (outsOf L B 0 (runS L B 0 (startS M))) i = nth (rowAt B (nth L.outs i).toNat) 0 := fun i hi => by rw [outsOf_nth _ _ _ _ _ hi, if_pos rfl]
  have hmm : memOf M (runS L B 0 (startS M)) = M := memOf_start M
  rw [hmm] at hrun
  generalize outsOf L B 0 (runS L B 0 (startS M)) = zs at *
  have HR : Hid (Calls Try.prog 18 #[.agg #[.slice a0 L.logs.length cap0, .slice a1 L.body.length cap1, .slice a2 L.outs.length cap2], .agg #[.slice ba B.length bcap, .slice ma M.length mcap], .int .i64 0] (boxed2 w (.slice a0 L.logs.length cap0) (.slice a1 L.body.length cap1) (.slice a2 L.outs.length cap2) (.slice ba B.length bcap) (.slice ma M.length mcap)) fun e w' => ∃ ov mv, e = .returned (.tuple #[.agg #[ov, mv], .int .i64 0]) ∧ Ints w' ov zs ∧ IntRows w' mv M ∧ Below (boxed2 w (.slice a0 L.logs.length cap0) (.slice a1 L.body.length cap1) (.slice a2 L.outs.length cap2) (.slice ba B.length bcap) (.slice ma M.length mcap)).heap.size (boxed2 w (.slice a0 L.logs.length cap0) (.slice a1 L.body.length cap1) (.slice a2 L.outs.length cap2) (.slice ba B.length bcap) (.slice ma M.length mcap)) w') := hrun
  have hbody : ((L.body.length : Int) == 0) = false := beq_eq_false_iff_ne.2 (by omega)
  have HZ := hide hz
  have HN := hide hn
  have HO := hide m6
  have HF2 := hide f2
  have HF4 := hide f4
  have HBC := hide bc
  have HC2 := hide hc2
  clear hrun hmm hz hn f1 f2 f3 f4 f5 m5 m6 m7 hf bc mc hc0 hc1 hc2 hr0 hr2
  go_enter Try.func7, Try.ntmps7
  go_wp2_with fail
  refine HR.out.mono ?_
  rintro e w1 ⟨ov, mv, rfl, hov, hmv, hb1⟩
  have HMV := hide hmv
  obtain ⟨oa, oc, rfl, ol, om, -, ocell⟩ := hov
  rw [HZ.out] at ol ocell
  have hzl := HZ.out
  obtain ⟨na, nc, rfl, nl, nm, -⟩ := hmv
  obtain ⟨x0, x1, x2, y0, y1, hz0, hz1⟩ := box2_cells (w := w) hb1
  have hw1 : Below w.heap.size w w1 := (boxed2_below _ _ _ _ _ _).trans (hb1.mono (by rw [boxed2_size]; omega))
  have HW1 := hide hw1
  have HOC := hide ocell
  unfold maxLen at om nm
  have hwd := words_any _ _ M M (w1.alloc (.cells #[.slice oa L.outs.length oc, .slice na M.length nc] 38)) (HMV.out.below (below_alloc1 _ _)) ((HS1.out.below hw1).below (below_alloc1 _ _))
  rw [show decide (M = M) = true from decide_eq_true rfl] at hwd
  have HWD := hide hwd
  clear hwd hw1 hb1 ocell HR
  rw [hzl]
  clear hzl
  go_wp2_with fail
  refine HWD.out.mono ?_
  rintro e w2 ⟨rfl, n, rfl⟩
  clear HWD
  go_wp2_with fail
  go_loopw [7] (fun i wr => ∃ q n : Nat, q ≤ L.outs.length ∧ i = .int .i64 q ∧ wr = (w1.alloc (.cells #[.slice oa L.outs.length oc, .slice na M.length nc] 38)).drewN n) (fun i _ => L.outs.length - (intOf i).toNat)
  case atStart => exact ⟨0, n, Nat.zero_le _, rfl, rfl⟩
  case round =>
    obtain ⟨q, m, hq, rfl, rfl⟩ := hrel
    by_cases hql : q < L.outs.length
    · have hqi : (q : Int) < (L.outs.length : Int) := by omega
      obtain ⟨ob, of, rfl, hob, hoc⟩ := HC2.out (by omega)
      have hoq := hoc q hql
      obtain ⟨z0, z1⟩ := out_range HO.out hql
      obtain ⟨c, hc⟩ := Int.eq_ofNat_of_zero_le z0
      rw [← bcell HW1.out _ _ hob, hc] at hoq
      have hcB : c < B.length := by have := HF2.out; omega
      obtain ⟨bb, bo, rfl, hbb, hbr⟩ := HBC.out (by omega)
      obtain ⟨u, hu, ⟨ra, rc, rfl, rl, rm, rr, rcell⟩⟩ := hbr c hcB
      have h3 := HF4.out c hcB
      obtain ⟨rb, ro, rfl, hrb, hrc⟩ := rcell (by omega)
      have hr0 := hrc 0 (by omega)
      rw [← bcell HW1.out _ _ hbb] at hu
      rw [Nat.add_zero, ← bcell HW1.out _ _ hrb] at hr0
      obtain ⟨pb, po, rfl, hpb, hpc⟩ := HOC.out (by omega)
      have hpq := hpc q hql
      rw [HN.out q hql, hc, Int.toNat_natCast] at hpq
      have e1 : (c : Int) < (B.length : Int) := by omega
      have e2 : (0 : Int) < ((rowAt B c).length : Int) := by omega
      have s1 := HW1.out.size
      have e3 : ob < w1.heap.size := by omega
      have e4 : bb < w1.heap.size := by omega
      have e5 : rb < w1.heap.size := by omega
      unfold maxLen at rm
      clear hoc hc z0 z1 hbr rcell hrc rr hpc s1 h3 HN HF2 HF4
      go_wp2_with fail
      go_quiet ((fail))
      go_wp2_with fail
      go_roundw
      case rel => exact ⟨q + 1, _, by omega, by go_num, rfl⟩
      case measure => simp [intOf]; omega
    · have hqi : ¬ (q : Int) < (L.outs.length : Int) := by omega
      go_wp2_with fail
      go_ret
      exact ⟨rfl, (HW1.out.alloc HW1.out.size _).trans (below_draws _ _ _)⟩

theorem seqNone_any (v s : Value) (L : Lp) (B M : List (List Int)) (w : World) (hL : LoopV w v L) (hS : StateV w s B M) (hLI : LoopIn L) :
    Calls Try.prog 7 #[v, s] w fun e w' => e = .returned (.bool true) ∧ Below w.heap.size w w' := by
  cases hf : fitsB L B M with
  | false => exact seqNone_form v s L B M w hL hS hf
  | true =>
    have hS' := hS
    obtain ⟨s0, s1, -, h1, h2⟩ := hS'
    exact seqNone_ok v s L B M w hL hS hf hLI (rows_in h1) (rows_in h2)
end Go.Proofs.Ytjjiiacdblhnmaa
