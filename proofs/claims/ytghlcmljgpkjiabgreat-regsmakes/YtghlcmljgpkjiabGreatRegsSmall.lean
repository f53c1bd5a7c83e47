/- The contracts of the law's own 'natural' and 'over'; nothing that was there is changed. -/
import Derived.Test.YtghlcmljgpkjiabGreatSounds
import Derived.Test.YtghlcmljgpkjiabGreatRef8A
import Derived.Test.YtghlcmljgpkjiabGreatRef3B
import Derived.Test.YtghlcmljgpkjiabGreatRef67
import Derived.Test.YtghlcmljgpkjiabGreatBase
namespace Go.Proofs.YtghlcmljgpkjiabGreat
open Go.RowKit Go.Joins
set_option linter.unusedVariables false
set_option linter.unusedSimpArgs false
set_option maxRecDepth 8192

theorem ints_of_ownE {w : World} {base : Nat} {e : TypeId} {v : Value} {zs : List Int} (h : w.ownsRow base e 1 v zs.length (zs.map (Value.int .i64))) (hz : ∀ i, i < zs.length → -9223372036854775808 ≤ nth zs i ∧ nth zs i ≤ 9223372036854775807) : Ints w v zs := by
  obtain ⟨a, cap, hv, h1, h2⟩ := own_shape h
  refine ⟨a, cap, hv, h1, h2, hz, fun hp => ?_⟩
  obtain ⟨g, c, hv2, hg, h3, h4, hr⟩ := own_parts h (.inr hp)
  rw [hv] at hv2
  injection hv2 with e1 e2 e3
  refine ⟨g, 0, e1, hr.lt, fun i hi => ?_⟩
  rw [Nat.zero_add, hr.cell hi, getD_ints zs i hi]
theorem natO_snoc (k : Nat) : (natO k).map (Value.int .i64) ++ [.int .i64 (k : Int)] = (natO (k + 1)).map (Value.int .i64) := by
  unfold natO
  rw [List.range_succ]
  simp
set_option maxHeartbeats 4000000 in
theorem natural_walk (n : Nat) (w : World) (hn : n ≤ 16) :
    Calls Tryz.prog 16 #[.int .i64 (n : Int)] w fun e w' => (∃ xa xc, e = .returned (.slice xa n xc) ∧ Ints w' (.slice xa n xc) (natO n)) ∧ Below w.heap.size w w' := by
  obtain ⟨j0, ji, jz0, jz1, jz2⟩ := info_parts Tryz.j3
  go_enter Tryz.func16, Tryz.ntmps16
  go_wp2_with fail
  go_loopw [3, 4] (fun ov iv wr => ∃ k : Nat, k ≤ n ∧ iv = .int .i64 k ∧ ∃ ua uc, ov = .slice ua k uc ∧ wr.ownsRow w.heap.size 3 1 (.slice ua k uc) k ((natO k).map (Value.int .i64)) ∧ Below w.heap.size w wr) (fun _ iv _ => n - (intOf iv).toNat)
  case atStart => exact ⟨0, Nat.zero_le _, rfl, none, 0, rfl, World.ownsRow_nil _ _ _ _, Below.refl _ _⟩
  case round =>
    obtain ⟨k, hk, rfl, ua, uc, rfl, hown, hbel⟩ := hrel
    have HOW := hide hown
    have HBL := hide hbel
    have hzr := hbel.size
    clear hown hbel
    by_cases hkl : k < n
    · have hki : (k : Int) < (n : Int) := by omega
      go_wp2_with (at_builtin; refine wpList_append_own _ rfl (.tmp 10) (.tmp 12) 22 rfl w.heap.size 3 j0 (.int .i64 0) 1 8 Tryz.underlying22 ji jz0 jz1 jz2 rfl (by decide) _ _ _ rfl (own_below HOW.out (below_alloc1 _ _)) ⟨wr.heap.size, 0, none⟩ 1 1 [.int .i64 (k : Int)] rfl rfl (by exact one_cell _ _ _) (by intro u hu; simp at hu; subst hu; rfl) (by unfold maxLen; omega) (by omega) (by simp; omega) ?_; intro v2' w2 hown2 hgrow2 hnil2; obtain ⟨oa2, oc2, rfl, hl1', hl2'⟩ := own_shape hown2; have HO2 := hide hown2; have HG2 := hide hgrow2; clear hown2 hgrow2)
      go_roundw
      case rel =>
        have h2 := HO2.out
        rw [natO_snoc] at h2
        exact ⟨k + 1, by omega, by go_num, oa2, oc2, rfl, h2, (HBL.out.alloc (by omega) _).grown HG2.out (by simp; omega) (fun g hg => own_block_ge HOW.out g hg)⟩
      case measure => simp [intOf]; omega
    · have e : k = n := by omega
      subst e
      have hki : ¬ (k : Int) < (k : Int) := by omega
      have HF : Hid (Ints wr (.slice ua k uc) (natO k)) := by
        have h := HOW.out
        refine ints_of_ownE (base := w.heap.size) (e := 3) (by rw [natO_len]; exact h) fun i hi => ?_
        rw [natO_len] at hi
        rw [natO_at hi]; omega
      go_wp2_with fail
      exact bodyPost_ret (v := .slice ua k uc) (by simp [results, Tryz.results16, go_sem]) rfl ⟨⟨ua, uc, rfl, HF.out⟩, HBL.out⟩
/-- is each turn over when the next one begins? -/
def overB (L : Lp) (t : Tg) (P : Int) (T : List Int) : Bool := allN (fun i => decide (nth T i + waitT t (stAt L.body i).o ≤ P)) L.body.length
set_option maxHeartbeats 8000000 in
set_option maxRecDepth 100000 in
theorem over_walk (p0 p1 p2 q0 q1 q2 r : Int) (L : Lp) (a0 a1 a2 : Option Addr) (cap0 cap1 cap2 : Nat) (P : Int) (T : List Int) (ta : Option Addr) (tc : Nat) (w : World) (hL : LoopV w (.agg #[.slice a0 L.logs.length cap0, .slice a1 L.body.length cap1, .slice a2 L.outs.length cap2]) L) (hP : PlanV w (.agg #[.int .i64 P, .slice ta T.length tc]) P T) (hlg : legalD L ⟨p0, p1, p2, q0, q1, q2, r⟩ P T = true) :
    Calls Tryz.prog 13 #[.agg #[.slice a0 L.logs.length cap0, .slice a1 L.body.length cap1, .slice a2 L.outs.length cap2], .agg #[.int .i64 p0, .int .i64 p1, .int .i64 p2, .int .i64 q0, .int .i64 q1, .int .i64 q2, .int .i64 r], .agg #[.int .i64 P, .slice ta T.length tc]] w fun e w' => e = .returned (.bool (overB L ⟨p0, p1, p2, q0, q1, q2, r⟩ P T)) ∧ Below w.heap.size w w' := by
  obtain ⟨hm, hmt, hp1, hp2, htl, -, -⟩ := legal_parts hlg
  obtain ⟨-, h1n, h16, -⟩ := may_parts hm
  have HTM := hide (fun s (h : s < L.body.length) => legal_time hlg h)
  have HWO := hide (fun o => wait_le (t := ⟨p0, p1, p2, q0, q1, q2, r⟩) o hmt)
  have HWT := hide (fun op W => twait_seven p0 p1 p2 q0 q1 q2 r op W)
  have HTL := hide htl
  have HL := hide hL
  have HPV := hide hP
  have HS : Hid ((((w.alloc (.cells #[.slice a0 L.logs.length cap0, .slice a1 L.body.length cap1, .slice a2 L.outs.length cap2] 25)).alloc (.cells #[.int .i64 p0, .int .i64 p1, .int .i64 p2, .int .i64 q0, .int .i64 q1, .int .i64 q2, .int .i64 r] 28)).alloc (.cells #[.int .i64 P, .slice ta T.length tc] 49)).heap.size = w.heap.size + 1 + 1 + 1) := by show _ = _; simp
  clear hL hP hlg hm hmt htl
  go_enter Tryz.func13, Tryz.ntmps13
  go_wp2_with fail
  go_loopw [7] (fun iv wr => ∃ k : Nat, k ≤ L.body.length ∧ iv = .int .i64 k ∧ allN (fun i => decide (nth T i + waitT ⟨p0, p1, p2, q0, q1, q2, r⟩ (stAt L.body i).o ≤ P)) k = true ∧ Below (w.heap.size + 1 + 1 + 1) (((w.alloc (.cells #[.slice a0 L.logs.length cap0, .slice a1 L.body.length cap1, .slice a2 L.outs.length cap2] 25)).alloc (.cells #[.int .i64 p0, .int .i64 p1, .int .i64 p2, .int .i64 q0, .int .i64 q1, .int .i64 q2, .int .i64 r] 28)).alloc (.cells #[.int .i64 P, .slice ta T.length tc] 49)) wr) (fun iv _ => L.body.length - (intOf iv).toNat)
  case atStart => exact ⟨0, Nat.zero_le _, rfl, rfl, Below.refl _ _⟩
  case round =>
    obtain ⟨k, hk, rfl, hall, hbel⟩ := hrel
    have HA := hide hall
    have HB := hide hbel
    obtain ⟨⟨l0, l1, l2⟩, ⟨t0, t1, t2, t3, t4, t5, t6⟩, ⟨y0, y1⟩, hz, hbw⟩ := lbox_cells hbel
    have HW := hide hbw
    clear hall hbel hbw
    by_cases hkl : k < L.body.length
    · have hki : (k : Int) < (L.body.length : Int) := by omega
      obtain ⟨b, off, rfl, hbz, hbody, hl1, hm1⟩ : ∃ b off, a1 = some ⟨b, off, none⟩ ∧ b < wr.heap.size ∧ (∀ i, i < L.body.length → ∀ j, j < 9 → wr.cell? ⟨b, off + i * 9 + j, none⟩ = (stCells (stAt L.body i))[j]?) ∧ L.body.length ≤ cap1 ∧ cap1 ≤ 9223372036854775807 := by
        obtain ⟨v0, v1, v2, e, -, ⟨x1, y1, e3, f1, f2, f3⟩, -⟩ := HL.out.below HW.out
        simp only [Value.agg.injEq, Array.mk.injEq, List.cons.injEq, and_true] at e
        obtain ⟨-, e4, -⟩ := e
        rw [e3] at e4
        injection e4 with e5 e6 e7
        obtain ⟨b, off, e8, g1, g2⟩ := f3 (by omega)
        exact ⟨b, off, by rw [e5, e8], g1, g2, by omega, by unfold maxLen at f2; omega⟩
      have c0 := (nine (hbody k hkl)).1
      obtain ⟨tb, to, rfl, htbz, htcell, htl1, htm⟩ : ∃ tb to, ta = some ⟨tb, to, none⟩ ∧ tb < wr.heap.size ∧ (∀ i, i < T.length → wr.cell? ⟨tb, to + i, none⟩ = some (.int .i64 (nth T i))) ∧ T.length ≤ tc ∧ tc ≤ 9223372036854775807 := by
        obtain ⟨tv, e, ⟨x1, y1, e3, f1, f2, -, f3⟩⟩ := HPV.out.below HW.out
        simp only [Value.agg.injEq, Array.mk.injEq, List.cons.injEq, and_true, true_and] at e
        rw [e3] at e
        injection e with e5 e6 e7
        obtain ⟨tb, to, e8, g1, g2⟩ := f3 (by have := HTL.out; omega)
        exact ⟨tb, to, by rw [e5, e8], g1, g2, by omega, by unfold maxLen at f2; omega⟩
      have cT := htcell k (by have := HTL.out; omega)
      have hkT : (k : Int) < (T.length : Int) := by have := HTL.out; omega
      obtain ⟨tm1, tm2, -⟩ := HTM.out k hkl
      have HST : Hid (allN (fun i => decide (nth T i + waitT ⟨p0, p1, p2, q0, q1, q2, r⟩ (stAt L.body i).o ≤ P)) (k + 1) = decide (nth T k + waitT ⟨p0, p1, p2, q0, q1, q2, r⟩ (stAt L.body k).o ≤ P)) := by show (allN _ k && _) = _; rw [HA.out, Bool.true_and]
      have HNO : Hid (decide (nth T k + waitT ⟨p0, p1, p2, q0, q1, q2, r⟩ (stAt L.body k).o ≤ P) = false → overB L ⟨p0, p1, p2, q0, q1, q2, r⟩ P T = false) := fun h => allN_false hkl h
      have HWC := hide (HWT.out (stAt L.body k).o)
      obtain ⟨wv1, wv2⟩ := HWO.out (stAt L.body k).o
      obtain ⟨wv, hwv⟩ : ∃ wv, waitT ⟨p0, p1, p2, q0, q1, q2, r⟩ (stAt L.body k).o = wv := ⟨_, rfl⟩
      rw [hwv] at HST HNO HWC wv1 wv2
      generalize (stAt L.body k).o = oo at *
      generalize nth T k = tk at *
      have hza : w.heap.size < wr.heap.size := by omega
      have hzb : w.heap.size + 1 < wr.heap.size := by omega
      have HSS : Hid (∀ w' : World, Below wr.heap.size wr w' → w'.cell? ⟨w.heap.size, 1, none⟩ = some (.slice (some ⟨b, off, none⟩) L.body.length cap1) ∧ w'.cell? ⟨w.heap.size + 1, 0, none⟩ = some (.int .i64 p0) ∧ w'.cell? ⟨w.heap.size + 1, 1, none⟩ = some (.int .i64 p1) ∧ w'.cell? ⟨w.heap.size + 1, 2, none⟩ = some (.int .i64 p2) ∧ w'.cell? ⟨w.heap.size + 1, 3, none⟩ = some (.int .i64 q0) ∧ w'.cell? ⟨w.heap.size + 1, 4, none⟩ = some (.int .i64 q1) ∧ w'.cell? ⟨w.heap.size + 1, 5, none⟩ = some (.int .i64 q2) ∧ w'.cell? ⟨w.heap.size + 1, 6, none⟩ = some (.int .i64 r) ∧ w'.cell? ⟨b, off + k * 9, none⟩ = some (.int .i64 oo)) := by
        intro w' h
        refine ⟨?_, ?_, ?_, ?_, ?_, ?_, ?_, ?_, ?_⟩
        all_goals (rw [bcell h _ _ (by omega)]; assumption)
      clear hbody htcell hwv
      go_wp2_with fail
      refine wp_region_noPanic ?_
      refine region_until 99 (fun w' => w'.cell? ⟨w.heap.size, 1, none⟩ = some (.slice (some ⟨b, off, none⟩) L.body.length cap1) ∧ w'.cell? ⟨w.heap.size + 1, 0, none⟩ = some (.int .i64 p0) ∧ w'.cell? ⟨w.heap.size + 1, 1, none⟩ = some (.int .i64 p1) ∧ w'.cell? ⟨w.heap.size + 1, 2, none⟩ = some (.int .i64 p2) ∧ w'.cell? ⟨w.heap.size + 1, 3, none⟩ = some (.int .i64 q0) ∧ w'.cell? ⟨w.heap.size + 1, 4, none⟩ = some (.int .i64 q1) ∧ w'.cell? ⟨w.heap.size + 1, 5, none⟩ = some (.int .i64 q2) ∧ w'.cell? ⟨w.heap.size + 1, 6, none⟩ = some (.int .i64 r) ∧ w'.cell? ⟨b, off + k * 9, none⟩ = some (.int .i64 oo)) (by kernel_rfl) (HSS.out _ (below_draws _ _ 1)) (fun hHeld => ?_)
      refine utk (i := 0) rfl hHeld ?_
      try simp only [Act.put, List.setIfInBounds_toArray, List.set_cons_zero, List.set_cons_succ]
      refine utk (i := 1) rfl hHeld ?_
      try simp only [Act.put, List.setIfInBounds_toArray, List.set_cons_zero, List.set_cons_succ]
      refine utk (i := 2) rfl hHeld ?_
      try simp only [Act.put, List.setIfInBounds_toArray, List.set_cons_zero, List.set_cons_succ]
      refine utk (i := 3) rfl hHeld ?_
      try simp only [Act.put, List.setIfInBounds_toArray, List.set_cons_zero, List.set_cons_succ]
      refine utk (i := 4) rfl hHeld ?_
      try simp only [Act.put, List.setIfInBounds_toArray, List.set_cons_zero, List.set_cons_succ]
      refine utk (i := 5) rfl hHeld ?_
      try simp only [Act.put, List.setIfInBounds_toArray, List.set_cons_zero, List.set_cons_succ]
      refine utk (i := 6) rfl hHeld ?_
      try simp only [Act.put, List.setIfInBounds_toArray, List.set_cons_zero, List.set_cons_succ]
      refine until_one (i := 7) rfl (by kernel_rfl) (fun K hK9 => ?_)
      go_simp
      refine (HWC.out _).mono ?_
      rintro e y ⟨rfl, hy⟩
      have HY := hide ((below_draws wr.heap.size wr 1).trans (show Below wr.heap.size wr.drew y from hy))
      have hHeld := HSS.out _ HY.out
      clear hy
      refine hK9.out _ _ (.inr hHeld) ?_
      clear hK9 K
      try simp only [Act.put, List.setIfInBounds_toArray, List.set_cons_zero, List.set_cons_succ]
      refine utk (i := 8) rfl hHeld ?_
      try simp only [Act.put, List.setIfInBounds_toArray, List.set_cons_zero, List.set_cons_succ]
      refine until_done (by kernel_rfl) ?_ _
      refine NoPanic.normal ?_
      clear hHeld HSS
      have HBY := hide (HB.out.trans (HY.out.mono (by omega)))
      rw [← bcell HY.out _ _ htbz] at cT
      have hzy := HY.out.size
      have htby : tb < y.heap.size := by omega
      clear l0 l1 l2 t0 t1 t2 t3 t4 t5 t6 y0 y1 hz c0
      obtain ⟨⟨l0, l1, l2⟩, ⟨t0, t1, t2, t3, t4, t5, t6⟩, ⟨y0, y1⟩, hz, hbw⟩ := lbox_cells HBY.out
      have HWY := hide hbw
      have hw1 : IntKind.i64.wrap (tk + wv) = tk + wv := by rw [IntKind.wrap_i64]; omega
      clear hbw
      by_cases hlt : P < tk + wv
      · have hld : decide (P < tk + wv) = true := decide_eq_true hlt
        have HN : Hid (overB L ⟨p0, p1, p2, q0, q1, q2, r⟩ P T = false) := HNO.out (decide_eq_false (by omega))
        clear HNO HST
        go_wp2_with fail
        go_big_quiet ((fail))
        go_wp2_with fail
        go_ret
        exact ⟨ret_bool HN.out.symm, HWY.out.trans (below_draws _ _ _)⟩
      · have hld : decide (P < tk + wv) = false := decide_eq_false hlt
        have HN : Hid (allN (fun i => decide (nth T i + waitT ⟨p0, p1, p2, q0, q1, q2, r⟩ (stAt L.body i).o ≤ P)) (k + 1) = true) := by show _ = _; rw [HST.out]; exact decide_eq_true (by omega)
        clear HNO HST
        go_wp2_with fail
        go_big_quiet ((fail))
        go_wp2_with fail
        go_roundw
        case rel => exact ⟨k + 1, by omega, by go_num, HN.out, HBY.out.trans (below_draws _ _ _)⟩
        case measure => simp [intOf]; omega
    · have e : k = L.body.length := by omega
      subst e
      have hki : ¬ (L.body.length : Int) < (L.body.length : Int) := by omega
      have HN : Hid (overB L ⟨p0, p1, p2, q0, q1, q2, r⟩ P T = true) := HA.out
      go_wp2_with fail
      go_ret
      exact ⟨ret_bool HN.out.symm, HW.out⟩
end Go.Proofs.YtghlcmljgpkjiabGreat
