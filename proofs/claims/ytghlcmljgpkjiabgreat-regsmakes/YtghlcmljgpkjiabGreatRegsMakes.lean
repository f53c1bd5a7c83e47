/- RegsMakes' walk: for every loop, machine and plan in memory the law returns true, if the program's Make answers as RegsC says; nothing that was there is changed. -/
import Derived.Test.YtghlcmljgpkjiabGreatRegsSay
import Derived.Test.YtghlcmljgpkjiabGreatEmitTells
import Derived.Test.YtghlcmljgpkjiabGreatRef10Takes
namespace Go.Proofs.YtghlcmljgpkjiabGreat
open Go.RowKit Go.Joins
set_option linter.unusedVariables false
set_option linter.unusedSimpArgs false
set_option maxRecDepth 8192

set_option maxHeartbeats 8000000 in
set_option maxRecDepth 100000 in
theorem regsMakes_walk (hG : RegsC) (hR : EmitRefC) (p0 p1 p2 q0 q1 q2 r : Int) (L : Lp) (a0 a1 a2 : Option Addr) (cap0 cap1 cap2 : Nat) (P : Int) (T : List Int) (ta : Option Addr) (tc : Nat) (w : World) (hL : LoopV w (.agg #[.slice a0 L.logs.length cap0, .slice a1 L.body.length cap1, .slice a2 L.outs.length cap2]) L) (hP : PlanV w (.agg #[.int .i64 P, .slice ta T.length tc]) P T) :
    Calls Tryz.prog 4 #[.agg #[.slice a0 L.logs.length cap0, .slice a1 L.body.length cap1, .slice a2 L.outs.length cap2], .agg #[.int .i64 p0, .int .i64 p1, .int .i64 p2, .int .i64 q0, .int .i64 q1, .int .i64 q2, .int .i64 r], .agg #[.int .i64 P, .slice ta T.length tc]] w fun e w' => e = .returned (.bool true) ∧ Below w.heap.size w w' := by
  have HG := hide (fun W (h1 : LoopV W (.agg #[.slice a0 L.logs.length cap0, .slice a1 L.body.length cap1, .slice a2 L.outs.length cap2]) L) (h2 : PlanV W (.agg #[.int .i64 P, .slice ta T.length tc]) P T) => hG _ _ ⟨p0, p1, p2, q0, q1, q2, r⟩ L P T W h1 h2)
  have HLG := hide (fun W (h1 : LoopV W (.agg #[.slice a0 L.logs.length cap0, .slice a1 L.body.length cap1, .slice a2 L.outs.length cap2]) L) (h2 : PlanV W (.agg #[.int .i64 P, .slice ta T.length tc]) P T) => legal_any ⟨p0, p1, p2, q0, q1, q2, r⟩ L _ _ P T W h1 h2)
  have HL := hide hL
  have HP := hide hP
  have HRF := hide hR
  have HS : Hid ((((w.alloc (.cells #[.slice a0 L.logs.length cap0, .slice a1 L.body.length cap1, .slice a2 L.outs.length cap2] 25)).alloc (.cells #[.int .i64 p0, .int .i64 p1, .int .i64 p2, .int .i64 q0, .int .i64 q1, .int .i64 q2, .int .i64 r] 28)).alloc (.cells #[.int .i64 P, .slice ta T.length tc] 49)).heap.size = w.heap.size + 1 + 1 + 1) := by show _ = _; simp
  have HBZ := hide (below_alloc3 w (.cells #[.slice a0 L.logs.length cap0, .slice a1 L.body.length cap1, .slice a2 L.outs.length cap2] 25) (.cells #[.int .i64 p0, .int .i64 p1, .int .i64 p2, .int .i64 q0, .int .i64 q1, .int .i64 q2, .int .i64 r] 28) (.cells #[.int .i64 P, .slice ta T.length tc] 49))
  clear hL hP
  go_enter Tryz.func4, Tryz.ntmps4
  go_wp2_with fail
  refine (HG.out _ (HL.out.below HBZ.out) (HP.out.below HBZ.out)).mono ?_
  rintro e x1 ⟨hbx, da, dl, dc, c, rfl, hno, hyes⟩
  have HNO := hide hno
  have HYES := hide hyes
  have hb1 : Below (w.heap.size + 1 + 1 + 1) (((w.alloc (.cells #[.slice a0 L.logs.length cap0, .slice a1 L.body.length cap1, .slice a2 L.outs.length cap2] 25)).alloc (.cells #[.int .i64 p0, .int .i64 p1, .int .i64 p2, .int .i64 q0, .int .i64 q1, .int .i64 q2, .int .i64 r] 28)).alloc (.cells #[.int .i64 P, .slice ta T.length tc] 49)) x1 := by rw [← HS.out]; exact hbx
  have HB1 := hide hb1
  obtain ⟨⟨l0, l1, l2⟩, ⟨t0, t1, t2, t3, t4, t5, t6⟩, ⟨y0, y1⟩, hz, hbw⟩ := lbox_cells hb1
  have HW1 := hide hbw
  clear hbx hb1 hbw hno hyes
  have HLG2 := hide (HLG.out x1 (HL.out.below HW1.out) (HP.out.below HW1.out))
  cases hlg : legalD L ⟨p0, p1, p2, q0, q1, q2, r⟩ P T with
  | false =>
    rw [hlg] at HLG2
    obtain ⟨rfl, rfl⟩ := HNO.out hlg
    clear hlg
    go_wp2_with fail
    refine HLG2.out.mono ?_
    rintro e x2 ⟨rfl, hbx⟩
    have HW2 := hide (HW1.out.trans (hbx.mono HW1.out.size))
    clear hbx l0 l1 l2 t0 t1 t2 t3 t4 t5 t6 y0 y1
    go_wp2_with fail
    go_ret
    exact ⟨rfl, HW2.out⟩
  | true =>
    rw [hlg] at HLG2
    have HLGD := hide hlg
    obtain ⟨hm, hmt, -⟩ := legal_parts hlg
    obtain ⟨-, h1n, h16, -⟩ := may_parts hm
    rcases HYES.out hlg with ⟨rfl, rfl, hnot⟩ | ⟨rfl, D, hD, hdo, htk⟩
    · have HNOT := hide hnot
      have HOV := hide (fun W (h1 : LoopV W (.agg #[.slice a0 L.logs.length cap0, .slice a1 L.body.length cap1, .slice a2 L.outs.length cap2]) L) (h2 : PlanV W (.agg #[.int .i64 P, .slice ta T.length tc]) P T) => over_walk p0 p1 p2 q0 q1 q2 r L a0 a1 a2 cap0 cap1 cap2 P T ta tc W h1 h2 hlg)
      clear hlg hnot hm hmt
      go_wp2_with fail
      refine HLG2.out.mono ?_
      rintro e x2 ⟨rfl, hbx⟩
      have HB2 := hide (HB1.out.trans (hbx.mono (by omega)))
      clear l0 l1 l2 t0 t1 t2 t3 t4 t5 t6 y0 y1 hz
      obtain ⟨⟨l0, l1, l2⟩, ⟨t0, t1, t2, t3, t4, t5, t6⟩, ⟨y0, y1⟩, hz, hbw⟩ := lbox_cells HB2.out
      have HW2 := hide hbw
      clear hbx hbw
      by_cases h5 : 5 * (L.body.length : Int) ≤ r
      · have HOV2 := hide (HOV.out x2 (HL.out.below HW2.out) (HP.out.below HW2.out))
        cases hov : overB L ⟨p0, p1, p2, q0, q1, q2, r⟩ P T with
        | true => exact absurd ⟨h5, hov⟩ HNOT.out
        | false =>
          rw [hov] at HOV2
          clear hov
          go_wp2_with fail
          refine HOV2.out.mono ?_
          rintro e x3 ⟨rfl, hbx⟩
          have HW3 := hide (HW2.out.trans (hbx.mono HW2.out.size))
          clear hbx l0 l1 l2 t0 t1 t2 t3 t4 t5 t6 y0 y1
          go_wp2_with fail
          go_ret
          exact ⟨rfl, HW3.out⟩
      · go_wp2_with fail
        go_ret
        exact ⟨rfl, HW2.out⟩
    · obtain ⟨da2, dc2, hds, -⟩ := id hD
      injection hds with q1 q2 q3
      subst q1; subst q2; subst q3
      have HD := hide hD
      have HEC : Hid (emitC L ⟨p0, p1, p2, q0, q1, q2, r⟩ P T D = 0) := by show _ = _; unfold emitC; rw [hlg, hdo]; rfl
      have HEK : Hid (emitK L ⟨p0, p1, p2, q0, q1, q2, r⟩ P T D = emitD L ⟨p0, p1, p2, q0, q1, q2, r⟩ P T D) := by show _ = _; unfold emitK; rw [hlg, hdo]; rfl
      have HTK := hide htk
      have HNAT := hide (fun W => natural_walk L.body.length W h16)
      clear hlg hD hdo htk hm hmt
      go_wp2_with fail
      refine HLG2.out.mono ?_
      rintro e x2 ⟨rfl, hbx⟩
      have HB2 := hide (HB1.out.trans (hbx.mono (by omega)))
      have HD2 := hide (HD.out.below hbx)
      clear l0 l1 l2 t0 t1 t2 t3 t4 t5 t6 y0 y1 hz
      obtain ⟨⟨l0, l1, l2⟩, ⟨t0, t1, t2, t3, t4, t5, t6⟩, ⟨y0, y1⟩, hz, hbw⟩ := lbox_cells HB2.out
      have HW2 := hide hbw
      clear hbx hbw
      go_wp2_with fail
      refine (HRF.out _ _ _ ⟨p0, p1, p2, q0, q1, q2, r⟩ L P T D _ (HL.out.below HW2.out) (HP.out.below HW2.out) HD2.out).mono ?_
      rintro e x3 ⟨hbx, k0, k1, kv, rfl, hk⟩
      rw [HEC.out]
      rw [HEK.out] at hk
      obtain ⟨ek, hek⟩ : ∃ ek, emitD L ⟨p0, p1, p2, q0, q1, q2, r⟩ P T D = ek := ⟨_, rfl⟩
      rw [hek] at hk HTK
      have HB3 := hide (HB2.out.trans (hbx.mono (by omega)))
      have HK3 := hide hk
      obtain ⟨kl, hkl, ea, ec, rfl, -⟩ := id hk
      simp only [Value.agg.injEq, Array.mk.injEq, List.cons.injEq, and_true] at hkl
      obtain ⟨-, -, rfl⟩ := hkl
      clear l0 l1 l2 t0 t1 t2 t3 t4 t5 t6 y0 y1 hz
      obtain ⟨⟨l0, l1, l2⟩, ⟨t0, t1, t2, t3, t4, t5, t6⟩, ⟨y0, y1⟩, hz, hbw⟩ := lbox_cells HB3.out
      have HW3 := hide hbw
      have HSS : Hid (∀ w' : World, Below (x3.heap.size + 1) (x3.alloc (.cells #[.int .i64 k0, .int .i64 k1, .slice ea ek.ops.length ec] 31)) w' → (w'.cell? ⟨w.heap.size, 0, none⟩ = some (.slice a0 L.logs.length cap0) ∧ w'.cell? ⟨w.heap.size, 1, none⟩ = some (.slice a1 L.body.length cap1) ∧ w'.cell? ⟨w.heap.size, 2, none⟩ = some (.slice a2 L.outs.length cap2)) ∧ w'.cell? ⟨w.heap.size + 1, 0, none⟩ = some (.int .i64 p0) ∧ w'.cell? ⟨w.heap.size + 1, 1, none⟩ = some (.int .i64 p1) ∧ w'.cell? ⟨w.heap.size + 1, 2, none⟩ = some (.int .i64 p2) ∧ w'.cell? ⟨w.heap.size + 1, 3, none⟩ = some (.int .i64 q0) ∧ w'.cell? ⟨w.heap.size + 1, 4, none⟩ = some (.int .i64 q1) ∧ w'.cell? ⟨w.heap.size + 1, 5, none⟩ = some (.int .i64 q2) ∧ w'.cell? ⟨w.heap.size + 1, 6, none⟩ = some (.int .i64 r) ∧ w'.cell? ⟨x3.heap.size, 0, none⟩ = some (.int .i64 k0) ∧ w'.cell? ⟨x3.heap.size, 1, none⟩ = some (.int .i64 k1) ∧ w'.cell? ⟨x3.heap.size, 2, none⟩ = some (.slice ea ek.ops.length ec)) := by
        intro w' h
        have h' : Below (x3.alloc (.cells #[.int .i64 k0, .int .i64 k1, .slice ea ek.ops.length ec] 31)).heap.size (x3.alloc (.cells #[.int .i64 k0, .int .i64 k1, .slice ea ek.ops.length ec] 31)) w' := by simpa using h
        have hx : Below x3.heap.size x3 w' := (below_alloc1 x3 _).trans (h.mono (by omega))
        refine ⟨⟨?_, ?_, ?_⟩, ?_, ?_, ?_, ?_, ?_, ?_, ?_, ?_, ?_, ?_⟩
        any_goals (rw [bcell hx _ _ (by omega)]; assumption)
        all_goals (rw [bcell h' _ _ (by simp)]; go_simp)
      have hza : w.heap.size < x3.heap.size := by omega
      have hzb : w.heap.size + 1 < x3.heap.size := by omega
      clear hbx hbw hk hek
      go_wp2_with fail
      have HZ1 : Hid ((x3.alloc (.cells #[.int .i64 k0, .int .i64 k1, .slice ea ek.ops.length ec] 31)).heap.size = x3.heap.size + 1) := by show _ = _; simp
      refine wp_region_noPanic ?_
      refine region_until 99 (fun w' => (w'.cell? ⟨w.heap.size, 0, none⟩ = some (.slice a0 L.logs.length cap0) ∧ w'.cell? ⟨w.heap.size, 1, none⟩ = some (.slice a1 L.body.length cap1) ∧ w'.cell? ⟨w.heap.size, 2, none⟩ = some (.slice a2 L.outs.length cap2)) ∧ w'.cell? ⟨w.heap.size + 1, 0, none⟩ = some (.int .i64 p0) ∧ w'.cell? ⟨w.heap.size + 1, 1, none⟩ = some (.int .i64 p1) ∧ w'.cell? ⟨w.heap.size + 1, 2, none⟩ = some (.int .i64 p2) ∧ w'.cell? ⟨w.heap.size + 1, 3, none⟩ = some (.int .i64 q0) ∧ w'.cell? ⟨w.heap.size + 1, 4, none⟩ = some (.int .i64 q1) ∧ w'.cell? ⟨w.heap.size + 1, 5, none⟩ = some (.int .i64 q2) ∧ w'.cell? ⟨w.heap.size + 1, 6, none⟩ = some (.int .i64 r) ∧ w'.cell? ⟨x3.heap.size, 0, none⟩ = some (.int .i64 k0) ∧ w'.cell? ⟨x3.heap.size, 1, none⟩ = some (.int .i64 k1) ∧ w'.cell? ⟨x3.heap.size, 2, none⟩ = some (.slice ea ek.ops.length ec)) (by kernel_rfl) (HSS.out _ (below_draws _ _ 1)) (fun hHeld => ?_)
      refine utk (i := 0) rfl hHeld ?_
      try simp only [Act.put, List.setIfInBounds_toArray, List.set_cons_zero, List.set_cons_succ]
      refine utk (i := 1) rfl hHeld ?_
      try simp only [Act.put, List.setIfInBounds_toArray, List.set_cons_zero, List.set_cons_succ]
      refine utk (i := 2) rfl hHeld ?_
      try simp only [Act.put, List.setIfInBounds_toArray, List.set_cons_zero, List.set_cons_succ]
      refine utk (i := 3) rfl hHeld ?_
      try simp only [Act.put, List.setIfInBounds_toArray, List.set_cons_zero, List.set_cons_succ]
      refine utk (i := 4) rfl hHeld ?_
      try simp only [Act.put, List.setIfInBounds_toArray, List.set_cons_zero, List.set_cons_succ]
      refine utk (i := 5) rfl hHeld ?_
      try simp only [Act.put, List.setIfInBounds_toArray, List.set_cons_zero, List.set_cons_succ]
      refine utk (i := 6) rfl hHeld ?_
      try simp only [Act.put, List.setIfInBounds_toArray, List.set_cons_zero, List.set_cons_succ]
      refine utk (i := 7) rfl hHeld ?_
      try simp only [Act.put, List.setIfInBounds_toArray, List.set_cons_zero, List.set_cons_succ]
      refine utk (i := 8) rfl hHeld ?_
      try simp only [Act.put, List.setIfInBounds_toArray, List.set_cons_zero, List.set_cons_succ]
      refine utk (i := 9) rfl hHeld ?_
      try simp only [Act.put, List.setIfInBounds_toArray, List.set_cons_zero, List.set_cons_succ]
      refine utk (i := 10) rfl hHeld ?_
      try simp only [Act.put, List.setIfInBounds_toArray, List.set_cons_zero, List.set_cons_succ]
      refine utk (i := 11) rfl hHeld ?_
      try simp only [Act.put, List.setIfInBounds_toArray, List.set_cons_zero, List.set_cons_succ]
      refine utk (i := 12) rfl hHeld ?_
      try simp only [Act.put, List.setIfInBounds_toArray, List.set_cons_zero, List.set_cons_succ]
      refine until_one (i := 13) rfl (by kernel_rfl) (fun K hK9 => ?_)
      go_simp
      refine (HNAT.out _).mono ?_
      rintro e y ⟨⟨na, nc, rfl, hnat⟩, hy⟩
      have hyb : Below (x3.heap.size + 1) (x3.alloc (.cells #[.int .i64 k0, .int .i64 k1, .slice ea ek.ops.length ec] 31)) y := (below_draws _ _ 1).trans (show Below (x3.heap.size + 1) (x3.alloc (.cells #[.int .i64 k0, .int .i64 k1, .slice ea ek.ops.length ec] 31)).drew y by have h : Below (x3.alloc (.cells #[.int .i64 k0, .int .i64 k1, .slice ea ek.ops.length ec] 31)).drew.heap.size (x3.alloc (.cells #[.int .i64 k0, .int .i64 k1, .slice ea ek.ops.length ec] 31)).drew y := hy; have e : (x3.alloc (.cells #[.int .i64 k0, .int .i64 k1, .slice ea ek.ops.length ec] 31)).drew.heap.size = x3.heap.size + 1 := HZ1.out; rw [e] at h; exact h)
      have HYB := hide hyb
      have HNT := hide hnat
      have hHeld := HSS.out _ hyb
      clear hy hyb hnat
      refine hK9.out _ _ (.inr hHeld) ?_
      clear hK9 K
      try simp only [Act.put, List.setIfInBounds_toArray, List.set_cons_zero, List.set_cons_succ]
      have HXY : Hid (Below x3.heap.size x3 y) := (below_alloc1 x3 _).trans (HYB.out.mono (by omega))
      have HWY := hide (HW3.out.trans (HXY.out.mono HW3.out.size))
      have HTA := hide (takes_any _ _ _ ⟨p0, p1, p2, q0, q1, q2, r⟩ L ek (natO L.body.length) y (HL.out.below HWY.out) (HK3.out.below HXY.out) HNT.out)
      rw [HTK.out] at HTA
      refine until_one (i := 14) rfl (by kernel_rfl) (fun K hK9 => ?_)
      go_simp
      refine HTA.out.mono ?_
      rintro e y2 ⟨rfl, hy⟩
      have HYB2 := hide (HYB.out.trans (hy.mono (by have := HYB.out.size; rw [HZ1.out] at this; exact this)))
      have HWY2 := hide (HWY.out.trans (hy.mono HWY.out.size))
      have hHeld := HSS.out _ HYB2.out
      clear hy
      refine hK9.out _ _ (.inr hHeld) ?_
      clear hK9 K
      try simp only [Act.put, List.setIfInBounds_toArray, List.set_cons_zero, List.set_cons_succ]
      refine utk (i := 15) rfl hHeld ?_
      try simp only [Act.put, List.setIfInBounds_toArray, List.set_cons_zero, List.set_cons_succ]
      refine utk (i := 16) rfl hHeld ?_
      try simp only [Act.put, List.setIfInBounds_toArray, List.set_cons_zero, List.set_cons_succ]
      refine until_done (by kernel_rfl) ?_ _
      refine NoPanic.normal ?_
      clear hHeld
      go_wp2_with fail
      go_ret
      exact ⟨rfl, HWY2.out⟩
theorem regsMakes_any (hG : RegsC) (hR : EmitRefC) (v pv : Value) (t : Tg) (L : Lp) (P : Int) (T : List Int) (w : World) (hL : LoopV w v L) (hP : PlanV w pv P T) : Calls Tryz.prog 4 #[v, .agg t.cells, pv] w fun e w' => e = .returned (.bool true) ∧ Below w.heap.size w w' := by
  have hL' := hL
  obtain ⟨v0, v1, v2, rfl, ⟨a0, cap0, rfl, -⟩, ⟨a1, cap1, rfl, -⟩, ⟨a2, cap2, rfl, -⟩⟩ := hL'
  have hP' := hP
  obtain ⟨tv, rfl, ⟨ta, tc, rfl, -⟩⟩ := hP'
  obtain ⟨p0, p1, p2, q0, q1, q2, r⟩ := t
  exact regsMakes_walk hG hR p0 p1 p2 q0 q1 q2 r L a0 a1 a2 cap0 cap1 cap2 P T ta tc w hL hP
end Go.Proofs.YtghlcmljgpkjiabGreat
