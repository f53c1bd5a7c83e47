/- The contract of a run's beginning: the pasts and the words are copied into memory of the run's own. -/
import Derived.Test.YtjjiiacdblhnmaaSeqBeg
import Derived.Test.YtjjiiacdblhnmaaUntil
import Derived.Deep.AppendLies
namespace Go.Proofs.Ytjjiiacdblhnmaa
open Go.RowKit Go.Joins
set_option linter.unusedVariables false
set_option linter.unusedSimpArgs false

/-- the world in which the loop and the state are boxed -/
def boxed2 (w : World) (l0 l1 l2 s0 s1 : Value) : World := (w.alloc (.cells #[l0, l1, l2] 30)).alloc (.cells #[s0, s1] 33)
theorem boxed2_size (w : World) (l0 l1 l2 s0 s1 : Value) : (boxed2 w l0 l1 l2 s0 s1).heap.size = w.heap.size + 1 + 1 := by unfold boxed2; simp
theorem boxed2_below (w : World) (l0 l1 l2 s0 s1 : Value) : Below w.heap.size w (boxed2 w l0 l1 l2 s0 s1) := below_alloc2 _ _ _
theorem boxed2_cell {w wr : World} {l0 l1 l2 s0 s1 : Value} (h : Below (boxed2 w l0 l1 l2 s0 s1).heap.size (boxed2 w l0 l1 l2 s0 s1) wr) : wr.cell? ⟨w.heap.size + 1, 1, none⟩ = some s1 := by
  rw [bcell h _ _ (by rw [boxed2_size]; omega)]
  unfold boxed2
  go_simp

set_option maxHeartbeats 4000000 in
theorem begin_any (lv sv : Value) (L : Lp) (B M : List (List Int)) (w : World) (hL : LoopV w lv L) (hS : StateV w sv B M) (hf : fitsB L B M = true) :
    Calls Try.prog 34 #[lv, sv] w fun e w' => ∃ l0 l1 l2 R gp cp am cm gm G C GM CM, lv = .agg #[l0, l1, l2] ∧ e = .returned (.pointer (some ⟨R, 0, none⟩)) ∧
      RInv w R l0 l1 l2 gp cp (.slice am M.length cm) gm cm L.body.length M.length (fun i => (rowAt M i).length) GM CM B G C 0 0 (startS M) w' ∧ M.length ≤ cm ∧ cm ≤ maxLen := by
  obtain ⟨f1, f2, f3, f4, f5⟩ := fits_parts hf
  have h32 := row32 f1 f3 f5
  obtain ⟨m1, m2, m3, m4, m5, m6, m7⟩ := may_parts f1
  obtain ⟨v0, v1, v2, rfl, ⟨a0, cap0, rfl, hl0, hm0, hr0, hc0⟩, ⟨a1, cap1, rfl, hl1, hm1, hc1⟩, ⟨a2, cap2, rfl, hl2, hm2, hr2, hc2⟩⟩ := hL
  obtain ⟨s0, s1, rfl, ⟨ba, bcap, rfl, bl, bm, bc⟩, ⟨ma, mcap, rfl, ml, mm, mc⟩⟩ := hS
  unfold maxLen at bm mm
  obtain ⟨j0, ji, jz0, jz1, jz2⟩ := info_parts Try.i36
  have hB0 : 0 < B.length := by omega
  have hB16 : B.length ≤ 16 := by omega
  have hM3 : M.length ≤ 3 := by omega
  have HF2 := hide f2
  have H32 := hide h32
  have HF4 := hide f4
  have HBC := hide bc
  have HMC := hide mc
  clear f1 f2 f3 f4 f5 h32 hf m5 m6 m7 m1 m2 m3 m4 hc0 hc1 hc2 hr0 hr2 bc mc hl0 hm0 hl1 hm1 hl2 hm2
  go_enter Try.func34, Try.ntmps34
  go_wp2_with fail
  go_loopw [17] (fun i wr => ∃ k : Nat, k ≤ B.length ∧ i = .int .i64 k ∧ ∃ G C pa pc, B1 (boxed2 w (.slice a0 L.logs.length cap0) (.slice a1 L.body.length cap1) (.slice a2 L.outs.length cap2) (.slice ba B.length bcap) (.slice ma M.length mcap)) (.slice a0 L.logs.length cap0) (.slice a1 L.body.length cap1) (.slice a2 L.outs.length cap2) B k G C pa pc wr) (fun i _ => B.length - (intOf i).toNat)
  case atStart => exact ⟨0, Nat.zero_le _, rfl, _, _, _, _, B1.first _ _ _ _ _⟩
  case round =>
    obtain ⟨k, hk, rfl, G, C, pa, pc, hP⟩ := hrel
    have hbw : Below w.heap.size w wr := (boxed2_below _ _ _ _ _ _).trans (hP.bel.mono (by rw [boxed2_size]; omega))
    have HP := hide hP
    have HBW := hide hbw
    have hRz := hP.cells.2.2
    rw [boxed2_size] at hRz
    by_cases hlt : k < B.length
    · have hki : (k : Int) < (B.length : Int) := by omega
      obtain ⟨b, off, rfl, hb, hrow⟩ := HBC.out hB0
      obtain ⟨u, hu, hIu⟩ := hrow k hlt
      have h3 := HF4.out k hlt
      have hIr : Ints wr u (rowAt B k) := hIu.below hbw
      obtain ⟨ra, rc, rfl, rl, rm, rr, rcell⟩ := hIu
      rw [← bcell hbw _ _ hb] at hu
      have hbz : b < wr.heap.size := by have := hbw.size; omega
      have hcl := clone_any _ _ _ hIr (by omega) (by omega)
      rw [h3] at hcl hu
      have HCL := hide hcl
      clear hcl hIr rcell rr hrow hP hbw
      go_wp2_with fail
      refine HCL.out.mono ?_
      rintro e w1 ⟨g, cap, rfl, hg1, hcm1, hx1, hb1⟩
      have HX1 := hide hx1
      have HB1 := hide hb1
      clear hx1 hb1 HCL
      go_wp2_with fail
      refine (reverse_any g cap (nth (rowAt B k)) _ HX1.out hcm1).mono ?_
      rintro e w2 ⟨rfl, hx2, hb2⟩
      have hb12 : Below wr.heap.size wr w2 := HB1.out.trans (hb2 _ hg1)
      have HX2 := hide hx2
      have HB2 := hide hb12
      have hc3 := HP.out.cells.1
      rw [boxed2_size, ← bcell hb12 _ _ hRz] at hc3
      have HOW := hide (own_below (own_below HP.out.own hb12) (below_alloc1 w2 (.cells #[.slice (some ⟨g, 0, none⟩) 3 cap] 36)))
      have hwz : w.heap.size + 1 + 1 < w2.heap.size := by have := hb12.size; omega
      have hgz : w2.heap.size < w2.heap.size + 1 := by omega
      rw [boxed2_size] at HOW
      clear hx2 hb2 hb12 HX1 HB1
      go_wp2_with (at_builtin; refine wpList_append_own _ rfl (.tmp 29) (.tmp 31) 31 rfl (w.heap.size + 1 + 1 + 1) 36 j0 (.slice none 0 0) 1 24 Try.underlying31 ji jz0 jz1 jz2 rfl (by decide) _ _ _ rfl HOW.out ⟨w2.heap.size, 0, none⟩ 1 1 [.slice (some ⟨g, 0, none⟩) 3 cap] rfl rfl (by exact one_cell _ _ _) (by intro u hu; simp at hu; subst hu; rfl) (by unfold maxLen; omega) (by omega) (by simp; omega) ?_; intro v3 w3 hown3 hgrow3 hnil3; obtain ⟨pa2, pc2, rfl, hpc2, hpm2⟩ := own_shape hown3; obtain ⟨x1, x2, x3⟩ := B1.step HP.out HB2.out hg1 hcm1 HX2.out (by rw [boxed2_size]; exact hown3) hgrow3; rw [boxed2_size] at x1 x2 x3; have HB3 := hide x3; clear x3 hown3 hgrow3)
      go_roundw
      case rel => exact ⟨k + 1, by omega, by go_num, _, _, _, _, HB3.out⟩
      case measure => simp [intOf]; omega
    · have e : k = B.length := by omega
      subst e
      have hs1 := boxed2_cell hP.bel
      clear hP hbw
      rename World => wo
      go_wp2_with fail
      go_loopw [39] (fun i wr => ∃ k : Nat, k ≤ M.length ∧ i = .int .i64 k ∧ ∃ GM CM ma2 mc2, B2 (boxed2 w (.slice a0 L.logs.length cap0) (.slice a1 L.body.length cap1) (.slice a2 L.outs.length cap2) (.slice ba B.length bcap) (.slice ma M.length mcap)) wo (.slice a0 L.logs.length cap0) (.slice a1 L.body.length cap1) (.slice a2 L.outs.length cap2) (.slice pa B.length pc) k GM CM (fun i => (rowAt M i).length) (fun i j => nth (rowAt M i) j) ma2 mc2 wr) (fun i _ => M.length - (intOf i).toNat)
      case atStart => exact ⟨0, Nat.zero_le _, rfl, _, _, _, _, B2.first _ _ HP.out⟩
      case round =>
        clear hs1
        obtain ⟨k, hk, rfl, GM, CM, ma2, mc2, hQ⟩ := hrel
        have hbw : Below w.heap.size w wr := (boxed2_below _ _ _ _ _ _).trans (hQ.bel.mono (by rw [boxed2_size]; omega))
        have hc4 := hQ.cells.1
        have hRw := hQ.cells.2
        rw [boxed2_size] at hc4 hRw
        have HQ := hide hQ
        by_cases hlt : k < M.length
        · have hki : (k : Int) < (M.length : Int) := by omega
          obtain ⟨b, off, rfl, hb, hrow⟩ := HMC.out (by omega)
          obtain ⟨u, hu, hIu⟩ := hrow k hlt
          obtain ⟨q1, q2⟩ := H32.out k hlt
          have hIr : Ints wr.drew u (rowAt M k) := hIu.below (hbw.drew)
          obtain ⟨ra, rc, rfl, rl, rm, rr, rcell⟩ := hIu
          rw [← bcell hbw _ _ hb] at hu
          have hbz : b < wr.heap.size := by have := hbw.size; omega
          have HCL := hide (clone_any _ _ _ hIr q1 q2)
          clear hIr rcell rr hrow hQ hbw
          go_wp2_with fail
          refine wp_region_noPanic ?_
          refine region_until 11 (fun w' => w'.cell? ⟨w.heap.size + 1 + 1, 4, none⟩ = some (.slice ma2 k mc2)) (by kernel_rfl) hc4 (fun hHeld => ?_)
          refine until_take (i := 0) (v := ?_) rfl (by kernel_rfl) (by kernel_rfl) (by kernel_rfl) (by kernel_rfl) (fun _ _ _ h => h) (Or.inl ⟨by rfl, ?_⟩) hHeld ?_
          rotate_left
          · intro w hSw
            try dsimp only at hSw
            go_simp
            try with_reducible rfl
          try simp only [Act.put, List.setIfInBounds_toArray, List.set_cons_zero, List.set_cons_succ]
          refine until_take (i := 1) (v := ?_) rfl (by kernel_rfl) (by kernel_rfl) (by kernel_rfl) (by kernel_rfl) (fun _ _ _ h => h) (Or.inl ⟨by rfl, ?_⟩) hHeld ?_
          rotate_left
          · intro w hSw
            try dsimp only at hSw
            go_simp
            try with_reducible rfl
          try simp only [Act.put, List.setIfInBounds_toArray, List.set_cons_zero, List.set_cons_succ]
          refine until_take (i := 2) (v := ?_) rfl (by kernel_rfl) (by kernel_rfl) (by kernel_rfl) (by kernel_rfl) (fun _ _ _ h => h) (Or.inl ⟨by rfl, ?_⟩) hHeld ?_
          rotate_left
          · intro w hSw
            try dsimp only at hSw
            go_simp
            try with_reducible rfl
          try simp only [Act.put, List.setIfInBounds_toArray, List.set_cons_zero, List.set_cons_succ]
          refine until_take (i := 3) (v := ?_) rfl (by kernel_rfl) (by kernel_rfl) (by kernel_rfl) (by kernel_rfl) (fun _ _ _ h => h) (Or.inl ⟨by rfl, ?_⟩) hHeld ?_
          rotate_left
          · intro w hSw
            try dsimp only at hSw
            go_simp
            try with_reducible rfl
          try simp only [Act.put, List.setIfInBounds_toArray, List.set_cons_zero, List.set_cons_succ]
          refine until_take (i := 4) (v := ?_) rfl (by kernel_rfl) (by kernel_rfl) (by kernel_rfl) (by kernel_rfl) (fun _ _ _ h => h) (Or.inl ⟨by rfl, ?_⟩) hHeld ?_
          rotate_left
          · intro w hSw
            try dsimp only at hSw
            go_simp
            try with_reducible rfl
          try simp only [Act.put, List.setIfInBounds_toArray, List.set_cons_zero, List.set_cons_succ]
          refine until_take (i := 5) (v := ?_) rfl (by kernel_rfl) (by kernel_rfl) (by kernel_rfl) (by kernel_rfl) (fun _ _ _ h => h) (Or.inl ⟨by rfl, ?_⟩) hHeld ?_
          rotate_left
          · intro w hSw
            try dsimp only at hSw
            go_simp
            try with_reducible rfl
          try simp only [Act.put, List.setIfInBounds_toArray, List.set_cons_zero, List.set_cons_succ]
          refine until_one (i := 6) rfl (by kernel_rfl) (fun K hK => ?_)
          go_simp
          refine HCL.out.mono ?_
          rintro e w2 ⟨g, cap, rfl, hg1, hcm1, hx1, hb1⟩
          have hb12 : Below wr.heap.size wr w2 := ((Below.refl _ _).drew).trans hb1
          have hg2 : wr.heap.size ≤ g := hg1
          have hw2 := hb12.size
          have hk2 : w2.cell? ⟨w.heap.size + 1 + 1, 4, none⟩ = some (.slice ma2 k mc2) := by rw [bcell hb12 _ _ hRw]; exact hc4
          have HX1 := hide hx1
          have HB2 := hide hb12
          clear hx1 hb1 hb12 HCL hHeld hg1
          refine hK.out _ _ (.inr hk2) ?_
          clear hK K
          try simp only [Act.put, List.setIfInBounds_toArray, List.set_cons_zero, List.set_cons_succ]
          refine until_one (i := 7) rfl (by kernel_rfl) (fun K hK => ?_)
          go_simp
          have hk2a : (w2.alloc (.cells #[.slice (some ⟨g, 0, none⟩) (rowAt M k).length cap] 36)).cell? ⟨w.heap.size + 1 + 1, 4, none⟩ = some (.slice ma2 k mc2) := by rw [bcell (below_alloc1 _ _) _ _ (by omega)]; exact hk2
          refine hK.out _ _ (.inr hk2a) ?_
          clear hK K
          try simp only [Act.put, List.setIfInBounds_toArray, List.set_cons_zero, List.set_cons_succ]
          have HOW := hide (own_below (own_below HQ.out.own HB2.out) (below_alloc1 w2 (.cells #[.slice (some ⟨g, 0, none⟩) (rowAt M k).length cap] 36)))
          have HSZ := hide HQ.out.size
          refine until_one (i := 8) rfl (by kernel_rfl) (fun K hK => ?_)
          refine step_append_lies _ (by rfl) (.tmp 47) (.tmp 50) 31 (by rfl) wo.heap.size 36 j0 (.slice none 0 0) 1 24 Try.underlying31 ji jz0 jz1 jz2 rfl (by decide) _ k _ (by rfl) HOW.out ⟨w2.heap.size, 0, none⟩ 1 1 [.slice (some ⟨g, 0, none⟩) (rowAt M k).length cap] (by rfl) rfl (one_cell _ _ _) (by intro u hu; simp at hu; subst hu; rfl) (by decide) (by unfold maxLen; omega) (by omega) (by have := HSZ.out.2; simp; omega) (w2.heap.size + 1) (by simp) ?_
          intro g3 cap3 w3 hown3 hgrow3 hat3 hlt3
          obtain ⟨x1, x2, x3⟩ := B2.step HQ.out HB2.out hg2 hcm1 HX1.out hown3 hgrow3
          rw [boxed2_size] at x1 x2 x3
          have HB3 := hide x3
          clear x3 hown3 hgrow3 hat3 hk2 hk2a
          refine hK.out _ _ (.inr x1) ?_
          clear hK K
          try simp only [Act.put, List.setIfInBounds_toArray, List.set_cons_zero, List.set_cons_succ]
          have hHeld := x1
          refine until_take (i := 9) (v := ?_) rfl (by kernel_rfl) (by kernel_rfl) (by kernel_rfl) (by kernel_rfl) (fun _ _ _ h => h) (Or.inl ⟨by rfl, ?_⟩) hHeld ?_
          rotate_left
          · intro w hSw
            try dsimp only at hSw
            go_simp
            try with_reducible rfl
          try simp only [Act.put, List.setIfInBounds_toArray, List.set_cons_zero, List.set_cons_succ]
          refine until_take (i := 10) (v := ?_) rfl (by kernel_rfl) (by kernel_rfl) (by kernel_rfl) (by kernel_rfl) (fun _ _ _ h => h) (Or.inl ⟨by rfl, ?_⟩) hHeld ?_
          rotate_left
          · intro w hSw
            try dsimp only at hSw
            go_simp
            try with_reducible rfl
          try simp only [Act.put, List.setIfInBounds_toArray, List.set_cons_zero, List.set_cons_succ]
          refine until_one (i := 11) rfl (by kernel_rfl) (fun K hK => ?_)
          go_simp
          refine hK.out _ _ (.inl rfl) ?_
          clear hK K
          try simp only [Act.put, List.setIfInBounds_toArray, List.set_cons_zero, List.set_cons_succ]
          refine until_done (by kernel_rfl) ?_ _
          refine NoPanic.normal ?_
          clear x1 hHeld
          go_wp2_with fail
          go_roundw
          case rel => exact ⟨k + 1, by omega, by go_num, _, _, _, _, HB3.out⟩
          case measure => simp [intOf]; omega
        · have e : k = M.length := by omega
          subst e
          clear hQ hbw
          go_wp2_with fail
          go_ret
          obtain ⟨gp, gm, hI, hm1, hm2⟩ := begin_inv (boxed2_below w _ _ _ _ _) HP.out hB0 HQ.out
          rw [boxed2_size, HF2.out] at hI
          exact ⟨_, _, _, w.heap.size + 1 + 1, gp, pc, ma2, mc2, gm, G, C, GM, CM, rfl, rfl, hI, hm1, hm2⟩
end Go.Proofs.Ytjjiiacdblhnmaa
