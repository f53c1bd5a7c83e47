/- The contract of the Logs of arrays, by the program; nothing that was there is changed. -/
import Derived.Test.YtlgphgfldfjkkaaKernOne
import Derived.Test.YtlgphgfldfjkkaaRef5Logs
import Derived.Lib.BitFns
import Derived.Lib.Small
import Derived.Lib.Walk
namespace Go.Proofs.Ytlgphgfldfjkkaa
open Go.RowKit Go.Joins
set_option linter.unusedVariables false
set_option linter.unusedSimpArgs false
set_option maxRecDepth 100000

theorem tab_size : Lib.len8tab.size = 256 := by kernel_rfl
set_option maxHeartbeats 4000000 in
theorem len64_some (n : Int) (w : World) (h0 : 0 ≤ n) (hn : n ≤ 18446744073709551615) : Calls Try.prog 82 #[.int .u64 n] w fun e w' => ∃ r, e = .returned (.int .i64 r) ∧ w' = w := by
  have hsz := tab_size
  go_enter Try.func82, Try.ntmps82
  go_wp2
  all_goals first
    | (go_ret; exact ⟨_, rfl, rfl⟩)
    | (exfalso; omega)
theorem len_some (n : Nat) (w : World) (hn : n ≤ 9223372036854775807) : Calls Try.prog 73 #[.int .u64 n] w fun e w' => ∃ r, e = .returned (.int .i64 r) ∧ w' = w := by
  have H := hide (len64_some n w (by omega) (by omega))
  go_enter Try.func73, Try.ntmps73
  go_wp2_with fail
  refine H.out.mono ?_
  rintro e w' ⟨r, rfl, rfl⟩
  go_wp2_with fail
  go_ret
  exact ⟨_, rfl, rfl⟩
set_option maxHeartbeats 1000000 in
theorem len64_1 (w : World) : Calls Try.prog 82 #[.int .u64 1] w fun e w' => e = .returned (.int .i64 1) ∧ w' = w := by
  have hsz := tab_size
  have htb : Lib.len8 1 = 1 := by rw [Lib.len8_of _ (by omega) (by omega)]; decide
  go_enter Try.func82, Try.ntmps82
  go_wp2_with fail
  go_ret
  exact ⟨rfl, rfl⟩
theorem len_1 (w : World) : Calls Try.prog 73 #[.int .u64 1] w fun e w' => e = .returned (.int .i64 1) ∧ w' = w := by
  have H := hide (len64_1 w)
  go_enter Try.func73, Try.ntmps73
  go_wp2_with fail
  refine H.out.mono ?_
  rintro e w' ⟨rfl, rfl⟩
  go_wp2_with fail
  go_ret
  exact ⟨rfl, rfl⟩
set_option maxHeartbeats 1000000 in
theorem len64_2 (w : World) : Calls Try.prog 82 #[.int .u64 2] w fun e w' => e = .returned (.int .i64 2) ∧ w' = w := by
  have hsz := tab_size
  have htb : Lib.len8 2 = 2 := by rw [Lib.len8_of _ (by omega) (by omega)]; decide
  go_enter Try.func82, Try.ntmps82
  go_wp2_with fail
  go_ret
  exact ⟨rfl, rfl⟩
theorem len_2 (w : World) : Calls Try.prog 73 #[.int .u64 2] w fun e w' => e = .returned (.int .i64 2) ∧ w' = w := by
  have H := hide (len64_2 w)
  go_enter Try.func73, Try.ntmps73
  go_wp2_with fail
  refine H.out.mono ?_
  rintro e w' ⟨rfl, rfl⟩
  go_wp2_with fail
  go_ret
  exact ⟨rfl, rfl⟩
set_option maxHeartbeats 1000000 in
theorem len64_4 (w : World) : Calls Try.prog 82 #[.int .u64 4] w fun e w' => e = .returned (.int .i64 3) ∧ w' = w := by
  have hsz := tab_size
  have htb : Lib.len8 4 = 3 := by rw [Lib.len8_of _ (by omega) (by omega)]; decide
  go_enter Try.func82, Try.ntmps82
  go_wp2_with fail
  go_ret
  exact ⟨rfl, rfl⟩
theorem len_4 (w : World) : Calls Try.prog 73 #[.int .u64 4] w fun e w' => e = .returned (.int .i64 3) ∧ w' = w := by
  have H := hide (len64_4 w)
  go_enter Try.func73, Try.ntmps73
  go_wp2_with fail
  refine H.out.mono ?_
  rintro e w' ⟨rfl, rfl⟩
  go_wp2_with fail
  go_ret
  exact ⟨rfl, rfl⟩
set_option maxHeartbeats 1000000 in
theorem len64_8 (w : World) : Calls Try.prog 82 #[.int .u64 8] w fun e w' => e = .returned (.int .i64 4) ∧ w' = w := by
  have hsz := tab_size
  have htb : Lib.len8 8 = 4 := by rw [Lib.len8_of _ (by omega) (by omega)]; decide
  go_enter Try.func82, Try.ntmps82
  go_wp2_with fail
  go_ret
  exact ⟨rfl, rfl⟩
theorem len_8 (w : World) : Calls Try.prog 73 #[.int .u64 8] w fun e w' => e = .returned (.int .i64 4) ∧ w' = w := by
  have H := hide (len64_8 w)
  go_enter Try.func73, Try.ntmps73
  go_wp2_with fail
  refine H.out.mono ?_
  rintro e w' ⟨rfl, rfl⟩
  go_wp2_with fail
  go_ret
  exact ⟨rfl, rfl⟩
set_option maxHeartbeats 1000000 in
theorem len64_16 (w : World) : Calls Try.prog 82 #[.int .u64 16] w fun e w' => e = .returned (.int .i64 5) ∧ w' = w := by
  have hsz := tab_size
  have htb : Lib.len8 16 = 5 := by rw [Lib.len8_of _ (by omega) (by omega)]; decide
  go_enter Try.func82, Try.ntmps82
  go_wp2_with fail
  go_ret
  exact ⟨rfl, rfl⟩
theorem len_16 (w : World) : Calls Try.prog 73 #[.int .u64 16] w fun e w' => e = .returned (.int .i64 5) ∧ w' = w := by
  have H := hide (len64_16 w)
  go_enter Try.func73, Try.ntmps73
  go_wp2_with fail
  refine H.out.mono ?_
  rintro e w' ⟨rfl, rfl⟩
  go_wp2_with fail
  go_ret
  exact ⟨rfl, rfl⟩
set_option maxHeartbeats 1000000 in
theorem len64_32 (w : World) : Calls Try.prog 82 #[.int .u64 32] w fun e w' => e = .returned (.int .i64 6) ∧ w' = w := by
  have hsz := tab_size
  have htb : Lib.len8 32 = 6 := by rw [Lib.len8_of _ (by omega) (by omega)]; decide
  go_enter Try.func82, Try.ntmps82
  go_wp2_with fail
  go_ret
  exact ⟨rfl, rfl⟩
theorem len_32 (w : World) : Calls Try.prog 73 #[.int .u64 32] w fun e w' => e = .returned (.int .i64 6) ∧ w' = w := by
  have H := hide (len64_32 w)
  go_enter Try.func73, Try.ntmps73
  go_wp2_with fail
  refine H.out.mono ?_
  rintro e w' ⟨rfl, rfl⟩
  go_wp2_with fail
  go_ret
  exact ⟨rfl, rfl⟩
theorem logIx_cases (n : Nat) : (n = 1 ∧ logIx n = 0) ∨ (n = 2 ∧ logIx n = 1) ∨ (n = 4 ∧ logIx n = 2) ∨ (n = 8 ∧ logIx n = 3) ∨ (n = 16 ∧ logIx n = 4) ∨ (n = 32 ∧ logIx n = 5) ∨ (logIx n = 6 ∧ n ≠ 1 ∧ n ≠ 2 ∧ n ≠ 4 ∧ n ≠ 8 ∧ n ≠ 16 ∧ n ≠ 32) := by
  by_cases h1 : n = 1
  · subst h1; exact .inl ⟨rfl, rfl⟩
  by_cases h2 : n = 2
  · subst h2; exact .inr (.inl ⟨rfl, rfl⟩)
  by_cases h3 : n = 4
  · subst h3; exact .inr (.inr (.inl ⟨rfl, rfl⟩))
  by_cases h4 : n = 8
  · subst h4; exact .inr (.inr (.inr (.inl ⟨rfl, rfl⟩)))
  by_cases h5 : n = 16
  · subst h5; exact .inr (.inr (.inr (.inr (.inl ⟨rfl, rfl⟩))))
  by_cases h6 : n = 32
  · subst h6; exact .inr (.inr (.inr (.inr (.inr (.inl ⟨rfl, rfl⟩)))))
  refine .inr (.inr (.inr (.inr (.inr (.inr ⟨?_, h1, h2, h3, h4, h5, h6⟩)))))
  unfold logIx
  rw [if_neg h1, if_neg h2, if_neg h3, if_neg h4, if_neg h5, if_neg h6]

/-- what is told of the Logs -/
def LogsP (w : World) (M : List (List Int)) (e : Ending) (w' : World) : Prop :=
  ∃ lv, e = .returned (.tuple #[lv, .bool (hasLogs M && decide (M.length ≤ 3))]) ∧ (hasLogs M = true → M.length ≤ 3 → w'.ownsRow w.heap.size 3 1 lv (logsOf M).length ((logsOf M).map (Value.int .i64))) ∧ (∃ la ll lc, lv = .slice la ll lc) ∧ Below w.heap.size w w'
theorem LogsP.no {w w' : World} {M : List (List Int)} (h : hasLogs M = false ∨ ¬ M.length ≤ 3) (hb : Below w.heap.size w w') : LogsP w M (.returned (.tuple #[.slice none 0 0, .bool false])) w' := by
  refine ⟨.slice none 0 0, ?_, fun e1 e2 => ?_, ⟨_, _, _, rfl⟩, hb⟩
  · rcases h with h | h
    · rw [h]; rfl
    · rw [decide_eq_false h, Bool.and_false]
  · rcases h with h | h
    · rw [h] at e1; cases e1
    · exact absurd e2 h
set_option maxHeartbeats 8000000 in
theorem plogs_any (v : Value) (M : List (List Int)) (w : World) (h : IntRows w v M) :
    Calls Try.prog 62 #[v] w fun e w' => LogsP w M e w' := by
  obtain ⟨ma, mcap, rfl, ml, mm, mc⟩ := h
  unfold maxLen at mm
  obtain ⟨i0, hi, hz0, hz1, hz2⟩ := info_parts Try.i3
  have HMC := hide mc
  clear mc
  by_cases h3 : M.length ≤ 3
  · have h3i : ¬ (3 : Int) < (M.length : Int) := by omega
    have HD : Hid (decide (M.length ≤ 3) = true) := decide_eq_true h3
    go_enter Try.func62, Try.ntmps62
    go_wp2_with fail
    go_loopw [4, 14] (fun l i wr => ∃ k : Nat, k ≤ M.length ∧ i = .int .i64 k ∧ allN (fun i => hasLog (rowAt M i)) k = true ∧ Below w.heap.size w wr ∧ ∃ la lc, l = .slice la k lc ∧ wr.ownsRow w.heap.size 3 1 (.slice la k lc) k (((logsOf M).take k).map (Value.int .i64))) (fun _ i _ => M.length - (intOf i).toNat)
    case atStart => exact ⟨0, Nat.zero_le _, rfl, rfl, below_alloc1 _ _, _, 0, rfl, own_empty w 3⟩
    case round =>
      obtain ⟨k, hk, rfl, hall, hbel, la, lc, rfl, hown⟩ := hrel
      have HA := hide hall
      have HB := hide hbel
      have HO := hide hown
      have hsz := hbel.size
      clear hall hown
      by_cases hlt : k < M.length
      · have hki : (k : Int) < (M.length : Int) := by omega
        obtain ⟨b, off, rfl, hb, hrow⟩ := HMC.out (by omega)
        obtain ⟨u, hu, ⟨ra, rc, rfl, rl, rm, rr, rcell⟩⟩ := hrow k hlt
        rw [← bcell hbel _ _ hb] at hu
        have hbz : b < wr.heap.size := by omega
        unfold maxLen at rm
        clear rr rcell hrow hbel
        have HTK := hide (logs_take M k hlt)
        have HLG : Hid (∀ b, hasLog (rowAt M k) = b → decide (logIx (rowAt M k).length < 6) = b) := fun b h => h
        have HNO : Hid (logIx (rowAt M k).length = 6 → hasLogs M = false) := fun h => allN_false hlt (by show decide (logIx _ < 6) = false; rw [h]; rfl)
        have HYES : Hid (logIx (rowAt M k).length < 6 → hasLog (rowAt M k) = true) := fun h => decide_eq_true h
        obtain ⟨n, hn⟩ : ∃ n, (rowAt M k).length = n := ⟨_, rfl⟩
        rw [hn] at hu HTK HNO HYES rl
        clear hn HLG
        rename World => wo
        rcases logIx_cases n with ⟨rfl, hg⟩ | ⟨rfl, hg⟩ | ⟨rfl, hg⟩ | ⟨rfl, hg⟩ | ⟨rfl, hg⟩ | ⟨rfl, hg⟩ | ⟨hg, n1, n2, n4, n8, n16, n32⟩
        · have hin : inR 0 0 5 = true := rfl
          have HG := hide hg
          clear hg
          go_wp2_with (first
            | (go_at_call 73; refine (len_1 _).mono ?_; rintro e w' ⟨rfl, hw'⟩; have hw' := hw'.symm; subst hw')
            | (go_at_call 56; refine (pwithin_any _ _ _ _).mono ?_; rintro e w' ⟨rfl, hw'⟩; have hw' := hw'.symm; subst hw')
            | (at_builtin; refine wpList_append_own _ rfl (.tmp 33) (.tmp 35) 27 rfl w.heap.size 3 i0 (.int .i64 0) 1 8 Try.underlying27 hi hz0 hz1 hz2 rfl (by decide) _ _ _ rfl (own_below HO.out (below_alloc1 _ _)) ⟨wo.heap.size, 0, none⟩ 1 1 [.int .i64 0] rfl rfl (by exact one_cell _ _ _) (by intro u hu; simp at hu; subst hu; rfl) (by unfold maxLen; omega) (by omega) (by simp; omega) ?_; intro v1 w1 hown1 hgrow1 hnil1; obtain ⟨g1, cap1, rfl, -, -, -, -⟩ := own_parts hown1 (.inr (by omega)); have HO2 := hide hown1; have HG2 := hide hgrow1; clear hown1 hgrow1 hnil1))
          go_roundw
          case rel =>
            refine ⟨k + 1, by omega, by go_num, allN_step HA.out (HYES.out (by rw [HG.out]; omega)), ?_, _, _, rfl, ?_⟩
            · exact (HB.out.alloc (by omega) _).grown HG2.out (by simp; omega) (own_block_ge HO.out)
            · rw [← HTK.out, HG.out]; exact HO2.out
          case measure => simp [intOf]; omega
        · have hin : inR 1 0 5 = true := rfl
          have HG := hide hg
          clear hg
          go_wp2_with (first
            | (go_at_call 73; refine (len_2 _).mono ?_; rintro e w' ⟨rfl, hw'⟩; have hw' := hw'.symm; subst hw')
            | (go_at_call 56; refine (pwithin_any _ _ _ _).mono ?_; rintro e w' ⟨rfl, hw'⟩; have hw' := hw'.symm; subst hw')
            | (at_builtin; refine wpList_append_own _ rfl (.tmp 33) (.tmp 35) 27 rfl w.heap.size 3 i0 (.int .i64 0) 1 8 Try.underlying27 hi hz0 hz1 hz2 rfl (by decide) _ _ _ rfl (own_below HO.out (below_alloc1 _ _)) ⟨wo.heap.size, 0, none⟩ 1 1 [.int .i64 1] rfl rfl (by exact one_cell _ _ _) (by intro u hu; simp at hu; subst hu; rfl) (by unfold maxLen; omega) (by omega) (by simp; omega) ?_; intro v1 w1 hown1 hgrow1 hnil1; obtain ⟨g1, cap1, rfl, -, -, -, -⟩ := own_parts hown1 (.inr (by omega)); have HO2 := hide hown1; have HG2 := hide hgrow1; clear hown1 hgrow1 hnil1))
          go_roundw
          case rel =>
            refine ⟨k + 1, by omega, by go_num, allN_step HA.out (HYES.out (by rw [HG.out]; omega)), ?_, _, _, rfl, ?_⟩
            · exact (HB.out.alloc (by omega) _).grown HG2.out (by simp; omega) (own_block_ge HO.out)
            · rw [← HTK.out, HG.out]; exact HO2.out
          case measure => simp [intOf]; omega
        · have hin : inR 2 0 5 = true := rfl
          have HG := hide hg
          clear hg
          go_wp2_with (first
            | (go_at_call 73; refine (len_4 _).mono ?_; rintro e w' ⟨rfl, hw'⟩; have hw' := hw'.symm; subst hw')
            | (go_at_call 56; refine (pwithin_any _ _ _ _).mono ?_; rintro e w' ⟨rfl, hw'⟩; have hw' := hw'.symm; subst hw')
            | (at_builtin; refine wpList_append_own _ rfl (.tmp 33) (.tmp 35) 27 rfl w.heap.size 3 i0 (.int .i64 0) 1 8 Try.underlying27 hi hz0 hz1 hz2 rfl (by decide) _ _ _ rfl (own_below HO.out (below_alloc1 _ _)) ⟨wo.heap.size, 0, none⟩ 1 1 [.int .i64 2] rfl rfl (by exact one_cell _ _ _) (by intro u hu; simp at hu; subst hu; rfl) (by unfold maxLen; omega) (by omega) (by simp; omega) ?_; intro v1 w1 hown1 hgrow1 hnil1; obtain ⟨g1, cap1, rfl, -, -, -, -⟩ := own_parts hown1 (.inr (by omega)); have HO2 := hide hown1; have HG2 := hide hgrow1; clear hown1 hgrow1 hnil1))
          go_roundw
          case rel =>
            refine ⟨k + 1, by omega, by go_num, allN_step HA.out (HYES.out (by rw [HG.out]; omega)), ?_, _, _, rfl, ?_⟩
            · exact (HB.out.alloc (by omega) _).grown HG2.out (by simp; omega) (own_block_ge HO.out)
            · rw [← HTK.out, HG.out]; exact HO2.out
          case measure => simp [intOf]; omega
        · have hin : inR 3 0 5 = true := rfl
          have HG := hide hg
          clear hg
          go_wp2_with (first
            | (go_at_call 73; refine (len_8 _).mono ?_; rintro e w' ⟨rfl, hw'⟩; have hw' := hw'.symm; subst hw')
            | (go_at_call 56; refine (pwithin_any _ _ _ _).mono ?_; rintro e w' ⟨rfl, hw'⟩; have hw' := hw'.symm; subst hw')
            | (at_builtin; refine wpList_append_own _ rfl (.tmp 33) (.tmp 35) 27 rfl w.heap.size 3 i0 (.int .i64 0) 1 8 Try.underlying27 hi hz0 hz1 hz2 rfl (by decide) _ _ _ rfl (own_below HO.out (below_alloc1 _ _)) ⟨wo.heap.size, 0, none⟩ 1 1 [.int .i64 3] rfl rfl (by exact one_cell _ _ _) (by intro u hu; simp at hu; subst hu; rfl) (by unfold maxLen; omega) (by omega) (by simp; omega) ?_; intro v1 w1 hown1 hgrow1 hnil1; obtain ⟨g1, cap1, rfl, -, -, -, -⟩ := own_parts hown1 (.inr (by omega)); have HO2 := hide hown1; have HG2 := hide hgrow1; clear hown1 hgrow1 hnil1))
          go_roundw
          case rel =>
            refine ⟨k + 1, by omega, by go_num, allN_step HA.out (HYES.out (by rw [HG.out]; omega)), ?_, _, _, rfl, ?_⟩
            · exact (HB.out.alloc (by omega) _).grown HG2.out (by simp; omega) (own_block_ge HO.out)
            · rw [← HTK.out, HG.out]; exact HO2.out
          case measure => simp [intOf]; omega
        · have hin : inR 4 0 5 = true := rfl
          have HG := hide hg
          clear hg
          go_wp2_with (first
            | (go_at_call 73; refine (len_16 _).mono ?_; rintro e w' ⟨rfl, hw'⟩; have hw' := hw'.symm; subst hw')
            | (go_at_call 56; refine (pwithin_any _ _ _ _).mono ?_; rintro e w' ⟨rfl, hw'⟩; have hw' := hw'.symm; subst hw')
            | (at_builtin; refine wpList_append_own _ rfl (.tmp 33) (.tmp 35) 27 rfl w.heap.size 3 i0 (.int .i64 0) 1 8 Try.underlying27 hi hz0 hz1 hz2 rfl (by decide) _ _ _ rfl (own_below HO.out (below_alloc1 _ _)) ⟨wo.heap.size, 0, none⟩ 1 1 [.int .i64 4] rfl rfl (by exact one_cell _ _ _) (by intro u hu; simp at hu; subst hu; rfl) (by unfold maxLen; omega) (by omega) (by simp; omega) ?_; intro v1 w1 hown1 hgrow1 hnil1; obtain ⟨g1, cap1, rfl, -, -, -, -⟩ := own_parts hown1 (.inr (by omega)); have HO2 := hide hown1; have HG2 := hide hgrow1; clear hown1 hgrow1 hnil1))
          go_roundw
          case rel =>
            refine ⟨k + 1, by omega, by go_num, allN_step HA.out (HYES.out (by rw [HG.out]; omega)), ?_, _, _, rfl, ?_⟩
            · exact (HB.out.alloc (by omega) _).grown HG2.out (by simp; omega) (own_block_ge HO.out)
            · rw [← HTK.out, HG.out]; exact HO2.out
          case measure => simp [intOf]; omega
        · have hin : inR 5 0 5 = true := rfl
          have HG := hide hg
          clear hg
          go_wp2_with (first
            | (go_at_call 73; refine (len_32 _).mono ?_; rintro e w' ⟨rfl, hw'⟩; have hw' := hw'.symm; subst hw')
            | (go_at_call 56; refine (pwithin_any _ _ _ _).mono ?_; rintro e w' ⟨rfl, hw'⟩; have hw' := hw'.symm; subst hw')
            | (at_builtin; refine wpList_append_own _ rfl (.tmp 33) (.tmp 35) 27 rfl w.heap.size 3 i0 (.int .i64 0) 1 8 Try.underlying27 hi hz0 hz1 hz2 rfl (by decide) _ _ _ rfl (own_below HO.out (below_alloc1 _ _)) ⟨wo.heap.size, 0, none⟩ 1 1 [.int .i64 5] rfl rfl (by exact one_cell _ _ _) (by intro u hu; simp at hu; subst hu; rfl) (by unfold maxLen; omega) (by omega) (by simp; omega) ?_; intro v1 w1 hown1 hgrow1 hnil1; obtain ⟨g1, cap1, rfl, -, -, -, -⟩ := own_parts hown1 (.inr (by omega)); have HO2 := hide hown1; have HG2 := hide hgrow1; clear hown1 hgrow1 hnil1))
          go_roundw
          case rel =>
            refine ⟨k + 1, by omega, by go_num, allN_step HA.out (HYES.out (by rw [HG.out]; omega)), ?_, _, _, rfl, ?_⟩
            · exact (HB.out.alloc (by omega) _).grown HG2.out (by simp; omega) (own_block_ge HO.out)
            · rw [← HTK.out, HG.out]; exact HO2.out
          case measure => simp [intOf]; omega
        · have HL : Hid (hasLogs M = false) := HNO.out hg
          have b1 : ((n : Int) == 1) = false := beq_eq_false_iff_ne.2 (by omega)
          have b2 : ((n : Int) == 2) = false := beq_eq_false_iff_ne.2 (by omega)
          have b4 : ((n : Int) == 4) = false := beq_eq_false_iff_ne.2 (by omega)
          have b8 : ((n : Int) == 8) = false := beq_eq_false_iff_ne.2 (by omega)
          have b16 : ((n : Int) == 16) = false := beq_eq_false_iff_ne.2 (by omega)
          have b32 : ((n : Int) == 32) = false := beq_eq_false_iff_ne.2 (by omega)
          clear hg n1 n2 n4 n8 n16 n32 HTK HYES HNO
          go_wp2_with fail
          refine (len_some n _ (by omega)).mono ?_
          rintro e w' ⟨r, rfl, rfl⟩
          obtain ⟨lg, hlg⟩ : ∃ lg, wrap64 (r - 1) = lg := ⟨_, rfl⟩
          cases hin : inR lg 0 5 with
          | false =>
            go_wp2_with (go_at_call 56; refine (pwithin_any _ _ _ _).mono ?_; rintro e w' ⟨rfl, rfl⟩)
            exact bodyPost_ret (v := .tuple #[.slice none 0 0, .bool false]) (by simp [results, Try.results62, go_sem]) rfl (LogsP.no (.inl HL.out) HB.out)
          | true =>
            have hlr := inR_iff.1 hin
            obtain rfl | rfl | rfl | rfl | rfl | rfl : lg = 0 ∨ lg = 1 ∨ lg = 2 ∨ lg = 3 ∨ lg = 4 ∨ lg = 5 := by omega
            all_goals
              clear hlr
              go_wp2_with (go_at_call 56; refine (pwithin_any _ _ _ _).mono ?_; rintro e w' ⟨rfl, rfl⟩)
              exact bodyPost_ret (v := .tuple #[.slice none 0 0, .bool false]) (by simp [results, Try.results62, go_sem]) rfl (LogsP.no (.inl HL.out) HB.out)
      · have e : k = M.length := by omega
        subst e
        have hki : ¬ (M.length : Int) < (M.length : Int) := by omega
        have HL : Hid (hasLogs M = true) := HA.out
        have HO2 : Hid (wr.ownsRow w.heap.size 3 1 (.slice la M.length lc) (logsOf M).length ((logsOf M).map (Value.int .i64))) := by
          have h := HO.out
          rw [List.take_of_length_le (by rw [logsOf_len]; omega)] at h
          show wr.ownsRow _ _ _ _ (logsOf M).length _
          rw [logsOf_len]; exact h
        clear hbel
        go_wp2_with fail
        exact bodyPost_ret (v := .tuple #[.slice la M.length lc, .bool true]) (by simp [results, Try.results62, go_sem]) rfl ⟨_, by rw [HL.out, HD.out]; rfl, fun _ _ => HO2.out, ⟨_, _, _, rfl⟩, HB.out⟩
  · have h3i : (3 : Int) < (M.length : Int) := by omega
    have HN3 := hide h3
    go_enter Try.func62, Try.ntmps62
    go_wp2_with fail
    exact bodyPost_ret (v := .tuple #[.slice none 0 0, .bool false]) (by simp [results, Try.results62, go_sem]) rfl (LogsP.no (.inr HN3.out) (Below.refl _ _))
end Go.Proofs.Ytlgphgfldfjkkaa
