/- The contract of the document's own reckoning of Logs; nothing that was there is changed. -/
import Derived.Test.YtlgphgfldfjkkaaLogsMath
import Derived.Test.YtlgphgfldfjkkaaIndex
import Derived.Test.YtlgphgfldfjkkaaRef3Copy
import Derived.Deep.QuietTactic
import Derived.BigQuiet
import Derived.Deep.RegionHeld3
import Derived.BigRegion
namespace Go.Proofs.Ytlgphgfldfjkkaa
open Go.RowKit Go.Joins
set_option linter.unusedVariables false

theorem Try.i3 : (Try.prog.info? 3).map (fun i => (i.zero, i.size, i.bytes)) = some (some (.int .i64 0), 1, 8) := by kernel_rfl
theorem logs_take (M : List (List Int)) (k : Nat) (h : k < M.length) : ((logsOf M).take k).map (Value.int .i64) ++ [.int .i64 (logIx (rowAt M k).length : Int)] = ((logsOf M).take (k + 1)).map (Value.int .i64) := by
  have hl : k < (logsOf M).length := by rw [logsOf_len]; exact h
  rw [List.take_succ_eq_append_getElem hl, List.map_append]
  congr 1
  have := logsOf_nth M k h
  simp [nth, List.getD, hl] at this
  simp [this]
theorem p2_ne {g n : Nat} (h : 2 ^ g ≠ n) : (p2 g != (n : Int)) = true := by
  unfold p2
  simp only [bne_iff_ne, ne_eq]
  omega
theorem p2_eq {g n : Nat} (h : 2 ^ g = n) : (p2 g != (n : Int)) = false := by
  unfold p2
  rw [h]; simp
theorem own_shape2 {w : World} {base : Nat} {e : TypeId} {v : Value} {n : Nat} {xs : List Value} (h : w.ownsRow base e 1 v n xs) : ∃ a cap, v = .slice a n cap ∧ n ≤ cap ∧ cap ≤ maxLen := by
  obtain ⟨hl, h⟩ := h
  rcases h with ⟨rfl, rfl⟩ | ⟨g, cap, cur, rfl, hg, hb, hn, hm, r⟩
  · exact ⟨none, 0, rfl, Nat.le_refl _, Nat.zero_le _⟩
  · exact ⟨_, cap, rfl, hn, hm⟩
theorem ints_of_own2 {w : World} {base : Nat} {e : TypeId} {v : Value} {zs : List Int} (h : w.ownsRow base e 1 v zs.length (zs.map (Value.int .i64))) (hz : ∀ i, i < zs.length → -9223372036854775808 ≤ nth zs i ∧ nth zs i ≤ 9223372036854775807) : Ints w v zs := by
  obtain ⟨a, cap, hv, h1, h2⟩ := own_shape2 h
  refine ⟨a, cap, hv, h1, h2, hz, fun hp => ?_⟩
  obtain ⟨g, c, hv2, hg, h3, h4, hr⟩ := own_parts h (.inr hp)
  rw [hv] at hv2
  injection hv2 with e1 e2 e3
  refine ⟨g, 0, e1, hr.lt, fun i hi => ?_⟩
  rw [Nat.zero_add, hr.cell hi, getD_ints zs i hi]

set_option maxRecDepth 8192 in
set_option maxHeartbeats 2000000 in
theorem logs_any (v : Value) (M : List (List Int)) (w : World) (h : IntRows w v M) (hbig : M.length * 24 ≤ 140737488351232) :
    Calls Try.prog 30 #[v] w fun e w' => ∃ lv, e = .returned (.tuple #[lv, .bool (hasLogs M)]) ∧ (hasLogs M = true → Ints w' lv (logsOf M) ∧ w'.ownsRow w.heap.size 3 1 lv (logsOf M).length ((logsOf M).map (Value.int .i64))) ∧ (hasLogs M = false → lv = .slice none 0 0) ∧ Below w.heap.size w w' := by
  obtain ⟨ma, mcap, rfl, ml, mm, mc⟩ := h
  unfold maxLen at mm
  obtain ⟨i0, hi, hz0, hz1, hz2⟩ := info_parts Try.i3
  have HMC := hide mc
  clear mc
  go_enter Try.func30, Try.ntmps30
  go_wp2_with fail
  go_loopw [4, 5] (fun l i wr => ∃ k : Nat, k ≤ M.length ∧ i = .int .i64 k ∧ allN (fun i => hasLog (rowAt M i)) k = true ∧ Below w.heap.size w wr ∧ ∃ la lc, l = .slice la k lc ∧ wr.ownsRow w.heap.size 3 1 (.slice la k lc) k (((logsOf M).take k).map (Value.int .i64))) (fun _ i _ => M.length - (intOf i).toNat)
  case atStart => exact ⟨0, Nat.zero_le _, rfl, rfl, Below.refl _ _, none, 0, rfl, World.ownsRow_nil _ _ _ _⟩
  case round =>
    obtain ⟨k, hk, rfl, hall, hbel, la, lc, rfl, hown⟩ := hrel
    have HA := hide hall
    have HB := hide hbel
    have HO := hide hown
    have hsz := hbel.size
    clear hall hown
    by_cases hlt : k < M.length
    · have hki : (k : Int) < (M.length : Int) := by omega
      obtain ⟨b, off, rfl, hb, hrow⟩ := HMC.out (by omega)
      obtain ⟨u, hu, ⟨ra, rc, rfl, rl, rm, rr, rcell⟩⟩ := hrow k hlt
      rw [← bcell hbel _ _ hb] at hu
      have hbz : b < wr.heap.size := by omega
      clear rr rcell hrow hbel
      rename World => wo
      go_wp2_with fail
      go_loopw [6] (fun i wq => ∃ g n : Nat, g ≤ 6 ∧ i = .int .i64 g ∧ (∀ j, j < g → 2 ^ j ≠ (rowAt M k).length) ∧ wq = wo.drewN n) (fun i _ => 6 - (intOf i).toNat)
      case atStart => exact ⟨0, 0, by omega, rfl, fun j hj => absurd hj (Nat.not_lt_zero _), rfl⟩
      case round =>
        obtain ⟨g, n, hg, rfl, hno, rfl⟩ := hrel
        have HNO := hide hno
        clear hno
        by_cases hg6 : g = 6
        · have hgi : ¬ (g : Int) ≤ 5 := by omega
          have hg5 : (5 : Int) < (g : Int) := by omega
          have HL : Hid (hasLogs M = false) := by
            show hasLogs M = false
            refine allN_false hlt ?_
            show decide (logIx _ < 6) = false
            rw [logIx_none (fun j hj => HNO.out j (by omega))]; rfl
          go_wp2_with fail
          go_quiet ((fail))
          go_wp2_with fail
          refine bodyPost_ret (v := .tuple #[.slice none 0 0, .bool false]) (by simp [results, Try.results30, go_sem]) rfl ⟨_, by rw [HL.out], fun e => ?_, fun _ => rfl, HB.out.trans (below_draws _ _ _)⟩
          rw [HL.out] at e; cases e
        · have hgi : (g : Int) ≤ 5 := by omega
          have hg5 : ¬ (5 : Int) < (g : Int) := by omega
          by_cases hgl : 2 ^ g = (rowAt M k).length
          · have hne := p2_eq hgl
            have HG := hide (logIx_of (by omega) hgl)
            clear hgl
            go_wp2_with fail
            go_region_held3 (fun w' => w'.cell? ⟨b, off + k, none⟩ = some (.slice ra (rowAt M k).length rc)) ((go_keep; done)) (first | (go_at_call 43; refine (size_any g _ (by omega)).mono ?_; rintro e w' ⟨rfl, rfl⟩))
            go_wp2_with (at_builtin; refine wpList_append_own _ rfl (.tmp 29) (.tmp 31) 27 rfl w.heap.size 3 i0 (.int .i64 0) 1 8 Try.underlying27 hi hz0 hz1 hz2 rfl (by decide) _ _ _ rfl (own_below HO.out (by first | exact (below_draws _ _ _).alloc (Nat.le_refl _) _ | exact (below_alloc1 _ _).trans (below_draws _ _ _))) ⟨wo.heap.size, 0, none⟩ 1 1 [.int .i64 g] rfl rfl (by exact one_cell _ _ _) (by intro u hu; simp at hu; subst hu; rfl) (by unfold maxLen; omega) (by omega) (by simp; omega) ?_; intro v2 w2 hown2 hgrow2 hnil2; obtain ⟨la2, lc2, rfl, hl1, hl2⟩ := own_shape2 hown2; have HO2 := hide hown2; have HG2 := hide hgrow2; clear hown2 hgrow2)
            go_roundw
            case rel =>
              refine ⟨k + 1, by omega, by go_num, allN_step HA.out (by show decide (logIx _ < 6) = true; rw [HG.out]; simp; omega), ?_, la2, lc2, rfl, ?_⟩
              · exact (HB.out.trans ((below_draws _ _ _).alloc (by simp; omega) _)).grown HG2.out (by simp; omega) (own_block_ge HO.out)
              · rw [← logs_take M k hlt, HG.out]; exact HO2.out
            case measure => simp [intOf]; omega
          · have hne := p2_ne hgl
            have HGL := hide hgl
            clear hgl
            go_wp2_with fail
            go_region_held3 (fun w' => w'.cell? ⟨b, off + k, none⟩ = some (.slice ra (rowAt M k).length rc)) ((go_keep; done)) (first | (go_at_call 43; refine (size_any g _ (by omega)).mono ?_; rintro e w' ⟨rfl, rfl⟩))
            go_wp2_with fail
            go_roundw
            case rel => exact ⟨g + 1, n + 1, by omega, by go_num, fun j hj => by
              by_cases e : j = g
              · rw [e]; exact HGL.out
              · exact HNO.out j (by omega), rfl⟩
            case measure => simp [intOf]; omega
    · have e : k = M.length := by omega
      subst e
      have HL : Hid (hasLogs M = true) := HA.out
      have HO2 : Hid (wr.ownsRow w.heap.size 3 1 (.slice la M.length lc) (logsOf M).length ((logsOf M).map (Value.int .i64))) := by
        have h := HO.out
        rw [List.take_of_length_le (by rw [logsOf_len]; omega)] at h
        show wr.ownsRow _ _ _ _ (logsOf M).length _
        rw [logsOf_len]; exact h
      clear hbel
      go_wp2_with fail
      refine bodyPost_ret (v := .tuple #[.slice la M.length lc, .bool true]) (by simp [results, Try.results30, go_sem]) rfl ⟨_, by rw [HL.out], fun _ => ⟨?_, HO2.out⟩, fun e => ?_, HB.out⟩
      · refine ints_of_own2 HO2.out (fun i hi => ?_)
        rw [logsOf_nth M i (by rw [logsOf_len] at hi; exact hi)]
        have := logIx_le (rowAt M i).length
        omega
      · rw [HL.out] at e; cases e
end Go.Proofs.Ytlgphgfldfjkkaa
