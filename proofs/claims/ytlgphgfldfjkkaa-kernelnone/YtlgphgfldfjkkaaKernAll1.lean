/- The contracts of package kernel: May and Run answer as the document says. -/
import Derived.Test.YtlgphgfldfjkkaaKernMay
import Derived.Test.YtlgphgfldfjkkaaKernBeg
import Derived.Test.YtlgphgfldfjkkaaKernLogs
import Derived.Test.YtlgphgfldfjkkaaKernRuns
namespace Go.Proofs.Ytlgphgfldfjkkaa
open Go.RowKit Go.Joins
set_option linter.unusedVariables false
set_option linter.unusedSimpArgs false
set_option maxRecDepth 8192

theorem kernelMay_all : MayC := fun t kv K la lc logs w h1 h2 => kernelMay t kv K la lc logs w h1 h2
/-- what Run is asked for -/
def RunP (w : World) (t : Tg) (K : Kn) (R : List Int) (M : List (List Int)) (turns : Int) (e : Ending) (w' : World) : Prop :=
  ∃ ra rc ma mc rl ml, e = .returned (.tuple #[.slice ra rl rc, .slice ma ml mc, .int .i64 (wrongK t K R.length M turns)]) ∧ Below w.heap.size w w' ∧
    (wrongK t K R.length M turns = 0 → Ints w' (.slice ra rl rc) (regsOf R.length (playK t K (logsOf M) turns R M)) ∧ IntRows w' (.slice ma ml mc) (wordsOf M (playK t K (logsOf M) turns R M))) ∧ (wrongK t K R.length M turns ≠ 0 → rl = 0 ∧ ml = 0)
theorem RunP.no {w w' : World} {t : Tg} {K : Kn} {R : List Int} {M : List (List Int)} {turns c : Int} (h : wrongK t K R.length M turns = c) (hc : c ≠ 0) (hb : Below w.heap.size w w') : RunP w t K R M turns (.returned (.tuple #[.slice none 0 0, .slice none 0 0, .int .i64 c])) w' :=
  ⟨none, 0, none, 0, 0, 0, by rw [h], hb, fun e => absurd (h.symm.trans e) hc, fun _ => ⟨rfl, rfl⟩⟩
theorem wrong_few {t : Tg} {K : Kn} {n : Nat} {M : List (List Int)} {turns : Int} (h : (hasLogs M && decide (M.length ≤ 3)) = false) : wrongK t K n M turns = 2 := by
  unfold wrongK
  refine if_neg fun h2 => ?_
  rw [h2.1, Bool.true_and] at h
  have h3 := of_decide_eq_false h
  obtain ⟨-, -, -, -, -, ho1, -, hall⟩ := mayK_parts h2.2.1
  have h4 := (one_parts (hall 0 (by omega))).2.2.2.2.2.1
  rw [logsOf_len] at h4
  omega

theorem ints_logs {w : World} {base : Nat} {v : Value} {M : List (List Int)} (h : w.ownsRow base 3 1 v (logsOf M).length ((logsOf M).map (Value.int .i64))) : Ints w v (logsOf M) :=
  ints_of_own2 h fun i hi => by
    rw [logsOf_nth M i (by rw [logsOf_len] at hi; exact hi)]
    have := logIx_le (rowAt M i).length
    omega
set_option maxHeartbeats 2000000 in
theorem krun_logs (p0 p1 p2 q0 q1 q2 r pc st : Int) (ops : List Kop) (ka : Option Addr) (kc : Nat) (ra : Option Addr) (rc : Nat) (R : List Int) (ma : Option Addr) (mc : Nat) (M : List (List Int)) (turns : Int) (w : World) (hK : KernV w (.agg #[.int .i64 pc, .int .i64 st, .slice ka ops.length kc]) ⟨pc, st, ops⟩) (hR : Ints w (.slice ra R.length rc) R) (hM : IntRows w (.slice ma M.length mc) M) (hf : (hasLogs M && decide (M.length ≤ 3)) = false) : Calls Try.prog 35 #[.agg #[.int .i64 p0, .int .i64 p1, .int .i64 p2, .int .i64 q0, .int .i64 q1, .int .i64 q2, .int .i64 r], .agg #[.int .i64 pc, .int .i64 st, .slice ka ops.length kc], .slice ra R.length rc, .slice ma M.length mc, .int .i64 turns] w fun e w' => RunP w ⟨p0, p1, p2, q0, q1, q2, r⟩ ⟨pc, st, ops⟩ R M turns e w' := by
  have HKV := hide hK
  have HMV := hide hM
  have HRV := hide hR
  have HB0 : Hid (Below w.heap.size w ((w.alloc (.cells #[.int .i64 p0, .int .i64 p1, .int .i64 p2, .int .i64 q0, .int .i64 q1, .int .i64 q2, .int .i64 r] 49)).alloc (.cells #[.int .i64 pc, .int .i64 st, .slice ka ops.length kc] 55))) := below_alloc2 _ _ _
  have HL := hide (plogs_any (.slice ma M.length mc) M ((w.alloc (.cells #[.int .i64 p0, .int .i64 p1, .int .i64 p2, .int .i64 q0, .int .i64 q1, .int .i64 q2, .int .i64 r] 49)).alloc (.cells #[.int .i64 pc, .int .i64 st, .slice ka ops.length kc] 55)) (hM.below (below_alloc2 _ _ _)))
  have HBX0 : Hid ((((w.alloc (.cells #[.int .i64 p0, .int .i64 p1, .int .i64 p2, .int .i64 q0, .int .i64 q1, .int .i64 q2, .int .i64 r] 49)).alloc (.cells #[.int .i64 pc, .int .i64 st, .slice ka ops.length kc] 55))).heap[w.heap.size]? = some (.cells #[.int .i64 p0, .int .i64 p1, .int .i64 p2, .int .i64 q0, .int .i64 q1, .int .i64 q2, .int .i64 r] 49 (0, 0)) ∧ (((w.alloc (.cells #[.int .i64 p0, .int .i64 p1, .int .i64 p2, .int .i64 q0, .int .i64 q1, .int .i64 q2, .int .i64 r] 49)).alloc (.cells #[.int .i64 pc, .int .i64 st, .slice ka ops.length kc] 55))).heap[w.heap.size + 1]? = some (.cells #[.int .i64 pc, .int .i64 st, .slice ka ops.length kc] 55 (0, 0))) := by
    refine ⟨?_, ?_⟩
    · rw [Below.heap_alloc _ _ _ (by simp)]; exact new_block _ _ _
    · have e : (w.alloc (.cells #[.int .i64 p0, .int .i64 p1, .int .i64 p2, .int .i64 q0, .int .i64 q1, .int .i64 q2, .int .i64 r] 49)).heap.size = w.heap.size + 1 := by simp
      rw [← e]; exact new_block _ _ _
  have hz0 : w.heap.size + 1 < ((w.alloc (.cells #[.int .i64 p0, .int .i64 p1, .int .i64 p2, .int .i64 q0, .int .i64 q1, .int .i64 q2, .int .i64 r] 49)).alloc (.cells #[.int .i64 pc, .int .i64 st, .slice ka ops.length kc] 55)).heap.size := by simp
  unfold LogsP at HL
  rw [hf] at HL
  have HW := hide (wrong_few (t := ⟨p0, p1, p2, q0, q1, q2, r⟩) (K := ⟨pc, st, ops⟩) (n := R.length) (turns := turns) hf)
  clear hK hM hR hf
  go_enter Try.func35, Try.ntmps35
  go_wp2_with fail
  refine HL.out.mono ?_
  rintro e x1 ⟨lv, rfl, hlv, ⟨la, ll, lc, rfl⟩, hb⟩
  have HX1 := hide (HB0.out.trans (hb.mono (by simp; omega)))
  have HBX : Hid ((x1).heap[w.heap.size]? = some (.cells #[.int .i64 p0, .int .i64 p1, .int .i64 p2, .int .i64 q0, .int .i64 q1, .int .i64 q2, .int .i64 r] 49 (0, 0)) ∧ (x1).heap[w.heap.size + 1]? = some (.cells #[.int .i64 pc, .int .i64 st, .slice ka ops.length kc] 55 (0, 0))) := ⟨by rw [hb.block _ (by omega)]; exact HBX0.out.1, by rw [hb.block _ (by omega)]; exact HBX0.out.2⟩
  have hzx : w.heap.size + 1 < x1.heap.size := by have := hb.size; omega
  have HLV := hide hlv
  have HZ1 := hide hb.size
  clear hlv hb HL
  go_wp2_with fail
  exact bodyPost_ret (v := .tuple #[.slice none 0 0, .slice none 0 0, .int .i64 2]) (by simp [results, Try.results35, go_sem]) rfl (RunP.no HW.out (by decide) HX1.out)
set_option maxHeartbeats 2000000 in
theorem krun_may (p0 p1 p2 q0 q1 q2 r pc st : Int) (ops : List Kop) (ka : Option Addr) (kc : Nat) (ra : Option Addr) (rc : Nat) (R : List Int) (ma : Option Addr) (mc : Nat) (M : List (List Int)) (turns : Int) (w : World) (hK : KernV w (.agg #[.int .i64 pc, .int .i64 st, .slice ka ops.length kc]) ⟨pc, st, ops⟩) (hR : Ints w (.slice ra R.length rc) R) (hM : IntRows w (.slice ma M.length mc) M) (hf : (hasLogs M && decide (M.length ≤ 3)) = true) (hmay : mayK ⟨p0, p1, p2, q0, q1, q2, r⟩ ⟨pc, st, ops⟩ (logsOf M) = false) : Calls Try.prog 35 #[.agg #[.int .i64 p0, .int .i64 p1, .int .i64 p2, .int .i64 q0, .int .i64 q1, .int .i64 q2, .int .i64 r], .agg #[.int .i64 pc, .int .i64 st, .slice ka ops.length kc], .slice ra R.length rc, .slice ma M.length mc, .int .i64 turns] w fun e w' => RunP w ⟨p0, p1, p2, q0, q1, q2, r⟩ ⟨pc, st, ops⟩ R M turns e w' := by
  have HKV := hide hK
  have HMV := hide hM
  have HRV := hide hR
  have HB0 : Hid (Below w.heap.size w ((w.alloc (.cells #[.int .i64 p0, .int .i64 p1, .int .i64 p2, .int .i64 q0, .int .i64 q1, .int .i64 q2, .int .i64 r] 49)).alloc (.cells #[.int .i64 pc, .int .i64 st, .slice ka ops.length kc] 55))) := below_alloc2 _ _ _
  have HL := hide (plogs_any (.slice ma M.length mc) M ((w.alloc (.cells #[.int .i64 p0, .int .i64 p1, .int .i64 p2, .int .i64 q0, .int .i64 q1, .int .i64 q2, .int .i64 r] 49)).alloc (.cells #[.int .i64 pc, .int .i64 st, .slice ka ops.length kc] 55)) (hM.below (below_alloc2 _ _ _)))
  have HBX0 : Hid ((((w.alloc (.cells #[.int .i64 p0, .int .i64 p1, .int .i64 p2, .int .i64 q0, .int .i64 q1, .int .i64 q2, .int .i64 r] 49)).alloc (.cells #[.int .i64 pc, .int .i64 st, .slice ka ops.length kc] 55))).heap[w.heap.size]? = some (.cells #[.int .i64 p0, .int .i64 p1, .int .i64 p2, .int .i64 q0, .int .i64 q1, .int .i64 q2, .int .i64 r] 49 (0, 0)) ∧ (((w.alloc (.cells #[.int .i64 p0, .int .i64 p1, .int .i64 p2, .int .i64 q0, .int .i64 q1, .int .i64 q2, .int .i64 r] 49)).alloc (.cells #[.int .i64 pc, .int .i64 st, .slice ka ops.length kc] 55))).heap[w.heap.size + 1]? = some (.cells #[.int .i64 pc, .int .i64 st, .slice ka ops.length kc] 55 (0, 0))) := by
    refine ⟨?_, ?_⟩
    · rw [Below.heap_alloc _ _ _ (by simp)]; exact new_block _ _ _
    · have e : (w.alloc (.cells #[.int .i64 p0, .int .i64 p1, .int .i64 p2, .int .i64 q0, .int .i64 q1, .int .i64 q2, .int .i64 r] 49)).heap.size = w.heap.size + 1 := by simp
      rw [← e]; exact new_block _ _ _
  have hz0 : w.heap.size + 1 < ((w.alloc (.cells #[.int .i64 p0, .int .i64 p1, .int .i64 p2, .int .i64 q0, .int .i64 q1, .int .i64 q2, .int .i64 r] 49)).alloc (.cells #[.int .i64 pc, .int .i64 st, .slice ka ops.length kc] 55)).heap.size := by simp
  unfold LogsP at HL
  rw [hf] at HL
  have hf2 : hasLogs M = true ∧ M.length ≤ 3 := by simpa using hf
  have HW : Hid (wrongK ⟨p0, p1, p2, q0, q1, q2, r⟩ ⟨pc, st, ops⟩ R.length M turns = 2) := by show _ = _; unfold wrongK; rw [if_neg (fun h => by rw [hmay] at h; exact Bool.noConfusion h.2.1)]
  have HMAY : Hid (∀ (la : Option Addr) (lc : Nat) W, KernV W (.agg #[.int .i64 pc, .int .i64 st, .slice ka ops.length kc]) ⟨pc, st, ops⟩ → Ints W (.slice la (logsOf M).length lc) (logsOf M) → Calls Try.prog 31 #[.agg #[.int .i64 p0, .int .i64 p1, .int .i64 p2, .int .i64 q0, .int .i64 q1, .int .i64 q2, .int .i64 r], .agg #[.int .i64 pc, .int .i64 st, .slice ka ops.length kc], .slice la (logsOf M).length lc] W fun e w' => e = .returned (.bool false) ∧ Below W.heap.size W w') := fun la lc W h1 h2 => by
    have h := kernelMay ⟨p0, p1, p2, q0, q1, q2, r⟩ _ ⟨pc, st, ops⟩ la lc (logsOf M) W h1 h2
    rw [hmay] at h
    exact h
  have HF2 := hide hf2
  clear hK hM hR hf hmay hf2
  go_enter Try.func35, Try.ntmps35
  go_wp2_with fail
  refine HL.out.mono ?_
  rintro e x1 ⟨lv, rfl, hlv, ⟨la, ll, lc, rfl⟩, hb⟩
  have HX1 := hide (HB0.out.trans (hb.mono (by simp; omega)))
  have HBX : Hid ((x1).heap[w.heap.size]? = some (.cells #[.int .i64 p0, .int .i64 p1, .int .i64 p2, .int .i64 q0, .int .i64 q1, .int .i64 q2, .int .i64 r] 49 (0, 0)) ∧ (x1).heap[w.heap.size + 1]? = some (.cells #[.int .i64 pc, .int .i64 st, .slice ka ops.length kc] 55 (0, 0))) := ⟨by rw [hb.block _ (by omega)]; exact HBX0.out.1, by rw [hb.block _ (by omega)]; exact HBX0.out.2⟩
  have hzx : w.heap.size + 1 < x1.heap.size := by have := hb.size; omega
  have HLV := hide hlv
  have HZ1 := hide hb.size
  have HI := ints_logs (hlv HF2.out.1 HF2.out.2)
  have hll : ll = (logsOf M).length := by
    obtain ⟨a, c, e, _⟩ := ownz_shape (hlv HF2.out.1 HF2.out.2)
    injection e
  subst hll
  have HC := hide (HMAY.out la lc x1 (HKV.out.below HX1.out) HI)
  have t0 : x1.cell? ⟨w.heap.size, 0, none⟩ = some (.int .i64 p0) := by rw [cell_of_block HBX.out.1]; rfl
  have t1 : x1.cell? ⟨w.heap.size, 1, none⟩ = some (.int .i64 p1) := by rw [cell_of_block HBX.out.1]; rfl
  have t2 : x1.cell? ⟨w.heap.size, 2, none⟩ = some (.int .i64 p2) := by rw [cell_of_block HBX.out.1]; rfl
  have t3 : x1.cell? ⟨w.heap.size, 3, none⟩ = some (.int .i64 q0) := by rw [cell_of_block HBX.out.1]; rfl
  have t4 : x1.cell? ⟨w.heap.size, 4, none⟩ = some (.int .i64 q1) := by rw [cell_of_block HBX.out.1]; rfl
  have t5 : x1.cell? ⟨w.heap.size, 5, none⟩ = some (.int .i64 q2) := by rw [cell_of_block HBX.out.1]; rfl
  have t6 : x1.cell? ⟨w.heap.size, 6, none⟩ = some (.int .i64 r) := by rw [cell_of_block HBX.out.1]; rfl
  have k0 : x1.cell? ⟨w.heap.size + 1, 0, none⟩ = some (.int .i64 pc) := by rw [cell_of_block HBX.out.2]; rfl
  have k1 : x1.cell? ⟨w.heap.size + 1, 1, none⟩ = some (.int .i64 st) := by rw [cell_of_block HBX.out.2]; rfl
  have k2 : x1.cell? ⟨w.heap.size + 1, 2, none⟩ = some (.slice ka ops.length kc) := by rw [cell_of_block HBX.out.2]; rfl
  clear hlv hb HL HI HMAY
  go_wp2_with fail
  refine HC.out.mono ?_
  rintro e x2 ⟨rfl, hb2⟩
  have HX2 := hide (HX1.out.trans (hb2.mono HX1.out.size))
  clear hb2
  go_wp2_with fail
  exact bodyPost_ret (v := .tuple #[.slice none 0 0, .slice none 0 0, .int .i64 2]) (by simp [results, Try.results35, go_sem]) rfl (RunP.no HW.out (by decide) HX2.out)
set_option maxHeartbeats 2000000 in
theorem krun_regs (p0 p1 p2 q0 q1 q2 r pc st : Int) (ops : List Kop) (ka : Option Addr) (kc : Nat) (ra : Option Addr) (rc : Nat) (R : List Int) (ma : Option Addr) (mc : Nat) (M : List (List Int)) (turns : Int) (w : World) (hK : KernV w (.agg #[.int .i64 pc, .int .i64 st, .slice ka ops.length kc]) ⟨pc, st, ops⟩) (hR : Ints w (.slice ra R.length rc) R) (hM : IntRows w (.slice ma M.length mc) M) (hf : (hasLogs M && decide (M.length ≤ 3)) = true) (hmay : mayK ⟨p0, p1, p2, q0, q1, q2, r⟩ ⟨pc, st, ops⟩ (logsOf M) = true) (hr : (R.length : Int) ≠ r ∨ ((R.length : Int) = r ∧ inR turns 0 200 = false)) : Calls Try.prog 35 #[.agg #[.int .i64 p0, .int .i64 p1, .int .i64 p2, .int .i64 q0, .int .i64 q1, .int .i64 q2, .int .i64 r], .agg #[.int .i64 pc, .int .i64 st, .slice ka ops.length kc], .slice ra R.length rc, .slice ma M.length mc, .int .i64 turns] w fun e w' => RunP w ⟨p0, p1, p2, q0, q1, q2, r⟩ ⟨pc, st, ops⟩ R M turns e w' := by
  have HKV := hide hK
  have HMV := hide hM
  have HRV := hide hR
  have HB0 : Hid (Below w.heap.size w ((w.alloc (.cells #[.int .i64 p0, .int .i64 p1, .int .i64 p2, .int .i64 q0, .int .i64 q1, .int .i64 q2, .int .i64 r] 49)).alloc (.cells #[.int .i64 pc, .int .i64 st, .slice ka ops.length kc] 55))) := below_alloc2 _ _ _
  have HL := hide (plogs_any (.slice ma M.length mc) M ((w.alloc (.cells #[.int .i64 p0, .int .i64 p1, .int .i64 p2, .int .i64 q0, .int .i64 q1, .int .i64 q2, .int .i64 r] 49)).alloc (.cells #[.int .i64 pc, .int .i64 st, .slice ka ops.length kc] 55)) (hM.below (below_alloc2 _ _ _)))
  have HBX0 : Hid ((((w.alloc (.cells #[.int .i64 p0, .int .i64 p1, .int .i64 p2, .int .i64 q0, .int .i64 q1, .int .i64 q2, .int .i64 r] 49)).alloc (.cells #[.int .i64 pc, .int .i64 st, .slice ka ops.length kc] 55))).heap[w.heap.size]? = some (.cells #[.int .i64 p0, .int .i64 p1, .int .i64 p2, .int .i64 q0, .int .i64 q1, .int .i64 q2, .int .i64 r] 49 (0, 0)) ∧ (((w.alloc (.cells #[.int .i64 p0, .int .i64 p1, .int .i64 p2, .int .i64 q0, .int .i64 q1, .int .i64 q2, .int .i64 r] 49)).alloc (.cells #[.int .i64 pc, .int .i64 st, .slice ka ops.length kc] 55))).heap[w.heap.size + 1]? = some (.cells #[.int .i64 pc, .int .i64 st, .slice ka ops.length kc] 55 (0, 0))) := by
    refine ⟨?_, ?_⟩
    · rw [Below.heap_alloc _ _ _ (by simp)]; exact new_block _ _ _
    · have e : (w.alloc (.cells #[.int .i64 p0, .int .i64 p1, .int .i64 p2, .int .i64 q0, .int .i64 q1, .int .i64 q2, .int .i64 r] 49)).heap.size = w.heap.size + 1 := by simp
      rw [← e]; exact new_block _ _ _
  have hz0 : w.heap.size + 1 < ((w.alloc (.cells #[.int .i64 p0, .int .i64 p1, .int .i64 p2, .int .i64 q0, .int .i64 q1, .int .i64 q2, .int .i64 r] 49)).alloc (.cells #[.int .i64 pc, .int .i64 st, .slice ka ops.length kc] 55)).heap.size := by simp
  unfold LogsP at HL
  rw [hf] at HL
  have hf2 : hasLogs M = true ∧ M.length ≤ 3 := by simpa using hf
  have hrl : R.length ≤ 9223372036854775807 := by obtain ⟨a, c, e, h1, h2, _⟩ := hR; unfold maxLen at h2; omega
  have HMAY : Hid (∀ (la : Option Addr) (lc : Nat) W, KernV W (.agg #[.int .i64 pc, .int .i64 st, .slice ka ops.length kc]) ⟨pc, st, ops⟩ → Ints W (.slice la (logsOf M).length lc) (logsOf M) → Calls Try.prog 31 #[.agg #[.int .i64 p0, .int .i64 p1, .int .i64 p2, .int .i64 q0, .int .i64 q1, .int .i64 q2, .int .i64 r], .agg #[.int .i64 pc, .int .i64 st, .slice ka ops.length kc], .slice la (logsOf M).length lc] W fun e w' => e = .returned (.bool true) ∧ Below W.heap.size W w') := fun la lc W h1 h2 => by
    have h := kernelMay ⟨p0, p1, p2, q0, q1, q2, r⟩ _ ⟨pc, st, ops⟩ la lc (logsOf M) W h1 h2
    rw [hmay] at h
    exact h
  have HF2 := hide hf2
  rcases hr with hr | ⟨hr, ht⟩
  · have HW : Hid (wrongK ⟨p0, p1, p2, q0, q1, q2, r⟩ ⟨pc, st, ops⟩ R.length M turns = 2) := by show _ = _; unfold wrongK; rw [if_neg (fun h => hr h.2.2)]
    have hrb : ((R.length : Int) == r) = false := beq_eq_false_iff_ne.2 hr
    have hrn : ((R.length : Int) != r) = true := by simpa using hr
    clear hK hM hR hf hmay hf2 hr
    go_enter Try.func35, Try.ntmps35
    go_wp2_with fail
    refine HL.out.mono ?_
    rintro e x1 ⟨lv, rfl, hlv, ⟨la, ll, lc, rfl⟩, hb⟩
    have HX1 := hide (HB0.out.trans (hb.mono (by simp; omega)))
    have HBX : Hid ((x1).heap[w.heap.size]? = some (.cells #[.int .i64 p0, .int .i64 p1, .int .i64 p2, .int .i64 q0, .int .i64 q1, .int .i64 q2, .int .i64 r] 49 (0, 0)) ∧ (x1).heap[w.heap.size + 1]? = some (.cells #[.int .i64 pc, .int .i64 st, .slice ka ops.length kc] 55 (0, 0))) := ⟨by rw [hb.block _ (by omega)]; exact HBX0.out.1, by rw [hb.block _ (by omega)]; exact HBX0.out.2⟩
    have hzx : w.heap.size + 1 < x1.heap.size := by have := hb.size; omega
    have HLV := hide hlv
    have HZ1 := hide hb.size
    have HI := ints_logs (hlv HF2.out.1 HF2.out.2)
    have hll : ll = (logsOf M).length := by
      obtain ⟨a, c, e, _⟩ := ownz_shape (hlv HF2.out.1 HF2.out.2)
      injection e
    subst hll
    have HC := hide (HMAY.out la lc x1 (HKV.out.below HX1.out) HI)
    have t0 : x1.cell? ⟨w.heap.size, 0, none⟩ = some (.int .i64 p0) := by rw [cell_of_block HBX.out.1]; rfl
    have t1 : x1.cell? ⟨w.heap.size, 1, none⟩ = some (.int .i64 p1) := by rw [cell_of_block HBX.out.1]; rfl
    have t2 : x1.cell? ⟨w.heap.size, 2, none⟩ = some (.int .i64 p2) := by rw [cell_of_block HBX.out.1]; rfl
    have t3 : x1.cell? ⟨w.heap.size, 3, none⟩ = some (.int .i64 q0) := by rw [cell_of_block HBX.out.1]; rfl
    have t4 : x1.cell? ⟨w.heap.size, 4, none⟩ = some (.int .i64 q1) := by rw [cell_of_block HBX.out.1]; rfl
    have t5 : x1.cell? ⟨w.heap.size, 5, none⟩ = some (.int .i64 q2) := by rw [cell_of_block HBX.out.1]; rfl
    have t6 : x1.cell? ⟨w.heap.size, 6, none⟩ = some (.int .i64 r) := by rw [cell_of_block HBX.out.1]; rfl
    have k0 : x1.cell? ⟨w.heap.size + 1, 0, none⟩ = some (.int .i64 pc) := by rw [cell_of_block HBX.out.2]; rfl
    have k1 : x1.cell? ⟨w.heap.size + 1, 1, none⟩ = some (.int .i64 st) := by rw [cell_of_block HBX.out.2]; rfl
    have k2 : x1.cell? ⟨w.heap.size + 1, 2, none⟩ = some (.slice ka ops.length kc) := by rw [cell_of_block HBX.out.2]; rfl
    clear hlv hb HL HI HMAY
    go_wp2_with fail
    refine HC.out.mono ?_
    rintro e x2 ⟨rfl, hb2⟩
    have HX2 := hide (HX1.out.trans (hb2.mono HX1.out.size))
    have HBX2 : Hid ((x2).heap[w.heap.size]? = some (.cells #[.int .i64 p0, .int .i64 p1, .int .i64 p2, .int .i64 q0, .int .i64 q1, .int .i64 q2, .int .i64 r] 49 (0, 0)) ∧ (x2).heap[w.heap.size + 1]? = some (.cells #[.int .i64 pc, .int .i64 st, .slice ka ops.length kc] 55 (0, 0))) := ⟨by rw [hb2.block _ (by omega)]; exact HBX.out.1, by rw [hb2.block _ (by omega)]; exact HBX.out.2⟩
    have HZ2 := hide hb2.size
    have HB2 := hide hb2
    clear hb2 t0 t1 t2 t3 t4 t5 t6 k0 k1 k2 HC
    have t6 : x2.cell? ⟨w.heap.size, 6, none⟩ = some (.int .i64 r) := by rw [cell_of_block HBX2.out.1]; rfl
    go_wp2_with fail
    exact bodyPost_ret (v := .tuple #[.slice none 0 0, .slice none 0 0, .int .i64 2]) (by simp [results, Try.results35, go_sem]) rfl (RunP.no HW.out (by decide) HX2.out)
  · have HW : Hid (wrongK ⟨p0, p1, p2, q0, q1, q2, r⟩ ⟨pc, st, ops⟩ R.length M turns = 3) := by
      show _ = _
      unfold wrongK
      rw [if_pos ⟨hf2.1, hmay, hr⟩, if_neg (fun h => by rw [inR_yes h] at ht; exact Bool.noConfusion ht)]
    have hrb : ((R.length : Int) == r) = true := by simpa using hr
    have hrn : ((R.length : Int) != r) = false := by simpa using hr
    have HTI := hide (fun W => ht ▸ pwithin_any turns 0 200 W)
    clear hK hM hR hf hmay hf2 hr ht
    go_enter Try.func35, Try.ntmps35
    go_wp2_with fail
    refine HL.out.mono ?_
    rintro e x1 ⟨lv, rfl, hlv, ⟨la, ll, lc, rfl⟩, hb⟩
    have HX1 := hide (HB0.out.trans (hb.mono (by simp; omega)))
    have HBX : Hid ((x1).heap[w.heap.size]? = some (.cells #[.int .i64 p0, .int .i64 p1, .int .i64 p2, .int .i64 q0, .int .i64 q1, .int .i64 q2, .int .i64 r] 49 (0, 0)) ∧ (x1).heap[w.heap.size + 1]? = some (.cells #[.int .i64 pc, .int .i64 st, .slice ka ops.length kc] 55 (0, 0))) := ⟨by rw [hb.block _ (by omega)]; exact HBX0.out.1, by rw [hb.block _ (by omega)]; exact HBX0.out.2⟩
    have hzx : w.heap.size + 1 < x1.heap.size := by have := hb.size; omega
    have HLV := hide hlv
    have HZ1 := hide hb.size
    have HI := ints_logs (hlv HF2.out.1 HF2.out.2)
    have hll : ll = (logsOf M).length := by
      obtain ⟨a, c, e, _⟩ := ownz_shape (hlv HF2.out.1 HF2.out.2)
      injection e
    subst hll
    have HC := hide (HMAY.out la lc x1 (HKV.out.below HX1.out) HI)
    have t0 : x1.cell? ⟨w.heap.size, 0, none⟩ = some (.int .i64 p0) := by rw [cell_of_block HBX.out.1]; rfl
    have t1 : x1.cell? ⟨w.heap.size, 1, none⟩ = some (.int .i64 p1) := by rw [cell_of_block HBX.out.1]; rfl
    have t2 : x1.cell? ⟨w.heap.size, 2, none⟩ = some (.int .i64 p2) := by rw [cell_of_block HBX.out.1]; rfl
    have t3 : x1.cell? ⟨w.heap.size, 3, none⟩ = some (.int .i64 q0) := by rw [cell_of_block HBX.out.1]; rfl
    have t4 : x1.cell? ⟨w.heap.size, 4, none⟩ = some (.int .i64 q1) := by rw [cell_of_block HBX.out.1]; rfl
    have t5 : x1.cell? ⟨w.heap.size, 5, none⟩ = some (.int .i64 q2) := by rw [cell_of_block HBX.out.1]; rfl
    have t6 : x1.cell? ⟨w.heap.size, 6, none⟩ = some (.int .i64 r) := by rw [cell_of_block HBX.out.1]; rfl
    have k0 : x1.cell? ⟨w.heap.size + 1, 0, none⟩ = some (.int .i64 pc) := by rw [cell_of_block HBX.out.2]; rfl
    have k1 : x1.cell? ⟨w.heap.size + 1, 1, none⟩ = some (.int .i64 st) := by rw [cell_of_block HBX.out.2]; rfl
    have k2 : x1.cell? ⟨w.heap.size + 1, 2, none⟩ = some (.slice ka ops.length kc) := by rw [cell_of_block HBX.out.2]; rfl
    clear hlv hb HL HI HMAY
    go_wp2_with fail
    refine HC.out.mono ?_
    rintro e x2 ⟨rfl, hb2⟩
    have HX2 := hide (HX1.out.trans (hb2.mono HX1.out.size))
    have HBX2 : Hid ((x2).heap[w.heap.size]? = some (.cells #[.int .i64 p0, .int .i64 p1, .int .i64 p2, .int .i64 q0, .int .i64 q1, .int .i64 q2, .int .i64 r] 49 (0, 0)) ∧ (x2).heap[w.heap.size + 1]? = some (.cells #[.int .i64 pc, .int .i64 st, .slice ka ops.length kc] 55 (0, 0))) := ⟨by rw [hb2.block _ (by omega)]; exact HBX.out.1, by rw [hb2.block _ (by omega)]; exact HBX.out.2⟩
    have HZ2 := hide hb2.size
    have HB2 := hide hb2
    clear hb2 t0 t1 t2 t3 t4 t5 t6 k0 k1 k2 HC
    have t6 : x2.cell? ⟨w.heap.size, 6, none⟩ = some (.int .i64 r) := by rw [cell_of_block HBX2.out.1]; rfl
    go_wp2_with (go_at_call 56; refine (HTI.out _).mono ?_; rintro e w' ⟨rfl, hw'⟩; have hw' := hw'.symm; subst hw')
    exact bodyPost_ret (v := .tuple #[.slice none 0 0, .slice none 0 0, .int .i64 3]) (by simp [results, Try.results35, go_sem]) rfl (RunP.no HW.out (by decide) HX2.out)
end Go.Proofs.Ytlgphgfldfjkkaa
