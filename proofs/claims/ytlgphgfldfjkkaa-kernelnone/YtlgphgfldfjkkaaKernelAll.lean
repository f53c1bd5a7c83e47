/- The contracts of package kernel: May and Run answer as the document says. -/
import Derived.Test.YtlgphgfldfjkkaaKernAll1
import Derived.Test.YtlgphgfldfjkkaaUntil
import Derived.Deep.AppendLies
namespace Go.Proofs.Ytlgphgfldfjkkaa
open Go.RowKit Go.Joins
set_option linter.unusedVariables false
set_option linter.unusedSimpArgs false
set_option maxRecDepth 8192

theorem boxes_held {p0 p1 p2 q0 q1 q2 r pc st : Int} {ops : List Kop} {ka : Option Addr} {kc : Nat} {w x : World} (h : ((x).heap[w.heap.size]? = some (.cells #[.int .i64 p0, .int .i64 p1, .int .i64 p2, .int .i64 q0, .int .i64 q1, .int .i64 q2, .int .i64 r] 49 (0, 0)) ∧ (x).heap[w.heap.size + 1]? = some (.cells #[.int .i64 pc, .int .i64 st, .slice ka ops.length kc] 55 (0, 0)))) : (x.cell? ⟨w.heap.size, 0, none⟩ = some (.int .i64 p0) ∧ x.cell? ⟨w.heap.size, 1, none⟩ = some (.int .i64 p1) ∧ x.cell? ⟨w.heap.size, 2, none⟩ = some (.int .i64 p2) ∧ x.cell? ⟨w.heap.size, 3, none⟩ = some (.int .i64 q0) ∧ x.cell? ⟨w.heap.size, 4, none⟩ = some (.int .i64 q1) ∧ x.cell? ⟨w.heap.size, 5, none⟩ = some (.int .i64 q2) ∧ x.cell? ⟨w.heap.size, 6, none⟩ = some (.int .i64 r)) ∧ x.cell? ⟨w.heap.size + 1, 0, none⟩ = some (.int .i64 pc) ∧ x.cell? ⟨w.heap.size + 1, 1, none⟩ = some (.int .i64 st) ∧ x.cell? ⟨w.heap.size + 1, 2, none⟩ = some (.slice ka ops.length kc) := by
  have e1 := cell_of_block h.1
  have e2 := cell_of_block h.2
  refine ⟨⟨?_, ?_, ?_, ?_, ?_, ?_, ?_⟩, ?_, ?_, ?_⟩
  all_goals first
    | (rw [e1]; rfl)
    | (rw [e2]; rfl)
theorem run_fine {t : Tg} {K : Kn} {R : List Int} {M : List (List Int)} {turns : Int} (hmay : mayK t K (logsOf M) = true) (hnn : ∀ x ∈ K.ops, I64 x.nn) (hR : ∀ i, I64 (nth R i)) (hM : ∀ i j, I64 (nth (rowAt M i) j)) (T : Nat) (hT : T ≤ 30000) : (runK t K (logsOf M) turns (startK R M) T).fine t.r := by
  obtain ⟨hmt, hp1, hp2, hs1, hs2, ho1, ho2, hall⟩ := mayK_parts hmay
  refine fine_runK (N := 30000) (mayT_parts hmt).2.2.2.1 (fine_startK hR hM) (fun T' hT' k hk => ⟨hnn _ (opAt_in hk), ?_⟩) T hT
  obtain ⟨-, hsg, -⟩ := one_parts (hall k hk)
  have h1 : 0 ≤ (T' : Int) / K.pc := Int.ediv_nonneg (by omega) (by omega)
  have h2 : (T' : Int) / K.pc ≤ T' := Int.ediv_le_self _ (by omega)
  unfold I64
  omega
theorem mach_regs {c : Mc} {V : Nat → Value} {D : List Du} {f : Nat → Int} {m : Nat → Nat → Int} {w' : World} (hI : MInv c V D f m w') (hf : ∀ i, I64 (f i)) : Ints w' (.slice (some ⟨c.gr, 0, none⟩) c.R c.cr) ((List.range c.R).map f) := by
  have hl : ((List.range c.R).map f).length = c.R := by simp
  have hn : ∀ i, i < c.R → nth ((List.range c.R).map f) i = f i := fun i hi => by unfold nth; simp [List.getD, hi]
  refine ⟨some ⟨c.gr, 0, none⟩, c.cr, by rw [hl], by rw [hl]; exact hI.hr.2.2.1, hI.hr.2.2.2, fun i hi => ?_, fun _ => ⟨c.gr, 0, rfl, hI.regs.lt, fun i hi => ?_⟩⟩
  · rw [hl] at hi; rw [hn i hi]; exact hf i
  · rw [hl] at hi; rw [hn i hi, Nat.zero_add]; exact hI.regs.cell hi
theorem mach_words {c : Mc} {V : Nat → Value} {D : List Du} {f : Nat → Int} {m : Nat → Nat → Int} {w' : World} {gm cm : Nat} {C : Nat → Nat} {am : Option Addr} (hI : MInv c V D f m w') (hm : ∀ i j, I64 (m i j)) (h1 : c.mv = .slice am c.n cm) (h2 : c.n ≤ cm) (h3 : cm ≤ maxLen) (h4 : 0 < c.n → c.mv = .slice (some ⟨gm, 0, none⟩) c.n cm ∧ RowF w' gm 36 c.n (rowV c.GM C c.lenM) ∧ c.w0.heap.size ≤ gm) (hC : ∀ i, i < c.n → c.lenM i ≤ C i ∧ C i ≤ maxLen) :
    IntRows w' c.mv ((List.range c.n).map fun i => (List.range (c.lenM i)).map fun j => m i j) := by
  have hMR : MR w' c.w0.heap.size c.mv c.n c.lenM m gm cm c.GM C := ⟨⟨am, h1, h2, h3⟩, by
    by_cases e : c.n = 0
    · exact .inl e
    · exact .inr (h4 (by omega)), fun i hi => ⟨(hI.min i hi).1, (hC i hi).1, (hC i hi).2, (hI.min i hi).2.2⟩, hI.minj⟩
  exact hMR.rows hm
/-- what is told at the end -/
theorem run_told {w w' wr x : World} {A gr cr : Nat} {R : List Int} {t : Tg} {K : Kn} {kv lv mv : Value} {turns : Int} {M : List (List Int)} {G C : Nat → Nat} {V : Nat → Value} {D : List Du} {s : Kst} (hB : BInv w A gr cr R t K.pc K.st kv lv (logsOf M) turns M M.length mv G C wr) (hbx : Below wr.heap.size wr x) (hI : MInv ((mcOf w wr A gr cr R t K.pc K.st kv lv turns M mv G).at x) V D s.f s.m w') (hs : playK t K (logsOf M) turns R M = s) (hf : s.fine t.r) (hw : wrongK t K R.length M turns = 0)
    {am : Option Addr} {cm : Nat} (hmv : mv = .slice am M.length cm) :
    RunP w t K R M turns (.returned (.tuple #[.slice (some ⟨gr, 0, none⟩) R.length cr, .slice am M.length cm, .int .i64 0])) w' := by
  have hlg : ∀ i, i < (logsOf M).length → -9223372036854775808 ≤ nth (logsOf M) i ∧ nth (logsOf M) i ≤ 9223372036854775807 := fun i hi => by
    rw [logsOf_nth M i (by rw [logsOf_len] at hi; exact hi)]
    have := logIx_le (rowAt M i).length
    omega
  obtain ⟨gm, cm', hst⟩ := hB.stat hlg
  obtain ⟨hS, hrow, am', h1, h2, h3⟩ := hst w' (kept_at (c := mcOf w wr A gr cr R t K.pc K.st kv lv turns M mv G) hbx hI.keep)
  have e : am' = am ∧ cm' = cm := by rw [hmv] at h1; injection h1 with e1 _ e3; exact ⟨e1.symm, e3.symm⟩
  obtain ⟨rfl, rfl⟩ := e
  refine ⟨some ⟨gr, 0, none⟩, cr, am', cm', R.length, M.length, by rw [hw], hI.bel, fun _ => ?_, fun h => absurd hw h⟩
  rw [hs]
  refine ⟨mach_regs hI hf.f, ?_⟩
  have h := mach_words hI hf.m h1 h2 h3 (gm := gm) (C := C) (fun hp => ⟨(hS.2.1 hp).1, (hrow hp).1, (hrow hp).2⟩) (fun i hi => (hS.2.2 i hi).2)
  have hh : IntRows w' mv (wordsOf M s) := h
  rw [hmv] at hh
  exact hh

set_option maxHeartbeats 40000000 in
theorem krun_ok (p0 p1 p2 q0 q1 q2 r pc st : Int) (ops : List Kop) (ka : Option Addr) (kc : Nat) (ra : Option Addr) (rc : Nat) (R : List Int) (ma : Option Addr) (mc : Nat) (M : List (List Int)) (turns : Int) (w : World) (hK : KernV w (.agg #[.int .i64 pc, .int .i64 st, .slice ka ops.length kc]) ⟨pc, st, ops⟩) (hR : Ints w (.slice ra R.length rc) R) (hM : IntRows w (.slice ma M.length mc) M) (hf : (hasLogs M && decide (M.length ≤ 3)) = true) (hmay : mayK ⟨p0, p1, p2, q0, q1, q2, r⟩ ⟨pc, st, ops⟩ (logsOf M) = true) (hr : (R.length : Int) = r) (ht : inR turns 0 200 = true) (hnn : ∀ x ∈ ops, I64 x.nn) (hlim : turns = 0 ∨ (turns + st) * pc ≤ 20000) : Calls Try.prog 35 #[.agg #[.int .i64 p0, .int .i64 p1, .int .i64 p2, .int .i64 q0, .int .i64 q1, .int .i64 q2, .int .i64 r], .agg #[.int .i64 pc, .int .i64 st, .slice ka ops.length kc], .slice ra R.length rc, .slice ma M.length mc, .int .i64 turns] w fun e w' => RunP w ⟨p0, p1, p2, q0, q1, q2, r⟩ ⟨pc, st, ops⟩ R M turns e w' := by
  have HKV := hide hK
  have HMV := hide hM
  have HRV := hide hR
  have HB0 : Hid (Below w.heap.size w ((w.alloc (.cells #[.int .i64 p0, .int .i64 p1, .int .i64 p2, .int .i64 q0, .int .i64 q1, .int .i64 q2, .int .i64 r] 49)).alloc (.cells #[.int .i64 pc, .int .i64 st, .slice ka ops.length kc] 55))) := below_alloc2 _ _ _
  have HL := hide (plogs_any (.slice ma M.length mc) M ((w.alloc (.cells #[.int .i64 p0, .int .i64 p1, .int .i64 p2, .int .i64 q0, .int .i64 q1, .int .i64 q2, .int .i64 r] 49)).alloc (.cells #[.int .i64 pc, .int .i64 st, .slice ka ops.length kc] 55)) (hM.below (below_alloc2 _ _ _)))
  have HBX0 : Hid ((((w.alloc (.cells #[.int .i64 p0, .int .i64 p1, .int .i64 p2, .int .i64 q0, .int .i64 q1, .int .i64 q2, .int .i64 r] 49)).alloc (.cells #[.int .i64 pc, .int .i64 st, .slice ka ops.length kc] 55))).heap[w.heap.size]? = some (.cells #[.int .i64 p0, .int .i64 p1, .int .i64 p2, .int .i64 q0, .int .i64 q1, .int .i64 q2, .int .i64 r] 49 (0, 0)) ∧ (((w.alloc (.cells #[.int .i64 p0, .int .i64 p1, .int .i64 p2, .int .i64 q0, .int .i64 q1, .int .i64 q2, .int .i64 r] 49)).alloc (.cells #[.int .i64 pc, .int .i64 st, .slice ka ops.length kc] 55))).heap[w.heap.size + 1]? = some (.cells #[.int .i64 pc, .int .i64 st, .slice ka ops.length kc] 55 (0, 0))) := by
    refine ⟨?_, ?_⟩
    · rw [Below.heap_alloc _ _ _ (by simp)]; exact new_block _ _ _
    · have e : (w.alloc (.cells #[.int .i64 p0, .int .i64 p1, .int .i64 p2, .int .i64 q0, .int .i64 q1, .int .i64 q2, .int .i64 r] 49)).heap.size = w.heap.size + 1 := by simp
      rw [← e]; exact new_block _ _ _
  have hz0 : w.heap.size + 1 < ((w.alloc (.cells #[.int .i64 p0, .int .i64 p1, .int .i64 p2, .int .i64 q0, .int .i64 q1, .int .i64 q2, .int .i64 r] 49)).alloc (.cells #[.int .i64 pc, .int .i64 st, .slice ka ops.length kc] 55)).heap.size := by simp
  unfold LogsP at HL
  rw [hf] at HL
  have hf2 : hasLogs M = true ∧ M.length ≤ 3 := by simpa using hf
  have hrl : R.length ≤ 9223372036854775807 := by obtain ⟨a, c, e, h1, h2, _⟩ := hR; unfold maxLen at h2; omega
  have HMAY : Hid (∀ (la : Option Addr) (lc : Nat) W, KernV W (.agg #[.int .i64 pc, .int .i64 st, .slice ka ops.length kc]) ⟨pc, st, ops⟩ → Ints W (.slice la (logsOf M).length lc) (logsOf M) → Calls Try.prog 31 #[.agg #[.int .i64 p0, .int .i64 p1, .int .i64 p2, .int .i64 q0, .int .i64 q1, .int .i64 q2, .int .i64 r], .agg #[.int .i64 pc, .int .i64 st, .slice ka ops.length kc], .slice la (logsOf M).length lc] W fun e w' => e = .returned (.bool true) ∧ Below W.heap.size W w') := fun la lc W h1 h2 => by
    have h := kernelMay ⟨p0, p1, p2, q0, q1, q2, r⟩ _ ⟨pc, st, ops⟩ la lc (logsOf M) W h1 h2
    rw [hmay] at h
    exact h
  have HF2 := hide hf2
  have HW : Hid (wrongK ⟨p0, p1, p2, q0, q1, q2, r⟩ ⟨pc, st, ops⟩ R.length M turns = 0) := by
    show _ = _
    unfold wrongK
    rw [if_pos ⟨hf2.1, hmay, hr⟩, if_pos (inR_iff.1 ht)]
  have hrb : ((R.length : Int) == r) = true := by simpa using hr
  have hrn : ((R.length : Int) != r) = false := by simpa using hr
  have HTI := hide (fun W => ht ▸ pwithin_any turns 0 200 W)
  obtain ⟨ht0, ht2⟩ := inR_iff.1 ht
  have hr12 := (mayT_parts (mayK_parts hmay).1).2.2.2
  simp only at hr12
  have hR0 : 0 < R.length := by omega
  have hR128 : R.length ≤ 128 := by omega
  obtain ⟨i0, hi, hz0', hz1, hz2⟩ := info_parts Try.i36
  have HCL : Hid (∀ W, Below w.heap.size w W → Calls Try.prog 63 #[.slice ra R.length rc] W fun e w' => ∃ g cap, e = .returned (.slice (some ⟨g, 0, none⟩) R.length cap) ∧ W.heap.size ≤ g ∧ cap ≤ maxLen ∧ RowX w' g 2 cap R.length (fun j => .int .i64 (nth R j)) ∧ Below W.heap.size W w') := fun W h => clone_128 _ R W (HRV.out.below h) hR0 hR128
  have HROWS := hide (row_of_logs hf2.1)
  have HMAYK := hide hmay
  have HNN := hide hnn
  have HLIM := hide hlim
  have HR1 := hide hr
  have HM3 : Hid (M.length ≤ 3) := hf2.2
  have hM3 : M.length ≤ 3 := hf2.2
  have HI64 : Hid ((∀ i, I64 (nth R i)) ∧ ∀ i j, I64 (nth (rowAt M i) j)) := ⟨nth_i64 (by obtain ⟨a, c, e, h1, h2, h3, _⟩ := hR; exact h3), words_i64 hM⟩
  obtain ⟨ma', mc', hme, hml, hmm, -⟩ := hM
  injection hme with e1 e2 e3
  subst e1; subst e3
  unfold maxLen at hmm
  clear hK hR hf hmay hf2 hr ht hnn hlim e2 hr12
  go_enter Try.func35, Try.ntmps35
  go_wp2_with fail
  refine HL.out.mono ?_
  rintro e x1 ⟨lv, rfl, hlv, ⟨la, ll, lc, rfl⟩, hb⟩
  have HX1 := hide (HB0.out.trans (hb.mono (by simp; omega)))
  have HBX : Hid ((x1).heap[w.heap.size]? = some (.cells #[.int .i64 p0, .int .i64 p1, .int .i64 p2, .int .i64 q0, .int .i64 q1, .int .i64 q2, .int .i64 r] 49 (0, 0)) ∧ (x1).heap[w.heap.size + 1]? = some (.cells #[.int .i64 pc, .int .i64 st, .slice ka ops.length kc] 55 (0, 0))) := ⟨by rw [hb.block _ (by omega)]; exact HBX0.out.1, by rw [hb.block _ (by omega)]; exact HBX0.out.2⟩
  have hzx : w.heap.size + 1 < x1.heap.size := by have := hb.size; omega
  have HLV := hide hlv
  have HZ1 := hide hb.size
  have HI := ints_logs (hlv HF2.out.1 HF2.out.2)
  have hll : ll = (logsOf M).length := by
    obtain ⟨a, c, e, _⟩ := ownz_shape (hlv HF2.out.1 HF2.out.2)
    injection e
  subst hll
  have HLO : Hid (x1.ownsRow w.heap.size 3 1 (.slice la (logsOf M).length lc) (logsOf M).length ((logsOf M).map (Value.int .i64))) := ownz_mono (hlv HF2.out.1 HF2.out.2) (by simp; omega)
  have HC := hide (HMAY.out la lc x1 (HKV.out.below HX1.out) HI)
  have t0 : x1.cell? ⟨w.heap.size, 0, none⟩ = some (.int .i64 p0) := by rw [cell_of_block HBX.out.1]; rfl
  have t1 : x1.cell? ⟨w.heap.size, 1, none⟩ = some (.int .i64 p1) := by rw [cell_of_block HBX.out.1]; rfl
  have t2 : x1.cell? ⟨w.heap.size, 2, none⟩ = some (.int .i64 p2) := by rw [cell_of_block HBX.out.1]; rfl
  have t3 : x1.cell? ⟨w.heap.size, 3, none⟩ = some (.int .i64 q0) := by rw [cell_of_block HBX.out.1]; rfl
  have t4 : x1.cell? ⟨w.heap.size, 4, none⟩ = some (.int .i64 q1) := by rw [cell_of_block HBX.out.1]; rfl
  have t5 : x1.cell? ⟨w.heap.size, 5, none⟩ = some (.int .i64 q2) := by rw [cell_of_block HBX.out.1]; rfl
  have t6 : x1.cell? ⟨w.heap.size, 6, none⟩ = some (.int .i64 r) := by rw [cell_of_block HBX.out.1]; rfl
  have k0 : x1.cell? ⟨w.heap.size + 1, 0, none⟩ = some (.int .i64 pc) := by rw [cell_of_block HBX.out.2]; rfl
  have k1 : x1.cell? ⟨w.heap.size + 1, 1, none⟩ = some (.int .i64 st) := by rw [cell_of_block HBX.out.2]; rfl
  have k2 : x1.cell? ⟨w.heap.size + 1, 2, none⟩ = some (.slice ka ops.length kc) := by rw [cell_of_block HBX.out.2]; rfl
  clear hlv hb HL HI HMAY
  go_wp2_with fail
  refine HC.out.mono ?_
  rintro e x2 ⟨rfl, hb2⟩
  have HX2 := hide (HX1.out.trans (hb2.mono HX1.out.size))
  have HBX2 : Hid ((x2).heap[w.heap.size]? = some (.cells #[.int .i64 p0, .int .i64 p1, .int .i64 p2, .int .i64 q0, .int .i64 q1, .int .i64 q2, .int .i64 r] 49 (0, 0)) ∧ (x2).heap[w.heap.size + 1]? = some (.cells #[.int .i64 pc, .int .i64 st, .slice ka ops.length kc] 55 (0, 0))) := ⟨by rw [hb2.block _ (by omega)]; exact HBX.out.1, by rw [hb2.block _ (by omega)]; exact HBX.out.2⟩
  have HLO2 := hide (own_below HLO.out hb2)
  have hzx2 : w.heap.size + 1 < x2.heap.size := by have := hb2.size; omega
  clear hb2 t0 t1 t2 t3 t4 t5 t6 k0 k1 k2 HC
  have t6 : x2.cell? ⟨w.heap.size, 6, none⟩ = some (.int .i64 r) := by rw [cell_of_block HBX2.out.1]; rfl
  go_wp2_with (go_at_call 56; refine (HTI.out _).mono ?_; rintro e w' ⟨rfl, hw'⟩; have hw' := hw'.symm; subst hw')
  clear t6
  refine wp_region_noPanic ?_
  refine region_until 99 (fun w' => (w'.cell? ⟨w.heap.size, 0, none⟩ = some (.int .i64 p0) ∧ w'.cell? ⟨w.heap.size, 1, none⟩ = some (.int .i64 p1) ∧ w'.cell? ⟨w.heap.size, 2, none⟩ = some (.int .i64 p2) ∧ w'.cell? ⟨w.heap.size, 3, none⟩ = some (.int .i64 q0) ∧ w'.cell? ⟨w.heap.size, 4, none⟩ = some (.int .i64 q1) ∧ w'.cell? ⟨w.heap.size, 5, none⟩ = some (.int .i64 q2) ∧ w'.cell? ⟨w.heap.size, 6, none⟩ = some (.int .i64 r)) ∧ w'.cell? ⟨w.heap.size + 1, 0, none⟩ = some (.int .i64 pc) ∧ w'.cell? ⟨w.heap.size + 1, 1, none⟩ = some (.int .i64 st) ∧ w'.cell? ⟨w.heap.size + 1, 2, none⟩ = some (.slice ka ops.length kc)) (by kernel_rfl) (boxes_held HBX2.out) (fun hHeld => ?_)
  refine until_take (i := 0) (v := ?_) rfl (by kernel_rfl) (by kernel_rfl) (by kernel_rfl) (by kernel_rfl) (fun _ _ _ h => h) (Or.inl ⟨by rfl, ?_⟩) hHeld ?_
  rotate_left
  · intro w hSw
    try dsimp only at hSw
    go_simp
    try with_reducible rfl
  try simp only [Act.put, List.setIfInBounds_toArray, List.set_cons_zero, List.set_cons_succ]
  refine until_take (i := 1) (v := ?_) rfl (by kernel_rfl) (by kernel_rfl) (by kernel_rfl) (by kernel_rfl) (fun _ _ _ h => h) (Or.inl ⟨by rfl, ?_⟩) hHeld ?_
  rotate_left
  · intro w hSw
    try dsimp only at hSw
    go_simp
    try with_reducible rfl
  try simp only [Act.put, List.setIfInBounds_toArray, List.set_cons_zero, List.set_cons_succ]
  refine until_take (i := 2) (v := ?_) rfl (by kernel_rfl) (by kernel_rfl) (by kernel_rfl) (by kernel_rfl) (fun _ _ _ h => h) (Or.inl ⟨by rfl, ?_⟩) hHeld ?_
  rotate_left
  · intro w hSw
    try dsimp only at hSw
    go_simp
    try with_reducible rfl
  try simp only [Act.put, List.setIfInBounds_toArray, List.set_cons_zero, List.set_cons_succ]
  refine until_take (i := 3) (v := ?_) rfl (by kernel_rfl) (by kernel_rfl) (by kernel_rfl) (by kernel_rfl) (fun _ _ _ h => h) (Or.inl ⟨by rfl, ?_⟩) hHeld ?_
  rotate_left
  · intro w hSw
    try dsimp only at hSw
    go_simp
    try with_reducible rfl
  try simp only [Act.put, List.setIfInBounds_toArray, List.set_cons_zero, List.set_cons_succ]
  refine until_take (i := 5) (v := ?_) rfl (by kernel_rfl) (by kernel_rfl) (by kernel_rfl) (by kernel_rfl) (fun _ _ _ h => h) (Or.inl ⟨by rfl, ?_⟩) hHeld ?_
  rotate_left
  · intro w hSw
    try dsimp only at hSw
    go_simp
    try with_reducible rfl
  try simp only [Act.put, List.setIfInBounds_toArray, List.set_cons_zero, List.set_cons_succ]
  refine until_one (i := 4) rfl (by kernel_rfl) (fun K hK => ?_)
  go_simp
  refine (HCL.out _ HX2.out.drew).mono ?_
  rintro e x3 ⟨gr, cr, rfl, hge, hcm, hrx, hb3⟩
  have HB3 : Hid (Below x2.heap.size x2 x3) := (Below.refl _ _).drew.trans hb3
  have HX3 := hide (HX2.out.trans (HB3.out.mono HX2.out.size))
  have HBX3 : Hid ((x3).heap[w.heap.size]? = some (.cells #[.int .i64 p0, .int .i64 p1, .int .i64 p2, .int .i64 q0, .int .i64 q1, .int .i64 q2, .int .i64 r] 49 (0, 0)) ∧ (x3).heap[w.heap.size + 1]? = some (.cells #[.int .i64 pc, .int .i64 st, .slice ka ops.length kc] 55 (0, 0))) := ⟨by rw [HB3.out.block _ (by omega)]; exact HBX2.out.1, by rw [HB3.out.block _ (by omega)]; exact HBX2.out.2⟩
  have HGE : Hid (w.heap.size ≤ gr ∧ gr < x3.heap.size ∧ R.length ≤ cr ∧ cr ≤ maxLen) := ⟨Nat.le_trans HX2.out.size hge, hrx.lt, hrx.le, hcm⟩
  have HRX := hide hrx
  have HLO3 := hide (own_below HLO2.out HB3.out)
  clear hge hcm hrx hb3 hHeld
  have hHeld := boxes_held HBX3.out
  refine hK.out _ _ (.inr hHeld) ?_
  clear hK K
  try simp only [Act.put, List.setIfInBounds_toArray, List.set_cons_zero, List.set_cons_succ]
  refine until_take (i := 6) (v := ?_) rfl (by kernel_rfl) (by kernel_rfl) (by kernel_rfl) (by kernel_rfl) (fun _ _ _ h => h) (Or.inl ⟨by rfl, ?_⟩) hHeld ?_
  rotate_left
  · intro w hSw
    try dsimp only at hSw
    go_simp
    try with_reducible rfl
  try simp only [Act.put, List.setIfInBounds_toArray, List.set_cons_zero, List.set_cons_succ]
  refine until_one (i := 7) rfl (by kernel_rfl) (fun K hK => ?_)
  go_simp
  have HBX4 : Hid ((x3.alloc (.cells #[.int .i64 p0, .int .i64 p1, .int .i64 p2, .int .i64 q0, .int .i64 q1, .int .i64 q2, .int .i64 r, .int .i64 pc, .int .i64 st, .slice ka ops.length kc, .slice la (logsOf M).length lc, .slice (some ⟨gr, 0, none⟩) R.length cr, .slice none 0 0, .int .i64 turns, .slice none 0 0, .slice none 0 0, .slice none 0 0, .slice none 0 0, .slice none 0 0, .slice none 0 0] 98)).heap[w.heap.size]? = some (.cells #[.int .i64 p0, .int .i64 p1, .int .i64 p2, .int .i64 q0, .int .i64 q1, .int .i64 q2, .int .i64 r] 49 (0, 0)) ∧ (x3.alloc (.cells #[.int .i64 p0, .int .i64 p1, .int .i64 p2, .int .i64 q0, .int .i64 q1, .int .i64 q2, .int .i64 r, .int .i64 pc, .int .i64 st, .slice ka ops.length kc, .slice la (logsOf M).length lc, .slice (some ⟨gr, 0, none⟩) R.length cr, .slice none 0 0, .int .i64 turns, .slice none 0 0, .slice none 0 0, .slice none 0 0, .slice none 0 0, .slice none 0 0, .slice none 0 0] 98)).heap[w.heap.size + 1]? = some (.cells #[.int .i64 pc, .int .i64 st, .slice ka ops.length kc] 55 (0, 0))) := ⟨by rw [Below.heap_alloc _ _ _ (by have := HX3.out.size; have := (Array.getElem?_eq_some_iff.1 HBX3.out.1).1; omega)]; exact HBX3.out.1, by rw [Below.heap_alloc _ _ _ (Array.getElem?_eq_some_iff.1 HBX3.out.2).1]; exact HBX3.out.2⟩
  refine hK.out _ _ (.inr (boxes_held HBX4.out)) ?_
  clear hK K hHeld
  try simp only [Act.put, List.setIfInBounds_toArray, List.set_cons_zero, List.set_cons_succ]
  have hHeld := boxes_held HBX4.out
  refine until_one (i := 8) rfl (by kernel_rfl) (fun K hK => ?_)
  go_simp
  refine hK.out _ _ (.inr hHeld) ?_
  clear hK K
  try simp only [Act.put, List.setIfInBounds_toArray, List.set_cons_zero, List.set_cons_succ]
  refine until_done (by kernel_rfl) ?_ _
  refine NoPanic.normal ?_
  clear hHeld
  obtain ⟨A, hA⟩ : ∃ A, x3.heap.size = A := ⟨_, rfl⟩
  have H0 : Hid (BInv w A gr cr R ⟨p0, p1, p2, q0, q1, q2, r⟩ pc st (.slice ka ops.length kc) (.slice la (logsOf M).length lc) (logsOf M) turns M 0 (.slice none 0 0) (fun _ => 0) (fun _ => 0) (x3.alloc (.cells #[.int .i64 p0, .int .i64 p1, .int .i64 p2, .int .i64 q0, .int .i64 q1, .int .i64 q2, .int .i64 r, .int .i64 pc, .int .i64 st, .slice ka ops.length kc, .slice la (logsOf M).length lc, .slice (some ⟨gr, 0, none⟩) R.length cr, .slice none 0 0, .int .i64 turns, .slice none 0 0, .slice none 0 0, .slice none 0 0, .slice none 0 0, .slice none 0 0, .slice none 0 0] 98))) :=
    { bel := HX3.out.alloc HX3.out.size _, hA := by rw [← hA]; exact new_block _ _ _, hAb := by rw [← hA]; exact HX3.out.size, regs := HRX.out.row.alloc _, hr := ⟨HGE.out.1, HGE.out.2.2⟩, out := World.ownsRow_nil _ _ _ _, inn := ⟨fun i hi => absurd hi (Nat.not_lt_zero _), fun i j hi => absurd hi (Nat.not_lt_zero _)⟩, rM := fun i hi => absurd hi (Nat.not_lt_zero _), lgs := own_below HLO3.out (below_alloc1 _ _) }
  have HAE := hide hA
  go_wp2_with fail
  clear hA
  go_loopw [52] (fun i wr => ∃ k : Nat, k ≤ M.length ∧ i = .int .i64 k ∧ ∃ mv G C, BInv w A gr cr R ⟨p0, p1, p2, q0, q1, q2, r⟩ pc st (.slice ka ops.length kc) (.slice la (logsOf M).length lc) (logsOf M) turns M k mv G C wr) (fun i _ => M.length - (intOf i).toNat)
  case atStart => exact ⟨0, Nat.zero_le _, rfl, _, _, _, H0.out⟩
  case round =>
    clear H0
    obtain ⟨k, hk, rfl, mv, G, C, hQ⟩ := hrel
    by_cases hkl : k < M.length
    · have hki : (k : Int) < (M.length : Int) := by omega
      obtain ⟨am, cm, hmv, hm1, hm2⟩ := ownz_shape hQ.out
      subst hmv
      have HMW := HMV.out.below hQ.bel
      obtain ⟨ma2, mc2, hme2, -, -, hmc2⟩ := HMW
      injection hme2 with e1 e2 e3
      subst e1; subst e3
      obtain ⟨mb, mo, rfl, hmbz, hmrow⟩ := hmc2 (by omega)
      obtain ⟨u, hu, hui⟩ := hmrow k hkl
      have HUI := hide hui
      obtain ⟨ua, uc, rfl, -⟩ := hui
      have HQ := hide hQ
      have hc12 := hQ.cell
      have hAz := hQ.A_lt
      obtain ⟨r0, r32, -⟩ := HROWS.out k hkl
      have HCK : Hid (∀ W, Below wr.heap.size wr W → Calls Try.prog 63 #[.slice ua (rowAt M k).length uc] W fun e w' => ∃ g cap, e = .returned (.slice (some ⟨g, 0, none⟩) (rowAt M k).length cap) ∧ W.heap.size ≤ g ∧ cap ≤ maxLen ∧ RowX w' g 2 cap (rowAt M k).length (fun j => .int .i64 (nth (rowAt M k) j)) ∧ Below W.heap.size W w') := fun W h => clone_128 _ (rowAt M k) W (HUI.out.below h) r0 (by omega)
      obtain ⟨ln, hln⟩ : ∃ ln, (rowAt M k).length = ln := ⟨_, rfl⟩
      rw [hln] at hu HCK
      have HLN := hide hln
      clear hmrow hmc2 hQ hln
      go_wp2_with fail
      refine wp_region_noPanic ?_
      refine region_until 11 (fun w' => w'.cell? ⟨A, 12, none⟩ = some (.slice am k cm)) (by kernel_rfl) hc12 (fun hHeld => ?_)
      refine until_take (i := 0) (v := ?_) rfl (by kernel_rfl) (by kernel_rfl) (by kernel_rfl) (by kernel_rfl) (fun _ _ _ h => h) (Or.inl ⟨by rfl, ?_⟩) hHeld ?_
      rotate_left
      · intro w hSw
        try dsimp only at hSw
        go_simp
        try with_reducible rfl
      try simp only [Act.put, List.setIfInBounds_toArray, List.set_cons_zero, List.set_cons_succ]
      refine until_take (i := 1) (v := ?_) rfl (by kernel_rfl) (by kernel_rfl) (by kernel_rfl) (by kernel_rfl) (fun _ _ _ h => h) (Or.inl ⟨by rfl, ?_⟩) hHeld ?_
      rotate_left
      · intro w hSw
        try dsimp only at hSw
        go_simp
        try with_reducible rfl
      try simp only [Act.put, List.setIfInBounds_toArray, List.set_cons_zero, List.set_cons_succ]
      refine until_take (i := 2) (v := ?_) rfl (by kernel_rfl) (by kernel_rfl) (by kernel_rfl) (by kernel_rfl) (fun _ _ _ h => h) (Or.inl ⟨by rfl, ?_⟩) hHeld ?_
      rotate_left
      · intro w hSw
        try dsimp only at hSw
        go_simp
        try with_reducible rfl
      try simp only [Act.put, List.setIfInBounds_toArray, List.set_cons_zero, List.set_cons_succ]
      refine until_take (i := 3) (v := ?_) rfl (by kernel_rfl) (by kernel_rfl) (by kernel_rfl) (by kernel_rfl) (fun _ _ _ h => h) (Or.inl ⟨by rfl, ?_⟩) hHeld ?_
      rotate_left
      · intro w hSw
        try dsimp only at hSw
        go_simp
        try with_reducible rfl
      try simp only [Act.put, List.setIfInBounds_toArray, List.set_cons_zero, List.set_cons_succ]
      refine until_take (i := 4) (v := ?_) rfl (by kernel_rfl) (by kernel_rfl) (by kernel_rfl) (by kernel_rfl) (fun _ _ _ h => h) (Or.inl ⟨by rfl, ?_⟩) hHeld ?_
      rotate_left
      · intro w hSw
        try dsimp only at hSw
        go_simp
        try with_reducible rfl
      try simp only [Act.put, List.setIfInBounds_toArray, List.set_cons_zero, List.set_cons_succ]
      refine until_take (i := 5) (v := ?_) rfl (by kernel_rfl) (by kernel_rfl) (by kernel_rfl) (by kernel_rfl) (fun _ _ _ h => h) (Or.inl ⟨by rfl, ?_⟩) hHeld ?_
      rotate_left
      · intro w hSw
        try dsimp only at hSw
        go_simp
        try with_reducible rfl
      try simp only [Act.put, List.setIfInBounds_toArray, List.set_cons_zero, List.set_cons_succ]
      refine until_one (i := 6) rfl (by kernel_rfl) (fun K hK => ?_)
      go_simp
      refine (HCK.out _ (Below.refl _ _).drew).mono ?_
      rintro e x5 ⟨g, cap, rfl, hge5, hcm5, hrx5, hb5⟩
      have HB5 : Hid (Below wr.heap.size wr x5) := (Below.refl _ _).drew.trans hb5
      have HG5 : Hid (wr.heap.size ≤ g ∧ cap ≤ maxLen) := ⟨hge5, hcm5⟩
      have HRX5 := hide hrx5
      have HQ5 := hide (HQ.out.below HB5.out)
      clear hge5 hcm5 hrx5 hb5 hHeld
      refine hK.out _ _ (.inr HQ5.out.cell) ?_
      clear hK K
      try simp only [Act.put, List.setIfInBounds_toArray, List.set_cons_zero, List.set_cons_succ]
      refine until_one (i := 7) rfl (by kernel_rfl) (fun K hK => ?_)
      go_simp
      have HQ6 := hide (HQ5.out.below (below_alloc1 x5 (.cells #[.slice (some ⟨g, 0, none⟩) ln cap] 36)))
      refine hK.out _ _ (.inr HQ6.out.cell) ?_
      clear hK K
      try simp only [Act.put, List.setIfInBounds_toArray, List.set_cons_zero, List.set_cons_succ]
      refine until_one (i := 8) rfl (by kernel_rfl) (fun K hK => ?_)
      refine step_append_lies _ (by rfl) (.tmp 60) (.tmp 63) 31 (by rfl) w.heap.size 36 i0 (.slice none 0 0) 1 24 Try.underlying31 hi hz0' hz1 hz2 rfl (by decide) _ k _ (by rfl) HQ6.out.out ⟨x5.heap.size, 0, none⟩ 1 1 [.slice (some ⟨g, 0, none⟩) ln cap] (by rfl) rfl (one_cell _ _ _) (by intro u hu; simp at hu; subst hu; rfl) (by decide) (by unfold maxLen; omega) (by omega) HQ6.out.bel.size (x5.heap.size + 1) (by simp) ?_
      intro g2 cap2 w6 hown6 hgrow6 hat6 hlt6
      have hk6 := HQ6.out.grown hgrow6
      have HO6 := hide hown6
      have HG6 := hide hgrow6
      clear hown6 hgrow6 hat6
      refine hK.out _ _ (.inr hk6.1) ?_
      clear hK K
      try simp only [Act.put, List.setIfInBounds_toArray, List.set_cons_zero, List.set_cons_succ]
      have hHeld := hk6.1
      have hf6 := hk6.2
      refine until_take (i := 9) (v := ?_) rfl (by kernel_rfl) (by kernel_rfl) (by kernel_rfl) (by kernel_rfl) (fun _ _ _ h => h) (Or.inl ⟨by rfl, ?_⟩) hHeld ?_
      rotate_left
      · intro w hSw
        try dsimp only at hSw
        go_simp
        try with_reducible rfl
      try simp only [Act.put, List.setIfInBounds_toArray, List.set_cons_zero, List.set_cons_succ]
      refine until_take (i := 10) (v := ?_) rfl (by kernel_rfl) (by kernel_rfl) (by kernel_rfl) (by kernel_rfl) (fun _ _ _ h => h) (Or.inl ⟨by rfl, ?_⟩) hHeld ?_
      rotate_left
      · intro w hSw
        try dsimp only at hSw
        go_simp
        try with_reducible rfl
      try simp only [Act.put, List.setIfInBounds_toArray, List.set_cons_zero, List.set_cons_succ]
      refine until_one (i := 11) rfl (by kernel_rfl) (fun K hK => ?_)
      go_simp
      refine hK.out _ _ (.inl rfl) ?_
      clear hK K
      try simp only [Act.put, List.setIfInBounds_toArray, List.set_cons_zero, List.set_cons_succ]
      refine until_done (by kernel_rfl) ?_ _
      refine NoPanic.normal ?_
      clear hk6 hHeld
      go_wp2_with fail
      go_roundw
      case rel =>
        refine ⟨k + 1, by omega, by go_num, _, _, _, HQ6.out.step (g := g) (cap := cap) (B0 := 0) ?_ (by have := HG5.out.1; have := HQ.out.bel.size; omega) HG5.out.2 ?_ ?_ (by show w6.ownsRow _ _ _ _ _ (_ ++ [.slice _ (rowAt M k).length _]); rw [HLN.out]; exact HO6.out) HG6.out⟩
        · have h := HRX5.out.below (below_alloc1 x5 (.cells #[.slice (some ⟨g, 0, none⟩) ln cap] 36)) HRX5.out.lt
          rw [← HLN.out] at h ⊢
          exact h
        · have := HQ.out.regs.lt; have := HG5.out.1; omega
        · intro i hi; have := (HQ.out.inn.1 i hi).2.2.2.lt; have := HG5.out.1; omega
      case measure => simp [intOf]; omega
    · have e : k = M.length := by omega
      subst e
      have hki : ¬ (M.length : Int) < (M.length : Int) := by omega
      obtain ⟨am, cm, hmv, hm1, hm2⟩ := ownz_shape hQ.out
      subst hmv
      have HQ := hide hQ
      have HMC := hide hQ.mach
      by_cases ht : turns = 0
      · obtain ⟨e11, e12⟩ := hQ.ends
        have htd : decide (0 < turns) = false := decide_eq_false (by omega)
        have htn : ¬ 0 < turns := by omega
        have HPL : Hid (playK ⟨p0, p1, p2, q0, q1, q2, r⟩ ⟨pc, st, ops⟩ (logsOf M) turns R M = startK R M) := by show _ = _; unfold playK; rw [if_pos ht]
        have hAz := hQ.A_lt
        clear hQ ht
        go_wp2_with fail
        go_big_quiet ((fail))
        go_wp2_with fail
        have hI : MInv ((mcOf w wr A gr cr R ⟨p0, p1, p2, q0, q1, q2, r⟩ pc st (.slice ka ops.length kc) (.slice la (logsOf M).length lc) turns M (.slice am M.length cm) G).at wr) (fun _ => .slice none 0 0) [] (startK R M).f (startK R M).m (wr.drewN nq) := HMC.out.below (below_draws _ _ _)
        exact bodyPost_ret (v := .tuple #[.slice (some ⟨gr, 0, none⟩) R.length cr, .slice am M.length cm, .int .i64 0]) (by simp [results, Try.results35, go_sem]) rfl (run_told (K := ⟨pc, st, ops⟩) HQ.out (Below.refl _ _) hI HPL.out (fine_startK HI64.out.1 HI64.out.2) HW.out rfl)
      · have htd : decide (0 < turns) = true := decide_eq_true (by omega)
        have htn : 0 < turns := by omega
        have hlg : ∀ i, i < (logsOf M).length → -9223372036854775808 ≤ nth (logsOf M) i ∧ nth (logsOf M) i ≤ 9223372036854775807 := fun i hi => by
          rw [logsOf_nth M i (by rw [logsOf_len] at hi; exact hi)]
          have := logIx_le (rowAt M i).length
          omega
        obtain ⟨gm, cm', hst⟩ := hQ.stat hlg
        obtain ⟨hmt, hp1, hp2, hs1, hs2, ho1, ho2, -⟩ := mayK_parts HMAYK.out
        simp only at hp1 hp2 hs1 hs2
        obtain ⟨PC, hPC⟩ : ∃ PC : Nat, pc = (PC : Int) := ⟨pc.toNat, by omega⟩
        obtain ⟨ST, hST⟩ : ∃ ST : Nat, st = (ST : Int) := ⟨st.toNat, by omega⟩
        obtain ⟨N, hN⟩ : ∃ N : Nat, turns + st - 1 = (N : Int) := ⟨(turns + st - 1).toNat, by omega⟩
        have hNP : N * PC ≤ 20000 := by
          have h1 : (turns + st) * pc ≤ 20000 := HLIM.out.resolve_left ht
          have h2 : ((N * PC : Nat) : Int) ≤ (turns + st) * pc := by
            rw [Int.natCast_mul, ← hPC, ← hN]
            exact Int.mul_le_mul_of_nonneg_right (by omega) (by omega)
          omega
        have hlast : lastK ⟨pc, st, ops⟩ turns = ((N * PC : Nat) : Int) := by unfold lastK; show (turns + st - 1) * pc = _; rw [hN, hPC, Int.natCast_mul]
        have HPL : Hid (playK ⟨p0, p1, p2, q0, q1, q2, r⟩ ⟨pc, st, ops⟩ (logsOf M) turns R M = runK ⟨p0, p1, p2, q0, q1, q2, r⟩ ⟨pc, st, ops⟩ (logsOf M) turns (startK R M) (N * PC + 6)) := by
          show _ = _
          unfold playK
          rw [if_neg ht, hlast, show (((N * PC : Nat) : Int) + 7).toNat = N * PC + 7 by omega]
          exact run_end hmt rfl hlast
        have HFI := hide (run_fine (t := ⟨p0, p1, p2, q0, q1, q2, r⟩) (turns := turns) HMAYK.out HNN.out HI64.out.1 HI64.out.2 (N * PC + 6) (by omega))
        have HRUN := hide (mrun_any (mcOf w wr A gr cr R ⟨p0, p1, p2, q0, q1, q2, r⟩ pc st (.slice ka ops.length kc) (.slice la (logsOf M).length lc) turns M (.slice am M.length cm) G) (logsOf M) gm cm' C ⟨pc, st, ops⟩ ka kc PC ST N (fun i => nth R i) (fun i j => nth (rowAt M i) j)
          hQ.mach (fun x hx => (hst x hx).1) rfl (by obtain ⟨ov, e, h⟩ := HKV.out; injection e with e; have e2 : ov = .slice ka ops.length kc := by simpa using e.symm
                                                     rw [e2] at h; exact h.below hQ.bel) (logsOf_len M).symm (fun i hi => ⟨(HROWS.out i hi).2.2, (HROWS.out i hi).2.1⟩) HR1.out HMAYK.out rfl hPC rfl hST hN (by show 1 ≤ turns; omega) ht2 hNP)
        have hAz := hQ.A_lt
        clear hQ ht hlg hst hlast hPC hST hN hp1 hp2 hs1 hs2
        go_wp2_with fail
        refine HRUN.out.mono ?_
        rintro e x9 ⟨rfl, y, V, hby, hI9⟩
        obtain ⟨-, ⟨-, -, -, -, e11, e12, -⟩, -⟩ := hI9.cells
        have e11' : x9.cell? ⟨A, 11, none⟩ = some (.slice (some ⟨gr, 0, none⟩) R.length cr) := e11
        have e12' : x9.cell? ⟨A, 12, none⟩ = some (.slice am M.length cm) := e12
        have HI9 := hide hI9
        have HBY := hide hby
        clear e11 e12 hI9 hby
        go_wp2_with fail
        go_big_quiet ((fail))
        go_wp2_with fail
        exact bodyPost_ret (v := .tuple #[.slice (some ⟨gr, 0, none⟩) R.length cr, .slice am M.length cm, .int .i64 0]) (by simp [results, Try.results35, go_sem]) rfl (run_told (K := ⟨pc, st, ops⟩) HQ.out HBY.out (HI9.out.below (below_draws _ _ _)) HPL.out HFI.out HW.out rfl)

theorem kernelRun_all : RunC := fun t kv rv mv K R M turns w hK hR hM hnn hbig hlim => by
  show Calls _ _ _ _ fun e w' => RunP w t K R M turns e w'
  obtain ⟨p0, p1, p2, q0, q1, q2, r⟩ := t
  obtain ⟨pc, st, ops⟩ := K
  have hK' := hK
  have hR' := hR
  have hM' := hM
  obtain ⟨ov, rfl, hO⟩ := hK'
  obtain ⟨ka, kc, rfl, -⟩ := hO
  obtain ⟨ra, rc, rfl, -⟩ := hR'
  obtain ⟨ma, mc, rfl, -⟩ := hM'
  cases hf : (hasLogs M && decide (M.length ≤ 3)) with
  | false => exact krun_logs p0 p1 p2 q0 q1 q2 r pc st ops ka kc ra rc R ma mc M turns w hK hR hM hf
  | true =>
    cases hmay : mayK ⟨p0, p1, p2, q0, q1, q2, r⟩ ⟨pc, st, ops⟩ (logsOf M) with
    | false => exact krun_may p0 p1 p2 q0 q1 q2 r pc st ops ka kc ra rc R ma mc M turns w hK hR hM hf hmay
    | true =>
      by_cases hr : (R.length : Int) = r
      · cases ht : inR turns 0 200 with
        | false => exact krun_regs p0 p1 p2 q0 q1 q2 r pc st ops ka kc ra rc R ma mc M turns w hK hR hM hf hmay (.inr ⟨hr, ht⟩)
        | true =>
          have hw : wrongK ⟨p0, p1, p2, q0, q1, q2, r⟩ ⟨pc, st, ops⟩ R.length M turns = 0 := by
            have hf2 : hasLogs M = true ∧ M.length ≤ 3 := by simpa using hf
            unfold wrongK
            rw [if_pos ⟨hf2.1, hmay, hr⟩, if_pos (inR_iff.1 ht)]
          exact krun_ok p0 p1 p2 q0 q1 q2 r pc st ops ka kc ra rc R ma mc M turns w hK hR hM hf hmay hr ht hnn (hlim hw)
      · exact krun_regs p0 p1 p2 q0 q1 q2 r pc st ops ka kc ra rc R ma mc M turns w hK hR hM hf hmay (.inl hr)
end Go.Proofs.Ytlgphgfldfjkkaa
