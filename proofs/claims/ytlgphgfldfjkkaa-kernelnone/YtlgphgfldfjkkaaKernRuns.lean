/- KernelRuns' walk: for every machine, kernel, registers, words and turns in memory the law returns true, if the program's May and Run answer as MayC and RunC say; nothing that was there is changed. -/
import Derived.Test.YtlgphgfldfjkkaaRef5Done
import Derived.Test.YtlgphgfldfjkkaaRef3Same
namespace Go.Proofs.Ytlgphgfldfjkkaa
open Go.RowKit Go.Joins
set_option linter.unusedVariables false

/-- how the program tells whether a kernel may be -/
def MayC : Prop := ∀ (t : Tg) (kv : Value) (K : Kn) (la : Option Addr) (lc : Nat) (logs : List Int) (w : World), KernV w kv K → Ints w (.slice la logs.length lc) logs →
  Calls Try.prog 31 #[.agg t.cells, kv, .slice la logs.length lc] w fun e w' => e = .returned (.bool (mayK t K logs)) ∧ Below w.heap.size w w'
/-- how the program runs a kernel -/
def RunC : Prop := ∀ (t : Tg) (kv rv mv : Value) (K : Kn) (R : List Int) (M : List (List Int)) (turns : Int) (w : World), KernV w kv K → Ints w rv R → IntRows w mv M → (∀ x ∈ K.ops, I64 x.nn) → M.length * 24 ≤ 140737488351232 →
  (wrongK t K R.length M turns = 0 → turns = 0 ∨ (turns + K.st) * K.pc ≤ 20000) →
  Calls Try.prog 35 #[.agg t.cells, kv, rv, mv, .int .i64 turns] w fun e w' => ∃ ra rc ma mc rl ml, e = .returned (.tuple #[.slice ra rl rc, .slice ma ml mc, .int .i64 (wrongK t K R.length M turns)]) ∧ Below w.heap.size w w' ∧
    (wrongK t K R.length M turns = 0 → Ints w' (.slice ra rl rc) (regsOf R.length (playK t K (logsOf M) turns R M)) ∧ IntRows w' (.slice ma ml mc) (wordsOf M (playK t K (logsOf M) turns R M))) ∧ (wrongK t K R.length M turns ≠ 0 → rl = 0 ∧ ml = 0)

theorem runC_wrong (hRun : RunC) (t : Tg) (kv rv mv : Value) (K : Kn) (R : List Int) (M : List (List Int)) (turns c : Int) (w : World) (hK : KernV w kv K) (hR : Ints w rv R) (hM : IntRows w mv M) (hnn : ∀ x ∈ K.ops, I64 x.nn) (hbig : M.length * 24 ≤ 140737488351232) (hw : wrongK t K R.length M turns = c) (hc : c ≠ 0) :
    Calls Try.prog 35 #[.agg t.cells, kv, rv, mv, .int .i64 turns] w fun e w' => ∃ ra rc ma mc, e = .returned (.tuple #[.slice ra 0 rc, .slice ma 0 mc, .int .i64 c]) ∧ Below w.heap.size w w' :=
  (hRun t kv rv mv K R M turns w hK hR hM hnn hbig (fun h => absurd h (by rw [hw]; exact hc))).mono fun e w' ⟨ra, rc, ma, mc, rl, ml, h1, h2, h3, h4⟩ => by
    obtain ⟨rfl, rfl⟩ := h4 (by rw [hw]; exact hc)
    rw [hw] at h1
    exact ⟨ra, rc, ma, mc, h1, h2⟩
theorem runC_ok (hRun : RunC) (t : Tg) (kv rv mv : Value) (K : Kn) (R : List Int) (M : List (List Int)) (turns : Int) (w : World) (hK : KernV w kv K) (hR : Ints w rv R) (hM : IntRows w mv M) (hnn : ∀ x ∈ K.ops, I64 x.nn) (hbig : M.length * 24 ≤ 140737488351232) (hw : wrongK t K R.length M turns = 0) (hc : turns = 0 ∨ (turns + K.st) * K.pc ≤ 20000) :
    Calls Try.prog 35 #[.agg t.cells, kv, rv, mv, .int .i64 turns] w fun e w' => ∃ ra rc ma mc rl ml, e = .returned (.tuple #[.slice ra rl rc, .slice ma ml mc, .int .i64 0]) ∧ Ints w' (.slice ra rl rc) (regsOf R.length (playK t K (logsOf M) turns R M)) ∧ IntRows w' (.slice ma ml mc) (wordsOf M (playK t K (logsOf M) turns R M)) ∧ Below w.heap.size w w' :=
  (hRun t kv rv mv K R M turns w hK hR hM hnn hbig (fun _ => hc)).mono fun e w' ⟨ra, rc, ma, mc, rl, ml, h1, h2, h3, h4⟩ => by
    obtain ⟨h5, h6⟩ := h3 hw
    rw [hw] at h1
    exact ⟨ra, rc, ma, mc, rl, ml, h1, h5, h6, h2⟩

set_option maxHeartbeats 1000000 in
theorem kr_nologs (hMay : MayC) (hRun : RunC) (p0 p1 p2 q0 q1 q2 r pc st : Int) (ops : List Kop) (ka : Option Addr) (kc : Nat) (ra : Option Addr) (rc : Nat) (R : List Int) (ma : Option Addr) (mc : Nat) (M : List (List Int)) (turns : Int) (w : World)
    (hK : KernV w (.agg #[.int .i64 pc, .int .i64 st, .slice ka ops.length kc]) ⟨pc, st, ops⟩) (hR : Ints w (.slice ra R.length rc) R) (hM : IntRows w (.slice ma M.length mc) M) (hnn : ∀ x ∈ ops, I64 x.nn) (hbig : M.length * 24 ≤ 140737488351232) (hL : hasLogs M = false) :
    Calls Try.prog 9 #[.agg #[.int .i64 p0, .int .i64 p1, .int .i64 p2, .int .i64 q0, .int .i64 q1, .int .i64 q2, .int .i64 r], (.agg #[.int .i64 pc, .int .i64 st, .slice ka ops.length kc]), .slice ra R.length rc, .slice ma M.length mc, .int .i64 turns] w fun e w' => e = .returned (.bool true) ∧ Below w.heap.size w w' := by
  have HL := hide hL
  have HWR : Hid (wrongK ⟨p0, p1, p2, q0, q1, q2, r⟩ ⟨pc, st, ops⟩ R.length M turns = 2) := by show wrongK _ _ _ _ _ = 2; unfold wrongK; rw [if_neg (by rw [hL]; exact fun h => Bool.noConfusion h.1)]
  obtain ⟨c, hc⟩ : ∃ c : Int, c = 2 := ⟨_, rfl⟩
  rw [← hc] at HWR
  have HCN : Hid (c ≠ 0) := by show c ≠ 0; omega
  have hcb : (c == 0) = false := by simpa using HCN.out
  have hcn : (c != 0) = true := by simpa using HCN.out
  clear hL hc
  have HWC : Hid (∀ W, KernV W (.agg #[.int .i64 pc, .int .i64 st, .slice ka ops.length kc]) ⟨pc, st, ops⟩ → Ints W (.slice ra R.length rc) R → IntRows W (.slice ma M.length mc) M → Calls Try.prog 33 #[.agg #[.int .i64 p0, .int .i64 p1, .int .i64 p2, .int .i64 q0, .int .i64 q1, .int .i64 q2, .int .i64 r], (.agg #[.int .i64 pc, .int .i64 st, .slice ka ops.length kc]), .slice ra R.length rc, .slice ma M.length mc, .int .i64 turns] W fun e w' => e = .returned (.int .i64 c) ∧ Below W.heap.size W w') := fun W h1 h2 h3 => by
    have h := kwrong_any ⟨p0, p1, p2, q0, q1, q2, r⟩ (.agg #[.int .i64 pc, .int .i64 st, .slice ka ops.length kc]) (.slice ra R.length rc) (.slice ma M.length mc) ⟨pc, st, ops⟩ R M turns W h1 h2 h3 hbig
    rw [HWR.out] at h
    exact h
  have HB0 : Hid (Below (bxk w p0 p1 p2 q0 q1 q2 r pc st ka ops.length kc).heap.size (bxk w p0 p1 p2 q0 q1 q2 r pc st ka ops.length kc) (bxk w p0 p1 p2 q0 q1 q2 r pc st ka ops.length kc)) := Below.refl _ _
  have HW0 := hide (bxk_below w p0 p1 p2 q0 q1 q2 r pc st ka ops.length kc)
  go_enter Try.func9, Try.ntmps9
  go_wp2_with fail
  refine (logs_no _ M _ (hM.below HW0.out) hbig HL.out).mono ?_
  rintro e x1 ⟨rfl, hb⟩
  have HBx1 := hide (HB0.out.trans (hb.mono HB0.out.size))
  clear hb
  obtain ⟨⟨a0, a1, a2, a3, a4, a5, a6⟩, b0, b1, b2, z0, z1, hbw⟩ := bxk_cells (by rw [← bxk_size w p0 p1 p2 q0 q1 q2 r pc st ka ops.length kc]; exact HBx1.out)
  have HWx1 := hide hbw
  clear hbw
  go_wp2_with fail
  go_big_quiet ((fail))
  go_wp2_with fail
  have HBx3 : Hid (Below (bxk w p0 p1 p2 q0 q1 q2 r pc st ka ops.length kc).heap.size (bxk w p0 p1 p2 q0 q1 q2 r pc st ka ops.length kc) (x1.drewN nq)) := HBx1.out.trans (below_draws _ _ _)
  have HWx3 : Hid (Below w.heap.size w (x1.drewN nq)) := HWx1.out.trans (below_draws _ _ _)
  refine (HWC.out _ (hK.below HWx3.out) (hR.below HWx3.out) (hM.below HWx3.out)).mono ?_
  rintro e x4 ⟨rfl, hb⟩
  have HBx4 := hide (HBx3.out.trans (hb.mono HBx3.out.size))
  clear hb
  clear a0 a1 a2 a3 a4 a5 a6 b0 b1 b2 z0 z1
  obtain ⟨⟨a0, a1, a2, a3, a4, a5, a6⟩, b0, b1, b2, z0, z1, hbw⟩ := bxk_cells (by rw [← bxk_size w p0 p1 p2 q0 q1 q2 r pc st ka ops.length kc]; exact HBx4.out)
  have HWx4 := hide hbw
  clear hbw
  go_wp2_with fail
  refine (runC_wrong hRun ⟨p0, p1, p2, q0, q1, q2, r⟩ (.agg #[.int .i64 pc, .int .i64 st, .slice ka ops.length kc]) (.slice ra R.length rc) (.slice ma M.length mc) ⟨pc, st, ops⟩ R M turns c _ (hK.below HWx4.out) (hR.below HWx4.out) (hM.below HWx4.out) hnn hbig HWR.out HCN.out).mono ?_
  rintro e x5 ⟨ra5, rc5, ma5, mc5, rfl, hb⟩
  have HBx5 := hide (HBx4.out.trans (hb.mono HBx4.out.size))
  clear hb
  clear a0 a1 a2 a3 a4 a5 a6 b0 b1 b2 z0 z1
  obtain ⟨⟨a0, a1, a2, a3, a4, a5, a6⟩, b0, b1, b2, z0, z1, hbw⟩ := bxk_cells (by rw [← bxk_size w p0 p1 p2 q0 q1 q2 r pc st ka ops.length kc]; exact HBx5.out)
  have HWx5 := hide hbw
  clear hbw
  go_wp2_with fail
  go_ret
  exact ⟨by simp, HWx5.out⟩

set_option maxHeartbeats 2000000 in
theorem kr_logs (hMay : MayC) (hRun : RunC) (p0 p1 p2 q0 q1 q2 r pc st : Int) (ops : List Kop) (ka : Option Addr) (kc : Nat) (ra : Option Addr) (rc : Nat) (R : List Int) (ma : Option Addr) (mc : Nat) (M : List (List Int)) (turns : Int) (w : World)
    (hK : KernV w (.agg #[.int .i64 pc, .int .i64 st, .slice ka ops.length kc]) ⟨pc, st, ops⟩) (hR : Ints w (.slice ra R.length rc) R) (hM : IntRows w (.slice ma M.length mc) M) (hnn : ∀ x ∈ ops, I64 x.nn) (hbig : M.length * 24 ≤ 140737488351232) (hL : hasLogs M = true) :
    Calls Try.prog 9 #[.agg #[.int .i64 p0, .int .i64 p1, .int .i64 p2, .int .i64 q0, .int .i64 q1, .int .i64 q2, .int .i64 r], (.agg #[.int .i64 pc, .int .i64 st, .slice ka ops.length kc]), .slice ra R.length rc, .slice ma M.length mc, .int .i64 turns] w fun e w' => e = .returned (.bool true) ∧ Below w.heap.size w w' := by
  have HL := hide hL
  obtain ⟨b, hbm⟩ : ∃ b, mayK ⟨p0, p1, p2, q0, q1, q2, r⟩ ⟨pc, st, ops⟩ (logsOf M) = b := ⟨_, rfl⟩
  have HBM := hide hbm
  obtain ⟨c, hc⟩ : ∃ c, wrongK ⟨p0, p1, p2, q0, q1, q2, r⟩ ⟨pc, st, ops⟩ R.length M turns = c := ⟨_, rfl⟩
  have HWR := hide hc
  clear hL hc hbm
  have HWC : Hid (∀ W, KernV W (.agg #[.int .i64 pc, .int .i64 st, .slice ka ops.length kc]) ⟨pc, st, ops⟩ → Ints W (.slice ra R.length rc) R → IntRows W (.slice ma M.length mc) M → Calls Try.prog 33 #[.agg #[.int .i64 p0, .int .i64 p1, .int .i64 p2, .int .i64 q0, .int .i64 q1, .int .i64 q2, .int .i64 r], (.agg #[.int .i64 pc, .int .i64 st, .slice ka ops.length kc]), .slice ra R.length rc, .slice ma M.length mc, .int .i64 turns] W fun e w' => e = .returned (.int .i64 c) ∧ Below W.heap.size W w') := fun W h1 h2 h3 => by
    have h := kwrong_any ⟨p0, p1, p2, q0, q1, q2, r⟩ (.agg #[.int .i64 pc, .int .i64 st, .slice ka ops.length kc]) (.slice ra R.length rc) (.slice ma M.length mc) ⟨pc, st, ops⟩ R M turns W h1 h2 h3 hbig
    rw [HWR.out] at h
    exact h
  have HB0 : Hid (Below (bxk w p0 p1 p2 q0 q1 q2 r pc st ka ops.length kc).heap.size (bxk w p0 p1 p2 q0 q1 q2 r pc st ka ops.length kc) (bxk w p0 p1 p2 q0 q1 q2 r pc st ka ops.length kc)) := Below.refl _ _
  have HW0 := hide (bxk_below w p0 p1 p2 q0 q1 q2 r pc st ka ops.length kc)
  go_enter Try.func9, Try.ntmps9
  go_wp2_with fail
  refine (logs_yes _ M _ (hM.below HW0.out) hbig HL.out).mono ?_
  rintro e x1 ⟨lv, rfl, hlv, hb⟩
  have HLV := hide hlv
  obtain ⟨la, lc, rfl, -⟩ := hlv
  have HMA : Hid (∀ W, KernV W (.agg #[.int .i64 pc, .int .i64 st, .slice ka ops.length kc]) ⟨pc, st, ops⟩ → Ints W (.slice la (logsOf M).length lc) (logsOf M) → Calls Try.prog 31 #[.agg #[.int .i64 p0, .int .i64 p1, .int .i64 p2, .int .i64 q0, .int .i64 q1, .int .i64 q2, .int .i64 r], (.agg #[.int .i64 pc, .int .i64 st, .slice ka ops.length kc]), .slice la (logsOf M).length lc] W fun e w' => e = .returned (.bool b) ∧ Below W.heap.size W w') := fun W h1 h2 => HBM.out ▸ hMay ⟨p0, p1, p2, q0, q1, q2, r⟩ (.agg #[.int .i64 pc, .int .i64 st, .slice ka ops.length kc]) ⟨pc, st, ops⟩ la lc (logsOf M) W h1 h2
  have HMB : Hid (∀ W, KernV W (.agg #[.int .i64 pc, .int .i64 st, .slice ka ops.length kc]) ⟨pc, st, ops⟩ → Ints W (.slice la (logsOf M).length lc) (logsOf M) → Calls Try.prog 32 #[.agg #[.int .i64 p0, .int .i64 p1, .int .i64 p2, .int .i64 q0, .int .i64 q1, .int .i64 q2, .int .i64 r], (.agg #[.int .i64 pc, .int .i64 st, .slice ka ops.length kc]), .slice la (logsOf M).length lc] W fun e w' => e = .returned (.bool b) ∧ Below W.heap.size W w') := fun W h1 h2 => HBM.out ▸ kmay_any ⟨p0, p1, p2, q0, q1, q2, r⟩ (.agg #[.int .i64 pc, .int .i64 st, .slice ka ops.length kc]) ⟨pc, st, ops⟩ la lc (logsOf M) W h1 h2
  have HBx1 := hide (HB0.out.trans (hb.mono HB0.out.size))
  clear hb
  obtain ⟨⟨a0, a1, a2, a3, a4, a5, a6⟩, b0, b1, b2, z0, z1, hbw⟩ := bxk_cells (by rw [← bxk_size w p0 p1 p2 q0 q1 q2 r pc st ka ops.length kc]; exact HBx1.out)
  have HWx1 := hide hbw
  clear hbw
  have HSx : Hid (x1.cell? ⟨w.heap.size, 0, none⟩ = some (.int .i64 p0) ∧ x1.cell? ⟨w.heap.size, 1, none⟩ = some (.int .i64 p1) ∧ x1.cell? ⟨w.heap.size, 2, none⟩ = some (.int .i64 p2) ∧ x1.cell? ⟨w.heap.size, 3, none⟩ = some (.int .i64 q0) ∧ x1.cell? ⟨w.heap.size, 4, none⟩ = some (.int .i64 q1) ∧ x1.cell? ⟨w.heap.size, 5, none⟩ = some (.int .i64 q2) ∧ x1.cell? ⟨w.heap.size, 6, none⟩ = some (.int .i64 r) ∧ x1.cell? ⟨w.heap.size + 1, 0, none⟩ = some (.int .i64 pc) ∧ x1.cell? ⟨w.heap.size + 1, 1, none⟩ = some (.int .i64 st) ∧ x1.cell? ⟨w.heap.size + 1, 2, none⟩ = some (.slice ka ops.length kc)) := ⟨a0, a1, a2, a3, a4, a5, a6, b0, b1, b2⟩
  clear a0 a1 a2 a3 a4 a5 a6 b0 b1 b2 z0 z1
  go_wp2_with fail
  refine wp_region_noPanic ?_
  refine region_until 99 (fun w' => w'.cell? ⟨w.heap.size, 0, none⟩ = some (.int .i64 p0) ∧ w'.cell? ⟨w.heap.size, 1, none⟩ = some (.int .i64 p1) ∧ w'.cell? ⟨w.heap.size, 2, none⟩ = some (.int .i64 p2) ∧ w'.cell? ⟨w.heap.size, 3, none⟩ = some (.int .i64 q0) ∧ w'.cell? ⟨w.heap.size, 4, none⟩ = some (.int .i64 q1) ∧ w'.cell? ⟨w.heap.size, 5, none⟩ = some (.int .i64 q2) ∧ w'.cell? ⟨w.heap.size, 6, none⟩ = some (.int .i64 r) ∧ w'.cell? ⟨w.heap.size + 1, 0, none⟩ = some (.int .i64 pc) ∧ w'.cell? ⟨w.heap.size + 1, 1, none⟩ = some (.int .i64 st) ∧ w'.cell? ⟨w.heap.size + 1, 2, none⟩ = some (.slice ka ops.length kc)) (by kernel_rfl) HSx.out (fun hHeld => ?_)
  refine until_take (i := 0) (v := ?_) rfl (by kernel_rfl) (by kernel_rfl) (by kernel_rfl) (by kernel_rfl) (fun _ _ _ h => h) (Or.inl ⟨by rfl, ?_⟩) hHeld ?_
  rotate_left
  · intro w hSw
    try dsimp only at hSw
    go_simp
    try with_reducible rfl
  try simp only [Act.put, List.setIfInBounds_toArray, List.set_cons_zero, List.set_cons_succ]
  refine until_take (i := 1) (v := ?_) rfl (by kernel_rfl) (by kernel_rfl) (by kernel_rfl) (by kernel_rfl) (fun _ _ _ h => h) (Or.inl ⟨by rfl, ?_⟩) hHeld ?_
  rotate_left
  · intro w hSw
    try dsimp only at hSw
    go_simp
    try with_reducible rfl
  try simp only [Act.put, List.setIfInBounds_toArray, List.set_cons_zero, List.set_cons_succ]
  refine until_take (i := 2) (v := ?_) rfl (by kernel_rfl) (by kernel_rfl) (by kernel_rfl) (by kernel_rfl) (fun _ _ _ h => h) (Or.inl ⟨by rfl, ?_⟩) hHeld ?_
  rotate_left
  · intro w hSw
    try dsimp only at hSw
    go_simp
    try with_reducible rfl
  try simp only [Act.put, List.setIfInBounds_toArray, List.set_cons_zero, List.set_cons_succ]
  refine until_take (i := 3) (v := ?_) rfl (by kernel_rfl) (by kernel_rfl) (by kernel_rfl) (by kernel_rfl) (fun _ _ _ h => h) (Or.inl ⟨by rfl, ?_⟩) hHeld ?_
  rotate_left
  · intro w hSw
    try dsimp only at hSw
    go_simp
    try with_reducible rfl
  try simp only [Act.put, List.setIfInBounds_toArray, List.set_cons_zero, List.set_cons_succ]
  refine until_take (i := 4) (v := ?_) rfl (by kernel_rfl) (by kernel_rfl) (by kernel_rfl) (by kernel_rfl) (fun _ _ _ h => h) (Or.inl ⟨by rfl, ?_⟩) hHeld ?_
  rotate_left
  · intro w hSw
    try dsimp only at hSw
    go_simp
    try with_reducible rfl
  try simp only [Act.put, List.setIfInBounds_toArray, List.set_cons_zero, List.set_cons_succ]
  refine until_take (i := 6) (v := ?_) rfl (by kernel_rfl) (by kernel_rfl) (by kernel_rfl) (by kernel_rfl) (fun _ _ _ h => h) (Or.inl ⟨by rfl, ?_⟩) hHeld ?_
  rotate_left
  · intro w hSw
    try dsimp only at hSw
    go_simp
    try with_reducible rfl
  try simp only [Act.put, List.setIfInBounds_toArray, List.set_cons_zero, List.set_cons_succ]
  refine until_take (i := 7) (v := ?_) rfl (by kernel_rfl) (by kernel_rfl) (by kernel_rfl) (by kernel_rfl) (fun _ _ _ h => h) (Or.inl ⟨by rfl, ?_⟩) hHeld ?_
  rotate_left
  · intro w hSw
    try dsimp only at hSw
    go_simp
    try with_reducible rfl
  try simp only [Act.put, List.setIfInBounds_toArray, List.set_cons_zero, List.set_cons_succ]
  refine until_take (i := 8) (v := ?_) rfl (by kernel_rfl) (by kernel_rfl) (by kernel_rfl) (by kernel_rfl) (fun _ _ _ h => h) (Or.inl ⟨by rfl, ?_⟩) hHeld ?_
  rotate_left
  · intro w hSw
    try dsimp only at hSw
    go_simp
    try with_reducible rfl
  try simp only [Act.put, List.setIfInBounds_toArray, List.set_cons_zero, List.set_cons_succ]
  refine until_one (i := 5) rfl (by kernel_rfl) (fun K hK9 => ?_)
  go_simp
  have HBx1d : Hid (Below (bxk w p0 p1 p2 q0 q1 q2 r pc st ka ops.length kc).heap.size (bxk w p0 p1 p2 q0 q1 q2 r pc st ka ops.length kc) (x1.drewN 1)) := HBx1.out.trans (below_draws _ _ _)
  have HWx1d : Hid (Below w.heap.size w (x1.drewN 1)) := HWx1.out.trans (below_draws _ _ _)
  refine (HMA.out _ (hK.below (by exact HWx1d.out)) (HLV.out.below (below_draws _ _ 1))).mono ?_
  rintro e x2 ⟨rfl, hb⟩
  have HLV2 := hide ((HLV.out.below (below_draws _ _ 1)).below hb)
  have HBx2 := hide (HBx1d.out.trans (hb.mono HBx1d.out.size))
  clear hb
  obtain ⟨⟨a0, a1, a2, a3, a4, a5, a6⟩, b0, b1, b2, z0, z1, hbw⟩ := bxk_cells (by rw [← bxk_size w p0 p1 p2 q0 q1 q2 r pc st ka ops.length kc]; exact HBx2.out)
  have HWx2 := hide hbw
  clear hbw
  have hHeld : x2.cell? ⟨w.heap.size, 0, none⟩ = some (.int .i64 p0) ∧ x2.cell? ⟨w.heap.size, 1, none⟩ = some (.int .i64 p1) ∧ x2.cell? ⟨w.heap.size, 2, none⟩ = some (.int .i64 p2) ∧ x2.cell? ⟨w.heap.size, 3, none⟩ = some (.int .i64 q0) ∧ x2.cell? ⟨w.heap.size, 4, none⟩ = some (.int .i64 q1) ∧ x2.cell? ⟨w.heap.size, 5, none⟩ = some (.int .i64 q2) ∧ x2.cell? ⟨w.heap.size, 6, none⟩ = some (.int .i64 r) ∧ x2.cell? ⟨w.heap.size + 1, 0, none⟩ = some (.int .i64 pc) ∧ x2.cell? ⟨w.heap.size + 1, 1, none⟩ = some (.int .i64 st) ∧ x2.cell? ⟨w.heap.size + 1, 2, none⟩ = some (.slice ka ops.length kc) := ⟨a0, a1, a2, a3, a4, a5, a6, b0, b1, b2⟩
  refine hK9.out _ _ (.inr hHeld) ?_
  clear hK9 K
  try simp only [Act.put, List.setIfInBounds_toArray, List.set_cons_zero, List.set_cons_succ]
  refine until_one (i := 9) rfl (by kernel_rfl) (fun K hK9 => ?_)
  go_simp
  refine (HMB.out _ (hK.below HWx2.out) HLV2.out).mono ?_
  rintro e x3 ⟨rfl, hb⟩
  have HBx3 := hide (HBx2.out.trans (hb.mono HBx2.out.size))
  clear hb hHeld
  clear a0 a1 a2 a3 a4 a5 a6 b0 b1 b2 z0 z1
  obtain ⟨⟨a0, a1, a2, a3, a4, a5, a6⟩, b0, b1, b2, z0, z1, hbw⟩ := bxk_cells (by rw [← bxk_size w p0 p1 p2 q0 q1 q2 r pc st ka ops.length kc]; exact HBx3.out)
  have HWx3 := hide hbw
  clear hbw
  have hHeld : x3.cell? ⟨w.heap.size, 0, none⟩ = some (.int .i64 p0) ∧ x3.cell? ⟨w.heap.size, 1, none⟩ = some (.int .i64 p1) ∧ x3.cell? ⟨w.heap.size, 2, none⟩ = some (.int .i64 p2) ∧ x3.cell? ⟨w.heap.size, 3, none⟩ = some (.int .i64 q0) ∧ x3.cell? ⟨w.heap.size, 4, none⟩ = some (.int .i64 q1) ∧ x3.cell? ⟨w.heap.size, 5, none⟩ = some (.int .i64 q2) ∧ x3.cell? ⟨w.heap.size, 6, none⟩ = some (.int .i64 r) ∧ x3.cell? ⟨w.heap.size + 1, 0, none⟩ = some (.int .i64 pc) ∧ x3.cell? ⟨w.heap.size + 1, 1, none⟩ = some (.int .i64 st) ∧ x3.cell? ⟨w.heap.size + 1, 2, none⟩ = some (.slice ka ops.length kc) := ⟨a0, a1, a2, a3, a4, a5, a6, b0, b1, b2⟩
  refine hK9.out _ _ (.inr hHeld) ?_
  clear hK9 K
  try simp only [Act.put, List.setIfInBounds_toArray, List.set_cons_zero, List.set_cons_succ]
  refine until_take (i := 10) (v := ?_) rfl (by kernel_rfl) (by kernel_rfl) (by kernel_rfl) (by kernel_rfl) (fun _ _ _ h => h) (Or.inl ⟨by rfl, ?_⟩) hHeld ?_
  rotate_left
  · intro w hSw
    try dsimp only at hSw
    go_simp
    try with_reducible rfl
  try simp only [Act.put, List.setIfInBounds_toArray, List.set_cons_zero, List.set_cons_succ]
  refine until_take (i := 11) (v := ?_) rfl (by kernel_rfl) (by kernel_rfl) (by kernel_rfl) (by kernel_rfl) (fun _ _ _ h => h) (Or.inl ⟨by rfl, ?_⟩) hHeld ?_
  rotate_left
  · intro w hSw
    try dsimp only at hSw
    go_simp
    try with_reducible rfl
  try simp only [Act.put, List.setIfInBounds_toArray, List.set_cons_zero, List.set_cons_succ]
  refine until_done (by kernel_rfl) ?_ _
  refine NoPanic.normal ?_
  clear hHeld
  by_cases hc0 : c = 0
  · subst hc0
    go_wp2_with fail
    refine (HWC.out _ (hK.below HWx3.out) (hR.below HWx3.out) (hM.below HWx3.out)).mono ?_
    rintro e x4 ⟨rfl, hb⟩
    have HBx4 := hide (HBx3.out.trans (hb.mono HBx3.out.size))
    clear hb
    clear a0 a1 a2 a3 a4 a5 a6 b0 b1 b2 z0 z1
    obtain ⟨⟨a0, a1, a2, a3, a4, a5, a6⟩, b0, b1, b2, z0, z1, hbw⟩ := bxk_cells (by rw [← bxk_size w p0 p1 p2 q0 q1 q2 r pc st ka ops.length kc]; exact HBx4.out)
    have HWx4 := hide hbw
    clear hbw
    go_wp2_with fail
    have hwk := work_any ⟨p0, p1, p2, q0, q1, q2, r⟩ ⟨pc, st, ops⟩ R.length M turns (.slice ka ops.length kc) x4 HWR.out
    by_cases hk : 20000 < (turns + st) * pc
    · rw [decide_eq_true (p := 20000 < (turns + (Kn.mk pc st ops).st) * (Kn.mk pc st ops).pc) hk] at hwk
      refine hwk.mono ?_
      rintro e x5 ⟨rfl, hb⟩
      have HWx5 := hide (HWx4.out.trans (hb.mono HWx4.out.size))
      clear hb
      go_wp2_with fail
      go_ret
      exact ⟨by simp, HWx5.out⟩
    · rw [decide_eq_false (p := 20000 < (turns + (Kn.mk pc st ops).st) * (Kn.mk pc st ops).pc) hk] at hwk
      refine hwk.mono ?_
      rintro e x5 ⟨rfl, hb⟩
      have HBx5 := hide (HBx4.out.trans (hb.mono HBx4.out.size))
      clear hb hwk
      clear a0 a1 a2 a3 a4 a5 a6 b0 b1 b2 z0 z1
      obtain ⟨⟨a0, a1, a2, a3, a4, a5, a6⟩, b0, b1, b2, z0, z1, hbw⟩ := bxk_cells (by rw [← bxk_size w p0 p1 p2 q0 q1 q2 r pc st ka ops.length kc]; exact HBx5.out)
      have HWx5 := hide hbw
      clear hbw
      have HNK := hide hk
      clear hk
      go_wp2_with fail
      refine (runC_ok hRun ⟨p0, p1, p2, q0, q1, q2, r⟩ (.agg #[.int .i64 pc, .int .i64 st, .slice ka ops.length kc]) (.slice ra R.length rc) (.slice ma M.length mc) ⟨pc, st, ops⟩ R M turns _ (hK.below HWx5.out) (hR.below HWx5.out) (hM.below HWx5.out) hnn hbig HWR.out (.inr (by have := HNK.out; dsimp only; omega))).mono ?_
      rintro e x6 ⟨ra6, rc6, ma6, mc6, rl6, ml6, rfl, h61, h62, hb⟩
      have HBx6 := hide (HBx5.out.trans (hb.mono HBx5.out.size))
      have H61 := hide h61
      have H62 := hide h62
      clear hb h61 h62
      clear a0 a1 a2 a3 a4 a5 a6 b0 b1 b2 z0 z1
      obtain ⟨⟨a0, a1, a2, a3, a4, a5, a6⟩, b0, b1, b2, z0, z1, hbw⟩ := bxk_cells (by rw [← bxk_size w p0 p1 p2 q0 q1 q2 r pc st ka ops.length kc]; exact HBx6.out)
      have HWx6 := hide hbw
      clear hbw
      go_wp2_with fail
      refine (kplay_any ⟨p0, p1, p2, q0, q1, q2, r⟩ (.agg #[.int .i64 pc, .int .i64 st, .slice ka ops.length kc]) (.slice ra R.length rc) (.slice ma M.length mc) ⟨pc, st, ops⟩ R M turns _ (hK.below HWx6.out) (hR.below HWx6.out) (hM.below HWx6.out) HWR.out hnn).mono ?_
      rintro e x7 ⟨rv7, mv7, rfl, h71, h72, hb⟩
      have HBx7 := hide (HBx6.out.trans (hb.mono HBx6.out.size))
      have H71 := hide h71
      have H72 := hide h72
      have H61b := hide (H61.out.below hb)
      have H62b := hide (H62.out.below hb)
      have HWx7 := hide (HWx6.out.trans (hb.mono HWx6.out.size))
      clear hb h71 h72
      clear a0 a1 a2 a3 a4 a5 a6 b0 b1 b2 z0 z1
      go_wp2_with fail
      refine (numbers_any _ _ _ _ _ H61b.out H71.out).mono ?_
      rintro e x8 ⟨rfl, n8, rfl⟩
      rw [decide_eq_true rfl]
      go_wp2_with fail
      refine (words_any _ _ _ _ _ (H62b.out.below (below_draws _ _ _)) (H72.out.below (below_draws _ _ _))).mono ?_
      rintro e x9 ⟨rfl, n9, rfl⟩
      rw [decide_eq_true rfl]
      go_wp2_with fail
      go_ret
      exact ⟨by simp, HWx7.out.trans (below_draws _ _ _)⟩
  · have HCN := hide hc0
    have hcb : (c == 0) = false := by simpa using hc0
    have hcn : (c != 0) = true := by simpa using hc0
    clear hc0
    go_wp2_with fail
    refine (HWC.out _ (hK.below HWx3.out) (hR.below HWx3.out) (hM.below HWx3.out)).mono ?_
    rintro e x4 ⟨rfl, hb⟩
    have HBx4 := hide (HBx3.out.trans (hb.mono HBx3.out.size))
    clear hb
    clear a0 a1 a2 a3 a4 a5 a6 b0 b1 b2 z0 z1
    obtain ⟨⟨a0, a1, a2, a3, a4, a5, a6⟩, b0, b1, b2, z0, z1, hbw⟩ := bxk_cells (by rw [← bxk_size w p0 p1 p2 q0 q1 q2 r pc st ka ops.length kc]; exact HBx4.out)
    have HWx4 := hide hbw
    clear hbw
    go_wp2_with fail
    refine (runC_wrong hRun ⟨p0, p1, p2, q0, q1, q2, r⟩ (.agg #[.int .i64 pc, .int .i64 st, .slice ka ops.length kc]) (.slice ra R.length rc) (.slice ma M.length mc) ⟨pc, st, ops⟩ R M turns c _ (hK.below HWx4.out) (hR.below HWx4.out) (hM.below HWx4.out) hnn hbig HWR.out HCN.out).mono ?_
    rintro e x5 ⟨ra5, rc5, ma5, mc5, rfl, hb⟩
    have HBx5 := hide (HBx4.out.trans (hb.mono HBx4.out.size))
    clear hb
    clear a0 a1 a2 a3 a4 a5 a6 b0 b1 b2 z0 z1
    obtain ⟨⟨a0, a1, a2, a3, a4, a5, a6⟩, b0, b1, b2, z0, z1, hbw⟩ := bxk_cells (by rw [← bxk_size w p0 p1 p2 q0 q1 q2 r pc st ka ops.length kc]; exact HBx5.out)
    have HWx5 := hide hbw
    clear hbw
    go_wp2_with fail
    go_ret
    exact ⟨by simp, HWx5.out⟩

theorem kernelRuns_any (hMay : MayC) (hRun : RunC) (t : Tg) (kv rv mv : Value) (K : Kn) (R : List Int) (M : List (List Int)) (turns : Int) (w : World) (hK : KernV w kv K) (hR : Ints w rv R) (hM : IntRows w mv M) (hnn : ∀ x ∈ K.ops, I64 x.nn) (hbig : M.length * 24 ≤ 140737488351232) :
    Calls Try.prog 9 #[.agg t.cells, kv, rv, mv, .int .i64 turns] w fun e w' => e = .returned (.bool true) ∧ Below w.heap.size w w' := by
  obtain ⟨p0, p1, p2, q0, q1, q2, r⟩ := t
  obtain ⟨pc, st, ops⟩ := K
  have hK' := hK
  have hR' := hR
  have hM' := hM
  obtain ⟨ov, rfl, hO⟩ := hK'
  obtain ⟨ra, rc, rfl, -⟩ := hR'
  obtain ⟨ma, mc, rfl, -⟩ := hM'
  obtain ⟨ka, kc, rfl, -⟩ := hO
  cases hL : hasLogs M with
  | false => exact kr_nologs hMay hRun p0 p1 p2 q0 q1 q2 r pc st ops ka kc ra rc R ma mc M turns w hK hR hM hnn hbig hL
  | true => exact kr_logs hMay hRun p0 p1 p2 q0 q1 q2 r pc st ops ka kc ra rc R ma mc M turns w hK hR hM hnn hbig hL
end Go.Proofs.Ytlgphgfldfjkkaa
