/- Ref5B: texts that are built as one: Ref5Wrong, Ref5Done, KernRuns, KernNone. -/
import Derived.Test.YtpljieenjkbmmaaRef5May
import Derived.Test.YtpljieenjkbmmaaRef5A
import Derived.Test.YtpljieenjkbmmaaRef5Play
import Derived.Test.YtpljieenjkbmmaaRef3A
/- The contract of the document's own answer on what is wrong with a run of a kernel; nothing that was there is changed. -/
namespace Go.Proofs.Ytpljieenjkbmmaa
open Go.RowKit Go.Joins
set_option linter.unusedVariables false

/-- E2: what is wrong -/
def wrongK (t : Tg) (K : Kn) (regs : Nat) (M : List (List Int)) (turns : Int) : Int :=
  if hasLogs M = true ∧ mayK t K (logsOf M) = true ∧ (regs : Int) = t.r then (if 0 ≤ turns ∧ turns ≤ 200 then 0 else 3) else 2

theorem logs_yes (v : Value) (M : List (List Int)) (w : World) (h : IntRows w v M) (hbig : M.length * 24 ≤ 140737488351232) (hL : hasLogs M = true) :
    Calls Try.prog 34 #[v] w fun e w' => ∃ lv, e = .returned (.tuple #[lv, .bool true]) ∧ Ints w' lv (logsOf M) ∧ Below w.heap.size w w' :=
  (logs_any v M w h hbig).mono fun e w' ⟨lv, h1, h2, h3, h4⟩ => ⟨lv, by rw [hL] at h1; exact h1, (h2 hL).1, h4⟩
theorem logs_no (v : Value) (M : List (List Int)) (w : World) (h : IntRows w v M) (hbig : M.length * 24 ≤ 140737488351232) (hL : hasLogs M = false) :
    Calls Try.prog 34 #[v] w fun e w' => e = .returned (.tuple #[.slice none 0 0, .bool false]) ∧ Below w.heap.size w w' :=
  (logs_any v M w h hbig).mono fun e w' ⟨lv, h1, h2, h3, h4⟩ => ⟨by rw [hL, h3 hL] at h1; exact h1, h4⟩

set_option maxHeartbeats 1000000 in
theorem kwrong_seven (p0 p1 p2 q0 q1 q2 r : Int) (K : Kn) (ka : Option Addr) (kc : Nat) (ra : Option Addr) (rc : Nat) (R : List Int) (ma : Option Addr) (mc : Nat) (M : List (List Int)) (turns : Int) (w : World) (hK : KernV w (.agg #[.int .i64 K.pc, .int .i64 K.st, .slice ka K.ops.length kc]) K) (hM : IntRows w (.slice ma M.length mc) M) (hbig : M.length * 24 ≤ 140737488351232) (hrc : R.length ≤ rc) (hrm : rc ≤ maxLen) (hkc : K.ops.length ≤ kc) (hkm : kc ≤ maxLen) :
    Calls Try.prog 37 #[.agg #[.int .i64 p0, .int .i64 p1, .int .i64 p2, .int .i64 q0, .int .i64 q1, .int .i64 q2, .int .i64 r], .agg #[.int .i64 K.pc, .int .i64 K.st, .slice ka K.ops.length kc], .slice ra R.length rc, .slice ma M.length mc, .int .i64 turns] w fun e w' => e = .returned (.int .i64 (wrongK ⟨p0, p1, p2, q0, q1, q2, r⟩ K R.length M turns)) ∧ Below w.heap.size w w' := by
  unfold maxLen at hrm hkm
  cases hL : hasLogs M with
  | false =>
    have HLG := hide (logs_no _ M (bxk w p0 p1 p2 q0 q1 q2 r K.pc K.st ka K.ops.length kc) (hM.below (bxk_below _ _ _ _ _ _ _ _ _ _ _ _ _)) hbig hL)
    have HX : Hid (wrongK ⟨p0, p1, p2, q0, q1, q2, r⟩ K R.length M turns = 2) := by show _ = _; unfold wrongK; rw [if_neg (by rw [hL]; simp)]
    clear hL
    go_enter Try.func37, Try.ntmps37
    go_wp2_with fail
    refine HLG.out.mono ?_
    rintro e x1 ⟨rfl, hb1⟩
    rw [bxk_size] at hb1
    obtain ⟨⟨t0, t1, t2, t3, t4, t5, t6⟩, e1, e2, e3, z0, z1, hbw⟩ := bxk_cells hb1
    have HB := hide hbw
    clear hb1 hbw HLG
    go_wp2_with fail
    go_ret
    exact ⟨ret_int HX.out.symm, HB.out⟩
  | true =>
    have HLG := hide (logs_yes _ M (bxk w p0 p1 p2 q0 q1 q2 r K.pc K.st ka K.ops.length kc) (hM.below (bxk_below _ _ _ _ _ _ _ _ _ _ _ _ _)) hbig hL)
    have HL := hide hL
    clear hL
    cases hm : mayK ⟨p0, p1, p2, q0, q1, q2, r⟩ K (logsOf M) with
    | false =>
      have HX : Hid (wrongK ⟨p0, p1, p2, q0, q1, q2, r⟩ K R.length M turns = 2) := by show _ = _; unfold wrongK; rw [if_neg (by rw [hm]; simp)]
      go_enter Try.func37, Try.ntmps37
      go_wp2_with fail
      refine HLG.out.mono ?_
      rintro e x1 ⟨lv, rfl, hlv, hb1⟩
      rw [bxk_size] at hb1
      obtain ⟨⟨t0, t1, t2, t3, t4, t5, t6⟩, e1, e2, e3, z0, z1, hbw⟩ := bxk_cells hb1
      have hlv' := hlv
      obtain ⟨la, lc, rfl, -, -, -, -⟩ := hlv'
      have hmy := kmay_any ⟨p0, p1, p2, q0, q1, q2, r⟩ _ K la lc (logsOf M) x1 (hK.below hbw) hlv
      rw [hm] at hmy
      have HMY := hide hmy
      have HB := hide hbw
      have hsz := hbw.size
      clear hb1 hbw hlv hmy hm
      go_wp2_with fail
      refine HMY.out.mono ?_
      rintro e x2 ⟨rfl, hb2⟩
      have ht6 : x2.cell? ⟨w.heap.size, 6, none⟩ = some (.int .i64 r) := by rw [bcell hb2 _ _ z0]; exact t6
      have HB2 := hide (HB.out.trans (hb2.mono hsz))
      clear hb2 HMY t0 t1 t2 t3 t4 t5 t6 e1 e2 e3
      clear HLG
      go_wp2_with fail
      go_ret
      exact ⟨ret_int HX.out.symm, HB2.out⟩
    | true =>
      by_cases hr : (R.length : Int) = r
      · have hrb : ((R.length : Int) != r) = false := by simpa using hr
        by_cases h0 : turns < 0
        · have HX : Hid (wrongK ⟨p0, p1, p2, q0, q1, q2, r⟩ K R.length M turns = 3) := by show _ = _; unfold wrongK; rw [if_pos ⟨HL.out, hm, hr⟩, if_neg (by omega)]
          clear hr
          go_enter Try.func37, Try.ntmps37
          go_wp2_with fail
          refine HLG.out.mono ?_
          rintro e x1 ⟨lv, rfl, hlv, hb1⟩
          rw [bxk_size] at hb1
          obtain ⟨⟨t0, t1, t2, t3, t4, t5, t6⟩, e1, e2, e3, z0, z1, hbw⟩ := bxk_cells hb1
          have hlv' := hlv
          obtain ⟨la, lc, rfl, -, -, -, -⟩ := hlv'
          have hmy := kmay_any ⟨p0, p1, p2, q0, q1, q2, r⟩ _ K la lc (logsOf M) x1 (hK.below hbw) hlv
          rw [hm] at hmy
          have HMY := hide hmy
          have HB := hide hbw
          have hsz := hbw.size
          clear hb1 hbw hlv hmy hm
          go_wp2_with fail
          refine HMY.out.mono ?_
          rintro e x2 ⟨rfl, hb2⟩
          have ht6 : x2.cell? ⟨w.heap.size, 6, none⟩ = some (.int .i64 r) := by rw [bcell hb2 _ _ z0]; exact t6
          have HB2 := hide (HB.out.trans (hb2.mono hsz))
          clear hb2 HMY t0 t1 t2 t3 t4 t5 t6 e1 e2 e3
          clear HLG
          go_wp2_with fail
          go_ret
          exact ⟨ret_int HX.out.symm, HB2.out⟩
        · by_cases h2 : 200 < turns
          · have HX : Hid (wrongK ⟨p0, p1, p2, q0, q1, q2, r⟩ K R.length M turns = 3) := by show _ = _; unfold wrongK; rw [if_pos ⟨HL.out, hm, hr⟩, if_neg (by omega)]
            clear hr
            go_enter Try.func37, Try.ntmps37
            go_wp2_with fail
            refine HLG.out.mono ?_
            rintro e x1 ⟨lv, rfl, hlv, hb1⟩
            rw [bxk_size] at hb1
            obtain ⟨⟨t0, t1, t2, t3, t4, t5, t6⟩, e1, e2, e3, z0, z1, hbw⟩ := bxk_cells hb1
            have hlv' := hlv
            obtain ⟨la, lc, rfl, -, -, -, -⟩ := hlv'
            have hmy := kmay_any ⟨p0, p1, p2, q0, q1, q2, r⟩ _ K la lc (logsOf M) x1 (hK.below hbw) hlv
            rw [hm] at hmy
            have HMY := hide hmy
            have HB := hide hbw
            have hsz := hbw.size
            clear hb1 hbw hlv hmy hm
            go_wp2_with fail
            refine HMY.out.mono ?_
            rintro e x2 ⟨rfl, hb2⟩
            have ht6 : x2.cell? ⟨w.heap.size, 6, none⟩ = some (.int .i64 r) := by rw [bcell hb2 _ _ z0]; exact t6
            have HB2 := hide (HB.out.trans (hb2.mono hsz))
            clear hb2 HMY t0 t1 t2 t3 t4 t5 t6 e1 e2 e3
            clear HLG
            go_wp2_with fail
            go_ret
            exact ⟨ret_int HX.out.symm, HB2.out⟩
          · have HX : Hid (wrongK ⟨p0, p1, p2, q0, q1, q2, r⟩ K R.length M turns = 0) := by show _ = _; unfold wrongK; rw [if_pos ⟨HL.out, hm, hr⟩, if_pos (by omega)]
            clear hr
            go_enter Try.func37, Try.ntmps37
            go_wp2_with fail
            refine HLG.out.mono ?_
            rintro e x1 ⟨lv, rfl, hlv, hb1⟩
            rw [bxk_size] at hb1
            obtain ⟨⟨t0, t1, t2, t3, t4, t5, t6⟩, e1, e2, e3, z0, z1, hbw⟩ := bxk_cells hb1
            have hlv' := hlv
            obtain ⟨la, lc, rfl, -, -, -, -⟩ := hlv'
            have hmy := kmay_any ⟨p0, p1, p2, q0, q1, q2, r⟩ _ K la lc (logsOf M) x1 (hK.below hbw) hlv
            rw [hm] at hmy
            have HMY := hide hmy
            have HB := hide hbw
            have hsz := hbw.size
            clear hb1 hbw hlv hmy hm
            go_wp2_with fail
            refine HMY.out.mono ?_
            rintro e x2 ⟨rfl, hb2⟩
            have ht6 : x2.cell? ⟨w.heap.size, 6, none⟩ = some (.int .i64 r) := by rw [bcell hb2 _ _ z0]; exact t6
            have HB2 := hide (HB.out.trans (hb2.mono hsz))
            clear hb2 HMY t0 t1 t2 t3 t4 t5 t6 e1 e2 e3
            clear HLG
            go_wp2_with fail
            go_ret
            exact ⟨ret_int HX.out.symm, HB2.out⟩
      · have hrb : ((R.length : Int) != r) = true := by simpa using hr
        have HX : Hid (wrongK ⟨p0, p1, p2, q0, q1, q2, r⟩ K R.length M turns = 2) := by show _ = _; unfold wrongK; rw [if_neg (fun h => hr h.2.2)]
        clear hr
        go_enter Try.func37, Try.ntmps37
        go_wp2_with fail
        refine HLG.out.mono ?_
        rintro e x1 ⟨lv, rfl, hlv, hb1⟩
        rw [bxk_size] at hb1
        obtain ⟨⟨t0, t1, t2, t3, t4, t5, t6⟩, e1, e2, e3, z0, z1, hbw⟩ := bxk_cells hb1
        have hlv' := hlv
        obtain ⟨la, lc, rfl, -, -, -, -⟩ := hlv'
        have hmy := kmay_any ⟨p0, p1, p2, q0, q1, q2, r⟩ _ K la lc (logsOf M) x1 (hK.below hbw) hlv
        rw [hm] at hmy
        have HMY := hide hmy
        have HB := hide hbw
        have hsz := hbw.size
        clear hb1 hbw hlv hmy hm
        go_wp2_with fail
        refine HMY.out.mono ?_
        rintro e x2 ⟨rfl, hb2⟩
        have ht6 : x2.cell? ⟨w.heap.size, 6, none⟩ = some (.int .i64 r) := by rw [bcell hb2 _ _ z0]; exact t6
        have HB2 := hide (HB.out.trans (hb2.mono hsz))
        clear hb2 HMY t0 t1 t2 t3 t4 t5 t6 e1 e2 e3
        clear HLG
        go_wp2_with fail
        go_ret
        exact ⟨ret_int HX.out.symm, HB2.out⟩
theorem kwrong_any (t : Tg) (kv rv mv : Value) (K : Kn) (R : List Int) (M : List (List Int)) (turns : Int) (w : World) (hK : KernV w kv K) (hR : Ints w rv R) (hM : IntRows w mv M) (hbig : M.length * 24 ≤ 140737488351232) :
    Calls Try.prog 37 #[.agg t.cells, kv, rv, mv, .int .i64 turns] w fun e w' => e = .returned (.int .i64 (wrongK t K R.length M turns)) ∧ Below w.heap.size w w' := by
  have hK' := hK
  obtain ⟨ov, rfl, hO⟩ := hK'
  obtain ⟨ka, kc, rfl, h1, h2, -⟩ := hO
  obtain ⟨ra, rc, rfl, h3, h4, -, -⟩ := hR
  have hM' := hM
  obtain ⟨ma, mc, rfl, h5, h6, -⟩ := hM'
  obtain ⟨p0, p1, p2, q0, q1, q2, r⟩ := t
  exact kwrong_seven p0 p1 p2 q0 q1 q2 r K ka kc ra rc R ma mc M turns w hK hM hbig h3 h4 h1 h2
end Go.Proofs.Ytpljieenjkbmmaa
/- The document's own run of a kernel for every machine and kernel in memory; and the law's own measure of work. -/
namespace Go.Proofs.Ytpljieenjkbmmaa
open Go.RowKit Go.Joins
set_option linter.unusedVariables false

theorem wrongK_parts {t : Tg} {K : Kn} {n : Nat} {M : List (List Int)} {turns : Int} (h : wrongK t K n M turns = 0) : hasLogs M = true ∧ mayK t K (logsOf M) = true ∧ (n : Int) = t.r ∧ 0 ≤ turns ∧ turns ≤ 200 := by
  unfold wrongK at h
  split at h
  · rename_i h1
    split at h
    · rename_i h2; exact ⟨h1.1, h1.2.1, h1.2.2, h2.1, h2.2⟩
    · exact absurd h (by decide)
  · exact absurd h (by decide)
theorem kplay_any (t : Tg) (kv rv mv : Value) (K : Kn) (R : List Int) (M : List (List Int)) (turns : Int) (w : World) (hK : KernV w kv K) (hR : Ints w rv R) (hM : IntRows w mv M) (hw : wrongK t K R.length M turns = 0) (hnn : ∀ x ∈ K.ops, I64 x.nn) :
    Calls Try.prog 40 #[.agg t.cells, kv, rv, mv, .int .i64 turns] w fun e w' => ∃ rv' mv', e = .returned (.tuple #[rv', mv']) ∧ Ints w' rv' (regsOf R.length (playK t K (logsOf M) turns R M)) ∧ IntRows w' mv' (wordsOf M (playK t K (logsOf M) turns R M)) ∧ Below w.heap.size w w' := by
  obtain ⟨h1, h2, h3, h4, h5⟩ := wrongK_parts hw
  obtain ⟨m1, m2, m3, m4, m5, m6, m7, m8⟩ := mayK_parts h2
  obtain ⟨p0, p1, p2, q0, q1, q2, r⟩ := t
  obtain ⟨pc, st, ops⟩ := K
  dsimp only at m2 m3 m4 m5 h3
  obtain ⟨PC, rfl⟩ := Int.eq_ofNat_of_zero_le (show 0 ≤ pc by omega)
  obtain ⟨ST, rfl⟩ := Int.eq_ofNat_of_zero_le (show 0 ≤ st by omega)
  obtain ⟨T, rfl⟩ := Int.eq_ofNat_of_zero_le h4
  subst h3
  have hR' := hR
  have hM' := hM
  obtain ⟨ov, rfl, hO⟩ := hK
  have hO' := hO
  obtain ⟨ra, rc, rfl, -⟩ := hR'
  obtain ⟨ma, mc, rfl, -⟩ := hM'
  obtain ⟨ka, kc, rfl, -⟩ := hO'
  exact kplay_seven p0 p1 p2 q0 q1 q2 R.length PC ST T ops ka kc ra rc R ma mc M w hO hR hM h2 h1 rfl (by omega) hnn

set_option maxHeartbeats 400000 in
theorem work_nat (PC ST turns P : Nat) (ov : Value) (w : World) (h1 : PC ≤ 200) (h2 : ST ≤ 1001) (h3 : turns ≤ 200) (hP : ((turns : Int) + (ST : Int)) * (PC : Int) = (P : Int)) (hP2 : P ≤ 300000) :
    Calls Try.prog 38 #[.agg #[.int .i64 PC, .int .i64 ST, ov], .int .i64 turns] w fun e w' => e = .returned (.bool (decide (20000 < (P : Int)))) ∧ Below w.heap.size w w' := by
  have hw : IntKind.i64.wrap (((turns : Int) + (ST : Int)) * (PC : Int)) = (P : Int) := by rw [hP, IntKind.wrap_i64]; omega
  have e1 : ¬ (300 : Int) < (turns : Int) := by omega
  have e2 : ¬ (2000 : Int) < (ST : Int) := by omega
  have e3 : ¬ (300 : Int) < (PC : Int) := by omega
  have d1 : decide ((300 : Int) < (turns : Int)) = false := decide_eq_false e1
  have d2 : decide ((2000 : Int) < (ST : Int)) = false := decide_eq_false e2
  have d3 : decide ((300 : Int) < (PC : Int)) = false := decide_eq_false e3
  clear hP
  by_cases hb : (20000 : Int) < (P : Int)
  · rw [decide_eq_true hb]
    go_enter Try.func38, Try.ntmps38
    go_wp2_with fail
    go_ret
    exact ⟨by simp, below_alloc1 _ _⟩
  · rw [decide_eq_false hb]
    go_enter Try.func38, Try.ntmps38
    go_wp2_with fail
    go_ret
    exact ⟨by simp, below_alloc1 _ _⟩
theorem work_any (t : Tg) (K : Kn) (n : Nat) (M : List (List Int)) (turns : Int) (ov : Value) (w : World) (h : wrongK t K n M turns = 0) :
    Calls Try.prog 38 #[.agg #[.int .i64 K.pc, .int .i64 K.st, ov], .int .i64 turns] w fun e w' => e = .returned (.bool (decide (20000 < (turns + K.st) * K.pc))) ∧ Below w.heap.size w w' := by
  obtain ⟨h1, h2, h3, h4, h5⟩ := wrongK_parts h
  obtain ⟨m1, m2, m3, m4, m5, m6, m7, m8⟩ := mayK_parts h2
  obtain ⟨pc, st, ops⟩ := K
  dsimp only at m2 m3 m4 m5 ⊢
  obtain ⟨PC, rfl⟩ := Int.eq_ofNat_of_zero_le (show 0 ≤ pc by omega)
  obtain ⟨ST, rfl⟩ := Int.eq_ofNat_of_zero_le (show 0 ≤ st by omega)
  obtain ⟨T, rfl⟩ := Int.eq_ofNat_of_zero_le h4
  have hP : ((T : Int) + (ST : Int)) * (PC : Int) = (((T + ST) * PC : Nat) : Int) := by rw [← Int.natCast_add]; exact (Int.natCast_mul _ _).symm
  rw [hP]
  exact work_nat PC ST T ((T + ST) * PC) ov w (by omega) (by omega) (by omega) hP (Nat.le_trans (Nat.mul_le_mul (show T + ST ≤ 1201 by omega) (show PC ≤ 200 by omega)) (by decide))
end Go.Proofs.Ytpljieenjkbmmaa
/- KernelRuns' walk: for every machine, kernel, registers, words and turns in memory the law returns true, if the program's May and Run answer as MayC and RunC say; nothing that was there is changed. -/
namespace Go.Proofs.Ytpljieenjkbmmaa
open Go.RowKit Go.Joins
set_option linter.unusedVariables false

/-- how the program tells whether a kernel may be -/
def MayC : Prop := ∀ (t : Tg) (kv : Value) (K : Kn) (la : Option Addr) (lc : Nat) (logs : List Int) (w : World), KernV w kv K → Ints w (.slice la logs.length lc) logs →
  Calls Try.prog 35 #[.agg t.cells, kv, .slice la logs.length lc] w fun e w' => e = .returned (.bool (mayK t K logs)) ∧ Below w.heap.size w w'
/-- how the program runs a kernel -/
def RunC : Prop := ∀ (t : Tg) (kv rv mv : Value) (K : Kn) (R : List Int) (M : List (List Int)) (turns : Int) (w : World), KernV w kv K → Ints w rv R → IntRows w mv M → (∀ x ∈ K.ops, I64 x.nn) → M.length * 24 ≤ 140737488351232 →
  (wrongK t K R.length M turns = 0 → turns = 0 ∨ (turns + K.st) * K.pc ≤ 20000) →
  Calls Try.prog 39 #[.agg t.cells, kv, rv, mv, .int .i64 turns] w fun e w' => ∃ ra rc ma mc rl ml, e = .returned (.tuple #[.slice ra rl rc, .slice ma ml mc, .int .i64 (wrongK t K R.length M turns)]) ∧ Below w.heap.size w w' ∧
    (wrongK t K R.length M turns = 0 → Ints w' (.slice ra rl rc) (regsOf R.length (playK t K (logsOf M) turns R M)) ∧ IntRows w' (.slice ma ml mc) (wordsOf M (playK t K (logsOf M) turns R M))) ∧ (wrongK t K R.length M turns ≠ 0 → rl = 0 ∧ ml = 0)

theorem runC_wrong (hRun : RunC) (t : Tg) (kv rv mv : Value) (K : Kn) (R : List Int) (M : List (List Int)) (turns c : Int) (w : World) (hK : KernV w kv K) (hR : Ints w rv R) (hM : IntRows w mv M) (hnn : ∀ x ∈ K.ops, I64 x.nn) (hbig : M.length * 24 ≤ 140737488351232) (hw : wrongK t K R.length M turns = c) (hc : c ≠ 0) :
    Calls Try.prog 39 #[.agg t.cells, kv, rv, mv, .int .i64 turns] w fun e w' => ∃ ra rc ma mc, e = .returned (.tuple #[.slice ra 0 rc, .slice ma 0 mc, .int .i64 c]) ∧ Below w.heap.size w w' :=
  (hRun t kv rv mv K R M turns w hK hR hM hnn hbig (fun h => absurd h (by rw [hw]; exact hc))).mono fun e w' ⟨ra, rc, ma, mc, rl, ml, h1, h2, h3, h4⟩ => by
    obtain ⟨rfl, rfl⟩ := h4 (by rw [hw]; exact hc)
    rw [hw] at h1
    exact ⟨ra, rc, ma, mc, h1, h2⟩
theorem runC_ok (hRun : RunC) (t : Tg) (kv rv mv : Value) (K : Kn) (R : List Int) (M : List (List Int)) (turns : Int) (w : World) (hK : KernV w kv K) (hR : Ints w rv R) (hM : IntRows w mv M) (hnn : ∀ x ∈ K.ops, I64 x.nn) (hbig : M.length * 24 ≤ 140737488351232) (hw : wrongK t K R.length M turns = 0) (hc : turns = 0 ∨ (turns + K.st) * K.pc ≤ 20000) :
    Calls Try.prog 39 #[.agg t.cells, kv, rv, mv, .int .i64 turns] w fun e w' => ∃ ra rc ma mc rl ml, e = .returned (.tuple #[.slice ra rl rc, .slice ma ml mc, .int .i64 0]) ∧ Ints w' (.slice ra rl rc) (regsOf R.length (playK t K (logsOf M) turns R M)) ∧ IntRows w' (.slice ma ml mc) (wordsOf M (playK t K (logsOf M) turns R M)) ∧ Below w.heap.size w w' :=
  (hRun t kv rv mv K R M turns w hK hR hM hnn hbig (fun _ => hc)).mono fun e w' ⟨ra, rc, ma, mc, rl, ml, h1, h2, h3, h4⟩ => by
    obtain ⟨h5, h6⟩ := h3 hw
    rw [hw] at h1
    exact ⟨ra, rc, ma, mc, rl, ml, h1, h5, h6, h2⟩

set_option maxHeartbeats 1000000 in
theorem kr_nologs (hMay : MayC) (hRun : RunC) (p0 p1 p2 q0 q1 q2 r pc st : Int) (ops : List Kop) (ka : Option Addr) (kc : Nat) (ra : Option Addr) (rc : Nat) (R : List Int) (ma : Option Addr) (mc : Nat) (M : List (List Int)) (turns : Int) (w : World)
    (hK : KernV w (.agg #[.int .i64 pc, .int .i64 st, .slice ka ops.length kc]) ⟨pc, st, ops⟩) (hR : Ints w (.slice ra R.length rc) R) (hM : IntRows w (.slice ma M.length mc) M) (hnn : ∀ x ∈ ops, I64 x.nn) (hbig : M.length * 24 ≤ 140737488351232) (hL : hasLogs M = false) :
    Calls Try.prog 9 #[.agg #[.int .i64 p0, .int .i64 p1, .int .i64 p2, .int .i64 q0, .int .i64 q1, .int .i64 q2, .int .i64 r], (.agg #[.int .i64 pc, .int .i64 st, .slice ka ops.length kc]), .slice ra R.length rc, .slice ma M.length mc, .int .i64 turns] w fun e w' => e = .returned (.bool true) ∧ Below w.heap.size w w' := by
  have HL := hide hL
  have HWR : Hid (wrongK ⟨p0, p1, p2, q0, q1, q2, r⟩ ⟨pc, st, ops⟩ R.length M turns = 2) := by show wrongK _ _ _ _ _ = 2; unfold wrongK; rw [if_neg (by rw [hL]; exact fun h => Bool.noConfusion h.1)]
  obtain ⟨c, hc⟩ : ∃ c : Int, c = 2 := ⟨_, rfl⟩
  rw [← hc] at HWR
  have HCN : Hid (c ≠ 0) := by show c ≠ 0; omega
  have hcb : (c == 0) = false := by simpa using HCN.out
  have hcn : (c != 0) = true := by simpa using HCN.out
  clear hL hc
  have HWC : Hid (∀ W, KernV W (.agg #[.int .i64 pc, .int .i64 st, .slice ka ops.length kc]) ⟨pc, st, ops⟩ → Ints W (.slice ra R.length rc) R → IntRows W (.slice ma M.length mc) M → Calls Try.prog 37 #[.agg #[.int .i64 p0, .int .i64 p1, .int .i64 p2, .int .i64 q0, .int .i64 q1, .int .i64 q2, .int .i64 r], (.agg #[.int .i64 pc, .int .i64 st, .slice ka ops.length kc]), .slice ra R.length rc, .slice ma M.length mc, .int .i64 turns] W fun e w' => e = .returned (.int .i64 c) ∧ Below W.heap.size W w') := fun W h1 h2 h3 => by
    have h := kwrong_any ⟨p0, p1, p2, q0, q1, q2, r⟩ (.agg #[.int .i64 pc, .int .i64 st, .slice ka ops.length kc]) (.slice ra R.length rc) (.slice ma M.length mc) ⟨pc, st, ops⟩ R M turns W h1 h2 h3 hbig
    rw [HWR.out] at h
    exact h
  have HB0 : Hid (Below (bxk w p0 p1 p2 q0 q1 q2 r pc st ka ops.length kc).heap.size (bxk w p0 p1 p2 q0 q1 q2 r pc st ka ops.length kc) (bxk w p0 p1 p2 q0 q1 q2 r pc st ka ops.length kc)) := Below.refl _ _
  have HW0 := hide (bxk_below w p0 p1 p2 q0 q1 q2 r pc st ka ops.length kc)
  go_enter Try.func9, Try.ntmps9
  go_wp2_with fail
  refine (logs_no _ M _ (hM.below HW0.out) hbig HL.out).mono ?_
  rintro e x1 ⟨rfl, hb⟩
  have HBx1 := hide (HB0.out.trans (hb.mono HB0.out.size))
  clear hb
  obtain ⟨⟨a0, a1, a2, a3, a4, a5, a6⟩, b0, b1, b2, z0, z1, hbw⟩ := bxk_cells (by rw [← bxk_size w p0 p1 p2 q0 q1 q2 r pc st ka ops.length kc]; exact HBx1.out)
  have HWx1 := hide hbw
  clear hbw
  go_wp2_with fail
  go_big_quiet ((fail))
  go_wp2_with fail
  have HBx3 : Hid (Below (bxk w p0 p1 p2 q0 q1 q2 r pc st ka ops.length kc).heap.size (bxk w p0 p1 p2 q0 q1 q2 r pc st ka ops.length kc) (x1.drewN nq)) := HBx1.out.trans (below_draws _ _ _)
  have HWx3 : Hid (Below w.heap.size w (x1.drewN nq)) := HWx1.out.trans (below_draws _ _ _)
  refine (HWC.out _ (hK.below HWx3.out) (hR.below HWx3.out) (hM.below HWx3.out)).mono ?_
  rintro e x4 ⟨rfl, hb⟩
  have HBx4 := hide (HBx3.out.trans (hb.mono HBx3.out.size))
  clear hb
  clear a0 a1 a2 a3 a4 a5 a6 b0 b1 b2 z0 z1
  obtain ⟨⟨a0, a1, a2, a3, a4, a5, a6⟩, b0, b1, b2, z0, z1, hbw⟩ := bxk_cells (by rw [← bxk_size w p0 p1 p2 q0 q1 q2 r pc st ka ops.length kc]; exact HBx4.out)
  have HWx4 := hide hbw
  clear hbw
  go_wp2_with fail
  refine (runC_wrong hRun ⟨p0, p1, p2, q0, q1, q2, r⟩ (.agg #[.int .i64 pc, .int .i64 st, .slice ka ops.length kc]) (.slice ra R.length rc) (.slice ma M.length mc) ⟨pc, st, ops⟩ R M turns c _ (hK.below HWx4.out) (hR.below HWx4.out) (hM.below HWx4.out) hnn hbig HWR.out HCN.out).mono ?_
  rintro e x5 ⟨ra5, rc5, ma5, mc5, rfl, hb⟩
  have HBx5 := hide (HBx4.out.trans (hb.mono HBx4.out.size))
  clear hb
  clear a0 a1 a2 a3 a4 a5 a6 b0 b1 b2 z0 z1
  obtain ⟨⟨a0, a1, a2, a3, a4, a5, a6⟩, b0, b1, b2, z0, z1, hbw⟩ := bxk_cells (by rw [← bxk_size w p0 p1 p2 q0 q1 q2 r pc st ka ops.length kc]; exact HBx5.out)
  have HWx5 := hide hbw
  clear hbw
  go_wp2_with fail
  go_ret
  exact ⟨by simp, HWx5.out⟩

set_option maxHeartbeats 2000000 in
theorem kr_logs (hMay : MayC) (hRun : RunC) (p0 p1 p2 q0 q1 q2 r pc st : Int) (ops : List Kop) (ka : Option Addr) (kc : Nat) (ra : Option Addr) (rc : Nat) (R : List Int) (ma : Option Addr) (mc : Nat) (M : List (List Int)) (turns : Int) (w : World)
    (hK : KernV w (.agg #[.int .i64 pc, .int .i64 st, .slice ka ops.length kc]) ⟨pc, st, ops⟩) (hR : Ints w (.slice ra R.length rc) R) (hM : IntRows w (.slice ma M.length mc) M) (hnn : ∀ x ∈ ops, I64 x.nn) (hbig : M.length * 24 ≤ 140737488351232) (hL : hasLogs M = true) :
    Calls Try.prog 9 #[.agg #[.int .i64 p0, .int .i64 p1, .int .i64 p2, .int .i64 q0, .int .i64 q1, .int .i64 q2, .int .i64 r], (.agg #[.int .i64 pc, .int .i64 st, .slice ka ops.length kc]), .slice ra R.length rc, .slice ma M.length mc, .int .i64 turns] w fun e w' => e = .returned (.bool true) ∧ Below w.heap.size w w' := by
  have HL := hide hL
  obtain ⟨b, hbm⟩ : ∃ b, mayK ⟨p0, p1, p2, q0, q1, q2, r⟩ ⟨pc, st, ops⟩ (logsOf M) = b := ⟨_, rfl⟩
  have HBM := hide hbm
  obtain ⟨c, hc⟩ : ∃ c, wrongK ⟨p0, p1, p2, q0, q1, q2, r⟩ ⟨pc, st, ops⟩ R.length M turns = c := ⟨_, rfl⟩
  have HWR := hide hc
  clear hL hc hbm
  have HWC : Hid (∀ W, KernV W (.agg #[.int .i64 pc, .int .i64 st, .slice ka ops.length kc]) ⟨pc, st, ops⟩ → Ints W (.slice ra R.length rc) R → IntRows W (.slice ma M.length mc) M → Calls Try.prog 37 #[.agg #[.int .i64 p0, .int .i64 p1, .int .i64 p2, .int .i64 q0, .int .i64 q1, .int .i64 q2, .int .i64 r], (.agg #[.int .i64 pc, .int .i64 st, .slice ka ops.length kc]), .slice ra R.length rc, .slice ma M.length mc, .int .i64 turns] W fun e w' => e = .returned (.int .i64 c) ∧ Below W.heap.size W w') := fun W h1 h2 h3 => by
    have h := kwrong_any ⟨p0, p1, p2, q0, q1, q2, r⟩ (.agg #[.int .i64 pc, .int .i64 st, .slice ka ops.length kc]) (.slice ra R.length rc) (.slice ma M.length mc) ⟨pc, st, ops⟩ R M turns W h1 h2 h3 hbig
    rw [HWR.out] at h
    exact h
  have HB0 : Hid (Below (bxk w p0 p1 p2 q0 q1 q2 r pc st ka ops.length kc).heap.size (bxk w p0 p1 p2 q0 q1 q2 r pc st ka ops.length kc) (bxk w p0 p1 p2 q0 q1 q2 r pc st ka ops.length kc)) := Below.refl _ _
  have HW0 := hide (bxk_below w p0 p1 p2 q0 q1 q2 r pc st ka ops.length kc)
  go_enter Try.func9, Try.ntmps9
  go_wp2_with fail
  refine (logs_yes _ M _ (hM.below HW0.out) hbig HL.out).mono ?_
  rintro e x1 ⟨lv, rfl, hlv, hb⟩
  have HLV := hide hlv
  obtain ⟨la, lc, rfl, -⟩ := hlv
  have HMA : Hid (∀ W, KernV W (.agg #[.int .i64 pc, .int .i64 st, .slice ka ops.length kc]) ⟨pc, st, ops⟩ → Ints W (.slice la (logsOf M).length lc) (logsOf M) → Calls Try.prog 35 #[.agg #[.int .i64 p0, .int .i64 p1, .int .i64 p2, .int .i64 q0, .int .i64 q1, .int .i64 q2, .int .i64 r], (.agg #[.int .i64 pc, .int .i64 st, .slice ka ops.length kc]), .slice la (logsOf M).length lc] W fun e w' => e = .returned (.bool b) ∧ Below W.heap.size W w') := fun W h1 h2 => HBM.out ▸ hMay ⟨p0, p1, p2, q0, q1, q2, r⟩ (.agg #[.int .i64 pc, .int .i64 st, .slice ka ops.length kc]) ⟨pc, st, ops⟩ la lc (logsOf M) W h1 h2
  have HMB : Hid (∀ W, KernV W (.agg #[.int .i64 pc, .int .i64 st, .slice ka ops.length kc]) ⟨pc, st, ops⟩ → Ints W (.slice la (logsOf M).length lc) (logsOf M) → Calls Try.prog 36 #[.agg #[.int .i64 p0, .int .i64 p1, .int .i64 p2, .int .i64 q0, .int .i64 q1, .int .i64 q2, .int .i64 r], (.agg #[.int .i64 pc, .int .i64 st, .slice ka ops.length kc]), .slice la (logsOf M).length lc] W fun e w' => e = .returned (.bool b) ∧ Below W.heap.size W w') := fun W h1 h2 => HBM.out ▸ kmay_any ⟨p0, p1, p2, q0, q1, q2, r⟩ (.agg #[.int .i64 pc, .int .i64 st, .slice ka ops.length kc]) ⟨pc, st, ops⟩ la lc (logsOf M) W h1 h2
  have HBx1 := hide (HB0.out.trans (hb.mono HB0.out.size))
  clear hb
  obtain ⟨⟨a0, a1, a2, a3, a4, a5, a6⟩, b0, b1, b2, z0, z1, hbw⟩ := bxk_cells (by rw [← bxk_size w p0 p1 p2 q0 q1 q2 r pc st ka ops.length kc]; exact HBx1.out)
  have HWx1 := hide hbw
  clear hbw
  have HSx : Hid (x1.cell? ⟨w.heap.size, 0, none⟩ = some (.int .i64 p0) ∧ x1.cell? ⟨w.heap.size, 1, none⟩ = some (.int .i64 p1) ∧ x1.cell? ⟨w.heap.size, 2, none⟩ = some (.int .i64 p2) ∧ x1.cell? ⟨w.heap.size, 3, none⟩ = some (.int .i64 q0) ∧ x1.cell? ⟨w.heap.size, 4, none⟩ = some (.int .i64 q1) ∧ x1.cell? ⟨w.heap.size, 5, none⟩ = some (.int .i64 q2) ∧ x1.cell? ⟨w.heap.size, 6, none⟩ = some (.int .i64 r) ∧ x1.cell? ⟨w.heap.size + 1, 0, none⟩ = some (.int .i64 pc) ∧ x1.cell? ⟨w.heap.size + 1, 1, none⟩ = some (.int .i64 st) ∧ x1.cell? ⟨w.heap.size + 1, 2, none⟩ = some (.slice ka ops.length kc)) := ⟨a0, a1, a2, a3, a4, a5, a6, b0, b1, b2⟩
  clear a0 a1 a2 a3 a4 a5 a6 b0 b1 b2 z0 z1
  go_wp2_with fail
  refine wp_region_noPanic ?_
  refine region_until 99 (fun w' => w'.cell? ⟨w.heap.size, 0, none⟩ = some (.int .i64 p0) ∧ w'.cell? ⟨w.heap.size, 1, none⟩ = some (.int .i64 p1) ∧ w'.cell? ⟨w.heap.size, 2, none⟩ = some (.int .i64 p2) ∧ w'.cell? ⟨w.heap.size, 3, none⟩ = some (.int .i64 q0) ∧ w'.cell? ⟨w.heap.size, 4, none⟩ = some (.int .i64 q1) ∧ w'.cell? ⟨w.heap.size, 5, none⟩ = some (.int .i64 q2) ∧ w'.cell? ⟨w.heap.size, 6, none⟩ = some (.int .i64 r) ∧ w'.cell? ⟨w.heap.size + 1, 0, none⟩ = some (.int .i64 pc) ∧ w'.cell? ⟨w.heap.size + 1, 1, none⟩ = some (.int .i64 st) ∧ w'.cell? ⟨w.heap.size + 1, 2, none⟩ = some (.slice ka ops.length kc)) (by kernel_rfl) HSx.out (fun hHeld => ?_)
  refine until_take (i := 0) (v := ?_) rfl (by kernel_rfl) (by kernel_rfl) (by kernel_rfl) (by kernel_rfl) (fun _ _ _ h => h) (Or.inl ⟨by rfl, ?_⟩) hHeld ?_
  rotate_left
  · intro w hSw
    try dsimp only at hSw
    go_simp
    try with_reducible rfl
  try simp only [Act.put, List.setIfInBounds_toArray, List.set_cons_zero, List.set_cons_succ]
  refine until_take (i := 1) (v := ?_) rfl (by kernel_rfl) (by kernel_rfl) (by kernel_rfl) (by kernel_rfl) (fun _ _ _ h => h) (Or.inl ⟨by rfl, ?_⟩) hHeld ?_
  rotate_left
  · intro w hSw
    try dsimp only at hSw
    go_simp
    try with_reducible rfl
  try simp only [Act.put, List.setIfInBounds_toArray, List.set_cons_zero, List.set_cons_succ]
  refine until_take (i := 2) (v := ?_) rfl (by kernel_rfl) (by kernel_rfl) (by kernel_rfl) (by kernel_rfl) (fun _ _ _ h => h) (Or.inl ⟨by rfl, ?_⟩) hHeld ?_
  rotate_left
  · intro w hSw
    try dsimp only at hSw
    go_simp
    try with_reducible rfl
  try simp only [Act.put, List.setIfInBounds_toArray, List.set_cons_zero, List.set_cons_succ]
  refine until_take (i := 3) (v := ?_) rfl (by kernel_rfl) (by kernel_rfl) (by kernel_rfl) (by kernel_rfl) (fun _ _ _ h => h) (Or.inl ⟨by rfl, ?_⟩) hHeld ?_
  rotate_left
  · intro w hSw
    try dsimp only at hSw
    go_simp
    try with_reducible rfl
  try simp only [Act.put, List.setIfInBounds_toArray, List.set_cons_zero, List.set_cons_succ]
  refine until_take (i := 4) (v := ?_) rfl (by kernel_rfl) (by kernel_rfl) (by kernel_rfl) (by kernel_rfl) (fun _ _ _ h => h) (Or.inl ⟨by rfl, ?_⟩) hHeld ?_
  rotate_left
  · intro w hSw
    try dsimp only at hSw
    go_simp
    try with_reducible rfl
  try simp only [Act.put, List.setIfInBounds_toArray, List.set_cons_zero, List.set_cons_succ]
  refine until_take (i := 6) (v := ?_) rfl (by kernel_rfl) (by kernel_rfl) (by kernel_rfl) (by kernel_rfl) (fun _ _ _ h => h) (Or.inl ⟨by rfl, ?_⟩) hHeld ?_
  rotate_left
  · intro w hSw
    try dsimp only at hSw
    go_simp
    try with_reducible rfl
  try simp only [Act.put, List.setIfInBounds_toArray, List.set_cons_zero, List.set_cons_succ]
  refine until_take (i := 7) (v := ?_) rfl (by kernel_rfl) (by kernel_rfl) (by kernel_rfl) (by kernel_rfl) (fun _ _ _ h => h) (Or.inl ⟨by rfl, ?_⟩) hHeld ?_
  rotate_left
  · intro w hSw
    try dsimp only at hSw
    go_simp
    try with_reducible rfl
  try simp only [Act.put, List.setIfInBounds_toArray, List.set_cons_zero, List.set_cons_succ]
  refine until_take (i := 8) (v := ?_) rfl (by kernel_rfl) (by kernel_rfl) (by kernel_rfl) (by kernel_rfl) (fun _ _ _ h => h) (Or.inl ⟨by rfl, ?_⟩) hHeld ?_
  rotate_left
  · intro w hSw
    try dsimp only at hSw
    go_simp
    try with_reducible rfl
  try simp only [Act.put, List.setIfInBounds_toArray, List.set_cons_zero, List.set_cons_succ]
  refine until_one (i := 5) rfl (by kernel_rfl) (fun K hK9 => ?_)
  go_simp
  have HBx1d : Hid (Below (bxk w p0 p1 p2 q0 q1 q2 r pc st ka ops.length kc).heap.size (bxk w p0 p1 p2 q0 q1 q2 r pc st ka ops.length kc) (x1.drewN 1)) := HBx1.out.trans (below_draws _ _ _)
  have HWx1d : Hid (Below w.heap.size w (x1.drewN 1)) := HWx1.out.trans (below_draws _ _ _)
  refine (HMA.out _ (hK.below (by exact HWx1d.out)) (HLV.out.below (below_draws _ _ 1))).mono ?_
  rintro e x2 ⟨rfl, hb⟩
  have HLV2 := hide ((HLV.out.below (below_draws _ _ 1)).below hb)
  have HBx2 := hide (HBx1d.out.trans (hb.mono HBx1d.out.size))
  clear hb
  obtain ⟨⟨a0, a1, a2, a3, a4, a5, a6⟩, b0, b1, b2, z0, z1, hbw⟩ := bxk_cells (by rw [← bxk_size w p0 p1 p2 q0 q1 q2 r pc st ka ops.length kc]; exact HBx2.out)
  have HWx2 := hide hbw
  clear hbw
  have hHeld : x2.cell? ⟨w.heap.size, 0, none⟩ = some (.int .i64 p0) ∧ x2.cell? ⟨w.heap.size, 1, none⟩ = some (.int .i64 p1) ∧ x2.cell? ⟨w.heap.size, 2, none⟩ = some (.int .i64 p2) ∧ x2.cell? ⟨w.heap.size, 3, none⟩ = some (.int .i64 q0) ∧ x2.cell? ⟨w.heap.size, 4, none⟩ = some (.int .i64 q1) ∧ x2.cell? ⟨w.heap.size, 5, none⟩ = some (.int .i64 q2) ∧ x2.cell? ⟨w.heap.size, 6, none⟩ = some (.int .i64 r) ∧ x2.cell? ⟨w.heap.size + 1, 0, none⟩ = some (.int .i64 pc) ∧ x2.cell? ⟨w.heap.size + 1, 1, none⟩ = some (.int .i64 st) ∧ x2.cell? ⟨w.heap.size + 1, 2, none⟩ = some (.slice ka ops.length kc) := ⟨a0, a1, a2, a3, a4, a5, a6, b0, b1, b2⟩
  refine hK9.out _ _ (.inr hHeld) ?_
  clear hK9 K
  try simp only [Act.put, List.setIfInBounds_toArray, List.set_cons_zero, List.set_cons_succ]
  refine until_one (i := 9) rfl (by kernel_rfl) (fun K hK9 => ?_)
  go_simp
  refine (HMB.out _ (hK.below HWx2.out) HLV2.out).mono ?_
  rintro e x3 ⟨rfl, hb⟩
  have HBx3 := hide (HBx2.out.trans (hb.mono HBx2.out.size))
  clear hb hHeld
  clear a0 a1 a2 a3 a4 a5 a6 b0 b1 b2 z0 z1
  obtain ⟨⟨a0, a1, a2, a3, a4, a5, a6⟩, b0, b1, b2, z0, z1, hbw⟩ := bxk_cells (by rw [← bxk_size w p0 p1 p2 q0 q1 q2 r pc st ka ops.length kc]; exact HBx3.out)
  have HWx3 := hide hbw
  clear hbw
  have hHeld : x3.cell? ⟨w.heap.size, 0, none⟩ = some (.int .i64 p0) ∧ x3.cell? ⟨w.heap.size, 1, none⟩ = some (.int .i64 p1) ∧ x3.cell? ⟨w.heap.size, 2, none⟩ = some (.int .i64 p2) ∧ x3.cell? ⟨w.heap.size, 3, none⟩ = some (.int .i64 q0) ∧ x3.cell? ⟨w.heap.size, 4, none⟩ = some (.int .i64 q1) ∧ x3.cell? ⟨w.heap.size, 5, none⟩ = some (.int .i64 q2) ∧ x3.cell? ⟨w.heap.size, 6, none⟩ = some (.int .i64 r) ∧ x3.cell? ⟨w.heap.size + 1, 0, none⟩ = some (.int .i64 pc) ∧ x3.cell? ⟨w.heap.size + 1, 1, none⟩ = some (.int .i64 st) ∧ x3.cell? ⟨w.heap.size + 1, 2, none⟩ = some (.slice ka ops.length kc) := ⟨a0, a1, a2, a3, a4, a5, a6, b0, b1, b2⟩
  refine hK9.out _ _ (.inr hHeld) ?_
  clear hK9 K
  try simp only [Act.put, List.setIfInBounds_toArray, List.set_cons_zero, List.set_cons_succ]
  refine until_take (i := 10) (v := ?_) rfl (by kernel_rfl) (by kernel_rfl) (by kernel_rfl) (by kernel_rfl) (fun _ _ _ h => h) (Or.inl ⟨by rfl, ?_⟩) hHeld ?_
  rotate_left
  · intro w hSw
    try dsimp only at hSw
    go_simp
    try with_reducible rfl
  try simp only [Act.put, List.setIfInBounds_toArray, List.set_cons_zero, List.set_cons_succ]
  refine until_take (i := 11) (v := ?_) rfl (by kernel_rfl) (by kernel_rfl) (by kernel_rfl) (by kernel_rfl) (fun _ _ _ h => h) (Or.inl ⟨by rfl, ?_⟩) hHeld ?_
  rotate_left
  · intro w hSw
    try dsimp only at hSw
    go_simp
    try with_reducible rfl
  try simp only [Act.put, List.setIfInBounds_toArray, List.set_cons_zero, List.set_cons_succ]
  refine until_done (by kernel_rfl) ?_ _
  refine NoPanic.normal ?_
  clear hHeld
  by_cases hc0 : c = 0
  · subst hc0
    go_wp2_with fail
    refine (HWC.out _ (hK.below HWx3.out) (hR.below HWx3.out) (hM.below HWx3.out)).mono ?_
    rintro e x4 ⟨rfl, hb⟩
    have HBx4 := hide (HBx3.out.trans (hb.mono HBx3.out.size))
    clear hb
    clear a0 a1 a2 a3 a4 a5 a6 b0 b1 b2 z0 z1
    obtain ⟨⟨a0, a1, a2, a3, a4, a5, a6⟩, b0, b1, b2, z0, z1, hbw⟩ := bxk_cells (by rw [← bxk_size w p0 p1 p2 q0 q1 q2 r pc st ka ops.length kc]; exact HBx4.out)
    have HWx4 := hide hbw
    clear hbw
    go_wp2_with fail
    have hwk := work_any ⟨p0, p1, p2, q0, q1, q2, r⟩ ⟨pc, st, ops⟩ R.length M turns (.slice ka ops.length kc) x4 HWR.out
    by_cases hk : 20000 < (turns + st) * pc
    · rw [decide_eq_true (p := 20000 < (turns + (Kn.mk pc st ops).st) * (Kn.mk pc st ops).pc) hk] at hwk
      refine hwk.mono ?_
      rintro e x5 ⟨rfl, hb⟩
      have HWx5 := hide (HWx4.out.trans (hb.mono HWx4.out.size))
      clear hb
      go_wp2_with fail
      go_ret
      exact ⟨by simp, HWx5.out⟩
    · rw [decide_eq_false (p := 20000 < (turns + (Kn.mk pc st ops).st) * (Kn.mk pc st ops).pc) hk] at hwk
      refine hwk.mono ?_
      rintro e x5 ⟨rfl, hb⟩
      have HBx5 := hide (HBx4.out.trans (hb.mono HBx4.out.size))
      clear hb hwk
      clear a0 a1 a2 a3 a4 a5 a6 b0 b1 b2 z0 z1
      obtain ⟨⟨a0, a1, a2, a3, a4, a5, a6⟩, b0, b1, b2, z0, z1, hbw⟩ := bxk_cells (by rw [← bxk_size w p0 p1 p2 q0 q1 q2 r pc st ka ops.length kc]; exact HBx5.out)
      have HWx5 := hide hbw
      clear hbw
      have HNK := hide hk
      clear hk
      go_wp2_with fail
      refine (runC_ok hRun ⟨p0, p1, p2, q0, q1, q2, r⟩ (.agg #[.int .i64 pc, .int .i64 st, .slice ka ops.length kc]) (.slice ra R.length rc) (.slice ma M.length mc) ⟨pc, st, ops⟩ R M turns _ (hK.below HWx5.out) (hR.below HWx5.out) (hM.below HWx5.out) hnn hbig HWR.out (.inr (by have := HNK.out; dsimp only; omega))).mono ?_
      rintro e x6 ⟨ra6, rc6, ma6, mc6, rl6, ml6, rfl, h61, h62, hb⟩
      have HBx6 := hide (HBx5.out.trans (hb.mono HBx5.out.size))
      have H61 := hide h61
      have H62 := hide h62
      clear hb h61 h62
      clear a0 a1 a2 a3 a4 a5 a6 b0 b1 b2 z0 z1
      obtain ⟨⟨a0, a1, a2, a3, a4, a5, a6⟩, b0, b1, b2, z0, z1, hbw⟩ := bxk_cells (by rw [← bxk_size w p0 p1 p2 q0 q1 q2 r pc st ka ops.length kc]; exact HBx6.out)
      have HWx6 := hide hbw
      clear hbw
      go_wp2_with fail
      refine (kplay_any ⟨p0, p1, p2, q0, q1, q2, r⟩ (.agg #[.int .i64 pc, .int .i64 st, .slice ka ops.length kc]) (.slice ra R.length rc) (.slice ma M.length mc) ⟨pc, st, ops⟩ R M turns _ (hK.below HWx6.out) (hR.below HWx6.out) (hM.below HWx6.out) HWR.out hnn).mono ?_
      rintro e x7 ⟨rv7, mv7, rfl, h71, h72, hb⟩
      have HBx7 := hide (HBx6.out.trans (hb.mono HBx6.out.size))
      have H71 := hide h71
      have H72 := hide h72
      have H61b := hide (H61.out.below hb)
      have H62b := hide (H62.out.below hb)
      have HWx7 := hide (HWx6.out.trans (hb.mono HWx6.out.size))
      clear hb h71 h72
      clear a0 a1 a2 a3 a4 a5 a6 b0 b1 b2 z0 z1
      go_wp2_with fail
      refine (numbers_any _ _ _ _ _ H61b.out H71.out).mono ?_
      rintro e x8 ⟨rfl, n8, rfl⟩
      rw [decide_eq_true rfl]
      go_wp2_with fail
      refine (words_any _ _ _ _ _ (H62b.out.below (below_draws _ _ _)) (H72.out.below (below_draws _ _ _))).mono ?_
      rintro e x9 ⟨rfl, n9, rfl⟩
      rw [decide_eq_true rfl]
      go_wp2_with fail
      go_ret
      exact ⟨by simp, HWx7.out.trans (below_draws _ _ _)⟩
  · have HCN := hide hc0
    have hcb : (c == 0) = false := by simpa using hc0
    have hcn : (c != 0) = true := by simpa using hc0
    clear hc0
    go_wp2_with fail
    refine (HWC.out _ (hK.below HWx3.out) (hR.below HWx3.out) (hM.below HWx3.out)).mono ?_
    rintro e x4 ⟨rfl, hb⟩
    have HBx4 := hide (HBx3.out.trans (hb.mono HBx3.out.size))
    clear hb
    clear a0 a1 a2 a3 a4 a5 a6 b0 b1 b2 z0 z1
    obtain ⟨⟨a0, a1, a2, a3, a4, a5, a6⟩, b0, b1, b2, z0, z1, hbw⟩ := bxk_cells (by rw [← bxk_size w p0 p1 p2 q0 q1 q2 r pc st ka ops.length kc]; exact HBx4.out)
    have HWx4 := hide hbw
    clear hbw
    go_wp2_with fail
    refine (runC_wrong hRun ⟨p0, p1, p2, q0, q1, q2, r⟩ (.agg #[.int .i64 pc, .int .i64 st, .slice ka ops.length kc]) (.slice ra R.length rc) (.slice ma M.length mc) ⟨pc, st, ops⟩ R M turns c _ (hK.below HWx4.out) (hR.below HWx4.out) (hM.below HWx4.out) hnn hbig HWR.out HCN.out).mono ?_
    rintro e x5 ⟨ra5, rc5, ma5, mc5, rfl, hb⟩
    have HBx5 := hide (HBx4.out.trans (hb.mono HBx4.out.size))
    clear hb
    clear a0 a1 a2 a3 a4 a5 a6 b0 b1 b2 z0 z1
    obtain ⟨⟨a0, a1, a2, a3, a4, a5, a6⟩, b0, b1, b2, z0, z1, hbw⟩ := bxk_cells (by rw [← bxk_size w p0 p1 p2 q0 q1 q2 r pc st ka ops.length kc]; exact HBx5.out)
    have HWx5 := hide hbw
    clear hbw
    go_wp2_with fail
    go_ret
    exact ⟨by simp, HWx5.out⟩

theorem kernelRuns_any (hMay : MayC) (hRun : RunC) (t : Tg) (kv rv mv : Value) (K : Kn) (R : List Int) (M : List (List Int)) (turns : Int) (w : World) (hK : KernV w kv K) (hR : Ints w rv R) (hM : IntRows w mv M) (hnn : ∀ x ∈ K.ops, I64 x.nn) (hbig : M.length * 24 ≤ 140737488351232) :
    Calls Try.prog 9 #[.agg t.cells, kv, rv, mv, .int .i64 turns] w fun e w' => e = .returned (.bool true) ∧ Below w.heap.size w w' := by
  obtain ⟨p0, p1, p2, q0, q1, q2, r⟩ := t
  obtain ⟨pc, st, ops⟩ := K
  have hK' := hK
  have hR' := hR
  have hM' := hM
  obtain ⟨ov, rfl, hO⟩ := hK'
  obtain ⟨ra, rc, rfl, -⟩ := hR'
  obtain ⟨ma, mc, rfl, -⟩ := hM'
  obtain ⟨ka, kc, rfl, -⟩ := hO
  cases hL : hasLogs M with
  | false => exact kr_nologs hMay hRun p0 p1 p2 q0 q1 q2 r pc st ops ka kc ra rc R ma mc M turns w hK hR hM hnn hbig hL
  | true => exact kr_logs hMay hRun p0 p1 p2 q0 q1 q2 r pc st ops ka kc ra rc R ma mc M turns w hK hR hM hnn hbig hL
end Go.Proofs.Ytpljieenjkbmmaa
/- KernelNone's walk: for every machine, kernel, registers and words in memory the law returns true, if the program's Run answers as RunC says: with no turns nothing becomes anything else; nothing that was there is changed. -/
namespace Go.Proofs.Ytpljieenjkbmmaa
open Go.RowKit Go.Joins
set_option linter.unusedVariables false

/-- the law's own kernel and machine -/
def knownK : Kn := ⟨1, 1, [⟨0, 0, 2, 0, 0, 0, 0, 0, 0, 0⟩]⟩
def oneT : Tg := ⟨1, 1, 1, 1, 1, 1, 1⟩
def wn (W : World) (g : Nat) : World := (((W.alloc (.cells #[.int .i64 0, .int .i64 0, .int .i64 2, .int .i64 0, .int .i64 0, .int .i64 0, .int .i64 0, .int .i64 0, .int .i64 0, .int .i64 0] 68)).alloc (.cells #[.int .i64 1, .int .i64 1, .slice (some ⟨g, 0, none⟩) 1 1] 55)).alloc (.cells #[.int .i64 1, .int .i64 1, .int .i64 1, .int .i64 1, .int .i64 1, .int .i64 1, .int .i64 1] 49)).alloc (.cells #[.int .i64 7] 2)
theorem wn_size (W : World) (g : Nat) : (wn W g).heap.size = W.heap.size + 4 := by unfold wn; simp
theorem wn_below (W : World) (g : Nat) : Below W.heap.size W (wn W g) := by
  unfold wn
  exact ((((Below.refl _ _).alloc (Nat.le_refl _) _).alloc (by simp) _).alloc (by simp; omega) _).alloc (by simp; omega) _
theorem wn_kern (W : World) (g : Nat) (hg : g = W.heap.size) : KernV (wn W g) (.agg #[.int .i64 1, .int .i64 1, .slice (some ⟨g, 0, none⟩) 1 1]) knownK := by
  refine ⟨_, rfl, some ⟨g, 0, none⟩, 1, rfl, Nat.le_refl _, by unfold maxLen; omega, fun _ => ⟨g, 0, rfl, by rw [wn_size]; omega, fun i hi j hj => ?_⟩⟩
  have hi0 : i = 0 := by have : i < 1 := hi; omega
  subst hi0
  have hb : (wn W g).heap[g]? = some (.cells #[.int .i64 0, .int .i64 0, .int .i64 2, .int .i64 0, .int .i64 0, .int .i64 0, .int .i64 0, .int .i64 0, .int .i64 0, .int .i64 0] 68 (0, 0)) := by
    unfold wn
    rw [hg]
    rw [Below.heap_alloc _ _ _ (by simp; omega), Below.heap_alloc _ _ _ (by simp; omega), Below.heap_alloc _ _ _ (by simp)]
    show (W.heap.push _)[W.heap.size]? = _
    simp
  rw [cell_of_block hb]
  have hj9 : j = 0 ∨ j = 1 ∨ j = 2 ∨ j = 3 ∨ j = 4 ∨ j = 5 ∨ j = 6 ∨ j = 7 ∨ j = 8 ∨ j = 9 := by omega
  rcases hj9 with rfl | rfl | rfl | rfl | rfl | rfl | rfl | rfl | rfl | rfl <;> rfl
theorem wn_regs (W : World) (g : Nat) (hg : g = W.heap.size) : Ints (wn W g) (.slice (some ⟨g + 1 + 1 + 1, 0, none⟩) 1 1) [7] := by
  refine ⟨some ⟨g + 1 + 1 + 1, 0, none⟩, 1, rfl, Nat.le_refl _, by unfold maxLen; omega, fun i hi => ?_, fun _ => ⟨g + 1 + 1 + 1, 0, rfl, by rw [wn_size]; omega, fun i hi => ?_⟩⟩
  · have hi0 : i = 0 := by have : i < 1 := hi; omega
    subst hi0
    exact ⟨by decide, by decide⟩
  · have hi0 : i = 0 := by have : i < 1 := hi; omega
    subst hi0
    have hb : (wn W g).heap[g + 1 + 1 + 1]? = some (.cells #[.int .i64 7] 2 (0, 0)) := by
      have key : ∀ X : World, X.heap.size = g + 1 + 1 + 1 → (X.alloc (.cells #[.int .i64 7] 2)).heap[g + 1 + 1 + 1]? = some (.cells #[.int .i64 7] 2 (0, 0)) := fun X hX => by
        rw [← hX]
        show (X.heap.push _)[X.heap.size]? = _
        simp
      unfold wn
      exact key _ (by simp; omega)
    rw [cell_of_block hb]; rfl
theorem known_ok : wrongK oneT knownK [(7 : Int)].length [] 3 = 0 := by decide
theorem known_two : regsOf [(7 : Int)].length (playK oneT knownK (logsOf []) 3 [7] []) = [2] := by decide
theorem runC_known (hRun : RunC) (W : World) (g : Nat) (hg : g = W.heap.size) :
    Calls Try.prog 39 #[.agg #[.int .i64 1, .int .i64 1, .int .i64 1, .int .i64 1, .int .i64 1, .int .i64 1, .int .i64 1], .agg #[.int .i64 1, .int .i64 1, .slice (some ⟨g, 0, none⟩) 1 1], .slice (some ⟨g + 1 + 1 + 1, 0, none⟩) 1 1, .slice none 0 0, .int .i64 3] (wn W g) fun e w' => ∃ b off rc ma mc ml, e = .returned (.tuple #[.slice (some ⟨b, off, none⟩) 1 rc, .slice ma ml mc, .int .i64 0]) ∧ w'.cell? ⟨b, off, none⟩ = some (.int .i64 2) ∧ b < w'.heap.size ∧ Below (wn W g).heap.size (wn W g) w' :=
  (runC_ok hRun oneT _ _ (.slice none 0 0) knownK [7] [] 3 (wn W g) (wn_kern W g hg) (wn_regs W g hg) ⟨none, 0, rfl, Nat.le_refl _, Nat.zero_le _, fun h => absurd h (Nat.lt_irrefl _)⟩ (fun x hx => by
    have e : x = ⟨0, 0, 2, 0, 0, 0, 0, 0, 0, 0⟩ := by simpa [knownK] using hx
    rw [e]; exact ⟨by decide, by decide⟩) (by simp) known_ok (.inr (by decide))).mono fun e w' ⟨ra, rc, ma, mc, rl, ml, h1, h2, h3, h4⟩ => by
    rw [known_two] at h2
    obtain ⟨a, cap, hv, -, -, -, hc⟩ := h2
    obtain ⟨b, off, rfl, hb, hcell⟩ := hc (by decide)
    injection hv with e1 e2 e3
    subst e1; subst e2; subst e3
    exact ⟨b, off, _, ma, mc, ml, h1, hcell 0 (by decide), hb, h4⟩
theorem regs_start (R : List Int) (M : List (List Int)) : regsOf R.length (startK R M) = R := by
  unfold regsOf startK
  refine nth_ext (by simp) fun j hj => ?_
  have hj' : j < R.length := by simpa using hj
  show ((List.range R.length).map fun i => nth R i).getD j 0 = _
  simp [List.getD, hj']
theorem words_start (R : List Int) (M : List (List Int)) : wordsOf M (startK R M) = M := by
  unfold wordsOf startK
  refine row_ext (by simp) fun i hi => ?_
  have hi' : i < M.length := by simpa using hi
  have hr : rowAt ((List.range M.length).map fun i => (List.range (rowAt M i).length).map fun j => nth (rowAt M i) j) i = (List.range (rowAt M i).length).map fun j => nth (rowAt M i) j := by
    unfold rowAt; simp [List.getD, hi']
  show rowAt ((List.range M.length).map fun i => (List.range (rowAt M i).length).map fun j => nth (rowAt M i) j) i = rowAt M i
  rw [hr]
  refine nth_ext (by simp) fun j hj => ?_
  have hj' : j < (rowAt M i).length := by simpa using hj
  show ((List.range (rowAt M i).length).map fun j => nth (rowAt M i) j).getD j 0 = _
  simp [List.getD, hj']
theorem play_none (t : Tg) (K : Kn) (logs R : List Int) (M : List (List Int)) : playK t K logs 0 R M = startK R M := by unfold playK; rw [if_pos rfl]

set_option maxHeartbeats 2000000 in
theorem kernelNone_all (hRun : RunC) (p0 p1 p2 q0 q1 q2 r pc st : Int) (ops : List Kop) (ka : Option Addr) (kc : Nat) (ra : Option Addr) (rc : Nat) (R : List Int) (ma : Option Addr) (mc : Nat) (M : List (List Int)) (w : World)
    (hK : KernV w (.agg #[.int .i64 pc, .int .i64 st, .slice ka ops.length kc]) ⟨pc, st, ops⟩) (hR : Ints w (.slice ra R.length rc) R) (hM : IntRows w (.slice ma M.length mc) M) (hnn : ∀ x ∈ ops, I64 x.nn) (hbig : M.length * 24 ≤ 140737488351232) :
    Calls Try.prog 10 #[.agg #[.int .i64 p0, .int .i64 p1, .int .i64 p2, .int .i64 q0, .int .i64 q1, .int .i64 q2, .int .i64 r], (.agg #[.int .i64 pc, .int .i64 st, .slice ka ops.length kc]), .slice ra R.length rc, .slice ma M.length mc] w fun e w' => e = .returned (.bool true) ∧ Below w.heap.size w w' := by
  have HKN := hide (runC_known hRun (bxk w p0 p1 p2 q0 q1 q2 r pc st ka ops.length kc) (w.heap.size + 1 + 1) (bxk_size w p0 p1 p2 q0 q1 q2 r pc st ka ops.length kc).symm)
  have HB0 : Hid (Below (bxk w p0 p1 p2 q0 q1 q2 r pc st ka ops.length kc).heap.size (bxk w p0 p1 p2 q0 q1 q2 r pc st ka ops.length kc) (wn (bxk w p0 p1 p2 q0 q1 q2 r pc st ka ops.length kc) (w.heap.size + 1 + 1))) := wn_below _ _
  go_enter Try.func10, Try.ntmps10
  go_wp2_with fail
  refine HKN.out.mono ?_
  rintro e x1 ⟨b1, o1, rc1, ma1, mc1, ml1, rfl, hcell, hbz, hb⟩
  have HBx1 : Hid (Below (bxk w p0 p1 p2 q0 q1 q2 r pc st ka ops.length kc).heap.size (bxk w p0 p1 p2 q0 q1 q2 r pc st ka ops.length kc) x1) := HB0.out.trans (hb.mono (by rw [wn_size]; omega))
  clear hb HKN
  obtain ⟨⟨a0, a1, a2, a3, a4, a5, a6⟩, b0, b1, b2, z0, z1, hbw⟩ := bxk_cells (by rw [← bxk_size w p0 p1 p2 q0 q1 q2 r pc st ka ops.length kc]; exact HBx1.out)
  have HWx1 := hide hbw
  clear hbw
  have hne : ((2 : Int) != 2) = false := rfl
  go_wp2_with fail
  by_cases hw : wrongK ⟨p0, p1, p2, q0, q1, q2, r⟩ ⟨pc, st, ops⟩ R.length M 0 = 0
  · refine (runC_ok hRun ⟨p0, p1, p2, q0, q1, q2, r⟩ (.agg #[.int .i64 pc, .int .i64 st, .slice ka ops.length kc]) (.slice ra R.length rc) (.slice ma M.length mc) ⟨pc, st, ops⟩ R M 0 _ (hK.below HWx1.out) (hR.below HWx1.out) (hM.below HWx1.out) hnn hbig hw (.inl rfl)).mono ?_
    rintro e x2 ⟨ra2, rc2, ma2, mc2, rl2, ml2, rfl, h1, h2, hb⟩
    rw [play_none] at h1 h2
    rw [regs_start] at h1
    rw [words_start] at h2
    have HWx2 := hide (HWx1.out.trans (hb.mono HWx1.out.size))
    have H1 := hide h1
    have H2 := hide h2
    clear h1 h2 hb hw
    clear a0 a1 a2 a3 a4 a5 a6 b0 b1 b2 z0 z1
    go_wp2_with fail
    refine (numbers_any _ _ _ _ _ H1.out (hR.below HWx2.out)).mono ?_
    rintro e x8 ⟨rfl, n8, rfl⟩
    rw [decide_eq_true rfl]
    go_wp2_with fail
    refine (words_any _ _ _ _ _ (H2.out.below (below_draws _ _ _)) ((hM.below HWx2.out).below (below_draws _ _ _))).mono ?_
    rintro e x9 ⟨rfl, n9, rfl⟩
    rw [decide_eq_true rfl]
    go_wp2_with fail
    go_ret
    exact ⟨by simp, HWx2.out.trans (below_draws _ _ _)⟩
  · have hw2 : wrongK ⟨p0, p1, p2, q0, q1, q2, r⟩ ⟨pc, st, ops⟩ R.length M 0 = 2 := by
      unfold wrongK at hw ⊢
      split
      · rename_i h; rw [if_pos h, if_pos (by omega)] at hw; exact absurd rfl hw
      · rfl
    refine (runC_wrong hRun ⟨p0, p1, p2, q0, q1, q2, r⟩ (.agg #[.int .i64 pc, .int .i64 st, .slice ka ops.length kc]) (.slice ra R.length rc) (.slice ma M.length mc) ⟨pc, st, ops⟩ R M 0 2 _ (hK.below HWx1.out) (hR.below HWx1.out) (hM.below HWx1.out) hnn hbig hw2 (by decide)).mono ?_
    rintro e x2 ⟨ra2, rc2, ma2, mc2, rfl, hb⟩
    have HWx2 := hide (HWx1.out.trans (hb.mono HWx1.out.size))
    clear hb hw hw2
    clear a0 a1 a2 a3 a4 a5 a6 b0 b1 b2 z0 z1
    go_wp2_with fail
    go_ret
    exact ⟨by simp, HWx2.out⟩
theorem kernelNone_any (hRun : RunC) (t : Tg) (kv rv mv : Value) (K : Kn) (R : List Int) (M : List (List Int)) (w : World) (hK : KernV w kv K) (hR : Ints w rv R) (hM : IntRows w mv M) (hnn : ∀ x ∈ K.ops, I64 x.nn) (hbig : M.length * 24 ≤ 140737488351232) :
    Calls Try.prog 10 #[.agg t.cells, kv, rv, mv] w fun e w' => e = .returned (.bool true) ∧ Below w.heap.size w w' := by
  obtain ⟨p0, p1, p2, q0, q1, q2, r⟩ := t
  obtain ⟨pc, st, ops⟩ := K
  have hK' := hK
  have hR' := hR
  have hM' := hM
  obtain ⟨ov, rfl, hO⟩ := hK'
  obtain ⟨ra, rc, rfl, -⟩ := hR'
  obtain ⟨ma, mc, rfl, -⟩ := hM'
  obtain ⟨ka, kc, rfl, -⟩ := hO
  exact kernelNone_all hRun p0 p1 p2 q0 q1 q2 r pc st ops ka kc ra rc R ma mc M w hK hR hM hnn hbig
end Go.Proofs.Ytpljieenjkbmmaa
