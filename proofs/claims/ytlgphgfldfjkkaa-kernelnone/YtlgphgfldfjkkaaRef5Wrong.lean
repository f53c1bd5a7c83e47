/- The contract of the document's own answer on what is wrong with a run of a kernel; nothing that was there is changed. -/
import Derived.Test.YtlgphgfldfjkkaaRef5May
import Derived.Test.YtlgphgfldfjkkaaRef5Logs
namespace Go.Proofs.Ytlgphgfldfjkkaa
open Go.RowKit Go.Joins
set_option linter.unusedVariables false

/-- E2: what is wrong -/
def wrongK (t : Tg) (K : Kn) (regs : Nat) (M : List (List Int)) (turns : Int) : Int :=
  if hasLogs M = true ∧ mayK t K (logsOf M) = true ∧ (regs : Int) = t.r then (if 0 ≤ turns ∧ turns ≤ 200 then 0 else 3) else 2

theorem logs_yes (v : Value) (M : List (List Int)) (w : World) (h : IntRows w v M) (hbig : M.length * 24 ≤ 140737488351232) (hL : hasLogs M = true) :
    Calls Try.prog 30 #[v] w fun e w' => ∃ lv, e = .returned (.tuple #[lv, .bool true]) ∧ Ints w' lv (logsOf M) ∧ Below w.heap.size w w' :=
  (logs_any v M w h hbig).mono fun e w' ⟨lv, h1, h2, h3, h4⟩ => ⟨lv, by rw [hL] at h1; exact h1, (h2 hL).1, h4⟩
theorem logs_no (v : Value) (M : List (List Int)) (w : World) (h : IntRows w v M) (hbig : M.length * 24 ≤ 140737488351232) (hL : hasLogs M = false) :
    Calls Try.prog 30 #[v] w fun e w' => e = .returned (.tuple #[.slice none 0 0, .bool false]) ∧ Below w.heap.size w w' :=
  (logs_any v M w h hbig).mono fun e w' ⟨lv, h1, h2, h3, h4⟩ => ⟨by rw [hL, h3 hL] at h1; exact h1, h4⟩

set_option maxHeartbeats 1000000 in
theorem kwrong_seven (p0 p1 p2 q0 q1 q2 r : Int) (K : Kn) (ka : Option Addr) (kc : Nat) (ra : Option Addr) (rc : Nat) (R : List Int) (ma : Option Addr) (mc : Nat) (M : List (List Int)) (turns : Int) (w : World) (hK : KernV w (.agg #[.int .i64 K.pc, .int .i64 K.st, .slice ka K.ops.length kc]) K) (hM : IntRows w (.slice ma M.length mc) M) (hbig : M.length * 24 ≤ 140737488351232) (hrc : R.length ≤ rc) (hrm : rc ≤ maxLen) (hkc : K.ops.length ≤ kc) (hkm : kc ≤ maxLen) :
    Calls Try.prog 33 #[.agg #[.int .i64 p0, .int .i64 p1, .int .i64 p2, .int .i64 q0, .int .i64 q1, .int .i64 q2, .int .i64 r], .agg #[.int .i64 K.pc, .int .i64 K.st, .slice ka K.ops.length kc], .slice ra R.length rc, .slice ma M.length mc, .int .i64 turns] w fun e w' => e = .returned (.int .i64 (wrongK ⟨p0, p1, p2, q0, q1, q2, r⟩ K R.length M turns)) ∧ Below w.heap.size w w' := by
  unfold maxLen at hrm hkm
  cases hL : hasLogs M with
  | false =>
    have HLG := hide (logs_no _ M (bxk w p0 p1 p2 q0 q1 q2 r K.pc K.st ka K.ops.length kc) (hM.below (bxk_below _ _ _ _ _ _ _ _ _ _ _ _ _)) hbig hL)
    have HX : Hid (wrongK ⟨p0, p1, p2, q0, q1, q2, r⟩ K R.length M turns = 2) := by show _ = _; unfold wrongK; rw [if_neg (by rw [hL]; simp)]
    clear hL
    go_enter Try.func33, Try.ntmps33
    go_wp2_with fail
    refine HLG.out.mono ?_
    rintro e x1 ⟨rfl, hb1⟩
    rw [bxk_size] at hb1
    obtain ⟨⟨t0, t1, t2, t3, t4, t5, t6⟩, e1, e2, e3, z0, z1, hbw⟩ := bxk_cells hb1
    have HB := hide hbw
    clear hb1 hbw HLG
    go_wp2_with fail
    go_ret
    exact ⟨ret_int HX.out.symm, HB.out⟩
  | true =>
    have HLG := hide (logs_yes _ M (bxk w p0 p1 p2 q0 q1 q2 r K.pc K.st ka K.ops.length kc) (hM.below (bxk_below _ _ _ _ _ _ _ _ _ _ _ _ _)) hbig hL)
    have HL := hide hL
    clear hL
    cases hm : mayK ⟨p0, p1, p2, q0, q1, q2, r⟩ K (logsOf M) with
    | false =>
      have HX : Hid (wrongK ⟨p0, p1, p2, q0, q1, q2, r⟩ K R.length M turns = 2) := by show _ = _; unfold wrongK; rw [if_neg (by rw [hm]; simp)]
      go_enter Try.func33, Try.ntmps33
      go_wp2_with fail
      refine HLG.out.mono ?_
      rintro e x1 ⟨lv, rfl, hlv, hb1⟩
      rw [bxk_size] at hb1
      obtain ⟨⟨t0, t1, t2, t3, t4, t5, t6⟩, e1, e2, e3, z0, z1, hbw⟩ := bxk_cells hb1
      have hlv' := hlv
      obtain ⟨la, lc, rfl, -, -, -, -⟩ := hlv'
      have hmy := kmay_any ⟨p0, p1, p2, q0, q1, q2, r⟩ _ K la lc (logsOf M) x1 (hK.below hbw) hlv
      rw [hm] at hmy
      have HMY := hide hmy
      have HB := hide hbw
      have hsz := hbw.size
      clear hb1 hbw hlv hmy hm
      go_wp2_with fail
      refine HMY.out.mono ?_
      rintro e x2 ⟨rfl, hb2⟩
      have ht6 : x2.cell? ⟨w.heap.size, 6, none⟩ = some (.int .i64 r) := by rw [bcell hb2 _ _ z0]; exact t6
      have HB2 := hide (HB.out.trans (hb2.mono hsz))
      clear hb2 HMY t0 t1 t2 t3 t4 t5 t6 e1 e2 e3
      clear HLG
      go_wp2_with fail
      go_ret
      exact ⟨ret_int HX.out.symm, HB2.out⟩
    | true =>
      by_cases hr : (R.length : Int) = r
      · have hrb : ((R.length : Int) != r) = false := by simpa using hr
        by_cases h0 : turns < 0
        · have HX : Hid (wrongK ⟨p0, p1, p2, q0, q1, q2, r⟩ K R.length M turns = 3) := by show _ = _; unfold wrongK; rw [if_pos ⟨HL.out, hm, hr⟩, if_neg (by omega)]
          clear hr
          go_enter Try.func33, Try.ntmps33
          go_wp2_with fail
          refine HLG.out.mono ?_
          rintro e x1 ⟨lv, rfl, hlv, hb1⟩
          rw [bxk_size] at hb1
          obtain ⟨⟨t0, t1, t2, t3, t4, t5, t6⟩, e1, e2, e3, z0, z1, hbw⟩ := bxk_cells hb1
          have hlv' := hlv
          obtain ⟨la, lc, rfl, -, -, -, -⟩ := hlv'
          have hmy := kmay_any ⟨p0, p1, p2, q0, q1, q2, r⟩ _ K la lc (logsOf M) x1 (hK.below hbw) hlv
          rw [hm] at hmy
          have HMY := hide hmy
          have HB := hide hbw
          have hsz := hbw.size
          clear hb1 hbw hlv hmy hm
          go_wp2_with fail
          refine HMY.out.mono ?_
          rintro e x2 ⟨rfl, hb2⟩
          have ht6 : x2.cell? ⟨w.heap.size, 6, none⟩ = some (.int .i64 r) := by rw [bcell hb2 _ _ z0]; exact t6
          have HB2 := hide (HB.out.trans (hb2.mono hsz))
          clear hb2 HMY t0 t1 t2 t3 t4 t5 t6 e1 e2 e3
          clear HLG
          go_wp2_with fail
          go_ret
          exact ⟨ret_int HX.out.symm, HB2.out⟩
        · by_cases h2 : 200 < turns
          · have HX : Hid (wrongK ⟨p0, p1, p2, q0, q1, q2, r⟩ K R.length M turns = 3) := by show _ = _; unfold wrongK; rw [if_pos ⟨HL.out, hm, hr⟩, if_neg (by omega)]
            clear hr
            go_enter Try.func33, Try.ntmps33
            go_wp2_with fail
            refine HLG.out.mono ?_
            rintro e x1 ⟨lv, rfl, hlv, hb1⟩
            rw [bxk_size] at hb1
            obtain ⟨⟨t0, t1, t2, t3, t4, t5, t6⟩, e1, e2, e3, z0, z1, hbw⟩ := bxk_cells hb1
            have hlv' := hlv
            obtain ⟨la, lc, rfl, -, -, -, -⟩ := hlv'
            have hmy := kmay_any ⟨p0, p1, p2, q0, q1, q2, r⟩ _ K la lc (logsOf M) x1 (hK.below hbw) hlv
            rw [hm] at hmy
            have HMY := hide hmy
            have HB := hide hbw
            have hsz := hbw.size
            clear hb1 hbw hlv hmy hm
            go_wp2_with fail
            refine HMY.out.mono ?_
            rintro e x2 ⟨rfl, hb2⟩
            have ht6 : x2.cell? ⟨w.heap.size, 6, none⟩ = some (.int .i64 r) := by rw [bcell hb2 _ _ z0]; exact t6
            have HB2 := hide (HB.out.trans (hb2.mono hsz))
            clear hb2 HMY t0 t1 t2 t3 t4 t5 t6 e1 e2 e3
            clear HLG
            go_wp2_with fail
            go_ret
            exact ⟨ret_int HX.out.symm, HB2.out⟩
          · have HX : Hid (wrongK ⟨p0, p1, p2, q0, q1, q2, r⟩ K R.length M turns = 0) := by show _ = _; unfold wrongK; rw [if_pos ⟨HL.out, hm, hr⟩, if_pos (by omega)]
            clear hr
            go_enter Try.func33, Try.ntmps33
            go_wp2_with fail
            refine HLG.out.mono ?_
            rintro e x1 ⟨lv, rfl, hlv, hb1⟩
            rw [bxk_size] at hb1
            obtain ⟨⟨t0, t1, t2, t3, t4, t5, t6⟩, e1, e2, e3, z0, z1, hbw⟩ := bxk_cells hb1
            have hlv' := hlv
            obtain ⟨la, lc, rfl, -, -, -, -⟩ := hlv'
            have hmy := kmay_any ⟨p0, p1, p2, q0, q1, q2, r⟩ _ K la lc (logsOf M) x1 (hK.below hbw) hlv
            rw [hm] at hmy
            have HMY := hide hmy
            have HB := hide hbw
            have hsz := hbw.size
            clear hb1 hbw hlv hmy hm
            go_wp2_with fail
            refine HMY.out.mono ?_
            rintro e x2 ⟨rfl, hb2⟩
            have ht6 : x2.cell? ⟨w.heap.size, 6, none⟩ = some (.int .i64 r) := by rw [bcell hb2 _ _ z0]; exact t6
            have HB2 := hide (HB.out.trans (hb2.mono hsz))
            clear hb2 HMY t0 t1 t2 t3 t4 t5 t6 e1 e2 e3
            clear HLG
            go_wp2_with fail
            go_ret
            exact ⟨ret_int HX.out.symm, HB2.out⟩
      · have hrb : ((R.length : Int) != r) = true := by simpa using hr
        have HX : Hid (wrongK ⟨p0, p1, p2, q0, q1, q2, r⟩ K R.length M turns = 2) := by show _ = _; unfold wrongK; rw [if_neg (fun h => hr h.2.2)]
        clear hr
        go_enter Try.func33, Try.ntmps33
        go_wp2_with fail
        refine HLG.out.mono ?_
        rintro e x1 ⟨lv, rfl, hlv, hb1⟩
        rw [bxk_size] at hb1
        obtain ⟨⟨t0, t1, t2, t3, t4, t5, t6⟩, e1, e2, e3, z0, z1, hbw⟩ := bxk_cells hb1
        have hlv' := hlv
        obtain ⟨la, lc, rfl, -, -, -, -⟩ := hlv'
        have hmy := kmay_any ⟨p0, p1, p2, q0, q1, q2, r⟩ _ K la lc (logsOf M) x1 (hK.below hbw) hlv
        rw [hm] at hmy
        have HMY := hide hmy
        have HB := hide hbw
        have hsz := hbw.size
        clear hb1 hbw hlv hmy hm
        go_wp2_with fail
        refine HMY.out.mono ?_
        rintro e x2 ⟨rfl, hb2⟩
        have ht6 : x2.cell? ⟨w.heap.size, 6, none⟩ = some (.int .i64 r) := by rw [bcell hb2 _ _ z0]; exact t6
        have HB2 := hide (HB.out.trans (hb2.mono hsz))
        clear hb2 HMY t0 t1 t2 t3 t4 t5 t6 e1 e2 e3
        clear HLG
        go_wp2_with fail
        go_ret
        exact ⟨ret_int HX.out.symm, HB2.out⟩
theorem kwrong_any (t : Tg) (kv rv mv : Value) (K : Kn) (R : List Int) (M : List (List Int)) (turns : Int) (w : World) (hK : KernV w kv K) (hR : Ints w rv R) (hM : IntRows w mv M) (hbig : M.length * 24 ≤ 140737488351232) :
    Calls Try.prog 33 #[.agg t.cells, kv, rv, mv, .int .i64 turns] w fun e w' => e = .returned (.int .i64 (wrongK t K R.length M turns)) ∧ Below w.heap.size w w' := by
  have hK' := hK
  obtain ⟨ov, rfl, hO⟩ := hK'
  obtain ⟨ka, kc, rfl, h1, h2, -⟩ := hO
  obtain ⟨ra, rc, rfl, h3, h4, -, -⟩ := hR
  have hM' := hM
  obtain ⟨ma, mc, rfl, h5, h6, -⟩ := hM'
  obtain ⟨p0, p1, p2, q0, q1, q2, r⟩ := t
  exact kwrong_seven p0 p1 p2 q0 q1 q2 r K ka kc ra rc R ma mc M turns w hK hM hbig h3 h4 h1 h2
end Go.Proofs.Ytlgphgfldfjkkaa
