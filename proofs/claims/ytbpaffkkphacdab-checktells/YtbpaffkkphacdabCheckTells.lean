/- CheckTells' walk: for every loop, machine, kernel, order, numbers, registers and turns in memory the law returns true, if the program's Takes, Enter and Leave answer as TakesC, EnterC and LeaveC say; nothing that was there is changed. -/
import Derived.Test.YtbpaffkkphacdabRef10Takes
import Derived.Test.YtbpaffkkphacdabRef10C
import Derived.Test.YtbpaffkkphacdabRef3A
import Derived.Test.YtbpaffkkphacdabRef10B
namespace Go.Proofs.Ytbpaffkkphacdab
open Go.RowKit Go.Joins
set_option linter.unusedVariables false
set_option linter.unusedSimpArgs false
set_option maxRecDepth 8192

set_option maxHeartbeats 8000000 in
theorem tells_no (hT : TakesC) (hE : EnterC) (hV : LeaveC) (p0 p1 p2 q0 q1 q2 r pc st : Int) (ops : List Kop) (L : Lp) (O R : List Int) (B : List (List Int)) (turns : Int) (a0 a1 a2 ka oa ba ra : Option Addr) (cap0 cap1 cap2 kc oc bc rc : Nat) (w : World) (hL : LoopV w (.agg #[.slice a0 L.logs.length cap0, .slice a1 L.body.length cap1, .slice a2 L.outs.length cap2]) L) (hK : OpsV w (.slice ka ops.length kc) ops) (hO : Ints w (.slice oa O.length oc) O) (hB : IntRows w (.slice ba B.length bc) B) (hR : Ints w (.slice ra R.length rc) R) (htk : takenD L ⟨p0, p1, p2, q0, q1, q2, r⟩ ⟨pc, st, ops⟩ O = false) : Calls Try.prog 6 #[.agg #[.slice a0 L.logs.length cap0, .slice a1 L.body.length cap1, .slice a2 L.outs.length cap2], .agg #[.int .i64 p0, .int .i64 p1, .int .i64 p2, .int .i64 q0, .int .i64 q1, .int .i64 q2, .int .i64 r], .agg #[.int .i64 pc, .int .i64 st, .slice ka ops.length kc], .slice oa O.length oc, .slice ba B.length bc, .slice ra R.length rc, .int .i64 turns] w fun e w' => e = .returned (.bool true) ∧ Below w.heap.size w w' := by
  have HTK := hide (fun W (h1 : LoopV W (.agg #[.slice a0 L.logs.length cap0, .slice a1 L.body.length cap1, .slice a2 L.outs.length cap2]) L) (h2 : OpsV W (.slice ka ops.length kc) ops) (h3 : Ints W (.slice oa O.length oc) O) => htk ▸ hT _ _ _ ⟨p0, p1, p2, q0, q1, q2, r⟩ L ⟨pc, st, ops⟩ O W h1 ⟨_, rfl, h2⟩ h3)
  have HTR := hide (fun W (h1 : LoopV W (.agg #[.slice a0 L.logs.length cap0, .slice a1 L.body.length cap1, .slice a2 L.outs.length cap2]) L) (h2 : OpsV W (.slice ka ops.length kc) ops) (h3 : Ints W (.slice oa O.length oc) O) => htk ▸ takes_any _ _ _ ⟨p0, p1, p2, q0, q1, q2, r⟩ L ⟨pc, st, ops⟩ O W h1 ⟨_, rfl, h2⟩ h3)
  have HEN := hide (fun W (h1 : LoopV W (.agg #[.slice a0 L.logs.length cap0, .slice a1 L.body.length cap1, .slice a2 L.outs.length cap2]) L) (h2 : OpsV W (.slice ka ops.length kc) ops) (h3 : Ints W (.slice oa O.length oc) O) (h4 : IntRows W (.slice ba B.length bc) B) => hE _ _ _ _ ⟨p0, p1, p2, q0, q1, q2, r⟩ L ⟨pc, st, ops⟩ O B W h1 ⟨_, rfl, h2⟩ h3 h4)
  have HLE := hide (fun W (h1 : LoopV W (.agg #[.slice a0 L.logs.length cap0, .slice a1 L.body.length cap1, .slice a2 L.outs.length cap2]) L) (h2 : OpsV W (.slice ka ops.length kc) ops) (h3 : Ints W (.slice oa O.length oc) O) (h4 : IntRows W (.slice ba B.length bc) B) (h5 : Ints W (.slice ra R.length rc) R) => hV _ _ _ _ _ ⟨p0, p1, p2, q0, q1, q2, r⟩ L ⟨pc, st, ops⟩ O B R turns W h1 ⟨_, rfl, h2⟩ h3 h4 h5)
  have HL := hide hL
  have HK := hide hK
  have HO := hide hO
  have HBR := hide hB
  have HR := hide hR
  have HS : Hid ((((w.alloc (.cells #[.slice a0 L.logs.length cap0, .slice a1 L.body.length cap1, .slice a2 L.outs.length cap2] 25)).alloc (.cells #[.int .i64 p0, .int .i64 p1, .int .i64 p2, .int .i64 q0, .int .i64 q1, .int .i64 q2, .int .i64 r] 28)).alloc (.cells #[.int .i64 pc, .int .i64 st, .slice ka ops.length kc] 40)).heap.size = w.heap.size + 1 + 1 + 1) := by show _ = _; simp
  have HBZ := hide (below_alloc3 w (.cells #[.slice a0 L.logs.length cap0, .slice a1 L.body.length cap1, .slice a2 L.outs.length cap2] 25) (.cells #[.int .i64 p0, .int .i64 p1, .int .i64 p2, .int .i64 q0, .int .i64 q1, .int .i64 q2, .int .i64 r] 28) (.cells #[.int .i64 pc, .int .i64 st, .slice ka ops.length kc] 40))
  have HTKD := hide htk
  clear hL hK hO hB hR htk
  go_enter Try.func6, Try.ntmps6
  go_wp2_with fail
  refine (HTK.out _ (HL.out.below HBZ.out) (HK.out.below HBZ.out) (HO.out.below HBZ.out)).mono ?_
  rintro e x1 ⟨rfl, hbx⟩
  have hb1 : Below (w.heap.size + 1 + 1 + 1) (((w.alloc (.cells #[.slice a0 L.logs.length cap0, .slice a1 L.body.length cap1, .slice a2 L.outs.length cap2] 25)).alloc (.cells #[.int .i64 p0, .int .i64 p1, .int .i64 p2, .int .i64 q0, .int .i64 q1, .int .i64 q2, .int .i64 r] 28)).alloc (.cells #[.int .i64 pc, .int .i64 st, .slice ka ops.length kc] 40)) x1 := by rw [← HS.out]; exact hbx
  have HB1 := hide hb1
  obtain ⟨⟨l0, l1, l2⟩, ⟨t0, t1, t2, t3, t4, t5, t6⟩, ⟨k0, k1, k2⟩, hz, hbw⟩ := lkbox_cells hb1
  have HW1 := hide hbw
  clear hbx hb1 hbw
  go_wp2_with fail
  refine (HTR.out _ (HL.out.below HW1.out) (HK.out.below HW1.out) (HO.out.below HW1.out)).mono ?_
  rintro e x2 ⟨rfl, hbx⟩
  have HB2 := hide (HB1.out.trans (hbx.mono (by omega)))
  clear l0 l1 l2 t0 t1 t2 t3 t4 t5 t6 k0 k1 k2 hz
  obtain ⟨⟨l0, l1, l2⟩, ⟨t0, t1, t2, t3, t4, t5, t6⟩, ⟨k0, k1, k2⟩, hz, hbw⟩ := lkbox_cells HB2.out
  have HW2 := hide hbw
  clear hbw
  clear hbx
  go_wp2_with fail
  refine (HEN.out _ (HL.out.below HW2.out) (HK.out.below HW2.out) (HO.out.below HW2.out) (HBR.out.below HW2.out)).mono ?_
  rintro e x3 ⟨hbx, ra3, rl3, rc3, c3, rfl, hno3, hyes3⟩
  have HNO3 := hide hno3
  have HYES3 := hide hyes3
  have HB3 := hide (HB2.out.trans (hbx.mono (by omega)))
  clear l0 l1 l2 t0 t1 t2 t3 t4 t5 t6 k0 k1 k2 hz
  obtain ⟨⟨l0, l1, l2⟩, ⟨t0, t1, t2, t3, t4, t5, t6⟩, ⟨k0, k1, k2⟩, hz, hbw⟩ := lkbox_cells HB3.out
  have HW3 := hide hbw
  clear hbw
  clear hbx hno3 hyes3
  go_wp2_with fail
  refine (HLE.out _ (HL.out.below HW3.out) (HK.out.below HW3.out) (HO.out.below HW3.out) (HBR.out.below HW3.out) (HR.out.below HW3.out)).mono ?_
  rintro e x4 ⟨hbx, ra4, rl4, rc4, c4, rfl, hno4, hrg4, hyes4⟩
  have HNO4 := hide hno4
  have HRG4 := hide hrg4
  have HYES4 := hide hyes4
  have HX34 := hide hbx
  have HB4 := hide (HB3.out.trans (hbx.mono (by omega)))
  clear l0 l1 l2 t0 t1 t2 t3 t4 t5 t6 k0 k1 k2 hz
  obtain ⟨⟨l0, l1, l2⟩, ⟨t0, t1, t2, t3, t4, t5, t6⟩, ⟨k0, k1, k2⟩, hz, hbw⟩ := lkbox_cells HB4.out
  have HW4 := hide hbw
  clear hbw
  clear hbx hno4 hrg4 hyes4
  obtain ⟨rfl, rfl⟩ := HNO3.out (by rw [HTKD.out]; rfl)
  obtain ⟨rfl, rfl⟩ := HNO4.out (by rw [HTKD.out]; rfl)
  go_wp2_with fail
  go_ret
  exact ⟨rfl, HW4.out⟩
set_option maxHeartbeats 8000000 in
theorem tells_yes (hT : TakesC) (hE : EnterC) (hV : LeaveC) (p0 p1 p2 q0 q1 q2 r pc st : Int) (ops : List Kop) (L : Lp) (O R : List Int) (B : List (List Int)) (turns : Int) (a0 a1 a2 ka oa ba ra : Option Addr) (cap0 cap1 cap2 kc oc bc rc : Nat) (w : World) (hL : LoopV w (.agg #[.slice a0 L.logs.length cap0, .slice a1 L.body.length cap1, .slice a2 L.outs.length cap2]) L) (hK : OpsV w (.slice ka ops.length kc) ops) (hO : Ints w (.slice oa O.length oc) O) (hB : IntRows w (.slice ba B.length bc) B) (hR : Ints w (.slice ra R.length rc) R) (htk : takenD L ⟨p0, p1, p2, q0, q1, q2, r⟩ ⟨pc, st, ops⟩ O = true) : Calls Try.prog 6 #[.agg #[.slice a0 L.logs.length cap0, .slice a1 L.body.length cap1, .slice a2 L.outs.length cap2], .agg #[.int .i64 p0, .int .i64 p1, .int .i64 p2, .int .i64 q0, .int .i64 q1, .int .i64 q2, .int .i64 r], .agg #[.int .i64 pc, .int .i64 st, .slice ka ops.length kc], .slice oa O.length oc, .slice ba B.length bc, .slice ra R.length rc, .int .i64 turns] w fun e w' => e = .returned (.bool true) ∧ Below w.heap.size w w' := by
  have HTK := hide (fun W (h1 : LoopV W (.agg #[.slice a0 L.logs.length cap0, .slice a1 L.body.length cap1, .slice a2 L.outs.length cap2]) L) (h2 : OpsV W (.slice ka ops.length kc) ops) (h3 : Ints W (.slice oa O.length oc) O) => htk ▸ hT _ _ _ ⟨p0, p1, p2, q0, q1, q2, r⟩ L ⟨pc, st, ops⟩ O W h1 ⟨_, rfl, h2⟩ h3)
  have HTR := hide (fun W (h1 : LoopV W (.agg #[.slice a0 L.logs.length cap0, .slice a1 L.body.length cap1, .slice a2 L.outs.length cap2]) L) (h2 : OpsV W (.slice ka ops.length kc) ops) (h3 : Ints W (.slice oa O.length oc) O) => htk ▸ takes_any _ _ _ ⟨p0, p1, p2, q0, q1, q2, r⟩ L ⟨pc, st, ops⟩ O W h1 ⟨_, rfl, h2⟩ h3)
  have HEN := hide (fun W (h1 : LoopV W (.agg #[.slice a0 L.logs.length cap0, .slice a1 L.body.length cap1, .slice a2 L.outs.length cap2]) L) (h2 : OpsV W (.slice ka ops.length kc) ops) (h3 : Ints W (.slice oa O.length oc) O) (h4 : IntRows W (.slice ba B.length bc) B) => hE _ _ _ _ ⟨p0, p1, p2, q0, q1, q2, r⟩ L ⟨pc, st, ops⟩ O B W h1 ⟨_, rfl, h2⟩ h3 h4)
  have HLE := hide (fun W (h1 : LoopV W (.agg #[.slice a0 L.logs.length cap0, .slice a1 L.body.length cap1, .slice a2 L.outs.length cap2]) L) (h2 : OpsV W (.slice ka ops.length kc) ops) (h3 : Ints W (.slice oa O.length oc) O) (h4 : IntRows W (.slice ba B.length bc) B) (h5 : Ints W (.slice ra R.length rc) R) => hV _ _ _ _ _ ⟨p0, p1, p2, q0, q1, q2, r⟩ L ⟨pc, st, ops⟩ O B R turns W h1 ⟨_, rfl, h2⟩ h3 h4 h5)
  have HL := hide hL
  have HK := hide hK
  have HO := hide hO
  have HBR := hide hB
  have HR := hide hR
  have HS : Hid ((((w.alloc (.cells #[.slice a0 L.logs.length cap0, .slice a1 L.body.length cap1, .slice a2 L.outs.length cap2] 25)).alloc (.cells #[.int .i64 p0, .int .i64 p1, .int .i64 p2, .int .i64 q0, .int .i64 q1, .int .i64 q2, .int .i64 r] 28)).alloc (.cells #[.int .i64 pc, .int .i64 st, .slice ka ops.length kc] 40)).heap.size = w.heap.size + 1 + 1 + 1) := by show _ = _; simp
  have HBZ := hide (below_alloc3 w (.cells #[.slice a0 L.logs.length cap0, .slice a1 L.body.length cap1, .slice a2 L.outs.length cap2] 25) (.cells #[.int .i64 p0, .int .i64 p1, .int .i64 p2, .int .i64 q0, .int .i64 q1, .int .i64 q2, .int .i64 r] 28) (.cells #[.int .i64 pc, .int .i64 st, .slice ka ops.length kc] 40))
  have HTKD := hide htk
  clear hL hK hO hB hR htk
  go_enter Try.func6, Try.ntmps6
  go_wp2_with fail
  refine (HTK.out _ (HL.out.below HBZ.out) (HK.out.below HBZ.out) (HO.out.below HBZ.out)).mono ?_
  rintro e x1 ⟨rfl, hbx⟩
  have hb1 : Below (w.heap.size + 1 + 1 + 1) (((w.alloc (.cells #[.slice a0 L.logs.length cap0, .slice a1 L.body.length cap1, .slice a2 L.outs.length cap2] 25)).alloc (.cells #[.int .i64 p0, .int .i64 p1, .int .i64 p2, .int .i64 q0, .int .i64 q1, .int .i64 q2, .int .i64 r] 28)).alloc (.cells #[.int .i64 pc, .int .i64 st, .slice ka ops.length kc] 40)) x1 := by rw [← HS.out]; exact hbx
  have HB1 := hide hb1
  obtain ⟨⟨l0, l1, l2⟩, ⟨t0, t1, t2, t3, t4, t5, t6⟩, ⟨k0, k1, k2⟩, hz, hbw⟩ := lkbox_cells hb1
  have HW1 := hide hbw
  clear hbx hb1 hbw
  go_wp2_with fail
  refine (HTR.out _ (HL.out.below HW1.out) (HK.out.below HW1.out) (HO.out.below HW1.out)).mono ?_
  rintro e x2 ⟨rfl, hbx⟩
  have HB2 := hide (HB1.out.trans (hbx.mono (by omega)))
  clear l0 l1 l2 t0 t1 t2 t3 t4 t5 t6 k0 k1 k2 hz
  obtain ⟨⟨l0, l1, l2⟩, ⟨t0, t1, t2, t3, t4, t5, t6⟩, ⟨k0, k1, k2⟩, hz, hbw⟩ := lkbox_cells HB2.out
  have HW2 := hide hbw
  clear hbw
  clear hbx
  go_wp2_with fail
  refine (HEN.out _ (HL.out.below HW2.out) (HK.out.below HW2.out) (HO.out.below HW2.out) (HBR.out.below HW2.out)).mono ?_
  rintro e x3 ⟨hbx, ra3, rl3, rc3, c3, rfl, hno3, hyes3⟩
  have HNO3 := hide hno3
  have HYES3 := hide hyes3
  have HB3 := hide (HB2.out.trans (hbx.mono (by omega)))
  clear l0 l1 l2 t0 t1 t2 t3 t4 t5 t6 k0 k1 k2 hz
  obtain ⟨⟨l0, l1, l2⟩, ⟨t0, t1, t2, t3, t4, t5, t6⟩, ⟨k0, k1, k2⟩, hz, hbw⟩ := lkbox_cells HB3.out
  have HW3 := hide hbw
  clear hbw
  clear hbx hno3 hyes3
  go_wp2_with fail
  refine (HLE.out _ (HL.out.below HW3.out) (HK.out.below HW3.out) (HO.out.below HW3.out) (HBR.out.below HW3.out) (HR.out.below HW3.out)).mono ?_
  rintro e x4 ⟨hbx, ra4, rl4, rc4, c4, rfl, hno4, hrg4, hyes4⟩
  have HNO4 := hide hno4
  have HRG4 := hide hrg4
  have HYES4 := hide hyes4
  have HX34 := hide hbx
  have HB4 := hide (HB3.out.trans (hbx.mono (by omega)))
  clear l0 l1 l2 t0 t1 t2 t3 t4 t5 t6 k0 k1 k2 hz
  obtain ⟨⟨l0, l1, l2⟩, ⟨t0, t1, t2, t3, t4, t5, t6⟩, ⟨k0, k1, k2⟩, hz, hbw⟩ := lkbox_cells HB4.out
  have HW4 := hide hbw
  clear hbw
  clear hbx hno4 hrg4 hyes4
  have HBF := hide (before_walk L (.slice a0 L.logs.length cap0) (.slice a2 L.outs.length cap2) a1 cap1 (.slice ba B.length bc) B x4 (HBR.out.below HW4.out))
  cases hbf : befB L B with
  | false =>
    rw [hbf] at HBF
    obtain ⟨rfl, rfl⟩ := HNO3.out (by rw [hbf]; simp)
    obtain ⟨rfl, rfl⟩ := HNO4.out (by rw [hbf]; simp)
    clear hbf
    go_wp2_with fail
    refine HBF.out.mono ?_
    rintro e x5 ⟨rfl, hbx⟩
    have HW5 := hide (HW4.out.trans (hbx.mono HW4.out.size))
    clear hbx l0 l1 l2 t0 t1 t2 t3 t4 t5 t6 k0 k1 k2
    go_wp2_with fail
    go_ret
    exact ⟨rfl, HW5.out⟩
  | true =>
    rw [hbf] at HBF
    obtain ⟨rfl, hen3⟩ := HYES3.out (by rw [HTKD.out, hbf]; rfl)
    have HE3 := hide (hen3.below HX34.out)
    obtain ⟨hlay, -⟩ := taken_parts HTKD.out
    have HLAY := hide hlay
    have HBFD := hide hbf
    obtain ⟨ra3x, rc3x, hsl3, -⟩ := id hen3
    injection hsl3 with y1 y2 y3
    subst y1; subst y2; subst y3
    clear hen3 hlay hbf
    go_wp2_with fail
    refine HBF.out.mono ?_
    rintro e x5 ⟨rfl, hbx⟩
    have HX45 := hide hbx
    have HB5 := hide (HB4.out.trans (hbx.mono (by omega)))
    clear l0 l1 l2 t0 t1 t2 t3 t4 t5 t6 k0 k1 k2 hz
    obtain ⟨⟨l0, l1, l2⟩, ⟨t0, t1, t2, t3, t4, t5, t6⟩, ⟨k0, k1, k2⟩, hz, hbw⟩ := lkbox_cells HB5.out
    have HW5 := hide hbw
    clear hbw
    have HE5 := hide (HE3.out.below HX45.out)
    clear hbx
    go_wp2_with fail
    refine (enter_walk p0 p1 p2 q0 q1 q2 r pc st ops L O B a0 a1 a2 ka oa ba cap0 cap1 cap2 kc oc bc _ (HL.out.below HW5.out) (HK.out.below HW5.out) (HO.out.below HW5.out) (HBR.out.below HW5.out) HLAY.out HBFD.out).mono ?_
    rintro e x6 ⟨⟨ea, ec, rfl, hen6⟩, hbx⟩
    have HX56 := hide hbx
    have HB6 := hide (HB5.out.trans (hbx.mono (by omega)))
    clear l0 l1 l2 t0 t1 t2 t3 t4 t5 t6 k0 k1 k2 hz
    obtain ⟨⟨l0, l1, l2⟩, ⟨t0, t1, t2, t3, t4, t5, t6⟩, ⟨k0, k1, k2⟩, hz, hbw⟩ := lkbox_cells HB6.out
    have HW6 := hide hbw
    clear hbw
    have HNU := hide (numbers_any _ _ _ _ _ (HE5.out.below HX56.out) hen6)
    rw [decide_eq_true rfl] at HNU
    clear hbx hen6
    go_wp2_with fail
    refine HNU.out.mono ?_
    rintro e x7 ⟨rfl, n7, rfl⟩
    have HX47 : Hid (Below x4.heap.size x4 (x6.drewN n7)) := HX45.out.trans ((HX56.out.trans (below_draws _ _ _)).mono HX45.out.size)
    have HW7 := hide (HW6.out.trans (below_draws _ _ n7))
    clear HTK HTR HEN HLE HNU HBF
    by_cases hrl : (R.length : Int) = r
    · have hrb : ((R.length : Int) != r) = false := by simpa using hrl
      have HA : Hid ((takenD L ⟨p0, p1, p2, q0, q1, q2, r⟩ ⟨pc, st, ops⟩ O && befB L B && decide ((R.length : Int) = r)) = true) := by show _ = _; rw [HTKD.out, HBFD.out, decide_eq_true hrl]; rfl
      by_cases htr : inR turns 0 200 = true
      · obtain ⟨h0, h1⟩ := inR_iff.1 htr
        have hn0 : ¬ turns < 0 := by omega
        have hn1 : ¬ 200 < turns := by omega
        obtain ⟨rfl, hle⟩ := HYES4.out HA.out htr
        have HL4 := hide (hle.below HX47.out)
        obtain ⟨ra4x, rc4x, hsl4, -⟩ := id hle
        injection hsl4 with z1 z2 z3
        subst z1; subst z2; subst z3
        have HLW := hide (leave_walk p0 p1 p2 q0 q1 q2 r pc st ops L O R B turns a0 a1 a2 ka oa ba ra cap0 cap1 cap2 kc oc bc rc (x6.drewN n7) (HL.out.below HW7.out) (HK.out.below HW7.out) (HO.out.below HW7.out) (HBR.out.below HW7.out) (HR.out.below HW7.out) HLAY.out HBFD.out hrl h0 h1)
        clear hle htr hrl
        go_wp2_with fail
        refine HLW.out.mono ?_
        rintro e x8 ⟨⟨la, lc, rfl, hlv⟩, hbx⟩
        have HNU := hide (numbers_any _ _ _ _ _ (HL4.out.below hbx) hlv)
        rw [decide_eq_true rfl] at HNU
        have HW8 := hide (HW7.out.trans (hbx.mono HW7.out.size))
        clear hbx hlv l0 l1 l2 t0 t1 t2 t3 t4 t5 t6 k0 k1 k2
        go_wp2_with fail
        refine HNU.out.mono ?_
        rintro e x9 ⟨rfl, n9, rfl⟩
        go_wp2_with fail
        go_ret
        exact ⟨rfl, HW8.out.trans (below_draws _ _ _)⟩
      · have htf : inR turns 0 200 = false := by simpa using htr
        obtain ⟨rfl, rfl⟩ := HRG4.out HA.out htf
        have hor : turns < 0 ∨ (¬ turns < 0 ∧ 200 < turns) := by
          by_cases e : turns < 0
          · exact .inl e
          · refine .inr ⟨e, ?_⟩
            refine Classical.byContradiction fun h => htr (inR_yes (by omega))
        clear htr htf hrl
        rcases hor with hor | ⟨hor, hor2⟩
        all_goals go_wp2_with fail
        all_goals go_ret
        all_goals exact ⟨rfl, HW7.out⟩
    · have hrb : ((R.length : Int) != r) = true := by simpa using hrl
      obtain ⟨rfl, rfl⟩ := HNO4.out (by rw [decide_eq_false hrl]; simp)
      clear hrl
      go_wp2_with fail
      go_ret
      exact ⟨rfl, HW7.out⟩
theorem checkTells_any (hT : TakesC) (hE : EnterC) (hV : LeaveC) (v kv ov bv rv : Value) (t : Tg) (L : Lp) (K : Kn) (O R : List Int) (B : List (List Int)) (turns : Int) (w : World) (hL : LoopV w v L) (hK : KernV w kv K) (hO : Ints w ov O) (hB : IntRows w bv B) (hR : Ints w rv R) : Calls Try.prog 6 #[v, .agg t.cells, kv, ov, bv, rv, .int .i64 turns] w fun e w' => e = .returned (.bool true) ∧ Below w.heap.size w w' := by
  have hL' := hL
  obtain ⟨v0, v1, v2, rfl, ⟨a0, cap0, rfl, -⟩, ⟨a1, cap1, rfl, -⟩, ⟨a2, cap2, rfl, -⟩⟩ := hL'
  obtain ⟨kl, rfl, hOp⟩ := hK
  have hOp' := hOp
  obtain ⟨ka, kc, rfl, -⟩ := hOp'
  have hO' := hO
  obtain ⟨oa, oc, rfl, -⟩ := hO'
  have hB' := hB
  obtain ⟨ba, bc, rfl, -⟩ := hB'
  have hR' := hR
  obtain ⟨ra, rc, rfl, -⟩ := hR'
  obtain ⟨pc, st, ops⟩ := K
  obtain ⟨p0, p1, p2, q0, q1, q2, r⟩ := t
  cases h : takenD L ⟨p0, p1, p2, q0, q1, q2, r⟩ ⟨pc, st, ops⟩ O with
  | false => exact tells_no hT hE hV p0 p1 p2 q0 q1 q2 r pc st ops L O R B turns a0 a1 a2 ka oa ba ra cap0 cap1 cap2 kc oc bc rc w hL hOp hO hB hR h
  | true => exact tells_yes hT hE hV p0 p1 p2 q0 q1 q2 r pc st ops L O R B turns a0 a1 a2 ka oa ba ra cap0 cap1 cap2 kc oc bc rc w hL hOp hO hB hR h
end Go.Proofs.Ytbpaffkkphacdab
