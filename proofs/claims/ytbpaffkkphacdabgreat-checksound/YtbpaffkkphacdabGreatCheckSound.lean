/- CheckSound's walk: for every loop, machine, kernel, order, state and turns in memory the law returns true, if the program's Takes answers as TakesC says; nothing that was there is changed. -/
import Derived.Test.YtbpaffkkphacdabGreatRef2Fits
import Derived.Test.YtbpaffkkphacdabGreatCheckDoes
import Derived.Test.YtbpaffkkphacdabGreatRef10B
namespace Go.Proofs.YtbpaffkkphacdabGreat
open Go.RowKit Go.Joins
set_option linter.unusedVariables false
set_option linter.unusedSimpArgs false
set_option maxRecDepth 8192

theorem known_taken : takenD ⟨[], [⟨2, 0, 0, 0, 0, 0, 0, 0, 0⟩], [0]⟩ ⟨1, 1, 1, 1, 1, 1, 2⟩ ⟨1, 1, [⟨0, 0, 2, 0, 0, 0, 0, 0, 0, 0⟩]⟩ [0] = true := by decide +kernel

theorem known_loop (x : World) : LoopV ((((((x.alloc (.cells #[.int .i64 0, .int .i64 0, .int .i64 2, .int .i64 0, .int .i64 0, .int .i64 0, .int .i64 0, .int .i64 0, .int .i64 0, .int .i64 0] 37)).alloc (.cells #[.int .i64 1, .int .i64 1, .slice (some ⟨x.heap.size, 0, none⟩) 1 1] 31)).alloc (.cells #[.int .i64 1, .int .i64 1, .int .i64 1, .int .i64 1, .int .i64 1, .int .i64 1, .int .i64 2] 28)).alloc (.cells #[.int .i64 2, .int .i64 0, .int .i64 0, .int .i64 0, .int .i64 0, .int .i64 0, .int .i64 0, .int .i64 0, .int .i64 0] 41)).alloc (.cells #[.int .i64 0] 3)).alloc (.cells #[.int .i64 0] 3)) (.agg #[.slice none 0 0, .slice (some ⟨x.heap.size + 1 + 1 + 1, 0, none⟩) 1 1, .slice (some ⟨x.heap.size + 1 + 1 + 1 + 1, 0, none⟩) 1 1]) ⟨[], [⟨2, 0, 0, 0, 0, 0, 0, 0, 0⟩], [0]⟩ := by
  refine ⟨_, _, _, rfl, ⟨none, 0, rfl, Nat.le_refl _, Nat.zero_le _, fun i hi => absurd hi (Nat.not_lt_zero _), fun h => absurd h (Nat.lt_irrefl _)⟩, ⟨_, 1, rfl, Nat.le_refl _, by unfold maxLen; omega, fun _ => ⟨x.heap.size + 1 + 1 + 1, 0, rfl, by simp <;> omega, fun i hi j hj => ?_⟩⟩, ⟨_, 1, rfl, Nat.le_refl _, by unfold maxLen; omega, fun i hi => ?_, fun _ => ⟨x.heap.size + 1 + 1 + 1 + 1, 0, rfl, by simp <;> omega, fun i hi => ?_⟩⟩⟩
  · have hi0 : i = 0 := by have : i < 1 := hi; omega
    subst hi0
    obtain rfl | rfl | rfl | rfl | rfl | rfl | rfl | rfl | rfl : j = 0 ∨ j = 1 ∨ j = 2 ∨ j = 3 ∨ j = 4 ∨ j = 5 ∨ j = 6 ∨ j = 7 ∨ j = 8 := by omega
    all_goals (go_simp; try rfl)
  · have hi0 : i = 0 := by have : i < 1 := hi; omega
    subst hi0
    exact ⟨by show (-9223372036854775808 : Int) ≤ 0; omega, by show (0 : Int) ≤ 9223372036854775807; omega⟩
  · have hi0 : i = 0 := by have : i < 1 := hi; omega
    subst hi0
    go_simp
    try rfl
theorem known_ops (x : World) : OpsV ((((((x.alloc (.cells #[.int .i64 0, .int .i64 0, .int .i64 2, .int .i64 0, .int .i64 0, .int .i64 0, .int .i64 0, .int .i64 0, .int .i64 0, .int .i64 0] 37)).alloc (.cells #[.int .i64 1, .int .i64 1, .slice (some ⟨x.heap.size, 0, none⟩) 1 1] 31)).alloc (.cells #[.int .i64 1, .int .i64 1, .int .i64 1, .int .i64 1, .int .i64 1, .int .i64 1, .int .i64 2] 28)).alloc (.cells #[.int .i64 2, .int .i64 0, .int .i64 0, .int .i64 0, .int .i64 0, .int .i64 0, .int .i64 0, .int .i64 0, .int .i64 0] 41)).alloc (.cells #[.int .i64 0] 3)).alloc (.cells #[.int .i64 0] 3)) (.slice (some ⟨x.heap.size, 0, none⟩) 1 1) [⟨0, 0, 2, 0, 0, 0, 0, 0, 0, 0⟩] := by
  refine ⟨_, 1, rfl, Nat.le_refl _, by unfold maxLen; omega, fun _ => ⟨x.heap.size, 0, rfl, by simp <;> omega, fun i hi j hj => ?_⟩⟩
  have hi0 : i = 0 := by have : i < 1 := hi; omega
  subst hi0
  obtain rfl | rfl | rfl | rfl | rfl | rfl | rfl | rfl | rfl | rfl : j = 0 ∨ j = 1 ∨ j = 2 ∨ j = 3 ∨ j = 4 ∨ j = 5 ∨ j = 6 ∨ j = 7 ∨ j = 8 ∨ j = 9 := by omega
  all_goals (go_simp; try rfl)
theorem known_ord (x : World) : Ints ((((((x.alloc (.cells #[.int .i64 0, .int .i64 0, .int .i64 2, .int .i64 0, .int .i64 0, .int .i64 0, .int .i64 0, .int .i64 0, .int .i64 0, .int .i64 0] 37)).alloc (.cells #[.int .i64 1, .int .i64 1, .slice (some ⟨x.heap.size, 0, none⟩) 1 1] 31)).alloc (.cells #[.int .i64 1, .int .i64 1, .int .i64 1, .int .i64 1, .int .i64 1, .int .i64 1, .int .i64 2] 28)).alloc (.cells #[.int .i64 2, .int .i64 0, .int .i64 0, .int .i64 0, .int .i64 0, .int .i64 0, .int .i64 0, .int .i64 0, .int .i64 0] 41)).alloc (.cells #[.int .i64 0] 3)).alloc (.cells #[.int .i64 0] 3)) (.slice (some ⟨x.heap.size + 1 + 1 + 1 + 1 + 1, 0, none⟩) 1 1) [0] := by
  refine ⟨_, 1, rfl, Nat.le_refl _, by unfold maxLen; omega, fun i hi => ?_, fun _ => ⟨x.heap.size + 1 + 1 + 1 + 1 + 1, 0, rfl, by simp, fun i hi => ?_⟩⟩
  · have hi0 : i = 0 := by have : i < 1 := hi; omega
    subst hi0
    exact ⟨by show (-9223372036854775808 : Int) ≤ 0; omega, by show (0 : Int) ≤ 9223372036854775807; omega⟩
  · have hi0 : i = 0 := by have : i < 1 := hi; omega
    subst hi0
    go_simp
    try rfl
theorem known_below (x : World) : Below x.heap.size x ((((((x.alloc (.cells #[.int .i64 0, .int .i64 0, .int .i64 2, .int .i64 0, .int .i64 0, .int .i64 0, .int .i64 0, .int .i64 0, .int .i64 0, .int .i64 0] 37)).alloc (.cells #[.int .i64 1, .int .i64 1, .slice (some ⟨x.heap.size, 0, none⟩) 1 1] 31)).alloc (.cells #[.int .i64 1, .int .i64 1, .int .i64 1, .int .i64 1, .int .i64 1, .int .i64 1, .int .i64 2] 28)).alloc (.cells #[.int .i64 2, .int .i64 0, .int .i64 0, .int .i64 0, .int .i64 0, .int .i64 0, .int .i64 0, .int .i64 0, .int .i64 0] 41)).alloc (.cells #[.int .i64 0] 3)).alloc (.cells #[.int .i64 0] 3)) := ((((((below_alloc1 x _).alloc (by simp) _).alloc (by simp <;> omega) _).alloc (by simp <;> omega) _).alloc (by simp <;> omega) _).alloc (by simp <;> omega) _)
set_option maxHeartbeats 8000000 in
theorem sound_no (hT : TakesC) (p0 p1 p2 q0 q1 q2 r pc st : Int) (ops : List Kop) (L : Lp) (O : List Int) (sv0 sv1 : Value) (turns : Int) (a0 a1 a2 ka oa : Option Addr) (cap0 cap1 cap2 kc oc : Nat) (w : World) (hL : LoopV w (.agg #[.slice a0 L.logs.length cap0, .slice a1 L.body.length cap1, .slice a2 L.outs.length cap2]) L) (hK : OpsV w (.slice ka ops.length kc) ops) (hO : Ints w (.slice oa O.length oc) O) (htk : takenD L ⟨p0, p1, p2, q0, q1, q2, r⟩ ⟨pc, st, ops⟩ O = false) :
    Calls Tryz.prog 3 #[.agg #[.slice a0 L.logs.length cap0, .slice a1 L.body.length cap1, .slice a2 L.outs.length cap2], .agg #[.int .i64 p0, .int .i64 p1, .int .i64 p2, .int .i64 q0, .int .i64 q1, .int .i64 q2, .int .i64 r], .agg #[.int .i64 pc, .int .i64 st, .slice ka ops.length kc], .slice oa O.length oc, .agg #[sv0, sv1], .int .i64 turns] w fun e w' => e = .returned (.bool true) ∧ Below w.heap.size w w' := by
  have HT := hide (fun W (h1 : LoopV W (.agg #[.slice a0 L.logs.length cap0, .slice a1 L.body.length cap1, .slice a2 L.outs.length cap2]) L) (h2 : OpsV W (.slice ka ops.length kc) ops) (h3 : Ints W (.slice oa O.length oc) O) => htk ▸ hT _ _ _ ⟨p0, p1, p2, q0, q1, q2, r⟩ L ⟨pc, st, ops⟩ O W h1 ⟨_, rfl, h2⟩ h3)
  have HL := hide hL
  have HK := hide hK
  have HO := hide hO
  have HKT := hide hT
  clear hL hK hO htk
  go_enter Tryz.func3, Tryz.ntmps3
  go_wp2_with fail
  have HB0 : Hid (Below w.heap.size w ((((w.alloc (.cells #[.slice a0 L.logs.length cap0, .slice a1 L.body.length cap1, .slice a2 L.outs.length cap2] 25)).alloc (.cells #[.int .i64 p0, .int .i64 p1, .int .i64 p2, .int .i64 q0, .int .i64 q1, .int .i64 q2, .int .i64 r] 28)).alloc (.cells #[.int .i64 pc, .int .i64 st, .slice ka ops.length kc] 31)).alloc (.cells #[sv0, sv1] 34))) := (below_alloc3 w _ _ _).alloc (by simp; omega) _
  refine (HT.out _ (HL.out.below HB0.out) (HK.out.below HB0.out) (HO.out.below HB0.out)).mono ?_
  rintro e x1 ⟨rfl, hbx⟩
  have HW1 := hide (HB0.out.trans (hbx.mono HB0.out.size))
  clear hbx
  go_wp2_with fail
  refine (((HKT.out _ _ _ ⟨1, 1, 1, 1, 1, 1, 2⟩ ⟨[], [⟨2, 0, 0, 0, 0, 0, 0, 0, 0⟩], [0]⟩ ⟨1, 1, [⟨0, 0, 2, 0, 0, 0, 0, 0, 0, 0⟩]⟩ [0] _ (known_loop x1) ⟨_, rfl, known_ops x1⟩ (known_ord x1)))).mono ?_
  rintro e x2 ⟨rfl, hbx⟩
  rw [known_taken]
  have HW2 := hide (HW1.out.trans (((known_below x1).trans (hbx.mono (known_below x1).size)).mono HW1.out.size))
  clear hbx
  go_wp2_with fail
  go_ret
  exact ⟨rfl, HW2.out⟩
set_option maxHeartbeats 8000000 in
theorem sound_yes (hT : TakesC) (p0 p1 p2 q0 q1 q2 r pc st : Int) (ops : List Kop) (L : Lp) (O : List Int) (B M : List (List Int)) (turns : Int) (a0 a1 a2 ka oa ba ma : Option Addr) (cap0 cap1 cap2 kc oc bc mc : Nat) (w : World) (hL : LoopV w (.agg #[.slice a0 L.logs.length cap0, .slice a1 L.body.length cap1, .slice a2 L.outs.length cap2]) L) (hK : OpsV w (.slice ka ops.length kc) ops) (hO : Ints w (.slice oa O.length oc) O) (hB : IntRows w (.slice ba B.length bc) B) (hM : IntRows w (.slice ma M.length mc) M)
    (htk : takenD L ⟨p0, p1, p2, q0, q1, q2, r⟩ ⟨pc, st, ops⟩ O = true) (hLI : LoopIn L) (hnn : ∀ x ∈ ops, I64 x.nn) :
    Calls Tryz.prog 3 #[.agg #[.slice a0 L.logs.length cap0, .slice a1 L.body.length cap1, .slice a2 L.outs.length cap2], .agg #[.int .i64 p0, .int .i64 p1, .int .i64 p2, .int .i64 q0, .int .i64 q1, .int .i64 q2, .int .i64 r], .agg #[.int .i64 pc, .int .i64 st, .slice ka ops.length kc], .slice oa O.length oc, .agg #[.slice ba B.length bc, .slice ma M.length mc], .int .i64 turns] w fun e w' => e = .returned (.bool true) ∧ Below w.heap.size w w' := by
  obtain ⟨hlay, -⟩ := taken_parts htk
  obtain ⟨hm, hmt, hmk, -⟩ := lay_parts hlay
  obtain ⟨-, -, -, hr1, hr2⟩ := mayT_parts hmt
  have hr1 : 1 ≤ r := hr1
  have HT := hide (fun W (h1 : LoopV W (.agg #[.slice a0 L.logs.length cap0, .slice a1 L.body.length cap1, .slice a2 L.outs.length cap2]) L) (h2 : OpsV W (.slice ka ops.length kc) ops) (h3 : Ints W (.slice oa O.length oc) O) => htk ▸ hT _ _ _ ⟨p0, p1, p2, q0, q1, q2, r⟩ L ⟨pc, st, ops⟩ O W h1 ⟨_, rfl, h2⟩ h3)
  have HLY := hide (fun W (h1 : LoopV W (.agg #[.slice a0 L.logs.length cap0, .slice a1 L.body.length cap1, .slice a2 L.outs.length cap2]) L) (h2 : OpsV W (.slice ka ops.length kc) ops) (h3 : Ints W (.slice oa O.length oc) O) => layout_any _ _ _ ⟨p0, p1, p2, q0, q1, q2, r⟩ L ⟨pc, st, ops⟩ O W h1 ⟨_, rfl, h2⟩ h3)
  have HLAY := hide hlay
  have HFI := hide (fun W (h1 : LoopV W (.agg #[.slice a0 L.logs.length cap0, .slice a1 L.body.length cap1, .slice a2 L.outs.length cap2]) L) (h2 : StateV W (.agg #[.slice ba B.length bc, .slice ma M.length mc]) B M) => rfits_any _ _ L B M W h1 h2)
  have HWK : Hid (fitsB L B M = true → 0 ≤ turns → turns ≤ 200 → ∀ W, Calls Tryz.prog 8 #[.agg #[.int .i64 pc, .int .i64 st, .slice ka ops.length kc], .int .i64 turns] W fun e w' => e = .returned (.bool (decide (20000 < (turns + st) * pc))) ∧ Below W.heap.size W w') := fun hf h0 h1 W => by
    obtain ⟨hhl, hlg⟩ := fits_logs hf
    exact work_any ⟨p0, p1, p2, q0, q1, q2, r⟩ ⟨pc, st, ops⟩ r.toNat M turns (.slice ka ops.length kc) W (by
      unfold wrongK
      rw [if_pos ⟨hhl, by rw [hlg]; exact hmk, by show ((r.toNat : Nat) : Int) = r; omega⟩, if_pos ⟨h0, h1⟩])
  have HDO : Hid (fitsB L B M = true → 0 ≤ turns → turns ≤ 200 → ∀ W, LoopV W (.agg #[.slice a0 L.logs.length cap0, .slice a1 L.body.length cap1, .slice a2 L.outs.length cap2]) L → OpsV W (.slice ka ops.length kc) ops → Ints W (.slice oa O.length oc) O → IntRows W (.slice ba B.length bc) B → IntRows W (.slice ma M.length mc) M → Calls Tryz.prog 9 #[.agg #[.slice a0 L.logs.length cap0, .slice a1 L.body.length cap1, .slice a2 L.outs.length cap2], .agg #[.int .i64 p0, .int .i64 p1, .int .i64 p2, .int .i64 q0, .int .i64 q1, .int .i64 q2, .int .i64 r], .agg #[.int .i64 pc, .int .i64 st, .slice ka ops.length kc], .slice oa O.length oc, .agg #[.slice ba B.length bc, .slice ma M.length mc], .int .i64 turns] W fun e w' => e = .returned (.bool true) ∧ Below W.heap.size W w') := fun hf h0 h1 W g1 g2 g3 g4 g5 => by
    obtain ⟨tn, rfl⟩ := Int.eq_ofNat_of_zero_le h0
    exact does_walk p0 p1 p2 q0 q1 q2 r pc st ops L O B M tn a0 a1 a2 ka oa ba ma cap0 cap1 cap2 kc oc bc mc W g1 g2 g3 g4 g5 htk hf (by omega) hLI hnn
  have HL := hide hL
  have HK := hide hK
  have HO := hide hO
  have HBR := hide hB
  have HMR := hide hM
  have HS : Hid (((((w.alloc (.cells #[.slice a0 L.logs.length cap0, .slice a1 L.body.length cap1, .slice a2 L.outs.length cap2] 25)).alloc (.cells #[.int .i64 p0, .int .i64 p1, .int .i64 p2, .int .i64 q0, .int .i64 q1, .int .i64 q2, .int .i64 r] 28)).alloc (.cells #[.int .i64 pc, .int .i64 st, .slice ka ops.length kc] 31)).alloc (.cells #[.slice ba B.length bc, .slice ma M.length mc] 34)).heap.size = w.heap.size + 1 + 1 + 1 + 1) := by show _ = _; simp
  have HB0 : Hid (Below w.heap.size w ((((w.alloc (.cells #[.slice a0 L.logs.length cap0, .slice a1 L.body.length cap1, .slice a2 L.outs.length cap2] 25)).alloc (.cells #[.int .i64 p0, .int .i64 p1, .int .i64 p2, .int .i64 q0, .int .i64 q1, .int .i64 q2, .int .i64 r] 28)).alloc (.cells #[.int .i64 pc, .int .i64 st, .slice ka ops.length kc] 31)).alloc (.cells #[.slice ba B.length bc, .slice ma M.length mc] 34))) := (below_alloc3 w _ _ _).alloc (by simp; omega) _
  clear hL hK hO hB hM htk hlay hm hmt hmk hLI hnn
  go_enter Tryz.func3, Tryz.ntmps3
  go_wp2_with fail
  refine (HT.out _ (HL.out.below HB0.out) (HK.out.below HB0.out) (HO.out.below HB0.out)).mono ?_
  rintro e x1 ⟨rfl, hbx⟩
  have hb1 : Below (w.heap.size + 1 + 1 + 1 + 1) ((((w.alloc (.cells #[.slice a0 L.logs.length cap0, .slice a1 L.body.length cap1, .slice a2 L.outs.length cap2] 25)).alloc (.cells #[.int .i64 p0, .int .i64 p1, .int .i64 p2, .int .i64 q0, .int .i64 q1, .int .i64 q2, .int .i64 r] 28)).alloc (.cells #[.int .i64 pc, .int .i64 st, .slice ka ops.length kc] 31)).alloc (.cells #[.slice ba B.length bc, .slice ma M.length mc] 34)) x1 := by rw [← HS.out]; exact hbx
  have HB1 := hide hb1
  obtain ⟨⟨l0, l1, l2⟩, ⟨t0, t1, t2, t3, t4, t5, t6⟩, ⟨k0, k1, k2⟩, ⟨s0, s1⟩, hz, hbw⟩ := lksbox_cells hb1
  have HW1 := hide hbw
  clear hbx hb1 hbw
  go_wp2_with fail
  refine (HLY.out _ (HL.out.below HW1.out) (HK.out.below HW1.out) (HO.out.below HW1.out)).mono ?_
  rintro e x2 ⟨hbx, hyes, -⟩
  obtain ⟨xa, xc, rfl, -⟩ := hyes HLAY.out
  have HB2 := hide (HB1.out.trans (hbx.mono (by omega)))
  clear l0 l1 l2 t0 t1 t2 t3 t4 t5 t6 k0 k1 k2 s0 s1 hz
  obtain ⟨⟨l0, l1, l2⟩, ⟨t0, t1, t2, t3, t4, t5, t6⟩, ⟨k0, k1, k2⟩, ⟨s0, s1⟩, hz, hbw⟩ := lksbox_cells HB2.out
  have HW2 := hide hbw
  clear hbx hbw hyes
  by_cases ht0 : turns < 0
  · go_wp2_with fail
    go_ret
    exact ⟨rfl, HW2.out⟩
  · by_cases ht1 : 200 < turns
    · go_wp2_with fail
      go_ret
      exact ⟨rfl, HW2.out⟩
    · have HFI2 := hide (HFI.out x2 (HL.out.below HW2.out) ⟨_, _, rfl, HBR.out.below HW2.out, HMR.out.below HW2.out⟩)
      cases hf : fitsB L B M with
      | false =>
        rw [hf] at HFI2
        go_wp2_with fail
        refine HFI2.out.mono ?_
        rintro e x3 ⟨rfl, hbx⟩
        have HW3 := hide (HW2.out.trans (hbx.mono HW2.out.size))
        clear hbx l0 l1 l2 t0 t1 t2 t3 t4 t5 t6 k0 k1 k2 s0 s1
        go_wp2_with fail
        go_ret
        exact ⟨rfl, HW3.out⟩
      | true =>
        rw [hf] at HFI2
        have HWK2 := hide (HWK.out hf (by omega) (by omega))
        have HDO2 := hide (HDO.out hf (by omega) (by omega))
        obtain ⟨wk, hwk⟩ : ∃ wk, decide (20000 < (turns + st) * pc) = wk := ⟨_, rfl⟩
        rw [hwk] at HWK2
        clear hf hwk HWK HDO
        go_wp2_with fail
        refine HFI2.out.mono ?_
        rintro e x3 ⟨rfl, hbx⟩
        have HB3 := hide (HB2.out.trans (hbx.mono (by omega)))
        clear l0 l1 l2 t0 t1 t2 t3 t4 t5 t6 k0 k1 k2 s0 s1 hz
        obtain ⟨⟨l0, l1, l2⟩, ⟨t0, t1, t2, t3, t4, t5, t6⟩, ⟨k0, k1, k2⟩, ⟨s0, s1⟩, hz, hbw⟩ := lksbox_cells HB3.out
        have HW3 := hide hbw
        clear hbx hbw
        go_wp2_with fail
        refine (HWK2.out _).mono ?_
        rintro e x4 ⟨rfl, hbx⟩
        have HB4 := hide (HB3.out.trans (hbx.mono (by omega)))
        clear l0 l1 l2 t0 t1 t2 t3 t4 t5 t6 k0 k1 k2 s0 s1 hz
        obtain ⟨⟨l0, l1, l2⟩, ⟨t0, t1, t2, t3, t4, t5, t6⟩, ⟨k0, k1, k2⟩, ⟨s0, s1⟩, hz, hbw⟩ := lksbox_cells HB4.out
        have HW4 := hide hbw
        clear hbx hbw
        cases wk with
        | true =>
          go_wp2_with fail
          go_ret
          exact ⟨rfl, HW4.out⟩
        | false =>
          go_wp2_with fail
          refine (HDO2.out _ (HL.out.below HW4.out) (HK.out.below HW4.out) (HO.out.below HW4.out) (HBR.out.below HW4.out) (HMR.out.below HW4.out)).mono ?_
          rintro e x5 ⟨rfl, hbx⟩
          have HW5 := hide (HW4.out.trans (hbx.mono HW4.out.size))
          clear hbx l0 l1 l2 t0 t1 t2 t3 t4 t5 t6 k0 k1 k2 s0 s1
          go_wp2_with fail
          go_ret
          exact ⟨rfl, HW5.out⟩
theorem checkSound_any (hT : TakesC) (v kv ov sv : Value) (t : Tg) (L : Lp) (K : Kn) (O : List Int) (B M : List (List Int)) (turns : Int) (w : World) (hL : LoopV w v L) (hK : KernV w kv K) (hO : Ints w ov O) (hS : StateV w sv B M) (hLI : LoopIn L) (hnn : ∀ x ∈ K.ops, I64 x.nn) : Calls Tryz.prog 3 #[v, .agg t.cells, kv, ov, sv, .int .i64 turns] w fun e w' => e = .returned (.bool true) ∧ Below w.heap.size w w' := by
  have hL' := hL
  obtain ⟨v0, v1, v2, rfl, ⟨a0, cap0, rfl, -⟩, ⟨a1, cap1, rfl, -⟩, ⟨a2, cap2, rfl, -⟩⟩ := hL'
  obtain ⟨kl, rfl, hOp⟩ := hK
  have hOp' := hOp
  obtain ⟨ka, kc, rfl, -⟩ := hOp'
  have hO' := hO
  obtain ⟨oa, oc, rfl, -⟩ := hO'
  obtain ⟨pc, st, ops⟩ := K
  obtain ⟨p0, p1, p2, q0, q1, q2, r⟩ := t
  obtain ⟨b0, m0, rfl, hB, hM⟩ := hS
  cases h : takenD L ⟨p0, p1, p2, q0, q1, q2, r⟩ ⟨pc, st, ops⟩ O with
  | false => exact sound_no hT p0 p1 p2 q0 q1 q2 r pc st ops L O _ _ turns a0 a1 a2 ka oa cap0 cap1 cap2 kc oc w hL hOp hO h
  | true =>
    have hB' := hB
    obtain ⟨ba, bc, rfl, -⟩ := hB'
    have hM' := hM
    obtain ⟨ma, mc, rfl, -⟩ := hM'
    exact sound_yes hT p0 p1 p2 q0 q1 q2 r pc st ops L O B M turns a0 a1 a2 ka oa ba ma cap0 cap1 cap2 kc oc bc mc w hL hOp hO hB hM h hLI hnn
end Go.Proofs.YtbpaffkkphacdabGreat
