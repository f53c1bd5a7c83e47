/- What is taken does what the loop does, by the law's own look (does); nothing that was there is changed. -/
import Derived.Test.YtbpaffkkphacdabGreatRef10C
import Derived.Test.YtbpaffkkphacdabGreatRef3A
import Derived.Test.YtbpaffkkphacdabGreatRef5B
import Derived.Test.YtbpaffkkphacdabGreatRef3Play
namespace Go.Proofs.YtbpaffkkphacdabGreat
open Go.RowKit Go.Joins
set_option linter.unusedVariables false
set_option linter.unusedSimpArgs false
set_option maxRecDepth 8192

theorem logIx_two : ∀ g, g ≤ 5 → logIx (2 ^ g) = g := by
  intro g hg
  obtain rfl | rfl | rfl | rfl | rfl | rfl : g = 0 ∨ g = 1 ∨ g = 2 ∨ g = 3 ∨ g = 4 ∨ g = 5 := by omega
  all_goals rfl
theorem log_range {L : Lp} (h : mayB L = true) {i : Nat} (hi : i < L.logs.length) : 0 ≤ nth L.logs i ∧ nth L.logs i ≤ 5 := by
  obtain ⟨-, -, -, -, h5, -⟩ := may_parts h
  exact inR_iff.1 (allN_get h5 i hi)
/-- the words of a state that fits have the loop's Logs -/
theorem fits_logs {L : Lp} {B M : List (List Int)} (h : fitsB L B M = true) : hasLogs M = true ∧ logsOf M = L.logs := by
  obtain ⟨f1, f2, f3, f4, f5⟩ := fits_parts h
  have hl : ∀ i, i < M.length → logIx (rowAt M i).length = (nth L.logs i).toNat := fun i hi => by
    have := log_range f1 (i := i) (by omega)
    rw [f5 i hi]
    exact logIx_two _ (by omega)
  refine ⟨allN_mk fun i hi => ?_, nth_ext (by rw [logsOf_len]; exact f3) fun j hj => ?_⟩
  · have := log_range f1 (i := i) (by omega)
    unfold hasLog
    rw [hl i hi]
    exact decide_eq_true (by omega)
  · rw [logsOf_len] at hj
    have := log_range f1 (i := j) (by omega)
    rw [logsOf_nth M j hj, hl j hj]
    omega
theorem state_bef {L : Lp} {B M : List (List Int)} (h : fitsB L B M = true) : befB L B = true := by
  obtain ⟨f1, f2, f3, f4, f5⟩ := fits_parts h
  unfold befB
  rw [decide_eq_true f2, Bool.true_and]
  exact allN_mk fun i hi => decide_eq_true (f4 i hi)
theorem lksbox_cells {w wr : World} {x0 x1 x2 y0 y1 y2 s0 s1 : Value} {p0 p1 p2 q0 q1 q2 r : Int} {ta tb tc td : TypeId} (h : Below (w.heap.size + 1 + 1 + 1 + 1) ((((w.alloc (.cells #[x0, x1, x2] ta)).alloc (.cells #[.int .i64 p0, .int .i64 p1, .int .i64 p2, .int .i64 q0, .int .i64 q1, .int .i64 q2, .int .i64 r] tb)).alloc (.cells #[y0, y1, y2] tc)).alloc (.cells #[s0, s1] td)) wr) :
    (wr.cell? ⟨w.heap.size, 0, none⟩ = some x0 ∧ wr.cell? ⟨w.heap.size, 1, none⟩ = some x1 ∧ wr.cell? ⟨w.heap.size, 2, none⟩ = some x2) ∧
    (wr.cell? ⟨w.heap.size + 1, 0, none⟩ = some (.int .i64 p0) ∧ wr.cell? ⟨w.heap.size + 1, 1, none⟩ = some (.int .i64 p1) ∧ wr.cell? ⟨w.heap.size + 1, 2, none⟩ = some (.int .i64 p2) ∧ wr.cell? ⟨w.heap.size + 1, 3, none⟩ = some (.int .i64 q0) ∧ wr.cell? ⟨w.heap.size + 1, 4, none⟩ = some (.int .i64 q1) ∧ wr.cell? ⟨w.heap.size + 1, 5, none⟩ = some (.int .i64 q2) ∧ wr.cell? ⟨w.heap.size + 1, 6, none⟩ = some (.int .i64 r)) ∧
    (wr.cell? ⟨w.heap.size + 1 + 1, 0, none⟩ = some y0 ∧ wr.cell? ⟨w.heap.size + 1 + 1, 1, none⟩ = some y1 ∧ wr.cell? ⟨w.heap.size + 1 + 1, 2, none⟩ = some y2) ∧ (wr.cell? ⟨w.heap.size + 1 + 1 + 1, 0, none⟩ = some s0 ∧ wr.cell? ⟨w.heap.size + 1 + 1 + 1, 1, none⟩ = some s1) ∧ w.heap.size + 1 + 1 + 1 < wr.heap.size ∧ Below w.heap.size w wr := by
  have hs : ((((w.alloc (.cells #[x0, x1, x2] ta)).alloc (.cells #[.int .i64 p0, .int .i64 p1, .int .i64 p2, .int .i64 q0, .int .i64 q1, .int .i64 q2, .int .i64 r] tb)).alloc (.cells #[y0, y1, y2] tc)).alloc (.cells #[s0, s1] td)).heap.size = w.heap.size + 1 + 1 + 1 + 1 := by simp
  have hz := h.size
  have h3 : Below (w.heap.size + 1 + 1 + 1) (((w.alloc (.cells #[x0, x1, x2] ta)).alloc (.cells #[.int .i64 p0, .int .i64 p1, .int .i64 p2, .int .i64 q0, .int .i64 q1, .int .i64 q2, .int .i64 r] tb)).alloc (.cells #[y0, y1, y2] tc)) wr := ((Below.refl _ _).alloc (by simp) _).trans (h.mono (by omega))
  obtain ⟨c1, c2, c3, -, hb⟩ := lkbox_cells h3
  refine ⟨c1, c2, c3, ⟨?_, ?_⟩, by omega, hb⟩
  all_goals rw [h.cell (by show w.heap.size + 1 + 1 + 1 < _; omega)]
  all_goals go_simp

set_option maxHeartbeats 8000000 in
theorem does_walk (p0 p1 p2 q0 q1 q2 r pc st : Int) (ops : List Kop) (L : Lp) (O : List Int) (B M : List (List Int)) (turns : Nat) (a0 a1 a2 ka oa ba ma : Option Addr) (cap0 cap1 cap2 kc oc bc mc : Nat) (w : World) (hL : LoopV w (.agg #[.slice a0 L.logs.length cap0, .slice a1 L.body.length cap1, .slice a2 L.outs.length cap2]) L) (hK : OpsV w (.slice ka ops.length kc) ops) (hO : Ints w (.slice oa O.length oc) O) (hB : IntRows w (.slice ba B.length bc) B) (hM : IntRows w (.slice ma M.length mc) M)
    (htk : takenD L ⟨p0, p1, p2, q0, q1, q2, r⟩ ⟨pc, st, ops⟩ O = true) (hfi : fitsB L B M = true) (ht : turns ≤ 200) (hLI : LoopIn L) (hnn : ∀ x ∈ ops, I64 x.nn) :
    Calls Tryz.prog 9 #[.agg #[.slice a0 L.logs.length cap0, .slice a1 L.body.length cap1, .slice a2 L.outs.length cap2], .agg #[.int .i64 p0, .int .i64 p1, .int .i64 p2, .int .i64 q0, .int .i64 q1, .int .i64 q2, .int .i64 r], .agg #[.int .i64 pc, .int .i64 st, .slice ka ops.length kc], .slice oa O.length oc, .agg #[.slice ba B.length bc, .slice ma M.length mc], .int .i64 (turns : Int)] w fun e w' => e = .returned (.bool true) ∧ Below w.heap.size w w' := by
  obtain ⟨hlay, -⟩ := taken_parts htk
  obtain ⟨hm, hmt, hmk, -⟩ := lay_parts hlay
  obtain ⟨-, -, -, hr1, hr2⟩ := mayT_parts hmt
  have hr1 : 1 ≤ r := hr1
  obtain ⟨hhl, hlg⟩ := fits_logs hfi
  have hbf := state_bef hfi
  have hBin := rows_in10 hB
  have hMin := rows_in10 hM
  have HEN := hide (fun W (h1 : LoopV W (.agg #[.slice a0 L.logs.length cap0, .slice a1 L.body.length cap1, .slice a2 L.outs.length cap2]) L) (h2 : OpsV W (.slice ka ops.length kc) ops) (h3 : Ints W (.slice oa O.length oc) O) (h4 : IntRows W (.slice ba B.length bc) B) => enter_walk p0 p1 p2 q0 q1 q2 r pc st ops L O B a0 a1 a2 ka oa ba cap0 cap1 cap2 kc oc bc W h1 h2 h3 h4 hlay hbf)
  have HEL := hide (enter_len L ⟨p0, p1, p2, q0, q1, q2, r⟩ ⟨pc, st, ops⟩ O B)
  have HPY : Hid (∀ W rv, OpsV W (.slice ka ops.length kc) ops → Ints W rv (enterD L ⟨p0, p1, p2, q0, q1, q2, r⟩ ⟨pc, st, ops⟩ O B) → IntRows W (.slice ma M.length mc) M → Calls Tryz.prog 24 #[.agg #[.int .i64 p0, .int .i64 p1, .int .i64 p2, .int .i64 q0, .int .i64 q1, .int .i64 q2, .int .i64 r], .agg #[.int .i64 pc, .int .i64 st, .slice ka ops.length kc], rv, .slice ma M.length mc, .int .i64 (turns : Int)] W fun e w' => ∃ rv' mv', e = .returned (.tuple #[rv', mv']) ∧ Ints w' rv' (regsOf r.toNat (playK ⟨p0, p1, p2, q0, q1, q2, r⟩ ⟨pc, st, ops⟩ L.logs turns (enterD L ⟨p0, p1, p2, q0, q1, q2, r⟩ ⟨pc, st, ops⟩ O B) M)) ∧ IntRows w' mv' (wordsOf M (playK ⟨p0, p1, p2, q0, q1, q2, r⟩ ⟨pc, st, ops⟩ L.logs turns (enterD L ⟨p0, p1, p2, q0, q1, q2, r⟩ ⟨pc, st, ops⟩ O B) M)) ∧ Below W.heap.size W w') := fun W rv h1 h2 h3 => by
    have hx := kplay_any ⟨p0, p1, p2, q0, q1, q2, r⟩ (.agg #[.int .i64 pc, .int .i64 st, .slice ka ops.length kc]) rv (.slice ma M.length mc) ⟨pc, st, ops⟩ (enterD L ⟨p0, p1, p2, q0, q1, q2, r⟩ ⟨pc, st, ops⟩ O B) M (turns : Int) W ⟨_, rfl, h1⟩ h2 h3 (by
      unfold wrongK
      rw [if_pos ⟨hhl, by rw [hlg]; exact hmk, by rw [HEL.out]; show ((r.toNat : Nat) : Int) = r; omega⟩, if_pos (by omega)]) hnn
    rw [hlg, HEL.out] at hx
    exact hx
  have HLV := hide (fun W (R : List Int) ra rc (h1 : LoopV W (.agg #[.slice a0 L.logs.length cap0, .slice a1 L.body.length cap1, .slice a2 L.outs.length cap2]) L) (h2 : OpsV W (.slice ka ops.length kc) ops) (h3 : Ints W (.slice oa O.length oc) O) (h4 : IntRows W (.slice ba B.length bc) B) (h5 : Ints W (.slice ra R.length rc) R) (h6 : (R.length : Int) = r) => leave_walk p0 p1 p2 q0 q1 q2 r pc st ops L O R B (turns : Int) a0 a1 a2 ka oa ba ra cap0 cap1 cap2 kc oc bc rc W h1 h2 h3 h4 h5 hlay hbf h6 (by omega) (by omega))
  have HSQ := hide (fun W (h1 : LoopV W (.agg #[.slice a0 L.logs.length cap0, .slice a1 L.body.length cap1, .slice a2 L.outs.length cap2]) L) (h2 : StateV W (.agg #[.slice ba B.length bc, .slice ma M.length mc]) B M) => play_any _ _ L B M turns W h1 h2 hfi ht hLI hBin hMin)
  have HWD : Hid (wordsOf M (playK ⟨p0, p1, p2, q0, q1, q2, r⟩ ⟨pc, st, ops⟩ L.logs turns (enterD L ⟨p0, p1, p2, q0, q1, q2, r⟩ ⟨pc, st, ops⟩ O B) M) = memOf M (runS L B turns (startS M))) := by
    show (List.range M.length).map (fun i => (List.range (rowAt M i).length).map fun j => _) = (List.range M.length).map (fun i => (List.range (rowAt M i).length).map fun j => _)
    refine List.map_congr_left fun i _ => List.map_congr_left fun j _ => ?_
    exact sound_words htk ht i j
  have HOT : Hid (leaveD L ⟨p0, p1, p2, q0, q1, q2, r⟩ ⟨pc, st, ops⟩ O B (regsOf r.toNat (playK ⟨p0, p1, p2, q0, q1, q2, r⟩ ⟨pc, st, ops⟩ L.logs turns (enterD L ⟨p0, p1, p2, q0, q1, q2, r⟩ ⟨pc, st, ops⟩ O B) M)) turns = outsOf L B turns (runS L B turns (startS M))) := sound_outs htk ht
  have HRL : Hid (((regsOf r.toNat (playK ⟨p0, p1, p2, q0, q1, q2, r⟩ ⟨pc, st, ops⟩ L.logs turns (enterD L ⟨p0, p1, p2, q0, q1, q2, r⟩ ⟨pc, st, ops⟩ O B) M)).length : Int) = r) := by show _ = _; unfold regsOf; simp; omega
  have HL := hide hL
  have HK := hide hK
  have HO := hide hO
  have HBR := hide hB
  have HMR := hide hM
  have HS : Hid (((((w.alloc (.cells #[.slice a0 L.logs.length cap0, .slice a1 L.body.length cap1, .slice a2 L.outs.length cap2] 25)).alloc (.cells #[.int .i64 p0, .int .i64 p1, .int .i64 p2, .int .i64 q0, .int .i64 q1, .int .i64 q2, .int .i64 r] 28)).alloc (.cells #[.int .i64 pc, .int .i64 st, .slice ka ops.length kc] 31)).alloc (.cells #[.slice ba B.length bc, .slice ma M.length mc] 34)).heap.size = w.heap.size + 1 + 1 + 1 + 1) := by show _ = _; simp
  have HB0 : Hid (Below w.heap.size w ((((w.alloc (.cells #[.slice a0 L.logs.length cap0, .slice a1 L.body.length cap1, .slice a2 L.outs.length cap2] 25)).alloc (.cells #[.int .i64 p0, .int .i64 p1, .int .i64 p2, .int .i64 q0, .int .i64 q1, .int .i64 q2, .int .i64 r] 28)).alloc (.cells #[.int .i64 pc, .int .i64 st, .slice ka ops.length kc] 31)).alloc (.cells #[.slice ba B.length bc, .slice ma M.length mc] 34))) := (below_alloc3 w _ _ _).alloc (by simp; omega) _
  generalize playK ⟨p0, p1, p2, q0, q1, q2, r⟩ ⟨pc, st, ops⟩ L.logs turns (enterD L ⟨p0, p1, p2, q0, q1, q2, r⟩ ⟨pc, st, ops⟩ O B) M = pk at *
  generalize enterD L ⟨p0, p1, p2, q0, q1, q2, r⟩ ⟨pc, st, ops⟩ O B = en at *
  generalize regsOf r.toNat pk = rg at *
  generalize runS L B turns (startS M) = rs at *
  clear hL hK hO hB hM htk hfi hlay hm hmt hmk hhl hlg hbf hBin hMin hLI hnn
  go_enter Tryz.func9, Tryz.ntmps9
  go_wp2_with fail
  refine (HEN.out _ (HL.out.below HB0.out) (HK.out.below HB0.out) (HO.out.below HB0.out) (HBR.out.below HB0.out)).mono ?_
  rintro e x1 ⟨⟨ea, ec, rfl, hen⟩, hbx⟩
  have hb1 : Below (w.heap.size + 1 + 1 + 1 + 1) ((((w.alloc (.cells #[.slice a0 L.logs.length cap0, .slice a1 L.body.length cap1, .slice a2 L.outs.length cap2] 25)).alloc (.cells #[.int .i64 p0, .int .i64 p1, .int .i64 p2, .int .i64 q0, .int .i64 q1, .int .i64 q2, .int .i64 r] 28)).alloc (.cells #[.int .i64 pc, .int .i64 st, .slice ka ops.length kc] 31)).alloc (.cells #[.slice ba B.length bc, .slice ma M.length mc] 34)) x1 := by rw [← HS.out]; exact hbx
  have HB1 := hide hb1
  have HE1 := hide hen
  obtain ⟨⟨l0, l1, l2⟩, ⟨t0, t1, t2, t3, t4, t5, t6⟩, ⟨k0, k1, k2⟩, ⟨s0, s1⟩, hz, hbw⟩ := lksbox_cells hb1
  have HW1 := hide hbw
  clear hbx hb1 hbw hen
  go_wp2_with fail
  refine (HPY.out _ _ (HK.out.below HW1.out) HE1.out (HMR.out.below HW1.out)).mono ?_
  rintro e x2 ⟨rv, mv, rfl, hrv, hmv, hbx⟩
  have HB2 := hide (HB1.out.trans (hbx.mono (by omega)))
  have HR2 := hide hrv
  have HM2 := hide hmv
  obtain ⟨ra, rc, rfl, -⟩ := id hrv
  clear l0 l1 l2 t0 t1 t2 t3 t4 t5 t6 k0 k1 k2 s0 s1 hz
  obtain ⟨⟨l0, l1, l2⟩, ⟨t0, t1, t2, t3, t4, t5, t6⟩, ⟨k0, k1, k2⟩, ⟨s0, s1⟩, hz, hbw⟩ := lksbox_cells HB2.out
  have HW2 := hide hbw
  clear hbx hbw hrv hmv
  go_wp2_with fail
  refine (HLV.out _ rg ra rc (HL.out.below HW2.out) (HK.out.below HW2.out) (HO.out.below HW2.out) (HBR.out.below HW2.out) HR2.out HRL.out).mono ?_
  rintro e x3 ⟨⟨la, lc, rfl, hlv⟩, hbx⟩
  rw [HOT.out] at hlv ⊢
  have HB3 := hide (HB2.out.trans (hbx.mono (by omega)))
  have HL3 := hide hlv
  have HM3 := hide (HM2.out.below hbx)
  clear l0 l1 l2 t0 t1 t2 t3 t4 t5 t6 k0 k1 k2 s0 s1 hz
  obtain ⟨⟨l0, l1, l2⟩, ⟨t0, t1, t2, t3, t4, t5, t6⟩, ⟨k0, k1, k2⟩, ⟨s0, s1⟩, hz, hbw⟩ := lksbox_cells HB3.out
  have HW3 := hide hbw
  clear hbx hbw hlv
  go_wp2_with fail
  refine (HSQ.out _ (HL.out.below HW3.out) ⟨_, _, rfl, HBR.out.below HW3.out, HMR.out.below HW3.out⟩).mono ?_
  rintro e x4 ⟨ov, qv, rfl, hov, hqv, hbx⟩
  have HB4 := hide (HB3.out.trans (hbx.mono (by omega)))
  have HL4 := hide (HL3.out.below hbx)
  have HM4 := hide (HM3.out.below hbx)
  have HO4 := hide hov
  have HQ4 := hide hqv
  rw [HWD.out] at HM4
  obtain ⟨oa2, oc2, rfl, -⟩ := id hov
  obtain ⟨qa2, qc2, rfl, -⟩ := id hqv
  obtain ⟨ma2, mc2, rfl, -⟩ := id HM4.out
  have HW4 := hide (HW3.out.trans (hbx.mono HW3.out.size))
  have HBA := hide (below_alloc1 x4 (.cells #[.slice oa2 (outsOf L B turns rs).length oc2, .slice qa2 (memOf M rs).length qc2] 50))
  have HNU := hide (numbers_any _ _ _ _ _ (HL4.out.below HBA.out) (HO4.out.below HBA.out))
  have HNV : Hid (∀ n, Calls Tryz.prog 16 #[_, _] ((x4.alloc (.cells #[.slice oa2 (outsOf L B turns rs).length oc2, .slice qa2 (memOf M rs).length qc2] 50)).drewN n) fun e w' => e = .returned (.bool (decide (memOf M rs = memOf M rs))) ∧ ∃ m, w' = ((x4.alloc (.cells #[.slice oa2 (outsOf L B turns rs).length oc2, .slice qa2 (memOf M rs).length qc2] 50)).drewN n).drewN m) := fun n => words_any _ _ _ _ _ ((HM4.out.below HBA.out).below (below_draws _ _ n)) ((HQ4.out.below HBA.out).below (below_draws _ _ n))
  rw [decide_eq_true rfl] at HNU HNV
  clear hbx hov hqv l0 l1 l2 t0 t1 t2 t3 t4 t5 t6 k0 k1 k2 s0 s1
  go_wp2_with fail
  refine HNU.out.mono ?_
  rintro e x5 ⟨rfl, n5, rfl⟩
  go_wp2_with fail
  refine (HNV.out n5).mono ?_
  rintro e x6 ⟨rfl, n6, rfl⟩
  go_wp2_with fail
  go_ret
  exact ⟨rfl, HW4.out.trans (((below_alloc1 x4 _).trans (below_draws _ _ _)).mono HW4.out.size)⟩
end Go.Proofs.YtbpaffkkphacdabGreat
