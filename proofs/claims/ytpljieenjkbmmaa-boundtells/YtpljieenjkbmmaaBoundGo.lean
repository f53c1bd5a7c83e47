/- The contract of package bound: how the program tells the least paces; nothing that was there is changed. -/
import Derived.Test.YtpljieenjkbmmaaBoundOff
import Derived.Test.YtpljieenjkbmmaaBoundUnits
import Derived.Test.YtpljieenjkbmmaaBoundTells
import Derived.Test.YtpljieenjkbmmaaUntil
import Derived.Test.YtpljieenjkbmmaaDepLeast
namespace Go.Proofs.Ytpljieenjkbmmaa
open Go.RowKit Go.Joins
set_option linter.unusedVariables false
set_option linter.unusedSimpArgs false
set_option maxRecDepth 8192

set_option maxHeartbeats 4000000 in
theorem roundsPace_any (t : Tg) (L : Lp) (ea : Option Addr) (ec : Nat) (w : World) (hE : EdgesV w (.slice ea (edgesD L t).length ec) (edgesD L t)) (hm : mayB L = true) :
    Calls Try.prog 85 #[.slice ea (edgesD L t).length ec, .int .i64 L.body.length] w fun e w' => e = .returned (.int .i64 (roundsB L t)) ∧ Below w.heap.size w w' := by
  obtain ⟨-, h1, h16, -⟩ := may_parts hm
  have hlen : (edgesD L t).length ≤ 60000 := by
    have := frD_len L t L.body.length h16
    have h2 : L.body.length * 3696 ≤ 16 * 3696 := Nat.mul_le_mul_right _ h16
    show (frD L t L.body.length).length ≤ 60000
    omega
  have HOK : Hid (∀ e ∈ edgesD L t, edOk L.body.length e) := fun e he => by
    obtain ⟨fr, to, bk, wt, h0, h1, h2, h3, h4, h5⟩ := edges_ok hm e he
    exact ⟨fr, to, bk, wt, h0, h1, h2, h5, h4⟩
  have HIN : Hid (∀ e ∈ edgesD L t, e.fr.toNat < L.body.length ∧ e.to.toNat < L.body.length) := fun e he => by
    obtain ⟨fr, to, bk, wt, rfl, h1, h2, -⟩ := edges_ok hm e he
    exact ⟨by show ((fr : Int)).toNat < _; rw [Int.toNat_natCast]; exact h1, by show ((to : Int)).toNat < _; rw [Int.toNat_natCast]; exact h2⟩
  have HLAST := hide (fun q h1 h2 h3 => rounds_last (L := L) (t := t) (q := q) hm h1 h2 h3)
  have H96 := hide (fun q h => rounds_96 (L := L) (t := t) hm (q := q) h)
  have HEV := hide hE
  clear hE hm
  generalize edgesD L t = es at *
  go_enter Try.func85, Try.ntmps85
  go_wp2_with fail
  go_loopw [5] (fun pv wr => ∃ q : Nat, pv = .int .i64 q ∧ 1 ≤ q ∧ (∀ q' : Nat, 1 ≤ q' → q' < q → roundsD L.body.length es q' = false) ∧ Below w.heap.size w wr) (fun pv _ => 100 - (intOf pv).toNat)
  case atStart => exact ⟨1, rfl, Nat.le_refl _, fun q' h1 h2 => absurd h2 (by omega), Below.refl _ _⟩
  case round =>
    obtain ⟨q, rfl, hq1, hno, hbel⟩ := hrel
    have hq96 := H96.out q hno
    have HNO := hide hno
    have HBL := hide hbel
    obtain ⟨rb, hrb⟩ : ∃ b, roundsD L.body.length es (q : Int) = b := ⟨_, rfl⟩
    have HRO : Hid (Calls Try.prog 108 #[.slice ea es.length ec, .int .i64 L.body.length, .int .i64 q] wr fun e w' => e = .returned (.bool rb) ∧ Below wr.heap.size wr w') := by
      show Calls _ _ _ _ _
      rw [← hrb, ← settled_rounds h1 HIN.out]
      exact settles_any L.body.length q ea ec es wr (HEV.out.below hbel) HOK.out h16 (by omega) (by omega) hlen
    have HRB := hide hrb
    clear hno hbel hrb
    cases rb with
    | true =>
      have HE := hide (HLAST.out q hq1 HRB.out HNO.out)
      go_wp2_with fail
      refine HRO.out.mono ?_
      rintro e x2 ⟨rfl, hb2⟩
      have HX2 := hide (HBL.out.trans (hb2.mono HBL.out.size))
      clear hb2
      go_wp2_with fail
      go_ret
      exact ⟨ret_int (by rw [HE.out]), HX2.out⟩
    | false =>
      go_wp2_with fail
      refine HRO.out.mono ?_
      rintro e x2 ⟨rfl, hb2⟩
      have HX2 := hide (HBL.out.trans (hb2.mono HBL.out.size))
      clear hb2
      go_wp2_with fail
      go_roundw
      case rel =>
        refine ⟨q + 1, by go_num, by omega, fun q' h1 h2 => ?_, HX2.out⟩
        by_cases e : q' = q
        · rw [e]; exact HRB.out
        · exact HNO.out q' h1 (by omega)
      case measure => simp [intOf]; omega

set_option maxHeartbeats 1000000 in
theorem bound_no (hE : EdgesC) (p0 p1 p2 q0 q1 q2 r : Int) (L : Lp) (a0 a1 a2 : Option Addr) (cap0 cap1 cap2 : Nat) (w : World) (hL : LoopV w (.agg #[.slice a0 L.logs.length cap0, .slice a1 L.body.length cap1, .slice a2 L.outs.length cap2]) L) (hm : (mayB L && mayT ⟨p0, p1, p2, q0, q1, q2, r⟩) = false) :
    Calls Try.prog 46 #[.agg #[.slice a0 L.logs.length cap0, .slice a1 L.body.length cap1, .slice a2 L.outs.length cap2], .agg #[.int .i64 p0, .int .i64 p1, .int .i64 p2, .int .i64 q0, .int .i64 q1, .int .i64 q2, .int .i64 r]] w fun e w' => e = .returned (.tuple #[.int .i64 0, .int .i64 0, .int .i64 2]) ∧ Below w.heap.size w w' := by
  have HM := hide (fun W (h : LoopV W (.agg #[.slice a0 L.logs.length cap0, .slice a1 L.body.length cap1, .slice a2 L.outs.length cap2]) L) => edgesC_no hE (.agg #[.slice a0 L.logs.length cap0, .slice a1 L.body.length cap1, .slice a2 L.outs.length cap2]) ⟨p0, p1, p2, q0, q1, q2, r⟩ L W h hm)
  have HS : Hid (((w.alloc (.cells #[.slice a0 L.logs.length cap0, .slice a1 L.body.length cap1, .slice a2 L.outs.length cap2] 30)).alloc (.cells #[.int .i64 p0, .int .i64 p1, .int .i64 p2, .int .i64 q0, .int .i64 q1, .int .i64 q2, .int .i64 r] 49)).heap.size = w.heap.size + 1 + 1) := by show _ = _; simp
  clear hm
  go_enter Try.func46, Try.ntmps46
  go_wp2_with fail
  refine (HM.out _ (hL.below (below_alloc2 _ _ _))).mono ?_
  rintro e x1 ⟨ea, ec, rfl, hb⟩
  have HB1 : Hid (Below (w.heap.size + 1 + 1) ((w.alloc (.cells #[.slice a0 L.logs.length cap0, .slice a1 L.body.length cap1, .slice a2 L.outs.length cap2] 30)).alloc (.cells #[.int .i64 p0, .int .i64 p1, .int .i64 p2, .int .i64 q0, .int .i64 q1, .int .i64 q2, .int .i64 r] 49)) x1) := by show Below _ _ _; rw [← HS.out]; exact hb
  obtain ⟨-, -, -, -, hbw⟩ := ebox_cells HB1.out
  have HW1 := hide hbw
  clear hb hbw
  go_wp2_with fail
  exact bodyPost_ret (v := .tuple #[.int .i64 0, .int .i64 0, .int .i64 2]) (by simp [results, Try.results46, go_sem]) rfl ⟨rfl, HW1.out⟩
set_option maxHeartbeats 4000000 in
set_option maxRecDepth 100000 in
theorem bound_yes (hE : EdgesC) (p0 p1 p2 q0 q1 q2 r : Int) (L : Lp) (a0 a2 : Option Addr) (cap0 b off cap1 cap2 : Nat) (w : World) (hL : LoopV w (.agg #[.slice a0 L.logs.length cap0, .slice (some ⟨b, off, none⟩) L.body.length cap1, .slice a2 L.outs.length cap2]) L) (hm : mayB L = true) (ht : mayT ⟨p0, p1, p2, q0, q1, q2, r⟩ = true) (hl1 : L.body.length ≤ cap1) (hm1 : cap1 ≤ 9223372036854775807) (hb : b < w.heap.size)
    (hbody : ∀ i, i < L.body.length → ∀ j, j < 9 → w.cell? ⟨b, off + i * 9 + j, none⟩ = (stCells (stAt L.body i))[j]?) :
    Calls Try.prog 46 #[.agg #[.slice a0 L.logs.length cap0, .slice (some ⟨b, off, none⟩) L.body.length cap1, .slice a2 L.outs.length cap2], .agg #[.int .i64 p0, .int .i64 p1, .int .i64 p2, .int .i64 q0, .int .i64 q1, .int .i64 q2, .int .i64 r]] w fun e w' => e = .returned (.tuple #[.int .i64 (unitsB L ⟨p0, p1, p2, q0, q1, q2, r⟩), .int .i64 (roundsB L ⟨p0, p1, p2, q0, q1, q2, r⟩), .int .i64 0]) ∧ Below w.heap.size w w' := by
  have h16 := (may_parts hm).2.2.1
  have HM := hide (fun W (h : LoopV W (.agg #[.slice a0 L.logs.length cap0, .slice (some ⟨b, off, none⟩) L.body.length cap1, .slice a2 L.outs.length cap2]) L) => edgesC_yes hE (.agg #[.slice a0 L.logs.length cap0, .slice (some ⟨b, off, none⟩) L.body.length cap1, .slice a2 L.outs.length cap2]) ⟨p0, p1, p2, q0, q1, q2, r⟩ L W h (by rw [hm, ht]; rfl))
  have HUN := hide (fun W (hW : Below w.heap.size w W) => unitsPace_walk p0 p1 p2 q0 q1 q2 r L (.slice a0 L.logs.length cap0) (.slice a2 L.outs.length cap2) b off cap1 W hl1 hm1 (by have := hW.size; omega) (fun i hi j hj => by rw [bcell hW _ _ hb]; exact hbody i hi j hj) h16 ht)
  have HRO := hide (fun ea ec W h => roundsPace_any ⟨p0, p1, p2, q0, q1, q2, r⟩ L ea ec W h hm)
  have HS : Hid (((w.alloc (.cells #[.slice a0 L.logs.length cap0, .slice (some ⟨b, off, none⟩) L.body.length cap1, .slice a2 L.outs.length cap2] 30)).alloc (.cells #[.int .i64 p0, .int .i64 p1, .int .i64 p2, .int .i64 q0, .int .i64 q1, .int .i64 q2, .int .i64 r] 49)).heap.size = w.heap.size + 1 + 1) := by show _ = _; simp
  clear hm ht hbody
  generalize unitsB L ⟨p0, p1, p2, q0, q1, q2, r⟩ = ub at *
  generalize roundsB L ⟨p0, p1, p2, q0, q1, q2, r⟩ = rb at *
  go_enter Try.func46, Try.ntmps46
  go_wp2_with fail
  refine (HM.out _ (hL.below (below_alloc2 _ _ _))).mono ?_
  rintro e x2 ⟨ea, en, ec, rfl, hev, hb1⟩
  have HB2 : Hid (Below (w.heap.size + 1 + 1) ((w.alloc (.cells #[.slice a0 L.logs.length cap0, .slice (some ⟨b, off, none⟩) L.body.length cap1, .slice a2 L.outs.length cap2] 30)).alloc (.cells #[.int .i64 p0, .int .i64 p1, .int .i64 p2, .int .i64 q0, .int .i64 q1, .int .i64 q2, .int .i64 r] 49)) x2) := by show Below _ _ _; rw [← HS.out]; exact hb1
  obtain ⟨-, -, -, -, hbw⟩ := ebox_cells HB2.out
  have HW2 := hide hbw
  obtain ⟨ea2, ec2, hen, -⟩ := id hev
  injection hen with hen1 hen2 hen3
  subst hen1; subst hen2; subst hen3
  have HEV := hide hev
  clear hb1 hbw hev
  generalize edgesD L ⟨p0, p1, p2, q0, q1, q2, r⟩ = es at *
  have HSS : Hid (∀ w' : World, Below (w.heap.size + 1 + 1) ((w.alloc (.cells #[.slice a0 L.logs.length cap0, .slice (some ⟨b, off, none⟩) L.body.length cap1, .slice a2 L.outs.length cap2] 30)).alloc (.cells #[.int .i64 p0, .int .i64 p1, .int .i64 p2, .int .i64 q0, .int .i64 q1, .int .i64 q2, .int .i64 r] 49)) w' → (w'.cell? ⟨w.heap.size, 0, none⟩ = some (.slice a0 L.logs.length cap0) ∧ w'.cell? ⟨w.heap.size, 1, none⟩ = some (.slice (some ⟨b, off, none⟩) L.body.length cap1) ∧ w'.cell? ⟨w.heap.size, 2, none⟩ = some (.slice a2 L.outs.length cap2)) ∧ (w'.cell? ⟨w.heap.size + 1, 0, none⟩ = some (.int .i64 p0) ∧ w'.cell? ⟨w.heap.size + 1, 1, none⟩ = some (.int .i64 p1) ∧ w'.cell? ⟨w.heap.size + 1, 2, none⟩ = some (.int .i64 p2) ∧ w'.cell? ⟨w.heap.size + 1, 3, none⟩ = some (.int .i64 q0) ∧ w'.cell? ⟨w.heap.size + 1, 4, none⟩ = some (.int .i64 q1) ∧ w'.cell? ⟨w.heap.size + 1, 5, none⟩ = some (.int .i64 q2) ∧ w'.cell? ⟨w.heap.size + 1, 6, none⟩ = some (.int .i64 r))) := by
    intro w' h
    obtain ⟨h1, h2, -⟩ := ebox_cells h
    exact ⟨h1, h2⟩
  have hz2 : w.heap.size + 1 + 1 ≤ x2.heap.size := by have := HB2.out.size; rw [HS.out] at this; exact this
  go_wp2_with fail
  refine wp_region_noPanic ?_
  refine region_until 99 (fun w' => (w'.cell? ⟨w.heap.size, 0, none⟩ = some (.slice a0 L.logs.length cap0) ∧ w'.cell? ⟨w.heap.size, 1, none⟩ = some (.slice (some ⟨b, off, none⟩) L.body.length cap1) ∧ w'.cell? ⟨w.heap.size, 2, none⟩ = some (.slice a2 L.outs.length cap2)) ∧ (w'.cell? ⟨w.heap.size + 1, 0, none⟩ = some (.int .i64 p0) ∧ w'.cell? ⟨w.heap.size + 1, 1, none⟩ = some (.int .i64 p1) ∧ w'.cell? ⟨w.heap.size + 1, 2, none⟩ = some (.int .i64 p2) ∧ w'.cell? ⟨w.heap.size + 1, 3, none⟩ = some (.int .i64 q0) ∧ w'.cell? ⟨w.heap.size + 1, 4, none⟩ = some (.int .i64 q1) ∧ w'.cell? ⟨w.heap.size + 1, 5, none⟩ = some (.int .i64 q2) ∧ w'.cell? ⟨w.heap.size + 1, 6, none⟩ = some (.int .i64 r))) (by kernel_rfl) (HSS.out _ (HB2.out.trans (below_drew1 _ _))) (fun hHeld => ?_)
  refine until_take (i := 0) (v := ?_) rfl (by kernel_rfl) (by kernel_rfl) (by kernel_rfl) (by kernel_rfl) (fun _ _ _ h => h) (Or.inl ⟨by rfl, ?_⟩) hHeld ?_
  rotate_left
  · intro w hSw
    try dsimp only at hSw
    go_simp
    try with_reducible rfl
  try simp only [Act.put, List.setIfInBounds_toArray, List.set_cons_zero, List.set_cons_succ]
  refine until_take (i := 1) (v := ?_) rfl (by kernel_rfl) (by kernel_rfl) (by kernel_rfl) (by kernel_rfl) (fun _ _ _ h => h) (Or.inl ⟨by rfl, ?_⟩) hHeld ?_
  rotate_left
  · intro w hSw
    try dsimp only at hSw
    go_simp
    try with_reducible rfl
  try simp only [Act.put, List.setIfInBounds_toArray, List.set_cons_zero, List.set_cons_succ]
  refine until_take (i := 3) (v := ?_) rfl (by kernel_rfl) (by kernel_rfl) (by kernel_rfl) (by kernel_rfl) (fun _ _ _ h => h) (Or.inl ⟨by rfl, ?_⟩) hHeld ?_
  rotate_left
  · intro w hSw
    try dsimp only at hSw
    go_simp
    try with_reducible rfl
  try simp only [Act.put, List.setIfInBounds_toArray, List.set_cons_zero, List.set_cons_succ]
  refine until_take (i := 4) (v := ?_) rfl (by kernel_rfl) (by kernel_rfl) (by kernel_rfl) (by kernel_rfl) (fun _ _ _ h => h) (Or.inl ⟨by rfl, ?_⟩) hHeld ?_
  rotate_left
  · intro w hSw
    try dsimp only at hSw
    go_simp
    try with_reducible rfl
  try simp only [Act.put, List.setIfInBounds_toArray, List.set_cons_zero, List.set_cons_succ]
  refine until_take (i := 5) (v := ?_) rfl (by kernel_rfl) (by kernel_rfl) (by kernel_rfl) (by kernel_rfl) (fun _ _ _ h => h) (Or.inl ⟨by rfl, ?_⟩) hHeld ?_
  rotate_left
  · intro w hSw
    try dsimp only at hSw
    go_simp
    try with_reducible rfl
  try simp only [Act.put, List.setIfInBounds_toArray, List.set_cons_zero, List.set_cons_succ]
  refine until_take (i := 6) (v := ?_) rfl (by kernel_rfl) (by kernel_rfl) (by kernel_rfl) (by kernel_rfl) (fun _ _ _ h => h) (Or.inl ⟨by rfl, ?_⟩) hHeld ?_
  rotate_left
  · intro w hSw
    try dsimp only at hSw
    go_simp
    try with_reducible rfl
  try simp only [Act.put, List.setIfInBounds_toArray, List.set_cons_zero, List.set_cons_succ]
  refine until_one (i := 2) rfl (by kernel_rfl) (fun K hK9 => ?_)
  go_simp
  refine (HUN.out _ (HW2.out.trans (below_drew1 _ _))).mono ?_
  rintro e x3 ⟨rfl, hb3⟩
  have hB3 := HB2.out.trans ((below_drew1 _ _).trans (hb3.mono (by simpa using hz2)))
  have HB3 := hide hB3
  have HW3 := hide (HW2.out.trans ((below_drew1 _ _).trans (hb3.mono (by simpa using HW2.out.size))))
  have hHeld := HSS.out _ hB3
  have HEV3 := hide (HEV.out.below ((below_drew1 _ _).trans hb3))
  clear hb3 hB3
  refine hK9.out _ _ (.inr hHeld) ?_
  clear hK9 K
  try simp only [Act.put, List.setIfInBounds_toArray, List.set_cons_zero, List.set_cons_succ]
  refine until_one (i := 7) rfl (by kernel_rfl) (fun K hK9 => ?_)
  go_simp
  refine (HRO.out _ _ _ HEV3.out).mono ?_
  rintro e x4 ⟨rfl, hb4⟩
  have hz3 : w.heap.size + 1 + 1 ≤ x3.heap.size := by have := HB3.out.size; rw [HS.out] at this; exact this
  have hB4 := HB3.out.trans (hb4.mono hz3)
  have HW4 := hide (HW3.out.trans (hb4.mono HW3.out.size))
  have hHeld := HSS.out _ hB4
  clear hb4 hB4
  refine hK9.out _ _ (.inr hHeld) ?_
  clear hK9 K
  try simp only [Act.put, List.setIfInBounds_toArray, List.set_cons_zero, List.set_cons_succ]
  refine until_take (i := 8) (v := ?_) rfl (by kernel_rfl) (by kernel_rfl) (by kernel_rfl) (by kernel_rfl) (fun _ _ _ h => h) (Or.inl ⟨by rfl, ?_⟩) hHeld ?_
  rotate_left
  · intro w hSw
    try dsimp only at hSw
    go_simp
    try with_reducible rfl
  try simp only [Act.put, List.setIfInBounds_toArray, List.set_cons_zero, List.set_cons_succ]
  refine until_take (i := 9) (v := ?_) rfl (by kernel_rfl) (by kernel_rfl) (by kernel_rfl) (by kernel_rfl) (fun _ _ _ h => h) (Or.inl ⟨by rfl, ?_⟩) hHeld ?_
  rotate_left
  · intro w hSw
    try dsimp only at hSw
    go_simp
    try with_reducible rfl
  try simp only [Act.put, List.setIfInBounds_toArray, List.set_cons_zero, List.set_cons_succ]
  refine until_take (i := 10) (v := ?_) rfl (by kernel_rfl) (by kernel_rfl) (by kernel_rfl) (by kernel_rfl) (fun _ _ _ h => h) (Or.inl ⟨by rfl, ?_⟩) hHeld ?_
  rotate_left
  · intro w hSw
    try dsimp only at hSw
    go_simp
    try with_reducible rfl
  try simp only [Act.put, List.setIfInBounds_toArray, List.set_cons_zero, List.set_cons_succ]
  refine until_done (by kernel_rfl) ?_ _
  refine NoPanic.normal ?_
  clear hHeld
  go_wp2_with fail
  exact bodyPost_ret (v := .tuple #[.int .i64 ub, .int .i64 rb, .int .i64 0]) (by simp [results, Try.results46, go_sem]) rfl ⟨rfl, HW4.out⟩
theorem bound_all_of (hE : EdgesC) : BoundC := by
  intro v t L w hL
  obtain ⟨p0, p1, p2, q0, q1, q2, r⟩ := t
  have hL' := hL
  obtain ⟨v0, v1, v2, rfl, ⟨a0, cap0, rfl, -⟩, ⟨a1, cap1, rfl, h1, h2, h3⟩, ⟨a2, cap2, rfl, -, -, -, -⟩⟩ := hL'
  unfold maxLen at h2
  cases hm : (mayB L && mayT ⟨p0, p1, p2, q0, q1, q2, r⟩) with
  | false =>
    refine (bound_no hE p0 p1 p2 q0 q1 q2 r L a0 a1 a2 cap0 cap1 cap2 w hL hm).mono fun e w' ⟨he, hb⟩ => ⟨?_, hb⟩
    rw [if_neg Bool.false_ne_true]; exact he
  | true =>
    have hm2 : mayB L = true ∧ mayT ⟨p0, p1, p2, q0, q1, q2, r⟩ = true := by simpa using hm
    obtain ⟨b, off, rfl, hb, hcell⟩ := h3 (by have := (may_parts hm2.1).2.1; omega)
    refine (bound_yes hE p0 p1 p2 q0 q1 q2 r L a0 a2 cap0 b off cap1 cap2 w hL hm2.1 hm2.2 h1 (by omega) hb hcell).mono fun e w' ⟨he, hb⟩ => ⟨?_, hb⟩
    rw [if_pos rfl]; exact he
end Go.Proofs.Ytpljieenjkbmmaa
