/- DepForward's walk: for every loop and machine in memory the law returns true, if the program's Edges answers as EdgesC says; nothing that was there is changed. -/
import Derived.Test.YtflpfihjjjhlfaaDepTells
import Derived.Test.YtflpfihjjjhlfaaDepOrder
import Derived.Deep.QuietTactic
import Derived.BigQuiet
namespace Go.Proofs.Ytflpfihjjjhlfaa
open Go.RowKit Go.Joins
set_option linter.unusedVariables false

/-- the law's own loop and machine -/
def twoL : Lp := ⟨[], [⟨2, 0, 0, 0, 0, 0, 0, 0, 0⟩, ⟨11, 0, 0, 0, 0, 0, 0, 0, 0⟩], []⟩
def oneM : Tg := ⟨1, 1, 1, 1, 1, 1, 1⟩
def wf (W : World) (g : Nat) : World := ((W.alloc (.cells #[.int .i64 2, .int .i64 0, .int .i64 0, .int .i64 0, .int .i64 0, .int .i64 0, .int .i64 0, .int .i64 0, .int .i64 0, .int .i64 11, .int .i64 0, .int .i64 0, .int .i64 0, .int .i64 0, .int .i64 0, .int .i64 0, .int .i64 0, .int .i64 0] 79)).alloc (.cells #[.slice none 0 0, .slice (some ⟨g, 0, none⟩) 2 2, .slice none 0 0] 30)).alloc (.cells #[.int .i64 1, .int .i64 1, .int .i64 1, .int .i64 1, .int .i64 1, .int .i64 1, .int .i64 1] 49)
theorem wf_size (W : World) (g : Nat) : (wf W g).heap.size = W.heap.size + 3 := by unfold wf; simp
theorem wf_below (W : World) (g : Nat) : Below W.heap.size W (wf W g) := below_alloc3 _ _ _ _
theorem ints_none (W : World) : Ints W (.slice none 0 0) [] := ⟨none, 0, rfl, Nat.le_refl _, Nat.zero_le _, fun i hi => absurd hi (Nat.not_lt_zero _), fun hp => absurd hp (Nat.lt_irrefl _)⟩
theorem wf_loop (W : World) (g : Nat) (hg : g = W.heap.size) : LoopV (wf W g) (.agg #[.slice none 0 0, .slice (some ⟨g, 0, none⟩) 2 2, .slice none 0 0]) twoL := by
  refine ⟨_, _, _, rfl, ints_none _, ⟨some ⟨g, 0, none⟩, 2, rfl, Nat.le_refl _, by unfold maxLen; omega, fun _ => ⟨g, 0, rfl, by rw [wf_size]; omega, fun i hi j hj => ?_⟩⟩, ints_none _⟩
  have hb : (wf W g).heap[g]? = some (.cells #[.int .i64 2, .int .i64 0, .int .i64 0, .int .i64 0, .int .i64 0, .int .i64 0, .int .i64 0, .int .i64 0, .int .i64 0, .int .i64 11, .int .i64 0, .int .i64 0, .int .i64 0, .int .i64 0, .int .i64 0, .int .i64 0, .int .i64 0, .int .i64 0] 79 (0, 0)) := by
    unfold wf
    rw [hg, Below.heap_alloc _ _ _ (by simp; omega), Below.heap_alloc _ _ _ (by simp)]
    show (W.heap.push _)[W.heap.size]? = _
    simp
  rw [cell_of_block hb]
  have hi2 : i = 0 ∨ i = 1 := by have : i < 2 := hi; omega
  have hj9 : j = 0 ∨ j = 1 ∨ j = 2 ∨ j = 3 ∨ j = 4 ∨ j = 5 ∨ j = 6 ∨ j = 7 ∨ j = 8 := by omega
  rcases hi2 with rfl | rfl <;> rcases hj9 with rfl | rfl | rfl | rfl | rfl | rfl | rfl | rfl | rfl <;> rfl
theorem two_may : (mayB twoL && mayT oneM) = true := by decide
theorem two_one : (edgesD twoL oneM).length = 1 := by decide +kernel
theorem edgesC_two (hE : EdgesC) (W : World) (g : Nat) (hg : g = W.heap.size) :
    Calls Try.prog 40 #[.agg #[.slice none 0 0, .slice (some ⟨g, 0, none⟩) 2 2, .slice none 0 0], .agg #[.int .i64 1, .int .i64 1, .int .i64 1, .int .i64 1, .int .i64 1, .int .i64 1, .int .i64 1]] (wf W g) fun e w' => ∃ a c, e = .returned (.tuple #[.slice a 1 c, .int .i64 0]) ∧ Below (wf W g).heap.size (wf W g) w' :=
  (edgesC_yes hE _ oneM twoL (wf W g) (wf_loop W g hg) two_may).mono fun e w' ⟨a, n, c, h1, ⟨a', c', hv, _⟩, h3⟩ => by
    injection hv with e1 e2 e3
    rw [two_one] at e2
    subst e2
    exact ⟨a, c, h1, h3⟩
theorem edAt_in {l : List Ed} {i : Nat} (h : i < l.length) : edAt l i ∈ l := by
  unfold edAt
  rw [List.getD, List.getElem?_eq_getElem h]
  exact List.getElem_mem _
theorem edAt_get {l : List Ed} {i : Nat} (h : i < l.length) : edAt l i = l[i] := by
  unfold edAt
  rw [List.getD, List.getElem?_eq_getElem h]; rfl
theorem edAt_rise {L : Lp} {t : Tg} {j : Nat} (h : j + 1 < (edgesD L t).length) : ltE (edAt (edgesD L t) j) (edAt (edgesD L t) (j + 1)) := by
  have h1 := List.pairwise_iff_getElem.1 (frD_rise (L := L) (t := t) L.body.length) j (j + 1) (by show j < (edgesD L t).length; omega) h (by omega)
  rw [edAt_get (show j < (edgesD L t).length by omega), edAt_get h]
  exact h1

set_option maxHeartbeats 20000000 in
set_option maxRecDepth 100000 in
theorem depForward_walk (hE : EdgesC) (p0 p1 p2 q0 q1 q2 r : Int) (L : Lp) (a0 a1 a2 : Option Addr) (cap0 cap1 cap2 : Nat) (w : World) (hL : LoopV w (.agg #[.slice a0 L.logs.length cap0, .slice a1 L.body.length cap1, .slice a2 L.outs.length cap2]) L) :
    Calls Try.prog 12 #[(.agg #[.slice a0 L.logs.length cap0, .slice a1 L.body.length cap1, .slice a2 L.outs.length cap2]), .agg #[.int .i64 p0, .int .i64 p1, .int .i64 p2, .int .i64 q0, .int .i64 q1, .int .i64 q2, .int .i64 r]] w fun e w' => e = .returned (.bool true) ∧ Below w.heap.size w w' := by
  have hs : ((w.alloc (.cells #[.slice a0 L.logs.length cap0, .slice a1 L.body.length cap1, .slice a2 L.outs.length cap2] 30)).alloc (.cells #[.int .i64 p0, .int .i64 p1, .int .i64 p2, .int .i64 q0, .int .i64 q1, .int .i64 q2, .int .i64 r] 49)).heap.size = w.heap.size + 1 + 1 := by simp
  have HS := hide hs
  have HTW := hide (edgesC_two hE ((w.alloc (.cells #[.slice a0 L.logs.length cap0, .slice a1 L.body.length cap1, .slice a2 L.outs.length cap2] 30)).alloc (.cells #[.int .i64 p0, .int .i64 p1, .int .i64 p2, .int .i64 q0, .int .i64 q1, .int .i64 q2, .int .i64 r] 49)) (w.heap.size + 1 + 1) hs.symm)
  obtain ⟨mb, hmb⟩ : ∃ mb, (mayB L && mayT ⟨p0, p1, p2, q0, q1, q2, r⟩) = mb := ⟨_, rfl⟩
  have HMB := hide hmb
  clear hs hmb
  go_enter Try.func12, Try.ntmps12
  go_wp2_with fail
  refine HTW.out.mono ?_
  rintro e x1 ⟨ea1, ec1, rfl, hb⟩
  have HB1 : Hid (Below (w.heap.size + 1 + 1) ((w.alloc (.cells #[.slice a0 L.logs.length cap0, .slice a1 L.body.length cap1, .slice a2 L.outs.length cap2] 30)).alloc (.cells #[.int .i64 p0, .int .i64 p1, .int .i64 p2, .int .i64 q0, .int .i64 q1, .int .i64 q2, .int .i64 r] 49)) x1) := by
    show Below _ _ _
    have h1 := wf_below ((w.alloc (.cells #[.slice a0 L.logs.length cap0, .slice a1 L.body.length cap1, .slice a2 L.outs.length cap2] 30)).alloc (.cells #[.int .i64 p0, .int .i64 p1, .int .i64 p2, .int .i64 q0, .int .i64 q1, .int .i64 q2, .int .i64 r] 49)) (w.heap.size + 1 + 1)
    rw [HS.out] at h1
    exact h1.trans (hb.mono (by rw [wf_size, HS.out]; omega))
  obtain ⟨⟨l0, l1, l2⟩, ⟨t0, t1, t2, t3, t4, t5, t6⟩, z0, z1, hbw⟩ := ebox_cells HB1.out
  have HW1 := hide hbw
  clear hb hbw HTW
  go_wp2_with fail
  cases mb with
  | false =>
    refine (edgesC_no hE (.agg #[.slice a0 L.logs.length cap0, .slice a1 L.body.length cap1, .slice a2 L.outs.length cap2]) ⟨p0, p1, p2, q0, q1, q2, r⟩ L _ (hL.below HW1.out) HMB.out).mono ?_
    rintro e x2 ⟨ea, ec, rfl, hb⟩
    have HW2 := hide (HW1.out.trans (hb.mono HW1.out.size))
    clear hb
    clear l0 l1 l2 t0 t1 t2 t3 t4 t5 t6 z0 z1
    go_wp2_with fail
    go_ret
    exact ⟨by simp, HW2.out⟩
  | true =>
    have HMM : Hid (mayB L = true) := by
      have h := HMB.out
      rw [Bool.and_eq_true] at h
      exact h.1
    have hn1 : 1 ≤ L.body.length := (may_parts HMM.out).2.1
    have hn2 : L.body.length ≤ 16 := (may_parts HMM.out).2.2.1
    refine (edgesC_yes hE (.agg #[.slice a0 L.logs.length cap0, .slice a1 L.body.length cap1, .slice a2 L.outs.length cap2]) ⟨p0, p1, p2, q0, q1, q2, r⟩ L _ (hL.below HW1.out) HMB.out).mono ?_
    rintro e x2 ⟨ea, en, ec, rfl, hev, hb⟩
    have HB2 := hide (HB1.out.trans (hb.mono (by have := HB1.out.size; rw [HS.out] at this; omega)))
    clear l0 l1 l2 t0 t1 t2 t3 t4 t5 t6 z0 z1
    obtain ⟨⟨l0, l1, l2⟩, ⟨t0, t1, t2, t3, t4, t5, t6⟩, z0, z1, hbw⟩ := ebox_cells HB2.out
    have HW2 := hide hbw
    obtain ⟨ea', ec', hv, hl1, hl2, hcl⟩ := hev
    injection hv with v1 v2 v3
    subst v1
    subst v2
    subst v3
    have HLK : Hid (∀ e ∈ edgesD L ⟨p0, p1, p2, q0, q1, q2, r⟩, ∃ fr to bk wt : Nat, e = ⟨fr, to, bk, wt⟩ ∧ fr < L.body.length ∧ to < L.body.length ∧ (bk = 0 → fr < to)) := fun e he => edge_like HMM.out he
    have HRI : Hid (∀ j, j + 1 < (edgesD L ⟨p0, p1, p2, q0, q1, q2, r⟩).length → ltE (edAt (edgesD L ⟨p0, p1, p2, q0, q1, q2, r⟩) j) (edAt (edgesD L ⟨p0, p1, p2, q0, q1, q2, r⟩) (j + 1))) := fun j hj => edAt_rise hj
    generalize edgesD L ⟨p0, p1, p2, q0, q1, q2, r⟩ = l at *
    unfold maxLen at hl2
    have HCL := hide hcl
    clear hb hbw hcl
    go_wp2_with fail
    clear l0 l1 l2 t0 t1 t2 t3 t4 t5 t6 z0 z1
    go_loopw [12] (fun iv wr => ∃ k : Nat, k ≤ l.length ∧ iv = .int .i64 k ∧ Below x2.heap.size x2 wr) (fun iv _ => l.length - (intOf iv).toNat)
    case atStart => exact ⟨0, Nat.zero_le _, rfl, Below.refl _ _⟩
    case round =>
      obtain ⟨k, hk, rfl, hbe⟩ := hrel
      have HBE := hide hbe
      clear hbe
      by_cases hlt : k < l.length
      · have hki : (k : Int) < (l.length : Int) := by omega
        obtain ⟨eb, eo, rfl, hbz0, hec⟩ := HCL.out (by omega)
        have HEC := hide hec
        obtain ⟨c0, c1, c2, c3⟩ := fourE (hec k hlt)
        obtain ⟨f, t, b, x, he, hf, ht, hfw⟩ := HLK.out _ (edAt_in hlt)
        rw [he] at c0 c1 c2 c3
        dsimp only at c0 c1 c2 c3
        rw [← bcell HBE.out _ _ hbz0] at c0 c1 c2 c3
        have hbz : eb < wr.heap.size := by have := HBE.out.size; omega
        have HCU := hide he
        have g1 : decide ((f : Int) < 0) = false := decide_eq_false (by omega)
        have g2 : decide ((t : Int) < 0) = false := decide_eq_false (by omega)
        have g3 : decide ((L.body.length : Int) ≤ (f : Int)) = false := decide_eq_false (by omega)
        have g4 : decide ((L.body.length : Int) ≤ (t : Int)) = false := decide_eq_false (by omega)
        have g5 : decide ((b : Int) < 0) = false := decide_eq_false (by omega)
        have g6 : decide ((x : Int) < 0) = false := decide_eq_false (by omega)
        have n3 : ¬ L.body.length ≤ f := by omega
        have n4 : ¬ L.body.length ≤ t := by omega
        clear he hec
        by_cases hb0 : b = 0
        · have g7 : ((b : Int) == 0) = true := by simpa using hb0
          have g8 : decide ((t : Int) ≤ (f : Int)) = false := decide_eq_false (by have := hfw hb0; omega)
          have n8 : ¬ t ≤ f := by have := hfw hb0; omega
          have HB0 := hide hb0
          clear hb0 hfw
          by_cases hk0 : k = 0
          · have hkd : decide ((0 : Int) < (k : Int)) = false := decide_eq_false (by omega)
            have hkn : decide (0 < k) = false := decide_eq_false (by omega)
            clear hk0
            go_wp2_with fail
            go_big_quiet ((fail))
            go_wp2_with fail
            go_roundw
            case rel => exact ⟨k + 1, by omega, by go_num, HBE.out.trans (((below_alloc1 _ _).mono HBE.out.size).trans (below_draws _ _ _))⟩
            case measure => simp [intOf]; omega
          · have hkd : decide ((0 : Int) < (k : Int)) = true := decide_eq_true (by omega)
            have hkn : decide (0 < k) = true := decide_eq_true (by omega)
            obtain ⟨j, hj⟩ : ∃ j, k = j + 1 := ⟨k - 1, by omega⟩
            have hjl : j < l.length := by omega
            obtain ⟨f', t', b', x', he', -, -, -⟩ := HLK.out _ (edAt_in hjl)
            obtain ⟨d0, d1, d2, d3⟩ := fourE (HEC.out j hjl)
            have hri := HRI.out j (by omega)
            rw [he'] at d0 d1 d2 d3 hri
            rw [← hj, HCU.out] at hri
            dsimp only at d0 d1 d2 d3
            rw [← bcell HBE.out _ _ hbz0] at d0 d1 d2 d3
            have hkm : (k : Int) - 1 = (j : Int) := by omega
            have hji : (j : Int) < (l.length : Int) := by omega
            have HJ := hide hj
            unfold ltE at hri
            dsimp only at hri
            clear hj he'
            rcases hri with r1 | ⟨r1, r2 | ⟨r2, r3 | ⟨r3, r4⟩⟩⟩
            · have q1 : decide ((f : Int) < (f' : Int)) = false := decide_eq_false (by omega)
              have q2 : ((f' : Int) == (f : Int)) = false := by simpa using (show (f' : Int) ≠ (f : Int) by omega)
              have n9 : decide (f < f') = false := decide_eq_false (by omega)
              have n11 : decide (f' = f) = false := decide_eq_false (by omega)
              have n10 : ¬ f' = f := by omega
              clear r1
              go_wp2_with fail
              go_big_quiet ((fail))
              go_wp2_with fail
              go_roundw
              case rel => exact ⟨k + 1, by omega, by go_num, HBE.out.trans (((below_alloc1 _ _).mono HBE.out.size).trans (below_draws _ _ _))⟩
              case measure => simp [intOf]; omega
            · obtain rfl : f' = f := by omega
              have q1 : decide ((f' : Int) < (f' : Int)) = false := decide_eq_false (by omega)
              have q3 : decide ((t : Int) < (t' : Int)) = false := decide_eq_false (by omega)
              have q4 : ((t' : Int) == (t : Int)) = false := by simpa using (show (t' : Int) ≠ (t : Int) by omega)
              have n9 : decide (t < t') = false := decide_eq_false (by omega)
              have n11 : decide (t' = t) = false := decide_eq_false (by omega)
              have n10 : ¬ t' = t := by omega
              clear r1 r2
              go_wp2_with fail
              go_big_quiet ((fail))
              go_wp2_with fail
              go_roundw
              case rel => exact ⟨k + 1, by omega, by go_num, HBE.out.trans (((below_alloc1 _ _).mono HBE.out.size).trans (below_draws _ _ _))⟩
              case measure => simp [intOf]; omega
            · obtain rfl : f' = f := by omega
              obtain rfl : t' = t := by omega
              have q1 : decide ((f' : Int) < (f' : Int)) = false := decide_eq_false (by omega)
              have q3 : decide ((t' : Int) < (t' : Int)) = false := decide_eq_false (by omega)
              have q4 : ((b' : Int) == (b : Int)) = false := by simpa using (show (b' : Int) ≠ (b : Int) by omega)
              have n10 : ¬ b' = b := by omega
              clear r1 r2 r3
              go_wp2_with fail
              go_big_quiet ((fail))
              go_wp2_with fail
              go_roundw
              case rel => exact ⟨k + 1, by omega, by go_num, HBE.out.trans (((below_alloc1 _ _).mono HBE.out.size).trans (below_draws _ _ _))⟩
              case measure => simp [intOf]; omega
            · obtain rfl : f' = f := by omega
              obtain rfl : t' = t := by omega
              obtain rfl : b' = b := by omega
              have q1 : decide ((f' : Int) < (f' : Int)) = false := decide_eq_false (by omega)
              have q3 : decide ((t' : Int) < (t' : Int)) = false := decide_eq_false (by omega)
              have q4 : ((x' : Int) == (x : Int)) = false := by simpa using (show (x' : Int) ≠ (x : Int) by omega)
              have n10 : ¬ x' = x := by omega
              clear r1 r2 r3 r4
              go_wp2_with fail
              go_big_quiet ((fail))
              go_wp2_with fail
              go_roundw
              case rel => exact ⟨k + 1, by omega, by go_num, HBE.out.trans (((below_alloc1 _ _).mono HBE.out.size).trans (below_draws _ _ _))⟩
              case measure => simp [intOf]; omega
        · have g7 : ((b : Int) == 0) = false := by simpa using (show (b : Int) ≠ 0 by omega)
          clear hb0 hfw
          by_cases hk0 : k = 0
          · have hkd : decide ((0 : Int) < (k : Int)) = false := decide_eq_false (by omega)
            have hkn : decide (0 < k) = false := decide_eq_false (by omega)
            clear hk0
            go_wp2_with fail
            go_big_quiet ((fail))
            go_wp2_with fail
            go_roundw
            case rel => exact ⟨k + 1, by omega, by go_num, HBE.out.trans (((below_alloc1 _ _).mono HBE.out.size).trans (below_draws _ _ _))⟩
            case measure => simp [intOf]; omega
          · have hkd : decide ((0 : Int) < (k : Int)) = true := decide_eq_true (by omega)
            have hkn : decide (0 < k) = true := decide_eq_true (by omega)
            obtain ⟨j, hj⟩ : ∃ j, k = j + 1 := ⟨k - 1, by omega⟩
            have hjl : j < l.length := by omega
            obtain ⟨f', t', b', x', he', -, -, -⟩ := HLK.out _ (edAt_in hjl)
            obtain ⟨d0, d1, d2, d3⟩ := fourE (HEC.out j hjl)
            have hri := HRI.out j (by omega)
            rw [he'] at d0 d1 d2 d3 hri
            rw [← hj, HCU.out] at hri
            dsimp only at d0 d1 d2 d3
            rw [← bcell HBE.out _ _ hbz0] at d0 d1 d2 d3
            have hkm : (k : Int) - 1 = (j : Int) := by omega
            have hji : (j : Int) < (l.length : Int) := by omega
            have HJ := hide hj
            unfold ltE at hri
            dsimp only at hri
            clear hj he'
            rcases hri with r1 | ⟨r1, r2 | ⟨r2, r3 | ⟨r3, r4⟩⟩⟩
            · have q1 : decide ((f : Int) < (f' : Int)) = false := decide_eq_false (by omega)
              have q2 : ((f' : Int) == (f : Int)) = false := by simpa using (show (f' : Int) ≠ (f : Int) by omega)
              have n9 : decide (f < f') = false := decide_eq_false (by omega)
              have n11 : decide (f' = f) = false := decide_eq_false (by omega)
              have n10 : ¬ f' = f := by omega
              clear r1
              go_wp2_with fail
              go_big_quiet ((fail))
              go_wp2_with fail
              go_roundw
              case rel => exact ⟨k + 1, by omega, by go_num, HBE.out.trans (((below_alloc1 _ _).mono HBE.out.size).trans (below_draws _ _ _))⟩
              case measure => simp [intOf]; omega
            · obtain rfl : f' = f := by omega
              have q1 : decide ((f' : Int) < (f' : Int)) = false := decide_eq_false (by omega)
              have q3 : decide ((t : Int) < (t' : Int)) = false := decide_eq_false (by omega)
              have q4 : ((t' : Int) == (t : Int)) = false := by simpa using (show (t' : Int) ≠ (t : Int) by omega)
              have n9 : decide (t < t') = false := decide_eq_false (by omega)
              have n11 : decide (t' = t) = false := decide_eq_false (by omega)
              have n10 : ¬ t' = t := by omega
              clear r1 r2
              go_wp2_with fail
              go_big_quiet ((fail))
              go_wp2_with fail
              go_roundw
              case rel => exact ⟨k + 1, by omega, by go_num, HBE.out.trans (((below_alloc1 _ _).mono HBE.out.size).trans (below_draws _ _ _))⟩
              case measure => simp [intOf]; omega
            · obtain rfl : f' = f := by omega
              obtain rfl : t' = t := by omega
              have q1 : decide ((f' : Int) < (f' : Int)) = false := decide_eq_false (by omega)
              have q3 : decide ((t' : Int) < (t' : Int)) = false := decide_eq_false (by omega)
              have q4 : ((b' : Int) == (b : Int)) = false := by simpa using (show (b' : Int) ≠ (b : Int) by omega)
              have n10 : ¬ b' = b := by omega
              clear r1 r2 r3
              go_wp2_with fail
              go_big_quiet ((fail))
              go_wp2_with fail
              go_roundw
              case rel => exact ⟨k + 1, by omega, by go_num, HBE.out.trans (((below_alloc1 _ _).mono HBE.out.size).trans (below_draws _ _ _))⟩
              case measure => simp [intOf]; omega
            · obtain rfl : f' = f := by omega
              obtain rfl : t' = t := by omega
              obtain rfl : b' = b := by omega
              have q1 : decide ((f' : Int) < (f' : Int)) = false := decide_eq_false (by omega)
              have q3 : decide ((t' : Int) < (t' : Int)) = false := decide_eq_false (by omega)
              have q4 : ((x' : Int) == (x : Int)) = false := by simpa using (show (x' : Int) ≠ (x : Int) by omega)
              have n10 : ¬ x' = x := by omega
              clear r1 r2 r3 r4
              go_wp2_with fail
              go_big_quiet ((fail))
              go_wp2_with fail
              go_roundw
              case rel => exact ⟨k + 1, by omega, by go_num, HBE.out.trans (((below_alloc1 _ _).mono HBE.out.size).trans (below_draws _ _ _))⟩
              case measure => simp [intOf]; omega
      · have hki : ¬ (k : Int) < (l.length : Int) := by omega
        have hnz : (0 : Int) < (L.body.length : Int) := by omega
        have HWr := hide (HW2.out.trans (HBE.out.mono HW2.out.size))
        go_wp2_with fail
        go_ret
        exact ⟨by simp; omega, HWr.out⟩
theorem depForward_any (hE : EdgesC) (v : Value) (t : Tg) (L : Lp) (w : World) (hL : LoopV w v L) :
    Calls Try.prog 12 #[v, .agg t.cells] w fun e w' => e = .returned (.bool true) ∧ Below w.heap.size w w' := by
  obtain ⟨p0, p1, p2, q0, q1, q2, r⟩ := t
  have hL' := hL
  obtain ⟨v0, v1, v2, rfl, ⟨a0, cap0, rfl, -⟩, ⟨a1, cap1, rfl, -⟩, ⟨a2, cap2, rfl, -⟩⟩ := hL'
  exact depForward_walk hE p0 p1 p2 q0 q1 q2 r L a0 a1 a2 cap0 cap1 cap2 w hL
end Go.Proofs.Ytflpfihjjjhlfaa
