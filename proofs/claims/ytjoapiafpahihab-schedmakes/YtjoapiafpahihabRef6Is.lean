/- The contract of the document's own answer on an edge: is there one? Nothing that was there is changed. -/
import Derived.Test.YtjoapiafpahihabRef6A
import Derived.Test.YtjoapiafpahihabBase
import Derived.Deep.RegionHeld3
import Derived.BigRegion
import Derived.Deep.QuietTactic
import Derived.BigQuiet
namespace Go.Proofs.Ytjoapiafpahihab
open Go.RowKit Go.Joins
set_option linter.unusedVariables false

/-- the world in which the loop, the machine and the edge are boxed -/
def bxd (w : World) (v0 v1 v2 : Value) (p0 p1 p2 q0 q1 q2 r fr to bk wt : Int) : World := ((w.alloc (.cells #[v0, v1, v2] 25)).alloc (.cells #[.int .i64 p0, .int .i64 p1, .int .i64 p2, .int .i64 q0, .int .i64 q1, .int .i64 q2, .int .i64 r] 28)).alloc (.cells #[.int .i64 fr, .int .i64 to, .int .i64 bk, .int .i64 wt] 68)
theorem bxd_size (w : World) (v0 v1 v2 : Value) (p0 p1 p2 q0 q1 q2 r fr to bk wt : Int) : (bxd w v0 v1 v2 p0 p1 p2 q0 q1 q2 r fr to bk wt).heap.size = w.heap.size + 1 + 1 + 1 := by unfold bxd; simp
theorem bxd_below (w : World) (v0 v1 v2 : Value) (p0 p1 p2 q0 q1 q2 r fr to bk wt : Int) : Below w.heap.size w (bxd w v0 v1 v2 p0 p1 p2 q0 q1 q2 r fr to bk wt) := below_alloc3 _ _ _ _
theorem bxd_cells {w wr : World} {v0 v1 v2 : Value} {p0 p1 p2 q0 q1 q2 r fr to bk wt : Int} (h : Below (bxd w v0 v1 v2 p0 p1 p2 q0 q1 q2 r fr to bk wt).heap.size (bxd w v0 v1 v2 p0 p1 p2 q0 q1 q2 r fr to bk wt) wr) :
    (wr.cell? ⟨w.heap.size, 0, none⟩ = some v0 ∧ wr.cell? ⟨w.heap.size, 1, none⟩ = some v1 ∧ wr.cell? ⟨w.heap.size, 2, none⟩ = some v2) ∧
    (wr.cell? ⟨w.heap.size + 1, 0, none⟩ = some (.int .i64 p0) ∧ wr.cell? ⟨w.heap.size + 1, 1, none⟩ = some (.int .i64 p1) ∧ wr.cell? ⟨w.heap.size + 1, 2, none⟩ = some (.int .i64 p2) ∧ wr.cell? ⟨w.heap.size + 1, 3, none⟩ = some (.int .i64 q0) ∧ wr.cell? ⟨w.heap.size + 1, 4, none⟩ = some (.int .i64 q1) ∧ wr.cell? ⟨w.heap.size + 1, 5, none⟩ = some (.int .i64 q2) ∧ wr.cell? ⟨w.heap.size + 1, 6, none⟩ = some (.int .i64 r)) ∧
    (wr.cell? ⟨w.heap.size + 1 + 1, 0, none⟩ = some (.int .i64 fr) ∧ wr.cell? ⟨w.heap.size + 1 + 1, 1, none⟩ = some (.int .i64 to) ∧ wr.cell? ⟨w.heap.size + 1 + 1, 2, none⟩ = some (.int .i64 bk) ∧ wr.cell? ⟨w.heap.size + 1 + 1, 3, none⟩ = some (.int .i64 wt)) ∧
    w.heap.size < wr.heap.size ∧ w.heap.size + 1 < wr.heap.size ∧ w.heap.size + 1 + 1 < wr.heap.size ∧ Below w.heap.size w wr := by
  have hz := h.size
  have hs := bxd_size w v0 v1 v2 p0 p1 p2 q0 q1 q2 r fr to bk wt
  refine ⟨⟨?_, ?_, ?_⟩, ⟨?_, ?_, ?_, ?_, ?_, ?_, ?_⟩, ⟨?_, ?_, ?_, ?_⟩, by omega, by omega, by omega, (bxd_below w v0 v1 v2 p0 p1 p2 q0 q1 q2 r fr to bk wt).trans (h.mono (by omega))⟩
  all_goals rw [bcell h _ _ (by omega)]
  all_goals (unfold bxd; go_simp)

theorem word_range {m n k : Int} {s : St} (h : stOk m n k s = true) (hw : wordD s = true) : (0 ≤ s.ar ∧ s.ar < m) ∧ (-64 ≤ s.sp ∧ s.sp ≤ 64) ∧ (-64 ≤ s.pl ∧ s.pl ≤ 64) := by
  have key : wordOk m s.ar s.sp s.pl = true → (0 ≤ s.ar ∧ s.ar < m) ∧ (-64 ≤ s.sp ∧ s.sp ≤ 64) ∧ (-64 ≤ s.pl ∧ s.pl ≤ 64) := fun h => by
    unfold wordOk at h
    simp only [Bool.and_eq_true] at h
    have h1 := inR_iff.1 h.1.1
    have h2 := inR_iff.1 h.1.2
    have h3 := inR_iff.1 h.2
    exact ⟨by omega, h2, h3⟩
  have ho : s.o = 3 ∨ s.o = 4 := by unfold wordD at hw; simpa using hw
  unfold stOk at h
  rcases ho with ho | ho
  · rw [if_neg (by omega), if_neg (by omega), if_pos ho] at h
    simp only [Bool.and_eq_true] at h
    exact key h.2
  · rw [if_neg (by omega), if_neg (by omega), if_neg (by omega), if_pos ho] at h
    simp only [Bool.and_eq_true] at h
    exact key h.1.2
theorem memD_words {a b : St} (h : memD a b = true) : wordD a = true ∧ wordD b = true := by
  unfold memD at h
  simp only [Bool.and_eq_true] at h
  exact ⟨h.1.1.1, h.1.1.2⟩
theorem size_nat {L : Lp} {s : St} (hl : logsOk L.logs = true) (h1 : 0 ≤ s.ar) (h2 : s.ar < L.logs.length) : ∃ i lg : Nat, s.ar = i ∧ i < L.logs.length ∧ nth L.logs i = (lg : Int) ∧ lg ≤ 5 ∧ p2 lg = (sizeD L s : Int) ∧ 0 < sizeD L s ∧ sizeD L s ≤ 32 := by
  obtain ⟨i, hi⟩ := Int.eq_ofNat_of_zero_le h1
  have hiL : i < L.logs.length := by omega
  have h3 := inR_iff.1 (allN_get hl i hiL)
  obtain ⟨lg, hlg⟩ := Int.eq_ofNat_of_zero_le h3.1
  have e : sizeD L s = 2 ^ lg := by unfold sizeD; rw [hi, Int.toNat_natCast, hlg, Int.toNat_natCast]
  refine ⟨i, lg, hi, hiL, hlg, by omega, ?_, ?_, ?_⟩
  · rw [e]; unfold p2; simp
  · rw [e]; exact Nat.pow_pos (by decide)
  · rw [e]; exact Nat.le_trans (Nat.pow_le_pow_right (by decide) (show lg ≤ 5 by omega)) (by decide)
theorem allN_lo (p : Nat → Bool) (lo : Nat) : allN (fun i => decide (i < lo) || p i) lo = true := allN_mk fun k hk => by rw [decide_eq_true hk]; rfl

theorem two_cells {wr y : World} {o1 xa1 xb1 ya1 yb1 ar1 sp1 pl1 nn1 o2 xa2 xb2 ya2 yb2 ar2 sp2 pl2 nn2 : Int} {ta tb : TypeId} (h : Below ((wr.alloc (.cells #[.int .i64 o1, .int .i64 xa1, .int .i64 xb1, .int .i64 ya1, .int .i64 yb1, .int .i64 ar1, .int .i64 sp1, .int .i64 pl1, .int .i64 nn1] ta)).alloc (.cells #[.int .i64 o2, .int .i64 xa2, .int .i64 xb2, .int .i64 ya2, .int .i64 yb2, .int .i64 ar2, .int .i64 sp2, .int .i64 pl2, .int .i64 nn2] tb)).heap.size ((wr.alloc (.cells #[.int .i64 o1, .int .i64 xa1, .int .i64 xb1, .int .i64 ya1, .int .i64 yb1, .int .i64 ar1, .int .i64 sp1, .int .i64 pl1, .int .i64 nn1] ta)).alloc (.cells #[.int .i64 o2, .int .i64 xa2, .int .i64 xb2, .int .i64 ya2, .int .i64 yb2, .int .i64 ar2, .int .i64 sp2, .int .i64 pl2, .int .i64 nn2] tb)) y) :
    (y.cell? ⟨wr.heap.size, 0, none⟩ = some (.int .i64 o1) ∧ y.cell? ⟨wr.heap.size, 1, none⟩ = some (.int .i64 xa1) ∧ y.cell? ⟨wr.heap.size, 2, none⟩ = some (.int .i64 xb1) ∧ y.cell? ⟨wr.heap.size, 3, none⟩ = some (.int .i64 ya1) ∧ y.cell? ⟨wr.heap.size, 4, none⟩ = some (.int .i64 yb1) ∧ y.cell? ⟨wr.heap.size, 5, none⟩ = some (.int .i64 ar1) ∧ y.cell? ⟨wr.heap.size, 6, none⟩ = some (.int .i64 sp1) ∧ y.cell? ⟨wr.heap.size, 7, none⟩ = some (.int .i64 pl1) ∧ y.cell? ⟨wr.heap.size, 8, none⟩ = some (.int .i64 nn1)) ∧
    (y.cell? ⟨wr.heap.size + 1, 0, none⟩ = some (.int .i64 o2) ∧ y.cell? ⟨wr.heap.size + 1, 1, none⟩ = some (.int .i64 xa2) ∧ y.cell? ⟨wr.heap.size + 1, 2, none⟩ = some (.int .i64 xb2) ∧ y.cell? ⟨wr.heap.size + 1, 3, none⟩ = some (.int .i64 ya2) ∧ y.cell? ⟨wr.heap.size + 1, 4, none⟩ = some (.int .i64 yb2) ∧ y.cell? ⟨wr.heap.size + 1, 5, none⟩ = some (.int .i64 ar2) ∧ y.cell? ⟨wr.heap.size + 1, 6, none⟩ = some (.int .i64 sp2) ∧ y.cell? ⟨wr.heap.size + 1, 7, none⟩ = some (.int .i64 pl2) ∧ y.cell? ⟨wr.heap.size + 1, 8, none⟩ = some (.int .i64 nn2)) ∧ wr.heap.size < y.heap.size ∧ wr.heap.size + 1 < y.heap.size ∧ Below wr.heap.size wr y := by
  have hz := h.size
  have hs : ((wr.alloc (.cells #[.int .i64 o1, .int .i64 xa1, .int .i64 xb1, .int .i64 ya1, .int .i64 yb1, .int .i64 ar1, .int .i64 sp1, .int .i64 pl1, .int .i64 nn1] ta)).alloc (.cells #[.int .i64 o2, .int .i64 xa2, .int .i64 xb2, .int .i64 ya2, .int .i64 yb2, .int .i64 ar2, .int .i64 sp2, .int .i64 pl2, .int .i64 nn2] tb)).heap.size = wr.heap.size + 1 + 1 := by simp
  refine ⟨⟨?_, ?_, ?_, ?_, ?_, ?_, ?_, ?_, ?_⟩, ⟨?_, ?_, ?_, ?_, ?_, ?_, ?_, ?_, ?_⟩, by omega, by omega, (below_alloc2 wr _ _).trans (h.mono (by omega))⟩
  all_goals rw [bcell h _ _ (by omega)]
  all_goals go_simp

set_option maxHeartbeats 40000000 in
set_option maxRecDepth 100000 in
theorem is_walk (p0 p1 p2 q0 q1 q2 r : Int) (fr to bk wt : Nat) (L : Lp) (a0 : Option Addr) (cap0 b off cap : Nat) (v2 : Value) (w : World) (hl0 : L.logs.length ≤ cap0) (hm0 : cap0 ≤ 9223372036854775807) (hl1 : L.body.length ≤ cap) (hm1 : cap ≤ 9223372036854775807) (hb : b < w.heap.size)
    (hbody : ∀ i, i < L.body.length → ∀ j, j < 9 → w.cell? ⟨b, off + i * 9 + j, none⟩ = (stCells (stAt L.body i))[j]?) (hlogs : Ints w (.slice a0 L.logs.length cap0) L.logs) (hm : mayB L = true) (hfr : fr < L.body.length) (hto : to < L.body.length) (hbk : bk ≤ 32) (hwt : wt ≤ 6) :
    Calls Try.prog 59 #[.agg #[.slice a0 L.logs.length cap0, .slice (some ⟨b, off, none⟩) L.body.length cap, v2], .agg #[.int .i64 p0, .int .i64 p1, .int .i64 p2, .int .i64 q0, .int .i64 q1, .int .i64 q2, .int .i64 r], .agg #[.int .i64 fr, .int .i64 to, .int .i64 bk, .int .i64 wt]] w fun e w' => e = .returned (.bool (isD L ⟨p0, p1, p2, q0, q1, q2, r⟩ fr to bk wt)) ∧ Below w.heap.size w w' := by
  have HBODY := hide hbody
  have HLOGS := hide hlogs
  have HM := hide hm
  obtain ⟨WQ, hWQ⟩ : ∃ WQ, decide ((wt : Int) = waitT ⟨p0, p1, p2, q0, q1, q2, r⟩ (stAt L.body fr).o) = WQ := ⟨_, rfl⟩
  have HWQ := hide hWQ
  obtain ⟨LK, hLK⟩ : ∃ LK, lookD (stAt L.body to) fr bk = LK := ⟨_, rfl⟩
  obtain ⟨c0, c1, c2, c3, c4, c5, c6, c7, c8⟩ := nine (HBODY.out to hto)
  have HB0 : Hid (Below (bxd w (.slice a0 L.logs.length cap0) (.slice (some ⟨b, off, none⟩) L.body.length cap) v2 p0 p1 p2 q0 q1 q2 r fr to bk wt).heap.size (bxd w (.slice a0 L.logs.length cap0) (.slice (some ⟨b, off, none⟩) L.body.length cap) v2 p0 p1 p2 q0 q1 q2 r fr to bk wt) (bxd w (.slice a0 L.logs.length cap0) (.slice (some ⟨b, off, none⟩) L.body.length cap) v2 p0 p1 p2 q0 q1 q2 r fr to bk wt)) := Below.refl _ _
  have hb1 : b < w.heap.size + 1 := by omega
  have hb2 : b < w.heap.size + 1 + 1 := by omega
  have hft : (fr : Int) < (L.body.length : Int) := by omega
  have htt : (to : Int) < (L.body.length : Int) := by omega
  have hbz : b < (bxd w (.slice a0 L.logs.length cap0) (.slice (some ⟨b, off, none⟩) L.body.length cap) v2 p0 p1 p2 q0 q1 q2 r fr to bk wt).heap.size := by rw [bxd_size]; omega
  clear hWQ hLK hbody hlogs hm
  go_enter Try.func59, Try.ntmps59
  go_wp2_with fail
  refine (uses_any (stAt L.body to) _).mono ?_
  rintro e x1 ⟨uv, rfl, hU, hb⟩
  have HBx1 : Hid (Below (bxd w (.slice a0 L.logs.length cap0) (.slice (some ⟨b, off, none⟩) L.body.length cap) v2 p0 p1 p2 q0 q1 q2 r fr to bk wt).heap.size (bxd w (.slice a0 L.logs.length cap0) (.slice (some ⟨b, off, none⟩) L.body.length cap) v2 p0 p1 p2 q0 q1 q2 r fr to bk wt) x1) := hb
  obtain ⟨ua, uc, rfl, hu1, hu2, hu3⟩ := hU
  have HU := hide hu3
  have HLKD : Hid (lookD (stAt L.body to) fr bk = exN (lookAt (usesL (stAt L.body to)) fr bk) (usesL (stAt L.body to)).length) := rfl
  unfold maxLen at hu2
  generalize usesL (stAt L.body to) = us at *
  clear hb hu3 c0 c1 c2 c3 c4 c5 c6 c7 c8 hbz
  go_wp2_with fail
  go_loopw [8] (fun i wr => ∃ k : Nat, k ≤ us.length ∧ i = .int .i64 k ∧ (exN (lookAt us fr bk) k && WQ) = false ∧ Below x1.heap.size x1 wr) (fun i _ => us.length - (intOf i).toNat)
  case atStart => exact ⟨0, Nat.zero_le _, rfl, rfl, Below.refl _ _⟩
  case round =>
    obtain ⟨k, hk, rfl, hex, hbel⟩ := hrel
    have HEX := hide hex
    have HBr := hide (HBx1.out.trans (hbel.mono HBx1.out.size))
    have hzx := hbel.size
    obtain ⟨⟨l0, l1, l2⟩, ⟨t0, t1, t2, t3, t4, t5, t6⟩, ⟨g0, g1, g2, g3⟩, z0, z1, z2, hbw⟩ := bxd_cells HBr.out
    have hbz : b < wr.heap.size := by have := hbw.size; omega
    clear hex
    by_cases hlt : k < us.length
    · have hki : (k : Int) < (us.length : Int) := by omega
      obtain ⟨ub, uo, rfl, hub, huc⟩ := HU.out (by omega)
      obtain ⟨uc0, uc1⟩ := huc k hlt
      rw [← bcell hbel _ _ hub] at uc0 uc1
      have huz : ub < wr.heap.size := by omega
      have HLA : Hid (lookAt us fr bk k = (decide ((refAt us k).1 = fr) && decide ((refAt us k).2 = bk))) := rfl
      generalize refAt us k = rk at *
      obtain ⟨xr, yr⟩ := rk
      dsimp only at uc0 uc1 HLA
      have HBE := hide hbel
      have HBW := hide hbw
      clear hbel hbw huc
      by_cases hx : xr = (fr : Int)
      · have hxb : (xr == (fr : Int)) = true := by simpa using hx
        by_cases hy : yr = (bk : Int)
        · have hyb : (yr == (bk : Int)) = true := by simpa using hy
          have hoo := (nine (HBODY.out fr hfr)).1
          rw [← bcell HBW.out _ _ hb] at hoo
          have HWT : Hid (∀ W, Calls Try.prog 35 #[.agg #[.int .i64 p0, .int .i64 p1, .int .i64 p2, .int .i64 q0, .int .i64 q1, .int .i64 q2, .int .i64 r], .int .i64 (stAt L.body fr).o] W fun e w' => e = .returned (.int .i64 (waitT ⟨p0, p1, p2, q0, q1, q2, r⟩ (stAt L.body fr).o)) ∧ Below W.heap.size W w') := fun W => twait_seven p0 p1 p2 q0 q1 q2 r (stAt L.body fr).o W
          have HQQ := HWQ
          generalize waitT ⟨p0, p1, p2, q0, q1, q2, r⟩ (stAt L.body fr).o = wv at HQQ HWT
          generalize (stAt L.body fr).o = oo at hoo HWT
          have HLT : Hid (lookAt us fr bk k = true) := by show lookAt us fr bk k = true; rw [HLA.out, decide_eq_true hx, decide_eq_true hy]; rfl
          have HS5 : Hid (wr.cell? ⟨ub, uo + k * 2, none⟩ = some (.int .i64 xr) ∧ wr.cell? ⟨ub, uo + k * 2 + 1, none⟩ = some (.int .i64 yr) ∧ wr.cell? ⟨w.heap.size + 1 + 1, 0, none⟩ = some (.int .i64 (fr : Int)) ∧ wr.cell? ⟨w.heap.size + 1 + 1, 2, none⟩ = some (.int .i64 (bk : Int)) ∧ wr.cell? ⟨w.heap.size + 1 + 1, 3, none⟩ = some (.int .i64 (wt : Int)) ∧ wr.cell? ⟨w.heap.size + 1, 0, none⟩ = some (.int .i64 p0) ∧ wr.cell? ⟨w.heap.size + 1, 1, none⟩ = some (.int .i64 p1) ∧ wr.cell? ⟨w.heap.size + 1, 2, none⟩ = some (.int .i64 p2) ∧ wr.cell? ⟨w.heap.size + 1, 3, none⟩ = some (.int .i64 q0) ∧ wr.cell? ⟨w.heap.size + 1, 4, none⟩ = some (.int .i64 q1) ∧ wr.cell? ⟨w.heap.size + 1, 5, none⟩ = some (.int .i64 q2) ∧ wr.cell? ⟨w.heap.size + 1, 6, none⟩ = some (.int .i64 r) ∧ wr.cell? ⟨w.heap.size, 1, none⟩ = some (.slice (some ⟨b, off, none⟩) L.body.length cap) ∧ wr.cell? ⟨b, off + fr * 9, none⟩ = some (.int .i64 oo)) := ⟨uc0, uc1, g0, g2, g3, t0, t1, t2, t3, t4, t5, t6, l1, hoo⟩
          have HXX := hide hx
          have HYY := hide hy
          clear hx hy uc0 uc1 hoo
          cases WQ with
          | false =>
            have hwb : ((wt : Int) == wv) = false := by have h := HQQ.out; simpa using h
            go_wp2_with fail
            clear l0 l1 l2 t0 t1 t2 t3 t4 t5 t6 g0 g1 g2 g3 z0 z1 z2
            refine wp_region_noPanic ?_
            refine region_until 99 (fun w' => w'.cell? ⟨ub, uo + k * 2, none⟩ = some (.int .i64 xr) ∧ w'.cell? ⟨ub, uo + k * 2 + 1, none⟩ = some (.int .i64 yr) ∧ w'.cell? ⟨w.heap.size + 1 + 1, 0, none⟩ = some (.int .i64 (fr : Int)) ∧ w'.cell? ⟨w.heap.size + 1 + 1, 2, none⟩ = some (.int .i64 (bk : Int)) ∧ w'.cell? ⟨w.heap.size + 1 + 1, 3, none⟩ = some (.int .i64 (wt : Int)) ∧ w'.cell? ⟨w.heap.size + 1, 0, none⟩ = some (.int .i64 p0) ∧ w'.cell? ⟨w.heap.size + 1, 1, none⟩ = some (.int .i64 p1) ∧ w'.cell? ⟨w.heap.size + 1, 2, none⟩ = some (.int .i64 p2) ∧ w'.cell? ⟨w.heap.size + 1, 3, none⟩ = some (.int .i64 q0) ∧ w'.cell? ⟨w.heap.size + 1, 4, none⟩ = some (.int .i64 q1) ∧ w'.cell? ⟨w.heap.size + 1, 5, none⟩ = some (.int .i64 q2) ∧ w'.cell? ⟨w.heap.size + 1, 6, none⟩ = some (.int .i64 r) ∧ w'.cell? ⟨w.heap.size, 1, none⟩ = some (.slice (some ⟨b, off, none⟩) L.body.length cap) ∧ w'.cell? ⟨b, off + fr * 9, none⟩ = some (.int .i64 oo)) (by kernel_rfl) HS5.out (fun hHeld => ?_)
            refine utk (i := 0) rfl hHeld ?_
            try simp only [Act.put, List.setIfInBounds_toArray, List.set_cons_zero, List.set_cons_succ]
            refine utk (i := 1) rfl hHeld ?_
            try simp only [Act.put, List.setIfInBounds_toArray, List.set_cons_zero, List.set_cons_succ]
            refine utk (i := 2) rfl hHeld ?_
            try simp only [Act.put, List.setIfInBounds_toArray, List.set_cons_zero, List.set_cons_succ]
            refine utk (i := 3) rfl hHeld ?_
            try simp only [Act.put, List.setIfInBounds_toArray, List.set_cons_zero, List.set_cons_succ]
            refine utk (i := 4) rfl hHeld ?_
            try simp only [Act.put, List.setIfInBounds_toArray, List.set_cons_zero, List.set_cons_succ]
            refine utk (i := 5) rfl hHeld ?_
            try simp only [Act.put, List.setIfInBounds_toArray, List.set_cons_zero, List.set_cons_succ]
            refine utk (i := 6) rfl hHeld ?_
            try simp only [Act.put, List.setIfInBounds_toArray, List.set_cons_zero, List.set_cons_succ]
            refine utk (i := 7) rfl hHeld ?_
            try simp only [Act.put, List.setIfInBounds_toArray, List.set_cons_zero, List.set_cons_succ]
            refine utk (i := 8) rfl hHeld ?_
            try simp only [Act.put, List.setIfInBounds_toArray, List.set_cons_zero, List.set_cons_succ]
            refine utk (i := 9) rfl hHeld ?_
            try simp only [Act.put, List.setIfInBounds_toArray, List.set_cons_zero, List.set_cons_succ]
            refine utk (i := 10) rfl hHeld ?_
            try simp only [Act.put, List.setIfInBounds_toArray, List.set_cons_zero, List.set_cons_succ]
            refine utk (i := 11) rfl hHeld ?_
            try simp only [Act.put, List.setIfInBounds_toArray, List.set_cons_zero, List.set_cons_succ]
            refine utk (i := 12) rfl hHeld ?_
            try simp only [Act.put, List.setIfInBounds_toArray, List.set_cons_zero, List.set_cons_succ]
            refine utk (i := 13) rfl hHeld ?_
            try simp only [Act.put, List.setIfInBounds_toArray, List.set_cons_zero, List.set_cons_succ]
            refine utk (i := 14) rfl hHeld ?_
            try simp only [Act.put, List.setIfInBounds_toArray, List.set_cons_zero, List.set_cons_succ]
            refine utk (i := 15) rfl hHeld ?_
            try simp only [Act.put, List.setIfInBounds_toArray, List.set_cons_zero, List.set_cons_succ]
            refine utk (i := 16) rfl hHeld ?_
            try simp only [Act.put, List.setIfInBounds_toArray, List.set_cons_zero, List.set_cons_succ]
            refine utk (i := 17) rfl hHeld ?_
            try simp only [Act.put, List.setIfInBounds_toArray, List.set_cons_zero, List.set_cons_succ]
            refine utk (i := 18) rfl hHeld ?_
            try simp only [Act.put, List.setIfInBounds_toArray, List.set_cons_zero, List.set_cons_succ]
            refine utk (i := 19) rfl hHeld ?_
            try simp only [Act.put, List.setIfInBounds_toArray, List.set_cons_zero, List.set_cons_succ]
            refine utk (i := 20) rfl hHeld ?_
            try simp only [Act.put, List.setIfInBounds_toArray, List.set_cons_zero, List.set_cons_succ]
            refine utk (i := 21) rfl hHeld ?_
            try simp only [Act.put, List.setIfInBounds_toArray, List.set_cons_zero, List.set_cons_succ]
            refine utk (i := 22) rfl hHeld ?_
            try simp only [Act.put, List.setIfInBounds_toArray, List.set_cons_zero, List.set_cons_succ]
            refine utk (i := 23) rfl hHeld ?_
            try simp only [Act.put, List.setIfInBounds_toArray, List.set_cons_zero, List.set_cons_succ]
            refine utk (i := 24) rfl hHeld ?_
            try simp only [Act.put, List.setIfInBounds_toArray, List.set_cons_zero, List.set_cons_succ]
            refine utk (i := 25) rfl hHeld ?_
            try simp only [Act.put, List.setIfInBounds_toArray, List.set_cons_zero, List.set_cons_succ]
            refine utk (i := 26) rfl hHeld ?_
            try simp only [Act.put, List.setIfInBounds_toArray, List.set_cons_zero, List.set_cons_succ]
            refine utk (i := 27) rfl hHeld ?_
            try simp only [Act.put, List.setIfInBounds_toArray, List.set_cons_zero, List.set_cons_succ]
            refine utk (i := 28) rfl hHeld ?_
            try simp only [Act.put, List.setIfInBounds_toArray, List.set_cons_zero, List.set_cons_succ]
            refine until_one (i := 29) rfl (by kernel_rfl) (fun K hK9 => ?_)
            go_simp
            refine (HWT.out _).mono ?_
            rintro e x2 ⟨rfl, hb9⟩
            have HB9 : Hid (Below x1.heap.size x1 x2) := (HBE.out.trans (below_draws _ _ 1)).trans (hb9.mono (by simpa using hzx))
            have hc9 := bcell hb9
            have hHeld : x2.cell? ⟨ub, uo + k * 2, none⟩ = some (.int .i64 xr) ∧ x2.cell? ⟨ub, uo + k * 2 + 1, none⟩ = some (.int .i64 yr) ∧ x2.cell? ⟨w.heap.size + 1 + 1, 0, none⟩ = some (.int .i64 (fr : Int)) ∧ x2.cell? ⟨w.heap.size + 1 + 1, 2, none⟩ = some (.int .i64 (bk : Int)) ∧ x2.cell? ⟨w.heap.size + 1 + 1, 3, none⟩ = some (.int .i64 (wt : Int)) ∧ x2.cell? ⟨w.heap.size + 1, 0, none⟩ = some (.int .i64 p0) ∧ x2.cell? ⟨w.heap.size + 1, 1, none⟩ = some (.int .i64 p1) ∧ x2.cell? ⟨w.heap.size + 1, 2, none⟩ = some (.int .i64 p2) ∧ x2.cell? ⟨w.heap.size + 1, 3, none⟩ = some (.int .i64 q0) ∧ x2.cell? ⟨w.heap.size + 1, 4, none⟩ = some (.int .i64 q1) ∧ x2.cell? ⟨w.heap.size + 1, 5, none⟩ = some (.int .i64 q2) ∧ x2.cell? ⟨w.heap.size + 1, 6, none⟩ = some (.int .i64 r) ∧ x2.cell? ⟨w.heap.size, 1, none⟩ = some (.slice (some ⟨b, off, none⟩) L.body.length cap) ∧ x2.cell? ⟨b, off + fr * 9, none⟩ = some (.int .i64 oo) := by
              have h := HS5.out
              have hz : ∀ g o, g < wr.heap.size → x2.cell? ⟨g, o, none⟩ = wr.cell? ⟨g, o, none⟩ := fun g o hg => hc9 g o (by simpa using hg)
              obtain ⟨⟨l0, l1, l2⟩, ⟨t0, t1, t2, t3, t4, t5, t6⟩, ⟨g0, g1, g2, g3⟩, z0, z1, z2, -⟩ := bxd_cells HBr.out
              rw [hz _ _ huz, hz _ _ huz, hz _ _ z2, hz _ _ z2, hz _ _ z2, hz _ _ z1, hz _ _ z1, hz _ _ z1, hz _ _ z1, hz _ _ z1, hz _ _ z1, hz _ _ z1, hz _ _ z0, hz _ _ hbz]
              exact h
            refine hK9.out _ _ (.inr hHeld) ?_
            clear hK9 K hb9 hc9
            try simp only [Act.put, List.setIfInBounds_toArray, List.set_cons_zero, List.set_cons_succ]
            refine utk (i := 30) rfl hHeld ?_
            try simp only [Act.put, List.setIfInBounds_toArray, List.set_cons_zero, List.set_cons_succ]
            refine utk (i := 31) rfl hHeld ?_
            try simp only [Act.put, List.setIfInBounds_toArray, List.set_cons_zero, List.set_cons_succ]
            refine until_done (by kernel_rfl) ?_ _
            refine NoPanic.normal ?_
            clear hHeld
            go_wp2_with fail
            go_roundw
            case rel => exact ⟨k + 1, by omega, by go_num, by simp, HB9.out⟩
            case measure => simp [intOf]; omega
          | true =>
            have hwb : ((wt : Int) == wv) = true := by have h := HQQ.out; simpa using h
            go_wp2_with fail
            clear l0 l1 l2 t0 t1 t2 t3 t4 t5 t6 g0 g1 g2 g3 z0 z1 z2
            refine wp_region_noPanic ?_
            refine region_until 99 (fun w' => w'.cell? ⟨ub, uo + k * 2, none⟩ = some (.int .i64 xr) ∧ w'.cell? ⟨ub, uo + k * 2 + 1, none⟩ = some (.int .i64 yr) ∧ w'.cell? ⟨w.heap.size + 1 + 1, 0, none⟩ = some (.int .i64 (fr : Int)) ∧ w'.cell? ⟨w.heap.size + 1 + 1, 2, none⟩ = some (.int .i64 (bk : Int)) ∧ w'.cell? ⟨w.heap.size + 1 + 1, 3, none⟩ = some (.int .i64 (wt : Int)) ∧ w'.cell? ⟨w.heap.size + 1, 0, none⟩ = some (.int .i64 p0) ∧ w'.cell? ⟨w.heap.size + 1, 1, none⟩ = some (.int .i64 p1) ∧ w'.cell? ⟨w.heap.size + 1, 2, none⟩ = some (.int .i64 p2) ∧ w'.cell? ⟨w.heap.size + 1, 3, none⟩ = some (.int .i64 q0) ∧ w'.cell? ⟨w.heap.size + 1, 4, none⟩ = some (.int .i64 q1) ∧ w'.cell? ⟨w.heap.size + 1, 5, none⟩ = some (.int .i64 q2) ∧ w'.cell? ⟨w.heap.size + 1, 6, none⟩ = some (.int .i64 r) ∧ w'.cell? ⟨w.heap.size, 1, none⟩ = some (.slice (some ⟨b, off, none⟩) L.body.length cap) ∧ w'.cell? ⟨b, off + fr * 9, none⟩ = some (.int .i64 oo)) (by kernel_rfl) HS5.out (fun hHeld => ?_)
            refine utk (i := 0) rfl hHeld ?_
            try simp only [Act.put, List.setIfInBounds_toArray, List.set_cons_zero, List.set_cons_succ]
            refine utk (i := 1) rfl hHeld ?_
            try simp only [Act.put, List.setIfInBounds_toArray, List.set_cons_zero, List.set_cons_succ]
            refine utk (i := 2) rfl hHeld ?_
            try simp only [Act.put, List.setIfInBounds_toArray, List.set_cons_zero, List.set_cons_succ]
            refine utk (i := 3) rfl hHeld ?_
            try simp only [Act.put, List.setIfInBounds_toArray, List.set_cons_zero, List.set_cons_succ]
            refine utk (i := 4) rfl hHeld ?_
            try simp only [Act.put, List.setIfInBounds_toArray, List.set_cons_zero, List.set_cons_succ]
            refine utk (i := 5) rfl hHeld ?_
            try simp only [Act.put, List.setIfInBounds_toArray, List.set_cons_zero, List.set_cons_succ]
            refine utk (i := 6) rfl hHeld ?_
            try simp only [Act.put, List.setIfInBounds_toArray, List.set_cons_zero, List.set_cons_succ]
            refine utk (i := 7) rfl hHeld ?_
            try simp only [Act.put, List.setIfInBounds_toArray, List.set_cons_zero, List.set_cons_succ]
            refine utk (i := 8) rfl hHeld ?_
            try simp only [Act.put, List.setIfInBounds_toArray, List.set_cons_zero, List.set_cons_succ]
            refine utk (i := 9) rfl hHeld ?_
            try simp only [Act.put, List.setIfInBounds_toArray, List.set_cons_zero, List.set_cons_succ]
            refine utk (i := 10) rfl hHeld ?_
            try simp only [Act.put, List.setIfInBounds_toArray, List.set_cons_zero, List.set_cons_succ]
            refine utk (i := 11) rfl hHeld ?_
            try simp only [Act.put, List.setIfInBounds_toArray, List.set_cons_zero, List.set_cons_succ]
            refine utk (i := 12) rfl hHeld ?_
            try simp only [Act.put, List.setIfInBounds_toArray, List.set_cons_zero, List.set_cons_succ]
            refine utk (i := 13) rfl hHeld ?_
            try simp only [Act.put, List.setIfInBounds_toArray, List.set_cons_zero, List.set_cons_succ]
            refine utk (i := 14) rfl hHeld ?_
            try simp only [Act.put, List.setIfInBounds_toArray, List.set_cons_zero, List.set_cons_succ]
            refine utk (i := 15) rfl hHeld ?_
            try simp only [Act.put, List.setIfInBounds_toArray, List.set_cons_zero, List.set_cons_succ]
            refine utk (i := 16) rfl hHeld ?_
            try simp only [Act.put, List.setIfInBounds_toArray, List.set_cons_zero, List.set_cons_succ]
            refine utk (i := 17) rfl hHeld ?_
            try simp only [Act.put, List.setIfInBounds_toArray, List.set_cons_zero, List.set_cons_succ]
            refine utk (i := 18) rfl hHeld ?_
            try simp only [Act.put, List.setIfInBounds_toArray, List.set_cons_zero, List.set_cons_succ]
            refine utk (i := 19) rfl hHeld ?_
            try simp only [Act.put, List.setIfInBounds_toArray, List.set_cons_zero, List.set_cons_succ]
            refine utk (i := 20) rfl hHeld ?_
            try simp only [Act.put, List.setIfInBounds_toArray, List.set_cons_zero, List.set_cons_succ]
            refine utk (i := 21) rfl hHeld ?_
            try simp only [Act.put, List.setIfInBounds_toArray, List.set_cons_zero, List.set_cons_succ]
            refine utk (i := 22) rfl hHeld ?_
            try simp only [Act.put, List.setIfInBounds_toArray, List.set_cons_zero, List.set_cons_succ]
            refine utk (i := 23) rfl hHeld ?_
            try simp only [Act.put, List.setIfInBounds_toArray, List.set_cons_zero, List.set_cons_succ]
            refine utk (i := 24) rfl hHeld ?_
            try simp only [Act.put, List.setIfInBounds_toArray, List.set_cons_zero, List.set_cons_succ]
            refine utk (i := 25) rfl hHeld ?_
            try simp only [Act.put, List.setIfInBounds_toArray, List.set_cons_zero, List.set_cons_succ]
            refine utk (i := 26) rfl hHeld ?_
            try simp only [Act.put, List.setIfInBounds_toArray, List.set_cons_zero, List.set_cons_succ]
            refine utk (i := 27) rfl hHeld ?_
            try simp only [Act.put, List.setIfInBounds_toArray, List.set_cons_zero, List.set_cons_succ]
            refine utk (i := 28) rfl hHeld ?_
            try simp only [Act.put, List.setIfInBounds_toArray, List.set_cons_zero, List.set_cons_succ]
            refine until_one (i := 29) rfl (by kernel_rfl) (fun K hK9 => ?_)
            go_simp
            refine (HWT.out _).mono ?_
            rintro e x2 ⟨rfl, hb9⟩
            have HB9 : Hid (Below x1.heap.size x1 x2) := (HBE.out.trans (below_draws _ _ 1)).trans (hb9.mono (by simpa using hzx))
            have hc9 := bcell hb9
            have hHeld : x2.cell? ⟨ub, uo + k * 2, none⟩ = some (.int .i64 xr) ∧ x2.cell? ⟨ub, uo + k * 2 + 1, none⟩ = some (.int .i64 yr) ∧ x2.cell? ⟨w.heap.size + 1 + 1, 0, none⟩ = some (.int .i64 (fr : Int)) ∧ x2.cell? ⟨w.heap.size + 1 + 1, 2, none⟩ = some (.int .i64 (bk : Int)) ∧ x2.cell? ⟨w.heap.size + 1 + 1, 3, none⟩ = some (.int .i64 (wt : Int)) ∧ x2.cell? ⟨w.heap.size + 1, 0, none⟩ = some (.int .i64 p0) ∧ x2.cell? ⟨w.heap.size + 1, 1, none⟩ = some (.int .i64 p1) ∧ x2.cell? ⟨w.heap.size + 1, 2, none⟩ = some (.int .i64 p2) ∧ x2.cell? ⟨w.heap.size + 1, 3, none⟩ = some (.int .i64 q0) ∧ x2.cell? ⟨w.heap.size + 1, 4, none⟩ = some (.int .i64 q1) ∧ x2.cell? ⟨w.heap.size + 1, 5, none⟩ = some (.int .i64 q2) ∧ x2.cell? ⟨w.heap.size + 1, 6, none⟩ = some (.int .i64 r) ∧ x2.cell? ⟨w.heap.size, 1, none⟩ = some (.slice (some ⟨b, off, none⟩) L.body.length cap) ∧ x2.cell? ⟨b, off + fr * 9, none⟩ = some (.int .i64 oo) := by
              have h := HS5.out
              have hz : ∀ g o, g < wr.heap.size → x2.cell? ⟨g, o, none⟩ = wr.cell? ⟨g, o, none⟩ := fun g o hg => hc9 g o (by simpa using hg)
              obtain ⟨⟨l0, l1, l2⟩, ⟨t0, t1, t2, t3, t4, t5, t6⟩, ⟨g0, g1, g2, g3⟩, z0, z1, z2, -⟩ := bxd_cells HBr.out
              rw [hz _ _ huz, hz _ _ huz, hz _ _ z2, hz _ _ z2, hz _ _ z2, hz _ _ z1, hz _ _ z1, hz _ _ z1, hz _ _ z1, hz _ _ z1, hz _ _ z1, hz _ _ z1, hz _ _ z0, hz _ _ hbz]
              exact h
            refine hK9.out _ _ (.inr hHeld) ?_
            clear hK9 K hb9 hc9
            try simp only [Act.put, List.setIfInBounds_toArray, List.set_cons_zero, List.set_cons_succ]
            refine utk (i := 30) rfl hHeld ?_
            try simp only [Act.put, List.setIfInBounds_toArray, List.set_cons_zero, List.set_cons_succ]
            refine utk (i := 31) rfl hHeld ?_
            try simp only [Act.put, List.setIfInBounds_toArray, List.set_cons_zero, List.set_cons_succ]
            refine until_done (by kernel_rfl) ?_ _
            refine NoPanic.normal ?_
            clear hHeld
            go_wp2_with fail
            have HT : Hid (isD L ⟨p0, p1, p2, q0, q1, q2, r⟩ fr to bk wt = true) := by
              show isD L ⟨p0, p1, p2, q0, q1, q2, r⟩ fr to bk wt = true
              unfold isD
              rw [HLKD.out, exN_true hlt HLT.out, HWQ.out]; rfl
            go_ret
            exact ⟨ret_bool HT.out.symm, (bxd_below w (.slice a0 L.logs.length cap0) (.slice (some ⟨b, off, none⟩) L.body.length cap) v2 p0 p1 p2 q0 q1 q2 r fr to bk wt).trans ((HBx1.out.trans (HB9.out.mono HBx1.out.size)).mono (by rw [bxd_size]; omega))⟩
        · have hyb : (yr == (bk : Int)) = false := by simpa using hy
          have HST : Hid ((exN (lookAt us fr bk) (k + 1) && WQ) = false) := by
            show ((exN (lookAt us fr bk) k || lookAt us fr bk k) && WQ) = false
            rw [HLA.out, decide_eq_false hy, Bool.and_false, Bool.or_false]; exact HEX.out
          have HXX := hide hx
          clear hy hx
          go_wp2_with fail
          go_big_quiet ((fail))
          go_wp2_with fail
          go_roundw
          case rel => exact ⟨k + 1, by omega, by go_num, HST.out, HBE.out.trans (below_draws _ _ _)⟩
          case measure => simp [intOf]; omega
      · have hxb : (xr == (fr : Int)) = false := by simpa using hx
        have HST : Hid ((exN (lookAt us fr bk) (k + 1) && WQ) = false) := by
          show ((exN (lookAt us fr bk) k || lookAt us fr bk k) && WQ) = false
          rw [HLA.out, decide_eq_false hx, Bool.false_and, Bool.or_false]; exact HEX.out
        clear hx
        go_wp2_with fail
        go_big_quiet ((fail))
        go_wp2_with fail
        go_roundw
        case rel => exact ⟨k + 1, by omega, by go_num, HST.out, HBE.out.trans (below_draws _ _ _)⟩
        case measure => simp [intOf]; omega
    · have e : k = us.length := by omega
      have hki : ¬ (k : Int) < (us.length : Int) := by omega
      rename World => wo
      have HIS : Hid (isD L ⟨p0, p1, p2, q0, q1, q2, r⟩ fr to bk wt = (memD (stAt L.body fr) (stAt L.body to) && decide ((wt : Int) = waitD (stAt L.body fr)) && firstD (stAt L.body fr) (stAt L.body to) (leastD fr to) bk (sizeD L (stAt L.body fr)))) := by
        have h := HEX.out
        rw [e, ← HLKD.out] at h
        show isD _ _ _ _ _ _ = _
        unfold isD
        rw [HWQ.out, h, Bool.false_or]
      obtain ⟨m1, m2, m3, m4, m5, m6, m7⟩ := may_parts HM.out
      have HS1 := hide (allN_get m7 fr hfr)
      have HS2 := hide (allN_get m7 to hto)
      have HLO := hide m5
      obtain ⟨c0, c1, c2, c3, c4, c5, c6, c7, c8⟩ := nine (HBODY.out fr hfr)
      obtain ⟨k0, k1, k2, k3, k4, k5, k6, k7, k8⟩ := nine (HBODY.out to hto)
      rw [← bcell hbw _ _ hb] at c0 c1 c2 c3 c4 c5 c6 c7 c8 k0 k1 k2 k3 k4 k5 k6 k7 k8
      have HLV := hide (HLOGS.out.below hbw)
      clear HBODY HLKD HWQ HEX
      generalize stAt L.body fr = sa at *
      generalize stAt L.body to = sb at *
      obtain ⟨o1, xa1, xb1, ya1, yb1, ar1, sp1, pl1, nn1⟩ := sa
      obtain ⟨o2, xa2, xb2, ya2, yb2, ar2, sp2, pl2, nn2⟩ := sb
      dsimp only at c0 c1 c2 c3 c4 c5 c6 c7 c8 k0 k1 k2 k3 k4 k5 k6 k7 k8
      obtain ⟨mb, hmb⟩ : ∃ mb, memD ⟨o1, xa1, xb1, ya1, yb1, ar1, sp1, pl1, nn1⟩ ⟨o2, xa2, xb2, ya2, yb2, ar2, sp2, pl2, nn2⟩ = mb := ⟨_, rfl⟩
      have HMEM : Hid (∀ W, Calls Try.prog 93 #[.agg #[.int .i64 o1, .int .i64 xa1, .int .i64 xb1, .int .i64 ya1, .int .i64 yb1, .int .i64 ar1, .int .i64 sp1, .int .i64 pl1, .int .i64 nn1], .agg #[.int .i64 o2, .int .i64 xa2, .int .i64 xb2, .int .i64 ya2, .int .i64 yb2, .int .i64 ar2, .int .i64 sp2, .int .i64 pl2, .int .i64 nn2]] W fun e w' => e = .returned (.bool mb) ∧ Below W.heap.size W w') := fun W => hmb ▸ memory_any ⟨o1, xa1, xb1, ya1, yb1, ar1, sp1, pl1, nn1⟩ ⟨o2, xa2, xb2, ya2, yb2, ar2, sp2, pl2, nn2⟩ W
      have HMB := hide hmb
      clear hmb m1 m2 m3 m4 m5 m6 m7 hbel hbw
      by_cases ho4 : o1 = 4
      · subst ho4
        have HWD : Hid (waitD ⟨4, xa1, xb1, ya1, yb1, ar1, sp1, pl1, nn1⟩ = 1) := rfl
        go_wp2_with fail
        refine (HMEM.out _).mono ?_
        rintro e x2 ⟨rfl, hb2⟩
        have HB2 : Hid (Below ((wo.alloc (.cells #[.int .i64 4, .int .i64 xa1, .int .i64 xb1, .int .i64 ya1, .int .i64 yb1, .int .i64 ar1, .int .i64 sp1, .int .i64 pl1, .int .i64 nn1] 65)).alloc (.cells #[.int .i64 o2, .int .i64 xa2, .int .i64 xb2, .int .i64 ya2, .int .i64 yb2, .int .i64 ar2, .int .i64 sp2, .int .i64 pl2, .int .i64 nn2] 65)).heap.size ((wo.alloc (.cells #[.int .i64 4, .int .i64 xa1, .int .i64 xb1, .int .i64 ya1, .int .i64 yb1, .int .i64 ar1, .int .i64 sp1, .int .i64 pl1, .int .i64 nn1] 65)).alloc (.cells #[.int .i64 o2, .int .i64 xa2, .int .i64 xb2, .int .i64 ya2, .int .i64 yb2, .int .i64 ar2, .int .i64 sp2, .int .i64 pl2, .int .i64 nn2] 65)) x2) := hb2
        clear l0 l1 l2 t0 t1 t2 t3 t4 t5 t6 g0 g1 g2 g3 z0 z1 z2
        obtain ⟨⟨d0, d1, d2, d3, d4, d5, d6, d7, d8⟩, ⟨f0, f1, f2, f3, f4, f5, f6, f7, f8⟩, y0, y1, hby⟩ := two_cells HB2.out
        obtain ⟨⟨l0, l1, l2⟩, ⟨t0, t1, t2, t3, t4, t5, t6⟩, ⟨g0, g1, g2, g3⟩, z0, z1, z2, hbw⟩ := bxd_cells (HBr.out.trans (hby.mono HBr.out.size))
        have HWx2 := hide hbw
        have HLx2 := hide (HLV.out.below hby)
        clear hb2 hbw hby c0 c1 c2 c3 c4 c5 c6 c7 c8 k0 k1 k2 k3 k4 k5 k6 k7 k8
        cases mb with
        | false =>
          have HT : Hid (isD L ⟨p0, p1, p2, q0, q1, q2, r⟩ fr to bk wt = false) := by show isD _ _ _ _ _ _ = false; rw [HIS.out, HMB.out]; rfl
          go_wp2_with fail
          go_ret
          exact ⟨ret_bool HT.out.symm, HWx2.out⟩
        | true =>
          by_cases hw : (wt : Int) = 1
          · have hwb : ((wt : Int) != 1) = false := by simp [hw]
            have HIF : Hid (isD L ⟨p0, p1, p2, q0, q1, q2, r⟩ fr to bk wt = firstD ⟨4, xa1, xb1, ya1, yb1, ar1, sp1, pl1, nn1⟩ ⟨o2, xa2, xb2, ya2, yb2, ar2, sp2, pl2, nn2⟩ (leastD fr to) bk (sizeD L ⟨4, xa1, xb1, ya1, yb1, ar1, sp1, pl1, nn1⟩)) := by show isD _ _ _ _ _ _ = _; rw [HIS.out, HMB.out, HWD.out, decide_eq_true hw, Bool.true_and, Bool.true_and]
            obtain ⟨⟨r1, r2⟩, ⟨r3, r4⟩, r5, r6⟩ := word_range HS1.out (memD_words HMB.out).1
            obtain ⟨-, ⟨r7, r8⟩, r9, r10⟩ := word_range HS2.out (memD_words HMB.out).2
            obtain ⟨i, lg, hi, hiL, hlg, hl5, hp2, hsz0, hsz⟩ := size_nat HLO.out r1 r2
            dsimp only at r3 r4 r5 r6 r7 r8 r9 r10 hi
            subst hi
            generalize sizeD L ⟨4, xa1, xb1, ya1, yb1, (i : Int), sp1, pl1, nn1⟩ = SZ at *
            obtain ⟨a0', cap0', hv0, -, -, -, hlc⟩ := HLx2.out
            injection hv0 with hv1 hv2 hv3
            obtain ⟨lb, lo', hv4, hlb, hlcell⟩ := hlc (by omega)
            have hlk := hlcell i hiL
            rw [hlg] at hlk
            rw [hv4] at hv1
            subst hv1
            have hii : (i : Int) < (L.logs.length : Int) := by omega
            have HCS : Hid (∀ W, Calls Try.prog 94 #[.int .i64 (lg : Int)] W fun e w' => e = .returned (.int .i64 (SZ : Int)) ∧ w' = W) := fun W => hp2 ▸ size_any lg W (by omega)
            have HME : Hid (∀ (j : Nat) W, j ≤ 32 → Calls Try.prog 95 #[.agg #[.int .i64 4, .int .i64 xa1, .int .i64 xb1, .int .i64 ya1, .int .i64 yb1, .int .i64 (i : Int), .int .i64 sp1, .int .i64 pl1, .int .i64 nn1], .agg #[.int .i64 o2, .int .i64 xa2, .int .i64 xb2, .int .i64 ya2, .int .i64 yb2, .int .i64 ar2, .int .i64 sp2, .int .i64 pl2, .int .i64 nn2], .int .i64 j, .int .i64 SZ] W fun e w' => e = .returned (.bool (meetsD ⟨4, xa1, xb1, ya1, yb1, (i : Int), sp1, pl1, nn1⟩ ⟨o2, xa2, xb2, ya2, yb2, ar2, sp2, pl2, nn2⟩ j SZ)) ∧ Below W.heap.size W w') := fun j W hj => meets_any ⟨4, xa1, xb1, ya1, yb1, (i : Int), sp1, pl1, nn1⟩ ⟨o2, xa2, xb2, ya2, yb2, ar2, sp2, pl2, nn2⟩ j SZ W hsz0 hsz hj r3 r4 r5 r6 r7 r8 r9 r10
            clear hlc hlcell hv2 hv3 hv4 r1 r2 r3 r4 r5 r6 r7 r8 r9 r10 hp2
            by_cases hle : to ≤ fr
            · as_aux_lemma =>
                have HLD : Hid (leastD fr to = 1) := by show leastD fr to = 1; unfold leastD; rw [if_pos hle]
                have hge : (to : Int) ≤ (fr : Int) := by omega
                have HIG : Hid (isD L ⟨p0, p1, p2, q0, q1, q2, r⟩ fr to bk wt = firstD ⟨4, xa1, xb1, ya1, yb1, (i : Int), sp1, pl1, nn1⟩ ⟨o2, xa2, xb2, ya2, yb2, ar2, sp2, pl2, nn2⟩ 1 bk SZ) := by show isD _ _ _ _ _ _ = _; rw [HIF.out, HLD.out]
                by_cases hb1 : bk < 1
                · have hbi : (bk : Int) < 1 := by omega
                  have hbd : decide ((bk : Int) < 1) = true := decide_eq_true hbi
                  have HT : Hid (isD L ⟨p0, p1, p2, q0, q1, q2, r⟩ fr to bk wt = false) := by show isD _ _ _ _ _ _ = false; rw [HIG.out]; unfold firstD; rw [decide_eq_false (show ¬ 1 ≤ bk by omega)]; rfl
                  go_wp2_with (go_at_call 94; refine (HCS.out _).mono ?_; rintro e x9 ⟨rfl, rfl⟩)
                  go_ret
                  exact ⟨ret_bool HT.out.symm, HWx2.out⟩
                · have hbi : ¬ (bk : Int) < 1 := by omega
                  have hbd : decide ((bk : Int) < 1) = false := decide_eq_false hbi
                  by_cases hb2 : SZ < bk
                  · have hbj : (SZ : Int) < (bk : Int) := by omega
                    have hbe : decide ((SZ : Int) < (bk : Int)) = true := decide_eq_true hbj
                    have HT : Hid (isD L ⟨p0, p1, p2, q0, q1, q2, r⟩ fr to bk wt = false) := by show isD _ _ _ _ _ _ = false; rw [HIG.out]; unfold firstD; rw [decide_eq_false (show ¬ bk ≤ SZ by omega), Bool.and_false]; rfl
                    go_wp2_with (go_at_call 94; refine (HCS.out _).mono ?_; rintro e x9 ⟨rfl, rfl⟩)
                    go_ret
                    exact ⟨ret_bool HT.out.symm, HWx2.out⟩
                  · have hbj : ¬ (SZ : Int) < (bk : Int) := by omega
                    have hbe : decide ((SZ : Int) < (bk : Int)) = false := decide_eq_false hbj
                    obtain ⟨mt, hmt⟩ : ∃ mt, meetsD ⟨4, xa1, xb1, ya1, yb1, (i : Int), sp1, pl1, nn1⟩ ⟨o2, xa2, xb2, ya2, yb2, ar2, sp2, pl2, nn2⟩ bk SZ = mt := ⟨_, rfl⟩
                    have HMT := hide hmt
                    have hme := fun W => HME.out bk W hbk
                    rw [hmt] at hme
                    have HMK := hide hme
                    clear hmt hme
                    go_wp2_with (go_at_call 94; refine (HCS.out _).mono ?_; rintro e x9 ⟨rfl, rfl⟩)
                    refine (HMK.out _).mono ?_
                    rintro e x3 ⟨rfl, hb3⟩
                    have HB3 : Hid (Below ((wo.alloc (.cells #[.int .i64 4, .int .i64 xa1, .int .i64 xb1, .int .i64 ya1, .int .i64 yb1, .int .i64 (i : Int), .int .i64 sp1, .int .i64 pl1, .int .i64 nn1] 65)).alloc (.cells #[.int .i64 o2, .int .i64 xa2, .int .i64 xb2, .int .i64 ya2, .int .i64 yb2, .int .i64 ar2, .int .i64 sp2, .int .i64 pl2, .int .i64 nn2] 65)).heap.size ((wo.alloc (.cells #[.int .i64 4, .int .i64 xa1, .int .i64 xb1, .int .i64 ya1, .int .i64 yb1, .int .i64 (i : Int), .int .i64 sp1, .int .i64 pl1, .int .i64 nn1] 65)).alloc (.cells #[.int .i64 o2, .int .i64 xa2, .int .i64 xb2, .int .i64 ya2, .int .i64 yb2, .int .i64 ar2, .int .i64 sp2, .int .i64 pl2, .int .i64 nn2] 65)) x3) := HB2.out.trans (hb3.mono HB2.out.size)
                    clear d0 d1 d2 d3 d4 d5 d6 d7 d8 f0 f1 f2 f3 f4 f5 f6 f7 f8 y0 y1
                    clear l0 l1 l2 t0 t1 t2 t3 t4 t5 t6 g0 g1 g2 g3 z0 z1 z2
                    obtain ⟨⟨d0, d1, d2, d3, d4, d5, d6, d7, d8⟩, ⟨f0, f1, f2, f3, f4, f5, f6, f7, f8⟩, y0, y1, hby⟩ := two_cells HB3.out
                    obtain ⟨⟨l0, l1, l2⟩, ⟨t0, t1, t2, t3, t4, t5, t6⟩, ⟨g0, g1, g2, g3⟩, z0, z1, z2, hbw⟩ := bxd_cells (HBr.out.trans (hby.mono HBr.out.size))
                    have HWx3 := hide hbw
                    clear hb3 hbw hby
                    cases mt with
                    | false =>
                      have HT : Hid (isD L ⟨p0, p1, p2, q0, q1, q2, r⟩ fr to bk wt = false) := by show isD _ _ _ _ _ _ = false; rw [HIG.out]; unfold firstD; rw [HMT.out, Bool.and_false]; rfl
                      go_wp2_with fail
                      go_ret
                      exact ⟨ret_bool HT.out.symm, HWx3.out⟩
                    | true =>
                      go_wp2_with fail
                      go_loopw [14] (fun iv wq => ∃ j : Nat, 1 ≤ j ∧ j ≤ bk ∧ iv = .int .i64 j ∧ allN (fun y => decide (y < 1) || !meetsD ⟨4, xa1, xb1, ya1, yb1, (i : Int), sp1, pl1, nn1⟩ ⟨o2, xa2, xb2, ya2, yb2, ar2, sp2, pl2, nn2⟩ y SZ) j = true ∧ Below ((wo.alloc (.cells #[.int .i64 4, .int .i64 xa1, .int .i64 xb1, .int .i64 ya1, .int .i64 yb1, .int .i64 (i : Int), .int .i64 sp1, .int .i64 pl1, .int .i64 nn1] 65)).alloc (.cells #[.int .i64 o2, .int .i64 xa2, .int .i64 xb2, .int .i64 ya2, .int .i64 yb2, .int .i64 ar2, .int .i64 sp2, .int .i64 pl2, .int .i64 nn2] 65)).heap.size ((wo.alloc (.cells #[.int .i64 4, .int .i64 xa1, .int .i64 xb1, .int .i64 ya1, .int .i64 yb1, .int .i64 (i : Int), .int .i64 sp1, .int .i64 pl1, .int .i64 nn1] 65)).alloc (.cells #[.int .i64 o2, .int .i64 xa2, .int .i64 xb2, .int .i64 ya2, .int .i64 yb2, .int .i64 ar2, .int .i64 sp2, .int .i64 pl2, .int .i64 nn2] 65)) wq) (fun iv _ => bk - (intOf iv).toNat)
                      case atStart => exact ⟨1, Nat.le_refl _, by omega, rfl, allN_lo _ _, HB3.out⟩
                      case round =>
                        clear d0 d1 d2 d3 d4 d5 d6 d7 d8 f0 f1 f2 f3 f4 f5 f6 f7 f8 y0 y1
                        clear l0 l1 l2 t0 t1 t2 t3 t4 t5 t6 g0 g1 g2 g3 z0 z1 z2
                        obtain ⟨j, hj1, hj2, rfl, hall, hbel⟩ := hrel
                        obtain ⟨⟨d0, d1, d2, d3, d4, d5, d6, d7, d8⟩, ⟨f0, f1, f2, f3, f4, f5, f6, f7, f8⟩, y0, y1, hby⟩ := two_cells hbel
                        obtain ⟨⟨l0, l1, l2⟩, ⟨t0, t1, t2, t3, t4, t5, t6⟩, ⟨g0, g1, g2, g3⟩, z0, z1, z2, hbw⟩ := bxd_cells (HBr.out.trans (hby.mono HBr.out.size))
                        have HWq := hide hbw
                        have HBq := hide hbel
                        have HAL := hide hall
                        clear hbw hby hall hbel
                        by_cases hjb : j < bk
                        · have hji : (j : Int) < (bk : Int) := by omega
                          obtain ⟨mj, hmj⟩ : ∃ mj, meetsD ⟨4, xa1, xb1, ya1, yb1, (i : Int), sp1, pl1, nn1⟩ ⟨o2, xa2, xb2, ya2, yb2, ar2, sp2, pl2, nn2⟩ j SZ = mj := ⟨_, rfl⟩
                          have HMJ := hide hmj
                          have hme := fun W => HME.out j W (by omega)
                          rw [hmj] at hme
                          have HMK2 := hide hme
                          clear hmj hme
                          go_wp2_with fail
                          refine (HMK2.out _).mono ?_
                          rintro e x4 ⟨rfl, hb4⟩
                          have HB4 : Hid (Below ((wo.alloc (.cells #[.int .i64 4, .int .i64 xa1, .int .i64 xb1, .int .i64 ya1, .int .i64 yb1, .int .i64 (i : Int), .int .i64 sp1, .int .i64 pl1, .int .i64 nn1] 65)).alloc (.cells #[.int .i64 o2, .int .i64 xa2, .int .i64 xb2, .int .i64 ya2, .int .i64 yb2, .int .i64 ar2, .int .i64 sp2, .int .i64 pl2, .int .i64 nn2] 65)).heap.size ((wo.alloc (.cells #[.int .i64 4, .int .i64 xa1, .int .i64 xb1, .int .i64 ya1, .int .i64 yb1, .int .i64 (i : Int), .int .i64 sp1, .int .i64 pl1, .int .i64 nn1] 65)).alloc (.cells #[.int .i64 o2, .int .i64 xa2, .int .i64 xb2, .int .i64 ya2, .int .i64 yb2, .int .i64 ar2, .int .i64 sp2, .int .i64 pl2, .int .i64 nn2] 65)) x4) := HBq.out.trans (hb4.mono HBq.out.size)
                          have HW4 := hide (HWq.out.trans (hb4.mono HWq.out.size))
                          clear hb4
                          cases mj with
                          | true =>
                            have HT : Hid (isD L ⟨p0, p1, p2, q0, q1, q2, r⟩ fr to bk wt = false) := by
                              show isD _ _ _ _ _ _ = false
                              rw [HIG.out]; unfold firstD; rw [allN_false (k := j) hjb (by rw [HMJ.out, decide_eq_false (show ¬ j < 1 by omega)]; rfl), Bool.and_false]
                            go_wp2_with fail
                            go_ret
                            exact ⟨ret_bool HT.out.symm, HW4.out⟩
                          | false =>
                            go_wp2_with fail
                            go_roundw
                            case rel => exact ⟨j + 1, by omega, by omega, by go_num, allN_step HAL.out (by rw [HMJ.out]; simp), HB4.out⟩
                            case measure => simp [intOf]; omega
                        · have e : j = bk := by omega
                          have hji : ¬ (j : Int) < (bk : Int) := by omega
                          have HT : Hid (isD L ⟨p0, p1, p2, q0, q1, q2, r⟩ fr to bk wt = true) := by
                            show isD _ _ _ _ _ _ = true
                            have h := HAL.out
                            rw [e] at h
                            rw [HIG.out]; unfold firstD; rw [h, HMT.out, decide_eq_true (show 1 ≤ bk by omega), decide_eq_true (show bk ≤ SZ by omega)]; rfl
                          clear e
                          go_wp2_with fail
                          go_ret
                          exact ⟨ret_bool HT.out.symm, HWq.out⟩
            · as_aux_lemma =>
                have HLD : Hid (leastD fr to = 0) := by show leastD fr to = 0; unfold leastD; rw [if_neg hle]
                have hge : ¬ (to : Int) ≤ (fr : Int) := by omega
                have HIG : Hid (isD L ⟨p0, p1, p2, q0, q1, q2, r⟩ fr to bk wt = firstD ⟨4, xa1, xb1, ya1, yb1, (i : Int), sp1, pl1, nn1⟩ ⟨o2, xa2, xb2, ya2, yb2, ar2, sp2, pl2, nn2⟩ 0 bk SZ) := by show isD _ _ _ _ _ _ = _; rw [HIF.out, HLD.out]
                by_cases hb1 : bk < 0
                · exact absurd hb1 (Nat.not_lt_zero _)
                · have hbi : ¬ (bk : Int) < 0 := by omega
                  have hbd : decide ((bk : Int) < 0) = false := decide_eq_false hbi
                  by_cases hb2 : SZ < bk
                  · have hbj : (SZ : Int) < (bk : Int) := by omega
                    have hbe : decide ((SZ : Int) < (bk : Int)) = true := decide_eq_true hbj
                    have HT : Hid (isD L ⟨p0, p1, p2, q0, q1, q2, r⟩ fr to bk wt = false) := by show isD _ _ _ _ _ _ = false; rw [HIG.out]; unfold firstD; rw [decide_eq_false (show ¬ bk ≤ SZ by omega), Bool.and_false]; rfl
                    go_wp2_with (go_at_call 94; refine (HCS.out _).mono ?_; rintro e x9 ⟨rfl, rfl⟩)
                    go_ret
                    exact ⟨ret_bool HT.out.symm, HWx2.out⟩
                  · have hbj : ¬ (SZ : Int) < (bk : Int) := by omega
                    have hbe : decide ((SZ : Int) < (bk : Int)) = false := decide_eq_false hbj
                    obtain ⟨mt, hmt⟩ : ∃ mt, meetsD ⟨4, xa1, xb1, ya1, yb1, (i : Int), sp1, pl1, nn1⟩ ⟨o2, xa2, xb2, ya2, yb2, ar2, sp2, pl2, nn2⟩ bk SZ = mt := ⟨_, rfl⟩
                    have HMT := hide hmt
                    have hme := fun W => HME.out bk W hbk
                    rw [hmt] at hme
                    have HMK := hide hme
                    clear hmt hme
                    go_wp2_with (go_at_call 94; refine (HCS.out _).mono ?_; rintro e x9 ⟨rfl, rfl⟩)
                    refine (HMK.out _).mono ?_
                    rintro e x3 ⟨rfl, hb3⟩
                    have HB3 : Hid (Below ((wo.alloc (.cells #[.int .i64 4, .int .i64 xa1, .int .i64 xb1, .int .i64 ya1, .int .i64 yb1, .int .i64 (i : Int), .int .i64 sp1, .int .i64 pl1, .int .i64 nn1] 65)).alloc (.cells #[.int .i64 o2, .int .i64 xa2, .int .i64 xb2, .int .i64 ya2, .int .i64 yb2, .int .i64 ar2, .int .i64 sp2, .int .i64 pl2, .int .i64 nn2] 65)).heap.size ((wo.alloc (.cells #[.int .i64 4, .int .i64 xa1, .int .i64 xb1, .int .i64 ya1, .int .i64 yb1, .int .i64 (i : Int), .int .i64 sp1, .int .i64 pl1, .int .i64 nn1] 65)).alloc (.cells #[.int .i64 o2, .int .i64 xa2, .int .i64 xb2, .int .i64 ya2, .int .i64 yb2, .int .i64 ar2, .int .i64 sp2, .int .i64 pl2, .int .i64 nn2] 65)) x3) := HB2.out.trans (hb3.mono HB2.out.size)
                    clear d0 d1 d2 d3 d4 d5 d6 d7 d8 f0 f1 f2 f3 f4 f5 f6 f7 f8 y0 y1
                    clear l0 l1 l2 t0 t1 t2 t3 t4 t5 t6 g0 g1 g2 g3 z0 z1 z2
                    obtain ⟨⟨d0, d1, d2, d3, d4, d5, d6, d7, d8⟩, ⟨f0, f1, f2, f3, f4, f5, f6, f7, f8⟩, y0, y1, hby⟩ := two_cells HB3.out
                    obtain ⟨⟨l0, l1, l2⟩, ⟨t0, t1, t2, t3, t4, t5, t6⟩, ⟨g0, g1, g2, g3⟩, z0, z1, z2, hbw⟩ := bxd_cells (HBr.out.trans (hby.mono HBr.out.size))
                    have HWx3 := hide hbw
                    clear hb3 hbw hby
                    cases mt with
                    | false =>
                      have HT : Hid (isD L ⟨p0, p1, p2, q0, q1, q2, r⟩ fr to bk wt = false) := by show isD _ _ _ _ _ _ = false; rw [HIG.out]; unfold firstD; rw [HMT.out, Bool.and_false]; rfl
                      go_wp2_with fail
                      go_ret
                      exact ⟨ret_bool HT.out.symm, HWx3.out⟩
                    | true =>
                      go_wp2_with fail
                      go_loopw [14] (fun iv wq => ∃ j : Nat, 0 ≤ j ∧ j ≤ bk ∧ iv = .int .i64 j ∧ allN (fun y => decide (y < 0) || !meetsD ⟨4, xa1, xb1, ya1, yb1, (i : Int), sp1, pl1, nn1⟩ ⟨o2, xa2, xb2, ya2, yb2, ar2, sp2, pl2, nn2⟩ y SZ) j = true ∧ Below ((wo.alloc (.cells #[.int .i64 4, .int .i64 xa1, .int .i64 xb1, .int .i64 ya1, .int .i64 yb1, .int .i64 (i : Int), .int .i64 sp1, .int .i64 pl1, .int .i64 nn1] 65)).alloc (.cells #[.int .i64 o2, .int .i64 xa2, .int .i64 xb2, .int .i64 ya2, .int .i64 yb2, .int .i64 ar2, .int .i64 sp2, .int .i64 pl2, .int .i64 nn2] 65)).heap.size ((wo.alloc (.cells #[.int .i64 4, .int .i64 xa1, .int .i64 xb1, .int .i64 ya1, .int .i64 yb1, .int .i64 (i : Int), .int .i64 sp1, .int .i64 pl1, .int .i64 nn1] 65)).alloc (.cells #[.int .i64 o2, .int .i64 xa2, .int .i64 xb2, .int .i64 ya2, .int .i64 yb2, .int .i64 ar2, .int .i64 sp2, .int .i64 pl2, .int .i64 nn2] 65)) wq) (fun iv _ => bk - (intOf iv).toNat)
                      case atStart => exact ⟨0, Nat.le_refl _, by omega, rfl, allN_lo _ _, HB3.out⟩
                      case round =>
                        clear d0 d1 d2 d3 d4 d5 d6 d7 d8 f0 f1 f2 f3 f4 f5 f6 f7 f8 y0 y1
                        clear l0 l1 l2 t0 t1 t2 t3 t4 t5 t6 g0 g1 g2 g3 z0 z1 z2
                        obtain ⟨j, hj1, hj2, rfl, hall, hbel⟩ := hrel
                        obtain ⟨⟨d0, d1, d2, d3, d4, d5, d6, d7, d8⟩, ⟨f0, f1, f2, f3, f4, f5, f6, f7, f8⟩, y0, y1, hby⟩ := two_cells hbel
                        obtain ⟨⟨l0, l1, l2⟩, ⟨t0, t1, t2, t3, t4, t5, t6⟩, ⟨g0, g1, g2, g3⟩, z0, z1, z2, hbw⟩ := bxd_cells (HBr.out.trans (hby.mono HBr.out.size))
                        have HWq := hide hbw
                        have HBq := hide hbel
                        have HAL := hide hall
                        clear hbw hby hall hbel
                        by_cases hjb : j < bk
                        · have hji : (j : Int) < (bk : Int) := by omega
                          obtain ⟨mj, hmj⟩ : ∃ mj, meetsD ⟨4, xa1, xb1, ya1, yb1, (i : Int), sp1, pl1, nn1⟩ ⟨o2, xa2, xb2, ya2, yb2, ar2, sp2, pl2, nn2⟩ j SZ = mj := ⟨_, rfl⟩
                          have HMJ := hide hmj
                          have hme := fun W => HME.out j W (by omega)
                          rw [hmj] at hme
                          have HMK2 := hide hme
                          clear hmj hme
                          go_wp2_with fail
                          refine (HMK2.out _).mono ?_
                          rintro e x4 ⟨rfl, hb4⟩
                          have HB4 : Hid (Below ((wo.alloc (.cells #[.int .i64 4, .int .i64 xa1, .int .i64 xb1, .int .i64 ya1, .int .i64 yb1, .int .i64 (i : Int), .int .i64 sp1, .int .i64 pl1, .int .i64 nn1] 65)).alloc (.cells #[.int .i64 o2, .int .i64 xa2, .int .i64 xb2, .int .i64 ya2, .int .i64 yb2, .int .i64 ar2, .int .i64 sp2, .int .i64 pl2, .int .i64 nn2] 65)).heap.size ((wo.alloc (.cells #[.int .i64 4, .int .i64 xa1, .int .i64 xb1, .int .i64 ya1, .int .i64 yb1, .int .i64 (i : Int), .int .i64 sp1, .int .i64 pl1, .int .i64 nn1] 65)).alloc (.cells #[.int .i64 o2, .int .i64 xa2, .int .i64 xb2, .int .i64 ya2, .int .i64 yb2, .int .i64 ar2, .int .i64 sp2, .int .i64 pl2, .int .i64 nn2] 65)) x4) := HBq.out.trans (hb4.mono HBq.out.size)
                          have HW4 := hide (HWq.out.trans (hb4.mono HWq.out.size))
                          clear hb4
                          cases mj with
                          | true =>
                            have HT : Hid (isD L ⟨p0, p1, p2, q0, q1, q2, r⟩ fr to bk wt = false) := by
                              show isD _ _ _ _ _ _ = false
                              rw [HIG.out]; unfold firstD; rw [allN_false (k := j) hjb (by rw [HMJ.out, decide_eq_false (show ¬ j < 0 by omega)]; rfl), Bool.and_false]
                            go_wp2_with fail
                            go_ret
                            exact ⟨ret_bool HT.out.symm, HW4.out⟩
                          | false =>
                            go_wp2_with fail
                            go_roundw
                            case rel => exact ⟨j + 1, by omega, by omega, by go_num, allN_step HAL.out (by rw [HMJ.out]; simp), HB4.out⟩
                            case measure => simp [intOf]; omega
                        · have e : j = bk := by omega
                          have hji : ¬ (j : Int) < (bk : Int) := by omega
                          have HT : Hid (isD L ⟨p0, p1, p2, q0, q1, q2, r⟩ fr to bk wt = true) := by
                            show isD _ _ _ _ _ _ = true
                            have h := HAL.out
                            rw [e] at h
                            rw [HIG.out]; unfold firstD; rw [h, HMT.out, decide_eq_true (show 0 ≤ bk by omega), decide_eq_true (show bk ≤ SZ by omega)]; rfl
                          clear e
                          go_wp2_with fail
                          go_ret
                          exact ⟨ret_bool HT.out.symm, HWq.out⟩
          · have hwb : ((wt : Int) != 1) = true := by simpa using hw
            have HT : Hid (isD L ⟨p0, p1, p2, q0, q1, q2, r⟩ fr to bk wt = false) := by show isD _ _ _ _ _ _ = false; rw [HIS.out, HMB.out, HWD.out, decide_eq_false hw]; rfl
            clear hw
            go_wp2_with fail
            go_ret
            exact ⟨ret_bool HT.out.symm, HWx2.out⟩
      · have hob : (o1 == 4) = false := by simpa using ho4
        have HWD : Hid (waitD ⟨o1, xa1, xb1, ya1, yb1, ar1, sp1, pl1, nn1⟩ = 0) := by show waitD _ = 0; unfold waitD; rw [if_neg ho4]
        go_wp2_with fail
        refine (HMEM.out _).mono ?_
        rintro e x2 ⟨rfl, hb2⟩
        have HB2 : Hid (Below ((wo.alloc (.cells #[.int .i64 o1, .int .i64 xa1, .int .i64 xb1, .int .i64 ya1, .int .i64 yb1, .int .i64 ar1, .int .i64 sp1, .int .i64 pl1, .int .i64 nn1] 65)).alloc (.cells #[.int .i64 o2, .int .i64 xa2, .int .i64 xb2, .int .i64 ya2, .int .i64 yb2, .int .i64 ar2, .int .i64 sp2, .int .i64 pl2, .int .i64 nn2] 65)).heap.size ((wo.alloc (.cells #[.int .i64 o1, .int .i64 xa1, .int .i64 xb1, .int .i64 ya1, .int .i64 yb1, .int .i64 ar1, .int .i64 sp1, .int .i64 pl1, .int .i64 nn1] 65)).alloc (.cells #[.int .i64 o2, .int .i64 xa2, .int .i64 xb2, .int .i64 ya2, .int .i64 yb2, .int .i64 ar2, .int .i64 sp2, .int .i64 pl2, .int .i64 nn2] 65)) x2) := hb2
        clear l0 l1 l2 t0 t1 t2 t3 t4 t5 t6 g0 g1 g2 g3 z0 z1 z2
        obtain ⟨⟨d0, d1, d2, d3, d4, d5, d6, d7, d8⟩, ⟨f0, f1, f2, f3, f4, f5, f6, f7, f8⟩, y0, y1, hby⟩ := two_cells HB2.out
        obtain ⟨⟨l0, l1, l2⟩, ⟨t0, t1, t2, t3, t4, t5, t6⟩, ⟨g0, g1, g2, g3⟩, z0, z1, z2, hbw⟩ := bxd_cells (HBr.out.trans (hby.mono HBr.out.size))
        have HWx2 := hide hbw
        have HLx2 := hide (HLV.out.below hby)
        clear hb2 hbw hby c0 c1 c2 c3 c4 c5 c6 c7 c8 k0 k1 k2 k3 k4 k5 k6 k7 k8
        cases mb with
        | false =>
          have HT : Hid (isD L ⟨p0, p1, p2, q0, q1, q2, r⟩ fr to bk wt = false) := by show isD _ _ _ _ _ _ = false; rw [HIS.out, HMB.out]; rfl
          go_wp2_with fail
          go_ret
          exact ⟨ret_bool HT.out.symm, HWx2.out⟩
        | true =>
          by_cases hw : (wt : Int) = 0
          · have hwb : ((wt : Int) != 0) = false := by simp [hw]
            have HIF : Hid (isD L ⟨p0, p1, p2, q0, q1, q2, r⟩ fr to bk wt = firstD ⟨o1, xa1, xb1, ya1, yb1, ar1, sp1, pl1, nn1⟩ ⟨o2, xa2, xb2, ya2, yb2, ar2, sp2, pl2, nn2⟩ (leastD fr to) bk (sizeD L ⟨o1, xa1, xb1, ya1, yb1, ar1, sp1, pl1, nn1⟩)) := by show isD _ _ _ _ _ _ = _; rw [HIS.out, HMB.out, HWD.out, decide_eq_true hw, Bool.true_and, Bool.true_and]
            obtain ⟨⟨r1, r2⟩, ⟨r3, r4⟩, r5, r6⟩ := word_range HS1.out (memD_words HMB.out).1
            obtain ⟨-, ⟨r7, r8⟩, r9, r10⟩ := word_range HS2.out (memD_words HMB.out).2
            obtain ⟨i, lg, hi, hiL, hlg, hl5, hp2, hsz0, hsz⟩ := size_nat HLO.out r1 r2
            dsimp only at r3 r4 r5 r6 r7 r8 r9 r10 hi
            subst hi
            generalize sizeD L ⟨o1, xa1, xb1, ya1, yb1, (i : Int), sp1, pl1, nn1⟩ = SZ at *
            obtain ⟨a0', cap0', hv0, -, -, -, hlc⟩ := HLx2.out
            injection hv0 with hv1 hv2 hv3
            obtain ⟨lb, lo', hv4, hlb, hlcell⟩ := hlc (by omega)
            have hlk := hlcell i hiL
            rw [hlg] at hlk
            rw [hv4] at hv1
            subst hv1
            have hii : (i : Int) < (L.logs.length : Int) := by omega
            have HCS : Hid (∀ W, Calls Try.prog 94 #[.int .i64 (lg : Int)] W fun e w' => e = .returned (.int .i64 (SZ : Int)) ∧ w' = W) := fun W => hp2 ▸ size_any lg W (by omega)
            have HME : Hid (∀ (j : Nat) W, j ≤ 32 → Calls Try.prog 95 #[.agg #[.int .i64 o1, .int .i64 xa1, .int .i64 xb1, .int .i64 ya1, .int .i64 yb1, .int .i64 (i : Int), .int .i64 sp1, .int .i64 pl1, .int .i64 nn1], .agg #[.int .i64 o2, .int .i64 xa2, .int .i64 xb2, .int .i64 ya2, .int .i64 yb2, .int .i64 ar2, .int .i64 sp2, .int .i64 pl2, .int .i64 nn2], .int .i64 j, .int .i64 SZ] W fun e w' => e = .returned (.bool (meetsD ⟨o1, xa1, xb1, ya1, yb1, (i : Int), sp1, pl1, nn1⟩ ⟨o2, xa2, xb2, ya2, yb2, ar2, sp2, pl2, nn2⟩ j SZ)) ∧ Below W.heap.size W w') := fun j W hj => meets_any ⟨o1, xa1, xb1, ya1, yb1, (i : Int), sp1, pl1, nn1⟩ ⟨o2, xa2, xb2, ya2, yb2, ar2, sp2, pl2, nn2⟩ j SZ W hsz0 hsz hj r3 r4 r5 r6 r7 r8 r9 r10
            clear hlc hlcell hv2 hv3 hv4 r1 r2 r3 r4 r5 r6 r7 r8 r9 r10 hp2
            by_cases hle : to ≤ fr
            · as_aux_lemma =>
                have HLD : Hid (leastD fr to = 1) := by show leastD fr to = 1; unfold leastD; rw [if_pos hle]
                have hge : (to : Int) ≤ (fr : Int) := by omega
                have HIG : Hid (isD L ⟨p0, p1, p2, q0, q1, q2, r⟩ fr to bk wt = firstD ⟨o1, xa1, xb1, ya1, yb1, (i : Int), sp1, pl1, nn1⟩ ⟨o2, xa2, xb2, ya2, yb2, ar2, sp2, pl2, nn2⟩ 1 bk SZ) := by show isD _ _ _ _ _ _ = _; rw [HIF.out, HLD.out]
                by_cases hb1 : bk < 1
                · have hbi : (bk : Int) < 1 := by omega
                  have hbd : decide ((bk : Int) < 1) = true := decide_eq_true hbi
                  have HT : Hid (isD L ⟨p0, p1, p2, q0, q1, q2, r⟩ fr to bk wt = false) := by show isD _ _ _ _ _ _ = false; rw [HIG.out]; unfold firstD; rw [decide_eq_false (show ¬ 1 ≤ bk by omega)]; rfl
                  go_wp2_with (go_at_call 94; refine (HCS.out _).mono ?_; rintro e x9 ⟨rfl, rfl⟩)
                  go_ret
                  exact ⟨ret_bool HT.out.symm, HWx2.out⟩
                · have hbi : ¬ (bk : Int) < 1 := by omega
                  have hbd : decide ((bk : Int) < 1) = false := decide_eq_false hbi
                  by_cases hb2 : SZ < bk
                  · have hbj : (SZ : Int) < (bk : Int) := by omega
                    have hbe : decide ((SZ : Int) < (bk : Int)) = true := decide_eq_true hbj
                    have HT : Hid (isD L ⟨p0, p1, p2, q0, q1, q2, r⟩ fr to bk wt = false) := by show isD _ _ _ _ _ _ = false; rw [HIG.out]; unfold firstD; rw [decide_eq_false (show ¬ bk ≤ SZ by omega), Bool.and_false]; rfl
                    go_wp2_with (go_at_call 94; refine (HCS.out _).mono ?_; rintro e x9 ⟨rfl, rfl⟩)
                    go_ret
                    exact ⟨ret_bool HT.out.symm, HWx2.out⟩
                  · have hbj : ¬ (SZ : Int) < (bk : Int) := by omega
                    have hbe : decide ((SZ : Int) < (bk : Int)) = false := decide_eq_false hbj
                    obtain ⟨mt, hmt⟩ : ∃ mt, meetsD ⟨o1, xa1, xb1, ya1, yb1, (i : Int), sp1, pl1, nn1⟩ ⟨o2, xa2, xb2, ya2, yb2, ar2, sp2, pl2, nn2⟩ bk SZ = mt := ⟨_, rfl⟩
                    have HMT := hide hmt
                    have hme := fun W => HME.out bk W hbk
                    rw [hmt] at hme
                    have HMK := hide hme
                    clear hmt hme
                    go_wp2_with (go_at_call 94; refine (HCS.out _).mono ?_; rintro e x9 ⟨rfl, rfl⟩)
                    refine (HMK.out _).mono ?_
                    rintro e x3 ⟨rfl, hb3⟩
                    have HB3 : Hid (Below ((wo.alloc (.cells #[.int .i64 o1, .int .i64 xa1, .int .i64 xb1, .int .i64 ya1, .int .i64 yb1, .int .i64 (i : Int), .int .i64 sp1, .int .i64 pl1, .int .i64 nn1] 65)).alloc (.cells #[.int .i64 o2, .int .i64 xa2, .int .i64 xb2, .int .i64 ya2, .int .i64 yb2, .int .i64 ar2, .int .i64 sp2, .int .i64 pl2, .int .i64 nn2] 65)).heap.size ((wo.alloc (.cells #[.int .i64 o1, .int .i64 xa1, .int .i64 xb1, .int .i64 ya1, .int .i64 yb1, .int .i64 (i : Int), .int .i64 sp1, .int .i64 pl1, .int .i64 nn1] 65)).alloc (.cells #[.int .i64 o2, .int .i64 xa2, .int .i64 xb2, .int .i64 ya2, .int .i64 yb2, .int .i64 ar2, .int .i64 sp2, .int .i64 pl2, .int .i64 nn2] 65)) x3) := HB2.out.trans (hb3.mono HB2.out.size)
                    clear d0 d1 d2 d3 d4 d5 d6 d7 d8 f0 f1 f2 f3 f4 f5 f6 f7 f8 y0 y1
                    clear l0 l1 l2 t0 t1 t2 t3 t4 t5 t6 g0 g1 g2 g3 z0 z1 z2
                    obtain ⟨⟨d0, d1, d2, d3, d4, d5, d6, d7, d8⟩, ⟨f0, f1, f2, f3, f4, f5, f6, f7, f8⟩, y0, y1, hby⟩ := two_cells HB3.out
                    obtain ⟨⟨l0, l1, l2⟩, ⟨t0, t1, t2, t3, t4, t5, t6⟩, ⟨g0, g1, g2, g3⟩, z0, z1, z2, hbw⟩ := bxd_cells (HBr.out.trans (hby.mono HBr.out.size))
                    have HWx3 := hide hbw
                    clear hb3 hbw hby
                    cases mt with
                    | false =>
                      have HT : Hid (isD L ⟨p0, p1, p2, q0, q1, q2, r⟩ fr to bk wt = false) := by show isD _ _ _ _ _ _ = false; rw [HIG.out]; unfold firstD; rw [HMT.out, Bool.and_false]; rfl
                      go_wp2_with fail
                      go_ret
                      exact ⟨ret_bool HT.out.symm, HWx3.out⟩
                    | true =>
                      go_wp2_with fail
                      go_loopw [14] (fun iv wq => ∃ j : Nat, 1 ≤ j ∧ j ≤ bk ∧ iv = .int .i64 j ∧ allN (fun y => decide (y < 1) || !meetsD ⟨o1, xa1, xb1, ya1, yb1, (i : Int), sp1, pl1, nn1⟩ ⟨o2, xa2, xb2, ya2, yb2, ar2, sp2, pl2, nn2⟩ y SZ) j = true ∧ Below ((wo.alloc (.cells #[.int .i64 o1, .int .i64 xa1, .int .i64 xb1, .int .i64 ya1, .int .i64 yb1, .int .i64 (i : Int), .int .i64 sp1, .int .i64 pl1, .int .i64 nn1] 65)).alloc (.cells #[.int .i64 o2, .int .i64 xa2, .int .i64 xb2, .int .i64 ya2, .int .i64 yb2, .int .i64 ar2, .int .i64 sp2, .int .i64 pl2, .int .i64 nn2] 65)).heap.size ((wo.alloc (.cells #[.int .i64 o1, .int .i64 xa1, .int .i64 xb1, .int .i64 ya1, .int .i64 yb1, .int .i64 (i : Int), .int .i64 sp1, .int .i64 pl1, .int .i64 nn1] 65)).alloc (.cells #[.int .i64 o2, .int .i64 xa2, .int .i64 xb2, .int .i64 ya2, .int .i64 yb2, .int .i64 ar2, .int .i64 sp2, .int .i64 pl2, .int .i64 nn2] 65)) wq) (fun iv _ => bk - (intOf iv).toNat)
                      case atStart => exact ⟨1, Nat.le_refl _, by omega, rfl, allN_lo _ _, HB3.out⟩
                      case round =>
                        clear d0 d1 d2 d3 d4 d5 d6 d7 d8 f0 f1 f2 f3 f4 f5 f6 f7 f8 y0 y1
                        clear l0 l1 l2 t0 t1 t2 t3 t4 t5 t6 g0 g1 g2 g3 z0 z1 z2
                        obtain ⟨j, hj1, hj2, rfl, hall, hbel⟩ := hrel
                        obtain ⟨⟨d0, d1, d2, d3, d4, d5, d6, d7, d8⟩, ⟨f0, f1, f2, f3, f4, f5, f6, f7, f8⟩, y0, y1, hby⟩ := two_cells hbel
                        obtain ⟨⟨l0, l1, l2⟩, ⟨t0, t1, t2, t3, t4, t5, t6⟩, ⟨g0, g1, g2, g3⟩, z0, z1, z2, hbw⟩ := bxd_cells (HBr.out.trans (hby.mono HBr.out.size))
                        have HWq := hide hbw
                        have HBq := hide hbel
                        have HAL := hide hall
                        clear hbw hby hall hbel
                        by_cases hjb : j < bk
                        · have hji : (j : Int) < (bk : Int) := by omega
                          obtain ⟨mj, hmj⟩ : ∃ mj, meetsD ⟨o1, xa1, xb1, ya1, yb1, (i : Int), sp1, pl1, nn1⟩ ⟨o2, xa2, xb2, ya2, yb2, ar2, sp2, pl2, nn2⟩ j SZ = mj := ⟨_, rfl⟩
                          have HMJ := hide hmj
                          have hme := fun W => HME.out j W (by omega)
                          rw [hmj] at hme
                          have HMK2 := hide hme
                          clear hmj hme
                          go_wp2_with fail
                          refine (HMK2.out _).mono ?_
                          rintro e x4 ⟨rfl, hb4⟩
                          have HB4 : Hid (Below ((wo.alloc (.cells #[.int .i64 o1, .int .i64 xa1, .int .i64 xb1, .int .i64 ya1, .int .i64 yb1, .int .i64 (i : Int), .int .i64 sp1, .int .i64 pl1, .int .i64 nn1] 65)).alloc (.cells #[.int .i64 o2, .int .i64 xa2, .int .i64 xb2, .int .i64 ya2, .int .i64 yb2, .int .i64 ar2, .int .i64 sp2, .int .i64 pl2, .int .i64 nn2] 65)).heap.size ((wo.alloc (.cells #[.int .i64 o1, .int .i64 xa1, .int .i64 xb1, .int .i64 ya1, .int .i64 yb1, .int .i64 (i : Int), .int .i64 sp1, .int .i64 pl1, .int .i64 nn1] 65)).alloc (.cells #[.int .i64 o2, .int .i64 xa2, .int .i64 xb2, .int .i64 ya2, .int .i64 yb2, .int .i64 ar2, .int .i64 sp2, .int .i64 pl2, .int .i64 nn2] 65)) x4) := HBq.out.trans (hb4.mono HBq.out.size)
                          have HW4 := hide (HWq.out.trans (hb4.mono HWq.out.size))
                          clear hb4
                          cases mj with
                          | true =>
                            have HT : Hid (isD L ⟨p0, p1, p2, q0, q1, q2, r⟩ fr to bk wt = false) := by
                              show isD _ _ _ _ _ _ = false
                              rw [HIG.out]; unfold firstD; rw [allN_false (k := j) hjb (by rw [HMJ.out, decide_eq_false (show ¬ j < 1 by omega)]; rfl), Bool.and_false]
                            go_wp2_with fail
                            go_ret
                            exact ⟨ret_bool HT.out.symm, HW4.out⟩
                          | false =>
                            go_wp2_with fail
                            go_roundw
                            case rel => exact ⟨j + 1, by omega, by omega, by go_num, allN_step HAL.out (by rw [HMJ.out]; simp), HB4.out⟩
                            case measure => simp [intOf]; omega
                        · have e : j = bk := by omega
                          have hji : ¬ (j : Int) < (bk : Int) := by omega
                          have HT : Hid (isD L ⟨p0, p1, p2, q0, q1, q2, r⟩ fr to bk wt = true) := by
                            show isD _ _ _ _ _ _ = true
                            have h := HAL.out
                            rw [e] at h
                            rw [HIG.out]; unfold firstD; rw [h, HMT.out, decide_eq_true (show 1 ≤ bk by omega), decide_eq_true (show bk ≤ SZ by omega)]; rfl
                          clear e
                          go_wp2_with fail
                          go_ret
                          exact ⟨ret_bool HT.out.symm, HWq.out⟩
            · as_aux_lemma =>
                have HLD : Hid (leastD fr to = 0) := by show leastD fr to = 0; unfold leastD; rw [if_neg hle]
                have hge : ¬ (to : Int) ≤ (fr : Int) := by omega
                have HIG : Hid (isD L ⟨p0, p1, p2, q0, q1, q2, r⟩ fr to bk wt = firstD ⟨o1, xa1, xb1, ya1, yb1, (i : Int), sp1, pl1, nn1⟩ ⟨o2, xa2, xb2, ya2, yb2, ar2, sp2, pl2, nn2⟩ 0 bk SZ) := by show isD _ _ _ _ _ _ = _; rw [HIF.out, HLD.out]
                by_cases hb1 : bk < 0
                · exact absurd hb1 (Nat.not_lt_zero _)
                · have hbi : ¬ (bk : Int) < 0 := by omega
                  have hbd : decide ((bk : Int) < 0) = false := decide_eq_false hbi
                  by_cases hb2 : SZ < bk
                  · have hbj : (SZ : Int) < (bk : Int) := by omega
                    have hbe : decide ((SZ : Int) < (bk : Int)) = true := decide_eq_true hbj
                    have HT : Hid (isD L ⟨p0, p1, p2, q0, q1, q2, r⟩ fr to bk wt = false) := by show isD _ _ _ _ _ _ = false; rw [HIG.out]; unfold firstD; rw [decide_eq_false (show ¬ bk ≤ SZ by omega), Bool.and_false]; rfl
                    go_wp2_with (go_at_call 94; refine (HCS.out _).mono ?_; rintro e x9 ⟨rfl, rfl⟩)
                    go_ret
                    exact ⟨ret_bool HT.out.symm, HWx2.out⟩
                  · have hbj : ¬ (SZ : Int) < (bk : Int) := by omega
                    have hbe : decide ((SZ : Int) < (bk : Int)) = false := decide_eq_false hbj
                    obtain ⟨mt, hmt⟩ : ∃ mt, meetsD ⟨o1, xa1, xb1, ya1, yb1, (i : Int), sp1, pl1, nn1⟩ ⟨o2, xa2, xb2, ya2, yb2, ar2, sp2, pl2, nn2⟩ bk SZ = mt := ⟨_, rfl⟩
                    have HMT := hide hmt
                    have hme := fun W => HME.out bk W hbk
                    rw [hmt] at hme
                    have HMK := hide hme
                    clear hmt hme
                    go_wp2_with (go_at_call 94; refine (HCS.out _).mono ?_; rintro e x9 ⟨rfl, rfl⟩)
                    refine (HMK.out _).mono ?_
                    rintro e x3 ⟨rfl, hb3⟩
                    have HB3 : Hid (Below ((wo.alloc (.cells #[.int .i64 o1, .int .i64 xa1, .int .i64 xb1, .int .i64 ya1, .int .i64 yb1, .int .i64 (i : Int), .int .i64 sp1, .int .i64 pl1, .int .i64 nn1] 65)).alloc (.cells #[.int .i64 o2, .int .i64 xa2, .int .i64 xb2, .int .i64 ya2, .int .i64 yb2, .int .i64 ar2, .int .i64 sp2, .int .i64 pl2, .int .i64 nn2] 65)).heap.size ((wo.alloc (.cells #[.int .i64 o1, .int .i64 xa1, .int .i64 xb1, .int .i64 ya1, .int .i64 yb1, .int .i64 (i : Int), .int .i64 sp1, .int .i64 pl1, .int .i64 nn1] 65)).alloc (.cells #[.int .i64 o2, .int .i64 xa2, .int .i64 xb2, .int .i64 ya2, .int .i64 yb2, .int .i64 ar2, .int .i64 sp2, .int .i64 pl2, .int .i64 nn2] 65)) x3) := HB2.out.trans (hb3.mono HB2.out.size)
                    clear d0 d1 d2 d3 d4 d5 d6 d7 d8 f0 f1 f2 f3 f4 f5 f6 f7 f8 y0 y1
                    clear l0 l1 l2 t0 t1 t2 t3 t4 t5 t6 g0 g1 g2 g3 z0 z1 z2
                    obtain ⟨⟨d0, d1, d2, d3, d4, d5, d6, d7, d8⟩, ⟨f0, f1, f2, f3, f4, f5, f6, f7, f8⟩, y0, y1, hby⟩ := two_cells HB3.out
                    obtain ⟨⟨l0, l1, l2⟩, ⟨t0, t1, t2, t3, t4, t5, t6⟩, ⟨g0, g1, g2, g3⟩, z0, z1, z2, hbw⟩ := bxd_cells (HBr.out.trans (hby.mono HBr.out.size))
                    have HWx3 := hide hbw
                    clear hb3 hbw hby
                    cases mt with
                    | false =>
                      have HT : Hid (isD L ⟨p0, p1, p2, q0, q1, q2, r⟩ fr to bk wt = false) := by show isD _ _ _ _ _ _ = false; rw [HIG.out]; unfold firstD; rw [HMT.out, Bool.and_false]; rfl
                      go_wp2_with fail
                      go_ret
                      exact ⟨ret_bool HT.out.symm, HWx3.out⟩
                    | true =>
                      go_wp2_with fail
                      go_loopw [14] (fun iv wq => ∃ j : Nat, 0 ≤ j ∧ j ≤ bk ∧ iv = .int .i64 j ∧ allN (fun y => decide (y < 0) || !meetsD ⟨o1, xa1, xb1, ya1, yb1, (i : Int), sp1, pl1, nn1⟩ ⟨o2, xa2, xb2, ya2, yb2, ar2, sp2, pl2, nn2⟩ y SZ) j = true ∧ Below ((wo.alloc (.cells #[.int .i64 o1, .int .i64 xa1, .int .i64 xb1, .int .i64 ya1, .int .i64 yb1, .int .i64 (i : Int), .int .i64 sp1, .int .i64 pl1, .int .i64 nn1] 65)).alloc (.cells #[.int .i64 o2, .int .i64 xa2, .int .i64 xb2, .int .i64 ya2, .int .i64 yb2, .int .i64 ar2, .int .i64 sp2, .int .i64 pl2, .int .i64 nn2] 65)).heap.size ((wo.alloc (.cells #[.int .i64 o1, .int .i64 xa1, .int .i64 xb1, .int .i64 ya1, .int .i64 yb1, .int .i64 (i : Int), .int .i64 sp1, .int .i64 pl1, .int .i64 nn1] 65)).alloc (.cells #[.int .i64 o2, .int .i64 xa2, .int .i64 xb2, .int .i64 ya2, .int .i64 yb2, .int .i64 ar2, .int .i64 sp2, .int .i64 pl2, .int .i64 nn2] 65)) wq) (fun iv _ => bk - (intOf iv).toNat)
                      case atStart => exact ⟨0, Nat.le_refl _, by omega, rfl, allN_lo _ _, HB3.out⟩
                      case round =>
                        clear d0 d1 d2 d3 d4 d5 d6 d7 d8 f0 f1 f2 f3 f4 f5 f6 f7 f8 y0 y1
                        clear l0 l1 l2 t0 t1 t2 t3 t4 t5 t6 g0 g1 g2 g3 z0 z1 z2
                        obtain ⟨j, hj1, hj2, rfl, hall, hbel⟩ := hrel
                        obtain ⟨⟨d0, d1, d2, d3, d4, d5, d6, d7, d8⟩, ⟨f0, f1, f2, f3, f4, f5, f6, f7, f8⟩, y0, y1, hby⟩ := two_cells hbel
                        obtain ⟨⟨l0, l1, l2⟩, ⟨t0, t1, t2, t3, t4, t5, t6⟩, ⟨g0, g1, g2, g3⟩, z0, z1, z2, hbw⟩ := bxd_cells (HBr.out.trans (hby.mono HBr.out.size))
                        have HWq := hide hbw
                        have HBq := hide hbel
                        have HAL := hide hall
                        clear hbw hby hall hbel
                        by_cases hjb : j < bk
                        · have hji : (j : Int) < (bk : Int) := by omega
                          obtain ⟨mj, hmj⟩ : ∃ mj, meetsD ⟨o1, xa1, xb1, ya1, yb1, (i : Int), sp1, pl1, nn1⟩ ⟨o2, xa2, xb2, ya2, yb2, ar2, sp2, pl2, nn2⟩ j SZ = mj := ⟨_, rfl⟩
                          have HMJ := hide hmj
                          have hme := fun W => HME.out j W (by omega)
                          rw [hmj] at hme
                          have HMK2 := hide hme
                          clear hmj hme
                          go_wp2_with fail
                          refine (HMK2.out _).mono ?_
                          rintro e x4 ⟨rfl, hb4⟩
                          have HB4 : Hid (Below ((wo.alloc (.cells #[.int .i64 o1, .int .i64 xa1, .int .i64 xb1, .int .i64 ya1, .int .i64 yb1, .int .i64 (i : Int), .int .i64 sp1, .int .i64 pl1, .int .i64 nn1] 65)).alloc (.cells #[.int .i64 o2, .int .i64 xa2, .int .i64 xb2, .int .i64 ya2, .int .i64 yb2, .int .i64 ar2, .int .i64 sp2, .int .i64 pl2, .int .i64 nn2] 65)).heap.size ((wo.alloc (.cells #[.int .i64 o1, .int .i64 xa1, .int .i64 xb1, .int .i64 ya1, .int .i64 yb1, .int .i64 (i : Int), .int .i64 sp1, .int .i64 pl1, .int .i64 nn1] 65)).alloc (.cells #[.int .i64 o2, .int .i64 xa2, .int .i64 xb2, .int .i64 ya2, .int .i64 yb2, .int .i64 ar2, .int .i64 sp2, .int .i64 pl2, .int .i64 nn2] 65)) x4) := HBq.out.trans (hb4.mono HBq.out.size)
                          have HW4 := hide (HWq.out.trans (hb4.mono HWq.out.size))
                          clear hb4
                          cases mj with
                          | true =>
                            have HT : Hid (isD L ⟨p0, p1, p2, q0, q1, q2, r⟩ fr to bk wt = false) := by
                              show isD _ _ _ _ _ _ = false
                              rw [HIG.out]; unfold firstD; rw [allN_false (k := j) hjb (by rw [HMJ.out, decide_eq_false (show ¬ j < 0 by omega)]; rfl), Bool.and_false]
                            go_wp2_with fail
                            go_ret
                            exact ⟨ret_bool HT.out.symm, HW4.out⟩
                          | false =>
                            go_wp2_with fail
                            go_roundw
                            case rel => exact ⟨j + 1, by omega, by omega, by go_num, allN_step HAL.out (by rw [HMJ.out]; simp), HB4.out⟩
                            case measure => simp [intOf]; omega
                        · have e : j = bk := by omega
                          have hji : ¬ (j : Int) < (bk : Int) := by omega
                          have HT : Hid (isD L ⟨p0, p1, p2, q0, q1, q2, r⟩ fr to bk wt = true) := by
                            show isD _ _ _ _ _ _ = true
                            have h := HAL.out
                            rw [e] at h
                            rw [HIG.out]; unfold firstD; rw [h, HMT.out, decide_eq_true (show 0 ≤ bk by omega), decide_eq_true (show bk ≤ SZ by omega)]; rfl
                          clear e
                          go_wp2_with fail
                          go_ret
                          exact ⟨ret_bool HT.out.symm, HWq.out⟩
          · have hwb : ((wt : Int) != 0) = true := by simpa using hw
            have HT : Hid (isD L ⟨p0, p1, p2, q0, q1, q2, r⟩ fr to bk wt = false) := by show isD _ _ _ _ _ _ = false; rw [HIS.out, HMB.out, HWD.out, decide_eq_false hw]; rfl
            clear hw
            go_wp2_with fail
            go_ret
            exact ⟨ret_bool HT.out.symm, HWx2.out⟩
end Go.Proofs.Ytjoapiafpahihab
