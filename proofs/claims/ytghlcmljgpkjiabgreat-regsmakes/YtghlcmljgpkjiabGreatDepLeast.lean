/- The contract of package dep's leastBack: the least number of turns on for which two words meet; nothing that was there is changed. -/
import Derived.Test.YtghlcmljgpkjiabGreatDepSmall
import Derived.Test.YtghlcmljgpkjiabGreatRef6Is
import Derived.Test.YtghlcmljgpkjiabGreatLoopP
import Derived.Deep.RegionHeld3
import Derived.BigRegion
namespace Go.Proofs.YtghlcmljgpkjiabGreat
open Go.RowKit Go.Joins
set_option linter.unusedVariables false

def lbV (o : Option Nat) : Int := match o with | some b => (b : Int) | none => 0
def lbB (o : Option Nat) : Bool := match o with | some _ => true | none => false

theorem no_step {p : Nat → Bool} {lo k : Nat} (h : ∀ j, lo ≤ j → j < k → p j = false) (hk : p k = false) : ∀ j, lo ≤ j → j < k + 1 → p j = false := fun j h1 h2 => by
  by_cases e : j = k
  · rw [e]; exact hk
  · exact h j h1 (by omega)
theorem below_drew1 (n : Nat) (w : World) : Below n w w.drew := below_draws _ _ 1
theorem two_up {w y : World} {o : Obj} {o1 xa1 xb1 ya1 yb1 ar1 sp1 pl1 nn1 o2 xa2 xb2 ya2 yb2 ar2 sp2 pl2 nn2 : Int} {ta tb : TypeId} (h : Below (((w.alloc o).alloc (.cells #[.int .i64 o1, .int .i64 xa1, .int .i64 xb1, .int .i64 ya1, .int .i64 yb1, .int .i64 ar1, .int .i64 sp1, .int .i64 pl1, .int .i64 nn1] ta)).alloc (.cells #[.int .i64 o2, .int .i64 xa2, .int .i64 xb2, .int .i64 ya2, .int .i64 yb2, .int .i64 ar2, .int .i64 sp2, .int .i64 pl2, .int .i64 nn2] tb)).heap.size (((w.alloc o).alloc (.cells #[.int .i64 o1, .int .i64 xa1, .int .i64 xb1, .int .i64 ya1, .int .i64 yb1, .int .i64 ar1, .int .i64 sp1, .int .i64 pl1, .int .i64 nn1] ta)).alloc (.cells #[.int .i64 o2, .int .i64 xa2, .int .i64 xb2, .int .i64 ya2, .int .i64 yb2, .int .i64 ar2, .int .i64 sp2, .int .i64 pl2, .int .i64 nn2] tb)) y) :
    (y.cell? ⟨w.heap.size + 1, 0, none⟩ = some (.int .i64 o1) ∧ y.cell? ⟨w.heap.size + 1, 1, none⟩ = some (.int .i64 xa1) ∧ y.cell? ⟨w.heap.size + 1, 2, none⟩ = some (.int .i64 xb1) ∧ y.cell? ⟨w.heap.size + 1, 3, none⟩ = some (.int .i64 ya1) ∧ y.cell? ⟨w.heap.size + 1, 4, none⟩ = some (.int .i64 yb1) ∧ y.cell? ⟨w.heap.size + 1, 5, none⟩ = some (.int .i64 ar1) ∧ y.cell? ⟨w.heap.size + 1, 6, none⟩ = some (.int .i64 sp1) ∧ y.cell? ⟨w.heap.size + 1, 7, none⟩ = some (.int .i64 pl1) ∧ y.cell? ⟨w.heap.size + 1, 8, none⟩ = some (.int .i64 nn1)) ∧
    (y.cell? ⟨w.heap.size + 1 + 1, 0, none⟩ = some (.int .i64 o2) ∧ y.cell? ⟨w.heap.size + 1 + 1, 1, none⟩ = some (.int .i64 xa2) ∧ y.cell? ⟨w.heap.size + 1 + 1, 2, none⟩ = some (.int .i64 xb2) ∧ y.cell? ⟨w.heap.size + 1 + 1, 3, none⟩ = some (.int .i64 ya2) ∧ y.cell? ⟨w.heap.size + 1 + 1, 4, none⟩ = some (.int .i64 yb2) ∧ y.cell? ⟨w.heap.size + 1 + 1, 5, none⟩ = some (.int .i64 ar2) ∧ y.cell? ⟨w.heap.size + 1 + 1, 6, none⟩ = some (.int .i64 sp2) ∧ y.cell? ⟨w.heap.size + 1 + 1, 7, none⟩ = some (.int .i64 pl2) ∧ y.cell? ⟨w.heap.size + 1 + 1, 8, none⟩ = some (.int .i64 nn2)) ∧ w.heap.size + 1 < y.heap.size ∧ w.heap.size + 1 + 1 < y.heap.size ∧ Below w.heap.size w y := by
  have e : (w.alloc o).heap.size = w.heap.size + 1 := by simp
  obtain ⟨h1, h2, h3, h4, h5⟩ := two_cells h
  rw [e] at h1 h2 h3 h4
  exact ⟨h1, h2, h3, h4, (below_alloc1 w o).trans (h5.mono (by rw [e]; omega))⟩
set_option maxHeartbeats 4000000 in
set_option maxRecDepth 100000 in
theorem least_walk (v1' v2 : Value) (fr to arn lgN n : Nat) (o1 xa1 xb1 ya1 yb1 sp1 pl1 nn1 o2 xa2 xb2 ya2 yb2 ar2 sp2 pl2 nn2 : Int) (lb loff cap0 b off cap SZ lo m : Nat) (w : World) (hfr : fr < n) (hto : to < n) (hn : n ≤ 16) (hnc : n ≤ cap) (hcap : cap ≤ 9223372036854775807) (hml : arn < m) (hmc : m ≤ cap0) (hc0 : cap0 ≤ 9223372036854775807) (hb : b < w.heap.size) (hlb : lb < w.heap.size)
    (ha : ∀ j, j < 9 → w.cell? ⟨b, off + fr * 9 + j, none⟩ = (stCells ⟨o1, xa1, xb1, ya1, yb1, arn, sp1, pl1, nn1⟩)[j]?) (hc : ∀ j, j < 9 → w.cell? ⟨b, off + to * 9 + j, none⟩ = (stCells ⟨o2, xa2, xb2, ya2, yb2, ar2, sp2, pl2, nn2⟩)[j]?) (hlg : w.cell? ⟨lb, loff + arn, none⟩ = some (.int .i64 lgN)) (hl5 : lgN ≤ 5) (hSZ : 2 ^ lgN = SZ) (hS : SZ ≤ 32) (hlo : leastD fr to = lo) (h1 : -64 ≤ sp1) (h2 : sp1 ≤ 64) (h3 : -64 ≤ pl1) (h4 : pl1 ≤ 64) (h5 : -64 ≤ sp2) (h6 : sp2 ≤ 64) (h7 : -64 ≤ pl2) (h8 : pl2 ≤ 64) :
    Calls Tryz.prog 141 #[.agg #[.slice (some ⟨lb, loff, none⟩) m cap0, .slice (some ⟨b, off, none⟩) n cap, v2], .int .i64 fr, .int .i64 to] w fun e w' => e = .returned (.tuple #[.int .i64 (lbV (lbD ⟨o1, xa1, xb1, ya1, yb1, arn, sp1, pl1, nn1⟩ ⟨o2, xa2, xb2, ya2, yb2, ar2, sp2, pl2, nn2⟩ lo SZ)), .bool (lbB (lbD ⟨o1, xa1, xb1, ya1, yb1, arn, sp1, pl1, nn1⟩ ⟨o2, xa2, xb2, ya2, yb2, ar2, sp2, pl2, nn2⟩ lo SZ))]) ∧ Below w.heap.size w w' := by
  obtain ⟨a0, a1, a2, a3, a4, a5, a6, a7, a8⟩ := nine ha
  obtain ⟨c0, c1, c2, c3, c4, c5, c6, c7, c8⟩ := nine hc
  dsimp only at a0 a1 a2 a3 a4 a5 a6 a7 a8 c0 c1 c2 c3 c4 c5 c6 c7 c8
  have HMT := hide (fun (k : Nat) W (hk : k ≤ 32) => meet_nine o1 xa1 xb1 ya1 yb1 arn sp1 pl1 nn1 o2 xa2 xb2 ya2 yb2 ar2 sp2 pl2 nn2 lgN k SZ W (by omega) (by omega) (by simpa using hSZ) (by rw [shl_one _ (by omega) (by omega)]; rw [show ((lgN : Nat) : Int).toNat = lgN from Int.toNat_natCast _, hSZ]) hS hk h1 h2 h3 h4 h5 h6 h7 h8)
  have hsh : wrap64 (2 ^ lgN) = (SZ : Int) := by have := shl_one lgN (by omega) (by omega); rw [show ((lgN : Nat) : Int).toNat = lgN from Int.toNat_natCast _, hSZ] at this; exact this
  have HSH := hide hsh
  clear hsh
  have hfi : (fr : Int) < (n : Int) := by omega
  have hti : (to : Int) < (n : Int) := by omega
  have hmi : (arn : Int) < (m : Int) := by omega
  have hb1 : b < w.heap.size + 1 := by omega
  have hb2 : b < w.heap.size + 1 + 1 := by omega
  have hd1 : lb < w.heap.size + 1 := by omega
  have hd2 : lb < w.heap.size + 1 + 1 := by omega
  clear ha hc hSZ
  by_cases hft : fr < to
  · have hfti : (fr : Int) < (to : Int) := by omega
    have HLO : Hid (lo = 0) := by show lo = 0; rw [← hlo]; unfold leastD; rw [if_neg (by omega)]
    clear hlo
    go_enter Tryz.func141, Tryz.ntmps141
    go_wp2_with fail
    go_region
    · go_wp2_with fail
      go_loopw [12] (fun i wr => ∃ k : Nat, 0 ≤ k ∧ k ≤ SZ + 1 ∧ i = .int .i64 k ∧ (∀ j, 0 ≤ j → j < k → meetsD ⟨o1, xa1, xb1, ya1, yb1, arn, sp1, pl1, nn1⟩ ⟨o2, xa2, xb2, ya2, yb2, ar2, sp2, pl2, nn2⟩ j SZ = false) ∧ Below (((w.alloc (.cells #[.slice (some ⟨lb, loff, none⟩) m cap0, .slice (some ⟨b, off, none⟩) n cap, v2] 25)).alloc (.cells #[.int .i64 o1, .int .i64 xa1, .int .i64 xb1, .int .i64 ya1, .int .i64 yb1, .int .i64 arn, .int .i64 sp1, .int .i64 pl1, .int .i64 nn1] 41)).alloc (.cells #[.int .i64 o2, .int .i64 xa2, .int .i64 xb2, .int .i64 ya2, .int .i64 yb2, .int .i64 ar2, .int .i64 sp2, .int .i64 pl2, .int .i64 nn2] 41)).heap.size (((w.alloc (.cells #[.slice (some ⟨lb, loff, none⟩) m cap0, .slice (some ⟨b, off, none⟩) n cap, v2] 25)).alloc (.cells #[.int .i64 o1, .int .i64 xa1, .int .i64 xb1, .int .i64 ya1, .int .i64 yb1, .int .i64 arn, .int .i64 sp1, .int .i64 pl1, .int .i64 nn1] 41)).alloc (.cells #[.int .i64 o2, .int .i64 xa2, .int .i64 xb2, .int .i64 ya2, .int .i64 yb2, .int .i64 ar2, .int .i64 sp2, .int .i64 pl2, .int .i64 nn2] 41)) wr) (fun i _ => SZ + 1 - (intOf i).toNat)
      case atStart => exact ⟨0, Nat.le_refl _, by omega, rfl, fun j h1 h2 => absurd h2 (by omega), below_drew1 _ _⟩
      case round =>
        obtain ⟨k, hk1, hk2, rfl, hno, hbel⟩ := hrel
        have HNO := hide hno
        have HB := hide hbel
        obtain ⟨⟨g0, g1, g2, g3, g4, g5, g6, g7, g8⟩, ⟨d0, d1, d2, d3, d4, d5, d6, d7, d8⟩, z0, z1, hbw⟩ := two_up hbel
        have HW := hide hbw
        clear hno hbel hbw
        by_cases hlt : k ≤ SZ
        · have hki : (k : Int) ≤ (SZ : Int) := by omega
          cases hme : meetsD ⟨o1, xa1, xb1, ya1, yb1, arn, sp1, pl1, nn1⟩ ⟨o2, xa2, xb2, ya2, yb2, ar2, sp2, pl2, nn2⟩ k SZ with
          | true =>
            have HR : Hid (lbD ⟨o1, xa1, xb1, ya1, yb1, arn, sp1, pl1, nn1⟩ ⟨o2, xa2, xb2, ya2, yb2, ar2, sp2, pl2, nn2⟩ 0 SZ = some k) := lb_some hk1 hlt hme HNO.out
            have HM := hide (HMT.out k wr (by omega))
            rw [hme] at HM
            clear hme
            have hsh := HSH.out
            go_wp2_with fail
            clear hsh
            refine HM.out.mono ?_
            rintro e x1 ⟨rfl, hb3⟩
            have HW2 := hide (HW.out.trans (hb3.mono HW.out.size))
            clear hb3
            go_wp2_with fail
            exact bodyPost_ret (v := .tuple #[.int .i64 k, .bool true]) (by simp [results, Tryz.results141, go_sem]) rfl ⟨by rw [HLO.out, HR.out]; rfl, HW2.out⟩
          | false =>
            have HM := hide (HMT.out k wr (by omega))
            rw [hme] at HM
            have HF := hide hme
            clear hme
            have hsh := HSH.out
            go_wp2_with fail
            clear hsh
            refine HM.out.mono ?_
            rintro e x1 ⟨rfl, hb3⟩
            have HB2 := hide (HB.out.trans (hb3.mono HB.out.size))
            clear hb3
            go_wp2_with fail
            go_roundw
            case rel => exact ⟨k + 1, by omega, by omega, by go_num, no_step HNO.out HF.out, HB2.out⟩
            case measure => simp [intOf]; omega
        · have hki : ¬ (k : Int) ≤ (SZ : Int) := by omega
          have HR : Hid (lbD ⟨o1, xa1, xb1, ya1, yb1, arn, sp1, pl1, nn1⟩ ⟨o2, xa2, xb2, ya2, yb2, ar2, sp2, pl2, nn2⟩ 0 SZ = none) := lb_none fun j h1 h2 => HNO.out j h1 (by omega)
          have hsh := HSH.out
          go_wp2_with fail
          exact bodyPost_ret (v := .tuple #[.int .i64 0, .bool false]) (by simp [results, Tryz.results141, go_sem]) rfl ⟨by rw [HLO.out, HR.out]; rfl, HW.out⟩
    · go_wp2_with fail
      go_loopw [12] (fun i wr => ∃ k : Nat, 0 ≤ k ∧ k ≤ SZ + 1 ∧ i = .int .i64 k ∧ (∀ j, 0 ≤ j → j < k → meetsD ⟨o1, xa1, xb1, ya1, yb1, arn, sp1, pl1, nn1⟩ ⟨o2, xa2, xb2, ya2, yb2, ar2, sp2, pl2, nn2⟩ j SZ = false) ∧ Below (((w.alloc (.cells #[.slice (some ⟨lb, loff, none⟩) m cap0, .slice (some ⟨b, off, none⟩) n cap, v2] 25)).alloc (.cells #[.int .i64 o2, .int .i64 xa2, .int .i64 xb2, .int .i64 ya2, .int .i64 yb2, .int .i64 ar2, .int .i64 sp2, .int .i64 pl2, .int .i64 nn2] 41)).alloc (.cells #[.int .i64 o1, .int .i64 xa1, .int .i64 xb1, .int .i64 ya1, .int .i64 yb1, .int .i64 arn, .int .i64 sp1, .int .i64 pl1, .int .i64 nn1] 41)).heap.size (((w.alloc (.cells #[.slice (some ⟨lb, loff, none⟩) m cap0, .slice (some ⟨b, off, none⟩) n cap, v2] 25)).alloc (.cells #[.int .i64 o2, .int .i64 xa2, .int .i64 xb2, .int .i64 ya2, .int .i64 yb2, .int .i64 ar2, .int .i64 sp2, .int .i64 pl2, .int .i64 nn2] 41)).alloc (.cells #[.int .i64 o1, .int .i64 xa1, .int .i64 xb1, .int .i64 ya1, .int .i64 yb1, .int .i64 arn, .int .i64 sp1, .int .i64 pl1, .int .i64 nn1] 41)) wr) (fun i _ => SZ + 1 - (intOf i).toNat)
      case atStart => exact ⟨0, Nat.le_refl _, by omega, rfl, fun j h1 h2 => absurd h2 (by omega), below_drew1 _ _⟩
      case round =>
        obtain ⟨k, hk1, hk2, rfl, hno, hbel⟩ := hrel
        have HNO := hide hno
        have HB := hide hbel
        obtain ⟨⟨g0, g1, g2, g3, g4, g5, g6, g7, g8⟩, ⟨d0, d1, d2, d3, d4, d5, d6, d7, d8⟩, z0, z1, hbw⟩ := two_up hbel
        have HW := hide hbw
        clear hno hbel hbw
        by_cases hlt : k ≤ SZ
        · have hki : (k : Int) ≤ (SZ : Int) := by omega
          cases hme : meetsD ⟨o1, xa1, xb1, ya1, yb1, arn, sp1, pl1, nn1⟩ ⟨o2, xa2, xb2, ya2, yb2, ar2, sp2, pl2, nn2⟩ k SZ with
          | true =>
            have HR : Hid (lbD ⟨o1, xa1, xb1, ya1, yb1, arn, sp1, pl1, nn1⟩ ⟨o2, xa2, xb2, ya2, yb2, ar2, sp2, pl2, nn2⟩ 0 SZ = some k) := lb_some hk1 hlt hme HNO.out
            have HM := hide (HMT.out k wr (by omega))
            rw [hme] at HM
            clear hme
            have hsh := HSH.out
            go_wp2_with fail
            clear hsh
            refine HM.out.mono ?_
            rintro e x1 ⟨rfl, hb3⟩
            have HW2 := hide (HW.out.trans (hb3.mono HW.out.size))
            clear hb3
            go_wp2_with fail
            exact bodyPost_ret (v := .tuple #[.int .i64 k, .bool true]) (by simp [results, Tryz.results141, go_sem]) rfl ⟨by rw [HLO.out, HR.out]; rfl, HW2.out⟩
          | false =>
            have HM := hide (HMT.out k wr (by omega))
            rw [hme] at HM
            have HF := hide hme
            clear hme
            have hsh := HSH.out
            go_wp2_with fail
            clear hsh
            refine HM.out.mono ?_
            rintro e x1 ⟨rfl, hb3⟩
            have HB2 := hide (HB.out.trans (hb3.mono HB.out.size))
            clear hb3
            go_wp2_with fail
            go_roundw
            case rel => exact ⟨k + 1, by omega, by omega, by go_num, no_step HNO.out HF.out, HB2.out⟩
            case measure => simp [intOf]; omega
        · have hki : ¬ (k : Int) ≤ (SZ : Int) := by omega
          have HR : Hid (lbD ⟨o1, xa1, xb1, ya1, yb1, arn, sp1, pl1, nn1⟩ ⟨o2, xa2, xb2, ya2, yb2, ar2, sp2, pl2, nn2⟩ 0 SZ = none) := lb_none fun j h1 h2 => HNO.out j h1 (by omega)
          have hsh := HSH.out
          go_wp2_with fail
          exact bodyPost_ret (v := .tuple #[.int .i64 0, .bool false]) (by simp [results, Tryz.results141, go_sem]) rfl ⟨by rw [HLO.out, HR.out]; rfl, HW.out⟩
  · have hfti : ¬ (fr : Int) < (to : Int) := by omega
    have HLO : Hid (lo = 1) := by show lo = 1; rw [← hlo]; unfold leastD; rw [if_pos (by omega)]
    clear hlo
    go_enter Tryz.func141, Tryz.ntmps141
    go_wp2_with fail
    go_region
    · go_wp2_with fail
      go_loopw [12] (fun i wr => ∃ k : Nat, 1 ≤ k ∧ k ≤ SZ + 1 ∧ i = .int .i64 k ∧ (∀ j, 1 ≤ j → j < k → meetsD ⟨o1, xa1, xb1, ya1, yb1, arn, sp1, pl1, nn1⟩ ⟨o2, xa2, xb2, ya2, yb2, ar2, sp2, pl2, nn2⟩ j SZ = false) ∧ Below (((w.alloc (.cells #[.slice (some ⟨lb, loff, none⟩) m cap0, .slice (some ⟨b, off, none⟩) n cap, v2] 25)).alloc (.cells #[.int .i64 o1, .int .i64 xa1, .int .i64 xb1, .int .i64 ya1, .int .i64 yb1, .int .i64 arn, .int .i64 sp1, .int .i64 pl1, .int .i64 nn1] 41)).alloc (.cells #[.int .i64 o2, .int .i64 xa2, .int .i64 xb2, .int .i64 ya2, .int .i64 yb2, .int .i64 ar2, .int .i64 sp2, .int .i64 pl2, .int .i64 nn2] 41)).heap.size (((w.alloc (.cells #[.slice (some ⟨lb, loff, none⟩) m cap0, .slice (some ⟨b, off, none⟩) n cap, v2] 25)).alloc (.cells #[.int .i64 o1, .int .i64 xa1, .int .i64 xb1, .int .i64 ya1, .int .i64 yb1, .int .i64 arn, .int .i64 sp1, .int .i64 pl1, .int .i64 nn1] 41)).alloc (.cells #[.int .i64 o2, .int .i64 xa2, .int .i64 xb2, .int .i64 ya2, .int .i64 yb2, .int .i64 ar2, .int .i64 sp2, .int .i64 pl2, .int .i64 nn2] 41)) wr) (fun i _ => SZ + 1 - (intOf i).toNat)
      case atStart => exact ⟨1, Nat.le_refl _, by omega, rfl, fun j h1 h2 => absurd h2 (by omega), below_drew1 _ _⟩
      case round =>
        obtain ⟨k, hk1, hk2, rfl, hno, hbel⟩ := hrel
        have HNO := hide hno
        have HB := hide hbel
        obtain ⟨⟨g0, g1, g2, g3, g4, g5, g6, g7, g8⟩, ⟨d0, d1, d2, d3, d4, d5, d6, d7, d8⟩, z0, z1, hbw⟩ := two_up hbel
        have HW := hide hbw
        clear hno hbel hbw
        by_cases hlt : k ≤ SZ
        · have hki : (k : Int) ≤ (SZ : Int) := by omega
          cases hme : meetsD ⟨o1, xa1, xb1, ya1, yb1, arn, sp1, pl1, nn1⟩ ⟨o2, xa2, xb2, ya2, yb2, ar2, sp2, pl2, nn2⟩ k SZ with
          | true =>
            have HR : Hid (lbD ⟨o1, xa1, xb1, ya1, yb1, arn, sp1, pl1, nn1⟩ ⟨o2, xa2, xb2, ya2, yb2, ar2, sp2, pl2, nn2⟩ 1 SZ = some k) := lb_some hk1 hlt hme HNO.out
            have HM := hide (HMT.out k wr (by omega))
            rw [hme] at HM
            clear hme
            have hsh := HSH.out
            go_wp2_with fail
            clear hsh
            refine HM.out.mono ?_
            rintro e x1 ⟨rfl, hb3⟩
            have HW2 := hide (HW.out.trans (hb3.mono HW.out.size))
            clear hb3
            go_wp2_with fail
            exact bodyPost_ret (v := .tuple #[.int .i64 k, .bool true]) (by simp [results, Tryz.results141, go_sem]) rfl ⟨by rw [HLO.out, HR.out]; rfl, HW2.out⟩
          | false =>
            have HM := hide (HMT.out k wr (by omega))
            rw [hme] at HM
            have HF := hide hme
            clear hme
            have hsh := HSH.out
            go_wp2_with fail
            clear hsh
            refine HM.out.mono ?_
            rintro e x1 ⟨rfl, hb3⟩
            have HB2 := hide (HB.out.trans (hb3.mono HB.out.size))
            clear hb3
            go_wp2_with fail
            go_roundw
            case rel => exact ⟨k + 1, by omega, by omega, by go_num, no_step HNO.out HF.out, HB2.out⟩
            case measure => simp [intOf]; omega
        · have hki : ¬ (k : Int) ≤ (SZ : Int) := by omega
          have HR : Hid (lbD ⟨o1, xa1, xb1, ya1, yb1, arn, sp1, pl1, nn1⟩ ⟨o2, xa2, xb2, ya2, yb2, ar2, sp2, pl2, nn2⟩ 1 SZ = none) := lb_none fun j h1 h2 => HNO.out j h1 (by omega)
          have hsh := HSH.out
          go_wp2_with fail
          exact bodyPost_ret (v := .tuple #[.int .i64 0, .bool false]) (by simp [results, Tryz.results141, go_sem]) rfl ⟨by rw [HLO.out, HR.out]; rfl, HW.out⟩
    · go_wp2_with fail
      go_loopw [12] (fun i wr => ∃ k : Nat, 1 ≤ k ∧ k ≤ SZ + 1 ∧ i = .int .i64 k ∧ (∀ j, 1 ≤ j → j < k → meetsD ⟨o1, xa1, xb1, ya1, yb1, arn, sp1, pl1, nn1⟩ ⟨o2, xa2, xb2, ya2, yb2, ar2, sp2, pl2, nn2⟩ j SZ = false) ∧ Below (((w.alloc (.cells #[.slice (some ⟨lb, loff, none⟩) m cap0, .slice (some ⟨b, off, none⟩) n cap, v2] 25)).alloc (.cells #[.int .i64 o2, .int .i64 xa2, .int .i64 xb2, .int .i64 ya2, .int .i64 yb2, .int .i64 ar2, .int .i64 sp2, .int .i64 pl2, .int .i64 nn2] 41)).alloc (.cells #[.int .i64 o1, .int .i64 xa1, .int .i64 xb1, .int .i64 ya1, .int .i64 yb1, .int .i64 arn, .int .i64 sp1, .int .i64 pl1, .int .i64 nn1] 41)).heap.size (((w.alloc (.cells #[.slice (some ⟨lb, loff, none⟩) m cap0, .slice (some ⟨b, off, none⟩) n cap, v2] 25)).alloc (.cells #[.int .i64 o2, .int .i64 xa2, .int .i64 xb2, .int .i64 ya2, .int .i64 yb2, .int .i64 ar2, .int .i64 sp2, .int .i64 pl2, .int .i64 nn2] 41)).alloc (.cells #[.int .i64 o1, .int .i64 xa1, .int .i64 xb1, .int .i64 ya1, .int .i64 yb1, .int .i64 arn, .int .i64 sp1, .int .i64 pl1, .int .i64 nn1] 41)) wr) (fun i _ => SZ + 1 - (intOf i).toNat)
      case atStart => exact ⟨1, Nat.le_refl _, by omega, rfl, fun j h1 h2 => absurd h2 (by omega), below_drew1 _ _⟩
      case round =>
        obtain ⟨k, hk1, hk2, rfl, hno, hbel⟩ := hrel
        have HNO := hide hno
        have HB := hide hbel
        obtain ⟨⟨g0, g1, g2, g3, g4, g5, g6, g7, g8⟩, ⟨d0, d1, d2, d3, d4, d5, d6, d7, d8⟩, z0, z1, hbw⟩ := two_up hbel
        have HW := hide hbw
        clear hno hbel hbw
        by_cases hlt : k ≤ SZ
        · have hki : (k : Int) ≤ (SZ : Int) := by omega
          cases hme : meetsD ⟨o1, xa1, xb1, ya1, yb1, arn, sp1, pl1, nn1⟩ ⟨o2, xa2, xb2, ya2, yb2, ar2, sp2, pl2, nn2⟩ k SZ with
          | true =>
            have HR : Hid (lbD ⟨o1, xa1, xb1, ya1, yb1, arn, sp1, pl1, nn1⟩ ⟨o2, xa2, xb2, ya2, yb2, ar2, sp2, pl2, nn2⟩ 1 SZ = some k) := lb_some hk1 hlt hme HNO.out
            have HM := hide (HMT.out k wr (by omega))
            rw [hme] at HM
            clear hme
            have hsh := HSH.out
            go_wp2_with fail
            clear hsh
            refine HM.out.mono ?_
            rintro e x1 ⟨rfl, hb3⟩
            have HW2 := hide (HW.out.trans (hb3.mono HW.out.size))
            clear hb3
            go_wp2_with fail
            exact bodyPost_ret (v := .tuple #[.int .i64 k, .bool true]) (by simp [results, Tryz.results141, go_sem]) rfl ⟨by rw [HLO.out, HR.out]; rfl, HW2.out⟩
          | false =>
            have HM := hide (HMT.out k wr (by omega))
            rw [hme] at HM
            have HF := hide hme
            clear hme
            have hsh := HSH.out
            go_wp2_with fail
            clear hsh
            refine HM.out.mono ?_
            rintro e x1 ⟨rfl, hb3⟩
            have HB2 := hide (HB.out.trans (hb3.mono HB.out.size))
            clear hb3
            go_wp2_with fail
            go_roundw
            case rel => exact ⟨k + 1, by omega, by omega, by go_num, no_step HNO.out HF.out, HB2.out⟩
            case measure => simp [intOf]; omega
        · have hki : ¬ (k : Int) ≤ (SZ : Int) := by omega
          have HR : Hid (lbD ⟨o1, xa1, xb1, ya1, yb1, arn, sp1, pl1, nn1⟩ ⟨o2, xa2, xb2, ya2, yb2, ar2, sp2, pl2, nn2⟩ 1 SZ = none) := lb_none fun j h1 h2 => HNO.out j h1 (by omega)
          have hsh := HSH.out
          go_wp2_with fail
          exact bodyPost_ret (v := .tuple #[.int .i64 0, .bool false]) (by simp [results, Tryz.results141, go_sem]) rfl ⟨by rw [HLO.out, HR.out]; rfl, HW.out⟩
end Go.Proofs.YtghlcmljgpkjiabGreat
