/- The contract of the document's own answer on units; nothing that was there is changed. -/
import Derived.Test.YtpljieenjkbmmaaBoundMath
import Derived.Test.YtpljieenjkbmmaaRef6Edges
namespace Go.Proofs.Ytpljieenjkbmmaa
open Go.RowKit Go.Joins
set_option linter.unusedVariables false
set_option linter.unusedSimpArgs false
set_option maxRecDepth 8192

theorem cntC_le (L : Lp) (c : Nat) : cntC L c ≤ L.body.length := cnt_le _ _
theorem need_le {n u : Nat} (hu : 1 ≤ u) : needU n u ≤ n := (need_iff hu).1 (Nat.le_mul_of_pos_right n hu)
theorem paceU_le {L : Lp} {t : Tg} (hb : L.body.length ≤ 16) (hu : ∀ c : Nat, c < 3 → 1 ≤ (unitsT t c).toNat) : ∀ c, c ≤ 3 → 1 ≤ paceU L t c ∧ paceU L t c ≤ 16 := by
  intro c
  induction c with
  | zero => intro _; exact ⟨Nat.le_refl _, by show 1 ≤ 16; omega⟩
  | succ c ih =>
    intro hc
    have h1 := ih (by omega)
    have h2 := need_le (n := cntC L c) (hu c (by omega))
    have h3 := cntC_le L c
    show 1 ≤ max (paceU L t c) (needU (cntC L c) (unitsT t c).toNat) ∧ max (paceU L t c) (needU (cntC L c) (unitsT t c).toNat) ≤ 16
    omega
theorem unit_cell {p0 p1 p2 q0 q1 q2 r : Int} {w wr : World} {c : Nat} (hc : c < 3) (h0 : wr.cell? ⟨w.heap.size + 1, 0, none⟩ = some (.int .i64 p0)) (h1 : wr.cell? ⟨w.heap.size + 1, 1, none⟩ = some (.int .i64 p1)) (h2 : wr.cell? ⟨w.heap.size + 1, 2, none⟩ = some (.int .i64 p2)) : wr.cell? ⟨w.heap.size + 1, c, none⟩ = some (.int .i64 (unitsT ⟨p0, p1, p2, q0, q1, q2, r⟩ c)) := by
  obtain rfl | rfl | rfl : c = 0 ∨ c = 1 ∨ c = 2 := by omega
  · exact h0
  · exact h1
  · exact h2
theorem units_one {t : Tg} (h : mayT t = true) : ∀ c : Nat, ∃ u : Nat, unitsT t c = (u : Int) ∧ 1 ≤ u ∧ u ≤ 4 := by
  intro c
  obtain ⟨h1, h2, h3, -, -⟩ := mayT_parts h
  have h1 := unit_iff h1
  have h2 := unit_iff h2
  have h3 := unit_iff h3
  unfold unitsT
  split
  · exact ⟨t.u0.toNat, by omega, by omega, by omega⟩
  · split
    · exact ⟨t.u1.toNat, by omega, by omega, by omega⟩
    · exact ⟨t.u2.toNat, by omega, by omega, by omega⟩

set_option maxHeartbeats 8000000 in
theorem units7_walk (p0 p1 p2 q0 q1 q2 r : Int) (L : Lp) (v0 v2 : Value) (b off cap : Nat) (w : World) (hl : L.body.length ≤ cap) (hm : cap ≤ 9223372036854775807) (hb : b < w.heap.size) (hcell : ∀ i, i < L.body.length → ∀ j, j < 9 → w.cell? ⟨b, off + i * 9 + j, none⟩ = (stCells (stAt L.body i))[j]?) (h16 : L.body.length ≤ 16) (hmt : mayT ⟨p0, p1, p2, q0, q1, q2, r⟩ = true) :
    Calls Try.prog 47 #[.agg #[v0, .slice (some ⟨b, off, none⟩) L.body.length cap, v2], .agg #[.int .i64 p0, .int .i64 p1, .int .i64 p2, .int .i64 q0, .int .i64 q1, .int .i64 q2, .int .i64 r]] w fun e w' => e = .returned (.int .i64 (unitsB L ⟨p0, p1, p2, q0, q1, q2, r⟩)) ∧ Below w.heap.size w w' := by
  have HCE := hide hcell
  have HMT := hide hmt
  have HUU := hide (units_one hmt)
  have HPU := hide (paceU_le (L := L) (t := ⟨p0, p1, p2, q0, q1, q2, r⟩) h16 (fun c _ => by obtain ⟨u, h1, h2, _⟩ := units_one hmt c; rw [h1, Int.toNat_natCast]; exact h2))
  clear hcell hmt
  go_enter Try.func47, Try.ntmps47
  go_wp2_with fail
  go_loopw [5, 6] (fun pv i wr => ∃ c : Nat, c ≤ 3 ∧ i = .int .i64 c ∧ pv = .int .i64 (paceU L ⟨p0, p1, p2, q0, q1, q2, r⟩ c) ∧ Below (w.heap.size + 1 + 1) ((w.alloc (.cells #[v0, .slice (some ⟨b, off, none⟩) L.body.length cap, v2] 30)).alloc (.cells #[.int .i64 p0, .int .i64 p1, .int .i64 p2, .int .i64 q0, .int .i64 q1, .int .i64 q2, .int .i64 r] 49)) wr) (fun _ i _ => 3 - (intOf i).toNat)
  case atStart => exact ⟨0, by omega, rfl, rfl, Below.refl _ _⟩
  case round =>
    obtain ⟨c, hc, rfl, rfl, hbel⟩ := hrel
    have HB := hide hbel
    obtain ⟨⟨l0, l1, l2⟩, ⟨t0, t1, t2, t3, t4, t5, t6⟩, z0, z1, hbw⟩ := ebox_cells hbel
    have HBW := hide hbw
    have hpb := HPU.out c hc
    by_cases hcl : c < 3
    · have hci : (c : Int) < 3 := by omega
      have huc := unit_cell (q0 := q0) (q1 := q1) (q2 := q2) (r := r) hcl t0 t1 t2
      obtain ⟨u, hu, hu1, hu4⟩ := HUU.out c
      rw [hu] at huc
      have HNX : Hid (paceU L ⟨p0, p1, p2, q0, q1, q2, r⟩ (c + 1) = max (paceU L ⟨p0, p1, p2, q0, q1, q2, r⟩ c) (needU (cntC L c) u)) := by
        show max _ (needU (cntC L c) (unitsT _ c).toNat) = _
        rw [hu, Int.toNat_natCast]
      have HCN : Hid (cntC L c = cnt (fun i => decide (clsv (stAt L.body i).o = (c : Int))) L.body.length) := rfl
      obtain ⟨pa, hpa⟩ : ∃ pa, paceU L ⟨p0, p1, p2, q0, q1, q2, r⟩ c = pa := ⟨_, rfl⟩
      rw [hpa] at HNX hpb ⊢
      obtain ⟨hpb1, hpb2⟩ := hpb
      clear hbel hbw hu hpa t0 t1 t2 t3 t4 t5 t6 l0 l2
      rename World => wo
      go_wp2_with fail
      go_loopw [7, 8] (fun nv i wr => ∃ k : Nat, k ≤ L.body.length ∧ i = .int .i64 k ∧ nv = .int .i64 (cnt (fun i => decide (clsv (stAt L.body i).o = (c : Int))) k) ∧ wr = wo) (fun _ i _ => L.body.length - (intOf i).toNat)
      case atStart => exact ⟨0, Nat.zero_le _, rfl, rfl, rfl⟩
      case round =>
        obtain ⟨k, hk, rfl, rfl, rfl⟩ := hrel
        by_cases hkl : k < L.body.length
        · have hki : (k : Int) < (L.body.length : Int) := by omega
          have c0 := (nine (HCE.out k hkl)).1
          rw [← bcell HBW.out _ _ hb] at c0
          have hbz : b < wr.heap.size := by have := HBW.out.size; omega
          have HCL := hide (fun W => refClass_any (stAt L.body k).o W)
          have hcn := cnt_le (fun i => decide (clsv (stAt L.body i).o = (c : Int))) k
          have HST : Hid (∀ b, decide (clsv (stAt L.body k).o = (c : Int)) = b → cnt (fun i => decide (clsv (stAt L.body i).o = (c : Int))) (k + 1) = cnt (fun i => decide (clsv (stAt L.body i).o = (c : Int))) k + (if b = true then 1 else 0)) := fun b h => by subst h; rfl
          obtain ⟨cl, hcl2⟩ : ∃ cl, clsv (stAt L.body k).o = cl := ⟨_, rfl⟩
          rw [hcl2] at HCL HST
          generalize (stAt L.body k).o = oo at *
          generalize cnt (fun i => decide (clsv (stAt L.body i).o = (c : Int))) k = cn at *
          clear hcl2
          by_cases heq : cl = (c : Int)
          · have hb1 : (cl == (c : Int)) = true := by simpa using heq
            have HST2 := hide (HST.out true (decide_eq_true heq))
            clear heq HST
            go_wp2_with (go_at_call 19; refine (HCL.out _).mono ?_; rintro e w' ⟨rfl, hw'⟩; have hw' := hw'.symm; subst hw')
            go_roundw
            case rel => exact ⟨k + 1, by omega, by go_num, by rw [HST2.out]; simp, trivial⟩
            case measure => simp [intOf]; omega
          · have hb1 : (cl == (c : Int)) = false := by simpa using heq
            have HST2 := hide (HST.out false (decide_eq_false heq))
            clear heq HST
            go_wp2_with (go_at_call 19; refine (HCL.out _).mono ?_; rintro e w' ⟨rfl, hw'⟩; have hw' := hw'.symm; subst hw')
            go_roundw
            case rel => exact ⟨k + 1, by omega, by go_num, by rw [HST2.out]; simp, trivial⟩
            case measure => simp [intOf]; omega
        · have e : k = L.body.length := by omega
          subst e
          have hki : ¬ (L.body.length : Int) < (L.body.length : Int) := by omega
          rw [← HCN.out]
          have hcn := cntC_le L c
          generalize cntC L c = cn at *
          go_wp2_with fail
          go_loopw [5] (fun pv wr2 => ∃ q : Nat, pv = .int .i64 q ∧ pa ≤ q ∧ q ≤ max pa (needU cn u) ∧ wr2 = wr) (fun pv _ => 40 - (intOf pv).toNat)
          case atStart => exact ⟨pa, rfl, Nat.le_refl _, by omega, rfl⟩
          case round =>
            obtain ⟨q, rfl, hq1, hq2, rfl⟩ := hrel
            have hnl := need_le (n := cn) hu1
            have hqb : q ≤ 16 := by omega
            obtain ⟨qu, hqu⟩ : ∃ qu : Nat, q * u = qu := ⟨_, rfl⟩
            have hqi : (q : Int) * (u : Int) = (qu : Int) := by rw [← Int.natCast_mul, hqu]
            have hqub : qu ≤ 64 := by rw [← hqu]; exact Nat.mul_le_mul hqb hu4
            have hni := need_iff (n := cn) (q := q) hu1
            rw [hqu] at hni
            have HNI := hide hni
            clear hni hqu
            by_cases hlt : qu < cn
            · have hlti : (qu : Int) < (cn : Int) := by omega
              have HQ : Hid (q < needU cn u) := by show q < _; have := HNI.out; omega
              go_wp2_with fail
              go_roundw
              case rel => exact ⟨q + 1, by go_num, by omega, by have := HQ.out; omega, trivial⟩
              case measure => simp [intOf]; omega
            · have hlti : ¬ (qu : Int) < (cn : Int) := by omega
              have HQ : Hid (q = max pa (needU cn u)) := by show q = _; have := HNI.out; omega
              go_wp2_with fail
              go_roundw
              case rel => exact ⟨c + 1, by omega, by go_num, by rw [HNX.out, ← HQ.out], HB.out⟩
              case measure => simp [intOf]; omega
    · have e : c = 3 := by omega
      subst e
      clear hbel hbw
      go_wp2_with fail
      go_ret
      exact ⟨rfl, HBW.out⟩
end Go.Proofs.Ytpljieenjkbmmaa
