/- The contract of package bound's unitsPace; nothing that was there is changed. -/
import Derived.Test.YtpljieenjkbmmaaBoundMath
import Derived.Test.YtpljieenjkbmmaaOwn
import Derived.Test.YtpljieenjkbmmaaRef6Edges
namespace Go.Proofs.Ytpljieenjkbmmaa
open Go.RowKit Go.Joins
set_option linter.unusedVariables false
set_option linter.unusedSimpArgs false
set_option maxRecDepth 8192

/-- how many of the first k statements are of a class -/
def cntK (L : Lp) (c k : Nat) : Nat := cnt (fun i => decide (clsv (stAt L.body i).o = (c : Int))) k
theorem cntK_all (L : Lp) (c : Nat) : cntK L c L.body.length = cntC L c := rfl
theorem cntK_le (L : Lp) (c k : Nat) : cntK L c k ≤ k := cnt_le _ _
theorem cntK_step (L : Lp) (c k cl : Nat) (h : clsv (stAt L.body k).o = (cl : Int)) : cntK L c (k + 1) = if c = cl then cntK L cl k + 1 else cntK L c k := by
  unfold cntK
  show cnt _ k + (if decide (clsv (stAt L.body k).o = (c : Int)) = true then 1 else 0) = _
  rw [h]
  by_cases e : c = cl
  · subst e; rw [if_pos rfl, if_pos (decide_eq_true rfl)]
  · rw [if_neg e, if_neg (by rw [decide_eq_true_iff]; omega)]; rfl
theorem unit_three {p0 p1 p2 q0 q1 q2 r : Int} {g : Nat} {wr : World} {c : Nat} (hc : c < 3) (h0 : wr.cell? ⟨g, 0, none⟩ = some (.int .i64 p0)) (h1 : wr.cell? ⟨g, 1, none⟩ = some (.int .i64 p1)) (h2 : wr.cell? ⟨g, 2, none⟩ = some (.int .i64 p2)) : wr.cell? ⟨g, c, none⟩ = some (.int .i64 (unitsT ⟨p0, p1, p2, q0, q1, q2, r⟩ c)) := by
  obtain rfl | rfl | rfl : c = 0 ∨ c = 1 ∨ c = 2 := by omega
  · exact h0
  · exact h1
  · exact h2
theorem units_oneX {t : Tg} (h : mayT t = true) : ∀ c : Nat, ∃ u : Nat, unitsT t c = (u : Int) ∧ 1 ≤ u ∧ u ≤ 4 := by
  intro c
  obtain ⟨h1, h2, h3, -, -⟩ := mayT_parts h
  have h1 := unit_iff h1
  have h2 := unit_iff h2
  have h3 := unit_iff h3
  unfold unitsT
  split
  · exact ⟨t.u0.toNat, by omega, by omega, by omega⟩
  · split
    · exact ⟨t.u1.toNat, by omega, by omega, by omega⟩
    · exact ⟨t.u2.toNat, by omega, by omega, by omega⟩
theorem paceU_small {L : Lp} {t : Tg} (hb : L.body.length ≤ 16) (hu : ∀ c : Nat, c < 3 → 1 ≤ (unitsT t c).toNat) : ∀ c, c ≤ 3 → 1 ≤ paceU L t c ∧ paceU L t c ≤ 16 := by
  intro c
  induction c with
  | zero => intro _; exact ⟨Nat.le_refl _, by show 1 ≤ 16; omega⟩
  | succ c ih =>
    intro hc
    have h1 := ih (by omega)
    have h2 : needU (cntC L c) (unitsT t c).toNat ≤ cntC L c := (need_iff (hu c (by omega))).1 (Nat.le_mul_of_pos_right _ (hu c (by omega)))
    have h3 : cntC L c ≤ L.body.length := cnt_le _ _
    show 1 ≤ max (paceU L t c) (needU (cntC L c) (unitsT t c).toNat) ∧ max (paceU L t c) (needU (cntC L c) (unitsT t c).toNat) ≤ 16
    omega
theorem need_quo (n u : Nat) (hu : 1 ≤ u) : ((n : Int) + (u : Int) - 1).tdiv (u : Int) = (needU n u : Int) := by
  unfold needU
  have e : (n : Int) + (u : Int) - 1 = ((n + u - 1 : Nat) : Int) := by omega
  rw [e]
  exact Int.ofNat_tdiv _ _ |>.symm

set_option maxHeartbeats 4000000 in
theorem unitsPace_walk (p0 p1 p2 q0 q1 q2 r : Int) (L : Lp) (v0 v2 : Value) (b off cap : Nat) (w : World) (hl : L.body.length ≤ cap) (hm : cap ≤ 9223372036854775807) (hb : b < w.heap.size) (hcell : ∀ i, i < L.body.length → ∀ j, j < 9 → w.cell? ⟨b, off + i * 9 + j, none⟩ = (stCells (stAt L.body i))[j]?) (h16 : L.body.length ≤ 16) (hmt : mayT ⟨p0, p1, p2, q0, q1, q2, r⟩ = true) :
    Calls Try.prog 84 #[.agg #[v0, .slice (some ⟨b, off, none⟩) L.body.length cap, v2], .agg #[.int .i64 p0, .int .i64 p1, .int .i64 p2, .int .i64 q0, .int .i64 q1, .int .i64 q2, .int .i64 r]] w fun e w' => e = .returned (.int .i64 (unitsB L ⟨p0, p1, p2, q0, q1, q2, r⟩)) ∧ Below w.heap.size w w' := by
  have HCE := hide hcell
  have HUU := hide (units_oneX hmt)
  have HPU := hide (paceU_small (L := L) (t := ⟨p0, p1, p2, q0, q1, q2, r⟩) h16 (fun c _ => by obtain ⟨u, h1, h2, _⟩ := units_oneX hmt c; rw [h1, Int.toNat_natCast]; exact h2))
  have HS : Hid (((w.alloc (.cells #[v0, .slice (some ⟨b, off, none⟩) L.body.length cap, v2] 30)).alloc (.cells #[.int .i64 p0, .int .i64 p1, .int .i64 p2, .int .i64 q0, .int .i64 q1, .int .i64 q2, .int .i64 r] 49)).heap.size = w.heap.size + 1 + 1) := by show _ = _; simp
  have H0 : Hid (RowF (((w.alloc (.cells #[v0, .slice (some ⟨b, off, none⟩) L.body.length cap, v2] 30)).alloc (.cells #[.int .i64 p0, .int .i64 p1, .int .i64 p2, .int .i64 q0, .int .i64 q1, .int .i64 q2, .int .i64 r] 49)).alloc (.cells #[.int .i64 0, .int .i64 0, .int .i64 0] 47)) (w.heap.size + 1 + 1) 47 3 (fun c => .int .i64 (cntK L c 0))) := by
    show RowF _ _ _ _ _
    rw [← HS.out]
    exact RowF.made _ _ _ 3 _ (by simp) (fun i hi => by
      obtain rfl | rfl | rfl : i = 0 ∨ i = 1 ∨ i = 2 := by omega
      all_goals rfl)
  clear hcell hmt
  go_enter Try.func84, Try.ntmps84
  go_wp2_with fail
  go_loopw [15] (fun i wr => ∃ k : Nat, k ≤ L.body.length ∧ i = .int .i64 k ∧ Below (w.heap.size + 1 + 1) ((w.alloc (.cells #[v0, .slice (some ⟨b, off, none⟩) L.body.length cap, v2] 30)).alloc (.cells #[.int .i64 p0, .int .i64 p1, .int .i64 p2, .int .i64 q0, .int .i64 q1, .int .i64 q2, .int .i64 r] 49)) wr ∧ RowF wr (w.heap.size + 1 + 1) 47 3 (fun c => .int .i64 (cntK L c k))) (fun i _ => L.body.length - (intOf i).toNat)
  case atStart => exact ⟨0, Nat.zero_le _, rfl, (Below.refl _ _).alloc (by rw [HS.out]; omega) _, H0.out⟩
  case round =>
    clear H0
    obtain ⟨k, hk, rfl, hbel, hrow⟩ := hrel
    have HB := hide hbel
    have HROW := hide hrow
    obtain ⟨⟨l0, l1, l2⟩, ⟨t0, t1, t2, t3, t4, t5, t6⟩, z0, z1, hbw⟩ := ebox_cells hbel
    have HBW := hide hbw
    have hz2 := hrow.lt
    by_cases hkl : k < L.body.length
    · have hki : (k : Int) < (L.body.length : Int) := by omega
      obtain ⟨c0, c1, c2, c3, c4, c5, c6, c7, c8⟩ := nine (fun j hj => (bcell hbw b (off + k * 9 + j) hb).trans (HCE.out k hkl j hj))
      have hbz : b < wr.heap.size := by omega
      obtain ⟨cn, hcn, hcn3⟩ : ∃ cn : Nat, clsv (stAt L.body k).o = (cn : Int) ∧ cn < 3 := by
        rcases cls_three (stAt L.body k).o with h | h | h
        · exact ⟨0, h, by omega⟩
        · exact ⟨1, h, by omega⟩
        · exact ⟨2, h, by omega⟩
      have HSTEP := hide (fun c => cntK_step L c k cn hcn)
      have HCL : Hid (∀ W, Calls Try.prog 16 #[.int .i64 (stAt L.body k).o] W fun e w' => e = .returned (.int .i64 cn) ∧ w' = W) := fun W => by rw [← hcn]; exact class_any _ _
      have hcc := hrow.cell hcn3
      have hfr := hrow.frozen cn
      have hle := cntK_le L cn k
      have HXX : Hid (∃ xk, stAt L.body k = xk) := ⟨_, rfl⟩
      generalize stAt L.body k = xk at *
      obtain ⟨o, xa, xb, ya, yb, ar, sp, pl, nn⟩ := xk
      generalize hcx : cntK L cn k = cc at *
      have HCX := hide hcx
      have hci : (cn : Int) < 3 := by omega
      clear hbel hrow hbw hcn hcx t0 t1 t2 t3 t4 t5 t6 l0 l1 l2
      go_wp2_with (go_at_call 16; refine (HCL.out _).mono ?_; rintro e w' ⟨rfl, hw'⟩; have hw' := hw'.symm; subst hw')
      go_roundw
      case rel =>
        refine ⟨k + 1, by omega, by go_num, ?_, ?_⟩
        · have h1 : Below (w.heap.size + 1 + 1) _ (wr.setCell ⟨w.heap.size + 1 + 1, cn, none⟩ (.int .i64 ((cc : Int) + 1))) := HB.out.setCell (Nat.le_refl _) _
          exact h1.alloc (by simp; omega) _
        · have h := (HROW.out.set cn (.int .i64 ((cc : Int) + 1)) hcn3).alloc (.cells #[.int .i64 o, .int .i64 xa, .int .i64 xb, .int .i64 ya, .int .i64 yb, .int .i64 ar, .int .i64 sp, .int .i64 pl, .int .i64 nn] 79)
          refine h.congr fun v hv => ?_
          rw [HSTEP.out v]
          by_cases e : v = cn
          · rw [if_pos e, if_pos e]; simp
          · rw [if_neg e, if_neg e]
      case measure => simp [intOf]; omega
    · have e : k = L.body.length := by omega
      subst e
      have hki : ¬ (L.body.length : Int) < (L.body.length : Int) := by omega
      have r0 := hrow.cell (i := 0) (by omega)
      have r1 := hrow.cell (i := 1) (by omega)
      have r2 := hrow.cell (i := 2) (by omega)
      rw [cntK_all] at r0 r1 r2
      have HUC := hide (fun c (hc : c < 3) => unit_three (q0 := q0) (q1 := q1) (q2 := q2) (r := r) hc t0 t1 t2)
      have HIX : Hid (∀ c : Nat, c < 3 → ∀ W : World, (Instr.index 47 (.agg #[.int .i64 (cntC L 0), .int .i64 (cntC L 1), .int .i64 (cntC L 2)]) (.int .i64 (c : Int))).run Try.prog W = .ok (.int .i64 (cntC L c)) W) := fun c hc W => by
        obtain rfl | rfl | rfl : c = 0 ∨ c = 1 ∨ c = 2 := by omega
        all_goals kernel_rfl
      clear hbel hrow hbw t0 t1 t2 t3 t4 t5 t6 l0 l1 l2
      go_wp2_with fail
      go_loopw [8, 28] (fun pv i wr2 => ∃ c : Nat, c ≤ 3 ∧ i = .int .i64 c ∧ pv = .int .i64 (paceU L ⟨p0, p1, p2, q0, q1, q2, r⟩ c) ∧ wr2 = wr) (fun _ i _ => 3 - (intOf i).toNat)
      case atStart => exact ⟨0, by omega, rfl, rfl, rfl⟩
      case round =>
        obtain ⟨c, hc, rfl, rfl, rfl⟩ := hrel
        have hpb := HPU.out c hc
        by_cases hcl : c < 3
        · have hci : (c : Int) < 3 := by omega
          have huc := HUC.out c hcl
          have hix := HIX.out c hcl
          obtain ⟨u, hu, hu1, hu4⟩ := HUU.out c
          rw [hu] at huc
          have HNX : Hid (paceU L ⟨p0, p1, p2, q0, q1, q2, r⟩ (c + 1) = max (paceU L ⟨p0, p1, p2, q0, q1, q2, r⟩ c) (needU (cntC L c) u)) := by
            show max _ (needU (cntC L c) (unitsT _ c).toNat) = _
            rw [hu, Int.toNat_natCast]
          have hcb : cntC L c ≤ 16 := Nat.le_trans (cnt_le _ _) h16
          have hnq := need_quo (cntC L c) u hu1
          have hndb : needU (cntC L c) u ≤ 16 := Nat.le_trans ((need_iff hu1).1 (Nat.le_mul_of_pos_right _ hu1)) hcb
          generalize needU (cntC L c) u = nd at *
          have hwn : wrap64 (nd : Int) = (nd : Int) := by unfold wrap64; omega
          obtain ⟨nc, hnc⟩ : ∃ nc, cntC L c = nc := ⟨_, rfl⟩
          rw [hnc] at hix hcb hnq
          obtain ⟨pa, hpa⟩ : ∃ pa, paceU L ⟨p0, p1, p2, q0, q1, q2, r⟩ c = pa := ⟨_, rfl⟩
          rw [hpa] at HNX hpb ⊢
          obtain ⟨hpb1, hpb2⟩ := hpb
          clear hnc hu hpa r0 r1 r2
          go_wp2_with fail
          go_roundw
          case rel =>
            refine ⟨c + 1, by omega, by go_num, ?_, trivial⟩
            rw [HNX.out]
            congr 1
            split <;> omega
          case measure => simp [intOf]; omega
        · have e : c = 3 := by omega
          subst e
          go_wp2_with fail
          go_ret
          exact ⟨rfl, HBW.out⟩
end Go.Proofs.Ytpljieenjkbmmaa
