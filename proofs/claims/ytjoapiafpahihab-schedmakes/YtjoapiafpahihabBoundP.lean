/- BoundP: texts that are built as one: BoundOff, BoundUnits, BoundGo, BoundAll. -/
import Derived.Test.YtjoapiafpahihabRounds
import Derived.Test.YtjoapiafpahihabRef67
import Derived.Test.YtjoapiafpahihabBase
import Derived.Test.YtjoapiafpahihabDepS
import Derived.Test.YtjoapiafpahihabDepP
/- The contracts of package bound's putOff and settles; nothing that was there is changed. -/
namespace Go.Proofs.Ytjoapiafpahihab
open Go.RowKit Go.Joins
set_option linter.unusedVariables false
set_option linter.unusedSimpArgs false
set_option maxRecDepth 8192

set_option maxHeartbeats 8000000 in
theorem putOff_any (n : Nat) (p : Int) (r : Nat) (la : Option Addr) (lc : Nat) (l : List Ed) (w0 w : World) (hE : EdgesV w0 (.slice la l.length lc) l) (hl : ∀ e ∈ l, edOk n e) (hn : n ≤ 16) (hr : r ≤ 16) (hp1 : 1 ≤ p) (hp2 : p ≤ 100) (hlen : l.length ≤ 60000)
    (hbe : Below w0.heap.size w0 w) (hrw : RowF w w0.heap.size 3 n (fun v => .int .i64 (passR p l r v))) :
    Calls Try.prog 122 #[.slice (some ⟨w0.heap.size, 0, none⟩) n n, .slice la l.length lc, .int .i64 p] w fun e w' => e = .returned (.bool (!stillE p l (passR p l r))) ∧ Below w0.heap.size w0 w' ∧ RowF w' w0.heap.size 3 n (fun v => .int .i64 (passR p l (r + 1) v)) := by
  obtain ⟨la', lc', he1, he2, he3, hec⟩ := hE
  injection he1 with e1 e2 e3
  subst e1; subst e3
  unfold maxLen at he3
  have HEC := hide hec
  have HL := hide hl
  have HBE := hide hbe
  have HRW := hide hrw
  clear hec hl e2 hbe hrw
  go_enter Try.func122, Try.ntmps122
  go_wp2_with fail
  go_loopw [7, 13] (fun st i wr => ∃ k : Nat, k ≤ l.length ∧ i = .int .i64 k ∧ st = .bool (!allN (fun j => okE p (passR p l r) (edAt l j)) k) ∧ Below w0.heap.size w0 wr ∧ RowF wr w0.heap.size 3 n (fun v => .int .i64 (passE p l (passR p l r) k v))) (fun _ i _ => l.length - (intOf i).toNat)
  case atStart => exact ⟨0, Nat.zero_le _, rfl, rfl, HBE.out, HRW.out⟩
  case round =>
    obtain ⟨k, hk, rfl, rfl, hbel2, hrow2⟩ := hrel
    clear HBE HRW
    by_cases hkl : k < l.length
    · have hki : (k : Int) < (l.length : Int) := by omega
      obtain ⟨eb, eo, rfl, hebz, hecell⟩ := HEC.out (by omega)
      obtain ⟨c0, c1, c2, c3⟩ := fourE (hecell k hkl)
      rw [← bcell hbel2 _ _ hebz] at c0 c1 c2 c3
      have hebz2 : eb < wr.heap.size := by have := hbel2.size; omega
      obtain ⟨fr, to, bk, wt, hed, hfr, hto, hbk, hwt⟩ := HL.out _ (edAt_in hkl)
      have HST : Hid (∀ b, allN (fun j => okE p (passR p l r) (edAt l j)) k = b → allN (fun j => okE p (passR p l r) (edAt l j)) (k + 1) = (b && okE p (passR p l r) (edAt l k))) := fun b h => by show (allN _ k && _) = _; rw [h]
      have HSAME := hide (fun h => pass_same (p := p) (l := l) (a := passR p l r) k (by omega) h)
      have HREL : Hid (passE p l (passR p l r) (k + 1) = relE p (passE p l (passR p l r) k) (edAt l k)) := rfl
      have hhi := pass_high (p := p) (l := l) (a := passR p l r) (by omega) HL.out (passR_high (by omega) HL.out r) k hk
      have hlo := fun v => pass_low (p := p) (l := l) r k v
      have hr17 : r * l.length ≤ 16 * 60000 := Nat.mul_le_mul (by omega) hlen
      rw [hed] at c0 c1 c2 c3 HST HREL
      simp only at c0 c1 c2 c3
      have hcf := hrow2.cell hfr
      have hct := hrow2.cell hto
      have hft := hrow2.frozen to
      have hxz := hrow2.lt
      have hxf1 := hhi fr
      have hxf2 := hlo fr
      have hxt1 := hhi to
      have hxt2 := hlo to
      have HROW2 := hide hrow2
      have HB2 := hide hbel2
      have HSAMEX : Hid (allN (fun j => okE p (passR p l r) (edAt l j)) k = true → okE p (passR p l r) ⟨fr, to, bk, wt⟩ = decide (passE p l (passR p l r) k fr + ((wt : Int) - p * (bk : Int)) ≤ passE p l (passR p l r) k to)) := fun h => by rw [HSAME.out h]; rfl
      have HRELX : Hid (relE p (passE p l (passR p l r) k) ⟨fr, to, bk, wt⟩ = if passE p l (passR p l r) k to < passE p l (passR p l r) k fr + ((wt : Int) - p * (bk : Int)) then (fun v => if v = to then passE p l (passR p l r) k fr + ((wt : Int) - p * (bk : Int)) else passE p l (passR p l r) k v) else passE p l (passR p l r) k) := rfl
      obtain ⟨ak, hak⟩ : ∃ ak, passE p l (passR p l r) k = ak := ⟨_, rfl⟩
      rw [hak] at hcf hct hxf1 hxf2 hxt1 hxt2 HROW2 HSAMEX HRELX HREL
      obtain ⟨fk, hfk⟩ : ∃ b, allN (fun j => okE p (passR p l r) (edAt l j)) k = b := ⟨_, rfl⟩
      have HST2 := hide (HST.out fk hfk)
      rw [hfk] at HSAMEX
      rw [hfk]
      obtain ⟨xf, hxf⟩ : ∃ x, ak fr = x := ⟨_, rfl⟩
      obtain ⟨xt, hxt⟩ : ∃ x, ak to = x := ⟨_, rfl⟩
      rw [hxf] at hcf hxf1 hxf2 HSAMEX HRELX
      rw [hxt] at hct hxt1 hxt2 HSAMEX HRELX
      have hpb1 : 0 ≤ p * (bk : Int) := Int.mul_nonneg (by omega) (by omega)
      have hpb2 : p * (bk : Int) ≤ 100 * 32 := Int.mul_le_mul hp2 (by omega) (by omega) (by omega)
      rw [Int.mul_comm p (bk : Int)] at hpb1 hpb2 HSAMEX HRELX
      have hfi : (fr : Int) < (n : Int) := by omega
      have hti : (to : Int) < (n : Int) := by omega
      obtain ⟨gp, hgp⟩ : ∃ gp, xf + (wt : Int) - (bk : Int) * p = gp := ⟨_, rfl⟩
      have hgp2 : xf + ((wt : Int) - (bk : Int) * p) = gp := by omega
      rw [hgp2] at HSAMEX HRELX
      have hgb : -10000 ≤ gp ∧ gp ≤ 100000000 := by omega
      obtain ⟨hgb1, hgb2⟩ := hgb
      clear hecell hed hrow2 hbel2 hhi hlo HSAME HST hxf1 hxf2 hxt1 hxt2 hgp2
      by_cases hup : xt < gp
      · have hupd : decide (xt < gp) = true := decide_eq_true hup
        have HN : Hid (passE p l (passR p l r) (k + 1) = fun v => if v = to then gp else ak v) := by show _ = _; rw [HREL.out, HRELX.out, if_pos hup]
        have HF : Hid (allN (fun j => okE p (passR p l r) (edAt l j)) (k + 1) = false) := by
          show _ = _
          rw [HST2.out]
          cases fk with
          | false => rfl
          | true => rw [HSAMEX.out rfl, decide_eq_false (by omega)]; rfl
        go_wp2_with fail
        go_big_quiet ((fail))
        go_wp2_with fail
        go_roundw
        case rel =>
          refine ⟨k + 1, by omega, by go_num, by rw [HF.out]; rfl, ?_, ?_⟩
          · exact ((HB2.out.alloc HB2.out.size _).trans (below_draws _ _ _ |>.mono (by have := HB2.out.size; simp; omega))).setCell (Nat.le_refl _) _
          · rw [HN.out]
            have h := ((HROW2.out.alloc (.cells #[.int .i64 fr, .int .i64 to, .int .i64 bk, .int .i64 wt] 68)).drawn nq).set to (.int .i64 gp) hto
            refine h.congr fun v hv => ?_
            by_cases e : v = to
            · rw [if_pos e]; simp [e]
            · rw [if_neg e]; simp [e]
        case measure => simp [intOf]; omega
      · have hupd : decide (xt < gp) = false := decide_eq_false hup
        have HN : Hid (passE p l (passR p l r) (k + 1) = ak) := by show _ = _; rw [HREL.out, HRELX.out, if_neg hup]
        have HF : Hid (allN (fun j => okE p (passR p l r) (edAt l j)) (k + 1) = fk) := by
          show _ = _
          rw [HST2.out]
          cases fk with
          | false => rfl
          | true => rw [HSAMEX.out rfl, decide_eq_true (by omega)]; rfl
        go_wp2_with fail
        go_big_quiet ((fail))
        go_wp2_with fail
        go_roundw
        case rel =>
          refine ⟨k + 1, by omega, by go_num, by rw [HF.out], ?_, ?_⟩
          · exact (HB2.out.alloc HB2.out.size _).trans (below_draws _ _ _ |>.mono (by have := HB2.out.size; simp; omega))
          · rw [HN.out]
            exact (HROW2.out.alloc (.cells #[.int .i64 fr, .int .i64 to, .int .i64 bk, .int .i64 wt] 68)).drawn nq
        case measure => simp [intOf]; omega
    · have e : k = l.length := by omega
      subst e
      have hki : ¬ (l.length : Int) < (l.length : Int) := by omega
      have HB2 := hide hbel2
      have HROW2 := hide hrow2
      have HSE : Hid (stillE p l (passR p l r) = allN (fun j => okE p (passR p l r) (edAt l j)) l.length) := rfl
      obtain ⟨fk, hfk⟩ : ∃ b, allN (fun j => okE p (passR p l r) (edAt l j)) l.length = b := ⟨_, rfl⟩
      rw [hfk] at HSE ⊢
      clear hfk hbel2 hrow2
      have HRT : Hid ((!fk) = !stillE p l (passR p l r)) := by show _ = _; rw [HSE.out]
      go_wp2_with fail
      go_ret
      exact ⟨ret_bool HRT.out, HB2.out, HROW2.out⟩
set_option maxHeartbeats 8000000 in
theorem settles_any (n : Nat) (p : Int) (la : Option Addr) (lc : Nat) (l : List Ed) (w : World) (hE : EdgesV w (.slice la l.length lc) l) (hl : ∀ e ∈ l, edOk n e) (hn : n ≤ 16) (hp1 : 1 ≤ p) (hp2 : p ≤ 100) (hlen : l.length ≤ 60000) :
    Calls Try.prog 96 #[.slice la l.length lc, .int .i64 n, .int .i64 p] w fun e w' => e = .returned (.bool (settledD n l p)) ∧ Below w.heap.size w w' := by
  have hmk := run_make_row' (P := Try.prog) 22 3 (.int .i64 0) 8 Try.underlying22 Try.j3 rfl .i64 .i64 n (by omega) (by omega)
  have H0 : Hid (RowF (w.alloc (.cells (madeCells #[.int .i64 0] n) 3)) w.heap.size 3 n (fun v => .int .i64 (passR p l 0 v))) := RowF.zeros w _ n _
  go_enter Try.func96, Try.ntmps96
  go_wp2_with fail
  have HPUT := hide (fun (r : Nat) (hr : r ≤ 16) (W : World) (hb : Below w.heap.size w W) (hrw : RowF W w.heap.size 3 n (fun v => .int .i64 (passR p l r v))) => putOff_any n p r la lc l w W hE hl hn hr hp1 hp2 hlen hb hrw)
  clear hE hl
  go_loopw [11] (fun i wr => ∃ r : Nat, r ≤ n ∧ i = .int .i64 r ∧ (∀ q, q < r → stillE p l (passR p l q) = false) ∧ Below w.heap.size w wr ∧ RowF wr w.heap.size 3 n (fun v => .int .i64 (passR p l r v))) (fun i _ => n - (intOf i).toNat)
  case atStart => exact ⟨0, by omega, rfl, fun q hq => absurd hq (Nat.not_lt_zero _), below_alloc1 _ _, H0.out⟩
  case round =>
    clear H0 hmk
    obtain ⟨r, hr, rfl, hno, hbel, hrow⟩ := hrel
    have HNO := hide hno
    have HB := hide hbel
    have HROW := hide hrow
    clear hno hrow hbel
    by_cases hrl : r < n
    · have hri : (r : Int) < (n : Int) := by omega
      have HC := hide (HPUT.out r (by omega) wr HB.out HROW.out)
      obtain ⟨st, hst⟩ : ∃ b, stillE p l (passR p l r) = b := ⟨_, rfl⟩
      rw [hst] at HC
      have HST := hide hst
      clear hst
      cases st with
      | true =>
        have HT : Hid (settledD n l p = true) := exN_true (k := r) hrl HST.out
        go_wp2_with fail
        refine HC.out.mono ?_
        rintro e x1 ⟨rfl, hb, hr2⟩
        have HX := hide hb
        clear hb hr2
        go_wp2_with fail
        go_ret
        exact ⟨ret_bool HT.out.symm, HX.out⟩
      | false =>
        go_wp2_with fail
        refine HC.out.mono ?_
        rintro e x1 ⟨rfl, hb, hr2⟩
        have HX := hide hb
        have HR2 := hide hr2
        clear hb hr2
        go_wp2_with fail
        go_roundw
        case rel =>
          refine ⟨r + 1, by omega, by go_num, fun q hq => ?_, HX.out, HR2.out⟩
          by_cases e : q = r
          · rw [e]; exact HST.out
          · exact HNO.out q (by omega)
        case measure => simp [intOf]; omega
    · have e : r = n := by omega
      subst e
      have hri : ¬ (r : Int) < (r : Int) := by omega
      have HF : Hid (settledD r l p = false) := exN_false HNO.out
      go_wp2_with fail
      go_ret
      exact ⟨ret_bool HF.out.symm, HB.out⟩
end Go.Proofs.Ytjoapiafpahihab
/- The contract of package bound's unitsPace; nothing that was there is changed. -/
namespace Go.Proofs.Ytjoapiafpahihab
open Go.RowKit Go.Joins
set_option linter.unusedVariables false
set_option linter.unusedSimpArgs false
set_option maxRecDepth 8192

/-- how many of the first k statements are of a class -/
def cntK (L : Lp) (c k : Nat) : Nat := cnt (fun i => decide (clsv (stAt L.body i).o = (c : Int))) k
theorem cntK_all (L : Lp) (c : Nat) : cntK L c L.body.length = cntC L c := rfl
theorem cntK_le (L : Lp) (c k : Nat) : cntK L c k ≤ k := cnt_le _ _
theorem cntK_step (L : Lp) (c k cl : Nat) (h : clsv (stAt L.body k).o = (cl : Int)) : cntK L c (k + 1) = if c = cl then cntK L cl k + 1 else cntK L c k := by
  unfold cntK
  show cnt _ k + (if decide (clsv (stAt L.body k).o = (c : Int)) = true then 1 else 0) = _
  rw [h]
  by_cases e : c = cl
  · subst e; rw [if_pos rfl, if_pos (decide_eq_true rfl)]
  · rw [if_neg e, if_neg (by rw [decide_eq_true_iff]; omega)]; rfl
theorem unit_three {p0 p1 p2 q0 q1 q2 r : Int} {g : Nat} {wr : World} {c : Nat} (hc : c < 3) (h0 : wr.cell? ⟨g, 0, none⟩ = some (.int .i64 p0)) (h1 : wr.cell? ⟨g, 1, none⟩ = some (.int .i64 p1)) (h2 : wr.cell? ⟨g, 2, none⟩ = some (.int .i64 p2)) : wr.cell? ⟨g, c, none⟩ = some (.int .i64 (unitsT ⟨p0, p1, p2, q0, q1, q2, r⟩ c)) := by
  obtain rfl | rfl | rfl : c = 0 ∨ c = 1 ∨ c = 2 := by omega
  · exact h0
  · exact h1
  · exact h2
theorem units_oneX {t : Tg} (h : mayT t = true) : ∀ c : Nat, ∃ u : Nat, unitsT t c = (u : Int) ∧ 1 ≤ u ∧ u ≤ 4 := by
  intro c
  obtain ⟨h1, h2, h3, -, -⟩ := mayT_parts h
  have h1 := unit_iff h1
  have h2 := unit_iff h2
  have h3 := unit_iff h3
  unfold unitsT
  split
  · exact ⟨t.u0.toNat, by omega, by omega, by omega⟩
  · split
    · exact ⟨t.u1.toNat, by omega, by omega, by omega⟩
    · exact ⟨t.u2.toNat, by omega, by omega, by omega⟩
theorem paceU_small {L : Lp} {t : Tg} (hb : L.body.length ≤ 16) (hu : ∀ c : Nat, c < 3 → 1 ≤ (unitsT t c).toNat) : ∀ c, c ≤ 3 → 1 ≤ paceU L t c ∧ paceU L t c ≤ 16 := by
  intro c
  induction c with
  | zero => intro _; exact ⟨Nat.le_refl _, by show 1 ≤ 16; omega⟩
  | succ c ih =>
    intro hc
    have h1 := ih (by omega)
    have h2 : needU (cntC L c) (unitsT t c).toNat ≤ cntC L c := (need_iff (hu c (by omega))).1 (Nat.le_mul_of_pos_right _ (hu c (by omega)))
    have h3 : cntC L c ≤ L.body.length := cnt_le _ _
    show 1 ≤ max (paceU L t c) (needU (cntC L c) (unitsT t c).toNat) ∧ max (paceU L t c) (needU (cntC L c) (unitsT t c).toNat) ≤ 16
    omega
theorem need_quo (n u : Nat) (hu : 1 ≤ u) : ((n : Int) + (u : Int) - 1).tdiv (u : Int) = (needU n u : Int) := by
  unfold needU
  have e : (n : Int) + (u : Int) - 1 = ((n + u - 1 : Nat) : Int) := by omega
  rw [e]
  exact Int.ofNat_tdiv _ _ |>.symm

set_option maxHeartbeats 4000000 in
theorem unitsPace_walk (p0 p1 p2 q0 q1 q2 r : Int) (L : Lp) (v0 v2 : Value) (b off cap : Nat) (w : World) (hl : L.body.length ≤ cap) (hm : cap ≤ 9223372036854775807) (hb : b < w.heap.size) (hcell : ∀ i, i < L.body.length → ∀ j, j < 9 → w.cell? ⟨b, off + i * 9 + j, none⟩ = (stCells (stAt L.body i))[j]?) (h16 : L.body.length ≤ 16) (hmt : mayT ⟨p0, p1, p2, q0, q1, q2, r⟩ = true) :
    Calls Try.prog 60 #[.agg #[v0, .slice (some ⟨b, off, none⟩) L.body.length cap, v2], .agg #[.int .i64 p0, .int .i64 p1, .int .i64 p2, .int .i64 q0, .int .i64 q1, .int .i64 q2, .int .i64 r]] w fun e w' => e = .returned (.int .i64 (unitsB L ⟨p0, p1, p2, q0, q1, q2, r⟩)) ∧ Below w.heap.size w w' := by
  have HCE := hide hcell
  have HUU := hide (units_oneX hmt)
  have HPU := hide (paceU_small (L := L) (t := ⟨p0, p1, p2, q0, q1, q2, r⟩) h16 (fun c _ => by obtain ⟨u, h1, h2, _⟩ := units_oneX hmt c; rw [h1, Int.toNat_natCast]; exact h2))
  have HS : Hid (((w.alloc (.cells #[v0, .slice (some ⟨b, off, none⟩) L.body.length cap, v2] 25)).alloc (.cells #[.int .i64 p0, .int .i64 p1, .int .i64 p2, .int .i64 q0, .int .i64 q1, .int .i64 q2, .int .i64 r] 28)).heap.size = w.heap.size + 1 + 1) := by show _ = _; simp
  have H0 : Hid (RowF (((w.alloc (.cells #[v0, .slice (some ⟨b, off, none⟩) L.body.length cap, v2] 25)).alloc (.cells #[.int .i64 p0, .int .i64 p1, .int .i64 p2, .int .i64 q0, .int .i64 q1, .int .i64 q2, .int .i64 r] 28)).alloc (.cells #[.int .i64 0, .int .i64 0, .int .i64 0] 26)) (w.heap.size + 1 + 1) 26 3 (fun c => .int .i64 (cntK L c 0))) := by
    show RowF _ _ _ _ _
    rw [← HS.out]
    exact RowF.made _ _ _ 3 _ (by simp) (fun i hi => by
      obtain rfl | rfl | rfl : i = 0 ∨ i = 1 ∨ i = 2 := by omega
      all_goals rfl)
  clear hcell hmt
  go_enter Try.func60, Try.ntmps60
  go_wp2_with fail
  go_loopw [15] (fun i wr => ∃ k : Nat, k ≤ L.body.length ∧ i = .int .i64 k ∧ Below (w.heap.size + 1 + 1) ((w.alloc (.cells #[v0, .slice (some ⟨b, off, none⟩) L.body.length cap, v2] 25)).alloc (.cells #[.int .i64 p0, .int .i64 p1, .int .i64 p2, .int .i64 q0, .int .i64 q1, .int .i64 q2, .int .i64 r] 28)) wr ∧ RowF wr (w.heap.size + 1 + 1) 26 3 (fun c => .int .i64 (cntK L c k))) (fun i _ => L.body.length - (intOf i).toNat)
  case atStart => exact ⟨0, Nat.zero_le _, rfl, (Below.refl _ _).alloc (by rw [HS.out]; omega) _, H0.out⟩
  case round =>
    clear H0
    obtain ⟨k, hk, rfl, hbel, hrow⟩ := hrel
    have HB := hide hbel
    have HROW := hide hrow
    obtain ⟨⟨l0, l1, l2⟩, ⟨t0, t1, t2, t3, t4, t5, t6⟩, z0, z1, hbw⟩ := ebox_cells hbel
    have HBW := hide hbw
    have hz2 := hrow.lt
    by_cases hkl : k < L.body.length
    · have hki : (k : Int) < (L.body.length : Int) := by omega
      obtain ⟨c0, c1, c2, c3, c4, c5, c6, c7, c8⟩ := nine (fun j hj => (bcell hbw b (off + k * 9 + j) hb).trans (HCE.out k hkl j hj))
      have hbz : b < wr.heap.size := by omega
      obtain ⟨cn, hcn, hcn3⟩ : ∃ cn : Nat, clsv (stAt L.body k).o = (cn : Int) ∧ cn < 3 := by
        rcases cls_three (stAt L.body k).o with h | h | h
        · exact ⟨0, h, by omega⟩
        · exact ⟨1, h, by omega⟩
        · exact ⟨2, h, by omega⟩
      have HSTEP := hide (fun c => cntK_step L c k cn hcn)
      have HCL : Hid (∀ W, Calls Try.prog 92 #[.int .i64 (stAt L.body k).o] W fun e w' => e = .returned (.int .i64 cn) ∧ w' = W) := fun W => by rw [← hcn]; exact class_any _ _
      have hcc := hrow.cell hcn3
      have hfr := hrow.frozen cn
      have hle := cntK_le L cn k
      have HXX : Hid (∃ xk, stAt L.body k = xk) := ⟨_, rfl⟩
      generalize stAt L.body k = xk at *
      obtain ⟨o, xa, xb, ya, yb, ar, sp, pl, nn⟩ := xk
      generalize hcx : cntK L cn k = cc at *
      have HCX := hide hcx
      have hci : (cn : Int) < 3 := by omega
      clear hbel hrow hbw hcn hcx t0 t1 t2 t3 t4 t5 t6 l0 l1 l2
      go_wp2_with (go_at_call 92; refine (HCL.out _).mono ?_; rintro e w' ⟨rfl, hw'⟩; have hw' := hw'.symm; subst hw')
      go_roundw
      case rel =>
        refine ⟨k + 1, by omega, by go_num, ?_, ?_⟩
        · have h1 : Below (w.heap.size + 1 + 1) _ (wr.setCell ⟨w.heap.size + 1 + 1, cn, none⟩ (.int .i64 ((cc : Int) + 1))) := HB.out.setCell (Nat.le_refl _) _
          exact h1.alloc (by simp; omega) _
        · have h := (HROW.out.set cn (.int .i64 ((cc : Int) + 1)) hcn3).alloc (.cells #[.int .i64 o, .int .i64 xa, .int .i64 xb, .int .i64 ya, .int .i64 yb, .int .i64 ar, .int .i64 sp, .int .i64 pl, .int .i64 nn] 65)
          refine h.congr fun v hv => ?_
          rw [HSTEP.out v]
          by_cases e : v = cn
          · rw [if_pos e, if_pos e]; simp
          · rw [if_neg e, if_neg e]
      case measure => simp [intOf]; omega
    · have e : k = L.body.length := by omega
      subst e
      have hki : ¬ (L.body.length : Int) < (L.body.length : Int) := by omega
      have r0 := hrow.cell (i := 0) (by omega)
      have r1 := hrow.cell (i := 1) (by omega)
      have r2 := hrow.cell (i := 2) (by omega)
      rw [cntK_all] at r0 r1 r2
      have HUC := hide (fun c (hc : c < 3) => unit_three (q0 := q0) (q1 := q1) (q2 := q2) (r := r) hc t0 t1 t2)
      have HIX : Hid (∀ c : Nat, c < 3 → ∀ W : World, (Instr.index 26 (.agg #[.int .i64 (cntC L 0), .int .i64 (cntC L 1), .int .i64 (cntC L 2)]) (.int .i64 (c : Int))).run Try.prog W = .ok (.int .i64 (cntC L c)) W) := fun c hc W => by
        obtain rfl | rfl | rfl : c = 0 ∨ c = 1 ∨ c = 2 := by omega
        all_goals kernel_rfl
      clear hbel hrow hbw t0 t1 t2 t3 t4 t5 t6 l0 l1 l2
      go_wp2_with fail
      go_loopw [8, 28] (fun pv i wr2 => ∃ c : Nat, c ≤ 3 ∧ i = .int .i64 c ∧ pv = .int .i64 (paceU L ⟨p0, p1, p2, q0, q1, q2, r⟩ c) ∧ wr2 = wr) (fun _ i _ => 3 - (intOf i).toNat)
      case atStart => exact ⟨0, by omega, rfl, rfl, rfl⟩
      case round =>
        obtain ⟨c, hc, rfl, rfl, rfl⟩ := hrel
        have hpb := HPU.out c hc
        by_cases hcl : c < 3
        · have hci : (c : Int) < 3 := by omega
          have huc := HUC.out c hcl
          have hix := HIX.out c hcl
          obtain ⟨u, hu, hu1, hu4⟩ := HUU.out c
          rw [hu] at huc
          have HNX : Hid (paceU L ⟨p0, p1, p2, q0, q1, q2, r⟩ (c + 1) = max (paceU L ⟨p0, p1, p2, q0, q1, q2, r⟩ c) (needU (cntC L c) u)) := by
            show max _ (needU (cntC L c) (unitsT _ c).toNat) = _
            rw [hu, Int.toNat_natCast]
          have hcb : cntC L c ≤ 16 := Nat.le_trans (cnt_le _ _) h16
          have hnq := need_quo (cntC L c) u hu1
          have hndb : needU (cntC L c) u ≤ 16 := Nat.le_trans ((need_iff hu1).1 (Nat.le_mul_of_pos_right _ hu1)) hcb
          generalize needU (cntC L c) u = nd at *
          have hwn : wrap64 (nd : Int) = (nd : Int) := by unfold wrap64; omega
          obtain ⟨nc, hnc⟩ : ∃ nc, cntC L c = nc := ⟨_, rfl⟩
          rw [hnc] at hix hcb hnq
          obtain ⟨pa, hpa⟩ : ∃ pa, paceU L ⟨p0, p1, p2, q0, q1, q2, r⟩ c = pa := ⟨_, rfl⟩
          rw [hpa] at HNX hpb ⊢
          obtain ⟨hpb1, hpb2⟩ := hpb
          clear hnc hu hpa r0 r1 r2
          go_wp2_with fail
          go_roundw
          case rel =>
            refine ⟨c + 1, by omega, by go_num, ?_, trivial⟩
            rw [HNX.out]
            congr 1
            first | omega | (split <;> omega)
          case measure => simp [intOf]; omega
        · have e : c = 3 := by omega
          subst e
          go_wp2_with fail
          go_ret
          exact ⟨rfl, HBW.out⟩
end Go.Proofs.Ytjoapiafpahihab
/- The contract of package bound: how the program tells the least paces; nothing that was there is changed. -/
namespace Go.Proofs.Ytjoapiafpahihab
open Go.RowKit Go.Joins
set_option linter.unusedVariables false
set_option linter.unusedSimpArgs false
set_option maxRecDepth 8192

set_option maxHeartbeats 4000000 in
theorem roundsPace_any (t : Tg) (L : Lp) (ea : Option Addr) (ec : Nat) (w : World) (hE : EdgesV w (.slice ea (edgesD L t).length ec) (edgesD L t)) (hm : mayB L = true) :
    Calls Try.prog 61 #[.slice ea (edgesD L t).length ec, .int .i64 L.body.length] w fun e w' => e = .returned (.int .i64 (roundsB L t)) ∧ Below w.heap.size w w' := by
  obtain ⟨-, h1, h16, -⟩ := may_parts hm
  have hlen : (edgesD L t).length ≤ 60000 := by
    have := frD_len L t L.body.length h16
    have h2 : L.body.length * 3696 ≤ 16 * 3696 := Nat.mul_le_mul_right _ h16
    show (frD L t L.body.length).length ≤ 60000
    omega
  have HOK : Hid (∀ e ∈ edgesD L t, edOk L.body.length e) := fun e he => by
    obtain ⟨fr, to, bk, wt, h0, h1, h2, h3, h4, h5⟩ := edges_ok hm e he
    exact ⟨fr, to, bk, wt, h0, h1, h2, h5, h4⟩
  have HIN : Hid (∀ e ∈ edgesD L t, e.fr.toNat < L.body.length ∧ e.to.toNat < L.body.length) := fun e he => by
    obtain ⟨fr, to, bk, wt, rfl, h1, h2, -⟩ := edges_ok hm e he
    exact ⟨by show ((fr : Int)).toNat < _; rw [Int.toNat_natCast]; exact h1, by show ((to : Int)).toNat < _; rw [Int.toNat_natCast]; exact h2⟩
  have HLAST := hide (fun q h1 h2 h3 => rounds_last (L := L) (t := t) (q := q) hm h1 h2 h3)
  have H96 := hide (fun q h => rounds_96 (L := L) (t := t) hm (q := q) h)
  have HEV := hide hE
  clear hE hm
  generalize edgesD L t = es at *
  go_enter Try.func61, Try.ntmps61
  go_wp2_with fail
  go_loopw [5] (fun pv wr => ∃ q : Nat, pv = .int .i64 q ∧ 1 ≤ q ∧ (∀ q' : Nat, 1 ≤ q' → q' < q → roundsD L.body.length es q' = false) ∧ Below w.heap.size w wr) (fun pv _ => 100 - (intOf pv).toNat)
  case atStart => exact ⟨1, rfl, Nat.le_refl _, fun q' h1 h2 => absurd h2 (by omega), Below.refl _ _⟩
  case round =>
    obtain ⟨q, rfl, hq1, hno, hbel⟩ := hrel
    have hq96 := H96.out q hno
    have HNO := hide hno
    have HBL := hide hbel
    obtain ⟨rb, hrb⟩ : ∃ b, roundsD L.body.length es (q : Int) = b := ⟨_, rfl⟩
    have HRO : Hid (Calls Try.prog 96 #[.slice ea es.length ec, .int .i64 L.body.length, .int .i64 q] wr fun e w' => e = .returned (.bool rb) ∧ Below wr.heap.size wr w') := by
      show Calls _ _ _ _ _
      rw [← hrb, ← settled_rounds h1 HIN.out]
      exact settles_any L.body.length q ea ec es wr (HEV.out.below hbel) HOK.out h16 (by omega) (by omega) hlen
    have HRB := hide hrb
    clear hno hbel hrb
    cases rb with
    | true =>
      have HE := hide (HLAST.out q hq1 HRB.out HNO.out)
      go_wp2_with fail
      refine HRO.out.mono ?_
      rintro e x2 ⟨rfl, hb2⟩
      have HX2 := hide (HBL.out.trans (hb2.mono HBL.out.size))
      clear hb2
      go_wp2_with fail
      go_ret
      exact ⟨ret_int (by rw [HE.out]), HX2.out⟩
    | false =>
      go_wp2_with fail
      refine HRO.out.mono ?_
      rintro e x2 ⟨rfl, hb2⟩
      have HX2 := hide (HBL.out.trans (hb2.mono HBL.out.size))
      clear hb2
      go_wp2_with fail
      go_roundw
      case rel =>
        refine ⟨q + 1, by go_num, by omega, fun q' h1 h2 => ?_, HX2.out⟩
        by_cases e : q' = q
        · rw [e]; exact HRB.out
        · exact HNO.out q' h1 (by omega)
      case measure => simp [intOf]; omega

set_option maxHeartbeats 1000000 in
theorem bound_no (hE : EdgesC) (p0 p1 p2 q0 q1 q2 r : Int) (L : Lp) (a0 a1 a2 : Option Addr) (cap0 cap1 cap2 : Nat) (w : World) (hL : LoopV w (.agg #[.slice a0 L.logs.length cap0, .slice a1 L.body.length cap1, .slice a2 L.outs.length cap2]) L) (hm : (mayB L && mayT ⟨p0, p1, p2, q0, q1, q2, r⟩) = false) :
    Calls Try.prog 29 #[.agg #[.slice a0 L.logs.length cap0, .slice a1 L.body.length cap1, .slice a2 L.outs.length cap2], .agg #[.int .i64 p0, .int .i64 p1, .int .i64 p2, .int .i64 q0, .int .i64 q1, .int .i64 q2, .int .i64 r]] w fun e w' => e = .returned (.tuple #[.int .i64 0, .int .i64 0, .int .i64 2]) ∧ Below w.heap.size w w' := by
  have HM := hide (fun W (h : LoopV W (.agg #[.slice a0 L.logs.length cap0, .slice a1 L.body.length cap1, .slice a2 L.outs.length cap2]) L) => edgesC_no hE (.agg #[.slice a0 L.logs.length cap0, .slice a1 L.body.length cap1, .slice a2 L.outs.length cap2]) ⟨p0, p1, p2, q0, q1, q2, r⟩ L W h hm)
  have HS : Hid (((w.alloc (.cells #[.slice a0 L.logs.length cap0, .slice a1 L.body.length cap1, .slice a2 L.outs.length cap2] 25)).alloc (.cells #[.int .i64 p0, .int .i64 p1, .int .i64 p2, .int .i64 q0, .int .i64 q1, .int .i64 q2, .int .i64 r] 28)).heap.size = w.heap.size + 1 + 1) := by show _ = _; simp
  clear hm
  go_enter Try.func29, Try.ntmps29
  go_wp2_with fail
  refine (HM.out _ (hL.below (below_alloc2 _ _ _))).mono ?_
  rintro e x1 ⟨ea, ec, rfl, hb⟩
  have HB1 : Hid (Below (w.heap.size + 1 + 1) ((w.alloc (.cells #[.slice a0 L.logs.length cap0, .slice a1 L.body.length cap1, .slice a2 L.outs.length cap2] 25)).alloc (.cells #[.int .i64 p0, .int .i64 p1, .int .i64 p2, .int .i64 q0, .int .i64 q1, .int .i64 q2, .int .i64 r] 28)) x1) := by show Below _ _ _; rw [← HS.out]; exact hb
  obtain ⟨-, -, -, -, hbw⟩ := ebox_cells HB1.out
  have HW1 := hide hbw
  clear hb hbw
  go_wp2_with fail
  exact bodyPost_ret (v := .tuple #[.int .i64 0, .int .i64 0, .int .i64 2]) (by simp [results, Try.results29, go_sem]) rfl ⟨rfl, HW1.out⟩
set_option maxHeartbeats 4000000 in
set_option maxRecDepth 100000 in
theorem bound_yes (hE : EdgesC) (p0 p1 p2 q0 q1 q2 r : Int) (L : Lp) (a0 a2 : Option Addr) (cap0 b off cap1 cap2 : Nat) (w : World) (hL : LoopV w (.agg #[.slice a0 L.logs.length cap0, .slice (some ⟨b, off, none⟩) L.body.length cap1, .slice a2 L.outs.length cap2]) L) (hm : mayB L = true) (ht : mayT ⟨p0, p1, p2, q0, q1, q2, r⟩ = true) (hl1 : L.body.length ≤ cap1) (hm1 : cap1 ≤ 9223372036854775807) (hb : b < w.heap.size)
    (hbody : ∀ i, i < L.body.length → ∀ j, j < 9 → w.cell? ⟨b, off + i * 9 + j, none⟩ = (stCells (stAt L.body i))[j]?) :
    Calls Try.prog 29 #[.agg #[.slice a0 L.logs.length cap0, .slice (some ⟨b, off, none⟩) L.body.length cap1, .slice a2 L.outs.length cap2], .agg #[.int .i64 p0, .int .i64 p1, .int .i64 p2, .int .i64 q0, .int .i64 q1, .int .i64 q2, .int .i64 r]] w fun e w' => e = .returned (.tuple #[.int .i64 (unitsB L ⟨p0, p1, p2, q0, q1, q2, r⟩), .int .i64 (roundsB L ⟨p0, p1, p2, q0, q1, q2, r⟩), .int .i64 0]) ∧ Below w.heap.size w w' := by
  have h16 := (may_parts hm).2.2.1
  have HM := hide (fun W (h : LoopV W (.agg #[.slice a0 L.logs.length cap0, .slice (some ⟨b, off, none⟩) L.body.length cap1, .slice a2 L.outs.length cap2]) L) => edgesC_yes hE (.agg #[.slice a0 L.logs.length cap0, .slice (some ⟨b, off, none⟩) L.body.length cap1, .slice a2 L.outs.length cap2]) ⟨p0, p1, p2, q0, q1, q2, r⟩ L W h (by rw [hm, ht]; rfl))
  have HUN := hide (fun W (hW : Below w.heap.size w W) => unitsPace_walk p0 p1 p2 q0 q1 q2 r L (.slice a0 L.logs.length cap0) (.slice a2 L.outs.length cap2) b off cap1 W hl1 hm1 (by have := hW.size; omega) (fun i hi j hj => by rw [bcell hW _ _ hb]; exact hbody i hi j hj) h16 ht)
  have HRO := hide (fun ea ec W h => roundsPace_any ⟨p0, p1, p2, q0, q1, q2, r⟩ L ea ec W h hm)
  have HS : Hid (((w.alloc (.cells #[.slice a0 L.logs.length cap0, .slice (some ⟨b, off, none⟩) L.body.length cap1, .slice a2 L.outs.length cap2] 25)).alloc (.cells #[.int .i64 p0, .int .i64 p1, .int .i64 p2, .int .i64 q0, .int .i64 q1, .int .i64 q2, .int .i64 r] 28)).heap.size = w.heap.size + 1 + 1) := by show _ = _; simp
  clear hm ht hbody
  generalize unitsB L ⟨p0, p1, p2, q0, q1, q2, r⟩ = ub at *
  generalize roundsB L ⟨p0, p1, p2, q0, q1, q2, r⟩ = rb at *
  go_enter Try.func29, Try.ntmps29
  go_wp2_with fail
  refine (HM.out _ (hL.below (below_alloc2 _ _ _))).mono ?_
  rintro e x2 ⟨ea, en, ec, rfl, hev, hb1⟩
  have HB2 : Hid (Below (w.heap.size + 1 + 1) ((w.alloc (.cells #[.slice a0 L.logs.length cap0, .slice (some ⟨b, off, none⟩) L.body.length cap1, .slice a2 L.outs.length cap2] 25)).alloc (.cells #[.int .i64 p0, .int .i64 p1, .int .i64 p2, .int .i64 q0, .int .i64 q1, .int .i64 q2, .int .i64 r] 28)) x2) := by show Below _ _ _; rw [← HS.out]; exact hb1
  obtain ⟨-, -, -, -, hbw⟩ := ebox_cells HB2.out
  have HW2 := hide hbw
  obtain ⟨ea2, ec2, hen, -⟩ := id hev
  injection hen with hen1 hen2 hen3
  subst hen1; subst hen2; subst hen3
  have HEV := hide hev
  clear hb1 hbw hev
  generalize edgesD L ⟨p0, p1, p2, q0, q1, q2, r⟩ = es at *
  have HSS : Hid (∀ w' : World, Below (w.heap.size + 1 + 1) ((w.alloc (.cells #[.slice a0 L.logs.length cap0, .slice (some ⟨b, off, none⟩) L.body.length cap1, .slice a2 L.outs.length cap2] 25)).alloc (.cells #[.int .i64 p0, .int .i64 p1, .int .i64 p2, .int .i64 q0, .int .i64 q1, .int .i64 q2, .int .i64 r] 28)) w' → (w'.cell? ⟨w.heap.size, 0, none⟩ = some (.slice a0 L.logs.length cap0) ∧ w'.cell? ⟨w.heap.size, 1, none⟩ = some (.slice (some ⟨b, off, none⟩) L.body.length cap1) ∧ w'.cell? ⟨w.heap.size, 2, none⟩ = some (.slice a2 L.outs.length cap2)) ∧ (w'.cell? ⟨w.heap.size + 1, 0, none⟩ = some (.int .i64 p0) ∧ w'.cell? ⟨w.heap.size + 1, 1, none⟩ = some (.int .i64 p1) ∧ w'.cell? ⟨w.heap.size + 1, 2, none⟩ = some (.int .i64 p2) ∧ w'.cell? ⟨w.heap.size + 1, 3, none⟩ = some (.int .i64 q0) ∧ w'.cell? ⟨w.heap.size + 1, 4, none⟩ = some (.int .i64 q1) ∧ w'.cell? ⟨w.heap.size + 1, 5, none⟩ = some (.int .i64 q2) ∧ w'.cell? ⟨w.heap.size + 1, 6, none⟩ = some (.int .i64 r))) := by
    intro w' h
    obtain ⟨h1, h2, -⟩ := ebox_cells h
    exact ⟨h1, h2⟩
  have hz2 : w.heap.size + 1 + 1 ≤ x2.heap.size := by have := HB2.out.size; rw [HS.out] at this; exact this
  go_wp2_with fail
  refine wp_region_noPanic ?_
  refine region_until 99 (fun w' => (w'.cell? ⟨w.heap.size, 0, none⟩ = some (.slice a0 L.logs.length cap0) ∧ w'.cell? ⟨w.heap.size, 1, none⟩ = some (.slice (some ⟨b, off, none⟩) L.body.length cap1) ∧ w'.cell? ⟨w.heap.size, 2, none⟩ = some (.slice a2 L.outs.length cap2)) ∧ (w'.cell? ⟨w.heap.size + 1, 0, none⟩ = some (.int .i64 p0) ∧ w'.cell? ⟨w.heap.size + 1, 1, none⟩ = some (.int .i64 p1) ∧ w'.cell? ⟨w.heap.size + 1, 2, none⟩ = some (.int .i64 p2) ∧ w'.cell? ⟨w.heap.size + 1, 3, none⟩ = some (.int .i64 q0) ∧ w'.cell? ⟨w.heap.size + 1, 4, none⟩ = some (.int .i64 q1) ∧ w'.cell? ⟨w.heap.size + 1, 5, none⟩ = some (.int .i64 q2) ∧ w'.cell? ⟨w.heap.size + 1, 6, none⟩ = some (.int .i64 r))) (by kernel_rfl) (HSS.out _ (HB2.out.trans (below_drew1 _ _))) (fun hHeld => ?_)
  refine utk (i := 0) rfl hHeld ?_
  try simp only [Act.put, List.setIfInBounds_toArray, List.set_cons_zero, List.set_cons_succ]
  refine utk (i := 1) rfl hHeld ?_
  try simp only [Act.put, List.setIfInBounds_toArray, List.set_cons_zero, List.set_cons_succ]
  refine utk (i := 3) rfl hHeld ?_
  try simp only [Act.put, List.setIfInBounds_toArray, List.set_cons_zero, List.set_cons_succ]
  refine utk (i := 4) rfl hHeld ?_
  try simp only [Act.put, List.setIfInBounds_toArray, List.set_cons_zero, List.set_cons_succ]
  refine utk (i := 5) rfl hHeld ?_
  try simp only [Act.put, List.setIfInBounds_toArray, List.set_cons_zero, List.set_cons_succ]
  refine utk (i := 6) rfl hHeld ?_
  try simp only [Act.put, List.setIfInBounds_toArray, List.set_cons_zero, List.set_cons_succ]
  refine until_one (i := 2) rfl (by kernel_rfl) (fun K hK9 => ?_)
  go_simp
  refine (HUN.out _ (HW2.out.trans (below_drew1 _ _))).mono ?_
  rintro e x3 ⟨rfl, hb3⟩
  have hB3 := HB2.out.trans ((below_drew1 _ _).trans (hb3.mono (by simpa using hz2)))
  have HB3 := hide hB3
  have HW3 := hide (HW2.out.trans ((below_drew1 _ _).trans (hb3.mono (by simpa using HW2.out.size))))
  have hHeld := HSS.out _ hB3
  have HEV3 := hide (HEV.out.below ((below_drew1 _ _).trans hb3))
  clear hb3 hB3
  refine hK9.out _ _ (.inr hHeld) ?_
  clear hK9 K
  try simp only [Act.put, List.setIfInBounds_toArray, List.set_cons_zero, List.set_cons_succ]
  refine until_one (i := 7) rfl (by kernel_rfl) (fun K hK9 => ?_)
  go_simp
  refine (HRO.out _ _ _ HEV3.out).mono ?_
  rintro e x4 ⟨rfl, hb4⟩
  have hz3 : w.heap.size + 1 + 1 ≤ x3.heap.size := by have := HB3.out.size; rw [HS.out] at this; exact this
  have hB4 := HB3.out.trans (hb4.mono hz3)
  have HW4 := hide (HW3.out.trans (hb4.mono HW3.out.size))
  have hHeld := HSS.out _ hB4
  clear hb4 hB4
  refine hK9.out _ _ (.inr hHeld) ?_
  clear hK9 K
  try simp only [Act.put, List.setIfInBounds_toArray, List.set_cons_zero, List.set_cons_succ]
  refine utk (i := 8) rfl hHeld ?_
  try simp only [Act.put, List.setIfInBounds_toArray, List.set_cons_zero, List.set_cons_succ]
  refine utk (i := 9) rfl hHeld ?_
  try simp only [Act.put, List.setIfInBounds_toArray, List.set_cons_zero, List.set_cons_succ]
  refine utk (i := 10) rfl hHeld ?_
  try simp only [Act.put, List.setIfInBounds_toArray, List.set_cons_zero, List.set_cons_succ]
  refine until_done (by kernel_rfl) ?_ _
  refine NoPanic.normal ?_
  clear hHeld
  go_wp2_with fail
  exact bodyPost_ret (v := .tuple #[.int .i64 ub, .int .i64 rb, .int .i64 0]) (by simp [results, Try.results29, go_sem]) rfl ⟨rfl, HW4.out⟩
theorem bound_all_of (hE : EdgesC) : BoundC := by
  intro v t L w hL
  obtain ⟨p0, p1, p2, q0, q1, q2, r⟩ := t
  have hL' := hL
  obtain ⟨v0, v1, v2, rfl, ⟨a0, cap0, rfl, -⟩, ⟨a1, cap1, rfl, h1, h2, h3⟩, ⟨a2, cap2, rfl, -, -, -, -⟩⟩ := hL'
  unfold maxLen at h2
  cases hm : (mayB L && mayT ⟨p0, p1, p2, q0, q1, q2, r⟩) with
  | false =>
    refine (bound_no hE p0 p1 p2 q0 q1 q2 r L a0 a1 a2 cap0 cap1 cap2 w hL hm).mono fun e w' ⟨he, hb⟩ => ⟨?_, hb⟩
    rw [if_neg Bool.false_ne_true]; exact he
  | true =>
    have hm2 : mayB L = true ∧ mayT ⟨p0, p1, p2, q0, q1, q2, r⟩ = true := by simpa using hm
    obtain ⟨b, off, rfl, hb, hcell⟩ := h3 (by have := (may_parts hm2.1).2.1; omega)
    refine (bound_yes hE p0 p1 p2 q0 q1 q2 r L a0 a2 cap0 b off cap1 cap2 w hL hm2.1 hm2.2 h1 (by omega) hb hcell).mono fun e w' ⟨he, hb⟩ => ⟨?_, hb⟩
    rw [if_pos rfl]; exact he
end Go.Proofs.Ytjoapiafpahihab
/- Package bound answers as BoundC says. -/
namespace Go.Proofs.Ytjoapiafpahihab
theorem bound_all : BoundC := bound_all_of depEdges_all
end Go.Proofs.Ytjoapiafpahihab
