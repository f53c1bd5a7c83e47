/- The contracts of package bound's putOff and settles; nothing that was there is changed. -/
import Derived.Test.YtpljieenjkbmmaaRoundLess
import Derived.Test.YtpljieenjkbmmaaRef7Rounds
namespace Go.Proofs.Ytpljieenjkbmmaa
open Go.RowKit Go.Joins
set_option linter.unusedVariables false
set_option linter.unusedSimpArgs false
set_option maxRecDepth 8192

set_option maxHeartbeats 8000000 in
theorem putOff_any (n : Nat) (p : Int) (r : Nat) (la : Option Addr) (lc : Nat) (l : List Ed) (w0 w : World) (hE : EdgesV w0 (.slice la l.length lc) l) (hl : ∀ e ∈ l, edOk n e) (hn : n ≤ 16) (hr : r ≤ 16) (hp1 : 1 ≤ p) (hp2 : p ≤ 100) (hlen : l.length ≤ 60000)
    (hbe : Below w0.heap.size w0 w) (hrw : RowF w w0.heap.size 3 n (fun v => .int .i64 (passR p l r v))) :
    Calls Try.prog 131 #[.slice (some ⟨w0.heap.size, 0, none⟩) n n, .slice la l.length lc, .int .i64 p] w fun e w' => e = .returned (.bool (!stillE p l (passR p l r))) ∧ Below w0.heap.size w0 w' ∧ RowF w' w0.heap.size 3 n (fun v => .int .i64 (passR p l (r + 1) v)) := by
  obtain ⟨la', lc', he1, he2, he3, hec⟩ := hE
  injection he1 with e1 e2 e3
  subst e1; subst e3
  unfold maxLen at he3
  have HEC := hide hec
  have HL := hide hl
  have HBE := hide hbe
  have HRW := hide hrw
  clear hec hl e2 hbe hrw
  go_enter Try.func131, Try.ntmps131
  go_wp2_with fail
  go_loopw [7, 13] (fun st i wr => ∃ k : Nat, k ≤ l.length ∧ i = .int .i64 k ∧ st = .bool (!allN (fun j => okE p (passR p l r) (edAt l j)) k) ∧ Below w0.heap.size w0 wr ∧ RowF wr w0.heap.size 3 n (fun v => .int .i64 (passE p l (passR p l r) k v))) (fun _ i _ => l.length - (intOf i).toNat)
  case atStart => exact ⟨0, Nat.zero_le _, rfl, rfl, HBE.out, HRW.out⟩
  case round =>
    obtain ⟨k, hk, rfl, rfl, hbel2, hrow2⟩ := hrel
    clear HBE HRW
    by_cases hkl : k < l.length
    · have hki : (k : Int) < (l.length : Int) := by omega
      obtain ⟨eb, eo, rfl, hebz, hecell⟩ := HEC.out (by omega)
      obtain ⟨c0, c1, c2, c3⟩ := fourE (hecell k hkl)
      rw [← bcell hbel2 _ _ hebz] at c0 c1 c2 c3
      have hebz2 : eb < wr.heap.size := by have := hbel2.size; omega
      obtain ⟨fr, to, bk, wt, hed, hfr, hto, hbk, hwt⟩ := HL.out _ (edAt_in hkl)
      have HST : Hid (∀ b, allN (fun j => okE p (passR p l r) (edAt l j)) k = b → allN (fun j => okE p (passR p l r) (edAt l j)) (k + 1) = (b && okE p (passR p l r) (edAt l k))) := fun b h => by show (allN _ k && _) = _; rw [h]
      have HSAME := hide (fun h => pass_same (p := p) (l := l) (a := passR p l r) k (by omega) h)
      have HREL : Hid (passE p l (passR p l r) (k + 1) = relE p (passE p l (passR p l r) k) (edAt l k)) := rfl
      have hhi := pass_high (p := p) (l := l) (a := passR p l r) (by omega) HL.out (passR_high (by omega) HL.out r) k hk
      have hlo := fun v => pass_low (p := p) (l := l) r k v
      have hr17 : r * l.length ≤ 16 * 60000 := Nat.mul_le_mul (by omega) hlen
      rw [hed] at c0 c1 c2 c3 HST HREL
      simp only at c0 c1 c2 c3
      have hcf := hrow2.cell hfr
      have hct := hrow2.cell hto
      have hft := hrow2.frozen to
      have hxz := hrow2.lt
      have hxf1 := hhi fr
      have hxf2 := hlo fr
      have hxt1 := hhi to
      have hxt2 := hlo to
      have HROW2 := hide hrow2
      have HB2 := hide hbel2
      have HSAMEX : Hid (allN (fun j => okE p (passR p l r) (edAt l j)) k = true → okE p (passR p l r) ⟨fr, to, bk, wt⟩ = decide (passE p l (passR p l r) k fr + ((wt : Int) - p * (bk : Int)) ≤ passE p l (passR p l r) k to)) := fun h => by rw [HSAME.out h]; rfl
      have HRELX : Hid (relE p (passE p l (passR p l r) k) ⟨fr, to, bk, wt⟩ = if passE p l (passR p l r) k to < passE p l (passR p l r) k fr + ((wt : Int) - p * (bk : Int)) then (fun v => if v = to then passE p l (passR p l r) k fr + ((wt : Int) - p * (bk : Int)) else passE p l (passR p l r) k v) else passE p l (passR p l r) k) := rfl
      obtain ⟨ak, hak⟩ : ∃ ak, passE p l (passR p l r) k = ak := ⟨_, rfl⟩
      rw [hak] at hcf hct hxf1 hxf2 hxt1 hxt2 HROW2 HSAMEX HRELX HREL
      obtain ⟨fk, hfk⟩ : ∃ b, allN (fun j => okE p (passR p l r) (edAt l j)) k = b := ⟨_, rfl⟩
      have HST2 := hide (HST.out fk hfk)
      rw [hfk] at HSAMEX
      rw [hfk]
      obtain ⟨xf, hxf⟩ : ∃ x, ak fr = x := ⟨_, rfl⟩
      obtain ⟨xt, hxt⟩ : ∃ x, ak to = x := ⟨_, rfl⟩
      rw [hxf] at hcf hxf1 hxf2 HSAMEX HRELX
      rw [hxt] at hct hxt1 hxt2 HSAMEX HRELX
      have hpb1 : 0 ≤ p * (bk : Int) := Int.mul_nonneg (by omega) (by omega)
      have hpb2 : p * (bk : Int) ≤ 100 * 32 := Int.mul_le_mul hp2 (by omega) (by omega) (by omega)
      rw [Int.mul_comm p (bk : Int)] at hpb1 hpb2 HSAMEX HRELX
      have hfi : (fr : Int) < (n : Int) := by omega
      have hti : (to : Int) < (n : Int) := by omega
      obtain ⟨gp, hgp⟩ : ∃ gp, xf + (wt : Int) - (bk : Int) * p = gp := ⟨_, rfl⟩
      have hgp2 : xf + ((wt : Int) - (bk : Int) * p) = gp := by omega
      rw [hgp2] at HSAMEX HRELX
      have hgb : -10000 ≤ gp ∧ gp ≤ 100000000 := by omega
      obtain ⟨hgb1, hgb2⟩ := hgb
      clear hecell hed hrow2 hbel2 hhi hlo HSAME HST hxf1 hxf2 hxt1 hxt2 hgp2
      by_cases hup : xt < gp
      · have hupd : decide (xt < gp) = true := decide_eq_true hup
        have HN : Hid (passE p l (passR p l r) (k + 1) = fun v => if v = to then gp else ak v) := by show _ = _; rw [HREL.out, HRELX.out, if_pos hup]
        have HF : Hid (allN (fun j => okE p (passR p l r) (edAt l j)) (k + 1) = false) := by
          show _ = _
          rw [HST2.out]
          cases fk with
          | false => rfl
          | true => rw [HSAMEX.out rfl, decide_eq_false (by omega)]; rfl
        go_wp2_with fail
        go_big_quiet ((fail))
        go_wp2_with fail
        go_roundw
        case rel =>
          refine ⟨k + 1, by omega, by go_num, by rw [HF.out]; rfl, ?_, ?_⟩
          · exact ((HB2.out.alloc HB2.out.size _).trans (below_draws _ _ _ |>.mono (by have := HB2.out.size; simp; omega))).setCell (Nat.le_refl _) _
          · rw [HN.out]
            have h := ((HROW2.out.alloc (.cells #[.int .i64 fr, .int .i64 to, .int .i64 bk, .int .i64 wt] 81)).drawn nq).set to (.int .i64 gp) hto
            refine h.congr fun v hv => ?_
            by_cases e : v = to
            · rw [if_pos e]; simp [e]
            · rw [if_neg e]; simp [e]
        case measure => simp [intOf]; omega
      · have hupd : decide (xt < gp) = false := decide_eq_false hup
        have HN : Hid (passE p l (passR p l r) (k + 1) = ak) := by show _ = _; rw [HREL.out, HRELX.out, if_neg hup]
        have HF : Hid (allN (fun j => okE p (passR p l r) (edAt l j)) (k + 1) = fk) := by
          show _ = _
          rw [HST2.out]
          cases fk with
          | false => rfl
          | true => rw [HSAMEX.out rfl, decide_eq_true (by omega)]; rfl
        go_wp2_with fail
        go_big_quiet ((fail))
        go_wp2_with fail
        go_roundw
        case rel =>
          refine ⟨k + 1, by omega, by go_num, by rw [HF.out], ?_, ?_⟩
          · exact (HB2.out.alloc HB2.out.size _).trans (below_draws _ _ _ |>.mono (by have := HB2.out.size; simp; omega))
          · rw [HN.out]
            exact (HROW2.out.alloc (.cells #[.int .i64 fr, .int .i64 to, .int .i64 bk, .int .i64 wt] 81)).drawn nq
        case measure => simp [intOf]; omega
    · have e : k = l.length := by omega
      subst e
      have hki : ¬ (l.length : Int) < (l.length : Int) := by omega
      have HB2 := hide hbel2
      have HROW2 := hide hrow2
      have HSE : Hid (stillE p l (passR p l r) = allN (fun j => okE p (passR p l r) (edAt l j)) l.length) := rfl
      obtain ⟨fk, hfk⟩ : ∃ b, allN (fun j => okE p (passR p l r) (edAt l j)) l.length = b := ⟨_, rfl⟩
      rw [hfk] at HSE ⊢
      clear hfk hbel2 hrow2
      have HRT : Hid ((!fk) = !stillE p l (passR p l r)) := by show _ = _; rw [HSE.out]
      go_wp2_with fail
      go_ret
      exact ⟨ret_bool HRT.out, HB2.out, HROW2.out⟩
set_option maxHeartbeats 8000000 in
theorem settles_any (n : Nat) (p : Int) (la : Option Addr) (lc : Nat) (l : List Ed) (w : World) (hE : EdgesV w (.slice la l.length lc) l) (hl : ∀ e ∈ l, edOk n e) (hn : n ≤ 16) (hp1 : 1 ≤ p) (hp2 : p ≤ 100) (hlen : l.length ≤ 60000) :
    Calls Try.prog 108 #[.slice la l.length lc, .int .i64 n, .int .i64 p] w fun e w' => e = .returned (.bool (settledD n l p)) ∧ Below w.heap.size w w' := by
  have hmk := run_make_row' (P := Try.prog) 27 3 (.int .i64 0) 8 Try.underlying27 Try.j3 rfl .i64 .i64 n (by omega) (by omega)
  have H0 : Hid (RowF (w.alloc (.cells (madeCells #[.int .i64 0] n) 3)) w.heap.size 3 n (fun v => .int .i64 (passR p l 0 v))) := RowF.zeros w _ n _
  go_enter Try.func108, Try.ntmps108
  go_wp2_with fail
  have HPUT := hide (fun (r : Nat) (hr : r ≤ 16) (W : World) (hb : Below w.heap.size w W) (hrw : RowF W w.heap.size 3 n (fun v => .int .i64 (passR p l r v))) => putOff_any n p r la lc l w W hE hl hn hr hp1 hp2 hlen hb hrw)
  clear hE hl
  go_loopw [11] (fun i wr => ∃ r : Nat, r ≤ n ∧ i = .int .i64 r ∧ (∀ q, q < r → stillE p l (passR p l q) = false) ∧ Below w.heap.size w wr ∧ RowF wr w.heap.size 3 n (fun v => .int .i64 (passR p l r v))) (fun i _ => n - (intOf i).toNat)
  case atStart => exact ⟨0, by omega, rfl, fun q hq => absurd hq (Nat.not_lt_zero _), below_alloc1 _ _, H0.out⟩
  case round =>
    clear H0 hmk
    obtain ⟨r, hr, rfl, hno, hbel, hrow⟩ := hrel
    have HNO := hide hno
    have HB := hide hbel
    have HROW := hide hrow
    clear hno hrow hbel
    by_cases hrl : r < n
    · have hri : (r : Int) < (n : Int) := by omega
      have HC := hide (HPUT.out r (by omega) wr HB.out HROW.out)
      obtain ⟨st, hst⟩ : ∃ b, stillE p l (passR p l r) = b := ⟨_, rfl⟩
      rw [hst] at HC
      have HST := hide hst
      clear hst
      cases st with
      | true =>
        have HT : Hid (settledD n l p = true) := exN_true (k := r) hrl HST.out
        go_wp2_with fail
        refine HC.out.mono ?_
        rintro e x1 ⟨rfl, hb, hr2⟩
        have HX := hide hb
        clear hb hr2
        go_wp2_with fail
        go_ret
        exact ⟨ret_bool HT.out.symm, HX.out⟩
      | false =>
        go_wp2_with fail
        refine HC.out.mono ?_
        rintro e x1 ⟨rfl, hb, hr2⟩
        have HX := hide hb
        have HR2 := hide hr2
        clear hb hr2
        go_wp2_with fail
        go_roundw
        case rel =>
          refine ⟨r + 1, by omega, by go_num, fun q hq => ?_, HX.out, HR2.out⟩
          by_cases e : q = r
          · rw [e]; exact HST.out
          · exact HNO.out q (by omega)
        case measure => simp [intOf]; omega
    · have e : r = n := by omega
      subst e
      have hri : ¬ (r : Int) < (r : Int) := by omega
      have HF : Hid (settledD r l p = false) := exN_false HNO.out
      go_wp2_with fail
      go_ret
      exact ⟨ret_bool HF.out.symm, HB.out⟩
end Go.Proofs.Ytpljieenjkbmmaa
