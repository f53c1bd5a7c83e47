/- The contract of the document's own answer on rounds of edges; nothing that was there is changed. -/
import Derived.Test.YtpljieenjkbmmaaRoundMath
import Derived.Test.YtpljieenjkbmmaaEdgesSame
import Derived.Test.YtpljieenjkbmmaaOwn
import Derived.Deep.QuietTactic
import Derived.BigQuiet
namespace Go.Proofs.Ytpljieenjkbmmaa
open Go.RowKit Go.Joins
set_option linter.unusedVariables false
set_option linter.unusedSimpArgs false
set_option maxRecDepth 8192

theorem Try.j3 : (Try.prog.info? 3).map (fun i => (i.zero, i.size, i.bytes)) = some (some (.int .i64 0), 1, 8) := by kernel_rfl
/-- an edge of a loop of n statements -/
def edOk (n : Nat) (e : Ed) : Prop := ∃ fr to bk wt : Nat, e = ⟨fr, to, bk, wt⟩ ∧ fr < n ∧ to < n ∧ bk ≤ 32 ∧ wt ≤ 6
theorem pass_same {p : Int} {l : List Ed} {a : Nat → Int} : ∀ k, k ≤ l.length → allN (fun j => okE p a (edAt l j)) k = true → passE p l a k = a := by
  intro k
  induction k with
  | zero => exact fun _ _ => rfl
  | succ k ih =>
    intro hk h
    have h1 : allN (fun j => okE p a (edAt l j)) k = true := allN_mk fun j hj => allN_get h j (by omega)
    show relE p (passE p l a k) (edAt l k) = a
    rw [ih (by omega) h1]
    have h2 := of_decide_eq_true (allN_get h k (by omega))
    unfold relE
    rw [if_neg (by omega)]
theorem pass_high {p : Int} {l : List Ed} {a : Nat → Int} {n : Nat} {B : Int} (hp : 0 ≤ p) (hl : ∀ e ∈ l, edOk n e) (ha : ∀ v, a v ≤ B) : ∀ k, k ≤ l.length → ∀ v, passE p l a k v ≤ B + 6 * k := by
  intro k
  induction k with
  | zero => intro _ v; have := ha v; show a v ≤ _; omega
  | succ k ih =>
    intro hk v
    show relE p (passE p l a k) (edAt l k) v ≤ _
    by_cases h : relE p (passE p l a k) (edAt l k) v = passE p l a k v
    · rw [h]; have := ih (by omega) v; omega
    · obtain ⟨h1, h2⟩ := rel_new h
      rw [h2]
      have h3 := ih (by omega) (edAt l k).fr.toNat
      obtain ⟨fr, to, bk, wt, he, -, -, h5, h6⟩ := hl _ (edAt_in (show k < l.length by omega))
      have h7 : 0 ≤ p * (bk : Int) := Int.mul_nonneg hp (by omega)
      have h8 : gapE p (edAt l k) ≤ 6 := by rw [he]; unfold gapE; show (wt : Int) - p * (bk : Int) ≤ 6; omega
      omega
theorem passR_high {p : Int} {l : List Ed} {n : Nat} (hp : 0 ≤ p) (hl : ∀ e ∈ l, edOk n e) : ∀ r v, passR p l r v ≤ 6 * ((r * l.length : Nat) : Int) := by
  intro r
  induction r with
  | zero => intro v; show (0 : Int) ≤ _; omega
  | succ r ih =>
    intro v
    have := pass_high hp hl ih l.length (Nat.le_refl _) v
    show passE p l (passR p l r) l.length v ≤ _
    rw [Nat.succ_mul, Int.natCast_add]
    omega
theorem passR_low {p : Int} {l : List Ed} (r v : Nat) : 0 ≤ passR p l r v := passR_le p l v 0 r (Nat.zero_le _)
theorem pass_low {p : Int} {l : List Ed} (r k v : Nat) : 0 ≤ passE p l (passR p l r) k v := Int.le_trans (passR_low r v) (pass_le p l _ v 0 k (Nat.zero_le _))
theorem exN_false {p : Nat → Bool} {k : Nat} (h : ∀ q, q < k → p q = false) : exN p k = false := by
  cases e : exN p k with
  | false => rfl
  | true =>
    obtain ⟨q, h1, h2⟩ := exN_iff.1 e
    rw [h q h1] at h2; cases h2

set_option maxHeartbeats 8000000 in
theorem rounds_any (n : Nat) (p : Int) (la : Option Addr) (lc : Nat) (l : List Ed) (w : World) (hE : EdgesV w (.slice la l.length lc) l) (hl : ∀ e ∈ l, edOk n e) (hn : n ≤ 16) (hp1 : 1 ≤ p) (hp2 : p ≤ 100) (hlen : l.length ≤ 60000) :
    Calls Try.prog 86 #[.int .i64 n, .slice la l.length lc, .int .i64 p] w fun e w' => e = .returned (.bool (roundsD n l p)) ∧ Below w.heap.size w w' := by
  obtain ⟨la', lc', he1, he2, he3, hec⟩ := hE
  injection he1 with e1 e2 e3
  subst e1; subst e3
  unfold maxLen at he3
  have HEC := hide hec
  have HL := hide hl
  have hmk := run_make_row' (P := Try.prog) 27 3 (.int .i64 0) 8 Try.underlying27 Try.j3 rfl .i64 .i64 n (by omega) (by omega)
  have H0 : Hid (RowF (w.alloc (.cells (madeCells #[.int .i64 0] n) 3)) w.heap.size 3 n (fun v => .int .i64 (passR p l 0 v))) := RowF.zeros w _ n _
  clear hec hl e2
  go_enter Try.func86, Try.ntmps86
  go_wp2_with fail
  go_loopw [8] (fun i wr => ∃ r : Nat, r ≤ n + 1 ∧ i = .int .i64 r ∧ (∀ q, q < r → stillE p l (passR p l q) = false) ∧ Below w.heap.size w wr ∧ RowF wr w.heap.size 3 n (fun v => .int .i64 (passR p l r v))) (fun i _ => n + 1 - (intOf i).toNat)
  case atStart => exact ⟨0, by omega, rfl, fun q hq => absurd hq (Nat.not_lt_zero _), below_alloc1 _ _, H0.out⟩
  case round =>
    clear H0 hmk
    obtain ⟨r, hr, rfl, hno, hbel, hrow⟩ := hrel
    have HNO := hide hno
    have HB := hide hbel
    have HROW := hide hrow
    clear hno hrow hbel
    by_cases hrl : r ≤ n
    · have hri : (r : Int) ≤ (n : Int) := by omega
      have hri2 : ¬ (n : Int) < (r : Int) := by omega
      rename World => wo
      go_wp2_with fail
      go_loopw [9, 10] (fun st i wr => ∃ k : Nat, k ≤ l.length ∧ i = .int .i64 k ∧ st = .bool (allN (fun j => okE p (passR p l r) (edAt l j)) k) ∧ Below w.heap.size w wr ∧ RowF wr w.heap.size 3 n (fun v => .int .i64 (passE p l (passR p l r) k v))) (fun _ i _ => l.length - (intOf i).toNat)
      case atStart => exact ⟨0, Nat.zero_le _, rfl, rfl, HB.out, HROW.out⟩
      case round =>
        obtain ⟨k, hk, rfl, rfl, hbel2, hrow2⟩ := hrel
        by_cases hkl : k < l.length
        · have hki : (k : Int) < (l.length : Int) := by omega
          obtain ⟨eb, eo, rfl, hebz, hecell⟩ := HEC.out (by omega)
          obtain ⟨c0, c1, c2, c3⟩ := fourE (hecell k hkl)
          rw [← bcell hbel2 _ _ hebz] at c0 c1 c2 c3
          have hebz2 : eb < wr.heap.size := by have := hbel2.size; omega
          obtain ⟨fr, to, bk, wt, hed, hfr, hto, hbk, hwt⟩ := HL.out _ (edAt_in hkl)
          have HST : Hid (∀ b, allN (fun j => okE p (passR p l r) (edAt l j)) k = b → allN (fun j => okE p (passR p l r) (edAt l j)) (k + 1) = (b && okE p (passR p l r) (edAt l k))) := fun b h => by show (allN _ k && _) = _; rw [h]
          have HSAME := hide (fun h => pass_same (p := p) (l := l) (a := passR p l r) k (by omega) h)
          have HREL : Hid (passE p l (passR p l r) (k + 1) = relE p (passE p l (passR p l r) k) (edAt l k)) := rfl
          have hhi := pass_high (p := p) (l := l) (a := passR p l r) (by omega) HL.out (passR_high (by omega) HL.out r) k hk
          have hlo := fun v => pass_low (p := p) (l := l) r k v
          have hr17 : r * l.length ≤ 16 * 60000 := Nat.mul_le_mul (by omega) hlen
          rw [hed] at c0 c1 c2 c3 HST HREL
          simp only at c0 c1 c2 c3
          have hcf := hrow2.cell hfr
          have hct := hrow2.cell hto
          have hft := hrow2.frozen to
          have hxz := hrow2.lt
          have hxf1 := hhi fr
          have hxf2 := hlo fr
          have hxt1 := hhi to
          have hxt2 := hlo to
          have HROW2 := hide hrow2
          have HB2 := hide hbel2
          have HSAMEX : Hid (allN (fun j => okE p (passR p l r) (edAt l j)) k = true → okE p (passR p l r) ⟨fr, to, bk, wt⟩ = decide (passE p l (passR p l r) k fr + ((wt : Int) - p * (bk : Int)) ≤ passE p l (passR p l r) k to)) := fun h => by rw [HSAME.out h]; rfl
          have HRELX : Hid (relE p (passE p l (passR p l r) k) ⟨fr, to, bk, wt⟩ = if passE p l (passR p l r) k to < passE p l (passR p l r) k fr + ((wt : Int) - p * (bk : Int)) then (fun v => if v = to then passE p l (passR p l r) k fr + ((wt : Int) - p * (bk : Int)) else passE p l (passR p l r) k v) else passE p l (passR p l r) k) := rfl
          obtain ⟨ak, hak⟩ : ∃ ak, passE p l (passR p l r) k = ak := ⟨_, rfl⟩
          rw [hak] at hcf hct hxf1 hxf2 hxt1 hxt2 HROW2 HSAMEX HRELX HREL
          obtain ⟨fk, hfk⟩ : ∃ b, allN (fun j => okE p (passR p l r) (edAt l j)) k = b := ⟨_, rfl⟩
          have HST2 := hide (HST.out fk hfk)
          rw [hfk] at HSAMEX
          rw [hfk]
          obtain ⟨xf, hxf⟩ : ∃ x, ak fr = x := ⟨_, rfl⟩
          obtain ⟨xt, hxt⟩ : ∃ x, ak to = x := ⟨_, rfl⟩
          rw [hxf] at hcf hxf1 hxf2 HSAMEX HRELX
          rw [hxt] at hct hxt1 hxt2 HSAMEX HRELX
          have hpb1 : 0 ≤ p * (bk : Int) := Int.mul_nonneg (by omega) (by omega)
          have hpb2 : p * (bk : Int) ≤ 100 * 32 := Int.mul_le_mul hp2 (by omega) (by omega) (by omega)
          have hfi : (fr : Int) < (n : Int) := by omega
          have hti : (to : Int) < (n : Int) := by omega
          obtain ⟨gp, hgp⟩ : ∃ gp, xf + (wt : Int) - p * (bk : Int) = gp := ⟨_, rfl⟩
          have hgp2 : xf + ((wt : Int) - p * (bk : Int)) = gp := by omega
          rw [hgp2] at HSAMEX HRELX
          have hgb : -10000 ≤ gp ∧ gp ≤ 100000000 := by omega
          obtain ⟨hgb1, hgb2⟩ := hgb
          clear hecell hed hrow2 hbel2 hhi hlo HSAME HST hxf1 hxf2 hxt1 hxt2 hgp2
          by_cases hup : xt < gp
          · have hupd : decide (xt < gp) = true := decide_eq_true hup
            have HN : Hid (passE p l (passR p l r) (k + 1) = fun v => if v = to then gp else ak v) := by show _ = _; rw [HREL.out, HRELX.out, if_pos hup]
            have HF : Hid (allN (fun j => okE p (passR p l r) (edAt l j)) (k + 1) = false) := by
              show _ = _
              rw [HST2.out]
              cases fk with
              | false => rfl
              | true => rw [HSAMEX.out rfl, decide_eq_false (by omega)]; rfl
            go_wp2_with fail
            go_big_quiet ((fail))
            go_wp2_with fail
            go_roundw
            case rel =>
              refine ⟨k + 1, by omega, by go_num, by rw [HF.out], ?_, ?_⟩
              · exact ((HB2.out.alloc HB2.out.size _).trans (below_draws _ _ _ |>.mono (by have := HB2.out.size; simp; omega))).setCell (Nat.le_refl _) _
              · rw [HN.out]
                have h := ((HROW2.out.alloc (.cells #[.int .i64 fr, .int .i64 to, .int .i64 bk, .int .i64 wt] 81)).drawn nq).set to (.int .i64 gp) hto
                refine h.congr fun v hv => ?_
                by_cases e : v = to
                · rw [if_pos e]; simp [e]
                · rw [if_neg e]; simp [e]
            case measure => simp [intOf]; omega
          · have hupd : decide (xt < gp) = false := decide_eq_false hup
            have HN : Hid (passE p l (passR p l r) (k + 1) = ak) := by show _ = _; rw [HREL.out, HRELX.out, if_neg hup]
            have HF : Hid (allN (fun j => okE p (passR p l r) (edAt l j)) (k + 1) = fk) := by
              show _ = _
              rw [HST2.out]
              cases fk with
              | false => rfl
              | true => rw [HSAMEX.out rfl, decide_eq_true (by omega)]; rfl
            go_wp2_with fail
            go_big_quiet ((fail))
            go_wp2_with fail
            go_roundw
            case rel =>
              refine ⟨k + 1, by omega, by go_num, by rw [HF.out], ?_, ?_⟩
              · exact (HB2.out.alloc HB2.out.size _).trans (below_draws _ _ _ |>.mono (by have := HB2.out.size; simp; omega))
              · rw [HN.out]
                exact (HROW2.out.alloc (.cells #[.int .i64 fr, .int .i64 to, .int .i64 bk, .int .i64 wt] 81)).drawn nq
            case measure => simp [intOf]; omega
        · have e : k = l.length := by omega
          subst e
          have hki : ¬ (l.length : Int) < (l.length : Int) := by omega
          have HB2 := hide hbel2
          have HROW2 := hide hrow2
          have HSE : Hid (stillE p l (passR p l r) = allN (fun j => okE p (passR p l r) (edAt l j)) l.length) := rfl
          obtain ⟨fk, hfk⟩ : ∃ b, allN (fun j => okE p (passR p l r) (edAt l j)) l.length = b := ⟨_, rfl⟩
          rw [hfk] at HSE ⊢
          clear hfk hbel2 hrow2
          cases fk with
          | true =>
            have HT : Hid (roundsD n l p = true) := exN_true (k := r) (by omega) HSE.out
            go_wp2_with fail
            go_ret
            exact ⟨ret_bool HT.out.symm, HB2.out⟩
          | false =>
            go_wp2_with fail
            go_roundw
            case rel =>
              refine ⟨r + 1, by omega, by go_num, fun q hq => ?_, HB2.out, HROW2.out⟩
              by_cases e : q = r
              · rw [e]; exact HSE.out
              · exact HNO.out q (by omega)
            case measure => simp [intOf]; omega
    · have e : r = n + 1 := by omega
      subst e
      have hri : ¬ ((n : Int) + 1) ≤ (n : Int) := by omega
      have hri2 : (n : Int) < (n : Int) + 1 := by omega
      have hri3 : ¬ (((n + 1 : Nat) : Int)) ≤ (n : Int) := by omega
      have HF : Hid (roundsD n l p = false) := exN_false HNO.out
      go_wp2_with fail
      go_ret
      exact ⟨ret_bool HF.out.symm, HB.out⟩
end Go.Proofs.Ytpljieenjkbmmaa
