/- The contract of the document's own least pace by rounds; nothing that was there is changed. -/
import Derived.Test.YtpljieenjkbmmaaRef7Rounds
import Derived.Test.YtpljieenjkbmmaaBoundMath
import Derived.Test.YtpljieenjkbmmaaDepTells
namespace Go.Proofs.Ytpljieenjkbmmaa
open Go.RowKit Go.Joins
set_option linter.unusedVariables false
set_option linter.unusedSimpArgs false
set_option maxRecDepth 8192

theorem rounds_last {L : Lp} {t : Tg} {q : Nat} (hm : mayB L = true) (hq : 1 ≤ q) (h : roundsD L.body.length (edgesD L t) q = true) (hno : ∀ q' : Nat, 1 ≤ q' → q' < q → roundsD L.body.length (edgesD L t) q' = false) : roundsB L t = q := by
  obtain ⟨h1, h2, h3, h4⟩ := first_is 95 1 (rounds_some (t := t) hm)
  by_cases e : firstN (fun p : Nat => roundsD L.body.length (edgesD L t) p) 95 1 = q
  · exact e
  · exfalso
    by_cases hlt : firstN (fun p : Nat => roundsD L.body.length (edgesD L t) p) 95 1 < q
    · have h5 := hno _ h2 hlt
      have h6 : roundsD L.body.length (edgesD L t) (firstN (fun p : Nat => roundsD L.body.length (edgesD L t) p) 95 1 : Nat) = true := h1
      rw [h5] at h6; cases h6
    · have h5 := h4 q hq (by omega)
      have h6 : roundsD L.body.length (edgesD L t) (q : Nat) = false := h5
      rw [h] at h6; cases h6
theorem rounds_96 {L : Lp} {t : Tg} (hm : mayB L = true) {q : Nat} (hno : ∀ q' : Nat, 1 ≤ q' → q' < q → roundsD L.body.length (edgesD L t) q' = false) : q ≤ 96 := by
  obtain ⟨h1, h2, h3, h4⟩ := first_is 95 1 (rounds_some (t := t) hm)
  refine Classical.byContradiction fun hlt => ?_
  have h5 := hno _ h2 (by omega)
  have h6 : roundsD L.body.length (edgesD L t) (firstN (fun p : Nat => roundsD L.body.length (edgesD L t) p) 95 1 : Nat) = true := h1
  rw [h5] at h6; cases h6
set_option maxHeartbeats 4000000 in
theorem least7_walk (p0 p1 p2 q0 q1 q2 r : Int) (L : Lp) (v0 v2 : Value) (a1 : Option Addr) (cap : Nat) (w : World) (hL : LoopV w (.agg #[v0, .slice a1 L.body.length cap, v2]) L) (hm : mayB L = true) :
    Calls Try.prog 48 #[.agg #[v0, .slice a1 L.body.length cap, v2], .agg #[.int .i64 p0, .int .i64 p1, .int .i64 p2, .int .i64 q0, .int .i64 q1, .int .i64 q2, .int .i64 r]] w fun e w' => e = .returned (.int .i64 (roundsB L ⟨p0, p1, p2, q0, q1, q2, r⟩)) ∧ Below w.heap.size w w' := by
  obtain ⟨-, -, h16, -⟩ := may_parts hm
  have hlen : (edgesD L ⟨p0, p1, p2, q0, q1, q2, r⟩).length ≤ 60000 := by
    have := frD_len L ⟨p0, p1, p2, q0, q1, q2, r⟩ L.body.length h16
    have h2 : L.body.length * 3696 ≤ 16 * 3696 := Nat.mul_le_mul_right _ h16
    show (frD L ⟨p0, p1, p2, q0, q1, q2, r⟩ L.body.length).length ≤ 60000
    omega
  have HED := hide (fun W (h : LoopV W (.agg #[v0, .slice a1 L.body.length cap, v2]) L) => redges_any _ ⟨p0, p1, p2, q0, q1, q2, r⟩ L W h hm)
  have HOK : Hid (∀ e ∈ edgesD L ⟨p0, p1, p2, q0, q1, q2, r⟩, edOk L.body.length e) := fun e he => by
    obtain ⟨fr, to, bk, wt, h0, h1, h2, h3, h4, h5⟩ := edges_ok hm e he
    exact ⟨fr, to, bk, wt, h0, h1, h2, h5, h4⟩
  have HLAST := hide (fun q h1 h2 h3 => rounds_last (L := L) (t := ⟨p0, p1, p2, q0, q1, q2, r⟩) (q := q) hm h1 h2 h3)
  have H96 := hide (fun q h => rounds_96 (L := L) (t := ⟨p0, p1, p2, q0, q1, q2, r⟩) hm (q := q) h)
  have HL := hide hL
  clear hL hm
  go_enter Try.func48, Try.ntmps48
  go_wp2_with fail
  refine (HED.out _ (HL.out.below (below_alloc2 _ _ _))).mono ?_
  rintro e x1 ⟨ev, rfl, hev, hb⟩
  have hb1 : Below (w.heap.size + 1 + 1) ((w.alloc (.cells #[v0, .slice a1 L.body.length cap, v2] 30)).alloc (.cells #[.int .i64 p0, .int .i64 p1, .int .i64 p2, .int .i64 q0, .int .i64 q1, .int .i64 q2, .int .i64 r] 49)) x1 := by
    have hs : ((w.alloc (.cells #[v0, .slice a1 L.body.length cap, v2] 30)).alloc (.cells #[.int .i64 p0, .int .i64 p1, .int .i64 p2, .int .i64 q0, .int .i64 q1, .int .i64 q2, .int .i64 r] 49)).heap.size = w.heap.size + 1 + 1 := by simp
    rw [← hs]; exact hb
  have HB1 := hide hb1
  have HEV := hide hev
  obtain ⟨ea, ec, rfl, -⟩ := hev
  generalize edgesD L ⟨p0, p1, p2, q0, q1, q2, r⟩ = es at *
  clear hb hb1
  go_wp2_with fail
  go_loopw [6] (fun pv wr => ∃ q : Nat, pv = .int .i64 q ∧ 1 ≤ q ∧ (∀ q' : Nat, 1 ≤ q' → q' < q → roundsD L.body.length es q' = false) ∧ Below x1.heap.size x1 wr) (fun pv _ => 100 - (intOf pv).toNat)
  case atStart => exact ⟨1, rfl, Nat.le_refl _, fun q' h1 h2 => absurd h2 (by omega), Below.refl _ _⟩
  case round =>
    obtain ⟨q, rfl, hq1, hno, hbel⟩ := hrel
    have hq96 := H96.out q hno
    have HNO := hide hno
    have HBL := hide hbel
    obtain ⟨⟨l0, l1, l2⟩, -, z0, z1, hbw⟩ := ebox_cells (HB1.out.trans (hbel.mono (by have := HB1.out.size; simp at this; omega)))
    have HBW := hide hbw
    obtain ⟨rb, hrb⟩ : ∃ b, roundsD L.body.length es (q : Int) = b := ⟨_, rfl⟩
    have HRO : Hid (Calls Try.prog 86 #[.int .i64 L.body.length, .slice ea es.length ec, .int .i64 q] wr fun e w' => e = .returned (.bool rb) ∧ Below wr.heap.size wr w') := by
      show Calls _ _ _ _ _
      rw [← hrb]
      exact rounds_any L.body.length q ea ec es wr (HEV.out.below hbel) HOK.out h16 (by omega) (by omega) hlen
    have HRB := hide hrb
    clear hno hbel hbw hrb l0 l2
    cases rb with
    | true =>
      have HE := hide (HLAST.out q hq1 HRB.out HNO.out)
      go_wp2_with fail
      refine HRO.out.mono ?_
      rintro e x2 ⟨rfl, hb2⟩
      have HX2 := hide (HBW.out.trans (hb2.mono HBW.out.size))
      clear hb2
      go_wp2_with fail
      go_ret
      exact ⟨ret_int (by rw [HE.out]), HX2.out⟩
    | false =>
      go_wp2_with fail
      refine HRO.out.mono ?_
      rintro e x2 ⟨rfl, hb2⟩
      have HX2 := hide (HBL.out.trans (hb2.mono HBL.out.size))
      clear hb2
      go_wp2_with fail
      go_roundw
      case rel =>
        refine ⟨q + 1, by go_num, by omega, fun q' h1 h2 => ?_, HX2.out⟩
        by_cases e : q' = q
        · rw [e]; exact HRB.out
        · exact HNO.out q' h1 (by omega)
      case measure => simp [intOf]; omega
end Go.Proofs.Ytpljieenjkbmmaa
