/- Ref8A: texts that are built as one: Ref8Legal, Ref8All, SchedLegal, SchedMakes. -/
import Derived.Test.YtjoapiafpahihabRounds
import Derived.Test.YtjoapiafpahihabRef67
import Derived.Deep.QuietTactic
import Derived.BigQuiet
import Derived.Test.YtjoapiafpahihabRef6A
import Derived.Test.YtjoapiafpahihabBase
/- The contract of the document's own answer on plans; nothing that was there is changed. -/
namespace Go.Proofs.Ytjoapiafpahihab
open Go.RowKit Go.Joins
set_option linter.unusedVariables false
set_option linter.unusedSimpArgs false
set_option maxRecDepth 8192

/-- v is the plan of pace P and times T -/
def PlanV (w : World) (v : Value) (P : Int) (T : List Int) : Prop := ∃ tv, v = .agg #[.int .i64 P, tv] ∧ Ints w tv T
theorem PlanV.below {w w' : World} {v : Value} {P : Int} {T : List Int} (h : PlanV w v P T) (hb : Below w.heap.size w w') : PlanV w' v P T := by
  obtain ⟨tv, e, h1⟩ := h
  exact ⟨tv, e, h1.below hb⟩
theorem legal_no {L : Lp} {t : Tg} {P : Int} {T : List Int} (h : (mayB L && mayT t) = false ∨ P < 1 ∨ 200 < P ∨ T.length ≠ L.body.length) : legalD L t P T = false := by
  cases e : legalD L t P T with
  | false => rfl
  | true =>
    obtain ⟨h1, h2, h3, h4, h5, -⟩ := legal_parts e
    rw [h1, h2] at h
    rcases h with h | h | h | h
    · cases h
    · omega
    · omega
    · exact absurd h5 h
theorem legal_eq {L : Lp} {t : Tg} {P : Int} {T : List Int} (h1 : (mayB L && mayT t) = true) (h2 : 1 ≤ P) (h3 : P ≤ 200) (h4 : T.length = L.body.length) : legalD L t P T = (allN (timeL L t P T) T.length && allN (fun i => edgeL P T (edAt (edgesD L t) i)) (edgesD L t).length) := by
  have h5 : mayB L = true ∧ mayT t = true := by simpa using h1
  unfold legalD
  rw [h5.1, h5.2, inR_yes ⟨h2, h3⟩, decide_eq_true h4]
  rfl
/-- how the boxes lie -/
theorem lbox_cells {w wr : World} {L : Lp} {a0 a1 a2 ta : Option Addr} {cap0 cap1 cap2 tc : Nat} {p0 p1 p2 q0 q1 q2 r P : Int} {T : List Int} (h : Below (w.heap.size + 1 + 1 + 1) (((w.alloc (.cells #[.slice a0 L.logs.length cap0, .slice a1 L.body.length cap1, .slice a2 L.outs.length cap2] 25)).alloc (.cells #[.int .i64 p0, .int .i64 p1, .int .i64 p2, .int .i64 q0, .int .i64 q1, .int .i64 q2, .int .i64 r] 28)).alloc (.cells #[.int .i64 P, .slice ta T.length tc] 30)) wr) : (wr.cell? ⟨w.heap.size, 0, none⟩ = some (.slice a0 L.logs.length cap0) ∧ wr.cell? ⟨w.heap.size, 1, none⟩ = some (.slice a1 L.body.length cap1) ∧ wr.cell? ⟨w.heap.size, 2, none⟩ = some (.slice a2 L.outs.length cap2)) ∧
    (wr.cell? ⟨w.heap.size + 1, 0, none⟩ = some (.int .i64 p0) ∧ wr.cell? ⟨w.heap.size + 1, 1, none⟩ = some (.int .i64 p1) ∧ wr.cell? ⟨w.heap.size + 1, 2, none⟩ = some (.int .i64 p2) ∧ wr.cell? ⟨w.heap.size + 1, 3, none⟩ = some (.int .i64 q0) ∧ wr.cell? ⟨w.heap.size + 1, 4, none⟩ = some (.int .i64 q1) ∧ wr.cell? ⟨w.heap.size + 1, 5, none⟩ = some (.int .i64 q2) ∧ wr.cell? ⟨w.heap.size + 1, 6, none⟩ = some (.int .i64 r)) ∧
    (wr.cell? ⟨w.heap.size + 1 + 1, 0, none⟩ = some (.int .i64 P) ∧ wr.cell? ⟨w.heap.size + 1 + 1, 1, none⟩ = some (.slice ta T.length tc)) ∧ w.heap.size + 1 + 1 < wr.heap.size ∧ Below w.heap.size w wr := by
  have hs : (((w.alloc (.cells #[.slice a0 L.logs.length cap0, .slice a1 L.body.length cap1, .slice a2 L.outs.length cap2] 25)).alloc (.cells #[.int .i64 p0, .int .i64 p1, .int .i64 p2, .int .i64 q0, .int .i64 q1, .int .i64 q2, .int .i64 r] 28)).alloc (.cells #[.int .i64 P, .slice ta T.length tc] 30)).heap.size = w.heap.size + 1 + 1 + 1 := by simp
  have hz := h.size
  have h' : Below (((w.alloc (.cells #[.slice a0 L.logs.length cap0, .slice a1 L.body.length cap1, .slice a2 L.outs.length cap2] 25)).alloc (.cells #[.int .i64 p0, .int .i64 p1, .int .i64 p2, .int .i64 q0, .int .i64 q1, .int .i64 q2, .int .i64 r] 28)).alloc (.cells #[.int .i64 P, .slice ta T.length tc] 30)).heap.size (((w.alloc (.cells #[.slice a0 L.logs.length cap0, .slice a1 L.body.length cap1, .slice a2 L.outs.length cap2] 25)).alloc (.cells #[.int .i64 p0, .int .i64 p1, .int .i64 p2, .int .i64 q0, .int .i64 q1, .int .i64 q2, .int .i64 r] 28)).alloc (.cells #[.int .i64 P, .slice ta T.length tc] 30)) wr := by rw [hs]; exact h
  refine ⟨⟨?_, ?_, ?_⟩, ⟨?_, ?_, ?_, ?_, ?_, ?_, ?_⟩, ⟨?_, ?_⟩, by omega, (below_alloc3 w _ _ _).trans (h.mono (by omega))⟩
  all_goals rw [bcell h' _ _ (by omega)]
  all_goals go_simp
set_option maxHeartbeats 4000000 in
theorem legal_head (p0 p1 p2 q0 q1 q2 r : Int) (L : Lp) (a0 a1 a2 : Option Addr) (cap0 cap1 cap2 : Nat) (P : Int) (T : List Int) (ta : Option Addr) (tc : Nat) (w : World) (hL : LoopV w (.agg #[.slice a0 L.logs.length cap0, .slice a1 L.body.length cap1, .slice a2 L.outs.length cap2]) L) (hT : Ints w (.slice ta T.length tc) T) (h : (mayB L && mayT ⟨p0, p1, p2, q0, q1, q2, r⟩) = false ∨ ((mayB L && mayT ⟨p0, p1, p2, q0, q1, q2, r⟩) = true ∧ (P < 1 ∨ (1 ≤ P ∧ 200 < P) ∨ (1 ≤ P ∧ P ≤ 200 ∧ T.length ≠ L.body.length)))) : Calls Try.prog 8 #[.agg #[.slice a0 L.logs.length cap0, .slice a1 L.body.length cap1, .slice a2 L.outs.length cap2], .agg #[.int .i64 p0, .int .i64 p1, .int .i64 p2, .int .i64 q0, .int .i64 q1, .int .i64 q2, .int .i64 r], .agg #[.int .i64 P, .slice ta T.length tc]] w fun e w' => e = .returned (.bool false) ∧ Below w.heap.size w w' := by
  have HMAY := hide (fun W (h : LoopV W (.agg #[.slice a0 L.logs.length cap0, .slice a1 L.body.length cap1, .slice a2 L.outs.length cap2]) L) => rdmay_walk p0 p1 p2 q0 q1 q2 r L a0 a1 a2 cap0 cap1 cap2 W h)
  have hbl : L.body.length ≤ 9223372036854775807 ∧ T.length ≤ 9223372036854775807 := by
    obtain ⟨v0, v1, v2, e, -, ⟨b, c, e1, h1, h2, _⟩, -⟩ := hL
    obtain ⟨b', c', e1', h1', h2', _⟩ := hT
    unfold maxLen at h2 h2'
    omega
  obtain ⟨hbl1, hbl2⟩ := hbl
  have HL := hide hL
  clear hL hT
  rcases h with h | ⟨h, h1 | ⟨h1, h2⟩ | ⟨h1, h2, h3⟩⟩
  · rw [h] at HMAY
    clear h
    go_enter Try.func8, Try.ntmps8
    go_wp2_with fail
    refine (HMAY.out _ (HL.out.below (below_alloc3 _ _ _ _))).mono ?_
    rintro e x1 ⟨rfl, hb⟩
    have HB := hide ((below_alloc3 w _ _ _).trans (hb.mono (by simp; omega)))
    clear hb
    go_wp2_with fail
    go_ret
    exact ⟨rfl, HB.out⟩
  all_goals
    rw [h] at HMAY
    clear h
    go_enter Try.func8, Try.ntmps8
    go_wp2_with fail
    refine (HMAY.out _ (HL.out.below (below_alloc3 _ _ _ _))).mono ?_
    rintro e x1 ⟨rfl, hb⟩
    have hb3 : Below (w.heap.size + 1 + 1 + 1) (((w.alloc (.cells #[.slice a0 L.logs.length cap0, .slice a1 L.body.length cap1, .slice a2 L.outs.length cap2] 25)).alloc (.cells #[.int .i64 p0, .int .i64 p1, .int .i64 p2, .int .i64 q0, .int .i64 q1, .int .i64 q2, .int .i64 r] 28)).alloc (.cells #[.int .i64 P, .slice ta T.length tc] 30)) x1 := by
      have hs : (((w.alloc (.cells #[.slice a0 L.logs.length cap0, .slice a1 L.body.length cap1, .slice a2 L.outs.length cap2] 25)).alloc (.cells #[.int .i64 p0, .int .i64 p1, .int .i64 p2, .int .i64 q0, .int .i64 q1, .int .i64 q2, .int .i64 r] 28)).alloc (.cells #[.int .i64 P, .slice ta T.length tc] 30)).heap.size = w.heap.size + 1 + 1 + 1 := by simp
      rw [← hs]; exact hb
    obtain ⟨⟨l0, l1, l2⟩, -, ⟨k0, k1⟩, hz, hbw⟩ := lbox_cells hb3
    have HB := hide hbw
    clear hb hb3 hbw
    first
      | (go_wp2_with fail; go_ret; exact ⟨rfl, HB.out⟩; done)
      | (have hne : ((T.length : Int) == (L.body.length : Int)) = false := beq_eq_false_iff_ne.2 (by omega)
         have hne2 : ((T.length : Int) != (L.body.length : Int)) = true := bne_iff_ne.2 (by omega)
         have hne3 : ¬ T.length = L.body.length := h3
         have hp1 : ¬ P < 1 := by omega
         have hp2 : ¬ 200 < P := by omega
         go_wp2_with fail
         go_ret
         exact ⟨by simp [h3], HB.out⟩)
/-- the row of times -/
theorem times_at {w wr : World} {ta : Option Addr} {tc : Nat} {T : List Int} (h : Ints w (.slice ta T.length tc) T) (hb : Below w.heap.size w wr) (hp : 0 < T.length) : ∃ tb to, ta = some ⟨tb, to, none⟩ ∧ tb < wr.heap.size ∧ (∀ i, i < T.length → wr.cell? ⟨tb, to + i, none⟩ = some (.int .i64 (nth T i))) ∧ ∀ i, i < T.length → -9223372036854775808 ≤ nth T i ∧ nth T i ≤ 9223372036854775807 := by
  obtain ⟨a, c, e, h1, h2, h3, h4⟩ := h.below hb
  injection e with e1 e2 e3
  subst e1
  obtain ⟨tb, to, rfl, h5, h6⟩ := h4 hp
  exact ⟨tb, to, rfl, h5, h6, h3⟩
theorem meet_step (L : Lp) (P : Int) (T : List Int) (i k : Nat) (b : Bool) (h : meetL L P T i k = b) : cnt (meetL L P T i) (k + 1) = cnt (meetL L P T i) k + (if b = true then 1 else 0) := by subst h; rfl
theorem cls_nat (o : Int) : ∃ cn : Nat, clsv o = (cn : Int) ∧ cn < 3 := by
  rcases cls_three o with h | h | h
  · exact ⟨0, h, by omega⟩
  · exact ⟨1, h, by omega⟩
  · exact ⟨2, h, by omega⟩

set_option maxHeartbeats 16000000 in
theorem legal_rest (p0 p1 p2 q0 q1 q2 r : Int) (L : Lp) (a0 a2 : Option Addr) (b off : Nat) (cap0 cap1 cap2 : Nat) (P : Int) (T : List Int) (ta : Option Addr) (tc : Nat) (w : World) (hL : LoopV w (.agg #[.slice a0 L.logs.length cap0, .slice (some ⟨b, off, none⟩) L.body.length cap1, .slice a2 L.outs.length cap2]) L) (hT : Ints w (.slice ta T.length tc) T) (h : (mayB L && mayT ⟨p0, p1, p2, q0, q1, q2, r⟩) = true) (hP1 : 1 ≤ P) (hP2 : P ≤ 200) (hlen : T.length = L.body.length) : Calls Try.prog 8 #[.agg #[.slice a0 L.logs.length cap0, .slice (some ⟨b, off, none⟩) L.body.length cap1, .slice a2 L.outs.length cap2], .agg #[.int .i64 p0, .int .i64 p1, .int .i64 p2, .int .i64 q0, .int .i64 q1, .int .i64 q2, .int .i64 r], .agg #[.int .i64 P, .slice ta T.length tc]] w fun e w' => e = .returned (.bool (allN (timeL L ⟨p0, p1, p2, q0, q1, q2, r⟩ P T) T.length && allN (fun i => edgeL P T (edAt (edgesD L ⟨p0, p1, p2, q0, q1, q2, r⟩) i)) (edgesD L ⟨p0, p1, p2, q0, q1, q2, r⟩).length)) ∧ Below w.heap.size w w' := by
  have HMAY := hide (fun W (h : LoopV W (.agg #[.slice a0 L.logs.length cap0, .slice (some ⟨b, off, none⟩) L.body.length cap1, .slice a2 L.outs.length cap2]) L) => rdmay_walk p0 p1 p2 q0 q1 q2 r L a0 (some ⟨b, off, none⟩) a2 cap0 cap1 cap2 W h)
  rw [h] at HMAY
  have hm : mayB L = true ∧ mayT ⟨p0, p1, p2, q0, q1, q2, r⟩ = true := by simpa using h
  have HED := hide (fun W (h : LoopV W (.agg #[.slice a0 L.logs.length cap0, .slice (some ⟨b, off, none⟩) L.body.length cap1, .slice a2 L.outs.length cap2]) L) => redges_any _ ⟨p0, p1, p2, q0, q1, q2, r⟩ L W h hm.1)
  obtain ⟨-, hb1, hb16, -⟩ := may_parts hm.1
  have HUU := hide (units_one hm.2)
  have HEO := hide (edges_ok (t := ⟨p0, p1, p2, q0, q1, q2, r⟩) hm.1)
  have HL := hide hL
  have HTT := hide hT
  obtain ⟨v0, v1, v2, hve, -, ⟨sb, sc, hs1, hs2, hs3, hs4⟩, -⟩ := hL
  have hv1 : v1 = .slice (some ⟨b, off, none⟩) L.body.length cap1 := by
    injection hve with hve
    have h2 : #[Value.slice a0 L.logs.length cap0, .slice (some ⟨b, off, none⟩) L.body.length cap1, .slice a2 L.outs.length cap2] = #[v0, v1, v2] := hve
    simp at h2
    exact h2.2.1.symm
  rw [hv1] at hs1
  injection hs1 with e1 e2 e3
  subst e1; subst e3
  obtain ⟨b', off', hbe, hb, hcell⟩ := hs4 (by omega)
  injection hbe with hbe
  injection hbe with hbe1 hbe2
  subst hbe1; subst hbe2
  have HCE := hide hcell
  unfold maxLen at hs3
  have htl : T.length ≤ 16 := by omega
  have htp : 0 < T.length := by omega
  have htc : T.length ≤ tc ∧ tc ≤ 9223372036854775807 := by
    obtain ⟨a, c, e, h1, h2, _⟩ := hT
    injection e with _ _ e3
    subst e3
    unfold maxLen at h2
    omega
  obtain ⟨htc1, htc2⟩ := htc
  have hle : ((T.length : Int) == (L.body.length : Int)) = true := by rw [hlen]; simp
  have hle2 : ((T.length : Int) != (L.body.length : Int)) = false := by rw [hlen]; simp
  have hp1 : ¬ P < 1 := by omega
  have hp2 : ¬ 200 < P := by omega
  have hP0 : ¬ P = 0 := by omega
  have HLEN := hide hlen
  clear h hm hT hve hv1 hs4 hcell hlen e2
  go_enter Try.func8, Try.ntmps8
  go_wp2_with fail
  refine (HMAY.out _ (HL.out.below (below_alloc3 _ _ _ _))).mono ?_
  rintro e x1 ⟨rfl, hbx⟩
  have hb3 : Below (w.heap.size + 1 + 1 + 1) (((w.alloc (.cells #[.slice a0 L.logs.length cap0, .slice (some ⟨b, off, none⟩) L.body.length cap1, .slice a2 L.outs.length cap2] 25)).alloc (.cells #[.int .i64 p0, .int .i64 p1, .int .i64 p2, .int .i64 q0, .int .i64 q1, .int .i64 q2, .int .i64 r] 28)).alloc (.cells #[.int .i64 P, .slice ta T.length tc] 30)) x1 := by
    have hs : (((w.alloc (.cells #[.slice a0 L.logs.length cap0, .slice (some ⟨b, off, none⟩) L.body.length cap1, .slice a2 L.outs.length cap2] 25)).alloc (.cells #[.int .i64 p0, .int .i64 p1, .int .i64 p2, .int .i64 q0, .int .i64 q1, .int .i64 q2, .int .i64 r] 28)).alloc (.cells #[.int .i64 P, .slice ta T.length tc] 30)).heap.size = w.heap.size + 1 + 1 + 1 := by simp
    rw [← hs]; exact hbx
  obtain ⟨⟨l0, l1, l2⟩, -, ⟨k0, k1⟩, hz, hbw⟩ := lbox_cells hb3
  have HB1 := hide hb3
  clear hbx hb3 hbw
  go_wp2_with fail
  go_loopw [7] (fun i wr => ∃ k : Nat, k ≤ T.length ∧ i = .int .i64 k ∧ allN (timeL L ⟨p0, p1, p2, q0, q1, q2, r⟩ P T) k = true ∧ Below (w.heap.size + 1 + 1 + 1) (((w.alloc (.cells #[.slice a0 L.logs.length cap0, .slice (some ⟨b, off, none⟩) L.body.length cap1, .slice a2 L.outs.length cap2] 25)).alloc (.cells #[.int .i64 p0, .int .i64 p1, .int .i64 p2, .int .i64 q0, .int .i64 q1, .int .i64 q2, .int .i64 r] 28)).alloc (.cells #[.int .i64 P, .slice ta T.length tc] 30)) wr) (fun i _ => T.length - (intOf i).toNat)
  case atStart => exact ⟨0, Nat.zero_le _, rfl, rfl, HB1.out⟩
  case round =>
    clear l0 l1 l2 k0 k1 hz
    obtain ⟨k, hk, rfl, hall, hbel⟩ := hrel
    have HA := hide hall
    have HB := hide hbel
    obtain ⟨⟨l0, l1, l2⟩, ⟨t0, t1, t2, t3, t4, t5, t6⟩, ⟨k0, k1⟩, hz, hbw⟩ := lbox_cells hbel
    have HBW := hide hbw
    by_cases hkl : k < T.length
    · have hki : (k : Int) < (T.length : Int) := by omega
      have hkb : (k : Int) < (L.body.length : Int) := by have := HLEN.out; omega
      obtain ⟨tb, to, rfl, htbz, htcell, htr⟩ := times_at HTT.out hbw htp
      have htk := htcell k hkl
      obtain ⟨hr1, hr2⟩ := htr k hkl
      have HNO : Hid (∀ c : Bool, timeL L ⟨p0, p1, p2, q0, q1, q2, r⟩ P T k = c → c = false → (allN (timeL L ⟨p0, p1, p2, q0, q1, q2, r⟩ P T) T.length && allN (fun i => edgeL P T (edAt (edgesD L ⟨p0, p1, p2, q0, q1, q2, r⟩) i)) (edgesD L ⟨p0, p1, p2, q0, q1, q2, r⟩).length) = false) := fun c h1 h2 => by rw [allN_false hkl (h1.trans h2)]; rfl
      have HYES : Hid (timeL L ⟨p0, p1, p2, q0, q1, q2, r⟩ P T k = true → allN (timeL L ⟨p0, p1, p2, q0, q1, q2, r⟩ P T) (k + 1) = true) := fun h => allN_step HA.out h
      have HTL : Hid (timeL L ⟨p0, p1, p2, q0, q1, q2, r⟩ P T k = (inR (nth T k) 0 1000 && decide ((manyL L P T k : Int) ≤ unitsT ⟨p0, p1, p2, q0, q1, q2, r⟩ (clsv (stAt L.body k).o)))) := rfl
      have HTC := hide htcell
      clear hall hbel hbw htcell htr
      by_cases hlow : nth T k < 0
      · have HF := hide (HNO.out _ HTL.out (by rw [inR_no (by omega)]; rfl))
        generalize nth T k = tk at *
        go_wp2_with fail
        go_ret
        exact ⟨ret_bool HF.out.symm, HBW.out⟩
      by_cases hhigh : 1000 < nth T k
      · have HF := hide (HNO.out _ HTL.out (by rw [inR_no (by omega)]; rfl))
        generalize nth T k = tk at *
        go_wp2_with fail
        go_ret
        exact ⟨ret_bool HF.out.symm, HBW.out⟩
      have HTL2 : Hid (timeL L ⟨p0, p1, p2, q0, q1, q2, r⟩ P T k = decide ((manyL L P T k : Int) ≤ unitsT ⟨p0, p1, p2, q0, q1, q2, r⟩ (clsv (stAt L.body k).o))) := by show _ = _; rw [HTL.out, inR_yes (by omega)]; rfl
      obtain ⟨cn, hcn, hcn3⟩ := cls_nat (stAt L.body k).o
      have c0 := (nine (HCE.out k (by have := HLEN.out; omega))).1
      rw [← bcell HBW.out _ _ hb] at c0
      have hbz : b < wr.heap.size := by have := HBW.out.size; omega
      have HCL : Hid (∀ W, Calls Try.prog 27 #[.int .i64 (stAt L.body k).o] W fun e w' => e = .returned (.int .i64 cn) ∧ w' = W) := fun W => by rw [← hcn]; exact refClass_any _ _
      have huc := unit_cell (q0 := q0) (q1 := q1) (q2 := q2) (r := r) hcn3 t0 t1 t2
      have HUN : Hid (unitsT ⟨p0, p1, p2, q0, q1, q2, r⟩ (clsv (stAt L.body k).o) = unitsT ⟨p0, p1, p2, q0, q1, q2, r⟩ cn) := by show _ = _; rw [hcn]
      have HME : Hid (∀ j, meetL L P T k j = (decide ((nth T j).tmod P = (nth T k).tmod P) && decide (clsv (stAt L.body j).o = (cn : Int)))) := fun j => by show (_ && decide (_ = clsv (stAt L.body k).o)) = _; rw [hcn]
      have HMY : Hid (manyL L P T k = cnt (meetL L P T k) T.length) := rfl
      obtain ⟨mi, hmi⟩ : ∃ mi, (nth T k).tmod P = mi := ⟨_, rfl⟩
      rw [hmi] at HME
      obtain ⟨tk, htkk⟩ : ∃ tk, nth T k = tk := ⟨_, rfl⟩
      rw [htkk] at htk hmi hlow hhigh hr1 hr2
      obtain ⟨ok, hok⟩ : ∃ ok, (stAt L.body k).o = ok := ⟨_, rfl⟩
      rw [hok] at c0 HCL
      have HUC := hide huc
      have HK := hide (And.intro k0 k1)
      have HL1 := hide l1
      have HTK := hide htk
      clear htkk hok hcn huc HTL
      go_wp2_with (go_at_call 27; refine (HCL.out _).mono ?_; rintro e w' ⟨rfl, hw'⟩; have hw' := hw'.symm; subst hw')
      clear c0
      rename World => wo
      go_loopw [9, 10] (fun nv i wr => ∃ j d : Nat, j ≤ T.length ∧ i = .int .i64 j ∧ nv = .int .i64 (cnt (meetL L P T k) j) ∧ wr = wo.drewN d) (fun _ i _ => T.length - (intOf i).toNat)
      case atStart => exact ⟨0, 0, Nat.zero_le _, rfl, rfl, rfl⟩
      case round =>
        obtain ⟨j, dd, hj, rfl, rfl, rfl⟩ := hrel
        have hcn16 := cnt_le (meetL L P T k) j
        by_cases hjl : j < T.length
        · have hji : (j : Int) < (T.length : Int) := by omega
          have hjb : (j : Int) < (L.body.length : Int) := by have := HLEN.out; omega
          have htj := HTC.out j hjl
          have c0 := (nine (HCE.out j (by have := HLEN.out; omega))).1
          rw [← bcell HBW.out _ _ hb] at c0
          have HCJ := hide (fun W => refClass_any (stAt L.body j).o W)
          obtain ⟨mj, hmj⟩ : ∃ mj, (nth T j).tmod P = mj := ⟨_, rfl⟩
          have HMJ := HME.out j
          rw [hmj] at HMJ
          obtain ⟨cj, hcj⟩ : ∃ cj, clsv (stAt L.body j).o = cj := ⟨_, rfl⟩
          rw [hcj] at HCJ HMJ
          have HST := hide (fun b h => meet_step L P T k j b h)
          have HMJ2 := hide HMJ
          clear HMJ
          generalize cnt (meetL L P T k) j = cc at *
          generalize (stAt L.body j).o = oj at *
          generalize nth T j = tj at *
          clear hcj
          by_cases hmm : mj = mi
          · have hmb : (mj == mi) = true := by simpa using hmm
            by_cases hcc : cj = (cn : Int)
            · have hcb : (cj == (cn : Int)) = true := by simpa using hcc
              have HST2 := hide (HST.out true (by rw [HMJ2.out, decide_eq_true hmm, decide_eq_true hcc]; rfl))
              clear hmm hcc HST HMJ2
              go_wp2_with fail
              go_big_quiet ((go_at_call 27; exact (HCJ.out _).mono fun _ _ ⟨he, hm⟩ => ⟨he, _, hm⟩))
              go_wp2_with fail
              go_roundw
              case rel => exact ⟨j + 1, dd + nq, by omega, by go_num, by rw [HST2.out]; simp, by simp⟩
              case measure => simp [intOf]; omega
            · have hcb : (cj == (cn : Int)) = false := by simpa using hcc
              have HST2 := hide (HST.out false (by rw [HMJ2.out, decide_eq_false hcc, Bool.and_false]))
              clear hmm hcc HST HMJ2
              go_wp2_with fail
              go_big_quiet ((go_at_call 27; exact (HCJ.out _).mono fun _ _ ⟨he, hm⟩ => ⟨he, _, hm⟩))
              go_wp2_with fail
              go_roundw
              case rel => exact ⟨j + 1, dd + nq, by omega, by go_num, by rw [HST2.out]; simp, by simp⟩
              case measure => simp [intOf]; omega
          · have hmb : (mj == mi) = false := by simpa using hmm
            have HST2 := hide (HST.out false (by rw [HMJ2.out, decide_eq_false hmm, Bool.false_and]))
            clear hmm HST HMJ2
            go_wp2_with fail
            go_big_quiet ((go_at_call 27; exact (HCJ.out _).mono fun _ _ ⟨he, hm⟩ => ⟨he, _, hm⟩))
            go_wp2_with fail
            go_roundw
            case rel => exact ⟨j + 1, dd + nq, by omega, by go_num, by rw [HST2.out]; simp, by simp⟩
            case measure => simp [intOf]; omega
        · have e : j = T.length := by omega
          subst e
          have hji : ¬ (T.length : Int) < (T.length : Int) := by omega
          have hcn3i : (cn : Int) < 3 := by omega
          rw [← HMY.out]
          obtain ⟨mk, hmk⟩ : ∃ mk, manyL L P T k = mk := ⟨_, rfl⟩
          obtain ⟨un, hun⟩ : ∃ un, unitsT ⟨p0, p1, p2, q0, q1, q2, r⟩ (cn : Int) = un := ⟨_, rfl⟩
          rw [← HMY.out, hmk] at hcn16
          rw [HUN.out, hun] at HTL2
          rw [hmk] at HTL2 ⊢
          have huc := HUC.out
          rw [hun] at huc
          clear hmk hun
          by_cases hgt : un < (mk : Int)
          · have hgd : decide (un < (mk : Int)) = true := decide_eq_true hgt
            have HF := hide (HNO.out _ HTL2.out (decide_eq_false (by omega)))
            go_wp2_with fail
            go_ret
            exact ⟨ret_bool HF.out.symm, HBW.out.trans (below_draws _ _ _ |>.mono HBW.out.size)⟩
          · have hgd : decide (un < (mk : Int)) = false := decide_eq_false hgt
            have HY := hide (HYES.out (HTL2.out.trans (decide_eq_true (by omega))))
            go_wp2_with fail
            go_roundw
            case rel => exact ⟨k + 1, by omega, by go_num, HY.out, HB.out.trans (below_draws _ _ _ |>.mono (by have := HB.out.size; simp at this; omega))⟩
            case measure => simp [intOf]; omega
    · have e : k = T.length := by omega
      subst e
      have hki : ¬ (T.length : Int) < (T.length : Int) := by omega
      have HTR : Hid (∀ i, i < T.length → 0 ≤ nth T i ∧ nth T i ≤ 1000) := fun i hi => by
        have h1 := allN_get HA.out i hi
        unfold timeL at h1
        simp only [Bool.and_eq_true] at h1
        exact inR_iff.1 h1.1
      obtain ⟨es, hes⟩ : ∃ es, edgesD L ⟨p0, p1, p2, q0, q1, q2, r⟩ = es := ⟨_, rfl⟩
      have HFIN : Hid (∀ c : Bool, allN (fun i => edgeL P T (edAt es i)) es.length = c → (allN (timeL L ⟨p0, p1, p2, q0, q1, q2, r⟩ P T) T.length && allN (fun i => edgeL P T (edAt (edgesD L ⟨p0, p1, p2, q0, q1, q2, r⟩) i)) (edgesD L ⟨p0, p1, p2, q0, q1, q2, r⟩).length) = c) := fun c h => by rw [HA.out, hes, h]; rfl
      rw [hes] at HED HEO
      clear hes
      clear hall hbel hbw
      go_wp2_with fail
      refine (HED.out _ (HL.out.below HBW.out)).mono ?_
      rintro e x2 ⟨ev, rfl, hev, hb2⟩
      have HB2 := hide (HB.out.trans (hb2.mono (by have := HB.out.size; simp at this; omega)))
      have HEV := hide hev
      obtain ⟨ea, ec, rfl, he1, he2, -⟩ := hev
      unfold maxLen at he2
      clear hb2 l0 l1 l2 t0 t1 t2 t3 t4 t5 t6 k0 k1 hz
      go_wp2_with fail
      go_loopw [12] (fun i wr2 => ∃ k2 : Nat, k2 ≤ es.length ∧ i = .int .i64 k2 ∧ allN (fun i => edgeL P T (edAt es i)) k2 = true ∧ Below x2.heap.size x2 wr2) (fun i _ => es.length - (intOf i).toNat)
      case atStart => exact ⟨0, Nat.zero_le _, rfl, rfl, Below.refl _ _⟩
      case round =>
        obtain ⟨k2, hk2, rfl, hall2, hbel2⟩ := hrel
        have HA2 := hide hall2
        have HBL2 := hide hbel2
        have hb9 := HB2.out.trans (hbel2.mono (by have := HB2.out.size; simp at this; omega))
        obtain ⟨-, -, ⟨k0, k1⟩, hz, hbw⟩ := lbox_cells hb9
        have HBW2 := hide hbw
        by_cases hkl2 : k2 < es.length
        · have hki2 : (k2 : Int) < (es.length : Int) := by omega
          obtain ⟨ea', ec', hee, -, -, hec⟩ := HEV.out.below hbel2
          injection hee with f1 f2 f3
          subst f1; subst f3
          obtain ⟨eb, eo, rfl, hebz, hecell⟩ := hec (by omega)
          obtain ⟨c0, c1, c2, c3⟩ := fourE (hecell k2 hkl2)
          obtain ⟨fr, to, bk, wt, hed, hfr, hto, -, hwt, hbk⟩ := HEO.out _ (edAt_in hkl2)
          have HLX := HLEN.out
          obtain ⟨tb, too, rfl, htbz, htcell, -⟩ := times_at HTT.out hbw htp
          have hcf := htcell fr (by omega)
          have hct := htcell to (by omega)
          obtain ⟨hf1, hf2⟩ := HTR.out fr (by omega)
          obtain ⟨ht1, ht2⟩ := HTR.out to (by omega)
          have HEL : Hid (edgeL P T (edAt es k2) = decide (nth T fr + (wt : Int) ≤ nth T to + (bk : Int) * P)) := by show _ = _; rw [hed]; rfl
          rw [hed] at c0 c1 c2 c3
          simp only at c0 c1 c2 c3
          have hpb1 : 0 ≤ (bk : Int) * P := Int.mul_nonneg (by omega) (by omega)
          have hpb2 : (bk : Int) * P ≤ 32 * 200 := Int.mul_le_mul (by omega) hP2 (by omega) (by omega)
          have hfi : (fr : Int) < (T.length : Int) := by omega
          have hti : (to : Int) < (T.length : Int) := by omega
          generalize nth T fr = xf at *
          generalize nth T to = xt at *
          obtain ⟨lhs, hlhs⟩ : ∃ z, xt + (bk : Int) * P = z := ⟨_, rfl⟩
          obtain ⟨rhs, hrhs⟩ : ∃ z, xf + (wt : Int) = z := ⟨_, rfl⟩
          rw [hlhs, hrhs] at HEL
          have hlb : 0 ≤ lhs ∧ lhs ≤ 10000 := by omega
          have hrb : 0 ≤ rhs ∧ rhs ≤ 10000 := by omega
          obtain ⟨hlb1, hlb2⟩ := hlb
          obtain ⟨hrb1, hrb2⟩ := hrb
          clear hall2 hbel2 hb9 hbw hec hecell hed htcell HLX
          by_cases hlt : lhs < rhs
          · have hld : decide (lhs < rhs) = true := decide_eq_true hlt
            have HF : Hid (allN (fun i => edgeL P T (edAt es i)) es.length = false) := allN_false hkl2 (by show edgeL P T (edAt es k2) = false; rw [HEL.out]; exact decide_eq_false (by omega))
            go_wp2_with fail
            go_big_quiet ((fail))
            go_wp2_with fail
            go_ret
            exact ⟨ret_bool (HFIN.out _ HF.out).symm, (HBW2.out.alloc HBW2.out.size _).trans (below_draws _ _ _ |>.mono (by have := HBW2.out.size; simp; omega))⟩
          · have hld : decide (lhs < rhs) = false := decide_eq_false hlt
            have HY : Hid (allN (fun i => edgeL P T (edAt es i)) (k2 + 1) = true) := allN_step HA2.out (by show edgeL P T (edAt es k2) = true; rw [HEL.out]; exact decide_eq_true (by omega))
            go_wp2_with fail
            go_big_quiet ((fail))
            go_wp2_with fail
            go_roundw
            case rel => exact ⟨k2 + 1, by omega, by go_num, HY.out, (HBL2.out.alloc HBL2.out.size _).trans (below_draws _ _ _ |>.mono (by have := HBL2.out.size; simp; omega))⟩
            case measure => simp [intOf]; omega
        · have e : k2 = es.length := by omega
          subst e
          have hki2 : ¬ (es.length : Int) < (es.length : Int) := by omega
          clear hall2 hbel2 hb9 hbw
          go_wp2_with fail
          go_ret
          exact ⟨ret_bool (HFIN.out _ HA2.out).symm, HBW2.out⟩
theorem legal_any (t : Tg) (L : Lp) (v pv : Value) (P : Int) (T : List Int) (w : World) (hL : LoopV w v L) (hP : PlanV w pv P T) :
    Calls Try.prog 8 #[v, .agg t.cells, pv] w fun e w' => e = .returned (.bool (legalD L t P T)) ∧ Below w.heap.size w w' := by
  have hL' := hL
  obtain ⟨v0, v1, v2, rfl, ⟨a0, cap0, rfl, -⟩, ⟨a1, cap1, rfl, -⟩, ⟨a2, cap2, rfl, -⟩⟩ := hL'
  obtain ⟨tv, rfl, hT⟩ := hP
  have hT' := hT
  obtain ⟨ta, tc, rfl, -⟩ := hT'
  obtain ⟨p0, p1, p2, q0, q1, q2, r⟩ := t
  cases h : (mayB L && mayT ⟨p0, p1, p2, q0, q1, q2, r⟩) with
  | false =>
    rw [legal_no (.inl h)]
    exact legal_head p0 p1 p2 q0 q1 q2 r L a0 a1 a2 cap0 cap1 cap2 P T ta tc w hL hT (.inl h)
  | true =>
    by_cases h1 : P < 1
    · rw [legal_no (.inr (.inl h1))]
      exact legal_head p0 p1 p2 q0 q1 q2 r L a0 a1 a2 cap0 cap1 cap2 P T ta tc w hL hT (.inr ⟨h, .inl h1⟩)
    by_cases h2 : 200 < P
    · rw [legal_no (.inr (.inr (.inl h2)))]
      exact legal_head p0 p1 p2 q0 q1 q2 r L a0 a1 a2 cap0 cap1 cap2 P T ta tc w hL hT (.inr ⟨h, .inr (.inl ⟨by omega, h2⟩)⟩)
    by_cases h3 : T.length = L.body.length
    · rw [legal_eq h (by omega) (by omega) h3]
      have hm : mayB L = true := by
        have h5 : mayB L = true ∧ mayT ⟨p0, p1, p2, q0, q1, q2, r⟩ = true := by simpa using h
        exact h5.1
      obtain ⟨-, hb1, -⟩ := may_parts hm
      have hL2 := hL
      obtain ⟨w0, w1, w2, he, -, ⟨sb, sc, hs1, -, -, hs4⟩, -⟩ := hL2
      have hv1 : w1 = .slice a1 L.body.length cap1 := by
        injection he with he
        have h2 : #[Value.slice a0 L.logs.length cap0, .slice a1 L.body.length cap1, .slice a2 L.outs.length cap2] = #[w0, w1, w2] := he
        simp at h2
        exact h2.2.1.symm
      rw [hv1] at hs1
      injection hs1 with e1 e2 e3
      subst e1
      obtain ⟨b, off, rfl, -⟩ := hs4 (by omega)
      exact legal_rest p0 p1 p2 q0 q1 q2 r L a0 a2 b off cap0 cap1 cap2 P T ta tc w hL hT h (by omega) (by omega) h3
    · rw [legal_no (.inr (.inr (.inr h3)))]
      exact legal_head p0 p1 p2 q0 q1 q2 r L a0 a1 a2 cap0 cap1 cap2 P T ta tc w hL hT (.inr ⟨h, .inr (.inr ⟨by omega, by omega, h3⟩)⟩)
end Go.Proofs.Ytjoapiafpahihab
/- The contract of the Waits of all statements together, by the document; nothing that was there is changed. -/
namespace Go.Proofs.Ytjoapiafpahihab
open Go.RowKit Go.Joins
set_option linter.unusedVariables false
set_option linter.unusedSimpArgs false
set_option maxRecDepth 8192

/-- the Waits of the first k statements together -/
def waitsL (L : Lp) (t : Tg) (k : Nat) : Int := sumN (fun i => waitT t (stAt L.body i).o) k
def allW (L : Lp) (t : Tg) : Int := waitsL L t L.body.length
theorem wait_le {t : Tg} (o : Int) (h : mayT t = true) : 1 ≤ waitT t o ∧ waitT t o ≤ 6 := by
  obtain ⟨h1, h2, h3, -, -⟩ := mayT_parts h
  have h1 := unit_iff h1
  have h2 := unit_iff h2
  have h3 := unit_iff h3
  have hw : waitT t o = waitsT t (clsv o) := by unfold waitT; rw [if_pos h]
  rw [hw]
  unfold waitsT
  split
  · omega
  · split <;> omega
theorem waits_le {L : Lp} {t : Tg} (h : mayT t = true) : ∀ k, 0 ≤ waitsL L t k ∧ waitsL L t k ≤ 6 * k := by
  intro k
  induction k with
  | zero => exact ⟨Int.le_refl _, Int.le_refl _⟩
  | succ k ih =>
    have := wait_le (stAt L.body k).o h
    show 0 ≤ waitsL L t k + waitT t (stAt L.body k).o ∧ waitsL L t k + waitT t (stAt L.body k).o ≤ _
    omega
set_option maxHeartbeats 4000000 in
theorem all_walk (p0 p1 p2 q0 q1 q2 r : Int) (L : Lp) (v0 v2 : Value) (b off cap : Nat) (w : World) (hl : L.body.length ≤ cap) (hm : cap ≤ 9223372036854775807) (hb : b < w.heap.size) (hcell : ∀ i, i < L.body.length → ∀ j, j < 9 → w.cell? ⟨b, off + i * 9 + j, none⟩ = (stCells (stAt L.body i))[j]?) (h16 : L.body.length ≤ 16) (hmt : mayT ⟨p0, p1, p2, q0, q1, q2, r⟩ = true) :
    Calls Try.prog 11 #[.agg #[v0, .slice (some ⟨b, off, none⟩) L.body.length cap, v2], .agg #[.int .i64 p0, .int .i64 p1, .int .i64 p2, .int .i64 q0, .int .i64 q1, .int .i64 q2, .int .i64 r]] w fun e w' => e = .returned (.int .i64 (allW L ⟨p0, p1, p2, q0, q1, q2, r⟩)) ∧ Below w.heap.size w w' := by
  have HCE := hide hcell
  have HWL := hide (waits_le (L := L) hmt)
  have HWO := hide (fun o => wait_le o hmt)
  clear hcell hmt
  go_enter Try.func11, Try.ntmps11
  go_wp2_with fail
  go_loopw [5, 6] (fun nv i wr => ∃ k : Nat, k ≤ L.body.length ∧ i = .int .i64 k ∧ nv = .int .i64 (waitsL L ⟨p0, p1, p2, q0, q1, q2, r⟩ k) ∧ Below (w.heap.size + 1 + 1) ((w.alloc (.cells #[v0, .slice (some ⟨b, off, none⟩) L.body.length cap, v2] 25)).alloc (.cells #[.int .i64 p0, .int .i64 p1, .int .i64 p2, .int .i64 q0, .int .i64 q1, .int .i64 q2, .int .i64 r] 28)) wr) (fun _ i _ => L.body.length - (intOf i).toNat)
  case atStart => exact ⟨0, Nat.zero_le _, rfl, rfl, Below.refl _ _⟩
  case round =>
    obtain ⟨k, hk, rfl, rfl, hbel⟩ := hrel
    have HB := hide hbel
    have hbx := ebox_cells hbel
    obtain ⟨⟨l0, l1, l2⟩, ⟨t0, t1, t2, t3, t4, t5, t6⟩, z0, z1, hbw⟩ := hbx
    have HBW := hide hbw
    by_cases hkl : k < L.body.length
    · have hki : (k : Int) < (L.body.length : Int) := by omega
      have c0 := (nine (HCE.out k hkl)).1
      rw [← bcell hbw _ _ hb] at c0
      have hbz : b < wr.heap.size := by have := hbw.size; omega
      have HWT := hide (fun W => twait_seven p0 p1 p2 q0 q1 q2 r (stAt L.body k).o W)
      have HST : Hid (waitsL L ⟨p0, p1, p2, q0, q1, q2, r⟩ (k + 1) = waitsL L ⟨p0, p1, p2, q0, q1, q2, r⟩ k + waitT ⟨p0, p1, p2, q0, q1, q2, r⟩ (stAt L.body k).o) := rfl
      obtain ⟨hw1, hw2⟩ := HWO.out (stAt L.body k).o
      obtain ⟨hs1, hs2⟩ := HWL.out k
      generalize (stAt L.body k).o = ok at *
      generalize waitT ⟨p0, p1, p2, q0, q1, q2, r⟩ ok = wk at *
      generalize waitsL L ⟨p0, p1, p2, q0, q1, q2, r⟩ k = sk at *
      have H0 : Hid ((wr.cell? ⟨w.heap.size, 0, none⟩ = some v0 ∧ wr.cell? ⟨w.heap.size, 1, none⟩ = some (.slice (some ⟨b, off, none⟩) L.body.length cap) ∧ wr.cell? ⟨w.heap.size, 2, none⟩ = some v2) ∧ (wr.cell? ⟨w.heap.size + 1, 0, none⟩ = some (.int .i64 p0) ∧ wr.cell? ⟨w.heap.size + 1, 1, none⟩ = some (.int .i64 p1) ∧ wr.cell? ⟨w.heap.size + 1, 2, none⟩ = some (.int .i64 p2) ∧ wr.cell? ⟨w.heap.size + 1, 3, none⟩ = some (.int .i64 q0) ∧ wr.cell? ⟨w.heap.size + 1, 4, none⟩ = some (.int .i64 q1) ∧ wr.cell? ⟨w.heap.size + 1, 5, none⟩ = some (.int .i64 q2) ∧ wr.cell? ⟨w.heap.size + 1, 6, none⟩ = some (.int .i64 r)) ∧ wr.cell? ⟨b, off + k * 9, none⟩ = some (.int .i64 ok)) := ⟨⟨l0, l1, l2⟩, ⟨t0, t1, t2, t3, t4, t5, t6⟩, c0⟩
      clear hbel hbw
      go_wp2_with fail
      clear l0 l1 l2 t0 t1 t2 t3 t4 t5 t6 c0
      refine wp_region_noPanic ?_
      refine region_until 99 (fun w' => (w'.cell? ⟨w.heap.size, 0, none⟩ = some v0 ∧ w'.cell? ⟨w.heap.size, 1, none⟩ = some (.slice (some ⟨b, off, none⟩) L.body.length cap) ∧ w'.cell? ⟨w.heap.size, 2, none⟩ = some v2) ∧ (w'.cell? ⟨w.heap.size + 1, 0, none⟩ = some (.int .i64 p0) ∧ w'.cell? ⟨w.heap.size + 1, 1, none⟩ = some (.int .i64 p1) ∧ w'.cell? ⟨w.heap.size + 1, 2, none⟩ = some (.int .i64 p2) ∧ w'.cell? ⟨w.heap.size + 1, 3, none⟩ = some (.int .i64 q0) ∧ w'.cell? ⟨w.heap.size + 1, 4, none⟩ = some (.int .i64 q1) ∧ w'.cell? ⟨w.heap.size + 1, 5, none⟩ = some (.int .i64 q2) ∧ w'.cell? ⟨w.heap.size + 1, 6, none⟩ = some (.int .i64 r)) ∧ w'.cell? ⟨b, off + k * 9, none⟩ = some (.int .i64 ok)) (by kernel_rfl) H0.out (fun hHeld => ?_)
      refine utk (i := 0) rfl hHeld ?_
      try simp only [Act.put, List.setIfInBounds_toArray, List.set_cons_zero, List.set_cons_succ]
      refine utk (i := 1) rfl hHeld ?_
      try simp only [Act.put, List.setIfInBounds_toArray, List.set_cons_zero, List.set_cons_succ]
      refine utk (i := 2) rfl hHeld ?_
      try simp only [Act.put, List.setIfInBounds_toArray, List.set_cons_zero, List.set_cons_succ]
      refine utk (i := 3) rfl hHeld ?_
      try simp only [Act.put, List.setIfInBounds_toArray, List.set_cons_zero, List.set_cons_succ]
      refine utk (i := 4) rfl hHeld ?_
      try simp only [Act.put, List.setIfInBounds_toArray, List.set_cons_zero, List.set_cons_succ]
      refine utk (i := 5) rfl hHeld ?_
      try simp only [Act.put, List.setIfInBounds_toArray, List.set_cons_zero, List.set_cons_succ]
      refine utk (i := 6) rfl hHeld ?_
      try simp only [Act.put, List.setIfInBounds_toArray, List.set_cons_zero, List.set_cons_succ]
      refine until_one (i := 7) rfl (by kernel_rfl) (fun K hK => ?_)
      go_simp
      refine (HWT.out _).mono ?_
      rintro e x2 ⟨rfl, hb2⟩
      have HB2 : Hid (Below wr.heap.size wr x2) := (Below.refl _ _).drew.trans hb2
      have hc2 := bcell HB2.out
      have hHeld2 : (x2.cell? ⟨w.heap.size, 0, none⟩ = some v0 ∧ x2.cell? ⟨w.heap.size, 1, none⟩ = some (.slice (some ⟨b, off, none⟩) L.body.length cap) ∧ x2.cell? ⟨w.heap.size, 2, none⟩ = some v2) ∧ (x2.cell? ⟨w.heap.size + 1, 0, none⟩ = some (.int .i64 p0) ∧ x2.cell? ⟨w.heap.size + 1, 1, none⟩ = some (.int .i64 p1) ∧ x2.cell? ⟨w.heap.size + 1, 2, none⟩ = some (.int .i64 p2) ∧ x2.cell? ⟨w.heap.size + 1, 3, none⟩ = some (.int .i64 q0) ∧ x2.cell? ⟨w.heap.size + 1, 4, none⟩ = some (.int .i64 q1) ∧ x2.cell? ⟨w.heap.size + 1, 5, none⟩ = some (.int .i64 q2) ∧ x2.cell? ⟨w.heap.size + 1, 6, none⟩ = some (.int .i64 r)) ∧ x2.cell? ⟨b, off + k * 9, none⟩ = some (.int .i64 ok) := by
        rw [hc2 _ _ z0, hc2 _ _ z0, hc2 _ _ z0, hc2 _ _ z1, hc2 _ _ z1, hc2 _ _ z1, hc2 _ _ z1, hc2 _ _ z1, hc2 _ _ z1, hc2 _ _ z1, hc2 _ _ hbz]
        exact H0.out
      clear hb2 hc2 hHeld
      refine hK.out _ _ (.inr hHeld2) ?_
      clear hK K
      try simp only [Act.put, List.setIfInBounds_toArray, List.set_cons_zero, List.set_cons_succ]
      refine until_one (i := 8) rfl (by kernel_rfl) (fun K hK => ?_)
      go_simp
      refine hK.out _ _ (.inr hHeld2) ?_
      clear hK K
      try simp only [Act.put, List.setIfInBounds_toArray, List.set_cons_zero, List.set_cons_succ]
      refine until_done (by kernel_rfl) ?_ _
      refine NoPanic.normal ?_
      clear hHeld2
      go_wp2_with fail
      go_roundw
      case rel => exact ⟨k + 1, by omega, by go_num, by rw [HST.out], HB.out.trans (HB2.out.mono (by omega))⟩
      case measure => simp [intOf]; omega
    · have e : k = L.body.length := by omega
      subst e
      have hki : ¬ (L.body.length : Int) < (L.body.length : Int) := by omega
      clear hbel hbw
      go_wp2_with fail
      go_ret
      exact ⟨rfl, HBW.out⟩
theorem all_any (t : Tg) (L : Lp) (v : Value) (w : World) (hL : LoopV w v L) (hm : mayB L = true) (hmt : mayT t = true) :
    Calls Try.prog 11 #[v, .agg t.cells] w fun e w' => e = .returned (.int .i64 (allW L t)) ∧ Below w.heap.size w w' := by
  obtain ⟨-, h1, h16, -⟩ := may_parts hm
  obtain ⟨v0, v1, v2, rfl, -, ⟨a, cap, rfl, hl, hc, h4⟩, -⟩ := hL
  obtain ⟨b, off, rfl, hb, hcell⟩ := h4 (by omega)
  obtain ⟨p0, p1, p2, q0, q1, q2, r⟩ := t
  exact all_walk p0 p1 p2 q0 q1 q2 r L v0 v2 b off cap w hl (by unfold maxLen at hc; omega) hb hcell h16 hmt
end Go.Proofs.Ytjoapiafpahihab
/- SchedLegal's walk: for every loop, machine and plan in memory the law returns true, if the program's Legal answers as SLegalC says; nothing that was there is changed. -/
namespace Go.Proofs.Ytjoapiafpahihab
open Go.RowKit Go.Joins
set_option linter.unusedVariables false
set_option linter.unusedSimpArgs false
set_option maxRecDepth 8192

end Go.Proofs.Ytjoapiafpahihab
/- SchedMakes' walk: for every loop, machine and least pace in memory the law returns true, if the program's Make answers as MakeC says; nothing that was there is changed. -/
namespace Go.Proofs.Ytjoapiafpahihab
open Go.RowKit Go.Joins
set_option linter.unusedVariables false
set_option linter.unusedSimpArgs false
set_option maxRecDepth 8192

/-- how the program makes a plan -/
def MakeC : Prop := ∀ (v : Value) (t : Tg) (L : Lp) (least : Int) (w : World), LoopV w v L →
  Calls Try.prog 9 #[v, .agg t.cells, .int .i64 least] w fun e w' => Below w.heap.size w w' ∧ ∃ P ta tl tc c, e = .returned (.tuple #[.agg #[.int .i64 P, .slice ta tl tc], .int .i64 c]) ∧
    ((mayB L && mayT t) = false → c = 2 ∧ P = 0 ∧ tl = 0) ∧ ((mayB L && mayT t) = true → inR least 1 200 = false → c = 3 ∧ P = 0 ∧ tl = 0) ∧
    ((mayB L && mayT t) = true → inR least 1 200 = true → c = 0 ∧ ∃ T, tl = T.length ∧ Ints w' (.slice ta tl tc) T ∧ legalD L t P T = true ∧ least ≤ P ∧ P ≤ max least (allW L t))
theorem new_blk (w : World) (cs : Array Value) (e : TypeId) : (w.alloc (.cells cs e)).heap[w.heap.size]? = some (.cells cs e (0, 0)) := by
  show (w.heap.push _)[w.heap.size]? = _
  simp
set_option maxHeartbeats 4000000 in
theorem makes_no (hMake : MakeC) (p0 p1 p2 q0 q1 q2 r : Int) (L : Lp) (a0 a1 a2 : Option Addr) (cap0 cap1 cap2 : Nat) (least : Int) (w : World) (hL : LoopV w (.agg #[.slice a0 L.logs.length cap0, .slice a1 L.body.length cap1, .slice a2 L.outs.length cap2]) L) (h : (mayB L && mayT ⟨p0, p1, p2, q0, q1, q2, r⟩) = false ∨ ((mayB L && mayT ⟨p0, p1, p2, q0, q1, q2, r⟩) = true ∧ inR least 1 200 = false)) : Calls Try.prog 4 #[.agg #[.slice a0 L.logs.length cap0, .slice a1 L.body.length cap1, .slice a2 L.outs.length cap2], .agg #[.int .i64 p0, .int .i64 p1, .int .i64 p2, .int .i64 q0, .int .i64 q1, .int .i64 q2, .int .i64 r], .int .i64 least] w fun e w' => e = .returned (.bool true) ∧ Below w.heap.size w w' := by
  have HMK := hide (fun W (h : LoopV W (.agg #[.slice a0 L.logs.length cap0, .slice a1 L.body.length cap1, .slice a2 L.outs.length cap2]) L) => hMake _ ⟨p0, p1, p2, q0, q1, q2, r⟩ L least W h)
  have HMAY := hide (fun W (h : LoopV W (.agg #[.slice a0 L.logs.length cap0, .slice a1 L.body.length cap1, .slice a2 L.outs.length cap2]) L) => rdmay_walk p0 p1 p2 q0 q1 q2 r L a0 a1 a2 cap0 cap1 cap2 W h)
  have HL := hide hL
  clear hL
  rcases h with h | ⟨h, h1⟩
  · rw [h] at HMAY
    have HH := hide h
    clear h
    go_enter Try.func4, Try.ntmps4
    go_wp2_with fail
    refine (HMK.out _ (HL.out.below (below_alloc2 _ _ _))).mono ?_
    rintro e x1 ⟨hbx, P, ta, tl, tc, c, rfl, hA, -, -⟩
    obtain ⟨rfl, rfl, rfl⟩ := hA HH.out
    have hb2 : Below (w.heap.size + 1 + 1) ((w.alloc (.cells #[.slice a0 L.logs.length cap0, .slice a1 L.body.length cap1, .slice a2 L.outs.length cap2] 25)).alloc (.cells #[.int .i64 p0, .int .i64 p1, .int .i64 p2, .int .i64 q0, .int .i64 q1, .int .i64 q2, .int .i64 r] 28)) x1 := by
      have hs : ((w.alloc (.cells #[.slice a0 L.logs.length cap0, .slice a1 L.body.length cap1, .slice a2 L.outs.length cap2] 25)).alloc (.cells #[.int .i64 p0, .int .i64 p1, .int .i64 p2, .int .i64 q0, .int .i64 q1, .int .i64 q2, .int .i64 r] 28)).heap.size = w.heap.size + 1 + 1 := by simp
      rw [← hs]; exact hbx
    obtain ⟨⟨l0, l1, l2⟩, ⟨t0, t1, t2, t3, t4, t5, t6⟩, z0, z1, hbw⟩ := ebox_cells hb2
    have HB2 := hide hb2
    have HBW := hide hbw
    clear hbx hb2 hbw
    go_wp2_with fail
    refine (HMAY.out _ ((HL.out.below HBW.out).below (below_alloc1 _ _))).mono ?_
    rintro e x2 ⟨rfl, hbx⟩
    have HX2 : Hid (Below x1.heap.size x1 x2) := (below_alloc1 x1 (.cells #[.int .i64 0, .slice ta 0 tc] 30)).trans (hbx.mono (by simp))
    have HPX : Hid (x2.heap[x1.heap.size]? = some (.cells #[.int .i64 0, .slice ta 0 tc] 30 (0, 0))) := by show _ = _; rw [hbx.block _ (by simp)]; exact new_blk _ _ _
    have hb3 := HB2.out.trans (HX2.out.mono (by have := HB2.out.size; simp at this; omega))
    clear l0 l1 l2 t0 t1 t2 t3 t4 t5 t6 z0 z1
    obtain ⟨⟨l0, l1, l2⟩, ⟨t0, t1, t2, t3, t4, t5, t6⟩, z0, z1, hbw⟩ := ebox_cells hb3
    have HBW2 := hide hbw
    have k0 : x2.cell? ⟨x1.heap.size, 0, none⟩ = some (.int .i64 0) := by rw [cell_of_block HPX.out]; rfl
    have k1 : x2.cell? ⟨x1.heap.size, 1, none⟩ = some (.slice ta 0 tc) := by rw [cell_of_block HPX.out]; rfl
    clear hbx hb3 hbw
    go_wp2_with fail
    go_ret
    exact ⟨rfl, HBW2.out⟩
  · rw [h] at HMAY
    have HH := hide (And.intro h h1)
    have hr : least < 1 ∨ (¬ least < 1 ∧ 200 < least) := by
      by_cases e : least < 1
      · exact .inl e
      · refine .inr ⟨e, ?_⟩
        by_cases e2 : 200 < least
        · exact e2
        · rw [inR_yes (by omega)] at h1; cases h1
    clear h h1
    rcases hr with hr | ⟨hr, hr2⟩
    all_goals
      go_enter Try.func4, Try.ntmps4
      go_wp2_with fail
      refine (HMK.out _ (HL.out.below (below_alloc2 _ _ _))).mono ?_
      rintro e x1 ⟨hbx, P, ta, tl, tc, c, rfl, -, hA, -⟩
      obtain ⟨rfl, rfl, rfl⟩ := hA HH.out.1 HH.out.2
      have hb2 : Below (w.heap.size + 1 + 1) ((w.alloc (.cells #[.slice a0 L.logs.length cap0, .slice a1 L.body.length cap1, .slice a2 L.outs.length cap2] 25)).alloc (.cells #[.int .i64 p0, .int .i64 p1, .int .i64 p2, .int .i64 q0, .int .i64 q1, .int .i64 q2, .int .i64 r] 28)) x1 := by
        have hs : ((w.alloc (.cells #[.slice a0 L.logs.length cap0, .slice a1 L.body.length cap1, .slice a2 L.outs.length cap2] 25)).alloc (.cells #[.int .i64 p0, .int .i64 p1, .int .i64 p2, .int .i64 q0, .int .i64 q1, .int .i64 q2, .int .i64 r] 28)).heap.size = w.heap.size + 1 + 1 := by simp
        rw [← hs]; exact hbx
      obtain ⟨⟨l0, l1, l2⟩, ⟨t0, t1, t2, t3, t4, t5, t6⟩, z0, z1, hbw⟩ := ebox_cells hb2
      have HB2 := hide hb2
      have HBW := hide hbw
      clear hbx hb2 hbw
      go_wp2_with fail
      refine (HMAY.out _ ((HL.out.below HBW.out).below (below_alloc1 _ _))).mono ?_
      rintro e x2 ⟨rfl, hbx⟩
      have HX2 : Hid (Below x1.heap.size x1 x2) := (below_alloc1 x1 (.cells #[.int .i64 0, .slice ta 0 tc] 30)).trans (hbx.mono (by simp))
      have HPX : Hid (x2.heap[x1.heap.size]? = some (.cells #[.int .i64 0, .slice ta 0 tc] 30 (0, 0))) := by show _ = _; rw [hbx.block _ (by simp)]; exact new_blk _ _ _
      have hb3 := HB2.out.trans (HX2.out.mono (by have := HB2.out.size; simp at this; omega))
      clear l0 l1 l2 t0 t1 t2 t3 t4 t5 t6 z0 z1
      obtain ⟨⟨l0, l1, l2⟩, ⟨t0, t1, t2, t3, t4, t5, t6⟩, z0, z1, hbw⟩ := ebox_cells hb3
      have HBW2 := hide hbw
      have k0 : x2.cell? ⟨x1.heap.size, 0, none⟩ = some (.int .i64 0) := by rw [cell_of_block HPX.out]; rfl
      have k1 : x2.cell? ⟨x1.heap.size, 1, none⟩ = some (.slice ta 0 tc) := by rw [cell_of_block HPX.out]; rfl
      clear hbx hb3 hbw
      go_wp2_with fail
      go_ret
      exact ⟨rfl, HBW2.out⟩
set_option maxHeartbeats 8000000 in
theorem makes_yes (hMake : MakeC) (p0 p1 p2 q0 q1 q2 r : Int) (L : Lp) (a0 a1 a2 : Option Addr) (cap0 cap1 cap2 : Nat) (least : Int) (w : World) (hL : LoopV w (.agg #[.slice a0 L.logs.length cap0, .slice a1 L.body.length cap1, .slice a2 L.outs.length cap2]) L) (h : (mayB L && mayT ⟨p0, p1, p2, q0, q1, q2, r⟩) = true) (h1 : inR least 1 200 = true) : Calls Try.prog 4 #[.agg #[.slice a0 L.logs.length cap0, .slice a1 L.body.length cap1, .slice a2 L.outs.length cap2], .agg #[.int .i64 p0, .int .i64 p1, .int .i64 p2, .int .i64 q0, .int .i64 q1, .int .i64 q2, .int .i64 r], .int .i64 least] w fun e w' => e = .returned (.bool true) ∧ Below w.heap.size w w' := by
  have HMK := hide (fun W (h : LoopV W (.agg #[.slice a0 L.logs.length cap0, .slice a1 L.body.length cap1, .slice a2 L.outs.length cap2]) L) => hMake _ ⟨p0, p1, p2, q0, q1, q2, r⟩ L least W h)
  have HMAY := hide (fun W (h : LoopV W (.agg #[.slice a0 L.logs.length cap0, .slice a1 L.body.length cap1, .slice a2 L.outs.length cap2]) L) => rdmay_walk p0 p1 p2 q0 q1 q2 r L a0 a1 a2 cap0 cap1 cap2 W h)
  have HL := hide hL
  have hm2 : mayB L = true ∧ mayT ⟨p0, p1, p2, q0, q1, q2, r⟩ = true := by simpa using h
  have HAL := hide (fun W (h : LoopV W (.agg #[.slice a0 L.logs.length cap0, .slice a1 L.body.length cap1, .slice a2 L.outs.length cap2]) L) => all_any ⟨p0, p1, p2, q0, q1, q2, r⟩ L _ W h hm2.1 hm2.2)
  have HLE := hide (fun W P T ta tc (h : LoopV W (.agg #[.slice a0 L.logs.length cap0, .slice a1 L.body.length cap1, .slice a2 L.outs.length cap2]) L) (h2 : PlanV W (.agg #[.int .i64 P, .slice ta T.length tc]) P T) => legal_any ⟨p0, p1, p2, q0, q1, q2, r⟩ L _ _ P T W h h2)
  obtain ⟨hl1, hl2⟩ := inR_iff.1 h1
  have hl1n : ¬ least < 1 := by omega
  have hl2n : ¬ 200 < least := by omega
  rw [h] at HMAY
  have HH := hide (And.intro h h1)
  clear hL h h1 hm2
  go_enter Try.func4, Try.ntmps4
  go_wp2_with fail
  refine (HMK.out _ (HL.out.below (below_alloc2 _ _ _))).mono ?_
  rintro e x1 ⟨hbx, P, ta, tl, tc, c, rfl, -, -, hA⟩
  obtain ⟨rfl, T, rfl, hTi, hleg, hlo, hhi⟩ := hA HH.out.1 HH.out.2
  have HTI := hide hTi
  have HLG := hide hleg
  obtain ⟨al, hal⟩ : ∃ al, allW L ⟨p0, p1, p2, q0, q1, q2, r⟩ = al := ⟨_, rfl⟩
  rw [hal] at hhi HAL
  clear hal hTi hleg hA
  have hb2 : Below (w.heap.size + 1 + 1) ((w.alloc (.cells #[.slice a0 L.logs.length cap0, .slice a1 L.body.length cap1, .slice a2 L.outs.length cap2] 25)).alloc (.cells #[.int .i64 p0, .int .i64 p1, .int .i64 p2, .int .i64 q0, .int .i64 q1, .int .i64 q2, .int .i64 r] 28)) x1 := by
    have hs : ((w.alloc (.cells #[.slice a0 L.logs.length cap0, .slice a1 L.body.length cap1, .slice a2 L.outs.length cap2] 25)).alloc (.cells #[.int .i64 p0, .int .i64 p1, .int .i64 p2, .int .i64 q0, .int .i64 q1, .int .i64 q2, .int .i64 r] 28)).heap.size = w.heap.size + 1 + 1 := by simp
    rw [← hs]; exact hbx
  obtain ⟨⟨l0, l1, l2⟩, ⟨t0, t1, t2, t3, t4, t5, t6⟩, z0, z1, hbw⟩ := ebox_cells hb2
  have HB2 := hide hb2
  have HBW := hide hbw
  clear hbx hb2 hbw
  go_wp2_with fail
  refine (HMAY.out _ ((HL.out.below HBW.out).below (below_alloc1 _ _))).mono ?_
  rintro e x2 ⟨rfl, hbx⟩
  have HX2 : Hid (Below x1.heap.size x1 x2) := (below_alloc1 x1 (.cells #[.int .i64 P, .slice ta T.length tc] 30)).trans (hbx.mono (by simp))
  have HPX : Hid (x2.heap[x1.heap.size]? = some (.cells #[.int .i64 P, .slice ta T.length tc] 30 (0, 0))) := by show _ = _; rw [hbx.block _ (by simp)]; exact new_blk _ _ _
  have hb3 := HB2.out.trans (HX2.out.mono (by have := HB2.out.size; simp at this; omega))
  clear l0 l1 l2 t0 t1 t2 t3 t4 t5 t6 z0 z1
  obtain ⟨⟨l0, l1, l2⟩, ⟨t0, t1, t2, t3, t4, t5, t6⟩, z0, z1, hbw⟩ := ebox_cells hb3
  have HBW2 := hide hbw
  have H0 : Hid ((x2.cell? ⟨w.heap.size, 0, none⟩ = some (.slice a0 L.logs.length cap0) ∧ x2.cell? ⟨w.heap.size, 1, none⟩ = some (.slice a1 L.body.length cap1) ∧ x2.cell? ⟨w.heap.size, 2, none⟩ = some (.slice a2 L.outs.length cap2)) ∧ (x2.cell? ⟨w.heap.size + 1, 0, none⟩ = some (.int .i64 p0) ∧ x2.cell? ⟨w.heap.size + 1, 1, none⟩ = some (.int .i64 p1) ∧ x2.cell? ⟨w.heap.size + 1, 2, none⟩ = some (.int .i64 p2) ∧ x2.cell? ⟨w.heap.size + 1, 3, none⟩ = some (.int .i64 q0) ∧ x2.cell? ⟨w.heap.size + 1, 4, none⟩ = some (.int .i64 q1) ∧ x2.cell? ⟨w.heap.size + 1, 5, none⟩ = some (.int .i64 q2) ∧ x2.cell? ⟨w.heap.size + 1, 6, none⟩ = some (.int .i64 r)) ∧ x2.cell? ⟨x1.heap.size, 0, none⟩ = some (.int .i64 P) ∧ x2.cell? ⟨x1.heap.size, 1, none⟩ = some (.slice ta T.length tc)) := ⟨⟨l0, l1, l2⟩, ⟨t0, t1, t2, t3, t4, t5, t6⟩, by rw [cell_of_block HPX.out]; rfl, by rw [cell_of_block HPX.out]; rfl⟩
  have hxz : x1.heap.size < x2.heap.size := (Array.getElem?_eq_some_iff.1 HPX.out).1
  have HPV : Hid (∀ W, Below x2.heap.size x2 W → PlanV W (.agg #[.int .i64 P, .slice ta T.length tc]) P T) := fun W hW => ⟨_, rfl, (HTI.out.below HX2.out).below hW⟩
  clear hbx hb3 hbw
  go_wp2_with fail
  clear l0 l1 l2 t0 t1 t2 t3 t4 t5 t6
  refine wp_region_noPanic ?_
  refine region_until 99 (fun w' => (w'.cell? ⟨w.heap.size, 0, none⟩ = some (.slice a0 L.logs.length cap0) ∧ w'.cell? ⟨w.heap.size, 1, none⟩ = some (.slice a1 L.body.length cap1) ∧ w'.cell? ⟨w.heap.size, 2, none⟩ = some (.slice a2 L.outs.length cap2)) ∧ (w'.cell? ⟨w.heap.size + 1, 0, none⟩ = some (.int .i64 p0) ∧ w'.cell? ⟨w.heap.size + 1, 1, none⟩ = some (.int .i64 p1) ∧ w'.cell? ⟨w.heap.size + 1, 2, none⟩ = some (.int .i64 p2) ∧ w'.cell? ⟨w.heap.size + 1, 3, none⟩ = some (.int .i64 q0) ∧ w'.cell? ⟨w.heap.size + 1, 4, none⟩ = some (.int .i64 q1) ∧ w'.cell? ⟨w.heap.size + 1, 5, none⟩ = some (.int .i64 q2) ∧ w'.cell? ⟨w.heap.size + 1, 6, none⟩ = some (.int .i64 r)) ∧ w'.cell? ⟨x1.heap.size, 0, none⟩ = some (.int .i64 P) ∧ w'.cell? ⟨x1.heap.size, 1, none⟩ = some (.slice ta T.length tc)) (by kernel_rfl) H0.out (fun hHeld => ?_)
  refine utk (i := 0) rfl hHeld ?_
  try simp only [Act.put, List.setIfInBounds_toArray, List.set_cons_zero, List.set_cons_succ]
  refine utk (i := 1) rfl hHeld ?_
  try simp only [Act.put, List.setIfInBounds_toArray, List.set_cons_zero, List.set_cons_succ]
  refine utk (i := 2) rfl hHeld ?_
  try simp only [Act.put, List.setIfInBounds_toArray, List.set_cons_zero, List.set_cons_succ]
  refine utk (i := 3) rfl hHeld ?_
  try simp only [Act.put, List.setIfInBounds_toArray, List.set_cons_zero, List.set_cons_succ]
  refine utk (i := 4) rfl hHeld ?_
  try simp only [Act.put, List.setIfInBounds_toArray, List.set_cons_zero, List.set_cons_succ]
  refine utk (i := 5) rfl hHeld ?_
  try simp only [Act.put, List.setIfInBounds_toArray, List.set_cons_zero, List.set_cons_succ]
  refine until_one (i := 6) rfl (by kernel_rfl) (fun K hK => ?_)
  go_simp
  refine (HLE.out _ P T ta tc ((HL.out.below HBW2.out).below (Below.refl _ _).drew) (HPV.out _ (Below.refl _ _).drew)).mono ?_
  rintro e x3 ⟨rfl, hb3⟩
  have HB3 : Hid (Below x2.heap.size x2 x3) := (Below.refl _ _).drew.trans hb3
  have hc_x3 := bcell HB3.out
  have hHeld_x3 : (x3.cell? ⟨w.heap.size, 0, none⟩ = some (.slice a0 L.logs.length cap0) ∧ x3.cell? ⟨w.heap.size, 1, none⟩ = some (.slice a1 L.body.length cap1) ∧ x3.cell? ⟨w.heap.size, 2, none⟩ = some (.slice a2 L.outs.length cap2)) ∧ (x3.cell? ⟨w.heap.size + 1, 0, none⟩ = some (.int .i64 p0) ∧ x3.cell? ⟨w.heap.size + 1, 1, none⟩ = some (.int .i64 p1) ∧ x3.cell? ⟨w.heap.size + 1, 2, none⟩ = some (.int .i64 p2) ∧ x3.cell? ⟨w.heap.size + 1, 3, none⟩ = some (.int .i64 q0) ∧ x3.cell? ⟨w.heap.size + 1, 4, none⟩ = some (.int .i64 q1) ∧ x3.cell? ⟨w.heap.size + 1, 5, none⟩ = some (.int .i64 q2) ∧ x3.cell? ⟨w.heap.size + 1, 6, none⟩ = some (.int .i64 r)) ∧ x3.cell? ⟨x1.heap.size, 0, none⟩ = some (.int .i64 P) ∧ x3.cell? ⟨x1.heap.size, 1, none⟩ = some (.slice ta T.length tc) := by
    rw [hc_x3 _ _ z0, hc_x3 _ _ z0, hc_x3 _ _ z0, hc_x3 _ _ z1, hc_x3 _ _ z1, hc_x3 _ _ z1, hc_x3 _ _ z1, hc_x3 _ _ z1, hc_x3 _ _ z1, hc_x3 _ _ z1, hc_x3 _ _ hxz, hc_x3 _ _ hxz]
    exact H0.out
  rw [HLG.out]
  clear hb3 hc_x3 hHeld
  refine hK.out _ _ (.inr hHeld_x3) ?_
  clear hK K
  try simp only [Act.put, List.setIfInBounds_toArray, List.set_cons_zero, List.set_cons_succ]
  have hHeld := hHeld_x3
  refine utk (i := 7) rfl hHeld ?_
  try simp only [Act.put, List.setIfInBounds_toArray, List.set_cons_zero, List.set_cons_succ]
  refine utk (i := 8) rfl hHeld ?_
  try simp only [Act.put, List.setIfInBounds_toArray, List.set_cons_zero, List.set_cons_succ]
  refine utk (i := 9) rfl hHeld ?_
  try simp only [Act.put, List.setIfInBounds_toArray, List.set_cons_zero, List.set_cons_succ]
  refine utk (i := 10) rfl hHeld ?_
  try simp only [Act.put, List.setIfInBounds_toArray, List.set_cons_zero, List.set_cons_succ]
  refine utk (i := 11) rfl hHeld ?_
  try simp only [Act.put, List.setIfInBounds_toArray, List.set_cons_zero, List.set_cons_succ]
  refine utk (i := 12) rfl hHeld ?_
  try simp only [Act.put, List.setIfInBounds_toArray, List.set_cons_zero, List.set_cons_succ]
  refine utk (i := 13) rfl hHeld ?_
  try simp only [Act.put, List.setIfInBounds_toArray, List.set_cons_zero, List.set_cons_succ]
  refine utk (i := 14) rfl hHeld ?_
  try simp only [Act.put, List.setIfInBounds_toArray, List.set_cons_zero, List.set_cons_succ]
  refine utk (i := 15) rfl hHeld ?_
  try simp only [Act.put, List.setIfInBounds_toArray, List.set_cons_zero, List.set_cons_succ]
  refine utk (i := 16) rfl hHeld ?_
  try simp only [Act.put, List.setIfInBounds_toArray, List.set_cons_zero, List.set_cons_succ]
  refine utk (i := 17) rfl hHeld ?_
  try simp only [Act.put, List.setIfInBounds_toArray, List.set_cons_zero, List.set_cons_succ]
  refine utk (i := 18) rfl hHeld ?_
  try simp only [Act.put, List.setIfInBounds_toArray, List.set_cons_zero, List.set_cons_succ]
  refine utk (i := 19) rfl hHeld ?_
  try simp only [Act.put, List.setIfInBounds_toArray, List.set_cons_zero, List.set_cons_succ]
  refine until_one (i := 20) rfl (by kernel_rfl) (fun K hK => ?_)
  go_simp
  refine (HAL.out _ ((HL.out.below HBW2.out).below HB3.out)).mono ?_
  rintro e x4 ⟨rfl, hb4⟩
  have HB4 : Hid (Below x2.heap.size x2 x4) := HB3.out.trans (hb4.mono HB3.out.size)
  have hc_x4 := bcell HB4.out
  have hHeld_x4 : (x4.cell? ⟨w.heap.size, 0, none⟩ = some (.slice a0 L.logs.length cap0) ∧ x4.cell? ⟨w.heap.size, 1, none⟩ = some (.slice a1 L.body.length cap1) ∧ x4.cell? ⟨w.heap.size, 2, none⟩ = some (.slice a2 L.outs.length cap2)) ∧ (x4.cell? ⟨w.heap.size + 1, 0, none⟩ = some (.int .i64 p0) ∧ x4.cell? ⟨w.heap.size + 1, 1, none⟩ = some (.int .i64 p1) ∧ x4.cell? ⟨w.heap.size + 1, 2, none⟩ = some (.int .i64 p2) ∧ x4.cell? ⟨w.heap.size + 1, 3, none⟩ = some (.int .i64 q0) ∧ x4.cell? ⟨w.heap.size + 1, 4, none⟩ = some (.int .i64 q1) ∧ x4.cell? ⟨w.heap.size + 1, 5, none⟩ = some (.int .i64 q2) ∧ x4.cell? ⟨w.heap.size + 1, 6, none⟩ = some (.int .i64 r)) ∧ x4.cell? ⟨x1.heap.size, 0, none⟩ = some (.int .i64 P) ∧ x4.cell? ⟨x1.heap.size, 1, none⟩ = some (.slice ta T.length tc) := by
    rw [hc_x4 _ _ z0, hc_x4 _ _ z0, hc_x4 _ _ z0, hc_x4 _ _ z1, hc_x4 _ _ z1, hc_x4 _ _ z1, hc_x4 _ _ z1, hc_x4 _ _ z1, hc_x4 _ _ z1, hc_x4 _ _ z1, hc_x4 _ _ hxz, hc_x4 _ _ hxz]
    exact H0.out
  clear hb4 hc_x4 hHeld
  refine hK.out _ _ (.inr hHeld_x4) ?_
  clear hK K hHeld_x3
  try simp only [Act.put, List.setIfInBounds_toArray, List.set_cons_zero, List.set_cons_succ]
  have hHeld := hHeld_x4
  clear HMK HLE HAL HMAY
  refine until_one (i := 21) rfl (by kernel_rfl) (fun K hK => ?_)
  go_simp
  refine hK.out _ _ (.inr hHeld) ?_
  clear hK K
  try simp only [Act.put, List.setIfInBounds_toArray, List.set_cons_zero, List.set_cons_succ]
  refine utk (i := 22) rfl hHeld ?_
  try simp only [Act.put, List.setIfInBounds_toArray, List.set_cons_zero, List.set_cons_succ]
  refine utk (i := 23) rfl hHeld ?_
  try simp only [Act.put, List.setIfInBounds_toArray, List.set_cons_zero, List.set_cons_succ]
  refine until_one (i := 24) rfl (by kernel_rfl) (fun K hK => ?_)
  go_simp
  refine hK.out _ _ (.inr hHeld) ?_
  clear hK K
  try simp only [Act.put, List.setIfInBounds_toArray, List.set_cons_zero, List.set_cons_succ]
  refine until_done (by kernel_rfl) ?_ _
  refine NoPanic.normal ?_
  have hmx : P ≤ least ∨ P ≤ al := by omega
  clear hhi
  go_wp2_with fail
  all_goals
    go_ret
    refine ⟨?_, HBW2.out.trans (HB4.out.mono HBW2.out.size)⟩
    show Ending.returned (.bool (decide _)) = .returned (.bool true)
    rw [decide_eq_true (by omega)]
theorem schedMakes_any (hMake : MakeC) (v : Value) (t : Tg) (L : Lp) (least : Int) (w : World) (hL : LoopV w v L) : Calls Try.prog 4 #[v, .agg t.cells, .int .i64 least] w fun e w' => e = .returned (.bool true) ∧ Below w.heap.size w w' := by
  have hL' := hL
  obtain ⟨v0, v1, v2, rfl, ⟨a0, cap0, rfl, -⟩, ⟨a1, cap1, rfl, -⟩, ⟨a2, cap2, rfl, -⟩⟩ := hL'
  obtain ⟨p0, p1, p2, q0, q1, q2, r⟩ := t
  cases h : (mayB L && mayT ⟨p0, p1, p2, q0, q1, q2, r⟩)
  · exact makes_no hMake p0 p1 p2 q0 q1 q2 r L a0 a1 a2 cap0 cap1 cap2 least w hL (.inl h)
  · cases h1 : inR least 1 200
    · exact makes_no hMake p0 p1 p2 q0 q1 q2 r L a0 a1 a2 cap0 cap1 cap2 least w hL (.inr ⟨h, h1⟩)
    · exact makes_yes hMake p0 p1 p2 q0 q1 q2 r L a0 a1 a2 cap0 cap1 cap2 least w hL h h1
end Go.Proofs.Ytjoapiafpahihab
