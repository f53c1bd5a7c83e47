/- The contract of the document's own Takes (J2); nothing that was there is changed. -/
import Derived.Test.YtghlcmljgpkjiabGreatRef10C
import Derived.Test.YtghlcmljgpkjiabGreatRef10A
import Derived.Test.YtghlcmljgpkjiabGreatBase
namespace Go.Proofs.YtghlcmljgpkjiabGreat
open Go.RowKit Go.Joins
set_option linter.unusedVariables false
set_option linter.unusedSimpArgs false
set_option maxRecDepth 8192

theorem taken_no {L : Lp} {t : Tg} {K : Kn} {O : List Int} (h : layD L t K O = false ∨ allN (fun i => edgeJ K O (edAt (edgesD L t) i)) (edgesD L t).length = false ∨ allN (fun s => allN (useJ L t K O s) (usesL (stAt L.body s)).length) L.body.length = false ∨ allN (freshJ (firstsJ L t K O L.body.length)) (firstsJ L t K O L.body.length).length = false ∨ allN (fun i => toldJ L t K O (nth L.outs i).toNat) L.outs.length = false) : takenD L t K O = false := by
  unfold takenD
  rcases h with h | h | h | h | h <;> rw [h] <;> simp
theorem taken_yes {L : Lp} {t : Tg} {K : Kn} {O : List Int} (h1 : layD L t K O = true) (h2 : allN (fun i => edgeJ K O (edAt (edgesD L t) i)) (edgesD L t).length = true) (h3 : allN (fun s => allN (useJ L t K O s) (usesL (stAt L.body s)).length) L.body.length = true) (h4 : allN (freshJ (firstsJ L t K O L.body.length)) (firstsJ L t K O L.body.length).length = true) (h5 : allN (fun i => toldJ L t K O (nth L.outs i).toNat) L.outs.length = true) : takenD L t K O = true := by
  unfold takenD
  rw [h1, h2, h3, h4, h5]; rfl
set_option maxHeartbeats 16000000 in
set_option maxRecDepth 100000 in
theorem takes_walk (p0 p1 p2 q0 q1 q2 r pc st : Int) (ops : List Kop) (L : Lp) (O : List Int) (a0 a1 a2 ka oa : Option Addr) (cap0 cap1 cap2 kc oc : Nat) (w : World) (hL : LoopV w (.agg #[.slice a0 L.logs.length cap0, .slice a1 L.body.length cap1, .slice a2 L.outs.length cap2]) L) (hK : OpsV w (.slice ka ops.length kc) ops) (hO : Ints w (.slice oa O.length oc) O) :
    Calls Tryz.prog 15 #[.agg #[.slice a0 L.logs.length cap0, .slice a1 L.body.length cap1, .slice a2 L.outs.length cap2], .agg #[.int .i64 p0, .int .i64 p1, .int .i64 p2, .int .i64 q0, .int .i64 q1, .int .i64 q2, .int .i64 r], .agg #[.int .i64 pc, .int .i64 st, .slice ka ops.length kc], .slice oa O.length oc] w fun e w' => e = .returned (.bool (takenD L ⟨p0, p1, p2, q0, q1, q2, r⟩ ⟨pc, st, ops⟩ O)) ∧ Below w.heap.size w w' := by
  have HLY := hide (fun W (h1 : LoopV W (.agg #[.slice a0 L.logs.length cap0, .slice a1 L.body.length cap1, .slice a2 L.outs.length cap2]) L) (h2 : OpsV W (.slice ka ops.length kc) ops) (h3 : Ints W (.slice oa O.length oc) O) => layout_any _ _ _ ⟨p0, p1, p2, q0, q1, q2, r⟩ L ⟨pc, st, ops⟩ O W h1 ⟨_, rfl, h2⟩ h3)
  have HL := hide hL
  have HK := hide hK
  have HO := hide hO
  have HS : Hid ((((w.alloc (.cells #[.slice a0 L.logs.length cap0, .slice a1 L.body.length cap1, .slice a2 L.outs.length cap2] 25)).alloc (.cells #[.int .i64 p0, .int .i64 p1, .int .i64 p2, .int .i64 q0, .int .i64 q1, .int .i64 q2, .int .i64 r] 28)).alloc (.cells #[.int .i64 pc, .int .i64 st, .slice ka ops.length kc] 31)).heap.size = w.heap.size + 1 + 1 + 1) := by show _ = _; simp
  have HB0 := hide (below_alloc3 w (.cells #[.slice a0 L.logs.length cap0, .slice a1 L.body.length cap1, .slice a2 L.outs.length cap2] 25) (.cells #[.int .i64 p0, .int .i64 p1, .int .i64 p2, .int .i64 q0, .int .i64 q1, .int .i64 q2, .int .i64 r] 28) (.cells #[.int .i64 pc, .int .i64 st, .slice ka ops.length kc] 31))
  clear hL hK hO
  cases hlay : layD L ⟨p0, p1, p2, q0, q1, q2, r⟩ ⟨pc, st, ops⟩ O with
  | false =>
    have HN : Hid (takenD L ⟨p0, p1, p2, q0, q1, q2, r⟩ ⟨pc, st, ops⟩ O = false) := taken_no (.inl hlay)
    go_enter Tryz.func15, Tryz.ntmps15
    go_wp2_with fail
    refine (HLY.out _ (HL.out.below HB0.out) (HK.out.below HB0.out) (HO.out.below HB0.out)).mono ?_
    rintro e x1 ⟨hbx, -, hno⟩
    obtain rfl := hno hlay
    have HW1 := hide (HB0.out.trans (hbx.mono HB0.out.size))
    clear hbx hno
    go_wp2_with fail
    go_ret
    exact ⟨ret_bool HN.out.symm, HW1.out⟩
  | true =>
    have HLAY := hide hlay
    obtain ⟨hm, hmt, hmk, hkl, hol, hord⟩ := lay_parts hlay
    obtain ⟨⟨hpc1, hpc2, hr1⟩, hrg⟩ := lay_range hlay
    obtain ⟨-, h1n, h16, hou, -, hoo, -⟩ := may_parts hm
    obtain ⟨-, -, -, -, hr2⟩ := mayT_parts hmt
    have hpc1 : 1 ≤ pc := hpc1
    have hpc2 : pc ≤ 200 := hpc2
    have hr1 : 1 ≤ r := hr1
    have hr2 : r ≤ 128 := hr2
    have HRG := hide hrg
    have HPL := hide (fun s (h : s < L.body.length) => place_range hlay h)
    have HOR := hide (fun i (h : i < L.outs.length) => out_range hoo h)
    have HED := hide (fun W (h : LoopV W (.agg #[.slice a0 L.logs.length cap0, .slice a1 L.body.length cap1, .slice a2 L.outs.length cap2]) L) => redges_any _ ⟨p0, p1, p2, q0, q1, q2, r⟩ L W h hm)
    have HEK := hide (edges_ok (t := ⟨p0, p1, p2, q0, q1, q2, r⟩) hm)
    have HELN : Hid ((edgesD L ⟨p0, p1, p2, q0, q1, q2, r⟩).length ≤ 60000) := by
      show _ ≤ _
      have := frD_len L ⟨p0, p1, p2, q0, q1, q2, r⟩ L.body.length h16
      have h2 : L.body.length * 3696 ≤ 16 * 3696 := Nat.mul_le_mul_right _ h16
      show (frD L ⟨p0, p1, p2, q0, q1, q2, r⟩ L.body.length).length ≤ 60000
      omega
    have HREST := hide (fun x W h0 h1 => rest_any x r W h0 h1 (by omega) (by omega))
    have HUSE := hide (fun s (h : s < L.body.length) rf (h2 : rf ∈ usesL (stAt L.body s)) => usesJ_ok hm h rf h2)
    have HFT : Hid (∀ s, s < L.body.length → farLen L s ≤ 3 ∧ ((farLen L s : Nat) : Int) = farD L s) := fun s hs => by
      have h1 := far_top hm s L.body.length (Nat.le_refl _)
      have h2 := far_pos L s L.body.length
      unfold farLen farD
      omega
    have HFNO := hide (fun h => taken_no (L := L) (t := ⟨p0, p1, p2, q0, q1, q2, r⟩) (K := ⟨pc, st, ops⟩) (O := O) h)
    have HFYES := hide (fun h2 h3 h4 h5 => taken_yes (L := L) (t := ⟨p0, p1, p2, q0, q1, q2, r⟩) (K := ⟨pc, st, ops⟩) (O := O) hlay h2 h3 h4 h5)
    have HKL := hide hkl
    have HOLN := hide hol
    have HORD := hide hord
    have HOPR := hide (fun k (h : k < ops.length) => op_range (K := ⟨pc, st, ops⟩) hmk h)
    have HFAR : Hid (∀ (W : World) (s : Nat), Below w.heap.size w W → Calls Tryz.prog 44 #[.agg #[.slice a0 L.logs.length cap0, .slice a1 L.body.length cap1, .slice a2 L.outs.length cap2], .int .i64 (s : Int)] W fun e w' => e = .returned (.int .i64 (farD L s)) ∧ Below W.heap.size W w') := fun W s hW => by
      have h2 := HL.out.below hW
      obtain ⟨v0, v1, v2, e, -, ⟨x1, y1, e3, f1, f2, f3⟩, -⟩ := h2
      simp only [Value.agg.injEq, Array.mk.injEq, List.cons.injEq, and_true] at e
      obtain ⟨-, e4, -⟩ := e
      rw [e3] at e4
      injection e4 with e5 e6 e7
      obtain ⟨b, off, e8, g1, g2⟩ := f3 (by omega)
      subst e5; subst e7; subst e8
      exact far_walk L _ _ b off cap1 s W f1 (by unfold maxLen at f2; omega) g1 g2
    clear hlay hm hmt hmk hkl hol hord hrg hoo
    go_enter Tryz.func15, Tryz.ntmps15
    go_wp2_with fail
    refine (HLY.out _ (HL.out.below HB0.out) (HK.out.below HB0.out) (HO.out.below HB0.out)).mono ?_
    rintro e x1 ⟨hbx, hyes, -⟩
    obtain ⟨xa, xc, rfl, hof⟩ := hyes HLAY.out
    have hb1 : Below (w.heap.size + 1 + 1 + 1) (((w.alloc (.cells #[.slice a0 L.logs.length cap0, .slice a1 L.body.length cap1, .slice a2 L.outs.length cap2] 25)).alloc (.cells #[.int .i64 p0, .int .i64 p1, .int .i64 p2, .int .i64 q0, .int .i64 q1, .int .i64 q2, .int .i64 r] 28)).alloc (.cells #[.int .i64 pc, .int .i64 st, .slice ka ops.length kc] 31)) x1 := by rw [← HS.out]; exact hbx
    have HB1 := hide hb1
    obtain ⟨⟨l0, l1, l2⟩, ⟨t0, t1, t2, t3, t4, t5, t6⟩, ⟨k0, k1, k2⟩, hz, hbw⟩ := lkbox_cells hb1
    have HW1 := hide hbw
    have HOF1 := hide hof
    clear hbx hb1 hbw hof hyes
    go_wp2_with fail
    refine (HED.out _ (HL.out.below HW1.out)).mono ?_
    rintro e x2 ⟨ev, rfl, hev, hbx⟩
    have HB2 := hide (HB1.out.trans (hbx.mono (by omega)))
    have HOF := hide (HOF1.out.below hbx)
    have HEV := hide hev
    obtain ⟨ea, ec, rfl, he1, he2, -⟩ := id hev
    unfold maxLen at he2
    clear l0 l1 l2 t0 t1 t2 t3 t4 t5 t6 k0 k1 k2 hz
    obtain ⟨⟨l0, l1, l2⟩, ⟨t0, t1, t2, t3, t4, t5, t6⟩, ⟨k0, k1, k2⟩, hz, hbw⟩ := lkbox_cells HB2.out
    have HW2 := hide hbw
    have HL2 := hide (HL.out.below hbw)
    have HK2 := hide (HK.out.below hbw)
    have HO2 := hide (HO.out.below hbw)
    obtain ⟨fb, fo, rfl, hfb, hfcell, hfl, hfm⟩ : ∃ fb fo, xa = some ⟨fb, fo, none⟩ ∧ fb < x2.heap.size ∧ (∀ i, i < L.body.length → x2.cell? ⟨fb, fo + i * 3, none⟩ = some (.int .i64 (timeJ ⟨pc, st, ops⟩ O i)) ∧ x2.cell? ⟨fb, fo + i * 3 + 1, none⟩ = some (.int .i64 (readyJ ⟨p0, p1, p2, q0, q1, q2, r⟩ ⟨pc, st, ops⟩ O i)) ∧ x2.cell? ⟨fb, fo + i * 3 + 2, none⟩ = some (.int .i64 (placeJ ⟨pc, st, ops⟩ O i))) ∧ L.body.length ≤ xc ∧ xc ≤ 9223372036854775807 := by
      obtain ⟨y1, y2, e3, f1, f2, f3⟩ := HOF.out
      injection e3 with e5 e6 e7
      obtain ⟨fb, fo, e8, g1, g2⟩ := f3 (by omega)
      exact ⟨fb, fo, by rw [e5, e8], g1, g2, by omega, by unfold maxLen at f2; omega⟩
    have HFC := hide hfcell
    clear hbx hbw hev HB1 HW1 HOF1 hfcell
    have hza : w.heap.size < x2.heap.size := by omega
    have hzb : w.heap.size + 1 < x2.heap.size := by omega
    go_wp2_with fail
    clear l0 l1 l2 t0 t1 t2 t3 t4 t5 t6 k0 k1 k2
    go_loopw [12] (fun iv wr => ∃ k : Nat, k ≤ (edgesD L ⟨p0, p1, p2, q0, q1, q2, r⟩).length ∧ iv = .int .i64 k ∧ allN (fun i => edgeJ ⟨pc, st, ops⟩ O (edAt (edgesD L ⟨p0, p1, p2, q0, q1, q2, r⟩) i)) k = true ∧ Below x2.heap.size x2 wr) (fun iv _ => (edgesD L ⟨p0, p1, p2, q0, q1, q2, r⟩).length - (intOf iv).toNat)
    case atStart => exact ⟨0, Nat.zero_le _, rfl, rfl, Below.refl _ _⟩
    case round =>
      obtain ⟨k, hk, rfl, hall, hbel⟩ := hrel
      have HA := hide hall
      have HBL := hide hbel
      obtain ⟨⟨l0, l1, l2⟩, ⟨t0, t1, t2, t3, t4, t5, t6⟩, ⟨k0, k1, k2⟩, hz2, hbw⟩ := lkbox_cells (HB2.out.trans (hbel.mono (by omega)))
      have HW := hide hbw
      have hzr := hbel.size
      have hza2 : w.heap.size < wr.heap.size := by omega
      have hzb2 : w.heap.size + 1 < wr.heap.size := by omega
      have hfbz : fb < wr.heap.size := by omega
      clear hall hbel hbw
      by_cases hkl : k < (edgesD L ⟨p0, p1, p2, q0, q1, q2, r⟩).length
      · have hki : (k : Int) < ((edgesD L ⟨p0, p1, p2, q0, q1, q2, r⟩).length : Int) := by omega
        obtain ⟨y1, y2, e3, f1, f2, f3⟩ := HEV.out.below HBL.out
        injection e3 with e5 e6 e7
        subst e5; subst e7
        obtain ⟨eb, eo, rfl, hebz, hecell⟩ := f3 (by omega)
        obtain ⟨c0, c1, c2, c3⟩ := fourE (hecell k hkl)
        obtain ⟨fr, to, bk, wt, hed, hfr, hto, -, hwt, hbk⟩ := HEK.out _ (edAt_in hkl)
        have HSTEP : Hid (allN (fun i => edgeJ ⟨pc, st, ops⟩ O (edAt (edgesD L ⟨p0, p1, p2, q0, q1, q2, r⟩) i)) (k + 1) = edgeJ ⟨pc, st, ops⟩ O (edAt (edgesD L ⟨p0, p1, p2, q0, q1, q2, r⟩) k)) := by show (allN _ k && _) = _; rw [HA.out, Bool.true_and]
        have HNO : Hid (edgeJ ⟨pc, st, ops⟩ O (edAt (edgesD L ⟨p0, p1, p2, q0, q1, q2, r⟩) k) = false → takenD L ⟨p0, p1, p2, q0, q1, q2, r⟩ ⟨pc, st, ops⟩ O = false) := fun h => HFNO.out (.inr (.inl (allN_false hkl h)))
        have HEJ : Hid (edgeJ ⟨pc, st, ops⟩ O ⟨fr, to, bk, wt⟩ = decide (timeJ ⟨pc, st, ops⟩ O fr + wt ≤ timeJ ⟨pc, st, ops⟩ O to + bk * pc)) := rfl
        rw [hed] at c0 c1 c2 c3 HSTEP HNO
        simp only at c0 c1 c2 c3
        have cf := (HFC.out fr hfr).1
        have ct := (HFC.out to hto).1
        rw [← bcell HBL.out _ _ hfb] at cf ct
        obtain ⟨rf1, rf2, -⟩ := HRG.out fr hfr
        obtain ⟨rt1, rt2, -⟩ := HRG.out to hto
        generalize timeJ ⟨pc, st, ops⟩ O fr = tf at *
        generalize timeJ ⟨pc, st, ops⟩ O to = tt at *
        have hbp1 : 0 ≤ (bk : Int) * pc := Int.mul_nonneg (by omega) (by omega)
        have hbp2 : (bk : Int) * pc ≤ 32 * 200 := Int.mul_le_mul (by omega) hpc2 (by omega) (by omega)
        obtain ⟨bp, hbp⟩ : ∃ bp, (bk : Int) * pc = bp := ⟨_, rfl⟩
        rw [hbp] at hbp1 hbp2 HEJ
        have hw0 : IntKind.i64.wrap ((bk : Int) * pc) = bp := by rw [hbp, IntKind.wrap_i64]; omega
        have hw1 : IntKind.i64.wrap (tt + bp) = tt + bp := by rw [IntKind.wrap_i64]; omega
        have hw2 : IntKind.i64.wrap (tf + (wt : Int)) = tf + (wt : Int) := by rw [IntKind.wrap_i64]; omega
        have hfri : (fr : Int) < (L.body.length : Int) := by omega
        have htoi : (to : Int) < (L.body.length : Int) := by omega
        clear hecell f3 hed e6 hbp l0 l1 l2 t0 t1 t2 t3 t4 t5 t6 k1 k2
        by_cases hlt : tt + bp < tf + (wt : Int)
        · have hltd : decide (tt + bp < tf + (wt : Int)) = true := decide_eq_true hlt
          have HN : Hid (takenD L ⟨p0, p1, p2, q0, q1, q2, r⟩ ⟨pc, st, ops⟩ O = false) := HNO.out (by rw [HEJ.out, decide_eq_false (by omega)])
          clear HNO HEJ HSTEP
          go_wp2_with fail
          go_big_quiet ((fail))
          go_wp2_with fail
          go_ret
          exact ⟨ret_bool HN.out.symm, HW.out.trans (((below_alloc1 wr _).trans (below_draws _ _ _)).mono HW.out.size)⟩
        · have hltd : decide (tt + bp < tf + (wt : Int)) = false := decide_eq_false hlt
          have HN : Hid (allN (fun i => edgeJ ⟨pc, st, ops⟩ O (edAt (edgesD L ⟨p0, p1, p2, q0, q1, q2, r⟩) i)) (k + 1) = true) := by show _ = _; rw [HSTEP.out, HEJ.out, decide_eq_true (by omega)]
          clear HNO HEJ HSTEP
          go_wp2_with fail
          go_big_quiet ((fail))
          go_wp2_with fail
          go_roundw
          case rel => exact ⟨k + 1, by omega, by go_num, HN.out, HBL.out.trans (((below_alloc1 wr _).trans (below_draws _ _ _)).mono hzr)⟩
          case measure => simp [intOf]; omega
      · have e : k = (edgesD L ⟨p0, p1, p2, q0, q1, q2, r⟩).length := by omega
        subst e
        have hki : ¬ ((edgesD L ⟨p0, p1, p2, q0, q1, q2, r⟩).length : Int) < ((edgesD L ⟨p0, p1, p2, q0, q1, q2, r⟩).length : Int) := by omega
        have HEDG : Hid (allN (fun i => edgeJ ⟨pc, st, ops⟩ O (edAt (edgesD L ⟨p0, p1, p2, q0, q1, q2, r⟩) i)) (edgesD L ⟨p0, p1, p2, q0, q1, q2, r⟩).length = true) := HA.out
        clear HA l0 l1 l2 t0 t1 t2 t3 t4 t5 t6 k0 k1 k2
        rename World => wo
        go_wp2_with fail
        obtain ⟨PF, hPF⟩ : ∃ PF, firstsJ L ⟨p0, p1, p2, q0, q1, q2, r⟩ ⟨pc, st, ops⟩ O L.body.length = PF := ⟨_, rfl⟩
        have HPFL : Hid (PF.length = posN (farLen L) L.body.length) := by show _ = _; rw [← hPF]; exact flat_len _ _ _
        have HPFE := hide hPF
        have HFA : Hid (∀ s q, s < L.body.length → q < farLen L s → nth PF (posN (farLen L) s + q) = (placeJ ⟨pc, st, ops⟩ O s - ((q : Int) + 1)) % r) := fun s q h1 h2 => by rw [← hPF]; exact flat_at (farLen L) (firstJ ⟨p0, p1, p2, q0, q1, q2, r⟩ ⟨pc, st, ops⟩ O) L.body.length s q h1 h2
        have HPB : Hid (∀ s, s ≤ L.body.length → posN (farLen L) s ≤ 3 * s) := by
          intro s
          induction s with
          | zero => exact fun _ => Nat.le_refl _
          | succ s ih =>
            intro hs
            have h1 := ih (by omega)
            have h2 := (HFT.out s (by omega)).1
            show posN (farLen L) s + farLen L s ≤ _
            omega
        have HBO := hide HBL.out
        have hzo := hzr
        obtain ⟨j0, ji, jz0, jz1, jz2⟩ := info_parts Tryz.j3
        clear hPF
        go_loopw [14, 15] (fun fv iv wr => ∃ s : Nat, s ≤ L.body.length ∧ iv = .int .i64 s ∧ ∃ fa fc, fv = .slice fa (posN (farLen L) s) fc ∧ wr.ownsRow x2.heap.size 3 1 (.slice fa (posN (farLen L) s) fc) (posN (farLen L) s) ((PF.take (posN (farLen L) s)).map (Value.int .i64)) ∧ allN (fun s => allN (useJ L ⟨p0, p1, p2, q0, q1, q2, r⟩ ⟨pc, st, ops⟩ O s) (usesL (stAt L.body s)).length) s = true ∧ allN (freshJ PF) (posN (farLen L) s) = true ∧ Below x2.heap.size x2 wr) (fun _ iv _ => L.body.length - (intOf iv).toNat)
        case atStart => exact ⟨0, Nat.zero_le _, rfl, none, 0, rfl, World.ownsRow_nil _ _ _ _, rfl, rfl, HBO.out⟩
        case round =>
          clear HBO HBL HW hzo hzr hza2 hzb2 hfbz hz2
          obtain ⟨s, hs, rfl, fa, fc, rfl, hown, huse, hfre, hbel⟩ := hrel
          have HOW := hide hown
          have HU := hide huse
          have HFR := hide hfre
          have HBL := hide hbel
          obtain ⟨⟨l0, l1, l2⟩, ⟨t0, t1, t2, t3, t4, t5, t6⟩, ⟨k0, k1, k2⟩, hz2, hbw⟩ := lkbox_cells (HB2.out.trans (hbel.mono (by omega)))
          have HW := hide hbw
          have hzr := hbel.size
          clear hown huse hfre hbel hbw
          by_cases hsl : s < L.body.length
          · have hsi : (s : Int) < (L.body.length : Int) := by omega
            obtain ⟨y1, y2, e3, f1, f2, -, f3⟩ := HO2.out.below HBL.out
            injection e3 with e5 e6 e7
            subst e5; subst e7
            unfold maxLen at f2
            obtain ⟨ob, oo, rfl, hobz, hocell⟩ := f3 (by have := HOLN.out; omega)
            have cO := hocell s (by have := HOLN.out; omega)
            have hsO : (s : Int) < (O.length : Int) := by have := HOLN.out; omega
            obtain ⟨ho1, ho2, -⟩ := ord_parts (HORD.out s hsl).1
            obtain ⟨ox, hox⟩ : ∃ ox : Nat, nth O s = (ox : Int) := ⟨(nth O s).toNat, by omega⟩
            rw [hox] at cO ho1 ho2
            have hoxo : ox < ops.length := by have := HKL.out; omega
            have hoxi : (ox : Int) < (ops.length : Int) := by omega
            obtain ⟨z1, z2, g3, u1, u2, u3⟩ := HK2.out.below HBL.out
            injection g3 with g5 g6 g7
            subst g5; subst g7
            unfold maxLen at u2
            obtain ⟨kb, ko, rfl, hkbz, hkcell⟩ := u3 (by omega)
            obtain ⟨c0, c1, c2, c3, c4, c5, c6, c7, c8, c9⟩ := ten (hkcell ox hoxo)
            obtain ⟨-, -, ⟨gs1, gs2⟩, -, -, -⟩ := HOPR.out ox hoxo
            have HOPJ : Hid (opJ ⟨pc, st, ops⟩ O s = opAt ops ox) := by show opAt ops (nth O s).toNat = _; rw [hox, Int.toNat_natCast]
            obtain ⟨b, off, rfl, hbz, hbody, hl1, hm1⟩ : ∃ b off, a1 = some ⟨b, off, none⟩ ∧ b < wr.heap.size ∧ (∀ i, i < L.body.length → ∀ j, j < 9 → wr.cell? ⟨b, off + i * 9 + j, none⟩ = (stCells (stAt L.body i))[j]?) ∧ L.body.length ≤ cap1 ∧ cap1 ≤ 9223372036854775807 := by
              obtain ⟨v0, v1, v2, e, -, ⟨x1, y1, e3, f1, f2, f3⟩, -⟩ := HL2.out.below HBL.out
              simp only [Value.agg.injEq, Array.mk.injEq, List.cons.injEq, and_true] at e
              obtain ⟨-, e4, -⟩ := e
              rw [e3] at e4
              injection e4 with e5 e6 e7
              obtain ⟨b, off, e8, g1, g2⟩ := f3 (by omega)
              refine ⟨b, off, by rw [e5, e8], g1, g2, by omega, by unfold maxLen at f2; omega⟩
            obtain ⟨b0, b1, b2, b3, b4, b5, b6, b7, b8⟩ := nine (fun j hj => hbody s hsl j hj)
            have HUS : Hid (∀ W, Calls Tryz.prog 41 #[.agg #[.int .i64 (stAt L.body s).o, .int .i64 (stAt L.body s).xa, .int .i64 (stAt L.body s).xb, .int .i64 (stAt L.body s).ya, .int .i64 (stAt L.body s).yb, .int .i64 (stAt L.body s).ar, .int .i64 (stAt L.body s).sp, .int .i64 (stAt L.body s).pl, .int .i64 (stAt L.body s).nn]] W fun e w' => ∃ v, e = .returned v ∧ RefsV w' v (usesL (stAt L.body s)) ∧ Below W.heap.size W w') := fun W => uses_any (stAt L.body s) W
            have HUSL : Hid ((usesL (stAt L.body s)).length ≤ 2) := by
              show _ ≤ _
              unfold usesL
              split
              · simp
              · split <;> simp
            have HUSE2 := hide (HUSE.out s hsl)
            have HSTEPU : Hid (allN (fun s => allN (useJ L ⟨p0, p1, p2, q0, q1, q2, r⟩ ⟨pc, st, ops⟩ O s) (usesL (stAt L.body s)).length) (s + 1) = allN (useJ L ⟨p0, p1, p2, q0, q1, q2, r⟩ ⟨pc, st, ops⟩ O s) (usesL (stAt L.body s)).length) := by show (allN _ s && _) = _; rw [HU.out, Bool.true_and]
            have HNOU : Hid (∀ i, i < (usesL (stAt L.body s)).length → useJ L ⟨p0, p1, p2, q0, q1, q2, r⟩ ⟨pc, st, ops⟩ O s i = false → takenD L ⟨p0, p1, p2, q0, q1, q2, r⟩ ⟨pc, st, ops⟩ O = false) := fun i h1 h2 => HFNO.out (.inr (.inr (.inl (allN_false hsl (allN_false h1 h2)))))
            have HUJ : Hid (∀ i, useJ L ⟨p0, p1, p2, q0, q1, q2, r⟩ ⟨pc, st, ops⟩ O s i = (decide ((if i = 1 then (opAt ops ox).b else (opAt ops ox).a) = (placeJ ⟨pc, st, ops⟩ O (refAt (usesL (stAt L.body s)) i).1.toNat - (refAt (usesL (stAt L.body s)) i).2 - (opAt ops ox).sg) % r) && keptJ L ⟨p0, p1, p2, q0, q1, q2, r⟩ ⟨pc, st, ops⟩ O (refAt (usesL (stAt L.body s)) i).1.toNat (refAt (usesL (stAt L.body s)) i).2 (timeJ ⟨pc, st, ops⟩ O s + (refAt (usesL (stAt L.body s)) i).2 * pc))) := fun i => by rw [← HOPJ.out]; rfl
            generalize usesL (stAt L.body s) = us at *
            generalize opAt ops ox = kx at *
            generalize stAt L.body s = sx at *
            obtain ⟨sl, sg, o, dd, oa1, ob1, ar, sp, pl, nn⟩ := kx
            obtain ⟨o', xa', xb', ya', yb', ar', sp', pl', nn'⟩ := sx
            dsimp only at gs1 gs2 c0 c1 c2 c3 c4 c5 c6 c7 c8 c9 b0 b1 b2 b3 b4 b5 b6 b7 b8 HUJ
            clear hocell hkcell hbody f3 u3 hox e6 g6 HOPJ
            have HSS : Hid (∀ w' : World, Below wr.heap.size wr w' → w'.cell? ⟨w.heap.size + 1 + 1, 2, none⟩ = some (.slice (some ⟨kb, ko, none⟩) ops.length kc) ∧ w'.cell? ⟨ob, oo + s, none⟩ = some (.int .i64 (ox : Int)) ∧ w'.cell? ⟨kb, ko + ox * 10, none⟩ = some (.int .i64 sl) ∧ w'.cell? ⟨kb, ko + ox * 10 + 1, none⟩ = some (.int .i64 sg) ∧ w'.cell? ⟨kb, ko + ox * 10 + 2, none⟩ = some (.int .i64 o) ∧ w'.cell? ⟨kb, ko + ox * 10 + 3, none⟩ = some (.int .i64 dd) ∧ w'.cell? ⟨kb, ko + ox * 10 + 4, none⟩ = some (.int .i64 oa1) ∧ w'.cell? ⟨kb, ko + ox * 10 + 5, none⟩ = some (.int .i64 ob1) ∧ w'.cell? ⟨kb, ko + ox * 10 + 6, none⟩ = some (.int .i64 ar) ∧ w'.cell? ⟨kb, ko + ox * 10 + 7, none⟩ = some (.int .i64 sp) ∧ w'.cell? ⟨kb, ko + ox * 10 + 8, none⟩ = some (.int .i64 pl) ∧ w'.cell? ⟨kb, ko + ox * 10 + 9, none⟩ = some (.int .i64 nn)) := by
              intro w' h
              refine ⟨?_, ?_, ?_, ?_, ?_, ?_, ?_, ?_, ?_, ?_, ?_, ?_⟩
              all_goals (rw [bcell h _ _ (by omega)]; assumption)
            go_wp2_with fail
            refine wp_region_noPanic ?_
            refine region_until 9 (fun w' => w'.cell? ⟨w.heap.size + 1 + 1, 2, none⟩ = some (.slice (some ⟨kb, ko, none⟩) ops.length kc) ∧ w'.cell? ⟨ob, oo + s, none⟩ = some (.int .i64 (ox : Int)) ∧ w'.cell? ⟨kb, ko + ox * 10, none⟩ = some (.int .i64 sl) ∧ w'.cell? ⟨kb, ko + ox * 10 + 1, none⟩ = some (.int .i64 sg) ∧ w'.cell? ⟨kb, ko + ox * 10 + 2, none⟩ = some (.int .i64 o) ∧ w'.cell? ⟨kb, ko + ox * 10 + 3, none⟩ = some (.int .i64 dd) ∧ w'.cell? ⟨kb, ko + ox * 10 + 4, none⟩ = some (.int .i64 oa1) ∧ w'.cell? ⟨kb, ko + ox * 10 + 5, none⟩ = some (.int .i64 ob1) ∧ w'.cell? ⟨kb, ko + ox * 10 + 6, none⟩ = some (.int .i64 ar) ∧ w'.cell? ⟨kb, ko + ox * 10 + 7, none⟩ = some (.int .i64 sp) ∧ w'.cell? ⟨kb, ko + ox * 10 + 8, none⟩ = some (.int .i64 pl) ∧ w'.cell? ⟨kb, ko + ox * 10 + 9, none⟩ = some (.int .i64 nn)) (by kernel_rfl) (HSS.out _ (below_drewX _ _)) (fun hHeld => ?_)
            refine utk (i := 0) rfl hHeld ?_
            try simp only [Act.put, List.setIfInBounds_toArray, List.set_cons_zero, List.set_cons_succ]
            refine utk (i := 1) rfl hHeld ?_
            try simp only [Act.put, List.setIfInBounds_toArray, List.set_cons_zero, List.set_cons_succ]
            refine utk (i := 2) rfl hHeld ?_
            try simp only [Act.put, List.setIfInBounds_toArray, List.set_cons_zero, List.set_cons_succ]
            refine utk (i := 3) rfl hHeld ?_
            try simp only [Act.put, List.setIfInBounds_toArray, List.set_cons_zero, List.set_cons_succ]
            refine utk (i := 4) rfl hHeld ?_
            try simp only [Act.put, List.setIfInBounds_toArray, List.set_cons_zero, List.set_cons_succ]
            refine utk (i := 5) rfl hHeld ?_
            try simp only [Act.put, List.setIfInBounds_toArray, List.set_cons_zero, List.set_cons_succ]
            refine utk (i := 6) rfl hHeld ?_
            try simp only [Act.put, List.setIfInBounds_toArray, List.set_cons_zero, List.set_cons_succ]
            refine utk (i := 7) rfl hHeld ?_
            try simp only [Act.put, List.setIfInBounds_toArray, List.set_cons_zero, List.set_cons_succ]
            obtain ⟨W0, hW0, hWb, hWs⟩ : ∃ W0 : World, wr.drew = W0 ∧ Below wr.heap.size wr W0 ∧ W0.heap.size = wr.heap.size := ⟨_, rfl, below_drewX _ _, rfl⟩
            have hHeld := HSS.out W0 hWb
            rw [hW0]
            have HWS := hide hWs
            clear hWs
            refine until_one (i := 8) rfl (by kernel_rfl) (fun K hK9 => ?_)
            go_simp
            have hHeld := HSS.out _ (hWb.alloc (by have := HWS.out; omega) (.cells #[.int .i64 0, .int .i64 0, .int .i64 0, .int .i64 0, .int .i64 0, .int .i64 0, .int .i64 0, .int .i64 0, .int .i64 0, .int .i64 0] 37))
            refine hK9.out _ _ (.inr hHeld) ?_
            clear hK9 K
            try simp only [Act.put, List.setIfInBounds_toArray, List.set_cons_zero, List.set_cons_succ]
            refine until_one (i := 9) rfl (by kernel_rfl) (fun K hK9 => ?_)
            go_simp
            refine hK9.out _ _ (.inl rfl) ?_
            clear hK9 K
            try simp only [Act.put, List.setIfInBounds_toArray, List.set_cons_zero, List.set_cons_succ]
            refine until_done (by kernel_rfl) ?_ _
            refine NoPanic.normal ?_
            clear hHeld HSS hW0
            have HWB := hide hWb
            have HB0x := hide (HBL.out.trans (hWb.mono hzr))
            rw [← bcell hWb _ _ hbz] at b0 b1 b2 b3 b4 b5 b6 b7 b8
            clear l0 l1 l2 t0 t1 t2 t3 t4 t5 t6 k0 k1 k2 cO c0 c1 c2 c3 c4 c5 c6 c7 c8 c9 hz2
            obtain ⟨⟨l0, l1, l2⟩, ⟨t0, t1, t2, t3, t4, t5, t6⟩, ⟨k0, k1, k2⟩, hz2, hbw0⟩ := lkbox_cells (HB2.out.trans (HB0x.out.mono (by omega)))
            have HW0 := hide hbw0
            have hwz : wr.heap.size = W0.heap.size := HWS.out.symm
            have hbz0 : b < W0.heap.size := by omega
            have hza0 : w.heap.size < W0.heap.size := by omega
            have hzb0 : w.heap.size + 1 < W0.heap.size := by omega
            have hxz0 : x2.heap.size ≤ W0.heap.size := by omega
            have HZ := hide hwz
            have HOPX : Hid (∀ y : World, Below (W0.heap.size + 1) (W0.alloc (.cells #[.int .i64 sl, .int .i64 sg, .int .i64 o, .int .i64 dd, .int .i64 oa1, .int .i64 ob1, .int .i64 ar, .int .i64 sp, .int .i64 pl, .int .i64 nn] 37)) y → y.cell? ⟨W0.heap.size, 1, none⟩ = some (.int .i64 sg) ∧ y.cell? ⟨W0.heap.size, 4, none⟩ = some (.int .i64 oa1) ∧ y.cell? ⟨W0.heap.size, 5, none⟩ = some (.int .i64 ob1) ∧ W0.heap.size < y.heap.size) := fun y h => by
              have h' : Below (W0.alloc (.cells #[.int .i64 sl, .int .i64 sg, .int .i64 o, .int .i64 dd, .int .i64 oa1, .int .i64 ob1, .int .i64 ar, .int .i64 sp, .int .i64 pl, .int .i64 nn] 37)).heap.size (W0.alloc (.cells #[.int .i64 sl, .int .i64 sg, .int .i64 o, .int .i64 dd, .int .i64 oa1, .int .i64 ob1, .int .i64 ar, .int .i64 sp, .int .i64 pl, .int .i64 nn] 37)) y := by simpa using h
              have hz := h.size
              refine ⟨?_, ?_, ?_, by simp at hz; omega⟩
              all_goals rw [bcell h' _ _ (by simp)]
              all_goals go_simp
            clear hWb hwz hbw0
            go_wp2_with fail
            refine (HUS.out _).mono ?_
            rintro e x3 ⟨uv, rfl, hU, hb3⟩
            have hb4 : Below (W0.heap.size + 1) (W0.alloc (.cells #[.int .i64 sl, .int .i64 sg, .int .i64 o, .int .i64 dd, .int .i64 oa1, .int .i64 ob1, .int .i64 ar, .int .i64 sp, .int .i64 pl, .int .i64 nn] 37)) x3 := by simpa using hb3
            have HB3 := hide hb4
            have HX3 := hide (HB0x.out.trans (((below_alloc1 W0 (.cells #[.int .i64 sl, .int .i64 sg, .int .i64 o, .int .i64 dd, .int .i64 oa1, .int .i64 ob1, .int .i64 ar, .int .i64 sp, .int .i64 pl, .int .i64 nn] 37)).trans (hb3.mono (by simp))).mono hxz0))
            have HO3 := hide (own_below HOW.out (HWB.out.trans (((below_alloc1 W0 (.cells #[.int .i64 sl, .int .i64 sg, .int .i64 o, .int .i64 dd, .int .i64 oa1, .int .i64 ob1, .int .i64 ar, .int .i64 sp, .int .i64 pl, .int .i64 nn] 37)).trans (hb3.mono (by simp))).mono (by have := HZ.out; omega))))
            have HUV := hide hU
            obtain ⟨ua, uc, rfl, hu1, hu2, -⟩ := id hU
            unfold maxLen at hu2
            clear hb3 hb4 hU b0 b1 b2 b3 b4 b5 b6 b7 b8 l0 l1 l2 t0 t1 t2 t3 t4 t5 t6 k0 k1 k2
            go_wp2_with fail
            go_loopw [18] (fun iv wr3 => ∃ i : Nat, i ≤ us.length ∧ iv = .int .i64 i ∧ allN (useJ L ⟨p0, p1, p2, q0, q1, q2, r⟩ ⟨pc, st, ops⟩ O s) i = true ∧ Below x3.heap.size x3 wr3) (fun iv _ => us.length - (intOf iv).toNat)
            case atStart => exact ⟨0, Nat.zero_le _, rfl, rfl, Below.refl _ _⟩
            case round =>
              rename World => wr3
              obtain ⟨i, hi, rfl, hall, hbel⟩ := hrel
              have HA := hide hall
              have HBL3 := hide hbel
              have hx3z := HB3.out.size
              simp at hx3z
              have HBX3 := hide (HX3.out.trans (hbel.mono (by omega)))
              obtain ⟨⟨l0, l1, l2⟩, ⟨t0, t1, t2, t3, t4, t5, t6⟩, ⟨k0, k1, k2⟩, hz3b, hbw⟩ := lkbox_cells (HB2.out.trans (HBX3.out.mono (by omega)))
              have HW3 := hide hbw
              obtain ⟨o1, o4, o5, oz⟩ := HOPX.out wr3 (HB3.out.trans (hbel.mono (by omega)))
              have hz3 := hbel.size
              clear hall hbel hbw
              by_cases hil : i < us.length
              · have hii : (i : Int) < (us.length : Int) := by omega
                obtain ⟨y1, y2, e3, f1, f2, f3⟩ := HUV.out.below HBL3.out
                injection e3 with e5 e6 e7
                subst e5; subst e7
                obtain ⟨ub, uo, rfl, hubz, hucell⟩ := f3 (by omega)
                obtain ⟨d0, d1⟩ := hucell i hil
                obtain ⟨rf1, rf2, rf3, rf4⟩ := HUSE2.out _ (refAt_mem hil)
                have HUI := hide (HUJ.out i)
                have HNO3 := hide (HNOU.out i hil)
                have HST : Hid (allN (useJ L ⟨p0, p1, p2, q0, q1, q2, r⟩ ⟨pc, st, ops⟩ O s) (i + 1) = useJ L ⟨p0, p1, p2, q0, q1, q2, r⟩ ⟨pc, st, ops⟩ O s i) := by show (allN _ i && _) = _; rw [HA.out, Bool.true_and]
                generalize refAt us i = rf at *
                obtain ⟨at0, bk⟩ := rf
                dsimp only at d0 d1 rf1 rf2 rf3 rf4 HUI
                obtain ⟨at_, rfl⟩ : ∃ at_ : Nat, at0 = (at_ : Int) := ⟨at0.toNat, by omega⟩
                rw [Int.toNat_natCast] at HUI
                have hatl : at_ < L.body.length := by omega
                have cP := (HFC.out at_ hatl).2.2
                have cT := (HFC.out s hsl).1
                rw [← bcell HBX3.out _ _ hfb] at cP cT
                have hfbz : fb < wr3.heap.size := by omega
                obtain ⟨pa1, pa2⟩ := HPL.out at_ hatl
                obtain ⟨tm1, tm2, -⟩ := HRG.out s hsl
                have HKC := hide (fun (W : World) (hW : Below wr3.heap.size wr3 W) => kept_walk L.body.length (timeJ ⟨pc, st, ops⟩ O) (readyJ ⟨p0, p1, p2, q0, q1, q2, r⟩ ⟨pc, st, ops⟩ O) (placeJ ⟨pc, st, ops⟩ O) pc r at_ bk (timeJ ⟨pc, st, ops⟩ O s + bk * pc) (some ⟨fb, fo, none⟩) xc W ((HOF.out.below HBX3.out).below hW) hatl h16 (fun m hm => by have := HRG.out m hm; omega) (fun m hm => by have := HPL.out m hm; omega) hpc1 hpc2 hr1 hr2)
                have HKJ : Hid (keptG (readyJ ⟨p0, p1, p2, q0, q1, q2, r⟩ ⟨pc, st, ops⟩ O) (placeJ ⟨pc, st, ops⟩ O) pc r L.body.length at_ bk (timeJ ⟨pc, st, ops⟩ O s + bk * pc) = keptJ L ⟨p0, p1, p2, q0, q1, q2, r⟩ ⟨pc, st, ops⟩ O at_ bk (timeJ ⟨pc, st, ops⟩ O s + bk * pc)) := rfl
                rw [HKJ.out] at HKC
                obtain ⟨pla, hpla⟩ : ∃ pla, placeJ ⟨pc, st, ops⟩ O at_ = pla := ⟨_, rfl⟩
                rw [hpla] at cP pa1 pa2 HUI
                obtain ⟨ts, hts⟩ : ∃ ts, timeJ ⟨pc, st, ops⟩ O s = ts := ⟨_, rfl⟩
                rw [hts] at cT tm1 tm2 HUI HKC
                have hbp1 : 0 ≤ bk * pc := Int.mul_nonneg rf3 (by omega)
                have hbp2 : bk * pc ≤ 3 * 200 := Int.mul_le_mul rf4 hpc2 (by omega) (by omega)
                obtain ⟨bp, hbp⟩ : ∃ bp, bk * pc = bp := ⟨_, rfl⟩
                rw [hbp] at hbp1 hbp2 HUI HKC
                obtain ⟨rr, hrr⟩ : ∃ rr, (pla - bk - sg) % r = rr := ⟨_, rfl⟩
                have HUV2 := hide HUI.out
                rw [hrr] at HUV2
                have hw0 : IntKind.i64.wrap (bk * pc) = bp := by rw [hbp, IntKind.wrap_i64]; omega
                have hw1 : IntKind.i64.wrap (ts + bp) = ts + bp := by rw [IntKind.wrap_i64]; omega
                have hw2 : IntKind.i64.wrap (pla - bk) = pla - bk := by rw [IntKind.wrap_i64]; omega
                have hw3 : IntKind.i64.wrap (pla - bk - sg) = pla - bk - sg := by rw [IntKind.wrap_i64]; omega
                have HRS : Hid (∀ W, Calls Tryz.prog 42 #[.int .i64 (pla - bk - sg), .int .i64 r] W fun e w' => e = .returned (.int .i64 rr) ∧ w' = W) := fun W => by rw [← hrr]; exact HREST.out _ W (by omega) (by omega)
                have hati : (at_ : Int) < (L.body.length : Int) := by omega
                have hza3 : w.heap.size < wr3.heap.size := by omega
                have hzb3 : w.heap.size + 1 < wr3.heap.size := by omega
                have HSS : Hid (∀ w' : World, Below wr3.heap.size wr3 w' → w'.cell? ⟨ub, uo + i * 2, none⟩ = some (.int .i64 (at_ : Int)) ∧ w'.cell? ⟨ub, uo + i * 2 + 1, none⟩ = some (.int .i64 bk) ∧ w'.cell? ⟨fb, fo + at_ * 3 + 2, none⟩ = some (.int .i64 pla) ∧ w'.cell? ⟨fb, fo + s * 3, none⟩ = some (.int .i64 ts) ∧ w'.cell? ⟨W0.heap.size, 1, none⟩ = some (.int .i64 sg) ∧ w'.cell? ⟨w.heap.size + 1, 6, none⟩ = some (.int .i64 r) ∧ w'.cell? ⟨w.heap.size + 1 + 1, 0, none⟩ = some (.int .i64 pc)) := by
                  intro w' h
                  refine ⟨?_, ?_, ?_, ?_, ?_, ?_, ?_⟩
                  all_goals (rw [bcell h _ _ (by omega)]; assumption)
                clear hucell f3 e6 hpla hts hbp hrr HUI HKJ HA
                by_cases hi1 : i = 1
                · have hib : ((i : Int) == (1 : Int)) = true := by simp [hi1]
                  rw [if_pos hi1] at HUV2
                  clear hi1
                  as_aux_lemma =>
                    by_cases hne : ob1 = rr
                    · have hnb : (ob1 != rr) = false := by simpa using hne
                      cases hkp : keptJ L ⟨p0, p1, p2, q0, q1, q2, r⟩ ⟨pc, st, ops⟩ O at_ bk (ts + bp) with
                      | true =>
                        have HT : Hid (allN (useJ L ⟨p0, p1, p2, q0, q1, q2, r⟩ ⟨pc, st, ops⟩ O s) (i + 1) = true) := by show _ = _; rw [HST.out, HUV2.out, decide_eq_true hne, hkp]; rfl
                        have HKP : Hid (∀ W, Below wr3.heap.size wr3 W → Calls Tryz.prog 43 #[.slice (some ⟨fb, fo, none⟩) L.body.length xc, .int .i64 pc, .int .i64 r, .agg #[.int .i64 (at_ : Int), .int .i64 bk], .int .i64 (ts + bp)] W fun e w' => e = .returned (.bool true) ∧ Below wr3.heap.size W w') := fun W hW => ((hkp ▸ HKC.out W hW) : Calls Tryz.prog 43 #[.slice (some ⟨fb, fo, none⟩) L.body.length xc, .int .i64 pc, .int .i64 r, .agg #[.int .i64 (at_ : Int), .int .i64 bk], .int .i64 (ts + bp)] W fun e w' => e = .returned (.bool true) ∧ Below W.heap.size W w').mono fun e w' ⟨h1, h2⟩ => ⟨h1, h2.mono hW.size⟩
                        clear hne hkp HST HUV2 HNO3
                        go_wp2_with fail
                        refine wp_region_noPanic ?_
                        refine region_until 99 (fun w' => w'.cell? ⟨ub, uo + i * 2, none⟩ = some (.int .i64 (at_ : Int)) ∧ w'.cell? ⟨ub, uo + i * 2 + 1, none⟩ = some (.int .i64 bk) ∧ w'.cell? ⟨fb, fo + at_ * 3 + 2, none⟩ = some (.int .i64 pla) ∧ w'.cell? ⟨fb, fo + s * 3, none⟩ = some (.int .i64 ts) ∧ w'.cell? ⟨W0.heap.size, 1, none⟩ = some (.int .i64 sg) ∧ w'.cell? ⟨w.heap.size + 1, 6, none⟩ = some (.int .i64 r) ∧ w'.cell? ⟨w.heap.size + 1 + 1, 0, none⟩ = some (.int .i64 pc)) (by kernel_rfl) (HSS.out _ (below_drewX _ _)) (fun hHeld => ?_)
                        refine utk (i := 0) rfl hHeld ?_
                        try simp only [Act.put, List.setIfInBounds_toArray, List.set_cons_zero, List.set_cons_succ]
                        refine utk (i := 1) rfl hHeld ?_
                        try simp only [Act.put, List.setIfInBounds_toArray, List.set_cons_zero, List.set_cons_succ]
                        refine utk (i := 2) rfl hHeld ?_
                        try simp only [Act.put, List.setIfInBounds_toArray, List.set_cons_zero, List.set_cons_succ]
                        refine utk (i := 3) rfl hHeld ?_
                        try simp only [Act.put, List.setIfInBounds_toArray, List.set_cons_zero, List.set_cons_succ]
                        refine utk (i := 4) rfl hHeld ?_
                        try simp only [Act.put, List.setIfInBounds_toArray, List.set_cons_zero, List.set_cons_succ]
                        refine utk (i := 5) rfl hHeld ?_
                        try simp only [Act.put, List.setIfInBounds_toArray, List.set_cons_zero, List.set_cons_succ]
                        refine utk (i := 6) rfl hHeld ?_
                        try simp only [Act.put, List.setIfInBounds_toArray, List.set_cons_zero, List.set_cons_succ]
                        refine utk (i := 7) rfl hHeld ?_
                        try simp only [Act.put, List.setIfInBounds_toArray, List.set_cons_zero, List.set_cons_succ]
                        refine utk (i := 8) rfl hHeld ?_
                        try simp only [Act.put, List.setIfInBounds_toArray, List.set_cons_zero, List.set_cons_succ]
                        refine utk (i := 9) rfl hHeld ?_
                        try simp only [Act.put, List.setIfInBounds_toArray, List.set_cons_zero, List.set_cons_succ]
                        refine utk (i := 10) rfl hHeld ?_
                        try simp only [Act.put, List.setIfInBounds_toArray, List.set_cons_zero, List.set_cons_succ]
                        refine utk (i := 11) rfl hHeld ?_
                        try simp only [Act.put, List.setIfInBounds_toArray, List.set_cons_zero, List.set_cons_succ]
                        refine utk (i := 12) rfl hHeld ?_
                        try simp only [Act.put, List.setIfInBounds_toArray, List.set_cons_zero, List.set_cons_succ]
                        refine utk (i := 13) rfl hHeld ?_
                        try simp only [Act.put, List.setIfInBounds_toArray, List.set_cons_zero, List.set_cons_succ]
                        refine utk (i := 14) rfl hHeld ?_
                        try simp only [Act.put, List.setIfInBounds_toArray, List.set_cons_zero, List.set_cons_succ]
                        refine utk (i := 15) rfl hHeld ?_
                        try simp only [Act.put, List.setIfInBounds_toArray, List.set_cons_zero, List.set_cons_succ]
                        refine utk (i := 16) rfl hHeld ?_
                        try simp only [Act.put, List.setIfInBounds_toArray, List.set_cons_zero, List.set_cons_succ]
                        refine utk (i := 17) rfl hHeld ?_
                        try simp only [Act.put, List.setIfInBounds_toArray, List.set_cons_zero, List.set_cons_succ]
                        refine utk (i := 18) rfl hHeld ?_
                        try simp only [Act.put, List.setIfInBounds_toArray, List.set_cons_zero, List.set_cons_succ]
                        refine utk (i := 19) rfl hHeld ?_
                        try simp only [Act.put, List.setIfInBounds_toArray, List.set_cons_zero, List.set_cons_succ]
                        refine utk (i := 20) rfl hHeld ?_
                        try simp only [Act.put, List.setIfInBounds_toArray, List.set_cons_zero, List.set_cons_succ]
                        refine until_one (i := 21) rfl (by kernel_rfl) (fun K hK9 => ?_)
                        go_simp
                        refine (HRS.out _).mono ?_
                        rintro e y2 ⟨rfl, hy2⟩
                        have hy2 := hy2.symm
                        subst hy2
                        refine hK9.out _ _ (.inr hHeld) ?_
                        clear hK9 K
                        try simp only [Act.put, List.setIfInBounds_toArray, List.set_cons_zero, List.set_cons_succ]
                        refine utk (i := 22) rfl hHeld ?_
                        try simp only [Act.put, List.setIfInBounds_toArray, List.set_cons_zero, List.set_cons_succ]
                        refine utk (i := 23) rfl hHeld ?_
                        try simp only [Act.put, List.setIfInBounds_toArray, List.set_cons_zero, List.set_cons_succ]
                        refine utk (i := 24) rfl hHeld ?_
                        try simp only [Act.put, List.setIfInBounds_toArray, List.set_cons_zero, List.set_cons_succ]
                        refine utk (i := 25) rfl hHeld ?_
                        try simp only [Act.put, List.setIfInBounds_toArray, List.set_cons_zero, List.set_cons_succ]
                        refine utk (i := 26) rfl hHeld ?_
                        try simp only [Act.put, List.setIfInBounds_toArray, List.set_cons_zero, List.set_cons_succ]
                        refine utk (i := 27) rfl hHeld ?_
                        try simp only [Act.put, List.setIfInBounds_toArray, List.set_cons_zero, List.set_cons_succ]
                        refine utk (i := 28) rfl hHeld ?_
                        try simp only [Act.put, List.setIfInBounds_toArray, List.set_cons_zero, List.set_cons_succ]
                        refine utk (i := 29) rfl hHeld ?_
                        try simp only [Act.put, List.setIfInBounds_toArray, List.set_cons_zero, List.set_cons_succ]
                        refine utk (i := 30) rfl hHeld ?_
                        try simp only [Act.put, List.setIfInBounds_toArray, List.set_cons_zero, List.set_cons_succ]
                        refine utk (i := 31) rfl hHeld ?_
                        try simp only [Act.put, List.setIfInBounds_toArray, List.set_cons_zero, List.set_cons_succ]
                        refine utk (i := 32) rfl hHeld ?_
                        try simp only [Act.put, List.setIfInBounds_toArray, List.set_cons_zero, List.set_cons_succ]
                        refine utk (i := 33) rfl hHeld ?_
                        try simp only [Act.put, List.setIfInBounds_toArray, List.set_cons_zero, List.set_cons_succ]
                        refine utk (i := 34) rfl hHeld ?_
                        try simp only [Act.put, List.setIfInBounds_toArray, List.set_cons_zero, List.set_cons_succ]
                        refine utk (i := 35) rfl hHeld ?_
                        try simp only [Act.put, List.setIfInBounds_toArray, List.set_cons_zero, List.set_cons_succ]
                        refine utk (i := 36) rfl hHeld ?_
                        try simp only [Act.put, List.setIfInBounds_toArray, List.set_cons_zero, List.set_cons_succ]
                        refine utk (i := 37) rfl hHeld ?_
                        try simp only [Act.put, List.setIfInBounds_toArray, List.set_cons_zero, List.set_cons_succ]
                        refine utk (i := 38) rfl hHeld ?_
                        try simp only [Act.put, List.setIfInBounds_toArray, List.set_cons_zero, List.set_cons_succ]
                        refine utk (i := 39) rfl hHeld ?_
                        try simp only [Act.put, List.setIfInBounds_toArray, List.set_cons_zero, List.set_cons_succ]
                        refine utk (i := 40) rfl hHeld ?_
                        try simp only [Act.put, List.setIfInBounds_toArray, List.set_cons_zero, List.set_cons_succ]
                        refine utk (i := 41) rfl hHeld ?_
                        try simp only [Act.put, List.setIfInBounds_toArray, List.set_cons_zero, List.set_cons_succ]
                        refine utk (i := 42) rfl hHeld ?_
                        try simp only [Act.put, List.setIfInBounds_toArray, List.set_cons_zero, List.set_cons_succ]
                        refine utk (i := 43) rfl hHeld ?_
                        try simp only [Act.put, List.setIfInBounds_toArray, List.set_cons_zero, List.set_cons_succ]
                        refine utk (i := 44) rfl hHeld ?_
                        try simp only [Act.put, List.setIfInBounds_toArray, List.set_cons_zero, List.set_cons_succ]
                        refine utk (i := 45) rfl hHeld ?_
                        try simp only [Act.put, List.setIfInBounds_toArray, List.set_cons_zero, List.set_cons_succ]
                        refine utk (i := 46) rfl hHeld ?_
                        try simp only [Act.put, List.setIfInBounds_toArray, List.set_cons_zero, List.set_cons_succ]
                        refine until_one (i := 47) rfl (by kernel_rfl) (fun K hK9 => ?_)
                        go_simp
                        refine (HKP.out _ (below_drewX _ _)).mono ?_
                        rintro e y3 ⟨rfl, hy3⟩
                        have HY3 := hide ((below_drewX wr3.heap.size wr3).trans hy3)
                        have hHeld := HSS.out _ HY3.out
                        clear hy3
                        refine hK9.out _ _ (.inr hHeld) ?_
                        clear hK9 K
                        try simp only [Act.put, List.setIfInBounds_toArray, List.set_cons_zero, List.set_cons_succ]
                        refine utk (i := 48) rfl hHeld ?_
                        try simp only [Act.put, List.setIfInBounds_toArray, List.set_cons_zero, List.set_cons_succ]
                        refine utk (i := 49) rfl hHeld ?_
                        try simp only [Act.put, List.setIfInBounds_toArray, List.set_cons_zero, List.set_cons_succ]
                        refine until_done (by kernel_rfl) ?_ _
                        refine NoPanic.normal ?_
                        clear hHeld
                        go_wp2_with fail
                        go_roundw
                        case rel => exact ⟨i + 1, by omega, by go_num, HT.out, HBL3.out.trans (HY3.out.mono hz3)⟩
                        case measure => simp [intOf]; omega
                      | false =>
                        have HN : Hid (takenD L ⟨p0, p1, p2, q0, q1, q2, r⟩ ⟨pc, st, ops⟩ O = false) := HNO3.out (by rw [HUV2.out, hkp]; simp)
                        have HKP : Hid (∀ W, Below wr3.heap.size wr3 W → Calls Tryz.prog 43 #[.slice (some ⟨fb, fo, none⟩) L.body.length xc, .int .i64 pc, .int .i64 r, .agg #[.int .i64 (at_ : Int), .int .i64 bk], .int .i64 (ts + bp)] W fun e w' => e = .returned (.bool false) ∧ Below wr3.heap.size W w') := fun W hW => ((hkp ▸ HKC.out W hW) : Calls Tryz.prog 43 #[.slice (some ⟨fb, fo, none⟩) L.body.length xc, .int .i64 pc, .int .i64 r, .agg #[.int .i64 (at_ : Int), .int .i64 bk], .int .i64 (ts + bp)] W fun e w' => e = .returned (.bool false) ∧ Below W.heap.size W w').mono fun e w' ⟨h1, h2⟩ => ⟨h1, h2.mono hW.size⟩
                        clear hne hkp HST HUV2 HNO3
                        go_wp2_with fail
                        refine wp_region_noPanic ?_
                        refine region_until 99 (fun w' => w'.cell? ⟨ub, uo + i * 2, none⟩ = some (.int .i64 (at_ : Int)) ∧ w'.cell? ⟨ub, uo + i * 2 + 1, none⟩ = some (.int .i64 bk) ∧ w'.cell? ⟨fb, fo + at_ * 3 + 2, none⟩ = some (.int .i64 pla) ∧ w'.cell? ⟨fb, fo + s * 3, none⟩ = some (.int .i64 ts) ∧ w'.cell? ⟨W0.heap.size, 1, none⟩ = some (.int .i64 sg) ∧ w'.cell? ⟨w.heap.size + 1, 6, none⟩ = some (.int .i64 r) ∧ w'.cell? ⟨w.heap.size + 1 + 1, 0, none⟩ = some (.int .i64 pc)) (by kernel_rfl) (HSS.out _ (below_drewX _ _)) (fun hHeld => ?_)
                        refine utk (i := 0) rfl hHeld ?_
                        try simp only [Act.put, List.setIfInBounds_toArray, List.set_cons_zero, List.set_cons_succ]
                        refine utk (i := 1) rfl hHeld ?_
                        try simp only [Act.put, List.setIfInBounds_toArray, List.set_cons_zero, List.set_cons_succ]
                        refine utk (i := 2) rfl hHeld ?_
                        try simp only [Act.put, List.setIfInBounds_toArray, List.set_cons_zero, List.set_cons_succ]
                        refine utk (i := 3) rfl hHeld ?_
                        try simp only [Act.put, List.setIfInBounds_toArray, List.set_cons_zero, List.set_cons_succ]
                        refine utk (i := 4) rfl hHeld ?_
                        try simp only [Act.put, List.setIfInBounds_toArray, List.set_cons_zero, List.set_cons_succ]
                        refine utk (i := 5) rfl hHeld ?_
                        try simp only [Act.put, List.setIfInBounds_toArray, List.set_cons_zero, List.set_cons_succ]
                        refine utk (i := 6) rfl hHeld ?_
                        try simp only [Act.put, List.setIfInBounds_toArray, List.set_cons_zero, List.set_cons_succ]
                        refine utk (i := 7) rfl hHeld ?_
                        try simp only [Act.put, List.setIfInBounds_toArray, List.set_cons_zero, List.set_cons_succ]
                        refine utk (i := 8) rfl hHeld ?_
                        try simp only [Act.put, List.setIfInBounds_toArray, List.set_cons_zero, List.set_cons_succ]
                        refine utk (i := 9) rfl hHeld ?_
                        try simp only [Act.put, List.setIfInBounds_toArray, List.set_cons_zero, List.set_cons_succ]
                        refine utk (i := 10) rfl hHeld ?_
                        try simp only [Act.put, List.setIfInBounds_toArray, List.set_cons_zero, List.set_cons_succ]
                        refine utk (i := 11) rfl hHeld ?_
                        try simp only [Act.put, List.setIfInBounds_toArray, List.set_cons_zero, List.set_cons_succ]
                        refine utk (i := 12) rfl hHeld ?_
                        try simp only [Act.put, List.setIfInBounds_toArray, List.set_cons_zero, List.set_cons_succ]
                        refine utk (i := 13) rfl hHeld ?_
                        try simp only [Act.put, List.setIfInBounds_toArray, List.set_cons_zero, List.set_cons_succ]
                        refine utk (i := 14) rfl hHeld ?_
                        try simp only [Act.put, List.setIfInBounds_toArray, List.set_cons_zero, List.set_cons_succ]
                        refine utk (i := 15) rfl hHeld ?_
                        try simp only [Act.put, List.setIfInBounds_toArray, List.set_cons_zero, List.set_cons_succ]
                        refine utk (i := 16) rfl hHeld ?_
                        try simp only [Act.put, List.setIfInBounds_toArray, List.set_cons_zero, List.set_cons_succ]
                        refine utk (i := 17) rfl hHeld ?_
                        try simp only [Act.put, List.setIfInBounds_toArray, List.set_cons_zero, List.set_cons_succ]
                        refine utk (i := 18) rfl hHeld ?_
                        try simp only [Act.put, List.setIfInBounds_toArray, List.set_cons_zero, List.set_cons_succ]
                        refine utk (i := 19) rfl hHeld ?_
                        try simp only [Act.put, List.setIfInBounds_toArray, List.set_cons_zero, List.set_cons_succ]
                        refine utk (i := 20) rfl hHeld ?_
                        try simp only [Act.put, List.setIfInBounds_toArray, List.set_cons_zero, List.set_cons_succ]
                        refine until_one (i := 21) rfl (by kernel_rfl) (fun K hK9 => ?_)
                        go_simp
                        refine (HRS.out _).mono ?_
                        rintro e y2 ⟨rfl, hy2⟩
                        have hy2 := hy2.symm
                        subst hy2
                        refine hK9.out _ _ (.inr hHeld) ?_
                        clear hK9 K
                        try simp only [Act.put, List.setIfInBounds_toArray, List.set_cons_zero, List.set_cons_succ]
                        refine utk (i := 22) rfl hHeld ?_
                        try simp only [Act.put, List.setIfInBounds_toArray, List.set_cons_zero, List.set_cons_succ]
                        refine utk (i := 23) rfl hHeld ?_
                        try simp only [Act.put, List.setIfInBounds_toArray, List.set_cons_zero, List.set_cons_succ]
                        refine utk (i := 24) rfl hHeld ?_
                        try simp only [Act.put, List.setIfInBounds_toArray, List.set_cons_zero, List.set_cons_succ]
                        refine utk (i := 25) rfl hHeld ?_
                        try simp only [Act.put, List.setIfInBounds_toArray, List.set_cons_zero, List.set_cons_succ]
                        refine utk (i := 26) rfl hHeld ?_
                        try simp only [Act.put, List.setIfInBounds_toArray, List.set_cons_zero, List.set_cons_succ]
                        refine utk (i := 27) rfl hHeld ?_
                        try simp only [Act.put, List.setIfInBounds_toArray, List.set_cons_zero, List.set_cons_succ]
                        refine utk (i := 28) rfl hHeld ?_
                        try simp only [Act.put, List.setIfInBounds_toArray, List.set_cons_zero, List.set_cons_succ]
                        refine utk (i := 29) rfl hHeld ?_
                        try simp only [Act.put, List.setIfInBounds_toArray, List.set_cons_zero, List.set_cons_succ]
                        refine utk (i := 30) rfl hHeld ?_
                        try simp only [Act.put, List.setIfInBounds_toArray, List.set_cons_zero, List.set_cons_succ]
                        refine utk (i := 31) rfl hHeld ?_
                        try simp only [Act.put, List.setIfInBounds_toArray, List.set_cons_zero, List.set_cons_succ]
                        refine utk (i := 32) rfl hHeld ?_
                        try simp only [Act.put, List.setIfInBounds_toArray, List.set_cons_zero, List.set_cons_succ]
                        refine utk (i := 33) rfl hHeld ?_
                        try simp only [Act.put, List.setIfInBounds_toArray, List.set_cons_zero, List.set_cons_succ]
                        refine utk (i := 34) rfl hHeld ?_
                        try simp only [Act.put, List.setIfInBounds_toArray, List.set_cons_zero, List.set_cons_succ]
                        refine utk (i := 35) rfl hHeld ?_
                        try simp only [Act.put, List.setIfInBounds_toArray, List.set_cons_zero, List.set_cons_succ]
                        refine utk (i := 36) rfl hHeld ?_
                        try simp only [Act.put, List.setIfInBounds_toArray, List.set_cons_zero, List.set_cons_succ]
                        refine utk (i := 37) rfl hHeld ?_
                        try simp only [Act.put, List.setIfInBounds_toArray, List.set_cons_zero, List.set_cons_succ]
                        refine utk (i := 38) rfl hHeld ?_
                        try simp only [Act.put, List.setIfInBounds_toArray, List.set_cons_zero, List.set_cons_succ]
                        refine utk (i := 39) rfl hHeld ?_
                        try simp only [Act.put, List.setIfInBounds_toArray, List.set_cons_zero, List.set_cons_succ]
                        refine utk (i := 40) rfl hHeld ?_
                        try simp only [Act.put, List.setIfInBounds_toArray, List.set_cons_zero, List.set_cons_succ]
                        refine utk (i := 41) rfl hHeld ?_
                        try simp only [Act.put, List.setIfInBounds_toArray, List.set_cons_zero, List.set_cons_succ]
                        refine utk (i := 42) rfl hHeld ?_
                        try simp only [Act.put, List.setIfInBounds_toArray, List.set_cons_zero, List.set_cons_succ]
                        refine utk (i := 43) rfl hHeld ?_
                        try simp only [Act.put, List.setIfInBounds_toArray, List.set_cons_zero, List.set_cons_succ]
                        refine utk (i := 44) rfl hHeld ?_
                        try simp only [Act.put, List.setIfInBounds_toArray, List.set_cons_zero, List.set_cons_succ]
                        refine utk (i := 45) rfl hHeld ?_
                        try simp only [Act.put, List.setIfInBounds_toArray, List.set_cons_zero, List.set_cons_succ]
                        refine utk (i := 46) rfl hHeld ?_
                        try simp only [Act.put, List.setIfInBounds_toArray, List.set_cons_zero, List.set_cons_succ]
                        refine until_one (i := 47) rfl (by kernel_rfl) (fun K hK9 => ?_)
                        go_simp
                        refine (HKP.out _ (below_drewX _ _)).mono ?_
                        rintro e y3 ⟨rfl, hy3⟩
                        have HY3 := hide ((below_drewX wr3.heap.size wr3).trans hy3)
                        have hHeld := HSS.out _ HY3.out
                        clear hy3
                        refine hK9.out _ _ (.inr hHeld) ?_
                        clear hK9 K
                        try simp only [Act.put, List.setIfInBounds_toArray, List.set_cons_zero, List.set_cons_succ]
                        refine utk (i := 48) rfl hHeld ?_
                        try simp only [Act.put, List.setIfInBounds_toArray, List.set_cons_zero, List.set_cons_succ]
                        refine utk (i := 49) rfl hHeld ?_
                        try simp only [Act.put, List.setIfInBounds_toArray, List.set_cons_zero, List.set_cons_succ]
                        refine until_done (by kernel_rfl) ?_ _
                        refine NoPanic.normal ?_
                        clear hHeld
                        go_wp2_with fail
                        go_ret
                        exact ⟨ret_bool HN.out.symm, HW3.out.trans (HY3.out.mono HW3.out.size)⟩
                    · have hnb : (ob1 != rr) = true := by simpa using hne
                      have HN : Hid (takenD L ⟨p0, p1, p2, q0, q1, q2, r⟩ ⟨pc, st, ops⟩ O = false) := HNO3.out (by rw [HUV2.out, decide_eq_false hne]; rfl)
                      clear hne HST HUV2 HNO3 HKC
                      go_wp2_with fail
                      go_big_quiet ((go_at_call 42; exact Calls.quiet_of_same (HRS.out _)))
                      go_wp2_with fail
                      go_ret
                      exact ⟨ret_bool HN.out.symm, HW3.out.trans (below_draws _ _ _)⟩
                · have hib : ((i : Int) == (1 : Int)) = false := by simp; omega
                  rw [if_neg hi1] at HUV2
                  clear hi1
                  as_aux_lemma =>
                    by_cases hne : oa1 = rr
                    · have hnb : (oa1 != rr) = false := by simpa using hne
                      cases hkp : keptJ L ⟨p0, p1, p2, q0, q1, q2, r⟩ ⟨pc, st, ops⟩ O at_ bk (ts + bp) with
                      | true =>
                        have HT : Hid (allN (useJ L ⟨p0, p1, p2, q0, q1, q2, r⟩ ⟨pc, st, ops⟩ O s) (i + 1) = true) := by show _ = _; rw [HST.out, HUV2.out, decide_eq_true hne, hkp]; rfl
                        have HKP : Hid (∀ W, Below wr3.heap.size wr3 W → Calls Tryz.prog 43 #[.slice (some ⟨fb, fo, none⟩) L.body.length xc, .int .i64 pc, .int .i64 r, .agg #[.int .i64 (at_ : Int), .int .i64 bk], .int .i64 (ts + bp)] W fun e w' => e = .returned (.bool true) ∧ Below wr3.heap.size W w') := fun W hW => ((hkp ▸ HKC.out W hW) : Calls Tryz.prog 43 #[.slice (some ⟨fb, fo, none⟩) L.body.length xc, .int .i64 pc, .int .i64 r, .agg #[.int .i64 (at_ : Int), .int .i64 bk], .int .i64 (ts + bp)] W fun e w' => e = .returned (.bool true) ∧ Below W.heap.size W w').mono fun e w' ⟨h1, h2⟩ => ⟨h1, h2.mono hW.size⟩
                        clear hne hkp HST HUV2 HNO3
                        go_wp2_with fail
                        refine wp_region_noPanic ?_
                        refine region_until 99 (fun w' => w'.cell? ⟨ub, uo + i * 2, none⟩ = some (.int .i64 (at_ : Int)) ∧ w'.cell? ⟨ub, uo + i * 2 + 1, none⟩ = some (.int .i64 bk) ∧ w'.cell? ⟨fb, fo + at_ * 3 + 2, none⟩ = some (.int .i64 pla) ∧ w'.cell? ⟨fb, fo + s * 3, none⟩ = some (.int .i64 ts) ∧ w'.cell? ⟨W0.heap.size, 1, none⟩ = some (.int .i64 sg) ∧ w'.cell? ⟨w.heap.size + 1, 6, none⟩ = some (.int .i64 r) ∧ w'.cell? ⟨w.heap.size + 1 + 1, 0, none⟩ = some (.int .i64 pc)) (by kernel_rfl) (HSS.out _ (below_drewX _ _)) (fun hHeld => ?_)
                        refine utk (i := 0) rfl hHeld ?_
                        try simp only [Act.put, List.setIfInBounds_toArray, List.set_cons_zero, List.set_cons_succ]
                        refine utk (i := 1) rfl hHeld ?_
                        try simp only [Act.put, List.setIfInBounds_toArray, List.set_cons_zero, List.set_cons_succ]
                        refine utk (i := 2) rfl hHeld ?_
                        try simp only [Act.put, List.setIfInBounds_toArray, List.set_cons_zero, List.set_cons_succ]
                        refine utk (i := 3) rfl hHeld ?_
                        try simp only [Act.put, List.setIfInBounds_toArray, List.set_cons_zero, List.set_cons_succ]
                        refine utk (i := 4) rfl hHeld ?_
                        try simp only [Act.put, List.setIfInBounds_toArray, List.set_cons_zero, List.set_cons_succ]
                        refine utk (i := 5) rfl hHeld ?_
                        try simp only [Act.put, List.setIfInBounds_toArray, List.set_cons_zero, List.set_cons_succ]
                        refine utk (i := 6) rfl hHeld ?_
                        try simp only [Act.put, List.setIfInBounds_toArray, List.set_cons_zero, List.set_cons_succ]
                        refine utk (i := 7) rfl hHeld ?_
                        try simp only [Act.put, List.setIfInBounds_toArray, List.set_cons_zero, List.set_cons_succ]
                        refine utk (i := 8) rfl hHeld ?_
                        try simp only [Act.put, List.setIfInBounds_toArray, List.set_cons_zero, List.set_cons_succ]
                        refine utk (i := 9) rfl hHeld ?_
                        try simp only [Act.put, List.setIfInBounds_toArray, List.set_cons_zero, List.set_cons_succ]
                        refine utk (i := 10) rfl hHeld ?_
                        try simp only [Act.put, List.setIfInBounds_toArray, List.set_cons_zero, List.set_cons_succ]
                        refine utk (i := 11) rfl hHeld ?_
                        try simp only [Act.put, List.setIfInBounds_toArray, List.set_cons_zero, List.set_cons_succ]
                        refine utk (i := 12) rfl hHeld ?_
                        try simp only [Act.put, List.setIfInBounds_toArray, List.set_cons_zero, List.set_cons_succ]
                        refine utk (i := 13) rfl hHeld ?_
                        try simp only [Act.put, List.setIfInBounds_toArray, List.set_cons_zero, List.set_cons_succ]
                        refine utk (i := 14) rfl hHeld ?_
                        try simp only [Act.put, List.setIfInBounds_toArray, List.set_cons_zero, List.set_cons_succ]
                        refine utk (i := 15) rfl hHeld ?_
                        try simp only [Act.put, List.setIfInBounds_toArray, List.set_cons_zero, List.set_cons_succ]
                        refine utk (i := 16) rfl hHeld ?_
                        try simp only [Act.put, List.setIfInBounds_toArray, List.set_cons_zero, List.set_cons_succ]
                        refine utk (i := 17) rfl hHeld ?_
                        try simp only [Act.put, List.setIfInBounds_toArray, List.set_cons_zero, List.set_cons_succ]
                        refine utk (i := 18) rfl hHeld ?_
                        try simp only [Act.put, List.setIfInBounds_toArray, List.set_cons_zero, List.set_cons_succ]
                        refine utk (i := 19) rfl hHeld ?_
                        try simp only [Act.put, List.setIfInBounds_toArray, List.set_cons_zero, List.set_cons_succ]
                        refine utk (i := 20) rfl hHeld ?_
                        try simp only [Act.put, List.setIfInBounds_toArray, List.set_cons_zero, List.set_cons_succ]
                        refine until_one (i := 21) rfl (by kernel_rfl) (fun K hK9 => ?_)
                        go_simp
                        refine (HRS.out _).mono ?_
                        rintro e y2 ⟨rfl, hy2⟩
                        have hy2 := hy2.symm
                        subst hy2
                        refine hK9.out _ _ (.inr hHeld) ?_
                        clear hK9 K
                        try simp only [Act.put, List.setIfInBounds_toArray, List.set_cons_zero, List.set_cons_succ]
                        refine utk (i := 22) rfl hHeld ?_
                        try simp only [Act.put, List.setIfInBounds_toArray, List.set_cons_zero, List.set_cons_succ]
                        refine utk (i := 23) rfl hHeld ?_
                        try simp only [Act.put, List.setIfInBounds_toArray, List.set_cons_zero, List.set_cons_succ]
                        refine utk (i := 24) rfl hHeld ?_
                        try simp only [Act.put, List.setIfInBounds_toArray, List.set_cons_zero, List.set_cons_succ]
                        refine utk (i := 25) rfl hHeld ?_
                        try simp only [Act.put, List.setIfInBounds_toArray, List.set_cons_zero, List.set_cons_succ]
                        refine utk (i := 26) rfl hHeld ?_
                        try simp only [Act.put, List.setIfInBounds_toArray, List.set_cons_zero, List.set_cons_succ]
                        refine utk (i := 27) rfl hHeld ?_
                        try simp only [Act.put, List.setIfInBounds_toArray, List.set_cons_zero, List.set_cons_succ]
                        refine utk (i := 28) rfl hHeld ?_
                        try simp only [Act.put, List.setIfInBounds_toArray, List.set_cons_zero, List.set_cons_succ]
                        refine utk (i := 29) rfl hHeld ?_
                        try simp only [Act.put, List.setIfInBounds_toArray, List.set_cons_zero, List.set_cons_succ]
                        refine utk (i := 30) rfl hHeld ?_
                        try simp only [Act.put, List.setIfInBounds_toArray, List.set_cons_zero, List.set_cons_succ]
                        refine utk (i := 31) rfl hHeld ?_
                        try simp only [Act.put, List.setIfInBounds_toArray, List.set_cons_zero, List.set_cons_succ]
                        refine utk (i := 32) rfl hHeld ?_
                        try simp only [Act.put, List.setIfInBounds_toArray, List.set_cons_zero, List.set_cons_succ]
                        refine utk (i := 33) rfl hHeld ?_
                        try simp only [Act.put, List.setIfInBounds_toArray, List.set_cons_zero, List.set_cons_succ]
                        refine utk (i := 34) rfl hHeld ?_
                        try simp only [Act.put, List.setIfInBounds_toArray, List.set_cons_zero, List.set_cons_succ]
                        refine utk (i := 35) rfl hHeld ?_
                        try simp only [Act.put, List.setIfInBounds_toArray, List.set_cons_zero, List.set_cons_succ]
                        refine utk (i := 36) rfl hHeld ?_
                        try simp only [Act.put, List.setIfInBounds_toArray, List.set_cons_zero, List.set_cons_succ]
                        refine utk (i := 37) rfl hHeld ?_
                        try simp only [Act.put, List.setIfInBounds_toArray, List.set_cons_zero, List.set_cons_succ]
                        refine utk (i := 38) rfl hHeld ?_
                        try simp only [Act.put, List.setIfInBounds_toArray, List.set_cons_zero, List.set_cons_succ]
                        refine utk (i := 39) rfl hHeld ?_
                        try simp only [Act.put, List.setIfInBounds_toArray, List.set_cons_zero, List.set_cons_succ]
                        refine utk (i := 40) rfl hHeld ?_
                        try simp only [Act.put, List.setIfInBounds_toArray, List.set_cons_zero, List.set_cons_succ]
                        refine utk (i := 41) rfl hHeld ?_
                        try simp only [Act.put, List.setIfInBounds_toArray, List.set_cons_zero, List.set_cons_succ]
                        refine utk (i := 42) rfl hHeld ?_
                        try simp only [Act.put, List.setIfInBounds_toArray, List.set_cons_zero, List.set_cons_succ]
                        refine utk (i := 43) rfl hHeld ?_
                        try simp only [Act.put, List.setIfInBounds_toArray, List.set_cons_zero, List.set_cons_succ]
                        refine utk (i := 44) rfl hHeld ?_
                        try simp only [Act.put, List.setIfInBounds_toArray, List.set_cons_zero, List.set_cons_succ]
                        refine utk (i := 45) rfl hHeld ?_
                        try simp only [Act.put, List.setIfInBounds_toArray, List.set_cons_zero, List.set_cons_succ]
                        refine utk (i := 46) rfl hHeld ?_
                        try simp only [Act.put, List.setIfInBounds_toArray, List.set_cons_zero, List.set_cons_succ]
                        refine until_one (i := 47) rfl (by kernel_rfl) (fun K hK9 => ?_)
                        go_simp
                        refine (HKP.out _ (below_drewX _ _)).mono ?_
                        rintro e y3 ⟨rfl, hy3⟩
                        have HY3 := hide ((below_drewX wr3.heap.size wr3).trans hy3)
                        have hHeld := HSS.out _ HY3.out
                        clear hy3
                        refine hK9.out _ _ (.inr hHeld) ?_
                        clear hK9 K
                        try simp only [Act.put, List.setIfInBounds_toArray, List.set_cons_zero, List.set_cons_succ]
                        refine utk (i := 48) rfl hHeld ?_
                        try simp only [Act.put, List.setIfInBounds_toArray, List.set_cons_zero, List.set_cons_succ]
                        refine utk (i := 49) rfl hHeld ?_
                        try simp only [Act.put, List.setIfInBounds_toArray, List.set_cons_zero, List.set_cons_succ]
                        refine until_done (by kernel_rfl) ?_ _
                        refine NoPanic.normal ?_
                        clear hHeld
                        go_wp2_with fail
                        go_roundw
                        case rel => exact ⟨i + 1, by omega, by go_num, HT.out, HBL3.out.trans (HY3.out.mono hz3)⟩
                        case measure => simp [intOf]; omega
                      | false =>
                        have HN : Hid (takenD L ⟨p0, p1, p2, q0, q1, q2, r⟩ ⟨pc, st, ops⟩ O = false) := HNO3.out (by rw [HUV2.out, hkp]; simp)
                        have HKP : Hid (∀ W, Below wr3.heap.size wr3 W → Calls Tryz.prog 43 #[.slice (some ⟨fb, fo, none⟩) L.body.length xc, .int .i64 pc, .int .i64 r, .agg #[.int .i64 (at_ : Int), .int .i64 bk], .int .i64 (ts + bp)] W fun e w' => e = .returned (.bool false) ∧ Below wr3.heap.size W w') := fun W hW => ((hkp ▸ HKC.out W hW) : Calls Tryz.prog 43 #[.slice (some ⟨fb, fo, none⟩) L.body.length xc, .int .i64 pc, .int .i64 r, .agg #[.int .i64 (at_ : Int), .int .i64 bk], .int .i64 (ts + bp)] W fun e w' => e = .returned (.bool false) ∧ Below W.heap.size W w').mono fun e w' ⟨h1, h2⟩ => ⟨h1, h2.mono hW.size⟩
                        clear hne hkp HST HUV2 HNO3
                        go_wp2_with fail
                        refine wp_region_noPanic ?_
                        refine region_until 99 (fun w' => w'.cell? ⟨ub, uo + i * 2, none⟩ = some (.int .i64 (at_ : Int)) ∧ w'.cell? ⟨ub, uo + i * 2 + 1, none⟩ = some (.int .i64 bk) ∧ w'.cell? ⟨fb, fo + at_ * 3 + 2, none⟩ = some (.int .i64 pla) ∧ w'.cell? ⟨fb, fo + s * 3, none⟩ = some (.int .i64 ts) ∧ w'.cell? ⟨W0.heap.size, 1, none⟩ = some (.int .i64 sg) ∧ w'.cell? ⟨w.heap.size + 1, 6, none⟩ = some (.int .i64 r) ∧ w'.cell? ⟨w.heap.size + 1 + 1, 0, none⟩ = some (.int .i64 pc)) (by kernel_rfl) (HSS.out _ (below_drewX _ _)) (fun hHeld => ?_)
                        refine utk (i := 0) rfl hHeld ?_
                        try simp only [Act.put, List.setIfInBounds_toArray, List.set_cons_zero, List.set_cons_succ]
                        refine utk (i := 1) rfl hHeld ?_
                        try simp only [Act.put, List.setIfInBounds_toArray, List.set_cons_zero, List.set_cons_succ]
                        refine utk (i := 2) rfl hHeld ?_
                        try simp only [Act.put, List.setIfInBounds_toArray, List.set_cons_zero, List.set_cons_succ]
                        refine utk (i := 3) rfl hHeld ?_
                        try simp only [Act.put, List.setIfInBounds_toArray, List.set_cons_zero, List.set_cons_succ]
                        refine utk (i := 4) rfl hHeld ?_
                        try simp only [Act.put, List.setIfInBounds_toArray, List.set_cons_zero, List.set_cons_succ]
                        refine utk (i := 5) rfl hHeld ?_
                        try simp only [Act.put, List.setIfInBounds_toArray, List.set_cons_zero, List.set_cons_succ]
                        refine utk (i := 6) rfl hHeld ?_
                        try simp only [Act.put, List.setIfInBounds_toArray, List.set_cons_zero, List.set_cons_succ]
                        refine utk (i := 7) rfl hHeld ?_
                        try simp only [Act.put, List.setIfInBounds_toArray, List.set_cons_zero, List.set_cons_succ]
                        refine utk (i := 8) rfl hHeld ?_
                        try simp only [Act.put, List.setIfInBounds_toArray, List.set_cons_zero, List.set_cons_succ]
                        refine utk (i := 9) rfl hHeld ?_
                        try simp only [Act.put, List.setIfInBounds_toArray, List.set_cons_zero, List.set_cons_succ]
                        refine utk (i := 10) rfl hHeld ?_
                        try simp only [Act.put, List.setIfInBounds_toArray, List.set_cons_zero, List.set_cons_succ]
                        refine utk (i := 11) rfl hHeld ?_
                        try simp only [Act.put, List.setIfInBounds_toArray, List.set_cons_zero, List.set_cons_succ]
                        refine utk (i := 12) rfl hHeld ?_
                        try simp only [Act.put, List.setIfInBounds_toArray, List.set_cons_zero, List.set_cons_succ]
                        refine utk (i := 13) rfl hHeld ?_
                        try simp only [Act.put, List.setIfInBounds_toArray, List.set_cons_zero, List.set_cons_succ]
                        refine utk (i := 14) rfl hHeld ?_
                        try simp only [Act.put, List.setIfInBounds_toArray, List.set_cons_zero, List.set_cons_succ]
                        refine utk (i := 15) rfl hHeld ?_
                        try simp only [Act.put, List.setIfInBounds_toArray, List.set_cons_zero, List.set_cons_succ]
                        refine utk (i := 16) rfl hHeld ?_
                        try simp only [Act.put, List.setIfInBounds_toArray, List.set_cons_zero, List.set_cons_succ]
                        refine utk (i := 17) rfl hHeld ?_
                        try simp only [Act.put, List.setIfInBounds_toArray, List.set_cons_zero, List.set_cons_succ]
                        refine utk (i := 18) rfl hHeld ?_
                        try simp only [Act.put, List.setIfInBounds_toArray, List.set_cons_zero, List.set_cons_succ]
                        refine utk (i := 19) rfl hHeld ?_
                        try simp only [Act.put, List.setIfInBounds_toArray, List.set_cons_zero, List.set_cons_succ]
                        refine utk (i := 20) rfl hHeld ?_
                        try simp only [Act.put, List.setIfInBounds_toArray, List.set_cons_zero, List.set_cons_succ]
                        refine until_one (i := 21) rfl (by kernel_rfl) (fun K hK9 => ?_)
                        go_simp
                        refine (HRS.out _).mono ?_
                        rintro e y2 ⟨rfl, hy2⟩
                        have hy2 := hy2.symm
                        subst hy2
                        refine hK9.out _ _ (.inr hHeld) ?_
                        clear hK9 K
                        try simp only [Act.put, List.setIfInBounds_toArray, List.set_cons_zero, List.set_cons_succ]
                        refine utk (i := 22) rfl hHeld ?_
                        try simp only [Act.put, List.setIfInBounds_toArray, List.set_cons_zero, List.set_cons_succ]
                        refine utk (i := 23) rfl hHeld ?_
                        try simp only [Act.put, List.setIfInBounds_toArray, List.set_cons_zero, List.set_cons_succ]
                        refine utk (i := 24) rfl hHeld ?_
                        try simp only [Act.put, List.setIfInBounds_toArray, List.set_cons_zero, List.set_cons_succ]
                        refine utk (i := 25) rfl hHeld ?_
                        try simp only [Act.put, List.setIfInBounds_toArray, List.set_cons_zero, List.set_cons_succ]
                        refine utk (i := 26) rfl hHeld ?_
                        try simp only [Act.put, List.setIfInBounds_toArray, List.set_cons_zero, List.set_cons_succ]
                        refine utk (i := 27) rfl hHeld ?_
                        try simp only [Act.put, List.setIfInBounds_toArray, List.set_cons_zero, List.set_cons_succ]
                        refine utk (i := 28) rfl hHeld ?_
                        try simp only [Act.put, List.setIfInBounds_toArray, List.set_cons_zero, List.set_cons_succ]
                        refine utk (i := 29) rfl hHeld ?_
                        try simp only [Act.put, List.setIfInBounds_toArray, List.set_cons_zero, List.set_cons_succ]
                        refine utk (i := 30) rfl hHeld ?_
                        try simp only [Act.put, List.setIfInBounds_toArray, List.set_cons_zero, List.set_cons_succ]
                        refine utk (i := 31) rfl hHeld ?_
                        try simp only [Act.put, List.setIfInBounds_toArray, List.set_cons_zero, List.set_cons_succ]
                        refine utk (i := 32) rfl hHeld ?_
                        try simp only [Act.put, List.setIfInBounds_toArray, List.set_cons_zero, List.set_cons_succ]
                        refine utk (i := 33) rfl hHeld ?_
                        try simp only [Act.put, List.setIfInBounds_toArray, List.set_cons_zero, List.set_cons_succ]
                        refine utk (i := 34) rfl hHeld ?_
                        try simp only [Act.put, List.setIfInBounds_toArray, List.set_cons_zero, List.set_cons_succ]
                        refine utk (i := 35) rfl hHeld ?_
                        try simp only [Act.put, List.setIfInBounds_toArray, List.set_cons_zero, List.set_cons_succ]
                        refine utk (i := 36) rfl hHeld ?_
                        try simp only [Act.put, List.setIfInBounds_toArray, List.set_cons_zero, List.set_cons_succ]
                        refine utk (i := 37) rfl hHeld ?_
                        try simp only [Act.put, List.setIfInBounds_toArray, List.set_cons_zero, List.set_cons_succ]
                        refine utk (i := 38) rfl hHeld ?_
                        try simp only [Act.put, List.setIfInBounds_toArray, List.set_cons_zero, List.set_cons_succ]
                        refine utk (i := 39) rfl hHeld ?_
                        try simp only [Act.put, List.setIfInBounds_toArray, List.set_cons_zero, List.set_cons_succ]
                        refine utk (i := 40) rfl hHeld ?_
                        try simp only [Act.put, List.setIfInBounds_toArray, List.set_cons_zero, List.set_cons_succ]
                        refine utk (i := 41) rfl hHeld ?_
                        try simp only [Act.put, List.setIfInBounds_toArray, List.set_cons_zero, List.set_cons_succ]
                        refine utk (i := 42) rfl hHeld ?_
                        try simp only [Act.put, List.setIfInBounds_toArray, List.set_cons_zero, List.set_cons_succ]
                        refine utk (i := 43) rfl hHeld ?_
                        try simp only [Act.put, List.setIfInBounds_toArray, List.set_cons_zero, List.set_cons_succ]
                        refine utk (i := 44) rfl hHeld ?_
                        try simp only [Act.put, List.setIfInBounds_toArray, List.set_cons_zero, List.set_cons_succ]
                        refine utk (i := 45) rfl hHeld ?_
                        try simp only [Act.put, List.setIfInBounds_toArray, List.set_cons_zero, List.set_cons_succ]
                        refine utk (i := 46) rfl hHeld ?_
                        try simp only [Act.put, List.setIfInBounds_toArray, List.set_cons_zero, List.set_cons_succ]
                        refine until_one (i := 47) rfl (by kernel_rfl) (fun K hK9 => ?_)
                        go_simp
                        refine (HKP.out _ (below_drewX _ _)).mono ?_
                        rintro e y3 ⟨rfl, hy3⟩
                        have HY3 := hide ((below_drewX wr3.heap.size wr3).trans hy3)
                        have hHeld := HSS.out _ HY3.out
                        clear hy3
                        refine hK9.out _ _ (.inr hHeld) ?_
                        clear hK9 K
                        try simp only [Act.put, List.setIfInBounds_toArray, List.set_cons_zero, List.set_cons_succ]
                        refine utk (i := 48) rfl hHeld ?_
                        try simp only [Act.put, List.setIfInBounds_toArray, List.set_cons_zero, List.set_cons_succ]
                        refine utk (i := 49) rfl hHeld ?_
                        try simp only [Act.put, List.setIfInBounds_toArray, List.set_cons_zero, List.set_cons_succ]
                        refine until_done (by kernel_rfl) ?_ _
                        refine NoPanic.normal ?_
                        clear hHeld
                        go_wp2_with fail
                        go_ret
                        exact ⟨ret_bool HN.out.symm, HW3.out.trans (HY3.out.mono HW3.out.size)⟩
                    · have hnb : (oa1 != rr) = true := by simpa using hne
                      have HN : Hid (takenD L ⟨p0, p1, p2, q0, q1, q2, r⟩ ⟨pc, st, ops⟩ O = false) := HNO3.out (by rw [HUV2.out, decide_eq_false hne]; rfl)
                      clear hne HST HUV2 HNO3 HKC
                      go_wp2_with fail
                      go_big_quiet ((go_at_call 42; exact Calls.quiet_of_same (HRS.out _)))
                      go_wp2_with fail
                      go_ret
                      exact ⟨ret_bool HN.out.symm, HW3.out.trans (below_draws _ _ _)⟩
              · have e : i = us.length := by omega
                subst e
                have hii : ¬ (us.length : Int) < (us.length : Int) := by omega
                have HUY : Hid (allN (fun s => allN (useJ L ⟨p0, p1, p2, q0, q1, q2, r⟩ ⟨pc, st, ops⟩ O s) (usesL (stAt L.body s)).length) (s + 1) = true) := by show _ = _; rw [HSTEPU.out, HA.out]
                obtain ⟨hft, hfe⟩ := HFT.out s hsl
                have HPOS : Hid (posN (farLen L) (s + 1) = posN (farLen L) s + farLen L s) := rfl
                have HPB2 := hide (HPB.out s hs)
                have HPB3 := hide (HPB.out (s + 1) hsl)
                have HPF := hide (fun q (h : q < farLen L s) => HFA.out s q hsl h)
                have HFR0 := hide (fun W h => HFAR.out W s h)
                rw [← hfe] at HFR0
                have HOW3 := hide (own_below HO3.out HBL3.out)
                have HLT : Hid (∀ q, q < farLen L s → posN (farLen L) s + q < PF.length) := fun q h => by rw [HPFL.out]; have := pos_le (farLen L) L.body.length s hsl; omega
                have HFR4 := hide HFR.out
                obtain ⟨fl, hfl⟩ : ∃ fl, farLen L s = fl := ⟨_, rfl⟩
                rw [hfl] at hft HPOS HPF HFR0 HLT
                obtain ⟨ps, hps⟩ : ∃ ps, posN (farLen L) s = ps := ⟨_, rfl⟩
                rw [hps] at HPOS HPF HPB2 HLT HOW3 HFR4 ⊢
                rw [HPOS.out] at HPB3
                have hps48 : ps + fl ≤ 48 := by have := HPB3.out; omega
                obtain ⟨pa1, pa2⟩ := HPL.out s hsl
                have cPs := (HFC.out s hsl).2.2
                obtain ⟨pls, hpls⟩ : ∃ pls, placeJ ⟨pc, st, ops⟩ O s = pls := ⟨_, rfl⟩
                rw [hpls] at HPF pa1 pa2 cPs
                have HCPS := hide cPs
                clear hfe hfl hps hpls cPs HUSE2 HUJ HNOU HSTEPU HUS HUV HUSL HA o1 o4 o5 l0 l1 l2 t0 t1 t2 t3 t4 t5 t6 k0 k1 k2
                go_wp2_with fail
                go_loopw [14, 20] (fun fv iv wr4 => ∃ q : Nat, q ≤ fl ∧ iv = .int .i64 ((q : Int) + 1) ∧ ∃ ga gc, fv = .slice ga (ps + q) gc ∧ wr4.ownsRow x2.heap.size 3 1 (.slice ga (ps + q) gc) (ps + q) ((PF.take (ps + q)).map (Value.int .i64)) ∧ allN (freshJ PF) (ps + q) = true ∧ Below x2.heap.size x2 wr4) (fun _ iv _ => 5 - (intOf iv).toNat)
                case atStart => exact ⟨0, Nat.zero_le _, rfl, fa, fc, rfl, HOW3.out, HFR4.out, HBX3.out⟩
                case round =>
                  clear HOW3 HFR4 HBX3 HBL3 HW3 hz3b hz3
                  rename World => wr4
                  obtain ⟨q, hq, rfl, ga, gc, rfl, hown, hfre, hbel⟩ := hrel
                  have HOQ := hide hown
                  have HFQ := hide hfre
                  have HB4 := hide hbel
                  obtain ⟨⟨l0, l1, l2⟩, ⟨t0, t1, t2, t3, t4, t5, t6⟩, ⟨k0, k1, k2⟩, hz4, hbw⟩ := lkbox_cells (HB2.out.trans (hbel.mono (by omega)))
                  have HW4 := hide hbw
                  have hzr4 := hbel.size
                  clear hown hfre hbel hbw
                  by_cases hql : q < fl
                  · have hqi : (q : Int) + 1 ≤ (fl : Int) := by omega
                    go_wp2_with fail
                    refine (HFR0.out _ HW4.out).mono ?_
                    rintro e y ⟨rfl, hby⟩
                    have HBY := hide (HB4.out.trans (hby.mono hzr4))
                    have HOY := hide (own_below HOQ.out hby)
                    have hzy := hby.size
                    clear l0 l1 l2 t0 t1 t2 t3 t4 t5 t6 k0 k1 k2
                    obtain ⟨⟨l0, l1, l2⟩, ⟨t0, t1, t2, t3, t4, t5, t6⟩, ⟨k0, k1, k2⟩, hz5, hbw⟩ := lkbox_cells (HB2.out.trans (HBY.out.mono (by omega)))
                    have HWY := hide hbw
                    have cP := HCPS.out
                    rw [← bcell HBY.out _ _ hfb] at cP
                    have hfby : fb < y.heap.size := by omega
                    have hzay : w.heap.size < y.heap.size := by omega
                    have hzby : w.heap.size + 1 < y.heap.size := by omega
                    have hPq := HPF.out q hql
                    have hlt := HLT.out q hql
                    obtain ⟨pp, hpp⟩ : ∃ pp, (pls - ((q : Int) + 1)) % r = pp := ⟨_, rfl⟩
                    rw [hpp] at hPq
                    have HPQ := hide hPq
                    have hw1 : IntKind.i64.wrap (pls - ((q : Int) + 1)) = pls - ((q : Int) + 1) := by rw [IntKind.wrap_i64]; omega
                    have HRS : Hid (∀ W, Calls Tryz.prog 42 #[.int .i64 (pls - ((q : Int) + 1)), .int .i64 r] W fun e w' => e = .returned (.int .i64 pp) ∧ w' = W) := fun W => by rw [← hpp]; exact HREST.out _ W (by omega) (by omega)
                    have HFJ : Hid (freshJ PF (ps + q) = allN (fun j => !decide (nth PF j = pp)) (ps + q)) := by show allN (fun j => !decide (nth PF j = nth PF (ps + q))) (ps + q) = _; rw [hPq]
                    have HNOF : Hid (freshJ PF (ps + q) = false → takenD L ⟨p0, p1, p2, q0, q1, q2, r⟩ ⟨pc, st, ops⟩ O = false) := fun h => HFNO.out (.inr (.inr (.inr (.inl (by rw [HPFE.out]; exact allN_false hlt h)))))
                    have HSTF : Hid (allN (freshJ PF) (ps + (q + 1)) = freshJ PF (ps + q)) := by show (allN (freshJ PF) (ps + q) && freshJ PF (ps + q)) = _; rw [HFQ.out, Bool.true_and]
                    have HCEL : Hid (0 < ps + q → ∃ g : Nat, ga = some ⟨g, 0, none⟩ ∧ g < y.heap.size ∧ (∀ j, j < ps + q → y.cell? ⟨g, j, none⟩ = some (.int .i64 (nth PF j))) ∧ ps + q ≤ gc ∧ gc ≤ 9223372036854775807) := fun h => by
                      obtain ⟨g, c, hv2, hg, h3, h4, hr⟩ := own_parts HOY.out (.inr h)
                      injection hv2 with e1 e2 e3
                      subst e3
                      refine ⟨g, e1, hr.lt, fun j hj => ?_, h3, by unfold maxLen at h4; omega⟩
                      rw [hr.cell hj, getD_ints _ _ (by rw [List.length_take]; omega)]
                      congr 2
                      unfold nth
                      rw [List.getD, List.getD, List.getElem?_take, if_pos hj]
                    obtain ⟨ga2, gc2, heqs, hcap1, hcap2⟩ := own_shape HOY.out
                    injection heqs with heq1 heq2 heq3
                    subst heq1; subst heq3
                    clear heq2
                    unfold maxLen at hcap2
                    clear hby hbw hPq hpp l0 l1 l2 t0 t1 t2 t3 t4 t5 k0 k1 k2
                    go_wp2_with fail
                    go_big_quiet ((go_at_call 42; exact Calls.quiet_of_same (HRS.out _)))
                    clear t6 cP
                    go_wp2_with fail
                    go_loopw [22] (fun iv wr5 => ∃ j : Nat, j ≤ ps + q ∧ iv = .int .i64 j ∧ allN (fun j => !decide (nth PF j = pp)) j = true ∧ wr5 = y.drewN nq) (fun iv _ => ps + q - (intOf iv).toNat)
                    case atStart => exact ⟨0, Nat.zero_le _, rfl, rfl, rfl⟩
                    case round =>
                      obtain ⟨j, hj, rfl, hall, rfl⟩ := hrel
                      have HAJ := hide hall
                      clear hall
                      by_cases hjl : j < ps + q
                      · have hji : (j : Int) < ((ps + q : Nat) : Int) := by omega
                        have hji2 : (j : Int) < (ps : Int) + (q : Int) := by omega
                        obtain ⟨g, rfl, hgz, hgc, hgl, hgm⟩ := HCEL.out (by omega)
                        have cJ := hgc j hjl
                        have HSJ : Hid (allN (fun j => !decide (nth PF j = pp)) (j + 1) = !decide (nth PF j = pp)) := by show (allN _ j && _) = _; rw [HAJ.out, Bool.true_and]
                        have HNJ : Hid (nth PF j = pp → takenD L ⟨p0, p1, p2, q0, q1, q2, r⟩ ⟨pc, st, ops⟩ O = false) := fun h => HNOF.out (by rw [HFJ.out]; exact allN_false hjl (by rw [decide_eq_true h]; rfl))
                        generalize nth PF j = pj at *
                        clear hgc
                        by_cases heq : pj = pp
                        · have hbq : (pj == pp) = true := by simpa using heq
                          have HN := hide (HNJ.out heq)
                          clear heq HSJ HNJ
                          go_wp2_with fail
                          go_ret
                          exact ⟨ret_bool HN.out.symm, HWY.out.trans (below_draws _ _ _)⟩
                        · have hbq : (pj == pp) = false := by simpa using heq
                          have HN : Hid (allN (fun j => !decide (nth PF j = pp)) (j + 1) = true) := by show _ = _; rw [HSJ.out, decide_eq_false heq]; rfl
                          clear heq HSJ HNJ
                          go_wp2_with fail
                          go_roundw
                          case rel => exact ⟨j + 1, by omega, by go_num, HN.out, trivial⟩
                          case measure => simp [intOf]; omega
                      · have e : j = ps + q := by omega
                        subst e
                        have hji : ¬ (((ps + q : Nat) : Int)) < (((ps + q : Nat) : Int)) := by omega
                        have hji2 : ¬ ((ps : Int) + (q : Int)) < ((ps : Int) + (q : Int)) := by omega
                        have HNX : Hid (allN (freshJ PF) (ps + (q + 1)) = true) := by show _ = _; rw [HSTF.out, HFJ.out, HAJ.out]
                        have HTK := hide (take_next PF (ps + q) hlt)
                        rw [HPQ.out] at HTK
                        clear HNOF HSTF HFJ HCEL
                        go_wp2_with (at_builtin; refine wpList_append_own _ rfl (.tmp 180) (.tmp 182) 22 rfl x2.heap.size 3 j0 (.int .i64 0) 1 8 Tryz.underlying22 ji jz0 jz1 jz2 rfl (by decide) _ _ _ rfl (own_below HOY.out (by first | exact (below_draws _ _ _).alloc (Nat.le_refl _) _ | exact (below_alloc1 _ _).trans (below_draws _ _ _))) ⟨y.heap.size, 0, none⟩ 1 1 [.int .i64 pp] rfl rfl (by exact one_cell _ _ _) (by intro u hu; simp at hu; subst hu; rfl) (by unfold maxLen; omega) (by omega) (by simp; omega) ?_; intro v2' w2 hown2 hgrow2 hnil2; obtain ⟨oa2, oc2, rfl, hl1', hl2'⟩ := own_shape hown2; have HOZ := hide hown2; have HGZ := hide hgrow2; clear hown2 hgrow2)
                        go_roundw
                        case rel =>
                          have h2 := HOZ.out
                          rw [HTK.out] at h2
                          exact ⟨q + 1, by omega, by go_num, oa2, oc2, rfl, h2, HNX.out, (HBY.out.trans ((below_draws _ _ _).alloc (by simp; omega) _)).grown HGZ.out (by simp; omega) (fun g hg => own_block_ge HOY.out g hg)⟩
                        case measure => simp [intOf]; omega
                  · have e : q = fl := by omega
                    subst e
                    have hqi : ¬ (q : Int) + 1 ≤ (q : Int) := by omega
                    go_wp2_with fail
                    refine (HFR0.out _ HW4.out).mono ?_
                    rintro e y ⟨rfl, hby⟩
                    have HBY := hide (HB4.out.trans (hby.mono hzr4))
                    have HOY := hide (own_below HOQ.out hby)
                    clear hby l0 l1 l2 t0 t1 t2 t3 t4 t5 t6 k0 k1 k2
                    go_wp2_with fail
                    go_roundw
                    case rel => exact ⟨s + 1, by omega, by go_num, ga, gc, by rw [HPOS.out], by rw [HPOS.out]; exact HOY.out, HUY.out, by rw [HPOS.out]; exact HFQ.out, HBY.out⟩
                    case measure => simp [intOf]; omega
          · have e : s = L.body.length := by omega
            subst e
            have hsi : ¬ (L.body.length : Int) < (L.body.length : Int) := by omega
            have HFY : Hid (allN (freshJ (firstsJ L ⟨p0, p1, p2, q0, q1, q2, r⟩ ⟨pc, st, ops⟩ O L.body.length)) (firstsJ L ⟨p0, p1, p2, q0, q1, q2, r⟩ ⟨pc, st, ops⟩ O L.body.length).length = true) := by show _ = _; rw [HPFE.out, HPFL.out]; exact HFR.out
            have HYES := hide (fun h5 => HFYES.out HEDG.out HU.out HFY.out h5)
            have HLO := hide (loopV_parts HL2.out).2
            clear HOW l0 l1 l2 t0 t1 t2 t3 t4 t5 t6 k0 k1 k2
            go_wp2_with fail
            go_loopw [23] (fun iv wr6 => ∃ k : Nat, k ≤ L.outs.length ∧ iv = .int .i64 k ∧ allN (fun i => toldJ L ⟨p0, p1, p2, q0, q1, q2, r⟩ ⟨pc, st, ops⟩ O (nth L.outs i).toNat) k = true ∧ Below x2.heap.size x2 wr6) (fun iv _ => L.outs.length - (intOf iv).toNat)
            case atStart => exact ⟨0, Nat.zero_le _, rfl, rfl, HBL.out⟩
            case round =>
              clear HBL HW hzr hz2
              rename World => wr6
              obtain ⟨k, hk, rfl, hall, hbel⟩ := hrel
              have HA := hide hall
              have HB6 := hide hbel
              obtain ⟨⟨l0, l1, l2⟩, ⟨t0, t1, t2, t3, t4, t5, t6⟩, ⟨k0, k1, k2⟩, hz6, hbw⟩ := lkbox_cells (HB2.out.trans (hbel.mono (by omega)))
              have HW6 := hide hbw
              have hzr6 := hbel.size
              clear hall hbel hbw
              by_cases hkl : k < L.outs.length
              · have hki : (k : Int) < (L.outs.length : Int) := by omega
                obtain ⟨xo1, xo2, heo, ho1, ho2, -, hoc⟩ := HLO.out.below HB6.out
                injection heo with eo1 eo2 eo3
                subst eo1; subst eo3
                unfold maxLen at ho2
                obtain ⟨gb, go, rfl, hgb, hgc⟩ := hoc (by omega)
                have cK := hgc k hkl
                obtain ⟨ho3, ho4⟩ := HOR.out k hkl
                have HST : Hid (allN (fun i => toldJ L ⟨p0, p1, p2, q0, q1, q2, r⟩ ⟨pc, st, ops⟩ O (nth L.outs i).toNat) (k + 1) = toldJ L ⟨p0, p1, p2, q0, q1, q2, r⟩ ⟨pc, st, ops⟩ O (nth L.outs k).toNat) := by show (allN _ k && _) = _; rw [HA.out, Bool.true_and]
                have HNO : Hid (toldJ L ⟨p0, p1, p2, q0, q1, q2, r⟩ ⟨pc, st, ops⟩ O (nth L.outs k).toNat = false → takenD L ⟨p0, p1, p2, q0, q1, q2, r⟩ ⟨pc, st, ops⟩ O = false) := fun h => HFNO.out (.inr (.inr (.inr (.inr (allN_false hkl h)))))
                obtain ⟨on, hon⟩ : ∃ on : Nat, nth L.outs k = (on : Int) := ⟨(nth L.outs k).toNat, by omega⟩
                rw [hon] at cK ho3 ho4 HST HNO
                rw [Int.toNat_natCast] at HST HNO
                have honl : on < L.body.length := by omega
                have HTC := hide (fun (W : World) (hW : Below wr6.heap.size wr6 W) => told_walk L.body.length (timeJ ⟨pc, st, ops⟩ O) (readyJ ⟨p0, p1, p2, q0, q1, q2, r⟩ ⟨pc, st, ops⟩ O) (placeJ ⟨pc, st, ops⟩ O) pc r on (some ⟨fb, fo, none⟩) xc W ((HOF.out.below HB6.out).below hW) honl h16 (fun m hm => by have := HRG.out m hm; omega) (fun m hm => by have := HPL.out m hm; omega) hpc1 hpc2 hr1 hr2)
                have HTJ : Hid (toldG (readyJ ⟨p0, p1, p2, q0, q1, q2, r⟩ ⟨pc, st, ops⟩ O) (placeJ ⟨pc, st, ops⟩ O) pc r L.body.length on = toldJ L ⟨p0, p1, p2, q0, q1, q2, r⟩ ⟨pc, st, ops⟩ O on) := rfl
                rw [HTJ.out] at HTC
                have hza6 : w.heap.size < wr6.heap.size := by omega
                have hzb6 : w.heap.size + 1 < wr6.heap.size := by omega
                have HSS : Hid (∀ w' : World, Below wr6.heap.size wr6 w' → w'.cell? ⟨w.heap.size + 1 + 1, 0, none⟩ = some (.int .i64 pc) ∧ w'.cell? ⟨w.heap.size + 1, 6, none⟩ = some (.int .i64 r) ∧ w'.cell? ⟨w.heap.size, 2, none⟩ = some (.slice (some ⟨gb, go, none⟩) L.outs.length cap2) ∧ w'.cell? ⟨gb, go + k, none⟩ = some (.int .i64 (on : Int))) := by
                  intro w' h
                  refine ⟨?_, ?_, ?_, ?_⟩
                  all_goals (rw [bcell h _ _ (by omega)]; assumption)
                obtain ⟨tb, htb⟩ : ∃ tb, toldJ L ⟨p0, p1, p2, q0, q1, q2, r⟩ ⟨pc, st, ops⟩ O on = tb := ⟨_, rfl⟩
                rw [htb] at HTC HST HNO
                clear hgc hoc hon eo2 htb HTJ
                go_wp2_with fail
                refine wp_region_noPanic ?_
                refine region_until 99 (fun w' => w'.cell? ⟨w.heap.size + 1 + 1, 0, none⟩ = some (.int .i64 pc) ∧ w'.cell? ⟨w.heap.size + 1, 6, none⟩ = some (.int .i64 r) ∧ w'.cell? ⟨w.heap.size, 2, none⟩ = some (.slice (some ⟨gb, go, none⟩) L.outs.length cap2) ∧ w'.cell? ⟨gb, go + k, none⟩ = some (.int .i64 (on : Int))) (by kernel_rfl) (HSS.out _ (below_drewX _ _)) (fun hHeld => ?_)
                refine utk (i := 0) rfl hHeld ?_
                try simp only [Act.put, List.setIfInBounds_toArray, List.set_cons_zero, List.set_cons_succ]
                refine utk (i := 1) rfl hHeld ?_
                try simp only [Act.put, List.setIfInBounds_toArray, List.set_cons_zero, List.set_cons_succ]
                refine utk (i := 2) rfl hHeld ?_
                try simp only [Act.put, List.setIfInBounds_toArray, List.set_cons_zero, List.set_cons_succ]
                refine utk (i := 3) rfl hHeld ?_
                try simp only [Act.put, List.setIfInBounds_toArray, List.set_cons_zero, List.set_cons_succ]
                refine utk (i := 4) rfl hHeld ?_
                try simp only [Act.put, List.setIfInBounds_toArray, List.set_cons_zero, List.set_cons_succ]
                refine utk (i := 5) rfl hHeld ?_
                try simp only [Act.put, List.setIfInBounds_toArray, List.set_cons_zero, List.set_cons_succ]
                refine utk (i := 6) rfl hHeld ?_
                try simp only [Act.put, List.setIfInBounds_toArray, List.set_cons_zero, List.set_cons_succ]
                refine utk (i := 7) rfl hHeld ?_
                try simp only [Act.put, List.setIfInBounds_toArray, List.set_cons_zero, List.set_cons_succ]
                refine utk (i := 8) rfl hHeld ?_
                try simp only [Act.put, List.setIfInBounds_toArray, List.set_cons_zero, List.set_cons_succ]
                refine utk (i := 9) rfl hHeld ?_
                try simp only [Act.put, List.setIfInBounds_toArray, List.set_cons_zero, List.set_cons_succ]
                refine until_one (i := 10) rfl (by kernel_rfl) (fun K hK9 => ?_)
                go_simp
                refine (HTC.out _ (below_drewX _ _)).mono ?_
                rintro e y3 ⟨rfl, hy3⟩
                have HY3 := hide ((below_drewX wr6.heap.size wr6).trans hy3)
                have hHeld := HSS.out _ HY3.out
                clear hy3
                refine hK9.out _ _ (.inr hHeld) ?_
                clear hK9 K
                try simp only [Act.put, List.setIfInBounds_toArray, List.set_cons_zero, List.set_cons_succ]
                refine utk (i := 11) rfl hHeld ?_
                try simp only [Act.put, List.setIfInBounds_toArray, List.set_cons_zero, List.set_cons_succ]
                refine until_done (by kernel_rfl) ?_ _
                refine NoPanic.normal ?_
                clear hHeld
                cases tb with
                | true =>
                  go_wp2_with fail
                  go_roundw
                  case rel => exact ⟨k + 1, by omega, by go_num, HST.out, HB6.out.trans (HY3.out.mono hzr6)⟩
                  case measure => simp [intOf]; omega
                | false =>
                  have HN := hide (HNO.out rfl)
                  go_wp2_with fail
                  go_ret
                  exact ⟨ret_bool HN.out.symm, HW6.out.trans (HY3.out.mono HW6.out.size)⟩
              · have e : k = L.outs.length := by omega
                subst e
                have hki : ¬ (L.outs.length : Int) < (L.outs.length : Int) := by omega
                have HN := hide (HYES.out HA.out)
                go_wp2_with fail
                go_ret
                exact ⟨ret_bool HN.out.symm, HW6.out⟩
theorem takes_any (v kv ov : Value) (t : Tg) (L : Lp) (K : Kn) (O : List Int) (w : World) (hL : LoopV w v L) (hK : KernV w kv K) (hO : Ints w ov O) :
    Calls Tryz.prog 15 #[v, .agg t.cells, kv, ov] w fun e w' => e = .returned (.bool (takenD L t K O)) ∧ Below w.heap.size w w' := by
  have hL' := hL
  obtain ⟨v0, v1, v2, rfl, ⟨a0, cap0, rfl, -⟩, ⟨a1, cap1, rfl, -⟩, ⟨a2, cap2, rfl, -⟩⟩ := hL'
  obtain ⟨kl, rfl, hOp⟩ := hK
  have hOp' := hOp
  obtain ⟨ka, kc, rfl, -⟩ := hOp'
  have hO' := hO
  obtain ⟨oa, oc, rfl, -⟩ := hO'
  obtain ⟨pc, st, ops⟩ := K
  obtain ⟨p0, p1, p2, q0, q1, q2, r⟩ := t
  exact takes_walk p0 p1 p2 q0 q1 q2 r pc st ops L O a0 a1 a2 ka oa cap0 cap1 cap2 kc oc w hL hOp hO
end Go.Proofs.YtghlcmljgpkjiabGreat
