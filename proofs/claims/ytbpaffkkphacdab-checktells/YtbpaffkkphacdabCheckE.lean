/- CheckE: texts that are built as one: CheckLeave, CheckEnter, CheckAll. -/
import Derived.Test.YtbpaffkkphacdabCheckD
import Derived.Test.YtbpaffkkphacdabRef10C
import Derived.Test.YtbpaffkkphacdabDepP
import Derived.Test.YtbpaffkkphacdabKernQ
/- Package check's Leave: the loop's Outs of what is in the registers; nothing that was there is changed. -/
namespace Go.Proofs.Ytbpaffkkphacdab
open Go.RowKit Go.Joins
set_option linter.unusedVariables false
set_option linter.unusedSimpArgs false
set_option maxRecDepth 8192

theorem cown_empty (w : World) (e : TypeId) : (w.alloc (.cells #[] e)).ownsRow w.heap.size e 1 (.slice (some ⟨w.heap.size, 0, none⟩) 0 0) 0 [] := by
  refine ⟨rfl, .inr ⟨w.heap.size, 0, #[], rfl, Nat.le_refl _, ?_, Nat.le_refl _, Nat.zero_le _, rfl, rfl⟩⟩
  show (w.heap.push _)[w.heap.size]? = _
  simp
/-- what Leave tells -/
def LeavePost (L : Lp) (t : Tg) (K : Kn) (O : List Int) (B : List (List Int)) (R : List Int) (turns : Int) (w : World) (e : Ending) (w' : World) : Prop :=
  Below w.heap.size w w' ∧ ∃ ra rl rc c, e = .returned (.tuple #[.slice ra rl rc, .int .i64 c]) ∧ ((takenD L t K O && befB L B && decide ((R.length : Int) = t.r)) = false → c = 2 ∧ rl = 0) ∧ ((takenD L t K O && befB L B && decide ((R.length : Int) = t.r)) = true → inR turns 0 200 = false → c = 3 ∧ rl = 0) ∧ ((takenD L t K O && befB L B && decide ((R.length : Int) = t.r)) = true → inR turns 0 200 = true → c = 0 ∧ Ints w' (.slice ra rl rc) (leaveD L t K O B R turns))
variable {L : Lp} {t : Tg} {K : Kn} {O : List Int} {B : List (List Int)} {R : List Int} {turns : Int} {w w' : World}
theorem lv_no (h : (takenD L t K O && befB L B && decide ((R.length : Int) = t.r)) = false) (hb : Below w.heap.size w w') : LeavePost L t K O B R turns w (.returned (.tuple #[.slice none 0 0, .int .i64 2])) w' :=
  ⟨hb, none, 0, 0, 2, rfl, fun _ => ⟨rfl, rfl⟩, fun h2 => (by rw [h] at h2; cases h2), fun h2 => (by rw [h] at h2; cases h2)⟩
theorem lv_range (h : (takenD L t K O && befB L B && decide ((R.length : Int) = t.r)) = true) (h3 : inR turns 0 200 = false) (hb : Below w.heap.size w w') : LeavePost L t K O B R turns w (.returned (.tuple #[.slice none 0 0, .int .i64 3])) w' :=
  ⟨hb, none, 0, 0, 3, rfl, fun h2 => (by rw [h] at h2; cases h2), fun _ _ => ⟨rfl, rfl⟩, fun _ h4 => (by rw [h3] at h4; cases h4)⟩
theorem lv_yes {ra : Option Addr} {rl rc : Nat} (h : (takenD L t K O && befB L B && decide ((R.length : Int) = t.r)) = true) (h3 : inR turns 0 200 = true) (hb : Below w.heap.size w w') (hi : Ints w' (.slice ra rl rc) (leaveD L t K O B R turns)) : LeavePost L t K O B R turns w (.returned (.tuple #[.slice ra rl rc, .int .i64 0])) w' :=
  ⟨hb, ra, rl, rc, 0, rfl, fun h2 => (by rw [h] at h2; cases h2), fun _ h4 => (by rw [h3] at h4; cases h4), fun _ _ => ⟨rfl, hi⟩⟩

set_option maxHeartbeats 16000000 in
theorem cleave_walk (hM : MayC) (hE : EdgesC) (p0 p1 p2 q0 q1 q2 r pc st : Int) (ops : List Kop) (L : Lp) (O R : List Int) (B : List (List Int)) (turns : Int) (a0 a1 a2 ka oa ba ra : Option Addr) (cap0 cap1 cap2 kc oc bc rc : Nat) (w : World) (hL : LoopV w (.agg #[.slice a0 L.logs.length cap0, .slice a1 L.body.length cap1, .slice a2 L.outs.length cap2]) L) (hK : OpsV w (.slice ka ops.length kc) ops) (hO : Ints w (.slice oa O.length oc) O) (hB : IntRows w (.slice ba B.length bc) B) (hR : Ints w (.slice ra R.length rc) R) :
    Calls Try.prog 19 #[.agg #[.slice a0 L.logs.length cap0, .slice a1 L.body.length cap1, .slice a2 L.outs.length cap2], .agg #[.int .i64 p0, .int .i64 p1, .int .i64 p2, .int .i64 q0, .int .i64 q1, .int .i64 q2, .int .i64 r], .agg #[.int .i64 pc, .int .i64 st, .slice ka ops.length kc], .slice oa O.length oc, .slice ba B.length bc, .slice ra R.length rc, .int .i64 turns] w (LeavePost L ⟨p0, p1, p2, q0, q1, q2, r⟩ ⟨pc, st, ops⟩ O B R turns w) := by
  have HBZ := hide (below_alloc3 w (.cells #[.slice a0 L.logs.length cap0, .slice a1 L.body.length cap1, .slice a2 L.outs.length cap2] 25) (.cells #[.int .i64 p0, .int .i64 p1, .int .i64 p2, .int .i64 q0, .int .i64 q1, .int .i64 q2, .int .i64 r] 28) (.cells #[.int .i64 pc, .int .i64 st, .slice ka ops.length kc] 40))
  have HS3 : Hid ((((w.alloc (.cells #[.slice a0 L.logs.length cap0, .slice a1 L.body.length cap1, .slice a2 L.outs.length cap2] 25)).alloc (.cells #[.int .i64 p0, .int .i64 p1, .int .i64 p2, .int .i64 q0, .int .i64 q1, .int .i64 q2, .int .i64 r] 28)).alloc (.cells #[.int .i64 pc, .int .i64 st, .slice ka ops.length kc] 40)).heap.size = w.heap.size + 1 + 1 + 1) := by show _ = _; simp
  have HTK := hide (ctake_any hM hE p0 p1 p2 q0 q1 q2 r pc st ops L O a0 a1 a2 ka oa cap0 cap1 cap2 kc oc (((w.alloc (.cells #[.slice a0 L.logs.length cap0, .slice a1 L.body.length cap1, .slice a2 L.outs.length cap2] 25)).alloc (.cells #[.int .i64 p0, .int .i64 p1, .int .i64 p2, .int .i64 q0, .int .i64 q1, .int .i64 q2, .int .i64 r] 28)).alloc (.cells #[.int .i64 pc, .int .i64 st, .slice ka ops.length kc] 40)) (hL.below HBZ.out) (hK.below HBZ.out) (hO.below HBZ.out))
  have HBF := hide (fun W (hb : Below w.heap.size w W) => cbefore_any L (.slice a0 L.logs.length cap0) (.slice a2 L.outs.length cap2) a1 cap1 (.slice ba B.length bc) B W (hB.below hb))
  have HIN := hide (leave_in L ⟨p0, p1, p2, q0, q1, q2, r⟩ ⟨pc, st, ops⟩ O B R turns (rows_in10 hB) (ints_in hR))
  have HLN := hide (leave_len L ⟨p0, p1, p2, q0, q1, q2, r⟩ ⟨pc, st, ops⟩ O B R turns)
  have HNT := hide (leave_nth L ⟨p0, p1, p2, q0, q1, q2, r⟩ ⟨pc, st, ops⟩ O B R turns)
  have HBC := hide hB
  have HRC := hide hR
  have HLM := hide (show R.length ≤ 9223372036854775807 by obtain ⟨_, _, e, h1, h2, -⟩ := hR; unfold maxLen at h2; omega)
  obtain ⟨j0, ji, jz0, jz1, jz2⟩ := info_parts Try.i2
  clear hL hK hO hM hE hB hR
  go_enter Try.func19, Try.ntmps19
  go_wp2_with fail
  refine HTK.out.mono ?_
  rintro e x1 ⟨pv, rfl, hb, htk⟩
  rw [HS3.out] at hb
  have HB1 := hide hb
  obtain ⟨⟨l0, l1, l2⟩, ⟨t0, t1, t2, t3, t4, t5, t6⟩, ⟨k0, k1, k2⟩, hz, hbw⟩ := lkbox_cells hb
  have HBX := hide hbw
  have hx1 : w.heap.size + 1 + 1 + 1 ≤ x1.heap.size := by have := HB1.out.size; rw [HS3.out] at this; exact this
  have HTAK := hide htk
  clear hb hbw HTK HBZ htk
  cases htd : takenD L ⟨p0, p1, p2, q0, q1, q2, r⟩ ⟨pc, st, ops⟩ O with
  | false =>
    have HN : Hid ((takenD L ⟨p0, p1, p2, q0, q1, q2, r⟩ ⟨pc, st, ops⟩ O && befB L B && decide ((R.length : Int) = r)) = false) := by show _ = _; rw [htd]; rfl
    clear htd
    go_wp2_with fail
    exact bodyPost_ret (v := .tuple #[.slice none 0 0, .int .i64 2]) (by simp [results, Try.results19, go_sem]) rfl (lv_no HN.out HBX.out)
  | true =>
    obtain ⟨c, M, rfl, hsv, hlr, hms⟩ := HTAK.out htd
    have hlay : layD L ⟨p0, p1, p2, q0, q1, q2, r⟩ ⟨pc, st, ops⟩ O = true := by
      cases hl : layD L ⟨p0, p1, p2, q0, q1, q2, r⟩ ⟨pc, st, ops⟩ O with
      | true => rfl
      | false => rw [ctaken_no hl] at htd; cases htd
    have HTD := hide htd
    have HLR1 := hide hlr
    have HLAY := hide hlay
    clear htd hsv hlr hms hlay HTAK
    go_wp2_with fail
    refine (HBF.out x1 HBX.out).mono ?_
    rintro e x2 ⟨rfl, hb⟩
    have HB2 := hide (HB1.out.trans (hb.mono hx1))
    have HLR2 := hide (HLR1.out.below hb)
    clear hb l0 l1 l2 t0 t1 t2 t3 t4 t5 t6 k0 k1 k2 hz HLR1 HBF
    obtain ⟨⟨l0, l1, l2⟩, ⟨t0, t1, t2, t3, t4, t5, t6⟩, ⟨k0, k1, k2⟩, hz, hbw⟩ := lkbox_cells HB2.out
    have HBX2 := hide hbw
    clear hbw HB1 HBX hx1
    cases hbd : befB L B with
    | false =>
      have HN : Hid ((takenD L ⟨p0, p1, p2, q0, q1, q2, r⟩ ⟨pc, st, ops⟩ O && befB L B && decide ((R.length : Int) = r)) = false) := by show _ = _; rw [hbd]; simp
      clear hbd
      go_wp2_with fail
      exact bodyPost_ret (v := .tuple #[.slice none 0 0, .int .i64 2]) (by simp [results, Try.results19, go_sem]) rfl (lv_no HN.out HBX2.out)
    | true =>
      have HBD : Hid (B.length = L.body.length ∧ ∀ i, i < B.length → (rowAt B i).length = 3) := by
        have hb3 := hbd
        unfold befB at hb3
        rw [Bool.and_eq_true] at hb3
        exact ⟨of_decide_eq_true hb3.1, fun i hi => of_decide_eq_true (allN_get hb3.2 i hi)⟩
      by_cases hrl : (R.length : Int) = r
      · have HN : Hid ((takenD L ⟨p0, p1, p2, q0, q1, q2, r⟩ ⟨pc, st, ops⟩ O && befB L B && decide ((R.length : Int) = r)) = true) := by show _ = _; rw [HTD.out, hbd, decide_eq_true hrl]; rfl
        have hrb : ((R.length : Int) != r) = false := by simp [hrl]
        cases hin : inR turns 0 200 with
        | false =>
          have HI := hide hin
          have HWI := hide (fun W => cwithin_any turns 0 200 W)
          rw [hin] at HWI
          clear hbd hin
          go_wp2_with (go_at_call 52; refine (HWI.out _).mono ?_; rintro e w' ⟨rfl, hw'⟩; have hw' := hw'.symm; subst hw')
          exact bodyPost_ret (v := .tuple #[.slice none 0 0, .int .i64 3]) (by simp [results, Try.results19, go_sem]) rfl (lv_range HN.out HI.out HBX2.out)
        | true =>
          have HI := hide hin
          have htr := inR_iff.1 hin
          obtain ⟨ht0, ht1⟩ := htr
          have HWI := hide (fun W => cwithin_any turns 0 200 W)
          rw [hin] at HWI
          obtain ⟨hm, -⟩ := lay_parts HLAY.out
          obtain ⟨⟨-, -, hr1⟩, -⟩ := lay_range HLAY.out
          obtain ⟨-, hn1, hn16, hol16, -⟩ := may_parts hm
          have hr2 : r ≤ 128 := by
            obtain ⟨-, -, -, -, -, -, -, -, hr2, -⟩ := lay_ops HLAY.out (s := 0) (by omega)
            exact hr2
          simp only at hr1
          have HOR := hide (fun i (hi : i < L.outs.length) => outs_range hm hi)
          have HPL := hide (fun (s : Nat) (hs : s < L.body.length) => And.intro (lay_ops HLAY.out hs).2.2.2.2.2.2.1 (lay_ops HLAY.out hs).2.2.2.2.2.2.2.1)
          obtain ⟨v0, v1, v2, hlv, -, -, ⟨o1, oc1, rfl, hol, hom, -, hoc⟩⟩ := HLR2.out.lv
          unfold maxLen at hom
          injection hlv with hlv
          obtain ⟨hv0, hv1, hv2⟩ : c.l0 = v0 ∧ c.l1 = v1 ∧ c.l2 = .slice o1 L.outs.length oc1 := by
            have := congrArg Array.toList hlv
            simpa using this
          obtain ⟨-, -, y2, -, -, -, -, y7, -⟩ := HLR2.out.cells
          rw [hv2] at y2
          have HOC := hide hoc
          have hyz := HLR2.out.lt
          have HOE := hide (cown_empty x2 2)
          clear hbd hin hlv hv0 hv1 hv2 hoc hm
          go_wp2_with (go_at_call 52; refine (HWI.out _).mono ?_; rintro e w' ⟨rfl, hw'⟩; have hw' := hw'.symm; subst hw')
          clear l0 l1 l2 t0 t1 t2 t3 t4 t5 t6 k0 k1 k2 hz y2
          go_loopw [18, 55] (fun ov iv wr => ∃ k : Nat, k ≤ L.outs.length ∧ iv = .int .i64 k ∧ ∃ ua uc, ov = .slice ua k uc ∧ wr.ownsRow x2.heap.size 2 1 (.slice ua k uc) k (((leaveD L ⟨p0, p1, p2, q0, q1, q2, r⟩ ⟨pc, st, ops⟩ O B R turns).take k).map (Value.int .i64)) ∧ Below x2.heap.size x2 wr) (fun _ iv _ => L.outs.length - (intOf iv).toNat)
          case atStart => exact ⟨0, Nat.zero_le _, rfl, some ⟨x2.heap.size, 0, none⟩, 0, rfl, HOE.out, below_alloc1 _ _⟩
          case round =>
            clear HOE
            obtain ⟨k, hk, rfl, ua, uc, rfl, hown, hbel⟩ := hrel
            have HOW := hide hown
            have HBL := hide hbel
            have HW := hide (HBX2.out.trans (hbel.mono HBX2.out.size))
            have HLR := hide (HLR2.out.below hbel)
            have hzr := hbel.size
            by_cases hkl : k < L.outs.length
            · have hki : (k : Int) < (L.outs.length : Int) := by omega
              obtain ⟨gb, go, rfl, hgb, hgc⟩ := HOC.out (by omega)
              have cK := (bcell hbel gb (go + k) hgb).trans (hgc k hkl)
              have hgz : gb < wr.heap.size := by omega
              obtain ⟨ho3, ho4⟩ := HOR.out k hkl
              obtain ⟨on, hon⟩ : ∃ on : Nat, nth L.outs k = (on : Int) := ⟨(nth L.outs k).toNat, by omega⟩
              have HVL := hide (HNT.out k hkl)
              rw [hon] at cK ho3 ho4 HVL
              rw [Int.toNat_natCast] at HVL
              have honl : on < L.body.length := by omega
              obtain ⟨hBl, hB3⟩ := HBD.out
              obtain ⟨xb1, xb2, heb, hbb1, hbb2, hbbc⟩ := HBC.out.below HW.out
              injection heb with eb1 eb2 eb3
              subst eb1; subst eb3
              unfold maxLen at hbb2
              obtain ⟨bb, bo, rfl, hbbz, hbbcell⟩ := hbbc (by omega)
              obtain ⟨u, hu, hui⟩ := hbbcell on (by omega)
              obtain ⟨va, vc, rfl, hv1, hv2, -, hvc⟩ := hui
              rw [hB3 on (by omega)] at hu hv1 hvc
              unfold maxLen at hv2
              obtain ⟨vb, vo, rfl, hvb, hvcell⟩ := hvc (by omega)
              have cV := hvcell 0 (by omega)
              rw [Nat.add_zero] at cV
              have hBi : (on : Int) < (B.length : Int) := by omega
              have hoi : (on : Int) < (L.body.length : Int) := by omega
              obtain ⟨-, -, -, -, -, -, -, y7, -⟩ := HLR.out.cells
              have cP := HLR.out.pl.cell honl
              have hpz := HLR.out.pl.lt
              have hyz := HLR.out.lt
              obtain ⟨cp1, cp2⟩ := HLR.out.cp
              unfold maxLen at cp2
              obtain ⟨hp1, hp2⟩ := HPL.out on honl
              have HLE0 := hide (fun n h1 h2 => cleft_any c L ⟨p0, p1, p2, q0, q1, q2, r⟩ ⟨pc, st, ops⟩ O n wr HLR.out hr1 hr2 h1 h2)
              generalize placeJ ⟨pc, st, ops⟩ O on = pl at *
              generalize nth (rowAt B on) 0 = b0 at *
              have hlenk : k < (leaveD L ⟨p0, p1, p2, q0, q1, q2, r⟩ ⟨pc, st, ops⟩ O B R turns).length := by rw [HLN.out]; exact hkl
              have HTK := hide (take_next _ k hlenk)
              clear hgc hbbc hbbcell hvc hvcell hon eb2 hBl hB3 hown hbel
              by_cases htp : 0 < turns
              · have HV2 : Hid (nth (leaveD L ⟨p0, p1, p2, q0, q1, q2, r⟩ ⟨pc, st, ops⟩ O B R turns) k = nth R ((pl + turns - 1) % r).toNat) := by show _ = _; rw [HVL.out, if_pos htp]
                obtain ⟨rr, hrr⟩ : ∃ rr : Nat, (pl + turns - 1) % r = (rr : Int) := ⟨((pl + turns - 1) % r).toNat, by have := Int.emod_nonneg (pl + turns - 1) (show r ≠ 0 by omega); omega⟩
                have hrrl := Int.emod_lt_of_pos (pl + turns - 1) (show 0 < r by omega)
                rw [hrr] at hrrl HV2
                rw [Int.toNat_natCast] at HV2
                obtain ⟨xr1, xr2, her, hr3, hr4, -, hrcc⟩ := HRC.out.below HW.out
                injection her with er1 er2 er3
                subst er1; subst er3
                unfold maxLen at hr4
                obtain ⟨rb, ro, rfl, hrz, hrcell⟩ := hrcc (by omega)
                have cR := hrcell rr (by omega)
                have hri : (rr : Int) < (R.length : Int) := by omega
                have hw1 : wrap64 (pl + turns) = pl + turns := by unfold wrap64; omega
                have hw2 : wrap64 (pl + turns - 1) = pl + turns - 1 := by unfold wrap64; omega
                have HLE := hide (HLE0.out (pl + turns - 1) (by omega) (by omega))
                simp only at HLE
                rw [hrr] at HLE
                generalize nth R rr = rv at *
                rw [HV2.out] at HTK
                clear hrcc hrcell hrr er2 HVL HV2 hrl HLE0 HRC HBC
                go_wp2_with fail
                refine HLE.out.mono ?_
                rintro e w1 ⟨rfl, n1, rfl⟩
                go_wp2_with (at_builtin; refine wpList_append_own _ rfl (.tmp 82) (.tmp 84) 46 rfl x2.heap.size 2 j0 (.int .i64 0) 1 8 Try.underlying46 ji jz0 jz1 jz2 rfl (by decide) _ _ _ rfl (own_below HOW.out (by first | exact (below_draws _ _ _).alloc (Nat.le_refl _) _ | exact (below_alloc1 _ _).trans (below_draws _ _ _))) ⟨wr.heap.size, 0, none⟩ 1 1 [.int .i64 rv] rfl rfl (by exact one_cell _ _ _) (by intro u hu; simp at hu; subst hu; rfl) (by unfold maxLen; omega) (by omega) (by simp; omega) ?_; intro v2' w2 hown2 hgrow2 hnil2; obtain ⟨oa2, oc2, rfl, hl1', hl2'⟩ := own_shape hown2; have HO2 := hide hown2; have HG2 := hide hgrow2; clear hown2 hgrow2)
                go_roundw
                case rel =>
                  have h2 := HO2.out
                  rw [HTK.out] at h2
                  exact ⟨k + 1, by omega, by go_num, oa2, oc2, rfl, h2, (HBL.out.trans (((below_draws _ _ _).alloc (Nat.le_refl _) _).mono HBL.out.size)).grown HG2.out (by simp; omega) (fun g hg => own_block_ge HOW.out g hg)⟩
                case measure => simp [intOf]; omega
              · have HV2 : Hid (nth (leaveD L ⟨p0, p1, p2, q0, q1, q2, r⟩ ⟨pc, st, ops⟩ O B R turns) k = b0) := by show _ = _; rw [HVL.out, if_neg htp]
                rw [HV2.out] at HTK
                clear HVL HV2 hrl HLE0 HRC HBC
                go_wp2_with (at_builtin; refine wpList_append_own _ rfl (.tmp 82) (.tmp 84) 46 rfl x2.heap.size 2 j0 (.int .i64 0) 1 8 Try.underlying46 ji jz0 jz1 jz2 rfl (by decide) _ _ _ rfl (own_below HOW.out (below_alloc1 _ _)) ⟨wr.heap.size, 0, none⟩ 1 1 [.int .i64 b0] rfl rfl (by exact one_cell _ _ _) (by intro u hu; simp at hu; subst hu; rfl) (by unfold maxLen; omega) (by omega) (by simp; omega) ?_; intro v2' w2 hown2 hgrow2 hnil2; obtain ⟨oa2, oc2, rfl, hl1', hl2'⟩ := own_shape hown2; have HO2 := hide hown2; have HG2 := hide hgrow2; clear hown2 hgrow2)
                go_roundw
                case rel =>
                  have h2 := HO2.out
                  rw [HTK.out] at h2
                  exact ⟨k + 1, by omega, by go_num, oa2, oc2, rfl, h2, (HBL.out.alloc (by omega) _).grown HG2.out (by simp; omega) (fun g hg => own_block_ge HOW.out g hg)⟩
                case measure => simp [intOf]; omega
            · have e : k = L.outs.length := by omega
              subst e
              have hki : ¬ (L.outs.length : Int) < (L.outs.length : Int) := by omega
              have HFIN : Hid (Ints wr (.slice ua L.outs.length uc) (leaveD L ⟨p0, p1, p2, q0, q1, q2, r⟩ ⟨pc, st, ops⟩ O B R turns)) := by
                have h := HOW.out
                have e1 : (leaveD L ⟨p0, p1, p2, q0, q1, q2, r⟩ ⟨pc, st, ops⟩ O B R turns).take L.outs.length = (leaveD L ⟨p0, p1, p2, q0, q1, q2, r⟩ ⟨pc, st, ops⟩ O B R turns) := by rw [← HLN.out]; exact List.take_length
                rw [e1] at h
                refine ints_of_own (base := x2.heap.size) ?_ HIN.out
                rw [HLN.out]; exact h
              clear hown hbel
              go_wp2_with fail
              exact bodyPost_ret (v := .tuple #[.slice ua L.outs.length uc, .int .i64 0]) (by simp [results, Try.results19, go_sem]) rfl (lv_yes HN.out HI.out HW.out HFIN.out)
      · have HN : Hid ((takenD L ⟨p0, p1, p2, q0, q1, q2, r⟩ ⟨pc, st, ops⟩ O && befB L B && decide ((R.length : Int) = r)) = false) := by show _ = _; rw [decide_eq_false hrl]; simp
        have hrb : ((R.length : Int) != r) = true := by simp [hrl]
        clear hbd
        go_wp2_with fail
        exact bodyPost_ret (v := .tuple #[.slice none 0 0, .int .i64 2]) (by simp [results, Try.results19, go_sem]) rfl (lv_no HN.out HBX2.out)
theorem cleave_any (hM : MayC) (hE : EdgesC) : LeaveC := by
  intro v kv ov bv rv t L K O B R turns w hL hK hO hB hR
  obtain ⟨a0, a1, a2, ka, oa, cap0, cap1, cap2, kc, oc, rfl, rfl, rfl, hOp⟩ := cthree_open hL hK hO
  have hB' := hB
  obtain ⟨ba, bc, rfl, -⟩ := hB'
  have hR' := hR
  obtain ⟨ra, rc, rfl, -⟩ := hR'
  exact cleave_walk hM hE t.u0 t.u1 t.u2 t.w0 t.w1 t.w2 t.r K.pc K.st K.ops L O R B turns a0 a1 a2 ka oa ba ra cap0 cap1 cap2 kc oc bc rc w hL hOp hO hB hR
end Go.Proofs.Ytbpaffkkphacdab
/- Package check's Enter: what is in the registers ahead of the first turn; nothing that was there is changed. -/
namespace Go.Proofs.Ytbpaffkkphacdab
open Go.RowKit Go.Joins Go.Maps
set_option linter.unusedVariables false
set_option linter.unusedSimpArgs false
set_option maxRecDepth 8192

/-- what was put so far, whichever is still to come -/
def EntR (F V : List Int) (p : Nat) (left : Lit → Bool) (g : Nat → Int) : Prop :=
  (∀ i, i < p → left (.int .i64 (nth F i)) = false → g (nth F i).toNat = nth V i) ∧ ∀ z : Nat, (left (.int .i64 (z : Int)) = true ∨ ∀ i, i < p → nth F i ≠ z) → g z = 0
theorem EntR.start {F V : List Int} {p : Nat} {D : DataW Unit} (h : ∀ z, Maps.has D (.int .i64 z) = true ↔ ∃ i, i < p ∧ nth F i = z) : EntR F V p (Maps.has D) (fun _ => 0) :=
  ⟨fun i hi h2 => (by rw [(h _).2 ⟨i, hi, rfl⟩] at h2; cases h2), fun z _ => rfl⟩
theorem int_key (z : Int) : WideAt.IsKeyLit (.int .i64 z) := trivial
theorem EntR.step {F V : List Int} {p i : Nat} {left : Lit → Bool} {g : Nat → Int} (h : EntR F V p left g) (hi : i < p) (hl : left (.int .i64 (nth F i)) = true) (hd : ∀ i j, i < j → j < p → nth F i ≠ nth F j) (h0 : ∀ i, i < p → 0 ≤ nth F i) :
    EntR F V p (fun z => left z && !z.sameKey (.int .i64 (nth F i))) (fun z => if z = (nth F i).toNat then nth V i else g z) := by
  have hinj : ∀ a b, a < p → b < p → nth F a = nth F b → a = b := fun a b ha hb e => by
    by_cases h1 : a < b
    · exact absurd e (hd a b h1 hb)
    · by_cases h2 : b < a
      · exact absurd e.symm (hd b a h2 ha)
      · omega
  refine ⟨fun j hj h2 => ?_, fun z h2 => ?_⟩
  · by_cases e : nth F j = nth F i
    · have := hinj j i hj hi e
      subst this
      exact if_pos rfl
    · have hne : (nth F j).toNat ≠ (nth F i).toNat := by have := h0 j hj; have := h0 i hi; omega
      show (if (nth F j).toNat = (nth F i).toNat then nth V i else g (nth F j).toNat) = _
      rw [if_neg hne]
      have h3 : (left (.int .i64 (nth F j)) && !(Lit.int .i64 (nth F j)).sameKey (.int .i64 (nth F i))) = false := h2
      rw [sameKey_ne (fun h => e (by injection h))] at h3
      exact h.1 j hj (by simpa using h3)
  · have hz : z ≠ (nth F i).toNat := by
      intro e
      have e2 : nth F i = z := by have := h0 i hi; omega
      rcases h2 with h2 | h2
      · have h3 : (left (.int .i64 (z : Int)) && !(Lit.int .i64 (z : Int)).sameKey (.int .i64 (nth F i))) = true := h2
        rw [e2, WideAt.sameKey_self (int_key _)] at h3
        simp at h3
      · exact h2 i hi e2
    show (if z = (nth F i).toNat then nth V i else g z) = 0
    rw [if_neg hz]
    refine h.2 z ?_
    rcases h2 with h2 | h2
    · have h3 : (left (.int .i64 (z : Int)) && !(Lit.int .i64 (z : Int)).sameKey (.int .i64 (nth F i))) = true := h2
      rw [Bool.and_eq_true] at h3
      exact .inl h3.1
    · exact .inr h2
theorem EntR.fin {F V : List Int} {p : Nat} {left : Lit → Bool} {g : Nat → Int} (h : EntR F V p left g) (hl : ∀ kl, left kl = false) (hd : ∀ i j, i < j → j < p → nth F i ≠ nth F j) (h0 : ∀ i, i < p → 0 ≤ nth F i) (z : Nat) : g z = putsN F V p z := by
  by_cases e : ∃ i, i < p ∧ nth F i = z
  · obtain ⟨i, hi, e⟩ := e
    have h1 := h.1 i hi (hl _)
    have h2 := puts_at (F := F) (V := V) p (fun a b hab hb he => hd a b hab hb (by have := h0 a (by omega); have := h0 b hb; omega)) i hi
    rw [e] at h1 h2
    rw [show ((z : Int)).toNat = z from rfl] at h1 h2
    rw [h1, h2]
  · have hn : ∀ i, i < p → nth F i ≠ z := fun i hi h => e ⟨i, hi, h⟩
    rw [h.2 z (.inr hn), puts_not p (fun i hi h => hn i hi (by have := h0 i hi; omega))]
/-- what Enter tells -/
def EnterPost (L : Lp) (t : Tg) (K : Kn) (O : List Int) (B : List (List Int)) (w : World) (e : Ending) (w' : World) : Prop :=
  Below w.heap.size w w' ∧ ∃ ra rl rc c, e = .returned (.tuple #[.slice ra rl rc, .int .i64 c]) ∧ ((takenD L t K O && befB L B) = false → c = 2 ∧ rl = 0) ∧ ((takenD L t K O && befB L B) = true → c = 0 ∧ Ints w' (.slice ra rl rc) (enterD L t K O B))
variable {L : Lp} {t : Tg} {K : Kn} {O : List Int} {B : List (List Int)} {w w' : World}
theorem en_no (h : (takenD L t K O && befB L B) = false) (hb : Below w.heap.size w w') : EnterPost L t K O B w (.returned (.tuple #[.slice none 0 0, .int .i64 2])) w' :=
  ⟨hb, none, 0, 0, 2, rfl, fun _ => ⟨rfl, rfl⟩, fun h2 => (by rw [h] at h2; cases h2)⟩
theorem en_yes {ra : Option Addr} {rl rc : Nat} (h : (takenD L t K O && befB L B) = true) (hb : Below w.heap.size w w') (hi : Ints w' (.slice ra rl rc) (enterD L t K O B)) : EnterPost L t K O B w (.returned (.tuple #[.slice ra rl rc, .int .i64 0])) w' :=
  ⟨hb, ra, rl, rc, 0, rfl, fun h2 => (by rw [h] at h2; cases h2), fun _ => ⟨rfl, hi⟩⟩
theorem key_inv (key : Value) (kl : Lit) (h : keyOf Try.prog 3 key = some kl) : ∃ x : Int, key = .int .i64 x := by
  obtain ⟨x, e, -⟩ := Maps.keyOf_int_inv Try.underlying3 h
  exact ⟨x, e⟩
theorem val_inv (v : Value) (y : DataW Unit × List MemPlace) (h : refElem v = some y) : ∃ c : Int × Int, v = .agg #[.int .i64 c.1, .int .i64 c.2] := by
  obtain ⟨a, q, e, -⟩ := refElem_inv h
  exact ⟨(a, q), e⟩

/-- the step of a range over a map of Refs -/
theorem next_refs (w : World) {ops : Array Oper} {rest : List Oper} {o : Oper} {a : Act} {Q : Exit → Act → World → Prop} (hg : o.guard = none) (it : Operand) (hop : o.op = Op.next it false)
    (b r n : Nat) (D : DataW Unit) (left : Lit → Bool) (cnt : Nat) (hit : a.eval it = .pointer (some ⟨r, 0, none⟩)) (h : w.ranges Try.prog 3 refElem b r n D left cnt)
    (hDone : cnt = 0 → (∀ kl, left kl = false) → wpList Try.prog ops Q rest (a.put o.dst (.tuple #[.bool false])) w)
    (hMore : ∀ (x ca cq : Int) (w' : World) (cnt' : Nat), (Lit.int .i64 x).wf = true → left (.int .i64 x) = true → (∀ zd, D.atKey (.int .i64 x) zd = refDat ca cq) → w'.ranges Try.prog 3 refElem b r n D (fun z => left z && !z.sameKey (.int .i64 x)) cnt' → cnt' < cnt →
      w.grownBy w' (some r) → w'.heap.size = w.heap.size → (Instr.entry (.pointer (some ⟨r, 0, none⟩))).run Try.prog w' = .ok (.tuple #[.int .i64 x, .agg #[.int .i64 ca, .int .i64 cq]]) w' → wpList Try.prog ops Q rest (a.put o.dst (.tuple #[.bool true, .int .i64 x, .agg #[.int .i64 ca, .int .i64 cq]])) w') :
    wpList Try.prog ops Q (o :: rest) a w :=
  wpList_next_ranges w hg it hop 3 intLaw refElem (Value.int .i64) (fun p : Int × Int => .agg #[.int .i64 p.1, .int .i64 p.2]) key_inv val_inv b r n D left cnt hit h hDone (fun x c kl y w' cnt' hkey hlk hv hat hrg hlt hgr hsz hen => by
    obtain ⟨x', ex, rfl, hwx⟩ := Maps.keyOf_int_inv Try.underlying3 hkey
    injection ex with ex1 ex2
    subst ex2
    have hy : y = (refDat c.1 c.2, []) := Option.some.inj (hv.symm.trans (refElem_mk c.1 c.2))
    subst hy
    exact hMore x c.1 c.2 w' cnt' hwx hlk hat hrg hlt hgr hsz hen)
set_option maxHeartbeats 16000000 in
theorem center_walk (hM : MayC) (hE : EdgesC) (p0 p1 p2 q0 q1 q2 r pc st : Int) (ops : List Kop) (L : Lp) (O : List Int) (B : List (List Int)) (a0 a1 a2 ka oa ba : Option Addr) (cap0 cap1 cap2 kc oc bc : Nat) (w : World) (hL : LoopV w (.agg #[.slice a0 L.logs.length cap0, .slice a1 L.body.length cap1, .slice a2 L.outs.length cap2]) L) (hK : OpsV w (.slice ka ops.length kc) ops) (hO : Ints w (.slice oa O.length oc) O) (hB : IntRows w (.slice ba B.length bc) B) :
    Calls Try.prog 18 #[.agg #[.slice a0 L.logs.length cap0, .slice a1 L.body.length cap1, .slice a2 L.outs.length cap2], .agg #[.int .i64 p0, .int .i64 p1, .int .i64 p2, .int .i64 q0, .int .i64 q1, .int .i64 q2, .int .i64 r], .agg #[.int .i64 pc, .int .i64 st, .slice ka ops.length kc], .slice oa O.length oc, .slice ba B.length bc] w (EnterPost L ⟨p0, p1, p2, q0, q1, q2, r⟩ ⟨pc, st, ops⟩ O B w) := by
  have HBZ := hide (below_alloc3 w (.cells #[.slice a0 L.logs.length cap0, .slice a1 L.body.length cap1, .slice a2 L.outs.length cap2] 25) (.cells #[.int .i64 p0, .int .i64 p1, .int .i64 p2, .int .i64 q0, .int .i64 q1, .int .i64 q2, .int .i64 r] 28) (.cells #[.int .i64 pc, .int .i64 st, .slice ka ops.length kc] 40))
  have HS3 : Hid ((((w.alloc (.cells #[.slice a0 L.logs.length cap0, .slice a1 L.body.length cap1, .slice a2 L.outs.length cap2] 25)).alloc (.cells #[.int .i64 p0, .int .i64 p1, .int .i64 p2, .int .i64 q0, .int .i64 q1, .int .i64 q2, .int .i64 r] 28)).alloc (.cells #[.int .i64 pc, .int .i64 st, .slice ka ops.length kc] 40)).heap.size = w.heap.size + 1 + 1 + 1) := by show _ = _; simp
  have HTK := hide (ctake_any hM hE p0 p1 p2 q0 q1 q2 r pc st ops L O a0 a1 a2 ka oa cap0 cap1 cap2 kc oc (((w.alloc (.cells #[.slice a0 L.logs.length cap0, .slice a1 L.body.length cap1, .slice a2 L.outs.length cap2] 25)).alloc (.cells #[.int .i64 p0, .int .i64 p1, .int .i64 p2, .int .i64 q0, .int .i64 q1, .int .i64 q2, .int .i64 r] 28)).alloc (.cells #[.int .i64 pc, .int .i64 st, .slice ka ops.length kc] 40)) (hL.below HBZ.out) (hK.below HBZ.out) (hO.below HBZ.out))
  have HBF := hide (fun W (hb : Below w.heap.size w W) => cbefore_any L (.slice a0 L.logs.length cap0) (.slice a2 L.outs.length cap2) a1 cap1 (.slice ba B.length bc) B W (hB.below hb))
  have hBin := rows_in10 hB
  have HIN := hide (fun m c => puts_in (F := firstL L ⟨p0, p1, p2, q0, q1, q2, r⟩ ⟨pc, st, ops⟩ O) (V := beforeJ L B L.body.length) (flat_in _ _ (fun s q => hBin s q) _) m c)
  have HBC := hide hB
  clear hL hK hO hM hE hB hBin
  go_enter Try.func18, Try.ntmps18
  go_wp2_with fail
  refine HTK.out.mono ?_
  rintro e x1 ⟨pv, rfl, hb, htk⟩
  rw [HS3.out] at hb
  have HB1 := hide hb
  obtain ⟨⟨l0, l1, l2⟩, ⟨t0, t1, t2, t3, t4, t5, t6⟩, ⟨k0, k1, k2⟩, hz, hbw⟩ := lkbox_cells hb
  have HBX := hide hbw
  have hx1 : w.heap.size + 1 + 1 + 1 ≤ x1.heap.size := by have := HB1.out.size; rw [HS3.out] at this; exact this
  have HTAK := hide htk
  clear hb hbw HTK HBZ htk
  cases htd : takenD L ⟨p0, p1, p2, q0, q1, q2, r⟩ ⟨pc, st, ops⟩ O with
  | false =>
    have HN : Hid ((takenD L ⟨p0, p1, p2, q0, q1, q2, r⟩ ⟨pc, st, ops⟩ O && befB L B) = false) := by show _ = _; rw [htd]; rfl
    clear htd
    go_wp2_with fail
    exact bodyPost_ret (v := .tuple #[.slice none 0 0, .int .i64 2]) (by simp [results, Try.results18, go_sem]) rfl (en_no HN.out HBX.out)
  | true =>
    obtain ⟨c, M, rfl, hsv, hlr, hms⟩ := HTAK.out htd
    have hlay : layD L ⟨p0, p1, p2, q0, q1, q2, r⟩ ⟨pc, st, ops⟩ O = true := by
      cases hl : layD L ⟨p0, p1, p2, q0, q1, q2, r⟩ ⟨pc, st, ops⟩ O with
      | true => rfl
      | false => rw [ctaken_no hl] at htd; cases htd
    have hbeg : beginsD L ⟨p0, p1, p2, q0, q1, q2, r⟩ ⟨pc, st, ops⟩ O = true := by
      have h := htd
      rw [taken_eq hlay] at h
      simp only [Bool.and_eq_true] at h
      exact h.1.1.1.1
    have HTD := hide htd
    have HLR1 := hide hlr
    have HLAY := hide hlay
    have HBG := hide hbeg
    have HMS1 := hide hms
    have HSV := hide hsv
    clear htd hsv hlr hms hlay HTAK hbeg
    go_wp2_with fail
    refine (HBF.out x1 HBX.out).mono ?_
    rintro e x2 ⟨rfl, hb⟩
    have HB2 := hide (HB1.out.trans (hb.mono hx1))
    have HLR2 := hide (HLR1.out.below hb)
    have HMS2 := hide (HMS1.out.of_block (hb.block _ HMS1.out.lt))
    clear hb l0 l1 l2 t0 t1 t2 t3 t4 t5 t6 k0 k1 k2 hz HLR1 HBF HMS1
    obtain ⟨⟨l0, l1, l2⟩, ⟨t0, t1, t2, t3, t4, t5, t6⟩, ⟨k0, k1, k2⟩, hz, hbw⟩ := lkbox_cells HB2.out
    have HBX2 := hide hbw
    clear hbw HB1 HBX hx1
    cases hbd : befB L B with
    | false =>
      have HN : Hid ((takenD L ⟨p0, p1, p2, q0, q1, q2, r⟩ ⟨pc, st, ops⟩ O && befB L B) = false) := by show _ = _; rw [hbd]; simp
      clear hbd
      go_wp2_with fail
      exact bodyPost_ret (v := .tuple #[.slice none 0 0, .int .i64 2]) (by simp [results, Try.results18, go_sem]) rfl (en_no HN.out HBX2.out)
    | true =>
      have HBD : Hid (B.length = L.body.length ∧ ∀ i, i < B.length → (rowAt B i).length = 3) := by
        have hb3 := hbd
        unfold befB at hb3
        rw [Bool.and_eq_true] at hb3
        exact ⟨of_decide_eq_true hb3.1, fun i hi => of_decide_eq_true (allN_get hb3.2 i hi)⟩
      have HN : Hid ((takenD L ⟨p0, p1, p2, q0, q1, q2, r⟩ ⟨pc, st, ops⟩ O && befB L B) = true) := by show _ = _; rw [HTD.out, hbd]; rfl
      obtain ⟨hm, -⟩ := lay_parts HLAY.out
      obtain ⟨⟨-, -, hr1⟩, -⟩ := lay_range HLAY.out
      obtain ⟨-, hn1, hn16, -⟩ := may_parts hm
      have hr2 : r ≤ 128 := by
        obtain ⟨-, -, -, -, -, -, -, -, hr2, -⟩ := lay_ops HLAY.out (s := 0) (by omega)
        exact hr2
      simp only at hr1
      have HDI : Hid (∀ i j, i < j → j < posL L L.body.length → nth (firstL L ⟨p0, p1, p2, q0, q1, q2, r⟩ ⟨pc, st, ops⟩ O) i ≠ nth (firstL L ⟨p0, p1, p2, q0, q1, q2, r⟩ ⟨pc, st, ops⟩ O) j) := fun i j hij hj => by
        have h := HBG.out
        have e : beginsD L ⟨p0, p1, p2, q0, q1, q2, r⟩ ⟨pc, st, ops⟩ O = allN (freshJ (firstL L ⟨p0, p1, p2, q0, q1, q2, r⟩ ⟨pc, st, ops⟩ O)) (posL L L.body.length) := by show allN (freshJ (firstL L ⟨p0, p1, p2, q0, q1, q2, r⟩ ⟨pc, st, ops⟩ O)) (firstL L ⟨p0, p1, p2, q0, q1, q2, r⟩ ⟨pc, st, ops⟩ O).length = _; rw [first_len]
        rw [e] at h
        have h6 := allN_get (allN_get h j hj) i hij
        simpa using h6
      have HFG : Hid (∀ i, i < posL L L.body.length → 0 ≤ nth (firstL L ⟨p0, p1, p2, q0, q1, q2, r⟩ ⟨pc, st, ops⟩ O) i ∧ nth (firstL L ⟨p0, p1, p2, q0, q1, q2, r⟩ ⟨pc, st, ops⟩ O) i < r) := fun i hi => firsts_range (t := ⟨p0, p1, p2, q0, q1, q2, r⟩) hr1 L ⟨pc, st, ops⟩ O (k := L.body.length) hi
      have HWH : Hid (∀ i, i < posL L L.body.length → ∃ s q : Nat, s < L.body.length ∧ q < 3 ∧ nth (whoL L) i = s ∧ nth (whichL L) i = (q : Int) + 1 ∧ nth (beforeJ L B L.body.length) i = nth (rowAt B s) q) := fun i hi => by
        obtain ⟨s, q, h1, h2, h3⟩ := flat_inv (farLen L) L.body.length i hi
        have h4 := far_small hm s
        obtain ⟨-, f2, f3⟩ := first_at (t := ⟨p0, p1, p2, q0, q1, q2, r⟩) (K := ⟨pc, st, ops⟩) (O := O) h1 h2
        refine ⟨s, q, h1, by omega, ?_, ?_, ?_⟩
        · rw [h3]; exact f2
        · rw [h3]; exact f3
        · rw [h3]; exact flat_at (farLen L) (fun s q => nth (rowAt B s) q) L.body.length s q h1 h2
      have HEQ : Hid (enterD L ⟨p0, p1, p2, q0, q1, q2, r⟩ ⟨pc, st, ops⟩ O B = (List.range r.toNat).map (putsN (firstL L ⟨p0, p1, p2, q0, q1, q2, r⟩ ⟨pc, st, ops⟩ O) (beforeJ L B L.body.length) (posL L L.body.length))) := rfl
      obtain ⟨rn, hrn⟩ : ∃ rn : Nat, r = (rn : Int) := ⟨r.toNat, by omega⟩
      subst hrn
      rw [Int.toNat_natCast] at HEQ
      obtain ⟨-, -, -, -, -, -, -, -, -, y9⟩ := HLR2.out.cells
      rw [HSV.out] at y9
      have hyz := HLR2.out.lt
      have hmk := run_make_row' (P := Try.prog) 46 2 (.int .i64 0) 8 Try.underlying46 Try.i2 rfl .i64 .i64 rn (by omega) (by omega)
      obtain ⟨D, hown, hisD, hhas, hat0⟩ := HMS2.out
      have HOWN := hide hown
      have HHAS := hide hhas
      have HAT := hide hat0
      have HZR : Hid (RowF (x2.alloc (.cells (madeCells #[.int .i64 0] rn) 2)) x2.heap.size 2 rn (fun c => .int .i64 ((fun _ : Nat => (0 : Int)) c))) := RowF.zeros x2 _ rn _
      have y9A : (x2.alloc (.cells (madeCells #[.int .i64 0] rn) 2)).cell? ⟨c.y, 9, none⟩ = some (.map (some M)) := (bcell (below_alloc1 x2 _) c.y 9 hyz).trans y9
      obtain ⟨X, hX⟩ : ∃ X, x2.alloc (.cells (madeCells #[.int .i64 0] rn) 2) = X := ⟨_, rfl⟩
      have hXz : X.heap.size = x2.heap.size + 1 := by rw [← hX]; simp
      have HXZ := hide hXz
      have hMz := HOWN.out.lt
      have HOX : Hid (X.ownsMap Try.prog 3 refElem M (posL L L.body.length) D) := by rw [← hX]; exact hown.alloc _
      have HXB : Hid (Below x2.heap.size x2 X) := by rw [← hX]; exact below_alloc1 _ _
      rw [hX] at HZR
      have HXE := hide hX
      clear hbd hm hown hhas hat0 hX y9 hXz
      go_wp2_with (first
        | (at_range; rw [HXE.out]; refine wpList_range_own _ rfl _ 106 rfl 3 74 intLaw Try.underlying106 refElem M (posL L L.body.length) D rfl HOX.out ?_; intro w0 hrg0 hg0 hs0)
        | fail)
      go_frame
      clear l0 l1 l2 t0 t1 t2 t3 t4 t5 t6 k0 k1 k2 hz y9A
      obtain ⟨r0, hr0⟩ : ∃ r0, X.heap.size = r0 := ⟨_, rfl⟩
      rw [hr0] at hrg0 hs0 HXZ ⊢
      have HRG0 := hide hrg0
      have HG0 := hide hg0
      have hrx : x2.heap.size < r0 := by rw [HXZ.out]; omega
      have HGN : Hid (∀ {u u' : World} {row : Option Nat}, Below u.heap.size u u' → u.grownBy u' row) := fun hb => ⟨hb.os, hb.tape, hb.output, hb.size, fun i hi _ => hb.block i hi⟩
      clear hrg0 hg0 hs0 hr0 hmk
      go_loopw [15] (fun _ wr => ∃ (left : Lit → Bool) (cnt : Nat) (g : Nat → Int), wr.ranges Try.prog 3 refElem M r0 (posL L L.body.length) D left cnt ∧ RowF wr x2.heap.size 2 rn (fun z => .int .i64 (g z)) ∧ EntR (firstL L ⟨p0, p1, p2, q0, q1, q2, (rn : Int)⟩ ⟨pc, st, ops⟩ O) (beforeJ L B L.body.length) (posL L L.body.length) left g ∧ Below x2.heap.size x2 wr) (fun _ wr => wr.rangeLeft M r0)
      case atStart => exact ⟨_, _, _, HRG0.out, HZR.out.grown HG0.out (by simp), EntR.start HHAS.out, HXB.out.grown HG0.out (by rw [← HXE.out]; simp) (fun j hj => by cases hj)⟩
      case round =>
        clear HRG0 HG0 HZR
        obtain ⟨left, cnt, g, hrg, hrow, hent, hbel⟩ := hrel
        have HRW := hide hrow
        have HEN := hide hent
        have HBL := hide hbel
        have HRG := hide hrg
        have hrz : r0 < wr.heap.size := hrg.lt
        clear hrow hent hbel
        go_wp2_with (first
          | (at_next; refine next_refs _ rfl _ rfl M r0 (posL L L.body.length) D left cnt rfl HRG.out ?_ ?_)
          | fail)
        · intro hc0 hl0
          have HFIN : Hid (Ints wr (.slice (some ⟨x2.heap.size, 0, none⟩) rn rn) (enterD L ⟨p0, p1, p2, q0, q1, q2, (rn : Int)⟩ ⟨pc, st, ops⟩ O B)) := by
            rw [HEQ.out]
            refine ints_of_row (e := 2) ?_ (by unfold maxLen; omega) (HIN.out _)
            refine HRW.out.congr fun z hz => ?_
            rw [HEN.out.fin hl0 HDI.out (fun i hi => (HFG.out i hi).1) z]
          have HWF := hide (HBX2.out.trans (HBL.out.mono HBX2.out.size))
          clear hc0 hl0 hrg
          go_wp2_with fail
          exact bodyPost_ret (v := .tuple #[.slice (some ⟨x2.heap.size, 0, none⟩) rn rn, .int .i64 0]) (by simp [results, Try.results18, go_sem]) rfl (en_yes HN.out HWF.out HFIN.out)
        · intro x ca cq w1 cnt1 hwx hlk hat hrg1 hlt hg1 hs1 hen
          obtain ⟨i, hi, hFi⟩ := (HHAS.out x).1 (Maps.has_true_of_atKey hat)
          have hpr : refDat ca cq = refDat (nth (whoL L) i) (nth (whichL L) i) := by
            have h1 := HAT.out i hi (.lit (.int .i64 0))
            rw [hFi] at h1
            exact (hat _).symm.trans h1
          obtain ⟨s, q, hs, hq3, f2, f3, f4⟩ := HWH.out i hi
          rw [f2, f3] at hpr
          obtain ⟨rfl, rfl⟩ : ca = (s : Int) ∧ cq = (q : Int) + 1 := by
            unfold refDat at hpr
            injection hpr with hpr
            injection hpr with h1 h2
            injection h2 with h2 _
            injection h1 with h1
            injection h2 with h2
            injection h1 with _ h1
            injection h2 with _ h2
            exact ⟨h1, h2⟩
          obtain ⟨g1, g2⟩ := HFG.out i hi
          rw [hFi] at g1 g2
          obtain ⟨zn, rfl⟩ : ∃ zn : Nat, x = zn := ⟨x.toNat, by omega⟩
          have hzr : zn < rn := by omega
          have hzi : (zn : Int) < (rn : Int) := by omega
          have hb1 : Below x2.heap.size x2 w1 := HBL.out.grown hg1 (by omega) (fun j hj => by injection hj with hj; omega)
          have hw1 := HBX2.out.trans (hb1.mono HBX2.out.size)
          obtain ⟨hBl, hB3⟩ := HBD.out
          obtain ⟨xb1, xb2, heb, hbb1, hbb2, hbbc⟩ := HBC.out.below hw1
          injection heb with eb1 eb2 eb3
          subst eb1; subst eb3
          unfold maxLen at hbb2
          obtain ⟨bb, bo, rfl, hbbz, hbbcell⟩ := hbbc (by omega)
          obtain ⟨u, hu, hui⟩ := hbbcell s (by omega)
          obtain ⟨va, vc, rfl, hv1, hv2, -, hvc⟩ := hui
          rw [hB3 s (by omega)] at hu hv1 hvc
          unfold maxLen at hv2
          obtain ⟨vb, vo, rfl, hvb, hvcell⟩ := hvc (by omega)
          have cV := hvcell q (by omega)
          have hBi : (s : Int) < (B.length : Int) := by omega
          have hq3i : (q : Int) < 3 := by omega
          have hwq : wrap64 ((q : Int) + 1 - 1) = q := by unfold wrap64; omega
          have hwq2 : IntKind.i64.wrap ((q : Int) + 1 - 1) = q := by rw [wrapC (by omega) (by omega)]; omega
          have hwq3 : IntKind.i64.wrap (q : Int) = q := wrapC (by omega) (by omega)
          have HVV := hide f4
          obtain ⟨bv, hbv⟩ : ∃ bv, nth (rowAt B s) q = bv := ⟨_, rfl⟩
          rw [hbv] at cV HVV
          have HFI := hide hFi
          have HI := hide hi
          have HLK := hide hlk
          have HRG1 := hide hrg1
          have HLT := hide hlt
          have hrow1 : RowF w1 x2.heap.size 2 rn (fun z => .int .i64 (g z)) := HRW.out.grown hg1 (by intro e; injection e with e; omega)
          have HRW1 := hide hrow1
          obtain ⟨W, hW⟩ : ∃ W, w1.alloc (.cells #[.int .i64 (s : Int), .int .i64 ((q : Int) + 1)] 74) = W := ⟨_, rfl⟩
          have hWb : Below w1.heap.size w1 W := by rw [← hW]; exact below_alloc1 _ _
          have hWr : W.heap[w1.heap.size]? = some (.cells #[.int .i64 (s : Int), .int .i64 ((q : Int) + 1)] 74 (0, 0)) := by rw [← hW]; exact new_blkC _ _ _
          have hxz1 : x2.heap.size < w1.heap.size := hrow1.lt
          have HS8 : Hid (W.drew.cell? ⟨w1.heap.size, 0, none⟩ = some (.int .i64 (s : Int)) ∧ W.drew.cell? ⟨w1.heap.size, 1, none⟩ = some (.int .i64 ((q : Int) + 1)) ∧ W.drew.cell? ⟨bb, bo + s, none⟩ = some (.slice (some ⟨vb, vo, none⟩) 3 vc) ∧ W.drew.cell? ⟨vb, vo + q, none⟩ = some (.int .i64 bv) ∧ W.drew.cell? ⟨x2.heap.size, zn, none⟩ = some (.int .i64 (g zn))) := ⟨by show W.cell? _ = _; rw [cell_of_block hWr]; rfl, by show W.cell? _ = _; rw [cell_of_block hWr]; rfl, (bcell hWb bb (bo + s) hbbz).trans hu, (bcell hWb vb (vo + q) hvb).trans cV, (bcell hWb x2.heap.size zn hxz1).trans (hrow1.cell hzr)⟩
          have HWE := hide hW
          have HWB := hide hWb
          have HB1 := hide hb1
          have hfW : W.frozen? ⟨x2.heap.size, zn, none⟩ = false := by rw [← hW]; exact (hrow1.alloc _).frozen zn
          have cfW : W.cell? ⟨x2.heap.size, zn, none⟩ = some (.int .i64 (g zn)) := (bcell hWb x2.heap.size zn hxz1).trans (hrow1.cell hzr)
          have hWz : w1.heap.size < W.heap.size := (Array.getElem?_eq_some_iff.1 hWr).1
          clear hbbc hbbcell hvc hvcell hu cV hbv f2 f3 f4 hFi hi hlk hrg1 hlt hrow1 hW hWb hWr hb1 hw1 hBl hB3 eb2 hat hpr hg1 hs1 hrg
          go_wp2_with fail
          rw [HWE.out]
          refine wp_region_noPanic ?_
          refine region_until 13 (fun w' => w'.cell? ⟨w1.heap.size, 0, none⟩ = some (.int .i64 (s : Int)) ∧ w'.cell? ⟨w1.heap.size, 1, none⟩ = some (.int .i64 ((q : Int) + 1)) ∧ w'.cell? ⟨bb, bo + s, none⟩ = some (.slice (some ⟨vb, vo, none⟩) 3 vc) ∧ w'.cell? ⟨vb, vo + q, none⟩ = some (.int .i64 bv) ∧ w'.cell? ⟨x2.heap.size, zn, none⟩ = some (.int .i64 (g zn))) (by kernel_rfl) HS8.out (fun hHeld => ?_)
          refine utk (i := 0) rfl hHeld ?_
          try simp only [Act.put, List.setIfInBounds_toArray, List.set_cons_zero, List.set_cons_succ]
          refine utk (i := 1) rfl hHeld ?_
          try simp only [Act.put, List.setIfInBounds_toArray, List.set_cons_zero, List.set_cons_succ]
          refine utk (i := 2) rfl hHeld ?_
          try simp only [Act.put, List.setIfInBounds_toArray, List.set_cons_zero, List.set_cons_succ]
          refine utk (i := 3) rfl hHeld ?_
          try simp only [Act.put, List.setIfInBounds_toArray, List.set_cons_zero, List.set_cons_succ]
          refine utk (i := 4) rfl hHeld ?_
          try simp only [Act.put, List.setIfInBounds_toArray, List.set_cons_zero, List.set_cons_succ]
          refine utk (i := 5) rfl hHeld ?_
          try simp only [Act.put, List.setIfInBounds_toArray, List.set_cons_zero, List.set_cons_succ]
          refine utk (i := 6) rfl hHeld ?_
          try simp only [Act.put, List.setIfInBounds_toArray, List.set_cons_zero, List.set_cons_succ]
          refine utk (i := 7) rfl hHeld ?_
          try simp only [Act.put, List.setIfInBounds_toArray, List.set_cons_zero, List.set_cons_succ]
          refine utk (i := 8) rfl hHeld ?_
          try simp only [Act.put, List.setIfInBounds_toArray, List.set_cons_zero, List.set_cons_succ]
          refine utk (i := 9) rfl hHeld ?_
          try simp only [Act.put, List.setIfInBounds_toArray, List.set_cons_zero, List.set_cons_succ]
          refine utk (i := 10) rfl hHeld ?_
          try simp only [Act.put, List.setIfInBounds_toArray, List.set_cons_zero, List.set_cons_succ]
          refine utk (i := 11) rfl hHeld ?_
          try simp only [Act.put, List.setIfInBounds_toArray, List.set_cons_zero, List.set_cons_succ]
          refine utk (i := 12) rfl hHeld ?_
          try simp only [Act.put, List.setIfInBounds_toArray, List.set_cons_zero, List.set_cons_succ]
          refine until_one (i := 13) rfl (by kernel_rfl) (fun K hK => ?_)
          go_simp
          refine hK.out _ _ (.inl rfl) ?_
          clear hK K
          try simp only [Act.put, List.setIfInBounds_toArray, List.set_cons_zero, List.set_cons_succ]
          refine until_done (by kernel_rfl) ?_ _
          refine NoPanic.normal ?_
          have HFB : Hid (Below x2.heap.size x2 (W.setCell ⟨x2.heap.size, zn, none⟩ (.int .i64 bv)).drew) := ((HB1.out.trans (HWB.out.mono (by omega))).setCell (Nat.le_refl _) _).trans (below_draws _ _ 1)
          have HFG2 : Hid (w1.grownBy (W.setCell ⟨x2.heap.size, zn, none⟩ (.int .i64 bv)).drew (some x2.heap.size)) := ((HGN.out (row := some x2.heap.size) HWB.out).andThen (row' := some x2.heap.size) (c := W.setCell ⟨x2.heap.size, zn, none⟩ (.int .i64 bv)) ⟨rfl, rfl, rfl, by simp, fun i _ hne => Below.heap_setCell _ _ _ _ (fun e => hne (by rw [e]))⟩ (fun j hj => .inr hj)).andThen (row' := none) (HGN.out (below_draws _ _ 1)) (fun j hj => by cases hj)
          have HFR : Hid (RowF (W.setCell ⟨x2.heap.size, zn, none⟩ (.int .i64 bv)).drew x2.heap.size 2 rn (fun z => .int .i64 ((fun z => if z = (nth (firstL L ⟨p0, p1, p2, q0, q1, q2, (rn : Int)⟩ ⟨pc, st, ops⟩ O) i).toNat then nth (beforeJ L B L.body.length) i else g z) z))) := by
            refine (((HRW1.out.below HWB.out hxz1).set zn (.int .i64 bv) hzr).congr fun z hz => ?_)
            rw [HFI.out, HVV.out]
            show (if z = zn then Value.int .i64 bv else .int .i64 (g z)) = .int .i64 (if z = zn then bv else g z)
            split <;> rfl
          have HFE : Hid (EntR (firstL L ⟨p0, p1, p2, q0, q1, q2, (rn : Int)⟩ ⟨pc, st, ops⟩ O) (beforeJ L B L.body.length) (posL L L.body.length) (fun z => left z && !z.sameKey (.int .i64 (zn : Int))) (fun z => if z = (nth (firstL L ⟨p0, p1, p2, q0, q1, q2, (rn : Int)⟩ ⟨pc, st, ops⟩ O) i).toNat then nth (beforeJ L B L.body.length) i else g z)) := by
            have h := HEN.out.step HI.out (by rw [HFI.out]; exact HLK.out) HDI.out (fun i hi => (HFG.out i hi).1)
            rw [HFI.out] at h ⊢
            exact h
          have HFK := hide (HRG1.out.kept HFG2.out (by intro e; injection e with e; omega) (by intro e; injection e with e; omega))
          clear cfW hfW hHeld
          go_wp2_with fail
          go_roundw
          case rel => exact ⟨_, _, _, HFK.out, HFR.out, HFE.out, HFB.out⟩
          case measure => rw [HFK.out.left_eq, HRG.out.left_eq]; exact HLT.out
theorem center_any (hM : MayC) (hE : EdgesC) : EnterC := by
  intro v kv ov bv t L K O B w hL hK hO hB
  obtain ⟨a0, a1, a2, ka, oa, cap0, cap1, cap2, kc, oc, rfl, rfl, rfl, hOp⟩ := cthree_open hL hK hO
  have hB' := hB
  obtain ⟨ba, bc, rfl, -⟩ := hB'
  exact center_walk hM hE t.u0 t.u1 t.u2 t.w0 t.w1 t.w2 t.r K.pc K.st K.ops L O B a0 a1 a2 ka oa ba cap0 cap1 cap2 kc oc bc w hL hOp hO hB
end Go.Proofs.Ytbpaffkkphacdab
/- Package check answers as TakesC, EnterC and LeaveC say. -/
namespace Go.Proofs.Ytbpaffkkphacdab
theorem checkTakes_all : TakesC := ctakes_any kernelMay_all depEdges_all
theorem checkEnter_all : EnterC := center_any kernelMay_all depEdges_all
theorem checkLeave_all : LeaveC := cleave_any kernelMay_all depEdges_all
end Go.Proofs.Ytbpaffkkphacdab
