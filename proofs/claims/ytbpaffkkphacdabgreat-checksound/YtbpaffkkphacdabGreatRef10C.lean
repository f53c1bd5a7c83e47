/- Ref10C: texts that are built as one: Ref10Leave, Ref10Enter. -/
import Derived.Test.YtbpaffkkphacdabGreatRef10Lay
import Derived.Test.YtbpaffkkphacdabGreatRef3B
import Derived.Test.YtbpaffkkphacdabGreatRef10B
import Derived.Test.YtbpaffkkphacdabGreatBase
/- The contract of the document's own Leave (J3), of a kernel that is laid out; nothing that was there is changed. -/
namespace Go.Proofs.YtbpaffkkphacdabGreat
open Go.RowKit Go.Joins
set_option linter.unusedVariables false
set_option linter.unusedSimpArgs false
set_option maxRecDepth 8192

theorem leave_len (L : Lp) (t : Tg) (K : Kn) (O : List Int) (B : List (List Int)) (R : List Int) (turns : Int) : (leaveD L t K O B R turns).length = L.outs.length := by unfold leaveD; simp
theorem leave_nth (L : Lp) (t : Tg) (K : Kn) (O : List Int) (B : List (List Int)) (R : List Int) (turns : Int) (i : Nat) (h : i < L.outs.length) : nth (leaveD L t K O B R turns) i = if 0 < turns then nth R ((placeJ K O (nth L.outs i).toNat + turns - 1) % t.r).toNat else nth (rowAt B (nth L.outs i).toNat) 0 := by
  unfold leaveD nth; simp [List.getD, h]
theorem place_range {L : Lp} {t : Tg} {K : Kn} {O : List Int} (h : layD L t K O = true) {s : Nat} (hs : s < L.body.length) : 0 ≤ placeJ K O s ∧ placeJ K O s ≤ 1127 := by
  obtain ⟨h1, h2, h3, h4, h5, h6⟩ := lay_parts h
  obtain ⟨o1, o2, -⟩ := ord_parts (h6 s hs).1
  obtain ⟨-, -, ⟨g5, g6⟩, -, g9, g10⟩ := op_range h3 (k := ordJ O s) (by unfold ordJ; omega)
  unfold placeJ opJ
  omega
theorem ints_in {w : World} {v : Value} {zs : List Int} (h : Ints w v zs) : ∀ i, I64 (nth zs i) := by
  obtain ⟨a, cap, -, -, -, h3, -⟩ := h
  intro i
  by_cases hi : i < zs.length
  · exact h3 i hi
  · have : nth zs i = 0 := by show (zs[i]?).getD 0 = 0; rw [List.getElem?_eq_none (by omega)]; rfl
    rw [this]; exact i64_0
theorem rows_in10 {w : World} {v : Value} {rs : List (List Int)} (h : IntRows w v rs) : RowsIn rs := by
  obtain ⟨a, cap, -, -, -, hc⟩ := h
  intro i j
  by_cases hi : i < rs.length
  · obtain ⟨b, off, -, -, h2⟩ := hc (by omega)
    obtain ⟨u, -, h3⟩ := h2 i hi
    exact ints_in h3 j
  · have : rowAt rs i = [] := by show (rs[i]?).getD [] = []; rw [List.getElem?_eq_none (by omega)]; rfl
    rw [this]; exact i64_0
theorem leave_in (L : Lp) (t : Tg) (K : Kn) (O : List Int) (B : List (List Int)) (R : List Int) (turns : Int) (hB : RowsIn B) (hR : ∀ i, I64 (nth R i)) : ∀ i, I64 (nth (leaveD L t K O B R turns) i) := by
  intro i
  by_cases h : i < L.outs.length
  · rw [leave_nth _ _ _ _ _ _ _ _ h]
    split
    · exact hR _
    · exact hB _ _
  · have : nth (leaveD L t K O B R turns) i = 0 := by
      show ((leaveD L t K O B R turns)[i]?).getD 0 = 0
      rw [List.getElem?_eq_none (by rw [leave_len]; omega)]; rfl
    rw [this]; exact i64_0

set_option maxHeartbeats 8000000 in
theorem leave_walk (p0 p1 p2 q0 q1 q2 r pc st : Int) (ops : List Kop) (L : Lp) (O R : List Int) (B : List (List Int)) (turns : Int) (a0 a1 a2 ka oa ba ra : Option Addr) (cap0 cap1 cap2 kc oc bc rc : Nat) (w : World) (hL : LoopV w (.agg #[.slice a0 L.logs.length cap0, .slice a1 L.body.length cap1, .slice a2 L.outs.length cap2]) L) (hK : OpsV w (.slice ka ops.length kc) ops) (hO : Ints w (.slice oa O.length oc) O) (hB : IntRows w (.slice ba B.length bc) B) (hR : Ints w (.slice ra R.length rc) R)
    (hlay : layD L ⟨p0, p1, p2, q0, q1, q2, r⟩ ⟨pc, st, ops⟩ O = true) (hb3 : befB L B = true) (hrl : (R.length : Int) = r) (ht0 : 0 ≤ turns) (ht1 : turns ≤ 200) :
    Calls Tryz.prog 25 #[.agg #[.slice a0 L.logs.length cap0, .slice a1 L.body.length cap1, .slice a2 L.outs.length cap2], .agg #[.int .i64 p0, .int .i64 p1, .int .i64 p2, .int .i64 q0, .int .i64 q1, .int .i64 q2, .int .i64 r], .agg #[.int .i64 pc, .int .i64 st, .slice ka ops.length kc], .slice oa O.length oc, .slice ba B.length bc, .slice ra R.length rc, .int .i64 turns] w fun e w' => (∃ xa xc, e = .returned (.slice xa (leaveD L ⟨p0, p1, p2, q0, q1, q2, r⟩ ⟨pc, st, ops⟩ O B R turns).length xc) ∧ Ints w' (.slice xa (leaveD L ⟨p0, p1, p2, q0, q1, q2, r⟩ ⟨pc, st, ops⟩ O B R turns).length xc) (leaveD L ⟨p0, p1, p2, q0, q1, q2, r⟩ ⟨pc, st, ops⟩ O B R turns)) ∧ Below w.heap.size w w' := by
  have HLY := hide (fun W (h1 : LoopV W (.agg #[.slice a0 L.logs.length cap0, .slice a1 L.body.length cap1, .slice a2 L.outs.length cap2]) L) (h2 : OpsV W (.slice ka ops.length kc) ops) (h3 : Ints W (.slice oa O.length oc) O) => layout_any _ _ _ ⟨p0, p1, p2, q0, q1, q2, r⟩ L ⟨pc, st, ops⟩ O W h1 ⟨_, rfl, h2⟩ h3)
  obtain ⟨hm, hmt, -⟩ := lay_parts hlay
  obtain ⟨-, h1n, h16, hol, -, hoo, -⟩ := may_parts hm
  obtain ⟨-, -, -, hr1, hr2⟩ := mayT_parts hmt
  have hr1 : 1 ≤ r := hr1
  have hr2 : r ≤ 128 := hr2
  have HOR := hide (fun i (h : i < L.outs.length) => out_range hoo h)
  have HPL := hide (fun s (h : s < L.body.length) => place_range hlay h)
  have HLAY := hide hlay
  have HIN := hide (leave_in L ⟨p0, p1, p2, q0, q1, q2, r⟩ ⟨pc, st, ops⟩ O B R turns (rows_in10 hB) (ints_in hR))
  have HLN := hide (leave_len L ⟨p0, p1, p2, q0, q1, q2, r⟩ ⟨pc, st, ops⟩ O B R turns)
  have HNT := hide (leave_nth L ⟨p0, p1, p2, q0, q1, q2, r⟩ ⟨pc, st, ops⟩ O B R turns)
  have HBF : Hid (B.length = L.body.length ∧ ∀ i, i < B.length → (rowAt B i).length = 3) := by
    unfold befB at hb3
    rw [Bool.and_eq_true] at hb3
    exact ⟨of_decide_eq_true hb3.1, fun i hi => of_decide_eq_true (allN_get hb3.2 i hi)⟩
  have HL := hide hL
  have HK := hide hK
  have HO := hide hO
  have HLO := hide (loopV_parts hL).2
  have HBC := hide hB
  have HRC := hide hR
  have HS : Hid ((((w.alloc (.cells #[.slice a0 L.logs.length cap0, .slice a1 L.body.length cap1, .slice a2 L.outs.length cap2] 25)).alloc (.cells #[.int .i64 p0, .int .i64 p1, .int .i64 p2, .int .i64 q0, .int .i64 q1, .int .i64 q2, .int .i64 r] 28)).alloc (.cells #[.int .i64 pc, .int .i64 st, .slice ka ops.length kc] 31)).heap.size = w.heap.size + 1 + 1 + 1) := by show _ = _; simp
  have HREST := hide (fun x W h0 h1 => rest_any x r W h0 h1 (by omega) (by omega))
  obtain ⟨j0, ji, jz0, jz1, jz2⟩ := info_parts Tryz.i2
  clear hL hK hO hB hR hlay hb3 hm hmt hoo
  go_enter Tryz.func25, Tryz.ntmps25
  go_wp2_with fail
  have HB0 := hide (below_alloc3 w (.cells #[.slice a0 L.logs.length cap0, .slice a1 L.body.length cap1, .slice a2 L.outs.length cap2] 25) (.cells #[.int .i64 p0, .int .i64 p1, .int .i64 p2, .int .i64 q0, .int .i64 q1, .int .i64 q2, .int .i64 r] 28) (.cells #[.int .i64 pc, .int .i64 st, .slice ka ops.length kc] 31))
  refine (HLY.out _ (HL.out.below HB0.out) (HK.out.below HB0.out) (HO.out.below HB0.out)).mono ?_
  rintro e x1 ⟨hbx, hyes, -⟩
  obtain ⟨xa, xc, rfl, hof⟩ := hyes HLAY.out
  have hb1 : Below (w.heap.size + 1 + 1 + 1) (((w.alloc (.cells #[.slice a0 L.logs.length cap0, .slice a1 L.body.length cap1, .slice a2 L.outs.length cap2] 25)).alloc (.cells #[.int .i64 p0, .int .i64 p1, .int .i64 p2, .int .i64 q0, .int .i64 q1, .int .i64 q2, .int .i64 r] 28)).alloc (.cells #[.int .i64 pc, .int .i64 st, .slice ka ops.length kc] 31)) x1 := by rw [← HS.out]; exact hbx
  obtain ⟨⟨l0, l1, l2⟩, ⟨t0, t1, t2, t3, t4, t5, t6⟩, ⟨k0, k1, k2⟩, hz, hbw⟩ := lkbox_cells hb1
  have HB1 := hide hb1
  have HW1 := hide hbw
  have HOF := hide hof
  have HLO1 := hide (HLO.out.below HW1.out)
  have HBC1 := hide (HBC.out.below HW1.out)
  have HRC1 := hide (HRC.out.below HW1.out)
  have hza : w.heap.size < x1.heap.size := by omega
  have hzb : w.heap.size + 1 < x1.heap.size := by omega
  clear hbx hb1 hbw hof hyes
  go_wp2_with fail
  clear l0 l1 l2 t0 t1 t2 t3 t4 t5 t6 k0 k1 k2
  go_loopw [17, 18] (fun ov iv wr => ∃ k : Nat, k ≤ L.outs.length ∧ iv = .int .i64 k ∧ ∃ ua uc, ov = .slice ua k uc ∧ wr.ownsRow x1.heap.size 2 1 (.slice ua k uc) k (((leaveD L ⟨p0, p1, p2, q0, q1, q2, r⟩ ⟨pc, st, ops⟩ O B R turns).take k).map (Value.int .i64)) ∧ Below x1.heap.size x1 wr) (fun _ iv _ => L.outs.length - (intOf iv).toNat)
  case atStart => exact ⟨0, Nat.zero_le _, rfl, none, 0, rfl, World.ownsRow_nil _ _ _ _, Below.refl _ _⟩
  case round =>
    obtain ⟨k, hk, rfl, ua, uc, rfl, hown, hbel⟩ := hrel
    have HOW := hide hown
    have HBL := hide hbel
    have HBX := hide (HB1.out.trans (hbel.mono (by omega)))
    obtain ⟨⟨l0, l1, l2⟩, ⟨t0, t1, t2, t3, t4, t5, t6⟩, ⟨k0, k1, k2⟩, hz2, hbw⟩ := lkbox_cells HBX.out
    have HW := hide hbw
    have hzr := hbel.size
    clear hown hbel hbw
    by_cases hkl : k < L.outs.length
    · have hki : (k : Int) < (L.outs.length : Int) := by omega
      obtain ⟨xo1, xo2, heo, ho1, ho2, -, hoc⟩ := HLO1.out.below HBL.out
      injection heo with eo1 eo2 eo3
      subst eo1; subst eo3
      unfold maxLen at ho2
      obtain ⟨gb, go, rfl, hgb, hgc⟩ := hoc (by omega)
      have cK := hgc k hkl
      obtain ⟨ho3, ho4⟩ := HOR.out k hkl
      obtain ⟨on, hon⟩ : ∃ on : Nat, nth L.outs k = (on : Int) := ⟨(nth L.outs k).toNat, by omega⟩
      have HVL := hide (HNT.out k hkl)
      rw [hon] at cK ho3 ho4 HVL
      rw [Int.toNat_natCast] at HVL
      have honl : on < L.body.length := by omega
      obtain ⟨hBl, hB3⟩ := HBF.out
      obtain ⟨xb1, xb2, heb, hbb1, hbb2, hbbc⟩ := HBC1.out.below HBL.out
      injection heb with eb1 eb2 eb3
      subst eb1; subst eb3
      unfold maxLen at hbb2
      obtain ⟨bb, bo, rfl, hbbz, hbbcell⟩ := hbbc (by omega)
      obtain ⟨u, hu, hui⟩ := hbbcell on (by omega)
      obtain ⟨va, vc, rfl, hv1, hv2, -, hvc⟩ := hui
      rw [hB3 on (by omega)] at hu hv1 hvc
      unfold maxLen at hv2
      obtain ⟨vb, vo, rfl, hvb, hvcell⟩ := hvc (by omega)
      have cV := hvcell 0 (by omega)
      rw [Nat.add_zero] at cV
      have hBi : (on : Int) < (B.length : Int) := by omega
      obtain ⟨xf1, xf2, hef, hf1, hf2, hfc⟩ := HOF.out.below HBL.out
      injection hef with ef1 ef2 ef3
      subst ef1; subst ef3
      unfold maxLen at hf2
      obtain ⟨fb, fo, rfl, hfb, hfcell⟩ := hfc (by omega)
      have cF := (hfcell on honl).2.2
      obtain ⟨hp1, hp2⟩ := HPL.out on honl
      generalize placeJ ⟨pc, st, ops⟩ O on = pl at *
      generalize nth (rowAt B on) 0 = b0 at *
      have hlenk : k < (leaveD L ⟨p0, p1, p2, q0, q1, q2, r⟩ ⟨pc, st, ops⟩ O B R turns).length := by rw [HLN.out]; exact hkl
      have HTK := hide (take_next _ k hlenk)
      have hxz : x1.heap.size ≤ wr.heap.size := hzr
      clear hgc hoc hbbc hbbcell hvc hvcell hfc hfcell hon eo2 eb2 ef2 hBl hB3
      by_cases htp : 0 < turns
      · have HV2 : Hid (nth (leaveD L ⟨p0, p1, p2, q0, q1, q2, r⟩ ⟨pc, st, ops⟩ O B R turns) k = nth R ((pl + turns - 1) % r).toNat) := by show _ = _; rw [HVL.out, if_pos htp]
        obtain ⟨rr, hrr⟩ : ∃ rr : Nat, (pl + turns - 1) % r = (rr : Int) := ⟨((pl + turns - 1) % r).toNat, by have := Int.emod_nonneg (pl + turns - 1) (show r ≠ 0 by omega); omega⟩
        have hrrl := Int.emod_lt_of_pos (pl + turns - 1) (show 0 < r by omega)
        rw [hrr] at hrrl HV2
        rw [Int.toNat_natCast] at HV2
        obtain ⟨xr1, xr2, her, hr3, hr4, -, hrcc⟩ := HRC1.out.below HBL.out
        injection her with er1 er2 er3
        subst er1; subst er3
        unfold maxLen at hr4
        obtain ⟨rb, ro, rfl, hrb, hrcell⟩ := hrcc (by omega)
        have cR := hrcell rr (by omega)
        have hri : (rr : Int) < (R.length : Int) := by omega
        have hw1 : IntKind.i64.wrap (pl + turns) = pl + turns := by rw [IntKind.wrap_i64]; omega
        have hw2 : IntKind.i64.wrap (pl + turns - 1) = pl + turns - 1 := by rw [IntKind.wrap_i64]; omega
        have HRS : Hid (∀ W, Calls Tryz.prog 52 #[.int .i64 (pl + turns - 1), .int .i64 r] W fun e w' => e = .returned (.int .i64 (rr : Int)) ∧ w' = W) := fun W => by rw [← hrr]; exact HREST.out _ W (by omega) (by omega)
        generalize nth R rr = rv at *
        rw [HV2.out] at HTK
        clear hrcc hrcell hrr er2 HVL HV2 hrl
        go_wp2_with fail
        go_big_quiet ((go_at_call 52; exact Calls.quiet_of_same (HRS.out _)))
        go_wp2_with (at_builtin; refine wpList_append_own _ rfl (.tmp 65) (.tmp 67) 48 rfl x1.heap.size 2 j0 (.int .i64 0) 1 8 Tryz.underlying48 ji jz0 jz1 jz2 rfl (by decide) _ _ _ rfl (own_below HOW.out (by first | exact (below_draws _ _ _).alloc (Nat.le_refl _) _ | exact (below_alloc1 _ _).trans (below_draws _ _ _))) ⟨wr.heap.size, 0, none⟩ 1 1 [.int .i64 rv] rfl rfl (by exact one_cell _ _ _) (by intro u hu; simp at hu; subst hu; rfl) (by unfold maxLen; omega) (by omega) (by simp; omega) ?_; intro v2' w2 hown2 hgrow2 hnil2; obtain ⟨oa2, oc2, rfl, hl1', hl2'⟩ := own_shape hown2; have HO2 := hide hown2; have HG2 := hide hgrow2; clear hown2 hgrow2)
        go_roundw
        case rel =>
          have h2 := HO2.out
          rw [HTK.out] at h2
          exact ⟨k + 1, by omega, by go_num, oa2, oc2, rfl, h2, (HBL.out.trans ((below_draws _ _ _).alloc (by simp; omega) _)).grown HG2.out (by simp; omega) (fun g hg => own_block_ge HOW.out g hg)⟩
        case measure => simp [intOf]; omega
      · have HV2 : Hid (nth (leaveD L ⟨p0, p1, p2, q0, q1, q2, r⟩ ⟨pc, st, ops⟩ O B R turns) k = b0) := by show _ = _; rw [HVL.out, if_neg htp]
        rw [HV2.out] at HTK
        clear HVL HV2 hrl
        go_wp2_with (at_builtin; refine wpList_append_own _ rfl (.tmp 65) (.tmp 67) 48 rfl x1.heap.size 2 j0 (.int .i64 0) 1 8 Tryz.underlying48 ji jz0 jz1 jz2 rfl (by decide) _ _ _ rfl (own_below HOW.out (below_alloc1 _ _)) ⟨wr.heap.size, 0, none⟩ 1 1 [.int .i64 b0] rfl rfl (by exact one_cell _ _ _) (by intro u hu; simp at hu; subst hu; rfl) (by unfold maxLen; omega) (by omega) (by simp; omega) ?_; intro v2' w2 hown2 hgrow2 hnil2; obtain ⟨oa2, oc2, rfl, hl1', hl2'⟩ := own_shape hown2; have HO2 := hide hown2; have HG2 := hide hgrow2; clear hown2 hgrow2)
        go_roundw
        case rel =>
          have h2 := HO2.out
          rw [HTK.out] at h2
          exact ⟨k + 1, by omega, by go_num, oa2, oc2, rfl, h2, (HBL.out.alloc (by omega) _).grown HG2.out (by simp; omega) (fun g hg => own_block_ge HOW.out g hg)⟩
        case measure => simp [intOf]; omega
    · have e : k = L.outs.length := by omega
      subst e
      have hki : ¬ (L.outs.length : Int) < (L.outs.length : Int) := by omega
      have HFIN : Hid (Ints wr (.slice ua L.outs.length uc) (leaveD L ⟨p0, p1, p2, q0, q1, q2, r⟩ ⟨pc, st, ops⟩ O B R turns)) := by
        have h := HOW.out
        have e1 : (leaveD L ⟨p0, p1, p2, q0, q1, q2, r⟩ ⟨pc, st, ops⟩ O B R turns).take L.outs.length = leaveD L ⟨p0, p1, p2, q0, q1, q2, r⟩ ⟨pc, st, ops⟩ O B R turns := by rw [← HLN.out]; exact List.take_length
        rw [e1] at h
        refine ints_of_own (base := x1.heap.size) ?_ HIN.out
        rw [HLN.out]; exact h
      go_wp2_with fail
      exact bodyPost_ret (v := .slice ua L.outs.length uc) (by simp [results, Tryz.results25, go_sem]) rfl ⟨⟨ua, uc, by rw [HLN.out], by rw [HLN.out]; exact HFIN.out⟩, HW.out⟩
end Go.Proofs.YtbpaffkkphacdabGreat
/- The contract of the document's own Enter (J3), of a kernel that is laid out; nothing that was there is changed. -/
namespace Go.Proofs.YtbpaffkkphacdabGreat
open Go.RowKit Go.Joins
set_option linter.unusedVariables false
set_option linter.unusedSimpArgs false
set_option maxRecDepth 8192

theorem enter_len (L : Lp) (t : Tg) (K : Kn) (O : List Int) (B : List (List Int)) : (enterD L t K O B).length = t.r.toNat := by unfold enterD; simp
theorem puts_in {F V : List Int} (hV : ∀ i, I64 (nth V i)) : ∀ m c, I64 (putsN F V m c) := by
  intro m
  induction m with
  | zero => intro c; exact i64_0
  | succ m ih =>
    intro c
    show I64 (put1 (putsN F V m) (nth F m).toNat (nth V m) c)
    unfold put1
    split
    · exact hV m
    · exact ih c
theorem flat_in (len : Nat → Nat) (g : Nat → Nat → Int) (hg : ∀ s q, I64 (g s q)) : ∀ k i, I64 (nth (flatN len g k) i) := by
  have hall : ∀ k x, x ∈ flatN len g k → I64 x := by
    intro k
    induction k with
    | zero => intro x hx; cases hx
    | succ k ih =>
      intro x hx
      have hx' : x ∈ flatN len g k ++ (List.range (len k)).map (g k) := hx
      rcases List.mem_append.1 hx' with hx2 | hx2
      · exact ih x hx2
      · obtain ⟨y, -, rfl⟩ := List.mem_map.1 hx2
        exact hg _ _
  intro k i
  by_cases hi : i < (flatN len g k).length
  · refine hall k _ ?_
    unfold nth
    rw [List.getD, List.getElem?_eq_getElem hi]
    exact List.getElem_mem _
  · have : nth (flatN len g k) i = 0 := by show ((flatN len g k)[i]?).getD 0 = 0; rw [List.getElem?_eq_none (by omega)]; rfl
    rw [this]; exact i64_0
theorem ints_of_row {w : World} {g n : Nat} {e : TypeId} {f : Nat → Int} (h : RowF w g e n (fun c => .int .i64 (f c))) (hn : n ≤ maxLen) (hf : ∀ c, I64 (f c)) : Ints w (.slice (some ⟨g, 0, none⟩) n n) ((List.range n).map f) := by
  have hl : ((List.range n).map f).length = n := by simp
  refine ⟨_, n, by rw [hl], by rw [hl]; exact Nat.le_refl _, hn, fun i hi => ?_, fun _ => ⟨g, 0, rfl, h.lt, fun i hi => ?_⟩⟩
  · rw [hl] at hi; rw [nth_range hi]; exact hf i
  · rw [hl] at hi; rw [Nat.zero_add, nth_range hi]; exact h.cell hi
theorem below_drewE (n : Nat) (w : World) : Below n w w.drew := below_draws _ _ 1
set_option maxHeartbeats 8000000 in
set_option maxRecDepth 100000 in
theorem enter_walk (p0 p1 p2 q0 q1 q2 r pc st : Int) (ops : List Kop) (L : Lp) (O : List Int) (B : List (List Int)) (a0 a1 a2 ka oa ba : Option Addr) (cap0 cap1 cap2 kc oc bc : Nat) (w : World) (hL : LoopV w (.agg #[.slice a0 L.logs.length cap0, .slice a1 L.body.length cap1, .slice a2 L.outs.length cap2]) L) (hK : OpsV w (.slice ka ops.length kc) ops) (hO : Ints w (.slice oa O.length oc) O) (hB : IntRows w (.slice ba B.length bc) B)
    (hlay : layD L ⟨p0, p1, p2, q0, q1, q2, r⟩ ⟨pc, st, ops⟩ O = true) (hb3 : befB L B = true) :
    Calls Tryz.prog 23 #[.agg #[.slice a0 L.logs.length cap0, .slice a1 L.body.length cap1, .slice a2 L.outs.length cap2], .agg #[.int .i64 p0, .int .i64 p1, .int .i64 p2, .int .i64 q0, .int .i64 q1, .int .i64 q2, .int .i64 r], .agg #[.int .i64 pc, .int .i64 st, .slice ka ops.length kc], .slice oa O.length oc, .slice ba B.length bc] w fun e w' => (∃ xa xc, e = .returned (.slice xa (enterD L ⟨p0, p1, p2, q0, q1, q2, r⟩ ⟨pc, st, ops⟩ O B).length xc) ∧ Ints w' (.slice xa (enterD L ⟨p0, p1, p2, q0, q1, q2, r⟩ ⟨pc, st, ops⟩ O B).length xc) (enterD L ⟨p0, p1, p2, q0, q1, q2, r⟩ ⟨pc, st, ops⟩ O B)) ∧ Below w.heap.size w w' := by
  have HLY := hide (fun W (h1 : LoopV W (.agg #[.slice a0 L.logs.length cap0, .slice a1 L.body.length cap1, .slice a2 L.outs.length cap2]) L) (h2 : OpsV W (.slice ka ops.length kc) ops) (h3 : Ints W (.slice oa O.length oc) O) => layout_any _ _ _ ⟨p0, p1, p2, q0, q1, q2, r⟩ L ⟨pc, st, ops⟩ O W h1 ⟨_, rfl, h2⟩ h3)
  obtain ⟨hm, hmt, -⟩ := lay_parts hlay
  obtain ⟨-, h1n, h16, hol, -, hoo, -⟩ := may_parts hm
  obtain ⟨-, -, -, hr1, hr2⟩ := mayT_parts hmt
  have hr1 : 1 ≤ r := hr1
  have hr2 : r ≤ 128 := hr2
  obtain ⟨rn, rfl⟩ : ∃ rn : Nat, r = (rn : Int) := ⟨r.toNat, by omega⟩
  have HPL := hide (fun s (h : s < L.body.length) => place_range hlay h)
  have HLAY := hide hlay
  have hBin := rows_in10 hB
  have HIN := hide (fun m c => puts_in (F := firstsJ L ⟨p0, p1, p2, q0, q1, q2, rn⟩ ⟨pc, st, ops⟩ O L.body.length) (V := beforeJ L B L.body.length) (flat_in _ _ (fun s q => hBin s q) _) m c)
  have HBF : Hid (B.length = L.body.length ∧ ∀ i, i < B.length → (rowAt B i).length = 3) := by
    unfold befB at hb3
    rw [Bool.and_eq_true] at hb3
    exact ⟨of_decide_eq_true hb3.1, fun i hi => of_decide_eq_true (allN_get hb3.2 i hi)⟩
  have HFT : Hid (∀ s, s < L.body.length → farLen L s ≤ 3 ∧ ((farLen L s : Nat) : Int) = farD L s) := fun s hs => by
    have h1 := far_top hm s L.body.length (Nat.le_refl _)
    have h2 := far_pos L s L.body.length
    unfold farLen farD
    omega
  have HF := hide (fun s q (h1 : s < L.body.length) (h2 : q < farLen L s) => flat_at (farLen L) (firstJ ⟨p0, p1, p2, q0, q1, q2, rn⟩ ⟨pc, st, ops⟩ O) L.body.length s q h1 h2)
  have HV := hide (fun s q (h1 : s < L.body.length) (h2 : q < farLen L s) => flat_at (farLen L) (fun s q => nth (rowAt B s) q) L.body.length s q h1 h2)
  have HL := hide hL
  have HK := hide hK
  have HO := hide hO
  have HBC := hide hB
  have HFAR : Hid (∀ (W : World) (s : Nat), Below w.heap.size w W → Calls Tryz.prog 51 #[.agg #[.slice a0 L.logs.length cap0, .slice a1 L.body.length cap1, .slice a2 L.outs.length cap2], .int .i64 (s : Int)] W fun e w' => e = .returned (.int .i64 (farD L s)) ∧ Below W.heap.size W w') := fun W s hW => by
    have h2 := hL.below hW
    obtain ⟨v0, v1, v2, e, -, ⟨x1, y1, e3, f1, f2, f3⟩, -⟩ := h2
    simp only [Value.agg.injEq, Array.mk.injEq, List.cons.injEq, and_true] at e
    obtain ⟨-, e4, -⟩ := e
    rw [e3] at e4
    injection e4 with e5 e6 e7
    obtain ⟨b, off, e8, g1, g2⟩ := f3 (by omega)
    subst e5; subst e7; subst e8
    exact far_walk L _ _ b off cap1 s W f1 (by unfold maxLen at f2; omega) g1 g2
  have HS : Hid ((((w.alloc (.cells #[.slice a0 L.logs.length cap0, .slice a1 L.body.length cap1, .slice a2 L.outs.length cap2] 25)).alloc (.cells #[.int .i64 p0, .int .i64 p1, .int .i64 p2, .int .i64 q0, .int .i64 q1, .int .i64 q2, .int .i64 rn] 28)).alloc (.cells #[.int .i64 pc, .int .i64 st, .slice ka ops.length kc] 31)).heap.size = w.heap.size + 1 + 1 + 1) := by show _ = _; simp
  have HREST := hide (fun x W h0 h1 => rest_any x (rn : Int) W h0 h1 (by omega) (by omega))
  have hmk := run_make_row' (P := Tryz.prog) 48 2 (.int .i64 0) 8 Tryz.underlying48 Tryz.i2 rfl .i64 .i64 rn (by omega) (by omega)
  clear hL hK hO hB hlay hb3 hm hmt hoo hBin
  go_enter Tryz.func23, Tryz.ntmps23
  go_wp2_with fail
  have HB0 := hide (below_alloc3 w (.cells #[.slice a0 L.logs.length cap0, .slice a1 L.body.length cap1, .slice a2 L.outs.length cap2] 25) (.cells #[.int .i64 p0, .int .i64 p1, .int .i64 p2, .int .i64 q0, .int .i64 q1, .int .i64 q2, .int .i64 rn] 28) (.cells #[.int .i64 pc, .int .i64 st, .slice ka ops.length kc] 31))
  refine (HLY.out _ (HL.out.below HB0.out) (HK.out.below HB0.out) (HO.out.below HB0.out)).mono ?_
  rintro e x1 ⟨hbx, hyes, -⟩
  obtain ⟨xa, xc, rfl, hof⟩ := hyes HLAY.out
  have hb1 : Below (w.heap.size + 1 + 1 + 1) (((w.alloc (.cells #[.slice a0 L.logs.length cap0, .slice a1 L.body.length cap1, .slice a2 L.outs.length cap2] 25)).alloc (.cells #[.int .i64 p0, .int .i64 p1, .int .i64 p2, .int .i64 q0, .int .i64 q1, .int .i64 q2, .int .i64 rn] 28)).alloc (.cells #[.int .i64 pc, .int .i64 st, .slice ka ops.length kc] 31)) x1 := by rw [← HS.out]; exact hbx
  obtain ⟨⟨l0, l1, l2⟩, ⟨t0, t1, t2, t3, t4, t5, t6⟩, ⟨k0, k1, k2⟩, hz, hbw⟩ := lkbox_cells hb1
  have HB1 := hide hb1
  have HW1 := hide hbw
  have HOF := hide hof
  have HBC1 := hide (HBC.out.below HW1.out)
  have hza : w.heap.size < x1.heap.size := by omega
  have hzb : w.heap.size + 1 < x1.heap.size := by omega
  have H0 : Hid (RowF (x1.alloc (.cells (madeCells #[.int .i64 0] rn) 2)) x1.heap.size 2 rn (fun c => .int .i64 (putsN (firstsJ L ⟨p0, p1, p2, q0, q1, q2, rn⟩ ⟨pc, st, ops⟩ O L.body.length) (beforeJ L B L.body.length) 0 c))) := RowF.zeros x1 _ rn _
  clear hbx hb1 hbw hof hyes
  go_wp2_with fail
  clear l0 l1 l2 t0 t1 t2 t3 t4 t5 t6 k0 k1 k2 hmk
  obtain ⟨PF, hPF⟩ : ∃ PF, firstsJ L ⟨p0, p1, p2, q0, q1, q2, rn⟩ ⟨pc, st, ops⟩ O L.body.length = PF := ⟨_, rfl⟩
  obtain ⟨PV, hPV⟩ : ∃ PV, beforeJ L B L.body.length = PV := ⟨_, rfl⟩
  have HEN : Hid (enterD L ⟨p0, p1, p2, q0, q1, q2, rn⟩ ⟨pc, st, ops⟩ O B = (List.range rn).map (putsN PF PV (posN (farLen L) L.body.length))) := by show (List.range ((rn : Int)).toNat).map (enterF L ⟨p0, p1, p2, q0, q1, q2, rn⟩ ⟨pc, st, ops⟩ O B) = _; rw [Int.toNat_natCast, ← hPF, ← hPV]; rfl
  have HF2 : Hid (∀ s q, s < L.body.length → q < farLen L s → nth PF (posN (farLen L) s + q) = firstJ ⟨p0, p1, p2, q0, q1, q2, rn⟩ ⟨pc, st, ops⟩ O s q) := fun s q h1 h2 => by rw [← hPF]; exact HF.out s q h1 h2
  have HV2 : Hid (∀ s q, s < L.body.length → q < farLen L s → nth PV (posN (farLen L) s + q) = nth (rowAt B s) q) := fun s q h1 h2 => by rw [← hPV]; exact HV.out s q h1 h2
  rw [hPF, hPV] at H0 HIN
  clear hPF hPV HF HV
  go_loopw [14] (fun iv wr => ∃ s : Nat, s ≤ L.body.length ∧ iv = .int .i64 s ∧ RowF wr x1.heap.size 2 rn (fun c => .int .i64 (putsN PF PV (posN (farLen L) s) c)) ∧ Below x1.heap.size x1 wr) (fun iv _ => L.body.length - (intOf iv).toNat)
  case atStart => exact ⟨0, Nat.zero_le _, rfl, H0.out, below_alloc1 _ _⟩
  case round =>
    clear H0
    obtain ⟨s, hs, rfl, hrow, hbel⟩ := hrel
    have HROW := hide hrow
    have HBL := hide hbel
    clear hrow hbel
    by_cases hsl : s < L.body.length
    · have hsi : (s : Int) < (L.body.length : Int) := by omega
      obtain ⟨hft, hfe⟩ := HFT.out s hsl
      have HPOS : Hid (posN (farLen L) (s + 1) = posN (farLen L) s + farLen L s) := rfl
      have HPF := hide (fun q (h : q < farLen L s) => HF2.out s q hsl h)
      have HPV := hide (fun q (h : q < farLen L s) => HV2.out s q hsl h)
      have HFR := hide (fun W h => HFAR.out W s h)
      rw [← hfe] at HFR
      obtain ⟨fl, hfl⟩ : ∃ fl, farLen L s = fl := ⟨_, rfl⟩
      rw [hfl] at hft HPOS HPF HPV HFR
      obtain ⟨ps, hps⟩ : ∃ ps, posN (farLen L) s = ps := ⟨_, rfl⟩
      rw [hps] at HPOS HPF HPV HROW
      clear hfe hfl hps
      go_wp2_with fail
      go_loopw [15] (fun iv wr2 => ∃ q : Nat, q ≤ fl ∧ iv = .int .i64 ((q : Int) + 1) ∧ RowF wr2 x1.heap.size 2 rn (fun c => .int .i64 (putsN PF PV (ps + q) c)) ∧ Below x1.heap.size x1 wr2) (fun iv _ => 5 - (intOf iv).toNat)
      case atStart => exact ⟨0, Nat.zero_le _, rfl, HROW.out, HBL.out⟩
      case round =>
        clear HROW HBL
        obtain ⟨q, hq, rfl, hrow, hbel⟩ := hrel
        have HROW := hide hrow
        have HBL := hide hbel
        have hb2 := HB1.out.trans (hbel.mono (by omega))
        obtain ⟨⟨l0, l1, l2⟩, ⟨t0, t1, t2, t3, t4, t5, t6⟩, ⟨k0, k1, k2⟩, hz2, hbw⟩ := lkbox_cells hb2
        have HW := hide hbw
        have hzr := hrow.lt
        clear hrow hbel hbw hb2
        by_cases hql : q < fl
        · have hqi : (q : Int) + 1 ≤ (fl : Int) := by omega
          go_wp2_with fail
          refine (HFR.out _ HW.out).mono ?_
          rintro e y ⟨rfl, hby⟩
          have HBY := hide (HBL.out.trans (hby.mono (by omega)))
          have HRY := hide (HROW.out.below hby (by omega))
          have hyb := HB1.out.trans (HBY.out.mono (by omega))
          clear l0 l1 l2 t0 t1 t2 t3 t4 t5 t6 k0 k1 k2 hz2
          obtain ⟨⟨l0, l1, l2⟩, ⟨t0, t1, t2, t3, t4, t5, t6⟩, ⟨k0, k1, k2⟩, hz2, -⟩ := lkbox_cells hyb
          obtain ⟨xf1, xf2, hef, hf1, hf2, hfc⟩ := HOF.out.below HBY.out
          injection hef with ef1 ef2 ef3
          subst ef1; subst ef3
          unfold maxLen at hf2
          obtain ⟨fb, fo, rfl, hfb, hfcell⟩ := hfc (by omega)
          have cF := (hfcell s hsl).2.2
          obtain ⟨hp1, hp2⟩ := HPL.out s hsl
          obtain ⟨hBl, hB3⟩ := HBF.out
          obtain ⟨xb1, xb2, heb, hbb1, hbb2, hbbc⟩ := HBC1.out.below HBY.out
          injection heb with eb1 eb2 eb3
          subst eb1; subst eb3
          unfold maxLen at hbb2
          obtain ⟨bb, bo, rfl, hbbz, hbbcell⟩ := hbbc (by omega)
          obtain ⟨u, hu, hui⟩ := hbbcell s (by omega)
          obtain ⟨va, vc, rfl, hv1, hv2, -, hvc⟩ := hui
          rw [hB3 s (by omega)] at hu hv1 hvc
          unfold maxLen at hv2
          obtain ⟨vb, vo, rfl, hvb, hvcell⟩ := hvc (by omega)
          have cV := hvcell q (by omega)
          have hBi : (s : Int) < (B.length : Int) := by omega
          have hFQ := HPF.out q hql
          have hVQ := HPV.out q hql
          have HFJ : Hid (firstJ ⟨p0, p1, p2, q0, q1, q2, rn⟩ ⟨pc, st, ops⟩ O s q = (placeJ ⟨pc, st, ops⟩ O s - ((q : Int) + 1)) % (rn : Int)) := rfl
          rw [HFJ.out] at hFQ
          generalize placeJ ⟨pc, st, ops⟩ O s = pl at *
          obtain ⟨bv, hbv⟩ : ∃ bv, nth (rowAt B s) q = bv := ⟨_, rfl⟩
          rw [hbv] at cV hVQ
          obtain ⟨rr, hrr⟩ : ∃ rr : Nat, (pl - ((q : Int) + 1)) % (rn : Int) = (rr : Int) := ⟨((pl - ((q : Int) + 1)) % (rn : Int)).toNat, by have := Int.emod_nonneg (pl - ((q : Int) + 1)) (show (rn : Int) ≠ 0 by omega); omega⟩
          have hrrl := Int.emod_lt_of_pos (pl - ((q : Int) + 1)) (show 0 < (rn : Int) by omega)
          rw [hrr] at hrrl hFQ
          have hrn : rr < rn := by omega
          have hw1 : IntKind.i64.wrap (pl - ((q : Int) + 1)) = pl - ((q : Int) + 1) := by rw [IntKind.wrap_i64]; omega
          have hw2 : IntKind.i64.wrap ((q : Int) + 1 - 1) = (q : Int) := by rw [IntKind.wrap_i64]; omega
          have hw3 : IntKind.i64.wrap (q : Int) = (q : Int) := by rw [IntKind.wrap_i64]; omega
          have hq0 : (0 : Int) ≤ (q : Int) := by omega
          have HRS : Hid (∀ W, Calls Tryz.prog 52 #[.int .i64 (pl - ((q : Int) + 1)), .int .i64 (rn : Int)] W fun e w' => e = .returned (.int .i64 (rr : Int)) ∧ w' = W) := fun W => by rw [← hrr]; exact HREST.out _ W (by omega) (by omega)
          have HSS : Hid (∀ w' : World, Below y.heap.size y w' → w'.cell? ⟨fb, fo + s * 3 + 2, none⟩ = some (.int .i64 pl) ∧ w'.cell? ⟨w.heap.size + 1, 6, none⟩ = some (.int .i64 (rn : Int)) ∧ w'.cell? ⟨bb, bo + s, none⟩ = some (.slice (some ⟨vb, vo, none⟩) 3 vc) ∧ w'.cell? ⟨vb, vo + q, none⟩ = some (.int .i64 bv)) := by
            intro w' h
            refine ⟨?_, ?_, ?_, ?_⟩
            all_goals (rw [bcell h _ _ (by omega)]; assumption)
          have hcs := HRY.out.cell hrn
          have hfs := HRY.out.frozen rr
          have HNEW : Hid (RowF (y.drew.setCell ⟨x1.heap.size, rr, none⟩ (.int .i64 bv)) x1.heap.size 2 rn (fun c => .int .i64 (putsN PF PV (ps + (q + 1)) c))) := by
            have h := (RowF.drawn HRY.out 1).set rr (.int .i64 bv) hrn
            refine RowF.congr h fun c hc => ?_
            show (if c = rr then Value.int .i64 bv else _) = Value.int .i64 (put1 (putsN PF PV (ps + q)) (nth PF (ps + q)).toNat (nth PV (ps + q)) c)
            rw [hFQ, hVQ, Int.toNat_natCast]
            unfold put1
            by_cases e : c = rr
            · rw [if_pos e, if_pos e]
            · rw [if_neg e, if_neg e]
          have HNB : Hid (Below x1.heap.size x1 (y.drew.setCell ⟨x1.heap.size, rr, none⟩ (.int .i64 bv))) := (HBY.out.trans (below_drewE _ _)).setCell (Nat.le_refl _) _
          have hri : (rr : Int) < (rn : Int) := by omega
          have hq3 : (q : Int) < 3 := by omega
          have hyz : x1.heap.size < y.heap.size := HRY.out.lt
          clear hby hyb hfc hfcell hbbc hbbcell hvc hvcell hBl hB3 hFQ hVQ hrr hbv ef2 eb2 l0 l1 l2 t0 t1 t2 t3 t4 t5 k0 k1 k2
          go_wp2_with fail
          refine wp_region_noPanic ?_
          refine region_until 20 (fun w' => w'.cell? ⟨fb, fo + s * 3 + 2, none⟩ = some (.int .i64 pl) ∧ w'.cell? ⟨w.heap.size + 1, 6, none⟩ = some (.int .i64 (rn : Int)) ∧ w'.cell? ⟨bb, bo + s, none⟩ = some (.slice (some ⟨vb, vo, none⟩) 3 vc) ∧ w'.cell? ⟨vb, vo + q, none⟩ = some (.int .i64 bv)) (by kernel_rfl) (HSS.out _ (below_drewE _ _)) (fun hHeld => ?_)
          refine utk (i := 0) rfl hHeld ?_
          try simp only [Act.put, List.setIfInBounds_toArray, List.set_cons_zero, List.set_cons_succ]
          refine utk (i := 1) rfl hHeld ?_
          try simp only [Act.put, List.setIfInBounds_toArray, List.set_cons_zero, List.set_cons_succ]
          refine utk (i := 2) rfl hHeld ?_
          try simp only [Act.put, List.setIfInBounds_toArray, List.set_cons_zero, List.set_cons_succ]
          refine utk (i := 3) rfl hHeld ?_
          try simp only [Act.put, List.setIfInBounds_toArray, List.set_cons_zero, List.set_cons_succ]
          refine utk (i := 4) rfl hHeld ?_
          try simp only [Act.put, List.setIfInBounds_toArray, List.set_cons_zero, List.set_cons_succ]
          refine utk (i := 5) rfl hHeld ?_
          try simp only [Act.put, List.setIfInBounds_toArray, List.set_cons_zero, List.set_cons_succ]
          refine utk (i := 6) rfl hHeld ?_
          try simp only [Act.put, List.setIfInBounds_toArray, List.set_cons_zero, List.set_cons_succ]
          refine utk (i := 7) rfl hHeld ?_
          try simp only [Act.put, List.setIfInBounds_toArray, List.set_cons_zero, List.set_cons_succ]
          refine utk (i := 8) rfl hHeld ?_
          try simp only [Act.put, List.setIfInBounds_toArray, List.set_cons_zero, List.set_cons_succ]
          refine utk (i := 9) rfl hHeld ?_
          try simp only [Act.put, List.setIfInBounds_toArray, List.set_cons_zero, List.set_cons_succ]
          refine utk (i := 11) rfl hHeld ?_
          try simp only [Act.put, List.setIfInBounds_toArray, List.set_cons_zero, List.set_cons_succ]
          refine utk (i := 12) rfl hHeld ?_
          try simp only [Act.put, List.setIfInBounds_toArray, List.set_cons_zero, List.set_cons_succ]
          refine utk (i := 13) rfl hHeld ?_
          try simp only [Act.put, List.setIfInBounds_toArray, List.set_cons_zero, List.set_cons_succ]
          refine utk (i := 14) rfl hHeld ?_
          try simp only [Act.put, List.setIfInBounds_toArray, List.set_cons_zero, List.set_cons_succ]
          refine utk (i := 15) rfl hHeld ?_
          try simp only [Act.put, List.setIfInBounds_toArray, List.set_cons_zero, List.set_cons_succ]
          refine utk (i := 16) rfl hHeld ?_
          try simp only [Act.put, List.setIfInBounds_toArray, List.set_cons_zero, List.set_cons_succ]
          refine utk (i := 17) rfl hHeld ?_
          try simp only [Act.put, List.setIfInBounds_toArray, List.set_cons_zero, List.set_cons_succ]
          refine utk (i := 18) rfl hHeld ?_
          try simp only [Act.put, List.setIfInBounds_toArray, List.set_cons_zero, List.set_cons_succ]
          refine until_one (i := 10) rfl (by kernel_rfl) (fun K hK9 => ?_)
          go_simp
          refine (HRS.out _).mono ?_
          rintro e y2 ⟨rfl, hy2⟩
          have hy2 := hy2.symm
          subst hy2
          refine hK9.out _ _ (.inr hHeld) ?_
          clear hK9 K
          try simp only [Act.put, List.setIfInBounds_toArray, List.set_cons_zero, List.set_cons_succ]
          refine utk (i := 19) rfl hHeld ?_
          try simp only [Act.put, List.setIfInBounds_toArray, List.set_cons_zero, List.set_cons_succ]
          refine until_one (i := 20) rfl (by kernel_rfl) (fun K hK9 => ?_)
          go_simp
          refine hK9.out _ _ (.inl rfl) ?_
          clear hK9 K
          try simp only [Act.put, List.setIfInBounds_toArray, List.set_cons_zero, List.set_cons_succ]
          refine until_done (by kernel_rfl) ?_ _
          refine NoPanic.normal ?_
          clear hHeld
          go_wp2_with fail
          go_roundw
          case rel => exact ⟨q + 1, by omega, by go_num, HNEW.out, HNB.out⟩
          case measure => simp [intOf]; omega
        · have e : q = fl := by omega
          subst e
          have hqi : ¬ (q : Int) + 1 ≤ (q : Int) := by omega
          go_wp2_with fail
          refine (HFR.out _ HW.out).mono ?_
          rintro e y ⟨rfl, hby⟩
          have HBY := hide (HBL.out.trans (hby.mono (by omega)))
          have HRY := hide (HROW.out.below hby (by omega))
          clear hby l0 l1 l2 t0 t1 t2 t3 t4 t5 t6 k0 k1 k2
          go_wp2_with fail
          go_roundw
          case rel => exact ⟨s + 1, by omega, by go_num, by rw [HPOS.out]; exact HRY.out, HBY.out⟩
          case measure => simp [intOf]; omega
    · have e : s = L.body.length := by omega
      subst e
      have hsi : ¬ (L.body.length : Int) < (L.body.length : Int) := by omega
      have HFIN := hide (ints_of_row HROW.out (by unfold maxLen; omega) (HIN.out _))
      have HWF := hide (HW1.out.trans (HBL.out.mono HW1.out.size))
      have HLEN : Hid ((enterD L ⟨p0, p1, p2, q0, q1, q2, rn⟩ ⟨pc, st, ops⟩ O B).length = rn) := by show _ = _; rw [HEN.out]; simp
      go_wp2_with fail
      exact bodyPost_ret (v := .slice (some ⟨x1.heap.size, 0, none⟩) rn rn) (by simp [results, Tryz.results23, go_sem]) rfl ⟨⟨_, rn, by rw [HLEN.out], by rw [HLEN.out, HEN.out]; exact HFIN.out⟩, HWF.out⟩
end Go.Proofs.YtbpaffkkphacdabGreat
