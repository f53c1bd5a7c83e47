/- The contract of the document's own layout (J1, and 1 of J2); nothing that was there is changed. -/
import Derived.Test.YtghlcmljgpkjiabGreatSounds
import Derived.Test.YtghlcmljgpkjiabGreatRef10A
import Derived.Test.YtghlcmljgpkjiabGreatRef5May
import Derived.Test.YtghlcmljgpkjiabGreatRef67
import Derived.Test.YtghlcmljgpkjiabGreatRef8A
import Derived.Test.YtghlcmljgpkjiabGreatBase
namespace Go.Proofs.YtghlcmljgpkjiabGreat
open Go.RowKit Go.Joins
set_option linter.unusedVariables false
set_option linter.unusedSimpArgs false
set_option maxRecDepth 8192

theorem Tryz.i79 : (Tryz.prog.info? 79).map (fun i => (i.zero, i.size, i.bytes)) = some (some (.agg #[.int .i64 0, .int .i64 0, .int .i64 0]), 3, 24) := by kernel_rfl
theorem below_drewX (n : Nat) (w : World) : Below n w w.drew := below_draws _ _ 1
theorem lkbox_cells {w wr : World} {x0 x1 x2 y0 y1 y2 : Value} {p0 p1 p2 q0 q1 q2 r : Int} {ta tb tc : TypeId} (h : Below (w.heap.size + 1 + 1 + 1) (((w.alloc (.cells #[x0, x1, x2] ta)).alloc (.cells #[.int .i64 p0, .int .i64 p1, .int .i64 p2, .int .i64 q0, .int .i64 q1, .int .i64 q2, .int .i64 r] tb)).alloc (.cells #[y0, y1, y2] tc)) wr) :
    (wr.cell? ⟨w.heap.size, 0, none⟩ = some x0 ∧ wr.cell? ⟨w.heap.size, 1, none⟩ = some x1 ∧ wr.cell? ⟨w.heap.size, 2, none⟩ = some x2) ∧
    (wr.cell? ⟨w.heap.size + 1, 0, none⟩ = some (.int .i64 p0) ∧ wr.cell? ⟨w.heap.size + 1, 1, none⟩ = some (.int .i64 p1) ∧ wr.cell? ⟨w.heap.size + 1, 2, none⟩ = some (.int .i64 p2) ∧ wr.cell? ⟨w.heap.size + 1, 3, none⟩ = some (.int .i64 q0) ∧ wr.cell? ⟨w.heap.size + 1, 4, none⟩ = some (.int .i64 q1) ∧ wr.cell? ⟨w.heap.size + 1, 5, none⟩ = some (.int .i64 q2) ∧ wr.cell? ⟨w.heap.size + 1, 6, none⟩ = some (.int .i64 r)) ∧
    (wr.cell? ⟨w.heap.size + 1 + 1, 0, none⟩ = some y0 ∧ wr.cell? ⟨w.heap.size + 1 + 1, 1, none⟩ = some y1 ∧ wr.cell? ⟨w.heap.size + 1 + 1, 2, none⟩ = some y2) ∧ w.heap.size + 1 + 1 < wr.heap.size ∧ Below w.heap.size w wr := by
  have hs : (((w.alloc (.cells #[x0, x1, x2] ta)).alloc (.cells #[.int .i64 p0, .int .i64 p1, .int .i64 p2, .int .i64 q0, .int .i64 q1, .int .i64 q2, .int .i64 r] tb)).alloc (.cells #[y0, y1, y2] tc)).heap.size = w.heap.size + 1 + 1 + 1 := by simp
  have hz := h.size
  have h' : Below (((w.alloc (.cells #[x0, x1, x2] ta)).alloc (.cells #[.int .i64 p0, .int .i64 p1, .int .i64 p2, .int .i64 q0, .int .i64 q1, .int .i64 q2, .int .i64 r] tb)).alloc (.cells #[y0, y1, y2] tc)).heap.size (((w.alloc (.cells #[x0, x1, x2] ta)).alloc (.cells #[.int .i64 p0, .int .i64 p1, .int .i64 p2, .int .i64 q0, .int .i64 q1, .int .i64 q2, .int .i64 r] tb)).alloc (.cells #[y0, y1, y2] tc)) wr := by rw [hs]; exact h
  refine ⟨⟨?_, ?_, ?_⟩, ⟨?_, ?_, ?_, ?_, ?_, ?_, ?_⟩, ⟨?_, ?_, ?_⟩, by omega, (below_alloc3 w _ _ _).trans (h.mono (by omega))⟩
  all_goals rw [bcell h' _ _ (by omega)]
  all_goals go_simp
theorem loopV_parts {w : World} {x0 x1 x2 : Value} {L : Lp} (h : LoopV w (.agg #[x0, x1, x2]) L) : Ints w x0 L.logs ∧ Ints w x2 L.outs := by
  obtain ⟨v0, v1, v2, e, h0, -, h2⟩ := h
  simp only [Value.agg.injEq, Array.mk.injEq, List.cons.injEq, and_true] at e
  obtain ⟨rfl, -, rfl⟩ := e
  exact ⟨h0, h2⟩
/-- times, readies and places of the first so many statements -/
def ofL (t : Tg) (K : Kn) (O : List Int) (k : Nat) : List Du := (List.range k).map fun s => ⟨timeJ K O s, readyJ t K O s, placeJ K O s⟩
theorem ofL_snoc (t : Tg) (K : Kn) (O : List Int) (k : Nat) : ofL t K O k ++ [⟨timeJ K O k, readyJ t K O k, placeJ K O k⟩] = ofL t K O (k + 1) := by unfold ofL; rw [List.range_succ]; simp
theorem ofL_len (t : Tg) (K : Kn) (O : List Int) (k : Nat) : (ofL t K O k).length = k := by unfold ofL; simp
theorem ofL_at {t : Tg} {K : Kn} {O : List Int} {k i : Nat} (h : i < k) : duAt (ofL t K O k) i = ⟨timeJ K O i, readyJ t K O i, placeJ K O i⟩ := by
  unfold duAt ofL
  rw [List.getD, List.getElem?_map, List.getElem?_range h]
  rfl
theorem OfV.of_own {w : World} {base : Nat} {e : TypeId} {v : Value} {t : Tg} {K : Kn} {O : List Int} {k : Nat} (h : w.ownsRow base e 3 v k (flatD (ofL t K O k))) : OfV w v k (timeJ K O) (readyJ t K O) (placeJ K O) := by
  obtain ⟨a, cap, rfl, h1, h2⟩ := ownz_shape h
  refine ⟨a, cap, rfl, h1, h2, fun hp => ?_⟩
  have hl := ofL_len t K O k
  have h' : w.ownsRow base e 3 (.slice a k cap) (ofL t K O k).length (flatD (ofL t K O k)) := by rw [hl]; exact h
  obtain ⟨g, cap', e1, -, -, -, h6, h7⟩ := due_cells h' (by omega)
  injection e1 with e2 _ _
  refine ⟨g, 0, e2, h6, fun i hi => ?_⟩
  have h8 := h7 i (by omega)
  rw [ofL_at hi] at h8
  rw [Nat.zero_add]
  exact h8
/-- an Op of a kernel that may be -/
theorem op_range {t : Tg} {K : Kn} {logs : List Int} (h : mayK t K logs = true) {k : Nat} (hk : k < K.ops.length) : (1 ≤ K.pc ∧ K.pc ≤ 200) ∧ (0 ≤ (opAt K.ops k).sl ∧ (opAt K.ops k).sl ≤ 1000) ∧ (0 ≤ (opAt K.ops k).sg ∧ (opAt K.ops k).sg ≤ 1000) ∧ (0 ≤ K.pc * (opAt K.ops k).sg ∧ (opAt K.ops k).sl + K.pc * (opAt K.ops k).sg ≤ 1000) ∧ 0 ≤ (opAt K.ops k).d ∧ (opAt K.ops k).d ≤ 127 := by
  unfold mayK at h
  simp only [Bool.and_eq_true] at h
  obtain ⟨⟨⟨⟨hk1, hk2⟩, hk3⟩, hk4⟩, hk5⟩ := h
  have hp := inR_iff.1 hk2
  obtain ⟨-, -, -, hr1, hr2⟩ := mayT_parts hk1
  have h7 := allN_get hk5 k hk
  unfold oneOk timeOk regsOk at h7
  simp only [Bool.and_eq_true, decide_eq_true_eq] at h7
  have h8 := inR_iff.1 h7.1.1.1.1.1
  have h9 := inR_iff.1 h7.1.1.1.1.2
  have h10 := h7.1.1.1.2
  have h11 := inR_iff.1 h7.1.1.2.1.1.1.1
  have h12 : 0 ≤ (opAt K.ops k).sg * K.pc := Int.mul_nonneg h9.1 (by omega)
  have h13 : (opAt K.ops k).sg * 1 ≤ (opAt K.ops k).sg * K.pc := Int.mul_le_mul_of_nonneg_left hp.1 h9.1
  have h14 : K.pc * (opAt K.ops k).sg = (opAt K.ops k).sg * K.pc := Int.mul_comm _ _
  refine ⟨hp, ⟨h8.1, by omega⟩, ⟨h9.1, by omega⟩, ⟨by omega, by omega⟩, h11.1, by omega⟩
theorem lay_no {L : Lp} {t : Tg} {K : Kn} {O : List Int} (h : (mayB L && mayT t) = false ∨ mayK t K L.logs = false ∨ K.ops.length ≠ L.body.length ∨ O.length ≠ L.body.length) : layD L t K O = false := by
  unfold layD
  rcases h with h | h | h | h
  · rw [h]; rfl
  · rw [h]; simp
  · rw [decide_eq_false h]; simp
  · rw [decide_eq_false h]; simp
theorem lay_all {L : Lp} {t : Tg} {K : Kn} {O : List Int} (h1 : (mayB L && mayT t) = true) (h2 : mayK t K L.logs = true) (h3 : K.ops.length = L.body.length) (h4 : O.length = L.body.length) : layD L t K O = allN (fun s => ordOkD L O s && sameD L K O s) L.body.length := by
  unfold layD
  rw [h1, h2, decide_eq_true h3, decide_eq_true h4]; simp

set_option maxHeartbeats 4000000 in
theorem layout_no (p0 p1 p2 q0 q1 q2 r pc st : Int) (ops : List Kop) (L : Lp) (O : List Int) (a0 a1 a2 ka oa : Option Addr) (cap0 cap1 cap2 kc oc : Nat) (w : World) (hL : LoopV w (.agg #[.slice a0 L.logs.length cap0, .slice a1 L.body.length cap1, .slice a2 L.outs.length cap2]) L) (hK : OpsV w (.slice ka ops.length kc) ops) (hO : Ints w (.slice oa O.length oc) O) (h : (mayB L && mayT ⟨p0, p1, p2, q0, q1, q2, r⟩) = false ∨ mayK ⟨p0, p1, p2, q0, q1, q2, r⟩ ⟨pc, st, ops⟩ L.logs = false ∨ ops.length ≠ L.body.length ∨ O.length ≠ L.body.length) :
    Calls Tryz.prog 7 #[.agg #[.slice a0 L.logs.length cap0, .slice a1 L.body.length cap1, .slice a2 L.outs.length cap2], .agg #[.int .i64 p0, .int .i64 p1, .int .i64 p2, .int .i64 q0, .int .i64 q1, .int .i64 q2, .int .i64 r], .agg #[.int .i64 pc, .int .i64 st, .slice ka ops.length kc], .slice oa O.length oc] w fun e w' => e = .returned (.tuple #[.slice none 0 0, .bool false]) ∧ Below w.heap.size w w' := by
  have HMAY := hide (fun W (h : LoopV W (.agg #[.slice a0 L.logs.length cap0, .slice a1 L.body.length cap1, .slice a2 L.outs.length cap2]) L) => rdmay_walk p0 p1 p2 q0 q1 q2 r L a0 a1 a2 cap0 cap1 cap2 W h)
  have HKM := hide (fun W (h1 : OpsV W (.slice ka ops.length kc) ops) (h2 : Ints W (.slice a0 L.logs.length cap0) L.logs) => kmay_any ⟨p0, p1, p2, q0, q1, q2, r⟩ (.agg #[.int .i64 pc, .int .i64 st, .slice ka ops.length kc]) ⟨pc, st, ops⟩ a0 cap0 L.logs W ⟨_, rfl, h1⟩ h2)
  have HL := hide hL
  have HK := hide hK
  have HLG := hide (loopV_parts hL).1
  have HS : Hid ((((w.alloc (.cells #[.slice a0 L.logs.length cap0, .slice a1 L.body.length cap1, .slice a2 L.outs.length cap2] 25)).alloc (.cells #[.int .i64 p0, .int .i64 p1, .int .i64 p2, .int .i64 q0, .int .i64 q1, .int .i64 q2, .int .i64 r] 28)).alloc (.cells #[.int .i64 pc, .int .i64 st, .slice ka ops.length kc] 31)).heap.size = w.heap.size + 1 + 1 + 1) := by show _ = _; simp
  clear hL hK hO
  obtain ⟨m1, hm1⟩ : ∃ m1, (mayB L && mayT ⟨p0, p1, p2, q0, q1, q2, r⟩) = m1 := ⟨_, rfl⟩
  rw [hm1] at HMAY h
  obtain ⟨m2, hm2⟩ : ∃ m2, mayK ⟨p0, p1, p2, q0, q1, q2, r⟩ ⟨pc, st, ops⟩ L.logs = m2 := ⟨_, rfl⟩
  rw [hm2] at HKM h
  have HN : Hid (m1 = false ∨ m2 = false ∨ ops.length ≠ L.body.length ∨ O.length ≠ L.body.length) := h
  clear h hm1 hm2
  go_enter Tryz.func7, Tryz.ntmps7
  go_wp2_with fail
  refine (HMAY.out _ (HL.out.below (below_alloc3 _ _ _ _))).mono ?_
  rintro e x1 ⟨rfl, hb⟩
  have hb1 : Below (w.heap.size + 1 + 1 + 1) (((w.alloc (.cells #[.slice a0 L.logs.length cap0, .slice a1 L.body.length cap1, .slice a2 L.outs.length cap2] 25)).alloc (.cells #[.int .i64 p0, .int .i64 p1, .int .i64 p2, .int .i64 q0, .int .i64 q1, .int .i64 q2, .int .i64 r] 28)).alloc (.cells #[.int .i64 pc, .int .i64 st, .slice ka ops.length kc] 31)) x1 := by rw [← HS.out]; exact hb
  have HB1 := hide hb1
  obtain ⟨⟨l0, l1, l2⟩, ⟨t0, t1, t2, t3, t4, t5, t6⟩, ⟨k0, k1, k2⟩, hz, hbw⟩ := lkbox_cells hb1
  have HW1 := hide hbw
  clear hb hb1 hbw
  cases m1 with
  | false =>
    go_wp2_with fail
    exact bodyPost_ret (v := .tuple #[.slice none 0 0, .bool false]) (by simp [results, Tryz.results7, go_sem]) rfl ⟨rfl, HW1.out⟩
  | true =>
    go_wp2_with fail
    refine (HKM.out _ (HK.out.below HW1.out) (HLG.out.below HW1.out)).mono ?_
    rintro e x2 ⟨rfl, hb⟩
    have hb2 := HB1.out.trans (hb.mono (by have := HB1.out.size; rw [HS.out] at this; exact this))
    clear l0 l1 l2 t0 t1 t2 t3 t4 t5 t6 k0 k1 k2 hz
    obtain ⟨⟨l0, l1, l2⟩, ⟨t0, t1, t2, t3, t4, t5, t6⟩, ⟨k0, k1, k2⟩, hz, hbw⟩ := lkbox_cells hb2
    have HW2 := hide hbw
    clear hb hb2 hbw
    cases m2 with
    | false =>
      go_wp2_with fail
      exact bodyPost_ret (v := .tuple #[.slice none 0 0, .bool false]) (by simp [results, Tryz.results7, go_sem]) rfl ⟨rfl, HW2.out⟩
    | true =>
      by_cases e1 : ops.length = L.body.length
      · have e2 : O.length ≠ L.body.length := by
          rcases HN.out with h | h | h | h
          · cases h
          · cases h
          · exact absurd e1 h
          · exact h
        have d1 : ((ops.length : Int) != (L.body.length : Int)) = false := by simp [e1]
        have d2 : ((O.length : Int) != (L.body.length : Int)) = true := by simp; omega
        clear e1 e2
        go_wp2_with fail
        exact bodyPost_ret (v := .tuple #[.slice none 0 0, .bool false]) (by simp [results, Tryz.results7, go_sem]) rfl ⟨rfl, HW2.out⟩
      · have d1 : ((ops.length : Int) != (L.body.length : Int)) = true := by simp; omega
        clear e1
        go_wp2_with fail
        exact bodyPost_ret (v := .tuple #[.slice none 0 0, .bool false]) (by simp [results, Tryz.results7, go_sem]) rfl ⟨rfl, HW2.out⟩
/-- what Layout answers -/
def LayPost (L : Lp) (t : Tg) (K : Kn) (O : List Int) (w : World) (e : Ending) (w' : World) : Prop :=
  Below w.heap.size w w' ∧ (layD L t K O = true → ∃ xa xc, e = .returned (.tuple #[.slice xa L.body.length xc, .bool true]) ∧ OfV w' (.slice xa L.body.length xc) L.body.length (timeJ K O) (readyJ t K O) (placeJ K O)) ∧ (layD L t K O = false → e = .returned (.tuple #[.slice none 0 0, .bool false]))
theorem LayPost.no {L : Lp} {t : Tg} {K : Kn} {O : List Int} {w w' : World} (h : layD L t K O = false) (hb : Below w.heap.size w w') : LayPost L t K O w (.returned (.tuple #[.slice none 0 0, .bool false])) w' :=
  ⟨hb, fun h2 => (by rw [h] at h2; cases h2), fun _ => rfl⟩
theorem LayPost.yes {L : Lp} {t : Tg} {K : Kn} {O : List Int} {w w' : World} {xa : Option Addr} {xc : Nat} (h : layD L t K O = true) (hb : Below w.heap.size w w') (hO : OfV w' (.slice xa L.body.length xc) L.body.length (timeJ K O) (readyJ t K O) (placeJ K O)) : LayPost L t K O w (.returned (.tuple #[.slice xa L.body.length xc, .bool true])) w' :=
  ⟨hb, fun _ => ⟨xa, xc, rfl, hO⟩, fun h2 => (by rw [h] at h2; cases h2)⟩
set_option maxHeartbeats 16000000 in
set_option maxRecDepth 100000 in
theorem layout_go (p0 p1 p2 q0 q1 q2 r pc st : Int) (ops : List Kop) (L : Lp) (O : List Int) (a0 a1 a2 ka oa : Option Addr) (cap0 cap1 cap2 kc oc : Nat) (w : World) (hL : LoopV w (.agg #[.slice a0 L.logs.length cap0, .slice a1 L.body.length cap1, .slice a2 L.outs.length cap2]) L) (hK : OpsV w (.slice ka ops.length kc) ops) (hO : Ints w (.slice oa O.length oc) O) (hm : (mayB L && mayT ⟨p0, p1, p2, q0, q1, q2, r⟩) = true) (hk : mayK ⟨p0, p1, p2, q0, q1, q2, r⟩ ⟨pc, st, ops⟩ L.logs = true) (e1 : ops.length = L.body.length) (e2 : O.length = L.body.length) :
    Calls Tryz.prog 7 #[.agg #[.slice a0 L.logs.length cap0, .slice a1 L.body.length cap1, .slice a2 L.outs.length cap2], .agg #[.int .i64 p0, .int .i64 p1, .int .i64 p2, .int .i64 q0, .int .i64 q1, .int .i64 q2, .int .i64 r], .agg #[.int .i64 pc, .int .i64 st, .slice ka ops.length kc], .slice oa O.length oc] w (LayPost L ⟨p0, p1, p2, q0, q1, q2, r⟩ ⟨pc, st, ops⟩ O w) := by
  have HMAY := hide (fun W (h : LoopV W (.agg #[.slice a0 L.logs.length cap0, .slice a1 L.body.length cap1, .slice a2 L.outs.length cap2]) L) => hm ▸ rdmay_walk p0 p1 p2 q0 q1 q2 r L a0 a1 a2 cap0 cap1 cap2 W h)
  have HKM := hide (fun W (h1 : OpsV W (.slice ka ops.length kc) ops) (h2 : Ints W (.slice a0 L.logs.length cap0) L.logs) => hk ▸ kmay_any ⟨p0, p1, p2, q0, q1, q2, r⟩ (.agg #[.int .i64 pc, .int .i64 st, .slice ka ops.length kc]) ⟨pc, st, ops⟩ a0 cap0 L.logs W ⟨_, rfl, h1⟩ h2)
  have HL := hide hL
  have HK := hide hK
  have HLG := hide (loopV_parts hL).1
  have HS : Hid ((((w.alloc (.cells #[.slice a0 L.logs.length cap0, .slice a1 L.body.length cap1, .slice a2 L.outs.length cap2] 25)).alloc (.cells #[.int .i64 p0, .int .i64 p1, .int .i64 p2, .int .i64 q0, .int .i64 q1, .int .i64 q2, .int .i64 r] 28)).alloc (.cells #[.int .i64 pc, .int .i64 st, .slice ka ops.length kc] 31)).heap.size = w.heap.size + 1 + 1 + 1) := by show _ = _; simp
  have HLAY := hide (lay_all (O := O) (K := ⟨pc, st, ops⟩) hm hk e1 e2)
  have HRNG := hide (fun k (h : k < ops.length) => op_range (K := ⟨pc, st, ops⟩) hk h)
  have hmm : mayB L = true ∧ mayT ⟨p0, p1, p2, q0, q1, q2, r⟩ = true := by simpa using hm
  have h16 := (may_parts hmm.1).2.2.1
  have h1n := (may_parts hmm.1).2.1
  have HWO := hide (fun o => wait_le (t := ⟨p0, p1, p2, q0, q1, q2, r⟩) o hmm.2)
  have HWT := hide (fun op W => twait_seven p0 p1 p2 q0 q1 q2 r op W)
  obtain ⟨b, off, rfl, hb, hbody, hl1, hm1⟩ : ∃ b off, a1 = some ⟨b, off, none⟩ ∧ b < w.heap.size ∧ (∀ i, i < L.body.length → ∀ j, j < 9 → w.cell? ⟨b, off + i * 9 + j, none⟩ = (stCells (stAt L.body i))[j]?) ∧ L.body.length ≤ cap1 ∧ cap1 ≤ 9223372036854775807 := by
    obtain ⟨v0, v1, v2, e, -, ⟨x1, y1, e3, f1, f2, f3⟩, -⟩ := hL
    simp only [Value.agg.injEq, Array.mk.injEq, List.cons.injEq, and_true] at e
    obtain ⟨-, e4, -⟩ := e
    rw [e3] at e4
    injection e4 with e5 e6 e7
    obtain ⟨b, off, e8, g1, g2⟩ := f3 (by omega)
    refine ⟨b, off, by rw [e5, e8], g1, g2, by omega, by unfold maxLen at f2; omega⟩
  obtain ⟨kb, ko, rfl, hkb, hkcell, hkl, hkm⟩ : ∃ kb ko, ka = some ⟨kb, ko, none⟩ ∧ kb < w.heap.size ∧ (∀ i, i < ops.length → ∀ j, j < 10 → w.cell? ⟨kb, ko + i * 10 + j, none⟩ = (kCells (opAt ops i))[j]?) ∧ ops.length ≤ kc ∧ kc ≤ 9223372036854775807 := by
    obtain ⟨x1, y1, e3, f1, f2, f3⟩ := hK
    injection e3 with e5 e6 e7
    obtain ⟨kb, ko, e8, g1, g2⟩ := f3 (by omega)
    exact ⟨kb, ko, by rw [e5, e8], g1, g2, by omega, by unfold maxLen at f2; omega⟩
  obtain ⟨ob, oo, rfl, hob, hocell, hol, hom⟩ : ∃ ob oo, oa = some ⟨ob, oo, none⟩ ∧ ob < w.heap.size ∧ (∀ i, i < O.length → w.cell? ⟨ob, oo + i, none⟩ = some (.int .i64 (nth O i))) ∧ O.length ≤ oc ∧ oc ≤ 9223372036854775807 := by
    obtain ⟨x1, y1, e3, f1, f2, -, f3⟩ := hO
    injection e3 with e5 e6 e7
    obtain ⟨ob, oo, e8, g1, g2⟩ := f3 (by omega)
    exact ⟨ob, oo, by rw [e5, e8], g1, g2, by omega, by unfold maxLen at f2; omega⟩
  have HBODY := hide hbody
  have HKC := hide hkcell
  have HOC := hide hocell
  have d1 : ((ops.length : Int) != (L.body.length : Int)) = false := by simp [e1]
  have d2 : ((O.length : Int) != (L.body.length : Int)) = false := by simp [e2]
  have HE1 := hide e1
  have HE2 := hide e2
  obtain ⟨j0, ji, jz0, jz1, jz2⟩ := info_parts Tryz.i79
  clear hL hK hO hm hk hmm e1 e2 hbody hkcell hocell
  go_enter Tryz.func7, Tryz.ntmps7
  go_wp2_with fail
  refine (HMAY.out _ (HL.out.below (below_alloc3 _ _ _ _))).mono ?_
  rintro e x1 ⟨rfl, hbx⟩
  have hb1 : Below (w.heap.size + 1 + 1 + 1) (((w.alloc (.cells #[.slice a0 L.logs.length cap0, .slice (some ⟨b, off, none⟩) L.body.length cap1, .slice a2 L.outs.length cap2] 25)).alloc (.cells #[.int .i64 p0, .int .i64 p1, .int .i64 p2, .int .i64 q0, .int .i64 q1, .int .i64 q2, .int .i64 r] 28)).alloc (.cells #[.int .i64 pc, .int .i64 st, .slice (some ⟨kb, ko, none⟩) ops.length kc] 31)) x1 := by rw [← HS.out]; exact hbx
  have HB1 := hide hb1
  obtain ⟨⟨l0, l1, l2⟩, ⟨t0, t1, t2, t3, t4, t5, t6⟩, ⟨k0, k1, k2⟩, hz, hbw⟩ := lkbox_cells hb1
  have HW1 := hide hbw
  clear hbx hb1 hbw
  go_wp2_with fail
  refine (HKM.out _ (HK.out.below HW1.out) (HLG.out.below HW1.out)).mono ?_
  rintro e x2 ⟨rfl, hbx⟩
  have hb2 := HB1.out.trans (hbx.mono (by have := HB1.out.size; rw [HS.out] at this; exact this))
  have HB2 := hide hb2
  clear l0 l1 l2 t0 t1 t2 t3 t4 t5 t6 k0 k1 k2 hz
  obtain ⟨⟨l0, l1, l2⟩, ⟨t0, t1, t2, t3, t4, t5, t6⟩, ⟨k0, k1, k2⟩, hz, hbw⟩ := lkbox_cells hb2
  clear hbx hb2 hbw HB1 HW1
  go_wp2_with fail
  clear l0 l1 l2 t0 t1 t2 t3 t4 t5 t6 k0 k1 k2 hz d1 d2
  go_loopw [11, 12] (fun ov iv wr => ∃ s : Nat, s ≤ L.body.length ∧ iv = .int .i64 s ∧ ∃ xa xc, ov = .slice xa s xc ∧ wr.ownsRow (w.heap.size + 1 + 1 + 1) 79 3 (.slice xa s xc) s (flatD (ofL ⟨p0, p1, p2, q0, q1, q2, r⟩ ⟨pc, st, ops⟩ O s)) ∧ allN (fun s => ordOkD L O s && sameD L ⟨pc, st, ops⟩ O s) s = true ∧ Below (w.heap.size + 1 + 1 + 1) (((w.alloc (.cells #[.slice a0 L.logs.length cap0, .slice (some ⟨b, off, none⟩) L.body.length cap1, .slice a2 L.outs.length cap2] 25)).alloc (.cells #[.int .i64 p0, .int .i64 p1, .int .i64 p2, .int .i64 q0, .int .i64 q1, .int .i64 q2, .int .i64 r] 28)).alloc (.cells #[.int .i64 pc, .int .i64 st, .slice (some ⟨kb, ko, none⟩) ops.length kc] 31)) wr) (fun _ iv _ => L.body.length - (intOf iv).toNat)
  case atStart => exact ⟨0, Nat.zero_le _, rfl, none, 0, rfl, World.ownsRow_nil _ _ _ _, rfl, HB2.out⟩
  case round =>
    clear HB2
    obtain ⟨s, hs, rfl, xa, xc, rfl, hown, hall, hbel⟩ := hrel
    have HO := hide hown
    have HA := hide hall
    have HB := hide hbel
    obtain ⟨⟨l0, l1, l2⟩, ⟨t0, t1, t2, t3, t4, t5, t6⟩, ⟨k0, k1, k2⟩, hz, hbw⟩ := lkbox_cells hbel
    have HW := hide hbw
    by_cases hsl : s < L.body.length
    · have hsi : (s : Int) < (L.body.length : Int) := by omega
      have cO := HOC.out s (by have := HE2.out; omega)
      rw [← bcell hbw _ _ hob] at cO
      have hobz : ob < wr.heap.size := by have := hbw.size; omega
      have hkbz : kb < wr.heap.size := by have := hbw.size; omega
      have hbz : b < wr.heap.size := by have := hbw.size; omega
      have hsO : (s : Int) < (O.length : Int) := by have := HE2.out; omega
      have HSTEP : Hid (allN (fun s => ordOkD L O s && sameD L ⟨pc, st, ops⟩ O s) (s + 1) = (ordOkD L O s && sameD L ⟨pc, st, ops⟩ O s)) := by show (allN _ s && _) = _; rw [HA.out, Bool.true_and]
      have HNO : Hid ((ordOkD L O s && sameD L ⟨pc, st, ops⟩ O s) = false → layD L ⟨p0, p1, p2, q0, q1, q2, r⟩ ⟨pc, st, ops⟩ O = false) := fun h => by rw [HLAY.out]; exact allN_false hsl h
      have HORD : Hid (ordOkD L O s = (inR (nth O s) 0 (L.body.length - 1) && allN (fun i => !decide (nth O i = nth O s)) s)) := rfl
      obtain ⟨os, hos⟩ : ∃ os, nth O s = os := ⟨_, rfl⟩
      have HOS := hide hos
      rw [hos] at cO HORD
      clear hown hall hbel hbw hos
      by_cases hin : 0 ≤ os ∧ os < L.body.length
      · obtain ⟨hin1, hin2⟩ := hin
        go_wp2_with fail
        go_loopw [13] (fun iv wr2 => ∃ q : Nat, q ≤ s ∧ iv = .int .i64 q ∧ allN (fun i => !decide (nth O i = os)) q = true ∧ ∃ d, wr2 = wr.drewN d) (fun iv _ => s - (intOf iv).toNat)
        case atStart => exact ⟨0, Nat.zero_le _, rfl, rfl, 0, rfl⟩
        case round =>
          obtain ⟨q, hq, rfl, hqa, d, rfl⟩ := hrel
          have HQ := hide hqa
          clear hqa
          by_cases hql : q < s
          · have hqi : (q : Int) < (s : Int) := by omega
            have cQ := HOC.out q (by have := HE2.out; omega)
            rw [← bcell HW.out _ _ hob] at cQ
            have hqO : (q : Int) < (O.length : Int) := by omega
            have HQS : Hid (allN (fun i => !decide (nth O i = os)) (q + 1) = !decide (nth O q = os)) := by show (allN _ q && _) = _; rw [HQ.out, Bool.true_and]
            have HQN : Hid (nth O q = os → layD L ⟨p0, p1, p2, q0, q1, q2, r⟩ ⟨pc, st, ops⟩ O = false) := fun h => HNO.out (by rw [HORD.out, allN_false (p := fun i => !decide (nth O i = os)) hql (by rw [decide_eq_true h]; rfl)]; simp)
            obtain ⟨oq, hoq⟩ : ∃ oq, nth O q = oq := ⟨_, rfl⟩
            rw [hoq] at cQ HQS HQN
            clear hoq
            by_cases heq : oq = os
            · have hbq : (oq == os) = true := by simpa using heq
              have HN := hide (HQN.out heq)
              clear heq HQS HQN
              go_wp2_with fail
              go_big_quiet ((fail))
              go_wp2_with fail
              exact bodyPost_ret (v := .tuple #[.slice none 0 0, .bool false]) (by simp [results, Tryz.results7, go_sem]) rfl (LayPost.no HN.out ((HW.out.trans (below_draws _ _ d)).trans (below_draws _ _ _)))
            · have hbq : (oq == os) = false := by simpa using heq
              have HN : Hid (allN (fun i => !decide (nth O i = os)) (q + 1) = true) := by show _ = _; rw [HQS.out, decide_eq_false heq]; rfl
              clear heq HQS HQN
              go_wp2_with fail
              go_big_quiet ((fail))
              go_wp2_with fail
              go_roundw
              case rel => exact ⟨q + 1, by omega, by go_num, HN.out, _, rfl⟩
              case measure => simp [intOf]; omega
          · have e : q = s := by omega
            subst e
            have hqi : ¬ (q : Int) < (q : Int) := by omega
            have HORY : Hid (ordOkD L O q = true) := by show _ = _; rw [HORD.out, HQ.out, inR_yes (by omega)]; rfl
            obtain ⟨ox, rfl⟩ : ∃ ox : Nat, os = (ox : Int) := ⟨os.toNat, by omega⟩
            have hoxo : ox < ops.length := by have := HE1.out; omega
            have hoxi : (ox : Int) < (ops.length : Int) := by omega
            obtain ⟨c0, c1, c2, c3, c4, c5, c6, c7, c8, c9⟩ := ten (fun j hj => (bcell HW.out kb (ko + ox * 10 + j) hkb).trans (HKC.out ox hoxo j hj))
            obtain ⟨⟨g1, g2⟩, ⟨g3, g4⟩, ⟨g5, g6⟩, ⟨g7, g8⟩, g9, g10⟩ := HRNG.out ox hoxo
            obtain ⟨b0, b1, b2, b3, b4, b5, b6, b7, b8⟩ := nine (fun j hj => (bcell HW.out b (off + q * 9 + j) hb).trans (HBODY.out q hsl j hj))
            have HOPJ : Hid (opJ ⟨pc, st, ops⟩ O q = opAt ops ox) := by show opAt ops (nth O q).toNat = _; rw [HOS.out, Int.toNat_natCast]
            have HSAM : Hid (sameD L ⟨pc, st, ops⟩ O q = (decide ((opJ ⟨pc, st, ops⟩ O q).o = (stAt L.body q).o) && decide ((opJ ⟨pc, st, ops⟩ O q).ar = (stAt L.body q).ar) && decide ((opJ ⟨pc, st, ops⟩ O q).sp = (stAt L.body q).sp) && decide ((opJ ⟨pc, st, ops⟩ O q).pl = (stAt L.body q).pl) && decide ((opJ ⟨pc, st, ops⟩ O q).nn = (stAt L.body q).nn))) := rfl
            have HTM : Hid (timeJ ⟨pc, st, ops⟩ O q = (opJ ⟨pc, st, ops⟩ O q).sl + pc * (opJ ⟨pc, st, ops⟩ O q).sg ∧ readyJ ⟨p0, p1, p2, q0, q1, q2, r⟩ ⟨pc, st, ops⟩ O q = timeJ ⟨pc, st, ops⟩ O q + waitT ⟨p0, p1, p2, q0, q1, q2, r⟩ (opJ ⟨pc, st, ops⟩ O q).o ∧ placeJ ⟨pc, st, ops⟩ O q = (opJ ⟨pc, st, ops⟩ O q).d + (opJ ⟨pc, st, ops⟩ O q).sg) := ⟨rfl, rfl, rfl⟩
            rw [HOPJ.out] at HSAM HTM
            generalize opAt ops ox = kx at *
            generalize stAt L.body q = sx at *
            obtain ⟨sl, sg, o, dd, oa1, ob1, ar, sp, pl, nn⟩ := kx
            obtain ⟨o', xa', xb', ya', yb', ar', sp', pl', nn'⟩ := sx
            try dsimp only at g1 g2
            dsimp only at g3 g4 g5 g6 g7 g8 g9 g10 c0 c1 c2 c3 c4 c5 c6 c7 c8 c9 b0 b1 b2 b3 b4 b5 b6 b7 b8 HSAM HTM
            have HSS : Hid (∀ w' : World, Below wr.heap.size wr w' → w'.cell? ⟨w.heap.size + 1 + 1, 2, none⟩ = some (.slice (some ⟨kb, ko, none⟩) ops.length kc) ∧ w'.cell? ⟨ob, oo + q, none⟩ = some (.int .i64 (ox : Int)) ∧ w'.cell? ⟨kb, ko + ox * 10, none⟩ = some (.int .i64 sl) ∧ w'.cell? ⟨kb, ko + ox * 10 + 1, none⟩ = some (.int .i64 sg) ∧ w'.cell? ⟨kb, ko + ox * 10 + 2, none⟩ = some (.int .i64 o) ∧ w'.cell? ⟨kb, ko + ox * 10 + 3, none⟩ = some (.int .i64 dd) ∧ w'.cell? ⟨kb, ko + ox * 10 + 4, none⟩ = some (.int .i64 oa1) ∧ w'.cell? ⟨kb, ko + ox * 10 + 5, none⟩ = some (.int .i64 ob1) ∧ w'.cell? ⟨kb, ko + ox * 10 + 6, none⟩ = some (.int .i64 ar) ∧ w'.cell? ⟨kb, ko + ox * 10 + 7, none⟩ = some (.int .i64 sp) ∧ w'.cell? ⟨kb, ko + ox * 10 + 8, none⟩ = some (.int .i64 pl) ∧ w'.cell? ⟨kb, ko + ox * 10 + 9, none⟩ = some (.int .i64 nn)) := by
              intro w' h
              refine ⟨?_, ?_, ?_, ?_, ?_, ?_, ?_, ?_, ?_, ?_, ?_, ?_⟩
              all_goals (rw [bcell h _ _ (by omega)]; assumption)
            go_wp2_with fail
            refine wp_region_noPanic ?_
            refine region_until 9 (fun w' => w'.cell? ⟨w.heap.size + 1 + 1, 2, none⟩ = some (.slice (some ⟨kb, ko, none⟩) ops.length kc) ∧ w'.cell? ⟨ob, oo + q, none⟩ = some (.int .i64 (ox : Int)) ∧ w'.cell? ⟨kb, ko + ox * 10, none⟩ = some (.int .i64 sl) ∧ w'.cell? ⟨kb, ko + ox * 10 + 1, none⟩ = some (.int .i64 sg) ∧ w'.cell? ⟨kb, ko + ox * 10 + 2, none⟩ = some (.int .i64 o) ∧ w'.cell? ⟨kb, ko + ox * 10 + 3, none⟩ = some (.int .i64 dd) ∧ w'.cell? ⟨kb, ko + ox * 10 + 4, none⟩ = some (.int .i64 oa1) ∧ w'.cell? ⟨kb, ko + ox * 10 + 5, none⟩ = some (.int .i64 ob1) ∧ w'.cell? ⟨kb, ko + ox * 10 + 6, none⟩ = some (.int .i64 ar) ∧ w'.cell? ⟨kb, ko + ox * 10 + 7, none⟩ = some (.int .i64 sp) ∧ w'.cell? ⟨kb, ko + ox * 10 + 8, none⟩ = some (.int .i64 pl) ∧ w'.cell? ⟨kb, ko + ox * 10 + 9, none⟩ = some (.int .i64 nn)) (by kernel_rfl) (HSS.out _ ((below_draws _ _ d).trans (below_drewX _ _))) (fun hHeld => ?_)
            refine utk (i := 0) rfl hHeld ?_
            try simp only [Act.put, List.setIfInBounds_toArray, List.set_cons_zero, List.set_cons_succ]
            refine utk (i := 1) rfl hHeld ?_
            try simp only [Act.put, List.setIfInBounds_toArray, List.set_cons_zero, List.set_cons_succ]
            refine utk (i := 2) rfl hHeld ?_
            try simp only [Act.put, List.setIfInBounds_toArray, List.set_cons_zero, List.set_cons_succ]
            refine utk (i := 3) rfl hHeld ?_
            try simp only [Act.put, List.setIfInBounds_toArray, List.set_cons_zero, List.set_cons_succ]
            refine utk (i := 4) rfl hHeld ?_
            try simp only [Act.put, List.setIfInBounds_toArray, List.set_cons_zero, List.set_cons_succ]
            refine utk (i := 5) rfl hHeld ?_
            try simp only [Act.put, List.setIfInBounds_toArray, List.set_cons_zero, List.set_cons_succ]
            refine utk (i := 6) rfl hHeld ?_
            try simp only [Act.put, List.setIfInBounds_toArray, List.set_cons_zero, List.set_cons_succ]
            refine utk (i := 7) rfl hHeld ?_
            try simp only [Act.put, List.setIfInBounds_toArray, List.set_cons_zero, List.set_cons_succ]
            obtain ⟨W0, hW0, hWb, hWs⟩ : ∃ W0 : World, wr.drewN (d + 1) = W0 ∧ Below wr.heap.size wr W0 ∧ W0.heap.size = wr.heap.size := ⟨_, rfl, below_draws _ _ _, rfl⟩
            have hHeld := HSS.out W0 hWb
            have hW1 : (wr.drewN d).drew = W0 := hW0
            rw [hW1]
            have HWS := hide hWs
            clear hWs
            refine until_one (i := 8) rfl (by kernel_rfl) (fun K hK9 => ?_)
            go_simp
            have hHeld := HSS.out _ (hWb.alloc (by have := HWS.out; omega) (.cells #[.int .i64 0, .int .i64 0, .int .i64 0, .int .i64 0, .int .i64 0, .int .i64 0, .int .i64 0, .int .i64 0, .int .i64 0, .int .i64 0] 37))
            refine hK9.out _ _ (.inr hHeld) ?_
            clear hK9 K
            try simp only [Act.put, List.setIfInBounds_toArray, List.set_cons_zero, List.set_cons_succ]
            refine until_one (i := 9) rfl (by kernel_rfl) (fun K hK9 => ?_)
            go_simp
            refine hK9.out _ _ (.inl rfl) ?_
            clear hK9 K
            try simp only [Act.put, List.setIfInBounds_toArray, List.set_cons_zero, List.set_cons_succ]
            refine until_done (by kernel_rfl) ?_ _
            refine NoPanic.normal ?_
            clear hHeld HSS hW0 hW1
            have HWB := hide hWb
            have hWs := HWS.out
            have HW0 := hide (HW.out.trans (hWb.mono HW.out.size))
            have HB0 := hide (HB.out.trans (hWb.mono (by omega)))
            clear l0 l1 l2 t0 t1 t2 t3 t4 t5 t6 k0 k1 k2 cO c0 c1 c2 c3 c4 c5 c6 c7 c8 c9
            obtain ⟨⟨l0, l1, l2⟩, ⟨t0, t1, t2, t3, t4, t5, t6⟩, ⟨k0, k1, k2⟩, hz0, -⟩ := lkbox_cells HB0.out
            rw [← bcell hWb _ _ hbz] at b0 b1 b2 b3 b4 b5 b6 b7 b8
            have hbz0 : b < W0.heap.size := by omega
            have hza : w.heap.size < W0.heap.size := by omega
            have hzb : w.heap.size + 1 < W0.heap.size := by omega
            have HZ : Hid (wr.heap.size = W0.heap.size) := hWs.symm
            clear hWb hWs
            have HNOP : Hid (∀ (x : Bool), sameD L ⟨pc, st, ops⟩ O q = x → x = false → layD L ⟨p0, p1, p2, q0, q1, q2, r⟩ ⟨pc, st, ops⟩ O = false) := fun x h1 h2 => HNO.out (by rw [h1, h2]; simp)
            have HBN := hide (below_alloc2 W0 (.cells #[.int .i64 sl, .int .i64 sg, .int .i64 o, .int .i64 dd, .int .i64 oa1, .int .i64 ob1, .int .i64 ar, .int .i64 sp, .int .i64 pl, .int .i64 nn] 37) (.cells #[.int .i64 o', .int .i64 xa', .int .i64 xb', .int .i64 ya', .int .i64 yb', .int .i64 ar', .int .i64 sp', .int .i64 pl', .int .i64 nn'] 41))
            have HW2 := hide (HW0.out.trans (HBN.out.mono HW0.out.size))
            by_cases f1 : o = o'
            rotate_left
            · have f1b : (o != o') = true := by simpa using f1
              have HN : Hid (layD L ⟨p0, p1, p2, q0, q1, q2, r⟩ ⟨pc, st, ops⟩ O = false) := HNOP.out _ HSAM.out (by rw [decide_eq_false f1]; simp)
              clear f1 HSAM HTM
              go_wp2_with fail
              exact bodyPost_ret (v := .tuple #[.slice none 0 0, .bool false]) (by simp [results, Tryz.results7, go_sem]) rfl (LayPost.no HN.out HW2.out)
            have f1b : (o != o') = false := by simpa using f1
            have F1 := hide f1
            clear f1
            by_cases f2 : ar = ar'
            rotate_left
            · have f2b : (ar != ar') = true := by simpa using f2
              have HN : Hid (layD L ⟨p0, p1, p2, q0, q1, q2, r⟩ ⟨pc, st, ops⟩ O = false) := HNOP.out _ HSAM.out (by rw [decide_eq_false f2]; simp)
              clear f2 HSAM HTM
              go_wp2_with fail
              exact bodyPost_ret (v := .tuple #[.slice none 0 0, .bool false]) (by simp [results, Tryz.results7, go_sem]) rfl (LayPost.no HN.out HW2.out)
            have f2b : (ar != ar') = false := by simpa using f2
            have F2 := hide f2
            clear f2
            by_cases f3 : sp = sp'
            rotate_left
            · have f3b : (sp != sp') = true := by simpa using f3
              have HN : Hid (layD L ⟨p0, p1, p2, q0, q1, q2, r⟩ ⟨pc, st, ops⟩ O = false) := HNOP.out _ HSAM.out (by rw [decide_eq_false f3]; simp)
              clear f3 HSAM HTM
              go_wp2_with fail
              exact bodyPost_ret (v := .tuple #[.slice none 0 0, .bool false]) (by simp [results, Tryz.results7, go_sem]) rfl (LayPost.no HN.out HW2.out)
            have f3b : (sp != sp') = false := by simpa using f3
            have F3 := hide f3
            clear f3
            by_cases f4 : pl = pl'
            rotate_left
            · have f4b : (pl != pl') = true := by simpa using f4
              have HN : Hid (layD L ⟨p0, p1, p2, q0, q1, q2, r⟩ ⟨pc, st, ops⟩ O = false) := HNOP.out _ HSAM.out (by rw [decide_eq_false f4]; simp)
              clear f4 HSAM HTM
              go_wp2_with fail
              exact bodyPost_ret (v := .tuple #[.slice none 0 0, .bool false]) (by simp [results, Tryz.results7, go_sem]) rfl (LayPost.no HN.out HW2.out)
            have f4b : (pl != pl') = false := by simpa using f4
            have F4 := hide f4
            clear f4
            by_cases f5 : nn = nn'
            rotate_left
            · have f5b : (nn != nn') = true := by simpa using f5
              have HN : Hid (layD L ⟨p0, p1, p2, q0, q1, q2, r⟩ ⟨pc, st, ops⟩ O = false) := HNOP.out _ HSAM.out (by rw [decide_eq_false f5]; simp)
              clear f5 HSAM HTM
              go_wp2_with fail
              exact bodyPost_ret (v := .tuple #[.slice none 0 0, .bool false]) (by simp [results, Tryz.results7, go_sem]) rfl (LayPost.no HN.out HW2.out)
            have f5b : (nn != nn') = false := by simpa using f5
            have F5 := hide f5
            clear f5
            have HALL : Hid (allN (fun s => ordOkD L O s && sameD L ⟨pc, st, ops⟩ O s) (q + 1) = true) := by show _ = _; rw [HSTEP.out, HORY.out, HSAM.out, decide_eq_true F1.out, decide_eq_true F2.out, decide_eq_true F3.out, decide_eq_true F4.out, decide_eq_true F5.out]; rfl
            obtain ⟨ps, hps⟩ : ∃ ps, pc * sg = ps := ⟨_, rfl⟩
            rw [hps] at g7 g8 HTM
            obtain ⟨wv1, wv2⟩ := HWO.out o
            have HWC := hide (HWT.out o)
            obtain ⟨wv, hwv⟩ : ∃ wv, waitT ⟨p0, p1, p2, q0, q1, q2, r⟩ o = wv := ⟨_, rfl⟩
            rw [hwv] at HWC wv1 wv2 HTM
            clear HSAM HNOP hwv
            go_wp2_with fail
            refine (HWC.out _).mono ?_
            rintro e x3 ⟨rfl, hb3⟩
            have e0 : x3.cell? ⟨W0.heap.size, 1, none⟩ = some (.int .i64 sg) := by rw [bcell hb3 _ _ (by simp; omega)]; go_simp
            have e3 : x3.cell? ⟨W0.heap.size, 3, none⟩ = some (.int .i64 dd) := by rw [bcell hb3 _ _ (by simp; omega)]; go_simp
            have hxz : W0.heap.size < x3.heap.size := by have := hb3.size; simp at this; omega
            have HX3 := hide (HBN.out.trans (hb3.mono (by simp; omega)))
            have HOX := hide (own_below HO.out (HWB.out.trans (HX3.out.mono (by have := HZ.out; omega))))
            have HBX := hide (HB0.out.trans (HX3.out.mono (by omega)))
            have hlz : w.heap.size + 1 + 1 + 1 ≤ x3.heap.size := by omega
            have HVAL : Hid (timeJ ⟨pc, st, ops⟩ O q = sl + ps ∧ readyJ ⟨p0, p1, p2, q0, q1, q2, r⟩ ⟨pc, st, ops⟩ O q = sl + ps + wv ∧ placeJ ⟨pc, st, ops⟩ O q = dd + sg) := ⟨HTM.out.1, by rw [HTM.out.2.1, HTM.out.1], HTM.out.2.2⟩
            clear hb3 HWC HTM b0 b1 b2 b3 b4 b5 b6 b7 b8 l0 l1 l2 t0 t1 t2 t3 t4 t5 t6 k0 k1 k2
            go_wp2_with (at_builtin; refine wpList_append_own _ rfl (.tmp 136) (.tmp 147) 42 rfl (w.heap.size + 1 + 1 + 1) 79 j0 (.agg #[.int .i64 0, .int .i64 0, .int .i64 0]) 3 24 Tryz.underlying42 ji jz0 jz1 jz2 rfl (by decide) _ _ _ rfl (own_below HOX.out (below_alloc1 _ _)) ⟨x3.heap.size, 0, none⟩ 1 1 (duCells ⟨sl + ps, sl + ps + wv, dd + sg⟩) rfl rfl (by exact three_cells _ _ _ _ _) (by intro u hu; unfold duCells at hu; simp at hu; rcases hu with rfl | rfl | rfl <;> rfl) (by unfold maxLen; omega) (by omega) (by simp; omega) ?_; intro v2' w2 hown2 hgrow2 hnil2; obtain ⟨oa2, oc2, rfl, hl1', hl2'⟩ := ownz_shape hown2; have HO2 := hide hown2; have HG2 := hide hgrow2; clear hown2 hgrow2)
            go_roundw
            case rel =>
              have h2 := HO2.out
              have h3 : (⟨sl + ps, sl + ps + wv, dd + sg⟩ : Du) = ⟨timeJ ⟨pc, st, ops⟩ O q, readyJ ⟨p0, p1, p2, q0, q1, q2, r⟩ ⟨pc, st, ops⟩ O q, placeJ ⟨pc, st, ops⟩ O q⟩ := by rw [HVAL.out.1, HVAL.out.2.1, HVAL.out.2.2]
              rw [flatD_snoc, h3, ofL_snoc] at h2
              exact ⟨q + 1, by omega, by go_num, oa2, oc2, rfl, h2, HALL.out, (HBX.out.alloc (by omega) _).grown HG2.out (by simp; omega) (ownz_block_ge HO.out)⟩
            case measure => simp [intOf]; omega
      · have HN : Hid (layD L ⟨p0, p1, p2, q0, q1, q2, r⟩ ⟨pc, st, ops⟩ O = false) := HNO.out (by rw [HORD.out, inR_no (by omega)]; rfl)
        by_cases hneg : os < 0
        · clear hin
          go_wp2_with fail
          exact bodyPost_ret (v := .tuple #[.slice none 0 0, .bool false]) (by simp [results, Tryz.results7, go_sem]) rfl (LayPost.no HN.out HW.out)
        · have hge : (L.body.length : Int) ≤ os := by omega
          clear hin
          go_wp2_with fail
          exact bodyPost_ret (v := .tuple #[.slice none 0 0, .bool false]) (by simp [results, Tryz.results7, go_sem]) rfl (LayPost.no HN.out HW.out)
    · have e : s = L.body.length := by omega
      subst e
      have hsi : ¬ (L.body.length : Int) < (L.body.length : Int) := by omega
      have HY : Hid (layD L ⟨p0, p1, p2, q0, q1, q2, r⟩ ⟨pc, st, ops⟩ O = true) := by show _ = _; rw [HLAY.out, HA.out]
      have HOV := hide (OfV.of_own HO.out)
      clear hown hall hbel hbw
      go_wp2_with fail
      exact bodyPost_ret (v := .tuple #[.slice xa L.body.length xc, .bool true]) (by simp [results, Tryz.results7, go_sem]) rfl (LayPost.yes HY.out HW.out HOV.out)
theorem layout_any (v kv ov : Value) (t : Tg) (L : Lp) (K : Kn) (O : List Int) (w : World) (hL : LoopV w v L) (hK : KernV w kv K) (hO : Ints w ov O) :
    Calls Tryz.prog 7 #[v, .agg t.cells, kv, ov] w (LayPost L t K O w) := by
  have hL' := hL
  obtain ⟨v0, v1, v2, rfl, ⟨a0, cap0, rfl, -⟩, ⟨a1, cap1, rfl, -⟩, ⟨a2, cap2, rfl, -⟩⟩ := hL'
  obtain ⟨kl, rfl, hOp⟩ := hK
  have hOp' := hOp
  obtain ⟨ka, kc, rfl, -⟩ := hOp'
  have hO' := hO
  obtain ⟨oa, oc, rfl, -⟩ := hO'
  obtain ⟨pc, st, ops⟩ := K
  obtain ⟨p0, p1, p2, q0, q1, q2, r⟩ := t
  by_cases h1 : (mayB L && mayT ⟨p0, p1, p2, q0, q1, q2, r⟩) = true
  · by_cases h2 : mayK ⟨p0, p1, p2, q0, q1, q2, r⟩ ⟨pc, st, ops⟩ L.logs = true
    · by_cases h3 : ops.length = L.body.length
      · by_cases h4 : O.length = L.body.length
        · exact layout_go p0 p1 p2 q0 q1 q2 r pc st ops L O a0 a1 a2 ka oa cap0 cap1 cap2 kc oc w hL hOp hO h1 h2 h3 h4
        · exact (layout_no p0 p1 p2 q0 q1 q2 r pc st ops L O a0 a1 a2 ka oa cap0 cap1 cap2 kc oc w hL hOp hO (.inr (.inr (.inr h4)))).mono fun e w' ⟨he, hb⟩ => he ▸ LayPost.no (lay_no (.inr (.inr (.inr h4)))) hb
      · exact (layout_no p0 p1 p2 q0 q1 q2 r pc st ops L O a0 a1 a2 ka oa cap0 cap1 cap2 kc oc w hL hOp hO (.inr (.inr (.inl h3)))).mono fun e w' ⟨he, hb⟩ => he ▸ LayPost.no (lay_no (.inr (.inr (.inl h3)))) hb
    · have h2' : mayK ⟨p0, p1, p2, q0, q1, q2, r⟩ ⟨pc, st, ops⟩ L.logs = false := by simpa using h2
      exact (layout_no p0 p1 p2 q0 q1 q2 r pc st ops L O a0 a1 a2 ka oa cap0 cap1 cap2 kc oc w hL hOp hO (.inr (.inl h2'))).mono fun e w' ⟨he, hb⟩ => he ▸ LayPost.no (lay_no (.inr (.inl h2'))) hb
  · have h1' : (mayB L && mayT ⟨p0, p1, p2, q0, q1, q2, r⟩) = false := by simpa using h1
    exact (layout_no p0 p1 p2 q0 q1 q2 r pc st ops L O a0 a1 a2 ka oa cap0 cap1 cap2 kc oc w hL hOp hO (.inl h1')).mono fun e w' ⟨he, hb⟩ => he ▸ LayPost.no (lay_no (.inl h1')) hb
end Go.Proofs.YtghlcmljgpkjiabGreat
