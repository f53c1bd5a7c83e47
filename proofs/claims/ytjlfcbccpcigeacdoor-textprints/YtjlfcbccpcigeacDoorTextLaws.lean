/- The walks of the laws on loops as text: they return true, if the program's Print and Parse and the document's Parse answer as PrintC, ParseC and ParseRefC say; nothing that was there is changed. -/
import Derived.Test.YtjlfcbccpcigeacDoorTextSay
import Derived.Test.YtjlfcbccpcigeacDoorTextVars
namespace Go.Proofs.YtjlfcbccpcigeacDoor
open Go.RowKit Go.Joins
set_option linter.unusedVariables false
set_option linter.unusedSimpArgs false
set_option maxRecDepth 8192

/-- how the program prints -/
def PrintC : Prop := ∀ (v : Value) (L : Lp) (w : World), VarsP w → LoopV w v L → LoopIn L → Calls Tryd.prog 7 #[v] w fun e w' => e = .returned (.tuple #[.string (strOfNums (printD L)), .int .i64 (printC L)]) ∧ Below w.heap.size w w'
/-- how the program reads -/
def ParseC : Prop := ∀ (s : List Int) (w : World), VarsT w → ByteL s → s.length ≤ 2000000 → Calls Tryd.prog 10 #[.string (strOfNums s)] w (ParsePost s w)
set_option maxHeartbeats 4000000 in
theorem textPrints_any (hP : PrintC) (v : Value) (L : Lp) (w : World) (hvt : VarsP w) (hL : LoopV w v L) (hn : LoopIn L) : Calls Tryd.prog 3 #[v] w fun e w' => e = .returned (.bool true) ∧ Below w.heap.size w w' := by
  obtain ⟨v0, v1, v2, rfl, i0, i1, i2⟩ := id hL
  obtain ⟨a0, cap0, rfl, -⟩ := i0
  obtain ⟨a1, cap1, rfl, -⟩ := i1
  obtain ⟨a2, cap2, rfl, -⟩ := i2
  have HPR := hide (fun W hw h => hP (.agg #[.slice a0 L.logs.length cap0, .slice a1 L.body.length cap1, .slice a2 L.outs.length cap2]) L W hw h hn)
  have HVT := hide hvt
  clear hvt
  have HMY := hide (fun W h => rmay_any (.agg #[.slice a0 L.logs.length cap0, .slice a1 L.body.length cap1, .slice a2 L.outs.length cap2]) L W h)
  have HTX := hide (fun W (h : LoopV W (.agg #[.slice a0 L.logs.length cap0, .slice a1 L.body.length cap1, .slice a2 L.outs.length cap2]) L) (hm : mayB L = true) => text14_any _ L W h hm hn)
  have HL := hide hL
  have HBX := hide (below_alloc1 w (.cells #[.slice a0 L.logs.length cap0, .slice a1 L.body.length cap1, .slice a2 L.outs.length cap2] 25))
  have HZ : Hid ((w.alloc (.cells #[.slice a0 L.logs.length cap0, .slice a1 L.body.length cap1, .slice a2 L.outs.length cap2] 25)).heap.size = w.heap.size + 1) := by show _ = _; simp
  have HBK : Hid (∀ y, Below (w.heap.size + 1) (w.alloc (.cells #[.slice a0 L.logs.length cap0, .slice a1 L.body.length cap1, .slice a2 L.outs.length cap2] 25)) y → (y.cell? ⟨w.heap.size, 0, none⟩ = some (.slice a0 L.logs.length cap0) ∧ y.cell? ⟨w.heap.size, 1, none⟩ = some (.slice a1 L.body.length cap1) ∧ y.cell? ⟨w.heap.size, 2, none⟩ = some (.slice a2 L.outs.length cap2)) ∧ Below w.heap.size w y ∧ w.heap.size + 1 ≤ y.heap.size) := fun y hy => by
    have hb := (hy.block w.heap.size (by omega)).trans (new_blkS w _ _)
    exact ⟨⟨by rw [cell_of_block hb]; rfl, by rw [cell_of_block hb]; rfl, by rw [cell_of_block hb]; rfl⟩, HBX.out.trans (hy.mono (by omega)), by have := hy.size; rw [HZ.out] at this; exact this⟩
  have hpd : printD L = if mayB L = true then textD L else [] := rfl
  have hpc : printC L = if mayB L = true then 0 else 2 := rfl
  generalize printD L = pd at *
  generalize printC L = pc at *
  clear hL hn
  go_enter Tryd.func3, Tryd.ntmps3
  cases hm : mayB L with
  | false =>
    rw [hm] at HMY
    rw [hm, if_neg Bool.false_ne_true] at hpd hpc
    subst hpd
    subst hpc
    have he : (strOfNums []).toList = [] := by rw [ByteArray.toList_eq]; rfl
    clear HTX hm
    go_wp2_with fail
    refine (HPR.out _ (HVT.out.on HBX.out) (HL.out.below HBX.out)).mono ?_
    rintro e y1 ⟨rfl, hy1⟩
    have HY1 : Hid (Below (w.heap.size + 1) (w.alloc (.cells #[.slice a0 L.logs.length cap0, .slice a1 L.body.length cap1, .slice a2 L.outs.length cap2] 25)) y1) := by show Below _ _ _; rw [← HZ.out]; exact hy1
    obtain ⟨⟨c0, c1, c2⟩, hb1, hz1⟩ := HBK.out _ HY1.out
    have HB1 := hide hb1
    clear hy1 hb1
    go_wp2_with fail
    refine (HMY.out _ (HL.out.below HB1.out)).mono ?_
    rintro e y2 ⟨rfl, hy2⟩
    have HB2 := hide (HB1.out.trans (hy2.mono (by omega)))
    clear hy2 c0 c1 c2
    go_wp2_with fail
    go_ret
    exact ⟨rfl, HB2.out⟩
  | true =>
    rw [hm] at HMY
    rw [hm, if_pos rfl] at hpd hpc
    subst hpc
    have HTY := hide (fun W h => HTX.out W h hm)
    rw [← hpd] at HTY
    obtain ⟨X, hX⟩ : ∃ X, strOfNums pd = X := ⟨_, rfl⟩
    rw [hX] at HTY HPR
    clear HTX hm hpd hX
    go_wp2_with fail
    refine (HPR.out _ (HVT.out.on HBX.out) (HL.out.below HBX.out)).mono ?_
    rintro e y1 ⟨rfl, hy1⟩
    have HY1 : Hid (Below (w.heap.size + 1) (w.alloc (.cells #[.slice a0 L.logs.length cap0, .slice a1 L.body.length cap1, .slice a2 L.outs.length cap2] 25)) y1) := by show Below _ _ _; rw [← HZ.out]; exact hy1
    obtain ⟨⟨c0, c1, c2⟩, hb1, hz1⟩ := HBK.out _ HY1.out
    have HB1 := hide hb1
    clear hy1 hb1
    go_wp2_with fail
    refine (HMY.out _ (HL.out.below HB1.out)).mono ?_
    rintro e y2 ⟨rfl, hy2⟩
    have HY2 := hide (HY1.out.trans (hy2.mono hz1))
    clear hy2 c0 c1 c2
    obtain ⟨⟨c0, c1, c2⟩, hb2, hz2⟩ := HBK.out _ HY2.out
    have HB2 := hide hb2
    clear hb2
    go_wp2_with fail
    refine (HTY.out _ (HL.out.below HB2.out)).mono ?_
    rintro e y3 ⟨rfl, hy3⟩
    have HB3 := hide (HB2.out.trans (hy3.mono (by omega)))
    clear hy3 c0 c1 c2
    go_wp2_with fail
    go_ret
    exact ⟨rfl, HB3.out⟩
set_option maxHeartbeats 4000000 in
theorem textParses_any (hP : ParseC) (hR : ParseRefC) (s : List Int) (w : World) (hvt : VarsT w) (hs : ByteL s) (hl : s.length ≤ 2000000) : Calls Tryd.prog 4 #[.string (strOfNums s)] w fun e w' => e = .returned (.bool true) ∧ Below w.heap.size w w' := by
  have HPR := hide (fun W hw => hP s W hw hs hl)
  have HVT := hide hvt
  clear hvt
  have HRF := hide (fun W => hR s W hs hl)
  unfold ParsePost at HPR HRF
  generalize parseD s = pr at HPR HRF
  obtain ⟨R, fc, fn⟩ := pr
  dsimp only at HPR HRF
  obtain ⟨fa, hfa⟩ : ∃ fa : Int, (fn : Int) = fa := ⟨_, rfl⟩
  rw [hfa] at HPR HRF
  obtain ⟨X, hX⟩ : ∃ X, strOfNums s = X := ⟨_, rfl⟩
  rw [hX] at HPR HRF ⊢
  clear hX hfa hs hl
  go_enter Tryd.func4, Tryd.ntmps4
  go_wp2_with fail
  refine (HPR.out _ HVT.out).mono ?_
  rintro e y1 ⟨v0, v1, v2, rfl, hv, -, hy1⟩
  have HV := hide hv
  obtain ⟨u0, u1, u2, hu, ⟨pa0, pc0, rfl, -⟩, ⟨pa1, pc1, rfl, -⟩, ⟨pa2, pc2, rfl, -⟩⟩ := hv
  simp only [Value.agg.injEq, Array.mk.injEq, List.cons.injEq, and_true] at hu
  obtain ⟨rfl, rfl, rfl⟩ := hu
  have HB1 := hide hy1
  have HZ1 : Hid (((y1.alloc (.cells #[.slice pa0 R.logs.length pc0, .slice pa1 R.body.length pc1, .slice pa2 R.outs.length pc2] 25)).alloc (.cells #[.int .i64 fc, .int .i64 fa] 32)).heap.size = y1.heap.size + 1 + 1) := by show _ = _; simp
  clear hy1
  go_wp2_with fail
  refine (HRF.out _).mono ?_
  rintro e y2 ⟨v0, v1, v2, rfl, hv, -, hy2⟩
  have HV2 := hide hv
  obtain ⟨u0, u1, u2, hu, ⟨qa0, qc0, rfl, -⟩, ⟨qa1, qc1, rfl, -⟩, ⟨qa2, qc2, rfl, -⟩⟩ := hv
  simp only [Value.agg.injEq, Array.mk.injEq, List.cons.injEq, and_true] at hu
  obtain ⟨rfl, rfl, rfl⟩ := hu
  have HB2 : Hid (Below y1.heap.size y1 y2) := (below_alloc2 _ _ _).trans (hy2.mono (by rw [HZ1.out]; omega))
  have hbl : y2.heap[y1.heap.size]? = some (.cells #[.slice pa0 R.logs.length pc0, .slice pa1 R.body.length pc1, .slice pa2 R.outs.length pc2] 25 (0, 0)) := two_first (by rw [← HZ1.out]; exact hy2)
  have hbf : y2.heap[y1.heap.size + 1]? = some (.cells #[.int .i64 fc, .int .i64 fa] 32 (0, 0)) := two_second (by rw [← HZ1.out]; exact hy2)
  have c0 : y2.cell? ⟨y1.heap.size, 0, none⟩ = some (.slice pa0 R.logs.length pc0) := by rw [cell_of_block hbl]; rfl
  have c1 : y2.cell? ⟨y1.heap.size, 1, none⟩ = some (.slice pa1 R.body.length pc1) := by rw [cell_of_block hbl]; rfl
  have c2 : y2.cell? ⟨y1.heap.size, 2, none⟩ = some (.slice pa2 R.outs.length pc2) := by rw [cell_of_block hbl]; rfl
  have f0 : y2.cell? ⟨y1.heap.size + 1, 0, none⟩ = some (.int .i64 fc) := by rw [cell_of_block hbf]; rfl
  have f1 : y2.cell? ⟨y1.heap.size + 1, 1, none⟩ = some (.int .i64 fa) := by rw [cell_of_block hbf]; rfl
  have hz2 : y1.heap.size + 1 < y2.heap.size := (Array.getElem?_eq_some_iff.1 hbf).1
  have hz3 : y1.heap.size < y2.heap.size := by omega
  have HB3 := hide (below_alloc2 y2 (.cells #[.slice qa0 R.logs.length qc0, .slice qa1 R.body.length qc1, .slice qa2 R.outs.length qc2] 25) (.cells #[.int .i64 fc, .int .i64 fa] 32))
  have HSM := hide (loop_same (.agg #[.slice pa0 R.logs.length pc0, .slice pa1 R.body.length pc1, .slice pa2 R.outs.length pc2]) (.agg #[.slice qa0 R.logs.length qc0, .slice qa1 R.body.length qc1, .slice qa2 R.outs.length qc2]) R ((y2.alloc (.cells #[.slice qa0 R.logs.length qc0, .slice qa1 R.body.length qc1, .slice qa2 R.outs.length qc2] 25)).alloc (.cells #[.int .i64 fc, .int .i64 fa] 32)) ((HV.out.below HB2.out).below HB3.out) (HV2.out.below HB3.out))
  have HBW := hide ((HB1.out.trans (HB2.out.mono HB1.out.size)).trans (HB3.out.mono (by have := HB1.out.size; omega)))
  have hwz : w.heap.size ≤ y1.heap.size := HB1.out.size
  clear hy2 hbl hbf
  go_wp2_with fail
  refine HSM.out.mono ?_
  rintro e y3 ⟨rfl, hy3⟩
  have HBE := hide (HBW.out.trans (hy3.mono (by simp; omega)))
  clear hy3 c0 c1 c2 f0 f1
  go_wp2_with fail
  go_ret
  exact ⟨rfl, HBE.out⟩
theorem go_cases : ∀ (ls : List (List Int)) (L : Lp) (k : Nat), (∃ L', goD L ls k = (L', 0, 0)) ∨ ∃ k', goD L ls k = (⟨[], [], []⟩, 2, k') := by
  intro ls
  induction ls with
  | nil => intro L k; exact .inr ⟨k, rfl⟩
  | cons p ps ih =>
    intro L k
    cases ps with
    | nil =>
      show (∃ L', (if p = [] ∧ mayB L = true then (L, 0, 0) else _) = (L', 0, 0)) ∨ ∃ k', (if p = [] ∧ mayB L = true then (L, 0, 0) else ((⟨[], [], []⟩ : Lp), (2 : Int), k)) = _
      by_cases h : p = [] ∧ mayB L = true
      · rw [if_pos h]; exact .inl ⟨L, rfl⟩
      · rw [if_neg h]; exact .inr ⟨k, rfl⟩
    | cons q qs =>
      cases hl : lineO L (splitD 32 p) with
      | none =>
        refine .inr ⟨k, ?_⟩
        show (match lineO L (splitD 32 p) with
          | some L' => goD L' (q :: qs) (k + 1)
          | none => (⟨[], [], []⟩, 2, k)) = _
        rw [hl]
      | some L' =>
        have e : goD L (p :: q :: qs) k = goD L' (q :: qs) (k + 1) := by
          show (match lineO L (splitD 32 p) with
            | some L' => goD L' (q :: qs) (k + 1)
            | none => (⟨[], [], []⟩, 2, k)) = _
          rw [hl]
        rw [e]; exact ih L' (k + 1)
theorem loopIn_mem {L : Lp} (hn : LoopIn L) : ∀ s ∈ L.body, -9223372036854775808 ≤ s.nn ∧ s.nn ≤ 9223372036854775807 := fun s hs => by
  obtain ⟨q, hq, rfl⟩ := List.mem_iff_getElem.1 hs
  have e3 : stAt L.body q = L.body[q] := by unfold stAt; rw [List.getD, List.getElem?_eq_getElem hq]; rfl
  have := hn q
  rw [e3] at this
  exact this
theorem text_ne {L : Lp} (hm : mayB L = true) : textD L ≠ [] := by
  have hb := (may_parts hm).2.1
  intro h
  have h2 : (textD L).length = 0 := by rw [h]; rfl
  rw [← tx3_all] at h2
  unfold tx3 at h2
  rw [List.length_append, List.length_append] at h2
  match hL : L.body, hb with
  | s :: l, _ =>
    rw [hL] at h2
    have : (txB ((s :: l).map stW)).length = (lineB (stW s)).length + (txB (l.map stW)).length := by
      show (lineB (stW s) ++ txB (l.map stW)).length = _
      rw [List.length_append]
    have h3 : 1 ≤ (lineB (stW s)).length := by unfold lineB; rw [List.length_append]; simp
    omega
set_option maxHeartbeats 4000000 in
theorem textBack_any (hP : PrintC) (hA : ParseC) (v : Value) (L : Lp) (w : World) (hvt : VarsT w) (hL : LoopV w v L) (hn : LoopIn L) : Calls Tryd.prog 5 #[v] w fun e w' => e = .returned (.bool true) ∧ Below w.heap.size w w' := by
  obtain ⟨v0, v1, v2, rfl, i0, i1, i2⟩ := id hL
  obtain ⟨la0, lc0, rfl, -⟩ := i0
  obtain ⟨la1, lc1, rfl, -⟩ := i1
  obtain ⟨la2, lc2, rfl, -⟩ := i2
  have HPR := hide (fun W hw h => hP (.agg #[.slice la0 L.logs.length lc0, .slice la1 L.body.length lc1, .slice la2 L.outs.length lc2]) L W hw h hn)
  have HVT := hide hvt
  clear hvt
  have HL := hide hL
  have HBX := hide (below_alloc1 w (.cells #[.slice la0 L.logs.length lc0, .slice la1 L.body.length lc1, .slice la2 L.outs.length lc2] 25))
  have HZ : Hid ((w.alloc (.cells #[.slice la0 L.logs.length lc0, .slice la1 L.body.length lc1, .slice la2 L.outs.length lc2] 25)).heap.size = w.heap.size + 1) := by show _ = _; simp
  have HBK : Hid (∀ y, Below (w.heap.size + 1) (w.alloc (.cells #[.slice la0 L.logs.length lc0, .slice la1 L.body.length lc1, .slice la2 L.outs.length lc2] 25)) y → (y.cell? ⟨w.heap.size, 0, none⟩ = some (.slice la0 L.logs.length lc0) ∧ y.cell? ⟨w.heap.size, 1, none⟩ = some (.slice la1 L.body.length lc1) ∧ y.cell? ⟨w.heap.size, 2, none⟩ = some (.slice la2 L.outs.length lc2)) ∧ Below w.heap.size w y ∧ w.heap.size + 1 ≤ y.heap.size) := fun y hy => by
    have hb := (hy.block w.heap.size (by omega)).trans (new_blkS w _ _)
    exact ⟨⟨by rw [cell_of_block hb]; rfl, by rw [cell_of_block hb]; rfl, by rw [cell_of_block hb]; rfl⟩, HBX.out.trans (hy.mono (by omega)), by have := hy.size; rw [HZ.out] at this; exact this⟩
  have hpd : printD L = if mayB L = true then textD L else [] := rfl
  have hpc : printC L = if mayB L = true then 0 else 2 := rfl
  generalize printD L = pd at *
  generalize printC L = pc at *
  go_enter Tryd.func5, Tryd.ntmps5
  cases hm : mayB L with
  | false =>
    rw [hm, if_neg Bool.false_ne_true] at hpd hpc
    subst hpd
    subst hpc
    have he : (strOfNums []).toList = [] := by rw [ByteArray.toList_eq]; rfl
    clear hm hL hn
    go_wp2_with fail
    refine (HPR.out _ (HVT.out.on HBX.out).toVarsP (HL.out.below HBX.out)).mono ?_
    rintro e y1 ⟨rfl, hy1⟩
    have HB1 := hide (HBX.out.trans (hy1.mono (by rw [HZ.out]; omega)))
    clear hy1
    go_wp2_with fail
    go_ret
    exact ⟨rfl, HB1.out⟩
  | true =>
    rw [hm, if_pos rfl] at hpd hpc
    subst hpc
    have HPA := hide (fun W hw => hA pd W hw (by rw [hpd]; exact byteL_of (text_byte L)) (by rw [hpd]; exact text_small hm hn))
    unfold ParsePost at HPA
    have hpq : parseD pd = (L, 0, 0) := by rw [hpd]; exact text_back hm (loopIn_mem hn)
    rw [hpq] at HPA
    dsimp only at HPA
    have hne : ((strOfNums pd).toList == []) = false := by
      refine beq_false_of_ne fun h => text_ne hm ?_
      rw [← hpd]
      have h2 := congrArg List.length h
      rw [ByteArray.toList_eq] at h2
      have h3 : (strOfNums pd).data.toList.length = pd.length := by rw [strOfNums_data]; simp
      rw [h3] at h2
      exact List.length_eq_zero_iff.1 h2
    obtain ⟨X, hX⟩ : ∃ X, strOfNums pd = X := ⟨_, rfl⟩
    rw [hX] at HPR HPA hne
    clear hm hL hn hpd hpq hX
    go_wp2_with fail
    refine (HPR.out _ (HVT.out.on HBX.out).toVarsP (HL.out.below HBX.out)).mono ?_
    rintro e y1 ⟨rfl, hy1⟩
    have HY1 : Hid (Below (w.heap.size + 1) (w.alloc (.cells #[.slice la0 L.logs.length lc0, .slice la1 L.body.length lc1, .slice la2 L.outs.length lc2] 25)) y1) := by show Below _ _ _; rw [← HZ.out]; exact hy1
    clear hy1
    go_wp2_with fail
    refine (HPA.out _ (HVT.out.on (HBK.out _ HY1.out).2.1)).mono ?_
    rintro e y2 ⟨v0, v1, v2, rfl, hv, -, hy2⟩
    have HV2 := hide hv
    obtain ⟨u0, u1, u2, hu, ⟨qa0, qc0, rfl, -⟩, ⟨qa1, qc1, rfl, -⟩, ⟨qa2, qc2, rfl, -⟩⟩ := hv
    simp only [Value.agg.injEq, Array.mk.injEq, List.cons.injEq, and_true] at hu
    obtain ⟨rfl, rfl, rfl⟩ := hu
    have HY2 := hide (HY1.out.trans (hy2.mono (HBK.out _ HY1.out).2.2))
    obtain ⟨⟨c0, c1, c2⟩, hb2, hz2⟩ := HBK.out _ HY2.out
    have HB2 := hide hb2
    have HB3 := hide (below_alloc2 y2 (.cells #[.slice qa0 L.logs.length qc0, .slice qa1 L.body.length qc1, .slice qa2 L.outs.length qc2] 25) (.cells #[.int .i64 0, .int .i64 0] 32))
    have HSM := hide (loop_same (.agg #[.slice la0 L.logs.length lc0, .slice la1 L.body.length lc1, .slice la2 L.outs.length lc2]) (.agg #[.slice qa0 L.logs.length qc0, .slice qa1 L.body.length qc1, .slice qa2 L.outs.length qc2]) L ((y2.alloc (.cells #[.slice qa0 L.logs.length qc0, .slice qa1 L.body.length qc1, .slice qa2 L.outs.length qc2] 25)).alloc (.cells #[.int .i64 0, .int .i64 0] 32)) ((HL.out.below HB2.out).below HB3.out) (HV2.out.below HB3.out))
    have HBW := hide (HB2.out.trans (HB3.out.mono (by omega)))
    have hwl : w.heap.size < y2.heap.size := by omega
    clear hy2 hb2
    go_wp2_with fail
    refine HSM.out.mono ?_
    rintro e y3 ⟨rfl, hy3⟩
    have HBE := hide (HBW.out.trans (hy3.mono (by simp; omega)))
    clear hy3 c0 c1 c2
    go_wp2_with fail
    go_ret
    exact ⟨rfl, HBE.out⟩
def turnL : Lp := ⟨[], [⟨2, 0, 0, 0, 0, 0, 0, 0, 0⟩], []⟩
theorem turn_parse : parseD [116, 117, 114, 110, 10] = (turnL, 0, 0) := text_back (L := turnL) (by decide) (by decide)
set_option maxHeartbeats 4000000 in
theorem textAgain_any (hP : PrintC) (hA : ParseC) (s : List Int) (w : World) (hvt : VarsT w) (hs : ByteL s) (hl : s.length ≤ 2000000) : Calls Tryd.prog 6 #[.string (strOfNums s)] w fun e w' => e = .returned (.bool true) ∧ Below w.heap.size w w' := by
  have HP0 := hide (fun W hw => hA [116, 117, 114, 110, 10] W hw (byteL_of (by decide)) (by decide))
  have HVT := hide hvt
  clear hvt
  have HPA := hide (fun W hw => hA s W hw hs hl)
  unfold ParsePost at HP0 HPA
  rw [turn_parse] at HP0
  dsimp only at HP0
  have htl : turnL.body.length = 1 := rfl
  have e0 : strOfNums [116, 117, 114, 110, 10] = ByteArray.mk #[116, 117, 114, 110, 10] := rfl
  rw [e0] at HP0
  have hcs := go_cases (splitD 10 s) ⟨[], [], []⟩ 0
  have hag := fun L => text_again (s := s) (L := L)
  have hpr : parseD s = goD ⟨[], [], []⟩ (splitD 10 s) 0 := rfl
  rw [← hpr] at hcs
  have HSB := hide (str_beq (byteL_mem hs) (byteL_mem hs))
  rw [decide_eq_true rfl] at HSB
  have hfin : ∀ R, parseD s = (R, 0, 0) → strOfNums (printD R) = strOfNums s ∧ printC R = 0 := fun R h => by
    obtain ⟨h1, h2⟩ := hag R h
    unfold printD printC
    rw [if_pos h1, if_pos h1, h2]; exact ⟨rfl, rfl⟩
  generalize parseD s = pr at *
  obtain ⟨X, hX⟩ : ∃ X, strOfNums s = X := ⟨_, rfl⟩
  rw [hX] at HPA HSB hfin ⊢
  clear hX e0 hag hpr hs hl
  go_enter Tryd.func6, Tryd.ntmps6
  go_wp2_with fail
  refine (HP0.out _ HVT.out).mono ?_
  rintro e y1 ⟨v0, v1, v2, rfl, hv, -, hy1⟩
  obtain ⟨u0, u1, u2, hu, ⟨pa0, pc0, rfl, -⟩, ⟨pa1, pc1, rfl, -⟩, ⟨pa2, pc2, rfl, -⟩⟩ := hv
  simp only [Value.agg.injEq, Array.mk.injEq, List.cons.injEq, and_true] at hu
  obtain ⟨rfl, rfl, rfl⟩ := hu
  have HB1 := hide hy1
  have hwz : w.heap.size ≤ y1.heap.size := hy1.size
  have HBA := hide (hy1.trans ((below_alloc2 y1 (.cells #[.slice pa0 turnL.logs.length pc0, .slice pa1 1 pc1, .slice pa2 turnL.outs.length pc2] 25) (.cells #[.int .i64 0, .int .i64 0] 32)).mono hwz))
  have HZA : Hid (((y1.alloc (.cells #[.slice pa0 turnL.logs.length pc0, .slice pa1 1 pc1, .slice pa2 turnL.outs.length pc2] 25)).alloc (.cells #[.int .i64 0, .int .i64 0] 32)).heap.size = y1.heap.size + 1 + 1) := by show _ = _; simp
  clear hy1
  have htl2 : ((turnL.body.length : Nat) : Int) = 1 := rfl
  go_wp2_with fail
  refine (HPA.out _ (HVT.out.on HBA.out)).mono ?_
  rintro e y2 ⟨v0, v1, v2, rfl, hv, hin, hy2⟩
  have HV2 := hide hv
  have HIN := hide hin
  obtain ⟨u0, u1, u2, hu, ⟨qa0, qc0, rfl, -⟩, ⟨qa1, qc1, rfl, -⟩, ⟨qa2, qc2, rfl, -⟩⟩ := hv
  simp only [Value.agg.injEq, Array.mk.injEq, List.cons.injEq, and_true] at hu
  obtain ⟨rfl, rfl, rfl⟩ := hu
  have HB2 := hide (HBA.out.trans (hy2.mono (by rw [HZA.out]; omega)))
  have hwz2 : w.heap.size ≤ y2.heap.size := HB2.out.size
  clear hy2 hin
  rcases hcs with ⟨R, hR⟩ | ⟨k', hR⟩
  · obtain ⟨hf1, hf2⟩ := hfin R hR
    subst hR
    dsimp only at HV2 HIN ⊢
    have HB3 := hide (below_alloc2 y2 (.cells #[.slice qa0 R.logs.length qc0, .slice qa1 R.body.length qc1, .slice qa2 R.outs.length qc2] 25) (.cells #[.int .i64 0, .int .i64 0] 32))
    have HPR := hide (hP (.agg #[.slice qa0 R.logs.length qc0, .slice qa1 R.body.length qc1, .slice qa2 R.outs.length qc2]) R ((y2.alloc (.cells #[.slice qa0 R.logs.length qc0, .slice qa1 R.body.length qc1, .slice qa2 R.outs.length qc2] 25)).alloc (.cells #[.int .i64 0, .int .i64 0] 32)) (HVT.out.on (HB2.out.trans (HB3.out.mono hwz2))).toVarsP (HV2.out.below HB3.out) HIN.out)
    rw [hf1, hf2] at HPR
    have hsb := HSB.out
    have HBW := hide (HB2.out.trans (HB3.out.mono hwz2))
    clear hf1 hf2 hfin
    go_wp2_with fail
    refine HPR.out.mono ?_
    rintro e y3 ⟨rfl, hy3⟩
    have HBE := hide (HBW.out.trans (hy3.mono (by simp; omega)))
    clear hy3
    go_wp2_with fail
    go_ret
    exact ⟨rfl, HBE.out⟩
  · subst hR
    dsimp only at HV2 HIN ⊢
    have HB3 := hide (below_alloc2 y2 (.cells #[.slice qa0 0 qc0, .slice qa1 0 qc1, .slice qa2 0 qc2] 25) (.cells #[.int .i64 2, .int .i64 (k' : Int)] 32))
    have HBW := hide (HB2.out.trans (HB3.out.mono hwz2))
    clear hfin
    go_wp2_with fail
    go_ret
    exact ⟨rfl, HBW.out⟩
end Go.Proofs.YtjlfcbccpcigeacDoor
