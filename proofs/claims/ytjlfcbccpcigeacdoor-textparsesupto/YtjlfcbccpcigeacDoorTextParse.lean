/- The contract of package text's Parse: ParseC. -/
import Derived.Test.YtjlfcbccpcigeacDoorTextSplit
import Derived.Test.YtjlfcbccpcigeacDoorTextLaws
import Derived.Test.YtjlfcbccpcigeacDoorLoopP
namespace Go.Proofs.YtjlfcbccpcigeacDoor
open Go.RowKit Go.Joins
set_option linter.unusedVariables false
set_option linter.unusedSimpArgs false
set_option maxRecDepth 8192

theorem line_in {L L' : Lp} {ws : List (List Int)} (hL : InP L) (h : lineO L ws = some L') : InP L' := by
  have hnum : ∀ {a : List Int} {v : Int}, numO a 18 = some v → -9223372036854775808 ≤ v ∧ v ≤ 9223372036854775807 := fun h => (num_is h).2
  by_cases ha : ws.getD 0 [] = arrayW
  · rw [line_array ha] at h
    split at h
    · obtain ⟨v, hv, rfl⟩ := Option.map_eq_some_iff.1 h
      refine ⟨fun z hz => ?_, hL.2.1, hL.2.2⟩
      rcases List.mem_append.1 hz with hz | hz
      · exact hL.1 z hz
      · rw [List.mem_singleton] at hz; subst hz; exact hnum hv
    · cases h
  · by_cases ho : ws.getD 0 [] = outW
    · rw [line_out ho] at h
      split at h
      · obtain ⟨v, hv, rfl⟩ := Option.map_eq_some_iff.1 h
        refine ⟨hL.1, fun z hz => ?_, hL.2.2⟩
        rcases List.mem_append.1 hz with hz | hz
        · exact hL.2.1 z hz
        · rw [List.mem_singleton] at hz; subst hz; exact hnum hv
      · cases h
    · rw [line_stmt ha ho] at h
      split at h
      · obtain ⟨v, hv, rfl⟩ := Option.map_eq_some_iff.1 h
        refine ⟨hL.1, hL.2.1, fun z hz => ?_⟩
        rcases List.mem_append.1 hz with hz | hz
        · exact hL.2.2 z hz
        · rw [List.mem_singleton] at hz; subst hz; exact st_in hv
      · cases h
def strLen : Value → Nat
  | .string b => b.size
  | _ => 0
set_option maxHeartbeats 32000000 in
theorem parse_all : ParseC := fun s w hv hsb hsl => by
  have hbs : By s := byteL_mem hsb
  have HV := hide hv
  have HS2 : Hid (((w.alloc (.cells #[.slice none 0 0, .slice none 0 0, .slice none 0 0] 25)).alloc (.cells #[.int .i64 0, .int .i64 0] 32)).heap.size = w.heap.size + 1 + 1) := by show _ = _; simp
  obtain ⟨x1, hx1⟩ : ∃ x1, ((w.alloc (.cells #[.slice none 0 0, .slice none 0 0, .slice none 0 0] 25)).alloc (.cells #[.int .i64 0, .int .i64 0] 32)) = x1 := ⟨_, rfl⟩
  have HR : Hid (∀ u, Below (w.heap.size + 1 + 1) x1 u → u.heap[w.heap.size]? = some (.cells #[.slice none 0 0, .slice none 0 0, .slice none 0 0] 25 (0, 0)) ∧ u.heap[w.heap.size + 1]? = some (.cells #[.int .i64 0, .int .i64 0] 32 (0, 0)) ∧ Below w.heap.size w u) := fun u h2 => by
    subst hx1
    refine ⟨?_, ?_, (below_alloc2 w _ _).trans (h2.mono (by omega))⟩
    · rw [h2.block _ (by omega), Below.heap_alloc _ _ _ (by simp)]; exact new_blkP _ _ _
    · rw [h2.block _ (by omega)]
      have e : (w.alloc (.cells #[.slice none 0 0, .slice none 0 0, .slice none 0 0] 25)).heap.size = w.heap.size + 1 := by simp
      have h := new_blkP (w.alloc (.cells #[.slice none 0 0, .slice none 0 0, .slice none 0 0] 25)) #[.int .i64 0, .int .i64 0] 32
      rw [e] at h
      exact h
  have HST : Hid (RdM x1 (w.heap.size + 1 + 1) (.slice none 0 0) (.slice none 0 0) (.slice none 0 0) 0 0 0 (cutL ⟨[], [], []⟩).logs (cutL ⟨[], [], []⟩).body (cutL ⟨[], [], []⟩).outs (((w.alloc (.cells #[.slice none 0 0, .slice none 0 0, .slice none 0 0] 25)).alloc (.cells #[.int .i64 0, .int .i64 0] 32)).alloc (.cells #[.slice none 0 0, .slice none 0 0, .slice none 0 0] 62))) := by
    have h := RdM.start x1
    rw [show x1.heap.size = w.heap.size + 1 + 1 by rw [← hx1]; exact HS2.out, ← hx1] at h
    rw [← hx1]
    exact h
  have HPD : Hid (parseD s = goD ⟨[], [], []⟩ (splitD 10 s) 0) := rfl
  clear hv hsb hx1
  go_enter Tryd.func10, Tryd.ntmps10
  go_wp2_with fail
  go_loopw [0, 5] (fun sv kv wr => ∃ (s' : List Int) (k nl nb no lc bc oc : Nat) (L : Lp) (la ba oa : Option Addr), sv = .string (strOfNums s') ∧ kv = .int .i64 k ∧ RdM x1 (w.heap.size + 1 + 1) (.slice la nl lc) (.slice ba nb bc) (.slice oa no oc) nl nb no (cutL L).logs (cutL L).body (cutL L).outs wr ∧ parseD s = goD L (splitD 10 s') k ∧ By s' ∧ s'.length + k ≤ 2000000 ∧ InP L) (fun sv _ _ => strLen sv)
  case atStart => exact ⟨s, 0, 0, 0, 0, 0, 0, 0, ⟨[], [], []⟩, none, none, none, rfl, rfl, HST.out, HPD.out, hbs, by omega, none_in⟩
  case round =>
    clear HST HPD
    obtain ⟨s', k, nl, nb, no, lc, bc, oc, L, la, ba, oa, rfl, rfl, hM, hgo, hby, hln, hin⟩ := hrel
    have HM := hide hM
    have HGO := hide hgo
    have HIN := hide hin
    have HBY := hide hby
    have hyz := hM.lt
    obtain ⟨bl1, bl2, hbw⟩ := HR.out wr hM.bel
    have HBW := hide hbw
    have HVW := hide (HV.out.on hbw)
    have HR1 := hide bl1
    have HR2 := hide bl2
    have hem := str_empty s'
    clear hM hgo hin hby hbw bl1 bl2
    by_cases hs0 : s' = []
    · rw [decide_eq_true hs0] at hem
      have HMB : Hid (goD L (splitD 10 s') k = if mayB L = true then (L, 0, 0) else (⟨[], [], []⟩, 2, k)) := by
        show _ = _
        rw [hs0]
        show (if ([] : List Int) = [] ∧ mayB L = true then (L, 0, 0) else _) = _
        by_cases hm : mayB L = true
        · rw [if_pos ⟨rfl, hm⟩, if_pos hm]
        · rw [if_neg fun h => hm h.2, if_neg hm]
      obtain ⟨z0, z1, z2⟩ := HM.out.cells
      have HMY := hide (may_any (.agg #[.slice la nl lc, .slice ba nb bc, .slice oa no oc]) (cutL L) wr (HM.out.loop HIN.out.cut.1 HIN.out.cut.2.1))
      rw [cut_may] at HMY
      clear hs0
      generalize strOfNums s' = P at *
      go_wp2_with fail
      refine HMY.out.mono ?_
      rintro e w2 ⟨rfl, hb2⟩
      have HM2 := hide (HM.out.below hb2)
      obtain ⟨b1, b2, hbx⟩ := HR.out w2 HM2.out.bel
      have HBX := hide hbx
      clear z0 z1 z2 hb2 hbx
      obtain ⟨z0, z1, z2⟩ := HM2.out.cells
      have hyz2 := HM2.out.lt
      cases hm : mayB L with
      | false =>
        have HNO : Hid (parseD s = (⟨[], [], []⟩, 2, k)) := by show _ = _; rw [HGO.out, HMB.out, hm, if_neg Bool.false_ne_true]
        clear hm
        have k0 : w2.cell? ⟨w.heap.size, 0, none⟩ = some (.slice none 0 0) := by rw [cell_of_block b1]; rfl
        have f0 : w2.frozen? ⟨w.heap.size, 0, none⟩ = false := by simp [World.frozen?, b1]
        have k1 : w2.cell? ⟨w.heap.size, 1, none⟩ = some (.slice none 0 0) := by rw [cell_of_block b1]; rfl
        have f1 : w2.frozen? ⟨w.heap.size, 1, none⟩ = false := by simp [World.frozen?, b1]
        have k2 : w2.cell? ⟨w.heap.size, 2, none⟩ = some (.slice none 0 0) := by rw [cell_of_block b1]; rfl
        have f2 : w2.frozen? ⟨w.heap.size, 2, none⟩ = false := by simp [World.frozen?, b1]
        have k3 : w2.cell? ⟨w.heap.size + 1, 0, none⟩ = some (.int .i64 0) := by rw [cell_of_block b2]; rfl
        have f3 : w2.frozen? ⟨w.heap.size + 1, 0, none⟩ = false := by simp [World.frozen?, b2]
        have k4 : w2.cell? ⟨w.heap.size + 1, 1, none⟩ = some (.int .i64 0) := by rw [cell_of_block b2]; rfl
        have f4 : w2.frozen? ⟨w.heap.size + 1, 1, none⟩ = false := by simp [World.frozen?, b2]
        obtain ⟨s1, s2⟩ := five_set (a' := .slice none 0 0) (b' := .slice none 0 0) (c' := .slice none 0 0) (u' := .int .i64 2) (v' := .int .i64 (k : Int)) b1 b2
        have S0 : Hid ((((((w2.setCell ⟨w.heap.size, 0, none⟩ (.slice none 0 0)).setCell ⟨w.heap.size, 1, none⟩ (.slice none 0 0)).setCell ⟨w.heap.size, 2, none⟩ (.slice none 0 0)).setCell ⟨w.heap.size + 1, 0, none⟩ (.int .i64 2)).setCell ⟨w.heap.size + 1, 1, none⟩ (.int .i64 (k : Int))).cell? ⟨w.heap.size, 0, none⟩ = some (.slice none 0 0)) := by show _ = _; rw [cell_of_block s1]; rfl
        have S1 : Hid ((((((w2.setCell ⟨w.heap.size, 0, none⟩ (.slice none 0 0)).setCell ⟨w.heap.size, 1, none⟩ (.slice none 0 0)).setCell ⟨w.heap.size, 2, none⟩ (.slice none 0 0)).setCell ⟨w.heap.size + 1, 0, none⟩ (.int .i64 2)).setCell ⟨w.heap.size + 1, 1, none⟩ (.int .i64 (k : Int))).cell? ⟨w.heap.size, 1, none⟩ = some (.slice none 0 0)) := by show _ = _; rw [cell_of_block s1]; rfl
        have S2 : Hid ((((((w2.setCell ⟨w.heap.size, 0, none⟩ (.slice none 0 0)).setCell ⟨w.heap.size, 1, none⟩ (.slice none 0 0)).setCell ⟨w.heap.size, 2, none⟩ (.slice none 0 0)).setCell ⟨w.heap.size + 1, 0, none⟩ (.int .i64 2)).setCell ⟨w.heap.size + 1, 1, none⟩ (.int .i64 (k : Int))).cell? ⟨w.heap.size, 2, none⟩ = some (.slice none 0 0)) := by show _ = _; rw [cell_of_block s1]; rfl
        have S3 : Hid ((((((w2.setCell ⟨w.heap.size, 0, none⟩ (.slice none 0 0)).setCell ⟨w.heap.size, 1, none⟩ (.slice none 0 0)).setCell ⟨w.heap.size, 2, none⟩ (.slice none 0 0)).setCell ⟨w.heap.size + 1, 0, none⟩ (.int .i64 2)).setCell ⟨w.heap.size + 1, 1, none⟩ (.int .i64 (k : Int))).cell? ⟨w.heap.size + 1, 0, none⟩ = some (.int .i64 2)) := by show _ = _; rw [cell_of_block s2]; rfl
        have S4 : Hid ((((((w2.setCell ⟨w.heap.size, 0, none⟩ (.slice none 0 0)).setCell ⟨w.heap.size, 1, none⟩ (.slice none 0 0)).setCell ⟨w.heap.size, 2, none⟩ (.slice none 0 0)).setCell ⟨w.heap.size + 1, 0, none⟩ (.int .i64 2)).setCell ⟨w.heap.size + 1, 1, none⟩ (.int .i64 (k : Int))).cell? ⟨w.heap.size + 1, 1, none⟩ = some (.int .i64 (k : Int))) := by show _ = _; rw [cell_of_block s2]; rfl
        have HFB := hide (five_below (a' := .slice none 0 0) (b' := .slice none 0 0) (c' := .slice none 0 0) (u' := .int .i64 2) (v' := .int .i64 (k : Int)) HBX.out)
        have HPP : Hid (ParsePost s w (.returned (.tuple #[.agg #[.slice none 0 0, .slice none 0 0, .slice none 0 0], .agg #[.int .i64 2, .int .i64 (k : Int)]])) (((((w2.setCell ⟨w.heap.size, 0, none⟩ (.slice none 0 0)).setCell ⟨w.heap.size, 1, none⟩ (.slice none 0 0)).setCell ⟨w.heap.size, 2, none⟩ (.slice none 0 0)).setCell ⟨w.heap.size + 1, 0, none⟩ (.int .i64 2)).setCell ⟨w.heap.size + 1, 1, none⟩ (.int .i64 (k : Int)))) := pp_no HNO.out HFB.out
        clear b1 b2 s1 s2
        go_wp2_with fail
        have t0 := S0.out
        have t1 := S1.out
        have t2 := S2.out
        have t3 := S3.out
        have t4 := S4.out
        exact bodyPost_ret (v := .tuple #[.agg #[.slice none 0 0, .slice none 0 0, .slice none 0 0], .agg #[.int .i64 2, .int .i64 (k : Int)]]) (by simp [results, Tryd.results10, go_sem, t0, t1, t2, t3, t4]) rfl HPP.out
      | true =>
        have HYES : Hid (parseD s = (L, 0, 0)) := by show _ = _; rw [HGO.out, HMB.out, hm, if_pos rfl]
        have HCL := hide (cut_yes hm)
        clear hm
        have k0 : w2.cell? ⟨w.heap.size, 0, none⟩ = some (.slice none 0 0) := by rw [cell_of_block b1]; rfl
        have f0 : w2.frozen? ⟨w.heap.size, 0, none⟩ = false := by simp [World.frozen?, b1]
        have k1 : w2.cell? ⟨w.heap.size, 1, none⟩ = some (.slice none 0 0) := by rw [cell_of_block b1]; rfl
        have f1 : w2.frozen? ⟨w.heap.size, 1, none⟩ = false := by simp [World.frozen?, b1]
        have k2 : w2.cell? ⟨w.heap.size, 2, none⟩ = some (.slice none 0 0) := by rw [cell_of_block b1]; rfl
        have f2 : w2.frozen? ⟨w.heap.size, 2, none⟩ = false := by simp [World.frozen?, b1]
        have k3 : w2.cell? ⟨w.heap.size + 1, 0, none⟩ = some (.int .i64 0) := by rw [cell_of_block b2]; rfl
        have f3 : w2.frozen? ⟨w.heap.size + 1, 0, none⟩ = false := by simp [World.frozen?, b2]
        have k4 : w2.cell? ⟨w.heap.size + 1, 1, none⟩ = some (.int .i64 0) := by rw [cell_of_block b2]; rfl
        have f4 : w2.frozen? ⟨w.heap.size + 1, 1, none⟩ = false := by simp [World.frozen?, b2]
        obtain ⟨s1, s2⟩ := five_set (a' := .slice la nl lc) (b' := .slice ba nb bc) (c' := .slice oa no oc) (u' := .int .i64 0) (v' := .int .i64 0) b1 b2
        have S0 : Hid ((((((w2.setCell ⟨w.heap.size, 0, none⟩ (.slice la nl lc)).setCell ⟨w.heap.size, 1, none⟩ (.slice ba nb bc)).setCell ⟨w.heap.size, 2, none⟩ (.slice oa no oc)).setCell ⟨w.heap.size + 1, 0, none⟩ (.int .i64 0)).setCell ⟨w.heap.size + 1, 1, none⟩ (.int .i64 0)).cell? ⟨w.heap.size, 0, none⟩ = some (.slice la nl lc)) := by show _ = _; rw [cell_of_block s1]; rfl
        have S1 : Hid ((((((w2.setCell ⟨w.heap.size, 0, none⟩ (.slice la nl lc)).setCell ⟨w.heap.size, 1, none⟩ (.slice ba nb bc)).setCell ⟨w.heap.size, 2, none⟩ (.slice oa no oc)).setCell ⟨w.heap.size + 1, 0, none⟩ (.int .i64 0)).setCell ⟨w.heap.size + 1, 1, none⟩ (.int .i64 0)).cell? ⟨w.heap.size, 1, none⟩ = some (.slice ba nb bc)) := by show _ = _; rw [cell_of_block s1]; rfl
        have S2 : Hid ((((((w2.setCell ⟨w.heap.size, 0, none⟩ (.slice la nl lc)).setCell ⟨w.heap.size, 1, none⟩ (.slice ba nb bc)).setCell ⟨w.heap.size, 2, none⟩ (.slice oa no oc)).setCell ⟨w.heap.size + 1, 0, none⟩ (.int .i64 0)).setCell ⟨w.heap.size + 1, 1, none⟩ (.int .i64 0)).cell? ⟨w.heap.size, 2, none⟩ = some (.slice oa no oc)) := by show _ = _; rw [cell_of_block s1]; rfl
        have S3 : Hid ((((((w2.setCell ⟨w.heap.size, 0, none⟩ (.slice la nl lc)).setCell ⟨w.heap.size, 1, none⟩ (.slice ba nb bc)).setCell ⟨w.heap.size, 2, none⟩ (.slice oa no oc)).setCell ⟨w.heap.size + 1, 0, none⟩ (.int .i64 0)).setCell ⟨w.heap.size + 1, 1, none⟩ (.int .i64 0)).cell? ⟨w.heap.size + 1, 0, none⟩ = some (.int .i64 0)) := by show _ = _; rw [cell_of_block s2]; rfl
        have S4 : Hid ((((((w2.setCell ⟨w.heap.size, 0, none⟩ (.slice la nl lc)).setCell ⟨w.heap.size, 1, none⟩ (.slice ba nb bc)).setCell ⟨w.heap.size, 2, none⟩ (.slice oa no oc)).setCell ⟨w.heap.size + 1, 0, none⟩ (.int .i64 0)).setCell ⟨w.heap.size + 1, 1, none⟩ (.int .i64 0)).cell? ⟨w.heap.size + 1, 1, none⟩ = some (.int .i64 0)) := by show _ = _; rw [cell_of_block s2]; rfl
        have HFB := hide (five_below (a' := .slice la nl lc) (b' := .slice ba nb bc) (c' := .slice oa no oc) (u' := .int .i64 0) (v' := .int .i64 0) HBX.out)
        have HPP : Hid (ParsePost s w (.returned (.tuple #[.agg #[.slice la nl lc, .slice ba nb bc, .slice oa no oc], .agg #[.int .i64 0, .int .i64 0]])) (((((w2.setCell ⟨w.heap.size, 0, none⟩ (.slice la nl lc)).setCell ⟨w.heap.size, 1, none⟩ (.slice ba nb bc)).setCell ⟨w.heap.size, 2, none⟩ (.slice oa no oc)).setCell ⟨w.heap.size + 1, 0, none⟩ (.int .i64 0)).setCell ⟨w.heap.size + 1, 1, none⟩ (.int .i64 0))) := pp_yes HYES.out (by have h := rd_five HM2.out (u' := .int .i64 0) (v' := .int .i64 0) (g := w.heap.size) (Nat.le_refl _) HIN.out.cut; rw [show (⟨(cutL L).logs, (cutL L).body, (cutL L).outs⟩ : Lp) = L from HCL.out] at h; exact h) HIN.out HFB.out
        clear b1 b2 s1 s2
        go_wp2_with fail
        have t0 := S0.out
        have t1 := S1.out
        have t2 := S2.out
        have t3 := S3.out
        have t4 := S4.out
        exact bodyPost_ret (v := .tuple #[.agg #[.slice la nl lc, .slice ba nb bc, .slice oa no oc], .agg #[.int .i64 0, .int .i64 0]]) (by simp [results, Tryd.results10, go_sem, t0, t1, t2, t3, t4]) rfl HPP.out
    · rw [decide_eq_false hs0] at hem
      cases hsp : splitD 10 s' with
      | nil => exact absurd hsp (split_ne 10 s')
      | cons p ps =>
        cases ps with
        | nil =>
          have HNO : Hid (parseD s = (⟨[], [], []⟩, 2, k)) := by
            show _ = _
            rw [HGO.out, hsp]
            have hp : p = s' := by have := join_split 10 s'; rw [hsp] at this; exact this
            show (if p = [] ∧ mayB L = true then (L, 0, 0) else _) = _
            rw [if_neg fun h => hs0 (hp ▸ h.1)]
          have HCT := hide (cut_any1 s' 10 (ByteArray.mk #[10]) rfl wr HVW.out HBY.out (by omega) (by omega) hsp)
          clear hsp hs0
          generalize strOfNums s' = P at *
          go_wp2_with fail
          refine HCT.out.mono ?_
          rintro e w2 ⟨rfl, hb2⟩
          have HM2 := hide (HM.out.below hb2)
          obtain ⟨b1, b2, hbx⟩ := HR.out w2 HM2.out.bel
          have HBX := hide hbx
          clear hb2 hbx
          have k0 : w2.cell? ⟨w.heap.size, 0, none⟩ = some (.slice none 0 0) := by rw [cell_of_block b1]; rfl
          have f0 : w2.frozen? ⟨w.heap.size, 0, none⟩ = false := by simp [World.frozen?, b1]
          have k1 : w2.cell? ⟨w.heap.size, 1, none⟩ = some (.slice none 0 0) := by rw [cell_of_block b1]; rfl
          have f1 : w2.frozen? ⟨w.heap.size, 1, none⟩ = false := by simp [World.frozen?, b1]
          have k2 : w2.cell? ⟨w.heap.size, 2, none⟩ = some (.slice none 0 0) := by rw [cell_of_block b1]; rfl
          have f2 : w2.frozen? ⟨w.heap.size, 2, none⟩ = false := by simp [World.frozen?, b1]
          have k3 : w2.cell? ⟨w.heap.size + 1, 0, none⟩ = some (.int .i64 0) := by rw [cell_of_block b2]; rfl
          have f3 : w2.frozen? ⟨w.heap.size + 1, 0, none⟩ = false := by simp [World.frozen?, b2]
          have k4 : w2.cell? ⟨w.heap.size + 1, 1, none⟩ = some (.int .i64 0) := by rw [cell_of_block b2]; rfl
          have f4 : w2.frozen? ⟨w.heap.size + 1, 1, none⟩ = false := by simp [World.frozen?, b2]
          obtain ⟨s1, s2⟩ := five_set (a' := .slice none 0 0) (b' := .slice none 0 0) (c' := .slice none 0 0) (u' := .int .i64 2) (v' := .int .i64 (k : Int)) b1 b2
          have S0 : Hid ((((((w2.setCell ⟨w.heap.size, 0, none⟩ (.slice none 0 0)).setCell ⟨w.heap.size, 1, none⟩ (.slice none 0 0)).setCell ⟨w.heap.size, 2, none⟩ (.slice none 0 0)).setCell ⟨w.heap.size + 1, 0, none⟩ (.int .i64 2)).setCell ⟨w.heap.size + 1, 1, none⟩ (.int .i64 (k : Int))).cell? ⟨w.heap.size, 0, none⟩ = some (.slice none 0 0)) := by show _ = _; rw [cell_of_block s1]; rfl
          have S1 : Hid ((((((w2.setCell ⟨w.heap.size, 0, none⟩ (.slice none 0 0)).setCell ⟨w.heap.size, 1, none⟩ (.slice none 0 0)).setCell ⟨w.heap.size, 2, none⟩ (.slice none 0 0)).setCell ⟨w.heap.size + 1, 0, none⟩ (.int .i64 2)).setCell ⟨w.heap.size + 1, 1, none⟩ (.int .i64 (k : Int))).cell? ⟨w.heap.size, 1, none⟩ = some (.slice none 0 0)) := by show _ = _; rw [cell_of_block s1]; rfl
          have S2 : Hid ((((((w2.setCell ⟨w.heap.size, 0, none⟩ (.slice none 0 0)).setCell ⟨w.heap.size, 1, none⟩ (.slice none 0 0)).setCell ⟨w.heap.size, 2, none⟩ (.slice none 0 0)).setCell ⟨w.heap.size + 1, 0, none⟩ (.int .i64 2)).setCell ⟨w.heap.size + 1, 1, none⟩ (.int .i64 (k : Int))).cell? ⟨w.heap.size, 2, none⟩ = some (.slice none 0 0)) := by show _ = _; rw [cell_of_block s1]; rfl
          have S3 : Hid ((((((w2.setCell ⟨w.heap.size, 0, none⟩ (.slice none 0 0)).setCell ⟨w.heap.size, 1, none⟩ (.slice none 0 0)).setCell ⟨w.heap.size, 2, none⟩ (.slice none 0 0)).setCell ⟨w.heap.size + 1, 0, none⟩ (.int .i64 2)).setCell ⟨w.heap.size + 1, 1, none⟩ (.int .i64 (k : Int))).cell? ⟨w.heap.size + 1, 0, none⟩ = some (.int .i64 2)) := by show _ = _; rw [cell_of_block s2]; rfl
          have S4 : Hid ((((((w2.setCell ⟨w.heap.size, 0, none⟩ (.slice none 0 0)).setCell ⟨w.heap.size, 1, none⟩ (.slice none 0 0)).setCell ⟨w.heap.size, 2, none⟩ (.slice none 0 0)).setCell ⟨w.heap.size + 1, 0, none⟩ (.int .i64 2)).setCell ⟨w.heap.size + 1, 1, none⟩ (.int .i64 (k : Int))).cell? ⟨w.heap.size + 1, 1, none⟩ = some (.int .i64 (k : Int))) := by show _ = _; rw [cell_of_block s2]; rfl
          have HFB := hide (five_below (a' := .slice none 0 0) (b' := .slice none 0 0) (c' := .slice none 0 0) (u' := .int .i64 2) (v' := .int .i64 (k : Int)) HBX.out)
          have HPP : Hid (ParsePost s w (.returned (.tuple #[.agg #[.slice none 0 0, .slice none 0 0, .slice none 0 0], .agg #[.int .i64 2, .int .i64 (k : Int)]])) (((((w2.setCell ⟨w.heap.size, 0, none⟩ (.slice none 0 0)).setCell ⟨w.heap.size, 1, none⟩ (.slice none 0 0)).setCell ⟨w.heap.size, 2, none⟩ (.slice none 0 0)).setCell ⟨w.heap.size + 1, 0, none⟩ (.int .i64 2)).setCell ⟨w.heap.size + 1, 1, none⟩ (.int .i64 (k : Int)))) := pp_no HNO.out HFB.out
          clear b1 b2 s1 s2
          go_wp2_with fail
          have t0 := S0.out
          have t1 := S1.out
          have t2 := S2.out
          have t3 := S3.out
          have t4 := S4.out
          exact bodyPost_ret (v := .tuple #[.agg #[.slice none 0 0, .slice none 0 0, .slice none 0 0], .agg #[.int .i64 2, .int .i64 (k : Int)]]) (by simp [results, Tryd.results10, go_sem, t0, t1, t2, t3, t4]) rfl HPP.out
        | cons q qs =>
          have HCT := hide (cut_any2 s' 10 (ByteArray.mk #[10]) rfl wr HVW.out HBY.out (by omega) (by omega) hsp)
          obtain ⟨-, hpt, hdr⟩ := index_some (x := 10) (by omega) HBY.out hsp
          have hpl : p.length < s'.length := by
            have h9 := congrArg List.length (join_split 10 s')
            rw [hsp] at h9
            have h8 : (p ++ 10 :: joinD 10 (q :: qs)).length = s'.length := h9
            rw [List.length_append, List.length_cons] at h8
            omega
          have HPB : Hid (By p) := by show By p; rw [← hpt]; exact by_take HBY.out _
          have HRB : Hid (By (s'.drop (p.length + 1))) := by_drop HBY.out _
          have HSTEP : Hid (goD L (splitD 10 s') k = match lineO L (splitD 32 p) with | some L' => goD L' (splitD 10 (s'.drop (p.length + 1))) (k + 1) | none => (⟨[], [], []⟩, 2, k)) := by
            show _ = _
            rw [hsp, hdr]
            rfl
          have hrl : (s'.drop (p.length + 1)).length = s'.length - (p.length + 1) := List.length_drop
          have HRL := hide hrl
          have HPL := hide hpl
          have HSZ : Hid ((strOfNums s').size = s'.length) := strOfNums_size _
          have HSZ2 : Hid ((strOfNums (s'.drop (p.length + 1))).size = s'.length - (p.length + 1)) := by show _ = _; rw [strOfNums_size, hrl]
          have hk2 : wrap64 ((k : Int) + 1) = (k : Int) + 1 := by unfold wrap64; omega
          obtain ⟨lo, hlo⟩ : ∃ lo, lineO L (splitD 32 p) = lo := ⟨_, rfl⟩
          rw [hlo] at HSTEP
          have HLO := hide hlo
          generalize s'.drop (p.length + 1) = rs at *
          clear hsp hs0 hpt hdr hrl hlo
          generalize hP : strOfNums s' = P at *
          go_wp2_with fail
          refine HCT.out.mono ?_
          rintro e w2 ⟨rfl, hb2⟩
          have HM2 := hide (HM.out.below hb2)
          have HRD := hide (read_any x1 (w.heap.size + 1 + 1) nl nb no la ba oa lc bc oc L p w2 (HVW.out.on hb2) HM2.out HPB.out (by omega))
          rw [HLO.out] at HRD
          clear hb2
          go_wp2_with fail
          refine HRD.out.mono ?_
          rintro e w3 (⟨hno, rfl, hbel⟩ | ⟨L', lv, bv, ov, nl', nb', no', hyes, rfl, hM3⟩)
          · have HNO : Hid (parseD s = (⟨[], [], []⟩, 2, k)) := by show _ = _; rw [HGO.out, HSTEP.out, hno]
            obtain ⟨b1, b2, hbx⟩ := HR.out w3 hbel
            have HBX := hide hbx
            clear hno hbel hbx
            have k0 : w3.cell? ⟨w.heap.size, 0, none⟩ = some (.slice none 0 0) := by rw [cell_of_block b1]; rfl
            have f0 : w3.frozen? ⟨w.heap.size, 0, none⟩ = false := by simp [World.frozen?, b1]
            have k1 : w3.cell? ⟨w.heap.size, 1, none⟩ = some (.slice none 0 0) := by rw [cell_of_block b1]; rfl
            have f1 : w3.frozen? ⟨w.heap.size, 1, none⟩ = false := by simp [World.frozen?, b1]
            have k2 : w3.cell? ⟨w.heap.size, 2, none⟩ = some (.slice none 0 0) := by rw [cell_of_block b1]; rfl
            have f2 : w3.frozen? ⟨w.heap.size, 2, none⟩ = false := by simp [World.frozen?, b1]
            have k3 : w3.cell? ⟨w.heap.size + 1, 0, none⟩ = some (.int .i64 0) := by rw [cell_of_block b2]; rfl
            have f3 : w3.frozen? ⟨w.heap.size + 1, 0, none⟩ = false := by simp [World.frozen?, b2]
            have k4 : w3.cell? ⟨w.heap.size + 1, 1, none⟩ = some (.int .i64 0) := by rw [cell_of_block b2]; rfl
            have f4 : w3.frozen? ⟨w.heap.size + 1, 1, none⟩ = false := by simp [World.frozen?, b2]
            obtain ⟨s1, s2⟩ := five_set (a' := .slice none 0 0) (b' := .slice none 0 0) (c' := .slice none 0 0) (u' := .int .i64 2) (v' := .int .i64 (k : Int)) b1 b2
            have S0 : Hid ((((((w3.setCell ⟨w.heap.size, 0, none⟩ (.slice none 0 0)).setCell ⟨w.heap.size, 1, none⟩ (.slice none 0 0)).setCell ⟨w.heap.size, 2, none⟩ (.slice none 0 0)).setCell ⟨w.heap.size + 1, 0, none⟩ (.int .i64 2)).setCell ⟨w.heap.size + 1, 1, none⟩ (.int .i64 (k : Int))).cell? ⟨w.heap.size, 0, none⟩ = some (.slice none 0 0)) := by show _ = _; rw [cell_of_block s1]; rfl
            have S1 : Hid ((((((w3.setCell ⟨w.heap.size, 0, none⟩ (.slice none 0 0)).setCell ⟨w.heap.size, 1, none⟩ (.slice none 0 0)).setCell ⟨w.heap.size, 2, none⟩ (.slice none 0 0)).setCell ⟨w.heap.size + 1, 0, none⟩ (.int .i64 2)).setCell ⟨w.heap.size + 1, 1, none⟩ (.int .i64 (k : Int))).cell? ⟨w.heap.size, 1, none⟩ = some (.slice none 0 0)) := by show _ = _; rw [cell_of_block s1]; rfl
            have S2 : Hid ((((((w3.setCell ⟨w.heap.size, 0, none⟩ (.slice none 0 0)).setCell ⟨w.heap.size, 1, none⟩ (.slice none 0 0)).setCell ⟨w.heap.size, 2, none⟩ (.slice none 0 0)).setCell ⟨w.heap.size + 1, 0, none⟩ (.int .i64 2)).setCell ⟨w.heap.size + 1, 1, none⟩ (.int .i64 (k : Int))).cell? ⟨w.heap.size, 2, none⟩ = some (.slice none 0 0)) := by show _ = _; rw [cell_of_block s1]; rfl
            have S3 : Hid ((((((w3.setCell ⟨w.heap.size, 0, none⟩ (.slice none 0 0)).setCell ⟨w.heap.size, 1, none⟩ (.slice none 0 0)).setCell ⟨w.heap.size, 2, none⟩ (.slice none 0 0)).setCell ⟨w.heap.size + 1, 0, none⟩ (.int .i64 2)).setCell ⟨w.heap.size + 1, 1, none⟩ (.int .i64 (k : Int))).cell? ⟨w.heap.size + 1, 0, none⟩ = some (.int .i64 2)) := by show _ = _; rw [cell_of_block s2]; rfl
            have S4 : Hid ((((((w3.setCell ⟨w.heap.size, 0, none⟩ (.slice none 0 0)).setCell ⟨w.heap.size, 1, none⟩ (.slice none 0 0)).setCell ⟨w.heap.size, 2, none⟩ (.slice none 0 0)).setCell ⟨w.heap.size + 1, 0, none⟩ (.int .i64 2)).setCell ⟨w.heap.size + 1, 1, none⟩ (.int .i64 (k : Int))).cell? ⟨w.heap.size + 1, 1, none⟩ = some (.int .i64 (k : Int))) := by show _ = _; rw [cell_of_block s2]; rfl
            have HFB := hide (five_below (a' := .slice none 0 0) (b' := .slice none 0 0) (c' := .slice none 0 0) (u' := .int .i64 2) (v' := .int .i64 (k : Int)) HBX.out)
            have HPP : Hid (ParsePost s w (.returned (.tuple #[.agg #[.slice none 0 0, .slice none 0 0, .slice none 0 0], .agg #[.int .i64 2, .int .i64 (k : Int)]])) (((((w3.setCell ⟨w.heap.size, 0, none⟩ (.slice none 0 0)).setCell ⟨w.heap.size, 1, none⟩ (.slice none 0 0)).setCell ⟨w.heap.size, 2, none⟩ (.slice none 0 0)).setCell ⟨w.heap.size + 1, 0, none⟩ (.int .i64 2)).setCell ⟨w.heap.size + 1, 1, none⟩ (.int .i64 (k : Int)))) := pp_no HNO.out HFB.out
            clear b1 b2 s1 s2
            go_wp2_with fail
            have t0 := S0.out
            have t1 := S1.out
            have t2 := S2.out
            have t3 := S3.out
            have t4 := S4.out
            exact bodyPost_ret (v := .tuple #[.agg #[.slice none 0 0, .slice none 0 0, .slice none 0 0], .agg #[.int .i64 2, .int .i64 (k : Int)]]) (by simp [results, Tryd.results10, go_sem, t0, t1, t2, t3, t4]) rfl HPP.out
          · have HG3 : Hid (parseD s = goD L' (splitD 10 rs) (k + 1)) := by show _ = _; rw [HGO.out, HSTEP.out, hyes]
            have HI3 := hide (line_in HIN.out (HLO.out.trans hyes))
            obtain ⟨la', lc', rfl, -, -⟩ := ownz_shape hM3.ol_
            obtain ⟨ba', bc', rfl, -, -⟩ := ownz_shape hM3.ob
            obtain ⟨oa', oc', rfl, -, -⟩ := ownz_shape hM3.oo
            have HM3 := hide hM3
            clear hyes hM3
            go_wp2_with fail
            go_roundw
            case rel => exact ⟨rs, k + 1, nl', nb', no', lc', bc', oc', L', la', ba', oa', rfl, by go_num, HM3.out, HG3.out, HRB.out, by have := HRL.out; have := HPL.out; omega, HI3.out⟩
            case measure =>
              show (strOfNums rs).size < P.size
              have := HSZ.out
              have := HSZ2.out
              have := HPL.out
              omega
end Go.Proofs.YtjlfcbccpcigeacDoor
