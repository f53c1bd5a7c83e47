/- The contract of strings.SplitN at a text's words, and of the reader's read. -/
import Derived.Test.YtjlfcbccpcigeacDoorTextRead
import Derived.Lib.Split
namespace Go.Proofs.YtjlfcbccpcigeacDoor
open Go.RowKit Go.Joins
set_option linter.unusedVariables false
set_option linter.unusedSimpArgs false
set_option maxRecDepth 8192

theorem strs_of {Bs : List ByteArray} {W : List (List Int)} (h : Bs.map (·.data.toList) = W.map b8) : Bs = W.map strOfNums := by
  have h2 := congrArg (List.map fun l : List UInt8 => (⟨l.toArray⟩ : ByteArray)) h
  rw [List.map_map, List.map_map] at h2
  have e1 : ((fun l : List UInt8 => (⟨l.toArray⟩ : ByteArray)) ∘ fun x : ByteArray => x.data.toList) = id := by
    funext b; rfl
  have e2 : ((fun l : List UInt8 => (⟨l.toArray⟩ : ByteArray)) ∘ b8) = strOfNums := by
    funext p; rfl
  rw [e1, e2, List.map_id] at h2
  exact h2
/-- what SplitN answers, at so many words: all of them; or that many, where there are more -/
def SplitPost (x : Int) (s : List Int) (n : Nat) (w : World) (e : Ending) (w' : World) : Prop := ∃ (W : List (List Int)) (m cap : Nat), e = .returned (.slice (some ⟨w.heap.size, 0, none⟩) (m + 1) cap) ∧ m + 1 ≤ cap ∧ cap ≤ n ∧ StrsA w' w.heap.size 0 (m + 1) W ∧ WordsOk W ∧ (W = splitD x s ∨ (m + 1 = n ∧ n < (splitD x s).length)) ∧ Below w.heap.size w w'
theorem splitN_any (s : List Int) (x : Int) (b : ByteArray) (hxb : b = strOfNums [x]) (n : Nat) (hn : 1 ≤ n) (hn2 : n ≤ 1000) (w : World) (hv : VarsT w) (hs : By s) (hx : 0 ≤ x ∧ x ≤ 255) (hl : s.length ≤ 2000000) :
    Calls Tryd.prog 42 #[.string (strOfNums s), .string b, .int .i64 n] w (SplitPost x s n w) := by
  subst hxb
  obtain ⟨m, hm⟩ := hv.most
  have hc := Tryd.strings_SplitN (strOfNums s) (strOfNums [x]) n m w (by rw [strOfNums_size]; omega) hm (by rw [strOfNums_size]; exact Nat.le_refl _) hn (by omega)
  rw [strOfNums_size] at hc
  obtain ⟨W, w1, w2, w3, w4, w5⟩ := split_b8 hx (min n (s.length + 1) - 1) s hs
  have hB : Lib.splitB (strOfNums [x]) 0 (min n (s.length + 1) - 1) (strOfNums s) = W.map strOfNums := strs_of (by rw [Lib.splitB_data, str_list, str_list]; exact w1)
  have hlen := Lib.splitB_length_le (strOfNums [x]) 0 (min n (s.length + 1) - 1) (strOfNums s)
  rw [hB] at hc hlen
  rw [List.length_map] at hc hlen
  have hW : 1 ≤ W.length := by
    cases W with
    | nil => exact absurd rfl w2
    | cons p ps => simp
  obtain ⟨q, hq⟩ : ∃ q, W.length = q + 1 := ⟨W.length - 1, by omega⟩
  rw [hq] at hc hlen
  obtain ⟨hct1, hct2⟩ := split_count x s
  refine hc.mono fun e w' ⟨he, hw⟩ => ⟨W, q, min n (s.length + 1), he, by omega, by omega, ?_, ?_, ?_, by rw [hw]; exact below_alloc1 _ _⟩
  · refine ⟨hq, by rw [hw]; simp, fun i hi => ?_⟩
    rw [hw, Nat.zero_add, cell_of_block (new_blkS w _ _)]
    unfold Lib.cellsOf
    rw [List.getElem?_toArray, List.getElem?_append_left (by simp; omega), List.getElem?_map, List.getElem?_map, List.getD_eq_getElem?_getD, List.getElem?_eq_getElem (by omega)]
    rfl
  · intro i
    rw [List.getD_eq_getElem?_getD]
    rcases Nat.lt_or_ge i W.length with hi | hi
    · rw [List.getElem?_eq_getElem hi]
      exact ⟨w3 _ (List.getElem_mem hi), Nat.le_trans (w4 _ (List.getElem_mem hi)) hl⟩
    · rw [List.getElem?_eq_none hi]
      exact ⟨fun c hc => (by cases hc), Nat.zero_le _⟩
  · rcases w5 with h | ⟨h1, h2⟩
    · exact .inl h
    · refine .inr ⟨by omega, by omega⟩
theorem line_long {L : Lp} {ws : List (List Int)} (h : 6 ≤ ws.length) : lineO L ws = none := by
  match ws, h with
  | a :: b :: c :: d :: e :: f :: l, _ =>
    show (if L.outs.length = 0 then Option.map _ (stO (a :: b :: c :: d :: e :: f :: l)) else none) = none
    have : stO (a :: b :: c :: d :: e :: f :: l) = none := rfl
    rw [this]
    split <;> rfl
theorem ReadPost.to {x1 : World} {y : Nat} {R R' : Option Lp} {e : Ending} {w' : World} (h : ReadPost x1 y R e w') (he : R = R') : ReadPost x1 y R' e w' := he ▸ h
set_option maxHeartbeats 8000000 in
theorem read_any (x1 : World) (y nl nb no : Nat) (la ba oa : Option Addr) (lc bc oc : Nat) (L : Lp) (s : List Int) (w : World) (hv : VarsT w) (hM : RdM x1 y (.slice la nl lc) (.slice ba nb bc) (.slice oa no oc) nl nb no (cutL L).logs (cutL L).body (cutL L).outs w) (hs : By s) (hl : s.length ≤ 2000000) :
    Calls Tryd.prog 28 #[.pointer (some ⟨y, 0, none⟩), .string (strOfNums s)] w (ReadPost x1 y (lineO L (splitD 32 s))) := by
  have HSP := hide (splitN_any s 32 (ByteArray.mk #[32]) rfl 6 (by omega) (by omega) w hv hs (by omega) hl)
  have HM := hide hM
  have HV := hide hv
  obtain ⟨R, hR⟩ : ∃ R, lineO L (splitD 32 s) = R := ⟨_, rfl⟩
  have HR := hide hR
  rw [hR]
  generalize strOfNums s = P at *
  clear hv hM hs hl hR
  go_enter Tryd.func28, Tryd.ntmps28
  go_wp2_with fail
  refine HSP.out.mono ?_
  rintro e w1 ⟨W, m, cap, rfl, hcap, hc6, hW, hok, hsp, hb⟩
  have HM1 := hide (HM.out.below hb)
  have HV1 := hide (HV.out.on hb)
  have HW := hide hW
  have HOK := hide hok
  have hcm : cap ≤ 9223372036854775807 := by omega
  have HKEY : Hid (lineO L W = R) := by
    show _ = _
    rcases hsp with h | ⟨h1, h2⟩
    · rw [h]; exact HR.out
    · rw [line_long (by have := hW.1; omega), ← HR.out, line_long (by omega)]
  have c0 := hW.2.2 0 (by omega)
  have hz1 := hW.2.1
  rw [Nat.add_zero] at c0
  have ea := word_beq (hok 0).1 (m := arrayW) (by decide) (b := [97, 114, 114, 97, 121]) rfl
  have eo := word_beq (hok 0).1 (m := outW) (by decide) (b := [111, 117, 116]) rfl
  have HLN := hide hW.1
  clear hsp hW hok hb
  by_cases ha : W.getD 0 [] = arrayW
  · rw [decide_eq_true ha] at ea
    have HK2 : Hid ((if m + 1 = 2 ∧ L.body.length + L.outs.length = 0 then (numO (W.getD 1 []) 18).map (fun v => { L with logs := L.logs ++ [v] }) else none) = R) := by show _ = _; rw [← HKEY.out, line_array ha, HLN.out]
    clear ha eo
    generalize strOfNums (W.getD 0 []) = P0 at *
    go_wp2_with fail
    refine (readArray_any x1 y nl nb no la ba oa lc bc oc L W w.heap.size (m + 1) cap w1 HV1.out HM1.out HW.out HOK.out hcap hcm).mono ?_
    intro e w2 hp
    have hp2 := hp.to HK2.out
    have HPP := hide hp2
    rcases hp2 with ⟨-, rfl, -⟩ | ⟨-, -, -, -, -, -, -, -, rfl, -⟩
    all_goals
      clear hp
      go_wp2_with fail
      go_ret
      exact HPP.out
  · rw [decide_eq_false ha] at ea
    by_cases ho : W.getD 0 [] = outW
    · rw [decide_eq_true ho] at eo
      have HK2 : Hid ((if m + 1 = 2 then (numO (W.getD 1 []) 18).map (fun v => { L with outs := L.outs ++ [v] }) else none) = R) := by show _ = _; rw [← HKEY.out, line_out ho, HLN.out]
      clear ha ho
      generalize strOfNums (W.getD 0 []) = P0 at *
      go_wp2_with fail
      refine (readOut_any x1 y nl nb no la ba oa lc bc oc L W w.heap.size (m + 1) cap w1 HV1.out HM1.out HW.out HOK.out hcap hcm).mono ?_
      intro e w2 hp
      have hp2 := hp.to HK2.out
      have HPP := hide hp2
      rcases hp2 with ⟨-, rfl, -⟩ | ⟨-, -, -, -, -, -, -, -, rfl, -⟩
      all_goals
        clear hp
        go_wp2_with fail
        go_ret
        exact HPP.out
    · rw [decide_eq_false ho] at eo
      have HK2 : Hid ((if L.outs.length = 0 then (stO W).map (fun s => { L with body := L.body ++ [s] }) else none) = R) := by show _ = _; rw [← HKEY.out, line_stmt ha ho]
      clear ha ho
      generalize strOfNums (W.getD 0 []) = P0 at *
      go_wp2_with fail
      refine (readStmt_any x1 y nl nb no la ba oa lc bc oc L W w.heap.size m cap w1 HV1.out HM1.out HW.out HOK.out hcap hcm).mono ?_
      intro e w2 hp
      have hp2 := hp.to HK2.out
      have HPP := hide hp2
      rcases hp2 with ⟨-, rfl, -⟩ | ⟨-, -, -, -, -, -, -, -, rfl, -⟩
      all_goals
        clear hp
        go_wp2_with fail
        go_ret
        exact HPP.out
end Go.Proofs.YtjlfcbccpcigeacDoor
