/- The contracts of package text's kept, readArray, readOut, readStmt and read. -/
import Derived.Test.YtjlfcbccpcigeacDoorTextMem
import Derived.Test.YtjlfcbccpcigeacDoorTextStmtOf
import Derived.Test.YtjlfcbccpcigeacDoorLoopP
namespace Go.Proofs.YtjlfcbccpcigeacDoor
open Go.RowKit Go.Joins
set_option linter.unusedVariables false
set_option linter.unusedSimpArgs false
set_option maxRecDepth 8192

/-- what kept answers: the row as it was, or one more behind it -/
def KeptPost (base sz lim : Nat) (e : TypeId) (v : Value) (n : Nat) (xs ys : List Value) (w : World) (en : Ending) (w' : World) : Prop :=
  (lim < n ∧ en = .returned v ∧ Below w.heap.size w w') ∨ (n ≤ lim ∧ ∃ g cap wm, en = .returned (.slice (some ⟨g, 0, none⟩) (n + 1) cap) ∧ Below w.heap.size w wm ∧ w'.ownsRow base e sz (.slice (some ⟨g, 0, none⟩) (n + 1) cap) (n + 1) (xs ++ ys) ∧ wm.grownBy w' v.ownBlock ∧ (v.ownBlock = some g ∨ g = wm.heap.size))
set_option maxHeartbeats 4000000 in
theorem kept_int (base n lim : Nat) (a : Option Addr) (c : Nat) (xs : List Value) (x : Int) (w : World) (hown : w.ownsRow base 3 1 (.slice a n c) n xs) (hb : base ≤ w.heap.size) (hn : n ≤ 20) (hlim : lim ≤ 16) :
    Calls Tryd.prog 56 #[.slice a n c, .int .i64 x, .int .i64 lim] w (KeptPost base 1 lim 3 (.slice a n c) n xs [.int .i64 x] w) := by
  obtain ⟨i0, hi, hz0, hz1, hz2⟩ := info_parts Tryd.iintP
  by_cases h : lim < n
  · have hl : (lim : Int) < (n : Int) := by omega
    have HPP : Hid (KeptPost base 1 lim 3 (.slice a n c) n xs [.int .i64 x] w (.returned (.slice a n c)) w) := .inl ⟨h, rfl, Below.refl _ _⟩
    clear hown
    go_enter Tryd.func56, Tryd.ntmps56
    go_wp2_with fail
    go_ret
    exact HPP.out
  · have hl : ¬ (lim : Int) < (n : Int) := by omega
    have HA := hide (own_below hown (below_alloc1 w (.cells #[.int .i64 x] 3)))
    have HBA := hide (below_alloc1 w (.cells #[.int .i64 x] 3))
    have HN := hide (show n ≤ lim by omega)
    clear hown
    go_enter Tryd.func56, Tryd.ntmps56
    go_wp2_with (at_builtin; refine wpList_append_lies _ rfl (.tmp 12) (.tmp 14) 22 rfl base 3 i0 (.int .i64 0) 1 8 Tryd.underlying22 hi hz0 hz1 hz2 rfl (by decide) _ n xs rfl HA.out ⟨w.heap.size, 0, none⟩ 1 1 [.int .i64 x] rfl rfl (World.news_of_block (new_blkP w #[.int .i64 x] 3)) (by intro u hu; simp at hu; subst hu; rfl) (by decide) (by unfold maxLen; omega) (by omega) (by simp; omega) _ rfl ?_)
    intro g9 e9 w5 hown hgrow hat hlt
    have HPP : Hid (KeptPost base 1 lim 3 (.slice a n c) n xs [.int .i64 x] w (.returned (.slice (some ⟨g9, 0, none⟩) (n + 1) e9)) w5) := .inr ⟨HN.out, g9, e9, _, rfl, HBA.out, hown, hgrow, hat.imp id fun h => h.trans (by simp)⟩
    clear hown hgrow hat hlt
    go_wp2_with fail
    go_ret
    exact HPP.out
/-- what a reader's method answers: no such line; or the loop with it -/
def ReadPost (x1 : World) (y : Nat) (R : Option Lp) (e : Ending) (w' : World) : Prop :=
  (R = none ∧ e = .returned (.bool false) ∧ Below y x1 w') ∨ ∃ L lv bv ov nl nb no, R = some L ∧ e = .returned (.bool true) ∧ RdM x1 y lv bv ov nl nb no (cutL L).logs (cutL L).body (cutL L).outs w'
theorem RdM.same {x1 wr : World} {y : Nat} {lv bv ov : Value} {nl nb no : Nat} {ll ol : List Int} {bl : List St} (h : RdM x1 y lv bv ov nl nb no ll bl ol wr) : RdM x1 y lv bv ov nl nb no ll bl ol (wr.setCell ⟨y, 0, none⟩ lv) ∧ RdM x1 y lv bv ov nl nb no ll bl ol (wr.setCell ⟨y, 1, none⟩ bv) ∧ RdM x1 y lv bv ov nl nb no ll bl ol (wr.setCell ⟨y, 2, none⟩ ov) := by
  refine ⟨⟨h.bel.setCell (Nat.le_refl _) _, ?_, own_setP h.ol_ (Nat.lt_succ_self _), own_setP h.ob (Nat.lt_succ_self _), own_setP h.oo (Nat.lt_succ_self _), h.alb, h.alo, h.abo⟩, ⟨h.bel.setCell (Nat.le_refl _) _, ?_, own_setP h.ol_ (Nat.lt_succ_self _), own_setP h.ob (Nat.lt_succ_self _), own_setP h.oo (Nat.lt_succ_self _), h.alb, h.alo, h.abo⟩, ⟨h.bel.setCell (Nat.le_refl _) _, ?_, own_setP h.ol_ (Nat.lt_succ_self _), own_setP h.ob (Nat.lt_succ_self _), own_setP h.oo (Nat.lt_succ_self _), h.alb, h.alo, h.abo⟩⟩ <;> simp [World.setCell, Array.getElem?_modify, h.blk]
theorem num_none {s : List Int} {k : Nat} (h : false = (numO s k).isSome) : numO s k = none := by
  cases hq : numO s k with
  | none => rfl
  | some r => rw [hq] at h; cases h
theorem num_some {s : List Int} {k : Nat} {v : Int} (h : true = (numO s k).isSome) (hv : ∀ r, numO s k = some r → v = r) : numO s k = some v := by
  cases hq : numO s k with
  | none => rw [hq] at h; cases h
  | some r => rw [hv r hq]
set_option maxHeartbeats 8000000 in
theorem readArray_any (x1 : World) (y nl nb no : Nat) (la ba oa : Option Addr) (lc bc oc : Nat) (L : Lp) (ws : List (List Int)) (b n cap : Nat) (w : World) (hv : VarsT w) (hM : RdM x1 y (.slice la nl lc) (.slice ba nb bc) (.slice oa no oc) nl nb no (cutL L).logs (cutL L).body (cutL L).outs w) (hs : StrsA w b 0 n ws) (hw : WordsOk ws) (hcap : n ≤ cap) (hcm : cap ≤ 9223372036854775807) :
    Calls Tryd.prog 43 #[.pointer (some ⟨y, 0, none⟩), .slice (some ⟨b, 0, none⟩) n cap] w (ReadPost x1 y (if n = 2 ∧ L.body.length + L.outs.length = 0 then (numO (ws.getD 1 []) 18).map (fun v => { L with logs := L.logs ++ [v] }) else none)) := by
  have HON := hide (onlyNumber_any ws b n cap w hv hs hw hcap hcm)
  have HM := hide hM
  obtain ⟨e1, e2, e3⟩ := hM.nums
  have hnl : nl ≤ 20 := by rw [e1]; show (L.logs.take 4).length ≤ 20; rw [List.length_take]; omega
  have HB0 : Hid (nb = 0 ↔ L.body.length = 0) := by show _ ↔ _; rw [e2]; exact take_none _ _
  have HO0 : Hid (no = 0 ↔ L.outs.length = 0) := by show _ ↔ _; rw [e3]; exact take_none _ _
  have HNL := hide e1
  generalize ws.getD 1 [] = p1 at *
  obtain ⟨R, hR⟩ : ∃ R, (if n = 2 ∧ L.body.length + L.outs.length = 0 then (numO p1 18).map (fun v => { L with logs := L.logs ++ [v] }) else none) = R := ⟨_, rfl⟩
  rw [hR]
  have HRR := hide hR
  clear hv hs hw hM e1 e2 e3 hR
  go_enter Tryd.func43, Tryd.ntmps43
  go_wp2_with fail
  refine HON.out.mono ?_
  rintro e w1 ⟨v, ok, rfl, hn2, h2, lo, hi, hy⟩
  have HM1 := hide (HM.out.below hy)
  obtain ⟨z0, z1, z2⟩ := HM1.out.cells
  have hyz := HM1.out.lt
  cases ok with
  | false =>
    have HPP : Hid (ReadPost x1 y R (.returned (.bool false)) w1) := .inl ⟨by
      rw [← HRR.out]
      by_cases hc : n = 2 ∧ L.body.length + L.outs.length = 0
      · rw [if_pos hc, num_none (h2 hc.1).1]; rfl
      · rw [if_neg hc], rfl, HM1.out.bel⟩
    clear hn2 h2 hy
    go_wp2_with fail
    go_ret
    exact HPP.out
  | true =>
    have hnn : n = 2 := by
      by_cases hc : n = 2
      · exact hc
      · have := hn2 hc; cases this
    have HNV := hide (num_some (h2 hnn).1 (h2 hnn).2)
    have HNN := hide hnn
    clear hn2 h2 hy hnn
    by_cases hb0 : nb = 0
    · by_cases ho0 : no = 0
      · have HR : Hid (R = some { L with logs := L.logs ++ [v] }) := by show _ = _; rw [← HRR.out, if_pos ⟨HNN.out, by rw [HB0.out.1 hb0, HO0.out.1 ho0]⟩, HNV.out]; rfl
        subst hb0
        subst ho0
        go_wp2_with fail
        refine (kept_int (y + 1) nl 3 la lc _ v _ HM1.out.ol_ (by omega) hnl (by omega)).mono ?_
        rintro e w2 (⟨hlim, rfl, hb2⟩ | ⟨hlim, g, cap2, wm, rfl, hbm, hown, hgrow, hat⟩)
        · have HM2 := hide (HM1.out.below hb2)
          have fz : w2.frozen? ⟨y, 0, none⟩ = false := by simp [World.frozen?, HM2.out.blk]
          have yc := HM2.out.cells.1
          have hyz2 := HM2.out.lt
          have HPP : Hid (ReadPost x1 y R (.returned (.bool true)) (w2.setCell ⟨y, 0, none⟩ (.slice la nl lc))) := .inr ⟨_, _, _, _, _, _, _, HR.out, rfl, by
            have h := HM2.out.same.1
            have e : (cutL { L with logs := L.logs ++ [v] }).logs = (cutL L).logs := by
              show (L.logs ++ [v]).take 4 = L.logs.take 4
              rw [take_snoc, if_pos (by have h9 : nl = (L.logs.take (3 + 1)).length := HNL.out; omega)]
            rw [e]; exact h⟩
          clear hb2 z0 z1 z2
          go_wp2_with fail
          go_ret
          exact HPP.out
        · have HMm := hide (HM1.out.below hbm)
          obtain ⟨hyw, hbx⟩ := HMm.out.grow_l hgrow
          have HP := hide (HMm.out.push_l hown hgrow hat rfl)
          have fz : w2.frozen? ⟨y, 0, none⟩ = false := by simp [World.frozen?, hyw]
          have yc : w2.cell? ⟨y, 0, none⟩ = some (.slice la nl lc) := by rw [cell_of_block hyw]; rfl
          have hyz5 : y < w2.heap.size := (Array.getElem?_eq_some_iff.1 hyw).1
          have HPP : Hid (ReadPost x1 y R (.returned (.bool true)) (w2.setCell ⟨y, 0, none⟩ (.slice (some ⟨g, 0, none⟩) (nl + 1) cap2))) := .inr ⟨_, _, _, _, _, _, _, HR.out, rfl, by
            have h := HP.out
            have e : (cutL { L with logs := L.logs ++ [v] }).logs = (cutL L).logs ++ [v] := by
              show (L.logs ++ [v]).take 4 = L.logs.take 4 ++ [v]
              rw [take_snoc, if_neg (by have h9 : nl = (L.logs.take (3 + 1)).length := HNL.out; omega)]
            rw [e]; exact h⟩
          clear hown hgrow hat hyw hbx hbm z0 z1 z2
          go_wp2_with fail
          go_ret
          exact HPP.out
      · have HPP : Hid (ReadPost x1 y R (.returned (.bool false)) w1) := .inl ⟨by rw [← HRR.out, if_neg fun hc => ho0 (HO0.out.2 (by have := hc.2; omega))], rfl, HM1.out.bel⟩
        have ho1 : (0 : Int) < (no : Int) := by omega
        have ho2 : 0 < no := by omega
        subst hb0
        go_wp2_with fail
        go_ret
        exact HPP.out
    · have HPP : Hid (ReadPost x1 y R (.returned (.bool false)) w1) := .inl ⟨by rw [← HRR.out, if_neg fun hc => hb0 (HB0.out.2 (by have := hc.2; omega))], rfl, HM1.out.bel⟩
      have hb1 : (0 : Int) < (nb : Int) := by omega
      have hb2 : 0 < nb := by omega
      go_wp2_with fail
      go_ret
      exact HPP.out
set_option maxHeartbeats 8000000 in
theorem readOut_any (x1 : World) (y nl nb no : Nat) (la ba oa : Option Addr) (lc bc oc : Nat) (L : Lp) (ws : List (List Int)) (b n cap : Nat) (w : World) (hv : VarsT w) (hM : RdM x1 y (.slice la nl lc) (.slice ba nb bc) (.slice oa no oc) nl nb no (cutL L).logs (cutL L).body (cutL L).outs w) (hs : StrsA w b 0 n ws) (hw : WordsOk ws) (hcap : n ≤ cap) (hcm : cap ≤ 9223372036854775807) :
    Calls Tryd.prog 44 #[.pointer (some ⟨y, 0, none⟩), .slice (some ⟨b, 0, none⟩) n cap] w (ReadPost x1 y (if n = 2 then (numO (ws.getD 1 []) 18).map (fun v => { L with outs := L.outs ++ [v] }) else none)) := by
  have HON := hide (onlyNumber_any ws b n cap w hv hs hw hcap hcm)
  have HM := hide hM
  obtain ⟨e1, e2, e3⟩ := hM.nums
  have hno : no ≤ 20 := by rw [e3]; show (L.outs.take 17).length ≤ 20; rw [List.length_take]; omega
  have HNL := hide e3
  generalize ws.getD 1 [] = p1 at *
  obtain ⟨R, hR⟩ : ∃ R, (if n = 2 then (numO p1 18).map (fun v => { L with outs := L.outs ++ [v] }) else none) = R := ⟨_, rfl⟩
  rw [hR]
  have HRR := hide hR
  clear hv hs hw hM e1 e2 e3 hR
  go_enter Tryd.func44, Tryd.ntmps44
  go_wp2_with fail
  refine HON.out.mono ?_
  rintro e w1 ⟨v, ok, rfl, hn2, h2, lo, hi, hy⟩
  have HM1 := hide (HM.out.below hy)
  obtain ⟨z0, z1, z2⟩ := HM1.out.cells
  have hyz := HM1.out.lt
  cases ok with
  | false =>
    have HPP : Hid (ReadPost x1 y R (.returned (.bool false)) w1) := .inl ⟨by
      rw [← HRR.out]
      by_cases hc : n = 2
      · rw [if_pos hc, num_none (h2 hc).1]; rfl
      · rw [if_neg hc], rfl, HM1.out.bel⟩
    clear hn2 h2 hy
    go_wp2_with fail
    go_ret
    exact HPP.out
  | true =>
    have hnn : n = 2 := by
      by_cases hc : n = 2
      · exact hc
      · have := hn2 hc; cases this
    have HR : Hid (R = some { L with outs := L.outs ++ [v] }) := by show _ = _; rw [← HRR.out, if_pos hnn, num_some (h2 hnn).1 (h2 hnn).2]; rfl
    clear hn2 h2 hy hnn
    go_wp2_with fail
    refine (kept_int (y + 1) no 16 oa oc _ v _ HM1.out.oo (by omega) hno (by omega)).mono ?_
    rintro e w2 (⟨hlim, rfl, hb2⟩ | ⟨hlim, g, cap2, wm, rfl, hbm, hown, hgrow, hat⟩)
    · have HM2 := hide (HM1.out.below hb2)
      have fz : w2.frozen? ⟨y, 2, none⟩ = false := by simp [World.frozen?, HM2.out.blk]
      have yc := HM2.out.cells.2.2
      have hyz2 := HM2.out.lt
      have HPP : Hid (ReadPost x1 y R (.returned (.bool true)) (w2.setCell ⟨y, 2, none⟩ (.slice oa no oc))) := .inr ⟨_, _, _, _, _, _, _, HR.out, rfl, by
        have h := HM2.out.same.2.2
        have e : (cutL { L with outs := L.outs ++ [v] }).outs = (cutL L).outs := by
          show (L.outs ++ [v]).take 17 = L.outs.take 17
          rw [take_snoc, if_pos (by have h9 : no = (L.outs.take (16 + 1)).length := HNL.out; omega)]
        rw [e]; exact h⟩
      clear hb2 z0 z1 z2
      go_wp2_with fail
      go_ret
      exact HPP.out
    · have HMm := hide (HM1.out.below hbm)
      obtain ⟨hyw, hbx⟩ := HMm.out.grow_o hgrow
      have HP := hide (HMm.out.push_o hown hgrow hat rfl)
      have fz : w2.frozen? ⟨y, 2, none⟩ = false := by simp [World.frozen?, hyw]
      have yc : w2.cell? ⟨y, 2, none⟩ = some (.slice oa no oc) := by rw [cell_of_block hyw]; rfl
      have hyz5 : y < w2.heap.size := (Array.getElem?_eq_some_iff.1 hyw).1
      have HPP : Hid (ReadPost x1 y R (.returned (.bool true)) (w2.setCell ⟨y, 2, none⟩ (.slice (some ⟨g, 0, none⟩) (no + 1) cap2))) := .inr ⟨_, _, _, _, _, _, _, HR.out, rfl, by
        have h := HP.out
        have e : (cutL { L with outs := L.outs ++ [v] }).outs = (cutL L).outs ++ [v] := by
          show (L.outs ++ [v]).take 17 = L.outs.take 17 ++ [v]
          rw [take_snoc, if_neg (by have h9 : no = (L.outs.take (16 + 1)).length := HNL.out; omega)]
        rw [e]; exact h⟩
      clear hown hgrow hat hyw hbx hbm z0 z1 z2
      go_wp2_with fail
      go_ret
      exact HPP.out
set_option maxHeartbeats 4000000 in
theorem kept_stmt (base n lim : Nat) (a : Option Addr) (c : Nat) (xs : List Value) (v : St) (w : World) (hown : w.ownsRow base 53 9 (.slice a n c) n xs) (hb : base ≤ w.heap.size) (hn : n ≤ 20) (hlim : lim ≤ 16) :
    Calls Tryd.prog 58 #[.slice a n c, .agg #[.int .i64 v.o, .int .i64 v.xa, .int .i64 v.xb, .int .i64 v.ya, .int .i64 v.yb, .int .i64 v.ar, .int .i64 v.sp, .int .i64 v.pl, .int .i64 v.nn], .int .i64 lim] w (KeptPost base 9 lim 53 (.slice a n c) n xs (stCells v).toList w) := by
  obtain ⟨j0, hj, hy0, hy1, hy2⟩ := info_parts Tryd.istP
  by_cases h : lim < n
  · have hl : (lim : Int) < (n : Int) := by omega
    have HPP : Hid (KeptPost base 9 lim 53 (.slice a n c) n xs (stCells v).toList w (.returned (.slice a n c)) (w.alloc (.cells #[.int .i64 v.o, .int .i64 v.xa, .int .i64 v.xb, .int .i64 v.ya, .int .i64 v.yb, .int .i64 v.ar, .int .i64 v.sp, .int .i64 v.pl, .int .i64 v.nn] 53))) := .inl ⟨h, rfl, below_alloc1 _ _⟩
    clear hown
    go_enter Tryd.func58, Tryd.ntmps58
    go_wp2_with fail
    go_ret
    exact HPP.out
  · have hl : ¬ (lim : Int) < (n : Int) := by omega
    have HA := hide (own_below hown (below_st2 w v))
    have HBA := hide (below_st2 w v)
    have HNW := hide (new_st w v)
    have HN := hide (show n ≤ lim by omega)
    clear hown
    go_enter Tryd.func58, Tryd.ntmps58
    go_wp2_with (at_builtin; refine wpList_append_lies _ rfl (.tmp 12) (.tmp 14) 23 rfl base 53 j0 (.agg #[.int .i64 0, .int .i64 0, .int .i64 0, .int .i64 0, .int .i64 0, .int .i64 0, .int .i64 0, .int .i64 0, .int .i64 0]) 9 72 Tryd.underlying23 hj hy0 hy1 hy2 rfl (by decide) _ n xs rfl HA.out ⟨w.heap.size + 1, 0, none⟩ 1 1 (stCells v).toList rfl rfl HNW.out (st_ones v) (by decide) (by unfold maxLen; omega) (by omega) (by simp; omega) _ rfl ?_)
    intro g9 e9 w5 hown hgrow hat hlt
    have HPP : Hid (KeptPost base 9 lim 53 (.slice a n c) n xs (stCells v).toList w (.returned (.slice (some ⟨g9, 0, none⟩) (n + 1) e9)) w5) := .inr ⟨HN.out, g9, e9, _, rfl, HBA.out, hown, hgrow, hat.imp id fun h => h.trans (by simp)⟩
    clear hown hgrow hat hlt
    go_wp2_with fail
    go_ret
    exact HPP.out
set_option maxHeartbeats 16000000 in
theorem readStmt_any (x1 : World) (y nl nb no : Nat) (la ba oa : Option Addr) (lc bc oc : Nat) (L : Lp) (ws : List (List Int)) (b m cap : Nat) (w : World) (hv : VarsT w) (hM : RdM x1 y (.slice la nl lc) (.slice ba nb bc) (.slice oa no oc) nl nb no (cutL L).logs (cutL L).body (cutL L).outs w) (hs : StrsA w b 0 (m + 1) ws) (hw : WordsOk ws) (hcap : m + 1 ≤ cap) (hcm : cap ≤ 9223372036854775807) :
    Calls Tryd.prog 45 #[.pointer (some ⟨y, 0, none⟩), .slice (some ⟨b, 0, none⟩) (m + 1) cap] w (ReadPost x1 y (if L.outs.length = 0 then (stO ws).map (fun s => { L with body := L.body ++ [s] }) else none)) := by
  have HST : Hid (Calls Tryd.prog 57 #[.slice (some ⟨b, 0, none⟩) (m + 1) cap] w (StPost ws w)) := stmtOf_any ws b m cap w hv hs hw hcap hcm
  have HM := hide hM
  obtain ⟨e1, e2, e3⟩ := hM.nums
  have hnb : nb ≤ 20 := by rw [e2]; show (L.body.take 17).length ≤ 20; rw [List.length_take]; omega
  have HO0 : Hid (no = 0 ↔ L.outs.length = 0) := by show _ ↔ _; rw [e3]; exact take_none _ _
  have HNL := hide e2
  obtain ⟨R, hR⟩ : ∃ R, (if L.outs.length = 0 then (stO ws).map (fun s => { L with body := L.body ++ [s] }) else none) = R := ⟨_, rfl⟩
  rw [hR]
  have HRR := hide hR
  clear hv hs hw hM e1 e2 e3 hR
  go_enter Tryd.func45, Tryd.ntmps45
  go_wp2_with fail
  refine HST.out.mono ?_
  rintro e w1 ⟨v, ok, rfl, hok, hst, hy⟩
  have HM1 := hide ((HM.out.below hy).below (below_st1 w1 v))
  have HM0 := hide (HM.out.below hy)
  obtain ⟨z0, z1, z2⟩ := (HM.out.below hy).cells
  have hyz := (HM.out.below hy).lt
  cases ok with
  | false =>
    have HPP : Hid (ReadPost x1 y R (.returned (.bool false)) (w1.alloc (.cells #[.int .i64 v.o, .int .i64 v.xa, .int .i64 v.xb, .int .i64 v.ya, .int .i64 v.yb, .int .i64 v.ar, .int .i64 v.sp, .int .i64 v.pl, .int .i64 v.nn] 53))) := .inl ⟨by
      rw [← HRR.out, st_none hok]
      split <;> rfl, rfl, HM1.out.bel⟩
    clear hok hst hy
    go_wp2_with fail
    go_ret
    exact HPP.out
  | true =>
    have HSV := hide (st_some hok hst)
    clear hok hst hy
    by_cases ho0 : no = 0
    · have HR : Hid (R = some { L with body := L.body ++ [v] }) := by show _ = _; rw [← HRR.out, if_pos (HO0.out.1 ho0), HSV.out]; rfl
      have HZ : Hid ((w1.alloc (.cells #[.int .i64 v.o, .int .i64 v.xa, .int .i64 v.xb, .int .i64 v.ya, .int .i64 v.yb, .int .i64 v.ar, .int .i64 v.sp, .int .i64 v.pl, .int .i64 v.nn] 53)).heap.size = w1.heap.size + 1) := by show _ = _; simp
      have HSC : Hid (∀ w' : World, w'.heap[w1.heap.size]? = some (.cells #[.int .i64 v.o, .int .i64 v.xa, .int .i64 v.xb, .int .i64 v.ya, .int .i64 v.yb, .int .i64 v.ar, .int .i64 v.sp, .int .i64 v.pl, .int .i64 v.nn] 53 (0, 0)) → w'.cell? ⟨w1.heap.size, 0, none⟩ = some (.int .i64 v.o) ∧ w'.cell? ⟨w1.heap.size, 1, none⟩ = some (.int .i64 v.xa) ∧ w'.cell? ⟨w1.heap.size, 2, none⟩ = some (.int .i64 v.xb) ∧ w'.cell? ⟨w1.heap.size, 3, none⟩ = some (.int .i64 v.ya) ∧ w'.cell? ⟨w1.heap.size, 4, none⟩ = some (.int .i64 v.yb) ∧ w'.cell? ⟨w1.heap.size, 5, none⟩ = some (.int .i64 v.ar) ∧ w'.cell? ⟨w1.heap.size, 6, none⟩ = some (.int .i64 v.sp) ∧ w'.cell? ⟨w1.heap.size, 7, none⟩ = some (.int .i64 v.pl) ∧ w'.cell? ⟨w1.heap.size, 8, none⟩ = some (.int .i64 v.nn)) := fun y hb => by refine ⟨?_, ?_, ?_, ?_, ?_, ?_, ?_, ?_, ?_⟩ <;> (rw [cell_of_block hb]; rfl)
      subst ho0
      go_wp2_with fail
      clear z0 z1 z2
      have HMD := hide (HM1.out.below (below_dr1 (w1.alloc (.cells #[.int .i64 v.o, .int .i64 v.xa, .int .i64 v.xb, .int .i64 v.ya, .int .i64 v.yb, .int .i64 v.ar, .int .i64 v.sp, .int .i64 v.pl, .int .i64 v.nn] 53)).heap.size (w1.alloc (.cells #[.int .i64 v.o, .int .i64 v.xa, .int .i64 v.xb, .int .i64 v.ya, .int .i64 v.yb, .int .i64 v.ar, .int .i64 v.sp, .int .i64 v.pl, .int .i64 v.nn] 53))))
      refine wp_region_noPanic ?_
      refine region_until 11 (fun w' => w'.cell? ⟨y, 1, none⟩ = some (.slice ba nb bc) ∧ w'.cell? ⟨w1.heap.size, 0, none⟩ = some (.int .i64 v.o) ∧ w'.cell? ⟨w1.heap.size, 1, none⟩ = some (.int .i64 v.xa) ∧ w'.cell? ⟨w1.heap.size, 2, none⟩ = some (.int .i64 v.xb) ∧ w'.cell? ⟨w1.heap.size, 3, none⟩ = some (.int .i64 v.ya) ∧ w'.cell? ⟨w1.heap.size, 4, none⟩ = some (.int .i64 v.yb) ∧ w'.cell? ⟨w1.heap.size, 5, none⟩ = some (.int .i64 v.ar) ∧ w'.cell? ⟨w1.heap.size, 6, none⟩ = some (.int .i64 v.sp) ∧ w'.cell? ⟨w1.heap.size, 7, none⟩ = some (.int .i64 v.pl) ∧ w'.cell? ⟨w1.heap.size, 8, none⟩ = some (.int .i64 v.nn)) (by kernel_rfl) ⟨HMD.out.cells.2.1, HSC.out _ (new_blkS w1 _ _)⟩ (fun hHeld => ?_)
      refine utk (i := 0) rfl hHeld ?_
      try simp only [Act.put, List.setIfInBounds_toArray, List.set_cons_zero, List.set_cons_succ]
      refine utk (i := 1) rfl hHeld ?_
      try simp only [Act.put, List.setIfInBounds_toArray, List.set_cons_zero, List.set_cons_succ]
      refine utk (i := 2) rfl hHeld ?_
      try simp only [Act.put, List.setIfInBounds_toArray, List.set_cons_zero, List.set_cons_succ]
      refine utk (i := 3) rfl hHeld ?_
      try simp only [Act.put, List.setIfInBounds_toArray, List.set_cons_zero, List.set_cons_succ]
      refine utk (i := 4) rfl hHeld ?_
      try simp only [Act.put, List.setIfInBounds_toArray, List.set_cons_zero, List.set_cons_succ]
      refine utk (i := 5) rfl hHeld ?_
      try simp only [Act.put, List.setIfInBounds_toArray, List.set_cons_zero, List.set_cons_succ]
      refine utk (i := 6) rfl hHeld ?_
      try simp only [Act.put, List.setIfInBounds_toArray, List.set_cons_zero, List.set_cons_succ]
      refine until_one (i := 7) rfl (by kernel_rfl) (fun K hK => ?_)
      go_simp
      refine (kept_stmt (y + 1) nb 16 ba bc _ v _ HMD.out.ob (by show _ ≤ (w1.alloc (.cells #[.int .i64 v.o, .int .i64 v.xa, .int .i64 v.xb, .int .i64 v.ya, .int .i64 v.yb, .int .i64 v.ar, .int .i64 v.sp, .int .i64 v.pl, .int .i64 v.nn] 53)).heap.size; rw [HZ.out]; omega) hnb (by omega)).mono ?_
      rintro e w2 (⟨hlim, rfl, hb2⟩ | ⟨hlim, g, cap2, wm, rfl, hbm, hown, hgrow, hat⟩)
      · have HM2 := hide (HMD.out.below hb2)
        have hbx2 := (hb2.block w1.heap.size (by show _ < (w1.alloc (.cells #[.int .i64 v.o, .int .i64 v.xa, .int .i64 v.xb, .int .i64 v.ya, .int .i64 v.yb, .int .i64 v.ar, .int .i64 v.sp, .int .i64 v.pl, .int .i64 v.nn] 53)).heap.size; rw [HZ.out]; omega)).trans (new_blkS w1 _ _)
        have hHeld2 := And.intro HM2.out.cells.2.1 (HSC.out _ hbx2)
        refine hK.out _ _ (.inr hHeld2) ?_
        clear hK K
        try simp only [Act.put, List.setIfInBounds_toArray, List.set_cons_zero, List.set_cons_succ]
        refine until_one (i := 8) rfl (by kernel_rfl) (fun K hK => ?_)
        go_simp
        refine hK.out _ _ (.inr hHeld2) ?_
        clear hK K
        try simp only [Act.put, List.setIfInBounds_toArray, List.set_cons_zero, List.set_cons_succ]
        refine until_one (i := 9) rfl (by kernel_rfl) (fun K hK => ?_)
        go_simp
        refine hK.out _ _ (.inr hHeld2) ?_
        clear hK K
        try simp only [Act.put, List.setIfInBounds_toArray, List.set_cons_zero, List.set_cons_succ]
        refine until_one (i := 10) rfl (by kernel_rfl) (fun K hK => ?_)
        go_simp
        refine hK.out _ _ (.inr hHeld2) ?_
        clear hK K
        try simp only [Act.put, List.setIfInBounds_toArray, List.set_cons_zero, List.set_cons_succ]
        have fz : w2.frozen? ⟨y, 1, none⟩ = false := by simp [World.frozen?, HM2.out.blk]
        have yc := HM2.out.cells.2.1
        have hyz2 := HM2.out.lt
        have HPP : Hid (ReadPost x1 y R (.returned (.bool true)) (w2.setCell ⟨y, 1, none⟩ (.slice ba nb bc))) := .inr ⟨_, _, _, _, _, _, _, HR.out, rfl, by
          have h := HM2.out.same.2.1
          have e : (cutL { L with body := L.body ++ [v] }).body = (cutL L).body := by
            show (L.body ++ [v]).take 17 = L.body.take 17
            rw [take_snoc, if_pos (by have h9 : nb = (L.body.take (16 + 1)).length := HNL.out; omega)]
          rw [e]; exact h⟩
        clear hb2 hbx2 hHeld2 hHeld
        refine until_one (i := 11) rfl (by kernel_rfl) (fun K hK => ?_)
        go_simp
        refine hK.out _ _ (.inl rfl) ?_
        clear hK K
        try simp only [Act.put, List.setIfInBounds_toArray, List.set_cons_zero, List.set_cons_succ]
        refine until_done (by kernel_rfl) ?_ _
        refine NoPanic.normal ?_
        go_wp2_with fail
        go_ret
        exact HPP.out
      · have HMm := hide (HMD.out.below hbm)
        obtain ⟨hyw, hbx⟩ := HMm.out.grow_b hgrow
        have HP := hide (HMm.out.push_b hown hgrow hat rfl)
        have fz : w2.frozen? ⟨y, 1, none⟩ = false := by simp [World.frozen?, hyw]
        have yc : w2.cell? ⟨y, 1, none⟩ = some (.slice ba nb bc) := by rw [cell_of_block hyw]; rfl
        have hyz5 : y < w2.heap.size := (Array.getElem?_eq_some_iff.1 hyw).1
        have hbx2 : w2.heap[w1.heap.size]? = some (.cells #[.int .i64 v.o, .int .i64 v.xa, .int .i64 v.xb, .int .i64 v.ya, .int .i64 v.yb, .int .i64 v.ar, .int .i64 v.sp, .int .i64 v.pl, .int .i64 v.nn] 53 (0, 0)) := by
          have h1 := (hbm.block w1.heap.size (by show _ < (w1.alloc (.cells #[.int .i64 v.o, .int .i64 v.xa, .int .i64 v.xb, .int .i64 v.ya, .int .i64 v.yb, .int .i64 v.ar, .int .i64 v.sp, .int .i64 v.pl, .int .i64 v.nn] 53)).heap.size; rw [HZ.out]; omega)).trans (new_blkS w1 _ _)
          rw [hgrow.block w1.heap.size (Array.getElem?_eq_some_iff.1 h1).1 (fun e => by have := ownz_ltP HM0.out.ob _ e.symm; omega)]
          exact h1
        have hHeld2 := And.intro yc (HSC.out _ hbx2)
        have HPP : Hid (ReadPost x1 y R (.returned (.bool true)) (w2.setCell ⟨y, 1, none⟩ (.slice (some ⟨g, 0, none⟩) (nb + 1) cap2))) := .inr ⟨_, _, _, _, _, _, _, HR.out, rfl, by
          have h := HP.out
          have e : (cutL { L with body := L.body ++ [v] }).body = (cutL L).body ++ [v] := by
            show (L.body ++ [v]).take 17 = L.body.take 17 ++ [v]
            rw [take_snoc, if_neg (by have h9 : nb = (L.body.take (16 + 1)).length := HNL.out; omega)]
          rw [e]; exact h⟩
        refine hK.out _ _ (.inr hHeld2) ?_
        clear hK K
        try simp only [Act.put, List.setIfInBounds_toArray, List.set_cons_zero, List.set_cons_succ]
        refine until_one (i := 8) rfl (by kernel_rfl) (fun K hK => ?_)
        go_simp
        refine hK.out _ _ (.inr hHeld2) ?_
        clear hK K
        try simp only [Act.put, List.setIfInBounds_toArray, List.set_cons_zero, List.set_cons_succ]
        refine until_one (i := 9) rfl (by kernel_rfl) (fun K hK => ?_)
        go_simp
        refine hK.out _ _ (.inr hHeld2) ?_
        clear hK K
        try simp only [Act.put, List.setIfInBounds_toArray, List.set_cons_zero, List.set_cons_succ]
        refine until_one (i := 10) rfl (by kernel_rfl) (fun K hK => ?_)
        go_simp
        refine hK.out _ _ (.inr hHeld2) ?_
        clear hK K
        try simp only [Act.put, List.setIfInBounds_toArray, List.set_cons_zero, List.set_cons_succ]
        clear hown hgrow hat hyw hbx hbm hbx2 hHeld2 hHeld
        refine until_one (i := 11) rfl (by kernel_rfl) (fun K hK => ?_)
        go_simp
        refine hK.out _ _ (.inl rfl) ?_
        clear hK K
        try simp only [Act.put, List.setIfInBounds_toArray, List.set_cons_zero, List.set_cons_succ]
        refine until_done (by kernel_rfl) ?_ _
        refine NoPanic.normal ?_
        go_wp2_with fail
        go_ret
        exact HPP.out
    · have HPP : Hid (ReadPost x1 y R (.returned (.bool false)) (w1.alloc (.cells #[.int .i64 v.o, .int .i64 v.xa, .int .i64 v.xb, .int .i64 v.ya, .int .i64 v.yb, .int .i64 v.ar, .int .i64 v.sp, .int .i64 v.pl, .int .i64 v.nn] 53))) := .inl ⟨by rw [← HRR.out, if_neg fun hc => ho0 (HO0.out.2 hc)], rfl, HM1.out.bel⟩
      have ho1 : (0 : Int) < (no : Int) := by omega
      have ho2 : 0 < no := by omega
      go_wp2_with fail
      go_ret
      exact HPP.out
end Go.Proofs.YtjlfcbccpcigeacDoor
