/- The contract of package text's stmtWords. -/
import Derived.Test.YtjlfcbccpcigeacDoorTextRefs
namespace Go.Proofs.YtjlfcbccpcigeacDoor
open Go.RowKit Go.Joins
set_option linter.unusedVariables false
set_option linter.unusedSimpArgs false
set_option maxRecDepth 8192

/-- a number of 64 bits -/
def Rg (n : Int) : Prop := -9223372036854775808 ≤ n ∧ n ≤ 9223372036854775807
/-- what stmtWords answers -/
def WordsPost (ws : List (List Int)) (w : World) (e : Ending) (w' : World) : Prop := ∃ b n cap, e = .returned (.slice (some ⟨b, 0, none⟩) n cap) ∧ n ≤ 5 ∧ n ≤ cap ∧ cap ≤ 5 ∧ w.heap.size ≤ b ∧ StrsV w' b n ws ∧ Below w.heap.size w w'
theorem strs_new (y : World) (cs : Array Value) (e : TypeId) (n : Nat) (ws : List (List Int)) (hn : ws.length = n) (h : ∀ i, i < n → cs[i]? = some (.string (strOfNums (ws.getD i [])))) : StrsV (y.alloc (.cells cs e)) y.heap.size n ws :=
  ⟨hn, by simp, fun i hi => by rw [cell_of_block (new_blkS y cs e)]; exact h i hi⟩
theorem words_new {w y : World} (hy : Below w.heap.size w y) (cs : Array Value) (e : TypeId) (n : Nat) (ws : List (List Int)) (hn : ws.length = n) (h5 : n ≤ 5) (h : ∀ i, i < n → cs[i]? = some (.string (strOfNums (ws.getD i [])))) : WordsPost ws w (.returned (.slice (some ⟨y.heap.size, 0, none⟩) n n)) (y.alloc (.cells cs e)) :=
  ⟨y.heap.size, n, n, rfl, h5, Nat.le_refl _, h5, hy.size, strs_new y cs e n ws hn h, hy.trans ((below_alloc1 y _).mono hy.size)⟩
set_option maxHeartbeats 16000000 in
theorem stmtWords_any (o xa xb ya yb ar sp pl nn : Int) (w : World) (hv : VarsP w) (hop : o = 1 ∨ o = 2 ∨ o = 3 ∨ o = 4 ∨ (11 ≤ o ∧ o ≤ 18)) (rxa : Rg xa) (rxb : Rg xb) (rya : Rg ya) (ryb : Rg yb) (rar : Rg ar) (rsp : Rg sp) (rpl : Rg pl) (rnn : Rg nn) :
    Calls Tryd.prog 19 #[.agg #[.int .i64 o, .int .i64 xa, .int .i64 xb, .int .i64 ya, .int .i64 yb, .int .i64 ar, .int .i64 sp, .int .i64 pl, .int .i64 nn]] w (WordsPost (stW ⟨o, xa, xb, ya, yb, ar, sp, pl, nn⟩) w) := by
  have HDA := hide (fun W h => written_any ar W h rar.1 rar.2)
  have HDS := hide (fun W h => written_any sp W h rsp.1 rsp.2)
  have HDP := hide (fun W h => written_any pl W h rpl.1 rpl.2)
  have HDN := hide (fun W h => format_any nn W h rnn.1 rnn.2)
  have HRX := hide (fun W h => refWritten_any xa xb W h rxa.1 rxa.2 rxb.1 rxb.2)
  have HRY := hide (fun W h => refWritten_any ya yb W h rya.1 rya.2 ryb.1 ryb.2)
  have HV := hide hv
  have HW1 : Hid (Below w.heap.size w (w.alloc (.cells #[.int .i64 o, .int .i64 xa, .int .i64 xb, .int .i64 ya, .int .i64 yb, .int .i64 ar, .int .i64 sp, .int .i64 pl, .int .i64 nn] 53))) := below_alloc1 _ _
  have HZ1 : Hid ((w.alloc (.cells #[.int .i64 o, .int .i64 xa, .int .i64 xb, .int .i64 ya, .int .i64 yb, .int .i64 ar, .int .i64 sp, .int .i64 pl, .int .i64 nn] 53)).heap.size = w.heap.size + 1) := by show _ = _; simp
  have HTO : Hid (∀ y, Below (w.heap.size + 1) (w.alloc (.cells #[.int .i64 o, .int .i64 xa, .int .i64 xb, .int .i64 ya, .int .i64 yb, .int .i64 ar, .int .i64 sp, .int .i64 pl, .int .i64 nn] 53)) y → Below w.heap.size w y ∧ w.heap.size + 1 ≤ y.heap.size) := fun y hy => ⟨HW1.out.trans (hy.mono (by omega)), by have := hy.size; rw [HZ1.out] at this; exact this⟩
  have HSC : Hid (∀ w' : World, Below (w.heap.size + 1) (w.alloc (.cells #[.int .i64 o, .int .i64 xa, .int .i64 xb, .int .i64 ya, .int .i64 yb, .int .i64 ar, .int .i64 sp, .int .i64 pl, .int .i64 nn] 53)) w' → w'.cell? ⟨w.heap.size, 0, none⟩ = some (.int .i64 o) ∧ w'.cell? ⟨w.heap.size, 1, none⟩ = some (.int .i64 xa) ∧ w'.cell? ⟨w.heap.size, 2, none⟩ = some (.int .i64 xb) ∧ w'.cell? ⟨w.heap.size, 3, none⟩ = some (.int .i64 ya) ∧ w'.cell? ⟨w.heap.size, 4, none⟩ = some (.int .i64 yb) ∧ w'.cell? ⟨w.heap.size, 5, none⟩ = some (.int .i64 ar) ∧ w'.cell? ⟨w.heap.size, 6, none⟩ = some (.int .i64 sp) ∧ w'.cell? ⟨w.heap.size, 7, none⟩ = some (.int .i64 pl) ∧ w'.cell? ⟨w.heap.size, 8, none⟩ = some (.int .i64 nn)) := fun y hy => by
    have hb := (hy.block w.heap.size (by omega)).trans (new_blkS w _ _)
    refine ⟨?_, ?_, ?_, ?_, ?_, ?_, ?_, ?_, ?_⟩ <;> (rw [cell_of_block hb]; rfl)
  have HSW : Hid (stW ⟨o, xa, xb, ya, yb, ar, sp, pl, nn⟩ = if o = 1 then [constW, digitsD nn] else if o = 2 then [turnW] else if o = 3 then [loadW, digitsD ar, digitsD sp, digitsD pl] else if o = 4 then [storeW, digitsD ar, digitsD sp, digitsD pl, refD xa xb] else [opD o, refD xa xb, refD ya yb]) := rfl
  clear hv rxa rxb rya ryb rar rsp rpl rnn
  rcases hop with rfl | rfl | rfl | rfl | ⟨o1, o2⟩
  · have hsw : stW ⟨1, xa, xb, ya, yb, ar, sp, pl, nn⟩ = [constW, digitsD nn] := rfl
    rw [hsw]
    clear hsw HSW
    obtain ⟨N, hN⟩ : ∃ N, N = strOfNums (digitsD nn) := ⟨_, rfl⟩
    rw [← hN] at HDN
    have HEN := hide hN
    clear hN
    have HP : Hid (∀ y, Below w.heap.size w y → WordsPost ([constW, digitsD nn]) w (.returned (.slice (some ⟨y.heap.size, 0, none⟩) 2 2)) (y.alloc (.cells #[.string (ByteArray.mk #[99, 111, 110, 115, 116]), .string N] 9))) := fun y hy => words_new hy _ _ 2 _ rfl (by omega) (fun i hi => match i, hi with | 0, _ => rfl | 1, _ => (by show some (Value.string N) = some (.string (strOfNums (digitsD nn))); rw [HEN.out]))
    go_enter Tryd.func19, Tryd.ntmps19
    go_wp2_with fail
    refine (HDN.out _ (HV.out.on HW1.out)).mono ?_
    rintro e y ⟨rfl, hy⟩
    have HPP := hide (HP.out _ (HW1.out.trans (hy.mono (by rw [HZ1.out]; omega))))
    clear hy
    go_wp2_with fail
    go_ret
    exact HPP.out
  · have hsw : stW ⟨2, xa, xb, ya, yb, ar, sp, pl, nn⟩ = [turnW] := rfl
    rw [hsw]
    clear hsw HSW
    have HP : Hid (∀ y, Below w.heap.size w y → WordsPost ([turnW]) w (.returned (.slice (some ⟨y.heap.size, 0, none⟩) 1 1)) (y.alloc (.cells #[.string (ByteArray.mk #[116, 117, 114, 110])] 9))) := fun y hy => words_new hy _ _ 1 _ rfl (by omega) (fun i hi => match i, hi with | 0, _ => rfl)
    have hpp := HP.out _ HW1.out
    rw [HZ1.out] at hpp
    have HPP := hide hpp
    clear hpp
    go_enter Tryd.func19, Tryd.ntmps19
    go_wp2_with fail
    go_ret
    exact HPP.out
  · have hsw : stW ⟨3, xa, xb, ya, yb, ar, sp, pl, nn⟩ = [loadW, digitsD ar, digitsD sp, digitsD pl] := rfl
    rw [hsw]
    clear hsw HSW
    have HS := hide HSC.out
    obtain ⟨A, hA⟩ : ∃ A, A = strOfNums (digitsD ar) := ⟨_, rfl⟩
    rw [← hA] at HDA
    have HEA := hide hA
    clear hA
    obtain ⟨B, hB⟩ : ∃ B, B = strOfNums (digitsD sp) := ⟨_, rfl⟩
    rw [← hB] at HDS
    have HEB := hide hB
    clear hB
    obtain ⟨C, hC⟩ : ∃ C, C = strOfNums (digitsD pl) := ⟨_, rfl⟩
    rw [← hC] at HDP
    have HEC := hide hC
    clear hC
    have HP : Hid (∀ y, Below w.heap.size w y → WordsPost ([loadW, digitsD ar, digitsD sp, digitsD pl]) w (.returned (.slice (some ⟨y.heap.size, 0, none⟩) 4 4)) (y.alloc (.cells #[.string (ByteArray.mk #[108, 111, 97, 100]), .string A, .string B, .string C] 9))) := fun y hy => words_new hy _ _ 4 _ rfl (by omega) (fun i hi => match i, hi with | 0, _ => rfl | 1, _ => (by show some (Value.string A) = some (.string (strOfNums (digitsD ar))); rw [HEA.out]) | 2, _ => (by show some (Value.string B) = some (.string (strOfNums (digitsD sp))); rw [HEB.out]) | 3, _ => (by show some (Value.string C) = some (.string (strOfNums (digitsD pl))); rw [HEC.out]))
    go_enter Tryd.func19, Tryd.ntmps19
    go_wp2_with fail
    refine wp_region_noPanic ?_
    refine region_until 99 (fun w' => w'.cell? ⟨w.heap.size, 0, none⟩ = some (.int .i64 3) ∧ w'.cell? ⟨w.heap.size, 1, none⟩ = some (.int .i64 xa) ∧ w'.cell? ⟨w.heap.size, 2, none⟩ = some (.int .i64 xb) ∧ w'.cell? ⟨w.heap.size, 3, none⟩ = some (.int .i64 ya) ∧ w'.cell? ⟨w.heap.size, 4, none⟩ = some (.int .i64 yb) ∧ w'.cell? ⟨w.heap.size, 5, none⟩ = some (.int .i64 ar) ∧ w'.cell? ⟨w.heap.size, 6, none⟩ = some (.int .i64 sp) ∧ w'.cell? ⟨w.heap.size, 7, none⟩ = some (.int .i64 pl) ∧ w'.cell? ⟨w.heap.size, 8, none⟩ = some (.int .i64 nn)) (by kernel_rfl) (HS.out _ (below_dr1 _ _)) (fun hHeld => ?_)
    refine utk (i := 0) rfl hHeld ?_
    try simp only [Act.put, List.setIfInBounds_toArray, List.set_cons_zero, List.set_cons_succ]
    refine utk (i := 1) rfl hHeld ?_
    try simp only [Act.put, List.setIfInBounds_toArray, List.set_cons_zero, List.set_cons_succ]
    refine utk (i := 3) rfl hHeld ?_
    try simp only [Act.put, List.setIfInBounds_toArray, List.set_cons_zero, List.set_cons_succ]
    refine utk (i := 4) rfl hHeld ?_
    try simp only [Act.put, List.setIfInBounds_toArray, List.set_cons_zero, List.set_cons_succ]
    refine utk (i := 6) rfl hHeld ?_
    try simp only [Act.put, List.setIfInBounds_toArray, List.set_cons_zero, List.set_cons_succ]
    refine utk (i := 7) rfl hHeld ?_
    try simp only [Act.put, List.setIfInBounds_toArray, List.set_cons_zero, List.set_cons_succ]
    refine until_one (i := 2) rfl (by kernel_rfl) (fun K hK => ?_)
    go_simp
    refine (HDA.out _ (HV.out.on (HTO.out _ (below_dr1 _ _)).1)).mono ?_
    rintro e y0 ⟨rfl, hy⟩
    have HB0 : Hid (Below (w.heap.size + 1) (w.alloc (.cells #[.int .i64 3, .int .i64 xa, .int .i64 xb, .int .i64 ya, .int .i64 yb, .int .i64 ar, .int .i64 sp, .int .i64 pl, .int .i64 nn] 53)) y0) := Below.trans (below_dr1 _ _) (hy.mono (HTO.out _ (below_dr1 _ _)).2)
    clear hy
    have hHeld := HS.out _ HB0.out
    refine hK.out _ _ (.inr hHeld) ?_
    clear hK K
    try simp only [Act.put, List.setIfInBounds_toArray, List.set_cons_zero, List.set_cons_succ]
    refine until_one (i := 5) rfl (by kernel_rfl) (fun K hK => ?_)
    go_simp
    refine (HDS.out _ (HV.out.on (HTO.out _ HB0.out).1)).mono ?_
    rintro e y1 ⟨rfl, hy⟩
    have HB1 : Hid (Below (w.heap.size + 1) (w.alloc (.cells #[.int .i64 3, .int .i64 xa, .int .i64 xb, .int .i64 ya, .int .i64 yb, .int .i64 ar, .int .i64 sp, .int .i64 pl, .int .i64 nn] 53)) y1) := Below.trans HB0.out (hy.mono (HTO.out _ HB0.out).2)
    clear hy
    have hHeld := HS.out _ HB1.out
    refine hK.out _ _ (.inr hHeld) ?_
    clear hK K
    try simp only [Act.put, List.setIfInBounds_toArray, List.set_cons_zero, List.set_cons_succ]
    refine until_one (i := 8) rfl (by kernel_rfl) (fun K hK => ?_)
    go_simp
    refine (HDP.out _ (HV.out.on (HTO.out _ HB1.out).1)).mono ?_
    rintro e y2 ⟨rfl, hy⟩
    have HB2 : Hid (Below (w.heap.size + 1) (w.alloc (.cells #[.int .i64 3, .int .i64 xa, .int .i64 xb, .int .i64 ya, .int .i64 yb, .int .i64 ar, .int .i64 sp, .int .i64 pl, .int .i64 nn] 53)) y2) := Below.trans HB1.out (hy.mono (HTO.out _ HB1.out).2)
    clear hy
    have hHeld := HS.out _ HB2.out
    refine hK.out _ _ (.inr hHeld) ?_
    clear hK K
    try simp only [Act.put, List.setIfInBounds_toArray, List.set_cons_zero, List.set_cons_succ]
    refine until_one (i := 9) rfl (by kernel_rfl) (fun K hK => ?_)
    go_simp
    refine hK.out _ _ (.inr (by exact HS.out _ (HB2.out.alloc (HTO.out _ HB2.out).2 _))) ?_
    clear hK K
    try simp only [Act.put, List.setIfInBounds_toArray, List.set_cons_zero, List.set_cons_succ]
    refine until_one (i := 10) rfl (by kernel_rfl) (fun K hK => ?_)
    go_simp
    refine hK.out _ _ (.inr (by exact HS.out _ (HB2.out.alloc (HTO.out _ HB2.out).2 _))) ?_
    clear hK K
    try simp only [Act.put, List.setIfInBounds_toArray, List.set_cons_zero, List.set_cons_succ]
    refine until_done (by kernel_rfl) ?_ _
    refine NoPanic.normal ?_
    have HPP := hide (HP.out _ (HTO.out _ HB2.out).1)
    clear hHeld
    go_wp2_with fail
    go_ret
    exact HPP.out
  · have hsw : stW ⟨4, xa, xb, ya, yb, ar, sp, pl, nn⟩ = [storeW, digitsD ar, digitsD sp, digitsD pl, refD xa xb] := rfl
    rw [hsw]
    clear hsw HSW
    have HS := hide HSC.out
    obtain ⟨A, hA⟩ : ∃ A, A = strOfNums (digitsD ar) := ⟨_, rfl⟩
    rw [← hA] at HDA
    have HEA := hide hA
    clear hA
    obtain ⟨B, hB⟩ : ∃ B, B = strOfNums (digitsD sp) := ⟨_, rfl⟩
    rw [← hB] at HDS
    have HEB := hide hB
    clear hB
    obtain ⟨C, hC⟩ : ∃ C, C = strOfNums (digitsD pl) := ⟨_, rfl⟩
    rw [← hC] at HDP
    have HEC := hide hC
    clear hC
    obtain ⟨U, hU⟩ : ∃ U, U = strOfNums (refD xa xb) := ⟨_, rfl⟩
    rw [← hU] at HRX
    have HEU := hide hU
    clear hU
    have HP : Hid (∀ y, Below w.heap.size w y → WordsPost ([storeW, digitsD ar, digitsD sp, digitsD pl, refD xa xb]) w (.returned (.slice (some ⟨y.heap.size, 0, none⟩) 5 5)) (y.alloc (.cells #[.string (ByteArray.mk #[115, 116, 111, 114, 101]), .string A, .string B, .string C, .string U] 9))) := fun y hy => words_new hy _ _ 5 _ rfl (by omega) (fun i hi => match i, hi with | 0, _ => rfl | 1, _ => (by show some (Value.string A) = some (.string (strOfNums (digitsD ar))); rw [HEA.out]) | 2, _ => (by show some (Value.string B) = some (.string (strOfNums (digitsD sp))); rw [HEB.out]) | 3, _ => (by show some (Value.string C) = some (.string (strOfNums (digitsD pl))); rw [HEC.out]) | 4, _ => (by show some (Value.string U) = some (.string (strOfNums (refD xa xb))); rw [HEU.out]))
    go_enter Tryd.func19, Tryd.ntmps19
    go_wp2_with fail
    refine wp_region_noPanic ?_
    refine region_until 99 (fun w' => w'.cell? ⟨w.heap.size, 0, none⟩ = some (.int .i64 4) ∧ w'.cell? ⟨w.heap.size, 1, none⟩ = some (.int .i64 xa) ∧ w'.cell? ⟨w.heap.size, 2, none⟩ = some (.int .i64 xb) ∧ w'.cell? ⟨w.heap.size, 3, none⟩ = some (.int .i64 ya) ∧ w'.cell? ⟨w.heap.size, 4, none⟩ = some (.int .i64 yb) ∧ w'.cell? ⟨w.heap.size, 5, none⟩ = some (.int .i64 ar) ∧ w'.cell? ⟨w.heap.size, 6, none⟩ = some (.int .i64 sp) ∧ w'.cell? ⟨w.heap.size, 7, none⟩ = some (.int .i64 pl) ∧ w'.cell? ⟨w.heap.size, 8, none⟩ = some (.int .i64 nn)) (by kernel_rfl) (HS.out _ (below_dr1 _ _)) (fun hHeld => ?_)
    refine utk (i := 0) rfl hHeld ?_
    try simp only [Act.put, List.setIfInBounds_toArray, List.set_cons_zero, List.set_cons_succ]
    refine utk (i := 1) rfl hHeld ?_
    try simp only [Act.put, List.setIfInBounds_toArray, List.set_cons_zero, List.set_cons_succ]
    refine utk (i := 3) rfl hHeld ?_
    try simp only [Act.put, List.setIfInBounds_toArray, List.set_cons_zero, List.set_cons_succ]
    refine utk (i := 4) rfl hHeld ?_
    try simp only [Act.put, List.setIfInBounds_toArray, List.set_cons_zero, List.set_cons_succ]
    refine utk (i := 6) rfl hHeld ?_
    try simp only [Act.put, List.setIfInBounds_toArray, List.set_cons_zero, List.set_cons_succ]
    refine utk (i := 7) rfl hHeld ?_
    try simp only [Act.put, List.setIfInBounds_toArray, List.set_cons_zero, List.set_cons_succ]
    refine utk (i := 9) rfl hHeld ?_
    try simp only [Act.put, List.setIfInBounds_toArray, List.set_cons_zero, List.set_cons_succ]
    refine utk (i := 10) rfl hHeld ?_
    try simp only [Act.put, List.setIfInBounds_toArray, List.set_cons_zero, List.set_cons_succ]
    refine until_one (i := 2) rfl (by kernel_rfl) (fun K hK => ?_)
    go_simp
    refine (HDA.out _ (HV.out.on (HTO.out _ (below_dr1 _ _)).1)).mono ?_
    rintro e y0 ⟨rfl, hy⟩
    have HB0 : Hid (Below (w.heap.size + 1) (w.alloc (.cells #[.int .i64 4, .int .i64 xa, .int .i64 xb, .int .i64 ya, .int .i64 yb, .int .i64 ar, .int .i64 sp, .int .i64 pl, .int .i64 nn] 53)) y0) := Below.trans (below_dr1 _ _) (hy.mono (HTO.out _ (below_dr1 _ _)).2)
    clear hy
    have hHeld := HS.out _ HB0.out
    refine hK.out _ _ (.inr hHeld) ?_
    clear hK K
    try simp only [Act.put, List.setIfInBounds_toArray, List.set_cons_zero, List.set_cons_succ]
    refine until_one (i := 5) rfl (by kernel_rfl) (fun K hK => ?_)
    go_simp
    refine (HDS.out _ (HV.out.on (HTO.out _ HB0.out).1)).mono ?_
    rintro e y1 ⟨rfl, hy⟩
    have HB1 : Hid (Below (w.heap.size + 1) (w.alloc (.cells #[.int .i64 4, .int .i64 xa, .int .i64 xb, .int .i64 ya, .int .i64 yb, .int .i64 ar, .int .i64 sp, .int .i64 pl, .int .i64 nn] 53)) y1) := Below.trans HB0.out (hy.mono (HTO.out _ HB0.out).2)
    clear hy
    have hHeld := HS.out _ HB1.out
    refine hK.out _ _ (.inr hHeld) ?_
    clear hK K
    try simp only [Act.put, List.setIfInBounds_toArray, List.set_cons_zero, List.set_cons_succ]
    refine until_one (i := 8) rfl (by kernel_rfl) (fun K hK => ?_)
    go_simp
    refine (HDP.out _ (HV.out.on (HTO.out _ HB1.out).1)).mono ?_
    rintro e y2 ⟨rfl, hy⟩
    have HB2 : Hid (Below (w.heap.size + 1) (w.alloc (.cells #[.int .i64 4, .int .i64 xa, .int .i64 xb, .int .i64 ya, .int .i64 yb, .int .i64 ar, .int .i64 sp, .int .i64 pl, .int .i64 nn] 53)) y2) := Below.trans HB1.out (hy.mono (HTO.out _ HB1.out).2)
    clear hy
    have hHeld := HS.out _ HB2.out
    refine hK.out _ _ (.inr hHeld) ?_
    clear hK K
    try simp only [Act.put, List.setIfInBounds_toArray, List.set_cons_zero, List.set_cons_succ]
    refine until_one (i := 11) rfl (by kernel_rfl) (fun K hK => ?_)
    go_simp
    refine (HRX.out _ (HV.out.on (HTO.out _ HB2.out).1)).mono ?_
    rintro e y3 ⟨rfl, hy⟩
    have HB3 : Hid (Below (w.heap.size + 1) (w.alloc (.cells #[.int .i64 4, .int .i64 xa, .int .i64 xb, .int .i64 ya, .int .i64 yb, .int .i64 ar, .int .i64 sp, .int .i64 pl, .int .i64 nn] 53)) y3) := Below.trans HB2.out (hy.mono (HTO.out _ HB2.out).2)
    clear hy
    have hHeld := HS.out _ HB3.out
    refine hK.out _ _ (.inr hHeld) ?_
    clear hK K
    try simp only [Act.put, List.setIfInBounds_toArray, List.set_cons_zero, List.set_cons_succ]
    refine until_one (i := 12) rfl (by kernel_rfl) (fun K hK => ?_)
    go_simp
    refine hK.out _ _ (.inr (by exact HS.out _ (HB3.out.alloc (HTO.out _ HB3.out).2 _))) ?_
    clear hK K
    try simp only [Act.put, List.setIfInBounds_toArray, List.set_cons_zero, List.set_cons_succ]
    refine until_one (i := 13) rfl (by kernel_rfl) (fun K hK => ?_)
    go_simp
    refine hK.out _ _ (.inr (by exact HS.out _ (HB3.out.alloc (HTO.out _ HB3.out).2 _))) ?_
    clear hK K
    try simp only [Act.put, List.setIfInBounds_toArray, List.set_cons_zero, List.set_cons_succ]
    refine until_done (by kernel_rfl) ?_ _
    refine NoPanic.normal ?_
    have HPP := hide (HP.out _ (HTO.out _ HB3.out).1)
    clear hHeld
    go_wp2_with fail
    go_ret
    exact HPP.out
  · obtain ⟨h1, h2, h3, h4, b1, b2, b3, b4, oi, oq, ho, ho8, ho8', hq1, hq2, hq3, hq4, hq5, hq6⟩ := op_facts o1 o2
    have hsw : stW ⟨o, xa, xb, ya, yb, ar, sp, pl, nn⟩ = [opD o, refD xa xb, refD ya yb] := by rw [HSW.out, if_neg h1, if_neg h2, if_neg h3, if_neg h4]
    rw [hsw]
    clear hsw HSW
    obtain ⟨O, hO⟩ : ∃ O, O = strOfNums (opD o) := ⟨_, rfl⟩
    have HEO := hide hO
    have HS : Hid (∀ w' : World, Below (w.heap.size + 1) (w.alloc (.cells #[.int .i64 o, .int .i64 xa, .int .i64 xb, .int .i64 ya, .int .i64 yb, .int .i64 ar, .int .i64 sp, .int .i64 pl, .int .i64 nn] 53)) w' → w'.cell? ⟨w.heap.size, 0, none⟩ = some (.int .i64 o) ∧ w'.cell? ⟨w.heap.size, 1, none⟩ = some (.int .i64 xa) ∧ w'.cell? ⟨w.heap.size, 2, none⟩ = some (.int .i64 xb) ∧ w'.cell? ⟨w.heap.size, 3, none⟩ = some (.int .i64 ya) ∧ w'.cell? ⟨w.heap.size, 4, none⟩ = some (.int .i64 yb) ∧ w'.cell? ⟨w.heap.size, 5, none⟩ = some (.int .i64 ar) ∧ w'.cell? ⟨w.heap.size, 6, none⟩ = some (.int .i64 sp) ∧ w'.cell? ⟨w.heap.size, 7, none⟩ = some (.int .i64 pl) ∧ w'.cell? ⟨w.heap.size, 8, none⟩ = some (.int .i64 nn) ∧ w'.cell? ⟨0, oi, none⟩ = some (.string O)) := fun y hy => by
      obtain ⟨c0, c1, c2, c3, c4, c5, c6, c7, c8⟩ := HSC.out y hy
      exact ⟨c0, c1, c2, c3, c4, c5, c6, c7, c8, by rw [(HV.out.on (HTO.out _ hy).1).ops oi ho8, ← ho, ← HEO.out]⟩
    clear hO
    obtain ⟨U, hU⟩ : ∃ U, U = strOfNums (refD xa xb) := ⟨_, rfl⟩
    rw [← hU] at HRX
    have HEU := hide hU
    clear hU
    obtain ⟨V, hV⟩ : ∃ V, V = strOfNums (refD ya yb) := ⟨_, rfl⟩
    rw [← hV] at HRY
    have HEV := hide hV
    clear hV
    have HP : Hid (∀ y, Below w.heap.size w y → WordsPost ([opD o, refD xa xb, refD ya yb]) w (.returned (.slice (some ⟨y.heap.size, 0, none⟩) 3 3)) (y.alloc (.cells #[.string O, .string U, .string V] 9))) := fun y hy => words_new hy _ _ 3 _ rfl (by omega) (fun i hi => match i, hi with | 0, _ => (by show some (Value.string O) = some (.string (strOfNums (opD o))); rw [HEO.out]) | 1, _ => (by show some (Value.string U) = some (.string (strOfNums (refD xa xb))); rw [HEU.out]) | 2, _ => (by show some (Value.string V) = some (.string (strOfNums (refD ya yb))); rw [HEV.out]))
    clear ho
    go_enter Tryd.func19, Tryd.ntmps19
    go_wp2_with fail
    refine wp_region_noPanic ?_
    refine region_until 99 (fun w' => w'.cell? ⟨w.heap.size, 0, none⟩ = some (.int .i64 o) ∧ w'.cell? ⟨w.heap.size, 1, none⟩ = some (.int .i64 xa) ∧ w'.cell? ⟨w.heap.size, 2, none⟩ = some (.int .i64 xb) ∧ w'.cell? ⟨w.heap.size, 3, none⟩ = some (.int .i64 ya) ∧ w'.cell? ⟨w.heap.size, 4, none⟩ = some (.int .i64 yb) ∧ w'.cell? ⟨w.heap.size, 5, none⟩ = some (.int .i64 ar) ∧ w'.cell? ⟨w.heap.size, 6, none⟩ = some (.int .i64 sp) ∧ w'.cell? ⟨w.heap.size, 7, none⟩ = some (.int .i64 pl) ∧ w'.cell? ⟨w.heap.size, 8, none⟩ = some (.int .i64 nn) ∧ w'.cell? ⟨0, oi, none⟩ = some (.string O)) (by kernel_rfl) (HS.out _ (below_dr1 _ _)) (fun hHeld => ?_)
    refine utk (i := 0) rfl hHeld ?_
    try simp only [Act.put, List.setIfInBounds_toArray, List.set_cons_zero, List.set_cons_succ]
    refine utk (i := 1) rfl hHeld ?_
    try simp only [Act.put, List.setIfInBounds_toArray, List.set_cons_zero, List.set_cons_succ]
    refine utk (i := 2) rfl hHeld ?_
    try simp only [Act.put, List.setIfInBounds_toArray, List.set_cons_zero, List.set_cons_succ]
    refine utk (i := 3) rfl hHeld ?_
    try simp only [Act.put, List.setIfInBounds_toArray, List.set_cons_zero, List.set_cons_succ]
    refine utk (i := 4) rfl hHeld ?_
    try simp only [Act.put, List.setIfInBounds_toArray, List.set_cons_zero, List.set_cons_succ]
    refine utk (i := 5) rfl hHeld ?_
    try simp only [Act.put, List.setIfInBounds_toArray, List.set_cons_zero, List.set_cons_succ]
    refine utk (i := 6) rfl hHeld ?_
    try simp only [Act.put, List.setIfInBounds_toArray, List.set_cons_zero, List.set_cons_succ]
    refine utk (i := 7) rfl hHeld ?_
    try simp only [Act.put, List.setIfInBounds_toArray, List.set_cons_zero, List.set_cons_succ]
    refine utk (i := 9) rfl hHeld ?_
    try simp only [Act.put, List.setIfInBounds_toArray, List.set_cons_zero, List.set_cons_succ]
    refine utk (i := 10) rfl hHeld ?_
    try simp only [Act.put, List.setIfInBounds_toArray, List.set_cons_zero, List.set_cons_succ]
    refine until_one (i := 8) rfl (by kernel_rfl) (fun K hK => ?_)
    go_simp
    refine (HRX.out _ (HV.out.on (HTO.out _ (below_dr1 _ _)).1)).mono ?_
    rintro e y0 ⟨rfl, hy⟩
    have HB0 : Hid (Below (w.heap.size + 1) (w.alloc (.cells #[.int .i64 o, .int .i64 xa, .int .i64 xb, .int .i64 ya, .int .i64 yb, .int .i64 ar, .int .i64 sp, .int .i64 pl, .int .i64 nn] 53)) y0) := Below.trans (below_dr1 _ _) (hy.mono (HTO.out _ (below_dr1 _ _)).2)
    clear hy
    have hHeld := HS.out _ HB0.out
    refine hK.out _ _ (.inr hHeld) ?_
    clear hK K
    try simp only [Act.put, List.setIfInBounds_toArray, List.set_cons_zero, List.set_cons_succ]
    refine until_one (i := 11) rfl (by kernel_rfl) (fun K hK => ?_)
    go_simp
    refine (HRY.out _ (HV.out.on (HTO.out _ HB0.out).1)).mono ?_
    rintro e y1 ⟨rfl, hy⟩
    have HB1 : Hid (Below (w.heap.size + 1) (w.alloc (.cells #[.int .i64 o, .int .i64 xa, .int .i64 xb, .int .i64 ya, .int .i64 yb, .int .i64 ar, .int .i64 sp, .int .i64 pl, .int .i64 nn] 53)) y1) := Below.trans HB0.out (hy.mono (HTO.out _ HB0.out).2)
    clear hy
    have hHeld := HS.out _ HB1.out
    refine hK.out _ _ (.inr hHeld) ?_
    clear hK K
    try simp only [Act.put, List.setIfInBounds_toArray, List.set_cons_zero, List.set_cons_succ]
    refine until_one (i := 12) rfl (by kernel_rfl) (fun K hK => ?_)
    go_simp
    refine hK.out _ _ (.inr (by exact HS.out _ (HB1.out.alloc (HTO.out _ HB1.out).2 _))) ?_
    clear hK K
    try simp only [Act.put, List.setIfInBounds_toArray, List.set_cons_zero, List.set_cons_succ]
    refine until_one (i := 13) rfl (by kernel_rfl) (fun K hK => ?_)
    go_simp
    refine hK.out _ _ (.inr (by exact HS.out _ (HB1.out.alloc (HTO.out _ HB1.out).2 _))) ?_
    clear hK K
    try simp only [Act.put, List.setIfInBounds_toArray, List.set_cons_zero, List.set_cons_succ]
    refine until_done (by kernel_rfl) ?_ _
    refine NoPanic.normal ?_
    have HPP := hide (HP.out _ (HTO.out _ HB1.out).1)
    clear hHeld
    go_wp2_with fail
    go_ret
    exact HPP.out
end Go.Proofs.YtjlfcbccpcigeacDoor
