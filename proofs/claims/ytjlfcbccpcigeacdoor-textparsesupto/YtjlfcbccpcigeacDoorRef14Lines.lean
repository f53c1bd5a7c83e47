/- The document's Text: a line for each array, statement and out. -/
import Derived.Test.YtjlfcbccpcigeacDoorRef14Ref
import Derived.Test.YtjlfcbccpcigeacDoorMaths
namespace Go.Proofs.YtjlfcbccpcigeacDoor
open Go.RowKit Go.Joins
set_option linter.unusedVariables false
set_option linter.unusedSimpArgs false
set_option maxRecDepth 8192

/-- a line's bytes -/
def lineB (ws : List (List Int)) : List Int := joinD 32 ws ++ [10]
def txB (ls : List (List (List Int))) : List Int := ls.flatMap lineB
def logW (n : Int) : List (List Int) := [arrayW, digitsD n]
def outWs (n : Int) : List (List Int) := [outW, digitsD n]
def tx1 (L : Lp) (i : Nat) : List Int := txB ((L.logs.take i).map logW)
def tx2 (L : Lp) (i : Nat) : List Int := txB (L.logs.map logW) ++ txB ((L.body.take i).map stW)
def tx3 (L : Lp) (i : Nat) : List Int := txB (L.logs.map logW) ++ txB (L.body.map stW) ++ txB ((L.outs.take i).map outWs)
theorem txB_snoc (ls : List (List (List Int))) (ws : List (List Int)) : txB (ls ++ [ws]) = txB ls ++ lineB ws := by unfold txB; simp
theorem take_nth {l : List Int} {i : Nat} (h : i < l.length) : l.take (i + 1) = l.take i ++ [nth l i] := by
  rw [List.take_add_one, List.getElem?_eq_getElem h]
  unfold nth
  rw [List.getD, List.getElem?_eq_getElem h]
  rfl
theorem take_st {l : List St} {i : Nat} (h : i < l.length) : l.take (i + 1) = l.take i ++ [stAt l i] := by
  rw [List.take_add_one, List.getElem?_eq_getElem h]
  unfold stAt
  rw [List.getD, List.getElem?_eq_getElem h]
  rfl
theorem tx1_next {L : Lp} {i : Nat} (h : i < L.logs.length) : tx1 L (i + 1) = tx1 L i ++ lineB (logW (nth L.logs i)) := by unfold tx1; rw [take_nth h, List.map_append]; exact txB_snoc _ _
theorem tx2_next {L : Lp} {i : Nat} (h : i < L.body.length) : tx2 L (i + 1) = tx2 L i ++ lineB (stW (stAt L.body i)) := by
  unfold tx2; rw [take_st h, List.map_append, List.append_assoc]; exact congrArg _ (txB_snoc _ _)
theorem tx3_next {L : Lp} {i : Nat} (h : i < L.outs.length) : tx3 L (i + 1) = tx3 L i ++ lineB (outWs (nth L.outs i)) := by
  unfold tx3; rw [take_nth h, List.map_append, List.append_assoc (txB (L.logs.map logW) ++ txB (L.body.map stW))]; exact congrArg _ (txB_snoc _ _)
theorem tx1_all (L : Lp) : tx1 L L.logs.length = tx2 L 0 := by unfold tx1 tx2; rw [List.take_length]; simp [txB]
theorem tx2_all (L : Lp) : tx2 L L.body.length = tx3 L 0 := by unfold tx2 tx3; rw [List.take_length]; simp [txB]
theorem tx3_all (L : Lp) : tx3 L L.outs.length = textD L := by
  unfold tx3 textD linesW
  rw [List.take_length, List.flatMap_append, List.flatMap_append]
  rfl
/-- all but N of a statement that may be is small -/
theorem st_small {m n k : Int} {s : St} (hm : m ≤ 1000) (hn : n ≤ 1000) (hk : k ≤ 1000) (h : stOk m n k s = true) : (0 ≤ s.xa ∧ s.xa ≤ 1000) ∧ (0 ≤ s.xb ∧ s.xb ≤ 1000) ∧ (0 ≤ s.ya ∧ s.ya ≤ 1000) ∧ (0 ≤ s.yb ∧ s.yb ≤ 1000) ∧ (0 ≤ s.ar ∧ s.ar ≤ 1000) ∧ (-1000 ≤ s.sp ∧ s.sp ≤ 1000) ∧ (-1000 ≤ s.pl ∧ s.pl ≤ 1000) ∧ (s.o = 1 ∨ s.o = 2 ∨ s.o = 3 ∨ s.o = 4 ∨ (11 ≤ s.o ∧ s.o ≤ 18)) := by
  unfold stOk at h
  split at h
  · have := of_decide_eq_true h; omega
  · split at h
    · have := of_decide_eq_true h; omega
    · split at h
      · rw [Bool.and_eq_true] at h
        have h1 := of_decide_eq_true h.1
        have h2 := h.2
        unfold wordOk at h2
        simp only [Bool.and_eq_true] at h2
        have a1 := inR_iff.1 h2.1.1
        have a2 := inR_iff.1 h2.1.2
        have a3 := inR_iff.1 h2.2
        omega
      · split at h
        · rw [Bool.and_eq_true, Bool.and_eq_true] at h
          have h1 := of_decide_eq_true h.1.1
          have h2 := h.1.2
          unfold wordOk at h2
          simp only [Bool.and_eq_true] at h2
          have a1 := inR_iff.1 h2.1.1
          have a2 := inR_iff.1 h2.1.2
          have a3 := inR_iff.1 h2.2
          have a4 := ref_rng hn hk h.2
          omega
        · split at h
          · rw [Bool.and_eq_true, Bool.and_eq_true] at h
            have h1 := of_decide_eq_true h.1.1
            have a4 := ref_rng hn hk h.1.2
            have a5 := ref_rng hn hk h.2
            omega
          · cases h
theorem ref_len {a b : Int} (h0 : -9223372036854775808 ≤ a) (h1 : a ≤ 9223372036854775807) (h2 : -9223372036854775808 ≤ b) (h3 : b ≤ 9223372036854775807) : (32 :: refD a b).length ≤ 43 := by
  have e1 := digits_len h0 h1
  have e2 := digits_len h2 h3
  unfold refD
  split <;> simp <;> omega
theorem op_len (o : Int) : (opD o).length ≤ 4 := by
  unfold opD
  repeat' split
  all_goals decide
/-- how long the text is at the most -/
theorem line_log_len {n : Int} (h0 : -9223372036854775808 ≤ n) (h1 : n ≤ 9223372036854775807) : (lineB (logW n)).length ≤ 200 := by
  have := digits_len h0 h1
  show (arrayW ++ 32 :: digitsD n ++ [10]).length ≤ 200
  simp [arrayW]; omega
theorem line_out_len {n : Int} (h0 : -9223372036854775808 ≤ n) (h1 : n ≤ 9223372036854775807) : (lineB (outWs n)).length ≤ 200 := by
  have := digits_len h0 h1
  show (outW ++ 32 :: digitsD n ++ [10]).length ≤ 200
  simp [outW]; omega
theorem txB_len (ls : List (List (List Int))) (h : ∀ ws ∈ ls, (lineB ws).length ≤ 200) : (txB ls).length ≤ 200 * ls.length := by
  induction ls with
  | nil => exact Nat.le_refl _
  | cons a l ih =>
    have h1 := h a (List.mem_cons_self ..)
    have h2 := ih fun ws hw => h ws (List.mem_cons_of_mem _ hw)
    show (lineB a ++ txB l).length ≤ 200 * (l.length + 1)
    rw [List.length_append]; omega
theorem line_st_len {m n k : Int} {s : St} (hm : m ≤ 1000) (hn : n ≤ 1000) (hk : k ≤ 1000) (h : stOk m n k s = true) (h0 : -9223372036854775808 ≤ s.nn) (h1 : s.nn ≤ 9223372036854775807) : (lineB (stW s)).length ≤ 200 := by
  obtain ⟨e1, e2, e3, e4, e5, e6, e7, -⟩ := st_small hm hn hk h
  have d1 := digits_len (n := s.nn) h0 h1
  have d2 := digits_len (n := s.ar) (by omega) (by omega)
  have d3 := digits_len (n := s.sp) (by omega) (by omega)
  have d4 := digits_len (n := s.pl) (by omega) (by omega)
  have d5 := ref_len (a := s.xa) (b := s.xb) (by omega) (by omega) (by omega) (by omega)
  have d6 := ref_len (a := s.ya) (b := s.yb) (by omega) (by omega) (by omega) (by omega)
  have d7 := op_len s.o
  simp only [List.length_cons] at d5 d6
  unfold lineB stW
  repeat' split
  all_goals (simp [joinD, constW, turnW, loadW, storeW]; try omega)
theorem text_len {L : Lp} (hm : mayB L = true) (hn : LoopIn L) : (∀ i, i ≤ L.logs.length → (tx1 L i).length ≤ 8000) ∧ (∀ i, i ≤ L.body.length → (tx2 L i).length ≤ 8000) ∧ (∀ i, i ≤ L.outs.length → (tx3 L i).length ≤ 8000) := by
  obtain ⟨hl3, hb1, hb16, ho16, hlogs, houts, hbody⟩ := may_parts hm
  have k1 : ∀ i, i ≤ L.logs.length → (txB ((L.logs.take i).map logW)).length ≤ 600 := fun i hi => by
    have := txB_len ((L.logs.take i).map logW) (fun ws hw => by
      obtain ⟨n, hn, rfl⟩ := List.mem_map.1 hw
      have h2 := nth_mem (l := L.logs) (p := fun n => 0 ≤ n ∧ n ≤ 1000) (fun i hi => by
        have := inR_iff.1 (show inR (nth L.logs i) 0 5 = true from allN_get hlogs i hi)
        omega) n (List.mem_of_mem_take hn)
      exact line_log_len (by omega) (by omega))
    rw [List.length_map, List.length_take] at this
    omega
  have k2 : ∀ i, i ≤ L.body.length → (txB ((L.body.take i).map stW)).length ≤ 3200 := fun i hi => by
    have := txB_len ((L.body.take i).map stW) (fun ws hw => by
      obtain ⟨s, hs, rfl⟩ := List.mem_map.1 hw
      have hs2 := List.mem_of_mem_take hs
      obtain ⟨q, hq, rfl⟩ := List.mem_iff_getElem.1 hs2
      have e3 : stAt L.body q = L.body[q] := by unfold stAt; rw [List.getD, List.getElem?_eq_getElem hq]; rfl
      have h2 := allN_get hbody q hq
      obtain ⟨n1, n2⟩ := hn q
      rw [e3] at h2 n1 n2
      exact line_st_len (by omega) (by omega) (by omega) h2 n1 n2)
    rw [List.length_map, List.length_take] at this
    omega
  have k3 : ∀ i, i ≤ L.outs.length → (txB ((L.outs.take i).map outWs)).length ≤ 3200 := fun i hi => by
    have := txB_len ((L.outs.take i).map outWs) (fun ws hw => by
      obtain ⟨n, hn, rfl⟩ := List.mem_map.1 hw
      have h2 := nth_mem (l := L.outs) (p := fun n => 0 ≤ n ∧ n ≤ 1000) (fun i hi => by
        have h2 := inR_iff.1 (show inR (nth L.outs i) (prev L.outs i + 1) ((L.body.length : Int) - 1) = true from allN_get houts i hi)
        have h3 := prev_range L.body.length L.outs i (by omega) (allN_mk fun j hj => allN_get houts j (by omega))
        omega) n (List.mem_of_mem_take hn)
      exact line_out_len (by omega) (by omega))
    rw [List.length_map, List.length_take] at this
    omega
  have l1 : txB (L.logs.map logW) = txB ((L.logs.take L.logs.length).map logW) := by rw [List.take_length]
  have l2 : txB (L.body.map stW) = txB ((L.body.take L.body.length).map stW) := by rw [List.take_length]
  refine ⟨fun i hi => ?_, fun i hi => ?_, fun i hi => ?_⟩
  · have := k1 i hi
    unfold tx1; omega
  · have := k1 _ (Nat.le_refl _)
    have := k2 i hi
    unfold tx2; rw [List.length_append, l1]; omega
  · have := k1 _ (Nat.le_refl _)
    have := k2 _ (Nat.le_refl _)
    have := k3 i hi
    unfold tx3; rw [List.length_append, List.length_append, l1, l2]; omega
end Go.Proofs.YtjlfcbccpcigeacDoor
