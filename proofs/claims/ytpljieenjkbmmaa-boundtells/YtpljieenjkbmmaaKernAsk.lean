/- The program's way of asking whether a kernel may be is the document's: Op by Op, all statements at once, units counted as they come; no Go in sight. -/
import Derived.Test.YtpljieenjkbmmaaKernMath
namespace Go.Proofs.Ytpljieenjkbmmaa
set_option linter.unusedVariables false

/-- how many registers an Op looks at, by the program -/
def looksK (op : Int) : Int := if op = 4 then 1 else if inR op 11 18 = true then 2 else 0
theorem looks_three (op : Int) : (op = 4 ∧ looksK op = 1) ∨ (op ≠ 4 ∧ inR op 11 18 = true ∧ looksK op = 2) ∨ (op ≠ 4 ∧ inR op 11 18 = false ∧ looksK op = 0) := by
  unfold looksK
  by_cases h : op = 4
  · exact .inl ⟨h, if_pos h⟩
  · rw [if_neg h]
    cases h2 : inR op 11 18 with
    | true => exact .inr (.inl ⟨h, rfl, rfl⟩)
    | false => exact .inr (.inr ⟨h, rfl, rfl⟩)
/-- the registers may be, by the program -/
def regsP (r : Int) (x : Kop) : Bool := inR x.d 0 (r - 1) && inR x.a 0 (if 0 < looksK x.o then r - 1 else 0) && inR x.b 0 (if 1 < looksK x.o then r - 1 else 0)
/-- an Op without its time and its registers -/
def stK (x : Kop) : St := ⟨x.o, 0, if 0 < looksK x.o then 1 else 0, 0, if 1 < looksK x.o then 1 else 0, x.ar, x.sp, x.pl, x.nn⟩
def bodyK (l : List Kop) : List St := l.map stK
/-- the first Ops, up to number i, that use a unit as Op i does -/
def soFar (l : List Kop) (i : Nat) : Nat := cnt (sameK l i) (i + 1)
def unitsP (t : Tg) (l : List Kop) : Bool := allN (fun i => decide ((soFar l i : Int) ≤ unitsT t (clsv (opAt l i).o))) l.length
def mayP (t : Tg) (K : Kn) (logs : List Int) : Bool :=
  decide (K.ops.length ≤ 16) && mayT t && inR K.pc 1 200 && inR K.st 1 1001 && allN (fun i => timeOk K.pc K.st (opAt K.ops i) && regsP t.r (opAt K.ops i)) K.ops.length && mayB ⟨logs, bodyK K.ops, []⟩ && unitsP t K.ops

theorem bodyK_len (l : List Kop) : (bodyK l).length = l.length := by unfold bodyK; simp
theorem bodyK_at (l : List Kop) (i : Nat) (h : i < l.length) : stAt (bodyK l) i = stK (opAt l i) := by
  unfold bodyK stAt opAt
  simp [List.getD, h]
theorem cnt_mono (p : Nat → Bool) {m n : Nat} (h : m ≤ n) : cnt p m ≤ cnt p n := by
  induction n with
  | zero => obtain rfl : m = 0 := by omega
            exact Nat.le_refl _
  | succ n ih =>
    by_cases e : m = n + 1
    · subst e; exact Nat.le_refl _
    · have := ih (by omega)
      show cnt p m ≤ cnt p n + (if p n = true then 1 else 0)
      omega
theorem cnt_congr {p q : Nat → Bool} {n : Nat} (h : ∀ i, i < n → p i = q i) : cnt p n = cnt q n := by
  induction n with
  | zero => rfl
  | succ n ih =>
    show cnt p n + (if p n = true then 1 else 0) = cnt q n + (if q n = true then 1 else 0)
    rw [ih fun i hi => h i (by omega), h n (by omega)]
/-- either none is counted, or the last that is counted has counted all -/
theorem cnt_last (p : Nat → Bool) (n : Nat) : cnt p n = 0 ∨ ∃ j, j < n ∧ p j = true ∧ cnt p n = cnt p (j + 1) := by
  induction n with
  | zero => exact .inl rfl
  | succ n ih =>
    cases hp : p n with
    | true => exact .inr ⟨n, by omega, hp, rfl⟩
    | false =>
      have e : cnt p (n + 1) = cnt p n := by show cnt p n + (if p n = true then 1 else 0) = _; rw [hp]; rfl
      rw [e]
      rcases ih with h | ⟨j, h1, h2, h3⟩
      · exact .inl h
      · exact .inr ⟨j, by omega, h2, h3⟩
theorem same_turn {l : List Kop} {i j : Nat} (h : sameK l i j = true) : sameK l j = sameK l i := by
  unfold sameK at h
  simp only [Bool.and_eq_true, decide_eq_true_eq] at h
  funext a
  unfold sameK
  rw [h.1, h.2]
theorem units_ge {t : Tg} {c : Int} (h : mayT t = true) : 1 ≤ unitsT t c := by
  obtain ⟨h1, h2, h3, -, -⟩ := mayT_parts h
  have h1 := unit_iff h1
  have h2 := unit_iff h2
  have h3 := unit_iff h3
  unfold unitsT
  split
  · omega
  · split <;> omega
/-- units, counted as they come, against all at once -/
theorem units_eq {t : Tg} {l : List Kop} (ht : mayT t = true) : unitsP t l = allN (fun i => decide ((manyK l i : Int) ≤ unitsT t (clsv (opAt l i).o))) l.length := by
  rw [Bool.eq_iff_iff]
  constructor
  · intro h
    refine allN_mk fun i hi => decide_eq_true ?_
    unfold manyK
    rcases cnt_last (sameK l i) l.length with h0 | ⟨j, h1, h2, h3⟩
    · rw [h0]; have := units_ge (c := clsv (opAt l i).o) ht; omega
    · have h4 := of_decide_eq_true (allN_get h j h1)
      unfold soFar at h4
      rw [same_turn h2, ← h3] at h4
      have h5 : clsv (opAt l j).o = clsv (opAt l i).o := by
        unfold sameK at h2
        simp only [Bool.and_eq_true, decide_eq_true_eq] at h2
        exact h2.2
      rw [h5] at h4
      exact h4
  · intro h
    refine allN_mk fun i hi => decide_eq_true ?_
    have h4 := of_decide_eq_true (allN_get h i hi)
    have h5 : soFar l i ≤ manyK l i := cnt_mono _ (by omega)
    omega
/-- a statement of the program's asking, and the document's -/
theorem st_same (m n k : Int) (x : Kop) (hn : 1 ≤ n) : stOk m n k (stK x) = stOk m 2 1 ⟨x.o, 0, 0, 0, 0, x.ar, x.sp, x.pl, x.nn⟩ := by
  have hr1 : refOk n k 0 1 = true := by unfold refOk; rw [inR_yes (by omega), if_neg (by omega), inR_yes (by omega)]; rfl
  have hr2 : refOk 2 1 0 0 = true := by decide
  have hl1 : x.o = 1 → looksK x.o = 0 := fun h => by rw [h]; decide
  have hl2 : x.o = 2 → looksK x.o = 0 := fun h => by rw [h]; decide
  have hl3 : x.o = 3 → looksK x.o = 0 := fun h => by rw [h]; decide
  have hl4 : x.o = 4 → looksK x.o = 1 := fun h => by rw [h]; decide
  unfold stOk stK
  dsimp only
  by_cases h1 : x.o = 1
  · rw [if_pos h1, if_pos h1, hl1 h1]; simp
  rw [if_neg h1, if_neg h1]
  by_cases h2 : x.o = 2
  · rw [if_pos h2, if_pos h2, hl2 h2]; simp
  rw [if_neg h2, if_neg h2]
  by_cases h3 : x.o = 3
  · rw [if_pos h3, if_pos h3, hl3 h3]; simp
  rw [if_neg h3, if_neg h3]
  by_cases h4 : x.o = 4
  · rw [if_pos h4, if_pos h4, hl4 h4]
    rw [if_pos (show (0 : Int) < 1 by omega), if_neg (show ¬ (1 : Int) < 1 by omega), hr1, hr2]
  rw [if_neg h4, if_neg h4]
  by_cases h5 : 11 ≤ x.o ∧ x.o ≤ 18
  · have hl5 : looksK x.o = 2 := by unfold looksK; rw [if_neg h4, if_pos (inR_yes h5)]
    rw [if_pos h5, if_pos h5, hl5, if_pos (show (0 : Int) < 2 by omega), if_pos (show (1 : Int) < 2 by omega), hr1, hr2]
  rw [if_neg h5, if_neg h5]
/-- an Op whose statement may be: the registers are asked alike -/
theorem regs_same {r m n k : Int} {x : Kop} (hr : 1 ≤ r) (h : stOk m 2 1 ⟨x.o, 0, 0, 0, 0, x.ar, x.sp, x.pl, x.nn⟩ = true) : regsP r x = regsOk r x := by
  have hl : looksK x.o = usesK x.o := by
    by_cases h4 : x.o = 4
    · unfold looksK usesK; rw [if_pos h4, if_pos h4]
    by_cases h5 : 11 ≤ x.o ∧ x.o ≤ 18
    · unfold looksK usesK; rw [if_neg h4, if_pos (inR_yes h5), if_neg h4, if_pos (by omega)]
    · have h6 : x.o = 1 ∨ x.o = 2 ∨ x.o = 3 := by
        by_cases h1 : x.o = 1
        · exact .inl h1
        by_cases h2 : x.o = 2
        · exact .inr (.inl h2)
        by_cases h3 : x.o = 3
        · exact .inr (.inr h3)
        exfalso
        unfold stOk at h
        dsimp only at h
        rw [if_neg h1, if_neg h2, if_neg h3, if_neg h4, if_neg h5] at h
        exact Bool.noConfusion h
      unfold looksK usesK
      rw [if_neg h4, inR_no h5, if_neg (by decide), if_neg h4, if_neg (by omega)]
  unfold regsP regsOk
  rw [hl]
  have hu : usesK x.o = 0 ∨ usesK x.o = 1 ∨ usesK x.o = 2 := by
    unfold usesK; split
    · exact .inr (.inl rfl)
    · split
      · exact .inr (.inr rfl)
      · exact .inl rfl
  rw [Bool.eq_iff_iff]
  simp only [Bool.and_eq_true, Bool.or_eq_true, decide_eq_true_eq, inR_iff]
  rcases hu with hu | hu | hu <;> rw [hu]
  · rw [if_neg (by omega), if_neg (by omega)]; omega
  · rw [if_pos (by omega), if_neg (by omega)]; omega
  · rw [if_pos (by omega), if_pos (by omega)]; omega
theorem mayB_loopK (logs : List Int) (x : Kop) : mayB (loopK logs x) = (decide (logs.length ≤ 3) && logsOk logs && stOk logs.length 2 1 ⟨x.o, 0, 0, 0, 0, x.ar, x.sp, x.pl, x.nn⟩) := by
  have h0 : stOk logs.length 2 0 ⟨2, 0, 0, 0, 0, 0, 0, 0, 0⟩ = true := by unfold stOk; simp
  have hb : bodyOk (loopK logs x) = stOk logs.length 2 1 ⟨x.o, 0, 0, 0, 0, x.ar, x.sp, x.pl, x.nn⟩ := by
    show ((true && stOk logs.length 2 0 ⟨2, 0, 0, 0, 0, 0, 0, 0, 0⟩) && stOk logs.length 2 1 ⟨x.o, 0, 0, 0, 0, x.ar, x.sp, x.pl, x.nn⟩) = _
    rw [h0]; rfl
  unfold mayB
  rw [hb]
  show (decide (logs.length ≤ 3) && decide (1 ≤ 2) && decide (2 ≤ 16) && logsOk logs && true && _) = _
  simp
theorem mayB_bodyK (logs : List Int) (l : List Kop) (h1 : 1 ≤ l.length) (h2 : l.length ≤ 16) : mayB ⟨logs, bodyK l, []⟩ = (decide (logs.length ≤ 3) && logsOk logs && allN (fun i => stOk logs.length 2 1 ⟨(opAt l i).o, 0, 0, 0, 0, (opAt l i).ar, (opAt l i).sp, (opAt l i).pl, (opAt l i).nn⟩) l.length) := by
  have hb : bodyOk ⟨logs, bodyK l, []⟩ = allN (fun i => stOk logs.length 2 1 ⟨(opAt l i).o, 0, 0, 0, 0, (opAt l i).ar, (opAt l i).sp, (opAt l i).pl, (opAt l i).nn⟩) l.length := by
    unfold bodyOk
    show allN (fun k => stOk logs.length (bodyK l).length k (stAt (bodyK l) k)) (bodyK l).length = _
    rw [bodyK_len, Bool.eq_iff_iff]
    constructor
    · intro h
      refine allN_mk fun i hi => ?_
      have h3 : stOk logs.length l.length i (stAt (bodyK l) i) = true := allN_get h i hi
      rw [bodyK_at l i hi, st_same _ _ _ _ (by omega)] at h3
      exact h3
    · intro h
      refine allN_mk fun i hi => ?_
      rw [bodyK_at l i hi, st_same _ _ _ _ (by omega)]
      exact allN_get h i hi
  unfold mayB
  rw [hb]
  show (decide (logs.length ≤ 3) && decide (1 ≤ (bodyK l).length) && decide ((bodyK l).length ≤ 16) && logsOk logs && true && _) = _
  rw [bodyK_len, decide_eq_true h1, decide_eq_true h2]
  simp
/-- E1: the program's way is the document's -/
theorem mayP_mayK (t : Tg) (K : Kn) (logs : List Int) : mayP t K logs = mayK t K logs := by
  unfold mayP mayK
  by_cases ht : mayT t = true
  · by_cases h16 : K.ops.length ≤ 16
    · by_cases h1 : 1 ≤ K.ops.length
      · rw [mayB_bodyK logs K.ops h1 h16, units_eq ht, ht, decide_eq_true h16, inR_yes (by omega : (1 : Int) ≤ (K.ops.length : Int) ∧ (K.ops.length : Int) ≤ 16)]
        have hr := (mayT_parts ht).2.2.2.1
        cases inR K.pc 1 200
        · simp
        cases inR K.st 1 1001
        · simp
        simp only [Bool.true_and, Bool.and_true]
        rw [Bool.eq_iff_iff]
        constructor
        · intro h
          simp only [Bool.and_eq_true, decide_eq_true_eq] at h
          obtain ⟨⟨hA, ⟨hl, hlo⟩, hS⟩, hU⟩ := h
          refine allN_mk fun i hi => ?_
          have hA := allN_get hA i hi
          have hS := allN_get hS i hi
          have hU := allN_get hU i hi
          simp only [Bool.and_eq_true] at hA
          unfold oneOk
          rw [hA.1, ← regs_same (n := 0) (k := 0) hr hS, hA.2, mayB_loopK, decide_eq_true hl, hlo, hS, hU]
          rfl
        · intro h
          have h0 := allN_get h 0 (by omega)
          have hX : ∀ i, i < K.ops.length → timeOk K.pc K.st (opAt K.ops i) = true ∧ regsOk t.r (opAt K.ops i) = true ∧ logs.length ≤ 3 ∧ logsOk logs = true ∧ stOk logs.length 2 1 ⟨(opAt K.ops i).o, 0, 0, 0, 0, (opAt K.ops i).ar, (opAt K.ops i).sp, (opAt K.ops i).pl, (opAt K.ops i).nn⟩ = true ∧ (manyK K.ops i : Int) ≤ unitsT t (clsv (opAt K.ops i).o) := by
            intro i hi
            have h2 := allN_get h i hi
            unfold oneOk at h2
            rw [mayB_loopK] at h2
            simp only [Bool.and_eq_true, decide_eq_true_eq] at h2
            exact ⟨h2.1.1.1, h2.1.1.2, h2.1.2.1.1, h2.1.2.1.2, h2.1.2.2, h2.2⟩
          obtain ⟨-, -, hl, hlo, -, -⟩ := hX 0 (by omega)
          simp only [Bool.and_eq_true, decide_eq_true_eq]
          refine ⟨⟨allN_mk fun i hi => ?_, ⟨hl, hlo⟩, allN_mk fun i hi => (hX i hi).2.2.2.2.1⟩, allN_mk fun i hi => decide_eq_true (hX i hi).2.2.2.2.2⟩
          rw [(hX i hi).1, regs_same (n := 0) (k := 0) hr (hX i hi).2.2.2.2.1, (hX i hi).2.1]
          rfl
      · have h0 : K.ops.length = 0 := by omega
        have hb : mayB ⟨logs, bodyK K.ops, []⟩ = false := may_no _ (.inr (.inl (by show ¬ 1 ≤ (bodyK K.ops).length; rw [bodyK_len]; omega)))
        rw [hb, inR_no (by omega : ¬ ((1 : Int) ≤ (K.ops.length : Int) ∧ (K.ops.length : Int) ≤ 16))]
        simp
    · rw [decide_eq_false h16, inR_no (by omega : ¬ ((1 : Int) ≤ (K.ops.length : Int) ∧ (K.ops.length : Int) ≤ 16))]
      simp
  · have ht2 : mayT t = false := by simpa using ht
    rw [ht2]
    simp
end Go.Proofs.Ytpljieenjkbmmaa
