/- Plans: which are legal, as the document says it; that none is faster than the least paces; no Go in sight. -/
import Derived.Test.YtpljieenjkbmmaaBoundMath
namespace Go.Proofs.Ytpljieenjkbmmaa
set_option linter.unusedVariables false

/-- two statements at one time of the pace, of one class -/
def meetL (L : Lp) (P : Int) (T : List Int) (i j : Nat) : Bool := decide ((nth T j).tmod P = (nth T i).tmod P) && decide (clsv (stAt L.body j).o = clsv (stAt L.body i).o)
def manyL (L : Lp) (P : Int) (T : List Int) (i : Nat) : Nat := cnt (meetL L P T i) T.length
/-- a statement's time, and the units at it -/
def timeL (L : Lp) (t : Tg) (P : Int) (T : List Int) (i : Nat) : Bool := inR (nth T i) 0 1000 && decide ((manyL L P T i : Int) ≤ unitsT t (clsv (stAt L.body i).o))
def edgeL (P : Int) (T : List Int) (e : Ed) : Bool := decide (nth T e.fr.toNat + e.wt ≤ nth T e.to.toNat + e.bk * P)
/-- H1 -/
def legalD (L : Lp) (t : Tg) (P : Int) (T : List Int) : Bool :=
  mayB L && mayT t && inR P 1 200 && decide (T.length = L.body.length) && allN (timeL L t P T) T.length && allN (fun i => edgeL P T (edAt (edgesD L t) i)) (edgesD L t).length

theorem legal_parts {L : Lp} {t : Tg} {P : Int} {T : List Int} (h : legalD L t P T = true) : mayB L = true ∧ mayT t = true ∧ 1 ≤ P ∧ P ≤ 200 ∧ T.length = L.body.length ∧ allN (timeL L t P T) T.length = true ∧ allN (fun i => edgeL P T (edAt (edgesD L t) i)) (edgesD L t).length = true := by
  unfold legalD at h
  simp only [Bool.and_eq_true, decide_eq_true_eq] at h
  obtain ⟨⟨⟨⟨⟨h1, h2⟩, h3⟩, h4⟩, h5⟩, h6⟩ := h
  have h3 := inR_iff.1 h3
  exact ⟨h1, h2, h3.1, h3.2, h4, h5, h6⟩
/-- G2, by rounds -/
theorem legal_rounds {L : Lp} {t : Tg} {P : Nat} {T : List Int} (h : legalD L t P T = true) : roundsB L t ≤ P := by
  obtain ⟨hm, -, hp1, hp2, -, -, hE⟩ := legal_parts h
  have hok := edges_ok (t := t) hm
  have hfe : Feas (edgesD L t) P := ⟨fun v => nth T v, fun e he => by
    obtain ⟨i, hi, rfl⟩ := edAt_of he
    have h1 := of_decide_eq_true (allN_get hE i hi)
    unfold gapE
    have h2 : (edAt (edgesD L t) i).bk * (P : Int) = (P : Int) * (edAt (edgesD L t) i).bk := Int.mul_comm _ _
    rw [h2] at h1
    show nth T (edAt (edgesD L t) i).fr.toNat + ((edAt (edgesD L t) i).wt - (P : Int) * (edAt (edgesD L t) i).bk) ≤ nth T (edAt (edgesD L t) i).to.toNat
    omega⟩
  have hr : roundsD L.body.length (edgesD L t) P = true := feas_rounds (fun e he => by
    obtain ⟨fr, to, bk, wt, rfl, h1, h2, _⟩ := hok e he
    exact ⟨by show ((fr : Int)).toNat < _; rw [Int.toNat_natCast]; exact h1, by show ((to : Int)).toNat < _; rw [Int.toNat_natCast]; exact h2⟩) hfe
  obtain ⟨h1, h2, h3, h4⟩ := first_is 95 1 (rounds_some (t := t) hm)
  refine Classical.byContradiction fun hlt => ?_
  have h5 := h4 P (by omega) (by show P < roundsB L t; omega)
  rw [hr] at h5
  cases h5
theorem rounds_pos (L : Lp) (t : Tg) (hm : mayB L = true) : 1 ≤ roundsB L t := (first_is 95 1 (rounds_some (t := t) hm)).2.1

/-! ### units: each time of the pace holds so many -/
/-- how many of the first n are so, by a kind below m -/
theorem cnt_split (p : Nat → Bool) (k : Nat → Nat) (m : Nat) : ∀ n, (∀ i, i < n → p i = true → k i < m) → cnt p n = (List.range m).foldl (fun s c => s + cnt (fun i => p i && decide (k i = c)) n) 0 := by
  have hz : ∀ (f : Nat → Nat) (m a : Nat), (List.range m).foldl (fun s c => s + f c) a = a + (List.range m).foldl (fun s c => s + f c) 0 := by
    intro f m
    induction m with
    | zero => intro a; simp
    | succ m ih =>
      intro a
      rw [List.range_succ, List.foldl_append, List.foldl_append, ih a]
      simp
      omega
  have hadd : ∀ (f g : Nat → Nat) (m : Nat), (List.range m).foldl (fun s c => s + (f c + g c)) 0 = (List.range m).foldl (fun s c => s + f c) 0 + (List.range m).foldl (fun s c => s + g c) 0 := by
    intro f g m
    induction m with
    | zero => rfl
    | succ m ih =>
      rw [List.range_succ, List.foldl_append, List.foldl_append, List.foldl_append, ih]
      simp
      omega
  have hone : ∀ (q m : Nat), q < m → (List.range m).foldl (fun s c => s + (if q = c then 1 else 0)) 0 = 1 := by
    intro q m
    induction m with
    | zero => intro h; omega
    | succ m ih =>
      intro h
      rw [List.range_succ, List.foldl_append]
      by_cases e : q = m
      · subst e
        have h0 : ∀ m, m ≤ q → (List.range m).foldl (fun s c => s + (if q = c then 1 else 0)) 0 = 0 := by
          intro m
          induction m with
          | zero => intro _; rfl
          | succ m ih => intro hm; rw [List.range_succ, List.foldl_append, ih (by omega)]; simp; omega
        rw [h0 q (Nat.le_refl _)]; simp
      · rw [ih (by omega)]; simp [e]
  have hzero : ∀ m, (List.range m).foldl (fun s c => s + 0) 0 = 0 := by
    intro m
    induction m with
    | zero => rfl
    | succ m ih => rw [List.range_succ, List.foldl_append, ih]; rfl
  intro n
  induction n with
  | zero => intro _; exact (hzero m).symm
  | succ n ih =>
    intro h
    have h1 := ih fun i hi => h i (by omega)
    have h2 : (fun (s c : Nat) => s + cnt (fun i => p i && decide (k i = c)) (n + 1)) = fun s c => s + (cnt (fun i => p i && decide (k i = c)) n + (if (p n && decide (k n = c)) = true then 1 else 0)) := rfl
    rw [h2, hadd, ← h1]
    show cnt p n + (if p n = true then 1 else 0) = _
    cases hp : p n with
    | false =>
      have h3 : (fun (s c : Nat) => s + (if (false && decide (k n = c)) = true then 1 else 0)) = fun s c => s + 0 := by funext s c; simp
      rw [h3, hzero]; rfl
    | true =>
      have h3 : (fun (s c : Nat) => s + (if (true && decide (k n = c)) = true then 1 else 0)) = fun s c => s + (if k n = c then 1 else 0) := by funext s c; simp
      rw [h3, hone _ _ (h n (by omega) hp)]; rfl
theorem foldl_le (f : Nat → Nat) (u : Nat) : ∀ m, (∀ c, c < m → f c ≤ u) → (List.range m).foldl (fun s c => s + f c) 0 ≤ m * u := by
  intro m
  induction m with
  | zero => intro _; simp
  | succ m ih =>
    intro h
    rw [List.range_succ, List.foldl_append]
    have h1 := ih fun c hc => h c (by omega)
    have h2 := h m (by omega)
    simp only [List.foldl_cons, List.foldl_nil]
    rw [Nat.succ_mul]
    omega
theorem cnt_zero_or (p : Nat → Bool) (n : Nat) : cnt p n = 0 ∨ ∃ i, i < n ∧ p i = true := by
  induction n with
  | zero => exact .inl rfl
  | succ n ih =>
    cases hp : p n with
    | true => exact .inr ⟨n, by omega, hp⟩
    | false =>
      rcases ih with h | ⟨i, h1, h2⟩
      · exact .inl (by show cnt p n + (if p n = true then 1 else 0) = 0; rw [hp, h]; rfl)
      · exact .inr ⟨i, by omega, h2⟩
theorem cnt_imp {p q : Nat → Bool} {n : Nat} (h : ∀ i, i < n → p i = true → q i = true) : cnt p n ≤ cnt q n := by
  induction n with
  | zero => exact Nat.le_refl _
  | succ n ih =>
    have h1 := ih fun i hi => h i (by omega)
    show cnt p n + (if p n = true then 1 else 0) ≤ cnt q n + (if q n = true then 1 else 0)
    cases hp : p n with
    | false => simp; omega
    | true => rw [h n (by omega) hp]; omega
/-- G2, by units -/
theorem legal_units {L : Lp} {t : Tg} {P : Nat} {T : List Int} (h : legalD L t P T = true) : unitsB L t ≤ P := by
  obtain ⟨hm, hmt, hp1, hp2, hlen, hT, -⟩ := legal_parts h
  have hP : 1 ≤ P := by omega
  have hT' : ∀ i, i < T.length → 0 ≤ nth T i ∧ ((manyL L P T i : Int) ≤ unitsT t (clsv (stAt L.body i).o)) := fun i hi => by
    have h1 := allN_get hT i hi
    unfold timeL at h1
    simp only [Bool.and_eq_true, decide_eq_true_eq] at h1
    exact ⟨(inR_iff.1 h1.1).1, h1.2⟩
  have hu : ∀ c : Nat, 1 ≤ unitsT t c := fun c => by
    obtain ⟨h1, h2, h3, -, -⟩ := mayT_parts hmt
    have h1 := unit_iff h1
    have h2 := unit_iff h2
    have h3 := unit_iff h3
    unfold unitsT
    split
    · omega
    · split <;> omega
  have hcls : ∀ c : Nat, c < 3 → needU (cntC L c) (unitsT t c).toNat ≤ P := fun c hc => by
    refine (need_iff (by have := hu c; omega)).1 ?_
    have h1 := cnt_split (fun i => decide (clsv (stAt L.body i).o = (c : Int))) (fun i => ((nth T i) % (P : Int)).toNat) P L.body.length (fun i hi _ => by
      have := Int.emod_lt_of_pos (nth T i) (show (0 : Int) < P by omega)
      have := Int.emod_nonneg (nth T i) (show (P : Int) ≠ 0 by omega)
      show ((nth T i) % (P : Int)).toNat < P
      omega)
    unfold cntC
    rw [h1]
    refine foldl_le _ _ P fun s hs => ?_
    rcases cnt_zero_or (fun i => decide (clsv (stAt L.body i).o = (c : Int)) && decide (((nth T i) % (P : Int)).toNat = s)) L.body.length with h0 | ⟨i, hi, hpi⟩
    · rw [h0]; exact Nat.zero_le _
    · simp only [Bool.and_eq_true, decide_eq_true_eq] at hpi
      obtain ⟨hc1, hs1⟩ := hpi
      have h2 := (hT' i (by omega)).2
      rw [hc1] at h2
      have h3 : cnt (fun j => decide (clsv (stAt L.body j).o = (c : Int)) && decide (((nth T j) % (P : Int)).toNat = s)) L.body.length ≤ manyL L P T i := by
        unfold manyL
        rw [hlen]
        refine cnt_imp fun j hj hpj => ?_
        simp only [Bool.and_eq_true, decide_eq_true_eq] at hpj
        unfold meetL
        have e1 := (hT' i (by omega)).1
        have e2 := (hT' j (by omega)).1
        have e3 := Int.emod_nonneg (nth T i) (show (P : Int) ≠ 0 by omega)
        have e4 := Int.emod_nonneg (nth T j) (show (P : Int) ≠ 0 by omega)
        rw [Int.tmod_eq_emod_of_nonneg e1, Int.tmod_eq_emod_of_nonneg e2, decide_eq_true (by omega), decide_eq_true (by rw [hc1]; exact hpj.1)]
        rfl
      have := hu c
      omega
  have h0 := hcls 0 (by omega)
  have h1 := hcls 1 (by omega)
  have h2 := hcls 2 (by omega)
  show max (max (max 1 (needU (cntC L 0) (unitsT t (0 : Nat)).toNat)) (needU (cntC L 1) (unitsT t (1 : Nat)).toNat)) (needU (cntC L 2) (unitsT t (2 : Nat)).toNat) ≤ P
  omega
theorem units_pos (L : Lp) (t : Tg) : 1 ≤ unitsB L t := by
  show 1 ≤ max (max (max 1 _) _) _
  omega
end Go.Proofs.Ytpljieenjkbmmaa
