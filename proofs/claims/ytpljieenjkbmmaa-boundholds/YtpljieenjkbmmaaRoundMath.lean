/- The least pace for which no round of edges is too long: times that all edges let grow stand still within as many passes as there are statements, if ever; no Go in sight. -/
import Derived.Test.YtpljieenjkbmmaaEdgeRow
namespace Go.Proofs.Ytpljieenjkbmmaa
set_option linter.unusedVariables false

/-- what an edge asks, at a pace -/
def gapE (p : Int) (e : Ed) : Int := e.wt - p * e.bk
/-- times that all edges let be -/
def Feas (l : List Ed) (p : Int) : Prop := ∃ h : Nat → Int, ∀ e ∈ l, h e.fr.toNat + gapE p e ≤ h e.to.toNat
/-- one edge -/
def relE (p : Int) (a : Nat → Int) (e : Ed) : Nat → Int := if a e.to.toNat < a e.fr.toNat + gapE p e then (fun v => if v = e.to.toNat then a e.fr.toNat + gapE p e else a v) else a
def okE (p : Int) (a : Nat → Int) (e : Ed) : Bool := decide (a e.fr.toNat + gapE p e ≤ a e.to.toNat)
/-- the first k edges of a pass -/
def passE (p : Int) (l : List Ed) (a : Nat → Int) : Nat → Nat → Int
  | 0 => a
  | k + 1 => relE p (passE p l a k) (edAt l k)
/-- passes -/
def passR (p : Int) (l : List Ed) : Nat → Nat → Int
  | 0 => fun _ => 0
  | r + 1 => passE p l (passR p l r) l.length
/-- does it stand still through a pass? -/
def stillE (p : Int) (l : List Ed) (a : Nat → Int) : Bool := allN (fun k => okE p a (edAt l k)) l.length
/-- the document's own answer -/
def roundsD (n : Nat) (l : List Ed) (p : Int) : Bool := exN (fun r => stillE p l (passR p l r)) (n + 1)

theorem edAt_in {l : List Ed} {i : Nat} (h : i < l.length) : edAt l i ∈ l := by
  unfold edAt
  rw [List.getD, List.getElem?_eq_getElem h]
  exact List.getElem_mem _
theorem edAt_of {l : List Ed} {e : Ed} (h : e ∈ l) : ∃ i, i < l.length ∧ edAt l i = e := by
  obtain ⟨i, hi, rfl⟩ := List.mem_iff_getElem.1 h
  exact ⟨i, hi, by unfold edAt; rw [List.getD, List.getElem?_eq_getElem hi]; rfl⟩
theorem still_iff {p : Int} {l : List Ed} {a : Nat → Int} : stillE p l a = true ↔ ∀ e ∈ l, a e.fr.toNat + gapE p e ≤ a e.to.toNat := by
  unfold stillE
  constructor
  · intro h e he
    obtain ⟨i, hi, rfl⟩ := edAt_of he
    exact of_decide_eq_true (allN_get h i hi)
  · intro h
    exact allN_mk fun i hi => decide_eq_true (h _ (edAt_in hi))
theorem rounds_feas {n : Nat} {l : List Ed} {p : Int} (h : roundsD n l p = true) : Feas l p := by
  obtain ⟨r, -, hr⟩ := exN_iff.1 h
  exact ⟨passR p l r, still_iff.1 hr⟩
/-- an edge lets nothing sink -/
theorem rel_le (p : Int) (a : Nat → Int) (e : Ed) (v : Nat) : a v ≤ relE p a e v := by
  unfold relE
  split
  · rename_i h
    show a v ≤ if v = e.to.toNat then _ else a v
    by_cases e1 : v = e.to.toNat
    · rw [if_pos e1, e1]; omega
    · rw [if_neg e1]; exact Int.le_refl _
  · exact Int.le_refl _
theorem rel_ok (p : Int) (a : Nat → Int) (e : Ed) (hne : True) : a e.fr.toNat + gapE p e ≤ relE p a e e.to.toNat := by
  unfold relE
  split
  · show _ ≤ if e.to.toNat = e.to.toNat then _ else _
    rw [if_pos rfl]; exact Int.le_refl _
  · omega
theorem rel_other {p : Int} {a : Nat → Int} {e : Ed} {v : Nat} (h : v ≠ e.to.toNat) : relE p a e v = a v := by
  unfold relE
  split
  · exact if_neg h
  · rfl
theorem rel_new {p : Int} {a : Nat → Int} {e : Ed} {v : Nat} (h : relE p a e v ≠ a v) : v = e.to.toNat ∧ relE p a e v = a e.fr.toNat + gapE p e := by
  by_cases e1 : v = e.to.toNat
  · refine ⟨e1, ?_⟩
    subst e1
    unfold relE at h ⊢
    split
    · exact if_pos rfl
    · rename_i h2; rw [if_neg h2] at h; exact absurd rfl h
  · exact absurd (rel_other e1) h
theorem pass_le (p : Int) (l : List Ed) (a : Nat → Int) (v : Nat) : ∀ i j, i ≤ j → passE p l a i v ≤ passE p l a j v := by
  intro i j h
  induction j with
  | zero => obtain rfl : i = 0 := by omega
            exact Int.le_refl _
  | succ j ih =>
    by_cases e : i = j + 1
    · subst e; exact Int.le_refl _
    · exact Int.le_trans (ih (by omega)) (rel_le _ _ _ _)
theorem passR_le (p : Int) (l : List Ed) (v : Nat) : ∀ r s, r ≤ s → passR p l r v ≤ passR p l s v := by
  intro r s h
  induction s with
  | zero => obtain rfl : r = 0 := by omega
            exact Int.le_refl _
  | succ s ih =>
    by_cases e : r = s + 1
    · subst e; exact Int.le_refl _
    · exact Int.le_trans (ih (by omega)) (pass_le p l _ v 0 _ (Nat.zero_le _))
/-- below a time that all edges let be it stays so -/
theorem rel_under {p : Int} {a H : Nat → Int} {e : Ed} (ha : ∀ v, a v ≤ H v) (he : H e.fr.toNat + gapE p e ≤ H e.to.toNat) : ∀ v, relE p a e v ≤ H v := by
  intro v
  by_cases h : relE p a e v = a v
  · rw [h]; exact ha v
  · obtain ⟨h1, h2⟩ := rel_new h
    rw [h2, h1]
    have := ha e.fr.toNat
    omega
theorem pass_under {p : Int} {l : List Ed} {a H : Nat → Int} (ha : ∀ v, a v ≤ H v) (hH : ∀ e ∈ l, H e.fr.toNat + gapE p e ≤ H e.to.toNat) : ∀ k, k ≤ l.length → ∀ v, passE p l a k v ≤ H v := by
  intro k
  induction k with
  | zero => exact fun _ => ha
  | succ k ih => exact fun hk => rel_under (ih (by omega)) (hH _ (edAt_in hk))
theorem passR_under {p : Int} {l : List Ed} {H : Nat → Int} (h0 : ∀ v, 0 ≤ H v) (hH : ∀ e ∈ l, H e.fr.toNat + gapE p e ≤ H e.to.toNat) : ∀ r v, passR p l r v ≤ H v := by
  intro r
  induction r with
  | zero => exact h0
  | succ r ih => exact pass_under ih hH _ (Nat.le_refl _)
/-- sums of the first n -/
def sumN (f : Nat → Int) : Nat → Int
  | 0 => 0
  | n + 1 => sumN f n + f n
theorem sum_le {f g : Nat → Int} : ∀ n, (∀ v, v < n → f v ≤ g v) → sumN f n ≤ sumN g n := by
  intro n
  induction n with
  | zero => exact fun _ => Int.le_refl _
  | succ n ih =>
    intro h
    have h1 := ih fun v hv => h v (by omega)
    have h2 := h n (by omega)
    show sumN f n + f n ≤ sumN g n + g n
    omega
theorem sum_lt {f g : Nat → Int} : ∀ n, (∀ v, v < n → f v ≤ g v) → (∃ v, v < n ∧ f v < g v) → sumN f n < sumN g n := by
  intro n
  induction n with
  | zero => rintro _ ⟨v, hv, _⟩; omega
  | succ n ih =>
    rintro h ⟨v, hv, hlt⟩
    show sumN f n + f n < sumN g n + g n
    by_cases e : v = n
    · subst e
      have := sum_le v fun u hu => h u (by omega)
      omega
    · have h1 := ih (fun u hu => h u (by omega)) ⟨v, by omega, hlt⟩
      have h2 := h n (by omega)
      omega
/-- an unquiet pass lets something grow -/
theorem pass_grows {p : Int} {l : List Ed} {a : Nat → Int} (h : stillE p l a = false) : ∃ e ∈ l, a e.to.toNat < passE p l a l.length e.to.toNat := by
  have h1 : ¬ ∀ e ∈ l, a e.fr.toNat + gapE p e ≤ a e.to.toNat := fun h2 => by rw [still_iff.2 h2] at h; exact Bool.noConfusion h
  obtain ⟨e, he⟩ : ∃ e, ¬ (e ∈ l → a e.fr.toNat + gapE p e ≤ a e.to.toNat) := Classical.not_forall.1 h1
  have hel : e ∈ l := Classical.byContradiction fun h2 => he fun h3 => absurd h3 h2
  have hlt : ¬ a e.fr.toNat + gapE p e ≤ a e.to.toNat := fun h2 => he fun _ => h2
  obtain ⟨i, hi, rfl⟩ := edAt_of hel
  refine ⟨_, hel, ?_⟩
  have h2 : a (edAt l i).fr.toNat + gapE p (edAt l i) ≤ passE p l a (i + 1) (edAt l i).to.toNat := by
    have h3 := rel_ok p (passE p l a i) (edAt l i) trivial
    have h4 := pass_le p l a (edAt l i).fr.toNat 0 i (Nat.zero_le _)
    have h5 : a (edAt l i).fr.toNat ≤ passE p l a i (edAt l i).fr.toNat := h4
    show _ ≤ relE p (passE p l a i) (edAt l i) (edAt l i).to.toNat
    omega
  have h3 := pass_le p l a (edAt l i).to.toNat (i + 1) l.length hi
  omega
/-- it stands still some time -/
theorem still_once {n : Nat} {l : List Ed} {p : Int} (hn : ∀ e ∈ l, e.fr.toNat < n ∧ e.to.toNat < n) (hf : Feas l p) : ∃ r, stillE p l (passR p l r) = true := by
  obtain ⟨h, hh⟩ := hf
  -- lifted above 0
  obtain ⟨C, hC⟩ : ∃ C : Int, ∀ v, v < n → 0 ≤ h v + C := by
    have : ∀ n, ∃ C : Int, ∀ v, v < n → 0 ≤ h v + C := by
      intro n
      induction n with
      | zero => exact ⟨0, fun v hv => absurd hv (Nat.not_lt_zero _)⟩
      | succ n ih =>
        obtain ⟨C, hC⟩ := ih
        refine ⟨max C (-(h n)), fun v hv => ?_⟩
        by_cases e : v = n
        · subst e; omega
        · have := hC v (by omega); omega
    exact this n
  have hH0 : ∀ v, 0 ≤ (fun v => if v < n then h v + C else 0) v := fun v => by
    show 0 ≤ if v < n then h v + C else 0
    split
    · rename_i hv; exact hC v hv
    · exact Int.le_refl _
  have hH : ∀ e ∈ l, (fun v => if v < n then h v + C else 0) e.fr.toNat + gapE p e ≤ (fun v => if v < n then h v + C else 0) e.to.toNat := fun e he => by
    obtain ⟨h1, h2⟩ := hn e he
    have h3 := hh e he
    show (if e.fr.toNat < n then h e.fr.toNat + C else 0) + gapE p e ≤ if e.to.toNat < n then h e.to.toNat + C else 0
    rw [if_pos h1, if_pos h2]
    omega
  have hu := passR_under hH0 hH
  refine Classical.byContradiction fun hno => ?_
  have hall : ∀ r, stillE p l (passR p l r) = false := fun r => by
    cases e : stillE p l (passR p l r) with
    | false => rfl
    | true => exact absurd ⟨r, e⟩ hno
  have hsum : ∀ r : Nat, (r : Int) ≤ sumN (passR p l r) n := by
    intro r
    induction r with
    | zero =>
      have : ∀ n, sumN (passR p l 0) n = 0 := fun n => by
        induction n with
        | zero => rfl
        | succ n ih => show sumN (passR p l 0) n + 0 = 0; omega
      rw [this]; exact Int.le_refl _
    | succ r ih =>
      obtain ⟨e, he, hlt⟩ := pass_grows (hall r)
      have : sumN (passR p l r) n < sumN (passR p l (r + 1)) n := sum_lt n (fun v _ => passR_le p l v r (r + 1) (by omega)) ⟨_, (hn e he).2, hlt⟩
      omega
  have hb : ∀ r, sumN (passR p l r) n ≤ sumN (fun v => if v < n then h v + C else 0) n := fun r => sum_le n fun v _ => hu r v
  have h1 := hsum ((sumN (fun v => if v < n then h v + C else 0) n).toNat + 1)
  have h2 := hb ((sumN (fun v => if v < n then h v + C else 0) n).toNat + 1)
  omega

/-- what a pass comes to be in the end -/
theorem passR_stays {p : Int} {l : List Ed} {r : Nat} (h : stillE p l (passR p l r) = true) : ∀ s, r ≤ s → ∀ v, passR p l s v = passR p l r v := by
  intro s hs v
  have h1 := passR_le p l v r s hs
  have h2 : passR p l s v ≤ passR p l r v := by
    have key : ∀ s, r ≤ s → ∀ v, passR p l s v ≤ passR p l r v := by
      intro s
      induction s with
      | zero => intro h0 v; obtain rfl : r = 0 := by omega
                exact Int.le_refl _
      | succ s ih =>
        intro h0 v
        by_cases e : r = s + 1
        · subst e; exact Int.le_refl _
        · exact pass_under (ih (by omega)) (still_iff.1 h) _ (Nat.le_refl _) v
    exact key s hs v
  omega
/-- all steps in a row: step m is edge m % length -/
def stepE (p : Int) (l : List Ed) (m : Nat) : Nat → Int := passE p l (passR p l (m / l.length)) (m % l.length)
theorem step_round {p : Int} {l : List Ed} (hl : 0 < l.length) (r k : Nat) (hk : k ≤ l.length) : stepE p l (r * l.length + k) = passE p l (passR p l r) k := by
  unfold stepE
  by_cases e : k = l.length
  · subst e
    have h1 : (r * l.length + l.length) / l.length = r + 1 := by rw [← Nat.succ_mul]; exact Nat.mul_div_cancel _ hl
    have h2 : (r * l.length + l.length) % l.length = 0 := by rw [← Nat.succ_mul]; exact Nat.mul_mod_left _ _
    rw [h1, h2]; rfl
  · have h1 : (r * l.length + k) / l.length = r := by rw [Nat.add_comm, Nat.add_mul_div_right _ _ hl, Nat.div_eq_of_lt (by omega), Nat.zero_add]
    have h2 : (r * l.length + k) % l.length = k := by rw [Nat.add_comm, Nat.add_mul_mod_self_right]; exact Nat.mod_eq_of_lt (by omega)
    rw [h1, h2]
theorem step_next {p : Int} {l : List Ed} (hl : 0 < l.length) (m : Nat) : stepE p l (m + 1) = relE p (stepE p l m) (edAt l (m % l.length)) := by
  have hm : m = (m / l.length) * l.length + m % l.length := by
    have := Nat.div_add_mod m l.length
    rw [Nat.mul_comm] at this; exact this.symm
  have hk : m % l.length < l.length := Nat.mod_lt _ hl
  have e1 : stepE p l (m + 1) = passE p l (passR p l (m / l.length)) (m % l.length + 1) := by
    rw [← step_round hl (m / l.length) (m % l.length + 1) (by omega)]
    congr 1
    omega
  rw [e1]
  rfl
theorem step_le {p : Int} {l : List Ed} (hl : 0 < l.length) (v : Nat) : ∀ i j, i ≤ j → stepE p l i v ≤ stepE p l j v := by
  intro i j h
  induction j with
  | zero => obtain rfl : i = 0 := by omega
            exact Int.le_refl _
  | succ j ih =>
    by_cases e : i = j + 1
    · subst e; exact Int.le_refl _
    · rw [step_next hl]
      exact Int.le_trans (ih (by omega)) (rel_le _ _ _ _)
/-- how many of the first n are not yet what they come to be -/
def openN (x A : Nat → Int) : Nat → Nat
  | 0 => 0
  | n + 1 => openN x A n + (if x n = A n then 0 else 1)
theorem open_le (x A : Nat → Int) (n : Nat) : openN x A n ≤ n := by
  induction n with
  | zero => exact Nat.le_refl _
  | succ n ih =>
    show openN x A n + (if x n = A n then 0 else 1) ≤ n + 1
    split <;> omega
theorem open_zero {x A : Nat → Int} {n : Nat} (h : openN x A n = 0) : ∀ v, v < n → x v = A v := by
  induction n with
  | zero => intro v hv; omega
  | succ n ih =>
    intro v hv
    have h1 : openN x A n + (if x n = A n then 0 else 1) = 0 := h
    by_cases e : v = n
    · subst e
      by_cases e2 : x v = A v
      · exact e2
      · rw [if_neg e2] at h1; omega
    · exact ih (by omega) v (by omega)
theorem open_mono {x y A : Nat → Int} : ∀ n, (∀ v, v < n → x v = A v → y v = A v) → openN y A n ≤ openN x A n := by
  intro n
  induction n with
  | zero => exact fun _ => Nat.le_refl _
  | succ n ih =>
    intro h
    have h1 := ih fun v hv => h v (by omega)
    show openN y A n + (if y n = A n then 0 else 1) ≤ openN x A n + (if x n = A n then 0 else 1)
    by_cases e : x n = A n
    · rw [if_pos e, if_pos (h n (by omega) e)]; omega
    · rw [if_neg e]
      split <;> omega
theorem open_less {x y A : Nat → Int} : ∀ n, (∀ v, v < n → x v = A v → y v = A v) → (∃ v, v < n ∧ x v ≠ A v ∧ y v = A v) → openN y A n < openN x A n := by
  intro n
  induction n with
  | zero => rintro _ ⟨v, hv, _⟩; omega
  | succ n ih =>
    rintro h ⟨v, hv, h1, h2⟩
    show openN y A n + (if y n = A n then 0 else 1) < openN x A n + (if x n = A n then 0 else 1)
    by_cases e : v = n
    · subst e
      rw [if_neg h1, if_pos h2]
      have := open_mono v fun u hu => h u (by omega)
      omega
    · have h3 := ih (fun u hu => h u (by omega)) ⟨v, by omega, h1, h2⟩
      by_cases e2 : x n = A n
      · rw [if_pos e2, if_pos (h n (by omega) e2)]; omega
      · rw [if_neg e2]
        split <;> omega
theorem open_some {x A : Nat → Int} {n : Nat} (h : openN x A n ≠ 0) : ∃ v, v < n ∧ x v ≠ A v := by
  refine Classical.byContradiction fun hno => h ?_
  have : ∀ v, v < n → x v = A v := fun v hv => Classical.byContradiction fun h2 => hno ⟨v, hv, h2⟩
  clear h hno
  induction n with
  | zero => rfl
  | succ n ih =>
    show openN x A n + (if x n = A n then 0 else 1) = 0
    rw [ih fun v hv => this v (by omega), if_pos (this n (by omega))]
/-- the least number of a kind -/
theorem least_of {P : Nat → Prop} (h : ∃ m, P m) : ∃ m, P m ∧ ∀ k, k < m → ¬ P k := by
  obtain ⟨m, hm⟩ := h
  induction m using Nat.strongRecOn with
  | _ m ih =>
    by_cases e : ∃ k, k < m ∧ P k
    · obtain ⟨k, hk, hp⟩ := e; exact ih k hk hp
    · exact ⟨m, hm, fun k hk hp => e ⟨k, hk, hp⟩⟩
/-- a pass lets one more come to its end -/
theorem pass_settles {n : Nat} {l : List Ed} {p : Int} {R r : Nat} (hl : 0 < l.length) (hn : ∀ e ∈ l, e.fr.toNat < n ∧ e.to.toNat < n) (hR : stillE p l (passR p l R) = true) (hr : r ≤ R) (ho : ∃ v, v < n ∧ passR p l r v ≠ passR p l R v) :
    ∃ v, v < n ∧ passR p l r v ≠ passR p l R v ∧ passR p l (r + 1) v = passR p l R v := by
  have hA : ∀ m v, stepE p l m v ≤ passR p l R v := fun m v => by
    have h1 := step_le (p := p) hl v m ((R + m) * l.length) (by
      have : m ≤ (R + m) * l.length := Nat.le_trans (Nat.le_add_left m R) (Nat.le_mul_of_pos_right _ hl)
      exact this)
    have h2 := step_round (p := p) hl (R + m) 0 (Nat.zero_le _)
    rw [Nat.add_zero] at h2
    rw [h2] at h1
    have h3 : passE p l (passR p l (R + m)) 0 v = passR p l (R + m) v := rfl
    rw [h3, passR_stays hR (R + m) (by omega) v] at h1
    exact h1
  have hx0 : ∀ v, stepE p l (r * l.length) v = passR p l r v := fun v => by
    have := step_round (p := p) hl r 0 (Nat.zero_le _)
    rw [Nat.add_zero] at this
    rw [this]; rfl
  have hx1 : ∀ v, stepE p l (r * l.length + l.length) v = passR p l (r + 1) v := fun v => by rw [step_round hl r l.length (Nat.le_refl _)]; rfl
  -- the first step that settles one
  obtain ⟨m, hm, hmin⟩ := least_of (P := fun m => ∃ v, v < n ∧ passR p l r v ≠ passR p l R v ∧ stepE p l (r * l.length + m + 1) v = passR p l R v) (by
    obtain ⟨v, hv, hne⟩ := ho
    refine ⟨(R - r) * l.length, v, hv, hne, ?_⟩
    have h1 := step_le (p := p) hl v (R * l.length) (r * l.length + (R - r) * l.length + 1) (by rw [← Nat.add_mul, show r + (R - r) = R by omega]; omega)
    have h2 := step_round (p := p) hl R 0 (Nat.zero_le _)
    rw [Nat.add_zero] at h2
    rw [h2] at h1
    have h3 : passE p l (passR p l R) 0 v = passR p l R v := rfl
    rw [h3] at h1
    have h4 := hA (r * l.length + (R - r) * l.length + 1) v
    omega)
  obtain ⟨v, hv, hne, hset⟩ := hm
  -- not settled ahead of it
  have hbefore : ∀ u, u < n → passR p l r u ≠ passR p l R u → stepE p l (r * l.length + m) u ≠ passR p l R u := fun u hu hne2 h2 => by
    cases m with
    | zero => rw [Nat.add_zero, hx0] at h2; exact hne2 h2
    | succ m => exact hmin m (by omega) ⟨u, hu, hne2, h2⟩
  have hold := hbefore v hv hne
  rw [step_next hl] at hset
  have hnew : relE p (stepE p l (r * l.length + m)) (edAt l ((r * l.length + m) % l.length)) v ≠ stepE p l (r * l.length + m) v := fun h2 => hold (by rw [← h2]; exact hset)
  obtain ⟨hv2, hval⟩ := rel_new hnew
  have hin : edAt l ((r * l.length + m) % l.length) ∈ l := edAt_in (Nat.mod_lt _ hl)
  generalize edAt l ((r * l.length + m) % l.length) = e at *
  rw [hset] at hval
  have hpot := still_iff.1 hR e hin
  have hu1 := hA (r * l.length + m) e.fr.toNat
  rw [← hv2] at hpot
  have hfr : stepE p l (r * l.length + m) e.fr.toNat = passR p l R e.fr.toNat := by omega
  have hfr0 : passR p l r e.fr.toNat = passR p l R e.fr.toNat := Classical.byContradiction fun h2 => hbefore _ (hn e hin).1 h2 hfr
  refine ⟨v, hv, hne, ?_⟩
  obtain ⟨i, hi, hei⟩ := edAt_of hin
  have h1 : passR p l R v ≤ passE p l (passR p l r) (i + 1) v := by
    have h3 := rel_ok p (passE p l (passR p l r) i) e trivial
    have h4 := pass_le p l (passR p l r) e.fr.toNat 0 i (Nat.zero_le _)
    have h5 : passR p l r e.fr.toNat ≤ passE p l (passR p l r) i e.fr.toNat := h4
    show _ ≤ relE p (passE p l (passR p l r) i) (edAt l i) v
    rw [hei, hv2]
    rw [← hv2] at h3 ⊢
    omega
  have h2 := pass_le p l (passR p l r) v (i + 1) l.length hi
  have h3 : passR p l (r + 1) v ≤ passR p l R v := by rw [← hx1]; exact hA _ _
  have h4 : passE p l (passR p l r) l.length v = passR p l (r + 1) v := rfl
  omega
/-- G1: no round is too long, told within n passes -/
theorem feas_rounds {n : Nat} {l : List Ed} {p : Int} (hn : ∀ e ∈ l, e.fr.toNat < n ∧ e.to.toNat < n) (hf : Feas l p) : roundsD n l p = true := by
  by_cases hl : 0 < l.length
  · obtain ⟨R, hR⟩ := still_once hn hf
    have hcnt : ∀ r, r ≤ R → openN (passR p l r) (passR p l R) n + r ≤ n ∨ openN (passR p l r) (passR p l R) n = 0 := by
      intro r
      induction r with
      | zero => exact fun _ => .inl (by have := open_le (passR p l 0) (passR p l R) n; omega)
      | succ r ih =>
        intro hr
        have hkeep : ∀ v, v < n → passR p l r v = passR p l R v → passR p l (r + 1) v = passR p l R v := fun v _ h => by
          have h1 := passR_le p l v r (r + 1) (by omega)
          have h2 := passR_le p l v (r + 1) R hr
          omega
        by_cases h0 : openN (passR p l r) (passR p l R) n = 0
        · have := open_mono n hkeep
          exact .inr (by omega)
        · obtain ⟨v, h1, h2, h3⟩ := pass_settles hl hn hR (by omega) (open_some h0)
          have := open_less n hkeep ⟨v, h1, h2, h3⟩
          rcases ih (by omega) with h4 | h4
          · exact .inl (by omega)
          · exact absurd h4 h0
    by_cases hRn : R ≤ n
    · exact exN_true (k := R) (by omega) hR
    · have h1 : openN (passR p l n) (passR p l R) n = 0 := by
        rcases hcnt n (by omega) with h | h
        · omega
        · exact h
      refine exN_true (k := n) (by omega) (still_iff.2 fun e he => ?_)
      have h2 := still_iff.1 hR e he
      rw [open_zero h1 _ (hn e he).1, open_zero h1 _ (hn e he).2]
      exact h2
  · have e : l = [] := List.length_eq_zero_iff.1 (by omega)
    subst e
    exact exN_true (k := 0) (by omega) rfl
theorem rounds_iff {n : Nat} {l : List Ed} {p : Int} (hn : ∀ e ∈ l, e.fr.toNat < n ∧ e.to.toNat < n) : roundsD n l p = true ↔ Feas l p := ⟨rounds_feas, feas_rounds hn⟩
/-- a longer pace lets more be -/
theorem feas_mono {l : List Ed} {p q : Int} (hb : ∀ e ∈ l, 0 ≤ e.bk) (hpq : p ≤ q) (h : Feas l p) : Feas l q := by
  obtain ⟨f, hf⟩ := h
  refine ⟨f, fun e he => ?_⟩
  have h1 := hf e he
  have h2 : p * e.bk ≤ q * e.bk := Int.mul_le_mul_of_nonneg_right hpq (hb e he)
  unfold gapE at h1 ⊢
  omega
/-- a pace that lets all be -/
theorem feas_96 {n : Nat} {l : List Ed} (hn : n ≤ 16) (hl : ∀ e ∈ l, ∃ fr to bk wt : Nat, e = ⟨fr, to, bk, wt⟩ ∧ fr < n ∧ to < n ∧ (bk = 0 → fr < to) ∧ wt ≤ 6) : Feas l 96 := by
  refine ⟨fun v => 6 * v, fun e he => ?_⟩
  obtain ⟨fr, to, bk, wt, rfl, h1, h2, h3, h4⟩ := hl e he
  unfold gapE
  show (6 : Int) * (((fr : Int).toNat : Nat) : Int) + ((wt : Int) - 96 * (bk : Int)) ≤ 6 * (((to : Int).toNat : Nat) : Int)
  rw [Int.toNat_natCast, Int.toNat_natCast]
  by_cases e : bk = 0
  · have := h3 e; omega
  · omega
end Go.Proofs.Ytpljieenjkbmmaa
