/- Rounds: texts that are built as one: DueRow, EdgeRow, RoundMath, RoundLess, BoundMath, LegalMath. -/
import Derived.Test.YtjoapiafpahihabMaths
import Derived.Test.YtjoapiafpahihabBase
import Derived.Test.YtjoapiafpahihabLoopStmt
/- Rows of results that are due, three cells each: what a row of the call's own holds, and what an append makes of it. -/
namespace Go.Proofs.Ytjoapiafpahihab
open Go.RowKit Go.Joins
set_option linter.unusedVariables false

/-- any size: out of an own row -/
theorem ownz_block_ge {w : World} {base sz : Nat} {e : TypeId} {v : Value} {n : Nat} {xs : List Value} (h : w.ownsRow base e sz v n xs) : ∀ k, v.ownBlock = some k → base ≤ k := by
  obtain ⟨hl, h⟩ := h
  rcases h with ⟨rfl, _⟩ | ⟨g', cap, cur, rfl, hg, hk, r⟩
  · intro k h; cases h
  · intro k h
    have : g' = k := by simpa [Value.ownBlock] using h
    omega
theorem ownz_block_lt {w : World} {base sz : Nat} {e : TypeId} {v : Value} {n : Nat} {xs : List Value} (h : w.ownsRow base e sz v n xs) : ∀ k, v.ownBlock = some k → k < w.heap.size := by
  obtain ⟨hl, h⟩ := h
  rcases h with ⟨rfl, _⟩ | ⟨g', cap, cur, rfl, hg, hk, r⟩
  · intro k h; cases h
  · intro k h
    have e : g' = k := by simpa [Value.ownBlock] using h
    subst e
    exact (Array.getElem?_eq_some_iff.1 hk).1
theorem ownz_apart {w : World} {base sz : Nat} {e e' : TypeId} {v : Value} {n m : Nat} {xs : List Value} {g : Nat} {f : Nat → Value} (h : w.ownsRow base e sz v n xs) (hr : RowF w g e' m f) (he : e' ≠ e) : some g ≠ v.ownBlock := by
  obtain ⟨hl, h⟩ := h
  rcases h with ⟨rfl, _⟩ | ⟨g', cap, cur, rfl, hg, hk, r⟩
  · intro h; cases h
  · intro h
    have hgg : g = g' := by simpa [Value.ownBlock] using h
    subst hgg
    obtain ⟨c, hb, _, _⟩ := hr
    rw [hk] at hb
    have h1 := Option.some.inj hb
    injection h1 with _ h2
    exact he h2.symm
theorem ownz_shape {w : World} {base sz : Nat} {e : TypeId} {v : Value} {n : Nat} {xs : List Value} (h : w.ownsRow base e sz v n xs) : ∃ a cap, v = .slice a n cap ∧ n ≤ cap ∧ cap ≤ maxLen := by
  obtain ⟨hl, h⟩ := h
  rcases h with ⟨rfl, rfl⟩ | ⟨g, cap, cur, rfl, hg, hb, hn, hm, r⟩
  · exact ⟨none, 0, rfl, Nat.le_refl _, Nat.zero_le _⟩
  · exact ⟨_, cap, rfl, hn, hm⟩
end Go.Proofs.Ytjoapiafpahihab
/- Rows of edges, four cells each: what a row of the call's own holds, and what an append makes of it. -/
namespace Go.Proofs.Ytjoapiafpahihab
open Go.RowKit Go.Joins
set_option linter.unusedVariables false

def Ed.nil : Ed := ⟨0, 0, 0, 0⟩
def edAt (l : List Ed) (i : Nat) : Ed := l.getD i Ed.nil
def edCells (d : Ed) : List Value := [.int .i64 d.fr, .int .i64 d.to, .int .i64 d.bk, .int .i64 d.wt]
def flatE (l : List Ed) : List Value := l.flatMap edCells
theorem flatE_snoc (l : List Ed) (d : Ed) : flatE l ++ edCells d = flatE (l ++ [d]) := by unfold flatE; simp
theorem flatE_len (l : List Ed) : (flatE l).length = l.length * 4 := by
  induction l with
  | nil => rfl
  | cons d l ih =>
    show (edCells d ++ flatE l).length = (l.length + 1) * 4
    rw [List.length_append, ih]
    show 4 + _ = _
    omega
theorem flatE_get (l : List Ed) : ∀ i c, i < l.length → c < 4 → (flatE l)[i * 4 + c]? = (edCells (edAt l i))[c]? := by
  induction l with
  | nil => intro i c h; exact absurd h (Nat.not_lt_zero _)
  | cons d l ih =>
    intro i c h hc
    show (edCells d ++ flatE l)[i * 4 + c]? = _
    have h3 : (edCells d).length = 4 := rfl
    cases i with
    | zero =>
      rw [List.getElem?_append_left (by omega), Nat.zero_mul, Nat.zero_add]
      rfl
    | succ i =>
      rw [List.getElem?_append_right (by omega), h3, show (i + 1) * 4 + c - 4 = i * 4 + c from by omega, ih i c (by simpa using h) hc]
      rfl
/-- v is a slice of the edges l -/
def EdgesV (w : World) (v : Value) (l : List Ed) : Prop :=
  ∃ a cap, v = .slice a l.length cap ∧ l.length ≤ cap ∧ cap ≤ maxLen ∧
    (0 < l.length → ∃ blk off, a = some ⟨blk, off, none⟩ ∧ blk < w.heap.size ∧ ∀ i, i < l.length → ∀ j, j < 4 → w.cell? ⟨blk, off + i * 4 + j, none⟩ = (edCells (edAt l i))[j]?)
theorem EdgesV.below {w w' : World} {v : Value} {l : List Ed} (h : EdgesV w v l) (hb : Below w.heap.size w w') : EdgesV w' v l := by
  obtain ⟨a, cap, e, h1, h2, h4⟩ := h
  refine ⟨a, cap, e, h1, h2, fun hp => ?_⟩
  obtain ⟨b, off, e2, h5, h6⟩ := h4 hp
  exact ⟨b, off, e2, Nat.lt_of_lt_of_le h5 hb.size, fun i hi j hj => by rw [bcell hb _ _ h5]; exact h6 i hi j hj⟩
theorem EdgesV.of_own {w : World} {base : Nat} {e : TypeId} {v : Value} {l : List Ed} (h : w.ownsRow base e 4 v l.length (flatE l)) : EdgesV w v l := by
  obtain ⟨hl, h⟩ := h
  rcases h with ⟨rfl, hn⟩ | ⟨g, cap, cur, rfl, hg, hb, hn, hm, hc, ht⟩
  · refine ⟨none, 0, by rw [hn], by omega, Nat.zero_le _, fun hp => by omega⟩
  · refine ⟨some ⟨g, 0, none⟩, cap, rfl, hn, hm, fun _ => ⟨g, 0, rfl, (Array.getElem?_eq_some_iff.1 hb).1, fun i hi j hj => ?_⟩⟩
    rw [Nat.zero_add, cell_of_block hb, ← flatE_get l i j hi hj, ← ht, List.getElem?_take, if_pos (by omega)]
    simp
theorem four_cells (w : World) (a b c d : Value) (t : TypeId) : ∀ (j : Nat) (u : Value), [a, b, c, d][j]? = some u → (w.alloc (.cells #[a, b, c, d] t)).cell? ((⟨w.heap.size, 0, none⟩ : Addr).add j) = some u := by
  intro j u hj
  have hb : (w.alloc (.cells #[a, b, c, d] t)).heap[w.heap.size]? = some (.cells #[a, b, c, d] t (0, 0)) := by
    show (w.heap.push _)[w.heap.size]? = _
    simp
  have ha : (⟨w.heap.size, 0, none⟩ : Addr).add j = ⟨w.heap.size, j, none⟩ := by simp [Addr.add]; omega
  rw [ha, cell_of_block hb]
  simpa using hj
theorem fourE {w : World} {b o : Nat} {x : Ed} (h : ∀ j, j < 4 → w.cell? ⟨b, o + j, none⟩ = (edCells x)[j]?) :
    w.cell? ⟨b, o, none⟩ = some (.int .i64 x.fr) ∧ w.cell? ⟨b, o + 1, none⟩ = some (.int .i64 x.to) ∧ w.cell? ⟨b, o + 2, none⟩ = some (.int .i64 x.bk) ∧ w.cell? ⟨b, o + 3, none⟩ = some (.int .i64 x.wt) :=
  ⟨h 0 (by omega), h 1 (by omega), h 2 (by omega), h 3 (by omega)⟩
end Go.Proofs.Ytjoapiafpahihab
/- The least pace for which no round of edges is too long: times that all edges let grow stand still within as many passes as there are statements, if ever; no Go in sight. -/
namespace Go.Proofs.Ytjoapiafpahihab
set_option linter.unusedVariables false

/-- what an edge asks, at a pace -/
def gapE (p : Int) (e : Ed) : Int := e.wt - p * e.bk
/-- times that all edges let be -/
def Feas (l : List Ed) (p : Int) : Prop := ∃ h : Nat → Int, ∀ e ∈ l, h e.fr.toNat + gapE p e ≤ h e.to.toNat
/-- one edge -/
def relE (p : Int) (a : Nat → Int) (e : Ed) : Nat → Int := if a e.to.toNat < a e.fr.toNat + gapE p e then (fun v => if v = e.to.toNat then a e.fr.toNat + gapE p e else a v) else a
def okE (p : Int) (a : Nat → Int) (e : Ed) : Bool := decide (a e.fr.toNat + gapE p e ≤ a e.to.toNat)
/-- the first k edges of a pass -/
def passE (p : Int) (l : List Ed) (a : Nat → Int) : Nat → Nat → Int
  | 0 => a
  | k + 1 => relE p (passE p l a k) (edAt l k)
/-- passes -/
def passR (p : Int) (l : List Ed) : Nat → Nat → Int
  | 0 => fun _ => 0
  | r + 1 => passE p l (passR p l r) l.length
/-- does it stand still through a pass? -/
def stillE (p : Int) (l : List Ed) (a : Nat → Int) : Bool := allN (fun k => okE p a (edAt l k)) l.length
/-- the document's own answer -/
def roundsD (n : Nat) (l : List Ed) (p : Int) : Bool := exN (fun r => stillE p l (passR p l r)) (n + 1)

theorem edAt_in {l : List Ed} {i : Nat} (h : i < l.length) : edAt l i ∈ l := by
  unfold edAt
  rw [List.getD, List.getElem?_eq_getElem h]
  exact List.getElem_mem _
theorem edAt_of {l : List Ed} {e : Ed} (h : e ∈ l) : ∃ i, i < l.length ∧ edAt l i = e := by
  obtain ⟨i, hi, rfl⟩ := List.mem_iff_getElem.1 h
  exact ⟨i, hi, by unfold edAt; rw [List.getD, List.getElem?_eq_getElem hi]; rfl⟩
theorem still_iff {p : Int} {l : List Ed} {a : Nat → Int} : stillE p l a = true ↔ ∀ e ∈ l, a e.fr.toNat + gapE p e ≤ a e.to.toNat := by
  unfold stillE
  constructor
  · intro h e he
    obtain ⟨i, hi, rfl⟩ := edAt_of he
    exact of_decide_eq_true (allN_get h i hi)
  · intro h
    exact allN_mk fun i hi => decide_eq_true (h _ (edAt_in hi))
theorem rounds_feas {n : Nat} {l : List Ed} {p : Int} (h : roundsD n l p = true) : Feas l p := by
  obtain ⟨r, -, hr⟩ := exN_iff.1 h
  exact ⟨passR p l r, still_iff.1 hr⟩
/-- an edge lets nothing sink -/
theorem rel_le (p : Int) (a : Nat → Int) (e : Ed) (v : Nat) : a v ≤ relE p a e v := by
  unfold relE
  split
  · rename_i h
    show a v ≤ if v = e.to.toNat then _ else a v
    by_cases e1 : v = e.to.toNat
    · rw [if_pos e1, e1]; omega
    · rw [if_neg e1]; exact Int.le_refl _
  · exact Int.le_refl _
theorem rel_ok (p : Int) (a : Nat → Int) (e : Ed) (hne : True) : a e.fr.toNat + gapE p e ≤ relE p a e e.to.toNat := by
  unfold relE
  split
  · show _ ≤ if e.to.toNat = e.to.toNat then _ else _
    rw [if_pos rfl]; exact Int.le_refl _
  · omega
theorem rel_other {p : Int} {a : Nat → Int} {e : Ed} {v : Nat} (h : v ≠ e.to.toNat) : relE p a e v = a v := by
  unfold relE
  split
  · exact if_neg h
  · rfl
theorem rel_new {p : Int} {a : Nat → Int} {e : Ed} {v : Nat} (h : relE p a e v ≠ a v) : v = e.to.toNat ∧ relE p a e v = a e.fr.toNat + gapE p e := by
  by_cases e1 : v = e.to.toNat
  · refine ⟨e1, ?_⟩
    subst e1
    unfold relE at h ⊢
    split
    · exact if_pos rfl
    · rename_i h2; rw [if_neg h2] at h; exact absurd rfl h
  · exact absurd (rel_other e1) h
theorem pass_le (p : Int) (l : List Ed) (a : Nat → Int) (v : Nat) : ∀ i j, i ≤ j → passE p l a i v ≤ passE p l a j v := by
  intro i j h
  induction j with
  | zero => obtain rfl : i = 0 := by omega
            exact Int.le_refl _
  | succ j ih =>
    by_cases e : i = j + 1
    · subst e; exact Int.le_refl _
    · exact Int.le_trans (ih (by omega)) (rel_le _ _ _ _)
theorem passR_le (p : Int) (l : List Ed) (v : Nat) : ∀ r s, r ≤ s → passR p l r v ≤ passR p l s v := by
  intro r s h
  induction s with
  | zero => obtain rfl : r = 0 := by omega
            exact Int.le_refl _
  | succ s ih =>
    by_cases e : r = s + 1
    · subst e; exact Int.le_refl _
    · exact Int.le_trans (ih (by omega)) (pass_le p l _ v 0 _ (Nat.zero_le _))
/-- below a time that all edges let be it stays so -/
theorem rel_under {p : Int} {a H : Nat → Int} {e : Ed} (ha : ∀ v, a v ≤ H v) (he : H e.fr.toNat + gapE p e ≤ H e.to.toNat) : ∀ v, relE p a e v ≤ H v := by
  intro v
  by_cases h : relE p a e v = a v
  · rw [h]; exact ha v
  · obtain ⟨h1, h2⟩ := rel_new h
    rw [h2, h1]
    have := ha e.fr.toNat
    omega
theorem pass_under {p : Int} {l : List Ed} {a H : Nat → Int} (ha : ∀ v, a v ≤ H v) (hH : ∀ e ∈ l, H e.fr.toNat + gapE p e ≤ H e.to.toNat) : ∀ k, k ≤ l.length → ∀ v, passE p l a k v ≤ H v := by
  intro k
  induction k with
  | zero => exact fun _ => ha
  | succ k ih => exact fun hk => rel_under (ih (by omega)) (hH _ (edAt_in hk))
theorem passR_under {p : Int} {l : List Ed} {H : Nat → Int} (h0 : ∀ v, 0 ≤ H v) (hH : ∀ e ∈ l, H e.fr.toNat + gapE p e ≤ H e.to.toNat) : ∀ r v, passR p l r v ≤ H v := by
  intro r
  induction r with
  | zero => exact h0
  | succ r ih => exact pass_under ih hH _ (Nat.le_refl _)
/-- sums of the first n -/
def sumN (f : Nat → Int) : Nat → Int
  | 0 => 0
  | n + 1 => sumN f n + f n
theorem sum_le {f g : Nat → Int} : ∀ n, (∀ v, v < n → f v ≤ g v) → sumN f n ≤ sumN g n := by
  intro n
  induction n with
  | zero => exact fun _ => Int.le_refl _
  | succ n ih =>
    intro h
    have h1 := ih fun v hv => h v (by omega)
    have h2 := h n (by omega)
    show sumN f n + f n ≤ sumN g n + g n
    omega
theorem sum_lt {f g : Nat → Int} : ∀ n, (∀ v, v < n → f v ≤ g v) → (∃ v, v < n ∧ f v < g v) → sumN f n < sumN g n := by
  intro n
  induction n with
  | zero => rintro _ ⟨v, hv, _⟩; omega
  | succ n ih =>
    rintro h ⟨v, hv, hlt⟩
    show sumN f n + f n < sumN g n + g n
    by_cases e : v = n
    · subst e
      have := sum_le v fun u hu => h u (by omega)
      omega
    · have h1 := ih (fun u hu => h u (by omega)) ⟨v, by omega, hlt⟩
      have h2 := h n (by omega)
      omega
/-- an unquiet pass lets something grow -/
theorem pass_grows {p : Int} {l : List Ed} {a : Nat → Int} (h : stillE p l a = false) : ∃ e ∈ l, a e.to.toNat < passE p l a l.length e.to.toNat := by
  have h1 : ¬ ∀ e ∈ l, a e.fr.toNat + gapE p e ≤ a e.to.toNat := fun h2 => by rw [still_iff.2 h2] at h; exact Bool.noConfusion h
  obtain ⟨e, he⟩ : ∃ e, ¬ (e ∈ l → a e.fr.toNat + gapE p e ≤ a e.to.toNat) := Classical.not_forall.1 h1
  have hel : e ∈ l := Classical.byContradiction fun h2 => he fun h3 => absurd h3 h2
  have hlt : ¬ a e.fr.toNat + gapE p e ≤ a e.to.toNat := fun h2 => he fun _ => h2
  obtain ⟨i, hi, rfl⟩ := edAt_of hel
  refine ⟨_, hel, ?_⟩
  have h2 : a (edAt l i).fr.toNat + gapE p (edAt l i) ≤ passE p l a (i + 1) (edAt l i).to.toNat := by
    have h3 := rel_ok p (passE p l a i) (edAt l i) trivial
    have h4 := pass_le p l a (edAt l i).fr.toNat 0 i (Nat.zero_le _)
    have h5 : a (edAt l i).fr.toNat ≤ passE p l a i (edAt l i).fr.toNat := h4
    show _ ≤ relE p (passE p l a i) (edAt l i) (edAt l i).to.toNat
    omega
  have h3 := pass_le p l a (edAt l i).to.toNat (i + 1) l.length hi
  omega
/-- it stands still some time -/
theorem still_once {n : Nat} {l : List Ed} {p : Int} (hn : ∀ e ∈ l, e.fr.toNat < n ∧ e.to.toNat < n) (hf : Feas l p) : ∃ r, stillE p l (passR p l r) = true := by
  obtain ⟨h, hh⟩ := hf
  -- lifted above 0
  obtain ⟨C, hC⟩ : ∃ C : Int, ∀ v, v < n → 0 ≤ h v + C := by
    have : ∀ n, ∃ C : Int, ∀ v, v < n → 0 ≤ h v + C := by
      intro n
      induction n with
      | zero => exact ⟨0, fun v hv => absurd hv (Nat.not_lt_zero _)⟩
      | succ n ih =>
        obtain ⟨C, hC⟩ := ih
        refine ⟨max C (-(h n)), fun v hv => ?_⟩
        by_cases e : v = n
        · subst e; omega
        · have := hC v (by omega); omega
    exact this n
  have hH0 : ∀ v, 0 ≤ (fun v => if v < n then h v + C else 0) v := fun v => by
    show 0 ≤ if v < n then h v + C else 0
    split
    · rename_i hv; exact hC v hv
    · exact Int.le_refl _
  have hH : ∀ e ∈ l, (fun v => if v < n then h v + C else 0) e.fr.toNat + gapE p e ≤ (fun v => if v < n then h v + C else 0) e.to.toNat := fun e he => by
    obtain ⟨h1, h2⟩ := hn e he
    have h3 := hh e he
    show (if e.fr.toNat < n then h e.fr.toNat + C else 0) + gapE p e ≤ if e.to.toNat < n then h e.to.toNat + C else 0
    rw [if_pos h1, if_pos h2]
    omega
  have hu := passR_under hH0 hH
  refine Classical.byContradiction fun hno => ?_
  have hall : ∀ r, stillE p l (passR p l r) = false := fun r => by
    cases e : stillE p l (passR p l r) with
    | false => rfl
    | true => exact absurd ⟨r, e⟩ hno
  have hsum : ∀ r : Nat, (r : Int) ≤ sumN (passR p l r) n := by
    intro r
    induction r with
    | zero =>
      have : ∀ n, sumN (passR p l 0) n = 0 := fun n => by
        induction n with
        | zero => rfl
        | succ n ih => show sumN (passR p l 0) n + 0 = 0; omega
      rw [this]; exact Int.le_refl _
    | succ r ih =>
      obtain ⟨e, he, hlt⟩ := pass_grows (hall r)
      have : sumN (passR p l r) n < sumN (passR p l (r + 1)) n := sum_lt n (fun v _ => passR_le p l v r (r + 1) (by omega)) ⟨_, (hn e he).2, hlt⟩
      omega
  have hb : ∀ r, sumN (passR p l r) n ≤ sumN (fun v => if v < n then h v + C else 0) n := fun r => sum_le n fun v _ => hu r v
  have h1 := hsum ((sumN (fun v => if v < n then h v + C else 0) n).toNat + 1)
  have h2 := hb ((sumN (fun v => if v < n then h v + C else 0) n).toNat + 1)
  omega

/-- what a pass comes to be in the end -/
theorem passR_stays {p : Int} {l : List Ed} {r : Nat} (h : stillE p l (passR p l r) = true) : ∀ s, r ≤ s → ∀ v, passR p l s v = passR p l r v := by
  intro s hs v
  have h1 := passR_le p l v r s hs
  have h2 : passR p l s v ≤ passR p l r v := by
    have key : ∀ s, r ≤ s → ∀ v, passR p l s v ≤ passR p l r v := by
      intro s
      induction s with
      | zero => intro h0 v; obtain rfl : r = 0 := by omega
                exact Int.le_refl _
      | succ s ih =>
        intro h0 v
        by_cases e : r = s + 1
        · subst e; exact Int.le_refl _
        · exact pass_under (ih (by omega)) (still_iff.1 h) _ (Nat.le_refl _) v
    exact key s hs v
  omega
/-- all steps in a row: step m is edge m % length -/
def stepE (p : Int) (l : List Ed) (m : Nat) : Nat → Int := passE p l (passR p l (m / l.length)) (m % l.length)
theorem step_round {p : Int} {l : List Ed} (hl : 0 < l.length) (r k : Nat) (hk : k ≤ l.length) : stepE p l (r * l.length + k) = passE p l (passR p l r) k := by
  unfold stepE
  by_cases e : k = l.length
  · subst e
    have h1 : (r * l.length + l.length) / l.length = r + 1 := by rw [← Nat.succ_mul]; exact Nat.mul_div_cancel _ hl
    have h2 : (r * l.length + l.length) % l.length = 0 := by rw [← Nat.succ_mul]; exact Nat.mul_mod_left _ _
    rw [h1, h2]; rfl
  · have h1 : (r * l.length + k) / l.length = r := by rw [Nat.add_comm, Nat.add_mul_div_right _ _ hl, Nat.div_eq_of_lt (by omega), Nat.zero_add]
    have h2 : (r * l.length + k) % l.length = k := by rw [Nat.add_comm, Nat.add_mul_mod_self_right]; exact Nat.mod_eq_of_lt (by omega)
    rw [h1, h2]
theorem step_next {p : Int} {l : List Ed} (hl : 0 < l.length) (m : Nat) : stepE p l (m + 1) = relE p (stepE p l m) (edAt l (m % l.length)) := by
  have hm : m = (m / l.length) * l.length + m % l.length := by
    have := Nat.div_add_mod m l.length
    rw [Nat.mul_comm] at this; exact this.symm
  have hk : m % l.length < l.length := Nat.mod_lt _ hl
  have e1 : stepE p l (m + 1) = passE p l (passR p l (m / l.length)) (m % l.length + 1) := by
    rw [← step_round hl (m / l.length) (m % l.length + 1) (by omega)]
    congr 1
    omega
  rw [e1]
  rfl
theorem step_le {p : Int} {l : List Ed} (hl : 0 < l.length) (v : Nat) : ∀ i j, i ≤ j → stepE p l i v ≤ stepE p l j v := by
  intro i j h
  induction j with
  | zero => obtain rfl : i = 0 := by omega
            exact Int.le_refl _
  | succ j ih =>
    by_cases e : i = j + 1
    · subst e; exact Int.le_refl _
    · rw [step_next hl]
      exact Int.le_trans (ih (by omega)) (rel_le _ _ _ _)
/-- how many of the first n are not yet what they come to be -/
def openN (x A : Nat → Int) : Nat → Nat
  | 0 => 0
  | n + 1 => openN x A n + (if x n = A n then 0 else 1)
theorem open_le (x A : Nat → Int) (n : Nat) : openN x A n ≤ n := by
  induction n with
  | zero => exact Nat.le_refl _
  | succ n ih =>
    show openN x A n + (if x n = A n then 0 else 1) ≤ n + 1
    split <;> omega
theorem open_zero {x A : Nat → Int} {n : Nat} (h : openN x A n = 0) : ∀ v, v < n → x v = A v := by
  induction n with
  | zero => intro v hv; omega
  | succ n ih =>
    intro v hv
    have h1 : openN x A n + (if x n = A n then 0 else 1) = 0 := h
    by_cases e : v = n
    · subst e
      by_cases e2 : x v = A v
      · exact e2
      · rw [if_neg e2] at h1; omega
    · exact ih (by omega) v (by omega)
theorem open_mono {x y A : Nat → Int} : ∀ n, (∀ v, v < n → x v = A v → y v = A v) → openN y A n ≤ openN x A n := by
  intro n
  induction n with
  | zero => exact fun _ => Nat.le_refl _
  | succ n ih =>
    intro h
    have h1 := ih fun v hv => h v (by omega)
    show openN y A n + (if y n = A n then 0 else 1) ≤ openN x A n + (if x n = A n then 0 else 1)
    by_cases e : x n = A n
    · rw [if_pos e, if_pos (h n (by omega) e)]; omega
    · rw [if_neg e]
      split <;> omega
theorem open_less {x y A : Nat → Int} : ∀ n, (∀ v, v < n → x v = A v → y v = A v) → (∃ v, v < n ∧ x v ≠ A v ∧ y v = A v) → openN y A n < openN x A n := by
  intro n
  induction n with
  | zero => rintro _ ⟨v, hv, _⟩; omega
  | succ n ih =>
    rintro h ⟨v, hv, h1, h2⟩
    show openN y A n + (if y n = A n then 0 else 1) < openN x A n + (if x n = A n then 0 else 1)
    by_cases e : v = n
    · subst e
      rw [if_neg h1, if_pos h2]
      have := open_mono v fun u hu => h u (by omega)
      omega
    · have h3 := ih (fun u hu => h u (by omega)) ⟨v, by omega, h1, h2⟩
      by_cases e2 : x n = A n
      · rw [if_pos e2, if_pos (h n (by omega) e2)]; omega
      · rw [if_neg e2]
        split <;> omega
theorem open_some {x A : Nat → Int} {n : Nat} (h : openN x A n ≠ 0) : ∃ v, v < n ∧ x v ≠ A v := by
  refine Classical.byContradiction fun hno => h ?_
  have : ∀ v, v < n → x v = A v := fun v hv => Classical.byContradiction fun h2 => hno ⟨v, hv, h2⟩
  clear h hno
  induction n with
  | zero => rfl
  | succ n ih =>
    show openN x A n + (if x n = A n then 0 else 1) = 0
    rw [ih fun v hv => this v (by omega), if_pos (this n (by omega))]
/-- the least number of a kind -/
theorem least_of {P : Nat → Prop} (h : ∃ m, P m) : ∃ m, P m ∧ ∀ k, k < m → ¬ P k := by
  obtain ⟨m, hm⟩ := h
  induction m using Nat.strongRecOn with
  | _ m ih =>
    by_cases e : ∃ k, k < m ∧ P k
    · obtain ⟨k, hk, hp⟩ := e; exact ih k hk hp
    · exact ⟨m, hm, fun k hk hp => e ⟨k, hk, hp⟩⟩
/-- a pass lets one more come to its end -/
theorem pass_settles {n : Nat} {l : List Ed} {p : Int} {R r : Nat} (hl : 0 < l.length) (hn : ∀ e ∈ l, e.fr.toNat < n ∧ e.to.toNat < n) (hR : stillE p l (passR p l R) = true) (hr : r ≤ R) (ho : ∃ v, v < n ∧ passR p l r v ≠ passR p l R v) :
    ∃ v, v < n ∧ passR p l r v ≠ passR p l R v ∧ passR p l (r + 1) v = passR p l R v := by
  have hA : ∀ m v, stepE p l m v ≤ passR p l R v := fun m v => by
    have h1 := step_le (p := p) hl v m ((R + m) * l.length) (by
      have : m ≤ (R + m) * l.length := Nat.le_trans (Nat.le_add_left m R) (Nat.le_mul_of_pos_right _ hl)
      exact this)
    have h2 := step_round (p := p) hl (R + m) 0 (Nat.zero_le _)
    rw [Nat.add_zero] at h2
    rw [h2] at h1
    have h3 : passE p l (passR p l (R + m)) 0 v = passR p l (R + m) v := rfl
    rw [h3, passR_stays hR (R + m) (by omega) v] at h1
    exact h1
  have hx0 : ∀ v, stepE p l (r * l.length) v = passR p l r v := fun v => by
    have := step_round (p := p) hl r 0 (Nat.zero_le _)
    rw [Nat.add_zero] at this
    rw [this]; rfl
  have hx1 : ∀ v, stepE p l (r * l.length + l.length) v = passR p l (r + 1) v := fun v => by rw [step_round hl r l.length (Nat.le_refl _)]; rfl
  -- the first step that settles one
  obtain ⟨m, hm, hmin⟩ := least_of (P := fun m => ∃ v, v < n ∧ passR p l r v ≠ passR p l R v ∧ stepE p l (r * l.length + m + 1) v = passR p l R v) (by
    obtain ⟨v, hv, hne⟩ := ho
    refine ⟨(R - r) * l.length, v, hv, hne, ?_⟩
    have h1 := step_le (p := p) hl v (R * l.length) (r * l.length + (R - r) * l.length + 1) (by rw [← Nat.add_mul, show r + (R - r) = R by omega]; omega)
    have h2 := step_round (p := p) hl R 0 (Nat.zero_le _)
    rw [Nat.add_zero] at h2
    rw [h2] at h1
    have h3 : passE p l (passR p l R) 0 v = passR p l R v := rfl
    rw [h3] at h1
    have h4 := hA (r * l.length + (R - r) * l.length + 1) v
    omega)
  obtain ⟨v, hv, hne, hset⟩ := hm
  -- not settled ahead of it
  have hbefore : ∀ u, u < n → passR p l r u ≠ passR p l R u → stepE p l (r * l.length + m) u ≠ passR p l R u := fun u hu hne2 h2 => by
    cases m with
    | zero => rw [Nat.add_zero, hx0] at h2; exact hne2 h2
    | succ m => exact hmin m (by omega) ⟨u, hu, hne2, h2⟩
  have hold := hbefore v hv hne
  rw [step_next hl] at hset
  have hnew : relE p (stepE p l (r * l.length + m)) (edAt l ((r * l.length + m) % l.length)) v ≠ stepE p l (r * l.length + m) v := fun h2 => hold (by rw [← h2]; exact hset)
  obtain ⟨hv2, hval⟩ := rel_new hnew
  have hin : edAt l ((r * l.length + m) % l.length) ∈ l := edAt_in (Nat.mod_lt _ hl)
  generalize edAt l ((r * l.length + m) % l.length) = e at *
  rw [hset] at hval
  have hpot := still_iff.1 hR e hin
  have hu1 := hA (r * l.length + m) e.fr.toNat
  rw [← hv2] at hpot
  have hfr : stepE p l (r * l.length + m) e.fr.toNat = passR p l R e.fr.toNat := by omega
  have hfr0 : passR p l r e.fr.toNat = passR p l R e.fr.toNat := Classical.byContradiction fun h2 => hbefore _ (hn e hin).1 h2 hfr
  refine ⟨v, hv, hne, ?_⟩
  obtain ⟨i, hi, hei⟩ := edAt_of hin
  have h1 : passR p l R v ≤ passE p l (passR p l r) (i + 1) v := by
    have h3 := rel_ok p (passE p l (passR p l r) i) e trivial
    have h4 := pass_le p l (passR p l r) e.fr.toNat 0 i (Nat.zero_le _)
    have h5 : passR p l r e.fr.toNat ≤ passE p l (passR p l r) i e.fr.toNat := h4
    show _ ≤ relE p (passE p l (passR p l r) i) (edAt l i) v
    rw [hei, hv2]
    rw [← hv2] at h3 ⊢
    omega
  have h2 := pass_le p l (passR p l r) v (i + 1) l.length hi
  have h3 : passR p l (r + 1) v ≤ passR p l R v := by rw [← hx1]; exact hA _ _
  have h4 : passE p l (passR p l r) l.length v = passR p l (r + 1) v := rfl
  omega
/-- G1: no round is too long, told within n passes -/
theorem feas_rounds {n : Nat} {l : List Ed} {p : Int} (hn : ∀ e ∈ l, e.fr.toNat < n ∧ e.to.toNat < n) (hf : Feas l p) : roundsD n l p = true := by
  by_cases hl : 0 < l.length
  · obtain ⟨R, hR⟩ := still_once hn hf
    have hcnt : ∀ r, r ≤ R → openN (passR p l r) (passR p l R) n + r ≤ n ∨ openN (passR p l r) (passR p l R) n = 0 := by
      intro r
      induction r with
      | zero => exact fun _ => .inl (by have := open_le (passR p l 0) (passR p l R) n; omega)
      | succ r ih =>
        intro hr
        have hkeep : ∀ v, v < n → passR p l r v = passR p l R v → passR p l (r + 1) v = passR p l R v := fun v _ h => by
          have h1 := passR_le p l v r (r + 1) (by omega)
          have h2 := passR_le p l v (r + 1) R hr
          omega
        by_cases h0 : openN (passR p l r) (passR p l R) n = 0
        · have := open_mono n hkeep
          exact .inr (by omega)
        · obtain ⟨v, h1, h2, h3⟩ := pass_settles hl hn hR (by omega) (open_some h0)
          have := open_less n hkeep ⟨v, h1, h2, h3⟩
          rcases ih (by omega) with h4 | h4
          · exact .inl (by omega)
          · exact absurd h4 h0
    by_cases hRn : R ≤ n
    · exact exN_true (k := R) (by omega) hR
    · have h1 : openN (passR p l n) (passR p l R) n = 0 := by
        rcases hcnt n (by omega) with h | h
        · omega
        · exact h
      refine exN_true (k := n) (by omega) (still_iff.2 fun e he => ?_)
      have h2 := still_iff.1 hR e he
      rw [open_zero h1 _ (hn e he).1, open_zero h1 _ (hn e he).2]
      exact h2
  · have e : l = [] := List.length_eq_zero_iff.1 (by omega)
    subst e
    exact exN_true (k := 0) (by omega) rfl
/-- a pace that lets all be -/
theorem feas_96 {n : Nat} {l : List Ed} (hn : n ≤ 16) (hl : ∀ e ∈ l, ∃ fr to bk wt : Nat, e = ⟨fr, to, bk, wt⟩ ∧ fr < n ∧ to < n ∧ (bk = 0 → fr < to) ∧ wt ≤ 6) : Feas l 96 := by
  refine ⟨fun v => 6 * v, fun e he => ?_⟩
  obtain ⟨fr, to, bk, wt, rfl, h1, h2, h3, h4⟩ := hl e he
  unfold gapE
  show (6 : Int) * (((fr : Int).toNat : Nat) : Int) + ((wt : Int) - 96 * (bk : Int)) ≤ 6 * (((to : Int).toNat : Nat) : Int)
  rw [Int.toNat_natCast, Int.toNat_natCast]
  by_cases e : bk = 0
  · have := h3 e; omega
  · omega
end Go.Proofs.Ytjoapiafpahihab
/- Rounds of edges: as many passes as there are statements tell whether none is too long, one fewer than the document's; no Go in sight. -/
namespace Go.Proofs.Ytjoapiafpahihab
set_option linter.unusedVariables false

/-- the program's answer: n passes -/
def settledD (n : Nat) (l : List Ed) (p : Int) : Bool := exN (fun r => stillE p l (passR p l r)) n
/-- one of them stands where it stood -/
theorem one_zero {n : Nat} {l : List Ed} {p : Int} {R : Nat} (hn1 : 1 ≤ n) (hn : ∀ e ∈ l, e.fr.toNat < n ∧ e.to.toNat < n) (hR : stillE p l (passR p l R) = true) : ∃ v, v < n ∧ passR p l R v = 0 := by
  refine Classical.byContradiction fun hno => ?_
  have hpos : ∀ v, v < n → 1 ≤ passR p l R v := fun v hv => by
    have h0 : (0 : Int) ≤ passR p l R v := passR_le p l v 0 R (Nat.zero_le _)
    have h1 : passR p l R v ≠ 0 := fun h => hno ⟨v, hv, h⟩
    omega
  have h2 := passR_under (p := p) (l := l) (H := fun v => if v < n then passR p l R v - 1 else passR p l R v) (fun v => by
    show (0 : Int) ≤ if v < n then passR p l R v - 1 else passR p l R v
    split
    · have := hpos v (by assumption); omega
    · exact passR_le p l v 0 R (Nat.zero_le _)) (fun e he => by
    obtain ⟨h1, h2⟩ := hn e he
    show (if _ < n then _ else _) + gapE p e ≤ (if _ < n then _ else _)
    rw [if_pos h1, if_pos h2]
    have := still_iff.1 hR e he
    omega) R 0
  rw [if_pos (by omega)] at h2
  omega
theorem feas_settled {n : Nat} {l : List Ed} {p : Int} (hn1 : 1 ≤ n) (hn : ∀ e ∈ l, e.fr.toNat < n ∧ e.to.toNat < n) (hf : Feas l p) : settledD n l p = true := by
  by_cases hl : 0 < l.length
  · obtain ⟨R, hR⟩ := still_once hn hf
    have hcnt : ∀ r, r ≤ R → openN (passR p l r) (passR p l R) n + r + 1 ≤ n ∨ openN (passR p l r) (passR p l R) n = 0 := by
      intro r
      induction r with
      | zero =>
        intro _
        obtain ⟨v, hv, hz⟩ := one_zero hn1 hn hR
        have h1 : openN (passR p l 0) (passR p l R) n < openN (fun v => passR p l R v + 1) (passR p l R) n := open_less n (fun v _ h => by exfalso; have h2 : passR p l R v + 1 = passR p l R v := h; omega) ⟨v, hv, by show ¬ passR p l R v + 1 = passR p l R v; omega, by rw [hz]; rfl⟩
        have := open_le (fun v => passR p l R v + 1) (passR p l R) n
        exact .inl (by omega)
      | succ r ih =>
        intro hr
        have hkeep : ∀ v, v < n → passR p l r v = passR p l R v → passR p l (r + 1) v = passR p l R v := fun v _ h => by
          have h1 := passR_le p l v r (r + 1) (by omega)
          have h2 := passR_le p l v (r + 1) R hr
          omega
        by_cases h0 : openN (passR p l r) (passR p l R) n = 0
        · have := open_mono n hkeep
          exact .inr (by omega)
        · obtain ⟨v, h1, h2, h3⟩ := pass_settles hl hn hR (by omega) (open_some h0)
          have := open_less n hkeep ⟨v, h1, h2, h3⟩
          rcases ih (by omega) with h4 | h4
          · exact .inl (by omega)
          · exact absurd h4 h0
    by_cases hRn : R ≤ n - 1
    · exact exN_true (k := R) (by omega) hR
    · have h1 : openN (passR p l (n - 1)) (passR p l R) n = 0 := by
        rcases hcnt (n - 1) (by omega) with h | h
        · omega
        · exact h
      refine exN_true (k := n - 1) (by omega) (still_iff.2 fun e he => ?_)
      have h2 := still_iff.1 hR e he
      rw [open_zero h1 _ (hn e he).1, open_zero h1 _ (hn e he).2]
      exact h2
  · have e : l = [] := List.length_eq_zero_iff.1 (by omega)
    subst e
    exact exN_true (k := 0) (by omega) rfl
/-- the program's passes tell what the document's tell -/
theorem settled_rounds {n : Nat} {l : List Ed} {p : Int} (hn1 : 1 ≤ n) (hn : ∀ e ∈ l, e.fr.toNat < n ∧ e.to.toNat < n) : settledD n l p = roundsD n l p := by
  cases h : roundsD n l p with
  | true => exact feas_settled hn1 hn (rounds_feas h)
  | false =>
    cases h2 : settledD n l p with
    | false => rfl
    | true =>
      obtain ⟨r, h3, h4⟩ := exN_iff.1 h2
      have : roundsD n l p = true := exN_true (k := r) (by omega) h4
      rw [h] at this; cases this
end Go.Proofs.Ytjoapiafpahihab
/- The least paces, by units and by rounds, as the document says them; no Go in sight. -/
namespace Go.Proofs.Ytjoapiafpahihab
set_option linter.unusedVariables false

/-- how many statements of a class there are -/
def cntC (L : Lp) (c : Nat) : Nat := cnt (fun i => decide (clsv (stAt L.body i).o = (c : Int))) L.body.length
/-- the least number that, times u, is at least n -/
def needU (n u : Nat) : Nat := (n + u - 1) / u
theorem need_iff {n u q : Nat} (hu : 1 ≤ u) : n ≤ q * u ↔ needU n u ≤ q := by
  unfold needU
  constructor
  · intro h
    have h1 : n + u - 1 < (q + 1) * u := by rw [Nat.succ_mul]; omega
    exact Nat.le_of_lt_succ (Nat.div_lt_of_lt_mul (by rw [Nat.mul_comm]; exact h1))
  · intro h
    have h1 := Nat.div_add_mod (n + u - 1) u
    have h2 := Nat.mod_lt (n + u - 1) (show u > 0 by omega)
    have h3 : u * ((n + u - 1) / u) ≤ u * q := Nat.mul_le_mul_left _ h
    rw [Nat.mul_comm q u]
    omega
/-- the pace when the first c classes have been looked at -/
def paceU (L : Lp) (t : Tg) : Nat → Nat
  | 0 => 1
  | c + 1 => max (paceU L t c) (needU (cntC L c) (unitsT t c).toNat)
/-- G1: UNITS -/
def unitsB (L : Lp) (t : Tg) : Nat := paceU L t 3
/-- the first from s on that is so -/
def firstN (p : Nat → Bool) : Nat → Nat → Nat
  | 0, s => s
  | f + 1, s => if p s = true then s else firstN p f (s + 1)
theorem first_is {p : Nat → Bool} : ∀ f s, (∃ q, s ≤ q ∧ q ≤ s + f ∧ p q = true) → p (firstN p f s) = true ∧ s ≤ firstN p f s ∧ firstN p f s ≤ s + f ∧ ∀ q, s ≤ q → q < firstN p f s → p q = false := by
  intro f
  induction f with
  | zero =>
    rintro s ⟨q, h1, h2, h3⟩
    obtain rfl : q = s := by omega
    exact ⟨h3, Nat.le_refl _, Nat.le_refl _, fun q' h4 h5 => absurd h5 (by show ¬ q' < q; omega)⟩
  | succ f ih =>
    rintro s ⟨q, h1, h2, h3⟩
    unfold firstN
    by_cases h : p s = true
    · rw [if_pos h]; exact ⟨h, Nat.le_refl _, by omega, fun q' h4 h5 => by omega⟩
    · rw [if_neg h]
      have hq : q ≠ s := fun e => h (e ▸ h3)
      obtain ⟨h4, h5, h6, h7⟩ := ih (s + 1) ⟨q, by omega, by omega, h3⟩
      refine ⟨h4, by omega, by omega, fun q' h8 h9 => ?_⟩
      by_cases e : q' = s
      · subst e; simpa using h
      · exact h7 q' (by omega) h9
/-- G1: ROUNDS -/
def roundsB (L : Lp) (t : Tg) : Nat := firstN (fun p => roundsD L.body.length (edgesD L t) p) 95 1
theorem edges_ok {L : Lp} {t : Tg} (hm : mayB L = true) : ∀ e ∈ edgesD L t, ∃ fr to bk wt : Nat, e = ⟨fr, to, bk, wt⟩ ∧ fr < L.body.length ∧ to < L.body.length ∧ (bk = 0 → fr < to) ∧ wt ≤ 6 ∧ bk ≤ 32 := by
  intro e he
  obtain ⟨fr, to, b, x, h1, h2, rfl, h3⟩ := frD_mem _ he
  obtain ⟨fr', to', bk', wt', h5, -, -, h8⟩ := edge_like hm he
  have e1 : (b : Int) = bk' := congrArg Ed.bk h5
  have e2 : (fr : Int) = fr' := congrArg Ed.fr h5
  have e3 : (to : Int) = to' := congrArg Ed.to h5
  refine ⟨fr, to, b, x, rfl, h1, h2, fun h => by have := h8 (by omega); omega, ?_⟩
  -- the bounds of all that might be
  have hb : ∀ k, (⟨fr, to, b, x⟩ : Ed) ∈ frD L t k → x ≤ 6 ∧ b ≤ 32 := by
    have w1 : ∀ {fr to bk : Nat} {e : Ed} k, e ∈ wtD L t fr to bk k → ∃ y : Nat, y < k ∧ e = ⟨fr, to, bk, y⟩ := fun k h => by
      obtain ⟨y, h1, h2, _⟩ := wtD_mem k h; exact ⟨y, h1, h2⟩
    have w2 : ∀ {fr to : Nat} {e : Ed} k, e ∈ bkD L t fr to k → ∃ b y : Nat, b < k ∧ y < 7 ∧ e = ⟨fr, to, b, y⟩ := by
      intro fr to e k
      induction k with
      | zero => intro h; cases h
      | succ k ih =>
        intro h
        rcases List.mem_append.1 h with h | h
        · obtain ⟨b, y, h1, h2, h3⟩ := ih h; exact ⟨b, y, by omega, h2, h3⟩
        · obtain ⟨y, h1, h2⟩ := w1 7 h; exact ⟨k, y, by omega, h1, h2⟩
    have w3 : ∀ {fr : Nat} {e : Ed} k, e ∈ toD L t fr k → ∃ to b y : Nat, b < 33 ∧ y < 7 ∧ e = ⟨fr, to, b, y⟩ := by
      intro fr e k
      induction k with
      | zero => intro h; cases h
      | succ k ih =>
        intro h
        rcases List.mem_append.1 h with h | h
        · exact ih h
        · obtain ⟨b, y, h1, h2, h3⟩ := w2 33 h; exact ⟨k, b, y, h1, h2, h3⟩
    intro k
    induction k with
    | zero => intro h; cases h
    | succ k ih =>
      intro h
      rcases List.mem_append.1 h with h | h
      · exact ih h
      · obtain ⟨to2, b2, y2, h1, h2, h3⟩ := w3 L.body.length h
        have f1 : (b : Int) = b2 := congrArg Ed.bk h3
        have f2 : (x : Int) = y2 := congrArg Ed.wt h3
        omega
  exact hb _ he
theorem rounds_some {L : Lp} {t : Tg} (hm : mayB L = true) : ∃ q, 1 ≤ q ∧ q ≤ 1 + 95 ∧ (fun p : Nat => roundsD L.body.length (edgesD L t) p) q = true := by
  obtain ⟨-, -, h16, -⟩ := may_parts hm
  have hok := edges_ok (t := t) hm
  refine ⟨96, by omega, by omega, ?_⟩
  exact feas_rounds (fun e he => by
    obtain ⟨fr, to, bk, wt, rfl, h1, h2, _⟩ := hok e he
    exact ⟨by show ((fr : Int)).toNat < _; rw [Int.toNat_natCast]; exact h1, by show ((to : Int)).toNat < _; rw [Int.toNat_natCast]; exact h2⟩) (feas_96 h16 fun e he => by
      obtain ⟨fr, to, bk, wt, h0, h1, h2, h3, h4, -⟩ := hok e he
      exact ⟨fr, to, bk, wt, h0, h1, h2, h3, h4⟩)
end Go.Proofs.Ytjoapiafpahihab
/- Plans: which are legal, as the document says it; that none is faster than the least paces; no Go in sight. -/
namespace Go.Proofs.Ytjoapiafpahihab
set_option linter.unusedVariables false

/-- two statements at one time of the pace, of one class -/
def meetL (L : Lp) (P : Int) (T : List Int) (i j : Nat) : Bool := decide ((nth T j).tmod P = (nth T i).tmod P) && decide (clsv (stAt L.body j).o = clsv (stAt L.body i).o)
def manyL (L : Lp) (P : Int) (T : List Int) (i : Nat) : Nat := cnt (meetL L P T i) T.length
/-- a statement's time, and the units at it -/
def timeL (L : Lp) (t : Tg) (P : Int) (T : List Int) (i : Nat) : Bool := inR (nth T i) 0 1000 && decide ((manyL L P T i : Int) ≤ unitsT t (clsv (stAt L.body i).o))
def edgeL (P : Int) (T : List Int) (e : Ed) : Bool := decide (nth T e.fr.toNat + e.wt ≤ nth T e.to.toNat + e.bk * P)
/-- H1 -/
def legalD (L : Lp) (t : Tg) (P : Int) (T : List Int) : Bool :=
  mayB L && mayT t && inR P 1 200 && decide (T.length = L.body.length) && allN (timeL L t P T) T.length && allN (fun i => edgeL P T (edAt (edgesD L t) i)) (edgesD L t).length

theorem legal_parts {L : Lp} {t : Tg} {P : Int} {T : List Int} (h : legalD L t P T = true) : mayB L = true ∧ mayT t = true ∧ 1 ≤ P ∧ P ≤ 200 ∧ T.length = L.body.length ∧ allN (timeL L t P T) T.length = true ∧ allN (fun i => edgeL P T (edAt (edgesD L t) i)) (edgesD L t).length = true := by
  unfold legalD at h
  simp only [Bool.and_eq_true, decide_eq_true_eq] at h
  obtain ⟨⟨⟨⟨⟨h1, h2⟩, h3⟩, h4⟩, h5⟩, h6⟩ := h
  have h3 := inR_iff.1 h3
  exact ⟨h1, h2, h3.1, h3.2, h4, h5, h6⟩
/-! ### units: each time of the pace holds so many -/
theorem cnt_zero_or (p : Nat → Bool) (n : Nat) : cnt p n = 0 ∨ ∃ i, i < n ∧ p i = true := by
  induction n with
  | zero => exact .inl rfl
  | succ n ih =>
    cases hp : p n with
    | true => exact .inr ⟨n, by omega, hp⟩
    | false =>
      rcases ih with h | ⟨i, h1, h2⟩
      · exact .inl (by show cnt p n + (if p n = true then 1 else 0) = 0; rw [hp, h]; rfl)
      · exact .inr ⟨i, by omega, h2⟩
theorem units_pos (L : Lp) (t : Tg) : 1 ≤ unitsB L t := by
  show 1 ≤ max (max (max 1 _) _) _
  omega
end Go.Proofs.Ytjoapiafpahihab
