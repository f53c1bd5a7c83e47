/- DepS: texts that are built as one: DepList, DepSmall, DepLeast. -/
import Derived.Test.YtjoapiafpahihabMaths
import Derived.Lib.SlicesCompact
import Derived.Test.YtjoapiafpahihabLoopStmt
import Derived.Test.YtjoapiafpahihabRef6A
import Derived.Deep.QuietTactic
import Derived.BigQuiet
import Derived.Test.YtjoapiafpahihabRef6Is
import Derived.Test.YtjoapiafpahihabLoopP
import Derived.Deep.RegionHeld3
import Derived.BigRegion
/- The edges as the program lists them; sorted, and each once, they are the document's; no Go in sight. -/
namespace Go.Proofs.Ytjoapiafpahihab
open Go.Lib
set_option linter.unusedVariables false

/-- edges of what a statement looks at -/
def refT (L : Lp) (t : Tg) (to : Nat) : List Ed := (usesL (stAt L.body to)).map fun r => ⟨r.1, to, r.2, waitT t (stAt L.body r.1.toNat).o⟩
def refE (L : Lp) (t : Tg) : Nat → List Ed
  | 0 => []
  | k + 1 => refE L t k ++ refT L t k
/-- the least number of turns on, from lo on -/
def lbD (a b : St) (lo size : Nat) : Option Nat := (List.range (size + 1)).find? fun k => firstD a b lo k size
def wordB (L : Lp) (fr to : Nat) : List Ed :=
  if memD (stAt L.body fr) (stAt L.body to) = true then
    match lbD (stAt L.body fr) (stAt L.body to) (leastD fr to) (sizeD L (stAt L.body fr)) with
    | some b => [⟨fr, to, b, waitD (stAt L.body fr)⟩]
    | none => []
  else []
def wordTo (L : Lp) (fr : Nat) : Nat → List Ed
  | 0 => []
  | k + 1 => wordTo L fr k ++ wordB L fr k
def wordE (L : Lp) : Nat → List Ed
  | 0 => []
  | k + 1 => wordE L k ++ wordTo L k L.body.length
def allE (L : Lp) (t : Tg) : List Ed := refE L t L.body.length ++ wordE L L.body.length

theorem first_iff {a b : St} {lo k size : Nat} : firstD a b lo k size = true ↔ lo ≤ k ∧ k ≤ size ∧ meetsD a b k size = true ∧ ∀ i, lo ≤ i → i < k → meetsD a b i size = false := by
  unfold firstD
  simp only [Bool.and_eq_true, decide_eq_true_eq]
  constructor
  · rintro ⟨⟨⟨h1, h2⟩, h3⟩, h4⟩
    refine ⟨h1, h2, h3, fun i hi hk => ?_⟩
    have := allN_get h4 i hk
    simp at this
    rcases this with h | h
    · omega
    · exact h
  · rintro ⟨h1, h2, h3, h4⟩
    refine ⟨⟨⟨h1, h2⟩, h3⟩, allN_mk fun i hi => ?_⟩
    by_cases h : i < lo
    · simp [h]
    · rw [h4 i (by omega) hi]; simp
theorem first_one {a b : St} {lo k k' size : Nat} (h : firstD a b lo k size = true) (h' : firstD a b lo k' size = true) : k = k' := by
  obtain ⟨h1, h2, h3, h4⟩ := first_iff.1 h
  obtain ⟨g1, g2, g3, g4⟩ := first_iff.1 h'
  rcases Nat.lt_trichotomy k k' with h | h | h
  · rw [g4 k h1 h] at h3; cases h3
  · exact h
  · rw [h4 k' g1 h] at g3; cases g3
theorem lb_iff {a b : St} {lo size k : Nat} : lbD a b lo size = some k ↔ firstD a b lo k size = true := by
  unfold lbD
  constructor
  · intro h; exact List.find?_some (p := fun k => firstD a b lo k size) h
  · intro h
    have hk : k ∈ List.range (size + 1) := List.mem_range.2 (by have := (first_iff.1 h).2.1; omega)
    cases e : (List.range (size + 1)).find? fun k => firstD a b lo k size with
    | none => exact absurd h (by have := List.find?_eq_none.1 e k hk; exact this)
    | some k' => rw [first_one (List.find?_some (p := fun k => firstD a b lo k size) e) h]
theorem lb_some {a b : St} {lo size k : Nat} (h1 : lo ≤ k) (h2 : k ≤ size) (h3 : meetsD a b k size = true) (h4 : ∀ i, lo ≤ i → i < k → meetsD a b i size = false) : lbD a b lo size = some k :=
  lb_iff.2 (first_iff.2 ⟨h1, h2, h3, h4⟩)
theorem lb_none {a b : St} {lo size : Nat} (h : ∀ i, lo ≤ i → i < size + 1 → meetsD a b i size = false) : lbD a b lo size = none := by
  cases e : lbD a b lo size with
  | none => rfl
  | some k =>
    obtain ⟨h1, h2, h3, _⟩ := first_iff.1 (lb_iff.1 e)
    rw [h k h1 (by omega)] at h3; cases h3
theorem lb_le {a b : St} {lo size k : Nat} (h : lbD a b lo size = some k) : k ≤ size := (first_iff.1 (lb_iff.1 h)).2.1

theorem refE_mem {L : Lp} {t : Tg} {e : Ed} : ∀ k, e ∈ refE L t k ↔ ∃ to, to < k ∧ e ∈ refT L t to := by
  intro k
  induction k with
  | zero => exact ⟨fun h => absurd h (by show ¬ e ∈ []; simp), fun ⟨_, h, _⟩ => absurd h (Nat.not_lt_zero _)⟩
  | succ k ih =>
    show e ∈ refE L t k ++ refT L t k ↔ _
    rw [List.mem_append, ih]
    constructor
    · rintro (⟨to, h1, h2⟩ | h)
      · exact ⟨to, by omega, h2⟩
      · exact ⟨k, by omega, h⟩
    · rintro ⟨to, h1, h2⟩
      by_cases e1 : to = k
      · subst e1; exact .inr h2
      · exact .inl ⟨to, by omega, h2⟩
theorem wordTo_mem {L : Lp} {fr : Nat} {e : Ed} : ∀ k, e ∈ wordTo L fr k ↔ ∃ to, to < k ∧ e ∈ wordB L fr to := by
  intro k
  induction k with
  | zero => exact ⟨fun h => absurd h (by show ¬ e ∈ []; simp), fun ⟨_, h, _⟩ => absurd h (Nat.not_lt_zero _)⟩
  | succ k ih =>
    show e ∈ wordTo L fr k ++ wordB L fr k ↔ _
    rw [List.mem_append, ih]
    constructor
    · rintro (⟨to, h1, h2⟩ | h)
      · exact ⟨to, by omega, h2⟩
      · exact ⟨k, by omega, h⟩
    · rintro ⟨to, h1, h2⟩
      by_cases e1 : to = k
      · subst e1; exact .inr h2
      · exact .inl ⟨to, by omega, h2⟩
theorem wordE_mem {L : Lp} {e : Ed} : ∀ k, e ∈ wordE L k ↔ ∃ fr to, fr < k ∧ to < L.body.length ∧ e ∈ wordB L fr to := by
  intro k
  induction k with
  | zero => exact ⟨fun h => absurd h (by show ¬ e ∈ []; simp), fun ⟨_, _, h, _⟩ => absurd h (Nat.not_lt_zero _)⟩
  | succ k ih =>
    show e ∈ wordE L k ++ wordTo L k L.body.length ↔ _
    rw [List.mem_append, ih, wordTo_mem]
    constructor
    · rintro (⟨fr, to, h1, h2⟩ | ⟨to, h1, h2⟩)
      · exact ⟨fr, to, by omega, h2⟩
      · exact ⟨k, to, by omega, h1, h2⟩
    · rintro ⟨fr, to, h1, h2, h3⟩
      by_cases e1 : fr = k
      · subst e1; exact .inr ⟨to, h2, h3⟩
      · exact .inl ⟨fr, to, by omega, h2, h3⟩
theorem wordB_mem {L : Lp} {fr to : Nat} {e : Ed} : e ∈ wordB L fr to ↔ memD (stAt L.body fr) (stAt L.body to) = true ∧ ∃ b : Nat, firstD (stAt L.body fr) (stAt L.body to) (leastD fr to) b (sizeD L (stAt L.body fr)) = true ∧ e = ⟨fr, to, b, waitD (stAt L.body fr)⟩ := by
  unfold wordB
  by_cases h : memD (stAt L.body fr) (stAt L.body to) = true
  · rw [if_pos h]
    cases e1 : lbD (stAt L.body fr) (stAt L.body to) (leastD fr to) (sizeD L (stAt L.body fr)) with
    | none =>
      refine ⟨fun h => absurd h (by simp), fun ⟨_, b, hb, _⟩ => ?_⟩
      rw [lb_iff.2 hb] at e1; cases e1
    | some b =>
      refine ⟨fun h2 => ⟨h, b, lb_iff.1 e1, List.mem_singleton.1 h2⟩, fun ⟨_, b', hb, he⟩ => ?_⟩
      rw [lb_iff.2 hb] at e1
      rw [he, Option.some.inj e1]; exact List.mem_singleton.2 rfl
  · rw [if_neg h]
    exact ⟨fun h => absurd h (by simp), fun h2 => absurd h2.1 h⟩
theorem refE_len (L : Lp) (t : Tg) (k : Nat) : (refE L t k).length ≤ k * 2 := by
  induction k with
  | zero => exact Nat.le_refl _
  | succ k ih =>
    show (refE L t k ++ refT L t k).length ≤ (k + 1) * 2
    have : (refT L t k).length ≤ 2 := by
      unfold refT usesL
      rw [List.length_map]
      split
      · simp
      · split <;> simp
    rw [List.length_append]; omega
theorem wordB_len (L : Lp) (fr to : Nat) : (wordB L fr to).length ≤ 1 := by
  unfold wordB
  split
  · split <;> simp
  · simp
theorem wordTo_len (L : Lp) (fr k : Nat) : (wordTo L fr k).length ≤ k := by
  induction k with
  | zero => exact Nat.le_refl _
  | succ k ih =>
    show (wordTo L fr k ++ wordB L fr k).length ≤ k + 1
    have := wordB_len L fr k
    rw [List.length_append]; omega
theorem wordE_len (L : Lp) (k : Nat) (hn : L.body.length ≤ 16) : (wordE L k).length ≤ k * 16 := by
  induction k with
  | zero => exact Nat.le_refl _
  | succ k ih =>
    show (wordE L k ++ wordTo L k L.body.length).length ≤ (k + 1) * 16
    have := wordTo_len L k L.body.length
    rw [List.length_append]; omega

theorem wt_there {L : Lp} {t : Tg} {fr to bk wt : Nat} (h : isD L t fr to bk wt = true) : ∀ k, wt < k → (⟨fr, to, bk, wt⟩ : Ed) ∈ wtD L t fr to bk k := by
  intro k
  induction k with
  | zero => intro h; omega
  | succ k ih =>
    intro hk
    show _ ∈ (if isD L t fr to bk k = true then wtD L t fr to bk k ++ [⟨fr, to, bk, k⟩] else wtD L t fr to bk k)
    by_cases e : wt = k
    · subst e; rw [if_pos h]; simp
    · have := ih (by omega)
      split
      · exact List.mem_append.2 (.inl this)
      · exact this
theorem edge_there {L : Lp} {t : Tg} {fr to bk wt : Nat} (h : isD L t fr to bk wt = true) (hf : fr < L.body.length) (ht : to < L.body.length) (hb : bk < 33) (hw : wt < 7) : (⟨fr, to, bk, wt⟩ : Ed) ∈ edgesD L t := by
  have h1 : ∀ k, bk < k → (⟨fr, to, bk, wt⟩ : Ed) ∈ bkD L t fr to k := by
    intro k
    induction k with
    | zero => intro h; omega
    | succ k ih =>
      intro hk
      show _ ∈ bkD L t fr to k ++ wtD L t fr to k 7
      by_cases e : bk = k
      · subst e; exact List.mem_append.2 (.inr (wt_there h 7 hw))
      · exact List.mem_append.2 (.inl (ih (by omega)))
  have h2 : ∀ k, to < k → (⟨fr, to, bk, wt⟩ : Ed) ∈ toD L t fr k := by
    intro k
    induction k with
    | zero => intro h; omega
    | succ k ih =>
      intro hk
      show _ ∈ toD L t fr k ++ bkD L t fr k 33
      by_cases e : to = k
      · subst e; exact List.mem_append.2 (.inr (h1 33 hb))
      · exact List.mem_append.2 (.inl (ih (by omega)))
  have h3 : ∀ k, fr < k → (⟨fr, to, bk, wt⟩ : Ed) ∈ frD L t k := by
    intro k
    induction k with
    | zero => intro h; omega
    | succ k ih =>
      intro hk
      show _ ∈ frD L t k ++ toD L t k L.body.length
      by_cases e : fr = k
      · subst e; exact List.mem_append.2 (.inr (h2 _ ht))
      · exact List.mem_append.2 (.inl (ih (by omega)))
  exact h3 _ hf
/-- what a statement looks at may be -/
theorem uses_ok {L : Lp} {to : Nat} {r : Int × Int} (hm : mayB L = true) (hto : to < L.body.length) (h : r ∈ usesL (stAt L.body to)) : 0 ≤ r.1 ∧ r.1 < L.body.length ∧ 0 ≤ r.2 ∧ r.2 ≤ 3 := by
  obtain ⟨m1, m2, m3, m4, m5, m6, m7⟩ := may_parts hm
  have hs := allN_get m7 to hto
  have key : ∀ a b, refOk L.body.length to a b = true → 0 ≤ a ∧ a < L.body.length ∧ 0 ≤ b ∧ b ≤ 3 := fun a b h1 => by
    unfold refOk at h1
    rw [Bool.and_eq_true] at h1
    have h2 := inR_iff.1 h1.1
    have h3 := inR_iff.1 h1.2
    split at h3 <;> omega
  unfold stOk at hs
  unfold usesL at h
  by_cases h4 : (stAt L.body to).o = 4
  · rw [if_neg (by omega), if_neg (by omega), if_neg (by omega), if_pos h4] at hs
    simp only [Bool.and_eq_true] at hs
    rw [if_pos h4, List.mem_singleton] at h
    subst h
    exact key _ _ hs.2
  · by_cases h10 : 10 < (stAt L.body to).o
    · rw [if_neg (by omega), if_neg (by omega), if_neg (by omega), if_neg h4] at hs
      split at hs
      · simp only [Bool.and_eq_true] at hs
        rw [if_neg h4, if_pos h10] at h
        rcases List.mem_cons.1 h with rfl | h
        · exact key _ _ hs.1.2
        · rw [List.mem_singleton.1 h]; exact key _ _ hs.2
      · exact Bool.noConfusion hs
    · rw [if_neg h4, if_neg h10] at h
      exact absurd h (by simp)
theorem wait_range {t : Tg} (h : mayT t = true) (op : Int) : 1 ≤ waitT t op ∧ waitT t op ≤ 6 := by
  obtain ⟨h0, h1, h2, -, -⟩ := mayT_parts h
  have a0 := unit_iff h0
  have a1 := unit_iff h1
  have a2 := unit_iff h2
  unfold waitT
  rw [if_pos h]
  unfold waitsT
  split
  · omega
  · split <;> omega
theorem look_mem {s : St} {fr bk : Int} : lookD s fr bk = true ↔ (fr, bk) ∈ usesL s := by
  unfold lookD
  rw [exN_iff]
  constructor
  · rintro ⟨k, hk, hp⟩
    unfold lookAt at hp
    simp only [Bool.and_eq_true, decide_eq_true_eq] at hp
    have e : refAt (usesL s) k = (fr, bk) := Prod.ext hp.1 hp.2
    have : refAt (usesL s) k ∈ usesL s := by
      unfold refAt
      rw [List.getD_eq_getElem?_getD, List.getElem?_eq_getElem hk]
      exact List.getElem_mem hk
    rwa [e] at this
  · intro h
    obtain ⟨k, hk, he⟩ := List.getElem_of_mem h
    refine ⟨k, hk, ?_⟩
    have e : refAt (usesL s) k = (fr, bk) := by
      unfold refAt
      rw [List.getD_eq_getElem?_getD, List.getElem?_eq_getElem hk, ← he]; rfl
    unfold lookAt
    rw [e]; simp
theorem size_le {L : Lp} (hm : mayB L = true) {fr : Nat} (hf : fr < L.body.length) : sizeD L (stAt L.body fr) ≤ 32 := by
  obtain ⟨m1, m2, m3, m4, m5, m6, m7⟩ := may_parts hm
  unfold sizeD
  have : (nth L.logs (stAt L.body fr).ar.toNat).toNat ≤ 5 := by
    by_cases h : (stAt L.body fr).ar.toNat < L.logs.length
    · have := inR_iff.1 (allN_get m5 _ h)
      omega
    · have e : nth L.logs (stAt L.body fr).ar.toNat = 0 := by
        unfold nth
        rw [List.getD_eq_getElem?_getD, List.getElem?_eq_none (by omega)]; rfl
      rw [e]; decide
  exact Nat.le_trans (Nat.pow_le_pow_right (by omega) this) (by decide)
/-- the program's edges are the document's -/
theorem all_mem {L : Lp} {t : Tg} (hm : mayB L = true) (ht : mayT t = true) (e : Ed) : e ∈ allE L t ↔ e ∈ edgesD L t := by
  unfold allE
  rw [List.mem_append, refE_mem, wordE_mem]
  constructor
  · rintro (⟨to, hto, h⟩ | ⟨fr, to, hfr, hto, h⟩)
    · unfold refT at h
      obtain ⟨r, hr, rfl⟩ := List.mem_map.1 h
      obtain ⟨u1, u2, u3, u4⟩ := uses_ok hm hto hr
      have hw := wait_range ht (stAt L.body r.1.toNat).o
      have hi : isD L t r.1.toNat to r.2.toNat (waitT t (stAt L.body r.1.toNat).o).toNat = true := by
        unfold isD
        rw [Int.toNat_of_nonneg u1, Int.toNat_of_nonneg u3, Int.toNat_of_nonneg (by omega), look_mem.2 (show (r.1, r.2) ∈ _ from hr)]
        simp
      have := edge_there hi (by omega) hto (by omega) (by omega)
      rwa [Int.toNat_of_nonneg u1, Int.toNat_of_nonneg u3, Int.toNat_of_nonneg (show 0 ≤ waitT t (stAt L.body r.1.toNat).o by omega)] at this
    · obtain ⟨h1, b, h2, rfl⟩ := wordB_mem.1 h
      have hb := (first_iff.1 h2).2.1
      have hs := size_le hm hfr
      have hw : waitD (stAt L.body fr) = ((waitD (stAt L.body fr)).toNat : Int) ∧ (waitD (stAt L.body fr)).toNat < 7 := by unfold waitD; split <;> decide
      have hi : isD L t fr to b (waitD (stAt L.body fr)).toNat = true := by
        unfold isD
        rw [h1, h2, ← hw.1]; simp
      have := edge_there hi hfr hto (by omega) hw.2
      rwa [← hw.1] at this
  · intro h
    obtain ⟨fr, to, b, x, h1, h2, rfl, h4⟩ := frD_mem _ h
    unfold isD at h4
    rcases Bool.or_eq_true_iff.1 h4 with h4 | h4
    · rw [Bool.and_eq_true, decide_eq_true_eq] at h4
      refine .inl ⟨to, h2, List.mem_map.2 ⟨(fr, b), look_mem.1 h4.1, ?_⟩⟩
      rw [h4.2]; rfl
    · simp only [Bool.and_eq_true, decide_eq_true_eq] at h4
      exact .inr ⟨fr, to, h1, h2, wordB_mem.2 ⟨h4.1.1, b, h4.2, by rw [h4.1.2]⟩⟩

/-- the program's way of comparing two edges -/
def cmpI (x y : Int) : Int := if x < y then -1 else if y < x then 1 else 0
def cmpE (a b : Ed) : Int :=
  if cmpI a.fr b.fr ≠ 0 then cmpI a.fr b.fr else if cmpI a.to b.to ≠ 0 then cmpI a.to b.to else if cmpI a.bk b.bk ≠ 0 then cmpI a.bk b.bk else cmpI a.wt b.wt
theorem cmpE_lt {a b : Ed} : cmpE a b < 0 ↔ ltE a b := by
  unfold cmpE cmpI ltE
  rcases Int.lt_trichotomy a.fr b.fr with h | h | h
  · simp [h]
  · rw [h]
    rcases Int.lt_trichotomy a.to b.to with h | h | h
    · simp [h]
    · rw [h]
      rcases Int.lt_trichotomy a.bk b.bk with h | h | h
      · simp [h]
      · rw [h]
        rcases Int.lt_trichotomy a.wt b.wt with h | h | h
        · simp [h]
        · simp [h]
        · simp [h, Int.lt_asymm h]
      · simp [h, Int.lt_asymm h, Int.ne_of_gt h]
    · simp [h, Int.lt_asymm h, Int.ne_of_gt h]
  · simp [h, Int.lt_asymm h, Int.ne_of_gt h]
theorem ltE_irr (a : Ed) : ¬ ltE a a := by unfold ltE; omega
theorem ltE_trans {a b c : Ed} (h : ltE a b) (h2 : ltE b c) : ltE a c := by unfold ltE at *; omega
theorem ltE_total {a b : Ed} (h : ¬ ltE a b) (h2 : ¬ ltE b a) : a = b := by
  obtain ⟨a1, a2, a3, a4⟩ := a
  obtain ⟨b1, b2, b3, b4⟩ := b
  unfold ltE at *
  dsimp only at *
  rw [Ed.mk.injEq]
  omega
theorem ltE_le {a b c : Ed} (h : ¬ ltE b a) (h2 : ¬ ltE c b) : ¬ ltE c a := by unfold ltE at *; omega
/-- two rising rows of the same edges are one -/
theorem rise_one : ∀ l1 l2 : List Ed, l1.Pairwise ltE → l2.Pairwise ltE → (∀ e, e ∈ l1 ↔ e ∈ l2) → l1 = l2 := by
  intro l1
  induction l1 with
  | nil =>
    intro l2 _ _ h
    cases l2 with
    | nil => rfl
    | cons b l => exact absurd ((h b).2 (by simp)) (by simp)
  | cons a l1 ih =>
    intro l2 p1 p2 h
    cases l2 with
    | nil => exact absurd ((h a).1 (by simp)) (by simp)
    | cons b l2 =>
      obtain ⟨q1, r1⟩ := List.pairwise_cons.1 p1
      obtain ⟨q2, r2⟩ := List.pairwise_cons.1 p2
      have hab : a = b := by
        rcases List.mem_cons.1 ((h a).1 (by simp)) with e | h1
        · exact e
        · rcases List.mem_cons.1 ((h b).2 (by simp)) with e | h2
          · exact e.symm
          · exact absurd (ltE_trans (q2 a h1) (q1 b h2)) (ltE_irr _)
      subst hab
      rw [ih l2 r1 r2 fun e => ?_]
      constructor
      · intro he
        rcases List.mem_cons.1 ((h e).1 (List.mem_cons_of_mem _ he)) with e1 | h1
        · rw [e1] at he; exact absurd (q1 a he) (ltE_irr _)
        · exact h1
      · intro he
        rcases List.mem_cons.1 ((h e).2 (List.mem_cons_of_mem _ he)) with e1 | h1
        · rw [e1] at he; exact absurd (q2 a he) (ltE_irr _)
        · exact h1
/-- each once: what is kept of a sorted row rises, and nothing is lost -/
theorem comp_rise [Inhabited Ed] [DecidableEq Ed] (d : Array Ed) (hs : ∀ i j, i < j → j < d.size → ¬ ltE d[j]! d[i]!) : ∀ m, m ≤ d.size → (compactUpTo d m).Pairwise ltE ∧ ∀ e, e ∈ compactUpTo d m ↔ ∃ j, j < m ∧ d[j]! = e := by
  intro m
  induction m with
  | zero => intro _; exact ⟨List.Pairwise.nil, fun e => ⟨fun h => absurd h (by show ¬ e ∈ []; simp), fun ⟨_, h, _⟩ => absurd h (Nat.not_lt_zero _)⟩⟩
  | succ m ih =>
    intro hm
    obtain ⟨i1, i2⟩ := ih (by omega)
    rw [compactUpTo_succ]
    cases hk : keeps d m with
    | true =>
      rw [if_pos rfl]
      refine ⟨List.pairwise_append.2 ⟨i1, List.pairwise_singleton _ _, fun a ha b hb => ?_⟩, fun e => ?_⟩
      · rw [List.mem_singleton.1 hb]
        obtain ⟨j, hj, rfl⟩ := (i2 a).1 ha
        have hne : d[m]! ≠ d[m - 1]! := by
          unfold keeps at hk
          rcases of_decide_eq_true hk with h | h
          · omega
          · exact h
        have h1 := hs (m - 1) m (by omega) (by omega)
        have h2 : ¬ ltE d[m - 1]! d[j]! := by
          by_cases e : j = m - 1
          · rw [e]; exact ltE_irr _
          · exact hs j (m - 1) (by omega) (by omega)
        have h3 : ltE d[m - 1]! d[m]! := Classical.byContradiction fun h => hne (ltE_total h1 h)
        exact Classical.byContradiction fun h => by
          have h4 : d[j]! = d[m]! := ltE_total h (hs j m (by omega) (by omega))
          rw [h4] at h2
          exact h2 h3
      · rw [List.mem_append, i2]
        constructor
        · rintro (⟨j, hj, he⟩ | h)
          · exact ⟨j, by omega, he⟩
          · exact ⟨m, by omega, (List.mem_singleton.1 h).symm⟩
        · rintro ⟨j, hj, he⟩
          by_cases e1 : j = m
          · subst e1; exact .inr (List.mem_singleton.2 he.symm)
          · exact .inl ⟨j, by omega, he⟩
    | false =>
      rw [if_neg (by simp), List.append_nil]
      refine ⟨i1, fun e => ?_⟩
      rw [i2]
      constructor
      · rintro ⟨j, hj, he⟩; exact ⟨j, by omega, he⟩
      · rintro ⟨j, hj, he⟩
        by_cases e1 : j = m
        · subst e1
          unfold keeps at hk
          have hk2 := of_decide_eq_false hk
          have h0 : j ≠ 0 := fun h => hk2 (.inl h)
          have h1 : d[j]! = d[j - 1]! := Classical.byContradiction fun h => hk2 (.inr h)
          exact ⟨j - 1, by omega, by rw [← h1]; exact he⟩
        · exact ⟨j, by omega, he⟩
/-- F1: the program's row, sorted, each once -/
theorem comp_edges [Inhabited Ed] [DecidableEq Ed] {L : Lp} {t : Tg} (hm : mayB L = true) (ht : mayT t = true) (d : Array Ed) (hp : d.toList.Perm (allE L t)) (hs : ∀ i j, i < j → j < d.size → ¬ ltE d[j]! d[i]!) : compactUpTo d d.size = edgesD L t := by
  obtain ⟨h1, h2⟩ := comp_rise d hs d.size (Nat.le_refl _)
  refine rise_one _ _ h1 (frD_rise _) fun e => ?_
  rw [h2, ← all_mem hm ht, ← hp.mem_iff]
  constructor
  · rintro ⟨j, hj, rfl⟩
    rw [getElem!_pos d j hj]; simp
  · intro h
    obtain ⟨j, hj, he⟩ := List.getElem_of_mem h
    have hj' : j < d.size := by simpa using hj
    exact ⟨j, hj', by rw [getElem!_pos d j hj', ← he]; simp⟩
theorem all_len {L : Lp} {t : Tg} (hn : L.body.length ≤ 16) : (allE L t).length ≤ 288 := by
  unfold allE
  have h1 := refE_len L t L.body.length
  have h2 := wordE_len L L.body.length hn
  rw [List.length_append]
  have : L.body.length * 2 + L.body.length * 16 ≤ 288 := by omega
  omega
end Go.Proofs.Ytjoapiafpahihab
/- Contracts of package dep's small answers: what shares words, and whether two words meet; nothing that was there is changed. -/
namespace Go.Proofs.Ytjoapiafpahihab
open Go.RowKit Go.Joins
set_option linter.unusedVariables false

set_option maxHeartbeats 400000 in
theorem atWords_nine (o xa xb ya yb ar sp pl nn : Int) (w : World) :
    Calls Try.prog 109 #[.agg #[.int .i64 o, .int .i64 xa, .int .i64 xb, .int .i64 ya, .int .i64 yb, .int .i64 ar, .int .i64 sp, .int .i64 pl, .int .i64 nn]] w fun e w' => e = .returned (.bool (wordD ⟨o, xa, xb, ya, yb, ar, sp, pl, nn⟩)) ∧ Below w.heap.size w w' := by
  rcases three_ways o with ⟨rfl, a3, a4⟩ | ⟨rfl, a3, a4⟩ | ⟨ap, aq, a3, a4⟩
  · have HX : Hid (wordD ⟨3, xa, xb, ya, yb, ar, sp, pl, nn⟩ = true) := rfl
    go_enter Try.func109, Try.ntmps109
    go_wp2_with fail
    go_ret
    exact ⟨ret_bool HX.out.symm, below_alloc1 _ _⟩
  · have HX : Hid (wordD ⟨4, xa, xb, ya, yb, ar, sp, pl, nn⟩ = true) := rfl
    go_enter Try.func109, Try.ntmps109
    go_wp2_with fail
    go_ret
    exact ⟨ret_bool HX.out.symm, below_alloc1 _ _⟩
  · have HX : Hid (wordD ⟨o, xa, xb, ya, yb, ar, sp, pl, nn⟩ = false) := by show wordD _ = _; simp [wordD, *]
    go_enter Try.func109, Try.ntmps109
    go_wp2_with fail
    go_ret
    exact ⟨ret_bool HX.out.symm, below_alloc1 _ _⟩
set_option maxHeartbeats 400000 in
theorem wordWait_nine (o xa xb ya yb ar sp pl nn : Int) (w : World) :
    Calls Try.prog 87 #[.agg #[.int .i64 o, .int .i64 xa, .int .i64 xb, .int .i64 ya, .int .i64 yb, .int .i64 ar, .int .i64 sp, .int .i64 pl, .int .i64 nn]] w fun e w' => e = .returned (.int .i64 (waitD ⟨o, xa, xb, ya, yb, ar, sp, pl, nn⟩)) ∧ w' = w.alloc (.cells #[.int .i64 o, .int .i64 xa, .int .i64 xb, .int .i64 ya, .int .i64 yb, .int .i64 ar, .int .i64 sp, .int .i64 pl, .int .i64 nn] 65) := by
  by_cases h : o = 4
  · subst h
    have HX : Hid (waitD ⟨4, xa, xb, ya, yb, ar, sp, pl, nn⟩ = 1) := rfl
    go_enter Try.func87, Try.ntmps87
    go_wp2_with fail
    go_ret
    exact ⟨ret_int HX.out.symm, rfl⟩
  · have HX : Hid (waitD ⟨o, xa, xb, ya, yb, ar, sp, pl, nn⟩ = 0) := if_neg h
    have hb : (o == 4) = false := by simpa using h
    clear h
    go_enter Try.func87, Try.ntmps87
    go_wp2_with fail
    go_ret
    exact ⟨ret_int HX.out.symm, rfl⟩
set_option maxHeartbeats 1000000 in
theorem share_nine (o1 xa1 xb1 ya1 yb1 ar1 sp1 pl1 nn1 o2 xa2 xb2 ya2 yb2 ar2 sp2 pl2 nn2 : Int) (w : World) :
    Calls Try.prog 85 #[.agg #[.int .i64 o1, .int .i64 xa1, .int .i64 xb1, .int .i64 ya1, .int .i64 yb1, .int .i64 ar1, .int .i64 sp1, .int .i64 pl1, .int .i64 nn1], .agg #[.int .i64 o2, .int .i64 xa2, .int .i64 xb2, .int .i64 ya2, .int .i64 yb2, .int .i64 ar2, .int .i64 sp2, .int .i64 pl2, .int .i64 nn2]] w fun e w' => e = .returned (.bool (memD ⟨o1, xa1, xb1, ya1, yb1, ar1, sp1, pl1, nn1⟩ ⟨o2, xa2, xb2, ya2, yb2, ar2, sp2, pl2, nn2⟩)) ∧ Below w.heap.size w w' := by
  have HA := hide (fun W => atWords_nine o1 xa1 xb1 ya1 yb1 ar1 sp1 pl1 nn1 W)
  have HB := hide (fun W => atWords_nine o2 xa2 xb2 ya2 yb2 ar2 sp2 pl2 nn2 W)
  have HX : Hid (memD ⟨o1, xa1, xb1, ya1, yb1, ar1, sp1, pl1, nn1⟩ ⟨o2, xa2, xb2, ya2, yb2, ar2, sp2, pl2, nn2⟩ = (wordD ⟨o1, xa1, xb1, ya1, yb1, ar1, sp1, pl1, nn1⟩ && wordD ⟨o2, xa2, xb2, ya2, yb2, ar2, sp2, pl2, nn2⟩ && decide (ar1 = ar2) && (decide (o1 = 4) || decide (o2 = 4)))) := rfl
  generalize memD ⟨o1, xa1, xb1, ya1, yb1, ar1, sp1, pl1, nn1⟩ ⟨o2, xa2, xb2, ya2, yb2, ar2, sp2, pl2, nn2⟩ = R at HX ⊢
  generalize wordD ⟨o1, xa1, xb1, ya1, yb1, ar1, sp1, pl1, nn1⟩ = b1 at HA HX
  generalize wordD ⟨o2, xa2, xb2, ya2, yb2, ar2, sp2, pl2, nn2⟩ = b2 at HB HX
  cases b1 with
  | false =>
    have HR : Hid (R = false) := HX.out
    clear HX
    go_enter Try.func85, Try.ntmps85
    go_wp2_with fail
    refine (HA.out _).mono ?_
    rintro e x1 ⟨rfl, hb1⟩
    have HW := hide ((below_alloc2 w _ _).trans (hb1.mono (by simp; omega)))
    clear hb1
    go_wp2_with fail
    go_ret
    exact ⟨ret_bool HR.out.symm, HW.out⟩
  | true =>
    have hs : ((w.alloc (.cells #[.int .i64 o1, .int .i64 xa1, .int .i64 xb1, .int .i64 ya1, .int .i64 yb1, .int .i64 ar1, .int .i64 sp1, .int .i64 pl1, .int .i64 nn1] 65)).alloc (.cells #[.int .i64 o2, .int .i64 xa2, .int .i64 xb2, .int .i64 ya2, .int .i64 yb2, .int .i64 ar2, .int .i64 sp2, .int .i64 pl2, .int .i64 nn2] 65)).heap.size = w.heap.size + 1 + 1 := by simp
    have HS := hide hs
    clear hs
    cases b2 with
    | false =>
      have HR : Hid (R = false) := HX.out
      clear HX
      go_enter Try.func85, Try.ntmps85
      go_wp2_with fail
      refine (HA.out _).mono ?_
      rintro e x1 ⟨rfl, hb1⟩
      have hc1 := bcell hb1
      have hz1 := hb1.size
      rw [HS.out] at hz1
      have HW := hide ((below_alloc2 w _ _).trans (hb1.mono (by simp; omega)))
      clear hb1
      go_wp2_with fail
      refine (HB.out _).mono ?_
      rintro e x2 ⟨rfl, hb2⟩
      have HW2 := hide (HW.out.trans (hb2.mono HW.out.size))
      clear hb2
      go_wp2_with fail
      go_ret
      exact ⟨ret_bool HR.out.symm, HW2.out⟩
    | true =>
      go_enter Try.func85, Try.ntmps85
      go_wp2_with fail
      refine (HA.out _).mono ?_
      rintro e x1 ⟨rfl, hb1⟩
      have hc1 := bcell hb1
      have hz1 := hb1.size
      rw [HS.out] at hz1
      have HW := hide ((below_alloc2 w _ _).trans (hb1.mono (by simp; omega)))
      clear hb1
      go_wp2_with fail
      refine (HB.out _).mono ?_
      rintro e x2 ⟨rfl, hb2⟩
      have z0 : w.heap.size < x1.heap.size := by omega
      have z1 : w.heap.size + 1 < x1.heap.size := by omega
      have hc2 := bcell hb2
      have HW2 := hide (HW.out.trans (hb2.mono HW.out.size))
      clear hb2
      by_cases hra : ar1 = ar2
      · subst hra
        by_cases h1 : o1 = 4
        · subst h1
          have HR : Hid (R = true) := by show R = true; rw [HX.out]; simp
          clear HX
          go_wp2_with fail
          go_ret
          exact ⟨ret_bool HR.out.symm, HW2.out⟩
        · have g1 : (o1 == 4) = false := by simpa using h1
          by_cases h2 : o2 = 4
          · subst h2
            have HR : Hid (R = true) := by show R = true; rw [HX.out]; simp
            clear HX
            go_wp2_with fail
            go_ret
            exact ⟨ret_bool HR.out.symm, HW2.out⟩
          · have g2 : (o2 == 4) = false := by simpa using h2
            have HR : Hid (R = false) := by show R = false; rw [HX.out]; simp [h1, h2]
            clear HX
            go_wp2_with fail
            go_ret
            exact ⟨ret_bool HR.out.symm, HW2.out⟩
      · have g3 : (ar1 == ar2) = false := by simpa using hra
        have HR : Hid (R = false) := by show R = false; rw [HX.out]; simp [hra]
        clear HX
        go_wp2_with fail
        go_ret
        exact ⟨ret_bool HR.out.symm, HW2.out⟩

theorem meet_cells {w wr : World} {o1 xa1 xb1 ya1 yb1 ar1 sp1 pl1 nn1 o2 xa2 xb2 ya2 yb2 ar2 sp2 pl2 nn2 : Int} {ta tb : TypeId} (h : Below (w.heap.size + 1 + 1) ((w.alloc (.cells #[.int .i64 o1, .int .i64 xa1, .int .i64 xb1, .int .i64 ya1, .int .i64 yb1, .int .i64 ar1, .int .i64 sp1, .int .i64 pl1, .int .i64 nn1] ta)).alloc (.cells #[.int .i64 o2, .int .i64 xa2, .int .i64 xb2, .int .i64 ya2, .int .i64 yb2, .int .i64 ar2, .int .i64 sp2, .int .i64 pl2, .int .i64 nn2] tb)) wr) :
    wr.cell? ⟨w.heap.size, 6, none⟩ = some (.int .i64 sp1) ∧ wr.cell? ⟨w.heap.size, 7, none⟩ = some (.int .i64 pl1) ∧ wr.cell? ⟨w.heap.size + 1, 6, none⟩ = some (.int .i64 sp2) ∧ wr.cell? ⟨w.heap.size + 1, 7, none⟩ = some (.int .i64 pl2) ∧ Below w.heap.size w wr := by
  have hs : ((w.alloc (.cells #[.int .i64 o1, .int .i64 xa1, .int .i64 xb1, .int .i64 ya1, .int .i64 yb1, .int .i64 ar1, .int .i64 sp1, .int .i64 pl1, .int .i64 nn1] ta)).alloc (.cells #[.int .i64 o2, .int .i64 xa2, .int .i64 xb2, .int .i64 ya2, .int .i64 yb2, .int .i64 ar2, .int .i64 sp2, .int .i64 pl2, .int .i64 nn2] tb)).heap.size = w.heap.size + 1 + 1 := by simp
  have h' : Below ((w.alloc (.cells #[.int .i64 o1, .int .i64 xa1, .int .i64 xb1, .int .i64 ya1, .int .i64 yb1, .int .i64 ar1, .int .i64 sp1, .int .i64 pl1, .int .i64 nn1] ta)).alloc (.cells #[.int .i64 o2, .int .i64 xa2, .int .i64 xb2, .int .i64 ya2, .int .i64 yb2, .int .i64 ar2, .int .i64 sp2, .int .i64 pl2, .int .i64 nn2] tb)).heap.size ((w.alloc (.cells #[.int .i64 o1, .int .i64 xa1, .int .i64 xb1, .int .i64 ya1, .int .i64 yb1, .int .i64 ar1, .int .i64 sp1, .int .i64 pl1, .int .i64 nn1] ta)).alloc (.cells #[.int .i64 o2, .int .i64 xa2, .int .i64 xb2, .int .i64 ya2, .int .i64 yb2, .int .i64 ar2, .int .i64 sp2, .int .i64 pl2, .int .i64 nn2] tb)) wr := by rw [hs]; exact h
  refine ⟨?_, ?_, ?_, ?_, (below_alloc2 w _ _).trans (h.mono (by omega))⟩
  all_goals rw [bcell h' _ _ (by omega)]
  all_goals go_simp
set_option maxHeartbeats 1000000 in
theorem meet_nine (o1 xa1 xb1 ya1 yb1 ar1 sp1 pl1 nn1 o2 xa2 xb2 ya2 yb2 ar2 sp2 pl2 nn2 lg : Int) (back SZ : Nat) (w : World) (hl0 : 0 ≤ lg) (hl5 : lg ≤ 5) (hSZ : 2 ^ lg.toNat = SZ) (hsh : wrap64 (2 ^ lg.toNat) = (SZ : Int)) (hS : SZ ≤ 32) (hb : back ≤ 32) (h1 : -64 ≤ sp1) (h2 : sp1 ≤ 64) (h3 : -64 ≤ pl1) (h4 : pl1 ≤ 64) (h5 : -64 ≤ sp2) (h6 : sp2 ≤ 64) (h7 : -64 ≤ pl2) (h8 : pl2 ≤ 64) :
    Calls Try.prog 110 #[.agg #[.int .i64 o1, .int .i64 xa1, .int .i64 xb1, .int .i64 ya1, .int .i64 yb1, .int .i64 ar1, .int .i64 sp1, .int .i64 pl1, .int .i64 nn1], .agg #[.int .i64 o2, .int .i64 xa2, .int .i64 xb2, .int .i64 ya2, .int .i64 yb2, .int .i64 ar2, .int .i64 sp2, .int .i64 pl2, .int .i64 nn2], .int .i64 back, .int .i64 lg] w fun e w' => e = .returned (.bool (meetsD ⟨o1, xa1, xb1, ya1, yb1, ar1, sp1, pl1, nn1⟩ ⟨o2, xa2, xb2, ya2, yb2, ar2, sp2, pl2, nn2⟩ back SZ)) ∧ Below w.heap.size w w' := by
  have HSZ := hide hSZ
  clear hSZ
  go_enter Try.func110, Try.ntmps110
  go_wp2_with fail
  go_loopw [12] (fun i wr => ∃ k : Nat, k ≤ SZ ∧ i = .int .i64 k ∧ exN (meetAt ⟨o1, xa1, xb1, ya1, yb1, ar1, sp1, pl1, nn1⟩ ⟨o2, xa2, xb2, ya2, yb2, ar2, sp2, pl2, nn2⟩ back SZ) k = false ∧ Below (w.heap.size + 1 + 1) ((w.alloc (.cells #[.int .i64 o1, .int .i64 xa1, .int .i64 xb1, .int .i64 ya1, .int .i64 yb1, .int .i64 ar1, .int .i64 sp1, .int .i64 pl1, .int .i64 nn1] 65)).alloc (.cells #[.int .i64 o2, .int .i64 xa2, .int .i64 xb2, .int .i64 ya2, .int .i64 yb2, .int .i64 ar2, .int .i64 sp2, .int .i64 pl2, .int .i64 nn2] 65)) wr) (fun i _ => SZ - (intOf i).toNat)
  case atStart => exact ⟨0, Nat.zero_le _, rfl, rfl, Below.refl _ _⟩
  case round =>
    obtain ⟨k, hk, rfl, hex, hbel⟩ := hrel
    have HEX := hide hex
    obtain ⟨c1, c2, c3, c4, hbw⟩ := meet_cells hbel
    have HB := hide hbel
    have HW := hide hbw
    clear hex hbel hbw
    by_cases hlt : k < SZ
    · have hki : (k : Int) < (SZ : Int) := by omega
      have e1 : idx sp1 pl1 k lg = (sp1 * k + pl1) % SZ := by
        unfold idx p2
        rw [if_pos (by omega), HSZ.out]
      have e2 : idx sp2 pl2 ((k : Int) + back) lg = (sp2 * ((k : Int) + back) + pl2) % SZ := by
        unfold idx p2
        rw [if_pos (by omega), HSZ.out]
      have HM : Hid (meetAt ⟨o1, xa1, xb1, ya1, yb1, ar1, sp1, pl1, nn1⟩ ⟨o2, xa2, xb2, ya2, yb2, ar2, sp2, pl2, nn2⟩ back SZ k = decide (idx sp1 pl1 k lg = idx sp2 pl2 ((k : Int) + back) lg)) := by show _ = decide _; rw [e1, e2]; rfl
      have ew : IntKind.i64.wrap ((k : Int) + (back : Int)) = (k : Int) + back := wrap_in _ (by omega) (by omega)
      clear e1 e2
      by_cases hXY : idx sp1 pl1 k lg = idx sp2 pl2 ((k : Int) + back) lg
      · have HT : Hid (meetsD ⟨o1, xa1, xb1, ya1, yb1, ar1, sp1, pl1, nn1⟩ ⟨o2, xa2, xb2, ya2, yb2, ar2, sp2, pl2, nn2⟩ back SZ = true) := exN_true hlt (by rw [HM.out]; exact decide_eq_true hXY)
        have hbb : (idx sp1 pl1 k lg == idx sp2 pl2 ((k : Int) + back) lg) = true := by simpa using hXY
        clear hXY
        go_wp2_with fail
        go_big_quiet ((go_at_call 131; exact Calls.quiet_of_same (index_any _ _ _ _ _)))
        go_wp2_with fail
        go_ret
        exact ⟨ret_bool HT.out.symm, HW.out.trans (below_draws _ _ _)⟩
      · have HF := hide (exN_step HEX.out (by rw [HM.out]; exact decide_eq_false hXY))
        have hbb : (idx sp1 pl1 k lg == idx sp2 pl2 ((k : Int) + back) lg) = false := by simpa using hXY
        clear hXY
        go_wp2_with fail
        go_big_quiet ((go_at_call 131; exact Calls.quiet_of_same (index_any _ _ _ _ _)))
        go_wp2_with fail
        go_roundw
        case rel => exact ⟨k + 1, by omega, by go_num, HF.out, HB.out.trans (below_draws _ _ _)⟩
        case measure => simp [intOf]; omega
    · have e : k = SZ := by omega
      have HT : Hid (meetsD ⟨o1, xa1, xb1, ya1, yb1, ar1, sp1, pl1, nn1⟩ ⟨o2, xa2, xb2, ya2, yb2, ar2, sp2, pl2, nn2⟩ back SZ = false) := by show meetsD _ _ _ _ = false; rw [← e]; unfold meetsD; rw [e]; rw [e] at HEX; exact HEX.out
      have hki : ¬ (k : Int) < (SZ : Int) := by omega
      clear e
      go_wp2_with fail
      go_ret
      exact ⟨ret_bool HT.out.symm, HW.out⟩
end Go.Proofs.Ytjoapiafpahihab
/- The contract of package dep's leastBack: the least number of turns on for which two words meet; nothing that was there is changed. -/
namespace Go.Proofs.Ytjoapiafpahihab
open Go.RowKit Go.Joins
set_option linter.unusedVariables false

def lbV (o : Option Nat) : Int := match o with | some b => (b : Int) | none => 0
def lbB (o : Option Nat) : Bool := match o with | some _ => true | none => false

theorem no_step {p : Nat → Bool} {lo k : Nat} (h : ∀ j, lo ≤ j → j < k → p j = false) (hk : p k = false) : ∀ j, lo ≤ j → j < k + 1 → p j = false := fun j h1 h2 => by
  by_cases e : j = k
  · rw [e]; exact hk
  · exact h j h1 (by omega)
theorem below_drew1 (n : Nat) (w : World) : Below n w w.drew := below_draws _ _ 1
theorem two_up {w y : World} {o : Obj} {o1 xa1 xb1 ya1 yb1 ar1 sp1 pl1 nn1 o2 xa2 xb2 ya2 yb2 ar2 sp2 pl2 nn2 : Int} {ta tb : TypeId} (h : Below (((w.alloc o).alloc (.cells #[.int .i64 o1, .int .i64 xa1, .int .i64 xb1, .int .i64 ya1, .int .i64 yb1, .int .i64 ar1, .int .i64 sp1, .int .i64 pl1, .int .i64 nn1] ta)).alloc (.cells #[.int .i64 o2, .int .i64 xa2, .int .i64 xb2, .int .i64 ya2, .int .i64 yb2, .int .i64 ar2, .int .i64 sp2, .int .i64 pl2, .int .i64 nn2] tb)).heap.size (((w.alloc o).alloc (.cells #[.int .i64 o1, .int .i64 xa1, .int .i64 xb1, .int .i64 ya1, .int .i64 yb1, .int .i64 ar1, .int .i64 sp1, .int .i64 pl1, .int .i64 nn1] ta)).alloc (.cells #[.int .i64 o2, .int .i64 xa2, .int .i64 xb2, .int .i64 ya2, .int .i64 yb2, .int .i64 ar2, .int .i64 sp2, .int .i64 pl2, .int .i64 nn2] tb)) y) :
    (y.cell? ⟨w.heap.size + 1, 0, none⟩ = some (.int .i64 o1) ∧ y.cell? ⟨w.heap.size + 1, 1, none⟩ = some (.int .i64 xa1) ∧ y.cell? ⟨w.heap.size + 1, 2, none⟩ = some (.int .i64 xb1) ∧ y.cell? ⟨w.heap.size + 1, 3, none⟩ = some (.int .i64 ya1) ∧ y.cell? ⟨w.heap.size + 1, 4, none⟩ = some (.int .i64 yb1) ∧ y.cell? ⟨w.heap.size + 1, 5, none⟩ = some (.int .i64 ar1) ∧ y.cell? ⟨w.heap.size + 1, 6, none⟩ = some (.int .i64 sp1) ∧ y.cell? ⟨w.heap.size + 1, 7, none⟩ = some (.int .i64 pl1) ∧ y.cell? ⟨w.heap.size + 1, 8, none⟩ = some (.int .i64 nn1)) ∧
    (y.cell? ⟨w.heap.size + 1 + 1, 0, none⟩ = some (.int .i64 o2) ∧ y.cell? ⟨w.heap.size + 1 + 1, 1, none⟩ = some (.int .i64 xa2) ∧ y.cell? ⟨w.heap.size + 1 + 1, 2, none⟩ = some (.int .i64 xb2) ∧ y.cell? ⟨w.heap.size + 1 + 1, 3, none⟩ = some (.int .i64 ya2) ∧ y.cell? ⟨w.heap.size + 1 + 1, 4, none⟩ = some (.int .i64 yb2) ∧ y.cell? ⟨w.heap.size + 1 + 1, 5, none⟩ = some (.int .i64 ar2) ∧ y.cell? ⟨w.heap.size + 1 + 1, 6, none⟩ = some (.int .i64 sp2) ∧ y.cell? ⟨w.heap.size + 1 + 1, 7, none⟩ = some (.int .i64 pl2) ∧ y.cell? ⟨w.heap.size + 1 + 1, 8, none⟩ = some (.int .i64 nn2)) ∧ w.heap.size + 1 < y.heap.size ∧ w.heap.size + 1 + 1 < y.heap.size ∧ Below w.heap.size w y := by
  have e : (w.alloc o).heap.size = w.heap.size + 1 := by simp
  obtain ⟨h1, h2, h3, h4, h5⟩ := two_cells h
  rw [e] at h1 h2 h3 h4
  exact ⟨h1, h2, h3, h4, (below_alloc1 w o).trans (h5.mono (by rw [e]; omega))⟩
set_option maxHeartbeats 4000000 in
set_option maxRecDepth 100000 in
theorem least_walk (v1' v2 : Value) (fr to arn lgN n : Nat) (o1 xa1 xb1 ya1 yb1 sp1 pl1 nn1 o2 xa2 xb2 ya2 yb2 ar2 sp2 pl2 nn2 : Int) (lb loff cap0 b off cap SZ lo m : Nat) (w : World) (hfr : fr < n) (hto : to < n) (hn : n ≤ 16) (hnc : n ≤ cap) (hcap : cap ≤ 9223372036854775807) (hml : arn < m) (hmc : m ≤ cap0) (hc0 : cap0 ≤ 9223372036854775807) (hb : b < w.heap.size) (hlb : lb < w.heap.size)
    (ha : ∀ j, j < 9 → w.cell? ⟨b, off + fr * 9 + j, none⟩ = (stCells ⟨o1, xa1, xb1, ya1, yb1, arn, sp1, pl1, nn1⟩)[j]?) (hc : ∀ j, j < 9 → w.cell? ⟨b, off + to * 9 + j, none⟩ = (stCells ⟨o2, xa2, xb2, ya2, yb2, ar2, sp2, pl2, nn2⟩)[j]?) (hlg : w.cell? ⟨lb, loff + arn, none⟩ = some (.int .i64 lgN)) (hl5 : lgN ≤ 5) (hSZ : 2 ^ lgN = SZ) (hS : SZ ≤ 32) (hlo : leastD fr to = lo) (h1 : -64 ≤ sp1) (h2 : sp1 ≤ 64) (h3 : -64 ≤ pl1) (h4 : pl1 ≤ 64) (h5 : -64 ≤ sp2) (h6 : sp2 ≤ 64) (h7 : -64 ≤ pl2) (h8 : pl2 ≤ 64) :
    Calls Try.prog 86 #[.agg #[.slice (some ⟨lb, loff, none⟩) m cap0, .slice (some ⟨b, off, none⟩) n cap, v2], .int .i64 fr, .int .i64 to] w fun e w' => e = .returned (.tuple #[.int .i64 (lbV (lbD ⟨o1, xa1, xb1, ya1, yb1, arn, sp1, pl1, nn1⟩ ⟨o2, xa2, xb2, ya2, yb2, ar2, sp2, pl2, nn2⟩ lo SZ)), .bool (lbB (lbD ⟨o1, xa1, xb1, ya1, yb1, arn, sp1, pl1, nn1⟩ ⟨o2, xa2, xb2, ya2, yb2, ar2, sp2, pl2, nn2⟩ lo SZ))]) ∧ Below w.heap.size w w' := by
  obtain ⟨a0, a1, a2, a3, a4, a5, a6, a7, a8⟩ := nine ha
  obtain ⟨c0, c1, c2, c3, c4, c5, c6, c7, c8⟩ := nine hc
  dsimp only at a0 a1 a2 a3 a4 a5 a6 a7 a8 c0 c1 c2 c3 c4 c5 c6 c7 c8
  have HMT := hide (fun (k : Nat) W (hk : k ≤ 32) => meet_nine o1 xa1 xb1 ya1 yb1 arn sp1 pl1 nn1 o2 xa2 xb2 ya2 yb2 ar2 sp2 pl2 nn2 lgN k SZ W (by omega) (by omega) (by simpa using hSZ) (by rw [shl_one _ (by omega) (by omega)]; rw [show ((lgN : Nat) : Int).toNat = lgN from Int.toNat_natCast _, hSZ]) hS hk h1 h2 h3 h4 h5 h6 h7 h8)
  have hsh : wrap64 (2 ^ lgN) = (SZ : Int) := by have := shl_one lgN (by omega) (by omega); rw [show ((lgN : Nat) : Int).toNat = lgN from Int.toNat_natCast _, hSZ] at this; exact this
  have HSH := hide hsh
  clear hsh
  have hfi : (fr : Int) < (n : Int) := by omega
  have hti : (to : Int) < (n : Int) := by omega
  have hmi : (arn : Int) < (m : Int) := by omega
  have hb1 : b < w.heap.size + 1 := by omega
  have hb2 : b < w.heap.size + 1 + 1 := by omega
  have hd1 : lb < w.heap.size + 1 := by omega
  have hd2 : lb < w.heap.size + 1 + 1 := by omega
  clear ha hc hSZ
  by_cases hft : fr < to
  · have hfti : (fr : Int) < (to : Int) := by omega
    have HLO : Hid (lo = 0) := by show lo = 0; rw [← hlo]; unfold leastD; rw [if_neg (by omega)]
    clear hlo
    go_enter Try.func86, Try.ntmps86
    go_wp2_with fail
    go_region
    · go_wp2_with fail
      go_loopw [12] (fun i wr => ∃ k : Nat, 0 ≤ k ∧ k ≤ SZ + 1 ∧ i = .int .i64 k ∧ (∀ j, 0 ≤ j → j < k → meetsD ⟨o1, xa1, xb1, ya1, yb1, arn, sp1, pl1, nn1⟩ ⟨o2, xa2, xb2, ya2, yb2, ar2, sp2, pl2, nn2⟩ j SZ = false) ∧ Below (((w.alloc (.cells #[.slice (some ⟨lb, loff, none⟩) m cap0, .slice (some ⟨b, off, none⟩) n cap, v2] 25)).alloc (.cells #[.int .i64 o1, .int .i64 xa1, .int .i64 xb1, .int .i64 ya1, .int .i64 yb1, .int .i64 arn, .int .i64 sp1, .int .i64 pl1, .int .i64 nn1] 65)).alloc (.cells #[.int .i64 o2, .int .i64 xa2, .int .i64 xb2, .int .i64 ya2, .int .i64 yb2, .int .i64 ar2, .int .i64 sp2, .int .i64 pl2, .int .i64 nn2] 65)).heap.size (((w.alloc (.cells #[.slice (some ⟨lb, loff, none⟩) m cap0, .slice (some ⟨b, off, none⟩) n cap, v2] 25)).alloc (.cells #[.int .i64 o1, .int .i64 xa1, .int .i64 xb1, .int .i64 ya1, .int .i64 yb1, .int .i64 arn, .int .i64 sp1, .int .i64 pl1, .int .i64 nn1] 65)).alloc (.cells #[.int .i64 o2, .int .i64 xa2, .int .i64 xb2, .int .i64 ya2, .int .i64 yb2, .int .i64 ar2, .int .i64 sp2, .int .i64 pl2, .int .i64 nn2] 65)) wr) (fun i _ => SZ + 1 - (intOf i).toNat)
      case atStart => exact ⟨0, Nat.le_refl _, by omega, rfl, fun j h1 h2 => absurd h2 (by omega), below_drew1 _ _⟩
      case round =>
        obtain ⟨k, hk1, hk2, rfl, hno, hbel⟩ := hrel
        have HNO := hide hno
        have HB := hide hbel
        obtain ⟨⟨g0, g1, g2, g3, g4, g5, g6, g7, g8⟩, ⟨d0, d1, d2, d3, d4, d5, d6, d7, d8⟩, z0, z1, hbw⟩ := two_up hbel
        have HW := hide hbw
        clear hno hbel hbw
        by_cases hlt : k ≤ SZ
        · have hki : (k : Int) ≤ (SZ : Int) := by omega
          cases hme : meetsD ⟨o1, xa1, xb1, ya1, yb1, arn, sp1, pl1, nn1⟩ ⟨o2, xa2, xb2, ya2, yb2, ar2, sp2, pl2, nn2⟩ k SZ with
          | true =>
            have HR : Hid (lbD ⟨o1, xa1, xb1, ya1, yb1, arn, sp1, pl1, nn1⟩ ⟨o2, xa2, xb2, ya2, yb2, ar2, sp2, pl2, nn2⟩ 0 SZ = some k) := lb_some hk1 hlt hme HNO.out
            have HM := hide (HMT.out k wr (by omega))
            rw [hme] at HM
            clear hme
            have hsh := HSH.out
            go_wp2_with fail
            clear hsh
            refine HM.out.mono ?_
            rintro e x1 ⟨rfl, hb3⟩
            have HW2 := hide (HW.out.trans (hb3.mono HW.out.size))
            clear hb3
            go_wp2_with fail
            exact bodyPost_ret (v := .tuple #[.int .i64 k, .bool true]) (by simp [results, Try.results86, go_sem]) rfl ⟨by rw [HLO.out, HR.out]; rfl, HW2.out⟩
          | false =>
            have HM := hide (HMT.out k wr (by omega))
            rw [hme] at HM
            have HF := hide hme
            clear hme
            have hsh := HSH.out
            go_wp2_with fail
            clear hsh
            refine HM.out.mono ?_
            rintro e x1 ⟨rfl, hb3⟩
            have HB2 := hide (HB.out.trans (hb3.mono HB.out.size))
            clear hb3
            go_wp2_with fail
            go_roundw
            case rel => exact ⟨k + 1, by omega, by omega, by go_num, no_step HNO.out HF.out, HB2.out⟩
            case measure => simp [intOf]; omega
        · have hki : ¬ (k : Int) ≤ (SZ : Int) := by omega
          have HR : Hid (lbD ⟨o1, xa1, xb1, ya1, yb1, arn, sp1, pl1, nn1⟩ ⟨o2, xa2, xb2, ya2, yb2, ar2, sp2, pl2, nn2⟩ 0 SZ = none) := lb_none fun j h1 h2 => HNO.out j h1 (by omega)
          have hsh := HSH.out
          go_wp2_with fail
          exact bodyPost_ret (v := .tuple #[.int .i64 0, .bool false]) (by simp [results, Try.results86, go_sem]) rfl ⟨by rw [HLO.out, HR.out]; rfl, HW.out⟩
    · go_wp2_with fail
      go_loopw [12] (fun i wr => ∃ k : Nat, 0 ≤ k ∧ k ≤ SZ + 1 ∧ i = .int .i64 k ∧ (∀ j, 0 ≤ j → j < k → meetsD ⟨o1, xa1, xb1, ya1, yb1, arn, sp1, pl1, nn1⟩ ⟨o2, xa2, xb2, ya2, yb2, ar2, sp2, pl2, nn2⟩ j SZ = false) ∧ Below (((w.alloc (.cells #[.slice (some ⟨lb, loff, none⟩) m cap0, .slice (some ⟨b, off, none⟩) n cap, v2] 25)).alloc (.cells #[.int .i64 o2, .int .i64 xa2, .int .i64 xb2, .int .i64 ya2, .int .i64 yb2, .int .i64 ar2, .int .i64 sp2, .int .i64 pl2, .int .i64 nn2] 65)).alloc (.cells #[.int .i64 o1, .int .i64 xa1, .int .i64 xb1, .int .i64 ya1, .int .i64 yb1, .int .i64 arn, .int .i64 sp1, .int .i64 pl1, .int .i64 nn1] 65)).heap.size (((w.alloc (.cells #[.slice (some ⟨lb, loff, none⟩) m cap0, .slice (some ⟨b, off, none⟩) n cap, v2] 25)).alloc (.cells #[.int .i64 o2, .int .i64 xa2, .int .i64 xb2, .int .i64 ya2, .int .i64 yb2, .int .i64 ar2, .int .i64 sp2, .int .i64 pl2, .int .i64 nn2] 65)).alloc (.cells #[.int .i64 o1, .int .i64 xa1, .int .i64 xb1, .int .i64 ya1, .int .i64 yb1, .int .i64 arn, .int .i64 sp1, .int .i64 pl1, .int .i64 nn1] 65)) wr) (fun i _ => SZ + 1 - (intOf i).toNat)
      case atStart => exact ⟨0, Nat.le_refl _, by omega, rfl, fun j h1 h2 => absurd h2 (by omega), below_drew1 _ _⟩
      case round =>
        obtain ⟨k, hk1, hk2, rfl, hno, hbel⟩ := hrel
        have HNO := hide hno
        have HB := hide hbel
        obtain ⟨⟨g0, g1, g2, g3, g4, g5, g6, g7, g8⟩, ⟨d0, d1, d2, d3, d4, d5, d6, d7, d8⟩, z0, z1, hbw⟩ := two_up hbel
        have HW := hide hbw
        clear hno hbel hbw
        by_cases hlt : k ≤ SZ
        · have hki : (k : Int) ≤ (SZ : Int) := by omega
          cases hme : meetsD ⟨o1, xa1, xb1, ya1, yb1, arn, sp1, pl1, nn1⟩ ⟨o2, xa2, xb2, ya2, yb2, ar2, sp2, pl2, nn2⟩ k SZ with
          | true =>
            have HR : Hid (lbD ⟨o1, xa1, xb1, ya1, yb1, arn, sp1, pl1, nn1⟩ ⟨o2, xa2, xb2, ya2, yb2, ar2, sp2, pl2, nn2⟩ 0 SZ = some k) := lb_some hk1 hlt hme HNO.out
            have HM := hide (HMT.out k wr (by omega))
            rw [hme] at HM
            clear hme
            have hsh := HSH.out
            go_wp2_with fail
            clear hsh
            refine HM.out.mono ?_
            rintro e x1 ⟨rfl, hb3⟩
            have HW2 := hide (HW.out.trans (hb3.mono HW.out.size))
            clear hb3
            go_wp2_with fail
            exact bodyPost_ret (v := .tuple #[.int .i64 k, .bool true]) (by simp [results, Try.results86, go_sem]) rfl ⟨by rw [HLO.out, HR.out]; rfl, HW2.out⟩
          | false =>
            have HM := hide (HMT.out k wr (by omega))
            rw [hme] at HM
            have HF := hide hme
            clear hme
            have hsh := HSH.out
            go_wp2_with fail
            clear hsh
            refine HM.out.mono ?_
            rintro e x1 ⟨rfl, hb3⟩
            have HB2 := hide (HB.out.trans (hb3.mono HB.out.size))
            clear hb3
            go_wp2_with fail
            go_roundw
            case rel => exact ⟨k + 1, by omega, by omega, by go_num, no_step HNO.out HF.out, HB2.out⟩
            case measure => simp [intOf]; omega
        · have hki : ¬ (k : Int) ≤ (SZ : Int) := by omega
          have HR : Hid (lbD ⟨o1, xa1, xb1, ya1, yb1, arn, sp1, pl1, nn1⟩ ⟨o2, xa2, xb2, ya2, yb2, ar2, sp2, pl2, nn2⟩ 0 SZ = none) := lb_none fun j h1 h2 => HNO.out j h1 (by omega)
          have hsh := HSH.out
          go_wp2_with fail
          exact bodyPost_ret (v := .tuple #[.int .i64 0, .bool false]) (by simp [results, Try.results86, go_sem]) rfl ⟨by rw [HLO.out, HR.out]; rfl, HW.out⟩
  · have hfti : ¬ (fr : Int) < (to : Int) := by omega
    have HLO : Hid (lo = 1) := by show lo = 1; rw [← hlo]; unfold leastD; rw [if_pos (by omega)]
    clear hlo
    go_enter Try.func86, Try.ntmps86
    go_wp2_with fail
    go_region
    · go_wp2_with fail
      go_loopw [12] (fun i wr => ∃ k : Nat, 1 ≤ k ∧ k ≤ SZ + 1 ∧ i = .int .i64 k ∧ (∀ j, 1 ≤ j → j < k → meetsD ⟨o1, xa1, xb1, ya1, yb1, arn, sp1, pl1, nn1⟩ ⟨o2, xa2, xb2, ya2, yb2, ar2, sp2, pl2, nn2⟩ j SZ = false) ∧ Below (((w.alloc (.cells #[.slice (some ⟨lb, loff, none⟩) m cap0, .slice (some ⟨b, off, none⟩) n cap, v2] 25)).alloc (.cells #[.int .i64 o1, .int .i64 xa1, .int .i64 xb1, .int .i64 ya1, .int .i64 yb1, .int .i64 arn, .int .i64 sp1, .int .i64 pl1, .int .i64 nn1] 65)).alloc (.cells #[.int .i64 o2, .int .i64 xa2, .int .i64 xb2, .int .i64 ya2, .int .i64 yb2, .int .i64 ar2, .int .i64 sp2, .int .i64 pl2, .int .i64 nn2] 65)).heap.size (((w.alloc (.cells #[.slice (some ⟨lb, loff, none⟩) m cap0, .slice (some ⟨b, off, none⟩) n cap, v2] 25)).alloc (.cells #[.int .i64 o1, .int .i64 xa1, .int .i64 xb1, .int .i64 ya1, .int .i64 yb1, .int .i64 arn, .int .i64 sp1, .int .i64 pl1, .int .i64 nn1] 65)).alloc (.cells #[.int .i64 o2, .int .i64 xa2, .int .i64 xb2, .int .i64 ya2, .int .i64 yb2, .int .i64 ar2, .int .i64 sp2, .int .i64 pl2, .int .i64 nn2] 65)) wr) (fun i _ => SZ + 1 - (intOf i).toNat)
      case atStart => exact ⟨1, Nat.le_refl _, by omega, rfl, fun j h1 h2 => absurd h2 (by omega), below_drew1 _ _⟩
      case round =>
        obtain ⟨k, hk1, hk2, rfl, hno, hbel⟩ := hrel
        have HNO := hide hno
        have HB := hide hbel
        obtain ⟨⟨g0, g1, g2, g3, g4, g5, g6, g7, g8⟩, ⟨d0, d1, d2, d3, d4, d5, d6, d7, d8⟩, z0, z1, hbw⟩ := two_up hbel
        have HW := hide hbw
        clear hno hbel hbw
        by_cases hlt : k ≤ SZ
        · have hki : (k : Int) ≤ (SZ : Int) := by omega
          cases hme : meetsD ⟨o1, xa1, xb1, ya1, yb1, arn, sp1, pl1, nn1⟩ ⟨o2, xa2, xb2, ya2, yb2, ar2, sp2, pl2, nn2⟩ k SZ with
          | true =>
            have HR : Hid (lbD ⟨o1, xa1, xb1, ya1, yb1, arn, sp1, pl1, nn1⟩ ⟨o2, xa2, xb2, ya2, yb2, ar2, sp2, pl2, nn2⟩ 1 SZ = some k) := lb_some hk1 hlt hme HNO.out
            have HM := hide (HMT.out k wr (by omega))
            rw [hme] at HM
            clear hme
            have hsh := HSH.out
            go_wp2_with fail
            clear hsh
            refine HM.out.mono ?_
            rintro e x1 ⟨rfl, hb3⟩
            have HW2 := hide (HW.out.trans (hb3.mono HW.out.size))
            clear hb3
            go_wp2_with fail
            exact bodyPost_ret (v := .tuple #[.int .i64 k, .bool true]) (by simp [results, Try.results86, go_sem]) rfl ⟨by rw [HLO.out, HR.out]; rfl, HW2.out⟩
          | false =>
            have HM := hide (HMT.out k wr (by omega))
            rw [hme] at HM
            have HF := hide hme
            clear hme
            have hsh := HSH.out
            go_wp2_with fail
            clear hsh
            refine HM.out.mono ?_
            rintro e x1 ⟨rfl, hb3⟩
            have HB2 := hide (HB.out.trans (hb3.mono HB.out.size))
            clear hb3
            go_wp2_with fail
            go_roundw
            case rel => exact ⟨k + 1, by omega, by omega, by go_num, no_step HNO.out HF.out, HB2.out⟩
            case measure => simp [intOf]; omega
        · have hki : ¬ (k : Int) ≤ (SZ : Int) := by omega
          have HR : Hid (lbD ⟨o1, xa1, xb1, ya1, yb1, arn, sp1, pl1, nn1⟩ ⟨o2, xa2, xb2, ya2, yb2, ar2, sp2, pl2, nn2⟩ 1 SZ = none) := lb_none fun j h1 h2 => HNO.out j h1 (by omega)
          have hsh := HSH.out
          go_wp2_with fail
          exact bodyPost_ret (v := .tuple #[.int .i64 0, .bool false]) (by simp [results, Try.results86, go_sem]) rfl ⟨by rw [HLO.out, HR.out]; rfl, HW.out⟩
    · go_wp2_with fail
      go_loopw [12] (fun i wr => ∃ k : Nat, 1 ≤ k ∧ k ≤ SZ + 1 ∧ i = .int .i64 k ∧ (∀ j, 1 ≤ j → j < k → meetsD ⟨o1, xa1, xb1, ya1, yb1, arn, sp1, pl1, nn1⟩ ⟨o2, xa2, xb2, ya2, yb2, ar2, sp2, pl2, nn2⟩ j SZ = false) ∧ Below (((w.alloc (.cells #[.slice (some ⟨lb, loff, none⟩) m cap0, .slice (some ⟨b, off, none⟩) n cap, v2] 25)).alloc (.cells #[.int .i64 o2, .int .i64 xa2, .int .i64 xb2, .int .i64 ya2, .int .i64 yb2, .int .i64 ar2, .int .i64 sp2, .int .i64 pl2, .int .i64 nn2] 65)).alloc (.cells #[.int .i64 o1, .int .i64 xa1, .int .i64 xb1, .int .i64 ya1, .int .i64 yb1, .int .i64 arn, .int .i64 sp1, .int .i64 pl1, .int .i64 nn1] 65)).heap.size (((w.alloc (.cells #[.slice (some ⟨lb, loff, none⟩) m cap0, .slice (some ⟨b, off, none⟩) n cap, v2] 25)).alloc (.cells #[.int .i64 o2, .int .i64 xa2, .int .i64 xb2, .int .i64 ya2, .int .i64 yb2, .int .i64 ar2, .int .i64 sp2, .int .i64 pl2, .int .i64 nn2] 65)).alloc (.cells #[.int .i64 o1, .int .i64 xa1, .int .i64 xb1, .int .i64 ya1, .int .i64 yb1, .int .i64 arn, .int .i64 sp1, .int .i64 pl1, .int .i64 nn1] 65)) wr) (fun i _ => SZ + 1 - (intOf i).toNat)
      case atStart => exact ⟨1, Nat.le_refl _, by omega, rfl, fun j h1 h2 => absurd h2 (by omega), below_drew1 _ _⟩
      case round =>
        obtain ⟨k, hk1, hk2, rfl, hno, hbel⟩ := hrel
        have HNO := hide hno
        have HB := hide hbel
        obtain ⟨⟨g0, g1, g2, g3, g4, g5, g6, g7, g8⟩, ⟨d0, d1, d2, d3, d4, d5, d6, d7, d8⟩, z0, z1, hbw⟩ := two_up hbel
        have HW := hide hbw
        clear hno hbel hbw
        by_cases hlt : k ≤ SZ
        · have hki : (k : Int) ≤ (SZ : Int) := by omega
          cases hme : meetsD ⟨o1, xa1, xb1, ya1, yb1, arn, sp1, pl1, nn1⟩ ⟨o2, xa2, xb2, ya2, yb2, ar2, sp2, pl2, nn2⟩ k SZ with
          | true =>
            have HR : Hid (lbD ⟨o1, xa1, xb1, ya1, yb1, arn, sp1, pl1, nn1⟩ ⟨o2, xa2, xb2, ya2, yb2, ar2, sp2, pl2, nn2⟩ 1 SZ = some k) := lb_some hk1 hlt hme HNO.out
            have HM := hide (HMT.out k wr (by omega))
            rw [hme] at HM
            clear hme
            have hsh := HSH.out
            go_wp2_with fail
            clear hsh
            refine HM.out.mono ?_
            rintro e x1 ⟨rfl, hb3⟩
            have HW2 := hide (HW.out.trans (hb3.mono HW.out.size))
            clear hb3
            go_wp2_with fail
            exact bodyPost_ret (v := .tuple #[.int .i64 k, .bool true]) (by simp [results, Try.results86, go_sem]) rfl ⟨by rw [HLO.out, HR.out]; rfl, HW2.out⟩
          | false =>
            have HM := hide (HMT.out k wr (by omega))
            rw [hme] at HM
            have HF := hide hme
            clear hme
            have hsh := HSH.out
            go_wp2_with fail
            clear hsh
            refine HM.out.mono ?_
            rintro e x1 ⟨rfl, hb3⟩
            have HB2 := hide (HB.out.trans (hb3.mono HB.out.size))
            clear hb3
            go_wp2_with fail
            go_roundw
            case rel => exact ⟨k + 1, by omega, by omega, by go_num, no_step HNO.out HF.out, HB2.out⟩
            case measure => simp [intOf]; omega
        · have hki : ¬ (k : Int) ≤ (SZ : Int) := by omega
          have HR : Hid (lbD ⟨o1, xa1, xb1, ya1, yb1, arn, sp1, pl1, nn1⟩ ⟨o2, xa2, xb2, ya2, yb2, ar2, sp2, pl2, nn2⟩ 1 SZ = none) := lb_none fun j h1 h2 => HNO.out j h1 (by omega)
          have hsh := HSH.out
          go_wp2_with fail
          exact bodyPost_ret (v := .tuple #[.int .i64 0, .bool false]) (by simp [results, Try.results86, go_sem]) rfl ⟨by rw [HLO.out, HR.out]; rfl, HW.out⟩
end Go.Proofs.Ytjoapiafpahihab
