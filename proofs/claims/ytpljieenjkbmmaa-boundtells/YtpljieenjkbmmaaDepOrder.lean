/- Edges rise, are of statements, and go forward where they have no turns back; no Go in sight. -/
import Derived.Test.YtpljieenjkbmmaaDepMath
namespace Go.Proofs.Ytpljieenjkbmmaa
set_option linter.unusedVariables false

/-- a is ahead of b -/
def ltE (a b : Ed) : Prop := a.fr < b.fr ∨ (a.fr = b.fr ∧ (a.to < b.to ∨ (a.to = b.to ∧ (a.bk < b.bk ∨ (a.bk = b.bk ∧ a.wt < b.wt)))))
theorem wtD_mem {L : Lp} {t : Tg} {fr to bk : Nat} {e : Ed} : ∀ k, e ∈ wtD L t fr to bk k → ∃ x : Nat, x < k ∧ e = ⟨fr, to, bk, x⟩ ∧ isD L t fr to bk x = true := by
  intro k
  induction k with
  | zero => intro h; exact absurd h (by show ¬ e ∈ []; simp)
  | succ k ih =>
    intro h
    have h' : e ∈ (if isD L t fr to bk k = true then wtD L t fr to bk k ++ [⟨fr, to, bk, k⟩] else wtD L t fr to bk k) := h
    split at h'
    · rename_i hi
      rcases List.mem_append.1 h' with h2 | h2
      · obtain ⟨x, hx, h3⟩ := ih h2; exact ⟨x, by omega, h3⟩
      · exact ⟨k, by omega, List.mem_singleton.1 h2, hi⟩
    · obtain ⟨x, hx, h3⟩ := ih h'; exact ⟨x, by omega, h3⟩
theorem bkD_mem {L : Lp} {t : Tg} {fr to : Nat} {e : Ed} : ∀ k, e ∈ bkD L t fr to k → ∃ b x : Nat, b < k ∧ e = ⟨fr, to, b, x⟩ ∧ isD L t fr to b x = true := by
  intro k
  induction k with
  | zero => intro h; exact absurd h (by show ¬ e ∈ []; simp)
  | succ k ih =>
    intro h
    rcases List.mem_append.1 (show e ∈ bkD L t fr to k ++ wtD L t fr to k 7 from h) with h2 | h2
    · obtain ⟨b, x, hb, h3⟩ := ih h2; exact ⟨b, x, by omega, h3⟩
    · obtain ⟨x, -, h3⟩ := wtD_mem 7 h2; exact ⟨k, x, by omega, h3⟩
theorem toD_mem {L : Lp} {t : Tg} {fr : Nat} {e : Ed} : ∀ k, e ∈ toD L t fr k → ∃ to b x : Nat, to < k ∧ e = ⟨fr, to, b, x⟩ ∧ isD L t fr to b x = true := by
  intro k
  induction k with
  | zero => intro h; exact absurd h (by show ¬ e ∈ []; simp)
  | succ k ih =>
    intro h
    rcases List.mem_append.1 (show e ∈ toD L t fr k ++ bkD L t fr k 33 from h) with h2 | h2
    · obtain ⟨to, b, x, hb, h3⟩ := ih h2; exact ⟨to, b, x, by omega, h3⟩
    · obtain ⟨b, x, -, h3⟩ := bkD_mem 33 h2; exact ⟨k, b, x, by omega, h3⟩
theorem frD_mem {L : Lp} {t : Tg} {e : Ed} : ∀ k, e ∈ frD L t k → ∃ fr to b x : Nat, fr < k ∧ to < L.body.length ∧ e = ⟨fr, to, b, x⟩ ∧ isD L t fr to b x = true := by
  intro k
  induction k with
  | zero => intro h; exact absurd h (by show ¬ e ∈ []; simp)
  | succ k ih =>
    intro h
    rcases List.mem_append.1 (show e ∈ frD L t k ++ toD L t k L.body.length from h) with h2 | h2
    · obtain ⟨fr, to, b, x, hb, h3⟩ := ih h2; exact ⟨fr, to, b, x, by omega, h3⟩
    · obtain ⟨to, b, x, hto, h3⟩ := toD_mem _ h2; exact ⟨k, to, b, x, by omega, hto, h3⟩
theorem wtD_rise {L : Lp} {t : Tg} {fr to bk : Nat} : ∀ k, (wtD L t fr to bk k).Pairwise ltE := by
  intro k
  induction k with
  | zero => exact List.Pairwise.nil
  | succ k ih =>
    show (if isD L t fr to bk k = true then wtD L t fr to bk k ++ [⟨fr, to, bk, k⟩] else wtD L t fr to bk k).Pairwise ltE
    split
    · refine List.pairwise_append.2 ⟨ih, List.pairwise_singleton _ _, fun a ha b hb => ?_⟩
      obtain ⟨x, hx, rfl, -⟩ := wtD_mem k ha
      rw [List.mem_singleton.1 hb]
      exact .inr ⟨rfl, .inr ⟨rfl, .inr ⟨rfl, by dsimp only; omega⟩⟩⟩
    · exact ih
theorem bkD_rise {L : Lp} {t : Tg} {fr to : Nat} : ∀ k, (bkD L t fr to k).Pairwise ltE := by
  intro k
  induction k with
  | zero => exact List.Pairwise.nil
  | succ k ih =>
    refine List.pairwise_append.2 ⟨ih, wtD_rise 7, fun a ha b hb => ?_⟩
    obtain ⟨y, x, hy, rfl, -⟩ := bkD_mem k ha
    obtain ⟨z, hz, rfl, -⟩ := wtD_mem 7 hb
    exact .inr ⟨rfl, .inr ⟨rfl, .inl (by dsimp only; omega)⟩⟩
theorem toD_rise {L : Lp} {t : Tg} {fr : Nat} : ∀ k, (toD L t fr k).Pairwise ltE := by
  intro k
  induction k with
  | zero => exact List.Pairwise.nil
  | succ k ih =>
    refine List.pairwise_append.2 ⟨ih, bkD_rise 33, fun a ha b hb => ?_⟩
    obtain ⟨o, y, x, hy, rfl, -⟩ := toD_mem k ha
    obtain ⟨u, z, hz, rfl, -⟩ := bkD_mem 33 hb
    exact .inr ⟨rfl, .inl (by dsimp only; omega)⟩
theorem frD_rise {L : Lp} {t : Tg} : ∀ k, (frD L t k).Pairwise ltE := by
  intro k
  induction k with
  | zero => exact List.Pairwise.nil
  | succ k ih =>
    refine List.pairwise_append.2 ⟨ih, toD_rise _, fun a ha b hb => ?_⟩
    obtain ⟨f, o, y, x, hy, -, rfl, -⟩ := frD_mem k ha
    obtain ⟨v, u, z, hz, rfl, -⟩ := toD_mem _ hb
    exact .inl (by dsimp only; omega)
/-- what it looks at in the same turn is ahead of it -/
theorem look_fwd {m n : Int} {to : Nat} {s : St} {fr : Int} (h : stOk m n to s = true) (hl : lookD s fr 0 = true) : fr < to := by
  obtain ⟨i, hi, hp⟩ := exN_iff.1 hl
  unfold lookAt at hp
  rw [Bool.and_eq_true, decide_eq_true_eq, decide_eq_true_eq] at hp
  have key : ∀ a b, refOk n to a b = true → a = fr → b = 0 → fr < to := fun a b h1 h2 h3 => by
    unfold refOk at h1
    rw [Bool.and_eq_true] at h1
    have h4 := inR_iff.1 h1.2
    rw [if_pos h3] at h4
    omega
  unfold stOk at h
  by_cases h4 : s.o = 4
  · rw [if_neg (by omega), if_neg (by omega), if_neg (by omega), if_pos h4] at h
    simp only [Bool.and_eq_true] at h
    have e : usesL s = [(s.xa, s.xb)] := by unfold usesL; rw [if_pos h4]
    rw [e] at hi hp
    have hi0 : i = 0 := by have : i < 1 := hi; omega
    subst hi0
    exact key _ _ h.2 hp.1 hp.2
  · by_cases h10 : 10 < s.o
    · have e : usesL s = [(s.xa, s.xb), (s.ya, s.yb)] := by unfold usesL; rw [if_neg h4, if_pos h10]
      rw [e] at hi hp
      rw [if_neg (by omega), if_neg (by omega), if_neg (by omega), if_neg h4] at h
      split at h
      · simp only [Bool.and_eq_true] at h
        have hi0 : i = 0 ∨ i = 1 := by have : i < 2 := hi; omega
        rcases hi0 with rfl | rfl
        · exact key _ _ h.1.2 hp.1 hp.2
        · exact key _ _ h.2 hp.1 hp.2
      · exact Bool.noConfusion h
    · have e : usesL s = [] := by unfold usesL; rw [if_neg h4, if_neg h10]
      rw [e] at hi
      exact absurd hi (Nat.not_lt_zero _)
/-- F2 -/
theorem is_fwd {L : Lp} {t : Tg} {fr to x : Nat} (hm : mayB L = true) (hto : to < L.body.length) (h : isD L t fr to 0 x = true) : fr < to := by
  obtain ⟨m1, m2, m3, m4, m5, m6, m7⟩ := may_parts hm
  have hs := allN_get m7 to hto
  unfold isD at h
  rcases Bool.or_eq_true_iff.1 h with h | h
  · rw [Bool.and_eq_true] at h
    have := look_fwd hs h.1
    omega
  · simp only [Bool.and_eq_true] at h
    have h1 := h.2
    unfold firstD at h1
    simp only [Bool.and_eq_true, decide_eq_true_eq] at h1
    have h2 := h1.1.1.1
    unfold leastD at h2
    split at h2 <;> omega
/-- what an edge is like -/
theorem edge_like {L : Lp} {t : Tg} {e : Ed} (hm : mayB L = true) (h : e ∈ edgesD L t) : ∃ fr to bk wt : Nat, e = ⟨fr, to, bk, wt⟩ ∧ fr < L.body.length ∧ to < L.body.length ∧ (bk = 0 → fr < to) := by
  obtain ⟨fr, to, bk, x, h1, h2, h3, h4⟩ := frD_mem _ h
  exact ⟨fr, to, bk, x, h3, h1, h2, fun e0 => is_fwd hm h2 (by rw [← e0]; exact h4)⟩
end Go.Proofs.Ytpljieenjkbmmaa
