/- Plain laws on loops, as the document says them: which may be, which states fit; no Go in sight. -/
import Derived.WalkKit
namespace Go.Proofs.Ytpljieenjkbmmaa
open Go.RowKit
set_option linter.unusedVariables false

/-- a statement of a loop: its nine numbers in their order -/
structure St where
  o : Int
  xa : Int
  xb : Int
  ya : Int
  yb : Int
  ar : Int
  sp : Int
  pl : Int
  nn : Int
/-- a loop -/
structure Lp where
  logs : List Int
  body : List St
  outs : List Int
def St.nil : St := ⟨0, 0, 0, 0, 0, 0, 0, 0, 0⟩
/-- the number at a place; a name, so that no walk opens it -/
def nth (l : List Int) (i : Nat) : Int := l.getD i 0
def nthN (l : List Nat) (i : Nat) : Nat := l.getD i 0
def stAt (l : List St) (i : Nat) : St := l.getD i St.nil

/-- is n from lo to hi -/
def inR (n lo hi : Int) : Bool := decide (lo ≤ n ∧ n ≤ hi)
theorem inR_yes {n lo hi : Int} (h : lo ≤ n ∧ n ≤ hi) : inR n lo hi = true := decide_eq_true h
theorem inR_no {n lo hi : Int} (h : ¬ (lo ≤ n ∧ n ≤ hi)) : inR n lo hi = false := decide_eq_false h
theorem inR_iff {n lo hi : Int} : inR n lo hi = true ↔ lo ≤ n ∧ n ≤ hi := by unfold inR; simp

/-- what the statement numbered k may look at, in a loop of n statements -/
def refOk (n k at_ back : Int) : Bool := inR back 0 3 && inR at_ 0 (if back = 0 then k - 1 else n - 1)
/-- the word that a statement is at may be, in a loop of m arrays -/
def wordOk (m ar sp pl : Int) : Bool := inR ar 0 (m - 1) && inR sp (-64) 64 && inR pl (-64) 64
/-- the statement numbered k may be: B1 -/
def stOk (m n k : Int) (s : St) : Bool :=
  if s.o = 1 then decide (s.xa = 0 ∧ s.xb = 0 ∧ s.ya = 0 ∧ s.yb = 0 ∧ s.ar = 0 ∧ s.sp = 0 ∧ s.pl = 0)
  else if s.o = 2 then decide (s.xa = 0 ∧ s.xb = 0 ∧ s.ya = 0 ∧ s.yb = 0 ∧ s.ar = 0 ∧ s.sp = 0 ∧ s.pl = 0 ∧ s.nn = 0)
  else if s.o = 3 then decide (s.xa = 0 ∧ s.xb = 0 ∧ s.ya = 0 ∧ s.yb = 0 ∧ s.nn = 0) && wordOk m s.ar s.sp s.pl
  else if s.o = 4 then decide (s.ya = 0 ∧ s.yb = 0 ∧ s.nn = 0) && wordOk m s.ar s.sp s.pl && refOk n k s.xa s.xb
  else if 11 ≤ s.o ∧ s.o ≤ 18 then decide (s.ar = 0 ∧ s.sp = 0 ∧ s.pl = 0 ∧ s.nn = 0) && refOk n k s.xa s.xb && refOk n k s.ya s.yb
  else false

/-- all of the first k are so -/
def allN (p : Nat → Bool) : Nat → Bool
  | 0 => true
  | k + 1 => allN p k && p k
theorem allN_get {p : Nat → Bool} {n : Nat} (h : allN p n = true) : ∀ k, k < n → p k = true := by
  induction n with
  | zero => intro k hk; omega
  | succ m ih =>
    intro k hk
    have h2 : allN p m = true ∧ p m = true := by simpa [allN] using h
    by_cases e : k = m
    · rw [e]; exact h2.2
    · exact ih h2.1 k (by omega)
theorem allN_mk {p : Nat → Bool} {n : Nat} (h : ∀ k, k < n → p k = true) : allN p n = true := by
  induction n with
  | zero => rfl
  | succ m ih =>
    have h1 := ih fun k hk => h k (by omega)
    have h2 := h m (by omega)
    show (allN p m && p m) = true
    rw [h1, h2]; rfl
theorem allN_false {p : Nat → Bool} {n k : Nat} (hk : k < n) (h : p k = false) : allN p n = false := by
  cases e : allN p n with
  | false => rfl
  | true => rw [allN_get e k hk] at h; exact Bool.noConfusion h
theorem allN_step {p : Nat → Bool} {k : Nat} (h : allN p k = true) (hk : p k = true) : allN p (k + 1) = true := by
  show (allN p k && p k) = true
  rw [h, hk]; rfl

def logOk (z : Int) : Bool := inR z 0 5
def logsOk (l : List Int) : Bool := allN (fun i => logOk (nth l i)) l.length
/-- the out ahead of out i; -1 ahead of the first -/
def prev (l : List Int) : Nat → Int
  | 0 => -1
  | i + 1 => nth l i
/-- out i is a statement's number, above the one ahead of it -/
def outOk (n : Int) (l : List Int) (i : Nat) : Bool := inR (nth l i) (prev l i + 1) (n - 1)
def outsOk (n : Int) (l : List Int) : Bool := allN (outOk n l) l.length
def bodyOk (L : Lp) : Bool := allN (fun k => stOk L.logs.length L.body.length k (stAt L.body k)) L.body.length
/-- the loop may be: B1 -/
def mayB (L : Lp) : Bool :=
  decide (L.logs.length ≤ 3) && decide (1 ≤ L.body.length) && decide (L.body.length ≤ 16) && logsOk L.logs && outsOk L.body.length L.outs && bodyOk L

/-- a rising row of numbers: out i - 1 is from i - 1 to n - 1 -/
theorem prev_range (n : Int) (l : List Int) (k : Nat) (hn : 0 ≤ n) (h : allN (outOk n l) k = true) : (k : Int) - 1 ≤ prev l k ∧ prev l k ≤ n - 1 := by
  induction k with
  | zero => show ((0 : Nat) : Int) - 1 ≤ -1 ∧ (-1 : Int) ≤ n - 1; omega
  | succ j ih =>
    have h1 := ih (allN_mk fun i hi => allN_get h i (by omega))
    have h2 := inR_iff.1 (allN_get h j (by omega))
    show ((j + 1 : Nat) : Int) - 1 ≤ nth l j ∧ nth l j ≤ n - 1
    omega
/-- a rising row of numbers from 0 to n - 1 has no more than n of them -/
theorem outs_len (n : Nat) (l : List Int) (h : outsOk n l = true) : l.length ≤ n := by
  have h1 := prev_range n l l.length (by omega) h
  omega
/-- the same, asked as the document's own test asks it -/
theorem outOk_yes {n : Int} {l : List Int} {k : Nat} (hn : 0 ≤ n) (ha : allN (outOk n l) k = true) (h : outOk n l k = true) : inR (nth l k) 0 (n - 1) = true ∧ (0 < k → ¬ nth l k ≤ nth l (k - 1)) := by
  have h1 := prev_range n l k hn ha
  have h2 := inR_iff.1 h
  refine ⟨inR_yes (by omega), fun hk => ?_⟩
  cases k with
  | zero => omega
  | succ j => have h3 : nth l j + 1 ≤ nth l (j + 1) := h2.1; simp only [Nat.add_sub_cancel]; omega
theorem outOk_no {n : Int} {l : List Int} {k : Nat} (h : outOk n l k = false) : inR (nth l k) 0 (n - 1) = false ∨ inR (nth l k) 0 (n - 1) = true ∧ 0 < k ∧ nth l k ≤ nth l (k - 1) := by
  cases h1 : inR (nth l k) 0 (n - 1) with
  | false => exact .inl rfl
  | true =>
    have h2 := inR_iff.1 h1
    refine .inr ⟨rfl, ?_⟩
    cases k with
    | zero => exact absurd h (by rw [show outOk n l 0 = true from inR_yes (by show (-1 : Int) + 1 ≤ nth l 0 ∧ nth l 0 ≤ n - 1; omega)]; exact Bool.noConfusion)
    | succ j =>
      refine ⟨by omega, ?_⟩
      simp only [Nat.add_sub_cancel]
      by_cases h3 : nth l (j + 1) ≤ nth l j
      · exact h3
      · exact absurd h (by rw [show outOk n l (j + 1) = true from inR_yes (by show nth l j + 1 ≤ nth l (j + 1) ∧ nth l (j + 1) ≤ n - 1; omega)]; exact Bool.noConfusion)

theorem may_eq (L : Lp) (h1 : L.logs.length ≤ 3) (h2 : 1 ≤ L.body.length) (h3 : L.body.length ≤ 16) : mayB L = (logsOk L.logs && outsOk L.body.length L.outs && bodyOk L) := by
  unfold mayB; rw [decide_eq_true h1, decide_eq_true h2, decide_eq_true h3]; rfl
theorem may_no (L : Lp) (h : ¬ L.logs.length ≤ 3 ∨ ¬ 1 ≤ L.body.length ∨ ¬ L.body.length ≤ 16 ∨ ¬ L.outs.length ≤ 16) : mayB L = false := by
  cases e : mayB L with
  | false => rfl
  | true =>
    unfold mayB at e
    simp only [Bool.and_eq_true, decide_eq_true_eq] at e
    obtain ⟨⟨⟨⟨⟨e1, e2⟩, e3⟩, e4⟩, e5⟩, e6⟩ := e
    have := outs_len _ _ e5
    omega
theorem may_parts {L : Lp} (e : mayB L = true) : L.logs.length ≤ 3 ∧ 1 ≤ L.body.length ∧ L.body.length ≤ 16 ∧ L.outs.length ≤ 16 ∧ logsOk L.logs = true ∧ outsOk L.body.length L.outs = true ∧ bodyOk L = true := by
  unfold mayB at e
  simp only [Bool.and_eq_true, decide_eq_true_eq] at e
  obtain ⟨⟨⟨⟨⟨e1, e2⟩, e3⟩, e4⟩, e5⟩, e6⟩ := e
  have := outs_len _ _ e5
  exact ⟨e1, e2, e3, by omega, e4, e5, e6⟩

def rowAt (l : List (List Int)) (i : Nat) : List Int := l.getD i []
/-- the state fits the loop: B2; its rows before, and its memory -/
def fitsB (L : Lp) (B M : List (List Int)) : Bool :=
  mayB L && decide (B.length = L.body.length) && decide (M.length = L.logs.length)
    && allN (fun i => decide ((rowAt B i).length = 3)) B.length && allN (fun i => decide ((rowAt M i).length = 2 ^ (nth L.logs i).toNat)) M.length
end Go.Proofs.Ytpljieenjkbmmaa
