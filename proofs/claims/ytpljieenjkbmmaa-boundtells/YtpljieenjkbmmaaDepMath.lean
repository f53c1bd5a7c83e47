/- What waits for what: which edges there are, as the document says it; no Go in sight. -/
import Derived.Test.YtpljieenjkbmmaaTargetMath
namespace Go.Proofs.Ytpljieenjkbmmaa
set_option linter.unusedVariables false

/-- an edge -/
structure Ed where
  fr : Int
  to : Int
  bk : Int
  wt : Int
/-- one of the first k is so -/
def exN (p : Nat → Bool) : Nat → Bool
  | 0 => false
  | k + 1 => exN p k || p k
theorem exN_true {p : Nat → Bool} {n k : Nat} (hk : k < n) (h : p k = true) : exN p n = true := by
  induction n with
  | zero => omega
  | succ n ih =>
    show (exN p n || p n) = true
    by_cases e : k = n
    · rw [← e, h]; simp
    · rw [ih (by omega)]; rfl
theorem exN_step {p : Nat → Bool} {k : Nat} (h : exN p k = false) (hk : p k = false) : exN p (k + 1) = false := by
  show (exN p k || p k) = false
  rw [h, hk]; rfl
theorem exN_iff {p : Nat → Bool} {n : Nat} : exN p n = true ↔ ∃ k, k < n ∧ p k = true := by
  induction n with
  | zero => exact ⟨fun h => Bool.noConfusion h, fun ⟨k, h, _⟩ => absurd h (Nat.not_lt_zero _)⟩
  | succ n ih =>
    constructor
    · intro h
      have h2 : exN p n = true ∨ p n = true := by
        have h3 : (exN p n || p n) = true := h
        simpa using h3
      rcases h2 with h2 | h2
      · obtain ⟨k, hk, hp⟩ := ih.1 h2; exact ⟨k, by omega, hp⟩
      · exact ⟨n, by omega, h2⟩
    · rintro ⟨k, hk, hp⟩; exact exN_true hk hp
/-- the two words of a turn, so many turns apart -/
def meetAt (a b : St) (back size : Nat) (turn : Nat) : Bool := decide ((a.sp * turn + a.pl) % size = (b.sp * ((turn : Int) + back) + b.pl) % size)
/-- do their words meet in some turn, so many turns apart? -/
def meetsD (a b : St) (back size : Nat) : Bool := exN (meetAt a b back size) size
def wordD (s : St) : Bool := decide (s.o = 3) || decide (s.o = 4)
/-- do two meet in words, one of them storing? -/
def memD (a b : St) : Bool := wordD a && wordD b && decide (a.ar = b.ar) && (decide (a.o = 4) || decide (b.o = 4))
/-- what it looks at -/
def usesL (s : St) : List (Int × Int) := if s.o = 4 then [(s.xa, s.xb)] else if 10 < s.o then [(s.xa, s.xb), (s.ya, s.yb)] else []
def refAt (l : List (Int × Int)) (i : Nat) : Int × Int := l.getD i (0, 0)
def lookAt (l : List (Int × Int)) (fr bk : Int) (i : Nat) : Bool := decide ((refAt l i).1 = fr) && decide ((refAt l i).2 = bk)
/-- does it look at that one, so many turns back? -/
def lookD (s : St) (fr bk : Int) : Bool := exN (lookAt (usesL s) fr bk) (usesL s).length
def waitD (a : St) : Int := if a.o = 4 then 1 else 0
def leastD (fr to : Nat) : Nat := if to ≤ fr then 1 else 0
/-- is back the least number from lo on for which they meet? -/
def firstD (a b : St) (lo back size : Nat) : Bool := decide (lo ≤ back) && decide (back ≤ size) && meetsD a b back size && allN (fun i => decide (i < lo) || !meetsD a b i size) back
def sizeD (L : Lp) (s : St) : Nat := 2 ^ (nth L.logs s.ar.toNat).toNat
/-- F1: is there such an edge? -/
def isD (L : Lp) (t : Tg) (fr to bk wt : Nat) : Bool :=
  (lookD (stAt L.body to) fr bk && decide ((wt : Int) = waitT t (stAt L.body fr).o)) ||
    (memD (stAt L.body fr) (stAt L.body to) && decide ((wt : Int) = waitD (stAt L.body fr)) && firstD (stAt L.body fr) (stAt L.body to) (leastD fr to) bk (sizeD L (stAt L.body fr)))
/-- all edges, of all that might be -/
def wtD (L : Lp) (t : Tg) (fr to bk : Nat) : Nat → List Ed
  | 0 => []
  | k + 1 => if isD L t fr to bk k = true then wtD L t fr to bk k ++ [⟨fr, to, bk, k⟩] else wtD L t fr to bk k
def bkD (L : Lp) (t : Tg) (fr to : Nat) : Nat → List Ed
  | 0 => []
  | k + 1 => bkD L t fr to k ++ wtD L t fr to k 7
def toD (L : Lp) (t : Tg) (fr : Nat) : Nat → List Ed
  | 0 => []
  | k + 1 => toD L t fr k ++ bkD L t fr k 33
def frD (L : Lp) (t : Tg) : Nat → List Ed
  | 0 => []
  | k + 1 => frD L t k ++ toD L t k L.body.length
/-- F1 -/
def edgesD (L : Lp) (t : Tg) : List Ed := frD L t L.body.length

theorem wtD_len (L : Lp) (t : Tg) (fr to bk k : Nat) : (wtD L t fr to bk k).length ≤ k := by
  induction k with
  | zero => exact Nat.le_refl _
  | succ k ih =>
    show (if isD L t fr to bk k = true then wtD L t fr to bk k ++ [⟨fr, to, bk, k⟩] else wtD L t fr to bk k).length ≤ k + 1
    split
    · rw [List.length_append]; simp; omega
    · omega
theorem bkD_len (L : Lp) (t : Tg) (fr to k : Nat) : (bkD L t fr to k).length ≤ k * 7 := by
  induction k with
  | zero => exact Nat.le_refl _
  | succ k ih =>
    show (bkD L t fr to k ++ wtD L t fr to k 7).length ≤ (k + 1) * 7
    have := wtD_len L t fr to k 7
    rw [List.length_append]; omega
theorem toD_len (L : Lp) (t : Tg) (fr k : Nat) : (toD L t fr k).length ≤ k * 231 := by
  induction k with
  | zero => exact Nat.le_refl _
  | succ k ih =>
    show (toD L t fr k ++ bkD L t fr k 33).length ≤ (k + 1) * 231
    have := bkD_len L t fr k 33
    rw [List.length_append]; omega
theorem frD_len (L : Lp) (t : Tg) (k : Nat) (hn : L.body.length ≤ 16) : (frD L t k).length ≤ k * 3696 := by
  induction k with
  | zero => exact Nat.le_refl _
  | succ k ih =>
    show (frD L t k ++ toD L t k L.body.length).length ≤ (k + 1) * 3696
    have := toD_len L t k L.body.length
    rw [List.length_append]; omega
end Go.Proofs.Ytpljieenjkbmmaa
