/- Maths: texts that are built as one: TargetMath, DepMath, KernMath, SeqMath, KernRun, KernAsk, DepOrder, LaneMath. -/
import Derived.Test.YtjlfcbccpcigeacDoorNums
import Derived.Test.YtjlfcbccpcigeacDoorBase
import Derived.OpenShut
/- Machines: what may be, and how long a result is waited for; no Go in sight. -/
namespace Go.Proofs.YtjlfcbccpcigeacDoor
set_option linter.unusedVariables false

/-- a machine -/
structure Tg where
  u0 : Int
  u1 : Int
  u2 : Int
  w0 : Int
  w1 : Int
  w2 : Int
  r : Int
def unitOk (u w : Int) : Bool := inR u 1 4 && inR w 1 6
/-- D1 -/
def mayT (t : Tg) : Bool := unitOk t.u0 t.w0 && unitOk t.u1 t.w1 && unitOk t.u2 t.w2 && inR t.r 1 128
/-- the units and the wait of a class -/
def unitsT (t : Tg) (c : Int) : Int := if c = 0 then t.u0 else if c = 1 then t.u1 else t.u2
def waitsT (t : Tg) (c : Int) : Int := if c = 0 then t.w0 else if c = 1 then t.w1 else t.w2
/-- D2 -/
def waitT (t : Tg) (op : Int) : Int := if mayT t = true then waitsT t (clsv op) else 0
theorem unit_iff {u w : Int} (h : unitOk u w = true) : 1 ≤ u ∧ u ≤ 4 ∧ 1 ≤ w ∧ w ≤ 6 := by
  unfold unitOk at h
  rw [Bool.and_eq_true] at h
  have h1 := inR_iff.1 h.1
  have h2 := inR_iff.1 h.2
  exact ⟨h1.1, h1.2, h2.1, h2.2⟩
theorem mayT_parts {t : Tg} (h : mayT t = true) : unitOk t.u0 t.w0 = true ∧ unitOk t.u1 t.w1 = true ∧ unitOk t.u2 t.w2 = true ∧ 1 ≤ t.r ∧ t.r ≤ 128 := by
  unfold mayT at h
  simp only [Bool.and_eq_true] at h
  have h1 := inR_iff.1 h.2
  exact ⟨h.1.1.1, h.1.1.2, h.1.2, h1.1, h1.2⟩
end Go.Proofs.YtjlfcbccpcigeacDoor
/- What waits for what: which edges there are, as the document says it; no Go in sight. -/
namespace Go.Proofs.YtjlfcbccpcigeacDoor
set_option linter.unusedVariables false

/-- an edge -/
structure Ed where
  fr : Int
  to : Int
  bk : Int
  wt : Int
/-- one of the first k is so -/
def exN (p : Nat → Bool) : Nat → Bool
  | 0 => false
  | k + 1 => exN p k || p k
theorem exN_true {p : Nat → Bool} {n k : Nat} (hk : k < n) (h : p k = true) : exN p n = true := by
  induction n with
  | zero => omega
  | succ n ih =>
    show (exN p n || p n) = true
    by_cases e : k = n
    · rw [← e, h]; simp
    · rw [ih (by omega)]; rfl
theorem exN_iff {p : Nat → Bool} {n : Nat} : exN p n = true ↔ ∃ k, k < n ∧ p k = true := by
  induction n with
  | zero => exact ⟨fun h => Bool.noConfusion h, fun ⟨k, h, _⟩ => absurd h (Nat.not_lt_zero _)⟩
  | succ n ih =>
    constructor
    · intro h
      have h2 : exN p n = true ∨ p n = true := by
        have h3 : (exN p n || p n) = true := h
        simpa using h3
      rcases h2 with h2 | h2
      · obtain ⟨k, hk, hp⟩ := ih.1 h2; exact ⟨k, by omega, hp⟩
      · exact ⟨n, by omega, h2⟩
    · rintro ⟨k, hk, hp⟩; exact exN_true hk hp
/-- the two words of a turn, so many turns apart -/
def meetAt (a b : St) (back size : Nat) (turn : Nat) : Bool := decide ((a.sp * turn + a.pl) % size = (b.sp * ((turn : Int) + back) + b.pl) % size)
/-- do their words meet in some turn, so many turns apart? -/
def meetsD (a b : St) (back size : Nat) : Bool := exN (meetAt a b back size) size
def wordD (s : St) : Bool := decide (s.o = 3) || decide (s.o = 4)
/-- do two meet in words, one of them storing? -/
def memD (a b : St) : Bool := wordD a && wordD b && decide (a.ar = b.ar) && (decide (a.o = 4) || decide (b.o = 4))
/-- what it looks at -/
def usesL (s : St) : List (Int × Int) := if s.o = 4 then [(s.xa, s.xb)] else if 10 < s.o then [(s.xa, s.xb), (s.ya, s.yb)] else []
def refAt (l : List (Int × Int)) (i : Nat) : Int × Int := l.getD i (0, 0)
def lookAt (l : List (Int × Int)) (fr bk : Int) (i : Nat) : Bool := decide ((refAt l i).1 = fr) && decide ((refAt l i).2 = bk)
/-- does it look at that one, so many turns back? -/
def lookD (s : St) (fr bk : Int) : Bool := exN (lookAt (usesL s) fr bk) (usesL s).length
def waitD (a : St) : Int := if a.o = 4 then 1 else 0
def leastD (fr to : Nat) : Nat := if to ≤ fr then 1 else 0
/-- is back the least number from lo on for which they meet? -/
def firstD (a b : St) (lo back size : Nat) : Bool := decide (lo ≤ back) && decide (back ≤ size) && meetsD a b back size && allN (fun i => decide (i < lo) || !meetsD a b i size) back
def sizeD (L : Lp) (s : St) : Nat := 2 ^ (nth L.logs s.ar.toNat).toNat
/-- F1: is there such an edge? -/
def isD (L : Lp) (t : Tg) (fr to bk wt : Nat) : Bool :=
  (lookD (stAt L.body to) fr bk && decide ((wt : Int) = waitT t (stAt L.body fr).o)) ||
    (memD (stAt L.body fr) (stAt L.body to) && decide ((wt : Int) = waitD (stAt L.body fr)) && firstD (stAt L.body fr) (stAt L.body to) (leastD fr to) bk (sizeD L (stAt L.body fr)))
/-- all edges, of all that might be -/
def wtD (L : Lp) (t : Tg) (fr to bk : Nat) : Nat → List Ed
  | 0 => []
  | k + 1 => if isD L t fr to bk k = true then wtD L t fr to bk k ++ [⟨fr, to, bk, k⟩] else wtD L t fr to bk k
def bkD (L : Lp) (t : Tg) (fr to : Nat) : Nat → List Ed
  | 0 => []
  | k + 1 => bkD L t fr to k ++ wtD L t fr to k 7
def toD (L : Lp) (t : Tg) (fr : Nat) : Nat → List Ed
  | 0 => []
  | k + 1 => toD L t fr k ++ bkD L t fr k 33
def frD (L : Lp) (t : Tg) : Nat → List Ed
  | 0 => []
  | k + 1 => frD L t k ++ toD L t k L.body.length
/-- F1 -/
def edgesD (L : Lp) (t : Tg) : List Ed := frD L t L.body.length

end Go.Proofs.YtjlfcbccpcigeacDoor
/- Kernels: what may be; no Go in sight. -/
namespace Go.Proofs.YtjlfcbccpcigeacDoor
set_option linter.unusedVariables false

/-- an Op of a kernel -/
structure Kop where
  sl : Int
  sg : Int
  o : Int
  d : Int
  a : Int
  b : Int
  ar : Int
  sp : Int
  pl : Int
  nn : Int
def Kop.nil : Kop := ⟨0, 0, 0, 0, 0, 0, 0, 0, 0, 0⟩
/-- a kernel -/
structure Kn where
  pc : Int
  st : Int
  ops : List Kop
def opAt (l : List Kop) (i : Nat) : Kop := l.getD i Kop.nil
def usesK (op : Int) : Int := if op = 4 then 1 else if 10 < op then 2 else 0
/-- the loop that an Op's statement is asked in -/
def loopK (logs : List Int) (x : Kop) : Lp := ⟨logs, [⟨2, 0, 0, 0, 0, 0, 0, 0, 0⟩, ⟨x.o, 0, 0, 0, 0, x.ar, x.sp, x.pl, x.nn⟩], []⟩
/-- E1, of an Op: its place in time, its registers, its statement -/
def timeOk (pc st : Int) (x : Kop) : Bool := inR x.sl 0 (pc - 1) && inR x.sg 0 (st - 1) && decide (x.sg * pc + x.sl ≤ 1000)
def regsOk (r : Int) (x : Kop) : Bool := inR x.d 0 (r - 1) && inR x.a 0 (r - 1) && inR x.b 0 (r - 1) && (decide (1 ≤ usesK x.o) || decide (x.a = 0)) && (decide (2 ≤ usesK x.o) || decide (x.b = 0))
def oneOk (r pc st : Int) (logs : List Int) (x : Kop) : Bool := timeOk pc st x && regsOk r x && mayB (loopK logs x)
/-- how many below n there are -/
def cnt (p : Nat → Bool) : Nat → Nat
  | 0 => 0
  | n + 1 => cnt p n + (if p n = true then 1 else 0)
def sameK (l : List Kop) (i j : Nat) : Bool := decide ((opAt l j).sl = (opAt l i).sl) && decide (clsv (opAt l j).o = clsv (opAt l i).o)
def manyK (l : List Kop) (i : Nat) : Nat := cnt (sameK l i) l.length
/-- E1 -/
def mayK (t : Tg) (K : Kn) (logs : List Int) : Bool :=
  mayT t && inR K.pc 1 200 && inR K.st 1 1001 && inR K.ops.length 1 16 && allN (fun i => oneOk t.r K.pc K.st logs (opAt K.ops i) && decide ((manyK K.ops i : Int) ≤ unitsT t (clsv (opAt K.ops i).o))) K.ops.length

end Go.Proofs.YtjlfcbccpcigeacDoor
/- What a run of a loop comes to, turn by turn, as the document says it; and that all of it stays in range. -/
namespace Go.Proofs.YtjlfcbccpcigeacDoor
open Go.RowKit
set_option linter.unusedVariables false

/-- where a run stands: the words, and what each statement came to in each turn -/
structure Sq where
  mem : Nat → Nat → Int
  val : Nat → Nat → Int
/-- f, but v at i and j -/
def put2 (f : Nat → Nat → Int) (i j : Nat) (v : Int) : Nat → Nat → Int := fun a b => if a = i ∧ b = j then v else f a b
theorem put2_at (f : Nat → Nat → Int) (i j : Nat) (v : Int) : put2 f i j v i j = v := if_pos ⟨rfl, rfl⟩
/-- what a Ref is in turn t: C2 -/
def refV (B : List (List Int)) (val : Nat → Nat → Int) (t : Nat) (x y : Int) : Int :=
  if y ≤ t then val ((t : Int) - y).toNat x.toNat else nth (rowAt B x.toNat) (y - t - 1).toNat
/-- the word that a statement is at, in turn t -/
def wordAt (L : Lp) (t : Nat) (x : St) : Nat := (idx x.sp x.pl t (nth L.logs x.ar.toNat)).toNat
/-- what a statement comes to: C1 -/
def comes (L : Lp) (B : List (List Int)) (t : Nat) (s : Sq) (x : St) : Int :=
  if x.o = 1 then x.nn else if x.o = 2 then (t : Int) else if x.o = 3 then s.mem x.ar.toNat (wordAt L t x) else if x.o = 4 then refV B s.val t x.xa x.xb
  else opv (x.o - 10) (refV B s.val t x.xa x.xb) (refV B s.val t x.ya x.yb)
/-- statement k of turn t is done -/
def stepS (L : Lp) (B : List (List Int)) (t : Nat) (s : Sq) (k : Nat) : Sq :=
  ⟨if (stAt L.body k).o = 4 then put2 s.mem (stAt L.body k).ar.toNat (wordAt L t (stAt L.body k)) (comes L B t s (stAt L.body k)) else s.mem, put2 s.val t k (comes L B t s (stAt L.body k))⟩
/-- the first k statements of turn t are done -/
def turnS (L : Lp) (B : List (List Int)) (t : Nat) : Nat → Sq → Sq
  | 0, s => s
  | k + 1, s => stepS L B t (turnS L B t k s) k
/-- t turns are done -/
def runS (L : Lp) (B : List (List Int)) : Nat → Sq → Sq
  | 0, s => s
  | t + 1, s => turnS L B t L.body.length (runS L B t s)
/-- ahead of the first turn -/
def startS (M : List (List Int)) : Sq := ⟨fun i j => nth (rowAt M i) j, fun _ _ => 0⟩
def I64 (x : Int) : Prop := -9223372036854775808 ≤ x ∧ x ≤ 9223372036854775807
def LoopIn (L : Lp) : Prop := ∀ k, I64 (stAt L.body k).nn
theorem idx_in (s p t l : Int) : 0 ≤ idx s p t l ∧ idx s p t l < p2 l.toNat := by
  have hp := p2_pos l.toNat
  unfold idx
  split
  · exact ⟨Int.emod_nonneg _ (by omega), Int.emod_lt_of_pos _ hp⟩
  · exact ⟨Int.le_refl _, hp⟩
theorem wordAt_cast (L : Lp) (t : Nat) (x : St) : idx x.sp x.pl t (nth L.logs x.ar.toNat) = (wordAt L t x : Int) := by
  have h := idx_in x.sp x.pl t (nth L.logs x.ar.toNat)
  unfold wordAt
  omega
theorem st_parts {m n k : Int} {s : St} (h : stOk m n k s = true) : s.o = 1 ∨ s.o = 2 ∨ (s.o = 3 ∧ 0 ≤ s.ar ∧ s.ar < m) ∨ (s.o = 4 ∧ 0 ≤ s.ar ∧ s.ar < m ∧ refOk n k s.xa s.xb = true) ∨
    (11 ≤ s.o ∧ s.o ≤ 18 ∧ refOk n k s.xa s.xb = true ∧ refOk n k s.ya s.yb = true) := by
  unfold stOk at h
  by_cases o1 : s.o = 1
  · exact .inl o1
  rw [if_neg o1] at h
  by_cases o2 : s.o = 2
  · exact .inr (.inl o2)
  rw [if_neg o2] at h
  by_cases o3 : s.o = 3
  · rw [if_pos o3] at h
    simp only [Bool.and_eq_true, wordOk] at h
    have h1 := inR_iff.1 h.2.1.1
    exact .inr (.inr (.inl ⟨o3, by omega, by omega⟩))
  rw [if_neg o3] at h
  by_cases o4 : s.o = 4
  · rw [if_pos o4] at h
    simp only [Bool.and_eq_true, wordOk] at h
    have h1 := inR_iff.1 h.1.2.1.1
    exact .inr (.inr (.inr (.inl ⟨o4, by omega, by omega, h.2⟩)))
  rw [if_neg o4] at h
  by_cases o5 : 11 ≤ s.o ∧ s.o ≤ 18
  · rw [if_pos o5] at h
    simp only [Bool.and_eq_true] at h
    exact .inr (.inr (.inr (.inr ⟨o5.1, o5.2, h.1.2, h.2⟩)))
  · rw [if_neg o5] at h; exact Bool.noConfusion h
end Go.Proofs.YtjlfcbccpcigeacDoor
/- What a run of a kernel comes to, cycle by cycle, as the document says it; no Go in sight. -/
namespace Go.Proofs.YtjlfcbccpcigeacDoor
open Go.RowKit
set_option linter.unusedVariables false

/-- a result that is due: when, in which register, what -/
structure Du where
  at_ : Int
  rg : Int
  v : Int
def Du.nil : Du := ⟨0, 0, 0⟩
def duAt (l : List Du) (i : Nat) : Du := l.getD i Du.nil
/-- f, but v at i -/
def put1 (f : Nat → Int) (i : Nat) (v : Int) : Nat → Int := fun a => if a = i then v else f a
/-- E3, E4: the first k that are due have been looked at: those of this cycle have become what is in their registers -/
def landN (now : Int) (due : List Du) (f : Nat → Int) : Nat → Nat → Int
  | 0 => f
  | k + 1 => if (duAt due k).at_ = now then put1 (landN now due f k) (duAt due k).rg.toNat (duAt due k).v else landN now due f k
/-- those that are left of the first k -/
def restN (now : Int) (due : List Du) : Nat → List Du
  | 0 => []
  | k + 1 => if (duAt due k).at_ = now then restN now due k else restN now due k ++ [duAt due k]
/-- a register in a pace -/
def regK (f : Nat → Int) (R n p : Int) : Int := f ((n + p) % R).toNat
/-- is the Op done in this cycle? -/
def actK (pc turns now : Int) (x : Kop) : Bool := decide (x.sl = now % pc) && decide (0 ≤ now / pc - x.sg) && decide (now / pc - x.sg < turns)
/-- the word that an Op is at -/
def wordK (logs : List Int) (pc now : Int) (x : Kop) : Nat := (idx x.sp x.pl (now / pc - x.sg) (nth logs x.ar.toNat)).toNat
/-- what an Op comes to -/
def valK (logs : List Int) (R pc now : Int) (f : Nat → Int) (m : Nat → Nat → Int) (x : Kop) : Int :=
  if x.o = 1 then x.nn else if x.o = 2 then now / pc - x.sg else if x.o = 3 then m x.ar.toNat (wordK logs pc now x) else if x.o = 4 then regK f R x.a (now / pc)
  else opv (x.o - 10) (regK f R x.a (now / pc)) (regK f R x.b (now / pc))
/-- the words behind the cycle, and what is due, when the first k Ops have been done -/
structure Nx where
  nx : Nat → Nat → Int
  du : List Du
def opK (t : Tg) (logs : List Int) (pc turns now : Int) (f : Nat → Int) (m : Nat → Nat → Int) (q : Nx) (x : Kop) : Nx :=
  if actK pc turns now x = true then
    ⟨if x.o = 4 then put2 q.nx x.ar.toNat (wordK logs pc now x) (valK logs t.r pc now f m x) else q.nx, q.du ++ [⟨now + waitsT t (clsv x.o), (x.d + now / pc) % t.r, valK logs t.r pc now f m x⟩]⟩
  else q
def opsK (t : Tg) (K : Kn) (logs : List Int) (turns now : Int) (f : Nat → Int) (m : Nat → Nat → Int) (q : Nx) : Nat → Nx
  | 0 => q
  | k + 1 => opK t logs K.pc turns now f m (opsK t K logs turns now f m q k) (opAt K.ops k)
/-- where a run stands -/
structure Kst where
  f : Nat → Int
  m : Nat → Nat → Int
  due : List Du
/-- the cycles of a run, of all paces -/
def lastK (K : Kn) (turns : Int) : Int := (turns + K.st - 1) * K.pc
def cycK (t : Tg) (K : Kn) (logs : List Int) (turns now : Int) (s : Kst) : Kst :=
  if lastK K turns ≤ now then ⟨landN now s.due s.f s.due.length, s.m, restN now s.due s.due.length⟩
  else
    ⟨landN now s.due s.f s.due.length,
      (opsK t K logs turns now (landN now s.due s.f s.due.length) s.m ⟨s.m, restN now s.due s.due.length⟩ K.ops.length).nx,
      (opsK t K logs turns now (landN now s.due s.f s.due.length) s.m ⟨s.m, restN now s.due s.due.length⟩ K.ops.length).du⟩
def runK (t : Tg) (K : Kn) (logs : List Int) (turns : Int) (s : Kst) : Nat → Kst
  | 0 => s
  | n + 1 => cycK t K logs turns n (runK t K logs turns s n)
def startK (R : List Int) (M : List (List Int)) : Kst := ⟨fun i => nth R i, fun i j => nth (rowAt M i) j, []⟩
/-- E2: a whole run -/
def playK (t : Tg) (K : Kn) (logs : List Int) (turns : Int) (R : List Int) (M : List (List Int)) : Kst := if turns = 0 then startK R M else runK t K logs turns (startK R M) (lastK K turns + 7).toNat
theorem duAt_in {l : List Du} {i : Nat} (h : i < l.length) : duAt l i ∈ l := by
  unfold duAt
  rw [List.getD, List.getElem?_eq_getElem h]
  exact List.getElem_mem _
end Go.Proofs.YtjlfcbccpcigeacDoor
/- The program's way of asking whether a kernel may be is the document's: Op by Op, all statements at once, units counted as they come; no Go in sight. -/
namespace Go.Proofs.YtjlfcbccpcigeacDoor
set_option linter.unusedVariables false

theorem units_ge {t : Tg} {c : Int} (h : mayT t = true) : 1 ≤ unitsT t c := by
  obtain ⟨h1, h2, h3, -, -⟩ := mayT_parts h
  have h1 := unit_iff h1
  have h2 := unit_iff h2
  have h3 := unit_iff h3
  unfold unitsT
  split
  · omega
  · split <;> omega
end Go.Proofs.YtjlfcbccpcigeacDoor
/- Edges rise, are of statements, and go forward where they have no turns back; no Go in sight. -/
namespace Go.Proofs.YtjlfcbccpcigeacDoor
set_option linter.unusedVariables false

end Go.Proofs.YtjlfcbccpcigeacDoor
/- What is due, in six lists by cycle, as the program keeps it; the Ops of a Slot; stores that wait: all of it against the document's own run; no Go in sight. -/
namespace Go.Proofs.YtjlfcbccpcigeacDoor
set_option linter.unusedVariables false

theorem duAt_left (D E : List Du) (k : Nat) (h : k < D.length) : duAt (D ++ E) k = duAt D k := by
  unfold duAt; simp [List.getD, List.getElem?_append, h]
theorem duAt_mid (D : List Du) (d : Du) : duAt (D ++ [d]) D.length = d := by
  unfold duAt; simp [List.getD]
theorem rest_left (now : Int) (D E : List Du) : ∀ k, k ≤ D.length → restN now (D ++ E) k = restN now D k := by
  intro k
  induction k with
  | zero => exact fun _ => rfl
  | succ k ih =>
    intro hk
    show (if (duAt (D ++ E) k).at_ = now then _ else _) = (if (duAt D k).at_ = now then _ else _)
    rw [duAt_left _ _ _ (by omega), ih (by omega)]
theorem snoc_induct {α : Type} {p : List α → Prop} (h0 : p []) (hs : ∀ l a, p l → p (l ++ [a])) (l : List α) : p l := by
  rw [← List.reverse_reverse l]
  induction l.reverse with
  | nil => exact h0
  | cons a r ih => rw [List.reverse_cons]; exact hs _ _ ih
theorem rest_filter (now : Int) (D : List Du) : restN now D D.length = D.filter fun d => !decide (d.at_ = now) := by
  refine snoc_induct (p := fun D => restN now D D.length = D.filter fun d => !decide (d.at_ = now)) rfl (fun l d ih => ?_) D
  rw [List.length_append, List.filter_append]
  show (if (duAt (l ++ [d]) l.length).at_ = now then restN now (l ++ [d]) l.length else restN now (l ++ [d]) l.length ++ [duAt (l ++ [d]) l.length]) = _
  rw [duAt_mid, rest_left _ _ _ _ (Nat.le_refl _), ih]
  by_cases e : d.at_ = now
  · rw [if_pos e]; simp [e]
  · rw [if_neg e]; simp [e]
end Go.Proofs.YtjlfcbccpcigeacDoor
