/- Kernels: what may be; no Go in sight. -/
import Derived.Test.YtpljieenjkbmmaaTargetMath
namespace Go.Proofs.Ytpljieenjkbmmaa
set_option linter.unusedVariables false

/-- an Op of a kernel -/
structure Kop where
  sl : Int
  sg : Int
  o : Int
  d : Int
  a : Int
  b : Int
  ar : Int
  sp : Int
  pl : Int
  nn : Int
def Kop.nil : Kop := ⟨0, 0, 0, 0, 0, 0, 0, 0, 0, 0⟩
/-- a kernel -/
structure Kn where
  pc : Int
  st : Int
  ops : List Kop
def opAt (l : List Kop) (i : Nat) : Kop := l.getD i Kop.nil
def usesK (op : Int) : Int := if op = 4 then 1 else if 10 < op then 2 else 0
/-- the loop that an Op's statement is asked in -/
def loopK (logs : List Int) (x : Kop) : Lp := ⟨logs, [⟨2, 0, 0, 0, 0, 0, 0, 0, 0⟩, ⟨x.o, 0, 0, 0, 0, x.ar, x.sp, x.pl, x.nn⟩], []⟩
/-- E1, of an Op: its place in time, its registers, its statement -/
def timeOk (pc st : Int) (x : Kop) : Bool := inR x.sl 0 (pc - 1) && inR x.sg 0 (st - 1) && decide (x.sg * pc + x.sl ≤ 1000)
def regsOk (r : Int) (x : Kop) : Bool := inR x.d 0 (r - 1) && inR x.a 0 (r - 1) && inR x.b 0 (r - 1) && (decide (1 ≤ usesK x.o) || decide (x.a = 0)) && (decide (2 ≤ usesK x.o) || decide (x.b = 0))
def oneOk (r pc st : Int) (logs : List Int) (x : Kop) : Bool := timeOk pc st x && regsOk r x && mayB (loopK logs x)
/-- how many below n there are -/
def cnt (p : Nat → Bool) : Nat → Nat
  | 0 => 0
  | n + 1 => cnt p n + (if p n = true then 1 else 0)
theorem cnt_le (p : Nat → Bool) (n : Nat) : cnt p n ≤ n := by
  induction n with
  | zero => exact Nat.le_refl _
  | succ n ih =>
    show cnt p n + (if p n = true then 1 else 0) ≤ n + 1
    split <;> omega
def sameK (l : List Kop) (i j : Nat) : Bool := decide ((opAt l j).sl = (opAt l i).sl) && decide (clsv (opAt l j).o = clsv (opAt l i).o)
def manyK (l : List Kop) (i : Nat) : Nat := cnt (sameK l i) l.length
/-- E1 -/
def mayK (t : Tg) (K : Kn) (logs : List Int) : Bool :=
  mayT t && inR K.pc 1 200 && inR K.st 1 1001 && inR K.ops.length 1 16 && allN (fun i => oneOk t.r K.pc K.st logs (opAt K.ops i) && decide ((manyK K.ops i : Int) ≤ unitsT t (clsv (opAt K.ops i).o))) K.ops.length

theorem time_no {pc st : Int} {x : Kop} (h : x.sl < 0 ∨ pc ≤ x.sl ∨ x.sg < 0 ∨ st ≤ x.sg ∨ 1000 < x.sg * pc + x.sl) : timeOk pc st x = false := by
  unfold timeOk
  rw [Bool.eq_false_iff]
  intro h2
  simp only [Bool.and_eq_true, decide_eq_true_eq] at h2
  have h3 := inR_iff.1 h2.1.1
  have h4 := inR_iff.1 h2.1.2
  omega
theorem time_yes {pc st : Int} {x : Kop} (h1 : ¬ x.sl < 0) (h2 : ¬ pc ≤ x.sl) (h3 : ¬ x.sg < 0) (h4 : ¬ st ≤ x.sg) (h5 : ¬ 1000 < x.sg * pc + x.sl) : timeOk pc st x = true := by
  unfold timeOk
  rw [inR_yes (by omega), inR_yes (by omega), decide_eq_true (by omega)]; rfl
theorem regs_no {r : Int} {x : Kop} (h : x.d < 0 ∨ r ≤ x.d ∨ x.a < 0 ∨ x.b < 0 ∨ r ≤ x.a ∨ r ≤ x.b ∨ (usesK x.o < 1 ∧ x.a ≠ 0) ∨ (usesK x.o < 2 ∧ x.b ≠ 0)) : regsOk r x = false := by
  unfold regsOk
  rw [Bool.eq_false_iff]
  intro h2
  simp only [Bool.and_eq_true, Bool.or_eq_true, decide_eq_true_eq] at h2
  have h3 := inR_iff.1 h2.1.1.1.1
  have h4 := inR_iff.1 h2.1.1.1.2
  have h5 := inR_iff.1 h2.1.1.2
  have h6 := h2.1.2
  have h7 := h2.2
  omega
theorem regs_yes {r : Int} {x : Kop} (h1 : ¬ x.d < 0) (h2 : ¬ r ≤ x.d) (h3 : ¬ x.a < 0) (h4 : ¬ x.b < 0) (h5 : ¬ r ≤ x.a) (h6 : ¬ r ≤ x.b) (h7 : 1 ≤ usesK x.o ∨ x.a = 0) (h8 : 2 ≤ usesK x.o ∨ x.b = 0) : regsOk r x = true := by
  unfold regsOk
  rw [inR_yes (by omega), inR_yes (by omega), inR_yes (by omega)]
  simp only [Bool.true_and, Bool.and_eq_true, Bool.or_eq_true, decide_eq_true_eq]
  exact ⟨h7, h8⟩
end Go.Proofs.Ytpljieenjkbmmaa
