/- What a run of a kernel comes to, cycle by cycle, as the document says it; no Go in sight. -/
import Derived.Test.YtpljieenjkbmmaaKernMath
import Derived.Test.YtpljieenjkbmmaaLogsMath
import Derived.Test.YtpljieenjkbmmaaSeqMath
namespace Go.Proofs.Ytpljieenjkbmmaa
open Go.RowKit
set_option linter.unusedVariables false

/-- a result that is due: when, in which register, what -/
structure Du where
  at_ : Int
  rg : Int
  v : Int
def Du.nil : Du := ⟨0, 0, 0⟩
def duAt (l : List Du) (i : Nat) : Du := l.getD i Du.nil
/-- f, but v at i -/
def put1 (f : Nat → Int) (i : Nat) (v : Int) : Nat → Int := fun a => if a = i then v else f a
/-- E3, E4: the first k that are due have been looked at: those of this cycle have become what is in their registers -/
def landN (now : Int) (due : List Du) (f : Nat → Int) : Nat → Nat → Int
  | 0 => f
  | k + 1 => if (duAt due k).at_ = now then put1 (landN now due f k) (duAt due k).rg.toNat (duAt due k).v else landN now due f k
/-- those that are left of the first k -/
def restN (now : Int) (due : List Du) : Nat → List Du
  | 0 => []
  | k + 1 => if (duAt due k).at_ = now then restN now due k else restN now due k ++ [duAt due k]
/-- a register in a pace -/
def regK (f : Nat → Int) (R n p : Int) : Int := f ((n + p) % R).toNat
/-- is the Op done in this cycle? -/
def actK (pc turns now : Int) (x : Kop) : Bool := decide (x.sl = now % pc) && decide (0 ≤ now / pc - x.sg) && decide (now / pc - x.sg < turns)
/-- the word that an Op is at -/
def wordK (logs : List Int) (pc now : Int) (x : Kop) : Nat := (idx x.sp x.pl (now / pc - x.sg) (nth logs x.ar.toNat)).toNat
/-- what an Op comes to -/
def valK (logs : List Int) (R pc now : Int) (f : Nat → Int) (m : Nat → Nat → Int) (x : Kop) : Int :=
  if x.o = 1 then x.nn else if x.o = 2 then now / pc - x.sg else if x.o = 3 then m x.ar.toNat (wordK logs pc now x) else if x.o = 4 then regK f R x.a (now / pc)
  else opv (x.o - 10) (regK f R x.a (now / pc)) (regK f R x.b (now / pc))
/-- the words behind the cycle, and what is due, when the first k Ops have been done -/
structure Nx where
  nx : Nat → Nat → Int
  du : List Du
def opK (t : Tg) (logs : List Int) (pc turns now : Int) (f : Nat → Int) (m : Nat → Nat → Int) (q : Nx) (x : Kop) : Nx :=
  if actK pc turns now x = true then
    ⟨if x.o = 4 then put2 q.nx x.ar.toNat (wordK logs pc now x) (valK logs t.r pc now f m x) else q.nx, q.du ++ [⟨now + waitsT t (clsv x.o), (x.d + now / pc) % t.r, valK logs t.r pc now f m x⟩]⟩
  else q
def opsK (t : Tg) (K : Kn) (logs : List Int) (turns now : Int) (f : Nat → Int) (m : Nat → Nat → Int) (q : Nx) : Nat → Nx
  | 0 => q
  | k + 1 => opK t logs K.pc turns now f m (opsK t K logs turns now f m q k) (opAt K.ops k)
/-- where a run stands -/
structure Kst where
  f : Nat → Int
  m : Nat → Nat → Int
  due : List Du
/-- the cycles of a run, of all paces -/
def lastK (K : Kn) (turns : Int) : Int := (turns + K.st - 1) * K.pc
def cycK (t : Tg) (K : Kn) (logs : List Int) (turns now : Int) (s : Kst) : Kst :=
  if lastK K turns ≤ now then ⟨landN now s.due s.f s.due.length, s.m, restN now s.due s.due.length⟩
  else
    ⟨landN now s.due s.f s.due.length,
      (opsK t K logs turns now (landN now s.due s.f s.due.length) s.m ⟨s.m, restN now s.due s.due.length⟩ K.ops.length).nx,
      (opsK t K logs turns now (landN now s.due s.f s.due.length) s.m ⟨s.m, restN now s.due s.due.length⟩ K.ops.length).du⟩
def runK (t : Tg) (K : Kn) (logs : List Int) (turns : Int) (s : Kst) : Nat → Kst
  | 0 => s
  | n + 1 => cycK t K logs turns n (runK t K logs turns s n)
def startK (R : List Int) (M : List (List Int)) : Kst := ⟨fun i => nth R i, fun i j => nth (rowAt M i) j, []⟩
/-- E2: a whole run -/
def playK (t : Tg) (K : Kn) (logs : List Int) (turns : Int) (R : List Int) (M : List (List Int)) : Kst := if turns = 0 then startK R M else runK t K logs turns (startK R M) (lastK K turns + 7).toNat
def regsOf (n : Nat) (s : Kst) : List Int := (List.range n).map s.f
def wordsOf (M : List (List Int)) (s : Kst) : List (List Int) := (List.range M.length).map fun i => (List.range (rowAt M i).length).map fun j => s.m i j

/-- how many are due at most -/
theorem rest_len (now : Int) (due : List Du) (k : Nat) : (restN now due k).length ≤ k := by
  induction k with
  | zero => exact Nat.le_refl _
  | succ k ih =>
    show (if (duAt due k).at_ = now then restN now due k else restN now due k ++ [duAt due k]).length ≤ k + 1
    split
    · omega
    · rw [List.length_append]; simp; omega
theorem ops_len (t : Tg) (K : Kn) (logs : List Int) (turns now : Int) (f : Nat → Int) (m : Nat → Nat → Int) (q : Nx) (k : Nat) : (opsK t K logs turns now f m q k).du.length ≤ q.du.length + k := by
  induction k with
  | zero => exact Nat.le_refl _
  | succ k ih =>
    show (opK t logs K.pc turns now f m (opsK t K logs turns now f m q k) (opAt K.ops k)).du.length ≤ _
    unfold opK
    split
    · show (_ ++ [_]).length ≤ _
      rw [List.length_append]; simp; omega
    · omega
theorem cyc_len (t : Tg) (K : Kn) (logs : List Int) (turns now : Int) (s : Kst) : (cycK t K logs turns now s).due.length ≤ s.due.length + K.ops.length := by
  have h := rest_len now s.due s.due.length
  unfold cycK
  split
  · show (restN _ _ _).length ≤ _; omega
  · have h2 := ops_len t K logs turns now (landN now s.due s.f s.due.length) s.m ⟨s.m, restN now s.due s.due.length⟩ K.ops.length
    show (opsK _ _ _ _ _ _ _ _ _).du.length ≤ _
    have h3 : (Nx.mk s.m (restN now s.due s.due.length)).du.length = (restN now s.due s.due.length).length := rfl
    omega
theorem run_len (t : Tg) (K : Kn) (logs : List Int) (turns : Int) (s : Kst) (n : Nat) : (runK t K logs turns s n).due.length ≤ s.due.length + n * K.ops.length := by
  induction n with
  | zero => exact Nat.le_add_right _ _
  | succ n ih =>
    have h := cyc_len t K logs turns n (runK t K logs turns s n)
    show (cycK t K logs turns n (runK t K logs turns s n)).due.length ≤ _
    rw [Nat.succ_mul]
    omega

/-- all numbers of a run are of 64 bits, and results go to registers -/
structure Kst.fine (R : Int) (s : Kst) : Prop where
  f : ∀ i, I64 (s.f i)
  m : ∀ i j, I64 (s.m i j)
  due : ∀ d ∈ s.due, 0 ≤ d.rg ∧ d.rg < R ∧ I64 d.v
theorem i64_put1 {f : Nat → Int} {i : Nat} {v : Int} (hf : ∀ a, I64 (f a)) (hv : I64 v) : ∀ a, I64 (put1 f i v a) := fun a => i64_ite hv (hf a)
theorem duAt_in {l : List Du} {i : Nat} (h : i < l.length) : duAt l i ∈ l := by
  unfold duAt
  rw [List.getD, List.getElem?_eq_getElem h]
  exact List.getElem_mem _
theorem land_fine {now R : Int} {due : List Du} {f : Nat → Int} (hf : ∀ i, I64 (f i)) (hd : ∀ d ∈ due, 0 ≤ d.rg ∧ d.rg < R ∧ I64 d.v) : ∀ k, k ≤ due.length → ∀ i, I64 (landN now due f k i) := by
  intro k
  induction k with
  | zero => exact fun _ => hf
  | succ k ih =>
    intro hk i
    show I64 ((if (duAt due k).at_ = now then put1 (landN now due f k) (duAt due k).rg.toNat (duAt due k).v else landN now due f k) i)
    split
    · exact i64_put1 (ih (by omega)) (hd _ (duAt_in (by omega))).2.2 i
    · exact ih (by omega) i
theorem rest_fine {now : Int} {due : List Du} {p : Du → Prop} (hd : ∀ d ∈ due, p d) : ∀ k, k ≤ due.length → ∀ d ∈ restN now due k, p d := by
  intro k
  induction k with
  | zero => exact fun _ d h => absurd h (by show ¬ d ∈ []; simp)
  | succ k ih =>
    intro hk d h
    have h' : d ∈ (if (duAt due k).at_ = now then restN now due k else restN now due k ++ [duAt due k]) := h
    split at h'
    · exact ih (by omega) d h'
    · rcases List.mem_append.1 h' with h2 | h2
      · exact ih (by omega) d h2
      · have e : d = duAt due k := by simpa using h2
        rw [e]; exact hd _ (duAt_in (by omega))
theorem val_fine {logs : List Int} {R pc now : Int} {f : Nat → Int} {m : Nat → Nat → Int} {x : Kop} (hf : ∀ i, I64 (f i)) (hm : ∀ i j, I64 (m i j)) (hn : I64 x.nn) (ht : I64 (now / pc - x.sg)) : I64 (valK logs R pc now f m x) :=
  i64_ite hn (i64_ite ht (i64_ite (hm _ _) (i64_ite (hf _) (i64_opv _ _ _))))
end Go.Proofs.Ytpljieenjkbmmaa
