/- What a run of a loop comes to, turn by turn, as the document says it; and that all of it stays in range. -/
import Derived.Test.YtpljieenjkbmmaaOps
import Derived.Test.YtpljieenjkbmmaaLoopMath
import Derived.OpenShut
namespace Go.Proofs.Ytpljieenjkbmmaa
open Go.RowKit
set_option linter.unusedVariables false

/-- where a run stands: the words, and what each statement came to in each turn -/
structure Sq where
  mem : Nat → Nat → Int
  val : Nat → Nat → Int
/-- f, but v at i and j -/
def put2 (f : Nat → Nat → Int) (i j : Nat) (v : Int) : Nat → Nat → Int := fun a b => if a = i ∧ b = j then v else f a b
theorem put2_at (f : Nat → Nat → Int) (i j : Nat) (v : Int) : put2 f i j v i j = v := if_pos ⟨rfl, rfl⟩
theorem put2_row (f : Nat → Nat → Int) (i j a b : Nat) (v : Int) (h : a ≠ i) : put2 f i j v a b = f a b := if_neg fun e => h e.1
theorem put2_col (f : Nat → Nat → Int) (i j a b : Nat) (v : Int) (h : b ≠ j) : put2 f i j v a b = f a b := if_neg fun e => h e.2
theorem put2_in (f : Nat → Nat → Int) (i j b : Nat) (v : Int) : put2 f i j v i b = if b = j then v else f i b := by
  unfold put2; by_cases e : b = j <;> simp [e]

/-- what a Ref is in turn t: C2 -/
def refV (B : List (List Int)) (val : Nat → Nat → Int) (t : Nat) (x y : Int) : Int :=
  if y ≤ t then val ((t : Int) - y).toNat x.toNat else nth (rowAt B x.toNat) (y - t - 1).toNat
/-- the word that a statement is at, in turn t -/
def wordAt (L : Lp) (t : Nat) (x : St) : Nat := (idx x.sp x.pl t (nth L.logs x.ar.toNat)).toNat
/-- what a statement comes to: C1 -/
def comes (L : Lp) (B : List (List Int)) (t : Nat) (s : Sq) (x : St) : Int :=
  if x.o = 1 then x.nn else if x.o = 2 then (t : Int) else if x.o = 3 then s.mem x.ar.toNat (wordAt L t x) else if x.o = 4 then refV B s.val t x.xa x.xb
  else opv (x.o - 10) (refV B s.val t x.xa x.xb) (refV B s.val t x.ya x.yb)
/-- statement k of turn t is done -/
def stepS (L : Lp) (B : List (List Int)) (t : Nat) (s : Sq) (k : Nat) : Sq :=
  ⟨if (stAt L.body k).o = 4 then put2 s.mem (stAt L.body k).ar.toNat (wordAt L t (stAt L.body k)) (comes L B t s (stAt L.body k)) else s.mem, put2 s.val t k (comes L B t s (stAt L.body k))⟩
/-- the first k statements of turn t are done -/
def turnS (L : Lp) (B : List (List Int)) (t : Nat) : Nat → Sq → Sq
  | 0, s => s
  | k + 1, s => stepS L B t (turnS L B t k s) k
/-- t turns are done -/
def runS (L : Lp) (B : List (List Int)) : Nat → Sq → Sq
  | 0, s => s
  | t + 1, s => turnS L B t L.body.length (runS L B t s)
/-- ahead of the first turn -/
def startS (M : List (List Int)) : Sq := ⟨fun i j => nth (rowAt M i) j, fun _ _ => 0⟩
/-- the Result: C3 -/
def outsOf (L : Lp) (B : List (List Int)) (turns : Nat) (s : Sq) : List Int :=
  L.outs.map fun o => if turns = 0 then nth (rowAt B o.toNat) 0 else s.val (turns - 1) o.toNat
def memOf (M : List (List Int)) (s : Sq) : List (List Int) := (List.range M.length).map fun i => (List.range (rowAt M i).length).map fun j => s.mem i j

def I64 (x : Int) : Prop := -9223372036854775808 ≤ x ∧ x ≤ 9223372036854775807
def LoopIn (L : Lp) : Prop := ∀ k, I64 (stAt L.body k).nn
def RowsIn (B : List (List Int)) : Prop := ∀ i j, I64 (nth (rowAt B i) j)
/-- all numbers of a run are of 64 bits -/
def Sq.fine (s : Sq) : Prop := (∀ i j, I64 (s.mem i j)) ∧ ∀ t k, I64 (s.val t k)

theorem i64_w (x : Int) : I64 (wrap64 x) := by unfold I64 wrap64; omega
theorem i64_ite {p : Prop} [Decidable p] {a b : Int} (ha : I64 a) (hb : I64 b) : I64 (if p then a else b) := by split <;> assumption
theorem i64_bits (op : BinOp) (a b : Int) : I64 (bits op .i64 a b) := bounds_i64 (wf_bits op .i64 a b)
theorem i64_0 : I64 0 := by unfold I64; omega
theorem i64_1 : I64 1 := by unfold I64; omega
theorem i64_opv (o a b : Int) : I64 (opv o a b) := by
  unfold opv
  refine i64_ite (i64_w _) (i64_ite (i64_w _) (i64_ite (i64_w _) (i64_ite (i64_bits _ _ _) (i64_ite (i64_bits _ _ _) (i64_ite (i64_bits _ _ _) (i64_ite (i64_ite i64_1 i64_0) (i64_ite (i64_ite i64_1 i64_0) i64_0)))))))
theorem i64_put {f : Nat → Nat → Int} {i j : Nat} {v : Int} (hf : ∀ a b, I64 (f a b)) (hv : I64 v) : ∀ a b, I64 (put2 f i j v a b) := fun a b => i64_ite hv (hf a b)
theorem i64_refV {B : List (List Int)} {val : Nat → Nat → Int} {t : Nat} {x y : Int} (hB : RowsIn B) (hv : ∀ a b, I64 (val a b)) : I64 (refV B val t x y) := i64_ite (hv _ _) (hB _ _)
theorem i64_comes {L : Lp} {B : List (List Int)} {t : Nat} {s : Sq} {k : Nat} (hL : LoopIn L) (hB : RowsIn B) (ht : t ≤ 200) (hs : s.fine) : I64 (comes L B t s (stAt L.body k)) :=
  i64_ite (hL k) (i64_ite (by unfold I64; omega) (i64_ite (hs.1 _ _) (i64_ite (i64_refV hB hs.2) (i64_opv _ _ _))))
theorem fine_step {L : Lp} {B : List (List Int)} {t : Nat} {s : Sq} {k : Nat} (hL : LoopIn L) (hB : RowsIn B) (ht : t ≤ 200) (hs : s.fine) : (stepS L B t s k).fine := by
  refine ⟨?_, i64_put hs.2 (i64_comes hL hB ht hs)⟩
  show ∀ i j, I64 ((if (stAt L.body k).o = 4 then _ else s.mem) i j)
  split
  · exact i64_put hs.1 (i64_comes hL hB ht hs)
  · exact hs.1
theorem fine_turn {L : Lp} {B : List (List Int)} {t k : Nat} {s : Sq} (hL : LoopIn L) (hB : RowsIn B) (ht : t ≤ 200) (hs : s.fine) : (turnS L B t k s).fine := by
  induction k with
  | zero => exact hs
  | succ k ih => exact fine_step hL hB ht ih
theorem fine_run {L : Lp} {B : List (List Int)} {t : Nat} {s : Sq} (hL : LoopIn L) (hB : RowsIn B) (ht : t ≤ 200) (hs : s.fine) : (runS L B t s).fine := by
  induction t with
  | zero => exact hs
  | succ t ih => exact fine_turn hL hB (by omega) (ih (by omega))
theorem fine_start {M : List (List Int)} (hM : RowsIn M) : (startS M).fine := ⟨fun i j => hM i j, fun _ _ => i64_0⟩
/-- what is not yet done is 0 -/
theorem val_turn {L : Lp} {B : List (List Int)} {t k a b : Nat} {s : Sq} (h : a ≠ t ∨ k ≤ b) : (turnS L B t k s).val a b = s.val a b := by
  induction k with
  | zero => rfl
  | succ k ih =>
    show put2 _ t k _ a b = _
    have h2 : a ≠ t ∨ b ≠ k := by omega
    rcases h2 with h2 | h2
    · rw [put2_row _ _ _ _ _ _ h2]; exact ih (by omega)
    · rw [put2_col _ _ _ _ _ _ h2]; exact ih (by omega)
theorem val_ahead {L : Lp} {B : List (List Int)} {M : List (List Int)} {t a b : Nat} (h : t ≤ a) : (runS L B t (startS M)).val a b = 0 := by
  induction t with
  | zero => rfl
  | succ t ih =>
    show (turnS L B t L.body.length _).val a b = 0
    rw [val_turn (.inl (by omega))]
    exact ih (by omega)

theorem idx_in (s p t l : Int) : 0 ≤ idx s p t l ∧ idx s p t l < p2 l.toNat := by
  have hp := p2_pos l.toNat
  unfold idx
  split
  · exact ⟨Int.emod_nonneg _ (by omega), Int.emod_lt_of_pos _ hp⟩
  · exact ⟨Int.le_refl _, hp⟩
theorem wordAt_lt (L : Lp) (t : Nat) (x : St) : wordAt L t x < 2 ^ (nth L.logs x.ar.toNat).toNat := by
  have h := idx_in x.sp x.pl t (nth L.logs x.ar.toNat)
  unfold p2 at h
  unfold wordAt
  omega
theorem wordAt_cast (L : Lp) (t : Nat) (x : St) : idx x.sp x.pl t (nth L.logs x.ar.toNat) = (wordAt L t x : Int) := by
  have h := idx_in x.sp x.pl t (nth L.logs x.ar.toNat)
  unfold wordAt
  omega
theorem ref_parts {n k x y : Int} (h : refOk n k x y = true) (hk : k ≤ n) : 0 ≤ x ∧ x < n ∧ 0 ≤ y ∧ y ≤ 3 := by
  unfold refOk at h
  rw [Bool.and_eq_true] at h
  have h1 := inR_iff.1 h.1
  have h2 := inR_iff.1 h.2
  split at h2 <;> omega
theorem st_parts {m n k : Int} {s : St} (h : stOk m n k s = true) : s.o = 1 ∨ s.o = 2 ∨ (s.o = 3 ∧ 0 ≤ s.ar ∧ s.ar < m) ∨ (s.o = 4 ∧ 0 ≤ s.ar ∧ s.ar < m ∧ refOk n k s.xa s.xb = true) ∨
    (11 ≤ s.o ∧ s.o ≤ 18 ∧ refOk n k s.xa s.xb = true ∧ refOk n k s.ya s.yb = true) := by
  unfold stOk at h
  by_cases o1 : s.o = 1
  · exact .inl o1
  rw [if_neg o1] at h
  by_cases o2 : s.o = 2
  · exact .inr (.inl o2)
  rw [if_neg o2] at h
  by_cases o3 : s.o = 3
  · rw [if_pos o3] at h
    simp only [Bool.and_eq_true, wordOk] at h
    have h1 := inR_iff.1 h.2.1.1
    exact .inr (.inr (.inl ⟨o3, by omega, by omega⟩))
  rw [if_neg o3] at h
  by_cases o4 : s.o = 4
  · rw [if_pos o4] at h
    simp only [Bool.and_eq_true, wordOk] at h
    have h1 := inR_iff.1 h.1.2.1.1
    exact .inr (.inr (.inr (.inl ⟨o4, by omega, by omega, h.2⟩)))
  rw [if_neg o4] at h
  by_cases o5 : 11 ≤ s.o ∧ s.o ≤ 18
  · rw [if_pos o5] at h
    simp only [Bool.and_eq_true] at h
    exact .inr (.inr (.inr (.inr ⟨o5.1, o5.2, h.1.2, h.2⟩)))
  · rw [if_neg o5] at h; exact Bool.noConfusion h
theorem step_1 {L : Lp} {B : List (List Int)} {t k : Nat} {s : Sq} {xa xb ya yb ar sp pl nn : Int} (h : stAt L.body k = ⟨1, xa, xb, ya, yb, ar, sp, pl, nn⟩) : stepS L B t s k = ⟨s.mem, put2 s.val t k nn⟩ := by
  unfold stepS; rw [h]; rfl
theorem step_2 {L : Lp} {B : List (List Int)} {t k : Nat} {s : Sq} {xa xb ya yb ar sp pl nn : Int} (h : stAt L.body k = ⟨2, xa, xb, ya, yb, ar, sp, pl, nn⟩) : stepS L B t s k = ⟨s.mem, put2 s.val t k (t : Int)⟩ := by
  unfold stepS; rw [h]; rfl
theorem step_3 {L : Lp} {B : List (List Int)} {t k : Nat} {s : Sq} {xa xb ya yb ar sp pl nn : Int} (h : stAt L.body k = ⟨3, xa, xb, ya, yb, ar, sp, pl, nn⟩) :
    stepS L B t s k = ⟨s.mem, put2 s.val t k (s.mem ar.toNat (wordAt L t ⟨3, xa, xb, ya, yb, ar, sp, pl, nn⟩))⟩ := by
  unfold stepS; rw [h]; rfl
theorem step_4 {L : Lp} {B : List (List Int)} {t k : Nat} {s : Sq} {xa xb ya yb ar sp pl nn : Int} (h : stAt L.body k = ⟨4, xa, xb, ya, yb, ar, sp, pl, nn⟩) :
    stepS L B t s k = ⟨put2 s.mem ar.toNat (wordAt L t ⟨4, xa, xb, ya, yb, ar, sp, pl, nn⟩) (refV B s.val t xa xb), put2 s.val t k (refV B s.val t xa xb)⟩ := by
  unfold stepS; rw [h]; rfl
theorem step_op {L : Lp} {B : List (List Int)} {t k : Nat} {s : Sq} {o xa xb ya yb ar sp pl nn : Int} (h : stAt L.body k = ⟨o, xa, xb, ya, yb, ar, sp, pl, nn⟩) (ho : 11 ≤ o) :
    stepS L B t s k = ⟨s.mem, put2 s.val t k (opv (o - 10) (refV B s.val t xa xb) (refV B s.val t ya yb))⟩ := by
  unfold stepS
  rw [h]
  unfold comes
  show (⟨if o = 4 then _ else s.mem, _⟩ : Sq) = _
  rw [if_neg (by omega), if_neg (show ¬ o = 1 by omega), if_neg (show ¬ o = 2 by omega), if_neg (show ¬ o = 3 by omega), if_neg (show ¬ o = 4 by omega)]
theorem fits_parts {L : Lp} {B M : List (List Int)} (h : fitsB L B M = true) : mayB L = true ∧ B.length = L.body.length ∧ M.length = L.logs.length ∧ (∀ i, i < B.length → (rowAt B i).length = 3) ∧
    (∀ i, i < M.length → (rowAt M i).length = 2 ^ (nth L.logs i).toNat) := by
  unfold fitsB at h
  simp only [Bool.and_eq_true, decide_eq_true_eq] at h
  obtain ⟨⟨⟨⟨h1, h2⟩, h3⟩, h4⟩, h5⟩ := h
  exact ⟨h1, h2, h3, fun i hi => of_decide_eq_true (allN_get h4 i hi), fun i hi => of_decide_eq_true (allN_get h5 i hi)⟩
theorem row32 {L : Lp} {M : List (List Int)} (hm : mayB L = true) (hl : M.length = L.logs.length) (hr : ∀ i, i < M.length → (rowAt M i).length = 2 ^ (nth L.logs i).toNat) : ∀ i, i < M.length → 0 < (rowAt M i).length ∧ (rowAt M i).length ≤ 32 := by
  intro i hi
  obtain ⟨-, -, -, -, h5, -, -⟩ := may_parts hm
  have h := inR_iff.1 (allN_get h5 i (by omega))
  rw [hr i hi]
  refine ⟨Nat.two_pow_pos _, ?_⟩
  have h2 : 2 ^ (nth L.logs i).toNat ≤ 2 ^ 5 := Nat.pow_le_pow_right (by omega) (by omega)
  omega
end Go.Proofs.Ytpljieenjkbmmaa
