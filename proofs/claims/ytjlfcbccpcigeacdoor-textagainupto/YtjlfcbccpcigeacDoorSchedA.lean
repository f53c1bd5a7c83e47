/- SchedA: texts that are built as one: PlanMath, SchedMath, SchedExact, SchedSmall, SchedMap, SchedUK. -/
import Derived.Test.YtjlfcbccpcigeacDoorSounds
import Derived.Test.YtjlfcbccpcigeacDoorRef8A
import Derived.Test.YtjlfcbccpcigeacDoorMaths
import Derived.Test.YtjlfcbccpcigeacDoorRef2L
import Derived.Test.YtjlfcbccpcigeacDoorBase
import Derived.Deep.RegionHeld3
import Derived.DeepKeys4
/- One statement behind the other: a plan that is legal at every pace from the Waits of all on, and of which each turn is over when the next one begins; no Go in sight. -/
namespace Go.Proofs.YtjlfcbccpcigeacDoor
set_option linter.unusedVariables false
variable {L : Lp} {t : Tg} {P : Int}

end Go.Proofs.YtjlfcbccpcigeacDoor
/- A planner that puts statements in, one by one, and takes some out again: what is in keeps all edges and finds units enough; when all are in, the plan is legal; no Go in sight. -/
namespace Go.Proofs.YtjlfcbccpcigeacDoor
set_option linter.unusedVariables false

/-- how many of those that are in are of class c, and leave r -/
def inC (L : Lp) (P : Int) (I : Nat → Bool) (T : Nat → Int) (c r : Int) : Nat := cnt (fun i => I i && (decide (clsv (stAt L.body i).o = c) && decide ((T i).tmod P = r))) L.body.length
def gapP (P : Int) (e : Ed) : Int := e.wt - e.bk * P
/-- one more, one less, another value -/
def upB (I : Nat → Bool) (a : Nat) (b : Bool) : Nat → Bool := fun j => if j = a then b else I j
def upI (T : Nat → Int) (a : Nat) (x : Int) : Nat → Int := fun j => if j = a then x else T j
/-- the edges between those that are in are kept, those from a only if they are among the first k -/
def keptP (es : List Ed) (P : Int) (I : Nat → Bool) (T : Nat → Int) (a k : Nat) : Prop :=
  ∀ j, j < es.length → (j < k ∨ (edAt es j).fr.toNat ≠ a) → I (edAt es j).fr.toNat = true → I (edAt es j).to.toNat = true → T (edAt es j).fr.toNat + gapP P (edAt es j) ≤ T (edAt es j).to.toNat
/-- what is so between two calls -/
structure SOk (L : Lp) (t : Tg) (P : Int) (I : Nat → Bool) (T N : Nat → Int) (a k : Nat) : Prop where
  times : ∀ i, i < L.body.length → 0 ≤ T i ∧ T i ≤ 1000
  nexts : ∀ i, i < L.body.length → 0 ≤ N i ∧ N i ≤ 1001
  units : ∀ c r, (inC L P I T c r : Int) ≤ unitsT t c
  kept : keptP (edgesD L t) P I T a k

theorem cnt_ups {p q : Nat → Bool} {a : Nat} : ∀ n, (∀ i, i < n → i ≠ a → q i = p i) → cnt q n + (if a < n ∧ p a = true then 1 else 0) = cnt p n + (if a < n ∧ q a = true then 1 else 0) := by
  intro n
  induction n with
  | zero => intro _; simp [cnt]
  | succ n ih =>
    intro h
    have h1 := ih fun i hi => h i (by omega)
    show cnt q n + (if q n = true then 1 else 0) + _ = cnt p n + (if p n = true then 1 else 0) + _
    by_cases e : a = n
    · subst e
      have e1 : ¬ (a < a ∧ p a = true) := by omega
      have e2 : ¬ (a < a ∧ q a = true) := by omega
      rw [if_neg e1, if_neg e2] at h1
      by_cases hp : p a = true <;> by_cases hq : q a = true <;> simp [hp, hq] <;> omega
    · rw [h n (by omega) (fun h => e h.symm)]
      have h2 : (a < n + 1) ↔ (a < n) := by omega
      simp only [h2]
      omega
theorem in_put {L : Lp} {P : Int} {I : Nat → Bool} {T : Nat → Int} {a : Nat} {x : Int} (ha : a < L.body.length) (hI : I a = false) (c r : Int) :
    inC L P (upB I a true) (upI T a x) c r = inC L P I T c r + (if clsv (stAt L.body a).o = c ∧ x.tmod P = r then 1 else 0) := by
  have h := cnt_ups (p := fun i => I i && (decide (clsv (stAt L.body i).o = c) && decide ((T i).tmod P = r))) (q := fun i => upB I a true i && (decide (clsv (stAt L.body i).o = c) && decide ((upI T a x i).tmod P = r))) (a := a) L.body.length (fun i _ hi => by simp [upB, upI, hi])
  simp only [ha, hI, upB, upI, if_true, Bool.false_and, Bool.true_and, Bool.and_eq_true, decide_eq_true_eq, true_and, Bool.false_eq_true, if_false] at h
  exact h
theorem in_out {L : Lp} {P : Int} {I : Nat → Bool} {T : Nat → Int} {a : Nat} (ha : a < L.body.length) (hI : I a = true) (c r : Int) :
    inC L P (upB I a false) T c r + (if clsv (stAt L.body a).o = c ∧ (T a).tmod P = r then 1 else 0) = inC L P I T c r := by
  have h := cnt_ups (p := fun i => I i && (decide (clsv (stAt L.body i).o = c) && decide ((T i).tmod P = r))) (q := fun i => upB I a false i && (decide (clsv (stAt L.body i).o = c) && decide ((T i).tmod P = r))) (a := a) L.body.length (fun i _ hi => by simp [upB, hi])
  simp only [ha, hI, upB, if_true, Bool.false_and, Bool.true_and, Bool.and_eq_true, decide_eq_true_eq, true_and, Bool.false_eq_true, if_false, Nat.add_zero, and_false] at h
  exact h
variable {L : Lp} {t : Tg} {P : Int} {I : Nat → Bool} {T N : Nat → Int}
/-- ahead of all -/
theorem SOk.start (ht : mayT t = true) (a k : Nat) : SOk L t P (fun _ => false) (fun _ => 0) (fun _ => 0) a k where
  times := fun _ _ => ⟨by decide, by decide⟩
  nexts := fun _ _ => ⟨by decide, by decide⟩
  units := fun c r => by
    have h1 : inC L P (fun _ => false) (fun _ => 0) c r = 0 := by
      rcases cnt_zero_or (fun i => (fun _ : Nat => false) i && (decide (clsv (stAt L.body i).o = c) && decide (((fun _ : Nat => (0 : Int)) i).tmod P = r))) L.body.length with h | ⟨i, _, h⟩
      · exact h
      · simp at h
    have := units_ge (c := c) ht
    omega
  kept := fun j _ _ h => by simp at h
/-- a statement is put in, where there is a unit, when all is there that it waits for -/
theorem SOk.put {a0 k0 a : Nat} {x : Int} (h : SOk L t P I T N a0 (edgesD L t).length) (ha : a < L.body.length) (hI : I a = false) (h0 : N a ≤ x) (h1 : x ≤ 1000)
    (hfull : (inC L P I T (clsv (stAt L.body a).o) (x.tmod P) : Int) ≠ unitsT t (clsv (stAt L.body a).o))
    (hready : ∀ j, j < (edgesD L t).length → (edAt (edgesD L t) j).to.toNat = a → I (edAt (edgesD L t) j).fr.toNat = true → T (edAt (edgesD L t) j).fr.toNat + gapP P (edAt (edgesD L t) j) ≤ x) :
    SOk L t P (upB I a true) (upI T a x) (upI N a (x + 1)) a 0 where
  times := fun i hi => by
    have h2 := h.nexts a ha
    have h3 := h.times i hi
    unfold upI
    split <;> omega
  nexts := fun i hi => by
    have h2 := h.nexts a ha
    have h3 := h.nexts i hi
    unfold upI
    split <;> omega
  units := fun c r => by
    rw [in_put ha hI]
    have h2 := h.units c r
    by_cases e : clsv (stAt L.body a).o = c ∧ x.tmod P = r
    · rw [if_pos e]
      rw [← e.1, ← e.2] at h2 ⊢
      omega
    · rw [if_neg e]; omega
  kept := fun j hj hor h2 h3 => by
    have hf : (edAt (edgesD L t) j).fr.toNat ≠ a := by rcases hor with h | h; exact absurd h (Nat.not_lt_zero _); exact h
    unfold upB at h2 h3
    rw [if_neg hf] at h2
    have e1 : upI T a x (edAt (edgesD L t) j).fr.toNat = T (edAt (edgesD L t) j).fr.toNat := by unfold upI; rw [if_neg hf]
    rw [e1]
    by_cases e : (edAt (edgesD L t) j).to.toNat = a
    · have := hready j hj e h2
      unfold upI; rw [if_pos e]; exact this
    · rw [if_neg e] at h3
      unfold upI; rw [if_neg e]
      exact h.kept j hj (.inl hj) h2 h3
/-- one that comes too early is taken out -/
theorem SOk.out {a k b : Nat} (h : SOk L t P I T N a k) (hb : b < L.body.length) (hI : I b = true) (hk : k < (edgesD L t).length) (he : (edAt (edgesD L t) k).to.toNat = b) : SOk L t P (upB I b false) T N a (k + 1) where
  times := h.times
  nexts := h.nexts
  units := fun c r => by
    have h1 := in_out (P := P) (T := T) hb hI c r
    have h2 := h.units c r
    omega
  kept := fun j hj hor h2 h3 => by
    have hg : ∀ i, upB I b false i = true → i ≠ b ∧ I i = true := fun i hi => by
      unfold upB at hi
      by_cases e : i = b
      · rw [if_pos e] at hi; cases hi
      · rw [if_neg e] at hi; exact ⟨e, hi⟩
    obtain ⟨n2, h2⟩ := hg _ h2
    obtain ⟨n3, h3⟩ := hg _ h3
    refine h.kept j hj ?_ h2 h3
    rcases hor with hor | hor
    · by_cases e : j = k
      · subst e; exact absurd he n3
      · exact .inl (by omega)
    · exact .inr hor
/-- one that need not be -/
theorem SOk.next {a k : Nat} (h : SOk L t P I T N a k) (hk : k < (edgesD L t).length) (hn : (edAt (edgesD L t) k).fr.toNat = a → I (edAt (edgesD L t) k).to.toNat = true → T a + gapP P (edAt (edgesD L t) k) ≤ T (edAt (edgesD L t) k).to.toNat) : SOk L t P I T N a (k + 1) where
  times := h.times
  nexts := h.nexts
  units := h.units
  kept := fun j hj hor h2 h3 => by
    by_cases e : (edAt (edgesD L t) j).fr.toNat = a
    · rcases hor with hor | hor
      · by_cases e2 : j = k
        · subst e2
          rw [e]; exact hn e h3
        · exact h.kept j hj (.inl (by omega)) h2 h3
      · exact absurd e hor
    · exact h.kept j hj (.inr e) h2 h3
theorem SOk.any {a k b : Nat} (h : SOk L t P I T N a k) (hk : (edgesD L t).length ≤ k) : SOk L t P I T N b (edgesD L t).length where
  times := h.times
  nexts := h.nexts
  units := h.units
  kept := fun j hj _ h2 h3 => h.kept j hj (.inl (by omega)) h2 h3
end Go.Proofs.YtjlfcbccpcigeacDoor
/- What a planner comes to is one and the same, whatever the order of evaluation: heights, the highest one, when it is ready, who is taken out, and the plan; no Go in sight. -/
namespace Go.Proofs.YtjlfcbccpcigeacDoor
open Go.RowKit
set_option linter.unusedVariables false

/-- when all is there, by the first k edges -/
def readyF (es : List Ed) (P : Int) (I : Nat → Bool) (T N : Nat → Int) (a : Nat) : Nat → Int
  | 0 => N a
  | k + 1 => if (edAt es k).to.toNat = a ∧ I (edAt es k).fr.toNat = true then max (readyF es P I T N a k) (T (edAt es k).fr.toNat + gapP P (edAt es k)) else readyF es P I T N a k
def fullD (L : Lp) (t : Tg) (P : Int) (I : Nat → Bool) (T : Nat → Int) (a : Nat) (s : Int) : Prop := (inC L P I T (clsv (stAt L.body a).o) (s.tmod P) : Int) = unitsT t (clsv (stAt L.body a).o)
/-- a time at which the search stands -/
def TmR (L : Lp) (t : Tg) (P : Int) (I : Nat → Bool) (T N : Nat → Int) (a : Nat) (tm : Int) : Prop :=
  readyF (edgesD L t) P I T N a (edgesD L t).length ≤ tm ∧ ∀ s, readyF (edgesD L t) P I T N a (edgesD L t).length ≤ s → s < tm → s ≤ 1000 ∧ fullD L t P I T a s
variable {L : Lp} {t : Tg} {P : Int} {I : Nat → Bool} {T N : Nat → Int} {a : Nat}
theorem TmR.start : TmR L t P I T N a (readyF (edgesD L t) P I T N a (edgesD L t).length) := ⟨Int.le_refl _, fun s h1 h2 => by omega⟩
theorem TmR.next {tm : Int} (h : TmR L t P I T N a tm) (h1 : tm ≤ 1000) (h2 : fullD L t P I T a tm) : TmR L t P I T N a (tm + 1) :=
  ⟨by have := h.1; omega, fun s h3 h4 => by
    by_cases e : s = tm
    · subst e; exact ⟨h1, h2⟩
    · exact h.2 s h3 (by omega)⟩
end Go.Proofs.YtjlfcbccpcigeacDoor
/- The contracts of package sched's small functions: within, gap, unitOf, numbersMay, edgesKept; nothing that was there is changed. -/
namespace Go.Proofs.YtjlfcbccpcigeacDoor
open Go.RowKit Go.Joins
set_option linter.unusedVariables false
set_option linter.unusedSimpArgs false
set_option maxRecDepth 8192
theorem below_dr1 (n : Nat) (w : World) : Below n w w.drew := below_draws _ _ 1

end Go.Proofs.YtjlfcbccpcigeacDoor
/- Maps of the call's own from sched.unit (a class and a rest of the pace) to counts: a look-up, a count that becomes another; units counted as they come, against all at once. -/
namespace Go.Proofs.YtjlfcbccpcigeacDoor
open Go.RowKit Go.Joins
open Go.WideMaps (KeyLaw)
set_option linter.unusedVariables false
set_option linter.unusedSimpArgs false
set_option maxRecDepth 8192

end Go.Proofs.YtjlfcbccpcigeacDoor
/- The contract of package sched's unitsKept: units are counted in a map as they come; nothing that was there is changed. -/
namespace Go.Proofs.YtjlfcbccpcigeacDoor
open Go.RowKit Go.Joins
set_option linter.unusedVariables false
set_option linter.unusedSimpArgs false
set_option maxRecDepth 8192

section
variable {P : Program} {ops : Array Oper} {Q : Exit → Act → World → Prop} {md : Region.Mode} {S : World → Prop} {z : Nat}
end
theorem new_blkS (w : World) (cs : Array Value) (e : TypeId) : (w.alloc (.cells cs e)).heap[w.heap.size]? = some (.cells cs e (0, 0)) := by
  show (w.heap.push _)[w.heap.size]? = _
  simp
end Go.Proofs.YtjlfcbccpcigeacDoor
