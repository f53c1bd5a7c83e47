/- Base: texts that are built as one: Math, LoopMath, LogsMath, Own, Rowx, Until, MapStep. -/
import Derived.Laws.BitsLemmas
import Derived.WalkKit
import Derived.Below
import Derived.Deep.OwnRows
import Derived.Lib.SmallJoins
import Derived.Deep.RegionHeld3
import Derived.WideKeyEntry
import Derived.Maps.Own
import Derived.Maps.Views
/- Plain laws on numbers of 64 bits, bit by bit: no Go in sight. -/
namespace Go.Proofs.YtjlfcbccpcigeacDoor.NumMath
open Go.RowKit (wrap64)

def pow (k : Nat) : Int := wrap64 ((2 ^ k : Nat) : Int)
def word (a : Int) : Nat := (a % 18446744073709551616).toNat

theorem wrap_add (x y : Int) : wrap64 (wrap64 x + wrap64 y) = wrap64 (x + y) := by unfold wrap64; omega
theorem pow_succ (k : Nat) : wrap64 (pow k + pow k) = pow (k + 1) := by
  unfold pow; rw [wrap_add]; congr 1; rw [Nat.pow_succ]; omega
end Go.Proofs.YtjlfcbccpcigeacDoor.NumMath
/- Plain laws on loops, as the document says them: which may be, which states fit; no Go in sight. -/
namespace Go.Proofs.YtjlfcbccpcigeacDoor
open Go.RowKit
set_option linter.unusedVariables false

/-- a statement of a loop: its nine numbers in their order -/
structure St where
  o : Int
  xa : Int
  xb : Int
  ya : Int
  yb : Int
  ar : Int
  sp : Int
  pl : Int
  nn : Int
/-- a loop -/
structure Lp where
  logs : List Int
  body : List St
  outs : List Int
def St.nil : St := ⟨0, 0, 0, 0, 0, 0, 0, 0, 0⟩
/-- the number at a place; a name, so that no walk opens it -/
def nth (l : List Int) (i : Nat) : Int := l.getD i 0
def stAt (l : List St) (i : Nat) : St := l.getD i St.nil

/-- is n from lo to hi -/
def inR (n lo hi : Int) : Bool := decide (lo ≤ n ∧ n ≤ hi)
theorem inR_yes {n lo hi : Int} (h : lo ≤ n ∧ n ≤ hi) : inR n lo hi = true := decide_eq_true h
theorem inR_no {n lo hi : Int} (h : ¬ (lo ≤ n ∧ n ≤ hi)) : inR n lo hi = false := decide_eq_false h
theorem inR_iff {n lo hi : Int} : inR n lo hi = true ↔ lo ≤ n ∧ n ≤ hi := by unfold inR; simp

/-- what the statement numbered k may look at, in a loop of n statements -/
def refOk (n k at_ back : Int) : Bool := inR back 0 3 && inR at_ 0 (if back = 0 then k - 1 else n - 1)
/-- the word that a statement is at may be, in a loop of m arrays -/
def wordOk (m ar sp pl : Int) : Bool := inR ar 0 (m - 1) && inR sp (-64) 64 && inR pl (-64) 64
/-- the statement numbered k may be: B1 -/
def stOk (m n k : Int) (s : St) : Bool :=
  if s.o = 1 then decide (s.xa = 0 ∧ s.xb = 0 ∧ s.ya = 0 ∧ s.yb = 0 ∧ s.ar = 0 ∧ s.sp = 0 ∧ s.pl = 0)
  else if s.o = 2 then decide (s.xa = 0 ∧ s.xb = 0 ∧ s.ya = 0 ∧ s.yb = 0 ∧ s.ar = 0 ∧ s.sp = 0 ∧ s.pl = 0 ∧ s.nn = 0)
  else if s.o = 3 then decide (s.xa = 0 ∧ s.xb = 0 ∧ s.ya = 0 ∧ s.yb = 0 ∧ s.nn = 0) && wordOk m s.ar s.sp s.pl
  else if s.o = 4 then decide (s.ya = 0 ∧ s.yb = 0 ∧ s.nn = 0) && wordOk m s.ar s.sp s.pl && refOk n k s.xa s.xb
  else if 11 ≤ s.o ∧ s.o ≤ 18 then decide (s.ar = 0 ∧ s.sp = 0 ∧ s.pl = 0 ∧ s.nn = 0) && refOk n k s.xa s.xb && refOk n k s.ya s.yb
  else false

/-- all of the first k are so -/
def allN (p : Nat → Bool) : Nat → Bool
  | 0 => true
  | k + 1 => allN p k && p k
theorem allN_get {p : Nat → Bool} {n : Nat} (h : allN p n = true) : ∀ k, k < n → p k = true := by
  induction n with
  | zero => intro k hk; omega
  | succ m ih =>
    intro k hk
    have h2 : allN p m = true ∧ p m = true := by simpa [allN] using h
    by_cases e : k = m
    · rw [e]; exact h2.2
    · exact ih h2.1 k (by omega)
theorem allN_mk {p : Nat → Bool} {n : Nat} (h : ∀ k, k < n → p k = true) : allN p n = true := by
  induction n with
  | zero => rfl
  | succ m ih =>
    have h1 := ih fun k hk => h k (by omega)
    have h2 := h m (by omega)
    show (allN p m && p m) = true
    rw [h1, h2]; rfl
theorem allN_false {p : Nat → Bool} {n k : Nat} (hk : k < n) (h : p k = false) : allN p n = false := by
  cases e : allN p n with
  | false => rfl
  | true => rw [allN_get e k hk] at h; exact Bool.noConfusion h
theorem allN_step {p : Nat → Bool} {k : Nat} (h : allN p k = true) (hk : p k = true) : allN p (k + 1) = true := by
  show (allN p k && p k) = true
  rw [h, hk]; rfl

def logOk (z : Int) : Bool := inR z 0 5
def logsOk (l : List Int) : Bool := allN (fun i => logOk (nth l i)) l.length
/-- the out ahead of out i; -1 ahead of the first -/
def prev (l : List Int) : Nat → Int
  | 0 => -1
  | i + 1 => nth l i
/-- out i is a statement's number, above the one ahead of it -/
def outOk (n : Int) (l : List Int) (i : Nat) : Bool := inR (nth l i) (prev l i + 1) (n - 1)
def outsOk (n : Int) (l : List Int) : Bool := allN (outOk n l) l.length
def bodyOk (L : Lp) : Bool := allN (fun k => stOk L.logs.length L.body.length k (stAt L.body k)) L.body.length
/-- the loop may be: B1 -/
def mayB (L : Lp) : Bool :=
  decide (L.logs.length ≤ 3) && decide (1 ≤ L.body.length) && decide (L.body.length ≤ 16) && logsOk L.logs && outsOk L.body.length L.outs && bodyOk L

/-- a rising row of numbers: out i - 1 is from i - 1 to n - 1 -/
theorem prev_range (n : Int) (l : List Int) (k : Nat) (hn : 0 ≤ n) (h : allN (outOk n l) k = true) : (k : Int) - 1 ≤ prev l k ∧ prev l k ≤ n - 1 := by
  induction k with
  | zero => show ((0 : Nat) : Int) - 1 ≤ -1 ∧ (-1 : Int) ≤ n - 1; omega
  | succ j ih =>
    have h1 := ih (allN_mk fun i hi => allN_get h i (by omega))
    have h2 := inR_iff.1 (allN_get h j (by omega))
    show ((j + 1 : Nat) : Int) - 1 ≤ nth l j ∧ nth l j ≤ n - 1
    omega
/-- a rising row of numbers from 0 to n - 1 has no more than n of them -/
theorem outs_len (n : Nat) (l : List Int) (h : outsOk n l = true) : l.length ≤ n := by
  have h1 := prev_range n l l.length (by omega) h
  omega
/-- the same, asked as the document's own test asks it -/
theorem outOk_yes {n : Int} {l : List Int} {k : Nat} (hn : 0 ≤ n) (ha : allN (outOk n l) k = true) (h : outOk n l k = true) : inR (nth l k) 0 (n - 1) = true ∧ (0 < k → ¬ nth l k ≤ nth l (k - 1)) := by
  have h1 := prev_range n l k hn ha
  have h2 := inR_iff.1 h
  refine ⟨inR_yes (by omega), fun hk => ?_⟩
  cases k with
  | zero => omega
  | succ j => have h3 : nth l j + 1 ≤ nth l (j + 1) := h2.1; simp only [Nat.add_sub_cancel]; omega
theorem outOk_no {n : Int} {l : List Int} {k : Nat} (h : outOk n l k = false) : inR (nth l k) 0 (n - 1) = false ∨ inR (nth l k) 0 (n - 1) = true ∧ 0 < k ∧ nth l k ≤ nth l (k - 1) := by
  cases h1 : inR (nth l k) 0 (n - 1) with
  | false => exact .inl rfl
  | true =>
    have h2 := inR_iff.1 h1
    refine .inr ⟨rfl, ?_⟩
    cases k with
    | zero => exact absurd h (by rw [show outOk n l 0 = true from inR_yes (by show (-1 : Int) + 1 ≤ nth l 0 ∧ nth l 0 ≤ n - 1; omega)]; exact Bool.noConfusion)
    | succ j =>
      refine ⟨by omega, ?_⟩
      simp only [Nat.add_sub_cancel]
      by_cases h3 : nth l (j + 1) ≤ nth l j
      · exact h3
      · exact absurd h (by rw [show outOk n l (j + 1) = true from inR_yes (by show nth l j + 1 ≤ nth l (j + 1) ∧ nth l (j + 1) ≤ n - 1; omega)]; exact Bool.noConfusion)

theorem may_eq (L : Lp) (h1 : L.logs.length ≤ 3) (h2 : 1 ≤ L.body.length) (h3 : L.body.length ≤ 16) : mayB L = (logsOk L.logs && outsOk L.body.length L.outs && bodyOk L) := by
  unfold mayB; rw [decide_eq_true h1, decide_eq_true h2, decide_eq_true h3]; rfl
theorem may_no (L : Lp) (h : ¬ L.logs.length ≤ 3 ∨ ¬ 1 ≤ L.body.length ∨ ¬ L.body.length ≤ 16 ∨ ¬ L.outs.length ≤ 16) : mayB L = false := by
  cases e : mayB L with
  | false => rfl
  | true =>
    unfold mayB at e
    simp only [Bool.and_eq_true, decide_eq_true_eq] at e
    obtain ⟨⟨⟨⟨⟨e1, e2⟩, e3⟩, e4⟩, e5⟩, e6⟩ := e
    have := outs_len _ _ e5
    omega
theorem may_parts {L : Lp} (e : mayB L = true) : L.logs.length ≤ 3 ∧ 1 ≤ L.body.length ∧ L.body.length ≤ 16 ∧ L.outs.length ≤ 16 ∧ logsOk L.logs = true ∧ outsOk L.body.length L.outs = true ∧ bodyOk L = true := by
  unfold mayB at e
  simp only [Bool.and_eq_true, decide_eq_true_eq] at e
  obtain ⟨⟨⟨⟨⟨e1, e2⟩, e3⟩, e4⟩, e5⟩, e6⟩ := e
  have := outs_len _ _ e5
  exact ⟨e1, e2, e3, by omega, e4, e5, e6⟩

def rowAt (l : List (List Int)) (i : Nat) : List Int := l.getD i []
end Go.Proofs.YtjlfcbccpcigeacDoor
/- The Logs that lists of words have; no Go in sight. -/
namespace Go.Proofs.YtjlfcbccpcigeacDoor
set_option linter.unusedVariables false

end Go.Proofs.YtjlfcbccpcigeacDoor
/- Rows in memory of a call's own: what a block holds, cell by cell, and what new blocks and stores elsewhere leave of it; no Go in sight. -/
namespace Go.Proofs.YtjlfcbccpcigeacDoor
open Go.RowKit Go.Joins
set_option linter.unusedVariables false

/-- block g is a row of elements of type e, none frozen, whose first n cells hold f -/
def RowF (w : World) (g : Nat) (e : TypeId) (n : Nat) (f : Nat → Value) : Prop :=
  ∃ cur : Array Value, w.heap[g]? = some (.cells cur e (0, 0)) ∧ n ≤ cur.size ∧ ∀ i, i < n → cur[i]? = some (f i)

theorem RowF.cell {w : World} {g : Nat} {e : TypeId} {n : Nat} {f : Nat → Value} (h : RowF w g e n f) {i : Nat} (hi : i < n) : w.cell? ⟨g, i, none⟩ = some (f i) := by
  obtain ⟨c, hb, _, hc⟩ := h
  simp [World.cell?, hb, hc i hi]
theorem RowF.lt {w : World} {g : Nat} {e : TypeId} {n : Nat} {f : Nat → Value} (h : RowF w g e n f) : g < w.heap.size := by
  obtain ⟨c, hb, _, _⟩ := h
  exact (Array.getElem?_eq_some_iff.1 hb).1
theorem RowF.congr {w : World} {g : Nat} {e : TypeId} {n : Nat} {f f' : Nat → Value} (h : RowF w g e n f) (he : ∀ i, i < n → f i = f' i) : RowF w g e n f' := by
  obtain ⟨c, hb, hn, hc⟩ := h
  exact ⟨c, hb, hn, fun i hi => by rw [hc i hi, he i hi]⟩
theorem RowF.of_block {w w' : World} {g : Nat} {e : TypeId} {n : Nat} {f : Nat → Value} (h : RowF w g e n f) (he : w'.heap[g]? = w.heap[g]?) : RowF w' g e n f := by
  obtain ⟨c, hb, hn, hc⟩ := h
  exact ⟨c, he.trans hb, hn, hc⟩
theorem RowF.alloc {w : World} {g : Nat} {e : TypeId} {n : Nat} {f : Nat → Value} (h : RowF w g e n f) (o : Obj) : RowF (w.alloc o) g e n f :=
  h.of_block (Below.heap_alloc _ _ _ h.lt)
theorem RowF.grown {w w' : World} {g : Nat} {e : TypeId} {n : Nat} {f : Nat → Value} {row : Option Nat} (h : RowF w g e n f) (hg : w.grownBy w' row) (hr : some g ≠ row) : RowF w' g e n f :=
  h.of_block (hg.block g h.lt hr)
theorem RowF.below {w w' : World} {g B : Nat} {e : TypeId} {n : Nat} {f : Nat → Value} (h : RowF w g e n f) (hb : Below B w w') (hg : g < B) : RowF w' g e n f :=
  h.of_block (hb.block g hg)
/-- rows of two types are two -/
theorem RowF.apart {w : World} {g g' : Nat} {e e' : TypeId} {n n' : Nat} {f f' : Nat → Value} (h : RowF w g e n f) (h' : RowF w g' e' n' f') (he : e ≠ e') : g ≠ g' := by
  intro hg
  subst hg
  obtain ⟨c, hb, _, _⟩ := h
  obtain ⟨c', hb', _, _⟩ := h'
  rw [hb] at hb'
  have h1 := Option.some.inj hb'
  injection h1 with _ h2
  exact he h2
theorem own_below {w w' : World} {base : Nat} {e : TypeId} {sz : Nat} {v : Value} {n : Nat} {xs : List Value} (h : w.ownsRow base e sz v n xs) (hb : Below w.heap.size w w') : w'.ownsRow base e sz v n xs := by
  obtain ⟨hl, h⟩ := h
  refine ⟨hl, ?_⟩
  rcases h with h | ⟨g, cap, cur, hv, hg, hk, r⟩
  · exact .inl h
  · exact .inr ⟨g, cap, cur, hv, hg, by rw [hb.block g (Array.getElem?_eq_some_iff.1 hk).1]; exact hk, r⟩
end Go.Proofs.YtjlfcbccpcigeacDoor
/- Rows of a call's own whose room is known: what an append needs and gives; no Go in sight. -/
namespace Go.Proofs.YtjlfcbccpcigeacDoor
open Go.RowKit Go.Joins
set_option linter.unusedVariables false

/-- block g is a row of cap elements of type e, none frozen, whose first n cells hold f -/
def RowX (w : World) (g : Nat) (e : TypeId) (cap n : Nat) (f : Nat → Value) : Prop :=
  ∃ cur : Array Value, w.heap[g]? = some (.cells cur e (0, 0)) ∧ cur.size = cap ∧ n ≤ cap ∧ ∀ i, i < n → cur[i]? = some (f i)
theorem RowX.row {w : World} {g : Nat} {e : TypeId} {cap n : Nat} {f : Nat → Value} (h : RowX w g e cap n f) : RowF w g e n f := by
  obtain ⟨c, hb, hs, hn, hc⟩ := h
  exact ⟨c, hb, by omega, hc⟩
theorem RowX.le {w : World} {g : Nat} {e : TypeId} {cap n : Nat} {f : Nat → Value} (h : RowX w g e cap n f) : n ≤ cap := by
  obtain ⟨c, hb, hs, hn, hc⟩ := h
  exact hn
theorem RowX.lt {w : World} {g : Nat} {e : TypeId} {cap n : Nat} {f : Nat → Value} (h : RowX w g e cap n f) : g < w.heap.size := h.row.lt
theorem RowX.congr {w : World} {g : Nat} {e : TypeId} {cap n : Nat} {f f' : Nat → Value} (h : RowX w g e cap n f) (he : ∀ i, i < n → f i = f' i) : RowX w g e cap n f' := by
  obtain ⟨c, hb, hs, hn, hc⟩ := h
  exact ⟨c, hb, hs, hn, fun i hi => by rw [hc i hi, he i hi]⟩
theorem RowX.of_block {w w' : World} {g : Nat} {e : TypeId} {cap n : Nat} {f : Nat → Value} (h : RowX w g e cap n f) (he : w'.heap[g]? = w.heap[g]?) : RowX w' g e cap n f := by
  obtain ⟨c, hb, hn, hc⟩ := h
  exact ⟨c, he.trans hb, hn, hc⟩
theorem RowX.below {w w' : World} {g B : Nat} {e : TypeId} {cap n : Nat} {f : Nat → Value} (h : RowX w g e cap n f) (hb : Below B w w') (hg : g < B) : RowX w' g e cap n f :=
  h.of_block (hb.block g hg)
/-- what an append asks -/
theorem RowX.own {w : World} {g base : Nat} {e : TypeId} {cap n : Nat} {f : Nat → Value} (h : RowX w g e cap n f) (hb : base ≤ g) (hm : cap ≤ maxLen) : w.ownsRow base e 1 (.slice (some ⟨g, 0, none⟩) n cap) n ((List.range n).map f) := by
  obtain ⟨c, hk, hs, hn, hc⟩ := h
  refine ⟨by simp, .inr ⟨g, cap, c, rfl, hb, hk, hn, hm, by omega, ?_⟩⟩
  rw [Nat.mul_one]
  refine List.ext_getElem? fun i => ?_
  rw [List.getElem?_take, List.getElem?_map]
  by_cases hi : i < n
  · rw [if_pos hi, Array.getElem?_toList, hc i hi]; simp [hi]
  · rw [if_neg hi, List.getElem?_eq_none (by simp; omega)]; rfl
end Go.Proofs.YtjlfcbccpcigeacDoor
/- A region that draws its order and ends in a store that waits for all else: what the loads read need hold until that store alone; no Go in sight. -/
namespace Go.Proofs.YtjlfcbccpcigeacDoor
set_option linter.unusedVariables false
variable {P : Program} {ops : Array Oper} {Q : Exit → Act → World → Prop} {md : Region.Mode} {S : World → Prop} {z : Nat}

/-- whatever order is picked from here on; behind each operation but number z the world meets S -/
def anyU (P : Program) (md : Region.Mode) (ops : Array Oper) (Q : Exit → Act → World → Prop) (S : World → Prop) (z : Nat) : Nat → Array Bool → Act → World → Prop
  | 0, listed, a, w => Region.ready md ops listed = [] ∧ Q .normal a w
  | fuel + 1, listed, a, w =>
    (Region.ready md ops listed = [] → Q .normal a w) ∧
    ∀ i ∈ Region.ready md ops listed, wpOp P ops Q i (fun a' w' => (i = z ∨ S w') ∧ anyU P md ops Q S z fuel (listed.setIfInBounds i true) a' w') a w
theorem any_of_until : ∀ (fuel : Nat) (listed : Array Bool) (a : Act) (w : World), anyU P md ops Q S z fuel listed a w → wpAny P md ops Q fuel listed a w
  | 0, _, _, _, h => h
  | fuel + 1, _, _, _, h => ⟨h.1, fun i hi => wpOp_mono (fun a' w' k => any_of_until fuel _ a' w' k.2) (h.2 i hi)⟩
/-- number z waits for number i -/
def waits (md : Region.Mode) (ops : Array Oper) (z i : Nat) : Bool := match ops[z]? with
  | some o => o.after.any fun e => Region.binds md e && e.on == i
  | none => true
theorem waits_spec {i : Nat} {o : Oper} (h : waits md ops z i = true) (ho : ops[z]? = some o) : ∃ e ∈ o.after, Region.binds md e = true ∧ e.on = i := by
  unfold waits at h
  rw [ho] at h
  obtain ⟨j, hj, hb⟩ := Array.any_eq_true.1 h
  simp only [Bool.and_eq_true, beq_iff_eq] at hb
  exact ⟨o.after[j], Array.getElem_mem hj, hb.1, hb.2⟩
/-- what is not listed binds -/
theorem unlisted {i : Nat} {oj : Oper} {listed : Array Bool} (h0 : listed.getD i true = false) (hall : ∀ e ∈ oj.after, Region.binds md e = true → listed.getD e.on false = true) : ∀ e ∈ oj.after, Region.binds md e = true → e.on ≠ i := by
  intro e he hb heq
  have h1 := hall e he hb
  rw [heq] at h1
  by_cases hs : i < listed.size
  · simp [Array.getD, hs] at h0 h1
    rw [h0] at h1
    cases h1
  · simp [Array.getD, hs] at h1
/-- number z waits for number i, or for one that waits for it -/
def Held (md : Region.Mode) (ops : Array Oper) (listed : Array Bool) (z i : Nat) : Prop := waits md ops z i = true ∨ ∃ j, waits md ops z j = true ∧ waits md ops j i = true ∧ listed.getD j true = false
def heldB (md : Region.Mode) (ops : Array Oper) (listed : Array Bool) (z i : Nat) : Bool := waits md ops z i || (List.range ops.size).any fun j => waits md ops z j && waits md ops j i && !(listed.getD j true)
theorem held_of {listed : Array Bool} {i : Nat} (h : heldB md ops listed z i = true) : Held md ops listed z i := by
  unfold heldB at h
  rcases Bool.or_eq_true_iff.1 h with h | h
  · exact .inl h
  · obtain ⟨j, -, hj⟩ := List.any_eq_true.1 h
    simp only [Bool.and_eq_true, Bool.not_eq_true'] at hj
    exact .inr ⟨j, hj.1.1, hj.1.2, hj.2⟩
theorem not_ready {i j : Nat} {oj : Oper} {listed : Array Bool} (hw : waits md ops j i = true) (h0 : listed.getD i true = false) (hoj : ops[j]? = some oj) (hall : ∀ e ∈ oj.after, Region.binds md e = true → listed.getD e.on false = true) : False := by
  obtain ⟨e, he, hb, hon⟩ := waits_spec hw hoj
  exact unlisted h0 hall e he hb hon
theorem until_first {i : Nat} {oi : Oper} {v : Value} (hi : ops[i]? = some oi) (hsel : ∀ (j : Nat) (o : Oper) cs b, ops[j]? = some o → o.op ≠ .select cs b)
    (hQ : ∀ c a w, Q (.panic c) (a.put oi.dst v) w → Q (.panic c) a w) : ∀ (fuel : Nat) (listed : Array Bool) (a : Act) (w : World), Held md ops listed z i →
      (∀ j oj, ops[j]? = some oj → j ≠ i → listed.getD j true = false → (∀ e ∈ oj.after, Region.binds md e = true → e.on ≠ i) → oi.apart ops oj = true) →
      i ∈ Region.ready md ops listed → YieldsIf P ops S oi v a → S w → anyU P md ops Q S z fuel (listed.setIfInBounds i true) (a.put oi.dst v) w → anyU P md ops Q S z (fuel + 1) listed a w := by
  intro fuel
  induction fuel with
  | zero =>
    intro listed a w _ _ hr hy hS H
    refine ⟨fun h => absurd hr (by rw [h]; simp), fun j hj => ?_⟩
    by_cases hji : j = i
    · subst hji; exact hy.wpOp hi hS ⟨.inr hS, H⟩
    · have hm := ready_mono hj hji
      rw [H.1] at hm
      cases hm
  | succ fuel ih =>
    intro listed a w hz hfree hr hy hS H
    refine ⟨fun h => absurd hr (by rw [h]; simp), fun j hj => ?_⟩
    by_cases hji : j = i
    · subst hji; exact hy.wpOp hi hS ⟨.inr hS, H⟩
    · obtain ⟨hun, oj, hoj, hall⟩ := mem_ready.1 hj
      have hi0 := (mem_ready.1 hr).1
      have hnot := unlisted (oj := oj) hi0 hall
      have hjz : j ≠ z := fun e => by
        subst e
        rcases hz with hz | ⟨q, h1, h2, h3⟩
        · exact not_ready hz hi0 hoj hall
        · exact not_ready h1 h3 hoj hall
      have hz' : Held md ops (listed.setIfInBounds j true) z i := by
        rcases hz with hz | ⟨q, h1, h2, h3⟩
        · exact .inl hz
        · refine .inr ⟨q, h1, h2, ?_⟩
          have hq : j ≠ q := fun e => by subst e; exact not_ready h2 hi0 hoj hall
          rw [getD_set_ne true hq]; exact h3
      have hstep := wpOp_putIf hoj (hfree j oj hoj hji hun hnot) (fun cs b => hsel i oi cs b hi) (fun cs b => hsel j oj cs b hoj) hQ hy (H.2 j (ready_mono hj hji))
      refine wpOp_mono (fun a' w' k => ?_) hstep
      have hS' : S w' := k.2.1.resolve_left hjz
      refine ⟨.inr hS', ih _ a' w' hz' (fun q oq hq hqi hqu hno => hfree q oq hq hqi ?_ hno) (ready_mono hr (Ne.symm hji)) k.1 hS' ?_⟩
      · by_cases e : j = q
        · subst e; exact hun
        · rw [getD_set_ne true e] at hqu; exact hqu
      · rw [Array.setIfInBounds_comm _ _ hji]; exact k.2.2
theorem at_drop {i : Nat} {oi : Oper} {rest : List Oper} (h : ops.toList.drop i = oi :: rest) : ops[i]? = some oi := by
  have h1 : (ops.toList.drop i)[0]? = some oi := by rw [h]; rfl
  rw [List.getElem?_drop] at h1
  simpa using h1
theorem until_take {i : Nat} {oi : Oper} {rest : List Oper} {v : Value} {fuel : Nat} {listed : Array Bool} {a : Act} {w : World} (hd : ops.toList.drop i = oi :: rest)
    (hs : Region.noSelect ops = true) (hf : Region.free md ops listed i = true) (hr : (Region.ready md ops listed).contains i = true) (hz : heldB md ops listed z i = true)
    (hQ : ∀ c a w, Q (.panic c) (a.put oi.dst v) w → Q (.panic c) a w) (hy : YieldsIf P ops S oi v a) (hS : S w)
    (h : anyU P md ops Q S z fuel (listed.setIfInBounds i true) (a.put oi.dst v) w) : anyU P md ops Q S z (fuel + 1) listed a w :=
  until_first (at_drop hd) (Region.noSelect_spec hs) hQ fuel listed a w (held_of hz) (Region.free_spec (at_drop hd) hf) (by simpa using hr) hy hS h
/-- number i only reads: it is taken first; its sides by default, the frame written anew -/
theorem utk {i : Nat} {oi : Oper} {rest : List Oper} {v : Value} {fuel : Nat} {listed : Array Bool} {a a' : Act} {w : World} (hd : ops.toList.drop i = oi :: rest) (hS : S w)
    (h : anyU P md ops Q S z fuel (listed.setIfInBounds i true) a' w)
    (hy : YieldsIf P ops S oi v a := by refine Or.inl ⟨by rfl, ?_⟩; intro w hSw; (try dsimp only at hSw); go_simp; (try with_reducible rfl))
    (ha : a.put oi.dst v = a' := by (try simp only [Act.put, List.setIfInBounds_toArray, List.set_cons_zero, List.set_cons_succ]); exact rfl)
    (hs : Region.noSelect ops = true := by kernel_rfl) (hf : Region.free md ops listed i = true := by kernel_rfl) (hr : (Region.ready md ops listed).contains i = true := by kernel_rfl) (hz : heldB md ops listed z i = true := by kernel_rfl)
    (hQ : ∀ c a w, Q (.panic c) (a.put oi.dst v) w → Q (.panic c) a w := by exact fun _ _ _ h => h) : anyU P md ops Q S z (fuel + 1) listed a w :=
  until_take hd hs hf hr hz hQ hy hS (ha ▸ h)
/-- behind a step that is done: the frame written anew -/
theorem nxt {p : World → Prop} {q K' : Act → World → Prop} (hK : ∀ a w, p w → q a w → K' a w) {a a' : Act} {w : World} (hp : p w) (h : q a' w)
    (ha : a = a' := by (try simp only [Act.put, List.setIfInBounds_toArray, List.set_cons_zero, List.set_cons_succ]); exact rfl) : K' a w := hK a w hp (ha ▸ h)
/-- number i alone may come up -/
theorem until_one {i : Nat} {o : Oper} {rest : List Oper} {fuel : Nat} {listed : Array Bool} {a : Act} {w : World} (hd : ops.toList.drop i = o :: rest) (hr : Region.ready md ops listed = [i])
    (h : ∀ K' : Act → World → Prop, Shut (∀ a w, (i = z ∨ S w) → anyU P md ops Q S z fuel (listed.setIfInBounds i true) a w → K' a w) → if Region.wanted o (yielded ops a.tmps) = true then Oper.wp P o a w K' Q else K' (a.put o.dst undef) w) :
    anyU P md ops Q S z (fuel + 1) listed a w :=
  ⟨fun h0 => absurd (hr ▸ h0) (by simp), fun j hj => by
    rw [hr] at hj
    have e : j = i := by simpa using hj
    subst e
    exact wpOp_step (at_drop hd) (fun K' hK => h K' (fun a w hS hW => hK a w ⟨hS, hW⟩))⟩
theorem until_done {listed : Array Bool} {a : Act} {w : World} (hr : Region.ready md ops listed = []) (h : Q .normal a w) : ∀ fuel, anyU P md ops Q S z fuel listed a w
  | 0 => ⟨hr, h⟩
  | _ + 1 => ⟨fun _ => h, by rw [hr]; simp⟩
/-- the beginning -/
theorem region_until {id : Nat} {a : Act} {w : World} (z : Nat) (S : World → Prop) (hm : P.follows .mixedOrders = true) (hS : S w.drew) (h : S w.drew → anyU P .any ops Q S z ops.size (Array.replicate ops.size false) a w.drew) : (Code.region id ops true).wp P Q a w :=
  wp_region_any hm (any_of_until _ _ _ _ (h hS))
end Go.Proofs.YtjlfcbccpcigeacDoor
/- 'm[k]++' on a map of the call's own, whose keys are structs: the entry first, the look-up before or behind it, then the store; no Go in sight. -/
namespace Go.Proofs.YtjlfcbccpcigeacDoor
open Go.ChangeMaps Go.MapKept
open Go.WideMaps (KeyLaw)
open Go.WideElems (Fit)
open Go.Maps (Keyed)
set_option linter.unusedVariables false

section
variable {H : Type} {P : Program} {w : World} {t k e : TypeId} {b n : Nat} {D : DataW H}

end
end Go.Proofs.YtjlfcbccpcigeacDoor
