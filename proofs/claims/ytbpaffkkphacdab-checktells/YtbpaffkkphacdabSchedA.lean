/- SchedA: texts that are built as one: PlanMath, SchedMath, SchedSmall, SchedMap, SchedUK. -/
import Derived.Test.YtbpaffkkphacdabSounds
import Derived.Test.YtbpaffkkphacdabRef8A
import Derived.Test.YtbpaffkkphacdabMaths
import Derived.Test.YtbpaffkkphacdabRef2L
import Derived.Test.YtbpaffkkphacdabBase
import Derived.Deep.RegionHeld3
import Derived.DeepKeys4
/- One statement behind the other: a plan that is legal at every pace from the Waits of all on, and of which each turn is over when the next one begins; no Go in sight. -/
namespace Go.Proofs.Ytbpaffkkphacdab
set_option linter.unusedVariables false
variable {L : Lp} {t : Tg} {P : Int}

end Go.Proofs.Ytbpaffkkphacdab
/- A planner that puts statements in, one by one, and takes some out again: what is in keeps all edges and finds units enough; when all are in, the plan is legal; no Go in sight. -/
namespace Go.Proofs.Ytbpaffkkphacdab
set_option linter.unusedVariables false

/-- how many of those that are in are of class c, and leave r -/
def inC (L : Lp) (P : Int) (I : Nat → Bool) (T : Nat → Int) (c r : Int) : Nat := cnt (fun i => I i && (decide (clsv (stAt L.body i).o = c) && decide ((T i).tmod P = r))) L.body.length
def gapP (P : Int) (e : Ed) : Int := e.wt - e.bk * P
/-- one more, one less, another value -/
def upB (I : Nat → Bool) (a : Nat) (b : Bool) : Nat → Bool := fun j => if j = a then b else I j
def upI (T : Nat → Int) (a : Nat) (x : Int) : Nat → Int := fun j => if j = a then x else T j
/-- the edges between those that are in are kept, those from a only if they are among the first k -/
def keptP (es : List Ed) (P : Int) (I : Nat → Bool) (T : Nat → Int) (a k : Nat) : Prop :=
  ∀ j, j < es.length → (j < k ∨ (edAt es j).fr.toNat ≠ a) → I (edAt es j).fr.toNat = true → I (edAt es j).to.toNat = true → T (edAt es j).fr.toNat + gapP P (edAt es j) ≤ T (edAt es j).to.toNat
/-- what is so between two calls -/
structure SOk (L : Lp) (t : Tg) (P : Int) (I : Nat → Bool) (T N : Nat → Int) (a k : Nat) : Prop where
  times : ∀ i, i < L.body.length → 0 ≤ T i ∧ T i ≤ 1000
  nexts : ∀ i, i < L.body.length → 0 ≤ N i ∧ N i ≤ 1001
  units : ∀ c r, (inC L P I T c r : Int) ≤ unitsT t c
  kept : keptP (edgesD L t) P I T a k

theorem cnt_ups {p q : Nat → Bool} {a : Nat} : ∀ n, (∀ i, i < n → i ≠ a → q i = p i) → cnt q n + (if a < n ∧ p a = true then 1 else 0) = cnt p n + (if a < n ∧ q a = true then 1 else 0) := by
  intro n
  induction n with
  | zero => intro _; simp [cnt]
  | succ n ih =>
    intro h
    have h1 := ih fun i hi => h i (by omega)
    show cnt q n + (if q n = true then 1 else 0) + _ = cnt p n + (if p n = true then 1 else 0) + _
    by_cases e : a = n
    · subst e
      have e1 : ¬ (a < a ∧ p a = true) := by omega
      have e2 : ¬ (a < a ∧ q a = true) := by omega
      rw [if_neg e1, if_neg e2] at h1
      by_cases hp : p a = true <;> by_cases hq : q a = true <;> simp [hp, hq] <;> omega
    · rw [h n (by omega) (fun h => e h.symm)]
      have h2 : (a < n + 1) ↔ (a < n) := by omega
      simp only [h2]
      omega
theorem in_put {L : Lp} {P : Int} {I : Nat → Bool} {T : Nat → Int} {a : Nat} {x : Int} (ha : a < L.body.length) (hI : I a = false) (c r : Int) :
    inC L P (upB I a true) (upI T a x) c r = inC L P I T c r + (if clsv (stAt L.body a).o = c ∧ x.tmod P = r then 1 else 0) := by
  have h := cnt_ups (p := fun i => I i && (decide (clsv (stAt L.body i).o = c) && decide ((T i).tmod P = r))) (q := fun i => upB I a true i && (decide (clsv (stAt L.body i).o = c) && decide ((upI T a x i).tmod P = r))) (a := a) L.body.length (fun i _ hi => by simp [upB, upI, hi])
  simp only [ha, hI, upB, upI, if_true, Bool.false_and, Bool.true_and, Bool.and_eq_true, decide_eq_true_eq, true_and, Bool.false_eq_true, if_false] at h
  exact h
theorem in_out {L : Lp} {P : Int} {I : Nat → Bool} {T : Nat → Int} {a : Nat} (ha : a < L.body.length) (hI : I a = true) (c r : Int) :
    inC L P (upB I a false) T c r + (if clsv (stAt L.body a).o = c ∧ (T a).tmod P = r then 1 else 0) = inC L P I T c r := by
  have h := cnt_ups (p := fun i => I i && (decide (clsv (stAt L.body i).o = c) && decide ((T i).tmod P = r))) (q := fun i => upB I a false i && (decide (clsv (stAt L.body i).o = c) && decide ((T i).tmod P = r))) (a := a) L.body.length (fun i _ hi => by simp [upB, hi])
  simp only [ha, hI, upB, if_true, Bool.false_and, Bool.true_and, Bool.and_eq_true, decide_eq_true_eq, true_and, Bool.false_eq_true, if_false, Nat.add_zero, and_false] at h
  exact h
variable {L : Lp} {t : Tg} {P : Int} {I : Nat → Bool} {T N : Nat → Int}
/-- ahead of all -/
theorem SOk.start (ht : mayT t = true) (a k : Nat) : SOk L t P (fun _ => false) (fun _ => 0) (fun _ => 0) a k where
  times := fun _ _ => ⟨by decide, by decide⟩
  nexts := fun _ _ => ⟨by decide, by decide⟩
  units := fun c r => by
    have h1 : inC L P (fun _ => false) (fun _ => 0) c r = 0 := by
      rcases cnt_zero_or (fun i => (fun _ : Nat => false) i && (decide (clsv (stAt L.body i).o = c) && decide (((fun _ : Nat => (0 : Int)) i).tmod P = r))) L.body.length with h | ⟨i, _, h⟩
      · exact h
      · simp at h
    have := units_ge (c := c) ht
    omega
  kept := fun j _ _ h => by simp at h
/-- a statement is put in, where there is a unit, when all is there that it waits for -/
theorem SOk.put {a0 k0 a : Nat} {x : Int} (h : SOk L t P I T N a0 (edgesD L t).length) (ha : a < L.body.length) (hI : I a = false) (h0 : N a ≤ x) (h1 : x ≤ 1000)
    (hfull : (inC L P I T (clsv (stAt L.body a).o) (x.tmod P) : Int) ≠ unitsT t (clsv (stAt L.body a).o))
    (hready : ∀ j, j < (edgesD L t).length → (edAt (edgesD L t) j).to.toNat = a → I (edAt (edgesD L t) j).fr.toNat = true → T (edAt (edgesD L t) j).fr.toNat + gapP P (edAt (edgesD L t) j) ≤ x) :
    SOk L t P (upB I a true) (upI T a x) (upI N a (x + 1)) a 0 where
  times := fun i hi => by
    have h2 := h.nexts a ha
    have h3 := h.times i hi
    unfold upI
    split <;> omega
  nexts := fun i hi => by
    have h2 := h.nexts a ha
    have h3 := h.nexts i hi
    unfold upI
    split <;> omega
  units := fun c r => by
    rw [in_put ha hI]
    have h2 := h.units c r
    by_cases e : clsv (stAt L.body a).o = c ∧ x.tmod P = r
    · rw [if_pos e]
      rw [← e.1, ← e.2] at h2 ⊢
      omega
    · rw [if_neg e]; omega
  kept := fun j hj hor h2 h3 => by
    have hf : (edAt (edgesD L t) j).fr.toNat ≠ a := by rcases hor with h | h; exact absurd h (Nat.not_lt_zero _); exact h
    unfold upB at h2 h3
    rw [if_neg hf] at h2
    have e1 : upI T a x (edAt (edgesD L t) j).fr.toNat = T (edAt (edgesD L t) j).fr.toNat := by unfold upI; rw [if_neg hf]
    rw [e1]
    by_cases e : (edAt (edgesD L t) j).to.toNat = a
    · have := hready j hj e h2
      unfold upI; rw [if_pos e]; exact this
    · rw [if_neg e] at h3
      unfold upI; rw [if_neg e]
      exact h.kept j hj (.inl hj) h2 h3
/-- one that comes too early is taken out -/
theorem SOk.out {a k b : Nat} (h : SOk L t P I T N a k) (hb : b < L.body.length) (hI : I b = true) (hk : k < (edgesD L t).length) (he : (edAt (edgesD L t) k).to.toNat = b) : SOk L t P (upB I b false) T N a (k + 1) where
  times := h.times
  nexts := h.nexts
  units := fun c r => by
    have h1 := in_out (P := P) (T := T) hb hI c r
    have h2 := h.units c r
    omega
  kept := fun j hj hor h2 h3 => by
    have hg : ∀ i, upB I b false i = true → i ≠ b ∧ I i = true := fun i hi => by
      unfold upB at hi
      by_cases e : i = b
      · rw [if_pos e] at hi; cases hi
      · rw [if_neg e] at hi; exact ⟨e, hi⟩
    obtain ⟨n2, h2⟩ := hg _ h2
    obtain ⟨n3, h3⟩ := hg _ h3
    refine h.kept j hj ?_ h2 h3
    rcases hor with hor | hor
    · by_cases e : j = k
      · subst e; exact absurd he n3
      · exact .inl (by omega)
    · exact .inr hor
/-- one that need not be -/
theorem SOk.next {a k : Nat} (h : SOk L t P I T N a k) (hk : k < (edgesD L t).length) (hn : (edAt (edgesD L t) k).fr.toNat = a → I (edAt (edgesD L t) k).to.toNat = true → T a + gapP P (edAt (edgesD L t) k) ≤ T (edAt (edgesD L t) k).to.toNat) : SOk L t P I T N a (k + 1) where
  times := h.times
  nexts := h.nexts
  units := h.units
  kept := fun j hj hor h2 h3 => by
    by_cases e : (edAt (edgesD L t) j).fr.toNat = a
    · rcases hor with hor | hor
      · by_cases e2 : j = k
        · subst e2
          rw [e]; exact hn e h3
        · exact h.kept j hj (.inl (by omega)) h2 h3
      · exact absurd e hor
    · exact h.kept j hj (.inr e) h2 h3
theorem SOk.any {a k b : Nat} (h : SOk L t P I T N a k) (hk : (edgesD L t).length ≤ k) : SOk L t P I T N b (edgesD L t).length where
  times := h.times
  nexts := h.nexts
  units := h.units
  kept := fun j hj _ h2 h3 => h.kept j hj (.inl (by omega)) h2 h3
end Go.Proofs.Ytbpaffkkphacdab
/- The contracts of package sched's small functions: within, gap, unitOf, numbersMay, edgesKept; nothing that was there is changed. -/
namespace Go.Proofs.Ytbpaffkkphacdab
open Go.RowKit Go.Joins
set_option linter.unusedVariables false
set_option linter.unusedSimpArgs false
set_option maxRecDepth 8192
end Go.Proofs.Ytbpaffkkphacdab
/- Maps of the call's own from sched.unit (a class and a rest of the pace) to counts: a look-up, a count that becomes another; units counted as they come, against all at once. -/
namespace Go.Proofs.Ytbpaffkkphacdab
open Go.RowKit Go.Joins
open Go.WideMaps (KeyLaw)
set_option linter.unusedVariables false
set_option linter.unusedSimpArgs false
set_option maxRecDepth 8192

theorem laidOutS : laidOutB Try.prog = true := by kernel_rfl
theorem sunitRow : (124 : TypeId) < Try.prog.types.size := of_decide_eq_true (by kernel_rfl)
theorem sunitWide : (match Try.prog.underlying 124 with | some (.array _ _) | some (.struct _) => true | _ => false) = true := by kernel_rfl
theorem sunitLaw : KeyLaw Try.prog 124 := deep_law_laid laidOutS (m := 2) (by omega) sunitRow (by kernel_rfl) sunitWide
theorem sunitZero (u : World) : (zeroValue 3).run Try.prog u = .ok (.int .i64 0) u := by kernel_rfl
theorem sunitKey (a b : Int) (ha : (Lit.int .i64 a).wf = true) (hb : (Lit.int .i64 b).wf = true) : ∃ kl, keyOf Try.prog 124 (.agg #[.int .i64 a, .int .i64 b]) = some kl := by
  have h1 : Try.prog.keyType 124 = true := by kernel_rfl
  have h2 : Try.prog.cellsOf 124 = 2 := by kernel_rfl
  have h3 : Try.prog.cellsOf 3 = 1 := by kernel_rfl
  obtain ⟨dd, h4⟩ : ∃ dd, Try.prog.types.size = dd + 1 := ⟨_, (Nat.succ_pred_eq_of_pos (Nat.lt_of_le_of_lt (Nat.zero_le _) sunitRow)).symm⟩
  have h5 : (Value.agg #[.int .i64 a, .int .i64 b]).formed Try.prog 124 = true := by simp [Value.formed, Try.underlying124, h2]
  have h6 : ∀ d (x : Int), (Lit.int .i64 x).wf = true → Try.prog.keyLits (d + 1) 3 [.int .i64 x] = some [.int .i64 x] := fun d x hx => by
    unfold Program.keyLits
    rw [Try.underlying3]
    simp [hx]
  have h7 : Try.prog.keyLits (dd + 1 + 1) 124 [.int .i64 a, .int .i64 b] = some [.int .i64 a, .int .i64 b] := by
    unfold Program.keyLits
    rw [Try.underlying124]
    simp [h2, h3, h6 dd a ha, h6 dd b hb, List.range, List.range.loop]
  unfold keyOf
  rw [Try.underlying124]
  simp only [h1, h5, Bool.and_self, if_true]
  rw [h4]
  have h8 : (Value.agg #[.int .i64 a, .int .i64 b]).cells.toList = [.int .i64 a, .int .i64 b] := rfl
  rw [h8, h7]
  exact ⟨_, rfl⟩
/-- block b is a map that holds, of class c and rest r, f c r -/
def MapG (f : Int → Int → Int) (n b : Nat) (x : World) : Prop :=
  ∃ D : DataW Unit, x.ownsMap Try.prog 124 (plainElem Try.prog 3) b n D ∧ Maps.IsMap D ∧ ∀ c r kl, keyOf Try.prog 124 (.agg #[.int .i64 c, .int .i64 r]) = some kl → D.atKey kl (.lit (.int .i64 0)) = .lit (.int .i64 (f c r))
theorem MapG.below {f : Int → Int → Int} {n b : Nat} {x y : World} (h : MapG f n b x) (hb : Below x.heap.size x y) : MapG f n b y := by
  obtain ⟨D, h1, h2, h3⟩ := h
  refine ⟨D, h1.kept (row := none) ⟨hb.os, hb.tape, hb.output, hb.size, fun i hi _ => hb.block i hi⟩ (by simp), h2, h3⟩
theorem MapG.lt {f : Int → Int → Int} {n b : Nat} {x : World} (h : MapG f n b x) : b < x.heap.size := by obtain ⟨D, h1, _⟩ := h; exact h1.lt
theorem MapG.of_block {f : Int → Int → Int} {n b : Nat} {x y : World} (h : MapG f n b x) (hb : y.heap[b]? = x.heap[b]?) : MapG f n b y := by
  obtain ⟨D, ⟨es, clock, h1, h4⟩, h2, h3⟩ := h
  exact ⟨D, ⟨es, clock, hb.trans h1, h4⟩, h2, h3⟩
theorem MapG.congr {f g : Int → Int → Int} {n b : Nat} {x : World} (h : MapG f n b x) (e : ∀ c r, f c r = g c r) : MapG g n b x := by
  have : f = g := by funext c r; exact e c r
  rw [← this]; exact h
theorem MapG.made (w : World) : MapG (fun _ _ => 0) 0 w.heap.size (w.alloc (.map #[] 0)) :=
  ⟨_, World.ownsMap_made (H := Unit) w Try.prog 124 (plainElem Try.prog 3), Maps.isMap_empty, fun s c kl _ => rfl⟩
theorem MapG.look {f : Int → Int → Int} {n b : Nat} {x : World} (h : MapG f n b x) (c r : Int) (hs : (Lit.int .i64 c).wf = true) (hc : (Lit.int .i64 r).wf = true) : (Instr.lookup 122 (.map (some b)) (.agg #[.int .i64 c, .int .i64 r]) false).run Try.prog x = .ok (.int .i64 (f c r)) x := by
  obtain ⟨D, h1, h2, h3⟩ := h
  obtain ⟨kl, hkl⟩ := sunitKey c r hs hc
  obtain ⟨q, hr, hat, _⟩ := h1.lookup_int (Maps.Keyed.of_law sunitLaw) Try.underlying122 Try.underlying3 (sunitZero _) hkl
  rw [h3 c r kl hkl] at hat
  injection hat with e1
  injection e1 with _ e2
  rw [hr, e2]
/-- another count: the entry, and the store -/
theorem MapG.step {f : Int → Int → Int} {n b : Nat} {x : World} (h : MapG f n b x) (hn : n < maxLen) (c r : Int) (ws : (Lit.int .i64 c).wf = true) (wc : (Lit.int .i64 r).wf = true) (v : Int) (wv : (Lit.int .i64 v).wf = true) :
    ∃ v0 st w1, (Instr.mapEntry 122 (.map (some b)) (.agg #[.int .i64 c, .int .i64 r])).run Try.prog x = .ok (.tuple #[v0, .int .i64 st]) w1 ∧ x.grownBy w1 (some b) ∧ (Instr.lookup 122 (.map (some b)) (.agg #[.int .i64 c, .int .i64 r]) false).run Try.prog w1 = .ok (.int .i64 (f c r)) w1 ∧
      ∃ w3, (Instr.entryStore 122 (.map (some b)) (.int .i64 st) (.int .i64 v)).run Try.prog w1 = .ok () w3 ∧ w1.grownBy w3 (some b) ∧ MapG (fun c' r' => if c' = c ∧ r' = r then v else f c' r') (n + 1) b w3 := by
  have hl := h.look c r ws wc
  obtain ⟨D, h1, h2, h3⟩ := h
  obtain ⟨kl, hkl⟩ := sunitKey c r ws wc
  obtain ⟨v0, st, w1, e1, e2, e3, e4⟩ := entry_own sunitLaw Try.underlying122 Try.underlying3 sunitZero h1 hn hkl hl
  obtain ⟨w3, f1, f2, f3⟩ := e4 w1 v rfl wv
  refine ⟨v0, st, w1, e1, e2, e3, w3, f1, f2, D.put kl (.lit (.int .i64 v)), f3, h2.put _ _, fun s' c' kl' hkl' => ?_⟩
  by_cases e : kl' = kl
  · subst e
    have hv := sunitLaw.inj hkl hkl'
    injection hv with hv
    have hv2 : c = s' ∧ r = c' := by simpa using hv
    obtain ⟨rfl, rfl⟩ := hv2
    dsimp only
    rw [Maps.atKey_put_same h2 ((Maps.Keyed.of_law sunitLaw).key hkl'), if_pos ⟨rfl, rfl⟩]
  · dsimp only
    rw [Maps.atKey_put_other e, h3 s' c' kl' hkl', if_neg fun h => e ?_]
    rw [h.1, h.2, hkl] at hkl'
    exact (Option.some.inj hkl').symm

end Go.Proofs.Ytbpaffkkphacdab
/- The contract of package sched's unitsKept: units are counted in a map as they come; nothing that was there is changed. -/
namespace Go.Proofs.Ytbpaffkkphacdab
open Go.RowKit Go.Joins
set_option linter.unusedVariables false
set_option linter.unusedSimpArgs false
set_option maxRecDepth 8192

section
variable {P : Program} {ops : Array Oper} {Q : Exit → Act → World → Prop} {md : Region.Mode} {S : World → Prop} {z : Nat}
/-- numbers i and j alone may come up -/
theorem until_two {i j : Nat} {o o' : Oper} {rest rest' : List Oper} {fuel : Nat} {listed : Array Bool} {a : Act} {w : World} (hd : ops.toList.drop i = o :: rest) (hd' : ops.toList.drop j = o' :: rest') (hr : Region.ready md ops listed = [i, j])
    (h : ∀ K' : Act → World → Prop, Shut (∀ a w, (i = z ∨ S w) → anyU P md ops Q S z fuel (listed.setIfInBounds i true) a w → K' a w) → if Region.wanted o (yielded ops a.tmps) = true then Oper.wp P o a w K' Q else K' (a.put o.dst undef) w)
    (h' : ∀ K' : Act → World → Prop, Shut (∀ a w, (j = z ∨ S w) → anyU P md ops Q S z fuel (listed.setIfInBounds j true) a w → K' a w) → if Region.wanted o' (yielded ops a.tmps) = true then Oper.wp P o' a w K' Q else K' (a.put o'.dst undef) w) :
    anyU P md ops Q S z (fuel + 1) listed a w :=
  ⟨fun h0 => absurd (hr ▸ h0) (by simp), fun q hq => by
    rw [hr] at hq
    have e : q = i ∨ q = j := by simpa using hq
    rcases e with e | e
    · subst e
      exact wpOp_step (at_drop hd) (fun K' hK => h K' (fun a w hS hW => hK a w ⟨hS, hW⟩))
    · subst e
      exact wpOp_step (at_drop hd') (fun K' hK => h' K' (fun a w hS hW => hK a w ⟨hS, hW⟩))⟩
end
end Go.Proofs.Ytbpaffkkphacdab
