/- CheckC: texts that are built as one: CheckMap, CheckMatch, CheckMem. -/
import Derived.Test.YtbpaffkkphacdabGreatCheckB
import Derived.Maps.Own
import Derived.Maps.OwnSet
import Derived.Maps.Views
import Derived.Maps.RangeWalk
import Derived.Test.YtbpaffkkphacdabGreatRef5B
import Derived.Test.YtbpaffkkphacdabGreatSteady
import Derived.Test.YtbpaffkkphacdabGreatRef10Lay
import Derived.Test.YtbpaffkkphacdabGreatRounds
import Derived.Maps.AppendAt
import Derived.Deep.AppendLies
/- Maps of the call's own, keyed by whole numbers: how often each was met, and what is read ahead of any result. -/
namespace Go.Proofs.YtbpaffkkphacdabGreat
open Go.RowKit Go.Joins Go.Maps
set_option linter.unusedVariables false
set_option linter.unusedSimpArgs false
set_option maxRecDepth 8192

theorem intLaw : Keyed Tryz.prog 3 := int_keyed Tryz.underlying3
theorem wf_of {z : Int} (h1 : -9223372036854775808 ≤ z) (h2 : z ≤ 9223372036854775807) : (Lit.int .i64 z).wf = true := WalkArith.wf_i64 ⟨h1, h2⟩
/-- a map of counts -/
def MapU (f : Int → Int) (n b : Nat) (x : World) : Prop :=
  ∃ D : DataW Unit, x.ownsMap Tryz.prog 3 (plainElem Tryz.prog 3) b n D ∧ IsMap D ∧ ∀ z, D.atKey (.int .i64 z) (.lit (.int .i64 0)) = .lit (.int .i64 (f z))
theorem uzero (w : World) : (zeroValue 3).run Tryz.prog w = .ok (.int .i64 0) w := by kernel_rfl
theorem MapU.of_block {f : Int → Int} {n b : Nat} {x y : World} (h : MapU f n b x) (hb : y.heap[b]? = x.heap[b]?) : MapU f n b y := by
  obtain ⟨D, ⟨es, clock, h1, h4⟩, h2, h3⟩ := h
  exact ⟨D, ⟨es, clock, hb.trans h1, h4⟩, h2, h3⟩
theorem MapU.lt {f : Int → Int} {n b : Nat} {x : World} (h : MapU f n b x) : b < x.heap.size := by obtain ⟨D, h1, _⟩ := h; exact h1.lt
theorem MapU.made (w : World) : MapU (fun _ => 0) 0 w.heap.size (w.alloc (.map #[] 0)) :=
  ⟨_, World.ownsMap_made (H := Unit) w Tryz.prog 3 (plainElem Tryz.prog 3), isMap_empty, fun z => rfl⟩
theorem MapU.look {f : Int → Int} {n b : Nat} {x : World} (h : MapU f n b x) (z : Int) (hz : (Lit.int .i64 z).wf = true) : (Instr.lookup 124 (.map (some b)) (.int .i64 z) false).run Tryz.prog x = .ok (.int .i64 (f z)) x := by
  obtain ⟨D, h1, h2, h3⟩ := h
  obtain ⟨q, hr, hat, _⟩ := h1.lookup_int intLaw Tryz.underlying124 Tryz.underlying3 (uzero _) (keyOf_int_mk Tryz.underlying3 hz)
  rw [h3 z] at hat
  injection hat with e1
  injection e1 with _ e2
  rw [hr, e2]
theorem MapU.put {f : Int → Int} {n b : Nat} {x : World} (h : MapU f n b x) (hn : n < maxLen) (z v : Int) (hz : (Lit.int .i64 z).wf = true) (hv : (Lit.int .i64 v).wf = true) :
    ∃ x', (Instr.mapUpdate 124 (.map (some b)) (.int .i64 z) (.int .i64 v)).run Tryz.prog x = .ok () x' ∧ x.grownBy x' (some b) ∧ MapU (fun z' => if z' = z then v else f z') (n + 1) b x' := by
  obtain ⟨D, h1, h2, h3⟩ := h
  obtain ⟨x', hr, ho, hg⟩ := h1.update intLaw Tryz.underlying124 hn (keyOf_int_mk Tryz.underlying3 hz) (plainElem_int Tryz.underlying3 hv)
  refine ⟨x', hr, hg, _, ho, h2.put _ _, fun z' => ?_⟩
  show _ = DataW.lit (Lit.int IntKind.i64 (if z' = z then v else f z'))
  by_cases e : z' = z
  · subst e
    rw [if_pos rfl, atKey_put_same h2 (intLaw.key (keyOf_int_mk Tryz.underlying3 hz))]
  · rw [if_neg e, atKey_put_other (fun h => e (by injection h))]
    exact h3 z'
/-- how often a number was met -/
def cntO (O : List Int) (z : Int) : Nat → Int
  | 0 => 0
  | k + 1 => cntO O z k + (if nth O k = z then 1 else 0)
theorem cntO_range (O : List Int) (z : Int) : ∀ k, 0 ≤ cntO O z k ∧ cntO O z k ≤ k := by
  intro k
  induction k with
  | zero => exact ⟨Int.le_refl _, Int.le_refl _⟩
  | succ k ih =>
    show 0 ≤ cntO O z k + _ ∧ cntO O z k + _ ≤ ((k + 1 : Nat) : Int)
    split <;> omega
theorem cntO_none {O : List Int} {z : Int} : ∀ k, (∀ i, i < k → nth O i ≠ z) → cntO O z k = 0 := by
  intro k
  induction k with
  | zero => intro _; rfl
  | succ k ih =>
    intro h
    show cntO O z k + _ = 0
    rw [ih (fun i hi => h i (by omega)), if_neg (h k (by omega))]; rfl
theorem cntO_some {O : List Int} {z : Int} : ∀ k i, i < k → nth O i = z → 1 ≤ cntO O z k := by
  intro k
  induction k with
  | zero => intro i h; omega
  | succ k ih =>
    intro i hi e
    show 1 ≤ cntO O z k + _
    have h0 := cntO_range O z k
    by_cases e2 : i = k
    · subst e2; rw [if_pos e]; omega
    · have := ih i (by omega) e
      split <;> omega
/-- a Ref in a map -/
def refDat (a q : Int) : DataW Unit := .agg [.lit (.int .i64 a), .lit (.int .i64 q)]
def refElem : Value → Option (DataW Unit × List MemPlace)
  | .agg xs => match xs.toList with
    | [.int .i64 a, .int .i64 q] => some (refDat a q, [])
    | _ => none
  | _ => none
theorem refElem_mk (a q : Int) : refElem (.agg #[.int .i64 a, .int .i64 q]) = some (refDat a q, []) := rfl
theorem refElem_inv {v : Value} {z : DataW Unit × List MemPlace} (h : refElem v = some z) : ∃ a q, v = .agg #[.int .i64 a, .int .i64 q] ∧ z = (refDat a q, []) := by
  unfold refElem at h
  split at h
  · split at h
    · rename_i xs a q hx
      cases h
      refine ⟨a, q, ?_, rfl⟩
      congr 1
      apply Array.ext'
      rw [hx]
    · cases h
  · cases h
/-- what is read ahead of any result -/
def MapS (F A Q : List Int) (p b : Nat) (x : World) : Prop :=
  ∃ D : DataW Unit, x.ownsMap Tryz.prog 3 refElem b p D ∧ IsMap D ∧ (∀ z, Maps.has D (.int .i64 z) = true ↔ ∃ i, i < p ∧ nth F i = z) ∧ ∀ i, i < p → ∀ zd, D.atKey (.int .i64 (nth F i)) zd = refDat (nth A i) (nth Q i)
theorem szero (w : World) : (zeroValue 39).run Tryz.prog w = .ok (.agg #[.int .i64 0, .int .i64 0]) w := by kernel_rfl
theorem MapS.of_block {F A Q : List Int} {n b : Nat} {x y : World} (h : MapS F A Q n b x) (hb : y.heap[b]? = x.heap[b]?) : MapS F A Q n b y := by
  obtain ⟨D, ⟨es, clock, h1, h4⟩, h2, h3⟩ := h
  exact ⟨D, ⟨es, clock, hb.trans h1, h4⟩, h2, h3⟩
theorem MapS.lt {F A Q : List Int} {n b : Nat} {x : World} (h : MapS F A Q n b x) : b < x.heap.size := by obtain ⟨D, h1, _⟩ := h; exact h1.lt
theorem MapS.made (F A Q : List Int) (w : World) : MapS F A Q 0 w.heap.size (w.alloc (.map #[] 0)) :=
  ⟨_, World.ownsMap_made (H := Unit) w Tryz.prog 3 refElem, isMap_empty, fun z => ⟨fun h => (by cases h), fun ⟨i, h, _⟩ => absurd h (Nat.not_lt_zero _)⟩, fun i h => absurd h (Nat.not_lt_zero _)⟩
theorem MapS.look {F A Q : List Int} {n b : Nat} {x : World} (h : MapS F A Q n b x) (z : Int) (hz : (Lit.int .i64 z).wf = true) : ∃ a q ok, (Instr.lookup 85 (.map (some b)) (.int .i64 z) true).run Tryz.prog x = .ok (.tuple #[.agg #[.int .i64 a, .int .i64 q], .bool ok]) x ∧ (ok = true ↔ ∃ i, i < n ∧ nth F i = z) := by
  obtain ⟨D, h1, h2, h3, h4⟩ := h
  obtain ⟨v, ps, hr, hv⟩ := h1.look_ok intLaw Tryz.underlying85 (szero _) (refElem_mk 0 0) (keyOf_int_mk Tryz.underlying3 hz)
  obtain ⟨a, q, rfl, -⟩ := refElem_inv hv
  exact ⟨a, q, _, hr, h3 z⟩
theorem MapS.put {F A Q : List Int} {n b : Nat} {x : World} (h : MapS F A Q n b x) (hn : n < maxLen) (hz : (Lit.int .i64 (nth F n)).wf = true) (hf : ∀ i, i < n → nth F i ≠ nth F n) :
    ∃ x', (Instr.mapUpdate 85 (.map (some b)) (.int .i64 (nth F n)) (.agg #[.int .i64 (nth A n), .int .i64 (nth Q n)])).run Tryz.prog x = .ok () x' ∧ x.grownBy x' (some b) ∧ MapS F A Q (n + 1) b x' := by
  obtain ⟨D, h1, h2, h3, h4⟩ := h
  obtain ⟨x', hr, ho, hg⟩ := h1.update intLaw Tryz.underlying85 hn (keyOf_int_mk Tryz.underlying3 hz) (refElem_mk (nth A n) (nth Q n))
  have hk := intLaw.key (keyOf_int_mk Tryz.underlying3 hz)
  refine ⟨x', hr, hg, _, ho, h2.put _ _, fun z => ?_, fun i hi zd => ?_⟩
  · by_cases e : z = nth F n
    · subst e
      rw [has_put_same h2 hk]
      exact ⟨fun _ => ⟨n, by omega, rfl⟩, fun _ => rfl⟩
    · rw [has_put_other (fun h => e (by injection h)), h3 z]
      constructor
      · rintro ⟨i, hi, e2⟩; exact ⟨i, by omega, e2⟩
      · rintro ⟨i, hi, e2⟩
        by_cases e3 : i = n
        · subst e3; exact absurd e2.symm e
        · exact ⟨i, by omega, e2⟩
  · by_cases e3 : i = n
    · subst e3; exact atKey_put_same h2 hk _ _
    · rw [atKey_put_other (fun h => hf i (by omega) (by injection h))]
      exact h4 i (by omega) zd
end Go.Proofs.YtbpaffkkphacdabGreat
/- Package check's matches: whether all may be, and each statement has an Op of its own that does the same; nothing that was there is changed. -/
namespace Go.Proofs.YtbpaffkkphacdabGreat
open Go.RowKit Go.Joins
set_option linter.unusedVariables false
set_option linter.unusedSimpArgs false
set_option maxRecDepth 8192

theorem wrapC {z : Int} (h1 : -9223372036854775808 ≤ z) (h2 : z ≤ 9223372036854775807) : IntKind.i64.wrap z = z := by
  rw [IntKind.wrap_i64]; omega
set_option maxHeartbeats 8000000 in
theorem cmatch_len (hM : MayC) (p0 p1 p2 q0 q1 q2 r pc st : Int) (ops : List Kop) (L : Lp) (O : List Int) (a0 a1 a2 ka oa : Option Addr) (cap0 cap1 cap2 kc oc : Nat) (w : World) (hL : LoopV w (.agg #[.slice a0 L.logs.length cap0, .slice a1 L.body.length cap1, .slice a2 L.outs.length cap2]) L) (hK : OpsV w (.slice ka ops.length kc) ops) (hO : Ints w (.slice oa O.length oc) O) (h : ops.length ≠ L.body.length ∨ O.length ≠ L.body.length) :
    Calls Tryz.prog 39 #[.agg #[.slice a0 L.logs.length cap0, .slice a1 L.body.length cap1, .slice a2 L.outs.length cap2], .agg #[.int .i64 p0, .int .i64 p1, .int .i64 p2, .int .i64 q0, .int .i64 q1, .int .i64 q2, .int .i64 r], .agg #[.int .i64 pc, .int .i64 st, .slice ka ops.length kc], .slice oa O.length oc] w fun e w' => e = .returned (.bool (layD L ⟨p0, p1, p2, q0, q1, q2, r⟩ ⟨pc, st, ops⟩ O)) ∧ Below w.heap.size w w' := by
  have HN : Hid (layD L ⟨p0, p1, p2, q0, q1, q2, r⟩ ⟨pc, st, ops⟩ O = false) := by
    show _ = _
    unfold layD
    rcases h with h | h
    · rw [decide_eq_false (show ¬ (⟨pc, st, ops⟩ : Kn).ops.length = L.body.length from h)]; simp
    · rw [decide_eq_false h]; simp
  rw [HN.out]
  clear hL hK hO hM HN
  by_cases h1 : ops.length = L.body.length
  · have hb1 : ((ops.length : Int) != (L.body.length : Int)) = false := by simp; omega
    have hb2 : ((O.length : Int) != (L.body.length : Int)) = true := by
      rcases h with h | h
      · exact absurd h1 h
      · simp; omega
    clear h h1
    go_enter Tryz.func39, Tryz.ntmps39
    go_wp2_with fail
    go_ret
    exact ⟨rfl, below_alloc3 _ _ _ _⟩
  · have hb1 : ((ops.length : Int) != (L.body.length : Int)) = true := by simp; omega
    clear h h1
    go_enter Tryz.func39, Tryz.ntmps39
    go_wp2_with fail
    go_ret
    exact ⟨rfl, below_alloc3 _ _ _ _⟩

set_option maxHeartbeats 8000000 in
theorem cmatch_may (hM : MayC) (p0 p1 p2 q0 q1 q2 r pc st : Int) (ops : List Kop) (L : Lp) (O : List Int) (a0 a1 a2 ka oa : Option Addr) (cap0 cap1 cap2 kc oc : Nat) (w : World) (hL : LoopV w (.agg #[.slice a0 L.logs.length cap0, .slice a1 L.body.length cap1, .slice a2 L.outs.length cap2]) L) (hK : OpsV w (.slice ka ops.length kc) ops) (hO : Ints w (.slice oa O.length oc) O) (h1 : ops.length = L.body.length) (h2 : O.length = L.body.length) (h : mayB L = false ∨ mayB L = true ∧ mayK ⟨p0, p1, p2, q0, q1, q2, r⟩ ⟨pc, st, ops⟩ L.logs = false) :
    Calls Tryz.prog 39 #[.agg #[.slice a0 L.logs.length cap0, .slice a1 L.body.length cap1, .slice a2 L.outs.length cap2], .agg #[.int .i64 p0, .int .i64 p1, .int .i64 p2, .int .i64 q0, .int .i64 q1, .int .i64 q2, .int .i64 r], .agg #[.int .i64 pc, .int .i64 st, .slice ka ops.length kc], .slice oa O.length oc] w fun e w' => e = .returned (.bool (layD L ⟨p0, p1, p2, q0, q1, q2, r⟩ ⟨pc, st, ops⟩ O)) ∧ Below w.heap.size w w' := by
  have hb1 : ((ops.length : Int) != (L.body.length : Int)) = false := by simp; omega
  have hb2 : ((O.length : Int) != (L.body.length : Int)) = false := by simp; omega
  have HBZ := hide (below_alloc3 w (.cells #[.slice a0 L.logs.length cap0, .slice a1 L.body.length cap1, .slice a2 L.outs.length cap2] 25) (.cells #[.int .i64 p0, .int .i64 p1, .int .i64 p2, .int .i64 q0, .int .i64 q1, .int .i64 q2, .int .i64 r] 28) (.cells #[.int .i64 pc, .int .i64 st, .slice ka ops.length kc] 31))
  have HS3 : Hid ((((w.alloc (.cells #[.slice a0 L.logs.length cap0, .slice a1 L.body.length cap1, .slice a2 L.outs.length cap2] 25)).alloc (.cells #[.int .i64 p0, .int .i64 p1, .int .i64 p2, .int .i64 q0, .int .i64 q1, .int .i64 q2, .int .i64 r] 28)).alloc (.cells #[.int .i64 pc, .int .i64 st, .slice ka ops.length kc] 31)).heap.size = w.heap.size + 1 + 1 + 1) := by show _ = _; simp
  have HMB := hide (may_any (.agg #[.slice a0 L.logs.length cap0, .slice a1 L.body.length cap1, .slice a2 L.outs.length cap2]) L (((w.alloc (.cells #[.slice a0 L.logs.length cap0, .slice a1 L.body.length cap1, .slice a2 L.outs.length cap2] 25)).alloc (.cells #[.int .i64 p0, .int .i64 p1, .int .i64 p2, .int .i64 q0, .int .i64 q1, .int .i64 q2, .int .i64 r] 28)).alloc (.cells #[.int .i64 pc, .int .i64 st, .slice ka ops.length kc] 31)) (hL.below HBZ.out))
  have HMK := hide (fun W (hb : Below w.heap.size w W) (h0 : Ints W (.slice a0 L.logs.length cap0) L.logs) => hM ⟨p0, p1, p2, q0, q1, q2, r⟩ (.agg #[.int .i64 pc, .int .i64 st, .slice ka ops.length kc]) ⟨pc, st, ops⟩ a0 cap0 L.logs W ⟨_, rfl, hK.below hb⟩ h0)
  have HLG : Hid (∀ W, Below w.heap.size w W → Ints W (.slice a0 L.logs.length cap0) L.logs) := fun W hb => by
    obtain ⟨v0, v1, v2, hv, h0, -⟩ := hL.below hb
    injection hv with hv
    have := congrArg Array.toList hv
    simp at this
    rw [this.1]
    exact h0
  have HN : Hid (layD L ⟨p0, p1, p2, q0, q1, q2, r⟩ ⟨pc, st, ops⟩ O = false) := by
    show _ = _
    unfold layD
    rcases h with h | ⟨-, h⟩
    · rw [h]; rfl
    · rw [h]; simp
  rw [HN.out]
  clear hL hK hO hM HN h1 h2
  rcases h with h | ⟨h, h'⟩
  · rw [h] at HMB
    go_enter Tryz.func39, Tryz.ntmps39
    go_wp2_with fail
    refine HMB.out.mono ?_
    rintro e x1 ⟨rfl, hb⟩
    have HBX := hide (HBZ.out.trans (hb.mono (by rw [HS3.out]; omega)))
    clear hb
    go_wp2_with fail
    go_ret
    exact ⟨rfl, HBX.out⟩
  · rw [h] at HMB
    rw [h'] at HMK
    go_enter Tryz.func39, Tryz.ntmps39
    go_wp2_with fail
    refine HMB.out.mono ?_
    rintro e x1 ⟨rfl, hb⟩
    rw [HS3.out] at hb
    obtain ⟨⟨l0, l1, l2⟩, ⟨t0, t1, t2, t3, t4, t5, t6⟩, ⟨k0, k1, k2⟩, hz, hbw⟩ := lkbox_cells hb
    have HBX := hide hbw
    clear hb hbw
    go_wp2_with fail
    refine (HMK.out _ HBX.out (HLG.out _ HBX.out)).mono ?_
    rintro e x2 ⟨rfl, hb⟩
    have HBY := hide (HBX.out.trans (hb.mono HBX.out.size))
    clear hb l0 l1 l2 t0 t1 t2 t3 t4 t5 t6 k0 k1 k2
    go_wp2_with fail
    go_ret
    exact ⟨rfl, HBY.out⟩

set_option maxHeartbeats 8000000 in
theorem cmatch_loop (hM : MayC) (p0 p1 p2 q0 q1 q2 r pc st : Int) (ops : List Kop) (L : Lp) (O : List Int) (a0 a1 a2 ka oa : Option Addr) (cap0 cap1 cap2 kc oc : Nat) (w : World) (hL : LoopV w (.agg #[.slice a0 L.logs.length cap0, .slice a1 L.body.length cap1, .slice a2 L.outs.length cap2]) L) (hK : OpsV w (.slice ka ops.length kc) ops) (hO : Ints w (.slice oa O.length oc) O) (h1 : ops.length = L.body.length) (h2 : O.length = L.body.length) (hm : mayB L = true) (hk : mayK ⟨p0, p1, p2, q0, q1, q2, r⟩ ⟨pc, st, ops⟩ L.logs = true) :
    Calls Tryz.prog 39 #[.agg #[.slice a0 L.logs.length cap0, .slice a1 L.body.length cap1, .slice a2 L.outs.length cap2], .agg #[.int .i64 p0, .int .i64 p1, .int .i64 p2, .int .i64 q0, .int .i64 q1, .int .i64 q2, .int .i64 r], .agg #[.int .i64 pc, .int .i64 st, .slice ka ops.length kc], .slice oa O.length oc] w fun e w' => e = .returned (.bool (layD L ⟨p0, p1, p2, q0, q1, q2, r⟩ ⟨pc, st, ops⟩ O)) ∧ Below w.heap.size w w' := by
  have hb1 : ((ops.length : Int) != (L.body.length : Int)) = false := by simp; omega
  have hb2 : ((O.length : Int) != (L.body.length : Int)) = false := by simp; omega
  have HBZ := hide (below_alloc3 w (.cells #[.slice a0 L.logs.length cap0, .slice a1 L.body.length cap1, .slice a2 L.outs.length cap2] 25) (.cells #[.int .i64 p0, .int .i64 p1, .int .i64 p2, .int .i64 q0, .int .i64 q1, .int .i64 q2, .int .i64 r] 28) (.cells #[.int .i64 pc, .int .i64 st, .slice ka ops.length kc] 31))
  have HS3 : Hid ((((w.alloc (.cells #[.slice a0 L.logs.length cap0, .slice a1 L.body.length cap1, .slice a2 L.outs.length cap2] 25)).alloc (.cells #[.int .i64 p0, .int .i64 p1, .int .i64 p2, .int .i64 q0, .int .i64 q1, .int .i64 q2, .int .i64 r] 28)).alloc (.cells #[.int .i64 pc, .int .i64 st, .slice ka ops.length kc] 31)).heap.size = w.heap.size + 1 + 1 + 1) := by show _ = _; simp
  have HMB := hide (may_any (.agg #[.slice a0 L.logs.length cap0, .slice a1 L.body.length cap1, .slice a2 L.outs.length cap2]) L (((w.alloc (.cells #[.slice a0 L.logs.length cap0, .slice a1 L.body.length cap1, .slice a2 L.outs.length cap2] 25)).alloc (.cells #[.int .i64 p0, .int .i64 p1, .int .i64 p2, .int .i64 q0, .int .i64 q1, .int .i64 q2, .int .i64 r] 28)).alloc (.cells #[.int .i64 pc, .int .i64 st, .slice ka ops.length kc] 31)) (hL.below HBZ.out))
  have HMK := hide (fun W (hb : Below w.heap.size w W) (h0 : Ints W (.slice a0 L.logs.length cap0) L.logs) => hM ⟨p0, p1, p2, q0, q1, q2, r⟩ (.agg #[.int .i64 pc, .int .i64 st, .slice ka ops.length kc]) ⟨pc, st, ops⟩ a0 cap0 L.logs W ⟨_, rfl, hK.below hb⟩ h0)
  have HLG : Hid (∀ W, Below w.heap.size w W → Ints W (.slice a0 L.logs.length cap0) L.logs) := fun W hb => by
    obtain ⟨v0, v1, v2, hv, h0, -⟩ := hL.below hb
    injection hv with hv
    have := congrArg Array.toList hv
    simp at this
    rw [this.1]
    exact h0
  obtain ⟨-, hn1, hn16, -⟩ := may_parts hm
  have HD : Hid (layD L ⟨p0, p1, p2, q0, q1, q2, r⟩ ⟨pc, st, ops⟩ O = allN (fun s => ordOkD L O s && sameD L ⟨pc, st, ops⟩ O s) L.body.length) := by
    show _ = _
    unfold layD
    have hmt : mayT ⟨p0, p1, p2, q0, q1, q2, r⟩ = true := by
      have hk2 := hk
      unfold mayK at hk2
      simp only [Bool.and_eq_true] at hk2
      exact hk2.1.1.1.1
    rw [hm, hk, hmt, decide_eq_true (show (⟨pc, st, ops⟩ : Kn).ops.length = L.body.length from h1), decide_eq_true h2]; rfl
  obtain ⟨v0, v1, v2, hv, -, ⟨a1', c1', hv1, hl1, hl2, hl3⟩, -⟩ := hL
  obtain ⟨e0, e1, e2⟩ : (.slice a0 L.logs.length cap0 : Value) = v0 ∧ (.slice a1 L.body.length cap1 : Value) = v1 ∧ (.slice a2 L.outs.length cap2 : Value) = v2 := by
    injection hv with hv
    have := congrArg Array.toList hv
    simpa using this
  rw [hv1] at e1
  injection e1 with e1 ex1 e1'
  subst e1; subst e1'
  unfold maxLen at hl2
  obtain ⟨bb, bo, rfl, hbb, hbody⟩ := hl3 (by omega)
  obtain ⟨ka', kc', hke, hk1, hk2, hk3⟩ := hK
  injection hke with e1 ex2 e1'
  subst e1; subst e1'
  unfold maxLen at hk2
  obtain ⟨kb, ko, rfl, hkb, hops⟩ := hk3 (by omega)
  obtain ⟨oa', oc', hoe, ho1, ho2, hor, ho3⟩ := hO
  injection hoe with e1 ex3 e1'
  subst e1; subst e1'
  unfold maxLen at ho2
  obtain ⟨ob, oo, rfl, hob, hord⟩ := ho3 (by omega)
  have HBO := hide hbody
  have HOP := hide hops
  have HOR := hide hord
  have HOI := hide hor
  have HH := hide (And.intro h1 h2)
  rw [hm] at HMB
  rw [hk] at HMK
  clear hM hl3 hbody hk3 hops ho3 hord hor hv e0 e2 hv1 hm hk h1 h2
  go_enter Tryz.func39, Tryz.ntmps39
  go_wp2_with fail
  refine HMB.out.mono ?_
  rintro e x1 ⟨rfl, hb⟩
  rw [HS3.out] at hb
  obtain ⟨⟨l0, l1, l2⟩, ⟨t0, t1, t2, t3, t4, t5, t6⟩, ⟨k0, k1, k2⟩, hz, hbw⟩ := lkbox_cells hb
  have HBX := hide hbw
  have HBX1 := hide hb
  clear hb hbw
  go_wp2_with fail
  refine (HMK.out _ HBX.out (HLG.out _ HBX.out)).mono ?_
  rintro e x2 ⟨rfl, hb⟩
  have hb2 := HBX1.out.trans (hb.mono (by have := HBX1.out.size; rw [HS3.out] at this; exact this))
  clear l0 l1 l2 t0 t1 t2 t3 t4 t5 t6 k0 k1 k2 hz
  obtain ⟨⟨l0, l1, l2⟩, ⟨t0, t1, t2, t3, t4, t5, t6⟩, ⟨k0, k1, k2⟩, hz, hbw⟩ := lkbox_cells hb2
  have HBY := hide hbw
  clear hb2 hbw hb HMB HMK HLG HBX HBX1 HBZ HS3 l0 l2 t0 t1 t2 t3 t4 t5 t6 k0 k1
  have l1m : (x2.alloc (.map #[] 0)).cell? ⟨w.heap.size, 1, none⟩ = some (.slice (some ⟨bb, bo, none⟩) L.body.length cap1) := (bcell (below_alloc1 x2 (.map #[] 0)) w.heap.size 1 (by omega)).trans l1
  clear l1
  have hmm := @run_makeMap Tryz.prog
  go_wp2_with fail
  clear hmm
  have HMD := hide (MapU.made x2)
  have K2 := hide k2
  clear k2
  go_loopw [43] (fun i wr => ∃ k : Nat, k ≤ L.body.length ∧ i = .int .i64 k ∧ allN (fun s => ordOkD L O s && sameD L ⟨pc, st, ops⟩ O s) k = true ∧ Below x2.heap.size x2 wr ∧ MapU (fun z => cntO O z k) k x2.heap.size wr) (fun i _ => L.body.length - (intOf i).toNat)
  case atStart => exact ⟨0, Nat.zero_le _, rfl, rfl, below_alloc1 _ _, HMD.out⟩
  case round =>
    clear HMD
    obtain ⟨k, hk, rfl, hall, hbel, hmap⟩ := hrel
    have HA := hide hall
    have HB := hide hbel
    have HMP := hide hmap
    have HWR := hide (HBY.out.trans (hbel.mono HBY.out.size))
    clear hall hmap
    by_cases hkl : k < L.body.length
    · have hki : (k : Int) < (L.body.length : Int) := by omega
      have hkO : (k : Int) < (O.length : Int) := by have := HH.out.2; omega
      obtain ⟨c0, c1, c2, c3, c4, c5, c6, c7, c8⟩ := nine (fun j hj => (bcell HWR.out bb (bo + k * 9 + j) hbb).trans (HBO.out k hkl j hj))
      have co := (bcell HWR.out ob (oo + k) hob).trans (HOR.out k (by have := HH.out.2; omega))
      obtain ⟨zl, zh⟩ := HOI.out k (by have := HH.out.2; omega)
      have hsz := HWR.out.size
      have hbz : bb < wr.heap.size := by omega
      have hoz : ob < wr.heap.size := by omega
      have hxz : x2.heap.size < wr.heap.size := HMP.out.lt
      have HSO : Hid (ordOkD L O k = (inR (nth O k) 0 ((ops.length : Int) - 1) && allN (fun i => !decide (nth O i = nth O k)) k)) := by show _ = _; unfold ordOkD; rw [HH.out.1]
      have HSS : Hid (sameD L ⟨pc, st, ops⟩ O k = doesB (stAt L.body k).o (stAt L.body k).ar (stAt L.body k).sp (stAt L.body k).pl (stAt L.body k).nn (opAt ops (nth O k).toNat).o (opAt ops (nth O k).toNat).ar (opAt ops (nth O k).toNat).sp (opAt ops (nth O k).toNat).pl (opAt ops (nth O k).toNat).nn) := rfl
      obtain ⟨z, hzz⟩ : ∃ z, nth O k = z := ⟨_, rfl⟩
      rw [hzz] at co zl zh HSO HSS
      have HZ := hide hzz
      generalize stAt L.body k = xk at *
      obtain ⟨so, xa, xb, ya, yb, ar, sp, pl, nn⟩ := xk
      simp only at c0 c1 c2 c3 c4 c5 c6 c7 c8 HSS
      obtain ⟨W, hW⟩ : ∃ W, wr.alloc (.cells #[.int .i64 so, .int .i64 xa, .int .i64 xb, .int .i64 ya, .int .i64 yb, .int .i64 ar, .int .i64 sp, .int .i64 pl, .int .i64 nn] 41) = W := ⟨_, rfl⟩
      have hWb : Below wr.heap.size wr W := by rw [← hW]; exact below_alloc1 _ _
      have hWz : W.heap.size = wr.heap.size + 1 := by rw [← hW]; simp
      have HWW := hide hW
      have hmW : MapU (fun z => cntO O z k) k x2.heap.size W := HMP.out.of_block (hWb.block _ HMP.out.lt)
      obtain ⟨g0, g1⟩ := cntO_range O z k
      have hlk := hmW.look z (wf_of zl zh)
      obtain ⟨V, hup, hgr, hmV⟩ := hmW.put (by unfold maxLen; omega) z (cntO O z k + 1) (wf_of zl zh) (wf_of (by omega) (by omega))
      have hwc : wrap64 (cntO O z k + 1) = cntO O z k + 1 := by unfold wrap64; omega
      have hmV2 : MapU (fun z' => cntO O z' (k + 1)) (k + 1) x2.heap.size V := by
        have e : (fun z' => if z' = z then cntO O z k + 1 else cntO O z' k) = fun z' => cntO O z' (k + 1) := by
          funext z'
          show _ = cntO O z' k + _
          rw [HZ.out]
          by_cases e : z' = z
          · rw [if_pos e, if_pos e.symm, e]
          · rw [if_neg e, if_neg (fun h => e h.symm)]; omega
        rw [← e]; exact hmV
      have hVx : Below x2.heap.size x2 V := (HB.out.trans (hWb.mono HB.out.size)).grown hgr (by have := HB.out.size; omega) (fun j hj => by cases hj; exact Nat.le_refl _)
      have hVz : W.heap.size ≤ V.heap.size := hgr.size
      have hVB : V.heap[wr.heap.size]? = some (.cells #[.int .i64 so, .int .i64 xa, .int .i64 xb, .int .i64 ya, .int .i64 yb, .int .i64 ar, .int .i64 sp, .int .i64 pl, .int .i64 nn] 41 (0, 0)) := by
        rw [hgr.block wr.heap.size (by omega) (by simp; omega), ← hW]; exact new_blkC _ _ _
      have HVX := hide hVx
      have HWV := hide (HBY.out.trans (hVx.mono HBY.out.size))
      have HMV := hide hmV2
      have kV := (bcell hVx (w.heap.size + 1 + 1) 2 (by omega)).trans (show x2.cell? ⟨w.heap.size + 1 + 1, 2, none⟩ = _ from K2.out)
      have HNX : Hid (ordOkD L O k = true → sameD L ⟨pc, st, ops⟩ O k = true → allN (fun s => ordOkD L O s && sameD L ⟨pc, st, ops⟩ O s) (k + 1) = true) := fun h h' => allN_step HA.out (by show (ordOkD L O k && sameD L ⟨pc, st, ops⟩ O k) = true; rw [h, h']; rfl)
      have HNO : Hid (ordOkD L O k = false ∨ sameD L ⟨pc, st, ops⟩ O k = false → layD L ⟨p0, p1, p2, q0, q1, q2, r⟩ ⟨pc, st, ops⟩ O = false) := fun h => by
        rw [HD.out]
        refine allN_false hkl ?_
        show (ordOkD L O k && sameD L ⟨pc, st, ops⟩ O k) = false
        rcases h with h | h
        · rw [h]; rfl
        · rw [h]; simp
      have hwn2 : IntKind.i64.wrap ((ops.length : Int) - 1) = (ops.length : Int) - 1 := wrapC (by omega) (by omega)
      have hwn : wrap64 ((ops.length : Int) - 1) = (ops.length : Int) - 1 := by unfold wrap64; omega
      have HWI := hide (fun W' => cwithin_any z 0 ((ops.length : Int) - 1) W')
      rw [← hW] at hlk hup
      obtain ⟨cz, hcz⟩ : ∃ cz, cntO O z k = cz := ⟨_, rfl⟩
      have HCZ := hide hcz
      have HCX := hide hcz
      have HZX := hide hzz
      rw [hcz] at hlk hup hwc g0 g1
      have HVB := hide hVB
      have KV := hide kV
      have HVZ := hide (show wr.heap.size < V.heap.size by omega)
      clear hW hWb hmW hmV hmV2 hgr hbel hcz hzz hVx hVz hVB kV HWW hWz
      cases hin : inR z 0 ((ops.length : Int) - 1) with
      | false =>
        have HN := hide (HNO.out (.inl (by rw [HSO.out, hin]; rfl)))
        rw [hin] at HWI
        clear hin HNX HNO HSO HSS
        go_wp2_with fail
        clear hup hlk c0 c1 c2 c3 c4 c5 c6 c7 c8 co
        have HS : Hid (∀ w', Below V.heap.size V w' → w'.cell? ⟨w.heap.size + 1 + 1, 2, none⟩ = some (.slice (some ⟨kb, ko, none⟩) ops.length kc)) := fun w' hb => (bcell hb (w.heap.size + 1 + 1) 2 (by have := HVX.out.size; omega)).trans KV.out
        refine region_steady (fun w' => (Below V.heap.size V w' ∧ w'.cell? ⟨w.heap.size + 1 + 1, 2, none⟩ = some (.slice (some ⟨kb, ko, none⟩) ops.length kc))) 23 (by rfl) (by kernel_rfl) (by kernel_rfl) (by kernel_rfl) ⟨below_draws _ _ 1, HS.out _ (below_draws _ _ 1)⟩ ?_
        refine steps_take (i := 0) (v := ?_) rfl (Or.inl ⟨by rfl, ?_⟩) ?_
        rotate_left
        · intro w hSw
          try dsimp only at hSw
          go_simp
          try with_reducible rfl
        try simp only [Act.put, List.setIfInBounds_toArray, List.set_cons_zero, List.set_cons_succ]
        refine steps_take (i := 1) (v := ?_) rfl (Or.inl ⟨by rfl, ?_⟩) ?_
        rotate_left
        · intro w hSw
          try dsimp only at hSw
          go_simp
          try with_reducible rfl
        try simp only [Act.put, List.setIfInBounds_toArray, List.set_cons_zero, List.set_cons_succ]
        refine steps_take (i := 2) (v := ?_) rfl (Or.inl ⟨by rfl, ?_⟩) ?_
        rotate_left
        · intro w hSw
          try dsimp only at hSw
          go_simp
          try with_reducible rfl
        try simp only [Act.put, List.setIfInBounds_toArray, List.set_cons_zero, List.set_cons_succ]
        refine steps_take (i := 3) (v := ?_) rfl (Or.inl ⟨by rfl, ?_⟩) ?_
        rotate_left
        · intro w hSw
          try dsimp only at hSw
          go_simp
          try with_reducible rfl
        try simp only [Act.put, List.setIfInBounds_toArray, List.set_cons_zero, List.set_cons_succ]
        refine steps_take (i := 4) (v := ?_) rfl (Or.inl ⟨by rfl, ?_⟩) ?_
        rotate_left
        · intro w hSw
          try dsimp only at hSw
          go_simp
          try with_reducible rfl
        try simp only [Act.put, List.setIfInBounds_toArray, List.set_cons_zero, List.set_cons_succ]
        refine steps_call (i := 5) (.bool false) rfl (by rfl) (fun w hSw K hK => ?_) ?_
        · go_simp
          refine (HWI.out _).mono ?_
          rintro e y ⟨rfl, rfl⟩
          exact hK.out _ _ (by simp only [Act.put, List.setIfInBounds_toArray, List.set_cons_zero, List.set_cons_succ]) hSw
        try simp only [Act.put, List.setIfInBounds_toArray, List.set_cons_zero, List.set_cons_succ]
        refine steps_take (i := 6) (v := ?_) rfl (Or.inl ⟨by rfl, ?_⟩) ?_
        rotate_left
        · intro w hSw
          try dsimp only at hSw
          go_simp
          try with_reducible rfl
        try simp only [Act.put, List.setIfInBounds_toArray, List.set_cons_zero, List.set_cons_succ]
        refine steps_take (i := 7) (v := ?_) rfl (Or.inl ⟨by rfl, ?_⟩) ?_
        rotate_left
        · intro w hSw
          try dsimp only at hSw
          go_simp
          try with_reducible rfl
        try simp only [Act.put, List.setIfInBounds_toArray, List.set_cons_zero, List.set_cons_succ]
        refine steps_take (i := 8) (v := undef) rfl (Or.inr ⟨by rfl, rfl⟩) ?_
        try simp only [Act.put, List.setIfInBounds_toArray, List.set_cons_zero, List.set_cons_succ]
        refine steps_take (i := 9) (v := undef) rfl (Or.inr ⟨by rfl, rfl⟩) ?_
        try simp only [Act.put, List.setIfInBounds_toArray, List.set_cons_zero, List.set_cons_succ]
        refine steps_take (i := 10) (v := undef) rfl (Or.inr ⟨by rfl, rfl⟩) ?_
        try simp only [Act.put, List.setIfInBounds_toArray, List.set_cons_zero, List.set_cons_succ]
        refine steps_take (i := 11) (v := undef) rfl (Or.inr ⟨by rfl, rfl⟩) ?_
        try simp only [Act.put, List.setIfInBounds_toArray, List.set_cons_zero, List.set_cons_succ]
        refine steps_take (i := 12) (v := ?_) rfl (Or.inl ⟨by rfl, ?_⟩) ?_
        rotate_left
        · intro w hSw
          try dsimp only at hSw
          go_simp
          try with_reducible rfl
        try simp only [Act.put, List.setIfInBounds_toArray, List.set_cons_zero, List.set_cons_succ]
        refine steps_take (i := 13) (v := ?_) rfl (Or.inl ⟨by rfl, ?_⟩) ?_
        rotate_left
        · intro w hSw
          try dsimp only at hSw
          go_simp
          try with_reducible rfl
        try simp only [Act.put, List.setIfInBounds_toArray, List.set_cons_zero, List.set_cons_succ]
        refine steps_take (i := 14) (v := undef) rfl (Or.inr ⟨by rfl, rfl⟩) ?_
        try simp only [Act.put, List.setIfInBounds_toArray, List.set_cons_zero, List.set_cons_succ]
        refine steps_take (i := 15) (v := undef) rfl (Or.inr ⟨by rfl, rfl⟩) ?_
        try simp only [Act.put, List.setIfInBounds_toArray, List.set_cons_zero, List.set_cons_succ]
        refine steps_take (i := 16) (v := undef) rfl (Or.inr ⟨by rfl, rfl⟩) ?_
        try simp only [Act.put, List.setIfInBounds_toArray, List.set_cons_zero, List.set_cons_succ]
        refine steps_take (i := 17) (v := undef) rfl (Or.inr ⟨by rfl, rfl⟩) ?_
        try simp only [Act.put, List.setIfInBounds_toArray, List.set_cons_zero, List.set_cons_succ]
        refine steps_take (i := 18) (v := undef) rfl (Or.inr ⟨by rfl, rfl⟩) ?_
        try simp only [Act.put, List.setIfInBounds_toArray, List.set_cons_zero, List.set_cons_succ]
        refine steps_take (i := 19) (v := undef) rfl (Or.inr ⟨by rfl, rfl⟩) ?_
        try simp only [Act.put, List.setIfInBounds_toArray, List.set_cons_zero, List.set_cons_succ]
        refine steps_take (i := 20) (v := undef) rfl (Or.inr ⟨by rfl, rfl⟩) ?_
        try simp only [Act.put, List.setIfInBounds_toArray, List.set_cons_zero, List.set_cons_succ]
        refine steps_take (i := 21) (v := undef) rfl (Or.inr ⟨by rfl, rfl⟩) ?_
        try simp only [Act.put, List.setIfInBounds_toArray, List.set_cons_zero, List.set_cons_succ]
        refine steps_take (i := 22) (v := ?_) rfl (Or.inl ⟨by rfl, ?_⟩) ?_
        rotate_left
        · intro w hSw
          try dsimp only at hSw
          go_simp
          try with_reducible rfl
        try simp only [Act.put, List.setIfInBounds_toArray, List.set_cons_zero, List.set_cons_succ]
        refine steps_done (fun y hSy => ?_)
        refine NoPanic.normal ?_
        try dsimp only at hSy
        go_wp2_with fail
        go_ret
        exact ⟨ret_bool HN.out.symm, HWV.out.trans (hSy.1.mono (by have := HWV.out.size; omega))⟩
      | true =>
        rw [hin] at HWI
        have hir := inR_iff.1 hin
        obtain ⟨zn, hzn⟩ : ∃ zn : Nat, z = zn := ⟨z.toNat, by omega⟩
        subst hzn
        have hznl : zn < ops.length := by omega
        have hzi : (zn : Int) < (ops.length : Int) := by omega
        by_cases hc1 : 1 < cz + 1
        · have HN : Hid (layD L ⟨p0, p1, p2, q0, q1, q2, r⟩ ⟨pc, st, ops⟩ O = false) := HNO.out (.inl (by
            rw [HSO.out, hin, Bool.true_and]
            rw [← Bool.not_eq_true]
            intro h
            have h0 := cntO_none (O := O) (z := (zn : Int)) k (fun i hi e => by
              have h3 := allN_get h i hi
              rw [decide_eq_true e] at h3
              cases h3)
            have := HCZ.out
            omega))
          clear hin HNX HNO HSO HSS hir
          go_wp2_with fail
          clear hup hlk c0 c1 c2 c3 c4 c5 c6 c7 c8 co
          have HLV : Hid (∀ w', Below V.heap.size V w' → (Instr.lookup 124 (.map (some x2.heap.size)) (.int .i64 (zn : Int)) false).run Tryz.prog w' = .ok (.int .i64 (cz + 1)) w') := fun w' hb => by
            have h := (HMV.out.of_block (hb.block _ HMV.out.lt)).look (zn : Int) (wf_of zl zh)
            have e : cntO O (zn : Int) (k + 1) = cz + 1 := by show cntO O (zn : Int) k + _ = _; rw [HCX.out, if_pos HZX.out]
            simp only [e] at h
            exact h
          have HS : Hid (∀ w', Below V.heap.size V w' → w'.cell? ⟨w.heap.size + 1 + 1, 2, none⟩ = some (.slice (some ⟨kb, ko, none⟩) ops.length kc) ∧ (Instr.lookup 124 (.map (some x2.heap.size)) (.int .i64 (zn : Int)) false).run Tryz.prog w' = .ok (.int .i64 (cz + 1)) w') := fun w' hb => ⟨(bcell hb (w.heap.size + 1 + 1) 2 (by have := HVX.out.size; omega)).trans KV.out, (HLV.out _ hb)⟩
          refine region_steady (fun w' => (Below V.heap.size V w' ∧ w'.cell? ⟨w.heap.size + 1 + 1, 2, none⟩ = some (.slice (some ⟨kb, ko, none⟩) ops.length kc) ∧ (Instr.lookup 124 (.map (some x2.heap.size)) (.int .i64 (zn : Int)) false).run Tryz.prog w' = .ok (.int .i64 (cz + 1)) w')) 23 (by rfl) (by kernel_rfl) (by kernel_rfl) (by kernel_rfl) ⟨below_draws _ _ 1, HS.out _ (below_draws _ _ 1)⟩ ?_
          refine steps_take (i := 0) (v := ?_) rfl (Or.inl ⟨by rfl, ?_⟩) ?_
          rotate_left
          · intro w hSw
            try dsimp only at hSw
            go_simp
            try with_reducible rfl
          try simp only [Act.put, List.setIfInBounds_toArray, List.set_cons_zero, List.set_cons_succ]
          refine steps_take (i := 1) (v := ?_) rfl (Or.inl ⟨by rfl, ?_⟩) ?_
          rotate_left
          · intro w hSw
            try dsimp only at hSw
            go_simp
            try with_reducible rfl
          try simp only [Act.put, List.setIfInBounds_toArray, List.set_cons_zero, List.set_cons_succ]
          refine steps_take (i := 2) (v := ?_) rfl (Or.inl ⟨by rfl, ?_⟩) ?_
          rotate_left
          · intro w hSw
            try dsimp only at hSw
            go_simp
            try with_reducible rfl
          try simp only [Act.put, List.setIfInBounds_toArray, List.set_cons_zero, List.set_cons_succ]
          refine steps_take (i := 3) (v := ?_) rfl (Or.inl ⟨by rfl, ?_⟩) ?_
          rotate_left
          · intro w hSw
            try dsimp only at hSw
            go_simp
            try with_reducible rfl
          try simp only [Act.put, List.setIfInBounds_toArray, List.set_cons_zero, List.set_cons_succ]
          refine steps_take (i := 4) (v := ?_) rfl (Or.inl ⟨by rfl, ?_⟩) ?_
          rotate_left
          · intro w hSw
            try dsimp only at hSw
            go_simp
            try with_reducible rfl
          try simp only [Act.put, List.setIfInBounds_toArray, List.set_cons_zero, List.set_cons_succ]
          refine steps_call (i := 5) (.bool true) rfl (by rfl) (fun w hSw K hK => ?_) ?_
          · go_simp
            refine (HWI.out _).mono ?_
            rintro e y ⟨rfl, rfl⟩
            exact hK.out _ _ (by simp only [Act.put, List.setIfInBounds_toArray, List.set_cons_zero, List.set_cons_succ]) hSw
          try simp only [Act.put, List.setIfInBounds_toArray, List.set_cons_zero, List.set_cons_succ]
          refine steps_take (i := 6) (v := ?_) rfl (Or.inl ⟨by rfl, ?_⟩) ?_
          rotate_left
          · intro w hSw
            try dsimp only at hSw
            go_simp
            try with_reducible rfl
          try simp only [Act.put, List.setIfInBounds_toArray, List.set_cons_zero, List.set_cons_succ]
          refine steps_take (i := 7) (v := ?_) rfl (Or.inl ⟨by rfl, ?_⟩) ?_
          rotate_left
          · intro w hSw
            try dsimp only at hSw
            go_simp
            try with_reducible rfl
          try simp only [Act.put, List.setIfInBounds_toArray, List.set_cons_zero, List.set_cons_succ]
          refine steps_take (i := 8) (v := ?_) rfl (Or.inl ⟨by rfl, ?_⟩) ?_
          rotate_left
          · intro w hSw
            try dsimp only at hSw
            go_simp
            try with_reducible rfl
          try simp only [Act.put, List.setIfInBounds_toArray, List.set_cons_zero, List.set_cons_succ]
          refine steps_take (i := 9) (v := ?_) rfl (Or.inl ⟨by rfl, ?_⟩) ?_
          rotate_left
          · intro w hSw
            try dsimp only at hSw
            go_simp
            try with_reducible rfl
          try simp only [Act.put, List.setIfInBounds_toArray, List.set_cons_zero, List.set_cons_succ]
          refine steps_take (i := 10) (v := ?_) rfl (Or.inl ⟨by rfl, ?_⟩) ?_
          rotate_left
          · intro w hSw
            try dsimp only at hSw
            go_simp
            try with_reducible rfl
          try simp only [Act.put, List.setIfInBounds_toArray, List.set_cons_zero, List.set_cons_succ]
          refine steps_take (i := 11) (v := ?_) rfl (Or.inl ⟨by rfl, ?_⟩) ?_
          rotate_left
          · intro w hSw
            try dsimp only at hSw
            go_simp
            try with_reducible rfl
          try simp only [Act.put, List.setIfInBounds_toArray, List.set_cons_zero, List.set_cons_succ]
          refine steps_take (i := 12) (v := ?_) rfl (Or.inl ⟨by rfl, ?_⟩) ?_
          rotate_left
          · intro w hSw
            try dsimp only at hSw
            go_simp
            try with_reducible rfl
          try simp only [Act.put, List.setIfInBounds_toArray, List.set_cons_zero, List.set_cons_succ]
          refine steps_take (i := 13) (v := ?_) rfl (Or.inl ⟨by rfl, ?_⟩) ?_
          rotate_left
          · intro w hSw
            try dsimp only at hSw
            go_simp
            try with_reducible rfl
          try simp only [Act.put, List.setIfInBounds_toArray, List.set_cons_zero, List.set_cons_succ]
          refine steps_take (i := 14) (v := undef) rfl (Or.inr ⟨by rfl, rfl⟩) ?_
          try simp only [Act.put, List.setIfInBounds_toArray, List.set_cons_zero, List.set_cons_succ]
          refine steps_take (i := 15) (v := undef) rfl (Or.inr ⟨by rfl, rfl⟩) ?_
          try simp only [Act.put, List.setIfInBounds_toArray, List.set_cons_zero, List.set_cons_succ]
          refine steps_take (i := 16) (v := undef) rfl (Or.inr ⟨by rfl, rfl⟩) ?_
          try simp only [Act.put, List.setIfInBounds_toArray, List.set_cons_zero, List.set_cons_succ]
          refine steps_take (i := 17) (v := undef) rfl (Or.inr ⟨by rfl, rfl⟩) ?_
          try simp only [Act.put, List.setIfInBounds_toArray, List.set_cons_zero, List.set_cons_succ]
          refine steps_take (i := 18) (v := undef) rfl (Or.inr ⟨by rfl, rfl⟩) ?_
          try simp only [Act.put, List.setIfInBounds_toArray, List.set_cons_zero, List.set_cons_succ]
          refine steps_take (i := 19) (v := undef) rfl (Or.inr ⟨by rfl, rfl⟩) ?_
          try simp only [Act.put, List.setIfInBounds_toArray, List.set_cons_zero, List.set_cons_succ]
          refine steps_take (i := 20) (v := undef) rfl (Or.inr ⟨by rfl, rfl⟩) ?_
          try simp only [Act.put, List.setIfInBounds_toArray, List.set_cons_zero, List.set_cons_succ]
          refine steps_take (i := 21) (v := undef) rfl (Or.inr ⟨by rfl, rfl⟩) ?_
          try simp only [Act.put, List.setIfInBounds_toArray, List.set_cons_zero, List.set_cons_succ]
          refine steps_take (i := 22) (v := ?_) rfl (Or.inl ⟨by rfl, ?_⟩) ?_
          rotate_left
          · intro w hSw
            try dsimp only at hSw
            go_simp
            try with_reducible rfl
          try simp only [Act.put, List.setIfInBounds_toArray, List.set_cons_zero, List.set_cons_succ]
          refine steps_done (fun y hSy => ?_)
          refine NoPanic.normal ?_
          try dsimp only at hSy
          go_wp2_with fail
          go_ret
          exact ⟨ret_bool HN.out.symm, HWV.out.trans (hSy.1.mono (by have := HWV.out.size; omega))⟩
        · have HOK : Hid (ordOkD L O k = true) := by
            show _ = _
            rw [HSO.out, hin, Bool.true_and]
            refine allN_mk fun i hi => ?_
            show (!decide (nth O i = (zn : Int))) = true
            by_cases e : nth O i = (zn : Int)
            · have h1 := cntO_some k i hi e
              have := HCZ.out
              omega
            · rw [decide_eq_false e]; rfl
          have hopz : kb < V.heap.size := by have := HWV.out.size; omega
          obtain ⟨d0, d1, d2, d3, d4, d5, d6, d7, d8, d9⟩ := ten (fun j hj => (bcell HWV.out kb (ko + zn * 10 + j) hkb).trans (HOP.out zn hznl j hj))
          rw [show ((zn : Int)).toNat = zn from rfl] at HSS
          generalize opAt ops zn = ox at *
          obtain ⟨o0, o1, o2, o3, o4, o5, o6, o7, o8, o9⟩ := ox
          simp only at d0 d1 d2 d3 d4 d5 d6 d7 d8 d9 HSS
          have HDO := hide (fun W' => cdoes_any o0 o1 o2 o3 o4 o5 o6 o7 o8 o9 so xa xb ya yb ar sp pl nn W')
          have HNX2 := hide (HNX.out HOK.out)
          have HNO2 : Hid (sameD L ⟨pc, st, ops⟩ O k = false → layD L ⟨p0, p1, p2, q0, q1, q2, r⟩ ⟨pc, st, ops⟩ O = false) := fun h => HNO.out (.inr h)
          rw [HSS.out] at HNX2 HNO2
          clear hin HNX HNO HSO HSS hir HOK HZ HCZ
          cases hdo : doesB so ar sp pl nn o2 o6 o7 o8 o9 with
          | false =>
            rw [hdo] at HDO HNO2
            have HN := hide (HNO2.out rfl)
            clear hdo HNX2 HNO2
            go_wp2_with fail
            clear hup hlk c0 c1 c2 c3 c4 c5 c6 c7 c8 co
            have hcd : ¬ 1 < cz + 1 := by omega
            have hcd2 : decide (1 < cz + 1) = false := decide_eq_false hcd
            have HLV : Hid (∀ w', Below V.heap.size V w' → (Instr.lookup 124 (.map (some x2.heap.size)) (.int .i64 (zn : Int)) false).run Tryz.prog w' = .ok (.int .i64 (cz + 1)) w') := fun w' hb => by
              have h := (HMV.out.of_block (hb.block _ HMV.out.lt)).look (zn : Int) (wf_of zl zh)
              have e : cntO O (zn : Int) (k + 1) = cz + 1 := by show cntO O (zn : Int) k + _ = _; rw [HCX.out, if_pos HZX.out]
              simp only [e] at h
              exact h
            have HS : Hid (∀ w', Below V.heap.size V w' → w'.cell? ⟨w.heap.size + 1 + 1, 2, none⟩ = some (.slice (some ⟨kb, ko, none⟩) ops.length kc) ∧ (Instr.lookup 124 (.map (some x2.heap.size)) (.int .i64 (zn : Int)) false).run Tryz.prog w' = .ok (.int .i64 (cz + 1)) w' ∧ w'.cell? ⟨wr.heap.size, 0, none⟩ = some (.int .i64 so) ∧ w'.cell? ⟨wr.heap.size, 1, none⟩ = some (.int .i64 xa) ∧ w'.cell? ⟨wr.heap.size, 2, none⟩ = some (.int .i64 xb) ∧ w'.cell? ⟨wr.heap.size, 3, none⟩ = some (.int .i64 ya) ∧ w'.cell? ⟨wr.heap.size, 4, none⟩ = some (.int .i64 yb) ∧ w'.cell? ⟨wr.heap.size, 5, none⟩ = some (.int .i64 ar) ∧ w'.cell? ⟨wr.heap.size, 6, none⟩ = some (.int .i64 sp) ∧ w'.cell? ⟨wr.heap.size, 7, none⟩ = some (.int .i64 pl) ∧ w'.cell? ⟨wr.heap.size, 8, none⟩ = some (.int .i64 nn) ∧ w'.cell? ⟨kb, ko + zn * 10, none⟩ = some (.int .i64 o0) ∧ w'.cell? ⟨kb, ko + zn * 10 + 1, none⟩ = some (.int .i64 o1) ∧ w'.cell? ⟨kb, ko + zn * 10 + 2, none⟩ = some (.int .i64 o2) ∧ w'.cell? ⟨kb, ko + zn * 10 + 3, none⟩ = some (.int .i64 o3) ∧ w'.cell? ⟨kb, ko + zn * 10 + 4, none⟩ = some (.int .i64 o4) ∧ w'.cell? ⟨kb, ko + zn * 10 + 5, none⟩ = some (.int .i64 o5) ∧ w'.cell? ⟨kb, ko + zn * 10 + 6, none⟩ = some (.int .i64 o6) ∧ w'.cell? ⟨kb, ko + zn * 10 + 7, none⟩ = some (.int .i64 o7) ∧ w'.cell? ⟨kb, ko + zn * 10 + 8, none⟩ = some (.int .i64 o8) ∧ w'.cell? ⟨kb, ko + zn * 10 + 9, none⟩ = some (.int .i64 o9)) := fun w' hb => ⟨(bcell hb (w.heap.size + 1 + 1) 2 (by have := HVX.out.size; omega)).trans KV.out, (HLV.out _ hb), ((bcell hb wr.heap.size 0 HVZ.out).trans (by rw [cell_of_block HVB.out]; rfl)), ((bcell hb wr.heap.size 1 HVZ.out).trans (by rw [cell_of_block HVB.out]; rfl)), ((bcell hb wr.heap.size 2 HVZ.out).trans (by rw [cell_of_block HVB.out]; rfl)), ((bcell hb wr.heap.size 3 HVZ.out).trans (by rw [cell_of_block HVB.out]; rfl)), ((bcell hb wr.heap.size 4 HVZ.out).trans (by rw [cell_of_block HVB.out]; rfl)), ((bcell hb wr.heap.size 5 HVZ.out).trans (by rw [cell_of_block HVB.out]; rfl)), ((bcell hb wr.heap.size 6 HVZ.out).trans (by rw [cell_of_block HVB.out]; rfl)), ((bcell hb wr.heap.size 7 HVZ.out).trans (by rw [cell_of_block HVB.out]; rfl)), ((bcell hb wr.heap.size 8 HVZ.out).trans (by rw [cell_of_block HVB.out]; rfl)), ((bcell hb kb (ko + zn * 10) (by omega)).trans d0), ((bcell hb kb (ko + zn * 10 + 1) (by omega)).trans d1), ((bcell hb kb (ko + zn * 10 + 2) (by omega)).trans d2), ((bcell hb kb (ko + zn * 10 + 3) (by omega)).trans d3), ((bcell hb kb (ko + zn * 10 + 4) (by omega)).trans d4), ((bcell hb kb (ko + zn * 10 + 5) (by omega)).trans d5), ((bcell hb kb (ko + zn * 10 + 6) (by omega)).trans d6), ((bcell hb kb (ko + zn * 10 + 7) (by omega)).trans d7), ((bcell hb kb (ko + zn * 10 + 8) (by omega)).trans d8), ((bcell hb kb (ko + zn * 10 + 9) (by omega)).trans d9)⟩
            refine region_steady (fun w' => (Below V.heap.size V w' ∧ w'.cell? ⟨w.heap.size + 1 + 1, 2, none⟩ = some (.slice (some ⟨kb, ko, none⟩) ops.length kc) ∧ (Instr.lookup 124 (.map (some x2.heap.size)) (.int .i64 (zn : Int)) false).run Tryz.prog w' = .ok (.int .i64 (cz + 1)) w' ∧ w'.cell? ⟨wr.heap.size, 0, none⟩ = some (.int .i64 so) ∧ w'.cell? ⟨wr.heap.size, 1, none⟩ = some (.int .i64 xa) ∧ w'.cell? ⟨wr.heap.size, 2, none⟩ = some (.int .i64 xb) ∧ w'.cell? ⟨wr.heap.size, 3, none⟩ = some (.int .i64 ya) ∧ w'.cell? ⟨wr.heap.size, 4, none⟩ = some (.int .i64 yb) ∧ w'.cell? ⟨wr.heap.size, 5, none⟩ = some (.int .i64 ar) ∧ w'.cell? ⟨wr.heap.size, 6, none⟩ = some (.int .i64 sp) ∧ w'.cell? ⟨wr.heap.size, 7, none⟩ = some (.int .i64 pl) ∧ w'.cell? ⟨wr.heap.size, 8, none⟩ = some (.int .i64 nn) ∧ w'.cell? ⟨kb, ko + zn * 10, none⟩ = some (.int .i64 o0) ∧ w'.cell? ⟨kb, ko + zn * 10 + 1, none⟩ = some (.int .i64 o1) ∧ w'.cell? ⟨kb, ko + zn * 10 + 2, none⟩ = some (.int .i64 o2) ∧ w'.cell? ⟨kb, ko + zn * 10 + 3, none⟩ = some (.int .i64 o3) ∧ w'.cell? ⟨kb, ko + zn * 10 + 4, none⟩ = some (.int .i64 o4) ∧ w'.cell? ⟨kb, ko + zn * 10 + 5, none⟩ = some (.int .i64 o5) ∧ w'.cell? ⟨kb, ko + zn * 10 + 6, none⟩ = some (.int .i64 o6) ∧ w'.cell? ⟨kb, ko + zn * 10 + 7, none⟩ = some (.int .i64 o7) ∧ w'.cell? ⟨kb, ko + zn * 10 + 8, none⟩ = some (.int .i64 o8) ∧ w'.cell? ⟨kb, ko + zn * 10 + 9, none⟩ = some (.int .i64 o9))) 23 (by rfl) (by kernel_rfl) (by kernel_rfl) (by kernel_rfl) ⟨below_draws _ _ 1, HS.out _ (below_draws _ _ 1)⟩ ?_
            refine steps_take (i := 0) (v := ?_) rfl (Or.inl ⟨by rfl, ?_⟩) ?_
            rotate_left
            · intro w hSw
              try dsimp only at hSw
              go_simp
              try with_reducible rfl
            try simp only [Act.put, List.setIfInBounds_toArray, List.set_cons_zero, List.set_cons_succ]
            refine steps_take (i := 1) (v := ?_) rfl (Or.inl ⟨by rfl, ?_⟩) ?_
            rotate_left
            · intro w hSw
              try dsimp only at hSw
              go_simp
              try with_reducible rfl
            try simp only [Act.put, List.setIfInBounds_toArray, List.set_cons_zero, List.set_cons_succ]
            refine steps_take (i := 2) (v := ?_) rfl (Or.inl ⟨by rfl, ?_⟩) ?_
            rotate_left
            · intro w hSw
              try dsimp only at hSw
              go_simp
              try with_reducible rfl
            try simp only [Act.put, List.setIfInBounds_toArray, List.set_cons_zero, List.set_cons_succ]
            refine steps_take (i := 3) (v := ?_) rfl (Or.inl ⟨by rfl, ?_⟩) ?_
            rotate_left
            · intro w hSw
              try dsimp only at hSw
              go_simp
              try with_reducible rfl
            try simp only [Act.put, List.setIfInBounds_toArray, List.set_cons_zero, List.set_cons_succ]
            refine steps_take (i := 4) (v := ?_) rfl (Or.inl ⟨by rfl, ?_⟩) ?_
            rotate_left
            · intro w hSw
              try dsimp only at hSw
              go_simp
              try with_reducible rfl
            try simp only [Act.put, List.setIfInBounds_toArray, List.set_cons_zero, List.set_cons_succ]
            refine steps_call (i := 5) (.bool true) rfl (by rfl) (fun w hSw K hK => ?_) ?_
            · go_simp
              refine (HWI.out _).mono ?_
              rintro e y ⟨rfl, rfl⟩
              exact hK.out _ _ (by simp only [Act.put, List.setIfInBounds_toArray, List.set_cons_zero, List.set_cons_succ]) hSw
            try simp only [Act.put, List.setIfInBounds_toArray, List.set_cons_zero, List.set_cons_succ]
            refine steps_take (i := 6) (v := ?_) rfl (Or.inl ⟨by rfl, ?_⟩) ?_
            rotate_left
            · intro w hSw
              try dsimp only at hSw
              go_simp
              try with_reducible rfl
            try simp only [Act.put, List.setIfInBounds_toArray, List.set_cons_zero, List.set_cons_succ]
            refine steps_take (i := 7) (v := ?_) rfl (Or.inl ⟨by rfl, ?_⟩) ?_
            rotate_left
            · intro w hSw
              try dsimp only at hSw
              go_simp
              try with_reducible rfl
            try simp only [Act.put, List.setIfInBounds_toArray, List.set_cons_zero, List.set_cons_succ]
            refine steps_take (i := 8) (v := ?_) rfl (Or.inl ⟨by rfl, ?_⟩) ?_
            rotate_left
            · intro w hSw
              try dsimp only at hSw
              go_simp
              try with_reducible rfl
            try simp only [Act.put, List.setIfInBounds_toArray, List.set_cons_zero, List.set_cons_succ]
            refine steps_take (i := 9) (v := ?_) rfl (Or.inl ⟨by rfl, ?_⟩) ?_
            rotate_left
            · intro w hSw
              try dsimp only at hSw
              go_simp
              try with_reducible rfl
            try simp only [Act.put, List.setIfInBounds_toArray, List.set_cons_zero, List.set_cons_succ]
            refine steps_take (i := 10) (v := ?_) rfl (Or.inl ⟨by rfl, ?_⟩) ?_
            rotate_left
            · intro w hSw
              try dsimp only at hSw
              go_simp
              try with_reducible rfl
            try simp only [Act.put, List.setIfInBounds_toArray, List.set_cons_zero, List.set_cons_succ]
            refine steps_take (i := 11) (v := ?_) rfl (Or.inl ⟨by rfl, ?_⟩) ?_
            rotate_left
            · intro w hSw
              try dsimp only at hSw
              go_simp
              try with_reducible rfl
            try simp only [Act.put, List.setIfInBounds_toArray, List.set_cons_zero, List.set_cons_succ]
            refine steps_take (i := 12) (v := ?_) rfl (Or.inl ⟨by rfl, ?_⟩) ?_
            rotate_left
            · intro w hSw
              try dsimp only at hSw
              go_simp
              try with_reducible rfl
            try simp only [Act.put, List.setIfInBounds_toArray, List.set_cons_zero, List.set_cons_succ]
            refine steps_take (i := 13) (v := ?_) rfl (Or.inl ⟨by rfl, ?_⟩) ?_
            rotate_left
            · intro w hSw
              try dsimp only at hSw
              go_simp
              try with_reducible rfl
            try simp only [Act.put, List.setIfInBounds_toArray, List.set_cons_zero, List.set_cons_succ]
            refine steps_take (i := 14) (v := ?_) rfl (Or.inl ⟨by rfl, ?_⟩) ?_
            rotate_left
            · intro w hSw
              try dsimp only at hSw
              go_simp
              try with_reducible rfl
            try simp only [Act.put, List.setIfInBounds_toArray, List.set_cons_zero, List.set_cons_succ]
            refine steps_take (i := 15) (v := ?_) rfl (Or.inl ⟨by rfl, ?_⟩) ?_
            rotate_left
            · intro w hSw
              try dsimp only at hSw
              go_simp
              try with_reducible rfl
            try simp only [Act.put, List.setIfInBounds_toArray, List.set_cons_zero, List.set_cons_succ]
            refine steps_take (i := 16) (v := ?_) rfl (Or.inl ⟨by rfl, ?_⟩) ?_
            rotate_left
            · intro w hSw
              try dsimp only at hSw
              go_simp
              try with_reducible rfl
            try simp only [Act.put, List.setIfInBounds_toArray, List.set_cons_zero, List.set_cons_succ]
            refine steps_take (i := 17) (v := ?_) rfl (Or.inl ⟨by rfl, ?_⟩) ?_
            rotate_left
            · intro w hSw
              try dsimp only at hSw
              go_simp
              try with_reducible rfl
            try simp only [Act.put, List.setIfInBounds_toArray, List.set_cons_zero, List.set_cons_succ]
            refine steps_take (i := 18) (v := ?_) rfl (Or.inl ⟨by rfl, ?_⟩) ?_
            rotate_left
            · intro w hSw
              try dsimp only at hSw
              go_simp
              try with_reducible rfl
            try simp only [Act.put, List.setIfInBounds_toArray, List.set_cons_zero, List.set_cons_succ]
            refine steps_take (i := 19) (v := ?_) rfl (Or.inl ⟨by rfl, ?_⟩) ?_
            rotate_left
            · intro w hSw
              try dsimp only at hSw
              go_simp
              try with_reducible rfl
            try simp only [Act.put, List.setIfInBounds_toArray, List.set_cons_zero, List.set_cons_succ]
            refine steps_call (i := 20) (.bool false) rfl (by rfl) (fun w hSw K hK => ?_) ?_
            · go_simp
              refine (HDO.out _).mono ?_
              rintro e y ⟨rfl, hy⟩
              have hb2 := hSw.1.trans (hy.mono hSw.1.size)
              exact hK.out _ _ (by simp only [Act.put, List.setIfInBounds_toArray, List.set_cons_zero, List.set_cons_succ]) ⟨hb2, HS.out _ hb2⟩
            try simp only [Act.put, List.setIfInBounds_toArray, List.set_cons_zero, List.set_cons_succ]
            refine steps_take (i := 21) (v := ?_) rfl (Or.inl ⟨by rfl, ?_⟩) ?_
            rotate_left
            · intro w hSw
              try dsimp only at hSw
              go_simp
              try with_reducible rfl
            try simp only [Act.put, List.setIfInBounds_toArray, List.set_cons_zero, List.set_cons_succ]
            refine steps_take (i := 22) (v := ?_) rfl (Or.inl ⟨by rfl, ?_⟩) ?_
            rotate_left
            · intro w hSw
              try dsimp only at hSw
              go_simp
              try with_reducible rfl
            try simp only [Act.put, List.setIfInBounds_toArray, List.set_cons_zero, List.set_cons_succ]
            refine steps_done (fun y hSy => ?_)
            refine NoPanic.normal ?_
            try dsimp only at hSy
            go_wp2_with fail
            go_ret
            exact ⟨ret_bool HN.out.symm, HWV.out.trans (hSy.1.mono (by have := HWV.out.size; omega))⟩
          | true =>
            rw [hdo] at HDO HNX2
            have HN := hide (HNX2.out rfl)
            clear hdo HNX2 HNO2
            go_wp2_with fail
            clear hup hlk c0 c1 c2 c3 c4 c5 c6 c7 c8 co
            have hcd : ¬ 1 < cz + 1 := by omega
            have hcd2 : decide (1 < cz + 1) = false := decide_eq_false hcd
            have HLV : Hid (∀ w', Below V.heap.size V w' → (Instr.lookup 124 (.map (some x2.heap.size)) (.int .i64 (zn : Int)) false).run Tryz.prog w' = .ok (.int .i64 (cz + 1)) w') := fun w' hb => by
              have h := (HMV.out.of_block (hb.block _ HMV.out.lt)).look (zn : Int) (wf_of zl zh)
              have e : cntO O (zn : Int) (k + 1) = cz + 1 := by show cntO O (zn : Int) k + _ = _; rw [HCX.out, if_pos HZX.out]
              simp only [e] at h
              exact h
            have HS : Hid (∀ w', Below V.heap.size V w' → w'.cell? ⟨w.heap.size + 1 + 1, 2, none⟩ = some (.slice (some ⟨kb, ko, none⟩) ops.length kc) ∧ (Instr.lookup 124 (.map (some x2.heap.size)) (.int .i64 (zn : Int)) false).run Tryz.prog w' = .ok (.int .i64 (cz + 1)) w' ∧ w'.cell? ⟨wr.heap.size, 0, none⟩ = some (.int .i64 so) ∧ w'.cell? ⟨wr.heap.size, 1, none⟩ = some (.int .i64 xa) ∧ w'.cell? ⟨wr.heap.size, 2, none⟩ = some (.int .i64 xb) ∧ w'.cell? ⟨wr.heap.size, 3, none⟩ = some (.int .i64 ya) ∧ w'.cell? ⟨wr.heap.size, 4, none⟩ = some (.int .i64 yb) ∧ w'.cell? ⟨wr.heap.size, 5, none⟩ = some (.int .i64 ar) ∧ w'.cell? ⟨wr.heap.size, 6, none⟩ = some (.int .i64 sp) ∧ w'.cell? ⟨wr.heap.size, 7, none⟩ = some (.int .i64 pl) ∧ w'.cell? ⟨wr.heap.size, 8, none⟩ = some (.int .i64 nn) ∧ w'.cell? ⟨kb, ko + zn * 10, none⟩ = some (.int .i64 o0) ∧ w'.cell? ⟨kb, ko + zn * 10 + 1, none⟩ = some (.int .i64 o1) ∧ w'.cell? ⟨kb, ko + zn * 10 + 2, none⟩ = some (.int .i64 o2) ∧ w'.cell? ⟨kb, ko + zn * 10 + 3, none⟩ = some (.int .i64 o3) ∧ w'.cell? ⟨kb, ko + zn * 10 + 4, none⟩ = some (.int .i64 o4) ∧ w'.cell? ⟨kb, ko + zn * 10 + 5, none⟩ = some (.int .i64 o5) ∧ w'.cell? ⟨kb, ko + zn * 10 + 6, none⟩ = some (.int .i64 o6) ∧ w'.cell? ⟨kb, ko + zn * 10 + 7, none⟩ = some (.int .i64 o7) ∧ w'.cell? ⟨kb, ko + zn * 10 + 8, none⟩ = some (.int .i64 o8) ∧ w'.cell? ⟨kb, ko + zn * 10 + 9, none⟩ = some (.int .i64 o9)) := fun w' hb => ⟨(bcell hb (w.heap.size + 1 + 1) 2 (by have := HVX.out.size; omega)).trans KV.out, (HLV.out _ hb), ((bcell hb wr.heap.size 0 HVZ.out).trans (by rw [cell_of_block HVB.out]; rfl)), ((bcell hb wr.heap.size 1 HVZ.out).trans (by rw [cell_of_block HVB.out]; rfl)), ((bcell hb wr.heap.size 2 HVZ.out).trans (by rw [cell_of_block HVB.out]; rfl)), ((bcell hb wr.heap.size 3 HVZ.out).trans (by rw [cell_of_block HVB.out]; rfl)), ((bcell hb wr.heap.size 4 HVZ.out).trans (by rw [cell_of_block HVB.out]; rfl)), ((bcell hb wr.heap.size 5 HVZ.out).trans (by rw [cell_of_block HVB.out]; rfl)), ((bcell hb wr.heap.size 6 HVZ.out).trans (by rw [cell_of_block HVB.out]; rfl)), ((bcell hb wr.heap.size 7 HVZ.out).trans (by rw [cell_of_block HVB.out]; rfl)), ((bcell hb wr.heap.size 8 HVZ.out).trans (by rw [cell_of_block HVB.out]; rfl)), ((bcell hb kb (ko + zn * 10) (by omega)).trans d0), ((bcell hb kb (ko + zn * 10 + 1) (by omega)).trans d1), ((bcell hb kb (ko + zn * 10 + 2) (by omega)).trans d2), ((bcell hb kb (ko + zn * 10 + 3) (by omega)).trans d3), ((bcell hb kb (ko + zn * 10 + 4) (by omega)).trans d4), ((bcell hb kb (ko + zn * 10 + 5) (by omega)).trans d5), ((bcell hb kb (ko + zn * 10 + 6) (by omega)).trans d6), ((bcell hb kb (ko + zn * 10 + 7) (by omega)).trans d7), ((bcell hb kb (ko + zn * 10 + 8) (by omega)).trans d8), ((bcell hb kb (ko + zn * 10 + 9) (by omega)).trans d9)⟩
            refine region_steady (fun w' => (Below V.heap.size V w' ∧ w'.cell? ⟨w.heap.size + 1 + 1, 2, none⟩ = some (.slice (some ⟨kb, ko, none⟩) ops.length kc) ∧ (Instr.lookup 124 (.map (some x2.heap.size)) (.int .i64 (zn : Int)) false).run Tryz.prog w' = .ok (.int .i64 (cz + 1)) w' ∧ w'.cell? ⟨wr.heap.size, 0, none⟩ = some (.int .i64 so) ∧ w'.cell? ⟨wr.heap.size, 1, none⟩ = some (.int .i64 xa) ∧ w'.cell? ⟨wr.heap.size, 2, none⟩ = some (.int .i64 xb) ∧ w'.cell? ⟨wr.heap.size, 3, none⟩ = some (.int .i64 ya) ∧ w'.cell? ⟨wr.heap.size, 4, none⟩ = some (.int .i64 yb) ∧ w'.cell? ⟨wr.heap.size, 5, none⟩ = some (.int .i64 ar) ∧ w'.cell? ⟨wr.heap.size, 6, none⟩ = some (.int .i64 sp) ∧ w'.cell? ⟨wr.heap.size, 7, none⟩ = some (.int .i64 pl) ∧ w'.cell? ⟨wr.heap.size, 8, none⟩ = some (.int .i64 nn) ∧ w'.cell? ⟨kb, ko + zn * 10, none⟩ = some (.int .i64 o0) ∧ w'.cell? ⟨kb, ko + zn * 10 + 1, none⟩ = some (.int .i64 o1) ∧ w'.cell? ⟨kb, ko + zn * 10 + 2, none⟩ = some (.int .i64 o2) ∧ w'.cell? ⟨kb, ko + zn * 10 + 3, none⟩ = some (.int .i64 o3) ∧ w'.cell? ⟨kb, ko + zn * 10 + 4, none⟩ = some (.int .i64 o4) ∧ w'.cell? ⟨kb, ko + zn * 10 + 5, none⟩ = some (.int .i64 o5) ∧ w'.cell? ⟨kb, ko + zn * 10 + 6, none⟩ = some (.int .i64 o6) ∧ w'.cell? ⟨kb, ko + zn * 10 + 7, none⟩ = some (.int .i64 o7) ∧ w'.cell? ⟨kb, ko + zn * 10 + 8, none⟩ = some (.int .i64 o8) ∧ w'.cell? ⟨kb, ko + zn * 10 + 9, none⟩ = some (.int .i64 o9))) 23 (by rfl) (by kernel_rfl) (by kernel_rfl) (by kernel_rfl) ⟨below_draws _ _ 1, HS.out _ (below_draws _ _ 1)⟩ ?_
            refine steps_take (i := 0) (v := ?_) rfl (Or.inl ⟨by rfl, ?_⟩) ?_
            rotate_left
            · intro w hSw
              try dsimp only at hSw
              go_simp
              try with_reducible rfl
            try simp only [Act.put, List.setIfInBounds_toArray, List.set_cons_zero, List.set_cons_succ]
            refine steps_take (i := 1) (v := ?_) rfl (Or.inl ⟨by rfl, ?_⟩) ?_
            rotate_left
            · intro w hSw
              try dsimp only at hSw
              go_simp
              try with_reducible rfl
            try simp only [Act.put, List.setIfInBounds_toArray, List.set_cons_zero, List.set_cons_succ]
            refine steps_take (i := 2) (v := ?_) rfl (Or.inl ⟨by rfl, ?_⟩) ?_
            rotate_left
            · intro w hSw
              try dsimp only at hSw
              go_simp
              try with_reducible rfl
            try simp only [Act.put, List.setIfInBounds_toArray, List.set_cons_zero, List.set_cons_succ]
            refine steps_take (i := 3) (v := ?_) rfl (Or.inl ⟨by rfl, ?_⟩) ?_
            rotate_left
            · intro w hSw
              try dsimp only at hSw
              go_simp
              try with_reducible rfl
            try simp only [Act.put, List.setIfInBounds_toArray, List.set_cons_zero, List.set_cons_succ]
            refine steps_take (i := 4) (v := ?_) rfl (Or.inl ⟨by rfl, ?_⟩) ?_
            rotate_left
            · intro w hSw
              try dsimp only at hSw
              go_simp
              try with_reducible rfl
            try simp only [Act.put, List.setIfInBounds_toArray, List.set_cons_zero, List.set_cons_succ]
            refine steps_call (i := 5) (.bool true) rfl (by rfl) (fun w hSw K hK => ?_) ?_
            · go_simp
              refine (HWI.out _).mono ?_
              rintro e y ⟨rfl, rfl⟩
              exact hK.out _ _ (by simp only [Act.put, List.setIfInBounds_toArray, List.set_cons_zero, List.set_cons_succ]) hSw
            try simp only [Act.put, List.setIfInBounds_toArray, List.set_cons_zero, List.set_cons_succ]
            refine steps_take (i := 6) (v := ?_) rfl (Or.inl ⟨by rfl, ?_⟩) ?_
            rotate_left
            · intro w hSw
              try dsimp only at hSw
              go_simp
              try with_reducible rfl
            try simp only [Act.put, List.setIfInBounds_toArray, List.set_cons_zero, List.set_cons_succ]
            refine steps_take (i := 7) (v := ?_) rfl (Or.inl ⟨by rfl, ?_⟩) ?_
            rotate_left
            · intro w hSw
              try dsimp only at hSw
              go_simp
              try with_reducible rfl
            try simp only [Act.put, List.setIfInBounds_toArray, List.set_cons_zero, List.set_cons_succ]
            refine steps_take (i := 8) (v := ?_) rfl (Or.inl ⟨by rfl, ?_⟩) ?_
            rotate_left
            · intro w hSw
              try dsimp only at hSw
              go_simp
              try with_reducible rfl
            try simp only [Act.put, List.setIfInBounds_toArray, List.set_cons_zero, List.set_cons_succ]
            refine steps_take (i := 9) (v := ?_) rfl (Or.inl ⟨by rfl, ?_⟩) ?_
            rotate_left
            · intro w hSw
              try dsimp only at hSw
              go_simp
              try with_reducible rfl
            try simp only [Act.put, List.setIfInBounds_toArray, List.set_cons_zero, List.set_cons_succ]
            refine steps_take (i := 10) (v := ?_) rfl (Or.inl ⟨by rfl, ?_⟩) ?_
            rotate_left
            · intro w hSw
              try dsimp only at hSw
              go_simp
              try with_reducible rfl
            try simp only [Act.put, List.setIfInBounds_toArray, List.set_cons_zero, List.set_cons_succ]
            refine steps_take (i := 11) (v := ?_) rfl (Or.inl ⟨by rfl, ?_⟩) ?_
            rotate_left
            · intro w hSw
              try dsimp only at hSw
              go_simp
              try with_reducible rfl
            try simp only [Act.put, List.setIfInBounds_toArray, List.set_cons_zero, List.set_cons_succ]
            refine steps_take (i := 12) (v := ?_) rfl (Or.inl ⟨by rfl, ?_⟩) ?_
            rotate_left
            · intro w hSw
              try dsimp only at hSw
              go_simp
              try with_reducible rfl
            try simp only [Act.put, List.setIfInBounds_toArray, List.set_cons_zero, List.set_cons_succ]
            refine steps_take (i := 13) (v := ?_) rfl (Or.inl ⟨by rfl, ?_⟩) ?_
            rotate_left
            · intro w hSw
              try dsimp only at hSw
              go_simp
              try with_reducible rfl
            try simp only [Act.put, List.setIfInBounds_toArray, List.set_cons_zero, List.set_cons_succ]
            refine steps_take (i := 14) (v := ?_) rfl (Or.inl ⟨by rfl, ?_⟩) ?_
            rotate_left
            · intro w hSw
              try dsimp only at hSw
              go_simp
              try with_reducible rfl
            try simp only [Act.put, List.setIfInBounds_toArray, List.set_cons_zero, List.set_cons_succ]
            refine steps_take (i := 15) (v := ?_) rfl (Or.inl ⟨by rfl, ?_⟩) ?_
            rotate_left
            · intro w hSw
              try dsimp only at hSw
              go_simp
              try with_reducible rfl
            try simp only [Act.put, List.setIfInBounds_toArray, List.set_cons_zero, List.set_cons_succ]
            refine steps_take (i := 16) (v := ?_) rfl (Or.inl ⟨by rfl, ?_⟩) ?_
            rotate_left
            · intro w hSw
              try dsimp only at hSw
              go_simp
              try with_reducible rfl
            try simp only [Act.put, List.setIfInBounds_toArray, List.set_cons_zero, List.set_cons_succ]
            refine steps_take (i := 17) (v := ?_) rfl (Or.inl ⟨by rfl, ?_⟩) ?_
            rotate_left
            · intro w hSw
              try dsimp only at hSw
              go_simp
              try with_reducible rfl
            try simp only [Act.put, List.setIfInBounds_toArray, List.set_cons_zero, List.set_cons_succ]
            refine steps_take (i := 18) (v := ?_) rfl (Or.inl ⟨by rfl, ?_⟩) ?_
            rotate_left
            · intro w hSw
              try dsimp only at hSw
              go_simp
              try with_reducible rfl
            try simp only [Act.put, List.setIfInBounds_toArray, List.set_cons_zero, List.set_cons_succ]
            refine steps_take (i := 19) (v := ?_) rfl (Or.inl ⟨by rfl, ?_⟩) ?_
            rotate_left
            · intro w hSw
              try dsimp only at hSw
              go_simp
              try with_reducible rfl
            try simp only [Act.put, List.setIfInBounds_toArray, List.set_cons_zero, List.set_cons_succ]
            refine steps_call (i := 20) (.bool true) rfl (by rfl) (fun w hSw K hK => ?_) ?_
            · go_simp
              refine (HDO.out _).mono ?_
              rintro e y ⟨rfl, hy⟩
              have hb2 := hSw.1.trans (hy.mono hSw.1.size)
              exact hK.out _ _ (by simp only [Act.put, List.setIfInBounds_toArray, List.set_cons_zero, List.set_cons_succ]) ⟨hb2, HS.out _ hb2⟩
            try simp only [Act.put, List.setIfInBounds_toArray, List.set_cons_zero, List.set_cons_succ]
            refine steps_take (i := 21) (v := ?_) rfl (Or.inl ⟨by rfl, ?_⟩) ?_
            rotate_left
            · intro w hSw
              try dsimp only at hSw
              go_simp
              try with_reducible rfl
            try simp only [Act.put, List.setIfInBounds_toArray, List.set_cons_zero, List.set_cons_succ]
            refine steps_take (i := 22) (v := ?_) rfl (Or.inl ⟨by rfl, ?_⟩) ?_
            rotate_left
            · intro w hSw
              try dsimp only at hSw
              go_simp
              try with_reducible rfl
            try simp only [Act.put, List.setIfInBounds_toArray, List.set_cons_zero, List.set_cons_succ]
            refine steps_done (fun y hSy => ?_)
            refine NoPanic.normal ?_
            try dsimp only at hSy
            go_wp2_with fail
            go_roundw
            case rel => exact ⟨k + 1, by omega, by go_num, HN.out, HVX.out.trans (hSy.1.mono (by have := HVX.out.size; omega)), HMV.out.of_block (hSy.1.block _ HMV.out.lt)⟩
            case measure => simp [intOf]; omega
    · have e : k = L.body.length := by omega
      subst e
      have hki : ¬ (L.body.length : Int) < (L.body.length : Int) := by omega
      have HN : Hid (layD L ⟨p0, p1, p2, q0, q1, q2, r⟩ ⟨pc, st, ops⟩ O = true) := by show _ = _; rw [HD.out, HA.out]
      clear hbel
      go_wp2_with fail
      go_ret
      exact ⟨ret_bool HN.out.symm, HWR.out⟩
end Go.Proofs.YtbpaffkkphacdabGreat
/- A layout under way in memory: its block, its four rows, no two of which lie in one block; what appends, stores and new memory leave of it; no walk. -/
namespace Go.Proofs.YtbpaffkkphacdabGreat
open Go.RowKit Go.Joins
set_option linter.unusedVariables false

theorem own_kept {x w1 : World} {base : Nat} {e : TypeId} {sz n : Nat} {v : Value} {xs : List Value} {row : Option Nat} (h : x.ownsRow base e sz v n xs) (hg : x.grownBy w1 row) (hne : ∀ g, v.ownBlock = some g → row ≠ some g) : w1.ownsRow base e sz v n xs := by
  obtain ⟨hl, h⟩ := h
  refine ⟨hl, ?_⟩
  rcases h with h | ⟨g, cap, cur, hv, hb, hk, r⟩
  · exact .inl h
  · refine .inr ⟨g, cap, cur, hv, hb, ?_, r⟩
    rw [hg.block g (Array.getElem?_eq_some_iff.1 hk).1 (fun e => hne g (by rw [hv]; rfl) e.symm)]
    exact hk
theorem own_set {x : World} {base y : Nat} {e : TypeId} {sz n : Nat} {v u : Value} {xs : List Value} {o : Nat} (h : x.ownsRow base e sz v n xs) (hy : y < base) : (x.setCell ⟨y, o, none⟩ u).ownsRow base e sz v n xs := by
  obtain ⟨hl, h⟩ := h
  refine ⟨hl, ?_⟩
  rcases h with h | ⟨g, cap, cur, hv, hb, hk, r⟩
  · exact .inl h
  · exact .inr ⟨g, cap, cur, hv, hb, by rw [Below.heap_setCell _ _ _ _ (show g ≠ y by omega)]; exact hk, r⟩
/-- no block of one is a block of the other -/
def apV (u v : Value) : Prop := ∀ g, u.ownBlock = some g → v.ownBlock ≠ some g
theorem apV.symm {u v : Value} (h : apV u v) : apV v u := fun g h1 h2 => h g h2 h1
def flatRd (l : List Rd) : List Value := l.flatMap fun x => (rdCells x).toList
theorem flatRd_snoc (l : List Rd) (x : Rd) : flatRd (l ++ [x]) = flatRd l ++ (rdCells x).toList := by unfold flatRd; rw [List.flatMap_append]; simp
theorem flatRd_len (l : List Rd) : (flatRd l).length = l.length * 5 := by
  induction l with
  | nil => rfl
  | cons x l ih =>
    show ((rdCells x).toList ++ flatRd l).length = _
    rw [List.length_append, ih, List.length_cons]
    show 5 + _ = _
    omega
def cellsI (l : List Int) : List Value := l.map (Value.int .i64)
theorem cellsI_snoc (l : List Int) (z : Int) : cellsI (l ++ [z]) = cellsI l ++ [.int .i64 z] := by unfold cellsI; rw [List.map_append]; rfl
/-- a layout under way -/
structure LyM (x3 : World) (y : Nat) (l0 l1 l2 : Value) (pc r : Int) (tv rv pv dv : Value) (nt nr np nd : Nat) (tl rl pl : List Int) (dl : List Rd) (wr : World) : Prop where
  bel : Below y x3 wr
  blk : wr.heap[y]? = some (.cells #[l0, l1, l2, .int .i64 pc, .int .i64 r, tv, rv, pv, dv, .map none] 87 (0, 0))
  ot : wr.ownsRow (y + 1) 3 1 tv nt (cellsI tl)
  or : wr.ownsRow (y + 1) 3 1 rv nr (cellsI rl)
  op : wr.ownsRow (y + 1) 3 1 pv np (cellsI pl)
  od : wr.ownsRow (y + 1) 129 5 dv nd (flatRd dl)
  atr : apV tv rv
  atp : apV tv pv
  arp : apV rv pv
  atd : apV tv dv
  ard : apV rv dv
  apd : apV pv dv
variable {x3 wr wr' : World} {y : Nat} {l0 l1 l2 : Value} {pc r : Int} {tv rv pv dv : Value} {nt nr np nd : Nat} {tl rl pl : List Int} {dl : List Rd}
theorem LyM.lt (h : LyM x3 y l0 l1 l2 pc r tv rv pv dv nt nr np nd tl rl pl dl wr) : y < wr.heap.size := (Array.getElem?_eq_some_iff.1 h.blk).1
theorem LyM.below (h : LyM x3 y l0 l1 l2 pc r tv rv pv dv nt nr np nd tl rl pl dl wr) (hb : Below wr.heap.size wr wr') : LyM x3 y l0 l1 l2 pc r tv rv pv dv nt nr np nd tl rl pl dl wr' :=
  ⟨h.bel.trans (hb.mono (Nat.le_of_lt h.lt)), (hb.block _ h.lt).trans h.blk, own_below h.ot hb, own_below h.or hb, own_below h.op hb, own_below h.od hb, h.atr, h.atp, h.arp, h.atd, h.ard, h.apd⟩
theorem LyM.cells (h : LyM x3 y l0 l1 l2 pc r tv rv pv dv nt nr np nd tl rl pl dl wr) : wr.cell? ⟨y, 0, none⟩ = some l0 ∧ wr.cell? ⟨y, 1, none⟩ = some l1 ∧ wr.cell? ⟨y, 2, none⟩ = some l2 ∧ wr.cell? ⟨y, 3, none⟩ = some (.int .i64 pc) ∧ wr.cell? ⟨y, 4, none⟩ = some (.int .i64 r) ∧ wr.cell? ⟨y, 5, none⟩ = some tv ∧ wr.cell? ⟨y, 6, none⟩ = some rv ∧ wr.cell? ⟨y, 7, none⟩ = some pv ∧ wr.cell? ⟨y, 8, none⟩ = some dv := by
  have key := cell_of_block h.blk
  refine ⟨?_, ?_, ?_, ?_, ?_, ?_, ?_, ?_, ?_⟩ <;> rw [key] <;> rfl
theorem LyM.frozen (h : LyM x3 y l0 l1 l2 pc r tv rv pv dv nt nr np nd tl rl pl dl wr) (o : Nat) : wr.frozen? ⟨y, o, none⟩ = false := by simp [World.frozen?, h.blk]
/-- a row of one type grows: what lies elsewhere stays -/
theorem grown_at {x w1 : World} {base : Nat} {e e' : TypeId} {sz n b : Nat} {v : Value} {xs : List Value} {cs : Array Value} (ho : x.ownsRow base e sz v n xs) (hg : x.grownBy w1 v.ownBlock) (hb : x.heap[b]? = some (.cells cs e' (0, 0))) (he : e' ≠ e) : w1.heap[b]? = some (.cells cs e' (0, 0)) := by
  rw [hg.block b (Array.getElem?_eq_some_iff.1 hb).1 ?_]
  · exact hb
  · intro h
    obtain ⟨hl, ho⟩ := ho
    rcases ho with ⟨rfl, _⟩ | ⟨g', cap, cur, rfl, hg', hk, r⟩
    · cases h
    · have hgg : b = g' := by simpa [Value.ownBlock] using h
      subst hgg
      rw [hk] at hb
      have h1 := Option.some.inj hb
      injection h1 with _ h2
      exact he h2.symm
theorem LyM.grow_t (h : LyM x3 y l0 l1 l2 pc r tv rv pv dv nt nr np nd tl rl pl dl wr) {w1 : World} (hg : wr.grownBy w1 tv.ownBlock) : w1.heap[y]? = some (.cells #[l0, l1, l2, .int .i64 pc, .int .i64 r, tv, rv, pv, dv, .map none] 87 (0, 0)) ∧ Below y x3 w1 := by
  have hge := ownz_block_ge h.ot
  refine ⟨?_, h.bel.grown hg (Nat.le_of_lt h.lt) fun q hq => by have := hge q hq; omega⟩
  rw [hg.block y h.lt (fun e => by have := hge y e.symm; omega)]
  exact h.blk
theorem LyM.push_t (h : LyM x3 y l0 l1 l2 pc r tv rv pv dv nt nr np nd tl rl pl dl wr) {w1 : World} {g cap H : Nat} {z : Int} (ho : w1.ownsRow (y + 1) 3 1 (.slice (some ⟨g, 0, none⟩) (nt + 1) cap) (nt + 1) (cellsI tl ++ [.int .i64 z])) (hg : wr.grownBy w1 tv.ownBlock) (hat : tv.ownBlock = some g ∨ g = H) (hH : wr.heap.size = H) :
    LyM x3 y l0 l1 l2 pc r (.slice (some ⟨g, 0, none⟩) (nt + 1) cap) rv pv dv (nt + 1) nr np nd (tl ++ [z]) rl pl dl (w1.setCell ⟨y, 5, none⟩ (.slice (some ⟨g, 0, none⟩) (nt + 1) cap)) := by
  obtain ⟨hb, hx⟩ := h.grow_t hg
  rw [← cellsI_snoc] at ho
  have a_r : apV (.slice (some ⟨g, 0, none⟩) (nt + 1) cap) rv := fun g' h1 h2 => by
    have e : g = g' := by simpa [Value.ownBlock] using h1
    subst e
    rcases hat with hat | hat
    · exact h.atr g hat h2
    · have := ownz_block_lt h.or g h2; omega
  have o_r := own_kept h.or hg (fun g' h1 h2 => h.atr g' h2 h1)
  have a_p : apV (.slice (some ⟨g, 0, none⟩) (nt + 1) cap) pv := fun g' h1 h2 => by
    have e : g = g' := by simpa [Value.ownBlock] using h1
    subst e
    rcases hat with hat | hat
    · exact h.atp g hat h2
    · have := ownz_block_lt h.op g h2; omega
  have o_p := own_kept h.op hg (fun g' h1 h2 => h.atp g' h2 h1)
  have a_d : apV (.slice (some ⟨g, 0, none⟩) (nt + 1) cap) dv := fun g' h1 h2 => by
    have e : g = g' := by simpa [Value.ownBlock] using h1
    subst e
    rcases hat with hat | hat
    · exact h.atd g hat h2
    · have := ownz_block_lt h.od g h2; omega
  have o_d := own_kept h.od hg (fun g' h1 h2 => h.atd g' h2 h1)
  refine ⟨hx.setCell (Nat.le_refl _) _, ?_, (own_set ho (Nat.lt_succ_self _)), (own_set o_r (Nat.lt_succ_self _)), (own_set o_p (Nat.lt_succ_self _)), (own_set o_d (Nat.lt_succ_self _)), a_r, a_p, h.arp, a_d, h.ard, h.apd⟩
  simp [World.setCell, Array.getElem?_modify, hb]
theorem LyM.grow_r (h : LyM x3 y l0 l1 l2 pc r tv rv pv dv nt nr np nd tl rl pl dl wr) {w1 : World} (hg : wr.grownBy w1 rv.ownBlock) : w1.heap[y]? = some (.cells #[l0, l1, l2, .int .i64 pc, .int .i64 r, tv, rv, pv, dv, .map none] 87 (0, 0)) ∧ Below y x3 w1 := by
  have hge := ownz_block_ge h.or
  refine ⟨?_, h.bel.grown hg (Nat.le_of_lt h.lt) fun q hq => by have := hge q hq; omega⟩
  rw [hg.block y h.lt (fun e => by have := hge y e.symm; omega)]
  exact h.blk
theorem LyM.push_r (h : LyM x3 y l0 l1 l2 pc r tv rv pv dv nt nr np nd tl rl pl dl wr) {w1 : World} {g cap H : Nat} {z : Int} (ho : w1.ownsRow (y + 1) 3 1 (.slice (some ⟨g, 0, none⟩) (nr + 1) cap) (nr + 1) (cellsI rl ++ [.int .i64 z])) (hg : wr.grownBy w1 rv.ownBlock) (hat : rv.ownBlock = some g ∨ g = H) (hH : wr.heap.size = H) :
    LyM x3 y l0 l1 l2 pc r tv (.slice (some ⟨g, 0, none⟩) (nr + 1) cap) pv dv nt (nr + 1) np nd tl (rl ++ [z]) pl dl (w1.setCell ⟨y, 6, none⟩ (.slice (some ⟨g, 0, none⟩) (nr + 1) cap)) := by
  obtain ⟨hb, hx⟩ := h.grow_r hg
  rw [← cellsI_snoc] at ho
  have a_t : apV (.slice (some ⟨g, 0, none⟩) (nr + 1) cap) tv := fun g' h1 h2 => by
    have e : g = g' := by simpa [Value.ownBlock] using h1
    subst e
    rcases hat with hat | hat
    · exact h.atr.symm g hat h2
    · have := ownz_block_lt h.ot g h2; omega
  have o_t := own_kept h.ot hg (fun g' h1 h2 => h.atr.symm g' h2 h1)
  have a_p : apV (.slice (some ⟨g, 0, none⟩) (nr + 1) cap) pv := fun g' h1 h2 => by
    have e : g = g' := by simpa [Value.ownBlock] using h1
    subst e
    rcases hat with hat | hat
    · exact h.arp g hat h2
    · have := ownz_block_lt h.op g h2; omega
  have o_p := own_kept h.op hg (fun g' h1 h2 => h.arp g' h2 h1)
  have a_d : apV (.slice (some ⟨g, 0, none⟩) (nr + 1) cap) dv := fun g' h1 h2 => by
    have e : g = g' := by simpa [Value.ownBlock] using h1
    subst e
    rcases hat with hat | hat
    · exact h.ard g hat h2
    · have := ownz_block_lt h.od g h2; omega
  have o_d := own_kept h.od hg (fun g' h1 h2 => h.ard g' h2 h1)
  refine ⟨hx.setCell (Nat.le_refl _) _, ?_, (own_set o_t (Nat.lt_succ_self _)), (own_set ho (Nat.lt_succ_self _)), (own_set o_p (Nat.lt_succ_self _)), (own_set o_d (Nat.lt_succ_self _)), a_t.symm, h.atp, a_p, h.atd, a_d, h.apd⟩
  simp [World.setCell, Array.getElem?_modify, hb]
theorem LyM.grow_p (h : LyM x3 y l0 l1 l2 pc r tv rv pv dv nt nr np nd tl rl pl dl wr) {w1 : World} (hg : wr.grownBy w1 pv.ownBlock) : w1.heap[y]? = some (.cells #[l0, l1, l2, .int .i64 pc, .int .i64 r, tv, rv, pv, dv, .map none] 87 (0, 0)) ∧ Below y x3 w1 := by
  have hge := ownz_block_ge h.op
  refine ⟨?_, h.bel.grown hg (Nat.le_of_lt h.lt) fun q hq => by have := hge q hq; omega⟩
  rw [hg.block y h.lt (fun e => by have := hge y e.symm; omega)]
  exact h.blk
theorem LyM.push_p (h : LyM x3 y l0 l1 l2 pc r tv rv pv dv nt nr np nd tl rl pl dl wr) {w1 : World} {g cap H : Nat} {z : Int} (ho : w1.ownsRow (y + 1) 3 1 (.slice (some ⟨g, 0, none⟩) (np + 1) cap) (np + 1) (cellsI pl ++ [.int .i64 z])) (hg : wr.grownBy w1 pv.ownBlock) (hat : pv.ownBlock = some g ∨ g = H) (hH : wr.heap.size = H) :
    LyM x3 y l0 l1 l2 pc r tv rv (.slice (some ⟨g, 0, none⟩) (np + 1) cap) dv nt nr (np + 1) nd tl rl (pl ++ [z]) dl (w1.setCell ⟨y, 7, none⟩ (.slice (some ⟨g, 0, none⟩) (np + 1) cap)) := by
  obtain ⟨hb, hx⟩ := h.grow_p hg
  rw [← cellsI_snoc] at ho
  have a_t : apV (.slice (some ⟨g, 0, none⟩) (np + 1) cap) tv := fun g' h1 h2 => by
    have e : g = g' := by simpa [Value.ownBlock] using h1
    subst e
    rcases hat with hat | hat
    · exact h.atp.symm g hat h2
    · have := ownz_block_lt h.ot g h2; omega
  have o_t := own_kept h.ot hg (fun g' h1 h2 => h.atp.symm g' h2 h1)
  have a_r : apV (.slice (some ⟨g, 0, none⟩) (np + 1) cap) rv := fun g' h1 h2 => by
    have e : g = g' := by simpa [Value.ownBlock] using h1
    subst e
    rcases hat with hat | hat
    · exact h.arp.symm g hat h2
    · have := ownz_block_lt h.or g h2; omega
  have o_r := own_kept h.or hg (fun g' h1 h2 => h.arp.symm g' h2 h1)
  have a_d : apV (.slice (some ⟨g, 0, none⟩) (np + 1) cap) dv := fun g' h1 h2 => by
    have e : g = g' := by simpa [Value.ownBlock] using h1
    subst e
    rcases hat with hat | hat
    · exact h.apd g hat h2
    · have := ownz_block_lt h.od g h2; omega
  have o_d := own_kept h.od hg (fun g' h1 h2 => h.apd g' h2 h1)
  refine ⟨hx.setCell (Nat.le_refl _) _, ?_, (own_set o_t (Nat.lt_succ_self _)), (own_set o_r (Nat.lt_succ_self _)), (own_set ho (Nat.lt_succ_self _)), (own_set o_d (Nat.lt_succ_self _)), h.atr, a_t.symm, a_r.symm, h.atd, h.ard, a_d⟩
  simp [World.setCell, Array.getElem?_modify, hb]
theorem LyM.grow_d (h : LyM x3 y l0 l1 l2 pc r tv rv pv dv nt nr np nd tl rl pl dl wr) {w1 : World} (hg : wr.grownBy w1 dv.ownBlock) : w1.heap[y]? = some (.cells #[l0, l1, l2, .int .i64 pc, .int .i64 r, tv, rv, pv, dv, .map none] 87 (0, 0)) ∧ Below y x3 w1 := by
  have hge := ownz_block_ge h.od
  refine ⟨?_, h.bel.grown hg (Nat.le_of_lt h.lt) fun q hq => by have := hge q hq; omega⟩
  rw [hg.block y h.lt (fun e => by have := hge y e.symm; omega)]
  exact h.blk
theorem LyM.push_d (h : LyM x3 y l0 l1 l2 pc r tv rv pv dv nt nr np nd tl rl pl dl wr) {w1 : World} {g cap H : Nat} {z : Rd} (ho : w1.ownsRow (y + 1) 129 5 (.slice (some ⟨g, 0, none⟩) (nd + 1) cap) (nd + 1) (flatRd dl ++ (rdCells z).toList)) (hg : wr.grownBy w1 dv.ownBlock) (hat : dv.ownBlock = some g ∨ g = H) (hH : wr.heap.size = H) :
    LyM x3 y l0 l1 l2 pc r tv rv pv (.slice (some ⟨g, 0, none⟩) (nd + 1) cap) nt nr np (nd + 1) tl rl pl (dl ++ [z]) (w1.setCell ⟨y, 8, none⟩ (.slice (some ⟨g, 0, none⟩) (nd + 1) cap)) := by
  obtain ⟨hb, hx⟩ := h.grow_d hg
  rw [← flatRd_snoc] at ho
  have a_t : apV (.slice (some ⟨g, 0, none⟩) (nd + 1) cap) tv := fun g' h1 h2 => by
    have e : g = g' := by simpa [Value.ownBlock] using h1
    subst e
    rcases hat with hat | hat
    · exact h.atd.symm g hat h2
    · have := ownz_block_lt h.ot g h2; omega
  have o_t := own_kept h.ot hg (fun g' h1 h2 => h.atd.symm g' h2 h1)
  have a_r : apV (.slice (some ⟨g, 0, none⟩) (nd + 1) cap) rv := fun g' h1 h2 => by
    have e : g = g' := by simpa [Value.ownBlock] using h1
    subst e
    rcases hat with hat | hat
    · exact h.ard.symm g hat h2
    · have := ownz_block_lt h.or g h2; omega
  have o_r := own_kept h.or hg (fun g' h1 h2 => h.ard.symm g' h2 h1)
  have a_p : apV (.slice (some ⟨g, 0, none⟩) (nd + 1) cap) pv := fun g' h1 h2 => by
    have e : g = g' := by simpa [Value.ownBlock] using h1
    subst e
    rcases hat with hat | hat
    · exact h.apd.symm g hat h2
    · have := ownz_block_lt h.op g h2; omega
  have o_p := own_kept h.op hg (fun g' h1 h2 => h.apd.symm g' h2 h1)
  refine ⟨hx.setCell (Nat.le_refl _) _, ?_, (own_set o_t (Nat.lt_succ_self _)), (own_set o_r (Nat.lt_succ_self _)), (own_set o_p (Nat.lt_succ_self _)), (own_set ho (Nat.lt_succ_self _)), h.atr, h.atp, h.arp, a_t.symm, a_r.symm, a_p.symm⟩
  simp [World.setCell, Array.getElem?_modify, hb]
/-- a layout's beginning -/
theorem LyM.start (x3 : World) (l0 l1 l2 : Value) (pc r : Int) : LyM x3 x3.heap.size l0 l1 l2 pc r (.slice none 0 0) (.slice none 0 0) (.slice none 0 0) (.slice none 0 0) 0 0 0 0 [] [] [] [] (x3.alloc (.cells #[l0, l1, l2, .int .i64 pc, .int .i64 r, .slice none 0 0, .slice none 0 0, .slice none 0 0, .slice none 0 0, .map none] 87)) := by
  refine ⟨below_alloc1 _ _, ?_, ⟨rfl, .inl ⟨rfl, rfl⟩⟩, ⟨rfl, .inl ⟨rfl, rfl⟩⟩, ⟨rfl, .inl ⟨rfl, rfl⟩⟩, ⟨rfl, .inl ⟨rfl, rfl⟩⟩, ?_, ?_, ?_, ?_, ?_, ?_⟩
  · show (x3.heap.push _)[x3.heap.size]? = _
    simp
  all_goals (intro g h; cases h)
end Go.Proofs.YtbpaffkkphacdabGreat
