/- A region that draws its order, all of whose operations yield the same value in every world that meets S, and leave a world that meets S (reads, and calls that only lay new memory): whatever the order, it comes to what the text's order comes to; no Go in sight. -/
import Derived.Test.YtjlfcbccpcigeacDoorBase
import Derived.WalkKit
import Derived.Lib.SmallJoins
namespace Go.Proofs.YtjlfcbccpcigeacDoor
open Go.RowKit Go.Joins
set_option linter.unusedVariables false
variable {P : Program} {ops : Array Oper} {Q : Exit → Act → World → Prop} {md : Region.Mode} {S : World → Prop}

def dstOf (ops : Array Oper) (i : Nat) : Option Tmp := (ops[i]?).bind (·.dst)
/-- the frame behind the first k operations, of which those in l have been done -/
def actX (ops : Array Oper) (val : Nat → Value) (a0 : Act) (l : Nat → Bool) : Nat → Act
  | 0 => a0
  | k + 1 => if l k = true then (actX ops val a0 l k).put (dstOf ops k) (val k) else actX ops val a0 l k
/-- number k writes what number j looks at or writes -/
def meetsX (ops : Array Oper) (j k : Nat) : Bool := match ops[j]?, dstOf ops k with
  | some o, some d => (o.looksAt ops).contains d || o.dst == some d
  | _, _ => false
def orderX (md : Region.Mode) (ops : Array Oper) (j k : Nat) : Bool := j == k || !(meetsX ops j k) || (decide (k < j) && waits md ops j k) || (decide (j < k) && waits md ops k j)
def forwX (md : Region.Mode) (ops : Array Oper) (j : Nat) : Bool := match ops[j]? with
  | some o => o.after.all fun e => !Region.binds md e || decide (e.on < j)
  | none => true
def steadyX (md : Region.Mode) (ops : Array Oper) : Bool := (List.range ops.size).all fun j => forwX md ops j && (List.range ops.size).all fun k => orderX md ops j k
theorem put_sizeX (a : Act) (d : Option Tmp) (v : Value) : (a.put d v).tmps.size = a.tmps.size := by cases d <;> simp [Act.put]
theorem put_otherX {a : Act} {d : Option Tmp} {x : Tmp} (h : d ≠ some x) (v : Value) : (a.put d v).tmps[x]? = a.tmps[x]? := by
  cases d with
  | none => rfl
  | some e =>
    have hne : e ≠ x := fun he => h (by rw [he])
    simp [Act.put, Array.getElem?_setIfInBounds_ne hne]
theorem put_hereX {a b : Act} (x : Tmp) (v : Value) (h : a.tmps.size = b.tmps.size) : (a.put (some x) v).tmps[x]? = (b.put (some x) v).tmps[x]? := by
  simp only [Act.put]
  by_cases hx : x < a.tmps.size
  · rw [Array.getElem?_setIfInBounds_self_of_lt hx, Array.getElem?_setIfInBounds_self_of_lt (h ▸ hx)]
  · rw [Array.getElem?_eq_none (by rw [Array.size_setIfInBounds]; exact Nat.le_of_not_lt hx), Array.getElem?_eq_none (by rw [Array.size_setIfInBounds, ← h]; exact Nat.le_of_not_lt hx)]
theorem actX_size (val : Nat → Value) (a0 : Act) (l : Nat → Bool) : ∀ k, (actX ops val a0 l k).tmps.size = a0.tmps.size := by
  intro k
  induction k with
  | zero => rfl
  | succ k ih =>
    unfold actX
    split
    · rw [put_sizeX]; exact ih
    · exact ih
theorem order_ofX {j k : Nat} (h : steadyX md ops = true) (hj : j < ops.size) (hk : k < ops.size) : orderX md ops j k = true := by
  unfold steadyX at h
  have h1 := List.all_eq_true.1 h j (List.mem_range.2 hj)
  rw [Bool.and_eq_true] at h1
  exact List.all_eq_true.1 h1.2 k (List.mem_range.2 hk)
theorem forw_of {j : Nat} {o : Oper} (h : steadyX md ops = true) (ho : ops[j]? = some o) : ∀ e ∈ o.after, Region.binds md e = true → e.on < j := by
  have hj : j < ops.size := (Array.getElem?_eq_some_iff.1 ho).1
  unfold steadyX at h
  have h1 := List.all_eq_true.1 h j (List.mem_range.2 hj)
  rw [Bool.and_eq_true] at h1
  have h2 := h1.1
  unfold forwX at h2
  rw [ho] at h2
  intro e he hb
  have h3 := Array.all_eq_true_iff_forall_mem.1 h2 e he
  rw [hb] at h3
  simpa using h3
/-- what is listed has all listed that it waits for -/
def ClosedX (md : Region.Mode) (ops : Array Oper) (l : Nat → Bool) : Prop := ∀ j, l j = true → ∀ o, ops[j]? = some o → ∀ e ∈ o.after, Region.binds md e = true → l e.on = true
theorem meets_ofX {j k : Nat} {o : Oper} {d : Tmp} (ho : ops[j]? = some o) (hk : dstOf ops k = some d) (hd : d ∈ o.looksAt ops ∨ o.dst = some d) : meetsX ops j k = true := by
  unfold meetsX
  rw [ho, hk]
  rcases hd with h | h
  · simp [h]
  · simp [h]
theorem dst_ltX {k : Nat} {d : Tmp} (h : dstOf ops k = some d) : k < ops.size := by
  unfold dstOf at h
  cases ho : ops[k]? with
  | none => rw [ho] at h; cases h
  | some o => exact (Array.getElem?_eq_some_iff.1 ho).1
/-- of two that meet the one that comes first in the text is waited for -/
theorem before_ofX {l : Nat → Bool} {j k : Nat} {o : Oper} {d : Tmp} (h : steadyX md ops = true) (ho : ops[j]? = some o) (hk : dstOf ops k = some d) (hd : d ∈ o.looksAt ops ∨ o.dst = some d) (hne : j ≠ k) : (k < j ∧ waits md ops j k = true) ∨ (j < k ∧ waits md ops k j = true) := by
  have h1 := order_ofX h (Array.getElem?_eq_some_iff.1 ho).1 (dst_ltX hk)
  unfold orderX at h1
  rw [meets_ofX ho hk hd] at h1
  simp only [Bool.or_eq_true, Bool.and_eq_true, beq_iff_eq, Bool.not_true, Bool.false_eq_true, or_false, decide_eq_true_eq] at h1
  rcases h1 with (h1 | h1) | h1
  · exact absurd h1 hne
  · exact .inl h1
  · exact .inr h1
theorem no_laterX {l : Nat → Bool} {j k : Nat} {o : Oper} {d : Tmp} (h : steadyX md ops = true) (hc : ClosedX md ops l) (hj : l j = false) (ho : ops[j]? = some o) (hk : dstOf ops k = some d) (hd : d ∈ o.looksAt ops ∨ o.dst = some d) (hjk : j < k) : l k = false := by
  rcases before_ofX (l := l) h ho hk hd (by omega) with ⟨h1, _⟩ | ⟨_, h2⟩
  · omega
  · cases hl : l k with
    | false => rfl
    | true =>
      obtain ⟨ok, hok⟩ : ∃ ok, ops[k]? = some ok := ⟨_, Array.getElem?_eq_getElem (dst_ltX hk)⟩
      obtain ⟨e, he, hb, hon⟩ := waits_spec h2 hok
      have := hc k hl ok hok e he hb
      rw [hon, hj] at this
      cases this
theorem slot_rest {val : Nat → Value} {a0 : Act} {l : Nat → Bool} {j : Nat} {o : Oper} {d : Tmp} (h : steadyX md ops = true) (hc : ClosedX md ops l) (hj : l j = false) (ho : ops[j]? = some o) (hd : d ∈ o.looksAt ops ∨ o.dst = some d) : ∀ k, j ≤ k → (actX ops val a0 l k).tmps[d]? = (actX ops val a0 l j).tmps[d]? := by
  intro k
  induction k with
  | zero => intro hk; rw [show j = 0 by omega]
  | succ k ih =>
    intro hk
    by_cases e : j = k + 1
    · rw [e]
    · have ih2 := ih (by omega)
      rw [← ih2]
      show (if l k = true then (actX ops val a0 l k).put (dstOf ops k) (val k) else actX ops val a0 l k).tmps[d]? = _
      by_cases hl : l k = true
      · rw [if_pos hl]
        by_cases hdk : dstOf ops k = some d
        · by_cases ejk : j = k
          · subst ejk; rw [hj] at hl; cases hl
          · have := no_laterX h hc hj ho hdk hd (by omega)
            rw [this] at hl; cases hl
        · exact put_otherX hdk _
      · rw [if_neg hl]
theorem slot_text {val : Nat → Value} {a0 : Act} {l : Nat → Bool} {j : Nat} {o : Oper} {d : Tmp} (h : steadyX md ops = true) (hall : ∀ e ∈ o.after, Region.binds md e = true → l e.on = true) (ho : ops[j]? = some o) (hd : d ∈ o.looksAt ops ∨ o.dst = some d) : ∀ k, k ≤ j → (actX ops val a0 l k).tmps[d]? = (actX ops val a0 (fun _ => true) k).tmps[d]? := by
  intro k
  induction k with
  | zero => intro _; rfl
  | succ k ih =>
    intro hk
    have ih2 := ih (by omega)
    show (if l k = true then (actX ops val a0 l k).put (dstOf ops k) (val k) else actX ops val a0 l k).tmps[d]? = ((actX ops val a0 (fun _ => true) k).put (dstOf ops k) (val k)).tmps[d]?
    by_cases hdk : dstOf ops k = some d
    · have hl : l k = true := by
        rcases before_ofX (l := l) h ho hdk hd (by omega) with ⟨_, h2⟩ | ⟨h1, _⟩
        · obtain ⟨e, he, hb, hon⟩ := waits_spec h2 ho
          have := hall e he hb
          rw [hon] at this; exact this
        · omega
      rw [if_pos hl, hdk]
      exact put_hereX d _ (by rw [actX_size, actX_size])
    · rw [put_otherX hdk]
      by_cases hl : l k = true
      · rw [if_pos hl, put_otherX hdk]; exact ih2
      · rw [if_neg hl]; exact ih2
theorem put_setX {val : Nat → Value} {a0 : Act} {l l' : Nat → Bool} {j : Nat} {o : Oper} (h : steadyX md ops = true) (hc : ClosedX md ops l) (hj : l j = false) (ho : ops[j]? = some o) (hl' : ∀ i, l' i = (i == j || l i)) : ∀ k, (k ≤ j → actX ops val a0 l' k = actX ops val a0 l k) ∧ (j < k → actX ops val a0 l' k = (actX ops val a0 l k).put o.dst (val j)) := by
  have hdj : dstOf ops j = o.dst := by unfold dstOf; rw [ho]; rfl
  intro k
  induction k with
  | zero => exact ⟨fun _ => rfl, fun hk => absurd hk (by omega)⟩
  | succ k ih =>
    have e1 : actX ops val a0 l' (k + 1) = if l' k = true then (actX ops val a0 l' k).put (dstOf ops k) (val k) else actX ops val a0 l' k := rfl
    have e2 : actX ops val a0 l (k + 1) = if l k = true then (actX ops val a0 l k).put (dstOf ops k) (val k) else actX ops val a0 l k := rfl
    refine ⟨fun hk => ?_, fun hk => ?_⟩
    · have hne : (k == j) = false := by simp; omega
      rw [e1, e2, hl' k, hne, Bool.false_or, ih.1 (by omega)]
    · by_cases ejk : k = j
      · subst ejk
        rw [e1, e2, hl' k, hj, ih.1 (Nat.le_refl _), hdj]
        simp
      · have hne : (k == j) = false := by simp; exact ejk
        rw [e1, e2, hl' k, hne, Bool.false_or, ih.2 (by omega)]
        by_cases hl : l k = true
        · rw [if_pos hl, if_pos hl]
          refine Act.put_comm _ _ _ fun d hd hdk => ?_
          have := no_laterX h hc hj ho hdk (.inr hd) (by omega)
          rw [this] at hl; cases hl
        · rw [if_neg hl, if_neg hl]
theorem exec_agree {o : Oper} {a b : Act} (hs : ∀ cs x, o.op ≠ .select cs x) (h : ∀ d ∈ o.looksAt ops, a.tmps[d]? = b.tmps[d]?) : execOp a.eval o = execOp b.eval o ∧ Region.wanted o (yielded ops a.tmps) = Region.wanted o (yielded ops b.tmps) := by
  refine ⟨execOp_congr o hs fun x hx => ?_, ?_⟩
  · cases x with
    | tmp t =>
      have := h t (List.mem_append_left _ (List.mem_filterMap.2 ⟨.tmp t, by simpa using hx, rfl⟩))
      simp [Act.eval, this]
    | _ => rfl
  · unfold Region.wanted
    cases hg : o.guard with
    | none => rfl
    | some gw =>
      obtain ⟨g, b'⟩ := gw
      have e : yielded ops a.tmps g = yielded ops b.tmps g := by
        unfold yielded
        cases hd : (ops[g]?).bind (·.dst) with
        | none => rfl
        | some d =>
          have := h d (List.mem_append_right _ (by rw [hg]; simp [hd]))
          simp only [Option.bind_some, this]
      simp only [e]
theorem put_eqX {a b : Act} (hz : a.tmps.size = b.tmps.size) {d : Option Tmp} {u v : Value} (h : a.put d u = a.put d v) : b.put d u = b.put d v := by
  cases d with
  | none => rfl
  | some x =>
    by_cases hx : x < a.tmps.size
    · have h1 := congrArg (fun c : Act => c.tmps[x]?) h
      simp only [Act.put, Array.getElem?_setIfInBounds_self_of_lt hx] at h1
      rw [Option.some.inj h1]
    · simp only [Act.put]
      have hb : b.tmps.size ≤ x := by rw [← hz]; exact Nat.le_of_not_lt hx
      rw [Array.setIfInBounds_eq_of_size_le hb, Array.setIfInBounds_eq_of_size_le hb]
theorem upon_sameX {o : Oper} {a b : Act} (hz : a.tmps.size = b.tmps.size) (hdf : True) {v : Value} {r : Result Next} {K : Act → World → Prop} (hQ : ∀ c a w, ¬ Q (.panic c) a w)
    (h : o.upon P a (fun a' w' => a' = a.put o.dst v ∧ S w') Q r) (hK : ∀ w', S w' → K (b.put o.dst v) w') : o.upon P b K Q r := by
  have key : ∀ (u : Value) (w' : World), (a.put o.dst u = a.put o.dst v ∧ S w') → K (b.put o.dst u) w' := fun u w' ⟨e, hS⟩ => by
    rw [put_eqX hz e]; exact hK w' hS
  cases r with
  | ok n w' =>
    cases n <;> simp only [Oper.upon] at h ⊢
    case value u => exact key u w' h
    case skip => exact key _ w' h
    case defer d =>
      exfalso
      have h1 := congrArg Act.defers h.1
      cases hdst : o.dst <;> (rw [hdst] at h1; simp [Act.put] at h1)
    case enter f args =>
      refine Calls.mono h fun e w'' he => ?_
      cases e with
      | returned u => exact key u w'' he
      | panicked c => exact absurd he (hQ _ _ _)
      | outgrown => exact he
    case row row args => exact Rows.mono h fun u w'' he => key u w'' he
  | halt x w' =>
    cases x <;> simp only [Oper.upon] at h ⊢
    case panic u => exact absurd h (hQ _ _ _)
/-- how many are not listed -/
def unlX (l : Nat → Bool) : Nat → Nat
  | 0 => 0
  | k + 1 => unlX l k + if l k = true then 0 else 1
theorem unl_set {l l' : Nat → Bool} {j : Nat} (hj : l j = false) (hl' : ∀ i, l' i = (i == j || l i)) : ∀ k, (k ≤ j → unlX l' k = unlX l k) ∧ (j < k → unlX l k = unlX l' k + 1) := by
  intro k
  induction k with
  | zero => exact ⟨fun _ => rfl, fun h => absurd h (by omega)⟩
  | succ k ih =>
    unfold unlX
    rw [hl' k]
    refine ⟨fun hk => ?_, fun hk => ?_⟩
    · have hne : (k == j) = false := by simp; omega
      rw [hne, Bool.false_or, ih.1 (by omega)]
    · by_cases e : k = j
      · subst e
        rw [ih.1 (Nat.le_refl _), hj]
        simp
      · have hne : (k == j) = false := by simp; exact e
        rw [hne, Bool.false_or]
        have := ih.2 (by omega)
        split <;> omega
theorem unl_zero {l : Nat → Bool} : ∀ k, unlX l k = 0 → ∀ i, i < k → l i = true := by
  intro k
  induction k with
  | zero => intro _ i hi; omega
  | succ k ih =>
    intro h i hi
    unfold unlX at h
    by_cases hl : l k = true
    · by_cases e : i = k
      · rw [e]; exact hl
      · exact ih (by omega) i (by omega)
    · rw [if_neg hl] at h; omega
theorem least_un (l : Nat → Bool) : ∀ k, (∀ i, i < k → l i = true) ∨ ∃ j, j < k ∧ l j = false ∧ ∀ i, i < j → l i = true := by
  intro k
  induction k with
  | zero => exact .inl fun i hi => absurd hi (by omega)
  | succ k ih =>
    rcases ih with h | ⟨j, h1, h2, h3⟩
    · cases hl : l k with
      | true =>
        refine .inl fun i hi => ?_
        by_cases e : i = k
        · rw [e]; exact hl
        · exact h i (by omega)
      | false => exact .inr ⟨k, by omega, hl, h⟩
    · exact .inr ⟨j, by omega, h2, h3⟩
theorem actX_all {val : Nat → Value} {a0 : Act} {l : Nat → Bool} : ∀ k, (∀ i, i < k → l i = true) → actX ops val a0 l k = actX ops val a0 (fun _ => true) k := by
  intro k
  induction k with
  | zero => intro _; rfl
  | succ k ih =>
    intro h
    show (if l k = true then (actX ops val a0 l k).put (dstOf ops k) (val k) else actX ops val a0 l k) = (actX ops val a0 (fun _ => true) k).put (dstOf ops k) (val k)
    rw [if_pos (h k (by omega)), ih fun i hi => h i (by omega)]
/-- one operation in the text's order -/
def StepX (P : Program) (ops : Array Oper) (Q : Exit → Act → World → Prop) (S : World → Prop) (o : Oper) (a : Act) (v : Value) : Prop :=
  if Region.wanted o (yielded ops a.tmps) = true then ∀ w, S w → Oper.wp P o a w (fun a' w' => a' = a.put o.dst v ∧ S w') Q else v = undef
theorem getD_both {listed : Array Bool} {j : Nat} (hj : j < listed.size) : listed.getD j true = listed.getD j false := by simp [Array.getD, hj]
theorem steady_go (val : Nat → Value) (a0 : Act) (h : steadyX md ops = true) (hsel : Region.noSelect ops = true) (hQ : ∀ c a w, ¬ Q (.panic c) a w)
    (hstep : ∀ i o, ops[i]? = some o → StepX P ops Q S o (actX ops val a0 (fun _ => true) i) (val i)) (hfin : ∀ w, S w → Q .normal (actX ops val a0 (fun _ => true) ops.size) w) :
    ∀ (m : Nat) (listed : Array Bool) (w : World), listed.size = ops.size → ClosedX md ops (fun i => listed.getD i false) → unlX (fun i => listed.getD i false) ops.size ≤ m → S w → wpAny P md ops Q m listed (actX ops val a0 (fun i => listed.getD i false) ops.size) w := by
  have none_ready : ∀ (listed : Array Bool), listed.size = ops.size → Region.ready md ops listed = [] → ∀ i, i < ops.size → listed.getD i false = true := fun listed hz hr => by
    rcases least_un (fun i => listed.getD i false) ops.size with h1 | ⟨j, hj, hl, hb⟩
    · exact h1
    · exfalso
      have : j ∈ Region.ready md ops listed := mem_ready.2 ⟨by rw [getD_both (by omega)]; exact hl, _, Array.getElem?_eq_getElem hj, fun e he hb2 => hb _ (forw_of h (Array.getElem?_eq_getElem hj) e he hb2)⟩
      rw [hr] at this; cases this
  intro m
  induction m with
  | zero =>
    intro listed w hz hc hu hS
    have hall := unl_zero (l := fun i => listed.getD i false) ops.size (by omega)
    refine ⟨?_, ?_⟩
    · apply List.eq_nil_iff_forall_not_mem.2
      intro j hj
      obtain ⟨h0, o, ho, -⟩ := mem_ready.1 hj
      have hjs := (Array.getElem?_eq_some_iff.1 ho).1
      rw [getD_both (by omega)] at h0
      have h9 : listed.getD j false = true := hall j hjs
      rw [h0] at h9; cases h9
    · rw [actX_all _ hall]; exact hfin w hS
  | succ m ih =>
    intro listed w hz hc hu hS
    refine ⟨fun hr => ?_, fun j hj => ?_⟩
    · rw [actX_all _ (none_ready listed hz hr)]; exact hfin w hS
    · obtain ⟨h0, o, ho, hall⟩ := mem_ready.1 hj
      have hjs := (Array.getElem?_eq_some_iff.1 ho).1
      have hl : (fun i => listed.getD i false) j = false := by show listed.getD j false = false; rw [← getD_both (by omega)]; exact h0
      have hl' : ∀ i, (fun i => (listed.setIfInBounds j true).getD i false) i = (i == j || (fun i => listed.getD i false) i) := fun i => by
        show (listed.setIfInBounds j true).getD i false = (i == j || listed.getD i false)
        by_cases e : i = j
        · subst e
          simp [Array.getD, show i < listed.size by omega]
        · rw [getD_set_ne false (Ne.symm e)]
          simp [e]
      have hag := fun (d : Tmp) (hd : d ∈ o.looksAt ops ∨ o.dst = some d) => (slot_rest (val := val) (a0 := a0) h hc hl ho hd ops.size (Nat.le_of_lt hjs)).trans (slot_text (val := val) (a0 := a0) (l := fun i => listed.getD i false) h hall ho hd j (Nat.le_refl _))
      obtain ⟨he, hw⟩ := exec_agree (ops := ops) (o := o) (Region.noSelect_spec hsel j o · · ho) (fun d hd => hag d (.inl hd))
      have hput := (put_setX (val := val) (a0 := a0) h hc hl ho hl' ops.size).2 hjs
      have hnext : ∀ w', S w' → wpAny P md ops Q m (listed.setIfInBounds j true) ((actX ops val a0 (fun i => listed.getD i false) ops.size).put o.dst (val j)) w' := fun w' hS' => by
        rw [← hput]
        refine ih _ w' (by simpa using hz) ?_ ?_ hS'
        · intro i hi oi hoi e he2 hb
          have hi' := hl' i
          rw [hi] at hi'
          by_cases ei : i = j
          · subst ei
            rw [ho] at hoi
            cases hoi
            exact getD_set_true (hall e he2 hb)
          · have : listed.getD i false = true := by
              have h1 : (i == j) = false := by simp; exact ei
              rw [h1, Bool.false_or] at hi'
              exact hi'.symm
            exact getD_set_true (hc i this oi hoi e he2 hb)
        · have := (unl_set hl hl' ops.size).2 hjs
          omega
      have hst := hstep j o ho
      unfold StepX at hst
      unfold wpOp
      rw [ho]
      simp only [hw]
      by_cases hwt : Region.wanted o (yielded ops (actX ops val a0 (fun _ => true) j).tmps) = true
      · rw [if_pos hwt] at hst ⊢
        refine .inl ?_
        unfold Oper.wp
        rw [he]
        exact upon_sameX (by rw [actX_size, actX_size]) trivial hQ (hst w hS) hnext
      · rw [if_neg hwt] at hst ⊢
        rw [← hst]
        exact hnext w hS
/-- the operations from number i on, in the text's order -/
def StepsX (P : Program) (ops : Array Oper) (Q : Exit → Act → World → Prop) (S : World → Prop) : Nat → Nat → Act → Prop
  | 0, _, a => ∀ w, S w → Q .normal a w
  | r + 1, i, a => ∃ o v, ops[i]? = some o ∧ StepX P ops Q S o a v ∧ StepsX P ops Q S r (i + 1) (a.put o.dst v)
theorem actX_val {val val' : Nat → Value} {a0 : Act} {l : Nat → Bool} : ∀ k, (∀ i, i < k → val i = val' i) → actX ops val a0 l k = actX ops val' a0 l k := by
  intro k
  induction k with
  | zero => intro _; rfl
  | succ k ih =>
    intro h
    unfold actX
    rw [ih fun i hi => h i (by omega), h k (by omega)]
theorem steps_vals (a0 : Act) : ∀ (r i : Nat) (val : Nat → Value), StepsX P ops Q S r i (actX ops val a0 (fun _ => true) i) → ∃ val' : Nat → Value, (∀ k, k < i → val' k = val k) ∧ (∀ k o, i ≤ k → k < i + r → ops[k]? = some o → StepX P ops Q S o (actX ops val' a0 (fun _ => true) k) (val' k)) ∧ ∀ w, S w → Q .normal (actX ops val' a0 (fun _ => true) (i + r)) w := by
  intro r
  induction r with
  | zero => intro i val h; exact ⟨val, fun _ _ => rfl, fun k o h1 h2 => absurd h1 (by omega), h⟩
  | succ r ih =>
    intro i val h
    obtain ⟨o, v, ho, hst, hrest⟩ := h
    have e1 : ∀ k, k < i → (fun k => if k = i then v else val k) k = val k := fun k hk => if_neg (by omega)
    have e2 : actX ops (fun k => if k = i then v else val k) a0 (fun _ => true) (i + 1) = (actX ops val a0 (fun _ => true) i).put o.dst v := by
      show (if true = true then (actX ops (fun k => if k = i then v else val k) a0 (fun _ => true) i).put (dstOf ops i) (if i = i then v else val i) else _) = _
      rw [if_pos rfl, if_pos rfl, actX_val i e1]
      unfold dstOf; rw [ho]; rfl
    rw [← e2] at hrest
    obtain ⟨val', h1, h2, h3⟩ := ih (i + 1) _ hrest
    refine ⟨val', fun k hk => (h1 k (by omega)).trans (e1 k hk), fun k ok hk1 hk2 hok => ?_, fun w hS => ?_⟩
    · by_cases e : k = i
      · subst e
        rw [ho] at hok
        cases hok
        have e3 : val' k = v := (h1 k (by omega)).trans (if_pos rfl)
        rw [e3, actX_val k fun q hq => (h1 q (by omega)).trans (e1 q hq)]
        exact hst
      · exact h2 k ok (by omega) (by omega) hok
    · have := h3 w hS
      rw [show i + 1 + r = i + (r + 1) by omega] at this
      exact this
theorem steps_take {i r : Nat} {o : Oper} {rest : List Oper} {v : Value} {a : Act} (hd : ops.toList.drop i = o :: rest) (hy : YieldsIf P ops S o v a) (h : StepsX P ops Q S r (i + 1) (a.put o.dst v)) : StepsX P ops Q S (r + 1) i a := by
  refine ⟨o, v, at_drop hd, ?_, h⟩
  unfold StepX
  rcases hy with ⟨hw, hy⟩ | ⟨hw, hv⟩
  · rw [if_pos hw]
    intro w hS
    unfold Oper.wp
    rw [hy w hS]
    exact ⟨rfl, hS⟩
  · rw [if_neg (by rw [hw]; exact Bool.false_ne_true)]; exact hv
/-- the same, its sides by default, the frame written anew -/
theorem stk {i r : Nat} {o : Oper} {rest : List Oper} {v : Value} {a a' : Act} (hd : ops.toList.drop i = o :: rest) (h : StepsX P ops Q S r (i + 1) a')
    (hy : YieldsIf P ops S o v a := by refine Or.inl ⟨by rfl, ?_⟩; intro w hSw; (try dsimp only at hSw); go_simp; (try with_reducible rfl))
    (ha : a.put o.dst v = a' := by (try simp only [Act.put, List.setIfInBounds_toArray, List.set_cons_zero, List.set_cons_succ]); exact rfl) : StepsX P ops Q S (r + 1) i a := steps_take hd hy (ha ▸ h)
theorem steps_call {i r : Nat} {o : Oper} {rest : List Oper} (v : Value) {a : Act} (hd : ops.toList.drop i = o :: rest) (hw : Region.wanted o (yielded ops a.tmps) = true)
    (hc : ∀ w, S w → ∀ K : Act → World → Prop, Shut (∀ a' w', a' = a.put o.dst v → S w' → K a' w') → Oper.wp P o a w K Q) (h : StepsX P ops Q S r (i + 1) (a.put o.dst v)) : StepsX P ops Q S (r + 1) i a := by
  refine ⟨o, v, at_drop hd, ?_, h⟩
  unfold StepX
  rw [if_pos hw]
  exact fun w hS => hc w hS _ fun a' w' ha hS' => ⟨ha, hS'⟩
theorem steps_done {i : Nat} {a : Act} (h : ∀ w, S w → Q .normal a w) : StepsX P ops Q S 0 i a := h
/-- the beginning -/
theorem region_steady {id : Nat} {a : Act} {w : World} (S : World → Prop) (n : Nat) (hn : ops.size = n) (hm : P.follows .mixedOrders = true) (hst : steadyX .any ops = true) (hsel : Region.noSelect ops = true) (hS : S w.drew)
    (h : StepsX P ops (NoPanic Q) S n 0 a) : (Code.region id ops true).wp P Q a w := by
  refine wp_region_noPanic (wp_region_any hm ?_)
  obtain ⟨val, -, h2, h3⟩ := steps_vals (P := P) (ops := ops) a n 0 (fun _ => undef) h
  have hl : ∀ i, (Array.replicate ops.size false).getD i false = false := fun i => by
    simp [Array.getD]
  have hg := steady_go (P := P) (Q := NoPanic Q) (S := S) val a hst hsel (fun _ _ _ h => h) (fun i o ho => h2 i o (Nat.zero_le _) (by rw [← hn]; rw [Nat.zero_add]; exact (Array.getElem?_eq_some_iff.1 ho).1) ho) (fun w hS => by have := h3 w hS; rw [Nat.zero_add, ← hn] at this; exact this)
    ops.size (Array.replicate ops.size false) w.drew (by simp) (fun j hj => by have h9 : (Array.replicate ops.size false).getD j false = true := hj; rw [hl] at h9; cases h9) ?_ hS
  · have e : ∀ k, actX ops val a (fun i => (Array.replicate ops.size false).getD i false) k = a := fun k => by
      induction k with
      | zero => rfl
      | succ k ih => unfold actX; rw [if_neg (by rw [hl]; exact Bool.false_ne_true)]; exact ih
    rw [e] at hg
    exact hg
  · have : ∀ (l : Nat → Bool) k, unlX l k ≤ k := fun l k => by
      induction k with
      | zero => exact Nat.le_refl _
      | succ k ih => unfold unlX; split <;> omega
    exact this _ _
end Go.Proofs.YtjlfcbccpcigeacDoor
