/- A region that draws its order and ends in a store that waits for all else: what the loads read need hold until that store alone; no Go in sight. -/
import Derived.Deep.RegionHeld3
namespace Go.Proofs.Ytpljieenjkbmmaa
set_option linter.unusedVariables false
variable {P : Program} {ops : Array Oper} {Q : Exit → Act → World → Prop} {md : Region.Mode} {S : World → Prop} {z : Nat}

/-- whatever order is picked from here on; behind each operation but number z the world meets S -/
def anyU (P : Program) (md : Region.Mode) (ops : Array Oper) (Q : Exit → Act → World → Prop) (S : World → Prop) (z : Nat) : Nat → Array Bool → Act → World → Prop
  | 0, listed, a, w => Region.ready md ops listed = [] ∧ Q .normal a w
  | fuel + 1, listed, a, w =>
    (Region.ready md ops listed = [] → Q .normal a w) ∧
    ∀ i ∈ Region.ready md ops listed, wpOp P ops Q i (fun a' w' => (i = z ∨ S w') ∧ anyU P md ops Q S z fuel (listed.setIfInBounds i true) a' w') a w
theorem any_of_until : ∀ (fuel : Nat) (listed : Array Bool) (a : Act) (w : World), anyU P md ops Q S z fuel listed a w → wpAny P md ops Q fuel listed a w
  | 0, _, _, _, h => h
  | fuel + 1, _, _, _, h => ⟨h.1, fun i hi => wpOp_mono (fun a' w' k => any_of_until fuel _ a' w' k.2) (h.2 i hi)⟩
/-- number z waits for number i -/
def waits (md : Region.Mode) (ops : Array Oper) (z i : Nat) : Bool := match ops[z]? with
  | some o => o.after.any fun e => Region.binds md e && e.on == i
  | none => true
theorem waits_spec {i : Nat} {o : Oper} (h : waits md ops z i = true) (ho : ops[z]? = some o) : ∃ e ∈ o.after, Region.binds md e = true ∧ e.on = i := by
  unfold waits at h
  rw [ho] at h
  obtain ⟨j, hj, hb⟩ := Array.any_eq_true.1 h
  simp only [Bool.and_eq_true, beq_iff_eq] at hb
  exact ⟨o.after[j], Array.getElem_mem hj, hb.1, hb.2⟩
/-- what is not listed binds -/
theorem unlisted {i : Nat} {oj : Oper} {listed : Array Bool} (h0 : listed.getD i true = false) (hall : ∀ e ∈ oj.after, Region.binds md e = true → listed.getD e.on false = true) : ∀ e ∈ oj.after, Region.binds md e = true → e.on ≠ i := by
  intro e he hb heq
  have h1 := hall e he hb
  rw [heq] at h1
  by_cases hs : i < listed.size
  · simp [Array.getD, hs] at h0 h1
    rw [h0] at h1
    cases h1
  · simp [Array.getD, hs] at h1
/-- number z waits for number i, or for one that waits for it -/
def Held (md : Region.Mode) (ops : Array Oper) (listed : Array Bool) (z i : Nat) : Prop := waits md ops z i = true ∨ ∃ j, waits md ops z j = true ∧ waits md ops j i = true ∧ listed.getD j true = false
def heldB (md : Region.Mode) (ops : Array Oper) (listed : Array Bool) (z i : Nat) : Bool := waits md ops z i || (List.range ops.size).any fun j => waits md ops z j && waits md ops j i && !(listed.getD j true)
theorem held_of {listed : Array Bool} {i : Nat} (h : heldB md ops listed z i = true) : Held md ops listed z i := by
  unfold heldB at h
  rcases Bool.or_eq_true_iff.1 h with h | h
  · exact .inl h
  · obtain ⟨j, -, hj⟩ := List.any_eq_true.1 h
    simp only [Bool.and_eq_true, Bool.not_eq_true'] at hj
    exact .inr ⟨j, hj.1.1, hj.1.2, hj.2⟩
theorem not_ready {i j : Nat} {oj : Oper} {listed : Array Bool} (hw : waits md ops j i = true) (h0 : listed.getD i true = false) (hoj : ops[j]? = some oj) (hall : ∀ e ∈ oj.after, Region.binds md e = true → listed.getD e.on false = true) : False := by
  obtain ⟨e, he, hb, hon⟩ := waits_spec hw hoj
  exact unlisted h0 hall e he hb hon
theorem until_first {i : Nat} {oi : Oper} {v : Value} (hi : ops[i]? = some oi) (hsel : ∀ (j : Nat) (o : Oper) cs b, ops[j]? = some o → o.op ≠ .select cs b)
    (hQ : ∀ c a w, Q (.panic c) (a.put oi.dst v) w → Q (.panic c) a w) : ∀ (fuel : Nat) (listed : Array Bool) (a : Act) (w : World), Held md ops listed z i →
      (∀ j oj, ops[j]? = some oj → j ≠ i → listed.getD j true = false → (∀ e ∈ oj.after, Region.binds md e = true → e.on ≠ i) → oi.apart ops oj = true) →
      i ∈ Region.ready md ops listed → YieldsIf P ops S oi v a → S w → anyU P md ops Q S z fuel (listed.setIfInBounds i true) (a.put oi.dst v) w → anyU P md ops Q S z (fuel + 1) listed a w := by
  intro fuel
  induction fuel with
  | zero =>
    intro listed a w _ _ hr hy hS H
    refine ⟨fun h => absurd hr (by rw [h]; simp), fun j hj => ?_⟩
    by_cases hji : j = i
    · subst hji; exact hy.wpOp hi hS ⟨.inr hS, H⟩
    · have hm := ready_mono hj hji
      rw [H.1] at hm
      cases hm
  | succ fuel ih =>
    intro listed a w hz hfree hr hy hS H
    refine ⟨fun h => absurd hr (by rw [h]; simp), fun j hj => ?_⟩
    by_cases hji : j = i
    · subst hji; exact hy.wpOp hi hS ⟨.inr hS, H⟩
    · obtain ⟨hun, oj, hoj, hall⟩ := mem_ready.1 hj
      have hi0 := (mem_ready.1 hr).1
      have hnot := unlisted (oj := oj) hi0 hall
      have hjz : j ≠ z := fun e => by
        subst e
        rcases hz with hz | ⟨q, h1, h2, h3⟩
        · exact not_ready hz hi0 hoj hall
        · exact not_ready h1 h3 hoj hall
      have hz' : Held md ops (listed.setIfInBounds j true) z i := by
        rcases hz with hz | ⟨q, h1, h2, h3⟩
        · exact .inl hz
        · refine .inr ⟨q, h1, h2, ?_⟩
          have hq : j ≠ q := fun e => by subst e; exact not_ready h2 hi0 hoj hall
          rw [getD_set_ne true hq]; exact h3
      have hstep := wpOp_putIf hoj (hfree j oj hoj hji hun hnot) (fun cs b => hsel i oi cs b hi) (fun cs b => hsel j oj cs b hoj) hQ hy (H.2 j (ready_mono hj hji))
      refine wpOp_mono (fun a' w' k => ?_) hstep
      have hS' : S w' := k.2.1.resolve_left hjz
      refine ⟨.inr hS', ih _ a' w' hz' (fun q oq hq hqi hqu hno => hfree q oq hq hqi ?_ hno) (ready_mono hr (Ne.symm hji)) k.1 hS' ?_⟩
      · by_cases e : j = q
        · subst e; exact hun
        · rw [getD_set_ne true e] at hqu; exact hqu
      · rw [Array.setIfInBounds_comm _ _ hji]; exact k.2.2
theorem at_drop {i : Nat} {oi : Oper} {rest : List Oper} (h : ops.toList.drop i = oi :: rest) : ops[i]? = some oi := by
  have h1 : (ops.toList.drop i)[0]? = some oi := by rw [h]; rfl
  rw [List.getElem?_drop] at h1
  simpa using h1
theorem until_take {i : Nat} {oi : Oper} {rest : List Oper} {v : Value} {fuel : Nat} {listed : Array Bool} {a : Act} {w : World} (hd : ops.toList.drop i = oi :: rest)
    (hs : Region.noSelect ops = true) (hf : Region.free md ops listed i = true) (hr : (Region.ready md ops listed).contains i = true) (hz : heldB md ops listed z i = true)
    (hQ : ∀ c a w, Q (.panic c) (a.put oi.dst v) w → Q (.panic c) a w) (hy : YieldsIf P ops S oi v a) (hS : S w)
    (h : anyU P md ops Q S z fuel (listed.setIfInBounds i true) (a.put oi.dst v) w) : anyU P md ops Q S z (fuel + 1) listed a w :=
  until_first (at_drop hd) (Region.noSelect_spec hs) hQ fuel listed a w (held_of hz) (Region.free_spec (at_drop hd) hf) (by simpa using hr) hy hS h
/-- number i alone may come up -/
theorem until_one {i : Nat} {o : Oper} {rest : List Oper} {fuel : Nat} {listed : Array Bool} {a : Act} {w : World} (hd : ops.toList.drop i = o :: rest) (hr : Region.ready md ops listed = [i])
    (h : ∀ K' : Act → World → Prop, Shut (∀ a w, (i = z ∨ S w) → anyU P md ops Q S z fuel (listed.setIfInBounds i true) a w → K' a w) → if Region.wanted o (yielded ops a.tmps) = true then Oper.wp P o a w K' Q else K' (a.put o.dst undef) w) :
    anyU P md ops Q S z (fuel + 1) listed a w :=
  ⟨fun h0 => absurd (hr ▸ h0) (by simp), fun j hj => by
    rw [hr] at hj
    have e : j = i := by simpa using hj
    subst e
    exact wpOp_step (at_drop hd) (fun K' hK => h K' (fun a w hS hW => hK a w ⟨hS, hW⟩))⟩
theorem until_done {listed : Array Bool} {a : Act} {w : World} (hr : Region.ready md ops listed = []) (h : Q .normal a w) : ∀ fuel, anyU P md ops Q S z fuel listed a w
  | 0 => ⟨hr, h⟩
  | _ + 1 => ⟨fun _ => h, by rw [hr]; simp⟩
/-- the beginning -/
theorem region_until {id : Nat} {a : Act} {w : World} (z : Nat) (S : World → Prop) (hm : P.follows .mixedOrders = true) (hS : S w.drew) (h : S w.drew → anyU P .any ops Q S z ops.size (Array.replicate ops.size false) a w.drew) : (Code.region id ops true).wp P Q a w :=
  wp_region_any hm (any_of_until _ _ _ _ (h hS))
end Go.Proofs.Ytpljieenjkbmmaa
