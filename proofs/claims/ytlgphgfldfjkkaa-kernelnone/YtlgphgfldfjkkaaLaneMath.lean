/- What is due, in six lists by cycle, as the program keeps it; the Ops of a Slot; stores that wait: all of it against the document's own run; no Go in sight. -/
import Derived.Test.YtlgphgfldfjkkaaKernRun
namespace Go.Proofs.Ytlgphgfldfjkkaa
set_option linter.unusedVariables false

/-- those that are due in a cycle that leaves j -/
def lane (D : List Du) (j : Int) : List Du := D.filter fun d => decide (d.at_ % 6 = j)
/-- all are due within six cycles -/
def Win (now : Int) (D : List Du) : Prop := ∀ d ∈ D, now ≤ d.at_ ∧ d.at_ ≤ now + 5
/-- the first k of a list have become what is in their registers -/
def putN (l : List Du) (f : Nat → Int) : Nat → Nat → Int
  | 0 => f
  | k + 1 => put1 (putN l f k) (duAt l k).rg.toNat (duAt l k).v
theorem lane_snoc (D : List Du) (d : Du) (j : Int) : lane (D ++ [d]) j = if d.at_ % 6 = j then lane D j ++ [d] else lane D j := by
  unfold lane
  rw [List.filter_append]
  by_cases h : d.at_ % 6 = j
  · rw [if_pos h]; simp [h]
  · rw [if_neg h]; simp [h]
theorem lane_now {now : Int} {D : List Du} (h : Win now D) : lane D (now % 6) = D.filter fun d => decide (d.at_ = now) := by
  unfold lane
  refine List.filter_congr fun d hd => ?_
  have h1 := h d hd
  by_cases e : d.at_ = now
  · rw [decide_eq_true e, e, decide_eq_true rfl]
  · rw [decide_eq_false e, decide_eq_false (by omega)]
theorem duAt_left (D E : List Du) (k : Nat) (h : k < D.length) : duAt (D ++ E) k = duAt D k := by
  unfold duAt; simp [List.getD, List.getElem?_append, h]
theorem duAt_mid (D : List Du) (d : Du) : duAt (D ++ [d]) D.length = d := by
  unfold duAt; simp [List.getD]
theorem land_left (now : Int) (D E : List Du) (f : Nat → Int) : ∀ k, k ≤ D.length → landN now (D ++ E) f k = landN now D f k := by
  intro k
  induction k with
  | zero => exact fun _ => rfl
  | succ k ih =>
    intro hk
    show (if (duAt (D ++ E) k).at_ = now then _ else _) = (if (duAt D k).at_ = now then _ else _)
    rw [duAt_left _ _ _ (by omega), ih (by omega)]
theorem rest_left (now : Int) (D E : List Du) : ∀ k, k ≤ D.length → restN now (D ++ E) k = restN now D k := by
  intro k
  induction k with
  | zero => exact fun _ => rfl
  | succ k ih =>
    intro hk
    show (if (duAt (D ++ E) k).at_ = now then _ else _) = (if (duAt D k).at_ = now then _ else _)
    rw [duAt_left _ _ _ (by omega), ih (by omega)]
theorem putN_left (D E : List Du) (f : Nat → Int) : ∀ k, k ≤ D.length → putN (D ++ E) f k = putN D f k := by
  intro k
  induction k with
  | zero => exact fun _ => rfl
  | succ k ih =>
    intro hk
    show put1 (putN (D ++ E) f k) (duAt (D ++ E) k).rg.toNat (duAt (D ++ E) k).v = put1 (putN D f k) (duAt D k).rg.toNat (duAt D k).v
    rw [duAt_left _ _ _ (by omega), ih (by omega)]
theorem snoc_induct {α : Type} {p : List α → Prop} (h0 : p []) (hs : ∀ l a, p l → p (l ++ [a])) (l : List α) : p l := by
  rw [← List.reverse_reverse l]
  induction l.reverse with
  | nil => exact h0
  | cons a r ih => rw [List.reverse_cons]; exact hs _ _ ih
theorem land_filter (now : Int) (D : List Du) (f : Nat → Int) : landN now D f D.length = putN (D.filter fun d => decide (d.at_ = now)) f (D.filter fun d => decide (d.at_ = now)).length := by
  refine snoc_induct (p := fun D => landN now D f D.length = putN (D.filter fun d => decide (d.at_ = now)) f (D.filter fun d => decide (d.at_ = now)).length) rfl (fun l d ih => ?_) D
  rw [List.length_append, List.filter_append]
  show (if (duAt (l ++ [d]) l.length).at_ = now then put1 (landN now (l ++ [d]) f l.length) (duAt (l ++ [d]) l.length).rg.toNat (duAt (l ++ [d]) l.length).v else landN now (l ++ [d]) f l.length) = _
  rw [duAt_mid, land_left _ _ _ _ _ (Nat.le_refl _), ih]
  by_cases e : d.at_ = now
  · have h1 : ([d].filter fun d => decide (d.at_ = now)) = [d] := by simp [e]
    rw [if_pos e, h1, List.length_append]
    show _ = put1 (putN (_ ++ [d]) f (l.filter fun d => decide (d.at_ = now)).length) (duAt (_ ++ [d]) (l.filter fun d => decide (d.at_ = now)).length).rg.toNat (duAt (_ ++ [d]) (l.filter fun d => decide (d.at_ = now)).length).v
    rw [duAt_mid, putN_left _ _ _ _ (Nat.le_refl _)]
  · have h1 : ([d].filter fun d => decide (d.at_ = now)) = [] := by simp [e]
    rw [if_neg e, h1, List.append_nil]
theorem rest_filter (now : Int) (D : List Du) : restN now D D.length = D.filter fun d => !decide (d.at_ = now) := by
  refine snoc_induct (p := fun D => restN now D D.length = D.filter fun d => !decide (d.at_ = now)) rfl (fun l d ih => ?_) D
  rw [List.length_append, List.filter_append]
  show (if (duAt (l ++ [d]) l.length).at_ = now then restN now (l ++ [d]) l.length else restN now (l ++ [d]) l.length ++ [duAt (l ++ [d]) l.length]) = _
  rw [duAt_mid, rest_left _ _ _ _ (Nat.le_refl _), ih]
  by_cases e : d.at_ = now
  · rw [if_pos e]; simp [e]
  · rw [if_neg e]; simp [e]
/-- a list has landed: the registers -/
theorem land_lane {now : Int} {D : List Du} (h : Win now D) (f : Nat → Int) : landN now D f D.length = putN (lane D (now % 6)) f (lane D (now % 6)).length := by
  rw [land_filter, lane_now h]
theorem rest_lane {now : Int} {D : List Du} (h : Win now D) (j : Int) : lane (restN now D D.length) j = if j = now % 6 then [] else lane D j := by
  rw [rest_filter]
  unfold lane
  rw [List.filter_filter]
  by_cases e : j = now % 6
  · rw [if_pos e, List.filter_eq_nil_iff]
    intro d hd
    have h1 := h d hd
    simp only [Bool.and_eq_true, decide_eq_true_eq, Bool.not_eq_true', decide_eq_false_iff_not]
    omega
  · rw [if_neg e]
    refine List.filter_congr fun d hd => ?_
    by_cases e2 : d.at_ % 6 = j
    · rw [decide_eq_true e2, decide_eq_false (by omega)]; rfl
    · rw [decide_eq_false e2]; rfl
theorem rest_win {now : Int} {D : List Du} (h : Win now D) : ∀ d ∈ restN now D D.length, now + 1 ≤ d.at_ ∧ d.at_ ≤ now + 1 + 5 := by
  intro d hd
  rw [rest_filter, List.mem_filter] at hd
  have h1 := h d hd.1
  have h2 : ¬ d.at_ = now := by simpa using hd.2
  omega

/-- the Ops of a Slot, in order -/
def slotOf (l : List Kop) (s : Int) : List Kop := l.filter fun x => decide (x.sl = s)
def opsL (t : Tg) (logs : List Int) (pc turns now : Int) (f : Nat → Int) (m : Nat → Nat → Int) (q : Nx) (l : List Kop) : Nx := l.foldl (opK t logs pc turns now f m) q
theorem opsK_foldl (t : Tg) (K : Kn) (logs : List Int) (turns now : Int) (f : Nat → Int) (m : Nat → Nat → Int) (q : Nx) : ∀ k, k ≤ K.ops.length → opsK t K logs turns now f m q k = opsL t logs K.pc turns now f m q (K.ops.take k) := by
  intro k
  induction k with
  | zero => intro _; rfl
  | succ k ih =>
    intro hk
    show opK t logs K.pc turns now f m (opsK t K logs turns now f m q k) (opAt K.ops k) = _
    rw [ih (by omega)]
    unfold opsL
    rw [List.take_add_one, List.foldl_append]
    have h1 : K.ops[k]? = some (opAt K.ops k) := by unfold opAt; rw [List.getD, List.getElem?_eq_getElem (by omega)]; rfl
    rw [h1]
    rfl
theorem opsL_slot (t : Tg) (logs : List Int) (pc turns now : Int) (f : Nat → Int) (m : Nat → Nat → Int) : ∀ (l : List Kop) (q : Nx), opsL t logs pc turns now f m q l = opsL t logs pc turns now f m q (slotOf l (now % pc)) := by
  intro l
  induction l with
  | nil => exact fun _ => rfl
  | cons x l ih =>
    intro q
    show opsL t logs pc turns now f m (opK t logs pc turns now f m q x) l = _
    by_cases e : x.sl = now % pc
    · have h1 : slotOf (x :: l) (now % pc) = x :: slotOf l (now % pc) := by unfold slotOf; simp [e]
      rw [h1, ih]; rfl
    · have h1 : slotOf (x :: l) (now % pc) = slotOf l (now % pc) := by unfold slotOf; simp [e]
      have h2 : opK t logs pc turns now f m q x = q := by
        unfold opK actK
        rw [decide_eq_false e]; rfl
      rw [h1, h2, ih]
theorem opsK_slot (t : Tg) (K : Kn) (logs : List Int) (turns now : Int) (f : Nat → Int) (m : Nat → Nat → Int) (q : Nx) : opsK t K logs turns now f m q K.ops.length = opsL t logs K.pc turns now f m q (slotOf K.ops (now % K.pc)) := by
  rw [opsK_foldl _ _ _ _ _ _ _ _ _ (Nat.le_refl _), List.take_length, opsL_slot]
theorem opsL_snoc (t : Tg) (logs : List Int) (pc turns now : Int) (f : Nat → Int) (m : Nat → Nat → Int) (q : Nx) (l : List Kop) (k : Nat) (h : k < l.length) : opsL t logs pc turns now f m q (l.take (k + 1)) = opK t logs pc turns now f m (opsL t logs pc turns now f m q (l.take k)) (opAt l k) := by
  unfold opsL
  rw [List.take_add_one, List.foldl_append]
  have h1 : l[k]? = some (opAt l k) := by unfold opAt; rw [List.getD, List.getElem?_eq_getElem h]; rfl
  rw [h1]
  rfl
theorem slot_snoc (l : List Kop) (k : Nat) (s : Int) (h : k < l.length) : slotOf (l.take (k + 1)) s = if (opAt l k).sl = s then slotOf (l.take k) s ++ [opAt l k] else slotOf (l.take k) s := by
  have h1 : l[k]? = some (opAt l k) := by unfold opAt; rw [List.getD, List.getElem?_eq_getElem h]; rfl
  unfold slotOf
  rw [List.take_add_one, h1, List.filter_append]
  by_cases e : (opAt l k).sl = s
  · rw [if_pos e]; simp [e]
  · rw [if_neg e]; simp [e]
theorem slot_in {l : List Kop} {s : Int} {x : Kop} (h : x ∈ slotOf l s) : x ∈ l ∧ x.sl = s := by
  unfold slotOf at h
  rw [List.mem_filter] at h
  exact ⟨h.1, by simpa using h.2⟩

/-- a store that waits: array, word, number -/
structure Sto where
  i : Nat
  j : Nat
  v : Int
def stoAt (l : List Sto) (k : Nat) : Sto := l.getD k ⟨0, 0, 0⟩
/-- the first k stores are done -/
def stoN (l : List Sto) (m : Nat → Nat → Int) : Nat → Nat → Nat → Int
  | 0 => m
  | k + 1 => put2 (stoN l m k) (stoAt l k).i (stoAt l k).j (stoAt l k).v
theorem stoAt_left (l r : List Sto) (k : Nat) (h : k < l.length) : stoAt (l ++ r) k = stoAt l k := by
  unfold stoAt; simp [List.getD, List.getElem?_append, h]
theorem stoAt_mid (l : List Sto) (d : Sto) : stoAt (l ++ [d]) l.length = d := by
  unfold stoAt; simp [List.getD]
theorem stoN_left (l r : List Sto) (m : Nat → Nat → Int) : ∀ k, k ≤ l.length → stoN (l ++ r) m k = stoN l m k := by
  intro k
  induction k with
  | zero => exact fun _ => rfl
  | succ k ih =>
    intro hk
    show put2 (stoN (l ++ r) m k) (stoAt (l ++ r) k).i (stoAt (l ++ r) k).j (stoAt (l ++ r) k).v = put2 (stoN l m k) (stoAt l k).i (stoAt l k).j (stoAt l k).v
    rw [stoAt_left _ _ _ (by omega), ih (by omega)]
theorem stoN_snoc (l : List Sto) (d : Sto) (m : Nat → Nat → Int) : stoN (l ++ [d]) m (l ++ [d]).length = put2 (stoN l m l.length) d.i d.j d.v := by
  rw [List.length_append]
  show put2 (stoN (l ++ [d]) m l.length) (stoAt (l ++ [d]) l.length).i (stoAt (l ++ [d]) l.length).j (stoAt (l ++ [d]) l.length).v = _
  rw [stoAt_mid, stoN_left _ _ _ _ (Nat.le_refl _)]
/-- what waits when the Ops l have been done -/
def stosL (t : Tg) (logs : List Int) (pc turns now : Int) (f : Nat → Int) (m : Nat → Nat → Int) (l : List Kop) : List Sto :=
  (l.filter fun x => actK pc turns now x && decide (x.o = 4)).map fun x => ⟨x.ar.toNat, wordK logs pc now x, valK logs t.r pc now f m x⟩
theorem stos_snoc (t : Tg) (logs : List Int) (pc turns now : Int) (f : Nat → Int) (m : Nat → Nat → Int) (l : List Kop) (k : Nat) (h : k < l.length) : stosL t logs pc turns now f m (l.take (k + 1)) =
    if actK pc turns now (opAt l k) = true ∧ (opAt l k).o = 4 then stosL t logs pc turns now f m (l.take k) ++ [⟨(opAt l k).ar.toNat, wordK logs pc now (opAt l k), valK logs t.r pc now f m (opAt l k)⟩] else stosL t logs pc turns now f m (l.take k) := by
  have h1 : l[k]? = some (opAt l k) := by unfold opAt; rw [List.getD, List.getElem?_eq_getElem h]; rfl
  unfold stosL
  rw [List.take_add_one, h1, List.filter_append, List.map_append]
  by_cases e : actK pc turns now (opAt l k) = true ∧ (opAt l k).o = 4
  · rw [if_pos e]; simp [e.1, e.2]
  · rw [if_neg e]
    have h2 : (actK pc turns now (opAt l k) && decide ((opAt l k).o = 4)) = false := by
      rw [Bool.and_eq_false_iff]
      by_cases e1 : actK pc turns now (opAt l k) = true
      · exact .inr (decide_eq_false fun e2 => e ⟨e1, e2⟩)
      · exact .inl (by simpa using e1)
    simp [h2]
theorem nx_stos (t : Tg) (logs : List Int) (pc turns now : Int) (f : Nat → Int) (m : Nat → Nat → Int) (du : List Du) (l : List Kop) : ∀ k, k ≤ l.length → (opsL t logs pc turns now f m ⟨m, du⟩ (l.take k)).nx = stoN (stosL t logs pc turns now f m (l.take k)) m (stosL t logs pc turns now f m (l.take k)).length := by
  intro k
  induction k with
  | zero => intro _; rfl
  | succ k ih =>
    intro hk
    rw [opsL_snoc _ _ _ _ _ _ _ _ _ _ hk, stos_snoc _ _ _ _ _ _ _ _ _ hk]
    have ih' := ih (by omega)
    by_cases e1 : actK pc turns now (opAt l k) = true
    · by_cases e2 : (opAt l k).o = 4
      · rw [if_pos (show actK pc turns now (opAt l k) = true ∧ (opAt l k).o = 4 from ⟨e1, e2⟩), stoN_snoc, ← ih']
        unfold opK
        rw [if_pos e1]
        show (if (opAt l k).o = 4 then _ else _) = _
        rw [if_pos e2]
      · rw [if_neg (show ¬ (actK pc turns now (opAt l k) = true ∧ (opAt l k).o = 4) from fun h => e2 h.2), ← ih']
        unfold opK
        rw [if_pos e1]
        show (if (opAt l k).o = 4 then _ else _) = _
        rw [if_neg e2]
    · rw [if_neg (show ¬ (actK pc turns now (opAt l k) = true ∧ (opAt l k).o = 4) from fun h => e1 h.1), ← ih']
      unfold opK
      rw [if_neg e1]
end Go.Proofs.Ytlgphgfldfjkkaa
