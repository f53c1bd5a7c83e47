/- KernM: texts that are built as one: LaneMath, KernMach, KernRead, KernLand, KernSto, KernPush. -/
import Derived.Test.YtpljieenjkbmmaaMaths
import Derived.Test.YtpljieenjkbmmaaRounds
import Derived.Test.YtpljieenjkbmmaaRef3A
import Derived.Test.YtpljieenjkbmmaaBase
import Derived.Test.YtpljieenjkbmmaaKernS
import Derived.Test.YtpljieenjkbmmaaNums
import Derived.Deep.QuietTactic
import Derived.BigQuiet
import Derived.Test.YtpljieenjkbmmaaRef5A
import Derived.Test.YtpljieenjkbmmaaTarget
/- What is due, in six lists by cycle, as the program keeps it; the Ops of a Slot; stores that wait: all of it against the document's own run; no Go in sight. -/
namespace Go.Proofs.Ytpljieenjkbmmaa
set_option linter.unusedVariables false

/-- those that are due in a cycle that leaves j -/
def lane (D : List Du) (j : Int) : List Du := D.filter fun d => decide (d.at_ % 6 = j)
/-- all are due within six cycles -/
def Win (now : Int) (D : List Du) : Prop := ∀ d ∈ D, now ≤ d.at_ ∧ d.at_ ≤ now + 5
/-- the first k of a list have become what is in their registers -/
def putN (l : List Du) (f : Nat → Int) : Nat → Nat → Int
  | 0 => f
  | k + 1 => put1 (putN l f k) (duAt l k).rg.toNat (duAt l k).v
theorem lane_snoc (D : List Du) (d : Du) (j : Int) : lane (D ++ [d]) j = if d.at_ % 6 = j then lane D j ++ [d] else lane D j := by
  unfold lane
  rw [List.filter_append]
  by_cases h : d.at_ % 6 = j
  · rw [if_pos h]; simp [h]
  · rw [if_neg h]; simp [h]
theorem lane_now {now : Int} {D : List Du} (h : Win now D) : lane D (now % 6) = D.filter fun d => decide (d.at_ = now) := by
  unfold lane
  refine List.filter_congr fun d hd => ?_
  have h1 := h d hd
  by_cases e : d.at_ = now
  · rw [decide_eq_true e, e, decide_eq_true rfl]
  · rw [decide_eq_false e, decide_eq_false (by omega)]
theorem duAt_left (D E : List Du) (k : Nat) (h : k < D.length) : duAt (D ++ E) k = duAt D k := by
  unfold duAt; simp [List.getD, List.getElem?_append, h]
theorem duAt_mid (D : List Du) (d : Du) : duAt (D ++ [d]) D.length = d := by
  unfold duAt; simp [List.getD]
theorem land_left (now : Int) (D E : List Du) (f : Nat → Int) : ∀ k, k ≤ D.length → landN now (D ++ E) f k = landN now D f k := by
  intro k
  induction k with
  | zero => exact fun _ => rfl
  | succ k ih =>
    intro hk
    show (if (duAt (D ++ E) k).at_ = now then _ else _) = (if (duAt D k).at_ = now then _ else _)
    rw [duAt_left _ _ _ (by omega), ih (by omega)]
theorem rest_left (now : Int) (D E : List Du) : ∀ k, k ≤ D.length → restN now (D ++ E) k = restN now D k := by
  intro k
  induction k with
  | zero => exact fun _ => rfl
  | succ k ih =>
    intro hk
    show (if (duAt (D ++ E) k).at_ = now then _ else _) = (if (duAt D k).at_ = now then _ else _)
    rw [duAt_left _ _ _ (by omega), ih (by omega)]
theorem putN_left (D E : List Du) (f : Nat → Int) : ∀ k, k ≤ D.length → putN (D ++ E) f k = putN D f k := by
  intro k
  induction k with
  | zero => exact fun _ => rfl
  | succ k ih =>
    intro hk
    show put1 (putN (D ++ E) f k) (duAt (D ++ E) k).rg.toNat (duAt (D ++ E) k).v = put1 (putN D f k) (duAt D k).rg.toNat (duAt D k).v
    rw [duAt_left _ _ _ (by omega), ih (by omega)]
theorem snoc_induct {α : Type} {p : List α → Prop} (h0 : p []) (hs : ∀ l a, p l → p (l ++ [a])) (l : List α) : p l := by
  rw [← List.reverse_reverse l]
  induction l.reverse with
  | nil => exact h0
  | cons a r ih => rw [List.reverse_cons]; exact hs _ _ ih
theorem land_filter (now : Int) (D : List Du) (f : Nat → Int) : landN now D f D.length = putN (D.filter fun d => decide (d.at_ = now)) f (D.filter fun d => decide (d.at_ = now)).length := by
  refine snoc_induct (p := fun D => landN now D f D.length = putN (D.filter fun d => decide (d.at_ = now)) f (D.filter fun d => decide (d.at_ = now)).length) rfl (fun l d ih => ?_) D
  rw [List.length_append, List.filter_append]
  show (if (duAt (l ++ [d]) l.length).at_ = now then put1 (landN now (l ++ [d]) f l.length) (duAt (l ++ [d]) l.length).rg.toNat (duAt (l ++ [d]) l.length).v else landN now (l ++ [d]) f l.length) = _
  rw [duAt_mid, land_left _ _ _ _ _ (Nat.le_refl _), ih]
  by_cases e : d.at_ = now
  · have h1 : ([d].filter fun d => decide (d.at_ = now)) = [d] := by simp [e]
    rw [if_pos e, h1, List.length_append]
    show _ = put1 (putN (_ ++ [d]) f (l.filter fun d => decide (d.at_ = now)).length) (duAt (_ ++ [d]) (l.filter fun d => decide (d.at_ = now)).length).rg.toNat (duAt (_ ++ [d]) (l.filter fun d => decide (d.at_ = now)).length).v
    rw [duAt_mid, putN_left _ _ _ _ (Nat.le_refl _)]
  · have h1 : ([d].filter fun d => decide (d.at_ = now)) = [] := by simp [e]
    rw [if_neg e, h1, List.append_nil]
theorem rest_filter (now : Int) (D : List Du) : restN now D D.length = D.filter fun d => !decide (d.at_ = now) := by
  refine snoc_induct (p := fun D => restN now D D.length = D.filter fun d => !decide (d.at_ = now)) rfl (fun l d ih => ?_) D
  rw [List.length_append, List.filter_append]
  show (if (duAt (l ++ [d]) l.length).at_ = now then restN now (l ++ [d]) l.length else restN now (l ++ [d]) l.length ++ [duAt (l ++ [d]) l.length]) = _
  rw [duAt_mid, rest_left _ _ _ _ (Nat.le_refl _), ih]
  by_cases e : d.at_ = now
  · rw [if_pos e]; simp [e]
  · rw [if_neg e]; simp [e]
/-- a list has landed: the registers -/
theorem land_lane {now : Int} {D : List Du} (h : Win now D) (f : Nat → Int) : landN now D f D.length = putN (lane D (now % 6)) f (lane D (now % 6)).length := by
  rw [land_filter, lane_now h]
theorem rest_lane {now : Int} {D : List Du} (h : Win now D) (j : Int) : lane (restN now D D.length) j = if j = now % 6 then [] else lane D j := by
  rw [rest_filter]
  unfold lane
  rw [List.filter_filter]
  by_cases e : j = now % 6
  · rw [if_pos e, List.filter_eq_nil_iff]
    intro d hd
    have h1 := h d hd
    simp only [Bool.and_eq_true, decide_eq_true_eq, Bool.not_eq_true', decide_eq_false_iff_not]
    omega
  · rw [if_neg e]
    refine List.filter_congr fun d hd => ?_
    by_cases e2 : d.at_ % 6 = j
    · rw [decide_eq_true e2, decide_eq_false (by omega)]; rfl
    · rw [decide_eq_false e2]; rfl
theorem rest_win {now : Int} {D : List Du} (h : Win now D) : ∀ d ∈ restN now D D.length, now + 1 ≤ d.at_ ∧ d.at_ ≤ now + 1 + 5 := by
  intro d hd
  rw [rest_filter, List.mem_filter] at hd
  have h1 := h d hd.1
  have h2 : ¬ d.at_ = now := by simpa using hd.2
  omega

/-- the Ops of a Slot, in order -/
def slotOf (l : List Kop) (s : Int) : List Kop := l.filter fun x => decide (x.sl = s)
def opsL (t : Tg) (logs : List Int) (pc turns now : Int) (f : Nat → Int) (m : Nat → Nat → Int) (q : Nx) (l : List Kop) : Nx := l.foldl (opK t logs pc turns now f m) q
theorem opsK_foldl (t : Tg) (K : Kn) (logs : List Int) (turns now : Int) (f : Nat → Int) (m : Nat → Nat → Int) (q : Nx) : ∀ k, k ≤ K.ops.length → opsK t K logs turns now f m q k = opsL t logs K.pc turns now f m q (K.ops.take k) := by
  intro k
  induction k with
  | zero => intro _; rfl
  | succ k ih =>
    intro hk
    show opK t logs K.pc turns now f m (opsK t K logs turns now f m q k) (opAt K.ops k) = _
    rw [ih (by omega)]
    unfold opsL
    rw [List.take_add_one, List.foldl_append]
    have h1 : K.ops[k]? = some (opAt K.ops k) := by unfold opAt; rw [List.getD, List.getElem?_eq_getElem (by omega)]; rfl
    rw [h1]
    rfl
theorem opsL_slot (t : Tg) (logs : List Int) (pc turns now : Int) (f : Nat → Int) (m : Nat → Nat → Int) : ∀ (l : List Kop) (q : Nx), opsL t logs pc turns now f m q l = opsL t logs pc turns now f m q (slotOf l (now % pc)) := by
  intro l
  induction l with
  | nil => exact fun _ => rfl
  | cons x l ih =>
    intro q
    show opsL t logs pc turns now f m (opK t logs pc turns now f m q x) l = _
    by_cases e : x.sl = now % pc
    · have h1 : slotOf (x :: l) (now % pc) = x :: slotOf l (now % pc) := by unfold slotOf; simp [e]
      rw [h1, ih]; rfl
    · have h1 : slotOf (x :: l) (now % pc) = slotOf l (now % pc) := by unfold slotOf; simp [e]
      have h2 : opK t logs pc turns now f m q x = q := by
        unfold opK actK
        rw [decide_eq_false e]; rfl
      rw [h1, h2, ih]
theorem opsK_slot (t : Tg) (K : Kn) (logs : List Int) (turns now : Int) (f : Nat → Int) (m : Nat → Nat → Int) (q : Nx) : opsK t K logs turns now f m q K.ops.length = opsL t logs K.pc turns now f m q (slotOf K.ops (now % K.pc)) := by
  rw [opsK_foldl _ _ _ _ _ _ _ _ _ (Nat.le_refl _), List.take_length, opsL_slot]
theorem opsL_snoc (t : Tg) (logs : List Int) (pc turns now : Int) (f : Nat → Int) (m : Nat → Nat → Int) (q : Nx) (l : List Kop) (k : Nat) (h : k < l.length) : opsL t logs pc turns now f m q (l.take (k + 1)) = opK t logs pc turns now f m (opsL t logs pc turns now f m q (l.take k)) (opAt l k) := by
  unfold opsL
  rw [List.take_add_one, List.foldl_append]
  have h1 : l[k]? = some (opAt l k) := by unfold opAt; rw [List.getD, List.getElem?_eq_getElem h]; rfl
  rw [h1]
  rfl
theorem slot_snoc (l : List Kop) (k : Nat) (s : Int) (h : k < l.length) : slotOf (l.take (k + 1)) s = if (opAt l k).sl = s then slotOf (l.take k) s ++ [opAt l k] else slotOf (l.take k) s := by
  have h1 : l[k]? = some (opAt l k) := by unfold opAt; rw [List.getD, List.getElem?_eq_getElem h]; rfl
  unfold slotOf
  rw [List.take_add_one, h1, List.filter_append]
  by_cases e : (opAt l k).sl = s
  · rw [if_pos e]; simp [e]
  · rw [if_neg e]; simp [e]
theorem slot_in {l : List Kop} {s : Int} {x : Kop} (h : x ∈ slotOf l s) : x ∈ l ∧ x.sl = s := by
  unfold slotOf at h
  rw [List.mem_filter] at h
  exact ⟨h.1, by simpa using h.2⟩

/-- a store that waits: array, word, number -/
structure Sto where
  i : Nat
  j : Nat
  v : Int
def stoAt (l : List Sto) (k : Nat) : Sto := l.getD k ⟨0, 0, 0⟩
/-- the first k stores are done -/
def stoN (l : List Sto) (m : Nat → Nat → Int) : Nat → Nat → Nat → Int
  | 0 => m
  | k + 1 => put2 (stoN l m k) (stoAt l k).i (stoAt l k).j (stoAt l k).v
theorem stoAt_left (l r : List Sto) (k : Nat) (h : k < l.length) : stoAt (l ++ r) k = stoAt l k := by
  unfold stoAt; simp [List.getD, List.getElem?_append, h]
theorem stoAt_mid (l : List Sto) (d : Sto) : stoAt (l ++ [d]) l.length = d := by
  unfold stoAt; simp [List.getD]
theorem stoN_left (l r : List Sto) (m : Nat → Nat → Int) : ∀ k, k ≤ l.length → stoN (l ++ r) m k = stoN l m k := by
  intro k
  induction k with
  | zero => exact fun _ => rfl
  | succ k ih =>
    intro hk
    show put2 (stoN (l ++ r) m k) (stoAt (l ++ r) k).i (stoAt (l ++ r) k).j (stoAt (l ++ r) k).v = put2 (stoN l m k) (stoAt l k).i (stoAt l k).j (stoAt l k).v
    rw [stoAt_left _ _ _ (by omega), ih (by omega)]
theorem stoN_snoc (l : List Sto) (d : Sto) (m : Nat → Nat → Int) : stoN (l ++ [d]) m (l ++ [d]).length = put2 (stoN l m l.length) d.i d.j d.v := by
  rw [List.length_append]
  show put2 (stoN (l ++ [d]) m l.length) (stoAt (l ++ [d]) l.length).i (stoAt (l ++ [d]) l.length).j (stoAt (l ++ [d]) l.length).v = _
  rw [stoAt_mid, stoN_left _ _ _ _ (Nat.le_refl _)]
/-- what waits when the Ops l have been done -/
def stosL (t : Tg) (logs : List Int) (pc turns now : Int) (f : Nat → Int) (m : Nat → Nat → Int) (l : List Kop) : List Sto :=
  (l.filter fun x => actK pc turns now x && decide (x.o = 4)).map fun x => ⟨x.ar.toNat, wordK logs pc now x, valK logs t.r pc now f m x⟩
theorem stos_snoc (t : Tg) (logs : List Int) (pc turns now : Int) (f : Nat → Int) (m : Nat → Nat → Int) (l : List Kop) (k : Nat) (h : k < l.length) : stosL t logs pc turns now f m (l.take (k + 1)) =
    if actK pc turns now (opAt l k) = true ∧ (opAt l k).o = 4 then stosL t logs pc turns now f m (l.take k) ++ [⟨(opAt l k).ar.toNat, wordK logs pc now (opAt l k), valK logs t.r pc now f m (opAt l k)⟩] else stosL t logs pc turns now f m (l.take k) := by
  have h1 : l[k]? = some (opAt l k) := by unfold opAt; rw [List.getD, List.getElem?_eq_getElem h]; rfl
  unfold stosL
  rw [List.take_add_one, h1, List.filter_append, List.map_append]
  by_cases e : actK pc turns now (opAt l k) = true ∧ (opAt l k).o = 4
  · rw [if_pos e]; simp [e.1, e.2]
  · rw [if_neg e]
    have h2 : (actK pc turns now (opAt l k) && decide ((opAt l k).o = 4)) = false := by
      rw [Bool.and_eq_false_iff]
      by_cases e1 : actK pc turns now (opAt l k) = true
      · exact .inr (decide_eq_false fun e2 => e ⟨e1, e2⟩)
      · exact .inl (by simpa using e1)
    simp [h2]
theorem nx_stos (t : Tg) (logs : List Int) (pc turns now : Int) (f : Nat → Int) (m : Nat → Nat → Int) (du : List Du) (l : List Kop) : ∀ k, k ≤ l.length → (opsL t logs pc turns now f m ⟨m, du⟩ (l.take k)).nx = stoN (stosL t logs pc turns now f m (l.take k)) m (stosL t logs pc turns now f m (l.take k)).length := by
  intro k
  induction k with
  | zero => intro _; rfl
  | succ k ih =>
    intro hk
    rw [opsL_snoc _ _ _ _ _ _ _ _ _ _ hk, stos_snoc _ _ _ _ _ _ _ _ _ hk]
    have ih' := ih (by omega)
    by_cases e1 : actK pc turns now (opAt l k) = true
    · by_cases e2 : (opAt l k).o = 4
      · rw [if_pos (show actK pc turns now (opAt l k) = true ∧ (opAt l k).o = 4 from ⟨e1, e2⟩), stoN_snoc, ← ih']
        unfold opK
        rw [if_pos e1]
        show (if (opAt l k).o = 4 then _ else _) = _
        rw [if_pos e2]
      · rw [if_neg (show ¬ (actK pc turns now (opAt l k) = true ∧ (opAt l k).o = 4) from fun h => e2 h.2), ← ih']
        unfold opK
        rw [if_pos e1]
        show (if (opAt l k).o = 4 then _ else _) = _
        rw [if_neg e2]
    · rw [if_neg (show ¬ (actK pc turns now (opAt l k) = true ∧ (opAt l k).o = 4) from fun h => e1 h.1), ← ih']
      unfold opK
      rw [if_neg e1]
end Go.Proofs.Ytpljieenjkbmmaa
/- Where a run of a kernel stands in memory, by the program: the machine, its registers, the words, what is due; what stores, appends and callees leave of it. -/
namespace Go.Proofs.Ytpljieenjkbmmaa
open Go.RowKit Go.Joins
set_option linter.unusedVariables false

/-- rows of results, two cells each -/
def reCells (d : Du) : List Value := [.int .i64 d.rg, .int .i64 d.v]
def flatR (l : List Du) : List Value := l.flatMap reCells
theorem flatR_nil : flatR [] = [] := rfl
theorem flatR_snoc (l : List Du) (d : Du) : flatR l ++ reCells d = flatR (l ++ [d]) := by unfold flatR; simp
theorem flatR_len (l : List Du) : (flatR l).length = l.length * 2 := by
  induction l with
  | nil => rfl
  | cons d l ih =>
    show (reCells d ++ flatR l).length = (l.length + 1) * 2
    rw [List.length_append, ih]
    show 2 + _ = _
    omega
theorem flatR_get (l : List Du) : ∀ i c, i < l.length → c < 2 → (flatR l)[i * 2 + c]? = (reCells (duAt l i))[c]? := by
  induction l with
  | nil => intro i c h; exact absurd h (Nat.not_lt_zero _)
  | cons d l ih =>
    intro i c h hc
    show (reCells d ++ flatR l)[i * 2 + c]? = _
    have h3 : (reCells d).length = 2 := rfl
    cases i with
    | zero =>
      rw [List.getElem?_append_left (by omega), Nat.zero_mul, Nat.zero_add]
      rfl
    | succ i =>
      rw [List.getElem?_append_right (by omega), h3, show (i + 1) * 2 + c - 2 = i * 2 + c from by omega, ih i c (by simpa using h) hc]
      rfl
theorem res_cells {w : World} {base : Nat} {e : TypeId} {v : Value} {l : List Du} (h : w.ownsRow base e 2 v l.length (flatR l)) (hp : 0 < l.length) :
    ∃ g cap, v = .slice (some ⟨g, 0, none⟩) l.length cap ∧ base ≤ g ∧ l.length ≤ cap ∧ cap ≤ maxLen ∧ g < w.heap.size ∧
      ∀ i, i < l.length → w.cell? ⟨g, i * 2, none⟩ = some (.int .i64 (duAt l i).rg) ∧ w.cell? ⟨g, i * 2 + 1, none⟩ = some (.int .i64 (duAt l i).v) := by
  obtain ⟨hl, h⟩ := h
  rcases h with ⟨_, hn⟩ | ⟨g, cap, cur, rfl, hg, hb, hn, hm, hc, ht⟩
  · omega
  · have key : ∀ i c, i < l.length → c < 2 → w.cell? ⟨g, i * 2 + c, none⟩ = (reCells (duAt l i))[c]? := fun i c hi hc3 => by
      rw [cell_of_block hb, ← flatR_get l i c hi hc3, ← ht, List.getElem?_take, if_pos (by omega)]
      simp
    exact ⟨g, cap, rfl, hg, hn, hm, (Array.getElem?_eq_some_iff.1 hb).1, fun i hi => ⟨key i 0 hi (by omega), key i 1 hi (by omega)⟩⟩
/-- a row, cut to none -/
def cut0 : Value → Value
  | .slice a _ c => .slice a 0 c
  | v => v
theorem cut0_own {w : World} {base sz : Nat} {e : TypeId} {v : Value} {n : Nat} {xs : List Value} (h : w.ownsRow base e sz v n xs) : w.ownsRow base e sz (cut0 v) 0 [] := by
  obtain ⟨hl, h⟩ := h
  refine ⟨by simp, ?_⟩
  rcases h with ⟨rfl, _⟩ | ⟨g, cap, cur, rfl, hg, hb, hn, hm, hc, ht⟩
  · exact .inl ⟨rfl, rfl⟩
  · exact .inr ⟨g, cap, cur, rfl, hg, hb, Nat.zero_le _, hm, hc, by simp⟩
theorem cut0_block {w : World} {base sz : Nat} {e : TypeId} {v : Value} {n : Nat} {xs : List Value} (h : w.ownsRow base e sz v n xs) : (cut0 v).ownBlock = v.ownBlock := by
  obtain ⟨hl, h⟩ := h
  rcases h with ⟨rfl, _⟩ | ⟨g, cap, cur, rfl, hg, hb, hn, hm, hc, ht⟩ <;> rfl

/-- what a run leaves as it is: w0: as Run began; w1: as the cycles began; A: the machine; gr: the registers' row; GM i: the words' rows -/
structure Mc where
  w0 : World
  w1 : World
  A : Nat
  t : Tg
  pc : Int
  st : Int
  kv : Value
  lv : Value
  mv : Value
  turns : Int
  R : Nat
  gr : Nat
  cr : Nat
  n : Nat
  lenM : Nat → Nat
  GM : Nat → Nat
/-- all but the machine, its registers and its words is as it was -/
def KeptM (c : Mc) (x : World) : Prop := c.w1.heap.size ≤ x.heap.size ∧ ∀ g, g < c.w1.heap.size → g ≠ c.A → g ≠ c.gr → (∀ i, i < c.n → g ≠ c.GM i) → x.heap[g]? = c.w1.heap[g]?
def machC (c : Mc) (V : Nat → Value) : Array Value :=
  #[.int .i64 c.t.u0, .int .i64 c.t.u1, .int .i64 c.t.u2, .int .i64 c.t.w0, .int .i64 c.t.w1, .int .i64 c.t.w2, .int .i64 c.t.r, .int .i64 c.pc, .int .i64 c.st, c.kv, c.lv, .slice (some ⟨c.gr, 0, none⟩) c.R c.cr, c.mv, .int .i64 c.turns, V 0, V 1, V 2, V 3, V 4, V 5]
structure MInv (c : Mc) (V : Nat → Value) (D : List Du) (f : Nat → Int) (m : Nat → Nat → Int) (wr : World) : Prop where
  bel : Below c.w0.heap.size c.w0 wr
  keep : KeptM c wr
  hA : wr.heap[c.A]? = some (.cells (machC c V) 112 (0, 0))
  hA1 : c.w0.heap.size ≤ c.A ∧ c.A < c.w1.heap.size
  regs : RowF wr c.gr 2 c.R (fun i => .int .i64 (f i))
  hr : c.w0.heap.size ≤ c.gr ∧ c.gr < c.w1.heap.size ∧ c.R ≤ c.cr ∧ c.cr ≤ maxLen
  min : ∀ i, i < c.n → c.w0.heap.size ≤ c.GM i ∧ c.GM i < c.w1.heap.size ∧ RowF wr (c.GM i) 2 (c.lenM i) (fun j => .int .i64 (m i j))
  minj : ∀ i j, i < c.n → j < c.n → i ≠ j → c.GM i ≠ c.GM j
  rM : ∀ i, i < c.n → c.gr ≠ c.GM i
  due : ∀ j : Nat, j < 6 → wr.ownsRow c.w1.heap.size 161 2 (V j) (lane D j).length (flatR (lane D j))
  dinj : ∀ i j : Nat, i < 6 → j < 6 → i ≠ j → ∀ g, (V i).ownBlock = some g → some g ≠ (V j).ownBlock
  w01 : c.w0.heap.size ≤ c.w1.heap.size

/-- blocks of two types are two -/
theorem blocks_apart {w : World} {R g : Nat} {c c' : Array Value} {e e' : TypeId} (h : w.heap[R]? = some (.cells c e (0, 0))) (hr : w.heap[g]? = some (.cells c' e' (0, 0))) (he : e ≠ e') : R ≠ g := by
  intro hg
  subst hg
  rw [h] at hr
  have h1 := Option.some.inj hr
  injection h1 with _ h2
  exact he h2
theorem blockrow_apart {w : World} {R g : Nat} {c : Array Value} {e e' : TypeId} {n : Nat} {f : Nat → Value} (h : w.heap[R]? = some (.cells c e (0, 0))) (hr : RowF w g e' n f) (he : e ≠ e') : R ≠ g := by
  obtain ⟨c', hb, _, _⟩ := hr
  exact blocks_apart h hb he
variable {c : Mc} {V : Nat → Value} {D : List Du} {f : Nat → Int} {m : Nat → Nat → Int} {wr w' : World}

theorem MInv.A_lt (h : MInv c V D f m wr) : c.A < wr.heap.size := (Array.getElem?_eq_some_iff.1 h.hA).1
theorem MInv.A_gr (h : MInv c V D f m wr) : c.A ≠ c.gr := blockrow_apart h.hA h.regs (by decide)
theorem MInv.A_GM (h : MInv c V D f m wr) (i : Nat) (hi : i < c.n) : c.A ≠ c.GM i := blockrow_apart h.hA (h.min i hi).2.2 (by decide)
theorem KeptM.step {x : World} (h : KeptM c wr) (hs : wr.heap.size ≤ x.heap.size) (hb : ∀ g, g < c.w1.heap.size → g ≠ c.A → g ≠ c.gr → (∀ i, i < c.n → g ≠ c.GM i) → x.heap[g]? = wr.heap[g]?) : KeptM c x :=
  ⟨Nat.le_trans h.1 hs, fun g h1 h2 h3 h4 => (hb g h1 h2 h3 h4).trans (h.2 g h1 h2 h3 h4)⟩

/-- whatever writes none of its blocks -/
theorem MInv.same (h : MInv c V D f m wr) (hb : Below c.w0.heap.size wr w') (hk : ∀ g, g < c.w1.heap.size → w'.heap[g]? = wr.heap[g]?) (hd : ∀ j : Nat, j < 6 → ∀ g, (V j).ownBlock = some g → w'.heap[g]? = wr.heap[g]?) : MInv c V D f m w' where
  bel := h.bel.trans hb
  keep := h.keep.step hb.size fun g h1 _ _ _ => hk g h1
  hA := by rw [hk _ h.hA1.2]; exact h.hA
  hA1 := h.hA1
  regs := h.regs.of_block (hk _ h.hr.2.1)
  hr := h.hr
  min := fun i hi => ⟨(h.min i hi).1, (h.min i hi).2.1, (h.min i hi).2.2.of_block (hk _ (h.min i hi).2.1)⟩
  minj := h.minj
  rM := h.rM
  due := fun j hj => ownz_keep (h.due j hj) (hd j hj)
  dinj := h.dinj
  w01 := h.w01
/-- whatever makes new memory alone -/
theorem MInv.below (h : MInv c V D f m wr) (hb : Below wr.heap.size wr w') : MInv c V D f m w' :=
  h.same (hb.mono h.bel.size) (fun g hg => hb.block g (Nat.lt_of_lt_of_le hg h.keep.1)) (fun j hj g hg => hb.block g (ownz_block_lt (h.due j hj) g hg))

/-- the machine's cells -/
theorem MInv.cells (h : MInv c V D f m wr) : (wr.cell? ⟨c.A, 0, none⟩ = some (.int .i64 c.t.u0) ∧ wr.cell? ⟨c.A, 1, none⟩ = some (.int .i64 c.t.u1) ∧ wr.cell? ⟨c.A, 2, none⟩ = some (.int .i64 c.t.u2) ∧ wr.cell? ⟨c.A, 3, none⟩ = some (.int .i64 c.t.w0) ∧ wr.cell? ⟨c.A, 4, none⟩ = some (.int .i64 c.t.w1) ∧ wr.cell? ⟨c.A, 5, none⟩ = some (.int .i64 c.t.w2) ∧ wr.cell? ⟨c.A, 6, none⟩ = some (.int .i64 c.t.r)) ∧
    (wr.cell? ⟨c.A, 7, none⟩ = some (.int .i64 c.pc) ∧ wr.cell? ⟨c.A, 8, none⟩ = some (.int .i64 c.st) ∧ wr.cell? ⟨c.A, 9, none⟩ = some c.kv ∧ wr.cell? ⟨c.A, 10, none⟩ = some c.lv ∧ wr.cell? ⟨c.A, 11, none⟩ = some (.slice (some ⟨c.gr, 0, none⟩) c.R c.cr) ∧ wr.cell? ⟨c.A, 12, none⟩ = some c.mv ∧ wr.cell? ⟨c.A, 13, none⟩ = some (.int .i64 c.turns)) ∧
    (∀ j : Nat, j < 6 → wr.cell? ⟨c.A, 14 + j, none⟩ = some (V j)) := by
  have key : ∀ o, wr.cell? ⟨c.A, o, none⟩ = (machC c V)[o]? := cell_of_block h.hA
  refine ⟨⟨?_, ?_, ?_, ?_, ?_, ?_, ?_⟩, ⟨?_, ?_, ?_, ?_, ?_, ?_, ?_⟩, fun j hj => ?_⟩
  all_goals first
    | (rw [key]; rfl)
    | (rw [key]; obtain rfl | rfl | rfl | rfl | rfl | rfl : j = 0 ∨ j = 1 ∨ j = 2 ∨ j = 3 ∨ j = 4 ∨ j = 5 := by omega
       all_goals rfl)
theorem MInv.frozenA (h : MInv c V D f m wr) (o : Nat) : wr.frozen? ⟨c.A, o, none⟩ = false := by
  simp [World.frozen?, h.hA]

/-- a register becomes v -/
theorem MInv.setReg (h : MInv c V D f m wr) (i : Nat) (v : Int) (hi : i < c.R) : MInv c V D (put1 f i v) m (wr.setCell ⟨c.gr, i, none⟩ (.int .i64 v)) where
  bel := h.bel.setCell (by show c.w0.heap.size ≤ c.gr; exact h.hr.1) _
  keep := h.keep.step (by simp [World.setCell]) fun g _ _ h3 _ => Below.heap_setCell _ _ _ _ (by show g ≠ c.gr; exact h3)
  hA := by rw [Below.heap_setCell _ _ _ _ (by show c.A ≠ c.gr; exact h.A_gr)]; exact h.hA
  hA1 := h.hA1
  regs := (h.regs.set i _ hi).congr fun j hj => by
    show (if j = i then Value.int .i64 v else .int .i64 (f j)) = .int .i64 (put1 f i v j)
    unfold put1
    split <;> rfl
  hr := h.hr
  min := fun a ha => ⟨(h.min a ha).1, (h.min a ha).2.1, (h.min a ha).2.2.setOther (by show c.GM a ≠ c.gr; exact (h.rM a ha).symm) _⟩
  minj := h.minj
  rM := h.rM
  due := fun j hj => ownz_keep (h.due j hj) fun g hg => Below.heap_setCell _ _ _ _ (by show g ≠ c.gr; have := ownz_block_ge (h.due j hj) g hg; have := h.hr.2.1; omega)
  dinj := h.dinj
  w01 := h.w01
/-- a word becomes v -/
theorem MInv.setMem (h : MInv c V D f m wr) (i j : Nat) (v : Int) (hi : i < c.n) (hj : j < c.lenM i) : MInv c V D f (put2 m i j v) (wr.setCell ⟨c.GM i, j, none⟩ (.int .i64 v)) where
  bel := h.bel.setCell (by show c.w0.heap.size ≤ c.GM i; exact (h.min i hi).1) _
  keep := h.keep.step (by simp [World.setCell]) fun g _ _ _ h4 => Below.heap_setCell _ _ _ _ (by show g ≠ c.GM i; exact h4 i hi)
  hA := by rw [Below.heap_setCell _ _ _ _ (by show c.A ≠ c.GM i; exact h.A_GM i hi)]; exact h.hA
  hA1 := h.hA1
  regs := h.regs.setOther (by show c.gr ≠ c.GM i; exact h.rM i hi) _
  hr := h.hr
  min := fun a ha => by
    refine ⟨(h.min a ha).1, (h.min a ha).2.1, ?_⟩
    by_cases e : a = i
    · subst e
      refine ((h.min a ha).2.2.set j _ hj).congr fun q hq => ?_
      show (if q = j then Value.int .i64 v else .int .i64 (m a q)) = .int .i64 (put2 m a j v a q)
      rw [put2_in]
      split <;> rfl
    · refine ((h.min a ha).2.2.setOther (by show c.GM a ≠ c.GM i; exact h.minj a i ha hi e) _).congr fun q hq => ?_
      show Value.int .i64 (m a q) = .int .i64 (put2 m i j v a q)
      rw [put2_row _ _ _ _ _ _ e]
  minj := h.minj
  rM := h.rM
  due := fun q hq => ownz_keep (h.due q hq) fun g hg => Below.heap_setCell _ _ _ _ (by show g ≠ c.GM i; have := ownz_block_ge (h.due q hq) g hg; have := (h.min i hi).2.1; omega)
  dinj := h.dinj
  w01 := h.w01
theorem machC_set (c : Mc) (V : Nat → Value) (j : Nat) (v : Value) (hj : j < 6) : (machC c V).setIfInBounds (14 + j) v = machC c (fun i => if i = j then v else V i) := by
  obtain rfl | rfl | rfl | rfl | rfl | rfl : j = 0 ∨ j = 1 ∨ j = 2 ∨ j = 3 ∨ j = 4 ∨ j = 5 := by omega
  all_goals rfl
/-- a list of what is due becomes another row: all else in it is as it was in wr but for that list's row -/
theorem MInv.setDue (h : MInv c V D f m wr) (j : Nat) (v : Value) (D' : List Du) (w2 : World) (hj : j < 6) (hg : wr.grownBy w2 (V j).ownBlock)
    (ho : w2.ownsRow c.w1.heap.size 161 2 v (lane D' j).length (flatR (lane D' j))) (hv : v.ownBlock = (V j).ownBlock ∨ ∀ g, v.ownBlock = some g → wr.heap.size ≤ g) (hD : ∀ i : Nat, i < 6 → i ≠ j → lane D' i = lane D i) :
    MInv c (fun i => if i = j then v else V i) D' f m (w2.setCell ⟨c.A, 14 + j, none⟩ v) := by
  have hge : ∀ g, (V j).ownBlock = some g → c.w1.heap.size ≤ g := fun g e => ownz_block_ge (h.due j hj) g e
  have blk : ∀ g, g < c.w1.heap.size → w2.heap[g]? = wr.heap[g]? := fun g hg1 => hg.block g (Nat.lt_of_lt_of_le hg1 h.keep.1) fun e => by have := hge g e.symm; omega
  have hbel2 : Below c.w0.heap.size c.w0 w2 := h.bel.grown hg h.bel.size fun k e => by have := hge k e; have := h.w01; omega
  have ho2 : ∀ i : Nat, i < 6 → i ≠ j → w2.ownsRow c.w1.heap.size 161 2 (V i) (lane D i).length (flatR (lane D i)) := fun i hi hij => ownz_keep (h.due i hi) fun g e => hg.block g (ownz_block_lt (h.due i hi) g e) (h.dinj i j hi hj hij g e)
  refine { bel := hbel2.setCell (by show c.w0.heap.size ≤ c.A; exact h.hA1.1) _, keep := ?_, hA := ?_, hA1 := h.hA1, regs := ?_, hr := h.hr, min := ?_, minj := h.minj, rM := h.rM, due := ?_, dinj := ?_, w01 := h.w01 }
  · exact (h.keep.step hg.size fun g h1 _ _ _ => blk g h1).step (by simp [World.setCell]) fun g _ h2 _ _ => Below.heap_setCell _ _ _ _ (by show g ≠ c.A; exact h2)
  · have hb : w2.heap[c.A]? = some (.cells (machC c V) 112 (0, 0)) := by rw [blk _ h.hA1.2]; exact h.hA
    have e : (w2.setCell ⟨c.A, 14 + j, none⟩ v).heap[c.A]? = some (.cells ((machC c V).setIfInBounds (14 + j) v) 112 (0, 0)) := by simp [World.setCell, Array.getElem?_modify, hb]
    rw [e, machC_set _ _ _ _ hj]
  · exact (h.regs.of_block (blk _ h.hr.2.1)).setOther (by show c.gr ≠ c.A; exact h.A_gr.symm) _
  · exact fun i hi => ⟨(h.min i hi).1, (h.min i hi).2.1, ((h.min i hi).2.2.of_block (blk _ (h.min i hi).2.1)).setOther (by show c.GM i ≠ c.A; exact (h.A_GM i hi).symm) _⟩
  · intro i hi
    have far : ∀ g, c.w1.heap.size ≤ g → (w2.setCell ⟨c.A, 14 + j, none⟩ v).heap[g]? = w2.heap[g]? := fun g hg1 => Below.heap_setCell _ _ _ _ (by show g ≠ c.A; have := h.hA1.2; omega)
    by_cases e : i = j
    · subst e
      simp only [if_true]
      exact ownz_keep ho fun g hg1 => far g (ownz_block_ge ho g hg1)
    · simp only [if_neg e]
      rw [hD i hi e]
      exact ownz_keep (ho2 i hi e) fun g hg1 => far g (ownz_block_ge (ho2 i hi e) g hg1)
  · intro i k hi hk hik g hg1
    by_cases e1 : i = j
    · by_cases e2 : k = j
      · omega
      · simp only [if_pos e1] at hg1
        simp only [if_neg e2]
        intro e3
        rcases hv with hv | hv
        · exact h.dinj j k hj hk (by omega) g (by rw [← hv]; exact hg1) e3
        · have h1 := hv g hg1
          have h2 := ownz_block_lt (h.due k hk) g e3.symm
          omega
    · by_cases e2 : k = j
      · simp only [if_neg e1] at hg1
        simp only [if_pos e2]
        intro e3
        rcases hv with hv | hv
        · rw [hv] at e3; exact h.dinj i j hi hj e1 g hg1 e3
        · have h1 := hv g e3.symm
          have h2 := ownz_block_lt (h.due i hi) g hg1
          omega
      · simp only [if_neg e1] at hg1
        simp only [if_neg e2]
        exact h.dinj i k hi hk hik g hg1
end Go.Proofs.Ytpljieenjkbmmaa
/- The contracts of a running machine's reading: a register's number, the list that is due, where a word lies, what an Op comes to; nothing that was there is changed. -/
namespace Go.Proofs.Ytpljieenjkbmmaa
open Go.RowKit Go.Joins
set_option linter.unusedVariables false
set_option linter.unusedSimpArgs false

/-- what is static: the Logs, and where the words' rows lie -/
def StatM (c : Mc) (logs : List Int) (gm cm : Nat) (CM : Nat → Nat) (x : World) : Prop :=
  Ints x c.lv logs ∧ (0 < c.n → c.mv = .slice (some ⟨gm, 0, none⟩) c.n cm ∧ c.n ≤ cm ∧ cm ≤ maxLen ∧ gm < x.heap.size) ∧ ∀ i, i < c.n → x.cell? ⟨gm, i, none⟩ = some (.slice (some ⟨c.GM i, 0, none⟩) (c.lenM i) (CM i)) ∧ c.lenM i ≤ CM i ∧ CM i ≤ maxLen

set_option maxHeartbeats 400000 in
theorem number_at (A : Nat) (R r p : Int) (q : Nat) (w : World) (hc : w.cell? ⟨A, 6, none⟩ = some (.int .i64 R)) (hr : 0 ≤ r) (hr2 : r ≤ 200) (hp : 0 ≤ p) (hp2 : p ≤ 20000) (hR : 1 ≤ R) (hR2 : R ≤ 128) (hq : (r + p) % R = (q : Int)) :
    Calls Try.prog 119 #[.pointer (some ⟨A, 0, none⟩), .int .i64 r, .int .i64 p] w fun e w' => e = .returned (.int .i64 q) ∧ w' = w := by
  have hm : Int.tmod (r + p) R = (q : Int) := by rw [Int.tmod_eq_emod_of_nonneg (by omega)]; exact hq
  have hq2 : (q : Int) < R := by have := Int.emod_lt_of_pos (r + p) (by omega : 0 < R); omega
  have hR0 : ¬ R = 0 := by omega
  have HQ := hide hq
  clear hq
  go_enter Try.func119, Try.ntmps119
  go_wp2_with fail
  go_ret
  exact ⟨rfl, rfl⟩

set_option maxHeartbeats 400000 in
theorem dueAt_at (A T : Nat) (w : World) (hT : T ≤ 40000) :
    Calls Try.prog 115 #[.pointer (some ⟨A, 0, none⟩), .int .i64 T] w fun e w' => e = .returned (.pointer (some ⟨A, 14 + T % 6, none⟩)) ∧ w' = w := by
  have hm : Int.tmod (T : Int) 6 = ((T % 6 : Nat) : Int) := by rw [Int.tmod_eq_emod_of_nonneg (by omega)]; omega
  obtain ⟨q, hq⟩ : ∃ q, T % 6 = q := ⟨_, rfl⟩
  have hq6 : q < 6 := by omega
  rw [hq] at hm ⊢
  have HQ := hide hq
  clear hq
  go_enter Try.func115, Try.ntmps115
  go_wp2_with fail
  go_ret
  exact ⟨by simp, rfl⟩

set_option maxHeartbeats 1000000 in
theorem mword_any {c : Mc} {V : Nat → Value} {D : List Du} {f : Nat → Int} {m : Nat → Nat → Int} (w : World) (logs : List Int) (gm cm : Nat) (CM : Nat → Nat) (sl sg o d a b sp pl nn : Int) (i j : Nat) (T : Int)
    (hI : MInv c V D f m w) (hS : StatM c logs gm cm CM w) (hn : c.n = logs.length) (hi : i < c.n) (hj : idx sp pl T (nth logs i) = (j : Int)) (hjl : j < c.lenM i) (hlm : c.lenM i ≤ 32) :
    Calls Try.prog 117 #[.pointer (some ⟨c.A, 0, none⟩), .agg #[.int .i64 sl, .int .i64 sg, .int .i64 o, .int .i64 d, .int .i64 a, .int .i64 b, .int .i64 i, .int .i64 sp, .int .i64 pl, .int .i64 nn], .int .i64 T] w fun e w' =>
      e = .returned (.pointer (some ⟨c.GM i, j, none⟩)) ∧ Below w.heap.size w w' := by
  obtain ⟨-, ⟨-, -, -, c10, -, c12, -⟩, -⟩ := hI.cells
  have hAz := hI.A_lt
  obtain ⟨hL, hM, hrow⟩ := hS
  obtain ⟨hmv, m2, m3, hmz⟩ := hM (by omega)
  rw [hmv] at c12
  obtain ⟨la, lcap, hlv, ll, lm, lr, lc⟩ := hL
  rw [hlv] at c10
  obtain ⟨lb, lo, rfl, hlz, hlc⟩ := lc (by omega)
  have hlk := hlc i (by omega)
  obtain ⟨hmo, i2, i3⟩ := hrow i hi
  have hGz : c.GM i < w.heap.size := by have := (hI.min i hi).2.1; have := hI.keep.1; omega
  have e1 : (i : Int) < (c.n : Int) := by omega
  have e2 : (i : Int) < (logs.length : Int) := by omega
  have e3 : (j : Int) < (c.lenM i : Int) := by omega
  unfold maxLen at m3 lm i3
  generalize c.lenM i = lmi at *
  generalize nth logs i = lg at *
  generalize c.GM i = gi at *
  generalize c.A = A at *
  generalize c.n = n at *
  clear hI hM hrow lc hlc lr hmv hlv
  go_enter Try.func117, Try.ntmps117
  go_wp2_with fail
  go_big_quiet ((go_at_call 17; exact Calls.quiet_of_same (index_any _ _ _ _ _)))
  go_wp2_with fail
  go_ret
  exact ⟨rfl, (below_alloc1 _ _).trans (below_draws _ _ _)⟩

/-- what an Op comes to, in a pace and a turn -/
def comesV (logs : List Int) (R p T : Int) (f : Nat → Int) (m : Nat → Nat → Int) (x : Kop) : Int :=
  if x.o = 1 then x.nn else if x.o = 2 then T else if x.o = 3 then m x.ar.toNat (idx x.sp x.pl T (nth logs x.ar.toNat)).toNat else if x.o = 4 then f ((x.a + p) % R).toNat
  else opv (x.o - 10) (f ((x.a + p) % R).toNat) (f ((x.b + p) % R).toNat)
theorem comesV_valK (logs : List Int) (R pc now : Int) (f : Nat → Int) (m : Nat → Nat → Int) (x : Kop) : valK logs R pc now f m x = comesV logs R (now / pc) (now / pc - x.sg) f m x := rfl

set_option maxHeartbeats 400000 in
theorem mcomes_1 (A : Nat) (sl sg d a b ar sp pl nn p T : Int) (w : World) :
    Calls Try.prog 116 #[.pointer (some ⟨A, 0, none⟩), .agg #[.int .i64 sl, .int .i64 sg, .int .i64 1, .int .i64 d, .int .i64 a, .int .i64 b, .int .i64 ar, .int .i64 sp, .int .i64 pl, .int .i64 nn], .int .i64 p, .int .i64 T] w fun e w' => e = .returned (.int .i64 nn) ∧ Below w.heap.size w w' := by
  go_enter Try.func116, Try.ntmps116
  go_wp2_with fail
  go_ret
  exact ⟨rfl, below_alloc1 _ _⟩
set_option maxHeartbeats 400000 in
theorem mcomes_2 (A : Nat) (sl sg d a b ar sp pl nn p T : Int) (w : World) :
    Calls Try.prog 116 #[.pointer (some ⟨A, 0, none⟩), .agg #[.int .i64 sl, .int .i64 sg, .int .i64 2, .int .i64 d, .int .i64 a, .int .i64 b, .int .i64 ar, .int .i64 sp, .int .i64 pl, .int .i64 nn], .int .i64 p, .int .i64 T] w fun e w' => e = .returned (.int .i64 T) ∧ Below w.heap.size w w' := by
  go_enter Try.func116, Try.ntmps116
  go_wp2_with fail
  go_ret
  exact ⟨rfl, below_alloc1 _ _⟩
set_option maxHeartbeats 1000000 in
theorem mcomes_3 {c : Mc} {V : Nat → Value} {D : List Du} {f : Nat → Int} {m : Nat → Nat → Int} (w : World) (logs : List Int) (gm cm : Nat) (CM : Nat → Nat) (sl sg d a b sp pl nn p : Int) (i j : Nat) (T : Int)
    (hI : MInv c V D f m w) (hS : ∀ x, KeptM c x → StatM c logs gm cm CM x) (hn : c.n = logs.length) (hi : i < c.n) (hj : idx sp pl T (nth logs i) = (j : Int)) (hjl : j < c.lenM i) (hlm : c.lenM i ≤ 32) :
    Calls Try.prog 116 #[.pointer (some ⟨c.A, 0, none⟩), .agg #[.int .i64 sl, .int .i64 sg, .int .i64 3, .int .i64 d, .int .i64 a, .int .i64 b, .int .i64 i, .int .i64 sp, .int .i64 pl, .int .i64 nn], .int .i64 p, .int .i64 T] w fun e w' => e = .returned (.int .i64 (m i j)) ∧ Below w.heap.size w w' := by
  have HI := hide hI
  have HS := hide hS
  clear hI hS
  go_enter Try.func116, Try.ntmps116
  go_wp2_with fail
  have hI2 := HI.out.below (below_alloc1 w (.cells #[.int .i64 sl, .int .i64 sg, .int .i64 3, .int .i64 d, .int .i64 a, .int .i64 b, .int .i64 i, .int .i64 sp, .int .i64 pl, .int .i64 nn] 68))
  refine (mword_any _ logs gm cm CM sl sg 3 d a b sp pl nn i j T hI2 (HS.out _ hI2.keep) hn hi hj hjl hlm).mono ?_
  rintro e w2 ⟨rfl, hb⟩
  have hcell := ((hI2.below hb).min i hi).2.2.cell hjl
  have HB := hide ((below_alloc1 w (.cells #[.int .i64 sl, .int .i64 sg, .int .i64 3, .int .i64 d, .int .i64 a, .int .i64 b, .int .i64 i, .int .i64 sp, .int .i64 pl, .int .i64 nn] 68)).trans (hb.mono (by simp)))
  clear hb hI2
  go_wp2_with fail
  go_ret
  exact ⟨rfl, HB.out⟩
/-- a register's number is one of them -/
theorem number_in {a p R : Int} (hR : 1 ≤ R) : (a + p) % R = (((a + p) % R).toNat : Int) ∧ ((a + p) % R).toNat < R.toNat := by
  have h1 := Int.emod_nonneg (a + p) (by omega : R ≠ 0)
  have h2 := Int.emod_lt_of_pos (a + p) (by omega : 0 < R)
  omega
set_option maxHeartbeats 2000000 in
theorem mcomes_4 {c : Mc} {V : Nat → Value} {D : List Du} {f : Nat → Int} {m : Nat → Nat → Int} (w : World) (sl sg d a b ar sp pl nn p T : Int) (hI : MInv c V D f m w) (hR : (c.R : Int) = c.t.r) (hr1 : 1 ≤ c.t.r) (hr2 : c.t.r ≤ 128) (ha : 0 ≤ a) (ha2 : a ≤ 200) (hb : 0 ≤ b) (hb2 : b ≤ 200) (hp : 0 ≤ p) (hp2 : p ≤ 20000) :
    Calls Try.prog 116 #[.pointer (some ⟨c.A, 0, none⟩), .agg #[.int .i64 sl, .int .i64 sg, .int .i64 4, .int .i64 d, .int .i64 a, .int .i64 b, .int .i64 ar, .int .i64 sp, .int .i64 pl, .int .i64 nn], .int .i64 p, .int .i64 T] w fun e w' => e = .returned (.int .i64 (f ((a + p) % c.t.r).toNat)) ∧ Below w.heap.size w w' := by
  obtain ⟨⟨-, -, -, -, -, -, c6⟩, ⟨-, -, -, -, c11, -, -⟩, -⟩ := hI.cells
  obtain ⟨qa, qa2⟩ := number_in (a := a) (p := p) hr1
  obtain ⟨qb, qb2⟩ := number_in (a := b) (p := p) hr1
  have ra := hI.regs.cell (i := ((a + p) % c.t.r).toNat) (by omega)
  have rb := hI.regs.cell (i := ((b + p) % c.t.r).toNat) (by omega)
  have hgz := hI.regs.lt
  have hAz := hI.A_lt
  have hcr := hI.hr.2.2.2
  have hcr1 := hI.hr.2.2.1
  unfold maxLen at hcr
  generalize ((a + p) % c.t.r).toNat = ia at *
  generalize ((b + p) % c.t.r).toNat = ib at *
  have ea : (ia : Int) < (c.R : Int) := by omega
  have eb : (ib : Int) < (c.R : Int) := by omega
  have HQA := hide qa
  have HQB := hide qb
  have HRR := hide hR
  generalize c.A = A at *
  generalize c.gr = gr at *
  clear hI qa qb hR
  go_enter Try.func116, Try.ntmps116
  go_wp2_with fail
  go_big_quiet ((go_at_call 119; exact Calls.quiet_of_same (number_at _ c.t.r _ _ _ _ (by go_simp) (by first | exact ha | exact hb) (by first | exact ha2 | exact hb2) hp hp2 hr1 hr2 (by first | exact HQA.out | exact HQB.out))))
  go_wp2_with fail
  go_ret
  exact ⟨rfl, (below_alloc1 _ _).trans (below_draws _ _ _)⟩
set_option maxHeartbeats 2000000 in
theorem mcomes_op {c : Mc} {V : Nat → Value} {D : List Du} {f : Nat → Int} {m : Nat → Nat → Int} (w : World) (sl sg o d a b ar sp pl nn p T : Int) (hI : MInv c V D f m w) (hR : (c.R : Int) = c.t.r) (hr1 : 1 ≤ c.t.r) (hr2 : c.t.r ≤ 128) (ha : 0 ≤ a) (ha2 : a ≤ 200) (hb : 0 ≤ b) (hb2 : b ≤ 200) (hp : 0 ≤ p) (hp2 : p ≤ 20000) (o1 : 11 ≤ o) (o2 : o ≤ 18) :
    Calls Try.prog 116 #[.pointer (some ⟨c.A, 0, none⟩), .agg #[.int .i64 sl, .int .i64 sg, .int .i64 o, .int .i64 d, .int .i64 a, .int .i64 b, .int .i64 ar, .int .i64 sp, .int .i64 pl, .int .i64 nn], .int .i64 p, .int .i64 T] w fun e w' => e = .returned (.int .i64 (opv (o - 10) (f ((a + p) % c.t.r).toNat) (f ((b + p) % c.t.r).toNat))) ∧ Below w.heap.size w w' := by
  obtain ⟨⟨-, -, -, -, -, -, c6⟩, ⟨-, -, -, -, c11, -, -⟩, -⟩ := hI.cells
  obtain ⟨qa, qa2⟩ := number_in (a := a) (p := p) hr1
  obtain ⟨qb, qb2⟩ := number_in (a := b) (p := p) hr1
  have ra := hI.regs.cell (i := ((a + p) % c.t.r).toNat) (by omega)
  have rb := hI.regs.cell (i := ((b + p) % c.t.r).toNat) (by omega)
  have hgz := hI.regs.lt
  have hAz := hI.A_lt
  have hcr := hI.hr.2.2.2
  have hcr1 := hI.hr.2.2.1
  unfold maxLen at hcr
  generalize ((a + p) % c.t.r).toNat = ia at *
  generalize ((b + p) % c.t.r).toNat = ib at *
  have ea : (ia : Int) < (c.R : Int) := by omega
  have eb : (ib : Int) < (c.R : Int) := by omega
  have q1 : (o == 1) = false := beq_eq_false_iff_ne.2 (by omega)
  have q2 : (o == 2) = false := beq_eq_false_iff_ne.2 (by omega)
  have q3 : (o == 3) = false := beq_eq_false_iff_ne.2 (by omega)
  have q4 : (o == 4) = false := beq_eq_false_iff_ne.2 (by omega)
  have HQA := hide qa
  have HQB := hide qb
  have HRR := hide hR
  generalize c.A = A at *
  generalize c.gr = gr at *
  clear hI qa qb hR
  go_enter Try.func116, Try.ntmps116
  go_wp2_with fail
  go_big_quiet ((go_at_call 119; exact Calls.quiet_of_same (number_at _ c.t.r _ _ _ _ (by go_simp) (by first | exact ha | exact hb) (by first | exact ha2 | exact hb2) hp hp2 hr1 hr2 (by first | exact HQA.out | exact HQB.out))))
  go_wp2_with fail
  refine (opb_any _ _ _ _).mono ?_
  rintro e w4 ⟨rfl, hbw⟩
  have HB := hide (((below_alloc1 w _).trans (below_draws _ _ _)).trans (hbw.mono (by simp)))
  clear hbw
  go_wp2_with fail
  go_ret
  exact ⟨rfl, HB.out⟩
end Go.Proofs.Ytpljieenjkbmmaa
/- The contract of a cycle's beginning: what is due has become what is in its registers. -/
namespace Go.Proofs.Ytpljieenjkbmmaa
open Go.RowKit Go.Joins
set_option linter.unusedVariables false
set_option linter.unusedSimpArgs false

theorem grown_refl (w : World) (row : Option Nat) : w.grownBy w row := ⟨rfl, rfl, rfl, Nat.le_refl _, fun _ _ _ => rfl⟩
theorem lane_in {D : List Du} {j : Int} {d : Du} (h : d ∈ lane D j) : d ∈ D := by
  unfold lane at h
  exact (List.mem_filter.1 h).1
/-- a list is empty behind its cycle -/
theorem MInv.landed {c : Mc} {V : Nat → Value} {D : List Du} {f : Nat → Int} {m : Nat → Nat → Int} {wr : World} {T : Nat} (h : MInv c V D f m wr) (hW : Win T D) :
    MInv c (fun i => if i = T % 6 then cut0 (V (T % 6)) else V i) (restN T D D.length) f m (wr.setCell ⟨c.A, 14 + T % 6, none⟩ (cut0 (V (T % 6)))) := by
  have hj : ((T : Int) % 6) = ((T % 6 : Nat) : Int) := by omega
  have h6 : T % 6 < 6 := Nat.mod_lt _ (by omega)
  refine h.setDue (T % 6) _ _ wr h6 (grown_refl _ _) ?_ (.inl (cut0_block (h.due _ h6))) (fun i hi hne => ?_)
  · rw [rest_lane hW, if_pos hj.symm]
    exact cut0_own (h.due _ h6)
  · rw [rest_lane hW, if_neg (by omega)]

set_option maxHeartbeats 2000000 in
theorem land_any {c : Mc} {V : Nat → Value} {D : List Du} {f : Nat → Int} {m : Nat → Nat → Int} (T : Nat) (w : World) (hI : MInv c V D f m w) (hW : Win T D) (hD : ∀ d ∈ D, 0 ≤ d.rg ∧ d.rg < (c.R : Int)) (hT : T ≤ 40000) :
    Calls Try.prog 97 #[.pointer (some ⟨c.A, 0, none⟩), .int .i64 T] w fun e w' => e = .returned (.tuple #[]) ∧ ∃ V', MInv c V' (restN T D D.length) (landN T D f D.length) m w' := by
  have hj : ((T : Int) % 6) = ((T % 6 : Nat) : Int) := by omega
  have h6 : T % 6 < 6 := Nat.mod_lt _ (by omega)
  have HF : Hid (landN T D f D.length = putN (lane D (T % 6 : Nat)) f (lane D (T % 6 : Nat)).length) := by show _ = _; rw [land_lane hW, hj]
  have HG : Hid (∀ f' wr, MInv c V D f' m wr → MInv c (fun i => if i = T % 6 then cut0 (V (T % 6)) else V i) (restN T D D.length) f' m (wr.setCell ⟨c.A, 14 + T % 6, none⟩ (cut0 (V (T % 6))))) := fun f' wr h => h.landed hW
  have HL : Hid (∀ d ∈ lane D (T % 6 : Nat), 0 ≤ d.rg ∧ d.rg < (c.R : Int)) := fun d hd => hD d (lane_in hd)
  have HDA := hide (fun W => dueAt_at c.A T W hT)
  clear hj hW hD
  generalize T % 6 = j at *
  obtain ⟨va, vc, hV, hvn, hvm⟩ := ownz_shape (hI.due j h6)
  have hcut : cut0 (V j) = .slice va 0 vc := by rw [hV]; rfl
  unfold maxLen at hvm
  have HI := hide hI
  have HV := hide hV
  have HCUT := hide hcut
  have hcell := hI.cells.2.2 j h6
  rw [hV] at hcell
  have hnil : va = none → vc = 0 := by
    intro e
    have h := (hI.due j h6).2
    rw [hV] at h
    rcases h with ⟨e2, _⟩ | ⟨g, cap, cur, e2, _⟩
    · injection e2
    · injection e2 with e3; rw [e3] at e; cases e
  have HNIL := hide hnil
  clear hV hcut hI hnil
  generalize hl : lane D (j : Int) = l at *
  have HLD := hide hl
  clear hl
  go_enter Try.func97, Try.ntmps97
  go_wp2_with (go_at_call 115; refine (HDA.out _).mono ?_; rintro e w' ⟨rfl, rfl⟩)
  go_loopw [14] (fun i wr => ∃ k : Nat, k ≤ l.length ∧ i = .int .i64 k ∧ MInv c V D (putN l f k) m wr) (fun i _ => l.length - (intOf i).toNat)
  case atStart => exact ⟨0, Nat.zero_le _, rfl, HI.out⟩
  case round =>
    clear HI hcell
    obtain ⟨k, hk, rfl, hQ⟩ := hrel
    by_cases hkl : k < l.length
    · have hrow := hQ.due j h6
      rw [HLD.out] at hrow
      obtain ⟨g, cap, hg0, hg1, hg2, hg3, hg4, hcells⟩ := res_cells hrow (by omega)
      rw [HV.out] at hg0
      injection hg0 with e1 e2 e3
      subst e1; subst e3
      obtain ⟨d0, d1⟩ := hcells k hkl
      obtain ⟨r0, r1⟩ := HL.out _ (duAt_in hkl)
      obtain ⟨q, hq⟩ : ∃ q : Nat, (duAt l k).rg = (q : Int) := ⟨(duAt l k).rg.toNat, by omega⟩
      have HP : Hid (putN l f (k + 1) = put1 (putN l f k) q (duAt l k).v) := by
        show put1 (putN l f k) (duAt l k).rg.toNat (duAt l k).v = _
        rw [hq]; rfl
      rw [hq] at d0 r1
      have hqR : q < c.R := by omega
      have hki : (k : Int) < (l.length : Int) := by omega
      obtain ⟨-, ⟨-, -, -, -, c11, -, -⟩, -⟩ := hQ.cells
      have hAz := hQ.A_lt
      have hgz := hQ.regs.lt
      have hfr := hQ.regs.frozen q
      have hrc := hQ.regs.cell hqR
      have hcr1 := hQ.hr.2.2.1
      have hcr := hQ.hr.2.2.2
      unfold maxLen at hcr
      have HQ := hide hQ
      generalize (duAt l k).v = vv at *
      generalize putN l f k = fk at *
      clear hcells hrow hq hQ HL HDA
      go_wp2_with fail
      go_region
      go_wp2_with fail
      go_roundw
      case rel =>
        refine ⟨k + 1, by omega, by go_num, ?_⟩
        rw [HP.out]
        exact (HQ.out.setReg q vv hqR).below (below_alloc1 _ _).drew
      case measure => simp [intOf]; omega
    · have e : k = l.length := by omega
      subst e
      have hki : ¬ (l.length : Int) < (l.length : Int) := by omega
      have hcell2 := hQ.cells.2.2 j h6
      rw [HV.out] at hcell2
      have hfr := hQ.frozenA (14 + j)
      have HQ := hide hQ
      clear hQ
      cases va with
      | none =>
        obtain rfl := HNIL.out rfl
        go_wp2_with fail
        go_end0
        refine ⟨rfl, ?_⟩
        rw [HF.out]
        have h := HG.out _ _ HQ.out
        rw [HCUT.out] at h
        exact ⟨_, h⟩
      | some ad =>
        go_wp2_with fail
        go_end0
        refine ⟨rfl, ?_⟩
        rw [HF.out]
        have h := HG.out _ _ HQ.out
        rw [HCUT.out] at h
        exact ⟨_, h⟩
end Go.Proofs.Ytpljieenjkbmmaa
/- Stores that wait, as closures in memory; and what an Op comes to, whichever it is. -/
namespace Go.Proofs.Ytpljieenjkbmmaa
open Go.RowKit Go.Joins
set_option linter.unusedVariables false
set_option linter.unusedSimpArgs false

/-- a closure that has caught its number and its word -/
def cloV (bi bw : Nat) : Value := .func (.func 118) #[] #[.pointer (some ⟨bi, 0, none⟩), .pointer (some ⟨bw, 0, none⟩)]
/-- v is a row of closures, for the stores l -/
def StoV (c : Mc) (b1 : Nat) (wr : World) (v : Value) (l : List Sto) : Prop :=
  ∃ BI BW : Nat → Nat, wr.ownsRow b1 1 1 v l.length ((List.range l.length).map fun i => cloV (BI i) (BW i)) ∧
    ∀ i, i < l.length → (b1 ≤ BI i ∧ wr.heap[BI i]? = some (.cells #[.int .i64 (stoAt l i).v] 2 (0, 0))) ∧ (b1 ≤ BW i ∧ wr.heap[BW i]? = some (.cells #[.pointer (some ⟨c.GM (stoAt l i).i, (stoAt l i).j, none⟩)] 151 (0, 0))) ∧ (stoAt l i).i < c.n ∧ (stoAt l i).j < c.lenM (stoAt l i).i
/-- whatever leaves the blocks from b1 on as they were, but for rows of results -/
theorem StoV.keep {c : Mc} {b1 : Nat} {wr w' : World} {v : Value} {l : List Sto} (h : StoV c b1 wr v l) (hk : ∀ (g : Nat) (cs : Array Value) (e : TypeId), b1 ≤ g → g < wr.heap.size → wr.heap[g]? = some (.cells cs e (0, 0)) → e ≠ 161 → w'.heap[g]? = wr.heap[g]?) : StoV c b1 w' v l := by
  obtain ⟨BI, BW, h1, h2⟩ := h
  refine ⟨BI, BW, ownz_keep h1 fun g hg => ?_, fun i hi => ?_⟩
  · have h3 := ownz_block_ge h1 g hg
    have h4 := ownz_block_lt h1 g hg
    obtain ⟨-, h1⟩ := h1
    rcases h1 with ⟨rfl, _⟩ | ⟨g', cap, cur, rfl, _, hb, _⟩
    · cases hg
    · have e : g' = g := by simpa [Value.ownBlock] using hg
      subst e
      exact hk _ _ _ h3 h4 hb (by decide)
  · obtain ⟨⟨a1, a2⟩, ⟨b1, b2⟩, c1⟩ := h2 i hi
    exact ⟨⟨a1, by rw [hk _ _ _ a1 (Array.getElem?_eq_some_iff.1 a2).1 a2 (by decide)]; exact a2⟩, ⟨b1, by rw [hk _ _ _ b1 (Array.getElem?_eq_some_iff.1 b2).1 b2 (by decide)]; exact b2⟩, c1⟩
theorem StoV.below {c : Mc} {b1 : Nat} {wr w' : World} {v : Value} {l : List Sto} (h : StoV c b1 wr v l) (hb : Below wr.heap.size wr w') : StoV c b1 w' v l :=
  h.keep fun g cs e _ hg _ _ => hb.block g hg
/-- behind an append to a list of what is due, and its store into the machine -/
theorem StoV.setDue {c : Mc} {b1 : Nat} {V : Nat → Value} {D : List Du} {f : Nat → Int} {m : Nat → Nat → Int} {wr w2 : World} {v : Value} {l : List Sto} (h : StoV c b1 wr v l) (hI : MInv c V D f m wr) (j : Nat) (hj : j < 6) (hb1 : c.w1.heap.size ≤ b1) (hg : wr.grownBy w2 (V j).ownBlock) (u : Value) (o : Nat) :
    StoV c b1 (w2.setCell ⟨c.A, o, none⟩ u) v l := by
  refine h.keep fun g cs e hge hlt hb he => ?_
  rw [Below.heap_setCell _ _ _ _ (by show g ≠ c.A; have := hI.hA1.2; omega)]
  refine hg.block g hlt fun e2 => ?_
  have hd := hI.due j hj
  obtain ⟨-, hd⟩ := hd
  rcases hd with ⟨e3, _⟩ | ⟨g', cap, cur, e3, _, hb3, _⟩
  · rw [e3] at e2; cases e2
  · rw [e3] at e2
    have e4 : g = g' := by simpa [Value.ownBlock] using e2
    subst e4
    exact blocks_apart hb hb3 he rfl
theorem StoV.setMem {c : Mc} {b1 : Nat} {V : Nat → Value} {D : List Du} {f : Nat → Int} {m : Nat → Nat → Int} {wr : World} {v : Value} {l : List Sto} (h : StoV c b1 wr v l) (hI : MInv c V D f m wr) (i j : Nat) (hi : i < c.n) (hb1 : c.w1.heap.size ≤ b1) (u : Value) : StoV c b1 (wr.setCell ⟨c.GM i, j, none⟩ u) v l :=
  h.keep fun g cs e hge hlt hb he => Below.heap_setCell _ _ _ _ (by show g ≠ c.GM i; have := (hI.min i hi).2.1; omega)
theorem StoV.nil (c : Mc) (b1 : Nat) (wr : World) : StoV c b1 wr (.slice none 0 0) [] :=
  ⟨fun _ => 0, fun _ => 0, World.ownsRow_nil _ _ _ _, fun i hi => absurd hi (Nat.not_lt_zero _)⟩
theorem range_snoc (f : Nat → Value) (n : Nat) : (List.range n).map f ++ [f n] = (List.range (n + 1)).map f := by
  rw [List.range_succ, List.map_append]; rfl
/-- one store more: w2 is behind the append, its two boxes are those of wr -/
theorem StoV.push {c : Mc} {b1 bi bw : Nat} {wr w2 : World} {v v' : Value} {l : List Sto} {i j : Nat} {u : Int} {BI BW : Nat → Nat} (h1 : wr.ownsRow b1 1 1 v l.length ((List.range l.length).map fun i => cloV (BI i) (BW i)))
    (h2 : ∀ i, i < l.length → (b1 ≤ BI i ∧ wr.heap[BI i]? = some (.cells #[.int .i64 (stoAt l i).v] 2 (0, 0))) ∧ (b1 ≤ BW i ∧ wr.heap[BW i]? = some (.cells #[.pointer (some ⟨c.GM (stoAt l i).i, (stoAt l i).j, none⟩)] 151 (0, 0))) ∧ (stoAt l i).i < c.n ∧ (stoAt l i).j < c.lenM (stoAt l i).i)
    (hg : wr.grownBy w2 v.ownBlock) (h3 : w2.ownsRow b1 1 1 v' (l.length + 1) (((List.range l.length).map fun i => cloV (BI i) (BW i)) ++ [cloV bi bw]))
    (hbi : b1 ≤ bi ∧ wr.heap[bi]? = some (.cells #[.int .i64 u] 2 (0, 0))) (hbw : b1 ≤ bw ∧ wr.heap[bw]? = some (.cells #[.pointer (some ⟨c.GM i, j, none⟩)] 151 (0, 0))) (hi : i < c.n) (hj : j < c.lenM i) :
    StoV c b1 w2 v' (l ++ [⟨i, j, u⟩]) := by
  have far : ∀ (g : Nat) (cs : Array Value) (e : TypeId), wr.heap[g]? = some (.cells cs e (0, 0)) → e ≠ 1 → w2.heap[g]? = wr.heap[g]? := fun g cs e hb he => hg.block g (Array.getElem?_eq_some_iff.1 hb).1 fun e2 => by
    obtain ⟨-, hd⟩ := h1
    rcases hd with ⟨e3, _⟩ | ⟨g', cap, cur, e3, _, hb3, _⟩
    · rw [e3] at e2; cases e2
    · rw [e3] at e2
      have e4 : g = g' := by simpa [Value.ownBlock] using e2
      subst e4
      exact blocks_apart hb hb3 he rfl
  refine ⟨fun q => if q = l.length then bi else BI q, fun q => if q = l.length then bw else BW q, ?_, fun q hq => ?_⟩
  · have hl : (l ++ [Sto.mk i j u]).length = l.length + 1 := by simp
    have he : (List.range (l ++ [Sto.mk i j u]).length).map (fun q => cloV (if q = l.length then bi else BI q) (if q = l.length then bw else BW q)) = (List.range l.length).map (fun i => cloV (BI i) (BW i)) ++ [cloV bi bw] := by
      rw [hl, ← range_snoc]
      congr 1
      · refine List.map_congr_left fun q hq => ?_
        have : q < l.length := List.mem_range.1 hq
        rw [if_neg (by omega), if_neg (by omega)]
      · simp
    rw [he, hl]
    exact h3
  · have hl : (l ++ [Sto.mk i j u]).length = l.length + 1 := by simp
    by_cases e : q = l.length
    · subst e
      rw [stoAt_mid]
      simp only [if_true]
      exact ⟨⟨hbi.1, by rw [far _ _ _ hbi.2 (by decide)]; exact hbi.2⟩, ⟨hbw.1, by rw [far _ _ _ hbw.2 (by decide)]; exact hbw.2⟩, hi, hj⟩
    · rw [stoAt_left _ _ _ (by omega)]
      simp only [if_neg e]
      obtain ⟨⟨a1, a2⟩, ⟨b1, b2⟩, c1⟩ := h2 q (by omega)
      exact ⟨⟨a1, by rw [far _ _ _ a2 (by decide)]; exact a2⟩, ⟨b1, by rw [far _ _ _ b2 (by decide)]; exact b2⟩, c1⟩

/-- what the walk wants of an Op -/
def goodK (r : Int) (n : Nat) (x : Kop) : Prop := (0 ≤ x.d ∧ x.d < r) ∧ (0 ≤ x.a ∧ x.a < r) ∧ (0 ≤ x.b ∧ x.b < r) ∧ (0 ≤ x.sg ∧ x.sg ≤ 1000) ∧ (x.o = 1 ∨ x.o = 2 ∨ (x.o = 3 ∧ 0 ≤ x.ar ∧ x.ar < n) ∨ (x.o = 4 ∧ 0 ≤ x.ar ∧ x.ar < n) ∨ (11 ≤ x.o ∧ x.o ≤ 18))
theorem mcomes_any {c : Mc} {V : Nat → Value} {D : List Du} {f : Nat → Int} {m : Nat → Nat → Int} (w : World) (logs : List Int) (gm cm : Nat) (CM : Nat → Nat) (sl sg o d a b ar sp pl nn pc now p T : Int)
    (hI : MInv c V D f m w) (hS : ∀ x, KeptM c x → StatM c logs gm cm CM x) (hn : c.n = logs.length) (hlen : ∀ i, i < c.n → c.lenM i = 2 ^ (nth logs i).toNat ∧ c.lenM i ≤ 32) (hR : (c.R : Int) = c.t.r) (hr1 : 1 ≤ c.t.r) (hr2 : c.t.r ≤ 128)
    (hx : goodK c.t.r c.n ⟨sl, sg, o, d, a, b, ar, sp, pl, nn⟩) (hp : now / pc = p) (hT : p - sg = T) (hp1 : 0 ≤ p) (hp2 : p ≤ 20000) :
    Calls Try.prog 116 #[.pointer (some ⟨c.A, 0, none⟩), .agg #[.int .i64 sl, .int .i64 sg, .int .i64 o, .int .i64 d, .int .i64 a, .int .i64 b, .int .i64 ar, .int .i64 sp, .int .i64 pl, .int .i64 nn], .int .i64 p, .int .i64 T] w fun e w' =>
      e = .returned (.int .i64 (valK logs c.t.r pc now f m ⟨sl, sg, o, d, a, b, ar, sp, pl, nn⟩)) ∧ Below w.heap.size w w' := by
  have hjc := wordK_cast logs pc now ⟨sl, sg, o, d, a, b, ar, sp, pl, nn⟩
  have hjl := wordK_lt logs pc now ⟨sl, sg, o, d, a, b, ar, sp, pl, nn⟩
  have hT' : now / pc - sg = T := by rw [hp]; exact hT
  have hV : valK logs c.t.r pc now f m ⟨sl, sg, o, d, a, b, ar, sp, pl, nn⟩ = if o = 1 then nn else if o = 2 then T else if o = 3 then m ar.toNat (wordK logs pc now ⟨sl, sg, o, d, a, b, ar, sp, pl, nn⟩) else if o = 4 then f ((a + p) % c.t.r).toNat else opv (o - 10) (f ((a + p) % c.t.r).toNat) (f ((b + p) % c.t.r).toNat) := by
    unfold valK regK
    dsimp only
    rw [hT', hp]
  rw [hV]
  dsimp only at hjc hjl
  rw [hT'] at hjc
  obtain ⟨hd, ha, hb, hsg, ho⟩ := hx
  dsimp only at hd ha hb hsg ho
  rcases ho with rfl | rfl | ⟨rfl, h1, h2⟩ | ⟨rfl, h1, h2⟩ | ⟨h1, h2⟩
  · exact mcomes_1 c.A sl sg d a b ar sp pl nn p T w
  · exact mcomes_2 c.A sl sg d a b ar sp pl nn p T w
  · generalize wordK logs pc now ⟨sl, sg, 3, d, a, b, ar, sp, pl, nn⟩ = j at *
    obtain ⟨i, rfl⟩ : ∃ i : Nat, ar = (i : Int) := ⟨ar.toNat, by omega⟩
    rw [Int.toNat_natCast] at hjc hjl ⊢
    have hi : i < c.n := by omega
    exact mcomes_3 w logs gm cm CM sl sg d a b sp pl nn p i j T hI hS hn hi hjc (by rw [(hlen i hi).1]; exact hjl) (hlen i hi).2
  · exact mcomes_4 w sl sg d a b ar sp pl nn p T hI hR hr1 hr2 ha.1 (by omega) hb.1 (by omega) hp1 hp2
  · rw [if_neg (by omega), if_neg (by omega), if_neg (by omega), if_neg (by omega)]
    exact mcomes_op w sl sg o d a b ar sp pl nn p T hI hR hr1 hr2 ha.1 (by omega) hb.1 (by omega) hp1 hp2 h1 h2

/-- the closure does its store -/
theorem do1_any {c : Mc} {V : Nat → Value} {D : List Du} {f : Nat → Int} {m : Nat → Nat → Int} (w : World) (bi bw i j : Nat) (u : Int) (hI : MInv c V D f m w) (hbi : w.heap[bi]? = some (.cells #[.int .i64 u] 2 (0, 0))) (hbw : w.heap[bw]? = some (.cells #[.pointer (some ⟨c.GM i, j, none⟩)] 151 (0, 0))) (hi : i < c.n) (hj : j < c.lenM i) :
    Calls Try.prog 118 #[.pointer (some ⟨bi, 0, none⟩), .pointer (some ⟨bw, 0, none⟩)] w fun e w' => e = .returned (.tuple #[]) ∧ w' = w.setCell ⟨c.GM i, j, none⟩ (.int .i64 u) := by
  have c0 : w.cell? ⟨bi, 0, none⟩ = some (.int .i64 u) := by rw [cell_of_block hbi]; rfl
  have c1 : w.cell? ⟨bw, 0, none⟩ = some (.pointer (some ⟨c.GM i, j, none⟩)) := by rw [cell_of_block hbw]; rfl
  have hr := (hI.min i hi).2.2
  have c2 := hr.cell hj
  have hf := hr.frozen j
  clear hI hbi hbw hr
  go_enter Try.func118, Try.ntmps118
  go_wp2_with fail
  go_end0
  exact ⟨rfl, rfl⟩
end Go.Proofs.Ytpljieenjkbmmaa
/- What stands in memory while an Op is done, and what its result makes of it. -/
namespace Go.Proofs.Ytpljieenjkbmmaa
open Go.RowKit Go.Joins
set_option linter.unusedVariables false
set_option linter.unusedSimpArgs false

theorem Try.i161 : (Try.prog.info? 161).map (fun i => (i.zero, i.size, i.bytes)) = some (some (.agg #[.int .i64 0, .int .i64 0]), 2, 16) := by kernel_rfl
theorem Try.i1 : (Try.prog.info? 1).map (fun i => (i.zero, i.size, i.bytes)) = some (some .nilFunc, 1, 8) := by kernel_rfl
/-- the cells of a variable of type Op -/
theorem op_box {w : World} {X : Nat} {sl sg o d a b ar sp pl nn : Int} (h : w.heap[X]? = some (.cells #[.int .i64 sl, .int .i64 sg, .int .i64 o, .int .i64 d, .int .i64 a, .int .i64 b, .int .i64 ar, .int .i64 sp, .int .i64 pl, .int .i64 nn] 68 (0, 0))) :
    w.cell? ⟨X, 0, none⟩ = some (.int .i64 sl) ∧ w.cell? ⟨X, 1, none⟩ = some (.int .i64 sg) ∧ w.cell? ⟨X, 2, none⟩ = some (.int .i64 o) ∧ w.cell? ⟨X, 3, none⟩ = some (.int .i64 d) ∧ w.cell? ⟨X, 4, none⟩ = some (.int .i64 a) ∧ w.cell? ⟨X, 5, none⟩ = some (.int .i64 b) ∧ w.cell? ⟨X, 6, none⟩ = some (.int .i64 ar) ∧ w.cell? ⟨X, 7, none⟩ = some (.int .i64 sp) ∧ w.cell? ⟨X, 8, none⟩ = some (.int .i64 pl) ∧ w.cell? ⟨X, 9, none⟩ = some (.int .i64 nn) := by
  have key := cell_of_block h
  refine ⟨?_, ?_, ?_, ?_, ?_, ?_, ?_, ?_, ?_, ?_⟩ <;> (rw [key]; rfl)
theorem new_block (w : World) (cs : Array Value) (e : TypeId) : (w.alloc (.cells cs e)).heap[w.heap.size]? = some (.cells cs e (0, 0)) := by
  show (w.heap.push _)[w.heap.size]? = _
  simp
theorem act_is {pc turns : Int} {T P : Nat} {x : Kop} (hs : x.sl = (T : Int) % pc) (hp : (T : Int) / pc = (P : Int)) : actK pc turns T x = inR (P - x.sg) 0 (turns - 1) := by
  unfold actK inR
  rw [decide_eq_true hs, hp, Bool.true_and, ← Bool.decide_and]
  exact decide_eq_decide.2 (by omega)
theorem wait_nat {t : Tg} (h : mayT t = true) (o : Int) : ∃ wt : Nat, waitsT t (clsv o) = (wt : Int) ∧ 1 ≤ wt ∧ wt ≤ 6 ∧ waitT t o = (wt : Int) := by
  obtain ⟨h1, h2, h3, -, -⟩ := mayT_parts h
  have h1 := unit_iff h1
  have h2 := unit_iff h2
  have h3 := unit_iff h3
  have hw : waitT t o = waitsT t (clsv o) := by unfold waitT; rw [if_pos h]
  rw [hw]
  rcases cls_three o with hc | hc | hc
  · exact ⟨t.w0.toNat, by rw [hc]; show t.w0 = _; omega, by omega, by omega, by rw [hc]; show t.w0 = _; omega⟩
  · exact ⟨t.w1.toNat, by rw [hc]; show t.w1 = _; omega, by omega, by omega, by rw [hc]; show t.w1 = _; omega⟩
  · exact ⟨t.w2.toNat, by rw [hc]; show t.w2 = _; omega, by omega, by omega, by rw [hc]; show t.w2 = _; omega⟩
theorem wait_cells (t : Tg) (o : Int) (wt : Nat) (h : waitT t o = (wt : Int)) (w : World) : Calls Try.prog 31 #[.agg #[.int .i64 t.u0, .int .i64 t.u1, .int .i64 t.u2, .int .i64 t.w0, .int .i64 t.w1, .int .i64 t.w2, .int .i64 t.r], .int .i64 o] w fun e w' => e = .returned (.int .i64 wt) ∧ Below w.heap.size w w' := by
  rw [← h]; exact pwait_any t o w
theorem dueAt_sum (A T wt : Nat) (w : World) (h : T + wt ≤ 40000) : Calls Try.prog 115 #[.pointer (some ⟨A, 0, none⟩), .int .i64 ((T : Int) + (wt : Int))] w fun e w' => e = .returned (.pointer (some ⟨A, 14 + (T + wt) % 6, none⟩)) ∧ w' = w := by
  have := dueAt_at A (T + wt) w h
  rw [Int.natCast_add] at this
  exact this
/-- an Op is being done: its own variable lies at X, what it came to at BI -/
structure Rdy (c : Mc) (V : Nat → Value) (D : List Du) (f : Nat → Int) (m : Nat → Nat → Int) (X BI : Nat) (sl sg o d a b ar sp pl nn v : Int) (x : World) : Prop where
  inv : MInv c V D f m x
  hX : x.heap[X]? = some (.cells #[.int .i64 sl, .int .i64 sg, .int .i64 o, .int .i64 d, .int .i64 a, .int .i64 b, .int .i64 ar, .int .i64 sp, .int .i64 pl, .int .i64 nn] 68 (0, 0))
  hB : x.heap[BI]? = some (.cells #[.int .i64 v] 2 (0, 0))
variable {c : Mc} {V : Nat → Value} {D : List Du} {f : Nat → Int} {m : Nat → Nat → Int} {X BI : Nat} {sl sg o d a b ar sp pl nn v : Int} {x : World}
theorem Rdy.below {x' : World} (h : Rdy c V D f m X BI sl sg o d a b ar sp pl nn v x) (hb : Below x.heap.size x x') : Rdy c V D f m X BI sl sg o d a b ar sp pl nn v x' :=
  ⟨h.inv.below hb, by rw [hb.block _ (Array.getElem?_eq_some_iff.1 h.hX).1]; exact h.hX, by rw [hb.block _ (Array.getElem?_eq_some_iff.1 h.hB).1]; exact h.hB⟩
theorem Rdy.s10 (h : Rdy c V D f m X BI sl sg o d a b ar sp pl nn v x) : (x.cell? ⟨c.A, 0, none⟩ = some (.int .i64 c.t.u0) ∧ x.cell? ⟨c.A, 1, none⟩ = some (.int .i64 c.t.u1) ∧ x.cell? ⟨c.A, 2, none⟩ = some (.int .i64 c.t.u2) ∧ x.cell? ⟨c.A, 3, none⟩ = some (.int .i64 c.t.w0) ∧ x.cell? ⟨c.A, 4, none⟩ = some (.int .i64 c.t.w1) ∧ x.cell? ⟨c.A, 5, none⟩ = some (.int .i64 c.t.w2) ∧ x.cell? ⟨c.A, 6, none⟩ = some (.int .i64 c.t.r)) ∧ x.cell? ⟨X, 2, none⟩ = some (.int .i64 o) :=
  ⟨h.inv.cells.1, (op_box h.hX).2.2.1⟩
theorem Rdy.s11 {j n0 vc : Nat} {va : Option Addr} (h : Rdy c V D f m X BI sl sg o d a b ar sp pl nn v x) (hj : j < 6) (hV : V j = .slice va n0 vc) : x.cell? ⟨c.A, 14 + j, none⟩ = some (.slice va n0 vc) ∧ x.cell? ⟨X, 3, none⟩ = some (.int .i64 d) ∧ x.cell? ⟨c.A, 6, none⟩ = some (.int .i64 c.t.r) ∧ x.cell? ⟨BI, 0, none⟩ = some (.int .i64 v) :=
  ⟨by rw [h.inv.cells.2.2 j hj, hV], (op_box h.hX).2.2.2.1, h.inv.cells.1.2.2.2.2.2.2, by rw [cell_of_block h.hB]; rfl⟩
/-- a block of another type is not the one that is appended to -/
theorem due_far {j g : Nat} {cs : Array Value} {e : TypeId} (h : MInv c V D f m x) (hj : j < 6) (hb : x.heap[g]? = some (.cells cs e (0, 0))) (he : e ≠ 161) : some g ≠ (V j).ownBlock := by
  intro e2
  obtain ⟨-, hd⟩ := h.due j hj
  rcases hd with ⟨e3, _⟩ | ⟨g', cap, cur, e3, _, hb3, _⟩
  · rw [e3] at e2; cases e2
  · rw [e3] at e2
    have e4 : g = g' := by simpa [Value.ownBlock] using e2
    subst e4
    exact blocks_apart hb hb3 he rfl
theorem Rdy.grown {j n0 vc : Nat} {va : Option Addr} {w6 : World} (h : Rdy c V D f m X BI sl sg o d a b ar sp pl nn v x) (hj : j < 6) (hV : V j = .slice va n0 vc) (hg : x.grownBy w6 (Value.slice va n0 vc).ownBlock) : (w6.cell? ⟨c.A, 14 + j, none⟩ = some (.slice va n0 vc) ∧ w6.cell? ⟨X, 3, none⟩ = some (.int .i64 d) ∧ w6.cell? ⟨c.A, 6, none⟩ = some (.int .i64 c.t.r) ∧ w6.cell? ⟨BI, 0, none⟩ = some (.int .i64 v)) ∧ w6.frozen? ⟨c.A, 14 + j, none⟩ = false := by
  rw [← hV] at hg
  have bA := hg.block c.A h.inv.A_lt (due_far h.inv hj h.inv.hA (by decide))
  have bX := hg.block X (Array.getElem?_eq_some_iff.1 h.hX).1 (due_far h.inv hj h.hX (by decide))
  have bB := hg.block BI (Array.getElem?_eq_some_iff.1 h.hB).1 (due_far h.inv hj h.hB (by decide))
  obtain ⟨s1, s2, s3, s4⟩ := h.s11 hj hV
  refine ⟨⟨?_, ?_, ?_, ?_⟩, ?_⟩
  · rw [World.cell?_of_block (a := ⟨c.A, 14 + j, none⟩) bA]; exact s1
  · rw [World.cell?_of_block (a := ⟨X, 3, none⟩) bX]; exact s2
  · rw [World.cell?_of_block (a := ⟨c.A, 6, none⟩) bA]; exact s3
  · rw [World.cell?_of_block (a := ⟨BI, 0, none⟩) bB]; exact s4
  · simp [World.frozen?, bA, h.inv.hA]
theorem two_cells (w : World) (a b : Value) (t : TypeId) : ∀ (j : Nat) (u : Value), [a, b][j]? = some u → (w.alloc (.cells #[a, b] t)).cell? ((⟨w.heap.size, 0, none⟩ : Addr).add j) = some u := by
  intro j u hj
  have ha : (⟨w.heap.size, 0, none⟩ : Addr).add j = ⟨w.heap.size, j, none⟩ := by simp [Addr.add]; omega
  rw [ha, cell_of_block (new_block _ _ _)]
  simpa using hj
/-- a result is on its way -/
theorem MInv.push {T wt j n0 g cap vc : Nat} {va : Option Addr} {rg u : Int} {l0 : List Du} {w6 : World} (h : MInv c V D f m x) (hj : (T + wt) % 6 = j) (hV : V j = .slice va n0 vc) (hl : lane D (j : Int) = l0) (hn : l0.length = n0)
    (hown : w6.ownsRow c.w1.heap.size 161 2 (.slice (some ⟨g, 0, none⟩) (n0 + 1) cap) (n0 + 1) (flatR l0 ++ [.int .i64 rg, .int .i64 u])) (hg : x.grownBy w6 (Value.slice va n0 vc).ownBlock) (hat : (Value.slice va n0 vc).ownBlock = some g ∨ x.heap.size ≤ g) :
    MInv c (fun i => if i = j then .slice (some ⟨g, 0, none⟩) (n0 + 1) cap else V i) (D ++ [⟨(T : Int) + (wt : Int), rg, u⟩]) f m (w6.setCell ⟨c.A, 14 + j, none⟩ (.slice (some ⟨g, 0, none⟩) (n0 + 1) cap)) := by
  have h6 : j < 6 := by omega
  have hq : ((T : Int) + (wt : Int)) % 6 = (j : Int) := by omega
  rw [← hV] at hg hat
  have e1 : lane (D ++ [⟨(T : Int) + (wt : Int), rg, u⟩]) (j : Int) = l0 ++ [⟨(T : Int) + (wt : Int), rg, u⟩] := by rw [lane_snoc, if_pos (by exact hq), hl]
  refine h.setDue j _ _ w6 h6 hg ?_ ?_ (fun i hi hne => ?_)
  · rw [e1, ← flatR_snoc, List.length_append, hn]
    exact hown
  · rcases hat with e | e
    · exact .inl (by rw [e]; rfl)
    · refine .inr fun q hq2 => ?_
      have e3 : g = q := by simpa [Value.ownBlock] using hq2
      omega
  · rw [lane_snoc, if_neg (by show ¬ ((T : Int) + (wt : Int)) % 6 = (i : Int); omega)]
theorem opsL_len (t : Tg) (logs : List Int) (pc turns now : Int) (f : Nat → Int) (m : Nat → Nat → Int) : ∀ (q : Nx) (l : List Kop), (opsL t logs pc turns now f m q l).du.length ≤ q.du.length + l.length := by
  intro q l
  induction l generalizing q with
  | nil => exact Nat.le_refl _
  | cons x l ih =>
    have h := ih (opK t logs pc turns now f m q x)
    have h2 : (opK t logs pc turns now f m q x).du.length ≤ q.du.length + 1 := by
      unfold opK
      split
      · show (_ ++ [_]).length ≤ _
        rw [List.length_append]; simp
      · omega
    show (opsL t logs pc turns now f m (opK t logs pc turns now f m q x) l).du.length ≤ q.du.length + (l.length + 1)
    omega
theorem stos_len (t : Tg) (logs : List Int) (pc turns now : Int) (f : Nat → Int) (m : Nat → Nat → Int) (l : List Kop) : (stosL t logs pc turns now f m l).length ≤ l.length := by
  unfold stosL
  rw [List.length_map]
  exact List.length_filter_le _ _
/-- a block of another type than a row's is left by an append to that row -/
theorem row_far {b1 n : Nat} {e0 e : TypeId} {u : Value} {xs : List Value} {y w5 : World} {g : Nat} {cs : Array Value} (hrow : y.ownsRow b1 e0 1 u n xs) (hg : y.grownBy w5 u.ownBlock) (hb : y.heap[g]? = some (.cells cs e (0, 0))) (he : e ≠ e0) : w5.heap[g]? = y.heap[g]? := by
  refine hg.block g (Array.getElem?_eq_some_iff.1 hb).1 fun e2 => ?_
  obtain ⟨-, hd⟩ := hrow
  rcases hd with ⟨e3, _⟩ | ⟨g', cap, cur, e3, _, hb3, _⟩
  · rw [e3] at e2; cases e2
  · rw [e3] at e2
    have e4 : g = g' := by simpa [Value.ownBlock] using e2
    subst e4
    exact blocks_apart hb hb3 he rfl
/-- behind an append to the row of closures -/
theorem Rdy.sto {b1 n : Nat} {u : Value} {xs : List Value} {w5 : World} (h : Rdy c V D f m X BI sl sg o d a b ar sp pl nn v x) (hrow : x.ownsRow b1 1 1 u n xs) (hb1 : c.w1.heap.size ≤ b1) (hg : x.grownBy w5 u.ownBlock) : Rdy c V D f m X BI sl sg o d a b ar sp pl nn v w5 := by
  have hge : ∀ k, u.ownBlock = some k → b1 ≤ k := fun k e => ownz_block_ge hrow k e
  refine ⟨h.inv.same ((Below.refl _ _).grown hg h.inv.bel.size fun k e => ?_) (fun g hlt => ?_) (fun j hj g e => ?_), ?_, ?_⟩
  · have := hge k e; have := h.inv.w01; omega
  · exact hg.block g (Nat.lt_of_lt_of_le hlt h.inv.keep.1) fun e => by have := hge g e.symm; omega
  · exact hg.block g (ownz_block_lt (h.inv.due j hj) g e) (ownz_two (h.inv.due j hj) hrow (by decide) g e)
  · rw [row_far hrow hg h.hX (by decide)]; exact h.hX
  · rw [row_far hrow hg h.hB (by decide)]; exact h.hB
theorem one_at (w : World) (v : Value) (t : TypeId) {B : Nat} (hB : w.heap.size = B) : ∀ (j : Nat) (u : Value), [v][j]? = some u → (w.alloc (.cells #[v] t)).cell? ((⟨B, 0, none⟩ : Addr).add j) = some u := by
  subst hB
  intro j u hj
  have ha : (⟨w.heap.size, 0, none⟩ : Addr).add j = ⟨w.heap.size, j, none⟩ := by simp [Addr.add]; omega
  rw [ha, cell_of_block (new_block _ _ _)]
  simpa using hj
theorem ap7 {b1 : Nat} {y y' : World} {l : List Sto} {BI BW : Nat → Nat} (h : (∀ i, i < l.length → (b1 ≤ BI i ∧ y.heap[BI i]? = some (.cells #[.int .i64 (stoAt l i).v] 2 (0, 0))) ∧ (b1 ≤ BW i ∧ y.heap[BW i]? = some (.cells #[.pointer (some ⟨c.GM (stoAt l i).i, (stoAt l i).j, none⟩)] 151 (0, 0))) ∧ (stoAt l i).i < c.n ∧ (stoAt l i).j < c.lenM (stoAt l i).i)) (hb : Below y.heap.size y y') : ∀ i, i < l.length → (b1 ≤ BI i ∧ y'.heap[BI i]? = some (.cells #[.int .i64 (stoAt l i).v] 2 (0, 0))) ∧ (b1 ≤ BW i ∧ y'.heap[BW i]? = some (.cells #[.pointer (some ⟨c.GM (stoAt l i).i, (stoAt l i).j, none⟩)] 151 (0, 0))) ∧ (stoAt l i).i < c.n ∧ (stoAt l i).j < c.lenM (stoAt l i).i := fun i hi => by
  obtain ⟨⟨a1, a2⟩, ⟨a3, a4⟩, a5⟩ := h i hi
  exact ⟨⟨a1, by rw [hb.block _ (Array.getElem?_eq_some_iff.1 a2).1]; exact a2⟩, ⟨a3, by rw [hb.block _ (Array.getElem?_eq_some_iff.1 a4).1]; exact a4⟩, a5⟩
/-- behind a store, the stores that wait lie as they did -/
theorem StoV.two {b1 : Nat} {y : World} {u : Value} {l : List Sto} {BI BW : Nat → Nat} (h1 : y.ownsRow b1 1 1 u l.length ((List.range l.length).map fun i => cloV (BI i) (BW i))) (h2 : (∀ i, i < l.length → (b1 ≤ BI i ∧ y.heap[BI i]? = some (.cells #[.int .i64 (stoAt l i).v] 2 (0, 0))) ∧ (b1 ≤ BW i ∧ y.heap[BW i]? = some (.cells #[.pointer (some ⟨c.GM (stoAt l i).i, (stoAt l i).j, none⟩)] 151 (0, 0))) ∧ (stoAt l i).i < c.n ∧ (stoAt l i).j < c.lenM (stoAt l i).i)) (hI : MInv c V D f m y) (i j : Nat) (hi : i < c.n) (hb1 : c.w1.heap.size ≤ b1) (uu : Value) :
    (y.setCell ⟨c.GM i, j, none⟩ uu).ownsRow b1 1 1 u l.length ((List.range l.length).map fun i => cloV (BI i) (BW i)) ∧ (∀ s, s < l.length → (b1 ≤ BI s ∧ (y.setCell ⟨c.GM i, j, none⟩ uu).heap[BI s]? = some (.cells #[.int .i64 (stoAt l s).v] 2 (0, 0))) ∧ (b1 ≤ BW s ∧ (y.setCell ⟨c.GM i, j, none⟩ uu).heap[BW s]? = some (.cells #[.pointer (some ⟨c.GM (stoAt l s).i, (stoAt l s).j, none⟩)] 151 (0, 0))) ∧ (stoAt l s).i < c.n ∧ (stoAt l s).j < c.lenM (stoAt l s).i) := by
  have far : ∀ g, b1 ≤ g → (y.setCell ⟨c.GM i, j, none⟩ uu).heap[g]? = y.heap[g]? := fun g hg => Below.heap_setCell _ _ _ _ (by show g ≠ c.GM i; have := (hI.min i hi).2.1; omega)
  refine ⟨ownz_keep h1 fun g hg => far g (ownz_block_ge h1 g hg), fun s hs => ?_⟩
  obtain ⟨⟨a1, a2⟩, ⟨a3, a4⟩, a5⟩ := h2 s hs
  exact ⟨⟨a1, by rw [far _ a1]; exact a2⟩, ⟨a3, by rw [far _ a3]; exact a4⟩, a5⟩
theorem i64_wrap (x : Int) (h0 : -9223372036854775808 ≤ x) (h1 : x ≤ 9223372036854775807) : IntKind.i64.wrap x = x := by rw [IntKind.wrap_i64]; omega
end Go.Proofs.Ytpljieenjkbmmaa
