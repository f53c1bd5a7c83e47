/- Loops as text, as the document says it: digits, lines, what a text is read as; that what was printed is read, and what is read was printed; no Go in sight. -/
import Derived.Test.YtjlfcbccpcigeacDoorBase
import Derived.Test.YtjlfcbccpcigeacDoorCodeMath
namespace Go.Proofs.YtjlfcbccpcigeacDoor
open Go.RowKit Go.Joins
set_option linter.unusedVariables false

/-! ### digits -/
def digs (n : Nat) : List Int := if h : n < 10 then [48 + (n : Int)] else digs (n / 10) ++ [48 + ((n % 10 : Nat) : Int)]
  termination_by n
  decreasing_by omega
theorem digs_small {n : Nat} (h : n < 10) : digs n = [48 + (n : Int)] := by rw [digs, dif_pos h]
theorem digs_big {n : Nat} (h : ¬ n < 10) : digs n = digs (n / 10) ++ [48 + ((n % 10 : Nat) : Int)] := by rw [digs, dif_neg h]
def digitsD (n : Int) : List Int := if n < 0 then 45 :: digs n.natAbs else digs n.natAbs
theorem digs_bytes : ∀ n : Nat, ∀ c ∈ digs n, 48 ≤ c ∧ c ≤ 57 := by
  intro n
  induction n using Nat.strongRecOn with
  | _ n ih =>
    intro c hc
    by_cases h : n < 10
    · rw [digs_small h] at hc
      have : c = 48 + (n : Int) := by simpa using hc
      omega
    · rw [digs_big h] at hc
      rcases List.mem_append.1 hc with hc | hc
      · exact ih (n / 10) (by omega) c hc
      · have : c = 48 + ((n % 10 : Nat) : Int) := by simpa using hc
        omega
theorem digs_ne : ∀ n : Nat, digs n ≠ [] := by
  intro n
  by_cases h : n < 10
  · rw [digs_small h]; simp
  · rw [digs_big h]; simp
/-- what digits come to -/
def valD (l : List Int) : Int := l.foldl (fun n c => 10 * n + (c - 48)) 0
theorem valD_snoc (l : List Int) (c : Int) : valD (l ++ [c]) = 10 * valD l + (c - 48) := by unfold valD; rw [List.foldl_append]; rfl
theorem val_digs : ∀ n : Nat, valD (digs n) = n := by
  intro n
  induction n using Nat.strongRecOn with
  | _ n ih =>
    by_cases h : n < 10
    · rw [digs_small h]; show 10 * 0 + (48 + (n : Int) - 48) = n; omega
    · rw [digs_big h, valD_snoc, ih (n / 10) (by omega)]; omega
theorem digs_head {n : Nat} (h : n ≠ 0) : ∃ c l, digs n = c :: l ∧ c ≠ 48 := by
  induction n using Nat.strongRecOn with
  | _ n ih =>
    by_cases h10 : n < 10
    · exact ⟨48 + (n : Int), [], digs_small h10, by omega⟩
    · obtain ⟨c, l, e, hc⟩ := ih (n / 10) (by omega) (by omega)
      exact ⟨c, l ++ [48 + ((n % 10 : Nat) : Int)], by rw [digs_big h10, e]; rfl, hc⟩
theorem digs_len : ∀ (k n : Nat), 1 ≤ k → n < 10 ^ k → (digs n).length ≤ k := by
  intro k
  induction k with
  | zero => intro n h; omega
  | succ k ih =>
    intro n _ hn
    by_cases h10 : n < 10
    · rw [digs_small h10]; show 1 ≤ k + 1; omega
    · rw [digs_big h10, List.length_append]
      have hk : 1 ≤ k := by
        rcases Nat.eq_zero_or_pos k with h | h
        · subst h; omega
        · exact h
      have := ih (n / 10) hk (by rw [Nat.pow_succ] at hn; omega)
      show _ + 1 ≤ k + 1
      omega
/-- the number that is written so, of up to so many digits -/
def numT (s : List Int) : List Int := if s.head? = some 45 then s.tail else s
def numV (s : List Int) : Int := wrap64 (if s.head? = some 45 then -(valD (numT s)) else valD (numT s))
def numO (s : List Int) (most : Nat) : Option Int := if (numT s).length ≤ most ∧ digitsD (numV s) = s then some (numV s) else none
theorem numV_range (s : List Int) : -9223372036854775808 ≤ numV s ∧ numV s ≤ 9223372036854775807 := by
  unfold numV
  generalize (if s.head? = some 45 then -(valD (numT s)) else valD (numT s)) = x
  unfold wrap64
  omega
theorem num_is {s : List Int} {most : Nat} {n : Int} (h : numO s most = some n) : s = digitsD n ∧ -9223372036854775808 ≤ n ∧ n ≤ 9223372036854775807 := by
  unfold numO at h
  by_cases hc : (numT s).length ≤ most ∧ digitsD (numV s) = s
  · rw [if_pos hc] at h
    have e := Option.some.inj h
    subst e
    exact ⟨hc.2.symm, numV_range s⟩
  · rw [if_neg hc] at h; cases h
theorem num_of {n : Int} {most : Nat} (h0 : -9223372036854775808 ≤ n) (h1 : n ≤ 9223372036854775807) (hm : (digs n.natAbs).length ≤ most) : numO (digitsD n) most = some n := by
  have hw : wrap64 n = n := by unfold wrap64; omega
  unfold numO numV numT
  by_cases hn : n < 0
  · have e : digitsD n = 45 :: digs n.natAbs := by unfold digitsD; rw [if_pos hn]
    have e2 : (digitsD n).head? = some 45 := by rw [e]; rfl
    rw [if_pos e2, if_pos e2]
    have e3 : (digitsD n).tail = digs n.natAbs := by rw [e]; rfl
    rw [e3, val_digs, show -((n.natAbs : Nat) : Int) = n by omega, hw, if_pos ⟨hm, rfl⟩]
  · have e : digitsD n = digs n.natAbs := by unfold digitsD; rw [if_neg hn]
    have e2 : ¬ (digitsD n).head? = some 45 := by
      rw [e]
      intro h
      cases hd : digs n.natAbs with
      | nil => exact digs_ne _ hd
      | cons c l =>
        rw [hd] at h
        have hc := digs_bytes n.natAbs c (by rw [hd]; exact List.mem_cons_self ..)
        have : c = 45 := by simpa using h
        omega
    rw [if_neg e2, if_neg e2, e, val_digs, show ((n.natAbs : Nat) : Int) = n by omega, hw, if_pos ⟨hm, e⟩]
theorem digits_bytes (n : Int) : ∀ c ∈ digitsD n, c = 45 ∨ (48 ≤ c ∧ c ≤ 57) := by
  intro c hc
  unfold digitsD at hc
  split at hc
  · rcases List.mem_cons.1 hc with h | h
    · exact .inl h
    · exact .inr (digs_bytes _ c h)
  · exact .inr (digs_bytes _ c hc)
/-! ### parts between bytes -/
def splitD (x : Int) : List Int → List (List Int)
  | [] => [[]]
  | c :: l => if c = x then [] :: splitD x l else match splitD x l with
    | [] => [[c]]
    | p :: ps => (c :: p) :: ps
def joinD (x : Int) : List (List Int) → List Int
  | [] => []
  | [p] => p
  | p :: q :: ps => p ++ x :: joinD x (q :: ps)
theorem split_ne (x : Int) (l : List Int) : splitD x l ≠ [] := by
  cases l with
  | nil => simp [splitD]
  | cons c l =>
    unfold splitD
    split
    · simp
    · split <;> simp
theorem join_split (x : Int) : ∀ l, joinD x (splitD x l) = l := by
  intro l
  induction l with
  | nil => rfl
  | cons c l ih =>
    unfold splitD
    by_cases h : c = x
    · rw [if_pos h]
      cases hs : splitD x l with
      | nil => exact absurd hs (split_ne x l)
      | cons p ps =>
        rw [hs] at ih
        show [] ++ x :: joinD x (p :: ps) = c :: l
        rw [ih, h]; rfl
    · rw [if_neg h]
      cases hs : splitD x l with
      | nil => exact absurd hs (split_ne x l)
      | cons p ps =>
        rw [hs] at ih
        cases ps with
        | nil => show c :: p = c :: l; rw [← ih]; rfl
        | cons q qs => show (c :: p) ++ x :: joinD x (q :: qs) = c :: l; rw [← ih]; rfl
theorem split_free {x : Int} : ∀ l : List Int, (∀ c ∈ l, c ≠ x) → splitD x l = [l] := by
  intro l
  induction l with
  | nil => intro _; rfl
  | cons c l ih =>
    intro h
    unfold splitD
    rw [if_neg (h c (List.mem_cons_self ..)), ih fun d hd => h d (List.mem_cons_of_mem _ hd)]
theorem split_eq (x : Int) (m : List Int) : splitD x (x :: m) = [] :: splitD x m := by rw [splitD, if_pos rfl]
theorem split_cons {c x : Int} (h : c ≠ x) {l p : List Int} {ps : List (List Int)} (hs : splitD x l = p :: ps) : splitD x (c :: l) = (c :: p) :: ps := by rw [splitD, if_neg h, hs]
theorem split_app {x : Int} {l : List Int} (h : ∀ c ∈ l, c ≠ x) (m : List Int) : splitD x (l ++ x :: m) = l :: splitD x m := by
  induction l with
  | nil => exact split_eq x m
  | cons c l ih => exact split_cons (h c (List.mem_cons_self ..)) (ih fun d hd => h d (List.mem_cons_of_mem _ hd))
/-! ### lines -/
def refD (a b : Int) : List Int := 35 :: (digitsD a ++ (if b = 0 then [] else 126 :: digitsD b))
/-- words of operations: add, sub, mul, and, or, xor, less, same -/
def opD (o : Int) : List Int :=
  if o = 11 then [97, 100, 100] else if o = 12 then [115, 117, 98] else if o = 13 then [109, 117, 108] else if o = 14 then [97, 110, 100] else if o = 15 then [111, 114] else if o = 16 then [120, 111, 114] else if o = 17 then [108, 101, 115, 115] else [115, 97, 109, 101]
def arrayW : List Int := [97, 114, 114, 97, 121]
def outW : List Int := [111, 117, 116]
def constW : List Int := [99, 111, 110, 115, 116]
def turnW : List Int := [116, 117, 114, 110]
def loadW : List Int := [108, 111, 97, 100]
def storeW : List Int := [115, 116, 111, 114, 101]
/-- a statement's line, as words -/
def stW (s : St) : List (List Int) :=
  if s.o = 1 then [constW, digitsD s.nn] else if s.o = 2 then [turnW] else if s.o = 3 then [loadW, digitsD s.ar, digitsD s.sp, digitsD s.pl]
  else if s.o = 4 then [storeW, digitsD s.ar, digitsD s.sp, digitsD s.pl, refD s.xa s.xb] else [opD s.o, refD s.xa s.xb, refD s.ya s.yb]
/-- the lines of a loop, each as words -/
def linesW (L : Lp) : List (List (List Int)) := (L.logs.map fun n => [arrayW, digitsD n]) ++ L.body.map stW ++ (L.outs.map fun n => [outW, digitsD n])
/-- N1 -/
def textD (L : Lp) : List Int := (linesW L).flatMap fun ws => joinD 32 ws ++ [10]
/-- a Ref's text read -/
def refO (s : List Int) : Option (Int × Int) :=
  if s.head? ≠ some 35 then none else
  match splitD 126 s.tail with
  | [a] => (numO a 18).map fun n => (n, 0)
  | [a, b] => match numO a 18, numO b 18 with
    | some x, some y => if 0 < y then some (x, y) else none
    | _, _ => none
  | _ => none
/-- a statement's words read -/
def stO (ws : List (List Int)) : Option St :=
  match ws with
  | [w] => if w = turnW then some ⟨2, 0, 0, 0, 0, 0, 0, 0, 0⟩ else none
  | [w, a] => if w = constW then (numO a 19).map fun n => ⟨1, 0, 0, 0, 0, 0, 0, 0, n⟩ else none
  | [w, a, b] => match ([11, 12, 13, 14, 15, 16, 17, 18] : List Int).find? fun o => decide (opD o = w) with
    | some o => match refO a, refO b with
      | some x, some y => some ⟨o, x.1, x.2, y.1, y.2, 0, 0, 0, 0⟩
      | _, _ => none
    | none => none
  | [w, a, b, c] => if w = loadW then match numO a 18, numO b 18, numO c 18 with
      | some x, some y, some z => some ⟨3, 0, 0, 0, 0, x, y, z, 0⟩
      | _, _, _ => none
    else none
  | [w, a, b, c, d] => if w = storeW then match numO a 18, numO b 18, numO c 18, refO d with
      | some x, some y, some z, some q => some ⟨4, q.1, q.2, 0, 0, x, y, z, 0⟩
      | _, _, _, _ => none
    else none
  | _ => none
/-- one line more: what there is so far, and the line's words -/
def lineO (L : Lp) (ws : List (List Int)) : Option Lp :=
  match ws with
  | [w, a] => if w = arrayW then (if L.body.length + L.outs.length = 0 then (numO a 18).map fun n => { L with logs := L.logs ++ [n] } else none)
    else if w = outW then (numO a 18).map fun n => { L with outs := L.outs ++ [n] }
    else if w = constW ∧ L.outs.length = 0 then (stO ws).map fun s => { L with body := L.body ++ [s] } else none
  | ws => if L.outs.length = 0 then (stO ws).map fun s => { L with body := L.body ++ [s] } else none
/-- N2: the loop; what is wrong; where -/
def goD (L : Lp) : List (List Int) → Nat → Lp × Int × Nat
  | [], k => (⟨[], [], []⟩, 2, k)
  | [last], k => if last = [] ∧ mayB L = true then (L, 0, 0) else (⟨[], [], []⟩, 2, k)
  | p :: q :: ps, k => match lineO L (splitD 32 p) with
    | some L' => goD L' (q :: ps) (k + 1)
    | none => (⟨[], [], []⟩, 2, k)
def parseD (s : List Int) : Lp × Int × Nat := goD ⟨[], [], []⟩ (splitD 10 s) 0

/-! ### what is read was printed -/
theorem ref_is {s : List Int} {r : Int × Int} (h : refO s = some r) : s = refD r.1 r.2 := by
  unfold refO at h
  split at h
  · cases h
  · rename_i h35
    have hs : s = 35 :: s.tail := by
      cases s with
      | nil => simp at h35
      | cons c l => have : c = 35 := by simpa using h35
                    rw [this]; rfl
    have hj := join_split 126 s.tail
    split at h
    · rename_i a he
      rw [he] at hj
      obtain ⟨n, hn, rfl⟩ := Option.map_eq_some_iff.1 h
      have ha := (num_is hn).1
      rw [hs, ← hj]
      show 35 :: a = 35 :: (digitsD n ++ [])
      rw [List.append_nil, ha]
    · rename_i a b he
      rw [he] at hj
      split at h
      · rename_i x y hx hy
        split at h
        · rename_i hpos
          have e := Option.some.inj h
          subst e
          rw [hs, ← hj]
          show 35 :: (a ++ 126 :: b) = 35 :: (digitsD x ++ (if y = 0 then [] else 126 :: digitsD y))
          rw [if_neg (by omega), ← (num_is hx).1, ← (num_is hy).1]
        · cases h
      · cases h
    · cases h
theorem st_is {ws : List (List Int)} {s : St} (h : stO ws = some s) : stW s = ws := by
  unfold stO at h
  split at h
  · rename_i w
    split at h
    · rename_i hw
      have e := Option.some.inj h
      subst e; subst hw; rfl
    · cases h
  · rename_i w a
    split at h
    · rename_i hw
      obtain ⟨n, hn, rfl⟩ := Option.map_eq_some_iff.1 h
      subst hw
      show [constW, digitsD n] = _
      rw [← (num_is hn).1]
    · cases h
  · rename_i w a b
    split at h
    · rename_i o ho
      split at h
      · rename_i x y hx hy
        have e := Option.some.inj h
        subst e
        have hf := List.find?_some ho
        have hw : opD o = w := of_decide_eq_true hf
        have hm : o ∈ ([11, 12, 13, 14, 15, 16, 17, 18] : List Int) := List.mem_of_find?_eq_some ho
        have ho2 : 11 ≤ o := by simp at hm; omega
        unfold stW
        rw [if_neg (by show ¬ o = 1; omega), if_neg (by show ¬ o = 2; omega), if_neg (by show ¬ o = 3; omega), if_neg (by show ¬ o = 4; omega)]
        show [opD o, refD x.1 x.2, refD y.1 y.2] = _
        rw [hw, ← ref_is hx, ← ref_is hy]
      · cases h
    · cases h
  · rename_i w a b c
    split at h
    · rename_i hw
      split at h
      · rename_i x y z hx hy hz
        have e := Option.some.inj h
        subst e; subst hw
        show [loadW, digitsD x, digitsD y, digitsD z] = _
        rw [← (num_is hx).1, ← (num_is hy).1, ← (num_is hz).1]
      · cases h
    · cases h
  · rename_i w a b c d
    split at h
    · rename_i hw
      split at h
      · rename_i x y z q hx hy hz hq
        have e := Option.some.inj h
        subst e; subst hw
        show [storeW, digitsD x, digitsD y, digitsD z, refD q.1 q.2] = _
        rw [← (num_is hx).1, ← (num_is hy).1, ← (num_is hz).1, ← ref_is hq]
      · cases h
    · cases h
  · cases h
theorem line_is {L L' : Lp} {ws : List (List Int)} (h : lineO L ws = some L') : linesW L' = linesW L ++ [ws] := by
  have key : ∀ s : St, L.outs.length = 0 → stW s = ws → linesW { L with body := L.body ++ [s] } = linesW L ++ [ws] := fun s h0 hs => by
    have : L.outs = [] := List.length_eq_zero_iff.1 h0
    unfold linesW
    simp only [this, List.map_nil, List.append_nil, List.map_append, List.map_cons, hs, List.append_assoc]
  unfold lineO at h
  split at h
  · rename_i w a
    split at h
    · rename_i hw
      split at h
      · rename_i h0
        obtain ⟨n, hn, rfl⟩ := Option.map_eq_some_iff.1 h
        have hb : L.body = [] := List.length_eq_zero_iff.1 (by omega)
        have ho : L.outs = [] := List.length_eq_zero_iff.1 (by omega)
        unfold linesW
        simp only [hb, ho, List.map_nil, List.append_nil, List.map_append, List.map_cons]
        rw [hw, ← (num_is hn).1]
      · cases h
    · split at h
      · rename_i hw
        obtain ⟨n, hn, rfl⟩ := Option.map_eq_some_iff.1 h
        unfold linesW
        simp only [List.map_append, List.map_cons, List.map_nil, List.append_assoc]
        rw [hw, ← (num_is hn).1]
      · split at h
        · rename_i hc
          obtain ⟨s, hs, rfl⟩ := Option.map_eq_some_iff.1 h
          exact key s hc.2 (st_is hs)
        · cases h
  · split at h
    · rename_i h0
      obtain ⟨s, hs, rfl⟩ := Option.map_eq_some_iff.1 h
      exact key s h0 (st_is hs)
    · cases h
theorem go_is : ∀ (ls : List (List Int)) (L L' : Lp) (k : Nat), goD L ls k = (L', 0, 0) → mayB L' = true ∧ ((linesW L').flatMap fun ws => joinD 32 ws ++ [10]) = ((linesW L).flatMap fun ws => joinD 32 ws ++ [10]) ++ joinD 10 ls := by
  intro ls
  induction ls with
  | nil => intro L L' k h; unfold goD at h; simp at h
  | cons p ps ih =>
    intro L L' k h
    cases ps with
    | nil =>
      unfold goD at h
      split at h
      · rename_i hc
        have e : L = L' := congrArg Prod.fst h
        subst e
        refine ⟨hc.2, ?_⟩
        show _ = _ ++ p
        rw [hc.1, List.append_nil]
      · simp at h
    | cons q qs =>
      unfold goD at h
      split at h
      · rename_i L2 hL2
        obtain ⟨h1, h2⟩ := ih L2 L' (k + 1) h
        refine ⟨h1, ?_⟩
        rw [h2, line_is hL2, List.flatMap_append]
        show _ ++ ([splitD 32 p].flatMap fun ws => joinD 32 ws ++ [10]) ++ joinD 10 (q :: qs) = _ ++ (p ++ 10 :: joinD 10 (q :: qs))
        simp only [List.flatMap_cons, List.flatMap_nil, List.append_nil, join_split, List.append_assoc]
        rfl
      · simp at h
/-- N2: what is read was printed -/
theorem text_again {s : List Int} {L : Lp} (h : parseD s = (L, 0, 0)) : mayB L = true ∧ textD L = s := by
  obtain ⟨h1, h2⟩ := go_is _ _ _ _ h
  refine ⟨h1, ?_⟩
  unfold textD
  rw [h2, join_split]
  rfl
/-! ### what was printed is read -/
theorem split_join {x : Int} : ∀ ps : List (List Int), ps ≠ [] → (∀ p ∈ ps, ∀ c ∈ p, c ≠ x) → splitD x (joinD x ps) = ps := by
  intro ps
  induction ps with
  | nil => intro h; exact absurd rfl h
  | cons p ps ih =>
    intro _ h
    cases ps with
    | nil => exact split_free p (h p (List.mem_cons_self ..))
    | cons q qs =>
      show splitD x (p ++ x :: joinD x (q :: qs)) = _
      rw [split_app (h p (List.mem_cons_self ..)), ih (by simp) fun r hr => h r (List.mem_cons_of_mem _ hr)]
theorem split_lines {x : Int} : ∀ ls : List (List Int), (∀ p ∈ ls, ∀ c ∈ p, c ≠ x) → splitD x (ls.flatMap fun p => p ++ [x]) = ls ++ [[]] := by
  intro ls
  induction ls with
  | nil => intro _; rfl
  | cons p ps ih =>
    intro h
    have e : (p :: ps).flatMap (fun p => p ++ [x]) = p ++ x :: ps.flatMap (fun p => p ++ [x]) := by simp
    rw [e, split_app (h p (List.mem_cons_self ..)), ih fun r hr => h r (List.mem_cons_of_mem _ hr)]
    rfl
theorem num_small {n : Int} (h0 : -1000000 ≤ n) (h1 : n ≤ 1000000) : numO (digitsD n) 18 = some n := num_of (by omega) (by omega) (digs_len 18 _ (by omega) (by omega))
theorem num_any {n : Int} (h0 : -9223372036854775808 ≤ n) (h1 : n ≤ 9223372036854775807) : numO (digitsD n) 19 = some n := num_of h0 h1 (digs_len 19 _ (by omega) (by omega))
theorem digits_free {n x : Int} (hx : x ≠ 45) (hx2 : x < 48 ∨ 57 < x) : ∀ c ∈ digitsD n, c ≠ x := fun c hc => by
  rcases digits_bytes n c hc with h | h <;> omega
theorem ref_back {a b : Int} (ha0 : 0 ≤ a) (ha1 : a ≤ 1000000) (hb0 : 0 ≤ b) (hb1 : b ≤ 1000000) : refO (refD a b) = some (a, b) := by
  unfold refO
  have e : ¬ (refD a b).head? ≠ some 35 := by simp [refD]
  rw [if_neg e]
  show (match splitD 126 (digitsD a ++ (if b = 0 then [] else 126 :: digitsD b)) with
    | [a] => (numO a 18).map fun n => (n, 0)
    | [a, b] => match numO a 18, numO b 18 with
      | some x, some y => if 0 < y then some (x, y) else none
      | _, _ => none
    | _ => none) = _
  by_cases h : b = 0
  · rw [if_pos h, List.append_nil, split_free _ (digits_free (by decide) (by omega))]
    show (numO (digitsD a) 18).map _ = _
    rw [num_small (by omega) (by omega), h]; rfl
  · rw [if_neg h, split_app (digits_free (by decide) (by omega)), split_free _ (digits_free (by decide) (by omega))]
    show (match numO (digitsD a) 18, numO (digitsD b) 18 with
      | some x, some y => if 0 < y then some (x, y) else none
      | _, _ => none) = _
    rw [num_small (n := a) (by omega) (by omega), num_small (n := b) (by omega) (by omega)]
    show (if 0 < b then some (a, b) else none) = _
    rw [if_pos (by omega)]
theorem ref_rng {n k a b : Int} (hn : n ≤ 1000) (hk : k ≤ 1000) (h : refOk n k a b = true) : 0 ≤ a ∧ a ≤ 1000 ∧ 0 ≤ b ∧ b ≤ 3 := by
  unfold refOk at h
  rw [Bool.and_eq_true] at h
  have h1 := inR_iff.1 h.1
  have h2 := inR_iff.1 h.2
  split at h2 <;> omega
theorem token_parts {m a b c : Int} (hm : m ≤ 1000) (h : wordOk m a b c = true) : (0 ≤ a ∧ a ≤ 1000) ∧ (-64 ≤ b ∧ b ≤ 64) ∧ (-64 ≤ c ∧ c ≤ 64) := by
  unfold wordOk at h
  simp only [Bool.and_eq_true] at h
  have h1 := inR_iff.1 h.1.1
  have h2 := inR_iff.1 h.1.2
  have h3 := inR_iff.1 h.2
  omega
theorem op_find {o : Int} (h0 : 11 ≤ o) (h1 : o ≤ 18) : (([11, 12, 13, 14, 15, 16, 17, 18] : List Int).find? fun p => decide (opD p = opD o)) = some o := by
  obtain rfl | rfl | rfl | rfl | rfl | rfl | rfl | rfl : o = 11 ∨ o = 12 ∨ o = 13 ∨ o = 14 ∨ o = 15 ∨ o = 16 ∨ o = 17 ∨ o = 18 := by omega
  all_goals decide
theorem st_back {m n k : Int} {s : St} (hm : m ≤ 1000) (hn : n ≤ 1000) (hk : k ≤ 1000) (h : stOk m n k s = true) (h0 : -9223372036854775808 ≤ s.nn) (h1 : s.nn ≤ 9223372036854775807) : stO (stW s) = some s := by
  obtain ⟨o, xa, xb, ya, yb, ar, sp, pl, nn⟩ := s
  unfold stOk at h
  dsimp only at h h0 h1
  by_cases o1 : o = 1
  · subst o1
    rw [if_pos rfl] at h
    have h2 := of_decide_eq_true h
    obtain ⟨rfl, rfl, rfl, rfl, rfl, rfl, rfl⟩ := h2
    show (if constW = constW then (numO (digitsD nn) 19).map fun n => (⟨1, 0, 0, 0, 0, 0, 0, 0, n⟩ : St) else none) = _
    rw [if_pos rfl, num_any h0 h1]; rfl
  · rw [if_neg o1] at h
    by_cases o2 : o = 2
    · subst o2
      rw [if_pos rfl] at h
      obtain ⟨rfl, rfl, rfl, rfl, rfl, rfl, rfl, rfl⟩ := of_decide_eq_true h
      show (if turnW = turnW then some (⟨2, 0, 0, 0, 0, 0, 0, 0, 0⟩ : St) else none) = _
      rw [if_pos rfl]
    · rw [if_neg o2] at h
      by_cases o3 : o = 3
      · subst o3
        rw [if_pos rfl, Bool.and_eq_true] at h
        obtain ⟨rfl, rfl, rfl, rfl, rfl⟩ := of_decide_eq_true h.1
        obtain ⟨w1, w2, w3⟩ := token_parts hm h.2
        show (if loadW = loadW then match numO (digitsD ar) 18, numO (digitsD sp) 18, numO (digitsD pl) 18 with
          | some x, some y, some z => some (⟨3, 0, 0, 0, 0, x, y, z, 0⟩ : St)
          | _, _, _ => none
          else none) = _
        rw [if_pos rfl, num_small (n := ar) (by omega) (by omega), num_small (n := sp) (by omega) (by omega), num_small (n := pl) (by omega) (by omega)]
      · rw [if_neg o3] at h
        by_cases o4 : o = 4
        · subst o4
          rw [if_pos rfl, Bool.and_eq_true, Bool.and_eq_true] at h
          obtain ⟨rfl, rfl, rfl⟩ := of_decide_eq_true h.1.1
          obtain ⟨w1, w2, w3⟩ := token_parts hm h.1.2
          obtain ⟨r1, r2, r3, r4⟩ := ref_rng hn hk h.2
          show (if storeW = storeW then match numO (digitsD ar) 18, numO (digitsD sp) 18, numO (digitsD pl) 18, refO (refD xa xb) with
            | some x, some y, some z, some q => some (⟨4, q.1, q.2, 0, 0, x, y, z, 0⟩ : St)
            | _, _, _, _ => none
            else none) = _
          rw [if_pos rfl, num_small (n := ar) (by omega) (by omega), num_small (n := sp) (by omega) (by omega), num_small (n := pl) (by omega) (by omega), ref_back r1 (by omega) r3 (by omega)]
        · rw [if_neg o4] at h
          by_cases o5 : 11 ≤ o ∧ o ≤ 18
          · rw [if_pos o5, Bool.and_eq_true, Bool.and_eq_true] at h
            obtain ⟨rfl, rfl, rfl, rfl⟩ := of_decide_eq_true h.1.1
            obtain ⟨r1, r2, r3, r4⟩ := ref_rng hn hk h.1.2
            obtain ⟨u1, u2, u3, u4⟩ := ref_rng hn hk h.2
            have e : stW ⟨o, xa, xb, ya, yb, 0, 0, 0, 0⟩ = [opD o, refD xa xb, refD ya yb] := by
              unfold stW
              dsimp only
              rw [if_neg o1, if_neg o2, if_neg o3, if_neg o4]
            rw [e]
            show (match ([11, 12, 13, 14, 15, 16, 17, 18] : List Int).find? fun p => decide (opD p = opD o) with
              | some o => match refO (refD xa xb), refO (refD ya yb) with
                | some x, some y => some (⟨o, x.1, x.2, y.1, y.2, 0, 0, 0, 0⟩ : St)
                | _, _ => none
              | none => none) = _
            rw [op_find o5.1 o5.2, ref_back r1 (by omega) r3 (by omega), ref_back u1 (by omega) u3 (by omega)]
          · rw [if_neg o5] at h; cases h
/-- no word has a blank, and no line a byte 10 -/
theorem ref_free (a b : Int) {x : Int} (hx : x = 10 ∨ x = 32) : ∀ c ∈ refD a b, c ≠ x := by
  intro c hc
  unfold refD at hc
  rcases List.mem_cons.1 hc with h | h
  · omega
  · rcases List.mem_append.1 h with h | h
    · exact digits_free (by omega) (by omega) c h
    · split at h
      · cases h
      · rcases List.mem_cons.1 h with h | h
        · omega
        · exact digits_free (by omega) (by omega) c h
theorem st_free (s : St) {x : Int} (hx : x = 10 ∨ x = 32) : ∀ p ∈ stW s, ∀ c ∈ p, c ≠ x := by
  have hd : ∀ n, ∀ c ∈ digitsD n, c ≠ x := fun n => digits_free (by omega) (by omega)
  have hw : ∀ l : List Int, (∀ c ∈ l, 97 ≤ c) → ∀ c ∈ l, c ≠ x := fun l h c hc => by have := h c hc; omega
  have hop : ∀ o, ∀ c ∈ opD o, (97 : Int) ≤ c := fun o c hc => by
    unfold opD at hc
    repeat' split at hc
    all_goals (simp at hc; omega)
  intro p hp
  unfold stW at hp
  have key : ∀ p, (p = constW ∨ p = turnW ∨ p = loadW ∨ p = storeW ∨ p = opD s.o ∨ (∃ n, p = digitsD n) ∨ ∃ a b, p = refD a b) → ∀ c ∈ p, c ≠ x := by
    intro p h
    rcases h with h | h | h | h | h | ⟨n, h⟩ | ⟨a, b, h⟩
    · subst h; exact hw _ (by decide)
    · subst h; exact hw _ (by decide)
    · subst h; exact hw _ (by decide)
    · subst h; exact hw _ (by decide)
    · subst h; exact hw _ (hop _)
    · subst h; exact hd n
    · subst h; exact ref_free a b hx
  apply key
  split at hp
  · simp at hp; rcases hp with h | h
    · exact .inl h
    · exact .inr (.inr (.inr (.inr (.inr (.inl ⟨_, h⟩)))))
  · split at hp
    · simp at hp; exact .inr (.inl hp)
    · split at hp
      · simp at hp; rcases hp with h | h | h | h
        · exact .inr (.inr (.inl h))
        all_goals exact .inr (.inr (.inr (.inr (.inr (.inl ⟨_, h⟩)))))
      · split at hp
        · simp at hp; rcases hp with h | h | h | h | h
          · exact .inr (.inr (.inr (.inl h)))
          · exact .inr (.inr (.inr (.inr (.inr (.inl ⟨_, h⟩)))))
          · exact .inr (.inr (.inr (.inr (.inr (.inl ⟨_, h⟩)))))
          · exact .inr (.inr (.inr (.inr (.inr (.inl ⟨_, h⟩)))))
          · exact .inr (.inr (.inr (.inr (.inr (.inr ⟨_, _, h⟩)))))
        · simp at hp; rcases hp with h | h | h
          · exact .inr (.inr (.inr (.inr (.inl h))))
          · exact .inr (.inr (.inr (.inr (.inr (.inr ⟨_, _, h⟩)))))
          · exact .inr (.inr (.inr (.inr (.inr (.inr ⟨_, _, h⟩)))))
theorem stW_ne (s : St) : stW s ≠ [] := by
  unfold stW
  repeat' split
  all_goals simp
theorem lines_free (L : Lp) {x : Int} (hx : x = 10 ∨ x = 32) : ∀ ws ∈ linesW L, ws ≠ [] ∧ ∀ p ∈ ws, ∀ c ∈ p, c ≠ x := by
  have hd : ∀ n, ∀ c ∈ digitsD n, c ≠ x := fun n => digits_free (by omega) (by omega)
  intro ws hws
  unfold linesW at hws
  rcases List.mem_append.1 hws with h | h
  · rcases List.mem_append.1 h with h | h
    · obtain ⟨n, _, rfl⟩ := List.mem_map.1 h
      refine ⟨by simp, fun p hp => ?_⟩
      simp at hp
      rcases hp with h | h
      · subst h; intro c hc; have : (97 : Int) ≤ c := by simp [arrayW] at hc; omega
        omega
      · subst h; exact hd n
    · obtain ⟨s, _, rfl⟩ := List.mem_map.1 h
      exact ⟨stW_ne s, st_free s hx⟩
  · obtain ⟨n, _, rfl⟩ := List.mem_map.1 h
    refine ⟨by simp, fun p hp => ?_⟩
    simp at hp
    rcases hp with h | h
    · subst h; intro c hc; have : (97 : Int) ≤ c := by simp [outW] at hc; omega
      omega
    · subst h; exact hd n
theorem join_free {x y : Int} (hxy : x ≠ y) : ∀ ps : List (List Int), (∀ p ∈ ps, ∀ c ∈ p, c ≠ x) → ∀ c ∈ joinD y ps, c ≠ x := by
  intro ps
  induction ps with
  | nil => intro _ c hc; cases hc
  | cons p ps ih =>
    intro h c hc
    cases ps with
    | nil => exact h p (List.mem_cons_self ..) c hc
    | cons q qs =>
      rcases List.mem_append.1 hc with hc | hc
      · exact h p (List.mem_cons_self ..) c hc
      · rcases List.mem_cons.1 hc with hc | hc
        · rw [hc]; exact fun e => hxy e.symm
        · exact ih (fun r hr => h r (List.mem_cons_of_mem _ hr)) c hc
/-- a line that is taken -/
theorem go_line {L L' : Lp} {ws : List (List Int)} {rest : List (List Int)} {k : Nat} (hr : rest ≠ []) (hs : splitD 32 (joinD 32 ws) = ws) (h : lineO L ws = some L') : goD L (joinD 32 ws :: rest) k = goD L' rest (k + 1) := by
  cases rest with
  | nil => exact absurd rfl hr
  | cons q qs =>
    show (match lineO L (splitD 32 (joinD 32 ws)) with
      | some L' => goD L' (q :: qs) (k + 1)
      | none => (⟨[], [], []⟩, 2, k)) = _
    rw [hs, h]
theorem go_logs : ∀ (l l0 : List Int) (rest : List (List Int)) (k : Nat), rest ≠ [] → (∀ n ∈ l, 0 ≤ n ∧ n ≤ 1000) → goD ⟨l0, [], []⟩ ((l.map fun n => joinD 32 [arrayW, digitsD n]) ++ rest) k = goD ⟨l0 ++ l, [], []⟩ rest (k + l.length) := by
  intro l
  induction l with
  | nil => intro l0 rest k _ _; simp
  | cons n l ih =>
    intro l0 rest k hr h
    have hn := h n (List.mem_cons_self ..)
    have hs : splitD 32 (joinD 32 [arrayW, digitsD n]) = [arrayW, digitsD n] := split_join _ (by simp) fun p hp => by
      simp at hp
      rcases hp with e | e
      · subst e; decide
      · subst e; exact digits_free (by decide) (by omega)
    have hl : lineO ⟨l0, [], []⟩ [arrayW, digitsD n] = some ⟨l0 ++ [n], [], []⟩ := by
      simp [lineO, num_small (n := n) (by omega) (by omega)]
    show goD _ (joinD 32 [arrayW, digitsD n] :: ((l.map fun n => joinD 32 [arrayW, digitsD n]) ++ rest)) k = _
    rw [go_line (by simp [hr]) hs hl, ih _ rest _ hr fun m hm => h m (List.mem_cons_of_mem _ hm)]
    rw [List.append_assoc]
    show goD ⟨l0 ++ ([n] ++ l), [], []⟩ rest (k + 1 + l.length) = goD ⟨l0 ++ n :: l, [], []⟩ rest (k + (l.length + 1))
    rw [show k + 1 + l.length = k + (l.length + 1) by omega]; rfl
theorem st_first {s : St} {ws : List (List Int)} (h : stO ws = some s) : ∀ a, ws ≠ [arrayW, a] ∧ ws ≠ [outW, a] := by
  intro a
  refine ⟨fun e => ?_, fun e => ?_⟩
  · subst e
    have : stO [arrayW, a] = none := by simp [stO, show ¬ arrayW = constW by decide]
    rw [this] at h; cases h
  · subst e
    have : stO [outW, a] = none := by simp [stO, show ¬ outW = constW by decide]
    rw [this] at h; cases h
theorem line_st {l0 : List Int} {b0 : List St} {s : St} {ws : List (List Int)} (h : stO ws = some s) : lineO ⟨l0, b0, []⟩ ws = some ⟨l0, b0 ++ [s], []⟩ := by
  unfold lineO
  split
  · rename_i w a
    have hne := st_first h a
    rw [if_neg (fun e => hne.1 (by rw [e])), if_neg (fun e => hne.2 (by rw [e]))]
    have hc : w = constW := by
      by_cases hc : w = constW
      · exact hc
      · have : stO [w, a] = none := by simp [stO, hc]
        rw [this] at h; cases h
    rw [if_pos ⟨hc, rfl⟩, h]; rfl
  · rw [if_pos (show ([] : List Int).length = 0 from rfl), h]; rfl
theorem go_body : ∀ (b : List St) (l0 : List Int) (b0 : List St) (rest : List (List Int)) (k : Nat), rest ≠ [] → (∀ s ∈ b, stO (stW s) = some s) → goD ⟨l0, b0, []⟩ ((b.map fun s => joinD 32 (stW s)) ++ rest) k = goD ⟨l0, b0 ++ b, []⟩ rest (k + b.length) := by
  intro b
  induction b with
  | nil => intro l0 b0 rest k _ _; simp
  | cons s b ih =>
    intro l0 b0 rest k hr h
    have hs : splitD 32 (joinD 32 (stW s)) = stW s := split_join _ (stW_ne s) (st_free s (.inr rfl))
    show goD _ (joinD 32 (stW s) :: ((b.map fun s => joinD 32 (stW s)) ++ rest)) k = _
    rw [go_line (by simp [hr]) hs (line_st (h s (List.mem_cons_self ..))), ih _ _ rest _ hr fun m hm => h m (List.mem_cons_of_mem _ hm)]
    rw [List.append_assoc]
    show goD ⟨l0, b0 ++ ([s] ++ b), []⟩ rest (k + 1 + b.length) = goD ⟨l0, b0 ++ s :: b, []⟩ rest (k + (b.length + 1))
    rw [show k + 1 + b.length = k + (b.length + 1) by omega]; rfl
theorem go_outs : ∀ (l : List Int) (l0 : List Int) (b0 : List St) (o0 : List Int) (rest : List (List Int)) (k : Nat), rest ≠ [] → (∀ n ∈ l, 0 ≤ n ∧ n ≤ 1000) → goD ⟨l0, b0, o0⟩ ((l.map fun n => joinD 32 [outW, digitsD n]) ++ rest) k = goD ⟨l0, b0, o0 ++ l⟩ rest (k + l.length) := by
  intro l
  induction l with
  | nil => intro l0 b0 o0 rest k _ _; simp
  | cons n l ih =>
    intro l0 b0 o0 rest k hr h
    have hn := h n (List.mem_cons_self ..)
    have hs : splitD 32 (joinD 32 [outW, digitsD n]) = [outW, digitsD n] := split_join _ (by simp) fun p hp => by
      simp at hp
      rcases hp with e | e
      · subst e; decide
      · subst e; exact digits_free (by decide) (by omega)
    have hl : lineO ⟨l0, b0, o0⟩ [outW, digitsD n] = some ⟨l0, b0, o0 ++ [n]⟩ := by
      simp [lineO, num_small (n := n) (by omega) (by omega), show ¬ outW = arrayW by decide]
    show goD _ (joinD 32 [outW, digitsD n] :: ((l.map fun n => joinD 32 [outW, digitsD n]) ++ rest)) k = _
    rw [go_line (by simp [hr]) hs hl, ih _ _ _ rest _ hr fun m hm => h m (List.mem_cons_of_mem _ hm)]
    rw [List.append_assoc]
    show goD ⟨l0, b0, o0 ++ ([n] ++ l)⟩ rest (k + 1 + l.length) = goD ⟨l0, b0, o0 ++ n :: l⟩ rest (k + (l.length + 1))
    rw [show k + 1 + l.length = k + (l.length + 1) by omega]; rfl
theorem nth_mem {l : List Int} {p : Int → Prop} (h : ∀ i, i < l.length → p (nth l i)) : ∀ n ∈ l, p n := fun n hn => by
  obtain ⟨i, hi, rfl⟩ := List.mem_iff_getElem.1 hn
  have := h i hi
  have e : nth l i = l[i] := by unfold nth; rw [List.getD, List.getElem?_eq_getElem hi]; rfl
  rw [e] at this
  exact this
/-- N2: what was printed is read -/
theorem text_back {L : Lp} (hm : mayB L = true) (hn : ∀ s ∈ L.body, -9223372036854775808 ≤ s.nn ∧ s.nn ≤ 9223372036854775807) : parseD (textD L) = (L, 0, 0) := by
  obtain ⟨hl3, hb1, hb16, ho16, hlogs, houts, hbody⟩ := may_parts hm
  have e : textD L = ((linesW L).map (joinD 32)).flatMap fun p => p ++ [10] := by unfold textD; rw [List.flatMap_map]
  unfold parseD
  rw [e, split_lines _ (fun p hp => by
    obtain ⟨ws, hws, rfl⟩ := List.mem_map.1 hp
    exact join_free (by decide) ws (lines_free L (.inl rfl) ws hws).2)]
  have e2 : (linesW L).map (joinD 32) ++ [[]] = (L.logs.map fun n => joinD 32 [arrayW, digitsD n]) ++ ((L.body.map fun s => joinD 32 (stW s)) ++ ((L.outs.map fun n => joinD 32 [outW, digitsD n]) ++ [[]])) := by
    unfold linesW
    simp only [List.map_append, List.map_map, List.append_assoc]
    rfl
  rw [e2, go_logs _ _ _ _ (by simp) (nth_mem (p := fun n => 0 ≤ n ∧ n ≤ 1000) fun i hi => by
    have := inR_iff.1 (show inR (nth L.logs i) 0 5 = true from allN_get hlogs i hi)
    omega)]
  rw [go_body _ _ _ _ _ (by simp) (fun s hs => by
    obtain ⟨i, hi, rfl⟩ := List.mem_iff_getElem.1 hs
    have e3 : stAt L.body i = L.body[i] := by unfold stAt; rw [List.getD, List.getElem?_eq_getElem hi]; rfl
    have h2 := allN_get hbody i hi
    rw [e3] at h2
    obtain ⟨n1, n2⟩ := hn _ (List.getElem_mem hi)
    exact st_back (by omega) (by omega) (by omega) h2 n1 n2)]
  rw [go_outs _ _ _ _ _ _ (by simp) (nth_mem (p := fun n => 0 ≤ n ∧ n ≤ 1000) fun i hi => by
    have h2 := inR_iff.1 (show inR (nth L.outs i) (prev L.outs i + 1) ((L.body.length : Int) - 1) = true from allN_get houts i hi)
    have h3 := prev_range L.body.length L.outs i (by omega) (allN_mk fun j hj => allN_get houts j (by omega))
    omega)]
  show (if ([] : List Int) = [] ∧ mayB ⟨[] ++ L.logs, [] ++ L.body, [] ++ L.outs⟩ = true then ((⟨[] ++ L.logs, [] ++ L.body, [] ++ L.outs⟩ : Lp), (0 : Int), 0) else _) = _
  rw [if_pos ⟨rfl, hm⟩]
  rfl
end Go.Proofs.YtjlfcbccpcigeacDoor
