/- The library's words on texts (its lists of bytes) and this seat's own (lists of numbers): digits, joining, cutting, splitting, numbers; no Go in sight. -/
import Derived.Test.YtjlfcbccpcigeacDoorRef14Number
import Derived.Lib.ItoaNum
import Derived.Lib.Join
import Derived.Lib.Split
import Derived.Lib.ParseIntBCases
namespace Go.Proofs.YtjlfcbccpcigeacDoor
open Go.RowKit Go.Joins
set_option linter.unusedVariables false

/-- numbers as bytes -/
def b8 (s : List Int) : List UInt8 := s.map fun n => UInt8.ofNat n.toNat
theorem str_list (s : List Int) : (strOfNums s).data.toList = b8 s := by unfold strOfNums b8; simp
theorem b8_len (s : List Int) : (b8 s).length = s.length := by unfold b8; simp
theorem b8_app (s t : List Int) : b8 (s ++ t) = b8 s ++ b8 t := by unfold b8; simp
theorem b8_take (s : List Int) (n : Nat) : b8 (s.take n) = (b8 s).take n := by unfold b8; simp
theorem b8_drop (s : List Int) (n : Nat) : b8 (s.drop n) = (b8 s).drop n := by unfold b8; simp
/-- bytes alone -/
def By (s : List Int) : Prop := ∀ c ∈ s, 0 ≤ c ∧ c ≤ 255
theorem by_head {c d : Int} (hc : 0 ≤ c ∧ c ≤ 255) (hd : 0 ≤ d ∧ d ≤ 255) (h : UInt8.ofNat c.toNat = UInt8.ofNat d.toNat) : c = d := by
  have := congrArg UInt8.toNat h
  simp at this
  omega
theorem dec_digs : ∀ n : Nat, Lib.decDigits n = b8 (digs n) := by
  intro n
  induction n using Nat.strongRecOn with
  | _ n ih =>
    by_cases h : n < 10
    · rw [Lib.decDigits, dif_pos h, digs_small h]
      unfold b8
      simp only [List.map_cons, List.map_nil]
      rw [show (48 + (n : Int)).toNat = 48 + n by omega]
    · rw [Lib.decDigits, dif_neg h, digs_big h, b8_app, ih (n / 10) (by omega)]
      unfold b8
      simp only [List.map_cons, List.map_nil]
      rw [show (48 + ((n % 10 : Nat) : Int)).toNat = 48 + n % 10 by omega]
theorem itoa_b8 (n : Int) : Lib.itoa n = b8 (digitsD n) := by
  unfold Lib.itoa digitsD
  split
  · rw [dec_digs]; rfl
  · rw [dec_digs, show n.toNat = n.natAbs by omega]
theorem join_b8 (x : Int) : ∀ ps : List (List Int), Lib.join (ps.map b8) (b8 [x]) = b8 (joinD x ps) := by
  intro ps
  induction ps with
  | nil => rfl
  | cons p ps ih =>
    cases ps with
    | nil => rw [List.map_cons, List.map_nil, Lib.join_one]; rfl
    | cons q qs =>
      rw [List.map_cons, Lib.join_cons]
      rw [List.map_cons, Lib.join_cons] at ih
      rw [show joinD x (p :: q :: qs) = p ++ x :: joinD x (q :: qs) from rfl, b8_app, show b8 (x :: joinD x (q :: qs)) = b8 [x] ++ b8 (joinD x (q :: qs)) by unfold b8; simp, ← ih]
      unfold Lib.joinTail
      simp
/-- where a text is cut first -/
theorem index_none {x : Int} (hx : 0 ≤ x ∧ x ≤ 255) : ∀ {s : List Int}, By s → ∀ {p : List Int}, splitD x s = [p] → Lib.index (b8 s) (b8 [x]) = -1 := by
  intro s
  induction s with
  | nil => intro _ p _; rfl
  | cons c l ih =>
    intro hs p h
    by_cases hc : c = x
    · subst hc
      rw [split_eq] at h
      have := split_ne c l
      simp at h
      exact absurd h.2 this
    · obtain ⟨q, qs, hq⟩ : ∃ q qs, splitD x l = q :: qs := by
        cases hq : splitD x l with
        | nil => exact absurd hq (split_ne x l)
        | cons q qs => exact ⟨q, qs, rfl⟩
      rw [split_cons hc hq] at h
      have hqs : qs = [] := by simpa using (List.cons.inj h).2
      subst hqs
      have hi := ih (fun d hd => hs d (List.mem_cons_of_mem _ hd)) hq
      show Lib.index (UInt8.ofNat c.toNat :: b8 l) [UInt8.ofNat x.toNat] = -1
      rw [Lib.index, if_neg (by
        intro e
        have : UInt8.ofNat x.toNat = UInt8.ofNat c.toNat := by simpa [List.isPrefixOf] using e
        exact hc (by_head hx (hs c (List.mem_cons_self ..)) this).symm), if_pos (by rw [show Lib.index (b8 l) [UInt8.ofNat x.toNat] = -1 from hi]; rfl)]
theorem index_some {x : Int} (hx : 0 ≤ x ∧ x ≤ 255) : ∀ {s : List Int}, By s → ∀ {p q : List Int} {qs : List (List Int)}, splitD x s = p :: q :: qs → Lib.index (b8 s) (b8 [x]) = (p.length : Int) ∧ s.take p.length = p ∧ splitD x (s.drop (p.length + 1)) = q :: qs := by
  intro s
  induction s with
  | nil => intro _ p q qs h; simp [splitD] at h
  | cons c l ih =>
    intro hs p q qs h
    by_cases hc : c = x
    · subst hc
      rw [split_eq] at h
      obtain ⟨rfl, h2⟩ := List.cons.inj h
      refine ⟨?_, rfl, by simpa using h2⟩
      show Lib.index (UInt8.ofNat c.toNat :: b8 l) [UInt8.ofNat c.toNat] = 0
      rw [Lib.index, if_pos (by simp [List.isPrefixOf])]
    · obtain ⟨r, rs, hr⟩ : ∃ q qs, splitD x l = q :: qs := by
        cases hq : splitD x l with
        | nil => exact absurd hq (split_ne x l)
        | cons q qs => exact ⟨q, qs, rfl⟩
      rw [split_cons hc hr] at h
      obtain ⟨rfl, rfl⟩ := List.cons.inj h
      obtain ⟨h1, h2, h3⟩ := ih (fun d hd => hs d (List.mem_cons_of_mem _ hd)) hr
      refine ⟨?_, ?_, ?_⟩
      · show Lib.index (UInt8.ofNat c.toNat :: b8 l) [UInt8.ofNat x.toNat] = _
        have h1' : Lib.index (b8 l) [UInt8.ofNat x.toNat] = (r.length : Int) := h1
        rw [Lib.index, if_neg (by
          intro e
          have : UInt8.ofNat x.toNat = UInt8.ofNat c.toNat := by simpa [List.isPrefixOf] using e
          exact hc (by_head hx (hs c (List.mem_cons_self ..)) this).symm), h1', if_neg (by
          intro e
          have := of_decide_eq_true e
          omega)]
        simp
      · simp [h2]
      · simpa using h3
theorem by_take {s : List Int} (h : By s) (n : Nat) : By (s.take n) := fun c hc => h c (List.mem_of_mem_take hc)
theorem by_drop {s : List Int} (h : By s) (n : Nat) : By (s.drop n) := fun c hc => h c (List.mem_of_mem_drop hc)
theorem cut_none {x : Int} (hx : 0 ≤ x ∧ x ≤ 255) {s : List Int} (hs : By s) {p : List Int} (h : splitD x s = [p]) : Lib.cut (b8 s) (b8 [x]) = (b8 s, [], false) := by
  unfold Lib.cut
  rw [index_none hx hs h, if_neg (by omega)]
theorem cut_some {x : Int} (hx : 0 ≤ x ∧ x ≤ 255) {s : List Int} (hs : By s) {p q : List Int} {qs : List (List Int)} (h : splitD x s = p :: q :: qs) : Lib.cut (b8 s) (b8 [x]) = (b8 p, b8 (s.drop (p.length + 1)), true) := by
  obtain ⟨h1, h2, h3⟩ := index_some hx hs h
  unfold Lib.cut
  rw [h1, if_pos (by omega)]
  rw [show ((p.length : Int)).toNat = p.length by omega, ← b8_take, h2, b8_len, ← b8_drop]
  rfl
/-- the parts, at the first so many cuts -/
theorem split_b8 {x : Int} (hx : 0 ≤ x ∧ x ≤ 255) : ∀ (k : Nat) (s : List Int), By s → ∃ W : List (List Int), Lib.splitK (b8 [x]) 0 k (b8 s) = W.map b8 ∧ W ≠ [] ∧ (∀ p ∈ W, By p) ∧ (∀ p ∈ W, p.length ≤ s.length) ∧ (W = splitD x s ∨ (W.length = k + 1 ∧ k + 1 < (splitD x s).length)) := by
  intro k
  induction k with
  | zero =>
    intro s hs
    refine ⟨[s], rfl, by simp, by simpa using hs, by simp, ?_⟩
    cases h : splitD x s with
    | nil => exact absurd h (split_ne x s)
    | cons p ps =>
      cases ps with
      | nil => left; have := join_split x s; rw [h] at this; rw [← this]; rfl
      | cons q qs => right; exact ⟨rfl, by simp⟩
  | succ k ih =>
    intro s hs
    cases h : splitD x s with
    | nil => exact absurd h (split_ne x s)
    | cons p ps =>
      cases ps with
      | nil =>
        have hp : p = s := by have := join_split x s; rw [h] at this; exact this
        refine ⟨[s], ?_, by simp, by simpa using hs, by simp, by left; rw [hp]⟩
        rw [Lib.splitK, if_pos (by rw [index_none hx hs h]; rfl)]
        rfl
      | cons q qs =>
        obtain ⟨h1, h2, h3⟩ := index_some hx hs h
        obtain ⟨W, w1, w2, w3, w5, w4⟩ := ih (s.drop (p.length + 1)) (by_drop hs _)
        refine ⟨p :: W, ?_, by simp, ?_, ?_, ?_⟩
        · rw [Lib.splitK, h1, if_neg (by intro e; have := of_decide_eq_true e; omega)]
          rw [show ((p.length : Int)).toNat = p.length by omega, Nat.add_zero, ← b8_take, h2, b8_len, ← b8_drop]
          rw [show p.length + [x].length = p.length + 1 from rfl, w1]
          rfl
        · intro r hr
          rcases List.mem_cons.1 hr with rfl | hr
          · rw [← h2]; exact by_take hs _
          · exact w3 r hr
        · intro r hr
          rcases List.mem_cons.1 hr with rfl | hr
          · rw [← h2]; simp; omega
          · have := w5 r hr; simp at this; omega
        · rw [h3] at w4
          rcases w4 with rfl | ⟨a, b⟩
          · left; rfl
          · right; simp at a b ⊢; omega
theorem str_empty (l : List Int) : (strOfNums l).toList.isEmpty = decide (l = []) := by
  rw [ByteArray.toList_eq, strOfNums_data]
  cases l <;> rfl
/-! numbers -/
def natV (acc : Nat) (l : List UInt8) : Nat := l.foldl (fun a c => a * 10 + (c.toNat - 48)) acc
theorem natV_ge : ∀ (l : List UInt8) (acc : Nat), acc ≤ natV acc l := by
  intro l
  induction l with
  | nil => intro acc; exact Nat.le_refl _
  | cons c l ih => intro acc; exact Nat.le_trans (by omega) (ih (acc * 10 + (c.toNat - 48)))
theorem parse_nat : ∀ (l : List UInt8) (acc : Nat), (∀ c ∈ l, 48 ≤ c.toNat ∧ c.toNat ≤ 57) → natV acc l ≤ 18446744073709551615 → Lib.parseUintM 18446744073709551615 acc l = .ok (natV acc l) := by
  intro l
  induction l with
  | nil => intro acc _ _; rfl
  | cons c l ih =>
    intro acc hd hm
    have h1 : acc * 10 + (c.toNat - 48) ≤ 18446744073709551615 := Nat.le_trans (natV_ge l _) hm
    rw [Lib.parseUintM, if_pos (hd c (List.mem_cons_self ..)), if_neg (by omega), if_neg (by omega)]
    exact ih _ (fun d h => hd d (List.mem_cons_of_mem _ h)) hm
theorem natV_digs : ∀ n : Nat, natV 0 (b8 (digs n)) = n := by
  intro n
  induction n using Nat.strongRecOn with
  | _ n ih =>
    by_cases h : n < 10
    · rw [digs_small h]
      show 0 * 10 + ((UInt8.ofNat (48 + (n : Int)).toNat).toNat - 48) = n
      simp
      omega
    · rw [digs_big h, b8_app]
      unfold natV
      rw [List.foldl_append]
      have := ih (n / 10) (by omega)
      unfold natV at this
      rw [this]
      show n / 10 * 10 + ((UInt8.ofNat (48 + ((n % 10 : Nat) : Int)).toNat).toNat - 48) = n
      simp
      omega
theorem digs_b8 (n : Nat) : ∀ c ∈ b8 (digs n), 48 ≤ c.toNat ∧ c.toNat ≤ 57 := by
  intro c hc
  unfold b8 at hc
  obtain ⟨d, hd, rfl⟩ := List.mem_map.1 hc
  have := digs_bytes n d hd
  simp
  omega
theorem parse_uint {n : Nat} (h : n ≤ 18446744073709551615) : Lib.parseUintB 64 (b8 (digs n)) = .ok n := by
  unfold Lib.parseUintB
  rw [if_neg (by intro e; have := congrArg List.length e; rw [b8_len] at this; exact digs_ne n (List.eq_nil_of_length_eq_zero this))]
  have := parse_nat (b8 (digs n)) 0 (digs_b8 n) (by rw [natV_digs]; exact h)
  rw [natV_digs] at this
  exact this
theorem parse_digits {n : Int} (h0 : -9223372036854775808 ≤ n) (h1 : n ≤ 9223372036854775807) : Lib.parseIntB 64 (b8 (digitsD n)) = .ok n := by
  unfold digitsD
  split
  · rename_i hn
    rw [show b8 (45 :: digs n.natAbs) = 45 :: b8 (digs n.natAbs) from rfl, Lib.parseIntB_minus, parse_uint (by omega)]
    show (if 2 ^ 63 < n.natAbs then Lib.NumEnd.range else Lib.NumEnd.ok (-(n.natAbs : Int))) = _
    rw [if_neg (by omega), show -(n.natAbs : Int) = n by omega]
  · rename_i hn
    obtain ⟨c, l, hcl⟩ : ∃ c l, b8 (digs n.natAbs) = c :: l := by
      cases hh : b8 (digs n.natAbs) with
      | nil => have := congrArg List.length hh; rw [b8_len] at this; exact absurd (List.eq_nil_of_length_eq_zero this) (digs_ne _)
      | cons c l => exact ⟨c, l, rfl⟩
    have hc := digs_b8 n.natAbs c (by rw [hcl]; exact List.mem_cons_self ..)
    have hu := parse_uint (n := n.natAbs) (by omega)
    rw [hcl] at hu ⊢
    rw [Lib.parseIntB_plain _ _ _ (by omega) (by omega), hu]
    show (if 2 ^ 63 ≤ n.natAbs then Lib.NumEnd.range else Lib.NumEnd.ok (n.natAbs : Int)) = _
    rw [if_neg (by omega), show (n.natAbs : Int) = n by omega]
theorem num_parse {s : List Int} {v : Int} (h : Lib.parseIntB 64 (b8 s) = .ok v) (h0 : -9223372036854775808 ≤ v) (h1 : v ≤ 9223372036854775807) : numO s 19 = if digitsD v = s then some v else none := by
  split
  · rename_i e; rw [← e]; exact num_any h0 h1
  · rename_i e
    cases hn : numO s 19 with
    | none => rfl
    | some n =>
      obtain ⟨hs, a, b⟩ := num_is hn
      have := parse_digits a b
      rw [← hs, h] at this
      cases this
      exact absurd hs.symm e
theorem num_unparsed {s : List Int} (h : ∀ v, Lib.parseIntB 64 (b8 s) ≠ .ok v) : numO s 19 = none := by
  cases hn : numO s 19 with
  | none => rfl
  | some n =>
    obtain ⟨hs, a, b⟩ := num_is hn
    have := parse_digits a b
    rw [← hs] at this
    exact absurd this (h n)
theorem digs_lt : ∀ n : Nat, n < 10 ^ (digs n).length := by
  intro n
  induction n using Nat.strongRecOn with
  | _ n ih =>
    by_cases h : n < 10
    · rw [digs_small h]; show n < 10 ^ 1; omega
    · rw [digs_big h, List.length_append]
      have := ih (n / 10) (by omega)
      show n < 10 ^ ((digs (n / 10)).length + 1)
      rw [Nat.pow_succ]
      omega
theorem num_short (s : List Int) : numO s 18 = match numO s 19 with
    | some v => if -1000000000000000000 < v ∧ v < 1000000000000000000 then some v else none
    | none => none := by
  cases h19 : numO s 19 with
  | none =>
    unfold numO at h19 ⊢
    split at h19
    · cases h19
    · rename_i h
      rw [if_neg (fun ⟨a, b⟩ => h ⟨by omega, b⟩)]
  | some v =>
    obtain ⟨hs, a, b⟩ := num_is h19
    subst hs
    show _ = if _ then _ else _
    split
    · rename_i h
      exact num_of a b (digs_len 18 _ (by omega) (by omega))
    · rename_i h
      unfold numO
      rw [if_neg]
      intro ⟨hl, _⟩
      rw [(numT_digits v).1] at hl
      have h1 := digs_lt v.natAbs
      have h2 : 10 ^ (digs v.natAbs).length ≤ 10 ^ 18 := Nat.pow_le_pow_right (by omega) hl
      omega
end Go.Proofs.YtjlfcbccpcigeacDoor
