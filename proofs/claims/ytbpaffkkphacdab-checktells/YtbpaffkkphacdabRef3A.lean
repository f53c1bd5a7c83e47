/- Ref3A: texts that are built as one: Ref3Copy, Ref3Same, Ref3Is. -/
import Derived.Test.YtbpaffkkphacdabLoopP
import Derived.Test.YtbpaffkkphacdabBase
import Derived.Deep.QuietTactic
import Derived.BigQuiet
import Derived.Test.YtbpaffkkphacdabMaths
/- The contract of the document's own copy of words: new rows of the same numbers; nothing that was there is changed. -/
namespace Go.Proofs.Ytbpaffkkphacdab
open Go.RowKit Go.Joins
set_option linter.unusedVariables false

theorem Try.i2 : (Try.prog.info? 2).map (fun i => (i.zero, i.size, i.bytes)) = some (some (.int .i64 0), 1, 8) := by kernel_rfl
theorem Try.i46 : (Try.prog.info? 46).map (fun i => (i.zero, i.size, i.bytes)) = some (some (.slice none 0 0), 1, 24) := by kernel_rfl

/-- the rows of words that a call owns: row i lies in block G i, has len i numbers f i and room for C i; no two share a block -/
def Inner (w : World) (base : Nat) (G C : Nat → Nat) (n : Nat) (len : Nat → Nat) (f : Nat → Nat → Int) : Prop :=
  (∀ i, i < n → base ≤ G i ∧ len i ≤ C i ∧ C i ≤ maxLen ∧ RowF w (G i) 2 (len i) (fun j => .int .i64 (f i j))) ∧ ∀ i j, i < n → j < n → i ≠ j → G i ≠ G j
def rowV (G C len : Nat → Nat) (i : Nat) : Value := .slice (some ⟨G i, 0, none⟩) (len i) (C i)

theorem Inner.keep {w w' : World} {base : Nat} {G C : Nat → Nat} {n : Nat} {len : Nat → Nat} {f : Nat → Nat → Int} (h : Inner w base G C n len f) (hb : ∀ i, i < n → w'.heap[G i]? = w.heap[G i]?) : Inner w' base G C n len f :=
  ⟨fun i hi => ⟨(h.1 i hi).1, (h.1 i hi).2.1, (h.1 i hi).2.2.1, (h.1 i hi).2.2.2.of_block (hb i hi)⟩, h.2⟩
theorem Inner.below {w w' : World} {base : Nat} {G C : Nat → Nat} {n : Nat} {len : Nat → Nat} {f : Nat → Nat → Int} (h : Inner w base G C n len f) (hb : Below w.heap.size w w') : Inner w' base G C n len f :=
  h.keep fun i hi => hb.block _ (h.1 i hi).2.2.2.lt
theorem getD_ints (zs : List Int) (i : Nat) (h : i < zs.length) : (zs.map (Value.int .i64)).getD i (.bool false) = .int .i64 (nth zs i) := by
  simp [List.getD, nth, h]

theorem one_cell (w : World) (x : Value) (t : TypeId) : ∀ (j : Nat) (u : Value), [x][j]? = some u → (w.alloc (.cells #[x] t)).cell? ((⟨w.heap.size, 0, none⟩ : Addr).add j) = some u := by
  intro j u hj
  match j, hj with
  | 0, hj =>
    have h : x = u := by simpa using hj
    subst h
    simp [Addr.add]
end Go.Proofs.Ytbpaffkkphacdab
/- Contracts of the document's own comparison of results: it returns whether the numbers are one; the world is as it was but for draws. -/
namespace Go.Proofs.Ytbpaffkkphacdab
open Go.RowKit Go.Joins
set_option linter.unusedVariables false

theorem nth_ext {a b : List Int} (hl : a.length = b.length) (h : ∀ j, j < a.length → nth a j = nth b j) : a = b := by
  refine List.ext_getElem hl fun i h1 h2 => ?_
  have := h i h1
  simpa [nth, List.getD, h1, h2] using this
set_option maxHeartbeats 400000 in
theorem numbers_any (va vb : Value) (za zb : List Int) (w : World) (ha : Ints w va za) (hb : Ints w vb zb) :
    Calls Try.prog 21 #[va, vb] w fun e w' => e = .returned (.bool (decide (za = zb))) ∧ ∃ n, w' = w.drewN n := by
  obtain ⟨aa, ac, rfl, al, am, ar, acell⟩ := ha
  obtain ⟨ba, bc, rfl, bl, bm, br, bcell⟩ := hb
  unfold maxLen at am bm
  by_cases hl : za.length = zb.length
  · have h1 : ((za.length : Int) != (zb.length : Int)) = false := by simp; omega
    have HL := hide hl
    clear hl
    go_enter Try.func21, Try.ntmps21
    go_wp2_with fail
    go_loopw [5] (fun i wr => ∃ k n : Nat, k ≤ za.length ∧ i = .int .i64 k ∧ wr = w.drewN n ∧ ∀ j, j < k → nth za j = nth zb j) (fun i _ => za.length - (intOf i).toNat)
    case atStart => exact ⟨0, 0, Nat.zero_le _, rfl, rfl, fun j hj => absurd hj (Nat.not_lt_zero _)⟩
    case round =>
      obtain ⟨k, n, hk, rfl, rfl, hall⟩ := hrel
      have HA := hide hall
      clear hall
      by_cases hlt : k < za.length
      · have hltb : k < zb.length := by have := HL.out; omega
        obtain ⟨b1, o1, rfl, hb1, hc1⟩ := acell (by omega)
        obtain ⟨b2, o2, rfl, hb2, hc2⟩ := bcell (by omega)
        have c1 := hc1 k hlt
        have c2 := hc2 k hltb
        have i1 : (k : Int) < (za.length : Int) := by omega
        have i2 : (k : Int) < (zb.length : Int) := by omega
        clear hc1 hc2 acell bcell ar br
        by_cases hx : nth za k = nth zb k
        · have HX := hide hx
          have hne : (nth za k != nth zb k) = false := by simpa using hx
          clear hx
          go_wp2_with fail
          go_quiet ((fail))
          go_wp2_with fail
          go_roundw
          case rel => exact ⟨k + 1, _, by omega, by go_num, rfl, fun j hj => by
            by_cases e : j = k
            · rw [e]; exact HX.out
            · exact HA.out j (by omega)⟩
          case measure => simp [intOf]; omega
        · have HX : Hid (decide (za = zb) = false) := decide_eq_false (fun e => hx (by rw [e]))
          have hne : (nth za k != nth zb k) = true := by simpa using hx
          clear hx
          go_wp2_with fail
          go_quiet ((fail))
          go_wp2_with fail
          go_ret
          exact ⟨ret_bool HX.out.symm, _, World.drewN_drewN _ _ _⟩
      · have HX : Hid (decide (za = zb) = true) := decide_eq_true (nth_ext HL.out (fun j hj => HA.out j (by omega)))
        clear HA acell bcell ar br
        go_wp2_with fail
        go_ret
        exact ⟨ret_bool HX.out.symm, _, rfl⟩
  · have h1 : ((za.length : Int) != (zb.length : Int)) = true := by simp; omega
    have HX : Hid (decide (za = zb) = false) := decide_eq_false (fun e => hl (by rw [e]))
    clear hl acell bcell ar br
    go_enter Try.func21, Try.ntmps21
    go_wp2_with fail
    go_ret
    exact ⟨ret_bool HX.out.symm, 0, rfl⟩

end Go.Proofs.Ytbpaffkkphacdab
/- The contract of the document's own reading of a Ref: what it is in a turn; nothing that was there is changed. -/
namespace Go.Proofs.Ytbpaffkkphacdab
open Go.RowKit Go.Joins
set_option linter.unusedVariables false

/-- v leads to rows of n numbers each: the first T of its len cells read as val -/
def GridR (w : World) (v : Value) (len T n : Nat) (val : Nat → Nat → Int) : Prop :=
  ∃ g cap, v = .slice (some ⟨g, 0, none⟩) len cap ∧ len ≤ cap ∧ cap ≤ maxLen ∧ g < w.heap.size ∧
    ∀ i, i < T → ∃ b c, w.cell? ⟨g, i, none⟩ = some (.slice (some ⟨b, 0, none⟩) n c) ∧ n ≤ c ∧ c ≤ maxLen ∧ b < w.heap.size ∧ ∀ k, k < n → w.cell? ⟨b, k, none⟩ = some (.int .i64 (val i k))
theorem GridR.below {w w' : World} {v : Value} {len T n : Nat} {val : Nat → Nat → Int} (h : GridR w v len T n val) (hb : Below w.heap.size w w') : GridR w' v len T n val := by
  obtain ⟨g, cap, e, h1, h2, h3, h4⟩ := h
  refine ⟨g, cap, e, h1, h2, Nat.lt_of_lt_of_le h3 hb.size, fun i hi => ?_⟩
  obtain ⟨b, c, h5, h6, h7, h8, h9⟩ := h4 i hi
  exact ⟨b, c, by rw [bcell hb _ _ h3]; exact h5, h6, h7, Nat.lt_of_lt_of_le h8 hb.size, fun k hk => by rw [bcell hb _ _ h8]; exact h9 k hk⟩

end Go.Proofs.Ytbpaffkkphacdab
