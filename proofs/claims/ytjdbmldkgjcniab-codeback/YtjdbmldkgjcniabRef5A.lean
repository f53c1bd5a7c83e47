/- Ref5A: texts that are built as one: Ref5Logs, KernInv, KernStep. -/
import Derived.Test.YtjdbmldkgjcniabBase
import Derived.Test.YtjdbmldkgjcniabNums
import Derived.Test.YtjdbmldkgjcniabRef3A
import Derived.Deep.QuietTactic
import Derived.BigQuiet
import Derived.Deep.RegionHeld3
import Derived.BigRegion
import Derived.Test.YtjdbmldkgjcniabRounds
import Derived.Test.YtjdbmldkgjcniabKernS
/- The contract of the document's own reckoning of Logs; nothing that was there is changed. -/
namespace Go.Proofs.Ytjdbmldkgjcniab
open Go.RowKit Go.Joins
set_option linter.unusedVariables false

end Go.Proofs.Ytjdbmldkgjcniab
/- Where a run of a kernel stands in memory, by the document's own program: the registers, the words, what is due, the Logs; what a store, an append and a callee leave of it. -/
namespace Go.Proofs.Ytjdbmldkgjcniab
open Go.RowKit Go.Joins
set_option linter.unusedVariables false

/-- mv leads to n rows of the words m, in blocks of the call's own -/
structure MR (w : World) (base : Nat) (mv : Value) (n : Nat) (len : Nat → Nat) (m : Nat → Nat → Int) (gm cm : Nat) (G C : Nat → Nat) : Prop where
  shape : ∃ am, mv = .slice am n cm ∧ n ≤ cm ∧ cm ≤ maxLen
  out : n = 0 ∨ (mv = .slice (some ⟨gm, 0, none⟩) n cm ∧ RowF w gm 46 n (rowV G C len) ∧ base ≤ gm)
  inn : Inner w base G C n len m
theorem MR.keep {w w' : World} {base : Nat} {mv : Value} {n : Nat} {len : Nat → Nat} {m : Nat → Nat → Int} {gm cm : Nat} {G C : Nat → Nat} (h : MR w base mv n len m gm cm G C) (h1 : 0 < n → w'.heap[gm]? = w.heap[gm]?) (h2 : ∀ i, i < n → w'.heap[G i]? = w.heap[G i]?) : MR w' base mv n len m gm cm G C where
  shape := h.shape
  out := by
    rcases h.out with e | ⟨e1, e2, e3⟩
    · exact .inl e
    · by_cases hn : n = 0
      · exact .inl hn
      · exact .inr ⟨e1, e2.of_block (h1 (by omega)), e3⟩
  inn := h.inn.keep h2
theorem MR.lt {w : World} {base : Nat} {mv : Value} {n : Nat} {len : Nat → Nat} {m : Nat → Nat → Int} {gm cm : Nat} {G C : Nat → Nat} (h : MR w base mv n len m gm cm G C) (hn : 0 < n) : gm < w.heap.size := by
  rcases h.out with e | ⟨e1, e2, e3⟩
  · omega
  · exact e2.lt
theorem MR.below {w w' : World} {base : Nat} {mv : Value} {n : Nat} {len : Nat → Nat} {m : Nat → Nat → Int} {gm cm : Nat} {G C : Nat → Nat} (h : MR w base mv n len m gm cm G C) (hb : Below w.heap.size w w') : MR w' base mv n len m gm cm G C :=
  h.keep (fun hn => hb.block _ (h.lt hn)) (fun i hi => hb.block _ (h.inn.1 i hi).2.2.2.lt)
/-- a word becomes v -/
theorem MR.set {w : World} {base : Nat} {mv : Value} {n : Nat} {len : Nat → Nat} {m : Nat → Nat → Int} {gm cm : Nat} {G C : Nat → Nat} (h : MR w base mv n len m gm cm G C) (i j : Nat) (v : Int) (hi : i < n) (hj : j < len i) :
    MR (w.setCell ⟨G i, j, none⟩ (.int .i64 v)) base mv n len (put2 m i j v) gm cm G C where
  shape := h.shape
  out := by
    rcases h.out with e | ⟨e1, e2, e3⟩
    · exact .inl e
    · exact .inr ⟨e1, e2.setOther (by show gm ≠ G i; exact e2.apart (h.inn.1 i hi).2.2.2 (by decide)) _, e3⟩
  inn := by
    refine ⟨fun a ha => ⟨(h.inn.1 a ha).1, (h.inn.1 a ha).2.1, (h.inn.1 a ha).2.2.1, ?_⟩, h.inn.2⟩
    by_cases e : a = i
    · subst e
      refine ((h.inn.1 a ha).2.2.2.set j _ hj).congr fun q hq => ?_
      show (if q = j then Value.int .i64 v else .int .i64 (m a q)) = .int .i64 (put2 m a j v a q)
      rw [put2_in]
      split <;> rfl
    · refine ((h.inn.1 a ha).2.2.2.setOther (by show G a ≠ G i; exact h.inn.2 a i ha hi e) _).congr fun q hq => ?_
      show Value.int .i64 (m a q) = .int .i64 (put2 m i j v a q)
      rw [put2_row _ _ _ _ _ _ e]
theorem MR.mono {w : World} {base base' : Nat} {mv : Value} {n : Nat} {len : Nat → Nat} {m : Nat → Nat → Int} {gm cm : Nat} {G C : Nat → Nat} (h : MR w base mv n len m gm cm G C) (hb : base' ≤ base) : MR w base' mv n len m gm cm G C where
  shape := h.shape
  out := by
    rcases h.out with e | ⟨e1, e2, e3⟩
    · exact .inl e
    · exact .inr ⟨e1, e2, by omega⟩
  inn := ⟨fun i hi => ⟨by have := (h.inn.1 i hi).1; omega, (h.inn.1 i hi).2.1, (h.inn.1 i hi).2.2.1, (h.inn.1 i hi).2.2.2⟩, h.inn.2⟩
/-- the words, to be read -/
theorem MR.rows {w : World} {base : Nat} {mv : Value} {n : Nat} {len : Nat → Nat} {m : Nat → Nat → Int} {gm cm : Nat} {G C : Nat → Nat} (h : MR w base mv n len m gm cm G C) (hs : ∀ i j, I64 (m i j)) :
    IntRows w mv ((List.range n).map fun i => (List.range (len i)).map fun j => m i j) := by
  have hl : ((List.range n).map fun i => (List.range (len i)).map fun j => m i j).length = n := by simp
  obtain ⟨am, hv, hc1, hc2⟩ := h.shape
  refine ⟨am, cm, by rw [hl]; exact hv, by rw [hl]; exact hc1, hc2, fun hp => ?_⟩
  rw [hl] at hp ⊢
  rcases h.out with e | ⟨e1, e4, e5⟩
  · omega
  rw [hv] at e1
  injection e1 with f1 f2 f3
  refine ⟨gm, 0, f1, e4.lt, fun i hi => ⟨rowV G C len i, by rw [Nat.zero_add]; exact e4.cell hi, ?_⟩⟩
  obtain ⟨g1, g2, g3, g4⟩ := h.inn.1 i hi
  have hr : rowAt ((List.range n).map fun i => (List.range (len i)).map fun j => m i j) i = (List.range (len i)).map fun j => m i j := by unfold rowAt; simp [List.getD, hi]
  have hnth : ∀ j, j < len i → nth ((List.range (len i)).map fun j => m i j) j = m i j := fun j hj => by unfold nth; simp [List.getD, hj]
  have hl2 : ((List.range (len i)).map fun j => m i j).length = len i := by simp
  rw [hr]
  refine ⟨some ⟨G i, 0, none⟩, C i, by rw [hl2]; rfl, by rw [hl2]; exact g2, g3, fun j hj => ?_, fun _ => ⟨G i, 0, rfl, g4.lt, fun j hj => ?_⟩⟩
  · rw [hl2] at hj; rw [hnth j hj]; exact hs i j
  · rw [hl2] at hj; rw [Nat.zero_add, hnth j hj]; exact g4.cell hj

end Go.Proofs.Ytjdbmldkgjcniab
/- What a cycle does to where a run stands, step by step; no walk. -/
namespace Go.Proofs.Ytjdbmldkgjcniab
open Go.RowKit Go.Joins
set_option linter.unusedVariables false

end Go.Proofs.Ytjdbmldkgjcniab
