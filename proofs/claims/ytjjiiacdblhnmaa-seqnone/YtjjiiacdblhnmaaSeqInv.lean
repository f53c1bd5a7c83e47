/- Where a run stands in memory, by the program: a runner, what each statement came to, the words; what a store, an append and a callee leave of it. -/
import Derived.Test.YtjjiiacdblhnmaaRef3Outs
import Derived.Test.YtjjiiacdblhnmaaRowx
namespace Go.Proofs.Ytjjiiacdblhnmaa
open Go.RowKit Go.Joins
set_option linter.unusedVariables false

/-- what a statement's past holds: three numbers from ahead of the first turn, the turn just ahead last, then what it came to -/
def pastV (B : List (List Int)) (val : Nat → Nat → Int) (i j : Nat) : Int := if j < 3 then nth (rowAt B i) (2 - j) else val (j - 3) i
/-- how long the pasts are when k statements of turn T are done -/
def plen (T k i : Nat) : Nat := if i < k then T + 4 else T + 3
theorem pastV_ref (B : List (List Int)) (val : Nat → Nat → Int) (T x y : Nat) (h : y ≤ 3) : pastV B val x (3 + T - y) = refV B val T x y := by
  unfold pastV refV
  by_cases hy : y ≤ T
  · rw [if_neg (by omega), if_pos (by omega), Int.toNat_natCast, show ((T : Int) - (y : Int)).toNat = 3 + T - y - 3 from by omega]
  · rw [if_pos (by omega), if_neg (by omega), Int.toNat_natCast, show ((y : Int) - (T : Int) - 1).toNat = 2 - (3 + T - y) from by omega]
theorem pastV_last (B : List (List Int)) (val : Nat → Nat → Int) (T i : Nat) : pastV B val i (T + 2) = if T = 0 then nth (rowAt B i) 0 else val (T - 1) i := by
  unfold pastV
  by_cases h : T = 0
  · subst h; rfl
  · rw [if_neg (by omega), if_neg h, show T + 2 - 3 = T - 1 from by omega]

theorem getD_snoc_lt (xs : List Value) (u : Value) (j : Nat) (h : j < xs.length) : (xs ++ [u]).getD j (.bool false) = xs.getD j (.bool false) := by simp [List.getD, List.getElem?_append, h]
theorem getD_snoc_at (xs : List Value) (u : Value) (j : Nat) (h : j = xs.length) : (xs ++ [u]).getD j (.bool false) = u := by subst h; simp [List.getD]
/-- w0: as the run began; from its size on all is the run's own; R: the runner; the pasts lie in the blocks G i, which gp leads to, the words in GM i, which gm leads to; what they hold is s, where k statements of turn T are done -/
structure RInv (w0 : World) (R : Nat) (l0 l1 l2 : Value) (gp cp : Nat) (mv : Value) (gm cm N n : Nat) (lenM GM CM : Nat → Nat) (B : List (List Int)) (G C : Nat → Nat) (T k : Nat) (s : Sq) (wr : World) : Prop where
  bel : Below w0.heap.size w0 wr
  hR : wr.heap[R]? = some (.cells #[l0, l1, l2, .slice (some ⟨gp, 0, none⟩) N cp, mv] 68 (0, 0))
  hRb : w0.heap.size ≤ R
  pout : RowF wr gp 36 N (rowV G C (plen T k))
  pb : w0.heap.size ≤ gp ∧ N ≤ cp ∧ cp ≤ maxLen
  pin : ∀ i, i < N → w0.heap.size ≤ G i ∧ C i ≤ maxLen ∧ RowX wr (G i) 2 (C i) (plen T k i) (fun j => .int .i64 (pastV B s.val i j))
  pinj : ∀ i j, i < N → j < N → i ≠ j → G i ≠ G j
  mout : n = 0 ∨ (mv = .slice (some ⟨gm, 0, none⟩) n cm ∧ n ≤ cm ∧ cm ≤ maxLen ∧ RowF wr gm 36 n (rowV GM CM lenM) ∧ w0.heap.size ≤ gm ∧ gm ≠ gp)
  min : Inner wr w0.heap.size GM CM n lenM s.mem
  apart : ∀ i j, i < N → j < n → G i ≠ GM j

theorem RInv.below {w0 : World} {R : Nat} {l0 l1 l2 : Value} {gp cp : Nat} {mv : Value} {gm cm N n : Nat} {lenM GM CM : Nat → Nat} {B : List (List Int)} {G C : Nat → Nat} {T k : Nat} {s : Sq} {wr w' : World}
    (h : RInv w0 R l0 l1 l2 gp cp mv gm cm N n lenM GM CM B G C T k s wr) (hb : Below wr.heap.size wr w') : RInv w0 R l0 l1 l2 gp cp mv gm cm N n lenM GM CM B G C T k s w' where
  bel := h.bel.trans (hb.mono h.bel.size)
  hR := by rw [hb.block R (Array.getElem?_eq_some_iff.1 h.hR).1]; exact h.hR
  hRb := h.hRb
  pout := h.pout.below hb h.pout.lt
  pb := h.pb
  pin := fun i hi => ⟨(h.pin i hi).1, (h.pin i hi).2.1, (h.pin i hi).2.2.below hb (h.pin i hi).2.2.lt⟩
  pinj := h.pinj
  mout := by
    rcases h.mout with h1 | ⟨h1, h2, h3, h4, h5⟩
    · exact .inl h1
    · exact .inr ⟨h1, h2, h3, h4.below hb h4.lt, h5⟩
  min := h.min.below hb
  apart := h.apart

theorem block_apart {w : World} {R g : Nat} {c : Array Value} {e e' : TypeId} {n : Nat} {f : Nat → Value} (h : w.heap[R]? = some (.cells c e (0, 0))) (hr : RowF w g e' n f) (he : e ≠ e') : R ≠ g := by
  intro hg
  subst hg
  obtain ⟨c', hb, _, _⟩ := hr
  rw [h] at hb
  have h1 := Option.some.inj hb
  injection h1 with _ h2
  exact he h2

/-- a word becomes v -/
theorem RInv.setMem {w0 : World} {R : Nat} {l0 l1 l2 : Value} {gp cp : Nat} {mv : Value} {gm cm N n : Nat} {lenM GM CM : Nat → Nat} {B : List (List Int)} {G C : Nat → Nat} {T k : Nat} {s : Sq} {wr : World}
    (h : RInv w0 R l0 l1 l2 gp cp mv gm cm N n lenM GM CM B G C T k s wr) (i j : Nat) (v : Int) (hi : i < n) (hj : j < lenM i) :
    RInv w0 R l0 l1 l2 gp cp mv gm cm N n lenM GM CM B G C T k ⟨put2 s.mem i j v, s.val⟩ (wr.setCell ⟨GM i, j, none⟩ (.int .i64 v)) where
  bel := h.bel.setCell (by show w0.heap.size ≤ GM i; exact (h.min.1 i hi).1) _
  hR := by rw [Below.heap_setCell _ _ _ _ (by show R ≠ GM i; exact block_apart h.hR (h.min.1 i hi).2.2.2 (by decide))]; exact h.hR
  hRb := h.hRb
  pout := h.pout.setOther (by show gp ≠ GM i; exact h.pout.apart (h.min.1 i hi).2.2.2 (by decide)) _
  pb := h.pb
  pin := fun a ha => ⟨(h.pin a ha).1, (h.pin a ha).2.1, (h.pin a ha).2.2.setOther (by show G a ≠ GM i; exact h.apart a i ha hi) _⟩
  pinj := h.pinj
  mout := by
    rcases h.mout with h1 | ⟨h1, h2, h3, h4, h5⟩
    · exact .inl h1
    · exact .inr ⟨h1, h2, h3, h4.setOther (by show gm ≠ GM i; exact h4.apart (h.min.1 i hi).2.2.2 (by decide)) _, h5⟩
  min := by
    refine ⟨fun a ha => ⟨(h.min.1 a ha).1, (h.min.1 a ha).2.1, (h.min.1 a ha).2.2.1, ?_⟩, h.min.2⟩
    by_cases e : a = i
    · subst e
      refine ((h.min.1 a ha).2.2.2.set j _ hj).congr fun q hq => ?_
      show (if q = j then Value.int .i64 v else .int .i64 (s.mem a q)) = .int .i64 (put2 s.mem a j v a q)
      rw [put2_in]
      split <;> rfl
    · refine ((h.min.1 a ha).2.2.2.setOther (by show GM a ≠ GM i; exact h.min.2 a i ha hi e) _).congr fun q hq => ?_
      show Value.int .i64 (s.mem a q) = .int .i64 (put2 s.mem i j v a q)
      rw [put2_row _ _ _ _ _ _ e]
  apart := h.apart

/-- statement k of turn T has come to v: its past is longer by one -/
theorem RInv.push {w0 : World} {R : Nat} {l0 l1 l2 : Value} {gp cp : Nat} {mv : Value} {gm cm N n : Nat} {lenM GM CM : Nat → Nat} {B : List (List Int)} {G C : Nat → Nat} {T k : Nat} {s : Sq} {wr w2 : World} {g cap : Nat}
    (h : RInv w0 R l0 l1 l2 gp cp mv gm cm N n lenM GM CM B G C T k s wr) (hk : k < N) (v : Int)
    (ho : w2.ownsRow w0.heap.size 2 1 (.slice (some ⟨g, 0, none⟩) (T + 3 + 1) cap) (T + 3 + 1) ((List.range (T + 3)).map (fun j => Value.int .i64 (pastV B s.val k j)) ++ [.int .i64 v]))
    (hg : wr.grownBy w2 (some (G k))) (hat : some (G k) = some g ∨ wr.heap.size ≤ g) :
    RInv w0 R l0 l1 l2 gp cp mv gm cm N n lenM GM CM B (fun i => if i = k then g else G i) (fun i => if i = k then cap else C i) T (k + 1) ⟨s.mem, put2 s.val T k v⟩ (w2.setCell ⟨gp, k, none⟩ (.slice (some ⟨g, 0, none⟩) (T + 3 + 1) cap)) := by
  obtain ⟨x1, x2, x3⟩ := own_x ho
  have hpk := h.pin k hk
  have hGk : w0.heap.size ≤ G k := hpk.1
  have hbel2 : Below w0.heap.size w0 w2 := h.bel.grown hg h.bel.size (fun q hq => by injection hq with hq; omega)
  have hgp : gp ≠ G k := h.pout.apart hpk.2.2.row (by decide)
  have hRk : R ≠ G k := block_apart h.hR hpk.2.2.row (by decide)
  have hRl : R < wr.heap.size := (Array.getElem?_eq_some_iff.1 h.hR).1
  have hRp : R ≠ gp := block_apart h.hR h.pout (by decide)
  have blk : ∀ q, q < wr.heap.size → q ≠ G k → w2.heap[q]? = wr.heap[q]? := fun q hq hne => hg.block q hq (by intro e; exact hne (Option.some.inj e))
  have hgfar : ∀ q, q < wr.heap.size → q ≠ G k → q ≠ g := by
    intro q hq hne e
    rcases hat with e2 | e2
    · exact hne (e.trans (Option.some.inj e2).symm)
    · omega
  have hpo : RowF w2 gp 36 N (rowV G C (plen T k)) := h.pout.of_block (blk gp h.pout.lt hgp)
  refine { bel := hbel2.setCell (by show w0.heap.size ≤ gp; exact h.pb.1) _, hR := ?_, hRb := h.hRb, pout := ?_, pb := h.pb, pin := ?_, pinj := ?_, mout := ?_, min := ?_, apart := ?_ }
  · rw [Below.heap_setCell _ _ _ _ (by show R ≠ gp; exact hRp), blk R hRl hRk]; exact h.hR
  · refine (hpo.set k _ hk).congr fun i hi => ?_
    by_cases e : i = k
    · subst e; simp [rowV, plen]
    · simp only [if_neg e, rowV, plen]
      by_cases e2 : i < k
      · rw [if_pos e2, if_pos (by omega)]
      · rw [if_neg e2, if_neg (by omega)]
  · intro i hi
    by_cases e : i = k
    · subst e
      simp only [if_true]
      refine ⟨x1, x2, ?_⟩
      have hp : plen T (i + 1) i = T + 3 + 1 := by unfold plen; rw [if_pos (by omega)]
      rw [hp]
      refine (x3.setOther (by show g ≠ gp; exact (hgfar gp h.pout.lt hgp).symm) _).congr fun j hj => ?_
      by_cases ej : j < T + 3
      · rw [getD_snoc_lt _ _ _ (by simpa using ej), getD_range _ _ _ ej]
        show Value.int .i64 (pastV B s.val i j) = .int .i64 (pastV B (put2 s.val T i v) i j)
        unfold pastV
        by_cases e3 : j < 3
        · rw [if_pos e3, if_pos e3]
        · rw [if_neg e3, if_neg e3, put2_row _ _ _ _ _ _ (by omega)]
      · have e4 : j = T + 3 := by omega
        subst e4
        rw [getD_snoc_at _ _ _ (by simp)]
        show _ = Value.int .i64 (pastV B (put2 s.val T i v) i (T + 3))
        unfold pastV
        rw [if_neg (by omega), show T + 3 - 3 = T from by omega, put2_at]
    · simp only [if_neg e]
      obtain ⟨p1, p2, p3⟩ := h.pin i hi
      refine ⟨p1, p2, ?_⟩
      have hp : plen T (k + 1) i = plen T k i := by
        unfold plen
        by_cases e2 : i < k
        · rw [if_pos e2, if_pos (by omega)]
        · rw [if_neg e2, if_neg (by omega)]
      rw [hp]
      refine ((p3.of_block (blk (G i) p3.lt (h.pinj i k hi hk e))).setOther (by show G i ≠ gp; exact (h.pout.apart p3.row (by decide)).symm) _).congr fun j hj => ?_
      show Value.int .i64 (pastV B s.val i j) = .int .i64 (pastV B (put2 s.val T k v) i j)
      unfold pastV
      rw [put2_col _ _ _ _ _ _ e]
  · intro i j hi hj hij
    by_cases e1 : i = k
    · by_cases e2 : j = k
      · omega
      · simp only [if_pos e1, if_neg e2]
        exact (hgfar (G j) (h.pin j hj).2.2.lt (h.pinj j k hj hk e2)).symm
    · by_cases e2 : j = k
      · simp only [if_neg e1, if_pos e2]
        exact hgfar (G i) (h.pin i hi).2.2.lt (h.pinj i k hi hk e1)
      · simp only [if_neg e1, if_neg e2]
        exact h.pinj i j hi hj hij
  · rcases h.mout with h1 | ⟨h1, h2, h3, h4, h5, h6⟩
    · exact .inl h1
    · exact .inr ⟨h1, h2, h3, (h4.of_block (blk gm h4.lt (h4.apart hpk.2.2.row (by decide)))).setOther (by show gm ≠ gp; exact h6) _, h5, h6⟩
  · exact (h.min.keep fun i hi => blk (GM i) (h.min.1 i hi).2.2.2.lt (h.apart k i hk hi).symm).keep fun i hi => Below.heap_setCell _ _ _ _ (by show GM i ≠ gp; exact (h.pout.apart (h.min.1 i hi).2.2.2 (by decide)).symm)
  · intro i j hi hj
    by_cases e : i = k
    · simp only [if_pos e]
      exact (hgfar (GM j) (h.min.1 j hj).2.2.2.lt (h.apart k j hk hj).symm).symm
    · simp only [if_neg e]
      exact h.apart i j hi hj

/-- a turn is done -/
theorem RInv.next {w0 : World} {R : Nat} {l0 l1 l2 : Value} {gp cp : Nat} {mv : Value} {gm cm N n : Nat} {lenM GM CM : Nat → Nat} {B : List (List Int)} {G C : Nat → Nat} {T : Nat} {s : Sq} {wr : World}
    (h : RInv w0 R l0 l1 l2 gp cp mv gm cm N n lenM GM CM B G C T N s wr) : RInv w0 R l0 l1 l2 gp cp mv gm cm N n lenM GM CM B G C (T + 1) 0 s wr := by
  have hp : ∀ i, i < N → plen T N i = plen (T + 1) 0 i := fun i hi => by unfold plen; rw [if_pos hi, if_neg (by omega)]
  exact { h with
    pout := h.pout.congr fun i hi => by unfold rowV; rw [hp i hi]
    pin := fun i hi => by rw [← hp i hi]; exact h.pin i hi }

/-- the words, to be read -/
theorem RInv.words {w0 : World} {R : Nat} {l0 l1 l2 : Value} {gp cp : Nat} {am : Option Addr} {capm gm N n : Nat} {lenM GM CM : Nat → Nat} {B : List (List Int)} {G C : Nat → Nat} {T k : Nat} {s : Sq} {wr : World}
    (h : RInv w0 R l0 l1 l2 gp cp (.slice am n capm) gm capm N n lenM GM CM B G C T k s wr) (hc1 : n ≤ capm) (hc2 : capm ≤ maxLen) (hs : s.fine) :
    IntRows wr (.slice am n capm) ((List.range n).map fun i => (List.range (lenM i)).map fun j => s.mem i j) := by
  have hl : ((List.range n).map fun i => (List.range (lenM i)).map fun j => s.mem i j).length = n := by simp
  refine ⟨am, capm, by rw [hl], by rw [hl]; exact hc1, hc2, fun hp => ?_⟩
  rw [hl] at hp ⊢
  rcases h.mout with e | ⟨e1, e2, e3, e4, e5⟩
  · omega
  injection e1 with f1 f2 f3
  refine ⟨gm, 0, f1, e4.lt, fun i hi => ⟨rowV GM CM lenM i, by rw [Nat.zero_add]; exact e4.cell hi, ?_⟩⟩
  obtain ⟨g1, g2, g3, g4⟩ := h.min.1 i hi
  have hr : rowAt ((List.range n).map fun i => (List.range (lenM i)).map fun j => s.mem i j) i = (List.range (lenM i)).map fun j => s.mem i j := by unfold rowAt; simp [List.getD, hi]
  have hnth : ∀ j, j < lenM i → nth ((List.range (lenM i)).map fun j => s.mem i j) j = s.mem i j := fun j hj => by unfold nth; simp [List.getD, hj]
  have hl2 : ((List.range (lenM i)).map fun j => s.mem i j).length = lenM i := by simp
  rw [hr]
  refine ⟨some ⟨GM i, 0, none⟩, CM i, by rw [hl2]; rfl, by rw [hl2]; exact g2, g3, fun j hj => ?_, fun _ => ⟨GM i, 0, rfl, g4.lt, fun j hj => ?_⟩⟩
  · rw [hl2] at hj; rw [hnth j hj]; exact hs.1 i j
  · rw [hl2] at hj; rw [Nat.zero_add, hnth j hj]; exact g4.cell hj

/-- the runner's cells -/
theorem RInv.cells {w0 : World} {R : Nat} {l0 l1 l2 : Value} {gp cp : Nat} {mv : Value} {gm cm N n : Nat} {lenM GM CM : Nat → Nat} {B : List (List Int)} {G C : Nat → Nat} {T k : Nat} {s : Sq} {wr : World}
    (h : RInv w0 R l0 l1 l2 gp cp mv gm cm N n lenM GM CM B G C T k s wr) : wr.cell? ⟨R, 0, none⟩ = some l0 ∧ wr.cell? ⟨R, 1, none⟩ = some l1 ∧ wr.cell? ⟨R, 2, none⟩ = some l2 ∧
      wr.cell? ⟨R, 3, none⟩ = some (.slice (some ⟨gp, 0, none⟩) N cp) ∧ wr.cell? ⟨R, 4, none⟩ = some mv ∧ R < wr.heap.size :=
  ⟨by rw [cell_of_block h.hR]; rfl, by rw [cell_of_block h.hR]; rfl, by rw [cell_of_block h.hR]; rfl, by rw [cell_of_block h.hR]; rfl, by rw [cell_of_block h.hR]; rfl, (Array.getElem?_eq_some_iff.1 h.hR).1⟩
end Go.Proofs.Ytjjiiacdblhnmaa
