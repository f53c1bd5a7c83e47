/- KernM: texts that are built as one: KernMach, KernRead, KernLand, KernSto, KernPush, KernDo, KernSlots, KernCyc, KernGo. -/
import Derived.Test.YtjdbmldkgjcniabMaths
import Derived.Test.YtjdbmldkgjcniabRounds
import Derived.Test.YtjdbmldkgjcniabRef3A
import Derived.Test.YtjdbmldkgjcniabBase
import Derived.Test.YtjdbmldkgjcniabKernS
import Derived.Test.YtjdbmldkgjcniabNums
import Derived.Deep.QuietTactic
import Derived.BigQuiet
import Derived.Test.YtjdbmldkgjcniabRef5A
import Derived.Test.YtjdbmldkgjcniabTarget
import Derived.Deep.AppendLies
/- Where a run of a kernel stands in memory, by the program: the machine, its registers, the words, what is due; what stores, appends and callees leave of it. -/
namespace Go.Proofs.Ytjdbmldkgjcniab
open Go.RowKit Go.Joins
set_option linter.unusedVariables false

/-- what a run leaves as it is: w0: as Run began; w1: as the cycles began; A: the machine; gr: the registers' row; GM i: the words' rows -/
structure Mc where
  w0 : World
  w1 : World
  A : Nat
  t : Tg
  pc : Int
  st : Int
  kv : Value
  lv : Value
  mv : Value
  turns : Int
  R : Nat
  gr : Nat
  cr : Nat
  n : Nat
  lenM : Nat → Nat
  GM : Nat → Nat
variable {c : Mc} {V : Nat → Value} {D : List Du} {f : Nat → Int} {m : Nat → Nat → Int} {wr w' : World}

end Go.Proofs.Ytjdbmldkgjcniab
/- The contracts of a running machine's reading: a register's number, the list that is due, where a word lies, what an Op comes to; nothing that was there is changed. -/
namespace Go.Proofs.Ytjdbmldkgjcniab
open Go.RowKit Go.Joins
set_option linter.unusedVariables false
set_option linter.unusedSimpArgs false

end Go.Proofs.Ytjdbmldkgjcniab
/- The contract of a cycle's beginning: what is due has become what is in its registers. -/
namespace Go.Proofs.Ytjdbmldkgjcniab
open Go.RowKit Go.Joins
set_option linter.unusedVariables false
set_option linter.unusedSimpArgs false

end Go.Proofs.Ytjdbmldkgjcniab
/- Stores that wait, as closures in memory; and what an Op comes to, whichever it is. -/
namespace Go.Proofs.Ytjdbmldkgjcniab
open Go.RowKit Go.Joins
set_option linter.unusedVariables false
set_option linter.unusedSimpArgs false

end Go.Proofs.Ytjdbmldkgjcniab
/- What stands in memory while an Op is done, and what its result makes of it. -/
namespace Go.Proofs.Ytjdbmldkgjcniab
open Go.RowKit Go.Joins
set_option linter.unusedVariables false
set_option linter.unusedSimpArgs false

/-- the cells of a variable of type Op -/
theorem op_box {w : World} {X : Nat} {sl sg o d a b ar sp pl nn : Int} (h : w.heap[X]? = some (.cells #[.int .i64 sl, .int .i64 sg, .int .i64 o, .int .i64 d, .int .i64 a, .int .i64 b, .int .i64 ar, .int .i64 sp, .int .i64 pl, .int .i64 nn] 89 (0, 0))) :
    w.cell? ⟨X, 0, none⟩ = some (.int .i64 sl) ∧ w.cell? ⟨X, 1, none⟩ = some (.int .i64 sg) ∧ w.cell? ⟨X, 2, none⟩ = some (.int .i64 o) ∧ w.cell? ⟨X, 3, none⟩ = some (.int .i64 d) ∧ w.cell? ⟨X, 4, none⟩ = some (.int .i64 a) ∧ w.cell? ⟨X, 5, none⟩ = some (.int .i64 b) ∧ w.cell? ⟨X, 6, none⟩ = some (.int .i64 ar) ∧ w.cell? ⟨X, 7, none⟩ = some (.int .i64 sp) ∧ w.cell? ⟨X, 8, none⟩ = some (.int .i64 pl) ∧ w.cell? ⟨X, 9, none⟩ = some (.int .i64 nn) := by
  have key := cell_of_block h
  refine ⟨?_, ?_, ?_, ?_, ?_, ?_, ?_, ?_, ?_, ?_⟩ <;> (rw [key]; rfl)
variable {c : Mc} {V : Nat → Value} {D : List Du} {f : Nat → Int} {m : Nat → Nat → Int} {X BI : Nat} {sl sg o d a b ar sp pl nn v : Int} {x : World}
end Go.Proofs.Ytjdbmldkgjcniab
/- The contract of one Slot of a pace: its Ops are done, each for its own turn; then the stores that waited. -/
namespace Go.Proofs.Ytjdbmldkgjcniab
open Go.RowKit Go.Joins
set_option linter.unusedVariables false
set_option linter.unusedSimpArgs false
set_option maxRecDepth 8192

end Go.Proofs.Ytjdbmldkgjcniab
/- The contract of the Ops of each Slot, in order. -/
namespace Go.Proofs.Ytjdbmldkgjcniab
open Go.RowKit Go.Joins
set_option linter.unusedVariables false
set_option linter.unusedSimpArgs false
set_option maxRecDepth 8192

/-- rows of Ops, ten cells each -/
def flatO (l : List Kop) : List Value := l.flatMap fun x => (kCells x).toList
theorem flatO_snoc (l : List Kop) (x : Kop) : flatO l ++ (kCells x).toList = flatO (l ++ [x]) := by unfold flatO; simp
theorem flatO_get (l : List Kop) : ∀ i j, i < l.length → j < 10 → (flatO l)[i * 10 + j]? = (kCells (opAt l i))[j]? := by
  induction l with
  | nil => intro i c h; exact absurd h (Nat.not_lt_zero _)
  | cons d l ih =>
    intro i j h hj
    show ((kCells d).toList ++ flatO l)[i * 10 + j]? = _
    have h3 : (kCells d).toList.length = 10 := rfl
    cases i with
    | zero =>
      rw [List.getElem?_append_left (by omega), Nat.zero_mul, Nat.zero_add, Array.getElem?_toList]
      rfl
    | succ i =>
      rw [List.getElem?_append_right (by omega), h3, show (i + 1) * 10 + j - 10 = i * 10 + j from by omega, ih i j (by simpa using h) hj]
      rfl
/-- an own row of Ops is a slice of them -/
theorem ops_own {w : World} {base : Nat} {v : Value} {l : List Kop} (h : w.ownsRow base 89 10 v l.length (flatO l)) : OpsV w v l := by
  obtain ⟨hl, h⟩ := h
  rcases h with ⟨rfl, hn⟩ | ⟨g, cap, cur, rfl, hg, hb, hn, hm, hc, ht⟩
  · exact ⟨none, 0, by rw [hn], by omega, Nat.zero_le _, fun hp => by omega⟩
  · refine ⟨_, cap, rfl, hn, hm, fun _ => ⟨g, 0, rfl, (Array.getElem?_eq_some_iff.1 hb).1, fun i hi j hj => ?_⟩⟩
    rw [cell_of_block hb, ← flatO_get l i j hi hj, ← ht, List.getElem?_take, if_pos (by omega), Nat.zero_add]
    simp
/-- where the Slots' rows stand: G leads to them, U s is that of Slot s -/
structure SInv (w : World) (PC : Nat) (U : Nat → Value) (l : List Kop) (wr : World) : Prop where
  bel : Below w.heap.size w wr
  out : RowF wr w.heap.size 38 PC U
  rows : ∀ s : Nat, s < PC → wr.ownsRow w.heap.size 89 10 (U s) (slotOf l s).length (flatO (slotOf l s))
  inj : ∀ i j : Nat, i < PC → j < PC → i ≠ j → ∀ g, (U i).ownBlock = some g → some g ≠ (U j).ownBlock
variable {w wr x : World} {PC : Nat} {U : Nat → Value} {l : List Kop}
theorem SInv.below (h : SInv w PC U l wr) (hb : Below wr.heap.size wr x) : SInv w PC U l x where
  bel := h.bel.trans (hb.mono h.bel.size)
  out := h.out.below hb h.out.lt
  rows := fun s hs => ownz_keep (h.rows s hs) fun g hg => hb.block g (ownz_block_lt (h.rows s hs) g hg)
  inj := h.inj
theorem SInv.push {s : Nat} {xk : Kop} {g cap n0 : Nat} {l' : List Kop} {w6 : World} (h : SInv w PC U l wr) (hs : s < PC) (hsl : xk.sl = (s : Int)) (hl : ∀ q : Int, slotOf l' q = if xk.sl = q then slotOf l q ++ [xk] else slotOf l q) (hn : (slotOf l s).length = n0)
    (hown : w6.ownsRow w.heap.size 89 10 (.slice (some ⟨g, 0, none⟩) (n0 + 1) cap) (n0 + 1) (flatO (slotOf l s) ++ (kCells xk).toList)) (hg : wr.grownBy w6 (U s).ownBlock) (hat : (U s).ownBlock = some g ∨ wr.heap.size ≤ g) :
    SInv w PC (fun i => if i = s then .slice (some ⟨g, 0, none⟩) (n0 + 1) cap else U i) l' (w6.setCell ⟨w.heap.size, s, none⟩ (.slice (some ⟨g, 0, none⟩) (n0 + 1) cap)) := by
  have hge : ∀ k, (U s).ownBlock = some k → w.heap.size ≤ k := fun k e => ownz_block_ge (h.rows s hs) k e
  have hne : some w.heap.size ≠ (U s).ownBlock := ownz_apart (h.rows s hs) h.out (by decide)
  have hout : RowF w6 w.heap.size 38 PC U := h.out.of_block (hg.block _ h.out.lt hne)
  have hgne : g ≠ w.heap.size := by
    intro e
    rcases hat with e2 | e2
    · exact hne (by rw [← e, e2])
    · have := h.out.lt; omega
  have e1 : slotOf l' (s : Int) = slotOf l (s : Int) ++ [xk] := by rw [hl, if_pos hsl]
  refine { bel := (h.bel.grown hg h.bel.size hge).setCell (by exact Nat.le_refl _) _, out := ?_, rows := ?_, inj := ?_ }
  · refine (hout.set s _ hs).congr fun i hi => rfl
  · intro i hi
    by_cases e : i = s
    · subst e
      simp only [if_true]
      rw [e1, ← flatO_snoc, List.length_append, hn]
      exact ownz_keep hown fun q hq => Below.heap_setCell _ _ _ _ (by
        have e3 : g = q := by simpa [Value.ownBlock] using hq
        show q ≠ w.heap.size; omega)
    · simp only [if_neg e]
      rw [hl, if_neg (by omega)]
      have h1 := ownz_keep (h.rows i hi) fun q hq => hg.block q (ownz_block_lt (h.rows i hi) q hq) (h.inj i s hi hs e q hq)
      exact ownz_keep h1 fun q hq => Below.heap_setCell _ _ _ _ (by
        show q ≠ w.heap.size
        intro e3
        exact ownz_apart (h.rows i hi) h.out (by decide) (by rw [← e3, hq]))
  · intro i k hi hk hik q hq
    by_cases e1 : i = s
    · by_cases e2 : k = s
      · omega
      · simp only [if_pos e1] at hq
        simp only [if_neg e2]
        have e3 : g = q := by simpa [Value.ownBlock] using hq
        subst e3
        intro e4
        rcases hat with e5 | e5
        · exact h.inj s k hs hk (by omega) g e5 e4
        · have := ownz_block_lt (h.rows k hk) g e4.symm; omega
    · by_cases e2 : k = s
      · simp only [if_neg e1] at hq
        simp only [if_pos e2]
        intro e4
        have e3 : q = g := by simpa [Value.ownBlock] using e4
        subst e3
        rcases hat with e5 | e5
        · exact h.inj i s hi hs e1 q hq e5.symm
        · have := ownz_block_lt (h.rows i hi) q hq; omega
      · simp only [if_neg e1] at hq
        simp only [if_neg e2]
        exact h.inj i k hi hk hik q hq
theorem SInv.held {ua : Option Addr} {n0 uc s : Nat} {sg o d a b ar sp pl nn : Int} {X : Nat} (h : SInv w PC U l x) (hs : s < PC) (hX : x.heap[X]? = some (.cells #[.int .i64 (s : Int), .int .i64 sg, .int .i64 o, .int .i64 d, .int .i64 a, .int .i64 b, .int .i64 ar, .int .i64 sp, .int .i64 pl, .int .i64 nn] 89 (0, 0))) (hU : U s = .slice ua n0 uc) : (x.cell? ⟨X, 0, none⟩ = some (.int .i64 (s : Int)) ∧ x.cell? ⟨X, 1, none⟩ = some (.int .i64 sg) ∧ x.cell? ⟨X, 2, none⟩ = some (.int .i64 o) ∧ x.cell? ⟨X, 3, none⟩ = some (.int .i64 d) ∧ x.cell? ⟨X, 4, none⟩ = some (.int .i64 a) ∧ x.cell? ⟨X, 5, none⟩ = some (.int .i64 b) ∧ x.cell? ⟨X, 6, none⟩ = some (.int .i64 ar) ∧ x.cell? ⟨X, 7, none⟩ = some (.int .i64 sp) ∧ x.cell? ⟨X, 8, none⟩ = some (.int .i64 pl) ∧ x.cell? ⟨X, 9, none⟩ = some (.int .i64 nn)) ∧ x.cell? ⟨w.heap.size, s, none⟩ = some (.slice ua n0 uc) :=
  ⟨op_box hX, by rw [h.out.cell hs, hU]⟩
theorem SInv.grown {ua : Option Addr} {n0 uc s : Nat} {sg o d a b ar sp pl nn : Int} {X : Nat} {w6 : World} (h : SInv w PC U l x) (hs : s < PC) (hX : x.heap[X]? = some (.cells #[.int .i64 (s : Int), .int .i64 sg, .int .i64 o, .int .i64 d, .int .i64 a, .int .i64 b, .int .i64 ar, .int .i64 sp, .int .i64 pl, .int .i64 nn] 89 (0, 0))) (hXf : some X ≠ (Value.slice ua n0 uc).ownBlock) (hU : U s = .slice ua n0 uc) (hg : x.grownBy w6 (Value.slice ua n0 uc).ownBlock) : ((w6.cell? ⟨X, 0, none⟩ = some (.int .i64 (s : Int)) ∧ w6.cell? ⟨X, 1, none⟩ = some (.int .i64 sg) ∧ w6.cell? ⟨X, 2, none⟩ = some (.int .i64 o) ∧ w6.cell? ⟨X, 3, none⟩ = some (.int .i64 d) ∧ w6.cell? ⟨X, 4, none⟩ = some (.int .i64 a) ∧ w6.cell? ⟨X, 5, none⟩ = some (.int .i64 b) ∧ w6.cell? ⟨X, 6, none⟩ = some (.int .i64 ar) ∧ w6.cell? ⟨X, 7, none⟩ = some (.int .i64 sp) ∧ w6.cell? ⟨X, 8, none⟩ = some (.int .i64 pl) ∧ w6.cell? ⟨X, 9, none⟩ = some (.int .i64 nn)) ∧ w6.cell? ⟨w.heap.size, s, none⟩ = some (.slice ua n0 uc)) ∧ w6.frozen? ⟨w.heap.size, s, none⟩ = false := by
  have hne : some w.heap.size ≠ (Value.slice ua n0 uc).ownBlock := by rw [← hU]; exact ownz_apart (h.rows s hs) h.out (by decide)
  have hout : RowF w6 w.heap.size 38 PC U := h.out.of_block (hg.block _ h.out.lt hne)
  have hX6 : w6.heap[X]? = some (.cells #[.int .i64 (s : Int), .int .i64 sg, .int .i64 o, .int .i64 d, .int .i64 a, .int .i64 b, .int .i64 ar, .int .i64 sp, .int .i64 pl, .int .i64 nn] 89 (0, 0)) := by rw [hg.block X (Array.getElem?_eq_some_iff.1 hX).1 hXf]; exact hX
  exact ⟨⟨op_box hX6, by rw [hout.cell hs, hU]⟩, hout.frozen s⟩

end Go.Proofs.Ytjdbmldkgjcniab
/- The cycles of a run, by the program, are the document's: what a cycle begins and ends with. -/
namespace Go.Proofs.Ytjdbmldkgjcniab
open Go.RowKit Go.Joins
set_option linter.unusedVariables false
set_option linter.unusedSimpArgs false

variable {c : Mc} {logs : List Int} {gm cm : Nat} {CM : Nat → Nat} {K : Kn} {PC N : Nat} {U : Nat → Value} {s : Kst}
/-- the machine, from a later world on -/
def Mc.at (c : Mc) (x : World) : Mc := { c with w1 := x }
end Go.Proofs.Ytjdbmldkgjcniab
/- The contract of a machine's run: pace by pace, Slot by Slot, and what is left behind the last pace. -/
namespace Go.Proofs.Ytjdbmldkgjcniab
open Go.RowKit Go.Joins
set_option linter.unusedVariables false
set_option linter.unusedSimpArgs false
set_option maxRecDepth 8192

end Go.Proofs.Ytjdbmldkgjcniab
