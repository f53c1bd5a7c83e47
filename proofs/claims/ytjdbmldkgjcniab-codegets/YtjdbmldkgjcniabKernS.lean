/- KernS: texts that are built as one: KernState, KernOne, KernSame. -/
import Derived.Test.YtjdbmldkgjcniabMaths
import Derived.Test.YtjdbmldkgjcniabLoopStmt
import Derived.Test.YtjdbmldkgjcniabLoopP
import Derived.Deep.QuietTactic
import Derived.BigQuiet
/- What lies in memory as a kernel, and that new memory leaves it as it was. -/
namespace Go.Proofs.Ytjdbmldkgjcniab
open Go.RowKit Go.Joins
set_option linter.unusedVariables false

def kCells (x : Kop) : Array Value := #[.int .i64 x.sl, .int .i64 x.sg, .int .i64 x.o, .int .i64 x.d, .int .i64 x.a, .int .i64 x.b, .int .i64 x.ar, .int .i64 x.sp, .int .i64 x.pl, .int .i64 x.nn]
/-- v is a slice of the Ops l -/
def OpsV (w : World) (v : Value) (l : List Kop) : Prop :=
  ∃ a cap, v = .slice a l.length cap ∧ l.length ≤ cap ∧ cap ≤ maxLen ∧
    (0 < l.length → ∃ blk off, a = some ⟨blk, off, none⟩ ∧ blk < w.heap.size ∧ ∀ i, i < l.length → ∀ j, j < 10 → w.cell? ⟨blk, off + i * 10 + j, none⟩ = (kCells (opAt l i))[j]?)
theorem OpsV.below {w w' : World} {v : Value} {l : List Kop} (h : OpsV w v l) (hb : Below w.heap.size w w') : OpsV w' v l := by
  obtain ⟨a, cap, e, h1, h2, h4⟩ := h
  refine ⟨a, cap, e, h1, h2, fun hp => ?_⟩
  obtain ⟨b, off, e2, h5, h6⟩ := h4 hp
  exact ⟨b, off, e2, Nat.lt_of_lt_of_le h5 hb.size, fun i hi j hj => by rw [bcell hb _ _ h5]; exact h6 i hi j hj⟩
/-- v is the kernel K -/
def KernV (w : World) (v : Value) (K : Kn) : Prop := ∃ kv, v = .agg #[.int .i64 K.pc, .int .i64 K.st, kv] ∧ OpsV w kv K.ops
theorem KernV.below {w w' : World} {v : Value} {K : Kn} (h : KernV w v K) (hb : Below w.heap.size w w') : KernV w' v K := by
  obtain ⟨kv, e, h1⟩ := h
  exact ⟨kv, e, h1.below hb⟩
theorem ten {w : World} {b o : Nat} {x : Kop} (h : ∀ j, j < 10 → w.cell? ⟨b, o + j, none⟩ = (kCells x)[j]?) :
    w.cell? ⟨b, o, none⟩ = some (.int .i64 x.sl) ∧ w.cell? ⟨b, o + 1, none⟩ = some (.int .i64 x.sg) ∧ w.cell? ⟨b, o + 2, none⟩ = some (.int .i64 x.o) ∧ w.cell? ⟨b, o + 3, none⟩ = some (.int .i64 x.d) ∧ w.cell? ⟨b, o + 4, none⟩ = some (.int .i64 x.a) ∧
      w.cell? ⟨b, o + 5, none⟩ = some (.int .i64 x.b) ∧ w.cell? ⟨b, o + 6, none⟩ = some (.int .i64 x.ar) ∧ w.cell? ⟨b, o + 7, none⟩ = some (.int .i64 x.sp) ∧ w.cell? ⟨b, o + 8, none⟩ = some (.int .i64 x.pl) ∧ w.cell? ⟨b, o + 9, none⟩ = some (.int .i64 x.nn) :=
  ⟨h 0 (by omega), h 1 (by omega), h 2 (by omega), h 3 (by omega), h 4 (by omega), h 5 (by omega), h 6 (by omega), h 7 (by omega), h 8 (by omega), h 9 (by omega)⟩
end Go.Proofs.Ytjdbmldkgjcniab
/- The contracts of the program's answers on one Op of a kernel: its time, its registers, its statement; nothing that was there is changed. -/
namespace Go.Proofs.Ytjdbmldkgjcniab
open Go.RowKit Go.Joins
set_option linter.unusedVariables false

end Go.Proofs.Ytjdbmldkgjcniab
/- The contract of the document's own comparison of kernels, of two that are the same; nothing that was there is changed. -/
namespace Go.Proofs.Ytjdbmldkgjcniab
open Go.RowKit Go.Joins
set_option linter.unusedVariables false
set_option linter.unusedSimpArgs false
set_option maxRecDepth 8192

set_option maxHeartbeats 4000000 in
theorem kern_same (va vb : Value) (K : Kn) (w : World) (ha : KernV w va K) (hb : KernV w vb K) :
    Calls Try.prog 17 #[va, vb] w fun e w' => e = .returned (.bool true) ∧ Below w.heap.size w w' := by
  obtain ⟨oa, rfl, aa, ac, rfl, al, am, acell⟩ := ha
  obtain ⟨ob, rfl, ba, bc, rfl, bl, bm, bcel⟩ := hb
  obtain ⟨pc, st, l⟩ := K
  dsimp only at *
  unfold maxLen at am bm
  have HA := hide acell
  have HB := hide bcel
  have HS : Hid (((w.alloc (.cells #[.int .i64 pc, .int .i64 st, .slice aa l.length ac] 40)).alloc (.cells #[.int .i64 pc, .int .i64 st, .slice ba l.length bc] 40)).heap.size = w.heap.size + 1 + 1) := by show _ = _; simp
  clear acell bcel
  go_enter Try.func17, Try.ntmps17
  go_wp2_with fail
  go_loopw [5] (fun i wr => ∃ k n : Nat, k ≤ l.length ∧ i = .int .i64 k ∧ wr = ((w.alloc (.cells #[.int .i64 pc, .int .i64 st, .slice aa l.length ac] 40)).alloc (.cells #[.int .i64 pc, .int .i64 st, .slice ba l.length bc] 40)).drewN n) (fun i _ => l.length - (intOf i).toNat)
  case atStart => exact ⟨0, 0, Nat.zero_le _, rfl, rfl⟩
  case round =>
    obtain ⟨k, n, hk, rfl, rfl⟩ := hrel
    by_cases hlt : k < l.length
    · obtain ⟨b1, o1, rfl, hb1, hc1⟩ := HA.out (by omega)
      obtain ⟨b2, o2, rfl, hb2, hc2⟩ := HB.out (by omega)
      obtain ⟨c0, c1, c2, c3, c4, c5, c6, c7, c8, c9⟩ := ten (hc1 k hlt)
      obtain ⟨d0, d1, d2, d3, d4, d5, d6, d7, d8, d9⟩ := ten (hc2 k hlt)
      generalize opAt l k = x at *
      obtain ⟨x0, x1, x2, x3, x4, x5, x6, x7, x8, x9⟩ := x
      dsimp only at c0 c1 c2 c3 c4 c5 c6 c7 c8 c9 d0 d1 d2 d3 d4 d5 d6 d7 d8 d9
      have i1 : (k : Int) < (l.length : Int) := by omega
      clear hc1 hc2
      go_wp2_with fail
      go_big_quiet ((fail))
      go_wp2_with fail
      go_roundw
      case rel => exact ⟨k + 1, _, by omega, by go_num, rfl⟩
      case measure => simp [intOf]; omega
    · have i1 : ¬ (k : Int) < (l.length : Int) := by omega
      go_wp2_with fail
      go_ret
      exact ⟨rfl, (below_alloc2 w _ _).trans (below_draws _ _ _)⟩
end Go.Proofs.Ytjdbmldkgjcniab
