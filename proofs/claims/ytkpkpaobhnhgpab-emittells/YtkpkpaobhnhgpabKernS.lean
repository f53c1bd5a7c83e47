/- KernS: texts that are built as one: KernState, KernOne. -/
import Derived.Test.YtkpkpaobhnhgpabMaths
import Derived.Test.YtkpkpaobhnhgpabLoopStmt
import Derived.Test.YtkpkpaobhnhgpabLoopP
/- What lies in memory as a kernel, and that new memory leaves it as it was. -/
namespace Go.Proofs.Ytkpkpaobhnhgpab
open Go.RowKit Go.Joins
set_option linter.unusedVariables false

def kCells (x : Kop) : Array Value := #[.int .i64 x.sl, .int .i64 x.sg, .int .i64 x.o, .int .i64 x.d, .int .i64 x.a, .int .i64 x.b, .int .i64 x.ar, .int .i64 x.sp, .int .i64 x.pl, .int .i64 x.nn]
/-- v is a slice of the Ops l -/
def OpsV (w : World) (v : Value) (l : List Kop) : Prop :=
  ∃ a cap, v = .slice a l.length cap ∧ l.length ≤ cap ∧ cap ≤ maxLen ∧
    (0 < l.length → ∃ blk off, a = some ⟨blk, off, none⟩ ∧ blk < w.heap.size ∧ ∀ i, i < l.length → ∀ j, j < 10 → w.cell? ⟨blk, off + i * 10 + j, none⟩ = (kCells (opAt l i))[j]?)
theorem OpsV.below {w w' : World} {v : Value} {l : List Kop} (h : OpsV w v l) (hb : Below w.heap.size w w') : OpsV w' v l := by
  obtain ⟨a, cap, e, h1, h2, h4⟩ := h
  refine ⟨a, cap, e, h1, h2, fun hp => ?_⟩
  obtain ⟨b, off, e2, h5, h6⟩ := h4 hp
  exact ⟨b, off, e2, Nat.lt_of_lt_of_le h5 hb.size, fun i hi j hj => by rw [bcell hb _ _ h5]; exact h6 i hi j hj⟩
/-- v is the kernel K -/
def KernV (w : World) (v : Value) (K : Kn) : Prop := ∃ kv, v = .agg #[.int .i64 K.pc, .int .i64 K.st, kv] ∧ OpsV w kv K.ops
theorem KernV.below {w w' : World} {v : Value} {K : Kn} (h : KernV w v K) (hb : Below w.heap.size w w') : KernV w' v K := by
  obtain ⟨kv, e, h1⟩ := h
  exact ⟨kv, e, h1.below hb⟩
theorem ten {w : World} {b o : Nat} {x : Kop} (h : ∀ j, j < 10 → w.cell? ⟨b, o + j, none⟩ = (kCells x)[j]?) :
    w.cell? ⟨b, o, none⟩ = some (.int .i64 x.sl) ∧ w.cell? ⟨b, o + 1, none⟩ = some (.int .i64 x.sg) ∧ w.cell? ⟨b, o + 2, none⟩ = some (.int .i64 x.o) ∧ w.cell? ⟨b, o + 3, none⟩ = some (.int .i64 x.d) ∧ w.cell? ⟨b, o + 4, none⟩ = some (.int .i64 x.a) ∧
      w.cell? ⟨b, o + 5, none⟩ = some (.int .i64 x.b) ∧ w.cell? ⟨b, o + 6, none⟩ = some (.int .i64 x.ar) ∧ w.cell? ⟨b, o + 7, none⟩ = some (.int .i64 x.sp) ∧ w.cell? ⟨b, o + 8, none⟩ = some (.int .i64 x.pl) ∧ w.cell? ⟨b, o + 9, none⟩ = some (.int .i64 x.nn) :=
  ⟨h 0 (by omega), h 1 (by omega), h 2 (by omega), h 3 (by omega), h 4 (by omega), h 5 (by omega), h 6 (by omega), h 7 (by omega), h 8 (by omega), h 9 (by omega)⟩
end Go.Proofs.Ytkpkpaobhnhgpab
/- The contracts of the program's answers on one Op of a kernel: its time, its registers, its statement; nothing that was there is changed. -/
namespace Go.Proofs.Ytkpkpaobhnhgpab
open Go.RowKit Go.Joins
set_option linter.unusedVariables false

set_option maxHeartbeats 400000 in
theorem looks_any (op : Int) (w : World) : Calls Try.prog 79 #[.int .i64 op] w fun e w' => e = .returned (.int .i64 (looksK op)) ∧ w' = w := by
  rcases looks_three op with ⟨h, hx⟩ | ⟨h, h2, hx⟩ | ⟨h, h2, hx⟩
  · have HX := hide hx
    have hb : (op == 4) = true := by simpa using h
    clear h hx
    go_enter Try.func79, Try.ntmps79
    go_wp2_with fail
    go_ret
    exact ⟨ret_int HX.out.symm, rfl⟩
  · have HX := hide hx
    have hb : (op == 4) = false := by simpa using h
    clear h hx
    go_enter Try.func79, Try.ntmps79
    go_wp2_with (go_at_call 119; refine (lwithin_any _ _ _ _).mono ?_; rintro e w' ⟨rfl, rfl⟩)
    go_ret
    exact ⟨ret_int HX.out.symm, rfl⟩
  · have HX := hide hx
    have hb : (op == 4) = false := by simpa using h
    clear h hx
    go_enter Try.func79, Try.ntmps79
    go_wp2_with (go_at_call 119; refine (lwithin_any _ _ _ _).mono ?_; rintro e w' ⟨rfl, rfl⟩)
    go_ret
    exact ⟨ret_int HX.out.symm, rfl⟩

end Go.Proofs.Ytkpkpaobhnhgpab
