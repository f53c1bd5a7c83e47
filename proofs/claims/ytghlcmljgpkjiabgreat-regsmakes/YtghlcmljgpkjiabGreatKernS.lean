/- KernS: texts that are built as one: KernState, KernOne. -/
import Derived.Test.YtghlcmljgpkjiabGreatMaths
import Derived.Test.YtghlcmljgpkjiabGreatLoopStmt
import Derived.Test.YtghlcmljgpkjiabGreatLoopP
/- What lies in memory as a kernel, and that new memory leaves it as it was. -/
namespace Go.Proofs.YtghlcmljgpkjiabGreat
open Go.RowKit Go.Joins
set_option linter.unusedVariables false

def kCells (x : Kop) : Array Value := #[.int .i64 x.sl, .int .i64 x.sg, .int .i64 x.o, .int .i64 x.d, .int .i64 x.a, .int .i64 x.b, .int .i64 x.ar, .int .i64 x.sp, .int .i64 x.pl, .int .i64 x.nn]
/-- v is a slice of the Ops l -/
def OpsV (w : World) (v : Value) (l : List Kop) : Prop :=
  ∃ a cap, v = .slice a l.length cap ∧ l.length ≤ cap ∧ cap ≤ maxLen ∧
    (0 < l.length → ∃ blk off, a = some ⟨blk, off, none⟩ ∧ blk < w.heap.size ∧ ∀ i, i < l.length → ∀ j, j < 10 → w.cell? ⟨blk, off + i * 10 + j, none⟩ = (kCells (opAt l i))[j]?)
theorem OpsV.below {w w' : World} {v : Value} {l : List Kop} (h : OpsV w v l) (hb : Below w.heap.size w w') : OpsV w' v l := by
  obtain ⟨a, cap, e, h1, h2, h4⟩ := h
  refine ⟨a, cap, e, h1, h2, fun hp => ?_⟩
  obtain ⟨b, off, e2, h5, h6⟩ := h4 hp
  exact ⟨b, off, e2, Nat.lt_of_lt_of_le h5 hb.size, fun i hi j hj => by rw [bcell hb _ _ h5]; exact h6 i hi j hj⟩
/-- v is the kernel K -/
def KernV (w : World) (v : Value) (K : Kn) : Prop := ∃ kv, v = .agg #[.int .i64 K.pc, .int .i64 K.st, kv] ∧ OpsV w kv K.ops
theorem KernV.below {w w' : World} {v : Value} {K : Kn} (h : KernV w v K) (hb : Below w.heap.size w w') : KernV w' v K := by
  obtain ⟨kv, e, h1⟩ := h
  exact ⟨kv, e, h1.below hb⟩
theorem ten {w : World} {b o : Nat} {x : Kop} (h : ∀ j, j < 10 → w.cell? ⟨b, o + j, none⟩ = (kCells x)[j]?) :
    w.cell? ⟨b, o, none⟩ = some (.int .i64 x.sl) ∧ w.cell? ⟨b, o + 1, none⟩ = some (.int .i64 x.sg) ∧ w.cell? ⟨b, o + 2, none⟩ = some (.int .i64 x.o) ∧ w.cell? ⟨b, o + 3, none⟩ = some (.int .i64 x.d) ∧ w.cell? ⟨b, o + 4, none⟩ = some (.int .i64 x.a) ∧
      w.cell? ⟨b, o + 5, none⟩ = some (.int .i64 x.b) ∧ w.cell? ⟨b, o + 6, none⟩ = some (.int .i64 x.ar) ∧ w.cell? ⟨b, o + 7, none⟩ = some (.int .i64 x.sp) ∧ w.cell? ⟨b, o + 8, none⟩ = some (.int .i64 x.pl) ∧ w.cell? ⟨b, o + 9, none⟩ = some (.int .i64 x.nn) :=
  ⟨h 0 (by omega), h 1 (by omega), h 2 (by omega), h 3 (by omega), h 4 (by omega), h 5 (by omega), h 6 (by omega), h 7 (by omega), h 8 (by omega), h 9 (by omega)⟩
theorem mayK_no {t : Tg} {K : Kn} {logs : List Int} (h : mayT t = false ∨ inR K.pc 1 200 = false ∨ inR K.st 1 1001 = false ∨ inR K.ops.length 1 16 = false) : mayK t K logs = false := by
  unfold mayK
  rcases h with h | h | h | h <;> rw [h] <;> simp
theorem mayK_all {t : Tg} {K : Kn} {logs : List Int} (h1 : mayT t = true) (h2 : inR K.pc 1 200 = true) (h3 : inR K.st 1 1001 = true) (h4 : inR K.ops.length 1 16 = true) :
    mayK t K logs = allN (fun i => oneOk t.r K.pc K.st logs (opAt K.ops i) && decide ((manyK K.ops i : Int) ≤ unitsT t (clsv (opAt K.ops i).o))) K.ops.length := by
  unfold mayK
  rw [h1, h2, h3, h4]; simp
theorem units_cell {t : Tg} {c : Int} (h : c = 0 ∨ c = 1 ∨ c = 2) : (#[Value.int .i64 t.u0, .int .i64 t.u1, .int .i64 t.u2, .int .i64 t.w0, .int .i64 t.w1, .int .i64 t.w2, .int .i64 t.r])[c.toNat]? = some (.int .i64 (unitsT t c)) := by
  rcases h with rfl | rfl | rfl <;> rfl
end Go.Proofs.YtghlcmljgpkjiabGreat
/- The contracts of the program's answers on one Op of a kernel: its time, its registers, its statement; nothing that was there is changed. -/
namespace Go.Proofs.YtghlcmljgpkjiabGreat
open Go.RowKit Go.Joins
set_option linter.unusedVariables false

set_option maxHeartbeats 400000 in
theorem looks_any (op : Int) (w : World) : Calls Tryz.prog 87 #[.int .i64 op] w fun e w' => e = .returned (.int .i64 (looksK op)) ∧ w' = w := by
  rcases looks_three op with ⟨h, hx⟩ | ⟨h, h2, hx⟩ | ⟨h, h2, hx⟩
  · have HX := hide hx
    have hb : (op == 4) = true := by simpa using h
    clear h hx
    go_enter Tryz.func87, Tryz.ntmps87
    go_wp2_with fail
    go_ret
    exact ⟨ret_int HX.out.symm, rfl⟩
  · have HX := hide hx
    have hb : (op == 4) = false := by simpa using h
    clear h hx
    go_enter Tryz.func87, Tryz.ntmps87
    go_wp2_with (go_at_call 121; refine (lwithin_any _ _ _ _).mono ?_; rintro e w' ⟨rfl, rfl⟩)
    go_ret
    exact ⟨ret_int HX.out.symm, rfl⟩
  · have HX := hide hx
    have hb : (op == 4) = false := by simpa using h
    clear h hx
    go_enter Tryz.func87, Tryz.ntmps87
    go_wp2_with (go_at_call 121; refine (lwithin_any _ _ _ _).mono ?_; rintro e w' ⟨rfl, rfl⟩)
    go_ret
    exact ⟨ret_int HX.out.symm, rfl⟩

end Go.Proofs.YtghlcmljgpkjiabGreat
