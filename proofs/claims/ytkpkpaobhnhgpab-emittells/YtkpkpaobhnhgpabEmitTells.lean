/- EmitTells' walk: for every loop, machine, plan and registers in memory the law returns true, if the program's Emit and the document's answer as EmitPost says; nothing that was there is changed. -/
import Derived.Test.YtkpkpaobhnhgpabSounds
import Derived.Test.YtkpkpaobhnhgpabKernSame
import Derived.Test.YtkpkpaobhnhgpabRef8Legal
namespace Go.Proofs.Ytkpkpaobhnhgpab
open Go.RowKit Go.Joins
set_option linter.unusedVariables false
set_option linter.unusedSimpArgs false
set_option maxRecDepth 8192

/-- the kernel that is told: of a plan and registers that may be; else none -/
def emitK (L : Lp) (t : Tg) (P : Int) (T D : List Int) : Kn := if (legalD L t P T && destsOk L t D) = true then emitD L t P T D else ⟨0, 0, []⟩
def emitC (L : Lp) (t : Tg) (P : Int) (T D : List Int) : Int := if (legalD L t P T && destsOk L t D) = true then 0 else 2
/-- what Emit answers -/
def EmitPost (L : Lp) (t : Tg) (P : Int) (T D : List Int) (w : World) (e : Ending) (w' : World) : Prop :=
  Below w.heap.size w w' ∧ ∃ k0 k1 kv, e = .returned (.tuple #[.agg #[.int .i64 k0, .int .i64 k1, kv], .int .i64 (emitC L t P T D)]) ∧ KernV w' (.agg #[.int .i64 k0, .int .i64 k1, kv]) (emitK L t P T D)
/-- how the program tells kernels of plans -/
def EmitSayC : Prop := ∀ (v pv dv : Value) (t : Tg) (L : Lp) (P : Int) (T D : List Int) (w : World), LoopV w v L → PlanV w pv P T → Ints w dv D → Calls Try.prog 13 #[v, .agg t.cells, pv, dv] w (EmitPost L t P T D w)
/-- how the document does -/
def EmitRefC : Prop := ∀ (v pv dv : Value) (t : Tg) (L : Lp) (P : Int) (T D : List Int) (w : World), LoopV w v L → PlanV w pv P T → Ints w dv D → Calls Try.prog 14 #[v, .agg t.cells, pv, dv] w (EmitPost L t P T D w)

set_option maxHeartbeats 4000000 in
theorem emitTells_walk (hS : EmitSayC) (hR : EmitRefC) (p0 p1 p2 q0 q1 q2 r : Int) (L : Lp) (a0 a1 a2 : Option Addr) (cap0 cap1 cap2 : Nat) (P : Int) (T D : List Int) (ta da : Option Addr) (tc dc : Nat) (w : World) (hL : LoopV w (.agg #[.slice a0 L.logs.length cap0, .slice a1 L.body.length cap1, .slice a2 L.outs.length cap2]) L) (hP : PlanV w (.agg #[.int .i64 P, .slice ta T.length tc]) P T) (hD : Ints w (.slice da D.length dc) D) :
    Calls Try.prog 5 #[.agg #[.slice a0 L.logs.length cap0, .slice a1 L.body.length cap1, .slice a2 L.outs.length cap2], .agg #[.int .i64 p0, .int .i64 p1, .int .i64 p2, .int .i64 q0, .int .i64 q1, .int .i64 q2, .int .i64 r], .agg #[.int .i64 P, .slice ta T.length tc], .slice da D.length dc] w fun e w' => e = .returned (.bool true) ∧ Below w.heap.size w w' := by
  have HSY := hide (fun W (h1 : LoopV W (.agg #[.slice a0 L.logs.length cap0, .slice a1 L.body.length cap1, .slice a2 L.outs.length cap2]) L) (h2 : PlanV W (.agg #[.int .i64 P, .slice ta T.length tc]) P T) (h3 : Ints W (.slice da D.length dc) D) => hS _ _ _ ⟨p0, p1, p2, q0, q1, q2, r⟩ L P T D W h1 h2 h3)
  have HRF := hide (fun W (h1 : LoopV W (.agg #[.slice a0 L.logs.length cap0, .slice a1 L.body.length cap1, .slice a2 L.outs.length cap2]) L) (h2 : PlanV W (.agg #[.int .i64 P, .slice ta T.length tc]) P T) (h3 : Ints W (.slice da D.length dc) D) => hR _ _ _ ⟨p0, p1, p2, q0, q1, q2, r⟩ L P T D W h1 h2 h3)
  have HL := hide hL
  have HP := hide hP
  have HD := hide hD
  have HS : Hid ((((w.alloc (.cells #[.slice a0 L.logs.length cap0, .slice a1 L.body.length cap1, .slice a2 L.outs.length cap2] 25)).alloc (.cells #[.int .i64 p0, .int .i64 p1, .int .i64 p2, .int .i64 q0, .int .i64 q1, .int .i64 q2, .int .i64 r] 28)).alloc (.cells #[.int .i64 P, .slice ta T.length tc] 30)).heap.size = w.heap.size + 1 + 1 + 1) := by show _ = _; simp
  clear hL hP hD
  go_enter Try.func5, Try.ntmps5
  go_wp2_with fail
  have HB0 := hide (below_alloc3 w (.cells #[.slice a0 L.logs.length cap0, .slice a1 L.body.length cap1, .slice a2 L.outs.length cap2] 25) (.cells #[.int .i64 p0, .int .i64 p1, .int .i64 p2, .int .i64 q0, .int .i64 q1, .int .i64 q2, .int .i64 r] 28) (.cells #[.int .i64 P, .slice ta T.length tc] 30))
  refine (HSY.out _ (HL.out.below HB0.out) (HP.out.below HB0.out) (HD.out.below HB0.out)).mono ?_
  rintro e x1 ⟨hb1, k0, k1, kv, rfl, hk⟩
  obtain ⟨ec, hec⟩ : ∃ ec, emitC L ⟨p0, p1, p2, q0, q1, q2, r⟩ P T D = ec := ⟨_, rfl⟩
  obtain ⟨ek, hek⟩ : ∃ ek, emitK L ⟨p0, p1, p2, q0, q1, q2, r⟩ P T D = ek := ⟨_, rfl⟩
  have HEC := hide hec
  have HEK := hide hek
  rw [hec]
  rw [hek] at hk
  clear hec hek
  have hb3 : Below (w.heap.size + 1 + 1 + 1) (((w.alloc (.cells #[.slice a0 L.logs.length cap0, .slice a1 L.body.length cap1, .slice a2 L.outs.length cap2] 25)).alloc (.cells #[.int .i64 p0, .int .i64 p1, .int .i64 p2, .int .i64 q0, .int .i64 q1, .int .i64 q2, .int .i64 r] 28)).alloc (.cells #[.int .i64 P, .slice ta T.length tc] 30)) x1 := by rw [← HS.out]; exact hb1
  have HB1 := hide hb3
  have HK1 := hide hk
  obtain ⟨kl, hkl, aa, ac, rfl, -⟩ := id hk
  simp only [Value.agg.injEq, Array.mk.injEq, List.cons.injEq, and_true] at hkl
  obtain ⟨-, -, rfl⟩ := hkl
  obtain ⟨⟨l0, l1, l2⟩, ⟨t0, t1, t2, t3, t4, t5, t6⟩, ⟨y0, y1⟩, hz, hbw⟩ := lbox_cells hb3
  have HW1 := hide hbw
  have hza : w.heap.size < x1.heap.size := by omega
  have hzb : w.heap.size + 1 < x1.heap.size := by omega
  clear hb1 hb3 hbw hk
  go_wp2_with fail
  have HBA := hide (below_alloc1 x1 (.cells #[.int .i64 k0, .int .i64 k1, .slice aa ek.ops.length ac] 40))
  have HWA := hide (HW1.out.trans (HBA.out.mono HW1.out.size))
  refine (HRF.out _ (HL.out.below HWA.out) (HP.out.below HWA.out) (HD.out.below HWA.out)).mono ?_
  rintro e x2 ⟨hb2, m0, m1, mv, rfl, hk2⟩
  rw [HEC.out]
  rw [HEK.out] at hk2
  have HK2 := hide hk2
  obtain ⟨ml, hml, ba, bc, rfl, -⟩ := id hk2
  simp only [Value.agg.injEq, Array.mk.injEq, List.cons.injEq, and_true] at hml
  obtain ⟨-, -, rfl⟩ := hml
  have HX2 := hide (HBA.out.trans (hb2.mono (by simp)))
  have c0 : x2.cell? ⟨x1.heap.size, 0, none⟩ = some (.int .i64 k0) := by rw [bcell hb2 _ _ (by simp)]; go_simp
  have c1 : x2.cell? ⟨x1.heap.size, 1, none⟩ = some (.int .i64 k1) := by rw [bcell hb2 _ _ (by simp)]; go_simp
  have c2 : x2.cell? ⟨x1.heap.size, 2, none⟩ = some (.slice aa ek.ops.length ac) := by rw [bcell hb2 _ _ (by simp)]; go_simp
  have hzc : x1.heap.size < x2.heap.size := by have := hb2.size; simp at this; omega
  have HW2 := hide (HW1.out.trans (HX2.out.mono HW1.out.size))
  have HBB := hide (below_alloc1 x2 (.cells #[.int .i64 m0, .int .i64 m1, .slice ba ek.ops.length bc] 40))
  have HSM := hide (kern_same _ _ ek (x2.alloc (.cells #[.int .i64 m0, .int .i64 m1, .slice ba ek.ops.length bc] 40)) ((HK1.out.below HX2.out).below HBB.out) (HK2.out.below HBB.out))
  clear hb2 hk2 l0 l1 l2 t0 t1 t2 t3 t4 t5 t6 y0 y1
  go_wp2_with fail
  refine HSM.out.mono ?_
  rintro e x3 ⟨rfl, hb3⟩
  have HW3 := hide (HW2.out.trans ((HBB.out.trans (hb3.mono (by simp))).mono HW2.out.size))
  clear hb3
  go_wp2_with fail
  go_ret
  exact ⟨rfl, HW3.out⟩
theorem emitTells_any (hS : EmitSayC) (hR : EmitRefC) (v pv dv : Value) (t : Tg) (L : Lp) (P : Int) (T D : List Int) (w : World) (hL : LoopV w v L) (hP : PlanV w pv P T) (hD : Ints w dv D) : Calls Try.prog 5 #[v, .agg t.cells, pv, dv] w fun e w' => e = .returned (.bool true) ∧ Below w.heap.size w w' := by
  have hL' := hL
  obtain ⟨v0, v1, v2, rfl, ⟨a0, cap0, rfl, -⟩, ⟨a1, cap1, rfl, -⟩, ⟨a2, cap2, rfl, -⟩⟩ := hL'
  have hP' := hP
  obtain ⟨tv, rfl, ⟨ta, tc, rfl, -⟩⟩ := hP'
  have hD' := hD
  obtain ⟨da, dc, rfl, -⟩ := hD'
  obtain ⟨p0, p1, p2, q0, q1, q2, r⟩ := t
  exact emitTells_walk hS hR p0 p1 p2 q0 q1 q2 r L a0 a1 a2 cap0 cap1 cap2 P T D ta da tc dc w hL hP hD
end Go.Proofs.Ytkpkpaobhnhgpab
