/- The contract of the document's own Emit: the kernel of a plan, or that there is none; nothing that was there is changed. -/
import Derived.Test.YtghlcmljgpkjiabGreatRef11Math
import Derived.BigQuiet
namespace Go.Proofs.YtghlcmljgpkjiabGreat
open Go.RowKit Go.Joins
set_option linter.unusedVariables false
set_option linter.unusedSimpArgs false
set_option maxRecDepth 8192

theorem five_blocks {w y : World} {lv tv pv : Array Value} (h : Below (w.heap.size + 1 + 1 + 1 + 1 + 1) (((((w.alloc (.cells lv 25)).alloc (.cells tv 28)).alloc (.cells pv 49)).alloc (.cells #[.int .i64 0, .int .i64 0, .slice none 0 0] 31)).alloc (.cells #[.int .i64 0, .int .i64 0, .slice none 0 0] 31)) y) :
    y.heap[w.heap.size]? = some (.cells lv 25 (0, 0)) ∧ y.heap[w.heap.size + 1]? = some (.cells tv 28 (0, 0)) ∧ y.heap[(w.heap.size + 1 + 1)]? = some (.cells pv 49 (0, 0)) ∧ y.heap[(w.heap.size + 1 + 1 + 1)]? = some (.cells #[.int .i64 0, .int .i64 0, .slice none 0 0] 31 (0, 0)) ∧ y.heap[(w.heap.size + 1 + 1 + 1 + 1)]? = some (.cells #[.int .i64 0, .int .i64 0, .slice none 0 0] 31 (0, 0)) ∧ (w.heap.size + 1 + 1 + 1 + 1 + 1) ≤ y.heap.size ∧ Below w.heap.size w y := by
  have z1 : (w.alloc (.cells lv 25)).heap.size = w.heap.size + 1 := by simp
  have z2 : ((w.alloc (.cells lv 25)).alloc (.cells tv 28)).heap.size = w.heap.size + 1 + 1 := by simp
  have z3 : (((w.alloc (.cells lv 25)).alloc (.cells tv 28)).alloc (.cells pv 49)).heap.size = w.heap.size + 1 + 1 + 1 := by simp
  have z4 : ((((w.alloc (.cells lv 25)).alloc (.cells tv 28)).alloc (.cells pv 49)).alloc (.cells #[.int .i64 0, .int .i64 0, .slice none 0 0] 31)).heap.size = w.heap.size + 1 + 1 + 1 + 1 := by simp
  have z5 : (((((w.alloc (.cells lv 25)).alloc (.cells tv 28)).alloc (.cells pv 49)).alloc (.cells #[.int .i64 0, .int .i64 0, .slice none 0 0] 31)).alloc (.cells #[.int .i64 0, .int .i64 0, .slice none 0 0] 31)).heap.size = (w.heap.size + 1 + 1 + 1 + 1 + 1) := by simp
  have hz := h.size
  rw [z5] at hz
  refine ⟨?_, ?_, ?_, ?_, ?_, hz, ?_⟩
  · rw [h.block _ (by omega), Below.heap_alloc _ _ _ (by rw [z4]; omega), Below.heap_alloc _ _ _ (by rw [z3]; omega), Below.heap_alloc _ _ _ (by rw [z2]; omega), Below.heap_alloc _ _ _ (by rw [z1]; omega)]; exact new_blkS _ _ _
  · rw [h.block _ (by omega), Below.heap_alloc _ _ _ (by rw [z4]; omega), Below.heap_alloc _ _ _ (by rw [z3]; omega), Below.heap_alloc _ _ _ (by rw [z2]; omega), ← z1]; exact new_blkS _ _ _
  · rw [h.block _ (by omega), Below.heap_alloc _ _ _ (by rw [z4]; omega), Below.heap_alloc _ _ _ (by rw [z3]; omega), ← z2]; exact new_blkS _ _ _
  · rw [h.block _ (by omega), Below.heap_alloc _ _ _ (by rw [z4]; omega), ← z3]; exact new_blkS _ _ _
  · rw [h.block _ (by omega), ← z4]; exact new_blkS _ _ _
  · exact ((below_alloc3 _ _ _ _).trans ((below_alloc2 _ _ _).mono (by rw [z3]; omega))).trans (h.mono (by omega))
/-- three cells that were stored -/
theorem triple_set {x : World} {g : Nat} {e : TypeId} {a b d a' b' d' : Value} (h : x.heap[g]? = some (.cells #[a, b, d] e (0, 0))) : (((x.setCell ⟨g, 0, none⟩ a').setCell ⟨g, 1, none⟩ b').setCell ⟨g, 2, none⟩ d').heap[g]? = some (.cells #[a', b', d'] e (0, 0)) := by
  simp [World.setCell, Array.getElem?_modify, h]
theorem block_set {x : World} {g i : Nat} {e : TypeId} {cs : Array Value} {v : Value} (h : x.heap[g]? = some (.cells cs e (0, 0))) : (x.setCell ⟨g, i, none⟩ v).heap[g]? = some (.cells (cs.setIfInBounds i v) e (0, 0)) := by
  simp [World.setCell, Array.getElem?_modify, h]
theorem none_kern (w : World) : KernV w (.agg #[.int .i64 0, .int .i64 0, .slice none 0 0]) ⟨0, 0, []⟩ := ⟨_, rfl, none, 0, rfl, Nat.le_refl _, Nat.zero_le _, fun h => absurd h (Nat.lt_irrefl _)⟩
theorem emit_none {L : Lp} {t : Tg} {P : Int} {T D : List Int} (h : (legalD L t P T && destsOk L t D) = false) : emitK L t P T D = ⟨0, 0, []⟩ ∧ emitC L t P T D = 2 := by
  unfold emitK emitC
  rw [h]
  exact ⟨if_neg Bool.false_ne_true, if_neg Bool.false_ne_true⟩
set_option maxHeartbeats 4000000 in
theorem emit_no (p0 p1 p2 q0 q1 q2 r : Int) (L : Lp) (a0 a1 a2 : Option Addr) (cap0 cap1 cap2 : Nat) (P : Int) (T D : List Int) (ta da : Option Addr) (tc dc : Nat) (w : World) (hL : LoopV w (.agg #[.slice a0 L.logs.length cap0, .slice a1 L.body.length cap1, .slice a2 L.outs.length cap2]) L) (hP : PlanV w (.agg #[.int .i64 P, .slice ta T.length tc]) P T) (h : legalD L ⟨p0, p1, p2, q0, q1, q2, r⟩ P T = false ∨ (legalD L ⟨p0, p1, p2, q0, q1, q2, r⟩ P T = true ∧ D.length ≠ L.body.length)) :
    Calls Tryz.prog 14 #[.agg #[.slice a0 L.logs.length cap0, .slice a1 L.body.length cap1, .slice a2 L.outs.length cap2], .agg #[.int .i64 p0, .int .i64 p1, .int .i64 p2, .int .i64 q0, .int .i64 q1, .int .i64 q2, .int .i64 r], .agg #[.int .i64 P, .slice ta T.length tc], .slice da D.length dc] w (EmitPost L ⟨p0, p1, p2, q0, q1, q2, r⟩ P T D w) := by
  have hn : (legalD L ⟨p0, p1, p2, q0, q1, q2, r⟩ P T && destsOk L ⟨p0, p1, p2, q0, q1, q2, r⟩ D) = false := by
    rcases h with h | ⟨-, h⟩
    · rw [h]; rfl
    · unfold destsOk; rw [decide_eq_false h]; simp
  have HN := hide (emit_none hn)
  have HBW : Hid (Below w.heap.size w (((((w.alloc (.cells #[.slice a0 L.logs.length cap0, .slice a1 L.body.length cap1, .slice a2 L.outs.length cap2] 25)).alloc (.cells #[.int .i64 p0, .int .i64 p1, .int .i64 p2, .int .i64 q0, .int .i64 q1, .int .i64 q2, .int .i64 r] 28)).alloc (.cells #[.int .i64 P, .slice ta T.length tc] 49)).alloc (.cells #[.int .i64 0, .int .i64 0, .slice none 0 0] 31)).alloc (.cells #[.int .i64 0, .int .i64 0, .slice none 0 0] 31))) := (five_blocks (Below.refl _ (((((w.alloc (.cells #[.slice a0 L.logs.length cap0, .slice a1 L.body.length cap1, .slice a2 L.outs.length cap2] 25)).alloc (.cells #[.int .i64 p0, .int .i64 p1, .int .i64 p2, .int .i64 q0, .int .i64 q1, .int .i64 q2, .int .i64 r] 28)).alloc (.cells #[.int .i64 P, .slice ta T.length tc] 49)).alloc (.cells #[.int .i64 0, .int .i64 0, .slice none 0 0] 31)).alloc (.cells #[.int .i64 0, .int .i64 0, .slice none 0 0] 31)))).2.2.2.2.2.2
  have HS5 : Hid ((((((w.alloc (.cells #[.slice a0 L.logs.length cap0, .slice a1 L.body.length cap1, .slice a2 L.outs.length cap2] 25)).alloc (.cells #[.int .i64 p0, .int .i64 p1, .int .i64 p2, .int .i64 q0, .int .i64 q1, .int .i64 q2, .int .i64 r] 28)).alloc (.cells #[.int .i64 P, .slice ta T.length tc] 49)).alloc (.cells #[.int .i64 0, .int .i64 0, .slice none 0 0] 31)).alloc (.cells #[.int .i64 0, .int .i64 0, .slice none 0 0] 31)).heap.size = (w.heap.size + 1 + 1 + 1 + 1 + 1)) := by show _ = _; simp
  have HLG := hide (legal_any ⟨p0, p1, p2, q0, q1, q2, r⟩ L (.agg #[.slice a0 L.logs.length cap0, .slice a1 L.body.length cap1, .slice a2 L.outs.length cap2]) (.agg #[.int .i64 P, .slice ta T.length tc]) P T (((((w.alloc (.cells #[.slice a0 L.logs.length cap0, .slice a1 L.body.length cap1, .slice a2 L.outs.length cap2] 25)).alloc (.cells #[.int .i64 p0, .int .i64 p1, .int .i64 p2, .int .i64 q0, .int .i64 q1, .int .i64 q2, .int .i64 r] 28)).alloc (.cells #[.int .i64 P, .slice ta T.length tc] 49)).alloc (.cells #[.int .i64 0, .int .i64 0, .slice none 0 0] 31)).alloc (.cells #[.int .i64 0, .int .i64 0, .slice none 0 0] 31)) (hL.below HBW.out) (hP.below HBW.out))
  have HH := hide h
  have HEND : Hid (∀ x1 : World, Below (w.heap.size + 1 + 1 + 1 + 1 + 1) (((((w.alloc (.cells #[.slice a0 L.logs.length cap0, .slice a1 L.body.length cap1, .slice a2 L.outs.length cap2] 25)).alloc (.cells #[.int .i64 p0, .int .i64 p1, .int .i64 p2, .int .i64 q0, .int .i64 q1, .int .i64 q2, .int .i64 r] 28)).alloc (.cells #[.int .i64 P, .slice ta T.length tc] 49)).alloc (.cells #[.int .i64 0, .int .i64 0, .slice none 0 0] 31)).alloc (.cells #[.int .i64 0, .int .i64 0, .slice none 0 0] 31)) x1 → EmitPost L ⟨p0, p1, p2, q0, q1, q2, r⟩ P T D w (.returned (.tuple #[.agg #[.int .i64 0, .int .i64 0, .slice none 0 0], .int .i64 2])) (((x1.setCell ⟨(w.heap.size + 1 + 1 + 1), 0, none⟩ (.int .i64 0)).setCell ⟨(w.heap.size + 1 + 1 + 1), 1, none⟩ (.int .i64 0)).setCell ⟨(w.heap.size + 1 + 1 + 1), 2, none⟩ (.slice none 0 0))) := fun x1 hx => by
    obtain ⟨-, -, -, -, -, hz, hb⟩ := five_blocks hx
    refine ⟨((hb.setCell (by show w.heap.size ≤ (w.heap.size + 1 + 1 + 1); omega) _).setCell (by show w.heap.size ≤ (w.heap.size + 1 + 1 + 1); omega) _).setCell (by show w.heap.size ≤ (w.heap.size + 1 + 1 + 1); omega) _, 0, 0, .slice none 0 0, by rw [HN.out.2], ?_⟩
    rw [HN.out.1]
    exact none_kern _
  generalize legalD L ⟨p0, p1, p2, q0, q1, q2, r⟩ P T = lb at HLG HH
  clear hL hP h hn
  go_enter Tryz.func14, Tryz.ntmps14
  go_wp2_with fail
  refine HLG.out.mono ?_
  rintro e x1 ⟨rfl, hb1⟩
  have HX1 : Hid (Below (w.heap.size + 1 + 1 + 1 + 1 + 1) (((((w.alloc (.cells #[.slice a0 L.logs.length cap0, .slice a1 L.body.length cap1, .slice a2 L.outs.length cap2] 25)).alloc (.cells #[.int .i64 p0, .int .i64 p1, .int .i64 p2, .int .i64 q0, .int .i64 q1, .int .i64 q2, .int .i64 r] 28)).alloc (.cells #[.int .i64 P, .slice ta T.length tc] 49)).alloc (.cells #[.int .i64 0, .int .i64 0, .slice none 0 0] 31)).alloc (.cells #[.int .i64 0, .int .i64 0, .slice none 0 0] 31)) x1) := by show Below _ _ _; rw [← HS5.out]; exact hb1
  obtain ⟨b0, b1, b2, b3, b4, hz, -⟩ := five_blocks HX1.out
  have l1 : x1.cell? ⟨w.heap.size, 1, none⟩ = some (.slice a1 L.body.length cap1) := by rw [cell_of_block b0]; rfl
  have n0 : x1.cell? ⟨(w.heap.size + 1 + 1 + 1 + 1), 0, none⟩ = some (.int .i64 0) := by rw [cell_of_block b4]; rfl
  have n1 : x1.cell? ⟨(w.heap.size + 1 + 1 + 1 + 1), 1, none⟩ = some (.int .i64 0) := by rw [cell_of_block b4]; rfl
  have n2 : x1.cell? ⟨(w.heap.size + 1 + 1 + 1 + 1), 2, none⟩ = some (.slice none 0 0) := by rw [cell_of_block b4]; rfl
  have k0 : x1.cell? ⟨(w.heap.size + 1 + 1 + 1), 0, none⟩ = some (.int .i64 0) := by rw [cell_of_block b3]; rfl
  have k1 : x1.cell? ⟨(w.heap.size + 1 + 1 + 1), 1, none⟩ = some (.int .i64 0) := by rw [cell_of_block b3]; rfl
  have k2 : x1.cell? ⟨(w.heap.size + 1 + 1 + 1), 2, none⟩ = some (.slice none 0 0) := by rw [cell_of_block b3]; rfl
  have f0 : x1.frozen? ⟨(w.heap.size + 1 + 1 + 1), 0, none⟩ = false := by simp [World.frozen?, b3]
  have f1 : x1.frozen? ⟨(w.heap.size + 1 + 1 + 1), 1, none⟩ = false := by simp [World.frozen?, b3]
  have f2 : x1.frozen? ⟨(w.heap.size + 1 + 1 + 1), 2, none⟩ = false := by simp [World.frozen?, b3]
  have HT := hide (triple_set (a' := .int .i64 0) (b' := .int .i64 0) (d' := .slice none 0 0) b3)
  have HE := hide (HEND.out x1 HX1.out)
  clear hb1 b0 b1 b2 b3 b4
  rcases HH.out with h | ⟨h, hd⟩
  · subst h
    go_wp2_with fail
    have s0 : (((x1.setCell ⟨(w.heap.size + 1 + 1 + 1), 0, none⟩ (.int .i64 0)).setCell ⟨(w.heap.size + 1 + 1 + 1), 1, none⟩ (.int .i64 0)).setCell ⟨(w.heap.size + 1 + 1 + 1), 2, none⟩ (.slice none 0 0)).cell? ⟨(w.heap.size + 1 + 1 + 1), 0, none⟩ = some (.int .i64 0) := by rw [cell_of_block HT.out]; rfl
    have s1 : (((x1.setCell ⟨(w.heap.size + 1 + 1 + 1), 0, none⟩ (.int .i64 0)).setCell ⟨(w.heap.size + 1 + 1 + 1), 1, none⟩ (.int .i64 0)).setCell ⟨(w.heap.size + 1 + 1 + 1), 2, none⟩ (.slice none 0 0)).cell? ⟨(w.heap.size + 1 + 1 + 1), 1, none⟩ = some (.int .i64 0) := by rw [cell_of_block HT.out]; rfl
    have s2 : (((x1.setCell ⟨(w.heap.size + 1 + 1 + 1), 0, none⟩ (.int .i64 0)).setCell ⟨(w.heap.size + 1 + 1 + 1), 1, none⟩ (.int .i64 0)).setCell ⟨(w.heap.size + 1 + 1 + 1), 2, none⟩ (.slice none 0 0)).cell? ⟨(w.heap.size + 1 + 1 + 1), 2, none⟩ = some (.slice none 0 0) := by rw [cell_of_block HT.out]; rfl
    exact bodyPost_ret (v := .tuple #[.agg #[.int .i64 0, .int .i64 0, .slice none 0 0], .int .i64 2]) (by simp [results, Tryz.results14, go_sem, s0, s1, s2]) rfl HE.out
  · subst h
    have hdi : ¬ (D.length : Int) = (L.body.length : Int) := by omega
    go_wp2_with fail
    have s0 : (((x1.setCell ⟨(w.heap.size + 1 + 1 + 1), 0, none⟩ (.int .i64 0)).setCell ⟨(w.heap.size + 1 + 1 + 1), 1, none⟩ (.int .i64 0)).setCell ⟨(w.heap.size + 1 + 1 + 1), 2, none⟩ (.slice none 0 0)).cell? ⟨(w.heap.size + 1 + 1 + 1), 0, none⟩ = some (.int .i64 0) := by rw [cell_of_block HT.out]; rfl
    have s1 : (((x1.setCell ⟨(w.heap.size + 1 + 1 + 1), 0, none⟩ (.int .i64 0)).setCell ⟨(w.heap.size + 1 + 1 + 1), 1, none⟩ (.int .i64 0)).setCell ⟨(w.heap.size + 1 + 1 + 1), 2, none⟩ (.slice none 0 0)).cell? ⟨(w.heap.size + 1 + 1 + 1), 1, none⟩ = some (.int .i64 0) := by rw [cell_of_block HT.out]; rfl
    have s2 : (((x1.setCell ⟨(w.heap.size + 1 + 1 + 1), 0, none⟩ (.int .i64 0)).setCell ⟨(w.heap.size + 1 + 1 + 1), 1, none⟩ (.int .i64 0)).setCell ⟨(w.heap.size + 1 + 1 + 1), 2, none⟩ (.slice none 0 0)).cell? ⟨(w.heap.size + 1 + 1 + 1), 2, none⟩ = some (.slice none 0 0) := by rw [cell_of_block HT.out]; rfl
    exact bodyPost_ret (v := .tuple #[.agg #[.int .i64 0, .int .i64 0, .slice none 0 0], .int .i64 2]) (by simp [results, Tryz.results14, go_sem, s0, s1, s2]) rfl HE.out

theorem refs_set {y : World} {ua : Option Addr} {n c g : Nat} {l : List (Int × Int)} (h : RefsV y (.slice ua n c) l) (hb : ∀ b o, ua = some ⟨b, o, none⟩ → b ≠ g) (i : Nat) (v : Value) : RefsV (y.setCell ⟨g, i, none⟩ v) (.slice ua n c) l := by
  obtain ⟨a, cap, e, h1, h2, h4⟩ := h
  refine ⟨a, cap, e, h1, h2, fun hp => ?_⟩
  obtain ⟨b', off, e2, h5, h6⟩ := h4 hp
  injection e with e3
  have hne := hb b' off (e3.trans e2)
  refine ⟨b', off, e2, by simpa using h5, fun i hi => ?_⟩
  rw [cell_same (Below.heap_setCell _ _ _ _ hne), cell_same (Below.heap_setCell _ _ _ _ hne)]
  exact h6 i hi
theorem ops_set {y : World} {g n c : Nat} {l : List Kop} {b : Nat} (h : OpsV y (.slice (some ⟨g, 0, none⟩) n c) l) (hb : b ≠ g) (i : Nat) (v : Value) : OpsV (y.setCell ⟨b, i, none⟩ v) (.slice (some ⟨g, 0, none⟩) n c) l := by
  obtain ⟨a, cap, e, h1, h2, h4⟩ := h
  refine ⟨a, cap, e, h1, h2, fun hp => ?_⟩
  obtain ⟨b', off, e2, h5, h6⟩ := h4 hp
  injection e with e3
  rw [e2] at e3
  injection e3 with e3
  injection e3 with e3 e4
  refine ⟨b', off, e2, by simpa using h5, fun i hi j hj => ?_⟩
  rw [cell_same (Below.heap_setCell _ _ _ _ (show b' ≠ b by omega))]
  exact h6 i hi j hj
theorem Tryz.iop37 : (Tryz.prog.info? 37).map (fun i => (i.zero, i.size, i.bytes)) = some (some (.agg #[.int .i64 0, .int .i64 0, .int .i64 0, .int .i64 0, .int .i64 0, .int .i64 0, .int .i64 0, .int .i64 0, .int .i64 0, .int .i64 0]), 10, 80) := by kernel_rfl
theorem mayT_regs {t : Tg} (h : mayT t = true) : 1 ≤ t.r ∧ t.r ≤ 128 := by
  obtain ⟨-, -, -, h4, h5⟩ := mayT_parts h
  exact ⟨h4, h5⟩
theorem ten_cellsE (w : World) (cs : Array Value) (e : TypeId) : ∀ (j : Nat) (u : Value), cs.toList[j]? = some u → (w.alloc (.cells cs e)).cell? ((⟨w.heap.size, 0, none⟩ : Addr).add j) = some u := by
  intro j u hj
  have ha : (⟨w.heap.size, 0, none⟩ : Addr).add j = ⟨w.heap.size, j, none⟩ := by simp [Addr.add]; omega
  rw [ha, cell_of_block (new_blkS w cs e)]
  simpa using hj
set_option maxHeartbeats 32000000 in
theorem emit_yes (p0 p1 p2 q0 q1 q2 r : Int) (L : Lp) (a0 a2 : Option Addr) (bb bo : Nat) (cap0 cap1 cap2 : Nat) (P : Int) (T D : List Int) (tb tz tc db dz dc : Nat) (w : World) (hL : LoopV w (.agg #[.slice a0 L.logs.length cap0, .slice (some ⟨bb, bo, none⟩) L.body.length cap1, .slice a2 L.outs.length cap2]) L) (hP : PlanV w (.agg #[.int .i64 P, .slice (some ⟨tb, tz, none⟩) L.body.length tc]) P T) (hleg : legalD L ⟨p0, p1, p2, q0, q1, q2, r⟩ P T = true) (hDn : D.length = L.body.length)
    (hbb : bb < w.heap.size) (hbc : L.body.length ≤ cap1) (hbm : cap1 ≤ 9223372036854775807) (hbody : ∀ i, i < L.body.length → ∀ j, j < 9 → w.cell? ⟨bb, bo + i * 9 + j, none⟩ = (stCells (stAt L.body i))[j]?)
    (htb : tb < w.heap.size) (htc : L.body.length ≤ tc) (htm : tc ≤ 9223372036854775807) (htimes : ∀ i, i < L.body.length → w.cell? ⟨tb, tz + i, none⟩ = some (.int .i64 (nth T i)))
    (hdb : db < w.heap.size) (hdc : L.body.length ≤ dc) (hdm : dc ≤ 9223372036854775807) (hdests : ∀ i, i < L.body.length → w.cell? ⟨db, dz + i, none⟩ = some (.int .i64 (nth D i))) :
    Calls Tryz.prog 14 #[.agg #[.slice a0 L.logs.length cap0, .slice (some ⟨bb, bo, none⟩) L.body.length cap1, .slice a2 L.outs.length cap2], .agg #[.int .i64 p0, .int .i64 p1, .int .i64 p2, .int .i64 q0, .int .i64 q1, .int .i64 q2, .int .i64 r], .agg #[.int .i64 P, .slice (some ⟨tb, tz, none⟩) L.body.length tc], .slice (some ⟨db, dz, none⟩) L.body.length dc] w (EmitPost L ⟨p0, p1, p2, q0, q1, q2, r⟩ P T D w) := by
  obtain ⟨hm, hmt, hP1, hP2, hTn, htl, -⟩ := legal_parts hleg
  obtain ⟨-, hl1, hl16, -⟩ := may_parts hm
  obtain ⟨i0, hi, hz0, hz1, hz2⟩ := info_parts Tryz.iop37
  have hr := mayT_regs hmt
  have HTR : Hid (∀ i, i < L.body.length → 0 ≤ nth T i ∧ nth T i ≤ 1000) := fun i hi => by
    have h := allN_get htl i (by omega)
    unfold timeL at h
    rw [Bool.and_eq_true] at h
    exact inR_iff.1 h.1
  have HBW : Hid (Below w.heap.size w (((((w.alloc (.cells #[.slice a0 L.logs.length cap0, .slice (some ⟨bb, bo, none⟩) L.body.length cap1, .slice a2 L.outs.length cap2] 25)).alloc (.cells #[.int .i64 p0, .int .i64 p1, .int .i64 p2, .int .i64 q0, .int .i64 q1, .int .i64 q2, .int .i64 r] 28)).alloc (.cells #[.int .i64 P, .slice (some ⟨tb, tz, none⟩) L.body.length tc] 49)).alloc (.cells #[.int .i64 0, .int .i64 0, .slice none 0 0] 31)).alloc (.cells #[.int .i64 0, .int .i64 0, .slice none 0 0] 31))) := (five_blocks (Below.refl _ (((((w.alloc (.cells #[.slice a0 L.logs.length cap0, .slice (some ⟨bb, bo, none⟩) L.body.length cap1, .slice a2 L.outs.length cap2] 25)).alloc (.cells #[.int .i64 p0, .int .i64 p1, .int .i64 p2, .int .i64 q0, .int .i64 q1, .int .i64 q2, .int .i64 r] 28)).alloc (.cells #[.int .i64 P, .slice (some ⟨tb, tz, none⟩) L.body.length tc] 49)).alloc (.cells #[.int .i64 0, .int .i64 0, .slice none 0 0] 31)).alloc (.cells #[.int .i64 0, .int .i64 0, .slice none 0 0] 31)))).2.2.2.2.2.2
  have HS5 : Hid ((((((w.alloc (.cells #[.slice a0 L.logs.length cap0, .slice (some ⟨bb, bo, none⟩) L.body.length cap1, .slice a2 L.outs.length cap2] 25)).alloc (.cells #[.int .i64 p0, .int .i64 p1, .int .i64 p2, .int .i64 q0, .int .i64 q1, .int .i64 q2, .int .i64 r] 28)).alloc (.cells #[.int .i64 P, .slice (some ⟨tb, tz, none⟩) L.body.length tc] 49)).alloc (.cells #[.int .i64 0, .int .i64 0, .slice none 0 0] 31)).alloc (.cells #[.int .i64 0, .int .i64 0, .slice none 0 0] 31)).heap.size = (w.heap.size + 1 + 1 + 1 + 1 + 1)) := by show _ = _; simp
  have HLG := hide (legal_any ⟨p0, p1, p2, q0, q1, q2, r⟩ L (.agg #[.slice a0 L.logs.length cap0, .slice (some ⟨bb, bo, none⟩) L.body.length cap1, .slice a2 L.outs.length cap2]) (.agg #[.int .i64 P, .slice (some ⟨tb, tz, none⟩) L.body.length tc]) P T (((((w.alloc (.cells #[.slice a0 L.logs.length cap0, .slice (some ⟨bb, bo, none⟩) L.body.length cap1, .slice a2 L.outs.length cap2] 25)).alloc (.cells #[.int .i64 p0, .int .i64 p1, .int .i64 p2, .int .i64 q0, .int .i64 q1, .int .i64 q2, .int .i64 r] 28)).alloc (.cells #[.int .i64 P, .slice (some ⟨tb, tz, none⟩) L.body.length tc] 49)).alloc (.cells #[.int .i64 0, .int .i64 0, .slice none 0 0] 31)).alloc (.cells #[.int .i64 0, .int .i64 0, .slice none 0 0] 31)) (hL.below HBW.out) (hP.below HBW.out))
  rw [hleg] at HLG
  have HNONE : Hid (allN (fun s => inR (nth D s) 0 (r - 1)) L.body.length = false → ∀ y : World, Below (w.heap.size + 1 + 1 + 1 + 1 + 1) (((((w.alloc (.cells #[.slice a0 L.logs.length cap0, .slice (some ⟨bb, bo, none⟩) L.body.length cap1, .slice a2 L.outs.length cap2] 25)).alloc (.cells #[.int .i64 p0, .int .i64 p1, .int .i64 p2, .int .i64 q0, .int .i64 q1, .int .i64 q2, .int .i64 r] 28)).alloc (.cells #[.int .i64 P, .slice (some ⟨tb, tz, none⟩) L.body.length tc] 49)).alloc (.cells #[.int .i64 0, .int .i64 0, .slice none 0 0] 31)).alloc (.cells #[.int .i64 0, .int .i64 0, .slice none 0 0] 31)) y → EmitPost L ⟨p0, p1, p2, q0, q1, q2, r⟩ P T D w (.returned (.tuple #[.agg #[.int .i64 0, .int .i64 0, .slice none 0 0], .int .i64 2])) (((y.setCell ⟨(w.heap.size + 1 + 1 + 1), 0, none⟩ (.int .i64 0)).setCell ⟨(w.heap.size + 1 + 1 + 1), 1, none⟩ (.int .i64 0)).setCell ⟨(w.heap.size + 1 + 1 + 1), 2, none⟩ (.slice none 0 0))) := fun hno y hx => by
    obtain ⟨-, -, -, -, -, hz, hb⟩ := five_blocks hx
    have hn : (legalD L ⟨p0, p1, p2, q0, q1, q2, r⟩ P T && destsOk L ⟨p0, p1, p2, q0, q1, q2, r⟩ D) = false := by
      have e : destsOk L ⟨p0, p1, p2, q0, q1, q2, r⟩ D = false := by
        unfold destsOk
        rw [show allN (fun s => inR (nth D s) 0 ((⟨p0, p1, p2, q0, q1, q2, r⟩ : Tg).r - 1)) L.body.length = false from hno, Bool.and_false]
      rw [e, Bool.and_false]
    obtain ⟨hk, hc⟩ := emit_none hn
    refine ⟨((hb.setCell (by show w.heap.size ≤ (w.heap.size + 1 + 1 + 1); omega) _).setCell (by show w.heap.size ≤ (w.heap.size + 1 + 1 + 1); omega) _).setCell (by show w.heap.size ≤ (w.heap.size + 1 + 1 + 1); omega) _, 0, 0, .slice none 0 0, by rw [hc], ?_⟩
    rw [hk]
    exact none_kern _
  have HYES : Hid (allN (fun s => inR (nth D s) 0 (r - 1)) L.body.length = true → emitK L ⟨p0, p1, p2, q0, q1, q2, r⟩ P T D = emitD L ⟨p0, p1, p2, q0, q1, q2, r⟩ P T D ∧ emitC L ⟨p0, p1, p2, q0, q1, q2, r⟩ P T D = 0) := fun hyes => by
    have e : destsOk L ⟨p0, p1, p2, q0, q1, q2, r⟩ D = true := by
      unfold destsOk
      rw [show allN (fun s => inR (nth D s) 0 ((⟨p0, p1, p2, q0, q1, q2, r⟩ : Tg).r - 1)) L.body.length = true from hyes, decide_eq_true hDn]; rfl
    have hn : (legalD L ⟨p0, p1, p2, q0, q1, q2, r⟩ P T && destsOk L ⟨p0, p1, p2, q0, q1, q2, r⟩ D) = true := by rw [hleg, e]; rfl
    unfold emitK emitC
    rw [hn]
    exact ⟨if_pos rfl, if_pos rfl⟩
  have HBO := hide hbody
  have HTI := hide htimes
  have HDE := hide hdests
  have HUO := hide (fun i (hi : i < L.body.length) => usesJ_ok hm hi)
  clear hL hP hleg hbody htimes hdests hm hmt htl
  go_enter Tryz.func14, Tryz.ntmps14
  go_wp2_with fail
  refine HLG.out.mono ?_
  rintro e x1 ⟨rfl, hb1⟩
  have HX1 : Hid (Below (w.heap.size + 1 + 1 + 1 + 1 + 1) (((((w.alloc (.cells #[.slice a0 L.logs.length cap0, .slice (some ⟨bb, bo, none⟩) L.body.length cap1, .slice a2 L.outs.length cap2] 25)).alloc (.cells #[.int .i64 p0, .int .i64 p1, .int .i64 p2, .int .i64 q0, .int .i64 q1, .int .i64 q2, .int .i64 r] 28)).alloc (.cells #[.int .i64 P, .slice (some ⟨tb, tz, none⟩) L.body.length tc] 49)).alloc (.cells #[.int .i64 0, .int .i64 0, .slice none 0 0] 31)).alloc (.cells #[.int .i64 0, .int .i64 0, .slice none 0 0] 31)) x1) := by show Below _ _ _; rw [← HS5.out]; exact hb1
  obtain ⟨b0, b1, b2, b3, b4, hzx, -⟩ := five_blocks HX1.out
  have l1 : x1.cell? ⟨w.heap.size, 1, none⟩ = some (.slice (some ⟨bb, bo, none⟩) L.body.length cap1) := by rw [cell_of_block b0]; rfl
  have e0 : x1.cell? ⟨(w.heap.size + 1 + 1), 0, none⟩ = some (.int .i64 P) := by rw [cell_of_block b2]; rfl
  have HST := hide (EmI.start L ⟨p0, p1, p2, q0, q1, q2, r⟩ P T D x1)
  clear hb1 b0 b1 b2 b3 b4 HLG
  go_wp2_with fail
  clear l1 e0
  go_loopw [12] (fun i wr => ∃ k : Nat, k ≤ L.body.length ∧ i = .int .i64 k ∧ allN (fun s => inR (nth D s) 0 (r - 1)) k = true ∧ EmI L ⟨p0, p1, p2, q0, q1, q2, r⟩ P T D x1 k wr) (fun i _ => L.body.length - (intOf i).toNat)
  case atStart => exact ⟨0, Nat.zero_le _, rfl, rfl, HST.out⟩
  case round =>
    clear HST
    obtain ⟨k, hk, rfl, hall, hem⟩ := hrel
    have HALL := hide hall
    have HEM := hide hem
    have HXW : Hid (Below (w.heap.size + 1 + 1 + 1 + 1 + 1) (((((w.alloc (.cells #[.slice a0 L.logs.length cap0, .slice (some ⟨bb, bo, none⟩) L.body.length cap1, .slice a2 L.outs.length cap2] 25)).alloc (.cells #[.int .i64 p0, .int .i64 p1, .int .i64 p2, .int .i64 q0, .int .i64 q1, .int .i64 q2, .int .i64 r] 28)).alloc (.cells #[.int .i64 P, .slice (some ⟨tb, tz, none⟩) L.body.length tc] 49)).alloc (.cells #[.int .i64 0, .int .i64 0, .slice none 0 0] 31)).alloc (.cells #[.int .i64 0, .int .i64 0, .slice none 0 0] 31)) wr) := HX1.out.trans (hem.bel.mono hzx)
    have hsw : (w.heap.size + 1 + 1 + 1 + 1 + 1) ≤ wr.heap.size := by have := HXW.out.size; rw [HS5.out] at this; exact this
    obtain ⟨b0, b1, b2, b3, b4, -, hbw⟩ := five_blocks HXW.out
    have HWW := hide hbw
    by_cases hkl : k < L.body.length
    · have hki : (k : Int) < (L.body.length : Int) := by omega
      have hdk := (bcell hbw db (dz + k) hdb).trans (HDE.out k hkl)
      obtain ⟨dk, hdke⟩ : ∃ dk, nth D k = dk := ⟨_, rfl⟩
      rw [hdke] at hdk
      have HDK := hide hdke
      have l1 : wr.cell? ⟨w.heap.size, 1, none⟩ = some (.slice (some ⟨bb, bo, none⟩) L.body.length cap1) := by rw [cell_of_block b0]; rfl
      have t6 : wr.cell? ⟨w.heap.size + 1, 6, none⟩ = some (.int .i64 r) := by rw [cell_of_block b1]; rfl
      have e0 : wr.cell? ⟨(w.heap.size + 1 + 1), 0, none⟩ = some (.int .i64 P) := by rw [cell_of_block b2]; rfl
      have e1 : wr.cell? ⟨(w.heap.size + 1 + 1), 1, none⟩ = some (.slice (some ⟨tb, tz, none⟩) L.body.length tc) := by rw [cell_of_block b2]; rfl
      have e2 : tb < wr.heap.size := by omega
      have e3 : db < wr.heap.size := by omega
      clear b0 b1 b2 b3 b4 hbw hdke hem hall
      by_cases hneg : dk < 0
      · have hnd : decide (dk < 0) = true := decide_eq_true hneg
        have HDN : Hid (inR (nth D k) 0 (r - 1) = false) := by show _ = _; rw [HDK.out]; exact inR_no (by omega)
        go_wp2_with fail
        go_big_quiet ((fail))
        have HWD : Hid (Below wr.heap.size wr (wr.drewN nq)) := below_draws _ _ _
        generalize wr.drewN nq = y0 at HWD ⊢
        have HXY : Hid (Below (w.heap.size + 1 + 1 + 1 + 1 + 1) (((((w.alloc (.cells #[.slice a0 L.logs.length cap0, .slice (some ⟨bb, bo, none⟩) L.body.length cap1, .slice a2 L.outs.length cap2] 25)).alloc (.cells #[.int .i64 p0, .int .i64 p1, .int .i64 p2, .int .i64 q0, .int .i64 q1, .int .i64 q2, .int .i64 r] 28)).alloc (.cells #[.int .i64 P, .slice (some ⟨tb, tz, none⟩) L.body.length tc] 49)).alloc (.cells #[.int .i64 0, .int .i64 0, .slice none 0 0] 31)).alloc (.cells #[.int .i64 0, .int .i64 0, .slice none 0 0] 31)) y0) := HXW.out.trans (HWD.out.mono hsw)
        clear e0 e1 e2 e3 l1 hdk t6
        obtain ⟨b0, b1, b2, b3, b4, hzy, -⟩ := five_blocks HXY.out
        have n0 : y0.cell? ⟨(w.heap.size + 1 + 1 + 1 + 1), 0, none⟩ = some (.int .i64 0) := by rw [cell_of_block b4]; rfl
        have n1 : y0.cell? ⟨(w.heap.size + 1 + 1 + 1 + 1), 1, none⟩ = some (.int .i64 0) := by rw [cell_of_block b4]; rfl
        have n2 : y0.cell? ⟨(w.heap.size + 1 + 1 + 1 + 1), 2, none⟩ = some (.slice none 0 0) := by rw [cell_of_block b4]; rfl
        have k0 : y0.cell? ⟨(w.heap.size + 1 + 1 + 1), 0, none⟩ = some (.int .i64 0) := by rw [cell_of_block b3]; rfl
        have k1 : y0.cell? ⟨(w.heap.size + 1 + 1 + 1), 1, none⟩ = some (.int .i64 0) := by rw [cell_of_block b3]; rfl
        have k2 : y0.cell? ⟨(w.heap.size + 1 + 1 + 1), 2, none⟩ = some (.slice none 0 0) := by rw [cell_of_block b3]; rfl
        have f0 : y0.frozen? ⟨(w.heap.size + 1 + 1 + 1), 0, none⟩ = false := by simp [World.frozen?, b3]
        have f1 : y0.frozen? ⟨(w.heap.size + 1 + 1 + 1), 1, none⟩ = false := by simp [World.frozen?, b3]
        have f2 : y0.frozen? ⟨(w.heap.size + 1 + 1 + 1), 2, none⟩ = false := by simp [World.frozen?, b3]
        have HT := hide (triple_set (a' := .int .i64 0) (b' := .int .i64 0) (d' := .slice none 0 0) b3)
        have HE := hide (HNONE.out (allN_false hkl HDN.out) y0 HXY.out)
        clear b0 b1 b2 b3 b4
        go_wp2_with fail
        have s0 : (((y0.setCell ⟨(w.heap.size + 1 + 1 + 1), 0, none⟩ (.int .i64 0)).setCell ⟨(w.heap.size + 1 + 1 + 1), 1, none⟩ (.int .i64 0)).setCell ⟨(w.heap.size + 1 + 1 + 1), 2, none⟩ (.slice none 0 0)).cell? ⟨(w.heap.size + 1 + 1 + 1), 0, none⟩ = some (.int .i64 0) := by rw [cell_of_block HT.out]; rfl
        have s1 : (((y0.setCell ⟨(w.heap.size + 1 + 1 + 1), 0, none⟩ (.int .i64 0)).setCell ⟨(w.heap.size + 1 + 1 + 1), 1, none⟩ (.int .i64 0)).setCell ⟨(w.heap.size + 1 + 1 + 1), 2, none⟩ (.slice none 0 0)).cell? ⟨(w.heap.size + 1 + 1 + 1), 1, none⟩ = some (.int .i64 0) := by rw [cell_of_block HT.out]; rfl
        have s2 : (((y0.setCell ⟨(w.heap.size + 1 + 1 + 1), 0, none⟩ (.int .i64 0)).setCell ⟨(w.heap.size + 1 + 1 + 1), 1, none⟩ (.int .i64 0)).setCell ⟨(w.heap.size + 1 + 1 + 1), 2, none⟩ (.slice none 0 0)).cell? ⟨(w.heap.size + 1 + 1 + 1), 2, none⟩ = some (.slice none 0 0) := by rw [cell_of_block HT.out]; rfl
        exact bodyPost_ret (v := .tuple #[.agg #[.int .i64 0, .int .i64 0, .slice none 0 0], .int .i64 2]) (by simp [results, Tryz.results14, go_sem, s0, s1, s2]) rfl HE.out
      · have hnd : decide (dk < 0) = false := decide_eq_false hneg
        by_cases hbig : r ≤ dk
        · have hbd : decide (r ≤ dk) = true := decide_eq_true hbig
          have HDN : Hid (inR (nth D k) 0 (r - 1) = false) := by show _ = _; rw [HDK.out]; exact inR_no (by omega)
          go_wp2_with fail
          go_big_quiet ((fail))
          have HWD : Hid (Below wr.heap.size wr (wr.drewN nq)) := below_draws _ _ _
          generalize wr.drewN nq = y0 at HWD ⊢
          have HXY : Hid (Below (w.heap.size + 1 + 1 + 1 + 1 + 1) (((((w.alloc (.cells #[.slice a0 L.logs.length cap0, .slice (some ⟨bb, bo, none⟩) L.body.length cap1, .slice a2 L.outs.length cap2] 25)).alloc (.cells #[.int .i64 p0, .int .i64 p1, .int .i64 p2, .int .i64 q0, .int .i64 q1, .int .i64 q2, .int .i64 r] 28)).alloc (.cells #[.int .i64 P, .slice (some ⟨tb, tz, none⟩) L.body.length tc] 49)).alloc (.cells #[.int .i64 0, .int .i64 0, .slice none 0 0] 31)).alloc (.cells #[.int .i64 0, .int .i64 0, .slice none 0 0] 31)) y0) := HXW.out.trans (HWD.out.mono hsw)
          clear e0 e1 e2 e3 l1 hdk t6
          obtain ⟨b0, b1, b2, b3, b4, hzy, -⟩ := five_blocks HXY.out
          have n0 : y0.cell? ⟨(w.heap.size + 1 + 1 + 1 + 1), 0, none⟩ = some (.int .i64 0) := by rw [cell_of_block b4]; rfl
          have n1 : y0.cell? ⟨(w.heap.size + 1 + 1 + 1 + 1), 1, none⟩ = some (.int .i64 0) := by rw [cell_of_block b4]; rfl
          have n2 : y0.cell? ⟨(w.heap.size + 1 + 1 + 1 + 1), 2, none⟩ = some (.slice none 0 0) := by rw [cell_of_block b4]; rfl
          have k0 : y0.cell? ⟨(w.heap.size + 1 + 1 + 1), 0, none⟩ = some (.int .i64 0) := by rw [cell_of_block b3]; rfl
          have k1 : y0.cell? ⟨(w.heap.size + 1 + 1 + 1), 1, none⟩ = some (.int .i64 0) := by rw [cell_of_block b3]; rfl
          have k2 : y0.cell? ⟨(w.heap.size + 1 + 1 + 1), 2, none⟩ = some (.slice none 0 0) := by rw [cell_of_block b3]; rfl
          have f0 : y0.frozen? ⟨(w.heap.size + 1 + 1 + 1), 0, none⟩ = false := by simp [World.frozen?, b3]
          have f1 : y0.frozen? ⟨(w.heap.size + 1 + 1 + 1), 1, none⟩ = false := by simp [World.frozen?, b3]
          have f2 : y0.frozen? ⟨(w.heap.size + 1 + 1 + 1), 2, none⟩ = false := by simp [World.frozen?, b3]
          have HT := hide (triple_set (a' := .int .i64 0) (b' := .int .i64 0) (d' := .slice none 0 0) b3)
          have HE := hide (HNONE.out (allN_false hkl HDN.out) y0 HXY.out)
          clear b0 b1 b2 b3 b4
          go_wp2_with fail
          have s0 : (((y0.setCell ⟨(w.heap.size + 1 + 1 + 1), 0, none⟩ (.int .i64 0)).setCell ⟨(w.heap.size + 1 + 1 + 1), 1, none⟩ (.int .i64 0)).setCell ⟨(w.heap.size + 1 + 1 + 1), 2, none⟩ (.slice none 0 0)).cell? ⟨(w.heap.size + 1 + 1 + 1), 0, none⟩ = some (.int .i64 0) := by rw [cell_of_block HT.out]; rfl
          have s1 : (((y0.setCell ⟨(w.heap.size + 1 + 1 + 1), 0, none⟩ (.int .i64 0)).setCell ⟨(w.heap.size + 1 + 1 + 1), 1, none⟩ (.int .i64 0)).setCell ⟨(w.heap.size + 1 + 1 + 1), 2, none⟩ (.slice none 0 0)).cell? ⟨(w.heap.size + 1 + 1 + 1), 1, none⟩ = some (.int .i64 0) := by rw [cell_of_block HT.out]; rfl
          have s2 : (((y0.setCell ⟨(w.heap.size + 1 + 1 + 1), 0, none⟩ (.int .i64 0)).setCell ⟨(w.heap.size + 1 + 1 + 1), 1, none⟩ (.int .i64 0)).setCell ⟨(w.heap.size + 1 + 1 + 1), 2, none⟩ (.slice none 0 0)).cell? ⟨(w.heap.size + 1 + 1 + 1), 2, none⟩ = some (.slice none 0 0) := by rw [cell_of_block HT.out]; rfl
          exact bodyPost_ret (v := .tuple #[.agg #[.int .i64 0, .int .i64 0, .slice none 0 0], .int .i64 2]) (by simp [results, Tryz.results14, go_sem, s0, s1, s2]) rfl HE.out
        · have hbd : decide (r ≤ dk) = false := decide_eq_false hbig
          have HDN : Hid (inR (nth D k) 0 (r - 1) = true) := by show _ = _; rw [HDK.out]; exact inR_yes (by omega)
          go_wp2_with fail
          go_big_quiet ((fail))
          have HWD : Hid (Below wr.heap.size wr (wr.drewN nq)) := below_draws _ _ _
          generalize wr.drewN nq = y0 at HWD ⊢
          have HXY : Hid (Below (w.heap.size + 1 + 1 + 1 + 1 + 1) (((((w.alloc (.cells #[.slice a0 L.logs.length cap0, .slice (some ⟨bb, bo, none⟩) L.body.length cap1, .slice a2 L.outs.length cap2] 25)).alloc (.cells #[.int .i64 p0, .int .i64 p1, .int .i64 p2, .int .i64 q0, .int .i64 q1, .int .i64 q2, .int .i64 r] 28)).alloc (.cells #[.int .i64 P, .slice (some ⟨tb, tz, none⟩) L.body.length tc] 49)).alloc (.cells #[.int .i64 0, .int .i64 0, .slice none 0 0] 31)).alloc (.cells #[.int .i64 0, .int .i64 0, .slice none 0 0] 31)) y0) := HXW.out.trans (HWD.out.mono hsw)
          have HEM0 := hide (HEM.out.below HWD.out)
          clear e0 e1 e2 e3 l1 hdk t6 hnd hbd
          obtain ⟨b0, b1, b2, b3, b4, hzy, hw0⟩ := five_blocks HXY.out
          have l1 : y0.cell? ⟨w.heap.size, 1, none⟩ = some (.slice (some ⟨bb, bo, none⟩) L.body.length cap1) := by rw [cell_of_block b0]; rfl
          obtain ⟨c0, c1, c2, c3, c4, c5, c6, c7, c8⟩ := nine (fun j hj => (bcell hw0 bb (bo + k * 9 + j) hbb).trans (HBO.out k hkl j hj))
          have hbz : bb < y0.heap.size := by omega
          have hdk := (bcell hw0 db (dz + k) hdb).trans (HDE.out k hkl)
          rw [HDK.out] at hdk
          have htk := (bcell hw0 tb (tz + k) htb).trans (HTI.out k hkl)
          obtain ⟨tk1, tk2⟩ := HTR.out k hkl
          have hkz := HEM0.out.lt
          have HOPJ : Hid (opQ L ⟨p0, p1, p2, q0, q1, q2, r⟩ P T D k 0 = ⟨nth T k % P, nth T k / P, (stAt L.body k).o, nth D k, 0, 0, (stAt L.body k).ar, (stAt L.body k).sp, (stAt L.body k).pl, (stAt L.body k).nn⟩) := rfl
          have HSTG : Hid (stagesE P T (k + 1) = if stagesE P T k ≤ nth T k / P then nth T k / P + 1 else stagesE P T k) := rfl
          obtain ⟨la, lc, hkb, hown⟩ := HEM0.out.blk
          have HKB := hide hkb
          have HOWN := hide hown
          have HNEXT := hide (fun y w1 la' lc' h1 h2 h3 h4 => EmI.next (y := y) (w1 := w1) (la' := la') (lc' := lc') HEM0.out hown h1 h2 h3 h4)
          have HBX1 := hide HEM0.out.bel
          rw [HOPJ.out] at HNEXT
          have hsg0 := Int.ediv_nonneg tk1 (show 0 ≤ P by omega)
          have hsl0 := Int.emod_nonneg (nth T k) (show P ≠ 0 by omega)
          have hsl1 := Int.emod_lt_of_pos (nth T k) (show 0 < P by omega)
          have hdm := Int.mul_ediv_add_emod (nth T k) P
          have hsg1 : nth T k / P ≤ 1000 := Int.le_trans (Int.ediv_le_self _ tk1) tk2
          have htmod : (nth T k).tmod P = nth T k % P := Int.tmod_eq_emod_of_nonneg tk1
          have htdiv : (nth T k - nth T k % P).tdiv P = nth T k / P := by
            have e1 : nth T k - nth T k % P = P * (nth T k / P) := by omega
            rw [e1, Int.mul_tdiv_cancel_left _ (by omega)]
          obtain ⟨tk, htke⟩ : ∃ tk, nth T k = tk := ⟨_, rfl⟩
          rw [htke] at htk tk1 tk2 hsg0 hsl0 hsl1 hsg1 htmod htdiv HNEXT HSTG
          obtain ⟨sl, hsle⟩ : ∃ sl, tk % P = sl := ⟨_, rfl⟩
          obtain ⟨sg, hsge⟩ : ∃ sg, tk / P = sg := ⟨_, rfl⟩
          rw [hsle] at hsl0 hsl1 htmod htdiv HNEXT
          rw [hsge] at hsg0 hsg1 htdiv HNEXT HSTG
          rw [HDK.out] at HNEXT
          obtain ⟨st, hste⟩ : ∃ st, stagesE P T k = st := ⟨_, rfl⟩
          rw [hste] at HKB HSTG
          have hP0 : ¬ P = 0 := by omega
          have hw1 : wrap64 sl = sl := by unfold wrap64; omega
          have hw2 : IntKind.i64.wrap sl = sl := i64_wrap _ (by omega) (by omega)
          have hw3 : IntKind.i64.wrap (tk - sl) = tk - sl := i64_wrap _ (by omega) (by omega)
          have hw4 : wrap64 sg = sg := by unfold wrap64; omega
          have hw5 : IntKind.i64.wrap sg = sg := i64_wrap _ (by omega) (by omega)
          clear htke hsle hsge hste hkb hown hdm
          generalize stAt L.body k = xk at c0 c1 c2 c3 c4 c5 c6 c7 c8 HNEXT
          obtain ⟨o, xa, xb, ya, yb, ar, sp, pl, nn⟩ := xk
          simp only at c0 c1 c2 c3 c4 c5 c6 c7 c8 HNEXT
          have HP0 : Hid (∀ y, Below y0.heap.size y0 y → (y.cell? ⟨(w.heap.size + 1 + 1), 0, none⟩ = some (.int .i64 P) ∧ y.cell? ⟨(w.heap.size + 1 + 1), 1, none⟩ = some (.slice (some ⟨tb, tz, none⟩) L.body.length tc)) ∧ y.cell? ⟨tb, tz + k, none⟩ = some (.int .i64 tk)) := fun y hy => by
            have hb := (hy.block (w.heap.size + 1 + 1) (by omega)).trans b2
            exact ⟨⟨by rw [cell_of_block hb]; rfl, by rw [cell_of_block hb]; rfl⟩, (bcell hy _ _ (by omega)).trans htk⟩
          have HBOX : Hid (∀ y, Below (y0.heap.size + 1) (y0.alloc (.cells #[.int .i64 o, .int .i64 xa, .int .i64 xb, .int .i64 ya, .int .i64 yb, .int .i64 ar, .int .i64 sp, .int .i64 pl, .int .i64 nn] 41)) y → (y.cell? ⟨y0.heap.size, 0, none⟩ = some (.int .i64 o) ∧ y.cell? ⟨y0.heap.size, 5, none⟩ = some (.int .i64 ar) ∧ y.cell? ⟨y0.heap.size, 6, none⟩ = some (.int .i64 sp) ∧ y.cell? ⟨y0.heap.size, 7, none⟩ = some (.int .i64 pl) ∧ y.cell? ⟨y0.heap.size, 8, none⟩ = some (.int .i64 nn)) ∧ y.cell? ⟨db, dz + k, none⟩ = some (.int .i64 dk)) := fun y hy => by
            have hb : y.heap[y0.heap.size]? = some (.cells #[.int .i64 o, .int .i64 xa, .int .i64 xb, .int .i64 ya, .int .i64 yb, .int .i64 ar, .int .i64 sp, .int .i64 pl, .int .i64 nn] 41 (0, 0)) := (hy.block _ (by omega)).trans (new_blkS _ _ _)
            refine ⟨⟨?_, ?_, ?_, ?_, ?_⟩, (bcell ((below_alloc1 y0 (.cells #[.int .i64 o, .int .i64 xa, .int .i64 xb, .int .i64 ya, .int .i64 yb, .int .i64 ar, .int .i64 sp, .int .i64 pl, .int .i64 nn] 41)).trans (hy.mono (by omega))) _ _ (by omega)).trans hdk⟩ <;> (rw [cell_of_block hb]; rfl)
          have HA1 : Hid (Below (y0.heap.size + 1) (y0.alloc (.cells #[.int .i64 o, .int .i64 xa, .int .i64 xb, .int .i64 ya, .int .i64 yb, .int .i64 ar, .int .i64 sp, .int .i64 pl, .int .i64 nn] 41)) (y0.alloc (.cells #[.int .i64 o, .int .i64 xa, .int .i64 xb, .int .i64 ya, .int .i64 yb, .int .i64 ar, .int .i64 sp, .int .i64 pl, .int .i64 nn] 41)).drew) := below_dr1 _ _
          have HZ1 : Hid ((y0.alloc (.cells #[.int .i64 o, .int .i64 xa, .int .i64 xb, .int .i64 ya, .int .i64 yb, .int .i64 ar, .int .i64 sp, .int .i64 pl, .int .i64 nn] 41)).drew.heap.size = y0.heap.size + 1) := by show (y0.alloc (.cells #[.int .i64 o, .int .i64 xa, .int .i64 xb, .int .i64 ya, .int .i64 yb, .int .i64 ar, .int .i64 sp, .int .i64 pl, .int .i64 nn] 41)).heap.size = _; simp
          have HAL : Hid (Below y0.heap.size y0 (y0.alloc (.cells #[.int .i64 o, .int .i64 xa, .int .i64 xb, .int .i64 ya, .int .i64 yb, .int .i64 ar, .int .i64 sp, .int .i64 pl, .int .i64 nn] 41))) := below_alloc1 _ _
          clear b0 b1 b2 b3 b4
          go_wp2_with fail
          clear c0 c1 c2 c3 c4 c5 c6 c7 c8 l1 hdk htk
          refine wp_region_noPanic ?_
          refine region_until 16 (fun w' => (w'.cell? ⟨y0.heap.size, 0, none⟩ = some (.int .i64 o) ∧ w'.cell? ⟨y0.heap.size, 5, none⟩ = some (.int .i64 ar) ∧ w'.cell? ⟨y0.heap.size, 6, none⟩ = some (.int .i64 sp) ∧ w'.cell? ⟨y0.heap.size, 7, none⟩ = some (.int .i64 pl) ∧ w'.cell? ⟨y0.heap.size, 8, none⟩ = some (.int .i64 nn)) ∧ w'.cell? ⟨db, dz + k, none⟩ = some (.int .i64 dk)) (by kernel_rfl) (HBOX.out _ HA1.out) (fun hHeld => ?_)
          generalize (y0.alloc (.cells #[.int .i64 o, .int .i64 xa, .int .i64 xb, .int .i64 ya, .int .i64 yb, .int .i64 ar, .int .i64 sp, .int .i64 pl, .int .i64 nn] 41)).drew = y1 at *
          refine utk (i := 0) rfl hHeld ?_
          try simp only [Act.put, List.setIfInBounds_toArray, List.set_cons_zero, List.set_cons_succ]
          refine utk (i := 1) rfl hHeld ?_
          try simp only [Act.put, List.setIfInBounds_toArray, List.set_cons_zero, List.set_cons_succ]
          refine utk (i := 2) rfl hHeld ?_
          try simp only [Act.put, List.setIfInBounds_toArray, List.set_cons_zero, List.set_cons_succ]
          refine utk (i := 3) rfl hHeld ?_
          try simp only [Act.put, List.setIfInBounds_toArray, List.set_cons_zero, List.set_cons_succ]
          refine utk (i := 4) rfl hHeld ?_
          try simp only [Act.put, List.setIfInBounds_toArray, List.set_cons_zero, List.set_cons_succ]
          refine utk (i := 5) rfl hHeld ?_
          try simp only [Act.put, List.setIfInBounds_toArray, List.set_cons_zero, List.set_cons_succ]
          refine utk (i := 6) rfl hHeld ?_
          try simp only [Act.put, List.setIfInBounds_toArray, List.set_cons_zero, List.set_cons_succ]
          refine utk (i := 7) rfl hHeld ?_
          try simp only [Act.put, List.setIfInBounds_toArray, List.set_cons_zero, List.set_cons_succ]
          refine utk (i := 8) rfl hHeld ?_
          try simp only [Act.put, List.setIfInBounds_toArray, List.set_cons_zero, List.set_cons_succ]
          refine utk (i := 9) rfl hHeld ?_
          try simp only [Act.put, List.setIfInBounds_toArray, List.set_cons_zero, List.set_cons_succ]
          refine utk (i := 10) rfl hHeld ?_
          try simp only [Act.put, List.setIfInBounds_toArray, List.set_cons_zero, List.set_cons_succ]
          refine utk (i := 11) rfl hHeld ?_
          try simp only [Act.put, List.setIfInBounds_toArray, List.set_cons_zero, List.set_cons_succ]
          refine utk (i := 12) rfl hHeld ?_
          try simp only [Act.put, List.setIfInBounds_toArray, List.set_cons_zero, List.set_cons_succ]
          refine utk (i := 13) rfl hHeld ?_
          try simp only [Act.put, List.setIfInBounds_toArray, List.set_cons_zero, List.set_cons_succ]
          refine utk (i := 14) rfl hHeld ?_
          try simp only [Act.put, List.setIfInBounds_toArray, List.set_cons_zero, List.set_cons_succ]
          have hHeld2 := HBOX.out _ (HA1.out.alloc (by rw [HZ1.out]; exact Nat.le_refl _) (.cells #[.int .i64 0, .int .i64 0, .int .i64 0, .int .i64 0, .int .i64 0, .int .i64 0, .int .i64 0, .int .i64 0, .int .i64 0, .int .i64 0] 37))
          refine until_one (i := 15) rfl (by kernel_rfl) (fun K hK => ?_)
          go_simp
          refine hK.out _ _ (.inr hHeld2) ?_
          clear hK K
          try simp only [Act.put, List.setIfInBounds_toArray, List.set_cons_zero, List.set_cons_succ]
          refine until_one (i := 16) rfl (by kernel_rfl) (fun K hK => ?_)
          go_simp
          refine hK.out _ _ (.inl rfl) ?_
          clear hK K
          try simp only [Act.put, List.setIfInBounds_toArray, List.set_cons_zero, List.set_cons_succ]
          refine until_done (by kernel_rfl) ?_ _
          refine NoPanic.normal ?_
          clear hHeld hHeld2
          have HO2 : Hid ((y1.alloc (.cells #[.int .i64 0, .int .i64 0, .int .i64 o, .int .i64 dk, .int .i64 0, .int .i64 0, .int .i64 ar, .int .i64 sp, .int .i64 pl, .int .i64 nn] 37)).heap[y1.heap.size]? = some (.cells #[.int .i64 0, .int .i64 0, .int .i64 o, .int .i64 dk, .int .i64 0, .int .i64 0, .int .i64 ar, .int .i64 sp, .int .i64 pl, .int .i64 nn] 37 (0, 0))) := new_blkS _ _ _
          have HB2 : Hid (Below y0.heap.size y0 (y1.alloc (.cells #[.int .i64 0, .int .i64 0, .int .i64 o, .int .i64 dk, .int .i64 0, .int .i64 0, .int .i64 ar, .int .i64 sp, .int .i64 pl, .int .i64 nn] 37))) := (HAL.out.trans (HA1.out.mono (by omega))).alloc (by rw [HZ1.out]; omega) _
          have hob : y0.heap.size < y1.heap.size := by rw [HZ1.out]; omega
          clear HA1 HZ1 HBOX HAL
          generalize (y1.alloc (.cells #[.int .i64 0, .int .i64 0, .int .i64 o, .int .i64 dk, .int .i64 0, .int .i64 0, .int .i64 ar, .int .i64 sp, .int .i64 pl, .int .i64 nn] 37)) = y2 at *
          generalize y1.heap.size = ob at *
          go_wp2_with fail
          have HB3 : Hid (Below y0.heap.size y0 y2.drew) := HB2.out.trans (below_dr1 _ _)
          have HO3 : Hid (y2.drew.heap[ob]? = some (.cells #[.int .i64 0, .int .i64 0, .int .i64 o, .int .i64 dk, .int .i64 0, .int .i64 0, .int .i64 ar, .int .i64 sp, .int .i64 pl, .int .i64 nn] 37 (0, 0))) := HO2.out
          refine wp_region_noPanic ?_
          refine region_until 9 (fun w' => (w'.cell? ⟨(w.heap.size + 1 + 1), 0, none⟩ = some (.int .i64 P) ∧ w'.cell? ⟨(w.heap.size + 1 + 1), 1, none⟩ = some (.slice (some ⟨tb, tz, none⟩) L.body.length tc)) ∧ w'.cell? ⟨tb, tz + k, none⟩ = some (.int .i64 tk)) (by kernel_rfl) (HP0.out _ HB3.out) (fun hHeld => ?_)
          generalize y2.drew = y3 at *
          refine utk (i := 0) rfl hHeld ?_
          try simp only [Act.put, List.setIfInBounds_toArray, List.set_cons_zero, List.set_cons_succ]
          refine utk (i := 1) rfl hHeld ?_
          try simp only [Act.put, List.setIfInBounds_toArray, List.set_cons_zero, List.set_cons_succ]
          refine utk (i := 2) rfl hHeld ?_
          try simp only [Act.put, List.setIfInBounds_toArray, List.set_cons_zero, List.set_cons_succ]
          refine utk (i := 3) rfl hHeld ?_
          try simp only [Act.put, List.setIfInBounds_toArray, List.set_cons_zero, List.set_cons_succ]
          refine utk (i := 4) rfl hHeld ?_
          try simp only [Act.put, List.setIfInBounds_toArray, List.set_cons_zero, List.set_cons_succ]
          refine utk (i := 5) rfl hHeld ?_
          try simp only [Act.put, List.setIfInBounds_toArray, List.set_cons_zero, List.set_cons_succ]
          refine utk (i := 6) rfl hHeld ?_
          try simp only [Act.put, List.setIfInBounds_toArray, List.set_cons_zero, List.set_cons_succ]
          refine utk (i := 7) rfl hHeld ?_
          try simp only [Act.put, List.setIfInBounds_toArray, List.set_cons_zero, List.set_cons_succ]
          refine utk (i := 8) rfl hHeld ?_
          try simp only [Act.put, List.setIfInBounds_toArray, List.set_cons_zero, List.set_cons_succ]
          have q0 : y3.cell? ⟨ob, 0, none⟩ = some (.int .i64 0) := by rw [cell_of_block HO3.out]; rfl
          have qf : y3.frozen? ⟨ob, 0, none⟩ = false := by simp [World.frozen?, HO3.out]
          refine until_one (i := 9) rfl (by kernel_rfl) (fun K hK => ?_)
          go_simp
          refine hK.out _ _ (.inl rfl) ?_
          clear hK K
          try simp only [Act.put, List.setIfInBounds_toArray, List.set_cons_zero, List.set_cons_succ]
          refine until_done (by kernel_rfl) ?_ _
          refine NoPanic.normal ?_
          have HO4 : Hid ((y3.setCell ⟨ob, 0, none⟩ (.int .i64 sl)).heap[ob]? = some (.cells #[.int .i64 sl, .int .i64 0, .int .i64 o, .int .i64 dk, .int .i64 0, .int .i64 0, .int .i64 ar, .int .i64 sp, .int .i64 pl, .int .i64 nn] 37 (0, 0))) := (block_set HO3.out).trans (by simp)
          have HB4 : Hid (Below y0.heap.size y0 (y3.setCell ⟨ob, 0, none⟩ (.int .i64 sl))) := HB3.out.setCell (Nat.le_of_lt hob) _
          clear hHeld q0 qf HO3 HB3 HO2 HB2
          generalize y3.setCell ⟨ob, 0, none⟩ (.int .i64 sl) = y4 at *
          go_wp2_with fail
          have HB5 : Hid (Below y0.heap.size y0 y4.drew) := HB4.out.trans (below_dr1 _ _)
          have HO5 : Hid (y4.drew.heap[ob]? = some (.cells #[.int .i64 sl, .int .i64 0, .int .i64 o, .int .i64 dk, .int .i64 0, .int .i64 0, .int .i64 ar, .int .i64 sp, .int .i64 pl, .int .i64 nn] 37 (0, 0))) := HO4.out
          have H13 : Hid (((y4.drew.cell? ⟨(w.heap.size + 1 + 1), 0, none⟩ = some (.int .i64 P) ∧ y4.drew.cell? ⟨(w.heap.size + 1 + 1), 1, none⟩ = some (.slice (some ⟨tb, tz, none⟩) L.body.length tc)) ∧ y4.drew.cell? ⟨tb, tz + k, none⟩ = some (.int .i64 tk)) ∧ y4.drew.cell? ⟨ob, 0, none⟩ = some (.int .i64 sl)) := ⟨HP0.out _ HB5.out, by rw [cell_of_block HO5.out]; rfl⟩
          refine wp_region_noPanic ?_
          refine region_until 12 (fun w' => ((w'.cell? ⟨(w.heap.size + 1 + 1), 0, none⟩ = some (.int .i64 P) ∧ w'.cell? ⟨(w.heap.size + 1 + 1), 1, none⟩ = some (.slice (some ⟨tb, tz, none⟩) L.body.length tc)) ∧ w'.cell? ⟨tb, tz + k, none⟩ = some (.int .i64 tk)) ∧ w'.cell? ⟨ob, 0, none⟩ = some (.int .i64 sl)) (by kernel_rfl) H13.out (fun hHeld => ?_)
          generalize y4.drew = y5 at *
          refine utk (i := 0) rfl hHeld ?_
          try simp only [Act.put, List.setIfInBounds_toArray, List.set_cons_zero, List.set_cons_succ]
          refine utk (i := 1) rfl hHeld ?_
          try simp only [Act.put, List.setIfInBounds_toArray, List.set_cons_zero, List.set_cons_succ]
          refine utk (i := 2) rfl hHeld ?_
          try simp only [Act.put, List.setIfInBounds_toArray, List.set_cons_zero, List.set_cons_succ]
          refine utk (i := 3) rfl hHeld ?_
          try simp only [Act.put, List.setIfInBounds_toArray, List.set_cons_zero, List.set_cons_succ]
          refine utk (i := 4) rfl hHeld ?_
          try simp only [Act.put, List.setIfInBounds_toArray, List.set_cons_zero, List.set_cons_succ]
          refine utk (i := 5) rfl hHeld ?_
          try simp only [Act.put, List.setIfInBounds_toArray, List.set_cons_zero, List.set_cons_succ]
          refine utk (i := 6) rfl hHeld ?_
          try simp only [Act.put, List.setIfInBounds_toArray, List.set_cons_zero, List.set_cons_succ]
          refine utk (i := 7) rfl hHeld ?_
          try simp only [Act.put, List.setIfInBounds_toArray, List.set_cons_zero, List.set_cons_succ]
          refine utk (i := 8) rfl hHeld ?_
          try simp only [Act.put, List.setIfInBounds_toArray, List.set_cons_zero, List.set_cons_succ]
          refine utk (i := 9) rfl hHeld ?_
          try simp only [Act.put, List.setIfInBounds_toArray, List.set_cons_zero, List.set_cons_succ]
          refine utk (i := 10) rfl hHeld ?_
          try simp only [Act.put, List.setIfInBounds_toArray, List.set_cons_zero, List.set_cons_succ]
          refine utk (i := 11) rfl hHeld ?_
          try simp only [Act.put, List.setIfInBounds_toArray, List.set_cons_zero, List.set_cons_succ]
          have q1 : y5.cell? ⟨ob, 1, none⟩ = some (.int .i64 0) := by rw [cell_of_block HO5.out]; rfl
          have qf : y5.frozen? ⟨ob, 1, none⟩ = false := by simp [World.frozen?, HO5.out]
          refine until_one (i := 12) rfl (by kernel_rfl) (fun K hK => ?_)
          go_simp
          refine hK.out _ _ (.inl rfl) ?_
          clear hK K
          try simp only [Act.put, List.setIfInBounds_toArray, List.set_cons_zero, List.set_cons_succ]
          refine until_done (by kernel_rfl) ?_ _
          refine NoPanic.normal ?_
          have HO6 : Hid ((y5.setCell ⟨ob, 1, none⟩ (.int .i64 sg)).heap[ob]? = some (.cells #[.int .i64 sl, .int .i64 sg, .int .i64 o, .int .i64 dk, .int .i64 0, .int .i64 0, .int .i64 ar, .int .i64 sp, .int .i64 pl, .int .i64 nn] 37 (0, 0))) := (block_set HO5.out).trans (by simp)
          have HB6 : Hid (Below y0.heap.size y0 (y5.setCell ⟨ob, 1, none⟩ (.int .i64 sg))) := HB5.out.setCell (Nat.le_of_lt hob) _
          clear hHeld q1 qf HO5 HB5 HO4 HB4 H13 hw1 hw2 hw3 hw4 hw5 htmod htdiv
          generalize y5.setCell ⟨ob, 1, none⟩ (.int .i64 sg) = y6 at *
          have HK6 : Hid (y6.heap[x1.heap.size]? = some (.cells #[.int .i64 P, .int .i64 st, .slice la k lc] 31 (0, 0))) := (HB6.out.block _ hkz).trans HKB.out
          have HW6 : Hid (y6.ownsRow (x1.heap.size + 1) 37 10 (.slice la k lc) k (flatO ((List.range k).map fun s => opQ L ⟨p0, p1, p2, q0, q1, q2, r⟩ P T D s 0))) := own_below HOWN.out HB6.out
          have HBX6 : Hid (Below x1.heap.size x1 y6) := HBX1.out.trans (HB6.out.mono (Nat.le_of_lt hkz))
          have hz6 : y0.heap.size ≤ y6.heap.size := HB6.out.size
          have hobz : ob < y6.heap.size := (Array.getElem?_eq_some_iff.1 HO6.out).1
          have hkne : ¬ x1.heap.size = ob := by omega
          have hkne2 : ¬ ob = x1.heap.size := by omega
          have hkz6 : x1.heap.size < y6.heap.size := by omega
          obtain ⟨o0, o1, o2, o3, o4, o5, o6, o7, o8, o9⟩ := ten (b := ob) (o := 0) (x := ⟨sl, sg, o, dk, 0, 0, ar, sp, pl, nn⟩) (w := y6) (fun j hj => by rw [cell_of_block HO6.out, Nat.zero_add]; rfl)
          simp only [Nat.zero_add] at o1 o2 o3 o4 o5 o6 o7 o8 o9
          have m0 : y6.cell? ⟨x1.heap.size, 0, none⟩ = some (.int .i64 P) := by rw [cell_of_block HK6.out]; rfl
          have m1 : y6.cell? ⟨x1.heap.size, 1, none⟩ = some (.int .i64 st) := by rw [cell_of_block HK6.out]; rfl
          have m2 : y6.cell? ⟨x1.heap.size, 2, none⟩ = some (.slice la k lc) := by rw [cell_of_block HK6.out]; rfl
          have mf1 : y6.frozen? ⟨x1.heap.size, 1, none⟩ = false := by simp [World.frozen?, HK6.out]
          have hown6 := ownz_shape HW6.out
          obtain ⟨la9, lc9, hsh, hkc, hcm⟩ := hown6
          injection hsh with hsh1 hsh2 hsh3
          clear hsh1 hsh2
          subst hsh3
          unfold maxLen at hcm
          by_cases hst : st ≤ sg
          · have hwa : wrap64 (sg + 1) = sg + 1 := by unfold wrap64; omega
            have HZW : Hid ((y6.setCell ⟨x1.heap.size, 1, none⟩ (.int .i64 (sg + 1))).ownsRow (x1.heap.size + 1) 37 10 (.slice la k lc) k (flatO ((List.range k).map fun s => opQ L ⟨p0, p1, p2, q0, q1, q2, r⟩ P T D s 0))) := ownz_keep HW6.out fun g hg => Below.heap_setCell _ _ _ _ (by have := ownz_block_ge HW6.out g hg; show g ≠ x1.heap.size; omega)
            have HZK : Hid (((y6.setCell ⟨x1.heap.size, 1, none⟩ (.int .i64 (sg + 1))).alloc (.cells #[.int .i64 sl, .int .i64 sg, .int .i64 o, .int .i64 dk, .int .i64 0, .int .i64 0, .int .i64 ar, .int .i64 sp, .int .i64 pl, .int .i64 nn] 37)).heap[x1.heap.size]? = some (.cells #[.int .i64 P, .int .i64 (stagesE P T (k + 1)), .slice la k lc] 31 (0, 0))) := by
              show _ = _
              rw [HSTG.out, if_pos hst, Below.heap_alloc _ _ _ (by first | exact hkz6 | simpa using hkz6)]
              exact (block_set HK6.out).trans (by simp)
            have HZB : Hid (Below x1.heap.size x1 ((y6.setCell ⟨x1.heap.size, 1, none⟩ (.int .i64 (sg + 1))).alloc (.cells #[.int .i64 sl, .int .i64 sg, .int .i64 o, .int .i64 dk, .int .i64 0, .int .i64 0, .int .i64 ar, .int .i64 sp, .int .i64 pl, .int .i64 nn] 37))) := (HBX6.out.setCell (Nat.le_refl _) _).alloc (by first | omega | (simp; omega)) _
            have HOC : Hid (∀ (j : Nat) (u : Value), [.int .i64 sl, .int .i64 sg, .int .i64 o, .int .i64 dk, .int .i64 0, .int .i64 0, .int .i64 ar, .int .i64 sp, .int .i64 pl, .int .i64 nn][j]? = some u → ((y6.setCell ⟨x1.heap.size, 1, none⟩ (.int .i64 (sg + 1))).alloc (.cells #[.int .i64 sl, .int .i64 sg, .int .i64 o, .int .i64 dk, .int .i64 0, .int .i64 0, .int .i64 ar, .int .i64 sp, .int .i64 pl, .int .i64 nn] 37)).cell? ((⟨y6.heap.size, 0, none⟩ : Addr).add j) = some u) := by
              have h := ten_cellsE (y6.setCell ⟨x1.heap.size, 1, none⟩ (.int .i64 (sg + 1))) #[.int .i64 sl, .int .i64 sg, .int .i64 o, .int .i64 dk, .int .i64 0, .int .i64 0, .int .i64 ar, .int .i64 sp, .int .i64 pl, .int .i64 nn] 37
              have e : (y6.setCell ⟨x1.heap.size, 1, none⟩ (.int .i64 (sg + 1))).heap.size = y6.heap.size := by first | rfl | simp
              rw [e] at h
              exact h
            go_wp2_with (at_builtin; refine wpList_append_own _ rfl (.tmp 110) (.tmp 112) 29 rfl (x1.heap.size + 1) 37 i0 (.agg #[.int .i64 0, .int .i64 0, .int .i64 0, .int .i64 0, .int .i64 0, .int .i64 0, .int .i64 0, .int .i64 0, .int .i64 0, .int .i64 0]) 10 80 Tryz.underlying29 hi hz0 hz1 hz2 rfl (by decide) _ _ _ rfl (own_below HZW.out (below_alloc1 _ _)) ⟨y6.heap.size, 0, none⟩ 1 1 [.int .i64 sl, .int .i64 sg, .int .i64 o, .int .i64 dk, .int .i64 0, .int .i64 0, .int .i64 ar, .int .i64 sp, .int .i64 pl, .int .i64 nn] rfl rfl (by exact HOC.out) (by intro u hu; simp at hu; rcases hu with rfl | rfl | rfl | rfl | rfl | rfl | rfl | rfl | rfl | rfl <;> rfl) (by unfold maxLen; omega) (by omega) (by simp; omega) ?_; intro v1 w1 hown1 hgrow1 hnil1; obtain ⟨la1, lc1, rfl, -, -⟩ := ownz_shape hown1; have HO1 := hide hown1; have HG1 := hide hgrow1; clear hown1 hgrow1 hnil1; have HNX := hide (HNEXT.out _ w1 _ _ HZB.out HZK.out HO1.out HG1.out); clear m0 m1 m2; have m2 : w1.cell? ⟨x1.heap.size, 2, none⟩ = some (.slice la k lc) := (by rw [cell_of_block HNX.out.2]; rfl); have mf : w1.frozen? ⟨x1.heap.size, 2, none⟩ = false := (by simp [World.frozen?, HNX.out.2]))
            go_roundw
            case rel => exact ⟨k + 1, by omega, by go_num, allN_step HALL.out HDN.out, HNX.out.1⟩
            case measure => simp [intOf]; omega
          · have hst2 : sg < st := by omega
            have HZW : Hid (y6.ownsRow (x1.heap.size + 1) 37 10 (.slice la k lc) k (flatO ((List.range k).map fun s => opQ L ⟨p0, p1, p2, q0, q1, q2, r⟩ P T D s 0))) := HW6.out
            have HZK : Hid ((y6.alloc (.cells #[.int .i64 sl, .int .i64 sg, .int .i64 o, .int .i64 dk, .int .i64 0, .int .i64 0, .int .i64 ar, .int .i64 sp, .int .i64 pl, .int .i64 nn] 37)).heap[x1.heap.size]? = some (.cells #[.int .i64 P, .int .i64 (stagesE P T (k + 1)), .slice la k lc] 31 (0, 0))) := by
              show _ = _
              rw [HSTG.out, if_neg hst, Below.heap_alloc _ _ _ (by first | exact hkz6 | simpa using hkz6)]
              exact HK6.out
            have HZB : Hid (Below x1.heap.size x1 (y6.alloc (.cells #[.int .i64 sl, .int .i64 sg, .int .i64 o, .int .i64 dk, .int .i64 0, .int .i64 0, .int .i64 ar, .int .i64 sp, .int .i64 pl, .int .i64 nn] 37))) := HBX6.out.alloc (by first | omega | (simp; omega)) _
            have HOC : Hid (∀ (j : Nat) (u : Value), [.int .i64 sl, .int .i64 sg, .int .i64 o, .int .i64 dk, .int .i64 0, .int .i64 0, .int .i64 ar, .int .i64 sp, .int .i64 pl, .int .i64 nn][j]? = some u → (y6.alloc (.cells #[.int .i64 sl, .int .i64 sg, .int .i64 o, .int .i64 dk, .int .i64 0, .int .i64 0, .int .i64 ar, .int .i64 sp, .int .i64 pl, .int .i64 nn] 37)).cell? ((⟨y6.heap.size, 0, none⟩ : Addr).add j) = some u) := by
              have h := ten_cellsE y6 #[.int .i64 sl, .int .i64 sg, .int .i64 o, .int .i64 dk, .int .i64 0, .int .i64 0, .int .i64 ar, .int .i64 sp, .int .i64 pl, .int .i64 nn] 37
              have e : y6.heap.size = y6.heap.size := by first | rfl | simp
              rw [e] at h
              exact h
            go_wp2_with (at_builtin; refine wpList_append_own _ rfl (.tmp 110) (.tmp 112) 29 rfl (x1.heap.size + 1) 37 i0 (.agg #[.int .i64 0, .int .i64 0, .int .i64 0, .int .i64 0, .int .i64 0, .int .i64 0, .int .i64 0, .int .i64 0, .int .i64 0, .int .i64 0]) 10 80 Tryz.underlying29 hi hz0 hz1 hz2 rfl (by decide) _ _ _ rfl (own_below HZW.out (below_alloc1 _ _)) ⟨y6.heap.size, 0, none⟩ 1 1 [.int .i64 sl, .int .i64 sg, .int .i64 o, .int .i64 dk, .int .i64 0, .int .i64 0, .int .i64 ar, .int .i64 sp, .int .i64 pl, .int .i64 nn] rfl rfl (by exact HOC.out) (by intro u hu; simp at hu; rcases hu with rfl | rfl | rfl | rfl | rfl | rfl | rfl | rfl | rfl | rfl <;> rfl) (by unfold maxLen; omega) (by omega) (by simp; omega) ?_; intro v1 w1 hown1 hgrow1 hnil1; obtain ⟨la1, lc1, rfl, -, -⟩ := ownz_shape hown1; have HO1 := hide hown1; have HG1 := hide hgrow1; clear hown1 hgrow1 hnil1; have HNX := hide (HNEXT.out _ w1 _ _ HZB.out HZK.out HO1.out HG1.out); clear m0 m1 m2; have m2 : w1.cell? ⟨x1.heap.size, 2, none⟩ = some (.slice la k lc) := (by rw [cell_of_block HNX.out.2]; rfl); have mf : w1.frozen? ⟨x1.heap.size, 2, none⟩ = false := (by simp [World.frozen?, HNX.out.2]))
            go_roundw
            case rel => exact ⟨k + 1, by omega, by go_num, allN_step HALL.out HDN.out, HNX.out.1⟩
            case measure => simp [intOf]; omega
    · have e : k = L.body.length := by omega
      subst e
      have hki : ¬ (L.body.length : Int) < (L.body.length : Int) := by omega
      obtain ⟨g, lc, hkb, hgx, hlc1, hlc2, hrow⟩ := hem.row (by omega)
      have HJ0 : Hid (EmJ L ⟨p0, p1, p2, q0, q1, q2, r⟩ P T D x1 g lc 0 0 wr) := ⟨hem.bel, hkb, hrow, hgx⟩
      have HDY := hide (HYES.out HALL.out)
      have HDR : Hid (∀ i, i < L.body.length → 0 ≤ nth D i ∧ nth D i ≤ r - 1) := fun i hi => inR_iff.1 (allN_get HALL.out i hi)
      have HOPS := hide (fun wr (h : EmJ L ⟨p0, p1, p2, q0, q1, q2, r⟩ P T D x1 g lc L.body.length 0 wr) => h.ops hlc1 hlc2)
      unfold maxLen at hlc2
      clear hem hkb hrow b0 b1 b2 b3 b4 hbw HEM hall HNONE HYES HXW hsw HWW
      go_wp2_with fail
      go_loopw [15] (fun iv wr => ∃ i : Nat, i ≤ L.body.length ∧ iv = .int .i64 i ∧ EmJ L ⟨p0, p1, p2, q0, q1, q2, r⟩ P T D x1 g lc i 0 wr) (fun iv _ => L.body.length - (intOf iv).toNat)
      case atStart => exact ⟨0, Nat.zero_le _, rfl, HJ0.out⟩
      case round =>
        clear HJ0
        obtain ⟨i, hi2, rfl, hj⟩ := hrel
        have HJ := hide hj
        have hxi : Below (w.heap.size + 1 + 1 + 1 + 1 + 1) (((((w.alloc (.cells #[.slice a0 L.logs.length cap0, .slice (some ⟨bb, bo, none⟩) L.body.length cap1, .slice a2 L.outs.length cap2] 25)).alloc (.cells #[.int .i64 p0, .int .i64 p1, .int .i64 p2, .int .i64 q0, .int .i64 q1, .int .i64 q2, .int .i64 r] 28)).alloc (.cells #[.int .i64 P, .slice (some ⟨tb, tz, none⟩) L.body.length tc] 49)).alloc (.cells #[.int .i64 0, .int .i64 0, .slice none 0 0] 31)).alloc (.cells #[.int .i64 0, .int .i64 0, .slice none 0 0] 31)) wr := HX1.out.trans (hj.bel.mono hzx)
        obtain ⟨b0, b1, b2, b3, b4, hzw, hbw⟩ := five_blocks hxi
        by_cases hil : i < L.body.length
        · have hii : (i : Int) < (L.body.length : Int) := by omega
          have l1 : wr.cell? ⟨w.heap.size, 1, none⟩ = some (.slice (some ⟨bb, bo, none⟩) L.body.length cap1) := by rw [cell_of_block b0]; rfl
          obtain ⟨c0, c1, c2, c3, c4, c5, c6, c7, c8⟩ := nine (fun j hj => (bcell hbw bb (bo + i * 9 + j) hbb).trans (HBO.out i hil j hj))
          have hbz : bb < wr.heap.size := by omega
          have hgz : g < wr.heap.size := RowF.lt hj.row
          have HTG : Hid (∀ y, Below wr.heap.size wr y → y.cell? ⟨w.heap.size + 1, 6, none⟩ = some (.int .i64 r)) := fun y hy => by rw [cell_of_block ((hy.block _ (by omega)).trans b1)]; rfl
          have HUSO := hide (HUO.out i hil)
          have hu2 := uses_two (stAt L.body i)
          have HNAME : Hid (∀ jj, nameE L ⟨p0, p1, p2, q0, q1, q2, r⟩ P T D i jj = (nth D (refAt (usesL (stAt L.body i)) jj).1.toNat + nth T (refAt (usesL (stAt L.body i)) jj).1.toNat / P - (refAt (usesL (stAt L.body i)) jj).2 - nth T i / P) % r) := fun jj => rfl
          have HEND3 : Hid (∀ y, EmJ L ⟨p0, p1, p2, q0, q1, q2, r⟩ P T D x1 g lc i (usesL (stAt L.body i)).length y → EmJ L ⟨p0, p1, p2, q0, q1, q2, r⟩ P T D x1 g lc (i + 1) 0 y) := fun y h => h.next
          have HUN := hide (fun W => uses_new (stAt L.body i) W)
          obtain ⟨us, hus⟩ : ∃ us, usesL (stAt L.body i) = us := ⟨_, rfl⟩
          rw [hus] at HUSO hu2 HNAME HEND3 HUN
          generalize stAt L.body i = xk at c0 c1 c2 c3 c4 c5 c6 c7 c8 HUN
          obtain ⟨o, xa, xb, ya, yb, ar, sp, pl, nn⟩ := xk
          simp only at c0 c1 c2 c3 c4 c5 c6 c7 c8
          have HUN2 : Hid (∀ W, Calls Tryz.prog 41 #[.agg #[.int .i64 o, .int .i64 xa, .int .i64 xb, .int .i64 ya, .int .i64 yb, .int .i64 ar, .int .i64 sp, .int .i64 pl, .int .i64 nn]] W fun e w' => ∃ ua uc, e = .returned (.slice ua us.length uc) ∧ RefsV w' (.slice ua us.length uc) us ∧ (∀ b o, ua = some ⟨b, o, none⟩ → W.heap.size ≤ b) ∧ Below W.heap.size W w') := fun W => HUN.out W
          clear HUN hus b0 b1 b2 b3 b4 hj hbw hxi
          go_wp2_with fail
          refine (HUN2.out _).mono ?_
          rintro e x2 ⟨ua, uc, rfl, hrefs, hfresh, hb2⟩
          have HJ2 := hide (HJ.out.below hb2)
          have HRF := hide hrefs
          have HNG : Hid (∀ b o, ua = some ⟨b, o, none⟩ → b ≠ g) := fun b o h => by have := hfresh b o h; omega
          have HT2 : Hid (∀ y, Below x1.heap.size x1 y → y.cell? ⟨w.heap.size + 1, 6, none⟩ = some (.int .i64 r)) := fun y hy => by
            obtain ⟨-, b1, -⟩ := five_blocks (HX1.out.trans (hy.mono hzx))
            rw [cell_of_block b1]; rfl
          clear c0 c1 c2 c3 c4 c5 c6 c7 c8 l1 hrefs hfresh hb2 HUN2 HTG HJ
          go_wp2_with fail
          rename World => wo
          go_loopw [17] (fun jv wr => ∃ j : Nat, j ≤ us.length ∧ jv = .int .i64 j ∧ EmJ L ⟨p0, p1, p2, q0, q1, q2, r⟩ P T D x1 g lc i j wr ∧ RefsV wr (.slice ua us.length uc) us) (fun jv _ => us.length - (intOf jv).toNat)
          case atStart => exact ⟨0, Nat.zero_le _, rfl, HJ2.out, HRF.out⟩
          case round =>
            clear HJ2 HRF
            obtain ⟨j, hj2, rfl, hj, hrf⟩ := hrel
            have HJ := hide hj
            have HRF := hide hrf
            by_cases hjl : j < us.length
            · have hji : (j : Int) < (us.length : Int) := by omega
              obtain ⟨ua', uc', hsv, hul, hum, hucell⟩ := hrf
              injection hsv with hsv1 hsv2 hsv3
              subst hsv1; subst hsv3
              obtain ⟨ub, uo, rfl, hubz, huc⟩ := hucell (by omega)
              obtain ⟨u1, u2⟩ := huc j hjl
              have hug := HNG.out ub uo rfl
              unfold maxLen at hum
              have hin : refAt us j ∈ us := by unfold refAt; rw [List.getD, List.getElem?_eq_getElem hjl]; exact List.getElem_mem _
              obtain ⟨ha1, ha2, hr1, hr2⟩ := HUSO.out _ hin
              obtain ⟨an, han⟩ : ∃ an : Nat, (refAt us j).1 = (an : Int) := ⟨(refAt us j).1.toNat, by omega⟩
              have HNM := hide (HNAME.out j)
              rw [han] at u1 ha2 HNM
              rw [Int.toNat_natCast] at HNM
              obtain ⟨rbk, hrbk⟩ : ∃ rbk, (refAt us j).2 = rbk := ⟨_, rfl⟩
              rw [hrbk] at u2 hr1 hr2 HNM
              have hanl : an < L.body.length := by omega
              obtain ⟨x0, x1c, x2c, x3c, x4c, x5c, x6c, x7c, x8c, x9c⟩ := ten (hj.row.cells hanl)
              obtain ⟨hs1, hs2⟩ := opsJ_same (L := L) (t := ⟨p0, p1, p2, q0, q1, q2, r⟩) (P := P) (T := T) (D := D) i j an
              obtain ⟨i0c, i1c, i2c, i3c, i4c, i5c, i6c, i7c, i8c, i9c⟩ := ten (hj.row.cells hil)
              obtain ⟨hi1, -⟩ := opsJ_same (L := L) (t := ⟨p0, p1, p2, q0, q1, q2, r⟩) (P := P) (T := T) (D := D) i j i
              have hd := HDR.out an hanl
              have hta := HTR.out an hanl
              have htb2 := HTR.out i hil
              have hsa0 := Int.ediv_nonneg hta.1 (show 0 ≤ P by omega)
              have hsa1 : nth T an / P ≤ 1000 := Int.le_trans (Int.ediv_le_self _ hta.1) hta.2
              have hsi0 := Int.ediv_nonneg htb2.1 (show 0 ≤ P by omega)
              have hsi1 : nth T i / P ≤ 1000 := Int.le_trans (Int.ediv_le_self _ htb2.1) htb2.2
              rw [← hs2, ← hs1, ← hi1] at HNM
              rw [← hs2] at hd
              rw [← hs1] at hsa0 hsa1
              rw [← hi1] at hsi0 hsi1
              rw [hi1] at i1c hsi0 hsi1 HNM
              generalize opsJ L ⟨p0, p1, p2, q0, q1, q2, r⟩ P T D i j an = xo at x0 x1c x2c x3c x4c x5c x6c x7c x8c x9c hd hsa0 hsa1 HNM
              obtain ⟨xo0, xo1, xo2, xo3, xo4, xo5, xo6, xo7, xo8, xo9⟩ := xo
              simp only at x0 x1c x2c x3c x4c x5c x6c x7c x8c x9c hd hsa0 hsa1 HNM
              obtain ⟨si, hsi⟩ : ∃ si, nth T i / P = si := ⟨_, rfl⟩
              rw [hsi] at i1c hsi0 hsi1 HNM
              have HI45 : Hid (∀ y, Below wr.heap.size wr y → (∃ a4, y.cell? ⟨g, i * 10 + 4, none⟩ = some (.int .i64 a4)) ∧ (∃ a5, y.cell? ⟨g, i * 10 + 5, none⟩ = some (.int .i64 a5)) ∧ y.frozen? ⟨g, i * 10 + 4, none⟩ = false ∧ y.frozen? ⟨g, i * 10 + 5, none⟩ = false) := fun y hy => by
                have h := (hj.below hy).row
                obtain ⟨-, -, -, -, k4, k5, -⟩ := ten (h.cells hil)
                exact ⟨⟨_, k4⟩, ⟨_, k5⟩, RowF.frozen h _, RowF.frozen h _⟩
              have hk2 : wr.cell? ⟨x1.heap.size, 2, none⟩ = some (.slice (some ⟨g, 0, none⟩) L.body.length lc) := by rw [cell_of_block hj.blk]; rfl
              have hgz2 : g < wr.heap.size := RowF.lt hj.row
              have hkz2 := hj.lt
              have hani : (an : Int) < (L.body.length : Int) := by omega
              have HS24 : Hid (∀ y, Below wr.heap.size wr y → (y.cell? ⟨x1.heap.size, 2, none⟩ = some (.slice (some ⟨g, 0, none⟩) L.body.length lc) ∧ y.cell? ⟨ub, uo + j * 2, none⟩ = some (.int .i64 an)) ∧ (y.cell? ⟨g, an * 10, none⟩ = some (.int .i64 xo0) ∧ y.cell? ⟨g, an * 10 + 1, none⟩ = some (.int .i64 xo1) ∧ y.cell? ⟨g, an * 10 + 2, none⟩ = some (.int .i64 xo2) ∧ y.cell? ⟨g, an * 10 + 3, none⟩ = some (.int .i64 xo3) ∧ y.cell? ⟨g, an * 10 + 4, none⟩ = some (.int .i64 xo4) ∧ y.cell? ⟨g, an * 10 + 5, none⟩ = some (.int .i64 xo5) ∧ y.cell? ⟨g, an * 10 + 6, none⟩ = some (.int .i64 xo6) ∧ y.cell? ⟨g, an * 10 + 7, none⟩ = some (.int .i64 xo7) ∧ y.cell? ⟨g, an * 10 + 8, none⟩ = some (.int .i64 xo8) ∧ y.cell? ⟨g, an * 10 + 9, none⟩ = some (.int .i64 xo9))) := fun y hy => ⟨⟨(bcell hy _ _ hkz2).trans hk2, (bcell hy _ _ hubz).trans u1⟩, (bcell hy _ _ hgz2).trans x0, (bcell hy _ _ hgz2).trans x1c, (bcell hy _ _ hgz2).trans x2c, (bcell hy _ _ hgz2).trans x3c, (bcell hy _ _ hgz2).trans x4c, (bcell hy _ _ hgz2).trans x5c, (bcell hy _ _ hgz2).trans x6c, (bcell hy _ _ hgz2).trans x7c, (bcell hy _ _ hgz2).trans x8c, (bcell hy _ _ hgz2).trans x9c⟩
              have HS25 : Hid (∀ y, Below wr.heap.size wr y → y.cell? ⟨ub, uo + j * 2 + 1, none⟩ = some (.int .i64 rbk) ∧ y.cell? ⟨x1.heap.size, 2, none⟩ = some (.slice (some ⟨g, 0, none⟩) L.body.length lc) ∧ y.cell? ⟨g, i * 10 + 1, none⟩ = some (.int .i64 si) ∧ y.cell? ⟨w.heap.size + 1, 6, none⟩ = some (.int .i64 r)) := fun y hy => ⟨(bcell hy _ _ hubz).trans u2, (bcell hy _ _ hkz2).trans hk2, (bcell hy _ _ hgz2).trans i1c, HT2.out y (hj.bel.trans (hy.mono (Nat.le_of_lt hkz2)))⟩
              have HRS := hide (fun W => rest_any (xo3 + xo1 - rbk - si) r W (by omega) (by omega) (by omega) (by omega))
              rw [← HNM.out] at HRS
              have HRFS : Hid (∀ y c v, Below wr.heap.size wr y → RefsV (y.setCell ⟨g, c, none⟩ v) (.slice (some ⟨ub, uo, none⟩) us.length uc) us) := fun y c v hy => refs_set (HRF.out.below hy) (fun b o e => by injection e with e; injection e with e; omega) c v
              have hwa : IntKind.i64.wrap (xo3 + xo1) = xo3 + xo1 := i64_wrap _ (by omega) (by omega)
              have hwb : IntKind.i64.wrap (xo3 + xo1 - rbk) = xo3 + xo1 - rbk := i64_wrap _ (by omega) (by omega)
              have hwc : IntKind.i64.wrap (xo3 + xo1 - rbk - si) = xo3 + xo1 - rbk - si := i64_wrap _ (by omega) (by omega)
              obtain ⟨nm, hnm⟩ : ∃ nm, nameE L ⟨p0, p1, p2, q0, q1, q2, r⟩ P T D i j = nm := ⟨_, rfl⟩
              rw [hnm] at HRS
              have HNMX := hide hnm
              have HBD : Hid (Below wr.heap.size wr wr.drew) := below_dr1 _ _
              clear x0 x1c x2c x3c x4c x5c x6c x7c x8c x9c i0c i1c i2c i3c i4c i5c i6c i7c i8c i9c u1 u2 hk2 hin han hrbk huc hucell hsi hnm hj hs1 hs2 hi1 hta htb2 HNM
              go_wp2_with fail
              refine wp_region_noPanic ?_
              refine region_until 10 (fun w' => (w'.cell? ⟨x1.heap.size, 2, none⟩ = some (.slice (some ⟨g, 0, none⟩) L.body.length lc) ∧ w'.cell? ⟨ub, uo + j * 2, none⟩ = some (.int .i64 an)) ∧ (w'.cell? ⟨g, an * 10, none⟩ = some (.int .i64 xo0) ∧ w'.cell? ⟨g, an * 10 + 1, none⟩ = some (.int .i64 xo1) ∧ w'.cell? ⟨g, an * 10 + 2, none⟩ = some (.int .i64 xo2) ∧ w'.cell? ⟨g, an * 10 + 3, none⟩ = some (.int .i64 xo3) ∧ w'.cell? ⟨g, an * 10 + 4, none⟩ = some (.int .i64 xo4) ∧ w'.cell? ⟨g, an * 10 + 5, none⟩ = some (.int .i64 xo5) ∧ w'.cell? ⟨g, an * 10 + 6, none⟩ = some (.int .i64 xo6) ∧ w'.cell? ⟨g, an * 10 + 7, none⟩ = some (.int .i64 xo7) ∧ w'.cell? ⟨g, an * 10 + 8, none⟩ = some (.int .i64 xo8) ∧ w'.cell? ⟨g, an * 10 + 9, none⟩ = some (.int .i64 xo9))) (by kernel_rfl) (HS24.out _ HBD.out) (fun hHeld => ?_)
              generalize wr.drew = y1 at *
              refine utk (i := 0) rfl hHeld ?_
              try simp only [Act.put, List.setIfInBounds_toArray, List.set_cons_zero, List.set_cons_succ]
              refine utk (i := 1) rfl hHeld ?_
              try simp only [Act.put, List.setIfInBounds_toArray, List.set_cons_zero, List.set_cons_succ]
              refine utk (i := 2) rfl hHeld ?_
              try simp only [Act.put, List.setIfInBounds_toArray, List.set_cons_zero, List.set_cons_succ]
              refine utk (i := 3) rfl hHeld ?_
              try simp only [Act.put, List.setIfInBounds_toArray, List.set_cons_zero, List.set_cons_succ]
              refine utk (i := 4) rfl hHeld ?_
              try simp only [Act.put, List.setIfInBounds_toArray, List.set_cons_zero, List.set_cons_succ]
              refine utk (i := 5) rfl hHeld ?_
              try simp only [Act.put, List.setIfInBounds_toArray, List.set_cons_zero, List.set_cons_succ]
              refine utk (i := 6) rfl hHeld ?_
              try simp only [Act.put, List.setIfInBounds_toArray, List.set_cons_zero, List.set_cons_succ]
              refine utk (i := 7) rfl hHeld ?_
              try simp only [Act.put, List.setIfInBounds_toArray, List.set_cons_zero, List.set_cons_succ]
              refine utk (i := 8) rfl hHeld ?_
              try simp only [Act.put, List.setIfInBounds_toArray, List.set_cons_zero, List.set_cons_succ]
              have hHeld2 := HS24.out _ (HBD.out.alloc HBD.out.size (.cells #[.int .i64 0, .int .i64 0, .int .i64 0, .int .i64 0, .int .i64 0, .int .i64 0, .int .i64 0, .int .i64 0, .int .i64 0, .int .i64 0] 37))
              refine until_one (i := 9) rfl (by kernel_rfl) (fun K hK => ?_)
              go_simp
              refine hK.out _ _ (.inr hHeld2) ?_
              clear hK K
              try simp only [Act.put, List.setIfInBounds_toArray, List.set_cons_zero, List.set_cons_succ]
              refine until_one (i := 10) rfl (by kernel_rfl) (fun K hK => ?_)
              go_simp
              refine hK.out _ _ (.inl rfl) ?_
              clear hK K
              try simp only [Act.put, List.setIfInBounds_toArray, List.set_cons_zero, List.set_cons_succ]
              refine until_done (by kernel_rfl) ?_ _
              refine NoPanic.normal ?_
              clear hHeld hHeld2
              have HO2 : Hid (∀ y, Below (y1.alloc (.cells #[.int .i64 xo0, .int .i64 xo1, .int .i64 xo2, .int .i64 xo3, .int .i64 xo4, .int .i64 xo5, .int .i64 xo6, .int .i64 xo7, .int .i64 xo8, .int .i64 xo9] 37)).heap.size (y1.alloc (.cells #[.int .i64 xo0, .int .i64 xo1, .int .i64 xo2, .int .i64 xo3, .int .i64 xo4, .int .i64 xo5, .int .i64 xo6, .int .i64 xo7, .int .i64 xo8, .int .i64 xo9] 37)) y → y.cell? ⟨y1.heap.size, 3, none⟩ = some (.int .i64 xo3) ∧ y.cell? ⟨y1.heap.size, 1, none⟩ = some (.int .i64 xo1)) := fun y hy => by
                have hb := (hy.block y1.heap.size (by simp)).trans (new_blkS y1 #[.int .i64 xo0, .int .i64 xo1, .int .i64 xo2, .int .i64 xo3, .int .i64 xo4, .int .i64 xo5, .int .i64 xo6, .int .i64 xo7, .int .i64 xo8, .int .i64 xo9] 37)
                exact ⟨by rw [cell_of_block hb]; rfl, by rw [cell_of_block hb]; rfl⟩
              have HB2 : Hid (Below wr.heap.size wr (y1.alloc (.cells #[.int .i64 xo0, .int .i64 xo1, .int .i64 xo2, .int .i64 xo3, .int .i64 xo4, .int .i64 xo5, .int .i64 xo6, .int .i64 xo7, .int .i64 xo8, .int .i64 xo9] 37))) := HBD.out.alloc HBD.out.size _
              clear HBD
              generalize (y1.alloc (.cells #[.int .i64 xo0, .int .i64 xo1, .int .i64 xo2, .int .i64 xo3, .int .i64 xo4, .int .i64 xo5, .int .i64 xo6, .int .i64 xo7, .int .i64 xo8, .int .i64 xo9] 37)) = y2 at *
              generalize y1.heap.size = ab at *
              go_wp2_with fail
              have HB3 : Hid (Below wr.heap.size wr y2.drew) := HB2.out.trans (below_dr1 _ _)
              have H25 : Hid ((y2.drew.cell? ⟨ab, 3, none⟩ = some (.int .i64 xo3) ∧ y2.drew.cell? ⟨ab, 1, none⟩ = some (.int .i64 xo1)) ∧ y2.drew.cell? ⟨ub, uo + j * 2 + 1, none⟩ = some (.int .i64 rbk) ∧ y2.drew.cell? ⟨x1.heap.size, 2, none⟩ = some (.slice (some ⟨g, 0, none⟩) L.body.length lc) ∧ y2.drew.cell? ⟨g, i * 10 + 1, none⟩ = some (.int .i64 si) ∧ y2.drew.cell? ⟨w.heap.size + 1, 6, none⟩ = some (.int .i64 r)) := ⟨HO2.out _ (below_dr1 _ _), HS25.out _ HB3.out⟩
              refine wp_region_noPanic ?_
              refine region_until 99 (fun w' => (w'.cell? ⟨ab, 3, none⟩ = some (.int .i64 xo3) ∧ w'.cell? ⟨ab, 1, none⟩ = some (.int .i64 xo1)) ∧ w'.cell? ⟨ub, uo + j * 2 + 1, none⟩ = some (.int .i64 rbk) ∧ w'.cell? ⟨x1.heap.size, 2, none⟩ = some (.slice (some ⟨g, 0, none⟩) L.body.length lc) ∧ w'.cell? ⟨g, i * 10 + 1, none⟩ = some (.int .i64 si) ∧ w'.cell? ⟨w.heap.size + 1, 6, none⟩ = some (.int .i64 r)) (by kernel_rfl) H25.out (fun hHeld => ?_)
              generalize y2.drew = y3 at *
              refine utk (i := 0) rfl hHeld ?_
              try simp only [Act.put, List.setIfInBounds_toArray, List.set_cons_zero, List.set_cons_succ]
              refine utk (i := 1) rfl hHeld ?_
              try simp only [Act.put, List.setIfInBounds_toArray, List.set_cons_zero, List.set_cons_succ]
              refine utk (i := 2) rfl hHeld ?_
              try simp only [Act.put, List.setIfInBounds_toArray, List.set_cons_zero, List.set_cons_succ]
              refine utk (i := 3) rfl hHeld ?_
              try simp only [Act.put, List.setIfInBounds_toArray, List.set_cons_zero, List.set_cons_succ]
              refine utk (i := 4) rfl hHeld ?_
              try simp only [Act.put, List.setIfInBounds_toArray, List.set_cons_zero, List.set_cons_succ]
              refine utk (i := 5) rfl hHeld ?_
              try simp only [Act.put, List.setIfInBounds_toArray, List.set_cons_zero, List.set_cons_succ]
              refine utk (i := 6) rfl hHeld ?_
              try simp only [Act.put, List.setIfInBounds_toArray, List.set_cons_zero, List.set_cons_succ]
              refine utk (i := 7) rfl hHeld ?_
              try simp only [Act.put, List.setIfInBounds_toArray, List.set_cons_zero, List.set_cons_succ]
              refine utk (i := 8) rfl hHeld ?_
              try simp only [Act.put, List.setIfInBounds_toArray, List.set_cons_zero, List.set_cons_succ]
              refine utk (i := 9) rfl hHeld ?_
              try simp only [Act.put, List.setIfInBounds_toArray, List.set_cons_zero, List.set_cons_succ]
              refine utk (i := 10) rfl hHeld ?_
              try simp only [Act.put, List.setIfInBounds_toArray, List.set_cons_zero, List.set_cons_succ]
              refine utk (i := 11) rfl hHeld ?_
              try simp only [Act.put, List.setIfInBounds_toArray, List.set_cons_zero, List.set_cons_succ]
              refine utk (i := 12) rfl hHeld ?_
              try simp only [Act.put, List.setIfInBounds_toArray, List.set_cons_zero, List.set_cons_succ]
              refine utk (i := 13) rfl hHeld ?_
              try simp only [Act.put, List.setIfInBounds_toArray, List.set_cons_zero, List.set_cons_succ]
              refine utk (i := 14) rfl hHeld ?_
              try simp only [Act.put, List.setIfInBounds_toArray, List.set_cons_zero, List.set_cons_succ]
              refine utk (i := 15) rfl hHeld ?_
              try simp only [Act.put, List.setIfInBounds_toArray, List.set_cons_zero, List.set_cons_succ]
              refine utk (i := 16) rfl hHeld ?_
              try simp only [Act.put, List.setIfInBounds_toArray, List.set_cons_zero, List.set_cons_succ]
              refine utk (i := 17) rfl hHeld ?_
              try simp only [Act.put, List.setIfInBounds_toArray, List.set_cons_zero, List.set_cons_succ]
              refine utk (i := 18) rfl hHeld ?_
              try simp only [Act.put, List.setIfInBounds_toArray, List.set_cons_zero, List.set_cons_succ]
              refine utk (i := 19) rfl hHeld ?_
              try simp only [Act.put, List.setIfInBounds_toArray, List.set_cons_zero, List.set_cons_succ]
              refine until_one (i := 20) rfl (by kernel_rfl) (fun K hK => ?_)
              go_simp
              refine (HRS.out _).mono ?_
              rintro e w' ⟨rfl, hw'⟩
              have hw' := hw'.symm; subst hw'
              refine hK.out _ _ (.inr hHeld) ?_
              clear hK K
              try simp only [Act.put, List.setIfInBounds_toArray, List.set_cons_zero, List.set_cons_succ]
              refine until_one (i := 21) rfl (by kernel_rfl) (fun K hK => ?_)
              go_simp
              refine hK.out _ _ (.inr hHeld) ?_
              clear hK K
              try simp only [Act.put, List.setIfInBounds_toArray, List.set_cons_zero, List.set_cons_succ]
              refine until_done (by kernel_rfl) ?_ _
              refine NoPanic.normal ?_
              obtain ⟨⟨a4, k4⟩, ⟨a5, k5⟩, g4, g5⟩ := HI45.out _ HB3.out
              have hk3 := (HS25.out _ HB3.out).2.1
              have HJ3 := hide (HJ.out.below HB3.out)
              have hgz3 : g < y3.heap.size := RowF.lt HJ3.out.row
              clear hHeld H25
              by_cases hj0 : j = 0
              · have hj0b : ((j : Int) == 0) = true := by rw [hj0]; rfl
                have HF : Hid (EmJ L ⟨p0, p1, p2, q0, q1, q2, r⟩ P T D x1 g lc i (j + 1) (y3.setCell ⟨g, i * 10 + 4, none⟩ (.int .i64 nm))) := by
                  have h := HJ3.out
                  have h2 := HNMX.out
                  rw [hj0] at h h2 ⊢
                  have h3 := h.setA hil
                  rw [h2] at h3
                  exact h3
                have HG := hide (HRFS.out y3 (i * 10 + 4) (.int .i64 nm) HB3.out)
                go_wp2_with fail
                go_roundw
                case rel => exact ⟨j + 1, by omega, by go_num, HF.out, HG.out⟩
                case measure => simp [intOf]; omega
              · have hj0b : ((j : Int) == 0) = false := beq_false_of_ne (by omega)
                have hj0i : ¬ (j : Int) = 0 := by omega
                have HF : Hid (EmJ L ⟨p0, p1, p2, q0, q1, q2, r⟩ P T D x1 g lc i (j + 1) (y3.setCell ⟨g, i * 10 + 5, none⟩ (.int .i64 nm))) := by
                  have h3 := HJ3.out.setB hil (by omega) (by omega)
                  rw [HNMX.out] at h3
                  exact h3
                have HG := hide (HRFS.out y3 (i * 10 + 5) (.int .i64 nm) HB3.out)
                go_wp2_with fail
                go_roundw
                case rel => exact ⟨j + 1, by omega, by go_num, HF.out, HG.out⟩
                case measure => simp [intOf]; omega
            · have e : j = us.length := by omega
              subst e
              have hji : ¬ (us.length : Int) < (us.length : Int) := by omega
              have HF := hide (HEND3.out wr HJ.out)
              clear hj hrf
              go_wp2_with fail
              go_roundw
              case rel => exact ⟨i + 1, by omega, by go_num, HF.out⟩
              case measure => simp [intOf]; omega
        · have e : i = L.body.length := by omega
          subst e
          have hii : ¬ (L.body.length : Int) < (L.body.length : Int) := by omega
          have m0 : wr.cell? ⟨x1.heap.size, 0, none⟩ = some (.int .i64 P) := by rw [cell_of_block hj.blk]; rfl
          have m1 : wr.cell? ⟨x1.heap.size, 1, none⟩ = some (.int .i64 (stagesE P T L.body.length)) := by rw [cell_of_block hj.blk]; rfl
          have m2 : wr.cell? ⟨x1.heap.size, 2, none⟩ = some (.slice (some ⟨g, 0, none⟩) L.body.length lc) := by rw [cell_of_block hj.blk]; rfl
          have k0 : wr.cell? ⟨(w.heap.size + 1 + 1 + 1), 0, none⟩ = some (.int .i64 0) := by rw [cell_of_block b3]; rfl
          have k1 : wr.cell? ⟨(w.heap.size + 1 + 1 + 1), 1, none⟩ = some (.int .i64 0) := by rw [cell_of_block b3]; rfl
          have k2 : wr.cell? ⟨(w.heap.size + 1 + 1 + 1), 2, none⟩ = some (.slice none 0 0) := by rw [cell_of_block b3]; rfl
          have f0 : wr.frozen? ⟨(w.heap.size + 1 + 1 + 1), 0, none⟩ = false := by simp [World.frozen?, b3]
          have f1 : wr.frozen? ⟨(w.heap.size + 1 + 1 + 1), 1, none⟩ = false := by simp [World.frozen?, b3]
          have f2 : wr.frozen? ⟨(w.heap.size + 1 + 1 + 1), 2, none⟩ = false := by simp [World.frozen?, b3]
          have HT := hide (triple_set (a' := .int .i64 P) (b' := .int .i64 (stagesE P T L.body.length)) (d' := .slice (some ⟨g, 0, none⟩) L.body.length lc) b3)
          have hO := HOPS.out wr hj
          obtain ⟨hek, hec⟩ := HDY.out
          have HF : Hid (EmitPost L ⟨p0, p1, p2, q0, q1, q2, r⟩ P T D w (.returned (.tuple #[.agg #[.int .i64 P, .int .i64 (stagesE P T L.body.length), .slice (some ⟨g, 0, none⟩) L.body.length lc], .int .i64 0])) (((wr.setCell ⟨(w.heap.size + 1 + 1 + 1), 0, none⟩ (.int .i64 P)).setCell ⟨(w.heap.size + 1 + 1 + 1), 1, none⟩ (.int .i64 (stagesE P T L.body.length))).setCell ⟨(w.heap.size + 1 + 1 + 1), 2, none⟩ (.slice (some ⟨g, 0, none⟩) L.body.length lc))) := by
            refine ⟨((hbw.setCell (by show w.heap.size ≤ (w.heap.size + 1 + 1 + 1); omega) _).setCell (by show w.heap.size ≤ (w.heap.size + 1 + 1 + 1); omega) _).setCell (by show w.heap.size ≤ (w.heap.size + 1 + 1 + 1); omega) _, P, stagesE P T L.body.length, _, by rw [hec], ?_⟩
            rw [hek]
            exact ⟨_, rfl, ops_set (ops_set (ops_set hO (show (w.heap.size + 1 + 1 + 1) ≠ g by omega) 0 _) (show (w.heap.size + 1 + 1 + 1) ≠ g by omega) 1 _) (show (w.heap.size + 1 + 1 + 1) ≠ g by omega) 2 _⟩
          obtain ⟨stn, hstn⟩ : ∃ stn, stagesE P T L.body.length = stn := ⟨_, rfl⟩
          rw [hstn] at m1 HT HF
          clear hO b0 b1 b2 b3 b4 hj hbw hxi hek hec hstn
          go_wp2_with fail
          have s0 : (((wr.setCell ⟨(w.heap.size + 1 + 1 + 1), 0, none⟩ (.int .i64 P)).setCell ⟨(w.heap.size + 1 + 1 + 1), 1, none⟩ (.int .i64 stn)).setCell ⟨(w.heap.size + 1 + 1 + 1), 2, none⟩ (.slice (some ⟨g, 0, none⟩) L.body.length lc)).cell? ⟨(w.heap.size + 1 + 1 + 1), 0, none⟩ = some (.int .i64 P) := by rw [cell_of_block HT.out]; rfl
          have s1 : (((wr.setCell ⟨(w.heap.size + 1 + 1 + 1), 0, none⟩ (.int .i64 P)).setCell ⟨(w.heap.size + 1 + 1 + 1), 1, none⟩ (.int .i64 stn)).setCell ⟨(w.heap.size + 1 + 1 + 1), 2, none⟩ (.slice (some ⟨g, 0, none⟩) L.body.length lc)).cell? ⟨(w.heap.size + 1 + 1 + 1), 1, none⟩ = some (.int .i64 stn) := by rw [cell_of_block HT.out]; rfl
          have s2 : (((wr.setCell ⟨(w.heap.size + 1 + 1 + 1), 0, none⟩ (.int .i64 P)).setCell ⟨(w.heap.size + 1 + 1 + 1), 1, none⟩ (.int .i64 stn)).setCell ⟨(w.heap.size + 1 + 1 + 1), 2, none⟩ (.slice (some ⟨g, 0, none⟩) L.body.length lc)).cell? ⟨(w.heap.size + 1 + 1 + 1), 2, none⟩ = some (.slice (some ⟨g, 0, none⟩) L.body.length lc) := by rw [cell_of_block HT.out]; rfl
          exact bodyPost_ret (v := .tuple #[.agg #[.int .i64 P, .int .i64 stn, .slice (some ⟨g, 0, none⟩) L.body.length lc], .int .i64 0]) (by simp [results, Tryz.results14, go_sem, s0, s1, s2]) rfl HF.out

theorem emitRef_all : EmitRefC := by
  intro v pv dv t L P T D w hL hP hD
  obtain ⟨p0, p1, p2, q0, q1, q2, r⟩ := t
  have hL' := hL
  obtain ⟨v0, v1, v2, rfl, ⟨a0, cap0, rfl, -⟩, ⟨a1, cap1, rfl, h1, h2, h3⟩, ⟨a2, cap2, rfl, -, -, -, -⟩⟩ := hL'
  have hP' := hP
  obtain ⟨tv, rfl, ⟨ta, tc, rfl, k1, k2, k3, k4⟩⟩ := hP'
  have hD' := hD
  obtain ⟨da, dc, rfl, d1, d2, d3, d4⟩ := hD'
  cases hleg : legalD L ⟨p0, p1, p2, q0, q1, q2, r⟩ P T with
  | false => exact emit_no p0 p1 p2 q0 q1 q2 r L a0 a1 a2 cap0 cap1 cap2 P T D ta da tc dc w hL hP (.inl hleg)
  | true =>
    by_cases hlen : D.length = L.body.length
    · obtain ⟨hm, -, -, -, hTn, -, -⟩ := legal_parts hleg
      have hb1 := (may_parts hm).2.1
      obtain ⟨bb, bo, rfl, hbb, hbody⟩ := h3 (by omega)
      obtain ⟨tb, tz, rfl, htb, htimes⟩ := k4 (by omega)
      obtain ⟨db, dz, rfl, hdb, hdests⟩ := d4 (by omega)
      unfold maxLen at h2 k2 d2
      rw [hTn] at hP htimes k1 ⊢
      rw [hlen] at hdests d1 ⊢
      exact emit_yes p0 p1 p2 q0 q1 q2 r L a0 a2 bb bo cap0 cap1 cap2 P T D tb tz tc db dz dc w hL hP hleg hlen hbb h1 (by omega) hbody htb k1 (by omega) htimes hdb d1 (by omega) hdests
    · exact emit_no p0 p1 p2 q0 q1 q2 r L a0 a1 a2 cap0 cap1 cap2 P T D ta da tc dc w hL hP (.inr ⟨hleg, hlen⟩)
end Go.Proofs.YtghlcmljgpkjiabGreat
