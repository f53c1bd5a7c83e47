/- Package emit's Emit answers as EmitSayC says, if sched's Legal answers as SLegalC says. -/
import Derived.Test.YtkpkpaobhnhgpabEmitReads
import Derived.Test.YtkpkpaobhnhgpabRef11Emit
import Derived.Test.YtkpkpaobhnhgpabSchedLegal
namespace Go.Proofs.Ytkpkpaobhnhgpab
open Go.RowKit Go.Joins
set_option linter.unusedVariables false
set_option linter.unusedSimpArgs false
set_option maxRecDepth 8192

theorem four_blocks {w y : World} {lv tv pv : Array Value} (h : Below (w.heap.size + 1 + 1 + 1 + 1) ((((w.alloc (.cells lv 25)).alloc (.cells tv 28)).alloc (.cells pv 30)).alloc (.cells #[.int .i64 0, .int .i64 0, .slice none 0 0] 40)) y) :
    y.heap[w.heap.size]? = some (.cells lv 25 (0, 0)) ∧ y.heap[w.heap.size + 1]? = some (.cells tv 28 (0, 0)) ∧ y.heap[w.heap.size + 1 + 1]? = some (.cells pv 30 (0, 0)) ∧ y.heap[(w.heap.size + 1 + 1 + 1)]? = some (.cells #[.int .i64 0, .int .i64 0, .slice none 0 0] 40 (0, 0)) ∧ (w.heap.size + 1 + 1 + 1 + 1) ≤ y.heap.size ∧ Below w.heap.size w y := by
  have z1 : (w.alloc (.cells lv 25)).heap.size = w.heap.size + 1 := by simp
  have z2 : ((w.alloc (.cells lv 25)).alloc (.cells tv 28)).heap.size = w.heap.size + 1 + 1 := by simp
  have z3 : (((w.alloc (.cells lv 25)).alloc (.cells tv 28)).alloc (.cells pv 30)).heap.size = w.heap.size + 1 + 1 + 1 := by simp
  have z4 : ((((w.alloc (.cells lv 25)).alloc (.cells tv 28)).alloc (.cells pv 30)).alloc (.cells #[.int .i64 0, .int .i64 0, .slice none 0 0] 40)).heap.size = (w.heap.size + 1 + 1 + 1 + 1) := by simp
  have hz := h.size
  rw [z4] at hz
  refine ⟨?_, ?_, ?_, ?_, hz, ?_⟩
  · rw [h.block _ (by omega), Below.heap_alloc _ _ _ (by rw [z3]; omega), Below.heap_alloc _ _ _ (by rw [z2]; omega), Below.heap_alloc _ _ _ (by rw [z1]; omega)]; exact new_blkS _ _ _
  · rw [h.block _ (by omega), Below.heap_alloc _ _ _ (by rw [z3]; omega), Below.heap_alloc _ _ _ (by rw [z2]; omega), ← z1]; exact new_blkS _ _ _
  · rw [h.block _ (by omega), Below.heap_alloc _ _ _ (by rw [z3]; omega), ← z2]; exact new_blkS _ _ _
  · rw [h.block _ (by omega), ← z3]; exact new_blkS _ _ _
  · exact ((below_alloc3 _ _ _ _).trans ((below_alloc1 _ _).mono (by rw [z3]; omega))).trans (h.mono (by omega))
/-- one Op more, and then the Stages -/
theorem EmI.next2 {L : Lp} {t : Tg} {P : Int} {T D : List Int} {x1 wr y w1 : World} {k : Nat} {la la' : Option Addr} {lc lc' : Nat} {st : Int} (ho : wr.ownsRow (x1.heap.size + 1) 93 10 (.slice la k lc) k (flatO ((List.range k).map fun s => opQ L t P T D s 0))) (hbx : Below x1.heap.size x1 y) (hy : y.heap[x1.heap.size]? = some (.cells #[.int .i64 P, .int .i64 st, .slice la k lc] 40 (0, 0)))
    (ho1 : w1.ownsRow (x1.heap.size + 1) 93 10 (.slice la' (k + 1) lc') (k + 1) (flatO ((List.range k).map fun s => opQ L t P T D s 0) ++ (kCells (opQ L t P T D k 0)).toList)) (hg : y.grownBy w1 (Value.ownBlock (.slice la k lc))) :
    EmI L t P T D x1 (k + 1) ((w1.setCell ⟨x1.heap.size, 2, none⟩ (.slice la' (k + 1) lc')).setCell ⟨x1.heap.size, 1, none⟩ (.int .i64 (stagesE P T (k + 1)))) ∧ w1.heap[x1.heap.size]? = some (.cells #[.int .i64 P, .int .i64 st, .slice la k lc] 40 (0, 0)) := by
  have hge := ownz_block_ge ho
  have hyz : x1.heap.size < y.heap.size := (Array.getElem?_eq_some_iff.1 hy).1
  have hb1 : w1.heap[x1.heap.size]? = some (.cells #[.int .i64 P, .int .i64 st, .slice la k lc] 40 (0, 0)) := by
    rw [hg.block _ hyz (fun e => by have := hge _ e.symm; omega)]; exact hy
  refine ⟨⟨((hbx.grown hg (Nat.le_of_lt hyz) fun q hq => by have := hge q hq; omega).setCell (Nat.le_refl _) _).setCell (Nat.le_refl _) _, la', lc', ?_, ?_⟩, hb1⟩
  · simp [World.setCell, Array.getElem?_modify, hb1]
  · have e : flatO ((List.range k).map fun s => opQ L t P T D s 0) ++ (kCells (opQ L t P T D k 0)).toList = flatO ((List.range (k + 1)).map fun s => opQ L t P T D s 0) := by
      rw [flatO_snoc, List.range_succ, List.map_append]; rfl
    rw [e] at ho1
    obtain ⟨hl, hc⟩ := ho1
    refine ⟨hl, ?_⟩
    rcases hc with hc | ⟨g, cap, cur, hv, hg', hk', r⟩
    · exact .inl hc
    · exact .inr ⟨g, cap, cur, hv, hg', by rw [Below.heap_setCell _ _ _ _ (show g ≠ x1.heap.size by omega), Below.heap_setCell _ _ _ _ (show g ≠ x1.heap.size by omega)]; exact hk', r⟩
/-- ten cells that were stored -/
theorem ten_set {x : World} {g : Nat} {e : TypeId} {a0 a1 a2 a3 a4 a5 a6 a7 a8 a9 b0 b1 b2 b3 b4 b5 b6 b7 b8 b9 : Value} (h : x.heap[g]? = some (.cells #[a0, a1, a2, a3, a4, a5, a6, a7, a8, a9] e (0, 0))) : ((((((((((x.setCell ⟨g, 0, none⟩ b0).setCell ⟨g, 1, none⟩ b1).setCell ⟨g, 2, none⟩ b2).setCell ⟨g, 3, none⟩ b3).setCell ⟨g, 4, none⟩ b4).setCell ⟨g, 5, none⟩ b5).setCell ⟨g, 6, none⟩ b6).setCell ⟨g, 7, none⟩ b7).setCell ⟨g, 8, none⟩ b8).setCell ⟨g, 9, none⟩ b9).heap[g]? = some (.cells #[b0, b1, b2, b3, b4, b5, b6, b7, b8, b9] e (0, 0)) := by
  simp [World.setCell, Array.getElem?_modify, h]

set_option maxHeartbeats 4000000 in
theorem emitgo_no (hS : SLegalC) (p0 p1 p2 q0 q1 q2 r : Int) (L : Lp) (a0 a1 a2 : Option Addr) (cap0 cap1 cap2 : Nat) (P : Int) (T D : List Int) (ta da : Option Addr) (tc dc : Nat) (w : World) (hL : LoopV w (.agg #[.slice a0 L.logs.length cap0, .slice a1 L.body.length cap1, .slice a2 L.outs.length cap2]) L) (hP : PlanV w (.agg #[.int .i64 P, .slice ta T.length tc]) P T) (hD : Ints w (.slice da D.length dc) D) (h : D.length ≠ L.body.length ∨ (D.length = L.body.length ∧ legalD L ⟨p0, p1, p2, q0, q1, q2, r⟩ P T = false) ∨ (D.length = L.body.length ∧ legalD L ⟨p0, p1, p2, q0, q1, q2, r⟩ P T = true ∧ allN (fun s => inR (nth D s) 0 (r - 1)) D.length = false)) :
    Calls Try.prog 13 #[.agg #[.slice a0 L.logs.length cap0, .slice a1 L.body.length cap1, .slice a2 L.outs.length cap2], .agg #[.int .i64 p0, .int .i64 p1, .int .i64 p2, .int .i64 q0, .int .i64 q1, .int .i64 q2, .int .i64 r], .agg #[.int .i64 P, .slice ta T.length tc], .slice da D.length dc] w (EmitPost L ⟨p0, p1, p2, q0, q1, q2, r⟩ P T D w) := by
  have hn : (legalD L ⟨p0, p1, p2, q0, q1, q2, r⟩ P T && destsOk L ⟨p0, p1, p2, q0, q1, q2, r⟩ D) = false := by
    rcases h with h | ⟨-, h⟩ | ⟨e, -, h⟩
    · unfold destsOk; rw [decide_eq_false h]; simp
    · rw [h]; rfl
    · unfold destsOk
      rw [e] at h
      rw [show allN (fun s => inR (nth D s) 0 ((⟨p0, p1, p2, q0, q1, q2, r⟩ : Tg).r - 1)) L.body.length = false from h]; simp
  have HN := hide (emit_none hn)
  have hs4 : ((((w.alloc (.cells #[.slice a0 L.logs.length cap0, .slice a1 L.body.length cap1, .slice a2 L.outs.length cap2] 25)).alloc (.cells #[.int .i64 p0, .int .i64 p1, .int .i64 p2, .int .i64 q0, .int .i64 q1, .int .i64 q2, .int .i64 r] 28)).alloc (.cells #[.int .i64 P, .slice ta T.length tc] 30)).alloc (.cells #[.int .i64 0, .int .i64 0, .slice none 0 0] 40)).heap.size = (w.heap.size + 1 + 1 + 1 + 1) := by simp
  have HS4 := hide hs4
  have HBW := hide (four_blocks (Below.refl (w.heap.size + 1 + 1 + 1 + 1) ((((w.alloc (.cells #[.slice a0 L.logs.length cap0, .slice a1 L.body.length cap1, .slice a2 L.outs.length cap2] 25)).alloc (.cells #[.int .i64 p0, .int .i64 p1, .int .i64 p2, .int .i64 q0, .int .i64 q1, .int .i64 q2, .int .i64 r] 28)).alloc (.cells #[.int .i64 P, .slice ta T.length tc] 30)).alloc (.cells #[.int .i64 0, .int .i64 0, .slice none 0 0] 40)))).2.2.2.2.2
  have HLG := hide (hS (.agg #[.slice a0 L.logs.length cap0, .slice a1 L.body.length cap1, .slice a2 L.outs.length cap2]) (.agg #[.int .i64 P, .slice ta T.length tc]) ⟨p0, p1, p2, q0, q1, q2, r⟩ L P T ((((w.alloc (.cells #[.slice a0 L.logs.length cap0, .slice a1 L.body.length cap1, .slice a2 L.outs.length cap2] 25)).alloc (.cells #[.int .i64 p0, .int .i64 p1, .int .i64 p2, .int .i64 q0, .int .i64 q1, .int .i64 q2, .int .i64 r] 28)).alloc (.cells #[.int .i64 P, .slice ta T.length tc] 30)).alloc (.cells #[.int .i64 0, .int .i64 0, .slice none 0 0] 40)) (hL.below HBW.out) (hP.below HBW.out))
  have HDM := hide (fun W (hb : Below w.heap.size w W) => edests_any p0 p1 p2 q0 q1 q2 r D da dc W (hD.below hb))
  have HH := hide h
  have HEND : Hid (∀ x1 : World, Below (w.heap.size + 1 + 1 + 1 + 1) ((((w.alloc (.cells #[.slice a0 L.logs.length cap0, .slice a1 L.body.length cap1, .slice a2 L.outs.length cap2] 25)).alloc (.cells #[.int .i64 p0, .int .i64 p1, .int .i64 p2, .int .i64 q0, .int .i64 q1, .int .i64 q2, .int .i64 r] 28)).alloc (.cells #[.int .i64 P, .slice ta T.length tc] 30)).alloc (.cells #[.int .i64 0, .int .i64 0, .slice none 0 0] 40)) x1 → EmitPost L ⟨p0, p1, p2, q0, q1, q2, r⟩ P T D w (.returned (.tuple #[.agg #[.int .i64 0, .int .i64 0, .slice none 0 0], .int .i64 2])) (((x1.setCell ⟨(w.heap.size + 1 + 1 + 1), 0, none⟩ (.int .i64 0)).setCell ⟨(w.heap.size + 1 + 1 + 1), 1, none⟩ (.int .i64 0)).setCell ⟨(w.heap.size + 1 + 1 + 1), 2, none⟩ (.slice none 0 0))) := fun x1 hx => by
    obtain ⟨-, -, -, -, hz, hb⟩ := four_blocks hx
    refine ⟨((hb.setCell (by show w.heap.size ≤ (w.heap.size + 1 + 1 + 1); omega) _).setCell (by show w.heap.size ≤ (w.heap.size + 1 + 1 + 1); omega) _).setCell (by show w.heap.size ≤ (w.heap.size + 1 + 1 + 1); omega) _, 0, 0, .slice none 0 0, by rw [HN.out.2], ?_⟩
    rw [HN.out.1]
    exact none_kern _
  have HEND0 : Hid (EmitPost L ⟨p0, p1, p2, q0, q1, q2, r⟩ P T D w (.returned (.tuple #[.agg #[.int .i64 0, .int .i64 0, .slice none 0 0], .int .i64 2])) ((((w.alloc (.cells #[.slice a0 L.logs.length cap0, .slice a1 L.body.length cap1, .slice a2 L.outs.length cap2] 25)).alloc (.cells #[.int .i64 p0, .int .i64 p1, .int .i64 p2, .int .i64 q0, .int .i64 q1, .int .i64 q2, .int .i64 r] 28)).alloc (.cells #[.int .i64 P, .slice ta T.length tc] 30)).alloc (.cells #[.int .i64 0, .int .i64 0, .slice none 0 0] 40))) := by
    refine ⟨HBW.out, 0, 0, .slice none 0 0, by rw [HN.out.2], ?_⟩
    rw [HN.out.1]
    exact none_kern _
  generalize legalD L ⟨p0, p1, p2, q0, q1, q2, r⟩ P T = lb at HLG HH
  generalize allN (fun s => inR (nth D s) 0 (r - 1)) D.length = db at HDM HH
  clear hL hP hD h hn hs4
  go_enter Try.func13, Try.ntmps13
  rcases HH.out with h | ⟨h, h2⟩ | ⟨h, h2, h3⟩
  · have hdi : ¬ (D.length : Int) = (L.body.length : Int) := by omega
    go_wp2_with fail
    exact bodyPost_ret (v := .tuple #[.agg #[.int .i64 0, .int .i64 0, .slice none 0 0], .int .i64 2]) (by simp [results, Try.results13, go_sem]) rfl HEND0.out
  · have hdi : (D.length : Int) = (L.body.length : Int) := by omega
    subst h2
    go_wp2_with fail
    refine HLG.out.mono ?_
    rintro e x1 ⟨rfl, hb1⟩
    have HX1 : Hid (Below (w.heap.size + 1 + 1 + 1 + 1) ((((w.alloc (.cells #[.slice a0 L.logs.length cap0, .slice a1 L.body.length cap1, .slice a2 L.outs.length cap2] 25)).alloc (.cells #[.int .i64 p0, .int .i64 p1, .int .i64 p2, .int .i64 q0, .int .i64 q1, .int .i64 q2, .int .i64 r] 28)).alloc (.cells #[.int .i64 P, .slice ta T.length tc] 30)).alloc (.cells #[.int .i64 0, .int .i64 0, .slice none 0 0] 40)) x1) := by show Below _ _ _; rw [← HS4.out]; exact hb1
    obtain ⟨b0, b1, b2, b3, hzq, -⟩ := four_blocks HX1.out
    have k0 : x1.cell? ⟨(w.heap.size + 1 + 1 + 1), 0, none⟩ = some (.int .i64 0) := by rw [cell_of_block b3]; rfl
    have k1 : x1.cell? ⟨(w.heap.size + 1 + 1 + 1), 1, none⟩ = some (.int .i64 0) := by rw [cell_of_block b3]; rfl
    have k2 : x1.cell? ⟨(w.heap.size + 1 + 1 + 1), 2, none⟩ = some (.slice none 0 0) := by rw [cell_of_block b3]; rfl
    have f0 : x1.frozen? ⟨(w.heap.size + 1 + 1 + 1), 0, none⟩ = false := by simp [World.frozen?, b3]
    have f1 : x1.frozen? ⟨(w.heap.size + 1 + 1 + 1), 1, none⟩ = false := by simp [World.frozen?, b3]
    have f2 : x1.frozen? ⟨(w.heap.size + 1 + 1 + 1), 2, none⟩ = false := by simp [World.frozen?, b3]
    have HT := hide (triple_set (a' := .int .i64 0) (b' := .int .i64 0) (d' := .slice none 0 0) b3)
    have HE := hide (HEND.out x1 HX1.out)
    clear hb1 b0 b1 b2 b3
    go_wp2_with fail
    have s0 : (((x1.setCell ⟨(w.heap.size + 1 + 1 + 1), 0, none⟩ (.int .i64 0)).setCell ⟨(w.heap.size + 1 + 1 + 1), 1, none⟩ (.int .i64 0)).setCell ⟨(w.heap.size + 1 + 1 + 1), 2, none⟩ (.slice none 0 0)).cell? ⟨(w.heap.size + 1 + 1 + 1), 0, none⟩ = some (.int .i64 0) := by rw [cell_of_block HT.out]; rfl
    have s1 : (((x1.setCell ⟨(w.heap.size + 1 + 1 + 1), 0, none⟩ (.int .i64 0)).setCell ⟨(w.heap.size + 1 + 1 + 1), 1, none⟩ (.int .i64 0)).setCell ⟨(w.heap.size + 1 + 1 + 1), 2, none⟩ (.slice none 0 0)).cell? ⟨(w.heap.size + 1 + 1 + 1), 1, none⟩ = some (.int .i64 0) := by rw [cell_of_block HT.out]; rfl
    have s2 : (((x1.setCell ⟨(w.heap.size + 1 + 1 + 1), 0, none⟩ (.int .i64 0)).setCell ⟨(w.heap.size + 1 + 1 + 1), 1, none⟩ (.int .i64 0)).setCell ⟨(w.heap.size + 1 + 1 + 1), 2, none⟩ (.slice none 0 0)).cell? ⟨(w.heap.size + 1 + 1 + 1), 2, none⟩ = some (.slice none 0 0) := by rw [cell_of_block HT.out]; rfl
    exact bodyPost_ret (v := .tuple #[.agg #[.int .i64 0, .int .i64 0, .slice none 0 0], .int .i64 2]) (by simp [results, Try.results13, go_sem, s0, s1, s2]) rfl HE.out
  · have hdi : (D.length : Int) = (L.body.length : Int) := by omega
    subst h2
    subst h3
    go_wp2_with fail
    refine HLG.out.mono ?_
    rintro e x0 ⟨rfl, hb0⟩
    have HX0 : Hid (Below (w.heap.size + 1 + 1 + 1 + 1) ((((w.alloc (.cells #[.slice a0 L.logs.length cap0, .slice a1 L.body.length cap1, .slice a2 L.outs.length cap2] 25)).alloc (.cells #[.int .i64 p0, .int .i64 p1, .int .i64 p2, .int .i64 q0, .int .i64 q1, .int .i64 q2, .int .i64 r] 28)).alloc (.cells #[.int .i64 P, .slice ta T.length tc] 30)).alloc (.cells #[.int .i64 0, .int .i64 0, .slice none 0 0] 40)) x0) := by show Below _ _ _; rw [← HS4.out]; exact hb0
    obtain ⟨b0, b1, b2, b3, hz, hbw⟩ := four_blocks HX0.out
    have t0 : x0.cell? ⟨w.heap.size + 1, 0, none⟩ = some (.int .i64 p0) := by rw [cell_of_block b1]; rfl
    have t1 : x0.cell? ⟨w.heap.size + 1, 1, none⟩ = some (.int .i64 p1) := by rw [cell_of_block b1]; rfl
    have t2 : x0.cell? ⟨w.heap.size + 1, 2, none⟩ = some (.int .i64 p2) := by rw [cell_of_block b1]; rfl
    have t3 : x0.cell? ⟨w.heap.size + 1, 3, none⟩ = some (.int .i64 q0) := by rw [cell_of_block b1]; rfl
    have t4 : x0.cell? ⟨w.heap.size + 1, 4, none⟩ = some (.int .i64 q1) := by rw [cell_of_block b1]; rfl
    have t5 : x0.cell? ⟨w.heap.size + 1, 5, none⟩ = some (.int .i64 q2) := by rw [cell_of_block b1]; rfl
    have t6 : x0.cell? ⟨w.heap.size + 1, 6, none⟩ = some (.int .i64 r) := by rw [cell_of_block b1]; rfl
    have HDX := hide (HDM.out x0 hbw)
    rw [h] at HDX
    clear hb0 b0 b1 b2 b3 hbw
    go_wp2_with fail
    refine HDX.out.mono ?_
    rintro e x1 ⟨rfl, hb1⟩
    have HX1 : Hid (Below (w.heap.size + 1 + 1 + 1 + 1) ((((w.alloc (.cells #[.slice a0 L.logs.length cap0, .slice a1 L.body.length cap1, .slice a2 L.outs.length cap2] 25)).alloc (.cells #[.int .i64 p0, .int .i64 p1, .int .i64 p2, .int .i64 q0, .int .i64 q1, .int .i64 q2, .int .i64 r] 28)).alloc (.cells #[.int .i64 P, .slice ta T.length tc] 30)).alloc (.cells #[.int .i64 0, .int .i64 0, .slice none 0 0] 40)) x1) := HX0.out.trans (hb1.mono hz)
    clear t0 t1 t2 t3 t4 t5 t6
    obtain ⟨b0, b1, b2, b3, hzq, -⟩ := four_blocks HX1.out
    have k0 : x1.cell? ⟨(w.heap.size + 1 + 1 + 1), 0, none⟩ = some (.int .i64 0) := by rw [cell_of_block b3]; rfl
    have k1 : x1.cell? ⟨(w.heap.size + 1 + 1 + 1), 1, none⟩ = some (.int .i64 0) := by rw [cell_of_block b3]; rfl
    have k2 : x1.cell? ⟨(w.heap.size + 1 + 1 + 1), 2, none⟩ = some (.slice none 0 0) := by rw [cell_of_block b3]; rfl
    have f0 : x1.frozen? ⟨(w.heap.size + 1 + 1 + 1), 0, none⟩ = false := by simp [World.frozen?, b3]
    have f1 : x1.frozen? ⟨(w.heap.size + 1 + 1 + 1), 1, none⟩ = false := by simp [World.frozen?, b3]
    have f2 : x1.frozen? ⟨(w.heap.size + 1 + 1 + 1), 2, none⟩ = false := by simp [World.frozen?, b3]
    have HT := hide (triple_set (a' := .int .i64 0) (b' := .int .i64 0) (d' := .slice none 0 0) b3)
    have HE := hide (HEND.out x1 HX1.out)
    clear hb1 b0 b1 b2 b3
    go_wp2_with fail
    have s0 : (((x1.setCell ⟨(w.heap.size + 1 + 1 + 1), 0, none⟩ (.int .i64 0)).setCell ⟨(w.heap.size + 1 + 1 + 1), 1, none⟩ (.int .i64 0)).setCell ⟨(w.heap.size + 1 + 1 + 1), 2, none⟩ (.slice none 0 0)).cell? ⟨(w.heap.size + 1 + 1 + 1), 0, none⟩ = some (.int .i64 0) := by rw [cell_of_block HT.out]; rfl
    have s1 : (((x1.setCell ⟨(w.heap.size + 1 + 1 + 1), 0, none⟩ (.int .i64 0)).setCell ⟨(w.heap.size + 1 + 1 + 1), 1, none⟩ (.int .i64 0)).setCell ⟨(w.heap.size + 1 + 1 + 1), 2, none⟩ (.slice none 0 0)).cell? ⟨(w.heap.size + 1 + 1 + 1), 1, none⟩ = some (.int .i64 0) := by rw [cell_of_block HT.out]; rfl
    have s2 : (((x1.setCell ⟨(w.heap.size + 1 + 1 + 1), 0, none⟩ (.int .i64 0)).setCell ⟨(w.heap.size + 1 + 1 + 1), 1, none⟩ (.int .i64 0)).setCell ⟨(w.heap.size + 1 + 1 + 1), 2, none⟩ (.slice none 0 0)).cell? ⟨(w.heap.size + 1 + 1 + 1), 2, none⟩ = some (.slice none 0 0) := by rw [cell_of_block HT.out]; rfl
    exact bodyPost_ret (v := .tuple #[.agg #[.int .i64 0, .int .i64 0, .slice none 0 0], .int .i64 2]) (by simp [results, Try.results13, go_sem, s0, s1, s2]) rfl HE.out

set_option maxHeartbeats 32000000 in
theorem emitgo_yes (hS : SLegalC) (p0 p1 p2 q0 q1 q2 r : Int) (L : Lp) (a0 a2 : Option Addr) (bb bo : Nat) (cap0 cap1 cap2 : Nat) (P : Int) (T D : List Int) (tb tz tc db dz dc : Nat) (w : World) (hL : LoopV w (.agg #[.slice a0 L.logs.length cap0, .slice (some ⟨bb, bo, none⟩) L.body.length cap1, .slice a2 L.outs.length cap2]) L) (hP : PlanV w (.agg #[.int .i64 P, .slice (some ⟨tb, tz, none⟩) L.body.length tc]) P T) (hD : Ints w (.slice (some ⟨db, dz, none⟩) L.body.length dc) D) (hleg : legalD L ⟨p0, p1, p2, q0, q1, q2, r⟩ P T = true) (hDn : D.length = L.body.length) (hall : allN (fun s => inR (nth D s) 0 (r - 1)) D.length = true)
    (hbb : bb < w.heap.size) (hbc : L.body.length ≤ cap1) (hbm : cap1 ≤ 9223372036854775807) (hbody : ∀ i, i < L.body.length → ∀ j, j < 9 → w.cell? ⟨bb, bo + i * 9 + j, none⟩ = (stCells (stAt L.body i))[j]?)
    (htb : tb < w.heap.size) (htc : L.body.length ≤ tc) (htm : tc ≤ 9223372036854775807) (htimes : ∀ i, i < L.body.length → w.cell? ⟨tb, tz + i, none⟩ = some (.int .i64 (nth T i)))
    (hdb : db < w.heap.size) (hdc : L.body.length ≤ dc) (hdm : dc ≤ 9223372036854775807) (hdests : ∀ i, i < L.body.length → w.cell? ⟨db, dz + i, none⟩ = some (.int .i64 (nth D i))) :
    Calls Try.prog 13 #[.agg #[.slice a0 L.logs.length cap0, .slice (some ⟨bb, bo, none⟩) L.body.length cap1, .slice a2 L.outs.length cap2], .agg #[.int .i64 p0, .int .i64 p1, .int .i64 p2, .int .i64 q0, .int .i64 q1, .int .i64 q2, .int .i64 r], .agg #[.int .i64 P, .slice (some ⟨tb, tz, none⟩) L.body.length tc], .slice (some ⟨db, dz, none⟩) L.body.length dc] w (EmitPost L ⟨p0, p1, p2, q0, q1, q2, r⟩ P T D w) := by
  have hdo : destsOk L ⟨p0, p1, p2, q0, q1, q2, r⟩ D = true := by
    rw [hDn] at hall
    unfold destsOk
    rw [show allN (fun s => inR (nth D s) 0 ((⟨p0, p1, p2, q0, q1, q2, r⟩ : Tg).r - 1)) L.body.length = true from hall, decide_eq_true hDn]; rfl
  have HDY : Hid (emitK L ⟨p0, p1, p2, q0, q1, q2, r⟩ P T D = emitD L ⟨p0, p1, p2, q0, q1, q2, r⟩ P T D ∧ emitC L ⟨p0, p1, p2, q0, q1, q2, r⟩ P T D = 0) := by
    have hn : (legalD L ⟨p0, p1, p2, q0, q1, q2, r⟩ P T && destsOk L ⟨p0, p1, p2, q0, q1, q2, r⟩ D) = true := by rw [hleg, hdo]; rfl
    show _ ∧ _
    unfold emitK emitC
    rw [hn]
    exact ⟨if_pos rfl, if_pos rfl⟩
  obtain ⟨hm, hmt, hP1, hP2, hTn, htl, -⟩ := legal_parts hleg
  obtain ⟨-, hl1, hl16, -⟩ := may_parts hm
  obtain ⟨i0, hi, hz0, hz1, hz2⟩ := info_parts Try.iop93
  have HTR : Hid (∀ i, i < L.body.length → 0 ≤ nth T i ∧ nth T i ≤ 1000) := fun i hi => by
    have h := allN_get htl i (by omega)
    unfold timeL at h
    rw [Bool.and_eq_true] at h
    exact inR_iff.1 h.1
  have HS4 : Hid (((((w.alloc (.cells #[.slice a0 L.logs.length cap0, .slice (some ⟨bb, bo, none⟩) L.body.length cap1, .slice a2 L.outs.length cap2] 25)).alloc (.cells #[.int .i64 p0, .int .i64 p1, .int .i64 p2, .int .i64 q0, .int .i64 q1, .int .i64 q2, .int .i64 r] 28)).alloc (.cells #[.int .i64 P, .slice (some ⟨tb, tz, none⟩) L.body.length tc] 30)).alloc (.cells #[.int .i64 0, .int .i64 0, .slice none 0 0] 40)).heap.size = (w.heap.size + 1 + 1 + 1 + 1)) := by show _ = _; simp
  have HBW := hide (four_blocks (Below.refl (w.heap.size + 1 + 1 + 1 + 1) ((((w.alloc (.cells #[.slice a0 L.logs.length cap0, .slice (some ⟨bb, bo, none⟩) L.body.length cap1, .slice a2 L.outs.length cap2] 25)).alloc (.cells #[.int .i64 p0, .int .i64 p1, .int .i64 p2, .int .i64 q0, .int .i64 q1, .int .i64 q2, .int .i64 r] 28)).alloc (.cells #[.int .i64 P, .slice (some ⟨tb, tz, none⟩) L.body.length tc] 30)).alloc (.cells #[.int .i64 0, .int .i64 0, .slice none 0 0] 40)))).2.2.2.2.2
  have HLG := hide (hS (.agg #[.slice a0 L.logs.length cap0, .slice (some ⟨bb, bo, none⟩) L.body.length cap1, .slice a2 L.outs.length cap2]) (.agg #[.int .i64 P, .slice (some ⟨tb, tz, none⟩) L.body.length tc]) ⟨p0, p1, p2, q0, q1, q2, r⟩ L P T ((((w.alloc (.cells #[.slice a0 L.logs.length cap0, .slice (some ⟨bb, bo, none⟩) L.body.length cap1, .slice a2 L.outs.length cap2] 25)).alloc (.cells #[.int .i64 p0, .int .i64 p1, .int .i64 p2, .int .i64 q0, .int .i64 q1, .int .i64 q2, .int .i64 r] 28)).alloc (.cells #[.int .i64 P, .slice (some ⟨tb, tz, none⟩) L.body.length tc] 30)).alloc (.cells #[.int .i64 0, .int .i64 0, .slice none 0 0] 40)) (hL.below HBW.out) (hP.below HBW.out))
  rw [hleg] at HLG
  have hD2 := hD
  rw [← hDn] at hD2
  have HDM := hide (fun W (hb : Below w.heap.size w W) => edests_any p0 p1 p2 q0 q1 q2 r D (some ⟨db, dz, none⟩) dc W (hD2.below hb))
  rw [hall, hDn] at HDM
  have HBO := hide hbody
  have HTI := hide htimes
  have HDE := hide hdests
  have HLEG := hide hleg
  have HDO := hide hdo
  clear hL hP hD hD2 hleg hbody htimes hdests hm hmt htl hall hDn hTn hdo HBW
  go_enter Try.func13, Try.ntmps13
  go_wp2_with fail
  refine HLG.out.mono ?_
  rintro e x0 ⟨rfl, hb0⟩
  have HX0 : Hid (Below (w.heap.size + 1 + 1 + 1 + 1) ((((w.alloc (.cells #[.slice a0 L.logs.length cap0, .slice (some ⟨bb, bo, none⟩) L.body.length cap1, .slice a2 L.outs.length cap2] 25)).alloc (.cells #[.int .i64 p0, .int .i64 p1, .int .i64 p2, .int .i64 q0, .int .i64 q1, .int .i64 q2, .int .i64 r] 28)).alloc (.cells #[.int .i64 P, .slice (some ⟨tb, tz, none⟩) L.body.length tc] 30)).alloc (.cells #[.int .i64 0, .int .i64 0, .slice none 0 0] 40)) x0) := by show Below _ _ _; rw [← HS4.out]; exact hb0
  obtain ⟨b0, b1, b2, b3, hz, hbw⟩ := four_blocks HX0.out
  have t0 : x0.cell? ⟨w.heap.size + 1, 0, none⟩ = some (.int .i64 p0) := by rw [cell_of_block b1]; rfl
  have t1 : x0.cell? ⟨w.heap.size + 1, 1, none⟩ = some (.int .i64 p1) := by rw [cell_of_block b1]; rfl
  have t2 : x0.cell? ⟨w.heap.size + 1, 2, none⟩ = some (.int .i64 p2) := by rw [cell_of_block b1]; rfl
  have t3 : x0.cell? ⟨w.heap.size + 1, 3, none⟩ = some (.int .i64 q0) := by rw [cell_of_block b1]; rfl
  have t4 : x0.cell? ⟨w.heap.size + 1, 4, none⟩ = some (.int .i64 q1) := by rw [cell_of_block b1]; rfl
  have t5 : x0.cell? ⟨w.heap.size + 1, 5, none⟩ = some (.int .i64 q2) := by rw [cell_of_block b1]; rfl
  have t6 : x0.cell? ⟨w.heap.size + 1, 6, none⟩ = some (.int .i64 r) := by rw [cell_of_block b1]; rfl
  have HDX := hide (HDM.out x0 hbw)
  clear hb0 b0 b1 b2 b3 hbw HLG HDM
  go_wp2_with fail
  refine HDX.out.mono ?_
  rintro e x1 ⟨rfl, hb1⟩
  have HX1 : Hid (Below (w.heap.size + 1 + 1 + 1 + 1) ((((w.alloc (.cells #[.slice a0 L.logs.length cap0, .slice (some ⟨bb, bo, none⟩) L.body.length cap1, .slice a2 L.outs.length cap2] 25)).alloc (.cells #[.int .i64 p0, .int .i64 p1, .int .i64 p2, .int .i64 q0, .int .i64 q1, .int .i64 q2, .int .i64 r] 28)).alloc (.cells #[.int .i64 P, .slice (some ⟨tb, tz, none⟩) L.body.length tc] 30)).alloc (.cells #[.int .i64 0, .int .i64 0, .slice none 0 0] 40)) x1) := HX0.out.trans (hb1.mono hz)
  obtain ⟨b0, b1, b2, b3, hzx, -⟩ := four_blocks HX1.out
  have l1 : x1.cell? ⟨w.heap.size, 1, none⟩ = some (.slice (some ⟨bb, bo, none⟩) L.body.length cap1) := by rw [cell_of_block b0]; rfl
  have e0 : x1.cell? ⟨w.heap.size + 1 + 1, 0, none⟩ = some (.int .i64 P) := by rw [cell_of_block b2]; rfl
  have HST := hide (EmI.start L ⟨p0, p1, p2, q0, q1, q2, r⟩ P T D x1)
  have hzl : w.heap.size < x1.heap.size := by omega
  clear t0 t1 t2 t3 t4 t5 t6 hz hb1 b0 b1 b2 b3 HDX HX0
  go_wp2_with fail
  clear l1 e0
  go_loopw [42] (fun i wr => ∃ k : Nat, k ≤ L.body.length ∧ i = .int .i64 k ∧ EmI L ⟨p0, p1, p2, q0, q1, q2, r⟩ P T D x1 k wr) (fun i _ => L.body.length - (intOf i).toNat)
  case atStart => exact ⟨0, Nat.zero_le _, rfl, HST.out⟩
  case round =>
    clear HST
    obtain ⟨k, hk, rfl, hem⟩ := hrel
    have HXW : Hid (Below (w.heap.size + 1 + 1 + 1 + 1) ((((w.alloc (.cells #[.slice a0 L.logs.length cap0, .slice (some ⟨bb, bo, none⟩) L.body.length cap1, .slice a2 L.outs.length cap2] 25)).alloc (.cells #[.int .i64 p0, .int .i64 p1, .int .i64 p2, .int .i64 q0, .int .i64 q1, .int .i64 q2, .int .i64 r] 28)).alloc (.cells #[.int .i64 P, .slice (some ⟨tb, tz, none⟩) L.body.length tc] 30)).alloc (.cells #[.int .i64 0, .int .i64 0, .slice none 0 0] 40)) wr) := HX1.out.trans (hem.bel.mono hzx)
    obtain ⟨b0, b1, b2, b3, hsw, hbw⟩ := four_blocks HXW.out
    by_cases hkl : k < L.body.length
    · have hki : (k : Int) < (L.body.length : Int) := by omega
      obtain ⟨c0, c1, c2, c3, c4, c5, c6, c7, c8⟩ := nine (fun j hj => (bcell hbw bb (bo + k * 9 + j) hbb).trans (HBO.out k hkl j hj))
      have hbz : bb < wr.heap.size := by omega
      have hdk := (bcell hbw db (dz + k) hdb).trans (HDE.out k hkl)
      have htk := (bcell hbw tb (tz + k) htb).trans (HTI.out k hkl)
      obtain ⟨tk1, tk2⟩ := HTR.out k hkl
      have hkz := hem.lt
      have HOPJ : Hid (opQ L ⟨p0, p1, p2, q0, q1, q2, r⟩ P T D k 0 = ⟨nth T k % P, nth T k / P, (stAt L.body k).o, nth D k, 0, 0, (stAt L.body k).ar, (stAt L.body k).sp, (stAt L.body k).pl, (stAt L.body k).nn⟩) := rfl
      have HSTG : Hid (stagesE P T (k + 1) = if stagesE P T k ≤ nth T k / P then nth T k / P + 1 else stagesE P T k) := rfl
      have hst0 : 0 ≤ stagesE P T k := by
        rcases Nat.eq_zero_or_pos k with e | e
        · rw [e]; exact Int.le_refl _
        · have := stages_gt P T k 0 e
          have := Int.ediv_nonneg (HTR.out 0 (by omega)).1 (show 0 ≤ P by omega)
          omega
      have hst1 : stagesE P T k ≤ 1001 := stages_le P T 1001 (by omega) k (fun s hs => by
        have h := HTR.out s (by omega)
        have := Int.le_trans (Int.ediv_le_self P h.1) h.2
        omega)
      obtain ⟨la, lc, hkb, hown⟩ := hem.blk
      have HKB := hide hkb
      have HOWN := hide hown
      have HNEXT := hide (fun y w1 la' lc' h1 h2 h3 h4 => EmI.next2 (y := y) (w1 := w1) (la' := la') (lc' := lc') (st := stagesE P T k) hown h1 h2 h3 h4)
      have HBX1 := hide hem.bel
      rw [HOPJ.out] at HNEXT
      have hsg0 := Int.ediv_nonneg tk1 (show 0 ≤ P by omega)
      have hsg1 : nth T k / P ≤ 1000 := Int.le_trans (Int.ediv_le_self _ tk1) tk2
      obtain ⟨tk, htke⟩ : ∃ tk, nth T k = tk := ⟨_, rfl⟩
      obtain ⟨dk, hdke⟩ : ∃ dk, nth D k = dk := ⟨_, rfl⟩
      rw [hdke] at hdk HNEXT
      rw [htke] at htk tk1 tk2 hsg0 hsg1 HNEXT HSTG
      obtain ⟨st, hste⟩ : ∃ st, stagesE P T k = st := ⟨_, rfl⟩
      rw [hste] at HKB HSTG hst0 hst1 HNEXT
      generalize stAt L.body k = xk at c0 c1 c2 c3 c4 c5 c6 c7 c8 HNEXT
      obtain ⟨o, xa, xb, ya, yb, ar, sp, pl, nn⟩ := xk
      simp only at c0 c1 c2 c3 c4 c5 c6 c7 c8 HNEXT
      have HOF := hide (fun W => opOf_any o xa xb ya yb ar sp pl nn tk P dk W tk1 tk2 hP1 hP2)
      obtain ⟨sl, hsle⟩ : ∃ sl, tk % P = sl := ⟨_, rfl⟩
      obtain ⟨sg, hsge⟩ : ∃ sg, tk / P = sg := ⟨_, rfl⟩
      rw [hsle] at HNEXT HOF
      rw [hsge] at hsg0 hsg1 HNEXT HSTG HOF
      have hza : (wr.alloc (.cells #[.int .i64 o, .int .i64 xa, .int .i64 xb, .int .i64 ya, .int .i64 yb, .int .i64 ar, .int .i64 sp, .int .i64 pl, .int .i64 nn] 78)).heap.size = wr.heap.size + 1 := by simp
      have HZA := hide hza
      have HSE : Hid (∀ y, Below (wr.heap.size + 1) (wr.alloc (.cells #[.int .i64 o, .int .i64 xa, .int .i64 xb, .int .i64 ya, .int .i64 yb, .int .i64 ar, .int .i64 sp, .int .i64 pl, .int .i64 nn] 78)) y → ((y.cell? ⟨wr.heap.size, 0, none⟩ = some (.int .i64 o) ∧ y.cell? ⟨wr.heap.size, 1, none⟩ = some (.int .i64 xa) ∧ y.cell? ⟨wr.heap.size, 2, none⟩ = some (.int .i64 xb) ∧ y.cell? ⟨wr.heap.size, 3, none⟩ = some (.int .i64 ya) ∧ y.cell? ⟨wr.heap.size, 4, none⟩ = some (.int .i64 yb) ∧ y.cell? ⟨wr.heap.size, 5, none⟩ = some (.int .i64 ar) ∧ y.cell? ⟨wr.heap.size, 6, none⟩ = some (.int .i64 sp) ∧ y.cell? ⟨wr.heap.size, 7, none⟩ = some (.int .i64 pl) ∧ y.cell? ⟨wr.heap.size, 8, none⟩ = some (.int .i64 nn)) ∧ (y.cell? ⟨w.heap.size + 1 + 1, 0, none⟩ = some (.int .i64 P) ∧ y.cell? ⟨w.heap.size + 1 + 1, 1, none⟩ = some (.slice (some ⟨tb, tz, none⟩) L.body.length tc)) ∧ y.cell? ⟨tb, tz + k, none⟩ = some (.int .i64 tk) ∧ y.cell? ⟨db, dz + k, none⟩ = some (.int .i64 dk))) := fun y hy => by
        have hb : y.heap[wr.heap.size]? = some (.cells #[.int .i64 o, .int .i64 xa, .int .i64 xb, .int .i64 ya, .int .i64 yb, .int .i64 ar, .int .i64 sp, .int .i64 pl, .int .i64 nn] 78 (0, 0)) := (hy.block _ (by omega)).trans (new_blkS _ _ _)
        have h2 := (below_alloc1 wr (.cells #[.int .i64 o, .int .i64 xa, .int .i64 xb, .int .i64 ya, .int .i64 yb, .int .i64 ar, .int .i64 sp, .int .i64 pl, .int .i64 nn] 78)).trans (hy.mono (by omega))
        have hb2 := (h2.block (w.heap.size + 1 + 1) (by omega)).trans b2
        refine ⟨⟨?_, ?_, ?_, ?_, ?_, ?_, ?_, ?_, ?_⟩, ⟨by rw [cell_of_block hb2]; rfl, by rw [cell_of_block hb2]; rfl⟩, (bcell h2 _ _ (by omega)).trans htk, (bcell h2 _ _ (by omega)).trans hdk⟩ <;> (rw [cell_of_block hb]; rfl)
      have HRW : Hid (∀ y, Below (wr.heap.size + 1) (wr.alloc (.cells #[.int .i64 o, .int .i64 xa, .int .i64 xb, .int .i64 ya, .int .i64 yb, .int .i64 ar, .int .i64 sp, .int .i64 pl, .int .i64 nn] 78)) y → Below wr.heap.size wr y) := fun y hy => (below_alloc1 wr _).trans (hy.mono (Nat.le_succ _))
      clear htke hdke hste hsle hsge hkb hown hem b0 b1 b2 b3 hza
      go_wp2_with fail
      clear c0 c1 c2 c3 c4 c5 c6 c7 c8 hdk htk
      refine wp_region_noPanic ?_
      refine region_until 14 (fun w' => ((w'.cell? ⟨wr.heap.size, 0, none⟩ = some (.int .i64 o) ∧ w'.cell? ⟨wr.heap.size, 1, none⟩ = some (.int .i64 xa) ∧ w'.cell? ⟨wr.heap.size, 2, none⟩ = some (.int .i64 xb) ∧ w'.cell? ⟨wr.heap.size, 3, none⟩ = some (.int .i64 ya) ∧ w'.cell? ⟨wr.heap.size, 4, none⟩ = some (.int .i64 yb) ∧ w'.cell? ⟨wr.heap.size, 5, none⟩ = some (.int .i64 ar) ∧ w'.cell? ⟨wr.heap.size, 6, none⟩ = some (.int .i64 sp) ∧ w'.cell? ⟨wr.heap.size, 7, none⟩ = some (.int .i64 pl) ∧ w'.cell? ⟨wr.heap.size, 8, none⟩ = some (.int .i64 nn)) ∧ (w'.cell? ⟨w.heap.size + 1 + 1, 0, none⟩ = some (.int .i64 P) ∧ w'.cell? ⟨w.heap.size + 1 + 1, 1, none⟩ = some (.slice (some ⟨tb, tz, none⟩) L.body.length tc)) ∧ w'.cell? ⟨tb, tz + k, none⟩ = some (.int .i64 tk) ∧ w'.cell? ⟨db, dz + k, none⟩ = some (.int .i64 dk))) (by kernel_rfl) (HSE.out _ (below_dr1 _ _)) (fun hHeld => ?_)
      refine until_take (i := 0) (v := ?_) rfl (by kernel_rfl) (by kernel_rfl) (by kernel_rfl) (by kernel_rfl) (fun _ _ _ h => h) (Or.inl ⟨by rfl, ?_⟩) hHeld ?_
      rotate_left
      · intro w hSw
        try dsimp only at hSw
        go_simp
        try with_reducible rfl
      try simp only [Act.put, List.setIfInBounds_toArray, List.set_cons_zero, List.set_cons_succ]
      refine until_take (i := 1) (v := ?_) rfl (by kernel_rfl) (by kernel_rfl) (by kernel_rfl) (by kernel_rfl) (fun _ _ _ h => h) (Or.inl ⟨by rfl, ?_⟩) hHeld ?_
      rotate_left
      · intro w hSw
        try dsimp only at hSw
        go_simp
        try with_reducible rfl
      try simp only [Act.put, List.setIfInBounds_toArray, List.set_cons_zero, List.set_cons_succ]
      refine until_take (i := 2) (v := ?_) rfl (by kernel_rfl) (by kernel_rfl) (by kernel_rfl) (by kernel_rfl) (fun _ _ _ h => h) (Or.inl ⟨by rfl, ?_⟩) hHeld ?_
      rotate_left
      · intro w hSw
        try dsimp only at hSw
        go_simp
        try with_reducible rfl
      try simp only [Act.put, List.setIfInBounds_toArray, List.set_cons_zero, List.set_cons_succ]
      refine until_take (i := 3) (v := ?_) rfl (by kernel_rfl) (by kernel_rfl) (by kernel_rfl) (by kernel_rfl) (fun _ _ _ h => h) (Or.inl ⟨by rfl, ?_⟩) hHeld ?_
      rotate_left
      · intro w hSw
        try dsimp only at hSw
        go_simp
        try with_reducible rfl
      try simp only [Act.put, List.setIfInBounds_toArray, List.set_cons_zero, List.set_cons_succ]
      refine until_take (i := 4) (v := ?_) rfl (by kernel_rfl) (by kernel_rfl) (by kernel_rfl) (by kernel_rfl) (fun _ _ _ h => h) (Or.inl ⟨by rfl, ?_⟩) hHeld ?_
      rotate_left
      · intro w hSw
        try dsimp only at hSw
        go_simp
        try with_reducible rfl
      try simp only [Act.put, List.setIfInBounds_toArray, List.set_cons_zero, List.set_cons_succ]
      refine until_take (i := 5) (v := ?_) rfl (by kernel_rfl) (by kernel_rfl) (by kernel_rfl) (by kernel_rfl) (fun _ _ _ h => h) (Or.inl ⟨by rfl, ?_⟩) hHeld ?_
      rotate_left
      · intro w hSw
        try dsimp only at hSw
        go_simp
        try with_reducible rfl
      try simp only [Act.put, List.setIfInBounds_toArray, List.set_cons_zero, List.set_cons_succ]
      refine until_take (i := 6) (v := ?_) rfl (by kernel_rfl) (by kernel_rfl) (by kernel_rfl) (by kernel_rfl) (fun _ _ _ h => h) (Or.inl ⟨by rfl, ?_⟩) hHeld ?_
      rotate_left
      · intro w hSw
        try dsimp only at hSw
        go_simp
        try with_reducible rfl
      try simp only [Act.put, List.setIfInBounds_toArray, List.set_cons_zero, List.set_cons_succ]
      refine until_take (i := 7) (v := ?_) rfl (by kernel_rfl) (by kernel_rfl) (by kernel_rfl) (by kernel_rfl) (fun _ _ _ h => h) (Or.inl ⟨by rfl, ?_⟩) hHeld ?_
      rotate_left
      · intro w hSw
        try dsimp only at hSw
        go_simp
        try with_reducible rfl
      try simp only [Act.put, List.setIfInBounds_toArray, List.set_cons_zero, List.set_cons_succ]
      refine until_take (i := 8) (v := ?_) rfl (by kernel_rfl) (by kernel_rfl) (by kernel_rfl) (by kernel_rfl) (fun _ _ _ h => h) (Or.inl ⟨by rfl, ?_⟩) hHeld ?_
      rotate_left
      · intro w hSw
        try dsimp only at hSw
        go_simp
        try with_reducible rfl
      try simp only [Act.put, List.setIfInBounds_toArray, List.set_cons_zero, List.set_cons_succ]
      refine until_take (i := 9) (v := ?_) rfl (by kernel_rfl) (by kernel_rfl) (by kernel_rfl) (by kernel_rfl) (fun _ _ _ h => h) (Or.inl ⟨by rfl, ?_⟩) hHeld ?_
      rotate_left
      · intro w hSw
        try dsimp only at hSw
        go_simp
        try with_reducible rfl
      try simp only [Act.put, List.setIfInBounds_toArray, List.set_cons_zero, List.set_cons_succ]
      refine until_take (i := 10) (v := ?_) rfl (by kernel_rfl) (by kernel_rfl) (by kernel_rfl) (by kernel_rfl) (fun _ _ _ h => h) (Or.inl ⟨by rfl, ?_⟩) hHeld ?_
      rotate_left
      · intro w hSw
        try dsimp only at hSw
        go_simp
        try with_reducible rfl
      try simp only [Act.put, List.setIfInBounds_toArray, List.set_cons_zero, List.set_cons_succ]
      refine until_take (i := 11) (v := ?_) rfl (by kernel_rfl) (by kernel_rfl) (by kernel_rfl) (by kernel_rfl) (fun _ _ _ h => h) (Or.inl ⟨by rfl, ?_⟩) hHeld ?_
      rotate_left
      · intro w hSw
        try dsimp only at hSw
        go_simp
        try with_reducible rfl
      try simp only [Act.put, List.setIfInBounds_toArray, List.set_cons_zero, List.set_cons_succ]
      refine until_two (i := 12) (j := 13) rfl rfl (by kernel_rfl) (fun K hK => ?a1) (fun K hK => ?a2)
      case' a1 =>
        go_simp
        refine (HOF.out _).mono ?_
        rintro e x2 ⟨rfl, hb2⟩
        have HB2 : Hid (Below (wr.heap.size + 1) (wr.alloc (.cells #[.int .i64 o, .int .i64 xa, .int .i64 xb, .int .i64 ya, .int .i64 yb, .int .i64 ar, .int .i64 sp, .int .i64 pl, .int .i64 nn] 78)) x2) := (below_dr1 _ _).trans (hb2.mono (by show _ ≤ (wr.alloc (.cells #[.int .i64 o, .int .i64 xa, .int .i64 xb, .int .i64 ya, .int .i64 yb, .int .i64 ar, .int .i64 sp, .int .i64 pl, .int .i64 nn] 78)).heap.size; rw [HZA.out]; exact Nat.le_refl _))
        have hHeld1 := HSE.out _ HB2.out
        have hsx : wr.heap.size + 1 ≤ x2.heap.size := by have := HB2.out.size; rw [HZA.out] at this; exact this
        clear hb2
        refine hK.out _ _ (.inr hHeld1) ?_
        clear hK K
        try simp only [Act.put, List.setIfInBounds_toArray, List.set_cons_zero, List.set_cons_succ]
        have hHeld2 := HSE.out _ (HB2.out.alloc hsx (.cells #[.int .i64 0, .int .i64 0, .int .i64 0, .int .i64 0, .int .i64 0, .int .i64 0, .int .i64 0, .int .i64 0, .int .i64 0, .int .i64 0] 93))
        refine until_one (i := 13) rfl (by kernel_rfl) (fun K hK => ?_)
        go_simp
        refine hK.out _ _ (.inr hHeld2) ?_
        clear hK K
        try simp only [Act.put, List.setIfInBounds_toArray, List.set_cons_zero, List.set_cons_succ]
        refine until_one (i := 14) rfl (by kernel_rfl) (fun K hK => ?_)
        go_simp
        refine hK.out _ _ (.inl rfl) ?_
        clear hK K
        try simp only [Act.put, List.setIfInBounds_toArray, List.set_cons_zero, List.set_cons_succ]
        refine until_done (by kernel_rfl) ?_ _
        refine NoPanic.normal ?_
        clear hHeld hHeld1 hHeld2
        have HW : Hid (Below wr.heap.size wr (x2.alloc (.cells #[.int .i64 sl, .int .i64 sg, .int .i64 o, .int .i64 dk, .int .i64 0, .int .i64 0, .int .i64 ar, .int .i64 sp, .int .i64 pl, .int .i64 nn] 93))) := HRW.out _ (HB2.out.alloc hsx _)
        have HU : Hid ((x2.alloc (.cells #[.int .i64 sl, .int .i64 sg, .int .i64 o, .int .i64 dk, .int .i64 0, .int .i64 0, .int .i64 ar, .int .i64 sp, .int .i64 pl, .int .i64 nn] 93)).heap[x2.heap.size]? = some (.cells #[.int .i64 sl, .int .i64 sg, .int .i64 o, .int .i64 dk, .int .i64 0, .int .i64 0, .int .i64 ar, .int .i64 sp, .int .i64 pl, .int .i64 nn] 93 (0, 0))) := new_blkS _ _ _
        have hub : wr.heap.size < x2.heap.size := by omega
        clear HB2 hsx
        generalize (x2.alloc (.cells #[.int .i64 sl, .int .i64 sg, .int .i64 o, .int .i64 dk, .int .i64 0, .int .i64 0, .int .i64 ar, .int .i64 sp, .int .i64 pl, .int .i64 nn] 93)) = W at *
        generalize hub2 : x2.heap.size = ub at *
        clear hub2
      case' a2 =>
        go_simp
        have hBA : Below (wr.heap.size + 1) (wr.alloc (.cells #[.int .i64 o, .int .i64 xa, .int .i64 xb, .int .i64 ya, .int .i64 yb, .int .i64 ar, .int .i64 sp, .int .i64 pl, .int .i64 nn] 78)) ((wr.alloc (.cells #[.int .i64 o, .int .i64 xa, .int .i64 xb, .int .i64 ya, .int .i64 yb, .int .i64 ar, .int .i64 sp, .int .i64 pl, .int .i64 nn] 78)).drew.alloc (.cells #[.int .i64 0, .int .i64 0, .int .i64 0, .int .i64 0, .int .i64 0, .int .i64 0, .int .i64 0, .int .i64 0, .int .i64 0, .int .i64 0] 93)) := (below_dr1 _ _).alloc (by show _ ≤ (wr.alloc (.cells #[.int .i64 o, .int .i64 xa, .int .i64 xb, .int .i64 ya, .int .i64 yb, .int .i64 ar, .int .i64 sp, .int .i64 pl, .int .i64 nn] 78)).heap.size; rw [HZA.out]; exact Nat.le_refl _) _
        have hHeld1 := HSE.out _ hBA
        refine hK.out _ _ (.inr hHeld1) ?_
        clear hK K
        try simp only [Act.put, List.setIfInBounds_toArray, List.set_cons_zero, List.set_cons_succ]
        refine until_one (i := 12) rfl (by kernel_rfl) (fun K hK => ?_)
        go_simp
        refine (HOF.out _).mono ?_
        rintro e x2 ⟨rfl, hb2⟩
        have HN0 : Hid (((wr.alloc (.cells #[.int .i64 o, .int .i64 xa, .int .i64 xb, .int .i64 ya, .int .i64 yb, .int .i64 ar, .int .i64 sp, .int .i64 pl, .int .i64 nn] 78)).drew.alloc (.cells #[.int .i64 0, .int .i64 0, .int .i64 0, .int .i64 0, .int .i64 0, .int .i64 0, .int .i64 0, .int .i64 0, .int .i64 0, .int .i64 0] 93)).heap[wr.heap.size + 1]? = some (.cells #[.int .i64 0, .int .i64 0, .int .i64 0, .int .i64 0, .int .i64 0, .int .i64 0, .int .i64 0, .int .i64 0, .int .i64 0, .int .i64 0] 93 (0, 0))) := by
          show _ = _
          have e : (wr.alloc (.cells #[.int .i64 o, .int .i64 xa, .int .i64 xb, .int .i64 ya, .int .i64 yb, .int .i64 ar, .int .i64 sp, .int .i64 pl, .int .i64 nn] 78)).drew.heap.size = wr.heap.size + 1 := HZA.out
          rw [← e]; exact new_blkS _ _ _
        have hz : wr.heap.size + 1 + 1 ≤ ((wr.alloc (.cells #[.int .i64 o, .int .i64 xa, .int .i64 xb, .int .i64 ya, .int .i64 yb, .int .i64 ar, .int .i64 sp, .int .i64 pl, .int .i64 nn] 78)).drew.alloc (.cells #[.int .i64 0, .int .i64 0, .int .i64 0, .int .i64 0, .int .i64 0, .int .i64 0, .int .i64 0, .int .i64 0, .int .i64 0, .int .i64 0] 93)).heap.size := by
          have e : ((wr.alloc (.cells #[.int .i64 o, .int .i64 xa, .int .i64 xb, .int .i64 ya, .int .i64 yb, .int .i64 ar, .int .i64 sp, .int .i64 pl, .int .i64 nn] 78)).drew.alloc (.cells #[.int .i64 0, .int .i64 0, .int .i64 0, .int .i64 0, .int .i64 0, .int .i64 0, .int .i64 0, .int .i64 0, .int .i64 0, .int .i64 0] 93)).heap.size = (wr.alloc (.cells #[.int .i64 o, .int .i64 xa, .int .i64 xb, .int .i64 ya, .int .i64 yb, .int .i64 ar, .int .i64 sp, .int .i64 pl, .int .i64 nn] 78)).heap.size + 1 := by simp
          rw [e, HZA.out]; exact Nat.le_refl _
        have HN1 : Hid (x2.heap[wr.heap.size + 1]? = some (.cells #[.int .i64 0, .int .i64 0, .int .i64 0, .int .i64 0, .int .i64 0, .int .i64 0, .int .i64 0, .int .i64 0, .int .i64 0, .int .i64 0] 93 (0, 0))) := (hb2.block _ (Nat.lt_of_lt_of_le (Nat.lt_succ_self _) hz)).trans HN0.out
        have HB2 : Hid (Below (wr.heap.size + 1) (wr.alloc (.cells #[.int .i64 o, .int .i64 xa, .int .i64 xb, .int .i64 ya, .int .i64 yb, .int .i64 ar, .int .i64 sp, .int .i64 pl, .int .i64 nn] 78)) x2) := hBA.trans (hb2.mono (Nat.le_trans (Nat.le_succ _) hz))
        have hHeld2 := HSE.out _ HB2.out
        clear hb2 hBA hHeld hz
        refine hK.out _ _ (.inr hHeld2) ?_
        clear hK K
        try simp only [Act.put, List.setIfInBounds_toArray, List.set_cons_zero, List.set_cons_succ]
        have n0 : x2.cell? ⟨wr.heap.size + 1, 0, none⟩ = some (.int .i64 0) := by rw [cell_of_block HN1.out]; rfl
        have f0 : x2.frozen? ⟨wr.heap.size + 1, 0, none⟩ = false := by simp [World.frozen?, HN1.out]
        have n1 : x2.cell? ⟨wr.heap.size + 1, 1, none⟩ = some (.int .i64 0) := by rw [cell_of_block HN1.out]; rfl
        have f1 : x2.frozen? ⟨wr.heap.size + 1, 1, none⟩ = false := by simp [World.frozen?, HN1.out]
        have n2 : x2.cell? ⟨wr.heap.size + 1, 2, none⟩ = some (.int .i64 0) := by rw [cell_of_block HN1.out]; rfl
        have f2 : x2.frozen? ⟨wr.heap.size + 1, 2, none⟩ = false := by simp [World.frozen?, HN1.out]
        have n3 : x2.cell? ⟨wr.heap.size + 1, 3, none⟩ = some (.int .i64 0) := by rw [cell_of_block HN1.out]; rfl
        have f3 : x2.frozen? ⟨wr.heap.size + 1, 3, none⟩ = false := by simp [World.frozen?, HN1.out]
        have n4 : x2.cell? ⟨wr.heap.size + 1, 4, none⟩ = some (.int .i64 0) := by rw [cell_of_block HN1.out]; rfl
        have f4 : x2.frozen? ⟨wr.heap.size + 1, 4, none⟩ = false := by simp [World.frozen?, HN1.out]
        have n5 : x2.cell? ⟨wr.heap.size + 1, 5, none⟩ = some (.int .i64 0) := by rw [cell_of_block HN1.out]; rfl
        have f5 : x2.frozen? ⟨wr.heap.size + 1, 5, none⟩ = false := by simp [World.frozen?, HN1.out]
        have n6 : x2.cell? ⟨wr.heap.size + 1, 6, none⟩ = some (.int .i64 0) := by rw [cell_of_block HN1.out]; rfl
        have f6 : x2.frozen? ⟨wr.heap.size + 1, 6, none⟩ = false := by simp [World.frozen?, HN1.out]
        have n7 : x2.cell? ⟨wr.heap.size + 1, 7, none⟩ = some (.int .i64 0) := by rw [cell_of_block HN1.out]; rfl
        have f7 : x2.frozen? ⟨wr.heap.size + 1, 7, none⟩ = false := by simp [World.frozen?, HN1.out]
        have n8 : x2.cell? ⟨wr.heap.size + 1, 8, none⟩ = some (.int .i64 0) := by rw [cell_of_block HN1.out]; rfl
        have f8 : x2.frozen? ⟨wr.heap.size + 1, 8, none⟩ = false := by simp [World.frozen?, HN1.out]
        have n9 : x2.cell? ⟨wr.heap.size + 1, 9, none⟩ = some (.int .i64 0) := by rw [cell_of_block HN1.out]; rfl
        have f9 : x2.frozen? ⟨wr.heap.size + 1, 9, none⟩ = false := by simp [World.frozen?, HN1.out]
        refine until_one (i := 14) rfl (by kernel_rfl) (fun K hK => ?_)
        go_simp
        refine hK.out _ _ (.inl rfl) ?_
        clear hK K
        try simp only [Act.put, List.setIfInBounds_toArray, List.set_cons_zero, List.set_cons_succ]
        refine until_done (by kernel_rfl) ?_ _
        refine NoPanic.normal ?_
        clear hHeld1 hHeld2 n0 n1 n2 n3 n4 n5 n6 n7 n8 n9 f0 f1 f2 f3 f4 f5 f6 f7 f8 f9
        have HW : Hid (Below wr.heap.size wr ((((((((((x2.setCell ⟨wr.heap.size + 1, 0, none⟩ (.int .i64 sl)).setCell ⟨wr.heap.size + 1, 1, none⟩ (.int .i64 sg)).setCell ⟨wr.heap.size + 1, 2, none⟩ (.int .i64 o)).setCell ⟨wr.heap.size + 1, 3, none⟩ (.int .i64 dk)).setCell ⟨wr.heap.size + 1, 4, none⟩ (.int .i64 0)).setCell ⟨wr.heap.size + 1, 5, none⟩ (.int .i64 0)).setCell ⟨wr.heap.size + 1, 6, none⟩ (.int .i64 ar)).setCell ⟨wr.heap.size + 1, 7, none⟩ (.int .i64 sp)).setCell ⟨wr.heap.size + 1, 8, none⟩ (.int .i64 pl)).setCell ⟨wr.heap.size + 1, 9, none⟩ (.int .i64 nn))) := HRW.out _ (((((((((((HB2.out.setCell (Nat.le_refl _) _).setCell (Nat.le_refl _) _).setCell (Nat.le_refl _) _).setCell (Nat.le_refl _) _).setCell (Nat.le_refl _) _).setCell (Nat.le_refl _) _).setCell (Nat.le_refl _) _).setCell (Nat.le_refl _) _).setCell (Nat.le_refl _) _).setCell (Nat.le_refl _) _))
        have HU : Hid (((((((((((x2.setCell ⟨wr.heap.size + 1, 0, none⟩ (.int .i64 sl)).setCell ⟨wr.heap.size + 1, 1, none⟩ (.int .i64 sg)).setCell ⟨wr.heap.size + 1, 2, none⟩ (.int .i64 o)).setCell ⟨wr.heap.size + 1, 3, none⟩ (.int .i64 dk)).setCell ⟨wr.heap.size + 1, 4, none⟩ (.int .i64 0)).setCell ⟨wr.heap.size + 1, 5, none⟩ (.int .i64 0)).setCell ⟨wr.heap.size + 1, 6, none⟩ (.int .i64 ar)).setCell ⟨wr.heap.size + 1, 7, none⟩ (.int .i64 sp)).setCell ⟨wr.heap.size + 1, 8, none⟩ (.int .i64 pl)).setCell ⟨wr.heap.size + 1, 9, none⟩ (.int .i64 nn)).heap[wr.heap.size + 1]? = some (.cells #[.int .i64 sl, .int .i64 sg, .int .i64 o, .int .i64 dk, .int .i64 0, .int .i64 0, .int .i64 ar, .int .i64 sp, .int .i64 pl, .int .i64 nn] 93 (0, 0))) := ten_set HN1.out
        have hub : wr.heap.size < wr.heap.size + 1 := Nat.lt_succ_self _
        clear HN0 HN1 HB2
        generalize ((((((((((x2.setCell ⟨wr.heap.size + 1, 0, none⟩ (.int .i64 sl)).setCell ⟨wr.heap.size + 1, 1, none⟩ (.int .i64 sg)).setCell ⟨wr.heap.size + 1, 2, none⟩ (.int .i64 o)).setCell ⟨wr.heap.size + 1, 3, none⟩ (.int .i64 dk)).setCell ⟨wr.heap.size + 1, 4, none⟩ (.int .i64 0)).setCell ⟨wr.heap.size + 1, 5, none⟩ (.int .i64 0)).setCell ⟨wr.heap.size + 1, 6, none⟩ (.int .i64 ar)).setCell ⟨wr.heap.size + 1, 7, none⟩ (.int .i64 sp)).setCell ⟨wr.heap.size + 1, 8, none⟩ (.int .i64 pl)).setCell ⟨wr.heap.size + 1, 9, none⟩ (.int .i64 nn)) = W at *
        generalize hub2 : wr.heap.size + 1 = ub at HU hub ⊢
        clear hub2
      all_goals
        clear HSE HRW HZA HOF
        have hubz : ub < W.heap.size := (Array.getElem?_eq_some_iff.1 HU.out).1
        have HK6 : Hid (W.heap[x1.heap.size]? = some (.cells #[.int .i64 P, .int .i64 st, .slice la k lc] 40 (0, 0))) := (HW.out.block _ hkz).trans HKB.out
        have HW6 : Hid (W.ownsRow (x1.heap.size + 1) 93 10 (.slice la k lc) k (flatO ((List.range k).map fun s => opQ L ⟨p0, p1, p2, q0, q1, q2, r⟩ P T D s 0))) := own_below HOWN.out HW.out
        have HBX6 : Hid (Below x1.heap.size x1 W) := HBX1.out.trans (HW.out.mono (Nat.le_of_lt hkz))
        have hkne : ¬ x1.heap.size = ub := by omega
        have hkne2 : ¬ ub = x1.heap.size := by omega
        have hkz6 : x1.heap.size < W.heap.size := by omega
        have hogl := ownz_block_lt HOWN.out
        obtain ⟨o0, o1, o2, o3, o4, o5, o6, o7, o8, o9⟩ := ten (b := ub) (o := 0) (x := ⟨sl, sg, o, dk, 0, 0, ar, sp, pl, nn⟩) (w := W) (fun j hj => by rw [cell_of_block HU.out, Nat.zero_add]; rfl)
        simp only [Nat.zero_add] at o1 o2 o3 o4 o5 o6 o7 o8 o9
        have m0 : W.cell? ⟨x1.heap.size, 0, none⟩ = some (.int .i64 P) := by rw [cell_of_block HK6.out]; rfl
        have m1 : W.cell? ⟨x1.heap.size, 1, none⟩ = some (.int .i64 st) := by rw [cell_of_block HK6.out]; rfl
        have m2 : W.cell? ⟨x1.heap.size, 2, none⟩ = some (.slice la k lc) := by rw [cell_of_block HK6.out]; rfl
        have hown6 := ownz_shape HW6.out
        obtain ⟨la9, lc9, hsh, hkc, hcm⟩ := hown6
        injection hsh with hsh1 hsh2 hsh3
        clear hsh1 hsh2
        subst hsh3
        unfold maxLen at hcm
        have HZK : Hid ((W.alloc (.cells #[.int .i64 sl, .int .i64 sg, .int .i64 o, .int .i64 dk, .int .i64 0, .int .i64 0, .int .i64 ar, .int .i64 sp, .int .i64 pl, .int .i64 nn] 93)).heap[x1.heap.size]? = some (.cells #[.int .i64 P, .int .i64 st, .slice la k lc] 40 (0, 0))) := by
          show _ = _
          rw [Below.heap_alloc _ _ _ hkz6]
          exact HK6.out
        have HZU : Hid ((W.alloc (.cells #[.int .i64 sl, .int .i64 sg, .int .i64 o, .int .i64 dk, .int .i64 0, .int .i64 0, .int .i64 ar, .int .i64 sp, .int .i64 pl, .int .i64 nn] 93)).heap[ub]? = some (.cells #[.int .i64 sl, .int .i64 sg, .int .i64 o, .int .i64 dk, .int .i64 0, .int .i64 0, .int .i64 ar, .int .i64 sp, .int .i64 pl, .int .i64 nn] 93 (0, 0))) := by
          show _ = _
          rw [Below.heap_alloc _ _ _ hubz]
          exact HU.out
        have HZB : Hid (Below x1.heap.size x1 (W.alloc (.cells #[.int .i64 sl, .int .i64 sg, .int .i64 o, .int .i64 dk, .int .i64 0, .int .i64 0, .int .i64 ar, .int .i64 sp, .int .i64 pl, .int .i64 nn] 93))) := HBX6.out.alloc (by omega) _
        have HOC : Hid (∀ (j : Nat) (u : Value), [.int .i64 sl, .int .i64 sg, .int .i64 o, .int .i64 dk, .int .i64 0, .int .i64 0, .int .i64 ar, .int .i64 sp, .int .i64 pl, .int .i64 nn][j]? = some u → (W.alloc (.cells #[.int .i64 sl, .int .i64 sg, .int .i64 o, .int .i64 dk, .int .i64 0, .int .i64 0, .int .i64 ar, .int .i64 sp, .int .i64 pl, .int .i64 nn] 93)).cell? ((⟨W.heap.size, 0, none⟩ : Addr).add j) = some u) := ten_cellsE W #[.int .i64 sl, .int .i64 sg, .int .i64 o, .int .i64 dk, .int .i64 0, .int .i64 0, .int .i64 ar, .int .i64 sp, .int .i64 pl, .int .i64 nn] 93
        have hwa : wrap64 (sg + 1) = sg + 1 := by unfold wrap64; omega
        have hwb : IntKind.i64.wrap (sg + 1) = sg + 1 := i64_wrap _ (by omega) (by omega)
        have HGU : Hid (∀ w1 : World, (W.alloc (.cells #[.int .i64 sl, .int .i64 sg, .int .i64 o, .int .i64 dk, .int .i64 0, .int .i64 0, .int .i64 ar, .int .i64 sp, .int .i64 pl, .int .i64 nn] 93)).grownBy w1 (Value.ownBlock (.slice la k lc)) → w1.heap[ub]? = some (.cells #[.int .i64 sl, .int .i64 sg, .int .i64 o, .int .i64 dk, .int .i64 0, .int .i64 0, .int .i64 ar, .int .i64 sp, .int .i64 pl, .int .i64 nn] 93 (0, 0))) := fun w1 hg => (hg.block ub (by simp; omega) (fun e => by have := hogl ub e.symm; omega)).trans HZU.out
        clear hogl
        go_wp2_with (at_builtin; refine wpList_append_own _ rfl (.tmp 61) (.tmp 63) 38 rfl (x1.heap.size + 1) 93 i0 (.agg #[.int .i64 0, .int .i64 0, .int .i64 0, .int .i64 0, .int .i64 0, .int .i64 0, .int .i64 0, .int .i64 0, .int .i64 0, .int .i64 0]) 10 80 Try.underlying38 hi hz0 hz1 hz2 rfl (by decide) _ _ _ rfl (own_below HW6.out (below_alloc1 _ _)) ⟨W.heap.size, 0, none⟩ 1 1 [.int .i64 sl, .int .i64 sg, .int .i64 o, .int .i64 dk, .int .i64 0, .int .i64 0, .int .i64 ar, .int .i64 sp, .int .i64 pl, .int .i64 nn] rfl rfl (by exact HOC.out) (by intro u hu; simp at hu; rcases hu with rfl | rfl | rfl | rfl | rfl | rfl | rfl | rfl | rfl | rfl <;> rfl) (by unfold maxLen; omega) (by omega) (by simp; omega) ?_; intro v1 w1 hown1 hgrow1 hnil1; obtain ⟨la1, lc1, rfl, -, -⟩ := ownz_shape hown1; have HO1 := hide hown1; have HG1 := hide hgrow1; clear hown1 hgrow1 hnil1; have HNX := hide (HNEXT.out _ w1 _ _ HZB.out HZK.out HO1.out HG1.out); have HGV := hide (HGU.out w1 HG1.out); clear m0 m1 m2 o0 o1 o2 o3 o4 o5 o6 o7 o8 o9; have m1 : w1.cell? ⟨x1.heap.size, 1, none⟩ = some (.int .i64 st) := (by rw [cell_of_block HNX.out.2]; rfl); have m2 : w1.cell? ⟨x1.heap.size, 2, none⟩ = some (.slice la k lc) := (by rw [cell_of_block HNX.out.2]; rfl); have o1 : w1.cell? ⟨ub, 1, none⟩ = some (.int .i64 sg) := (by rw [cell_of_block HGV.out]; rfl); have mf : w1.frozen? ⟨x1.heap.size, 2, none⟩ = false := (by simp [World.frozen?, HNX.out.2]); have mf1 : w1.frozen? ⟨x1.heap.size, 1, none⟩ = false := (by simp [World.frozen?, HNX.out.2]))
        go_roundw
        case rel =>
          have HSQ : (if st < sg + 1 then sg + 1 else st) = stagesE P T (k + 1) := by
            rw [HSTG.out]
            by_cases h : st ≤ sg
            · rw [if_pos h, if_pos (by omega)]
            · rw [if_neg h, if_neg (by omega)]
          exact ⟨k + 1, by omega, by go_num, by rw [HSQ]; exact HNX.out.1⟩
        case measure => simp [intOf]; omega
    · have e : k = L.body.length := by omega
      subst e
      have hki : ¬ (L.body.length : Int) < (L.body.length : Int) := by omega
      obtain ⟨g, lc, hkb, hgx, hlc1, hlc2, hrow⟩ := hem.row (by omega)
      have HJ0 : Hid (EmJ L ⟨p0, p1, p2, q0, q1, q2, r⟩ P T D x1 g lc 0 0 wr) := ⟨hem.bel, hkb, hrow, hgx⟩
      have HOPS := hide (fun wr (h : EmJ L ⟨p0, p1, p2, q0, q1, q2, r⟩ P T D x1 g lc L.body.length 0 wr) => h.ops hlc1 hlc2)
      unfold maxLen at hlc2
      have l1 : wr.cell? ⟨w.heap.size, 1, none⟩ = some (.slice (some ⟨bb, bo, none⟩) L.body.length cap1) := by rw [cell_of_block b0]; rfl
      clear hem hkb hrow b0 b1 b2 b3 hbw HXW
      go_wp2_with fail
      clear l1
      go_loopw [77] (fun iv wr => ∃ i : Nat, i ≤ L.body.length ∧ iv = .int .i64 i ∧ EmJ L ⟨p0, p1, p2, q0, q1, q2, r⟩ P T D x1 g lc i 0 wr) (fun iv _ => L.body.length - (intOf iv).toNat)
      case atStart => exact ⟨0, Nat.zero_le _, rfl, HJ0.out⟩
      case round =>
        clear HJ0
        obtain ⟨i, hi2, rfl, hj⟩ := hrel
        have hxi : Below (w.heap.size + 1 + 1 + 1 + 1) ((((w.alloc (.cells #[.slice a0 L.logs.length cap0, .slice (some ⟨bb, bo, none⟩) L.body.length cap1, .slice a2 L.outs.length cap2] 25)).alloc (.cells #[.int .i64 p0, .int .i64 p1, .int .i64 p2, .int .i64 q0, .int .i64 q1, .int .i64 q2, .int .i64 r] 28)).alloc (.cells #[.int .i64 P, .slice (some ⟨tb, tz, none⟩) L.body.length tc] 30)).alloc (.cells #[.int .i64 0, .int .i64 0, .slice none 0 0] 40)) wr := HX1.out.trans (hj.bel.mono hzx)
        obtain ⟨b0, b1, b2, b3, hzw, hbw⟩ := four_blocks hxi
        have hjz := hj.lt
        by_cases hil : i < L.body.length
        · have hii : (i : Int) < (L.body.length : Int) := by omega
          obtain ⟨c0, c1, c2, c3, c4, c5, c6, c7, c8⟩ := nine (fun j hj => (bcell hbw bb (bo + i * 9 + j) hbb).trans (HBO.out i hil j hj))
          have hbz : bb < wr.heap.size := by omega
          have t6 : wr.cell? ⟨w.heap.size + 1, 6, none⟩ = some (.int .i64 r) := by rw [cell_of_block b1]; rfl
          have m2 : wr.cell? ⟨x1.heap.size, 2, none⟩ = some (.slice (some ⟨g, 0, none⟩) L.body.length lc) := by rw [cell_of_block hj.blk]; rfl
          have hzt : w.heap.size + 1 < wr.heap.size := by omega
          obtain ⟨xk, hxk⟩ : ∃ xk, stAt L.body i = xk := ⟨_, rfl⟩
          rw [hxk] at c0 c1 c2 c3 c4 c5 c6 c7 c8
          obtain ⟨o, xa, xb, ya, yb, ar, sp, pl, nn⟩ := xk
          simp only at c0 c1 c2 c3 c4 c5 c6 c7 c8
          have HNR := hide (nameReads_any p0 p1 p2 q0 q1 q2 r L P T D x1 g lc i o xa xb ya yb ar sp pl nn (wr.alloc (.cells #[.int .i64 o, .int .i64 xa, .int .i64 xb, .int .i64 ya, .int .i64 yb, .int .i64 ar, .int .i64 sp, .int .i64 pl, .int .i64 nn] 78)) HLEG.out HDO.out hxk hil hlc1 hlc2 (hj.below (below_alloc1 _ _)))
          clear hxk hj b0 b1 b2 b3 hbw hxi
          go_wp2_with fail
          refine HNR.out.mono ?_
          rintro e x5 ⟨rfl, hj5⟩
          have HJ5 := hide hj5
          clear hj5 c0 c1 c2 c3 c4 c5 c6 c7 c8 t6 m2
          go_wp2_with fail
          go_roundw
          case rel => exact ⟨i + 1, by omega, by go_num, HJ5.out⟩
          case measure => simp [intOf]; omega
        · have e : i = L.body.length := by omega
          subst e
          have hii : ¬ (L.body.length : Int) < (L.body.length : Int) := by omega
          have m0 : wr.cell? ⟨x1.heap.size, 0, none⟩ = some (.int .i64 P) := by rw [cell_of_block hj.blk]; rfl
          have m1 : wr.cell? ⟨x1.heap.size, 1, none⟩ = some (.int .i64 (stagesE P T L.body.length)) := by rw [cell_of_block hj.blk]; rfl
          have m2 : wr.cell? ⟨x1.heap.size, 2, none⟩ = some (.slice (some ⟨g, 0, none⟩) L.body.length lc) := by rw [cell_of_block hj.blk]; rfl
          have k0 : wr.cell? ⟨(w.heap.size + 1 + 1 + 1), 0, none⟩ = some (.int .i64 0) := by rw [cell_of_block b3]; rfl
          have k1 : wr.cell? ⟨(w.heap.size + 1 + 1 + 1), 1, none⟩ = some (.int .i64 0) := by rw [cell_of_block b3]; rfl
          have k2 : wr.cell? ⟨(w.heap.size + 1 + 1 + 1), 2, none⟩ = some (.slice none 0 0) := by rw [cell_of_block b3]; rfl
          have f0 : wr.frozen? ⟨(w.heap.size + 1 + 1 + 1), 0, none⟩ = false := by simp [World.frozen?, b3]
          have f1 : wr.frozen? ⟨(w.heap.size + 1 + 1 + 1), 1, none⟩ = false := by simp [World.frozen?, b3]
          have f2 : wr.frozen? ⟨(w.heap.size + 1 + 1 + 1), 2, none⟩ = false := by simp [World.frozen?, b3]
          have HT := hide (triple_set (a' := .int .i64 P) (b' := .int .i64 (stagesE P T L.body.length)) (d' := .slice (some ⟨g, 0, none⟩) L.body.length lc) b3)
          have hO := HOPS.out wr hj
          obtain ⟨hek, hec⟩ := HDY.out
          have HF : Hid (EmitPost L ⟨p0, p1, p2, q0, q1, q2, r⟩ P T D w (.returned (.tuple #[.agg #[.int .i64 P, .int .i64 (stagesE P T L.body.length), .slice (some ⟨g, 0, none⟩) L.body.length lc], .int .i64 0])) (((wr.setCell ⟨(w.heap.size + 1 + 1 + 1), 0, none⟩ (.int .i64 P)).setCell ⟨(w.heap.size + 1 + 1 + 1), 1, none⟩ (.int .i64 (stagesE P T L.body.length))).setCell ⟨(w.heap.size + 1 + 1 + 1), 2, none⟩ (.slice (some ⟨g, 0, none⟩) L.body.length lc))) := by
            refine ⟨((hbw.setCell (by show w.heap.size ≤ (w.heap.size + 1 + 1 + 1); omega) _).setCell (by show w.heap.size ≤ (w.heap.size + 1 + 1 + 1); omega) _).setCell (by show w.heap.size ≤ (w.heap.size + 1 + 1 + 1); omega) _, P, stagesE P T L.body.length, _, by rw [hec], ?_⟩
            rw [hek]
            exact ⟨_, rfl, ops_set (ops_set (ops_set hO (show (w.heap.size + 1 + 1 + 1) ≠ g by omega) 0 _) (show (w.heap.size + 1 + 1 + 1) ≠ g by omega) 1 _) (show (w.heap.size + 1 + 1 + 1) ≠ g by omega) 2 _⟩
          obtain ⟨stn, hstn⟩ : ∃ stn, stagesE P T L.body.length = stn := ⟨_, rfl⟩
          rw [hstn] at m1 HT HF
          clear hO b0 b1 b2 b3 hj hbw hxi hek hec hstn
          go_wp2_with fail
          have s0 : (((wr.setCell ⟨(w.heap.size + 1 + 1 + 1), 0, none⟩ (.int .i64 P)).setCell ⟨(w.heap.size + 1 + 1 + 1), 1, none⟩ (.int .i64 stn)).setCell ⟨(w.heap.size + 1 + 1 + 1), 2, none⟩ (.slice (some ⟨g, 0, none⟩) L.body.length lc)).cell? ⟨(w.heap.size + 1 + 1 + 1), 0, none⟩ = some (.int .i64 P) := by rw [cell_of_block HT.out]; rfl
          have s1 : (((wr.setCell ⟨(w.heap.size + 1 + 1 + 1), 0, none⟩ (.int .i64 P)).setCell ⟨(w.heap.size + 1 + 1 + 1), 1, none⟩ (.int .i64 stn)).setCell ⟨(w.heap.size + 1 + 1 + 1), 2, none⟩ (.slice (some ⟨g, 0, none⟩) L.body.length lc)).cell? ⟨(w.heap.size + 1 + 1 + 1), 1, none⟩ = some (.int .i64 stn) := by rw [cell_of_block HT.out]; rfl
          have s2 : (((wr.setCell ⟨(w.heap.size + 1 + 1 + 1), 0, none⟩ (.int .i64 P)).setCell ⟨(w.heap.size + 1 + 1 + 1), 1, none⟩ (.int .i64 stn)).setCell ⟨(w.heap.size + 1 + 1 + 1), 2, none⟩ (.slice (some ⟨g, 0, none⟩) L.body.length lc)).cell? ⟨(w.heap.size + 1 + 1 + 1), 2, none⟩ = some (.slice (some ⟨g, 0, none⟩) L.body.length lc) := by rw [cell_of_block HT.out]; rfl
          exact bodyPost_ret (v := .tuple #[.agg #[.int .i64 P, .int .i64 stn, .slice (some ⟨g, 0, none⟩) L.body.length lc], .int .i64 0]) (by simp [results, Try.results13, go_sem, s0, s1, s2]) rfl HF.out

theorem emitgo_any (hS : SLegalC) : EmitSayC := by
  intro v pv dv t L P T D w hL hP hD
  obtain ⟨p0, p1, p2, q0, q1, q2, r⟩ := t
  have hL' := hL
  obtain ⟨v0, v1, v2, rfl, ⟨a0, cap0, rfl, -⟩, ⟨a1, cap1, rfl, h1, h2, h3⟩, ⟨a2, cap2, rfl, -, -, -, -⟩⟩ := hL'
  have hP' := hP
  obtain ⟨tv, rfl, ⟨ta, tc, rfl, k1, k2, k3, k4⟩⟩ := hP'
  have hD' := hD
  obtain ⟨da, dc, rfl, d1, d2, d3, d4⟩ := hD'
  by_cases hlen : D.length = L.body.length
  · cases hleg : legalD L ⟨p0, p1, p2, q0, q1, q2, r⟩ P T with
    | false => exact emitgo_no hS p0 p1 p2 q0 q1 q2 r L a0 a1 a2 cap0 cap1 cap2 P T D ta da tc dc w hL hP hD (.inr (.inl ⟨hlen, hleg⟩))
    | true =>
      cases hall : allN (fun s => inR (nth D s) 0 (r - 1)) D.length with
      | false => exact emitgo_no hS p0 p1 p2 q0 q1 q2 r L a0 a1 a2 cap0 cap1 cap2 P T D ta da tc dc w hL hP hD (.inr (.inr ⟨hlen, hleg, hall⟩))
      | true =>
        obtain ⟨hm, -, -, -, hTn, -, -⟩ := legal_parts hleg
        have hb1 := (may_parts hm).2.1
        obtain ⟨bb, bo, rfl, hbb, hbody⟩ := h3 (by omega)
        obtain ⟨tb, tz, rfl, htb, htimes⟩ := k4 (by omega)
        obtain ⟨db, dz, rfl, hdb, hdests⟩ := d4 (by omega)
        unfold maxLen at h2 k2 d2
        rw [hTn] at hP htimes k1 ⊢
        rw [hlen] at hD hdests d1 ⊢
        exact emitgo_yes hS p0 p1 p2 q0 q1 q2 r L a0 a2 bb bo cap0 cap1 cap2 P T D tb tz tc db dz dc w hL hP hD hleg hlen hall hbb h1 (by omega) hbody htb k1 (by omega) htimes hdb d1 (by omega) hdests
  · exact emitgo_no hS p0 p1 p2 q0 q1 q2 r L a0 a1 a2 cap0 cap1 cap2 P T D ta da tc dc w hL hP hD (.inl hlen)
end Go.Proofs.Ytkpkpaobhnhgpab
