/- How a run begins in memory, by the program: the machine, its registers, its words, row by row. -/
import Derived.Test.YtlgphgfldfjkkaaKernGo
import Derived.Test.YtlgphgfldfjkkaaKernInv
import Derived.Lib.SliceRun
namespace Go.Proofs.Ytlgphgfldfjkkaa
open Go.RowKit Go.Joins
set_option linter.unusedVariables false
set_option linter.unusedSimpArgs false

set_option maxHeartbeats 1000000 in
theorem clone_128 (v : Value) (zs : List Int) (w : World) (h : Ints w v zs) (h0 : 0 < zs.length) (h128 : zs.length ≤ 128) :
    Calls Try.prog 63 #[v] w fun e w' => ∃ g cap, e = .returned (.slice (some ⟨g, 0, none⟩) zs.length cap) ∧ w.heap.size ≤ g ∧ cap ≤ maxLen ∧
      RowX w' g 2 cap zs.length (fun j => .int .i64 (nth zs j)) ∧ Below w.heap.size w w' := by
  obtain ⟨a, rc, rfl, hl, hm, hr, hc⟩ := h
  unfold maxLen at hm
  obtain ⟨b2, o2, rfl, hb2, hcell2⟩ := hc h0
  obtain ⟨i0, hi, hz0, hz1, hz2⟩ := info_parts Try.i2
  have hq : ∀ (w : World) (a : Option Addr) (n c n' c' : Nat), (binOp .eql 36 (.slice a n c) (.slice none n' c')).run Try.prog w = .ok (.bool a.isNone) w := fun w a n c n' c' => Lib.run_eql_slice_nil w _ _ a n c n' c' Try.underlying36
  have hbe : Below w.heap.size w (w.alloc (.cells #[] 2)) := below_alloc1 _ _
  have N1 : Hid ((zs.map (Value.int .i64)).length = zs.length * 1) := by show _ = _; simp
  have N2 : Hid (∀ j u, (zs.map (Value.int .i64))[j]? = some u → (w.alloc (.cells #[] 2)).cell? ((⟨b2, o2, none⟩ : Addr).add j) = some u) := row_cells (fun i hi => by
    rw [bcell hbe _ _ hb2]; exact hcell2 i hi)
  have N3 := hide (ints_one zs)
  clear hc hcell2 hr
  go_enter Try.func63, Try.ntmps63
  go_wp2_with (at_builtin; refine wpList_append_own _ rfl (.tmp 5) (.tmp 6) 36 rfl w.heap.size 2 i0 (.int .i64 0) 1 8 Try.underlying36 hi hz0 hz1 hz2 rfl (by decide) _ _ _ rfl (own_empty w 2) ⟨b2, o2, none⟩ _ rc _ rfl N1.out N2.out N3.out (by unfold maxLen; omega) (by omega) (by simp) ?_; intro v1 w1 hown1 hgrow1 hnil1; obtain ⟨g1, cap1, rfl, -, -, -, -⟩ := own_parts hown1 (.inr (by omega)); have HB1 := below_empty hgrow1; have HO1 := hide hown1)
  go_ret
  simp only [Nat.zero_add] at HO1 ⊢
  obtain ⟨h1, h2, h3⟩ := own_x HO1.out
  refine ⟨g1, cap1, rfl, h1, h2, h3.congr fun j hj => ?_, HB1⟩
  rw [List.nil_append]
  exact getD_ints zs j hj

def lenOf (M : List (List Int)) (i : Nat) : Nat := (rowAt M i).length
/-- k rows of words have been copied -/
structure BInv (w0 : World) (A gr cr : Nat) (R : List Int) (t : Tg) (pc st : Int) (kv lv : Value) (logs : List Int) (turns : Int) (M : List (List Int)) (k : Nat) (mv : Value) (G C : Nat → Nat) (wr : World) : Prop where
  bel : Below w0.heap.size w0 wr
  hA : wr.heap[A]? = some (.cells #[.int .i64 t.u0, .int .i64 t.u1, .int .i64 t.u2, .int .i64 t.w0, .int .i64 t.w1, .int .i64 t.w2, .int .i64 t.r, .int .i64 pc, .int .i64 st, kv, lv, .slice (some ⟨gr, 0, none⟩) R.length cr, mv, .int .i64 turns, .slice none 0 0, .slice none 0 0, .slice none 0 0, .slice none 0 0, .slice none 0 0, .slice none 0 0] 98 (0, 0))
  hAb : w0.heap.size ≤ A
  regs : RowF wr gr 2 R.length (fun i => .int .i64 (nth R i))
  hr : w0.heap.size ≤ gr ∧ R.length ≤ cr ∧ cr ≤ maxLen
  out : wr.ownsRow w0.heap.size 36 1 mv k ((List.range k).map (rowV G C (lenOf M)))
  inn : Inner wr w0.heap.size G C k (lenOf M) (fun i j => nth (rowAt M i) j)
  rM : ∀ i, i < k → gr ≠ G i
  lgs : wr.ownsRow w0.heap.size 3 1 lv logs.length (logs.map (Value.int .i64))
variable {w0 : World} {A gr cr : Nat} {R : List Int} {t : Tg} {pc st : Int} {kv lv : Value} {logs : List Int} {turns : Int} {M : List (List Int)} {k : Nat} {mv : Value} {G C : Nat → Nat} {wr : World}
theorem BInv.A_lt (h : BInv w0 A gr cr R t pc st kv lv logs turns M k mv G C wr) : A < wr.heap.size := (Array.getElem?_eq_some_iff.1 h.hA).1
theorem BInv.below {x : World} (h : BInv w0 A gr cr R t pc st kv lv logs turns M k mv G C wr) (hb : Below wr.heap.size wr x) : BInv w0 A gr cr R t pc st kv lv logs turns M k mv G C x where
  bel := h.bel.trans (hb.mono h.bel.size)
  hA := by rw [hb.block _ h.A_lt]; exact h.hA
  hAb := h.hAb
  regs := h.regs.below hb h.regs.lt
  hr := h.hr
  out := ownz_keep h.out fun g hg => hb.block g (ownz_block_lt h.out g hg)
  inn := h.inn.below hb
  rM := h.rM
  lgs := ownz_keep h.lgs fun g hg => hb.block g (ownz_block_lt h.lgs g hg)
theorem BInv.cell (h : BInv w0 A gr cr R t pc st kv lv logs turns M k mv G C wr) : wr.cell? ⟨A, 12, none⟩ = some mv := by rw [cell_of_block h.hA]; rfl
theorem BInv.ends (h : BInv w0 A gr cr R t pc st kv lv logs turns M k mv G C wr) : wr.cell? ⟨A, 11, none⟩ = some (.slice (some ⟨gr, 0, none⟩) R.length cr) ∧ wr.cell? ⟨A, 12, none⟩ = some mv := ⟨by rw [cell_of_block h.hA]; rfl, h.cell⟩
theorem BInv.grown {w6 : World} (h : BInv w0 A gr cr R t pc st kv lv logs turns M k mv G C wr) (hg : wr.grownBy w6 mv.ownBlock) : w6.cell? ⟨A, 12, none⟩ = some mv ∧ w6.frozen? ⟨A, 12, none⟩ = false := by
  have b := row_far h.out hg h.hA (by decide)
  exact ⟨by rw [World.cell?_of_block (a := ⟨A, 12, none⟩) b]; exact h.cell, by simp [World.frozen?, b, h.hA]⟩
/-- one row more -/
theorem BInv.step {g cap g2 cap2 B0 : Nat} {w6 : World} (h : BInv w0 A gr cr R t pc st kv lv logs turns M k mv G C wr) (hrow : RowX wr g 2 cap (lenOf M k) (fun j => .int .i64 (nth (rowAt M k) j))) (hge : w0.heap.size ≤ g) (hcm : cap ≤ maxLen) (hgr : gr ≠ g) (hG : ∀ i, i < k → G i ≠ g)
    (hown : w6.ownsRow w0.heap.size 36 1 (.slice (some ⟨g2, 0, none⟩) (k + 1) cap2) (k + 1) (((List.range k).map (rowV G C (lenOf M))) ++ [.slice (some ⟨g, 0, none⟩) (lenOf M k) cap])) (hg : wr.grownBy w6 mv.ownBlock) :
    BInv w0 A gr cr R t pc st kv lv logs turns M (k + 1) (.slice (some ⟨g2, 0, none⟩) (k + 1) cap2) (fun i => if i = k then g else G i) (fun i => if i = k then cap else C i) (w6.setCell ⟨A, 12, none⟩ (.slice (some ⟨g2, 0, none⟩) (k + 1) cap2)) := by
  have bA := row_far h.out hg h.hA (by decide)
  have hfar : ∀ {q : Nat} {e : TypeId} {n : Nat} {f : Nat → Value}, RowF wr q e n f → e ≠ 36 → w6.heap[q]? = wr.heap[q]? := fun {q e n f} hr he => by
    obtain ⟨c, hb, _, _⟩ := hr
    exact row_far h.out hg hb he
  have hAr : A ≠ gr := blockrow_apart h.hA h.regs (by decide)
  have hAg : A ≠ g := blockrow_apart h.hA hrow.row (by decide)
  have hAG : ∀ i, i < k → A ≠ G i := fun i hi => blockrow_apart h.hA (h.inn.1 i hi).2.2.2 (by decide)
  refine { bel := (h.bel.grown hg h.bel.size (ownz_block_ge h.out)).setCell (by show w0.heap.size ≤ A; exact h.hAb) _, hA := ?_, hAb := h.hAb, regs := ?_, hr := h.hr, out := ?_, inn := ?_, rM := ?_, lgs := ?_ }
  · have hb : w6.heap[A]? = _ := bA.trans h.hA
    simp [World.setCell, Array.getElem?_modify, hb]
  · exact (h.regs.of_block (hfar h.regs (by decide))).setOther (by show gr ≠ A; exact hAr.symm) _
  · rw [← rowV_snoc]
    exact ownz_keep hown fun q hq => Below.heap_setCell _ _ _ _ (by
      show q ≠ A
      intro e
      subst e
      obtain ⟨-, hd⟩ := hown
      rcases hd with ⟨e3, _⟩ | ⟨g', cap', cur, e3, _, hb3, _⟩
      · cases e3
      · have e4 : g' = q := by rw [e3] at hq; simpa [Value.ownBlock] using hq
        subst e4
        exact blocks_apart (bA.trans h.hA) hb3 (by decide) rfl)
  · have h1 : Inner w6 w0.heap.size G C k (lenOf M) (fun i j => nth (rowAt M i) j) := h.inn.keep fun i hi => hfar (h.inn.1 i hi).2.2.2 (by decide)
    have h2 : RowF w6 g 2 (lenOf M k) (fun j => .int .i64 (nth (rowAt M k) j)) := hrow.row.of_block (hfar hrow.row (by decide))
    have h3 := h1.snoc g cap hge hrow.le hcm h2 hG
    refine h3.keep fun i hi => Below.heap_setCell _ _ _ _ ?_
    show (if i = k then g else G i) ≠ A
    by_cases e : i = k
    · rw [if_pos e]; exact hAg.symm
    · rw [if_neg e]; exact (hAG i (by omega)).symm
  · intro i hi
    by_cases e : i = k
    · simp only [if_pos e]; exact hgr
    · simp only [if_neg e]; exact h.rM i (by omega)
  · have h1 := ownz_keep h.lgs fun q hq => hg.block q (ownz_block_lt h.lgs q hq) (ownz_two h.lgs h.out (by decide) q hq)
    exact ownz_keep h1 fun q hq => Below.heap_setCell _ _ _ _ (by
      show q ≠ A
      intro e
      subst e
      obtain ⟨-, hd⟩ := h1
      rcases hd with ⟨e3, _⟩ | ⟨g', cap', cur, e3, _, hb3, _⟩
      · rw [e3] at hq; cases hq
      · have e4 : g' = q := by rw [e3] at hq; simpa [Value.ownBlock] using hq
        subst e4
        exact blocks_apart (bA.trans h.hA) hb3 (by decide) rfl)
/-- the machine, as its cycles begin -/
def mcOf (w0 wr : World) (A gr cr : Nat) (R : List Int) (t : Tg) (pc st : Int) (kv lv : Value) (turns : Int) (M : List (List Int)) (mv : Value) (G : Nat → Nat) : Mc := ⟨w0, wr, A, t, pc, st, kv, lv, mv, turns, R.length, gr, cr, M.length, lenOf M, G⟩
theorem BInv.mach (h : BInv w0 A gr cr R t pc st kv lv logs turns M M.length mv G C wr) : MInv (mcOf w0 wr A gr cr R t pc st kv lv turns M mv G) (fun _ => .slice none 0 0) [] (fun i => nth R i) (fun i j => nth (rowAt M i) j) wr where
  bel := h.bel
  keep := ⟨Nat.le_refl _, fun _ _ _ _ _ => rfl⟩
  hA := h.hA
  hA1 := ⟨h.hAb, h.A_lt⟩
  regs := h.regs
  hr := ⟨h.hr.1, h.regs.lt, h.hr.2⟩
  min := fun i hi => ⟨(h.inn.1 i hi).1, (h.inn.1 i hi).2.2.2.lt, (h.inn.1 i hi).2.2.2⟩
  minj := h.inn.2
  rM := h.rM
  due := fun j hj => World.ownsRow_nil _ _ _ _
  dinj := fun i j _ _ _ g hg => by cases hg
  w01 := h.bel.size
/-- what the run leaves as it is -/
theorem BInv.stat (h : BInv w0 A gr cr R t pc st kv lv logs turns M M.length mv G C wr) (hlg : ∀ i, i < logs.length → -9223372036854775808 ≤ nth logs i ∧ nth logs i ≤ 9223372036854775807) : ∃ gm cm, ∀ x, KeptM (mcOf w0 wr A gr cr R t pc st kv lv turns M mv G) x → StatM (mcOf w0 wr A gr cr R t pc st kv lv turns M mv G) logs gm cm C x ∧ (0 < M.length → RowF x gm 36 M.length (rowV G C (lenOf M)) ∧ w0.heap.size ≤ gm) ∧ ∃ am, mv = .slice am M.length cm ∧ M.length ≤ cm ∧ cm ≤ maxLen := by
  obtain ⟨gm, cm, hMR⟩ := MR.of_copy h.out h.inn
  have far : ∀ (x : World), KeptM (mcOf w0 wr A gr cr R t pc st kv lv turns M mv G) x → ∀ (g : Nat) (cs : Array Value) (e : TypeId), wr.heap[g]? = some (.cells cs e (0, 0)) → e ≠ 98 → e ≠ 2 → x.heap[g]? = wr.heap[g]? := fun x hx g cs e hb h1 h2 =>
    hx.2 g (Array.getElem?_eq_some_iff.1 hb).1 (blocks_apart hb h.hA h1) (blockrow_apart hb h.regs h2) (fun i hi => blockrow_apart hb (h.inn.1 i hi).2.2.2 h2)
  refine ⟨gm, cm, fun x hx => ?_⟩
  have hlog : x.ownsRow w0.heap.size 3 1 lv logs.length (logs.map (Value.int .i64)) := ownz_keep h.lgs fun q hq => by
    obtain ⟨-, hd⟩ := h.lgs
    rcases hd with ⟨e3, _⟩ | ⟨g', cap', cur, e3, _, hb3, _⟩
    · rw [e3] at hq; cases hq
    · have e4 : g' = q := by rw [e3] at hq; simpa [Value.ownBlock] using hq
      subst e4
      exact far x hx _ _ _ hb3 (by decide) (by decide)
  have hout : 0 < M.length → mv = .slice (some ⟨gm, 0, none⟩) M.length cm ∧ RowF x gm 36 M.length (rowV G C (lenOf M)) ∧ w0.heap.size ≤ gm := fun hp => by
    rcases hMR.out with e | ⟨e1, e2, e3⟩
    · omega
    · refine ⟨e1, ?_, e3⟩
      have e4 := e2
      obtain ⟨c, hb, _, _⟩ := e2
      exact e4.of_block (far x hx _ _ _ hb (by decide) (by decide))
  obtain ⟨am, hm1, hm2, hm3⟩ := hMR.shape
  exact ⟨⟨ints_of_own2 hlog hlg, fun hp => ⟨(hout hp).1, hm2, hm3, (hout hp).2.1.lt⟩, fun i hi => ⟨(hout (by show 0 < M.length; have : i < M.length := hi; omega)).2.1.cell hi, (h.inn.1 i hi).2.1, (h.inn.1 i hi).2.2.1⟩⟩, fun hp => (hout hp).2, am, hm1, hm2, hm3⟩
end Go.Proofs.Ytlgphgfldfjkkaa
