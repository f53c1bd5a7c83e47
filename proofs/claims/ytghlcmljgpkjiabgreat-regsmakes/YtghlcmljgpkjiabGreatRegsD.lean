/- RegsD: texts that are built as one: RegsGo, RegsAll. -/
import Derived.Test.YtghlcmljgpkjiabGreatRegsSay
import Derived.Test.YtghlcmljgpkjiabGreatRegsC
import Derived.Test.YtghlcmljgpkjiabGreatRegsB
import Derived.Test.YtghlcmljgpkjiabGreatSchedLegal
import Derived.Test.YtghlcmljgpkjiabGreatSchedLegalAll
/- Package regs' Make answers as RegsC says. -/
namespace Go.Proofs.YtghlcmljgpkjiabGreat
open Go.RowKit Go.Joins
set_option linter.unusedVariables false
set_option linter.unusedSimpArgs false
set_option maxRecDepth 8192

def RegsP (L : Lp) (t : Tg) (P : Int) (T : List Int) (w : World) (e : Ending) (w' : World) : Prop := Below w.heap.size w w' ∧ ∃ da dl dc c, e = .returned (.tuple #[.slice da dl dc, .int .i64 c]) ∧ (legalD L t P T = false → c = 2 ∧ dl = 0) ∧
    (legalD L t P T = true → (c = 1 ∧ dl = 0 ∧ ¬ (5 * (L.body.length : Int) ≤ t.r ∧ overB L t P T = true)) ∨ (c = 0 ∧ ∃ D, Ints w' (.slice da dl dc) D ∧ destsOk L t D = true ∧ takenD L t (emitD L t P T D) (natO L.body.length) = true))
set_option maxHeartbeats 4000000 in
theorem regsgo_no (hS : SLegalC) (p0 p1 p2 q0 q1 q2 r : Int) (L : Lp) (a0 a1 a2 : Option Addr) (cap0 cap1 cap2 : Nat) (P : Int) (T : List Int) (ta : Option Addr) (tc : Nat) (w : World) (hL : LoopV w (.agg #[.slice a0 L.logs.length cap0, .slice a1 L.body.length cap1, .slice a2 L.outs.length cap2]) L) (hP : PlanV w (.agg #[.int .i64 P, .slice ta T.length tc]) P T) (hlg : legalD L ⟨p0, p1, p2, q0, q1, q2, r⟩ P T = false) :
    Calls Tryz.prog 11 #[.agg #[.slice a0 L.logs.length cap0, .slice a1 L.body.length cap1, .slice a2 L.outs.length cap2], .agg #[.int .i64 p0, .int .i64 p1, .int .i64 p2, .int .i64 q0, .int .i64 q1, .int .i64 q2, .int .i64 r], .agg #[.int .i64 P, .slice ta T.length tc]] w fun e w' => RegsP L ⟨p0, p1, p2, q0, q1, q2, r⟩ P T w e w' := by
  have HB3 := hide (below_alloc3 w (.cells #[.slice a0 L.logs.length cap0, .slice a1 L.body.length cap1, .slice a2 L.outs.length cap2] 25) (.cells #[.int .i64 p0, .int .i64 p1, .int .i64 p2, .int .i64 q0, .int .i64 q1, .int .i64 q2, .int .i64 r] 28) (.cells #[.int .i64 P, .slice ta T.length tc] 49))
  have HLG := hide (hS (.agg #[.slice a0 L.logs.length cap0, .slice a1 L.body.length cap1, .slice a2 L.outs.length cap2]) (.agg #[.int .i64 P, .slice ta T.length tc]) ⟨p0, p1, p2, q0, q1, q2, r⟩ L P T (((w.alloc (.cells #[.slice a0 L.logs.length cap0, .slice a1 L.body.length cap1, .slice a2 L.outs.length cap2] 25)).alloc (.cells #[.int .i64 p0, .int .i64 p1, .int .i64 p2, .int .i64 q0, .int .i64 q1, .int .i64 q2, .int .i64 r] 28)).alloc (.cells #[.int .i64 P, .slice ta T.length tc] 49)) (hL.below HB3.out) (hP.below HB3.out))
  rw [hlg] at HLG
  have HEND : Hid (∀ w', Below w.heap.size w w' → RegsP L ⟨p0, p1, p2, q0, q1, q2, r⟩ P T w (.returned (.tuple #[.slice none 0 0, .int .i64 2])) w') := fun w' h => ⟨h, none, 0, 0, 2, rfl, fun _ => ⟨rfl, rfl⟩, fun h => by rw [hlg] at h; cases h⟩
  clear hL hP hlg
  go_enter Tryz.func11, Tryz.ntmps11
  go_wp2_with fail
  refine HLG.out.mono ?_
  rintro e x1 ⟨rfl, hb⟩
  have HP := hide (HEND.out x1 (HB3.out.trans (hb.mono HB3.out.size)))
  clear hb HLG
  go_wp2_with fail
  go_ret2
  exact HP.out
/-- the row of registers, half way -/
def destL (Q : Nat → Int) (T : List Int) (P R : Int) (k : Nat) : List Int := (List.range k).map fun s => (Q s - nth T s / P) % R
theorem destL_len (Q : Nat → Int) (T : List Int) (P R : Int) (k : Nat) : (destL Q T P R k).length = k := by unfold destL; simp
theorem destL_at {Q : Nat → Int} {T : List Int} {P R : Int} {k s : Nat} (h : s < k) : nth (destL Q T P R k) s = (Q s - nth T s / P) % R := nth_range h
theorem destL_snoc (Q : Nat → Int) (T : List Int) (P R : Int) (k : Nat) : (destL Q T P R k).map (Value.int .i64) ++ [.int .i64 ((Q k - nth T k / P) % R)] = (destL Q T P R (k + 1)).map (Value.int .i64) := by
  unfold destL
  rw [List.range_succ]
  simp
theorem one_cellM (w : World) (x : Value) (t : TypeId) (g : Nat) (hg : w.heap.size = g) : ∀ (j : Nat) (u : Value), [x][j]? = some u → (w.alloc (.cells #[x] t)).cell? ((⟨g, 0, none⟩ : Addr).add j) = some u := by
  intro j u hj
  subst hg
  have ha : (⟨w.heap.size, 0, none⟩ : Addr).add j = ⟨w.heap.size, j, none⟩ := by simp [Addr.add]; omega
  rw [ha, cell_of_block (new_blkS w #[x] t)]
  simpa using hj
theorem regs_found {L : Lp} {t : Tg} {P : Int} {T : List Int} {R : Nat} (hR : t.r = (R : Int)) (hR1 : 1 ≤ R) (hlg : legalD L t P T = true) {B : Nat → Nat → Nat → Bool} (hB : BarOk L.body.length R (EvR (livesR L t P T) P R) B) {Q : Nat → Int} (hself : ∀ a, a < L.body.length → B a a 0 = false) (hpair : ∀ a m, a < L.body.length → m < L.body.length → a ≠ m → B a m ((Q a - Q m) % (R : Int)).toNat = false) :
    destsOk L t (destL Q T P R L.body.length) = true ∧ takenD L t (emitD L t P T (destL Q T P R L.body.length)) (natO L.body.length) = true := by
  have hd : destsOk L t (destL Q T P R L.body.length) = true := by
    unfold destsOk
    rw [destL_len, decide_eq_true rfl, Bool.true_and]
    refine allN_mk fun s hs => ?_
    rw [destL_at hs, hR]
    have h1 := Int.emod_nonneg (Q s - nth T s / P) (show (R : Int) ≠ 0 by omega)
    have h2 := Int.emod_lt_of_pos (Q s - nth T s / P) (show 0 < (R : Int) by omega)
    exact inR_yes ⟨h1, by omega⟩
  refine ⟨hd, places_taken hlg hd (B := B) (Q := Q) (by rw [hR]; exact hB) hself (fun a m ha hm hne => by rw [hR]; exact hpair a m ha hm hne) (fun s hs => by rw [hR]; exact destL_at hs)⟩
theorem regs_near {L : Lp} {t : Tg} {P : Int} {T : List Int} {R : Nat} (hR : t.r = (R : Int)) (hlg : legalD L t P T = true) {B : Nat → Nat → Nat → Bool} (hB : BarOk L.body.length R (EvR (livesR L t P T) P R) B) (h5 : 5 * (L.body.length : Int) ≤ t.r) (hov : overB L t P T = true) : NearB L.body.length R B := by
  have h := near_over (B := B) hlg (fun s hs => of_decide_eq_true (allN_get hov s hs)) h5 (by rw [hR]; exact hB)
  rw [hR] at h
  exact h
set_option maxHeartbeats 16000000 in
set_option maxRecDepth 100000 in
theorem regsgo_yes (hS : SLegalC) (p0 p1 p2 q0 q1 q2 : Int) (R : Nat) (L : Lp) (a0 a2 : Option Addr) (b off cap0 cap1 cap2 : Nat) (P : Int) (T : List Int) (tb to tc : Nat) (w : World) (hL : LoopV w (.agg #[.slice a0 L.logs.length cap0, .slice (some ⟨b, off, none⟩) L.body.length cap1, .slice a2 L.outs.length cap2]) L) (hP : PlanV w (.agg #[.int .i64 P, .slice (some ⟨tb, to, none⟩) T.length tc]) P T) (hlg : legalD L ⟨p0, p1, p2, q0, q1, q2, R⟩ P T = true) (hbz : b < w.heap.size) (hbody : ∀ i, i < L.body.length → ∀ j, j < 9 → w.cell? ⟨b, off + i * 9 + j, none⟩ = (stCells (stAt L.body i))[j]?) (hl1 : L.body.length ≤ cap1) (hm1 : cap1 ≤ 9223372036854775807)
    (htz : tb < w.heap.size) (htcell : ∀ i, i < T.length → w.cell? ⟨tb, to + i, none⟩ = some (.int .i64 (nth T i))) (htl1 : T.length ≤ tc) (htm : tc ≤ 9223372036854775807)
    (hout : 0 < L.outs.length → ∃ ob oo, a2 = some ⟨ob, oo, none⟩ ∧ ob < w.heap.size ∧ ∀ i, i < L.outs.length → w.cell? ⟨ob, oo + i, none⟩ = some (.int .i64 (nth L.outs i))) (hol : L.outs.length ≤ cap2) (hom : cap2 ≤ 9223372036854775807) :
    Calls Tryz.prog 11 #[.agg #[.slice a0 L.logs.length cap0, .slice (some ⟨b, off, none⟩) L.body.length cap1, .slice a2 L.outs.length cap2], .agg #[.int .i64 p0, .int .i64 p1, .int .i64 p2, .int .i64 q0, .int .i64 q1, .int .i64 q2, .int .i64 R], .agg #[.int .i64 P, .slice (some ⟨tb, to, none⟩) T.length tc]] w fun e w' => RegsP L ⟨p0, p1, p2, q0, q1, q2, R⟩ P T w e w' := by
  obtain ⟨hm, hmt, hp1, hp2, htl, -, -⟩ := legal_parts hlg
  obtain ⟨-, h1n, h16, -⟩ := may_parts hm
  have hR : 1 ≤ R ∧ R ≤ 128 := by obtain ⟨-, -, -, h4, h5⟩ := mayT_parts hmt; have h4 : 1 ≤ (R : Int) := h4; have h5 : (R : Int) ≤ 128 := h5; omega
  obtain ⟨hR1, hR2⟩ := hR
  obtain ⟨j0, ji, jz0, jz1, jz2⟩ := info_parts Tryz.j3
  have HB3 := hide (below_alloc3 w (.cells #[.slice a0 L.logs.length cap0, .slice (some ⟨b, off, none⟩) L.body.length cap1, .slice a2 L.outs.length cap2] 25) (.cells #[.int .i64 p0, .int .i64 p1, .int .i64 p2, .int .i64 q0, .int .i64 q1, .int .i64 q2, .int .i64 R] 28) (.cells #[.int .i64 P, .slice (some ⟨tb, to, none⟩) T.length tc] 49))
  have HS : Hid ((((w.alloc (.cells #[.slice a0 L.logs.length cap0, .slice (some ⟨b, off, none⟩) L.body.length cap1, .slice a2 L.outs.length cap2] 25)).alloc (.cells #[.int .i64 p0, .int .i64 p1, .int .i64 p2, .int .i64 q0, .int .i64 q1, .int .i64 q2, .int .i64 R] 28)).alloc (.cells #[.int .i64 P, .slice (some ⟨tb, to, none⟩) T.length tc] 49)).heap.size = w.heap.size + 1 + 1 + 1) := by show _ = _; simp
  have HLG := hide (hS (.agg #[.slice a0 L.logs.length cap0, .slice (some ⟨b, off, none⟩) L.body.length cap1, .slice a2 L.outs.length cap2]) (.agg #[.int .i64 P, .slice (some ⟨tb, to, none⟩) T.length tc]) ⟨p0, p1, p2, q0, q1, q2, R⟩ L P T (((w.alloc (.cells #[.slice a0 L.logs.length cap0, .slice (some ⟨b, off, none⟩) L.body.length cap1, .slice a2 L.outs.length cap2] 25)).alloc (.cells #[.int .i64 p0, .int .i64 p1, .int .i64 p2, .int .i64 q0, .int .i64 q1, .int .i64 q2, .int .i64 R] 28)).alloc (.cells #[.int .i64 P, .slice (some ⟨tb, to, none⟩) T.length tc] 49)) (hL.below HB3.out) (hP.below HB3.out))
  rw [hlg, HS.out] at HLG
  have HLV := hide (fun W (hW : Below w.heap.size w W) => lives_walk p0 p1 p2 q0 q1 q2 R L a0 a2 b off cap0 cap1 cap2 P T tb to tc W hlg (Nat.lt_of_lt_of_le hbz hW.size) (fun i hi j hj => (bcell hW _ _ hbz).trans (hbody i hi j hj)) hl1 hm1 (Nat.lt_of_lt_of_le htz hW.size) (fun i hi => (bcell hW _ _ htz).trans (htcell i hi)) htl1 htm (fun h => by obtain ⟨ob, oo, e, h1, h2⟩ := hout h; exact ⟨ob, oo, e, Nat.lt_of_lt_of_le h1 hW.size, fun i hi => (bcell hW _ _ h1).trans (h2 i hi)⟩) hol hom)
  have HTB := hide (fun W lb (h : LvV L.body.length lb (livesR L ⟨p0, p1, p2, q0, q1, q2, R⟩ P T) W) => barsOf_any L.body.length R lb (livesR L ⟨p0, p1, p2, q0, q1, q2, R⟩ P T) P W h (lives_ok hlg) h1n h16 hR1 hR2 hp1 hp2)
  have HFP := hide (fun W rb cb base B (h : BarsV ⟨L.body.length, R, base, rb, cb⟩ base B W) (hs : SymB L.body.length R B) (hz : base ≤ W.heap.size) => findPlaces_any ⟨L.body.length, R, base, rb, cb⟩ W h hs hz h1n h16 hR1 hR2)
  have HFOUND := hide (fun B (hB : BarOk L.body.length R (EvR (livesR L ⟨p0, p1, p2, q0, q1, q2, R⟩ P T) P R) B) Q hself hpair => regs_found (t := ⟨p0, p1, p2, q0, q1, q2, R⟩) (R := R) rfl hR1 hlg hB (Q := Q) hself hpair)
  have HNEAR := hide (fun B (hB : BarOk L.body.length R (EvR (livesR L ⟨p0, p1, p2, q0, q1, q2, R⟩ P T) P R) B) (h5 : 5 * (L.body.length : Int) ≤ R) (hov : overB L ⟨p0, p1, p2, q0, q1, q2, R⟩ P T = true) => regs_near (t := ⟨p0, p1, p2, q0, q1, q2, R⟩) (R := R) rfl hlg hB h5 hov)
  have HNONE : Hid (∀ w', Below w.heap.size w w' → ¬ (5 * (L.body.length : Int) ≤ R ∧ overB L ⟨p0, p1, p2, q0, q1, q2, R⟩ P T = true) → RegsP L ⟨p0, p1, p2, q0, q1, q2, R⟩ P T w (.returned (.tuple #[.slice none 0 0, .int .i64 1])) w') := fun w' h hn => ⟨h, none, 0, 0, 1, rfl, fun h => (by rw [hlg] at h; cases h), fun _ => .inl ⟨rfl, rfl, hn⟩⟩
  have HYES : Hid (∀ w' da dc D, Below w.heap.size w w' → Ints w' (.slice da L.body.length dc) D → destsOk L ⟨p0, p1, p2, q0, q1, q2, R⟩ D = true → takenD L ⟨p0, p1, p2, q0, q1, q2, R⟩ (emitD L ⟨p0, p1, p2, q0, q1, q2, R⟩ P T D) (natO L.body.length) = true → RegsP L ⟨p0, p1, p2, q0, q1, q2, R⟩ P T w (.returned (.tuple #[.slice da L.body.length dc, .int .i64 0])) w') := fun w' da dc D h h1 h2 h3 => ⟨h, da, _, dc, 0, rfl, fun h => (by rw [hlg] at h; cases h), fun _ => .inr ⟨rfl, D, h1, h2, h3⟩⟩
  have HTM := hide (fun s (h : s < L.body.length) => legal_time hlg h)
  have HTL := hide htl
  have HTC := hide htcell
  clear hL hP hlg hm hmt htl hbody htcell hout
  go_enter Tryz.func11, Tryz.ntmps11
  go_wp2_with fail
  refine HLG.out.mono ?_
  rintro e x1 ⟨rfl, hb1⟩
  have HB1 := hide hb1
  have HSS : Hid (∀ w', Below (w.heap.size + 1 + 1 + 1) (((w.alloc (.cells #[.slice a0 L.logs.length cap0, .slice (some ⟨b, off, none⟩) L.body.length cap1, .slice a2 L.outs.length cap2] 25)).alloc (.cells #[.int .i64 p0, .int .i64 p1, .int .i64 p2, .int .i64 q0, .int .i64 q1, .int .i64 q2, .int .i64 R] 28)).alloc (.cells #[.int .i64 P, .slice (some ⟨tb, to, none⟩) T.length tc] 49)) w' → w'.cell? ⟨w.heap.size, 0, none⟩ = some (.slice a0 L.logs.length cap0) ∧ w'.cell? ⟨w.heap.size, 1, none⟩ = some (.slice (some ⟨b, off, none⟩) L.body.length cap1) ∧ w'.cell? ⟨w.heap.size, 2, none⟩ = some (.slice a2 L.outs.length cap2) ∧ w'.cell? ⟨w.heap.size + 1, 0, none⟩ = some (.int .i64 p0) ∧ w'.cell? ⟨w.heap.size + 1, 1, none⟩ = some (.int .i64 p1) ∧ w'.cell? ⟨w.heap.size + 1, 2, none⟩ = some (.int .i64 p2) ∧ w'.cell? ⟨w.heap.size + 1, 3, none⟩ = some (.int .i64 q0) ∧ w'.cell? ⟨w.heap.size + 1, 4, none⟩ = some (.int .i64 q1) ∧ w'.cell? ⟨w.heap.size + 1, 5, none⟩ = some (.int .i64 q2) ∧ w'.cell? ⟨w.heap.size + 1, 6, none⟩ = some (.int .i64 R) ∧ w'.cell? ⟨w.heap.size + 1 + 1, 0, none⟩ = some (.int .i64 P) ∧ w'.cell? ⟨w.heap.size + 1 + 1, 1, none⟩ = some (.slice (some ⟨tb, to, none⟩) T.length tc)) := fun w' h => by
    obtain ⟨⟨l0, l1, l2⟩, ⟨t0, t1, t2, t3, t4, t5, t6⟩, ⟨y0, y1⟩, -, -⟩ := lbox_cells h
    exact ⟨l0, l1, l2, t0, t1, t2, t3, t4, t5, t6, y0, y1⟩
  have hx1 : w.heap.size + 1 + 1 + 1 ≤ x1.heap.size := by have := hb1.size; rw [HS.out] at this; exact this
  clear hb1 HLG
  go_wp2_with fail
  refine wp_region_noPanic ?_
  refine region_until 99 (fun w' => w'.cell? ⟨w.heap.size, 0, none⟩ = some (.slice a0 L.logs.length cap0) ∧ w'.cell? ⟨w.heap.size, 1, none⟩ = some (.slice (some ⟨b, off, none⟩) L.body.length cap1) ∧ w'.cell? ⟨w.heap.size, 2, none⟩ = some (.slice a2 L.outs.length cap2) ∧ w'.cell? ⟨w.heap.size + 1, 0, none⟩ = some (.int .i64 p0) ∧ w'.cell? ⟨w.heap.size + 1, 1, none⟩ = some (.int .i64 p1) ∧ w'.cell? ⟨w.heap.size + 1, 2, none⟩ = some (.int .i64 p2) ∧ w'.cell? ⟨w.heap.size + 1, 3, none⟩ = some (.int .i64 q0) ∧ w'.cell? ⟨w.heap.size + 1, 4, none⟩ = some (.int .i64 q1) ∧ w'.cell? ⟨w.heap.size + 1, 5, none⟩ = some (.int .i64 q2) ∧ w'.cell? ⟨w.heap.size + 1, 6, none⟩ = some (.int .i64 R) ∧ w'.cell? ⟨w.heap.size + 1 + 1, 0, none⟩ = some (.int .i64 P) ∧ w'.cell? ⟨w.heap.size + 1 + 1, 1, none⟩ = some (.slice (some ⟨tb, to, none⟩) T.length tc)) (by kernel_rfl) (HSS.out _ (HB1.out.trans (below_draws _ _ 1))) (fun hHeld => ?_)
  refine utk (i := 0) rfl hHeld ?_
  try simp only [Act.put, List.setIfInBounds_toArray, List.set_cons_zero, List.set_cons_succ]
  refine utk (i := 1) rfl hHeld ?_
  try simp only [Act.put, List.setIfInBounds_toArray, List.set_cons_zero, List.set_cons_succ]
  refine utk (i := 2) rfl hHeld ?_
  try simp only [Act.put, List.setIfInBounds_toArray, List.set_cons_zero, List.set_cons_succ]
  refine utk (i := 4) rfl hHeld ?_
  try simp only [Act.put, List.setIfInBounds_toArray, List.set_cons_zero, List.set_cons_succ]
  refine utk (i := 5) rfl hHeld ?_
  try simp only [Act.put, List.setIfInBounds_toArray, List.set_cons_zero, List.set_cons_succ]
  refine utk (i := 6) rfl hHeld ?_
  try simp only [Act.put, List.setIfInBounds_toArray, List.set_cons_zero, List.set_cons_succ]
  refine utk (i := 7) rfl hHeld ?_
  try simp only [Act.put, List.setIfInBounds_toArray, List.set_cons_zero, List.set_cons_succ]
  refine until_one (i := 3) rfl (by kernel_rfl) (fun K hK9 => ?_)
  go_simp
  refine (HLV.out _ ((HB3.out.trans (HB1.out.mono (by omega))).trans (below_draws _ _ 1))).mono ?_
  rintro e y1 ⟨lb, rfl, hLv, hlb, hby1⟩
  have HY1 : Hid (Below (w.heap.size + 1 + 1 + 1) (((w.alloc (.cells #[.slice a0 L.logs.length cap0, .slice (some ⟨b, off, none⟩) L.body.length cap1, .slice a2 L.outs.length cap2] 25)).alloc (.cells #[.int .i64 p0, .int .i64 p1, .int .i64 p2, .int .i64 q0, .int .i64 q1, .int .i64 q2, .int .i64 R] 28)).alloc (.cells #[.int .i64 P, .slice (some ⟨tb, to, none⟩) T.length tc] 49)) y1) := HB1.out.trans ((below_draws _ x1 1).trans (hby1.mono hx1))
  have HLIV := hide hLv
  have hH1 := HSS.out _ HY1.out
  clear hLv hby1 hlb
  refine hK9.out _ _ (.inr hH1) ?_
  clear hK9 K
  try simp only [Act.put, List.setIfInBounds_toArray, List.set_cons_zero, List.set_cons_succ]
  refine until_one (i := 8) rfl (by kernel_rfl) (fun K hK9 => ?_)
  go_simp
  refine (HTB.out y1 lb HLIV.out).mono ?_
  rintro e y2 ⟨rb, cb, rfl, ⟨B, hBV, hBO⟩, hby2⟩
  have hy1z : w.heap.size + 1 + 1 + 1 ≤ y1.heap.size := by have := HY1.out.size; rw [HS.out] at this; exact this
  have HY2 : Hid (Below (w.heap.size + 1 + 1 + 1) (((w.alloc (.cells #[.slice a0 L.logs.length cap0, .slice (some ⟨b, off, none⟩) L.body.length cap1, .slice a2 L.outs.length cap2] 25)).alloc (.cells #[.int .i64 p0, .int .i64 p1, .int .i64 p2, .int .i64 q0, .int .i64 q1, .int .i64 q2, .int .i64 R] 28)).alloc (.cells #[.int .i64 P, .slice (some ⟨tb, to, none⟩) T.length tc] 49)) y2) := HY1.out.trans (hby2.mono hy1z)
  have HCALL := hide (HFP.out y2 rb cb y1.heap.size B hBV (hBO.sym (by omega)) hby2.size)
  have HBO := hide hBO
  have hH2 := HSS.out _ HY2.out
  clear hBV hBO hby2
  refine hK9.out _ _ (.inr hH2) ?_
  clear hK9 K
  try simp only [Act.put, List.setIfInBounds_toArray, List.set_cons_zero, List.set_cons_succ]
  refine until_one (i := 9) rfl (by kernel_rfl) (fun K hK9 => ?_)
  go_simp
  refine HCALL.out.mono ?_
  rintro e y3 ⟨va, ok, rfl, hby3, hnear, hok⟩
  have HY3 : Hid (Below (w.heap.size + 1 + 1 + 1) (((w.alloc (.cells #[.slice a0 L.logs.length cap0, .slice (some ⟨b, off, none⟩) L.body.length cap1, .slice a2 L.outs.length cap2] 25)).alloc (.cells #[.int .i64 p0, .int .i64 p1, .int .i64 p2, .int .i64 q0, .int .i64 q1, .int .i64 q2, .int .i64 R] 28)).alloc (.cells #[.int .i64 P, .slice (some ⟨tb, to, none⟩) T.length tc] 49)) y3) := HY2.out.trans (hby3.mono hy1z)
  have hH3 := HSS.out _ HY3.out
  have HNE := hide hnear
  have HOK := hide hok
  clear hby3 hnear hok HCALL
  refine hK9.out _ _ (.inr hH3) ?_
  clear hK9 K
  try simp only [Act.put, List.setIfInBounds_toArray, List.set_cons_zero, List.set_cons_succ]
  refine utk (i := 10) rfl hH3 ?_
  try simp only [Act.put, List.setIfInBounds_toArray, List.set_cons_zero, List.set_cons_succ]
  refine utk (i := 11) rfl hH3 ?_
  try simp only [Act.put, List.setIfInBounds_toArray, List.set_cons_zero, List.set_cons_succ]
  refine utk (i := 12) rfl hH3 ?_
  try simp only [Act.put, List.setIfInBounds_toArray, List.set_cons_zero, List.set_cons_succ]
  refine utk (i := 13) rfl hH3 ?_
  try simp only [Act.put, List.setIfInBounds_toArray, List.set_cons_zero, List.set_cons_succ]
  refine utk (i := 14) rfl hH3 ?_
  try simp only [Act.put, List.setIfInBounds_toArray, List.set_cons_zero, List.set_cons_succ]
  refine until_done (by kernel_rfl) ?_ _
  refine NoPanic.normal ?_
  clear hHeld hH1 hH2 hH3 HLV HTB HFP HLIV
  have HW3 : Hid (Below w.heap.size w y3) := HB3.out.trans (HY3.out.mono (by omega))
  cases ok with
  | false =>
    have HP := hide (HNONE.out y3 HW3.out (fun h => by have := HNE.out (HNEAR.out B HBO.out h.1 h.2); cases this))
    go_wp2_with fail
    go_ret2
    exact HP.out
  | true =>
    obtain ⟨pb, Q, rfl, hrow, hqr, hself, hpair⟩ := HOK.out rfl
    have HROW := hide hrow
    have HQR := hide hqr
    have HFD := hide (HFOUND.out B HBO.out Q hself hpair)
    have hpz := hrow.lt
    clear hrow hqr hself hpair HOK HNE HNEAR HFOUND HBO HNONE
    obtain ⟨⟨l0, l1, l2⟩, -, -, hz, -⟩ := lbox_cells HY3.out
    have HST := hide (own_empty y3 3)
    have hza : w.heap.size < y3.heap.size := by omega
    have hzb : w.heap.size + 1 < y3.heap.size := by omega
    have hzc : w.heap.size + 1 + 1 < y3.heap.size := by omega
    go_wp2_with fail
    clear l0 l1 l2
    go_loopw [10, 37] (fun ov iv wr => ∃ k : Nat, k ≤ L.body.length ∧ iv = .int .i64 k ∧ ∃ ua uc, ov = .slice ua k uc ∧ wr.ownsRow y3.heap.size 3 1 (.slice ua k uc) k ((destL Q T P R k).map (Value.int .i64)) ∧ Below y3.heap.size y3 wr) (fun _ iv _ => L.body.length - (intOf iv).toNat)
    case atStart => exact ⟨0, Nat.zero_le _, rfl, _, _, rfl, HST.out, below_alloc1 _ _⟩
    case round =>
      clear HST
      obtain ⟨k, hk, rfl, ua, uc, rfl, hown, hbel⟩ := hrel
      have HOW := hide hown
      have HBL := hide hbel
      have HYW : Hid (Below (w.heap.size + 1 + 1 + 1) (((w.alloc (.cells #[.slice a0 L.logs.length cap0, .slice (some ⟨b, off, none⟩) L.body.length cap1, .slice a2 L.outs.length cap2] 25)).alloc (.cells #[.int .i64 p0, .int .i64 p1, .int .i64 p2, .int .i64 q0, .int .i64 q1, .int .i64 q2, .int .i64 R] 28)).alloc (.cells #[.int .i64 P, .slice (some ⟨tb, to, none⟩) T.length tc] 49)) wr) := HY3.out.trans (hbel.mono (by omega))
      have hzr := hbel.size
      clear hown hbel
      by_cases hkl : k < L.body.length
      · have hki : (k : Int) < (L.body.length : Int) := by omega
        obtain ⟨-, ⟨-, -, -, -, -, -, t6⟩, ⟨y0, y1'⟩, hz2, hbw⟩ := lbox_cells HYW.out
        have hzd : w.heap.size < wr.heap.size := by omega
        have hze : w.heap.size + 1 < wr.heap.size := by omega
        have hzf : w.heap.size + 1 + 1 < wr.heap.size := by omega
        have htz2 : tb < wr.heap.size := by have := hbw.size; omega
        have hkT : (k : Int) < (T.length : Int) := by have := HTL.out; omega
        have cT := (bcell hbw tb (to + k) htz).trans (HTC.out k (by have := HTL.out; omega))
        have cQ := (HROW.out.below HBL.out hpz).cell hkl
        have hpz2 : pb < wr.heap.size := by omega
        obtain ⟨tm1, tm2, -⟩ := HTM.out k hkl
        obtain ⟨q1, q2⟩ := HQR.out k hkl
        have hq128 : Q k < 128 := by have : (⟨L.body.length, R, y1.heap.size, rb, cb⟩ : Bc).R = R := rfl; omega
        have hSN := destL_snoc Q T P R k
        have hst0 : 0 ≤ nth T k / P := Int.ediv_nonneg tm1 (by omega)
        have hst1 : nth T k / P ≤ 1000 := Int.le_trans (Int.ediv_le_self _ tm1) tm2
        have htd : (nth T k).tdiv P = nth T k / P := Int.tdiv_eq_ediv_of_nonneg tm1
        obtain ⟨dk, hdk⟩ : ∃ dk, (Q k - nth T k / P) % (R : Int) = dk := ⟨_, rfl⟩
        have HL := hide (fun W => rleft_any (Q k - nth T k / P) R dk W (by omega) (by omega) (by omega) (by omega) hdk)
        rw [hdk] at hSN
        have HSN := hide hSN
        generalize Q k = qk at *
        generalize nth T k = tk at *
        obtain ⟨st, hst⟩ : ∃ st, tk / P = st := ⟨_, rfl⟩
        rw [hst] at htd HL hst0 hst1
        have hw1 : wrap64 st = st := by unfold wrap64; omega
        have hw2 : wrap64 (qk - st) = qk - st := by unfold wrap64; omega
        have hw3 : IntKind.i64.wrap (qk - st) = qk - st := i64_wrap _ (by omega) (by omega)
        have hw4 : IntKind.i64.wrap st = st := i64_wrap _ (by omega) (by omega)
        have hP0 : ¬ P = 0 := by omega
        have HQK : Hid (∀ W, Below y3.heap.size y3 W → W.cell? ⟨pb, k, none⟩ = some (.int .i64 qk)) := fun W hW => by rw [bcell hW _ _ hpz, ← bcell HBL.out _ _ hpz]; exact cQ
        clear hSN hst hdk hbw
        have HSS2 : Hid (∀ W, Below wr.heap.size wr W → W.cell? ⟨w.heap.size + 1, 6, none⟩ = some (.int .i64 R) ∧ W.cell? ⟨pb, k, none⟩ = some (.int .i64 qk)) := fun W hW => ⟨by rw [bcell hW _ _ (by omega)]; exact t6, by rw [bcell hW _ _ hpz2]; exact cQ⟩
        go_wp2_with fail
        go_big_quiet ((fail))
        go_wp2_with fail
        have HQD : Hid (Below wr.heap.size wr (wr.drewN nq)) := below_draws _ _ _
        generalize hyy : wr.drewN nq = yq at *
        refine wp_region_noPanic ?_
        refine region_until 99 (fun w' => w'.cell? ⟨w.heap.size + 1, 6, none⟩ = some (.int .i64 R) ∧ w'.cell? ⟨pb, k, none⟩ = some (.int .i64 qk)) (by kernel_rfl) (HSS2.out _ (HQD.out.trans (below_draws _ _ 1))) (fun hHeld => ?_)
        refine utk (i := 0) rfl hHeld ?_
        try simp only [Act.put, List.setIfInBounds_toArray, List.set_cons_zero, List.set_cons_succ]
        refine utk (i := 1) rfl hHeld ?_
        try simp only [Act.put, List.setIfInBounds_toArray, List.set_cons_zero, List.set_cons_succ]
        refine utk (i := 2) rfl hHeld ?_
        try simp only [Act.put, List.setIfInBounds_toArray, List.set_cons_zero, List.set_cons_succ]
        refine utk (i := 3) rfl hHeld ?_
        try simp only [Act.put, List.setIfInBounds_toArray, List.set_cons_zero, List.set_cons_succ]
        refine utk (i := 4) rfl hHeld ?_
        try simp only [Act.put, List.setIfInBounds_toArray, List.set_cons_zero, List.set_cons_succ]
        refine utk (i := 5) rfl hHeld ?_
        try simp only [Act.put, List.setIfInBounds_toArray, List.set_cons_zero, List.set_cons_succ]
        refine utk (i := 6) rfl hHeld ?_
        try simp only [Act.put, List.setIfInBounds_toArray, List.set_cons_zero, List.set_cons_succ]
        refine utk (i := 7) rfl hHeld ?_
        try simp only [Act.put, List.setIfInBounds_toArray, List.set_cons_zero, List.set_cons_succ]
        refine utk (i := 8) rfl hHeld ?_
        try simp only [Act.put, List.setIfInBounds_toArray, List.set_cons_zero, List.set_cons_succ]
        refine until_one (i := 9) rfl (by kernel_rfl) (fun K hK9 => ?_)
        go_simp
        refine (HL.out _).mono ?_
        rintro e x2 ⟨rfl, rfl⟩
        refine hK9.out _ _ (.inr hHeld) ?_
        clear hK9 K
        try simp only [Act.put, List.setIfInBounds_toArray, List.set_cons_zero, List.set_cons_succ]
        have HBA : Hid (Below wr.heap.size wr (yq.drew.alloc (.cells #[.int .i64 dk] 3))) := (HQD.out.trans (below_draws _ _ 1)).trans ((below_alloc1 yq.drew _).mono (HQD.out.trans (below_draws _ _ 1)).size)
        have hH2 := HSS2.out _ HBA.out
        refine until_one (i := 10) rfl (by kernel_rfl) (fun K hK9 => ?_)
        go_simp
        refine hK9.out _ _ (.inr hH2) ?_
        clear hK9 K
        try simp only [Act.put, List.setIfInBounds_toArray, List.set_cons_zero, List.set_cons_succ]
        refine until_one (i := 11) rfl (by kernel_rfl) (fun K hK9 => ?_)
        refine step_append_lies _ (by rfl) (.tmp 48) (.tmp 58) 22 (by rfl) y3.heap.size 3 j0 (.int .i64 0) 1 8 Tryz.underlying22 ji jz0 jz1 jz2 rfl (by decide) _ k _ (by rfl) (own_below HOW.out HBA.out) ⟨yq.drew.heap.size, 0, none⟩ 1 1 [.int .i64 dk] (by rfl) rfl (one_cellM _ _ _ _ rfl) (by intro u hu; simp at hu; subst hu; rfl) (by decide) (by unfold maxLen; omega) (by omega) (Nat.le_trans hzr HBA.out.size) _ rfl ?_
        intro g2 e2 w2 hown2 hgrow2 hat hlt
        rw [HSN.out] at hown2
        have HO2 := hide hown2
        have HG2 := hide (((HBL.out.trans (HBA.out.mono hzr))).grown hgrow2 (Nat.le_trans hzr HBA.out.size) (own_block_ge HOW.out))
        have hH4 : w2.cell? ⟨w.heap.size + 1, 6, none⟩ = some (.int .i64 R) ∧ w2.cell? ⟨pb, k, none⟩ = some (.int .i64 qk) := by
          have hY := HY3.out.trans (HG2.out.mono (by omega))
          obtain ⟨-, ⟨-, -, -, -, -, -, u6⟩, -, -, -⟩ := lbox_cells hY
          exact ⟨u6, HQK.out w2 HG2.out⟩
        clear hown2 hgrow2 hat hlt
        refine hK9.out _ _ (.inr hH4) ?_
        clear hK9 K
        try simp only [Act.put, List.setIfInBounds_toArray, List.set_cons_zero, List.set_cons_succ]
        refine utk (i := 12) rfl hH4 ?_
        try simp only [Act.put, List.setIfInBounds_toArray, List.set_cons_zero, List.set_cons_succ]
        refine until_done (by kernel_rfl) ?_ _
        refine NoPanic.normal ?_
        clear hHeld hH2 hH4 HSS2 HBA HQD
        go_wp2_with fail
        go_roundw
        case rel => exact ⟨k + 1, by omega, by go_num, _, _, rfl, HO2.out, HG2.out⟩
        case measure => simp [intOf]; omega
      · have e : k = L.body.length := by omega
        have hki : ¬ (k : Int) < (L.body.length : Int) := by omega
        have HP : Hid (RegsP L ⟨p0, p1, p2, q0, q1, q2, R⟩ P T w (.returned (.tuple #[.slice ua k uc, .int .i64 0])) wr) := by
          have h := HOW.out
          subst e
          refine HYES.out wr ua uc _ (HW3.out.trans (HBL.out.mono HW3.out.size)) ?_ HFD.out.1 HFD.out.2
          have h2 := ints_of_ownE (zs := destL Q T P R L.body.length) (by rw [destL_len]; exact h) (fun i hi => by
            rw [destL_len] at hi
            rw [destL_at hi]
            have h1 := Int.emod_nonneg (Q i - nth T i / P) (show (R : Int) ≠ 0 by omega)
            have h2 := Int.emod_lt_of_pos (Q i - nth T i / P) (show 0 < (R : Int) by omega)
            omega)
          exact h2
        clear e
        go_wp2_with fail
        go_ret2
        exact HP.out
theorem regs_any (hS : SLegalC) : RegsC := by
  intro v pv t L P T w hL hP
  obtain ⟨p0, p1, p2, q0, q1, q2, r⟩ := t
  have hL' := hL
  obtain ⟨v0, v1, v2, rfl, ⟨a0, cap0, rfl, -⟩, ⟨a1, cap1, rfl, h1, h2, h3⟩, ⟨a2, cap2, rfl, g1, g2, g3, g4⟩⟩ := hL'
  have hP' := hP
  obtain ⟨tv, rfl, ⟨ta, tc, rfl, k1, k2, k3, k4⟩⟩ := hP'
  cases hlg : legalD L ⟨p0, p1, p2, q0, q1, q2, r⟩ P T with
  | false =>
    have h := regsgo_no hS p0 p1 p2 q0 q1 q2 r L a0 a1 a2 cap0 cap1 cap2 P T ta tc w hL hP hlg
    unfold RegsP at h
    rw [hlg] at h
    exact h
  | true =>
    obtain ⟨hm, hmt, -, -, hTn, -, -⟩ := legal_parts hlg
    have hb1 := (may_parts hm).2.1
    obtain ⟨-, -, -, r1, r2⟩ := mayT_parts hmt
    obtain ⟨bb, bo, rfl, hbb, hbody⟩ := h3 (by omega)
    obtain ⟨tb, tz, rfl, htb, htimes⟩ := k4 (by omega)
    unfold maxLen at h2 k2 g2
    have r1 : 1 ≤ r := r1
    obtain ⟨R, rfl⟩ := Int.eq_ofNat_of_zero_le (show 0 ≤ r by omega)
    have h := regsgo_yes hS p0 p1 p2 q0 q1 q2 R L a0 a2 bb bo cap0 cap1 cap2 P T tb tz tc w hL hP hlg hbb hbody h1 (by omega) htb htimes k1 (by omega) g4 g1 (by omega)
    unfold RegsP at h
    rw [hlg] at h
    exact h
end Go.Proofs.YtghlcmljgpkjiabGreat
/- Package regs' Make answers as RegsC says, whole. -/
namespace Go.Proofs.YtghlcmljgpkjiabGreat
theorem regs_all : RegsC := regs_any schedLegal_all
end Go.Proofs.YtghlcmljgpkjiabGreat
