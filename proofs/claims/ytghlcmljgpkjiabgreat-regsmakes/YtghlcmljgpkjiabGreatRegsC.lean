/- RegsC: texts that are built as one: RegsLife, RegsLives. -/
import Derived.Test.YtghlcmljgpkjiabGreatRegsA
import Derived.Test.YtghlcmljgpkjiabGreatRegsSmall
import Derived.Test.YtghlcmljgpkjiabGreatDepQ
import Derived.Test.YtghlcmljgpkjiabGreatTarget
import Derived.Test.YtghlcmljgpkjiabGreatBase
/- Package regs' livesOf: of each statement when its result is ready, until when it is read, how far back, and whether it is told. -/
namespace Go.Proofs.YtghlcmljgpkjiabGreat
open Go.RowKit Go.Joins
set_option linter.unusedVariables false
set_option linter.unusedSimpArgs false
set_option maxRecDepth 8192

theorem lifeInfo : (Tryz.prog.info? 151).map (fun i => (i.zero, i.size, i.bytes)) = some (some (.agg #[.int .i64 0, .int .i64 0, .int .i64 0, .bool false]), 4, 32) := by kernel_rfl
theorem make_lives (n : Nat) (hn : n ≤ 16) (w : World) : (Instr.makeSlice 92 (.int .i64 (n : Int)) (.int .i64 (n : Int))).run Tryz.prog w = .ok (.slice (some ⟨w.heap.size, 0, none⟩) n n) (w.alloc (.cells (madeCells #[.int .i64 0, .int .i64 0, .int .i64 0, .bool false] (n * 4)) 151)) := by
  obtain ⟨i, hi, hzz⟩ := Option.map_eq_some_iff.1 lifeInfo
  simp only [Prod.mk.injEq] at hzz
  obtain ⟨hz, hs, hb⟩ := hzz
  have hr := run_make (P := Tryz.prog) w 92 151 i _ Tryz.underlying92 hi hz .i64 .i64 n n (by omega) (Int.le_refl _) (by rw [hb]; omega) (by omega)
  simp only [Int.toNat_natCast, hs] at hr
  exact hr
def lf0 : Lf := ⟨fun _ => 0, fun _ => 0, fun _ => 0, fun _ => false⟩
theorem LvV.start (w : World) (n : Nat) : LvV n w.heap.size lf0 (w.alloc (.cells (madeCells #[.int .i64 0, .int .i64 0, .int .i64 0, .bool false] (n * 4)) 151)) := by
  refine RowF.made w _ _ _ _ (by rw [size_madeCells]; exact Nat.le_refl _) fun i hi => ?_
  unfold madeCells lifeC lf0
  simp only [Array.getElem?_map, Array.getElem?_range, hi, Option.map_some, if_true]
  have h4 : i % 4 < 4 := Nat.mod_lt _ (by decide)
  show some ((#[Value.int .i64 0, .int .i64 0, .int .i64 0, .bool false] : Array Value)[i % 4]!) = _
  obtain e | e | e | e : i % 4 = 0 ∨ i % 4 = 1 ∨ i % 4 = 2 ∨ i % 4 = 3 := by omega
  all_goals (rw [e]; rfl)
variable {n lb : Nat} {l l' : Lf} {x : World}
theorem LvV.congr (h : LvV n lb l x) (h1 : ∀ a, a < n → l.rd a = l'.rd a ∧ l.un a = l'.un a ∧ l.bk a = l'.bk a ∧ l.ou a = l'.ou a) : LvV n lb l' x := by
  refine RowF.congr h fun i hi => ?_
  obtain ⟨e1, e2, e3, e4⟩ := h1 (i / 4) (by omega)
  unfold lifeC
  rw [e1, e2, e3, e4]
theorem LvV.setRd (h : LvV n lb l x) {a : Nat} (ha : a < n) (v : Int) : LvV n lb ⟨upI l.rd a v, l.un, l.bk, l.ou⟩ (x.setCell ⟨lb, a * 4, none⟩ (.int .i64 v)) := by
  refine RowF.congr (RowF.set h (a * 4) (.int .i64 v) (by omega)) fun i hi => ?_
  unfold lifeC upI
  by_cases e : i = a * 4
  · rw [if_pos e, if_pos (by omega)]; simp only []; rw [if_pos (by omega)]
  · rw [if_neg e]
    by_cases e0 : i % 4 = 0
    · rw [if_pos e0, if_pos e0]; simp only []; rw [if_neg (by omega)]
    · rw [if_neg e0, if_neg e0]
theorem LvV.setUn (h : LvV n lb l x) {a : Nat} (ha : a < n) (v : Int) : LvV n lb ⟨l.rd, upI l.un a v, l.bk, l.ou⟩ (x.setCell ⟨lb, a * 4 + 1, none⟩ (.int .i64 v)) := by
  refine RowF.congr (RowF.set h (a * 4 + 1) (.int .i64 v) (by omega)) fun i hi => ?_
  unfold lifeC upI
  by_cases e : i = a * 4 + 1
  · rw [if_pos e, if_neg (by omega), if_pos (by omega)]; simp only []; rw [if_pos (by omega)]
  · rw [if_neg e]
    by_cases e0 : i % 4 = 0
    · rw [if_pos e0, if_pos e0]
    · rw [if_neg e0, if_neg e0]
      by_cases e1 : i % 4 = 1
      · rw [if_pos e1, if_pos e1]; simp only []; rw [if_neg (by omega)]
      · rw [if_neg e1, if_neg e1]
theorem LvV.setBk (h : LvV n lb l x) {a : Nat} (ha : a < n) (v : Int) : LvV n lb ⟨l.rd, l.un, upI l.bk a v, l.ou⟩ (x.setCell ⟨lb, a * 4 + 2, none⟩ (.int .i64 v)) := by
  refine RowF.congr (RowF.set h (a * 4 + 2) (.int .i64 v) (by omega)) fun i hi => ?_
  unfold lifeC upI
  by_cases e : i = a * 4 + 2
  · rw [if_pos e, if_neg (by omega), if_neg (by omega), if_pos (by omega)]; simp only []; rw [if_pos (by omega)]
  · rw [if_neg e]
    by_cases e0 : i % 4 = 0
    · rw [if_pos e0, if_pos e0]
    · rw [if_neg e0, if_neg e0]
      by_cases e1 : i % 4 = 1
      · rw [if_pos e1, if_pos e1]
      · rw [if_neg e1, if_neg e1]
        by_cases e2 : i % 4 = 2
        · rw [if_pos e2, if_pos e2]; simp only []; rw [if_neg (by omega)]
        · rw [if_neg e2, if_neg e2]
theorem LvV.setOu (h : LvV n lb l x) {a : Nat} (ha : a < n) (v : Bool) : LvV n lb ⟨l.rd, l.un, l.bk, upB l.ou a v⟩ (x.setCell ⟨lb, a * 4 + 3, none⟩ (.bool v)) := by
  refine RowF.congr (RowF.set h (a * 4 + 3) (.bool v) (by omega)) fun i hi => ?_
  unfold lifeC upB
  by_cases e : i = a * 4 + 3
  · rw [if_pos e, if_neg (by omega), if_neg (by omega), if_neg (by omega)]; simp only []; rw [if_pos (by omega)]
  · rw [if_neg e]
    by_cases e0 : i % 4 = 0
    · rw [if_pos e0, if_pos e0]
    · rw [if_neg e0, if_neg e0]
      by_cases e1 : i % 4 = 1
      · rw [if_pos e1, if_pos e1]
      · rw [if_neg e1, if_neg e1]
        by_cases e2 : i % 4 = 2
        · rw [if_pos e2, if_pos e2]
        · rw [if_neg e2, if_neg e2]; simp only []; rw [if_neg (by omega)]
/-- lives when the first k statements' results are ready -/
def lf1 (L : Lp) (t : Tg) (T : List Int) (k : Nat) : Lf := ⟨fun a => if a < k then nth T a + waitT t (stAt L.body a).o else 0, fun a => if a < k then nth T a + waitT t (stAt L.body a).o - 1 else 0, fun _ => 0, fun _ => false⟩
/-- lives when the reads ahead of (s, i) have been gone through -/
def lf2 (L : Lp) (t : Tg) (P : Int) (T : List Int) (s i : Nat) : Lf := ⟨fun a => nth T a + waitT t (stAt L.body a).o, fun a => untU (usesL (stAt L.body s)) a P (nth T s) (untN L t P T a s) i, fun a => farU (usesL (stAt L.body s)) a (farN L a s) i, fun _ => false⟩
def lf3 (L : Lp) (t : Tg) (P : Int) (T : List Int) (o : Nat) : Lf := ⟨fun a => nth T a + waitT t (stAt L.body a).o, fun a => untN L t P T a L.body.length, fun a => farD L a, fun a => outN L.outs a o⟩
theorem LvV.one {L : Lp} {t : Tg} {T : List Int} {k : Nat} (h : LvV n lb (lf1 L t T k) x) (hk : k < n) :
    LvV n lb (lf1 L t T (k + 1)) ((((x.setCell ⟨lb, k * 4, none⟩ (.int .i64 (nth T k + waitT t (stAt L.body k).o))).setCell ⟨lb, k * 4 + 1, none⟩ (.int .i64 (nth T k + waitT t (stAt L.body k).o - 1))).setCell ⟨lb, k * 4 + 2, none⟩ (.int .i64 0)).setCell ⟨lb, k * 4 + 3, none⟩ (.bool false)) := by
  refine ((((h.setRd hk _).setUn hk _).setBk hk 0).setOu hk false).congr fun a ha => ?_
  unfold lf1 upI upB
  simp only []
  by_cases e : a = k
  · rw [if_pos e, if_pos (show a < k + 1 by omega), if_pos e, if_pos e, if_pos e, e]; simp
  · rw [if_neg e, if_neg e, if_neg e, if_neg e]
    by_cases e2 : a < k
    · rw [if_pos e2, if_pos e2, if_pos (show a < k + 1 by omega), if_pos (show a < k + 1 by omega)]; simp
    · rw [if_neg e2, if_neg e2, if_neg (show ¬ a < k + 1 by omega), if_neg (show ¬ a < k + 1 by omega)]; simp
theorem LvV.two {L : Lp} {t : Tg} {P : Int} {T : List Int} (h : LvV L.body.length lb (lf1 L t T L.body.length) x) : LvV L.body.length lb (lf2 L t P T 0 0) x := by
  refine h.congr fun a ha => ?_
  unfold lf1 lf2
  simp only [if_pos ha]
  exact ⟨trivial, rfl, rfl, trivial⟩
theorem lf2_row (L : Lp) (t : Tg) (P : Int) (T : List Int) (s : Nat) : lf2 L t P T s (usesL (stAt L.body s)).length = lf2 L t P T (s + 1) 0 := rfl
theorem lf2_end (L : Lp) (t : Tg) (P : Int) (T : List Int) : lf2 L t P T L.body.length 0 = lf3 L t P T 0 := rfl
theorem lf3_end (L : Lp) (t : Tg) (P : Int) (T : List Int) : lf3 L t P T L.outs.length = livesR L t P T := rfl
theorem LvV.told {L : Lp} {t : Tg} {P : Int} {T : List Int} {o at' : Nat} (h : LvV n lb (lf3 L t P T o) x) (ha : at' < n) (ho : nth L.outs o = (at' : Int)) : LvV n lb (lf3 L t P T (o + 1)) (x.setCell ⟨lb, at' * 4 + 3, none⟩ (.bool true)) := by
  refine (h.setOu ha true).congr fun a _ => ⟨rfl, rfl, rfl, ?_⟩
  show upB (fun a => outN L.outs a o) at' true a = (outN L.outs a o || decide (nth L.outs o = (a : Int)))
  unfold upB
  by_cases e : a = at'
  · rw [if_pos e, decide_eq_true (by omega), Bool.or_true]
  · rw [if_neg e, decide_eq_false (by omega), Bool.or_false]
theorem lf2_range {L : Lp} {t : Tg} {P : Int} {T : List Int} (h : legalD L t P T = true) {s i a : Nat} (hs : s < L.body.length) (hi : i ≤ (usesL (stAt L.body s)).length) (ha : a < L.body.length) : 0 ≤ (lf2 L t P T s i).un a ∧ (lf2 L t P T s i).un a ≤ 1606 ∧ 0 ≤ (lf2 L t P T s i).bk a ∧ (lf2 L t P T s i).bk a ≤ 3 := by
  obtain ⟨h1, h2, h3, h4, -, -, -⟩ := legal_parts h
  have hw := wait_le (stAt L.body a).o h2
  obtain ⟨ta1, ta2, -⟩ := legal_time h ha
  have hu : ∀ s, s < L.body.length → ∀ i, i < (usesL (stAt L.body s)).length → (refAt (usesL (stAt L.body s)) i).1 = (a : Int) → nth T s + (refAt (usesL (stAt L.body s)) i).2 * P ≤ 1606 := fun s hs i hi _ => by
    obtain ⟨r1, r2, r3, r4⟩ := usesJ_ok h1 hs _ (refAt_mem hi)
    obtain ⟨t1, t2, -⟩ := legal_time h hs
    have hb : (refAt (usesL (stAt L.body s)) i).2 * P ≤ 3 * 200 := Int.mul_le_mul r4 h4 (by omega) (by omega)
    omega
  have g1 := untN_le L t P T a s
  have g2 := untU_le (usesL (stAt L.body s)) a P (nth T s) (untN L t P T a s) i
  have g3 := untN_top L t P T a 1606 (by omega) L.body.length hu s (by omega)
  have g4 := untU_top (usesL (stAt L.body s)) a P (nth T s) (untN L t P T a s) 1606 g3 (hu s hs) i hi
  have g5 := far_pos L a s
  have g6 := farU_le (usesL (stAt L.body s)) a (farN L a s) i
  have g7 := far_top h1 a s (by omega)
  have g8 := farU_top (usesL (stAt L.body s)) a (farN L a s) 3 g7 (fun i hi => (usesJ_ok h1 hs _ (refAt_mem hi)).2.2.2) i hi
  show 0 ≤ untU _ _ _ _ _ _ ∧ untU _ _ _ _ _ _ ≤ 1606 ∧ 0 ≤ farU _ _ _ _ ∧ farU _ _ _ _ ≤ 3
  exact ⟨by omega, by omega, by omega, by omega⟩
theorem lives_ok {L : Lp} {t : Tg} {P : Int} {T : List Int} (h : legalD L t P T = true) : LfOk L.body.length (livesR L t P T) := by
  obtain ⟨h1, h2, h3, h4, -, -, -⟩ := legal_parts h
  have hu : ∀ a : Nat, ∀ s, s < L.body.length → ∀ i, i < (usesL (stAt L.body s)).length → (refAt (usesL (stAt L.body s)) i).1 = (a : Int) → nth T s + (refAt (usesL (stAt L.body s)) i).2 * P ≤ 1606 := fun a s hs i hi _ => by
    obtain ⟨r1, r2, r3, r4⟩ := usesJ_ok h1 hs _ (refAt_mem hi)
    obtain ⟨t1, t2, -⟩ := legal_time h hs
    have hb : (refAt (usesL (stAt L.body s)) i).2 * P ≤ 3 * 200 := Int.mul_le_mul r4 h4 (by omega) (by omega)
    omega
  refine ⟨fun a ha => ?_, fun a ha => ?_, fun a ha => ⟨far_pos L a _, far_top h1 a _ (Nat.le_refl _)⟩⟩
  · have hw := wait_le (stAt L.body a).o h2
    obtain ⟨ta1, ta2, -⟩ := legal_time h ha
    show 1 ≤ nth T a + waitT t (stAt L.body a).o ∧ nth T a + waitT t (stAt L.body a).o ≤ 1006
    omega
  · have hw := wait_le (stAt L.body a).o h2
    obtain ⟨ta1, ta2, -⟩ := legal_time h ha
    have g1 := untN_le L t P T a L.body.length
    have g3 := untN_top L t P T a 1606 (by omega) L.body.length (hu a) L.body.length (Nat.le_refl _)
    show 0 ≤ untN L t P T a L.body.length ∧ untN L t P T a L.body.length ≤ 1606
    omega
end Go.Proofs.YtghlcmljgpkjiabGreat
/- Package regs' livesOf, walked. -/
namespace Go.Proofs.YtghlcmljgpkjiabGreat
open Go.RowKit Go.Joins
set_option linter.unusedVariables false
set_option linter.unusedSimpArgs false
set_option maxRecDepth 8192

theorem ref2Size (w : World) : (sizeOf (Tryz.prog.elem 152)).run Tryz.prog w = .ok 2 w := by
  kernel_rfl
theorem slice_two (g n : Nat) (hn : n ≤ 2) (w : World) : (Instr.sliceAt 152 (.pointer (some ⟨g, 0, none⟩)) none (some (.int .i64 (n : Int))) none).run Tryz.prog w = .ok (.slice (some ⟨g, 0, none⟩) n 2) w := by
  have ht : Tryz.prog.underlying 152 = some (.array (Tryz.prog.arrayLen 152) (Tryz.prog.elem 152)) := by kernel_rfl
  have hl : Tryz.prog.arrayLen 152 = 2 := by kernel_rfl
  rw [run_sliceAt_array_h w _ _ ht .i64 n (by omega) (by rw [hl]; omega), ref2Size, hl]
  simp [slicedAt, Result.andThen_ok, Addr.add]
theorem ty_rl : (152 : TypeId) ≠ 151 := by decide
theorem ref_other {x : World} {g lb n : Nat} {l : Lf} {f : Nat → Value} (h : RowF x g 152 4 f) (hv : LvV n lb l x) (i : Nat) (v : Value) : RowF (x.setCell ⟨lb, i, none⟩ v) g 152 4 f := by
  have hne : g ≠ lb := RowF.apart h (show RowF x lb 151 (n * 4) (lifeC l) from hv) ty_rl
  exact h.setOther hne v
theorem LvV.read2 {n lb : Nat} {x : World} {L : Lp} {t : Tg} {P : Int} {T : List Int} {s i ra : Nat} {u : Int} (hu : u = (if (lf2 L t P T s i).un ra < nth T s + (refAt (usesL (stAt L.body s)) i).2 * P then nth T s + (refAt (usesL (stAt L.body s)) i).2 * P else (lf2 L t P T s i).un ra))
    (h : LvV n lb ⟨(lf2 L t P T s i).rd, upI (lf2 L t P T s i).un ra u, (lf2 L t P T s i).bk, (lf2 L t P T s i).ou⟩ x) (hra : ra < n) (hr : (refAt (usesL (stAt L.body s)) i).1 = (ra : Int)) :
    LvV n lb (lf2 L t P T s (i + 1)) (x.setCell ⟨lb, ra * 4 + 2, none⟩ (.int .i64 (if (lf2 L t P T s i).bk ra < (refAt (usesL (stAt L.body s)) i).2 then (refAt (usesL (stAt L.body s)) i).2 else (lf2 L t P T s i).bk ra))) := by
  refine (h.setBk hra _).congr fun a ha => ?_
  rw [hu]
  unfold lf2 upI
  simp only []
  refine ⟨trivial, ?_, ?_, trivial⟩
  · rw [untU]
    by_cases e : a = ra
    · subst e
      rw [if_pos rfl]
      by_cases e2 : untU (usesL (stAt L.body s)) a P (nth T s) (untN L t P T a s) i < nth T s + (refAt (usesL (stAt L.body s)) i).2 * P
      · rw [if_pos e2, if_pos ⟨hr, e2⟩]
      · rw [if_neg e2, if_neg (fun h => e2 h.2)]
    · rw [if_neg e, if_neg (fun h => e (by have := h.1; omega))]
  · rw [farU]
    by_cases e : a = ra
    · subst e
      rw [if_pos rfl]
      by_cases e2 : farU (usesL (stAt L.body s)) a (farN L a s) i < (refAt (usesL (stAt L.body s)) i).2
      · rw [if_pos e2, if_pos ⟨hr, e2⟩]
      · rw [if_neg e2, if_neg (fun h => e2 h.2)]
    · rw [if_neg e, if_neg (fun h => e (by have := h.1; omega))]
def LivesP (L : Lp) (t : Tg) (P : Int) (T : List Int) (w : World) (e : Ending) (w' : World) : Prop := ∃ lb, e = .returned (.slice (some ⟨lb, 0, none⟩) L.body.length L.body.length) ∧ LvV L.body.length lb (livesR L t P T) w' ∧ w.heap.size ≤ lb ∧ Below w.heap.size w w'
set_option maxHeartbeats 16000000 in
set_option maxRecDepth 100000 in
theorem lives_walk (p0 p1 p2 q0 q1 q2 r : Int) (L : Lp) (a0 a2 : Option Addr) (b off cap0 cap1 cap2 : Nat) (P : Int) (T : List Int) (tb to tc : Nat) (w : World) (hlg : legalD L ⟨p0, p1, p2, q0, q1, q2, r⟩ P T = true) (hbz : b < w.heap.size) (hbody : ∀ i, i < L.body.length → ∀ j, j < 9 → w.cell? ⟨b, off + i * 9 + j, none⟩ = (stCells (stAt L.body i))[j]?) (hl1 : L.body.length ≤ cap1) (hm1 : cap1 ≤ 9223372036854775807)
    (htz : tb < w.heap.size) (htcell : ∀ i, i < T.length → w.cell? ⟨tb, to + i, none⟩ = some (.int .i64 (nth T i))) (htl1 : T.length ≤ tc) (htm : tc ≤ 9223372036854775807)
    (hout : 0 < L.outs.length → ∃ ob oo, a2 = some ⟨ob, oo, none⟩ ∧ ob < w.heap.size ∧ ∀ i, i < L.outs.length → w.cell? ⟨ob, oo + i, none⟩ = some (.int .i64 (nth L.outs i))) (hol : L.outs.length ≤ cap2) (hom : cap2 ≤ 9223372036854775807) :
    Calls Tryz.prog 37 #[.agg #[.slice a0 L.logs.length cap0, .slice (some ⟨b, off, none⟩) L.body.length cap1, .slice a2 L.outs.length cap2], .agg #[.int .i64 p0, .int .i64 p1, .int .i64 p2, .int .i64 q0, .int .i64 q1, .int .i64 q2, .int .i64 r], .agg #[.int .i64 P, .slice (some ⟨tb, to, none⟩) T.length tc]] w fun e w' => LivesP L ⟨p0, p1, p2, q0, q1, q2, r⟩ P T w e w' := by
  obtain ⟨hm, hmt, hp1, hp2, htl, -, -⟩ := legal_parts hlg
  obtain ⟨-, h1n, h16, -⟩ := may_parts hm
  have HLG := hide hlg
  have HTM := hide (fun s (h : s < L.body.length) => legal_time hlg h)
  have HWO := hide (fun o => wait_le (t := ⟨p0, p1, p2, q0, q1, q2, r⟩) o hmt)
  have HWT := hide (fun op W => pwait_seven p0 p1 p2 q0 q1 q2 r op W)
  have HTL := hide htl
  have HBODY := hide hbody
  have HTC := hide htcell
  have HOUT := hide hout
  have HM := hide hm
  have HS : Hid ((((w.alloc (.cells #[.slice a0 L.logs.length cap0, .slice (some ⟨b, off, none⟩) L.body.length cap1, .slice a2 L.outs.length cap2] 25)).alloc (.cells #[.int .i64 p0, .int .i64 p1, .int .i64 p2, .int .i64 q0, .int .i64 q1, .int .i64 q2, .int .i64 r] 28)).alloc (.cells #[.int .i64 P, .slice (some ⟨tb, to, none⟩) T.length tc] 49)).heap.size = w.heap.size + 1 + 1 + 1) := by show _ = _; simp
  have HST : Hid (LvV L.body.length (w.heap.size + 1 + 1 + 1) (lf1 L ⟨p0, p1, p2, q0, q1, q2, r⟩ T 0) ((((w.alloc (.cells #[.slice a0 L.logs.length cap0, .slice (some ⟨b, off, none⟩) L.body.length cap1, .slice a2 L.outs.length cap2] 25)).alloc (.cells #[.int .i64 p0, .int .i64 p1, .int .i64 p2, .int .i64 q0, .int .i64 q1, .int .i64 q2, .int .i64 r] 28)).alloc (.cells #[.int .i64 P, .slice (some ⟨tb, to, none⟩) T.length tc] 49)).alloc (.cells (madeCells #[.int .i64 0, .int .i64 0, .int .i64 0, .bool false] (L.body.length * 4)) 151))) := by
    have h := LvV.start (((w.alloc (.cells #[.slice a0 L.logs.length cap0, .slice (some ⟨b, off, none⟩) L.body.length cap1, .slice a2 L.outs.length cap2] 25)).alloc (.cells #[.int .i64 p0, .int .i64 p1, .int .i64 p2, .int .i64 q0, .int .i64 q1, .int .i64 q2, .int .i64 r] 28)).alloc (.cells #[.int .i64 P, .slice (some ⟨tb, to, none⟩) T.length tc] 49)) L.body.length
    rw [HS.out] at h
    exact h.congr fun a _ => ⟨rfl, rfl, rfl, rfl⟩
  have HSB : Hid (Below (w.heap.size + 1 + 1 + 1) (((w.alloc (.cells #[.slice a0 L.logs.length cap0, .slice (some ⟨b, off, none⟩) L.body.length cap1, .slice a2 L.outs.length cap2] 25)).alloc (.cells #[.int .i64 p0, .int .i64 p1, .int .i64 p2, .int .i64 q0, .int .i64 q1, .int .i64 q2, .int .i64 r] 28)).alloc (.cells #[.int .i64 P, .slice (some ⟨tb, to, none⟩) T.length tc] 49)) ((((w.alloc (.cells #[.slice a0 L.logs.length cap0, .slice (some ⟨b, off, none⟩) L.body.length cap1, .slice a2 L.outs.length cap2] 25)).alloc (.cells #[.int .i64 p0, .int .i64 p1, .int .i64 p2, .int .i64 q0, .int .i64 q1, .int .i64 q2, .int .i64 r] 28)).alloc (.cells #[.int .i64 P, .slice (some ⟨tb, to, none⟩) T.length tc] 49)).alloc (.cells (madeCells #[.int .i64 0, .int .i64 0, .int .i64 0, .bool false] (L.body.length * 4)) 151))) := by
    have h := below_alloc1 (((w.alloc (.cells #[.slice a0 L.logs.length cap0, .slice (some ⟨b, off, none⟩) L.body.length cap1, .slice a2 L.outs.length cap2] 25)).alloc (.cells #[.int .i64 p0, .int .i64 p1, .int .i64 p2, .int .i64 q0, .int .i64 q1, .int .i64 q2, .int .i64 r] 28)).alloc (.cells #[.int .i64 P, .slice (some ⟨tb, to, none⟩) T.length tc] 49)) (.cells (madeCells #[.int .i64 0, .int .i64 0, .int .i64 0, .bool false] (L.body.length * 4)) 151)
    rw [HS.out] at h
    exact h
  have hmk := make_lives L.body.length h16
  clear hlg hm hmt htl hbody htcell hout
  go_enter Tryz.func37, Tryz.ntmps37
  go_wp2_with fail
  clear hmk
  go_loopw [25] (fun iv wr => ∃ k : Nat, k ≤ L.body.length ∧ iv = .int .i64 k ∧ LvV L.body.length (w.heap.size + 1 + 1 + 1) (lf1 L ⟨p0, p1, p2, q0, q1, q2, r⟩ T k) wr ∧ Below (w.heap.size + 1 + 1 + 1) (((w.alloc (.cells #[.slice a0 L.logs.length cap0, .slice (some ⟨b, off, none⟩) L.body.length cap1, .slice a2 L.outs.length cap2] 25)).alloc (.cells #[.int .i64 p0, .int .i64 p1, .int .i64 p2, .int .i64 q0, .int .i64 q1, .int .i64 q2, .int .i64 r] 28)).alloc (.cells #[.int .i64 P, .slice (some ⟨tb, to, none⟩) T.length tc] 49)) wr) (fun iv _ => L.body.length - (intOf iv).toNat)
  case atStart => exact ⟨0, Nat.zero_le _, rfl, HST.out, HSB.out⟩
  case round =>
    clear HST HSB
    obtain ⟨k, hk, rfl, hV, hbel⟩ := hrel
    have HV := hide hV
    have HB := hide hbel
    obtain ⟨⟨l0, l1, l2⟩, ⟨t0, t1, t2, t3, t4, t5, t6⟩, ⟨y0, y1⟩, hz, hbw⟩ := lbox_cells hbel
    have HW := hide hbw
    have hlbz := hV.lt
    clear hbel hV hbw
    by_cases hkl : k < L.body.length
    · have hki : (k : Int) < (L.body.length : Int) := by omega
      have hbz2 : b < wr.heap.size := by have := HW.out.size; omega
      have htz2 : tb < wr.heap.size := by have := HW.out.size; omega
      have c0 := (nine (fun j hj => (bcell HW.out b (off + k * 9 + j) hbz).trans (HBODY.out k hkl j hj))).1
      have hkT : (k : Int) < (T.length : Int) := by have := HTL.out; omega
      have cT := (bcell HW.out tb (to + k) htz).trans (HTC.out k (by have := HTL.out; omega))
      obtain ⟨tm1, tm2, -⟩ := HTM.out k hkl
      have HONE := hide (fun W (hW : Below wr.heap.size wr W) => (HV.out.below hW HV.out.lt).one hkl)
      have HONF := hide (fun W (hW : Below wr.heap.size wr W) => HV.out.below hW HV.out.lt)
      have HWC := hide (HWT.out (stAt L.body k).o)
      obtain ⟨wv1, wv2⟩ := HWO.out (stAt L.body k).o
      obtain ⟨wv, hwv⟩ : ∃ wv, waitT ⟨p0, p1, p2, q0, q1, q2, r⟩ (stAt L.body k).o = wv := ⟨_, rfl⟩
      rw [hwv] at HWC wv1 wv2 HONE
      generalize (stAt L.body k).o = oo at *
      generalize nth T k = tk at *
      have hza : w.heap.size < wr.heap.size := by omega
      have hzb : w.heap.size + 1 < wr.heap.size := by omega
      have hzc : w.heap.size + 1 + 1 < wr.heap.size := by omega
      have HSS : Hid (∀ w' : World, Below wr.heap.size wr w' → w'.cell? ⟨w.heap.size, 1, none⟩ = some (.slice (some ⟨b, off, none⟩) L.body.length cap1) ∧ w'.cell? ⟨w.heap.size + 1, 0, none⟩ = some (.int .i64 p0) ∧ w'.cell? ⟨w.heap.size + 1, 1, none⟩ = some (.int .i64 p1) ∧ w'.cell? ⟨w.heap.size + 1, 2, none⟩ = some (.int .i64 p2) ∧ w'.cell? ⟨w.heap.size + 1, 3, none⟩ = some (.int .i64 q0) ∧ w'.cell? ⟨w.heap.size + 1, 4, none⟩ = some (.int .i64 q1) ∧ w'.cell? ⟨w.heap.size + 1, 5, none⟩ = some (.int .i64 q2) ∧ w'.cell? ⟨w.heap.size + 1, 6, none⟩ = some (.int .i64 r) ∧ w'.cell? ⟨w.heap.size + 1 + 1, 1, none⟩ = some (.slice (some ⟨tb, to, none⟩) T.length tc) ∧ w'.cell? ⟨b, off + k * 9, none⟩ = some (.int .i64 oo) ∧ w'.cell? ⟨tb, to + k, none⟩ = some (.int .i64 tk)) := by
        intro w' h
        refine ⟨?_, ?_, ?_, ?_, ?_, ?_, ?_, ?_, ?_, ?_, ?_⟩
        all_goals (rw [bcell h _ _ (by omega)]; assumption)
      clear hwv
      go_wp2_with fail
      refine wp_region_noPanic ?_
      refine region_until 99 (fun w' => w'.cell? ⟨w.heap.size, 1, none⟩ = some (.slice (some ⟨b, off, none⟩) L.body.length cap1) ∧ w'.cell? ⟨w.heap.size + 1, 0, none⟩ = some (.int .i64 p0) ∧ w'.cell? ⟨w.heap.size + 1, 1, none⟩ = some (.int .i64 p1) ∧ w'.cell? ⟨w.heap.size + 1, 2, none⟩ = some (.int .i64 p2) ∧ w'.cell? ⟨w.heap.size + 1, 3, none⟩ = some (.int .i64 q0) ∧ w'.cell? ⟨w.heap.size + 1, 4, none⟩ = some (.int .i64 q1) ∧ w'.cell? ⟨w.heap.size + 1, 5, none⟩ = some (.int .i64 q2) ∧ w'.cell? ⟨w.heap.size + 1, 6, none⟩ = some (.int .i64 r) ∧ w'.cell? ⟨w.heap.size + 1 + 1, 1, none⟩ = some (.slice (some ⟨tb, to, none⟩) T.length tc) ∧ w'.cell? ⟨b, off + k * 9, none⟩ = some (.int .i64 oo) ∧ w'.cell? ⟨tb, to + k, none⟩ = some (.int .i64 tk)) (by kernel_rfl) (HSS.out _ (below_draws _ _ 1)) (fun hHeld => ?_)
      refine utk (i := 0) rfl hHeld ?_
      try simp only [Act.put, List.setIfInBounds_toArray, List.set_cons_zero, List.set_cons_succ]
      refine utk (i := 1) rfl hHeld ?_
      try simp only [Act.put, List.setIfInBounds_toArray, List.set_cons_zero, List.set_cons_succ]
      refine utk (i := 2) rfl hHeld ?_
      try simp only [Act.put, List.setIfInBounds_toArray, List.set_cons_zero, List.set_cons_succ]
      refine utk (i := 3) rfl hHeld ?_
      try simp only [Act.put, List.setIfInBounds_toArray, List.set_cons_zero, List.set_cons_succ]
      refine utk (i := 4) rfl hHeld ?_
      try simp only [Act.put, List.setIfInBounds_toArray, List.set_cons_zero, List.set_cons_succ]
      refine utk (i := 5) rfl hHeld ?_
      try simp only [Act.put, List.setIfInBounds_toArray, List.set_cons_zero, List.set_cons_succ]
      refine utk (i := 6) rfl hHeld ?_
      try simp only [Act.put, List.setIfInBounds_toArray, List.set_cons_zero, List.set_cons_succ]
      refine utk (i := 7) rfl hHeld ?_
      try simp only [Act.put, List.setIfInBounds_toArray, List.set_cons_zero, List.set_cons_succ]
      refine utk (i := 8) rfl hHeld ?_
      try simp only [Act.put, List.setIfInBounds_toArray, List.set_cons_zero, List.set_cons_succ]
      refine utk (i := 9) rfl hHeld ?_
      try simp only [Act.put, List.setIfInBounds_toArray, List.set_cons_zero, List.set_cons_succ]
      refine utk (i := 10) rfl hHeld ?_
      try simp only [Act.put, List.setIfInBounds_toArray, List.set_cons_zero, List.set_cons_succ]
      refine utk (i := 11) rfl hHeld ?_
      try simp only [Act.put, List.setIfInBounds_toArray, List.set_cons_zero, List.set_cons_succ]
      refine until_one (i := 12) rfl (by kernel_rfl) (fun K hK9 => ?_)
      go_simp
      refine (HWC.out _).mono ?_
      rintro e y ⟨rfl, hy⟩
      have HY := hide ((below_draws wr.heap.size wr 1).trans (show Below wr.heap.size wr.drew y from hy))
      have hHeld := HSS.out _ HY.out
      clear hy
      refine hK9.out _ _ (.inr hHeld) ?_
      clear hK9 K
      try simp only [Act.put, List.setIfInBounds_toArray, List.set_cons_zero, List.set_cons_succ]
      have hwr : IntKind.i64.wrap (tk + wv) = tk + wv := i64_wrap _ (by omega) (by omega)
      refine utk (i := 13) rfl hHeld ?_
      try simp only [Act.put, List.setIfInBounds_toArray, List.set_cons_zero, List.set_cons_succ]
      refine utk (i := 14) rfl hHeld ?_
      try simp only [Act.put, List.setIfInBounds_toArray, List.set_cons_zero, List.set_cons_succ]
      refine until_done (by kernel_rfl) ?_ _
      refine NoPanic.normal ?_
      have HN := hide (HONE.out y HY.out)
      have hVy := HONF.out y HY.out
      have hyz := hVy.lt
      obtain ⟨v0, v1, v2, v3⟩ := hVy.cells hkl
      have z0 := RowF.frozen hVy (k * 4)
      have z1 := RowF.frozen hVy (k * 4 + 1)
      have z2 := RowF.frozen hVy (k * 4 + 2)
      have z3 := RowF.frozen hVy (k * 4 + 3)
      have hw1 : wrap64 (tk + wv) = tk + wv := by unfold wrap64; omega
      have hw2 : wrap64 (tk + wv - 1) = tk + wv - 1 := by unfold wrap64; omega
      generalize (lf1 L ⟨p0, p1, p2, q0, q1, q2, r⟩ T k).rd k = e0 at *
      generalize (lf1 L ⟨p0, p1, p2, q0, q1, q2, r⟩ T k).un k = e1 at *
      generalize (lf1 L ⟨p0, p1, p2, q0, q1, q2, r⟩ T k).bk k = e2 at *
      generalize (lf1 L ⟨p0, p1, p2, q0, q1, q2, r⟩ T k).ou k = e3 at *
      clear hHeld HSS hVy HONE HONF HWC l0 l1 l2 t0 t1 t2 t3 t4 t5 t6 y0 y1 c0 cT
      go_wp2_with fail
      go_roundw
      case rel => exact ⟨k + 1, by omega, by go_num, HN.out, (HB.out.trans (HY.out.mono (by omega))).setCell (Nat.le_refl _) _ |>.setCell (Nat.le_refl _) _ |>.setCell (Nat.le_refl _) _ |>.setCell (Nat.le_refl _) _⟩
      case measure => simp [intOf]; omega
    · have e : k = L.body.length := by omega
      have hki : ¬ (k : Int) < (L.body.length : Int) := by omega
      have HV2 : Hid (LvV L.body.length (w.heap.size + 1 + 1 + 1) (lf2 L ⟨p0, p1, p2, q0, q1, q2, r⟩ P T 0 0) wr) := by
        have h := HV.out
        rw [e] at h
        exact h.two
      clear e HV
      rename World => wa
      go_wp2_with fail
      clear l0 l1 l2 t0 t1 t2 t3 t4 t5 t6 y0 y1
      go_loopw [53] (fun iv wr => ∃ s : Nat, s ≤ L.body.length ∧ iv = .int .i64 s ∧ LvV L.body.length (w.heap.size + 1 + 1 + 1) (lf2 L ⟨p0, p1, p2, q0, q1, q2, r⟩ P T s 0) wr ∧ Below (w.heap.size + 1 + 1 + 1) (((w.alloc (.cells #[.slice a0 L.logs.length cap0, .slice (some ⟨b, off, none⟩) L.body.length cap1, .slice a2 L.outs.length cap2] 25)).alloc (.cells #[.int .i64 p0, .int .i64 p1, .int .i64 p2, .int .i64 q0, .int .i64 q1, .int .i64 q2, .int .i64 r] 28)).alloc (.cells #[.int .i64 P, .slice (some ⟨tb, to, none⟩) T.length tc] 49)) wr) (fun iv _ => L.body.length - (intOf iv).toNat)
      case atStart => exact ⟨0, Nat.zero_le _, rfl, HV2.out, HB.out⟩
      case round =>
        clear HV2 HB HW hlbz hz
        obtain ⟨s, hs, rfl, hV, hbel⟩ := hrel
        have HV := hide hV
        have HB := hide hbel
        obtain ⟨⟨l0, l1, l2⟩, ⟨t0, t1, t2, t3, t4, t5, t6⟩, ⟨y0, y1⟩, hz, hbw⟩ := lbox_cells hbel
        have HW := hide hbw
        have hlbz := hV.lt
        clear hbel hV hbw
        by_cases hsl : s < L.body.length
        · have hsi : (s : Int) < (L.body.length : Int) := by omega
          have hbz2 : b < wr.heap.size := by have := HW.out.size; omega
          obtain ⟨c0, c1, c2, c3, c4, c5, c6, c7, c8⟩ := nine (fun j hj => (bcell HW.out b (off + s * 9 + j) hbz).trans (HBODY.out s hsl j hj))
          obtain ⟨hlk, hnl2⟩ := looks_uses (allN_get (may_parts HM.out).2.2.2.2.2.2 s hsl)
          have HUS := hide (fun i (h : i < (usesL (stAt L.body s)).length) => usesJ_ok HM.out hsl _ (refAt_mem h))
          have HRG := hide (fun i a (h : i ≤ (usesL (stAt L.body s)).length) (ha : a < L.body.length) => lf2_range HLG.out hsl h ha)
          have HRD := hide (fun i ra (Z : World) (u : Int) (hu : u = (if (lf2 L ⟨p0, p1, p2, q0, q1, q2, r⟩ P T s i).un ra < nth T s + (refAt (usesL (stAt L.body s)) i).2 * P then nth T s + (refAt (usesL (stAt L.body s)) i).2 * P else (lf2 L ⟨p0, p1, p2, q0, q1, q2, r⟩ P T s i).un ra)) (h : LvV L.body.length (w.heap.size + 1 + 1 + 1) ⟨(lf2 L ⟨p0, p1, p2, q0, q1, q2, r⟩ P T s i).rd, upI (lf2 L ⟨p0, p1, p2, q0, q1, q2, r⟩ P T s i).un ra u, (lf2 L ⟨p0, p1, p2, q0, q1, q2, r⟩ P T s i).bk, (lf2 L ⟨p0, p1, p2, q0, q1, q2, r⟩ P T s i).ou⟩ Z) (hra : ra < L.body.length) (hr : (refAt (usesL (stAt L.body s)) i).1 = (ra : Int)) => LvV.read2 hu h hra hr)
          have HREND : Hid (lf2 L ⟨p0, p1, p2, q0, q1, q2, r⟩ P T s (usesL (stAt L.body s)).length = lf2 L ⟨p0, p1, p2, q0, q1, q2, r⟩ P T (s + 1) 0) := lf2_row _ _ _ _ _
          have HRW := hide (four_row (wr.alloc (.cells #[.int .i64 (stAt L.body s).o, .int .i64 (stAt L.body s).xa, .int .i64 (stAt L.body s).xb, .int .i64 (stAt L.body s).ya, .int .i64 (stAt L.body s).yb, .int .i64 (stAt L.body s).ar, .int .i64 (stAt L.body s).sp, .int .i64 (stAt L.body s).pl, .int .i64 (stAt L.body s).nn] 41)) (.int .i64 (stAt L.body s).xa) (.int .i64 (stAt L.body s).xb) (.int .i64 (stAt L.body s).ya) (.int .i64 (stAt L.body s).yb) 152 (refsF (stAt L.body s)) rfl rfl rfl rfl)
          have ez : (wr.alloc (.cells #[.int .i64 (stAt L.body s).o, .int .i64 (stAt L.body s).xa, .int .i64 (stAt L.body s).xb, .int .i64 (stAt L.body s).ya, .int .i64 (stAt L.body s).yb, .int .i64 (stAt L.body s).ar, .int .i64 (stAt L.body s).sp, .int .i64 (stAt L.body s).pl, .int .i64 (stAt L.body s).nn] 41)).heap.size = wr.heap.size + 1 := by simp
          rw [ez] at HRW
          have HRF := hide (fun (x : World) (g : Nat) (h : RowF x g 152 4 (refsF (stAt L.body s))) i (hi : i < (usesL (stAt L.body s)).length) => refs_at h hi)
          generalize hxk : stAt L.body s = xk at *
          clear hxk ez
          obtain ⟨o, xa, xb, ya, yb, ar, sp, pl, nn⟩ := xk
          generalize usesL ⟨o, xa, xb, ya, yb, ar, sp, pl, nn⟩ = us at *
          simp only at c0 c1 c2 c3 c4 c5 c6 c7 c8 HRW hlk
          have hsl2 := slice_two (wr.heap.size + 1) us.length hnl2
          rename World => wo
          go_wp2_with (go_at_call 87; refine (looks_any _ _).mono ?_; rintro e w' ⟨rfl, rfl⟩)
          clear l0 l1 l2 t0 t1 t2 t3 t4 t5 t6 y0 y1 c0 c1 c2 c3 c4 c5 c6 c7 c8
          go_loopw [71] (fun iv wr => ∃ i : Nat, i ≤ us.length ∧ iv = .int .i64 i ∧ RowF wr (wo.heap.size + 1) 152 4 (refsF ⟨o, xa, xb, ya, yb, ar, sp, pl, nn⟩) ∧ LvV L.body.length (w.heap.size + 1 + 1 + 1) (lf2 L ⟨p0, p1, p2, q0, q1, q2, r⟩ P T s i) wr ∧ Below (w.heap.size + 1 + 1 + 1) (((w.alloc (.cells #[.slice a0 L.logs.length cap0, .slice (some ⟨b, off, none⟩) L.body.length cap1, .slice a2 L.outs.length cap2] 25)).alloc (.cells #[.int .i64 p0, .int .i64 p1, .int .i64 p2, .int .i64 q0, .int .i64 q1, .int .i64 q2, .int .i64 r] 28)).alloc (.cells #[.int .i64 P, .slice (some ⟨tb, to, none⟩) T.length tc] 49)) wr) (fun iv _ => us.length - (intOf iv).toNat)
          case atStart => exact ⟨0, Nat.zero_le _, rfl, HRW.out, HV.out.below (below_alloc2 wo _ _) HV.out.lt, HB.out.trans ((below_alloc2 wo _ _).mono (Nat.le_of_lt hlbz))⟩
          case round =>
            clear HV HB HW HRW hlbz hz hbz2 hsl2
            obtain ⟨i, hi, rfl, hrow, hV, hbel⟩ := hrel
            have HV := hide hV
            have HB := hide hbel
            have HR := hide hrow
            obtain ⟨⟨l0, l1, l2⟩, ⟨t0, t1, t2, t3, t4, t5, t6⟩, ⟨y0, y1⟩, hz, hbw⟩ := lbox_cells hbel
            have HW := hide hbw
            have hlbz := hV.lt
            have hGz : wo.heap.size + 1 < wr.heap.size := hrow.lt
            by_cases hil : i < us.length
            · have hii : (i : Int) < (us.length : Int) := by omega
              obtain ⟨u1, u2, u3, u4⟩ := HUS.out i hil
              obtain ⟨f0, f1⟩ := HRF.out wr _ hrow i hil
              have HRDI := hide (fun ra Z u hu h => HRD.out i ra Z u hu h)
              have HRGI := hide (fun a ha => HRG.out i a (by omega) ha)
              generalize refAt us i = rf at *
              obtain ⟨ra', rb⟩ := rf
              simp only at f0 f1 u1 u2 u3 u4 HRDI
              obtain ⟨ra, rfl⟩ := Int.eq_ofNat_of_zero_le u1
              have hra : ra < L.body.length := by omega
              have hrai : (ra : Int) < (L.body.length : Int) := by omega
              obtain ⟨g1, g2, g3, g4⟩ := HRGI.out ra hra
              obtain ⟨v0, v1, v2, v3⟩ := hV.cells hra
              have z1 := RowF.frozen hV (ra * 4 + 1)
              have z2 := RowF.frozen hV (ra * 4 + 2)
              have hsT : (s : Int) < (T.length : Int) := by have := HTL.out; omega
              have htz2 : tb < wr.heap.size := by have := HW.out.size; omega
              have cT := (bcell HW.out tb (to + s) htz).trans (HTC.out s (by have := HTL.out; omega))
              obtain ⟨tm1, tm2, -⟩ := HTM.out s hsl
              have hpr1 : 0 ≤ rb * P := Int.mul_nonneg (by omega) (by omega)
              have hpr2 : rb * P ≤ 3 * 200 := Int.mul_le_mul u4 hp2 (by omega) (by omega)
              have HRX : Hid (∀ (Z : World) (u : Int), u = (if (lf2 L ⟨p0, p1, p2, q0, q1, q2, r⟩ P T s i).un ra < nth T s + rb * P then nth T s + rb * P else (lf2 L ⟨p0, p1, p2, q0, q1, q2, r⟩ P T s i).un ra) → LvV L.body.length (w.heap.size + 1 + 1 + 1) ⟨(lf2 L ⟨p0, p1, p2, q0, q1, q2, r⟩ P T s i).rd, upI (lf2 L ⟨p0, p1, p2, q0, q1, q2, r⟩ P T s i).un ra u, (lf2 L ⟨p0, p1, p2, q0, q1, q2, r⟩ P T s i).bk, (lf2 L ⟨p0, p1, p2, q0, q1, q2, r⟩ P T s i).ou⟩ Z → LvV L.body.length (w.heap.size + 1 + 1 + 1) (lf2 L ⟨p0, p1, p2, q0, q1, q2, r⟩ P T s (i + 1)) (Z.setCell ⟨(w.heap.size + 1 + 1 + 1), ra * 4 + 2, none⟩ (.int .i64 (if (lf2 L ⟨p0, p1, p2, q0, q1, q2, r⟩ P T s i).bk ra < rb then rb else (lf2 L ⟨p0, p1, p2, q0, q1, q2, r⟩ P T s i).bk ra)))) := fun Z u hu hZ => HRDI.out ra Z u hu hZ hra rfl
              have HL1 : Hid (LvV L.body.length (w.heap.size + 1 + 1 + 1) (lf2 L ⟨p0, p1, p2, q0, q1, q2, r⟩ P T s i) (wr.alloc (.cells #[.int .i64 (ra : Int), .int .i64 rb] 39))) := hV.below (below_alloc1 _ _) hV.lt
              have HR1 : Hid (RowF (wr.alloc (.cells #[.int .i64 (ra : Int), .int .i64 rb] 39)) (wo.heap.size + 1) 152 4 (refsF ⟨o, xa, xb, ya, yb, ar, sp, pl, nn⟩)) := hrow.alloc _
              have HB1 : Hid (Below (w.heap.size + 1 + 1 + 1) (((w.alloc (.cells #[.slice a0 L.logs.length cap0, .slice (some ⟨b, off, none⟩) L.body.length cap1, .slice a2 L.outs.length cap2] 25)).alloc (.cells #[.int .i64 p0, .int .i64 p1, .int .i64 p2, .int .i64 q0, .int .i64 q1, .int .i64 q2, .int .i64 r] 28)).alloc (.cells #[.int .i64 P, .slice (some ⟨tb, to, none⟩) T.length tc] 49)) (wr.alloc (.cells #[.int .i64 (ra : Int), .int .i64 rb] 39))) := hbel.trans ((below_alloc1 wr _).mono (Nat.le_of_lt hlbz))
              generalize nth T s = ts at *
              obtain ⟨un, hun⟩ : ∃ un, (lf2 L ⟨p0, p1, p2, q0, q1, q2, r⟩ P T s i).un ra = un := ⟨_, rfl⟩
              have HUN := hide hun
              have HBK0 : Hid (∃ bk, (lf2 L ⟨p0, p1, p2, q0, q1, q2, r⟩ P T s i).bk ra = bk) := ⟨_, rfl⟩
              obtain ⟨bk, hbk⟩ : ∃ bk, (lf2 L ⟨p0, p1, p2, q0, q1, q2, r⟩ P T s i).bk ra = bk := ⟨_, rfl⟩
              have HBK : Hid ((some (.int .i64 ((lf2 L ⟨p0, p1, p2, q0, q1, q2, r⟩ P T s i).bk ra)) : Option Value) = some (.int .i64 bk)) := by show _ = _; rw [hbk]
              clear HBK0
              rw [hun, hbk] at HRX
              rw [hun] at v1 g1 g2
              rw [hbk] at v2 g3 g4
              obtain ⟨pr, hpr⟩ : ∃ pr, rb * P = pr := ⟨_, rfl⟩
              rw [hpr] at HRX hpr1 hpr2
              have hw1 : wrap64 (rb * P) = pr := by rw [hpr]; unfold wrap64; omega
              have hw2 : wrap64 (ts + pr) = ts + pr := by unfold wrap64; omega
              have hwk1 : IntKind.i64.wrap (rb * P) = pr := by rw [hpr]; exact i64_wrap _ (by omega) (by omega)
              have hwk2 : IntKind.i64.wrap (ts + pr) = ts + pr := i64_wrap _ (by omega) (by omega)
              have hne1 : ¬ wr.heap.size = (w.heap.size + 1 + 1 + 1) := by omega
              have hne2 : ¬ (w.heap.size + 1 + 1 + 1) = wr.heap.size := by omega
              clear hrow hV hbel hbw hun hbk hpr v0 v3 l0 l2 t0 t1 t2 t3 t4 t5 t6 HRDI HRGI
              have HGB : Hid ((wr.alloc (.cells #[.int .i64 (ra : Int), .int .i64 rb] 39)).heap[wr.heap.size]? = some (.cells #[.int .i64 (ra : Int), .int .i64 rb] 39 (0, 0))) := new_blkS _ _ _
              have HS17 : Hid ((wr.alloc (.cells #[.int .i64 (ra : Int), .int .i64 rb] 39)).cell? ⟨(w.heap.size + 1 + 1 + 1), ra * 4 + 1, none⟩ = some (.int .i64 un) ∧ (wr.alloc (.cells #[.int .i64 (ra : Int), .int .i64 rb] 39)).cell? ⟨w.heap.size + 1 + 1, 1, none⟩ = some (.slice (some ⟨tb, to, none⟩) T.length tc) ∧ (wr.alloc (.cells #[.int .i64 (ra : Int), .int .i64 rb] 39)).cell? ⟨w.heap.size + 1 + 1, 0, none⟩ = some (.int .i64 P) ∧ (wr.alloc (.cells #[.int .i64 (ra : Int), .int .i64 rb] 39)).cell? ⟨tb, to + s, none⟩ = some (.int .i64 ts) ∧ (wr.alloc (.cells #[.int .i64 (ra : Int), .int .i64 rb] 39)).cell? ⟨wr.heap.size, 1, none⟩ = some (.int .i64 rb)) := by
                obtain ⟨-, q1, -, -⟩ := HL1.out.cells hra
                obtain ⟨-, -, ⟨k0, k1⟩, -, -⟩ := lbox_cells HB1.out
                have q6 := (bcell (below_alloc1 wr (.cells #[.int .i64 (ra : Int), .int .i64 rb] 39)) tb (to + s) htz2).trans cT
                refine ⟨?_, k1, k0, q6, ?_⟩
                · rw [q1, HUN.out]
                · rw [cell_of_block HGB.out]; rfl
              have f7 := RowF.frozen HL1.out (ra * 4 + 1)
              have hYz := HL1.out.lt
              go_wp2_with fail
              clear y0 y1 f0 f1 v1 v2 cT z1 z2
              have z1 := f7
              generalize wr.alloc (.cells #[.int .i64 (ra : Int), .int .i64 rb] 39) = Y at *
              generalize wr.heap.size = gz at *
              by_cases hlu : un < ts + pr
              · have hdu : decide (un < ts + pr) = true := decide_eq_true hlu
                refine wp_region_noPanic ?_
                refine region_until 19 (fun w' => w'.cell? ⟨(w.heap.size + 1 + 1 + 1), ra * 4 + 1, none⟩ = some (.int .i64 un) ∧ w'.cell? ⟨w.heap.size + 1 + 1, 1, none⟩ = some (.slice (some ⟨tb, to, none⟩) T.length tc) ∧ w'.cell? ⟨w.heap.size + 1 + 1, 0, none⟩ = some (.int .i64 P) ∧ w'.cell? ⟨tb, to + s, none⟩ = some (.int .i64 ts) ∧ w'.cell? ⟨gz, 1, none⟩ = some (.int .i64 rb)) (by kernel_rfl) HS17.out (fun hHeld => ?_)
                refine utk (i := 0) rfl hHeld ?_
                try simp only [Act.put, List.setIfInBounds_toArray, List.set_cons_zero, List.set_cons_succ]
                refine utk (i := 1) rfl hHeld ?_
                try simp only [Act.put, List.setIfInBounds_toArray, List.set_cons_zero, List.set_cons_succ]
                refine utk (i := 2) rfl hHeld ?_
                try simp only [Act.put, List.setIfInBounds_toArray, List.set_cons_zero, List.set_cons_succ]
                refine utk (i := 3) rfl hHeld ?_
                try simp only [Act.put, List.setIfInBounds_toArray, List.set_cons_zero, List.set_cons_succ]
                refine utk (i := 4) rfl hHeld ?_
                try simp only [Act.put, List.setIfInBounds_toArray, List.set_cons_zero, List.set_cons_succ]
                refine utk (i := 5) rfl hHeld ?_
                try simp only [Act.put, List.setIfInBounds_toArray, List.set_cons_zero, List.set_cons_succ]
                refine utk (i := 6) rfl hHeld ?_
                try simp only [Act.put, List.setIfInBounds_toArray, List.set_cons_zero, List.set_cons_succ]
                refine utk (i := 7) rfl hHeld ?_
                try simp only [Act.put, List.setIfInBounds_toArray, List.set_cons_zero, List.set_cons_succ]
                refine utk (i := 8) rfl hHeld ?_
                try simp only [Act.put, List.setIfInBounds_toArray, List.set_cons_zero, List.set_cons_succ]
                refine utk (i := 9) rfl hHeld ?_
                try simp only [Act.put, List.setIfInBounds_toArray, List.set_cons_zero, List.set_cons_succ]
                refine utk (i := 10) rfl hHeld ?_
                try simp only [Act.put, List.setIfInBounds_toArray, List.set_cons_zero, List.set_cons_succ]
                refine utk (i := 11) rfl hHeld ?_
                try simp only [Act.put, List.setIfInBounds_toArray, List.set_cons_zero, List.set_cons_succ]
                refine utk (i := 12) rfl hHeld ?_
                try simp only [Act.put, List.setIfInBounds_toArray, List.set_cons_zero, List.set_cons_succ]
                refine utk (i := 13) rfl hHeld ?_
                try simp only [Act.put, List.setIfInBounds_toArray, List.set_cons_zero, List.set_cons_succ]
                refine utk (i := 14) rfl hHeld ?_
                try simp only [Act.put, List.setIfInBounds_toArray, List.set_cons_zero, List.set_cons_succ]
                refine utk (i := 15) rfl hHeld ?_
                try simp only [Act.put, List.setIfInBounds_toArray, List.set_cons_zero, List.set_cons_succ]
                refine utk (i := 16) rfl hHeld ?_
                try simp only [Act.put, List.setIfInBounds_toArray, List.set_cons_zero, List.set_cons_succ]
                refine utk (i := 17) rfl hHeld ?_
                try simp only [Act.put, List.setIfInBounds_toArray, List.set_cons_zero, List.set_cons_succ]
                refine utk (i := 18) rfl hHeld ?_
                try simp only [Act.put, List.setIfInBounds_toArray, List.set_cons_zero, List.set_cons_succ]
                refine until_one (i := 19) rfl (by kernel_rfl) (fun K hK9 => ?_)
                go_simp
                refine hK9.out _ _ (.inl rfl) ?_
                clear hK9 K
                try simp only [Act.put, List.setIfInBounds_toArray, List.set_cons_zero, List.set_cons_succ]
                refine until_done (by kernel_rfl) ?_ _
                refine NoPanic.normal ?_
                have HZ : Hid (LvV L.body.length (w.heap.size + 1 + 1 + 1) ⟨(lf2 L ⟨p0, p1, p2, q0, q1, q2, r⟩ P T s i).rd, upI (lf2 L ⟨p0, p1, p2, q0, q1, q2, r⟩ P T s i).un ra (ts + pr), (lf2 L ⟨p0, p1, p2, q0, q1, q2, r⟩ P T s i).bk, (lf2 L ⟨p0, p1, p2, q0, q1, q2, r⟩ P T s i).ou⟩ ((Y.setCell ⟨(w.heap.size + 1 + 1 + 1), ra * 4 + 1, none⟩ (.int .i64 (ts + pr))).drew)) := (HL1.out.setUn hra (ts + pr) : LvV _ _ _ (Y.setCell _ _))
                have HZR : Hid (RowF ((Y.setCell ⟨(w.heap.size + 1 + 1 + 1), ra * 4 + 1, none⟩ (.int .i64 (ts + pr))).drew) (wo.heap.size + 1) 152 4 (refsF ⟨o, xa, xb, ya, yb, ar, sp, pl, nn⟩)) := ref_other HR1.out HL1.out _ _
                have HZB : Hid (Below (w.heap.size + 1 + 1 + 1) (((w.alloc (.cells #[.slice a0 L.logs.length cap0, .slice (some ⟨b, off, none⟩) L.body.length cap1, .slice a2 L.outs.length cap2] 25)).alloc (.cells #[.int .i64 p0, .int .i64 p1, .int .i64 p2, .int .i64 q0, .int .i64 q1, .int .i64 q2, .int .i64 r] 28)).alloc (.cells #[.int .i64 P, .slice (some ⟨tb, to, none⟩) T.length tc] 49)) ((Y.setCell ⟨(w.heap.size + 1 + 1 + 1), ra * 4 + 1, none⟩ (.int .i64 (ts + pr))).drew)) := (HB1.out.setCell (Nat.le_refl _) _).trans (below_draws _ _ 1)
                have HZG : Hid (((Y.setCell ⟨(w.heap.size + 1 + 1 + 1), ra * 4 + 1, none⟩ (.int .i64 (ts + pr))).drew).cell? ⟨gz, 1, none⟩ = some (.int .i64 rb)) := (by have h : ((Y.setCell ⟨(w.heap.size + 1 + 1 + 1), ra * 4 + 1, none⟩ (.int .i64 (ts + pr))).drew).heap[gz]? = some (.cells #[.int .i64 (ra : Int), .int .i64 rb] 39 (0, 0)) := (Below.heap_setCell Y _ _ _ hne1).trans HGB.out; rw [cell_of_block h]; rfl)
                have HFIN : Hid (∀ Z, LvV L.body.length (w.heap.size + 1 + 1 + 1) ⟨(lf2 L ⟨p0, p1, p2, q0, q1, q2, r⟩ P T s i).rd, upI (lf2 L ⟨p0, p1, p2, q0, q1, q2, r⟩ P T s i).un ra (ts + pr), (lf2 L ⟨p0, p1, p2, q0, q1, q2, r⟩ P T s i).bk, (lf2 L ⟨p0, p1, p2, q0, q1, q2, r⟩ P T s i).ou⟩ Z → LvV L.body.length (w.heap.size + 1 + 1 + 1) (lf2 L ⟨p0, p1, p2, q0, q1, q2, r⟩ P T s (i + 1)) (Z.setCell ⟨(w.heap.size + 1 + 1 + 1), ra * 4 + 2, none⟩ (.int .i64 (if bk < rb then rb else bk)))) := fun Z hZ => HRX.out Z (ts + pr) (if_pos hlu).symm hZ
                clear hHeld HS17 f7 z1
                by_cases hlb : bk < rb
                · have hdb : decide (bk < rb) = true := decide_eq_true hlb
                  rw [if_pos hlb] at HFIN
                  generalize (Y.setCell ⟨(w.heap.size + 1 + 1 + 1), ra * 4 + 1, none⟩ (.int .i64 (ts + pr))).drew = Z at *
                  obtain ⟨-, -, w2, -⟩ := HZ.out.cells hra
                  have w2 := w2.trans HBK.out
                  have z2 := RowF.frozen HZ.out (ra * 4 + 2)
                  have zz := HZ.out.lt
                  go_wp2_with fail
                  refine wp_region_noPanic ?_
                  refine region_until 10 (fun w' => w'.cell? ⟨(w.heap.size + 1 + 1 + 1), ra * 4 + 2, none⟩ = some (.int .i64 bk) ∧ w'.cell? ⟨gz, 1, none⟩ = some (.int .i64 rb)) (by kernel_rfl) ⟨w2, HZG.out⟩ (fun hHeld => ?_)
                  refine utk (i := 0) rfl hHeld ?_
                  try simp only [Act.put, List.setIfInBounds_toArray, List.set_cons_zero, List.set_cons_succ]
                  refine utk (i := 1) rfl hHeld ?_
                  try simp only [Act.put, List.setIfInBounds_toArray, List.set_cons_zero, List.set_cons_succ]
                  refine utk (i := 2) rfl hHeld ?_
                  try simp only [Act.put, List.setIfInBounds_toArray, List.set_cons_zero, List.set_cons_succ]
                  refine utk (i := 3) rfl hHeld ?_
                  try simp only [Act.put, List.setIfInBounds_toArray, List.set_cons_zero, List.set_cons_succ]
                  refine utk (i := 4) rfl hHeld ?_
                  try simp only [Act.put, List.setIfInBounds_toArray, List.set_cons_zero, List.set_cons_succ]
                  refine utk (i := 5) rfl hHeld ?_
                  try simp only [Act.put, List.setIfInBounds_toArray, List.set_cons_zero, List.set_cons_succ]
                  refine utk (i := 6) rfl hHeld ?_
                  try simp only [Act.put, List.setIfInBounds_toArray, List.set_cons_zero, List.set_cons_succ]
                  refine utk (i := 7) rfl hHeld ?_
                  try simp only [Act.put, List.setIfInBounds_toArray, List.set_cons_zero, List.set_cons_succ]
                  refine utk (i := 8) rfl hHeld ?_
                  try simp only [Act.put, List.setIfInBounds_toArray, List.set_cons_zero, List.set_cons_succ]
                  refine utk (i := 9) rfl hHeld ?_
                  try simp only [Act.put, List.setIfInBounds_toArray, List.set_cons_zero, List.set_cons_succ]
                  refine until_one (i := 10) rfl (by kernel_rfl) (fun K hK9 => ?_)
                  go_simp
                  refine hK9.out _ _ (.inl rfl) ?_
                  clear hK9 K
                  try simp only [Act.put, List.setIfInBounds_toArray, List.set_cons_zero, List.set_cons_succ]
                  refine until_done (by kernel_rfl) ?_ _
                  refine NoPanic.normal ?_
                  clear hHeld w2 z2 zz
                  have HN : Hid (LvV L.body.length (w.heap.size + 1 + 1 + 1) (lf2 L ⟨p0, p1, p2, q0, q1, q2, r⟩ P T s (i + 1)) ((Z.setCell ⟨(w.heap.size + 1 + 1 + 1), ra * 4 + 2, none⟩ (.int .i64 (rb))).drew)) := (show LvV _ _ _ (Z.setCell _ _) from HFIN.out Z HZ.out)
                  have HNR : Hid (RowF ((Z.setCell ⟨(w.heap.size + 1 + 1 + 1), ra * 4 + 2, none⟩ (.int .i64 (rb))).drew) (wo.heap.size + 1) 152 4 (refsF ⟨o, xa, xb, ya, yb, ar, sp, pl, nn⟩)) := ref_other HZR.out HZ.out _ _
                  have HNB : Hid (Below (w.heap.size + 1 + 1 + 1) (((w.alloc (.cells #[.slice a0 L.logs.length cap0, .slice (some ⟨b, off, none⟩) L.body.length cap1, .slice a2 L.outs.length cap2] 25)).alloc (.cells #[.int .i64 p0, .int .i64 p1, .int .i64 p2, .int .i64 q0, .int .i64 q1, .int .i64 q2, .int .i64 r] 28)).alloc (.cells #[.int .i64 P, .slice (some ⟨tb, to, none⟩) T.length tc] 49)) ((Z.setCell ⟨(w.heap.size + 1 + 1 + 1), ra * 4 + 2, none⟩ (.int .i64 (rb))).drew)) := (HZB.out.setCell (Nat.le_refl _) _).trans (below_draws _ _ 1)
                  go_wp2_with fail
                  go_roundw
                  case rel => exact ⟨i + 1, by omega, by go_num, HNR.out, HN.out, HNB.out⟩
                  case measure => simp [intOf]; omega
                · have hdb : decide (bk < rb) = false := decide_eq_false hlb
                  have hlb2 : rb ≤ bk := by omega
                  rw [if_neg hlb] at HFIN
                  generalize (Y.setCell ⟨(w.heap.size + 1 + 1 + 1), ra * 4 + 1, none⟩ (.int .i64 (ts + pr))).drew = Z at *
                  obtain ⟨-, -, w2, -⟩ := HZ.out.cells hra
                  have w2 := w2.trans HBK.out
                  have z2 := RowF.frozen HZ.out (ra * 4 + 2)
                  have zz := HZ.out.lt
                  go_wp2_with fail
                  refine wp_region_noPanic ?_
                  refine region_until 10 (fun w' => w'.cell? ⟨(w.heap.size + 1 + 1 + 1), ra * 4 + 2, none⟩ = some (.int .i64 bk) ∧ w'.cell? ⟨gz, 1, none⟩ = some (.int .i64 rb)) (by kernel_rfl) ⟨w2, HZG.out⟩ (fun hHeld => ?_)
                  refine utk (i := 0) rfl hHeld ?_
                  try simp only [Act.put, List.setIfInBounds_toArray, List.set_cons_zero, List.set_cons_succ]
                  refine utk (i := 1) rfl hHeld ?_
                  try simp only [Act.put, List.setIfInBounds_toArray, List.set_cons_zero, List.set_cons_succ]
                  refine utk (i := 2) rfl hHeld ?_
                  try simp only [Act.put, List.setIfInBounds_toArray, List.set_cons_zero, List.set_cons_succ]
                  refine utk (i := 3) rfl hHeld ?_
                  try simp only [Act.put, List.setIfInBounds_toArray, List.set_cons_zero, List.set_cons_succ]
                  refine utk (i := 4) rfl hHeld ?_
                  try simp only [Act.put, List.setIfInBounds_toArray, List.set_cons_zero, List.set_cons_succ]
                  refine utk (i := 5) rfl hHeld ?_
                  try simp only [Act.put, List.setIfInBounds_toArray, List.set_cons_zero, List.set_cons_succ]
                  refine utk (i := 6) rfl hHeld ?_
                  try simp only [Act.put, List.setIfInBounds_toArray, List.set_cons_zero, List.set_cons_succ]
                  refine utk (i := 7) rfl hHeld ?_
                  try simp only [Act.put, List.setIfInBounds_toArray, List.set_cons_zero, List.set_cons_succ]
                  refine utk (i := 8) rfl hHeld ?_
                  try simp only [Act.put, List.setIfInBounds_toArray, List.set_cons_zero, List.set_cons_succ]
                  refine utk (i := 9) rfl hHeld ?_
                  try simp only [Act.put, List.setIfInBounds_toArray, List.set_cons_zero, List.set_cons_succ]
                  refine until_one (i := 10) rfl (by kernel_rfl) (fun K hK9 => ?_)
                  go_simp
                  refine hK9.out _ _ (.inl rfl) ?_
                  clear hK9 K
                  try simp only [Act.put, List.setIfInBounds_toArray, List.set_cons_zero, List.set_cons_succ]
                  refine until_done (by kernel_rfl) ?_ _
                  refine NoPanic.normal ?_
                  clear hHeld w2 z2 zz
                  have HN : Hid (LvV L.body.length (w.heap.size + 1 + 1 + 1) (lf2 L ⟨p0, p1, p2, q0, q1, q2, r⟩ P T s (i + 1)) ((Z.setCell ⟨(w.heap.size + 1 + 1 + 1), ra * 4 + 2, none⟩ (.int .i64 (bk))).drew)) := (show LvV _ _ _ (Z.setCell _ _) from HFIN.out Z HZ.out)
                  have HNR : Hid (RowF ((Z.setCell ⟨(w.heap.size + 1 + 1 + 1), ra * 4 + 2, none⟩ (.int .i64 (bk))).drew) (wo.heap.size + 1) 152 4 (refsF ⟨o, xa, xb, ya, yb, ar, sp, pl, nn⟩)) := ref_other HZR.out HZ.out _ _
                  have HNB : Hid (Below (w.heap.size + 1 + 1 + 1) (((w.alloc (.cells #[.slice a0 L.logs.length cap0, .slice (some ⟨b, off, none⟩) L.body.length cap1, .slice a2 L.outs.length cap2] 25)).alloc (.cells #[.int .i64 p0, .int .i64 p1, .int .i64 p2, .int .i64 q0, .int .i64 q1, .int .i64 q2, .int .i64 r] 28)).alloc (.cells #[.int .i64 P, .slice (some ⟨tb, to, none⟩) T.length tc] 49)) ((Z.setCell ⟨(w.heap.size + 1 + 1 + 1), ra * 4 + 2, none⟩ (.int .i64 (bk))).drew)) := (HZB.out.setCell (Nat.le_refl _) _).trans (below_draws _ _ 1)
                  go_wp2_with fail
                  go_roundw
                  case rel => exact ⟨i + 1, by omega, by go_num, HNR.out, HN.out, HNB.out⟩
                  case measure => simp [intOf]; omega
              · have hdu : decide (un < ts + pr) = false := decide_eq_false hlu
                have hlu2 : ts + pr ≤ un := by omega
                refine wp_region_noPanic ?_
                refine region_until 19 (fun w' => w'.cell? ⟨(w.heap.size + 1 + 1 + 1), ra * 4 + 1, none⟩ = some (.int .i64 un) ∧ w'.cell? ⟨w.heap.size + 1 + 1, 1, none⟩ = some (.slice (some ⟨tb, to, none⟩) T.length tc) ∧ w'.cell? ⟨w.heap.size + 1 + 1, 0, none⟩ = some (.int .i64 P) ∧ w'.cell? ⟨tb, to + s, none⟩ = some (.int .i64 ts) ∧ w'.cell? ⟨gz, 1, none⟩ = some (.int .i64 rb)) (by kernel_rfl) HS17.out (fun hHeld => ?_)
                refine utk (i := 0) rfl hHeld ?_
                try simp only [Act.put, List.setIfInBounds_toArray, List.set_cons_zero, List.set_cons_succ]
                refine utk (i := 1) rfl hHeld ?_
                try simp only [Act.put, List.setIfInBounds_toArray, List.set_cons_zero, List.set_cons_succ]
                refine utk (i := 2) rfl hHeld ?_
                try simp only [Act.put, List.setIfInBounds_toArray, List.set_cons_zero, List.set_cons_succ]
                refine utk (i := 3) rfl hHeld ?_
                try simp only [Act.put, List.setIfInBounds_toArray, List.set_cons_zero, List.set_cons_succ]
                refine utk (i := 4) rfl hHeld ?_
                try simp only [Act.put, List.setIfInBounds_toArray, List.set_cons_zero, List.set_cons_succ]
                refine utk (i := 5) rfl hHeld ?_
                try simp only [Act.put, List.setIfInBounds_toArray, List.set_cons_zero, List.set_cons_succ]
                refine utk (i := 6) rfl hHeld ?_
                try simp only [Act.put, List.setIfInBounds_toArray, List.set_cons_zero, List.set_cons_succ]
                refine utk (i := 7) rfl hHeld ?_
                try simp only [Act.put, List.setIfInBounds_toArray, List.set_cons_zero, List.set_cons_succ]
                refine utk (i := 8) rfl hHeld ?_
                try simp only [Act.put, List.setIfInBounds_toArray, List.set_cons_zero, List.set_cons_succ]
                refine utk (i := 9) rfl hHeld ?_
                try simp only [Act.put, List.setIfInBounds_toArray, List.set_cons_zero, List.set_cons_succ]
                refine utk (i := 10) rfl hHeld ?_
                try simp only [Act.put, List.setIfInBounds_toArray, List.set_cons_zero, List.set_cons_succ]
                refine utk (i := 11) rfl hHeld ?_
                try simp only [Act.put, List.setIfInBounds_toArray, List.set_cons_zero, List.set_cons_succ]
                refine utk (i := 12) rfl hHeld ?_
                try simp only [Act.put, List.setIfInBounds_toArray, List.set_cons_zero, List.set_cons_succ]
                refine utk (i := 13) rfl hHeld ?_
                try simp only [Act.put, List.setIfInBounds_toArray, List.set_cons_zero, List.set_cons_succ]
                refine utk (i := 14) rfl hHeld ?_
                try simp only [Act.put, List.setIfInBounds_toArray, List.set_cons_zero, List.set_cons_succ]
                refine utk (i := 15) rfl hHeld ?_
                try simp only [Act.put, List.setIfInBounds_toArray, List.set_cons_zero, List.set_cons_succ]
                refine utk (i := 16) rfl hHeld ?_
                try simp only [Act.put, List.setIfInBounds_toArray, List.set_cons_zero, List.set_cons_succ]
                refine utk (i := 17) rfl hHeld ?_
                try simp only [Act.put, List.setIfInBounds_toArray, List.set_cons_zero, List.set_cons_succ]
                refine utk (i := 18) rfl hHeld ?_
                try simp only [Act.put, List.setIfInBounds_toArray, List.set_cons_zero, List.set_cons_succ]
                refine until_one (i := 19) rfl (by kernel_rfl) (fun K hK9 => ?_)
                go_simp
                refine hK9.out _ _ (.inl rfl) ?_
                clear hK9 K
                try simp only [Act.put, List.setIfInBounds_toArray, List.set_cons_zero, List.set_cons_succ]
                refine until_done (by kernel_rfl) ?_ _
                refine NoPanic.normal ?_
                have HZ : Hid (LvV L.body.length (w.heap.size + 1 + 1 + 1) ⟨(lf2 L ⟨p0, p1, p2, q0, q1, q2, r⟩ P T s i).rd, upI (lf2 L ⟨p0, p1, p2, q0, q1, q2, r⟩ P T s i).un ra (un), (lf2 L ⟨p0, p1, p2, q0, q1, q2, r⟩ P T s i).bk, (lf2 L ⟨p0, p1, p2, q0, q1, q2, r⟩ P T s i).ou⟩ ((Y.setCell ⟨(w.heap.size + 1 + 1 + 1), ra * 4 + 1, none⟩ (.int .i64 (un))).drew)) := (HL1.out.setUn hra (un) : LvV _ _ _ (Y.setCell _ _))
                have HZR : Hid (RowF ((Y.setCell ⟨(w.heap.size + 1 + 1 + 1), ra * 4 + 1, none⟩ (.int .i64 (un))).drew) (wo.heap.size + 1) 152 4 (refsF ⟨o, xa, xb, ya, yb, ar, sp, pl, nn⟩)) := ref_other HR1.out HL1.out _ _
                have HZB : Hid (Below (w.heap.size + 1 + 1 + 1) (((w.alloc (.cells #[.slice a0 L.logs.length cap0, .slice (some ⟨b, off, none⟩) L.body.length cap1, .slice a2 L.outs.length cap2] 25)).alloc (.cells #[.int .i64 p0, .int .i64 p1, .int .i64 p2, .int .i64 q0, .int .i64 q1, .int .i64 q2, .int .i64 r] 28)).alloc (.cells #[.int .i64 P, .slice (some ⟨tb, to, none⟩) T.length tc] 49)) ((Y.setCell ⟨(w.heap.size + 1 + 1 + 1), ra * 4 + 1, none⟩ (.int .i64 (un))).drew)) := (HB1.out.setCell (Nat.le_refl _) _).trans (below_draws _ _ 1)
                have HZG : Hid (((Y.setCell ⟨(w.heap.size + 1 + 1 + 1), ra * 4 + 1, none⟩ (.int .i64 (un))).drew).cell? ⟨gz, 1, none⟩ = some (.int .i64 rb)) := (by have h : ((Y.setCell ⟨(w.heap.size + 1 + 1 + 1), ra * 4 + 1, none⟩ (.int .i64 (un))).drew).heap[gz]? = some (.cells #[.int .i64 (ra : Int), .int .i64 rb] 39 (0, 0)) := (Below.heap_setCell Y _ _ _ hne1).trans HGB.out; rw [cell_of_block h]; rfl)
                have HFIN : Hid (∀ Z, LvV L.body.length (w.heap.size + 1 + 1 + 1) ⟨(lf2 L ⟨p0, p1, p2, q0, q1, q2, r⟩ P T s i).rd, upI (lf2 L ⟨p0, p1, p2, q0, q1, q2, r⟩ P T s i).un ra (un), (lf2 L ⟨p0, p1, p2, q0, q1, q2, r⟩ P T s i).bk, (lf2 L ⟨p0, p1, p2, q0, q1, q2, r⟩ P T s i).ou⟩ Z → LvV L.body.length (w.heap.size + 1 + 1 + 1) (lf2 L ⟨p0, p1, p2, q0, q1, q2, r⟩ P T s (i + 1)) (Z.setCell ⟨(w.heap.size + 1 + 1 + 1), ra * 4 + 2, none⟩ (.int .i64 (if bk < rb then rb else bk)))) := fun Z hZ => HRX.out Z (un) (if_neg hlu).symm hZ
                clear hHeld HS17 f7 z1
                by_cases hlb : bk < rb
                · have hdb : decide (bk < rb) = true := decide_eq_true hlb
                  rw [if_pos hlb] at HFIN
                  generalize (Y.setCell ⟨(w.heap.size + 1 + 1 + 1), ra * 4 + 1, none⟩ (.int .i64 (un))).drew = Z at *
                  obtain ⟨-, -, w2, -⟩ := HZ.out.cells hra
                  have w2 := w2.trans HBK.out
                  have z2 := RowF.frozen HZ.out (ra * 4 + 2)
                  have zz := HZ.out.lt
                  go_wp2_with fail
                  refine wp_region_noPanic ?_
                  refine region_until 10 (fun w' => w'.cell? ⟨(w.heap.size + 1 + 1 + 1), ra * 4 + 2, none⟩ = some (.int .i64 bk) ∧ w'.cell? ⟨gz, 1, none⟩ = some (.int .i64 rb)) (by kernel_rfl) ⟨w2, HZG.out⟩ (fun hHeld => ?_)
                  refine utk (i := 0) rfl hHeld ?_
                  try simp only [Act.put, List.setIfInBounds_toArray, List.set_cons_zero, List.set_cons_succ]
                  refine utk (i := 1) rfl hHeld ?_
                  try simp only [Act.put, List.setIfInBounds_toArray, List.set_cons_zero, List.set_cons_succ]
                  refine utk (i := 2) rfl hHeld ?_
                  try simp only [Act.put, List.setIfInBounds_toArray, List.set_cons_zero, List.set_cons_succ]
                  refine utk (i := 3) rfl hHeld ?_
                  try simp only [Act.put, List.setIfInBounds_toArray, List.set_cons_zero, List.set_cons_succ]
                  refine utk (i := 4) rfl hHeld ?_
                  try simp only [Act.put, List.setIfInBounds_toArray, List.set_cons_zero, List.set_cons_succ]
                  refine utk (i := 5) rfl hHeld ?_
                  try simp only [Act.put, List.setIfInBounds_toArray, List.set_cons_zero, List.set_cons_succ]
                  refine utk (i := 6) rfl hHeld ?_
                  try simp only [Act.put, List.setIfInBounds_toArray, List.set_cons_zero, List.set_cons_succ]
                  refine utk (i := 7) rfl hHeld ?_
                  try simp only [Act.put, List.setIfInBounds_toArray, List.set_cons_zero, List.set_cons_succ]
                  refine utk (i := 8) rfl hHeld ?_
                  try simp only [Act.put, List.setIfInBounds_toArray, List.set_cons_zero, List.set_cons_succ]
                  refine utk (i := 9) rfl hHeld ?_
                  try simp only [Act.put, List.setIfInBounds_toArray, List.set_cons_zero, List.set_cons_succ]
                  refine until_one (i := 10) rfl (by kernel_rfl) (fun K hK9 => ?_)
                  go_simp
                  refine hK9.out _ _ (.inl rfl) ?_
                  clear hK9 K
                  try simp only [Act.put, List.setIfInBounds_toArray, List.set_cons_zero, List.set_cons_succ]
                  refine until_done (by kernel_rfl) ?_ _
                  refine NoPanic.normal ?_
                  clear hHeld w2 z2 zz
                  have HN : Hid (LvV L.body.length (w.heap.size + 1 + 1 + 1) (lf2 L ⟨p0, p1, p2, q0, q1, q2, r⟩ P T s (i + 1)) ((Z.setCell ⟨(w.heap.size + 1 + 1 + 1), ra * 4 + 2, none⟩ (.int .i64 (rb))).drew)) := (show LvV _ _ _ (Z.setCell _ _) from HFIN.out Z HZ.out)
                  have HNR : Hid (RowF ((Z.setCell ⟨(w.heap.size + 1 + 1 + 1), ra * 4 + 2, none⟩ (.int .i64 (rb))).drew) (wo.heap.size + 1) 152 4 (refsF ⟨o, xa, xb, ya, yb, ar, sp, pl, nn⟩)) := ref_other HZR.out HZ.out _ _
                  have HNB : Hid (Below (w.heap.size + 1 + 1 + 1) (((w.alloc (.cells #[.slice a0 L.logs.length cap0, .slice (some ⟨b, off, none⟩) L.body.length cap1, .slice a2 L.outs.length cap2] 25)).alloc (.cells #[.int .i64 p0, .int .i64 p1, .int .i64 p2, .int .i64 q0, .int .i64 q1, .int .i64 q2, .int .i64 r] 28)).alloc (.cells #[.int .i64 P, .slice (some ⟨tb, to, none⟩) T.length tc] 49)) ((Z.setCell ⟨(w.heap.size + 1 + 1 + 1), ra * 4 + 2, none⟩ (.int .i64 (rb))).drew)) := (HZB.out.setCell (Nat.le_refl _) _).trans (below_draws _ _ 1)
                  go_wp2_with fail
                  go_roundw
                  case rel => exact ⟨i + 1, by omega, by go_num, HNR.out, HN.out, HNB.out⟩
                  case measure => simp [intOf]; omega
                · have hdb : decide (bk < rb) = false := decide_eq_false hlb
                  have hlb2 : rb ≤ bk := by omega
                  rw [if_neg hlb] at HFIN
                  generalize (Y.setCell ⟨(w.heap.size + 1 + 1 + 1), ra * 4 + 1, none⟩ (.int .i64 (un))).drew = Z at *
                  obtain ⟨-, -, w2, -⟩ := HZ.out.cells hra
                  have w2 := w2.trans HBK.out
                  have z2 := RowF.frozen HZ.out (ra * 4 + 2)
                  have zz := HZ.out.lt
                  go_wp2_with fail
                  refine wp_region_noPanic ?_
                  refine region_until 10 (fun w' => w'.cell? ⟨(w.heap.size + 1 + 1 + 1), ra * 4 + 2, none⟩ = some (.int .i64 bk) ∧ w'.cell? ⟨gz, 1, none⟩ = some (.int .i64 rb)) (by kernel_rfl) ⟨w2, HZG.out⟩ (fun hHeld => ?_)
                  refine utk (i := 0) rfl hHeld ?_
                  try simp only [Act.put, List.setIfInBounds_toArray, List.set_cons_zero, List.set_cons_succ]
                  refine utk (i := 1) rfl hHeld ?_
                  try simp only [Act.put, List.setIfInBounds_toArray, List.set_cons_zero, List.set_cons_succ]
                  refine utk (i := 2) rfl hHeld ?_
                  try simp only [Act.put, List.setIfInBounds_toArray, List.set_cons_zero, List.set_cons_succ]
                  refine utk (i := 3) rfl hHeld ?_
                  try simp only [Act.put, List.setIfInBounds_toArray, List.set_cons_zero, List.set_cons_succ]
                  refine utk (i := 4) rfl hHeld ?_
                  try simp only [Act.put, List.setIfInBounds_toArray, List.set_cons_zero, List.set_cons_succ]
                  refine utk (i := 5) rfl hHeld ?_
                  try simp only [Act.put, List.setIfInBounds_toArray, List.set_cons_zero, List.set_cons_succ]
                  refine utk (i := 6) rfl hHeld ?_
                  try simp only [Act.put, List.setIfInBounds_toArray, List.set_cons_zero, List.set_cons_succ]
                  refine utk (i := 7) rfl hHeld ?_
                  try simp only [Act.put, List.setIfInBounds_toArray, List.set_cons_zero, List.set_cons_succ]
                  refine utk (i := 8) rfl hHeld ?_
                  try simp only [Act.put, List.setIfInBounds_toArray, List.set_cons_zero, List.set_cons_succ]
                  refine utk (i := 9) rfl hHeld ?_
                  try simp only [Act.put, List.setIfInBounds_toArray, List.set_cons_zero, List.set_cons_succ]
                  refine until_one (i := 10) rfl (by kernel_rfl) (fun K hK9 => ?_)
                  go_simp
                  refine hK9.out _ _ (.inl rfl) ?_
                  clear hK9 K
                  try simp only [Act.put, List.setIfInBounds_toArray, List.set_cons_zero, List.set_cons_succ]
                  refine until_done (by kernel_rfl) ?_ _
                  refine NoPanic.normal ?_
                  clear hHeld w2 z2 zz
                  have HN : Hid (LvV L.body.length (w.heap.size + 1 + 1 + 1) (lf2 L ⟨p0, p1, p2, q0, q1, q2, r⟩ P T s (i + 1)) ((Z.setCell ⟨(w.heap.size + 1 + 1 + 1), ra * 4 + 2, none⟩ (.int .i64 (bk))).drew)) := (show LvV _ _ _ (Z.setCell _ _) from HFIN.out Z HZ.out)
                  have HNR : Hid (RowF ((Z.setCell ⟨(w.heap.size + 1 + 1 + 1), ra * 4 + 2, none⟩ (.int .i64 (bk))).drew) (wo.heap.size + 1) 152 4 (refsF ⟨o, xa, xb, ya, yb, ar, sp, pl, nn⟩)) := ref_other HZR.out HZ.out _ _
                  have HNB : Hid (Below (w.heap.size + 1 + 1 + 1) (((w.alloc (.cells #[.slice a0 L.logs.length cap0, .slice (some ⟨b, off, none⟩) L.body.length cap1, .slice a2 L.outs.length cap2] 25)).alloc (.cells #[.int .i64 p0, .int .i64 p1, .int .i64 p2, .int .i64 q0, .int .i64 q1, .int .i64 q2, .int .i64 r] 28)).alloc (.cells #[.int .i64 P, .slice (some ⟨tb, to, none⟩) T.length tc] 49)) ((Z.setCell ⟨(w.heap.size + 1 + 1 + 1), ra * 4 + 2, none⟩ (.int .i64 (bk))).drew)) := (HZB.out.setCell (Nat.le_refl _) _).trans (below_draws _ _ 1)
                  go_wp2_with fail
                  go_roundw
                  case rel => exact ⟨i + 1, by omega, by go_num, HNR.out, HN.out, HNB.out⟩
                  case measure => simp [intOf]; omega
            · have e : i = us.length := by omega
              have hii : ¬ (i : Int) < (us.length : Int) := by omega
              have HN : Hid (LvV L.body.length (w.heap.size + 1 + 1 + 1) (lf2 L ⟨p0, p1, p2, q0, q1, q2, r⟩ P T (s + 1) 0) wr) := by rw [← HREND.out, ← e]; exact hV
              clear e hrow hV hbel hbw
              go_wp2_with fail
              go_roundw
              case rel => exact ⟨s + 1, by omega, by go_num, HN.out, HB.out⟩
              case measure => simp [intOf]; omega
        · have e : s = L.body.length := by omega
          have hsi : ¬ (s : Int) < (L.body.length : Int) := by omega
          have HV3 : Hid (LvV L.body.length (w.heap.size + 1 + 1 + 1) (lf3 L ⟨p0, p1, p2, q0, q1, q2, r⟩ P T 0) wr) := by
            have h := HV.out
            rw [e, lf2_end] at h
            exact h
          clear e HV
          rename World => wb
          go_wp2_with fail
          clear l0 l1 l2 t0 t1 t2 t3 t4 t5 t6 y0 y1
          go_loopw [113] (fun iv wr => ∃ q : Nat, q ≤ L.outs.length ∧ iv = .int .i64 q ∧ LvV L.body.length (w.heap.size + 1 + 1 + 1) (lf3 L ⟨p0, p1, p2, q0, q1, q2, r⟩ P T q) wr ∧ Below (w.heap.size + 1 + 1 + 1) (((w.alloc (.cells #[.slice a0 L.logs.length cap0, .slice (some ⟨b, off, none⟩) L.body.length cap1, .slice a2 L.outs.length cap2] 25)).alloc (.cells #[.int .i64 p0, .int .i64 p1, .int .i64 p2, .int .i64 q0, .int .i64 q1, .int .i64 q2, .int .i64 r] 28)).alloc (.cells #[.int .i64 P, .slice (some ⟨tb, to, none⟩) T.length tc] 49)) wr) (fun iv _ => L.outs.length - (intOf iv).toNat)
          case atStart => exact ⟨0, Nat.zero_le _, rfl, HV3.out, HB.out⟩
          case round =>
            clear HV3 HB HW hlbz hz
            obtain ⟨q, hq, rfl, hV, hbel⟩ := hrel
            have HV := hide hV
            have HB := hide hbel
            obtain ⟨-, -, -, hz, hbw⟩ := lbox_cells hbel
            have hlbz := hV.lt
            by_cases hql : q < L.outs.length
            · have hqi : (q : Int) < (L.outs.length : Int) := by omega
              obtain ⟨ob, oo, rfl, hobz, hoc⟩ := HOUT.out (by omega)
              have c0 := (bcell hbw ob (oo + q) hobz).trans (hoc q hql)
              have hobz2 : ob < wr.heap.size := by have := hbw.size; omega
              obtain ⟨r1, r2⟩ := outs_range HM.out hql
              obtain ⟨at', hat⟩ := Int.eq_ofNat_of_zero_le r1
              have hal : at' < L.body.length := by omega
              have HN := hide (hV.told hal hat)
              obtain ⟨-, -, -, v3⟩ := hV.cells hal
              have z3 := RowF.frozen hV (at' * 4 + 3)
              rw [hat] at c0
              have hali : (at' : Int) < (L.body.length : Int) := by omega
              generalize (lf3 L ⟨p0, p1, p2, q0, q1, q2, r⟩ P T q).ou at' = e3 at *
              clear hV hbel hbw hoc r1 r2 hat
              go_wp2_with fail
              go_roundw
              case rel => exact ⟨q + 1, by omega, by go_num, HN.out, HB.out.setCell (Nat.le_refl _) _⟩
              case measure => simp [intOf]; omega
            · have e : q = L.outs.length := by omega
              have hqi : ¬ (q : Int) < (L.outs.length : Int) := by omega
              have HP : Hid (LivesP L ⟨p0, p1, p2, q0, q1, q2, r⟩ P T w (.returned (.slice (some ⟨(w.heap.size + 1 + 1 + 1), 0, none⟩) L.body.length L.body.length)) wr) := ⟨(w.heap.size + 1 + 1 + 1), rfl, by rw [e, lf3_end] at hV; exact hV, by omega, hbw⟩
              clear hV hbel hbw e
              go_wp2_with fail
              go_ret
              exact HP.out
end Go.Proofs.YtghlcmljgpkjiabGreat
