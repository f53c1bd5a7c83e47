/- CheckB: texts that are built as one: CheckSmall, CheckAsk, CheckKeep, CheckEnds, CheckWait. -/
import Derived.Test.YtbpaffkkphacdabGreatCheckA
import Derived.Test.YtbpaffkkphacdabGreatKernS
import Derived.Test.YtbpaffkkphacdabGreatBase
import Derived.Deep.QuietTactic
import Derived.BigQuiet
import Derived.Test.YtbpaffkkphacdabGreatRef10B
import Derived.Test.YtbpaffkkphacdabGreatRef67
import Derived.Test.YtbpaffkkphacdabGreatRounds
/- Package check's small functions: within, floor, does; where a layout stands in memory (LayR), and left, notAhead, meets over it; nothing is changed. -/
namespace Go.Proofs.YtbpaffkkphacdabGreat
open Go.RowKit Go.Joins
set_option linter.unusedVariables false
set_option linter.unusedSimpArgs false
set_option maxRecDepth 8192

theorem cwithin_any (n lo hi : Int) (w : World) :
    Calls Tryz.prog 37 #[.int .i64 n, .int .i64 lo, .int .i64 hi] w fun e w' => e = .returned (.bool (inR n lo hi)) ∧ w' = w := by
  by_cases h : lo ≤ n ∧ n ≤ hi
  · rw [inR_yes h]
    obtain ⟨h1, h2⟩ := h
    go_enter Tryz.func37, Tryz.ntmps37
    go_wp2
    go_ret
    exact ⟨rfl, rfl⟩
  · rw [inR_no h]
    by_cases h1 : lo ≤ n
    · have h2 : ¬ n ≤ hi := fun h2 => h ⟨h1, h2⟩
      clear h
      go_enter Tryz.func37, Tryz.ntmps37
      go_wp2
      go_ret
      exact ⟨rfl, rfl⟩
    · clear h
      go_enter Tryz.func37, Tryz.ntmps37
      go_wp2
      go_ret
      exact ⟨rfl, rfl⟩
theorem ret_i64 {a b : Int} (h : a = b) : Ending.returned (.int .i64 a) = .returned (.int .i64 b) := by rw [h]
theorem floor_small {n d : Int} (hd : 1 ≤ d) (hn : -1000000 ≤ n) (hn2 : n ≤ 1000000) : -1000000 ≤ n.tdiv d ∧ n.tdiv d ≤ 1000000 ∧ -1000001 ≤ n / d ∧ n / d ≤ 1000001 := by
  have h1 : n.tdiv d ≤ 1000000 ∧ -1000000 ≤ n.tdiv d := by
    have h3 := Int.natAbs_tdiv_le_natAbs n d
    omega
  by_cases h : n.tmod d < 0
  · have := floor_yes (by omega) h; omega
  · have := floor_no (by omega) h; omega
theorem cfloor_any (n d : Int) (w : World) (hd : 1 ≤ d) (hn : -1000000 ≤ n) (hn2 : n ≤ 1000000) :
    Calls Tryz.prog 70 #[.int .i64 n, .int .i64 d] w fun e w' => e = .returned (.int .i64 (n / d)) ∧ w' = w := by
  have hd0 : ¬ d = 0 := by omega
  obtain ⟨b1, b2, b3, b4⟩ := floor_small hd hn hn2
  obtain ⟨rm, hrm⟩ : ∃ rm, n.tmod d = rm := ⟨_, rfl⟩
  have hm1 := Int.tmod_lt_of_pos n (show 0 < d by omega)
  have hm2 := Int.lt_tmod_of_pos n (show 0 < d by omega)
  have hm3 : -1000000 ≤ rm ∧ rm ≤ 1000000 := by
    rw [← hrm]
    have h3 := Int.natAbs_tmod n d
    have h4 := Nat.mod_le n.natAbs d.natAbs
    rw [← h3] at h4
    omega
  have hw1 : wrap64 rm = rm := by unfold wrap64; omega
  obtain ⟨qt, hqt⟩ : ∃ qt, n.tdiv d = qt := ⟨_, rfl⟩
  have hw2 : wrap64 qt = qt := by unfold wrap64; omega
  have hw3 : wrap64 (qt - 1) = qt - 1 := by unfold wrap64; omega
  by_cases h : rm < 0
  · have he : n / d = qt - 1 := by rw [← hqt]; exact (floor_yes (by omega) (by omega)).symm
    rw [he]
    clear he b1 b2 b3 b4 hm1 hm2 hm3
    go_enter Tryz.func70, Tryz.ntmps70
    go_wp2_with fail
    go_ret
    exact ⟨ret_i64 hw3, rfl⟩
  · have he : n / d = qt := by rw [← hqt]; exact (floor_no (by omega) (by omega)).symm
    rw [he]
    clear he b1 b2 b3 b4 hm1 hm2 hm3
    go_enter Tryz.func70, Tryz.ntmps70
    go_wp2_with fail
    go_ret
    exact ⟨by first | rfl | exact ret_i64 hw2, rfl⟩

/-- an Op does what a statement does -/
def doesB (o ar sp pl nn o' ar' sp' pl' nn' : Int) : Bool := decide (o' = o) && decide (ar' = ar) && decide (sp' = sp) && decide (pl' = pl) && decide (nn' = nn)
set_option maxHeartbeats 2000000 in
theorem cdoes_any (x0 x1 x2 x3 x4 x5 x6 x7 x8 x9 o xa xb ya yb ar sp pl nn : Int) (w : World) :
    Calls Tryz.prog 71 #[.agg #[.int .i64 x0, .int .i64 x1, .int .i64 x2, .int .i64 x3, .int .i64 x4, .int .i64 x5, .int .i64 x6, .int .i64 x7, .int .i64 x8, .int .i64 x9], .agg #[.int .i64 o, .int .i64 xa, .int .i64 xb, .int .i64 ya, .int .i64 yb, .int .i64 ar, .int .i64 sp, .int .i64 pl, .int .i64 nn]] w fun e w' => e = .returned (.bool (doesB o ar sp pl nn x2 x6 x7 x8 x9)) ∧ Below w.heap.size w w' := by
  go_enter Tryz.func71, Tryz.ntmps71
  go_wp2_with fail
  all_goals (go_ret; exact ⟨ret_bool (by unfold doesB; simp_all <;> omega), below_alloc2 _ _ _⟩)

/-- a layout's constants: its block, its rows, the loop's three, and what is read ahead of any result -/
structure Lc where
  y : Nat
  tb : Nat
  rb : Nat
  pb : Nat
  tc : Nat
  rc : Nat
  pc : Nat
  dc : Nat
  da : Option Addr
  l0 : Value
  l1 : Value
  l2 : Value
  sv : Value
def rdCells (x : Rd) : Array Value := #[.int .i64 x.ra, .int .i64 x.rb, .int .i64 x.tm, .int .i64 x.sg, .int .i64 x.nm]
/-- v is a slice of what is read -/
def ReadsV (w : World) (v : Value) (l : List Rd) : Prop :=
  ∃ a cap, v = .slice a l.length cap ∧ l.length ≤ cap ∧ cap ≤ maxLen ∧
    (0 < l.length → ∃ blk off, a = some ⟨blk, off, none⟩ ∧ blk < w.heap.size ∧ ∀ i, i < l.length → ∀ j, j < 5 → w.cell? ⟨blk, off + i * 5 + j, none⟩ = (rdCells (rdAt l i))[j]?)
structure LayR (c : Lc) (L : Lp) (t : Tg) (K : Kn) (O : List Int) (w : World) : Prop where
  blk : w.heap[c.y]? = some (.cells #[c.l0, c.l1, c.l2, .int .i64 K.pc, .int .i64 t.r, .slice (some ⟨c.tb, 0, none⟩) L.body.length c.tc, .slice (some ⟨c.rb, 0, none⟩) L.body.length c.rc, .slice (some ⟨c.pb, 0, none⟩) L.body.length c.pc, .slice c.da (readsD L K O).length c.dc, c.sv] 87 (0, 0))
  tm : RowF w c.tb 3 L.body.length (fun i => .int .i64 (timeJ K O i))
  rd : RowF w c.rb 3 L.body.length (fun i => .int .i64 (readyJ t K O i))
  pl : RowF w c.pb 3 L.body.length (fun i => .int .i64 (placeJ K O i))
  ct : L.body.length ≤ c.tc ∧ c.tc ≤ maxLen
  cr : L.body.length ≤ c.rc ∧ c.rc ≤ maxLen
  cp : L.body.length ≤ c.pc ∧ c.pc ≤ maxLen
  rs : ReadsV w (.slice c.da (readsD L K O).length c.dc) (readsD L K O)
  lv : LoopV w (.agg #[c.l0, c.l1, c.l2]) L
theorem LayR.cells {c : Lc} {L : Lp} {t : Tg} {K : Kn} {O : List Int} {w : World} (h : LayR c L t K O w) :
    w.cell? ⟨c.y, 0, none⟩ = some c.l0 ∧ w.cell? ⟨c.y, 1, none⟩ = some c.l1 ∧ w.cell? ⟨c.y, 2, none⟩ = some c.l2 ∧ w.cell? ⟨c.y, 3, none⟩ = some (.int .i64 K.pc) ∧ w.cell? ⟨c.y, 4, none⟩ = some (.int .i64 t.r) ∧ w.cell? ⟨c.y, 5, none⟩ = some (.slice (some ⟨c.tb, 0, none⟩) L.body.length c.tc) ∧ w.cell? ⟨c.y, 6, none⟩ = some (.slice (some ⟨c.rb, 0, none⟩) L.body.length c.rc) ∧ w.cell? ⟨c.y, 7, none⟩ = some (.slice (some ⟨c.pb, 0, none⟩) L.body.length c.pc) ∧ w.cell? ⟨c.y, 8, none⟩ = some (.slice c.da (readsD L K O).length c.dc) ∧ w.cell? ⟨c.y, 9, none⟩ = some c.sv := by
  have key := cell_of_block h.blk
  refine ⟨?_, ?_, ?_, ?_, ?_, ?_, ?_, ?_, ?_, ?_⟩ <;> rw [key] <;> rfl
theorem LayR.lt {c : Lc} {L : Lp} {t : Tg} {K : Kn} {O : List Int} {w : World} (h : LayR c L t K O w) : c.y < w.heap.size := (Array.getElem?_eq_some_iff.1 h.blk).1
theorem ReadsV.below {w w' : World} {v : Value} {l : List Rd} (h : ReadsV w v l) (hb : Below w.heap.size w w') : ReadsV w' v l := by
  obtain ⟨a, cap, e, h1, h2, h3⟩ := h
  refine ⟨a, cap, e, h1, h2, fun hp => ?_⟩
  obtain ⟨b, off, e1, h4, h5⟩ := h3 hp
  exact ⟨b, off, e1, Nat.lt_of_lt_of_le h4 hb.size, fun i hi j hj => (bcell hb _ _ h4).trans (h5 i hi j hj)⟩
theorem LayR.below {c : Lc} {L : Lp} {t : Tg} {K : Kn} {O : List Int} {w w' : World} (h : LayR c L t K O w) (hb : Below w.heap.size w w') : LayR c L t K O w' :=
  ⟨(hb.block _ h.lt).trans h.blk, h.tm.below hb h.tm.lt, h.rd.below hb h.rd.lt, h.pl.below hb h.pl.lt, h.ct, h.cr, h.cp, h.rs.below hb, h.lv.below hb⟩

set_option maxHeartbeats 1000000 in
theorem cleft_any (c : Lc) (L : Lp) (t : Tg) (K : Kn) (O : List Int) (n : Int) (w : World) (h : LayR c L t K O w) (hr : 1 ≤ t.r) (hr2 : t.r ≤ 128) (hn : -1000000 ≤ n) (hn2 : n ≤ 1000000) :
    Calls Tryz.prog 38 #[.pointer (some ⟨c.y, 0, none⟩), .int .i64 n] w fun e w' => e = .returned (.int .i64 (n % t.r)) ∧ ∃ m, w' = w.drewN m := by
  obtain ⟨-, -, -, -, d4, -⟩ := h.cells
  have hm1 := Int.emod_nonneg n (show t.r ≠ 0 by omega)
  have hm2 := Int.emod_lt_of_pos n (show 0 < t.r by omega)
  have hlm := left_mod (n := n) (r := t.r)
  have HF := hide (fun W => cfloor_any n t.r W hr hn hn2)
  have hy := h.lt
  clear h
  obtain ⟨md, hmd⟩ : ∃ md, n % t.r = md := ⟨_, rfl⟩
  obtain ⟨pr, hpr⟩ : ∃ pr, n / t.r * t.r = pr := ⟨_, rfl⟩
  obtain ⟨fl, hfl⟩ : ∃ fl, n / t.r = fl := ⟨_, rfl⟩
  rw [hmd] at hlm hm1 hm2 ⊢
  rw [hpr] at hlm
  rw [hfl] at hpr HF
  generalize t.r = r at *
  have hw1 : wrap64 (fl * r) = pr := by rw [hpr]; unfold wrap64; omega
  have hw2 : wrap64 (n - pr) = md := by unfold wrap64; omega
  clear hmd hfl hpr hlm hm1 hm2
  go_enter Tryz.func38, Tryz.ntmps38
  go_wp2_with fail
  go_big_quiet ((go_at_call 70; exact Calls.quiet_of_same (HF.out _)))
  go_wp2_with fail
  go_ret
  exact ⟨by first | rfl | exact ret_i64 hw2, _, rfl⟩
/-- which layouts: of what is laid -/
theorem LayR.drawn {c : Lc} {L : Lp} {t : Tg} {K : Kn} {O : List Int} {w : World} (h : LayR c L t K O w) (n : Nat) : LayR c L t K O (w.drewN n) := h.below (below_draws _ _ _)

set_option maxHeartbeats 2000000 in
theorem cnot_any (c : Lc) (L : Lp) (t : Tg) (K : Kn) (O : List Int) (a m : Nat) (w : World) (h : LayR c L t K O w) (hl : layD L t K O = true) (ha : a < L.body.length) (hm : m < L.body.length) :
    Calls Tryz.prog 75 #[.pointer (some ⟨c.y, 0, none⟩), .int .i64 a, .int .i64 m] w fun e w' => e = .returned (.int .i64 (notJ t K O a m)) ∧ ∃ n, w' = w.drewN n := by
  obtain ⟨-, -, -, d3, -, -, d6, -⟩ := h.cells
  obtain ⟨⟨hp1, hp2, hr1⟩, hrg⟩ := lay_range hl
  obtain ⟨a1, a2, a3, a4⟩ := hrg a ha
  obtain ⟨m1, m2, m3, m4⟩ := hrg m hm
  have ca := h.rd.cell ha
  have cm := h.rd.cell hm
  have hb := h.rd.lt
  have hy := h.lt
  obtain ⟨cr1, cr2⟩ := h.cr
  unfold maxLen at cr2
  have HF := hide (fun W => cfloor_any (readyJ t K O m - readyJ t K O a) K.pc W hp1 (by omega) (by omega))
  obtain ⟨f1, f2, f3, f4⟩ := floor_small (n := readyJ t K O m - readyJ t K O a) hp1 (by omega) (by omega)
  have hai : (a : Int) < (L.body.length : Int) := by omega
  have hmi : (m : Int) < (L.body.length : Int) := by omega
  have hnn : notJ t K O a m = if m = a then 1 else -((readyJ t K O m - readyJ t K O a) / K.pc) := rfl
  rw [hnn]
  clear hnn
  generalize readyJ t K O m = rm at *
  generalize readyJ t K O a = rr at *
  generalize K.pc = pp at *
  obtain ⟨fl, hfl⟩ : ∃ fl, (rm - rr) / pp = fl := ⟨_, rfl⟩
  rw [hfl] at HF f3 f4 ⊢
  have hw1 : wrap64 (rm - rr) = rm - rr := by unfold wrap64; omega
  have hw2 : wrap64 (-fl) = -fl := by unfold wrap64; omega
  generalize c.y = y at *
  generalize c.rb = rb at *
  generalize c.rc = rc at *
  generalize L.body.length = ln at *
  clear h hl hrg a1 a2 a3 a4 m1 m2 m3 m4 f1 f2 f3 f4 hfl
  by_cases e : m = a
  · rw [if_pos e]
    have hb : ((m : Int) == (a : Int)) = true := by simp [e]
    have hb2 : (m : Int) = (a : Int) := by omega
    clear e ca cm
    go_enter Tryz.func75, Tryz.ntmps75
    go_wp2_with fail
    go_ret
    exact ⟨rfl, 0, rfl⟩
  · rw [if_neg e]
    have hb : ((m : Int) == (a : Int)) = false := by simp; omega
    have hb2 : ¬ (m : Int) = (a : Int) := by omega
    clear e
    go_enter Tryz.func75, Tryz.ntmps75
    go_wp2_with fail
    go_big_quiet ((go_at_call 70; exact Calls.quiet_of_same (HF.out _)))
    go_wp2_with fail
    go_ret
    exact ⟨by first | rfl | exact ret_i64 hw2, _, rfl⟩

set_option maxHeartbeats 2000000 in
theorem cmeets_any (c : Lc) (L : Lp) (t : Tg) (K : Kn) (O : List Int) (a m : Nat) (f l : Int) (w : World) (h : LayR c L t K O w) (hl : layD L t K O = true) (ha : a < L.body.length) (hm : m < L.body.length) (hf1 : -5000 ≤ f) (hf2 : f ≤ 5000) :
    Calls Tryz.prog 76 #[.pointer (some ⟨c.y, 0, none⟩), .int .i64 a, .int .i64 m, .int .i64 f, .int .i64 l] w fun e w' => e = .returned (.bool (meetD (placeJ K O a) (placeJ K O m) f l t.r)) ∧ ∃ n, w' = w.drewN n := by
  obtain ⟨-, -, -, -, -, -, -, d7, -⟩ := h.cells
  obtain ⟨⟨hp1, hp2, hr1⟩, hrg⟩ := lay_range hl
  obtain ⟨-, -, -, -, -, -, a1, a2, hr2, -⟩ := lay_ops hl ha
  obtain ⟨-, -, -, -, -, -, m1, m2, -⟩ := lay_ops hl hm
  have ca := h.pl.cell ha
  have cm := h.pl.cell hm
  have hb := h.pl.lt
  have hy := h.lt
  obtain ⟨cr1, cr2⟩ := h.cp
  unfold maxLen at cr2
  have HF := hide (fun n => cleft_any c L t K O (placeJ K O a - placeJ K O m - f) (w.drewN n) (h.drawn n) hr1 hr2 (by omega) (by omega))
  have hq0 := Int.emod_nonneg (placeJ K O a - placeJ K O m - f) (show t.r ≠ 0 by omega)
  have hq1 := Int.emod_lt_of_pos (placeJ K O a - placeJ K O m - f) (show 0 < t.r by omega)
  have hai : (a : Int) < (L.body.length : Int) := by omega
  have hmi : (m : Int) < (L.body.length : Int) := by omega
  have hnn : meetD (placeJ K O a) (placeJ K O m) f l t.r = decide (f + (placeJ K O a - placeJ K O m - f) % t.r ≤ l) := rfl
  rw [hnn]
  clear hnn
  generalize placeJ K O a = qa at *
  generalize placeJ K O m = qm at *
  obtain ⟨fl, hfl⟩ : ∃ fl, (qa - qm - f) % t.r = fl := ⟨_, rfl⟩
  rw [hfl] at HF hq0 hq1 ⊢
  have hw1 : wrap64 (qa - qm) = qa - qm := by unfold wrap64; omega
  have hw2 : wrap64 (qa - qm - f) = qa - qm - f := by unfold wrap64; omega
  have hw3 : wrap64 (f + fl) = f + fl := by unfold wrap64; omega
  generalize c.y = y at *
  generalize c.pb = rb at *
  generalize c.pc = rc at *
  generalize L.body.length = ln at *
  clear h hl hrg a1 a2 m1 m2 hfl hq0 hq1 hp1 hp2 hr1 hr2 hf1 hf2
  go_enter Tryz.func76, Tryz.ntmps76
  go_wp2_with fail
  go_big_quiet ((go_at_call 38; exact Calls.quiet_of (HF.out _)))
  go_wp2_with fail
  go_ret
  exact ⟨rfl, _, rfl⟩
end Go.Proofs.YtbpaffkkphacdabGreat
/- Package check's names, keeps, ends and beforeMay over a layout in memory; nothing that was there is changed. -/
namespace Go.Proofs.YtbpaffkkphacdabGreat
open Go.RowKit Go.Joins
set_option linter.unusedVariables false
set_option linter.unusedSimpArgs false
set_option maxRecDepth 8192

theorem five {w : World} {b o : Nat} {s : Rd} (h : ∀ j, j < 5 → w.cell? ⟨b, o + j, none⟩ = (rdCells s)[j]?) :
    w.cell? ⟨b, o, none⟩ = some (.int .i64 s.ra) ∧ w.cell? ⟨b, o + 1, none⟩ = some (.int .i64 s.rb) ∧ w.cell? ⟨b, o + 2, none⟩ = some (.int .i64 s.tm) ∧ w.cell? ⟨b, o + 3, none⟩ = some (.int .i64 s.sg) ∧ w.cell? ⟨b, o + 4, none⟩ = some (.int .i64 s.nm) :=
  ⟨h 0 (by omega), h 1 (by omega), h 2 (by omega), h 3 (by omega), h 4 (by omega)⟩

set_option maxHeartbeats 4000000 in
theorem cnames_any (c : Lc) (L : Lp) (t : Tg) (K : Kn) (O : List Int) (w : World) (h : LayR c L t K O w) (hl : layD L t K O = true) :
    Calls Tryz.prog 43 #[.pointer (some ⟨c.y, 0, none⟩)] w fun e w' => e = .returned (.bool (namesD L t K O)) ∧ Below w.heap.size w w' := by
  have HD : Hid (namesD L t K O = allN (fun i => nameD t K O (rdAt (readsD L K O) i)) (readsD L K O).length) := rfl
  obtain ⟨⟨hp1, hp2, hr1⟩, hrg⟩ := lay_range hl
  have hr2 : t.r ≤ 128 := by
    obtain ⟨hm, -⟩ := lay_parts hl
    obtain ⟨-, hn1, -⟩ := may_parts hm
    obtain ⟨-, -, -, -, -, -, -, -, hr2, -⟩ := lay_ops hl (s := 0) (by omega)
    exact hr2
  have HLF := hide (fun (W : World) (hb : Below w.heap.size w W) (n : Int) (h1 : -1000000 ≤ n) (h2 : n ≤ 1000000) => cleft_any c L t K O n W (h.below hb) hr1 hr2 h1 h2)
  have HRR := hide (fun (i : Nat) (hi : i < (readsD L K O).length) => reads_range hl (rdAt_mem hi))
  have HPL := hide (fun (s : Nat) (hs : s < L.body.length) => And.intro (lay_ops hl hs).2.2.2.2.2.2.1 (lay_ops hl hs).2.2.2.2.2.2.2.1)
  have HC := hide h.cells
  have HPC := hide (fun (s : Nat) (hs : s < L.body.length) => h.pl.cell hs)
  have hpb := h.pl.lt
  have hy := h.lt
  obtain ⟨cp1, cp2⟩ := h.cp
  unfold maxLen at cp2
  obtain ⟨da, dc, hde, hd1, hd2, hd3⟩ := h.rs
  injection hde with e1 e2 e3
  unfold maxLen at hd2
  have HD3 := hide hd3
  clear h hl hrg hd3 hp1 hp2
  generalize readsD L K O = rs at *
  have l8 := HC.out.2.2.2.2.2.2.2.2.1
  rw [e1, e3] at l8
  rw [← e3] at hd2 hd1
  go_enter Tryz.func43, Tryz.ntmps43
  go_wp2_with fail
  go_loopw [10] (fun i wr => ∃ k : Nat, k ≤ rs.length ∧ i = .int .i64 k ∧ allN (fun i => nameD t K O (rdAt rs i)) k = true ∧ Below w.heap.size w wr) (fun i _ => rs.length - (intOf i).toNat)
  case atStart => exact ⟨0, Nat.zero_le _, rfl, rfl, Below.refl _ _⟩
  case round =>
    obtain ⟨k, hk, rfl, hall, hbel⟩ := hrel
    have HA := hide hall
    have HB := hide hbel
    clear hall
    by_cases hkl : k < rs.length
    · have hki : (k : Int) < (rs.length : Int) := by omega
      obtain ⟨db, dof, hda, hdb, hcell⟩ := HD3.out (by omega)
      subst hda
      obtain ⟨c0, c1, c2, c3, c4⟩ := five (fun j hj => (bcell hbel db (dof + k * 5 + j) hdb).trans (hcell k hkl j hj))
      have hdz : db < wr.heap.size := by have := hbel.size; omega
      have hyz : c.y < wr.heap.size := by have := hbel.size; omega
      have hpz : c.pb < wr.heap.size := by have := hbel.size; omega
      obtain ⟨r1, r2, r3, r4, -, -, r7, r8⟩ := HRR.out k hkl
      have HND : Hid (nameD t K O (rdAt rs k) = decide ((rdAt rs k).nm = (placeJ K O (rdAt rs k).ra.toNat - (rdAt rs k).rb - (rdAt rs k).sg) % t.r)) := rfl
      obtain ⟨x, hx⟩ : ∃ x, rdAt rs k = x := ⟨_, rfl⟩
      rw [hx] at c0 c1 c2 c3 c4 r1 r2 r3 r4 r7 r8 HND
      have HX := hide hx
      obtain ⟨xa, xb, xt, xs, xn⟩ := x
      simp only at c0 c1 c2 c3 c4 r1 r2 r3 r4 r7 r8
      obtain ⟨a, rfl⟩ : ∃ a : Nat, xa = a := ⟨xa.toNat, by omega⟩
      have ha : a < L.body.length := by omega
      have hai : (a : Int) < (L.body.length : Int) := by omega
      obtain ⟨p1, p2⟩ := HPL.out a ha
      have pc := (bcell hbel c.pb a hpb).trans (HPC.out a ha)
      have l7 := (bcell hbel c.y 7 hy).trans HC.out.2.2.2.2.2.2.2.1
      have HND2 : Hid (nameD t K O (rdAt rs k) = decide (xn = (placeJ K O a - xb - xs) % t.r)) := by show _ = _; rw [HX.out]; exact HND.out
      have HLE := hide (fun n => HLF.out ((wr.alloc (.cells #[.int .i64 (a : Int), .int .i64 xb, .int .i64 xt, .int .i64 xs, .int .i64 xn] 129)).drewN n) ((HB.out.trans ((below_alloc1 wr _).mono HB.out.size)).trans (below_draws _ _ _)) (placeJ K O a - xb - xs) (by omega) (by omega))
      generalize placeJ K O a = pa at *
      obtain ⟨md, hmd⟩ : ∃ md, (pa - xb - xs) % t.r = md := ⟨_, rfl⟩
      rw [hmd] at HND2 HLE
      have hw1 : wrap64 (pa - xb) = pa - xb := by unfold wrap64; omega
      have hw2 : wrap64 (pa - xb - xs) = pa - xb - xs := by unfold wrap64; omega
      have HNX : Hid (allN (fun i => nameD t K O (rdAt rs i)) (k + 1) = decide (xn = md)) := by show (allN (fun i => nameD t K O (rdAt rs i)) k && nameD t K O (rdAt rs k)) = _; rw [HA.out, HND2.out, Bool.true_and]
      have HNO : Hid (¬ xn = md → namesD L t K O = false) := fun h => by rw [HD.out]; exact allN_false hkl (by rw [HND2.out]; exact decide_eq_false h)
      have HBA : Hid (∀ n, Below w.heap.size w ((wr.alloc (.cells #[.int .i64 (a : Int), .int .i64 xb, .int .i64 xt, .int .i64 xs, .int .i64 xn] 129)).drewN n)) := fun n => (HB.out.trans ((below_alloc1 wr _).mono HB.out.size)).trans (below_draws _ _ _)
      generalize c.y = y at *
      generalize c.pb = pb at *
      generalize c.pc = pcc at *
      generalize L.body.length = ln at *
      clear hbel hcell hx HND hmd r1 r2 r3 r4 r7 r8 HRR HPL HPC HC HLF HX HND2 HD3 p1 p2 HD HA l8
      by_cases he : xn = md
      · have heb : (xn != md) = false := by simp [he]
        have HN : Hid (allN (fun i => nameD t K O (rdAt rs i)) (k + 1) = true) := by show _ = _; rw [HNX.out]; exact decide_eq_true he
        clear HNX HNO he
        go_wp2_with fail
        go_big_quiet ((go_at_call 38; exact Calls.quiet_of (HLE.out _)))
        go_wp2_with fail
        go_roundw
        case rel => exact ⟨k + 1, by omega, by go_num, HN.out, HBA.out _⟩
        case measure => simp [intOf]; omega
      · have heb : (xn != md) = true := by simp [he]
        have HN := hide (HNO.out he)
        clear HNX HNO he
        go_wp2_with fail
        go_big_quiet ((go_at_call 38; exact Calls.quiet_of (HLE.out _)))
        go_wp2_with fail
        go_ret
        exact ⟨ret_bool HN.out.symm, HBA.out _⟩
    · have e : k = rs.length := by omega
      subst e
      have hki : ¬ (rs.length : Int) < (rs.length : Int) := by omega
      have HN : Hid (namesD L t K O = true) := by show _ = _; rw [HD.out, HA.out]
      clear hbel
      go_wp2_with fail
      go_ret
      exact ⟨ret_bool HN.out.symm, HB.out⟩
end Go.Proofs.YtbpaffkkphacdabGreat
/- Package check's keeps, ends and beforeMay; nothing that was there is changed. -/
namespace Go.Proofs.YtbpaffkkphacdabGreat
open Go.RowKit Go.Joins
set_option linter.unusedVariables false
set_option linter.unusedSimpArgs false
set_option maxRecDepth 8192

theorem quiet_same2 {P : Program} {f : FuncId} {args : Array Value} {w : World} {k n : Nat} {v : Value} (h : Calls P f args (w.drewN (k + n)) fun e w' => e = .returned v ∧ w' = w.drewN (k + n)) : Calls P f args (w.drewN (k + n)) fun e w'' => e = .returned v ∧ ∃ m, w'' = w.drewN (k + m) :=
  h.mono fun _ _ ⟨he, hm⟩ => ⟨he, n, hm⟩
theorem new_blkC (w : World) (cs : Array Value) (e : TypeId) : (w.alloc (.cells cs e)).heap[w.heap.size]? = some (.cells cs e (0, 0)) := by show (w.heap.push _)[w.heap.size]? = _; simp
theorem not_range {L : Lp} {t : Tg} {K : Kn} {O : List Int} (hl : layD L t K O = true) {a m : Nat} (ha : a < L.body.length) (hm : m < L.body.length) : -2000 ≤ notJ t K O a m ∧ notJ t K O a m ≤ 2000 := by
  obtain ⟨⟨hp1, hp2, hr1⟩, hrg⟩ := lay_range hl
  obtain ⟨a1, a2, a3, a4⟩ := hrg a ha
  obtain ⟨m1, m2, m3, m4⟩ := hrg m hm
  unfold notJ
  split
  · omega
  · have h1 : -1100 ≤ (readyJ t K O m - readyJ t K O a) / K.pc := (Int.le_ediv_iff_mul_le (by omega)).2 (by have : (-1100) * K.pc ≤ (-1100) * 1 := Int.mul_le_mul_of_nonpos_left (by omega) hp1; omega)
    have h2 : (readyJ t K O m - readyJ t K O a) / K.pc < 1100 := (Int.ediv_lt_iff_lt_mul (by omega)).2 (by have : 1100 * 1 ≤ 1100 * K.pc := Int.mul_le_mul_of_nonneg_left hp1 (by omega); omega)
    omega

set_option maxHeartbeats 8000000 in
theorem ckeeps_any (c : Lc) (L : Lp) (t : Tg) (K : Kn) (O : List Int) (w : World) (h : LayR c L t K O w) (hl : layD L t K O = true) :
    Calls Tryz.prog 44 #[.pointer (some ⟨c.y, 0, none⟩)] w fun e w' => e = .returned (.bool (keepsD L t K O)) ∧ Below w.heap.size w w' := by
  have HD : Hid (keepsD L t K O = allN (fun i => keepD L t K O (rdAt (readsD L K O) i)) (readsD L K O).length) := rfl
  obtain ⟨⟨hp1, hp2, hr1⟩, hrg⟩ := lay_range hl
  have HNOT := hide (fun (W : World) (hb : Below w.heap.size w W) (a m : Nat) (ha : a < L.body.length) (hm : m < L.body.length) => cnot_any c L t K O a m W (h.below hb) hl ha hm)
  have HMEE := hide (fun (W : World) (hb : Below w.heap.size w W) (a m : Nat) (f l : Int) (ha : a < L.body.length) (hm : m < L.body.length) (h1 : -5000 ≤ f) (h2 : f ≤ 5000) => cmeets_any c L t K O a m f l W (h.below hb) hl ha hm h1 h2)
  have HNR := hide (fun (a m : Nat) (ha : a < L.body.length) (hm : m < L.body.length) => not_range hl ha hm)
  have HRR := hide (fun (i : Nat) (hi : i < (readsD L K O).length) => reads_range hl (rdAt_mem hi))
  have HRG := hide hrg
  have HC := hide h.cells
  have HRC := hide (fun (s : Nat) (hs : s < L.body.length) => h.rd.cell hs)
  have hrb := h.rd.lt
  have hy := h.lt
  obtain ⟨cr1, cr2⟩ := h.cr
  unfold maxLen at cr2
  obtain ⟨v0, v1, v2, hlv, -, ⟨b1, bc1, rfl, hbl, hbm, -⟩, -⟩ := h.lv
  unfold maxLen at hbm
  injection hlv with hlv
  obtain ⟨hv0, hv1, hv2⟩ : c.l0 = v0 ∧ c.l1 = .slice b1 L.body.length bc1 ∧ c.l2 = v2 := by
    have := congrArg Array.toList hlv
    simpa using this
  obtain ⟨da, dc, hde, hd1, hd2, hd3⟩ := h.rs
  injection hde with e1 e2 e3
  unfold maxLen at hd2
  have HD3 := hide hd3
  clear h hl hrg hd3 hlv hv0 hv2
  generalize readsD L K O = rs at *
  have l8 := HC.out.2.2.2.2.2.2.2.2.1
  rw [e1, e3] at l8
  rw [← e3] at hd2 hd1
  go_enter Tryz.func44, Tryz.ntmps44
  go_wp2_with fail
  go_loopw [14] (fun i wr => ∃ k : Nat, k ≤ rs.length ∧ i = .int .i64 k ∧ allN (fun i => keepD L t K O (rdAt rs i)) k = true ∧ Below w.heap.size w wr) (fun i _ => rs.length - (intOf i).toNat)
  case atStart => exact ⟨0, Nat.zero_le _, rfl, rfl, Below.refl _ _⟩
  case round =>
    obtain ⟨k, hk, rfl, hall, hbel⟩ := hrel
    have HA := hide hall
    have HB := hide hbel
    clear hall
    by_cases hkl : k < rs.length
    · have hki : (k : Int) < (rs.length : Int) := by omega
      obtain ⟨db, dof, hda, hdb, hcell⟩ := HD3.out (by omega)
      subst hda
      obtain ⟨c0, c1, c2, c3, c4⟩ := five (fun j hj => (bcell hbel db (dof + k * 5 + j) hdb).trans (hcell k hkl j hj))
      have hdz : db < wr.heap.size := by have := hbel.size; omega
      have hyz : c.y < wr.heap.size := by have := hbel.size; omega
      have hrz : c.rb < wr.heap.size := by have := hbel.size; omega
      obtain ⟨r1, r2, r3, r4, r5, r6, -, -⟩ := HRR.out k hkl
      have HND : Hid (keepD L t K O (rdAt rs k) = allN (fun m => !kmeetJ t K O (rdAt rs k).ra.toNat (rdAt rs k).rb ((rdAt rs k).tm + (rdAt rs k).rb * K.pc) m) L.body.length) := rfl
      obtain ⟨x, hx⟩ : ∃ x, rdAt rs k = x := ⟨_, rfl⟩
      rw [hx] at c0 c1 c2 c3 c4 r1 r2 r3 r4 r5 r6 HND
      have HX := hide hx
      obtain ⟨xa, xb, xt, xs, xn⟩ := x
      simp only at c0 c1 c2 c3 c4 r1 r2 r3 r4 r5 r6
      obtain ⟨a, rfl⟩ : ∃ a : Nat, xa = a := ⟨xa.toNat, by omega⟩
      have ha : a < L.body.length := by omega
      have HND2 : Hid (keepD L t K O (rdAt rs k) = allN (fun m => !kmeetJ t K O a xb (xt + xb * K.pc) m) L.body.length) := by show _ = _; rw [HX.out]; exact HND.out
      have hb1 : xb * K.pc ≤ 3 * 200 := Int.mul_le_mul r4 hp2 (by omega) (by omega)
      have hb0 : 0 ≤ xb * K.pc := Int.mul_nonneg r3 (by omega)
      obtain ⟨u, hu⟩ : ∃ u, xt + xb * K.pc = u := ⟨_, rfl⟩
      have hu0 : 0 ≤ u := by omega
      have hu1 : u ≤ 1600 := by omega
      have hw1 : wrap64 (xb * K.pc) = xb * K.pc := by unfold wrap64; omega
      have hw2 : wrap64 (xt + xb * K.pc) = u := by rw [hu]; unfold wrap64; omega
      rw [hu] at HND2
      have l1 := (bcell hbel c.y 1 hy).trans HC.out.2.1
      have l3 := (bcell hbel c.y 3 hy).trans HC.out.2.2.2.1
      rw [hv1] at l1
      have HNX : Hid (allN (fun m => !kmeetJ t K O a xb u m) L.body.length = true → allN (fun i => keepD L t K O (rdAt rs i)) (k + 1) = true) := fun h => by show (allN (fun i => keepD L t K O (rdAt rs i)) k && keepD L t K O (rdAt rs k)) = _; rw [HA.out, HND2.out, h]; rfl
      have HNO : Hid (allN (fun m => !kmeetJ t K O a xb u m) L.body.length = false → keepsD L t K O = false) := fun h => by rw [HD.out]; exact allN_false hkl (by rw [HND2.out]; exact h)
      have HBA : Hid (∀ n, Below w.heap.size w ((wr.alloc (.cells #[.int .i64 (a : Int), .int .i64 xb, .int .i64 xt, .int .i64 xs, .int .i64 xn] 129)).drewN n)) := fun n => (HB.out.trans ((below_alloc1 wr _).mono HB.out.size)).trans (below_draws _ _ _)
      clear hbel hcell hx HND hu r1 r2 r3 r4 r5 r6 HRR HX HND2 HD3 HD HA l8 hb1 hb0
      go_wp2_with fail
      go_big_quiet ((fail))
      go_wp2_with fail
      simp only [hw1, hw2]
      clear hw1 hw2
      rename World => wo
      obtain ⟨U, hU⟩ : ∃ U, wo.alloc (.cells #[.int .i64 (a : Int), .int .i64 xb, .int .i64 xt, .int .i64 xs, .int .i64 xn] 129) = U := ⟨_, rfl⟩
      have u0 : U.cell? ⟨wo.heap.size, 0, none⟩ = some (.int .i64 (a : Int)) := by rw [← hU, cell_of_block (new_blkC _ _ _)]; rfl
      have u1 : U.cell? ⟨wo.heap.size, 1, none⟩ = some (.int .i64 xb) := by rw [← hU, cell_of_block (new_blkC _ _ _)]; rfl
      have hUz : wo.heap.size < U.heap.size := by rw [← hU]; simp
      have hyU : U.cell? ⟨c.y, 3, none⟩ = some (.int .i64 K.pc) ∧ U.cell? ⟨c.y, 6, none⟩ = some (.slice (some ⟨c.rb, 0, none⟩) L.body.length c.rc) := by
        have hb := HBA.out 0
        exact ⟨(bcell (show Below w.heap.size w U by rw [← hU]; exact hb) c.y 3 hy).trans HC.out.2.2.2.1, (bcell (show Below w.heap.size w U by rw [← hU]; exact hb) c.y 6 hy).trans HC.out.2.2.2.2.2.2.1⟩
      have HUC : Hid (∀ s, s < L.body.length → U.cell? ⟨c.rb, s, none⟩ = some (.int .i64 (readyJ t K O s))) := fun s hs => (bcell (show Below w.heap.size w U by rw [← hU]; exact HBA.out 0) c.rb s hrb).trans (HRC.out s hs)
      obtain ⟨y3, y6⟩ := hyU
      have hyU : c.y < U.heap.size := by omega
      have hrU : c.rb < U.heap.size := by omega
      rw [hU] at HBA ⊢
      have HBK := hide (HB.out)
      clear c0 c1 c2 c3 c4 l1 l3 HC HRC hU
      go_loopw [35] (fun i wr2 => ∃ m n : Nat, m ≤ L.body.length ∧ i = .int .i64 m ∧ allN (fun m => !kmeetJ t K O a xb u m) m = true ∧ wr2 = U.drewN n) (fun i _ => L.body.length - (intOf i).toNat)
      case atStart => exact ⟨0, _, Nat.zero_le _, rfl, rfl, rfl⟩
      case round =>
        obtain ⟨m, n, hm, rfl, hall, rfl⟩ := hrel
        have HA2 := hide hall
        clear hall
        by_cases hml : m < L.body.length
        · have hmi : (m : Int) < (L.body.length : Int) := by omega
          have HN1 := hide (HNOT.out (U.drewN n) (HBA.out n) a m ha hml)
          obtain ⟨v1, v2⟩ := HNR.out a m ha hml
          obtain ⟨g1, g2, g3, g4⟩ := HRG.out m hml
          have rc := HUC.out m hml
          have HFL := hide (fun W => cfloor_any (u - readyJ t K O m) K.pc W hp1 (by omega) (by omega))
          have hw3 : wrap64 (u - readyJ t K O m) = u - readyJ t K O m := by unfold wrap64; omega
          have HME0 := hide (fun n l f (h1 : -5000 ≤ f) (h2 : f ≤ 5000) => HMEE.out (U.drewN n) (HBA.out n) a m f l ha hml h1 h2)
          have HKM0 : Hid (kmeetJ t K O a xb u m = meetD (placeJ K O a) (placeJ K O m) (if 0 < xb then min (notJ t K O a m) 1 else notJ t K O a m) ((u - readyJ t K O m) / K.pc) t.r) := rfl
          have HIN : Hid (kmeetJ t K O a xb u m = true → keepsD L t K O = false) := fun h => HNO.out (allN_false hml (by show (!kmeetJ t K O a xb u m) = false; rw [h]; rfl))
          have HIY : Hid (kmeetJ t K O a xb u m = false → allN (fun m => !kmeetJ t K O a xb u m) (m + 1) = true) := fun h => allN_step HA2.out (by show (!kmeetJ t K O a xb u m) = true; rw [h]; rfl)
          generalize readyJ t K O m = rm at *
          generalize notJ t K O a m = nt at *
          generalize K.pc = pp at *
          obtain ⟨fl, hfl⟩ : ∃ fl, (u - rm) / pp = fl := ⟨_, rfl⟩
          rw [hfl] at HFL HKM0
          clear hfl g1 g2 g3 g4 HNOT HMEE HNR HRG HUC HA2 HNX HNO
          go_wp2_with fail
          refine HN1.out.mono ?_
          rintro e w1 ⟨rfl, n1, rfl⟩
          rw [World.drewN_drewN]
          generalize n + n1 = n3
          clear HN1
          by_cases hb : 0 < xb
          · rw [if_pos hb] at HKM0
            by_cases hv : nt ≤ 1
            · have hv2 : ¬ 1 < nt := by omega
              have HKM : Hid (kmeetJ t K O a xb u m = meetD (placeJ K O a) (placeJ K O m) nt fl t.r) := by show _ = _; rw [HKM0.out, show min nt 1 = nt by omega]
              have HME := hide (fun n => HME0.out n fl nt (by omega) (by omega))
              clear HKM0 HME0 v1 v2
              go_wp2_with fail
              go_big_quiet ((go_at_call 70; exact quiet_same2 (HFL.out _)))
              go_wp2_with fail
              try rw [World.drewN_drewN]
              refine (HME.out _).mono ?_
              rintro e w2 ⟨rfl, n2, rfl⟩
              rw [World.drewN_drewN]
              cases hkm : kmeetJ t K O a xb u m with
              | true =>
                have HF := hide (HIN.out hkm)
                rw [HKM.out] at hkm
                rw [hkm]
                clear hkm
                go_wp2_with fail
                go_ret
                exact ⟨ret_bool HF.out.symm, HBA.out _⟩
              | false =>
                have HT := hide (HIY.out hkm)
                rw [HKM.out] at hkm
                rw [hkm]
                clear hkm
                go_wp2_with fail
                go_roundw
                case rel => exact ⟨m + 1, _, by omega, by go_num, HT.out, rfl⟩
                case measure => simp [intOf]; omega
            · have hv2 : 1 < nt := by omega
              have HKM : Hid (kmeetJ t K O a xb u m = meetD (placeJ K O a) (placeJ K O m) 1 fl t.r) := by show _ = _; rw [HKM0.out, show min nt 1 = 1 by omega]
              have HME := hide (fun n => HME0.out n fl 1 (by omega) (by omega))
              clear HKM0 HME0 v1 v2
              go_wp2_with fail
              go_big_quiet ((go_at_call 70; exact quiet_same2 (HFL.out _)))
              go_wp2_with fail
              try rw [World.drewN_drewN]
              refine (HME.out _).mono ?_
              rintro e w2 ⟨rfl, n2, rfl⟩
              rw [World.drewN_drewN]
              cases hkm : kmeetJ t K O a xb u m with
              | true =>
                have HF := hide (HIN.out hkm)
                rw [HKM.out] at hkm
                rw [hkm]
                clear hkm
                go_wp2_with fail
                go_ret
                exact ⟨ret_bool HF.out.symm, HBA.out _⟩
              | false =>
                have HT := hide (HIY.out hkm)
                rw [HKM.out] at hkm
                rw [hkm]
                clear hkm
                go_wp2_with fail
                go_roundw
                case rel => exact ⟨m + 1, _, by omega, by go_num, HT.out, rfl⟩
                case measure => simp [intOf]; omega
          · rw [if_neg hb] at HKM0
            have HKM := HKM0
            have HME := hide (fun n => HME0.out n fl nt (by omega) (by omega))
            clear HKM0 HME0 v1 v2
            go_wp2_with fail
            go_big_quiet ((go_at_call 70; exact quiet_same2 (HFL.out _)))
            go_wp2_with fail
            try rw [World.drewN_drewN]
            refine (HME.out _).mono ?_
            rintro e w2 ⟨rfl, n2, rfl⟩
            rw [World.drewN_drewN]
            cases hkm : kmeetJ t K O a xb u m with
            | true =>
              have HF := hide (HIN.out hkm)
              rw [HKM.out] at hkm
              rw [hkm]
              clear hkm
              go_wp2_with fail
              go_ret
              exact ⟨ret_bool HF.out.symm, HBA.out _⟩
            | false =>
              have HT := hide (HIY.out hkm)
              rw [HKM.out] at hkm
              rw [hkm]
              clear hkm
              go_wp2_with fail
              go_roundw
              case rel => exact ⟨m + 1, _, by omega, by go_num, HT.out, rfl⟩
              case measure => simp [intOf]; omega
        · have e : m = L.body.length := by omega
          subst e
          have hmi : ¬ (L.body.length : Int) < (L.body.length : Int) := by omega
          have HN := hide (HNX.out HA2.out)
          go_wp2_with fail
          go_roundw
          case rel => exact ⟨k + 1, by omega, by go_num, HN.out, HBA.out _⟩
          case measure => simp [intOf]; omega
    · have e : k = rs.length := by omega
      subst e
      have hki : ¬ (rs.length : Int) < (rs.length : Int) := by omega
      have HN : Hid (keepsD L t K O = true) := by show _ = _; rw [HD.out, HA.out]
      clear hbel
      go_wp2_with fail
      go_ret
      exact ⟨ret_bool HN.out.symm, HB.out⟩
end Go.Proofs.YtbpaffkkphacdabGreat
/- Package check's ends and beforeMay; nothing that was there is changed. -/
namespace Go.Proofs.YtbpaffkkphacdabGreat
open Go.RowKit Go.Joins
set_option linter.unusedVariables false
set_option linter.unusedSimpArgs false
set_option maxRecDepth 8192

set_option maxHeartbeats 8000000 in
theorem cends_any (c : Lc) (L : Lp) (t : Tg) (K : Kn) (O : List Int) (w : World) (h : LayR c L t K O w) (hl : layD L t K O = true) :
    Calls Tryz.prog 45 #[.pointer (some ⟨c.y, 0, none⟩)] w fun e w' => e = .returned (.bool (endsD L t K O)) ∧ Below w.heap.size w w' := by
  have HD : Hid (endsD L t K O = allN (fun i => allN (fun m => !omeetJ t K O (nth L.outs i).toNat m) L.body.length) L.outs.length) := rfl
  obtain ⟨hmay, -⟩ := lay_parts hl
  have HNOT := hide (fun (n : Nat) (a m : Nat) (ha : a < L.body.length) (hm : m < L.body.length) => cnot_any c L t K O a m (w.drewN n) (h.drawn n) hl ha hm)
  have HMEE := hide (fun (n : Nat) (a m : Nat) (f l : Int) (ha : a < L.body.length) (hm : m < L.body.length) (h1 : -5000 ≤ f) (h2 : f ≤ 5000) => cmeets_any c L t K O a m f l (w.drewN n) (h.drawn n) hl ha hm h1 h2)
  have HNR := hide (fun (a m : Nat) (ha : a < L.body.length) (hm : m < L.body.length) => not_range hl ha hm)
  have HOR := hide (fun (i : Nat) (hi : i < L.outs.length) => outs_range hmay hi)
  obtain ⟨-, l1, l2, -⟩ := h.cells
  have hy := h.lt
  obtain ⟨v0, v1, v2, hlv, -, ⟨b1, bc1, rfl, hbl, hbm, -⟩, ⟨o1, oc1, rfl, hol, hom, -, hoc⟩⟩ := h.lv
  unfold maxLen at hbm hom
  injection hlv with hlv
  obtain ⟨hv0, hv1, hv2⟩ : c.l0 = v0 ∧ c.l1 = .slice b1 L.body.length bc1 ∧ c.l2 = .slice o1 L.outs.length oc1 := by
    have := congrArg Array.toList hlv
    simpa using this
  rw [hv1] at l1
  rw [hv2] at l2
  have HOC := hide hoc
  clear h hl hlv hv0 hv1 hv2 hoc hmay
  go_enter Tryz.func45, Tryz.ntmps45
  go_wp2_with fail
  go_loopw [12] (fun i wr => ∃ k n : Nat, k ≤ L.outs.length ∧ i = .int .i64 k ∧ allN (fun i => allN (fun m => !omeetJ t K O (nth L.outs i).toNat m) L.body.length) k = true ∧ wr = w.drewN n) (fun i _ => L.outs.length - (intOf i).toNat)
  case atStart => exact ⟨0, 0, Nat.zero_le _, rfl, rfl, rfl⟩
  case round =>
    obtain ⟨k, n, hk, rfl, hall, rfl⟩ := hrel
    have HA := hide hall
    clear hall
    by_cases hkl : k < L.outs.length
    · have hki : (k : Int) < (L.outs.length : Int) := by omega
      obtain ⟨ob, oof, rfl, hob, hcell⟩ := HOC.out (by omega)
      have co := hcell k hkl
      obtain ⟨r1, r2⟩ := HOR.out k hkl
      have HNX : Hid (allN (fun m => !omeetJ t K O (nth L.outs k).toNat m) L.body.length = true → allN (fun i => allN (fun m => !omeetJ t K O (nth L.outs i).toNat m) L.body.length) (k + 1) = true) := fun h => allN_step HA.out h
      have HNO : Hid (allN (fun m => !omeetJ t K O (nth L.outs k).toNat m) L.body.length = false → endsD L t K O = false) := fun h => by rw [HD.out]; exact allN_false hkl h
      obtain ⟨a, ha0⟩ : ∃ a : Nat, nth L.outs k = a := ⟨(nth L.outs k).toNat, by omega⟩
      rw [ha0] at co r1 r2 HNX HNO
      rw [show ((a : Int)).toNat = a from rfl] at HNX HNO
      have ha : a < L.body.length := by omega
      clear hcell HOC HD HA HOR ha0 r1 r2
      go_wp2_with fail
      go_loopw [22] (fun i wr2 => ∃ m n : Nat, m ≤ L.body.length ∧ i = .int .i64 m ∧ allN (fun m => !omeetJ t K O a m) m = true ∧ wr2 = w.drewN n) (fun i _ => L.body.length - (intOf i).toNat)
      case atStart => exact ⟨0, _, Nat.zero_le _, rfl, rfl, rfl⟩
      case round =>
        obtain ⟨m, n, hm, rfl, hall, rfl⟩ := hrel
        have HA2 := hide hall
        clear hall
        by_cases hml : m < L.body.length
        · have hmi : (m : Int) < (L.body.length : Int) := by omega
          have HN1 := hide (HNOT.out n a m ha hml)
          obtain ⟨v1, v2⟩ := HNR.out a m ha hml
          have HME := hide (fun n => HMEE.out n a m (notJ t K O a m) 0 ha hml (by omega) (by omega))
          have HKM : Hid (omeetJ t K O a m = meetD (placeJ K O a) (placeJ K O m) (notJ t K O a m) 0 t.r) := rfl
          have HIN : Hid (omeetJ t K O a m = true → endsD L t K O = false) := fun h => HNO.out (allN_false hml (by show (!omeetJ t K O a m) = false; rw [h]; rfl))
          have HIY : Hid (omeetJ t K O a m = false → allN (fun m => !omeetJ t K O a m) (m + 1) = true) := fun h => allN_step HA2.out (by show (!omeetJ t K O a m) = true; rw [h]; rfl)
          generalize notJ t K O a m = nt at *
          clear HNOT HMEE HNR HA2 HNX HNO v1 v2
          go_wp2_with fail
          refine HN1.out.mono ?_
          rintro e w1 ⟨rfl, n1, rfl⟩
          rw [World.drewN_drewN]
          generalize n + n1 = n3
          clear HN1
          go_wp2_with fail
          refine (HME.out _).mono ?_
          rintro e w2 ⟨rfl, n2, rfl⟩
          rw [World.drewN_drewN]
          cases hkm : omeetJ t K O a m with
          | true =>
            have HF := hide (HIN.out hkm)
            rw [HKM.out] at hkm
            rw [hkm]
            clear hkm
            go_wp2_with fail
            go_ret
            exact ⟨ret_bool HF.out.symm, below_draws _ _ _⟩
          | false =>
            have HT := hide (HIY.out hkm)
            rw [HKM.out] at hkm
            rw [hkm]
            clear hkm
            go_wp2_with fail
            go_roundw
            case rel => exact ⟨m + 1, _, by omega, by go_num, HT.out, rfl⟩
            case measure => simp [intOf]; omega
        · have e : m = L.body.length := by omega
          subst e
          have hmi : ¬ (L.body.length : Int) < (L.body.length : Int) := by omega
          have HN := hide (HNX.out HA2.out)
          go_wp2_with fail
          go_roundw
          case rel => exact ⟨k + 1, _, by omega, by go_num, HN.out, rfl⟩
          case measure => simp [intOf]; omega
    · have e : k = L.outs.length := by omega
      subst e
      have hki : ¬ (L.outs.length : Int) < (L.outs.length : Int) := by omega
      have HN : Hid (endsD L t K O = true) := by show _ = _; rw [HD.out, HA.out]
      go_wp2_with fail
      go_ret
      exact ⟨ret_bool HN.out.symm, below_draws _ _ _⟩
end Go.Proofs.YtbpaffkkphacdabGreat
/- Package check's waits: each edge is kept; nothing that was there is changed. -/
namespace Go.Proofs.YtbpaffkkphacdabGreat
open Go.RowKit Go.Joins
set_option linter.unusedVariables false
set_option linter.unusedSimpArgs false
set_option maxRecDepth 8192

theorem cedges_yes (hE : EdgesC) (v : Value) (t : Tg) (L : Lp) (w : World) (hL : LoopV w v L) (hm : (mayB L && mayT t) = true) :
    Calls Tryz.prog 74 #[v, .agg t.cells] w fun e w' => ∃ a n c, e = .returned (.tuple #[.slice a n c, .int .i64 0]) ∧ EdgesV w' (.slice a n c) (edgesD L t) ∧ Below w.heap.size w w' :=
  (hE v t L w hL).mono fun e w' ⟨a, n, c, h1, h2, h3, h4⟩ => by
    rw [hm] at h1
    exact ⟨a, n, c, h1, h3 hm, h2⟩
set_option maxHeartbeats 8000000 in
theorem cwaits_seven (hE : EdgesC) (c : Lc) (L : Lp) (p0 p1 p2 q0 q1 q2 r : Int) (K : Kn) (O : List Int) (w : World) (h : LayR c L ⟨p0, p1, p2, q0, q1, q2, r⟩ K O w) (hl : layD L ⟨p0, p1, p2, q0, q1, q2, r⟩ K O = true) :
    Calls Tryz.prog 42 #[.pointer (some ⟨c.y, 0, none⟩), .agg #[.int .i64 p0, .int .i64 p1, .int .i64 p2, .int .i64 q0, .int .i64 q1, .int .i64 q2, .int .i64 r]] w fun e w' => e = .returned (.bool (waitsD L ⟨p0, p1, p2, q0, q1, q2, r⟩ K O)) ∧ Below w.heap.size w w' := by
  have HD : Hid (waitsD L ⟨p0, p1, p2, q0, q1, q2, r⟩ K O = allN (fun i => edgeJ K O (edAt (edgesD L ⟨p0, p1, p2, q0, q1, q2, r⟩) i)) (edgesD L ⟨p0, p1, p2, q0, q1, q2, r⟩).length) := rfl
  obtain ⟨hmay, hmt, -⟩ := lay_parts hl
  obtain ⟨⟨hp1, hp2, hr1⟩, hrg⟩ := lay_range hl
  have HM := hide (fun W (hb : Below w.heap.size w W) => cedges_yes hE (.agg #[c.l0, c.l1, c.l2]) ⟨p0, p1, p2, q0, q1, q2, r⟩ L W (h.lv.below hb) (by rw [hmay, hmt]; rfl))
  have HEO := hide (fun e he => edges_ok (t := ⟨p0, p1, p2, q0, q1, q2, r⟩) hmay e he)
  have HTC := hide (fun (s : Nat) (hs : s < L.body.length) => h.tm.cell hs)
  have HTR := hide (fun (s : Nat) (hs : s < L.body.length) => And.intro (hrg s hs).1 (hrg s hs).2.1)
  obtain ⟨l0, l1, l2, l3, -, l5, -⟩ := h.cells
  have htb := h.tm.lt
  have hy := h.lt
  obtain ⟨ct1, ct2⟩ := h.ct
  unfold maxLen at ct2
  have HBA := hide (below_alloc1 w (.cells #[.int .i64 p0, .int .i64 p1, .int .i64 p2, .int .i64 q0, .int .i64 q1, .int .i64 q2, .int .i64 r] 28))
  clear h hl hrg hmay hmt
  obtain ⟨y, tb, rb, pb, tc, rc, pcc, dc, da, l0, l1, l2, sv⟩ := c
  simp only at *
  rename_i k0 k1 k2
  have hw0 : w.heap.size < (w.alloc (.cells #[.int .i64 p0, .int .i64 p1, .int .i64 p2, .int .i64 q0, .int .i64 q1, .int .i64 q2, .int .i64 r] 28)).heap.size := by simp
  go_enter Tryz.func42, Tryz.ntmps42
  go_wp2_with fail
  refine wp_region_noPanic ?_
  refine region_until 99 (fun w' => w'.cell? ⟨y, 0, none⟩ = some k0 ∧ w'.cell? ⟨y, 1, none⟩ = some k1 ∧ w'.cell? ⟨y, 2, none⟩ = some k2 ∧ w'.cell? ⟨w.heap.size, 0, none⟩ = some (.int .i64 p0) ∧ w'.cell? ⟨w.heap.size, 1, none⟩ = some (.int .i64 p1) ∧ w'.cell? ⟨w.heap.size, 2, none⟩ = some (.int .i64 p2) ∧ w'.cell? ⟨w.heap.size, 3, none⟩ = some (.int .i64 q0) ∧ w'.cell? ⟨w.heap.size, 4, none⟩ = some (.int .i64 q1) ∧ w'.cell? ⟨w.heap.size, 5, none⟩ = some (.int .i64 q2) ∧ w'.cell? ⟨w.heap.size, 6, none⟩ = some (.int .i64 r)) (by kernel_rfl) ⟨by go_simp, by go_simp, by go_simp, by go_simp, by go_simp, by go_simp, by go_simp, by go_simp, by go_simp, by go_simp⟩ (fun hHeld => ?_)
  refine utk (i := 0) rfl hHeld ?_
  try simp only [Act.put, List.setIfInBounds_toArray, List.set_cons_zero, List.set_cons_succ]
  refine utk (i := 1) rfl hHeld ?_
  try simp only [Act.put, List.setIfInBounds_toArray, List.set_cons_zero, List.set_cons_succ]
  refine utk (i := 2) rfl hHeld ?_
  try simp only [Act.put, List.setIfInBounds_toArray, List.set_cons_zero, List.set_cons_succ]
  refine utk (i := 3) rfl hHeld ?_
  try simp only [Act.put, List.setIfInBounds_toArray, List.set_cons_zero, List.set_cons_succ]
  refine utk (i := 4) rfl hHeld ?_
  try simp only [Act.put, List.setIfInBounds_toArray, List.set_cons_zero, List.set_cons_succ]
  refine until_one (i := 5) rfl (by kernel_rfl) (fun K hK => ?_)
  go_simp
  refine (HM.out _ (HBA.out.trans (below_draws _ _ 1))).mono ?_
  rintro e x1 ⟨ea, en, ec, rfl, hev, hbx⟩
  have HB1 : Hid (Below (w.alloc (.cells #[.int .i64 p0, .int .i64 p1, .int .i64 p2, .int .i64 q0, .int .i64 q1, .int .i64 q2, .int .i64 r] 28)).heap.size (w.alloc (.cells #[.int .i64 p0, .int .i64 p1, .int .i64 p2, .int .i64 q0, .int .i64 q1, .int .i64 q2, .int .i64 r] 28)) x1) := (below_draws _ _ 1).trans hbx
  have hSx : x1.cell? ⟨y, 0, none⟩ = some k0 ∧ x1.cell? ⟨y, 1, none⟩ = some k1 ∧ x1.cell? ⟨y, 2, none⟩ = some k2 ∧ x1.cell? ⟨w.heap.size, 0, none⟩ = some (.int .i64 p0) ∧ x1.cell? ⟨w.heap.size, 1, none⟩ = some (.int .i64 p1) ∧ x1.cell? ⟨w.heap.size, 2, none⟩ = some (.int .i64 p2) ∧ x1.cell? ⟨w.heap.size, 3, none⟩ = some (.int .i64 q0) ∧ x1.cell? ⟨w.heap.size, 4, none⟩ = some (.int .i64 q1) ∧ x1.cell? ⟨w.heap.size, 5, none⟩ = some (.int .i64 q2) ∧ x1.cell? ⟨w.heap.size, 6, none⟩ = some (.int .i64 r) := ⟨(bcell HB1.out _ _ (by omega)).trans (by go_simp), (bcell HB1.out _ _ (by omega)).trans (by go_simp), (bcell HB1.out _ _ (by omega)).trans (by go_simp), (bcell HB1.out _ _ (by omega)).trans (by go_simp), (bcell HB1.out _ _ (by omega)).trans (by go_simp), (bcell HB1.out _ _ (by omega)).trans (by go_simp), (bcell HB1.out _ _ (by omega)).trans (by go_simp), (bcell HB1.out _ _ (by omega)).trans (by go_simp), (bcell HB1.out _ _ (by omega)).trans (by go_simp), (bcell HB1.out _ _ (by omega)).trans (by go_simp)⟩
  refine hK.out _ _ (.inr hSx) ?_
  clear hK K
  try simp only [Act.put, List.setIfInBounds_toArray, List.set_cons_zero, List.set_cons_succ]
  refine utk (i := 6) rfl hSx ?_
  try simp only [Act.put, List.setIfInBounds_toArray, List.set_cons_zero, List.set_cons_succ]
  refine utk (i := 7) rfl hSx ?_
  try simp only [Act.put, List.setIfInBounds_toArray, List.set_cons_zero, List.set_cons_succ]
  refine utk (i := 8) rfl hSx ?_
  try simp only [Act.put, List.setIfInBounds_toArray, List.set_cons_zero, List.set_cons_succ]
  refine utk (i := 9) rfl hSx ?_
  try simp only [Act.put, List.setIfInBounds_toArray, List.set_cons_zero, List.set_cons_succ]
  refine utk (i := 10) rfl hSx ?_
  try simp only [Act.put, List.setIfInBounds_toArray, List.set_cons_zero, List.set_cons_succ]
  refine until_done (by kernel_rfl) ?_ _
  refine NoPanic.normal ?_
  obtain ⟨ea', ec', hee, he1, he2, he3⟩ := hev
  injection hee with e1 e2 e3
  subst e1; subst e2; subst e3
  unfold maxLen at he2
  have HE3 := hide he3
  have HWX := hide (HBA.out.trans (HB1.out.mono HBA.out.size))
  have hxz : w.heap.size ≤ x1.heap.size := HWX.out.size
  clear l0 l1 l2 hbx hSx hHeld HM hE HB1
  obtain ⟨es, hes⟩ : ∃ es, edgesD L ⟨p0, p1, p2, q0, q1, q2, r⟩ = es := ⟨_, rfl⟩
  rw [hes] at HD he1 HE3 HEO ⊢
  clear hes
  go_wp2_with fail
  go_loopw [20] (fun i wr => ∃ k : Nat, k ≤ es.length ∧ i = .int .i64 k ∧ allN (fun i => edgeJ K O (edAt es i)) k = true ∧ Below x1.heap.size x1 wr) (fun i _ => es.length - (intOf i).toNat)
  case atStart => exact ⟨0, Nat.zero_le _, rfl, rfl, Below.refl _ _⟩
  case round =>
    obtain ⟨k, hk, rfl, hall, hbel⟩ := hrel
    have HA := hide hall
    have HB := hide hbel
    have HWR := hide (HWX.out.trans (hbel.mono hxz))
    clear hall
    by_cases hkl : k < es.length
    · have hki : (k : Int) < (es.length : Int) := by omega
      obtain ⟨eb, eof, rfl, heb, hcell⟩ := HE3.out (by omega)
      obtain ⟨c0, c1, c2, c3⟩ := fourE (fun j hj => (bcell hbel eb (eof + k * 4 + j) heb).trans (hcell k hkl j hj))
      have hez : eb < wr.heap.size := by have := hbel.size; omega
      have hyz : y < wr.heap.size := by have := hbel.size; omega
      have htz : tb < wr.heap.size := by have := hbel.size; omega
      have hmem : edAt es k ∈ es := by unfold edAt; rw [List.getD, List.getElem?_eq_getElem hkl]; exact List.getElem_mem _
      obtain ⟨fr, to, bk, wt, hx, x1', x2, -, x4, x5⟩ := HEO.out _ hmem
      rw [hx] at c0 c1 c2 c3
      simp only at c0 c1 c2 c3
      obtain ⟨f1, f2⟩ := HTR.out fr x1'
      obtain ⟨g1, g2⟩ := HTR.out to x2
      have tf := (bcell HWR.out tb fr htb).trans (HTC.out fr x1')
      have tt := (bcell HWR.out tb to htb).trans (HTC.out to x2)
      have l3 := (bcell HWR.out y 3 hy).trans l3
      have l5 := (bcell HWR.out y 5 hy).trans l5
      have hfi : (fr : Int) < (L.body.length : Int) := by omega
      have hti : (to : Int) < (L.body.length : Int) := by omega
      have HED : Hid (edgeJ K O (edAt es k) = decide (timeJ K O fr + (wt : Int) ≤ timeJ K O to + (bk : Int) * K.pc)) := by show _ = _; rw [hx]; rfl
      have hb1 : (bk : Int) * K.pc ≤ 32 * 200 := Int.mul_le_mul (by omega) hp2 (by omega) (by omega)
      have hb0 : 0 ≤ (bk : Int) * K.pc := Int.mul_nonneg (by omega) (by omega)
      have HBX := hide (fun n => (HB.out.trans ((below_alloc1 wr (.cells #[.int .i64 (fr : Int), .int .i64 (to : Int), .int .i64 (bk : Int), .int .i64 (wt : Int)] 135)).mono HB.out.size)).trans (below_draws _ _ n))
      generalize timeJ K O fr = tmf at *
      generalize timeJ K O to = tmt at *
      generalize K.pc = pp at *
      obtain ⟨bp, hbp⟩ : ∃ bp, (bk : Int) * pp = bp := ⟨_, rfl⟩
      rw [hbp] at hb1 hb0 HED
      have hw1 : wrap64 ((bk : Int) * pp) = bp := by rw [hbp]; unfold wrap64; omega
      have hw2 : wrap64 (tmt + bp) = tmt + bp := by unfold wrap64; omega
      have hw3 : wrap64 (tmf + (wt : Int)) = tmf + (wt : Int) := by unfold wrap64; omega
      have HNX : Hid (edgeJ K O (edAt es k) = true → allN (fun i => edgeJ K O (edAt es i)) (k + 1) = true) := fun h => allN_step HA.out h
      have HNO : Hid (edgeJ K O (edAt es k) = false → waitsD L ⟨p0, p1, p2, q0, q1, q2, r⟩ K O = false) := fun h => by rw [HD.out]; exact allN_false hkl h
      clear hbel hcell hx hbp f1 f2 g1 g2 hb1 hb0 HTR HTC HEO HE3 HA HD hmem x4 x5
      by_cases he : tmt + bp < tmf + (wt : Int)
      · have HN := hide (HNO.out (by rw [HED.out]; exact decide_eq_false (by omega)))
        clear HNX HNO HED
        go_wp2_with fail
        go_big_quiet ((fail))
        go_wp2_with fail
        go_ret
        exact ⟨ret_bool HN.out.symm, HWX.out.trans ((HBX.out _).mono hxz)⟩
      · have HN := hide (HNX.out (by rw [HED.out]; exact decide_eq_true (by omega)))
        clear HNX HNO HED
        go_wp2_with fail
        go_big_quiet ((fail))
        go_wp2_with fail
        go_roundw
        case rel => exact ⟨k + 1, by omega, by go_num, HN.out, HBX.out _⟩
        case measure => simp [intOf]; omega
    · have e : k = es.length := by omega
      subst e
      have hki : ¬ (es.length : Int) < (es.length : Int) := by omega
      have HN : Hid (waitsD L ⟨p0, p1, p2, q0, q1, q2, r⟩ K O = true) := by show _ = _; rw [HD.out, HA.out]
      clear hbel
      go_wp2_with fail
      go_ret
      exact ⟨ret_bool HN.out.symm, HWR.out⟩
theorem cwaits_any (hE : EdgesC) (c : Lc) (L : Lp) (t : Tg) (K : Kn) (O : List Int) (w : World) (h : LayR c L t K O w) (hl : layD L t K O = true) :
    Calls Tryz.prog 42 #[.pointer (some ⟨c.y, 0, none⟩), .agg t.cells] w fun e w' => e = .returned (.bool (waitsD L t K O)) ∧ Below w.heap.size w w' :=
  cwaits_seven hE c L t.u0 t.u1 t.u2 t.w0 t.w1 t.w2 t.r K O w h hl
end Go.Proofs.YtbpaffkkphacdabGreat
