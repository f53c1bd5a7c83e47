/- CheckD: texts that are built as one: CheckView, CheckBegins, CheckTake. -/
import Derived.Test.YtbpaffkkphacdabCheckLay
import Derived.Test.YtbpaffkkphacdabCheckB
import Derived.Test.YtbpaffkkphacdabRef10B
/- A layout that is laid, as the others read it (LayR), out of its rows (LyM); what the store of its starts, and a map that is written, leave of it; no walk. -/
namespace Go.Proofs.Ytbpaffkkphacdab
open Go.RowKit Go.Joins
set_option linter.unusedVariables false

theorem flatRd_get (l : List Rd) : ∀ i j, i < l.length → j < 5 → (flatRd l)[i * 5 + j]? = (rdCells (rdAt l i))[j]? := by
  induction l with
  | nil => intro i j hi; exact absurd hi (Nat.not_lt_zero _)
  | cons x l ih =>
    intro i j hi hj
    show ((rdCells x).toList ++ flatRd l)[i * 5 + j]? = _
    have h5 : (rdCells x).toList.length = 5 := rfl
    cases i with
    | zero =>
      rw [List.getElem?_append_left (by omega), Nat.zero_mul, Nat.zero_add]
      simp [rdAt]
    | succ i =>
      rw [List.getElem?_append_right (by omega), h5, show (i + 1) * 5 + j - 5 = i * 5 + j by omega, ih i j (by simpa using hi) hj]
      rfl
theorem ReadsV.of_own {w : World} {base : Nat} {e : TypeId} {v : Value} {l : List Rd} (h : w.ownsRow base e 5 v l.length (flatRd l)) : ReadsV w v l := by
  obtain ⟨hl, h⟩ := h
  rcases h with ⟨rfl, hn⟩ | ⟨g, cap, cur, rfl, hg, hb, hn, hm, hc, ht⟩
  · exact ⟨none, 0, by rw [hn], by omega, Nat.zero_le _, fun hp => by omega⟩
  · refine ⟨some ⟨g, 0, none⟩, cap, rfl, hn, hm, fun _ => ⟨g, 0, rfl, (Array.getElem?_eq_some_iff.1 hb).1, fun i hi j hj => ?_⟩⟩
    rw [Nat.zero_add, cell_of_block hb, ← flatRd_get l i j hi hj, ← ht, List.getElem?_take, if_pos (by omega)]
    simp
theorem row_upTo {w : World} {base n : Nat} {e : TypeId} {a : Option Addr} {c : Nat} {f : Nat → Int} (h : w.ownsRow base e 1 (.slice a n c) n (cellsI (upTo f n))) (hn : 1 ≤ n) : ∃ g, a = some ⟨g, 0, none⟩ ∧ base ≤ g ∧ n ≤ c ∧ c ≤ maxLen ∧ RowF w g e n (fun i => .int .i64 (f i)) := by
  obtain ⟨g, cap, hv, hg, h1, h2, h3⟩ := own_parts h (.inr (by omega))
  injection hv with e1 e2 e3
  subst e3
  refine ⟨g, e1, hg, h1, h2, h3.congr fun i hi => ?_⟩
  unfold cellsI upTo
  rw [List.map_map, List.getD, List.getElem?_map, List.getElem?_range hi]
  rfl
theorem LayR.of {x3 w : World} {y : Nat} {l0 l1 l2 : Value} {L : Lp} {t : Tg} {K : Kn} {O : List Int} {ta ra pa da : Option Addr} {tc rc pq dc : Nat}
    (h : LyM x3 y l0 l1 l2 K.pc t.r (.slice ta L.body.length tc) (.slice ra L.body.length rc) (.slice pa L.body.length pq) (.slice da (readsD L K O).length dc) L.body.length L.body.length L.body.length (readsD L K O).length (upTo (timeJ K O) L.body.length) (upTo (readyJ t K O) L.body.length) (upTo (placeJ K O) L.body.length) (readsD L K O) w)
    (hn : 1 ≤ L.body.length) (hl : LoopV w (.agg #[l0, l1, l2]) L) : ∃ tb rb pb, LayR ⟨y, tb, rb, pb, tc, rc, pq, dc, da, l0, l1, l2, .map none⟩ L t K O w := by
  obtain ⟨tb, rfl, -, t1, t2, t3⟩ := row_upTo h.ot hn
  obtain ⟨rb, rfl, -, r1, r2, r3⟩ := row_upTo h.or hn
  obtain ⟨pb, rfl, -, p1, p2, p3⟩ := row_upTo h.op hn
  exact ⟨tb, rb, pb, h.blk, t3, r3, p3, ⟨t1, t2⟩, ⟨r1, r2⟩, ⟨p1, p2⟩, ReadsV.of_own h.od, hl⟩
/-- the store of a map where one stood leaves each number -/
theorem set_int {w : World} {y o : Nat} {m m' : Option Nat} {a : Addr} {z : Int} (hm : w.cell? ⟨y, o, none⟩ = some (.map m)) (ha : w.cell? a = some (.int .i64 z)) : (w.setCell ⟨y, o, none⟩ (.map m')).cell? a = some (.int .i64 z) := by
  by_cases e : a = ⟨y, o, none⟩
  · rw [e, hm] at ha; cases ha
  · rw [World.cell?_setCell_other (h := Ne.symm e)]; exact ha
theorem set_ints {w : World} {y o : Nat} {m m' : Option Nat} {v : Value} {l : List Int} (hm : w.cell? ⟨y, o, none⟩ = some (.map m)) (h : Ints w v l) : Ints (w.setCell ⟨y, o, none⟩ (.map m')) v l := by
  obtain ⟨a, cap, e, h1, h2, h3, h4⟩ := h
  refine ⟨a, cap, e, h1, h2, h3, fun hp => ?_⟩
  obtain ⟨b, off, e1, h5, h6⟩ := h4 hp
  exact ⟨b, off, e1, by simpa using h5, fun i hi => set_int hm (h6 i hi)⟩
theorem set_cells {w : World} {y o b p n : Nat} {m m' : Option Nat} {cs : Array Value} (hm : w.cell? ⟨y, o, none⟩ = some (.map m)) (hc : ∀ j, j < n → w.cell? ⟨b, p + j, none⟩ = cs[j]?) (hi : ∀ j, j < n → ∃ z, cs[j]? = some (.int .i64 z)) : ∀ j, j < n → (w.setCell ⟨y, o, none⟩ (.map m')).cell? ⟨b, p + j, none⟩ = cs[j]? := by
  intro j hj
  obtain ⟨z, hz⟩ := hi j hj
  rw [hz]
  exact set_int hm ((hc j hj).trans hz)
theorem st_int (s : St) : ∀ j, j < 9 → ∃ z, (stCells s)[j]? = some (.int .i64 z) := by
  intro j hj
  rcases (show j = 0 ∨ j = 1 ∨ j = 2 ∨ j = 3 ∨ j = 4 ∨ j = 5 ∨ j = 6 ∨ j = 7 ∨ j = 8 by omega) with e | e | e | e | e | e | e | e | e <;> subst e <;> exact ⟨_, rfl⟩
theorem rd_int (s : Rd) : ∀ j, j < 5 → ∃ z, (rdCells s)[j]? = some (.int .i64 z) := by
  intro j hj
  rcases (show j = 0 ∨ j = 1 ∨ j = 2 ∨ j = 3 ∨ j = 4 by omega) with e | e | e | e | e <;> subst e <;> exact ⟨_, rfl⟩
theorem blk_ne {w : World} {y g : Nat} {e e' : TypeId} {n : Nat} {f : Nat → Value} {cs : Array Value} (h : RowF w g e n f) (hy : w.heap[y]? = some (.cells cs e' (0, 0))) (he : e ≠ e') : g ≠ y := by
  intro hg
  subst hg
  obtain ⟨c, hb, _, _⟩ := h
  rw [hy] at hb
  have h1 := Option.some.inj hb
  injection h1 with _ h2
  exact he h2.symm
theorem LayR.setS {c : Lc} {L : Lp} {t : Tg} {K : Kn} {O : List Int} {w : World} {m : Option Nat} (h : LayR c L t K O w) (hs : c.sv = .map m) (m' : Option Nat) : LayR { c with sv := .map m' } L t K O (w.setCell ⟨c.y, 9, none⟩ (.map m')) := by
  have hm : w.cell? ⟨c.y, 9, none⟩ = some (.map m) := by obtain ⟨-, -, -, -, -, -, -, -, -, d⟩ := h.cells; rw [d, hs]
  refine ⟨?_, h.tm.setOther (blk_ne h.tm h.blk (by decide)) _, h.rd.setOther (blk_ne h.rd h.blk (by decide)) _, h.pl.setOther (blk_ne h.pl h.blk (by decide)) _, h.ct, h.cr, h.cp, ?_, ?_⟩
  · have hb := h.blk
    simp [World.setCell, Array.getElem?_modify, hb]
  · obtain ⟨a, cap, e, h1, h2, h3⟩ := h.rs
    refine ⟨a, cap, e, h1, h2, fun hp => ?_⟩
    obtain ⟨b, off, e1, h4, h5⟩ := h3 hp
    exact ⟨b, off, e1, by simpa using h4, fun i hi => set_cells hm (h5 i hi) (rd_int _)⟩
  · obtain ⟨v0, v1, v2, e, i0, ⟨a, cap, e1, h1, h2, h3⟩, i2⟩ := h.lv
    refine ⟨v0, v1, v2, e, set_ints hm i0, ⟨a, cap, e1, h1, h2, fun hp => ?_⟩, set_ints hm i2⟩
    obtain ⟨b, off, e2, h4, h5⟩ := h3 hp
    exact ⟨b, off, e2, by simpa using h4, fun i hi => set_cells hm (h5 i hi) (st_int _)⟩
/-- a map is written: what lies in cells stays -/
theorem map_cell {w w' : World} {M : Nat} {es : Array MapEntry} {cl : Nat} (hM : w.heap[M]? = some (.map es cl)) (hg : w.grownBy w' (some M)) {b o : Nat} {v : Value} (h : w.cell? ⟨b, o, none⟩ = some v) : w'.cell? ⟨b, o, none⟩ = some v := by
  by_cases e : b = M
  · subst e; simp [World.cell?, hM] at h
  · have hlt : b < w.heap.size := by
      rcases Nat.lt_or_ge b w.heap.size with h1 | h1
      · exact h1
      · simp [World.cell?, Array.getElem?_eq_none h1] at h
    rw [← h]
    exact World.cell?_of_block (hg.block b hlt (fun e2 => e (by injection e2)))
theorem map_ints {w w' : World} {M : Nat} {es : Array MapEntry} {cl : Nat} (hM : w.heap[M]? = some (.map es cl)) (hg : w.grownBy w' (some M)) {v : Value} {l : List Int} (h : Ints w v l) : Ints w' v l := by
  obtain ⟨a, cap, e, h1, h2, h3, h4⟩ := h
  refine ⟨a, cap, e, h1, h2, h3, fun hp => ?_⟩
  obtain ⟨b, off, e1, h5, h6⟩ := h4 hp
  exact ⟨b, off, e1, Nat.lt_of_lt_of_le h5 hg.size, fun i hi => map_cell hM hg (h6 i hi)⟩
theorem map_cells {w w' : World} {M b p n : Nat} {es : Array MapEntry} {cl : Nat} (hM : w.heap[M]? = some (.map es cl)) (hg : w.grownBy w' (some M)) {cs : Array Value} (hc : ∀ j, j < n → w.cell? ⟨b, p + j, none⟩ = cs[j]?) (hi : ∀ j, j < n → ∃ z, cs[j]? = some (.int .i64 z)) : ∀ j, j < n → w'.cell? ⟨b, p + j, none⟩ = cs[j]? := by
  intro j hj
  obtain ⟨z, hz⟩ := hi j hj
  rw [hz]
  exact map_cell hM hg ((hc j hj).trans hz)
theorem map_row {w w' : World} {M g n : Nat} {es : Array MapEntry} {cl : Nat} {e : TypeId} {f : Nat → Value} (hM : w.heap[M]? = some (.map es cl)) (hg : w.grownBy w' (some M)) (h : RowF w g e n f) : RowF w' g e n f := by
  refine h.grown hg fun e2 => ?_
  injection e2 with e2
  subst e2
  obtain ⟨c, hb, _⟩ := h
  rw [hM] at hb
  cases hb
theorem LayR.grown {c : Lc} {L : Lp} {t : Tg} {K : Kn} {O : List Int} {w w' : World} {M : Nat} {es : Array MapEntry} {cl : Nat} (h : LayR c L t K O w) (hM : w.heap[M]? = some (.map es cl)) (hg : w.grownBy w' (some M)) : LayR c L t K O w' := by
  have hy : c.y ≠ M := by intro e; have := h.blk; rw [e, hM] at this; cases this
  refine ⟨(hg.block _ h.lt (fun e => hy (by injection e))).trans h.blk, map_row hM hg h.tm, map_row hM hg h.rd, map_row hM hg h.pl, h.ct, h.cr, h.cp, ?_, ?_⟩
  · obtain ⟨a, cap, e, h1, h2, h3⟩ := h.rs
    refine ⟨a, cap, e, h1, h2, fun hp => ?_⟩
    obtain ⟨b, off, e1, h4, h5⟩ := h3 hp
    exact ⟨b, off, e1, Nat.lt_of_lt_of_le h4 hg.size, fun i hi => map_cells hM hg (h5 i hi) (rd_int _)⟩
  · obtain ⟨v0, v1, v2, e, i0, ⟨a, cap, e1, h1, h2, h3⟩, i2⟩ := h.lv
    refine ⟨v0, v1, v2, e, map_ints hM hg i0, ⟨a, cap, e1, h1, h2, fun hp => ?_⟩, map_ints hM hg i2⟩
    obtain ⟨b, off, e2, h4, h5⟩ := h3 hp
    exact ⟨b, off, e2, Nat.lt_of_lt_of_le h4 hg.size, fun i hi => map_cells hM hg (h5 i hi) (st_int _)⟩
end Go.Proofs.Ytbpaffkkphacdab
/- Package check's begins: where that is which is read of the turns ahead of the first one. -/
namespace Go.Proofs.Ytbpaffkkphacdab
open Go.RowKit Go.Joins
set_option linter.unusedVariables false
set_option linter.unusedSimpArgs false
set_option maxRecDepth 8192

/-- the lists of what stands ahead of the first turn -/
def firstL (L : Lp) (t : Tg) (K : Kn) (O : List Int) : List Int := firstsJ L t K O L.body.length
def whoL (L : Lp) : List Int := whoJ L L.body.length
def whichL (L : Lp) : List Int := whichJ L L.body.length
def posL (L : Lp) (s : Nat) : Nat := posN (farLen L) s
theorem first_at {L : Lp} {t : Tg} {K : Kn} {O : List Int} {s q : Nat} (hs : s < L.body.length) (hq : q < farLen L s) : nth (firstL L t K O) (posL L s + q) = (placeJ K O s - ((q : Int) + 1)) % t.r ∧ nth (whoL L) (posL L s + q) = s ∧ nth (whichL L) (posL L s + q) = (q : Int) + 1 :=
  ⟨flat_at (farLen L) (firstJ t K O) L.body.length s q hs hq, flat_at (farLen L) _ L.body.length s q hs hq, flat_at (farLen L) _ L.body.length s q hs hq⟩
theorem first_len (L : Lp) (t : Tg) (K : Kn) (O : List Int) : (firstL L t K O).length = posL L L.body.length := flat_len _ _ _
theorem pos_lt {L : Lp} {s q : Nat} (hs : s < L.body.length) (hq : q < farLen L s) : posL L s + q < posL L L.body.length := by
  have := pos_le (farLen L) L.body.length s hs
  unfold posL
  omega
theorem far_small {L : Lp} (hm : mayB L = true) (s : Nat) : farLen L s ≤ 3 := by
  have := far_top hm (s : Int) L.body.length (Nat.le_refl _)
  unfold farLen farD
  omega
theorem pos_small {L : Lp} (hm : mayB L = true) : ∀ s, posL L s ≤ 3 * s := by
  intro s
  induction s with
  | zero => exact Nat.le_refl _
  | succ s ih =>
    have := far_small hm s
    show posN (farLen L) s + farLen L s ≤ _
    unfold posL at ih
    omega

set_option maxHeartbeats 16000000 in
theorem cbegins_any (c : Lc) (L : Lp) (t : Tg) (K : Kn) (O : List Int) (m : Option Nat) (w : World) (h : LayR c L t K O w) (hsv : c.sv = .map m) (hl : layD L t K O = true) :
    Calls Try.prog 82 #[.pointer (some ⟨c.y, 0, none⟩)] w fun e w' => e = .returned (.bool (beginsD L t K O)) ∧ Below c.y w w' ∧ ∃ M, LayR { c with sv := .map (some M) } L t K O w' ∧ (beginsD L t K O = true → MapS (firstL L t K O) (whoL L) (whichL L) (posL L L.body.length) M w') := by
  have HD : Hid (beginsD L t K O = allN (freshJ (firstL L t K O)) (posL L L.body.length)) := by show allN (freshJ (firstL L t K O)) (firstL L t K O).length = _; rw [first_len]
  obtain ⟨hm, -⟩ := lay_parts hl
  obtain ⟨⟨hp1, hp2, hr1⟩, hrg⟩ := lay_range hl
  obtain ⟨-, hn1, hn16, -⟩ := may_parts hm
  have hr2 : t.r ≤ 128 := by
    obtain ⟨-, -, -, -, -, -, -, -, hr2, -⟩ := lay_ops hl (s := 0) (by omega)
    exact hr2
  have HRR := hide (fun (i : Nat) (hi : i < (readsD L K O).length) => reads_range hl (rdAt_mem hi))
  have HFR := hide (fun (a : Int) (k : Nat) (hk : k ≤ (readsD L K O).length) => farR_range hl a k hk)
  have HFE := hide (fun (s : Nat) => far_eq L K O (s : Int))
  have HPL := hide (fun (s : Nat) (hs : s < L.body.length) => And.intro (lay_ops hl hs).2.2.2.2.2.2.1 (lay_ops hl hs).2.2.2.2.2.2.2.1)
  have HSM := hide (fun s => far_small hm s)
  have HPS := hide (fun s => pos_small hm s)
  have HFG := hide (fun i (hi : i < posL L L.body.length) => firsts_range (t := t) hr1 L K O (k := L.body.length) hi)
  have HFA := hide (fun s q (hs : s < L.body.length) (hq : q < farLen L s) => first_at (t := t) (K := K) (O := O) hs hq)
  have HH := hide h
  have HC := hide h.cells
  have hy := h.lt
  obtain ⟨v0, v1, v2, hlv, -, ⟨b1, bc1, rfl, hbl, hbm, -⟩, -⟩ := h.lv
  unfold maxLen at hbm
  injection hlv with hlv
  obtain ⟨hv0, hv1, hv2⟩ : c.l0 = v0 ∧ c.l1 = .slice b1 L.body.length bc1 ∧ c.l2 = v2 := by
    have := congrArg Array.toList hlv
    simpa using this
  obtain ⟨da, dc, hde, hd1, hd2, hd3⟩ := h.rs
  injection hde with e1 e2 e3
  unfold maxLen at hd2
  have HD3 := hide hd3
  obtain ⟨-, l1, -, -, -, -, -, -, l8, -⟩ := h.cells
  rw [hv1] at l1
  rw [e1, e3] at l8
  have HSV := hide hsv
  clear h hl hrg hd3 hlv hv0 hv1 hv2 hsv e1 e2 e3 hm
  obtain ⟨rs, hrs⟩ : ∃ rs, readsD L K O = rs := ⟨_, rfl⟩
  rw [hrs] at l8 HRR HFR HFE HD3 hd1
  have HRS := hide hrs
  clear hrs
  have hmk := run_make_row' (P := Try.prog) 22 3 (.int .i64 0) 8 Try.underlying22 Try.iintC rfl .i64 .i64 L.body.length (by omega) (by omega)
  go_enter Try.func82, Try.ntmps82
  have HZR : Hid (RowF (w.alloc (.cells (madeCells #[.int .i64 0] L.body.length) 3)) w.heap.size 3 L.body.length (fun j => .int .i64 (farR rs (j : Int) 0))) := RowF.zeros w (.int .i64 0) L.body.length 3
  have hl8 : (w.alloc (.cells (madeCells #[.int .i64 0] L.body.length) 3)).cell? ⟨c.y, 8, none⟩ = some (.slice da rs.length dc) := (bcell (below_alloc1 w _) c.y 8 hy).trans l8
  go_wp2_with fail
  clear hmk hl8 l1
  go_loopw [24] (fun i wr => ∃ k : Nat, k ≤ rs.length ∧ i = .int .i64 k ∧ Below w.heap.size w wr ∧ RowF wr w.heap.size 3 L.body.length (fun j => .int .i64 (farR rs (j : Int) k))) (fun i _ => rs.length - (intOf i).toNat)
  case atStart => exact ⟨0, Nat.zero_le _, rfl, below_alloc1 _ _, HZR.out⟩
  case round =>
    clear HZR
    obtain ⟨k, hk, rfl, hbel, hrow⟩ := hrel
    have HB := hide hbel
    have HRW := hide hrow
    have hFz : w.heap.size < wr.heap.size := hrow.lt
    by_cases hkl : k < rs.length
    · have hki : (k : Int) < (rs.length : Int) := by omega
      obtain ⟨db, dof, rfl, hdb, hcell⟩ := HD3.out (by omega)
      obtain ⟨c0, c1, c2, c3, c4⟩ := five (fun j hj => (bcell hbel db (dof + k * 5 + j) hdb).trans (hcell k hkl j hj))
      have hdz : db < wr.heap.size := by omega
      obtain ⟨r1, r2, r3, r4, -, -, -, -⟩ := HRR.out k hkl
      have HFS : Hid (∀ a : Int, farR rs a (k + 1) = if (rdAt rs k).ra = a then (if farR rs a k < (rdAt rs k).rb then (rdAt rs k).rb else farR rs a k) else farR rs a k) := fun a => rfl
      obtain ⟨x, hx⟩ : ∃ x, rdAt rs k = x := ⟨_, rfl⟩
      rw [hx] at c0 c1 c2 c3 c4 r1 r2 r3 r4 HFS
      obtain ⟨xa, xb, xt, xs, xn⟩ := x
      simp only at c0 c1 c2 c3 c4 r1 r2 r3 r4 HFS
      obtain ⟨a, rfl⟩ : ∃ a : Nat, xa = a := ⟨xa.toNat, by omega⟩
      have ha : a < L.body.length := by omega
      have hai : (a : Int) < (L.body.length : Int) := by omega
      have cf := hrow.cell ha
      have hff := hrow.frozen a
      obtain ⟨fv, hfv⟩ : ∃ fv, farR rs (a : Int) k = fv := ⟨_, rfl⟩
      rw [hfv] at cf
      obtain ⟨W, hW⟩ : ∃ W, wr.alloc (.cells #[.int .i64 (a : Int), .int .i64 xb, .int .i64 xt, .int .i64 xs, .int .i64 xn] 174) = W := ⟨_, rfl⟩
      have hWb : Below wr.heap.size wr W := by rw [← hW]; exact below_alloc1 _ _
      have hWr : W.heap[wr.heap.size]? = some (.cells #[.int .i64 (a : Int), .int .i64 xb, .int .i64 xt, .int .i64 xs, .int .i64 xn] 174 (0, 0)) := by rw [← hW]; exact new_blkC _ _ _
      have HS5 : Hid (W.drew.cell? ⟨wr.heap.size, 0, none⟩ = some (.int .i64 (a : Int)) ∧ W.drew.cell? ⟨wr.heap.size, 1, none⟩ = some (.int .i64 xb) ∧ W.drew.cell? ⟨w.heap.size, a, none⟩ = some (.int .i64 fv)) := ⟨by show W.cell? _ = _; rw [cell_of_block hWr]; rfl, by show W.cell? _ = _; rw [cell_of_block hWr]; rfl, (bcell hWb w.heap.size a hFz).trans cf⟩
      have HRS2 : Hid (∀ nv, nv = (if fv < xb then xb else fv) → ∀ W' : World, W'.heap[w.heap.size]? = (W.setCell ⟨w.heap.size, a, none⟩ (.int .i64 nv)).heap[w.heap.size]? → RowF W' w.heap.size 3 L.body.length (fun j => .int .i64 (farR rs (j : Int) (k + 1)))) := fun nv hnv W' hW' => by
        refine (((HRW.out.below hWb hFz).set a (.int .i64 nv) ha).congr fun j hj => ?_).of_block hW'
        rw [HFS.out]
        by_cases e : j = a
        · subst e
          rw [if_pos rfl, if_pos rfl, hfv, hnv]
        · rw [if_neg e, if_neg (by omega)]
      have HWW := hide hWb
      have hWz : wr.heap.size < W.heap.size := (Array.getElem?_eq_some_iff.1 hWr).1
      have HWE := hide hW
      have hfW : W.frozen? ⟨w.heap.size, a, none⟩ = false := by rw [← hW]; exact (hrow.alloc _).frozen a
      have cfW : W.cell? ⟨w.heap.size, a, none⟩ = some (.int .i64 fv) := (bcell hWb w.heap.size a hFz).trans cf
      clear hW hWb hWr hcell hx hfv HFS hrow cf hff hbel
      have HBW := hide (fun v => ((HB.out.trans (HWW.out.mono HB.out.size)).setCell (p := ⟨w.heap.size, a, none⟩) (Nat.le_refl _) v).trans (below_draws _ _ 1))
      by_cases hmx : fv < xb
      · have hnv : xb = (if fv < xb then xb else fv) := by rw [if_pos hmx]
        have HN := hide (HRS2.out xb hnv)
        have HBV := hide (HBW.out (.int .i64 xb))
        clear hnv HRS2 HBW
        go_wp2_with fail
        rw [HWE.out]
        clear c0 c1 c2 c3 c4
        refine wp_region_noPanic ?_
        refine region_until 15 (fun w' => w'.cell? ⟨wr.heap.size, 0, none⟩ = some (.int .i64 (a : Int)) ∧ w'.cell? ⟨wr.heap.size, 1, none⟩ = some (.int .i64 xb) ∧ w'.cell? ⟨w.heap.size, a, none⟩ = some (.int .i64 fv)) (by kernel_rfl) HS5.out (fun hHeld => ?_)
        refine utk (i := 0) rfl hHeld ?_
        try simp only [Act.put, List.setIfInBounds_toArray, List.set_cons_zero, List.set_cons_succ]
        refine utk (i := 1) rfl hHeld ?_
        try simp only [Act.put, List.setIfInBounds_toArray, List.set_cons_zero, List.set_cons_succ]
        refine utk (i := 2) rfl hHeld ?_
        try simp only [Act.put, List.setIfInBounds_toArray, List.set_cons_zero, List.set_cons_succ]
        refine utk (i := 3) rfl hHeld ?_
        try simp only [Act.put, List.setIfInBounds_toArray, List.set_cons_zero, List.set_cons_succ]
        refine utk (i := 4) rfl hHeld ?_
        try simp only [Act.put, List.setIfInBounds_toArray, List.set_cons_zero, List.set_cons_succ]
        refine utk (i := 5) rfl hHeld ?_
        try simp only [Act.put, List.setIfInBounds_toArray, List.set_cons_zero, List.set_cons_succ]
        refine utk (i := 6) rfl hHeld ?_
        try simp only [Act.put, List.setIfInBounds_toArray, List.set_cons_zero, List.set_cons_succ]
        refine utk (i := 7) rfl hHeld ?_
        try simp only [Act.put, List.setIfInBounds_toArray, List.set_cons_zero, List.set_cons_succ]
        refine utk (i := 8) rfl hHeld ?_
        try simp only [Act.put, List.setIfInBounds_toArray, List.set_cons_zero, List.set_cons_succ]
        refine utk (i := 9) rfl hHeld ?_
        try simp only [Act.put, List.setIfInBounds_toArray, List.set_cons_zero, List.set_cons_succ]
        refine utk (i := 10) rfl hHeld ?_
        try simp only [Act.put, List.setIfInBounds_toArray, List.set_cons_zero, List.set_cons_succ]
        refine utk (i := 11) rfl hHeld ?_
        try simp only [Act.put, List.setIfInBounds_toArray, List.set_cons_zero, List.set_cons_succ]
        refine utk (i := 12) rfl hHeld ?_
        try simp only [Act.put, List.setIfInBounds_toArray, List.set_cons_zero, List.set_cons_succ]
        refine utk (i := 13) rfl hHeld ?_
        try simp only [Act.put, List.setIfInBounds_toArray, List.set_cons_zero, List.set_cons_succ]
        refine utk (i := 14) rfl hHeld ?_
        try simp only [Act.put, List.setIfInBounds_toArray, List.set_cons_zero, List.set_cons_succ]
        refine until_one (i := 15) rfl (by kernel_rfl) (fun K hK => ?_)
        go_simp
        refine hK.out _ _ (.inl rfl) ?_
        clear hK K
        try simp only [Act.put, List.setIfInBounds_toArray, List.set_cons_zero, List.set_cons_succ]
        refine until_done (by kernel_rfl) ?_ _
        refine NoPanic.normal ?_
        go_wp2_with fail
        go_roundw
        case rel => exact ⟨k + 1, by omega, by go_num, HBV.out, HN.out _ rfl⟩
        case measure => simp [intOf]; omega
      · have hnv : fv = (if fv < xb then xb else fv) := by rw [if_neg hmx]
        have HN := hide (HRS2.out fv hnv)
        have HBV := hide (HBW.out (.int .i64 fv))
        clear hnv HRS2 HBW
        go_wp2_with fail
        rw [HWE.out]
        clear c0 c1 c2 c3 c4
        refine wp_region_noPanic ?_
        refine region_until 15 (fun w' => w'.cell? ⟨wr.heap.size, 0, none⟩ = some (.int .i64 (a : Int)) ∧ w'.cell? ⟨wr.heap.size, 1, none⟩ = some (.int .i64 xb) ∧ w'.cell? ⟨w.heap.size, a, none⟩ = some (.int .i64 fv)) (by kernel_rfl) HS5.out (fun hHeld => ?_)
        refine utk (i := 0) rfl hHeld ?_
        try simp only [Act.put, List.setIfInBounds_toArray, List.set_cons_zero, List.set_cons_succ]
        refine utk (i := 1) rfl hHeld ?_
        try simp only [Act.put, List.setIfInBounds_toArray, List.set_cons_zero, List.set_cons_succ]
        refine utk (i := 2) rfl hHeld ?_
        try simp only [Act.put, List.setIfInBounds_toArray, List.set_cons_zero, List.set_cons_succ]
        refine utk (i := 3) rfl hHeld ?_
        try simp only [Act.put, List.setIfInBounds_toArray, List.set_cons_zero, List.set_cons_succ]
        refine utk (i := 4) rfl hHeld ?_
        try simp only [Act.put, List.setIfInBounds_toArray, List.set_cons_zero, List.set_cons_succ]
        refine utk (i := 5) rfl hHeld ?_
        try simp only [Act.put, List.setIfInBounds_toArray, List.set_cons_zero, List.set_cons_succ]
        refine utk (i := 6) rfl hHeld ?_
        try simp only [Act.put, List.setIfInBounds_toArray, List.set_cons_zero, List.set_cons_succ]
        refine utk (i := 7) rfl hHeld ?_
        try simp only [Act.put, List.setIfInBounds_toArray, List.set_cons_zero, List.set_cons_succ]
        refine utk (i := 8) rfl hHeld ?_
        try simp only [Act.put, List.setIfInBounds_toArray, List.set_cons_zero, List.set_cons_succ]
        refine utk (i := 9) rfl hHeld ?_
        try simp only [Act.put, List.setIfInBounds_toArray, List.set_cons_zero, List.set_cons_succ]
        refine utk (i := 10) rfl hHeld ?_
        try simp only [Act.put, List.setIfInBounds_toArray, List.set_cons_zero, List.set_cons_succ]
        refine utk (i := 11) rfl hHeld ?_
        try simp only [Act.put, List.setIfInBounds_toArray, List.set_cons_zero, List.set_cons_succ]
        refine utk (i := 12) rfl hHeld ?_
        try simp only [Act.put, List.setIfInBounds_toArray, List.set_cons_zero, List.set_cons_succ]
        refine utk (i := 13) rfl hHeld ?_
        try simp only [Act.put, List.setIfInBounds_toArray, List.set_cons_zero, List.set_cons_succ]
        refine utk (i := 14) rfl hHeld ?_
        try simp only [Act.put, List.setIfInBounds_toArray, List.set_cons_zero, List.set_cons_succ]
        refine until_one (i := 15) rfl (by kernel_rfl) (fun K hK => ?_)
        go_simp
        refine hK.out _ _ (.inl rfl) ?_
        clear hK K
        try simp only [Act.put, List.setIfInBounds_toArray, List.set_cons_zero, List.set_cons_succ]
        refine until_done (by kernel_rfl) ?_ _
        refine NoPanic.normal ?_
        go_wp2_with fail
        go_roundw
        case rel => exact ⟨k + 1, by omega, by go_num, HBV.out, HN.out _ rfl⟩
        case measure => simp [intOf]; omega
    · have e : k = rs.length := by omega
      subst e
      have hki : ¬ (rs.length : Int) < (rs.length : Int) := by omega
      have HLR := hide (HH.out.below hbel)
      have HLA := hide (HLR.out.below (below_alloc1 wr (.map #[] 0)))
      have HXS := hide (HLA.out.setS HSV.out (some wr.heap.size))
      obtain ⟨-, -, -, -, -, -, -, -, -, d9⟩ := HLA.out.cells
      have hfy : (wr.alloc (.map #[] 0)).frozen? ⟨c.y, 9, none⟩ = false := by simp [World.frozen?, HLA.out.blk]
      have hyz : c.y < wr.heap.size := by omega
      have HRX : Hid (RowF ((wr.alloc (.map #[] 0)).setCell ⟨c.y, 9, none⟩ (.map (some wr.heap.size))) w.heap.size 3 L.body.length (fun j => .int .i64 (farD L (j : Int)))) := ((hrow.alloc _).setOther (show w.heap.size ≠ c.y by omega) _).congr fun j hj => by rw [HFE.out j]
      have HMX : Hid (((wr.alloc (.map #[] 0)).setCell ⟨c.y, 9, none⟩ (.map (some wr.heap.size))).heap[wr.heap.size]? = some (.map #[] 0)) := by
        show _ = _
        rw [Below.heap_setCell _ _ _ _ (show wr.heap.size ≠ c.y by omega)]
        show (wr.heap.push _)[wr.heap.size]? = _
        simp
      have HBX : Hid (Below c.y w ((wr.alloc (.map #[] 0)).setCell ⟨c.y, 9, none⟩ (.map (some wr.heap.size)))) := ((HB.out.mono (Nat.le_of_lt hy)).trans ((below_alloc1 wr (.map #[] 0)).mono (Nat.le_of_lt hyz))).setCell (Nat.le_refl _) _
      have HM0 : Hid (MapS (firstL L t K O) (whoL L) (whichL L) (posL L 0) wr.heap.size ((wr.alloc (.map #[] 0)).setCell ⟨c.y, 9, none⟩ (.map (some wr.heap.size)))) := (MapS.made _ _ _ wr).of_block (Below.heap_setCell _ _ _ _ (show wr.heap.size ≠ c.y by omega))
      have hmm := @run_makeMap Try.prog
      clear hbel hrow HRW HLR HLA HB
      go_wp2_with fail
      clear hmm
      have hE : (wr.alloc (.map #[] 0)).setCell ⟨c.y, 9, none⟩ (.map (some wr.heap.size)) = (wr.setCell ⟨c.y, 9, none⟩ (.map (some wr.heap.size))).alloc (.map #[] 0) := World.setCell_alloc_past _ _ _ _ (by simpa using hyz)
      rw [hE] at HXS HRX HMX HBX HM0
      obtain ⟨X, hX⟩ : ∃ X, (wr.setCell ⟨c.y, 9, none⟩ (.map (some wr.heap.size))).alloc (.map #[] 0) = X := ⟨_, rfl⟩
      rw [hX] at HXS HRX HMX HBX HM0 ⊢
      obtain ⟨M, hM⟩ : ∃ M, wr.heap.size = M := ⟨_, rfl⟩
      rw [hM] at HXS HMX HM0 hyz hFz ⊢
      clear hE hX hM d9 hfy HRR HFR HD3 HC HH HFE
      have HGR : Hid (∀ {u u' : World}, X.grownBy u (some M) → Below u.heap.size u u' → X.grownBy u' (some M)) := fun hg hb => hg.andThen (row' := none) ⟨hb.os, hb.tape, hb.output, hb.size, fun i hi _ => hb.block i hi⟩ (fun j hj => by cases hj)
      have HEND : Hid (∀ u, X.grownBy u (some M) → Below c.y w u ∧ LayR { c with sv := .map (some M) } L t K O u) := fun u hg => ⟨HBX.out.grown hg (by have := HXS.out.lt; exact Nat.le_of_lt this) (fun j hj => by injection hj with hj; omega), HXS.out.grown HMX.out hg⟩
      go_loopw [50] (fun i wr2 => ∃ s : Nat, s ≤ L.body.length ∧ i = .int .i64 s ∧ X.grownBy wr2 (some M) ∧ MapS (firstL L t K O) (whoL L) (whichL L) (posL L s) M wr2 ∧ allN (freshJ (firstL L t K O)) (posL L s) = true) (fun i _ => L.body.length - (intOf i).toNat)
      case atStart => exact ⟨0, Nat.zero_le _, rfl, ⟨rfl, rfl, rfl, Nat.le_refl _, fun _ _ _ => rfl⟩, HM0.out, rfl⟩
      case round =>
        clear HM0
        obtain ⟨s, hs, rfl, hgr, hms, hall⟩ := hrel
        have HG := hide hgr
        have HMS := hide hms
        have HA := hide hall
        clear hms hall
        by_cases hsl : s < L.body.length
        · have hsi : (s : Int) < (L.body.length : Int) := by omega
          have cfs := (map_row HMX.out hgr HRX.out).cell hsl
          have hFz2 := (map_row HMX.out hgr HRX.out).lt
          obtain ⟨fl, hfl⟩ : ∃ fl : Nat, farD L (s : Int) = fl := ⟨farLen L s, by unfold farLen; have := far_pos L (s : Int) L.body.length; unfold farD; omega⟩
          have HFL : Hid (farLen L s = fl) := by show _ = _; unfold farLen; rw [hfl]; rfl
          have hf3 : fl ≤ 3 := by have := HSM.out s; rw [HFL.out] at this; exact this
          rw [hfl] at cfs
          obtain ⟨ps, hps⟩ : ∃ ps, posL L s = ps := ⟨_, rfl⟩
          have HPS1 : Hid (posL L (s + 1) = ps + fl) := by show posL L s + farLen L s = _; rw [hps, HFL.out]
          have hpsm : ps ≤ 48 := by have := HPS.out s; omega
          have HFA2 : Hid (∀ q, q < fl → nth (firstL L t K O) (ps + q) = (placeJ K O s - ((q : Int) + 1)) % t.r ∧ nth (whoL L) (ps + q) = s ∧ nth (whichL L) (ps + q) = (q : Int) + 1) := fun q hq => by rw [← hps]; exact HFA.out s q hsl (by rw [HFL.out]; exact hq)
          have HLT : Hid (∀ q, q < fl → ps + q < posL L L.body.length) := fun q hq => by rw [← hps]; exact pos_lt hsl (by rw [HFL.out]; exact hq)
          rw [hps] at HMS HA
          obtain ⟨pl0, pl1⟩ := HPL.out s hsl
          clear hgr hfl hps
          go_wp2_with fail
          rename World => wo
          go_loopw [8] (fun bv wr3 => ∃ q : Nat, q ≤ fl ∧ bv = .int .i64 ((q : Int) + 1) ∧ X.grownBy wr3 (some M) ∧ MapS (firstL L t K O) (whoL L) (whichL L) (ps + q) M wr3 ∧ allN (freshJ (firstL L t K O)) (ps + q) = true) (fun bv _ => fl + 1 - (intOf bv).toNat)
          case atStart => exact ⟨0, Nat.zero_le _, rfl, HG.out, HMS.out, HA.out⟩
          case round =>
            clear HG HMS HA
            obtain ⟨q, hq, rfl, hgr, hms, hall⟩ := hrel
            have HG := hide hgr
            have HA := hide hall
            by_cases hql : q < fl
            · have hqi : (q : Int) + 1 ≤ (fl : Int) := by omega
              have HLR := hide (HXS.out.grown HMX.out hgr)
              obtain ⟨-, -, -, -, -, -, -, y7, -, y9⟩ := HLR.out.cells
              have pc := HLR.out.pl.cell hsl
              have hpz := HLR.out.pl.lt
              have hyz3 := HLR.out.lt
              obtain ⟨cp1, cp2⟩ := HLR.out.cp
              unfold maxLen at cp2
              simp only at y7 y9 pc hpz hyz3 cp1 cp2
              obtain ⟨f1, f2, f3⟩ := HFA2.out q hql
              have HLE := hide (cleft_any { c with sv := .map (some M) } L t K O (placeJ K O s - ((q : Int) + 1)) wr HLR.out hr1 hr2 (by omega) (by omega))
              rw [← f1] at HLE
              have hzr := HFG.out (ps + q) (HLT.out q hql)
              have hzr2 : 0 ≤ nth (firstL L t K O) (ps + q) ∧ nth (firstL L t K O) (ps + q) < t.r := hzr
              have hw1 : wrap64 (placeJ K O s - ((q : Int) + 1)) = placeJ K O s - ((q : Int) + 1) := by unfold wrap64; omega
              have HMS := hide hms
              have HF := hide (And.intro f1 (And.intro f2 f3))
              obtain ⟨z, hzz⟩ : ∃ z, nth (firstL L t K O) (ps + q) = z := ⟨_, rfl⟩
              rw [hzz] at HLE hzr2
              have HZ := hide hzz
              have hwz := wf_of (z := z) (by omega) (by omega)
              clear hgr hms hall hzr f1 f2 f3 hzz
              generalize placeJ K O s = pp at *
              go_wp2_with fail
              refine HLE.out.mono ?_
              rintro e w1 ⟨rfl, n1, rfl⟩
              obtain ⟨U, hU⟩ : ∃ U, wr.drewN n1 = U := ⟨_, rfl⟩
              have hgU : X.grownBy U (some M) := by rw [← hU]; exact HGR.out HG.out (below_draws _ _ _)
              have hmU : MapS (firstL L t K O) (whoL L) (whichL L) (ps + q) M U := by rw [← hU]; exact HMS.out.of_block rfl
              have y9U : U.cell? ⟨c.y, 9, none⟩ = some (.map (some M)) := by rw [← hU]; exact y9
              have hyU : c.y < U.heap.size := by rw [← hU]; exact hyz3
              rw [hU]
              obtain ⟨ga, gq, ok, hlk, hok⟩ := hmU.look z hwz
              have HGU := hide hgU
              have HMU := hide hmU
              have HOK := hide hok
              clear hU hgU hmU y7 y9 pc hpz hyz3 cp1 cp2 HLR HLE hw1 hok HG HMS
              cases ok with
              | true =>
                have HN : Hid (beginsD L t K O = false) := by
                  show _ = _
                  rw [HD.out]
                  refine allN_false (HLT.out q hql) ?_
                  obtain ⟨i, hi, e⟩ := HOK.out.1 rfl
                  show freshJ (firstL L t K O) (ps + q) = false
                  unfold freshJ
                  refine allN_false hi ?_
                  rw [e, HZ.out, decide_eq_true rfl]; rfl
                obtain ⟨he1, he2⟩ := HEND.out _ (HGR.out HGU.out (below_alloc1 U (.cells #[.int .i64 ga, .int .i64 gq] 74)))
                have HE1 := hide he1
                have HE2 := hide he2
                clear he1 he2 HOK
                go_wp2_with fail
                go_ret
                exact ⟨ret_bool HN.out.symm, HE1.out, M, HE2.out, fun h => by rw [HN.out] at h; cases h⟩
              | false =>
                have HMA := hide (HMU.out.of_block (Below.heap_alloc U (.cells #[.int .i64 ga, .int .i64 gq] 74) M HMU.out.lt))
                have hnone : ∀ i, i < ps + q → nth (firstL L t K O) i ≠ nth (firstL L t K O) (ps + q) := fun i hi e => by
                  have := HOK.out.2 ⟨i, hi, by rw [e, HZ.out]⟩
                  cases this
                obtain ⟨x', hup, hg', hm'⟩ := HMA.out.put (by unfold maxLen; omega) (by rw [HZ.out]; exact hwz) hnone
                rw [HZ.out, HF.out.2.1, HF.out.2.2] at hup
                have HGX : Hid (X.grownBy x' (some M)) := (HGR.out HGU.out (below_alloc1 U (.cells #[.int .i64 ga, .int .i64 gq] 74))).andThen hg' (fun j hj => .inr hj)
                have HMX' := hide hm'
                have y9A : (U.alloc (.cells #[.int .i64 ga, .int .i64 gq] 74)).cell? ⟨c.y, 9, none⟩ = some (.map (some M)) := (bcell (below_alloc1 U _) c.y 9 hyU).trans y9U
                have HFR : Hid (allN (freshJ (firstL L t K O)) (ps + (q + 1)) = true) := allN_step (k := ps + q) HA.out (allN_mk fun i hi => by
                  show (!decide (nth (firstL L t K O) i = nth (firstL L t K O) (ps + q))) = true
                  rw [decide_eq_false (hnone i hi)]; rfl)
                clear hnone hg' hm' HOK HMU HMA
                go_wp2_with fail
                go_roundw
                case rel => exact ⟨q + 1, by omega, by go_num, HGX.out, HMX'.out, HFR.out⟩
                case measure => simp [intOf]; omega
            · have e : q = fl := by omega
              subst e
              have hqi : ¬ (q : Int) + 1 ≤ (q : Int) := by omega
              have HMS := hide hms
              clear hgr hms hall
              go_wp2_with fail
              go_roundw
              case rel => exact ⟨s + 1, by omega, by go_num, HG.out, by rw [HPS1.out]; exact HMS.out, by rw [HPS1.out]; exact HA.out⟩
              case measure => simp [intOf]; omega
        · have e : s = L.body.length := by omega
          subst e
          have hsi : ¬ (L.body.length : Int) < (L.body.length : Int) := by omega
          have HN : Hid (beginsD L t K O = true) := by show _ = _; rw [HD.out, HA.out]
          obtain ⟨he1, he2⟩ := HEND.out _ hgr
          have HE1 := hide he1
          have HE2 := hide he2
          clear hgr he1 he2
          go_wp2_with fail
          go_ret
          exact ⟨ret_bool HN.out.symm, HE1.out, M, HE2.out, fun _ => HMS.out⟩
end Go.Proofs.Ytbpaffkkphacdab
/- Package check's take and Takes: whether a kernel is taken, and its layout. -/
namespace Go.Proofs.Ytbpaffkkphacdab
open Go.RowKit Go.Joins
set_option linter.unusedVariables false
set_option linter.unusedSimpArgs false
set_option maxRecDepth 8192

theorem cmatch_any (hM : MayC) (p0 p1 p2 q0 q1 q2 r pc st : Int) (ops : List Kop) (L : Lp) (O : List Int) (a0 a1 a2 ka oa : Option Addr) (cap0 cap1 cap2 kc oc : Nat) (w : World) (hL : LoopV w (.agg #[.slice a0 L.logs.length cap0, .slice a1 L.body.length cap1, .slice a2 L.outs.length cap2]) L) (hK : OpsV w (.slice ka ops.length kc) ops) (hO : Ints w (.slice oa O.length oc) O) :
    Calls Try.prog 80 #[.agg #[.slice a0 L.logs.length cap0, .slice a1 L.body.length cap1, .slice a2 L.outs.length cap2], .agg #[.int .i64 p0, .int .i64 p1, .int .i64 p2, .int .i64 q0, .int .i64 q1, .int .i64 q2, .int .i64 r], .agg #[.int .i64 pc, .int .i64 st, .slice ka ops.length kc], .slice oa O.length oc] w fun e w' => e = .returned (.bool (layD L ⟨p0, p1, p2, q0, q1, q2, r⟩ ⟨pc, st, ops⟩ O)) ∧ Below w.heap.size w w' := by
  by_cases h1 : ops.length = L.body.length
  · by_cases h2 : O.length = L.body.length
    · cases hm : mayB L with
      | false => exact cmatch_may hM p0 p1 p2 q0 q1 q2 r pc st ops L O a0 a1 a2 ka oa cap0 cap1 cap2 kc oc w hL hK hO h1 h2 (.inl hm)
      | true =>
        cases hk : mayK ⟨p0, p1, p2, q0, q1, q2, r⟩ ⟨pc, st, ops⟩ L.logs with
        | false => exact cmatch_may hM p0 p1 p2 q0 q1 q2 r pc st ops L O a0 a1 a2 ka oa cap0 cap1 cap2 kc oc w hL hK hO h1 h2 (.inr ⟨hm, hk⟩)
        | true => exact cmatch_loop hM p0 p1 p2 q0 q1 q2 r pc st ops L O a0 a1 a2 ka oa cap0 cap1 cap2 kc oc w hL hK hO h1 h2 hm hk
    · exact cmatch_len hM p0 p1 p2 q0 q1 q2 r pc st ops L O a0 a1 a2 ka oa cap0 cap1 cap2 kc oc w hL hK hO (.inr h2)
  · exact cmatch_len hM p0 p1 p2 q0 q1 q2 r pc st ops L O a0 a1 a2 ka oa cap0 cap1 cap2 kc oc w hL hK hO (.inl h1)
theorem clay_any (p0 p1 p2 q0 q1 q2 r pc st : Int) (ops : List Kop) (L : Lp) (O : List Int) (a0 a1 a2 ka oa : Option Addr) (cap0 cap1 cap2 kc oc : Nat) (w : World) (hL : LoopV w (.agg #[.slice a0 L.logs.length cap0, .slice a1 L.body.length cap1, .slice a2 L.outs.length cap2]) L) (hK : OpsV w (.slice ka ops.length kc) ops) (hO : Ints w (.slice oa O.length oc) O) (hl : layD L ⟨p0, p1, p2, q0, q1, q2, r⟩ ⟨pc, st, ops⟩ O = true) :
    Calls Try.prog 81 #[.agg #[.slice a0 L.logs.length cap0, .slice a1 L.body.length cap1, .slice a2 L.outs.length cap2], .agg #[.int .i64 p0, .int .i64 p1, .int .i64 p2, .int .i64 q0, .int .i64 q1, .int .i64 q2, .int .i64 r], .agg #[.int .i64 pc, .int .i64 st, .slice ka ops.length kc], .slice oa O.length oc] w fun e w' => ∃ c : Lc, e = .returned (.pointer (some ⟨c.y, 0, none⟩)) ∧ Below w.heap.size w w' ∧ w.heap.size ≤ c.y ∧ c.sv = .map none ∧ LayR c L ⟨p0, p1, p2, q0, q1, q2, r⟩ ⟨pc, st, ops⟩ O w' := by
  obtain ⟨hm, hmt, hmk, h4, h5, h6⟩ := lay_parts hl
  simp only at h4
  obtain ⟨-, hn1, hn16, -⟩ := may_parts hm
  have hL' := hL
  obtain ⟨v0, v1, v2, hv, -, ⟨a1', c1', hv1, hl1, hl2, hl3⟩, -⟩ := hL'
  obtain ⟨e0, e1, e2⟩ : (.slice a0 L.logs.length cap0 : Value) = v0 ∧ (.slice a1 L.body.length cap1 : Value) = v1 ∧ (.slice a2 L.outs.length cap2 : Value) = v2 := by
    injection hv with hv
    have := congrArg Array.toList hv
    simpa using this
  rw [hv1] at e1
  injection e1 with e1 ex1 e1'
  subst e1; subst e1'
  unfold maxLen at hl2
  obtain ⟨bb, bo, rfl, hbb, hbody⟩ := hl3 (by omega)
  obtain ⟨ka', kc', hke, hk1, hk2, hk3⟩ := hK
  injection hke with e1 ex2 e1'
  subst e1; subst e1'
  unfold maxLen at hk2
  obtain ⟨kb, ko, rfl, hkb, hops⟩ := hk3 (by omega)
  obtain ⟨oa', oc', hoe, ho1, ho2, hor, ho3⟩ := hO
  injection hoe with e1 ex3 e1'
  subst e1; subst e1'
  unfold maxLen at ho2
  obtain ⟨ob, oo, rfl, hob, hord⟩ := ho3 (by omega)
  refine (clay_walk p0 p1 p2 q0 q1 q2 r pc st ops L O a0 a2 bb bo kb ko ob oo cap0 cap1 cap2 kc oc w hl hbb hl1 (by omega) hbody hkb hk1 (by omega) hops hob ho1 (by omega) hord).mono ?_
  rintro e w' ⟨rfl, hb, ta, tc, ra, rc, pa, pq, da, dc, hly⟩
  obtain ⟨tb, rb, pb, h⟩ := LayR.of (t := ⟨p0, p1, p2, q0, q1, q2, r⟩) (K := ⟨pc, st, ops⟩) hly hn1 (hL.below hb)
  exact ⟨_, rfl, hb, by show w.heap.size ≤ w.heap.size + 1 + 1 + 1; omega, rfl, h⟩
/-- what take tells -/
def TakePost (L : Lp) (t : Tg) (K : Kn) (O : List Int) (w : World) (e : Ending) (w' : World) : Prop :=
  ∃ pv, e = .returned (.tuple #[pv, .bool (takenD L t K O)]) ∧ Below w.heap.size w w' ∧ (takenD L t K O = true → ∃ c M, pv = .pointer (some ⟨c.y, 0, none⟩) ∧ c.sv = .map (some M) ∧ LayR c L t K O w' ∧ MapS (firstL L t K O) (whoL L) (whichL L) (posL L L.body.length) M w')
theorem tp_no {L : Lp} {t : Tg} {K : Kn} {O : List Int} {w w' : World} {pv : Value} (h : takenD L t K O = false) (hb : Below w.heap.size w w') : TakePost L t K O w (.returned (.tuple #[pv, .bool false])) w' :=
  ⟨pv, by rw [h], hb, fun h2 => by rw [h] at h2; cases h2⟩

set_option maxHeartbeats 8000000 in
theorem ctake_no (hM : MayC) (p0 p1 p2 q0 q1 q2 r pc st : Int) (ops : List Kop) (L : Lp) (O : List Int) (a0 a1 a2 ka oa : Option Addr) (cap0 cap1 cap2 kc oc : Nat) (w : World) (hL : LoopV w (.agg #[.slice a0 L.logs.length cap0, .slice a1 L.body.length cap1, .slice a2 L.outs.length cap2]) L) (hK : OpsV w (.slice ka ops.length kc) ops) (hO : Ints w (.slice oa O.length oc) O) (hl : layD L ⟨p0, p1, p2, q0, q1, q2, r⟩ ⟨pc, st, ops⟩ O = false) :
    Calls Try.prog 47 #[.agg #[.slice a0 L.logs.length cap0, .slice a1 L.body.length cap1, .slice a2 L.outs.length cap2], .agg #[.int .i64 p0, .int .i64 p1, .int .i64 p2, .int .i64 q0, .int .i64 q1, .int .i64 q2, .int .i64 r], .agg #[.int .i64 pc, .int .i64 st, .slice ka ops.length kc], .slice oa O.length oc] w (TakePost L ⟨p0, p1, p2, q0, q1, q2, r⟩ ⟨pc, st, ops⟩ O w) := by
  have HBZ := hide (below_alloc3 w (.cells #[.slice a0 L.logs.length cap0, .slice a1 L.body.length cap1, .slice a2 L.outs.length cap2] 25) (.cells #[.int .i64 p0, .int .i64 p1, .int .i64 p2, .int .i64 q0, .int .i64 q1, .int .i64 q2, .int .i64 r] 28) (.cells #[.int .i64 pc, .int .i64 st, .slice ka ops.length kc] 40))
  have HMA := hide (cmatch_any hM p0 p1 p2 q0 q1 q2 r pc st ops L O a0 a1 a2 ka oa cap0 cap1 cap2 kc oc (((w.alloc (.cells #[.slice a0 L.logs.length cap0, .slice a1 L.body.length cap1, .slice a2 L.outs.length cap2] 25)).alloc (.cells #[.int .i64 p0, .int .i64 p1, .int .i64 p2, .int .i64 q0, .int .i64 q1, .int .i64 q2, .int .i64 r] 28)).alloc (.cells #[.int .i64 pc, .int .i64 st, .slice ka ops.length kc] 40)) (hL.below HBZ.out) (hK.below HBZ.out) (hO.below HBZ.out))
  have HN := hide (ctaken_no hl)
  have HS3 : Hid ((((w.alloc (.cells #[.slice a0 L.logs.length cap0, .slice a1 L.body.length cap1, .slice a2 L.outs.length cap2] 25)).alloc (.cells #[.int .i64 p0, .int .i64 p1, .int .i64 p2, .int .i64 q0, .int .i64 q1, .int .i64 q2, .int .i64 r] 28)).alloc (.cells #[.int .i64 pc, .int .i64 st, .slice ka ops.length kc] 40)).heap.size = w.heap.size + 1 + 1 + 1) := by show _ = _; simp
  rw [hl] at HMA
  clear hL hK hO hM hl
  go_enter Try.func47, Try.ntmps47
  go_wp2_with fail
  refine HMA.out.mono ?_
  rintro e x1 ⟨rfl, hb⟩
  have HBX := hide (HBZ.out.trans (hb.mono (by rw [HS3.out]; omega)))
  clear hb
  go_wp2_with fail
  exact bodyPost_ret (v := .tuple #[.pointer none, .bool false]) (by simp [results, Try.results47, go_sem]) rfl (tp_no HN.out HBX.out)

set_option maxHeartbeats 16000000 in
theorem ctake_yes (hM : MayC) (hE : EdgesC) (p0 p1 p2 q0 q1 q2 r pc st : Int) (ops : List Kop) (L : Lp) (O : List Int) (a0 a1 a2 ka oa : Option Addr) (cap0 cap1 cap2 kc oc : Nat) (w : World) (hL : LoopV w (.agg #[.slice a0 L.logs.length cap0, .slice a1 L.body.length cap1, .slice a2 L.outs.length cap2]) L) (hK : OpsV w (.slice ka ops.length kc) ops) (hO : Ints w (.slice oa O.length oc) O) (hl : layD L ⟨p0, p1, p2, q0, q1, q2, r⟩ ⟨pc, st, ops⟩ O = true) :
    Calls Try.prog 47 #[.agg #[.slice a0 L.logs.length cap0, .slice a1 L.body.length cap1, .slice a2 L.outs.length cap2], .agg #[.int .i64 p0, .int .i64 p1, .int .i64 p2, .int .i64 q0, .int .i64 q1, .int .i64 q2, .int .i64 r], .agg #[.int .i64 pc, .int .i64 st, .slice ka ops.length kc], .slice oa O.length oc] w (TakePost L ⟨p0, p1, p2, q0, q1, q2, r⟩ ⟨pc, st, ops⟩ O w) := by
  have HBZ := hide (below_alloc3 w (.cells #[.slice a0 L.logs.length cap0, .slice a1 L.body.length cap1, .slice a2 L.outs.length cap2] 25) (.cells #[.int .i64 p0, .int .i64 p1, .int .i64 p2, .int .i64 q0, .int .i64 q1, .int .i64 q2, .int .i64 r] 28) (.cells #[.int .i64 pc, .int .i64 st, .slice ka ops.length kc] 40))
  have HMA := hide (cmatch_any hM p0 p1 p2 q0 q1 q2 r pc st ops L O a0 a1 a2 ka oa cap0 cap1 cap2 kc oc (((w.alloc (.cells #[.slice a0 L.logs.length cap0, .slice a1 L.body.length cap1, .slice a2 L.outs.length cap2] 25)).alloc (.cells #[.int .i64 p0, .int .i64 p1, .int .i64 p2, .int .i64 q0, .int .i64 q1, .int .i64 q2, .int .i64 r] 28)).alloc (.cells #[.int .i64 pc, .int .i64 st, .slice ka ops.length kc] 40)) (hL.below HBZ.out) (hK.below HBZ.out) (hO.below HBZ.out))
  have HLA := hide (fun W (hb : Below w.heap.size w W) => clay_any p0 p1 p2 q0 q1 q2 r pc st ops L O a0 a1 a2 ka oa cap0 cap1 cap2 kc oc W (hL.below hb) (hK.below hb) (hO.below hb) hl)
  have HTE := hide (taken_eq hl)
  have HS3 : Hid ((((w.alloc (.cells #[.slice a0 L.logs.length cap0, .slice a1 L.body.length cap1, .slice a2 L.outs.length cap2] 25)).alloc (.cells #[.int .i64 p0, .int .i64 p1, .int .i64 p2, .int .i64 q0, .int .i64 q1, .int .i64 q2, .int .i64 r] 28)).alloc (.cells #[.int .i64 pc, .int .i64 st, .slice ka ops.length kc] 40)).heap.size = w.heap.size + 1 + 1 + 1) := by show _ = _; simp
  have HBE := hide (fun c m W h hs => cbegins_any c L ⟨p0, p1, p2, q0, q1, q2, r⟩ ⟨pc, st, ops⟩ O m W h hs hl)
  have HWA := hide (fun c W h => cwaits_any hE c L ⟨p0, p1, p2, q0, q1, q2, r⟩ ⟨pc, st, ops⟩ O W h hl)
  have HNA := hide (fun c W h => cnames_any c L ⟨p0, p1, p2, q0, q1, q2, r⟩ ⟨pc, st, ops⟩ O W h hl)
  have HKE := hide (fun c W h => ckeeps_any c L ⟨p0, p1, p2, q0, q1, q2, r⟩ ⟨pc, st, ops⟩ O W h hl)
  have HEN := hide (fun c W h => cends_any c L ⟨p0, p1, p2, q0, q1, q2, r⟩ ⟨pc, st, ops⟩ O W h hl)
  rw [hl] at HMA
  clear hL hK hO hM hE hl
  go_enter Try.func47, Try.ntmps47
  go_wp2_with fail
  refine HMA.out.mono ?_
  rintro e x1 ⟨rfl, hb⟩
  rw [HS3.out] at hb
  have HB1 := hide hb
  obtain ⟨⟨l0, l1, l2⟩, ⟨t0, t1, t2, t3, t4, t5, t6⟩, ⟨k0, k1, k2⟩, hz, hbw⟩ := lkbox_cells hb
  have HBX := hide hbw
  clear hb hbw HMA HBZ
  go_wp2_with fail
  refine (HLA.out x1 HBX.out).mono ?_
  rintro e x2 ⟨c, rfl, hb, hcy, hsv, hlr⟩
  have hx1 : w.heap.size + 1 + 1 + 1 ≤ x1.heap.size := by have := HB1.out.size; rw [HS3.out] at this; exact this
  have HB2 := hide (HB1.out.trans (hb.mono hx1))
  have HLR2 := hide hlr
  have HSV := hide hsv
  have hcw : w.heap.size + 1 + 1 + 1 ≤ c.y := by omega
  clear hb hlr hsv HLA l0 l1 l2 t0 t1 t2 t3 t4 t5 t6 k0 k1 k2 hz
  obtain ⟨⟨l0, l1, l2⟩, ⟨t0, t1, t2, t3, t4, t5, t6⟩, ⟨k0, k1, k2⟩, hz, hbw⟩ := lkbox_cells HB2.out
  have HBX2 := hide hbw
  clear hbw HB1 HBX
  go_wp2_with fail
  refine (HBE.out c none x2 HLR2.out HSV.out).mono ?_
  rintro e x3 ⟨rfl, hb, M, hlr, hms⟩
  have HB3 := hide (HB2.out.trans (hb.mono hcw))
  have HLR3 := hide hlr
  have HMS := hide hms
  clear hb hlr hms l0 l1 l2 t0 t1 t2 t3 t4 t5 t6 k0 k1 k2 hz HLR2 HSV HBE
  obtain ⟨⟨l0, l1, l2⟩, ⟨t0, t1, t2, t3, t4, t5, t6⟩, ⟨k0, k1, k2⟩, hz, hbw⟩ := lkbox_cells HB3.out
  have HBX3 := hide hbw
  clear hbw HB2 HBX2
  cases h1 : beginsD L ⟨p0, p1, p2, q0, q1, q2, r⟩ ⟨pc, st, ops⟩ O with
  | false =>
    have HN : Hid (takenD L ⟨p0, p1, p2, q0, q1, q2, r⟩ ⟨pc, st, ops⟩ O = false) := by show _ = _; rw [HTE.out, h1]; simp
    clear h1
    go_wp2_with fail
    exact bodyPost_ret (v := .tuple #[.pointer (some ⟨c.y, 0, none⟩), .bool false]) (by simp [results, Try.results47, go_sem]) rfl (tp_no HN.out HBX3.out)
  | true =>
    have H1 := hide h1
    clear h1
    go_wp2_with fail
    refine (HWA.out { c with sv := .map (some M) } x3 HLR3.out).mono ?_
    rintro e x4 ⟨rfl, hb⟩
    have HB4 := hide (HB3.out.trans (hb.mono (by have := HB3.out.size; rw [HS3.out] at this; exact this)))
    have HLR4 := hide (HLR3.out.below hb)
    have HM4 := hide (hb.block M)
    have HMZ4 := hide hb.size
    clear hb l0 l1 l2 t0 t1 t2 t3 t4 t5 t6 k0 k1 k2 hz
    obtain ⟨⟨l0, l1, l2⟩, ⟨t0, t1, t2, t3, t4, t5, t6⟩, ⟨k0, k1, k2⟩, hz, hbw⟩ := lkbox_cells HB4.out
    have HBX4 := hide hbw
    clear hbw
    cases h2 : waitsD L ⟨p0, p1, p2, q0, q1, q2, r⟩ ⟨pc, st, ops⟩ O with
    | false =>
      have HN : Hid (takenD L ⟨p0, p1, p2, q0, q1, q2, r⟩ ⟨pc, st, ops⟩ O = false) := by show _ = _; rw [HTE.out, h2]; simp
      clear h2
      go_wp2_with fail
      exact bodyPost_ret (v := .tuple #[.pointer (some ⟨c.y, 0, none⟩), .bool false]) (by simp [results, Try.results47, go_sem]) rfl (tp_no HN.out HBX4.out)
    | true =>
      have H2 := hide h2
      clear h2
      go_wp2_with fail
      refine (HNA.out { c with sv := .map (some M) } x4 HLR4.out).mono ?_
      rintro e x5 ⟨rfl, hb⟩
      have HB5 := hide (HB4.out.trans (hb.mono (by have := HB4.out.size; rw [HS3.out] at this; exact this)))
      have HLR5 := hide (HLR4.out.below hb)
      have HM5 := hide (hb.block M)
      have HMZ5 := hide hb.size
      clear hb l0 l1 l2 t0 t1 t2 t3 t4 t5 t6 k0 k1 k2 hz
      obtain ⟨⟨l0, l1, l2⟩, ⟨t0, t1, t2, t3, t4, t5, t6⟩, ⟨k0, k1, k2⟩, hz, hbw⟩ := lkbox_cells HB5.out
      have HBX5 := hide hbw
      clear hbw
      cases h3 : namesD L ⟨p0, p1, p2, q0, q1, q2, r⟩ ⟨pc, st, ops⟩ O with
      | false =>
        have HN : Hid (takenD L ⟨p0, p1, p2, q0, q1, q2, r⟩ ⟨pc, st, ops⟩ O = false) := by show _ = _; rw [HTE.out, h3]; simp
        clear h3
        go_wp2_with fail
        exact bodyPost_ret (v := .tuple #[.pointer (some ⟨c.y, 0, none⟩), .bool false]) (by simp [results, Try.results47, go_sem]) rfl (tp_no HN.out HBX5.out)
      | true =>
        have H3 := hide h3
        clear h3
        go_wp2_with fail
        refine (HKE.out { c with sv := .map (some M) } x5 HLR5.out).mono ?_
        rintro e x6 ⟨rfl, hb⟩
        have HB6 := hide (HB5.out.trans (hb.mono (by have := HB5.out.size; rw [HS3.out] at this; exact this)))
        have HLR6 := hide (HLR5.out.below hb)
        have HM6 := hide (hb.block M)
        have HMZ6 := hide hb.size
        clear hb l0 l1 l2 t0 t1 t2 t3 t4 t5 t6 k0 k1 k2 hz
        obtain ⟨⟨l0, l1, l2⟩, ⟨t0, t1, t2, t3, t4, t5, t6⟩, ⟨k0, k1, k2⟩, hz, hbw⟩ := lkbox_cells HB6.out
        have HBX6 := hide hbw
        clear hbw
        cases h4 : keepsD L ⟨p0, p1, p2, q0, q1, q2, r⟩ ⟨pc, st, ops⟩ O with
        | false =>
          have HN : Hid (takenD L ⟨p0, p1, p2, q0, q1, q2, r⟩ ⟨pc, st, ops⟩ O = false) := by show _ = _; rw [HTE.out, h4]; simp
          clear h4
          go_wp2_with fail
          exact bodyPost_ret (v := .tuple #[.pointer (some ⟨c.y, 0, none⟩), .bool false]) (by simp [results, Try.results47, go_sem]) rfl (tp_no HN.out HBX6.out)
        | true =>
          have H4 := hide h4
          clear h4
          go_wp2_with fail
          refine (HEN.out { c with sv := .map (some M) } x6 HLR6.out).mono ?_
          rintro e x7 ⟨rfl, hb⟩
          have HB7 := hide (HB6.out.trans (hb.mono (by have := HB6.out.size; rw [HS3.out] at this; exact this)))
          have HLR7 := hide (HLR6.out.below hb)
          have HM7 := hide (hb.block M)
          have HMZ7 := hide hb.size
          clear hb l0 l1 l2 t0 t1 t2 t3 t4 t5 t6 k0 k1 k2 hz
          obtain ⟨⟨l0, l1, l2⟩, ⟨t0, t1, t2, t3, t4, t5, t6⟩, ⟨k0, k1, k2⟩, hz, hbw⟩ := lkbox_cells HB7.out
          have HBX7 := hide hbw
          clear hbw
          cases h5 : endsD L ⟨p0, p1, p2, q0, q1, q2, r⟩ ⟨pc, st, ops⟩ O with
          | false =>
            have HN : Hid (takenD L ⟨p0, p1, p2, q0, q1, q2, r⟩ ⟨pc, st, ops⟩ O = false) := by show _ = _; rw [HTE.out, h5]; simp
            clear h5
            go_wp2_with fail
            exact bodyPost_ret (v := .tuple #[.pointer (some ⟨c.y, 0, none⟩), .bool false]) (by simp [results, Try.results47, go_sem]) rfl (tp_no HN.out HBX7.out)
          | true =>
            have HN : Hid (takenD L ⟨p0, p1, p2, q0, q1, q2, r⟩ ⟨pc, st, ops⟩ O = true) := by show _ = _; rw [HTE.out, H1.out, H2.out, H3.out, H4.out, h5]; rfl
            have HM3 := hide (HMS.out H1.out)
            have HMF : Hid (MapS (firstL L ⟨p0, p1, p2, q0, q1, q2, r⟩ ⟨pc, st, ops⟩ O) (whoL L) (whichL L) (posL L L.body.length) M x7) := by
              have h0 := HM3.out.lt
              have e4 := HM4.out h0
              have z4 := HMZ4.out
              have e5 := HM5.out (by omega)
              have z5 := HMZ5.out
              have e6 := HM6.out (by omega)
              have z6 := HMZ6.out
              have e7 := HM7.out (by omega)
              exact HM3.out.of_block (e7.trans (e6.trans (e5.trans e4)))
            clear h5
            go_wp2_with fail
            exact bodyPost_ret (v := .tuple #[.pointer (some ⟨c.y, 0, none⟩), .bool true]) (by simp [results, Try.results47, go_sem]) rfl ⟨_, by rw [HN.out], HBX7.out, fun _ => ⟨{ c with sv := .map (some M) }, M, rfl, rfl, HLR7.out, HMF.out⟩⟩
theorem ctake_any (hM : MayC) (hE : EdgesC) (p0 p1 p2 q0 q1 q2 r pc st : Int) (ops : List Kop) (L : Lp) (O : List Int) (a0 a1 a2 ka oa : Option Addr) (cap0 cap1 cap2 kc oc : Nat) (w : World) (hL : LoopV w (.agg #[.slice a0 L.logs.length cap0, .slice a1 L.body.length cap1, .slice a2 L.outs.length cap2]) L) (hK : OpsV w (.slice ka ops.length kc) ops) (hO : Ints w (.slice oa O.length oc) O) :
    Calls Try.prog 47 #[.agg #[.slice a0 L.logs.length cap0, .slice a1 L.body.length cap1, .slice a2 L.outs.length cap2], .agg #[.int .i64 p0, .int .i64 p1, .int .i64 p2, .int .i64 q0, .int .i64 q1, .int .i64 q2, .int .i64 r], .agg #[.int .i64 pc, .int .i64 st, .slice ka ops.length kc], .slice oa O.length oc] w (TakePost L ⟨p0, p1, p2, q0, q1, q2, r⟩ ⟨pc, st, ops⟩ O w) := by
  cases hl : layD L ⟨p0, p1, p2, q0, q1, q2, r⟩ ⟨pc, st, ops⟩ O with
  | false => exact ctake_no hM p0 p1 p2 q0 q1 q2 r pc st ops L O a0 a1 a2 ka oa cap0 cap1 cap2 kc oc w hL hK hO hl
  | true => exact ctake_yes hM hE p0 p1 p2 q0 q1 q2 r pc st ops L O a0 a1 a2 ka oa cap0 cap1 cap2 kc oc w hL hK hO hl
set_option maxHeartbeats 2000000 in
theorem ctakes_walk (hM : MayC) (hE : EdgesC) (p0 p1 p2 q0 q1 q2 r pc st : Int) (ops : List Kop) (L : Lp) (O : List Int) (a0 a1 a2 ka oa : Option Addr) (cap0 cap1 cap2 kc oc : Nat) (w : World) (hL : LoopV w (.agg #[.slice a0 L.logs.length cap0, .slice a1 L.body.length cap1, .slice a2 L.outs.length cap2]) L) (hK : OpsV w (.slice ka ops.length kc) ops) (hO : Ints w (.slice oa O.length oc) O) :
    Calls Try.prog 16 #[.agg #[.slice a0 L.logs.length cap0, .slice a1 L.body.length cap1, .slice a2 L.outs.length cap2], .agg #[.int .i64 p0, .int .i64 p1, .int .i64 p2, .int .i64 q0, .int .i64 q1, .int .i64 q2, .int .i64 r], .agg #[.int .i64 pc, .int .i64 st, .slice ka ops.length kc], .slice oa O.length oc] w fun e w' => e = .returned (.bool (takenD L ⟨p0, p1, p2, q0, q1, q2, r⟩ ⟨pc, st, ops⟩ O)) ∧ Below w.heap.size w w' := by
  have HBZ := hide (below_alloc3 w (.cells #[.slice a0 L.logs.length cap0, .slice a1 L.body.length cap1, .slice a2 L.outs.length cap2] 25) (.cells #[.int .i64 p0, .int .i64 p1, .int .i64 p2, .int .i64 q0, .int .i64 q1, .int .i64 q2, .int .i64 r] 28) (.cells #[.int .i64 pc, .int .i64 st, .slice ka ops.length kc] 40))
  have HS3 : Hid ((((w.alloc (.cells #[.slice a0 L.logs.length cap0, .slice a1 L.body.length cap1, .slice a2 L.outs.length cap2] 25)).alloc (.cells #[.int .i64 p0, .int .i64 p1, .int .i64 p2, .int .i64 q0, .int .i64 q1, .int .i64 q2, .int .i64 r] 28)).alloc (.cells #[.int .i64 pc, .int .i64 st, .slice ka ops.length kc] 40)).heap.size = w.heap.size + 1 + 1 + 1) := by show _ = _; simp
  have HTK := hide (ctake_any hM hE p0 p1 p2 q0 q1 q2 r pc st ops L O a0 a1 a2 ka oa cap0 cap1 cap2 kc oc (((w.alloc (.cells #[.slice a0 L.logs.length cap0, .slice a1 L.body.length cap1, .slice a2 L.outs.length cap2] 25)).alloc (.cells #[.int .i64 p0, .int .i64 p1, .int .i64 p2, .int .i64 q0, .int .i64 q1, .int .i64 q2, .int .i64 r] 28)).alloc (.cells #[.int .i64 pc, .int .i64 st, .slice ka ops.length kc] 40)) (hL.below HBZ.out) (hK.below HBZ.out) (hO.below HBZ.out))
  clear hL hK hO hM hE
  go_enter Try.func16, Try.ntmps16
  go_wp2_with fail
  refine HTK.out.mono ?_
  rintro e x1 ⟨pv, rfl, hb, -⟩
  have HBX := hide (HBZ.out.trans (hb.mono (by rw [HS3.out]; omega)))
  clear hb
  go_wp2_with fail
  go_ret
  exact ⟨rfl, HBX.out⟩
/-- the three arguments, opened -/
theorem cthree_open {w : World} {v kv ov : Value} {L : Lp} {K : Kn} {O : List Int} (hL : LoopV w v L) (hK : KernV w kv K) (hO : Ints w ov O) : ∃ a0 a1 a2 ka oa cap0 cap1 cap2 kc oc, v = .agg #[.slice a0 L.logs.length cap0, .slice a1 L.body.length cap1, .slice a2 L.outs.length cap2] ∧ kv = .agg #[.int .i64 K.pc, .int .i64 K.st, .slice ka K.ops.length kc] ∧ ov = .slice oa O.length oc ∧ OpsV w (.slice ka K.ops.length kc) K.ops := by
  obtain ⟨v0, v1, v2, rfl, ⟨a0, cap0, rfl, -⟩, ⟨a1, cap1, rfl, -⟩, ⟨a2, cap2, rfl, -⟩⟩ := hL
  obtain ⟨kl, rfl, hOp⟩ := hK
  have hOp' := hOp
  obtain ⟨ka, kc, rfl, -⟩ := hOp'
  obtain ⟨oa, oc, rfl, -⟩ := hO
  exact ⟨a0, a1, a2, ka, oa, cap0, cap1, cap2, kc, oc, rfl, rfl, rfl, hOp⟩
theorem ctakes_any (hM : MayC) (hE : EdgesC) : TakesC := by
  intro v kv ov t L K O w hL hK hO
  obtain ⟨a0, a1, a2, ka, oa, cap0, cap1, cap2, kc, oc, rfl, rfl, rfl, hOp⟩ := cthree_open hL hK hO
  exact ctakes_walk hM hE t.u0 t.u1 t.u2 t.w0 t.w1 t.w2 t.r K.pc K.st K.ops L O a0 a1 a2 ka oa cap0 cap1 cap2 kc oc w hL hOp hO
end Go.Proofs.Ytbpaffkkphacdab
