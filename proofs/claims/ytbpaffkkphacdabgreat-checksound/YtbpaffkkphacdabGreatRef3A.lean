/- Ref3A: texts that are built as one: Ref3Copy, Ref3Same, Ref3Is. -/
import Derived.Test.YtbpaffkkphacdabGreatLoopP
import Derived.Test.YtbpaffkkphacdabGreatBase
import Derived.Deep.QuietTactic
import Derived.BigQuiet
import Derived.Test.YtbpaffkkphacdabGreatMaths
/- The contract of the document's own copy of words: new rows of the same numbers; nothing that was there is changed. -/
namespace Go.Proofs.YtbpaffkkphacdabGreat
open Go.RowKit Go.Joins
set_option linter.unusedVariables false

theorem Tryz.i2 : (Tryz.prog.info? 2).map (fun i => (i.zero, i.size, i.bytes)) = some (some (.int .i64 0), 1, 8) := by kernel_rfl
theorem Tryz.i48 : (Tryz.prog.info? 48).map (fun i => (i.zero, i.size, i.bytes)) = some (some (.slice none 0 0), 1, 24) := by kernel_rfl

/-- the rows of words that a call owns: row i lies in block G i, has len i numbers f i and room for C i; no two share a block -/
def Inner (w : World) (base : Nat) (G C : Nat → Nat) (n : Nat) (len : Nat → Nat) (f : Nat → Nat → Int) : Prop :=
  (∀ i, i < n → base ≤ G i ∧ len i ≤ C i ∧ C i ≤ maxLen ∧ RowF w (G i) 2 (len i) (fun j => .int .i64 (f i j))) ∧ ∀ i j, i < n → j < n → i ≠ j → G i ≠ G j
def rowV (G C len : Nat → Nat) (i : Nat) : Value := .slice (some ⟨G i, 0, none⟩) (len i) (C i)

theorem Inner.keep {w w' : World} {base : Nat} {G C : Nat → Nat} {n : Nat} {len : Nat → Nat} {f : Nat → Nat → Int} (h : Inner w base G C n len f) (hb : ∀ i, i < n → w'.heap[G i]? = w.heap[G i]?) : Inner w' base G C n len f :=
  ⟨fun i hi => ⟨(h.1 i hi).1, (h.1 i hi).2.1, (h.1 i hi).2.2.1, (h.1 i hi).2.2.2.of_block (hb i hi)⟩, h.2⟩
theorem Inner.below {w w' : World} {base : Nat} {G C : Nat → Nat} {n : Nat} {len : Nat → Nat} {f : Nat → Nat → Int} (h : Inner w base G C n len f) (hb : Below w.heap.size w w') : Inner w' base G C n len f :=
  h.keep fun i hi => hb.block _ (h.1 i hi).2.2.2.lt
/-- one row more -/
theorem Inner.snoc {w : World} {base : Nat} {G C : Nat → Nat} {n : Nat} {len : Nat → Nat} {f : Nat → Nat → Int} (h : Inner w base G C n len f) (g c : Nat) (hg : base ≤ g) (hc : len n ≤ c) (hm : c ≤ maxLen)
    (hr : RowF w g 2 (len n) (fun j => .int .i64 (f n j))) (hd : ∀ i, i < n → G i ≠ g) :
    Inner w base (fun i => if i = n then g else G i) (fun i => if i = n then c else C i) (n + 1) len f := by
  refine ⟨fun i hi => ?_, fun i j hi hj hij => ?_⟩
  · by_cases e : i = n
    · subst e; simp only [if_true]; exact ⟨hg, hc, hm, hr⟩
    · simp only [if_neg e]; exact h.1 i (by omega)
  · by_cases e1 : i = n
    · by_cases e2 : j = n
      · omega
      · simp only [if_pos e1, if_neg e2]; exact fun h => hd j (by omega) h.symm
    · by_cases e2 : j = n
      · simp only [if_neg e1, if_pos e2]; exact hd i (by omega)
      · simp only [if_neg e1, if_neg e2]; exact h.2 i j (by omega) (by omega) hij
theorem rowV_snoc (G C len : Nat → Nat) (n g c : Nat) : ((List.range n).map (rowV G C len)) ++ [.slice (some ⟨g, 0, none⟩) (len n) c] = (List.range (n + 1)).map (rowV (fun i => if i = n then g else G i) (fun i => if i = n then c else C i) len) := by
  rw [List.range_succ, List.map_append]
  congr 1
  · refine List.map_congr_left fun i hi => ?_
    have hi2 := List.mem_range.1 hi
    have hne : i ≠ n := by omega
    simp [rowV, hne]
  · simp [rowV]
/-- the cells that an append of a row takes -/
theorem row_cells {w : World} {b o : Nat} {zs : List Int} (h : ∀ i, i < zs.length → w.cell? ⟨b, o + i, none⟩ = some (.int .i64 (nth zs i))) : ∀ j u, (zs.map (Value.int .i64))[j]? = some u → w.cell? ((⟨b, o, none⟩ : Addr).add j) = some u := by
  intro j u hu
  rw [List.getElem?_map] at hu
  have hj : j < zs.length := by
    by_cases hj : j < zs.length
    · exact hj
    · rw [List.getElem?_eq_none (by omega)] at hu; cases hu
  have ha : (⟨b, o, none⟩ : Addr).add j = ⟨b, o + j, none⟩ := by simp [Addr.add]
  rw [ha, h j hj]
  rw [List.getElem?_eq_getElem hj] at hu
  have h2 : Value.int .i64 zs[j] = u := Option.some.inj hu
  rw [← h2]
  simp [nth, List.getD, hj]
theorem ints_one (zs : List Int) : ∀ u ∈ zs.map (Value.int .i64), u.oneCell' = true := by
  intro u hu
  obtain ⟨z, _, rfl⟩ := List.mem_map.1 hu
  rfl
theorem getD_ints (zs : List Int) (i : Nat) (h : i < zs.length) : (zs.map (Value.int .i64)).getD i (.bool false) = .int .i64 (nth zs i) := by
  simp [List.getD, nth, h]

theorem below_empty {w w1 : World} {e : TypeId} {n c : Nat} (h : (w.alloc (.cells #[] e)).grownBy w1 (Value.ownBlock (.slice (some ⟨w.heap.size, 0, none⟩) n c))) : Below w.heap.size w w1 :=
  (below_alloc1 w (.cells #[] e)).grown h (by simp) (fun k hk => by
    have : w.heap.size = k := by simpa [Value.ownBlock] using hk
    omega)
theorem one_cell (w : World) (x : Value) (t : TypeId) : ∀ (j : Nat) (u : Value), [x][j]? = some u → (w.alloc (.cells #[x] t)).cell? ((⟨w.heap.size, 0, none⟩ : Addr).add j) = some u := by
  intro j u hj
  match j, hj with
  | 0, hj =>
    have h : x = u := by simpa using hj
    subst h
    simp [Addr.add]
theorem copy_step {w wr w1 w2 : World} {G C len : Nat → Nat} {f : Nat → Nat → Int} {k g1 c1 m : Nat} {v v2 : Value} {zs : List Int} {X : Obj} (hbel : Below w.heap.size w wr)
    (ho : wr.ownsRow w.heap.size 48 1 v k ((List.range k).map (rowV G C len))) (hi : Inner wr w.heap.size G C k len f) (hb1 : Below wr.heap.size wr w1) (hg1 : wr.heap.size ≤ g1) (hm : m = len k) (hc1 : m ≤ c1) (hx1 : c1 ≤ maxLen)
    (hr1 : RowF w1 g1 2 m (fun j => ([] ++ zs.map (Value.int .i64)).getD j (.bool false))) (hz : zs.length = len k) (hf : ∀ j, f k j = nth zs j)
    (ho2 : w2.ownsRow w.heap.size 48 1 v2 (k + 1) ((List.range k).map (rowV G C len) ++ [.slice (some ⟨g1, 0, none⟩) (len k) c1])) (hg2 : (w1.alloc X).grownBy w2 v.ownBlock) :
    Below w.heap.size w w2 ∧ ∃ G C, w2.ownsRow w.heap.size 48 1 v2 (k + 1) ((List.range (k + 1)).map (rowV G C len)) ∧ Inner w2 w.heap.size G C (k + 1) len f := by
  subst hm
  have hb2 : Below wr.heap.size wr (w1.alloc X) := hb1.alloc hb1.size _
  have hsz := hbel.size
  have hbw : Below w.heap.size w w2 := (hbel.trans (hb2.mono hsz)).grown hg2 (by have := hb2.size; omega) (own_block_ge ho)
  have ho' := own_below ho hb2
  have hi' := hi.below hb2
  have hr1' := hr1.alloc X
  have hin2 : Inner w2 w.heap.size G C k len f := hi'.keep fun i hik => hg2.block _ (hi'.1 i hik).2.2.2.lt (own_apart ho' (hi'.1 i hik).2.2.2 (by decide))
  have hr2 : RowF w2 g1 2 (len k) (fun j => .int .i64 (f k j)) := by
    refine (hr1'.grown hg2 (own_apart ho' hr1' (by decide))).congr fun j hj => ?_
    rw [hf j, List.nil_append]
    exact getD_ints zs j (by omega)
  refine ⟨hbw, fun i => if i = k then g1 else G i, fun i => if i = k then c1 else C i, ?_, ?_⟩
  · rw [← rowV_snoc]; exact ho2
  · exact hin2.snoc g1 c1 (by omega) hc1 hx1 hr2 (fun i hik => by have := (hi.1 i hik).2.2.2.lt; omega)
set_option maxHeartbeats 1000000 in
theorem copy_any (v : Value) (rs : List (List Int)) (w : World) (h : IntRows w v rs) (h3 : rs.length ≤ 3) (h32 : ∀ i, i < rs.length → 0 < (rowAt rs i).length ∧ (rowAt rs i).length ≤ 32) :
    Calls Tryz.prog 53 #[v] w fun e w' => ∃ m G C, e = .returned m ∧ w'.ownsRow w.heap.size 48 1 m rs.length ((List.range rs.length).map (rowV G C (fun i => (rowAt rs i).length))) ∧
      Inner w' w.heap.size G C rs.length (fun i => (rowAt rs i).length) (fun i j => nth (rowAt rs i) j) ∧ Below w.heap.size w w' := by
  obtain ⟨a, cap, rfl, hl, hm, hc⟩ := h
  unfold maxLen at hm
  obtain ⟨i0, hi, hz0, hz1, hz2⟩ := info_parts Tryz.i2
  obtain ⟨j0, ji, jz0, jz1, jz2⟩ := info_parts Tryz.i48
  go_enter Tryz.func53, Tryz.ntmps53
  go_wp2_with fail
  go_loopw [3, 4] (fun v i wr => ∃ k : Nat, k ≤ rs.length ∧ i = .int .i64 k ∧ Below w.heap.size w wr ∧ ∃ G C, wr.ownsRow w.heap.size 48 1 v k ((List.range k).map (rowV G C (fun i => (rowAt rs i).length))) ∧
      Inner wr w.heap.size G C k (fun i => (rowAt rs i).length) (fun i j => nth (rowAt rs i) j)) (fun _ i _ => rs.length - (intOf i).toNat)
  case atStart => exact ⟨0, Nat.zero_le _, rfl, Below.refl _ _, fun _ => 0, fun _ => 0, World.ownsRow_nil _ _ _ _, fun i hi => absurd hi (Nat.not_lt_zero _), fun i j hi => absurd hi (Nat.not_lt_zero _)⟩
  case round =>
    obtain ⟨k, hk, rfl, hbel, G, C, hown, hin⟩ := hrel
    by_cases hlt : k < rs.length
    · obtain ⟨b, off, rfl, hb, hrow⟩ := hc (by omega)
      obtain ⟨u, c1, ⟨ra, rc, rfl, rl, rm, rr, rcell⟩⟩ := hrow k hlt
      have hk32 := h32 k hlt
      obtain ⟨b2, o2, rfl, hb2, hcell2⟩ := rcell hk32.1
      rw [← bcell hbel _ _ hb] at c1
      have hki : (k : Int) < (rs.length : Int) := by omega
      have hsz := hbel.size
      have hbr : b < wr.heap.size := by omega
      have hbe : Below wr.heap.size wr (wr.alloc (.cells #[] 2)) := below_alloc1 _ _
      have N1 : Hid (((rowAt rs k).map (Value.int .i64)).length = (rowAt rs k).length * 1) := by show _ = _; simp
      have N2 : Hid (∀ j u, ((rowAt rs k).map (Value.int .i64))[j]? = some u → (wr.alloc (.cells #[] 2)).cell? ((⟨b2, o2, none⟩ : Addr).add j) = some u) := row_cells (fun i hi => by
        rw [bcell hbe _ _ (by omega), bcell hbel _ _ hb2]; exact hcell2 i hi)
      have N3 := hide (ints_one (rowAt rs k))
      have HO := hide hown
      have HI := hide hin
      have HC := hide hcell2
      clear hown hin hcell2 rr hrow hc rcell
      go_wp2_with (first
        | (at_builtin; refine wpList_append_own _ rfl (.tmp 12) (.tmp 16) 48 rfl wr.heap.size 2 i0 (.int .i64 0) 1 8 Tryz.underlying48 hi hz0 hz1 hz2 rfl (by decide) _ _ _ rfl (own_empty wr 2) ⟨b2, o2, none⟩ _ rc _ rfl N1.out N2.out N3.out (by unfold maxLen; omega) (by omega) (by simp) ?_; intro v1 w1 hown1 hgrow1 hnil1; obtain ⟨g1, cap1, rfl, hg1, hcp1, hmx1, hrow1⟩ := own_parts hown1 (.inr (by omega)); go_must (have HB1 := below_empty hgrow1))
        | (at_builtin; refine wpList_append_own _ rfl (.tmp 11) (.tmp 18) 32 rfl w.heap.size 48 j0 (.slice none 0 0) 1 24 Tryz.underlying32 ji jz0 jz1 jz2 rfl (by decide) _ _ _ rfl (own_below HO.out (HB1.alloc HB1.size _)) ⟨w1.heap.size, 0, none⟩ 1 1 [.slice (some ⟨g1, 0, none⟩) (rowAt rs k).length cap1] rfl rfl ?c1 (by intro u hu; simp at hu; subst hu; rfl) (by unfold maxLen; omega) (by omega) (by have := HB1.size; simp; omega) ?_; rotate_right; intro v2 w2 hown2 hgrow2 hnil2))
      case c1 => exact one_cell _ _ _
      go_roundw
      case rel =>
        obtain ⟨hbw, G', C', r1, r2⟩ := copy_step (zs := rowAt rs k) (f := fun i j => nth (rowAt rs i) j) hbel HO.out HI.out HB1 hg1 (by simp) hcp1 hmx1 hrow1 rfl (fun j => rfl) hown2 hgrow2
        exact ⟨k + 1, by omega, by go_num, hbw, G', C', r1, r2⟩
      case measure => simp [intOf]; omega
    · have e : k = rs.length := by omega
      subst e
      have HO := hide hown
      have HI := hide hin
      clear hown hin hc hlt
      go_wp2_with fail
      go_ret
      exact ⟨_, G, C, rfl, HO.out, HI.out, hbel⟩
end Go.Proofs.YtbpaffkkphacdabGreat
/- Contracts of the document's own comparison of results: it returns whether the numbers are one; the world is as it was but for draws. -/
namespace Go.Proofs.YtbpaffkkphacdabGreat
open Go.RowKit Go.Joins
set_option linter.unusedVariables false

theorem nth_ext {a b : List Int} (hl : a.length = b.length) (h : ∀ j, j < a.length → nth a j = nth b j) : a = b := by
  refine List.ext_getElem hl fun i h1 h2 => ?_
  have := h i h1
  simpa [nth, List.getD, h1, h2] using this
theorem row_ext {a b : List (List Int)} (hl : a.length = b.length) (h : ∀ j, j < a.length → rowAt a j = rowAt b j) : a = b := by
  refine List.ext_getElem hl fun i h1 h2 => ?_
  have := h i h1
  simpa [rowAt, List.getD, h1, h2] using this

theorem draws_on {w wr : World} {m : Nat} (h : ∃ n, wr = w.drewN n) : ∃ n, wr.drewN m = w.drewN n := by
  obtain ⟨n, rfl⟩ := h
  exact ⟨_, World.drewN_drewN _ _ _⟩

set_option maxHeartbeats 400000 in
theorem numbers_any (va vb : Value) (za zb : List Int) (w : World) (ha : Ints w va za) (hb : Ints w vb zb) :
    Calls Tryz.prog 15 #[va, vb] w fun e w' => e = .returned (.bool (decide (za = zb))) ∧ ∃ n, w' = w.drewN n := by
  obtain ⟨aa, ac, rfl, al, am, ar, acell⟩ := ha
  obtain ⟨ba, bc, rfl, bl, bm, br, bcell⟩ := hb
  unfold maxLen at am bm
  by_cases hl : za.length = zb.length
  · have h1 : ((za.length : Int) != (zb.length : Int)) = false := by simp; omega
    have HL := hide hl
    clear hl
    go_enter Tryz.func15, Tryz.ntmps15
    go_wp2_with fail
    go_loopw [5] (fun i wr => ∃ k n : Nat, k ≤ za.length ∧ i = .int .i64 k ∧ wr = w.drewN n ∧ ∀ j, j < k → nth za j = nth zb j) (fun i _ => za.length - (intOf i).toNat)
    case atStart => exact ⟨0, 0, Nat.zero_le _, rfl, rfl, fun j hj => absurd hj (Nat.not_lt_zero _)⟩
    case round =>
      obtain ⟨k, n, hk, rfl, rfl, hall⟩ := hrel
      have HA := hide hall
      clear hall
      by_cases hlt : k < za.length
      · have hltb : k < zb.length := by have := HL.out; omega
        obtain ⟨b1, o1, rfl, hb1, hc1⟩ := acell (by omega)
        obtain ⟨b2, o2, rfl, hb2, hc2⟩ := bcell (by omega)
        have c1 := hc1 k hlt
        have c2 := hc2 k hltb
        have i1 : (k : Int) < (za.length : Int) := by omega
        have i2 : (k : Int) < (zb.length : Int) := by omega
        clear hc1 hc2 acell bcell ar br
        by_cases hx : nth za k = nth zb k
        · have HX := hide hx
          have hne : (nth za k != nth zb k) = false := by simpa using hx
          clear hx
          go_wp2_with fail
          go_quiet ((fail))
          go_wp2_with fail
          go_roundw
          case rel => exact ⟨k + 1, _, by omega, by go_num, rfl, fun j hj => by
            by_cases e : j = k
            · rw [e]; exact HX.out
            · exact HA.out j (by omega)⟩
          case measure => simp [intOf]; omega
        · have HX : Hid (decide (za = zb) = false) := decide_eq_false (fun e => hx (by rw [e]))
          have hne : (nth za k != nth zb k) = true := by simpa using hx
          clear hx
          go_wp2_with fail
          go_quiet ((fail))
          go_wp2_with fail
          go_ret
          exact ⟨ret_bool HX.out.symm, _, World.drewN_drewN _ _ _⟩
      · have HX : Hid (decide (za = zb) = true) := decide_eq_true (nth_ext HL.out (fun j hj => HA.out j (by omega)))
        clear HA acell bcell ar br
        go_wp2_with fail
        go_ret
        exact ⟨ret_bool HX.out.symm, _, rfl⟩
  · have h1 : ((za.length : Int) != (zb.length : Int)) = true := by simp; omega
    have HX : Hid (decide (za = zb) = false) := decide_eq_false (fun e => hl (by rw [e]))
    clear hl acell bcell ar br
    go_enter Tryz.func15, Tryz.ntmps15
    go_wp2_with fail
    go_ret
    exact ⟨ret_bool HX.out.symm, 0, rfl⟩

set_option maxHeartbeats 400000 in
theorem words_any (va vb : Value) (ra rb : List (List Int)) (w : World) (ha : IntRows w va ra) (hb : IntRows w vb rb) :
    Calls Tryz.prog 16 #[va, vb] w fun e w' => e = .returned (.bool (decide (ra = rb))) ∧ ∃ n, w' = w.drewN n := by
  obtain ⟨aa, ac, rfl, al, am, acell⟩ := ha
  obtain ⟨ba, bc, rfl, bl, bm, bcell⟩ := hb
  unfold maxLen at am bm
  by_cases hl : ra.length = rb.length
  · have h1 : ((ra.length : Int) != (rb.length : Int)) = false := by simp; omega
    have HL := hide hl
    clear hl
    go_enter Tryz.func16, Tryz.ntmps16
    go_wp2_with fail
    go_loopw [5] (fun i wr => ∃ k : Nat, k ≤ ra.length ∧ i = .int .i64 k ∧ (∃ n, wr = w.drewN n) ∧ ∀ j, j < k → rowAt ra j = rowAt rb j) (fun i _ => ra.length - (intOf i).toNat)
    case atStart => exact ⟨0, Nat.zero_le _, rfl, ⟨0, rfl⟩, fun j hj => absurd hj (Nat.not_lt_zero _)⟩
    case round =>
      obtain ⟨k, hk, rfl, hw, hall⟩ := hrel
      have HA := hide hall
      have HW := hide hw
      clear hall hw
      by_cases hlt : k < ra.length
      · have hltb : k < rb.length := by have := HL.out; omega
        obtain ⟨b1, o1, rfl, hb1, hc1⟩ := acell (by omega)
        obtain ⟨b2, o2, rfl, hb2, hc2⟩ := bcell (by omega)
        obtain ⟨u1, c1, g1⟩ := hc1 k hlt
        obtain ⟨u2, c2, g2⟩ := hc2 k hltb
        have i1 : (k : Int) < (ra.length : Int) := by omega
        have i2 : (k : Int) < (rb.length : Int) := by omega
        have c1' : wr.cell? ⟨b1, o1 + k, none⟩ = some u1 := by obtain ⟨n, rfl⟩ := HW.out; exact c1
        have c2' : wr.cell? ⟨b2, o2 + k, none⟩ = some u2 := by obtain ⟨n, rfl⟩ := HW.out; exact c2
        have g1' : Ints wr u1 (rowAt ra k) := by obtain ⟨n, rfl⟩ := HW.out; exact g1
        have g2' : Ints wr u2 (rowAt rb k) := by obtain ⟨n, rfl⟩ := HW.out; exact g2
        clear c1 c2
        obtain ⟨x1, y1, rfl, -, -, -, -⟩ := id g1
        obtain ⟨x2, y2, rfl, -, -, -, -⟩ := id g2
        clear hc1 hc2 acell bcell g1 g2
        by_cases hx : rowAt ra k = rowAt rb k
        · have HX := hide hx
          have hne : decide (rowAt ra k = rowAt rb k) = true := decide_eq_true hx
          clear hx
          go_wp2_with fail
          go_quiet ((go_at_call 15; exact Calls.quiet_of (numbers_any _ _ (rowAt ra k) (rowAt rb k) _ (by exact g1') (by exact g2'))))
          go_wp2_with fail
          go_roundw
          case rel => exact ⟨k + 1, by omega, by go_num, draws_on HW.out, fun j hj => by
            by_cases e : j = k
            · rw [e]; exact HX.out
            · exact HA.out j (by omega)⟩
          case measure => simp [intOf]; omega
        · have HX : Hid (decide (ra = rb) = false) := decide_eq_false (fun e => hx (by rw [e]))
          have hne : decide (rowAt ra k = rowAt rb k) = false := decide_eq_false hx
          clear hx
          go_wp2_with fail
          go_quiet ((go_at_call 15; exact Calls.quiet_of (numbers_any _ _ (rowAt ra k) (rowAt rb k) _ (by exact g1') (by exact g2'))))
          go_wp2_with fail
          go_ret
          exact ⟨ret_bool HX.out.symm, draws_on HW.out⟩
      · have HX : Hid (decide (ra = rb) = true) := decide_eq_true (row_ext HL.out (fun j hj => HA.out j (by omega)))
        clear HA acell bcell
        go_wp2_with fail
        go_ret
        exact ⟨ret_bool HX.out.symm, HW.out⟩
  · have h1 : ((ra.length : Int) != (rb.length : Int)) = true := by simp; omega
    have HX : Hid (decide (ra = rb) = false) := decide_eq_false (fun e => hl (by rw [e]))
    clear hl acell bcell
    go_enter Tryz.func16, Tryz.ntmps16
    go_wp2_with fail
    go_ret
    exact ⟨ret_bool HX.out.symm, 0, rfl⟩

end Go.Proofs.YtbpaffkkphacdabGreat
/- The contract of the document's own reading of a Ref: what it is in a turn; nothing that was there is changed. -/
namespace Go.Proofs.YtbpaffkkphacdabGreat
open Go.RowKit Go.Joins
set_option linter.unusedVariables false

theorem i64_is (x : Int) (h0 : -9223372036854775808 ≤ x) (h1 : x ≤ 9223372036854775807) : IntKind.i64.wrap x = x := by rw [IntKind.wrap_i64]; omega

/-- v leads to rows of n numbers each: the first T of its len cells read as val -/
def GridR (w : World) (v : Value) (len T n : Nat) (val : Nat → Nat → Int) : Prop :=
  ∃ g cap, v = .slice (some ⟨g, 0, none⟩) len cap ∧ len ≤ cap ∧ cap ≤ maxLen ∧ g < w.heap.size ∧
    ∀ i, i < T → ∃ b c, w.cell? ⟨g, i, none⟩ = some (.slice (some ⟨b, 0, none⟩) n c) ∧ n ≤ c ∧ c ≤ maxLen ∧ b < w.heap.size ∧ ∀ k, k < n → w.cell? ⟨b, k, none⟩ = some (.int .i64 (val i k))
theorem GridR.below {w w' : World} {v : Value} {len T n : Nat} {val : Nat → Nat → Int} (h : GridR w v len T n val) (hb : Below w.heap.size w w') : GridR w' v len T n val := by
  obtain ⟨g, cap, e, h1, h2, h3, h4⟩ := h
  refine ⟨g, cap, e, h1, h2, Nat.lt_of_lt_of_le h3 hb.size, fun i hi => ?_⟩
  obtain ⟨b, c, h5, h6, h7, h8, h9⟩ := h4 i hi
  exact ⟨b, c, by rw [bcell hb _ _ h3]; exact h5, h6, h7, Nat.lt_of_lt_of_le h8 hb.size, fun k hk => by rw [bcell hb _ _ h8]; exact h9 k hk⟩

set_option maxHeartbeats 400000 in
theorem is_any (sv gv : Value) (B M : List (List Int)) (len n t : Nat) (val : Nat → Nat → Int) (x y : Int) (w : World) (hS : StateV w sv B M) (hG : GridR w gv len (t + 1) n val)
    (ht : t < len) (hl : len ≤ 200) (hx0 : 0 ≤ x) (hx : x < n) (hn : n ≤ 16) (hy0 : 0 ≤ y) (hy : y ≤ 3) (hB : B.length = n) (hB3 : ∀ i, i < n → (rowAt B i).length = 3) :
    Calls Tryz.prog 57 #[sv, gv, .agg #[.int .i64 x, .int .i64 y], .int .i64 t] w fun e w' => e = .returned (.int .i64 (refV B val t x y)) ∧ Below w.heap.size w w' := by
  obtain ⟨a, rfl⟩ := Int.eq_ofNat_of_zero_le hx0
  obtain ⟨d, rfl⟩ := Int.eq_ofNat_of_zero_le hy0
  obtain ⟨s0, s1, rfl, hr0, -⟩ := hS
  obtain ⟨ba, bc, rfl, bl, bm, bcell'⟩ := hr0
  obtain ⟨g, cap, rfl, gl, gm, gz, grow⟩ := hG
  clear hx0 hy0
  unfold maxLen at bm gm
  by_cases hd : d ≤ t
  · obtain ⟨i, hi⟩ : ∃ i, t = d + i := ⟨t - d, by omega⟩
    have HV : Hid (refV B val t a d = val i a) := by
      show refV B val t a d = val i a
      unfold refV; rw [if_pos (by omega), show ((t : Int) - (d : Int)).toNat = i from by omega, Int.toNat_natCast]
    obtain ⟨b, c, c1, c2, c3, c4, c5⟩ := grow i (by omega)
    have ca := c5 a (by omega)
    have e1 : (t : Int) - (d : Int) = (i : Int) := by omega
    have e2 : (i : Int) < (len : Int) := by omega
    have e3 : (a : Int) < (n : Int) := by omega
    have e4 : (0 : Int) ≤ (i : Int) := by omega
    unfold maxLen at c3
    clear c5 grow bcell' hi hB3 hB
    go_enter Tryz.func57, Tryz.ntmps57
    go_wp2_with fail
    go_quiet ((fail))
    go_wp2_with fail
    go_ret
    exact ⟨ret_int HV.out.symm, (below_alloc2 _ _ _).trans (below_draws _ _ _)⟩
  · obtain ⟨i, hi⟩ : ∃ i, d = t + 1 + i := ⟨d - t - 1, by omega⟩
    have HV : Hid (refV B val t a d = nth (rowAt B a) i) := by
      show refV B val t a d = nth (rowAt B a) i
      unfold refV; rw [if_neg (by omega), show ((d : Int) - (t : Int) - 1).toNat = i from by omega, Int.toNat_natCast]
    obtain ⟨b, o, rfl, hb, hrow⟩ := bcell' (by omega)
    obtain ⟨u, c1, ⟨ra, rc, rfl, rl, rm, rr, rcell⟩⟩ := hrow a (by omega)
    have h3 := hB3 a (by omega)
    obtain ⟨b2, o2, rfl, hb2, hrow2⟩ := rcell (by omega)
    have ci := hrow2 i (by omega)
    have e1 : (t : Int) - (d : Int) = -((i : Int) + 1) := by omega
    have e2 : (i : Int) < ((rowAt B a).length : Int) := by omega
    have e3 : (a : Int) < (B.length : Int) := by omega
    have e4 : ¬ (0 : Int) ≤ -((i : Int) + 1) := by omega
    unfold maxLen at rm
    clear hrow2 hrow rcell bcell' grow hi hB3 hB rr
    go_enter Tryz.func57, Tryz.ntmps57
    go_wp2_with fail
    go_ret
    exact ⟨ret_int HV.out.symm, below_alloc2 _ _ _⟩

end Go.Proofs.YtbpaffkkphacdabGreat
