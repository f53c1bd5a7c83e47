/- The contracts of the document's own number, numbers and at: eight bytes a number, the highest first. -/
import Derived.Test.YtjdbmldkgjcniabCodeMath
import Derived.Test.YtjdbmldkgjcniabSchedA
import Derived.Test.YtjdbmldkgjcniabKernS
import Derived.Test.YtjdbmldkgjcniabNums
import Derived.Laws.BytesArg
namespace Go.Proofs.Ytjdbmldkgjcniab
open Go.RowKit Go.Joins
set_option linter.unusedVariables false
set_option linter.unusedSimpArgs false
set_option maxRecDepth 8192

/-- a number, so many bytes taken off -/
def shN (n : Int) : Nat → Int
  | 0 => n
  | d + 1 => shN n d / 256
/-- byte j of the eight -/
def byteN (n : Int) (j : Nat) : Int := shN n (7 - j) % 256
theorem div2 (n a b : Int) (ha : 0 ≤ a) : n / a / b = n / (a * b) := Int.ediv_ediv_of_nonneg ha
theorem numB_byte (n : Int) : numB n = (List.range 8).map (byteN n) := by
  show _ = [shN n 7 % 256, shN n 6 % 256, shN n 5 % 256, shN n 4 % 256, shN n 3 % 256, shN n 2 % 256, shN n 1 % 256, shN n 0 % 256]
  unfold numB
  simp only [shN]
  rw [div2 n 256 256 (by decide), div2 n (256 * 256) 256 (by decide), div2 n (256 * 256 * 256) 256 (by decide), div2 n (256 * 256 * 256 * 256) 256 (by decide), div2 n (256 * 256 * 256 * 256 * 256) 256 (by decide), div2 n (256 * 256 * 256 * 256 * 256 * 256) 256 (by decide)]
  rfl
theorem byteN_range (n : Int) (j : Nat) : 0 ≤ byteN n j ∧ byteN n j < 256 := ⟨Int.emod_nonneg _ (by decide), Int.emod_lt_of_pos _ (by decide)⟩
theorem shN_range {n : Int} (h0 : -9223372036854775808 ≤ n) (h1 : n ≤ 9223372036854775807) : ∀ d, -9223372036854775808 ≤ shN n d ∧ shN n d ≤ 9223372036854775807 := by
  intro d
  induction d with
  | zero => exact ⟨h0, h1⟩
  | succ d ih =>
    have h2 := Int.mul_ediv_add_emod (shN n d) 256
    have h3 := Int.emod_nonneg (shN n d) (show (256 : Int) ≠ 0 by decide)
    have h4 := Int.emod_lt_of_pos (shN n d) (show (0 : Int) < 256 by decide)
    show _ ≤ shN n d / 256 ∧ shN n d / 256 ≤ _
    omega
theorem str_add (xs ys : List Int) : strOfNums xs ++ strOfNums ys = strOfNums (xs ++ ys) := by
  apply ByteArray.ext
  apply Array.toList_inj.1
  rw [strOfNums_data, List.map_append]
  simp [strOfNums]
theorem numB_len (n : Int) : (numB n).length = 8 := rfl
set_option maxHeartbeats 4000000 in
theorem number_any (n : Int) (w : World) (h0 : -9223372036854775808 ≤ n) (h1 : n ≤ 9223372036854775807) :
    Calls Try.prog 60 #[.int .i64 n] w fun e w' => e = .returned (.string (strOfNums (numB n))) ∧ Below w.heap.size w w' := by
  have HR := hide (shN_range h0 h1)
  have HSTEP : Hid (∀ d, shN n (d + 1) = shN n d / 256) := fun d => rfl
  have HCONV : Hid (∀ W : World, (∀ j, j < 8 → W.cell? ⟨w.heap.size, j, none⟩ = some (.int .u8 (byteN n j))) → (convert 56 9 (.slice (some ⟨w.heap.size, 0, none⟩) 8 8)).run Try.prog W = .ok (.string (strOfNums (numB n))) W) := fun W hW => by
    refine run_convert_bytes_arg W 56 5 Try.underlying56 Try.underlying5 w.heap.size 0 8 8 (numB n) (numB_len n) (fun i hi => ?_) 9 Try.underlying9
    rw [Nat.zero_add, hW i hi, numB_byte]
    simp [List.getD, hi]
  have HZ : Hid (RowF (w.alloc (.cells #[.int .u8 0, .int .u8 0, .int .u8 0, .int .u8 0, .int .u8 0, .int .u8 0, .int .u8 0, .int .u8 0] 146)) w.heap.size 146 8 (fun j => .int .u8 (if 8 ≤ j then byteN n j else 0))) := RowF.made _ _ _ 8 _ (by simp) (fun i hi => by
    rw [if_neg (by omega)]
    obtain rfl | rfl | rfl | rfl | rfl | rfl | rfl | rfl : i = 0 ∨ i = 1 ∨ i = 2 ∨ i = 3 ∨ i = 4 ∨ i = 5 ∨ i = 6 ∨ i = 7 := by omega
    all_goals rfl)
  go_enter Try.func60, Try.ntmps60
  go_wp2_with fail
  go_loopw [0, 4] (fun nv kv wr => ∃ d : Nat, d ≤ 8 ∧ nv = .int .i64 (shN n d) ∧ kv = .int .i64 (7 - (d : Int)) ∧ Below w.heap.size w wr ∧ RowF wr w.heap.size 146 8 (fun j => .int .u8 (if 8 - d ≤ j then byteN n j else 0))) (fun _ kv _ => (intOf kv + 1).toNat)
  case atStart => exact ⟨0, by omega, rfl, rfl, below_alloc1 _ _, HZ.out⟩
  case round =>
    clear HZ
    obtain ⟨d, hd, rfl, rfl, hbel, hrow⟩ := hrel
    have HB := hide hbel
    have HROW := hide hrow
    by_cases hd8 : d < 8
    · have hk0 : (0 : Int) ≤ 7 - (d : Int) := by omega
      obtain ⟨s0, s1⟩ := HR.out d
      have hst := HSTEP.out d
      have hmd := Int.mul_ediv_add_emod (shN n d) 256
      have hm0 := Int.emod_nonneg (shN n d) (show (256 : Int) ≠ 0 by decide)
      have hm1 := Int.emod_lt_of_pos (shN n d) (show (0 : Int) < 256 by decide)
      obtain ⟨j7, hj7⟩ : ∃ j7 : Nat, 7 - (d : Int) = (j7 : Int) := ⟨7 - d, by omega⟩
      have hj8 : j7 < 8 := by omega
      have hjd : j7 = 7 - d := by omega
      have HBY : Hid (byteN n j7 = shN n d % 256) := by show shN n (7 - j7) % 256 = _; rw [show 7 - j7 = d by omega]
      have hdv : (shN n d - shN n d % 256).tdiv 256 = shN n d / 256 := by
        have e1 : shN n d - shN n d % 256 = 256 * (shN n d / 256) := by omega
        rw [e1, Int.mul_tdiv_cancel_left _ (by decide)]
      have hneg := tmod_neg (shN n d) 256 (by decide)
      have hpos := tmod_pos (shN n d) 256 (by decide)
      have htl := Int.tmod_lt_of_pos (shN n d) (show (0 : Int) < 256 by decide)
      rw [hj7]
      rw [← hst] at hdv hmd
      obtain ⟨nx, hnx⟩ : ∃ nx, shN n (d + 1) = nx := ⟨_, rfl⟩
      rw [hnx] at hdv hmd
      have HNX := hide hnx
      obtain ⟨sd, hsd⟩ : ∃ sd, shN n d = sd := ⟨_, rfl⟩
      rw [hsd] at s0 s1 hdv hmd hm0 hm1 hneg hpos htl HBY ⊢
      obtain ⟨bt, hbt⟩ : ∃ bt, sd % 256 = bt := ⟨_, rfl⟩
      rw [hbt] at hdv hmd hm0 hm1 hneg hpos HBY
      obtain ⟨rm, hrm⟩ : ∃ rm, sd.tmod 256 = rm := ⟨_, rfl⟩
      rw [hrm] at hneg hpos htl
      have hc := hrow.cell hj8
      have hf := hrow.frozen j7
      have hz := hrow.lt
      have hu8 : IntKind.u8.wrap bt = bt := by rw [IntKind.wrap_u8]; omega
      have hq1 : wrap64 (sd - bt) = sd - bt := by unfold wrap64; omega
      have hq2 : wrap64 nx = nx := by unfold wrap64; omega
      have hji : (j7 : Int) < 8 := by omega
      have hv1 : wrap64 bt = bt := by unfold wrap64; omega
      have hv2 : bt % 256 = bt := Int.emod_eq_of_lt hm0 hm1
      have hrow2 : RowF (wr.setCell ⟨w.heap.size, j7, none⟩ (.int .u8 bt)) w.heap.size 146 8 (fun j => .int .u8 (if 8 - (d + 1) ≤ j then byteN n j else 0)) := (hrow.set j7 (.int .u8 bt) hj8).congr fun j hj => by
        by_cases e : j = j7
        · rw [if_pos e, if_pos (by omega), e, HBY.out]
        · rw [if_neg e]
          by_cases e2 : 8 - d ≤ j
          · rw [if_pos e2, if_pos (by omega)]
          · rw [if_neg e2, if_neg (by omega)]
      have HROW2 := hide hrow2
      have HJ7 := hide hj7
      clear hst hnx hsd hbt hrow hrow2 hbel hmd hjd hj7
      by_cases hn : rm < 0
      · have hr2 := hneg hn
        have hr3 : wrap64 (rm + 256) = bt := by unfold wrap64; omega
        have hr4 : wrap64 rm = rm := by unfold wrap64; omega
        have hq3 : rm + 256 = bt := by omega
        clear hneg hpos hr2 hm0 hm1
        go_wp2_with fail
        go_roundw
        case rel => exact ⟨d + 1, by omega, by rw [HNX.out]; first | rw [hq2] | rfl, by rw [show (7 : Int) - ((d + 1 : Nat) : Int) = (j7 : Int) - 1 by have := HJ7.out; omega], HB.out.setCell (Nat.le_refl _) _, HROW2.out⟩
        case measure => first | (simp [intOf]; omega) | simp [intOf]
      · have hr2 := hpos (by omega)
        have hr4 : wrap64 rm = rm := by unfold wrap64; omega
        subst hr2
        clear hneg hpos hm0 hm1
        go_wp2_with fail
        go_roundw
        case rel => exact ⟨d + 1, by omega, by rw [HNX.out]; first | rw [hq2] | rfl, by rw [show (7 : Int) - ((d + 1 : Nat) : Int) = (j7 : Int) - 1 by have := HJ7.out; omega], HB.out.setCell (Nat.le_refl _) _, HROW2.out⟩
        case measure => first | (simp [intOf]; omega) | simp [intOf]
    · have e : d = 8 := by omega
      subst e
      have hk0 : ¬ (0 : Int) ≤ 7 - (8 : Nat) := by omega
      have hcs : ∀ j, j < 8 → wr.cell? ⟨w.heap.size, j, none⟩ = some (.int .u8 (byteN n j)) := fun j hj => by
        have h := hrow.cell hj
        rw [if_pos (by omega)] at h
        exact h
      have hcv := HCONV.out wr hcs
      have hz := hrow.lt
      clear hrow hbel hcs HCONV
      go_wp2_with fail
      exact bodyPost_ret (v := .string (strOfNums (numB n))) (by simp [results, Try.results60, go_sem]) rfl ⟨rfl, HB.out⟩

theorem nums_take (l : List Int) (k : Nat) (h : k < l.length) : bytesW (l.take k) ++ numB (nth l k) = bytesW (l.take (k + 1)) := by
  unfold bytesW
  rw [List.take_add_one, List.getElem?_eq_getElem h, List.flatMap_append]
  have e : nth l k = l[k] := by unfold nth; rw [List.getD, List.getElem?_eq_getElem h]; rfl
  rw [e]
  simp
set_option maxHeartbeats 2000000 in
theorem numbers13_any (v : Value) (l : List Int) (w : World) (h : Ints w v l) (hl : l.length ≤ 1000) :
    Calls Try.prog 59 #[v] w fun e w' => e = .returned (.string (strOfNums (bytesW l))) ∧ Below w.heap.size w w' := by
  obtain ⟨a, cap, rfl, h1, h2, h3, h4⟩ := h
  unfold maxLen at h2
  have HR := hide h3
  have HC := hide h4
  clear h3 h4
  go_enter Try.func59, Try.ntmps59
  go_wp2_with fail
  go_loopw [3, 4] (fun sv iv wr => ∃ k : Nat, k ≤ l.length ∧ sv = .string (strOfNums (bytesW (l.take k))) ∧ iv = .int .i64 k ∧ Below w.heap.size w wr) (fun _ iv _ => l.length - (intOf iv).toNat)
  case atStart => exact ⟨0, Nat.zero_le _, rfl, rfl, Below.refl _ _⟩
  case round =>
    obtain ⟨k, hk, rfl, rfl, hbel⟩ := hrel
    have HB := hide hbel
    by_cases hkl : k < l.length
    · have hki : (k : Int) < (l.length : Int) := by omega
      obtain ⟨b, off, rfl, hb, hcell⟩ := HC.out (by omega)
      have hck := (bcell hbel b (off + k) hb).trans (hcell k hkl)
      obtain ⟨r1, r2⟩ := HR.out k hkl
      have HN := hide (fun W => number_any (nth l k) W r1 r2)
      have HT := hide (nums_take l k hkl)
      have hbz : b < wr.heap.size := by have := hbel.size; omega
      have hsz : ¬ 9223372036854775807 < (strOfNums (bytesW (l.take k))).size + (strOfNums (numB (nth l k))).size := by
        rw [strOfNums_size, strOfNums_size, numB_len, bytes_len, List.length_take]; omega
      generalize nth l k = x at hck HN HT hsz
      generalize bytesW (l.take k) = pre at HT hsz ⊢
      clear hbel hcell
      go_wp2_with fail
      refine (HN.out _).mono ?_
      rintro e x1 ⟨rfl, hb1⟩
      have HX := hide (HB.out.trans (hb1.mono HB.out.size))
      have HS : Hid (strOfNums pre ++ strOfNums (numB x) = strOfNums (bytesW (l.take (k + 1)))) := by show _ = _; rw [str_add, HT.out]
      clear hb1
      go_wp2_with fail
      go_roundw
      case rel => exact ⟨k + 1, by omega, by rw [← HS.out], by go_num, HX.out⟩
      case measure => simp [intOf]; omega
    · have e : k = l.length := by omega
      subst e
      have hki : ¬ (l.length : Int) < (l.length : Int) := by omega
      have HE : Hid (l.take l.length = l) := List.take_length
      rw [HE.out]
      clear hbel
      go_wp2_with fail
      exact bodyPost_ret (v := .string (strOfNums (bytesW l))) (by simp [results, Try.results59, go_sem]) rfl ⟨rfl, HB.out⟩
/-- v is a slice of the bytes l -/
def BytesV (w : World) (v : Value) (l : List Int) : Prop :=
  ∃ a cap, v = .slice a l.length cap ∧ l.length ≤ cap ∧ cap ≤ maxLen ∧ (∀ i, i < l.length → 0 ≤ nth l i ∧ nth l i < 256) ∧
    (0 < l.length → ∃ b off, a = some ⟨b, off, none⟩ ∧ b < w.heap.size ∧ ∀ i, i < l.length → w.cell? ⟨b, off + i, none⟩ = some (.int .u8 (nth l i)))
theorem BytesV.below {w w' : World} {v : Value} {l : List Int} (h : BytesV w v l) (hb : Below w.heap.size w w') : BytesV w' v l := by
  obtain ⟨a, cap, e, h1, h2, h3, h4⟩ := h
  refine ⟨a, cap, e, h1, h2, h3, fun hp => ?_⟩
  obtain ⟨b, off, e2, h5, h6⟩ := h4 hp
  exact ⟨b, off, e2, Nat.lt_of_lt_of_le h5 hb.size, fun i hi => by rw [bcell hb _ _ h5]; exact h6 i hi⟩
/-- a number's first bytes, with what does not fit taken off -/
def accB (b : List Int) (k : Nat) : Nat → Int
  | 0 => 0
  | i + 1 => wrap64 (wrap64 (accB b k i * 256) + nth b (8 * k + i))
theorem wrap_is (a : Int) : ∃ q : Int, wrap64 a = a + 18446744073709551616 * q := ⟨-((a + 9223372036854775808) / 18446744073709551616), by unfold wrap64; omega⟩
theorem wrap_off (a q : Int) : wrap64 (a + 18446744073709551616 * q) = wrap64 a := by unfold wrap64; omega
theorem wrap_wrap (a b : Int) : wrap64 (wrap64 (wrap64 a * 256) + b) = wrap64 (a * 256 + b) := by
  obtain ⟨q, hq⟩ := wrap_is a
  obtain ⟨q2, hq2⟩ := wrap_is (wrap64 a * 256)
  rw [hq2, hq, show (a + 18446744073709551616 * q) * 256 + 18446744073709551616 * q2 + b = a * 256 + b + 18446744073709551616 * (q * 256 + q2) by omega, wrap_off]
theorem acc_at (b : List Int) (k : Nat) : accB b k 8 = atB b k := by
  have a1 : accB b k 1 = wrap64 (nth b (8 * k)) := by show wrap64 (wrap64 (0 * 256) + nth b (8 * k)) = _; rw [show wrap64 (0 * 256) = 0 by unfold wrap64; omega, Int.zero_add]
  have a2 : accB b k 2 = wrap64 (nth b (8 * k) * 256 + nth b (8 * k + 1)) := by show wrap64 (wrap64 (accB b k 1 * 256) + nth b (8 * k + 1)) = _; rw [a1, wrap_wrap]
  have a3 : accB b k 3 = wrap64 ((nth b (8 * k) * 256 + nth b (8 * k + 1)) * 256 + nth b (8 * k + 2)) := by show wrap64 (wrap64 (accB b k 2 * 256) + nth b (8 * k + 2)) = _; rw [a2, wrap_wrap]
  have a4 : accB b k 4 = wrap64 (((nth b (8 * k) * 256 + nth b (8 * k + 1)) * 256 + nth b (8 * k + 2)) * 256 + nth b (8 * k + 3)) := by show wrap64 (wrap64 (accB b k 3 * 256) + nth b (8 * k + 3)) = _; rw [a3, wrap_wrap]
  have a5 : accB b k 5 = wrap64 ((((nth b (8 * k) * 256 + nth b (8 * k + 1)) * 256 + nth b (8 * k + 2)) * 256 + nth b (8 * k + 3)) * 256 + nth b (8 * k + 4)) := by show wrap64 (wrap64 (accB b k 4 * 256) + nth b (8 * k + 4)) = _; rw [a4, wrap_wrap]
  have a6 : accB b k 6 = wrap64 (((((nth b (8 * k) * 256 + nth b (8 * k + 1)) * 256 + nth b (8 * k + 2)) * 256 + nth b (8 * k + 3)) * 256 + nth b (8 * k + 4)) * 256 + nth b (8 * k + 5)) := by show wrap64 (wrap64 (accB b k 5 * 256) + nth b (8 * k + 5)) = _; rw [a5, wrap_wrap]
  have a7 : accB b k 7 = wrap64 ((((((nth b (8 * k) * 256 + nth b (8 * k + 1)) * 256 + nth b (8 * k + 2)) * 256 + nth b (8 * k + 3)) * 256 + nth b (8 * k + 4)) * 256 + nth b (8 * k + 5)) * 256 + nth b (8 * k + 6)) := by show wrap64 (wrap64 (accB b k 6 * 256) + nth b (8 * k + 6)) = _; rw [a6, wrap_wrap]
  have a8 : accB b k 8 = wrap64 (((((((nth b (8 * k) * 256 + nth b (8 * k + 1)) * 256 + nth b (8 * k + 2)) * 256 + nth b (8 * k + 3)) * 256 + nth b (8 * k + 4)) * 256 + nth b (8 * k + 5)) * 256 + nth b (8 * k + 6)) * 256 + nth b (8 * k + 7)) := by show wrap64 (wrap64 (accB b k 7 * 256) + nth b (8 * k + 7)) = _; rw [a7, wrap_wrap]
  rw [a8]
  rfl
set_option maxHeartbeats 2000000 in
theorem at_any (v : Value) (l : List Int) (k : Nat) (w : World) (h : BytesV w v l) (hk : 8 * k + 8 ≤ l.length) (hk2 : k ≤ 1000) :
    Calls Try.prog 63 #[v, .int .i64 k] w fun e w' => e = .returned (.int .i64 (atB l k)) ∧ w' = w := by
  obtain ⟨a, cap, rfl, h1, h2, h3, h4⟩ := h
  unfold maxLen at h2
  obtain ⟨b, off, rfl, hb, hcell⟩ := h4 (by omega)
  have HR := hide h3
  have HC := hide hcell
  have HAC : Hid (∀ i, accB l k (i + 1) = wrap64 (wrap64 (accB l k i * 256) + nth l (8 * k + i))) := fun i => rfl
  clear h3 h4 hcell
  go_enter Try.func63, Try.ntmps63
  go_wp2_with fail
  go_loopw [5, 6] (fun nv iv wr => ∃ i : Nat, i ≤ 8 ∧ nv = .int .i64 (accB l k i) ∧ iv = .int .i64 i ∧ wr = w) (fun _ iv _ => 8 - (intOf iv).toNat)
  case atStart => exact ⟨0, by omega, rfl, rfl, rfl⟩
  case round =>
    obtain ⟨i, hi, rfl, rfl, rfl⟩ := hrel
    by_cases hi8 : i < 8
    · have hii : (i : Int) < 8 := by omega
      have hck := HC.out (8 * k + i) (by omega)
      obtain ⟨r1, r2⟩ := HR.out (8 * k + i) (by omega)
      have HX := hide (HAC.out i)
      have hm3 : 8 * (k : Int) + (i : Int) < (l.length : Int) := by omega
      have hac : ∃ ac, accB l k i = ac := ⟨_, rfl⟩
      obtain ⟨ac, hac⟩ := hac
      obtain ⟨y, hy⟩ : ∃ y, nth l (8 * k + i) = y := ⟨_, rfl⟩
      rw [hy] at hck r1 r2 HX
      rw [hac] at HX ⊢
      have hy2 : wrap64 y = y := by unfold wrap64; omega
      clear hac hy HAC HR HC
      go_wp2_with fail
      go_roundw
      case rel => exact ⟨i + 1, by omega, by rw [HX.out], by go_num, by first | trivial | rfl⟩
      case measure => simp [intOf]; omega
    · have e : i = 8 := by omega
      subst e
      have HE := hide (acc_at l k)
      rw [HE.out]
      go_wp2_with fail
      exact bodyPost_ret (v := .int .i64 (atB l k)) (by simp [results, Try.results63, go_sem]) rfl ⟨rfl, rfl⟩
end Go.Proofs.Ytjdbmldkgjcniab
