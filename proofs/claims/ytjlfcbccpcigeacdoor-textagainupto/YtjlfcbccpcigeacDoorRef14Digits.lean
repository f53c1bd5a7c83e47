/- Plain laws for the document's Digits: remainders and quotients of ten, strings joined. -/
import Derived.Test.YtjlfcbccpcigeacDoorTextMath
import Derived.Test.YtjlfcbccpcigeacDoorRef13Num
namespace Go.Proofs.YtjlfcbccpcigeacDoor
open Go.RowKit Go.Joins
set_option linter.unusedVariables false
set_option linter.unusedSimpArgs false
set_option maxRecDepth 8192

theorem tmod_abs (x : Int) : (x.tmod 10 < 0 → -(x.tmod 10) = ((x.natAbs % 10 : Nat) : Int)) ∧ (¬ x.tmod 10 < 0 → x.tmod 10 = ((x.natAbs % 10 : Nat) : Int)) := by
  have h1 := Int.tmod_add_mul_tdiv x 10
  rcases Int.le_total 0 x with h | h
  · have e : x.tmod 10 = x % 10 := Int.tmod_eq_emod_of_nonneg h
    omega
  · have e := Int.neg_tmod (-x) 10
    rw [Int.neg_neg] at e
    have e2 : (-x).tmod 10 = (-x) % 10 := Int.tmod_eq_emod_of_nonneg (by omega)
    omega
theorem tdiv_abs (x : Int) : (x.tdiv 10).natAbs = x.natAbs / 10 := by
  rw [Int.natAbs_tdiv]; rfl
theorem digs_19 {n : Int} (h0 : -9223372036854775808 ≤ n) (h1 : n ≤ 9223372036854775807) : (digs n.natAbs).length ≤ 19 := digs_len 19 _ (by omega) (by omega)
theorem digs_tens {x : Int} {m : List Int} {N : Nat} (h : digs N = digs x.natAbs ++ m) (hq : x.tdiv 10 ≠ 0) : digs N = digs (x.tdiv 10).natAbs ++ (48 + ((x.natAbs % 10 : Nat) : Int)) :: m := by
  have e := tdiv_abs x
  have h10 : ¬ x.natAbs < 10 := fun hl => hq (by have : (x.tdiv 10).natAbs = 0 := by rw [e]; omega
                                                 omega)
  rw [h, digs_big h10, e, List.append_assoc]; rfl
set_option maxHeartbeats 4000000 in
theorem digits_any (n : Int) (w : World) (h0 : -9223372036854775808 ≤ n) (h1 : n ≤ 9223372036854775807) :
    Calls Tryd.prog 24 #[.int .i64 n] w fun e w' => e = .returned (.string (strOfNums (digitsD n))) ∧ Below w.heap.size w w' := by
  have HLEN := hide (digs_19 h0 h1)
  go_enter Tryd.func24, Tryd.ntmps24
  go_wp2_with fail
  go_loopw [3, 4] (fun sv lv wr => ∃ (x : Int) (m : List Int), sv = .string (strOfNums m) ∧ lv = .int .i64 x ∧ -9223372036854775808 ≤ x ∧ x ≤ 9223372036854775807 ∧ digs n.natAbs = digs x.natAbs ++ m ∧ m.length ≤ 19 ∧ Below w.heap.size w wr) (fun _ lv _ => (intOf lv).natAbs)
  case atStart => exact ⟨n, [], rfl, rfl, h0, h1, (List.append_nil _).symm, by simp, Below.refl _ _⟩
  case round =>
    obtain ⟨x, m, rfl, rfl, hx0, hx1, hdg, hml, hbel⟩ := hrel
    have HD := hide hdg
    have HB := hide hbel
    have hta := tmod_abs x
    have hqd := tdiv_abs x
    have hlt : x.natAbs % 10 < 10 := Nat.mod_lt _ (by decide)
    have HNEXT : Hid (x.tdiv 10 ≠ 0 → digs n.natAbs = digs (x.tdiv 10).natAbs ++ (48 + ((x.natAbs % 10 : Nat) : Int)) :: m ∧ ((48 + ((x.natAbs % 10 : Nat) : Int)) :: m).length ≤ 19) := fun hq => by
      have e := digs_tens hdg hq
      refine ⟨e, ?_⟩
      have h2 := HLEN.out
      rw [e, List.length_append] at h2
      omega
    have hqb : x.tdiv 10 ≤ 9223372036854775807 := by omega
    have hqa : -9223372036854775808 ≤ x.tdiv 10 := by omega
    have HMS : Hid (x.tdiv 10 ≠ 0 → (x.tdiv 10).natAbs < x.natAbs) := fun hq => by omega
    have HQ0 : Hid (x.tdiv 10 = 0 → x.natAbs < 10) := fun hq => by rw [hq] at hqd; simp at hqd; omega
    obtain ⟨dm, hdm⟩ : ∃ dm : Int, ((x.natAbs % 10 : Nat) : Int) = dm := ⟨_, rfl⟩
    have hdm0 : 0 ≤ dm ∧ dm < 10 := by omega
    obtain ⟨dg, hdge⟩ : ∃ dg : Int, 48 + dm = dg := ⟨_, rfl⟩
    have HDG : Hid (x.natAbs < 10 → [48 + (x.natAbs : Int)] = [dg]) := fun h => by rw [← hdge, ← hdm]; congr 2; omega
    rw [hdm] at hta HNEXT
    rw [hdge] at HNEXT
    obtain ⟨rm, hrm⟩ : ∃ rm, x.tmod 10 = rm := ⟨_, rfl⟩
    rw [hrm] at hta
    obtain ⟨qx, hqx⟩ : ∃ qx, x.tdiv 10 = qx := ⟨_, rfl⟩
    rw [hqx] at HNEXT hqa hqb HMS HQ0
    have hrb : -10 < rm ∧ rm < 10 := by omega
    have hw1 : wrap64 rm = rm := by unfold wrap64; omega
    have hw2 : wrap64 (-rm) = -rm := by unfold wrap64; omega
    have hw3 : wrap64 dg = dg := by unfold wrap64; omega
    have hw4 : IntKind.u8.wrap dg = dg := by rw [IntKind.wrap_u8]; omega
    have hw5 : wrap64 qx = qx := by unfold wrap64; omega
    have hw6 : dg % 256 = dg := by omega
    have hcv : (convert 38 9 (.slice (some ⟨wr.heap.size, 0, none⟩) 1 1)).run Tryd.prog (wr.alloc (.cells #[.int .u8 dg] 5)) = .ok (.string (strOfNums [dg])) (wr.alloc (.cells #[.int .u8 dg] 5)) := by
      refine run_convert_bytes_arg _ 38 5 Tryd.underlying38 Tryd.underlying5 wr.heap.size 0 1 1 [dg] rfl (fun i hi => ?_) 9 Tryd.underlying9
      obtain rfl : i = 0 := by omega
      go_simp
    have hz1 : ¬ 9223372036854775807 < (strOfNums [dg]).size + (strOfNums m).size := by
      rw [strOfNums_size, strOfNums_size]
      show ¬ 9223372036854775807 < 1 + m.length
      omega
    have ha1 : strOfNums [dg] ++ strOfNums m = strOfNums (dg :: m) := str_add [dg] m
    have HB2 : Hid (Below w.heap.size w (wr.alloc (.cells #[.int .u8 dg] 5))) := HB.out.alloc HB.out.size _
    clear hbel hdg hqd hlt hdm
    by_cases hn : rm < 0
    · have hd2 := hta.1 hn
      have hde : (48 : Int) + -rm = dg := by omega
      clear hta hdge hd2
      by_cases hq0 : qx = 0
      · subst hq0
        have HFIN : Hid (digs n.natAbs = dg :: m) := by
          show _ = _
          rw [HD.out, digs_small (HQ0.out rfl), HDG.out (HQ0.out rfl)]; rfl
        by_cases hn0 : n < 0
        · have hzz : ¬ 9223372036854775807 < (ByteArray.mk #[45]).size + (strOfNums (dg :: m)).size := by
            rw [strOfNums_size]
            show ¬ 9223372036854775807 < 1 + (m.length + 1)
            omega
          have haa : (ByteArray.mk #[45]) ++ strOfNums (dg :: m) = strOfNums (45 :: dg :: m) := str_add [45] (dg :: m)
          have HRES : Hid (strOfNums (digitsD n) = strOfNums (45 :: dg :: m)) := by
            show _ = _
            unfold digitsD; rw [if_pos hn0, HFIN.out]
          go_wp2_with fail
          go_ret
          exact ⟨by rw [HRES.out]; rfl, HB2.out⟩
        · have HRES : Hid (strOfNums (digitsD n) = strOfNums (dg :: m)) := by
            show _ = _
            unfold digitsD; rw [if_neg hn0, HFIN.out]
          go_wp2_with fail
          go_ret
          exact ⟨by rw [HRES.out]; rfl, HB2.out⟩
      · have HNX := hide (HNEXT.out hq0)
        go_wp2_with fail
        go_roundw
        case rel => exact ⟨qx, dg :: m, rfl, rfl, hqa, hqb, HNX.out.1, HNX.out.2, HB2.out⟩
        case measure => have := HMS.out hq0; simp [intOf]; omega
    · have hd2 := hta.2 hn
      subst hd2
      clear hta
      by_cases hq0 : qx = 0
      · subst hq0
        have HFIN : Hid (digs n.natAbs = dg :: m) := by
          show _ = _
          rw [HD.out, digs_small (HQ0.out rfl), HDG.out (HQ0.out rfl)]; rfl
        by_cases hn0 : n < 0
        · have hzz : ¬ 9223372036854775807 < (ByteArray.mk #[45]).size + (strOfNums (dg :: m)).size := by
            rw [strOfNums_size]
            show ¬ 9223372036854775807 < 1 + (m.length + 1)
            omega
          have haa : (ByteArray.mk #[45]) ++ strOfNums (dg :: m) = strOfNums (45 :: dg :: m) := str_add [45] (dg :: m)
          have HRES : Hid (strOfNums (digitsD n) = strOfNums (45 :: dg :: m)) := by
            show _ = _
            unfold digitsD; rw [if_pos hn0, HFIN.out]
          go_wp2_with fail
          go_ret
          exact ⟨by rw [HRES.out]; rfl, HB2.out⟩
        · have HRES : Hid (strOfNums (digitsD n) = strOfNums (dg :: m)) := by
            show _ = _
            unfold digitsD; rw [if_neg hn0, HFIN.out]
          go_wp2_with fail
          go_ret
          exact ⟨by rw [HRES.out]; rfl, HB2.out⟩
      · have HNX := hide (HNEXT.out hq0)
        go_wp2_with fail
        go_roundw
        case rel => exact ⟨qx, dg :: m, rfl, rfl, hqa, hqb, HNX.out.1, HNX.out.2, HB2.out⟩
        case measure => have := HMS.out hq0; simp [intOf]; omega
end Go.Proofs.YtjlfcbccpcigeacDoor
