/- The contract of package text's Print: PrintC. -/
import Derived.Test.YtjlfcbccpcigeacDoorTextWords
import Derived.Test.YtjlfcbccpcigeacDoorTextPut
import Derived.Test.YtjlfcbccpcigeacDoorTextLaws
import Derived.Test.YtjlfcbccpcigeacDoorRef14Text
import Derived.Test.YtjlfcbccpcigeacDoorLoopP
namespace Go.Proofs.YtjlfcbccpcigeacDoor
open Go.RowKit Go.Joins
set_option linter.unusedVariables false
set_option linter.unusedSimpArgs false
set_option maxRecDepth 8192

set_option maxHeartbeats 32000000 in
theorem print_walk (L : Lp) (a0 a1 a2 : Option Addr) (cap0 cap1 cap2 : Nat) (w : World) (hv : VarsP w) (hm : mayB L = true) (hn : LoopIn L) (hL : LoopV w (.agg #[.slice a0 L.logs.length cap0, .slice a1 L.body.length cap1, .slice a2 L.outs.length cap2]) L)
    (h00 : L.logs.length ≤ cap0) (h01 : cap0 ≤ 9223372036854775807) (h02 : ∀ i, i < L.logs.length → -9223372036854775808 ≤ nth L.logs i ∧ nth L.logs i ≤ 9223372036854775807) (h03 : 0 < L.logs.length → ∃ b off, a0 = some ⟨b, off, none⟩ ∧ b < w.heap.size ∧ ∀ i, i < L.logs.length → w.cell? ⟨b, off + i, none⟩ = some (.int .i64 (nth L.logs i)))
    (h10 : L.body.length ≤ cap1) (h11 : cap1 ≤ 9223372036854775807) (h13 : 0 < L.body.length → ∃ b off, a1 = some ⟨b, off, none⟩ ∧ b < w.heap.size ∧ ∀ i, i < L.body.length → ∀ j, j < 9 → w.cell? ⟨b, off + i * 9 + j, none⟩ = (stCells (stAt L.body i))[j]?)
    (h20 : L.outs.length ≤ cap2) (h21 : cap2 ≤ 9223372036854775807) (h22 : ∀ i, i < L.outs.length → -9223372036854775808 ≤ nth L.outs i ∧ nth L.outs i ≤ 9223372036854775807) (h23 : 0 < L.outs.length → ∃ b off, a2 = some ⟨b, off, none⟩ ∧ b < w.heap.size ∧ ∀ i, i < L.outs.length → w.cell? ⟨b, off + i, none⟩ = some (.int .i64 (nth L.outs i))) :
    Calls Tryd.prog 7 #[.agg #[.slice a0 L.logs.length cap0, .slice a1 L.body.length cap1, .slice a2 L.outs.length cap2]] w fun e w' => e = .returned (.tuple #[.string (strOfNums (textD L)), .int .i64 0]) ∧ Below w.heap.size w w' := by
  have hmf : ∀ (fn : Fn) (first cap : Array Value) (w : World), (Instr.makeFunc fn first cap).run Tryd.prog w = .ok (.func fn first cap) w := fun _ _ _ _ => rfl
  have HTL := hide (text_len hm hn)
  have HMY := hide (may_any (.agg #[.slice a0 L.logs.length cap0, .slice a1 L.body.length cap1, .slice a2 L.outs.length cap2]) L (w.alloc (.cells #[.slice a0 L.logs.length cap0, .slice a1 L.body.length cap1, .slice a2 L.outs.length cap2] 25)) (hL.below (below_alloc1 _ _)))
  rw [hm] at HMY
  obtain ⟨hl3, hb1, hb16, ho16, -, -, hbody⟩ := may_parts hm
  have HBDY := hide (fun k hk => st_small (by omega) (by omega) (by omega) (allN_get hbody k hk))
  have HIN := hide hn
  have HV := hide hv
  have H03 := hide h03
  have H02 := hide h02
  have H13 := hide h13
  have H23 := hide h23
  have H22 := hide h22
  have HZ : Hid ((w.alloc (.cells #[.slice a0 L.logs.length cap0, .slice a1 L.body.length cap1, .slice a2 L.outs.length cap2] 25)).heap.size = w.heap.size + 1) := by show _ = _; simp
  have HLB : Hid (∀ y, Below (w.heap.size + 1) (w.alloc (.cells #[.slice a0 L.logs.length cap0, .slice a1 L.body.length cap1, .slice a2 L.outs.length cap2] 25)) y → y.cell? ⟨w.heap.size, 0, none⟩ = some (.slice a0 L.logs.length cap0) ∧ y.cell? ⟨w.heap.size, 1, none⟩ = some (.slice a1 L.body.length cap1) ∧ y.cell? ⟨w.heap.size, 2, none⟩ = some (.slice a2 L.outs.length cap2)) := fun y hy => by
    have hb := (hy.block w.heap.size (by omega)).trans (new_blkS w _ _)
    exact ⟨by rw [cell_of_block hb]; rfl, by rw [cell_of_block hb]; rfl, by rw [cell_of_block hb]; rfl⟩
  have HFIN : Hid (∀ y, Below (w.heap.size + 1) (w.alloc (.cells #[.slice a0 L.logs.length cap0, .slice a1 L.body.length cap1, .slice a2 L.outs.length cap2] 25)) y → Below w.heap.size w y) := fun y hy => (below_alloc1 w (.cells #[.slice a0 L.logs.length cap0, .slice a1 L.body.length cap1, .slice a2 L.outs.length cap2] 25)).trans (hy.mono (by omega))
  have HA1 := hide (tx1_all L)
  have HA2 := hide (tx2_all L)
  have HA3 := hide (tx3_all L)
  clear hv hm hn hL h02 h03 h13 h22 h23 hbody
  go_enter Tryd.func7, Tryd.ntmps7
  go_wp2_with fail
  refine HMY.out.mono ?_
  rintro e w1 ⟨rfl, hw1⟩
  have HW1 : Hid (Below (w.heap.size + 1) (w.alloc (.cells #[.slice a0 L.logs.length cap0, .slice a1 L.body.length cap1, .slice a2 L.outs.length cap2] 25)) w1) := by show Below _ _ _; rw [← HZ.out]; exact hw1
  have hw1z : w.heap.size + 1 ≤ w1.heap.size := by have := HW1.out.size; rw [HZ.out] at this; exact this
  obtain ⟨l0, l1, l2⟩ := HLB.out w1 HW1.out
  have HW1B := hide (HFIN.out w1 HW1.out)
  have HF2 : Hid (∀ y, Below w1.heap.size w1 y → Below w.heap.size w y) := fun y hy => HW1B.out.trans (hy.mono (by omega))
  have HL2 : Hid (∀ y, Below w1.heap.size w1 y → y.cell? ⟨w.heap.size, 0, none⟩ = some (.slice a0 L.logs.length cap0) ∧ y.cell? ⟨w.heap.size, 1, none⟩ = some (.slice a1 L.body.length cap1) ∧ y.cell? ⟨w.heap.size, 2, none⟩ = some (.slice a2 L.outs.length cap2)) := fun y hy => HLB.out y (HW1.out.trans (hy.mono hw1z))
  have HS1 : Hid (Bd w1.heap.size w1.heap.size (tx1 L 0) (w1.alloc (.cells #[.pointer none, .slice none 0 0] 40)) ∧ Below w1.heap.size w1 (w1.alloc (.cells #[.pointer none, .slice none 0 0] 40))) := ⟨.inl ⟨Nat.le_refl _, .slice none 0 0, new_blkS _ _ _, ⟨rfl, .inl ⟨rfl, rfl⟩⟩, fun h => by cases h⟩, below_alloc1 _ _⟩
  clear hw1 HMY HLB HFIN
  have hlt : w.heap.size < w1.heap.size := by omega
  have hne1 : ¬ w.heap.size = w1.heap.size := by omega
  have hne2 : ¬ w1.heap.size = w.heap.size := by omega
  have HFIN := HF2
  have HLB := HL2
  clear HF2 HL2
  go_wp2_with fail
  clear l0 l1 l2
  go_loopw [20] (fun iv wr => ∃ i : Nat, i ≤ L.logs.length ∧ iv = .int .i64 i ∧ Bd w1.heap.size w1.heap.size (tx1 L i) wr ∧ Below w1.heap.size w1 wr) (fun iv _ => L.logs.length - (intOf iv).toNat)
  case atStart => exact ⟨0, Nat.zero_le _, rfl, HS1.out⟩
  case round =>
    clear HS1
    obtain ⟨i, hi, rfl, hbd, hbel⟩ := hrel
    have HB := hide hbel
    have HBD := hide hbd
    have hwr : w1.heap.size ≤ wr.heap.size := hbel.size
    have HBW := hide (HFIN.out wr hbel)
    obtain ⟨l0, l1, l2⟩ := HLB.out wr hbel
    by_cases hil : i < L.logs.length
    · have hii : (i : Int) < (L.logs.length : Int) := by omega
      obtain ⟨rb, ro, he, hrz, hcells⟩ := H03.out (by omega)
      have hcw := (bcell (HFIN.out wr hbel) rb (ro + i) hrz).trans (hcells i hil)
      have hrw : rb < wr.heap.size := by omega
      obtain ⟨n1, n2⟩ := H02.out i hil
      have HNX := hide (tx1_next (L := L) hil)
      have HLE := hide (HTL.out.1 i hi)
      have HLE2 := hide (HTL.out.1 (i + 1) hil)
      obtain ⟨nv, hnv⟩ : ∃ nv, nth L.logs i = nv := ⟨_, rfl⟩
      rw [hnv] at hcw n1 n2 HNX
      have HWR := hide (fun W h => written_any nv W h n1 n2)
      obtain ⟨G, hG⟩ : ∃ G, G = strOfNums (digitsD nv) := ⟨_, rfl⟩
      rw [← hG] at HWR
      have HPL : Hid (∀ y, Below wr.heap.size wr y → Calls Tryd.prog 14 #[.slice (some ⟨y.heap.size, 0, none⟩) 2 2, .pointer (some ⟨w1.heap.size, 0, none⟩)] (y.alloc (.cells #[.string (ByteArray.mk #[97, 114, 114, 97, 121]), .string G] 9)) fun e w' => e = .returned (.tuple #[]) ∧ Bd w1.heap.size w1.heap.size (tx1 L (i + 1)) w' ∧ Below w1.heap.size w1 w') := fun y hy => by
        have hsv := strs_new y #[.string (ByteArray.mk #[97, 114, 114, 97, 121]), .string G] 9 2 (logW nv) rfl (fun j hj => match j, hj with | 0, _ => rfl | 1, _ => (by show some (Value.string G) = some (.string (strOfNums (digitsD nv))); rw [hG]))
        have hyz := hy.size
        refine (put_line w1.heap.size w1.heap.size y.heap.size 2 2 (tx1 L i) (logW nv) _ ((HBD.out.old hy).old (below_alloc1 y _)) (by simp; omega) hsv (by omega) (by omega) (by omega) (by have := HLE.out; omega) (by have := HLE2.out; rw [HNX.out, List.length_append] at this; unfold lineB at this; rw [List.length_append] at this; omega)).mono ?_
        rintro e w' ⟨rfl, h1, h2, -⟩
        rw [show joinD 32 (logW nv) ++ [10] = lineB (logW nv) from rfl, ← HNX.out] at h1
        exact ⟨rfl, h1, (HB.out.trans ((hy.trans ((below_alloc1 y _).mono hyz)).mono hwr)).trans h2⟩
      subst he
      clear hcells hnv hG hbel hbd HNX HLE HLE2
      go_wp2_with fail
      refine (HWR.out _ (HV.out.on HBW.out)).mono ?_
      rintro e y ⟨rfl, hy⟩
      have HY := hide hy
      clear hy
      go_wp2_with fail
      refine (HPL.out y HY.out).mono ?_
      rintro e y2 ⟨rfl, hbd2, hb2⟩
      have HBD2 := hide hbd2
      have HB2 := hide hb2
      clear hbd2 hb2
      go_wp2_with fail
      go_roundw
      case rel => exact ⟨i + 1, by omega, by go_num, HBD2.out, HB2.out⟩
      case measure => simp [intOf]; omega
    · have e : i = L.logs.length := by omega
      subst e
      have hii : ¬ (L.logs.length : Int) < (L.logs.length : Int) := by omega
      have HS2 : Hid (Bd w1.heap.size w1.heap.size (tx2 L 0) wr ∧ Below w1.heap.size w1 wr) := ⟨by rw [← HA1.out]; exact hbd, hbel⟩
      clear hbd hbel
      go_wp2_with fail
      clear l0 l1 l2
      go_loopw [33] (fun iv wr => ∃ k : Nat, k ≤ L.body.length ∧ iv = .int .i64 k ∧ Bd w1.heap.size w1.heap.size (tx2 L k) wr ∧ Below w1.heap.size w1 wr) (fun iv _ => L.body.length - (intOf iv).toNat)
      case atStart => exact ⟨0, Nat.zero_le _, rfl, HS2.out⟩
      case round =>
        clear HS2
        obtain ⟨k, hk, rfl, hbd, hbel⟩ := hrel
        have HB := hide hbel
        have HBD := hide hbd
        have hwr : w1.heap.size ≤ wr.heap.size := hbel.size
        have HBW := hide (HFIN.out wr hbel)
        obtain ⟨l0, l1, l2⟩ := HLB.out wr hbel
        by_cases hkl : k < L.body.length
        · have hki : (k : Int) < (L.body.length : Int) := by omega
          obtain ⟨rb, ro, he, hrz, hcells⟩ := H13.out (by omega)
          obtain ⟨c0, c1, c2, c3, c4, c5, c6, c7, c8⟩ := nine (fun j hj => (bcell (HFIN.out wr hbel) rb (ro + k * 9 + j) hrz).trans (hcells k hkl j hj))
          have hrw : rb < wr.heap.size := by omega
          have hsm := HBDY.out k hkl
          obtain ⟨nn1, nn2⟩ := HIN.out k
          have HNX := hide (tx2_next (L := L) hkl)
          have HLE := hide (HTL.out.2.1 k hk)
          have HLE2 := hide (HTL.out.2.1 (k + 1) hkl)
          subst he
          generalize stAt L.body k = xk at *
          obtain ⟨o, xa, xb, ya, yb, ar, sp, pl, nn⟩ := xk
          simp only at c0 c1 c2 c3 c4 c5 c6 c7 c8 hsm nn1 nn2
          obtain ⟨⟨xa0, xa1⟩, ⟨xb0, xb1⟩, ⟨ya0, ya1⟩, ⟨yb0, yb1⟩, ⟨ar0, ar1⟩, ⟨sp0, sp1⟩, ⟨pl0, pl1⟩, hop⟩ := hsm
          have HSW := hide (fun W h => stmtWords_any o xa xb ya yb ar sp pl nn W h hop ⟨by omega, by omega⟩ ⟨by omega, by omega⟩ ⟨by omega, by omega⟩ ⟨by omega, by omega⟩ ⟨by omega, by omega⟩ ⟨by omega, by omega⟩ ⟨by omega, by omega⟩ ⟨nn1, nn2⟩)
          have HSB := hide (below_alloc1 wr (.cells #[.int .i64 o, .int .i64 xa, .int .i64 xb, .int .i64 ya, .int .i64 yb, .int .i64 ar, .int .i64 sp, .int .i64 pl, .int .i64 nn] 53))
          have HZS : Hid ((wr.alloc (.cells #[.int .i64 o, .int .i64 xa, .int .i64 xb, .int .i64 ya, .int .i64 yb, .int .i64 ar, .int .i64 sp, .int .i64 pl, .int .i64 nn] 53)).heap.size = wr.heap.size + 1) := by show _ = _; simp
          clear hcells hbel hbd xa0 xa1 xb0 xb1 ya0 ya1 yb0 yb1 ar0 ar1 sp0 sp1 pl0 pl1 nn1 nn2 hop
          go_wp2_with fail
          clear c0 c1 c2 c3 c4 c5 c6 c7 c8
          refine (HSW.out _ (HV.out.on (HBW.out.trans (HSB.out.mono (by omega))))).mono ?_
          rintro e y ⟨b, n, cap, rfl, hn5, hnc, hc5, hbz, hsv, hy⟩
          have HY : Hid (Below wr.heap.size wr y) := HSB.out.trans (hy.mono (by rw [HZS.out]; omega))
          have HPL : Hid (Calls Tryd.prog 14 #[.slice (some ⟨b, 0, none⟩) n cap, .pointer (some ⟨w1.heap.size, 0, none⟩)] y fun e w' => e = .returned (.tuple #[]) ∧ Bd w1.heap.size w1.heap.size (tx2 L (k + 1)) w' ∧ Below w1.heap.size w1 w') := by
            have hyz := HY.out.size
            refine (put_line w1.heap.size w1.heap.size b n cap (tx2 L k) _ y (HBD.out.old HY.out) (by omega) hsv hn5 hnc (by omega) (by have := HLE.out; omega) (by have := HLE2.out; rw [HNX.out, List.length_append] at this; unfold lineB at this; rw [List.length_append] at this; omega)).mono ?_
            rintro e w' ⟨rfl, h1, h2, -⟩
            have h3 : Bd w1.heap.size w1.heap.size (tx2 L (k + 1)) w' := by rw [HNX.out]; exact h1
            exact ⟨rfl, h3, (HB.out.trans (HY.out.mono hwr)).trans h2⟩
          clear hsv hy HNX HLE HLE2
          go_wp2_with fail
          refine HPL.out.mono ?_
          rintro e y2 ⟨rfl, hbd2, hb2⟩
          have HBD2 := hide hbd2
          have HB2 := hide hb2
          clear hbd2 hb2
          go_wp2_with fail
          go_roundw
          case rel => exact ⟨k + 1, by omega, by go_num, HBD2.out, HB2.out⟩
          case measure => simp [intOf]; omega
        · have e : k = L.body.length := by omega
          subst e
          have hki : ¬ (L.body.length : Int) < (L.body.length : Int) := by omega
          have HS3 : Hid (Bd w1.heap.size w1.heap.size (tx3 L 0) wr ∧ Below w1.heap.size w1 wr) := ⟨by rw [← HA2.out]; exact hbd, hbel⟩
          clear hbd hbel
          go_wp2_with fail
          clear l0 l1 l2
          go_loopw [45] (fun iv wr => ∃ i : Nat, i ≤ L.outs.length ∧ iv = .int .i64 i ∧ Bd w1.heap.size w1.heap.size (tx3 L i) wr ∧ Below w1.heap.size w1 wr) (fun iv _ => L.outs.length - (intOf iv).toNat)
          case atStart => exact ⟨0, Nat.zero_le _, rfl, HS3.out⟩
          case round =>
            clear HS3
            obtain ⟨i, hi, rfl, hbd, hbel⟩ := hrel
            have HB := hide hbel
            have HBD := hide hbd
            have hwr : w1.heap.size ≤ wr.heap.size := hbel.size
            have HBW := hide (HFIN.out wr hbel)
            obtain ⟨l0, l1, l2⟩ := HLB.out wr hbel
            by_cases hil : i < L.outs.length
            · have hii : (i : Int) < (L.outs.length : Int) := by omega
              obtain ⟨rb, ro, he, hrz, hcells⟩ := H23.out (by omega)
              have hcw := (bcell (HFIN.out wr hbel) rb (ro + i) hrz).trans (hcells i hil)
              have hrw : rb < wr.heap.size := by omega
              obtain ⟨n1, n2⟩ := H22.out i hil
              have HNX := hide (tx3_next (L := L) hil)
              have HLE := hide (HTL.out.2.2 i hi)
              have HLE2 := hide (HTL.out.2.2 (i + 1) hil)
              obtain ⟨nv, hnv⟩ : ∃ nv, nth L.outs i = nv := ⟨_, rfl⟩
              rw [hnv] at hcw n1 n2 HNX
              have HWR := hide (fun W h => written_any nv W h n1 n2)
              obtain ⟨G, hG⟩ : ∃ G, G = strOfNums (digitsD nv) := ⟨_, rfl⟩
              rw [← hG] at HWR
              have HPL : Hid (∀ y, Below wr.heap.size wr y → Calls Tryd.prog 14 #[.slice (some ⟨y.heap.size, 0, none⟩) 2 2, .pointer (some ⟨w1.heap.size, 0, none⟩)] (y.alloc (.cells #[.string (ByteArray.mk #[111, 117, 116]), .string G] 9)) fun e w' => e = .returned (.tuple #[]) ∧ Bd w1.heap.size w1.heap.size (tx3 L (i + 1)) w' ∧ Below w1.heap.size w1 w') := fun y hy => by
                have hsv := strs_new y #[.string (ByteArray.mk #[111, 117, 116]), .string G] 9 2 (outWs nv) rfl (fun j hj => match j, hj with | 0, _ => rfl | 1, _ => (by show some (Value.string G) = some (.string (strOfNums (digitsD nv))); rw [hG]))
                have hyz := hy.size
                refine (put_line w1.heap.size w1.heap.size y.heap.size 2 2 (tx3 L i) (outWs nv) _ ((HBD.out.old hy).old (below_alloc1 y _)) (by simp; omega) hsv (by omega) (by omega) (by omega) (by have := HLE.out; omega) (by have := HLE2.out; rw [HNX.out, List.length_append] at this; unfold lineB at this; rw [List.length_append] at this; omega)).mono ?_
                rintro e w' ⟨rfl, h1, h2, -⟩
                rw [show joinD 32 (outWs nv) ++ [10] = lineB (outWs nv) from rfl, ← HNX.out] at h1
                exact ⟨rfl, h1, (HB.out.trans ((hy.trans ((below_alloc1 y _).mono hyz)).mono hwr)).trans h2⟩
              subst he
              clear hcells hnv hG hbel hbd HNX HLE HLE2
              go_wp2_with fail
              refine (HWR.out _ (HV.out.on HBW.out)).mono ?_
              rintro e y ⟨rfl, hy⟩
              have HY := hide hy
              clear hy
              go_wp2_with fail
              refine (HPL.out y HY.out).mono ?_
              rintro e y2 ⟨rfl, hbd2, hb2⟩
              have HBD2 := hide hbd2
              have HB2 := hide hb2
              clear hbd2 hb2
              go_wp2_with fail
              go_roundw
              case rel => exact ⟨i + 1, by omega, by go_num, HBD2.out, HB2.out⟩
              case measure => simp [intOf]; omega
            · have e : i = L.outs.length := by omega
              subst e
              have hii : ¬ (L.outs.length : Int) < (L.outs.length : Int) := by omega
              have HS4 : Hid (Bd w1.heap.size w1.heap.size (textD L) wr ∧ Below w1.heap.size w1 wr) := ⟨by rw [← HA3.out]; exact hbd, hbel⟩
              clear hbd hbel
              go_wp2_with fail
              refine (Tryd.Builder_String_any_k w1.heap.size w1.heap.size (b8 (textD L)) wr HS4.out.1 hwr).mono ?_
              rintro e y ⟨rfl, -, hy, -⟩
              have HF := hide (HFIN.out y (HS4.out.2.trans hy))
              clear hy
              go_wp2_with fail
              go_ret2
              exact ⟨rfl, HF.out⟩
theorem print_all : PrintC := fun v L w hv hL hn => by
  unfold printD printC
  have hL2 := hL
  obtain ⟨v0, v1, v2, rfl, ⟨a0, cap0, rfl, h00, h01, h02, h03⟩, ⟨a1, cap1, rfl, h10, h11, h13⟩, ⟨a2, cap2, rfl, h20, h21, h22, h23⟩⟩ := hL
  cases hm : mayB L with
  | true =>
    rw [if_pos rfl, if_pos rfl]
    exact print_walk L a0 a1 a2 cap0 cap1 cap2 w hv hm hn hL2 h00 h01 h02 h03 h10 h11 h13 h20 h21 h22 h23
  | false =>
    rw [if_neg Bool.false_ne_true, if_neg Bool.false_ne_true]
    have HMY := hide (may_any (.agg #[.slice a0 L.logs.length cap0, .slice a1 L.body.length cap1, .slice a2 L.outs.length cap2]) L (w.alloc (.cells #[.slice a0 L.logs.length cap0, .slice a1 L.body.length cap1, .slice a2 L.outs.length cap2] 25)) (hL2.below (below_alloc1 _ _)))
    rw [hm] at HMY
    have HB := hide (below_alloc1 w (.cells #[.slice a0 L.logs.length cap0, .slice a1 L.body.length cap1, .slice a2 L.outs.length cap2] 25))
    clear hv hL2 hn h02 h03 h13 h22 h23 hm
    go_enter Tryd.func7, Tryd.ntmps7
    go_wp2_with fail
    refine HMY.out.mono ?_
    rintro e w1 ⟨rfl, hw1⟩
    have HF := hide (HB.out.trans (hw1.mono HB.out.size))
    clear hw1
    go_wp2_with fail
    go_ret2
    exact ⟨rfl, HF.out⟩
end Go.Proofs.YtjlfcbccpcigeacDoor
