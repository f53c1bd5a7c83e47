/- The document's Text: a line for each array, statement and out. -/
import Derived.Test.YtjlfcbccpcigeacDoorRef14Lines
import Derived.Test.YtjlfcbccpcigeacDoorLoopStmt
import Derived.Test.YtjlfcbccpcigeacDoorRef2L
namespace Go.Proofs.YtjlfcbccpcigeacDoor
open Go.RowKit Go.Joins
set_option linter.unusedVariables false
set_option linter.unusedSimpArgs false
set_option maxRecDepth 8192

theorem word_at {x : World} {b i : Nat} (h : x.heap[b]? = some (.cells #[.string (strOfNums (opD 11)), .string (strOfNums (opD 12)), .string (strOfNums (opD 13)), .string (strOfNums (opD 14)), .string (strOfNums (opD 15)), .string (strOfNums (opD 16)), .string (strOfNums (opD 17)), .string (strOfNums (opD 18))] 9 (0, 0))) (hi : i < 8) : x.cell? ⟨b, i, none⟩ = some (.string (strOfNums (opD (11 + (i : Int))))) := by
  obtain rfl | rfl | rfl | rfl | rfl | rfl | rfl | rfl : i = 0 ∨ i = 1 ∨ i = 2 ∨ i = 3 ∨ i = 4 ∨ i = 5 ∨ i = 6 ∨ i = 7 := by omega
  all_goals (rw [cell_of_block h]; rfl)
theorem op_facts {o : Int} (o1 : 11 ≤ o) (o2 : o ≤ 18) : ¬ o = 1 ∧ ¬ o = 2 ∧ ¬ o = 3 ∧ ¬ o = 4 ∧ (o == 1) = false ∧ (o == 2) = false ∧ (o == 3) = false ∧ (o == 4) = false ∧ ∃ (oi : Nat) (oq : Int), o = 11 + (oi : Int) ∧ oi < 8 ∧ (oi : Int) < 8 ∧ o - 10 = oq ∧ wrap64 oq = oq ∧ oq - 1 = (oi : Int) ∧ wrap64 (oi : Int) = (oi : Int) ∧ IntKind.i64.wrap oq = oq ∧ IntKind.i64.wrap (oi : Int) = (oi : Int) := by
  refine ⟨by omega, by omega, by omega, by omega, beq_false_of_ne (by omega), beq_false_of_ne (by omega), beq_false_of_ne (by omega), beq_false_of_ne (by omega), (o - 11).toNat, o - 10, by omega, by omega, by omega, rfl, ?_, by omega, ?_, i64_wrap _ (by omega) (by omega), i64_wrap _ (by omega) (by omega)⟩
  · unfold wrap64; omega
  · unfold wrap64; omega
set_option maxHeartbeats 32000000 in
theorem text14_walk (L : Lp) (a0 a1 a2 : Option Addr) (cap0 cap1 cap2 : Nat) (w : World) (hm : mayB L = true) (hn : LoopIn L)
    (h00 : L.logs.length ≤ cap0) (h01 : cap0 ≤ 9223372036854775807) (h02 : ∀ i, i < L.logs.length → -9223372036854775808 ≤ nth L.logs i ∧ nth L.logs i ≤ 9223372036854775807) (h03 : 0 < L.logs.length → ∃ b off, a0 = some ⟨b, off, none⟩ ∧ b < w.heap.size ∧ ∀ i, i < L.logs.length → w.cell? ⟨b, off + i, none⟩ = some (.int .i64 (nth L.logs i)))
    (h10 : L.body.length ≤ cap1) (h11 : cap1 ≤ 9223372036854775807) (h13 : 0 < L.body.length → ∃ b off, a1 = some ⟨b, off, none⟩ ∧ b < w.heap.size ∧ ∀ i, i < L.body.length → ∀ j, j < 9 → w.cell? ⟨b, off + i * 9 + j, none⟩ = (stCells (stAt L.body i))[j]?)
    (h20 : L.outs.length ≤ cap2) (h21 : cap2 ≤ 9223372036854775807) (h22 : ∀ i, i < L.outs.length → -9223372036854775808 ≤ nth L.outs i ∧ nth L.outs i ≤ 9223372036854775807) (h23 : 0 < L.outs.length → ∃ b off, a2 = some ⟨b, off, none⟩ ∧ b < w.heap.size ∧ ∀ i, i < L.outs.length → w.cell? ⟨b, off + i, none⟩ = some (.int .i64 (nth L.outs i))) :
    Calls Tryd.prog 9 #[.agg #[.slice a0 L.logs.length cap0, .slice a1 L.body.length cap1, .slice a2 L.outs.length cap2]] w fun e w' => e = .returned (.string (strOfNums (textD L))) ∧ Below w.heap.size w w' := by
  have HTL := hide (text_len hm hn)
  obtain ⟨hl3, hb1, hb16, ho16, -, -, hbody⟩ := may_parts hm
  have HBDY := hide (fun k hk => st_small (by omega) (by omega) (by omega) (allN_get hbody k hk))
  have HIN := hide hn
  have H03 := hide h03
  have H02 := hide h02
  have H13 := hide h13
  have H23 := hide h23
  have H22 := hide h22
  have HZ : Hid ((w.alloc (.cells #[.slice a0 L.logs.length cap0, .slice a1 L.body.length cap1, .slice a2 L.outs.length cap2] 25)).heap.size = w.heap.size + 1) := by show _ = _; simp
  have HLB : Hid (∀ y, Below (w.heap.size + 1) (w.alloc (.cells #[.slice a0 L.logs.length cap0, .slice a1 L.body.length cap1, .slice a2 L.outs.length cap2] 25)) y → y.cell? ⟨w.heap.size, 0, none⟩ = some (.slice a0 L.logs.length cap0) ∧ y.cell? ⟨w.heap.size, 1, none⟩ = some (.slice a1 L.body.length cap1) ∧ y.cell? ⟨w.heap.size, 2, none⟩ = some (.slice a2 L.outs.length cap2)) := fun y hy => by
    have hb := (hy.block w.heap.size (by omega)).trans (new_blkS w _ _)
    exact ⟨by rw [cell_of_block hb]; rfl, by rw [cell_of_block hb]; rfl, by rw [cell_of_block hb]; rfl⟩
  have HFIN : Hid (∀ y, Below (w.heap.size + 1) (w.alloc (.cells #[.slice a0 L.logs.length cap0, .slice a1 L.body.length cap1, .slice a2 L.outs.length cap2] 25)) y → Below w.heap.size w y) := fun y hy => (below_alloc1 w (.cells #[.slice a0 L.logs.length cap0, .slice a1 L.body.length cap1, .slice a2 L.outs.length cap2] 25)).trans (hy.mono (by omega))
  have HSTART : Hid True := trivial
  have HA1 := hide (tx1_all L)
  have HA2 := hide (tx2_all L)
  have HA3 := hide (tx3_all L)
  clear hm hn h02 h03 h13 h22 h23 hbody
  go_enter Tryd.func9, Tryd.ntmps9
  go_wp2_with fail
  go_loopw [3, 4] (fun sv iv wr => ∃ (i : Nat) (X : ByteArray), i ≤ L.logs.length ∧ sv = .string X ∧ iv = .int .i64 i ∧ X = strOfNums (tx1 L i) ∧ Below (w.heap.size + 1) (w.alloc (.cells #[.slice a0 L.logs.length cap0, .slice a1 L.body.length cap1, .slice a2 L.outs.length cap2] 25)) wr) (fun _ iv _ => L.logs.length - (intOf iv).toNat)
  case atStart => exact ⟨0, _, Nat.zero_le _, rfl, rfl, rfl, Below.refl _ _⟩
  case round =>
    clear HSTART
    obtain ⟨i, X, hi, rfl, rfl, hX, hbel⟩ := hrel
    have HB := hide hbel
    have hwr : w.heap.size + 1 ≤ wr.heap.size := by have := hbel.size; rw [HZ.out] at this; exact this
    obtain ⟨l0, l1, l2⟩ := HLB.out wr hbel
    have hlx := HTL.out.1 i hi
    by_cases hil : i < L.logs.length
    · have hii : (i : Int) < (L.logs.length : Int) := by omega
      obtain ⟨rb, ro, he, hrz, hcells⟩ := H03.out (by omega)
      have hci := hcells i hil
      have hcw := (bcell ((below_alloc1 w (.cells #[.slice a0 L.logs.length cap0, .slice a1 L.body.length cap1, .slice a2 L.outs.length cap2] 25)).trans (hbel.mono (by omega))) rb (ro + i) hrz).trans hci
      have hrw : rb < wr.heap.size := by omega
      obtain ⟨n1, n2⟩ := H02.out i hil
      have HNX := hide (tx1_next (L := L) hil)
      obtain ⟨nv, hnv⟩ : ∃ nv, nth L.logs i = nv := ⟨_, rfl⟩
      rw [hnv] at hcw n1 n2 HNX
      have HDG := hide (fun W => d14_any nv W n1 n2)
      have hdl := digits_len n1 n2
      obtain ⟨dg, hdg⟩ : ∃ dg, digitsD nv = dg := ⟨_, rfl⟩
      have H6 : Hid (lineB (logW nv) = arrayW ++ 32 :: dg ++ [10]) := by show _ = _; rw [← hdg]; rfl
      rw [hdg] at HDG hdl
      obtain ⟨G, hG⟩ : ∃ G, G = strOfNums dg := ⟨_, rfl⟩
      rw [← hG] at HDG
      obtain ⟨C1, hC1, s1, s2⟩ := cat_r (b := ByteArray.mk #[97, 114, 114, 97, 121, 32]) (l := [97, 114, 114, 97, 121, 32]) 6 rfl rfl hX (by omega)
      obtain ⟨C2, hC2, s3, s4⟩ := cat_2 hC1 hG (by simp; omega)
      obtain ⟨C3, hC3, s5, s6⟩ := cat_r (b := ByteArray.mk #[10]) (l := [10]) 1 rfl rfl hC2 (by simp; omega)
      have HC : Hid (C3 = strOfNums (tx1 L (i + 1))) := by
        show _ = _
        rw [hC3, HNX.out, H6.out]
        congr 1
        simp [arrayW]
      subst he
      clear hcells hci hnv hdg hG hC1 hC2 hC3 hX hbel HNX H6
      go_wp2_with fail
      refine (HDG.out _).mono ?_
      rintro e y ⟨rfl, hy⟩
      have HBY := hide (HB.out.trans (hy.mono hwr))
      clear hy
      go_wp2_with fail
      go_roundw
      case rel => exact ⟨i + 1, C3, by omega, rfl, by go_num, HC.out, HBY.out⟩
      case measure => simp [intOf]; omega
    · have e : i = L.logs.length := by omega
      subst e
      have hii : ¬ (L.logs.length : Int) < (L.logs.length : Int) := by omega
      have HX2 : Hid (X = strOfNums (tx2 L 0)) := by show _ = _; rw [hX, HA1.out]
      have HBD := hide hbel
      clear hX hbel
      go_wp2_with fail
      clear l0 l1 l2

      go_loopw [3, 5] (fun sv iv wr => ∃ (k : Nat) (X : ByteArray), k ≤ L.body.length ∧ sv = .string X ∧ iv = .int .i64 k ∧ X = strOfNums (tx2 L k) ∧ Below (w.heap.size + 1) (w.alloc (.cells #[.slice a0 L.logs.length cap0, .slice a1 L.body.length cap1, .slice a2 L.outs.length cap2] 25)) wr) (fun _ iv _ => L.body.length - (intOf iv).toNat)
      case atStart => exact ⟨0, _, Nat.zero_le _, rfl, rfl, HX2.out, HBD.out⟩
      case round =>
        clear HX2 HBD
        obtain ⟨k, X, hk, rfl, rfl, hX, hbel⟩ := hrel
        have HB := hide hbel
        have hwr : w.heap.size + 1 ≤ wr.heap.size := by have := hbel.size; rw [HZ.out] at this; exact this
        obtain ⟨l0, l1, l2⟩ := HLB.out wr hbel
        have hlx := HTL.out.2.1 k hk
        by_cases hkl : k < L.body.length
        · have hki : (k : Int) < (L.body.length : Int) := by omega
          obtain ⟨rb, ro, he, hrz, hcells⟩ := H13.out (by omega)
          obtain ⟨c0, c1, c2, c3, c4, c5, c6, c7, c8⟩ := nine (fun j hj => (bcell ((below_alloc1 w (.cells #[.slice a0 L.logs.length cap0, .slice a1 L.body.length cap1, .slice a2 L.outs.length cap2] 25)).trans (hbel.mono (by omega))) rb (ro + k * 9 + j) hrz).trans (hcells k hkl j hj))
          have hrw : rb < wr.heap.size := by omega
          have hsm := HBDY.out k hkl
          obtain ⟨nn1, nn2⟩ := HIN.out k
          have HNX := hide (tx2_next (L := L) hkl)
          rw [he] at l1
          clear he
          generalize stAt L.body k = xk at *
          obtain ⟨o, xa, xb, ya, yb, ar, sp, pl, nn⟩ := xk
          simp only at c0 c1 c2 c3 c4 c5 c6 c7 c8 hsm nn1 nn2
          obtain ⟨⟨xa0, xa1⟩, ⟨xb0, xb1⟩, ⟨ya0, ya1⟩, ⟨yb0, yb1⟩, ⟨ar0, ar1⟩, ⟨sp0, sp1⟩, ⟨pl0, pl1⟩, hop⟩ := hsm
          have HDA := hide (fun W => d14_any ar W (by omega) (by omega))
          have HDS := hide (fun W => d14_any sp W (by omega) (by omega))
          have HDP := hide (fun W => d14_any pl W (by omega) (by omega))
          have HDN := hide (fun W => digits_any nn W nn1 nn2)
          have HRX := hide (fun W => ref14_any xa xb W (by omega) (by omega) (by omega) (by omega))
          have HRY := hide (fun W => ref14_any ya yb W (by omega) (by omega) (by omega) (by omega))
          have la := digits_len (n := ar) (by omega) (by omega)
          have ls := digits_len (n := sp) (by omega) (by omega)
          have lp := digits_len (n := pl) (by omega) (by omega)
          have ln := digits_len (n := nn) nn1 nn2
          have lx := ref_len (a := xa) (b := xb) (by omega) (by omega) (by omega) (by omega)
          have ly := ref_len (a := ya) (b := yb) (by omega) (by omega) (by omega) (by omega)
          have HSW : Hid (stW ⟨o, xa, xb, ya, yb, ar, sp, pl, nn⟩ = if o = 1 then [constW, digitsD nn] else if o = 2 then [turnW] else if o = 3 then [loadW, digitsD ar, digitsD sp, digitsD pl] else if o = 4 then [storeW, digitsD ar, digitsD sp, digitsD pl, refD xa xb] else [opD o, refD xa xb, refD ya yb]) := rfl
          obtain ⟨A, hA⟩ : ∃ A, A = strOfNums (digitsD ar) := ⟨_, rfl⟩
          obtain ⟨B, hB⟩ : ∃ B, B = strOfNums (digitsD sp) := ⟨_, rfl⟩
          obtain ⟨C, hC⟩ : ∃ C, C = strOfNums (digitsD pl) := ⟨_, rfl⟩
          obtain ⟨N, hN⟩ : ∃ N, N = strOfNums (digitsD nn) := ⟨_, rfl⟩
          obtain ⟨U, hU⟩ : ∃ U, U = strOfNums (32 :: refD xa xb) := ⟨_, rfl⟩
          obtain ⟨V, hV⟩ : ∃ V, V = strOfNums (32 :: refD ya yb) := ⟨_, rfl⟩
          rw [← hA] at HDA
          rw [← hB] at HDS
          rw [← hC] at HDP
          rw [← hN] at HDN
          rw [← hU] at HRX
          rw [← hV] at HRY
          obtain ⟨D1, hD1, p1, p2⟩ := cat_l (b := ByteArray.mk #[32]) (l := [32]) 1 rfl rfl hA (by omega)
          obtain ⟨D2, hD2, p3, p4⟩ := cat_r (b := ByteArray.mk #[32]) (l := [32]) 1 rfl rfl hD1 (by simp; omega)
          obtain ⟨D3, hD3, p5, p6⟩ := cat_2 hD2 hB (by simp; omega)
          obtain ⟨D4, hD4, p7, p8⟩ := cat_r (b := ByteArray.mk #[32]) (l := [32]) 1 rfl rfl hD3 (by simp; omega)
          obtain ⟨D5, hD5, p9, p10⟩ := cat_2 hD4 hC (by simp; omega)
          have HSC : Hid (∀ y, Below (wr.heap.size + 1) (wr.alloc (.cells #[.int .i64 o, .int .i64 xa, .int .i64 xb, .int .i64 ya, .int .i64 yb, .int .i64 ar, .int .i64 sp, .int .i64 pl, .int .i64 nn] 53)) y → (y.cell? ⟨wr.heap.size, 0, none⟩ = some (.int .i64 o) ∧ y.cell? ⟨wr.heap.size, 1, none⟩ = some (.int .i64 xa) ∧ y.cell? ⟨wr.heap.size, 2, none⟩ = some (.int .i64 xb) ∧ y.cell? ⟨wr.heap.size, 3, none⟩ = some (.int .i64 ya) ∧ y.cell? ⟨wr.heap.size, 4, none⟩ = some (.int .i64 yb) ∧ y.cell? ⟨wr.heap.size, 5, none⟩ = some (.int .i64 ar) ∧ y.cell? ⟨wr.heap.size, 6, none⟩ = some (.int .i64 sp) ∧ y.cell? ⟨wr.heap.size, 7, none⟩ = some (.int .i64 pl) ∧ y.cell? ⟨wr.heap.size, 8, none⟩ = some (.int .i64 nn))) := fun y hy => by
            have hb := (hy.block wr.heap.size (by omega)).trans (new_blkS wr _ _)
            refine ⟨?_, ?_, ?_, ?_, ?_, ?_, ?_, ?_, ?_⟩ <;> (rw [cell_of_block hb]; rfl)
          have HZ1 : Hid ((wr.alloc (.cells #[.int .i64 o, .int .i64 xa, .int .i64 xb, .int .i64 ya, .int .i64 yb, .int .i64 ar, .int .i64 sp, .int .i64 pl, .int .i64 nn] 53)).heap.size = wr.heap.size + 1) := by show _ = _; simp
          have HTO : Hid (∀ y, Below (wr.heap.size + 1) (wr.alloc (.cells #[.int .i64 o, .int .i64 xa, .int .i64 xb, .int .i64 ya, .int .i64 yb, .int .i64 ar, .int .i64 sp, .int .i64 pl, .int .i64 nn] 53)) y → Below (w.heap.size + 1) (w.alloc (.cells #[.slice a0 L.logs.length cap0, .slice a1 L.body.length cap1, .slice a2 L.outs.length cap2] 25)) y) := fun y hy => HB.out.trans (((below_alloc1 wr (.cells #[.int .i64 o, .int .i64 xa, .int .i64 xb, .int .i64 ya, .int .i64 yb, .int .i64 ar, .int .i64 sp, .int .i64 pl, .int .i64 nn] 53)).trans (hy.mono (by omega))).mono hwr)
          have HX := hide hX
          have HN := hide hN
          have HU := hide hU
          have HV := hide hV
          have HD5 := hide hD5
          have HLEN : Hid ((tx2 L k).length ≤ 8000 ∧ (digitsD ar).length ≤ 20 ∧ (digitsD sp).length ≤ 20 ∧ (digitsD pl).length ≤ 20 ∧ (digitsD nn).length ≤ 20 ∧ (32 :: refD xa xb).length ≤ 43 ∧ (32 :: refD ya yb).length ≤ 43) := ⟨hlx, la, ls, lp, ln, lx, ly⟩
          clear hcells hbel hX hA hB hC hN hU hV hD1 hD2 hD3 hD4 hD5 hlx la ls lp ln lx ly
          go_wp2_with fail
          clear c0 c1 c2 c3 c4 c5 c6 c7 c8 l0 l1 l2
          refine region_steady (fun w' => Below (wr.heap.size + 1) (wr.alloc (.cells #[.int .i64 o, .int .i64 xa, .int .i64 xb, .int .i64 ya, .int .i64 yb, .int .i64 ar, .int .i64 sp, .int .i64 pl, .int .i64 nn] 53)) w' ∧ (w'.cell? ⟨wr.heap.size, 0, none⟩ = some (.int .i64 o) ∧ w'.cell? ⟨wr.heap.size, 1, none⟩ = some (.int .i64 xa) ∧ w'.cell? ⟨wr.heap.size, 2, none⟩ = some (.int .i64 xb) ∧ w'.cell? ⟨wr.heap.size, 3, none⟩ = some (.int .i64 ya) ∧ w'.cell? ⟨wr.heap.size, 4, none⟩ = some (.int .i64 yb) ∧ w'.cell? ⟨wr.heap.size, 5, none⟩ = some (.int .i64 ar) ∧ w'.cell? ⟨wr.heap.size, 6, none⟩ = some (.int .i64 sp) ∧ w'.cell? ⟨wr.heap.size, 7, none⟩ = some (.int .i64 pl) ∧ w'.cell? ⟨wr.heap.size, 8, none⟩ = some (.int .i64 nn))) 15 (by rfl) (by kernel_rfl) (by kernel_rfl) (by kernel_rfl) ⟨below_dr1 _ _, HSC.out _ (below_dr1 _ _)⟩ ?_
          refine steps_take (i := 0) (v := ?_) rfl (Or.inl ⟨by rfl, ?_⟩) ?_
          rotate_left
          · intro w hSw
            try dsimp only at hSw
            go_simp
            try with_reducible rfl
          try simp only [Act.put, List.setIfInBounds_toArray, List.set_cons_zero, List.set_cons_succ]
          refine steps_take (i := 1) (v := ?_) rfl (Or.inl ⟨by rfl, ?_⟩) ?_
          rotate_left
          · intro w hSw
            try dsimp only at hSw
            go_simp
            try with_reducible rfl
          try simp only [Act.put, List.setIfInBounds_toArray, List.set_cons_zero, List.set_cons_succ]
          refine steps_call (i := 2) (.string A) rfl (by rfl) (fun w hSw K hK => ?_) ?_
          · go_simp
            refine (HDA.out _).mono ?_
            rintro e y ⟨rfl, hy⟩
            have hb2 := hSw.1.trans (hy.mono (by have := hSw.1.size; rw [HZ1.out] at this; exact this))
            exact hK.out _ _ (by simp only [Act.put, List.setIfInBounds_toArray, List.set_cons_zero, List.set_cons_succ]) ⟨hb2, HSC.out _ hb2⟩
          try simp only [Act.put, List.setIfInBounds_toArray, List.set_cons_zero, List.set_cons_succ]
          refine steps_take (i := 3) (v := ?_) rfl (Or.inl ⟨by rfl, ?_⟩) ?_
          rotate_left
          · intro w hSw
            try dsimp only at hSw
            go_simp
            try with_reducible rfl
          try simp only [Act.put, List.setIfInBounds_toArray, List.set_cons_zero, List.set_cons_succ]
          refine steps_take (i := 4) (v := ?_) rfl (Or.inl ⟨by rfl, ?_⟩) ?_
          rotate_left
          · intro w hSw
            try dsimp only at hSw
            go_simp
            try with_reducible rfl
          try simp only [Act.put, List.setIfInBounds_toArray, List.set_cons_zero, List.set_cons_succ]
          refine steps_take (i := 5) (v := ?_) rfl (Or.inl ⟨by rfl, ?_⟩) ?_
          rotate_left
          · intro w hSw
            try dsimp only at hSw
            go_simp
            try with_reducible rfl
          try simp only [Act.put, List.setIfInBounds_toArray, List.set_cons_zero, List.set_cons_succ]
          refine steps_take (i := 6) (v := ?_) rfl (Or.inl ⟨by rfl, ?_⟩) ?_
          rotate_left
          · intro w hSw
            try dsimp only at hSw
            go_simp
            try with_reducible rfl
          try simp only [Act.put, List.setIfInBounds_toArray, List.set_cons_zero, List.set_cons_succ]
          refine steps_call (i := 7) (.string B) rfl (by rfl) (fun w hSw K hK => ?_) ?_
          · go_simp
            refine (HDS.out _).mono ?_
            rintro e y ⟨rfl, hy⟩
            have hb2 := hSw.1.trans (hy.mono (by have := hSw.1.size; rw [HZ1.out] at this; exact this))
            exact hK.out _ _ (by simp only [Act.put, List.setIfInBounds_toArray, List.set_cons_zero, List.set_cons_succ]) ⟨hb2, HSC.out _ hb2⟩
          try simp only [Act.put, List.setIfInBounds_toArray, List.set_cons_zero, List.set_cons_succ]
          refine steps_take (i := 8) (v := ?_) rfl (Or.inl ⟨by rfl, ?_⟩) ?_
          rotate_left
          · intro w hSw
            try dsimp only at hSw
            go_simp
            try with_reducible rfl
          try simp only [Act.put, List.setIfInBounds_toArray, List.set_cons_zero, List.set_cons_succ]
          refine steps_take (i := 9) (v := ?_) rfl (Or.inl ⟨by rfl, ?_⟩) ?_
          rotate_left
          · intro w hSw
            try dsimp only at hSw
            go_simp
            try with_reducible rfl
          try simp only [Act.put, List.setIfInBounds_toArray, List.set_cons_zero, List.set_cons_succ]
          refine steps_take (i := 10) (v := ?_) rfl (Or.inl ⟨by rfl, ?_⟩) ?_
          rotate_left
          · intro w hSw
            try dsimp only at hSw
            go_simp
            try with_reducible rfl
          try simp only [Act.put, List.setIfInBounds_toArray, List.set_cons_zero, List.set_cons_succ]
          refine steps_take (i := 11) (v := ?_) rfl (Or.inl ⟨by rfl, ?_⟩) ?_
          rotate_left
          · intro w hSw
            try dsimp only at hSw
            go_simp
            try with_reducible rfl
          try simp only [Act.put, List.setIfInBounds_toArray, List.set_cons_zero, List.set_cons_succ]
          refine steps_call (i := 12) (.string C) rfl (by rfl) (fun w hSw K hK => ?_) ?_
          · go_simp
            refine (HDP.out _).mono ?_
            rintro e y ⟨rfl, hy⟩
            have hb2 := hSw.1.trans (hy.mono (by have := hSw.1.size; rw [HZ1.out] at this; exact this))
            exact hK.out _ _ (by simp only [Act.put, List.setIfInBounds_toArray, List.set_cons_zero, List.set_cons_succ]) ⟨hb2, HSC.out _ hb2⟩
          try simp only [Act.put, List.setIfInBounds_toArray, List.set_cons_zero, List.set_cons_succ]
          refine steps_take (i := 13) (v := ?_) rfl (Or.inl ⟨by rfl, ?_⟩) ?_
          rotate_left
          · intro w hSw
            try dsimp only at hSw
            go_simp
            try with_reducible rfl
          try simp only [Act.put, List.setIfInBounds_toArray, List.set_cons_zero, List.set_cons_succ]
          refine steps_take (i := 14) (v := ?_) rfl (Or.inl ⟨by rfl, ?_⟩) ?_
          rotate_left
          · intro w hSw
            try dsimp only at hSw
            go_simp
            try with_reducible rfl
          try simp only [Act.put, List.setIfInBounds_toArray, List.set_cons_zero, List.set_cons_succ]
          refine steps_done (fun y hSy => ?_)
          refine NoPanic.normal ?_
          try dsimp only at hSy
          rename World => y
          have HBY := hide hSy.1
          obtain ⟨c0, c1, c2, c3, c4, c5, c6, c7, c8⟩ := hSy.2
          have hyz : wr.heap.size + 1 ≤ y.heap.size := by have := hSy.1.size; rw [HZ1.out] at this; exact this
          clear hSy
          have hzr : wr.heap.size < y.heap.size := by omega
          rcases hop with rfl | rfl | rfl | rfl | ⟨o1, o2⟩
          · obtain ⟨lX, la, ls, lp, ln, lx, ly⟩ := HLEN.out
            simp only [List.length_cons] at lx ly
            obtain ⟨C1, hC1, qC1, rC1⟩ := cat_r (b := ByteArray.mk #[99, 111, 110, 115, 116, 32]) (l := [99, 111, 110, 115, 116, 32]) 6 rfl rfl HX.out (by first | omega | (simp; omega))
            obtain ⟨C2, hC2, qC2, rC2⟩ := cat_2 hC1 HN.out (by first | omega | (simp; omega))
            obtain ⟨CF, hCF, qCF, rCF⟩ := cat_r (b := ByteArray.mk #[10]) (l := [10]) 1 rfl rfl hC2 (by first | omega | (simp; omega))
            have HC : Hid (CF = strOfNums (tx2 L (k + 1))) := by
              show _ = _
              rw [hCF, HNX.out]
              congr 1
              show _ = tx2 L k ++ (joinD 32 ([constW, digitsD nn]) ++ [10])
              simp [joinD, constW, turnW, loadW, storeW]
            clear lX la ls lp ln lx ly hC1 hC2 hCF
            go_wp2_with fail
            refine (HDN.out _).mono ?_
            rintro e y2 ⟨rfl, hy2⟩
            have HBY2 := hide (HBY.out.trans (hy2.mono hyz))
            clear hy2
            go_wp2_with fail
            go_roundw
            case rel => exact ⟨k + 1, CF, by omega, rfl, by go_num, HC.out, HTO.out _ HBY2.out⟩
            case measure => simp [intOf]; omega
          · obtain ⟨lX, la, ls, lp, ln, lx, ly⟩ := HLEN.out
            simp only [List.length_cons] at lx ly
            obtain ⟨C1, hC1, qC1, rC1⟩ := cat_r (b := ByteArray.mk #[116, 117, 114, 110]) (l := [116, 117, 114, 110]) 4 rfl rfl HX.out (by first | omega | (simp; omega))
            obtain ⟨CF, hCF, qCF, rCF⟩ := cat_r (b := ByteArray.mk #[10]) (l := [10]) 1 rfl rfl hC1 (by first | omega | (simp; omega))
            have HC : Hid (CF = strOfNums (tx2 L (k + 1))) := by
              show _ = _
              rw [hCF, HNX.out]
              congr 1
              show _ = tx2 L k ++ (joinD 32 ([turnW]) ++ [10])
              simp [joinD, constW, turnW, loadW, storeW]
            clear lX la ls lp ln lx ly hC1 hCF
            go_wp2_with fail
            go_roundw
            case rel => exact ⟨k + 1, CF, by omega, rfl, by go_num, HC.out, HTO.out _ HBY.out⟩
            case measure => simp [intOf]; omega
          · obtain ⟨lX, la, ls, lp, ln, lx, ly⟩ := HLEN.out
            simp only [List.length_cons] at lx ly
            obtain ⟨C1, hC1, qC1, rC1⟩ := cat_r (b := ByteArray.mk #[108, 111, 97, 100]) (l := [108, 111, 97, 100]) 4 rfl rfl HX.out (by first | omega | (simp; omega))
            obtain ⟨C2, hC2, qC2, rC2⟩ := cat_2 hC1 HD5.out (by first | omega | (simp; omega))
            obtain ⟨CF, hCF, qCF, rCF⟩ := cat_r (b := ByteArray.mk #[10]) (l := [10]) 1 rfl rfl hC2 (by first | omega | (simp; omega))
            have HC : Hid (CF = strOfNums (tx2 L (k + 1))) := by
              show _ = _
              rw [hCF, HNX.out]
              congr 1
              show _ = tx2 L k ++ (joinD 32 ([loadW, digitsD ar, digitsD sp, digitsD pl]) ++ [10])
              simp [joinD, constW, turnW, loadW, storeW]
            clear lX la ls lp ln lx ly hC1 hC2 hCF
            go_wp2_with fail
            go_roundw
            case rel => exact ⟨k + 1, CF, by omega, rfl, by go_num, HC.out, HTO.out _ HBY.out⟩
            case measure => simp [intOf]; omega
          · obtain ⟨lX, la, ls, lp, ln, lx, ly⟩ := HLEN.out
            simp only [List.length_cons] at lx ly
            obtain ⟨C1, hC1, qC1, rC1⟩ := cat_r (b := ByteArray.mk #[115, 116, 111, 114, 101]) (l := [115, 116, 111, 114, 101]) 5 rfl rfl HX.out (by first | omega | (simp; omega))
            obtain ⟨C2, hC2, qC2, rC2⟩ := cat_2 hC1 HD5.out (by first | omega | (simp; omega))
            obtain ⟨C3, hC3, qC3, rC3⟩ := cat_2 hC2 HU.out (by first | omega | (simp; omega))
            obtain ⟨CF, hCF, qCF, rCF⟩ := cat_r (b := ByteArray.mk #[10]) (l := [10]) 1 rfl rfl hC3 (by first | omega | (simp; omega))
            have HC : Hid (CF = strOfNums (tx2 L (k + 1))) := by
              show _ = _
              rw [hCF, HNX.out]
              congr 1
              show _ = tx2 L k ++ (joinD 32 ([storeW, digitsD ar, digitsD sp, digitsD pl, refD xa xb]) ++ [10])
              simp [joinD, constW, turnW, loadW, storeW]
            clear lX la ls lp ln lx ly hC1 hC2 hC3 hCF
            go_wp2_with fail
            refine (HRX.out _).mono ?_
            rintro e y2 ⟨rfl, hy2⟩
            have HBY2 := hide (HBY.out.trans (hy2.mono hyz))
            clear hy2
            go_wp2_with fail
            go_roundw
            case rel => exact ⟨k + 1, CF, by omega, rfl, by go_num, HC.out, HTO.out _ HBY2.out⟩
            case measure => simp [intOf]; omega
          · obtain ⟨ob1, ob2, ob3, ob4, ob5, ob6, ob7, ob8, oi, oq, hoe, hoi, hoi2, hoq, hw1, hw2, hw3, hw4, hw5⟩ := op_facts o1 o2
            obtain ⟨WO, hWO⟩ : ∃ WO, WO = strOfNums (opD o) := ⟨_, rfl⟩
            have HWO := hide hWO
            have HOI := hide hoe
            have lo := op_len o
            have HWD := hide (fun W => words14_any W)
            clear hWO hoe
            obtain ⟨lX, la, ls, lp, ln, lx, ly⟩ := HLEN.out
            simp only [List.length_cons] at lx ly
            obtain ⟨C1, hC1, qC1, rC1⟩ := cat_2 HX.out HWO.out (by first | omega | (simp; omega))
            obtain ⟨C2, hC2, qC2, rC2⟩ := cat_2 hC1 HU.out (by first | omega | (simp; omega))
            obtain ⟨C3, hC3, qC3, rC3⟩ := cat_2 hC2 HV.out (by first | omega | (simp; omega))
            obtain ⟨CF, hCF, qCF, rCF⟩ := cat_r (b := ByteArray.mk #[10]) (l := [10]) 1 rfl rfl hC3 (by first | omega | (simp; omega))
            have HC : Hid (CF = strOfNums (tx2 L (k + 1))) := by
              show _ = _
              rw [hCF, HNX.out]
              congr 1
              rw [HSW.out, if_neg (by omega), if_neg (by omega), if_neg (by omega), if_neg (by omega)]
              show _ = tx2 L k ++ (joinD 32 ([opD o, refD xa xb, refD ya yb]) ++ [10])
              simp [joinD, constW, turnW, loadW, storeW]
            clear lo lX la ls lp ln lx ly hC1 hC2 hC3 hCF
            go_wp2_with fail
            refine (HWD.out _).mono ?_
            rintro e y2 ⟨rfl, rfl⟩
            have HZ2 : Hid ((y.alloc (.cells #[.string (strOfNums (opD 11)), .string (strOfNums (opD 12)), .string (strOfNums (opD 13)), .string (strOfNums (opD 14)), .string (strOfNums (opD 15)), .string (strOfNums (opD 16)), .string (strOfNums (opD 17)), .string (strOfNums (opD 18))] 9)).heap.size = y.heap.size + 1) := by show _ = _; simp
            have HSD : Hid (∀ z, Below (y.heap.size + 1) (y.alloc (.cells #[.string (strOfNums (opD 11)), .string (strOfNums (opD 12)), .string (strOfNums (opD 13)), .string (strOfNums (opD 14)), .string (strOfNums (opD 15)), .string (strOfNums (opD 16)), .string (strOfNums (opD 17)), .string (strOfNums (opD 18))] 9)) z → (z.cell? ⟨wr.heap.size, 0, none⟩ = some (.int .i64 o) ∧ z.cell? ⟨wr.heap.size, 1, none⟩ = some (.int .i64 xa) ∧ z.cell? ⟨wr.heap.size, 2, none⟩ = some (.int .i64 xb) ∧ z.cell? ⟨wr.heap.size, 3, none⟩ = some (.int .i64 ya) ∧ z.cell? ⟨wr.heap.size, 4, none⟩ = some (.int .i64 yb) ∧ z.cell? ⟨wr.heap.size, 5, none⟩ = some (.int .i64 ar) ∧ z.cell? ⟨wr.heap.size, 6, none⟩ = some (.int .i64 sp) ∧ z.cell? ⟨wr.heap.size, 7, none⟩ = some (.int .i64 pl) ∧ z.cell? ⟨wr.heap.size, 8, none⟩ = some (.int .i64 nn)) ∧ z.cell? ⟨y.heap.size, oi, none⟩ = some (.string WO)) := fun z hz => by
              have hb := (hz.block y.heap.size (by omega)).trans (new_blkS y _ _)
              refine ⟨?_, by rw [HWO.out, HOI.out]; exact word_at hb hoi⟩
              have hq : ∀ i, z.cell? ⟨wr.heap.size, i, none⟩ = y.cell? ⟨wr.heap.size, i, none⟩ := fun i => bcell ((below_alloc1 y (.cells #[.string (strOfNums (opD 11)), .string (strOfNums (opD 12)), .string (strOfNums (opD 13)), .string (strOfNums (opD 14)), .string (strOfNums (opD 15)), .string (strOfNums (opD 16)), .string (strOfNums (opD 17)), .string (strOfNums (opD 18))] 9)).trans (hz.mono (by omega))) _ _ (by omega)
              rw [hq, hq, hq, hq, hq, hq, hq, hq, hq]
              exact ⟨c0, c1, c2, c3, c4, c5, c6, c7, c8⟩
            have HTO2 : Hid (∀ z, Below (y.heap.size + 1) (y.alloc (.cells #[.string (strOfNums (opD 11)), .string (strOfNums (opD 12)), .string (strOfNums (opD 13)), .string (strOfNums (opD 14)), .string (strOfNums (opD 15)), .string (strOfNums (opD 16)), .string (strOfNums (opD 17)), .string (strOfNums (opD 18))] 9)) z → Below (wr.heap.size + 1) (wr.alloc (.cells #[.int .i64 o, .int .i64 xa, .int .i64 xb, .int .i64 ya, .int .i64 yb, .int .i64 ar, .int .i64 sp, .int .i64 pl, .int .i64 nn] 53)) z) := fun z hz => HBY.out.trans (((below_alloc1 y _).trans (hz.mono (by omega))).mono hyz)
            go_wp2_with fail
            refine region_steady (fun w' => Below (y.heap.size + 1) (y.alloc (.cells #[.string (strOfNums (opD 11)), .string (strOfNums (opD 12)), .string (strOfNums (opD 13)), .string (strOfNums (opD 14)), .string (strOfNums (opD 15)), .string (strOfNums (opD 16)), .string (strOfNums (opD 17)), .string (strOfNums (opD 18))] 9)) w' ∧ (w'.cell? ⟨wr.heap.size, 0, none⟩ = some (.int .i64 o) ∧ w'.cell? ⟨wr.heap.size, 1, none⟩ = some (.int .i64 xa) ∧ w'.cell? ⟨wr.heap.size, 2, none⟩ = some (.int .i64 xb) ∧ w'.cell? ⟨wr.heap.size, 3, none⟩ = some (.int .i64 ya) ∧ w'.cell? ⟨wr.heap.size, 4, none⟩ = some (.int .i64 yb) ∧ w'.cell? ⟨wr.heap.size, 5, none⟩ = some (.int .i64 ar) ∧ w'.cell? ⟨wr.heap.size, 6, none⟩ = some (.int .i64 sp) ∧ w'.cell? ⟨wr.heap.size, 7, none⟩ = some (.int .i64 pl) ∧ w'.cell? ⟨wr.heap.size, 8, none⟩ = some (.int .i64 nn)) ∧ w'.cell? ⟨y.heap.size, oi, none⟩ = some (.string WO)) 18 (by rfl) (by kernel_rfl) (by kernel_rfl) (by kernel_rfl) ⟨below_dr1 _ _, HSD.out _ (below_dr1 _ _)⟩ ?_
            refine steps_take (i := 0) (v := ?_) rfl (Or.inl ⟨by rfl, ?_⟩) ?_
            rotate_left
            · intro w hSw
              try dsimp only at hSw
              go_simp
              try with_reducible rfl
            try simp only [Act.put, List.setIfInBounds_toArray, List.set_cons_zero, List.set_cons_succ]
            refine steps_take (i := 1) (v := ?_) rfl (Or.inl ⟨by rfl, ?_⟩) ?_
            rotate_left
            · intro w hSw
              try dsimp only at hSw
              go_simp
              try with_reducible rfl
            try simp only [Act.put, List.setIfInBounds_toArray, List.set_cons_zero, List.set_cons_succ]
            refine steps_take (i := 2) (v := ?_) rfl (Or.inl ⟨by rfl, ?_⟩) ?_
            rotate_left
            · intro w hSw
              try dsimp only at hSw
              go_simp
              try with_reducible rfl
            try simp only [Act.put, List.setIfInBounds_toArray, List.set_cons_zero, List.set_cons_succ]
            refine steps_take (i := 3) (v := ?_) rfl (Or.inl ⟨by rfl, ?_⟩) ?_
            rotate_left
            · intro w hSw
              try dsimp only at hSw
              go_simp
              try with_reducible rfl
            try simp only [Act.put, List.setIfInBounds_toArray, List.set_cons_zero, List.set_cons_succ]
            refine steps_take (i := 4) (v := ?_) rfl (Or.inl ⟨by rfl, ?_⟩) ?_
            rotate_left
            · intro w hSw
              try dsimp only at hSw
              go_simp
              try with_reducible rfl
            try simp only [Act.put, List.setIfInBounds_toArray, List.set_cons_zero, List.set_cons_succ]
            refine steps_take (i := 5) (v := ?_) rfl (Or.inl ⟨by rfl, ?_⟩) ?_
            rotate_left
            · intro w hSw
              try dsimp only at hSw
              go_simp
              try with_reducible rfl
            try simp only [Act.put, List.setIfInBounds_toArray, List.set_cons_zero, List.set_cons_succ]
            refine steps_take (i := 6) (v := ?_) rfl (Or.inl ⟨by rfl, ?_⟩) ?_
            rotate_left
            · intro w hSw
              try dsimp only at hSw
              go_simp
              try with_reducible rfl
            try simp only [Act.put, List.setIfInBounds_toArray, List.set_cons_zero, List.set_cons_succ]
            refine steps_take (i := 7) (v := ?_) rfl (Or.inl ⟨by rfl, ?_⟩) ?_
            rotate_left
            · intro w hSw
              try dsimp only at hSw
              go_simp
              try with_reducible rfl
            try simp only [Act.put, List.setIfInBounds_toArray, List.set_cons_zero, List.set_cons_succ]
            refine steps_take (i := 8) (v := ?_) rfl (Or.inl ⟨by rfl, ?_⟩) ?_
            rotate_left
            · intro w hSw
              try dsimp only at hSw
              go_simp
              try with_reducible rfl
            try simp only [Act.put, List.setIfInBounds_toArray, List.set_cons_zero, List.set_cons_succ]
            refine steps_take (i := 9) (v := ?_) rfl (Or.inl ⟨by rfl, ?_⟩) ?_
            rotate_left
            · intro w hSw
              try dsimp only at hSw
              go_simp
              try with_reducible rfl
            try simp only [Act.put, List.setIfInBounds_toArray, List.set_cons_zero, List.set_cons_succ]
            refine steps_take (i := 10) (v := ?_) rfl (Or.inl ⟨by rfl, ?_⟩) ?_
            rotate_left
            · intro w hSw
              try dsimp only at hSw
              go_simp
              try with_reducible rfl
            try simp only [Act.put, List.setIfInBounds_toArray, List.set_cons_zero, List.set_cons_succ]
            refine steps_call (i := 11) (.string U) rfl (by rfl) (fun w hSw K hK => ?_) ?_
            · go_simp
              refine (HRX.out _).mono ?_
              rintro e y3 ⟨rfl, hy3⟩
              have hb2 := hSw.1.trans (hy3.mono (by have := hSw.1.size; rw [HZ2.out] at this; exact this))
              exact hK.out _ _ (by simp only [Act.put, List.setIfInBounds_toArray, List.set_cons_zero, List.set_cons_succ]) ⟨hb2, HSD.out _ hb2⟩
            try simp only [Act.put, List.setIfInBounds_toArray, List.set_cons_zero, List.set_cons_succ]
            refine steps_take (i := 12) (v := ?_) rfl (Or.inl ⟨by rfl, ?_⟩) ?_
            rotate_left
            · intro w hSw
              try dsimp only at hSw
              go_simp
              try with_reducible rfl
            try simp only [Act.put, List.setIfInBounds_toArray, List.set_cons_zero, List.set_cons_succ]
            refine steps_take (i := 13) (v := ?_) rfl (Or.inl ⟨by rfl, ?_⟩) ?_
            rotate_left
            · intro w hSw
              try dsimp only at hSw
              go_simp
              try with_reducible rfl
            try simp only [Act.put, List.setIfInBounds_toArray, List.set_cons_zero, List.set_cons_succ]
            refine steps_take (i := 14) (v := ?_) rfl (Or.inl ⟨by rfl, ?_⟩) ?_
            rotate_left
            · intro w hSw
              try dsimp only at hSw
              go_simp
              try with_reducible rfl
            try simp only [Act.put, List.setIfInBounds_toArray, List.set_cons_zero, List.set_cons_succ]
            refine steps_call (i := 15) (.string V) rfl (by rfl) (fun w hSw K hK => ?_) ?_
            · go_simp
              refine (HRY.out _).mono ?_
              rintro e y3 ⟨rfl, hy3⟩
              have hb2 := hSw.1.trans (hy3.mono (by have := hSw.1.size; rw [HZ2.out] at this; exact this))
              exact hK.out _ _ (by simp only [Act.put, List.setIfInBounds_toArray, List.set_cons_zero, List.set_cons_succ]) ⟨hb2, HSD.out _ hb2⟩
            try simp only [Act.put, List.setIfInBounds_toArray, List.set_cons_zero, List.set_cons_succ]
            refine steps_take (i := 16) (v := ?_) rfl (Or.inl ⟨by rfl, ?_⟩) ?_
            rotate_left
            · intro w hSw
              try dsimp only at hSw
              go_simp
              try with_reducible rfl
            try simp only [Act.put, List.setIfInBounds_toArray, List.set_cons_zero, List.set_cons_succ]
            refine steps_take (i := 17) (v := ?_) rfl (Or.inl ⟨by rfl, ?_⟩) ?_
            rotate_left
            · intro w hSw
              try dsimp only at hSw
              go_simp
              try with_reducible rfl
            try simp only [Act.put, List.setIfInBounds_toArray, List.set_cons_zero, List.set_cons_succ]
            refine steps_done (fun y hSy => ?_)
            refine NoPanic.normal ?_
            try dsimp only at hSy
            have HBY2 := hide (HTO2.out _ hSy.1)
            clear hSy
            go_wp2_with fail
            go_roundw
            case rel => exact ⟨k + 1, CF, by omega, rfl, by go_num, HC.out, HTO.out _ HBY2.out⟩
            case measure => simp [intOf]; omega
        · have e : k = L.body.length := by omega
          subst e
          have hki : ¬ (L.body.length : Int) < (L.body.length : Int) := by omega
          have HX3 : Hid (X = strOfNums (tx3 L 0)) := by show _ = _; rw [hX, HA2.out]
          have HBE := hide hbel
          clear hX hbel
          go_wp2_with fail
          clear l0 l1 l2

          go_loopw [3, 9] (fun sv iv wr => ∃ (i : Nat) (X : ByteArray), i ≤ L.outs.length ∧ sv = .string X ∧ iv = .int .i64 i ∧ X = strOfNums (tx3 L i) ∧ Below (w.heap.size + 1) (w.alloc (.cells #[.slice a0 L.logs.length cap0, .slice a1 L.body.length cap1, .slice a2 L.outs.length cap2] 25)) wr) (fun _ iv _ => L.outs.length - (intOf iv).toNat)
          case atStart => exact ⟨0, _, Nat.zero_le _, rfl, rfl, HX3.out, HBE.out⟩
          case round =>
            clear HX3 HBE
            obtain ⟨i, X, hi, rfl, rfl, hX, hbel⟩ := hrel
            have HB := hide hbel
            have hwr : w.heap.size + 1 ≤ wr.heap.size := by have := hbel.size; rw [HZ.out] at this; exact this
            obtain ⟨l0, l1, l2⟩ := HLB.out wr hbel
            have hlx := HTL.out.2.2 i hi
            by_cases hil : i < L.outs.length
            · have hii : (i : Int) < (L.outs.length : Int) := by omega
              obtain ⟨rb, ro, he, hrz, hcells⟩ := H23.out (by omega)
              have hci := hcells i hil
              have hcw := (bcell ((below_alloc1 w (.cells #[.slice a0 L.logs.length cap0, .slice a1 L.body.length cap1, .slice a2 L.outs.length cap2] 25)).trans (hbel.mono (by omega))) rb (ro + i) hrz).trans hci
              have hrw : rb < wr.heap.size := by omega
              obtain ⟨n1, n2⟩ := H22.out i hil
              have HNX := hide (tx3_next (L := L) hil)
              obtain ⟨nv, hnv⟩ : ∃ nv, nth L.outs i = nv := ⟨_, rfl⟩
              rw [hnv] at hcw n1 n2 HNX
              have HDG := hide (fun W => d14_any nv W n1 n2)
              have hdl := digits_len n1 n2
              obtain ⟨dg, hdg⟩ : ∃ dg, digitsD nv = dg := ⟨_, rfl⟩
              have H4 : Hid (lineB (outWs nv) = outW ++ 32 :: dg ++ [10]) := by show _ = _; rw [← hdg]; rfl
              rw [hdg] at HDG hdl
              obtain ⟨G, hG⟩ : ∃ G, G = strOfNums dg := ⟨_, rfl⟩
              rw [← hG] at HDG
              obtain ⟨C1, hC1, s1, s2⟩ := cat_r (b := ByteArray.mk #[111, 117, 116, 32]) (l := [111, 117, 116, 32]) 4 rfl rfl hX (by omega)
              obtain ⟨C2, hC2, s3, s4⟩ := cat_2 hC1 hG (by simp; omega)
              obtain ⟨C3, hC3, s5, s6⟩ := cat_r (b := ByteArray.mk #[10]) (l := [10]) 1 rfl rfl hC2 (by simp; omega)
              have HC : Hid (C3 = strOfNums (tx3 L (i + 1))) := by
                show _ = _
                rw [hC3, HNX.out, H4.out]
                congr 1
                simp [outW]
              subst he
              clear hcells hci hnv hdg hG hC1 hC2 hC3 hX hbel HNX H4
              go_wp2_with fail
              refine (HDG.out _).mono ?_
              rintro e y ⟨rfl, hy⟩
              have HBY := hide (HB.out.trans (hy.mono hwr))
              clear hy
              go_wp2_with fail
              go_roundw
              case rel => exact ⟨i + 1, C3, by omega, rfl, by go_num, HC.out, HBY.out⟩
              case measure => simp [intOf]; omega
            · have e : i = L.outs.length := by omega
              subst e
              have hii : ¬ (L.outs.length : Int) < (L.outs.length : Int) := by omega
              have HRES : Hid (X = strOfNums (textD L)) := by show _ = _; rw [hX, HA3.out]
              have HB9 := hide (HFIN.out wr hbel)
              clear hX hbel
              go_wp2_with fail
              go_ret
              exact ⟨by rw [← HRES.out]; rfl, HB9.out⟩

theorem text14_any (v : Value) (L : Lp) (w : World) (hL : LoopV w v L) (hm : mayB L = true) (hn : LoopIn L) :
    Calls Tryd.prog 9 #[v] w fun e w' => e = .returned (.string (strOfNums (textD L))) ∧ Below w.heap.size w w' := by
  obtain ⟨v0, v1, v2, rfl, ⟨a0, cap0, rfl, h00, h01, h02, h03⟩, ⟨a1, cap1, rfl, h10, h11, h13⟩, ⟨a2, cap2, rfl, h20, h21, h22, h23⟩⟩ := hL
  exact text14_walk L a0 a1 a2 cap0 cap1 cap2 w hm hn h00 h01 h02 h03 h10 h11 h13 h20 h21 h22 h23
end Go.Proofs.YtjlfcbccpcigeacDoor
