/- The contract of one Slot of a pace: its Ops are done, each for its own turn; then the stores that waited. -/
import Derived.Test.YtlgphgfldfjkkaaKernPush
import Derived.Test.YtlgphgfldfjkkaaUntil
import Derived.Deep.AppendLies
namespace Go.Proofs.Ytlgphgfldfjkkaa
open Go.RowKit Go.Joins
set_option linter.unusedVariables false
set_option linter.unusedSimpArgs false
set_option maxRecDepth 8192

set_option maxHeartbeats 40000000 in
theorem mdo_any {c : Mc} {V : Nat → Value} {D : List Du} {f : Nat → Int} {m : Nat → Nat → Int} (w : World) (logs : List Int) (gm cm : Nat) (CM : Nat → Nat) (oa : Option Addr) (oc : Nat) (L : List Kop) (P T : Nat)
    (hI : MInv c V D f m w) (hS : ∀ x, KeptM c x → StatM c logs gm cm CM x) (hO : ∀ x, KeptM c x → OpsV x (.slice oa L.length oc) L) (hn : c.n = logs.length) (hlen : ∀ i, i < c.n → c.lenM i = 2 ^ (nth logs i).toNat ∧ c.lenM i ≤ 32) (hR : (c.R : Int) = c.t.r) (hmt : mayT c.t = true)
    (hgood : ∀ x ∈ L, goodK c.t.r c.n x) (hsl : ∀ x ∈ L, x.sl = (T : Int) % c.pc) (hP : (T : Int) / c.pc = (P : Int)) (hP2 : P ≤ 2000) (hT : T ≤ 30000) (ht1 : 1 ≤ c.turns) (ht2 : c.turns ≤ 200) (hD : D.length ≤ 900000) (hL : L.length ≤ 16) :
    Calls Try.prog 76 #[.pointer (some ⟨c.A, 0, none⟩), .slice oa L.length oc, .int .i64 P, .int .i64 T] w fun e w' => e = .returned (.tuple #[]) ∧ ∃ V', MInv c V' (opsL c.t logs c.pc c.turns T f m ⟨m, D⟩ L).du f (opsL c.t logs c.pc c.turns T f m ⟨m, D⟩ L).nx w' := by
  obtain ⟨hr1, hr2⟩ := (mayT_parts hmt).2.2.2
  obtain ⟨i0, hi, hz0, hz1, hz2⟩ := info_parts Try.i129
  obtain ⟨q0, qi, qz0, qz1, qz2⟩ := info_parts Try.i1
  have hmf : ∀ (fn : Fn) (first cap : Array Value) (w : World), (Instr.makeFunc fn first cap).run Try.prog w = .ok (.func fn first cap) w := fun _ _ _ _ => rfl
  have hwz : c.w1.heap.size ≤ w.heap.size := hI.keep.1
  have HI := hide hI
  have HS := hide hS
  have HO := hide hO
  have HLEN := hide hlen
  have HGOOD := hide hgood
  have HSL := hide hsl
  have HP := hide hP
  have HMT := hide hmt
  have HR0 := hide hR
  have HN := hide hn
  obtain ⟨oa', oc', ho1, ho2, ho3, -⟩ := hO w hI.keep
  injection ho1 with e1 e2 e3
  subst e1; subst e3
  unfold maxLen at ho3
  clear hI hS hO hlen hgood hsl hP hmt hR hn e2
  go_enter Try.func76, Try.ntmps76
  go_wp2_with fail
  go_loopw [8, 19] (fun sv i wr => ∃ k : Nat, k ≤ L.length ∧ i = .int .i64 k ∧ ∃ V', MInv c V' (opsL c.t logs c.pc c.turns T f m ⟨m, D⟩ (L.take k)).du f m wr ∧ StoV c w.heap.size wr sv (stosL c.t logs c.pc c.turns T f m (L.take k)) ∧ w.heap.size ≤ wr.heap.size) (fun _ i _ => L.length - (intOf i).toNat)
  case atStart => exact ⟨0, Nat.zero_le _, rfl, V, HI.out, StoV.nil _ _ _, Nat.le_refl _⟩
  case round =>
    clear HI
    obtain ⟨k, hk, rfl, V1, hQ, hSt, hwr⟩ := hrel
    by_cases hkl : k < L.length
    · have hki : (k : Int) < (L.length : Int) := by omega
      obtain ⟨oa2, oc2, hov, -, -, hocell⟩ := HO.out wr hQ.keep
      injection hov with e1 e2 e3
      subst e1; subst e3
      obtain ⟨ob, oo, rfl, hob, hocell⟩ := hocell (by omega)
      obtain ⟨c0, c1, c2, c3, c4, c5, c6, c7, c8, c9⟩ := ten (hocell k hkl)
      have hgk := HGOOD.out _ (opAt_in hkl)
      have hslk := HSL.out _ (opAt_in hkl)
      have HAC := hide (act_is (turns := c.turns) hslk HP.out)
      have HOPS := hide (opsL_snoc c.t logs c.pc c.turns T f m ⟨m, D⟩ L k hkl)
      have HSTO := hide (stos_snoc c.t logs c.pc c.turns T f m L k hkl)
      have hDk : (opsL c.t logs c.pc c.turns T f m ⟨m, D⟩ (L.take k)).du.length ≤ 900016 := by
        have := opsL_len c.t logs c.pc c.turns T f m ⟨m, D⟩ (L.take k)
        rw [List.length_take] at this
        have h2 : (Nx.mk m D).du.length = D.length := rfl
        omega
      have hSk : (stosL c.t logs c.pc c.turns T f m (L.take k)).length ≤ 16 := by
        have := stos_len c.t logs c.pc c.turns T f m (L.take k)
        rw [List.length_take] at this
        omega
      obtain ⟨hAl, ⟨-, -, -, -, -, -, c13⟩, -⟩ := hQ.cells
      have hAz := hQ.A_lt
      have HQ := hide hQ
      have HSt := hide hSt
      clear hocell hQ hSt hslk hAl
      generalize opsL c.t logs c.pc c.turns T f m ⟨m, D⟩ (L.take k) = q at *
      generalize stosL c.t logs c.pc c.turns T f m (L.take k) = sts at *
      generalize opAt L k = xk at *
      obtain ⟨sl, sg, o, d, a, b, ar, sp, pl, nn⟩ := xk
      simp only at c0 c1 c2 c3 c4 c5 c6 c7 c8 c9 HAC
      have HGK := hide hgk
      obtain ⟨⟨hd0, hd1⟩, ⟨ha0, ha1⟩, ⟨hb0, hb1⟩, ⟨hg0, hg1⟩, -⟩ := hgk
      simp only at hd0 hd1 ha0 ha1 hb0 hb1 hg0 hg1
      cases hin : inR ((P : Int) - sg) 0 (c.turns - 1) with
      | false =>
        have HDU : Hid (opsL c.t logs c.pc c.turns T f m ⟨m, D⟩ (L.take (k + 1)) = q) := by show _ = _; rw [HOPS.out]; unfold opK; rw [HAC.out, hin]; rfl
        have HST : Hid (stosL c.t logs c.pc c.turns T f m (L.take (k + 1)) = sts) := by show _ = _; rw [HSTO.out, HAC.out, hin, if_neg (fun h => Bool.noConfusion h.1)]
        clear HOPS HSTO HAC
        go_wp2_with (go_at_call 56; refine (pwithin_any _ _ _ _).mono ?_; rintro e w' ⟨rfl, rfl⟩)
        go_roundw
        case rel => exact ⟨k + 1, by omega, by go_num, V1, by rw [HDU.out]; exact HQ.out.below (below_alloc1 _ _), by rw [HST.out]; exact HSt.out.below (below_alloc1 _ _), by simp; omega⟩
        case measure => simp [intOf]; omega
      | true =>
        obtain ⟨wt, wt1, wt2, wt3, wt4⟩ := wait_nat HMT.out o
        have HWT := hide (wait_cells c.t o wt wt4)
        have HDA := hide (fun W => dueAt_sum c.A T wt W (by omega))
        have hwtw : IntKind.i64.wrap ((T : Int) + (wt : Int)) = (T : Int) + (wt : Int) := i64_wrap _ (by omega) (by omega)
        obtain ⟨v, hv⟩ : ∃ v, valK logs c.t.r c.pc T f m ⟨sl, sg, o, d, a, b, ar, sp, pl, nn⟩ = v := ⟨_, rfl⟩
        obtain ⟨rg, hrg⟩ : ∃ rg : Nat, (d + (P : Int)) % c.t.r = (rg : Int) := ⟨_, (number_in hr1).1⟩
        have HRG := hide hrg
        have HVV := hide hv
        obtain ⟨j, hj⟩ : ∃ j, (T + wt) % 6 = j := ⟨_, rfl⟩
        have hj6 : j < 6 := by omega
        have HJ := hide hj
        rw [hj] at HDA
        obtain ⟨l0, hl0⟩ : ∃ l0, lane q.du (j : Int) = l0 := ⟨_, rfl⟩
        have HL0 := hide hl0
        have hn9 : l0.length ≤ 900016 := by
          rw [← hl0]
          exact Nat.le_trans (List.length_filter_le _ _) hDk
        obtain ⟨n0, hn0⟩ : ∃ n0, l0.length = n0 := ⟨_, rfl⟩
        rw [hn0] at hn9
        have HN0 := hide hn0
        obtain ⟨va, vc, hV, -, -⟩ := ownz_shape (HQ.out.due j hj6)
        rw [hl0, hn0] at hV
        have HV := hide hV
        have HOW : Hid (∀ x, MInv c V1 q.du f m x → x.ownsRow c.w1.heap.size 129 2 (.slice va n0 vc) n0 (flatR l0)) := fun x h => by
          have h2 := h.due j hj6
          rw [HL0.out, HN0.out, HV.out] at h2
          exact h2
        have HDU : Hid ((opsL c.t logs c.pc c.turns T f m ⟨m, D⟩ (L.take (k + 1))).du = q.du ++ [⟨(T : Int) + (wt : Int), rg, v⟩]) := by
          show _ = _
          rw [HOPS.out]
          unfold opK
          rw [HAC.out, hin, if_pos rfl]
          show q.du ++ [_] = _
          rw [wt1, HP.out, hrg, hv]
        have HCO : Hid (∀ W, MInv c V1 q.du f m W → Calls Try.prog 84 #[.pointer (some ⟨c.A, 0, none⟩), .agg #[.int .i64 sl, .int .i64 sg, .int .i64 o, .int .i64 d, .int .i64 a, .int .i64 b, .int .i64 ar, .int .i64 sp, .int .i64 pl, .int .i64 nn], .int .i64 P, .int .i64 ((P : Int) - sg)] W fun e w' => e = .returned (.int .i64 v) ∧ Below W.heap.size W w') := fun W h => by
          have h2 := mcomes_any W logs gm cm CM sl sg o d a b ar sp pl nn c.pc T P ((P : Int) - sg) h HS.out HN.out HLEN.out HR0.out hr1 hr2 HGK.out HP.out rfl (by omega) (by omega)
          rw [HVV.out] at h2
          exact h2
        clear hv hrg hj hl0 hn0 hV wt1 wt4 HOPS
        by_cases ho4 : o = 4
        · subst ho4
          have HST : Hid (stosL c.t logs c.pc c.turns T f m (L.take (k + 1)) = sts ++ [⟨ar.toNat, wordK logs c.pc T ⟨sl, sg, 4, d, a, b, ar, sp, pl, nn⟩, v⟩]) := by show _ = _; rw [HSTO.out, HAC.out, hin, if_pos ⟨rfl, rfl⟩, HVV.out]
          clear HSTO HAC
          obtain ⟨-, -, -, -, ho5⟩ := HGK.out
          simp only at ho5
          have har : 0 ≤ ar ∧ ar < (c.n : Int) := by omega
          clear ho5
          obtain ⟨i, rfl⟩ : ∃ i : Nat, ar = (i : Int) := ⟨ar.toNat, by omega⟩
          have hiN : i < c.n := by omega
          have hjc := wordK_cast logs c.pc T ⟨sl, sg, 4, d, a, b, (i : Int), sp, pl, nn⟩
          have hjl := wordK_lt logs c.pc T ⟨sl, sg, 4, d, a, b, (i : Int), sp, pl, nn⟩
          simp only [Int.toNat_natCast] at hjc hjl
          rw [HP.out] at hjc
          rw [← (HLEN.out i hiN).1] at hjl
          rw [Int.toNat_natCast] at HST
          generalize wordK logs c.pc T ⟨sl, sg, 4, d, a, b, (i : Int), sp, pl, nn⟩ = jw at *
          have HWO : Hid (∀ W, MInv c V1 q.du f m W → Calls Try.prog 85 #[.pointer (some ⟨c.A, 0, none⟩), .agg #[.int .i64 sl, .int .i64 sg, .int .i64 4, .int .i64 d, .int .i64 a, .int .i64 b, .int .i64 i, .int .i64 sp, .int .i64 pl, .int .i64 nn], .int .i64 ((P : Int) - sg)] W fun e w' => e = .returned (.pointer (some ⟨c.GM i, jw, none⟩)) ∧ Below W.heap.size W w') := fun W h => mword_any W logs gm cm CM sl sg 4 d a b sp pl nn i jw ((P : Int) - sg) h (HS.out _ h.keep) HN.out hiN hjc hjl (HLEN.out i hiN).2
          have HJL := hide hjl
          clear hjc hjl har
          go_wp2_with (go_at_call 56; refine (pwithin_any _ _ _ _).mono ?_; rintro e w' ⟨rfl, rfl⟩)
          have hI2 := HQ.out.below (below_alloc1 wr (.cells #[.int .i64 sl, .int .i64 sg, .int .i64 4, .int .i64 d, .int .i64 a, .int .i64 b, .int .i64 i, .int .i64 sp, .int .i64 pl, .int .i64 nn] 68))
          refine (HCO.out _ hI2).mono ?_
          rintro e x2 ⟨rfl, hb2⟩
          have HXB : Hid (x2.heap[wr.heap.size]? = some (.cells #[.int .i64 sl, .int .i64 sg, .int .i64 4, .int .i64 d, .int .i64 a, .int .i64 b, .int .i64 i, .int .i64 sp, .int .i64 pl, .int .i64 nn] 68 (0, 0))) := by show _ = _; rw [hb2.block _ (by simp)]; exact new_block _ _ _
          have hI3 := (hI2.below hb2).below (below_alloc1 x2 (.cells #[.int .i64 v] 2))
          have HSt2 := hide (((HSt.out.below (below_alloc1 wr (.cells #[.int .i64 sl, .int .i64 sg, .int .i64 4, .int .i64 d, .int .i64 a, .int .i64 b, .int .i64 i, .int .i64 sp, .int .i64 pl, .int .i64 nn] 68))).below hb2).below (below_alloc1 x2 (.cells #[.int .i64 v] 2)))
          have hxz : wr.heap.size < x2.heap.size := by have := hb2.size; simp at this; omega
          obtain ⟨bx0, bx1, bx2, bx3, bx4, bx5, bx6, bx7, bx8, bx9⟩ := op_box HXB.out
          clear hb2 hI2 c0 c1 c2 c3 c4 c5 c6 c7 c8 c9 c13
          go_wp2_with fail
          refine (HWO.out _ hI3).mono ?_
          rintro e x7 ⟨rfl, hb7⟩
          have hI7 := hI3.below hb7
          have hz7 : x2.heap.size < x7.heap.size := by have := hb7.size; simp at this; omega
          have hX7 : x7.heap[wr.heap.size]? = some (.cells #[.int .i64 sl, .int .i64 sg, .int .i64 4, .int .i64 d, .int .i64 a, .int .i64 b, .int .i64 i, .int .i64 sp, .int .i64 pl, .int .i64 nn] 68 (0, 0)) := by rw [hb7.block _ (by simp; omega), Below.heap_alloc _ _ _ hxz]; exact HXB.out
          have hB7 : x7.heap[x2.heap.size]? = some (.cells #[.int .i64 v] 2 (0, 0)) := by rw [hb7.block _ (by simp)]; exact new_block _ _ _
          obtain ⟨BF, WF, hrow7, hbox7⟩ := HSt2.out.below hb7
          have HRD : Hid (Rdy c V1 q.du f m wr.heap.size x2.heap.size sl sg 4 d a b (i : Int) sp pl nn v ((x7.alloc (.cells #[.pointer (some ⟨c.GM i, jw, none⟩)] 119)).alloc (.cells #[cloV x2.heap.size x7.heap.size] 1))) := (Rdy.mk hI7 hX7 hB7).below (below_alloc2 _ _ _)
          have HROW : Hid (((x7.alloc (.cells #[.pointer (some ⟨c.GM i, jw, none⟩)] 119)).alloc (.cells #[cloV x2.heap.size x7.heap.size] 1)).ownsRow w.heap.size 1 1 u8 sts.length ((List.range sts.length).map fun i => cloV (BF i) (WF i))) := own_below hrow7 (below_alloc2 _ _ _)
          have HBOX : Hid (∀ s, s < sts.length → (w.heap.size ≤ BF s ∧ ((x7.alloc (.cells #[.pointer (some ⟨c.GM i, jw, none⟩)] 119)).alloc (.cells #[cloV x2.heap.size x7.heap.size] 1)).heap[BF s]? = some (.cells #[.int .i64 (stoAt sts s).v] 2 (0, 0))) ∧ (w.heap.size ≤ WF s ∧ ((x7.alloc (.cells #[.pointer (some ⟨c.GM i, jw, none⟩)] 119)).alloc (.cells #[cloV x2.heap.size x7.heap.size] 1)).heap[WF s]? = some (.cells #[.pointer (some ⟨c.GM (stoAt sts s).i, (stoAt sts s).j, none⟩)] 119 (0, 0))) ∧ (stoAt sts s).i < c.n ∧ (stoAt sts s).j < c.lenM (stoAt sts s).i) := ap7 hbox7 (below_alloc2 _ _ _)
          clear hb7 hI3 hI7 hX7 hB7 hrow7 hbox7 bx0 bx1 bx2 bx3 bx4 bx5 bx6 bx7 bx8 bx9
          go_wp2_with (at_builtin; refine wpList_append_own _ rfl (.tmp 47) (.tmp 49) 130 rfl w.heap.size 1 q0 .nilFunc 1 8 Try.underlying130 qi qz0 qz1 qz2 rfl (by decide) _ _ _ rfl HROW.out ⟨x7.heap.size + 1, 0, none⟩ 1 1 [cloV x2.heap.size x7.heap.size] rfl rfl (one_at _ _ _ (by simp)) (by intro u hu; simp at hu; subst hu; rfl) (by unfold maxLen; omega) (by omega) (by simp; omega) ?_; intro v5 w5 hown5 hgrow5 hnil5; have HO5 := hide hown5; have HG5 := hide hgrow5; have HZ5 := hide hgrow5.size; clear hown5 hgrow5 hnil5)
          have HBF : Hid (x2.heap.size ≥ w.heap.size ∧ x7.heap.size ≥ w.heap.size) := ⟨by omega, by omega⟩
          have HR := hide (HRD.out.sto HROW.out hwz HG5.out)
          have HStP := hide (StoV.push HROW.out HBOX.out HG5.out HO5.out ⟨HBF.out.1, HRD.out.hB⟩ ⟨HBF.out.2, by rw [Below.heap_alloc _ _ _ (by simp)]; exact new_block _ _ _⟩ hiN HJL.out)
          have HWZ : Hid (wr.heap.size ≤ w5.heap.size) := by show _ ≤ _; have := HZ5.out; simp at this; omega
          refine wp_region_noPanic ?_
          refine region_until 99 (fun w' => (w'.cell? ⟨c.A, 0, none⟩ = some (.int .i64 c.t.u0) ∧ w'.cell? ⟨c.A, 1, none⟩ = some (.int .i64 c.t.u1) ∧ w'.cell? ⟨c.A, 2, none⟩ = some (.int .i64 c.t.u2) ∧ w'.cell? ⟨c.A, 3, none⟩ = some (.int .i64 c.t.w0) ∧ w'.cell? ⟨c.A, 4, none⟩ = some (.int .i64 c.t.w1) ∧ w'.cell? ⟨c.A, 5, none⟩ = some (.int .i64 c.t.w2) ∧ w'.cell? ⟨c.A, 6, none⟩ = some (.int .i64 c.t.r)) ∧ w'.cell? ⟨wr.heap.size, 2, none⟩ = some (.int .i64 4)) (by kernel_rfl) HR.out.s10 (fun hHeld => ?_)
          refine until_take (i := 0) (v := ?_) rfl (by kernel_rfl) (by kernel_rfl) (by kernel_rfl) (by kernel_rfl) (fun _ _ _ h => h) (Or.inl ⟨by rfl, ?_⟩) hHeld ?_
          rotate_left
          · intro w hSw
            try dsimp only at hSw
            go_simp
            try with_reducible rfl
          try simp only [Act.put, List.setIfInBounds_toArray, List.set_cons_zero, List.set_cons_succ]
          refine until_take (i := 1) (v := ?_) rfl (by kernel_rfl) (by kernel_rfl) (by kernel_rfl) (by kernel_rfl) (fun _ _ _ h => h) (Or.inl ⟨by rfl, ?_⟩) hHeld ?_
          rotate_left
          · intro w hSw
            try dsimp only at hSw
            go_simp
            try with_reducible rfl
          try simp only [Act.put, List.setIfInBounds_toArray, List.set_cons_zero, List.set_cons_succ]
          refine until_take (i := 2) (v := ?_) rfl (by kernel_rfl) (by kernel_rfl) (by kernel_rfl) (by kernel_rfl) (fun _ _ _ h => h) (Or.inl ⟨by rfl, ?_⟩) hHeld ?_
          rotate_left
          · intro w hSw
            try dsimp only at hSw
            go_simp
            try with_reducible rfl
          try simp only [Act.put, List.setIfInBounds_toArray, List.set_cons_zero, List.set_cons_succ]
          refine until_take (i := 3) (v := ?_) rfl (by kernel_rfl) (by kernel_rfl) (by kernel_rfl) (by kernel_rfl) (fun _ _ _ h => h) (Or.inl ⟨by rfl, ?_⟩) hHeld ?_
          rotate_left
          · intro w hSw
            try dsimp only at hSw
            go_simp
            try with_reducible rfl
          try simp only [Act.put, List.setIfInBounds_toArray, List.set_cons_zero, List.set_cons_succ]
          refine until_take (i := 4) (v := ?_) rfl (by kernel_rfl) (by kernel_rfl) (by kernel_rfl) (by kernel_rfl) (fun _ _ _ h => h) (Or.inl ⟨by rfl, ?_⟩) hHeld ?_
          rotate_left
          · intro w hSw
            try dsimp only at hSw
            go_simp
            try with_reducible rfl
          try simp only [Act.put, List.setIfInBounds_toArray, List.set_cons_zero, List.set_cons_succ]
          refine until_take (i := 5) (v := ?_) rfl (by kernel_rfl) (by kernel_rfl) (by kernel_rfl) (by kernel_rfl) (fun _ _ _ h => h) (Or.inl ⟨by rfl, ?_⟩) hHeld ?_
          rotate_left
          · intro w hSw
            try dsimp only at hSw
            go_simp
            try with_reducible rfl
          try simp only [Act.put, List.setIfInBounds_toArray, List.set_cons_zero, List.set_cons_succ]
          refine until_take (i := 6) (v := ?_) rfl (by kernel_rfl) (by kernel_rfl) (by kernel_rfl) (by kernel_rfl) (fun _ _ _ h => h) (Or.inl ⟨by rfl, ?_⟩) hHeld ?_
          rotate_left
          · intro w hSw
            try dsimp only at hSw
            go_simp
            try with_reducible rfl
          try simp only [Act.put, List.setIfInBounds_toArray, List.set_cons_zero, List.set_cons_succ]
          refine until_take (i := 7) (v := ?_) rfl (by kernel_rfl) (by kernel_rfl) (by kernel_rfl) (by kernel_rfl) (fun _ _ _ h => h) (Or.inl ⟨by rfl, ?_⟩) hHeld ?_
          rotate_left
          · intro w hSw
            try dsimp only at hSw
            go_simp
            try with_reducible rfl
          try simp only [Act.put, List.setIfInBounds_toArray, List.set_cons_zero, List.set_cons_succ]
          refine until_one (i := 8) rfl (by kernel_rfl) (fun K hK => ?_)
          go_simp
          refine (HWT.out _).mono ?_
          rintro e x3 ⟨rfl, hb3⟩
          have HB3 := hide ((Below.refl _ _).drew.trans hb3)
          have HR3 := hide (HR.out.below HB3.out)
          have HZ3 := hide HB3.out.size
          clear hb3 hHeld
          have hHeld := HR3.out.s10
          refine hK.out _ _ (.inr hHeld) ?_
          clear hK K
          try simp only [Act.put, List.setIfInBounds_toArray, List.set_cons_zero, List.set_cons_succ]
          refine until_take (i := 9) (v := ?_) rfl (by kernel_rfl) (by kernel_rfl) (by kernel_rfl) (by kernel_rfl) (fun _ _ _ h => h) (Or.inl ⟨by rfl, ?_⟩) hHeld ?_
          rotate_left
          · intro w hSw
            try dsimp only at hSw
            go_simp
            try with_reducible rfl
          try simp only [Act.put, List.setIfInBounds_toArray, List.set_cons_zero, List.set_cons_succ]
          refine until_one (i := 10) rfl (by kernel_rfl) (fun K hK => ?_)
          go_simp
          refine (HDA.out _).mono ?_
          rintro e x4 ⟨rfl, rfl⟩
          refine hK.out _ _ (.inr hHeld) ?_
          clear hK K
          try simp only [Act.put, List.setIfInBounds_toArray, List.set_cons_zero, List.set_cons_succ]
          refine until_one (i := 11) rfl (by kernel_rfl) (fun K hK => ?_)
          go_simp
          refine hK.out _ _ (.inr hHeld) ?_
          clear hK K
          try simp only [Act.put, List.setIfInBounds_toArray, List.set_cons_zero, List.set_cons_succ]
          refine until_done (by kernel_rfl) ?_ _
          refine NoPanic.normal ?_
          clear hHeld
          go_wp2_with fail
          refine wp_region_noPanic ?_
          refine region_until 14 (fun w' => w'.cell? ⟨c.A, 14 + j, none⟩ = some (.slice va n0 vc) ∧ w'.cell? ⟨wr.heap.size, 3, none⟩ = some (.int .i64 d) ∧ w'.cell? ⟨c.A, 6, none⟩ = some (.int .i64 c.t.r) ∧ w'.cell? ⟨x2.heap.size, 0, none⟩ = some (.int .i64 v)) (by kernel_rfl) (HR3.out.s11 hj6 HV.out) (fun hHeld => ?_)
          refine until_take (i := 0) (v := ?_) rfl (by kernel_rfl) (by kernel_rfl) (by kernel_rfl) (by kernel_rfl) (fun _ _ _ h => h) (Or.inl ⟨by rfl, ?_⟩) hHeld ?_
          rotate_left
          · intro w hSw
            try dsimp only at hSw
            go_simp
            try with_reducible rfl
          try simp only [Act.put, List.setIfInBounds_toArray, List.set_cons_zero, List.set_cons_succ]
          refine until_take (i := 1) (v := ?_) rfl (by kernel_rfl) (by kernel_rfl) (by kernel_rfl) (by kernel_rfl) (fun _ _ _ h => h) (Or.inl ⟨by rfl, ?_⟩) hHeld ?_
          rotate_left
          · intro w hSw
            try dsimp only at hSw
            go_simp
            try with_reducible rfl
          try simp only [Act.put, List.setIfInBounds_toArray, List.set_cons_zero, List.set_cons_succ]
          refine until_take (i := 2) (v := ?_) rfl (by kernel_rfl) (by kernel_rfl) (by kernel_rfl) (by kernel_rfl) (fun _ _ _ h => h) (Or.inl ⟨by rfl, ?_⟩) hHeld ?_
          rotate_left
          · intro w hSw
            try dsimp only at hSw
            go_simp
            try with_reducible rfl
          try simp only [Act.put, List.setIfInBounds_toArray, List.set_cons_zero, List.set_cons_succ]
          refine until_take (i := 3) (v := ?_) rfl (by kernel_rfl) (by kernel_rfl) (by kernel_rfl) (by kernel_rfl) (fun _ _ _ h => h) (Or.inl ⟨by rfl, ?_⟩) hHeld ?_
          rotate_left
          · intro w hSw
            try dsimp only at hSw
            go_simp
            try with_reducible rfl
          try simp only [Act.put, List.setIfInBounds_toArray, List.set_cons_zero, List.set_cons_succ]
          refine until_take (i := 4) (v := ?_) rfl (by kernel_rfl) (by kernel_rfl) (by kernel_rfl) (by kernel_rfl) (fun _ _ _ h => h) (Or.inl ⟨by rfl, ?_⟩) hHeld ?_
          rotate_left
          · intro w hSw
            try dsimp only at hSw
            go_simp
            try with_reducible rfl
          try simp only [Act.put, List.setIfInBounds_toArray, List.set_cons_zero, List.set_cons_succ]
          refine until_take (i := 5) (v := ?_) rfl (by kernel_rfl) (by kernel_rfl) (by kernel_rfl) (by kernel_rfl) (fun _ _ _ h => h) (Or.inl ⟨by rfl, ?_⟩) hHeld ?_
          rotate_left
          · intro w hSw
            try dsimp only at hSw
            go_simp
            try with_reducible rfl
          try simp only [Act.put, List.setIfInBounds_toArray, List.set_cons_zero, List.set_cons_succ]
          refine until_take (i := 6) (v := ?_) rfl (by kernel_rfl) (by kernel_rfl) (by kernel_rfl) (by kernel_rfl) (fun _ _ _ h => h) (Or.inl ⟨by rfl, ?_⟩) hHeld ?_
          rotate_left
          · intro w hSw
            try dsimp only at hSw
            go_simp
            try with_reducible rfl
          try simp only [Act.put, List.setIfInBounds_toArray, List.set_cons_zero, List.set_cons_succ]
          refine until_take (i := 7) (v := ?_) rfl (by kernel_rfl) (by kernel_rfl) (by kernel_rfl) (by kernel_rfl) (fun _ _ _ h => h) (Or.inl ⟨by rfl, ?_⟩) hHeld ?_
          rotate_left
          · intro w hSw
            try dsimp only at hSw
            go_simp
            try with_reducible rfl
          try simp only [Act.put, List.setIfInBounds_toArray, List.set_cons_zero, List.set_cons_succ]
          refine until_take (i := 9) (v := ?_) rfl (by kernel_rfl) (by kernel_rfl) (by kernel_rfl) (by kernel_rfl) (fun _ _ _ h => h) (Or.inl ⟨by rfl, ?_⟩) hHeld ?_
          rotate_left
          · intro w hSw
            try dsimp only at hSw
            go_simp
            try with_reducible rfl
          try simp only [Act.put, List.setIfInBounds_toArray, List.set_cons_zero, List.set_cons_succ]
          refine until_one (i := 8) rfl (by kernel_rfl) (fun K hK => ?_)
          go_simp
          refine (number_at c.A c.t.r d P rg _ hHeld.2.2.1 hd0 (by omega) (by omega) (by omega) hr1 hr2 HRG.out).mono ?_
          rintro e x5 ⟨rfl, rfl⟩
          refine hK.out _ _ (.inr hHeld) ?_
          clear hK K
          try simp only [Act.put, List.setIfInBounds_toArray, List.set_cons_zero, List.set_cons_succ]
          refine until_take (i := 10) (v := ?_) rfl (by kernel_rfl) (by kernel_rfl) (by kernel_rfl) (by kernel_rfl) (fun _ _ _ h => h) (Or.inl ⟨by rfl, ?_⟩) hHeld ?_
          rotate_left
          · intro w hSw
            try dsimp only at hSw
            go_simp
            try with_reducible rfl
          try simp only [Act.put, List.setIfInBounds_toArray, List.set_cons_zero, List.set_cons_succ]
          refine until_one (i := 11) rfl (by kernel_rfl) (fun K hK => ?_)
          go_simp
          have HR5 := hide (HR3.out.below ((Below.refl _ _).drew.trans (below_alloc1 x4.drew (.cells #[.int .i64 rg, .int .i64 v] 129))))
          refine hK.out _ _ (.inr (HR5.out.s11 hj6 HV.out)) ?_
          clear hK K hHeld
          try simp only [Act.put, List.setIfInBounds_toArray, List.set_cons_zero, List.set_cons_succ]
          refine until_one (i := 12) rfl (by kernel_rfl) (fun K hK => ?_)
          refine step_append_lies _ (by rfl) (.tmp 65) (.tmp 73) 95 (by rfl) c.w1.heap.size 129 i0 (.agg #[.int .i64 0, .int .i64 0]) 2 16 Try.underlying95 hi hz0 hz1 hz2 rfl (by decide) _ n0 (flatR l0) (by rfl) (HOW.out _ HR5.out.inv) ⟨x4.heap.size, 0, none⟩ 1 1 [.int .i64 rg, .int .i64 v] (by rfl) rfl (two_cells _ _ _ _) (by intro u hu; simp at hu; rcases hu with rfl | rfl <;> rfl) (by decide) (by unfold maxLen; omega) (by omega) HR5.out.inv.keep.1 (x4.heap.size + 1) (by simp) ?_
          intro g cap w6 hown6 hgrow6 hat6 hlt6
          have hk6 := HR5.out.grown hj6 HV.out hgrow6
          have HO6 := hide hown6
          have HG6 := hide hgrow6
          have HA6 := hide hat6
          clear hown6 hgrow6 hat6
          refine hK.out _ _ (.inr hk6.1) ?_
          clear hK K
          try simp only [Act.put, List.setIfInBounds_toArray, List.set_cons_zero, List.set_cons_succ]
          have hHeld := hk6.1
          have hpc6 := hk6.1.1
          have hf6 := hk6.2
          refine until_take (i := 13) (v := ?_) rfl (by kernel_rfl) (by kernel_rfl) (by kernel_rfl) (by kernel_rfl) (fun _ _ _ h => h) (Or.inl ⟨by rfl, ?_⟩) hHeld ?_
          rotate_left
          · intro w hSw
            try dsimp only at hSw
            go_simp
            try with_reducible rfl
          try simp only [Act.put, List.setIfInBounds_toArray, List.set_cons_zero, List.set_cons_succ]
          refine until_one (i := 14) rfl (by kernel_rfl) (fun K hK => ?_)
          go_simp
          refine hK.out _ _ (.inl rfl) ?_
          clear hK K
          try simp only [Act.put, List.setIfInBounds_toArray, List.set_cons_zero, List.set_cons_succ]
          refine until_done (by kernel_rfl) ?_ _
          refine NoPanic.normal ?_
          clear hk6 hHeld
          go_wp2_with fail
          go_roundw
          case rel =>
            have hA : (Value.slice va n0 vc).ownBlock = some g ∨ (x4.drew.alloc (.cells #[.int .i64 rg, .int .i64 v] 129)).heap.size ≤ g := by
              rcases HA6.out with e | e
              · exact .inl e
              · exact .inr (by simp; omega)
            have hI6 := HR5.out.inv.push HJ.out HV.out HL0.out HN0.out HO6.out HG6.out hA
            refine ⟨k + 1, by omega, by go_num, _, by rw [HDU.out]; exact hI6, ?_, ?_⟩
            · rw [HST.out]
              exact ((HStP.out.below HB3.out).below ((Below.refl _ _).drew.trans (below_alloc1 x4.drew (.cells #[.int .i64 rg, .int .i64 v] 129)))).setDue HR5.out.inv j hj6 (by omega) (by rw [HV.out]; exact HG6.out) _ _
            · have h1 := HG6.out.size
              have h2 := HZ3.out
              have h3 := HWZ.out
              simp at h1 h2 h3 ⊢
              omega
          case measure => simp [intOf]; omega
        · have ho4b : (o == 4) = false := beq_eq_false_iff_ne.2 ho4
          have HST : Hid (stosL c.t logs c.pc c.turns T f m (L.take (k + 1)) = sts) := by show _ = _; rw [HSTO.out, if_neg (fun h => ho4 h.2)]
          clear HSTO HAC ho4
          go_wp2_with (go_at_call 56; refine (pwithin_any _ _ _ _).mono ?_; rintro e w' ⟨rfl, rfl⟩)
          have hI2 := HQ.out.below (below_alloc1 wr (.cells #[.int .i64 sl, .int .i64 sg, .int .i64 o, .int .i64 d, .int .i64 a, .int .i64 b, .int .i64 ar, .int .i64 sp, .int .i64 pl, .int .i64 nn] 68))
          refine (HCO.out _ hI2).mono ?_
          rintro e x2 ⟨rfl, hb2⟩
          have HR := hide (show Rdy c V1 q.du f m wr.heap.size x2.heap.size sl sg o d a b ar sp pl nn v (x2.alloc (.cells #[.int .i64 v] 2)) from ⟨(hI2.below hb2).below (below_alloc1 _ _), by rw [Below.heap_alloc _ _ _ (by have := hb2.size; simp at this; omega), hb2.block _ (by simp)]; exact new_block _ _ _, new_block _ _ _⟩)
          have HSt2 := hide ((HSt.out.below (below_alloc1 wr (.cells #[.int .i64 sl, .int .i64 sg, .int .i64 o, .int .i64 d, .int .i64 a, .int .i64 b, .int .i64 ar, .int .i64 sp, .int .i64 pl, .int .i64 nn] 68))).below hb2)
          have HWZ : Hid (wr.heap.size ≤ x2.heap.size) := by show _ ≤ _; have := hb2.size; simp at this; omega
          have hbx := op_box (show x2.heap[wr.heap.size]? = some (.cells #[.int .i64 sl, .int .i64 sg, .int .i64 o, .int .i64 d, .int .i64 a, .int .i64 b, .int .i64 ar, .int .i64 sp, .int .i64 pl, .int .i64 nn] 68 (0, 0)) by rw [hb2.block _ (by simp)]; exact new_block _ _ _)
          obtain ⟨-, -, hbx2, -, -, -, -, -, -, -⟩ := hbx
          have hxz : wr.heap.size < x2.heap.size := by have := hb2.size; simp at this; omega
          clear hb2 hI2 c0 c1 c2 c3 c4 c5 c6 c7 c8 c9 c13
          go_wp2_with fail
          refine wp_region_noPanic ?_
          refine region_until 99 (fun w' => (w'.cell? ⟨c.A, 0, none⟩ = some (.int .i64 c.t.u0) ∧ w'.cell? ⟨c.A, 1, none⟩ = some (.int .i64 c.t.u1) ∧ w'.cell? ⟨c.A, 2, none⟩ = some (.int .i64 c.t.u2) ∧ w'.cell? ⟨c.A, 3, none⟩ = some (.int .i64 c.t.w0) ∧ w'.cell? ⟨c.A, 4, none⟩ = some (.int .i64 c.t.w1) ∧ w'.cell? ⟨c.A, 5, none⟩ = some (.int .i64 c.t.w2) ∧ w'.cell? ⟨c.A, 6, none⟩ = some (.int .i64 c.t.r)) ∧ w'.cell? ⟨wr.heap.size, 2, none⟩ = some (.int .i64 o)) (by kernel_rfl) HR.out.s10 (fun hHeld => ?_)
          refine until_take (i := 0) (v := ?_) rfl (by kernel_rfl) (by kernel_rfl) (by kernel_rfl) (by kernel_rfl) (fun _ _ _ h => h) (Or.inl ⟨by rfl, ?_⟩) hHeld ?_
          rotate_left
          · intro w hSw
            try dsimp only at hSw
            go_simp
            try with_reducible rfl
          try simp only [Act.put, List.setIfInBounds_toArray, List.set_cons_zero, List.set_cons_succ]
          refine until_take (i := 1) (v := ?_) rfl (by kernel_rfl) (by kernel_rfl) (by kernel_rfl) (by kernel_rfl) (fun _ _ _ h => h) (Or.inl ⟨by rfl, ?_⟩) hHeld ?_
          rotate_left
          · intro w hSw
            try dsimp only at hSw
            go_simp
            try with_reducible rfl
          try simp only [Act.put, List.setIfInBounds_toArray, List.set_cons_zero, List.set_cons_succ]
          refine until_take (i := 2) (v := ?_) rfl (by kernel_rfl) (by kernel_rfl) (by kernel_rfl) (by kernel_rfl) (fun _ _ _ h => h) (Or.inl ⟨by rfl, ?_⟩) hHeld ?_
          rotate_left
          · intro w hSw
            try dsimp only at hSw
            go_simp
            try with_reducible rfl
          try simp only [Act.put, List.setIfInBounds_toArray, List.set_cons_zero, List.set_cons_succ]
          refine until_take (i := 3) (v := ?_) rfl (by kernel_rfl) (by kernel_rfl) (by kernel_rfl) (by kernel_rfl) (fun _ _ _ h => h) (Or.inl ⟨by rfl, ?_⟩) hHeld ?_
          rotate_left
          · intro w hSw
            try dsimp only at hSw
            go_simp
            try with_reducible rfl
          try simp only [Act.put, List.setIfInBounds_toArray, List.set_cons_zero, List.set_cons_succ]
          refine until_take (i := 4) (v := ?_) rfl (by kernel_rfl) (by kernel_rfl) (by kernel_rfl) (by kernel_rfl) (fun _ _ _ h => h) (Or.inl ⟨by rfl, ?_⟩) hHeld ?_
          rotate_left
          · intro w hSw
            try dsimp only at hSw
            go_simp
            try with_reducible rfl
          try simp only [Act.put, List.setIfInBounds_toArray, List.set_cons_zero, List.set_cons_succ]
          refine until_take (i := 5) (v := ?_) rfl (by kernel_rfl) (by kernel_rfl) (by kernel_rfl) (by kernel_rfl) (fun _ _ _ h => h) (Or.inl ⟨by rfl, ?_⟩) hHeld ?_
          rotate_left
          · intro w hSw
            try dsimp only at hSw
            go_simp
            try with_reducible rfl
          try simp only [Act.put, List.setIfInBounds_toArray, List.set_cons_zero, List.set_cons_succ]
          refine until_take (i := 6) (v := ?_) rfl (by kernel_rfl) (by kernel_rfl) (by kernel_rfl) (by kernel_rfl) (fun _ _ _ h => h) (Or.inl ⟨by rfl, ?_⟩) hHeld ?_
          rotate_left
          · intro w hSw
            try dsimp only at hSw
            go_simp
            try with_reducible rfl
          try simp only [Act.put, List.setIfInBounds_toArray, List.set_cons_zero, List.set_cons_succ]
          refine until_take (i := 7) (v := ?_) rfl (by kernel_rfl) (by kernel_rfl) (by kernel_rfl) (by kernel_rfl) (fun _ _ _ h => h) (Or.inl ⟨by rfl, ?_⟩) hHeld ?_
          rotate_left
          · intro w hSw
            try dsimp only at hSw
            go_simp
            try with_reducible rfl
          try simp only [Act.put, List.setIfInBounds_toArray, List.set_cons_zero, List.set_cons_succ]
          refine until_one (i := 8) rfl (by kernel_rfl) (fun K hK => ?_)
          go_simp
          refine (HWT.out _).mono ?_
          rintro e x3 ⟨rfl, hb3⟩
          have HB3 := hide ((Below.refl _ _).drew.trans hb3)
          have HR3 := hide (HR.out.below HB3.out)
          have HZ3 := hide HB3.out.size
          clear hb3 hHeld
          have hHeld := HR3.out.s10
          refine hK.out _ _ (.inr hHeld) ?_
          clear hK K
          try simp only [Act.put, List.setIfInBounds_toArray, List.set_cons_zero, List.set_cons_succ]
          refine until_take (i := 9) (v := ?_) rfl (by kernel_rfl) (by kernel_rfl) (by kernel_rfl) (by kernel_rfl) (fun _ _ _ h => h) (Or.inl ⟨by rfl, ?_⟩) hHeld ?_
          rotate_left
          · intro w hSw
            try dsimp only at hSw
            go_simp
            try with_reducible rfl
          try simp only [Act.put, List.setIfInBounds_toArray, List.set_cons_zero, List.set_cons_succ]
          refine until_one (i := 10) rfl (by kernel_rfl) (fun K hK => ?_)
          go_simp
          refine (HDA.out _).mono ?_
          rintro e x4 ⟨rfl, rfl⟩
          refine hK.out _ _ (.inr hHeld) ?_
          clear hK K
          try simp only [Act.put, List.setIfInBounds_toArray, List.set_cons_zero, List.set_cons_succ]
          refine until_one (i := 11) rfl (by kernel_rfl) (fun K hK => ?_)
          go_simp
          refine hK.out _ _ (.inr hHeld) ?_
          clear hK K
          try simp only [Act.put, List.setIfInBounds_toArray, List.set_cons_zero, List.set_cons_succ]
          refine until_done (by kernel_rfl) ?_ _
          refine NoPanic.normal ?_
          clear hHeld
          go_wp2_with fail
          refine wp_region_noPanic ?_
          refine region_until 14 (fun w' => w'.cell? ⟨c.A, 14 + j, none⟩ = some (.slice va n0 vc) ∧ w'.cell? ⟨wr.heap.size, 3, none⟩ = some (.int .i64 d) ∧ w'.cell? ⟨c.A, 6, none⟩ = some (.int .i64 c.t.r) ∧ w'.cell? ⟨x2.heap.size, 0, none⟩ = some (.int .i64 v)) (by kernel_rfl) (HR3.out.s11 hj6 HV.out) (fun hHeld => ?_)
          refine until_take (i := 0) (v := ?_) rfl (by kernel_rfl) (by kernel_rfl) (by kernel_rfl) (by kernel_rfl) (fun _ _ _ h => h) (Or.inl ⟨by rfl, ?_⟩) hHeld ?_
          rotate_left
          · intro w hSw
            try dsimp only at hSw
            go_simp
            try with_reducible rfl
          try simp only [Act.put, List.setIfInBounds_toArray, List.set_cons_zero, List.set_cons_succ]
          refine until_take (i := 1) (v := ?_) rfl (by kernel_rfl) (by kernel_rfl) (by kernel_rfl) (by kernel_rfl) (fun _ _ _ h => h) (Or.inl ⟨by rfl, ?_⟩) hHeld ?_
          rotate_left
          · intro w hSw
            try dsimp only at hSw
            go_simp
            try with_reducible rfl
          try simp only [Act.put, List.setIfInBounds_toArray, List.set_cons_zero, List.set_cons_succ]
          refine until_take (i := 2) (v := ?_) rfl (by kernel_rfl) (by kernel_rfl) (by kernel_rfl) (by kernel_rfl) (fun _ _ _ h => h) (Or.inl ⟨by rfl, ?_⟩) hHeld ?_
          rotate_left
          · intro w hSw
            try dsimp only at hSw
            go_simp
            try with_reducible rfl
          try simp only [Act.put, List.setIfInBounds_toArray, List.set_cons_zero, List.set_cons_succ]
          refine until_take (i := 3) (v := ?_) rfl (by kernel_rfl) (by kernel_rfl) (by kernel_rfl) (by kernel_rfl) (fun _ _ _ h => h) (Or.inl ⟨by rfl, ?_⟩) hHeld ?_
          rotate_left
          · intro w hSw
            try dsimp only at hSw
            go_simp
            try with_reducible rfl
          try simp only [Act.put, List.setIfInBounds_toArray, List.set_cons_zero, List.set_cons_succ]
          refine until_take (i := 4) (v := ?_) rfl (by kernel_rfl) (by kernel_rfl) (by kernel_rfl) (by kernel_rfl) (fun _ _ _ h => h) (Or.inl ⟨by rfl, ?_⟩) hHeld ?_
          rotate_left
          · intro w hSw
            try dsimp only at hSw
            go_simp
            try with_reducible rfl
          try simp only [Act.put, List.setIfInBounds_toArray, List.set_cons_zero, List.set_cons_succ]
          refine until_take (i := 5) (v := ?_) rfl (by kernel_rfl) (by kernel_rfl) (by kernel_rfl) (by kernel_rfl) (fun _ _ _ h => h) (Or.inl ⟨by rfl, ?_⟩) hHeld ?_
          rotate_left
          · intro w hSw
            try dsimp only at hSw
            go_simp
            try with_reducible rfl
          try simp only [Act.put, List.setIfInBounds_toArray, List.set_cons_zero, List.set_cons_succ]
          refine until_take (i := 6) (v := ?_) rfl (by kernel_rfl) (by kernel_rfl) (by kernel_rfl) (by kernel_rfl) (fun _ _ _ h => h) (Or.inl ⟨by rfl, ?_⟩) hHeld ?_
          rotate_left
          · intro w hSw
            try dsimp only at hSw
            go_simp
            try with_reducible rfl
          try simp only [Act.put, List.setIfInBounds_toArray, List.set_cons_zero, List.set_cons_succ]
          refine until_take (i := 7) (v := ?_) rfl (by kernel_rfl) (by kernel_rfl) (by kernel_rfl) (by kernel_rfl) (fun _ _ _ h => h) (Or.inl ⟨by rfl, ?_⟩) hHeld ?_
          rotate_left
          · intro w hSw
            try dsimp only at hSw
            go_simp
            try with_reducible rfl
          try simp only [Act.put, List.setIfInBounds_toArray, List.set_cons_zero, List.set_cons_succ]
          refine until_take (i := 9) (v := ?_) rfl (by kernel_rfl) (by kernel_rfl) (by kernel_rfl) (by kernel_rfl) (fun _ _ _ h => h) (Or.inl ⟨by rfl, ?_⟩) hHeld ?_
          rotate_left
          · intro w hSw
            try dsimp only at hSw
            go_simp
            try with_reducible rfl
          try simp only [Act.put, List.setIfInBounds_toArray, List.set_cons_zero, List.set_cons_succ]
          refine until_one (i := 8) rfl (by kernel_rfl) (fun K hK => ?_)
          go_simp
          refine (number_at c.A c.t.r d P rg _ hHeld.2.2.1 hd0 (by omega) (by omega) (by omega) hr1 hr2 HRG.out).mono ?_
          rintro e x5 ⟨rfl, rfl⟩
          refine hK.out _ _ (.inr hHeld) ?_
          clear hK K
          try simp only [Act.put, List.setIfInBounds_toArray, List.set_cons_zero, List.set_cons_succ]
          refine until_take (i := 10) (v := ?_) rfl (by kernel_rfl) (by kernel_rfl) (by kernel_rfl) (by kernel_rfl) (fun _ _ _ h => h) (Or.inl ⟨by rfl, ?_⟩) hHeld ?_
          rotate_left
          · intro w hSw
            try dsimp only at hSw
            go_simp
            try with_reducible rfl
          try simp only [Act.put, List.setIfInBounds_toArray, List.set_cons_zero, List.set_cons_succ]
          refine until_one (i := 11) rfl (by kernel_rfl) (fun K hK => ?_)
          go_simp
          have HR5 := hide (HR3.out.below ((Below.refl _ _).drew.trans (below_alloc1 x4.drew (.cells #[.int .i64 rg, .int .i64 v] 129))))
          refine hK.out _ _ (.inr (HR5.out.s11 hj6 HV.out)) ?_
          clear hK K hHeld
          try simp only [Act.put, List.setIfInBounds_toArray, List.set_cons_zero, List.set_cons_succ]
          refine until_one (i := 12) rfl (by kernel_rfl) (fun K hK => ?_)
          refine step_append_lies _ (by rfl) (.tmp 65) (.tmp 73) 95 (by rfl) c.w1.heap.size 129 i0 (.agg #[.int .i64 0, .int .i64 0]) 2 16 Try.underlying95 hi hz0 hz1 hz2 rfl (by decide) _ n0 (flatR l0) (by rfl) (HOW.out _ HR5.out.inv) ⟨x4.heap.size, 0, none⟩ 1 1 [.int .i64 rg, .int .i64 v] (by rfl) rfl (two_cells _ _ _ _) (by intro u hu; simp at hu; rcases hu with rfl | rfl <;> rfl) (by decide) (by unfold maxLen; omega) (by omega) HR5.out.inv.keep.1 (x4.heap.size + 1) (by simp) ?_
          intro g cap w6 hown6 hgrow6 hat6 hlt6
          have hk6 := HR5.out.grown hj6 HV.out hgrow6
          have HO6 := hide hown6
          have HG6 := hide hgrow6
          have HA6 := hide hat6
          clear hown6 hgrow6 hat6
          refine hK.out _ _ (.inr hk6.1) ?_
          clear hK K
          try simp only [Act.put, List.setIfInBounds_toArray, List.set_cons_zero, List.set_cons_succ]
          have hHeld := hk6.1
          have hpc6 := hk6.1.1
          have hf6 := hk6.2
          refine until_take (i := 13) (v := ?_) rfl (by kernel_rfl) (by kernel_rfl) (by kernel_rfl) (by kernel_rfl) (fun _ _ _ h => h) (Or.inl ⟨by rfl, ?_⟩) hHeld ?_
          rotate_left
          · intro w hSw
            try dsimp only at hSw
            go_simp
            try with_reducible rfl
          try simp only [Act.put, List.setIfInBounds_toArray, List.set_cons_zero, List.set_cons_succ]
          refine until_one (i := 14) rfl (by kernel_rfl) (fun K hK => ?_)
          go_simp
          refine hK.out _ _ (.inl rfl) ?_
          clear hK K
          try simp only [Act.put, List.setIfInBounds_toArray, List.set_cons_zero, List.set_cons_succ]
          refine until_done (by kernel_rfl) ?_ _
          refine NoPanic.normal ?_
          clear hk6 hHeld
          go_wp2_with fail
          go_roundw
          case rel =>
            have hA : (Value.slice va n0 vc).ownBlock = some g ∨ (x4.drew.alloc (.cells #[.int .i64 rg, .int .i64 v] 129)).heap.size ≤ g := by
              rcases HA6.out with e | e
              · exact .inl e
              · exact .inr (by simp; omega)
            have hI6 := HR5.out.inv.push HJ.out HV.out HL0.out HN0.out HO6.out HG6.out hA
            refine ⟨k + 1, by omega, by go_num, _, by rw [HDU.out]; exact hI6, ?_, ?_⟩
            · rw [HST.out]
              exact (((HSt2.out.below (below_alloc1 _ _)).below HB3.out).below ((Below.refl _ _).drew.trans (below_alloc1 x4.drew (.cells #[.int .i64 rg, .int .i64 v] 129)))).setDue HR5.out.inv j hj6 (by omega) (by rw [HV.out]; exact HG6.out) _ _
            · have h1 := HG6.out.size
              have h2 := HZ3.out
              have h3 := HWZ.out
              simp at h1 h2 h3 ⊢
              omega
          case measure => simp [intOf]; omega
    · have e : k = L.length := by omega
      subst e
      rw [List.take_length] at hQ hSt
      have hki : ¬ (L.length : Int) < (L.length : Int) := by omega
      have HNX := hide (nx_stos c.t logs c.pc c.turns T f m D L L.length (Nat.le_refl _))
      rw [List.take_length] at HNX
      have hSk : (stosL c.t logs c.pc c.turns T f m L).length ≤ 16 := by
        have := stos_len c.t logs c.pc c.turns T f m L
        omega
      generalize hqq : opsL c.t logs c.pc c.turns T f m ⟨m, D⟩ L = q at *
      generalize stosL c.t logs c.pc c.turns T f m L = sts at *
      obtain ⟨BF, WF, hrow, hbox⟩ := hSt
      obtain ⟨sa, sc, rfl, hs1, hs2⟩ := ownz_shape hrow
      unfold maxLen at hs2
      have HQ := hide hQ
      have HROW := hide hrow
      have HBOX := hide hbox
      have HQE := hide hqq
      clear hQ hrow hbox hqq
      go_wp2_with fail
      go_loopw [79] (fun i wr2 => ∃ k2 : Nat, k2 ≤ sts.length ∧ i = .int .i64 k2 ∧ MInv c V1 q.du f (stoN sts m k2) wr2 ∧ wr2.ownsRow w.heap.size 1 1 (.slice sa sts.length sc) sts.length ((List.range sts.length).map fun i => cloV (BF i) (WF i)) ∧ ∀ i, i < sts.length → (w.heap.size ≤ BF i ∧ wr2.heap[BF i]? = some (.cells #[.int .i64 (stoAt sts i).v] 2 (0, 0))) ∧ (w.heap.size ≤ WF i ∧ wr2.heap[WF i]? = some (.cells #[.pointer (some ⟨c.GM (stoAt sts i).i, (stoAt sts i).j, none⟩)] 119 (0, 0))) ∧ (stoAt sts i).i < c.n ∧ (stoAt sts i).j < c.lenM (stoAt sts i).i) (fun i _ => sts.length - (intOf i).toNat)
      case atStart => exact ⟨0, Nat.zero_le _, rfl, HQ.out, HROW.out, HBOX.out⟩
      case round =>
        clear HQ HROW HBOX
        obtain ⟨k2, hk2, rfl, hQ2, hrow2, hbox2⟩ := hrel
        by_cases hkl2 : k2 < sts.length
        · have hki2 : (k2 : Int) < (sts.length : Int) := by omega
          obtain ⟨g, cap, hg0, -, -, -, hgr⟩ := own_parts hrow2 (.inr (by omega))
          injection hg0 with e1 e2 e3
          subst e1; subst e3
          have hcl := hgr.cell hkl2
          rw [getD_range _ _ _ hkl2] at hcl
          obtain ⟨⟨b1, b2⟩, ⟨b3, b4⟩, b5, b6⟩ := hbox2 k2 hkl2
          have HD1 := hide (do1_any _ _ _ _ _ _ hQ2 b2 b4 b5 b6)
          have HQ3 := hide (hQ2.setMem _ _ (stoAt sts k2).v b5 b6)
          have HS3 := hide (StoV.two hrow2 hbox2 hQ2 (stoAt sts k2).i (stoAt sts k2).j b5 hwz (.int .i64 (stoAt sts k2).v))
          clear hgr hrow2 hbox2 hQ2 b1 b2 b3 b4 b5 b6
          unfold cloV at hcl
          go_wp2_with fail
          refine HD1.out.mono ?_
          rintro e x ⟨rfl, rfl⟩
          go_wp2_with fail
          go_roundw
          case rel => exact ⟨k2 + 1, by omega, by go_num, HQ3.out, HS3.out.1, HS3.out.2⟩
          case measure => simp [intOf]; omega
        · have e : k2 = sts.length := by omega
          subst e
          have hki2 : ¬ (sts.length : Int) < (sts.length : Int) := by omega
          have HQ2 := hide hQ2
          clear hQ2 hrow2 hbox2
          go_wp2_with fail
          go_end0
          refine ⟨rfl, V1, ?_⟩
          rw [HQE.out, HNX.out]
          exact HQ2.out
end Go.Proofs.Ytlgphgfldfjkkaa
