/- KernP: texts that are built as one: KernDo, KernSlots, KernCyc, KernGo. -/
import Derived.Test.YtpljieenjkbmmaaKernM
import Derived.Test.YtpljieenjkbmmaaBase
import Derived.Deep.AppendLies
/- The contract of one Slot of a pace: its Ops are done, each for its own turn; then the stores that waited. -/
namespace Go.Proofs.Ytpljieenjkbmmaa
open Go.RowKit Go.Joins
set_option linter.unusedVariables false
set_option linter.unusedSimpArgs false
set_option maxRecDepth 8192

set_option maxHeartbeats 40000000 in
theorem mdo_any {c : Mc} {V : Nat → Value} {D : List Du} {f : Nat → Int} {m : Nat → Nat → Int} (w : World) (logs : List Int) (gm cm : Nat) (CM : Nat → Nat) (oa : Option Addr) (oc : Nat) (L : List Kop) (P T : Nat)
    (hI : MInv c V D f m w) (hS : ∀ x, KeptM c x → StatM c logs gm cm CM x) (hO : ∀ x, KeptM c x → OpsV x (.slice oa L.length oc) L) (hn : c.n = logs.length) (hlen : ∀ i, i < c.n → c.lenM i = 2 ^ (nth logs i).toNat ∧ c.lenM i ≤ 32) (hR : (c.R : Int) = c.t.r) (hmt : mayT c.t = true)
    (hgood : ∀ x ∈ L, goodK c.t.r c.n x) (hsl : ∀ x ∈ L, x.sl = (T : Int) % c.pc) (hP : (T : Int) / c.pc = (P : Int)) (hP2 : P ≤ 2000) (hT : T ≤ 30000) (ht1 : 1 ≤ c.turns) (ht2 : c.turns ≤ 200) (hD : D.length ≤ 900000) (hL : L.length ≤ 16) :
    Calls Try.prog 98 #[.pointer (some ⟨c.A, 0, none⟩), .slice oa L.length oc, .int .i64 P, .int .i64 T] w fun e w' => e = .returned (.tuple #[]) ∧ ∃ V', MInv c V' (opsL c.t logs c.pc c.turns T f m ⟨m, D⟩ L).du f (opsL c.t logs c.pc c.turns T f m ⟨m, D⟩ L).nx w' := by
  obtain ⟨hr1, hr2⟩ := (mayT_parts hmt).2.2.2
  obtain ⟨i0, hi, hz0, hz1, hz2⟩ := info_parts Try.i161
  obtain ⟨q0, qi, qz0, qz1, qz2⟩ := info_parts Try.i1
  have hmf : ∀ (fn : Fn) (first cap : Array Value) (w : World), (Instr.makeFunc fn first cap).run Try.prog w = .ok (.func fn first cap) w := fun _ _ _ _ => rfl
  have hwz : c.w1.heap.size ≤ w.heap.size := hI.keep.1
  have HI := hide hI
  have HS := hide hS
  have HO := hide hO
  have HLEN := hide hlen
  have HGOOD := hide hgood
  have HSL := hide hsl
  have HP := hide hP
  have HMT := hide hmt
  have HR0 := hide hR
  have HN := hide hn
  obtain ⟨oa', oc', ho1, ho2, ho3, -⟩ := hO w hI.keep
  injection ho1 with e1 e2 e3
  subst e1; subst e3
  unfold maxLen at ho3
  clear hI hS hO hlen hgood hsl hP hmt hR hn e2
  go_enter Try.func98, Try.ntmps98
  go_wp2_with fail
  go_loopw [8, 19] (fun sv i wr => ∃ k : Nat, k ≤ L.length ∧ i = .int .i64 k ∧ ∃ V', MInv c V' (opsL c.t logs c.pc c.turns T f m ⟨m, D⟩ (L.take k)).du f m wr ∧ StoV c w.heap.size wr sv (stosL c.t logs c.pc c.turns T f m (L.take k)) ∧ w.heap.size ≤ wr.heap.size) (fun _ i _ => L.length - (intOf i).toNat)
  case atStart => exact ⟨0, Nat.zero_le _, rfl, V, HI.out, StoV.nil _ _ _, Nat.le_refl _⟩
  case round =>
    clear HI
    obtain ⟨k, hk, rfl, V1, hQ, hSt, hwr⟩ := hrel
    by_cases hkl : k < L.length
    · have hki : (k : Int) < (L.length : Int) := by omega
      obtain ⟨oa2, oc2, hov, -, -, hocell⟩ := HO.out wr hQ.keep
      injection hov with e1 e2 e3
      subst e1; subst e3
      obtain ⟨ob, oo, rfl, hob, hocell⟩ := hocell (by omega)
      obtain ⟨c0, c1, c2, c3, c4, c5, c6, c7, c8, c9⟩ := ten (hocell k hkl)
      have hgk := HGOOD.out _ (opAt_in hkl)
      have hslk := HSL.out _ (opAt_in hkl)
      have HAC := hide (act_is (turns := c.turns) hslk HP.out)
      have HOPS := hide (opsL_snoc c.t logs c.pc c.turns T f m ⟨m, D⟩ L k hkl)
      have HSTO := hide (stos_snoc c.t logs c.pc c.turns T f m L k hkl)
      have hDk : (opsL c.t logs c.pc c.turns T f m ⟨m, D⟩ (L.take k)).du.length ≤ 900016 := by
        have := opsL_len c.t logs c.pc c.turns T f m ⟨m, D⟩ (L.take k)
        rw [List.length_take] at this
        have h2 : (Nx.mk m D).du.length = D.length := rfl
        omega
      have hSk : (stosL c.t logs c.pc c.turns T f m (L.take k)).length ≤ 16 := by
        have := stos_len c.t logs c.pc c.turns T f m (L.take k)
        rw [List.length_take] at this
        omega
      obtain ⟨hAl, ⟨-, -, -, -, -, -, c13⟩, -⟩ := hQ.cells
      have hAz := hQ.A_lt
      have HQ := hide hQ
      have HSt := hide hSt
      clear hocell hQ hSt hslk hAl
      generalize opsL c.t logs c.pc c.turns T f m ⟨m, D⟩ (L.take k) = q at *
      generalize stosL c.t logs c.pc c.turns T f m (L.take k) = sts at *
      generalize opAt L k = xk at *
      obtain ⟨sl, sg, o, d, a, b, ar, sp, pl, nn⟩ := xk
      simp only at c0 c1 c2 c3 c4 c5 c6 c7 c8 c9 HAC
      have HGK := hide hgk
      obtain ⟨⟨hd0, hd1⟩, ⟨ha0, ha1⟩, ⟨hb0, hb1⟩, ⟨hg0, hg1⟩, -⟩ := hgk
      simp only at hd0 hd1 ha0 ha1 hb0 hb1 hg0 hg1
      cases hin : inR ((P : Int) - sg) 0 (c.turns - 1) with
      | false =>
        have HDU : Hid (opsL c.t logs c.pc c.turns T f m ⟨m, D⟩ (L.take (k + 1)) = q) := by show _ = _; rw [HOPS.out]; unfold opK; rw [HAC.out, hin]; rfl
        have HST : Hid (stosL c.t logs c.pc c.turns T f m (L.take (k + 1)) = sts) := by show _ = _; rw [HSTO.out, HAC.out, hin, if_neg (fun h => Bool.noConfusion h.1)]
        clear HOPS HSTO HAC
        go_wp2_with (go_at_call 68; refine (pwithin_any _ _ _ _).mono ?_; rintro e w' ⟨rfl, rfl⟩)
        go_roundw
        case rel => exact ⟨k + 1, by omega, by go_num, V1, by rw [HDU.out]; exact HQ.out.below (below_alloc1 _ _), by rw [HST.out]; exact HSt.out.below (below_alloc1 _ _), by simp; omega⟩
        case measure => simp [intOf]; omega
      | true =>
        obtain ⟨wt, wt1, wt2, wt3, wt4⟩ := wait_nat HMT.out o
        have HWT := hide (wait_cells c.t o wt wt4)
        have HDA := hide (fun W => dueAt_sum c.A T wt W (by omega))
        have hwtw : IntKind.i64.wrap ((T : Int) + (wt : Int)) = (T : Int) + (wt : Int) := i64_wrap _ (by omega) (by omega)
        obtain ⟨v, hv⟩ : ∃ v, valK logs c.t.r c.pc T f m ⟨sl, sg, o, d, a, b, ar, sp, pl, nn⟩ = v := ⟨_, rfl⟩
        obtain ⟨rg, hrg⟩ : ∃ rg : Nat, (d + (P : Int)) % c.t.r = (rg : Int) := ⟨_, (number_in hr1).1⟩
        have HRG := hide hrg
        have HVV := hide hv
        obtain ⟨j, hj⟩ : ∃ j, (T + wt) % 6 = j := ⟨_, rfl⟩
        have hj6 : j < 6 := by omega
        have HJ := hide hj
        rw [hj] at HDA
        obtain ⟨l0, hl0⟩ : ∃ l0, lane q.du (j : Int) = l0 := ⟨_, rfl⟩
        have HL0 := hide hl0
        have hn9 : l0.length ≤ 900016 := by
          rw [← hl0]
          exact Nat.le_trans (List.length_filter_le _ _) hDk
        obtain ⟨n0, hn0⟩ : ∃ n0, l0.length = n0 := ⟨_, rfl⟩
        rw [hn0] at hn9
        have HN0 := hide hn0
        obtain ⟨va, vc, hV, -, -⟩ := ownz_shape (HQ.out.due j hj6)
        rw [hl0, hn0] at hV
        have HV := hide hV
        have HOW : Hid (∀ x, MInv c V1 q.du f m x → x.ownsRow c.w1.heap.size 161 2 (.slice va n0 vc) n0 (flatR l0)) := fun x h => by
          have h2 := h.due j hj6
          rw [HL0.out, HN0.out, HV.out] at h2
          exact h2
        have HDU : Hid ((opsL c.t logs c.pc c.turns T f m ⟨m, D⟩ (L.take (k + 1))).du = q.du ++ [⟨(T : Int) + (wt : Int), rg, v⟩]) := by
          show _ = _
          rw [HOPS.out]
          unfold opK
          rw [HAC.out, hin, if_pos rfl]
          show q.du ++ [_] = _
          rw [wt1, HP.out, hrg, hv]
        have HCO : Hid (∀ W, MInv c V1 q.du f m W → Calls Try.prog 116 #[.pointer (some ⟨c.A, 0, none⟩), .agg #[.int .i64 sl, .int .i64 sg, .int .i64 o, .int .i64 d, .int .i64 a, .int .i64 b, .int .i64 ar, .int .i64 sp, .int .i64 pl, .int .i64 nn], .int .i64 P, .int .i64 ((P : Int) - sg)] W fun e w' => e = .returned (.int .i64 v) ∧ Below W.heap.size W w') := fun W h => by
          have h2 := mcomes_any W logs gm cm CM sl sg o d a b ar sp pl nn c.pc T P ((P : Int) - sg) h HS.out HN.out HLEN.out HR0.out hr1 hr2 HGK.out HP.out rfl (by omega) (by omega)
          rw [HVV.out] at h2
          exact h2
        clear hv hrg hj hl0 hn0 hV wt1 wt4 HOPS
        by_cases ho4 : o = 4
        · subst ho4
          have HST : Hid (stosL c.t logs c.pc c.turns T f m (L.take (k + 1)) = sts ++ [⟨ar.toNat, wordK logs c.pc T ⟨sl, sg, 4, d, a, b, ar, sp, pl, nn⟩, v⟩]) := by show _ = _; rw [HSTO.out, HAC.out, hin, if_pos ⟨rfl, rfl⟩, HVV.out]
          clear HSTO HAC
          obtain ⟨-, -, -, -, ho5⟩ := HGK.out
          simp only at ho5
          have har : 0 ≤ ar ∧ ar < (c.n : Int) := by omega
          clear ho5
          obtain ⟨i, rfl⟩ : ∃ i : Nat, ar = (i : Int) := ⟨ar.toNat, by omega⟩
          have hiN : i < c.n := by omega
          have hjc := wordK_cast logs c.pc T ⟨sl, sg, 4, d, a, b, (i : Int), sp, pl, nn⟩
          have hjl := wordK_lt logs c.pc T ⟨sl, sg, 4, d, a, b, (i : Int), sp, pl, nn⟩
          simp only [Int.toNat_natCast] at hjc hjl
          rw [HP.out] at hjc
          rw [← (HLEN.out i hiN).1] at hjl
          rw [Int.toNat_natCast] at HST
          generalize wordK logs c.pc T ⟨sl, sg, 4, d, a, b, (i : Int), sp, pl, nn⟩ = jw at *
          have HWO : Hid (∀ W, MInv c V1 q.du f m W → Calls Try.prog 117 #[.pointer (some ⟨c.A, 0, none⟩), .agg #[.int .i64 sl, .int .i64 sg, .int .i64 4, .int .i64 d, .int .i64 a, .int .i64 b, .int .i64 i, .int .i64 sp, .int .i64 pl, .int .i64 nn], .int .i64 ((P : Int) - sg)] W fun e w' => e = .returned (.pointer (some ⟨c.GM i, jw, none⟩)) ∧ Below W.heap.size W w') := fun W h => mword_any W logs gm cm CM sl sg 4 d a b sp pl nn i jw ((P : Int) - sg) h (HS.out _ h.keep) HN.out hiN hjc hjl (HLEN.out i hiN).2
          have HJL := hide hjl
          clear hjc hjl har
          go_wp2_with (go_at_call 68; refine (pwithin_any _ _ _ _).mono ?_; rintro e w' ⟨rfl, rfl⟩)
          have hI2 := HQ.out.below (below_alloc1 wr (.cells #[.int .i64 sl, .int .i64 sg, .int .i64 4, .int .i64 d, .int .i64 a, .int .i64 b, .int .i64 i, .int .i64 sp, .int .i64 pl, .int .i64 nn] 68))
          refine (HCO.out _ hI2).mono ?_
          rintro e x2 ⟨rfl, hb2⟩
          have HXB : Hid (x2.heap[wr.heap.size]? = some (.cells #[.int .i64 sl, .int .i64 sg, .int .i64 4, .int .i64 d, .int .i64 a, .int .i64 b, .int .i64 i, .int .i64 sp, .int .i64 pl, .int .i64 nn] 68 (0, 0))) := by show _ = _; rw [hb2.block _ (by simp)]; exact new_block _ _ _
          have hI3 := (hI2.below hb2).below (below_alloc1 x2 (.cells #[.int .i64 v] 2))
          have HSt2 := hide (((HSt.out.below (below_alloc1 wr (.cells #[.int .i64 sl, .int .i64 sg, .int .i64 4, .int .i64 d, .int .i64 a, .int .i64 b, .int .i64 i, .int .i64 sp, .int .i64 pl, .int .i64 nn] 68))).below hb2).below (below_alloc1 x2 (.cells #[.int .i64 v] 2)))
          have hxz : wr.heap.size < x2.heap.size := by have := hb2.size; simp at this; omega
          obtain ⟨bx0, bx1, bx2, bx3, bx4, bx5, bx6, bx7, bx8, bx9⟩ := op_box HXB.out
          clear hb2 hI2 c0 c1 c2 c3 c4 c5 c6 c7 c8 c9 c13
          go_wp2_with fail
          refine (HWO.out _ hI3).mono ?_
          rintro e x7 ⟨rfl, hb7⟩
          have hI7 := hI3.below hb7
          have hz7 : x2.heap.size < x7.heap.size := by have := hb7.size; simp at this; omega
          have hX7 : x7.heap[wr.heap.size]? = some (.cells #[.int .i64 sl, .int .i64 sg, .int .i64 4, .int .i64 d, .int .i64 a, .int .i64 b, .int .i64 i, .int .i64 sp, .int .i64 pl, .int .i64 nn] 68 (0, 0)) := by rw [hb7.block _ (by simp; omega), Below.heap_alloc _ _ _ hxz]; exact HXB.out
          have hB7 : x7.heap[x2.heap.size]? = some (.cells #[.int .i64 v] 2 (0, 0)) := by rw [hb7.block _ (by simp)]; exact new_block _ _ _
          obtain ⟨BF, WF, hrow7, hbox7⟩ := HSt2.out.below hb7
          have HRD : Hid (Rdy c V1 q.du f m wr.heap.size x2.heap.size sl sg 4 d a b (i : Int) sp pl nn v ((x7.alloc (.cells #[.pointer (some ⟨c.GM i, jw, none⟩)] 151)).alloc (.cells #[cloV x2.heap.size x7.heap.size] 1))) := (Rdy.mk hI7 hX7 hB7).below (below_alloc2 _ _ _)
          have HROW : Hid (((x7.alloc (.cells #[.pointer (some ⟨c.GM i, jw, none⟩)] 151)).alloc (.cells #[cloV x2.heap.size x7.heap.size] 1)).ownsRow w.heap.size 1 1 u8 sts.length ((List.range sts.length).map fun i => cloV (BF i) (WF i))) := own_below hrow7 (below_alloc2 _ _ _)
          have HBOX : Hid (∀ s, s < sts.length → (w.heap.size ≤ BF s ∧ ((x7.alloc (.cells #[.pointer (some ⟨c.GM i, jw, none⟩)] 151)).alloc (.cells #[cloV x2.heap.size x7.heap.size] 1)).heap[BF s]? = some (.cells #[.int .i64 (stoAt sts s).v] 2 (0, 0))) ∧ (w.heap.size ≤ WF s ∧ ((x7.alloc (.cells #[.pointer (some ⟨c.GM i, jw, none⟩)] 151)).alloc (.cells #[cloV x2.heap.size x7.heap.size] 1)).heap[WF s]? = some (.cells #[.pointer (some ⟨c.GM (stoAt sts s).i, (stoAt sts s).j, none⟩)] 151 (0, 0))) ∧ (stoAt sts s).i < c.n ∧ (stoAt sts s).j < c.lenM (stoAt sts s).i) := ap7 hbox7 (below_alloc2 _ _ _)
          clear hb7 hI3 hI7 hX7 hB7 hrow7 hbox7 bx0 bx1 bx2 bx3 bx4 bx5 bx6 bx7 bx8 bx9
          go_wp2_with (at_builtin; refine wpList_append_own _ rfl (.tmp 47) (.tmp 49) 162 rfl w.heap.size 1 q0 .nilFunc 1 8 Try.underlying162 qi qz0 qz1 qz2 rfl (by decide) _ _ _ rfl HROW.out ⟨x7.heap.size + 1, 0, none⟩ 1 1 [cloV x2.heap.size x7.heap.size] rfl rfl (one_at _ _ _ (by simp)) (by intro u hu; simp at hu; subst hu; rfl) (by unfold maxLen; omega) (by omega) (by simp; omega) ?_; intro v5 w5 hown5 hgrow5 hnil5; have HO5 := hide hown5; have HG5 := hide hgrow5; have HZ5 := hide hgrow5.size; clear hown5 hgrow5 hnil5)
          have HBF : Hid (x2.heap.size ≥ w.heap.size ∧ x7.heap.size ≥ w.heap.size) := ⟨by omega, by omega⟩
          have HR := hide (HRD.out.sto HROW.out hwz HG5.out)
          have HStP := hide (StoV.push HROW.out HBOX.out HG5.out HO5.out ⟨HBF.out.1, HRD.out.hB⟩ ⟨HBF.out.2, by rw [Below.heap_alloc _ _ _ (by simp)]; exact new_block _ _ _⟩ hiN HJL.out)
          have HWZ : Hid (wr.heap.size ≤ w5.heap.size) := by show _ ≤ _; have := HZ5.out; simp at this; omega
          refine wp_region_noPanic ?_
          refine region_until 99 (fun w' => (w'.cell? ⟨c.A, 0, none⟩ = some (.int .i64 c.t.u0) ∧ w'.cell? ⟨c.A, 1, none⟩ = some (.int .i64 c.t.u1) ∧ w'.cell? ⟨c.A, 2, none⟩ = some (.int .i64 c.t.u2) ∧ w'.cell? ⟨c.A, 3, none⟩ = some (.int .i64 c.t.w0) ∧ w'.cell? ⟨c.A, 4, none⟩ = some (.int .i64 c.t.w1) ∧ w'.cell? ⟨c.A, 5, none⟩ = some (.int .i64 c.t.w2) ∧ w'.cell? ⟨c.A, 6, none⟩ = some (.int .i64 c.t.r)) ∧ w'.cell? ⟨wr.heap.size, 2, none⟩ = some (.int .i64 4)) (by kernel_rfl) HR.out.s10 (fun hHeld => ?_)
          refine until_take (i := 0) (v := ?_) rfl (by kernel_rfl) (by kernel_rfl) (by kernel_rfl) (by kernel_rfl) (fun _ _ _ h => h) (Or.inl ⟨by rfl, ?_⟩) hHeld ?_
          rotate_left
          · intro w hSw
            try dsimp only at hSw
            go_simp
            try with_reducible rfl
          try simp only [Act.put, List.setIfInBounds_toArray, List.set_cons_zero, List.set_cons_succ]
          refine until_take (i := 1) (v := ?_) rfl (by kernel_rfl) (by kernel_rfl) (by kernel_rfl) (by kernel_rfl) (fun _ _ _ h => h) (Or.inl ⟨by rfl, ?_⟩) hHeld ?_
          rotate_left
          · intro w hSw
            try dsimp only at hSw
            go_simp
            try with_reducible rfl
          try simp only [Act.put, List.setIfInBounds_toArray, List.set_cons_zero, List.set_cons_succ]
          refine until_take (i := 2) (v := ?_) rfl (by kernel_rfl) (by kernel_rfl) (by kernel_rfl) (by kernel_rfl) (fun _ _ _ h => h) (Or.inl ⟨by rfl, ?_⟩) hHeld ?_
          rotate_left
          · intro w hSw
            try dsimp only at hSw
            go_simp
            try with_reducible rfl
          try simp only [Act.put, List.setIfInBounds_toArray, List.set_cons_zero, List.set_cons_succ]
          refine until_take (i := 3) (v := ?_) rfl (by kernel_rfl) (by kernel_rfl) (by kernel_rfl) (by kernel_rfl) (fun _ _ _ h => h) (Or.inl ⟨by rfl, ?_⟩) hHeld ?_
          rotate_left
          · intro w hSw
            try dsimp only at hSw
            go_simp
            try with_reducible rfl
          try simp only [Act.put, List.setIfInBounds_toArray, List.set_cons_zero, List.set_cons_succ]
          refine until_take (i := 4) (v := ?_) rfl (by kernel_rfl) (by kernel_rfl) (by kernel_rfl) (by kernel_rfl) (fun _ _ _ h => h) (Or.inl ⟨by rfl, ?_⟩) hHeld ?_
          rotate_left
          · intro w hSw
            try dsimp only at hSw
            go_simp
            try with_reducible rfl
          try simp only [Act.put, List.setIfInBounds_toArray, List.set_cons_zero, List.set_cons_succ]
          refine until_take (i := 5) (v := ?_) rfl (by kernel_rfl) (by kernel_rfl) (by kernel_rfl) (by kernel_rfl) (fun _ _ _ h => h) (Or.inl ⟨by rfl, ?_⟩) hHeld ?_
          rotate_left
          · intro w hSw
            try dsimp only at hSw
            go_simp
            try with_reducible rfl
          try simp only [Act.put, List.setIfInBounds_toArray, List.set_cons_zero, List.set_cons_succ]
          refine until_take (i := 6) (v := ?_) rfl (by kernel_rfl) (by kernel_rfl) (by kernel_rfl) (by kernel_rfl) (fun _ _ _ h => h) (Or.inl ⟨by rfl, ?_⟩) hHeld ?_
          rotate_left
          · intro w hSw
            try dsimp only at hSw
            go_simp
            try with_reducible rfl
          try simp only [Act.put, List.setIfInBounds_toArray, List.set_cons_zero, List.set_cons_succ]
          refine until_take (i := 7) (v := ?_) rfl (by kernel_rfl) (by kernel_rfl) (by kernel_rfl) (by kernel_rfl) (fun _ _ _ h => h) (Or.inl ⟨by rfl, ?_⟩) hHeld ?_
          rotate_left
          · intro w hSw
            try dsimp only at hSw
            go_simp
            try with_reducible rfl
          try simp only [Act.put, List.setIfInBounds_toArray, List.set_cons_zero, List.set_cons_succ]
          refine until_one (i := 8) rfl (by kernel_rfl) (fun K hK => ?_)
          go_simp
          refine (HWT.out _).mono ?_
          rintro e x3 ⟨rfl, hb3⟩
          have HB3 := hide ((Below.refl _ _).drew.trans hb3)
          have HR3 := hide (HR.out.below HB3.out)
          have HZ3 := hide HB3.out.size
          clear hb3 hHeld
          have hHeld := HR3.out.s10
          refine hK.out _ _ (.inr hHeld) ?_
          clear hK K
          try simp only [Act.put, List.setIfInBounds_toArray, List.set_cons_zero, List.set_cons_succ]
          refine until_take (i := 9) (v := ?_) rfl (by kernel_rfl) (by kernel_rfl) (by kernel_rfl) (by kernel_rfl) (fun _ _ _ h => h) (Or.inl ⟨by rfl, ?_⟩) hHeld ?_
          rotate_left
          · intro w hSw
            try dsimp only at hSw
            go_simp
            try with_reducible rfl
          try simp only [Act.put, List.setIfInBounds_toArray, List.set_cons_zero, List.set_cons_succ]
          refine until_one (i := 10) rfl (by kernel_rfl) (fun K hK => ?_)
          go_simp
          refine (HDA.out _).mono ?_
          rintro e x4 ⟨rfl, rfl⟩
          refine hK.out _ _ (.inr hHeld) ?_
          clear hK K
          try simp only [Act.put, List.setIfInBounds_toArray, List.set_cons_zero, List.set_cons_succ]
          refine until_one (i := 11) rfl (by kernel_rfl) (fun K hK => ?_)
          go_simp
          refine hK.out _ _ (.inr hHeld) ?_
          clear hK K
          try simp only [Act.put, List.setIfInBounds_toArray, List.set_cons_zero, List.set_cons_succ]
          refine until_done (by kernel_rfl) ?_ _
          refine NoPanic.normal ?_
          clear hHeld
          go_wp2_with fail
          refine wp_region_noPanic ?_
          refine region_until 14 (fun w' => w'.cell? ⟨c.A, 14 + j, none⟩ = some (.slice va n0 vc) ∧ w'.cell? ⟨wr.heap.size, 3, none⟩ = some (.int .i64 d) ∧ w'.cell? ⟨c.A, 6, none⟩ = some (.int .i64 c.t.r) ∧ w'.cell? ⟨x2.heap.size, 0, none⟩ = some (.int .i64 v)) (by kernel_rfl) (HR3.out.s11 hj6 HV.out) (fun hHeld => ?_)
          refine until_take (i := 0) (v := ?_) rfl (by kernel_rfl) (by kernel_rfl) (by kernel_rfl) (by kernel_rfl) (fun _ _ _ h => h) (Or.inl ⟨by rfl, ?_⟩) hHeld ?_
          rotate_left
          · intro w hSw
            try dsimp only at hSw
            go_simp
            try with_reducible rfl
          try simp only [Act.put, List.setIfInBounds_toArray, List.set_cons_zero, List.set_cons_succ]
          refine until_take (i := 1) (v := ?_) rfl (by kernel_rfl) (by kernel_rfl) (by kernel_rfl) (by kernel_rfl) (fun _ _ _ h => h) (Or.inl ⟨by rfl, ?_⟩) hHeld ?_
          rotate_left
          · intro w hSw
            try dsimp only at hSw
            go_simp
            try with_reducible rfl
          try simp only [Act.put, List.setIfInBounds_toArray, List.set_cons_zero, List.set_cons_succ]
          refine until_take (i := 2) (v := ?_) rfl (by kernel_rfl) (by kernel_rfl) (by kernel_rfl) (by kernel_rfl) (fun _ _ _ h => h) (Or.inl ⟨by rfl, ?_⟩) hHeld ?_
          rotate_left
          · intro w hSw
            try dsimp only at hSw
            go_simp
            try with_reducible rfl
          try simp only [Act.put, List.setIfInBounds_toArray, List.set_cons_zero, List.set_cons_succ]
          refine until_take (i := 3) (v := ?_) rfl (by kernel_rfl) (by kernel_rfl) (by kernel_rfl) (by kernel_rfl) (fun _ _ _ h => h) (Or.inl ⟨by rfl, ?_⟩) hHeld ?_
          rotate_left
          · intro w hSw
            try dsimp only at hSw
            go_simp
            try with_reducible rfl
          try simp only [Act.put, List.setIfInBounds_toArray, List.set_cons_zero, List.set_cons_succ]
          refine until_take (i := 4) (v := ?_) rfl (by kernel_rfl) (by kernel_rfl) (by kernel_rfl) (by kernel_rfl) (fun _ _ _ h => h) (Or.inl ⟨by rfl, ?_⟩) hHeld ?_
          rotate_left
          · intro w hSw
            try dsimp only at hSw
            go_simp
            try with_reducible rfl
          try simp only [Act.put, List.setIfInBounds_toArray, List.set_cons_zero, List.set_cons_succ]
          refine until_take (i := 5) (v := ?_) rfl (by kernel_rfl) (by kernel_rfl) (by kernel_rfl) (by kernel_rfl) (fun _ _ _ h => h) (Or.inl ⟨by rfl, ?_⟩) hHeld ?_
          rotate_left
          · intro w hSw
            try dsimp only at hSw
            go_simp
            try with_reducible rfl
          try simp only [Act.put, List.setIfInBounds_toArray, List.set_cons_zero, List.set_cons_succ]
          refine until_take (i := 6) (v := ?_) rfl (by kernel_rfl) (by kernel_rfl) (by kernel_rfl) (by kernel_rfl) (fun _ _ _ h => h) (Or.inl ⟨by rfl, ?_⟩) hHeld ?_
          rotate_left
          · intro w hSw
            try dsimp only at hSw
            go_simp
            try with_reducible rfl
          try simp only [Act.put, List.setIfInBounds_toArray, List.set_cons_zero, List.set_cons_succ]
          refine until_take (i := 7) (v := ?_) rfl (by kernel_rfl) (by kernel_rfl) (by kernel_rfl) (by kernel_rfl) (fun _ _ _ h => h) (Or.inl ⟨by rfl, ?_⟩) hHeld ?_
          rotate_left
          · intro w hSw
            try dsimp only at hSw
            go_simp
            try with_reducible rfl
          try simp only [Act.put, List.setIfInBounds_toArray, List.set_cons_zero, List.set_cons_succ]
          refine until_take (i := 9) (v := ?_) rfl (by kernel_rfl) (by kernel_rfl) (by kernel_rfl) (by kernel_rfl) (fun _ _ _ h => h) (Or.inl ⟨by rfl, ?_⟩) hHeld ?_
          rotate_left
          · intro w hSw
            try dsimp only at hSw
            go_simp
            try with_reducible rfl
          try simp only [Act.put, List.setIfInBounds_toArray, List.set_cons_zero, List.set_cons_succ]
          refine until_one (i := 8) rfl (by kernel_rfl) (fun K hK => ?_)
          go_simp
          refine (number_at c.A c.t.r d P rg _ hHeld.2.2.1 hd0 (by omega) (by omega) (by omega) hr1 hr2 HRG.out).mono ?_
          rintro e x5 ⟨rfl, rfl⟩
          refine hK.out _ _ (.inr hHeld) ?_
          clear hK K
          try simp only [Act.put, List.setIfInBounds_toArray, List.set_cons_zero, List.set_cons_succ]
          refine until_take (i := 10) (v := ?_) rfl (by kernel_rfl) (by kernel_rfl) (by kernel_rfl) (by kernel_rfl) (fun _ _ _ h => h) (Or.inl ⟨by rfl, ?_⟩) hHeld ?_
          rotate_left
          · intro w hSw
            try dsimp only at hSw
            go_simp
            try with_reducible rfl
          try simp only [Act.put, List.setIfInBounds_toArray, List.set_cons_zero, List.set_cons_succ]
          refine until_one (i := 11) rfl (by kernel_rfl) (fun K hK => ?_)
          go_simp
          have HR5 := hide (HR3.out.below ((Below.refl _ _).drew.trans (below_alloc1 x4.drew (.cells #[.int .i64 rg, .int .i64 v] 161))))
          refine hK.out _ _ (.inr (HR5.out.s11 hj6 HV.out)) ?_
          clear hK K hHeld
          try simp only [Act.put, List.setIfInBounds_toArray, List.set_cons_zero, List.set_cons_succ]
          refine until_one (i := 12) rfl (by kernel_rfl) (fun K hK => ?_)
          refine step_append_lies _ (by rfl) (.tmp 65) (.tmp 73) 109 (by rfl) c.w1.heap.size 161 i0 (.agg #[.int .i64 0, .int .i64 0]) 2 16 Try.underlying109 hi hz0 hz1 hz2 rfl (by decide) _ n0 (flatR l0) (by rfl) (HOW.out _ HR5.out.inv) ⟨x4.heap.size, 0, none⟩ 1 1 [.int .i64 rg, .int .i64 v] (by rfl) rfl (two_cells _ _ _ _) (by intro u hu; simp at hu; rcases hu with rfl | rfl <;> rfl) (by decide) (by unfold maxLen; omega) (by omega) HR5.out.inv.keep.1 (x4.heap.size + 1) (by simp) ?_
          intro g cap w6 hown6 hgrow6 hat6 hlt6
          have hk6 := HR5.out.grown hj6 HV.out hgrow6
          have HO6 := hide hown6
          have HG6 := hide hgrow6
          have HA6 := hide hat6
          clear hown6 hgrow6 hat6
          refine hK.out _ _ (.inr hk6.1) ?_
          clear hK K
          try simp only [Act.put, List.setIfInBounds_toArray, List.set_cons_zero, List.set_cons_succ]
          have hHeld := hk6.1
          have hpc6 := hk6.1.1
          have hf6 := hk6.2
          refine until_take (i := 13) (v := ?_) rfl (by kernel_rfl) (by kernel_rfl) (by kernel_rfl) (by kernel_rfl) (fun _ _ _ h => h) (Or.inl ⟨by rfl, ?_⟩) hHeld ?_
          rotate_left
          · intro w hSw
            try dsimp only at hSw
            go_simp
            try with_reducible rfl
          try simp only [Act.put, List.setIfInBounds_toArray, List.set_cons_zero, List.set_cons_succ]
          refine until_one (i := 14) rfl (by kernel_rfl) (fun K hK => ?_)
          go_simp
          refine hK.out _ _ (.inl rfl) ?_
          clear hK K
          try simp only [Act.put, List.setIfInBounds_toArray, List.set_cons_zero, List.set_cons_succ]
          refine until_done (by kernel_rfl) ?_ _
          refine NoPanic.normal ?_
          clear hk6 hHeld
          go_wp2_with fail
          go_roundw
          case rel =>
            have hA : (Value.slice va n0 vc).ownBlock = some g ∨ (x4.drew.alloc (.cells #[.int .i64 rg, .int .i64 v] 161)).heap.size ≤ g := by
              rcases HA6.out with e | e
              · exact .inl e
              · exact .inr (by simp; omega)
            have hI6 := HR5.out.inv.push HJ.out HV.out HL0.out HN0.out HO6.out HG6.out hA
            refine ⟨k + 1, by omega, by go_num, _, by rw [HDU.out]; exact hI6, ?_, ?_⟩
            · rw [HST.out]
              exact ((HStP.out.below HB3.out).below ((Below.refl _ _).drew.trans (below_alloc1 x4.drew (.cells #[.int .i64 rg, .int .i64 v] 161)))).setDue HR5.out.inv j hj6 (by omega) (by rw [HV.out]; exact HG6.out) _ _
            · have h1 := HG6.out.size
              have h2 := HZ3.out
              have h3 := HWZ.out
              simp at h1 h2 h3 ⊢
              omega
          case measure => simp [intOf]; omega
        · have ho4b : (o == 4) = false := beq_eq_false_iff_ne.2 ho4
          have HST : Hid (stosL c.t logs c.pc c.turns T f m (L.take (k + 1)) = sts) := by show _ = _; rw [HSTO.out, if_neg (fun h => ho4 h.2)]
          clear HSTO HAC ho4
          go_wp2_with (go_at_call 68; refine (pwithin_any _ _ _ _).mono ?_; rintro e w' ⟨rfl, rfl⟩)
          have hI2 := HQ.out.below (below_alloc1 wr (.cells #[.int .i64 sl, .int .i64 sg, .int .i64 o, .int .i64 d, .int .i64 a, .int .i64 b, .int .i64 ar, .int .i64 sp, .int .i64 pl, .int .i64 nn] 68))
          refine (HCO.out _ hI2).mono ?_
          rintro e x2 ⟨rfl, hb2⟩
          have HR := hide (show Rdy c V1 q.du f m wr.heap.size x2.heap.size sl sg o d a b ar sp pl nn v (x2.alloc (.cells #[.int .i64 v] 2)) from ⟨(hI2.below hb2).below (below_alloc1 _ _), by rw [Below.heap_alloc _ _ _ (by have := hb2.size; simp at this; omega), hb2.block _ (by simp)]; exact new_block _ _ _, new_block _ _ _⟩)
          have HSt2 := hide ((HSt.out.below (below_alloc1 wr (.cells #[.int .i64 sl, .int .i64 sg, .int .i64 o, .int .i64 d, .int .i64 a, .int .i64 b, .int .i64 ar, .int .i64 sp, .int .i64 pl, .int .i64 nn] 68))).below hb2)
          have HWZ : Hid (wr.heap.size ≤ x2.heap.size) := by show _ ≤ _; have := hb2.size; simp at this; omega
          have hbx := op_box (show x2.heap[wr.heap.size]? = some (.cells #[.int .i64 sl, .int .i64 sg, .int .i64 o, .int .i64 d, .int .i64 a, .int .i64 b, .int .i64 ar, .int .i64 sp, .int .i64 pl, .int .i64 nn] 68 (0, 0)) by rw [hb2.block _ (by simp)]; exact new_block _ _ _)
          obtain ⟨-, -, hbx2, -, -, -, -, -, -, -⟩ := hbx
          have hxz : wr.heap.size < x2.heap.size := by have := hb2.size; simp at this; omega
          clear hb2 hI2 c0 c1 c2 c3 c4 c5 c6 c7 c8 c9 c13
          go_wp2_with fail
          refine wp_region_noPanic ?_
          refine region_until 99 (fun w' => (w'.cell? ⟨c.A, 0, none⟩ = some (.int .i64 c.t.u0) ∧ w'.cell? ⟨c.A, 1, none⟩ = some (.int .i64 c.t.u1) ∧ w'.cell? ⟨c.A, 2, none⟩ = some (.int .i64 c.t.u2) ∧ w'.cell? ⟨c.A, 3, none⟩ = some (.int .i64 c.t.w0) ∧ w'.cell? ⟨c.A, 4, none⟩ = some (.int .i64 c.t.w1) ∧ w'.cell? ⟨c.A, 5, none⟩ = some (.int .i64 c.t.w2) ∧ w'.cell? ⟨c.A, 6, none⟩ = some (.int .i64 c.t.r)) ∧ w'.cell? ⟨wr.heap.size, 2, none⟩ = some (.int .i64 o)) (by kernel_rfl) HR.out.s10 (fun hHeld => ?_)
          refine until_take (i := 0) (v := ?_) rfl (by kernel_rfl) (by kernel_rfl) (by kernel_rfl) (by kernel_rfl) (fun _ _ _ h => h) (Or.inl ⟨by rfl, ?_⟩) hHeld ?_
          rotate_left
          · intro w hSw
            try dsimp only at hSw
            go_simp
            try with_reducible rfl
          try simp only [Act.put, List.setIfInBounds_toArray, List.set_cons_zero, List.set_cons_succ]
          refine until_take (i := 1) (v := ?_) rfl (by kernel_rfl) (by kernel_rfl) (by kernel_rfl) (by kernel_rfl) (fun _ _ _ h => h) (Or.inl ⟨by rfl, ?_⟩) hHeld ?_
          rotate_left
          · intro w hSw
            try dsimp only at hSw
            go_simp
            try with_reducible rfl
          try simp only [Act.put, List.setIfInBounds_toArray, List.set_cons_zero, List.set_cons_succ]
          refine until_take (i := 2) (v := ?_) rfl (by kernel_rfl) (by kernel_rfl) (by kernel_rfl) (by kernel_rfl) (fun _ _ _ h => h) (Or.inl ⟨by rfl, ?_⟩) hHeld ?_
          rotate_left
          · intro w hSw
            try dsimp only at hSw
            go_simp
            try with_reducible rfl
          try simp only [Act.put, List.setIfInBounds_toArray, List.set_cons_zero, List.set_cons_succ]
          refine until_take (i := 3) (v := ?_) rfl (by kernel_rfl) (by kernel_rfl) (by kernel_rfl) (by kernel_rfl) (fun _ _ _ h => h) (Or.inl ⟨by rfl, ?_⟩) hHeld ?_
          rotate_left
          · intro w hSw
            try dsimp only at hSw
            go_simp
            try with_reducible rfl
          try simp only [Act.put, List.setIfInBounds_toArray, List.set_cons_zero, List.set_cons_succ]
          refine until_take (i := 4) (v := ?_) rfl (by kernel_rfl) (by kernel_rfl) (by kernel_rfl) (by kernel_rfl) (fun _ _ _ h => h) (Or.inl ⟨by rfl, ?_⟩) hHeld ?_
          rotate_left
          · intro w hSw
            try dsimp only at hSw
            go_simp
            try with_reducible rfl
          try simp only [Act.put, List.setIfInBounds_toArray, List.set_cons_zero, List.set_cons_succ]
          refine until_take (i := 5) (v := ?_) rfl (by kernel_rfl) (by kernel_rfl) (by kernel_rfl) (by kernel_rfl) (fun _ _ _ h => h) (Or.inl ⟨by rfl, ?_⟩) hHeld ?_
          rotate_left
          · intro w hSw
            try dsimp only at hSw
            go_simp
            try with_reducible rfl
          try simp only [Act.put, List.setIfInBounds_toArray, List.set_cons_zero, List.set_cons_succ]
          refine until_take (i := 6) (v := ?_) rfl (by kernel_rfl) (by kernel_rfl) (by kernel_rfl) (by kernel_rfl) (fun _ _ _ h => h) (Or.inl ⟨by rfl, ?_⟩) hHeld ?_
          rotate_left
          · intro w hSw
            try dsimp only at hSw
            go_simp
            try with_reducible rfl
          try simp only [Act.put, List.setIfInBounds_toArray, List.set_cons_zero, List.set_cons_succ]
          refine until_take (i := 7) (v := ?_) rfl (by kernel_rfl) (by kernel_rfl) (by kernel_rfl) (by kernel_rfl) (fun _ _ _ h => h) (Or.inl ⟨by rfl, ?_⟩) hHeld ?_
          rotate_left
          · intro w hSw
            try dsimp only at hSw
            go_simp
            try with_reducible rfl
          try simp only [Act.put, List.setIfInBounds_toArray, List.set_cons_zero, List.set_cons_succ]
          refine until_one (i := 8) rfl (by kernel_rfl) (fun K hK => ?_)
          go_simp
          refine (HWT.out _).mono ?_
          rintro e x3 ⟨rfl, hb3⟩
          have HB3 := hide ((Below.refl _ _).drew.trans hb3)
          have HR3 := hide (HR.out.below HB3.out)
          have HZ3 := hide HB3.out.size
          clear hb3 hHeld
          have hHeld := HR3.out.s10
          refine hK.out _ _ (.inr hHeld) ?_
          clear hK K
          try simp only [Act.put, List.setIfInBounds_toArray, List.set_cons_zero, List.set_cons_succ]
          refine until_take (i := 9) (v := ?_) rfl (by kernel_rfl) (by kernel_rfl) (by kernel_rfl) (by kernel_rfl) (fun _ _ _ h => h) (Or.inl ⟨by rfl, ?_⟩) hHeld ?_
          rotate_left
          · intro w hSw
            try dsimp only at hSw
            go_simp
            try with_reducible rfl
          try simp only [Act.put, List.setIfInBounds_toArray, List.set_cons_zero, List.set_cons_succ]
          refine until_one (i := 10) rfl (by kernel_rfl) (fun K hK => ?_)
          go_simp
          refine (HDA.out _).mono ?_
          rintro e x4 ⟨rfl, rfl⟩
          refine hK.out _ _ (.inr hHeld) ?_
          clear hK K
          try simp only [Act.put, List.setIfInBounds_toArray, List.set_cons_zero, List.set_cons_succ]
          refine until_one (i := 11) rfl (by kernel_rfl) (fun K hK => ?_)
          go_simp
          refine hK.out _ _ (.inr hHeld) ?_
          clear hK K
          try simp only [Act.put, List.setIfInBounds_toArray, List.set_cons_zero, List.set_cons_succ]
          refine until_done (by kernel_rfl) ?_ _
          refine NoPanic.normal ?_
          clear hHeld
          go_wp2_with fail
          refine wp_region_noPanic ?_
          refine region_until 14 (fun w' => w'.cell? ⟨c.A, 14 + j, none⟩ = some (.slice va n0 vc) ∧ w'.cell? ⟨wr.heap.size, 3, none⟩ = some (.int .i64 d) ∧ w'.cell? ⟨c.A, 6, none⟩ = some (.int .i64 c.t.r) ∧ w'.cell? ⟨x2.heap.size, 0, none⟩ = some (.int .i64 v)) (by kernel_rfl) (HR3.out.s11 hj6 HV.out) (fun hHeld => ?_)
          refine until_take (i := 0) (v := ?_) rfl (by kernel_rfl) (by kernel_rfl) (by kernel_rfl) (by kernel_rfl) (fun _ _ _ h => h) (Or.inl ⟨by rfl, ?_⟩) hHeld ?_
          rotate_left
          · intro w hSw
            try dsimp only at hSw
            go_simp
            try with_reducible rfl
          try simp only [Act.put, List.setIfInBounds_toArray, List.set_cons_zero, List.set_cons_succ]
          refine until_take (i := 1) (v := ?_) rfl (by kernel_rfl) (by kernel_rfl) (by kernel_rfl) (by kernel_rfl) (fun _ _ _ h => h) (Or.inl ⟨by rfl, ?_⟩) hHeld ?_
          rotate_left
          · intro w hSw
            try dsimp only at hSw
            go_simp
            try with_reducible rfl
          try simp only [Act.put, List.setIfInBounds_toArray, List.set_cons_zero, List.set_cons_succ]
          refine until_take (i := 2) (v := ?_) rfl (by kernel_rfl) (by kernel_rfl) (by kernel_rfl) (by kernel_rfl) (fun _ _ _ h => h) (Or.inl ⟨by rfl, ?_⟩) hHeld ?_
          rotate_left
          · intro w hSw
            try dsimp only at hSw
            go_simp
            try with_reducible rfl
          try simp only [Act.put, List.setIfInBounds_toArray, List.set_cons_zero, List.set_cons_succ]
          refine until_take (i := 3) (v := ?_) rfl (by kernel_rfl) (by kernel_rfl) (by kernel_rfl) (by kernel_rfl) (fun _ _ _ h => h) (Or.inl ⟨by rfl, ?_⟩) hHeld ?_
          rotate_left
          · intro w hSw
            try dsimp only at hSw
            go_simp
            try with_reducible rfl
          try simp only [Act.put, List.setIfInBounds_toArray, List.set_cons_zero, List.set_cons_succ]
          refine until_take (i := 4) (v := ?_) rfl (by kernel_rfl) (by kernel_rfl) (by kernel_rfl) (by kernel_rfl) (fun _ _ _ h => h) (Or.inl ⟨by rfl, ?_⟩) hHeld ?_
          rotate_left
          · intro w hSw
            try dsimp only at hSw
            go_simp
            try with_reducible rfl
          try simp only [Act.put, List.setIfInBounds_toArray, List.set_cons_zero, List.set_cons_succ]
          refine until_take (i := 5) (v := ?_) rfl (by kernel_rfl) (by kernel_rfl) (by kernel_rfl) (by kernel_rfl) (fun _ _ _ h => h) (Or.inl ⟨by rfl, ?_⟩) hHeld ?_
          rotate_left
          · intro w hSw
            try dsimp only at hSw
            go_simp
            try with_reducible rfl
          try simp only [Act.put, List.setIfInBounds_toArray, List.set_cons_zero, List.set_cons_succ]
          refine until_take (i := 6) (v := ?_) rfl (by kernel_rfl) (by kernel_rfl) (by kernel_rfl) (by kernel_rfl) (fun _ _ _ h => h) (Or.inl ⟨by rfl, ?_⟩) hHeld ?_
          rotate_left
          · intro w hSw
            try dsimp only at hSw
            go_simp
            try with_reducible rfl
          try simp only [Act.put, List.setIfInBounds_toArray, List.set_cons_zero, List.set_cons_succ]
          refine until_take (i := 7) (v := ?_) rfl (by kernel_rfl) (by kernel_rfl) (by kernel_rfl) (by kernel_rfl) (fun _ _ _ h => h) (Or.inl ⟨by rfl, ?_⟩) hHeld ?_
          rotate_left
          · intro w hSw
            try dsimp only at hSw
            go_simp
            try with_reducible rfl
          try simp only [Act.put, List.setIfInBounds_toArray, List.set_cons_zero, List.set_cons_succ]
          refine until_take (i := 9) (v := ?_) rfl (by kernel_rfl) (by kernel_rfl) (by kernel_rfl) (by kernel_rfl) (fun _ _ _ h => h) (Or.inl ⟨by rfl, ?_⟩) hHeld ?_
          rotate_left
          · intro w hSw
            try dsimp only at hSw
            go_simp
            try with_reducible rfl
          try simp only [Act.put, List.setIfInBounds_toArray, List.set_cons_zero, List.set_cons_succ]
          refine until_one (i := 8) rfl (by kernel_rfl) (fun K hK => ?_)
          go_simp
          refine (number_at c.A c.t.r d P rg _ hHeld.2.2.1 hd0 (by omega) (by omega) (by omega) hr1 hr2 HRG.out).mono ?_
          rintro e x5 ⟨rfl, rfl⟩
          refine hK.out _ _ (.inr hHeld) ?_
          clear hK K
          try simp only [Act.put, List.setIfInBounds_toArray, List.set_cons_zero, List.set_cons_succ]
          refine until_take (i := 10) (v := ?_) rfl (by kernel_rfl) (by kernel_rfl) (by kernel_rfl) (by kernel_rfl) (fun _ _ _ h => h) (Or.inl ⟨by rfl, ?_⟩) hHeld ?_
          rotate_left
          · intro w hSw
            try dsimp only at hSw
            go_simp
            try with_reducible rfl
          try simp only [Act.put, List.setIfInBounds_toArray, List.set_cons_zero, List.set_cons_succ]
          refine until_one (i := 11) rfl (by kernel_rfl) (fun K hK => ?_)
          go_simp
          have HR5 := hide (HR3.out.below ((Below.refl _ _).drew.trans (below_alloc1 x4.drew (.cells #[.int .i64 rg, .int .i64 v] 161))))
          refine hK.out _ _ (.inr (HR5.out.s11 hj6 HV.out)) ?_
          clear hK K hHeld
          try simp only [Act.put, List.setIfInBounds_toArray, List.set_cons_zero, List.set_cons_succ]
          refine until_one (i := 12) rfl (by kernel_rfl) (fun K hK => ?_)
          refine step_append_lies _ (by rfl) (.tmp 65) (.tmp 73) 109 (by rfl) c.w1.heap.size 161 i0 (.agg #[.int .i64 0, .int .i64 0]) 2 16 Try.underlying109 hi hz0 hz1 hz2 rfl (by decide) _ n0 (flatR l0) (by rfl) (HOW.out _ HR5.out.inv) ⟨x4.heap.size, 0, none⟩ 1 1 [.int .i64 rg, .int .i64 v] (by rfl) rfl (two_cells _ _ _ _) (by intro u hu; simp at hu; rcases hu with rfl | rfl <;> rfl) (by decide) (by unfold maxLen; omega) (by omega) HR5.out.inv.keep.1 (x4.heap.size + 1) (by simp) ?_
          intro g cap w6 hown6 hgrow6 hat6 hlt6
          have hk6 := HR5.out.grown hj6 HV.out hgrow6
          have HO6 := hide hown6
          have HG6 := hide hgrow6
          have HA6 := hide hat6
          clear hown6 hgrow6 hat6
          refine hK.out _ _ (.inr hk6.1) ?_
          clear hK K
          try simp only [Act.put, List.setIfInBounds_toArray, List.set_cons_zero, List.set_cons_succ]
          have hHeld := hk6.1
          have hpc6 := hk6.1.1
          have hf6 := hk6.2
          refine until_take (i := 13) (v := ?_) rfl (by kernel_rfl) (by kernel_rfl) (by kernel_rfl) (by kernel_rfl) (fun _ _ _ h => h) (Or.inl ⟨by rfl, ?_⟩) hHeld ?_
          rotate_left
          · intro w hSw
            try dsimp only at hSw
            go_simp
            try with_reducible rfl
          try simp only [Act.put, List.setIfInBounds_toArray, List.set_cons_zero, List.set_cons_succ]
          refine until_one (i := 14) rfl (by kernel_rfl) (fun K hK => ?_)
          go_simp
          refine hK.out _ _ (.inl rfl) ?_
          clear hK K
          try simp only [Act.put, List.setIfInBounds_toArray, List.set_cons_zero, List.set_cons_succ]
          refine until_done (by kernel_rfl) ?_ _
          refine NoPanic.normal ?_
          clear hk6 hHeld
          go_wp2_with fail
          go_roundw
          case rel =>
            have hA : (Value.slice va n0 vc).ownBlock = some g ∨ (x4.drew.alloc (.cells #[.int .i64 rg, .int .i64 v] 161)).heap.size ≤ g := by
              rcases HA6.out with e | e
              · exact .inl e
              · exact .inr (by simp; omega)
            have hI6 := HR5.out.inv.push HJ.out HV.out HL0.out HN0.out HO6.out HG6.out hA
            refine ⟨k + 1, by omega, by go_num, _, by rw [HDU.out]; exact hI6, ?_, ?_⟩
            · rw [HST.out]
              exact (((HSt2.out.below (below_alloc1 _ _)).below HB3.out).below ((Below.refl _ _).drew.trans (below_alloc1 x4.drew (.cells #[.int .i64 rg, .int .i64 v] 161)))).setDue HR5.out.inv j hj6 (by omega) (by rw [HV.out]; exact HG6.out) _ _
            · have h1 := HG6.out.size
              have h2 := HZ3.out
              have h3 := HWZ.out
              simp at h1 h2 h3 ⊢
              omega
          case measure => simp [intOf]; omega
    · have e : k = L.length := by omega
      subst e
      rw [List.take_length] at hQ hSt
      have hki : ¬ (L.length : Int) < (L.length : Int) := by omega
      have HNX := hide (nx_stos c.t logs c.pc c.turns T f m D L L.length (Nat.le_refl _))
      rw [List.take_length] at HNX
      have hSk : (stosL c.t logs c.pc c.turns T f m L).length ≤ 16 := by
        have := stos_len c.t logs c.pc c.turns T f m L
        omega
      generalize hqq : opsL c.t logs c.pc c.turns T f m ⟨m, D⟩ L = q at *
      generalize stosL c.t logs c.pc c.turns T f m L = sts at *
      obtain ⟨BF, WF, hrow, hbox⟩ := hSt
      obtain ⟨sa, sc, rfl, hs1, hs2⟩ := ownz_shape hrow
      unfold maxLen at hs2
      have HQ := hide hQ
      have HROW := hide hrow
      have HBOX := hide hbox
      have HQE := hide hqq
      clear hQ hrow hbox hqq
      go_wp2_with fail
      go_loopw [79] (fun i wr2 => ∃ k2 : Nat, k2 ≤ sts.length ∧ i = .int .i64 k2 ∧ MInv c V1 q.du f (stoN sts m k2) wr2 ∧ wr2.ownsRow w.heap.size 1 1 (.slice sa sts.length sc) sts.length ((List.range sts.length).map fun i => cloV (BF i) (WF i)) ∧ ∀ i, i < sts.length → (w.heap.size ≤ BF i ∧ wr2.heap[BF i]? = some (.cells #[.int .i64 (stoAt sts i).v] 2 (0, 0))) ∧ (w.heap.size ≤ WF i ∧ wr2.heap[WF i]? = some (.cells #[.pointer (some ⟨c.GM (stoAt sts i).i, (stoAt sts i).j, none⟩)] 151 (0, 0))) ∧ (stoAt sts i).i < c.n ∧ (stoAt sts i).j < c.lenM (stoAt sts i).i) (fun i _ => sts.length - (intOf i).toNat)
      case atStart => exact ⟨0, Nat.zero_le _, rfl, HQ.out, HROW.out, HBOX.out⟩
      case round =>
        clear HQ HROW HBOX
        obtain ⟨k2, hk2, rfl, hQ2, hrow2, hbox2⟩ := hrel
        by_cases hkl2 : k2 < sts.length
        · have hki2 : (k2 : Int) < (sts.length : Int) := by omega
          obtain ⟨g, cap, hg0, -, -, -, hgr⟩ := own_parts hrow2 (.inr (by omega))
          injection hg0 with e1 e2 e3
          subst e1; subst e3
          have hcl := hgr.cell hkl2
          rw [getD_range _ _ _ hkl2] at hcl
          obtain ⟨⟨b1, b2⟩, ⟨b3, b4⟩, b5, b6⟩ := hbox2 k2 hkl2
          have HD1 := hide (do1_any _ _ _ _ _ _ hQ2 b2 b4 b5 b6)
          have HQ3 := hide (hQ2.setMem _ _ (stoAt sts k2).v b5 b6)
          have HS3 := hide (StoV.two hrow2 hbox2 hQ2 (stoAt sts k2).i (stoAt sts k2).j b5 hwz (.int .i64 (stoAt sts k2).v))
          clear hgr hrow2 hbox2 hQ2 b1 b2 b3 b4 b5 b6
          unfold cloV at hcl
          go_wp2_with fail
          refine HD1.out.mono ?_
          rintro e x ⟨rfl, rfl⟩
          go_wp2_with fail
          go_roundw
          case rel => exact ⟨k2 + 1, by omega, by go_num, HQ3.out, HS3.out.1, HS3.out.2⟩
          case measure => simp [intOf]; omega
        · have e : k2 = sts.length := by omega
          subst e
          have hki2 : ¬ (sts.length : Int) < (sts.length : Int) := by omega
          have HQ2 := hide hQ2
          clear hQ2 hrow2 hbox2
          go_wp2_with fail
          go_end0
          refine ⟨rfl, V1, ?_⟩
          rw [HQE.out, HNX.out]
          exact HQ2.out
end Go.Proofs.Ytpljieenjkbmmaa
/- The contract of the Ops of each Slot, in order. -/
namespace Go.Proofs.Ytpljieenjkbmmaa
open Go.RowKit Go.Joins
set_option linter.unusedVariables false
set_option linter.unusedSimpArgs false
set_option maxRecDepth 8192

theorem Try.i53 : (Try.prog.info? 53).map (fun i => (i.zero, i.size, i.bytes)) = some (some (.slice none 0 0), 1, 24) := by kernel_rfl
theorem Try.i68 : (Try.prog.info? 68).map (fun i => (i.zero, i.size, i.bytes)) = some (some (.agg #[.int .i64 0, .int .i64 0, .int .i64 0, .int .i64 0, .int .i64 0, .int .i64 0, .int .i64 0, .int .i64 0, .int .i64 0, .int .i64 0]), 10, 80) := by kernel_rfl
/-- rows of Ops, ten cells each -/
def flatO (l : List Kop) : List Value := l.flatMap fun x => (kCells x).toList
theorem flatO_snoc (l : List Kop) (x : Kop) : flatO l ++ (kCells x).toList = flatO (l ++ [x]) := by unfold flatO; simp
theorem flatO_len (l : List Kop) : (flatO l).length = l.length * 10 := by
  induction l with
  | nil => rfl
  | cons d l ih =>
    show ((kCells d).toList ++ flatO l).length = (l.length + 1) * 10
    rw [List.length_append, ih]
    show 10 + _ = _
    omega
theorem flatO_get (l : List Kop) : ∀ i j, i < l.length → j < 10 → (flatO l)[i * 10 + j]? = (kCells (opAt l i))[j]? := by
  induction l with
  | nil => intro i c h; exact absurd h (Nat.not_lt_zero _)
  | cons d l ih =>
    intro i j h hj
    show ((kCells d).toList ++ flatO l)[i * 10 + j]? = _
    have h3 : (kCells d).toList.length = 10 := rfl
    cases i with
    | zero =>
      rw [List.getElem?_append_left (by omega), Nat.zero_mul, Nat.zero_add, Array.getElem?_toList]
      rfl
    | succ i =>
      rw [List.getElem?_append_right (by omega), h3, show (i + 1) * 10 + j - 10 = i * 10 + j from by omega, ih i j (by simpa using h) hj]
      rfl
/-- an own row of Ops is a slice of them -/
theorem ops_own {w : World} {base : Nat} {v : Value} {l : List Kop} (h : w.ownsRow base 68 10 v l.length (flatO l)) : OpsV w v l := by
  obtain ⟨hl, h⟩ := h
  rcases h with ⟨rfl, hn⟩ | ⟨g, cap, cur, rfl, hg, hb, hn, hm, hc, ht⟩
  · exact ⟨none, 0, by rw [hn], by omega, Nat.zero_le _, fun hp => by omega⟩
  · refine ⟨_, cap, rfl, hn, hm, fun _ => ⟨g, 0, rfl, (Array.getElem?_eq_some_iff.1 hb).1, fun i hi j hj => ?_⟩⟩
    rw [cell_of_block hb, ← flatO_get l i j hi hj, ← ht, List.getElem?_take, if_pos (by omega), Nat.zero_add]
    simp
/-- where the Slots' rows stand: G leads to them, U s is that of Slot s -/
structure SInv (w : World) (PC : Nat) (U : Nat → Value) (l : List Kop) (wr : World) : Prop where
  bel : Below w.heap.size w wr
  out : RowF wr w.heap.size 53 PC U
  rows : ∀ s : Nat, s < PC → wr.ownsRow w.heap.size 68 10 (U s) (slotOf l s).length (flatO (slotOf l s))
  inj : ∀ i j : Nat, i < PC → j < PC → i ≠ j → ∀ g, (U i).ownBlock = some g → some g ≠ (U j).ownBlock
variable {w wr x : World} {PC : Nat} {U : Nat → Value} {l : List Kop}
theorem SInv.below (h : SInv w PC U l wr) (hb : Below wr.heap.size wr x) : SInv w PC U l x where
  bel := h.bel.trans (hb.mono h.bel.size)
  out := h.out.below hb h.out.lt
  rows := fun s hs => ownz_keep (h.rows s hs) fun g hg => hb.block g (ownz_block_lt (h.rows s hs) g hg)
  inj := h.inj
theorem SInv.push {s : Nat} {xk : Kop} {g cap n0 : Nat} {l' : List Kop} {w6 : World} (h : SInv w PC U l wr) (hs : s < PC) (hsl : xk.sl = (s : Int)) (hl : ∀ q : Int, slotOf l' q = if xk.sl = q then slotOf l q ++ [xk] else slotOf l q) (hn : (slotOf l s).length = n0)
    (hown : w6.ownsRow w.heap.size 68 10 (.slice (some ⟨g, 0, none⟩) (n0 + 1) cap) (n0 + 1) (flatO (slotOf l s) ++ (kCells xk).toList)) (hg : wr.grownBy w6 (U s).ownBlock) (hat : (U s).ownBlock = some g ∨ wr.heap.size ≤ g) :
    SInv w PC (fun i => if i = s then .slice (some ⟨g, 0, none⟩) (n0 + 1) cap else U i) l' (w6.setCell ⟨w.heap.size, s, none⟩ (.slice (some ⟨g, 0, none⟩) (n0 + 1) cap)) := by
  have hge : ∀ k, (U s).ownBlock = some k → w.heap.size ≤ k := fun k e => ownz_block_ge (h.rows s hs) k e
  have hne : some w.heap.size ≠ (U s).ownBlock := ownz_apart (h.rows s hs) h.out (by decide)
  have hout : RowF w6 w.heap.size 53 PC U := h.out.of_block (hg.block _ h.out.lt hne)
  have hgne : g ≠ w.heap.size := by
    intro e
    rcases hat with e2 | e2
    · exact hne (by rw [← e, e2])
    · have := h.out.lt; omega
  have e1 : slotOf l' (s : Int) = slotOf l (s : Int) ++ [xk] := by rw [hl, if_pos hsl]
  refine { bel := (h.bel.grown hg h.bel.size hge).setCell (by exact Nat.le_refl _) _, out := ?_, rows := ?_, inj := ?_ }
  · refine (hout.set s _ hs).congr fun i hi => rfl
  · intro i hi
    by_cases e : i = s
    · subst e
      simp only [if_true]
      rw [e1, ← flatO_snoc, List.length_append, hn]
      exact ownz_keep hown fun q hq => Below.heap_setCell _ _ _ _ (by
        have e3 : g = q := by simpa [Value.ownBlock] using hq
        show q ≠ w.heap.size; omega)
    · simp only [if_neg e]
      rw [hl, if_neg (by omega)]
      have h1 := ownz_keep (h.rows i hi) fun q hq => hg.block q (ownz_block_lt (h.rows i hi) q hq) (h.inj i s hi hs e q hq)
      exact ownz_keep h1 fun q hq => Below.heap_setCell _ _ _ _ (by
        show q ≠ w.heap.size
        intro e3
        exact ownz_apart (h.rows i hi) h.out (by decide) (by rw [← e3, hq]))
  · intro i k hi hk hik q hq
    by_cases e1 : i = s
    · by_cases e2 : k = s
      · omega
      · simp only [if_pos e1] at hq
        simp only [if_neg e2]
        have e3 : g = q := by simpa [Value.ownBlock] using hq
        subst e3
        intro e4
        rcases hat with e5 | e5
        · exact h.inj s k hs hk (by omega) g e5 e4
        · have := ownz_block_lt (h.rows k hk) g e4.symm; omega
    · by_cases e2 : k = s
      · simp only [if_neg e1] at hq
        simp only [if_pos e2]
        intro e4
        have e3 : q = g := by simpa [Value.ownBlock] using e4
        subst e3
        rcases hat with e5 | e5
        · exact h.inj i s hi hs e1 q hq e5.symm
        · have := ownz_block_lt (h.rows i hi) q hq; omega
      · simp only [if_neg e1] at hq
        simp only [if_neg e2]
        exact h.inj i k hi hk hik q hq
theorem SInv.held {ua : Option Addr} {n0 uc s : Nat} {sg o d a b ar sp pl nn : Int} {X : Nat} (h : SInv w PC U l x) (hs : s < PC) (hX : x.heap[X]? = some (.cells #[.int .i64 (s : Int), .int .i64 sg, .int .i64 o, .int .i64 d, .int .i64 a, .int .i64 b, .int .i64 ar, .int .i64 sp, .int .i64 pl, .int .i64 nn] 68 (0, 0))) (hU : U s = .slice ua n0 uc) : (x.cell? ⟨X, 0, none⟩ = some (.int .i64 (s : Int)) ∧ x.cell? ⟨X, 1, none⟩ = some (.int .i64 sg) ∧ x.cell? ⟨X, 2, none⟩ = some (.int .i64 o) ∧ x.cell? ⟨X, 3, none⟩ = some (.int .i64 d) ∧ x.cell? ⟨X, 4, none⟩ = some (.int .i64 a) ∧ x.cell? ⟨X, 5, none⟩ = some (.int .i64 b) ∧ x.cell? ⟨X, 6, none⟩ = some (.int .i64 ar) ∧ x.cell? ⟨X, 7, none⟩ = some (.int .i64 sp) ∧ x.cell? ⟨X, 8, none⟩ = some (.int .i64 pl) ∧ x.cell? ⟨X, 9, none⟩ = some (.int .i64 nn)) ∧ x.cell? ⟨w.heap.size, s, none⟩ = some (.slice ua n0 uc) :=
  ⟨op_box hX, by rw [h.out.cell hs, hU]⟩
theorem SInv.grown {ua : Option Addr} {n0 uc s : Nat} {sg o d a b ar sp pl nn : Int} {X : Nat} {w6 : World} (h : SInv w PC U l x) (hs : s < PC) (hX : x.heap[X]? = some (.cells #[.int .i64 (s : Int), .int .i64 sg, .int .i64 o, .int .i64 d, .int .i64 a, .int .i64 b, .int .i64 ar, .int .i64 sp, .int .i64 pl, .int .i64 nn] 68 (0, 0))) (hXf : some X ≠ (Value.slice ua n0 uc).ownBlock) (hU : U s = .slice ua n0 uc) (hg : x.grownBy w6 (Value.slice ua n0 uc).ownBlock) : ((w6.cell? ⟨X, 0, none⟩ = some (.int .i64 (s : Int)) ∧ w6.cell? ⟨X, 1, none⟩ = some (.int .i64 sg) ∧ w6.cell? ⟨X, 2, none⟩ = some (.int .i64 o) ∧ w6.cell? ⟨X, 3, none⟩ = some (.int .i64 d) ∧ w6.cell? ⟨X, 4, none⟩ = some (.int .i64 a) ∧ w6.cell? ⟨X, 5, none⟩ = some (.int .i64 b) ∧ w6.cell? ⟨X, 6, none⟩ = some (.int .i64 ar) ∧ w6.cell? ⟨X, 7, none⟩ = some (.int .i64 sp) ∧ w6.cell? ⟨X, 8, none⟩ = some (.int .i64 pl) ∧ w6.cell? ⟨X, 9, none⟩ = some (.int .i64 nn)) ∧ w6.cell? ⟨w.heap.size, s, none⟩ = some (.slice ua n0 uc)) ∧ w6.frozen? ⟨w.heap.size, s, none⟩ = false := by
  have hne : some w.heap.size ≠ (Value.slice ua n0 uc).ownBlock := by rw [← hU]; exact ownz_apart (h.rows s hs) h.out (by decide)
  have hout : RowF w6 w.heap.size 53 PC U := h.out.of_block (hg.block _ h.out.lt hne)
  have hX6 : w6.heap[X]? = some (.cells #[.int .i64 (s : Int), .int .i64 sg, .int .i64 o, .int .i64 d, .int .i64 a, .int .i64 b, .int .i64 ar, .int .i64 sp, .int .i64 pl, .int .i64 nn] 68 (0, 0)) := by rw [hg.block X (Array.getElem?_eq_some_iff.1 hX).1 hXf]; exact hX
  exact ⟨⟨op_box hX6, by rw [hout.cell hs, hU]⟩, hout.frozen s⟩

theorem ten_at (w : World) (x : Kop) {B : Nat} (hB : w.heap.size = B) : ∀ (j : Nat) (u : Value), (kCells x).toList[j]? = some u → (w.alloc (.cells (kCells x) 68)).cell? ((⟨B, 0, none⟩ : Addr).add j) = some u := by
  subst hB
  intro j u hj
  have ha : (⟨w.heap.size, 0, none⟩ : Addr).add j = ⟨w.heap.size, j, none⟩ := by simp [Addr.add]; omega
  rw [ha, cell_of_block (new_block _ _ _)]
  simpa using hj
theorem ten_one {x : Kop} {u : Value} (h : u ∈ (kCells x).toList) : u.oneCell' = true := by
  unfold kCells at h
  simp at h
  rcases h with rfl | rfl | rfl | rfl | rfl | rfl | rfl | rfl | rfl | rfl <;> rfl
set_option maxHeartbeats 8000000 in
theorem slots_any (A PC : Nat) (ka : Option Addr) (kc : Nat) (ops : List Kop) (w : World) (hc7 : w.cell? ⟨A, 7, none⟩ = some (.int .i64 PC)) (hc9 : w.cell? ⟨A, 9, none⟩ = some (.slice ka ops.length kc)) (hAz : A < w.heap.size) (hK : OpsV w (.slice ka ops.length kc) ops) (h16 : ops.length ≤ 16) (hPC : PC ≤ 200) (hsl : ∀ x ∈ ops, 0 ≤ x.sl ∧ x.sl < (PC : Int)) :
    Calls Try.prog 96 #[.pointer (some ⟨A, 0, none⟩)] w fun e w' => e = .returned (.slice (some ⟨w.heap.size, 0, none⟩) PC PC) ∧ ∃ U, SInv w PC U ops w' := by
  obtain ⟨ka', kc', hk1, hk2, hk3, hkc⟩ := hK
  injection hk1 with e1 e2 e3
  subst e1; subst e3
  unfold maxLen at hk3
  obtain ⟨i0, hi, hz0, hz1, hz2⟩ := info_parts Try.i68
  have HKC := hide hkc
  have HSL := hide hsl
  have H0 : Hid (SInv w PC (fun _ => .slice none 0 0) [] (w.alloc (.cells (madeCells #[.slice none 0 0] PC) 53))) :=
    ⟨below_alloc1 _ _, RowF.zeros w _ PC _, fun s hs => World.ownsRow_nil _ _ _ _, fun i j _ _ _ g h => by cases h⟩
  have hmk := run_make_row' (P := Try.prog) 136 53 (.slice none 0 0) 24 Try.underlying136 Try.i53 rfl .i64 .i64 PC (by omega) (by omega)
  clear hkc hsl e2
  go_enter Try.func96, Try.ntmps96
  go_wp2_with fail
  go_loopw [18] (fun i wr => ∃ k : Nat, k ≤ ops.length ∧ i = .int .i64 k ∧ ∃ U, SInv w PC U (ops.take k) wr) (fun i _ => ops.length - (intOf i).toNat)
  case atStart => exact ⟨0, Nat.zero_le _, rfl, _, H0.out⟩
  case round =>
    clear H0
    obtain ⟨k, hk, rfl, U, hQ⟩ := hrel
    by_cases hkl : k < ops.length
    · have hki : (k : Int) < (ops.length : Int) := by omega
      obtain ⟨ob, oo, rfl, hob, hocell⟩ := HKC.out (by omega)
      obtain ⟨c0, c1, c2, c3, c4, c5, c6, c7, c8, c9⟩ := ten (hocell k hkl)
      rw [← bcell hQ.bel _ _ hob] at c0 c1 c2 c3 c4 c5 c6 c7 c8 c9
      have hobz : ob < wr.heap.size := by have := hQ.bel.size; omega
      have hgz := hQ.out.lt
      obtain ⟨s0, s1⟩ := HSL.out _ (opAt_in hkl)
      have HTK := hide (fun q => slot_snoc ops k q hkl)
      have HQ := hide hQ
      clear hocell hQ
      obtain ⟨xk, hxk⟩ : ∃ xk, opAt ops k = xk := ⟨_, rfl⟩
      rw [hxk] at c0 c1 c2 c3 c4 c5 c6 c7 c8 c9 s0 s1 HTK
      clear hxk
      obtain ⟨sl, sg, o, d, a, b, ar, sp, pl, nn⟩ := xk
      simp only at c0 c1 c2 c3 c4 c5 c6 c7 c8 c9 s0 s1
      obtain ⟨s, rfl⟩ : ∃ s : Nat, sl = (s : Int) := ⟨sl.toNat, by omega⟩
      have hs : s < PC := by omega
      have hsi : (s : Int) < (PC : Int) := by omega
      obtain ⟨n0, hn0⟩ : ∃ n0, (slotOf (ops.take k) s).length = n0 := ⟨_, rfl⟩
      have hn9 : n0 ≤ 16 := by
        rw [← hn0]
        have h1 : (slotOf (ops.take k) s).length ≤ (ops.take k).length := List.length_filter_le _ _
        rw [List.length_take] at h1
        omega
      have HN0 := hide hn0
      obtain ⟨ua, uc, hU, -, -⟩ := ownz_shape (HQ.out.rows s hs)
      rw [hn0] at hU
      have HU := hide hU
      have HOW : Hid (∀ x, SInv w PC U (ops.take k) x → x.ownsRow w.heap.size 68 10 (.slice ua n0 uc) n0 (flatO (slotOf (ops.take k) s))) := fun x h => by
        have h2 := h.rows s hs
        rw [HN0.out, HU.out] at h2
        exact h2
      have HFAR : Hid (∀ g, wr.heap.size ≤ g → some g ≠ (Value.slice ua n0 uc).ownBlock) := fun g hg e => by
        have h2 := ownz_block_lt (HQ.out.rows s hs) g (by rw [HU.out]; exact e.symm)
        omega
      have HR := hide (HQ.out.below (below_alloc1 wr (.cells #[.int .i64 (s : Int), .int .i64 sg, .int .i64 o, .int .i64 d, .int .i64 a, .int .i64 b, .int .i64 ar, .int .i64 sp, .int .i64 pl, .int .i64 nn] 68)))
      have HXB : Hid ((wr.alloc (.cells #[.int .i64 (s : Int), .int .i64 sg, .int .i64 o, .int .i64 d, .int .i64 a, .int .i64 b, .int .i64 ar, .int .i64 sp, .int .i64 pl, .int .i64 nn] 68)).heap[wr.heap.size]? = some (.cells #[.int .i64 (s : Int), .int .i64 sg, .int .i64 o, .int .i64 d, .int .i64 a, .int .i64 b, .int .i64 ar, .int .i64 sp, .int .i64 pl, .int .i64 nn] 68 (0, 0))) := new_block _ _ _
      clear hn0 hU
      go_wp2_with fail
      clear c0 c1 c2 c3 c4 c5 c6 c7 c8 c9
      refine wp_region_noPanic ?_
      refine region_until 12 (fun w' => (w'.cell? ⟨wr.heap.size, 0, none⟩ = some (.int .i64 (s : Int)) ∧ w'.cell? ⟨wr.heap.size, 1, none⟩ = some (.int .i64 sg) ∧ w'.cell? ⟨wr.heap.size, 2, none⟩ = some (.int .i64 o) ∧ w'.cell? ⟨wr.heap.size, 3, none⟩ = some (.int .i64 d) ∧ w'.cell? ⟨wr.heap.size, 4, none⟩ = some (.int .i64 a) ∧ w'.cell? ⟨wr.heap.size, 5, none⟩ = some (.int .i64 b) ∧ w'.cell? ⟨wr.heap.size, 6, none⟩ = some (.int .i64 ar) ∧ w'.cell? ⟨wr.heap.size, 7, none⟩ = some (.int .i64 sp) ∧ w'.cell? ⟨wr.heap.size, 8, none⟩ = some (.int .i64 pl) ∧ w'.cell? ⟨wr.heap.size, 9, none⟩ = some (.int .i64 nn)) ∧ w'.cell? ⟨w.heap.size, s, none⟩ = some (.slice ua n0 uc)) (by kernel_rfl) (HR.out.held hs HXB.out HU.out) (fun hHeld => ?_)
      refine until_take (i := 0) (v := ?_) rfl (by kernel_rfl) (by kernel_rfl) (by kernel_rfl) (by kernel_rfl) (fun _ _ _ h => h) (Or.inl ⟨by rfl, ?_⟩) hHeld ?_
      rotate_left
      · intro w hSw
        try dsimp only at hSw
        go_simp
        try with_reducible rfl
      try simp only [Act.put, List.setIfInBounds_toArray, List.set_cons_zero, List.set_cons_succ]
      refine until_take (i := 1) (v := ?_) rfl (by kernel_rfl) (by kernel_rfl) (by kernel_rfl) (by kernel_rfl) (fun _ _ _ h => h) (Or.inl ⟨by rfl, ?_⟩) hHeld ?_
      rotate_left
      · intro w hSw
        try dsimp only at hSw
        go_simp
        try with_reducible rfl
      try simp only [Act.put, List.setIfInBounds_toArray, List.set_cons_zero, List.set_cons_succ]
      refine until_take (i := 2) (v := ?_) rfl (by kernel_rfl) (by kernel_rfl) (by kernel_rfl) (by kernel_rfl) (fun _ _ _ h => h) (Or.inl ⟨by rfl, ?_⟩) hHeld ?_
      rotate_left
      · intro w hSw
        try dsimp only at hSw
        go_simp
        try with_reducible rfl
      try simp only [Act.put, List.setIfInBounds_toArray, List.set_cons_zero, List.set_cons_succ]
      refine until_take (i := 3) (v := ?_) rfl (by kernel_rfl) (by kernel_rfl) (by kernel_rfl) (by kernel_rfl) (fun _ _ _ h => h) (Or.inl ⟨by rfl, ?_⟩) hHeld ?_
      rotate_left
      · intro w hSw
        try dsimp only at hSw
        go_simp
        try with_reducible rfl
      try simp only [Act.put, List.setIfInBounds_toArray, List.set_cons_zero, List.set_cons_succ]
      refine until_take (i := 4) (v := ?_) rfl (by kernel_rfl) (by kernel_rfl) (by kernel_rfl) (by kernel_rfl) (fun _ _ _ h => h) (Or.inl ⟨by rfl, ?_⟩) hHeld ?_
      rotate_left
      · intro w hSw
        try dsimp only at hSw
        go_simp
        try with_reducible rfl
      try simp only [Act.put, List.setIfInBounds_toArray, List.set_cons_zero, List.set_cons_succ]
      refine until_take (i := 5) (v := ?_) rfl (by kernel_rfl) (by kernel_rfl) (by kernel_rfl) (by kernel_rfl) (fun _ _ _ h => h) (Or.inl ⟨by rfl, ?_⟩) hHeld ?_
      rotate_left
      · intro w hSw
        try dsimp only at hSw
        go_simp
        try with_reducible rfl
      try simp only [Act.put, List.setIfInBounds_toArray, List.set_cons_zero, List.set_cons_succ]
      refine until_take (i := 6) (v := ?_) rfl (by kernel_rfl) (by kernel_rfl) (by kernel_rfl) (by kernel_rfl) (fun _ _ _ h => h) (Or.inl ⟨by rfl, ?_⟩) hHeld ?_
      rotate_left
      · intro w hSw
        try dsimp only at hSw
        go_simp
        try with_reducible rfl
      try simp only [Act.put, List.setIfInBounds_toArray, List.set_cons_zero, List.set_cons_succ]
      refine until_take (i := 7) (v := ?_) rfl (by kernel_rfl) (by kernel_rfl) (by kernel_rfl) (by kernel_rfl) (fun _ _ _ h => h) (Or.inl ⟨by rfl, ?_⟩) hHeld ?_
      rotate_left
      · intro w hSw
        try dsimp only at hSw
        go_simp
        try with_reducible rfl
      try simp only [Act.put, List.setIfInBounds_toArray, List.set_cons_zero, List.set_cons_succ]
      refine until_take (i := 8) (v := ?_) rfl (by kernel_rfl) (by kernel_rfl) (by kernel_rfl) (by kernel_rfl) (fun _ _ _ h => h) (Or.inl ⟨by rfl, ?_⟩) hHeld ?_
      rotate_left
      · intro w hSw
        try dsimp only at hSw
        go_simp
        try with_reducible rfl
      try simp only [Act.put, List.setIfInBounds_toArray, List.set_cons_zero, List.set_cons_succ]
      refine until_one (i := 9) rfl (by kernel_rfl) (fun K hK => ?_)
      go_simp
      have HR5 := hide (HR.out.below ((Below.refl _ _).drew.trans (below_alloc1 (wr.alloc (.cells #[.int .i64 (s : Int), .int .i64 sg, .int .i64 o, .int .i64 d, .int .i64 a, .int .i64 b, .int .i64 ar, .int .i64 sp, .int .i64 pl, .int .i64 nn] 68)).drew (.cells #[.int .i64 (s : Int), .int .i64 sg, .int .i64 o, .int .i64 d, .int .i64 a, .int .i64 b, .int .i64 ar, .int .i64 sp, .int .i64 pl, .int .i64 nn] 68))))
      have HX5 : Hid (((wr.alloc (.cells #[.int .i64 (s : Int), .int .i64 sg, .int .i64 o, .int .i64 d, .int .i64 a, .int .i64 b, .int .i64 ar, .int .i64 sp, .int .i64 pl, .int .i64 nn] 68)).drew.alloc (.cells #[.int .i64 (s : Int), .int .i64 sg, .int .i64 o, .int .i64 d, .int .i64 a, .int .i64 b, .int .i64 ar, .int .i64 sp, .int .i64 pl, .int .i64 nn] 68)).heap[wr.heap.size]? = some (.cells #[.int .i64 (s : Int), .int .i64 sg, .int .i64 o, .int .i64 d, .int .i64 a, .int .i64 b, .int .i64 ar, .int .i64 sp, .int .i64 pl, .int .i64 nn] 68 (0, 0))) := by show _ = _; rw [Below.heap_alloc _ _ _ (by simp)]; exact HXB.out
      refine hK.out _ _ (.inr (HR5.out.held hs HX5.out HU.out)) ?_
      clear hK K hHeld
      try simp only [Act.put, List.setIfInBounds_toArray, List.set_cons_zero, List.set_cons_succ]
      refine until_one (i := 10) rfl (by kernel_rfl) (fun K hK => ?_)
      refine step_append_lies _ (by rfl) (.tmp 29) (.tmp 31) 53 (by rfl) w.heap.size 68 i0 (.agg #[.int .i64 0, .int .i64 0, .int .i64 0, .int .i64 0, .int .i64 0, .int .i64 0, .int .i64 0, .int .i64 0, .int .i64 0, .int .i64 0]) 10 80 Try.underlying53 hi hz0 hz1 hz2 rfl (by decide) _ n0 (flatO (slotOf (ops.take k) s)) (by rfl) (HOW.out _ HR5.out) ⟨wr.heap.size + 1, 0, none⟩ 1 1 (kCells ⟨(s : Int), sg, o, d, a, b, ar, sp, pl, nn⟩).toList (by rfl) rfl (ten_at _ _ (by simp)) (by intro u hu; exact ten_one hu) (by decide) (by unfold maxLen; omega) (by omega) HR5.out.bel.size (wr.heap.size + 1 + 1) (by simp) ?_
      intro g cap w6 hown6 hgrow6 hat6 hlt6
      have hk6 := HR5.out.grown hs HX5.out (HFAR.out _ (Nat.le_refl _)) HU.out hgrow6
      have HO6 := hide hown6
      have HG6 := hide hgrow6
      have HA6 := hide hat6
      clear hown6 hgrow6 hat6
      refine hK.out _ _ (.inr hk6.1) ?_
      clear hK K
      try simp only [Act.put, List.setIfInBounds_toArray, List.set_cons_zero, List.set_cons_succ]
      have hHeld := hk6.1
      have hpc6 := hk6.1.2
      have hf6 := hk6.2
      refine until_take (i := 11) (v := ?_) rfl (by kernel_rfl) (by kernel_rfl) (by kernel_rfl) (by kernel_rfl) (fun _ _ _ h => h) (Or.inl ⟨by rfl, ?_⟩) hHeld ?_
      rotate_left
      · intro w hSw
        try dsimp only at hSw
        go_simp
        try with_reducible rfl
      try simp only [Act.put, List.setIfInBounds_toArray, List.set_cons_zero, List.set_cons_succ]
      refine until_one (i := 12) rfl (by kernel_rfl) (fun K hK => ?_)
      go_simp
      refine hK.out _ _ (.inl rfl) ?_
      clear hK K
      try simp only [Act.put, List.setIfInBounds_toArray, List.set_cons_zero, List.set_cons_succ]
      refine until_done (by kernel_rfl) ?_ _
      refine NoPanic.normal ?_
      clear hk6 hHeld
      go_wp2_with fail
      go_roundw
      case rel =>
        refine ⟨k + 1, by omega, by go_num, _, HR5.out.push hs rfl HTK.out HN0.out HO6.out (by rw [HU.out]; exact HG6.out) ?_⟩
        rw [HU.out]
        rcases HA6.out with e | e
        · exact .inl e
        · exact .inr (by simp; omega)
      case measure => simp [intOf]; omega
    · have e : k = ops.length := by omega
      subst e
      rw [List.take_length] at hQ
      have hki : ¬ (ops.length : Int) < (ops.length : Int) := by omega
      have HQ := hide hQ
      clear hQ
      go_wp2_with fail
      go_ret
      exact ⟨rfl, U, HQ.out⟩
end Go.Proofs.Ytpljieenjkbmmaa
/- The cycles of a run, by the program, are the document's: what a cycle begins and ends with. -/
namespace Go.Proofs.Ytpljieenjkbmmaa
open Go.RowKit Go.Joins
set_option linter.unusedVariables false
set_option linter.unusedSimpArgs false

/-- what is due stands within its six cycles, and in registers -/
theorem ops_due {t : Tg} {K : Kn} {logs : List Int} {turns now : Int} {f : Nat → Int} {m : Nat → Nat → Int} {q : Nx} (hmt : mayT t = true) {p : Du → Prop} (hq : ∀ d ∈ q.du, p d) (hp : ∀ d : Du, now + 1 ≤ d.at_ → d.at_ ≤ now + 6 → 0 ≤ d.rg → d.rg < t.r → p d) : ∀ k, ∀ d ∈ (opsK t K logs turns now f m q k).du, p d := by
  intro k
  induction k with
  | zero => exact hq
  | succ k ih =>
    show ∀ d ∈ (opK t logs K.pc turns now f m (opsK t K logs turns now f m q k) (opAt K.ops k)).du, p d
    unfold opK
    split
    · intro d hd
      rcases List.mem_append.1 hd with h | h
      · exact ih d h
      · have e : d = _ := List.mem_singleton.1 h
        obtain ⟨wt, w1, w2, w3, -⟩ := wait_nat hmt (opAt K.ops k).o
        have hr := (mayT_parts hmt).2.2.2.1
        have h1 := Int.emod_nonneg ((opAt K.ops k).d + now / K.pc) (by omega : t.r ≠ 0)
        have h2 := Int.emod_lt_of_pos ((opAt K.ops k).d + now / K.pc) (by omega : 0 < t.r)
        rw [e]
        exact hp _ (by show now + 1 ≤ now + waitsT t _; rw [w1]; omega) (by show now + waitsT t _ ≤ now + 6; rw [w1]; omega) h1 h2
    · exact ih
theorem run_win {t : Tg} {K : Kn} {logs : List Int} {turns : Int} {s : Kst} (hmt : mayT t = true) (h0 : s.due = []) : ∀ n : Nat, ∀ d ∈ (runK t K logs turns s n).due, ((n : Int) ≤ d.at_ ∧ d.at_ ≤ n + 5) ∧ d.at_ ≤ lastK K turns + 5 ∧ 0 ≤ d.rg ∧ d.rg < t.r := by
  intro n
  induction n with
  | zero => intro d hd; rw [show runK t K logs turns s 0 = s from rfl, h0] at hd; cases hd
  | succ n ih =>
    have hw : Win n (runK t K logs turns s n).due := fun d hd => (ih d hd).1
    have hrest : ∀ d ∈ restN n (runK t K logs turns s n).due (runK t K logs turns s n).due.length, (((n + 1 : Nat) : Int) ≤ d.at_ ∧ d.at_ ≤ (n + 1 : Nat) + 5) ∧ d.at_ ≤ lastK K turns + 5 ∧ 0 ≤ d.rg ∧ d.rg < t.r := fun d hd => by
      have h1 := rest_win hw d hd
      have h2 := rest_fine (p := fun d => d.at_ ≤ lastK K turns + 5 ∧ 0 ≤ d.rg ∧ d.rg < t.r) (now := n) (fun d hd => (ih d hd).2) _ (Nat.le_refl _) d hd
      exact ⟨by omega, h2⟩
    show ∀ d ∈ (cycK t K logs turns n (runK t K logs turns s n)).due, _
    unfold cycK
    by_cases hl : lastK K turns ≤ n
    · rw [if_pos hl]
      exact hrest
    · rw [if_neg hl]
      exact ops_due (q := ⟨_, _⟩) hmt hrest (fun d h1 h2 h3 h4 => ⟨by omega, by omega, h3, h4⟩) _
/-- a cycle of a pace -/
theorem run_step {t : Tg} {K : Kn} {logs : List Int} {turns : Int} {s : Kst} {n : Nat} (hl : ¬ lastK K turns ≤ n) (f' : Nat → Int) (hf : landN n (runK t K logs turns s n).due (runK t K logs turns s n).f (runK t K logs turns s n).due.length = f') :
    runK t K logs turns s (n + 1) = ⟨f', (opsL t logs K.pc turns n f' (runK t K logs turns s n).m ⟨(runK t K logs turns s n).m, restN n (runK t K logs turns s n).due (runK t K logs turns s n).due.length⟩ (slotOf K.ops (n % K.pc))).nx,
      (opsL t logs K.pc turns n f' (runK t K logs turns s n).m ⟨(runK t K logs turns s n).m, restN n (runK t K logs turns s n).due (runK t K logs turns s n).due.length⟩ (slotOf K.ops (n % K.pc))).du⟩ := by
  subst hf
  show cycK t K logs turns n (runK t K logs turns s n) = _
  unfold cycK
  rw [if_neg hl, opsK_slot]
/-- a cycle behind them -/
theorem run_last {t : Tg} {K : Kn} {logs : List Int} {turns : Int} {s : Kst} {n : Nat} (hl : lastK K turns ≤ n) :
    runK t K logs turns s (n + 1) = ⟨landN n (runK t K logs turns s n).due (runK t K logs turns s n).f (runK t K logs turns s n).due.length, (runK t K logs turns s n).m, restN n (runK t K logs turns s n).due (runK t K logs turns s n).due.length⟩ := by
  show cycK t K logs turns n (runK t K logs turns s n) = _
  unfold cycK
  rw [if_pos hl]
/-- six cycles behind the last pace nothing is due -/
theorem run_end {t : Tg} {K : Kn} {logs : List Int} {turns : Int} {s : Kst} {L : Nat} (hmt : mayT t = true) (h0 : s.due = []) (hL : lastK K turns = (L : Int)) : runK t K logs turns s (L + 7) = runK t K logs turns s (L + 6) := by
  have hd : (runK t K logs turns s (L + 6)).due = [] := by
    cases h : (runK t K logs turns s (L + 6)).due with
    | nil => rfl
    | cons d r =>
      have := run_win (logs := logs) (K := K) (turns := turns) hmt h0 (L + 6) d (by rw [h]; exact List.mem_cons_self)
      omega
  rw [run_last (n := L + 6) (by omega)]
  rw [hd]
  generalize hx : runK t K logs turns s (L + 6) = x at *
  obtain ⟨xf, xm, xd⟩ := x
  simp only at hd
  subst hd
  rfl

/-- all that a cycle wants to know -/
structure Ctx (c : Mc) (logs : List Int) (gm cm : Nat) (CM : Nat → Nat) (K : Kn) (PC N : Nat) (U : Nat → Value) : Prop where
  hS : ∀ x, KeptM c x → StatM c logs gm cm CM x
  hU : ∀ x, KeptM c x → ∀ q : Nat, q < PC → OpsV x (U q) (slotOf K.ops q)
  hn : c.n = logs.length
  hlen : ∀ i, i < c.n → c.lenM i = 2 ^ (nth logs i).toNat ∧ c.lenM i ≤ 32
  hR : (c.R : Int) = c.t.r
  hmay : mayK c.t K logs = true
  hpc : K.pc = c.pc
  hPC : c.pc = (PC : Int)
  hN : c.turns + K.st - 1 = (N : Int)
  ht1 : 1 ≤ c.turns
  ht2 : c.turns ≤ 200
  hNP : N * PC ≤ 20000
variable {c : Mc} {logs : List Int} {gm cm : Nat} {CM : Nat → Nat} {K : Kn} {PC N : Nat} {U : Nat → Value} {s : Kst}
theorem Ctx.last (h : Ctx c logs gm cm CM K PC N U) : lastK K c.turns = ((N * PC : Nat) : Int) := by
  unfold lastK
  rw [h.hN, h.hpc, h.hPC, Int.natCast_mul]
theorem good_of {t : Tg} {x : Kop} {n : Nat} (hmay : mayK t K logs = true) (hn : n = logs.length) (hx : x ∈ K.ops) : goodK t.r n x ∧ 0 ≤ x.sl ∧ x.sl < K.pc := by
  obtain ⟨i, hi, rfl⟩ := List.mem_iff_getElem.1 hx
  obtain ⟨-, -, -, hs1, hs2, -, -, hall⟩ := mayK_parts hmay
  have h := hall i hi
  have e : opAt K.ops i = K.ops[i] := by unfold opAt; rw [List.getD, List.getElem?_eq_getElem hi]; rfl
  rw [e] at h
  obtain ⟨p1, p2, p3, p4, p5, -, p7⟩ := one_parts h
  refine ⟨⟨p3, p4, p5, by omega, ?_⟩, p1⟩
  subst hn
  exact p7
/-- a cycle begins -/
theorem cyc_land {V : Nat → Value} {W : World} (h : Ctx c logs gm cm CM K PC N U) (h0 : s.due = []) (T : Nat) (hT : T ≤ 20010) (hI : MInv c V (runK c.t K logs c.turns s T).due (runK c.t K logs c.turns s T).f (runK c.t K logs c.turns s T).m W) :
    Calls Try.prog 97 #[.pointer (some ⟨c.A, 0, none⟩), .int .i64 T] W fun e w' => e = .returned (.tuple #[]) ∧ ∃ V', MInv c V' (restN T (runK c.t K logs c.turns s T).due (runK c.t K logs c.turns s T).due.length) (landN T (runK c.t K logs c.turns s T).due (runK c.t K logs c.turns s T).f (runK c.t K logs c.turns s T).due.length) (runK c.t K logs c.turns s T).m w' := by
  have hw := run_win (K := K) (logs := logs) (turns := c.turns) (s := s) (mayK_parts h.hmay).1 h0 T
  exact land_any T W hI (fun d hd => (hw d hd).1) (fun d hd => by have := hw d hd; rw [h.hR]; exact this.2.2) (by omega)
/-- and ends -/
theorem cyc_do {V : Nat → Value} {W : World} (h : Ctx c logs gm cm CM K PC N U) (h0 : s.due = []) (p q T : Nat) (hp : p < N) (hq : q < PC) (hT : T = p * PC + q)
    (hI : MInv c V (restN T (runK c.t K logs c.turns s T).due (runK c.t K logs c.turns s T).due.length) (landN T (runK c.t K logs c.turns s T).due (runK c.t K logs c.turns s T).f (runK c.t K logs c.turns s T).due.length) (runK c.t K logs c.turns s T).m W) :
    Calls Try.prog 98 #[.pointer (some ⟨c.A, 0, none⟩), U q, .int .i64 p, .int .i64 T] W fun e w' => e = .returned (.tuple #[]) ∧ ∃ V', MInv c V' (runK c.t K logs c.turns s (T + 1)).due (runK c.t K logs c.turns s (T + 1)).f (runK c.t K logs c.turns s (T + 1)).m w' := by
  obtain ⟨hmt, hp1, hp2, hs1, hs2, ho1, ho2, -⟩ := mayK_parts h.hmay
  have hpc1 : K.pc = (PC : Int) := h.hpc.trans h.hPC
  have hTl : T < N * PC := by
    have h1 : p * PC + PC ≤ N * PC := by rw [← Nat.succ_mul]; exact Nat.mul_le_mul_right _ hp
    omega
  have hTb : T ≤ 20000 := by have := h.hNP; omega
  have hmod : (T : Int) % c.pc = (q : Int) := by
    rw [h.hPC, hT, ← Int.natCast_emod]
    congr 1
    rw [Nat.add_comm, Nat.add_mul_mod_self_right]
    exact Nat.mod_eq_of_lt hq
  have hdiv : (T : Int) / c.pc = (p : Int) := by
    rw [h.hPC, hT, ← Int.natCast_ediv]
    congr 1
    rw [Nat.add_comm, Nat.add_mul_div_right _ _ (by omega), Nat.div_eq_of_lt hq, Nat.zero_add]
  have hlen16 : (slotOf K.ops (q : Int)).length ≤ 16 := Nat.le_trans (List.length_filter_le _ _) ho2
  have hdl : (restN T (runK c.t K logs c.turns s T).due (runK c.t K logs c.turns s T).due.length).length ≤ 900000 := by
    have h1 := rest_len T (runK c.t K logs c.turns s T).due (runK c.t K logs c.turns s T).due.length
    have h2 := run_len c.t K logs c.turns s T
    rw [h0] at h2
    have h3 : T * K.ops.length ≤ 20000 * 16 := Nat.mul_le_mul hTb ho2
    simp at h2
    omega
  have hU := h.hU W hI.keep q hq
  obtain ⟨oa, oc, hov, -, -, -⟩ := hU
  have hO : ∀ x, KeptM c x → OpsV x (.slice oa (slotOf K.ops (q : Int)).length oc) (slotOf K.ops (q : Int)) := fun x hx => hov ▸ h.hU x hx q hq
  have hN2 : N ≤ 1300 := by have := h.hN; have := h.ht2; omega
  have key := mdo_any W logs gm cm CM oa oc (slotOf K.ops (q : Int)) p T hI h.hS hO h.hn h.hlen h.hR hmt (fun x hx => (good_of h.hmay h.hn (slot_in hx).1).1) (fun x hx => by rw [hmod]; exact (slot_in hx).2) hdiv (by omega) (by omega) h.ht1 h.ht2 hdl hlen16
  rw [hov]
  refine key.mono fun e w' ⟨h1, V', h2⟩ => ⟨h1, V', ?_⟩
  rw [run_step (by rw [h.last]; omega) _ rfl, h.hpc, hmod]
  exact h2
/-- a cycle behind the last pace -/
theorem cyc_last {V : Nat → Value} {W : World} (h : Ctx c logs gm cm CM K PC N U) (h0 : s.due = []) (T : Nat) (hT : T ≤ 20010) (hl : N * PC ≤ T) (hI : MInv c V (runK c.t K logs c.turns s T).due (runK c.t K logs c.turns s T).f (runK c.t K logs c.turns s T).m W) :
    Calls Try.prog 97 #[.pointer (some ⟨c.A, 0, none⟩), .int .i64 T] W fun e w' => e = .returned (.tuple #[]) ∧ ∃ V', MInv c V' (runK c.t K logs c.turns s (T + 1)).due (runK c.t K logs c.turns s (T + 1)).f (runK c.t K logs c.turns s (T + 1)).m w' := by
  rw [run_last (n := T) (by rw [h.last]; omega)]
  exact cyc_land h h0 T hT hI

/-- the machine, from a later world on -/
def Mc.at (c : Mc) (x : World) : Mc := { c with w1 := x }
theorem kept_at {x y : World} (hb : Below c.w1.heap.size c.w1 x) (h : KeptM (c.at x) y) : KeptM c y :=
  ⟨Nat.le_trans hb.size h.1, fun g h1 h2 h3 h4 => by
    have e : y.heap[g]? = x.heap[g]? := h.2 g (Nat.lt_of_lt_of_le h1 hb.size) h2 h3 h4
    rw [e, hb.block g h1]⟩
theorem MInv.at {f : Nat → Int} {m : Nat → Nat → Int} {x : World} (h : MInv c (fun _ => .slice none 0 0) [] f m c.w1) (hb : Below c.w1.heap.size c.w1 x) : MInv (c.at x) (fun _ => .slice none 0 0) [] f m x where
  bel := h.bel.trans (hb.mono h.w01)
  keep := ⟨Nat.le_refl _, fun _ _ _ _ _ => rfl⟩
  hA := by show x.heap[c.A]? = _; rw [hb.block _ h.hA1.2]; exact h.hA
  hA1 := ⟨h.hA1.1, Nat.lt_of_lt_of_le h.hA1.2 hb.size⟩
  regs := h.regs.below hb h.hr.2.1
  hr := ⟨h.hr.1, Nat.lt_of_lt_of_le h.hr.2.1 hb.size, h.hr.2.2⟩
  min := fun i hi => ⟨(h.min i hi).1, Nat.lt_of_lt_of_le (h.min i hi).2.1 hb.size, (h.min i hi).2.2.below hb (h.min i hi).2.1⟩
  minj := h.minj
  rM := h.rM
  due := fun j hj => World.ownsRow_nil _ _ _ _
  dinj := fun i j _ _ _ g hg => by cases hg
  w01 := Nat.le_trans h.w01 hb.size
/-- the Slots' rows stay, whatever the machine does -/
theorem slots_kept {x y : World} {f : Nat → Int} {m : Nat → Nat → Int} (hI : MInv c (fun _ => .slice none 0 0) [] f m c.w1) (h : SInv c.w1 PC U K.ops x) (hk : KeptM (c.at x) y) : RowF y c.w1.heap.size 53 PC U ∧ ∀ q : Nat, q < PC → OpsV y (U q) (slotOf K.ops q) := by
  have far : ∀ g, c.w1.heap.size ≤ g → g < x.heap.size → y.heap[g]? = x.heap[g]? := fun g h1 h2 => hk.2 g h2 (by show g ≠ c.A; have := hI.hA1.2; omega) (by show g ≠ c.gr; have := hI.hr.2.1; omega) (fun i hi => by show g ≠ c.GM i; have := (hI.min i hi).2.1; omega)
  exact ⟨h.out.of_block (far _ (Nat.le_refl _) h.out.lt), fun q hq => ops_own (ownz_keep (h.rows q hq) fun g hg => far g (ownz_block_ge (h.rows q hq) g hg) (ownz_block_lt (h.rows q hq) g hg))⟩
end Go.Proofs.Ytpljieenjkbmmaa
/- The contract of a machine's run: pace by pace, Slot by Slot, and what is left behind the last pace. -/
namespace Go.Proofs.Ytpljieenjkbmmaa
open Go.RowKit Go.Joins
set_option linter.unusedVariables false
set_option linter.unusedSimpArgs false
set_option maxRecDepth 8192

theorem mul_bound {p N PC : Nat} (h : p ≤ N) : p * PC ≤ N * PC := Nat.mul_le_mul_right _ h
set_option maxHeartbeats 8000000 in
theorem mrun_any (c : Mc) (logs : List Int) (gm cm : Nat) (CM : Nat → Nat) (K : Kn) (ka : Option Addr) (kc PC ST N : Nat) (f : Nat → Int) (m : Nat → Nat → Int)
    (hI : MInv c (fun _ => .slice none 0 0) [] f m c.w1) (hS : ∀ x, KeptM c x → StatM c logs gm cm CM x) (hkv : c.kv = .slice ka K.ops.length kc) (hO : OpsV c.w1 (.slice ka K.ops.length kc) K.ops)
    (hn : c.n = logs.length) (hlen : ∀ i, i < c.n → c.lenM i = 2 ^ (nth logs i).toNat ∧ c.lenM i ≤ 32) (hR : (c.R : Int) = c.t.r) (hmay : mayK c.t K logs = true) (hpc : K.pc = c.pc) (hPC : c.pc = (PC : Int)) (hst : K.st = c.st) (hST : c.st = (ST : Int))
    (hN : c.turns + K.st - 1 = (N : Int)) (ht1 : 1 ≤ c.turns) (ht2 : c.turns ≤ 200) (hNP : N * PC ≤ 20000) :
    Calls Try.prog 76 #[.pointer (some ⟨c.A, 0, none⟩)] c.w1 fun e w' => e = .returned (.tuple #[]) ∧ ∃ x V, Below c.w1.heap.size c.w1 x ∧ MInv (c.at x) V (runK c.t K logs c.turns ⟨f, m, []⟩ (N * PC + 6)).due (runK c.t K logs c.turns ⟨f, m, []⟩ (N * PC + 6)).f (runK c.t K logs c.turns ⟨f, m, []⟩ (N * PC + 6)).m w' := by
  obtain ⟨hmt, hp1, hp2, hs1, hs2, ho1, ho2, -⟩ := mayK_parts hmay
  obtain ⟨-, ⟨c7, c8, c9, -, -, -, c13⟩, -⟩ := hI.cells
  rw [hPC] at c7
  rw [hkv] at c9
  have hAz := hI.A_lt
  have HSLOT := hide (slots_any c.A PC ka kc K.ops c.w1 c7 c9 hAz hO ho2 (by omega) (fun x hx => by have := (good_of hmay hn hx).2; omega))
  have HI := hide hI
  have HS := hide hS
  have HCX : Hid (∀ x U, SInv c.w1 PC U K.ops x → Ctx (c.at x) logs gm cm CM K PC N U) := fun x U h =>
    { hS := fun y hy => HS.out y (kept_at h.bel hy), hU := fun y hy => (slots_kept HI.out h hy).2, hn := hn, hlen := hlen, hR := hR, hmay := hmay, hpc := hpc, hPC := hPC, hN := hN, ht1 := ht1, ht2 := ht2, hNP := hNP }
  have hN2 : N ≤ 1300 := by omega
  have hPC1 : 1 ≤ PC := by omega
  have hPC2 : PC ≤ 200 := by omega
  have hNi : c.turns + c.st - 1 = (N : Int) := by omega
  have hst1 : 1 ≤ c.st := by omega
  have hst2 : c.st ≤ 1001 := by omega
  clear hI hS hO hmay hlen hkv c7 c9 hpc hPC hN hst hST hs1 hs2 hp1 hp2
  obtain ⟨W, hW⟩ : ∃ W, c.w1 = W := ⟨_, rfl⟩
  rw [hW] at c8 c13 hAz HSLOT ⊢
  have HWW := hide hW
  clear hW
  go_enter Try.func76, Try.ntmps76
  go_wp2_with fail
  refine HSLOT.out.mono ?_
  rintro e x1 ⟨rfl, U, hSl⟩
  have hcc := bcell hSl.bel
  rw [← hcc _ _ hAz] at c8 c13
  have hAz1 : c.A < x1.heap.size := by have := hSl.bel.size; omega
  have HSL : Hid (SInv c.w1 PC U K.ops x1) := by show SInv _ _ _ _ _; rw [HWW.out]; exact hSl
  have HC := hide (HCX.out x1 U HSL.out)
  have HI1 : Hid (MInv (c.at x1) (fun _ => .slice none 0 0) [] f m x1) := HI.out.at HSL.out.bel
  have HKP := hide (fun y (hk : KeptM (c.at x1) y) => (slots_kept HI.out HSL.out hk).1)
  clear hSl hcc HSLOT
  go_wp2_with fail
  go_big_quiet ((fail))
  go_wp2_with fail
  have HI2 : Hid (MInv (c.at x1) (fun _ => .slice none 0 0) [] f m (x1.drewN nq)) := HI1.out.below (below_draws _ _ _)
  clear HI1
  clear hNi
  go_loopw [3, 20] (fun cy i wr => ∃ p T : Nat, p ≤ N ∧ i = .int .i64 p ∧ cy = .int .i64 T ∧ T = p * PC ∧ ∃ V, MInv (c.at x1) V (runK c.t K logs c.turns ⟨f, m, []⟩ T).due (runK c.t K logs c.turns ⟨f, m, []⟩ T).f (runK c.t K logs c.turns ⟨f, m, []⟩ T).m wr) (fun _ i _ => N - (intOf i).toNat)
  case atStart => exact ⟨0, 0, Nat.zero_le _, rfl, rfl, by simp, _, HI2.out⟩
  case round =>
    clear HI2 c8 c13
    obtain ⟨p, T, hp, rfl, rfl, hT, V1, hQ⟩ := hrel
    by_cases hpl : p < N
    · have hpi : (p : Int) < (N : Int) := by omega
      have HT := hide hT
      have hTb : T ≤ 20000 := by have := mul_bound (PC := PC) hp; omega
      have HQ := hide hQ
      clear hT hQ
      rename World => wo
      go_wp2_with fail
      go_loopw [3, 25] (fun cy i wr => ∃ q T2 : Nat, q ≤ PC ∧ i = .int .i64 q ∧ cy = .int .i64 T2 ∧ T2 = T + q ∧ ∃ V, MInv (c.at x1) V (runK c.t K logs c.turns ⟨f, m, []⟩ T2).due (runK c.t K logs c.turns ⟨f, m, []⟩ T2).f (runK c.t K logs c.turns ⟨f, m, []⟩ T2).m wr) (fun _ i _ => PC - (intOf i).toNat)
      case atStart => exact ⟨0, T, Nat.zero_le _, rfl, rfl, rfl, _, HQ.out⟩
      case round =>
        clear HQ
        obtain ⟨q, T2, hq, rfl, rfl, hT2, V2, hQ2⟩ := hrel
        by_cases hql : q < PC
        · have hqi : (q : Int) < (PC : Int) := by omega
          have hT2b : T2 ≤ 20000 := by
            have h1 : p * PC + PC ≤ N * PC := by rw [← Nat.succ_mul]; exact Nat.mul_le_mul_right _ hpl
            have := HT.out
            omega
          have hrow := (HKP.out wr hQ2.keep).cell hql
          rw [HWW.out] at hrow
          have hgz : W.heap.size < wr.heap.size := by have := (HKP.out wr hQ2.keep).lt; rw [HWW.out] at this; exact this
          have HLAND := hide (cyc_land HC.out rfl T2 (by omega) hQ2)
          have HDO : Hid (∀ V Y, MInv (c.at x1) V (restN T2 (runK c.t K logs c.turns ⟨f, m, []⟩ T2).due (runK c.t K logs c.turns ⟨f, m, []⟩ T2).due.length) (landN T2 (runK c.t K logs c.turns ⟨f, m, []⟩ T2).due (runK c.t K logs c.turns ⟨f, m, []⟩ T2).f (runK c.t K logs c.turns ⟨f, m, []⟩ T2).due.length) (runK c.t K logs c.turns ⟨f, m, []⟩ T2).m Y →
            Calls Try.prog 98 #[.pointer (some ⟨c.A, 0, none⟩), U q, .int .i64 p, .int .i64 T2] Y fun e w' => e = .returned (.tuple #[]) ∧ ∃ V', MInv (c.at x1) V' (runK c.t K logs c.turns ⟨f, m, []⟩ (T2 + 1)).due (runK c.t K logs c.turns ⟨f, m, []⟩ (T2 + 1)).f (runK c.t K logs c.turns ⟨f, m, []⟩ (T2 + 1)).m w') := fun V Y h => cyc_do HC.out rfl p q T2 hpl hql (by rw [hT2, HT.out]) h
          have HT2 := hide hT2
          obtain ⟨oa, oc, hov, -, -, -⟩ := HC.out.hU wr hQ2.keep q hql
          rw [hov] at hrow HDO
          generalize (slotOf K.ops (q : Int)).length = ol at *
          clear hQ2 hT2 hov
          go_wp2_with fail
          refine HLAND.out.mono ?_
          rintro e x2 ⟨rfl, V3, h3⟩
          have H3 := hide h3
          clear h3 hrow hgz
          go_wp2_with fail
          refine (HDO.out V3 _ H3.out).mono ?_
          rintro e x3 ⟨rfl, V4, h4⟩
          have H4 := hide h4
          clear h4
          go_wp2_with fail
          go_roundw
          case rel => exact ⟨q + 1, T2 + 1, by omega, by go_num, by go_num, by have := HT2.out; omega, V4, H4.out⟩
          case measure => simp [intOf]; omega
        · have e : q = PC := by omega
          subst e
          have hqi : ¬ (q : Int) < (q : Int) := by omega
          have HQ2 := hide hQ2
          have HT2 := hide hT2
          clear hQ2 hT2
          go_wp2_with fail
          go_roundw
          case rel => exact ⟨p + 1, T2, by omega, by go_num, rfl, by rw [HT2.out, HT.out, Nat.succ_mul], V2, HQ2.out⟩
          case measure => simp [intOf]; omega
    · have e : p = N := by omega
      subst e
      have hpi : ¬ (p : Int) < (p : Int) := by omega
      have HQ := hide hQ
      have HT := hide hT
      have hTb : T ≤ 20000 := by omega
      clear hQ hT
      rename World => wo
      go_wp2_with fail
      go_loopw [3, 41] (fun cy i wr => ∃ r T2 : Nat, r ≤ 6 ∧ i = .int .i64 r ∧ cy = .int .i64 T2 ∧ T2 = T + r ∧ ∃ V, MInv (c.at x1) V (runK c.t K logs c.turns ⟨f, m, []⟩ T2).due (runK c.t K logs c.turns ⟨f, m, []⟩ T2).f (runK c.t K logs c.turns ⟨f, m, []⟩ T2).m wr) (fun _ i _ => 6 - (intOf i).toNat)
      case atStart => exact ⟨0, T, Nat.zero_le _, rfl, rfl, rfl, _, HQ.out⟩
      case round =>
        clear HQ
        obtain ⟨r, T2, hr, rfl, rfl, hT2, V2, hQ2⟩ := hrel
        by_cases hrl : r < 6
        · have hri : (r : Int) < 6 := by omega
          have hT2b : T2 ≤ 20010 := by omega
          have HLAND := hide (cyc_last HC.out rfl T2 hT2b (by rw [hT2, HT.out]; omega) hQ2)
          have HT2 := hide hT2
          clear hQ2 hT2
          go_wp2_with fail
          refine HLAND.out.mono ?_
          rintro e x2 ⟨rfl, V3, h3⟩
          have H3 := hide h3
          clear h3
          go_wp2_with fail
          go_roundw
          case rel => exact ⟨r + 1, T2 + 1, by omega, by go_num, by go_num, by have := HT2.out; omega, V3, H3.out⟩
          case measure => simp [intOf]; omega
        · have e : r = 6 := by omega
          have hri : ¬ (r : Int) < 6 := by omega
          have HQ2 := hide hQ2
          have HT2 : Hid (T2 = p * PC + 6) := by show _ = _; rw [hT2, HT.out, e]
          clear hQ2 hT2 e
          go_wp2_with fail
          go_end0
          refine ⟨rfl, x1, by rw [HWW.out] at HSL; exact HSL.out.bel, V2, ?_⟩
          rw [← HT2.out]
          exact HQ2.out
end Go.Proofs.Ytpljieenjkbmmaa
