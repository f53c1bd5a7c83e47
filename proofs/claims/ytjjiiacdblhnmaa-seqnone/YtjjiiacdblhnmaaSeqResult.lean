/- The contract of a run's end: the outs are gathered one by one, and the words are handed over. -/
import Derived.Test.YtjjiiacdblhnmaaSeqBeg
import Derived.Test.YtjjiiacdblhnmaaUntil
import Derived.Deep.AppendLies
namespace Go.Proofs.Ytjjiiacdblhnmaa
open Go.RowKit Go.Joins
set_option linter.unusedVariables false
set_option linter.unusedSimpArgs false

theorem own_mono {w : World} {base base' : Nat} {e : TypeId} {v : Value} {n : Nat} {xs : List Value} (h : w.ownsRow base e 1 v n xs) (hb : base' ≤ base) : w.ownsRow base' e 1 v n xs := by
  obtain ⟨hl, h⟩ := h
  refine ⟨hl, ?_⟩
  rcases h with h | ⟨g, cap, cur, hv, hg, r⟩
  · exact .inl h
  · exact .inr ⟨g, cap, cur, hv, by omega, r⟩
/-- a store below what is the run's own -/
theorem RInv.low {w0 : World} {R : Nat} {l0 l1 l2 : Value} {gp cp : Nat} {mv : Value} {gm cm N n : Nat} {lenM GM CM : Nat → Nat} {B : List (List Int)} {G C : Nat → Nat} {T k : Nat} {s : Sq} {wr : World}
    (h : RInv w0 R l0 l1 l2 gp cp mv gm cm N n lenM GM CM B G C T k s wr) {b i : Nat} (hb : b < w0.heap.size) (u : Value) :
    RInv (w0.setCell ⟨b, i, none⟩ u) R l0 l1 l2 gp cp mv gm cm N n lenM GM CM B G C T k s (wr.setCell ⟨b, i, none⟩ u) := by
  have hz : (w0.setCell ⟨b, i, none⟩ u).heap.size = w0.heap.size := by simp
  have hRb := h.hRb
  refine { bel := ?_, hR := ?_, hRb := by rw [hz]; exact hRb, pout := ?_, pb := by rw [hz]; exact h.pb, pin := ?_, pinj := h.pinj, mout := ?_, min := ?_, apart := h.apart }
  · rw [hz]
    refine ⟨h.bel.os, h.bel.tape, h.bel.output, by simpa [World.setCell] using h.bel.size, fun k hk => ?_⟩
    by_cases e : k = b
    · subst e
      simp only [World.setCell, Array.getElem?_modify]
      rw [h.bel.block k hk]
    · rw [Below.heap_setCell _ _ _ _ (by show k ≠ b; exact e), Below.heap_setCell _ _ _ _ (by show k ≠ b; exact e)]
      exact h.bel.block k hk
  · rw [Below.heap_setCell _ _ _ _ (by show R ≠ b; omega)]; exact h.hR
  · exact h.pout.setOther (by have := h.pb.1; show gp ≠ b; omega) _
  · intro a ha
    rw [hz]
    have h1 := (h.pin a ha).1
    exact ⟨h1, (h.pin a ha).2.1, (h.pin a ha).2.2.setOther (by show G a ≠ b; omega) _⟩
  · rcases h.mout with h1 | ⟨h1, h2, h3, h4, h5, h6⟩
    · exact .inl h1
    · exact .inr ⟨h1, h2, h3, h4.setOther (by show gm ≠ b; omega) _, by rw [hz]; exact h5, h6⟩
  · rw [hz]
    exact h.min.keep fun a ha => Below.heap_setCell _ _ _ _ (by have := (h.min.1 a ha).1; show GM a ≠ b; omega)

set_option maxHeartbeats 4000000 in
theorem result_any {w0 : World} {R : Nat} {l0 l1 l2 : Value} {gp cp : Nat} {am : Option Addr} {gm cm N n : Nat} {lenM GM CM : Nat → Nat} {B : List (List Int)} {G C : Nat → Nat} {T : Nat} {s : Sq} (w : World) (L : Lp)
    (hI : RInv w0 R l0 l1 l2 gp cp (.slice am n cm) gm cm N n lenM GM CM B G C T 0 s w) (hL : LoopV w0 (.agg #[l0, l1, l2]) L) (hN : N = L.body.length) (ho : outsOk L.body.length L.outs = true) (h16 : L.outs.length ≤ 16) (ht : T ≤ 200)
    (hc1 : n ≤ cm) (hc2 : cm ≤ maxLen) :
    Calls Try.prog 36 #[.pointer (some ⟨R, 0, none⟩)] w fun e w' => ∃ ov, e = .returned (.agg #[ov, .slice am n cm]) ∧
      w'.ownsRow w.heap.size 2 1 ov (outsOf L B T s).length ((outsOf L B T s).map (Value.int .i64)) ∧ Below w.heap.size w w' := by
  obtain ⟨v0, v1, v2, hv, hL0, hL1, ⟨a2, cap2, rfl, hl2, hm2, hr2, hc2'⟩⟩ := hL
  injection hv with hv
  injection hv with hv
  injection hv with e0 hv
  injection hv with e1 hv
  injection hv with e2 hv
  subst e0; subst e1; subst e2
  unfold maxLen at hm2
  obtain ⟨i0, hi, hz0, hz1, hz2⟩ := info_parts Try.i2
  obtain ⟨-, -, d2, d3, d4, hRz⟩ := hI.cells
  obtain ⟨-, pp2, pp3⟩ := hI.pb
  unfold maxLen at pp3
  have HI := hide hI
  have HO := hide ho
  have HN := hide hN
  have HC2 := hide hc2'
  clear hI hv hL0 hL1 hc2' hN ho hr2
  go_enter Try.func36, Try.ntmps36
  go_wp2_with fail
  go_loopw [18] (fun i wq => ∃ q : Nat, q ≤ L.outs.length ∧ i = .int .i64 q ∧ ∃ oa oc, OutsAt (w.alloc (.cells #[.slice none 0 0, .slice none 0 0] 38)) wq (outsOf L B T s) q (.slice am n cm) oa oc) (fun i _ => L.outs.length - (intOf i).toNat)
  case atStart => exact ⟨0, Nat.zero_le _, rfl, none, 0, OutsAt.first _ _ _⟩
  case round =>
    obtain ⟨q, hq, rfl, oa, oc, hP⟩ := hrel
    obtain ⟨o1, o2, o3, o4⟩ := hP.cells
    have hbA : Below w.heap.size w wr := (below_alloc1 _ _).trans (hP.2.2.mono (by simp))
    have hsA : (w.alloc (.cells #[.slice none 0 0, .slice none 0 0] 38)).heap.size = w.heap.size + 1 := by simp
    rw [hsA] at o1 o2 o3 o4
    have HP := hide hP
    have HBA := hide hbA
    by_cases hql : q < L.outs.length
    · have hqi : (q : Int) < (L.outs.length : Int) := by omega
      obtain ⟨ob, of, rfl, hob, hoc⟩ := HC2.out (by omega)
      have hoq := hoc q hql
      obtain ⟨z0, z1⟩ := out_range HO.out hql
      obtain ⟨c, hc⟩ := Int.eq_ofNat_of_zero_le z0
      have hcN : c < N := by have := HN.out; omega
      have hobw : ob < w.heap.size := by have := HI.out.bel.size; omega
      rw [← bcell HI.out.bel _ _ hob, ← bcell hbA _ _ hobw, hc] at hoq
      obtain ⟨p1, p2, p3⟩ := HI.out.pin c hcN
      unfold maxLen at p2
      obtain ⟨j, hj⟩ : ∃ j, j = T + 2 := ⟨_, rfl⟩
      have hpl : plen T 0 c = j + 1 := by unfold plen; rw [if_neg (by omega)]; omega
      have hrc : wr.cell? ⟨gp, c, none⟩ = some (.slice (some ⟨G c, 0, none⟩) (j + 1) (C c)) := by
        rw [bcell hbA _ _ HI.out.pout.lt, ← hpl]; exact HI.out.pout.cell hcN
      have hjc : wr.cell? ⟨G c, j, none⟩ = some (.int .i64 (pastV B s.val c j)) := by
        rw [bcell hbA _ _ p3.lt]; exact p3.row.cell (by omega)
      have hgz : gp < wr.heap.size := by have := HI.out.pout.lt; have := hbA.size; omega
      have hGz : G c < wr.heap.size := by have := p3.lt; have := hbA.size; omega
      have hGw : G c < w.heap.size := p3.lt
      have hRw : R < wr.heap.size := by have := hbA.size; omega
      have hobr : ob < wr.heap.size := by have := hbA.size; omega
      have hd3 : wr.cell? ⟨R, 3, none⟩ = some (.slice (some ⟨gp, 0, none⟩) N cp) := by rw [bcell hbA _ _ hRz]; exact d3
      have hci : (c : Int) < (N : Int) := by omega
      have hle := p3.le
      rw [hpl] at hle
      have hwj : IntKind.i64.wrap ((j : Int) + 1 - 1) = (j : Int) := by rw [IntKind.wrap_i64]; omega
      have hwj2 : IntKind.i64.wrap (j : Int) = (j : Int) := by rw [IntKind.wrap_i64]; omega
      have hjj : (j : Int) < (j : Int) + 1 := by omega
      have HV : Hid (nth (outsOf L B T s) q = pastV B s.val c j) := by
        show _ = _
        rw [outsOf_nth L B T s q hql, hc, Int.toNat_natCast, hj, pastV_last]
      have hqz : q < (outsOf L B T s).length := by rw [outsOf_len]; exact hql
      generalize pastV B s.val c j = pv at *
      clear hP hbA hoc hc z0 z1 p3 hpl hj p1 d3
      go_wp2_with fail
      refine wp_region_noPanic ?_
      refine region_until 11 (fun w' => w'.cell? ⟨w.heap.size + 1, 0, none⟩ = some (.slice oa q oc) ∧ w'.cell? ⟨G c, j, none⟩ = some (.int .i64 pv)) (by kernel_rfl) ⟨o1, hjc⟩ (fun hHeld => ?_)
      refine until_take (i := 0) (v := ?_) rfl (by kernel_rfl) (by kernel_rfl) (by kernel_rfl) (by kernel_rfl) (fun _ _ _ h => h) (Or.inl ⟨by rfl, ?_⟩) hHeld ?_
      rotate_left
      · intro w hSw
        try dsimp only at hSw
        go_simp
        try with_reducible rfl
      try simp only [Act.put, List.setIfInBounds_toArray, List.set_cons_zero, List.set_cons_succ]
      refine until_take (i := 1) (v := ?_) rfl (by kernel_rfl) (by kernel_rfl) (by kernel_rfl) (by kernel_rfl) (fun _ _ _ h => h) (Or.inl ⟨by rfl, ?_⟩) hHeld ?_
      rotate_left
      · intro w hSw
        try dsimp only at hSw
        go_simp
        try with_reducible rfl
      try simp only [Act.put, List.setIfInBounds_toArray, List.set_cons_zero, List.set_cons_succ]
      refine until_take (i := 2) (v := ?_) rfl (by kernel_rfl) (by kernel_rfl) (by kernel_rfl) (by kernel_rfl) (fun _ _ _ h => h) (Or.inl ⟨by rfl, ?_⟩) hHeld ?_
      rotate_left
      · intro w hSw
        try dsimp only at hSw
        go_simp
        try with_reducible rfl
      try simp only [Act.put, List.setIfInBounds_toArray, List.set_cons_zero, List.set_cons_succ]
      refine until_take (i := 3) (v := ?_) rfl (by kernel_rfl) (by kernel_rfl) (by kernel_rfl) (by kernel_rfl) (fun _ _ _ h => h) (Or.inl ⟨by rfl, ?_⟩) hHeld ?_
      rotate_left
      · intro w hSw
        try dsimp only at hSw
        go_simp
        try with_reducible rfl
      try simp only [Act.put, List.setIfInBounds_toArray, List.set_cons_zero, List.set_cons_succ]
      refine until_take (i := 4) (v := ?_) rfl (by kernel_rfl) (by kernel_rfl) (by kernel_rfl) (by kernel_rfl) (fun _ _ _ h => h) (Or.inl ⟨by rfl, ?_⟩) hHeld ?_
      rotate_left
      · intro w hSw
        try dsimp only at hSw
        go_simp
        try with_reducible rfl
      try simp only [Act.put, List.setIfInBounds_toArray, List.set_cons_zero, List.set_cons_succ]
      refine until_take (i := 5) (v := ?_) rfl (by kernel_rfl) (by kernel_rfl) (by kernel_rfl) (by kernel_rfl) (fun _ _ _ h => h) (Or.inl ⟨by rfl, ?_⟩) hHeld ?_
      rotate_left
      · intro w hSw
        try dsimp only at hSw
        go_simp
        try with_reducible rfl
      try simp only [Act.put, List.setIfInBounds_toArray, List.set_cons_zero, List.set_cons_succ]
      refine until_take (i := 6) (v := ?_) rfl (by kernel_rfl) (by kernel_rfl) (by kernel_rfl) (by kernel_rfl) (fun _ _ _ h => h) (Or.inl ⟨by rfl, ?_⟩) hHeld ?_
      rotate_left
      · intro w hSw
        try dsimp only at hSw
        go_simp
        try with_reducible rfl
      try simp only [Act.put, List.setIfInBounds_toArray, List.set_cons_zero, List.set_cons_succ]
      refine until_take (i := 7) (v := ?_) rfl (by kernel_rfl) (by kernel_rfl) (by kernel_rfl) (by kernel_rfl) (fun _ _ _ h => h) (Or.inl ⟨by rfl, ?_⟩) hHeld ?_
      rotate_left
      · intro w hSw
        try dsimp only at hSw
        go_simp
        try with_reducible rfl
      try simp only [Act.put, List.setIfInBounds_toArray, List.set_cons_zero, List.set_cons_succ]
      refine until_one (i := 8) rfl (by kernel_rfl) (fun K hK => ?_)
      go_simp
      have hk2 : ∀ Y, (wr.alloc Y).cell? ⟨w.heap.size + 1, 0, none⟩ = some (.slice oa q oc) ∧ (wr.alloc Y).cell? ⟨G c, j, none⟩ = some (.int .i64 pv) := fun Y => ⟨by rw [bcell (below_alloc1 _ _) _ _ o4]; exact o1, by rw [bcell (below_alloc1 _ _) _ _ hGz]; exact hjc⟩
      refine hK.out _ _ (.inr (hk2 _)) ?_
      clear hK K
      try simp only [Act.put, List.setIfInBounds_toArray, List.set_cons_zero, List.set_cons_succ]
      have HOW := hide (own_below HP.out.2.1 (below_alloc1 wr (.cells #[.int .i64 pv] 2)))
      rw [hsA] at HOW
      refine until_one (i := 9) rfl (by kernel_rfl) (fun K hK => ?_)
      refine step_append_lies _ (by rfl) (.tmp 30) (.tmp 37) 36 (by rfl) (w.heap.size + 1 + 1) 2 i0 (.int .i64 0) 1 8 Try.underlying36 hi hz0 hz1 hz2 rfl (by decide) _ q _ (by rfl) HOW.out ⟨wr.heap.size, 0, none⟩ 1 1 [.int .i64 pv] (by rfl) rfl (one_cell _ _ _) (by intro u hu; simp at hu; subst hu; rfl) (by decide) (by unfold maxLen; omega) (by omega) (by simp; omega) (wr.heap.size + 1) (by simp) ?_
      intro g3 cap3 w3 hown3 hgrow3 hat3 hlt3
      obtain ⟨oa2, oc2, hv2, x1, x2, x3⟩ := OutsAt.step (n := 1) HP.out hqz (by rw [HV.out, hsA]; exact hown3) (by exact hgrow3)
      rw [hsA] at x1 x2 x3
      have hx4 : w3.cell? ⟨G c, j, none⟩ = some (.int .i64 pv) := by
        rw [hgrow3.cell_far ⟨G c, j, none⟩ (by simp; omega) (own_ne HP.out.2.1 (by rw [hsA]; show G c < _; omega))]
        exact (hk2 _).2
      have HB3 := hide x3
      have HV2 := hide hv2
      clear x3 hown3 hgrow3 hat3 hk2 hHeld hv2
      refine hK.out _ _ (.inr ⟨x1, hx4⟩) ?_
      clear hK K
      try simp only [Act.put, List.setIfInBounds_toArray, List.set_cons_zero, List.set_cons_succ]
      have hHeld := And.intro x1 hx4
      refine until_take (i := 10) (v := ?_) rfl (by kernel_rfl) (by kernel_rfl) (by kernel_rfl) (by kernel_rfl) (fun _ _ _ h => h) (Or.inl ⟨by rfl, ?_⟩) hHeld ?_
      rotate_left
      · intro w hSw
        try dsimp only at hSw
        go_simp
        try with_reducible rfl
      try simp only [Act.put, List.setIfInBounds_toArray, List.set_cons_zero, List.set_cons_succ]
      refine until_one (i := 11) rfl (by kernel_rfl) (fun K hK => ?_)
      go_simp
      refine hK.out _ _ (.inl rfl) ?_
      clear hK K
      try simp only [Act.put, List.setIfInBounds_toArray, List.set_cons_zero, List.set_cons_succ]
      refine until_done (by kernel_rfl) ?_ _
      refine NoPanic.normal ?_
      clear x1 hHeld hx4
      go_wp2_with fail
      go_roundw
      case rel => exact ⟨q + 1, by omega, by go_num, oa2, oc2, HB3.out⟩
      case measure => simp [intOf]; omega
    · have e : q = L.outs.length := by omega
      subst e
      have hrs : wr.heap[w.heap.size]? = some (.cells #[.slice none 0 0, .slice none 0 0] 38 (0, 0)) := by
        rw [hP.2.2.block w.heap.size (by simp)]
        show (w.heap.push _)[w.heap.size]? = _
        simp
      have hs1 : wr.cell? ⟨w.heap.size, 0, none⟩ = some (.slice none 0 0) := by rw [cell_of_block hrs]; rfl
      have hs2 : wr.cell? ⟨w.heap.size, 1, none⟩ = some (.slice none 0 0) := by rw [cell_of_block hrs]; rfl
      have hs3 : wr.frozen? ⟨w.heap.size, 0, none⟩ = false := unfrozen_of_block hrs 0
      have hs4 : wr.frozen? ⟨w.heap.size, 1, none⟩ = false := unfrozen_of_block hrs 1
      have HOW : Hid (wr.ownsRow (w.heap.size + 1 + 1) 2 1 (.slice oa L.outs.length oc) (outsOf L B T s).length ((outsOf L B T s).map (Value.int .i64))) := by
        have h := HP.out.2.1
        rw [List.take_of_length_le (by rw [outsOf_len]; omega), hsA] at h
        show wr.ownsRow _ _ _ _ (outsOf L B T s).length _
        rw [outsOf_len]; exact h
      have hf0 : ∀ ov, (wr.setCell ⟨w.heap.size, 0, none⟩ ov).cell? ⟨w.heap.size, 0, none⟩ = some ov := fun ov => by rw [cell_of_block (block_setCell hrs ov)]; rfl
      have hf1 : ∀ ov mv, ((wr.setCell ⟨w.heap.size, 0, none⟩ ov).setCell ⟨w.heap.size, 1, none⟩ mv).cell? ⟨w.heap.size, 1, none⟩ = some mv := fun ov mv => by rw [cell_of_block (block_setCell (block_setCell hrs ov) mv)]; rfl
      have hf2 : ∀ ov mv, ((wr.setCell ⟨w.heap.size, 0, none⟩ ov).setCell ⟨w.heap.size, 1, none⟩ mv).cell? ⟨w.heap.size, 0, none⟩ = some ov := fun ov mv => by rw [cell_of_block (block_setCell (block_setCell hrs ov) mv)]; rfl
      clear hP hbA hrs
      go_wp2_with fail
      have hfin : Below w.heap.size w ((wr.setCell ⟨w.heap.size, 0, none⟩ (.slice oa L.outs.length oc)).setCell ⟨w.heap.size, 1, none⟩ (.slice am n cm)) := (HBA.out.setCell (by show w.heap.size ≤ w.heap.size; omega) _).setCell (by show w.heap.size ≤ w.heap.size; omega) _
      refine bodyPost_ret (v := .agg #[.slice oa L.outs.length oc, .slice am n cm]) (by simp [results, Try.results36, go_sem, hf0, hf1, hf2]) rfl ⟨_, rfl, own_mono (base := w.heap.size + 1 + 1) ?_ (by omega), hfin⟩
      exact ownsRow_setCell_below (ownsRow_setCell_below HOW.out (by show w.heap.size < _; omega) _) (by show w.heap.size < _; omega) _
end Go.Proofs.Ytjjiiacdblhnmaa
