/- The contract of package text's refOf. -/
import Derived.Test.YtjlfcbccpcigeacDoorTextRefs
namespace Go.Proofs.YtjlfcbccpcigeacDoor
open Go.RowKit Go.Joins
set_option linter.unusedVariables false
set_option linter.unusedSimpArgs false
set_option maxRecDepth 8192

/-- a word without its # -/
def named (s : List Int) : List Int := if s.head? = some 35 then s.tail else s
theorem named_by {s : List Int} (h : By s) : By (named s) := by
  unfold named
  split
  · exact fun c hc => h c (List.mem_of_mem_tail hc)
  · exact h
theorem named_len (s : List Int) : (named s).length ≤ s.length := by
  unfold named
  split
  · simp
  · exact Nat.le_refl _
theorem ref_of1 {s p : List Int} (h : splitD 126 (named s) = [p]) {n0 : Int} {b0 ok : Bool} (hb : b0 = (numO (named s) 18).isSome) (hn : ∀ m, numO (named s) 18 = some m → n0 = m) (hok : ok = (decide (s.head? = some 35) && b0)) : ok = (refO s).isSome ∧ ∀ r, refO s = some r → n0 = r.1 ∧ 0 = r.2 := by
  by_cases h35 : s.head? = some 35
  · have hp : p = named s := by have := join_split 126 (named s); rw [h] at this; exact this
    have hr : refO s = (numO (named s) 18).map fun n => (n, 0) := by
      unfold refO
      rw [if_neg (fun hq => hq h35)]
      have h2 : splitD 126 s.tail = [named s] := by rw [← hp, ← h]; unfold named; rw [if_pos h35]
      rw [h2]
    rw [hok, decide_eq_true h35, Bool.true_and]
    exact ref_fin1 hr hb hn
  · rw [ref_none h35, hok, decide_eq_false h35]
    exact ⟨rfl, fun r hr => by cases hr⟩
theorem ref_of2 {s p q : List Int} {qs : List (List Int)} (h : splitD 126 (named s) = p :: q :: qs) (hs : By (named s)) {n0 n1 : Int} {b0 b1 ok : Bool} (hb0 : b0 = (numO p 18).isSome) (hn0 : ∀ m, numO p 18 = some m → n0 = m) (hb1 : b1 = (numO ((named s).drop (p.length + 1)) 18).isSome) (hn1 : ∀ m, numO ((named s).drop (p.length + 1)) 18 = some m → n1 = m) (hok : ok = (decide (s.head? = some 35) && b0 && b1 && decide (0 < n1))) : ok = (refO s).isSome ∧ ∀ r, refO s = some r → n0 = r.1 ∧ n1 = r.2 := by
  by_cases h35 : s.head? = some 35
  · have h2 : splitD 126 s.tail = p :: q :: qs := by rw [← h]; unfold named; rw [if_pos h35]
    obtain ⟨-, -, h3⟩ := index_some (x := 126) (by omega) hs h
    have h4 := join_split 126 ((named s).drop (p.length + 1))
    rw [h3] at h4
    refine ref_fin2 (np := (p :: q :: qs).length) (o0 := numO p 18) (o1 := numO ((named s).drop (p.length + 1)) 18) ?_ ?_ (by simp) hb0 hn0 hb1 hn1 (b0 := b0) (b1 := b1) ?_
    · intro hl
      have hq : qs = [] := List.length_eq_zero_iff.1 (by simpa using hl)
      subst hq
      rw [show (named s).drop (p.length + 1) = q from h4.symm]
      unfold refO
      rw [if_neg (fun hq => hq h35), h2]
      rfl
    · intro hl
      unfold refO
      rw [if_neg (fun hq => hq h35), h2]
      match qs, hl with
      | r :: rs, _ => rfl
    · rw [hok, decide_eq_true h35, Bool.true_and]
      by_cases hl : (p :: q :: qs).length = 2
      · rw [decide_eq_true hl, Bool.and_true]
      · have hz : numO ((named s).drop (p.length + 1)) 18 = none := by
          cases hz : numO ((named s).drop (p.length + 1)) 18 with
          | none => rfl
          | some n =>
            have hd := (num_is hz).1
            have hf := split_free (x := 126) _ (digits_free (n := n) (x := 126) (by omega) (by omega))
            rw [← hd, h3] at hf
            exfalso
            apply hl
            have := congrArg List.length hf
            simp at this ⊢
            exact this
        rw [hb1, hz]
        simp
  · rw [ref_none h35, hok, decide_eq_false h35]
    exact ⟨by simp, fun r hr => by cases hr⟩
set_option maxHeartbeats 8000000 in
theorem refOf_any (s : List Int) (w : World) (hv : VarsT w) (hs : By s) (hl : s.length ≤ 2000000) :
    Calls Tryd.prog 76 #[.string (strOfNums s)] w (RefPost s w) := by
  have HW1 : Hid (Below w.heap.size w (w.alloc (.cells #[.int .i64 0, .int .i64 0] 51))) := below_alloc1 _ _
  have HZ1 : Hid ((w.alloc (.cells #[.int .i64 0, .int .i64 0] 51)).heap.size = w.heap.size + 1) := by show _ = _; simp
  have HRB : Hid (∀ y, Below (w.heap.size + 1) (w.alloc (.cells #[.int .i64 0, .int .i64 0] 51)) y → y.heap[w.heap.size]? = some (.cells #[.int .i64 0, .int .i64 0] 51 (0, 0)) ∧ w.heap.size + 1 ≤ y.heap.size ∧ Below w.heap.size w y) := fun y hy => ⟨(hy.block _ (by omega)).trans (new_blkS _ _ _), by have := hy.size; rw [HZ1.out] at this; exact this, HW1.out.trans (hy.mono (by omega))⟩
  have HV := hide hv
  have HPF := hide (fun W => prefix_any s (ByteArray.mk #[35]) rfl W hs)
  have HNB := hide (named_by hs)
  have hnl : (named s).length ≤ 2000000 := Nat.le_trans (named_len s) hl
  obtain ⟨nm, hnm⟩ : ∃ nm, named s = nm := ⟨_, rfl⟩
  have hnm2 : (if s.head? = some 35 then s.tail else s) = nm := hnm
  rw [hnm2] at HPF
  obtain ⟨br, hbr⟩ : ∃ br, decide (s.head? = some 35) = br := ⟨_, rfl⟩
  rw [hbr] at HPF
  have HBR := hide hbr
  have HNM := hide hnm
  rw [hnm] at HNB hnl
  have HNL := hide hnl
  clear hv hs hl hnm hnm2 hbr hnl
  go_enter Tryd.func76, Tryd.ntmps76
  go_wp2_with fail
  refine (HPF.out _).mono ?_
  rintro e y0 ⟨rfl, rfl⟩
  go_wp2_with fail
  cases hsp : splitD 126 nm with
  | nil => exact absurd hsp (split_ne 126 nm)
  | cons p ps =>
    cases ps with
    | nil =>
      have HSP := hide hsp
      refine (cut_any1 nm 126 (ByteArray.mk #[126]) rfl _ (HV.out.on HW1.out) HNB.out (by omega) HNL.out hsp).mono ?_
      rintro e y1 ⟨rfl, hy1⟩
      have HY1 : Hid (Below (w.heap.size + 1) (w.alloc (.cells #[.int .i64 0, .int .i64 0] 51)) y1) := by show Below _ _ _; rw [← HZ1.out]; exact hy1
      clear hy1 hsp
      go_wp2_with fail
      refine (shortOf_any nm _ (HV.out.on (HRB.out _ HY1.out).2.2) HNB.out HNL.out).mono ?_
      rintro e y2 ⟨n0, b0, rfl, hb0, hn0, lo0, hi0, hy2⟩
      have HB0 := hide hb0
      have HN0 := hide hn0
      have HY2 : Hid (Below (w.heap.size + 1) (w.alloc (.cells #[.int .i64 0, .int .i64 0] 51)) y2) := HY1.out.trans (hy2.mono (HRB.out _ HY1.out).2.1)
      obtain ⟨b2, hwz2, hbw⟩ := HRB.out _ HY2.out
      have HBW := hide hbw
      have k0 : y2.cell? ⟨w.heap.size, 0, none⟩ = some (.int .i64 0) := by rw [cell_of_block b2]; rfl
      have k1 : y2.cell? ⟨w.heap.size, 1, none⟩ = some (.int .i64 0) := by rw [cell_of_block b2]; rfl
      have f0 : y2.frozen? ⟨w.heap.size, 0, none⟩ = false := by simp [World.frozen?, b2]
      have f1 : y2.frozen? ⟨w.heap.size, 1, none⟩ = false := by simp [World.frozen?, b2]
      have HTW := hide (two_set (a' := .int .i64 n0) (b' := .int .i64 0) b2)
      have S0 : Hid (((y2.setCell ⟨w.heap.size, 0, none⟩ (.int .i64 n0)).setCell ⟨w.heap.size, 1, none⟩ (.int .i64 0)).cell? ⟨w.heap.size, 0, none⟩ = some (.int .i64 n0)) := by show _ = _; rw [cell_of_block HTW.out]; rfl
      have S1 : Hid (((y2.setCell ⟨w.heap.size, 0, none⟩ (.int .i64 n0)).setCell ⟨w.heap.size, 1, none⟩ (.int .i64 0)).cell? ⟨w.heap.size, 1, none⟩ = some (.int .i64 0)) := by show _ = _; rw [cell_of_block HTW.out]; rfl
      have HPO : Hid (∀ ok, ok = (br && b0) → RefPost s w (.returned (.tuple #[.agg #[.int .i64 n0, .int .i64 0], .bool ok])) ((y2.setCell ⟨w.heap.size, 0, none⟩ (.int .i64 n0)).setCell ⟨w.heap.size, 1, none⟩ (.int .i64 0))) := fun ok hok => by
        have hnm := HNM.out
        subst hnm
        obtain ⟨q1, q2⟩ := ref_of1 HSP.out HB0.out HN0.out (ok := ok) (by rw [HBR.out]; exact hok)
        exact ⟨n0, 0, ok, rfl, q1, q2, (HBW.out.setCell (Nat.le_refl _) _).setCell (Nat.le_refl _) _⟩
      clear hb0 hn0 hy2 b2 hbw
      cases br with
      | false =>
        have HPP := hide (HPO.out false rfl)
        go_wp2_with fail
        have s0 := S0.out
        have s1 := S1.out
        exact bodyPost_ret (v := .tuple #[.agg #[.int .i64 n0, .int .i64 0], .bool false]) (by simp [results, Tryd.results76, go_sem, s0, s1]) rfl HPP.out
      | true =>
        have HPP := hide (HPO.out b0 rfl)
        go_wp2_with fail
        have s0 := S0.out
        have s1 := S1.out
        exact bodyPost_ret (v := .tuple #[.agg #[.int .i64 n0, .int .i64 0], .bool b0]) (by simp [results, Tryd.results76, go_sem, s0, s1]) rfl HPP.out
    | cons q qs =>
      have HSP := hide hsp
      have HPB : Hid (By p ∧ p.length ≤ 2000000) := by
        obtain ⟨-, h2, -⟩ := index_some (x := 126) (by omega) HNB.out hsp
        rw [← h2]
        exact ⟨by_take HNB.out _, by have := HNL.out; simp; omega⟩
      have HDB : Hid (By (nm.drop (p.length + 1)) ∧ (nm.drop (p.length + 1)).length ≤ 2000000) := ⟨by_drop HNB.out _, by have := HNL.out; simp; omega⟩
      refine (cut_any2 nm 126 (ByteArray.mk #[126]) rfl _ (HV.out.on HW1.out) HNB.out (by omega) HNL.out hsp).mono ?_
      rintro e y1 ⟨rfl, hy1⟩
      have HY1 : Hid (Below (w.heap.size + 1) (w.alloc (.cells #[.int .i64 0, .int .i64 0] 51)) y1) := by show Below _ _ _; rw [← HZ1.out]; exact hy1
      clear hy1 hsp
      obtain ⟨dq, hdq⟩ : ∃ dq, nm.drop (p.length + 1) = dq := ⟨_, rfl⟩
      rw [hdq] at HDB
      have HDQ := hide hdq
      rw [hdq]
      clear hdq
      go_wp2_with fail
      refine (shortOf_any p _ (HV.out.on (HRB.out _ HY1.out).2.2) HPB.out.1 HPB.out.2).mono ?_
      rintro e y15 ⟨n0, b0, rfl, hb0, hn0, lo0, hi0, hy2⟩
      have HB0 := hide hb0
      have HN0 := hide hn0
      have HY15 : Hid (Below (w.heap.size + 1) (w.alloc (.cells #[.int .i64 0, .int .i64 0] 51)) y15) := HY1.out.trans (hy2.mono (HRB.out _ HY1.out).2.1)
      clear hb0 hn0 hy2
      go_wp2_with fail
      refine (shortOf_any dq _ (HV.out.on (HRB.out _ HY15.out).2.2) HDB.out.1 HDB.out.2).mono ?_
      rintro e y2 ⟨n1, b1, rfl, hb1, hn1, lo1, hi1, hy2⟩
      have HB1 := hide hb1
      have HN1 := hide hn1
      have HY2 : Hid (Below (w.heap.size + 1) (w.alloc (.cells #[.int .i64 0, .int .i64 0] 51)) y2) := HY15.out.trans (hy2.mono (HRB.out _ HY15.out).2.1)
      obtain ⟨b2, hwz2, hbw⟩ := HRB.out _ HY2.out
      have HBW := hide hbw
      have k0 : y2.cell? ⟨w.heap.size, 0, none⟩ = some (.int .i64 0) := by rw [cell_of_block b2]; rfl
      have k1 : y2.cell? ⟨w.heap.size, 1, none⟩ = some (.int .i64 0) := by rw [cell_of_block b2]; rfl
      have f0 : y2.frozen? ⟨w.heap.size, 0, none⟩ = false := by simp [World.frozen?, b2]
      have f1 : y2.frozen? ⟨w.heap.size, 1, none⟩ = false := by simp [World.frozen?, b2]
      have HTW := hide (two_set (a' := .int .i64 n0) (b' := .int .i64 n1) b2)
      have S0 : Hid (((y2.setCell ⟨w.heap.size, 0, none⟩ (.int .i64 n0)).setCell ⟨w.heap.size, 1, none⟩ (.int .i64 n1)).cell? ⟨w.heap.size, 0, none⟩ = some (.int .i64 n0)) := by show _ = _; rw [cell_of_block HTW.out]; rfl
      have S1 : Hid (((y2.setCell ⟨w.heap.size, 0, none⟩ (.int .i64 n0)).setCell ⟨w.heap.size, 1, none⟩ (.int .i64 n1)).cell? ⟨w.heap.size, 1, none⟩ = some (.int .i64 n1)) := by show _ = _; rw [cell_of_block HTW.out]; rfl
      have HPO : Hid (∀ ok, ok = (br && b0 && b1 && decide (0 < n1)) → RefPost s w (.returned (.tuple #[.agg #[.int .i64 n0, .int .i64 n1], .bool ok])) ((y2.setCell ⟨w.heap.size, 0, none⟩ (.int .i64 n0)).setCell ⟨w.heap.size, 1, none⟩ (.int .i64 n1))) := fun ok hok => by
        have hnm := HNM.out
        subst hnm
        have hdq := HDQ.out
        subst hdq
        obtain ⟨q1, q2⟩ := ref_of2 HSP.out HNB.out HB0.out HN0.out HB1.out HN1.out (ok := ok) (by rw [HBR.out]; exact hok)
        exact ⟨n0, n1, ok, rfl, q1, q2, (HBW.out.setCell (Nat.le_refl _) _).setCell (Nat.le_refl _) _⟩
      clear hb1 hn1 hy2 b2 hbw
      cases br with
      | false =>
        have HPP := hide (HPO.out false rfl)
        go_wp2_with fail
        have s0 := S0.out
        have s1 := S1.out
        exact bodyPost_ret (v := .tuple #[.agg #[.int .i64 n0, .int .i64 n1], .bool false]) (by simp [results, Tryd.results76, go_sem, s0, s1]) rfl HPP.out
      | true =>
        cases b0 with
        | false =>
          have HPP := hide (HPO.out false rfl)
          go_wp2_with fail
          have s0 := S0.out
          have s1 := S1.out
          exact bodyPost_ret (v := .tuple #[.agg #[.int .i64 n0, .int .i64 n1], .bool false]) (by simp [results, Tryd.results76, go_sem, s0, s1]) rfl HPP.out
        | true =>
          cases b1 with
          | false =>
            have HPP := hide (HPO.out false rfl)
            go_wp2_with fail
            have s0 := S0.out
            have s1 := S1.out
            exact bodyPost_ret (v := .tuple #[.agg #[.int .i64 n0, .int .i64 n1], .bool false]) (by simp [results, Tryd.results76, go_sem, s0, s1]) rfl HPP.out
          | true =>
            by_cases hz : 0 < n1
            · have HPP := hide (HPO.out true (by rw [decide_eq_true hz]; rfl))
              go_wp2_with fail
              have s0 := S0.out
              have s1 := S1.out
              exact bodyPost_ret (v := .tuple #[.agg #[.int .i64 n0, .int .i64 n1], .bool true]) (by simp [results, Tryd.results76, go_sem, s0, s1]) rfl HPP.out
            · have HPP := hide (HPO.out false (by rw [decide_eq_false hz]; rfl))
              have hzd : decide (0 < n1) = false := decide_eq_false hz
              go_wp2_with fail
              have s0 := S0.out
              have s1 := S1.out
              exact bodyPost_ret (v := .tuple #[.agg #[.int .i64 n0, .int .i64 n1], .bool false]) (by simp [results, Tryd.results76, go_sem, s0, s1]) rfl HPP.out
end Go.Proofs.YtjlfcbccpcigeacDoor
