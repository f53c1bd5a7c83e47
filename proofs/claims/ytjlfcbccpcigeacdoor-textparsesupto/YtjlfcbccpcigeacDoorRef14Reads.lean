/- The document's reads: a Ref's text read. -/
import Derived.Test.YtjlfcbccpcigeacDoorRef14Number
namespace Go.Proofs.YtjlfcbccpcigeacDoor
open Go.RowKit Go.Joins
set_option linter.unusedVariables false
set_option linter.unusedSimpArgs false
set_option maxRecDepth 8192

/-- what reads answers -/
def RefPost (s : List Int) (w : World) (e : Ending) (w' : World) : Prop := ∃ a b ok, e = .returned (.tuple #[.agg #[.int .i64 a, .int .i64 b], .bool ok]) ∧ ok = (refO s).isSome ∧ (∀ r, refO s = some r → a = r.1 ∧ b = r.2) ∧ Below w.heap.size w w'
theorem nth_parts {ps : List (List Int)} (h : ∀ p ∈ ps, ∀ c ∈ p, 0 ≤ c ∧ c ≤ 255) (i : Nat) : ByteL (ps.getD i []) := by
  intro j
  rcases Nat.lt_or_ge i ps.length with hi | hi
  · have hm : ps.getD i [] ∈ ps := by
      rw [List.getD, List.getElem?_eq_getElem hi]; exact List.getElem_mem hi
    rcases Nat.lt_or_ge j (ps.getD i []).length with hj | hj
    · refine h _ hm _ ?_
      unfold nth
      rw [List.getD_eq_getElem?_getD (i := j), List.getElem?_eq_getElem hj]
      exact List.getElem_mem hj
    · unfold nth
      rw [List.getD_eq_getElem?_getD (i := j), List.getElem?_eq_none hj]; decide
  · unfold nth
    have e : ps.getD i [] = [] := by rw [List.getD, List.getElem?_eq_none hi]; rfl
    rw [e]; exact ⟨by simp, by simp⟩
theorem split_bytes {x : Int} : ∀ {s : List Int}, (∀ c ∈ s, 0 ≤ c ∧ c ≤ 255) → ∀ p ∈ splitD x s, (∀ c ∈ p, 0 ≤ c ∧ c ≤ 255) ∧ p.length ≤ s.length := by
  intro s
  induction s with
  | nil => intro _ p hp; have : p = [] := by simpa [splitD] using hp
           subst this; exact ⟨fun c hc => by (cases hc), Nat.le_refl _⟩
  | cons a l ih =>
    intro h p hp
    have ih2 := ih fun c hc => h c (List.mem_cons_of_mem _ hc)
    unfold splitD at hp
    by_cases e : a = x
    · rw [if_pos e] at hp
      rcases List.mem_cons.1 hp with hp | hp
      · subst hp; exact ⟨fun c hc => by (cases hc), Nat.zero_le _⟩
      · exact ⟨(ih2 p hp).1, Nat.le_succ_of_le (ih2 p hp).2⟩
    · rw [if_neg e] at hp
      cases hs : splitD x l with
      | nil => exact absurd hs (split_ne x l)
      | cons q qs =>
        rw [hs] at hp ih2
        rcases List.mem_cons.1 hp with hp | hp
        · subst hp
          have h3 := ih2 q (List.mem_cons_self ..)
          exact ⟨fun c hc => by
            rcases List.mem_cons.1 hc with hc | hc
            · rw [hc]; exact h a (List.mem_cons_self ..)
            · exact h3.1 c hc, Nat.succ_le_succ h3.2⟩
        · have h3 := ih2 p (List.mem_cons_of_mem _ hp)
          exact ⟨h3.1, Nat.le_succ_of_le h3.2⟩
theorem part_len {x : Int} {s : List Int} (h : ∀ c ∈ s, 0 ≤ c ∧ c ≤ 255) (i : Nat) : ((splitD x s).getD i []).length ≤ s.length := by
  rcases Nat.lt_or_ge i (splitD x s).length with hi | hi
  · refine (split_bytes (x := x) h _ ?_).2
    rw [List.getD, List.getElem?_eq_getElem hi]; exact List.getElem_mem hi
  · rw [List.getD, List.getElem?_eq_none hi]; exact Nat.zero_le _
theorem parts_byte {x : Int} {s : List Int} (h : ByteL s) (i : Nat) : ByteL ((splitD x s).getD i []) := nth_parts (fun p hp => (split_bytes (byteL_mem h) p hp).1) i
theorem ref_one {s : List Int} (h : s.head? = some 35) (hl : (splitD 126 s.tail).length = 1) : refO s = (numO ((splitD 126 s.tail).getD 0 []) 18).map fun n => (n, 0) := by
  unfold refO
  rw [if_neg (fun hq => hq h)]
  match hs : splitD 126 s.tail, hl with
  | [a], _ => rfl
theorem ref_two {s : List Int} (h : s.head? = some 35) (hl : (splitD 126 s.tail).length = 2) : refO s = match numO ((splitD 126 s.tail).getD 0 []) 18, numO ((splitD 126 s.tail).getD 1 []) 18 with
    | some x, some y => if 0 < y then some (x, y) else none
    | _, _ => none := by
  unfold refO
  rw [if_neg (fun hq => hq h)]
  match hs : splitD 126 s.tail, hl with
  | [a, b], _ => rfl
theorem ref_more {s : List Int} (h : s.head? = some 35) (hl : 2 < (splitD 126 s.tail).length) : refO s = none := by
  unfold refO
  rw [if_neg (fun hq => hq h)]
  match hs : splitD 126 s.tail, hl with
  | _ :: _ :: _ :: _, _ => rfl
theorem ref_none {s : List Int} (h : s.head? ≠ some 35) : refO s = none := by unfold refO; rw [if_pos h]
theorem two_set {x : World} {g : Nat} {e : TypeId} {a b a' b' : Value} (h : x.heap[g]? = some (.cells #[a, b] e (0, 0))) : ((x.setCell ⟨g, 0, none⟩ a').setCell ⟨g, 1, none⟩ b').heap[g]? = some (.cells #[a', b'] e (0, 0)) := by
  simp [World.setCell, Array.getElem?_modify, h]
theorem ref_fin1 {s : List Int} {o0 : Option Int} {n0 : Int} {b0 : Bool} (h : refO s = o0.map fun n => (n, 0)) (hb : b0 = o0.isSome) (hn : ∀ m, o0 = some m → n0 = m) : b0 = (refO s).isSome ∧ ∀ r, refO s = some r → n0 = r.1 ∧ 0 = r.2 := by
  rw [h, hb]
  cases o0 with
  | none => exact ⟨rfl, fun r hr => by cases hr⟩
  | some m =>
    refine ⟨rfl, fun r hr => ?_⟩
    have e := Option.some.inj hr
    rw [← e]; exact ⟨hn m rfl, rfl⟩
theorem ref_fin2 {s : List Int} {o0 o1 : Option Int} {n0 n1 : Int} {b0 b1 ok : Bool} {np : Nat} (h2 : np = 2 → refO s = match o0, o1 with
    | some x, some y => if 0 < y then some (x, y) else none
    | _, _ => none) (h3 : 2 < np → refO s = none) (hge : 2 ≤ np) (hb0 : b0 = o0.isSome) (hn0 : ∀ m, o0 = some m → n0 = m) (hb1 : b1 = o1.isSome) (hn1 : ∀ m, o1 = some m → n1 = m) (hok : ok = (b0 && b1 && decide (np = 2) && decide (0 < n1))) : ok = (refO s).isSome ∧ ∀ r, refO s = some r → n0 = r.1 ∧ n1 = r.2 := by
  rw [hok, hb0, hb1]
  by_cases e : np = 2
  · rw [h2 e, decide_eq_true e]
    cases o0 with
    | none => exact ⟨rfl, fun r hr => by cases hr⟩
    | some x => cases o1 with
      | none => exact ⟨rfl, fun r hr => by cases hr⟩
      | some y =>
        have e0 := hn0 x rfl
        have e1 := hn1 y rfl
        subst e0; subst e1
        by_cases hp : 0 < n1
        · simp only [if_pos hp, decide_eq_true hp]
          exact ⟨rfl, fun r hr => by have e := Option.some.inj hr; rw [← e]; exact ⟨rfl, rfl⟩⟩
        · simp only [if_neg hp, decide_eq_false hp]
          exact ⟨by simp, fun r hr => by cases hr⟩
  · rw [h3 (by omega), decide_eq_false e]
    exact ⟨by simp, fun r hr => by cases hr⟩
set_option maxHeartbeats 16000000 in
theorem reads_any (s : List Int) (w : World) (hsb : ByteL s) (hl : s.length ≤ 2000000) :
    Calls Tryd.prog 46 #[.string (strOfNums s)] w (RefPost s w) := by
  have hsz : (strOfNums s).size = s.length := strOfNums_size s
  have HW1 : Hid (Below w.heap.size w (w.alloc (.cells #[.int .i64 0, .int .i64 0] 51))) := below_alloc1 _ _
  have HZ1 : Hid ((w.alloc (.cells #[.int .i64 0, .int .i64 0] 51)).heap.size = w.heap.size + 1) := by show _ = _; simp
  have HRB : Hid (∀ y, Below (w.heap.size + 1) (w.alloc (.cells #[.int .i64 0, .int .i64 0] 51)) y → y.heap[w.heap.size]? = some (.cells #[.int .i64 0, .int .i64 0] 51 (0, 0))) := fun y hy => (hy.block _ (by omega)).trans (new_blkS _ _ _)
  have HNP : Hid (refO s = none → RefPost s w (.returned (.tuple #[.agg #[.int .i64 0, .int .i64 0], .bool false])) (w.alloc (.cells #[.int .i64 0, .int .i64 0] 51))) := fun h => ⟨0, 0, false, rfl, by rw [h]; rfl, fun r hr => (by rw [h] at hr; cases hr), HW1.out⟩
  go_enter Tryd.func46, Tryd.ntmps46
  by_cases h0 : s.length < 1
  · have e : s = [] := List.length_eq_zero_iff.1 (by omega)
    have HPP := hide (HNP.out (ref_none (by rw [e]; simp)))
    have hp2 : (s.length : Int) < 1 := by omega
    clear e h0
    go_wp2_with fail
    exact bodyPost_ret (v := .tuple #[.agg #[.int .i64 0, .int .i64 0], .bool false]) (by simp [results, Tryd.results46, go_sem]) rfl HPP.out
  · have hp2 : ¬ (s.length : Int) < 1 := by omega
    have hp3 : (0 : Int) < (s.length : Int) := by omega
    have hix := fun h => str_ix hsb (show 0 < s.length by omega) h
    by_cases hb : nth s 0 = 35
    · rw [hb] at hix
      have hhd : s.head? = some 35 := by
        cases s with
        | nil => exact absurd (by simp) h0
        | cons c l => exact congrArg some hb
      obtain ⟨t, ht⟩ : ∃ t, s.tail = t := ⟨_, rfl⟩
      have htb : ByteL t := by rw [← ht]; exact byteL_tail hsb
      have htl : t.length ≤ 2000000 := by rw [← ht]; simp; omega
      have hex : (strOfNums s).extract 1 s.length = strOfNums t := by rw [str_tail, ht]
      have hp1 : (1 : Int) ≤ (s.length : Int) := by omega
      have HSP := hide (fun W => split_any t 126 W htb htl)
      have HB0 := hide (parts_byte (x := 126) htb 0)
      have HB1 := hide (parts_byte (x := 126) htb 1)
      have HL0 := hide (part_len (x := 126) (byteL_mem htb) 0)
      have HL1 := hide (part_len (x := 126) (byteL_mem htb) 1)
      have HR1 := hide (ref_one hhd)
      have HR2 := hide (ref_two hhd)
      have HR3 := hide (ref_more hhd)
      rw [ht] at HR1 HR2 HR3
      have hne : 1 ≤ (splitD 126 t).length := List.length_pos_iff.2 (split_ne 126 t)
      obtain ⟨ps, hps⟩ : ∃ ps, splitD 126 t = ps := ⟨_, rfl⟩
      rw [hps] at HSP HB0 HB1 HL0 HL1 HR1 HR2 HR3 hne
      clear hb hhd ht h0 hps
      have htl2 := htl
      go_wp2_with fail
      refine (HSP.out _).mono ?_
      rintro e y1 ⟨g, gc, rfl, hgc, hgm, hge, hgz, hcs, hy1⟩
      have HY1 : Hid (Below (w.heap.size + 1) (w.alloc (.cells #[.int .i64 0, .int .i64 0] 51)) y1) := by show Below _ _ _; rw [← HZ1.out]; exact hy1
      have hk0 := hcs 0 hne
      have HCS := hide (hcs 1)
      have hgm2 : gc ≤ 9223372036854775807 := by unfold maxLen at hgm; omega
      have hne2 : (1 : Int) ≤ (ps.length : Int) := by omega
      have hne3 : (0 : Int) < (ps.length : Int) := by omega
      have HN0 := hide (fun W => number_any14 (ps.getD 0 []) 18 W HB0.out (by have := HL0.out; omega) (by omega))
      have HN1 := hide (fun W => number_any14 (ps.getD 1 []) 18 W HB1.out (by have := HL1.out; omega) (by omega))
      have hge2 : w.heap.size + 1 ≤ g := by rw [← HZ1.out]; exact hge
      generalize ps.getD 0 [] = p0 at *
      generalize ps.getD 1 [] = p1 at *
      clear hcs hy1 hge hgm
      go_wp2_with fail
      refine (HN0.out _).mono ?_
      rintro e y2 ⟨n0, b0, rfl, hb0, hn0, lo0, hi0, hy2⟩
      have HB0' := hide hb0
      have HN0' := hide hn0
      have HY2 : Hid (Below (w.heap.size + 1) (w.alloc (.cells #[.int .i64 0, .int .i64 0] 51)) y2) := HY1.out.trans (hy2.mono (by have := HY1.out.size; rw [HZ1.out] at this; exact this))
      have HG2 : Hid (∀ i, y2.cell? ⟨g, i, none⟩ = y1.cell? ⟨g, i, none⟩) := fun i => bcell hy2 _ _ hgz
      have hgz2 : g < y2.heap.size := Nat.lt_of_lt_of_le hgz hy2.size
      have hwz2 : w.heap.size + 1 ≤ y2.heap.size := by have := HY2.out.size; rw [HZ1.out] at this; exact this
      have b2 := HRB.out _ HY2.out
      clear hb0 hn0 hy2 hk0
      by_cases hn1 : ps.length = 1
      · have hni : (ps.length : Int) = 1 := by omega
        have hnb : ((ps.length : Int) == 1) = true := by rw [hni]; rfl
        have HRF := hide (HR1.out hn1)
        have k0 : y2.cell? ⟨w.heap.size, 0, none⟩ = some (.int .i64 0) := by rw [cell_of_block b2]; rfl
        have k1 : y2.cell? ⟨w.heap.size, 1, none⟩ = some (.int .i64 0) := by rw [cell_of_block b2]; rfl
        have f0 : y2.frozen? ⟨w.heap.size, 0, none⟩ = false := by simp [World.frozen?, b2]
        have f1 : y2.frozen? ⟨w.heap.size, 1, none⟩ = false := by simp [World.frozen?, b2]
        have hzw : w.heap.size < y2.heap.size := by omega
        have HTW := hide (two_set (a' := .int .i64 n0) (b' := .int .i64 0) b2)
        have HFB : Hid ((((y2.setCell ⟨w.heap.size, 0, none⟩ (.int .i64 n0)).setCell ⟨w.heap.size, 1, none⟩ (.int .i64 0)).alloc (.cells #[.int .i64 n0, .int .i64 0] 51)).heap[w.heap.size]? = some (.cells #[.int .i64 n0, .int .i64 0] 51 (0, 0))) := by
          show _ = _
          rw [Below.heap_alloc _ _ _ (by simp; omega)]; exact HTW.out
        have HPO : Hid (RefPost s w (.returned (.tuple #[.agg #[.int .i64 n0, .int .i64 0], .bool b0])) (((y2.setCell ⟨w.heap.size, 0, none⟩ (.int .i64 n0)).setCell ⟨w.heap.size, 1, none⟩ (.int .i64 0)).alloc (.cells #[.int .i64 n0, .int .i64 0] 51))) := by
          obtain ⟨q1, q2⟩ := ref_fin1 HRF.out HB0'.out HN0'.out
          exact ⟨n0, 0, b0, rfl, q1, q2, (((HW1.out.trans (HY2.out.mono (by omega))).setCell (Nat.le_refl _) _).setCell (Nat.le_refl _) _).alloc (by simp; omega) _⟩
        clear b2 hn1
        go_wp2_with fail
        have s0 : (((y2.setCell ⟨w.heap.size, 0, none⟩ (.int .i64 n0)).setCell ⟨w.heap.size, 1, none⟩ (.int .i64 0)).alloc (.cells #[.int .i64 n0, .int .i64 0] 51)).cell? ⟨w.heap.size, 0, none⟩ = some (.int .i64 n0) := by rw [cell_of_block HFB.out]; rfl
        have s1 : (((y2.setCell ⟨w.heap.size, 0, none⟩ (.int .i64 n0)).setCell ⟨w.heap.size, 1, none⟩ (.int .i64 0)).alloc (.cells #[.int .i64 n0, .int .i64 0] 51)).cell? ⟨w.heap.size, 1, none⟩ = some (.int .i64 0) := by rw [cell_of_block HFB.out]; rfl
        exact bodyPost_ret (v := .tuple #[.agg #[.int .i64 n0, .int .i64 0], .bool b0]) (by simp [results, Tryd.results46, go_sem, s0, s1]) rfl HPO.out
      · have hni : ¬ (ps.length : Int) = 1 := by omega
        have hnb : ((ps.length : Int) == 1) = false := beq_false_of_ne hni
        have hn2 : 2 ≤ ps.length := by omega
        have hn3 : (1 : Int) < (ps.length : Int) := by omega
        have hc1 : (y2.alloc (.cells #[.int .i64 n0, .int .i64 0] 51)).cell? ⟨g, 1, none⟩ = some (.string (strOfNums p1)) := by
          rw [bcell (below_alloc1 y2 _) _ _ hgz2, HG2.out]
          exact HCS.out hn2
        clear hn1 b2
        go_wp2_with fail
        refine (HN1.out _).mono ?_
        rintro e y3 ⟨n1, b1, rfl, hb1, hm1, lo1, hi1, hy3⟩
        have HB1' := hide hb1
        have HM1' := hide hm1
        have HZ2 : Hid ((y2.alloc (.cells #[.int .i64 n0, .int .i64 0] 51)).heap.size = y2.heap.size + 1) := by show _ = _; simp
        have HY3 : Hid (Below (w.heap.size + 1) (w.alloc (.cells #[.int .i64 0, .int .i64 0] 51)) y3) := HY2.out.trans (((below_alloc1 y2 (.cells #[.int .i64 n0, .int .i64 0] 51)).trans (hy3.mono (by rw [HZ2.out]; omega))).mono hwz2)
        have hrb : y3.heap[y2.heap.size]? = some (.cells #[.int .i64 n0, .int .i64 0] 51 (0, 0)) := (hy3.block _ (by rw [HZ2.out]; omega)).trans (new_blkS _ _ _)
        have HRB3 := hide hrb
        have hyz3 : y2.heap.size < y3.heap.size := (Array.getElem?_eq_some_iff.1 hrb).1
        have r0 : y3.cell? ⟨y2.heap.size, 0, none⟩ = some (.int .i64 n0) := by rw [cell_of_block hrb]; rfl
        have r1 : y3.cell? ⟨y2.heap.size, 1, none⟩ = some (.int .i64 0) := by rw [cell_of_block hrb]; rfl
        have rf : y3.frozen? ⟨y2.heap.size, 1, none⟩ = false := by simp [World.frozen?, hrb]
        have HR4 : Hid ((y3.setCell ⟨y2.heap.size, 1, none⟩ (.int .i64 n1)).heap[y2.heap.size]? = some (.cells #[.int .i64 n0, .int .i64 n1] 51 (0, 0))) := by
          show _ = _
          simp [World.setCell, Array.getElem?_modify, hrb]
        have HY4 : Hid (Below (w.heap.size + 1) (w.alloc (.cells #[.int .i64 0, .int .i64 0] 51)) (y3.setCell ⟨y2.heap.size, 1, none⟩ (.int .i64 n1))) := HY3.out.setCell (by show w.heap.size + 1 ≤ y2.heap.size; omega) _
        have b4 := HRB.out _ HY4.out
        have HBK := hide (HW1.out.trans (HY4.out.mono (by omega)))
        have hw0 : wrap64 n1 = n1 := by unfold wrap64; omega
        clear hb1 hm1 hy3 hrb hc1
        have HQ : Hid (∀ ok, ok = (b0 && b1 && decide (ps.length = 2) && decide (0 < n1)) → ok = (refO s).isSome ∧ ∀ r, refO s = some r → n0 = r.1 ∧ n1 = r.2) := fun ok hok => ref_fin2 HR2.out HR3.out hn2 HB0'.out HN0'.out HB1'.out HM1'.out hok
        generalize hy4 : y3.setCell ⟨y2.heap.size, 1, none⟩ (.int .i64 n1) = y4 at *
        have hyz4 : y2.heap.size < y4.heap.size := (Array.getElem?_eq_some_iff.1 HR4.out).1
        have v0 : y4.cell? ⟨y2.heap.size, 0, none⟩ = some (.int .i64 n0) := by rw [cell_of_block HR4.out]; rfl
        have v1 : y4.cell? ⟨y2.heap.size, 1, none⟩ = some (.int .i64 n1) := by rw [cell_of_block HR4.out]; rfl
        have k0 : y4.cell? ⟨w.heap.size, 0, none⟩ = some (.int .i64 0) := by rw [cell_of_block b4]; rfl
        have k1 : y4.cell? ⟨w.heap.size, 1, none⟩ = some (.int .i64 0) := by rw [cell_of_block b4]; rfl
        have f0 : y4.frozen? ⟨w.heap.size, 0, none⟩ = false := by simp [World.frozen?, b4]
        have f1 : y4.frozen? ⟨w.heap.size, 1, none⟩ = false := by simp [World.frozen?, b4]
        have HTW := hide (two_set (a' := .int .i64 n0) (b' := .int .i64 n1) b4)
        have HPO : Hid (∀ ok, ok = (b0 && b1 && decide (ps.length = 2) && decide (0 < n1)) → RefPost s w (.returned (.tuple #[.agg #[.int .i64 n0, .int .i64 n1], .bool ok])) ((y4.setCell ⟨w.heap.size, 0, none⟩ (.int .i64 n0)).setCell ⟨w.heap.size, 1, none⟩ (.int .i64 n1))) := fun ok hok => by
          obtain ⟨q1, q2⟩ := HQ.out ok hok
          exact ⟨n0, n1, ok, rfl, q1, q2, (HBK.out.setCell (Nat.le_refl _) _).setCell (Nat.le_refl _) _⟩
        have s0 : ((y4.setCell ⟨w.heap.size, 0, none⟩ (.int .i64 n0)).setCell ⟨w.heap.size, 1, none⟩ (.int .i64 n1)).cell? ⟨w.heap.size, 0, none⟩ = some (.int .i64 n0) := by rw [cell_of_block HTW.out]; rfl
        have s1 : ((y4.setCell ⟨w.heap.size, 0, none⟩ (.int .i64 n0)).setCell ⟨w.heap.size, 1, none⟩ (.int .i64 n1)).cell? ⟨w.heap.size, 1, none⟩ = some (.int .i64 n1) := by rw [cell_of_block HTW.out]; rfl
        have S0 := hide s0
        have S1 := hide s1
        have hwy : w.heap.size < y2.heap.size := by omega
        have hnew : ¬ y2.heap.size = w.heap.size := by omega
        have hnew2 : ¬ w.heap.size = y2.heap.size := by omega
        clear b4 s0 s1
        cases b0 with
        | false =>
          have HPP := hide (HPO.out false rfl)
          go_wp2_with fail
          have s0 := S0.out
          have s1 := S1.out
          exact bodyPost_ret (v := .tuple #[.agg #[.int .i64 n0, .int .i64 n1], .bool false]) (by simp [results, Tryd.results46, go_sem, s0, s1]; try omega) rfl HPP.out
        | true =>
          cases b1 with
          | false =>
            have HPP := hide (HPO.out false rfl)
            go_wp2_with fail
            have s0 := S0.out
            have s1 := S1.out
            exact bodyPost_ret (v := .tuple #[.agg #[.int .i64 n0, .int .i64 n1], .bool false]) (by simp [results, Tryd.results46, go_sem, s0, s1]; try omega) rfl HPP.out
          | true =>
            by_cases hq : ps.length = 2
            · have hqb : ((ps.length : Int) == 2) = true := by rw [hq]; rfl
              by_cases hz : 0 < n1
              · have HPP := hide (HPO.out true (by rw [decide_eq_true hq, decide_eq_true hz]; rfl))
                clear hq
                go_wp2_with fail
                have s0 := S0.out
                have s1 := S1.out
                exact bodyPost_ret (v := .tuple #[.agg #[.int .i64 n0, .int .i64 n1], .bool true]) (by simp [results, Tryd.results46, go_sem, s0, s1]; try omega) rfl HPP.out
              · have HPP := hide (HPO.out false (by rw [decide_eq_false hz]; simp))
                clear hq
                go_wp2_with fail
                have s0 := S0.out
                have s1 := S1.out
                exact bodyPost_ret (v := .tuple #[.agg #[.int .i64 n0, .int .i64 n1], .bool false]) (by simp [results, Tryd.results46, go_sem, s0, s1]; try omega) rfl HPP.out
            · have hqb : ((ps.length : Int) == 2) = false := beq_false_of_ne (by omega)
              have HPP := hide (HPO.out false (by rw [decide_eq_false hq]; simp))
              clear hq
              go_wp2_with fail
              have s0 := S0.out
              have s1 := S1.out
              exact bodyPost_ret (v := .tuple #[.agg #[.int .i64 n0, .int .i64 n1], .bool false]) (by simp [results, Tryd.results46, go_sem, s0, s1]; try omega) rfl HPP.out
    · have hbb : (nth s 0 == 35) = false := beq_false_of_ne hb
      have HPP := hide (HNP.out (ref_none (by
        cases s with
        | nil => simp
        | cons c l => intro h; exact hb (Option.some.inj h))))
      obtain ⟨c0, hc0⟩ : ∃ c0, nth s 0 = c0 := ⟨_, rfl⟩
      rw [hc0] at hix hbb
      clear hb hc0 h0
      go_wp2_with fail
      exact bodyPost_ret (v := .tuple #[.agg #[.int .i64 0, .int .i64 0], .bool false]) (by simp [results, Tryd.results46, go_sem]) rfl HPP.out
end Go.Proofs.YtjlfcbccpcigeacDoor
