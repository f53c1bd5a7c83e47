/- The contract of May: whether a kernel may be, by the program; nothing that was there is changed. -/
import Derived.Test.YtlgphgfldfjkkaaKernUnits
import Derived.Test.YtlgphgfldfjkkaaTarget
import Derived.Test.YtlgphgfldfjkkaaKernSlots
namespace Go.Proofs.Ytlgphgfldfjkkaa
open Go.RowKit Go.Joins
set_option linter.unusedVariables false
set_option linter.unusedSimpArgs false
set_option maxRecDepth 8192

theorem Try.i84 : (Try.prog.info? 84).map (fun i => (i.zero, i.size, i.bytes)) = some (some (.agg #[.int .i64 0, .int .i64 0, .int .i64 0, .int .i64 0, .int .i64 0, .int .i64 0, .int .i64 0, .int .i64 0, .int .i64 0]), 9, 72) := by kernel_rfl
/-- rows of statements, nine cells each -/
def flatS (l : List St) : List Value := l.flatMap fun x => (stCells x).toList
theorem flatS_snoc (l : List St) (x : St) : flatS l ++ (stCells x).toList = flatS (l ++ [x]) := by unfold flatS; simp
theorem flatS_get (l : List St) : ∀ i j, i < l.length → j < 9 → (flatS l)[i * 9 + j]? = (stCells (stAt l i))[j]? := by
  induction l with
  | nil => intro i c h; exact absurd h (Nat.not_lt_zero _)
  | cons d l ih =>
    intro i j h hj
    show ((stCells d).toList ++ flatS l)[i * 9 + j]? = _
    have h3 : (stCells d).toList.length = 9 := rfl
    cases i with
    | zero =>
      rw [List.getElem?_append_left (by omega), Nat.zero_mul, Nat.zero_add, Array.getElem?_toList]
      rfl
    | succ i =>
      rw [List.getElem?_append_right (by omega), h3, show (i + 1) * 9 + j - 9 = i * 9 + j from by omega, ih i j (by simpa using h) hj]
      rfl
theorem stmts_own {w : World} {base : Nat} {v : Value} {l : List St} (h : w.ownsRow base 84 9 v l.length (flatS l)) : Stmts w v l := by
  obtain ⟨hl, h⟩ := h
  rcases h with ⟨rfl, hn⟩ | ⟨g, cap, cur, rfl, hg, hb, hn, hm, hc, ht⟩
  · exact ⟨none, 0, by rw [hn], by omega, Nat.zero_le _, fun hp => by omega⟩
  · refine ⟨_, cap, rfl, hn, hm, fun _ => ⟨g, 0, rfl, (Array.getElem?_eq_some_iff.1 hb).1, fun i hi j hj => ?_⟩⟩
    rw [cell_of_block hb, ← flatS_get l i j hi hj, ← ht, List.getElem?_take, if_pos (by omega), Nat.zero_add]
    simp
theorem own_empty9 (w : World) (e : TypeId) (sz : Nat) : (w.alloc (.cells #[] e)).ownsRow w.heap.size e sz (.slice (some ⟨w.heap.size, 0, none⟩) 0 0) 0 [] := by
  refine ⟨by simp, .inr ⟨w.heap.size, 0, #[], rfl, Nat.le_refl _, ?_, Nat.le_refl _, Nat.zero_le _, by simp, by simp⟩⟩
  show (w.heap.push _)[w.heap.size]? = _
  simp
theorem body_snoc (l : List Kop) (k : Nat) (h : k < l.length) : bodyK (l.take (k + 1)) = bodyK (l.take k) ++ [stK (opAt l k)] := by
  have h1 : l[k]? = some (opAt l k) := by unfold opAt; rw [List.getD, List.getElem?_eq_getElem h]; rfl
  unfold bodyK
  rw [List.take_add_one, h1, List.map_append]
  rfl
theorem nine_at (w : World) (x : St) {B : Nat} (hB : w.heap.size = B) : ∀ (j : Nat) (u : Value), (stCells x).toList[j]? = some u → (w.alloc (.cells (stCells x) 84)).cell? ((⟨B, 0, none⟩ : Addr).add j) = some u := by
  subst hB
  intro j u hj
  have ha : (⟨w.heap.size, 0, none⟩ : Addr).add j = ⟨w.heap.size, j, none⟩ := by simp [Addr.add]; omega
  rw [ha, cell_of_block (new_block _ _ _)]
  simpa using hj
theorem nine_one {x : St} {u : Value} (h : u ∈ (stCells x).toList) : u.oneCell' = true := by
  unfold stCells at h
  simp at h
  rcases h with rfl | rfl | rfl | rfl | rfl | rfl | rfl | rfl | rfl <;> rfl

set_option maxHeartbeats 1000000 in
theorem kmay_long (p0 p1 p2 q0 q1 q2 r pc st : Int) (ops : List Kop) (ka : Option Addr) (kc : Nat) (la : Option Addr) (lc : Nat) (logs : List Int) (w : World) (hK : OpsV w (.slice ka ops.length kc) ops) (hLG : Ints w (.slice la logs.length lc) logs) (h : 16 < ops.length) : Calls Try.prog 31 #[.agg #[.int .i64 p0, .int .i64 p1, .int .i64 p2, .int .i64 q0, .int .i64 q1, .int .i64 q2, .int .i64 r], .agg #[.int .i64 pc, .int .i64 st, .slice ka ops.length kc], .slice la logs.length lc] w fun e w' => e = .returned (.bool false) ∧ Below w.heap.size w w' := by
  obtain ⟨ka', kc', hk1, hk2, hk3, hkc⟩ := hK
  injection hk1 with e1 e2 e3
  subst e1; subst e3
  unfold maxLen at hk3
  have hi : (16 : Int) < (ops.length : Int) := by omega
  clear hkc e2
  go_enter Try.func31, Try.ntmps31
  go_wp2_with fail
  go_ret
  exact ⟨rfl, below_alloc2 _ _ _⟩
set_option maxHeartbeats 1000000 in
theorem kmay_target (p0 p1 p2 q0 q1 q2 r pc st : Int) (ops : List Kop) (ka : Option Addr) (kc : Nat) (la : Option Addr) (lc : Nat) (logs : List Int) (w : World) (hK : OpsV w (.slice ka ops.length kc) ops) (hLG : Ints w (.slice la logs.length lc) logs) (h : ops.length ≤ 16) (ht : mayT ⟨p0, p1, p2, q0, q1, q2, r⟩ = false) : Calls Try.prog 31 #[.agg #[.int .i64 p0, .int .i64 p1, .int .i64 p2, .int .i64 q0, .int .i64 q1, .int .i64 q2, .int .i64 r], .agg #[.int .i64 pc, .int .i64 st, .slice ka ops.length kc], .slice la logs.length lc] w fun e w' => e = .returned (.bool false) ∧ Below w.heap.size w w' := by
  obtain ⟨ka', kc', hk1, hk2, hk3, hkc⟩ := hK
  injection hk1 with e1 e2 e3
  subst e1; subst e3
  unfold maxLen at hk3
  have hi : ¬ (16 : Int) < (ops.length : Int) := by omega
  have HT := hide (fun W => ht ▸ pmay_seven p0 p1 p2 q0 q1 q2 r W)
  clear hkc e2 ht
  go_enter Try.func31, Try.ntmps31
  go_wp2_with fail
  refine (HT.out _).mono ?_
  rintro e x1 ⟨rfl, hb⟩
  have HB := hide ((below_alloc2 w _ _).trans (hb.mono (by simp; omega)))
  clear hb HT
  go_wp2_with fail
  go_ret
  exact ⟨rfl, HB.out⟩
set_option maxHeartbeats 1000000 in
theorem kmay_time (p0 p1 p2 q0 q1 q2 r pc st : Int) (ops : List Kop) (ka : Option Addr) (kc : Nat) (la : Option Addr) (lc : Nat) (logs : List Int) (w : World) (hK : OpsV w (.slice ka ops.length kc) ops) (hLG : Ints w (.slice la logs.length lc) logs) (h : ops.length ≤ 16) (ht : mayT ⟨p0, p1, p2, q0, q1, q2, r⟩ = true) (hp : inR pc 1 200 = false ∨ (inR pc 1 200 = true ∧ inR st 1 1001 = false)) : Calls Try.prog 31 #[.agg #[.int .i64 p0, .int .i64 p1, .int .i64 p2, .int .i64 q0, .int .i64 q1, .int .i64 q2, .int .i64 r], .agg #[.int .i64 pc, .int .i64 st, .slice ka ops.length kc], .slice la logs.length lc] w fun e w' => e = .returned (.bool false) ∧ Below w.heap.size w w' := by
  obtain ⟨ka', kc', hk1, hk2, hk3, hkc⟩ := hK
  injection hk1 with e1 e2 e3
  subst e1; subst e3
  unfold maxLen at hk3
  have hi : ¬ (16 : Int) < (ops.length : Int) := by omega
  have HT := hide (fun W => ht ▸ pmay_seven p0 p1 p2 q0 q1 q2 r W)
  clear hkc e2 ht
  rcases hp with hp | ⟨hp, hs⟩
  all_goals
    go_enter Try.func31, Try.ntmps31
    go_wp2_with fail
    refine (HT.out _).mono ?_
    rintro e x1 ⟨rfl, hb⟩
    have HB := hide ((below_alloc2 w (.cells #[.int .i64 p0, .int .i64 p1, .int .i64 p2, .int .i64 q0, .int .i64 q1, .int .i64 q2, .int .i64 r] 49) (.cells #[.int .i64 pc, .int .i64 st, .slice ka ops.length kc] 55)).trans (hb.mono (by simp; omega)))
    have k0 : x1.cell? ⟨w.heap.size + 1, 0, none⟩ = some (.int .i64 pc) := by rw [bcell hb _ _ (by simp)]; go_simp
    have k1 : x1.cell? ⟨w.heap.size + 1, 1, none⟩ = some (.int .i64 st) := by rw [bcell hb _ _ (by simp)]; go_simp
    clear hb HT
    go_wp2_with (go_at_call 56; refine (pwithin_any _ _ _ _).mono ?_; rintro e w' ⟨rfl, hw'⟩; have hw' := hw'.symm; subst hw')
    go_ret
    exact ⟨rfl, HB.out⟩

set_option maxHeartbeats 8000000 in
theorem kmay_rest (p0 p1 p2 q0 q1 q2 r pc st : Int) (ops : List Kop) (ka : Option Addr) (kc : Nat) (la : Option Addr) (lc : Nat) (logs : List Int) (w : World) (hK : OpsV w (.slice ka ops.length kc) ops) (hLG : Ints w (.slice la logs.length lc) logs) (h16 : ops.length ≤ 16) (ht : mayT ⟨p0, p1, p2, q0, q1, q2, r⟩ = true) (hp : inR pc 1 200 = true) (hs : inR st 1 1001 = true) : Calls Try.prog 31 #[.agg #[.int .i64 p0, .int .i64 p1, .int .i64 p2, .int .i64 q0, .int .i64 q1, .int .i64 q2, .int .i64 r], .agg #[.int .i64 pc, .int .i64 st, .slice ka ops.length kc], .slice la logs.length lc] w fun e w' => e = .returned (.bool (allN (fun i => timeOk pc st (opAt ops i) && regsP r (opAt ops i)) ops.length && mayB ⟨logs, bodyK ops, []⟩ && unitsP ⟨p0, p1, p2, q0, q1, q2, r⟩ ops)) ∧ Below w.heap.size w w' := by
  have HKV := hide hK
  have HLV := hide hLG
  obtain ⟨ka', kc', hk1, hk2, hk3, hkc⟩ := hK
  injection hk1 with e1 e2 e3
  subst e1; subst e3
  unfold maxLen at hk3
  have hi16 : ¬ (16 : Int) < (ops.length : Int) := by omega
  obtain ⟨hp1, hp2⟩ := inR_iff.1 hp
  obtain ⟨hs1, hs2⟩ := inR_iff.1 hs
  have hr12 := (mayT_parts ht).2.2.2
  obtain ⟨hr1, hr2⟩ := hr12
  simp only at hr1 hr2
  obtain ⟨i0, hi, hz0, hz1, hz2⟩ := info_parts Try.i84
  have HT := hide (fun W => ht ▸ pmay_seven p0 p1 p2 q0 q1 q2 r W)
  have HTM : Hid (∀ x W, Calls Try.prog 57 #[.agg #[.int .i64 pc, .int .i64 st, .slice ka ops.length kc], .agg (kCells x)] W fun e w' => e = .returned (.bool (timeOk pc st x)) ∧ Below W.heap.size W w') := fun x W => timeMay_ten pc st _ x.sl x.sg x.o x.d x.a x.b x.ar x.sp x.pl x.nn W hp1 hp2 hs1 hs2
  have HRM : Hid (∀ x W, Calls Try.prog 58 #[.agg #[.int .i64 p0, .int .i64 p1, .int .i64 p2, .int .i64 q0, .int .i64 q1, .int .i64 q2, .int .i64 r], .agg (kCells x)] W fun e w' => e = .returned (.bool (regsP r x)) ∧ Below W.heap.size W w') := fun x W => registersMay_ten p0 p1 p2 q0 q1 q2 r x.sl x.sg x.o x.d x.a x.b x.ar x.sp x.pl x.nn W hr1 hr2
  have HKC := hide hkc
  clear hkc e2 ht
  go_enter Try.func31, Try.ntmps31
  go_wp2_with fail
  refine (HT.out _).mono ?_
  rintro e x1 ⟨rfl, hb⟩
  have HB := hide ((below_alloc2 w (.cells #[.int .i64 p0, .int .i64 p1, .int .i64 p2, .int .i64 q0, .int .i64 q1, .int .i64 q2, .int .i64 r] 49) (.cells #[.int .i64 pc, .int .i64 st, .slice ka ops.length kc] 55)).trans (hb.mono (by simp; omega)))
  have HBX : Hid (x1.heap[w.heap.size]? = some (.cells #[.int .i64 p0, .int .i64 p1, .int .i64 p2, .int .i64 q0, .int .i64 q1, .int .i64 q2, .int .i64 r] 49 (0, 0)) ∧ x1.heap[w.heap.size + 1]? = some (.cells #[.int .i64 pc, .int .i64 st, .slice ka ops.length kc] 55 (0, 0))) := by
    refine ⟨?_, ?_⟩
    · rw [hb.block _ (by simp; omega), Below.heap_alloc _ _ _ (by simp)]; exact new_block _ _ _
    · rw [hb.block _ (by simp)]
      have e : (w.alloc (.cells #[.int .i64 p0, .int .i64 p1, .int .i64 p2, .int .i64 q0, .int .i64 q1, .int .i64 q2, .int .i64 r] 49)).heap.size = w.heap.size + 1 := by simp
      rw [← e]; exact new_block _ _ _
  have k0 : x1.cell? ⟨w.heap.size + 1, 0, none⟩ = some (.int .i64 pc) := by rw [cell_of_block HBX.out.2]; rfl
  have k1 : x1.cell? ⟨w.heap.size + 1, 1, none⟩ = some (.int .i64 st) := by rw [cell_of_block HBX.out.2]; rfl
  have k2 : x1.cell? ⟨w.heap.size + 1, 2, none⟩ = some (.slice ka ops.length kc) := by rw [cell_of_block HBX.out.2]; rfl
  have hz : w.heap.size + 1 < x1.heap.size := by have := hb.size; simp at this; omega
  clear hb HT
  go_wp2_with (go_at_call 56; refine (pwithin_any _ _ _ _).mono ?_; rintro e w' ⟨rfl, hw'⟩; have hw' := hw'.symm; subst hw')
  go_loopw [7, 33] (fun bv i wr => ∃ k : Nat, k ≤ ops.length ∧ i = .int .i64 k ∧ allN (fun i => timeOk pc st (opAt ops i) && regsP r (opAt ops i)) k = true ∧ Below x1.heap.size x1 wr ∧ ∃ ba bc, bv = .slice ba k bc ∧ wr.ownsRow x1.heap.size 84 9 (.slice ba k bc) k (flatS (bodyK (ops.take k)))) (fun _ i _ => ops.length - (intOf i).toNat)
  case atStart => exact ⟨0, Nat.zero_le _, rfl, rfl, below_alloc1 _ _, _, 0, rfl, own_empty9 x1 84 9⟩
  case round =>
    clear k0 k1 k2
    obtain ⟨k, hk, rfl, hall, hbel, ba, bc, rfl, hown⟩ := hrel
    have HA := hide hall
    have HBL := hide hbel
    have HO := hide hown
    have hsz := hbel.size
    have HBW := hide (HB.out.trans (hbel.mono (by omega)))
    have HBX2 : Hid (wr.heap[w.heap.size]? = some (.cells #[.int .i64 p0, .int .i64 p1, .int .i64 p2, .int .i64 q0, .int .i64 q1, .int .i64 q2, .int .i64 r] 49 (0, 0)) ∧ wr.heap[w.heap.size + 1]? = some (.cells #[.int .i64 pc, .int .i64 st, .slice ka ops.length kc] 55 (0, 0))) := ⟨by rw [hbel.block _ (by omega)]; exact HBX.out.1, by rw [hbel.block _ (by omega)]; exact HBX.out.2⟩
    clear hall hown hbel
    by_cases hkl : k < ops.length
    · have hki : (k : Int) < (ops.length : Int) := by omega
      obtain ⟨ob, oo, rfl, hob, hocell⟩ := HKC.out (by omega)
      obtain ⟨c0, c1, c2, c3, c4, c5, c6, c7, c8, c9⟩ := ten (hocell k hkl)
      rw [← bcell HBW.out _ _ hob] at c0 c1 c2 c3 c4 c5 c6 c7 c8 c9
      have hobz : ob < wr.heap.size := by have := HBW.out.size; omega
      have HSN := hide (body_snoc ops k hkl)
      have HSM := hide (statement_any (opAt ops k))
      have HTK := hide (HTM.out (opAt ops k))
      have HRK := hide (HRM.out (opAt ops k))
      have HNO : Hid (∀ b, (timeOk pc st (opAt ops k) && regsP r (opAt ops k)) = b → b = false → allN (fun i => timeOk pc st (opAt ops i) && regsP r (opAt ops i)) ops.length = false) := fun b h1 h2 => allN_false hkl (h1.trans h2)
      have HYES : Hid ((timeOk pc st (opAt ops k) && regsP r (opAt ops k)) = true → allN (fun i => timeOk pc st (opAt ops i) && regsP r (opAt ops i)) (k + 1) = true) := fun h => allN_step HA.out h
      clear hocell
      obtain ⟨xk, hxk⟩ : ∃ xk, opAt ops k = xk := ⟨_, rfl⟩
      rw [hxk] at c0 c1 c2 c3 c4 c5 c6 c7 c8 c9 HSN HSM HTK HRK HNO HYES
      clear hxk
      obtain ⟨vT, hvT⟩ : ∃ b, timeOk pc st xk = b := ⟨_, rfl⟩
      obtain ⟨vR, hvR⟩ : ∃ b, regsP r xk = b := ⟨_, rfl⟩
      rw [hvT] at HTK HNO HYES
      rw [hvR] at HRK HNO HYES
      have HST : Hid (∃ z, stK xk = z) := ⟨_, rfl⟩
      obtain ⟨zk, hzk⟩ := HST.out
      rw [hzk] at HSM HSN
      clear hvT hvR hzk HST
      obtain ⟨sl, sg, o, d, a, b, ar, sp, pl, nn⟩ := xk
      obtain ⟨z0, z1, z2, z3, z4, z5, z6, z7, z8⟩ := zk
      simp only at c0 c1 c2 c3 c4 c5 c6 c7 c8 c9
      have HSM2 : Hid (∀ W, Calls Try.prog 59 #[.agg #[.int .i64 sl, .int .i64 sg, .int .i64 o, .int .i64 d, .int .i64 a, .int .i64 b, .int .i64 ar, .int .i64 sp, .int .i64 pl, .int .i64 nn]] W fun e w' => e = .returned (.agg #[.int .i64 z0, .int .i64 z1, .int .i64 z2, .int .i64 z3, .int .i64 z4, .int .i64 z5, .int .i64 z6, .int .i64 z7, .int .i64 z8]) ∧ Below W.heap.size W w') := HSM.out
      have b0 := cell_of_block HBX2.out.1
      have b1 := cell_of_block HBX2.out.2
      have t0 : wr.cell? ⟨w.heap.size, 0, none⟩ = some (.int .i64 p0) := by rw [b0]; rfl
      have t1 : wr.cell? ⟨w.heap.size, 1, none⟩ = some (.int .i64 p1) := by rw [b0]; rfl
      have t2 : wr.cell? ⟨w.heap.size, 2, none⟩ = some (.int .i64 p2) := by rw [b0]; rfl
      have t3 : wr.cell? ⟨w.heap.size, 3, none⟩ = some (.int .i64 q0) := by rw [b0]; rfl
      have t4 : wr.cell? ⟨w.heap.size, 4, none⟩ = some (.int .i64 q1) := by rw [b0]; rfl
      have t5 : wr.cell? ⟨w.heap.size, 5, none⟩ = some (.int .i64 q2) := by rw [b0]; rfl
      have t6 : wr.cell? ⟨w.heap.size, 6, none⟩ = some (.int .i64 r) := by rw [b0]; rfl
      have k0 : wr.cell? ⟨w.heap.size + 1, 0, none⟩ = some (.int .i64 pc) := by rw [b1]; rfl
      have k1 : wr.cell? ⟨w.heap.size + 1, 1, none⟩ = some (.int .i64 st) := by rw [b1]; rfl
      have k2 : wr.cell? ⟨w.heap.size + 1, 2, none⟩ = some (.slice (some ⟨ob, oo, none⟩) ops.length kc) := by rw [b1]; rfl
      have hzw : w.heap.size + 1 < wr.heap.size := by omega
      have hzw0 : w.heap.size < wr.heap.size := by omega
      clear b0 b1
      go_wp2_with fail
      refine (HTK.out _).mono ?_
      rintro e x2 ⟨rfl, hb2⟩
      have hc2 := bcell hb2
      have HX2 := hide ((below_alloc1 wr (.cells #[.int .i64 sl, .int .i64 sg, .int .i64 o, .int .i64 d, .int .i64 a, .int .i64 b, .int .i64 ar, .int .i64 sp, .int .i64 pl, .int .i64 nn] 68)).trans (hb2.mono (by simp)))
      have hx2 := op_box (show x2.heap[wr.heap.size]? = some (.cells #[.int .i64 sl, .int .i64 sg, .int .i64 o, .int .i64 d, .int .i64 a, .int .i64 b, .int .i64 ar, .int .i64 sp, .int .i64 pl, .int .i64 nn] 68 (0, 0)) by rw [hb2.block _ (by simp)]; exact new_block _ _ _)
      have hzx2 : wr.heap.size < x2.heap.size := by have := hb2.size; simp at this; omega
      have hc3 := bcell HX2.out
      rw [← hc3 _ _ hzw0] at t0 t1 t2 t3 t4 t5 t6
      clear hb2 hc2 hc3 c0 c1 c2 c3 c4 c5 c6 c7 c8 c9 k0 k1 k2
      cases vT with
      | false =>
        have HF := hide (HNO.out _ rfl rfl)
        go_wp2_with fail
        go_ret
        refine ⟨ret_bool ?_, HBW.out.trans (HX2.out.mono HBW.out.size)⟩
        rw [HF.out]; rfl
      | true =>
        obtain ⟨x20, x21, x22, x23, x24, x25, x26, x27, x28, x29⟩ := hx2
        go_wp2_with fail
        refine (HRK.out _).mono ?_
        rintro e x3 ⟨rfl, hb3⟩
        have HX3 := hide (HX2.out.trans (hb3.mono HX2.out.size))
        have hc3 := bcell hb3
        rw [← hc3 _ _ hzx2] at x20 x21 x22 x23 x24 x25 x26 x27 x28 x29
        have hz3 : wr.heap.size < x3.heap.size := by have := hb3.size; omega
        clear hb3 hc3 t0 t1 t2 t3 t4 t5 t6
        cases vR with
        | false =>
          have HF := hide (HNO.out _ rfl rfl)
          go_wp2_with fail
          go_ret
          refine ⟨ret_bool ?_, HBW.out.trans (HX3.out.mono HBW.out.size)⟩
          rw [HF.out]; rfl
        | true =>
          have HY := hide (HYES.out rfl)
          go_wp2_with fail
          refine (HSM2.out _).mono ?_
          rintro e x4 ⟨rfl, hb4⟩
          have HX4 := hide (HX3.out.trans (hb4.mono HX3.out.size))
          have HO4 := hide (own_below HO.out (HX4.out.alloc HX4.out.size (.cells #[.int .i64 z0, .int .i64 z1, .int .i64 z2, .int .i64 z3, .int .i64 z4, .int .i64 z5, .int .i64 z6, .int .i64 z7, .int .i64 z8] 84)))
          have hz4 : x1.heap.size ≤ x4.heap.size := by have := HX4.out.size; omega
          clear hb4
          go_wp2_with (at_builtin; refine wpList_append_own _ rfl (.tmp 47) (.tmp 50) 28 rfl x1.heap.size 84 i0 (.agg #[.int .i64 0, .int .i64 0, .int .i64 0, .int .i64 0, .int .i64 0, .int .i64 0, .int .i64 0, .int .i64 0, .int .i64 0]) 9 72 Try.underlying28 hi hz0 hz1 hz2 rfl (by decide) _ _ _ rfl HO4.out ⟨x4.heap.size, 0, none⟩ 1 1 (stCells ⟨z0, z1, z2, z3, z4, z5, z6, z7, z8⟩).toList rfl rfl (by exact nine_at x4 ⟨z0, z1, z2, z3, z4, z5, z6, z7, z8⟩ rfl) (by intro u hu; exact nine_one hu) (by unfold maxLen; omega) (by omega) (by simp; omega) ?_; intro v1 w5 hown1 hgrow1 hnil1; obtain ⟨ba2, bc2, rfl, -, -⟩ := ownz_shape hown1; have HO5 := hide hown1; have HG5 := hide hgrow1; clear hown1 hgrow1 hnil1)
          go_roundw
          case rel =>
            refine ⟨k + 1, by omega, by go_num, HY.out, ?_, ba2, bc2, rfl, ?_⟩
            · exact ((HBL.out.trans (HX4.out.mono hsz)).alloc (by omega) _).grown HG5.out (by simp; omega) (ownz_block_ge HO.out)
            · rw [HSN.out, ← flatS_snoc]; exact HO5.out
          case measure => simp [intOf]; omega
    · have e : k = ops.length := by omega
      subst e
      rw [List.take_length] at HO
      have hki : ¬ (ops.length : Int) < (ops.length : Int) := by omega
      have HLW : Hid (LoopV wr (.agg #[.slice la logs.length lc, .slice ba ops.length bc, .slice none 0 0]) ⟨logs, bodyK ops, []⟩) := by
        refine ⟨_, _, _, rfl, HLV.out.below HBW.out, ?_, none, 0, rfl, Nat.le_refl _, Nat.zero_le _, fun i hi => absurd hi (Nat.not_lt_zero _), fun hp => absurd hp (Nat.not_lt_zero _)⟩
        have h := HO.out
        rw [← bodyK_len ops] at h ⊢
        exact stmts_own h
      have HSLO : Hid (∀ x ∈ ops, 0 ≤ x.sl ∧ x.sl ≤ 1000) := fun x hx => by
        obtain ⟨i, hi, rfl⟩ := List.mem_iff_getElem.1 hx
        have h := allN_get HA.out i hi
        have e : opAt ops i = ops[i] := by unfold opAt; rw [List.getD, List.getElem?_eq_getElem hi]; rfl
        rw [e] at h
        simp only [Bool.and_eq_true] at h
        have h1 := h.1
        unfold timeOk at h1
        simp only [Bool.and_eq_true] at h1
        have h2 := inR_iff.1 h1.1.1
        omega
      have b0 := cell_of_block HBX2.out.1
      have b1 := cell_of_block HBX2.out.2
      have t0 : wr.cell? ⟨w.heap.size, 0, none⟩ = some (.int .i64 p0) := by rw [b0]; rfl
      have t1 : wr.cell? ⟨w.heap.size, 1, none⟩ = some (.int .i64 p1) := by rw [b0]; rfl
      have t2 : wr.cell? ⟨w.heap.size, 2, none⟩ = some (.int .i64 p2) := by rw [b0]; rfl
      have t3 : wr.cell? ⟨w.heap.size, 3, none⟩ = some (.int .i64 q0) := by rw [b0]; rfl
      have t4 : wr.cell? ⟨w.heap.size, 4, none⟩ = some (.int .i64 q1) := by rw [b0]; rfl
      have t5 : wr.cell? ⟨w.heap.size, 5, none⟩ = some (.int .i64 q2) := by rw [b0]; rfl
      have t6 : wr.cell? ⟨w.heap.size, 6, none⟩ = some (.int .i64 r) := by rw [b0]; rfl
      have k0 : wr.cell? ⟨w.heap.size + 1, 0, none⟩ = some (.int .i64 pc) := by rw [b1]; rfl
      have k1 : wr.cell? ⟨w.heap.size + 1, 1, none⟩ = some (.int .i64 st) := by rw [b1]; rfl
      have k2 : wr.cell? ⟨w.heap.size + 1, 2, none⟩ = some (.slice ka ops.length kc) := by rw [b1]; rfl
      have hzw : w.heap.size + 1 < wr.heap.size := by omega
      have hzw0 : w.heap.size < wr.heap.size := by omega
      obtain ⟨vM, hvM⟩ : ∃ b, mayB ⟨logs, bodyK ops, []⟩ = b := ⟨_, rfl⟩
      obtain ⟨vU, hvU⟩ : ∃ b, unitsP ⟨p0, p1, p2, q0, q1, q2, r⟩ ops = b := ⟨_, rfl⟩
      have HLM : Hid (Calls Try.prog 17 #[.agg #[.slice la logs.length lc, .slice ba ops.length bc, .slice none 0 0]] wr fun e w' => e = .returned (.bool vM) ∧ Below wr.heap.size wr w') := by
        show Calls _ _ _ _ _
        rw [← hvM]
        exact may_any _ _ wr HLW.out
      have HUM : Hid (∀ x, Below wr.heap.size wr x → Calls Try.prog 60 #[.agg #[.int .i64 p0, .int .i64 p1, .int .i64 p2, .int .i64 q0, .int .i64 q1, .int .i64 q2, .int .i64 r], .agg #[.int .i64 pc, .int .i64 st, .slice ka ops.length kc]] x fun e w' => e = .returned (.bool vU) ∧ Below x.heap.size x w') := fun x hx => by
        rw [← hvU]
        exact units_any p0 p1 p2 q0 q1 q2 r pc st ops ka kc x (HKV.out.below (HBW.out.trans (hx.mono HBW.out.size))) h16 HSLO.out
      have HFIN : Hid ((allN (fun i => timeOk pc st (opAt ops i) && regsP r (opAt ops i)) ops.length && mayB ⟨logs, bodyK ops, []⟩ && unitsP ⟨p0, p1, p2, q0, q1, q2, r⟩ ops) = (vM && vU)) := by show _ = _; rw [HA.out, hvM, hvU]; rfl
      clear b0 b1 hvM hvU
      cases vM with
      | false =>
        go_wp2_with fail
        refine HLM.out.mono ?_
        rintro e x2 ⟨rfl, hb2⟩
        have HX2 := hide (HBW.out.trans (hb2.mono HBW.out.size))
        clear hb2
        go_wp2_with fail
        go_ret
        exact ⟨ret_bool (by rw [HFIN.out]; rfl), HX2.out⟩
      | true =>
        go_wp2_with fail
        refine HLM.out.mono ?_
        rintro e x2 ⟨rfl, hb2⟩
        have HX2 := hide (HBW.out.trans (hb2.mono HBW.out.size))
        have HU2 := hide (HUM.out x2 hb2)
        have hc2 := bcell hb2
        rw [← hc2 _ _ hzw0] at t0 t1 t2 t3 t4 t5 t6
        rw [← hc2 _ _ hzw] at k0 k1 k2
        clear hb2 hc2
        go_wp2_with fail
        refine HU2.out.mono ?_
        rintro e x3 ⟨rfl, hb3⟩
        have HX3 := hide (HX2.out.trans (hb3.mono HX2.out.size))
        clear hb3
        go_wp2_with fail
        go_ret
        exact ⟨ret_bool (by rw [HFIN.out]; rfl), HX3.out⟩
theorem kernelMay (t : Tg) (kv : Value) (K : Kn) (la : Option Addr) (lc : Nat) (logs : List Int) (w : World) (hK : KernV w kv K) (hL : Ints w (.slice la logs.length lc) logs) :
    Calls Try.prog 31 #[.agg t.cells, kv, .slice la logs.length lc] w fun e w' => e = .returned (.bool (mayK t K logs)) ∧ Below w.heap.size w w' := by
  obtain ⟨p0, p1, p2, q0, q1, q2, r⟩ := t
  obtain ⟨pc, st, ops⟩ := K
  obtain ⟨ov, rfl, hO⟩ := hK
  have hO2 := hO
  obtain ⟨ka, kc, rfl, -⟩ := hO
  rw [← mayP_mayK]
  by_cases h16 : ops.length ≤ 16
  · cases ht : mayT ⟨p0, p1, p2, q0, q1, q2, r⟩ with
    | false =>
      have e : mayP ⟨p0, p1, p2, q0, q1, q2, r⟩ ⟨pc, st, ops⟩ logs = false := by unfold mayP; rw [ht]; simp
      rw [e]
      exact kmay_target p0 p1 p2 q0 q1 q2 r pc st ops ka kc la lc logs w hO2 hL h16 ht
    | true =>
      cases hp : inR pc 1 200 with
      | false =>
        have e : mayP ⟨p0, p1, p2, q0, q1, q2, r⟩ ⟨pc, st, ops⟩ logs = false := by unfold mayP; rw [show inR (Kn.pc ⟨pc, st, ops⟩) 1 200 = false from hp]; simp
        rw [e]
        exact kmay_time p0 p1 p2 q0 q1 q2 r pc st ops ka kc la lc logs w hO2 hL h16 ht (.inl hp)
      | true =>
        cases hs : inR st 1 1001 with
        | false =>
          have e : mayP ⟨p0, p1, p2, q0, q1, q2, r⟩ ⟨pc, st, ops⟩ logs = false := by unfold mayP; rw [show inR (Kn.st ⟨pc, st, ops⟩) 1 1001 = false from hs]; simp
          rw [e]
          exact kmay_time p0 p1 p2 q0 q1 q2 r pc st ops ka kc la lc logs w hO2 hL h16 ht (.inr ⟨hp, hs⟩)
        | true =>
          have e : mayP ⟨p0, p1, p2, q0, q1, q2, r⟩ ⟨pc, st, ops⟩ logs = (allN (fun i => timeOk pc st (opAt ops i) && regsP r (opAt ops i)) ops.length && mayB ⟨logs, bodyK ops, []⟩ && unitsP ⟨p0, p1, p2, q0, q1, q2, r⟩ ops) := by
            unfold mayP
            rw [ht, show inR (Kn.pc ⟨pc, st, ops⟩) 1 200 = true from hp, show inR (Kn.st ⟨pc, st, ops⟩) 1 1001 = true from hs, show decide ((Kn.ops ⟨pc, st, ops⟩).length ≤ 16) = true from decide_eq_true h16]
            rfl
          rw [e]
          exact kmay_rest p0 p1 p2 q0 q1 q2 r pc st ops ka kc la lc logs w hO2 hL h16 ht hp hs
  · have e : mayP ⟨p0, p1, p2, q0, q1, q2, r⟩ ⟨pc, st, ops⟩ logs = false := by unfold mayP; rw [show decide ((Kn.ops ⟨pc, st, ops⟩).length ≤ 16) = false from decide_eq_false h16]; simp
    rw [e]
    exact kmay_long p0 p1 p2 q0 q1 q2 r pc st ops ka kc la lc logs w hO2 hL (by omega)
end Go.Proofs.Ytlgphgfldfjkkaa
