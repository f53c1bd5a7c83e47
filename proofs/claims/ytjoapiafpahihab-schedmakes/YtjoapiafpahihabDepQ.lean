/- DepQ: texts that are built as one: DepRefs, DepWords. -/
import Derived.Test.YtjoapiafpahihabDepS
import Derived.Test.YtjoapiafpahihabRef67
import Derived.Test.YtjoapiafpahihabKernS
import Derived.Test.YtjoapiafpahihabTarget
/- The contract of package dep's refEdges: what a statement looks at, it waits for; nothing that was there is changed. -/
namespace Go.Proofs.Ytjoapiafpahihab
open Go.RowKit Go.Joins
set_option linter.unusedVariables false

/-- the first so many edges of what a statement looks at: a name, so that no walk opens it -/
def refP (L : Lp) (t : Tg) (k i : Nat) : List Ed := (refT L t k).take i
theorem refP_zero (L : Lp) (t : Tg) (k : Nat) : refP L t k 0 = [] := rfl
theorem refP_all {L : Lp} {t : Tg} {k i : Nat} (h : (usesL (stAt L.body k)).length ≤ i) : refP L t k i = refT L t k := by
  unfold refP
  exact List.take_of_length_le (by unfold refT; rw [List.length_map]; exact h)
theorem refP_step {L : Lp} {t : Tg} {k i : Nat} (h : i < (usesL (stAt L.body k)).length) : refP L t k (i + 1) = refP L t k i ++ [⟨(refAt (usesL (stAt L.body k)) i).1, k, (refAt (usesL (stAt L.body k)) i).2, waitT t (stAt L.body (refAt (usesL (stAt L.body k)) i).1.toNat).o⟩] := by
  unfold refP refT
  rw [List.take_add_one, List.getElem?_map, List.getElem?_eq_getElem h]
  unfold refAt
  rw [List.getD_eq_getElem?_getD, List.getElem?_eq_getElem h]
  rfl
theorem refP_len (L : Lp) (t : Tg) (k i : Nat) : (refP L t k i).length ≤ 2 := by
  unfold refP refT usesL
  rw [List.length_take, List.length_map]
  split
  · exact Nat.le_trans (Nat.min_le_right _ _) (by simp)
  · split
    · exact Nat.le_trans (Nat.min_le_right _ _) (by simp)
    · exact Nat.le_trans (Nat.min_le_right _ _) (by simp)
/-- the row of two Refs -/
def refsF (s : St) : Nat → Value := fun j => [Value.int .i64 s.xa, .int .i64 s.xb, .int .i64 s.ya, .int .i64 s.yb].getD j (.bool false)
theorem refs_at {w : World} {g : Nat} {e : TypeId} {s : St} (h : RowF w g e 4 (refsF s)) {i : Nat} (hi : i < (usesL s).length) :
    w.cell? ⟨g, i * 2, none⟩ = some (.int .i64 (refAt (usesL s) i).1) ∧ w.cell? ⟨g, i * 2 + 1, none⟩ = some (.int .i64 (refAt (usesL s) i).2) := by
  unfold usesL at hi ⊢
  split at hi
  · rename_i h4
    rw [if_pos h4]
    have e0 : i = 0 := by have : i < 1 := hi; omega
    subst e0
    exact ⟨h.cell (i := 0) (by omega), h.cell (i := 1) (by omega)⟩
  · rename_i h4
    rw [if_neg h4]
    split at hi
    · rename_i h10
      rw [if_pos h10]
      have e0 : i = 0 ∨ i = 1 := by have : i < 2 := hi; omega
      rcases e0 with rfl | rfl
      · exact ⟨h.cell (i := 0) (by omega), h.cell (i := 1) (by omega)⟩
      · exact ⟨h.cell (i := 2) (by omega), h.cell (i := 3) (by omega)⟩
    · exact absurd hi (Nat.not_lt_zero _)
theorem looks_uses {m n k : Int} {s : St} (h : stOk m n k s = true) : looksK s.o = ((usesL s).length : Int) ∧ (usesL s).length ≤ 2 := by
  unfold looksK usesL
  by_cases h4 : s.o = 4
  · rw [if_pos h4, if_pos h4]; exact ⟨rfl, by simp⟩
  · rw [if_neg h4, if_neg h4]
    by_cases h10 : 10 < s.o
    · have h5 : 11 ≤ s.o ∧ s.o ≤ 18 := by
        unfold stOk at h
        rw [if_neg (by omega), if_neg (by omega), if_neg (by omega), if_neg h4] at h
        split at h
        · assumption
        · exact Bool.noConfusion h
      rw [if_pos h10, if_pos (inR_yes h5)]; exact ⟨rfl, by simp⟩
    · rw [if_neg h10, if_neg (by rw [inR_no (by omega)]; exact Bool.false_ne_true)]; exact ⟨rfl, by simp⟩
theorem own_empty4 (w : World) (e : TypeId) (B : Nat) (hB : B ≤ w.heap.size) : (w.alloc (.cells #[] e)).ownsRow B e 4 (.slice (some ⟨w.heap.size, 0, none⟩) 0 0) 0 [] := by
  refine ⟨rfl, .inr ⟨w.heap.size, 0, #[], rfl, hB, ?_, Nat.le_refl _, Nat.zero_le _, rfl, rfl⟩⟩
  show (w.heap.push _)[w.heap.size]? = _
  simp
theorem four_row (w : World) (a b c d : Value) (e : TypeId) (f : Nat → Value) (h0 : f 0 = a) (h1 : f 1 = b) (h2 : f 2 = c) (h3 : f 3 = d) : RowF (w.alloc (.cells #[a, b, c, d] e)) w.heap.size e 4 f :=
  RowF.made w _ e 4 f (by simp) (fun i hi => by
    have : i = 0 ∨ i = 1 ∨ i = 2 ∨ i = 3 := by omega
    rcases this with rfl | rfl | rfl | rfl
    · rw [h0]; rfl
    · rw [h1]; rfl
    · rw [h2]; rfl
    · rw [h3]; rfl)

set_option maxHeartbeats 8000000 in
set_option maxRecDepth 100000 in
theorem refEdges_walk (p0 p1 p2 q0 q1 q2 r : Int) (L : Lp) (b off cap : Nat) (v0 v2 : Value) (w : World) (hl1 : L.body.length ≤ cap) (hm1 : cap ≤ 9223372036854775807) (hb : b < w.heap.size)
    (hbody : ∀ i, i < L.body.length → ∀ j, j < 9 → w.cell? ⟨b, off + i * 9 + j, none⟩ = (stCells (stAt L.body i))[j]?) (hm : mayB L = true) (hn16 : L.body.length ≤ 16) :
    Calls Try.prog 52 #[.agg #[v0, .slice (some ⟨b, off, none⟩) L.body.length cap, v2], .agg #[.int .i64 p0, .int .i64 p1, .int .i64 p2, .int .i64 q0, .int .i64 q1, .int .i64 q2, .int .i64 r]] w fun e w' => ∃ ev, e = .returned ev ∧ w'.ownsRow (w.heap.size + 1 + 1) 68 4 ev (refE L ⟨p0, p1, p2, q0, q1, q2, r⟩ L.body.length).length (flatE (refE L ⟨p0, p1, p2, q0, q1, q2, r⟩ L.body.length)) ∧ Below w.heap.size w w' := by
  have HBODY := hide hbody
  have HM := hide hm
  have HWT := hide (fun op W => pwait_seven p0 p1 p2 q0 q1 q2 r op W)
  have HX0 : Hid (((w.alloc (.cells #[v0, .slice (some ⟨b, off, none⟩) L.body.length cap, v2] 25)).alloc (.cells #[.int .i64 p0, .int .i64 p1, .int .i64 p2, .int .i64 q0, .int .i64 q1, .int .i64 q2, .int .i64 r] 28)).heap.size = w.heap.size + 1 + 1) := by show _ = _; simp
  have HST := hide (own_empty4 ((w.alloc (.cells #[v0, .slice (some ⟨b, off, none⟩) L.body.length cap, v2] 25)).alloc (.cells #[.int .i64 p0, .int .i64 p1, .int .i64 p2, .int .i64 q0, .int .i64 q1, .int .i64 q2, .int .i64 r] 28)) 68 (w.heap.size + 1 + 1) (by rw [HX0.out]; omega))
  rw [HX0.out] at HST
  clear hbody hm
  obtain ⟨j0, ji, jz0, jz1, jz2⟩ := info_parts Try.i68
  go_enter Try.func52, Try.ntmps52
  go_wp2_with fail
  go_loopw [5, 16] (fun ov iv wr => ∃ k : Nat, k ≤ L.body.length ∧ iv = .int .i64 k ∧ ∃ oa oc, ov = .slice oa (refE L ⟨p0, p1, p2, q0, q1, q2, r⟩ k).length oc ∧ wr.ownsRow (w.heap.size + 1 + 1) 68 4 (.slice oa (refE L ⟨p0, p1, p2, q0, q1, q2, r⟩ k).length oc) (refE L ⟨p0, p1, p2, q0, q1, q2, r⟩ k).length (flatE (refE L ⟨p0, p1, p2, q0, q1, q2, r⟩ k)) ∧ Below (w.heap.size + 1 + 1) ((w.alloc (.cells #[v0, .slice (some ⟨b, off, none⟩) L.body.length cap, v2] 25)).alloc (.cells #[.int .i64 p0, .int .i64 p1, .int .i64 p2, .int .i64 q0, .int .i64 q1, .int .i64 q2, .int .i64 r] 28)) wr) (fun _ iv _ => L.body.length - (intOf iv).toNat)
  case atStart => exact ⟨0, Nat.zero_le _, rfl, _, _, rfl, HST.out, (Below.refl _ _).alloc (by rw [HX0.out]; omega) _⟩
  case round =>
    obtain ⟨k, hk, rfl, oa, oc, rfl, hown, hbel⟩ := hrel
    have HO := hide hown
    have HB := hide hbel
    obtain ⟨⟨l0, l1, l2⟩, ⟨t0, t1, t2, t3, t4, t5, t6⟩, z0, z1, hbw⟩ := ebox_cells hbel
    have HW := hide hbw
    clear hown hbel hbw
    by_cases hkl : k < L.body.length
    · have hki : (k : Int) < (L.body.length : Int) := by omega
      have hbz : b < wr.heap.size := by have := HW.out.size; omega
      have hz2 : w.heap.size + 1 + 1 ≤ wr.heap.size := by have := HB.out.size; rw [HX0.out] at this; exact this
      obtain ⟨c0, c1, c2, c3, c4, c5, c6, c7, c8⟩ := nine (fun j hj => (bcell HW.out b (off + k * 9 + j) hb).trans (HBODY.out k hkl j hj))
      obtain ⟨hlk, hnl2⟩ := looks_uses (allN_get (may_parts HM.out).2.2.2.2.2.2 k hkl)
      have HUS := hide (fun (rf : Int × Int) (h : rf ∈ usesL (stAt L.body k)) => uses_ok HM.out hkl h)
      have HSK : Hid (∃ sk, stAt L.body k = sk) := ⟨_, rfl⟩
      have HP := hide (fun i (h : i < (usesL (stAt L.body k)).length) => refP_step (L := L) (t := ⟨p0, p1, p2, q0, q1, q2, r⟩) h)
      have HPA := hide (refP_all (L := L) (t := ⟨p0, p1, p2, q0, q1, q2, r⟩) (k := k) (i := (usesL (stAt L.body k)).length) (Nat.le_refl _))
      have HRW := hide (four_row (wr.alloc (.cells #[.int .i64 (stAt L.body k).o, .int .i64 (stAt L.body k).xa, .int .i64 (stAt L.body k).xb, .int .i64 (stAt L.body k).ya, .int .i64 (stAt L.body k).yb, .int .i64 (stAt L.body k).ar, .int .i64 (stAt L.body k).sp, .int .i64 (stAt L.body k).pl, .int .i64 (stAt L.body k).nn] 65)) (.int .i64 (stAt L.body k).xa) (.int .i64 (stAt L.body k).xb) (.int .i64 (stAt L.body k).ya) (.int .i64 (stAt L.body k).yb) 63 (refsF (stAt L.body k)) rfl rfl rfl rfl)
      have ez : (wr.alloc (.cells #[.int .i64 (stAt L.body k).o, .int .i64 (stAt L.body k).xa, .int .i64 (stAt L.body k).xb, .int .i64 (stAt L.body k).ya, .int .i64 (stAt L.body k).yb, .int .i64 (stAt L.body k).ar, .int .i64 (stAt L.body k).sp, .int .i64 (stAt L.body k).pl, .int .i64 (stAt L.body k).nn] 65)).heap.size = wr.heap.size + 1 := by simp
      rw [ez] at HRW
      generalize hxk : stAt L.body k = xk at *
      have HXK := hide hxk
      clear hxk HSK ez
      obtain ⟨o, xa, xb, ya, yb, ar, sp, pl, nn⟩ := xk
      generalize hus : usesL ⟨o, xa, xb, ya, yb, ar, sp, pl, nn⟩ = us at *
      have HUSQ := hide hus
      clear hus
      simp only at c0 c1 c2 c3 c4 c5 c6 c7 c8 HRW hlk
      go_wp2_with (go_at_call 68; refine (looks_any _ _).mono ?_; rintro e w' ⟨rfl, rfl⟩)
      clear l0 l1 l2 t0 t1 t2 t3 t4 t5 t6 z0 z1 c0 c1 c2 c3 c4 c5 c6 c7 c8
      rename World => wo
      go_loopw [5, 32] (fun ov iv wr => ∃ i : Nat, i ≤ us.length ∧ iv = .int .i64 i ∧ (RowF wr (wo.heap.size + 1) 63 4 (refsF ⟨o, xa, xb, ya, yb, ar, sp, pl, nn⟩)) ∧ ∃ oa oc, ov = .slice oa (catE (refE L ⟨p0, p1, p2, q0, q1, q2, r⟩ k) (refP L ⟨p0, p1, p2, q0, q1, q2, r⟩ k i)).length oc ∧ wr.ownsRow (w.heap.size + 1 + 1) 68 4 (.slice oa (catE (refE L ⟨p0, p1, p2, q0, q1, q2, r⟩ k) (refP L ⟨p0, p1, p2, q0, q1, q2, r⟩ k i)).length oc) (catE (refE L ⟨p0, p1, p2, q0, q1, q2, r⟩ k) (refP L ⟨p0, p1, p2, q0, q1, q2, r⟩ k i)).length (flatE (catE (refE L ⟨p0, p1, p2, q0, q1, q2, r⟩ k) (refP L ⟨p0, p1, p2, q0, q1, q2, r⟩ k i))) ∧ Below (w.heap.size + 1 + 1) ((w.alloc (.cells #[v0, .slice (some ⟨b, off, none⟩) L.body.length cap, v2] 25)).alloc (.cells #[.int .i64 p0, .int .i64 p1, .int .i64 p2, .int .i64 q0, .int .i64 q1, .int .i64 q2, .int .i64 r] 28)) wr) (fun _ iv _ => us.length - (intOf iv).toNat)
      case atStart => exact ⟨0, Nat.zero_le _, rfl, HRW.out, oa, oc, by rw [refP_zero, catE_nil], by rw [refP_zero, catE_nil]; exact own_below HO.out (below_alloc2 _ _ _), HB.out.trans ((below_alloc2 wo _ _).mono hz2)⟩
      case round =>
        clear HO HB HW HRW
        obtain ⟨i, hi, rfl, hrow, oa, oc, rfl, hown, hbel⟩ := hrel
        have HO := hide hown
        have HB := hide hbel
        have HR := hide hrow
        obtain ⟨⟨l0, l1, l2⟩, ⟨t0, t1, t2, t3, t4, t5, t6⟩, z0, z1, hbw⟩ := ebox_cells hbel
        have HW := hide hbw
        have hzq : w.heap.size + 1 + 1 ≤ wr.heap.size := by have := hbel.size; rw [HX0.out] at this; exact this
        have hGz : wo.heap.size + 1 < wr.heap.size := hrow.lt
        by_cases hil : i < us.length
        · have hii : (i : Int) < (us.length : Int) := by omega
          have hi1 : i ≤ 1 := by omega
          have hrf := HUS.out (refAt us i) (by
            unfold refAt
            rw [List.getD_eq_getElem?_getD, List.getElem?_eq_getElem hil]
            exact List.getElem_mem hil)
          have hcc := refs_at hrow (i := i) (by rw [HUSQ.out]; exact hil)
          rw [HUSQ.out] at hcc
          obtain ⟨f0, f1⟩ := hcc
          have HPS := hide (HP.out i hil)
          clear hown hbel hbw hrow
          generalize refAt us i = rf at *
          obtain ⟨ra, rb⟩ := rf
          obtain ⟨u1, u2, u3, u4⟩ := hrf
          simp only at f0 f1 u1 u2 u3 u4
          obtain ⟨rn, rfl⟩ := Int.eq_ofNat_of_zero_le u1
          have hrl : rn < L.body.length := by omega
          have hrli : (rn : Int) < (L.body.length : Int) := by omega
          have hro := ((bcell HW.out b (off + rn * 9) hb).trans ((nine (fun j hj => HBODY.out rn hrl j hj)).1))
          have hbq : b < wr.heap.size := by have := HW.out.size; omega
          rw [show (((rn : Nat) : Int), rb).1.toNat = rn from Int.toNat_natCast _] at HPS
          simp only at HPS
          generalize (stAt L.body rn).o = ro at *
          have HSS : Hid (∀ w' : World, Below (wr.heap.size + 1) (wr.alloc (.cells #[.int .i64 (rn : Int), .int .i64 rb] 63)) w' → w'.cell? ⟨w.heap.size + 1, 0, none⟩ = some (.int .i64 p0) ∧ w'.cell? ⟨w.heap.size + 1, 1, none⟩ = some (.int .i64 p1) ∧ w'.cell? ⟨w.heap.size + 1, 2, none⟩ = some (.int .i64 p2) ∧ w'.cell? ⟨w.heap.size + 1, 3, none⟩ = some (.int .i64 q0) ∧ w'.cell? ⟨w.heap.size + 1, 4, none⟩ = some (.int .i64 q1) ∧ w'.cell? ⟨w.heap.size + 1, 5, none⟩ = some (.int .i64 q2) ∧ w'.cell? ⟨w.heap.size + 1, 6, none⟩ = some (.int .i64 r) ∧ w'.cell? ⟨w.heap.size, 1, none⟩ = some (.slice (some ⟨b, off, none⟩) L.body.length cap) ∧ w'.cell? ⟨wr.heap.size, 0, none⟩ = some (.int .i64 (rn : Int)) ∧ w'.cell? ⟨wr.heap.size, 1, none⟩ = some (.int .i64 rb) ∧ w'.cell? ⟨b, off + rn * 9, none⟩ = some (.int .i64 ro)) := by
            intro w' h
            have e1 : (wr.alloc (.cells #[.int .i64 (rn : Int), .int .i64 rb] 63)).heap.size = wr.heap.size + 1 := by simp
            have h' : Below (wr.alloc (.cells #[.int .i64 (rn : Int), .int .i64 rb] 63)).heap.size (wr.alloc (.cells #[.int .i64 (rn : Int), .int .i64 rb] 63)) w' := by rw [e1]; exact h
            have hz : ∀ g o, g < wr.heap.size → w'.cell? ⟨g, o, none⟩ = wr.cell? ⟨g, o, none⟩ := fun g o hg => by rw [bcell h' _ _ (by omega), bcell (below_alloc1 wr _) _ _ hg]
            rw [hz _ _ z1, hz _ _ z1, hz _ _ z1, hz _ _ z1, hz _ _ z1, hz _ _ z1, hz _ _ z1, hz _ _ z0, hz _ _ hbq]
            refine ⟨t0, t1, t2, t3, t4, t5, t6, l1, ?_, ?_, hro⟩
            · rw [bcell h' _ _ (by omega)]; go_simp
            · rw [bcell h' _ _ (by omega)]; go_simp
          go_wp2_with fail
          clear l0 l1 l2 t0 t1 t2 t3 t4 t5 t6 f0 f1
          refine wp_region_noPanic ?_
          refine region_until 99 (fun w' => w'.cell? ⟨w.heap.size + 1, 0, none⟩ = some (.int .i64 p0) ∧ w'.cell? ⟨w.heap.size + 1, 1, none⟩ = some (.int .i64 p1) ∧ w'.cell? ⟨w.heap.size + 1, 2, none⟩ = some (.int .i64 p2) ∧ w'.cell? ⟨w.heap.size + 1, 3, none⟩ = some (.int .i64 q0) ∧ w'.cell? ⟨w.heap.size + 1, 4, none⟩ = some (.int .i64 q1) ∧ w'.cell? ⟨w.heap.size + 1, 5, none⟩ = some (.int .i64 q2) ∧ w'.cell? ⟨w.heap.size + 1, 6, none⟩ = some (.int .i64 r) ∧ w'.cell? ⟨w.heap.size, 1, none⟩ = some (.slice (some ⟨b, off, none⟩) L.body.length cap) ∧ w'.cell? ⟨wr.heap.size, 0, none⟩ = some (.int .i64 (rn : Int)) ∧ w'.cell? ⟨wr.heap.size, 1, none⟩ = some (.int .i64 rb) ∧ w'.cell? ⟨b, off + rn * 9, none⟩ = some (.int .i64 ro)) (by kernel_rfl) (HSS.out _ (below_drew1 _ _)) (fun hHeld => ?_)
          refine utk (i := 0) rfl hHeld ?_
          try simp only [Act.put, List.setIfInBounds_toArray, List.set_cons_zero, List.set_cons_succ]
          refine utk (i := 1) rfl hHeld ?_
          try simp only [Act.put, List.setIfInBounds_toArray, List.set_cons_zero, List.set_cons_succ]
          refine utk (i := 2) rfl hHeld ?_
          try simp only [Act.put, List.setIfInBounds_toArray, List.set_cons_zero, List.set_cons_succ]
          refine utk (i := 3) rfl hHeld ?_
          try simp only [Act.put, List.setIfInBounds_toArray, List.set_cons_zero, List.set_cons_succ]
          refine utk (i := 4) rfl hHeld ?_
          try simp only [Act.put, List.setIfInBounds_toArray, List.set_cons_zero, List.set_cons_succ]
          refine utk (i := 5) rfl hHeld ?_
          try simp only [Act.put, List.setIfInBounds_toArray, List.set_cons_zero, List.set_cons_succ]
          refine utk (i := 6) rfl hHeld ?_
          try simp only [Act.put, List.setIfInBounds_toArray, List.set_cons_zero, List.set_cons_succ]
          refine utk (i := 7) rfl hHeld ?_
          try simp only [Act.put, List.setIfInBounds_toArray, List.set_cons_zero, List.set_cons_succ]
          refine until_one (i := 8) rfl (by kernel_rfl) (fun K hK9 => ?_)
          go_simp
          refine (HWT.out _ _).mono ?_
          rintro e x2 ⟨rfl, hb9⟩
          have HB9 : Hid (Below (wr.heap.size + 1) (wr.alloc (.cells #[.int .i64 (rn : Int), .int .i64 rb] 63)) x2) := by
            have e1 : (wr.alloc (.cells #[.int .i64 (rn : Int), .int .i64 rb] 63)).heap.size = wr.heap.size + 1 := by simp
            exact (below_drew1 _ _).trans (hb9.mono (by show _ ≤ (wr.alloc (.cells #[.int .i64 (rn : Int), .int .i64 rb] 63)).heap.size; omega))
          have hHeld := HSS.out _ HB9.out
          refine hK9.out _ _ (.inr hHeld) ?_
          clear hK9 K hb9
          try simp only [Act.put, List.setIfInBounds_toArray, List.set_cons_zero, List.set_cons_succ]
          refine utk (i := 9) rfl hHeld ?_
          try simp only [Act.put, List.setIfInBounds_toArray, List.set_cons_zero, List.set_cons_succ]
          refine until_done (by kernel_rfl) ?_ _
          refine NoPanic.normal ?_
          obtain ⟨-, -, -, -, -, -, -, -, g0, g1, -⟩ := hHeld
          have HXB : Hid (Below wr.heap.size wr x2) := (below_alloc1 wr _).trans (HB9.out.mono (by omega))
          have hx2z : wr.heap.size < x2.heap.size := by have := HB9.out.size; simp at this; omega
          have HOX := hide (own_below HO.out HXB.out)
          have HBX := hide (HB.out.trans (HXB.out.mono hzq))
          have HRX := hide ((HR.out.below HXB.out hGz).alloc (.cells #[.int .i64 (rn : Int), .int .i64 (k : Int), .int .i64 rb, .int .i64 (waitT ⟨p0, p1, p2, q0, q1, q2, r⟩ ro)] 68))
          have HLEN : Hid ((catE (refE L ⟨p0, p1, p2, q0, q1, q2, r⟩ k) (refP L ⟨p0, p1, p2, q0, q1, q2, r⟩ k i)).length ≤ 34) := by
            show (catE _ _).length ≤ 34
            have e1 := refE_len L ⟨p0, p1, p2, q0, q1, q2, r⟩ k
            have e2 := refP_len L ⟨p0, p1, p2, q0, q1, q2, r⟩ k i
            rw [catE_len]; omega
          generalize hwt : waitT ⟨p0, p1, p2, q0, q1, q2, r⟩ ro = wt at *
          clear hwt HSS
          go_wp2_with (at_builtin; refine wpList_append_own _ rfl (.tmp 45) (.tmp 53) 56 rfl (w.heap.size + 1 + 1) 68 j0 (.agg #[.int .i64 0, .int .i64 0, .int .i64 0, .int .i64 0]) 4 32 Try.underlying56 ji jz0 jz1 jz2 rfl (by decide) _ _ _ rfl (own_below HOX.out (below_alloc1 _ _)) ⟨x2.heap.size, 0, none⟩ 1 1 (edCells ⟨rn, k, rb, wt⟩) rfl rfl (by exact four_cells _ _ _ _ _ _) (by intro u hu; unfold edCells at hu; simp at hu; rcases hu with rfl | rfl | rfl | rfl <;> rfl) (by unfold maxLen; have := HLEN.out; omega) (by have := HLEN.out; omega) (by simp; omega) ?_; intro v2' w2 hown2 hgrow2 hnil2; obtain ⟨oa2, oc2, rfl, hl1', hl2'⟩ := ownz_shape hown2; have HO2 := hide hown2; have HG2 := hide hgrow2; clear hown2 hgrow2)
          go_roundw
          case rel =>
            have e1 : catE (refE L ⟨p0, p1, p2, q0, q1, q2, r⟩ k) (refP L ⟨p0, p1, p2, q0, q1, q2, r⟩ k i) ++ [⟨rn, k, rb, wt⟩] = catE (refE L ⟨p0, p1, p2, q0, q1, q2, r⟩ k) (refP L ⟨p0, p1, p2, q0, q1, q2, r⟩ k (i + 1)) := by rw [HPS.out]; unfold catE; rw [List.append_assoc]
            have e2 : (catE (refE L ⟨p0, p1, p2, q0, q1, q2, r⟩ k) (refP L ⟨p0, p1, p2, q0, q1, q2, r⟩ k i)).length + 1 = (catE (refE L ⟨p0, p1, p2, q0, q1, q2, r⟩ k) (refP L ⟨p0, p1, p2, q0, q1, q2, r⟩ k (i + 1))).length := by rw [← e1, List.length_append]; rfl
            have h2 := HO2.out
            rw [flatE_snoc, e1, e2] at h2
            exact ⟨i + 1, by omega, by go_num, HRX.out.grown HG2.out (ownz_apart (own_below HOX.out (below_alloc1 _ _)) HRX.out (by decide)), oa2, oc2, by rw [e2], h2, (HBX.out.alloc (by omega) _).grown HG2.out (by simp; omega) (ownz_block_ge HO.out)⟩
          case measure => simp [intOf]; omega
        · have e : i = us.length := by omega
          have hii : ¬ (i : Int) < (us.length : Int) := by omega
          have e1 : catE (refE L ⟨p0, p1, p2, q0, q1, q2, r⟩ k) (refP L ⟨p0, p1, p2, q0, q1, q2, r⟩ k i) = refE L ⟨p0, p1, p2, q0, q1, q2, r⟩ (k + 1) := by rw [e, HPA.out]; rfl
          have HE := hide e1
          clear e1 e hown hbel hbw hrow l0 l1 l2 t0 t1 t2 t3 t4 t5 t6 z0 z1
          go_wp2_with fail
          go_roundw
          case rel => exact ⟨k + 1, by omega, by go_num, oa, oc, by rw [HE.out], by have h := HO.out; rw [HE.out] at h; exact h, HB.out⟩
          case measure => simp [intOf]; omega
    · have e : k = L.body.length := by omega
      have hki : ¬ (k : Int) < (L.body.length : Int) := by omega
      have HE := hide e
      clear e
      go_wp2_with fail
      go_ret
      exact ⟨_, rfl, by have h := HO.out; rw [HE.out] at h ⊢; exact h, HW.out⟩
end Go.Proofs.Ytjoapiafpahihab
/- The contract of package dep's wordEdges: what is at one word keeps its order; nothing that was there is changed. -/
namespace Go.Proofs.Ytjoapiafpahihab
open Go.RowKit Go.Joins
set_option linter.unusedVariables false

theorem lb_cells {w wr : World} {v0 v1 v2 : Value} {ta : TypeId} (h : Below (w.heap.size + 1) (w.alloc (.cells #[v0, v1, v2] ta)) wr) :
    (wr.cell? ⟨w.heap.size, 0, none⟩ = some v0 ∧ wr.cell? ⟨w.heap.size, 1, none⟩ = some v1 ∧ wr.cell? ⟨w.heap.size, 2, none⟩ = some v2) ∧ w.heap.size < wr.heap.size ∧ Below w.heap.size w wr := by
  have hs : (w.alloc (.cells #[v0, v1, v2] ta)).heap.size = w.heap.size + 1 := by simp
  have hz := h.size
  have h' : Below (w.alloc (.cells #[v0, v1, v2] ta)).heap.size (w.alloc (.cells #[v0, v1, v2] ta)) wr := by rw [hs]; exact h
  refine ⟨⟨?_, ?_, ?_⟩, by omega, (below_alloc1 w _).trans (h.mono (by omega))⟩
  all_goals rw [bcell h' _ _ (by omega)]
  all_goals go_simp
theorem least_any (L : Lp) (a0 : Option Addr) (cap0 b off cap : Nat) (v2 : Value) (fr to : Nat) (w : World) (hl0 : L.logs.length ≤ cap0) (hm0 : cap0 ≤ 9223372036854775807) (hl1 : L.body.length ≤ cap) (hm1 : cap ≤ 9223372036854775807) (hb : b < w.heap.size)
    (hbody : ∀ i, i < L.body.length → ∀ j, j < 9 → w.cell? ⟨b, off + i * 9 + j, none⟩ = (stCells (stAt L.body i))[j]?) (hlogs : Ints w (.slice a0 L.logs.length cap0) L.logs) (hm : mayB L = true) (hfr : fr < L.body.length) (hto : to < L.body.length) (hmem : memD (stAt L.body fr) (stAt L.body to) = true) :
    Calls Try.prog 86 #[.agg #[.slice a0 L.logs.length cap0, .slice (some ⟨b, off, none⟩) L.body.length cap, v2], .int .i64 fr, .int .i64 to] w fun e w' => e = .returned (.tuple #[.int .i64 (lbV (lbD (stAt L.body fr) (stAt L.body to) (leastD fr to) (sizeD L (stAt L.body fr)))), .bool (lbB (lbD (stAt L.body fr) (stAt L.body to) (leastD fr to) (sizeD L (stAt L.body fr))))]) ∧ Below w.heap.size w w' := by
  obtain ⟨m1, m2, m3, m4, m5, m6, m7⟩ := may_parts hm
  obtain ⟨hw1, hw2⟩ := memD_words hmem
  obtain ⟨⟨r1, r2⟩, ⟨s1, s2⟩, ⟨t1, t2⟩⟩ := word_range (allN_get m7 fr hfr) hw1
  obtain ⟨-, ⟨u1, u2⟩, ⟨v1, v3⟩⟩ := word_range (allN_get m7 to hto) hw2
  obtain ⟨i, lg, e1, e2, e3, e4, e5, e6, e7⟩ := size_nat m5 r1 r2
  obtain ⟨a, c, hv, h1, h2, h3, h4⟩ := hlogs
  injection hv with q1 q2 q3
  subst q1; subst q3
  obtain ⟨lb, loff, rfl, hlb, hlc⟩ := h4 (by omega)
  have hA := hbody fr hfr
  have hB := hbody to hto
  have hcl := hlc i e2
  rw [e3] at hcl
  have e8 : 2 ^ lg = sizeD L (stAt L.body fr) := by unfold p2 at e5; exact Int.ofNat.inj e5
  clear hbody hlc h3 h4 m5 m6 m7 hmem hw1 hw2 e5 hm
  generalize hZ : sizeD L (stAt L.body fr) = SZ at *
  generalize stAt L.body to = B at *
  generalize stAt L.body fr = A at *
  obtain ⟨o1, xa1, xb1, ya1, yb1, ar1, sp1, pl1, nn1⟩ := A
  obtain ⟨o2, xa2, xb2, ya2, yb2, ar2, sp2, pl2, nn2⟩ := B
  simp only at e1 s1 s2 t1 t2 u1 u2 v1 v3
  subst e1
  exact least_walk v2 v2 fr to i lg L.body.length o1 xa1 xb1 ya1 yb1 sp1 pl1 nn1 o2 xa2 xb2 ya2 yb2 ar2 sp2 pl2 nn2 lb loff cap0 b off cap SZ (leastD fr to) L.logs.length w hfr hto m3 hl1 hm1 e2 hl0 hm0 hb hlb hA hB hcl e4 e8 e7 rfl s1 s2 t1 t2 u1 u2 v1 v3
theorem wordTo_no {L : Lp} {f t : Nat} (h : memD (stAt L.body f) (stAt L.body t) = false) : wordTo L f (t + 1) = wordTo L f t := by
  show wordTo L f t ++ wordB L f t = _
  unfold wordB
  rw [if_neg (by rw [h]; exact Bool.false_ne_true), List.append_nil]
theorem wordTo_none {L : Lp} {f t : Nat} (h : lbD (stAt L.body f) (stAt L.body t) (leastD f t) (sizeD L (stAt L.body f)) = none) : wordTo L f (t + 1) = wordTo L f t := by
  show wordTo L f t ++ wordB L f t = _
  unfold wordB
  rw [h]
  split <;> rw [List.append_nil]
theorem wordTo_some {L : Lp} {f t k : Nat} (hm : memD (stAt L.body f) (stAt L.body t) = true) (h : lbD (stAt L.body f) (stAt L.body t) (leastD f t) (sizeD L (stAt L.body f)) = some k) : wordTo L f (t + 1) = wordTo L f t ++ [⟨f, t, k, waitD (stAt L.body f)⟩] := by
  show wordTo L f t ++ wordB L f t = _
  unfold wordB
  rw [if_pos hm, h]

set_option maxHeartbeats 8000000 in
set_option maxRecDepth 100000 in
theorem wordEdges_walk (L : Lp) (a0 : Option Addr) (cap0 b off cap : Nat) (v2 : Value) (w : World) (hl0 : L.logs.length ≤ cap0) (hm0 : cap0 ≤ 9223372036854775807) (hl1 : L.body.length ≤ cap) (hm1 : cap ≤ 9223372036854775807) (hb : b < w.heap.size)
    (hbody : ∀ i, i < L.body.length → ∀ j, j < 9 → w.cell? ⟨b, off + i * 9 + j, none⟩ = (stCells (stAt L.body i))[j]?) (hlogs : Ints w (.slice a0 L.logs.length cap0) L.logs) (hm : mayB L = true) (hn16 : L.body.length ≤ 16) :
    Calls Try.prog 53 #[.agg #[.slice a0 L.logs.length cap0, .slice (some ⟨b, off, none⟩) L.body.length cap, v2]] w fun e w' => ∃ ev, e = .returned ev ∧ w'.ownsRow (w.heap.size + 1) 68 4 ev (wordE L L.body.length).length (flatE (wordE L L.body.length)) ∧ Below w.heap.size w w' := by
  have HBODY := hide hbody
  have HLOGS := hide hlogs
  have HM := hide hm
  have HX0 : Hid ((w.alloc (.cells #[.slice a0 L.logs.length cap0, .slice (some ⟨b, off, none⟩) L.body.length cap, v2] 25)).heap.size = w.heap.size + 1) := by show _ = _; simp
  have HST := hide (own_empty4 (w.alloc (.cells #[.slice a0 L.logs.length cap0, .slice (some ⟨b, off, none⟩) L.body.length cap, v2] 25)) 68 (w.heap.size + 1) (by rw [HX0.out]; omega))
  rw [HX0.out] at HST
  have HLEAST := hide (fun f t W (hW : Below w.heap.size w W) (h1 : f < L.body.length) (h2 : t < L.body.length) (h3 : memD (stAt L.body f) (stAt L.body t) = true) => least_any L a0 cap0 b off cap v2 f t W hl0 hm0 hl1 hm1 (by have := hW.size; omega) (fun i hi j hj => by rw [bcell hW _ _ hb]; exact HBODY.out i hi j hj) (HLOGS.out.below hW) HM.out h1 h2 h3)
  clear hbody hlogs hm
  obtain ⟨j0, ji, jz0, jz1, jz2⟩ := info_parts Try.i68
  go_enter Try.func53, Try.ntmps53
  go_wp2_with fail
  go_loopw [3, 12] (fun ov iv wr => ∃ f : Nat, f ≤ L.body.length ∧ iv = .int .i64 f ∧ ∃ oa oc, ov = .slice oa (wordE L f).length oc ∧ wr.ownsRow (w.heap.size + 1) 68 4 (.slice oa (wordE L f).length oc) (wordE L f).length (flatE (wordE L f)) ∧ Below (w.heap.size + 1) (w.alloc (.cells #[.slice a0 L.logs.length cap0, .slice (some ⟨b, off, none⟩) L.body.length cap, v2] 25)) wr) (fun _ iv _ => L.body.length - (intOf iv).toNat)
  case atStart => exact ⟨0, Nat.zero_le _, rfl, _, _, rfl, HST.out, (Below.refl _ _).alloc (by rw [HX0.out]; omega) _⟩
  case round =>
    obtain ⟨f, hf, rfl, oa, oc, rfl, hown, hbel⟩ := hrel
    have HO := hide hown
    have HB := hide hbel
    obtain ⟨⟨l0, l1, l2⟩, z0, hbw⟩ := lb_cells hbel
    have HW := hide hbw
    clear hown hbel hbw
    by_cases hfl : f < L.body.length
    · have hfi : (f : Int) < (L.body.length : Int) := by omega
      go_wp2_with fail
      clear l0 l1 l2 z0
      rename World => wo
      go_loopw [3, 18] (fun ov iv wr => ∃ t : Nat, t ≤ L.body.length ∧ iv = .int .i64 t ∧ ∃ oa oc, ov = .slice oa (catE (wordE L f) (wordTo L f t)).length oc ∧ wr.ownsRow (w.heap.size + 1) 68 4 (.slice oa (catE (wordE L f) (wordTo L f t)).length oc) (catE (wordE L f) (wordTo L f t)).length (flatE (catE (wordE L f) (wordTo L f t))) ∧ Below (w.heap.size + 1) (w.alloc (.cells #[.slice a0 L.logs.length cap0, .slice (some ⟨b, off, none⟩) L.body.length cap, v2] 25)) wr) (fun _ iv _ => L.body.length - (intOf iv).toNat)
      case atStart => exact ⟨0, Nat.zero_le _, rfl, oa, oc, by show _ = Value.slice oa (catE (wordE L f) []).length oc; rw [catE_nil], by show wo.ownsRow _ _ _ (.slice oa (catE (wordE L f) []).length oc) (catE (wordE L f) []).length (flatE (catE (wordE L f) [])); rw [catE_nil]; exact HO.out, HB.out⟩
      case round =>
        clear HO HB HW
        obtain ⟨t, ht, rfl, oa, oc, rfl, hown, hbel⟩ := hrel
        have HO := hide hown
        have HB := hide hbel
        obtain ⟨⟨l0, l1, l2⟩, z0, hbw⟩ := lb_cells hbel
        have HW := hide hbw
        have hzq : w.heap.size + 1 ≤ wr.heap.size := by have := hbel.size; rw [HX0.out] at this; exact this
        clear hown hbel hbw
        by_cases htl : t < L.body.length
        · have hti : (t : Int) < (L.body.length : Int) := by omega
          have hbz : b < wr.heap.size := by have := HW.out.size; omega
          have HS2 := hide (And.intro (nine (fun j hj => (bcell HW.out b (off + f * 9 + j) hb).trans (HBODY.out f hfl j hj))) (nine (fun j hj => (bcell HW.out b (off + t * 9 + j) hb).trans (HBODY.out t htl j hj))))
          have HLS := hide (fun W hW h3 => HLEAST.out f t W hW hfl htl h3)
          have HNO := hide (fun h => wordTo_no (L := L) (f := f) (t := t) h)
          have HNN := hide (fun h => wordTo_none (L := L) (f := f) (t := t) h)
          have HSM := hide (fun k hm h => wordTo_some (L := L) (f := f) (t := t) (k := k) hm h)
          have HLE := hide (fun k (h : lbD (stAt L.body f) (stAt L.body t) (leastD f t) (sizeD L (stAt L.body f)) = some k) => Nat.le_trans (lb_le h) (size_le HM.out hfl))
          generalize lbD (stAt L.body f) (stAt L.body t) (leastD f t) (sizeD L (stAt L.body f)) = lbo at *
          generalize stAt L.body t = tt at *
          generalize stAt L.body f = ff at *
          obtain ⟨o1, xa1, xb1, ya1, yb1, ar1, sp1, pl1, nn1⟩ := ff
          obtain ⟨o2, xa2, xb2, ya2, yb2, ar2, sp2, pl2, nn2⟩ := tt
          have HSH := hide (fun W => share_nine o1 xa1 xb1 ya1 yb1 ar1 sp1 pl1 nn1 o2 xa2 xb2 ya2 yb2 ar2 sp2 pl2 nn2 W)
          have HWW := hide (fun W => wordWait_nine o1 xa1 xb1 ya1 yb1 ar1 sp1 pl1 nn1 W)
          generalize memD ⟨o1, xa1, xb1, ya1, yb1, ar1, sp1, pl1, nn1⟩ ⟨o2, xa2, xb2, ya2, yb2, ar2, sp2, pl2, nn2⟩ = mb at *
          generalize waitD ⟨o1, xa1, xb1, ya1, yb1, ar1, sp1, pl1, nn1⟩ = wt at *
          have HSS : Hid (∀ w' : World, Below wr.heap.size wr w' → w'.cell? ⟨w.heap.size, 1, none⟩ = some (.slice (some ⟨b, off, none⟩) L.body.length cap) ∧ (w'.cell? ⟨b, off + f * 9, none⟩ = some (.int .i64 o1) ∧ w'.cell? ⟨b, off + f * 9 + 1, none⟩ = some (.int .i64 xa1) ∧ w'.cell? ⟨b, off + f * 9 + 2, none⟩ = some (.int .i64 xb1) ∧ w'.cell? ⟨b, off + f * 9 + 3, none⟩ = some (.int .i64 ya1) ∧ w'.cell? ⟨b, off + f * 9 + 4, none⟩ = some (.int .i64 yb1) ∧ w'.cell? ⟨b, off + f * 9 + 5, none⟩ = some (.int .i64 ar1) ∧ w'.cell? ⟨b, off + f * 9 + 6, none⟩ = some (.int .i64 sp1) ∧ w'.cell? ⟨b, off + f * 9 + 7, none⟩ = some (.int .i64 pl1) ∧ w'.cell? ⟨b, off + f * 9 + 8, none⟩ = some (.int .i64 nn1)) ∧ (w'.cell? ⟨b, off + t * 9, none⟩ = some (.int .i64 o2) ∧ w'.cell? ⟨b, off + t * 9 + 1, none⟩ = some (.int .i64 xa2) ∧ w'.cell? ⟨b, off + t * 9 + 2, none⟩ = some (.int .i64 xb2) ∧ w'.cell? ⟨b, off + t * 9 + 3, none⟩ = some (.int .i64 ya2) ∧ w'.cell? ⟨b, off + t * 9 + 4, none⟩ = some (.int .i64 yb2) ∧ w'.cell? ⟨b, off + t * 9 + 5, none⟩ = some (.int .i64 ar2) ∧ w'.cell? ⟨b, off + t * 9 + 6, none⟩ = some (.int .i64 sp2) ∧ w'.cell? ⟨b, off + t * 9 + 7, none⟩ = some (.int .i64 pl2) ∧ w'.cell? ⟨b, off + t * 9 + 8, none⟩ = some (.int .i64 nn2))) := by
            intro w' h
            have hz : ∀ g o, g < wr.heap.size → w'.cell? ⟨g, o, none⟩ = wr.cell? ⟨g, o, none⟩ := fun g o hg => bcell h g o hg
            simp only [hz _ _ hbz, hz _ _ z0]
            exact ⟨l1, HS2.out.1, HS2.out.2⟩
          go_wp2_with fail
          clear l0 l1 l2
          refine wp_region_noPanic ?_
          refine region_until 99 (fun w' => w'.cell? ⟨w.heap.size, 1, none⟩ = some (.slice (some ⟨b, off, none⟩) L.body.length cap) ∧ (w'.cell? ⟨b, off + f * 9, none⟩ = some (.int .i64 o1) ∧ w'.cell? ⟨b, off + f * 9 + 1, none⟩ = some (.int .i64 xa1) ∧ w'.cell? ⟨b, off + f * 9 + 2, none⟩ = some (.int .i64 xb1) ∧ w'.cell? ⟨b, off + f * 9 + 3, none⟩ = some (.int .i64 ya1) ∧ w'.cell? ⟨b, off + f * 9 + 4, none⟩ = some (.int .i64 yb1) ∧ w'.cell? ⟨b, off + f * 9 + 5, none⟩ = some (.int .i64 ar1) ∧ w'.cell? ⟨b, off + f * 9 + 6, none⟩ = some (.int .i64 sp1) ∧ w'.cell? ⟨b, off + f * 9 + 7, none⟩ = some (.int .i64 pl1) ∧ w'.cell? ⟨b, off + f * 9 + 8, none⟩ = some (.int .i64 nn1)) ∧ (w'.cell? ⟨b, off + t * 9, none⟩ = some (.int .i64 o2) ∧ w'.cell? ⟨b, off + t * 9 + 1, none⟩ = some (.int .i64 xa2) ∧ w'.cell? ⟨b, off + t * 9 + 2, none⟩ = some (.int .i64 xb2) ∧ w'.cell? ⟨b, off + t * 9 + 3, none⟩ = some (.int .i64 ya2) ∧ w'.cell? ⟨b, off + t * 9 + 4, none⟩ = some (.int .i64 yb2) ∧ w'.cell? ⟨b, off + t * 9 + 5, none⟩ = some (.int .i64 ar2) ∧ w'.cell? ⟨b, off + t * 9 + 6, none⟩ = some (.int .i64 sp2) ∧ w'.cell? ⟨b, off + t * 9 + 7, none⟩ = some (.int .i64 pl2) ∧ w'.cell? ⟨b, off + t * 9 + 8, none⟩ = some (.int .i64 nn2))) (by kernel_rfl) (HSS.out _ (below_drew1 _ _)) (fun hHeld => ?_)
          refine utk (i := 0) rfl hHeld ?_
          try simp only [Act.put, List.setIfInBounds_toArray, List.set_cons_zero, List.set_cons_succ]
          refine utk (i := 1) rfl hHeld ?_
          try simp only [Act.put, List.setIfInBounds_toArray, List.set_cons_zero, List.set_cons_succ]
          refine utk (i := 2) rfl hHeld ?_
          try simp only [Act.put, List.setIfInBounds_toArray, List.set_cons_zero, List.set_cons_succ]
          refine utk (i := 3) rfl hHeld ?_
          try simp only [Act.put, List.setIfInBounds_toArray, List.set_cons_zero, List.set_cons_succ]
          refine utk (i := 4) rfl hHeld ?_
          try simp only [Act.put, List.setIfInBounds_toArray, List.set_cons_zero, List.set_cons_succ]
          refine utk (i := 5) rfl hHeld ?_
          try simp only [Act.put, List.setIfInBounds_toArray, List.set_cons_zero, List.set_cons_succ]
          refine utk (i := 6) rfl hHeld ?_
          try simp only [Act.put, List.setIfInBounds_toArray, List.set_cons_zero, List.set_cons_succ]
          refine utk (i := 7) rfl hHeld ?_
          try simp only [Act.put, List.setIfInBounds_toArray, List.set_cons_zero, List.set_cons_succ]
          refine utk (i := 8) rfl hHeld ?_
          try simp only [Act.put, List.setIfInBounds_toArray, List.set_cons_zero, List.set_cons_succ]
          refine utk (i := 9) rfl hHeld ?_
          try simp only [Act.put, List.setIfInBounds_toArray, List.set_cons_zero, List.set_cons_succ]
          refine until_one (i := 10) rfl (by kernel_rfl) (fun K hK9 => ?_)
          go_simp
          refine (HSH.out _).mono ?_
          rintro e x2 ⟨rfl, hb9⟩
          have HB9 : Hid (Below wr.heap.size wr x2) := (below_drew1 _ _).trans hb9
          have hHeld := HSS.out _ HB9.out
          refine hK9.out _ _ (.inr hHeld) ?_
          clear hK9 K hb9
          try simp only [Act.put, List.setIfInBounds_toArray, List.set_cons_zero, List.set_cons_succ]
          refine utk (i := 11) rfl hHeld ?_
          try simp only [Act.put, List.setIfInBounds_toArray, List.set_cons_zero, List.set_cons_succ]
          refine until_done (by kernel_rfl) ?_ _
          refine NoPanic.normal ?_
          clear hHeld
          have HOX := hide (own_below HO.out HB9.out)
          have HBX := hide (HB.out.trans (HB9.out.mono hzq))
          cases mb with
          | false =>
            have e1 := HNO.out rfl
            have HE := hide e1
            clear e1
            go_wp2_with fail
            go_roundw
            case rel => exact ⟨t + 1, by omega, by go_num, oa, oc, by rw [HE.out], by rw [HE.out]; exact HOX.out, HBX.out⟩
            case measure => simp [intOf]; omega
          | true =>
            clear z0
            obtain ⟨⟨l0, l1, l2⟩, z0, hbw⟩ := lb_cells HBX.out
            have HWX := hide hbw
            have HLC := hide (HLS.out x2 hbw rfl)
            clear hbw
            cases lbo with
            | none =>
              have e1 := HNN.out rfl
              have HE := hide e1
              clear e1
              go_wp2_with fail
              refine HLC.out.mono ?_
              rintro e x3 ⟨he3, hb3⟩
              have he4 : e = .returned (.tuple #[.int .i64 0, .bool false]) := he3
              subst he4
              clear he3
              have HOY := hide (own_below HOX.out hb3)
              have HBY := hide (HBX.out.trans (hb3.mono (by have := HB9.out.size; omega)))
              clear hb3 l0 l1 l2 z0
              go_wp2_with fail
              go_roundw
              case rel => exact ⟨t + 1, by omega, by go_num, oa, oc, by rw [HE.out], by rw [HE.out]; exact HOY.out, HBY.out⟩
              case measure => simp [intOf]; omega
            | some k =>
              have HE := hide (HSM.out k rfl rfl)
              have hk32 := HLE.out k rfl
              go_wp2_with fail
              refine HLC.out.mono ?_
              rintro e x3 ⟨he3, hb3⟩
              have he4 : e = .returned (.tuple #[.int .i64 k, .bool true]) := he3
              subst he4
              clear he3
              have HOY := hide (own_below HOX.out hb3)
              have HBY := hide (HBX.out.trans (hb3.mono (by have := HB9.out.size; omega)))
              have HB3 : Hid (Below wr.heap.size wr x3) := HB9.out.trans (hb3.mono HB9.out.size)
              clear hb3 l0 l1 l2 z0
              obtain ⟨⟨l0, l1, l2⟩, z0, hbw⟩ := lb_cells HBY.out
              obtain ⟨-, ⟨c0, c1, c2, c3, c4, c5, c6, c7, c8⟩, -⟩ := HSS.out _ HB3.out
              have hbz3 : b < x3.heap.size := by have := HB3.out.size; omega
              have hzy : w.heap.size + 1 ≤ x3.heap.size := by have := HB3.out.size; omega
              have HOA := hide (own_below HOY.out (below_alloc1 x3 (.cells #[.int .i64 o1, .int .i64 xa1, .int .i64 xb1, .int .i64 ya1, .int .i64 yb1, .int .i64 ar1, .int .i64 sp1, .int .i64 pl1, .int .i64 nn1] 65)))
              have HBA := hide (HBY.out.alloc hzy (.cells #[.int .i64 o1, .int .i64 xa1, .int .i64 xb1, .int .i64 ya1, .int .i64 yb1, .int .i64 ar1, .int .i64 sp1, .int .i64 pl1, .int .i64 nn1] 65))
              have HLEN : Hid ((catE (wordE L f) (wordTo L f t)).length ≤ 300) := by
                show (catE _ _).length ≤ 300
                have e1 := wordE_len L f hn16
                have e2 := wordTo_len L f t
                rw [catE_len]; omega
              clear hbw
              go_wp2_with fail
              refine (HWW.out _).mono ?_
              rintro e x4 ⟨rfl, rfl⟩
              have hx4 : (x3.alloc (.cells #[.int .i64 o1, .int .i64 xa1, .int .i64 xb1, .int .i64 ya1, .int .i64 yb1, .int .i64 ar1, .int .i64 sp1, .int .i64 pl1, .int .i64 nn1] 65)).heap.size = x3.heap.size + 1 := by simp
              have HX4 := hide hx4
              have HF4 := hide (four_cells (x3.alloc (.cells #[.int .i64 o1, .int .i64 xa1, .int .i64 xb1, .int .i64 ya1, .int .i64 yb1, .int .i64 ar1, .int .i64 sp1, .int .i64 pl1, .int .i64 nn1] 65)) (.int .i64 (f : Int)) (.int .i64 (t : Int)) (.int .i64 (k : Int)) (.int .i64 wt) 68)
              rw [hx4] at HF4
              clear hx4
              go_wp2_with (at_builtin; refine wpList_append_own _ rfl (.tmp 41) (.tmp 52) 56 rfl (w.heap.size + 1) 68 j0 (.agg #[.int .i64 0, .int .i64 0, .int .i64 0, .int .i64 0]) 4 32 Try.underlying56 ji jz0 jz1 jz2 rfl (by decide) _ _ _ rfl (own_below HOA.out (below_alloc1 _ _)) ⟨x3.heap.size + 1, 0, none⟩ 1 1 (edCells ⟨f, t, k, wt⟩) rfl rfl (by exact HF4.out) (by intro u hu; unfold edCells at hu; simp at hu; rcases hu with rfl | rfl | rfl | rfl <;> rfl) (by unfold maxLen; have := HLEN.out; omega) (by have := HLEN.out; omega) (by simp; omega) ?_; intro v2' w2 hown2 hgrow2 hnil2; obtain ⟨oa2, oc2, rfl, hl1', hl2'⟩ := ownz_shape hown2; have HO2 := hide hown2; have HG2 := hide hgrow2; clear hown2 hgrow2)
              go_roundw
              case rel =>
                have e1 : catE (wordE L f) (wordTo L f t) ++ [⟨f, t, k, wt⟩] = catE (wordE L f) (wordTo L f (t + 1)) := by rw [HE.out]; unfold catE; rw [List.append_assoc]
                have e2 : (catE (wordE L f) (wordTo L f t)).length + 1 = (catE (wordE L f) (wordTo L f (t + 1))).length := by rw [← e1, List.length_append]; rfl
                have h2 := HO2.out
                rw [flatE_snoc, e1, e2] at h2
                exact ⟨t + 1, by omega, by go_num, oa2, oc2, by rw [e2], h2, (HBA.out.alloc (by rw [HX4.out]; omega) _).grown HG2.out (by simp; omega) (ownz_block_ge HO.out)⟩
              case measure => simp [intOf]; omega
        · have e : t = L.body.length := by omega
          have hti : ¬ (t : Int) < (L.body.length : Int) := by omega
          have e1 : catE (wordE L f) (wordTo L f t) = wordE L (f + 1) := by rw [e]; rfl
          have HE := hide e1
          clear e1 e l0 l1 l2 z0
          go_wp2_with fail
          go_roundw
          case rel => exact ⟨f + 1, by omega, by go_num, oa, oc, by rw [HE.out], by have h := HO.out; rw [HE.out] at h; exact h, HB.out⟩
          case measure => simp [intOf]; omega
    · have e : f = L.body.length := by omega
      have hfi : ¬ (f : Int) < (L.body.length : Int) := by omega
      have HE := hide e
      clear e
      go_wp2_with fail
      go_ret
      exact ⟨_, rfl, by have h := HO.out; rw [HE.out] at h ⊢; exact h, HW.out⟩
end Go.Proofs.Ytjoapiafpahihab
