/- Package emit's nameReads: the names of the registers of what a statement looks at are put into its Op; nothing else of what was there is changed. -/
import Derived.Test.YtkpkpaobhnhgpabRef11Math
import Derived.Test.YtkpkpaobhnhgpabEmitSmall
import Derived.Test.YtkpkpaobhnhgpabDepRefs
namespace Go.Proofs.Ytkpkpaobhnhgpab
open Go.RowKit Go.Joins
set_option linter.unusedVariables false
set_option linter.unusedSimpArgs false
set_option maxRecDepth 8192
variable {L : Lp} {t : Tg} {P : Int} {T D : List Int}
theorem EmJ.set {x1 wr : World} {g lc i j : Nat} (h : EmJ L t P T D x1 g lc i j wr) (hi : i < L.body.length) (hj2 : j < 2) : EmJ L t P T D x1 g lc i (j + 1) (wr.setCell ⟨g, i * 10 + 4 + j, none⟩ (.int .i64 (nameE L t P T D i j))) := by
  obtain rfl | rfl : j = 0 ∨ j = 1 := by omega
  · exact h.setA hi
  · exact h.setB hi (by omega) (by omega)
/-- two rows: pointers to the names, and the Refs -/
structure TwoR (a b : Array Value) (n : Nat) (wr : World) : Prop where
  nm : wr.heap[n]? = some (.cells a 142 (0, 0))
  rf : wr.heap[n + 1]? = some (.cells b 143 (0, 0))
theorem TwoR.below {a b : Array Value} {n : Nat} {w w' : World} (h : TwoR a b n w) (hb : Below w.heap.size w w') : TwoR a b n w' :=
  ⟨(hb.block _ (Array.getElem?_eq_some_iff.1 h.nm).1).trans h.nm, (hb.block _ (Array.getElem?_eq_some_iff.1 h.rf).1).trans h.rf⟩
theorem TwoR.set {a b : Array Value} {n g k : Nat} {w : World} (h : TwoR a b n w) (hg : g < n) (v : Value) : TwoR a b n (w.setCell ⟨g, k, none⟩ v) :=
  ⟨by rw [Below.heap_setCell _ _ _ _ (show n ≠ g by omega)]; exact h.nm, by rw [Below.heap_setCell _ _ _ _ (show n + 1 ≠ g by omega)]; exact h.rf⟩
theorem ptr_at {x : World} {n g k j : Nat} (h : x.heap[n]? = some (.cells #[.pointer (some ⟨g, k + 4, none⟩), .pointer (some ⟨g, k + 5, none⟩)] 142 (0, 0))) (hj : j < 2) : x.cell? ⟨n, j, none⟩ = some (.pointer (some ⟨g, k + 4 + j, none⟩)) := by
  obtain rfl | rfl : j = 0 ∨ j = 1 := by omega
  · rw [cell_of_block h]; rfl
  · rw [cell_of_block h]; rfl
theorem ref_row {x : World} {n : Nat} {o xa xb ya yb ar sp pl nn : Int} (h : x.heap[n]? = some (.cells #[.int .i64 xa, .int .i64 xb, .int .i64 ya, .int .i64 yb] 143 (0, 0))) : RowF x n 143 4 (refsF ⟨o, xa, xb, ya, yb, ar, sp, pl, nn⟩) :=
  ⟨_, h, by simp, fun i hi => by
    have : i = 0 ∨ i = 1 ∨ i = 2 ∨ i = 3 := by omega
    rcases this with rfl | rfl | rfl | rfl <;> rfl⟩
set_option maxHeartbeats 8000000 in
theorem nameReads_any (p0 p1 p2 q0 q1 q2 r : Int) (L : Lp) (P : Int) (T D : List Int) (x1 : World) (g lc i : Nat) (o xa xb ya yb ar sp pl nn : Int) (w : World) (hleg : legalD L ⟨p0, p1, p2, q0, q1, q2, r⟩ P T = true) (hdo : destsOk L ⟨p0, p1, p2, q0, q1, q2, r⟩ D = true) (hst : stAt L.body i = ⟨o, xa, xb, ya, yb, ar, sp, pl, nn⟩) (hil : i < L.body.length) (hc1 : L.body.length ≤ lc) (hc2 : lc ≤ 9223372036854775807) (hj : EmJ L ⟨p0, p1, p2, q0, q1, q2, r⟩ P T D x1 g lc i 0 w) :
    Calls Try.prog 42 #[.slice (some ⟨g, 0, none⟩) L.body.length lc, .int .i64 i, .agg #[.int .i64 o, .int .i64 xa, .int .i64 xb, .int .i64 ya, .int .i64 yb, .int .i64 ar, .int .i64 sp, .int .i64 pl, .int .i64 nn], .int .i64 r] w fun e w' => e = .returned (.tuple #[]) ∧ EmJ L ⟨p0, p1, p2, q0, q1, q2, r⟩ P T D x1 g lc (i + 1) 0 w' := by
  obtain ⟨hm, hmt, hP1, hP2, hTn, htl, -⟩ := legal_parts hleg
  have hr : 1 ≤ r ∧ r ≤ 128 := by obtain ⟨-, -, -, h4, h5⟩ := mayT_parts hmt; exact ⟨h4, h5⟩
  obtain ⟨hr1, hr2⟩ := hr
  obtain ⟨-, hl1, hl16, -⟩ := may_parts hm
  have HSG : Hid (∀ s, s < L.body.length → 0 ≤ nth T s / P ∧ nth T s / P ≤ 1000) := fun s hs => by
    have h := allN_get htl s (by omega)
    unfold timeL at h
    simp only [Bool.and_eq_true] at h
    have h2 := inR_iff.1 h.1
    exact ⟨Int.ediv_nonneg h2.1 (by omega), Int.le_trans (Int.ediv_le_self _ h2.1) h2.2⟩
  have HD : Hid (∀ s, s < L.body.length → 0 ≤ nth D s ∧ nth D s ≤ 128) := fun s hs => by
    unfold destsOk at hdo
    rw [Bool.and_eq_true] at hdo
    have h2 := inR_iff.1 (allN_get hdo.2 s hs)
    exact ⟨h2.1, by have := h2.2; dsimp only at this; omega⟩
  have HUS := hide (fun (rf : Int × Int) (h : rf ∈ usesL (stAt L.body i)) => uses_ok hm hil h)
  have hlk0 := looks_uses (allN_get (may_parts hm).2.2.2.2.2.2 i hil)
  have HNX := hide (fun (y : World) (h : EmJ L ⟨p0, p1, p2, q0, q1, q2, r⟩ P T D x1 g lc i (usesL (stAt L.body i)).length y) => h.next)
  have HNE := hide (fun j => show nameE L ⟨p0, p1, p2, q0, q1, q2, r⟩ P T D i j = (nth D (refAt (usesL (stAt L.body i)) j).1.toNat + nth T (refAt (usesL (stAt L.body i)) j).1.toNat / P - (refAt (usesL (stAt L.body i)) j).2 - nth T i / P) % r from rfl)
  rw [hst] at HUS hlk0 HNX HNE
  obtain ⟨hlk, hus2⟩ := hlk0
  dsimp only at hlk
  obtain ⟨us, hus⟩ : ∃ us, usesL ⟨o, xa, xb, ya, yb, ar, sp, pl, nn⟩ = us := ⟨_, rfl⟩
  rw [hus] at HUS hlk hus2 HNX HNE
  have HUSQ := hide hus
  have hgz : g < w.heap.size := RowF.lt hj.row
  have hgx := hj.gt
  have HJ := hide hj
  clear hus hj hleg hdo hm hmt htl hst
  go_enter Try.func42, Try.ntmps42
  have HJ1 : Hid (EmJ L ⟨p0, p1, p2, q0, q1, q2, r⟩ P T D x1 g lc i 0 (w.alloc (.cells #[.int .i64 o, .int .i64 xa, .int .i64 xb, .int .i64 ya, .int .i64 yb, .int .i64 ar, .int .i64 sp, .int .i64 pl, .int .i64 nn] 78))) := HJ.out.below (below_alloc1 _ _)
  have hz1 : (w.alloc (.cells #[.int .i64 o, .int .i64 xa, .int .i64 xb, .int .i64 ya, .int .i64 yb, .int .i64 ar, .int .i64 sp, .int .i64 pl, .int .i64 nn] 78)).heap.size = w.heap.size + 1 := by simp
  have HZ1 := hide hz1
  have k1 : (w.alloc (.cells #[.int .i64 o, .int .i64 xa, .int .i64 xb, .int .i64 ya, .int .i64 yb, .int .i64 ar, .int .i64 sp, .int .i64 pl, .int .i64 nn] 78)).heap[w.heap.size]? = some (.cells #[.int .i64 o, .int .i64 xa, .int .i64 xb, .int .i64 ya, .int .i64 yb, .int .i64 ar, .int .i64 sp, .int .i64 pl, .int .i64 nn] 78 (0, 0)) := new_blkS _ _ _
  have HK1 := hide k1
  clear hz1 k1
  have hii : (i : Int) < (L.body.length : Int) := by omega
  go_wp2_with fail
  refine wp_region_noPanic ?_
  refine region_until 8 (fun w' => True) (by kernel_rfl) trivial (fun hHeld => ?_)
  refine until_take (i := 0) (v := ?_) rfl (by kernel_rfl) (by kernel_rfl) (by kernel_rfl) (by kernel_rfl) (fun _ _ _ h => h) (Or.inl ⟨by rfl, ?_⟩) hHeld ?_
  rotate_left
  · intro w hSw
    try dsimp only at hSw
    go_simp
    try with_reducible rfl
  try simp only [Act.put, List.setIfInBounds_toArray, List.set_cons_zero, List.set_cons_succ]
  refine until_take (i := 1) (v := ?_) rfl (by kernel_rfl) (by kernel_rfl) (by kernel_rfl) (by kernel_rfl) (fun _ _ _ h => h) (Or.inl ⟨by rfl, ?_⟩) hHeld ?_
  rotate_left
  · intro w hSw
    try dsimp only at hSw
    go_simp
    try with_reducible rfl
  try simp only [Act.put, List.setIfInBounds_toArray, List.set_cons_zero, List.set_cons_succ]
  refine until_take (i := 2) (v := ?_) rfl (by kernel_rfl) (by kernel_rfl) (by kernel_rfl) (by kernel_rfl) (fun _ _ _ h => h) (Or.inl ⟨by rfl, ?_⟩) hHeld ?_
  rotate_left
  · intro w hSw
    try dsimp only at hSw
    go_simp
    try with_reducible rfl
  try simp only [Act.put, List.setIfInBounds_toArray, List.set_cons_zero, List.set_cons_succ]
  refine until_take (i := 3) (v := ?_) rfl (by kernel_rfl) (by kernel_rfl) (by kernel_rfl) (by kernel_rfl) (fun _ _ _ h => h) (Or.inl ⟨by rfl, ?_⟩) hHeld ?_
  rotate_left
  · intro w hSw
    try dsimp only at hSw
    go_simp
    try with_reducible rfl
  try simp only [Act.put, List.setIfInBounds_toArray, List.set_cons_zero, List.set_cons_succ]
  refine until_take (i := 4) (v := ?_) rfl (by kernel_rfl) (by kernel_rfl) (by kernel_rfl) (by kernel_rfl) (fun _ _ _ h => h) (Or.inl ⟨by rfl, ?_⟩) hHeld ?_
  rotate_left
  · intro w hSw
    try dsimp only at hSw
    go_simp
    try with_reducible rfl
  try simp only [Act.put, List.setIfInBounds_toArray, List.set_cons_zero, List.set_cons_succ]
  refine until_take (i := 5) (v := ?_) rfl (by kernel_rfl) (by kernel_rfl) (by kernel_rfl) (by kernel_rfl) (fun _ _ _ h => h) (Or.inl ⟨by rfl, ?_⟩) hHeld ?_
  rotate_left
  · intro w hSw
    try dsimp only at hSw
    go_simp
    try with_reducible rfl
  try simp only [Act.put, List.setIfInBounds_toArray, List.set_cons_zero, List.set_cons_succ]
  refine until_take (i := 6) (v := ?_) rfl (by kernel_rfl) (by kernel_rfl) (by kernel_rfl) (by kernel_rfl) (fun _ _ _ h => h) (Or.inl ⟨by rfl, ?_⟩) hHeld ?_
  rotate_left
  · intro w hSw
    try dsimp only at hSw
    go_simp
    try with_reducible rfl
  try simp only [Act.put, List.setIfInBounds_toArray, List.set_cons_zero, List.set_cons_succ]
  refine until_one (i := 7) rfl (by kernel_rfl) (fun K hK => ?_)
  go_simp
  refine hK.out _ _ (.inr trivial) ?_
  clear hK K
  try simp only [Act.put, List.setIfInBounds_toArray, List.set_cons_zero, List.set_cons_succ]
  refine until_one (i := 8) rfl (by kernel_rfl) (fun K hK => ?_)
  go_simp
  refine hK.out _ _ (.inl rfl) ?_
  clear hK K
  try simp only [Act.put, List.setIfInBounds_toArray, List.set_cons_zero, List.set_cons_succ]
  refine until_done (by kernel_rfl) ?_ _
  refine NoPanic.normal ?_
  have HZ3 : Hid ((((w.alloc (.cells #[.int .i64 o, .int .i64 xa, .int .i64 xb, .int .i64 ya, .int .i64 yb, .int .i64 ar, .int .i64 sp, .int .i64 pl, .int .i64 nn] 78)).alloc (.cells #[.pointer (some ⟨g, i * 10 + 4, none⟩), .pointer (some ⟨g, i * 10 + 5, none⟩)] 142)).alloc (.cells #[.int .i64 xa, .int .i64 xb, .int .i64 ya, .int .i64 yb] 143)).drew.heap.size = w.heap.size + 1 + 1 + 1) := by show (((w.alloc (.cells #[.int .i64 o, .int .i64 xa, .int .i64 xb, .int .i64 ya, .int .i64 yb, .int .i64 ar, .int .i64 sp, .int .i64 pl, .int .i64 nn] 78)).alloc (.cells #[.pointer (some ⟨g, i * 10 + 4, none⟩), .pointer (some ⟨g, i * 10 + 5, none⟩)] 142)).alloc (.cells #[.int .i64 xa, .int .i64 xb, .int .i64 ya, .int .i64 yb] 143)).heap.size = _; simp
  have HB3 : Hid (Below w.heap.size w (((w.alloc (.cells #[.int .i64 o, .int .i64 xa, .int .i64 xb, .int .i64 ya, .int .i64 yb, .int .i64 ar, .int .i64 sp, .int .i64 pl, .int .i64 nn] 78)).alloc (.cells #[.pointer (some ⟨g, i * 10 + 4, none⟩), .pointer (some ⟨g, i * 10 + 5, none⟩)] 142)).alloc (.cells #[.int .i64 xa, .int .i64 xb, .int .i64 ya, .int .i64 yb] 143)).drew) := (below_alloc3 _ _ _ _).drew
  have HT3 : Hid (TwoR #[.pointer (some ⟨g, i * 10 + 4, none⟩), .pointer (some ⟨g, i * 10 + 5, none⟩)] #[.int .i64 xa, .int .i64 xb, .int .i64 ya, .int .i64 yb] (w.heap.size + 1) (((w.alloc (.cells #[.int .i64 o, .int .i64 xa, .int .i64 xb, .int .i64 ya, .int .i64 yb, .int .i64 ar, .int .i64 sp, .int .i64 pl, .int .i64 nn] 78)).alloc (.cells #[.pointer (some ⟨g, i * 10 + 4, none⟩), .pointer (some ⟨g, i * 10 + 5, none⟩)] 142)).alloc (.cells #[.int .i64 xa, .int .i64 xb, .int .i64 ya, .int .i64 yb] 143)).drew) := by
    refine ⟨?_, ?_⟩
    · show (((w.alloc (.cells #[.int .i64 o, .int .i64 xa, .int .i64 xb, .int .i64 ya, .int .i64 yb, .int .i64 ar, .int .i64 sp, .int .i64 pl, .int .i64 nn] 78)).alloc (.cells #[.pointer (some ⟨g, i * 10 + 4, none⟩), .pointer (some ⟨g, i * 10 + 5, none⟩)] 142)).alloc (.cells #[.int .i64 xa, .int .i64 xb, .int .i64 ya, .int .i64 yb] 143)).heap[_]? = _
      rw [Below.heap_alloc _ _ _ (by simp), ← HZ1.out]; exact new_blkS _ _ _
    · show (((w.alloc (.cells #[.int .i64 o, .int .i64 xa, .int .i64 xb, .int .i64 ya, .int .i64 yb, .int .i64 ar, .int .i64 sp, .int .i64 pl, .int .i64 nn] 78)).alloc (.cells #[.pointer (some ⟨g, i * 10 + 4, none⟩), .pointer (some ⟨g, i * 10 + 5, none⟩)] 142)).alloc (.cells #[.int .i64 xa, .int .i64 xb, .int .i64 ya, .int .i64 yb] 143)).heap[_]? = _
      have e : ((w.alloc (.cells #[.int .i64 o, .int .i64 xa, .int .i64 xb, .int .i64 ya, .int .i64 yb, .int .i64 ar, .int .i64 sp, .int .i64 pl, .int .i64 nn] 78)).alloc (.cells #[.pointer (some ⟨g, i * 10 + 4, none⟩), .pointer (some ⟨g, i * 10 + 5, none⟩)] 142)).heap.size = w.heap.size + 1 + 1 := by simp
      rw [← e]; exact new_blkS _ _ _
  clear HK1 HJ1
  go_wp2_with fail
  refine (looks_any o _).mono ?_
  rintro e w' ⟨rfl, hw'⟩
  have hw' := hw'.symm; subst hw'
  rw [hlk]
  go_wp2_with fail
  go_loopw [31] (fun iv wr => ∃ j : Nat, j ≤ us.length ∧ iv = .int .i64 j ∧ EmJ L ⟨p0, p1, p2, q0, q1, q2, r⟩ P T D x1 g lc i j wr ∧ TwoR #[.pointer (some ⟨g, i * 10 + 4, none⟩), .pointer (some ⟨g, i * 10 + 5, none⟩)] #[.int .i64 xa, .int .i64 xb, .int .i64 ya, .int .i64 yb] (w.heap.size + 1) wr) (fun iv _ => us.length - (intOf iv).toNat)
  case atStart => exact ⟨0, Nat.zero_le _, rfl, HJ.out.below HB3.out, HT3.out⟩
  case round =>
    clear HJ HB3 HT3 HZ3
    obtain ⟨j, hjl, rfl, hj, h2⟩ := hrel
    by_cases hjn : j < us.length
    · have hji : (j : Int) < (us.length : Int) := by omega
      have hj2 : j < 2 := by omega
      have hjh : (j : Int) < 2 := by omega
      have HJ := hide hj
      have H2 := hide h2
      have hrf := HUS.out (refAt us j) (by
        unfold refAt
        rw [List.getD_eq_getElem?_getD, List.getElem?_eq_getElem hjn]
        exact List.getElem_mem hjn)
      have hcc := refs_at (ref_row (o := o) (ar := ar) (sp := sp) (pl := pl) (nn := nn) h2.rf) (i := j) (by rw [HUSQ.out]; exact hjn)
      rw [HUSQ.out] at hcc
      obtain ⟨f0, f1⟩ := hcc
      have pn := ptr_at h2.nm hj2
      have HNM := hide (HNE.out j)
      have HST := hide (hj.set hil hj2)
      have hgr : g < wr.heap.size := RowF.lt hj.row
      have hwz : w.heap.size + 1 + 1 < wr.heap.size := (Array.getElem?_eq_some_iff.1 h2.rf).1
      generalize refAt us j = rf at *
      obtain ⟨ra, rb⟩ := rf
      obtain ⟨u1, u2, u3, u4⟩ := hrf
      simp only at f0 f1 u1 u2 u3 u4
      obtain ⟨rn, rfl⟩ := Int.eq_ofNat_of_zero_le u1
      have hrl : rn < L.body.length := by omega
      have hrli : (rn : Int) < (L.body.length : Int) := by omega
      have hnm := HNM.out
      rw [show (((rn : Nat) : Int), rb).1.toNat = rn from Int.toNat_natCast _] at hnm
      simp only at hnm
      obtain ⟨s1, s2⟩ := HSG.out rn hrl
      obtain ⟨d1, d2⟩ := HD.out rn hrl
      obtain ⟨v1, v2⟩ := HSG.out i hil
      have ho := opsJ_same (L := L) (t := ⟨p0, p1, p2, q0, q1, q2, r⟩) (P := P) (T := T) (D := D) i j rn
      have hoi := (opsJ_same (L := L) (t := ⟨p0, p1, p2, q0, q1, q2, r⟩) (P := P) (T := T) (D := D) i j i).1
      obtain ⟨c0, c1, c2, c3, c4, c5, c6, c7, c8, c9⟩ := ten (fun k hk => hj.row.cells hrl k hk)
      have ci := (ten (fun k hk => hj.row.cells hil k hk)).2.1
      rw [hoi] at ci
      obtain ⟨ho1, ho2⟩ := ho
      rw [ho1] at c1
      rw [ho2] at c3
      obtain ⟨si, hsi⟩ : ∃ si, nth T i / P = si := ⟨_, rfl⟩
      obtain ⟨y1, hy1⟩ : ∃ y1, nth T rn / P = y1 := ⟨_, rfl⟩
      obtain ⟨y3, hy3⟩ : ∃ y3, nth D rn = y3 := ⟨_, rfl⟩
      rw [hsi] at ci hnm v1 v2
      rw [hy1] at c1 hnm s1 s2
      rw [hy3] at c3 hnm d1 d2
      have hnm2 : nameE L ⟨p0, p1, p2, q0, q1, q2, r⟩ P T D i j = (y3 + y1 - (rb + si)) % r := by rw [hnm]; congr 1; omega
      have HNM2 := hide hnm2
      clear hnm hnm2 HNM ho1 ho2 hoi hsi hy1 hy3
      generalize (opsJ L ⟨p0, p1, p2, q0, q1, q2, r⟩ P T D i j rn).sl = y0 at c0
      generalize (opsJ L ⟨p0, p1, p2, q0, q1, q2, r⟩ P T D i j rn).o = y2 at c2
      generalize (opsJ L ⟨p0, p1, p2, q0, q1, q2, r⟩ P T D i j rn).a = y4 at c4
      generalize (opsJ L ⟨p0, p1, p2, q0, q1, q2, r⟩ P T D i j rn).b = y5 at c5
      generalize (opsJ L ⟨p0, p1, p2, q0, q1, q2, r⟩ P T D i j rn).ar = y6 at c6
      generalize (opsJ L ⟨p0, p1, p2, q0, q1, q2, r⟩ P T D i j rn).sp = y7 at c7
      generalize (opsJ L ⟨p0, p1, p2, q0, q1, q2, r⟩ P T D i j rn).pl = y8 at c8
      generalize (opsJ L ⟨p0, p1, p2, q0, q1, q2, r⟩ P T D i j rn).nn = y9 at c9
      have HSS : Hid (∀ y : World, Below (wr.heap.size + 1) (wr.alloc (.cells #[.int .i64 (rn : Int), .int .i64 rb] 76)) y → (y.cell? ⟨w.heap.size + 1, j, none⟩ = some (.pointer (some ⟨g, i * 10 + 4 + j, none⟩)) ∧ y.cell? ⟨wr.heap.size, 0, none⟩ = some (.int .i64 (rn : Int)) ∧ y.cell? ⟨wr.heap.size, 1, none⟩ = some (.int .i64 rb) ∧ y.cell? ⟨g, rn * 10, none⟩ = some (.int .i64 y0) ∧ y.cell? ⟨g, rn * 10 + 1, none⟩ = some (.int .i64 y1) ∧ y.cell? ⟨g, rn * 10 + 2, none⟩ = some (.int .i64 y2) ∧ y.cell? ⟨g, rn * 10 + 3, none⟩ = some (.int .i64 y3) ∧ y.cell? ⟨g, rn * 10 + 4, none⟩ = some (.int .i64 y4) ∧ y.cell? ⟨g, rn * 10 + 5, none⟩ = some (.int .i64 y5) ∧ y.cell? ⟨g, rn * 10 + 6, none⟩ = some (.int .i64 y6) ∧ y.cell? ⟨g, rn * 10 + 7, none⟩ = some (.int .i64 y7) ∧ y.cell? ⟨g, rn * 10 + 8, none⟩ = some (.int .i64 y8) ∧ y.cell? ⟨g, rn * 10 + 9, none⟩ = some (.int .i64 y9) ∧ y.cell? ⟨g, i * 10 + 1, none⟩ = some (.int .i64 si))) := by
        intro y h
        have e1 : (wr.alloc (.cells #[.int .i64 (rn : Int), .int .i64 rb] 76)).heap.size = wr.heap.size + 1 := by simp
        have h' : Below (wr.alloc (.cells #[.int .i64 (rn : Int), .int .i64 rb] 76)).heap.size (wr.alloc (.cells #[.int .i64 (rn : Int), .int .i64 rb] 76)) y := by rw [e1]; exact h
        have hz : ∀ q o, q < wr.heap.size → y.cell? ⟨q, o, none⟩ = wr.cell? ⟨q, o, none⟩ := fun q o hq => by rw [bcell h' _ _ (by omega), bcell (below_alloc1 wr _) _ _ hq]
        rw [hz _ _ (show w.heap.size + 1 < wr.heap.size by omega), hz _ _ hgr, hz _ _ hgr, hz _ _ hgr, hz _ _ hgr, hz _ _ hgr, hz _ _ hgr, hz _ _ hgr, hz _ _ hgr, hz _ _ hgr, hz _ _ hgr, hz _ _ hgr]
        refine ⟨pn, ?_, ?_, c0, c1, c2, c3, c4, c5, c6, c7, c8, c9, ci⟩
        · rw [bcell h' _ _ (by omega)]; go_simp
        · rw [bcell h' _ _ (by omega)]; go_simp
      have HRW : Hid (∀ y : World, Below (wr.heap.size + 1) (wr.alloc (.cells #[.int .i64 (rn : Int), .int .i64 rb] 76)) y → Below wr.heap.size wr y) := fun y h => (below_alloc1 wr _).trans (h.mono (Nat.le_succ _))
      have hwsi : wrap64 (rb + si) = rb + si := by unfold wrap64; omega
      have hwsj : IntKind.i64.wrap (rb + si) = rb + si := i64_wrap _ (by omega) (by omega)
      have HNA := hide (fun W => nameAt_any y0 y1 y2 y3 y4 y5 y6 y7 y8 y9 (rb + si) r W s1 s2 d1 d2 (by omega) (by omega) hr1 hr2)
      have HSET : Hid (∀ y : World, Below wr.heap.size wr y → EmJ L ⟨p0, p1, p2, q0, q1, q2, r⟩ P T D x1 g lc i (j + 1) (y.setCell ⟨g, i * 10 + 4 + j, none⟩ (.int .i64 ((y3 + y1 - (rb + si)) % r)))) := fun y h => by rw [← HNM2.out]; exact (HJ.out.below h).set hil hj2
      obtain ⟨nm, hnmq⟩ : ∃ nm, (y3 + y1 - (rb + si)) % r = nm := ⟨_, rfl⟩
      rw [hnmq] at HNA HSET
      have HOLD : Hid (∀ y : World, Below wr.heap.size wr y → (∃ u, y.cell? ⟨g, i * 10 + 4 + j, none⟩ = some (.int .i64 u)) ∧ y.frozen? ⟨g, i * 10 + 4 + j, none⟩ = false) := fun y h => by
        have hq := (HJ.out.below h).row
        refine ⟨?_, RowF.frozen hq _⟩
        obtain ⟨-, -, -, -, e4, e5, -⟩ := ten (fun k hk => hq.cells hil k hk)
        obtain rfl | rfl : j = 0 ∨ j = 1 := by omega
        · exact ⟨_, e4⟩
        · exact ⟨_, e5⟩
      clear hnmq hj h2 c0 c1 c2 c3 c4 c5 c6 c7 c8 c9 ci HNM2
      go_wp2_with fail
      clear f0 f1 pn
      refine wp_region_noPanic ?_
      refine region_until 18 (fun w' => (w'.cell? ⟨w.heap.size + 1, j, none⟩ = some (.pointer (some ⟨g, i * 10 + 4 + j, none⟩)) ∧ w'.cell? ⟨wr.heap.size, 0, none⟩ = some (.int .i64 (rn : Int)) ∧ w'.cell? ⟨wr.heap.size, 1, none⟩ = some (.int .i64 rb) ∧ w'.cell? ⟨g, rn * 10, none⟩ = some (.int .i64 y0) ∧ w'.cell? ⟨g, rn * 10 + 1, none⟩ = some (.int .i64 y1) ∧ w'.cell? ⟨g, rn * 10 + 2, none⟩ = some (.int .i64 y2) ∧ w'.cell? ⟨g, rn * 10 + 3, none⟩ = some (.int .i64 y3) ∧ w'.cell? ⟨g, rn * 10 + 4, none⟩ = some (.int .i64 y4) ∧ w'.cell? ⟨g, rn * 10 + 5, none⟩ = some (.int .i64 y5) ∧ w'.cell? ⟨g, rn * 10 + 6, none⟩ = some (.int .i64 y6) ∧ w'.cell? ⟨g, rn * 10 + 7, none⟩ = some (.int .i64 y7) ∧ w'.cell? ⟨g, rn * 10 + 8, none⟩ = some (.int .i64 y8) ∧ w'.cell? ⟨g, rn * 10 + 9, none⟩ = some (.int .i64 y9) ∧ w'.cell? ⟨g, i * 10 + 1, none⟩ = some (.int .i64 si))) (by kernel_rfl) (HSS.out _ (below_drew1 _ _)) (fun hHeld => ?_)
      refine until_take (i := 0) (v := ?_) rfl (by kernel_rfl) (by kernel_rfl) (by kernel_rfl) (by kernel_rfl) (fun _ _ _ h => h) (Or.inl ⟨by rfl, ?_⟩) hHeld ?_
      rotate_left
      · intro w hSw
        try dsimp only at hSw
        go_simp
        try with_reducible rfl
      try simp only [Act.put, List.setIfInBounds_toArray, List.set_cons_zero, List.set_cons_succ]
      refine until_take (i := 1) (v := ?_) rfl (by kernel_rfl) (by kernel_rfl) (by kernel_rfl) (by kernel_rfl) (fun _ _ _ h => h) (Or.inl ⟨by rfl, ?_⟩) hHeld ?_
      rotate_left
      · intro w hSw
        try dsimp only at hSw
        go_simp
        try with_reducible rfl
      try simp only [Act.put, List.setIfInBounds_toArray, List.set_cons_zero, List.set_cons_succ]
      refine until_take (i := 2) (v := ?_) rfl (by kernel_rfl) (by kernel_rfl) (by kernel_rfl) (by kernel_rfl) (fun _ _ _ h => h) (Or.inl ⟨by rfl, ?_⟩) hHeld ?_
      rotate_left
      · intro w hSw
        try dsimp only at hSw
        go_simp
        try with_reducible rfl
      try simp only [Act.put, List.setIfInBounds_toArray, List.set_cons_zero, List.set_cons_succ]
      refine until_take (i := 3) (v := ?_) rfl (by kernel_rfl) (by kernel_rfl) (by kernel_rfl) (by kernel_rfl) (fun _ _ _ h => h) (Or.inl ⟨by rfl, ?_⟩) hHeld ?_
      rotate_left
      · intro w hSw
        try dsimp only at hSw
        go_simp
        try with_reducible rfl
      try simp only [Act.put, List.setIfInBounds_toArray, List.set_cons_zero, List.set_cons_succ]
      refine until_take (i := 4) (v := ?_) rfl (by kernel_rfl) (by kernel_rfl) (by kernel_rfl) (by kernel_rfl) (fun _ _ _ h => h) (Or.inl ⟨by rfl, ?_⟩) hHeld ?_
      rotate_left
      · intro w hSw
        try dsimp only at hSw
        go_simp
        try with_reducible rfl
      try simp only [Act.put, List.setIfInBounds_toArray, List.set_cons_zero, List.set_cons_succ]
      refine until_take (i := 5) (v := ?_) rfl (by kernel_rfl) (by kernel_rfl) (by kernel_rfl) (by kernel_rfl) (fun _ _ _ h => h) (Or.inl ⟨by rfl, ?_⟩) hHeld ?_
      rotate_left
      · intro w hSw
        try dsimp only at hSw
        go_simp
        try with_reducible rfl
      try simp only [Act.put, List.setIfInBounds_toArray, List.set_cons_zero, List.set_cons_succ]
      refine until_take (i := 6) (v := ?_) rfl (by kernel_rfl) (by kernel_rfl) (by kernel_rfl) (by kernel_rfl) (fun _ _ _ h => h) (Or.inl ⟨by rfl, ?_⟩) hHeld ?_
      rotate_left
      · intro w hSw
        try dsimp only at hSw
        go_simp
        try with_reducible rfl
      try simp only [Act.put, List.setIfInBounds_toArray, List.set_cons_zero, List.set_cons_succ]
      refine until_take (i := 7) (v := ?_) rfl (by kernel_rfl) (by kernel_rfl) (by kernel_rfl) (by kernel_rfl) (fun _ _ _ h => h) (Or.inl ⟨by rfl, ?_⟩) hHeld ?_
      rotate_left
      · intro w hSw
        try dsimp only at hSw
        go_simp
        try with_reducible rfl
      try simp only [Act.put, List.setIfInBounds_toArray, List.set_cons_zero, List.set_cons_succ]
      refine until_take (i := 8) (v := ?_) rfl (by kernel_rfl) (by kernel_rfl) (by kernel_rfl) (by kernel_rfl) (fun _ _ _ h => h) (Or.inl ⟨by rfl, ?_⟩) hHeld ?_
      rotate_left
      · intro w hSw
        try dsimp only at hSw
        go_simp
        try with_reducible rfl
      try simp only [Act.put, List.setIfInBounds_toArray, List.set_cons_zero, List.set_cons_succ]
      refine until_take (i := 9) (v := ?_) rfl (by kernel_rfl) (by kernel_rfl) (by kernel_rfl) (by kernel_rfl) (fun _ _ _ h => h) (Or.inl ⟨by rfl, ?_⟩) hHeld ?_
      rotate_left
      · intro w hSw
        try dsimp only at hSw
        go_simp
        try with_reducible rfl
      try simp only [Act.put, List.setIfInBounds_toArray, List.set_cons_zero, List.set_cons_succ]
      refine until_take (i := 10) (v := ?_) rfl (by kernel_rfl) (by kernel_rfl) (by kernel_rfl) (by kernel_rfl) (fun _ _ _ h => h) (Or.inl ⟨by rfl, ?_⟩) hHeld ?_
      rotate_left
      · intro w hSw
        try dsimp only at hSw
        go_simp
        try with_reducible rfl
      try simp only [Act.put, List.setIfInBounds_toArray, List.set_cons_zero, List.set_cons_succ]
      refine until_take (i := 11) (v := ?_) rfl (by kernel_rfl) (by kernel_rfl) (by kernel_rfl) (by kernel_rfl) (fun _ _ _ h => h) (Or.inl ⟨by rfl, ?_⟩) hHeld ?_
      rotate_left
      · intro w hSw
        try dsimp only at hSw
        go_simp
        try with_reducible rfl
      try simp only [Act.put, List.setIfInBounds_toArray, List.set_cons_zero, List.set_cons_succ]
      refine until_take (i := 12) (v := ?_) rfl (by kernel_rfl) (by kernel_rfl) (by kernel_rfl) (by kernel_rfl) (fun _ _ _ h => h) (Or.inl ⟨by rfl, ?_⟩) hHeld ?_
      rotate_left
      · intro w hSw
        try dsimp only at hSw
        go_simp
        try with_reducible rfl
      try simp only [Act.put, List.setIfInBounds_toArray, List.set_cons_zero, List.set_cons_succ]
      refine until_take (i := 13) (v := ?_) rfl (by kernel_rfl) (by kernel_rfl) (by kernel_rfl) (by kernel_rfl) (fun _ _ _ h => h) (Or.inl ⟨by rfl, ?_⟩) hHeld ?_
      rotate_left
      · intro w hSw
        try dsimp only at hSw
        go_simp
        try with_reducible rfl
      try simp only [Act.put, List.setIfInBounds_toArray, List.set_cons_zero, List.set_cons_succ]
      refine until_take (i := 14) (v := ?_) rfl (by kernel_rfl) (by kernel_rfl) (by kernel_rfl) (by kernel_rfl) (fun _ _ _ h => h) (Or.inl ⟨by rfl, ?_⟩) hHeld ?_
      rotate_left
      · intro w hSw
        try dsimp only at hSw
        go_simp
        try with_reducible rfl
      try simp only [Act.put, List.setIfInBounds_toArray, List.set_cons_zero, List.set_cons_succ]
      refine until_take (i := 15) (v := ?_) rfl (by kernel_rfl) (by kernel_rfl) (by kernel_rfl) (by kernel_rfl) (fun _ _ _ h => h) (Or.inl ⟨by rfl, ?_⟩) hHeld ?_
      rotate_left
      · intro w hSw
        try dsimp only at hSw
        go_simp
        try with_reducible rfl
      try simp only [Act.put, List.setIfInBounds_toArray, List.set_cons_zero, List.set_cons_succ]
      refine until_one (i := 16) rfl (by kernel_rfl) (fun K hK => ?_)
      go_simp
      refine (HNA.out _).mono ?_
      rintro e x2 ⟨rfl, hb9⟩
      have HB9 : Hid (Below (wr.heap.size + 1) (wr.alloc (.cells #[.int .i64 (rn : Int), .int .i64 rb] 76)) x2) := by
        have e1 : (wr.alloc (.cells #[.int .i64 (rn : Int), .int .i64 rb] 76)).heap.size = wr.heap.size + 1 := by simp
        exact (below_drew1 _ _).trans (hb9.mono (by show _ ≤ (wr.alloc (.cells #[.int .i64 (rn : Int), .int .i64 rb] 76)).heap.size; omega))
      have hHeld2 := HSS.out _ HB9.out
      clear hb9
      refine hK.out _ _ (.inr hHeld2) ?_
      clear hK K
      try simp only [Act.put, List.setIfInBounds_toArray, List.set_cons_zero, List.set_cons_succ]
      refine until_take (i := 17) (v := ?_) rfl (by kernel_rfl) (by kernel_rfl) (by kernel_rfl) (by kernel_rfl) (fun _ _ _ h => h) (Or.inl ⟨by rfl, ?_⟩) hHeld2 ?_
      rotate_left
      · intro w hSw
        try dsimp only at hSw
        go_simp
        try with_reducible rfl
      try simp only [Act.put, List.setIfInBounds_toArray, List.set_cons_zero, List.set_cons_succ]
      obtain ⟨⟨u, hu⟩, hfu⟩ := HOLD.out x2 (HRW.out x2 HB9.out)
      refine until_one (i := 18) rfl (by kernel_rfl) (fun K hK => ?_)
      go_simp
      refine hK.out _ _ (.inl rfl) ?_
      clear hK K
      try simp only [Act.put, List.setIfInBounds_toArray, List.set_cons_zero, List.set_cons_succ]
      refine until_done (by kernel_rfl) ?_ _
      refine NoPanic.normal ?_
      have HF1 := hide (HSET.out x2 (HRW.out x2 HB9.out))
      have HF2 := hide ((H2.out.below (HRW.out x2 HB9.out)).set (k := i * 10 + 4 + j) (show g < w.heap.size + 1 by omega) (.int .i64 nm))
      clear hHeld hHeld2 hu hfu HSS HB9
      go_wp2_with fail
      go_roundw
      case rel => exact ⟨j + 1, by omega, by go_num, HF1.out, HF2.out⟩
      case measure => simp [intOf]; omega
    · have e : j = us.length := by omega
      subst e
      have hji : ¬ (us.length : Int) < (us.length : Int) := by omega
      have HF := hide (HNX.out wr hj)
      clear hj h2
      go_wp2_with fail
      go_end0
      exact ⟨rfl, HF.out⟩
end Go.Proofs.Ytkpkpaobhnhgpab
