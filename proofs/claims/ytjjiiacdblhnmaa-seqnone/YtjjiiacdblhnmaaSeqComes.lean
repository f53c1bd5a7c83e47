/- The contract of a statement that is done: what it comes to, and the word that it stores. -/
import Derived.Test.YtjjiiacdblhnmaaSeqIs
import Derived.Test.YtjjiiacdblhnmaaOpsBelow
import Derived.Deep.RegionHeld3
import Derived.BigRegion
namespace Go.Proofs.Ytjjiiacdblhnmaa
open Go.RowKit Go.Joins
set_option linter.unusedVariables false

/-- all blocks but those of the words are as they were -/
def Kept (n : Nat) (GM : Nat → Nat) (w w' : World) : Prop := (∀ g, g < w.heap.size → (∀ i, i < n → g ≠ GM i) → w'.heap[g]? = w.heap[g]?) ∧ w.heap.size ≤ w'.heap.size
theorem Kept.of_below {n : Nat} {GM : Nat → Nat} {w w' : World} (h : Below w.heap.size w w') : Kept n GM w w' := ⟨fun g hg _ => h.block g hg, h.size⟩

set_option maxHeartbeats 1000000 in
theorem comes_op {w0 : World} {R : Nat} {l0 l1 l2 : Value} {gp cp : Nat} {mv : Value} {gm cm N n : Nat} {lenM GM CM : Nat → Nat} {B : List (List Int)} {G C : Nat → Nat} {T k : Nat} {s : Sq} (w : World) (L : Lp) (o xa xb ya yb ar sp pl nn : Int)
    (hI : RInv w0 R l0 l1 l2 gp cp mv gm cm N n lenM GM CM B G C T k s w) (hx : stAt L.body k = ⟨o, xa, xb, ya, yb, ar, sp, pl, nn⟩) (ht : T ≤ 200) (hk : k < N) (o1 : 11 ≤ o) (o2 : o ≤ 18) (ra : refOk N k xa xb = true) (rb : refOk N k ya yb = true) :
    Calls Try.prog 46 #[.pointer (some ⟨R, 0, none⟩), .agg #[.int .i64 o, .int .i64 xa, .int .i64 xb, .int .i64 ya, .int .i64 yb, .int .i64 ar, .int .i64 sp, .int .i64 pl, .int .i64 nn], .int .i64 T] w fun e w' =>
      ∃ v m, stepS L B T s k = ⟨m, put2 s.val T k v⟩ ∧ e = .returned (.int .i64 v) ∧ RInv w0 R l0 l1 l2 gp cp mv gm cm N n lenM GM CM B G C T k ⟨m, s.val⟩ w' ∧ Kept n GM w w' := by
  obtain ⟨a1, a2, a3, a4, a5⟩ := ref_parts2 ra (by omega)
  obtain ⟨b1, b2, b3, b4, b5⟩ := ref_parts2 rb (by omega)
  have q1 : (o == 1) = false := beq_eq_false_iff_ne.2 (by omega)
  have q2 : (o == 2) = false := beq_eq_false_iff_ne.2 (by omega)
  have q3 : (o == 3) = false := beq_eq_false_iff_ne.2 (by omega)
  have q4 : (o == 4) = false := beq_eq_false_iff_ne.2 (by omega)
  have ho10 : IntKind.i64.wrap (o - 10) = o - 10 := i64_is _ (by omega) (by omega)
  have HI := hide hI
  have HS := hide (step_op (B := B) (t := T) (s := s) hx o1)
  clear hI hx ra rb
  go_enter Try.func46, Try.ntmps46
  go_wp2_with fail
  go_region_held3 (fun w' => w'.cell? ⟨w.heap.size, 0, none⟩ = some (.int .i64 o) ∧ w'.cell? ⟨w.heap.size, 1, none⟩ = some (.int .i64 xa) ∧ w'.cell? ⟨w.heap.size, 2, none⟩ = some (.int .i64 xb) ∧ w'.cell? ⟨w.heap.size, 3, none⟩ = some (.int .i64 ya) ∧ w'.cell? ⟨w.heap.size, 4, none⟩ = some (.int .i64 yb) ∧ w.heap.size < w'.heap.size ∧ Below w.heap.size w w')
    ((go_split_ands; refine ⟨?_, ?_, ?_, ?_, ?_, ?_, ?_⟩ <;> first | (rw [bcell hbw _ _ (by assumption)]; assumption) | exact Nat.lt_of_lt_of_le (by assumption) hbw.size | exact Below.trans (by assumption) (hbw.mono (Nat.le_of_lt (by assumption))) | (go_keep; done) | exact (below_alloc1 _ _).drew))
    (first
      | (go_at_call 50; refine Calls.mono (sis_any _ _ _ (HI.out.below (by go_split_ands; assumption)) ht (by first | exact a1 | exact b1) (by first | exact a2 | exact b2) (by first | exact a3 | exact b3) (by first | exact a4 | exact b4) (by first | exact a5 | exact b5)) ?_; rintro e w2 ⟨rfl, hbw⟩)
      | (go_at_call 8; refine (opb_any _ _ _ _).mono ?_; rintro e w4 ⟨rfl, hbw⟩))
  go_wp2_with fail
  go_split_ands
  have hbe : Below w.heap.size w w4 := by assumption
  go_ret
  exact ⟨_, _, HS.out, rfl, HI.out.below hbe, Kept.of_below hbe⟩

set_option maxHeartbeats 400000 in
theorem comes_1 {w0 : World} {R : Nat} {l0 l1 l2 : Value} {gp cp : Nat} {mv : Value} {gm cm N n : Nat} {lenM GM CM : Nat → Nat} {B : List (List Int)} {G C : Nat → Nat} {T k : Nat} {s : Sq} (w : World) (L : Lp) (xa xb ya yb ar sp pl nn : Int)
    (hI : RInv w0 R l0 l1 l2 gp cp mv gm cm N n lenM GM CM B G C T k s w) (hx : stAt L.body k = ⟨1, xa, xb, ya, yb, ar, sp, pl, nn⟩) :
    Calls Try.prog 46 #[.pointer (some ⟨R, 0, none⟩), .agg #[.int .i64 1, .int .i64 xa, .int .i64 xb, .int .i64 ya, .int .i64 yb, .int .i64 ar, .int .i64 sp, .int .i64 pl, .int .i64 nn], .int .i64 T] w fun e w' =>
      ∃ v m, stepS L B T s k = ⟨m, put2 s.val T k v⟩ ∧ e = .returned (.int .i64 v) ∧ RInv w0 R l0 l1 l2 gp cp mv gm cm N n lenM GM CM B G C T k ⟨m, s.val⟩ w' ∧ Kept n GM w w' := by
  have HI := hide hI
  have HS := hide (step_1 (B := B) (t := T) (s := s) hx)
  clear hI hx
  go_enter Try.func46, Try.ntmps46
  go_wp2_with fail
  go_ret
  exact ⟨_, _, HS.out, rfl, HI.out.below (below_alloc1 _ _), Kept.of_below (below_alloc1 _ _)⟩

set_option maxHeartbeats 400000 in
theorem comes_2 {w0 : World} {R : Nat} {l0 l1 l2 : Value} {gp cp : Nat} {mv : Value} {gm cm N n : Nat} {lenM GM CM : Nat → Nat} {B : List (List Int)} {G C : Nat → Nat} {T k : Nat} {s : Sq} (w : World) (L : Lp) (xa xb ya yb ar sp pl nn : Int)
    (hI : RInv w0 R l0 l1 l2 gp cp mv gm cm N n lenM GM CM B G C T k s w) (hx : stAt L.body k = ⟨2, xa, xb, ya, yb, ar, sp, pl, nn⟩) :
    Calls Try.prog 46 #[.pointer (some ⟨R, 0, none⟩), .agg #[.int .i64 2, .int .i64 xa, .int .i64 xb, .int .i64 ya, .int .i64 yb, .int .i64 ar, .int .i64 sp, .int .i64 pl, .int .i64 nn], .int .i64 T] w fun e w' =>
      ∃ v m, stepS L B T s k = ⟨m, put2 s.val T k v⟩ ∧ e = .returned (.int .i64 v) ∧ RInv w0 R l0 l1 l2 gp cp mv gm cm N n lenM GM CM B G C T k ⟨m, s.val⟩ w' ∧ Kept n GM w w' := by
  have HI := hide hI
  have HS := hide (step_2 (B := B) (t := T) (s := s) hx)
  clear hI hx
  go_enter Try.func46, Try.ntmps46
  go_wp2_with fail
  go_ret
  exact ⟨_, _, HS.out, rfl, HI.out.below (below_alloc1 _ _), Kept.of_below (below_alloc1 _ _)⟩

set_option maxHeartbeats 1000000 in
theorem comes_3 {w0 : World} {R : Nat} {l0 l1 l2 : Value} {gp cp : Nat} {mv : Value} {gm cm N n : Nat} {lenM GM CM : Nat → Nat} {B : List (List Int)} {G C : Nat → Nat} {T k : Nat} {s : Sq} (w : World) (L : Lp) (xa xb ya yb sp pl nn : Int) (i : Nat)
    (hI : RInv w0 R l0 l1 l2 gp cp mv gm cm N n lenM GM CM B G C T k s w) (hx : stAt L.body k = ⟨3, xa, xb, ya, yb, i, sp, pl, nn⟩) (hL : Ints w0 l0 L.logs) (hn : n = L.logs.length) (hi : i < n)
    (hlen : ∀ i, i < n → lenM i = 2 ^ (nth L.logs i).toNat ∧ lenM i ≤ 32) :
    Calls Try.prog 46 #[.pointer (some ⟨R, 0, none⟩), .agg #[.int .i64 3, .int .i64 xa, .int .i64 xb, .int .i64 ya, .int .i64 yb, .int .i64 i, .int .i64 sp, .int .i64 pl, .int .i64 nn], .int .i64 T] w fun e w' =>
      ∃ v m, stepS L B T s k = ⟨m, put2 s.val T k v⟩ ∧ e = .returned (.int .i64 v) ∧ RInv w0 R l0 l1 l2 gp cp mv gm cm N n lenM GM CM B G C T k ⟨m, s.val⟩ w' ∧ Kept n GM w w' := by
  have hjc := wordAt_cast L T ⟨3, xa, xb, ya, yb, i, sp, pl, nn⟩
  have hjl := wordAt_lt L T ⟨3, xa, xb, ya, yb, i, sp, pl, nn⟩
  have hs := step_3 (B := B) (t := T) (s := s) hx
  dsimp only at hjc hjl
  rw [Int.toNat_natCast] at hjc hjl hs
  rw [← (hlen i hi).1] at hjl
  generalize wordAt L T ⟨3, xa, xb, ya, yb, i, sp, pl, nn⟩ = j at *
  have HS := hide hs
  have HI := hide hI
  have hcell := (hI.min.1 i hi).2.2.2.cell hjl
  have hGz := (hI.min.1 i hi).2.2.2.lt
  have hbal : Below w.heap.size w (w.alloc (.cells #[.int .i64 3, .int .i64 xa, .int .i64 xb, .int .i64 ya, .int .i64 yb, .int .i64 i, .int .i64 sp, .int .i64 pl, .int .i64 nn] 62)) := below_alloc1 _ _
  have HBA := hide hbal
  have h32 := (hlen i hi).2
  clear hI hs hx hlen hbal
  go_enter Try.func46, Try.ntmps46
  go_wp2_with fail
  refine (word_any _ L 3 xa xb ya yb sp pl nn i j (HI.out.below HBA.out) hL hn hi hjc hjl h32).mono ?_
  rintro e w1 ⟨rfl, hb1⟩
  have hb2 : Below w.heap.size w w1 := HBA.out.trans (hb1.mono (by simp))
  rw [← bcell hb2 _ _ hGz] at hcell
  have HB2 := hide hb2
  clear hb2 hb1 hjc
  go_wp2_with fail
  go_ret
  exact ⟨_, _, HS.out, rfl, HI.out.below HB2.out, Kept.of_below HB2.out⟩

set_option maxHeartbeats 1000000 in
theorem comes_4 {w0 : World} {R : Nat} {l0 l1 l2 : Value} {gp cp : Nat} {mv : Value} {gm cm N n : Nat} {lenM GM CM : Nat → Nat} {B : List (List Int)} {G C : Nat → Nat} {T k : Nat} {s : Sq} (w : World) (L : Lp) (xa xb ya yb sp pl nn : Int) (i : Nat)
    (hI : RInv w0 R l0 l1 l2 gp cp mv gm cm N n lenM GM CM B G C T k s w) (hx : stAt L.body k = ⟨4, xa, xb, ya, yb, i, sp, pl, nn⟩) (hL : Ints w0 l0 L.logs) (hn : n = L.logs.length) (hi : i < n)
    (hlen : ∀ i, i < n → lenM i = 2 ^ (nth L.logs i).toNat ∧ lenM i ≤ 32) (ht : T ≤ 200) (hk : k < N) (ra : refOk N k xa xb = true) :
    Calls Try.prog 46 #[.pointer (some ⟨R, 0, none⟩), .agg #[.int .i64 4, .int .i64 xa, .int .i64 xb, .int .i64 ya, .int .i64 yb, .int .i64 i, .int .i64 sp, .int .i64 pl, .int .i64 nn], .int .i64 T] w fun e w' =>
      ∃ v m, stepS L B T s k = ⟨m, put2 s.val T k v⟩ ∧ e = .returned (.int .i64 v) ∧ RInv w0 R l0 l1 l2 gp cp mv gm cm N n lenM GM CM B G C T k ⟨m, s.val⟩ w' ∧ Kept n GM w w' := by
  obtain ⟨a1, a2, a3, a4, a5⟩ := ref_parts2 ra (by omega)
  have hjc := wordAt_cast L T ⟨4, xa, xb, ya, yb, i, sp, pl, nn⟩
  have hjl := wordAt_lt L T ⟨4, xa, xb, ya, yb, i, sp, pl, nn⟩
  have hs := step_4 (B := B) (t := T) (s := s) hx
  dsimp only at hjc hjl
  rw [Int.toNat_natCast] at hjc hjl hs
  rw [← (hlen i hi).1] at hjl
  generalize wordAt L T ⟨4, xa, xb, ya, yb, i, sp, pl, nn⟩ = j at *
  have HS := hide hs
  have HI := hide hI
  have hbal : Below w.heap.size w (w.alloc (.cells #[.int .i64 4, .int .i64 xa, .int .i64 xb, .int .i64 ya, .int .i64 yb, .int .i64 i, .int .i64 sp, .int .i64 pl, .int .i64 nn] 62)) := below_alloc1 _ _
  have HBA := hide hbal
  have h32 := (hlen i hi).2
  clear hI hs hx hlen hbal
  go_enter Try.func46, Try.ntmps46
  go_wp2_with fail
  refine (word_any _ L 4 xa xb ya yb sp pl nn i j (HI.out.below HBA.out) hL hn hi hjc hjl h32).mono ?_
  rintro e w1 ⟨rfl, hb1⟩
  have hb2 : Below w.heap.size w w1 := HBA.out.trans (hb1.mono (by simp))
  have hxc : ∀ o, w1.cell? ⟨w.heap.size, o, none⟩ = (w.alloc (.cells #[.int .i64 4, .int .i64 xa, .int .i64 xb, .int .i64 ya, .int .i64 yb, .int .i64 i, .int .i64 sp, .int .i64 pl, .int .i64 nn] 62)).cell? ⟨w.heap.size, o, none⟩ := fun o => hb1.cell (p := ⟨w.heap.size, o, none⟩) (by simp)
  have hx1 : w1.cell? ⟨w.heap.size, 1, none⟩ = some (.int .i64 xa) := by rw [hxc]; go_simp
  have hx2 : w1.cell? ⟨w.heap.size, 2, none⟩ = some (.int .i64 xb) := by rw [hxc]; go_simp
  have HB2 := hide hb2
  clear hb2 hb1 hjc hxc
  go_wp2_with fail
  refine (sis_any _ xa xb (HI.out.below HB2.out) ht a1 a2 a3 a4 a5).mono ?_
  rintro e w2 ⟨rfl, hb3⟩
  have hb4 : Below w.heap.size w w2 := HB2.out.trans (hb3.mono HB2.out.size)
  have HI2 := hide (HI.out.below hb4)
  have hcell := (HI2.out.min.1 i hi).2.2.2.cell hjl
  have hfr := (HI2.out.min.1 i hi).2.2.2.frozen j
  have HG := hide (HI.out.min.1 i hi).1
  have HB4 := hide hb4
  clear hb3 hb4
  go_wp2_with fail
  go_ret
  refine ⟨_, _, HS.out, rfl, HI2.out.setMem i j _ hi hjl, fun g hg hne => ?_, by simpa using HB4.out.size⟩
  rw [Below.heap_setCell _ _ _ _ (by show g ≠ GM i; exact hne i hi)]
  exact HB4.out.block g hg

/-- a statement that may be -/
theorem comes_any {w0 : World} {R : Nat} {l0 l1 l2 : Value} {gp cp : Nat} {mv : Value} {gm cm N n : Nat} {lenM GM CM : Nat → Nat} {B : List (List Int)} {G C : Nat → Nat} {T k : Nat} {s : Sq} (w : World) (L : Lp) (x : St)
    (hI : RInv w0 R l0 l1 l2 gp cp mv gm cm N n lenM GM CM B G C T k s w) (hx : stAt L.body k = x) (hL : Ints w0 l0 L.logs) (hn : n = L.logs.length)
    (hlen : ∀ i, i < n → lenM i = 2 ^ (nth L.logs i).toNat ∧ lenM i ≤ 32) (ht : T ≤ 200) (hk : k < N) (hok : stOk n N k x = true) :
    Calls Try.prog 46 #[.pointer (some ⟨R, 0, none⟩), .agg (stCells x), .int .i64 T] w fun e w' =>
      ∃ v m, stepS L B T s k = ⟨m, put2 s.val T k v⟩ ∧ e = .returned (.int .i64 v) ∧ RInv w0 R l0 l1 l2 gp cp mv gm cm N n lenM GM CM B G C T k ⟨m, s.val⟩ w' ∧ Kept n GM w w' := by
  obtain ⟨o, xa, xb, ya, yb, ar, sp, pl, nn⟩ := x
  have hpos := st_parts hok
  simp only at hpos
  rcases hpos with rfl | rfl | ⟨rfl, q1, q2⟩ | ⟨rfl, q1, q2, q3⟩ | ⟨q1, q2, q3, q4⟩
  · exact comes_1 w L xa xb ya yb ar sp pl nn hI hx
  · exact comes_2 w L xa xb ya yb ar sp pl nn hI hx
  · obtain ⟨i, rfl⟩ := Int.eq_ofNat_of_zero_le q1
    exact comes_3 w L xa xb ya yb sp pl nn i hI hx hL hn (by omega) hlen
  · obtain ⟨i, rfl⟩ := Int.eq_ofNat_of_zero_le q1
    exact comes_4 w L xa xb ya yb sp pl nn i hI hx hL hn (by omega) hlen ht hk q3
  · exact comes_op w L o xa xb ya yb ar sp pl nn hI hx ht hk q1 q2 q3 q4
end Go.Proofs.Ytjjiiacdblhnmaa
