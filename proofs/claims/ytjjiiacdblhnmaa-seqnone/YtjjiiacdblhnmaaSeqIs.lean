/- The contracts of the runner's reading: what a Ref is, and where a word lies; nothing that was there is changed. -/
import Derived.Test.YtjjiiacdblhnmaaSeqInv
namespace Go.Proofs.Ytjjiiacdblhnmaa
open Go.RowKit Go.Joins
set_option linter.unusedVariables false

theorem ref_parts2 {n k x y : Int} (h : refOk n k x y = true) (hk : k ≤ n) : 0 ≤ x ∧ x < n ∧ 0 ≤ y ∧ y ≤ 3 ∧ (y = 0 → x < k) := by
  unfold refOk at h
  rw [Bool.and_eq_true] at h
  have h1 := inR_iff.1 h.1
  have h2 := inR_iff.1 h.2
  split at h2 <;> omega

set_option maxHeartbeats 400000 in
theorem sis_any {w0 : World} {R : Nat} {l0 l1 l2 : Value} {gp cp : Nat} {mv : Value} {gm cm N n : Nat} {lenM GM CM : Nat → Nat} {B : List (List Int)} {G C : Nat → Nat} {T k : Nat} {s : Sq} (w : World) (x y : Int)
    (hI : RInv w0 R l0 l1 l2 gp cp mv gm cm N n lenM GM CM B G C T k s w) (ht : T ≤ 200) (hx0 : 0 ≤ x) (hx : x < N) (hy0 : 0 ≤ y) (hy : y ≤ 3) (hxy : y = 0 → x < k) :
    Calls Try.prog 50 #[.pointer (some ⟨R, 0, none⟩), .agg #[.int .i64 x, .int .i64 y], .int .i64 T] w fun e w' => e = .returned (.int .i64 (refV B s.val T x y)) ∧ Below w.heap.size w w' := by
  obtain ⟨a, rfl⟩ := Int.eq_ofNat_of_zero_le hx0
  obtain ⟨d, rfl⟩ := Int.eq_ofNat_of_zero_le hy0
  have haN : a < N := by omega
  obtain ⟨-, -, -, c3, -, hRz⟩ := hI.cells
  have hpo : w.cell? ⟨gp, a, none⟩ = some (.slice (some ⟨G a, 0, none⟩) (plen T k a) (C a)) := hI.pout.cell haN
  have hpz := hI.pout.lt
  obtain ⟨p1, p2, p3⟩ := hI.pin a haN
  obtain ⟨-, b2, b3⟩ := hI.pb
  obtain ⟨j, hj⟩ : ∃ j, 3 + T = d + j := ⟨3 + T - d, by omega⟩
  have hjl : j < plen T k a := by
    unfold plen
    split <;> omega
  have hc := p3.row.cell hjl
  have hGz := p3.lt
  have hle := p3.le
  have HV : Hid (refV B s.val T a d = pastV B s.val a j) := by
    show _ = _
    rw [← pastV_ref B s.val T a d (by omega), show 3 + T - d = j from by omega]
  have e0 : IntKind.i64.wrap (3 + (T : Int)) = 3 + (T : Int) := by rw [IntKind.wrap_i64]; omega
  have e1 : (3 : Int) + (T : Int) - (d : Int) = (j : Int) := by omega
  have e2 : (j : Int) < (plen T k a : Int) := by omega
  have e3 : (a : Int) < (N : Int) := by omega
  have e4 : IntKind.i64.wrap (j : Int) = (j : Int) := by rw [IntKind.wrap_i64]; omega
  unfold maxLen at p2 b3
  generalize plen T k a = pl at *
  generalize pastV B s.val a j = pv at *
  clear p3 hI p1 hx0 hy0 hx hxy hj
  go_enter Try.func50, Try.ntmps50
  go_wp2_with fail
  go_quiet ((fail))
  go_wp2_with fail
  go_ret
  exact ⟨ret_int HV.out.symm, (below_alloc1 _ _).trans (below_draws _ _ _)⟩

set_option maxHeartbeats 400000 in
theorem word_any {w0 : World} {R : Nat} {l1 l2 : Value} {gp cp : Nat} {mv : Value} {gm cm N n : Nat} {lenM GM CM : Nat → Nat} {B : List (List Int)} {G C : Nat → Nat} {T k : Nat} {s : Sq} {l0 : Value} (w : World) (L : Lp) (o xa xb ya yb sp pl nn : Int) (i j : Nat)
    (hI : RInv w0 R l0 l1 l2 gp cp mv gm cm N n lenM GM CM B G C T k s w) (hL : Ints w0 l0 L.logs) (hn : n = L.logs.length) (hi : i < n) (hj : idx sp pl T (nth L.logs i) = (j : Int)) (hjl : j < lenM i) (hlm : lenM i ≤ 32) :
    Calls Try.prog 49 #[.pointer (some ⟨R, 0, none⟩), .agg #[.int .i64 o, .int .i64 xa, .int .i64 xb, .int .i64 ya, .int .i64 yb, .int .i64 i, .int .i64 sp, .int .i64 pl, .int .i64 nn], .int .i64 T] w fun e w' =>
      e = .returned (.pointer (some ⟨GM i, j, none⟩)) ∧ Below w.heap.size w w' := by
  obtain ⟨c0, -, -, -, c4, hRz⟩ := hI.cells
  have hbel := hI.bel
  rcases hI.mout with h0 | ⟨rfl, m2, m3, m4, m5, m6⟩
  · omega
  obtain ⟨a, cap, rfl, ll, lm, lr, lc⟩ := hL
  obtain ⟨lb, lo, rfl, hlb, hlc⟩ := lc (by omega)
  have hlk := hlc i (by omega)
  rw [← bcell hbel _ _ hlb] at hlk
  have hlz : lb < w.heap.size := by have := hbel.size; omega
  have hmo : w.cell? ⟨gm, i, none⟩ = some (.slice (some ⟨GM i, 0, none⟩) (lenM i) (CM i)) := m4.cell hi
  have hmz := m4.lt
  obtain ⟨i1, i2, i3, i4⟩ := hI.min.1 i hi
  have hGz := i4.lt
  have e1 : (i : Int) < (n : Int) := by omega
  have e2 : (i : Int) < (L.logs.length : Int) := by omega
  have e3 : (j : Int) < (lenM i : Int) := by omega
  unfold maxLen at m3 lm i3
  generalize lenM i = lmi at *
  generalize nth L.logs i = lg at *
  clear i4 i1 m4 hI hbel lc hlc lr
  go_enter Try.func49, Try.ntmps49
  go_wp2_with fail
  go_quiet ((go_at_call 10; exact Calls.quiet_of_same (index_any _ _ _ _ _)))
  go_wp2_with fail
  go_ret
  exact ⟨rfl, (below_alloc1 _ _).trans (below_draws _ _ _)⟩
end Go.Proofs.Ytjjiiacdblhnmaa
