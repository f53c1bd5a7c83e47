/- The contracts of package code's small functions: how many bytes, a number out of eight, an Op out of ten numbers, and ten numbers out of an Op. -/
import Derived.Test.YtjdbmldkgjcniabRef13Num
import Derived.Laws.BitsAllLaws
namespace Go.Proofs.Ytjdbmldkgjcniab
open Go.RowKit Go.Joins
set_option linter.unusedVariables false
set_option linter.unusedSimpArgs false
set_option maxRecDepth 8192

theorem bytesOf_any (n : Nat) (w : World) (hn : n ≤ 16) :
    Calls Try.prog 56 #[.int .i64 n] w fun e w' => e = .returned (.int .i64 (24 + 80 * (n : Int))) ∧ w' = w := by
  have hv : 8 * (3 + 10 * (n : Int)) = 24 + 80 * (n : Int) := by omega
  go_enter Try.func56, Try.ntmps56
  go_wp2_with fail
  go_ret
  exact ⟨rfl, rfl⟩
/-- a number's first bytes, as a number that is not below 0 -/
def accP (b : List Int) (k : Nat) : Nat → Int
  | 0 => 0
  | i + 1 => accP b k i * 256 + nth b (8 * k + i)
def p256 : Nat → Int
  | 0 => 1
  | i + 1 => p256 i * 256
theorem p256_le : ∀ i, i ≤ 8 → p256 i ≤ 18446744073709551616 := by
  intro i hi
  obtain rfl | rfl | rfl | rfl | rfl | rfl | rfl | rfl | rfl : i = 0 ∨ i = 1 ∨ i = 2 ∨ i = 3 ∨ i = 4 ∨ i = 5 ∨ i = 6 ∨ i = 7 ∨ i = 8 := by omega
  all_goals decide
theorem accP_range {b : List Int} {k : Nat} : ∀ i, (∀ j, j < i → 0 ≤ nth b (8 * k + j) ∧ nth b (8 * k + j) < 256) → 0 ≤ accP b k i ∧ accP b k i < p256 i := by
  intro i
  induction i with
  | zero => intro _; exact ⟨Int.le_refl _, show (0 : Int) < 1 by decide⟩
  | succ i ih =>
    intro h
    obtain ⟨h1, h2⟩ := ih fun j hj => h j (by omega)
    obtain ⟨h3, h4⟩ := h i (by omega)
    have hs : accP b k (i + 1) = accP b k i * 256 + nth b (8 * k + i) := rfl
    have hp : p256 (i + 1) = p256 i * 256 := rfl
    rw [hs, hp]
    generalize accP b k i = A at *
    generalize p256 i = P at *
    omega
theorem accP_at (b : List Int) (k : Nat) : wrap64 (accP b k 8) = atB b k := by
  have e : accP b k 8 = (((((((nth b (8 * k) * 256 + nth b (8 * k + 1)) * 256 + nth b (8 * k + 2)) * 256 + nth b (8 * k + 3)) * 256 + nth b (8 * k + 4)) * 256 + nth b (8 * k + 5)) * 256 + nth b (8 * k + 6)) * 256 + nth b (8 * k + 7)) := by
    show (((((((((0 : Int) * 256 + nth b (8 * k)) * 256 + nth b (8 * k + 1)) * 256 + nth b (8 * k + 2)) * 256 + nth b (8 * k + 3)) * 256 + nth b (8 * k + 4)) * 256 + nth b (8 * k + 5)) * 256 + nth b (8 * k + 6)) * 256 + nth b (8 * k + 7)) = _
    rw [Int.zero_mul, Int.zero_add]
  rw [e]; rfl
theorem or_byte {a d : Int} (h0 : 0 ≤ a) (h1 : a * 256 < 18446744073709551616) (h2 : 0 ≤ d) (h3 : d < 256) : bits .or .u64 (a * 256) d = a * 256 + d := by
  obtain ⟨A, rfl⟩ : ∃ A : Nat, a = (A : Int) := ⟨a.toNat, by omega⟩
  obtain ⟨D, rfl⟩ : ∃ D : Nat, d = (D : Int) := ⟨d.toNat, by omega⟩
  have e : (A : Int) * 256 = ((A * 256 : Nat) : Int) := by omega
  rw [e, u64_or_nat _ _ (by omega) (by omega), nat_join 8 (A * 256) D (by omega) (by omega)]
  omega
set_option maxHeartbeats 2000000 in
theorem numberAt_any (v : Value) (l : List Int) (k : Nat) (w : World) (h : BytesV w v l) (hk : 8 * k + 8 ≤ l.length) (hk2 : k ≤ 1000) :
    Calls Try.prog 61 #[v, .int .i64 k] w fun e w' => e = .returned (.int .i64 (atB l k)) ∧ w' = w := by
  obtain ⟨a, cap, rfl, h1, h2, h3, h4⟩ := h
  unfold maxLen at h2
  obtain ⟨b, off, rfl, hb, hcell⟩ := h4 (by omega)
  have HR := hide h3
  have HC := hide hcell
  have HAC : Hid (∀ i, accP l k (i + 1) = accP l k i * 256 + nth l (8 * k + i)) := fun i => rfl
  have HAR : Hid (∀ i, i < 8 → 0 ≤ accP l k i ∧ accP l k i * 256 < 18446744073709551616) := fun i hi => by
    obtain ⟨r1, r2⟩ := accP_range (b := l) (k := k) i fun j hj => h3 (8 * k + j) (by omega)
    have r3 := p256_le (i + 1) (by omega)
    have r4 : p256 (i + 1) = p256 i * 256 := rfl
    exact ⟨r1, by omega⟩
  clear h3 h4 hcell
  go_enter Try.func61, Try.ntmps61
  go_wp2_with fail
  go_loopw [5, 14] (fun nv iv wr => ∃ i : Nat, i ≤ 8 ∧ nv = .int .u64 (accP l k i) ∧ iv = .int .i64 i ∧ wr = w) (fun _ iv _ => 8 - (intOf iv).toNat)
  case atStart => exact ⟨0, by omega, rfl, rfl, rfl⟩
  case round =>
    obtain ⟨i, hi, rfl, rfl, rfl⟩ := hrel
    by_cases hi8 : i < 8
    · have hii : (i : Int) < 8 := by omega
      have hck := HC.out (8 * k + i) (by omega)
      obtain ⟨r1, r2⟩ := HR.out (8 * k + i) (by omega)
      obtain ⟨q1, q2⟩ := HAR.out i hi8
      have HX := hide (HAC.out i)
      rw [← Nat.add_assoc] at hck
      obtain ⟨ac, hac⟩ : ∃ ac, accP l k i = ac := ⟨_, rfl⟩
      obtain ⟨y, hy⟩ : ∃ y, nth l (8 * k + i) = y := ⟨_, rfl⟩
      rw [hy] at hck r1 r2 HX
      rw [hac] at HX q1 q2 ⊢
      have hu1 : IntKind.u64.wrap (ac * 256) = ac * 256 := by rw [IntKind.wrap_u64]; omega
      have hu2 : IntKind.u64.wrap y = y := by rw [IntKind.wrap_u64]; omega
      have hor := or_byte q1 q2 r1 r2
      clear hac hy HAC HAR HR HC
      go_wp2_with fail
      go_roundw
      case rel => exact ⟨i + 1, by omega, by rw [HX.out], by go_num, by first | trivial | rfl⟩
      case measure => simp [intOf]; omega
    · have e : i = 8 := by omega
      subst e
      have HE := hide (accP_at l k)
      clear HAC HAR HR HC
      go_wp2_with fail
      exact bodyPost_ret (v := .int .i64 (atB l k)) (by simp [results, Try.results61, go_sem, HE.out]) rfl ⟨rfl, rfl⟩
set_option maxHeartbeats 2000000 in
theorem opOf_any (z0 z1 z2 z3 z4 z5 z6 z7 z8 z9 : Int) (w : World) :
    Calls Try.prog 94 #[.agg #[.int .i64 z0, .int .i64 z1, .int .i64 z2, .int .i64 z3, .int .i64 z4, .int .i64 z5, .int .i64 z6, .int .i64 z7, .int .i64 z8, .int .i64 z9]] w fun e w' => e = .returned (.agg #[.int .i64 z0, .int .i64 z1, .int .i64 z2, .int .i64 z3, .int .i64 z4, .int .i64 z5, .int .i64 z6, .int .i64 z7, .int .i64 z8, .int .i64 z9]) ∧ Below w.heap.size w w' := by
  go_enter Try.func94, Try.ntmps94
  go_wp2_with fail
  exact bodyPost_ret (v := .agg #[.int .i64 z0, .int .i64 z1, .int .i64 z2, .int .i64 z3, .int .i64 z4, .int .i64 z5, .int .i64 z6, .int .i64 z7, .int .i64 z8, .int .i64 z9]) (by simp [results, Try.results94, go_sem]) rfl ⟨rfl, below_alloc2 _ _ _⟩
set_option maxHeartbeats 2000000 in
theorem numbersOf_any (z0 z1 z2 z3 z4 z5 z6 z7 z8 z9 : Int) (w : World) :
    Calls Try.prog 58 #[.agg #[.int .i64 z0, .int .i64 z1, .int .i64 z2, .int .i64 z3, .int .i64 z4, .int .i64 z5, .int .i64 z6, .int .i64 z7, .int .i64 z8, .int .i64 z9]] w fun e w' => e = .returned (.agg #[.int .i64 z0, .int .i64 z1, .int .i64 z2, .int .i64 z3, .int .i64 z4, .int .i64 z5, .int .i64 z6, .int .i64 z7, .int .i64 z8, .int .i64 z9]) ∧ Below w.heap.size w w' := by
  go_enter Try.func58, Try.ntmps58
  go_wp2_with fail
  exact bodyPost_ret (v := .agg #[.int .i64 z0, .int .i64 z1, .int .i64 z2, .int .i64 z3, .int .i64 z4, .int .i64 z5, .int .i64 z6, .int .i64 z7, .int .i64 z8, .int .i64 z9]) (by simp [results, Try.results58, go_sem]) rfl ⟨rfl, below_alloc2 _ _ _⟩
end Go.Proofs.Ytjdbmldkgjcniab
