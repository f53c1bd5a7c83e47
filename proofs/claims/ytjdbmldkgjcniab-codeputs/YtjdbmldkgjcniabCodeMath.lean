/- M1, M2: kernels as bytes, there and back; no Go in sight. -/
import Derived.Test.YtjdbmldkgjcniabMaths
namespace Go.Proofs.Ytjdbmldkgjcniab
open Go.RowKit
set_option linter.unusedVariables false

/-- a number's eight bytes, the highest first -/
def numB (n : Int) : List Int := [n / 72057594037927936 % 256, n / 281474976710656 % 256, n / 1099511627776 % 256, n / 4294967296 % 256, n / 16777216 % 256, n / 65536 % 256, n / 256 % 256, n % 256]
/-- the number of eight bytes -/
def val8 (c0 c1 c2 c3 c4 c5 c6 c7 : Int) : Int := wrap64 (((((((c0 * 256 + c1) * 256 + c2) * 256 + c3) * 256 + c4) * 256 + c5) * 256 + c6) * 256 + c7)
def atB (b : List Int) (k : Nat) : Int := val8 (nth b (8 * k)) (nth b (8 * k + 1)) (nth b (8 * k + 2)) (nth b (8 * k + 3)) (nth b (8 * k + 4)) (nth b (8 * k + 5)) (nth b (8 * k + 6)) (nth b (8 * k + 7))
def opW (x : Kop) : List Int := [x.sl, x.sg, x.o, x.d, x.a, x.b, x.ar, x.sp, x.pl, x.nn]
def opsW (l : List Kop) : List Int := l.flatMap opW
def wordsK (K : Kn) : List Int := [K.pc, K.st, (K.ops.length : Int)] ++ opsW K.ops
def bytesW (l : List Int) : List Int := l.flatMap numB
/-- M1 -/
def bytesK (K : Kn) : List Int := bytesW (wordsK K)
/-- M2: are there such bytes? -/
def okB (b : List Int) : Bool := decide (24 ≤ b.length) && inR (atB b 2) 0 16 && decide ((b.length : Int) = 24 + 80 * atB b 2)
def opB (b : List Int) (i : Nat) : Kop := ⟨atB b (3 + 10 * i), atB b (3 + 10 * i + 1), atB b (3 + 10 * i + 2), atB b (3 + 10 * i + 3), atB b (3 + 10 * i + 4), atB b (3 + 10 * i + 5), atB b (3 + 10 * i + 6), atB b (3 + 10 * i + 7), atB b (3 + 10 * i + 8), atB b (3 + 10 * i + 9)⟩
def kernB (b : List Int) : Kn := ⟨atB b 0, atB b 1, (List.range (atB b 2).toNat).map (opB b)⟩

theorem val_num {n : Int} (h : I64 n) : val8 (n / 72057594037927936 % 256) (n / 281474976710656 % 256) (n / 1099511627776 % 256) (n / 4294967296 % 256) (n / 16777216 % 256) (n / 65536 % 256) (n / 256 % 256) (n % 256) = n := by
  unfold I64 at h
  unfold val8
  have e1 : n / 65536 = n / 256 / 256 := by omega
  have e2 : n / 16777216 = n / 65536 / 256 := by omega
  have e3 : n / 4294967296 = n / 16777216 / 256 := by omega
  have e4 : n / 1099511627776 = n / 4294967296 / 256 := by omega
  have e5 : n / 281474976710656 = n / 1099511627776 / 256 := by omega
  have e6 : n / 72057594037927936 = n / 281474976710656 / 256 := by omega
  rw [e6, e5, e4, e3, e2, e1]
  generalize hx1 : n / 256 = x1
  generalize hx2 : x1 / 256 = x2
  generalize hx3 : x2 / 256 = x3
  generalize hx4 : x3 / 256 = x4
  generalize hx5 : x4 / 256 = x5
  generalize hx6 : x5 / 256 = x6
  generalize hx7 : x6 / 256 = x7
  have b7 : -128 ≤ x7 ∧ x7 ≤ 127 := by omega
  unfold wrap64
  omega
theorem nth_left {a b : List Int} {i : Nat} (h : i < a.length) : nth (a ++ b) i = nth a i := by
  unfold nth; rw [List.getD, List.getElem?_append_left h]; rfl
theorem nth_right {a b : List Int} (i : Nat) : nth (a ++ b) (a.length + i) = nth b i := by
  unfold nth; rw [List.getD, List.getElem?_append_right (by omega), show a.length + i - a.length = i by omega]; rfl
theorem bytes_len : ∀ l : List Int, (bytesW l).length = 8 * l.length := by
  intro l
  induction l with
  | nil => rfl
  | cons a l ih =>
    show (numB a ++ bytesW l).length = _
    rw [List.length_append, ih]
    show 8 + 8 * l.length = 8 * (l.length + 1)
    omega
theorem bytes_at : ∀ (l : List Int) (k i : Nat), k < l.length → i < 8 → nth (bytesW l) (8 * k + i) = nth (numB (nth l k)) i := by
  intro l
  induction l with
  | nil => intro k i h; exact absurd h (Nat.not_lt_zero _)
  | cons a l ih =>
    intro k i hk hi
    show nth (numB a ++ bytesW l) (8 * k + i) = _
    cases k with
    | zero => rw [nth_left (by show 8 * 0 + i < 8; omega), show 8 * 0 + i = i by omega]; rfl
    | succ k =>
      have e : 8 * (k + 1) + i = (numB a).length + (8 * k + i) := by show _ = 8 + _; omega
      rw [e, nth_right, ih k i (by simpa using hk) hi]; rfl
/-- the number at a place is the one that was put there -/
theorem at_bytes {l : List Int} {k : Nat} (hk : k < l.length) (h : I64 (nth l k)) : atB (bytesW l) k = nth l k := by
  unfold atB
  rw [show 8 * k = 8 * k + 0 from rfl, bytes_at l k 0 hk (by omega), bytes_at l k 1 hk (by omega), bytes_at l k 2 hk (by omega), bytes_at l k 3 hk (by omega), bytes_at l k 4 hk (by omega), bytes_at l k 5 hk (by omega), bytes_at l k 6 hk (by omega), bytes_at l k 7 hk (by omega)]
  exact val_num h
theorem opsW_len : ∀ l : List Kop, (opsW l).length = 10 * l.length := by
  intro l
  induction l with
  | nil => rfl
  | cons a l ih =>
    show (opW a ++ opsW l).length = _
    rw [List.length_append, ih]
    show 10 + 10 * l.length = 10 * (l.length + 1)
    omega
theorem opsW_at : ∀ (l : List Kop) (k i : Nat), k < l.length → i < 10 → nth (opsW l) (10 * k + i) = nth (opW (opAt l k)) i := by
  intro l
  induction l with
  | nil => intro k i h; exact absurd h (Nat.not_lt_zero _)
  | cons a l ih =>
    intro k i hk hi
    show nth (opW a ++ opsW l) (10 * k + i) = _
    cases k with
    | zero => rw [nth_left (by show 10 * 0 + i < 10; omega), show 10 * 0 + i = i by omega]; rfl
    | succ k =>
      have e : 10 * (k + 1) + i = (opW a).length + (10 * k + i) := by show _ = 10 + _; omega
      rw [e, nth_right, ih k i (by simpa using hk) hi]; rfl
theorem wordsK_len (K : Kn) : (wordsK K).length = 3 + 10 * K.ops.length := by
  unfold wordsK
  rw [List.length_append, opsW_len]; rfl
theorem words_op {K : Kn} {k i : Nat} (hk : k < K.ops.length) (hi : i < 10) : nth (wordsK K) (3 + 10 * k + i) = nth (opW (opAt K.ops k)) i := by
  unfold wordsK
  rw [show 3 + 10 * k + i = [K.pc, K.st, (K.ops.length : Int)].length + (10 * k + i) by show _ = 3 + _; omega, nth_right, opsW_at _ _ _ hk hi]
/-- all numbers of a kernel are of 64 bits -/
def KernIn (K : Kn) : Prop := I64 K.pc ∧ I64 K.st ∧ ∀ k, k < K.ops.length → ∀ i, i < 10 → I64 (nth (opW (opAt K.ops k)) i)
theorem atK {K : Kn} (h : KernIn K) {k i : Nat} (hk : k < K.ops.length) (hi : i < 10) : atB (bytesK K) (3 + 10 * k + i) = nth (opW (opAt K.ops k)) i := by
  unfold bytesK
  rw [at_bytes (by rw [wordsK_len]; omega) (by rw [words_op hk hi]; exact h.2.2 k hk i hi), words_op hk hi]
theorem atK_many {K : Kn} (h : KernIn K) (hl : K.ops.length ≤ 16) : atB (bytesK K) 2 = K.ops.length := at_bytes (l := wordsK K) (k := 2) (by rw [wordsK_len]; omega) (show I64 (K.ops.length : Int) by unfold I64; omega)
/-- M2: what was put is there -/
theorem back_ok {K : Kn} (h : KernIn K) (hl : K.ops.length ≤ 16) : okB (bytesK K) = true := by
  have e : (bytesK K).length = 24 + 80 * K.ops.length := by unfold bytesK; rw [bytes_len, wordsK_len]; omega
  unfold okB
  rw [atK_many h hl, e, decide_eq_true (by omega), inR_yes (by omega), decide_eq_true (by omega)]; rfl
theorem back_kern {K : Kn} (h : KernIn K) (hl : K.ops.length ≤ 16) : kernB (bytesK K) = K := by
  have e0 : atB (bytesK K) 0 = K.pc := at_bytes (l := wordsK K) (k := 0) (by rw [wordsK_len]; omega) h.1
  have e1 : atB (bytesK K) 1 = K.st := at_bytes (l := wordsK K) (k := 1) (by rw [wordsK_len]; omega) h.2.1
  unfold kernB
  rw [e0, e1, atK_many h hl, Int.toNat_natCast]
  have eo : (List.range K.ops.length).map (opB (bytesK K)) = K.ops := by
    refine List.ext_getElem (by simp) fun k h1 h2 => ?_
    have ek : K.ops[k] = opAt K.ops k := by unfold opAt; rw [List.getD, List.getElem?_eq_getElem h2]; rfl
    rw [List.getElem_map, List.getElem_range, ek]
    unfold opB
    have a0 : atB (bytesK K) (3 + 10 * k) = nth (opW (opAt K.ops k)) 0 := atK h h2 (i := 0) (by omega)
    have a1 := atK h h2 (i := 1) (by omega)
    have a2 := atK h h2 (i := 2) (by omega)
    have a3 := atK h h2 (i := 3) (by omega)
    have a4 := atK h h2 (i := 4) (by omega)
    have a5 := atK h h2 (i := 5) (by omega)
    have a6 := atK h h2 (i := 6) (by omega)
    have a7 := atK h h2 (i := 7) (by omega)
    have a8 := atK h h2 (i := 8) (by omega)
    have a9 := atK h h2 (i := 9) (by omega)
    rw [a0, a1, a2, a3, a4, a5, a6, a7, a8, a9]
    rfl
  rw [eo]
/-- no shorter row of bytes is read -/
theorem cut_no {K : Kn} (h : KernIn K) (hl : K.ops.length ≤ 16) {n : Nat} (hn : n < (bytesK K).length) : okB ((bytesK K).take n) = false := by
  have e : (bytesK K).length = 24 + 80 * K.ops.length := by unfold bytesK; rw [bytes_len, wordsK_len]; omega
  rw [Bool.eq_false_iff]
  intro h2
  unfold okB at h2
  simp only [Bool.and_eq_true, decide_eq_true_eq] at h2
  obtain ⟨⟨h3, h4⟩, h5⟩ := h2
  rw [List.length_take] at h3 h5
  have hn24 : 24 ≤ n := by omega
  have et : ∀ i, i < 24 → nth ((bytesK K).take n) i = nth (bytesK K) i := by
    intro i hi
    unfold nth
    rw [List.getD, List.getElem?_take_of_lt (by omega)]; rfl
  have e2 : atB ((bytesK K).take n) 2 = atB (bytesK K) 2 := by
    unfold atB
    rw [et _ (by omega), et _ (by omega), et _ (by omega), et _ (by omega), et _ (by omega), et _ (by omega), et _ (by omega), et _ (by omega)]
  rw [e2, atK_many h hl] at h5
  omega
end Go.Proofs.Ytjdbmldkgjcniab
