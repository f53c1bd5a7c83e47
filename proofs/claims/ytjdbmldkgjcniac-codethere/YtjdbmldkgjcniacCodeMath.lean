/- M1, M2: kernels as bytes, there and back; no Go in sight. -/
import Derived.Test.YtjdbmldkgjcniacMaths
namespace Go.Proofs.Ytjdbmldkgjcniac
open Go.RowKit
set_option linter.unusedVariables false

/-- a number's eight bytes, the highest first -/
def numB (n : Int) : List Int := [n / 72057594037927936 % 256, n / 281474976710656 % 256, n / 1099511627776 % 256, n / 4294967296 % 256, n / 16777216 % 256, n / 65536 % 256, n / 256 % 256, n % 256]
/-- the number of eight bytes -/
def val8 (c0 c1 c2 c3 c4 c5 c6 c7 : Int) : Int := wrap64 (((((((c0 * 256 + c1) * 256 + c2) * 256 + c3) * 256 + c4) * 256 + c5) * 256 + c6) * 256 + c7)
def atB (b : List Int) (k : Nat) : Int := val8 (nth b (8 * k)) (nth b (8 * k + 1)) (nth b (8 * k + 2)) (nth b (8 * k + 3)) (nth b (8 * k + 4)) (nth b (8 * k + 5)) (nth b (8 * k + 6)) (nth b (8 * k + 7))
def opW (x : Kop) : List Int := [x.sl, x.sg, x.o, x.d, x.a, x.b, x.ar, x.sp, x.pl, x.nn]
def opsW (l : List Kop) : List Int := l.flatMap opW
def wordsK (K : Kn) : List Int := [K.pc, K.st, (K.ops.length : Int)] ++ opsW K.ops
def bytesW (l : List Int) : List Int := l.flatMap numB
/-- M1 -/
def bytesK (K : Kn) : List Int := bytesW (wordsK K)
/-- M2: are there such bytes? -/
def okB (b : List Int) : Bool := decide (24 ≤ b.length) && inR (atB b 2) 0 16 && decide ((b.length : Int) = 24 + 80 * atB b 2)
def opB (b : List Int) (i : Nat) : Kop := ⟨atB b (3 + 10 * i), atB b (3 + 10 * i + 1), atB b (3 + 10 * i + 2), atB b (3 + 10 * i + 3), atB b (3 + 10 * i + 4), atB b (3 + 10 * i + 5), atB b (3 + 10 * i + 6), atB b (3 + 10 * i + 7), atB b (3 + 10 * i + 8), atB b (3 + 10 * i + 9)⟩
def kernB (b : List Int) : Kn := ⟨atB b 0, atB b 1, (List.range (atB b 2).toNat).map (opB b)⟩

theorem num_val {c0 c1 c2 c3 c4 c5 c6 c7 : Int} (h0 : 0 ≤ c0 ∧ c0 < 256) (h1 : 0 ≤ c1 ∧ c1 < 256) (h2 : 0 ≤ c2 ∧ c2 < 256) (h3 : 0 ≤ c3 ∧ c3 < 256) (h4 : 0 ≤ c4 ∧ c4 < 256) (h5 : 0 ≤ c5 ∧ c5 < 256) (h6 : 0 ≤ c6 ∧ c6 < 256) (h7 : 0 ≤ c7 ∧ c7 < 256) : numB (val8 c0 c1 c2 c3 c4 c5 c6 c7) = [c0, c1, c2, c3, c4, c5, c6, c7] := by
  have hv : val8 c0 c1 c2 c3 c4 c5 c6 c7 = (((((((c0 * 256 + c1) * 256 + c2) * 256 + c3) * 256 + c4) * 256 + c5) * 256 + c6) * 256 + c7) ∨ val8 c0 c1 c2 c3 c4 c5 c6 c7 = (((((((c0 * 256 + c1) * 256 + c2) * 256 + c3) * 256 + c4) * 256 + c5) * 256 + c6) * 256 + c7) - 18446744073709551616 := by
    unfold val8 wrap64
    omega
  unfold numB
  generalize val8 c0 c1 c2 c3 c4 c5 c6 c7 = n at hv
  have g : n / 72057594037927936 % 256 = c0 ∧ n / 281474976710656 % 256 = c1 ∧ n / 1099511627776 % 256 = c2 ∧ n / 4294967296 % 256 = c3 ∧ n / 16777216 % 256 = c4 ∧ n / 65536 % 256 = c5 ∧ n / 256 % 256 = c6 ∧ n % 256 = c7 := by
    rcases hv with rfl | rfl
    · refine ⟨?_, ?_, ?_, ?_, ?_, ?_, ?_, ?_⟩ <;> omega
    · refine ⟨?_, ?_, ?_, ?_, ?_, ?_, ?_, ?_⟩ <;> omega
  obtain ⟨g0, g1, g2, g3, g4, g5, g6, g7⟩ := g
  rw [g0, g1, g2, g3, g4, g5, g6, g7]
theorem nth_left {a b : List Int} {i : Nat} (h : i < a.length) : nth (a ++ b) i = nth a i := by
  unfold nth; rw [List.getD, List.getElem?_append_left h]; rfl
theorem nth_right {a b : List Int} (i : Nat) : nth (a ++ b) (a.length + i) = nth b i := by
  unfold nth; rw [List.getD, List.getElem?_append_right (by omega), show a.length + i - a.length = i by omega]; rfl
theorem bytes_len : ∀ l : List Int, (bytesW l).length = 8 * l.length := by
  intro l
  induction l with
  | nil => rfl
  | cons a l ih =>
    show (numB a ++ bytesW l).length = _
    rw [List.length_append, ih]
    show 8 + 8 * l.length = 8 * (l.length + 1)
    omega
theorem bytes_at : ∀ (l : List Int) (k i : Nat), k < l.length → i < 8 → nth (bytesW l) (8 * k + i) = nth (numB (nth l k)) i := by
  intro l
  induction l with
  | nil => intro k i h; exact absurd h (Nat.not_lt_zero _)
  | cons a l ih =>
    intro k i hk hi
    show nth (numB a ++ bytesW l) (8 * k + i) = _
    cases k with
    | zero => rw [nth_left (by show 8 * 0 + i < 8; omega), show 8 * 0 + i = i by omega]; rfl
    | succ k =>
      have e : 8 * (k + 1) + i = (numB a).length + (8 * k + i) := by show _ = 8 + _; omega
      rw [e, nth_right, ih k i (by simpa using hk) hi]; rfl
theorem opsW_len : ∀ l : List Kop, (opsW l).length = 10 * l.length := by
  intro l
  induction l with
  | nil => rfl
  | cons a l ih =>
    show (opW a ++ opsW l).length = _
    rw [List.length_append, ih]
    show 10 + 10 * l.length = 10 * (l.length + 1)
    omega
theorem opsW_at : ∀ (l : List Kop) (k i : Nat), k < l.length → i < 10 → nth (opsW l) (10 * k + i) = nth (opW (opAt l k)) i := by
  intro l
  induction l with
  | nil => intro k i h; exact absurd h (Nat.not_lt_zero _)
  | cons a l ih =>
    intro k i hk hi
    show nth (opW a ++ opsW l) (10 * k + i) = _
    cases k with
    | zero => rw [nth_left (by show 10 * 0 + i < 10; omega), show 10 * 0 + i = i by omega]; rfl
    | succ k =>
      have e : 10 * (k + 1) + i = (opW a).length + (10 * k + i) := by show _ = 10 + _; omega
      rw [e, nth_right, ih k i (by simpa using hk) hi]; rfl
theorem wordsK_len (K : Kn) : (wordsK K).length = 3 + 10 * K.ops.length := by
  unfold wordsK
  rw [List.length_append, opsW_len]; rfl
theorem words_op {K : Kn} {k i : Nat} (hk : k < K.ops.length) (hi : i < 10) : nth (wordsK K) (3 + 10 * k + i) = nth (opW (opAt K.ops k)) i := by
  unfold wordsK
  rw [show 3 + 10 * k + i = [K.pc, K.st, (K.ops.length : Int)].length + (10 * k + i) by show _ = 3 + _; omega, nth_right, opsW_at _ _ _ hk hi]
/-- all numbers of a kernel are of 64 bits -/
def KernIn (K : Kn) : Prop := I64 K.pc ∧ I64 K.st ∧ ∀ k, k < K.ops.length → ∀ i, i < 10 → I64 (nth (opW (opAt K.ops k)) i)
/-- M2: what is read has just these bytes -/
theorem there_bytes {b : List Int} (hb : ∀ i, i < b.length → 0 ≤ nth b i ∧ nth b i < 256) (ho : okB b = true) : bytesK (kernB b) = b := by
  unfold okB at ho
  simp only [Bool.and_eq_true, decide_eq_true_eq] at ho
  obtain ⟨⟨h1, h2⟩, h3⟩ := ho
  have h2 := inR_iff.1 h2
  have hlen : (kernB b).ops.length = (atB b 2).toNat := by unfold kernB; simp
  have hb2 : b.length = 24 + 80 * (atB b 2).toNat := by omega
  have hw : ∀ k, k < 3 + 10 * (atB b 2).toNat → nth (wordsK (kernB b)) k = atB b k := by
    intro k hk
    by_cases e0 : k = 0
    · subst e0; rfl
    by_cases e1 : k = 1
    · subst e1; rfl
    by_cases e2 : k = 2
    · subst e2
      show ((kernB b).ops.length : Int) = _
      rw [hlen]; omega
    have hq : (k - 3) / 10 < (kernB b).ops.length := by omega
    have e : k = 3 + 10 * ((k - 3) / 10) + (k - 3) % 10 := by omega
    have eop : opAt (kernB b).ops ((k - 3) / 10) = opB b ((k - 3) / 10) := by
      unfold opAt kernB
      show ((List.range (atB b 2).toNat).map (opB b)).getD _ Kop.nil = _
      rw [List.getD, List.getElem?_map, List.getElem?_range (by omega)]; rfl
    have hr : (k - 3) % 10 < 10 := by omega
    rw [e, words_op hq hr, eop]
    generalize (k - 3) / 10 = q
    generalize (k - 3) % 10 = i at hr
    match i, hr with
    | 0, _ => rfl
    | 1, _ => rfl
    | 2, _ => rfl
    | 3, _ => rfl
    | 4, _ => rfl
    | 5, _ => rfl
    | 6, _ => rfl
    | 7, _ => rfl
    | 8, _ => rfl
    | 9, _ => rfl
  have hl2 : (bytesK (kernB b)).length = b.length := by unfold bytesK; rw [bytes_len, wordsK_len, hlen]; omega
  refine List.ext_getElem hl2 fun j j1 j2 => ?_
  have n1 : nth (bytesK (kernB b)) j = (bytesK (kernB b))[j] := by unfold nth; rw [List.getD, List.getElem?_eq_getElem j1]; rfl
  have n2 : nth b j = b[j] := by unfold nth; rw [List.getD, List.getElem?_eq_getElem j2]; rfl
  rw [← n1, ← n2]
  have e : j = 8 * (j / 8) + j % 8 := by omega
  have hk : j / 8 < 3 + 10 * (atB b 2).toNat := by omega
  have hi : j % 8 < 8 := by omega
  have hbb : ∀ i, i < 8 → 0 ≤ nth b (8 * (j / 8) + i) ∧ nth b (8 * (j / 8) + i) < 256 := fun i hi => hb _ (by omega)
  have e3 : nth (bytesK (kernB b)) (8 * (j / 8) + j % 8) = nth (numB (atB b (j / 8))) (j % 8) := by
    unfold bytesK
    rw [bytes_at _ _ _ (by rw [wordsK_len, hlen]; exact hk) hi, hw _ hk]
  rw [e, e3]
  generalize j / 8 = q at *
  generalize j % 8 = i at *
  unfold atB
  rw [num_val (show 0 ≤ nth b (8 * q) ∧ nth b (8 * q) < 256 from hbb 0 (by omega)) (hbb 1 (by omega)) (hbb 2 (by omega)) (hbb 3 (by omega)) (hbb 4 (by omega)) (hbb 5 (by omega)) (hbb 6 (by omega)) (hbb 7 (by omega))]
  match i, hi with
  | 0, _ => rfl
  | 1, _ => rfl
  | 2, _ => rfl
  | 3, _ => rfl
  | 4, _ => rfl
  | 5, _ => rfl
  | 6, _ => rfl
  | 7, _ => rfl
end Go.Proofs.Ytjdbmldkgjcniac
