/- Ref5B: texts that are built as one: Ref5Wrong, Ref5Done, KernRuns, KernNone. -/
import Derived.Test.YtbpaffkkphacdabGreatRef5May
import Derived.Test.YtbpaffkkphacdabGreatRef5A
import Derived.Test.YtbpaffkkphacdabGreatRef5Play
import Derived.Test.YtbpaffkkphacdabGreatRef3A
/- The contract of the document's own answer on what is wrong with a run of a kernel; nothing that was there is changed. -/
namespace Go.Proofs.YtbpaffkkphacdabGreat
open Go.RowKit Go.Joins
set_option linter.unusedVariables false

/-- E2: what is wrong -/
def wrongK (t : Tg) (K : Kn) (regs : Nat) (M : List (List Int)) (turns : Int) : Int :=
  if hasLogs M = true ∧ mayK t K (logsOf M) = true ∧ (regs : Int) = t.r then (if 0 ≤ turns ∧ turns ≤ 200 then 0 else 3) else 2

end Go.Proofs.YtbpaffkkphacdabGreat
/- The document's own run of a kernel for every machine and kernel in memory; and the law's own measure of work. -/
namespace Go.Proofs.YtbpaffkkphacdabGreat
open Go.RowKit Go.Joins
set_option linter.unusedVariables false

theorem wrongK_parts {t : Tg} {K : Kn} {n : Nat} {M : List (List Int)} {turns : Int} (h : wrongK t K n M turns = 0) : hasLogs M = true ∧ mayK t K (logsOf M) = true ∧ (n : Int) = t.r ∧ 0 ≤ turns ∧ turns ≤ 200 := by
  unfold wrongK at h
  split at h
  · rename_i h1
    split at h
    · rename_i h2; exact ⟨h1.1, h1.2.1, h1.2.2, h2.1, h2.2⟩
    · exact absurd h (by decide)
  · exact absurd h (by decide)
theorem kplay_any (t : Tg) (kv rv mv : Value) (K : Kn) (R : List Int) (M : List (List Int)) (turns : Int) (w : World) (hK : KernV w kv K) (hR : Ints w rv R) (hM : IntRows w mv M) (hw : wrongK t K R.length M turns = 0) (hnn : ∀ x ∈ K.ops, I64 x.nn) :
    Calls Tryz.prog 24 #[.agg t.cells, kv, rv, mv, .int .i64 turns] w fun e w' => ∃ rv' mv', e = .returned (.tuple #[rv', mv']) ∧ Ints w' rv' (regsOf R.length (playK t K (logsOf M) turns R M)) ∧ IntRows w' mv' (wordsOf M (playK t K (logsOf M) turns R M)) ∧ Below w.heap.size w w' := by
  obtain ⟨h1, h2, h3, h4, h5⟩ := wrongK_parts hw
  obtain ⟨m1, m2, m3, m4, m5, m6, m7, m8⟩ := mayK_parts h2
  obtain ⟨p0, p1, p2, q0, q1, q2, r⟩ := t
  obtain ⟨pc, st, ops⟩ := K
  dsimp only at m2 m3 m4 m5 h3
  obtain ⟨PC, rfl⟩ := Int.eq_ofNat_of_zero_le (show 0 ≤ pc by omega)
  obtain ⟨ST, rfl⟩ := Int.eq_ofNat_of_zero_le (show 0 ≤ st by omega)
  obtain ⟨T, rfl⟩ := Int.eq_ofNat_of_zero_le h4
  subst h3
  have hR' := hR
  have hM' := hM
  obtain ⟨ov, rfl, hO⟩ := hK
  have hO' := hO
  obtain ⟨ra, rc, rfl, -⟩ := hR'
  obtain ⟨ma, mc, rfl, -⟩ := hM'
  obtain ⟨ka, kc, rfl, -⟩ := hO'
  exact kplay_seven p0 p1 p2 q0 q1 q2 R.length PC ST T ops ka kc ra rc R ma mc M w hO hR hM h2 h1 rfl (by omega) hnn

set_option maxHeartbeats 400000 in
theorem work_nat (PC ST turns P : Nat) (ov : Value) (w : World) (h1 : PC ≤ 200) (h2 : ST ≤ 1001) (h3 : turns ≤ 200) (hP : ((turns : Int) + (ST : Int)) * (PC : Int) = (P : Int)) (hP2 : P ≤ 300000) :
    Calls Tryz.prog 8 #[.agg #[.int .i64 PC, .int .i64 ST, ov], .int .i64 turns] w fun e w' => e = .returned (.bool (decide (20000 < (P : Int)))) ∧ Below w.heap.size w w' := by
  have hw : IntKind.i64.wrap (((turns : Int) + (ST : Int)) * (PC : Int)) = (P : Int) := by rw [hP, IntKind.wrap_i64]; omega
  have e1 : ¬ (300 : Int) < (turns : Int) := by omega
  have e2 : ¬ (2000 : Int) < (ST : Int) := by omega
  have e3 : ¬ (300 : Int) < (PC : Int) := by omega
  have d1 : decide ((300 : Int) < (turns : Int)) = false := decide_eq_false e1
  have d2 : decide ((2000 : Int) < (ST : Int)) = false := decide_eq_false e2
  have d3 : decide ((300 : Int) < (PC : Int)) = false := decide_eq_false e3
  clear hP
  by_cases hb : (20000 : Int) < (P : Int)
  · rw [decide_eq_true hb]
    go_enter Tryz.func8, Tryz.ntmps8
    go_wp2_with fail
    go_ret
    exact ⟨by simp, below_alloc1 _ _⟩
  · rw [decide_eq_false hb]
    go_enter Tryz.func8, Tryz.ntmps8
    go_wp2_with fail
    go_ret
    exact ⟨by simp, below_alloc1 _ _⟩
theorem work_any (t : Tg) (K : Kn) (n : Nat) (M : List (List Int)) (turns : Int) (ov : Value) (w : World) (h : wrongK t K n M turns = 0) :
    Calls Tryz.prog 8 #[.agg #[.int .i64 K.pc, .int .i64 K.st, ov], .int .i64 turns] w fun e w' => e = .returned (.bool (decide (20000 < (turns + K.st) * K.pc))) ∧ Below w.heap.size w w' := by
  obtain ⟨h1, h2, h3, h4, h5⟩ := wrongK_parts h
  obtain ⟨m1, m2, m3, m4, m5, m6, m7, m8⟩ := mayK_parts h2
  obtain ⟨pc, st, ops⟩ := K
  dsimp only at m2 m3 m4 m5 ⊢
  obtain ⟨PC, rfl⟩ := Int.eq_ofNat_of_zero_le (show 0 ≤ pc by omega)
  obtain ⟨ST, rfl⟩ := Int.eq_ofNat_of_zero_le (show 0 ≤ st by omega)
  obtain ⟨T, rfl⟩ := Int.eq_ofNat_of_zero_le h4
  have hP : ((T : Int) + (ST : Int)) * (PC : Int) = (((T + ST) * PC : Nat) : Int) := by rw [← Int.natCast_add]; exact (Int.natCast_mul _ _).symm
  rw [hP]
  exact work_nat PC ST T ((T + ST) * PC) ov w (by omega) (by omega) (by omega) hP (Nat.le_trans (Nat.mul_le_mul (show T + ST ≤ 1201 by omega) (show PC ≤ 200 by omega)) (by decide))
end Go.Proofs.YtbpaffkkphacdabGreat
/- KernelRuns' walk: for every machine, kernel, registers, words and turns in memory the law returns true, if the program's May and Run answer as MayC and RunC say; nothing that was there is changed. -/
namespace Go.Proofs.YtbpaffkkphacdabGreat
open Go.RowKit Go.Joins
set_option linter.unusedVariables false

/-- how the program tells whether a kernel may be -/
def MayC : Prop := ∀ (t : Tg) (kv : Value) (K : Kn) (la : Option Addr) (lc : Nat) (logs : List Int) (w : World), KernV w kv K → Ints w (.slice la logs.length lc) logs →
  Calls Tryz.prog 33 #[.agg t.cells, kv, .slice la logs.length lc] w fun e w' => e = .returned (.bool (mayK t K logs)) ∧ Below w.heap.size w w'
end Go.Proofs.YtbpaffkkphacdabGreat
/- KernelNone's walk: for every machine, kernel, registers and words in memory the law returns true, if the program's Run answers as RunC says: with no turns nothing becomes anything else; nothing that was there is changed. -/
namespace Go.Proofs.YtbpaffkkphacdabGreat
open Go.RowKit Go.Joins
set_option linter.unusedVariables false

def wn (W : World) (g : Nat) : World := (((W.alloc (.cells #[.int .i64 0, .int .i64 0, .int .i64 2, .int .i64 0, .int .i64 0, .int .i64 0, .int .i64 0, .int .i64 0, .int .i64 0, .int .i64 0] 37)).alloc (.cells #[.int .i64 1, .int .i64 1, .slice (some ⟨g, 0, none⟩) 1 1] 31)).alloc (.cells #[.int .i64 1, .int .i64 1, .int .i64 1, .int .i64 1, .int .i64 1, .int .i64 1, .int .i64 1] 28)).alloc (.cells #[.int .i64 7] 2)
end Go.Proofs.YtbpaffkkphacdabGreat
