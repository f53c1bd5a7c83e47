/- The contracts of a running machine's reading: a register's number, the list that is due, where a word lies, what an Op comes to; nothing that was there is changed. -/
import Derived.Test.YtlgphgfldfjkkaaKernMach
import Derived.Test.YtlgphgfldfjkkaaOpsBelow
import Derived.Test.YtlgphgfldfjkkaaIndex
import Derived.Deep.QuietTactic
import Derived.BigQuiet
namespace Go.Proofs.Ytlgphgfldfjkkaa
open Go.RowKit Go.Joins
set_option linter.unusedVariables false
set_option linter.unusedSimpArgs false

/-- what is static: the Logs, and where the words' rows lie -/
def StatM (c : Mc) (logs : List Int) (gm cm : Nat) (CM : Nat → Nat) (x : World) : Prop :=
  Ints x c.lv logs ∧ (0 < c.n → c.mv = .slice (some ⟨gm, 0, none⟩) c.n cm ∧ c.n ≤ cm ∧ cm ≤ maxLen ∧ gm < x.heap.size) ∧ ∀ i, i < c.n → x.cell? ⟨gm, i, none⟩ = some (.slice (some ⟨c.GM i, 0, none⟩) (c.lenM i) (CM i)) ∧ c.lenM i ≤ CM i ∧ CM i ≤ maxLen

set_option maxHeartbeats 400000 in
theorem number_at (A : Nat) (R r p : Int) (q : Nat) (w : World) (hc : w.cell? ⟨A, 6, none⟩ = some (.int .i64 R)) (hr : 0 ≤ r) (hr2 : r ≤ 200) (hp : 0 ≤ p) (hp2 : p ≤ 20000) (hR : 1 ≤ R) (hR2 : R ≤ 128) (hq : (r + p) % R = (q : Int)) :
    Calls Try.prog 87 #[.pointer (some ⟨A, 0, none⟩), .int .i64 r, .int .i64 p] w fun e w' => e = .returned (.int .i64 q) ∧ w' = w := by
  have hm : Int.tmod (r + p) R = (q : Int) := by rw [Int.tmod_eq_emod_of_nonneg (by omega)]; exact hq
  have hq2 : (q : Int) < R := by have := Int.emod_lt_of_pos (r + p) (by omega : 0 < R); omega
  have hR0 : ¬ R = 0 := by omega
  have HQ := hide hq
  clear hq
  go_enter Try.func87, Try.ntmps87
  go_wp2_with fail
  go_ret
  exact ⟨rfl, rfl⟩

set_option maxHeartbeats 400000 in
theorem dueAt_at (A T : Nat) (w : World) (hT : T ≤ 40000) :
    Calls Try.prog 83 #[.pointer (some ⟨A, 0, none⟩), .int .i64 T] w fun e w' => e = .returned (.pointer (some ⟨A, 14 + T % 6, none⟩)) ∧ w' = w := by
  have hm : Int.tmod (T : Int) 6 = ((T % 6 : Nat) : Int) := by rw [Int.tmod_eq_emod_of_nonneg (by omega)]; omega
  obtain ⟨q, hq⟩ : ∃ q, T % 6 = q := ⟨_, rfl⟩
  have hq6 : q < 6 := by omega
  rw [hq] at hm ⊢
  have HQ := hide hq
  clear hq
  go_enter Try.func83, Try.ntmps83
  go_wp2_with fail
  go_ret
  exact ⟨by simp, rfl⟩

set_option maxHeartbeats 1000000 in
theorem mword_any {c : Mc} {V : Nat → Value} {D : List Du} {f : Nat → Int} {m : Nat → Nat → Int} (w : World) (logs : List Int) (gm cm : Nat) (CM : Nat → Nat) (sl sg o d a b sp pl nn : Int) (i j : Nat) (T : Int)
    (hI : MInv c V D f m w) (hS : StatM c logs gm cm CM w) (hn : c.n = logs.length) (hi : i < c.n) (hj : idx sp pl T (nth logs i) = (j : Int)) (hjl : j < c.lenM i) (hlm : c.lenM i ≤ 32) :
    Calls Try.prog 85 #[.pointer (some ⟨c.A, 0, none⟩), .agg #[.int .i64 sl, .int .i64 sg, .int .i64 o, .int .i64 d, .int .i64 a, .int .i64 b, .int .i64 i, .int .i64 sp, .int .i64 pl, .int .i64 nn], .int .i64 T] w fun e w' =>
      e = .returned (.pointer (some ⟨c.GM i, j, none⟩)) ∧ Below w.heap.size w w' := by
  obtain ⟨-, ⟨-, -, -, c10, -, c12, -⟩, -⟩ := hI.cells
  have hAz := hI.A_lt
  obtain ⟨hL, hM, hrow⟩ := hS
  obtain ⟨hmv, m2, m3, hmz⟩ := hM (by omega)
  rw [hmv] at c12
  obtain ⟨la, lcap, hlv, ll, lm, lr, lc⟩ := hL
  rw [hlv] at c10
  obtain ⟨lb, lo, rfl, hlz, hlc⟩ := lc (by omega)
  have hlk := hlc i (by omega)
  obtain ⟨hmo, i2, i3⟩ := hrow i hi
  have hGz : c.GM i < w.heap.size := by have := (hI.min i hi).2.1; have := hI.keep.1; omega
  have e1 : (i : Int) < (c.n : Int) := by omega
  have e2 : (i : Int) < (logs.length : Int) := by omega
  have e3 : (j : Int) < (c.lenM i : Int) := by omega
  unfold maxLen at m3 lm i3
  generalize c.lenM i = lmi at *
  generalize nth logs i = lg at *
  generalize c.GM i = gi at *
  generalize c.A = A at *
  generalize c.n = n at *
  clear hI hM hrow lc hlc lr hmv hlv
  go_enter Try.func85, Try.ntmps85
  go_wp2_with fail
  go_big_quiet ((go_at_call 13; exact Calls.quiet_of_same (index_any _ _ _ _ _)))
  go_wp2_with fail
  go_ret
  exact ⟨rfl, (below_alloc1 _ _).trans (below_draws _ _ _)⟩

/-- what an Op comes to, in a pace and a turn -/
def comesV (logs : List Int) (R p T : Int) (f : Nat → Int) (m : Nat → Nat → Int) (x : Kop) : Int :=
  if x.o = 1 then x.nn else if x.o = 2 then T else if x.o = 3 then m x.ar.toNat (idx x.sp x.pl T (nth logs x.ar.toNat)).toNat else if x.o = 4 then f ((x.a + p) % R).toNat
  else opv (x.o - 10) (f ((x.a + p) % R).toNat) (f ((x.b + p) % R).toNat)
theorem comesV_valK (logs : List Int) (R pc now : Int) (f : Nat → Int) (m : Nat → Nat → Int) (x : Kop) : valK logs R pc now f m x = comesV logs R (now / pc) (now / pc - x.sg) f m x := rfl

set_option maxHeartbeats 400000 in
theorem mcomes_1 (A : Nat) (sl sg d a b ar sp pl nn p T : Int) (w : World) :
    Calls Try.prog 84 #[.pointer (some ⟨A, 0, none⟩), .agg #[.int .i64 sl, .int .i64 sg, .int .i64 1, .int .i64 d, .int .i64 a, .int .i64 b, .int .i64 ar, .int .i64 sp, .int .i64 pl, .int .i64 nn], .int .i64 p, .int .i64 T] w fun e w' => e = .returned (.int .i64 nn) ∧ Below w.heap.size w w' := by
  go_enter Try.func84, Try.ntmps84
  go_wp2_with fail
  go_ret
  exact ⟨rfl, below_alloc1 _ _⟩
set_option maxHeartbeats 400000 in
theorem mcomes_2 (A : Nat) (sl sg d a b ar sp pl nn p T : Int) (w : World) :
    Calls Try.prog 84 #[.pointer (some ⟨A, 0, none⟩), .agg #[.int .i64 sl, .int .i64 sg, .int .i64 2, .int .i64 d, .int .i64 a, .int .i64 b, .int .i64 ar, .int .i64 sp, .int .i64 pl, .int .i64 nn], .int .i64 p, .int .i64 T] w fun e w' => e = .returned (.int .i64 T) ∧ Below w.heap.size w w' := by
  go_enter Try.func84, Try.ntmps84
  go_wp2_with fail
  go_ret
  exact ⟨rfl, below_alloc1 _ _⟩
set_option maxHeartbeats 1000000 in
theorem mcomes_3 {c : Mc} {V : Nat → Value} {D : List Du} {f : Nat → Int} {m : Nat → Nat → Int} (w : World) (logs : List Int) (gm cm : Nat) (CM : Nat → Nat) (sl sg d a b sp pl nn p : Int) (i j : Nat) (T : Int)
    (hI : MInv c V D f m w) (hS : ∀ x, KeptM c x → StatM c logs gm cm CM x) (hn : c.n = logs.length) (hi : i < c.n) (hj : idx sp pl T (nth logs i) = (j : Int)) (hjl : j < c.lenM i) (hlm : c.lenM i ≤ 32) :
    Calls Try.prog 84 #[.pointer (some ⟨c.A, 0, none⟩), .agg #[.int .i64 sl, .int .i64 sg, .int .i64 3, .int .i64 d, .int .i64 a, .int .i64 b, .int .i64 i, .int .i64 sp, .int .i64 pl, .int .i64 nn], .int .i64 p, .int .i64 T] w fun e w' => e = .returned (.int .i64 (m i j)) ∧ Below w.heap.size w w' := by
  have HI := hide hI
  have HS := hide hS
  clear hI hS
  go_enter Try.func84, Try.ntmps84
  go_wp2_with fail
  have hI2 := HI.out.below (below_alloc1 w (.cells #[.int .i64 sl, .int .i64 sg, .int .i64 3, .int .i64 d, .int .i64 a, .int .i64 b, .int .i64 i, .int .i64 sp, .int .i64 pl, .int .i64 nn] 68))
  refine (mword_any _ logs gm cm CM sl sg 3 d a b sp pl nn i j T hI2 (HS.out _ hI2.keep) hn hi hj hjl hlm).mono ?_
  rintro e w2 ⟨rfl, hb⟩
  have hcell := ((hI2.below hb).min i hi).2.2.cell hjl
  have HB := hide ((below_alloc1 w (.cells #[.int .i64 sl, .int .i64 sg, .int .i64 3, .int .i64 d, .int .i64 a, .int .i64 b, .int .i64 i, .int .i64 sp, .int .i64 pl, .int .i64 nn] 68)).trans (hb.mono (by simp)))
  clear hb hI2
  go_wp2_with fail
  go_ret
  exact ⟨rfl, HB.out⟩
/-- a register's number is one of them -/
theorem number_in {a p R : Int} (hR : 1 ≤ R) : (a + p) % R = (((a + p) % R).toNat : Int) ∧ ((a + p) % R).toNat < R.toNat := by
  have h1 := Int.emod_nonneg (a + p) (by omega : R ≠ 0)
  have h2 := Int.emod_lt_of_pos (a + p) (by omega : 0 < R)
  omega
set_option maxHeartbeats 2000000 in
theorem mcomes_4 {c : Mc} {V : Nat → Value} {D : List Du} {f : Nat → Int} {m : Nat → Nat → Int} (w : World) (sl sg d a b ar sp pl nn p T : Int) (hI : MInv c V D f m w) (hR : (c.R : Int) = c.t.r) (hr1 : 1 ≤ c.t.r) (hr2 : c.t.r ≤ 128) (ha : 0 ≤ a) (ha2 : a ≤ 200) (hb : 0 ≤ b) (hb2 : b ≤ 200) (hp : 0 ≤ p) (hp2 : p ≤ 20000) :
    Calls Try.prog 84 #[.pointer (some ⟨c.A, 0, none⟩), .agg #[.int .i64 sl, .int .i64 sg, .int .i64 4, .int .i64 d, .int .i64 a, .int .i64 b, .int .i64 ar, .int .i64 sp, .int .i64 pl, .int .i64 nn], .int .i64 p, .int .i64 T] w fun e w' => e = .returned (.int .i64 (f ((a + p) % c.t.r).toNat)) ∧ Below w.heap.size w w' := by
  obtain ⟨⟨-, -, -, -, -, -, c6⟩, ⟨-, -, -, -, c11, -, -⟩, -⟩ := hI.cells
  obtain ⟨qa, qa2⟩ := number_in (a := a) (p := p) hr1
  obtain ⟨qb, qb2⟩ := number_in (a := b) (p := p) hr1
  have ra := hI.regs.cell (i := ((a + p) % c.t.r).toNat) (by omega)
  have rb := hI.regs.cell (i := ((b + p) % c.t.r).toNat) (by omega)
  have hgz := hI.regs.lt
  have hAz := hI.A_lt
  have hcr := hI.hr.2.2.2
  have hcr1 := hI.hr.2.2.1
  unfold maxLen at hcr
  generalize ((a + p) % c.t.r).toNat = ia at *
  generalize ((b + p) % c.t.r).toNat = ib at *
  have ea : (ia : Int) < (c.R : Int) := by omega
  have eb : (ib : Int) < (c.R : Int) := by omega
  have HQA := hide qa
  have HQB := hide qb
  have HRR := hide hR
  generalize c.A = A at *
  generalize c.gr = gr at *
  clear hI qa qb hR
  go_enter Try.func84, Try.ntmps84
  go_wp2_with fail
  go_big_quiet ((go_at_call 87; exact Calls.quiet_of_same (number_at _ c.t.r _ _ _ _ (by go_simp) (by first | exact ha | exact hb) (by first | exact ha2 | exact hb2) hp hp2 hr1 hr2 (by first | exact HQA.out | exact HQB.out))))
  go_wp2_with fail
  go_ret
  exact ⟨rfl, (below_alloc1 _ _).trans (below_draws _ _ _)⟩
set_option maxHeartbeats 2000000 in
theorem mcomes_op {c : Mc} {V : Nat → Value} {D : List Du} {f : Nat → Int} {m : Nat → Nat → Int} (w : World) (sl sg o d a b ar sp pl nn p T : Int) (hI : MInv c V D f m w) (hR : (c.R : Int) = c.t.r) (hr1 : 1 ≤ c.t.r) (hr2 : c.t.r ≤ 128) (ha : 0 ≤ a) (ha2 : a ≤ 200) (hb : 0 ≤ b) (hb2 : b ≤ 200) (hp : 0 ≤ p) (hp2 : p ≤ 20000) (o1 : 11 ≤ o) (o2 : o ≤ 18) :
    Calls Try.prog 84 #[.pointer (some ⟨c.A, 0, none⟩), .agg #[.int .i64 sl, .int .i64 sg, .int .i64 o, .int .i64 d, .int .i64 a, .int .i64 b, .int .i64 ar, .int .i64 sp, .int .i64 pl, .int .i64 nn], .int .i64 p, .int .i64 T] w fun e w' => e = .returned (.int .i64 (opv (o - 10) (f ((a + p) % c.t.r).toNat) (f ((b + p) % c.t.r).toNat))) ∧ Below w.heap.size w w' := by
  obtain ⟨⟨-, -, -, -, -, -, c6⟩, ⟨-, -, -, -, c11, -, -⟩, -⟩ := hI.cells
  obtain ⟨qa, qa2⟩ := number_in (a := a) (p := p) hr1
  obtain ⟨qb, qb2⟩ := number_in (a := b) (p := p) hr1
  have ra := hI.regs.cell (i := ((a + p) % c.t.r).toNat) (by omega)
  have rb := hI.regs.cell (i := ((b + p) % c.t.r).toNat) (by omega)
  have hgz := hI.regs.lt
  have hAz := hI.A_lt
  have hcr := hI.hr.2.2.2
  have hcr1 := hI.hr.2.2.1
  unfold maxLen at hcr
  generalize ((a + p) % c.t.r).toNat = ia at *
  generalize ((b + p) % c.t.r).toNat = ib at *
  have ea : (ia : Int) < (c.R : Int) := by omega
  have eb : (ib : Int) < (c.R : Int) := by omega
  have q1 : (o == 1) = false := beq_eq_false_iff_ne.2 (by omega)
  have q2 : (o == 2) = false := beq_eq_false_iff_ne.2 (by omega)
  have q3 : (o == 3) = false := beq_eq_false_iff_ne.2 (by omega)
  have q4 : (o == 4) = false := beq_eq_false_iff_ne.2 (by omega)
  have HQA := hide qa
  have HQB := hide qb
  have HRR := hide hR
  generalize c.A = A at *
  generalize c.gr = gr at *
  clear hI qa qb hR
  go_enter Try.func84, Try.ntmps84
  go_wp2_with fail
  go_big_quiet ((go_at_call 87; exact Calls.quiet_of_same (number_at _ c.t.r _ _ _ _ (by go_simp) (by first | exact ha | exact hb) (by first | exact ha2 | exact hb2) hp hp2 hr1 hr2 (by first | exact HQA.out | exact HQB.out))))
  go_wp2_with fail
  refine (opb_any _ _ _ _).mono ?_
  rintro e w4 ⟨rfl, hbw⟩
  have HB := hide (((below_alloc1 w _).trans (below_draws _ _ _)).trans (hbw.mono (by simp)))
  clear hbw
  go_wp2_with fail
  go_ret
  exact ⟨rfl, HB.out⟩
end Go.Proofs.Ytlgphgfldfjkkaa
