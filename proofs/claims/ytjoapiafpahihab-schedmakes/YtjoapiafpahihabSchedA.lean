/- SchedA: texts that are built as one: PlanMath, SchedMath, SchedSmall, SchedMap, SchedUK. -/
import Derived.Test.YtjoapiafpahihabSounds
import Derived.Test.YtjoapiafpahihabRef8A
import Derived.Test.YtjoapiafpahihabMaths
import Derived.Test.YtjoapiafpahihabRef2L
import Derived.Test.YtjoapiafpahihabBase
import Derived.Deep.RegionHeld3
import Derived.DeepKeys4
/- One statement behind the other: a plan that is legal at every pace from the Waits of all on, and of which each turn is over when the next one begins; no Go in sight. -/
namespace Go.Proofs.Ytjoapiafpahihab
set_option linter.unusedVariables false
variable {L : Lp} {t : Tg} {P : Int}

/-- each statement when the one ahead of it is there -/
def seqT (L : Lp) (t : Tg) : List Int := (List.range L.body.length).map (waitsL L t)
theorem seqT_at {s : Nat} (h : s < L.body.length) : nth (seqT L t) s = waitsL L t s := nth_range h
theorem waits_step (L : Lp) (t : Tg) (k : Nat) : waitsL L t (k + 1) = waitsL L t k + waitT t (stAt L.body k).o := rfl
theorem waits_lt (ht : mayT t = true) : ∀ n s, s < n → waitsL L t s + waitT t (stAt L.body s).o ≤ waitsL L t n := by
  intro n
  induction n with
  | zero => intro s h; omega
  | succ n ih =>
    intro s h
    rw [waits_step]
    have h1 := wait_le (t := t) (stAt L.body n).o ht
    by_cases e : s = n
    · subst e; omega
    · have := ih s (by omega); omega
theorem cnt_one {p : Nat → Bool} {i : Nat} : ∀ n, (∀ j, j < n → p j = true → j = i) → cnt p n ≤ 1 ∧ (n ≤ i → cnt p n = 0) := by
  intro n
  induction n with
  | zero => intro _; exact ⟨Nat.zero_le _, fun _ => rfl⟩
  | succ n ih =>
    intro h
    obtain ⟨h1, h2⟩ := ih fun j hj => h j (by omega)
    have e : cnt p (n + 1) = cnt p n + (if p n = true then 1 else 0) := rfl
    by_cases hp : p n = true
    · have := h n (by omega) hp
      rw [if_pos hp] at e
      have := h2 (by omega)
      exact ⟨by omega, fun _ => by omega⟩
    · rw [if_neg hp] at e
      exact ⟨by omega, fun _ => by have := h2 (by omega); omega⟩
/-- an edge's Wait is not above its first statement's -/
theorem edge_wait (ht : mayT t = true) {e : Ed} (he : e ∈ edgesD L t) : e.wt ≤ waitT t (stAt L.body e.fr.toNat).o := by
  obtain ⟨fr, to, b, x, h1, h2, rfl, h3⟩ := frD_mem _ he
  have hw := (wait_le (t := t) (stAt L.body fr).o ht).1
  show (x : Int) ≤ waitT t (stAt L.body ((fr : Int)).toNat).o
  rw [Int.toNat_natCast]
  unfold isD at h3
  rw [Bool.or_eq_true] at h3
  rcases h3 with h3 | h3
  · rw [Bool.and_eq_true] at h3
    have := of_decide_eq_true h3.2
    omega
  · rw [Bool.and_eq_true, Bool.and_eq_true] at h3
    have h4 := of_decide_eq_true h3.1.2
    have h5 : waitD (stAt L.body fr) ≤ 1 := by unfold waitD; split <;> omega
    omega
theorem seq_over (ht : mayT t = true) (hP : allW L t ≤ P) : ∀ s, s < L.body.length → nth (seqT L t) s + waitT t (stAt L.body s).o ≤ P := by
  intro s hs
  rw [seqT_at hs]
  exact Int.le_trans (waits_lt ht _ s hs) hP
theorem all_le (hm : mayB L = true) (ht : mayT t = true) : 1 ≤ allW L t ∧ allW L t ≤ 96 := by
  obtain ⟨-, h1, h16, -⟩ := may_parts hm
  have h2 := (waits_le (L := L) ht L.body.length).2
  have h3 := waits_lt (L := L) ht L.body.length 0 (by omega)
  have h4 := (wait_le (t := t) (stAt L.body 0).o ht).1
  have h5 : waitsL L t 0 = 0 := rfl
  unfold allW
  omega
/-- H2: it is legal -/
theorem seq_legal (hm : mayB L = true) (ht : mayT t = true) (hP : allW L t ≤ P) (hP2 : P ≤ 200) : legalD L t P (seqT L t) = true := by
  obtain ⟨ha1, ha2⟩ := all_le hm ht
  have hlen : (seqT L t).length = L.body.length := by unfold seqT; simp
  have hov := seq_over ht hP
  have hin : ∀ s, s < L.body.length → 0 ≤ nth (seqT L t) s ∧ nth (seqT L t) s < P := by
    intro s hs
    have h1 := hov s hs
    have h2 := (wait_le (t := t) (stAt L.body s).o ht).1
    have h3 := (waits_le (L := L) ht s).1
    rw [seqT_at hs] at h1 ⊢
    omega
  unfold legalD
  rw [hm, ht, inR_yes (show 1 ≤ P ∧ P ≤ 200 by omega), hlen]
  simp only [decide_true, Bool.true_and, Bool.and_eq_true]
  constructor
  · refine allN_mk fun s hs => ?_
    unfold timeL
    rw [Bool.and_eq_true]
    obtain ⟨t1, t2⟩ := hin s hs
    refine ⟨inR_yes ⟨t1, by omega⟩, decide_eq_true ?_⟩
    have hc : manyL L P (seqT L t) s ≤ 1 := by
      unfold manyL
      refine (cnt_one (i := s) _ fun j hj hp => ?_).1
      rw [hlen] at hj
      obtain ⟨j1, j2⟩ := hin j hj
      unfold meetL at hp
      rw [Bool.and_eq_true] at hp
      have h1 := of_decide_eq_true hp.1
      rw [Int.tmod_eq_of_lt j1 j2, Int.tmod_eq_of_lt t1 t2, seqT_at hj, seqT_at hs] at h1
      have w1 := (wait_le (t := t) (stAt L.body j).o ht).1
      have w2 := (wait_le (t := t) (stAt L.body s).o ht).1
      by_cases e1 : j < s
      · have := waits_lt (L := L) ht s j e1; omega
      · by_cases e2 : s < j
        · have := waits_lt (L := L) ht j s e2; omega
        · omega
    have hu : 1 ≤ unitsT t (clsv (stAt L.body s).o) := by
      obtain ⟨u1, u2, u3, -, -⟩ := mayT_parts ht
      have u1 := unit_iff u1
      have u2 := unit_iff u2
      have u3 := unit_iff u3
      unfold unitsT
      split
      · omega
      · split <;> omega
    omega
  · refine allN_mk fun i hi => ?_
    have he : edAt (edgesD L t) i ∈ edgesD L t := by unfold edAt; rw [List.getD, List.getElem?_eq_getElem hi]; exact List.getElem_mem _
    have hw := edge_wait ht he
    obtain ⟨fr, to, bk, wt, e, f1, f2, f3, -⟩ := edges_ok hm _ he
    refine decide_eq_true ?_
    rw [e] at hw ⊢
    simp only [Int.toNat_natCast] at hw ⊢
    have h1 := hov fr f1
    have h2 := (hin to f2).1
    by_cases e0 : bk = 0
    · have h3 := waits_lt (L := L) ht to fr (f3 e0)
      rw [seqT_at f1, seqT_at f2, e0]
      omega
    · have h3 : 1 * P ≤ (bk : Int) * P := Int.mul_le_mul_of_nonneg_right (by omega) (by omega)
      omega
end Go.Proofs.Ytjoapiafpahihab
/- A planner that puts statements in, one by one, and takes some out again: what is in keeps all edges and finds units enough; when all are in, the plan is legal; no Go in sight. -/
namespace Go.Proofs.Ytjoapiafpahihab
set_option linter.unusedVariables false

/-- how many of those that are in are of class c, and leave r -/
def inC (L : Lp) (P : Int) (I : Nat → Bool) (T : Nat → Int) (c r : Int) : Nat := cnt (fun i => I i && (decide (clsv (stAt L.body i).o = c) && decide ((T i).tmod P = r))) L.body.length
def gapP (P : Int) (e : Ed) : Int := e.wt - e.bk * P
/-- one more, one less, another value -/
def upB (I : Nat → Bool) (a : Nat) (b : Bool) : Nat → Bool := fun j => if j = a then b else I j
def upI (T : Nat → Int) (a : Nat) (x : Int) : Nat → Int := fun j => if j = a then x else T j
/-- the edges between those that are in are kept, those from a only if they are among the first k -/
def keptP (es : List Ed) (P : Int) (I : Nat → Bool) (T : Nat → Int) (a k : Nat) : Prop :=
  ∀ j, j < es.length → (j < k ∨ (edAt es j).fr.toNat ≠ a) → I (edAt es j).fr.toNat = true → I (edAt es j).to.toNat = true → T (edAt es j).fr.toNat + gapP P (edAt es j) ≤ T (edAt es j).to.toNat
/-- what is so between two calls -/
structure SOk (L : Lp) (t : Tg) (P : Int) (I : Nat → Bool) (T N : Nat → Int) (a k : Nat) : Prop where
  times : ∀ i, i < L.body.length → 0 ≤ T i ∧ T i ≤ 1000
  nexts : ∀ i, i < L.body.length → 0 ≤ N i ∧ N i ≤ 1001
  units : ∀ c r, (inC L P I T c r : Int) ≤ unitsT t c
  kept : keptP (edgesD L t) P I T a k

theorem cnt_ups {p q : Nat → Bool} {a : Nat} : ∀ n, (∀ i, i < n → i ≠ a → q i = p i) → cnt q n + (if a < n ∧ p a = true then 1 else 0) = cnt p n + (if a < n ∧ q a = true then 1 else 0) := by
  intro n
  induction n with
  | zero => intro _; simp [cnt]
  | succ n ih =>
    intro h
    have h1 := ih fun i hi => h i (by omega)
    show cnt q n + (if q n = true then 1 else 0) + _ = cnt p n + (if p n = true then 1 else 0) + _
    by_cases e : a = n
    · subst e
      have e1 : ¬ (a < a ∧ p a = true) := by omega
      have e2 : ¬ (a < a ∧ q a = true) := by omega
      rw [if_neg e1, if_neg e2] at h1
      by_cases hp : p a = true <;> by_cases hq : q a = true <;> simp [hp, hq] <;> omega
    · rw [h n (by omega) (fun h => e h.symm)]
      have h2 : (a < n + 1) ↔ (a < n) := by omega
      simp only [h2]
      omega
theorem in_put {L : Lp} {P : Int} {I : Nat → Bool} {T : Nat → Int} {a : Nat} {x : Int} (ha : a < L.body.length) (hI : I a = false) (c r : Int) :
    inC L P (upB I a true) (upI T a x) c r = inC L P I T c r + (if clsv (stAt L.body a).o = c ∧ x.tmod P = r then 1 else 0) := by
  have h := cnt_ups (p := fun i => I i && (decide (clsv (stAt L.body i).o = c) && decide ((T i).tmod P = r))) (q := fun i => upB I a true i && (decide (clsv (stAt L.body i).o = c) && decide ((upI T a x i).tmod P = r))) (a := a) L.body.length (fun i _ hi => by simp [upB, upI, hi])
  simp only [ha, hI, upB, upI, if_true, Bool.false_and, Bool.true_and, Bool.and_eq_true, decide_eq_true_eq, true_and, Bool.false_eq_true, if_false] at h
  exact h
theorem in_out {L : Lp} {P : Int} {I : Nat → Bool} {T : Nat → Int} {a : Nat} (ha : a < L.body.length) (hI : I a = true) (c r : Int) :
    inC L P (upB I a false) T c r + (if clsv (stAt L.body a).o = c ∧ (T a).tmod P = r then 1 else 0) = inC L P I T c r := by
  have h := cnt_ups (p := fun i => I i && (decide (clsv (stAt L.body i).o = c) && decide ((T i).tmod P = r))) (q := fun i => upB I a false i && (decide (clsv (stAt L.body i).o = c) && decide ((T i).tmod P = r))) (a := a) L.body.length (fun i _ hi => by simp [upB, hi])
  simp only [ha, hI, upB, if_true, Bool.false_and, Bool.true_and, Bool.and_eq_true, decide_eq_true_eq, true_and, Bool.false_eq_true, if_false, Nat.add_zero, and_false] at h
  exact h
theorem cntI_put {I : Nat → Bool} {a n : Nat} (ha : a < n) (hI : I a = false) : cnt (upB I a true) n = cnt I n + 1 := by
  have h := cnt_ups (p := I) (q := upB I a true) (a := a) n (fun i _ hi => by simp [upB, hi])
  simpa [ha, hI, upB] using h
theorem cntI_out {I : Nat → Bool} {a n : Nat} (ha : a < n) (hI : I a = true) : cnt (upB I a false) n + 1 = cnt I n := by
  have h := cnt_ups (p := I) (q := upB I a false) (a := a) n (fun i _ hi => by simp [upB, hi])
  simpa [ha, hI, upB] using h
theorem sum_up {N : Nat → Int} {a : Nat} {x : Int} : ∀ n, sumN (upI N a x) n = sumN N n + (if a < n then x - N a else 0) := by
  intro n
  induction n with
  | zero => simp [sumN]
  | succ n ih =>
    show sumN (upI N a x) n + upI N a x n = sumN N n + N n + _
    rw [ih]
    by_cases e : n = a
    · subst e; simp [upI]; omega
    · have h2 : (a < n + 1) ↔ (a < n) := by omega
      simp only [h2]
      have : upI N a x n = N n := by simp [upI, e]
      rw [this]; omega
theorem sum_range {N : Nat → Int} {lo hi : Int} : ∀ n, (∀ i, i < n → lo ≤ N i ∧ N i ≤ hi) → (n : Int) * lo ≤ sumN N n ∧ sumN N n ≤ (n : Int) * hi := by
  intro n
  induction n with
  | zero => intro _; simp [sumN]
  | succ n ih =>
    intro h
    have h1 := ih fun i hi => h i (by omega)
    have h2 := h n (by omega)
    show _ ≤ sumN N n + N n ∧ sumN N n + N n ≤ _
    rw [Int.natCast_add, Int.add_mul, Int.add_mul]
    simp only [Int.natCast_one, Int.one_mul]
    omega

variable {L : Lp} {t : Tg} {P : Int} {I : Nat → Bool} {T N : Nat → Int}
/-- ahead of all -/
theorem SOk.start (ht : mayT t = true) (a k : Nat) : SOk L t P (fun _ => false) (fun _ => 0) (fun _ => 0) a k where
  times := fun _ _ => ⟨by decide, by decide⟩
  nexts := fun _ _ => ⟨by decide, by decide⟩
  units := fun c r => by
    have h1 : inC L P (fun _ => false) (fun _ => 0) c r = 0 := by
      rcases cnt_zero_or (fun i => (fun _ : Nat => false) i && (decide (clsv (stAt L.body i).o = c) && decide (((fun _ : Nat => (0 : Int)) i).tmod P = r))) L.body.length with h | ⟨i, _, h⟩
      · exact h
      · simp at h
    have := units_ge (c := c) ht
    omega
  kept := fun j _ _ h => by simp at h
/-- a statement is put in, where there is a unit, when all is there that it waits for -/
theorem SOk.put {a0 k0 a : Nat} {x : Int} (h : SOk L t P I T N a0 (edgesD L t).length) (ha : a < L.body.length) (hI : I a = false) (h0 : N a ≤ x) (h1 : x ≤ 1000)
    (hfull : (inC L P I T (clsv (stAt L.body a).o) (x.tmod P) : Int) ≠ unitsT t (clsv (stAt L.body a).o))
    (hready : ∀ j, j < (edgesD L t).length → (edAt (edgesD L t) j).to.toNat = a → I (edAt (edgesD L t) j).fr.toNat = true → T (edAt (edgesD L t) j).fr.toNat + gapP P (edAt (edgesD L t) j) ≤ x) :
    SOk L t P (upB I a true) (upI T a x) (upI N a (x + 1)) a 0 where
  times := fun i hi => by
    have h2 := h.nexts a ha
    have h3 := h.times i hi
    unfold upI
    split <;> omega
  nexts := fun i hi => by
    have h2 := h.nexts a ha
    have h3 := h.nexts i hi
    unfold upI
    split <;> omega
  units := fun c r => by
    rw [in_put ha hI]
    have h2 := h.units c r
    by_cases e : clsv (stAt L.body a).o = c ∧ x.tmod P = r
    · rw [if_pos e]
      rw [← e.1, ← e.2] at h2 ⊢
      omega
    · rw [if_neg e]; omega
  kept := fun j hj hor h2 h3 => by
    have hf : (edAt (edgesD L t) j).fr.toNat ≠ a := by rcases hor with h | h; exact absurd h (Nat.not_lt_zero _); exact h
    unfold upB at h2 h3
    rw [if_neg hf] at h2
    have e1 : upI T a x (edAt (edgesD L t) j).fr.toNat = T (edAt (edgesD L t) j).fr.toNat := by unfold upI; rw [if_neg hf]
    rw [e1]
    by_cases e : (edAt (edgesD L t) j).to.toNat = a
    · have := hready j hj e h2
      unfold upI; rw [if_pos e]; exact this
    · rw [if_neg e] at h3
      unfold upI; rw [if_neg e]
      exact h.kept j hj (.inl hj) h2 h3
/-- one that comes too early is taken out -/
theorem SOk.out {a k b : Nat} (h : SOk L t P I T N a k) (hb : b < L.body.length) (hI : I b = true) (hk : k < (edgesD L t).length) (he : (edAt (edgesD L t) k).to.toNat = b) : SOk L t P (upB I b false) T N a (k + 1) where
  times := h.times
  nexts := h.nexts
  units := fun c r => by
    have h1 := in_out (P := P) (T := T) hb hI c r
    have h2 := h.units c r
    omega
  kept := fun j hj hor h2 h3 => by
    have hg : ∀ i, upB I b false i = true → i ≠ b ∧ I i = true := fun i hi => by
      unfold upB at hi
      by_cases e : i = b
      · rw [if_pos e] at hi; cases hi
      · rw [if_neg e] at hi; exact ⟨e, hi⟩
    obtain ⟨n2, h2⟩ := hg _ h2
    obtain ⟨n3, h3⟩ := hg _ h3
    refine h.kept j hj ?_ h2 h3
    rcases hor with hor | hor
    · by_cases e : j = k
      · subst e; exact absurd he n3
      · exact .inl (by omega)
    · exact .inr hor
/-- one that need not be -/
theorem SOk.next {a k : Nat} (h : SOk L t P I T N a k) (hk : k < (edgesD L t).length) (hn : (edAt (edgesD L t) k).fr.toNat = a → I (edAt (edgesD L t) k).to.toNat = true → T a + gapP P (edAt (edgesD L t) k) ≤ T (edAt (edgesD L t) k).to.toNat) : SOk L t P I T N a (k + 1) where
  times := h.times
  nexts := h.nexts
  units := h.units
  kept := fun j hj hor h2 h3 => by
    by_cases e : (edAt (edgesD L t) j).fr.toNat = a
    · rcases hor with hor | hor
      · by_cases e2 : j = k
        · subst e2
          rw [e]; exact hn e h3
        · exact h.kept j hj (.inl (by omega)) h2 h3
      · exact absurd e hor
    · exact h.kept j hj (.inr e) h2 h3
theorem SOk.any {a k b : Nat} (h : SOk L t P I T N a k) (hk : (edgesD L t).length ≤ k) : SOk L t P I T N b (edgesD L t).length where
  times := h.times
  nexts := h.nexts
  units := h.units
  kept := fun j hj _ h2 h3 => h.kept j hj (.inl (by omega)) h2 h3
/-- all are in: H1 -/
theorem SOk.legal {a : Nat} (h : SOk L t P I T N a (edgesD L t).length) (hm : mayB L = true) (ht : mayT t = true) (h1 : 1 ≤ P) (h2 : P ≤ 200) (hall : ∀ i, i < L.body.length → I i = true) : legalD L t P ((List.range L.body.length).map T) = true := by
  have hlen : ((List.range L.body.length).map T).length = L.body.length := by simp
  have hn : ∀ i, i < L.body.length → nth ((List.range L.body.length).map T) i = T i := fun i hi => nth_range hi
  unfold legalD
  rw [hm, ht, inR_yes (show 1 ≤ P ∧ P ≤ 200 from ⟨h1, h2⟩), hlen]
  simp only [decide_true, Bool.true_and, Bool.and_eq_true]
  constructor
  · refine allN_mk fun s hs => ?_
    unfold timeL
    rw [Bool.and_eq_true, hn s hs]
    refine ⟨inR_yes (h.times s hs), decide_eq_true ?_⟩
    have e : manyL L P ((List.range L.body.length).map T) s = inC L P I T (clsv (stAt L.body s).o) ((T s).tmod P) := by
      unfold manyL inC
      rw [hlen]
      refine cnt_congr fun i hi => ?_
      unfold meetL
      rw [hn i hi, hn s hs, hall i hi, Bool.true_and, Bool.and_comm]
    rw [e]
    exact h.units _ _
  · refine allN_mk fun i hi => ?_
    have he : edAt (edgesD L t) i ∈ edgesD L t := by unfold edAt; rw [List.getD, List.getElem?_eq_getElem hi]; exact List.getElem_mem _
    obtain ⟨fr, to, bk, wt, e, f1, f2, f3, -⟩ := edges_ok hm _ he
    have h5 := h.kept i hi (.inl hi)
    refine decide_eq_true ?_
    rw [e] at h5 ⊢
    simp only [Int.toNat_natCast] at h5 ⊢
    rw [hn fr f1, hn to f2]
    have h6 := h5 (hall fr f1) (hall to f2)
    unfold gapP at h6
    simp only at h6
    omega
end Go.Proofs.Ytjoapiafpahihab
/- The contracts of package sched's small functions: within, gap, unitOf, numbersMay, edgesKept; nothing that was there is changed. -/
namespace Go.Proofs.Ytjoapiafpahihab
open Go.RowKit Go.Joins
set_option linter.unusedVariables false
set_option linter.unusedSimpArgs false
set_option maxRecDepth 8192
theorem below_dr1 (n : Nat) (w : World) : Below n w w.drew := below_draws _ _ 1

theorem swithin_any (n lo hi : Int) (w : World) :
    Calls Try.prog 30 #[.int .i64 n, .int .i64 lo, .int .i64 hi] w fun e w' => e = .returned (.bool (inR n lo hi)) ∧ w' = w := by
  by_cases h : lo ≤ n ∧ n ≤ hi
  · rw [inR_yes h]
    obtain ⟨h1, h2⟩ := h
    go_enter Try.func30, Try.ntmps30
    go_wp2
    go_ret
    exact ⟨rfl, rfl⟩
  · rw [inR_no h]
    by_cases h1 : lo ≤ n
    · have h2 : ¬ n ≤ hi := fun h2 => h ⟨h1, h2⟩
      clear h
      go_enter Try.func30, Try.ntmps30
      go_wp2
      go_ret
      exact ⟨rfl, rfl⟩
    · clear h
      go_enter Try.func30, Try.ntmps30
      go_wp2
      go_ret
      exact ⟨rfl, rfl⟩
theorem gap_any (fr to bk wt : Nat) (p : Int) (w : World) (h1 : bk ≤ 32) (h2 : wt ≤ 6) (h3 : 1 ≤ p) (h4 : p ≤ 200) :
    Calls Try.prog 57 #[.agg #[.int .i64 fr, .int .i64 to, .int .i64 bk, .int .i64 wt], .int .i64 p] w fun e w' => e = .returned (.int .i64 ((wt : Int) - (bk : Int) * p)) ∧ Below w.heap.size w w' := by
  have hpb1 : 0 ≤ (bk : Int) * p := Int.mul_nonneg (by omega) (by omega)
  have hpb2 : (bk : Int) * p ≤ 32 * 200 := Int.mul_le_mul (by omega) h4 (by omega) (by omega)
  go_enter Try.func57, Try.ntmps57
  go_wp2_with fail
  go_ret
  exact ⟨rfl, below_alloc1 _ _⟩
set_option maxHeartbeats 2000000 in
theorem unitOf_any (o xa xb ya yb ar sp pl nn tm p : Int) (w : World) (h0 : 0 ≤ tm) (h1 : tm ≤ 5000) (h3 : 1 ≤ p) (h4 : p ≤ 200) :
    Calls Try.prog 58 #[.agg #[.int .i64 o, .int .i64 xa, .int .i64 xb, .int .i64 ya, .int .i64 yb, .int .i64 ar, .int .i64 sp, .int .i64 pl, .int .i64 nn], .int .i64 tm, .int .i64 p] w fun e w' => e = .returned (.agg #[.int .i64 (clsv o), .int .i64 (tm.tmod p)]) ∧ Below w.heap.size w w' := by
  have HCL := hide (fun W => class_any o W)
  have hp0 : ¬ p = 0 := by omega
  have hm1 := Int.tmod_nonneg p h0
  have hm2 := Int.tmod_lt_of_pos tm (show 0 < p by omega)
  obtain ⟨rm, hrm⟩ : ∃ rm, tm.tmod p = rm := ⟨_, rfl⟩
  rw [hrm] at hm1 hm2 ⊢
  have hwr : wrap64 rm = rm := by unfold wrap64; omega
  obtain ⟨cn, hcn⟩ : ∃ cn, clsv o = cn := ⟨_, rfl⟩
  rw [hcn] at HCL ⊢
  clear hcn
  go_enter Try.func58, Try.ntmps58
  go_wp2_with fail
  refine wp_region_noPanic ?_
  refine region_until 7 (fun w' => w'.cell? ⟨w.heap.size, 0, none⟩ = some (.int .i64 o)) (by kernel_rfl) (by go_simp) (fun hHeld => ?_)
  refine utk (i := 0) rfl hHeld ?_
  try simp only [Act.put, List.setIfInBounds_toArray, List.set_cons_zero, List.set_cons_succ]
  refine utk (i := 1) rfl hHeld ?_
  try simp only [Act.put, List.setIfInBounds_toArray, List.set_cons_zero, List.set_cons_succ]
  refine utk (i := 3) rfl hHeld ?_
  try simp only [Act.put, List.setIfInBounds_toArray, List.set_cons_zero, List.set_cons_succ]
  refine utk (i := 4) rfl hHeld ?_
  try simp only [Act.put, List.setIfInBounds_toArray, List.set_cons_zero, List.set_cons_succ]
  refine utk (i := 5) rfl hHeld ?_
  try simp only [Act.put, List.setIfInBounds_toArray, List.set_cons_zero, List.set_cons_succ]
  refine until_one (i := 2) rfl (by kernel_rfl) (fun K hK => ?_)
  go_simp
  refine (HCL.out _).mono ?_
  rintro e w' ⟨rfl, hw'⟩
  have hw' := hw'.symm; subst hw'
  refine hK.out _ _ (.inr hHeld) ?_
  clear hK K
  try simp only [Act.put, List.setIfInBounds_toArray, List.set_cons_zero, List.set_cons_succ]
  refine utk (i := 6) rfl hHeld ?_
  try simp only [Act.put, List.setIfInBounds_toArray, List.set_cons_zero, List.set_cons_succ]
  refine until_one (i := 7) rfl (by kernel_rfl) (fun K hK => ?_)
  go_simp
  refine hK.out _ _ (.inl rfl) ?_
  clear hK K
  try simp only [Act.put, List.setIfInBounds_toArray, List.set_cons_zero, List.set_cons_succ]
  refine until_done (by kernel_rfl) ?_ _
  refine NoPanic.normal ?_
  go_wp2_with fail
  exact bodyPost_ret (v := .agg #[.int .i64 cn, .int .i64 rm]) (by simp [results, Try.results58, go_sem]) rfl ⟨rfl, (below_alloc2 _ _ _).drew⟩

end Go.Proofs.Ytjoapiafpahihab
/- Maps of the call's own from sched.unit (a class and a rest of the pace) to counts: a look-up, a count that becomes another; units counted as they come, against all at once. -/
namespace Go.Proofs.Ytjoapiafpahihab
open Go.RowKit Go.Joins
open Go.WideMaps (KeyLaw)
set_option linter.unusedVariables false
set_option linter.unusedSimpArgs false
set_option maxRecDepth 8192

theorem laidOutS : laidOutB Try.prog = true := by kernel_rfl
theorem sunitRow : (109 : TypeId) < Try.prog.types.size := of_decide_eq_true (by kernel_rfl)
theorem sunitWide : (match Try.prog.underlying 109 with | some (.array _ _) | some (.struct _) => true | _ => false) = true := by kernel_rfl
theorem sunitLaw : KeyLaw Try.prog 109 := deep_law_laid laidOutS (m := 2) (by omega) sunitRow (by kernel_rfl) sunitWide
theorem sunitZero (u : World) : (zeroValue 3).run Try.prog u = .ok (.int .i64 0) u := by kernel_rfl
theorem sunitKey (a b : Int) (ha : (Lit.int .i64 a).wf = true) (hb : (Lit.int .i64 b).wf = true) : ∃ kl, keyOf Try.prog 109 (.agg #[.int .i64 a, .int .i64 b]) = some kl := by
  have h1 : Try.prog.keyType 109 = true := by kernel_rfl
  have h2 : Try.prog.cellsOf 109 = 2 := by kernel_rfl
  have h3 : Try.prog.cellsOf 3 = 1 := by kernel_rfl
  obtain ⟨dd, h4⟩ : ∃ dd, Try.prog.types.size = dd + 1 := ⟨_, (Nat.succ_pred_eq_of_pos (Nat.lt_of_le_of_lt (Nat.zero_le _) sunitRow)).symm⟩
  have h5 : (Value.agg #[.int .i64 a, .int .i64 b]).formed Try.prog 109 = true := by simp [Value.formed, Try.underlying109, h2]
  have h6 : ∀ d (x : Int), (Lit.int .i64 x).wf = true → Try.prog.keyLits (d + 1) 3 [.int .i64 x] = some [.int .i64 x] := fun d x hx => by
    unfold Program.keyLits
    rw [Try.underlying3]
    simp [hx]
  have h7 : Try.prog.keyLits (dd + 1 + 1) 109 [.int .i64 a, .int .i64 b] = some [.int .i64 a, .int .i64 b] := by
    unfold Program.keyLits
    rw [Try.underlying109]
    simp [h2, h3, h6 dd a ha, h6 dd b hb, List.range, List.range.loop]
  unfold keyOf
  rw [Try.underlying109]
  simp only [h1, h5, Bool.and_self, if_true]
  rw [h4]
  have h8 : (Value.agg #[.int .i64 a, .int .i64 b]).cells.toList = [.int .i64 a, .int .i64 b] := rfl
  rw [h8, h7]
  exact ⟨_, rfl⟩
/-- block b is a map that holds, of class c and rest r, f c r -/
def MapG (f : Int → Int → Int) (n b : Nat) (x : World) : Prop :=
  ∃ D : DataW Unit, x.ownsMap Try.prog 109 (plainElem Try.prog 3) b n D ∧ Maps.IsMap D ∧ ∀ c r kl, keyOf Try.prog 109 (.agg #[.int .i64 c, .int .i64 r]) = some kl → D.atKey kl (.lit (.int .i64 0)) = .lit (.int .i64 (f c r))
theorem MapG.below {f : Int → Int → Int} {n b : Nat} {x y : World} (h : MapG f n b x) (hb : Below x.heap.size x y) : MapG f n b y := by
  obtain ⟨D, h1, h2, h3⟩ := h
  refine ⟨D, h1.kept (row := none) ⟨hb.os, hb.tape, hb.output, hb.size, fun i hi _ => hb.block i hi⟩ (by simp), h2, h3⟩
theorem MapG.lt {f : Int → Int → Int} {n b : Nat} {x : World} (h : MapG f n b x) : b < x.heap.size := by obtain ⟨D, h1, _⟩ := h; exact h1.lt
theorem MapG.of_block {f : Int → Int → Int} {n b : Nat} {x y : World} (h : MapG f n b x) (hb : y.heap[b]? = x.heap[b]?) : MapG f n b y := by
  obtain ⟨D, ⟨es, clock, h1, h4⟩, h2, h3⟩ := h
  exact ⟨D, ⟨es, clock, hb.trans h1, h4⟩, h2, h3⟩
theorem MapG.congr {f g : Int → Int → Int} {n b : Nat} {x : World} (h : MapG f n b x) (e : ∀ c r, f c r = g c r) : MapG g n b x := by
  have : f = g := by funext c r; exact e c r
  rw [← this]; exact h
theorem MapG.made (w : World) : MapG (fun _ _ => 0) 0 w.heap.size (w.alloc (.map #[] 0)) :=
  ⟨_, World.ownsMap_made (H := Unit) w Try.prog 109 (plainElem Try.prog 3), Maps.isMap_empty, fun s c kl _ => rfl⟩
theorem MapG.look {f : Int → Int → Int} {n b : Nat} {x : World} (h : MapG f n b x) (c r : Int) (hs : (Lit.int .i64 c).wf = true) (hc : (Lit.int .i64 r).wf = true) : (Instr.lookup 107 (.map (some b)) (.agg #[.int .i64 c, .int .i64 r]) false).run Try.prog x = .ok (.int .i64 (f c r)) x := by
  obtain ⟨D, h1, h2, h3⟩ := h
  obtain ⟨kl, hkl⟩ := sunitKey c r hs hc
  obtain ⟨q, hr, hat, _⟩ := h1.lookup_int (Maps.Keyed.of_law sunitLaw) Try.underlying107 Try.underlying3 (sunitZero _) hkl
  rw [h3 c r kl hkl] at hat
  injection hat with e1
  injection e1 with _ e2
  rw [hr, e2]
/-- another count: the entry, and the store -/
theorem MapG.step {f : Int → Int → Int} {n b : Nat} {x : World} (h : MapG f n b x) (hn : n < maxLen) (c r : Int) (ws : (Lit.int .i64 c).wf = true) (wc : (Lit.int .i64 r).wf = true) (v : Int) (wv : (Lit.int .i64 v).wf = true) :
    ∃ v0 st w1, (Instr.mapEntry 107 (.map (some b)) (.agg #[.int .i64 c, .int .i64 r])).run Try.prog x = .ok (.tuple #[v0, .int .i64 st]) w1 ∧ x.grownBy w1 (some b) ∧ (Instr.lookup 107 (.map (some b)) (.agg #[.int .i64 c, .int .i64 r]) false).run Try.prog w1 = .ok (.int .i64 (f c r)) w1 ∧
      ∃ w3, (Instr.entryStore 107 (.map (some b)) (.int .i64 st) (.int .i64 v)).run Try.prog w1 = .ok () w3 ∧ w1.grownBy w3 (some b) ∧ MapG (fun c' r' => if c' = c ∧ r' = r then v else f c' r') (n + 1) b w3 := by
  have hl := h.look c r ws wc
  obtain ⟨D, h1, h2, h3⟩ := h
  obtain ⟨kl, hkl⟩ := sunitKey c r ws wc
  obtain ⟨v0, st, w1, e1, e2, e3, e4⟩ := entry_own sunitLaw Try.underlying107 Try.underlying3 sunitZero h1 hn hkl hl
  obtain ⟨w3, f1, f2, f3⟩ := e4 w1 v rfl wv
  refine ⟨v0, st, w1, e1, e2, e3, w3, f1, f2, D.put kl (.lit (.int .i64 v)), f3, h2.put _ _, fun s' c' kl' hkl' => ?_⟩
  by_cases e : kl' = kl
  · subst e
    have hv := sunitLaw.inj hkl hkl'
    injection hv with hv
    have hv2 : c = s' ∧ r = c' := by simpa using hv
    obtain ⟨rfl, rfl⟩ := hv2
    dsimp only
    rw [Maps.atKey_put_same h2 ((Maps.Keyed.of_law sunitLaw).key hkl'), if_pos ⟨rfl, rfl⟩]
  · dsimp only
    rw [Maps.atKey_put_other e, h3 s' c' kl' hkl', if_neg fun h => e ?_]
    rw [h.1, h.2, hkl] at hkl'
    exact (Option.some.inj hkl').symm

end Go.Proofs.Ytjoapiafpahihab
/- The contract of package sched's unitsKept: units are counted in a map as they come; nothing that was there is changed. -/
namespace Go.Proofs.Ytjoapiafpahihab
open Go.RowKit Go.Joins
set_option linter.unusedVariables false
set_option linter.unusedSimpArgs false
set_option maxRecDepth 8192

section
variable {P : Program} {ops : Array Oper} {Q : Exit → Act → World → Prop} {md : Region.Mode} {S : World → Prop} {z : Nat}
/-- numbers i and j alone may come up -/
theorem until_two {i j : Nat} {o o' : Oper} {rest rest' : List Oper} {fuel : Nat} {listed : Array Bool} {a : Act} {w : World} (hd : ops.toList.drop i = o :: rest) (hd' : ops.toList.drop j = o' :: rest') (hr : Region.ready md ops listed = [i, j])
    (h : ∀ K' : Act → World → Prop, Shut (∀ a w, (i = z ∨ S w) → anyU P md ops Q S z fuel (listed.setIfInBounds i true) a w → K' a w) → if Region.wanted o (yielded ops a.tmps) = true then Oper.wp P o a w K' Q else K' (a.put o.dst undef) w)
    (h' : ∀ K' : Act → World → Prop, Shut (∀ a w, (j = z ∨ S w) → anyU P md ops Q S z fuel (listed.setIfInBounds j true) a w → K' a w) → if Region.wanted o' (yielded ops a.tmps) = true then Oper.wp P o' a w K' Q else K' (a.put o'.dst undef) w) :
    anyU P md ops Q S z (fuel + 1) listed a w :=
  ⟨fun h0 => absurd (hr ▸ h0) (by simp), fun q hq => by
    rw [hr] at hq
    have e : q = i ∨ q = j := by simpa using hq
    rcases e with e | e
    · subst e
      exact wpOp_step (at_drop hd) (fun K' hK => h K' (fun a w hS hW => hK a w ⟨hS, hW⟩))
    · subst e
      exact wpOp_step (at_drop hd') (fun K' hK => h' K' (fun a w hS hW => hK a w ⟨hS, hW⟩))⟩
end
theorem new_blkS (w : World) (cs : Array Value) (e : TypeId) : (w.alloc (.cells cs e)).heap[w.heap.size]? = some (.cells cs e (0, 0)) := by
  show (w.heap.push _)[w.heap.size]? = _
  simp
/-- a pair that was stored in a new block -/
theorem pair_set {x : World} {g : Nat} {e : TypeId} {a b a' b' : Value} (h : x.heap[g]? = some (.cells #[a, b] e (0, 0))) : ((x.setCell ⟨g, 0, none⟩ a').setCell ⟨g, 1, none⟩ b').cell? ⟨g, 0, none⟩ = some a' ∧ ((x.setCell ⟨g, 0, none⟩ a').setCell ⟨g, 1, none⟩ b').cell? ⟨g, 1, none⟩ = some b' := by
  have h0 : RowF x g e 2 (fun i => if i = 0 then a else b) := ⟨_, h, by simp, fun i hi => by
    obtain rfl | rfl : i = 0 ∨ i = 1 := by omega
    all_goals rfl⟩
  have h1 := (h0.set 0 a' (by omega)).set 1 b' (by omega)
  exact ⟨by simpa using h1.cell (i := 0) (by omega), by simpa using h1.cell (i := 1) (by omega)⟩
theorem cell_same {x y : World} {g : Nat} (h : y.heap[g]? = x.heap[g]?) (i : Nat) : y.cell? ⟨g, i, none⟩ = x.cell? ⟨g, i, none⟩ := by simp [World.cell?, h]
theorem wf_i (x : Int) (h0 : -9223372036854775808 ≤ x) (h1 : x ≤ 9223372036854775807) : (Lit.int .i64 x).wf = true := WalkArith.wf_i64 (by omega)
end Go.Proofs.Ytjoapiafpahihab
