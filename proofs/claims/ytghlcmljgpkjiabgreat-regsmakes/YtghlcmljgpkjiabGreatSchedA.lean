/- SchedA: texts that are built as one: PlanMath, SchedMath, SchedSmall, SchedMap, SchedUK. -/
import Derived.Test.YtghlcmljgpkjiabGreatSounds
import Derived.Test.YtghlcmljgpkjiabGreatRef8A
import Derived.Test.YtghlcmljgpkjiabGreatMaths
import Derived.Test.YtghlcmljgpkjiabGreatRef2L
import Derived.Test.YtghlcmljgpkjiabGreatBase
import Derived.Deep.RegionHeld3
import Derived.DeepKeys4
/- One statement behind the other: a plan that is legal at every pace from the Waits of all on, and of which each turn is over when the next one begins; no Go in sight. -/
namespace Go.Proofs.YtghlcmljgpkjiabGreat
set_option linter.unusedVariables false
variable {L : Lp} {t : Tg} {P : Int}

end Go.Proofs.YtghlcmljgpkjiabGreat
/- A planner that puts statements in, one by one, and takes some out again: what is in keeps all edges and finds units enough; when all are in, the plan is legal; no Go in sight. -/
namespace Go.Proofs.YtghlcmljgpkjiabGreat
set_option linter.unusedVariables false

/-- how many of those that are in are of class c, and leave r -/
def inC (L : Lp) (P : Int) (I : Nat → Bool) (T : Nat → Int) (c r : Int) : Nat := cnt (fun i => I i && (decide (clsv (stAt L.body i).o = c) && decide ((T i).tmod P = r))) L.body.length
def gapP (P : Int) (e : Ed) : Int := e.wt - e.bk * P
/-- one more, one less, another value -/
def upB (I : Nat → Bool) (a : Nat) (b : Bool) : Nat → Bool := fun j => if j = a then b else I j
def upI (T : Nat → Int) (a : Nat) (x : Int) : Nat → Int := fun j => if j = a then x else T j
/-- the edges between those that are in are kept, those from a only if they are among the first k -/
def keptP (es : List Ed) (P : Int) (I : Nat → Bool) (T : Nat → Int) (a k : Nat) : Prop :=
  ∀ j, j < es.length → (j < k ∨ (edAt es j).fr.toNat ≠ a) → I (edAt es j).fr.toNat = true → I (edAt es j).to.toNat = true → T (edAt es j).fr.toNat + gapP P (edAt es j) ≤ T (edAt es j).to.toNat
/-- what is so between two calls -/
structure SOk (L : Lp) (t : Tg) (P : Int) (I : Nat → Bool) (T N : Nat → Int) (a k : Nat) : Prop where
  times : ∀ i, i < L.body.length → 0 ≤ T i ∧ T i ≤ 1000
  nexts : ∀ i, i < L.body.length → 0 ≤ N i ∧ N i ≤ 1001
  units : ∀ c r, (inC L P I T c r : Int) ≤ unitsT t c
  kept : keptP (edgesD L t) P I T a k

theorem cnt_ups {p q : Nat → Bool} {a : Nat} : ∀ n, (∀ i, i < n → i ≠ a → q i = p i) → cnt q n + (if a < n ∧ p a = true then 1 else 0) = cnt p n + (if a < n ∧ q a = true then 1 else 0) := by
  intro n
  induction n with
  | zero => intro _; simp [cnt]
  | succ n ih =>
    intro h
    have h1 := ih fun i hi => h i (by omega)
    show cnt q n + (if q n = true then 1 else 0) + _ = cnt p n + (if p n = true then 1 else 0) + _
    by_cases e : a = n
    · subst e
      have e1 : ¬ (a < a ∧ p a = true) := by omega
      have e2 : ¬ (a < a ∧ q a = true) := by omega
      rw [if_neg e1, if_neg e2] at h1
      by_cases hp : p a = true <;> by_cases hq : q a = true <;> simp [hp, hq] <;> omega
    · rw [h n (by omega) (fun h => e h.symm)]
      have h2 : (a < n + 1) ↔ (a < n) := by omega
      simp only [h2]
      omega
theorem in_put {L : Lp} {P : Int} {I : Nat → Bool} {T : Nat → Int} {a : Nat} {x : Int} (ha : a < L.body.length) (hI : I a = false) (c r : Int) :
    inC L P (upB I a true) (upI T a x) c r = inC L P I T c r + (if clsv (stAt L.body a).o = c ∧ x.tmod P = r then 1 else 0) := by
  have h := cnt_ups (p := fun i => I i && (decide (clsv (stAt L.body i).o = c) && decide ((T i).tmod P = r))) (q := fun i => upB I a true i && (decide (clsv (stAt L.body i).o = c) && decide ((upI T a x i).tmod P = r))) (a := a) L.body.length (fun i _ hi => by simp [upB, upI, hi])
  simp only [ha, hI, upB, upI, if_true, Bool.false_and, Bool.true_and, Bool.and_eq_true, decide_eq_true_eq, true_and, Bool.false_eq_true, if_false] at h
  exact h
theorem in_out {L : Lp} {P : Int} {I : Nat → Bool} {T : Nat → Int} {a : Nat} (ha : a < L.body.length) (hI : I a = true) (c r : Int) :
    inC L P (upB I a false) T c r + (if clsv (stAt L.body a).o = c ∧ (T a).tmod P = r then 1 else 0) = inC L P I T c r := by
  have h := cnt_ups (p := fun i => I i && (decide (clsv (stAt L.body i).o = c) && decide ((T i).tmod P = r))) (q := fun i => upB I a false i && (decide (clsv (stAt L.body i).o = c) && decide ((T i).tmod P = r))) (a := a) L.body.length (fun i _ hi => by simp [upB, hi])
  simp only [ha, hI, upB, if_true, Bool.false_and, Bool.true_and, Bool.and_eq_true, decide_eq_true_eq, true_and, Bool.false_eq_true, if_false, Nat.add_zero, and_false] at h
  exact h
theorem cntI_put {I : Nat → Bool} {a n : Nat} (ha : a < n) (hI : I a = false) : cnt (upB I a true) n = cnt I n + 1 := by
  have h := cnt_ups (p := I) (q := upB I a true) (a := a) n (fun i _ hi => by simp [upB, hi])
  simpa [ha, hI, upB] using h
variable {L : Lp} {t : Tg} {P : Int} {I : Nat → Bool} {T N : Nat → Int}
/-- ahead of all -/
theorem SOk.start (ht : mayT t = true) (a k : Nat) : SOk L t P (fun _ => false) (fun _ => 0) (fun _ => 0) a k where
  times := fun _ _ => ⟨by decide, by decide⟩
  nexts := fun _ _ => ⟨by decide, by decide⟩
  units := fun c r => by
    have h1 : inC L P (fun _ => false) (fun _ => 0) c r = 0 := by
      rcases cnt_zero_or (fun i => (fun _ : Nat => false) i && (decide (clsv (stAt L.body i).o = c) && decide (((fun _ : Nat => (0 : Int)) i).tmod P = r))) L.body.length with h | ⟨i, _, h⟩
      · exact h
      · simp at h
    have := units_ge (c := c) ht
    omega
  kept := fun j _ _ h => by simp at h
/-- a statement is put in, where there is a unit, when all is there that it waits for -/
theorem SOk.put {a0 k0 a : Nat} {x : Int} (h : SOk L t P I T N a0 (edgesD L t).length) (ha : a < L.body.length) (hI : I a = false) (h0 : N a ≤ x) (h1 : x ≤ 1000)
    (hfull : (inC L P I T (clsv (stAt L.body a).o) (x.tmod P) : Int) ≠ unitsT t (clsv (stAt L.body a).o))
    (hready : ∀ j, j < (edgesD L t).length → (edAt (edgesD L t) j).to.toNat = a → I (edAt (edgesD L t) j).fr.toNat = true → T (edAt (edgesD L t) j).fr.toNat + gapP P (edAt (edgesD L t) j) ≤ x) :
    SOk L t P (upB I a true) (upI T a x) (upI N a (x + 1)) a 0 where
  times := fun i hi => by
    have h2 := h.nexts a ha
    have h3 := h.times i hi
    unfold upI
    split <;> omega
  nexts := fun i hi => by
    have h2 := h.nexts a ha
    have h3 := h.nexts i hi
    unfold upI
    split <;> omega
  units := fun c r => by
    rw [in_put ha hI]
    have h2 := h.units c r
    by_cases e : clsv (stAt L.body a).o = c ∧ x.tmod P = r
    · rw [if_pos e]
      rw [← e.1, ← e.2] at h2 ⊢
      omega
    · rw [if_neg e]; omega
  kept := fun j hj hor h2 h3 => by
    have hf : (edAt (edgesD L t) j).fr.toNat ≠ a := by rcases hor with h | h; exact absurd h (Nat.not_lt_zero _); exact h
    unfold upB at h2 h3
    rw [if_neg hf] at h2
    have e1 : upI T a x (edAt (edgesD L t) j).fr.toNat = T (edAt (edgesD L t) j).fr.toNat := by unfold upI; rw [if_neg hf]
    rw [e1]
    by_cases e : (edAt (edgesD L t) j).to.toNat = a
    · have := hready j hj e h2
      unfold upI; rw [if_pos e]; exact this
    · rw [if_neg e] at h3
      unfold upI; rw [if_neg e]
      exact h.kept j hj (.inl hj) h2 h3
/-- one that comes too early is taken out -/
theorem SOk.out {a k b : Nat} (h : SOk L t P I T N a k) (hb : b < L.body.length) (hI : I b = true) (hk : k < (edgesD L t).length) (he : (edAt (edgesD L t) k).to.toNat = b) : SOk L t P (upB I b false) T N a (k + 1) where
  times := h.times
  nexts := h.nexts
  units := fun c r => by
    have h1 := in_out (P := P) (T := T) hb hI c r
    have h2 := h.units c r
    omega
  kept := fun j hj hor h2 h3 => by
    have hg : ∀ i, upB I b false i = true → i ≠ b ∧ I i = true := fun i hi => by
      unfold upB at hi
      by_cases e : i = b
      · rw [if_pos e] at hi; cases hi
      · rw [if_neg e] at hi; exact ⟨e, hi⟩
    obtain ⟨n2, h2⟩ := hg _ h2
    obtain ⟨n3, h3⟩ := hg _ h3
    refine h.kept j hj ?_ h2 h3
    rcases hor with hor | hor
    · by_cases e : j = k
      · subst e; exact absurd he n3
      · exact .inl (by omega)
    · exact .inr hor
/-- one that need not be -/
theorem SOk.next {a k : Nat} (h : SOk L t P I T N a k) (hk : k < (edgesD L t).length) (hn : (edAt (edgesD L t) k).fr.toNat = a → I (edAt (edgesD L t) k).to.toNat = true → T a + gapP P (edAt (edgesD L t) k) ≤ T (edAt (edgesD L t) k).to.toNat) : SOk L t P I T N a (k + 1) where
  times := h.times
  nexts := h.nexts
  units := h.units
  kept := fun j hj hor h2 h3 => by
    by_cases e : (edAt (edgesD L t) j).fr.toNat = a
    · rcases hor with hor | hor
      · by_cases e2 : j = k
        · subst e2
          rw [e]; exact hn e h3
        · exact h.kept j hj (.inl (by omega)) h2 h3
      · exact absurd e hor
    · exact h.kept j hj (.inr e) h2 h3
theorem SOk.any {a k b : Nat} (h : SOk L t P I T N a k) (hk : (edgesD L t).length ≤ k) : SOk L t P I T N b (edgesD L t).length where
  times := h.times
  nexts := h.nexts
  units := h.units
  kept := fun j hj _ h2 h3 => h.kept j hj (.inl (by omega)) h2 h3
end Go.Proofs.YtghlcmljgpkjiabGreat
/- The contracts of package sched's small functions: within, gap, unitOf, numbersMay, edgesKept; nothing that was there is changed. -/
namespace Go.Proofs.YtghlcmljgpkjiabGreat
open Go.RowKit Go.Joins
set_option linter.unusedVariables false
set_option linter.unusedSimpArgs false
set_option maxRecDepth 8192
theorem below_dr1 (n : Nat) (w : World) : Below n w w.drew := below_draws _ _ 1

theorem swithin_any (n lo hi : Int) (w : World) :
    Calls Tryz.prog 113 #[.int .i64 n, .int .i64 lo, .int .i64 hi] w fun e w' => e = .returned (.bool (inR n lo hi)) ∧ w' = w := by
  by_cases h : lo ≤ n ∧ n ≤ hi
  · rw [inR_yes h]
    obtain ⟨h1, h2⟩ := h
    go_enter Tryz.func113, Tryz.ntmps113
    go_wp2
    go_ret
    exact ⟨rfl, rfl⟩
  · rw [inR_no h]
    by_cases h1 : lo ≤ n
    · have h2 : ¬ n ≤ hi := fun h2 => h ⟨h1, h2⟩
      clear h
      go_enter Tryz.func113, Tryz.ntmps113
      go_wp2
      go_ret
      exact ⟨rfl, rfl⟩
    · clear h
      go_enter Tryz.func113, Tryz.ntmps113
      go_wp2
      go_ret
      exact ⟨rfl, rfl⟩
theorem gap_any (fr to bk wt : Nat) (p : Int) (w : World) (h1 : bk ≤ 32) (h2 : wt ≤ 6) (h3 : 1 ≤ p) (h4 : p ≤ 200) :
    Calls Tryz.prog 114 #[.agg #[.int .i64 fr, .int .i64 to, .int .i64 bk, .int .i64 wt], .int .i64 p] w fun e w' => e = .returned (.int .i64 ((wt : Int) - (bk : Int) * p)) ∧ Below w.heap.size w w' := by
  have hpb1 : 0 ≤ (bk : Int) * p := Int.mul_nonneg (by omega) (by omega)
  have hpb2 : (bk : Int) * p ≤ 32 * 200 := Int.mul_le_mul (by omega) h4 (by omega) (by omega)
  go_enter Tryz.func114, Tryz.ntmps114
  go_wp2_with fail
  go_ret
  exact ⟨rfl, below_alloc1 _ _⟩
set_option maxHeartbeats 2000000 in
theorem unitOf_any (o xa xb ya yb ar sp pl nn tm p : Int) (w : World) (h0 : 0 ≤ tm) (h1 : tm ≤ 5000) (h3 : 1 ≤ p) (h4 : p ≤ 200) :
    Calls Tryz.prog 115 #[.agg #[.int .i64 o, .int .i64 xa, .int .i64 xb, .int .i64 ya, .int .i64 yb, .int .i64 ar, .int .i64 sp, .int .i64 pl, .int .i64 nn], .int .i64 tm, .int .i64 p] w fun e w' => e = .returned (.agg #[.int .i64 (clsv o), .int .i64 (tm.tmod p)]) ∧ Below w.heap.size w w' := by
  have HCL := hide (fun W => class_any o W)
  have hp0 : ¬ p = 0 := by omega
  have hm1 := Int.tmod_nonneg p h0
  have hm2 := Int.tmod_lt_of_pos tm (show 0 < p by omega)
  obtain ⟨rm, hrm⟩ : ∃ rm, tm.tmod p = rm := ⟨_, rfl⟩
  rw [hrm] at hm1 hm2 ⊢
  have hwr : wrap64 rm = rm := by unfold wrap64; omega
  obtain ⟨cn, hcn⟩ : ∃ cn, clsv o = cn := ⟨_, rfl⟩
  rw [hcn] at HCL ⊢
  clear hcn
  go_enter Tryz.func115, Tryz.ntmps115
  go_wp2_with fail
  refine wp_region_noPanic ?_
  refine region_until 7 (fun w' => w'.cell? ⟨w.heap.size, 0, none⟩ = some (.int .i64 o)) (by kernel_rfl) (by go_simp) (fun hHeld => ?_)
  refine utk (i := 0) rfl hHeld ?_
  try simp only [Act.put, List.setIfInBounds_toArray, List.set_cons_zero, List.set_cons_succ]
  refine utk (i := 1) rfl hHeld ?_
  try simp only [Act.put, List.setIfInBounds_toArray, List.set_cons_zero, List.set_cons_succ]
  refine utk (i := 3) rfl hHeld ?_
  try simp only [Act.put, List.setIfInBounds_toArray, List.set_cons_zero, List.set_cons_succ]
  refine utk (i := 4) rfl hHeld ?_
  try simp only [Act.put, List.setIfInBounds_toArray, List.set_cons_zero, List.set_cons_succ]
  refine utk (i := 5) rfl hHeld ?_
  try simp only [Act.put, List.setIfInBounds_toArray, List.set_cons_zero, List.set_cons_succ]
  refine until_one (i := 2) rfl (by kernel_rfl) (fun K hK => ?_)
  go_simp
  refine (HCL.out _).mono ?_
  rintro e w' ⟨rfl, hw'⟩
  have hw' := hw'.symm; subst hw'
  refine hK.out _ _ (.inr hHeld) ?_
  clear hK K
  try simp only [Act.put, List.setIfInBounds_toArray, List.set_cons_zero, List.set_cons_succ]
  refine utk (i := 6) rfl hHeld ?_
  try simp only [Act.put, List.setIfInBounds_toArray, List.set_cons_zero, List.set_cons_succ]
  refine until_one (i := 7) rfl (by kernel_rfl) (fun K hK => ?_)
  go_simp
  refine hK.out _ _ (.inl rfl) ?_
  clear hK K
  try simp only [Act.put, List.setIfInBounds_toArray, List.set_cons_zero, List.set_cons_succ]
  refine until_done (by kernel_rfl) ?_ _
  refine NoPanic.normal ?_
  go_wp2_with fail
  exact bodyPost_ret (v := .agg #[.int .i64 cn, .int .i64 rm]) (by simp [results, Tryz.results115, go_sem]) rfl ⟨rfl, (below_alloc2 _ _ _).drew⟩

set_option maxHeartbeats 1000000 in
theorem numbersMay_any (P : Int) (T : List Int) (ta : Option Addr) (tc : Nat) (w : World) (h : Ints w (.slice ta T.length tc) T) :
    Calls Tryz.prog 75 #[.agg #[.int .i64 P, .slice ta T.length tc]] w fun e w' => e = .returned (.bool (allN (fun i => inR (nth T i) 0 1000) T.length && inR P 1 200)) ∧ Below w.heap.size w w' := by
  obtain ⟨a, cap, he, hl, hm, hr, hc⟩ := h
  injection he with e1 e2 e3
  subst e1; subst e3
  unfold maxLen at hm
  clear e2
  have HC := hide hc
  clear hc hr
  go_enter Tryz.func75, Tryz.ntmps75
  go_wp2_with fail
  go_loopw [8] (fun i wr => ∃ k : Nat, k ≤ T.length ∧ i = .int .i64 k ∧ allN (fun i => inR (nth T i) 0 1000) k = true ∧ wr = w.alloc (.cells #[.int .i64 P, .slice ta T.length tc] 49)) (fun i _ => T.length - (intOf i).toNat)
  case atStart => exact ⟨0, Nat.zero_le _, rfl, rfl, rfl⟩
  case round =>
    obtain ⟨k, hk, rfl, hall, rfl⟩ := hrel
    have HA := hide hall
    clear hall
    by_cases hlt : k < T.length
    · obtain ⟨b, off, rfl, hb, hcell⟩ := HC.out (by omega)
      have hck := hcell k hlt
      have hki : (k : Int) < (T.length : Int) := by omega
      clear hcell HC
      obtain ⟨x, hx⟩ : ∃ x, nth T k = x := ⟨_, rfl⟩
      rw [hx] at hck
      have HX := hide hx
      clear hx
      obtain ⟨rb, hrb⟩ : ∃ rb, inR x 0 1000 = rb := ⟨_, rfl⟩
      have HW : Hid (∀ W, Calls Tryz.prog 113 #[.int .i64 x, .int .i64 0, .int .i64 1000] W fun e w' => e = .returned (.bool rb) ∧ w' = W) := fun W => hrb ▸ swithin_any x 0 1000 W
      have HRB := hide hrb
      clear hrb
      cases rb with
      | true =>
        go_wp2_with (go_at_call 113; refine (HW.out _).mono ?_; rintro e w' ⟨rfl, hw'⟩; have hw' := hw'.symm; subst hw')
        go_roundw
        case rel => exact ⟨k + 1, by omega, by go_num, allN_step HA.out (by rw [HX.out]; exact HRB.out), by first | trivial | rfl⟩
        case measure => simp [intOf]; omega
      | false =>
        have HF : Hid (allN (fun i => inR (nth T i) 0 1000) T.length = false) := allN_false hlt (by rw [HX.out]; exact HRB.out)
        go_wp2_with (go_at_call 113; refine (HW.out _).mono ?_; rintro e w' ⟨rfl, hw'⟩; have hw' := hw'.symm; subst hw')
        go_ret
        exact ⟨ret_bool (by rw [HF.out]; rfl), below_alloc1 _ _⟩
    · have e : k = T.length := by omega
      subst e
      have hki : ¬ (T.length : Int) < (T.length : Int) := by omega
      have HW := hide (fun W => swithin_any P 1 200 W)
      obtain ⟨rb, hrb⟩ : ∃ rb, inR P 1 200 = rb := ⟨_, rfl⟩
      rw [hrb] at HW
      have HRB := hide hrb
      clear hrb
      go_wp2_with (go_at_call 113; refine (HW.out _).mono ?_; rintro e w' ⟨rfl, hw'⟩; have hw' := hw'.symm; subst hw')
      go_ret
      exact ⟨ret_bool (by rw [HA.out, HRB.out]; rfl), below_alloc1 _ _⟩
set_option maxHeartbeats 4000000 in
theorem edgesKept_any (n : Nat) (P : Int) (T : List Int) (tb tz tc : Nat) (la : Option Addr) (lc : Nat) (l : List Ed) (w : World) (hE : EdgesV w (.slice la l.length lc) l) (hl : ∀ e ∈ l, edOk n e) (hn : n ≤ 16) (hP1 : 1 ≤ P) (hP2 : P ≤ 200) (hTn : T.length = n) (htc : n ≤ tc) (hcm : tc ≤ 9223372036854775807) (htb : tb < w.heap.size)
    (hcell : ∀ i, i < n → w.cell? ⟨tb, tz + i, none⟩ = some (.int .i64 (nth T i))) (hT : ∀ i, i < n → 0 ≤ nth T i ∧ nth T i ≤ 1000) :
    Calls Tryz.prog 76 #[.slice la l.length lc, .agg #[.int .i64 P, .slice (some ⟨tb, tz, none⟩) n tc]] w fun e w' => e = .returned (.bool (allN (fun i => edgeL P T (edAt l i)) l.length)) ∧ Below w.heap.size w w' := by
  obtain ⟨la', lc', he1, he2, he3, hec⟩ := hE
  injection he1 with e1 e2 e3
  subst e1; subst e3
  unfold maxLen at he3
  have HEC := hide hec
  have HL := hide hl
  have HT := hide hT
  have HTC := hide hcell
  clear hec hl e2 hT hcell hTn
  have HB0 := hide (below_alloc1 w (.cells #[.int .i64 P, .slice (some ⟨tb, tz, none⟩) n tc] 49))
  go_enter Tryz.func76, Tryz.ntmps76
  go_wp2_with fail
  go_loopw [9] (fun i wr => ∃ k : Nat, k ≤ l.length ∧ i = .int .i64 k ∧ allN (fun i => edgeL P T (edAt l i)) k = true ∧ Below (w.heap.size + 1) (w.alloc (.cells #[.int .i64 P, .slice (some ⟨tb, tz, none⟩) n tc] 49)) wr) (fun i _ => l.length - (intOf i).toNat)
  case atStart => exact ⟨0, Nat.zero_le _, rfl, rfl, Below.refl _ _⟩
  case round =>
    obtain ⟨k, hk, rfl, hall, hbel⟩ := hrel
    have HA := hide hall
    have HB := hide hbel
    have hbw : Below w.heap.size w wr := HB0.out.trans (hbel.mono (by omega))
    have hsz : w.heap.size + 1 ≤ wr.heap.size := by have := hbel.size; simp at this; omega
    have hpb : wr.heap[w.heap.size]? = some (.cells #[.int .i64 P, .slice (some ⟨tb, tz, none⟩) n tc] 49 (0, 0)) := by
      rw [hbel.block _ (by omega)]
      show (w.heap.push _)[w.heap.size]? = _
      simp
    clear hall
    by_cases hkl : k < l.length
    · have hki : (k : Int) < (l.length : Int) := by omega
      obtain ⟨eb, eo, rfl, hebz, hecell⟩ := HEC.out (by omega)
      obtain ⟨c0, c1, c2, c3⟩ := fourE (hecell k hkl)
      rw [← bcell hbw _ _ hebz] at c0 c1 c2 c3
      have hebz2 : eb < wr.heap.size := by have := hbw.size; omega
      obtain ⟨fr, to, bk, wt, hed, hfr, hto, hbk, hwt⟩ := HL.out _ (edAt_in hkl)
      have HEL : Hid (edgeL P T (edAt l k) = decide (nth T fr + (wt : Int) ≤ nth T to + (bk : Int) * P)) := by show _ = _; rw [hed]; rfl
      rw [hed] at c0 c1 c2 c3
      simp only at c0 c1 c2 c3
      have hxf := HT.out fr hfr
      have hxt := HT.out to hto
      have htf := (bcell hbw tb (tz + fr) htb).trans (HTC.out fr hfr)
      have htt := (bcell hbw tb (tz + to) htb).trans (HTC.out to hto)
      obtain ⟨xf, hxfe⟩ : ∃ x, nth T fr = x := ⟨_, rfl⟩
      obtain ⟨xt, hxte⟩ : ∃ x, nth T to = x := ⟨_, rfl⟩
      rw [hxfe] at hxf htf HEL
      rw [hxte] at hxt htt HEL
      have hpb1 : 0 ≤ (bk : Int) * P := Int.mul_nonneg (by omega) (by omega)
      have hpb2 : (bk : Int) * P ≤ 32 * 200 := Int.mul_le_mul (by omega) hP2 (by omega) (by omega)
      have HGAP := hide (fun W => gap_any fr to bk wt P W hbk hwt hP1 hP2)
      obtain ⟨g, hg⟩ : ∃ g, (wt : Int) - (bk : Int) * P = g := ⟨_, rfl⟩
      rw [hg] at HGAP
      have hgb : -10000 ≤ g ∧ g ≤ 6 := by omega
      have HED : Hid (edgeL P T (edAt l k) = !decide (xt < xf + g)) := by
        show _ = _
        rw [HEL.out]
        by_cases h : xt < xf + g
        · rw [decide_eq_true h, decide_eq_false (by omega)]; rfl
        · rw [decide_eq_false h, decide_eq_true (by omega)]; rfl
      have hwr : IntKind.i64.wrap (xf + g) = xf + g := i64_wrap _ (by omega) (by omega)
      have hfi : (fr : Int) < (n : Int) := by omega
      have hti : (to : Int) < (n : Int) := by omega
      have HHELD : Hid (∀ y : World, Below wr.heap.size (wr.alloc (.cells #[.int .i64 fr, .int .i64 to, .int .i64 bk, .int .i64 wt] 98)) y → y.cell? ⟨w.heap.size, 0, none⟩ = some (.int .i64 P) ∧ y.cell? ⟨w.heap.size, 1, none⟩ = some (.slice (some ⟨tb, tz, none⟩) n tc) ∧ y.cell? ⟨tb, tz + fr, none⟩ = some (.int .i64 xf) ∧ y.cell? ⟨tb, tz + to, none⟩ = some (.int .i64 xt)) := fun y hy => by
        have hy2 : Below wr.heap.size wr y := (below_alloc1 _ _).trans hy
        have hb := (hy2.block w.heap.size (by omega)).trans hpb
        exact ⟨by rw [cell_of_block hb]; rfl, by rw [cell_of_block hb]; rfl, (bcell hy2 _ _ (by omega)).trans htf, (bcell hy2 _ _ (by omega)).trans htt⟩
      have HBOX : Hid (∀ y : World, Below (wr.heap.size + 1) (wr.alloc (.cells #[.int .i64 fr, .int .i64 to, .int .i64 bk, .int .i64 wt] 98)) y → y.cell? ⟨wr.heap.size, 0, none⟩ = some (.int .i64 fr) ∧ y.cell? ⟨wr.heap.size, 1, none⟩ = some (.int .i64 to) ∧ y.cell? ⟨wr.heap.size, 2, none⟩ = some (.int .i64 bk) ∧ y.cell? ⟨wr.heap.size, 3, none⟩ = some (.int .i64 wt)) := fun y hy => by
        have hb : y.heap[wr.heap.size]? = some (.cells #[.int .i64 fr, .int .i64 to, .int .i64 bk, .int .i64 wt] 98 (0, 0)) := by
          rw [hy.block _ (by omega)]
          show (wr.heap.push _)[wr.heap.size]? = _
          simp
        exact ⟨by rw [cell_of_block hb]; rfl, by rw [cell_of_block hb]; rfl, by rw [cell_of_block hb]; rfl, by rw [cell_of_block hb]; rfl⟩
      have HS : Hid ((wr.alloc (.cells #[.int .i64 fr, .int .i64 to, .int .i64 bk, .int .i64 wt] 98)).heap.size = wr.heap.size + 1) := by show _ = _; simp
      clear hecell hed hbel hpb HEL htf htt hxfe hxte hg
      obtain ⟨bd, hbd⟩ : ∃ bd, decide (xt < xf + g) = bd := ⟨_, rfl⟩
      have HBD := hide hbd
      rw [hbd] at HED
      go_wp2_with fail
      refine wp_region_noPanic ?_
      refine region_until 99 (fun w' => (w'.cell? ⟨w.heap.size, 0, none⟩ = some (.int .i64 P) ∧ w'.cell? ⟨w.heap.size, 1, none⟩ = some (.slice (some ⟨tb, tz, none⟩) n tc) ∧ w'.cell? ⟨tb, tz + fr, none⟩ = some (.int .i64 xf) ∧ w'.cell? ⟨tb, tz + to, none⟩ = some (.int .i64 xt)) ∧ (w'.cell? ⟨wr.heap.size, 0, none⟩ = some (.int .i64 fr) ∧ w'.cell? ⟨wr.heap.size, 1, none⟩ = some (.int .i64 to) ∧ w'.cell? ⟨wr.heap.size, 2, none⟩ = some (.int .i64 bk) ∧ w'.cell? ⟨wr.heap.size, 3, none⟩ = some (.int .i64 wt))) (by kernel_rfl) ⟨HHELD.out _ (below_dr1 _ _), HBOX.out _ (below_dr1 _ _)⟩ (fun hHeld => ?_)
      refine utk (i := 0) rfl hHeld ?_
      try simp only [Act.put, List.setIfInBounds_toArray, List.set_cons_zero, List.set_cons_succ]
      refine utk (i := 1) rfl hHeld ?_
      try simp only [Act.put, List.setIfInBounds_toArray, List.set_cons_zero, List.set_cons_succ]
      refine utk (i := 2) rfl hHeld ?_
      try simp only [Act.put, List.setIfInBounds_toArray, List.set_cons_zero, List.set_cons_succ]
      refine utk (i := 3) rfl hHeld ?_
      try simp only [Act.put, List.setIfInBounds_toArray, List.set_cons_zero, List.set_cons_succ]
      refine utk (i := 4) rfl hHeld ?_
      try simp only [Act.put, List.setIfInBounds_toArray, List.set_cons_zero, List.set_cons_succ]
      refine utk (i := 5) rfl hHeld ?_
      try simp only [Act.put, List.setIfInBounds_toArray, List.set_cons_zero, List.set_cons_succ]
      refine utk (i := 6) rfl hHeld ?_
      try simp only [Act.put, List.setIfInBounds_toArray, List.set_cons_zero, List.set_cons_succ]
      refine utk (i := 7) rfl hHeld ?_
      try simp only [Act.put, List.setIfInBounds_toArray, List.set_cons_zero, List.set_cons_succ]
      refine utk (i := 8) rfl hHeld ?_
      try simp only [Act.put, List.setIfInBounds_toArray, List.set_cons_zero, List.set_cons_succ]
      refine utk (i := 9) rfl hHeld ?_
      try simp only [Act.put, List.setIfInBounds_toArray, List.set_cons_zero, List.set_cons_succ]
      refine utk (i := 10) rfl hHeld ?_
      try simp only [Act.put, List.setIfInBounds_toArray, List.set_cons_zero, List.set_cons_succ]
      refine utk (i := 11) rfl hHeld ?_
      try simp only [Act.put, List.setIfInBounds_toArray, List.set_cons_zero, List.set_cons_succ]
      refine utk (i := 12) rfl hHeld ?_
      try simp only [Act.put, List.setIfInBounds_toArray, List.set_cons_zero, List.set_cons_succ]
      refine utk (i := 13) rfl hHeld ?_
      try simp only [Act.put, List.setIfInBounds_toArray, List.set_cons_zero, List.set_cons_succ]
      refine utk (i := 14) rfl hHeld ?_
      try simp only [Act.put, List.setIfInBounds_toArray, List.set_cons_zero, List.set_cons_succ]
      refine until_one (i := 15) rfl (by kernel_rfl) (fun K hK => ?_)
      go_simp
      refine (HGAP.out _).mono ?_
      rintro e x1 ⟨rfl, hb1⟩
      have hB1 : Below (wr.heap.size + 1) (wr.alloc (.cells #[.int .i64 fr, .int .i64 to, .int .i64 bk, .int .i64 wt] 98)) x1 := (below_dr1 _ _).trans (hb1.mono (by show _ ≤ (wr.alloc _).heap.size; rw [HS.out]; exact Nat.le_refl _))
      have HB1 := hide hB1
      have hHeld := (show (x1.cell? ⟨w.heap.size, 0, none⟩ = some (.int .i64 P) ∧ x1.cell? ⟨w.heap.size, 1, none⟩ = some (.slice (some ⟨tb, tz, none⟩) n tc) ∧ x1.cell? ⟨tb, tz + fr, none⟩ = some (.int .i64 xf) ∧ x1.cell? ⟨tb, tz + to, none⟩ = some (.int .i64 xt)) ∧ (x1.cell? ⟨wr.heap.size, 0, none⟩ = some (.int .i64 fr) ∧ x1.cell? ⟨wr.heap.size, 1, none⟩ = some (.int .i64 to) ∧ x1.cell? ⟨wr.heap.size, 2, none⟩ = some (.int .i64 bk) ∧ x1.cell? ⟨wr.heap.size, 3, none⟩ = some (.int .i64 wt)) from ⟨HHELD.out _ (hB1.mono (by omega)), HBOX.out _ hB1⟩)
      clear hb1 hB1
      refine hK.out _ _ (.inr hHeld) ?_
      clear hK K
      try simp only [Act.put, List.setIfInBounds_toArray, List.set_cons_zero, List.set_cons_succ]
      refine utk (i := 16) rfl hHeld ?_
      try simp only [Act.put, List.setIfInBounds_toArray, List.set_cons_zero, List.set_cons_succ]
      refine utk (i := 17) rfl hHeld ?_
      try simp only [Act.put, List.setIfInBounds_toArray, List.set_cons_zero, List.set_cons_succ]
      refine until_done (by kernel_rfl) ?_ _
      refine NoPanic.normal ?_
      have HBX : Hid (Below (w.heap.size + 1) (w.alloc (.cells #[.int .i64 P, .slice (some ⟨tb, tz, none⟩) n tc] 49)) x1) := HB.out.trans (((below_alloc1 _ _).mono hsz).trans (HB1.out.mono (by omega)))
      have HBW : Hid (Below w.heap.size w x1) := HB0.out.trans (HBX.out.mono (by omega))
      clear hHeld
      cases bd with
      | true =>
        have HF : Hid (allN (fun i => edgeL P T (edAt l i)) l.length = false) := allN_false hkl HED.out
        go_wp2_with fail
        go_ret
        exact ⟨ret_bool HF.out.symm, HBW.out⟩
      | false =>
        go_wp2_with fail
        go_roundw
        case rel => exact ⟨k + 1, by omega, by go_num, allN_step HA.out HED.out, HBX.out⟩
        case measure => simp [intOf]; omega
    · have e : k = l.length := by omega
      subst e
      have hki : ¬ (l.length : Int) < (l.length : Int) := by omega
      have HBW := hide hbw
      clear hbw hbel hpb
      go_wp2_with fail
      go_ret
      exact ⟨ret_bool HA.out.symm, HBW.out⟩
end Go.Proofs.YtghlcmljgpkjiabGreat
/- Maps of the call's own from sched.unit (a class and a rest of the pace) to counts: a look-up, a count that becomes another; units counted as they come, against all at once. -/
namespace Go.Proofs.YtghlcmljgpkjiabGreat
open Go.RowKit Go.Joins
open Go.WideMaps (KeyLaw)
set_option linter.unusedVariables false
set_option linter.unusedSimpArgs false
set_option maxRecDepth 8192

theorem laidOutS : laidOutB Tryz.prog = true := by kernel_rfl
theorem sunitRow : (182 : TypeId) < Tryz.prog.types.size := of_decide_eq_true (by kernel_rfl)
theorem sunitWide : (match Tryz.prog.underlying 182 with | some (.array _ _) | some (.struct _) => true | _ => false) = true := by kernel_rfl
theorem sunitLaw : KeyLaw Tryz.prog 182 := deep_law_laid laidOutS (m := 2) (by omega) sunitRow (by kernel_rfl) sunitWide
theorem sunitZero (u : World) : (zeroValue 3).run Tryz.prog u = .ok (.int .i64 0) u := by kernel_rfl
theorem sunitKey (a b : Int) (ha : (Lit.int .i64 a).wf = true) (hb : (Lit.int .i64 b).wf = true) : ∃ kl, keyOf Tryz.prog 182 (.agg #[.int .i64 a, .int .i64 b]) = some kl := by
  have h1 : Tryz.prog.keyType 182 = true := by kernel_rfl
  have h2 : Tryz.prog.cellsOf 182 = 2 := by kernel_rfl
  have h3 : Tryz.prog.cellsOf 3 = 1 := by kernel_rfl
  obtain ⟨dd, h4⟩ : ∃ dd, Tryz.prog.types.size = dd + 1 := ⟨_, (Nat.succ_pred_eq_of_pos (Nat.lt_of_le_of_lt (Nat.zero_le _) sunitRow)).symm⟩
  have h5 : (Value.agg #[.int .i64 a, .int .i64 b]).formed Tryz.prog 182 = true := by simp [Value.formed, Tryz.underlying182, h2]
  have h6 : ∀ d (x : Int), (Lit.int .i64 x).wf = true → Tryz.prog.keyLits (d + 1) 3 [.int .i64 x] = some [.int .i64 x] := fun d x hx => by
    unfold Program.keyLits
    rw [Tryz.underlying3]
    simp [hx]
  have h7 : Tryz.prog.keyLits (dd + 1 + 1) 182 [.int .i64 a, .int .i64 b] = some [.int .i64 a, .int .i64 b] := by
    unfold Program.keyLits
    rw [Tryz.underlying182]
    simp [h2, h3, h6 dd a ha, h6 dd b hb, List.range, List.range.loop]
  unfold keyOf
  rw [Tryz.underlying182]
  simp only [h1, h5, Bool.and_self, if_true]
  rw [h4]
  have h8 : (Value.agg #[.int .i64 a, .int .i64 b]).cells.toList = [.int .i64 a, .int .i64 b] := rfl
  rw [h8, h7]
  exact ⟨_, rfl⟩
/-- block b is a map that holds, of class c and rest r, f c r -/
def MapG (f : Int → Int → Int) (n b : Nat) (x : World) : Prop :=
  ∃ D : DataW Unit, x.ownsMap Tryz.prog 182 (plainElem Tryz.prog 3) b n D ∧ Maps.IsMap D ∧ ∀ c r kl, keyOf Tryz.prog 182 (.agg #[.int .i64 c, .int .i64 r]) = some kl → D.atKey kl (.lit (.int .i64 0)) = .lit (.int .i64 (f c r))
theorem MapG.below {f : Int → Int → Int} {n b : Nat} {x y : World} (h : MapG f n b x) (hb : Below x.heap.size x y) : MapG f n b y := by
  obtain ⟨D, h1, h2, h3⟩ := h
  refine ⟨D, h1.kept (row := none) ⟨hb.os, hb.tape, hb.output, hb.size, fun i hi _ => hb.block i hi⟩ (by simp), h2, h3⟩
theorem MapG.lt {f : Int → Int → Int} {n b : Nat} {x : World} (h : MapG f n b x) : b < x.heap.size := by obtain ⟨D, h1, _⟩ := h; exact h1.lt
theorem MapG.of_block {f : Int → Int → Int} {n b : Nat} {x y : World} (h : MapG f n b x) (hb : y.heap[b]? = x.heap[b]?) : MapG f n b y := by
  obtain ⟨D, ⟨es, clock, h1, h4⟩, h2, h3⟩ := h
  exact ⟨D, ⟨es, clock, hb.trans h1, h4⟩, h2, h3⟩
theorem MapG.congr {f g : Int → Int → Int} {n b : Nat} {x : World} (h : MapG f n b x) (e : ∀ c r, f c r = g c r) : MapG g n b x := by
  have : f = g := by funext c r; exact e c r
  rw [← this]; exact h
theorem MapG.made (w : World) : MapG (fun _ _ => 0) 0 w.heap.size (w.alloc (.map #[] 0)) :=
  ⟨_, World.ownsMap_made (H := Unit) w Tryz.prog 182 (plainElem Tryz.prog 3), Maps.isMap_empty, fun s c kl _ => rfl⟩
theorem MapG.look {f : Int → Int → Int} {n b : Nat} {x : World} (h : MapG f n b x) (c r : Int) (hs : (Lit.int .i64 c).wf = true) (hc : (Lit.int .i64 r).wf = true) : (Instr.lookup 181 (.map (some b)) (.agg #[.int .i64 c, .int .i64 r]) false).run Tryz.prog x = .ok (.int .i64 (f c r)) x := by
  obtain ⟨D, h1, h2, h3⟩ := h
  obtain ⟨kl, hkl⟩ := sunitKey c r hs hc
  obtain ⟨q, hr, hat, _⟩ := h1.lookup_int (Maps.Keyed.of_law sunitLaw) Tryz.underlying181 Tryz.underlying3 (sunitZero _) hkl
  rw [h3 c r kl hkl] at hat
  injection hat with e1
  injection e1 with _ e2
  rw [hr, e2]
/-- another count: the entry, and the store -/
theorem MapG.step {f : Int → Int → Int} {n b : Nat} {x : World} (h : MapG f n b x) (hn : n < maxLen) (c r : Int) (ws : (Lit.int .i64 c).wf = true) (wc : (Lit.int .i64 r).wf = true) (v : Int) (wv : (Lit.int .i64 v).wf = true) :
    ∃ v0 st w1, (Instr.mapEntry 181 (.map (some b)) (.agg #[.int .i64 c, .int .i64 r])).run Tryz.prog x = .ok (.tuple #[v0, .int .i64 st]) w1 ∧ x.grownBy w1 (some b) ∧ (Instr.lookup 181 (.map (some b)) (.agg #[.int .i64 c, .int .i64 r]) false).run Tryz.prog w1 = .ok (.int .i64 (f c r)) w1 ∧
      ∃ w3, (Instr.entryStore 181 (.map (some b)) (.int .i64 st) (.int .i64 v)).run Tryz.prog w1 = .ok () w3 ∧ w1.grownBy w3 (some b) ∧ MapG (fun c' r' => if c' = c ∧ r' = r then v else f c' r') (n + 1) b w3 := by
  have hl := h.look c r ws wc
  obtain ⟨D, h1, h2, h3⟩ := h
  obtain ⟨kl, hkl⟩ := sunitKey c r ws wc
  obtain ⟨v0, st, w1, e1, e2, e3, e4⟩ := entry_own sunitLaw Tryz.underlying181 Tryz.underlying3 sunitZero h1 hn hkl hl
  obtain ⟨w3, f1, f2, f3⟩ := e4 w1 v rfl wv
  refine ⟨v0, st, w1, e1, e2, e3, w3, f1, f2, D.put kl (.lit (.int .i64 v)), f3, h2.put _ _, fun s' c' kl' hkl' => ?_⟩
  by_cases e : kl' = kl
  · subst e
    have hv := sunitLaw.inj hkl hkl'
    injection hv with hv
    have hv2 : c = s' ∧ r = c' := by simpa using hv
    obtain ⟨rfl, rfl⟩ := hv2
    dsimp only
    rw [Maps.atKey_put_same h2 ((Maps.Keyed.of_law sunitLaw).key hkl'), if_pos ⟨rfl, rfl⟩]
  · dsimp only
    rw [Maps.atKey_put_other e, h3 s' c' kl' hkl', if_neg fun h => e ?_]
    rw [h.1, h.2, hkl] at hkl'
    exact (Option.some.inj hkl').symm

/-- how many of the first k statements are of class c, and leave r -/
def tallyT (L : Lp) (P : Int) (T : List Int) (k : Nat) (c r : Int) : Nat := cnt (fun j => decide ((nth T j).tmod P = r) && decide (clsv (stAt L.body j).o = c)) k
theorem tallyT_step (L : Lp) (P : Int) (T : List Int) (k : Nat) (c r : Int) : tallyT L P T (k + 1) c r = if c = clsv (stAt L.body k).o ∧ r = (nth T k).tmod P then tallyT L P T k c r + 1 else tallyT L P T k c r := by
  unfold tallyT
  show cnt _ k + (if (decide ((nth T k).tmod P = r) && decide (clsv (stAt L.body k).o = c)) = true then 1 else 0) = _
  by_cases h : c = clsv (stAt L.body k).o ∧ r = (nth T k).tmod P
  · rw [if_pos h, if_pos (by rw [h.1, h.2, decide_eq_true rfl, decide_eq_true rfl]; rfl)]
  · rw [if_neg h, if_neg (by rw [Bool.and_eq_true, decide_eq_true_eq, decide_eq_true_eq]; exact fun e => h ⟨e.2.symm, e.1.symm⟩)]; rfl
/-- units, counted as they come -/
def unitsS (L : Lp) (t : Tg) (P : Int) (T : List Int) (i : Nat) : Bool := decide ((tallyT L P T (i + 1) (clsv (stAt L.body i).o) ((nth T i).tmod P) : Int) ≤ unitsT t (clsv (stAt L.body i).o))
theorem tallyT_meet (L : Lp) (P : Int) (T : List Int) (i k : Nat) : tallyT L P T k (clsv (stAt L.body i).o) ((nth T i).tmod P) = cnt (meetL L P T i) k := rfl
theorem unitsS_eq {L : Lp} {t : Tg} {P : Int} {T : List Int} (ht : mayT t = true) (hlen : T.length = L.body.length) (hP1 : 1 ≤ P) (hP2 : P ≤ 200) (hm : mayB L = true) :
    (allN (fun i => inR (nth T i) 0 1000) T.length && allN (fun i => edgeL P T (edAt (edgesD L t) i)) (edgesD L t).length && allN (unitsS L t P T) T.length) = legalD L t P T := by
  have hmt : (mayB L && mayT t) = true := by rw [hm, ht]; rfl
  rw [legal_eq hmt hP1 hP2 hlen, Bool.eq_iff_iff]
  simp only [Bool.and_eq_true]
  constructor
  · rintro ⟨⟨h1, h2⟩, h3⟩
    refine ⟨allN_mk fun i hi => ?_, h2⟩
    unfold timeL
    rw [Bool.and_eq_true]
    refine ⟨allN_get h1 i hi, decide_eq_true ?_⟩
    unfold manyL
    rcases cnt_last (meetL L P T i) T.length with h0 | ⟨j, j1, j2, j3⟩
    · rw [h0]; have := units_ge (c := clsv (stAt L.body i).o) ht; omega
    · have h4 := of_decide_eq_true (allN_get h3 j j1)
      unfold meetL at j2
      simp only [Bool.and_eq_true, decide_eq_true_eq] at j2
      rw [j2.1, j2.2, tallyT_meet, ← j3] at h4
      exact h4
  · rintro ⟨h1, h2⟩
    refine ⟨⟨allN_mk fun i hi => ?_, h2⟩, allN_mk fun i hi => decide_eq_true ?_⟩
    · have := allN_get h1 i hi
      unfold timeL at this
      rw [Bool.and_eq_true] at this
      exact this.1
    · have h3 := allN_get h1 i hi
      unfold timeL at h3
      rw [Bool.and_eq_true] at h3
      have h4 := of_decide_eq_true h3.2
      rw [tallyT_meet]
      have h5 : cnt (meetL L P T i) (i + 1) ≤ manyL L P T i := cnt_mono _ (by omega)
      omega
end Go.Proofs.YtghlcmljgpkjiabGreat
/- The contract of package sched's unitsKept: units are counted in a map as they come; nothing that was there is changed. -/
namespace Go.Proofs.YtghlcmljgpkjiabGreat
open Go.RowKit Go.Joins
set_option linter.unusedVariables false
set_option linter.unusedSimpArgs false
set_option maxRecDepth 8192

section
variable {P : Program} {ops : Array Oper} {Q : Exit → Act → World → Prop} {md : Region.Mode} {S : World → Prop} {z : Nat}
/-- numbers i and j alone may come up -/
theorem until_two {i j : Nat} {o o' : Oper} {rest rest' : List Oper} {fuel : Nat} {listed : Array Bool} {a : Act} {w : World} (hd : ops.toList.drop i = o :: rest) (hd' : ops.toList.drop j = o' :: rest') (hr : Region.ready md ops listed = [i, j])
    (h : ∀ K' : Act → World → Prop, Shut (∀ a w, (i = z ∨ S w) → anyU P md ops Q S z fuel (listed.setIfInBounds i true) a w → K' a w) → if Region.wanted o (yielded ops a.tmps) = true then Oper.wp P o a w K' Q else K' (a.put o.dst undef) w)
    (h' : ∀ K' : Act → World → Prop, Shut (∀ a w, (j = z ∨ S w) → anyU P md ops Q S z fuel (listed.setIfInBounds j true) a w → K' a w) → if Region.wanted o' (yielded ops a.tmps) = true then Oper.wp P o' a w K' Q else K' (a.put o'.dst undef) w) :
    anyU P md ops Q S z (fuel + 1) listed a w :=
  ⟨fun h0 => absurd (hr ▸ h0) (by simp), fun q hq => by
    rw [hr] at hq
    have e : q = i ∨ q = j := by simpa using hq
    rcases e with e | e
    · subst e
      exact wpOp_step (at_drop hd) (fun K' hK => h K' (fun a w hS hW => hK a w ⟨hS, hW⟩))
    · subst e
      exact wpOp_step (at_drop hd') (fun K' hK => h' K' (fun a w hS hW => hK a w ⟨hS, hW⟩))⟩
end
theorem new_blkS (w : World) (cs : Array Value) (e : TypeId) : (w.alloc (.cells cs e)).heap[w.heap.size]? = some (.cells cs e (0, 0)) := by
  show (w.heap.push _)[w.heap.size]? = _
  simp
/-- a pair that was stored in a new block -/
theorem pair_set {x : World} {g : Nat} {e : TypeId} {a b a' b' : Value} (h : x.heap[g]? = some (.cells #[a, b] e (0, 0))) : ((x.setCell ⟨g, 0, none⟩ a').setCell ⟨g, 1, none⟩ b').cell? ⟨g, 0, none⟩ = some a' ∧ ((x.setCell ⟨g, 0, none⟩ a').setCell ⟨g, 1, none⟩ b').cell? ⟨g, 1, none⟩ = some b' := by
  have h0 : RowF x g e 2 (fun i => if i = 0 then a else b) := ⟨_, h, by simp, fun i hi => by
    obtain rfl | rfl : i = 0 ∨ i = 1 := by omega
    all_goals rfl⟩
  have h1 := (h0.set 0 a' (by omega)).set 1 b' (by omega)
  exact ⟨by simpa using h1.cell (i := 0) (by omega), by simpa using h1.cell (i := 1) (by omega)⟩
theorem cell_same {x y : World} {g : Nat} (h : y.heap[g]? = x.heap[g]?) (i : Nat) : y.cell? ⟨g, i, none⟩ = x.cell? ⟨g, i, none⟩ := by simp [World.cell?, h]
theorem wf_i (x : Int) (h0 : -9223372036854775808 ≤ x) (h1 : x ≤ 9223372036854775807) : (Lit.int .i64 x).wf = true := WalkArith.wf_i64 (by omega)
set_option maxHeartbeats 8000000 in
theorem unitsKept_any (p0 p1 p2 q0 q1 q2 r : Int) (L : Lp) (v0 v2 : Value) (bb bo bc : Nat) (P : Int) (T : List Int) (tb tz tc : Nat) (w : World) (h16 : L.body.length ≤ 16) (hbc : L.body.length ≤ bc) (hbm : bc ≤ 9223372036854775807) (hbb : bb < w.heap.size) (hbody : ∀ i, i < L.body.length → ∀ j, j < 9 → w.cell? ⟨bb, bo + i * 9 + j, none⟩ = (stCells (stAt L.body i))[j]?)
    (htc : L.body.length ≤ tc) (hcm : tc ≤ 9223372036854775807) (htb : tb < w.heap.size) (htimes : ∀ i, i < L.body.length → w.cell? ⟨tb, tz + i, none⟩ = some (.int .i64 (nth T i))) (hT : ∀ i, i < L.body.length → 0 ≤ nth T i ∧ nth T i ≤ 1000) (hP1 : 1 ≤ P) (hP2 : P ≤ 200) :
    Calls Tryz.prog 77 #[.agg #[v0, .slice (some ⟨bb, bo, none⟩) L.body.length bc, v2], .agg #[.int .i64 p0, .int .i64 p1, .int .i64 p2, .int .i64 q0, .int .i64 q1, .int .i64 q2, .int .i64 r], .agg #[.int .i64 P, .slice (some ⟨tb, tz, none⟩) L.body.length tc]] w fun e w' => e = .returned (.bool (allN (unitsS L ⟨p0, p1, p2, q0, q1, q2, r⟩ P T) L.body.length)) ∧ Below w.heap.size w w' := by
  have HBO := hide hbody
  have HTI := hide htimes
  have HT := hide hT
  have hmm := @run_makeMap Tryz.prog
  have HS3 : Hid ((((w.alloc (.cells #[v0, .slice (some ⟨bb, bo, none⟩) L.body.length bc, v2] 25)).alloc (.cells #[.int .i64 p0, .int .i64 p1, .int .i64 p2, .int .i64 q0, .int .i64 q1, .int .i64 q2, .int .i64 r] 28)).alloc (.cells #[.int .i64 P, .slice (some ⟨tb, tz, none⟩) L.body.length tc] 49)).heap.size = (w.heap.size + 1 + 1 + 1)) := by show _ = _; simp
  have HB3 := hide (below_alloc3 w (.cells #[v0, .slice (some ⟨bb, bo, none⟩) L.body.length bc, v2] 25) (.cells #[.int .i64 p0, .int .i64 p1, .int .i64 p2, .int .i64 q0, .int .i64 q1, .int .i64 q2, .int .i64 r] 28) (.cells #[.int .i64 P, .slice (some ⟨tb, tz, none⟩) L.body.length tc] 49))
  have H0 : Hid (MapG (fun c s => (tallyT L P T 0 c s : Int)) 0 (w.heap.size + 1 + 1 + 1) ((((w.alloc (.cells #[v0, .slice (some ⟨bb, bo, none⟩) L.body.length bc, v2] 25)).alloc (.cells #[.int .i64 p0, .int .i64 p1, .int .i64 p2, .int .i64 q0, .int .i64 q1, .int .i64 q2, .int .i64 r] 28)).alloc (.cells #[.int .i64 P, .slice (some ⟨tb, tz, none⟩) L.body.length tc] 49)).alloc (.map #[] 0))) := by
    show MapG _ _ _ _
    rw [← HS3.out]
    exact (MapG.made (((w.alloc (.cells #[v0, .slice (some ⟨bb, bo, none⟩) L.body.length bc, v2] 25)).alloc (.cells #[.int .i64 p0, .int .i64 p1, .int .i64 p2, .int .i64 q0, .int .i64 q1, .int .i64 q2, .int .i64 r] 28)).alloc (.cells #[.int .i64 P, .slice (some ⟨tb, tz, none⟩) L.body.length tc] 49))).congr fun c s => rfl
  have HP3 : Hid ((((w.alloc (.cells #[v0, .slice (some ⟨bb, bo, none⟩) L.body.length bc, v2] 25)).alloc (.cells #[.int .i64 p0, .int .i64 p1, .int .i64 p2, .int .i64 q0, .int .i64 q1, .int .i64 q2, .int .i64 r] 28)).alloc (.cells #[.int .i64 P, .slice (some ⟨tb, tz, none⟩) L.body.length tc] 49)).heap[w.heap.size + 1 + 1]? = some (.cells #[.int .i64 P, .slice (some ⟨tb, tz, none⟩) L.body.length tc] 49 (0, 0))) := by
    show _ = _
    have e : ((w.alloc (.cells #[v0, .slice (some ⟨bb, bo, none⟩) L.body.length bc, v2] 25)).alloc (.cells #[.int .i64 p0, .int .i64 p1, .int .i64 p2, .int .i64 q0, .int .i64 q1, .int .i64 q2, .int .i64 r] 28)).heap.size = w.heap.size + 1 + 1 := by simp
    rw [← e]; exact new_blkS _ _ _
  have HT3 : Hid ((((w.alloc (.cells #[v0, .slice (some ⟨bb, bo, none⟩) L.body.length bc, v2] 25)).alloc (.cells #[.int .i64 p0, .int .i64 p1, .int .i64 p2, .int .i64 q0, .int .i64 q1, .int .i64 q2, .int .i64 r] 28)).alloc (.cells #[.int .i64 P, .slice (some ⟨tb, tz, none⟩) L.body.length tc] 49)).heap[w.heap.size + 1]? = some (.cells #[.int .i64 p0, .int .i64 p1, .int .i64 p2, .int .i64 q0, .int .i64 q1, .int .i64 q2, .int .i64 r] 28 (0, 0))) := by
    show _ = _
    rw [Below.heap_alloc _ _ _ (by simp)]
    have e : (w.alloc (.cells #[v0, .slice (some ⟨bb, bo, none⟩) L.body.length bc, v2] 25)).heap.size = w.heap.size + 1 := by simp
    rw [← e]; exact new_blkS _ _ _
  clear hbody htimes hT
  go_enter Tryz.func77, Tryz.ntmps77
  go_wp2_with fail
  go_loopw [15] (fun i wr => ∃ k : Nat, k ≤ L.body.length ∧ i = .int .i64 k ∧ allN (unitsS L ⟨p0, p1, p2, q0, q1, q2, r⟩ P T) k = true ∧ Below (w.heap.size + 1 + 1 + 1) (((w.alloc (.cells #[v0, .slice (some ⟨bb, bo, none⟩) L.body.length bc, v2] 25)).alloc (.cells #[.int .i64 p0, .int .i64 p1, .int .i64 p2, .int .i64 q0, .int .i64 q1, .int .i64 q2, .int .i64 r] 28)).alloc (.cells #[.int .i64 P, .slice (some ⟨tb, tz, none⟩) L.body.length tc] 49)) wr ∧ MapG (fun c s => (tallyT L P T k c s : Int)) k (w.heap.size + 1 + 1 + 1) wr) (fun i _ => L.body.length - (intOf i).toNat)
  case atStart => exact ⟨0, Nat.zero_le _, rfl, rfl, (Below.refl _ _).alloc (by rw [HS3.out]; exact Nat.le_refl _) _, H0.out⟩
  case round =>
    clear H0 hmm
    obtain ⟨k, hk, rfl, hall, hbel, hM⟩ := hrel
    have HA := hide hall
    have HB := hide hbel
    have HM := hide hM
    have hbw : Below w.heap.size w wr := HB3.out.trans (hbel.mono (by omega))
    have hsz : (w.heap.size + 1 + 1 + 1) ≤ wr.heap.size := by have := hbel.size; rw [HS3.out] at this; exact this
    clear hall hM
    by_cases hkl : k < L.body.length
    · have hki : (k : Int) < (L.body.length : Int) := by omega
      obtain ⟨c0, c1, c2, c3, c4, c5, c6, c7, c8⟩ := nine (fun j hj => (bcell hbw bb (bo + k * 9 + j) hbb).trans (HBO.out k hkl j hj))
      have hbz : bb < wr.heap.size := by omega
      obtain ⟨tm1, tm2⟩ := HT.out k hkl
      have htk := (bcell hbw tb (tz + k) htb).trans (HTI.out k hkl)
      obtain ⟨cn, hcn, hcn3⟩ := cls_nat (stAt L.body k).o
      have hm1 := Int.tmod_nonneg P tm1
      have hm2 := Int.tmod_lt_of_pos (nth T k) (show 0 < P by omega)
      have HUS : Hid (unitsS L ⟨p0, p1, p2, q0, q1, q2, r⟩ P T k = decide ((tallyT L P T k cn ((nth T k).tmod P) : Int) + 1 ≤ unitsT ⟨p0, p1, p2, q0, q1, q2, r⟩ cn)) := by
        show _ = _
        unfold unitsS
        rw [hcn, tallyT_step, if_pos ⟨hcn.symm, rfl⟩]
        rfl
      have HNX : Hid (∀ c s, (fun c' r' => if c' = (cn : Int) ∧ r' = (nth T k).tmod P then (tallyT L P T k cn ((nth T k).tmod P) : Int) + 1 else (tallyT L P T k c' r' : Int)) c s = (tallyT L P T (k + 1) c s : Int)) := fun c s => by
        rw [tallyT_step, hcn]
        dsimp only
        by_cases e : c = (cn : Int) ∧ s = (nth T k).tmod P
        · rw [if_pos e, if_pos e, e.1, e.2]; rfl
        · rw [if_neg e, if_neg e]
      have hcc16 : tallyT L P T k cn ((nth T k).tmod P) ≤ 16 := Nat.le_trans (cnt_le _ _) (by omega)
      have HLOOK := hide (fun (x : World) (h : MapG (fun c s => (tallyT L P T k c s : Int)) k (w.heap.size + 1 + 1 + 1) x) => h.look cn ((nth T k).tmod P) (wf_i _ (by omega) (by omega)) (wf_i _ (by omega) (by omega)))
      have HSTEP := hide (fun (x : World) (h : MapG (fun c s => (tallyT L P T k c s : Int)) k (w.heap.size + 1 + 1 + 1) x) => h.step (by unfold maxLen; omega) cn ((nth T k).tmod P) (wf_i _ (by omega) (by omega)) (wf_i _ (by omega) (by omega)) ((tallyT L P T k cn ((nth T k).tmod P) : Int) + 1) (wf_i _ (by omega) (by omega)))
      have HLOOK2 : Hid (∀ x, MapG (fun c s => (tallyT L P T (k + 1) c s : Int)) (k + 1) (w.heap.size + 1 + 1 + 1) x → (Instr.lookup 181 (.map (some (w.heap.size + 1 + 1 + 1))) (.agg #[.int .i64 cn, .int .i64 ((nth T k).tmod P)]) false).run Tryz.prog x = .ok (.int .i64 ((tallyT L P T k cn ((nth T k).tmod P) : Int) + 1)) x) := fun x h => by
        have h2 := h.look cn ((nth T k).tmod P) (wf_i _ (by omega) (by omega)) (wf_i _ (by omega) (by omega))
        rw [tallyT_step, if_pos ⟨hcn.symm, rfl⟩] at h2
        exact h2
      have HUO := hide (fun W => unitOf_any (stAt L.body k).o (stAt L.body k).xa (stAt L.body k).xb (stAt L.body k).ya (stAt L.body k).yb (stAt L.body k).ar (stAt L.body k).sp (stAt L.body k).pl (stAt L.body k).nn (nth T k) P W tm1 (by omega) hP1 hP2)
      rw [hcn] at HUO
      have HTG : Hid (∀ x, Below (w.heap.size + 1 + 1 + 1) wr x → x.cell? ⟨w.heap.size + 1, cn, none⟩ = some (.int .i64 (unitsT ⟨p0, p1, p2, q0, q1, q2, r⟩ cn))) := fun x hx => by
        have hb := ((hx.block (w.heap.size + 1) (by omega)).trans (HB.out.block _ (by omega))).trans HT3.out
        rw [cell_of_block hb]
        obtain rfl | rfl | rfl : cn = 0 ∨ cn = 1 ∨ cn = 2 := by omega
        all_goals rfl
      obtain ⟨tm, htm⟩ : ∃ tm, nth T k = tm := ⟨_, rfl⟩
      rw [htm] at htk tm1 tm2 hm1 hm2 HUS HNX hcc16 HLOOK HSTEP HLOOK2 HUO
      obtain ⟨rm, hrm⟩ : ∃ rm, tm.tmod P = rm := ⟨_, rfl⟩
      rw [hrm] at hm1 hm2 HUS HNX hcc16 HLOOK HSTEP HLOOK2 HUO
      obtain ⟨cc, hcc⟩ : ∃ cc, tallyT L P T k cn rm = cc := ⟨_, rfl⟩
      rw [hcc] at HUS HNX hcc16 HLOOK HSTEP HLOOK2
      obtain ⟨un, hun⟩ : ∃ un, unitsT ⟨p0, p1, p2, q0, q1, q2, r⟩ (cn : Int) = un := ⟨_, rfl⟩
      rw [hun] at HUS HTG
      have HPL : Hid (wr.heap[w.heap.size + 1 + 1]? = some (.cells #[.int .i64 P, .slice (some ⟨tb, tz, none⟩) L.body.length tc] 49 (0, 0))) := (HB.out.block _ (by omega)).trans HP3.out
      have HXX : Hid (∃ xk, stAt L.body k = xk) := ⟨_, rfl⟩
      generalize stAt L.body k = xk at c0 c1 c2 c3 c4 c5 c6 c7 c8 HUO
      clear HXX hcn htm hrm hcc hun
      obtain ⟨o, xa, xb, ya, yb, ar, sp, pl, nn⟩ := xk
      simp only at c0 c1 c2 c3 c4 c5 c6 c7 c8 HUO
      have HHELD : Hid (∀ y : World, Below wr.heap.size (wr.alloc (.cells #[.int .i64 o, .int .i64 xa, .int .i64 xb, .int .i64 ya, .int .i64 yb, .int .i64 ar, .int .i64 sp, .int .i64 pl, .int .i64 nn] 41)) y → y.cell? ⟨w.heap.size + 1 + 1, 0, none⟩ = some (.int .i64 P) ∧ y.cell? ⟨w.heap.size + 1 + 1, 1, none⟩ = some (.slice (some ⟨tb, tz, none⟩) L.body.length tc) ∧ y.cell? ⟨tb, tz + k, none⟩ = some (.int .i64 tm)) := fun y hy => by
        have hy2 : Below wr.heap.size wr y := (below_alloc1 _ _).trans hy
        have hb := (hy2.block (w.heap.size + 1 + 1) (by omega)).trans HPL.out
        exact ⟨by rw [cell_of_block hb]; rfl, by rw [cell_of_block hb]; rfl, (bcell hy2 _ _ (by omega)).trans htk⟩
      have HBOX : Hid (∀ y : World, Below (wr.heap.size + 1) (wr.alloc (.cells #[.int .i64 o, .int .i64 xa, .int .i64 xb, .int .i64 ya, .int .i64 yb, .int .i64 ar, .int .i64 sp, .int .i64 pl, .int .i64 nn] 41)) y → y.cell? ⟨wr.heap.size, 0, none⟩ = some (.int .i64 o) ∧ y.cell? ⟨wr.heap.size, 1, none⟩ = some (.int .i64 xa) ∧ y.cell? ⟨wr.heap.size, 2, none⟩ = some (.int .i64 xb) ∧ y.cell? ⟨wr.heap.size, 3, none⟩ = some (.int .i64 ya) ∧ y.cell? ⟨wr.heap.size, 4, none⟩ = some (.int .i64 yb) ∧ y.cell? ⟨wr.heap.size, 5, none⟩ = some (.int .i64 ar) ∧ y.cell? ⟨wr.heap.size, 6, none⟩ = some (.int .i64 sp) ∧ y.cell? ⟨wr.heap.size, 7, none⟩ = some (.int .i64 pl) ∧ y.cell? ⟨wr.heap.size, 8, none⟩ = some (.int .i64 nn)) := fun y hy => by
        have hb : y.heap[wr.heap.size]? = some (.cells #[.int .i64 o, .int .i64 xa, .int .i64 xb, .int .i64 ya, .int .i64 yb, .int .i64 ar, .int .i64 sp, .int .i64 pl, .int .i64 nn] 41 (0, 0)) := (hy.block _ (by omega)).trans (new_blkS _ _ _)
        refine ⟨?_, ?_, ?_, ?_, ?_, ?_, ?_, ?_, ?_⟩ <;> (rw [cell_of_block hb]; rfl)
      have HS : Hid ((wr.alloc (.cells #[.int .i64 o, .int .i64 xa, .int .i64 xb, .int .i64 ya, .int .i64 yb, .int .i64 ar, .int .i64 sp, .int .i64 pl, .int .i64 nn] 41)).heap.size = wr.heap.size + 1) := by show _ = _; simp
      have HSE : Hid (∀ y : World, Below (wr.heap.size + 1) (wr.alloc (.cells #[.int .i64 o, .int .i64 xa, .int .i64 xb, .int .i64 ya, .int .i64 yb, .int .i64 ar, .int .i64 sp, .int .i64 pl, .int .i64 nn] 41)) y → (y.cell? ⟨w.heap.size + 1 + 1, 0, none⟩ = some (.int .i64 P) ∧ y.cell? ⟨w.heap.size + 1 + 1, 1, none⟩ = some (.slice (some ⟨tb, tz, none⟩) L.body.length tc) ∧ y.cell? ⟨tb, tz + k, none⟩ = some (.int .i64 tm)) ∧ (y.cell? ⟨wr.heap.size, 0, none⟩ = some (.int .i64 o) ∧ y.cell? ⟨wr.heap.size, 1, none⟩ = some (.int .i64 xa) ∧ y.cell? ⟨wr.heap.size, 2, none⟩ = some (.int .i64 xb) ∧ y.cell? ⟨wr.heap.size, 3, none⟩ = some (.int .i64 ya) ∧ y.cell? ⟨wr.heap.size, 4, none⟩ = some (.int .i64 yb) ∧ y.cell? ⟨wr.heap.size, 5, none⟩ = some (.int .i64 ar) ∧ y.cell? ⟨wr.heap.size, 6, none⟩ = some (.int .i64 sp) ∧ y.cell? ⟨wr.heap.size, 7, none⟩ = some (.int .i64 pl) ∧ y.cell? ⟨wr.heap.size, 8, none⟩ = some (.int .i64 nn))) := fun y hy => ⟨HHELD.out y (hy.mono (by omega)), HBOX.out y hy⟩
      have HBAL : Hid (Below wr.heap.size wr (wr.alloc (.cells #[.int .i64 o, .int .i64 xa, .int .i64 xb, .int .i64 ya, .int .i64 yb, .int .i64 ar, .int .i64 sp, .int .i64 pl, .int .i64 nn] 41))) := below_alloc1 _ _
      clear hbel hbw htk HHELD HBOX
      go_wp2_with fail
      clear c0 c1 c2 c3 c4 c5 c6 c7 c8
      refine wp_region_noPanic ?_
      refine region_until 10 (fun w' => (w'.cell? ⟨w.heap.size + 1 + 1, 0, none⟩ = some (.int .i64 P) ∧ w'.cell? ⟨w.heap.size + 1 + 1, 1, none⟩ = some (.slice (some ⟨tb, tz, none⟩) L.body.length tc) ∧ w'.cell? ⟨tb, tz + k, none⟩ = some (.int .i64 tm)) ∧ (w'.cell? ⟨wr.heap.size, 0, none⟩ = some (.int .i64 o) ∧ w'.cell? ⟨wr.heap.size, 1, none⟩ = some (.int .i64 xa) ∧ w'.cell? ⟨wr.heap.size, 2, none⟩ = some (.int .i64 xb) ∧ w'.cell? ⟨wr.heap.size, 3, none⟩ = some (.int .i64 ya) ∧ w'.cell? ⟨wr.heap.size, 4, none⟩ = some (.int .i64 yb) ∧ w'.cell? ⟨wr.heap.size, 5, none⟩ = some (.int .i64 ar) ∧ w'.cell? ⟨wr.heap.size, 6, none⟩ = some (.int .i64 sp) ∧ w'.cell? ⟨wr.heap.size, 7, none⟩ = some (.int .i64 pl) ∧ w'.cell? ⟨wr.heap.size, 8, none⟩ = some (.int .i64 nn))) (by kernel_rfl) (HSE.out _ (below_dr1 _ _)) (fun hHeld => ?_)
      refine utk (i := 0) rfl hHeld ?_
      try simp only [Act.put, List.setIfInBounds_toArray, List.set_cons_zero, List.set_cons_succ]
      refine utk (i := 1) rfl hHeld ?_
      try simp only [Act.put, List.setIfInBounds_toArray, List.set_cons_zero, List.set_cons_succ]
      refine utk (i := 2) rfl hHeld ?_
      try simp only [Act.put, List.setIfInBounds_toArray, List.set_cons_zero, List.set_cons_succ]
      refine utk (i := 3) rfl hHeld ?_
      try simp only [Act.put, List.setIfInBounds_toArray, List.set_cons_zero, List.set_cons_succ]
      refine utk (i := 4) rfl hHeld ?_
      try simp only [Act.put, List.setIfInBounds_toArray, List.set_cons_zero, List.set_cons_succ]
      refine utk (i := 5) rfl hHeld ?_
      try simp only [Act.put, List.setIfInBounds_toArray, List.set_cons_zero, List.set_cons_succ]
      refine utk (i := 6) rfl hHeld ?_
      try simp only [Act.put, List.setIfInBounds_toArray, List.set_cons_zero, List.set_cons_succ]
      refine utk (i := 7) rfl hHeld ?_
      try simp only [Act.put, List.setIfInBounds_toArray, List.set_cons_zero, List.set_cons_succ]
      refine until_two (i := 8) (j := 9) rfl rfl (by kernel_rfl) (fun K hK => ?a1) (fun K hK => ?a2)
      case' a1 =>
        go_simp
        refine (HUO.out _).mono ?_
        rintro e x1 ⟨rfl, hb1⟩
        have hB1 : Below (wr.heap.size + 1) (wr.alloc (.cells #[.int .i64 o, .int .i64 xa, .int .i64 xb, .int .i64 ya, .int .i64 yb, .int .i64 ar, .int .i64 sp, .int .i64 pl, .int .i64 nn] 41)) x1 := (below_dr1 _ _).trans (hb1.mono (by show _ ≤ (wr.alloc (.cells #[.int .i64 o, .int .i64 xa, .int .i64 xb, .int .i64 ya, .int .i64 yb, .int .i64 ar, .int .i64 sp, .int .i64 pl, .int .i64 nn] 41)).heap.size; rw [HS.out]; exact Nat.le_refl _))
        have HB1 := hide hB1
        have hHeld := HSE.out _ hB1
        have hsx : wr.heap.size + 1 ≤ x1.heap.size := by have := hB1.size; rw [HS.out] at this; exact this
        clear hb1 hB1
        refine hK.out _ _ (.inr hHeld) ?_
        clear hK K
        try simp only [Act.put, List.setIfInBounds_toArray, List.set_cons_zero, List.set_cons_succ]
        have HBX : Hid (Below (wr.heap.size + 1) (wr.alloc (.cells #[.int .i64 o, .int .i64 xa, .int .i64 xb, .int .i64 ya, .int .i64 yb, .int .i64 ar, .int .i64 sp, .int .i64 pl, .int .i64 nn] 41)) (x1.alloc (.cells #[.int .i64 0, .int .i64 0] 182))) := HB1.out.alloc hsx _
        have hHeld2 := HSE.out _ HBX.out
        refine until_one (i := 9) rfl (by kernel_rfl) (fun K hK => ?_)
        go_simp
        refine hK.out _ _ (.inr hHeld2) ?_
        clear hK K
        try simp only [Act.put, List.setIfInBounds_toArray, List.set_cons_zero, List.set_cons_succ]
        refine until_one (i := 10) rfl (by kernel_rfl) (fun K hK => ?_)
        go_simp
        refine hK.out _ _ (.inl rfl) ?_
        clear hK K
        try simp only [Act.put, List.setIfInBounds_toArray, List.set_cons_zero, List.set_cons_succ]
        refine until_done (by kernel_rfl) ?_ _
        refine NoPanic.normal ?_
        clear hHeld hHeld2
        have HW : Hid (Below (wr.heap.size + 1) (wr.alloc (.cells #[.int .i64 o, .int .i64 xa, .int .i64 xb, .int .i64 ya, .int .i64 yb, .int .i64 ar, .int .i64 sp, .int .i64 pl, .int .i64 nn] 41)) (x1.alloc (.cells #[.int .i64 cn, .int .i64 rm] 182))) := HB1.out.alloc hsx _
        have HU0 : Hid ((x1.alloc (.cells #[.int .i64 cn, .int .i64 rm] 182)).heap[x1.heap.size]? = some (.cells #[.int .i64 cn, .int .i64 rm] 182 (0, 0))) := new_blkS _ _ _
        have HU : Hid ((x1.alloc (.cells #[.int .i64 cn, .int .i64 rm] 182)).cell? ⟨x1.heap.size, 0, none⟩ = some (.int .i64 cn) ∧ (x1.alloc (.cells #[.int .i64 cn, .int .i64 rm] 182)).cell? ⟨x1.heap.size, 1, none⟩ = some (.int .i64 rm) ∧ x1.heap.size < (x1.alloc (.cells #[.int .i64 cn, .int .i64 rm] 182)).heap.size) := ⟨by rw [cell_of_block HU0.out]; rfl, by rw [cell_of_block HU0.out]; rfl, by simp⟩
        clear HU0 HBX HB1
        generalize (x1.alloc (.cells #[.int .i64 cn, .int .i64 rm] 182)) = W at *
        generalize hub : x1.heap.size = ub at *
        clear hub
      case' a2 =>
        go_simp
        have hBA : Below (wr.heap.size + 1) (wr.alloc (.cells #[.int .i64 o, .int .i64 xa, .int .i64 xb, .int .i64 ya, .int .i64 yb, .int .i64 ar, .int .i64 sp, .int .i64 pl, .int .i64 nn] 41)) ((wr.alloc (.cells #[.int .i64 o, .int .i64 xa, .int .i64 xb, .int .i64 ya, .int .i64 yb, .int .i64 ar, .int .i64 sp, .int .i64 pl, .int .i64 nn] 41)).drew.alloc (.cells #[.int .i64 0, .int .i64 0] 182)) := (below_dr1 _ _).alloc (by show _ ≤ (wr.alloc (.cells #[.int .i64 o, .int .i64 xa, .int .i64 xb, .int .i64 ya, .int .i64 yb, .int .i64 ar, .int .i64 sp, .int .i64 pl, .int .i64 nn] 41)).heap.size; rw [HS.out]; exact Nat.le_refl _) _
        have hHeld1 := HSE.out _ hBA
        refine hK.out _ _ (.inr hHeld1) ?_
        clear hK K
        try simp only [Act.put, List.setIfInBounds_toArray, List.set_cons_zero, List.set_cons_succ]
        refine until_one (i := 8) rfl (by kernel_rfl) (fun K hK => ?_)
        go_simp
        refine (HUO.out _).mono ?_
        rintro e x1 ⟨rfl, hb1⟩
        have HN0 : Hid (((wr.alloc (.cells #[.int .i64 o, .int .i64 xa, .int .i64 xb, .int .i64 ya, .int .i64 yb, .int .i64 ar, .int .i64 sp, .int .i64 pl, .int .i64 nn] 41)).drew.alloc (.cells #[.int .i64 0, .int .i64 0] 182)).heap[wr.heap.size + 1]? = some (.cells #[.int .i64 0, .int .i64 0] 182 (0, 0))) := by
          show _ = _
          have e : (wr.alloc (.cells #[.int .i64 o, .int .i64 xa, .int .i64 xb, .int .i64 ya, .int .i64 yb, .int .i64 ar, .int .i64 sp, .int .i64 pl, .int .i64 nn] 41)).drew.heap.size = wr.heap.size + 1 := HS.out
          rw [← e]; exact new_blkS _ _ _
        have hz : wr.heap.size + 1 + 1 ≤ ((wr.alloc (.cells #[.int .i64 o, .int .i64 xa, .int .i64 xb, .int .i64 ya, .int .i64 yb, .int .i64 ar, .int .i64 sp, .int .i64 pl, .int .i64 nn] 41)).drew.alloc (.cells #[.int .i64 0, .int .i64 0] 182)).heap.size := by
          have e : ((wr.alloc (.cells #[.int .i64 o, .int .i64 xa, .int .i64 xb, .int .i64 ya, .int .i64 yb, .int .i64 ar, .int .i64 sp, .int .i64 pl, .int .i64 nn] 41)).drew.alloc (.cells #[.int .i64 0, .int .i64 0] 182)).heap.size = (wr.alloc (.cells #[.int .i64 o, .int .i64 xa, .int .i64 xb, .int .i64 ya, .int .i64 yb, .int .i64 ar, .int .i64 sp, .int .i64 pl, .int .i64 nn] 41)).heap.size + 1 := by simp
          rw [e, HS.out]; exact Nat.le_refl _
        have HN1 : Hid (x1.heap[wr.heap.size + 1]? = some (.cells #[.int .i64 0, .int .i64 0] 182 (0, 0))) := (hb1.block _ (Nat.lt_of_lt_of_le (Nat.lt_succ_self _) hz)).trans HN0.out
        have HB1 : Hid (Below (wr.heap.size + 1) (wr.alloc (.cells #[.int .i64 o, .int .i64 xa, .int .i64 xb, .int .i64 ya, .int .i64 yb, .int .i64 ar, .int .i64 sp, .int .i64 pl, .int .i64 nn] 41)) x1) := hBA.trans (hb1.mono (Nat.le_trans (Nat.le_succ _) hz))
        have hHeld2 := HSE.out _ HB1.out
        have hsx : wr.heap.size + 1 + 1 ≤ x1.heap.size := Nat.le_trans hz hb1.size
        clear hb1 hBA hHeld hz
        refine hK.out _ _ (.inr hHeld2) ?_
        clear hK K
        try simp only [Act.put, List.setIfInBounds_toArray, List.set_cons_zero, List.set_cons_succ]
        have n0 : x1.cell? ⟨wr.heap.size + 1, 0, none⟩ = some (.int .i64 0) := by rw [cell_of_block HN1.out]; rfl
        have n1 : x1.cell? ⟨wr.heap.size + 1, 1, none⟩ = some (.int .i64 0) := by rw [cell_of_block HN1.out]; rfl
        have f0 : x1.frozen? ⟨wr.heap.size + 1, 0, none⟩ = false := by simp [World.frozen?, HN1.out]
        have f1 : x1.frozen? ⟨wr.heap.size + 1, 1, none⟩ = false := by simp [World.frozen?, HN1.out]
        refine until_one (i := 10) rfl (by kernel_rfl) (fun K hK => ?_)
        go_simp
        refine hK.out _ _ (.inl rfl) ?_
        clear hK K
        try simp only [Act.put, List.setIfInBounds_toArray, List.set_cons_zero, List.set_cons_succ]
        refine until_done (by kernel_rfl) ?_ _
        refine NoPanic.normal ?_
        clear hHeld1 hHeld2 n0 n1 f0 f1
        have HW : Hid (Below (wr.heap.size + 1) (wr.alloc (.cells #[.int .i64 o, .int .i64 xa, .int .i64 xb, .int .i64 ya, .int .i64 yb, .int .i64 ar, .int .i64 sp, .int .i64 pl, .int .i64 nn] 41)) ((x1.setCell ⟨wr.heap.size + 1, 0, none⟩ (.int .i64 cn)).setCell ⟨wr.heap.size + 1, 1, none⟩ (.int .i64 rm))) := (HB1.out.setCell (Nat.le_refl _) _).setCell (Nat.le_refl _) _
        have HU : Hid (((x1.setCell ⟨wr.heap.size + 1, 0, none⟩ (.int .i64 cn)).setCell ⟨wr.heap.size + 1, 1, none⟩ (.int .i64 rm)).cell? ⟨wr.heap.size + 1, 0, none⟩ = some (.int .i64 cn) ∧ ((x1.setCell ⟨wr.heap.size + 1, 0, none⟩ (.int .i64 cn)).setCell ⟨wr.heap.size + 1, 1, none⟩ (.int .i64 rm)).cell? ⟨wr.heap.size + 1, 1, none⟩ = some (.int .i64 rm) ∧ wr.heap.size + 1 < ((x1.setCell ⟨wr.heap.size + 1, 0, none⟩ (.int .i64 cn)).setCell ⟨wr.heap.size + 1, 1, none⟩ (.int .i64 rm)).heap.size) := ⟨(pair_set HN1.out).1, (pair_set HN1.out).2, by simp; omega⟩
        clear HN0 HN1 HB1
        generalize ((x1.setCell ⟨wr.heap.size + 1, 0, none⟩ (.int .i64 cn)).setCell ⟨wr.heap.size + 1, 1, none⟩ (.int .i64 rm)) = W at *
        clear hsx
        generalize hub : wr.heap.size + 1 = ub at HU ⊢
        have hsx : wr.heap.size + 1 ≤ ub := by omega
        clear hub
      all_goals
        obtain ⟨u0, u1, uz⟩ := HU.out
        have HBWr : Hid (Below wr.heap.size wr W) := HBAL.out.trans (HW.out.mono (by omega))
        have HMW : Hid (MapG (fun c s => (tallyT L P T k c s : Int)) k (w.heap.size + 1 + 1 + 1) W.drew) := (HM.out.below HBWr.out).below (below_dr1 _ _)
        have hmb : (w.heap.size + 1 + 1 + 1) < wr.heap.size := HM.out.lt
        obtain ⟨ve, stp, w1, e1, e2, e3, w3, f1, f2, f3⟩ := HSTEP.out _ HMW.out
        have hcn3i : (cn : Int) < 3 := by omega
        have hwr : IntKind.i64.wrap ((cc : Int) + 1) = (cc : Int) + 1 := i64_wrap _ (by omega) (by omega)
        have hk1 : w1.heap[ub]? = W.heap[ub]? := e2.block ub uz (by intro e; have := Option.some.inj e; omega)
        have hk3 : w3.heap[ub]? = W.heap[ub]? := (f2.block ub (Nat.lt_of_lt_of_le uz e2.size) (by intro e; have := Option.some.inj e; omega)).trans hk1
        have HM3 : Hid (MapG (fun c s => (tallyT L P T (k + 1) c s : Int)) (k + 1) (w.heap.size + 1 + 1 + 1) w3) := f3.congr HNX.out
        have HW3 : Hid (Below (w.heap.size + 1 + 1 + 1) wr w3) := ((HBWr.out.mono (by omega)).drew.grown e2 (by have := HBWr.out.size; show _ ≤ W.heap.size; omega) (fun q hq => by have := Option.some.inj hq; omega)).grown f2 (Nat.le_trans (by have := HBWr.out.size; omega : (w.heap.size + 1 + 1 + 1) ≤ W.heap.size) e2.size) (fun q hq => by have := Option.some.inj hq; omega)
        have H6 : Hid (W.drew.cell? ⟨ub, 0, none⟩ = some (.int .i64 cn) ∧ W.drew.cell? ⟨ub, 1, none⟩ = some (.int .i64 rm) ∧ (Instr.lookup 181 (.map (some (w.heap.size + 1 + 1 + 1))) (.agg #[.int .i64 cn, .int .i64 rm]) false).run Tryz.prog W.drew = .ok (.int .i64 cc) W.drew) := ⟨u0, u1, HLOOK.out _ HMW.out⟩
        have H61 : Hid (w1.cell? ⟨ub, 0, none⟩ = some (.int .i64 cn) ∧ w1.cell? ⟨ub, 1, none⟩ = some (.int .i64 rm) ∧ (Instr.lookup 181 (.map (some (w.heap.size + 1 + 1 + 1))) (.agg #[.int .i64 cn, .int .i64 rm]) false).run Tryz.prog w1 = .ok (.int .i64 cc) w1) := ⟨(cell_same hk1 _).trans u0, (cell_same hk1 _).trans u1, e3⟩
        have H7 : Hid (w3.drew.cell? ⟨ub, 0, none⟩ = some (.int .i64 cn) ∧ w3.drew.cell? ⟨ub, 1, none⟩ = some (.int .i64 rm) ∧ w3.drew.cell? ⟨w.heap.size + 1, cn, none⟩ = some (.int .i64 un) ∧ (Instr.lookup 181 (.map (some (w.heap.size + 1 + 1 + 1))) (.agg #[.int .i64 cn, .int .i64 rm]) false).run Tryz.prog w3.drew = .ok (.int .i64 ((cc : Int) + 1)) w3.drew) := ⟨(cell_same hk3 _).trans u0, (cell_same hk3 _).trans u1, HTG.out _ HW3.out.drew, HLOOK2.out _ (HM3.out.below (below_dr1 _ _))⟩
        clear u0 u1 e2 e3 f2 f3 hk1 hk3 HU
        go_wp2_with fail
        refine wp_region_noPanic ?_
        refine region_until 6 (fun w' => w'.cell? ⟨ub, 0, none⟩ = some (.int .i64 cn) ∧ w'.cell? ⟨ub, 1, none⟩ = some (.int .i64 rm) ∧ (Instr.lookup 181 (.map (some (w.heap.size + 1 + 1 + 1))) (.agg #[.int .i64 cn, .int .i64 rm]) false).run Tryz.prog w' = .ok (.int .i64 cc) w') (by kernel_rfl) H6.out (fun hHeld => ?_)
        refine utk (i := 0) rfl hHeld ?_
        try simp only [Act.put, List.setIfInBounds_toArray, List.set_cons_zero, List.set_cons_succ]
        refine utk (i := 1) rfl hHeld ?_
        try simp only [Act.put, List.setIfInBounds_toArray, List.set_cons_zero, List.set_cons_succ]
        refine utk (i := 2) rfl hHeld ?_
        try simp only [Act.put, List.setIfInBounds_toArray, List.set_cons_zero, List.set_cons_succ]
        refine utk (i := 3) rfl hHeld ?_
        try simp only [Act.put, List.setIfInBounds_toArray, List.set_cons_zero, List.set_cons_succ]
        refine until_one (i := 4) rfl (by kernel_rfl) (fun K hK => ?_)
        go_simp
        have hHeld := H61.out
        refine hK.out _ _ (.inr hHeld) ?_
        clear hK K
        try simp only [Act.put, List.setIfInBounds_toArray, List.set_cons_zero, List.set_cons_succ]
        refine utk (i := 5) rfl hHeld ?_
        try simp only [Act.put, List.setIfInBounds_toArray, List.set_cons_zero, List.set_cons_succ]
        refine until_one (i := 6) rfl (by kernel_rfl) (fun K hK => ?_)
        go_simp
        refine hK.out _ _ (.inl rfl) ?_
        clear hK K
        try simp only [Act.put, List.setIfInBounds_toArray, List.set_cons_zero, List.set_cons_succ]
        refine until_done (by kernel_rfl) ?_ _
        refine NoPanic.normal ?_
        clear e1 f1 hHeld H6 H61
        obtain ⟨bd, hbd⟩ : ∃ bd, decide (un < (cc : Int) + 1) = bd := ⟨_, rfl⟩
        have HBD : Hid (unitsS L ⟨p0, p1, p2, q0, q1, q2, r⟩ P T k = !bd) := by
          show _ = _
          rw [HUS.out, ← hbd]
          by_cases h : un < (cc : Int) + 1
          · rw [decide_eq_true h, decide_eq_false (by omega)]; rfl
          · rw [decide_eq_false h, decide_eq_true (by omega)]; rfl
        go_wp2_with fail
        refine wp_region_noPanic ?_
        refine region_until 99 (fun w' => w'.cell? ⟨ub, 0, none⟩ = some (.int .i64 cn) ∧ w'.cell? ⟨ub, 1, none⟩ = some (.int .i64 rm) ∧ w'.cell? ⟨w.heap.size + 1, cn, none⟩ = some (.int .i64 un) ∧ (Instr.lookup 181 (.map (some (w.heap.size + 1 + 1 + 1))) (.agg #[.int .i64 cn, .int .i64 rm]) false).run Tryz.prog w' = .ok (.int .i64 ((cc : Int) + 1)) w') (by kernel_rfl) H7.out (fun hHeld => ?_)
        refine utk (i := 0) rfl hHeld ?_
        try simp only [Act.put, List.setIfInBounds_toArray, List.set_cons_zero, List.set_cons_succ]
        refine utk (i := 1) rfl hHeld ?_
        try simp only [Act.put, List.setIfInBounds_toArray, List.set_cons_zero, List.set_cons_succ]
        refine utk (i := 2) rfl hHeld ?_
        try simp only [Act.put, List.setIfInBounds_toArray, List.set_cons_zero, List.set_cons_succ]
        refine utk (i := 3) rfl hHeld ?_
        try simp only [Act.put, List.setIfInBounds_toArray, List.set_cons_zero, List.set_cons_succ]
        refine utk (i := 4) rfl hHeld ?_
        try simp only [Act.put, List.setIfInBounds_toArray, List.set_cons_zero, List.set_cons_succ]
        refine utk (i := 5) rfl hHeld ?_
        try simp only [Act.put, List.setIfInBounds_toArray, List.set_cons_zero, List.set_cons_succ]
        refine utk (i := 6) rfl hHeld ?_
        try simp only [Act.put, List.setIfInBounds_toArray, List.set_cons_zero, List.set_cons_succ]
        refine utk (i := 7) rfl hHeld ?_
        try simp only [Act.put, List.setIfInBounds_toArray, List.set_cons_zero, List.set_cons_succ]
        refine utk (i := 8) rfl hHeld ?_
        try simp only [Act.put, List.setIfInBounds_toArray, List.set_cons_zero, List.set_cons_succ]
        refine until_done (by kernel_rfl) ?_ _
        refine NoPanic.normal ?_
        clear hHeld H7
        have HBW : Hid (Below w.heap.size w w3.drew) := HB3.out.trans ((HB.out.trans HW3.out.drew).mono (by omega))
        cases bd with
        | true =>
          have HF : Hid (allN (unitsS L ⟨p0, p1, p2, q0, q1, q2, r⟩ P T) L.body.length = false) := allN_false hkl HBD.out
          go_wp2_with fail
          go_ret
          exact ⟨ret_bool HF.out.symm, HBW.out⟩
        | false =>
          go_wp2_with fail
          go_roundw
          case rel => exact ⟨k + 1, by omega, by go_num, allN_step HA.out HBD.out, HB.out.trans HW3.out.drew, HM3.out.below (below_dr1 _ _)⟩
          case measure => simp [intOf]; omega
    · have e : k = L.body.length := by omega
      subst e
      have hki : ¬ (L.body.length : Int) < (L.body.length : Int) := by omega
      have HBW := hide hbw
      clear hbw hbel
      go_wp2_with fail
      go_ret
      exact ⟨ret_bool HA.out.symm, HBW.out⟩
end Go.Proofs.YtghlcmljgpkjiabGreat
