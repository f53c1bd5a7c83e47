/- The cycles of a run, by the program, are the document's: what a cycle begins and ends with. -/
import Derived.Test.YtlgphgfldfjkkaaKernDo
import Derived.Test.YtlgphgfldfjkkaaKernSlots
namespace Go.Proofs.Ytlgphgfldfjkkaa
open Go.RowKit Go.Joins
set_option linter.unusedVariables false
set_option linter.unusedSimpArgs false

/-- what is due stands within its six cycles, and in registers -/
theorem ops_due {t : Tg} {K : Kn} {logs : List Int} {turns now : Int} {f : Nat → Int} {m : Nat → Nat → Int} {q : Nx} (hmt : mayT t = true) {p : Du → Prop} (hq : ∀ d ∈ q.du, p d) (hp : ∀ d : Du, now + 1 ≤ d.at_ → d.at_ ≤ now + 6 → 0 ≤ d.rg → d.rg < t.r → p d) : ∀ k, ∀ d ∈ (opsK t K logs turns now f m q k).du, p d := by
  intro k
  induction k with
  | zero => exact hq
  | succ k ih =>
    show ∀ d ∈ (opK t logs K.pc turns now f m (opsK t K logs turns now f m q k) (opAt K.ops k)).du, p d
    unfold opK
    split
    · intro d hd
      rcases List.mem_append.1 hd with h | h
      · exact ih d h
      · have e : d = _ := List.mem_singleton.1 h
        obtain ⟨wt, w1, w2, w3, -⟩ := wait_nat hmt (opAt K.ops k).o
        have hr := (mayT_parts hmt).2.2.2.1
        have h1 := Int.emod_nonneg ((opAt K.ops k).d + now / K.pc) (by omega : t.r ≠ 0)
        have h2 := Int.emod_lt_of_pos ((opAt K.ops k).d + now / K.pc) (by omega : 0 < t.r)
        rw [e]
        exact hp _ (by show now + 1 ≤ now + waitsT t _; rw [w1]; omega) (by show now + waitsT t _ ≤ now + 6; rw [w1]; omega) h1 h2
    · exact ih
theorem run_win {t : Tg} {K : Kn} {logs : List Int} {turns : Int} {s : Kst} (hmt : mayT t = true) (h0 : s.due = []) : ∀ n : Nat, ∀ d ∈ (runK t K logs turns s n).due, ((n : Int) ≤ d.at_ ∧ d.at_ ≤ n + 5) ∧ d.at_ ≤ lastK K turns + 5 ∧ 0 ≤ d.rg ∧ d.rg < t.r := by
  intro n
  induction n with
  | zero => intro d hd; rw [show runK t K logs turns s 0 = s from rfl, h0] at hd; cases hd
  | succ n ih =>
    have hw : Win n (runK t K logs turns s n).due := fun d hd => (ih d hd).1
    have hrest : ∀ d ∈ restN n (runK t K logs turns s n).due (runK t K logs turns s n).due.length, (((n + 1 : Nat) : Int) ≤ d.at_ ∧ d.at_ ≤ (n + 1 : Nat) + 5) ∧ d.at_ ≤ lastK K turns + 5 ∧ 0 ≤ d.rg ∧ d.rg < t.r := fun d hd => by
      have h1 := rest_win hw d hd
      have h2 := rest_fine (p := fun d => d.at_ ≤ lastK K turns + 5 ∧ 0 ≤ d.rg ∧ d.rg < t.r) (now := n) (fun d hd => (ih d hd).2) _ (Nat.le_refl _) d hd
      exact ⟨by omega, h2⟩
    show ∀ d ∈ (cycK t K logs turns n (runK t K logs turns s n)).due, _
    unfold cycK
    by_cases hl : lastK K turns ≤ n
    · rw [if_pos hl]
      exact hrest
    · rw [if_neg hl]
      exact ops_due (q := ⟨_, _⟩) hmt hrest (fun d h1 h2 h3 h4 => ⟨by omega, by omega, h3, h4⟩) _
/-- a cycle of a pace -/
theorem run_step {t : Tg} {K : Kn} {logs : List Int} {turns : Int} {s : Kst} {n : Nat} (hl : ¬ lastK K turns ≤ n) (f' : Nat → Int) (hf : landN n (runK t K logs turns s n).due (runK t K logs turns s n).f (runK t K logs turns s n).due.length = f') :
    runK t K logs turns s (n + 1) = ⟨f', (opsL t logs K.pc turns n f' (runK t K logs turns s n).m ⟨(runK t K logs turns s n).m, restN n (runK t K logs turns s n).due (runK t K logs turns s n).due.length⟩ (slotOf K.ops (n % K.pc))).nx,
      (opsL t logs K.pc turns n f' (runK t K logs turns s n).m ⟨(runK t K logs turns s n).m, restN n (runK t K logs turns s n).due (runK t K logs turns s n).due.length⟩ (slotOf K.ops (n % K.pc))).du⟩ := by
  subst hf
  show cycK t K logs turns n (runK t K logs turns s n) = _
  unfold cycK
  rw [if_neg hl, opsK_slot]
/-- a cycle behind them -/
theorem run_last {t : Tg} {K : Kn} {logs : List Int} {turns : Int} {s : Kst} {n : Nat} (hl : lastK K turns ≤ n) :
    runK t K logs turns s (n + 1) = ⟨landN n (runK t K logs turns s n).due (runK t K logs turns s n).f (runK t K logs turns s n).due.length, (runK t K logs turns s n).m, restN n (runK t K logs turns s n).due (runK t K logs turns s n).due.length⟩ := by
  show cycK t K logs turns n (runK t K logs turns s n) = _
  unfold cycK
  rw [if_pos hl]
/-- six cycles behind the last pace nothing is due -/
theorem run_end {t : Tg} {K : Kn} {logs : List Int} {turns : Int} {s : Kst} {L : Nat} (hmt : mayT t = true) (h0 : s.due = []) (hL : lastK K turns = (L : Int)) : runK t K logs turns s (L + 7) = runK t K logs turns s (L + 6) := by
  have hd : (runK t K logs turns s (L + 6)).due = [] := by
    cases h : (runK t K logs turns s (L + 6)).due with
    | nil => rfl
    | cons d r =>
      have := run_win (logs := logs) (K := K) (turns := turns) hmt h0 (L + 6) d (by rw [h]; exact List.mem_cons_self)
      omega
  rw [run_last (n := L + 6) (by omega)]
  rw [hd]
  generalize hx : runK t K logs turns s (L + 6) = x at *
  obtain ⟨xf, xm, xd⟩ := x
  simp only at hd
  subst hd
  rfl

/-- all that a cycle wants to know -/
structure Ctx (c : Mc) (logs : List Int) (gm cm : Nat) (CM : Nat → Nat) (K : Kn) (PC N : Nat) (U : Nat → Value) : Prop where
  hS : ∀ x, KeptM c x → StatM c logs gm cm CM x
  hU : ∀ x, KeptM c x → ∀ q : Nat, q < PC → OpsV x (U q) (slotOf K.ops q)
  hn : c.n = logs.length
  hlen : ∀ i, i < c.n → c.lenM i = 2 ^ (nth logs i).toNat ∧ c.lenM i ≤ 32
  hR : (c.R : Int) = c.t.r
  hmay : mayK c.t K logs = true
  hpc : K.pc = c.pc
  hPC : c.pc = (PC : Int)
  hN : c.turns + K.st - 1 = (N : Int)
  ht1 : 1 ≤ c.turns
  ht2 : c.turns ≤ 200
  hNP : N * PC ≤ 20000
variable {c : Mc} {logs : List Int} {gm cm : Nat} {CM : Nat → Nat} {K : Kn} {PC N : Nat} {U : Nat → Value} {s : Kst}
theorem Ctx.last (h : Ctx c logs gm cm CM K PC N U) : lastK K c.turns = ((N * PC : Nat) : Int) := by
  unfold lastK
  rw [h.hN, h.hpc, h.hPC, Int.natCast_mul]
theorem good_of {t : Tg} {x : Kop} {n : Nat} (hmay : mayK t K logs = true) (hn : n = logs.length) (hx : x ∈ K.ops) : goodK t.r n x ∧ 0 ≤ x.sl ∧ x.sl < K.pc := by
  obtain ⟨i, hi, rfl⟩ := List.mem_iff_getElem.1 hx
  obtain ⟨-, -, -, hs1, hs2, -, -, hall⟩ := mayK_parts hmay
  have h := hall i hi
  have e : opAt K.ops i = K.ops[i] := by unfold opAt; rw [List.getD, List.getElem?_eq_getElem hi]; rfl
  rw [e] at h
  obtain ⟨p1, p2, p3, p4, p5, -, p7⟩ := one_parts h
  refine ⟨⟨p3, p4, p5, by omega, ?_⟩, p1⟩
  subst hn
  exact p7
/-- a cycle begins -/
theorem cyc_land {V : Nat → Value} {W : World} (h : Ctx c logs gm cm CM K PC N U) (h0 : s.due = []) (T : Nat) (hT : T ≤ 20010) (hI : MInv c V (runK c.t K logs c.turns s T).due (runK c.t K logs c.turns s T).f (runK c.t K logs c.turns s T).m W) :
    Calls Try.prog 75 #[.pointer (some ⟨c.A, 0, none⟩), .int .i64 T] W fun e w' => e = .returned (.tuple #[]) ∧ ∃ V', MInv c V' (restN T (runK c.t K logs c.turns s T).due (runK c.t K logs c.turns s T).due.length) (landN T (runK c.t K logs c.turns s T).due (runK c.t K logs c.turns s T).f (runK c.t K logs c.turns s T).due.length) (runK c.t K logs c.turns s T).m w' := by
  have hw := run_win (K := K) (logs := logs) (turns := c.turns) (s := s) (mayK_parts h.hmay).1 h0 T
  exact land_any T W hI (fun d hd => (hw d hd).1) (fun d hd => by have := hw d hd; rw [h.hR]; exact this.2.2) (by omega)
/-- and ends -/
theorem cyc_do {V : Nat → Value} {W : World} (h : Ctx c logs gm cm CM K PC N U) (h0 : s.due = []) (p q T : Nat) (hp : p < N) (hq : q < PC) (hT : T = p * PC + q)
    (hI : MInv c V (restN T (runK c.t K logs c.turns s T).due (runK c.t K logs c.turns s T).due.length) (landN T (runK c.t K logs c.turns s T).due (runK c.t K logs c.turns s T).f (runK c.t K logs c.turns s T).due.length) (runK c.t K logs c.turns s T).m W) :
    Calls Try.prog 76 #[.pointer (some ⟨c.A, 0, none⟩), U q, .int .i64 p, .int .i64 T] W fun e w' => e = .returned (.tuple #[]) ∧ ∃ V', MInv c V' (runK c.t K logs c.turns s (T + 1)).due (runK c.t K logs c.turns s (T + 1)).f (runK c.t K logs c.turns s (T + 1)).m w' := by
  obtain ⟨hmt, hp1, hp2, hs1, hs2, ho1, ho2, -⟩ := mayK_parts h.hmay
  have hpc1 : K.pc = (PC : Int) := h.hpc.trans h.hPC
  have hTl : T < N * PC := by
    have h1 : p * PC + PC ≤ N * PC := by rw [← Nat.succ_mul]; exact Nat.mul_le_mul_right _ hp
    omega
  have hTb : T ≤ 20000 := by have := h.hNP; omega
  have hmod : (T : Int) % c.pc = (q : Int) := by
    rw [h.hPC, hT, ← Int.natCast_emod]
    congr 1
    rw [Nat.add_comm, Nat.add_mul_mod_self_right]
    exact Nat.mod_eq_of_lt hq
  have hdiv : (T : Int) / c.pc = (p : Int) := by
    rw [h.hPC, hT, ← Int.natCast_ediv]
    congr 1
    rw [Nat.add_comm, Nat.add_mul_div_right _ _ (by omega), Nat.div_eq_of_lt hq, Nat.zero_add]
  have hlen16 : (slotOf K.ops (q : Int)).length ≤ 16 := Nat.le_trans (List.length_filter_le _ _) ho2
  have hdl : (restN T (runK c.t K logs c.turns s T).due (runK c.t K logs c.turns s T).due.length).length ≤ 900000 := by
    have h1 := rest_len T (runK c.t K logs c.turns s T).due (runK c.t K logs c.turns s T).due.length
    have h2 := run_len c.t K logs c.turns s T
    rw [h0] at h2
    have h3 : T * K.ops.length ≤ 20000 * 16 := Nat.mul_le_mul hTb ho2
    simp at h2
    omega
  have hU := h.hU W hI.keep q hq
  obtain ⟨oa, oc, hov, -, -, -⟩ := hU
  have hO : ∀ x, KeptM c x → OpsV x (.slice oa (slotOf K.ops (q : Int)).length oc) (slotOf K.ops (q : Int)) := fun x hx => hov ▸ h.hU x hx q hq
  have hN2 : N ≤ 1300 := by have := h.hN; have := h.ht2; omega
  have key := mdo_any W logs gm cm CM oa oc (slotOf K.ops (q : Int)) p T hI h.hS hO h.hn h.hlen h.hR hmt (fun x hx => (good_of h.hmay h.hn (slot_in hx).1).1) (fun x hx => by rw [hmod]; exact (slot_in hx).2) hdiv (by omega) (by omega) h.ht1 h.ht2 hdl hlen16
  rw [hov]
  refine key.mono fun e w' ⟨h1, V', h2⟩ => ⟨h1, V', ?_⟩
  rw [run_step (by rw [h.last]; omega) _ rfl, h.hpc, hmod]
  exact h2
/-- a cycle behind the last pace -/
theorem cyc_last {V : Nat → Value} {W : World} (h : Ctx c logs gm cm CM K PC N U) (h0 : s.due = []) (T : Nat) (hT : T ≤ 20010) (hl : N * PC ≤ T) (hI : MInv c V (runK c.t K logs c.turns s T).due (runK c.t K logs c.turns s T).f (runK c.t K logs c.turns s T).m W) :
    Calls Try.prog 75 #[.pointer (some ⟨c.A, 0, none⟩), .int .i64 T] W fun e w' => e = .returned (.tuple #[]) ∧ ∃ V', MInv c V' (runK c.t K logs c.turns s (T + 1)).due (runK c.t K logs c.turns s (T + 1)).f (runK c.t K logs c.turns s (T + 1)).m w' := by
  rw [run_last (n := T) (by rw [h.last]; omega)]
  exact cyc_land h h0 T hT hI

/-- the machine, from a later world on -/
def Mc.at (c : Mc) (x : World) : Mc := { c with w1 := x }
theorem kept_at {x y : World} (hb : Below c.w1.heap.size c.w1 x) (h : KeptM (c.at x) y) : KeptM c y :=
  ⟨Nat.le_trans hb.size h.1, fun g h1 h2 h3 h4 => by
    have e : y.heap[g]? = x.heap[g]? := h.2 g (Nat.lt_of_lt_of_le h1 hb.size) h2 h3 h4
    rw [e, hb.block g h1]⟩
theorem MInv.at {f : Nat → Int} {m : Nat → Nat → Int} {x : World} (h : MInv c (fun _ => .slice none 0 0) [] f m c.w1) (hb : Below c.w1.heap.size c.w1 x) : MInv (c.at x) (fun _ => .slice none 0 0) [] f m x where
  bel := h.bel.trans (hb.mono h.w01)
  keep := ⟨Nat.le_refl _, fun _ _ _ _ _ => rfl⟩
  hA := by show x.heap[c.A]? = _; rw [hb.block _ h.hA1.2]; exact h.hA
  hA1 := ⟨h.hA1.1, Nat.lt_of_lt_of_le h.hA1.2 hb.size⟩
  regs := h.regs.below hb h.hr.2.1
  hr := ⟨h.hr.1, Nat.lt_of_lt_of_le h.hr.2.1 hb.size, h.hr.2.2⟩
  min := fun i hi => ⟨(h.min i hi).1, Nat.lt_of_lt_of_le (h.min i hi).2.1 hb.size, (h.min i hi).2.2.below hb (h.min i hi).2.1⟩
  minj := h.minj
  rM := h.rM
  due := fun j hj => World.ownsRow_nil _ _ _ _
  dinj := fun i j _ _ _ g hg => by cases hg
  w01 := Nat.le_trans h.w01 hb.size
/-- the Slots' rows stay, whatever the machine does -/
theorem slots_kept {x y : World} {f : Nat → Int} {m : Nat → Nat → Int} (hI : MInv c (fun _ => .slice none 0 0) [] f m c.w1) (h : SInv c.w1 PC U K.ops x) (hk : KeptM (c.at x) y) : RowF y c.w1.heap.size 53 PC U ∧ ∀ q : Nat, q < PC → OpsV y (U q) (slotOf K.ops q) := by
  have far : ∀ g, c.w1.heap.size ≤ g → g < x.heap.size → y.heap[g]? = x.heap[g]? := fun g h1 h2 => hk.2 g h2 (by show g ≠ c.A; have := hI.hA1.2; omega) (by show g ≠ c.gr; have := hI.hr.2.1; omega) (fun i hi => by show g ≠ c.GM i; have := (hI.min i hi).2.1; omega)
  exact ⟨h.out.of_block (far _ (Nat.le_refl _) h.out.lt), fun q hq => ops_own (ownz_keep (h.rows q hq) fun g hg => far g (ownz_block_ge (h.rows q hq) g hg) (ownz_block_lt (h.rows q hq) g hg))⟩
end Go.Proofs.Ytlgphgfldfjkkaa
