/- Sounds: texts that are built as one: KernEvents, KernWords, SeqWords, MemOrder, SoundMath, Sound, CheckMath, EmitMath. -/
import Derived.Test.YtjlfcbccpcigeacDoorMaths
import Derived.Test.YtjlfcbccpcigeacDoorRounds
/- What stands in registers and words in the middle of a kernel's run, told by what was done when: no Go in sight. (Ahead of J4.) -/
namespace Go.Proofs.YtjlfcbccpcigeacDoor
set_option linter.unusedVariables false

section
variable (t : Tg) (K : Kn) (logs : List Int) (turns : Nat) (s0 : Kst)
/-- the cycle in which Op k is done for its turn i -/
def cycE (k i : Nat) : Int := (opAt K.ops k).sl + K.pc * ((opAt K.ops k).sg + i)
/-- the registers in a cycle, when what is due has landed -/
def regF (n : Nat) : Nat → Int := landN n (runK t K logs turns s0 n).due (runK t K logs turns s0 n).f (runK t K logs turns s0 n).due.length
/-- what Op k comes to for its turn i -/
def valE (k i : Nat) : Int := valK logs t.r K.pc (cycE K k i) (regF t K logs turns s0 (cycE K k i).toNat) (runK t K logs turns s0 (cycE K k i).toNat).m (opAt K.ops k)
/-- when it is due, and in which register -/
def dueE (k i : Nat) : Int := cycE K k i + waitsT t (clsv (opAt K.ops k).o)
def placeE (k i : Nat) : Int := ((opAt K.ops k).d + ((opAt K.ops k).sg + i)) % t.r
def evE (k i : Nat) : Du := ⟨dueE t K k i, placeE t K k i, valE t K logs turns s0 k i⟩
end
/-- what a kernel that may be keeps to -/
structure KOk (t : Tg) (K : Kn) (turns : Nat) : Prop where
  pc : 1 ≤ K.pc
  st : 1 ≤ K.st
  r : 1 ≤ t.r
  op : ∀ k, k < K.ops.length → (0 ≤ (opAt K.ops k).sl ∧ (opAt K.ops k).sl < K.pc) ∧ (0 ≤ (opAt K.ops k).sg ∧ (opAt K.ops k).sg < K.st)
  wt : ∀ o, 1 ≤ waitsT t (clsv o) ∧ waitsT t (clsv o) ≤ 6
  tu : 1 ≤ turns
variable {t : Tg} {K : Kn} {logs : List Int} {turns : Nat} {s0 : Kst}

theorem cyc_parts (h : KOk t K turns) {k : Nat} (hk : k < K.ops.length) (i : Nat) : 0 ≤ cycE K k i ∧ cycE K k i / K.pc = (opAt K.ops k).sg + i ∧ cycE K k i % K.pc = (opAt K.ops k).sl := by
  obtain ⟨⟨h1, h2⟩, h3, h4⟩ := h.op k hk
  have hp := h.pc
  have h5 : 0 ≤ K.pc * ((opAt K.ops k).sg + i) := Int.mul_nonneg (by omega) (by omega)
  refine ⟨by unfold cycE; omega, ?_, ?_⟩
  · unfold cycE
    rw [Int.add_mul_ediv_left _ _ (by omega : K.pc ≠ 0), Int.ediv_eq_zero_of_lt h1 h2, Int.zero_add]
  · unfold cycE
    rw [Int.add_mul_emod_self_left]
    exact Int.emod_eq_of_lt h1 h2
/-- an Op is done in a cycle for one turn, or not -/
theorem act_cyc (h : KOk t K turns) {k n : Nat} (hk : k < K.ops.length) : actK K.pc turns n (opAt K.ops k) = true ↔ ∃ i, i < turns ∧ (n : Int) = cycE K k i := by
  obtain ⟨⟨h1, h2⟩, h3, h4⟩ := h.op k hk
  have hp := h.pc
  unfold actK
  simp only [Bool.and_eq_true, decide_eq_true_eq]
  constructor
  · rintro ⟨⟨e1, e2⟩, e3⟩
    refine ⟨((n : Int) / K.pc - (opAt K.ops k).sg).toNat, by omega, ?_⟩
    unfold cycE
    rw [e1, show (opAt K.ops k).sg + ((((n : Int) / K.pc - (opAt K.ops k).sg).toNat : Nat) : Int) = (n : Int) / K.pc by omega]
    have := Int.emod_add_mul_ediv (n : Int) K.pc
    omega
  · rintro ⟨i, hi, e⟩
    obtain ⟨-, h5, h6⟩ := cyc_parts h hk i
    rw [e, h5, h6]
    exact ⟨⟨rfl, by omega⟩, by omega⟩
/-- all is done ahead of the last pace's end -/
theorem cycE_last (h : KOk t K turns) {k i : Nat} (hk : k < K.ops.length) (hi : i < turns) : cycE K k i < lastK K turns := by
  obtain ⟨⟨h1, h2⟩, h3, h4⟩ := h.op k hk
  unfold cycE lastK
  have hp := h.pc
  have h5 : K.pc * ((opAt K.ops k).sg + i) ≤ K.pc * ((turns : Int) + K.st - 1 - 1) := Int.mul_le_mul_of_nonneg_left (by omega) (by omega)
  have h6 : K.pc * ((turns : Int) + K.st - 1 - 1) = ((turns : Int) + K.st - 1) * K.pc - K.pc := by rw [Int.mul_sub, Int.mul_one, Int.mul_comm]
  omega
/-- what is due behind some Ops of a cycle -/
theorem ops_mem {logs : List Int} {tu now : Int} {f : Nat → Int} {m : Nat → Nat → Int} {q : Nx} {d : Du} : ∀ k, d ∈ (opsK t K logs tu now f m q k).du ↔ d ∈ q.du ∨ ∃ j, j < k ∧ actK K.pc tu now (opAt K.ops j) = true ∧ d = ⟨now + waitsT t (clsv (opAt K.ops j).o), ((opAt K.ops j).d + now / K.pc) % t.r, valK logs t.r K.pc now f m (opAt K.ops j)⟩ := by
  intro k
  induction k with
  | zero => exact ⟨.inl, fun h => h.elim id fun ⟨j, hj, _⟩ => absurd hj (Nat.not_lt_zero _)⟩
  | succ k ih =>
    show d ∈ (opK t logs K.pc tu now f m (opsK t K logs tu now f m q k) (opAt K.ops k)).du ↔ _
    unfold opK
    by_cases ha : actK K.pc tu now (opAt K.ops k) = true
    · rw [if_pos ha]
      show d ∈ (opsK t K logs tu now f m q k).du ++ [_] ↔ _
      rw [List.mem_append, ih, List.mem_singleton]
      constructor
      · rintro ((h | ⟨j, h1, h2, h3⟩) | h)
        · exact .inl h
        · exact .inr ⟨j, by omega, h2, h3⟩
        · exact .inr ⟨k, by omega, ha, h⟩
      · rintro (h | ⟨j, h1, h2, h3⟩)
        · exact .inl (.inl h)
        · by_cases e : j = k
          · subst e; exact .inr h3
          · exact .inl (.inr ⟨j, by omega, h2, h3⟩)
    · rw [if_neg ha, ih]
      constructor
      · rintro (h | ⟨j, h1, h2, h3⟩)
        · exact .inl h
        · exact .inr ⟨j, by omega, h2, h3⟩
      · rintro (h | ⟨j, h1, h2, h3⟩)
        · exact .inl h
        · by_cases e : j = k
          · subst e; exact absurd h2 ha
          · exact .inr ⟨j, by omega, h2, h3⟩
theorem run_f (n : Nat) : (runK t K logs turns s0 (n + 1)).f = regF t K logs turns s0 n := by
  show (cycK t K logs turns n (runK t K logs turns s0 n)).f = _
  unfold cycK
  split <;> rfl
theorem run_due_mem (n : Nat) (d : Du) : d ∈ (runK t K logs turns s0 (n + 1)).due ↔ (d ∈ (runK t K logs turns s0 n).due ∧ d.at_ ≠ n) ∨ (¬ lastK K turns ≤ n ∧ ∃ j, j < K.ops.length ∧ actK K.pc turns n (opAt K.ops j) = true ∧ d = ⟨n + waitsT t (clsv (opAt K.ops j).o), ((opAt K.ops j).d + n / K.pc) % t.r, valK logs t.r K.pc n (regF t K logs turns s0 n) (runK t K logs turns s0 n).m (opAt K.ops j)⟩) := by
  have hr : d ∈ restN n (runK t K logs turns s0 n).due (runK t K logs turns s0 n).due.length ↔ d ∈ (runK t K logs turns s0 n).due ∧ d.at_ ≠ n := by
    rw [rest_filter, List.mem_filter]
    simp
  show d ∈ (cycK t K logs turns n (runK t K logs turns s0 n)).due ↔ _
  unfold cycK
  by_cases hl : lastK K turns ≤ n
  · rw [if_pos hl]
    show d ∈ restN _ _ _ ↔ _
    rw [hr]
    exact ⟨.inl, fun h => h.elim id fun h2 => absurd hl h2.1⟩
  · rw [if_neg hl]
    show d ∈ (opsK _ _ _ _ _ _ _ _ _).du ↔ _
    rw [ops_mem, ← hr]
    exact ⟨fun h => h.elim .inl fun h2 => .inr ⟨hl, h2⟩, fun h => h.elim .inl fun h2 => .inr h2.2⟩
/-- what is due: what was done, and has not landed -/
theorem due_iff (h : KOk t K turns) (h0 : s0.due = []) : ∀ (n : Nat) (d : Du), d ∈ (runK t K logs turns s0 n).due ↔ ∃ k i, k < K.ops.length ∧ i < turns ∧ cycE K k i < n ∧ n ≤ dueE t K k i ∧ d = evE t K logs turns s0 k i := by
  intro n
  induction n with
  | zero =>
    intro d
    rw [show runK t K logs turns s0 0 = s0 from rfl, h0]
    constructor
    · intro h; cases h
    · rintro ⟨k, i, hk, hi, hc, -⟩
      have := (cyc_parts h hk i).1
      omega
  | succ n ih =>
    intro d
    rw [run_due_mem, ih]
    constructor
    · rintro (⟨⟨k, i, h1, h2, h3, h4, rfl⟩, h5⟩ | ⟨hl, j, hj, ha, rfl⟩)
      · have h6 : dueE t K k i ≠ n := h5
        exact ⟨k, i, h1, h2, by omega, by omega, rfl⟩
      · obtain ⟨i, hi, e⟩ := (act_cyc h hj).1 ha
        obtain ⟨-, h5, -⟩ := cyc_parts h hj i
        have hw := h.wt (opAt K.ops j).o
        refine ⟨j, i, hj, hi, by omega, by unfold dueE; omega, ?_⟩
        unfold evE dueE placeE valE
        have hn : ((n : Int)).toNat = n := Int.toNat_natCast n
        rw [← e, hn, e, h5]
    · rintro ⟨k, i, h1, h2, h3, h4, rfl⟩
      by_cases hc : cycE K k i < n
      · refine .inl ⟨⟨k, i, h1, h2, hc, by omega, rfl⟩, ?_⟩
        show dueE t K k i ≠ n
        omega
      · have e : (n : Int) = cycE K k i := by omega
        obtain ⟨-, h5, -⟩ := cyc_parts h h1 i
        refine .inr ⟨by have := cycE_last h h1 h2; omega, k, h1, (act_cyc h h1).2 ⟨i, h2, e⟩, ?_⟩
        unfold evE dueE placeE valE
        have hn : ((n : Int)).toNat = n := Int.toNat_natCast n
        rw [← e, hn, e, h5]
/-- landing: no one for a register -/
theorem land_none {now : Int} {due : List Du} {f : Nat → Int} {y : Nat} : ∀ k, k ≤ due.length → (∀ d ∈ due, d.at_ = now → d.rg.toNat ≠ y) → landN now due f k y = f y := by
  intro k
  induction k with
  | zero => exact fun _ _ => rfl
  | succ k ih =>
    intro hk h
    show (if (duAt due k).at_ = now then put1 (landN now due f k) (duAt due k).rg.toNat (duAt due k).v else landN now due f k) y = _
    by_cases e : (duAt due k).at_ = now
    · rw [if_pos e]
      unfold put1
      rw [if_neg (fun e2 => h _ (duAt_in (by omega)) e e2.symm), ih (by omega) h]
    · rw [if_neg e, ih (by omega) h]
/-- landing: one number for a register -/
theorem land_one {now : Int} {due : List Du} {f : Nat → Int} {y : Nat} {v : Int} : ∀ k, k ≤ due.length → (∀ d ∈ due, d.at_ = now → d.rg.toNat = y → d.v = v) → (∃ j, j < k ∧ (duAt due j).at_ = now ∧ (duAt due j).rg.toNat = y) → landN now due f k y = v := by
  intro k
  induction k with
  | zero => rintro _ _ ⟨j, hj, _⟩; omega
  | succ k ih =>
    rintro hk h ⟨j, hj, e1, e2⟩
    show (if (duAt due k).at_ = now then put1 (landN now due f k) (duAt due k).rg.toNat (duAt due k).v else landN now due f k) y = _
    by_cases e : (duAt due k).at_ = now
    · rw [if_pos e]
      unfold put1
      by_cases e3 : y = (duAt due k).rg.toNat
      · rw [if_pos e3]; exact h _ (duAt_in (by omega)) e e3.symm
      · rw [if_neg e3]
        refine ih (by omega) h ⟨j, ?_, e1, e2⟩
        by_cases e4 : j = k
        · subst e4; exact absurd e2.symm e3
        · omega
    · rw [if_neg e]
      refine ih (by omega) h ⟨j, ?_, e1, e2⟩
      by_cases e4 : j = k
      · subst e4; exact absurd e1 e
      · omega
theorem reg_next (n : Nat) : regF t K logs turns s0 (n + 1) = landN (n + 1 : Nat) (runK t K logs turns s0 (n + 1)).due (regF t K logs turns s0 n) (runK t K logs turns s0 (n + 1)).due.length := by
  show landN (n + 1 : Nat) _ (runK t K logs turns s0 (n + 1)).f _ = _
  rw [run_f]
theorem mem_duAt {l : List Du} {d : Du} (h : d ∈ l) : ∃ j, j < l.length ∧ duAt l j = d := by
  obtain ⟨j, hj, rfl⟩ := List.mem_iff_getElem.1 h
  exact ⟨j, hj, by unfold duAt; rw [List.getD, List.getElem?_eq_getElem hj]; rfl⟩
/-- a register to which nothing has come is as it was -/
theorem reg_first (h : KOk t K turns) (h0 : s0.due = []) (y : Nat) : ∀ n : Nat, (∀ k i, k < K.ops.length → i < turns → dueE t K k i ≤ n → (placeE t K k i).toNat ≠ y) → regF t K logs turns s0 n y = s0.f y := by
  intro n
  induction n with
  | zero =>
    intro hno
    refine land_none _ (Nat.le_refl _) fun d hd e => ?_
    obtain ⟨k, i, hk, hi, hc, -⟩ := (due_iff h h0 0 d).1 hd
    have := (cyc_parts h hk i).1
    omega
  | succ n ih =>
    intro hno
    rw [reg_next, land_none _ (Nat.le_refl _) fun d hd e => ?_]
    · exact ih fun k i hk hi hd => hno k i hk hi (by omega)
    · obtain ⟨k, i, hk, hi, hc, -, rfl⟩ := (due_iff h h0 (n + 1) d).1 hd
      have e2 : dueE t K k i = (n + 1 : Nat) := e
      exact hno k i hk hi (by omega)
/-- a register holds what came to it last -/
theorem reg_last (h : KOk t K turns) (h0 : s0.due = []) {k i : Nat} (hk : k < K.ops.length) (hi : i < turns) : ∀ n : Nat, dueE t K k i ≤ n → (∀ k' i', k' < K.ops.length → i' < turns → dueE t K k i ≤ dueE t K k' i' → dueE t K k' i' ≤ n → (placeE t K k' i').toNat = (placeE t K k i).toNat → k' = k ∧ i' = i) →
    regF t K logs turns s0 n (placeE t K k i).toNat = valE t K logs turns s0 k i := by
  have hcy := (cyc_parts h hk i).1
  have hwt := h.wt (opAt K.ops k).o
  intro n
  induction n with
  | zero => intro hd; unfold dueE at hd; omega
  | succ n ih =>
    intro hd hone
    rw [reg_next]
    by_cases e : dueE t K k i = (n + 1 : Nat)
    · refine land_one _ (Nat.le_refl _) (fun d hdd e1 e2 => ?_) ?_
      · obtain ⟨k', i', hk', hi', hc, -, rfl⟩ := (due_iff h h0 (n + 1) d).1 hdd
        have e3 : dueE t K k' i' = (n + 1 : Nat) := e1
        obtain ⟨rfl, rfl⟩ := hone k' i' hk' hi' (by omega) (by omega) e2
        rfl
      · have hin : evE t K logs turns s0 k i ∈ (runK t K logs turns s0 (n + 1)).due := (due_iff h h0 (n + 1) _).2 ⟨k, i, hk, hi, by unfold dueE at e; omega, by omega, rfl⟩
        obtain ⟨j, hj, hje⟩ := mem_duAt hin
        exact ⟨j, hj, by rw [hje]; exact e, by rw [hje]; rfl⟩
    · rw [land_none _ (Nat.le_refl _) fun d hdd e1 e2 => ?_]
      · exact ih (by omega) fun k' i' hk' hi' h1 h2 h3 => hone k' i' hk' hi' h1 (by omega) h3
      · obtain ⟨k', i', hk', hi', hc, -, rfl⟩ := (due_iff h h0 (n + 1) d).1 hdd
        have e3 : dueE t K k' i' = (n + 1 : Nat) := e1
        obtain ⟨rfl, rfl⟩ := hone k' i' hk' hi' (by omega) (by omega) e2
        omega
end Go.Proofs.YtjlfcbccpcigeacDoor
/- What stands in a word in the middle of a kernel's run: its start, or what was stored there last; no Go in sight. (Ahead of J4.) -/
namespace Go.Proofs.YtjlfcbccpcigeacDoor
set_option linter.unusedVariables false

/-- the word that Op k is at, for its turn i -/
def wordX (K : Kn) (logs : List Int) (k i : Nat) : Nat := (idx (opAt K.ops k).sp (opAt K.ops k).pl i (nth logs (opAt K.ops k).ar.toNat)).toNat
/-- Op k, for its turn i, stores into that word -/
def StoE (K : Kn) (logs : List Int) (a b k i : Nat) : Prop := (opAt K.ops k).o = 4 ∧ (opAt K.ops k).ar.toNat = a ∧ wordX K logs k i = b
variable {t : Tg} {K : Kn} {logs : List Int} {turns : Nat} {s0 : Kst}

theorem word_cyc (h : KOk t K turns) {k : Nat} (hk : k < K.ops.length) (i : Nat) : wordK logs K.pc (cycE K k i) (opAt K.ops k) = wordX K logs k i := by
  obtain ⟨-, h5, -⟩ := cyc_parts h hk i
  unfold wordK wordX
  rw [h5, show (opAt K.ops k).sg + (i : Int) - (opAt K.ops k).sg = i by omega]
theorem nx_none {tu now : Int} {f : Nat → Int} {m : Nat → Nat → Int} {q : Nx} {a b : Nat} : ∀ k, (∀ j, j < k → actK K.pc tu now (opAt K.ops j) = true → (opAt K.ops j).o = 4 → ¬ ((opAt K.ops j).ar.toNat = a ∧ wordK logs K.pc now (opAt K.ops j) = b)) → (opsK t K logs tu now f m q k).nx a b = q.nx a b := by
  intro k
  induction k with
  | zero => exact fun _ => rfl
  | succ k ih =>
    intro h
    have ih' := ih fun j hj => h j (by omega)
    show (opK t logs K.pc tu now f m (opsK t K logs tu now f m q k) (opAt K.ops k)).nx a b = _
    unfold opK
    by_cases ha : actK K.pc tu now (opAt K.ops k) = true
    · rw [if_pos ha]
      show (if (opAt K.ops k).o = 4 then (_ : Nat → Nat → Int) else _) a b = _
      by_cases ho : (opAt K.ops k).o = 4
      · rw [if_pos ho]
        unfold put2
        rw [if_neg fun e => h k (by omega) ha ho ⟨e.1.symm, e.2.symm⟩, ih']
      · rw [if_neg ho, ih']
    · rw [if_neg ha, ih']
theorem nx_one {tu now : Int} {f : Nat → Int} {m : Nat → Nat → Int} {q : Nx} {a b : Nat} {v : Int} : ∀ k, (∀ j, j < k → actK K.pc tu now (opAt K.ops j) = true → (opAt K.ops j).o = 4 → (opAt K.ops j).ar.toNat = a → wordK logs K.pc now (opAt K.ops j) = b → valK logs t.r K.pc now f m (opAt K.ops j) = v) →
    (∃ j, j < k ∧ actK K.pc tu now (opAt K.ops j) = true ∧ (opAt K.ops j).o = 4 ∧ (opAt K.ops j).ar.toNat = a ∧ wordK logs K.pc now (opAt K.ops j) = b) → (opsK t K logs tu now f m q k).nx a b = v := by
  intro k
  induction k with
  | zero => rintro _ ⟨j, hj, _⟩; omega
  | succ k ih =>
    rintro h ⟨j, hj, h1, h2, h3, h4⟩
    show (opK t logs K.pc tu now f m (opsK t K logs tu now f m q k) (opAt K.ops k)).nx a b = _
    unfold opK
    by_cases ha : actK K.pc tu now (opAt K.ops k) = true
    · rw [if_pos ha]
      show (if (opAt K.ops k).o = 4 then (_ : Nat → Nat → Int) else _) a b = _
      by_cases ho : (opAt K.ops k).o = 4
      · rw [if_pos ho]
        unfold put2
        by_cases e : a = (opAt K.ops k).ar.toNat ∧ b = wordK logs K.pc now (opAt K.ops k)
        · rw [if_pos e]; exact h k (by omega) ha ho e.1.symm e.2.symm
        · rw [if_neg e]
          refine ih (fun j hj => h j (by omega)) ⟨j, ?_, h1, h2, h3, h4⟩
          by_cases ej : j = k
          · subst ej; exact absurd ⟨h3.symm, h4.symm⟩ e
          · omega
      · rw [if_neg ho]
        refine ih (fun j hj => h j (by omega)) ⟨j, ?_, h1, h2, h3, h4⟩
        by_cases ej : j = k
        · subst ej; exact absurd h2 ho
        · omega
    · rw [if_neg ha]
      refine ih (fun j hj => h j (by omega)) ⟨j, ?_, h1, h2, h3, h4⟩
      by_cases ej : j = k
      · subst ej; exact absurd h1 ha
      · omega
theorem run_m (n : Nat) : (runK t K logs turns s0 (n + 1)).m = if lastK K turns ≤ n then (runK t K logs turns s0 n).m else (opsK t K logs turns n (regF t K logs turns s0 n) (runK t K logs turns s0 n).m ⟨(runK t K logs turns s0 n).m, restN n (runK t K logs turns s0 n).due (runK t K logs turns s0 n).due.length⟩ K.ops.length).nx := by
  show (cycK t K logs turns n (runK t K logs turns s0 n)).m = _
  unfold cycK
  split <;> rfl
/-- a cycle that stores nothing there -/
theorem mem_keep (h : KOk t K turns) {a b n : Nat} (hno : ∀ k i, k < K.ops.length → i < turns → StoE K logs a b k i → cycE K k i ≠ n) : (runK t K logs turns s0 (n + 1)).m a b = (runK t K logs turns s0 n).m a b := by
  rw [run_m]
  split
  · rfl
  · refine nx_none _ fun j hj ha ho e => ?_
    obtain ⟨i, hi, en⟩ := (act_cyc h hj).1 ha
    refine hno j i hj hi ⟨ho, e.1, ?_⟩ en.symm
    rw [← word_cyc h hj, ← en]
    exact e.2
/-- a word that nothing was stored into is as it was -/
theorem mem_first (h : KOk t K turns) {a b : Nat} : ∀ n : Nat, (∀ k i, k < K.ops.length → i < turns → StoE K logs a b k i → n ≤ cycE K k i) → (runK t K logs turns s0 n).m a b = s0.m a b := by
  intro n
  induction n with
  | zero => exact fun _ => rfl
  | succ n ih =>
    intro hno
    rw [mem_keep h fun k i hk hi hs => by have := hno k i hk hi hs; omega]
    exact ih fun k i hk hi hs => by have := hno k i hk hi hs; omega
/-- a word holds what was stored into it last -/
theorem mem_last (h : KOk t K turns) {a b k i : Nat} (hk : k < K.ops.length) (hi : i < turns) (hs : StoE K logs a b k i) : ∀ n : Nat, cycE K k i < n → (∀ k' i', k' < K.ops.length → i' < turns → StoE K logs a b k' i' → cycE K k i ≤ cycE K k' i' → cycE K k' i' < n → k' = k ∧ i' = i) →
    (runK t K logs turns s0 n).m a b = valE t K logs turns s0 k i := by
  have hcy := (cyc_parts h hk i).1
  have hla := cycE_last h hk hi
  intro n
  induction n with
  | zero => intro hd; omega
  | succ n ih =>
    intro hd hone
    by_cases e : cycE K k i = n
    · have hn : (n : Int).toNat = n := Int.toNat_natCast n
      rw [run_m, if_neg (by omega)]
      refine nx_one _ (fun j hj ha ho e1 e2 => ?_) ⟨k, hk, (act_cyc h hk).2 ⟨i, hi, e.symm⟩, hs.1, hs.2.1, ?_⟩
      · obtain ⟨i', hi', en⟩ := (act_cyc h hj).1 ha
        have hs2 : StoE K logs a b j i' := ⟨ho, e1, by rw [← word_cyc h hj, ← en]; exact e2⟩
        obtain ⟨rfl, rfl⟩ := hone j i' hj hi' hs2 (by omega) (by omega)
        unfold valE
        rw [e, hn]
      · rw [← e, word_cyc h hk]; exact hs.2.2
    · rw [mem_keep h fun k' i' hk' hi' hs' e2 => ?_]
      · exact ih (by omega) fun k' i' hk' hi' hs' h1 h2 => hone k' i' hk' hi' hs' h1 (by omega)
      · obtain ⟨rfl, rfl⟩ := hone k' i' hk' hi' hs' (by omega) (by omega)
        omega
end Go.Proofs.YtjlfcbccpcigeacDoor
/- What stands in a word in the middle of a loop's run: its start, or what was stored there last; no Go in sight. (Ahead of J4.) -/
namespace Go.Proofs.YtjlfcbccpcigeacDoor
set_option linter.unusedVariables false

theorem pair_induct {p : Nat → Nat → Prop} {n : Nat} (h0 : p 0 0) (hs : ∀ i k, k < n → p i k → p i (k + 1)) (ht : ∀ i, p i n → p (i + 1) 0) : ∀ i k, k ≤ n → p i k := by
  have h1 : ∀ i, p i 0 → ∀ k, k ≤ n → p i k := by
    intro i hi k
    induction k with
    | zero => exact fun _ => hi
    | succ k ih => exact fun hk => hs i k (by omega) (ih (by omega))
  have h2 : ∀ i, p i 0 := by
    intro i
    induction i with
    | zero => exact h0
    | succ i ih => exact ht i (h1 i ih n (Nat.le_refl _))
  exact fun i k hk => h1 i (h2 i) k hk
/-- where the run stands ahead of statement k of turn i -/
def atS (L : Lp) (B M : List (List Int)) (i k : Nat) : Sq := turnS L B i k (runS L B i (startS M))
/-- what statement k comes to in turn i -/
def valS (L : Lp) (B M : List (List Int)) (i k : Nat) : Int := comes L B i (atS L B M i k) (stAt L.body k)
/-- statement k, in turn i, stores into that word -/
def StoS (L : Lp) (a b i k : Nat) : Prop := (stAt L.body k).o = 4 ∧ (stAt L.body k).ar.toNat = a ∧ wordAt L i (stAt L.body k) = b
/-- one is ahead of the other -/
def Ahead (i k i' k' : Nat) : Prop := i < i' ∨ (i = i' ∧ k < k')
variable {L : Lp} {B M : List (List Int)}
theorem at_step (i k : Nat) : atS L B M i (k + 1) = stepS L B i (atS L B M i k) k := rfl
theorem at_turn (i : Nat) : atS L B M (i + 1) 0 = atS L B M i L.body.length := rfl
theorem at_run (i : Nat) : runS L B i (startS M) = atS L B M i 0 := rfl
/-- what was come to stays -/
theorem val_at : ∀ i k, k ≤ L.body.length → ∀ i' k', k' < L.body.length → Ahead i' k' i k → (atS L B M i k).val i' k' = valS L B M i' k' := by
  refine pair_induct ?_ ?_ ?_
  · intro i' k' _ h; unfold Ahead at h; omega
  · intro i k hk ih i' k' hk' h
    rw [at_step]
    show put2 (atS L B M i k).val i k (comes L B i (atS L B M i k) (stAt L.body k)) i' k' = _
    by_cases e : i' = i ∧ k' = k
    · obtain ⟨rfl, rfl⟩ := e
      rw [put2_at]; rfl
    · unfold put2
      rw [if_neg e]
      exact ih i' k' hk' (by unfold Ahead at h ⊢; omega)
  · intro i ih i' k' hk' h
    rw [at_turn]
    exact ih i' k' hk' (by unfold Ahead at h ⊢; omega)
/-- a word that nothing was stored into is as it was -/
theorem smem_first {a b : Nat} : ∀ i k, k ≤ L.body.length → (∀ i' k', k' < L.body.length → Ahead i' k' i k → ¬ StoS L a b i' k') → (atS L B M i k).mem a b = nth (rowAt M a) b := by
  refine pair_induct ?_ ?_ ?_
  · exact fun _ => rfl
  · intro i k hk ih h
    rw [at_step]
    show (if (stAt L.body k).o = 4 then put2 (atS L B M i k).mem (stAt L.body k).ar.toNat (wordAt L i (stAt L.body k)) (comes L B i (atS L B M i k) (stAt L.body k)) else (atS L B M i k).mem) a b = _
    have ih' := ih fun i' k' hk' h2 => h i' k' hk' (by unfold Ahead at h2 ⊢; omega)
    split
    · next ho =>
      unfold put2
      rw [if_neg fun e => h i k hk (by unfold Ahead; omega) ⟨ho, e.1.symm, e.2.symm⟩, ih']
    · exact ih'
  · intro i ih h
    rw [at_turn]
    exact ih fun i' k' hk' h2 => h i' k' hk' (by unfold Ahead at h2 ⊢; omega)
/-- a word holds what was stored into it last -/
theorem smem_last {a b i0 k0 : Nat} (hk0 : k0 < L.body.length) (hs : StoS L a b i0 k0) : ∀ i k, k ≤ L.body.length → Ahead i0 k0 i k → (∀ i' k', k' < L.body.length → StoS L a b i' k' → Ahead i0 k0 i' k' → ¬ Ahead i' k' i k) → (atS L B M i k).mem a b = valS L B M i0 k0 := by
  refine pair_induct ?_ ?_ ?_
  · intro h; unfold Ahead at h; omega
  · intro i k hk ih h hno
    rw [at_step]
    show (if (stAt L.body k).o = 4 then put2 (atS L B M i k).mem (stAt L.body k).ar.toNat (wordAt L i (stAt L.body k)) (comes L B i (atS L B M i k) (stAt L.body k)) else (atS L B M i k).mem) a b = _
    by_cases e : i0 = i ∧ k0 = k
    · obtain ⟨rfl, rfl⟩ := e
      rw [if_pos hs.1]
      unfold put2
      rw [if_pos ⟨hs.2.1.symm, hs.2.2.symm⟩]; rfl
    · have h3 : Ahead i0 k0 i k := by unfold Ahead at h ⊢; omega
      have ih' := ih h3 fun i' k' hk' h2 h4 h5 => hno i' k' hk' h2 h4 (by unfold Ahead at h5 ⊢; omega)
      split
      · next ho =>
        unfold put2
        rw [if_neg fun e2 => hno i k hk ⟨ho, e2.1.symm, e2.2.symm⟩ h3 (by unfold Ahead; omega), ih']
      · exact ih'
  · intro i ih h hno
    rw [at_turn]
    exact ih (by unfold Ahead at h ⊢; omega) fun i' k' hk' h2 h4 h5 => hno i' k' hk' h2 h4 (by unfold Ahead at h5 ⊢; omega)
/-- of some stores, one is last, or there is none -/
theorem last_or (L : Lp) (a b : Nat) : ∀ i k, k ≤ L.body.length → (∀ i' k', k' < L.body.length → Ahead i' k' i k → ¬ StoS L a b i' k') ∨ ∃ i0 k0, k0 < L.body.length ∧ StoS L a b i0 k0 ∧ Ahead i0 k0 i k ∧ ∀ i' k', k' < L.body.length → StoS L a b i' k' → Ahead i0 k0 i' k' → ¬ Ahead i' k' i k := by
  refine pair_induct ?_ ?_ ?_
  · exact .inl fun i' k' _ h => by unfold Ahead at h; omega
  · intro i k hk ih
    by_cases hs : StoS L a b i k
    · exact .inr ⟨i, k, hk, hs, by unfold Ahead; omega, fun i' k' hk' _ h1 h2 => by unfold Ahead at h1 h2; omega⟩
    · rcases ih with ih | ⟨i0, k0, h1, h2, h3, h4⟩
      · refine .inl fun i' k' hk' h => ?_
        by_cases e : i' = i ∧ k' = k
        · obtain ⟨rfl, rfl⟩ := e; exact hs
        · exact ih i' k' hk' (by unfold Ahead at h ⊢; omega)
      · refine .inr ⟨i0, k0, h1, h2, by unfold Ahead at h3 ⊢; omega, fun i' k' hk' h5 h6 h7 => ?_⟩
        by_cases e : i' = i ∧ k' = k
        · obtain ⟨rfl, rfl⟩ := e; exact hs h5
        · exact h4 i' k' hk' h5 h6 (by unfold Ahead at h7 ⊢; omega)
  · intro i ih
    rcases ih with ih | ⟨i0, k0, h1, h2, h3, h4⟩
    · exact .inl fun i' k' hk' h => ih i' k' hk' (by unfold Ahead at h ⊢; omega)
    · exact .inr ⟨i0, k0, h1, h2, by unfold Ahead at h3 ⊢; omega, fun i' k' hk' h5 h6 h7 => h4 i' k' hk' h5 h6 (by unfold Ahead at h7 ⊢; omega)⟩
end Go.Proofs.YtjlfcbccpcigeacDoor
/- Two statements of one word, one of which stores: an edge says which comes first, however far their turns are apart; no Go in sight. (Ahead of J4.) -/
namespace Go.Proofs.YtjlfcbccpcigeacDoor
set_option linter.unusedVariables false

theorem wt_in {L : Lp} {t : Tg} {fr to bk wt : Nat} (h : isD L t fr to bk wt = true) : ∀ k, wt < k → (⟨fr, to, bk, wt⟩ : Ed) ∈ wtD L t fr to bk k := by
  intro k
  induction k with
  | zero => intro h; omega
  | succ k ih =>
    intro hk
    show _ ∈ (if isD L t fr to bk k = true then wtD L t fr to bk k ++ [⟨fr, to, bk, k⟩] else wtD L t fr to bk k)
    by_cases e : wt = k
    · subst e; rw [if_pos h]; simp
    · have := ih (by omega)
      split
      · exact List.mem_append.2 (.inl this)
      · exact this
theorem edge_in {L : Lp} {t : Tg} {fr to bk wt : Nat} (h : isD L t fr to bk wt = true) (hf : fr < L.body.length) (ht : to < L.body.length) (hb : bk < 33) (hw : wt < 7) : (⟨fr, to, bk, wt⟩ : Ed) ∈ edgesD L t := by
  have h1 : ∀ k, bk < k → (⟨fr, to, bk, wt⟩ : Ed) ∈ bkD L t fr to k := by
    intro k
    induction k with
    | zero => intro h; omega
    | succ k ih =>
      intro hk
      show _ ∈ bkD L t fr to k ++ wtD L t fr to k 7
      by_cases e : bk = k
      · subst e; exact List.mem_append.2 (.inr (wt_in h 7 hw))
      · exact List.mem_append.2 (.inl (ih (by omega)))
  have h2 : ∀ k, to < k → (⟨fr, to, bk, wt⟩ : Ed) ∈ toD L t fr k := by
    intro k
    induction k with
    | zero => intro h; omega
    | succ k ih =>
      intro hk
      show _ ∈ toD L t fr k ++ bkD L t fr k 33
      by_cases e : to = k
      · subst e; exact List.mem_append.2 (.inr (h1 33 hb))
      · exact List.mem_append.2 (.inl (ih (by omega)))
  have h3 : ∀ k, fr < k → (⟨fr, to, bk, wt⟩ : Ed) ∈ frD L t k := by
    intro k
    induction k with
    | zero => intro h; omega
    | succ k ih =>
      intro hk
      show _ ∈ frD L t k ++ toD L t k L.body.length
      by_cases e : fr = k
      · subst e; exact List.mem_append.2 (.inr (h2 _ ht))
      · exact List.mem_append.2 (.inl (ih (by omega)))
  exact h3 _ hf
theorem mod_round (s p r q size : Int) : (s * (r + size * q) + p) % size = (s * r + p) % size := by
  have e : s * (r + size * q) + p = s * r + p + size * (s * q) := by
    rw [Int.mul_add, ← Int.mul_assoc, Int.mul_comm s size, Int.mul_assoc]; omega
  rw [e, Int.add_mul_emod_self_left]
theorem meets_of {a b : St} {d size i : Nat} (hs : 0 < size) (h : (a.sp * i + a.pl) % size = (b.sp * ((i : Int) + d) + b.pl) % size) : meetsD a b d size = true := by
  refine exN_true (Nat.mod_lt i hs) (decide_eq_true ?_)
  have e : (i : Int) = ((i % size : Nat) : Int) + size * (i / size : Nat) := by
    have := Nat.mod_add_div i size
    rw [← Int.natCast_mul]
    omega
  rw [e, mod_round, show ((i % size : Nat) : Int) + size * (i / size : Nat) + d = ((i % size : Nat) : Int) + d + size * (i / size : Nat) by omega, mod_round] at h
  exact h
theorem meets_less {a b : St} {d size : Nat} (h : meetsD a b (d + size) size = true) : meetsD a b d size = true := by
  obtain ⟨k, hk, h2⟩ := exN_iff.1 h
  refine exN_iff.2 ⟨k, hk, decide_eq_true ?_⟩
  have h3 := of_decide_eq_true h2
  rw [h3, show (k : Int) + (d + size : Nat) = (k : Int) + d + size * 1 by omega, mod_round]
theorem leastM_of {p : Nat → Bool} : ∀ n, p n = true → ∃ m, m ≤ n ∧ p m = true ∧ ∀ i, i < m → p i = false := by
  intro n
  induction n using Nat.strongRecOn with
  | _ n ih =>
    intro h
    by_cases e : ∃ i, i < n ∧ p i = true
    · obtain ⟨i, hi, h2⟩ := e
      obtain ⟨m, h3, h4, h5⟩ := ih i hi h2
      exact ⟨m, by omega, h4, h5⟩
    · refine ⟨n, Nat.le_refl _, h, fun i hi => ?_⟩
      cases hp : p i
      · rfl
      · exact absurd ⟨i, hi, hp⟩ e
/-- if they meet so many turns apart, the least number is not above -/
theorem first_of {a b : St} {lo d size : Nat} (hs : 0 < size) (hl : lo ≤ 1) (hd : lo ≤ d) (h : meetsD a b d size = true) : ∃ bk, bk ≤ d ∧ bk ≤ size ∧ firstD a b lo bk size = true := by
  obtain ⟨m, h1, h2, h3⟩ := leastM_of (p := fun m => decide (lo ≤ m) && meetsD a b m size) d (by show (decide (lo ≤ d) && meetsD a b d size) = true; rw [h, decide_eq_true hd]; rfl)
  have h4 : lo ≤ m ∧ meetsD a b m size = true := by simpa using h2
  have h5 : m ≤ size := by
    by_cases e : m ≤ size
    · exact e
    · exfalso
      have h6 := h3 (m - size) (by omega)
      have h7 : meetsD a b (m - size) size = true := meets_less (by rw [Nat.sub_add_cancel (by omega)]; exact h4.2)
      have h8 : (decide (lo ≤ m - size) && meetsD a b (m - size) size) = false := h6
      rw [h7, decide_eq_true (by omega)] at h8
      cases h8
  refine ⟨m, h1, h5, ?_⟩
  unfold firstD
  rw [decide_eq_true h4.1, decide_eq_true h5, h4.2]
  refine (Bool.true_and _).trans (allN_mk fun i hi => ?_)
  have h6 : (decide (lo ≤ i) && meetsD a b i size) = false := h3 i hi
  by_cases e : i < lo
  · rw [decide_eq_true e]; rfl
  · rw [decide_eq_true (by omega)] at h6
    have h7 : meetsD a b i size = false := h6
    rw [h7]; simp
theorem word_parts {L : Lp} {k : Nat} (hm : mayB L = true) (hk : k < L.body.length) (ho : (stAt L.body k).o = 3 ∨ (stAt L.body k).o = 4) : 0 ≤ (stAt L.body k).ar ∧ (stAt L.body k).ar < L.logs.length ∧ -64 ≤ (stAt L.body k).sp ∧ (stAt L.body k).sp ≤ 64 ∧ -64 ≤ (stAt L.body k).pl ∧ (stAt L.body k).pl ≤ 64 ∧ 0 ≤ nth L.logs (stAt L.body k).ar.toNat ∧ nth L.logs (stAt L.body k).ar.toNat ≤ 5 := by
  obtain ⟨-, -, -, -, h5, -, h7⟩ := may_parts hm
  have h := allN_get h7 k hk
  have hw : wordOk L.logs.length (stAt L.body k).ar (stAt L.body k).sp (stAt L.body k).pl = true := by
    have h' : stOk L.logs.length L.body.length k (stAt L.body k) = true := h
    unfold stOk at h'
    rcases ho with ho | ho
    · rw [if_neg (by omega), if_neg (by omega), if_pos ho] at h'
      simp only [Bool.and_eq_true] at h'
      exact h'.2
    · rw [if_neg (by omega), if_neg (by omega), if_neg (by omega), if_pos ho] at h'
      simp only [Bool.and_eq_true] at h'
      exact h'.1.2
  unfold wordOk at hw
  simp only [Bool.and_eq_true] at hw
  have h1 := inR_iff.1 hw.1.1
  have h2 := inR_iff.1 hw.1.2
  have h3 := inR_iff.1 hw.2
  have h4 := inR_iff.1 (allN_get h5 (stAt L.body k).ar.toNat (by omega))
  exact ⟨h1.1, by omega, h2.1, h2.2, h3.1, h3.2, h4.1, h4.2⟩
/-- the word of a statement is what is left by the array's size -/
theorem word_mod {L : Lp} {k i : Nat} (hm : mayB L = true) (hk : k < L.body.length) (hi : i ≤ 200) (ho : (stAt L.body k).o = 3 ∨ (stAt L.body k).o = 4) : (wordAt L i (stAt L.body k) : Int) = ((stAt L.body k).sp * i + (stAt L.body k).pl) % (sizeD L (stAt L.body k) : Nat) := by
  obtain ⟨h1, h2, h3, h4, h5, h6, h7, h8⟩ := word_parts hm hk ho
  rw [← wordAt_cast]
  unfold idx
  rw [if_pos (by omega)]
  rfl
/-- of two statements of one word, one of which stores, the earlier one has an edge to the later one, of no more turns -/
theorem mem_edge {L : Lp} (t : Tg) {i x i' y : Nat} (hm : mayB L = true) (hx : x < L.body.length) (hy : y < L.body.length) (hi : i ≤ 200) (hi' : i' ≤ 200) (hd : memD (stAt L.body x) (stAt L.body y) = true) (ha : Ahead i x i' y) (hw : wordAt L i (stAt L.body x) = wordAt L i' (stAt L.body y)) :
    ∃ bk wt : Nat, i + bk ≤ i' ∧ (wt : Int) = waitD (stAt L.body x) ∧ (⟨x, y, bk, wt⟩ : Ed) ∈ edgesD L t := by
  have hd' := hd
  unfold memD wordD at hd'
  simp only [Bool.and_eq_true, Bool.or_eq_true, decide_eq_true_eq] at hd'
  obtain ⟨⟨⟨ox, oy⟩, ear⟩, -⟩ := hd'
  have mx := word_mod hm hx hi ox
  have my := word_mod hm hy hi' oy
  obtain ⟨-, -, -, -, -, -, h7, h8⟩ := word_parts hm hx ox
  have esz : sizeD L (stAt L.body y) = sizeD L (stAt L.body x) := by unfold sizeD; rw [ear]
  have hs0 : 0 < sizeD L (stAt L.body x) := Nat.two_pow_pos _
  have hs5 : sizeD L (stAt L.body x) ≤ 32 := by
    have h2 : 2 ^ (nth L.logs (stAt L.body x).ar.toNat).toNat ≤ 2 ^ 5 := Nat.pow_le_pow_right (by omega) (by omega)
    exact h2
  have hle : i ≤ i' := by unfold Ahead at ha; omega
  have hmeet : meetsD (stAt L.body x) (stAt L.body y) (i' - i) (sizeD L (stAt L.body x)) = true := by
    refine meets_of hs0 (i := i) ?_
    rw [show (i : Int) + ((i' - i : Nat) : Int) = (i' : Int) by omega, ← mx, hw, my, esz]
  obtain ⟨bk, hb1, hb2, hb3⟩ := first_of (lo := leastD x y) hs0 (by unfold leastD; split <;> omega) (by unfold leastD; unfold Ahead at ha; split <;> omega) hmeet
  have hwd : ∃ wt : Nat, (wt : Int) = waitD (stAt L.body x) ∧ wt < 7 := by
    unfold waitD
    split
    · exact ⟨1, rfl, by omega⟩
    · exact ⟨0, rfl, by omega⟩
  obtain ⟨wt, hwt, hw7⟩ := hwd
  refine ⟨bk, wt, by omega, hwt, edge_in ?_ hx hy (by omega) hw7⟩
  unfold isD
  rw [hd, hb3, decide_eq_true hwt]
  simp
end Go.Proofs.YtjlfcbccpcigeacDoor
/- J4: a kernel that is taken comes to what the loop comes to; no Go in sight. -/
namespace Go.Proofs.YtjlfcbccpcigeacDoor
set_option linter.unusedVariables false

/-- as many places as things, each thing its own: every place is taken -/
theorem all_hit : ∀ (n : Nat) (f : Nat → Nat), (∀ s, s < n → f s < n) → (∀ s s', s < n → s' < n → f s = f s' → s = s') → ∀ k, k < n → ∃ s, s < n ∧ f s = k := by
  intro n
  induction n with
  | zero => intro f _ _ k hk; omega
  | succ n ih =>
    intro f hf hi k hk
    have hg := ih (fun s => if f s = n then f n else f s) (fun s hs => by
      show (if f s = n then f n else f s) < n
      split
      · next e =>
        by_cases e2 : f n = n
        · have := hi s n (by omega) (by omega) (by omega); omega
        · have := hf n (by omega); omega
      · next e => have := hf s (by omega); omega) (fun s s' hs hs' e => by
      have e' : (if f s = n then f n else f s) = (if f s' = n then f n else f s') := e
      split at e'
      · next e1 =>
        split at e'
        · next e2 => exact hi s s' (by omega) (by omega) (by omega)
        · next e2 => have := hi n s' (by omega) (by omega) e'; omega
      · next e1 =>
        split at e'
        · next e2 => have := hi s n (by omega) (by omega) e'; omega
        · next e2 => exact hi s s' (by omega) (by omega) e')
    by_cases e : k = f n
    · exact ⟨n, by omega, e.symm⟩
    · by_cases e2 : k = n
      · have h3 : f n < n := by have := hf n (by omega); omega
        obtain ⟨s, hs, h4⟩ := hg (f n) h3
        have h4' : (if f s = n then f n else f s) = f n := h4
        split at h4'
        · next e3 => exact ⟨s, by omega, by omega⟩
        · next e3 => have := hi s n (by omega) (by omega) h4'; omega
      · obtain ⟨s, hs, h4⟩ := hg k (by omega)
        have h4' : (if f s = n then f n else f s) = k := h4
        split at h4'
        · exact absurd h4'.symm e
        · exact ⟨s, by omega, h4'⟩

section
variable (t : Tg) (K : Kn) (O : List Int)
/-- J1 -/
def ordJ (s : Nat) : Nat := (nth O s).toNat
def opJ (s : Nat) : Kop := opAt K.ops (ordJ O s)
def timeJ (s : Nat) : Int := (opJ K O s).sl + K.pc * (opJ K O s).sg
def readyJ (s : Nat) : Int := timeJ K O s + waitT t (opJ K O s).o
def placeJ (s : Nat) : Int := (opJ K O s).d + (opJ K O s).sg
end
/-- J2 -/
structure Taken (L : Lp) (t : Tg) (K : Kn) (O : List Int) : Prop where
  may : mayB L = true
  mayt : mayT t = true
  mayk : mayK t K L.logs = true
  nops : K.ops.length = L.body.length
  ord : ∀ s, s < L.body.length → ordJ O s < L.body.length
  inj : ∀ s s', s < L.body.length → s' < L.body.length → ordJ O s = ordJ O s' → s = s'
  same : ∀ s, s < L.body.length → (opJ K O s).o = (stAt L.body s).o ∧ (opJ K O s).ar = (stAt L.body s).ar ∧ (opJ K O s).sp = (stAt L.body s).sp ∧ (opJ K O s).pl = (stAt L.body s).pl ∧ (opJ K O s).nn = (stAt L.body s).nn
  edge : ∀ e ∈ edgesD L t, timeJ K O e.fr.toNat + e.wt ≤ timeJ K O e.to.toNat + e.bk * K.pc
  nameA : ∀ s, s < L.body.length → (stAt L.body s).o = 4 ∨ 10 < (stAt L.body s).o → (opJ K O s).a = (placeJ K O (stAt L.body s).xa.toNat - (stAt L.body s).xb - (opJ K O s).sg) % t.r
  nameB : ∀ s, s < L.body.length → 10 < (stAt L.body s).o → (opJ K O s).b = (placeJ K O (stAt L.body s).ya.toNat - (stAt L.body s).yb - (opJ K O s).sg) % t.r
  kept : ∀ s, s < L.body.length → ∀ r ∈ usesL (stAt L.body s), ∀ m, m < L.body.length → ∀ j : Int, ¬ (m = r.1.toNat ∧ j = 0) → (placeJ K O m + j - placeJ K O r.1.toNat) % t.r = 0 →
    (readyJ t K O m + j * K.pc < readyJ t K O r.1.toNat ∨ timeJ K O s + r.2 * K.pc < readyJ t K O m + j * K.pc) ∧ (0 < r.2 → 0 < j → timeJ K O s + r.2 * K.pc < readyJ t K O m + j * K.pc)
  told : ∀ a ∈ L.outs, ∀ m, m < L.body.length → ∀ j : Int, j ≤ 0 → ¬ (m = a.toNat ∧ j = 0) → (placeJ K O m + j - placeJ K O a.toNat) % t.r = 0 → readyJ t K O m + j * K.pc < readyJ t K O a.toNat
/-- J3: what Enter tells, where it is looked at -/
def Entered (L : Lp) (t : Tg) (K : Kn) (O : List Int) (B : List (List Int)) (R : List Int) : Prop :=
  ∀ s, s < L.body.length → ∀ r ∈ usesL (stAt L.body s), ∀ q : Int, 1 ≤ q → q ≤ r.2 → nth R ((placeJ K O r.1.toNat - q) % t.r).toNat = nth (rowAt B r.1.toNat) (q - 1).toNat
variable {L : Lp} {t : Tg} {K : Kn} {O : List Int} {B M : List (List Int)} {R : List Int} {turns : Nat}

theorem Taken.ok (h : Taken L t K O) (h1 : 1 ≤ turns) : KOk t K turns := by
  have hk := h.mayk
  unfold mayK at hk
  simp only [Bool.and_eq_true] at hk
  obtain ⟨⟨⟨⟨hk1, hk2⟩, hk3⟩, hk4⟩, hk5⟩ := hk
  have h2 := inR_iff.1 hk2
  have h3 := inR_iff.1 hk3
  obtain ⟨u1, u2, u3, hr1, -⟩ := mayT_parts hk1
  refine ⟨h2.1, h3.1, hr1, fun k hk => ?_, fun o => ?_, h1⟩
  · have h6 := allN_get hk5 k hk
    unfold oneOk timeOk at h6
    simp only [Bool.and_eq_true] at h6
    have h7 := inR_iff.1 h6.1.1.1.1.1
    have h8 := inR_iff.1 h6.1.1.1.1.2
    omega
  · have u1 := unit_iff u1
    have u2 := unit_iff u2
    have u3 := unit_iff u3
    unfold waitsT
    split
    · omega
    · split <;> omega
theorem Taken.cyc (h : Taken L t K O) (s i : Nat) : cycE K (ordJ O s) i = timeJ K O s + i * K.pc := by
  unfold cycE timeJ opJ
  rw [Int.mul_add, Int.mul_comm K.pc (i : Int)]
  omega
theorem Taken.wait (h : Taken L t K O) (o : Int) : waitT t o = waitsT t (clsv o) := by unfold waitT; rw [if_pos h.mayt]
theorem Taken.due (h : Taken L t K O) (s i : Nat) : dueE t K (ordJ O s) i = readyJ t K O s + i * K.pc := by
  unfold dueE readyJ
  rw [h.cyc, h.wait]
  show _ + waitsT t (clsv (opJ K O s).o) = _
  omega
theorem Taken.place (h : Taken L t K O) (s i : Nat) : placeE t K (ordJ O s) i = (placeJ K O s + i) % t.r := by
  unfold placeE placeJ opJ
  rw [Int.add_assoc]
theorem Taken.hit (h : Taken L t K O) {k : Nat} (hk : k < K.ops.length) : ∃ s, s < L.body.length ∧ ordJ O s = k := all_hit _ _ h.ord h.inj k (by rw [← h.nops]; exact hk)
theorem Taken.lt (h : Taken L t K O) {s : Nat} (hs : s < L.body.length) : ordJ O s < K.ops.length := by rw [h.nops]; exact h.ord s hs
theorem rest_eq {r x y : Int} (hr : 1 ≤ r) (h : (x % r).toNat = (y % r).toNat) : (x - y) % r = 0 := by
  have h1 := Int.emod_nonneg x (by omega : r ≠ 0)
  have h2 := Int.emod_nonneg y (by omega : r ≠ 0)
  exact Int.emod_eq_emod_iff_emod_sub_eq_zero.1 (by omega)
/-- what an Op reads for a Ref is what the Ref is -/
theorem Taken.ref (h : Taken L t K O) (h1 : 1 ≤ turns) (he : Entered L t K O B R) {s i : Nat} (hs : s < L.body.length) (hi : i < turns) {xa xb : Int} (hx : (xa, xb) ∈ usesL (stAt L.body s)) (hr0 : 0 ≤ xa) (hr1 : xa < L.body.length) (hr2 : 0 ≤ xb) (hr3 : xb = 0 → xa < s)
    (hed : readyJ t K O xa.toNat ≤ timeJ K O s + xb * K.pc)
    {A : Int} (hA : A = (placeJ K O xa.toNat - xb - (opJ K O s).sg) % t.r)
    (ih : ∀ s' i', s' < L.body.length → i' < turns → cycE K (ordJ O s') i' < cycE K (ordJ O s) i → valE t K L.logs turns (startK R M) (ordJ O s') i' = valS L B M i' s') :
    regK (regF t K L.logs turns (startK R M) (cycE K (ordJ O s) i).toNat) t.r A (cycE K (ordJ O s) i / K.pc) = refV B (atS L B M i s).val i xa xb := by
  have ok := h.ok h1
  have hr := ok.r
  have hpc := ok.pc
  obtain ⟨hc0, hc1, -⟩ := cyc_parts ok (h.lt hs) i
  have hxn : xa.toNat < L.body.length := by omega
  have ereg : (A + cycE K (ordJ O s) i / K.pc) % t.r = (placeJ K O xa.toNat + ((i : Int) - xb)) % t.r := by
    rw [hc1, hA, Int.emod_add_emod]
    congr 1
    unfold opJ
    omega
  unfold regK
  rw [ereg]
  unfold refV
  have hk := h.kept s hs _ hx
  dsimp only at hk
  by_cases hb : xb ≤ (i : Int)
  · rw [if_pos hb]
    have hib : ((i : Int) - xb).toNat < turns := by omega
    have eib : ((((i : Int) - xb).toNat : Nat) : Int) = (i : Int) - xb := by omega
    have hdue : dueE t K (ordJ O xa.toNat) ((i : Int) - xb).toNat ≤ cycE K (ordJ O s) i := by
      rw [h.due, h.cyc, eib, Int.sub_mul]
      omega
    have hah : Ahead ((i : Int) - xb).toNat xa.toNat i s := by
      unfold Ahead
      by_cases e : xb = 0
      · have := hr3 e; omega
      · omega
    have hval := val_at (L := L) (B := B) (M := M) i s (by omega) ((i : Int) - xb).toNat xa.toNat hxn hah
    rw [hval, ← ih xa.toNat ((i : Int) - xb).toNat hxn hib (by have := ok.wt (opAt K.ops (ordJ O xa.toNat)).o; unfold dueE at hdue; omega)]
    have epl : placeE t K (ordJ O xa.toNat) ((i : Int) - xb).toNat = (placeJ K O xa.toNat + ((i : Int) - xb)) % t.r := by rw [h.place, eib]
    rw [← epl]
    refine reg_last ok rfl (h.lt hxn) hib _ (by omega) fun k' i' hk' hi' g1 g2 g3 => ?_
    obtain ⟨m, hm, rfl⟩ := h.hit hk'
    by_cases e : m = xa.toNat ∧ (i' : Int) - ((i : Int) - xb) = 0
    · obtain ⟨rfl, e2⟩ := e
      exact ⟨rfl, by omega⟩
    · exfalso
      rw [h.place, epl] at g3
      have g4 := rest_eq hr g3
      have g5 := (hk m hm ((i' : Int) - ((i : Int) - xb)) e (by rw [← g4]; congr 1; omega)).1
      rw [h.due, h.due, eib] at g1
      rw [h.due] at g2
      have g6 : (i' : Int) * K.pc ≤ timeJ K O s + i * K.pc - readyJ t K O m := by rw [← h.cyc]; omega
      rw [Int.sub_mul, Int.sub_mul] at g5
      rw [Int.sub_mul] at g1
      omega
  · rw [if_neg hb]
    have hq := he s hs _ hx (xb - i) (by omega) (by show xb - (i : Int) ≤ xb; omega)
    dsimp only at hq
    rw [show xb - (i : Int) - 1 = xb - i - 1 by omega] at hq
    rw [← hq, show placeJ K O xa.toNat - (xb - (i : Int)) = placeJ K O xa.toNat + ((i : Int) - xb) by omega]
    refine reg_first ok rfl _ _ fun k' i' hk' hi' g2 g3 => ?_
    obtain ⟨m, hm, rfl⟩ := h.hit hk'
    rw [h.place] at g3
    have g4 := rest_eq hr g3
    have g5 := (hk m hm ((i' : Int) - ((i : Int) - xb)) (fun e => by omega) (by rw [← g4]; congr 1; omega)).2 (by omega) (by omega)
    rw [h.due] at g2
    have g6 : (i' : Int) * K.pc ≤ timeJ K O s + i * K.pc - readyJ t K O m := by rw [← h.cyc]; omega
    rw [Int.sub_mul, Int.sub_mul] at g5
    omega
end Go.Proofs.YtjlfcbccpcigeacDoor
/- J4: a kernel that is taken leaves the words that the loop leaves, and comes to the same; no Go in sight. -/
namespace Go.Proofs.YtjlfcbccpcigeacDoor
set_option linter.unusedVariables false
variable {L : Lp} {t : Tg} {K : Kn} {O : List Int} {B M : List (List Int)} {R : List Int} {turns : Nat}

/-- words are taken and put in the loop's order -/
theorem Taken.order (h : Taken L t K O) (h1 : 1 ≤ turns) {i x i' y : Nat} (hx : x < L.body.length) (hy : y < L.body.length) (hi : i ≤ 200) (hi' : i' ≤ 200) (hd : memD (stAt L.body x) (stAt L.body y) = true) (ha : Ahead i x i' y) (hw : wordAt L i (stAt L.body x) = wordAt L i' (stAt L.body y)) :
    cycE K (ordJ O x) i + waitD (stAt L.body x) ≤ cycE K (ordJ O y) i' := by
  obtain ⟨bk, wt, h2, h3, h4⟩ := mem_edge t h.may hx hy hi hi' hd ha hw
  have h5 := h.edge _ h4
  have hpc := (h.ok h1).pc
  simp only [Int.toNat_natCast] at h5
  rw [h.cyc, h.cyc, ← h3]
  have h6 : ((i + bk : Nat) : Int) * K.pc ≤ (i' : Int) * K.pc := Int.mul_le_mul_of_nonneg_right (by omega) (by omega)
  rw [Int.natCast_add, Int.add_mul] at h6
  omega
theorem Taken.word (h : Taken L t K O) {s : Nat} (hs : s < L.body.length) (i : Nat) : wordX K L.logs (ordJ O s) i = wordAt L i (stAt L.body s) := by
  obtain ⟨eo, ear, esp, epl, enn⟩ := h.same s hs
  unfold opJ at eo ear esp epl enn
  unfold wordX wordAt
  rw [esp, epl, ear]
theorem Taken.sto (h : Taken L t K O) {s a b : Nat} (hs : s < L.body.length) (i : Nat) : StoE K L.logs a b (ordJ O s) i ↔ StoS L a b i s := by
  unfold StoE StoS
  rw [h.word hs]
  obtain ⟨eo, ear, -⟩ := h.same s hs
  unfold opJ at eo ear
  rw [eo, ear]
theorem ahead_three (i k i' k' : Nat) : Ahead i k i' k' ∨ (i = i' ∧ k = k') ∨ Ahead i' k' i k := by unfold Ahead; omega
theorem sto_mem {a b i x i' y : Nat} (h1 : StoS L a b i x) (h2 : StoS L a b i' y) (hm : mayB L = true) (hx : x < L.body.length) (hy : y < L.body.length) : memD (stAt L.body x) (stAt L.body y) = true ∧ wordAt L i (stAt L.body x) = wordAt L i' (stAt L.body y) := by
  have p1 := word_parts hm hx (.inr h1.1)
  have p2 := word_parts hm hy (.inr h2.1)
  refine ⟨?_, h1.2.2.trans h2.2.2.symm⟩
  unfold memD wordD
  have e1 := h1.1
  have e2 := h2.1
  have e3 : (stAt L.body x).ar = (stAt L.body y).ar := by have := h1.2.1; have := h2.2.1; omega
  rw [e1, e2, e3]
  simp
/-- of two stores into one word the one ahead comes first -/
theorem Taken.stores (h : Taken L t K O) (h1 : 1 ≤ turns) {a b i x i' y : Nat} (hx : x < L.body.length) (hy : y < L.body.length) (hi : i ≤ 200) (hi' : i' ≤ 200) (s1 : StoS L a b i x) (s2 : StoS L a b i' y) (ha : Ahead i x i' y) : cycE K (ordJ O x) i < cycE K (ordJ O y) i' := by
  obtain ⟨hd, hw⟩ := sto_mem s1 s2 h.may hx hy
  have := h.order h1 hx hy hi hi' hd ha hw
  unfold waitD at this
  rw [if_pos s1.1] at this
  omega
/-- what a load takes is what the loop's load takes -/
theorem Taken.load (h : Taken L t K O) (h1 : 1 ≤ turns) (h2 : turns ≤ 200) {s i : Nat} (hs : s < L.body.length) (hi : i < turns) (ho : (stAt L.body s).o = 3)
    (ih : ∀ s' i', s' < L.body.length → i' < turns → cycE K (ordJ O s') i' < cycE K (ordJ O s) i → valE t K L.logs turns (startK R M) (ordJ O s') i' = valS L B M i' s') :
    (runK t K L.logs turns (startK R M) (cycE K (ordJ O s) i).toNat).m (stAt L.body s).ar.toNat (wordAt L i (stAt L.body s)) = (atS L B M i s).mem (stAt L.body s).ar.toNat (wordAt L i (stAt L.body s)) := by
  have ok := h.ok h1
  obtain ⟨hc0, -, -⟩ := cyc_parts ok (h.lt hs) i
  have pL := word_parts h.may hs (.inl ho)
  have hmem : ∀ i' m, m < L.body.length → StoS L (stAt L.body s).ar.toNat (wordAt L i (stAt L.body s)) i' m → memD (stAt L.body s) (stAt L.body m) = true ∧ memD (stAt L.body m) (stAt L.body s) = true := by
    intro i' m hm hsto
    have p2 := word_parts h.may hm (.inr hsto.1)
    have e2 := hsto.1
    have e3 : (stAt L.body m).ar = (stAt L.body s).ar := by have := hsto.2.1; omega
    unfold memD wordD
    rw [ho, e2, e3]
    simp
  have later : ∀ i' m, m < L.body.length → i' < turns → StoS L (stAt L.body s).ar.toNat (wordAt L i (stAt L.body s)) i' m → ¬ Ahead i' m i s → cycE K (ordJ O s) i ≤ cycE K (ordJ O m) i' := by
    intro i' m hm hi' hsto hna
    rcases ahead_three i' m i s with e | ⟨-, e⟩ | e
    · exact absurd e hna
    · exfalso
      have := hsto.1
      rw [e, ho] at this
      omega
    · have := h.order h1 hs hm (by omega) (by omega) (hmem i' m hm hsto).1 e hsto.2.2.symm
      unfold waitD at this
      rw [if_neg (by omega)] at this
      omega
  rcases last_or L (stAt L.body s).ar.toNat (wordAt L i (stAt L.body s)) i s (by omega) with hno | ⟨i0, k0, hk0, hs0, ha0, hl0⟩
  · rw [smem_first i s (by omega) hno, mem_first ok _ fun k' i' hk' hi' hsto => ?_]
    · rfl
    · obtain ⟨m, hm, rfl⟩ := h.hit hk'
      have hsto' := (h.sto hm i').1 hsto
      have := later i' m hm hi' hsto' fun e => hno i' m hm e hsto'
      omega
  · have hi0 : i0 < turns := by unfold Ahead at ha0; omega
    have hlt : cycE K (ordJ O k0) i0 < cycE K (ordJ O s) i := by
      have := h.order h1 hk0 hs (by omega) (by omega) (hmem i0 k0 hk0 hs0).2 ha0 hs0.2.2
      unfold waitD at this
      rw [if_pos hs0.1] at this
      omega
    rw [smem_last hk0 hs0 i s (by omega) ha0 hl0, ← ih k0 i0 hk0 hi0 hlt]
    refine mem_last ok (h.lt hk0) hi0 ((h.sto hk0 i0).2 hs0) _ (by omega) fun k' i' hk' hi' hsto g1 g2 => ?_
    obtain ⟨m, hm, rfl⟩ := h.hit hk'
    have hsto' := (h.sto hm i').1 hsto
    by_cases hah : Ahead i' m i s
    · rcases ahead_three i0 k0 i' m with e | ⟨e1, e2⟩ | e
      · exact absurd hah (hl0 i' m hm hsto' e)
      · subst e1; subst e2; exact ⟨rfl, rfl⟩
      · have := h.stores h1 hm hk0 (by omega) (by omega) hsto' hs0 e
        omega
    · have := later i' m hm hi' hsto' hah
      omega
theorem look_edge (h : Taken L t K O) {s : Nat} (hs : s < L.body.length) {xa xb : Int} (hx : (xa, xb) ∈ usesL (stAt L.body s)) (hr0 : 0 ≤ xa) (hr1 : xa < L.body.length) (hr2 : 0 ≤ xb) (hr3 : xb ≤ 3) : readyJ t K O xa.toNat ≤ timeJ K O s + xb * K.pc := by
  have hn : xa.toNat < L.body.length := by omega
  obtain ⟨eo, -⟩ := h.same xa.toNat hn
  have hw : ∃ wt : Nat, (wt : Int) = waitT t (stAt L.body xa.toNat).o ∧ wt < 7 := by
    have h1 := (h.ok (turns := 1) (Nat.le_refl _)).wt (stAt L.body xa.toNat).o
    rw [h.wait]
    exact ⟨(waitsT t (clsv (stAt L.body xa.toNat).o)).toNat, by omega, by omega⟩
  obtain ⟨wt, hwt, hw7⟩ := hw
  have hin : isD L t xa.toNat s xb.toNat wt = true := by
    unfold isD
    rw [decide_eq_true hwt]
    have hl : lookD (stAt L.body s) xa.toNat xb.toNat = true := by
      unfold lookD
      obtain ⟨j, hj, ej⟩ := List.mem_iff_getElem.1 hx
      refine exN_true hj ?_
      unfold lookAt
      have e : refAt (usesL (stAt L.body s)) j = (xa, xb) := by unfold refAt; rw [List.getD, List.getElem?_eq_getElem hj, ej]; rfl
      rw [e, decide_eq_true (show xa = (xa.toNat : Int) by omega), decide_eq_true (show xb = (xb.toNat : Int) by omega)]
      rfl
    rw [hl]; rfl
  have h5 := h.edge _ (edge_in hin hn hs (by omega) hw7)
  simp only [Int.toNat_natCast] at h5
  unfold readyJ
  rw [eo, ← hwt]
  rw [show ((xb.toNat : Nat) : Int) = xb by omega] at h5
  exact h5
/-- every Op comes to what its statement comes to -/
theorem Taken.val (h : Taken L t K O) (h1 : 1 ≤ turns) (h2 : turns ≤ 200) (he : Entered L t K O B R) : ∀ (N : Nat) (s i : Nat), s < L.body.length → i < turns → cycE K (ordJ O s) i = N → valE t K L.logs turns (startK R M) (ordJ O s) i = valS L B M i s := by
  intro N
  induction N using Nat.strongRecOn with
  | _ N ihN =>
    intro s i hs hi eN
    have ok := h.ok h1
    have ih : ∀ s' i', s' < L.body.length → i' < turns → cycE K (ordJ O s') i' < cycE K (ordJ O s) i → valE t K L.logs turns (startK R M) (ordJ O s') i' = valS L B M i' s' := by
      intro s' i' hs' hi' hlt
      have := (cyc_parts ok (h.lt hs') i').1
      exact ihN (cycE K (ordJ O s') i').toNat (by omega) s' i' hs' hi' (by omega)
    obtain ⟨eo, ear, esp, epl, enn⟩ := h.same s hs
    obtain ⟨-, -, -, -, -, -, h7⟩ := may_parts h.may
    have hst := st_parts (allN_get h7 s hs)
    obtain ⟨hc0, hc1, -⟩ := cyc_parts ok (h.lt hs) i
    have href : ∀ xa xb : Int, (xa, xb) ∈ usesL (stAt L.body s) → refOk L.body.length s xa xb = true → ∀ A, A = (placeJ K O xa.toNat - xb - (opJ K O s).sg) % t.r → regK (regF t K L.logs turns (startK R M) (cycE K (ordJ O s) i).toNat) t.r A (cycE K (ordJ O s) i / K.pc) = refV B (atS L B M i s).val i xa xb := by
      intro xa xb hx hr A hA
      unfold refOk at hr
      rw [Bool.and_eq_true] at hr
      have r1 := inR_iff.1 hr.1
      have r2 := inR_iff.1 hr.2
      have r3 : xa < L.body.length := by split at r2 <;> omega
      exact h.ref h1 he hs hi hx r2.1 r3 r1.1 (fun e => by rw [if_pos e] at r2; omega) (look_edge h hs hx r2.1 r3 r1.1 r1.2) hA ih
    unfold valE valK valS comes
    show (if (opJ K O s).o = 1 then (opJ K O s).nn else if (opJ K O s).o = 2 then cycE K (ordJ O s) i / K.pc - (opJ K O s).sg else if (opJ K O s).o = 3 then _ else if (opJ K O s).o = 4 then _ else _) = _
    rw [eo, enn]
    rcases hst with o | o | ⟨o, -⟩ | ⟨o, -, -, hr⟩ | ⟨o, o2, hr, hr2⟩
    · rw [if_pos o, if_pos o]
    · rw [if_neg (by omega), if_pos o, if_neg (by omega), if_pos o, hc1]
      show (opJ K O s).sg + (i : Int) - (opJ K O s).sg = _
      omega
    · rw [if_neg (by omega), if_neg (by omega), if_pos o, if_neg (by omega), if_neg (by omega), if_pos o, word_cyc ok (h.lt hs), h.word hs]
      show (runK _ _ _ _ _ _).m (opJ K O s).ar.toNat _ = _
      rw [ear]
      exact h.load h1 h2 hs hi o ih
    · rw [if_neg (by omega), if_neg (by omega), if_neg (by omega), if_pos o, if_neg (by omega), if_neg (by omega), if_neg (by omega), if_pos o]
      exact href _ _ (by unfold usesL; rw [if_pos o]; simp) hr _ (h.nameA s hs (.inl o))
    · rw [if_neg (by omega), if_neg (by omega), if_neg (by omega), if_neg (by omega), if_neg (by omega), if_neg (by omega), if_neg (by omega), if_neg (by omega)]
      have hu : usesL (stAt L.body s) = [((stAt L.body s).xa, (stAt L.body s).xb), ((stAt L.body s).ya, (stAt L.body s).yb)] := by unfold usesL; rw [if_neg (by omega), if_pos (by omega)]
      have g1 := href _ _ (by rw [hu]; simp) hr _ (h.nameA s hs (.inr (by omega)))
      have g2 := href _ _ (by rw [hu]; simp) hr2 _ (h.nameB s hs (by omega))
      unfold opJ at g1 g2 eo
      rw [g1, g2, eo]
theorem last_pos (ok : KOk t K turns) : 0 ≤ lastK K turns := by
  have := ok.pc
  have := ok.st
  have := ok.tu
  exact Int.mul_nonneg (by omega) (by omega)
/-- J4: what it comes to -/
theorem Taken.outs (h : Taken L t K O) (h1 : 1 ≤ turns) (h2 : turns ≤ 200) (he : Entered L t K O B R) {a : Int} (ha : a ∈ L.outs) (hn : a.toNat < L.body.length) : (playK t K L.logs turns R M).f ((placeJ K O a.toNat + turns - 1) % t.r).toNat = (runS L B turns (startS M)).val (turns - 1) a.toNat := by
  unfold playK
  rw [if_neg (by omega)]
  have ok := h.ok h1
  have hp := last_pos ok
  have hr := ok.r
  have ht : turns - 1 < turns := by omega
  have et : ((turns - 1 : Nat) : Int) = (turns : Int) - 1 := by omega
  have hc := cycE_last ok (h.lt hn) ht
  have hc0 := (cyc_parts ok (h.lt hn) (turns - 1)).1
  have hw := ok.wt (opAt K.ops (ordJ O a.toNat)).o
  rw [show (lastK K turns + 7).toNat = (lastK K turns).toNat + 6 + 1 by omega, run_f, at_run, val_at turns 0 (Nat.zero_le _) (turns - 1) a.toNat hn (.inl ht), ← h.val (M := M) h1 h2 he (cycE K (ordJ O a.toNat) (turns - 1)).toNat a.toNat (turns - 1) hn ht (by omega)]
  have epl : placeE t K (ordJ O a.toNat) (turns - 1) = (placeJ K O a.toNat + turns - 1) % t.r := by rw [h.place, et]; congr 1; omega
  rw [← epl]
  refine reg_last ok rfl (h.lt hn) ht _ (by unfold dueE; omega) fun k' i' hk' hi' g1 g2 g3 => ?_
  obtain ⟨m, hm, rfl⟩ := h.hit hk'
  by_cases e : m = a.toNat ∧ (i' : Int) - ((turns : Int) - 1) = 0
  · obtain ⟨rfl, e2⟩ := e
    exact ⟨rfl, by omega⟩
  · exfalso
    rw [h.place, epl] at g3
    have g4 := rest_eq hr g3
    have g5 := h.told a ha m hm ((i' : Int) - ((turns : Int) - 1)) (by omega) e (by rw [← g4]; congr 1; omega)
    rw [h.due, h.due, et] at g1
    rw [Int.sub_mul] at g5
    omega
end Go.Proofs.YtjlfcbccpcigeacDoor
/- J2, J3: which kernels are taken, and what Enter and Leave tell, as the document's answer asks it; and that a kernel that is taken is so for all whole numbers; no Go in sight. -/
namespace Go.Proofs.YtjlfcbccpcigeacDoor
set_option linter.unusedVariables false

section
variable (L : Lp) (t : Tg) (K : Kn) (O : List Int)
end
variable {L : Lp} {t : Tg} {K : Kn} {O : List Int} {B M : List (List Int)} {R : List Int}
end Go.Proofs.YtjlfcbccpcigeacDoor
/- I1: the kernel of a plan, as the document says it; that it may be; and that results far enough apart are taken, if each turn is over when the next one begins; no Go in sight. -/
namespace Go.Proofs.YtjlfcbccpcigeacDoor
set_option linter.unusedVariables false

section
variable (L : Lp) (t : Tg) (P : Int) (T D : List Int)
end
variable {L : Lp} {t : Tg} {P : Int} {T D : List Int}
end Go.Proofs.YtjlfcbccpcigeacDoor
