/- RegsB: texts that are built as one: RegsRows, RegsCount, RegsPut, RegsFill, RegsFinder, RegsPlaces. -/
import Derived.Test.YtghlcmljgpkjiabGreatRegsA
import Derived.Test.YtghlcmljgpkjiabGreatBase
import Derived.Maps.AppendAt
import Derived.Deep.AppendLies
/- Where a finder stands in memory, and what stores leave of it; package regs' count, put, takeOut, free, tightest. -/
namespace Go.Proofs.YtghlcmljgpkjiabGreat
open Go.RowKit Go.Joins
set_option linter.unusedVariables false
set_option linter.unusedSimpArgs false
set_option maxRecDepth 8192

structure Fc where
  b : Bc
  fb : Nat
  ib : Nat
  pb : Nat
  ka : Nat
  kc : Nat
  kb : Nat → Nat
def finC (c : Fc) (k : Int) (i : Nat) : Value := if i = 0 then .slice (some ⟨c.b.ob, 0, none⟩) c.b.n c.b.n else if i = 1 then .slice (some ⟨c.ib, 0, none⟩) c.b.n c.b.n else if i = 2 then .slice (some ⟨c.pb, 0, none⟩) c.b.n c.b.n else if i = 3 then .slice (some ⟨c.ka, 0, none⟩) c.b.n c.kc else .int .i64 k
structure FRows (c : Fc) (base : Nat) (B : Nat → Nat → Nat → Bool) (I : Nat → Bool) (Q : Nat → Int) (C : Nat → Nat → Int) (k : Int) (x : World) : Prop where
  bars : BarsV c.b base B x
  fin : RowF x c.fb 144 5 (finC c k)
  ir : RowF x c.ib 4 c.b.n (fun i => .bool (I i))
  pr : RowF x c.pb 3 c.b.n (fun i => .int .i64 (Q i))
  kr : RowF x c.ka 22 c.b.n (fun a => .slice (some ⟨c.kb a, 0, none⟩) c.b.R c.b.R)
  kk : ∀ a, a < c.b.n → RowF x (c.kb a) 3 c.b.R (fun p => .int .i64 (C a p))
  ibn : ∀ a m, a < c.b.n → m < c.b.n → c.ib ≠ c.b.cb a m
  pbn : ∀ a, a < c.b.n → c.pb ≠ c.kb a
  kinj : ∀ a a', a < c.b.n → a' < c.b.n → c.kb a = c.kb a' → a = a'
  ge : base ≤ c.fb ∧ base ≤ c.ib ∧ base ≤ c.pb ∧ base ≤ c.ka
  gek : ∀ a, a < c.b.n → base ≤ c.kb a
  cap : c.b.n ≤ c.kc ∧ c.kc ≤ 9223372036854775807
variable {c : Fc} {base : Nat} {B : Nat → Nat → Nat → Bool} {I : Nat → Bool} {Q : Nat → Int} {C : Nat → Nat → Int} {k : Int} {x y : World}
theorem ty_f1 : (144 : TypeId) ≠ 4 := by decide
theorem ty_f2 : (144 : TypeId) ≠ 3 := by decide
theorem ty_f3 : (144 : TypeId) ≠ 22 := by decide
theorem ty_i1 : (3 : TypeId) ≠ 4 := by decide
theorem ty_i2 : (3 : TypeId) ≠ 22 := by decide
theorem ty_i3 : (4 : TypeId) ≠ 22 := by decide
theorem FRows.below (h : FRows c base B I Q C k x) (hb : Below x.heap.size x y) : FRows c base B I Q C k y :=
  ⟨h.bars.below hb, h.fin.below hb h.fin.lt, h.ir.below hb h.ir.lt, h.pr.below hb h.pr.lt, h.kr.below hb h.kr.lt, fun a ha => (h.kk a ha).below hb (h.kk a ha).lt, h.ibn, h.pbn, h.kinj, h.ge, h.gek, h.cap⟩
theorem FRows.congr (h : FRows c base B I Q C k x) {C' : Nat → Nat → Int} (hc : ∀ a, a < c.b.n → ∀ p, p < c.b.R → C a p = C' a p) : FRows c base B I Q C' k x :=
  ⟨h.bars, h.fin, h.ir, h.pr, h.kr, fun a ha => (h.kk a ha).congr fun p hp => by rw [hc a ha p hp], h.ibn, h.pbn, h.kinj, h.ge, h.gek, h.cap⟩
theorem FRows.fields (h : FRows c base B I Q C k x) : x.cell? ⟨c.fb, 0, none⟩ = some (.slice (some ⟨c.b.ob, 0, none⟩) c.b.n c.b.n) ∧ x.cell? ⟨c.fb, 1, none⟩ = some (.slice (some ⟨c.ib, 0, none⟩) c.b.n c.b.n) ∧ x.cell? ⟨c.fb, 2, none⟩ = some (.slice (some ⟨c.pb, 0, none⟩) c.b.n c.b.n) ∧ x.cell? ⟨c.fb, 3, none⟩ = some (.slice (some ⟨c.ka, 0, none⟩) c.b.n c.kc) ∧ x.cell? ⟨c.fb, 4, none⟩ = some (.int .i64 k) :=
  ⟨h.fin.cell (by decide), h.fin.cell (by decide), h.fin.cell (by decide), h.fin.cell (by decide), h.fin.cell (by decide)⟩
theorem FRows.setIn (h : FRows c base B I Q C k x) {a : Nat} (ha : a < c.b.n) (b : Bool) : FRows c base B (upB I a b) Q C k (x.setCell ⟨c.ib, a, none⟩ (.bool b)) ∧ Below base x (x.setCell ⟨c.ib, a, none⟩ (.bool b)) := by
  refine ⟨⟨h.bars.otherB h.ir h.ibn _ _, h.fin.setOther (h.fin.apart h.ir ty_f1) _, (h.ir.set a (.bool b) ha).congr fun i _ => ?_, h.pr.setOther (h.pr.apart h.ir ty_i1) _, h.kr.setOther (h.ir.apart h.kr ty_i3).symm _, fun q hq => (h.kk q hq).setOther ((h.kk q hq).apart h.ir ty_i1) _, h.ibn, h.pbn, h.kinj, h.ge, h.gek, h.cap⟩, (Below.refl _ _).setCell h.ge.2.1 _⟩
  unfold upB
  by_cases e : i = a
  · rw [if_pos e, if_pos e]
  · rw [if_neg e, if_neg e]
theorem ty_ib : (3 : TypeId) ≠ 141 := by decide
theorem ty_ibb : (3 : TypeId) ≠ 184 := by decide
theorem ty_fb : (144 : TypeId) ≠ 141 := by decide
theorem ty_fbb : (144 : TypeId) ≠ 184 := by decide
theorem FRows.setQ (h : FRows c base B I Q C k x) {a : Nat} (ha : a < c.b.n) (v : Int) : FRows c base B I (upI Q a v) C k (x.setCell ⟨c.pb, a, none⟩ (.int .i64 v)) ∧ Below base x (x.setCell ⟨c.pb, a, none⟩ (.int .i64 v)) := by
  refine ⟨⟨h.bars.other h.pr ty_i1 ty_ib ty_ibb _ _, h.fin.setOther (h.fin.apart h.pr ty_f2) _, h.ir.setOther (h.pr.apart h.ir ty_i1).symm _, (h.pr.set a (.int .i64 v) ha).congr fun i _ => ?_, h.kr.setOther (h.pr.apart h.kr ty_i2).symm _, fun q hq => (h.kk q hq).setOther (h.pbn q hq).symm _, h.ibn, h.pbn, h.kinj, h.ge, h.gek, h.cap⟩, (Below.refl _ _).setCell h.ge.2.2.1 _⟩
  unfold upI
  by_cases e : i = a
  · rw [if_pos e, if_pos e]
  · rw [if_neg e, if_neg e]
theorem FRows.setK (h : FRows c base B I Q C k x) (v : Int) : FRows c base B I Q C v (x.setCell ⟨c.fb, 4, none⟩ (.int .i64 v)) ∧ Below base x (x.setCell ⟨c.fb, 4, none⟩ (.int .i64 v)) := by
  refine ⟨⟨h.bars.other h.fin ty_f1 ty_fb ty_fbb _ _, (h.fin.set 4 (.int .i64 v) (by decide)).congr fun i hi => ?_, h.ir.setOther (h.fin.apart h.ir ty_f1).symm _, h.pr.setOther (h.fin.apart h.pr ty_f2).symm _, h.kr.setOther (h.fin.apart h.kr ty_f3).symm _, fun q hq => (h.kk q hq).setOther (h.fin.apart (h.kk q hq) ty_f2).symm _, h.ibn, h.pbn, h.kinj, h.ge, h.gek, h.cap⟩, (Below.refl _ _).setCell h.ge.1 _⟩
  by_cases e : i = 4
  · rw [if_pos e, e]; rfl
  · rw [if_neg e]
    unfold finC
    obtain rfl | rfl | rfl | rfl : i = 0 ∨ i = 1 ∨ i = 2 ∨ i = 3 := by omega
    all_goals rfl
def upK (C : Nat → Nat → Int) (a p : Nat) (v : Int) : Nat → Nat → Int := fun a' p' => if a' = a ∧ p' = p then v else C a' p'
theorem FRows.setC (h : FRows c base B I Q C k x) {a p : Nat} (ha : a < c.b.n) (hp : p < c.b.R) (v : Int) : FRows c base B I Q (upK C a p v) k (x.setCell ⟨c.kb a, p, none⟩ (.int .i64 v)) ∧ Below base x (x.setCell ⟨c.kb a, p, none⟩ (.int .i64 v)) := by
  have hr := h.kk a ha
  refine ⟨⟨h.bars.other hr ty_i1 ty_ib ty_ibb _ _, h.fin.setOther (h.fin.apart hr ty_f2) _, h.ir.setOther (hr.apart h.ir ty_i1).symm _, h.pr.setOther (h.pbn a ha) _, h.kr.setOther (hr.apart h.kr ty_i2).symm _, fun q hq => ?_, h.ibn, h.pbn, h.kinj, h.ge, h.gek, h.cap⟩, (Below.refl _ _).setCell (h.gek a ha) _⟩
  by_cases e : q = a
  · subst e
    refine (hr.set p (.int .i64 v) hp).congr fun i _ => ?_
    unfold upK
    by_cases e2 : i = p
    · rw [if_pos e2, if_pos ⟨rfl, e2⟩]
    · rw [if_neg e2, if_neg (fun h => e2 h.2)]
  · refine ((h.kk q hq).setOther (fun e2 => e (h.kinj q a hq ha e2)) _).congr fun i _ => ?_
    unfold upK
    rw [if_neg (fun h => e h.1)]
/-- counting, half way -/
def upD (R : Int) (B : Nat → Nat → Nat → Bool) (C : Nat → Nat → Int) (m : Nat) (q by' : Int) (at' o : Nat) : Nat → Nat → Int := fun a p => if a < at' ∨ (a = at' ∧ (((p : Int) - q) % R).toNat < o) then upC R B C m q by' a p else C a p
theorem rest_at {q : Int} {R o d p : Nat} (ho : o < R) (hp : p < R) (h : (q + o) % (R : Int) = d) : (((p : Int) - q) % (R : Int)).toNat = o ↔ p = d := by
  have h0 := Int.emod_nonneg ((p : Int) - q) (show (R : Int) ≠ 0 by omega)
  have h1 := Int.emod_add_mul_ediv ((p : Int) - q) R
  have h2 := Int.emod_add_mul_ediv (q + o) R
  constructor
  · intro e
    have e1 : ((p : Int) - q) % (R : Int) = o := by omega
    have e2 : (p : Int) = (q + o) + R * (((p : Int) - q) / R) := by omega
    have e3 : (p : Int) % R = (q + o) % R := by rw [e2, Int.add_mul_emod_self_left]
    rw [Int.emod_eq_of_lt (by omega) (by omega), h] at e3
    omega
  · rintro rfl
    have e2 : (p : Int) - q = o + R * (-((q + o) / R)) := by rw [Int.mul_neg]; omega
    rw [e2, Int.add_mul_emod_self_left, Int.emod_eq_of_lt (by omega) (by omega)]
    omega
theorem upD_zero {R m q by'} (a p : Nat) : C a p = upD R B C m q by' 0 0 a p := by unfold upD; rw [if_neg (by omega)]
theorem upD_row {R : Nat} {m : Nat} {q by' : Int} {at' : Nat} (hR : 1 ≤ R) (a p : Nat) : upD R B C m q by' at' R a p = upD R B C m q by' (at' + 1) 0 a p := by
  unfold upD
  have h1 := Int.emod_lt_of_pos ((p : Int) - q) (show 0 < (R : Int) by omega)
  by_cases e : a < at' + 1
  · rw [if_pos (by omega), if_pos (.inl e)]
  · rw [if_neg (by omega), if_neg (by omega)]
theorem upD_end {R : Int} {m : Nat} {q by' : Int} {n a : Nat} (ha : a < n) (p : Nat) : upD R B C m q by' n 0 a p = upC R B C m q by' a p := by unfold upD; rw [if_pos (.inl ha)]
theorem upD_no {R : Nat} {m : Nat} {q by' : Int} {at' o : Nat} (hB : B at' m o = false) (a p : Nat) : upD R B C m q by' at' o a p = upD R B C m q by' at' (o + 1) a p := by
  unfold upD
  by_cases e : a < at' ∨ (a = at' ∧ (((p : Int) - q) % (R : Int)).toNat < o)
  · rw [if_pos e, if_pos (by omega)]
  · rw [if_neg e]
    by_cases e2 : a < at' ∨ (a = at' ∧ (((p : Int) - q) % (R : Int)).toNat < o + 1)
    · rw [if_pos e2]
      unfold upC
      have e3 : a = at' ∧ (((p : Int) - q) % (R : Int)).toNat = o := by omega
      rw [e3.2, e3.1, if_neg (by rw [hB]; simp)]
    · rw [if_neg e2]
theorem upD_yes {R : Nat} {m : Nat} {q by' : Int} {at' o d : Nat} (ho : o < R) (hB : B at' m o = true) (hd : (q + o) % (R : Int) = d) (a p : Nat) (hp : p < R) : upK (upD R B C m q by' at' o) at' d (C at' d + by') a p = upD R B C m q by' at' (o + 1) a p := by
  unfold upK
  have hr := rest_at ho hp hd
  by_cases e : a = at' ∧ p = d
  · rw [if_pos e]
    unfold upD upC
    have e2 := hr.2 e.2
    rw [if_pos (by omega), e.1, e2, hB, if_pos rfl, e.2]
  · rw [if_neg e]
    unfold upD
    by_cases e2 : a < at' ∨ (a = at' ∧ (((p : Int) - q) % (R : Int)).toNat < o)
    · rw [if_pos e2, if_pos (by omega)]
    · have e3 : ¬ (a < at' ∨ (a = at' ∧ (((p : Int) - q) % (R : Int)).toNat < o + 1)) := by
        intro h
        have : a = at' ∧ (((p : Int) - q) % (R : Int)).toNat = o := by omega
        exact e ⟨this.1, hr.1 this.2⟩
      rw [if_neg e2, if_neg e3]
theorem upD_at {R : Nat} {m : Nat} {q by' : Int} {at' o d : Nat} (ho : o < R) (hd : (q + o) % (R : Int) = d) (hdl : d < R) : upD R B C m q by' at' o at' d = C at' d := by
  unfold upD
  have := (rest_at ho hdl hd).2 rfl
  rw [if_neg (by omega)]
end Go.Proofs.YtghlcmljgpkjiabGreat
/- Package regs' count, put, takeOut. -/
namespace Go.Proofs.YtghlcmljgpkjiabGreat
open Go.RowKit Go.Joins
set_option linter.unusedVariables false
set_option linter.unusedSimpArgs false
set_option maxRecDepth 8192
variable {c : Fc} {base : Nat} {B : Nat → Nat → Nat → Bool} {I : Nat → Bool} {Q : Nat → Int} {C : Nat → Nat → Int} {k : Int}

def FinP (c : Fc) (base : Nat) (B : Nat → Nat → Nat → Bool) (I : Nat → Bool) (Q : Nat → Int) (C : Nat → Nat → Int) (k : Int) (w : World) (e : Ending) (w' : World) : Prop := e = .returned (.tuple #[]) ∧ FRows c base B I Q C k w' ∧ Below base w w'
structure FcOk (c : Fc) : Prop where
  n1 : 1 ≤ c.b.n
  n2 : c.b.n ≤ 16
  r1 : 1 ≤ c.b.R
  r2 : c.b.R ≤ 128
set_option maxHeartbeats 8000000 in
theorem count_any (m : Nat) (by' : Int) (w : World) (ok : FcOk c) (h : FRows c base B I Q C k w) (hm : m < c.b.n) (hb1 : -1 ≤ by') (hb2 : by' ≤ 1) (hC : ∀ a, a < c.b.n → ∀ p, p < c.b.R → -100 ≤ C a p ∧ C a p ≤ 100) (hQ : 0 ≤ Q m ∧ Q m < c.b.R) :
    Calls Tryz.prog 116 #[.pointer (some ⟨c.fb, 0, none⟩), .int .i64 m, .int .i64 by'] w fun e w' => FinP c base B I Q (upC c.b.R B C m (Q m) by') k w e w' := by
  obtain ⟨n1, n2, r1, r2⟩ := ok
  obtain ⟨f0, f1, f2, f3, f4⟩ := h.fields
  have hfz := h.fin.lt
  obtain ⟨hc1, hc2⟩ := h.cap
  have hmi : (m : Int) < (c.b.n : Int) := by omega
  have HC := hide hC
  have HST : Hid (FRows c base B I Q (upD c.b.R B C m (Q m) by' 0 0) k w) := h.congr fun a ha p hp => upD_zero _ _
  have HROW : Hid (∀ (a : Nat) W, FRows c base B I Q (upD c.b.R B C m (Q m) by' a c.b.R) k W → FRows c base B I Q (upD c.b.R B C m (Q m) by' (a + 1) 0) k W) := fun a W hW => hW.congr fun a' _ p _ => upD_row r1 _ _
  have HEND : Hid (∀ W, FRows c base B I Q (upD c.b.R B C m (Q m) by' c.b.n 0) k W → Below base w W → FinP c base B I Q (upC c.b.R B C m (Q m) by') k w (.returned (.tuple #[])) W) := fun W hW hb => ⟨rfl, hW.congr fun a' ha' p _ => upD_end ha' _, hb⟩
  have HNO : Hid (∀ (a o : Nat) W, B a m o = false → FRows c base B I Q (upD c.b.R B C m (Q m) by' a o) k W → FRows c base B I Q (upD c.b.R B C m (Q m) by' a (o + 1)) k W) := fun a o W hB hW => hW.congr fun a' _ p _ => upD_no hB _ _
  have HYES : Hid (∀ (a o d : Nat) W, a < c.b.n → o < c.b.R → d < c.b.R → B a m o = true → (Q m + o) % (c.b.R : Int) = d → FRows c base B I Q (upD c.b.R B C m (Q m) by' a o) k W → FRows c base B I Q (upD c.b.R B C m (Q m) by' a (o + 1)) k (W.setCell ⟨c.kb a, d, none⟩ (.int .i64 (C a d + by'))) ∧ Below base W (W.setCell ⟨c.kb a, d, none⟩ (.int .i64 (C a d + by'))) ∧ upD c.b.R B C m (Q m) by' a o a d = C a d) := fun a o d W ha ho hd hB hr hW => by
    obtain ⟨g1, g2⟩ := hW.setC ha hd (C a d + by')
    exact ⟨g1.congr fun a' _ p hp => upD_yes ho hB hr _ _ hp, g2, upD_at ho hr hd⟩
  clear h hC
  obtain ⟨q, hq⟩ : ∃ q, Q m = q := ⟨_, rfl⟩
  rw [hq] at hQ HYES HST HROW HEND HNO ⊢
  have HQE := hide hq
  clear hq
  obtain ⟨q1, q2⟩ := hQ
  go_enter Tryz.func116, Tryz.ntmps116
  go_wp2_with fail
  clear f0 f1 f2 f3 f4 hfz
  go_loopw [15] (fun av wr => ∃ a : Nat, a ≤ c.b.n ∧ av = .int .i64 a ∧ FRows c base B I Q (upD c.b.R B C m q by' a 0) k wr ∧ Below base w wr) (fun av _ => c.b.n - (intOf av).toNat)
  case atStart => exact ⟨0, Nat.zero_le _, rfl, HST.out, Below.refl _ _⟩
  case round =>
    clear HST
    obtain ⟨a, ha, rfl, hF, hbel⟩ := hrel
    have HF := hide hF
    have HB := hide hbel
    clear hbel
    by_cases hal : a < c.b.n
    · have hai : (a : Int) < (c.b.n : Int) := by omega
      obtain ⟨f0, f1, f2, f3, f4⟩ := hF.fields
      have hfz := hF.fin.lt
      have k1 := hF.kr.cell hal
      have kz := hF.kr.lt
      have o1 := hF.bars.o.cell hal
      have oz := hF.bars.o.lt
      have r3 := (hF.bars.r a hal).cell hm
      have rz := (hF.bars.r a hal).lt
      clear hF
      rename World => wo
      go_wp2_with fail
      clear f0 f1 f2 f3 f4 hfz k1 kz o1 oz r3 rz
      go_loopw [36] (fun ov wr => ∃ o : Nat, o ≤ c.b.R ∧ ov = .int .i64 o ∧ FRows c base B I Q (upD c.b.R B C m q by' a o) k wr ∧ Below base w wr) (fun ov _ => c.b.R - (intOf ov).toNat)
      case atStart => exact ⟨0, Nat.zero_le _, rfl, HF.out, HB.out⟩
      case round =>
        clear HF HB
        obtain ⟨o, ho, rfl, hF, hbel⟩ := hrel
        have HF := hide hF
        have HB := hide hbel
        clear hbel
        by_cases hol : o < c.b.R
        · have hoi : (o : Int) < (c.b.R : Int) := by omega
          have e1 := (hF.bars.cc a m hal hm).cell hol
          have ez := (hF.bars.cc a m hal hm).lt
          obtain ⟨bo, hbo⟩ : ∃ bo, B a m o = bo := ⟨_, rfl⟩
          rw [hbo] at e1
          cases bo with
          | false =>
            have HN := hide (HNO.out a o wr hbo hF)
            clear hF hbo
            go_wp2_with fail
            go_roundw
            case rel => exact ⟨o + 1, by omega, by go_num, HN.out, HB.out⟩
            case measure => simp [intOf]; omega
          | true =>
            obtain ⟨d, hd⟩ : ∃ d : Nat, (q + o) % (c.b.R : Int) = d := ⟨((q + o) % (c.b.R : Int)).toNat, by have := Int.emod_nonneg (q + o) (show (c.b.R : Int) ≠ 0 by omega); omega⟩
            have hdl : (d : Int) < (c.b.R : Int) := by rw [← hd]; exact Int.emod_lt_of_pos _ (by omega)
            obtain ⟨y1, y2, y3⟩ := HYES.out a o d wr hal hol (by omega) hbo hd hF
            have HL := hide (fun W => rleft_any (q + o) c.b.R d W (by omega) (by omega) (by omega) (by omega) hd)
            obtain ⟨f0, f1, f2, f3, f4⟩ := hF.fields
            have hfz := hF.fin.lt
            have p1 := hF.pr.cell hm
            have pz := hF.pr.lt
            have kd := (hF.kk a hal).cell (show d < c.b.R by omega)
            have kf := (hF.kk a hal).frozen d
            have kz := (hF.kk a hal).lt
            rw [y3] at kd
            rw [HQE.out] at p1
            obtain ⟨u1, u2⟩ := HC.out a hal d (by omega)
            have hw1 : wrap64 (q + o) = q + o := by unfold wrap64; omega
            have hw2 : wrap64 (C a d + by') = C a d + by' := by unfold wrap64; omega
            have HY1 := hide y1
            have HY2 := hide (HB.out.trans y2)
            clear y1 y2 y3 hF hbo hd u1 u2
            generalize C a d = cd at *
            go_wp2_with fail
            refine (HL.out _).mono ?_
            rintro e x2 ⟨rfl, rfl⟩
            go_wp2_with fail
            go_roundw
            case rel => exact ⟨o + 1, by omega, by go_num, HY1.out, HY2.out⟩
            case measure => simp [intOf]; omega
        · have e : o = c.b.R := by omega
          have hoi : ¬ (o : Int) < (c.b.R : Int) := by omega
          have HR := hide (HROW.out a wr (by rw [e] at hF; exact hF))
          clear hF e
          go_wp2_with fail
          go_roundw
          case rel => exact ⟨a + 1, by omega, by go_num, HR.out, HB.out⟩
          case measure => simp [intOf]; omega
    · have e : a = c.b.n := by omega
      have hai : ¬ (a : Int) < (c.b.n : Int) := by omega
      have HP := hide (HEND.out wr (by rw [e] at hF; exact hF) HB.out)
      clear hF e
      go_wp2_with fail
      go_end0
      exact HP.out
end Go.Proofs.YtghlcmljgpkjiabGreat
/- Package regs' put, takeOut, free, tightest. -/
namespace Go.Proofs.YtghlcmljgpkjiabGreat
open Go.RowKit Go.Joins
set_option linter.unusedVariables false
set_option linter.unusedSimpArgs false
set_option maxRecDepth 8192
variable {c : Fc} {base : Nat} {B : Nat → Nat → Nat → Bool} {I : Nat → Bool} {Q : Nat → Int} {C : Nat → Nat → Int} {k : Int}

theorem take_any (a : Nat) (w : World) (ok : FcOk c) (h : FRows c base B I Q C k w) (ha : a < c.b.n) (hC : ∀ a, a < c.b.n → ∀ p, p < c.b.R → -100 ≤ C a p ∧ C a p ≤ 100) (hQ : 0 ≤ Q a ∧ Q a < c.b.R) :
    Calls Tryz.prog 118 #[.pointer (some ⟨c.fb, 0, none⟩), .int .i64 a] w fun e w' => FinP c base B (upB I a false) Q (upC c.b.R B C a (Q a) (-1)) k w e w' := by
  obtain ⟨g1, g2⟩ := h.setIn ha false
  have HC := hide (count_any a (-1) _ ok g1 ha (by decide) (by decide) hC hQ)
  have HB := hide g2
  obtain ⟨f0, f1, f2, f3, f4⟩ := h.fields
  have hfz := h.fin.lt
  have i1 := h.ir.cell ha
  have i2 := h.ir.frozen a
  have iz := h.ir.lt
  have hai : (a : Int) < (c.b.n : Int) := by omega
  have hn2 := ok.n2
  clear h g1 g2 hC hQ ok
  go_enter Tryz.func118, Tryz.ntmps118
  go_wp2_with fail
  refine HC.out.mono ?_
  rintro e x2 ⟨rfl, hF, hb⟩
  have HF := hide hF
  have HB2 := hide (HB.out.trans hb)
  clear hF hb HC
  go_wp2_with fail
  go_end0
  exact ⟨rfl, HF.out, HB2.out⟩
set_option maxHeartbeats 4000000 in
theorem put_any (a p : Nat) (w : World) (ok : FcOk c) (h : FRows c base B I Q C k w) (ha : a < c.b.n) (hp : p < c.b.R) (hk0 : 0 ≤ k) (hk1 : k ≤ 1000) (hC : ∀ a, a < c.b.n → ∀ p, p < c.b.R → -100 ≤ C a p ∧ C a p ≤ 100) :
    Calls Tryz.prog 80 #[.pointer (some ⟨c.fb, 0, none⟩), .int .i64 a, .int .i64 p] w fun e w' => FinP c base B (upB I a true) (upI Q a p) (upC c.b.R B C a p 1) (k + 1) w e w' := by
  obtain ⟨g1, g2⟩ := h.setK (k + 1)
  obtain ⟨f0, f1, f2, f3, f4⟩ := h.fields
  have hfz := h.fin.lt
  have hff := h.fin.frozen 4
  have hai : (a : Int) < (c.b.n : Int) := by omega
  have hpi : (p : Int) < (c.b.R : Int) := by omega
  have hn2 := ok.n2
  have HG1 := hide g1
  have HG2 := hide g2
  have HOK := hide ok
  have HHC := hide hC
  have hw1 : wrap64 (k + 1) = k + 1 := by unfold wrap64; omega
  clear h g1 g2 ok hC
  go_enter Tryz.func80, Tryz.ntmps80
  go_wp2_with fail
  clear f0 f1 f2 f3 f4 hfz hff
  generalize w.setCell ⟨c.fb, 4, none⟩ (.int .i64 (k + 1)) = y at *
  obtain ⟨f0, f1, f2, f3, f4⟩ := HG1.out.fields
  have hfz := HG1.out.fin.lt
  have i1 := HG1.out.ir.cell ha
  have i2 := HG1.out.ir.frozen a
  have iz := HG1.out.ir.lt
  have p1 := HG1.out.pr.cell ha
  have p2 := HG1.out.pr.frozen a
  have pz := HG1.out.pr.lt
  have hne : ¬ c.ib = c.pb := (HG1.out.pr.apart HG1.out.ir ty_i1).symm
  have hne2 : ¬ c.pb = c.ib := HG1.out.pr.apart HG1.out.ir ty_i1
  obtain ⟨g3, g4⟩ := HG1.out.setIn ha true
  obtain ⟨g5, g6⟩ := g3.setQ ha p
  have HG5 := hide g5
  have HG6 := hide (g4.trans g6)
  clear g3 g4 g5 g6
  have HC := hide (count_any a 1 _ HOK.out (HG5.out.below (below_draws _ _ 1)) ha (by decide) (by decide) HHC.out (by simp only [upI, if_true]; omega))
  have hqa : upI Q a p a = p := by unfold upI; rw [if_pos rfl]
  rw [hqa] at HC
  have HB9 := hide (HG2.out.trans (HG6.out.trans (below_draws base _ 1)))
  clear hqa HG5 HG6 HG1 HG2 HHC HOK
  go_region
  go_wp2_with fail
  refine HC.out.mono ?_
  rintro e x2 ⟨rfl, hF, hb⟩
  have HF := hide hF
  have HB2 := hide (HB9.out.trans hb)
  clear hF hb HC HB9
  go_wp2_with fail
  go_end0
  exact ⟨rfl, HF.out, HB2.out⟩
def FreeP (R : Nat) (w : World) (e : Ending) (w' : World) : Prop := ∃ v : Nat, v ≤ R ∧ e = .returned (.int .i64 v) ∧ w' = w
set_option maxHeartbeats 4000000 in
theorem free_any (a : Nat) (w : World) (ok : FcOk c) (h : FRows c base B I Q C k w) (ha : a < c.b.n) (hC : ∀ p, p < c.b.R → -100 ≤ C a p ∧ C a p ≤ 100) :
    Calls Tryz.prog 146 #[.pointer (some ⟨c.fb, 0, none⟩), .int .i64 a] w fun e w' => FreeP c.b.R w e w' := by
  obtain ⟨f0, f1, f2, f3, f4⟩ := h.fields
  have hfz := h.fin.lt
  have hai : (a : Int) < (c.b.n : Int) := by omega
  have k1 := h.kr.cell ha
  have kz := h.kr.lt
  obtain ⟨hc1, hc2⟩ := h.cap
  have HK := hide (h.kk a ha)
  have HC := hide hC
  have hn2 := ok.n2
  have hr2 := ok.r2
  clear h hC ok
  go_enter Tryz.func146, Tryz.ntmps146
  go_wp2_with fail
  clear f0 f1 f2 f3 f4 k1 kz
  go_loopw [5, 16] (fun fv pv wr => ∃ p v : Nat, p ≤ c.b.R ∧ v ≤ p ∧ pv = .int .i64 p ∧ fv = .int .i64 v ∧ wr = w) (fun _ pv _ => c.b.R - (intOf pv).toNat)
  case atStart => exact ⟨0, 0, Nat.zero_le _, Nat.le_refl _, rfl, rfl, rfl⟩
  case round =>
    obtain ⟨p, v, hp, hv, rfl, rfl, hw⟩ := hrel
    subst hw
    by_cases hpl : p < c.b.R
    · have hpi : (p : Int) < (c.b.R : Int) := by omega
      have kc := HK.out.cell hpl
      have kz := HK.out.lt
      obtain ⟨u1, u2⟩ := HC.out p hpl
      generalize C a p = cc at *
      by_cases hz : cc = 0
      · subst hz
        go_wp2_with fail
        go_roundw
        case rel => exact ⟨p + 1, v + 1, by omega, by omega, by go_num, by go_num, by trivial⟩
        case measure => simp [intOf]; omega
      · have hzb : (cc == 0) = false := by simp [hz]
        go_wp2_with fail
        go_roundw
        case rel => exact ⟨p + 1, v, by omega, by omega, by go_num, rfl, by trivial⟩
        case measure => simp [intOf]; omega
    · have hpi : ¬ (p : Int) < (c.b.R : Int) := by omega
      go_wp2_with fail
      go_ret
      exact ⟨v, by omega, rfl, rfl⟩
def TightP (c : Fc) (I : Nat → Bool) (w : World) (e : Ending) (w' : World) : Prop := ∃ (fd : Nat) (lf : Bool), e = .returned (.tuple #[.int .i64 fd, .bool lf]) ∧ fd < c.b.n ∧ (lf = false → ∀ j, j < c.b.n → I j = true) ∧ (lf = true → I fd = false) ∧ w' = w
set_option maxHeartbeats 4000000 in
theorem tight_any (w : World) (ok : FcOk c) (h : FRows c base B I Q C k w) (hC : ∀ a, a < c.b.n → ∀ p, p < c.b.R → -100 ≤ C a p ∧ C a p ≤ 100) :
    Calls Tryz.prog 117 #[.pointer (some ⟨c.fb, 0, none⟩)] w fun e w' => TightP c I w e w' := by
  obtain ⟨f0, f1, f2, f3, f4⟩ := h.fields
  have hfz := h.fin.lt
  have HI := hide h.ir
  have HFR := hide (fun a (ha : a < c.b.n) => free_any a w ok h ha (hC a ha))
  have hn1 := ok.n1
  have hn2 := ok.n2
  have hr2 := ok.r2
  clear h hC ok f0 f2 f3 f4
  go_enter Tryz.func117, Tryz.ntmps117
  go_wp2_with fail
  go_loopw [4, 5, 6, 14] (fun fv nv lv i wr => ∃ (q fd fw : Nat) (lf : Bool), q ≤ c.b.n ∧ i = .int .i64 q ∧ fv = .int .i64 fd ∧ nv = .int .i64 fw ∧ lv = .bool lf ∧ fd < c.b.n ∧ fw ≤ 128 ∧ (lf = false → ∀ j, j < q → I j = true) ∧ (lf = true → I fd = false) ∧ wr = w) (fun _ _ _ i _ => c.b.n - (intOf i).toNat)
  case atStart => exact ⟨0, 0, 0, false, Nat.zero_le _, rfl, rfl, rfl, rfl, by omega, by omega, fun _ j hj => absurd hj (Nat.not_lt_zero _), fun h => absurd h (by simp), rfl⟩
  case round =>
    obtain ⟨q, fd, fw, lf, hq, rfl, rfl, rfl, rfl, hfd, hfw, hno, hyes, hw⟩ := hrel
    subst hw
    have HNO := hide hno
    have HYES := hide hyes
    clear hno hyes
    by_cases hql : q < c.b.n
    · have hqi : (q : Int) < (c.b.n : Int) := by omega
      have i1 := HI.out.cell hql
      have iz := HI.out.lt
      have HF := hide (HFR.out q hql)
      obtain ⟨ik, hik⟩ : ∃ ik, I q = ik := ⟨_, rfl⟩
      rw [hik] at i1
      have HIK := hide hik
      clear hik
      cases ik with
      | true =>
        go_wp2_with fail
        go_roundw
        case rel =>
          refine ⟨q + 1, fd, fw, lf, by omega, by go_num, rfl, rfl, rfl, hfd, hfw, fun h j hj => ?_, HYES.out, by trivial⟩
          by_cases e : j = q
          · rw [e]; exact HIK.out
          · exact HNO.out h j (by omega)
        case measure => simp [intOf]; omega
      | false =>
        go_wp2_with fail
        refine HF.out.mono ?_
        rintro e x2 ⟨v, hv, rfl, hx⟩
        have hx := hx.symm
        subst hx
        cases lf with
        | false =>
          go_wp2_with fail
          go_roundw
          case rel => exact ⟨q + 1, q, v, true, by omega, by go_num, rfl, rfl, rfl, hql, by omega, fun h => absurd h (by simp), fun _ => HIK.out, by trivial⟩
          case measure => simp [intOf]; omega
        | true =>
          by_cases hgt : (v : Int) < (fw : Int)
          · have hgt2 : v < fw := by omega
            go_wp2_with fail
            go_roundw
            case rel => exact ⟨q + 1, q, v, true, by omega, by go_num, rfl, rfl, rfl, hql, by omega, fun h => absurd h (by simp), fun _ => HIK.out, by trivial⟩
            case measure => simp [intOf]; omega
          · have hgt2 : ¬ v < fw := by omega
            go_wp2_with fail
            go_roundw
            case rel => exact ⟨q + 1, fd, fw, true, by omega, by go_num, rfl, rfl, rfl, hfd, hfw, fun h => absurd h (by simp), fun _ => by first | exact HYES.out rfl | exact HYES.out trivial, by trivial⟩
            case measure => simp [intOf]; omega
    · have hqi : ¬ (q : Int) < (c.b.n : Int) := by omega
      have HP : Hid (TightP c I wr (.returned (.tuple #[.int .i64 fd, .bool lf])) wr) := ⟨fd, lf, rfl, hfd, fun h j hj => HNO.out h j (by omega), HYES.out, rfl⟩
      go_wp2_with fail
      exact bodyPost_ret (v := .tuple #[.int .i64 fd, .bool lf]) (by simp [results, Tryz.results117, go_sem]) rfl HP.out
end Go.Proofs.YtghlcmljgpkjiabGreat
/- Package regs' fill: a search that goes back; whatever it finds keeps all distances, and it finds where no distance beyond 3 is barred. -/
namespace Go.Proofs.YtghlcmljgpkjiabGreat
open Go.RowKit Go.Joins
set_option linter.unusedVariables false
set_option linter.unusedSimpArgs false
set_option maxRecDepth 8192
variable {c : Fc} {base : Nat} {B : Nat → Nat → Nat → Bool}

def FillP (c : Fc) (base : Nat) (B : Nat → Nat → Nat → Bool) (I : Nat → Bool) (E : Prop) (w : World) (e : Ending) (w' : World) : Prop :=
  ∃ (b : Bool) (I' : Nat → Bool) (Q' : Nat → Int) (C' : Nat → Nat → Int) (k' : Int), e = .returned (.bool b) ∧ FRows c base B I' Q' C' k' w' ∧ FOk c.b.n c.b.R B I' Q' C' k' ∧ (b = true → ∀ j, j < c.b.n → I' j = true) ∧ (b = false → I' = I) ∧ (E → b = true) ∧ Below base w w'
theorem fok_range (hn : c.b.n ≤ 16) {I : Nat → Bool} {Q : Nat → Int} {C : Nat → Nat → Int} {k : Int} (h : FOk c.b.n c.b.R B I Q C k) : ∀ a, a < c.b.n → ∀ p, p < c.b.R → -100 ≤ C a p ∧ C a p ≤ 100 := fun a ha p hp => by
  have := h.range hn ha (p := p) (by omega)
  omega
set_option maxHeartbeats 16000000 in
theorem fill_any (ok : FcOk c) (hs : SymB c.b.n c.b.R B) : ∀ (d : Nat) (I : Nat → Bool) (Q : Nat → Int) (C : Nat → Nat → Int) (k : Int) (w : World), FRows c base B I Q C k w → FOk c.b.n c.b.R B I Q C k → c.b.n ≤ cnt I c.b.n + d →
    Calls Tryz.prog 81 #[.pointer (some ⟨c.fb, 0, none⟩)] w fun e w' => FillP c base B I (EOk c.b.n c.b.R B I Q k) w e w' := by
  intro d
  induction d using Nat.strongRecOn with
  | _ d ih =>
    intro I Q C k w h hf hd
    have HT := hide (tight_any w ok h (fok_range ok.n2 hf))
    have HIH := hide ih
    have HH := hide h
    have HFO := hide hf
    have HOK := hide ok
    have HS := hide hs
    have HD := hide hd
    have hn2 := ok.n2
    have hr2 := ok.r2
    obtain ⟨E, hE⟩ : ∃ E, EOk c.b.n c.b.R B I Q k = E := ⟨_, rfl⟩
    rw [hE]
    have HEE := hide hE
    clear ih h hf hd ok hs hE
    go_enter Tryz.func81, Tryz.ntmps81
    go_wp2_with fail
    refine HT.out.mono ?_
    rintro e x ⟨fd, lf, rfl, hfd, hno, hyes, hx⟩
    have hx := hx.symm
    subst hx
    cases lf with
    | false =>
      have HP : Hid (FillP c base B I E w (.returned (.bool true)) w) := ⟨true, I, Q, C, k, rfl, HH.out, HFO.out, fun _ => hno rfl, fun h => absurd h (by simp), fun _ => rfl, Below.refl _ _⟩
      clear hno hyes HT
      go_wp2_with fail
      go_ret
      exact HP.out
    | true =>
      have hIf := hyes rfl
      have HIF := hide hIf
      have HD1 : Hid (1 ≤ d ∧ c.b.n ≤ cnt (upB I fd true) c.b.n + (d - 1)) := by
        have h1 := cntI_lt hfd hIf
        have h2 := cntI_put hfd hIf
        have h3 := HD.out
        show _ ∧ _
        omega
      have hfi : (fd : Int) < (c.b.n : Int) := by omega
      obtain ⟨f0, f1, f2, f3, f4⟩ := HH.out.fields
      have hfz := HH.out.fin.lt
      have k1 := HH.out.kr.cell hfd
      have kz := HH.out.kr.lt
      obtain ⟨hc1, hc2⟩ := HH.out.cap
      clear hno hyes hIf HT HD
      go_wp2_with fail
      clear f0 f1 f2 f3 f4 hfz k1 kz
      go_loopw [22] (fun pv wr => ∃ (p : Nat) (Q : Nat → Int) (C : Nat → Nat → Int) (k : Int), p ≤ c.b.R ∧ pv = .int .i64 p ∧ FRows c base B I Q C k wr ∧ FOk c.b.n c.b.R B I Q C k ∧ Below base w wr ∧ (E → EOk c.b.n c.b.R B I Q k ∧ ∀ p', p' < p → C fd p' ≠ 0)) (fun pv _ => c.b.R - (intOf pv).toNat)
      case atStart => exact ⟨0, Q, C, k, Nat.zero_le _, rfl, HH.out, HFO.out, Below.refl _ _, fun hE => ⟨by rw [HEE.out]; exact hE, fun p' hp' => absurd hp' (Nat.not_lt_zero _)⟩⟩
      case round =>
        clear HH HFO HEE Q C k
        obtain ⟨p, Q, C, k, hp, rfl, hF, hO, hbel, hEz⟩ := hrel
        have HF := hide hF
        have HO := hide hO
        have HB := hide hbel
        have HEZ := hide hEz
        clear hbel hEz
        by_cases hpl : p < c.b.R
        · have hpi : (p : Int) < (c.b.R : Int) := by omega
          have kc := (hF.kk fd hfd).cell hpl
          have kz := (hF.kk fd hfd).lt
          obtain ⟨u1, u2⟩ := hO.range hn2 hfd hpi
          obtain ⟨cv, hcv⟩ : ∃ cv, C fd p = cv := ⟨_, rfl⟩
          have HCV := hide hcv
          rw [hcv] at kc u1 u2
          clear hcv
          by_cases hz : 0 < cv
          · have HN : Hid (E → EOk c.b.n c.b.R B I Q k ∧ ∀ p', p' < p + 1 → C fd p' ≠ 0) := fun hE => ⟨(HEZ.out hE).1, fun p' hp' => by
              by_cases e : p' = p
              · rw [e, HCV.out]; omega
              · exact (HEZ.out hE).2 p' (by omega)⟩
            clear hF hO
            go_wp2_with fail
            go_roundw
            case rel => exact ⟨p + 1, Q, C, k, by omega, by go_num, HF.out, HO.out, HB.out, HN.out⟩
            case measure => simp [intOf]; omega
          · have hz0 : cv = 0 := by omega
            subst hz0
            obtain ⟨f0, f1, f2, f3, f4⟩ := hF.fields
            have hfz := hF.fin.lt
            have hk0 := hO.k0
            have hk1 := hO.k1
            clear hF hO u1 u2 hz
            by_cases hk : k = 1000
            · subst hk
              have HP : Hid (FillP c base B I E w (.returned (.bool false)) wr) := ⟨false, I, Q, C, 1000, rfl, HF.out, HO.out, fun h => absurd h (by simp), fun _ => rfl, fun hE => by have := easy_small (HEZ.out hE).1 hn2; omega, HB.out⟩
              go_wp2_with fail
              go_ret
              exact HP.out
            · have hkb : (k == 1000) = false := by simp [hk]
              have HPUT := hide (put_any fd p wr HOK.out HF.out hfd hpl hk0 hk1 (fok_range hn2 HO.out))
              have HO2 := hide (HO.out.put HS.out hfd HIF.out hpi HCV.out (by omega))
              have HE2 : Hid (E → EOk c.b.n c.b.R B (upB I fd true) (upI Q fd p) (k + 1)) := fun hE => by
                obtain ⟨g1, g2⟩ := HEZ.out hE
                obtain ⟨g3, g4⟩ := easy_free HO.out g1 hfd HIF.out
                refine easy_put g1 hfd HIF.out (Nat.le_of_not_lt fun hlt => ?_)
                exact g2 _ hlt g4
              clear hk0 hk1
              go_wp2_with fail
              refine HPUT.out.mono ?_
              rintro e x2 ⟨rfl, hF2, hb2⟩
              have HREC := hide (HIH.out (d - 1) (by have := HD1.out; omega) _ _ _ _ x2 hF2 HO2.out HD1.out.2)
              have HB2 := hide (HB.out.trans hb2)
              clear hF2 hb2 HPUT f0 f1 f2 f3 f4 hfz kc kz
              go_wp2_with fail
              refine HREC.out.mono ?_
              rintro e x3 ⟨b, I3, Q3, C3, k3, rfl, hF3, hO3, hall, hsame, hEb, hb3⟩
              have HF3 := hide hF3
              have HO3 := hide hO3
              have HB3 := hide (HB2.out.trans hb3)
              cases b with
              | true =>
                have HP : Hid (FillP c base B I E w (.returned (.bool true)) x3) := ⟨true, I3, Q3, C3, k3, rfl, HF3.out, HO3.out, fun _ => hall rfl, fun h => absurd h (by simp), fun _ => rfl, HB3.out⟩
                clear hF3 hO3 hall hsame hEb hb3 HREC
                go_wp2_with fail
                go_ret
                exact HP.out
              | false =>
                have hI3 := hsame rfl
                have HNE : Hid (¬ E) := fun hE => by have := hEb (HE2.out hE); simp at this
                have hin : I3 fd = true := by rw [hI3]; unfold upB; rw [if_pos rfl]
                have HTK := hide (take_any fd x3 HOK.out hF3 hfd (fok_range hn2 hO3) (hO3.pr fd hfd))
                have HO4 := hide (hO3.out hfd hin)
                have hI4 : upB I3 fd false = I := by rw [hI3]; exact upC_out HIF.out true
                rw [hI4] at HTK HO4
                clear hF3 hO3 hall hsame hEb hb3 HREC hI3 hin hI4
                go_wp2_with fail
                refine HTK.out.mono ?_
                rintro e x4 ⟨rfl, hF4, hb4⟩
                have HF4 := hide hF4
                have HB4 := hide (HB3.out.trans hb4)
                clear hF4 hb4 HTK
                go_wp2_with fail
                go_roundw
                case rel => exact ⟨p + 1, _, _, _, by omega, by go_num, HF4.out, HO4.out, HB4.out, fun hE => absurd hE HNE.out⟩
                case measure => simp [intOf]; omega
        · have hpi : ¬ (p : Int) < (c.b.R : Int) := by omega
          have HP : Hid (FillP c base B I E w (.returned (.bool false)) wr) := ⟨false, I, Q, C, k, rfl, HF.out, HO.out, fun h => absurd h (by simp), fun _ => rfl, fun hE => by
            obtain ⟨g1, g2⟩ := HEZ.out hE
            obtain ⟨g3, g4⟩ := easy_free HO.out g1 hfd HIF.out
            exact absurd g4 (g2 _ (by omega)), HB.out⟩
          clear hF hO
          go_wp2_with fail
          go_ret
          exact HP.out
end Go.Proofs.YtghlcmljgpkjiabGreat
/- Package regs' newFinder. -/
namespace Go.Proofs.YtghlcmljgpkjiabGreat
open Go.RowKit Go.Joins
set_option linter.unusedVariables false
set_option linter.unusedSimpArgs false
set_option maxRecDepth 8192

def nfC (b : Bc) (ib pb : Nat) (kv : Value) (i : Nat) : Value := if i = 0 then .slice (some ⟨b.ob, 0, none⟩) b.n b.n else if i = 1 then .slice (some ⟨ib, 0, none⟩) b.n b.n else if i = 2 then .slice (some ⟨pb, 0, none⟩) b.n b.n else if i = 3 then kv else .int .i64 0
/-- a finder whose first j rows of counts are made -/
structure NfI (b : Bc) (w : World) (fb ib pb j : Nat) (kb : Nat → Nat) (la : Option Addr) (lc : Nat) (x : World) : Prop where
  bel : Below w.heap.size w x
  fin : RowF x fb 144 5 (nfC b ib pb (.slice la j lc))
  own : x.ownsRow w.heap.size 22 1 (.slice la j lc) j ((List.range j).map fun a => .slice (some ⟨kb a, 0, none⟩) b.R b.R)
  ir : RowF x ib 4 b.n (fun _ => .bool false)
  pr : RowF x pb 3 b.n (fun _ => .int .i64 0)
  kk : ∀ a, a < j → RowF x (kb a) 3 b.R (fun _ => .int .i64 0)
  pbn : ∀ a, a < j → pb ≠ kb a
  kinj : ∀ a a', a < j → a' < j → kb a = kb a' → a = a'
  ge : w.heap.size ≤ fb ∧ w.heap.size ≤ ib ∧ w.heap.size ≤ pb
  gek : ∀ a, a < j → w.heap.size ≤ kb a
variable {b : Bc} {w x y w1 : World} {fb ib pb j : Nat} {kb : Nat → Nat} {la la' : Option Addr} {lc lc' : Nat}
theorem NfI.below (h : NfI b w fb ib pb j kb la lc x) (hb : Below x.heap.size x y) : NfI b w fb ib pb j kb la lc y :=
  ⟨h.bel.trans (hb.mono h.bel.size), h.fin.below hb h.fin.lt, own_below h.own hb, h.ir.below hb h.ir.lt, h.pr.below hb h.pr.lt, fun a ha => (h.kk a ha).below hb (h.kk a ha).lt, h.pbn, h.kinj, h.ge, h.gek⟩
theorem own_setO {base g n o : Nat} {e : TypeId} {v u : Value} {xs : List Value} (h : x.ownsRow base e 1 v n xs) (hne : some g ≠ v.ownBlock) : (x.setCell ⟨g, o, none⟩ u).ownsRow base e 1 v n xs := by
  obtain ⟨hl, h⟩ := h
  refine ⟨hl, ?_⟩
  rcases h with h | ⟨g', cap, cur, hv, hb, hk, r⟩
  · exact .inl h
  · exact .inr ⟨g', cap, cur, hv, hb, by rw [Below.heap_setCell _ _ _ _ (fun e => hne (by have e : g' = g := e; rw [hv, ← e]; rfl))]; exact hk, r⟩
theorem ty_nf : (144 : TypeId) ≠ 22 := by decide
theorem NfI.next (h : NfI b w fb ib pb j kb la lc y)
    (hown : w1.ownsRow w.heap.size 22 1 (.slice la' (j + 1) lc') (j + 1) (((List.range j).map fun a => .slice (some ⟨kb a, 0, none⟩) b.R b.R) ++ [.slice (some ⟨y.heap.size, 0, none⟩) b.R b.R]))
    (hgr : ((y.alloc (.cells (madeCells #[.int .i64 0] b.R) 3)).alloc (.cells #[.slice (some ⟨y.heap.size, 0, none⟩) b.R b.R] 22)).grownBy w1 (Value.ownBlock (.slice la j lc))) :
    NfI b w fb ib pb (j + 1) (upN kb j y.heap.size) la' lc' (w1.setCell ⟨fb, 3, none⟩ (.slice la' (j + 1) lc')) ∧ RowF w1 fb 144 5 (nfC b ib pb (.slice la j lc)) := by
  have hbz : Below y.heap.size y ((y.alloc (.cells (madeCells #[.int .i64 0] b.R) 3)).alloc (.cells #[.slice (some ⟨y.heap.size, 0, none⟩) b.R b.R] 22)) := below_alloc2 _ _ _
  have hz := h.below hbz
  have hnew : RowF ((y.alloc (.cells (madeCells #[.int .i64 0] b.R) 3)).alloc (.cells #[.slice (some ⟨y.heap.size, 0, none⟩) b.R b.R] 22)) y.heap.size 3 b.R (fun _ => .int .i64 0) := (RowF.zeros y (.int .i64 0) b.R _).alloc _
  have hne : ∀ a, a < j → upN kb j y.heap.size a = kb a := fun a ha => by unfold upN; rw [if_neg (by omega)]
  have heq : upN kb j y.heap.size j = y.heap.size := by unfold upN; rw [if_pos rfl]
  have hfin : RowF w1 fb 144 5 (nfC b ib pb (.slice la j lc)) := hz.fin.grown hgr (own_apart hz.own hz.fin ty_nf)
  have hir : RowF w1 ib 4 b.n (fun _ => .bool false) := hz.ir.grown hgr (own_apart hz.own hz.ir ty_i3)
  have hpr : RowF w1 pb 3 b.n (fun _ => .int .i64 0) := hz.pr.grown hgr (own_apart hz.own hz.pr ty_i2)
  have hkk : ∀ a, a < j → RowF w1 (kb a) 3 b.R (fun _ => .int .i64 0) := fun a ha => (hz.kk a ha).grown hgr (own_apart hz.own (hz.kk a ha) ty_i2)
  have hkn : RowF w1 y.heap.size 3 b.R (fun _ => .int .i64 0) := hnew.grown hgr (own_apart hz.own hnew ty_i2)
  refine ⟨⟨(hz.bel.grown hgr hz.bel.size (own_block_ge hz.own)).setCell h.ge.1 _, (hfin.set 3 _ (by decide)).congr fun i hi => ?_, ?_, hir.setOther (hfin.apart hir ty_f1).symm _, hpr.setOther (hfin.apart hpr ty_f2).symm _, fun a ha => ?_, fun a ha => ?_, fun a a' ha ha' e => ?_, h.ge, fun a ha => ?_⟩, hfin⟩
  · unfold nfC
    obtain rfl | rfl | rfl | rfl | rfl : i = 0 ∨ i = 1 ∨ i = 2 ∨ i = 3 ∨ i = 4 := by omega
    all_goals rfl
  · have e1 : ((List.range (j + 1)).map fun a => (Value.slice (some ⟨upN kb j y.heap.size a, 0, none⟩) b.R b.R)) = ((List.range j).map fun a => .slice (some ⟨kb a, 0, none⟩) b.R b.R) ++ [.slice (some ⟨y.heap.size, 0, none⟩) b.R b.R] := by
      rw [List.range_succ, List.map_append]
      congr 1
      · exact List.map_congr_left fun a ha => by rw [hne a (List.mem_range.1 ha)]
      · simp [heq]
    rw [e1]
    exact own_setO hown (own_apart hown hfin ty_nf)
  · by_cases e : a = j
    · rw [e, heq]; exact hkn.setOther (hfin.apart hkn ty_f2).symm _
    · rw [hne a (by omega)]
      have := hkk a (by omega)
      exact this.setOther (hfin.apart this ty_f2).symm _
  · by_cases e : a = j
    · rw [e, heq]; exact Nat.ne_of_lt h.pr.lt
    · rw [hne a (by omega)]; exact h.pbn a (by omega)
  · by_cases e1 : a = j
    · by_cases e2 : a' = j
      · omega
      · rw [e1, heq, hne a' (by omega)] at e
        have := (h.kk a' (by omega)).lt
        omega
    · by_cases e2 : a' = j
      · rw [e2, heq, hne a (by omega)] at e
        have := (h.kk a (by omega)).lt
        omega
      · rw [hne a (by omega), hne a' (by omega)] at e
        exact h.kinj a a' (by omega) (by omega) e
  · by_cases e : a = j
    · rw [e, heq]; exact h.bel.size
    · rw [hne a (by omega)]; exact h.gek a (by omega)
def NfP (b : Bc) (base : Nat) (B : Nat → Nat → Nat → Bool) (w : World) (e : Ending) (w' : World) : Prop := ∃ c : Fc, c.b = b ∧ e = .returned (.pointer (some ⟨c.fb, 0, none⟩)) ∧ FRows c base B (fun _ => false) (fun _ => 0) (fun _ _ => 0) 0 w' ∧ Below w.heap.size w w'
theorem NfI.done {base : Nat} {B : Nat → Nat → Nat → Bool} (h : NfI b w fb ib pb b.n kb la lc x) (hV : BarsV b base B w) (hbz : base ≤ w.heap.size) (hn1 : 1 ≤ b.n) : NfP b base B w (.returned (.pointer (some ⟨fb, 0, none⟩))) x := by
  obtain ⟨ka, kc, hv, hg, hc1, hc2, hrow⟩ := own_parts h.own (.inr hn1)
  injection hv with e1 e2 e3
  subst e1 e3
  unfold maxLen at hc2
  refine ⟨⟨b, fb, ib, pb, ka, lc, kb⟩, rfl, rfl, ⟨hV.below h.bel, h.fin.congr fun i hi => ?_, h.ir, h.pr, hrow.congr fun i hi => ?_, h.kk, fun a m ha hm e => ?_, h.pbn, h.kinj, ⟨?_, ?_, ?_, ?_⟩, fun a ha => ?_, hc1, by omega⟩, h.bel⟩
  · unfold nfC finC
    obtain rfl | rfl | rfl | rfl | rfl : i = 0 ∨ i = 1 ∨ i = 2 ∨ i = 3 ∨ i = 4 := by omega
    all_goals rfl
  · exact getD_range _ _ _ hi
  · have h1 := (hV.cc a m ha hm).lt
    have h2 := h.ge.2.1
    have e : ib = b.cb a m := e
    omega
  · exact Nat.le_trans hbz h.ge.1
  · exact Nat.le_trans hbz h.ge.2.1
  · exact Nat.le_trans hbz h.ge.2.2
  · exact Nat.le_trans hbz hg
  · exact Nat.le_trans hbz (h.gek a ha)
theorem nf_start1 (b : Bc) (w : World) : Hid (NfI b w (w.heap.size + 1 + 1) w.heap.size (w.heap.size + 1) 0 (fun _ => 0) none 0 (((w.alloc (.cells (madeCells #[.bool false] b.n) 4)).alloc (.cells (madeCells #[.int .i64 0] b.n) 3)).alloc (.cells #[.slice (some ⟨b.ob, 0, none⟩) b.n b.n, .slice (some ⟨w.heap.size, 0, none⟩) b.n b.n, .slice (some ⟨(w.heap.size + 1), 0, none⟩) b.n b.n, .slice none 0 0, .int .i64 0] 144)).drew) := by
  have hs : (w.alloc (.cells (madeCells #[.bool false] b.n) 4)).heap.size = w.heap.size + 1 := by simp
  have h2 := RowF.zeros (w.alloc (.cells (madeCells #[.bool false] b.n) 4)) (.int .i64 0) b.n 3
  rw [hs] at h2
  have hs2 : ((w.alloc (.cells (madeCells #[.bool false] b.n) 4)).alloc (.cells (madeCells #[.int .i64 0] b.n) 3)).heap.size = w.heap.size + 1 + 1 := by simp
  have h3 := RowF.made ((w.alloc (.cells (madeCells #[.bool false] b.n) 4)).alloc (.cells (madeCells #[.int .i64 0] b.n) 3)) #[.slice (some ⟨b.ob, 0, none⟩) b.n b.n, .slice (some ⟨w.heap.size, 0, none⟩) b.n b.n, .slice (some ⟨(w.heap.size + 1), 0, none⟩) b.n b.n, .slice none 0 0, .int .i64 0] 144 5 (nfC b w.heap.size (w.heap.size + 1) (.slice none 0 0)) (Nat.le_refl 5) (fun i hi => by
    obtain rfl | rfl | rfl | rfl | rfl : i = 0 ∨ i = 1 ∨ i = 2 ∨ i = 3 ∨ i = 4 := by omega
    all_goals rfl)
  rw [hs2] at h3
  exact ⟨(below_alloc3 w _ _ _).trans (below_draws _ _ 1), h3, ⟨rfl, .inl ⟨rfl, rfl⟩⟩, ((RowF.zeros w (.bool false) b.n _).alloc _).alloc _, h2.alloc _, fun a ha => absurd ha (Nat.not_lt_zero _), fun a ha => absurd ha (Nat.not_lt_zero _), fun a a' ha => absurd ha (Nat.not_lt_zero _), ⟨by omega, by omega, by omega⟩, fun a ha => absurd ha (Nat.not_lt_zero _)⟩
theorem nf_start2 (b : Bc) (w : World) : Hid (NfI b w (w.heap.size + 1 + 1) (w.heap.size + 1) w.heap.size 0 (fun _ => 0) none 0 (((w.alloc (.cells (madeCells #[.int .i64 0] b.n) 3)).alloc (.cells (madeCells #[.bool false] b.n) 4)).alloc (.cells #[.slice (some ⟨b.ob, 0, none⟩) b.n b.n, .slice (some ⟨(w.heap.size + 1), 0, none⟩) b.n b.n, .slice (some ⟨w.heap.size, 0, none⟩) b.n b.n, .slice none 0 0, .int .i64 0] 144)).drew) := by
  have hs : (w.alloc (.cells (madeCells #[.int .i64 0] b.n) 3)).heap.size = w.heap.size + 1 := by simp
  have h2 := RowF.zeros (w.alloc (.cells (madeCells #[.int .i64 0] b.n) 3)) (.bool false) b.n 4
  rw [hs] at h2
  have hs2 : ((w.alloc (.cells (madeCells #[.int .i64 0] b.n) 3)).alloc (.cells (madeCells #[.bool false] b.n) 4)).heap.size = w.heap.size + 1 + 1 := by simp
  have h3 := RowF.made ((w.alloc (.cells (madeCells #[.int .i64 0] b.n) 3)).alloc (.cells (madeCells #[.bool false] b.n) 4)) #[.slice (some ⟨b.ob, 0, none⟩) b.n b.n, .slice (some ⟨(w.heap.size + 1), 0, none⟩) b.n b.n, .slice (some ⟨w.heap.size, 0, none⟩) b.n b.n, .slice none 0 0, .int .i64 0] 144 5 (nfC b (w.heap.size + 1) w.heap.size (.slice none 0 0)) (Nat.le_refl 5) (fun i hi => by
    obtain rfl | rfl | rfl | rfl | rfl : i = 0 ∨ i = 1 ∨ i = 2 ∨ i = 3 ∨ i = 4 := by omega
    all_goals rfl)
  rw [hs2] at h3
  exact ⟨(below_alloc3 w _ _ _).trans (below_draws _ _ 1), h3, ⟨rfl, .inl ⟨rfl, rfl⟩⟩, h2.alloc _, ((RowF.zeros w (.int .i64 0) b.n _).alloc _).alloc _, fun a ha => absurd ha (Nat.not_lt_zero _), fun a ha => absurd ha (Nat.not_lt_zero _), fun a a' ha => absurd ha (Nat.not_lt_zero _), ⟨by omega, by omega, by omega⟩, fun a ha => absurd ha (Nat.not_lt_zero _)⟩
theorem one_cellN (w : World) (x : Value) (t : TypeId) : ∀ (j : Nat) (u : Value), [x][j]? = some u → (w.alloc (.cells #[x] t)).cell? ((⟨w.heap.size, 0, none⟩ : Addr).add j) = some u := by
  intro j u hj
  have ha : (⟨w.heap.size, 0, none⟩ : Addr).add j = ⟨w.heap.size, j, none⟩ := by simp [Addr.add]; omega
  rw [ha, cell_of_block (new_blkS w #[x] t)]
  simpa using hj
theorem rowInfoR : (Tryz.prog.info? 22).map (fun i => (i.zero, i.size, i.bytes)) = some (some (.slice none 0 0), 1, 24) := by kernel_rfl
theorem intInfoR : (Tryz.prog.info? 3).map (fun i => (i.zero, i.size, i.bytes)) = some (some (.int .i64 0), 1, 8) := by kernel_rfl
set_option maxHeartbeats 8000000 in
theorem newFinder_any {base : Nat} {B : Nat → Nat → Nat → Bool} (b : Bc) (w : World) (hV : BarsV b base B w) (hbz : base ≤ w.heap.size) (hn1 : 1 ≤ b.n) (hn2 : b.n ≤ 16) (hr1 : 1 ≤ b.R) (hr2 : b.R ≤ 128) :
    Calls Tryz.prog 79 #[.slice (some ⟨b.ob, 0, none⟩) b.n b.n] w fun e w' => NfP b base B w e w' := by
  have hmk1 := run_make_row' (P := Tryz.prog) 141 4 (.bool false) 1 Tryz.underlying141 rb2Info rfl .i64 .i64 b.n (by omega) (by omega)
  have hmk2 := run_make_row' (P := Tryz.prog) 22 3 (.int .i64 0) 8 Tryz.underlying22 intInfoR rfl .i64 .i64 b.n (by omega) (by omega)
  have hmk3 := run_make_row' (P := Tryz.prog) 22 3 (.int .i64 0) 8 Tryz.underlying22 intInfoR rfl .i64 .i64 b.R (by omega) (by omega)
  obtain ⟨j0, ji, jz0, jz1, jz2⟩ := info_parts rowInfoR
  have HV := hide hV
  clear hV
  go_enter Tryz.func79, Tryz.ntmps79
  go_wp2_with fail
  go_region
  all_goals (go_wp2_with fail)
  · have HST : Hid (NfI b w (w.heap.size + 1 + 1) w.heap.size (w.heap.size + 1) 0 (fun _ => 0) none 0 (((w.alloc (.cells (madeCells #[.bool false] b.n) 4)).alloc (.cells (madeCells #[.int .i64 0] b.n) 3)).alloc (.cells #[.slice (some ⟨b.ob, 0, none⟩) b.n b.n, .slice (some ⟨w.heap.size, 0, none⟩) b.n b.n, .slice (some ⟨(w.heap.size + 1), 0, none⟩) b.n b.n, .slice none 0 0, .int .i64 0] 144)).drew) := nf_start1 b w
    generalize (((w.alloc (.cells (madeCells #[.bool false] b.n) 4)).alloc (.cells (madeCells #[.int .i64 0] b.n) 3)).alloc (.cells #[.slice (some ⟨b.ob, 0, none⟩) b.n b.n, .slice (some ⟨w.heap.size, 0, none⟩) b.n b.n, .slice (some ⟨(w.heap.size + 1), 0, none⟩) b.n b.n, .slice none 0 0, .int .i64 0] 144)).drew = Y at HST ⊢
    generalize w.heap.size + 1 + 1 = fb at HST ⊢
    generalize w.heap.size + 1 = pb at HST ⊢
    generalize hxx : w.heap.size = ib at HST ⊢
    clear hxx
    go_loopw [16] (fun jv wr => ∃ (j : Nat) (kb : Nat → Nat) (la : Option Addr) (lc : Nat), j ≤ b.n ∧ jv = .int .i64 j ∧ NfI b w fb ib pb j kb la lc wr) (fun jv _ => b.n - (intOf jv).toNat)
    case atStart => exact ⟨0, _, _, _, Nat.zero_le _, rfl, HST.out⟩
    case round =>
      clear HST
      obtain ⟨j, kb, la, lc, hj, rfl, hI⟩ := hrel
      by_cases hjn : j < b.n
      · have hji : (j : Int) < (b.n : Int) := by omega
        have HI : Hid (NfI b w fb ib pb j kb la lc wr.drew) := hI.below (below_draws _ wr 1)
        have hfz := hI.fin.lt
        have hff := hI.fin.frozen 3
        have hVw := HV.out.below hI.bel
        have oz := hVw.o.lt
        have rz := (hVw.r j hjn).lt
        have HSS : Hid (∀ w', Below w.heap.size w w' → RowF w' fb 144 5 (nfC b ib pb (.slice la j lc)) → w'.cell? ⟨fb, 3, none⟩ = some (.slice la j lc) ∧ w'.cell? ⟨b.ob, j, none⟩ = some (.slice (some ⟨b.rb j, 0, none⟩) b.n b.n) ∧ w'.cell? ⟨b.rb j, j, none⟩ = some (.slice (some ⟨b.cb j j, 0, none⟩) b.R b.R)) := fun w' h1 h2 => ⟨h2.cell (by decide), (HV.out.below h1).o.cell hjn, ((HV.out.below h1).r j hjn).cell hjn⟩
        have HNX := hide (fun w1 la' lc' => @NfI.next b w wr.drew w1 fb ib pb j kb la la' lc lc' HI.out)
        clear hI hVw
        generalize b.cb j j = cj at *
        generalize b.rb j = rj at *
        go_wp2_with fail
        refine wp_region_noPanic ?_
        refine region_until 18 (fun w' => w'.cell? ⟨fb, 3, none⟩ = some (.slice la j lc) ∧ w'.cell? ⟨b.ob, j, none⟩ = some (.slice (some ⟨rj, 0, none⟩) b.n b.n) ∧ w'.cell? ⟨rj, j, none⟩ = some (.slice (some ⟨cj, 0, none⟩) b.R b.R)) (by kernel_rfl) (HSS.out _ HI.out.bel HI.out.fin) (fun hHeld => ?_)
        generalize wr.drew = y at *
        refine utk (i := 0) rfl hHeld ?_
        try simp only [Act.put, List.setIfInBounds_toArray, List.set_cons_zero, List.set_cons_succ]
        refine utk (i := 1) rfl hHeld ?_
        try simp only [Act.put, List.setIfInBounds_toArray, List.set_cons_zero, List.set_cons_succ]
        refine utk (i := 2) rfl hHeld ?_
        try simp only [Act.put, List.setIfInBounds_toArray, List.set_cons_zero, List.set_cons_succ]
        refine utk (i := 3) rfl hHeld ?_
        try simp only [Act.put, List.setIfInBounds_toArray, List.set_cons_zero, List.set_cons_succ]
        refine utk (i := 4) rfl hHeld ?_
        try simp only [Act.put, List.setIfInBounds_toArray, List.set_cons_zero, List.set_cons_succ]
        refine utk (i := 5) rfl hHeld ?_
        try simp only [Act.put, List.setIfInBounds_toArray, List.set_cons_zero, List.set_cons_succ]
        refine utk (i := 6) rfl hHeld ?_
        try simp only [Act.put, List.setIfInBounds_toArray, List.set_cons_zero, List.set_cons_succ]
        refine utk (i := 7) rfl hHeld ?_
        try simp only [Act.put, List.setIfInBounds_toArray, List.set_cons_zero, List.set_cons_succ]
        refine utk (i := 8) rfl hHeld ?_
        try simp only [Act.put, List.setIfInBounds_toArray, List.set_cons_zero, List.set_cons_succ]
        refine utk (i := 9) rfl hHeld ?_
        try simp only [Act.put, List.setIfInBounds_toArray, List.set_cons_zero, List.set_cons_succ]
        refine utk (i := 10) rfl hHeld ?_
        try simp only [Act.put, List.setIfInBounds_toArray, List.set_cons_zero, List.set_cons_succ]
        refine utk (i := 11) rfl hHeld ?_
        try simp only [Act.put, List.setIfInBounds_toArray, List.set_cons_zero, List.set_cons_succ]
        refine utk (i := 12) rfl hHeld ?_
        try simp only [Act.put, List.setIfInBounds_toArray, List.set_cons_zero, List.set_cons_succ]
        have hz1 : NfI b w fb ib pb j kb la lc (y.alloc (.cells (madeCells #[.int .i64 0] b.R) 3)) := HI.out.below (below_alloc1 _ _)
        have hz2 : NfI b w fb ib pb j kb la lc ((y.alloc (.cells (madeCells #[.int .i64 0] b.R) 3)).alloc (.cells #[.slice (some ⟨y.heap.size, 0, none⟩) b.R b.R] 22)) := HI.out.below (below_alloc2 _ _ _)
        have hH1 := HSS.out _ hz1.bel hz1.fin
        have hH2 := HSS.out _ hz2.bel hz2.fin
        have HZ2 := hide hz2
        have HONE := hide (one_cellN (y.alloc (.cells (madeCells #[.int .i64 0] b.R) 3)) (.slice (some ⟨y.heap.size, 0, none⟩) b.R b.R) 22)
        clear hz1 hz2
        refine until_one (i := 13) rfl (by kernel_rfl) (fun K hK => ?_)
        go_simp
        refine hK.out _ _ (.inr hH1) ?_
        clear hK K
        try simp only [Act.put, List.setIfInBounds_toArray, List.set_cons_zero, List.set_cons_succ]
        refine until_one (i := 14) rfl (by kernel_rfl) (fun K hK => ?_)
        go_simp
        refine hK.out _ _ (.inr hH2) ?_
        clear hK K
        try simp only [Act.put, List.setIfInBounds_toArray, List.set_cons_zero, List.set_cons_succ]
        refine until_one (i := 15) rfl (by kernel_rfl) (fun K hK => ?_)
        refine step_append_lies _ (by rfl) (.tmp 23) (.tmp 33) 142 (by rfl) w.heap.size 22 j0 (.slice none 0 0) 1 24 Tryz.underlying142 ji jz0 jz1 jz2 rfl (by decide) _ j _ (by rfl) HZ2.out.own ⟨y.heap.size + 1, 0, none⟩ 1 1 [.slice (some ⟨y.heap.size, 0, none⟩) b.R b.R] (by rfl) rfl (by have h := HONE.out; have e : (y.alloc (.cells (madeCells #[.int .i64 0] b.R) 3)).heap.size = y.heap.size + 1 := (by simp); rw [e] at h; exact h) (by intro u hu; simp at hu; subst hu; rfl) (by decide) (by unfold maxLen; omega) (by omega) HZ2.out.bel.size _ rfl ?_
        intro g2 e2 w2 hown hgrow hat hlt
        obtain ⟨x1, x2⟩ := HNX.out w2 _ _ hown hgrow
        have hH3 := HSS.out _ (HZ2.out.bel.grown hgrow HZ2.out.bel.size (own_block_ge HZ2.out.own)) x2
        have c3 := x2.cell (show 3 < 5 by decide)
        have f3 := x2.frozen 3
        have z3 := x2.lt
        have HX := hide x1
        clear x1 x2 hown hgrow hat hlt hH1 hH2
        refine hK.out _ _ (.inr hH3) ?_
        clear hK K
        try simp only [Act.put, List.setIfInBounds_toArray, List.set_cons_zero, List.set_cons_succ]
        refine utk (i := 16) rfl hH3 ?_
        try simp only [Act.put, List.setIfInBounds_toArray, List.set_cons_zero, List.set_cons_succ]
        refine utk (i := 17) rfl hH3 ?_
        try simp only [Act.put, List.setIfInBounds_toArray, List.set_cons_zero, List.set_cons_succ]
        refine until_one (i := 18) rfl (by kernel_rfl) (fun K hK => ?_)
        go_simp
        refine hK.out _ _ (.inl rfl) ?_
        clear hK K
        try simp only [Act.put, List.setIfInBounds_toArray, List.set_cons_zero, List.set_cons_succ]
        refine until_done (by kernel_rfl) ?_ _
        refine NoPanic.normal ?_
        clear hHeld hH3 c3 f3 z3 HSS HNX HI HZ2 HONE
        go_wp2_with fail
        go_roundw
        case rel => exact ⟨j + 1, _, _, _, by omega, by go_num, HX.out⟩
        case measure => simp [intOf]; omega
      · have e : j = b.n := by omega
        have hji : ¬ (j : Int) < (b.n : Int) := by omega
        have HP : Hid (NfP b base B w (.returned (.pointer (some ⟨fb, 0, none⟩))) wr) := by rw [e] at hI; exact hI.done HV.out hbz hn1
        clear hI e
        go_wp2_with fail
        go_ret
        exact HP.out
  · have HST : Hid (NfI b w (w.heap.size + 1 + 1) (w.heap.size + 1) w.heap.size 0 (fun _ => 0) none 0 (((w.alloc (.cells (madeCells #[.int .i64 0] b.n) 3)).alloc (.cells (madeCells #[.bool false] b.n) 4)).alloc (.cells #[.slice (some ⟨b.ob, 0, none⟩) b.n b.n, .slice (some ⟨(w.heap.size + 1), 0, none⟩) b.n b.n, .slice (some ⟨w.heap.size, 0, none⟩) b.n b.n, .slice none 0 0, .int .i64 0] 144)).drew) := nf_start2 b w
    generalize (((w.alloc (.cells (madeCells #[.int .i64 0] b.n) 3)).alloc (.cells (madeCells #[.bool false] b.n) 4)).alloc (.cells #[.slice (some ⟨b.ob, 0, none⟩) b.n b.n, .slice (some ⟨(w.heap.size + 1), 0, none⟩) b.n b.n, .slice (some ⟨w.heap.size, 0, none⟩) b.n b.n, .slice none 0 0, .int .i64 0] 144)).drew = Y at HST ⊢
    generalize w.heap.size + 1 + 1 = fb at HST ⊢
    generalize w.heap.size + 1 = ib at HST ⊢
    generalize hxx : w.heap.size = pb at HST ⊢
    clear hxx
    go_loopw [16] (fun jv wr => ∃ (j : Nat) (kb : Nat → Nat) (la : Option Addr) (lc : Nat), j ≤ b.n ∧ jv = .int .i64 j ∧ NfI b w fb ib pb j kb la lc wr) (fun jv _ => b.n - (intOf jv).toNat)
    case atStart => exact ⟨0, _, _, _, Nat.zero_le _, rfl, HST.out⟩
    case round =>
      clear HST
      obtain ⟨j, kb, la, lc, hj, rfl, hI⟩ := hrel
      by_cases hjn : j < b.n
      · have hji : (j : Int) < (b.n : Int) := by omega
        have HI : Hid (NfI b w fb ib pb j kb la lc wr.drew) := hI.below (below_draws _ wr 1)
        have hfz := hI.fin.lt
        have hff := hI.fin.frozen 3
        have hVw := HV.out.below hI.bel
        have oz := hVw.o.lt
        have rz := (hVw.r j hjn).lt
        have HSS : Hid (∀ w', Below w.heap.size w w' → RowF w' fb 144 5 (nfC b ib pb (.slice la j lc)) → w'.cell? ⟨fb, 3, none⟩ = some (.slice la j lc) ∧ w'.cell? ⟨b.ob, j, none⟩ = some (.slice (some ⟨b.rb j, 0, none⟩) b.n b.n) ∧ w'.cell? ⟨b.rb j, j, none⟩ = some (.slice (some ⟨b.cb j j, 0, none⟩) b.R b.R)) := fun w' h1 h2 => ⟨h2.cell (by decide), (HV.out.below h1).o.cell hjn, ((HV.out.below h1).r j hjn).cell hjn⟩
        have HNX := hide (fun w1 la' lc' => @NfI.next b w wr.drew w1 fb ib pb j kb la la' lc lc' HI.out)
        clear hI hVw
        generalize b.cb j j = cj at *
        generalize b.rb j = rj at *
        go_wp2_with fail
        refine wp_region_noPanic ?_
        refine region_until 18 (fun w' => w'.cell? ⟨fb, 3, none⟩ = some (.slice la j lc) ∧ w'.cell? ⟨b.ob, j, none⟩ = some (.slice (some ⟨rj, 0, none⟩) b.n b.n) ∧ w'.cell? ⟨rj, j, none⟩ = some (.slice (some ⟨cj, 0, none⟩) b.R b.R)) (by kernel_rfl) (HSS.out _ HI.out.bel HI.out.fin) (fun hHeld => ?_)
        generalize wr.drew = y at *
        refine utk (i := 0) rfl hHeld ?_
        try simp only [Act.put, List.setIfInBounds_toArray, List.set_cons_zero, List.set_cons_succ]
        refine utk (i := 1) rfl hHeld ?_
        try simp only [Act.put, List.setIfInBounds_toArray, List.set_cons_zero, List.set_cons_succ]
        refine utk (i := 2) rfl hHeld ?_
        try simp only [Act.put, List.setIfInBounds_toArray, List.set_cons_zero, List.set_cons_succ]
        refine utk (i := 3) rfl hHeld ?_
        try simp only [Act.put, List.setIfInBounds_toArray, List.set_cons_zero, List.set_cons_succ]
        refine utk (i := 4) rfl hHeld ?_
        try simp only [Act.put, List.setIfInBounds_toArray, List.set_cons_zero, List.set_cons_succ]
        refine utk (i := 5) rfl hHeld ?_
        try simp only [Act.put, List.setIfInBounds_toArray, List.set_cons_zero, List.set_cons_succ]
        refine utk (i := 6) rfl hHeld ?_
        try simp only [Act.put, List.setIfInBounds_toArray, List.set_cons_zero, List.set_cons_succ]
        refine utk (i := 7) rfl hHeld ?_
        try simp only [Act.put, List.setIfInBounds_toArray, List.set_cons_zero, List.set_cons_succ]
        refine utk (i := 8) rfl hHeld ?_
        try simp only [Act.put, List.setIfInBounds_toArray, List.set_cons_zero, List.set_cons_succ]
        refine utk (i := 9) rfl hHeld ?_
        try simp only [Act.put, List.setIfInBounds_toArray, List.set_cons_zero, List.set_cons_succ]
        refine utk (i := 10) rfl hHeld ?_
        try simp only [Act.put, List.setIfInBounds_toArray, List.set_cons_zero, List.set_cons_succ]
        refine utk (i := 11) rfl hHeld ?_
        try simp only [Act.put, List.setIfInBounds_toArray, List.set_cons_zero, List.set_cons_succ]
        refine utk (i := 12) rfl hHeld ?_
        try simp only [Act.put, List.setIfInBounds_toArray, List.set_cons_zero, List.set_cons_succ]
        have hz1 : NfI b w fb ib pb j kb la lc (y.alloc (.cells (madeCells #[.int .i64 0] b.R) 3)) := HI.out.below (below_alloc1 _ _)
        have hz2 : NfI b w fb ib pb j kb la lc ((y.alloc (.cells (madeCells #[.int .i64 0] b.R) 3)).alloc (.cells #[.slice (some ⟨y.heap.size, 0, none⟩) b.R b.R] 22)) := HI.out.below (below_alloc2 _ _ _)
        have hH1 := HSS.out _ hz1.bel hz1.fin
        have hH2 := HSS.out _ hz2.bel hz2.fin
        have HZ2 := hide hz2
        have HONE := hide (one_cellN (y.alloc (.cells (madeCells #[.int .i64 0] b.R) 3)) (.slice (some ⟨y.heap.size, 0, none⟩) b.R b.R) 22)
        clear hz1 hz2
        refine until_one (i := 13) rfl (by kernel_rfl) (fun K hK => ?_)
        go_simp
        refine hK.out _ _ (.inr hH1) ?_
        clear hK K
        try simp only [Act.put, List.setIfInBounds_toArray, List.set_cons_zero, List.set_cons_succ]
        refine until_one (i := 14) rfl (by kernel_rfl) (fun K hK => ?_)
        go_simp
        refine hK.out _ _ (.inr hH2) ?_
        clear hK K
        try simp only [Act.put, List.setIfInBounds_toArray, List.set_cons_zero, List.set_cons_succ]
        refine until_one (i := 15) rfl (by kernel_rfl) (fun K hK => ?_)
        refine step_append_lies _ (by rfl) (.tmp 23) (.tmp 33) 142 (by rfl) w.heap.size 22 j0 (.slice none 0 0) 1 24 Tryz.underlying142 ji jz0 jz1 jz2 rfl (by decide) _ j _ (by rfl) HZ2.out.own ⟨y.heap.size + 1, 0, none⟩ 1 1 [.slice (some ⟨y.heap.size, 0, none⟩) b.R b.R] (by rfl) rfl (by have h := HONE.out; have e : (y.alloc (.cells (madeCells #[.int .i64 0] b.R) 3)).heap.size = y.heap.size + 1 := (by simp); rw [e] at h; exact h) (by intro u hu; simp at hu; subst hu; rfl) (by decide) (by unfold maxLen; omega) (by omega) HZ2.out.bel.size _ rfl ?_
        intro g2 e2 w2 hown hgrow hat hlt
        obtain ⟨x1, x2⟩ := HNX.out w2 _ _ hown hgrow
        have hH3 := HSS.out _ (HZ2.out.bel.grown hgrow HZ2.out.bel.size (own_block_ge HZ2.out.own)) x2
        have c3 := x2.cell (show 3 < 5 by decide)
        have f3 := x2.frozen 3
        have z3 := x2.lt
        have HX := hide x1
        clear x1 x2 hown hgrow hat hlt hH1 hH2
        refine hK.out _ _ (.inr hH3) ?_
        clear hK K
        try simp only [Act.put, List.setIfInBounds_toArray, List.set_cons_zero, List.set_cons_succ]
        refine utk (i := 16) rfl hH3 ?_
        try simp only [Act.put, List.setIfInBounds_toArray, List.set_cons_zero, List.set_cons_succ]
        refine utk (i := 17) rfl hH3 ?_
        try simp only [Act.put, List.setIfInBounds_toArray, List.set_cons_zero, List.set_cons_succ]
        refine until_one (i := 18) rfl (by kernel_rfl) (fun K hK => ?_)
        go_simp
        refine hK.out _ _ (.inl rfl) ?_
        clear hK K
        try simp only [Act.put, List.setIfInBounds_toArray, List.set_cons_zero, List.set_cons_succ]
        refine until_done (by kernel_rfl) ?_ _
        refine NoPanic.normal ?_
        clear hHeld hH3 c3 f3 z3 HSS HNX HI HZ2 HONE
        go_wp2_with fail
        go_roundw
        case rel => exact ⟨j + 1, _, _, _, by omega, by go_num, HX.out⟩
        case measure => simp [intOf]; omega
      · have e : j = b.n := by omega
        have hji : ¬ (j : Int) < (b.n : Int) := by omega
        have HP : Hid (NfP b base B w (.returned (.pointer (some ⟨fb, 0, none⟩))) wr) := by rw [e] at hI; exact hI.done HV.out hbz hn1
        clear hI e
        go_wp2_with fail
        go_ret
        exact HP.out
end Go.Proofs.YtghlcmljgpkjiabGreat
/- Package regs' findPlaces. -/
namespace Go.Proofs.YtghlcmljgpkjiabGreat
open Go.RowKit Go.Joins
set_option linter.unusedVariables false
set_option linter.unusedSimpArgs false
set_option maxRecDepth 8192

def FindP (b : Bc) (base : Nat) (B : Nat → Nat → Nat → Bool) (w : World) (e : Ending) (w' : World) : Prop :=
  ∃ (va : Value) (ok : Bool), e = .returned (.tuple #[va, .bool ok]) ∧ Below base w w' ∧ (NearB b.n b.R B → ok = true) ∧ (ok = true → ∃ (pb : Nat) (Q : Nat → Int), va = .slice (some ⟨pb, 0, none⟩) b.n b.n ∧ RowF w' pb 3 b.n (fun i => .int .i64 (Q i)) ∧ (∀ m, m < b.n → 0 ≤ Q m ∧ Q m < b.R) ∧ (∀ a, a < b.n → B a a 0 = false) ∧ ∀ a m, a < b.n → m < b.n → a ≠ m → B a m ((Q a - Q m) % (b.R : Int)).toNat = false)
set_option maxHeartbeats 8000000 in
theorem findPlaces_any {base : Nat} {B : Nat → Nat → Nat → Bool} (b : Bc) (w : World) (hV : BarsV b base B w) (hs : SymB b.n b.R B) (hbz : base ≤ w.heap.size) (hn1 : 1 ≤ b.n) (hn2 : b.n ≤ 16) (hr1 : 1 ≤ b.R) (hr2 : b.R ≤ 128) :
    Calls Tryz.prog 35 #[.slice (some ⟨b.ob, 0, none⟩) b.n b.n] w fun e w' => FindP b base B w e w' := by
  have HIT := hide (fun a (ha : a < b.n) => itself_any a w hV ha hn2 hr1 hr2)
  have HNF := hide (newFinder_any b w hV hbz hn1 hn2 hr1 hr2)
  have HS := hide hs
  clear hV hs
  go_enter Tryz.func35, Tryz.ntmps35
  go_wp2_with fail
  go_loopw [8] (fun av wr => ∃ a : Nat, a ≤ b.n ∧ av = .int .i64 a ∧ (∀ i, i < a → B i i 0 = false) ∧ wr = w) (fun av _ => b.n - (intOf av).toNat)
  case atStart => exact ⟨0, Nat.zero_le _, rfl, fun i hi => absurd hi (Nat.not_lt_zero _), rfl⟩
  case round =>
    obtain ⟨a, ha, rfl, hno, hw⟩ := hrel
    subst hw
    have HNO := hide hno
    clear hno
    by_cases hal : a < b.n
    · have hai : (a : Int) < (b.n : Int) := by omega
      have HC := hide (HIT.out a hal)
      obtain ⟨bo, hbo⟩ : ∃ bo, B a a 0 = bo := ⟨_, rfl⟩
      rw [hbo] at HC
      have HBO := hide hbo
      clear hbo
      cases bo with
      | true =>
        have HP : Hid (FindP b base B wr (.returned (.tuple #[.slice none 0 0, .bool false])) wr) := ⟨_, _, rfl, Below.refl _ _, fun h => (by have := near_self h hal; rw [HBO.out] at this; cases this), fun h => absurd h (by simp)⟩
        go_wp2_with fail
        refine HC.out.mono ?_
        rintro e x2 ⟨rfl, hx⟩
        have hx := hx.symm
        subst hx
        go_wp2_with fail
        go_ret2
        exact HP.out
      | false =>
        have HN : Hid (∀ i, i < a + 1 → B i i 0 = false) := fun i hi => by
          by_cases e : i = a
          · rw [e]; exact HBO.out
          · exact HNO.out i (by omega)
        go_wp2_with fail
        refine HC.out.mono ?_
        rintro e x2 ⟨rfl, hx⟩
        have hx := hx.symm
        subst hx
        go_wp2_with fail
        go_roundw
        case rel => exact ⟨a + 1, by omega, by go_num, HN.out, by trivial⟩
        case measure => simp [intOf]; omega
    · have hai : ¬ (a : Int) < (b.n : Int) := by omega
      have HSELF : Hid (∀ i, i < b.n → B i i 0 = false) := fun i hi => HNO.out i (by omega)
      clear HNO HIT
      go_wp2_with fail
      refine HNF.out.mono ?_
      rintro e x1 ⟨c, hcb, rfl, hF, hb1⟩
      subst hcb
      have HB1 := hide (hb1.mono hbz)
      have HPUT := hide (put_any 0 0 x1 ⟨hn1, hn2, hr1, hr2⟩ hF hn1 hr1 (by decide) (by decide) (fun a _ p _ => by decide))
      clear hF hb1 HNF
      go_wp2_with fail
      refine HPUT.out.mono ?_
      rintro e x2 ⟨rfl, hF, hb2⟩
      have HB2 := hide (HB1.out.trans hb2)
      have HF := hide hF
      have hO := (FOk.start (n := c.b.n) (B := B) (show 1 ≤ (c.b.R : Int) by omega)).put HS.out (a := 0) hn1 rfl (p := 0) (by omega) rfl (by decide)
      have HFILL := hide (fun W (hW : Below x2.heap.size x2 W) => fill_any (base := base) ⟨hn1, hn2, hr1, hr2⟩ HS.out c.b.n _ _ _ _ W (hF.below hW) hO (by omega))
      have HEASY : Hid (NearB c.b.n c.b.R B → EOk c.b.n c.b.R B (upB (fun _ => false) 0 true) (upI (fun _ => 0) 0 ((0 : Nat) : Int)) (0 + 1)) := fun h => easy_put (easy_start h) hn1 rfl (Nat.zero_le _)
      have hfz := hF.fin.lt
      obtain ⟨f0, f1, f2, f3, f4⟩ := hF.fields
      clear hF hb2 HPUT hO HB1 f0 f1 f3 f4
      go_wp2_with fail
      refine wp_region_noPanic ?_
      refine region_until 99 (fun w' => w'.cell? ⟨c.fb, 2, none⟩ = some (.slice (some ⟨c.pb, 0, none⟩) c.b.n c.b.n)) (by kernel_rfl) f2 (fun hHeld => ?_)
      refine utk (i := 0) rfl hHeld ?_
      try simp only [Act.put, List.setIfInBounds_toArray, List.set_cons_zero, List.set_cons_succ]
      refine utk (i := 1) rfl hHeld ?_
      try simp only [Act.put, List.setIfInBounds_toArray, List.set_cons_zero, List.set_cons_succ]
      refine utk (i := 2) rfl hHeld ?_
      try simp only [Act.put, List.setIfInBounds_toArray, List.set_cons_zero, List.set_cons_succ]
      refine utk (i := 3) rfl hHeld ?_
      try simp only [Act.put, List.setIfInBounds_toArray, List.set_cons_zero, List.set_cons_succ]
      refine utk (i := 4) rfl hHeld ?_
      try simp only [Act.put, List.setIfInBounds_toArray, List.set_cons_zero, List.set_cons_succ]
      refine until_one (i := 5) rfl (by kernel_rfl) (fun K hK => ?_)
      go_simp
      refine (HFILL.out _ (below_draws _ _ 1)).mono ?_
      rintro e x3 ⟨bo, I3, Q3, C3, k3, rfl, hF3, hO3, hall, hsame, hE, hb3⟩
      obtain ⟨-, -, g2, -, -⟩ := hF3.fields
      have HP : Hid (FindP c.b base B wr (.returned (.tuple #[.slice (some ⟨c.pb, 0, none⟩) c.b.n c.b.n, .bool bo])) x3) := ⟨_, _, rfl, HB2.out.trans ((below_draws _ _ 1).trans hb3), fun h => hE (HEASY.out h), fun h => ⟨c.pb, Q3, rfl, hF3.pr, hO3.pr, HSELF.out, fun a m ha hm hne => hO3.ok a m ha hm hne (hall h a ha) (hall h m hm)⟩⟩
      clear hF3 hO3 hall hsame hE hb3 HFILL HEASY
      refine hK.out _ _ (.inr g2) ?_
      clear hK K
      try simp only [Act.put, List.setIfInBounds_toArray, List.set_cons_zero, List.set_cons_succ]
      refine utk (i := 6) rfl g2 ?_
      try simp only [Act.put, List.setIfInBounds_toArray, List.set_cons_zero, List.set_cons_succ]
      refine utk (i := 7) rfl g2 ?_
      try simp only [Act.put, List.setIfInBounds_toArray, List.set_cons_zero, List.set_cons_succ]
      refine until_done (by kernel_rfl) ?_ _
      refine NoPanic.normal ?_
      go_wp2_with fail
      go_ret2
      exact HP.out
end Go.Proofs.YtghlcmljgpkjiabGreat
