/- KernS: texts that are built as one: KernState, KernOne. -/
import Derived.Test.YtbpaffkkphacdabMaths
import Derived.Test.YtbpaffkkphacdabLoopStmt
import Derived.Test.YtbpaffkkphacdabLoopP
/- What lies in memory as a kernel, and that new memory leaves it as it was. -/
namespace Go.Proofs.Ytbpaffkkphacdab
open Go.RowKit Go.Joins
set_option linter.unusedVariables false

def kCells (x : Kop) : Array Value := #[.int .i64 x.sl, .int .i64 x.sg, .int .i64 x.o, .int .i64 x.d, .int .i64 x.a, .int .i64 x.b, .int .i64 x.ar, .int .i64 x.sp, .int .i64 x.pl, .int .i64 x.nn]
/-- v is a slice of the Ops l -/
def OpsV (w : World) (v : Value) (l : List Kop) : Prop :=
  ∃ a cap, v = .slice a l.length cap ∧ l.length ≤ cap ∧ cap ≤ maxLen ∧
    (0 < l.length → ∃ blk off, a = some ⟨blk, off, none⟩ ∧ blk < w.heap.size ∧ ∀ i, i < l.length → ∀ j, j < 10 → w.cell? ⟨blk, off + i * 10 + j, none⟩ = (kCells (opAt l i))[j]?)
theorem OpsV.below {w w' : World} {v : Value} {l : List Kop} (h : OpsV w v l) (hb : Below w.heap.size w w') : OpsV w' v l := by
  obtain ⟨a, cap, e, h1, h2, h4⟩ := h
  refine ⟨a, cap, e, h1, h2, fun hp => ?_⟩
  obtain ⟨b, off, e2, h5, h6⟩ := h4 hp
  exact ⟨b, off, e2, Nat.lt_of_lt_of_le h5 hb.size, fun i hi j hj => by rw [bcell hb _ _ h5]; exact h6 i hi j hj⟩
/-- v is the kernel K -/
def KernV (w : World) (v : Value) (K : Kn) : Prop := ∃ kv, v = .agg #[.int .i64 K.pc, .int .i64 K.st, kv] ∧ OpsV w kv K.ops
theorem KernV.below {w w' : World} {v : Value} {K : Kn} (h : KernV w v K) (hb : Below w.heap.size w w') : KernV w' v K := by
  obtain ⟨kv, e, h1⟩ := h
  exact ⟨kv, e, h1.below hb⟩
theorem ten {w : World} {b o : Nat} {x : Kop} (h : ∀ j, j < 10 → w.cell? ⟨b, o + j, none⟩ = (kCells x)[j]?) :
    w.cell? ⟨b, o, none⟩ = some (.int .i64 x.sl) ∧ w.cell? ⟨b, o + 1, none⟩ = some (.int .i64 x.sg) ∧ w.cell? ⟨b, o + 2, none⟩ = some (.int .i64 x.o) ∧ w.cell? ⟨b, o + 3, none⟩ = some (.int .i64 x.d) ∧ w.cell? ⟨b, o + 4, none⟩ = some (.int .i64 x.a) ∧
      w.cell? ⟨b, o + 5, none⟩ = some (.int .i64 x.b) ∧ w.cell? ⟨b, o + 6, none⟩ = some (.int .i64 x.ar) ∧ w.cell? ⟨b, o + 7, none⟩ = some (.int .i64 x.sp) ∧ w.cell? ⟨b, o + 8, none⟩ = some (.int .i64 x.pl) ∧ w.cell? ⟨b, o + 9, none⟩ = some (.int .i64 x.nn) :=
  ⟨h 0 (by omega), h 1 (by omega), h 2 (by omega), h 3 (by omega), h 4 (by omega), h 5 (by omega), h 6 (by omega), h 7 (by omega), h 8 (by omega), h 9 (by omega)⟩
theorem mayK_no {t : Tg} {K : Kn} {logs : List Int} (h : mayT t = false ∨ inR K.pc 1 200 = false ∨ inR K.st 1 1001 = false ∨ inR K.ops.length 1 16 = false) : mayK t K logs = false := by
  unfold mayK
  rcases h with h | h | h | h <;> rw [h] <;> simp
theorem mayK_all {t : Tg} {K : Kn} {logs : List Int} (h1 : mayT t = true) (h2 : inR K.pc 1 200 = true) (h3 : inR K.st 1 1001 = true) (h4 : inR K.ops.length 1 16 = true) :
    mayK t K logs = allN (fun i => oneOk t.r K.pc K.st logs (opAt K.ops i) && decide ((manyK K.ops i : Int) ≤ unitsT t (clsv (opAt K.ops i).o))) K.ops.length := by
  unfold mayK
  rw [h1, h2, h3, h4]; simp
theorem units_cell {t : Tg} {c : Int} (h : c = 0 ∨ c = 1 ∨ c = 2) : (#[Value.int .i64 t.u0, .int .i64 t.u1, .int .i64 t.u2, .int .i64 t.w0, .int .i64 t.w1, .int .i64 t.w2, .int .i64 t.r])[c.toNat]? = some (.int .i64 (unitsT t c)) := by
  rcases h with rfl | rfl | rfl <;> rfl
end Go.Proofs.Ytbpaffkkphacdab
/- The contracts of the program's answers on one Op of a kernel: its time, its registers, its statement; nothing that was there is changed. -/
namespace Go.Proofs.Ytbpaffkkphacdab
open Go.RowKit Go.Joins
set_option linter.unusedVariables false

theorem pwithin_any (n lo hi : Int) (w : World) :
    Calls Try.prog 138 #[.int .i64 n, .int .i64 lo, .int .i64 hi] w fun e w' => e = .returned (.bool (inR n lo hi)) ∧ w' = w := by
  by_cases h : lo ≤ n ∧ n ≤ hi
  · rw [inR_yes h]
    obtain ⟨h1, h2⟩ := h
    go_enter Try.func138, Try.ntmps138
    go_wp2
    go_ret
    exact ⟨rfl, rfl⟩
  · rw [inR_no h]
    by_cases h1 : lo ≤ n
    · have h2 : ¬ n ≤ hi := fun h2 => h ⟨h1, h2⟩
      clear h
      go_enter Try.func138, Try.ntmps138
      go_wp2
      go_ret
      exact ⟨rfl, rfl⟩
    · clear h
      go_enter Try.func138, Try.ntmps138
      go_wp2
      go_ret
      exact ⟨rfl, rfl⟩
set_option maxHeartbeats 400000 in
theorem looks_any (op : Int) (w : World) : Calls Try.prog 78 #[.int .i64 op] w fun e w' => e = .returned (.int .i64 (looksK op)) ∧ w' = w := by
  rcases looks_three op with ⟨h, hx⟩ | ⟨h, h2, hx⟩ | ⟨h, h2, hx⟩
  · have HX := hide hx
    have hb : (op == 4) = true := by simpa using h
    clear h hx
    go_enter Try.func78, Try.ntmps78
    go_wp2_with fail
    go_ret
    exact ⟨ret_int HX.out.symm, rfl⟩
  · have HX := hide hx
    have hb : (op == 4) = false := by simpa using h
    clear h hx
    go_enter Try.func78, Try.ntmps78
    go_wp2_with (go_at_call 116; refine (lwithin_any _ _ _ _).mono ?_; rintro e w' ⟨rfl, rfl⟩)
    go_ret
    exact ⟨ret_int HX.out.symm, rfl⟩
  · have HX := hide hx
    have hb : (op == 4) = false := by simpa using h
    clear h hx
    go_enter Try.func78, Try.ntmps78
    go_wp2_with (go_at_call 116; refine (lwithin_any _ _ _ _).mono ?_; rintro e w' ⟨rfl, rfl⟩)
    go_ret
    exact ⟨ret_int HX.out.symm, rfl⟩

set_option maxHeartbeats 1000000 in
theorem timeMay_ten (pc st : Int) (kv : Value) (sl sg o d a b ar sp pl nn : Int) (w : World) (hp1 : 1 ≤ pc) (hp2 : pc ≤ 200) (hs1 : 1 ≤ st) (hs2 : st ≤ 1001) :
    Calls Try.prog 139 #[.agg #[.int .i64 pc, .int .i64 st, kv], .agg #[.int .i64 sl, .int .i64 sg, .int .i64 o, .int .i64 d, .int .i64 a, .int .i64 b, .int .i64 ar, .int .i64 sp, .int .i64 pl, .int .i64 nn]] w fun e w' => e = .returned (.bool (timeOk pc st ⟨sl, sg, o, d, a, b, ar, sp, pl, nn⟩)) ∧ Below w.heap.size w w' := by
  have HT : Hid (timeOk pc st ⟨sl, sg, o, d, a, b, ar, sp, pl, nn⟩ = (inR sl 0 (pc - 1) && inR sg 0 (st - 1) && decide (sg * pc + sl ≤ 1000))) := rfl
  cases h1 : inR sl 0 (pc - 1) with
  | false =>
    have HX : Hid (timeOk pc st ⟨sl, sg, o, d, a, b, ar, sp, pl, nn⟩ = false) := by show _ = _; rw [HT.out, h1]; rfl
    clear HT
    go_enter Try.func139, Try.ntmps139
    go_wp2_with (go_at_call 138; refine (pwithin_any _ _ _ _).mono ?_; rintro e w' ⟨rfl, rfl⟩)
    go_ret
    exact ⟨ret_bool HX.out.symm, below_alloc2 _ _ _⟩
  | true =>
    cases h2 : inR sg 0 (st - 1) with
    | false =>
      have HX : Hid (timeOk pc st ⟨sl, sg, o, d, a, b, ar, sp, pl, nn⟩ = false) := by show _ = _; rw [HT.out, h1, h2]; rfl
      clear HT
      go_enter Try.func139, Try.ntmps139
      go_wp2_with (go_at_call 138; refine (pwithin_any _ _ _ _).mono ?_; rintro e w' ⟨rfl, rfl⟩)
      go_ret
      exact ⟨ret_bool HX.out.symm, below_alloc2 _ _ _⟩
    | true =>
      have hs := inR_iff.1 h1
      have hg := inR_iff.1 h2
      obtain ⟨hs3, hs4⟩ := hs
      obtain ⟨hg3, hg4⟩ := hg
      have hm1 : 0 ≤ pc * sg := Int.mul_nonneg (by omega) (by omega)
      have hm2 : pc * sg ≤ 200 * 1001 := Int.mul_le_mul hp2 (by omega) (by omega) (by omega)
      have HX : Hid (timeOk pc st ⟨sl, sg, o, d, a, b, ar, sp, pl, nn⟩ = decide (sl + pc * sg ≤ 1000)) := by show _ = _; rw [HT.out, h1, h2, Int.mul_comm sg pc, Int.add_comm]; rfl
      clear HT
      go_enter Try.func139, Try.ntmps139
      go_wp2_with (go_at_call 138; refine (pwithin_any _ _ _ _).mono ?_; rintro e w' ⟨rfl, rfl⟩)
      go_ret
      exact ⟨ret_bool HX.out.symm, below_alloc2 _ _ _⟩

set_option maxHeartbeats 2000000 in
theorem registersMay_0 (p0 p1 p2 q0 q1 q2 r : Int) (sl sg o d a b ar sp pl nn : Int) (w : World) (hr1 : 1 ≤ r) (hr2 : r ≤ 128) (hL : looksK o = 0) (hd : inR d 0 (r - 1) = true) :
    Calls Try.prog 140 #[.agg #[.int .i64 p0, .int .i64 p1, .int .i64 p2, .int .i64 q0, .int .i64 q1, .int .i64 q2, .int .i64 r], .agg #[.int .i64 sl, .int .i64 sg, .int .i64 o, .int .i64 d, .int .i64 a, .int .i64 b, .int .i64 ar, .int .i64 sp, .int .i64 pl, .int .i64 nn]] w fun e w' => e = .returned (.bool (inR a 0 (0) && inR b 0 (0))) ∧ Below w.heap.size w w' := by
  have HLK : Hid (∀ W, Calls Try.prog 78 #[.int .i64 o] W fun e w' => e = .returned (.int .i64 0) ∧ w' = W) := fun W => hL ▸ looks_any o W
  clear hL
  obtain ⟨ra, hra⟩ : ∃ z, inR a 0 (0) = z := ⟨_, rfl⟩
  obtain ⟨rb, hrb⟩ : ∃ z, inR b 0 (0) = z := ⟨_, rfl⟩
  have HCA : Hid (∀ W, Calls Try.prog 138 #[.int .i64 a, .int .i64 0, .int .i64 (0)] W fun e w' => e = .returned (.bool ra) ∧ w' = W) := fun W => hra ▸ pwithin_any a 0 (0) W
  have HCB : Hid (∀ W, Calls Try.prog 138 #[.int .i64 b, .int .i64 0, .int .i64 (0)] W fun e w' => e = .returned (.bool rb) ∧ w' = W) := fun W => hrb ▸ pwithin_any b 0 (0) W
  rw [hra, hrb]
  clear hra hrb
  go_enter Try.func140, Try.ntmps140
  go_wp2_with (first
    | (go_at_call 138; refine (pwithin_any _ _ _ _).mono ?_; rintro e w' ⟨rfl, rfl⟩)
    | (go_at_call 78; refine (HLK.out _).mono ?_; rintro e w' ⟨rfl, rfl⟩))
  go_loopw [25] (fun i wr => wr = (((w.alloc (.cells #[.int .i64 p0, .int .i64 p1, .int .i64 p2, .int .i64 q0, .int .i64 q1, .int .i64 q2, .int .i64 r] 28)).alloc (.cells #[.int .i64 sl, .int .i64 sg, .int .i64 o, .int .i64 d, .int .i64 a, .int .i64 b, .int .i64 ar, .int .i64 sp, .int .i64 pl, .int .i64 nn] 91)).alloc (.cells #[.int .i64 a, .int .i64 b] 3)) ∧ (i = .int .i64 0 ∨ (i = .int .i64 1 ∧ ra = true) ∨ (i = .int .i64 2 ∧ ra = true ∧ rb = true))) (fun i _ => 2 - (intOf i).toNat)
  case atStart => exact ⟨rfl, .inl rfl⟩
  case round =>
    obtain ⟨rfl, hrel⟩ := hrel
    rcases hrel with rfl | ⟨rfl, rfl⟩ | ⟨rfl, rfl, rfl⟩
    · cases ra with
      | false =>
        go_wp2_with (go_at_call 138; refine (HCA.out _).mono ?_; rintro e w' ⟨rfl, rfl⟩)
        go_ret
        exact ⟨rfl, below_alloc3 _ _ _ _⟩
      | true =>
        go_wp2_with (go_at_call 138; refine (HCA.out _).mono ?_; rintro e w' ⟨rfl, rfl⟩)
        go_roundw
        case rel => exact ⟨by simp, .inr (.inl ⟨rfl, trivial⟩)⟩
        case measure => simp [intOf]
    · cases rb with
      | false =>
        go_wp2_with (go_at_call 138; refine (HCB.out _).mono ?_; rintro e w' ⟨rfl, rfl⟩)
        go_ret
        exact ⟨rfl, below_alloc3 _ _ _ _⟩
      | true =>
        go_wp2_with (go_at_call 138; refine (HCB.out _).mono ?_; rintro e w' ⟨rfl, rfl⟩)
        go_roundw
        case rel => exact ⟨by simp, .inr (.inr ⟨rfl, trivial, trivial⟩)⟩
        case measure => simp [intOf]
    · go_wp2_with fail
      go_ret
      exact ⟨rfl, below_alloc3 _ _ _ _⟩
set_option maxHeartbeats 2000000 in
theorem registersMay_1 (p0 p1 p2 q0 q1 q2 r : Int) (sl sg o d a b ar sp pl nn : Int) (w : World) (hr1 : 1 ≤ r) (hr2 : r ≤ 128) (hL : looksK o = 1) (hd : inR d 0 (r - 1) = true) :
    Calls Try.prog 140 #[.agg #[.int .i64 p0, .int .i64 p1, .int .i64 p2, .int .i64 q0, .int .i64 q1, .int .i64 q2, .int .i64 r], .agg #[.int .i64 sl, .int .i64 sg, .int .i64 o, .int .i64 d, .int .i64 a, .int .i64 b, .int .i64 ar, .int .i64 sp, .int .i64 pl, .int .i64 nn]] w fun e w' => e = .returned (.bool (inR a 0 (r - 1) && inR b 0 (0))) ∧ Below w.heap.size w w' := by
  have HLK : Hid (∀ W, Calls Try.prog 78 #[.int .i64 o] W fun e w' => e = .returned (.int .i64 1) ∧ w' = W) := fun W => hL ▸ looks_any o W
  clear hL
  obtain ⟨ra, hra⟩ : ∃ z, inR a 0 (r - 1) = z := ⟨_, rfl⟩
  obtain ⟨rb, hrb⟩ : ∃ z, inR b 0 (0) = z := ⟨_, rfl⟩
  have HCA : Hid (∀ W, Calls Try.prog 138 #[.int .i64 a, .int .i64 0, .int .i64 (r - 1)] W fun e w' => e = .returned (.bool ra) ∧ w' = W) := fun W => hra ▸ pwithin_any a 0 (r - 1) W
  have HCB : Hid (∀ W, Calls Try.prog 138 #[.int .i64 b, .int .i64 0, .int .i64 (0)] W fun e w' => e = .returned (.bool rb) ∧ w' = W) := fun W => hrb ▸ pwithin_any b 0 (0) W
  rw [hra, hrb]
  clear hra hrb
  go_enter Try.func140, Try.ntmps140
  go_wp2_with (first
    | (go_at_call 138; refine (pwithin_any _ _ _ _).mono ?_; rintro e w' ⟨rfl, rfl⟩)
    | (go_at_call 78; refine (HLK.out _).mono ?_; rintro e w' ⟨rfl, rfl⟩))
  go_loopw [25] (fun i wr => wr = (((w.alloc (.cells #[.int .i64 p0, .int .i64 p1, .int .i64 p2, .int .i64 q0, .int .i64 q1, .int .i64 q2, .int .i64 r] 28)).alloc (.cells #[.int .i64 sl, .int .i64 sg, .int .i64 o, .int .i64 d, .int .i64 a, .int .i64 b, .int .i64 ar, .int .i64 sp, .int .i64 pl, .int .i64 nn] 91)).alloc (.cells #[.int .i64 a, .int .i64 b] 3)) ∧ (i = .int .i64 0 ∨ (i = .int .i64 1 ∧ ra = true) ∨ (i = .int .i64 2 ∧ ra = true ∧ rb = true))) (fun i _ => 2 - (intOf i).toNat)
  case atStart => exact ⟨rfl, .inl rfl⟩
  case round =>
    obtain ⟨rfl, hrel⟩ := hrel
    rcases hrel with rfl | ⟨rfl, rfl⟩ | ⟨rfl, rfl, rfl⟩
    · cases ra with
      | false =>
        go_wp2_with (go_at_call 138; refine (HCA.out _).mono ?_; rintro e w' ⟨rfl, rfl⟩)
        go_ret
        exact ⟨rfl, below_alloc3 _ _ _ _⟩
      | true =>
        go_wp2_with (go_at_call 138; refine (HCA.out _).mono ?_; rintro e w' ⟨rfl, rfl⟩)
        go_roundw
        case rel => exact ⟨by simp, .inr (.inl ⟨rfl, trivial⟩)⟩
        case measure => simp [intOf]
    · cases rb with
      | false =>
        go_wp2_with (go_at_call 138; refine (HCB.out _).mono ?_; rintro e w' ⟨rfl, rfl⟩)
        go_ret
        exact ⟨rfl, below_alloc3 _ _ _ _⟩
      | true =>
        go_wp2_with (go_at_call 138; refine (HCB.out _).mono ?_; rintro e w' ⟨rfl, rfl⟩)
        go_roundw
        case rel => exact ⟨by simp, .inr (.inr ⟨rfl, trivial, trivial⟩)⟩
        case measure => simp [intOf]
    · go_wp2_with fail
      go_ret
      exact ⟨rfl, below_alloc3 _ _ _ _⟩
set_option maxHeartbeats 2000000 in
theorem registersMay_2 (p0 p1 p2 q0 q1 q2 r : Int) (sl sg o d a b ar sp pl nn : Int) (w : World) (hr1 : 1 ≤ r) (hr2 : r ≤ 128) (hL : looksK o = 2) (hd : inR d 0 (r - 1) = true) :
    Calls Try.prog 140 #[.agg #[.int .i64 p0, .int .i64 p1, .int .i64 p2, .int .i64 q0, .int .i64 q1, .int .i64 q2, .int .i64 r], .agg #[.int .i64 sl, .int .i64 sg, .int .i64 o, .int .i64 d, .int .i64 a, .int .i64 b, .int .i64 ar, .int .i64 sp, .int .i64 pl, .int .i64 nn]] w fun e w' => e = .returned (.bool (inR a 0 (r - 1) && inR b 0 (r - 1))) ∧ Below w.heap.size w w' := by
  have HLK : Hid (∀ W, Calls Try.prog 78 #[.int .i64 o] W fun e w' => e = .returned (.int .i64 2) ∧ w' = W) := fun W => hL ▸ looks_any o W
  clear hL
  obtain ⟨ra, hra⟩ : ∃ z, inR a 0 (r - 1) = z := ⟨_, rfl⟩
  obtain ⟨rb, hrb⟩ : ∃ z, inR b 0 (r - 1) = z := ⟨_, rfl⟩
  have HCA : Hid (∀ W, Calls Try.prog 138 #[.int .i64 a, .int .i64 0, .int .i64 (r - 1)] W fun e w' => e = .returned (.bool ra) ∧ w' = W) := fun W => hra ▸ pwithin_any a 0 (r - 1) W
  have HCB : Hid (∀ W, Calls Try.prog 138 #[.int .i64 b, .int .i64 0, .int .i64 (r - 1)] W fun e w' => e = .returned (.bool rb) ∧ w' = W) := fun W => hrb ▸ pwithin_any b 0 (r - 1) W
  rw [hra, hrb]
  clear hra hrb
  go_enter Try.func140, Try.ntmps140
  go_wp2_with (first
    | (go_at_call 138; refine (pwithin_any _ _ _ _).mono ?_; rintro e w' ⟨rfl, rfl⟩)
    | (go_at_call 78; refine (HLK.out _).mono ?_; rintro e w' ⟨rfl, rfl⟩))
  go_loopw [25] (fun i wr => wr = (((w.alloc (.cells #[.int .i64 p0, .int .i64 p1, .int .i64 p2, .int .i64 q0, .int .i64 q1, .int .i64 q2, .int .i64 r] 28)).alloc (.cells #[.int .i64 sl, .int .i64 sg, .int .i64 o, .int .i64 d, .int .i64 a, .int .i64 b, .int .i64 ar, .int .i64 sp, .int .i64 pl, .int .i64 nn] 91)).alloc (.cells #[.int .i64 a, .int .i64 b] 3)) ∧ (i = .int .i64 0 ∨ (i = .int .i64 1 ∧ ra = true) ∨ (i = .int .i64 2 ∧ ra = true ∧ rb = true))) (fun i _ => 2 - (intOf i).toNat)
  case atStart => exact ⟨rfl, .inl rfl⟩
  case round =>
    obtain ⟨rfl, hrel⟩ := hrel
    rcases hrel with rfl | ⟨rfl, rfl⟩ | ⟨rfl, rfl, rfl⟩
    · cases ra with
      | false =>
        go_wp2_with (go_at_call 138; refine (HCA.out _).mono ?_; rintro e w' ⟨rfl, rfl⟩)
        go_ret
        exact ⟨rfl, below_alloc3 _ _ _ _⟩
      | true =>
        go_wp2_with (go_at_call 138; refine (HCA.out _).mono ?_; rintro e w' ⟨rfl, rfl⟩)
        go_roundw
        case rel => exact ⟨by simp, .inr (.inl ⟨rfl, trivial⟩)⟩
        case measure => simp [intOf]
    · cases rb with
      | false =>
        go_wp2_with (go_at_call 138; refine (HCB.out _).mono ?_; rintro e w' ⟨rfl, rfl⟩)
        go_ret
        exact ⟨rfl, below_alloc3 _ _ _ _⟩
      | true =>
        go_wp2_with (go_at_call 138; refine (HCB.out _).mono ?_; rintro e w' ⟨rfl, rfl⟩)
        go_roundw
        case rel => exact ⟨by simp, .inr (.inr ⟨rfl, trivial, trivial⟩)⟩
        case measure => simp [intOf]
    · go_wp2_with fail
      go_ret
      exact ⟨rfl, below_alloc3 _ _ _ _⟩
set_option maxHeartbeats 1000000 in
theorem registersMay_d (p0 p1 p2 q0 q1 q2 r : Int) (sl sg o d a b ar sp pl nn : Int) (w : World) (hr1 : 1 ≤ r) (hr2 : r ≤ 128) (h1 : inR d 0 (r - 1) = false) :
    Calls Try.prog 140 #[.agg #[.int .i64 p0, .int .i64 p1, .int .i64 p2, .int .i64 q0, .int .i64 q1, .int .i64 q2, .int .i64 r], .agg #[.int .i64 sl, .int .i64 sg, .int .i64 o, .int .i64 d, .int .i64 a, .int .i64 b, .int .i64 ar, .int .i64 sp, .int .i64 pl, .int .i64 nn]] w fun e w' => e = .returned (.bool false) ∧ Below w.heap.size w w' := by
  go_enter Try.func140, Try.ntmps140
  go_wp2_with (go_at_call 138; refine (pwithin_any _ _ _ _).mono ?_; rintro e w' ⟨rfl, rfl⟩)
  go_ret
  exact ⟨rfl, below_alloc2 _ _ _⟩
theorem registersMay_ten (p0 p1 p2 q0 q1 q2 r : Int) (sl sg o d a b ar sp pl nn : Int) (w : World) (hr1 : 1 ≤ r) (hr2 : r ≤ 128) :
    Calls Try.prog 140 #[.agg #[.int .i64 p0, .int .i64 p1, .int .i64 p2, .int .i64 q0, .int .i64 q1, .int .i64 q2, .int .i64 r], .agg #[.int .i64 sl, .int .i64 sg, .int .i64 o, .int .i64 d, .int .i64 a, .int .i64 b, .int .i64 ar, .int .i64 sp, .int .i64 pl, .int .i64 nn]] w fun e w' => e = .returned (.bool (regsP r ⟨sl, sg, o, d, a, b, ar, sp, pl, nn⟩)) ∧ Below w.heap.size w w' := by
  have HT : regsP r ⟨sl, sg, o, d, a, b, ar, sp, pl, nn⟩ = (inR d 0 (r - 1) && inR a 0 (if 0 < looksK o then r - 1 else 0) && inR b 0 (if 1 < looksK o then r - 1 else 0)) := rfl
  rw [HT]
  cases h1 : inR d 0 (r - 1) with
  | false => exact registersMay_d p0 p1 p2 q0 q1 q2 r sl sg o d a b ar sp pl nn w hr1 hr2 h1
  | true =>
    rcases looks_three o with ⟨-, hx⟩ | ⟨-, -, hx⟩ | ⟨-, -, hx⟩
    · rw [hx]; exact registersMay_1 p0 p1 p2 q0 q1 q2 r sl sg o d a b ar sp pl nn w hr1 hr2 hx h1
    · rw [hx]; exact registersMay_2 p0 p1 p2 q0 q1 q2 r sl sg o d a b ar sp pl nn w hr1 hr2 hx h1
    · rw [hx]; exact registersMay_0 p0 p1 p2 q0 q1 q2 r sl sg o d a b ar sp pl nn w hr1 hr2 hx h1

set_option maxHeartbeats 1000000 in
theorem statement_0 (sl sg o d a b ar sp pl nn : Int) (w : World) (hL : looksK o = 0) :
    Calls Try.prog 141 #[.agg #[.int .i64 sl, .int .i64 sg, .int .i64 o, .int .i64 d, .int .i64 a, .int .i64 b, .int .i64 ar, .int .i64 sp, .int .i64 pl, .int .i64 nn]] w fun e w' => e = .returned (.agg #[.int .i64 o, .int .i64 0, .int .i64 0, .int .i64 0, .int .i64 0, .int .i64 ar, .int .i64 sp, .int .i64 pl, .int .i64 nn]) ∧ Below w.heap.size w w' := by
  have HLK : Hid (∀ W, Calls Try.prog 78 #[.int .i64 o] W fun e w' => e = .returned (.int .i64 0) ∧ w' = W) := fun W => hL ▸ looks_any o W
  clear hL
  go_enter Try.func141, Try.ntmps141
  go_wp2_with (go_at_call 78; refine (HLK.out _).mono ?_; rintro e w' ⟨rfl, rfl⟩)
  exact bodyPost_ret (v := .agg #[.int .i64 o, .int .i64 0, .int .i64 0, .int .i64 0, .int .i64 0, .int .i64 ar, .int .i64 sp, .int .i64 pl, .int .i64 nn]) (by simp [results, Try.results141, go_sem]) rfl ⟨rfl, (below_alloc3 _ _ _ _).alloc (by simp; omega) _⟩
set_option maxHeartbeats 1000000 in
theorem statement_1 (sl sg o d a b ar sp pl nn : Int) (w : World) (hL : looksK o = 1) :
    Calls Try.prog 141 #[.agg #[.int .i64 sl, .int .i64 sg, .int .i64 o, .int .i64 d, .int .i64 a, .int .i64 b, .int .i64 ar, .int .i64 sp, .int .i64 pl, .int .i64 nn]] w fun e w' => e = .returned (.agg #[.int .i64 o, .int .i64 0, .int .i64 1, .int .i64 0, .int .i64 0, .int .i64 ar, .int .i64 sp, .int .i64 pl, .int .i64 nn]) ∧ Below w.heap.size w w' := by
  have HLK : Hid (∀ W, Calls Try.prog 78 #[.int .i64 o] W fun e w' => e = .returned (.int .i64 1) ∧ w' = W) := fun W => hL ▸ looks_any o W
  clear hL
  go_enter Try.func141, Try.ntmps141
  go_wp2_with (go_at_call 78; refine (HLK.out _).mono ?_; rintro e w' ⟨rfl, rfl⟩)
  exact bodyPost_ret (v := .agg #[.int .i64 o, .int .i64 0, .int .i64 1, .int .i64 0, .int .i64 0, .int .i64 ar, .int .i64 sp, .int .i64 pl, .int .i64 nn]) (by simp [results, Try.results141, go_sem]) rfl ⟨rfl, (below_alloc3 _ _ _ _).alloc (by simp; omega) _⟩
set_option maxHeartbeats 1000000 in
theorem statement_2 (sl sg o d a b ar sp pl nn : Int) (w : World) (hL : looksK o = 2) :
    Calls Try.prog 141 #[.agg #[.int .i64 sl, .int .i64 sg, .int .i64 o, .int .i64 d, .int .i64 a, .int .i64 b, .int .i64 ar, .int .i64 sp, .int .i64 pl, .int .i64 nn]] w fun e w' => e = .returned (.agg #[.int .i64 o, .int .i64 0, .int .i64 1, .int .i64 0, .int .i64 1, .int .i64 ar, .int .i64 sp, .int .i64 pl, .int .i64 nn]) ∧ Below w.heap.size w w' := by
  have HLK : Hid (∀ W, Calls Try.prog 78 #[.int .i64 o] W fun e w' => e = .returned (.int .i64 2) ∧ w' = W) := fun W => hL ▸ looks_any o W
  clear hL
  go_enter Try.func141, Try.ntmps141
  go_wp2_with (go_at_call 78; refine (HLK.out _).mono ?_; rintro e w' ⟨rfl, rfl⟩)
  exact bodyPost_ret (v := .agg #[.int .i64 o, .int .i64 0, .int .i64 1, .int .i64 0, .int .i64 1, .int .i64 ar, .int .i64 sp, .int .i64 pl, .int .i64 nn]) (by simp [results, Try.results141, go_sem]) rfl ⟨rfl, (below_alloc3 _ _ _ _).alloc (by simp; omega) _⟩
theorem statement_any (x : Kop) (w : World) :
    Calls Try.prog 141 #[.agg (kCells x)] w fun e w' => e = .returned (.agg (stCells (stK x))) ∧ Below w.heap.size w w' := by
  obtain ⟨sl, sg, o, d, a, b, ar, sp, pl, nn⟩ := x
  rcases looks_three o with ⟨-, hx⟩ | ⟨-, -, hx⟩ | ⟨-, -, hx⟩
  · have e : stCells (stK ⟨sl, sg, o, d, a, b, ar, sp, pl, nn⟩) = #[.int .i64 o, .int .i64 0, .int .i64 1, .int .i64 0, .int .i64 0, .int .i64 ar, .int .i64 sp, .int .i64 pl, .int .i64 nn] := by unfold stCells stK; dsimp only; rw [hx]; rfl
    rw [e]; exact statement_1 sl sg o d a b ar sp pl nn w hx
  · have e : stCells (stK ⟨sl, sg, o, d, a, b, ar, sp, pl, nn⟩) = #[.int .i64 o, .int .i64 0, .int .i64 1, .int .i64 0, .int .i64 1, .int .i64 ar, .int .i64 sp, .int .i64 pl, .int .i64 nn] := by unfold stCells stK; dsimp only; rw [hx]; rfl
    rw [e]; exact statement_2 sl sg o d a b ar sp pl nn w hx
  · have e : stCells (stK ⟨sl, sg, o, d, a, b, ar, sp, pl, nn⟩) = #[.int .i64 o, .int .i64 0, .int .i64 0, .int .i64 0, .int .i64 0, .int .i64 ar, .int .i64 sp, .int .i64 pl, .int .i64 nn] := by unfold stCells stK; dsimp only; rw [hx]; rfl
    rw [e]; exact statement_0 sl sg o d a b ar sp pl nn w hx
end Go.Proofs.Ytbpaffkkphacdab
