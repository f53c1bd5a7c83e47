/- Ref10B: texts that are built as one: Ref10Far, CheckSay. -/
import Derived.Test.YtbpaffkkphacdabSounds
import Derived.Test.YtbpaffkkphacdabRef6A
import Derived.Test.YtbpaffkkphacdabLoopP
import Derived.Test.YtbpaffkkphacdabKernS
/- The contracts of the document's own answers on how far back a statement is looked at, and on numbers ahead of the first turn; nothing that was there is changed. -/
namespace Go.Proofs.Ytbpaffkkphacdab
open Go.RowKit Go.Joins
set_option linter.unusedVariables false
set_option linter.unusedSimpArgs false
set_option maxRecDepth 8192

theorem lbox1_cells {w wr : World} {v0 v1 v2 : Value} {ta : TypeId} (h : Below (w.heap.size + 1) (w.alloc (.cells #[v0, v1, v2] ta)) wr) :
    (wr.cell? ⟨w.heap.size, 0, none⟩ = some v0 ∧ wr.cell? ⟨w.heap.size, 1, none⟩ = some v1 ∧ wr.cell? ⟨w.heap.size, 2, none⟩ = some v2) ∧ w.heap.size < wr.heap.size ∧ Below w.heap.size w wr := by
  have hs : (w.alloc (.cells #[v0, v1, v2] ta)).heap.size = w.heap.size + 1 := by simp
  have hz := h.size
  have h' : Below (w.alloc (.cells #[v0, v1, v2] ta)).heap.size (w.alloc (.cells #[v0, v1, v2] ta)) wr := by rw [hs]; exact h
  refine ⟨⟨?_, ?_, ?_⟩, by omega, (below_alloc1 w _).trans (h.mono (by omega))⟩
  all_goals rw [bcell h' _ _ (by omega)]
  all_goals go_simp

set_option maxHeartbeats 4000000 in
theorem far_walk (L : Lp) (v0 v2 : Value) (b off cap : Nat) (a : Int) (w : World) (hl : L.body.length ≤ cap) (hm : cap ≤ 9223372036854775807) (hb : b < w.heap.size) (hcell : ∀ i, i < L.body.length → ∀ j, j < 9 → w.cell? ⟨b, off + i * 9 + j, none⟩ = (stCells (stAt L.body i))[j]?) :
    Calls Try.prog 49 #[.agg #[v0, .slice (some ⟨b, off, none⟩) L.body.length cap, v2], .int .i64 a] w fun e w' => e = .returned (.int .i64 (farD L a)) ∧ Below w.heap.size w w' := by
  have HCE := hide hcell
  clear hcell
  go_enter Try.func49, Try.ntmps49
  go_wp2_with fail
  go_loopw [5, 6] (fun fv i wr => ∃ k : Nat, k ≤ L.body.length ∧ i = .int .i64 k ∧ fv = .int .i64 (farN L a k) ∧ Below (w.heap.size + 1) (w.alloc (.cells #[v0, .slice (some ⟨b, off, none⟩) L.body.length cap, v2] 25)) wr) (fun _ i _ => L.body.length - (intOf i).toNat)
  case atStart => exact ⟨0, Nat.zero_le _, rfl, rfl, Below.refl _ _⟩
  case round =>
    obtain ⟨k, hk, rfl, rfl, hbel⟩ := hrel
    have HB := hide hbel
    obtain ⟨⟨l0, l1, l2⟩, z0, hbw⟩ := lbox1_cells hbel
    have HBW := hide hbw
    by_cases hkl : k < L.body.length
    · have hki : (k : Int) < (L.body.length : Int) := by omega
      obtain ⟨c0, c1, c2, c3, c4, c5, c6, c7, c8⟩ := nine (fun j hj => (bcell hbw b (off + k * 9 + j) hb).trans (HCE.out k hkl j hj))
      have hbz : b < wr.heap.size := by have := hbw.size; omega
      have hz1 : w.heap.size + 1 ≤ wr.heap.size := by omega
      have HNX : Hid (farN L a (k + 1) = farU (usesL (stAt L.body k)) a (farN L a k) (usesL (stAt L.body k)).length) := rfl
      have HUS : Hid (∀ W, Calls Try.prog 45 #[.agg #[.int .i64 (stAt L.body k).o, .int .i64 (stAt L.body k).xa, .int .i64 (stAt L.body k).xb, .int .i64 (stAt L.body k).ya, .int .i64 (stAt L.body k).yb, .int .i64 (stAt L.body k).ar, .int .i64 (stAt L.body k).sp, .int .i64 (stAt L.body k).pl, .int .i64 (stAt L.body k).nn]] W fun e w' => ∃ v, e = .returned v ∧ RefsV w' v (usesL (stAt L.body k)) ∧ Below W.heap.size W w') := fun W => uses_any (stAt L.body k) W
      obtain ⟨us, hus⟩ : ∃ us, usesL (stAt L.body k) = us := ⟨_, rfl⟩
      rw [hus] at HNX HUS
      obtain ⟨f, hf⟩ : ∃ f, farN L a k = f := ⟨_, rfl⟩
      rw [hf] at HNX ⊢
      generalize stAt L.body k = xk at *
      obtain ⟨o, xa, xb, ya, yb, ar, sp, pl, nn⟩ := xk
      clear hbel hbw hus hf l0 l2
      go_wp2_with fail
      refine (HUS.out _).mono ?_
      rintro e x1 ⟨uv, rfl, hU, hb1⟩
      obtain ⟨ua, uc, rfl, hu1, hu2, hu3⟩ := hU
      unfold maxLen at hu2
      have HU3 := hide hu3
      have HB1 := hide (HB.out.trans (hb1.mono hz1))
      clear hb1 hu3 c0 c1 c2 c3 c4 c5 c6 c7 c8 l1
      go_wp2_with fail
      go_loopw [5, 8] (fun fv i wr2 => ∃ q : Nat, q ≤ us.length ∧ i = .int .i64 q ∧ fv = .int .i64 (farU us a f q) ∧ wr2 = x1) (fun _ i _ => us.length - (intOf i).toNat)
      case atStart => exact ⟨0, Nat.zero_le _, rfl, rfl, rfl⟩
      case round =>
        obtain ⟨q, hq, rfl, rfl, rfl⟩ := hrel
        by_cases hql : q < us.length
        · have hqi : (q : Int) < (us.length : Int) := by omega
          obtain ⟨ub, uo, rfl, hub, hucell⟩ := HU3.out (by omega)
          obtain ⟨d0, d1⟩ := hucell q hql
          have HFU : Hid (farU us a f (q + 1) = if (refAt us q).1 = a ∧ farU us a f q < (refAt us q).2 then (refAt us q).2 else farU us a f q) := rfl
          generalize refAt us q = rf at *
          generalize farU us a f q = fq at *
          obtain ⟨r1, r2⟩ := rf
          simp only at d0 d1
          clear hucell
          by_cases h1 : r1 = a
          · have h1b : (r1 == a) = true := by simpa using h1
            by_cases h2 : fq < r2
            · have HN : Hid (farU us a f (q + 1) = r2) := by show _ = _; rw [HFU.out, if_pos ⟨h1, h2⟩]
              clear HFU h1
              go_wp2_with fail
              go_roundw
              case rel => exact ⟨q + 1, by omega, by go_num, by rw [HN.out], trivial⟩
              case measure => simp [intOf]; omega
            · have HN : Hid (farU us a f (q + 1) = fq) := by show _ = _; rw [HFU.out, if_neg (fun h => h2 h.2)]
              clear HFU h1
              go_wp2_with fail
              go_roundw
              case rel => exact ⟨q + 1, by omega, by go_num, by rw [HN.out], trivial⟩
              case measure => simp [intOf]; omega
          · have h1b : (r1 == a) = false := by simpa using h1
            have HN : Hid (farU us a f (q + 1) = fq) := by show _ = _; rw [HFU.out, if_neg (fun h => h1 h.1)]
            clear HFU h1
            go_wp2_with fail
            go_roundw
            case rel => exact ⟨q + 1, by omega, by go_num, by rw [HN.out], trivial⟩
            case measure => simp [intOf]; omega
        · have e : q = us.length := by omega
          subst e
          have hqi : ¬ (us.length : Int) < (us.length : Int) := by omega
          go_wp2_with fail
          go_roundw
          case rel => exact ⟨k + 1, by omega, by go_num, by rw [HNX.out], HB1.out⟩
          case measure => simp [intOf]; omega
    · have e : k = L.body.length := by omega
      subst e
      have hki : ¬ (L.body.length : Int) < (L.body.length : Int) := by omega
      clear hbel hbw
      go_wp2_with fail
      go_ret
      exact ⟨rfl, HBW.out⟩
/-- numbers ahead of the first turn -/
def befB (L : Lp) (B : List (List Int)) : Bool := decide (B.length = L.body.length) && allN (fun i => decide ((rowAt B i).length = 3)) B.length
set_option maxHeartbeats 4000000 in
theorem before_walk (L : Lp) (v0 v2 : Value) (a1 : Option Addr) (cap : Nat) (bv : Value) (B : List (List Int)) (w : World) (hB : IntRows w bv B) :
    Calls Try.prog 20 #[.agg #[v0, .slice a1 L.body.length cap, v2], bv] w fun e w' => e = .returned (.bool (befB L B)) ∧ Below w.heap.size w w' := by
  obtain ⟨ba, bc, rfl, hb1, hb2, hb3⟩ := hB
  unfold maxLen at hb2
  have HB3 := hide hb3
  clear hb3
  by_cases hlen : B.length = L.body.length
  · have HD : Hid (befB L B = allN (fun i => decide ((rowAt B i).length = 3)) B.length) := by show _ = _; unfold befB; rw [decide_eq_true hlen, Bool.true_and]
    have hne : ((B.length : Int) != (L.body.length : Int)) = false := by simp [hlen]
    clear hlen
    go_enter Try.func20, Try.ntmps20
    go_wp2_with fail
    go_loopw [5] (fun i wr => ∃ k : Nat, k ≤ B.length ∧ i = .int .i64 k ∧ allN (fun i => decide ((rowAt B i).length = 3)) k = true ∧ wr = w.alloc (.cells #[v0, .slice a1 L.body.length cap, v2] 25)) (fun i _ => B.length - (intOf i).toNat)
    case atStart => exact ⟨0, Nat.zero_le _, rfl, rfl, rfl⟩
    case round =>
      obtain ⟨k, hk, rfl, hall, rfl⟩ := hrel
      have HA := hide hall
      clear hall
      by_cases hkl : k < B.length
      · have hki : (k : Int) < (B.length : Int) := by omega
        obtain ⟨bb, bo, rfl, hbz, hbcell⟩ := HB3.out (by omega)
        obtain ⟨u, hu, ua, uc, rfl, -⟩ := hbcell k hkl
        have HNX : Hid (allN (fun i => decide ((rowAt B i).length = 3)) (k + 1) = decide ((rowAt B k).length = 3)) := by show (allN _ k && _) = _; rw [HA.out, Bool.true_and]
        have HNO : Hid ((rowAt B k).length ≠ 3 → befB L B = false) := fun h => by rw [HD.out]; exact allN_false hkl (decide_eq_false h)
        generalize (rowAt B k).length = rl at *
        clear hbcell
        by_cases h3 : rl = 3
        · have h3b : ((rl : Int) != (3 : Int)) = false := by simp; omega
          have HN : Hid (allN (fun i => decide ((rowAt B i).length = 3)) (k + 1) = true) := by show _ = _; rw [HNX.out, decide_eq_true h3]
          clear h3 HNO HNX
          go_wp2_with fail
          go_roundw
          case rel => exact ⟨k + 1, by omega, by go_num, HN.out, trivial⟩
          case measure => simp [intOf]; omega
        · have h3b : ((rl : Int) != (3 : Int)) = true := by simp; omega
          have HN := hide (HNO.out h3)
          clear h3 HNO HNX
          go_wp2_with fail
          go_ret
          exact ⟨ret_bool HN.out.symm, below_alloc1 _ _⟩
      · have e : k = B.length := by omega
        subst e
        have hki : ¬ (B.length : Int) < (B.length : Int) := by omega
        have HN : Hid (befB L B = true) := by show _ = _; rw [HD.out, HA.out]
        go_wp2_with fail
        go_ret
        exact ⟨ret_bool HN.out.symm, below_alloc1 _ _⟩
  · have HD : Hid (befB L B = false) := by show _ = _; unfold befB; rw [decide_eq_false hlen]; rfl
    have hne : ((B.length : Int) != (L.body.length : Int)) = true := by simp; omega
    clear hlen
    go_enter Try.func20, Try.ntmps20
    go_wp2_with fail
    go_ret
    exact ⟨ret_bool HD.out.symm, below_alloc1 _ _⟩
end Go.Proofs.Ytbpaffkkphacdab
/- How the program takes, enters and leaves (TakesC, EnterC, LeaveC). -/
namespace Go.Proofs.Ytbpaffkkphacdab
open Go.RowKit Go.Joins
set_option linter.unusedVariables false

/-- how the program takes kernels -/
def TakesC : Prop := ∀ (v kv ov : Value) (t : Tg) (L : Lp) (K : Kn) (O : List Int) (w : World), LoopV w v L → KernV w kv K → Ints w ov O → Calls Try.prog 16 #[v, .agg t.cells, kv, ov] w fun e w' => e = .returned (.bool (takenD L t K O)) ∧ Below w.heap.size w w'
/-- how the program enters -/
def EnterC : Prop := ∀ (v kv ov bv : Value) (t : Tg) (L : Lp) (K : Kn) (O : List Int) (B : List (List Int)) (w : World), LoopV w v L → KernV w kv K → Ints w ov O → IntRows w bv B →
  Calls Try.prog 18 #[v, .agg t.cells, kv, ov, bv] w fun e w' => Below w.heap.size w w' ∧ ∃ ra rl rc c, e = .returned (.tuple #[.slice ra rl rc, .int .i64 c]) ∧ ((takenD L t K O && befB L B) = false → c = 2 ∧ rl = 0) ∧ ((takenD L t K O && befB L B) = true → c = 0 ∧ Ints w' (.slice ra rl rc) (enterD L t K O B))
/-- how the program leaves -/
def LeaveC : Prop := ∀ (v kv ov bv rv : Value) (t : Tg) (L : Lp) (K : Kn) (O : List Int) (B : List (List Int)) (R : List Int) (turns : Int) (w : World), LoopV w v L → KernV w kv K → Ints w ov O → IntRows w bv B → Ints w rv R →
  Calls Try.prog 19 #[v, .agg t.cells, kv, ov, bv, rv, .int .i64 turns] w fun e w' => Below w.heap.size w w' ∧ ∃ ra rl rc c, e = .returned (.tuple #[.slice ra rl rc, .int .i64 c]) ∧ ((takenD L t K O && befB L B && decide ((R.length : Int) = t.r)) = false → c = 2 ∧ rl = 0) ∧ ((takenD L t K O && befB L B && decide ((R.length : Int) = t.r)) = true → inR turns 0 200 = false → c = 3 ∧ rl = 0) ∧ ((takenD L t K O && befB L B && decide ((R.length : Int) = t.r)) = true → inR turns 0 200 = true → c = 0 ∧ Ints w' (.slice ra rl rc) (leaveD L t K O B R turns))
end Go.Proofs.Ytbpaffkkphacdab
