/- The contract of slices.Compact at edges: each once; nothing but the row is changed. -/
import Derived.Test.YtpljieenjkbmmaaDepConcat
import Derived.Test.YtpljieenjkbmmaaDepList
import Derived.Laws.StructEq
import Derived.Laws.IdiomCopy
import Derived.Lib.SliceRun
import Derived.Deep.LoopGhost
import Derived.BigQuiet
import Derived.Deep.QuietTactic
namespace Go.Proofs.Ytpljieenjkbmmaa
open Go.RowKit Go.Joins Go.Lib
set_option linter.unusedVariables false

/-- block g holds the edges d, none of its cells frozen -/
def ErV [Inhabited Ed] (w : World) (g : Nat) (d : Array Ed) : Prop := ∀ i, i < d.size → ∀ j, j < 4 → w.cell? ⟨g, i * 4 + j, none⟩ = (edCells d[i]!)[j]? ∧ w.frozen? ⟨g, i * 4 + j, none⟩ = false
theorem ErV.parts [Inhabited Ed] {w : World} {g : Nat} {d : Array Ed} (h : ErV w g d) {i : Nat} (hi : i < d.size) :
    (w.cell? ⟨g, i * 4, none⟩ = some (.int .i64 d[i]!.fr) ∧ w.cell? ⟨g, i * 4 + 1, none⟩ = some (.int .i64 d[i]!.to) ∧ w.cell? ⟨g, i * 4 + 2, none⟩ = some (.int .i64 d[i]!.bk) ∧ w.cell? ⟨g, i * 4 + 3, none⟩ = some (.int .i64 d[i]!.wt)) ∧
    (w.frozen? ⟨g, i * 4, none⟩ = false ∧ w.frozen? ⟨g, i * 4 + 1, none⟩ = false ∧ w.frozen? ⟨g, i * 4 + 2, none⟩ = false ∧ w.frozen? ⟨g, i * 4 + 3, none⟩ = false) :=
  ⟨⟨(h i hi 0 (by omega)).1, (h i hi 1 (by omega)).1, (h i hi 2 (by omega)).1, (h i hi 3 (by omega)).1⟩, ⟨(h i hi 0 (by omega)).2, (h i hi 1 (by omega)).2, (h i hi 2 (by omega)).2, (h i hi 3 (by omega)).2⟩⟩
theorem ErV.set [Inhabited Ed] {w : World} {g : Nat} {d : Array Ed} (h : ErV w g d) {k : Nat} (hk : k < d.size) (u : Ed) : ErV (w.setCells g (k * 4) (edCells u)) g (d.setIfInBounds k u) := by
  intro i hi j hj
  have hi' : i < d.size := by simpa using hi
  refine ⟨?_, by rw [World.frozen?_setCells]; exact (h i hi' j hj).2⟩
  by_cases e : i = k
  · subst e
    have h1 := World.cell?_setCells_in g (edCells u) (i * 4) w (fun q hq => by
      have := (h i hi' q (by have : (edCells u).length = 4 := rfl; omega)).1
      rw [this]
      have : q < (edCells d[i]!).length := by have : (edCells u).length = 4 := rfl; show q < 4; omega
      rw [List.getElem?_eq_getElem this]; rfl) j (by show j < 4; exact hj)
    rw [h1, Go.Sort.getElem!_set_same d i u hi', List.getElem?_eq_getElem (by show j < 4; exact hj)]
  · rw [World.cell?_setCells_out _ _ _ _ _ (fun _ _ => by
      have : (edCells u).length = 4 := rfl
      show i * 4 + j < k * 4 ∨ k * 4 + (edCells u).length ≤ i * 4 + j
      omega), Go.Sort.getElem!_set_other d k i u e]
    exact (h i hi' j hj).1
theorem ErV.out [Inhabited Ed] {w : World} {g : Nat} {d : Array Ed} (h : ErV w g d) (o : Nat) (vs : List Value) (ho : d.size * 4 ≤ o) : ErV (w.setCells g o vs) g d := by
  intro i hi j hj
  refine ⟨?_, by rw [World.frozen?_setCells]; exact (h i hi j hj).2⟩
  rw [World.cell?_setCells_out _ _ _ _ _ (fun _ _ => .inl (by show i * 4 + j < o; omega))]
  exact (h i hi j hj).1
theorem ErV.less [Inhabited Ed] {w : World} {g : Nat} {d d' : Array Ed} (h : ErV w g d) (hs : d'.size ≤ d.size) (he : ∀ i, i < d'.size → d'[i]! = d[i]!) : ErV w g d' := fun i hi j hj => by
  rw [he i hi]; exact h i (by omega) j hj
theorem ErV.below [Inhabited Ed] {w w' : World} {g B : Nat} {d : Array Ed} (h : ErV w g d) (hb : Below B w w') (hg : g < B) : ErV w' g d := fun i hi j hj => by
  have hc : w'.cell? ⟨g, i * 4 + j, none⟩ = w.cell? ⟨g, i * 4 + j, none⟩ := hb.cell (p := ⟨g, i * 4 + j, none⟩) hg
  have hf : w'.frozen? ⟨g, i * 4 + j, none⟩ = w.frozen? ⟨g, i * 4 + j, none⟩ := by unfold World.frozen?; rw [hb.block g hg]
  rw [hc, hf]; exact h i hi j hj
theorem ErV.drawn [Inhabited Ed] {w : World} {g : Nat} {d : Array Ed} (h : ErV w g d) (n : Nat) : ErV (w.drewN n) g d := h
theorem below_setCells {B g : Nat} (hB : B ≤ g) : ∀ (vs : List Value) (o : Nat) (a w : World), Below B a w → Below B a (w.setCells g o vs)
  | [], _, _, _, h => h
  | v :: r, o, a, w, h => below_setCells hB r (o + 1) a _ (h.setCell (p := ⟨g, o, none⟩) hB v)
theorem clear_run {P : Program} (w : World) (t e ty : TypeId) (z : Value) (ht : P.underlying t = some (.slice e)) (hv : ∀ w, (zeroValue e).run P w = .ok z w) (b o n c : Nat) (hn : 0 < n)
    (hc : ∀ j, j < (Builtin.zeroCells z.cells n).toList.length → (w.cell? ⟨b, o + j, none⟩).isSome = true) (hf : ∀ j, j < (Builtin.zeroCells z.cells n).toList.length → w.frozen? ⟨b, o + j, none⟩ = false) (h1 : ∀ v ∈ (Builtin.zeroCells z.cells n).toList, v.oneCell' = true) :
    (Builtin.clear_ #[t] ty #[.slice (some ⟨b, o, none⟩) n c]).run P w = .ok (.tuple #[]) (w.setCells b o (Builtin.zeroCells z.cells n).toList) := by
  have hst := run_storeCells_cells (P := P) b o (Builtin.zeroCells z.cells n).toList 0 w (by simpa using hc) (by simpa using hf) h1
  simp only [Nat.add_zero] at hst
  obtain ⟨m, rfl⟩ : ∃ m, n = m + 1 := ⟨n - 1, by omega⟩
  simp [Builtin.clear_, run_underlying ht, hv, hst]
theorem zero_one {n : Nat} : ∀ v ∈ (Builtin.zeroCells (.agg #[.int .i64 0, .int .i64 0, .int .i64 0, .int .i64 0] : Value).cells n).toList, v.oneCell' = true := by
  intro v hv
  unfold Builtin.zeroCells at hv
  simp at hv
  obtain ⟨i, hi, rfl⟩ := hv
  have : i % 4 = 0 ∨ i % 4 = 1 ∨ i % 4 = 2 ∨ i % 4 = 3 := by omega
  rcases this with h | h | h | h <;> simp [Value.cells, h] <;> rfl
theorem size_setCells (b : Nat) : ∀ (vs : List Value) (o : Nat) (w : World), (w.setCells b o vs).heap.size = w.heap.size
  | [], _, _ => rfl
  | v :: r, o, w => (size_setCells b r (o + 1) _).trans (by simp [World.setCell])
theorem eqlE (x1 x2 x3 x4 y1 y2 y3 y4 : Int) (b : Bool) (hb : b = decide (x1 = y1 ∧ x2 = y2 ∧ x3 = y3 ∧ x4 = y4)) (w : World) : (binOp .eql 81 (.agg #[.int .i64 x1, .int .i64 x2, .int .i64 x3, .int .i64 x4]) (.agg #[.int .i64 y1, .int .i64 y2, .int .i64 y3, .int .i64 y4])).run Try.prog w = .ok (.bool b) w := by
  have hS : Try.prog.underlying 81 = some (.struct (Try.prog.fieldsOf 81)) := by kernel_rfl
  have hp : Try.prog.stoodInHeld 81 = false := by kernel_rfl
  rw [run_eql_struct, show (10000 : Nat) = 9999 + 1 from rfl, run_equalIn_agg w 9999 81 _ _ hS hp]
  simp only [Program.fieldsOf, Try.underlying81]
  have u3 := Try.underlying3
  go_simp
  subst hb
  by_cases h1 : x1 = y1 <;> by_cases h2 : x2 = y2 <;> by_cases h3 : x3 = y3 <;> by_cases h4 : x4 = y4 <;> simp [h1, h2, h3, h4]
theorem neqE (x1 x2 x3 x4 y1 y2 y3 y4 : Int) (b : Bool) (hb : b = !decide (x1 = y1 ∧ x2 = y2 ∧ x3 = y3 ∧ x4 = y4)) (w : World) : (binOp .neq 81 (.agg #[.int .i64 x1, .int .i64 x2, .int .i64 x3, .int .i64 x4]) (.agg #[.int .i64 y1, .int .i64 y2, .int .i64 y3, .int .i64 y4])).run Try.prog w = .ok (.bool b) w := by
  have hS : Try.prog.underlying 81 = some (.struct (Try.prog.fieldsOf 81)) := by kernel_rfl
  have hp : Try.prog.stoodInHeld 81 = false := by kernel_rfl
  rw [run_neq_struct, show (10000 : Nat) = 9999 + 1 from rfl, run_equalIn_agg w 9999 81 _ _ hS hp]
  simp only [Program.fieldsOf, Try.underlying81]
  have u3 := Try.underlying3
  go_simp
  subst hb
  by_cases h1 : x1 = y1 <;> by_cases h2 : x2 = y2 <;> by_cases h3 : x3 = y3 <;> by_cases h4 : x4 = y4 <;> simp [h1, h2, h3, h4]
theorem guardE (op : BinOp) (a b : Operand) (x1 x2 x3 x4 y1 y2 y3 y4 : Int) (w : World) : (eqGuard op 81 a b (.agg #[.int .i64 x1, .int .i64 x2, .int .i64 x3, .int .i64 x4]) (.agg #[.int .i64 y1, .int .i64 y2, .int .i64 y3, .int .i64 y4])).run Try.prog w = .ok () w := run_eqGuard_agg w op 81 a b _ _ (by kernel_rfl)

set_option maxHeartbeats 8000000 in
set_option maxRecDepth 100000 in
theorem compactE_walk [Inhabited Ed] [DecidableEq Ed] (g cap B : Nat) (d : Array Ed) (w : World) (hH : ErV w g d) (hB : B ≤ g) (hg : g < w.heap.size) (hsz : d.size ≤ 300) (hcap : d.size ≤ cap) (hm : cap ≤ 9223372036854775807) :
    Calls Try.prog 82 #[.slice (some ⟨g, 0, none⟩) d.size cap] w fun e w' => e = .returned (.slice (some ⟨g, 0, none⟩) (compactUpTo d d.size).length cap) ∧ ErV w' g (compactUpTo d d.size).toArray ∧ Below B w w' ∧ w.heap.size ≤ w'.heap.size := by
  have HH := hide hH
  clear hH
  have HALL : Hid (∀ wr, ErV wr g d → (∀ j, j < d.size → keeps d j = true) → compactUpTo d d.size = d.toList ∧ ErV wr g (compactUpTo d d.size).toArray) := by
    intro wr hr hall
    have e : compactUpTo d d.size = d.toList := by rw [compactUpTo_all d _ hall, range_map_get]
    exact ⟨e, by rw [e]; simpa using hr⟩
  have HEQ := hide eqlE
  have HNE := hide neqE
  have HGU := hide guardE
  by_cases h2 : d.size < 2
  · have h2i : (d.size : Int) < 2 := by omega
    go_enter Try.func82, Try.ntmps82
    go_wp2_with fail
    go_ret
    obtain ⟨e1, e2⟩ := HALL.out w HH.out (fun j hj => keeps_lt_one d j (by omega))
    exact ⟨by rw [e1]; simp, e2, Below.refl _ _, Nat.le_refl _⟩
  · have h2i : ¬ (d.size : Int) < 2 := by omega
    go_enter Try.func82, Try.ntmps82
    go_wp2_with fail
    go_loopw [3] (fun s3 wr => ∃ k : Nat, 1 ≤ k ∧ k ≤ d.size ∧ s3 = .int .i64 k ∧ (∀ j, j < k → keeps d j = true) ∧ ErV wr g d ∧ Below B w wr ∧ w.heap.size ≤ wr.heap.size) (fun s3 _ => d.size - (intOf s3).toNat)
    case atStart => exact ⟨1, Nat.le_refl _, by omega, rfl, keeps_lt_one d, HH.out, Below.refl _ _, Nat.le_refl _⟩
    case round =>
      obtain ⟨k, hk1, hk, rfl, hall, hE, hBe, hZ⟩ := hrel
      have HA := hide hall
      have HE := hide hE
      have HBe := hide hBe
      clear hall hE hBe
      by_cases hlt : k < d.size
      · obtain ⟨m, rfl⟩ : ∃ m, k = m + 1 := ⟨k - 1, by omega⟩
        obtain ⟨⟨c0, c1, c2, c3⟩, -⟩ := HE.out.parts hlt
        obtain ⟨⟨e0, e1, e2, e3⟩, -⟩ := HE.out.parts (i := m) (by omega)
        have HKP := hide (fun h => keeps_pos (d := d) (m := m + 1) h)
        have HKN := hide (fun h => keeps_neg (d := d) (m := m + 1) (by omega) h)
        rw [Nat.add_sub_cancel] at HKP HKN
        generalize d[m + 1]! = x at *
        generalize d[m]! = y at *
        obtain ⟨x1, x2, x3, x4⟩ := x
        obtain ⟨y1, y2, y3, y4⟩ := y
        dsimp only at c0 c1 c2 c3 e0 e1 e2 e3
        have hmi : (m : Int) < (d.size : Int) := by omega
        have hki : ((m : Int) + 1) < (d.size : Int) := by omega
        have hws : IntKind.i64.wrap ((m : Int) + 1 - 1) = (m : Int) := by rw [IntKind.wrap_i64]; omega
        have hgu := HGU.out .eql
        by_cases hdup : (⟨x1, x2, x3, x4⟩ : Ed) = ⟨y1, y2, y3, y4⟩
        · have heq := HEQ.out x1 x2 x3 x4 y1 y2 y3 y4 true (by rw [Ed.mk.injEq] at hdup; simp [hdup])
          go_wp2_with fail
          go_big_quiet ((fail))
          clear c0 c1 c2 c3 e0 e1 e2 e3 heq hgu hws
          have HDN := hide (HKN.out hdup)
          obtain ⟨R, hR⟩ : ∃ R, d.size - (m + 1) = R := ⟨_, rfl⟩
          have hRc : R ≤ cap - (m + 1) := by omega
          rename World => wo
          go_wp2_with fail
          go_loopw [3, 5] (fun s3 s5 wr => ∃ (kk m2 : Nat) (dk : Array Ed), s3 = .int .i64 kk ∧ s5 = .int .i64 ((m2 : Int) + 1) ∧ m + 1 + (m2 + 1) ≤ d.size ∧ CompInv d (m + 1 + (m2 + 1)) kk dk ∧ ErV wr g dk ∧ Below B w wr ∧ w.heap.size ≤ wr.heap.size) (fun _ s5 _ => d.size - (intOf s5).toNat)
          case atStart => exact ⟨m + 1, 0, d, rfl, rfl, by omega, CompInv.start HA.out HDN.out, HE.out, HBe.out.trans (below_draws _ _ _), by simpa using hZ⟩
          case round =>
            clear HE HBe hZ
            obtain ⟨kk, m2, dk, rfl, rfl, hle, hI, hE, hBe, hZ⟩ := hrel
            have hkk := hI.lt
            have hds := hI.size
            have HI := hide hI
            have HE := hide hE
            have HBe := hide hBe
            by_cases hlt2 : m + 1 + (m2 + 1) < d.size
            · obtain ⟨⟨c0, c1, c2, c3⟩, -⟩ := hE.parts (i := m + 1 + (m2 + 1)) (by omega)
              obtain ⟨⟨e0, e1, e2, e3⟩, -⟩ := hE.parts (i := m + 1 + m2) (by omega)
              obtain ⟨⟨b0, b1, b2, b3⟩, ⟨f0, f1, f2, f3⟩⟩ := hE.parts (i := kk) (by omega)
              rw [hI.high (m + 1 + (m2 + 1)) (by omega)] at c0 c1 c2 c3
              rw [hI.high (m + 1 + m2) (by omega)] at e0 e1 e2 e3
              rw [show (m + 1 + (m2 + 1)) * 4 = (m + 1) * 4 + (m2 + 1) * 4 by omega] at c0 c1 c2 c3
              rw [show (m + 1 + m2) * 4 = (m + 1) * 4 + m2 * 4 by omega] at e0 e1 e2 e3
              have HSK := hide (fun h => hI.skip (keeps_neg (d := d) (m := m + 1 + (m2 + 1)) (by omega) h))
              have HKE := hide (fun h => hI.keep hlt2 (keeps_pos (d := d) (m := m + 1 + (m2 + 1)) h))
              rw [show m + 1 + (m2 + 1) - 1 = m + 1 + m2 by omega] at HSK HKE
              have HST := hide (fun u => hE.set (k := kk) (by omega) u)
              clear hI hE hBe
              generalize d[m + 1 + (m2 + 1)]! = x at *
              generalize d[m + 1 + m2]! = y at *
              generalize dk[kk]! = z at *
              obtain ⟨x1, x2, x3, x4⟩ := x
              obtain ⟨y1, y2, y3, y4⟩ := y
              dsimp only at c0 c1 c2 c3 e0 e1 e2 e3
              have i1 : (m2 : Int) + 1 < (R : Int) := by omega
              have i2 : (m2 : Int) < (R : Int) := by omega
              have i3 : (kk : Int) < (d.size : Int) := by omega
              have hws : IntKind.i64.wrap ((m2 : Int) + 1 - 1) = (m2 : Int) := by rw [IntKind.wrap_i64]; omega
              have hgu := HGU.out .neq
              by_cases hxy : (⟨x1, x2, x3, x4⟩ : Ed) = ⟨y1, y2, y3, y4⟩
              · have hne := HNE.out x1 x2 x3 x4 y1 y2 y3 y4 false (by rw [Ed.mk.injEq] at hxy; simp [hxy])
                have HIS := hide (HSK.out hxy)
                clear hxy HSK HKE HST
                go_wp2_with fail
                go_big_quiet ((fail))
                go_wp2_with fail
                go_roundw
                case rel => exact ⟨kk, m2 + 1, dk, rfl, by go_num, by omega, HIS.out, HE.out, HBe.out.trans (below_draws _ _ _), by simpa using hZ⟩
                case measure => simp [intOf]; omega
              · have hne := HNE.out x1 x2 x3 x4 y1 y2 y3 y4 true (by rw [Ed.mk.injEq] at hxy; simp [hxy])
                have HIS := hide (HKE.out hxy)
                clear hxy HSK HKE
                go_wp2_with fail
                go_big_quiet ((fail))
                go_wp2_with fail
                go_roundw
                case rel => exact ⟨kk + 1, m2 + 1, dk.setIfInBounds kk ⟨x1, x2, x3, x4⟩, by go_num, by go_num, by omega, HIS.out, HST.out ⟨x1, x2, x3, x4⟩, below_setCells hB (edCells ⟨x1, x2, x3, x4⟩) (kk * 4) w _ (HBe.out.trans (below_draws _ _ _)), by have := size_setCells g (edCells ⟨x1, x2, x3, x4⟩) (kk * 4) wr; simpa using Nat.le_trans hZ (Nat.le_of_eq this.symm)⟩
                case measure => simp [intOf]; omega
            · have hend : m + 1 + (m2 + 1) = d.size := by omega
              have HCL : Hid (∀ ty, (Builtin.clear_ #[70] ty #[.slice (some ⟨g, kk * 4, none⟩) (d.size - kk) (cap - kk)]).run Try.prog wr = .ok (.tuple #[]) (wr.setCells g (kk * 4) (Builtin.zeroCells (.agg #[.int .i64 0, .int .i64 0, .int .i64 0, .int .i64 0] : Value).cells (d.size - kk)).toList)) := by
                intro ty
                have hzl : (Builtin.zeroCells (.agg #[.int .i64 0, .int .i64 0, .int .i64 0, .int .i64 0] : Value).cells (d.size - kk)).toList.length = (d.size - kk) * 4 := by rw [Array.length_toList, size_zeroCells]; rfl
                refine clear_run wr _ _ ty _ Try.underlying70 Try.zeroValue81 g (kk * 4) _ _ (by omega) ?_ ?_ ?_
                · intro j hj
                  rw [hzl] at hj
                  have h := (hE (kk + j / 4) (by omega) (j % 4) (by omega)).1
                  rw [show (kk + j / 4) * 4 + j % 4 = kk * 4 + j by omega] at h
                  rw [h, List.getElem?_eq_getElem (show j % 4 < (edCells dk[kk + j / 4]!).length by show j % 4 < 4; omega)]; rfl
                · intro j hj
                  rw [hzl] at hj
                  have h := (hE (kk + j / 4) (by omega) (j % 4) (by omega)).2
                  rw [show (kk + j / 4) * 4 + j % 4 = kk * 4 + j by omega] at h
                  exact h
                · intro v hv
                  exact zero_one v hv
              rw [hend] at HI
              have i1 : ¬ (m2 : Int) + 1 < (R : Int) := by omega
              have i3 : (kk : Int) ≤ (d.size : Int) := by omega
              have hcl := HCL.out
              clear hI hE hBe
              go_wp2_with fail
              go_ret
              refine ⟨by rw [HI.out.len]; rfl, ?_, below_setCells hB _ _ _ _ HBe.out, by rw [size_setCells]; exact hZ⟩
              refine (HE.out.less (d' := (compactUpTo d d.size).toArray) ?_ ?_).out _ _ ?_
              · rw [List.size_toArray, HI.out.len]; omega
              · intro i hi
                have hi' : i < kk := by rw [List.size_toArray, HI.out.len] at hi; exact hi
                have h := HI.out.low i hi'
                rw [getElem!_pos _ i hi]
                simp only [List.getElem_toArray]
                have h2 := List.getElem?_eq_getElem (l := compactUpTo d d.size) (i := i) (by rw [HI.out.len]; exact hi')
                rw [h] at h2
                exact (Option.some.inj h2).symm
              · rw [List.size_toArray, HI.out.len]; exact Nat.le_refl _
        · have heq := HEQ.out x1 x2 x3 x4 y1 y2 y3 y4 false (by rw [Ed.mk.injEq] at hdup; simp [hdup])
          have HK2 := hide (HKP.out hdup)
          go_wp2_with fail
          go_big_quiet ((fail))
          go_wp2_with fail
          go_roundw
          case rel => exact ⟨m + 1 + 1, by omega, by omega, by go_num, fun j hj => (by by_cases e : j = m + 1; exact e ▸ HK2.out; exact HA.out j (by omega)), HE.out, HBe.out.trans (below_draws _ _ _), by simpa using hZ⟩
          case measure => simp [intOf]; omega
      · have : k = d.size := by omega
        subst this
        have hki : ¬ (d.size : Int) < (d.size : Int) := by omega
        go_wp2_with fail
        go_ret
        obtain ⟨e1, e2⟩ := HALL.out _ HE.out HA.out
        exact ⟨by rw [e1]; simp, e2, HBe.out, hZ⟩
end Go.Proofs.Ytpljieenjkbmmaa
