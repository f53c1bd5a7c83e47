/- KernelNone's walk: for every machine, kernel, registers and words in memory the law returns true, if the program's Run answers as RunC says: with no turns nothing becomes anything else; nothing that was there is changed. -/
import Derived.Test.YtlgphgfldfjkkaaKernRuns
namespace Go.Proofs.Ytlgphgfldfjkkaa
open Go.RowKit Go.Joins
set_option linter.unusedVariables false

/-- the law's own kernel and machine -/
def knownK : Kn := ⟨1, 1, [⟨0, 0, 2, 0, 0, 0, 0, 0, 0, 0⟩]⟩
def oneT : Tg := ⟨1, 1, 1, 1, 1, 1, 1⟩
def wn (W : World) (g : Nat) : World := (((W.alloc (.cells #[.int .i64 0, .int .i64 0, .int .i64 2, .int .i64 0, .int .i64 0, .int .i64 0, .int .i64 0, .int .i64 0, .int .i64 0, .int .i64 0] 68)).alloc (.cells #[.int .i64 1, .int .i64 1, .slice (some ⟨g, 0, none⟩) 1 1] 55)).alloc (.cells #[.int .i64 1, .int .i64 1, .int .i64 1, .int .i64 1, .int .i64 1, .int .i64 1, .int .i64 1] 49)).alloc (.cells #[.int .i64 7] 2)
theorem wn_size (W : World) (g : Nat) : (wn W g).heap.size = W.heap.size + 4 := by unfold wn; simp
theorem wn_below (W : World) (g : Nat) : Below W.heap.size W (wn W g) := by
  unfold wn
  exact ((((Below.refl _ _).alloc (Nat.le_refl _) _).alloc (by simp) _).alloc (by simp; omega) _).alloc (by simp; omega) _
theorem wn_kern (W : World) (g : Nat) (hg : g = W.heap.size) : KernV (wn W g) (.agg #[.int .i64 1, .int .i64 1, .slice (some ⟨g, 0, none⟩) 1 1]) knownK := by
  refine ⟨_, rfl, some ⟨g, 0, none⟩, 1, rfl, Nat.le_refl _, by unfold maxLen; omega, fun _ => ⟨g, 0, rfl, by rw [wn_size]; omega, fun i hi j hj => ?_⟩⟩
  have hi0 : i = 0 := by have : i < 1 := hi; omega
  subst hi0
  have hb : (wn W g).heap[g]? = some (.cells #[.int .i64 0, .int .i64 0, .int .i64 2, .int .i64 0, .int .i64 0, .int .i64 0, .int .i64 0, .int .i64 0, .int .i64 0, .int .i64 0] 68 (0, 0)) := by
    unfold wn
    rw [hg]
    rw [Below.heap_alloc _ _ _ (by simp; omega), Below.heap_alloc _ _ _ (by simp; omega), Below.heap_alloc _ _ _ (by simp)]
    show (W.heap.push _)[W.heap.size]? = _
    simp
  rw [cell_of_block hb]
  have hj9 : j = 0 ∨ j = 1 ∨ j = 2 ∨ j = 3 ∨ j = 4 ∨ j = 5 ∨ j = 6 ∨ j = 7 ∨ j = 8 ∨ j = 9 := by omega
  rcases hj9 with rfl | rfl | rfl | rfl | rfl | rfl | rfl | rfl | rfl | rfl <;> rfl
theorem wn_regs (W : World) (g : Nat) (hg : g = W.heap.size) : Ints (wn W g) (.slice (some ⟨g + 1 + 1 + 1, 0, none⟩) 1 1) [7] := by
  refine ⟨some ⟨g + 1 + 1 + 1, 0, none⟩, 1, rfl, Nat.le_refl _, by unfold maxLen; omega, fun i hi => ?_, fun _ => ⟨g + 1 + 1 + 1, 0, rfl, by rw [wn_size]; omega, fun i hi => ?_⟩⟩
  · have hi0 : i = 0 := by have : i < 1 := hi; omega
    subst hi0
    exact ⟨by decide, by decide⟩
  · have hi0 : i = 0 := by have : i < 1 := hi; omega
    subst hi0
    have hb : (wn W g).heap[g + 1 + 1 + 1]? = some (.cells #[.int .i64 7] 2 (0, 0)) := by
      have key : ∀ X : World, X.heap.size = g + 1 + 1 + 1 → (X.alloc (.cells #[.int .i64 7] 2)).heap[g + 1 + 1 + 1]? = some (.cells #[.int .i64 7] 2 (0, 0)) := fun X hX => by
        rw [← hX]
        show (X.heap.push _)[X.heap.size]? = _
        simp
      unfold wn
      exact key _ (by simp; omega)
    rw [cell_of_block hb]; rfl
theorem known_ok : wrongK oneT knownK [(7 : Int)].length [] 3 = 0 := by decide
theorem known_two : regsOf [(7 : Int)].length (playK oneT knownK (logsOf []) 3 [7] []) = [2] := by decide
theorem runC_known (hRun : RunC) (W : World) (g : Nat) (hg : g = W.heap.size) :
    Calls Try.prog 35 #[.agg #[.int .i64 1, .int .i64 1, .int .i64 1, .int .i64 1, .int .i64 1, .int .i64 1, .int .i64 1], .agg #[.int .i64 1, .int .i64 1, .slice (some ⟨g, 0, none⟩) 1 1], .slice (some ⟨g + 1 + 1 + 1, 0, none⟩) 1 1, .slice none 0 0, .int .i64 3] (wn W g) fun e w' => ∃ b off rc ma mc ml, e = .returned (.tuple #[.slice (some ⟨b, off, none⟩) 1 rc, .slice ma ml mc, .int .i64 0]) ∧ w'.cell? ⟨b, off, none⟩ = some (.int .i64 2) ∧ b < w'.heap.size ∧ Below (wn W g).heap.size (wn W g) w' :=
  (runC_ok hRun oneT _ _ (.slice none 0 0) knownK [7] [] 3 (wn W g) (wn_kern W g hg) (wn_regs W g hg) ⟨none, 0, rfl, Nat.le_refl _, Nat.zero_le _, fun h => absurd h (Nat.lt_irrefl _)⟩ (fun x hx => by
    have e : x = ⟨0, 0, 2, 0, 0, 0, 0, 0, 0, 0⟩ := by simpa [knownK] using hx
    rw [e]; exact ⟨by decide, by decide⟩) (by simp) known_ok (.inr (by decide))).mono fun e w' ⟨ra, rc, ma, mc, rl, ml, h1, h2, h3, h4⟩ => by
    rw [known_two] at h2
    obtain ⟨a, cap, hv, -, -, -, hc⟩ := h2
    obtain ⟨b, off, rfl, hb, hcell⟩ := hc (by decide)
    injection hv with e1 e2 e3
    subst e1; subst e2; subst e3
    exact ⟨b, off, _, ma, mc, ml, h1, hcell 0 (by decide), hb, h4⟩
theorem regs_start (R : List Int) (M : List (List Int)) : regsOf R.length (startK R M) = R := by
  unfold regsOf startK
  refine nth_ext (by simp) fun j hj => ?_
  have hj' : j < R.length := by simpa using hj
  show ((List.range R.length).map fun i => nth R i).getD j 0 = _
  simp [List.getD, hj']
theorem words_start (R : List Int) (M : List (List Int)) : wordsOf M (startK R M) = M := by
  unfold wordsOf startK
  refine row_ext (by simp) fun i hi => ?_
  have hi' : i < M.length := by simpa using hi
  have hr : rowAt ((List.range M.length).map fun i => (List.range (rowAt M i).length).map fun j => nth (rowAt M i) j) i = (List.range (rowAt M i).length).map fun j => nth (rowAt M i) j := by
    unfold rowAt; simp [List.getD, hi']
  show rowAt ((List.range M.length).map fun i => (List.range (rowAt M i).length).map fun j => nth (rowAt M i) j) i = rowAt M i
  rw [hr]
  refine nth_ext (by simp) fun j hj => ?_
  have hj' : j < (rowAt M i).length := by simpa using hj
  show ((List.range (rowAt M i).length).map fun j => nth (rowAt M i) j).getD j 0 = _
  simp [List.getD, hj']
theorem play_none (t : Tg) (K : Kn) (logs R : List Int) (M : List (List Int)) : playK t K logs 0 R M = startK R M := by unfold playK; rw [if_pos rfl]

set_option maxHeartbeats 2000000 in
theorem kernelNone_all (hRun : RunC) (p0 p1 p2 q0 q1 q2 r pc st : Int) (ops : List Kop) (ka : Option Addr) (kc : Nat) (ra : Option Addr) (rc : Nat) (R : List Int) (ma : Option Addr) (mc : Nat) (M : List (List Int)) (w : World)
    (hK : KernV w (.agg #[.int .i64 pc, .int .i64 st, .slice ka ops.length kc]) ⟨pc, st, ops⟩) (hR : Ints w (.slice ra R.length rc) R) (hM : IntRows w (.slice ma M.length mc) M) (hnn : ∀ x ∈ ops, I64 x.nn) (hbig : M.length * 24 ≤ 140737488351232) :
    Calls Try.prog 10 #[.agg #[.int .i64 p0, .int .i64 p1, .int .i64 p2, .int .i64 q0, .int .i64 q1, .int .i64 q2, .int .i64 r], (.agg #[.int .i64 pc, .int .i64 st, .slice ka ops.length kc]), .slice ra R.length rc, .slice ma M.length mc] w fun e w' => e = .returned (.bool true) ∧ Below w.heap.size w w' := by
  have HKN := hide (runC_known hRun (bxk w p0 p1 p2 q0 q1 q2 r pc st ka ops.length kc) (w.heap.size + 1 + 1) (bxk_size w p0 p1 p2 q0 q1 q2 r pc st ka ops.length kc).symm)
  have HB0 : Hid (Below (bxk w p0 p1 p2 q0 q1 q2 r pc st ka ops.length kc).heap.size (bxk w p0 p1 p2 q0 q1 q2 r pc st ka ops.length kc) (wn (bxk w p0 p1 p2 q0 q1 q2 r pc st ka ops.length kc) (w.heap.size + 1 + 1))) := wn_below _ _
  go_enter Try.func10, Try.ntmps10
  go_wp2_with fail
  refine HKN.out.mono ?_
  rintro e x1 ⟨b1, o1, rc1, ma1, mc1, ml1, rfl, hcell, hbz, hb⟩
  have HBx1 : Hid (Below (bxk w p0 p1 p2 q0 q1 q2 r pc st ka ops.length kc).heap.size (bxk w p0 p1 p2 q0 q1 q2 r pc st ka ops.length kc) x1) := HB0.out.trans (hb.mono (by rw [wn_size]; omega))
  clear hb HKN
  obtain ⟨⟨a0, a1, a2, a3, a4, a5, a6⟩, b0, b1, b2, z0, z1, hbw⟩ := bxk_cells (by rw [← bxk_size w p0 p1 p2 q0 q1 q2 r pc st ka ops.length kc]; exact HBx1.out)
  have HWx1 := hide hbw
  clear hbw
  have hne : ((2 : Int) != 2) = false := rfl
  go_wp2_with fail
  by_cases hw : wrongK ⟨p0, p1, p2, q0, q1, q2, r⟩ ⟨pc, st, ops⟩ R.length M 0 = 0
  · refine (runC_ok hRun ⟨p0, p1, p2, q0, q1, q2, r⟩ (.agg #[.int .i64 pc, .int .i64 st, .slice ka ops.length kc]) (.slice ra R.length rc) (.slice ma M.length mc) ⟨pc, st, ops⟩ R M 0 _ (hK.below HWx1.out) (hR.below HWx1.out) (hM.below HWx1.out) hnn hbig hw (.inl rfl)).mono ?_
    rintro e x2 ⟨ra2, rc2, ma2, mc2, rl2, ml2, rfl, h1, h2, hb⟩
    rw [play_none] at h1 h2
    rw [regs_start] at h1
    rw [words_start] at h2
    have HWx2 := hide (HWx1.out.trans (hb.mono HWx1.out.size))
    have H1 := hide h1
    have H2 := hide h2
    clear h1 h2 hb hw
    clear a0 a1 a2 a3 a4 a5 a6 b0 b1 b2 z0 z1
    go_wp2_with fail
    refine (numbers_any _ _ _ _ _ H1.out (hR.below HWx2.out)).mono ?_
    rintro e x8 ⟨rfl, n8, rfl⟩
    rw [decide_eq_true rfl]
    go_wp2_with fail
    refine (words_any _ _ _ _ _ (H2.out.below (below_draws _ _ _)) ((hM.below HWx2.out).below (below_draws _ _ _))).mono ?_
    rintro e x9 ⟨rfl, n9, rfl⟩
    rw [decide_eq_true rfl]
    go_wp2_with fail
    go_ret
    exact ⟨by simp, HWx2.out.trans (below_draws _ _ _)⟩
  · have hw2 : wrongK ⟨p0, p1, p2, q0, q1, q2, r⟩ ⟨pc, st, ops⟩ R.length M 0 = 2 := by
      unfold wrongK at hw ⊢
      split
      · rename_i h; rw [if_pos h, if_pos (by omega)] at hw; exact absurd rfl hw
      · rfl
    refine (runC_wrong hRun ⟨p0, p1, p2, q0, q1, q2, r⟩ (.agg #[.int .i64 pc, .int .i64 st, .slice ka ops.length kc]) (.slice ra R.length rc) (.slice ma M.length mc) ⟨pc, st, ops⟩ R M 0 2 _ (hK.below HWx1.out) (hR.below HWx1.out) (hM.below HWx1.out) hnn hbig hw2 (by decide)).mono ?_
    rintro e x2 ⟨ra2, rc2, ma2, mc2, rfl, hb⟩
    have HWx2 := hide (HWx1.out.trans (hb.mono HWx1.out.size))
    clear hb hw hw2
    clear a0 a1 a2 a3 a4 a5 a6 b0 b1 b2 z0 z1
    go_wp2_with fail
    go_ret
    exact ⟨by simp, HWx2.out⟩
theorem kernelNone_any (hRun : RunC) (t : Tg) (kv rv mv : Value) (K : Kn) (R : List Int) (M : List (List Int)) (w : World) (hK : KernV w kv K) (hR : Ints w rv R) (hM : IntRows w mv M) (hnn : ∀ x ∈ K.ops, I64 x.nn) (hbig : M.length * 24 ≤ 140737488351232) :
    Calls Try.prog 10 #[.agg t.cells, kv, rv, mv] w fun e w' => e = .returned (.bool true) ∧ Below w.heap.size w w' := by
  obtain ⟨p0, p1, p2, q0, q1, q2, r⟩ := t
  obtain ⟨pc, st, ops⟩ := K
  have hK' := hK
  have hR' := hR
  have hM' := hM
  obtain ⟨ov, rfl, hO⟩ := hK'
  obtain ⟨ra, rc, rfl, -⟩ := hR'
  obtain ⟨ma, mc, rfl, -⟩ := hM'
  obtain ⟨ka, kc, rfl, -⟩ := hO
  exact kernelNone_all hRun p0 p1 p2 q0 q1 q2 r pc st ops ka kc ra rc R ma mc M w hK hR hM hnn hbig
end Go.Proofs.Ytlgphgfldfjkkaa
