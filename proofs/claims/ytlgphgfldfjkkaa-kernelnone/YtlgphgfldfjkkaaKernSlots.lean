/- The contract of the Ops of each Slot, in order. -/
import Derived.Test.YtlgphgfldfjkkaaKernPush
import Derived.Test.YtlgphgfldfjkkaaUntil
import Derived.Deep.AppendLies
namespace Go.Proofs.Ytlgphgfldfjkkaa
open Go.RowKit Go.Joins
set_option linter.unusedVariables false
set_option linter.unusedSimpArgs false
set_option maxRecDepth 8192

theorem Try.i53 : (Try.prog.info? 53).map (fun i => (i.zero, i.size, i.bytes)) = some (some (.slice none 0 0), 1, 24) := by kernel_rfl
theorem Try.i68 : (Try.prog.info? 68).map (fun i => (i.zero, i.size, i.bytes)) = some (some (.agg #[.int .i64 0, .int .i64 0, .int .i64 0, .int .i64 0, .int .i64 0, .int .i64 0, .int .i64 0, .int .i64 0, .int .i64 0, .int .i64 0]), 10, 80) := by kernel_rfl
/-- rows of Ops, ten cells each -/
def flatO (l : List Kop) : List Value := l.flatMap fun x => (kCells x).toList
theorem flatO_snoc (l : List Kop) (x : Kop) : flatO l ++ (kCells x).toList = flatO (l ++ [x]) := by unfold flatO; simp
theorem flatO_len (l : List Kop) : (flatO l).length = l.length * 10 := by
  induction l with
  | nil => rfl
  | cons d l ih =>
    show ((kCells d).toList ++ flatO l).length = (l.length + 1) * 10
    rw [List.length_append, ih]
    show 10 + _ = _
    omega
theorem flatO_get (l : List Kop) : ∀ i j, i < l.length → j < 10 → (flatO l)[i * 10 + j]? = (kCells (opAt l i))[j]? := by
  induction l with
  | nil => intro i c h; exact absurd h (Nat.not_lt_zero _)
  | cons d l ih =>
    intro i j h hj
    show ((kCells d).toList ++ flatO l)[i * 10 + j]? = _
    have h3 : (kCells d).toList.length = 10 := rfl
    cases i with
    | zero =>
      rw [List.getElem?_append_left (by omega), Nat.zero_mul, Nat.zero_add, Array.getElem?_toList]
      rfl
    | succ i =>
      rw [List.getElem?_append_right (by omega), h3, show (i + 1) * 10 + j - 10 = i * 10 + j from by omega, ih i j (by simpa using h) hj]
      rfl
/-- an own row of Ops is a slice of them -/
theorem ops_own {w : World} {base : Nat} {v : Value} {l : List Kop} (h : w.ownsRow base 68 10 v l.length (flatO l)) : OpsV w v l := by
  obtain ⟨hl, h⟩ := h
  rcases h with ⟨rfl, hn⟩ | ⟨g, cap, cur, rfl, hg, hb, hn, hm, hc, ht⟩
  · exact ⟨none, 0, by rw [hn], by omega, Nat.zero_le _, fun hp => by omega⟩
  · refine ⟨_, cap, rfl, hn, hm, fun _ => ⟨g, 0, rfl, (Array.getElem?_eq_some_iff.1 hb).1, fun i hi j hj => ?_⟩⟩
    rw [cell_of_block hb, ← flatO_get l i j hi hj, ← ht, List.getElem?_take, if_pos (by omega), Nat.zero_add]
    simp
/-- where the Slots' rows stand: G leads to them, U s is that of Slot s -/
structure SInv (w : World) (PC : Nat) (U : Nat → Value) (l : List Kop) (wr : World) : Prop where
  bel : Below w.heap.size w wr
  out : RowF wr w.heap.size 53 PC U
  rows : ∀ s : Nat, s < PC → wr.ownsRow w.heap.size 68 10 (U s) (slotOf l s).length (flatO (slotOf l s))
  inj : ∀ i j : Nat, i < PC → j < PC → i ≠ j → ∀ g, (U i).ownBlock = some g → some g ≠ (U j).ownBlock
variable {w wr x : World} {PC : Nat} {U : Nat → Value} {l : List Kop}
theorem SInv.below (h : SInv w PC U l wr) (hb : Below wr.heap.size wr x) : SInv w PC U l x where
  bel := h.bel.trans (hb.mono h.bel.size)
  out := h.out.below hb h.out.lt
  rows := fun s hs => ownz_keep (h.rows s hs) fun g hg => hb.block g (ownz_block_lt (h.rows s hs) g hg)
  inj := h.inj
theorem SInv.push {s : Nat} {xk : Kop} {g cap n0 : Nat} {l' : List Kop} {w6 : World} (h : SInv w PC U l wr) (hs : s < PC) (hsl : xk.sl = (s : Int)) (hl : ∀ q : Int, slotOf l' q = if xk.sl = q then slotOf l q ++ [xk] else slotOf l q) (hn : (slotOf l s).length = n0)
    (hown : w6.ownsRow w.heap.size 68 10 (.slice (some ⟨g, 0, none⟩) (n0 + 1) cap) (n0 + 1) (flatO (slotOf l s) ++ (kCells xk).toList)) (hg : wr.grownBy w6 (U s).ownBlock) (hat : (U s).ownBlock = some g ∨ wr.heap.size ≤ g) :
    SInv w PC (fun i => if i = s then .slice (some ⟨g, 0, none⟩) (n0 + 1) cap else U i) l' (w6.setCell ⟨w.heap.size, s, none⟩ (.slice (some ⟨g, 0, none⟩) (n0 + 1) cap)) := by
  have hge : ∀ k, (U s).ownBlock = some k → w.heap.size ≤ k := fun k e => ownz_block_ge (h.rows s hs) k e
  have hne : some w.heap.size ≠ (U s).ownBlock := ownz_apart (h.rows s hs) h.out (by decide)
  have hout : RowF w6 w.heap.size 53 PC U := h.out.of_block (hg.block _ h.out.lt hne)
  have hgne : g ≠ w.heap.size := by
    intro e
    rcases hat with e2 | e2
    · exact hne (by rw [← e, e2])
    · have := h.out.lt; omega
  have e1 : slotOf l' (s : Int) = slotOf l (s : Int) ++ [xk] := by rw [hl, if_pos hsl]
  refine { bel := (h.bel.grown hg h.bel.size hge).setCell (by exact Nat.le_refl _) _, out := ?_, rows := ?_, inj := ?_ }
  · refine (hout.set s _ hs).congr fun i hi => rfl
  · intro i hi
    by_cases e : i = s
    · subst e
      simp only [if_true]
      rw [e1, ← flatO_snoc, List.length_append, hn]
      exact ownz_keep hown fun q hq => Below.heap_setCell _ _ _ _ (by
        have e3 : g = q := by simpa [Value.ownBlock] using hq
        show q ≠ w.heap.size; omega)
    · simp only [if_neg e]
      rw [hl, if_neg (by omega)]
      have h1 := ownz_keep (h.rows i hi) fun q hq => hg.block q (ownz_block_lt (h.rows i hi) q hq) (h.inj i s hi hs e q hq)
      exact ownz_keep h1 fun q hq => Below.heap_setCell _ _ _ _ (by
        show q ≠ w.heap.size
        intro e3
        exact ownz_apart (h.rows i hi) h.out (by decide) (by rw [← e3, hq]))
  · intro i k hi hk hik q hq
    by_cases e1 : i = s
    · by_cases e2 : k = s
      · omega
      · simp only [if_pos e1] at hq
        simp only [if_neg e2]
        have e3 : g = q := by simpa [Value.ownBlock] using hq
        subst e3
        intro e4
        rcases hat with e5 | e5
        · exact h.inj s k hs hk (by omega) g e5 e4
        · have := ownz_block_lt (h.rows k hk) g e4.symm; omega
    · by_cases e2 : k = s
      · simp only [if_neg e1] at hq
        simp only [if_pos e2]
        intro e4
        have e3 : q = g := by simpa [Value.ownBlock] using e4
        subst e3
        rcases hat with e5 | e5
        · exact h.inj i s hi hs e1 q hq e5.symm
        · have := ownz_block_lt (h.rows i hi) q hq; omega
      · simp only [if_neg e1] at hq
        simp only [if_neg e2]
        exact h.inj i k hi hk hik q hq
theorem SInv.held {ua : Option Addr} {n0 uc s : Nat} {sg o d a b ar sp pl nn : Int} {X : Nat} (h : SInv w PC U l x) (hs : s < PC) (hX : x.heap[X]? = some (.cells #[.int .i64 (s : Int), .int .i64 sg, .int .i64 o, .int .i64 d, .int .i64 a, .int .i64 b, .int .i64 ar, .int .i64 sp, .int .i64 pl, .int .i64 nn] 68 (0, 0))) (hU : U s = .slice ua n0 uc) : (x.cell? ⟨X, 0, none⟩ = some (.int .i64 (s : Int)) ∧ x.cell? ⟨X, 1, none⟩ = some (.int .i64 sg) ∧ x.cell? ⟨X, 2, none⟩ = some (.int .i64 o) ∧ x.cell? ⟨X, 3, none⟩ = some (.int .i64 d) ∧ x.cell? ⟨X, 4, none⟩ = some (.int .i64 a) ∧ x.cell? ⟨X, 5, none⟩ = some (.int .i64 b) ∧ x.cell? ⟨X, 6, none⟩ = some (.int .i64 ar) ∧ x.cell? ⟨X, 7, none⟩ = some (.int .i64 sp) ∧ x.cell? ⟨X, 8, none⟩ = some (.int .i64 pl) ∧ x.cell? ⟨X, 9, none⟩ = some (.int .i64 nn)) ∧ x.cell? ⟨w.heap.size, s, none⟩ = some (.slice ua n0 uc) :=
  ⟨op_box hX, by rw [h.out.cell hs, hU]⟩
theorem SInv.grown {ua : Option Addr} {n0 uc s : Nat} {sg o d a b ar sp pl nn : Int} {X : Nat} {w6 : World} (h : SInv w PC U l x) (hs : s < PC) (hX : x.heap[X]? = some (.cells #[.int .i64 (s : Int), .int .i64 sg, .int .i64 o, .int .i64 d, .int .i64 a, .int .i64 b, .int .i64 ar, .int .i64 sp, .int .i64 pl, .int .i64 nn] 68 (0, 0))) (hXf : some X ≠ (Value.slice ua n0 uc).ownBlock) (hU : U s = .slice ua n0 uc) (hg : x.grownBy w6 (Value.slice ua n0 uc).ownBlock) : ((w6.cell? ⟨X, 0, none⟩ = some (.int .i64 (s : Int)) ∧ w6.cell? ⟨X, 1, none⟩ = some (.int .i64 sg) ∧ w6.cell? ⟨X, 2, none⟩ = some (.int .i64 o) ∧ w6.cell? ⟨X, 3, none⟩ = some (.int .i64 d) ∧ w6.cell? ⟨X, 4, none⟩ = some (.int .i64 a) ∧ w6.cell? ⟨X, 5, none⟩ = some (.int .i64 b) ∧ w6.cell? ⟨X, 6, none⟩ = some (.int .i64 ar) ∧ w6.cell? ⟨X, 7, none⟩ = some (.int .i64 sp) ∧ w6.cell? ⟨X, 8, none⟩ = some (.int .i64 pl) ∧ w6.cell? ⟨X, 9, none⟩ = some (.int .i64 nn)) ∧ w6.cell? ⟨w.heap.size, s, none⟩ = some (.slice ua n0 uc)) ∧ w6.frozen? ⟨w.heap.size, s, none⟩ = false := by
  have hne : some w.heap.size ≠ (Value.slice ua n0 uc).ownBlock := by rw [← hU]; exact ownz_apart (h.rows s hs) h.out (by decide)
  have hout : RowF w6 w.heap.size 53 PC U := h.out.of_block (hg.block _ h.out.lt hne)
  have hX6 : w6.heap[X]? = some (.cells #[.int .i64 (s : Int), .int .i64 sg, .int .i64 o, .int .i64 d, .int .i64 a, .int .i64 b, .int .i64 ar, .int .i64 sp, .int .i64 pl, .int .i64 nn] 68 (0, 0)) := by rw [hg.block X (Array.getElem?_eq_some_iff.1 hX).1 hXf]; exact hX
  exact ⟨⟨op_box hX6, by rw [hout.cell hs, hU]⟩, hout.frozen s⟩

theorem ten_at (w : World) (x : Kop) {B : Nat} (hB : w.heap.size = B) : ∀ (j : Nat) (u : Value), (kCells x).toList[j]? = some u → (w.alloc (.cells (kCells x) 68)).cell? ((⟨B, 0, none⟩ : Addr).add j) = some u := by
  subst hB
  intro j u hj
  have ha : (⟨w.heap.size, 0, none⟩ : Addr).add j = ⟨w.heap.size, j, none⟩ := by simp [Addr.add]; omega
  rw [ha, cell_of_block (new_block _ _ _)]
  simpa using hj
theorem ten_one {x : Kop} {u : Value} (h : u ∈ (kCells x).toList) : u.oneCell' = true := by
  unfold kCells at h
  simp at h
  rcases h with rfl | rfl | rfl | rfl | rfl | rfl | rfl | rfl | rfl | rfl <;> rfl
set_option maxHeartbeats 8000000 in
theorem slots_any (A PC : Nat) (ka : Option Addr) (kc : Nat) (ops : List Kop) (w : World) (hc7 : w.cell? ⟨A, 7, none⟩ = some (.int .i64 PC)) (hc9 : w.cell? ⟨A, 9, none⟩ = some (.slice ka ops.length kc)) (hAz : A < w.heap.size) (hK : OpsV w (.slice ka ops.length kc) ops) (h16 : ops.length ≤ 16) (hPC : PC ≤ 200) (hsl : ∀ x ∈ ops, 0 ≤ x.sl ∧ x.sl < (PC : Int)) :
    Calls Try.prog 74 #[.pointer (some ⟨A, 0, none⟩)] w fun e w' => e = .returned (.slice (some ⟨w.heap.size, 0, none⟩) PC PC) ∧ ∃ U, SInv w PC U ops w' := by
  obtain ⟨ka', kc', hk1, hk2, hk3, hkc⟩ := hK
  injection hk1 with e1 e2 e3
  subst e1; subst e3
  unfold maxLen at hk3
  obtain ⟨i0, hi, hz0, hz1, hz2⟩ := info_parts Try.i68
  have HKC := hide hkc
  have HSL := hide hsl
  have H0 : Hid (SInv w PC (fun _ => .slice none 0 0) [] (w.alloc (.cells (madeCells #[.slice none 0 0] PC) 53))) :=
    ⟨below_alloc1 _ _, RowF.zeros w _ PC _, fun s hs => World.ownsRow_nil _ _ _ _, fun i j _ _ _ g h => by cases h⟩
  have hmk := run_make_row' (P := Try.prog) 114 53 (.slice none 0 0) 24 Try.underlying114 Try.i53 rfl .i64 .i64 PC (by omega) (by omega)
  clear hkc hsl e2
  go_enter Try.func74, Try.ntmps74
  go_wp2_with fail
  go_loopw [18] (fun i wr => ∃ k : Nat, k ≤ ops.length ∧ i = .int .i64 k ∧ ∃ U, SInv w PC U (ops.take k) wr) (fun i _ => ops.length - (intOf i).toNat)
  case atStart => exact ⟨0, Nat.zero_le _, rfl, _, H0.out⟩
  case round =>
    clear H0
    obtain ⟨k, hk, rfl, U, hQ⟩ := hrel
    by_cases hkl : k < ops.length
    · have hki : (k : Int) < (ops.length : Int) := by omega
      obtain ⟨ob, oo, rfl, hob, hocell⟩ := HKC.out (by omega)
      obtain ⟨c0, c1, c2, c3, c4, c5, c6, c7, c8, c9⟩ := ten (hocell k hkl)
      rw [← bcell hQ.bel _ _ hob] at c0 c1 c2 c3 c4 c5 c6 c7 c8 c9
      have hobz : ob < wr.heap.size := by have := hQ.bel.size; omega
      have hgz := hQ.out.lt
      obtain ⟨s0, s1⟩ := HSL.out _ (opAt_in hkl)
      have HTK := hide (fun q => slot_snoc ops k q hkl)
      have HQ := hide hQ
      clear hocell hQ
      obtain ⟨xk, hxk⟩ : ∃ xk, opAt ops k = xk := ⟨_, rfl⟩
      rw [hxk] at c0 c1 c2 c3 c4 c5 c6 c7 c8 c9 s0 s1 HTK
      clear hxk
      obtain ⟨sl, sg, o, d, a, b, ar, sp, pl, nn⟩ := xk
      simp only at c0 c1 c2 c3 c4 c5 c6 c7 c8 c9 s0 s1
      obtain ⟨s, rfl⟩ : ∃ s : Nat, sl = (s : Int) := ⟨sl.toNat, by omega⟩
      have hs : s < PC := by omega
      have hsi : (s : Int) < (PC : Int) := by omega
      obtain ⟨n0, hn0⟩ : ∃ n0, (slotOf (ops.take k) s).length = n0 := ⟨_, rfl⟩
      have hn9 : n0 ≤ 16 := by
        rw [← hn0]
        have h1 : (slotOf (ops.take k) s).length ≤ (ops.take k).length := List.length_filter_le _ _
        rw [List.length_take] at h1
        omega
      have HN0 := hide hn0
      obtain ⟨ua, uc, hU, -, -⟩ := ownz_shape (HQ.out.rows s hs)
      rw [hn0] at hU
      have HU := hide hU
      have HOW : Hid (∀ x, SInv w PC U (ops.take k) x → x.ownsRow w.heap.size 68 10 (.slice ua n0 uc) n0 (flatO (slotOf (ops.take k) s))) := fun x h => by
        have h2 := h.rows s hs
        rw [HN0.out, HU.out] at h2
        exact h2
      have HFAR : Hid (∀ g, wr.heap.size ≤ g → some g ≠ (Value.slice ua n0 uc).ownBlock) := fun g hg e => by
        have h2 := ownz_block_lt (HQ.out.rows s hs) g (by rw [HU.out]; exact e.symm)
        omega
      have HR := hide (HQ.out.below (below_alloc1 wr (.cells #[.int .i64 (s : Int), .int .i64 sg, .int .i64 o, .int .i64 d, .int .i64 a, .int .i64 b, .int .i64 ar, .int .i64 sp, .int .i64 pl, .int .i64 nn] 68)))
      have HXB : Hid ((wr.alloc (.cells #[.int .i64 (s : Int), .int .i64 sg, .int .i64 o, .int .i64 d, .int .i64 a, .int .i64 b, .int .i64 ar, .int .i64 sp, .int .i64 pl, .int .i64 nn] 68)).heap[wr.heap.size]? = some (.cells #[.int .i64 (s : Int), .int .i64 sg, .int .i64 o, .int .i64 d, .int .i64 a, .int .i64 b, .int .i64 ar, .int .i64 sp, .int .i64 pl, .int .i64 nn] 68 (0, 0))) := new_block _ _ _
      clear hn0 hU
      go_wp2_with fail
      clear c0 c1 c2 c3 c4 c5 c6 c7 c8 c9
      refine wp_region_noPanic ?_
      refine region_until 12 (fun w' => (w'.cell? ⟨wr.heap.size, 0, none⟩ = some (.int .i64 (s : Int)) ∧ w'.cell? ⟨wr.heap.size, 1, none⟩ = some (.int .i64 sg) ∧ w'.cell? ⟨wr.heap.size, 2, none⟩ = some (.int .i64 o) ∧ w'.cell? ⟨wr.heap.size, 3, none⟩ = some (.int .i64 d) ∧ w'.cell? ⟨wr.heap.size, 4, none⟩ = some (.int .i64 a) ∧ w'.cell? ⟨wr.heap.size, 5, none⟩ = some (.int .i64 b) ∧ w'.cell? ⟨wr.heap.size, 6, none⟩ = some (.int .i64 ar) ∧ w'.cell? ⟨wr.heap.size, 7, none⟩ = some (.int .i64 sp) ∧ w'.cell? ⟨wr.heap.size, 8, none⟩ = some (.int .i64 pl) ∧ w'.cell? ⟨wr.heap.size, 9, none⟩ = some (.int .i64 nn)) ∧ w'.cell? ⟨w.heap.size, s, none⟩ = some (.slice ua n0 uc)) (by kernel_rfl) (HR.out.held hs HXB.out HU.out) (fun hHeld => ?_)
      refine until_take (i := 0) (v := ?_) rfl (by kernel_rfl) (by kernel_rfl) (by kernel_rfl) (by kernel_rfl) (fun _ _ _ h => h) (Or.inl ⟨by rfl, ?_⟩) hHeld ?_
      rotate_left
      · intro w hSw
        try dsimp only at hSw
        go_simp
        try with_reducible rfl
      try simp only [Act.put, List.setIfInBounds_toArray, List.set_cons_zero, List.set_cons_succ]
      refine until_take (i := 1) (v := ?_) rfl (by kernel_rfl) (by kernel_rfl) (by kernel_rfl) (by kernel_rfl) (fun _ _ _ h => h) (Or.inl ⟨by rfl, ?_⟩) hHeld ?_
      rotate_left
      · intro w hSw
        try dsimp only at hSw
        go_simp
        try with_reducible rfl
      try simp only [Act.put, List.setIfInBounds_toArray, List.set_cons_zero, List.set_cons_succ]
      refine until_take (i := 2) (v := ?_) rfl (by kernel_rfl) (by kernel_rfl) (by kernel_rfl) (by kernel_rfl) (fun _ _ _ h => h) (Or.inl ⟨by rfl, ?_⟩) hHeld ?_
      rotate_left
      · intro w hSw
        try dsimp only at hSw
        go_simp
        try with_reducible rfl
      try simp only [Act.put, List.setIfInBounds_toArray, List.set_cons_zero, List.set_cons_succ]
      refine until_take (i := 3) (v := ?_) rfl (by kernel_rfl) (by kernel_rfl) (by kernel_rfl) (by kernel_rfl) (fun _ _ _ h => h) (Or.inl ⟨by rfl, ?_⟩) hHeld ?_
      rotate_left
      · intro w hSw
        try dsimp only at hSw
        go_simp
        try with_reducible rfl
      try simp only [Act.put, List.setIfInBounds_toArray, List.set_cons_zero, List.set_cons_succ]
      refine until_take (i := 4) (v := ?_) rfl (by kernel_rfl) (by kernel_rfl) (by kernel_rfl) (by kernel_rfl) (fun _ _ _ h => h) (Or.inl ⟨by rfl, ?_⟩) hHeld ?_
      rotate_left
      · intro w hSw
        try dsimp only at hSw
        go_simp
        try with_reducible rfl
      try simp only [Act.put, List.setIfInBounds_toArray, List.set_cons_zero, List.set_cons_succ]
      refine until_take (i := 5) (v := ?_) rfl (by kernel_rfl) (by kernel_rfl) (by kernel_rfl) (by kernel_rfl) (fun _ _ _ h => h) (Or.inl ⟨by rfl, ?_⟩) hHeld ?_
      rotate_left
      · intro w hSw
        try dsimp only at hSw
        go_simp
        try with_reducible rfl
      try simp only [Act.put, List.setIfInBounds_toArray, List.set_cons_zero, List.set_cons_succ]
      refine until_take (i := 6) (v := ?_) rfl (by kernel_rfl) (by kernel_rfl) (by kernel_rfl) (by kernel_rfl) (fun _ _ _ h => h) (Or.inl ⟨by rfl, ?_⟩) hHeld ?_
      rotate_left
      · intro w hSw
        try dsimp only at hSw
        go_simp
        try with_reducible rfl
      try simp only [Act.put, List.setIfInBounds_toArray, List.set_cons_zero, List.set_cons_succ]
      refine until_take (i := 7) (v := ?_) rfl (by kernel_rfl) (by kernel_rfl) (by kernel_rfl) (by kernel_rfl) (fun _ _ _ h => h) (Or.inl ⟨by rfl, ?_⟩) hHeld ?_
      rotate_left
      · intro w hSw
        try dsimp only at hSw
        go_simp
        try with_reducible rfl
      try simp only [Act.put, List.setIfInBounds_toArray, List.set_cons_zero, List.set_cons_succ]
      refine until_take (i := 8) (v := ?_) rfl (by kernel_rfl) (by kernel_rfl) (by kernel_rfl) (by kernel_rfl) (fun _ _ _ h => h) (Or.inl ⟨by rfl, ?_⟩) hHeld ?_
      rotate_left
      · intro w hSw
        try dsimp only at hSw
        go_simp
        try with_reducible rfl
      try simp only [Act.put, List.setIfInBounds_toArray, List.set_cons_zero, List.set_cons_succ]
      refine until_one (i := 9) rfl (by kernel_rfl) (fun K hK => ?_)
      go_simp
      have HR5 := hide (HR.out.below ((Below.refl _ _).drew.trans (below_alloc1 (wr.alloc (.cells #[.int .i64 (s : Int), .int .i64 sg, .int .i64 o, .int .i64 d, .int .i64 a, .int .i64 b, .int .i64 ar, .int .i64 sp, .int .i64 pl, .int .i64 nn] 68)).drew (.cells #[.int .i64 (s : Int), .int .i64 sg, .int .i64 o, .int .i64 d, .int .i64 a, .int .i64 b, .int .i64 ar, .int .i64 sp, .int .i64 pl, .int .i64 nn] 68))))
      have HX5 : Hid (((wr.alloc (.cells #[.int .i64 (s : Int), .int .i64 sg, .int .i64 o, .int .i64 d, .int .i64 a, .int .i64 b, .int .i64 ar, .int .i64 sp, .int .i64 pl, .int .i64 nn] 68)).drew.alloc (.cells #[.int .i64 (s : Int), .int .i64 sg, .int .i64 o, .int .i64 d, .int .i64 a, .int .i64 b, .int .i64 ar, .int .i64 sp, .int .i64 pl, .int .i64 nn] 68)).heap[wr.heap.size]? = some (.cells #[.int .i64 (s : Int), .int .i64 sg, .int .i64 o, .int .i64 d, .int .i64 a, .int .i64 b, .int .i64 ar, .int .i64 sp, .int .i64 pl, .int .i64 nn] 68 (0, 0))) := by show _ = _; rw [Below.heap_alloc _ _ _ (by simp)]; exact HXB.out
      refine hK.out _ _ (.inr (HR5.out.held hs HX5.out HU.out)) ?_
      clear hK K hHeld
      try simp only [Act.put, List.setIfInBounds_toArray, List.set_cons_zero, List.set_cons_succ]
      refine until_one (i := 10) rfl (by kernel_rfl) (fun K hK => ?_)
      refine step_append_lies _ (by rfl) (.tmp 29) (.tmp 31) 53 (by rfl) w.heap.size 68 i0 (.agg #[.int .i64 0, .int .i64 0, .int .i64 0, .int .i64 0, .int .i64 0, .int .i64 0, .int .i64 0, .int .i64 0, .int .i64 0, .int .i64 0]) 10 80 Try.underlying53 hi hz0 hz1 hz2 rfl (by decide) _ n0 (flatO (slotOf (ops.take k) s)) (by rfl) (HOW.out _ HR5.out) ⟨wr.heap.size + 1, 0, none⟩ 1 1 (kCells ⟨(s : Int), sg, o, d, a, b, ar, sp, pl, nn⟩).toList (by rfl) rfl (ten_at _ _ (by simp)) (by intro u hu; exact ten_one hu) (by decide) (by unfold maxLen; omega) (by omega) HR5.out.bel.size (wr.heap.size + 1 + 1) (by simp) ?_
      intro g cap w6 hown6 hgrow6 hat6 hlt6
      have hk6 := HR5.out.grown hs HX5.out (HFAR.out _ (Nat.le_refl _)) HU.out hgrow6
      have HO6 := hide hown6
      have HG6 := hide hgrow6
      have HA6 := hide hat6
      clear hown6 hgrow6 hat6
      refine hK.out _ _ (.inr hk6.1) ?_
      clear hK K
      try simp only [Act.put, List.setIfInBounds_toArray, List.set_cons_zero, List.set_cons_succ]
      have hHeld := hk6.1
      have hpc6 := hk6.1.2
      have hf6 := hk6.2
      refine until_take (i := 11) (v := ?_) rfl (by kernel_rfl) (by kernel_rfl) (by kernel_rfl) (by kernel_rfl) (fun _ _ _ h => h) (Or.inl ⟨by rfl, ?_⟩) hHeld ?_
      rotate_left
      · intro w hSw
        try dsimp only at hSw
        go_simp
        try with_reducible rfl
      try simp only [Act.put, List.setIfInBounds_toArray, List.set_cons_zero, List.set_cons_succ]
      refine until_one (i := 12) rfl (by kernel_rfl) (fun K hK => ?_)
      go_simp
      refine hK.out _ _ (.inl rfl) ?_
      clear hK K
      try simp only [Act.put, List.setIfInBounds_toArray, List.set_cons_zero, List.set_cons_succ]
      refine until_done (by kernel_rfl) ?_ _
      refine NoPanic.normal ?_
      clear hk6 hHeld
      go_wp2_with fail
      go_roundw
      case rel =>
        refine ⟨k + 1, by omega, by go_num, _, HR5.out.push hs rfl HTK.out HN0.out HO6.out (by rw [HU.out]; exact HG6.out) ?_⟩
        rw [HU.out]
        rcases HA6.out with e | e
        · exact .inl e
        · exact .inr (by simp; omega)
      case measure => simp [intOf]; omega
    · have e : k = ops.length := by omega
      subst e
      rw [List.take_length] at hQ
      have hki : ¬ (ops.length : Int) < (ops.length : Int) := by omega
      have HQ := hide hQ
      clear hQ
      go_wp2_with fail
      go_ret
      exact ⟨rfl, U, HQ.out⟩
end Go.Proofs.Ytlgphgfldfjkkaa
