/- The contract of package dep's wordEdges: what is at one word keeps its order; nothing that was there is changed. -/
import Derived.Test.YtkpkpaobhnhgpabDepRefs
namespace Go.Proofs.Ytkpkpaobhnhgpab
open Go.RowKit Go.Joins
set_option linter.unusedVariables false

theorem lb_cells {w wr : World} {v0 v1 v2 : Value} {ta : TypeId} (h : Below (w.heap.size + 1) (w.alloc (.cells #[v0, v1, v2] ta)) wr) :
    (wr.cell? ⟨w.heap.size, 0, none⟩ = some v0 ∧ wr.cell? ⟨w.heap.size, 1, none⟩ = some v1 ∧ wr.cell? ⟨w.heap.size, 2, none⟩ = some v2) ∧ w.heap.size < wr.heap.size ∧ Below w.heap.size w wr := by
  have hs : (w.alloc (.cells #[v0, v1, v2] ta)).heap.size = w.heap.size + 1 := by simp
  have hz := h.size
  have h' : Below (w.alloc (.cells #[v0, v1, v2] ta)).heap.size (w.alloc (.cells #[v0, v1, v2] ta)) wr := by rw [hs]; exact h
  refine ⟨⟨?_, ?_, ?_⟩, by omega, (below_alloc1 w _).trans (h.mono (by omega))⟩
  all_goals rw [bcell h' _ _ (by omega)]
  all_goals go_simp
theorem least_any (L : Lp) (a0 : Option Addr) (cap0 b off cap : Nat) (v2 : Value) (fr to : Nat) (w : World) (hl0 : L.logs.length ≤ cap0) (hm0 : cap0 ≤ 9223372036854775807) (hl1 : L.body.length ≤ cap) (hm1 : cap ≤ 9223372036854775807) (hb : b < w.heap.size)
    (hbody : ∀ i, i < L.body.length → ∀ j, j < 9 → w.cell? ⟨b, off + i * 9 + j, none⟩ = (stCells (stAt L.body i))[j]?) (hlogs : Ints w (.slice a0 L.logs.length cap0) L.logs) (hm : mayB L = true) (hfr : fr < L.body.length) (hto : to < L.body.length) (hmem : memD (stAt L.body fr) (stAt L.body to) = true) :
    Calls Try.prog 105 #[.agg #[.slice a0 L.logs.length cap0, .slice (some ⟨b, off, none⟩) L.body.length cap, v2], .int .i64 fr, .int .i64 to] w fun e w' => e = .returned (.tuple #[.int .i64 (lbV (lbD (stAt L.body fr) (stAt L.body to) (leastD fr to) (sizeD L (stAt L.body fr)))), .bool (lbB (lbD (stAt L.body fr) (stAt L.body to) (leastD fr to) (sizeD L (stAt L.body fr))))]) ∧ Below w.heap.size w w' := by
  obtain ⟨m1, m2, m3, m4, m5, m6, m7⟩ := may_parts hm
  obtain ⟨hw1, hw2⟩ := memD_words hmem
  obtain ⟨⟨r1, r2⟩, ⟨s1, s2⟩, ⟨t1, t2⟩⟩ := word_range (allN_get m7 fr hfr) hw1
  obtain ⟨-, ⟨u1, u2⟩, ⟨v1, v3⟩⟩ := word_range (allN_get m7 to hto) hw2
  obtain ⟨i, lg, e1, e2, e3, e4, e5, e6, e7⟩ := size_nat m5 r1 r2
  obtain ⟨a, c, hv, h1, h2, h3, h4⟩ := hlogs
  injection hv with q1 q2 q3
  subst q1; subst q3
  obtain ⟨lb, loff, rfl, hlb, hlc⟩ := h4 (by omega)
  have hA := hbody fr hfr
  have hB := hbody to hto
  have hcl := hlc i e2
  rw [e3] at hcl
  have e8 : 2 ^ lg = sizeD L (stAt L.body fr) := by unfold p2 at e5; exact Int.ofNat.inj e5
  clear hbody hlc h3 h4 m5 m6 m7 hmem hw1 hw2 e5 hm
  generalize hZ : sizeD L (stAt L.body fr) = SZ at *
  generalize stAt L.body to = B at *
  generalize stAt L.body fr = A at *
  obtain ⟨o1, xa1, xb1, ya1, yb1, ar1, sp1, pl1, nn1⟩ := A
  obtain ⟨o2, xa2, xb2, ya2, yb2, ar2, sp2, pl2, nn2⟩ := B
  simp only at e1 s1 s2 t1 t2 u1 u2 v1 v3
  subst e1
  exact least_walk v2 v2 fr to i lg L.body.length o1 xa1 xb1 ya1 yb1 sp1 pl1 nn1 o2 xa2 xb2 ya2 yb2 ar2 sp2 pl2 nn2 lb loff cap0 b off cap SZ (leastD fr to) L.logs.length w hfr hto m3 hl1 hm1 e2 hl0 hm0 hb hlb hA hB hcl e4 e8 e7 rfl s1 s2 t1 t2 u1 u2 v1 v3
theorem wordTo_no {L : Lp} {f t : Nat} (h : memD (stAt L.body f) (stAt L.body t) = false) : wordTo L f (t + 1) = wordTo L f t := by
  show wordTo L f t ++ wordB L f t = _
  unfold wordB
  rw [if_neg (by rw [h]; exact Bool.false_ne_true), List.append_nil]
theorem wordTo_none {L : Lp} {f t : Nat} (h : lbD (stAt L.body f) (stAt L.body t) (leastD f t) (sizeD L (stAt L.body f)) = none) : wordTo L f (t + 1) = wordTo L f t := by
  show wordTo L f t ++ wordB L f t = _
  unfold wordB
  rw [h]
  split <;> rw [List.append_nil]
theorem wordTo_some {L : Lp} {f t k : Nat} (hm : memD (stAt L.body f) (stAt L.body t) = true) (h : lbD (stAt L.body f) (stAt L.body t) (leastD f t) (sizeD L (stAt L.body f)) = some k) : wordTo L f (t + 1) = wordTo L f t ++ [⟨f, t, k, waitD (stAt L.body f)⟩] := by
  show wordTo L f t ++ wordB L f t = _
  unfold wordB
  rw [if_pos hm, h]

set_option maxHeartbeats 8000000 in
set_option maxRecDepth 100000 in
theorem wordEdges_walk (L : Lp) (a0 : Option Addr) (cap0 b off cap : Nat) (v2 : Value) (w : World) (hl0 : L.logs.length ≤ cap0) (hm0 : cap0 ≤ 9223372036854775807) (hl1 : L.body.length ≤ cap) (hm1 : cap ≤ 9223372036854775807) (hb : b < w.heap.size)
    (hbody : ∀ i, i < L.body.length → ∀ j, j < 9 → w.cell? ⟨b, off + i * 9 + j, none⟩ = (stCells (stAt L.body i))[j]?) (hlogs : Ints w (.slice a0 L.logs.length cap0) L.logs) (hm : mayB L = true) (hn16 : L.body.length ≤ 16) :
    Calls Try.prog 64 #[.agg #[.slice a0 L.logs.length cap0, .slice (some ⟨b, off, none⟩) L.body.length cap, v2]] w fun e w' => ∃ ev, e = .returned ev ∧ w'.ownsRow (w.heap.size + 1) 81 4 ev (wordE L L.body.length).length (flatE (wordE L L.body.length)) ∧ Below w.heap.size w w' := by
  have HBODY := hide hbody
  have HLOGS := hide hlogs
  have HM := hide hm
  have HX0 : Hid ((w.alloc (.cells #[.slice a0 L.logs.length cap0, .slice (some ⟨b, off, none⟩) L.body.length cap, v2] 25)).heap.size = w.heap.size + 1) := by show _ = _; simp
  have HST := hide (own_empty4 (w.alloc (.cells #[.slice a0 L.logs.length cap0, .slice (some ⟨b, off, none⟩) L.body.length cap, v2] 25)) 81 (w.heap.size + 1) (by rw [HX0.out]; omega))
  rw [HX0.out] at HST
  have HLEAST := hide (fun f t W (hW : Below w.heap.size w W) (h1 : f < L.body.length) (h2 : t < L.body.length) (h3 : memD (stAt L.body f) (stAt L.body t) = true) => least_any L a0 cap0 b off cap v2 f t W hl0 hm0 hl1 hm1 (by have := hW.size; omega) (fun i hi j hj => by rw [bcell hW _ _ hb]; exact HBODY.out i hi j hj) (HLOGS.out.below hW) HM.out h1 h2 h3)
  clear hbody hlogs hm
  obtain ⟨j0, ji, jz0, jz1, jz2⟩ := info_parts Try.i81
  go_enter Try.func64, Try.ntmps64
  go_wp2_with fail
  go_loopw [3, 12] (fun ov iv wr => ∃ f : Nat, f ≤ L.body.length ∧ iv = .int .i64 f ∧ ∃ oa oc, ov = .slice oa (wordE L f).length oc ∧ wr.ownsRow (w.heap.size + 1) 81 4 (.slice oa (wordE L f).length oc) (wordE L f).length (flatE (wordE L f)) ∧ Below (w.heap.size + 1) (w.alloc (.cells #[.slice a0 L.logs.length cap0, .slice (some ⟨b, off, none⟩) L.body.length cap, v2] 25)) wr) (fun _ iv _ => L.body.length - (intOf iv).toNat)
  case atStart => exact ⟨0, Nat.zero_le _, rfl, _, _, rfl, HST.out, (Below.refl _ _).alloc (by rw [HX0.out]; omega) _⟩
  case round =>
    obtain ⟨f, hf, rfl, oa, oc, rfl, hown, hbel⟩ := hrel
    have HO := hide hown
    have HB := hide hbel
    obtain ⟨⟨l0, l1, l2⟩, z0, hbw⟩ := lb_cells hbel
    have HW := hide hbw
    clear hown hbel hbw
    by_cases hfl : f < L.body.length
    · have hfi : (f : Int) < (L.body.length : Int) := by omega
      go_wp2_with fail
      clear l0 l1 l2 z0
      rename World => wo
      go_loopw [3, 18] (fun ov iv wr => ∃ t : Nat, t ≤ L.body.length ∧ iv = .int .i64 t ∧ ∃ oa oc, ov = .slice oa (catE (wordE L f) (wordTo L f t)).length oc ∧ wr.ownsRow (w.heap.size + 1) 81 4 (.slice oa (catE (wordE L f) (wordTo L f t)).length oc) (catE (wordE L f) (wordTo L f t)).length (flatE (catE (wordE L f) (wordTo L f t))) ∧ Below (w.heap.size + 1) (w.alloc (.cells #[.slice a0 L.logs.length cap0, .slice (some ⟨b, off, none⟩) L.body.length cap, v2] 25)) wr) (fun _ iv _ => L.body.length - (intOf iv).toNat)
      case atStart => exact ⟨0, Nat.zero_le _, rfl, oa, oc, by show _ = Value.slice oa (catE (wordE L f) []).length oc; rw [catE_nil], by show wo.ownsRow _ _ _ (.slice oa (catE (wordE L f) []).length oc) (catE (wordE L f) []).length (flatE (catE (wordE L f) [])); rw [catE_nil]; exact HO.out, HB.out⟩
      case round =>
        clear HO HB HW
        obtain ⟨t, ht, rfl, oa, oc, rfl, hown, hbel⟩ := hrel
        have HO := hide hown
        have HB := hide hbel
        obtain ⟨⟨l0, l1, l2⟩, z0, hbw⟩ := lb_cells hbel
        have HW := hide hbw
        have hzq : w.heap.size + 1 ≤ wr.heap.size := by have := hbel.size; rw [HX0.out] at this; exact this
        clear hown hbel hbw
        by_cases htl : t < L.body.length
        · have hti : (t : Int) < (L.body.length : Int) := by omega
          have hbz : b < wr.heap.size := by have := HW.out.size; omega
          have HS2 := hide (And.intro (nine (fun j hj => (bcell HW.out b (off + f * 9 + j) hb).trans (HBODY.out f hfl j hj))) (nine (fun j hj => (bcell HW.out b (off + t * 9 + j) hb).trans (HBODY.out t htl j hj))))
          have HLS := hide (fun W hW h3 => HLEAST.out f t W hW hfl htl h3)
          have HNO := hide (fun h => wordTo_no (L := L) (f := f) (t := t) h)
          have HNN := hide (fun h => wordTo_none (L := L) (f := f) (t := t) h)
          have HSM := hide (fun k hm h => wordTo_some (L := L) (f := f) (t := t) (k := k) hm h)
          have HLE := hide (fun k (h : lbD (stAt L.body f) (stAt L.body t) (leastD f t) (sizeD L (stAt L.body f)) = some k) => Nat.le_trans (lb_le h) (size_le HM.out hfl))
          generalize lbD (stAt L.body f) (stAt L.body t) (leastD f t) (sizeD L (stAt L.body f)) = lbo at *
          generalize stAt L.body t = tt at *
          generalize stAt L.body f = ff at *
          obtain ⟨o1, xa1, xb1, ya1, yb1, ar1, sp1, pl1, nn1⟩ := ff
          obtain ⟨o2, xa2, xb2, ya2, yb2, ar2, sp2, pl2, nn2⟩ := tt
          have HSH := hide (fun W => share_nine o1 xa1 xb1 ya1 yb1 ar1 sp1 pl1 nn1 o2 xa2 xb2 ya2 yb2 ar2 sp2 pl2 nn2 W)
          have HWW := hide (fun W => wordWait_nine o1 xa1 xb1 ya1 yb1 ar1 sp1 pl1 nn1 W)
          generalize memD ⟨o1, xa1, xb1, ya1, yb1, ar1, sp1, pl1, nn1⟩ ⟨o2, xa2, xb2, ya2, yb2, ar2, sp2, pl2, nn2⟩ = mb at *
          generalize waitD ⟨o1, xa1, xb1, ya1, yb1, ar1, sp1, pl1, nn1⟩ = wt at *
          have HSS : Hid (∀ w' : World, Below wr.heap.size wr w' → w'.cell? ⟨w.heap.size, 1, none⟩ = some (.slice (some ⟨b, off, none⟩) L.body.length cap) ∧ (w'.cell? ⟨b, off + f * 9, none⟩ = some (.int .i64 o1) ∧ w'.cell? ⟨b, off + f * 9 + 1, none⟩ = some (.int .i64 xa1) ∧ w'.cell? ⟨b, off + f * 9 + 2, none⟩ = some (.int .i64 xb1) ∧ w'.cell? ⟨b, off + f * 9 + 3, none⟩ = some (.int .i64 ya1) ∧ w'.cell? ⟨b, off + f * 9 + 4, none⟩ = some (.int .i64 yb1) ∧ w'.cell? ⟨b, off + f * 9 + 5, none⟩ = some (.int .i64 ar1) ∧ w'.cell? ⟨b, off + f * 9 + 6, none⟩ = some (.int .i64 sp1) ∧ w'.cell? ⟨b, off + f * 9 + 7, none⟩ = some (.int .i64 pl1) ∧ w'.cell? ⟨b, off + f * 9 + 8, none⟩ = some (.int .i64 nn1)) ∧ (w'.cell? ⟨b, off + t * 9, none⟩ = some (.int .i64 o2) ∧ w'.cell? ⟨b, off + t * 9 + 1, none⟩ = some (.int .i64 xa2) ∧ w'.cell? ⟨b, off + t * 9 + 2, none⟩ = some (.int .i64 xb2) ∧ w'.cell? ⟨b, off + t * 9 + 3, none⟩ = some (.int .i64 ya2) ∧ w'.cell? ⟨b, off + t * 9 + 4, none⟩ = some (.int .i64 yb2) ∧ w'.cell? ⟨b, off + t * 9 + 5, none⟩ = some (.int .i64 ar2) ∧ w'.cell? ⟨b, off + t * 9 + 6, none⟩ = some (.int .i64 sp2) ∧ w'.cell? ⟨b, off + t * 9 + 7, none⟩ = some (.int .i64 pl2) ∧ w'.cell? ⟨b, off + t * 9 + 8, none⟩ = some (.int .i64 nn2))) := by
            intro w' h
            have hz : ∀ g o, g < wr.heap.size → w'.cell? ⟨g, o, none⟩ = wr.cell? ⟨g, o, none⟩ := fun g o hg => bcell h g o hg
            simp only [hz _ _ hbz, hz _ _ z0]
            exact ⟨l1, HS2.out.1, HS2.out.2⟩
          go_wp2_with fail
          clear l0 l1 l2
          refine wp_region_noPanic ?_
          refine region_until 99 (fun w' => w'.cell? ⟨w.heap.size, 1, none⟩ = some (.slice (some ⟨b, off, none⟩) L.body.length cap) ∧ (w'.cell? ⟨b, off + f * 9, none⟩ = some (.int .i64 o1) ∧ w'.cell? ⟨b, off + f * 9 + 1, none⟩ = some (.int .i64 xa1) ∧ w'.cell? ⟨b, off + f * 9 + 2, none⟩ = some (.int .i64 xb1) ∧ w'.cell? ⟨b, off + f * 9 + 3, none⟩ = some (.int .i64 ya1) ∧ w'.cell? ⟨b, off + f * 9 + 4, none⟩ = some (.int .i64 yb1) ∧ w'.cell? ⟨b, off + f * 9 + 5, none⟩ = some (.int .i64 ar1) ∧ w'.cell? ⟨b, off + f * 9 + 6, none⟩ = some (.int .i64 sp1) ∧ w'.cell? ⟨b, off + f * 9 + 7, none⟩ = some (.int .i64 pl1) ∧ w'.cell? ⟨b, off + f * 9 + 8, none⟩ = some (.int .i64 nn1)) ∧ (w'.cell? ⟨b, off + t * 9, none⟩ = some (.int .i64 o2) ∧ w'.cell? ⟨b, off + t * 9 + 1, none⟩ = some (.int .i64 xa2) ∧ w'.cell? ⟨b, off + t * 9 + 2, none⟩ = some (.int .i64 xb2) ∧ w'.cell? ⟨b, off + t * 9 + 3, none⟩ = some (.int .i64 ya2) ∧ w'.cell? ⟨b, off + t * 9 + 4, none⟩ = some (.int .i64 yb2) ∧ w'.cell? ⟨b, off + t * 9 + 5, none⟩ = some (.int .i64 ar2) ∧ w'.cell? ⟨b, off + t * 9 + 6, none⟩ = some (.int .i64 sp2) ∧ w'.cell? ⟨b, off + t * 9 + 7, none⟩ = some (.int .i64 pl2) ∧ w'.cell? ⟨b, off + t * 9 + 8, none⟩ = some (.int .i64 nn2))) (by kernel_rfl) (HSS.out _ (below_drew1 _ _)) (fun hHeld => ?_)
          refine until_take (i := 0) (v := ?_) rfl (by kernel_rfl) (by kernel_rfl) (by kernel_rfl) (by kernel_rfl) (fun _ _ _ h => h) (Or.inl ⟨by rfl, ?_⟩) hHeld ?_
          rotate_left
          · intro w hSw
            try dsimp only at hSw
            go_simp
            try with_reducible rfl
          try simp only [Act.put, List.setIfInBounds_toArray, List.set_cons_zero, List.set_cons_succ]
          refine until_take (i := 1) (v := ?_) rfl (by kernel_rfl) (by kernel_rfl) (by kernel_rfl) (by kernel_rfl) (fun _ _ _ h => h) (Or.inl ⟨by rfl, ?_⟩) hHeld ?_
          rotate_left
          · intro w hSw
            try dsimp only at hSw
            go_simp
            try with_reducible rfl
          try simp only [Act.put, List.setIfInBounds_toArray, List.set_cons_zero, List.set_cons_succ]
          refine until_take (i := 2) (v := ?_) rfl (by kernel_rfl) (by kernel_rfl) (by kernel_rfl) (by kernel_rfl) (fun _ _ _ h => h) (Or.inl ⟨by rfl, ?_⟩) hHeld ?_
          rotate_left
          · intro w hSw
            try dsimp only at hSw
            go_simp
            try with_reducible rfl
          try simp only [Act.put, List.setIfInBounds_toArray, List.set_cons_zero, List.set_cons_succ]
          refine until_take (i := 3) (v := ?_) rfl (by kernel_rfl) (by kernel_rfl) (by kernel_rfl) (by kernel_rfl) (fun _ _ _ h => h) (Or.inl ⟨by rfl, ?_⟩) hHeld ?_
          rotate_left
          · intro w hSw
            try dsimp only at hSw
            go_simp
            try with_reducible rfl
          try simp only [Act.put, List.setIfInBounds_toArray, List.set_cons_zero, List.set_cons_succ]
          refine until_take (i := 4) (v := ?_) rfl (by kernel_rfl) (by kernel_rfl) (by kernel_rfl) (by kernel_rfl) (fun _ _ _ h => h) (Or.inl ⟨by rfl, ?_⟩) hHeld ?_
          rotate_left
          · intro w hSw
            try dsimp only at hSw
            go_simp
            try with_reducible rfl
          try simp only [Act.put, List.setIfInBounds_toArray, List.set_cons_zero, List.set_cons_succ]
          refine until_take (i := 5) (v := ?_) rfl (by kernel_rfl) (by kernel_rfl) (by kernel_rfl) (by kernel_rfl) (fun _ _ _ h => h) (Or.inl ⟨by rfl, ?_⟩) hHeld ?_
          rotate_left
          · intro w hSw
            try dsimp only at hSw
            go_simp
            try with_reducible rfl
          try simp only [Act.put, List.setIfInBounds_toArray, List.set_cons_zero, List.set_cons_succ]
          refine until_take (i := 6) (v := ?_) rfl (by kernel_rfl) (by kernel_rfl) (by kernel_rfl) (by kernel_rfl) (fun _ _ _ h => h) (Or.inl ⟨by rfl, ?_⟩) hHeld ?_
          rotate_left
          · intro w hSw
            try dsimp only at hSw
            go_simp
            try with_reducible rfl
          try simp only [Act.put, List.setIfInBounds_toArray, List.set_cons_zero, List.set_cons_succ]
          refine until_take (i := 7) (v := ?_) rfl (by kernel_rfl) (by kernel_rfl) (by kernel_rfl) (by kernel_rfl) (fun _ _ _ h => h) (Or.inl ⟨by rfl, ?_⟩) hHeld ?_
          rotate_left
          · intro w hSw
            try dsimp only at hSw
            go_simp
            try with_reducible rfl
          try simp only [Act.put, List.setIfInBounds_toArray, List.set_cons_zero, List.set_cons_succ]
          refine until_take (i := 8) (v := ?_) rfl (by kernel_rfl) (by kernel_rfl) (by kernel_rfl) (by kernel_rfl) (fun _ _ _ h => h) (Or.inl ⟨by rfl, ?_⟩) hHeld ?_
          rotate_left
          · intro w hSw
            try dsimp only at hSw
            go_simp
            try with_reducible rfl
          try simp only [Act.put, List.setIfInBounds_toArray, List.set_cons_zero, List.set_cons_succ]
          refine until_take (i := 9) (v := ?_) rfl (by kernel_rfl) (by kernel_rfl) (by kernel_rfl) (by kernel_rfl) (fun _ _ _ h => h) (Or.inl ⟨by rfl, ?_⟩) hHeld ?_
          rotate_left
          · intro w hSw
            try dsimp only at hSw
            go_simp
            try with_reducible rfl
          try simp only [Act.put, List.setIfInBounds_toArray, List.set_cons_zero, List.set_cons_succ]
          refine until_one (i := 10) rfl (by kernel_rfl) (fun K hK9 => ?_)
          go_simp
          refine (HSH.out _).mono ?_
          rintro e x2 ⟨rfl, hb9⟩
          have HB9 : Hid (Below wr.heap.size wr x2) := (below_drew1 _ _).trans hb9
          have hHeld := HSS.out _ HB9.out
          refine hK9.out _ _ (.inr hHeld) ?_
          clear hK9 K hb9
          try simp only [Act.put, List.setIfInBounds_toArray, List.set_cons_zero, List.set_cons_succ]
          refine until_take (i := 11) (v := ?_) rfl (by kernel_rfl) (by kernel_rfl) (by kernel_rfl) (by kernel_rfl) (fun _ _ _ h => h) (Or.inl ⟨by rfl, ?_⟩) hHeld ?_
          rotate_left
          · intro w hSw
            try dsimp only at hSw
            go_simp
            try with_reducible rfl
          try simp only [Act.put, List.setIfInBounds_toArray, List.set_cons_zero, List.set_cons_succ]
          refine until_done (by kernel_rfl) ?_ _
          refine NoPanic.normal ?_
          clear hHeld
          have HOX := hide (own_below HO.out HB9.out)
          have HBX := hide (HB.out.trans (HB9.out.mono hzq))
          cases mb with
          | false =>
            have e1 := HNO.out rfl
            have HE := hide e1
            clear e1
            go_wp2_with fail
            go_roundw
            case rel => exact ⟨t + 1, by omega, by go_num, oa, oc, by rw [HE.out], by rw [HE.out]; exact HOX.out, HBX.out⟩
            case measure => simp [intOf]; omega
          | true =>
            clear z0
            obtain ⟨⟨l0, l1, l2⟩, z0, hbw⟩ := lb_cells HBX.out
            have HWX := hide hbw
            have HLC := hide (HLS.out x2 hbw rfl)
            clear hbw
            cases lbo with
            | none =>
              have e1 := HNN.out rfl
              have HE := hide e1
              clear e1
              go_wp2_with fail
              refine HLC.out.mono ?_
              rintro e x3 ⟨he3, hb3⟩
              have he4 : e = .returned (.tuple #[.int .i64 0, .bool false]) := he3
              subst he4
              clear he3
              have HOY := hide (own_below HOX.out hb3)
              have HBY := hide (HBX.out.trans (hb3.mono (by have := HB9.out.size; omega)))
              clear hb3 l0 l1 l2 z0
              go_wp2_with fail
              go_roundw
              case rel => exact ⟨t + 1, by omega, by go_num, oa, oc, by rw [HE.out], by rw [HE.out]; exact HOY.out, HBY.out⟩
              case measure => simp [intOf]; omega
            | some k =>
              have HE := hide (HSM.out k rfl rfl)
              have hk32 := HLE.out k rfl
              go_wp2_with fail
              refine HLC.out.mono ?_
              rintro e x3 ⟨he3, hb3⟩
              have he4 : e = .returned (.tuple #[.int .i64 k, .bool true]) := he3
              subst he4
              clear he3
              have HOY := hide (own_below HOX.out hb3)
              have HBY := hide (HBX.out.trans (hb3.mono (by have := HB9.out.size; omega)))
              have HB3 : Hid (Below wr.heap.size wr x3) := HB9.out.trans (hb3.mono HB9.out.size)
              clear hb3 l0 l1 l2 z0
              obtain ⟨⟨l0, l1, l2⟩, z0, hbw⟩ := lb_cells HBY.out
              obtain ⟨-, ⟨c0, c1, c2, c3, c4, c5, c6, c7, c8⟩, -⟩ := HSS.out _ HB3.out
              have hbz3 : b < x3.heap.size := by have := HB3.out.size; omega
              have hzy : w.heap.size + 1 ≤ x3.heap.size := by have := HB3.out.size; omega
              have HOA := hide (own_below HOY.out (below_alloc1 x3 (.cells #[.int .i64 o1, .int .i64 xa1, .int .i64 xb1, .int .i64 ya1, .int .i64 yb1, .int .i64 ar1, .int .i64 sp1, .int .i64 pl1, .int .i64 nn1] 78)))
              have HBA := hide (HBY.out.alloc hzy (.cells #[.int .i64 o1, .int .i64 xa1, .int .i64 xb1, .int .i64 ya1, .int .i64 yb1, .int .i64 ar1, .int .i64 sp1, .int .i64 pl1, .int .i64 nn1] 78))
              have HLEN : Hid ((catE (wordE L f) (wordTo L f t)).length ≤ 300) := by
                show (catE _ _).length ≤ 300
                have e1 := wordE_len L f hn16
                have e2 := wordTo_len L f t
                rw [catE_len]; omega
              clear hbw
              go_wp2_with fail
              refine (HWW.out _).mono ?_
              rintro e x4 ⟨rfl, rfl⟩
              have hx4 : (x3.alloc (.cells #[.int .i64 o1, .int .i64 xa1, .int .i64 xb1, .int .i64 ya1, .int .i64 yb1, .int .i64 ar1, .int .i64 sp1, .int .i64 pl1, .int .i64 nn1] 78)).heap.size = x3.heap.size + 1 := by simp
              have HX4 := hide hx4
              have HF4 := hide (four_cells (x3.alloc (.cells #[.int .i64 o1, .int .i64 xa1, .int .i64 xb1, .int .i64 ya1, .int .i64 yb1, .int .i64 ar1, .int .i64 sp1, .int .i64 pl1, .int .i64 nn1] 78)) (.int .i64 (f : Int)) (.int .i64 (t : Int)) (.int .i64 (k : Int)) (.int .i64 wt) 81)
              rw [hx4] at HF4
              clear hx4
              go_wp2_with (at_builtin; refine wpList_append_own _ rfl (.tmp 41) (.tmp 52) 69 rfl (w.heap.size + 1) 81 j0 (.agg #[.int .i64 0, .int .i64 0, .int .i64 0, .int .i64 0]) 4 32 Try.underlying69 ji jz0 jz1 jz2 rfl (by decide) _ _ _ rfl (own_below HOA.out (below_alloc1 _ _)) ⟨x3.heap.size + 1, 0, none⟩ 1 1 (edCells ⟨f, t, k, wt⟩) rfl rfl (by exact HF4.out) (by intro u hu; unfold edCells at hu; simp at hu; rcases hu with rfl | rfl | rfl | rfl <;> rfl) (by unfold maxLen; have := HLEN.out; omega) (by have := HLEN.out; omega) (by simp; omega) ?_; intro v2' w2 hown2 hgrow2 hnil2; obtain ⟨oa2, oc2, rfl, hl1', hl2'⟩ := ownz_shape hown2; have HO2 := hide hown2; have HG2 := hide hgrow2; clear hown2 hgrow2)
              go_roundw
              case rel =>
                have e1 : catE (wordE L f) (wordTo L f t) ++ [⟨f, t, k, wt⟩] = catE (wordE L f) (wordTo L f (t + 1)) := by rw [HE.out]; unfold catE; rw [List.append_assoc]
                have e2 : (catE (wordE L f) (wordTo L f t)).length + 1 = (catE (wordE L f) (wordTo L f (t + 1))).length := by rw [← e1, List.length_append]; rfl
                have h2 := HO2.out
                rw [flatE_snoc, e1, e2] at h2
                exact ⟨t + 1, by omega, by go_num, oa2, oc2, by rw [e2], h2, (HBA.out.alloc (by rw [HX4.out]; omega) _).grown HG2.out (by simp; omega) (ownz_block_ge HO.out)⟩
              case measure => simp [intOf]; omega
        · have e : t = L.body.length := by omega
          have hti : ¬ (t : Int) < (L.body.length : Int) := by omega
          have e1 : catE (wordE L f) (wordTo L f t) = wordE L (f + 1) := by rw [e]; rfl
          have HE := hide e1
          clear e1 e l0 l1 l2 z0
          go_wp2_with fail
          go_roundw
          case rel => exact ⟨f + 1, by omega, by go_num, oa, oc, by rw [HE.out], by have h := HO.out; rw [HE.out] at h; exact h, HB.out⟩
          case measure => simp [intOf]; omega
    · have e : f = L.body.length := by omega
      have hfi : ¬ (f : Int) < (L.body.length : Int) := by omega
      have HE := hide e
      clear e
      go_wp2_with fail
      go_ret
      exact ⟨_, rfl, by have h := HO.out; rw [HE.out] at h ⊢; exact h, HW.out⟩
end Go.Proofs.Ytkpkpaobhnhgpab
