/- The contract of the document's own Get: the kernel whose bytes they are, or that there is none; nothing that was there is changed. -/
import Derived.Test.YtjdbmldkgjcniabRef13Num
import Derived.Test.YtjdbmldkgjcniabRef11A
namespace Go.Proofs.Ytjdbmldkgjcniab
open Go.RowKit Go.Joins
set_option linter.unusedVariables false
set_option linter.unusedSimpArgs false
set_option maxRecDepth 8192

/-- what Get answers -/
def getK (b : List Int) : Kn := if okB b = true then kernB b else ⟨0, 0, []⟩
def getC (b : List Int) : Int := if okB b = true then 0 else 2
def GetPost (b : List Int) (w : World) (e : Ending) (w' : World) : Prop :=
  Below w.heap.size w w' ∧ ∃ k0 k1 kv, e = .returned (.tuple #[.agg #[.int .i64 k0, .int .i64 k1, kv], .int .i64 (getC b)]) ∧ KernV w' (.agg #[.int .i64 k0, .int .i64 k1, kv]) (getK b)
/-- where a kernel stands to which Ops are added: x1: the world ahead of it -/
structure RowK (x1 : World) (pc st : Int) (f : Nat → Kop) (k : Nat) (wr : World) : Prop where
  bel : Below x1.heap.size x1 wr
  blk : ∃ la lc, wr.heap[x1.heap.size]? = some (.cells #[.int .i64 pc, .int .i64 st, .slice la k lc] 40 (0, 0)) ∧ wr.ownsRow (x1.heap.size + 1) 89 10 (.slice la k lc) k (flatO ((List.range k).map f))
variable {x1 wr y w1 : World} {pc st : Int} {f : Nat → Kop} {k : Nat}
theorem RowK.lt (h : RowK x1 pc st f k wr) : x1.heap.size < wr.heap.size := by
  obtain ⟨la, lc, h1, h2⟩ := h.blk
  exact (Array.getElem?_eq_some_iff.1 h1).1
theorem RowK.start (x1 : World) (pc st : Int) (f : Nat → Kop) : RowK x1 pc st f 0 (x1.alloc (.cells #[.int .i64 pc, .int .i64 st, .slice none 0 0] 40)) :=
  ⟨below_alloc1 _ _, none, 0, new_blkS _ _ _, rfl, .inl ⟨rfl, rfl⟩⟩
theorem RowK.next {la la' : Option Addr} {lc lc' : Nat} (h : RowK x1 pc st f k wr) (ho : wr.ownsRow (x1.heap.size + 1) 89 10 (.slice la k lc) k (flatO ((List.range k).map f))) (hbx : Below x1.heap.size x1 y) (hy : y.heap[x1.heap.size]? = some (.cells #[.int .i64 pc, .int .i64 st, .slice la k lc] 40 (0, 0)))
    (ho1 : w1.ownsRow (x1.heap.size + 1) 89 10 (.slice la' (k + 1) lc') (k + 1) (flatO ((List.range k).map f) ++ (kCells (f k)).toList)) (hg : y.grownBy w1 (Value.ownBlock (.slice la k lc))) :
    RowK x1 pc st f (k + 1) (w1.setCell ⟨x1.heap.size, 2, none⟩ (.slice la' (k + 1) lc')) ∧ w1.heap[x1.heap.size]? = some (.cells #[.int .i64 pc, .int .i64 st, .slice la k lc] 40 (0, 0)) := by
  have hge := ownz_block_ge ho
  have hyz : x1.heap.size < y.heap.size := (Array.getElem?_eq_some_iff.1 hy).1
  have hb1 : w1.heap[x1.heap.size]? = some (.cells #[.int .i64 pc, .int .i64 st, .slice la k lc] 40 (0, 0)) := by
    rw [hg.block _ hyz (fun e => by have := hge _ e.symm; omega)]; exact hy
  refine ⟨⟨(hbx.grown hg (Nat.le_of_lt hyz) fun q hq => by have := hge q hq; omega).setCell (Nat.le_refl _) _, la', lc', ?_, ?_⟩, hb1⟩
  · simp [World.setCell, Array.getElem?_modify, hb1]
  · have e : flatO ((List.range k).map f) ++ (kCells (f k)).toList = flatO ((List.range (k + 1)).map f) := by
      rw [flatO_snoc, List.range_succ, List.map_append]; rfl
    rw [e] at ho1
    obtain ⟨hl, hc⟩ := ho1
    refine ⟨hl, ?_⟩
    rcases hc with hc | ⟨g, cap, cur, hv, hg', hk', r⟩
    · exact .inl hc
    · exact .inr ⟨g, cap, cur, hv, hg', by rw [Below.heap_setCell _ _ _ _ (show g ≠ x1.heap.size by omega)]; exact hk', r⟩
/-- the Ops, behind a store to a block that was there -/
theorem ops3 {base b : Nat} {la : Option Addr} {lc : Nat} (h2 : wr.ownsRow base 89 10 (.slice la k lc) k (flatO ((List.range k).map f))) (hb : b < base) (v0 v1 v2 : Value) : OpsV (((wr.setCell ⟨b, 0, none⟩ v0).setCell ⟨b, 1, none⟩ v1).setCell ⟨b, 2, none⟩ v2) (.slice la k lc) ((List.range k).map f) := by
  have hlen : ((List.range k).map f).length = k := by simp
  have h3 : (((wr.setCell ⟨b, 0, none⟩ v0).setCell ⟨b, 1, none⟩ v1).setCell ⟨b, 2, none⟩ v2).ownsRow base 89 10 (.slice la k lc) k (flatO ((List.range k).map f)) := ownz_keep h2 fun g hg => by
    have := ownz_block_ge h2 g hg
    rw [Below.heap_setCell _ _ _ _ (show g ≠ b by omega), Below.heap_setCell _ _ _ _ (show g ≠ b by omega), Below.heap_setCell _ _ _ _ (show g ≠ b by omega)]
  have h4 : (((wr.setCell ⟨b, 0, none⟩ v0).setCell ⟨b, 1, none⟩ v1).setCell ⟨b, 2, none⟩ v2).ownsRow base 89 10 (.slice la k lc) ((List.range k).map f).length (flatO ((List.range k).map f)) := by rw [hlen]; exact h3
  exact ops_own h4
theorem get_none {b : List Int} (h : okB b = false) : getK b = ⟨0, 0, []⟩ ∧ getC b = 2 := by
  unfold getK getC
  rw [h]
  exact ⟨if_neg Bool.false_ne_true, if_neg Bool.false_ne_true⟩
theorem get_some {b : List Int} (h : okB b = true) : getK b = kernB b ∧ getC b = 0 := by
  unfold getK getC
  rw [h]
  exact ⟨if_pos rfl, if_pos rfl⟩
theorem at_int (v : Value) (l : List Int) (k : Nat) (z : Int) (hz : z = (k : Int)) (w : World) (h : BytesV w v l) (hk : 8 * k + 8 ≤ l.length) (hk2 : k ≤ 1000) :
    Calls Try.prog 63 #[v, .int .i64 z] w fun e w' => e = .returned (.int .i64 (atB l k)) ∧ w' = w := by rw [hz]; exact at_any v l k w h hk hk2
theorem wrap64_range (x : Int) : -9223372036854775808 ≤ wrap64 x ∧ wrap64 x ≤ 9223372036854775807 := by unfold wrap64; omega
theorem atB_range (l : List Int) (k : Nat) : -9223372036854775808 ≤ atB l k ∧ atB l k ≤ 9223372036854775807 := wrap64_range _
set_option maxHeartbeats 8000000 in
theorem get_no (b : List Int) (ba : Option Addr) (bc : Nat) (w : World) (h : BytesV w (.slice ba b.length bc) b) (hno : okB b = false) :
    Calls Try.prog 29 #[.slice ba b.length bc] w (GetPost b w) := by
  have HN := hide (get_none hno)
  have hbl : b.length ≤ 9223372036854775807 := by obtain ⟨_, _, e, h1, h2, _⟩ := h; unfold maxLen at h2; omega
  have HZK : Hid ((w.alloc (.cells #[.int .i64 0, .int .i64 0, .slice none 0 0] 40)).heap[w.heap.size]? = some (.cells #[.int .i64 0, .int .i64 0, .slice none 0 0] 40 (0, 0))) := new_blkS _ _ _
  have HPOST : Hid (∀ y, Below w.heap.size w y → GetPost b w (.returned (.tuple #[.agg #[.int .i64 0, .int .i64 0, .slice none 0 0], .int .i64 2])) y) := fun y hy => by
    refine ⟨hy, 0, 0, .slice none 0 0, by rw [HN.out.2], ?_⟩
    rw [HN.out.1]
    exact none_kern _
  have HBY : Hid (BytesV (w.alloc (.cells #[.int .i64 0, .int .i64 0, .slice none 0 0] 40)) (.slice ba b.length bc) b) := h.below (below_alloc1 _ _)
  have HBA : Hid (Below w.heap.size w (w.alloc (.cells #[.int .i64 0, .int .i64 0, .slice none 0 0] 40))) := below_alloc1 _ _
  have HOK : Hid (24 ≤ b.length → ¬ (0 ≤ atB b 2 ∧ atB b 2 ≤ 16 ∧ (b.length : Int) = 24 + 80 * atB b 2)) := fun h24 ⟨k1, k2, k3⟩ => by
    unfold okB at hno
    rw [decide_eq_true h24, inR_yes ⟨k1, k2⟩, decide_eq_true k3] at hno
    cases hno
  clear h hno
  by_cases h24 : b.length < 24
  · have h24i : (b.length : Int) < 24 := by omega
    go_enter Try.func29, Try.ntmps29
    go_wp2_with fail
    exact bodyPost_ret (v := .tuple #[.agg #[.int .i64 0, .int .i64 0, .slice none 0 0], .int .i64 2]) (by simp [results, Try.results29, go_sem]) rfl (HPOST.out _ HBA.out)
  · have h24i : ¬ (b.length : Int) < 24 := by omega
    have HAT := hide (fun W (h : BytesV W (.slice ba b.length bc) b) => at_int (.slice ba b.length bc) b 2 2 rfl W h (by omega) (by omega))
    have hno2 := HOK.out (by omega)
    have hrg := atB_range b 2
    obtain ⟨mn, hmn⟩ : ∃ mn, atB b 2 = mn := ⟨_, rfl⟩
    rw [hmn] at HAT hno2 hrg
    clear hmn HOK
    have HNO2 := hide hno2
    clear hno2
    obtain ⟨hrg1, hrg2⟩ := hrg
    by_cases hm0 : mn < 0
    · go_enter Try.func29, Try.ntmps29
      go_wp2_with fail
      refine (HAT.out _ HBY.out).mono ?_
      rintro e w' ⟨rfl, hw'⟩
      have hw' := hw'.symm; subst hw'
      go_wp2_with fail
      exact bodyPost_ret (v := .tuple #[.agg #[.int .i64 0, .int .i64 0, .slice none 0 0], .int .i64 2]) (by simp [results, Try.results29, go_sem]) rfl (HPOST.out _ HBA.out)
    · by_cases hm16 : 16 < mn
      · go_enter Try.func29, Try.ntmps29
        go_wp2_with fail
        refine (HAT.out _ HBY.out).mono ?_
        rintro e w' ⟨rfl, hw'⟩
        have hw' := hw'.symm; subst hw'
        go_wp2_with fail
        exact bodyPost_ret (v := .tuple #[.agg #[.int .i64 0, .int .i64 0, .slice none 0 0], .int .i64 2]) (by simp [results, Try.results29, go_sem]) rfl (HPOST.out _ HBA.out)
      · have hne : ¬ (b.length : Int) = 24 + 80 * mn := fun e => HNO2.out ⟨by omega, by omega, e⟩
        have hd1 : decide (mn < 0) = false := decide_eq_false hm0
        have hd2 : decide (16 < mn) = false := decide_eq_false hm16
        have hd3 : ((b.length : Int) != 24 + 80 * mn) = true := bne_iff_ne.2 hne
        go_enter Try.func29, Try.ntmps29
        go_wp2_with fail
        refine (HAT.out _ HBY.out).mono ?_
        rintro e w' ⟨rfl, hw'⟩
        have hw' := hw'.symm; subst hw'
        go_wp2_with fail
        exact bodyPost_ret (v := .tuple #[.agg #[.int .i64 0, .int .i64 0, .slice none 0 0], .int .i64 2]) (by simp [results, Try.results29, go_sem]) rfl (HPOST.out _ HBA.out)

set_option maxHeartbeats 16000000 in
theorem get_yes (b : List Int) (ba : Option Addr) (bc : Nat) (w : World) (h : BytesV w (.slice ba b.length bc) b) (hok : okB b = true) :
    Calls Try.prog 29 #[.slice ba b.length bc] w (GetPost b w) := by
  have HN := hide (get_some hok)
  obtain ⟨h24, hmr, hln⟩ : 24 ≤ b.length ∧ (0 ≤ atB b 2 ∧ atB b 2 ≤ 16) ∧ (b.length : Int) = 24 + 80 * atB b 2 := by
    unfold okB at hok
    simp only [Bool.and_eq_true, decide_eq_true_eq] at hok
    exact ⟨hok.1.1, inR_iff.1 hok.1.2, hok.2⟩
  obtain ⟨n, hn⟩ : ∃ n : Nat, atB b 2 = (n : Int) := ⟨(atB b 2).toNat, by omega⟩
  obtain ⟨i0, hi, hz0, hz1, hz2⟩ := info_parts Try.iop89
  have HKB : Hid (kernB b = ⟨atB b 0, atB b 1, (List.range n).map (opB b)⟩) := by show _ = _; unfold kernB; rw [hn, Int.toNat_natCast]
  have HA := hide (fun (k : Nat) (z : Int) (hz : z = (k : Int)) (hk : 8 * k + 8 ≤ b.length) (hk2 : k ≤ 1000) W (h : BytesV W (.slice ba b.length bc) b) => at_int (.slice ba b.length bc) b k z hz W h hk hk2)
  have HB0 := hide (HA.out 0 0 rfl (by omega) (by omega))
  have HB1 := hide (HA.out 1 1 rfl (by omega) (by omega))
  have HB2 := hide (HA.out 2 2 rfl (by omega) (by omega))
  rw [hn] at hmr hln HB2
  have HBX : Hid (BytesV (w.alloc (.cells #[.int .i64 0, .int .i64 0, .slice none 0 0] 40)) (.slice ba b.length bc) b) := h.below (below_alloc1 _ _)
  have HZ1 : Hid ((w.alloc (.cells #[.int .i64 0, .int .i64 0, .slice none 0 0] 40)).heap.size = w.heap.size + 1) := by show _ = _; simp
  have HRB : Hid ((w.alloc (.cells #[.int .i64 0, .int .i64 0, .slice none 0 0] 40)).heap[w.heap.size]? = some (.cells #[.int .i64 0, .int .i64 0, .slice none 0 0] 40 (0, 0))) := new_blkS _ _ _
  have HX1 : Hid (Below w.heap.size w (w.alloc (.cells #[.int .i64 0, .int .i64 0, .slice none 0 0] 40))) := below_alloc1 _ _
  have hbl : b.length ≤ 9223372036854775807 := by obtain ⟨_, _, e, h1, h2, _⟩ := h; unfold maxLen at h2; omega
  have HBV := hide h
  obtain ⟨pc, hpc⟩ : ∃ pc, atB b 0 = pc := ⟨_, rfl⟩
  obtain ⟨st, hst⟩ : ∃ st, atB b 1 = st := ⟨_, rfl⟩
  rw [hpc] at HB0 HKB
  rw [hst] at HB1 HKB
  have HST := hide (RowK.start (w.alloc (.cells #[.int .i64 0, .int .i64 0, .slice none 0 0] 40)) pc st (opB b))
  have hd1 : decide ((n : Int) < 0) = false := decide_eq_false (by omega)
  have hd2 : decide ((16 : Int) < (n : Int)) = false := decide_eq_false (by omega)
  have hd3 : ((b.length : Int) != 24 + 80 * (n : Int)) = false := by rw [hln]; simp
  have hn16 : n ≤ 16 := by omega
  clear h hok hn hpc hst
  go_enter Try.func29, Try.ntmps29
  go_wp2_with fail
  refine (HB2.out _ HBX.out).mono ?_
  rintro e w' ⟨rfl, hw'⟩
  have hw' := hw'.symm; subst hw'
  go_wp2_with fail
  refine (HB0.out _ HBX.out).mono ?_
  rintro e w' ⟨rfl, hw'⟩
  have hw' := hw'.symm; subst hw'
  go_wp2_with fail
  refine (HB1.out _ HBX.out).mono ?_
  rintro e w' ⟨rfl, hw'⟩
  have hw' := hw'.symm; subst hw'
  go_wp2_with fail
  go_loopw [6] (fun iv wr => ∃ k : Nat, k ≤ n ∧ iv = .int .i64 k ∧ RowK (w.alloc (.cells #[.int .i64 0, .int .i64 0, .slice none 0 0] 40)) pc st (opB b) k wr) (fun iv _ => n - (intOf iv).toNat)
  case atStart => exact ⟨0, Nat.zero_le _, rfl, HST.out⟩
  case round =>
    clear HST
    obtain ⟨k, hk, rfl, hrow⟩ := hrel
    have hbw : Below w.heap.size w wr := HX1.out.trans (hrow.bel.mono (by rw [HZ1.out]; omega))
    have HBW : Hid (BytesV wr (.slice ba b.length bc) b) := HBV.out.below hbw
    have hlt := hrow.lt
    rw [HZ1.out] at hlt
    have HROW := hide hrow
    by_cases hkl : k < n
    · have hki : (k : Int) < (n : Int) := by omega
      have HA0 := hide (HA.out (3 + 10 * k) (3 + 10 * (k : Int)) (by omega) (by omega) (by omega))
      have HA1 := hide (HA.out (3 + 10 * k + 1) (3 + 10 * (k : Int) + 1) (by omega) (by omega) (by omega))
      have HA2 := hide (HA.out (3 + 10 * k + 2) (3 + 10 * (k : Int) + 2) (by omega) (by omega) (by omega))
      have HA3 := hide (HA.out (3 + 10 * k + 3) (3 + 10 * (k : Int) + 3) (by omega) (by omega) (by omega))
      have HA4 := hide (HA.out (3 + 10 * k + 4) (3 + 10 * (k : Int) + 4) (by omega) (by omega) (by omega))
      have HA5 := hide (HA.out (3 + 10 * k + 5) (3 + 10 * (k : Int) + 5) (by omega) (by omega) (by omega))
      have HA6 := hide (HA.out (3 + 10 * k + 6) (3 + 10 * (k : Int) + 6) (by omega) (by omega) (by omega))
      have HA7 := hide (HA.out (3 + 10 * k + 7) (3 + 10 * (k : Int) + 7) (by omega) (by omega) (by omega))
      have HA8 := hide (HA.out (3 + 10 * k + 8) (3 + 10 * (k : Int) + 8) (by omega) (by omega) (by omega))
      have HA9 := hide (HA.out (3 + 10 * k + 9) (3 + 10 * (k : Int) + 9) (by omega) (by omega) (by omega))
      obtain ⟨la, lc, hkb, hown⟩ := hrow.blk
      have HNEXT := hide (fun y w1 la' lc' h1 h2 h3 h4 => RowK.next (y := y) (w1 := w1) (la' := la') (lc' := lc') hrow hown h1 h2 h3 h4)
      have HOPB : Hid (opB b k = ⟨atB b (3 + 10 * k), atB b (3 + 10 * k + 1), atB b (3 + 10 * k + 2), atB b (3 + 10 * k + 3), atB b (3 + 10 * k + 4), atB b (3 + 10 * k + 5), atB b (3 + 10 * k + 6), atB b (3 + 10 * k + 7), atB b (3 + 10 * k + 8), atB b (3 + 10 * k + 9)⟩) := rfl
      rw [HOPB.out] at HNEXT
      generalize atB b (3 + 10 * k) = z0 at HA0 HNEXT
      generalize atB b (3 + 10 * k + 1) = z1 at HA1 HNEXT
      generalize atB b (3 + 10 * k + 2) = z2 at HA2 HNEXT
      generalize atB b (3 + 10 * k + 3) = z3 at HA3 HNEXT
      generalize atB b (3 + 10 * k + 4) = z4 at HA4 HNEXT
      generalize atB b (3 + 10 * k + 5) = z5 at HA5 HNEXT
      generalize atB b (3 + 10 * k + 6) = z6 at HA6 HNEXT
      generalize atB b (3 + 10 * k + 7) = z7 at HA7 HNEXT
      generalize atB b (3 + 10 * k + 8) = z8 at HA8 HNEXT
      generalize atB b (3 + 10 * k + 9) = z9 at HA9 HNEXT
      rw [HZ1.out] at HNEXT hkb hown
      have HKBK := hide hkb
      have HOWN := hide hown
      have hown6 := ownz_shape hown
      obtain ⟨la9, lc9, hsh, hkc, hcm⟩ := hown6
      injection hsh with hsh1 hsh2 hsh3
      clear hsh1 hsh2
      subst hsh3
      unfold maxLen at hcm
      have m0 : wr.cell? ⟨w.heap.size + 1, 0, none⟩ = some (.int .i64 pc) := by rw [cell_of_block hkb]; rfl
      have m1 : wr.cell? ⟨w.heap.size + 1, 1, none⟩ = some (.int .i64 st) := by rw [cell_of_block hkb]; rfl
      have m2 : wr.cell? ⟨w.heap.size + 1, 2, none⟩ = some (.slice la k lc) := by rw [cell_of_block hkb]; rfl
      have hkne : ¬ wr.heap.size = w.heap.size + 1 := by omega
      have hkne2 : ¬ w.heap.size + 1 = wr.heap.size := by omega
      have HBR := hide hrow.bel
      rw [HZ1.out] at HBR
      have HZB : Hid (Below (w.heap.size + 1) (w.alloc (.cells #[.int .i64 0, .int .i64 0, .slice none 0 0] 40)) ((wr.alloc (.cells #[.int .i64 z0, .int .i64 z1, .int .i64 z2, .int .i64 z3, .int .i64 z4, .int .i64 z5, .int .i64 z6, .int .i64 z7, .int .i64 z8, .int .i64 z9] 89)).alloc (.cells #[.int .i64 z0, .int .i64 z1, .int .i64 z2, .int .i64 z3, .int .i64 z4, .int .i64 z5, .int .i64 z6, .int .i64 z7, .int .i64 z8, .int .i64 z9] 89))) := (HBR.out.alloc (by omega) _).alloc (by simp; omega) _
      have HZK2 : Hid (((wr.alloc (.cells #[.int .i64 z0, .int .i64 z1, .int .i64 z2, .int .i64 z3, .int .i64 z4, .int .i64 z5, .int .i64 z6, .int .i64 z7, .int .i64 z8, .int .i64 z9] 89)).alloc (.cells #[.int .i64 z0, .int .i64 z1, .int .i64 z2, .int .i64 z3, .int .i64 z4, .int .i64 z5, .int .i64 z6, .int .i64 z7, .int .i64 z8, .int .i64 z9] 89)).heap[w.heap.size + 1]? = some (.cells #[.int .i64 pc, .int .i64 st, .slice la k lc] 40 (0, 0))) := by
        show _ = _
        rw [Below.heap_alloc _ _ _ (by simp; omega), Below.heap_alloc _ _ _ (by omega)]; exact hkb
      have HOC : Hid (∀ (j : Nat) (u : Value), [.int .i64 z0, .int .i64 z1, .int .i64 z2, .int .i64 z3, .int .i64 z4, .int .i64 z5, .int .i64 z6, .int .i64 z7, .int .i64 z8, .int .i64 z9][j]? = some u → ((wr.alloc (.cells #[.int .i64 z0, .int .i64 z1, .int .i64 z2, .int .i64 z3, .int .i64 z4, .int .i64 z5, .int .i64 z6, .int .i64 z7, .int .i64 z8, .int .i64 z9] 89)).alloc (.cells #[.int .i64 z0, .int .i64 z1, .int .i64 z2, .int .i64 z3, .int .i64 z4, .int .i64 z5, .int .i64 z6, .int .i64 z7, .int .i64 z8, .int .i64 z9] 89)).cell? ((⟨wr.heap.size + 1, 0, none⟩ : Addr).add j) = some u) := by
        have h := ten_cellsE (wr.alloc (.cells #[.int .i64 z0, .int .i64 z1, .int .i64 z2, .int .i64 z3, .int .i64 z4, .int .i64 z5, .int .i64 z6, .int .i64 z7, .int .i64 z8, .int .i64 z9] 89)) #[.int .i64 z0, .int .i64 z1, .int .i64 z2, .int .i64 z3, .int .i64 z4, .int .i64 z5, .int .i64 z6, .int .i64 z7, .int .i64 z8, .int .i64 z9] 89
        have e : (wr.alloc (.cells #[.int .i64 z0, .int .i64 z1, .int .i64 z2, .int .i64 z3, .int .i64 z4, .int .i64 z5, .int .i64 z6, .int .i64 z7, .int .i64 z8, .int .i64 z9] 89)).heap.size = wr.heap.size + 1 := by simp
        rw [e] at h
        exact h
      have hw5 : wrap64 (10 * (k : Int)) = 10 * (k : Int) := by unfold wrap64; omega
      clear hkb hown hrow hbw
      rename World => wo
      go_wp2_with fail
      refine (HA0.out _ HBW.out).mono ?_
      rintro e w' ⟨rfl, hw'⟩
      have hw' := hw'.symm; subst hw'
      go_wp2_with fail
      refine (HA1.out _ HBW.out).mono ?_
      rintro e w' ⟨rfl, hw'⟩
      have hw' := hw'.symm; subst hw'
      go_wp2_with fail
      refine (HA2.out _ HBW.out).mono ?_
      rintro e w' ⟨rfl, hw'⟩
      have hw' := hw'.symm; subst hw'
      go_wp2_with fail
      refine (HA3.out _ HBW.out).mono ?_
      rintro e w' ⟨rfl, hw'⟩
      have hw' := hw'.symm; subst hw'
      go_wp2_with fail
      refine (HA4.out _ HBW.out).mono ?_
      rintro e w' ⟨rfl, hw'⟩
      have hw' := hw'.symm; subst hw'
      go_wp2_with fail
      refine (HA5.out _ HBW.out).mono ?_
      rintro e w' ⟨rfl, hw'⟩
      have hw' := hw'.symm; subst hw'
      go_wp2_with fail
      refine (HA6.out _ (HBW.out.below (below_alloc1 _ _))).mono ?_
      rintro e w' ⟨rfl, hw'⟩
      have hw' := hw'.symm; subst hw'
      go_wp2_with fail
      refine (HA7.out _ (HBW.out.below (below_alloc1 _ _))).mono ?_
      rintro e w' ⟨rfl, hw'⟩
      have hw' := hw'.symm; subst hw'
      go_wp2_with fail
      refine (HA8.out _ (HBW.out.below (below_alloc1 _ _))).mono ?_
      rintro e w' ⟨rfl, hw'⟩
      have hw' := hw'.symm; subst hw'
      go_wp2_with fail
      refine (HA9.out _ (HBW.out.below (below_alloc1 _ _))).mono ?_
      rintro e w' ⟨rfl, hw'⟩
      have hw' := hw'.symm; subst hw'
      go_wp2_with (at_builtin; refine wpList_append_own _ rfl (.tmp 88) (.tmp 90) 38 rfl (w.heap.size + 1 + 1) 89 i0 (.agg #[.int .i64 0, .int .i64 0, .int .i64 0, .int .i64 0, .int .i64 0, .int .i64 0, .int .i64 0, .int .i64 0, .int .i64 0, .int .i64 0]) 10 80 Try.underlying38 hi hz0 hz1 hz2 rfl (by decide) _ _ _ rfl (own_below HOWN.out (below_alloc2 _ _ _)) ⟨wo.heap.size + 1, 0, none⟩ 1 1 [.int .i64 z0, .int .i64 z1, .int .i64 z2, .int .i64 z3, .int .i64 z4, .int .i64 z5, .int .i64 z6, .int .i64 z7, .int .i64 z8, .int .i64 z9] rfl rfl (by exact HOC.out) (by intro u hu; simp at hu; rcases hu with rfl | rfl | rfl | rfl | rfl | rfl | rfl | rfl | rfl | rfl <;> rfl) (by unfold maxLen; omega) (by omega) (by simp; omega) ?_; intro v1 w1 hown1 hgrow1 hnil1; obtain ⟨la1, lc1, rfl, -, -⟩ := ownz_shape hown1; have HO1 := hide hown1; have HG1 := hide hgrow1; clear hown1 hgrow1 hnil1; have HNX := hide (HNEXT.out _ w1 _ _ HZB.out HZK2.out HO1.out HG1.out); clear m0 m1 m2; have m2 : w1.cell? ⟨w.heap.size + 1, 2, none⟩ = some (.slice la k lc) := (by rw [cell_of_block HNX.out.2]; rfl); have mf : w1.frozen? ⟨w.heap.size + 1, 2, none⟩ = false := (by simp [World.frozen?, HNX.out.2]))
      go_roundw
      case rel =>
        have h := HNX.out.1
        rw [← HZ1.out] at h
        exact ⟨k + 1, by omega, by go_num, by have h2 := h; rw [HZ1.out] at h2; exact h2⟩
      case measure => simp [intOf]; omega
    · have e : k = n := by omega
      subst e
      have hki : ¬ (k : Int) < (k : Int) := by omega
      obtain ⟨la, lc, hkb, hown⟩ := hrow.blk
      have hrb : wr.heap[w.heap.size]? = some (.cells #[.int .i64 0, .int .i64 0, .slice none 0 0] 40 (0, 0)) := (hrow.bel.block _ (by rw [HZ1.out]; omega)).trans HRB.out
      rw [HZ1.out] at hkb hown
      have m0 : wr.cell? ⟨w.heap.size + 1, 0, none⟩ = some (.int .i64 pc) := by rw [cell_of_block hkb]; rfl
      have m1 : wr.cell? ⟨w.heap.size + 1, 1, none⟩ = some (.int .i64 st) := by rw [cell_of_block hkb]; rfl
      have m2 : wr.cell? ⟨w.heap.size + 1, 2, none⟩ = some (.slice la k lc) := by rw [cell_of_block hkb]; rfl
      have k0 : wr.cell? ⟨w.heap.size, 0, none⟩ = some (.int .i64 0) := by rw [cell_of_block hrb]; rfl
      have k1 : wr.cell? ⟨w.heap.size, 1, none⟩ = some (.int .i64 0) := by rw [cell_of_block hrb]; rfl
      have k2 : wr.cell? ⟨w.heap.size, 2, none⟩ = some (.slice none 0 0) := by rw [cell_of_block hrb]; rfl
      have f0 : wr.frozen? ⟨w.heap.size, 0, none⟩ = false := by simp [World.frozen?, hrb]
      have f1 : wr.frozen? ⟨w.heap.size, 1, none⟩ = false := by simp [World.frozen?, hrb]
      have f2 : wr.frozen? ⟨w.heap.size, 2, none⟩ = false := by simp [World.frozen?, hrb]
      have HT := hide (triple_set (a' := .int .i64 pc) (b' := .int .i64 st) (d' := .slice la k lc) hrb)
      have HF : Hid (GetPost b w (.returned (.tuple #[.agg #[.int .i64 pc, .int .i64 st, .slice la k lc], .int .i64 0])) (((wr.setCell ⟨w.heap.size, 0, none⟩ (.int .i64 pc)).setCell ⟨w.heap.size, 1, none⟩ (.int .i64 st)).setCell ⟨w.heap.size, 2, none⟩ (.slice la k lc))) := by
        refine ⟨((hbw.setCell (Nat.le_refl _) _).setCell (Nat.le_refl _) _).setCell (Nat.le_refl _) _, pc, st, _, by rw [HN.out.2], ?_⟩
        rw [HN.out.1, HKB.out]
        exact ⟨_, rfl, ops3 hown (by omega) _ _ _⟩
      clear hkb hown hrow hbw hrb
      go_wp2_with fail
      have s0 : (((wr.setCell ⟨w.heap.size, 0, none⟩ (.int .i64 pc)).setCell ⟨w.heap.size, 1, none⟩ (.int .i64 st)).setCell ⟨w.heap.size, 2, none⟩ (.slice la k lc)).cell? ⟨w.heap.size, 0, none⟩ = some (.int .i64 pc) := by rw [cell_of_block HT.out]; rfl
      have s1 : (((wr.setCell ⟨w.heap.size, 0, none⟩ (.int .i64 pc)).setCell ⟨w.heap.size, 1, none⟩ (.int .i64 st)).setCell ⟨w.heap.size, 2, none⟩ (.slice la k lc)).cell? ⟨w.heap.size, 1, none⟩ = some (.int .i64 st) := by rw [cell_of_block HT.out]; rfl
      have s2 : (((wr.setCell ⟨w.heap.size, 0, none⟩ (.int .i64 pc)).setCell ⟨w.heap.size, 1, none⟩ (.int .i64 st)).setCell ⟨w.heap.size, 2, none⟩ (.slice la k lc)).cell? ⟨w.heap.size, 2, none⟩ = some (.slice la k lc) := by rw [cell_of_block HT.out]; rfl
      exact bodyPost_ret (v := .tuple #[.agg #[.int .i64 pc, .int .i64 st, .slice la k lc], .int .i64 0]) (by simp [results, Try.results29, go_sem, s0, s1, s2]) rfl HF.out
theorem get_any (b : List Int) (v : Value) (w : World) (h : BytesV w v b) : Calls Try.prog 29 #[v] w (GetPost b w) := by
  have h' := h
  obtain ⟨ba, bc, rfl, -⟩ := h'
  cases hok : okB b with
  | false => exact get_no b ba bc w h hok
  | true => exact get_yes b ba bc w h hok
end Go.Proofs.Ytjdbmldkgjcniab
