/- Ref5A: texts that are built as one: Ref5Logs, KernInv, KernStep. -/
import Derived.Test.YtbpaffkkphacdabGreatBase
import Derived.Test.YtbpaffkkphacdabGreatNums
import Derived.Test.YtbpaffkkphacdabGreatRef3A
import Derived.Deep.QuietTactic
import Derived.BigQuiet
import Derived.Deep.RegionHeld3
import Derived.BigRegion
import Derived.Test.YtbpaffkkphacdabGreatRounds
import Derived.Test.YtbpaffkkphacdabGreatKernS
/- The contract of the document's own reckoning of Logs; nothing that was there is changed. -/
namespace Go.Proofs.YtbpaffkkphacdabGreat
open Go.RowKit Go.Joins
set_option linter.unusedVariables false

theorem Tryz.i3 : (Tryz.prog.info? 3).map (fun i => (i.zero, i.size, i.bytes)) = some (some (.int .i64 0), 1, 8) := by kernel_rfl
theorem logs_take (M : List (List Int)) (k : Nat) (h : k < M.length) : ((logsOf M).take k).map (Value.int .i64) ++ [.int .i64 (logIx (rowAt M k).length : Int)] = ((logsOf M).take (k + 1)).map (Value.int .i64) := by
  have hl : k < (logsOf M).length := by rw [logsOf_len]; exact h
  rw [List.take_succ_eq_append_getElem hl, List.map_append]
  congr 1
  have := logsOf_nth M k h
  simp [nth, List.getD, hl] at this
  simp [this]
theorem p2_neG {g n : Nat} (h : 2 ^ g ≠ n) : (p2 g != (n : Int)) = true := by
  unfold p2
  simp only [bne_iff_ne, ne_eq]
  omega
theorem p2_eq {g n : Nat} (h : 2 ^ g = n) : (p2 g != (n : Int)) = false := by
  unfold p2
  rw [h]; simp
theorem own_shape2 {w : World} {base : Nat} {e : TypeId} {v : Value} {n : Nat} {xs : List Value} (h : w.ownsRow base e 1 v n xs) : ∃ a cap, v = .slice a n cap ∧ n ≤ cap ∧ cap ≤ maxLen := by
  obtain ⟨hl, h⟩ := h
  rcases h with ⟨rfl, rfl⟩ | ⟨g, cap, cur, rfl, hg, hb, hn, hm, r⟩
  · exact ⟨none, 0, rfl, Nat.le_refl _, Nat.zero_le _⟩
  · exact ⟨_, cap, rfl, hn, hm⟩
theorem ints_of_own2 {w : World} {base : Nat} {e : TypeId} {v : Value} {zs : List Int} (h : w.ownsRow base e 1 v zs.length (zs.map (Value.int .i64))) (hz : ∀ i, i < zs.length → -9223372036854775808 ≤ nth zs i ∧ nth zs i ≤ 9223372036854775807) : Ints w v zs := by
  obtain ⟨a, cap, hv, h1, h2⟩ := own_shape2 h
  refine ⟨a, cap, hv, h1, h2, hz, fun hp => ?_⟩
  obtain ⟨g, c, hv2, hg, h3, h4, hr⟩ := own_parts h (.inr hp)
  rw [hv] at hv2
  injection hv2 with e1 e2 e3
  refine ⟨g, 0, e1, hr.lt, fun i hi => ?_⟩
  rw [Nat.zero_add, hr.cell hi, getD_ints zs i hi]

set_option maxRecDepth 8192 in
set_option maxHeartbeats 2000000 in
theorem logs_any (v : Value) (M : List (List Int)) (w : World) (h : IntRows w v M) (hbig : M.length * 24 ≤ 140737488351232) :
    Calls Tryz.prog 54 #[v] w fun e w' => ∃ lv, e = .returned (.tuple #[lv, .bool (hasLogs M)]) ∧ (hasLogs M = true → Ints w' lv (logsOf M) ∧ w'.ownsRow w.heap.size 3 1 lv (logsOf M).length ((logsOf M).map (Value.int .i64))) ∧ (hasLogs M = false → lv = .slice none 0 0) ∧ Below w.heap.size w w' := by
  obtain ⟨ma, mcap, rfl, ml, mm, mc⟩ := h
  unfold maxLen at mm
  obtain ⟨i0, hi, hz0, hz1, hz2⟩ := info_parts Tryz.i3
  have HMC := hide mc
  clear mc
  go_enter Tryz.func54, Tryz.ntmps54
  go_wp2_with fail
  go_loopw [4, 5] (fun l i wr => ∃ k : Nat, k ≤ M.length ∧ i = .int .i64 k ∧ allN (fun i => hasLog (rowAt M i)) k = true ∧ Below w.heap.size w wr ∧ ∃ la lc, l = .slice la k lc ∧ wr.ownsRow w.heap.size 3 1 (.slice la k lc) k (((logsOf M).take k).map (Value.int .i64))) (fun _ i _ => M.length - (intOf i).toNat)
  case atStart => exact ⟨0, Nat.zero_le _, rfl, rfl, Below.refl _ _, none, 0, rfl, World.ownsRow_nil _ _ _ _⟩
  case round =>
    obtain ⟨k, hk, rfl, hall, hbel, la, lc, rfl, hown⟩ := hrel
    have HA := hide hall
    have HB := hide hbel
    have HO := hide hown
    have hsz := hbel.size
    clear hall hown
    by_cases hlt : k < M.length
    · have hki : (k : Int) < (M.length : Int) := by omega
      obtain ⟨b, off, rfl, hb, hrow⟩ := HMC.out (by omega)
      obtain ⟨u, hu, ⟨ra, rc, rfl, rl, rm, rr, rcell⟩⟩ := hrow k hlt
      rw [← bcell hbel _ _ hb] at hu
      have hbz : b < wr.heap.size := by omega
      clear rr rcell hrow hbel
      rename World => wo
      go_wp2_with fail
      go_loopw [6] (fun i wq => ∃ g n : Nat, g ≤ 6 ∧ i = .int .i64 g ∧ (∀ j, j < g → 2 ^ j ≠ (rowAt M k).length) ∧ wq = wo.drewN n) (fun i _ => 6 - (intOf i).toNat)
      case atStart => exact ⟨0, 0, by omega, rfl, fun j hj => absurd hj (Nat.not_lt_zero _), rfl⟩
      case round =>
        obtain ⟨g, n, hg, rfl, hno, rfl⟩ := hrel
        have HNO := hide hno
        clear hno
        by_cases hg6 : g = 6
        · have hgi : ¬ (g : Int) ≤ 5 := by omega
          have hg5 : (5 : Int) < (g : Int) := by omega
          have HL : Hid (hasLogs M = false) := by
            show hasLogs M = false
            refine allN_false hlt ?_
            show decide (logIx _ < 6) = false
            rw [logIx_none (fun j hj => HNO.out j (by omega))]; rfl
          go_wp2_with fail
          go_quiet ((fail))
          go_wp2_with fail
          refine bodyPost_ret (v := .tuple #[.slice none 0 0, .bool false]) (by simp [results, Tryz.results54, go_sem]) rfl ⟨_, by rw [HL.out], fun e => ?_, fun _ => rfl, HB.out.trans (below_draws _ _ _)⟩
          rw [HL.out] at e; cases e
        · have hgi : (g : Int) ≤ 5 := by omega
          have hg5 : ¬ (5 : Int) < (g : Int) := by omega
          by_cases hgl : 2 ^ g = (rowAt M k).length
          · have hne := p2_eq hgl
            have HG := hide (logIx_of (by omega) hgl)
            clear hgl
            go_wp2_with fail
            go_region_held3 (fun w' => w'.cell? ⟨b, off + k, none⟩ = some (.slice ra (rowAt M k).length rc)) ((go_keep; done)) (first | (go_at_call 22; refine (size_any g _ (by omega)).mono ?_; rintro e w' ⟨rfl, rfl⟩))
            go_wp2_with (at_builtin; refine wpList_append_own _ rfl (.tmp 29) (.tmp 31) 22 rfl w.heap.size 3 i0 (.int .i64 0) 1 8 Tryz.underlying22 hi hz0 hz1 hz2 rfl (by decide) _ _ _ rfl (own_below HO.out (by first | exact (below_draws _ _ _).alloc (Nat.le_refl _) _ | exact (below_alloc1 _ _).trans (below_draws _ _ _))) ⟨wo.heap.size, 0, none⟩ 1 1 [.int .i64 g] rfl rfl (by exact one_cell _ _ _) (by intro u hu; simp at hu; subst hu; rfl) (by unfold maxLen; omega) (by omega) (by simp; omega) ?_; intro v2 w2 hown2 hgrow2 hnil2; obtain ⟨la2, lc2, rfl, hl1, hl2⟩ := own_shape2 hown2; have HO2 := hide hown2; have HG2 := hide hgrow2; clear hown2 hgrow2)
            go_roundw
            case rel =>
              refine ⟨k + 1, by omega, by go_num, allN_step HA.out (by show decide (logIx _ < 6) = true; rw [HG.out]; simp; omega), ?_, la2, lc2, rfl, ?_⟩
              · exact (HB.out.trans ((below_draws _ _ _).alloc (by simp; omega) _)).grown HG2.out (by simp; omega) (own_block_ge HO.out)
              · rw [← logs_take M k hlt, HG.out]; exact HO2.out
            case measure => simp [intOf]; omega
          · have hne := p2_neG hgl
            have HGL := hide hgl
            clear hgl
            go_wp2_with fail
            go_region_held3 (fun w' => w'.cell? ⟨b, off + k, none⟩ = some (.slice ra (rowAt M k).length rc)) ((go_keep; done)) (first | (go_at_call 22; refine (size_any g _ (by omega)).mono ?_; rintro e w' ⟨rfl, rfl⟩))
            go_wp2_with fail
            go_roundw
            case rel => exact ⟨g + 1, n + 1, by omega, by go_num, fun j hj => by
              by_cases e : j = g
              · rw [e]; exact HGL.out
              · exact HNO.out j (by omega), rfl⟩
            case measure => simp [intOf]; omega
    · have e : k = M.length := by omega
      subst e
      have HL : Hid (hasLogs M = true) := HA.out
      have HO2 : Hid (wr.ownsRow w.heap.size 3 1 (.slice la M.length lc) (logsOf M).length ((logsOf M).map (Value.int .i64))) := by
        have h := HO.out
        rw [List.take_of_length_le (by rw [logsOf_len]; omega)] at h
        show wr.ownsRow _ _ _ _ (logsOf M).length _
        rw [logsOf_len]; exact h
      clear hbel
      go_wp2_with fail
      refine bodyPost_ret (v := .tuple #[.slice la M.length lc, .bool true]) (by simp [results, Tryz.results54, go_sem]) rfl ⟨_, by rw [HL.out], fun _ => ⟨?_, HO2.out⟩, fun e => ?_, HB.out⟩
      · refine ints_of_own2 HO2.out (fun i hi => ?_)
        rw [logsOf_nth M i (by rw [logsOf_len] at hi; exact hi)]
        have := logIx_le (rowAt M i).length
        omega
      · rw [HL.out] at e; cases e
end Go.Proofs.YtbpaffkkphacdabGreat
/- Where a run of a kernel stands in memory, by the document's own program: the registers, the words, what is due, the Logs; what a store, an append and a callee leave of it. -/
namespace Go.Proofs.YtbpaffkkphacdabGreat
open Go.RowKit Go.Joins
set_option linter.unusedVariables false

/-- mv leads to n rows of the words m, in blocks of the call's own -/
structure MR (w : World) (base : Nat) (mv : Value) (n : Nat) (len : Nat → Nat) (m : Nat → Nat → Int) (gm cm : Nat) (G C : Nat → Nat) : Prop where
  shape : ∃ am, mv = .slice am n cm ∧ n ≤ cm ∧ cm ≤ maxLen
  out : n = 0 ∨ (mv = .slice (some ⟨gm, 0, none⟩) n cm ∧ RowF w gm 48 n (rowV G C len) ∧ base ≤ gm)
  inn : Inner w base G C n len m
theorem MR.keep {w w' : World} {base : Nat} {mv : Value} {n : Nat} {len : Nat → Nat} {m : Nat → Nat → Int} {gm cm : Nat} {G C : Nat → Nat} (h : MR w base mv n len m gm cm G C) (h1 : 0 < n → w'.heap[gm]? = w.heap[gm]?) (h2 : ∀ i, i < n → w'.heap[G i]? = w.heap[G i]?) : MR w' base mv n len m gm cm G C where
  shape := h.shape
  out := by
    rcases h.out with e | ⟨e1, e2, e3⟩
    · exact .inl e
    · by_cases hn : n = 0
      · exact .inl hn
      · exact .inr ⟨e1, e2.of_block (h1 (by omega)), e3⟩
  inn := h.inn.keep h2
theorem MR.lt {w : World} {base : Nat} {mv : Value} {n : Nat} {len : Nat → Nat} {m : Nat → Nat → Int} {gm cm : Nat} {G C : Nat → Nat} (h : MR w base mv n len m gm cm G C) (hn : 0 < n) : gm < w.heap.size := by
  rcases h.out with e | ⟨e1, e2, e3⟩
  · omega
  · exact e2.lt
theorem MR.below {w w' : World} {base : Nat} {mv : Value} {n : Nat} {len : Nat → Nat} {m : Nat → Nat → Int} {gm cm : Nat} {G C : Nat → Nat} (h : MR w base mv n len m gm cm G C) (hb : Below w.heap.size w w') : MR w' base mv n len m gm cm G C :=
  h.keep (fun hn => hb.block _ (h.lt hn)) (fun i hi => hb.block _ (h.inn.1 i hi).2.2.2.lt)
/-- a word becomes v -/
theorem MR.set {w : World} {base : Nat} {mv : Value} {n : Nat} {len : Nat → Nat} {m : Nat → Nat → Int} {gm cm : Nat} {G C : Nat → Nat} (h : MR w base mv n len m gm cm G C) (i j : Nat) (v : Int) (hi : i < n) (hj : j < len i) :
    MR (w.setCell ⟨G i, j, none⟩ (.int .i64 v)) base mv n len (put2 m i j v) gm cm G C where
  shape := h.shape
  out := by
    rcases h.out with e | ⟨e1, e2, e3⟩
    · exact .inl e
    · exact .inr ⟨e1, e2.setOther (by show gm ≠ G i; exact e2.apart (h.inn.1 i hi).2.2.2 (by decide)) _, e3⟩
  inn := by
    refine ⟨fun a ha => ⟨(h.inn.1 a ha).1, (h.inn.1 a ha).2.1, (h.inn.1 a ha).2.2.1, ?_⟩, h.inn.2⟩
    by_cases e : a = i
    · subst e
      refine ((h.inn.1 a ha).2.2.2.set j _ hj).congr fun q hq => ?_
      show (if q = j then Value.int .i64 v else .int .i64 (m a q)) = .int .i64 (put2 m a j v a q)
      rw [put2_in]
      split <;> rfl
    · refine ((h.inn.1 a ha).2.2.2.setOther (by show G a ≠ G i; exact h.inn.2 a i ha hi e) _).congr fun q hq => ?_
      show Value.int .i64 (m a q) = .int .i64 (put2 m i j v a q)
      rw [put2_row _ _ _ _ _ _ e]
theorem MR.mono {w : World} {base base' : Nat} {mv : Value} {n : Nat} {len : Nat → Nat} {m : Nat → Nat → Int} {gm cm : Nat} {G C : Nat → Nat} (h : MR w base mv n len m gm cm G C) (hb : base' ≤ base) : MR w base' mv n len m gm cm G C where
  shape := h.shape
  out := by
    rcases h.out with e | ⟨e1, e2, e3⟩
    · exact .inl e
    · exact .inr ⟨e1, e2, by omega⟩
  inn := ⟨fun i hi => ⟨by have := (h.inn.1 i hi).1; omega, (h.inn.1 i hi).2.1, (h.inn.1 i hi).2.2.1, (h.inn.1 i hi).2.2.2⟩, h.inn.2⟩
/-- out of a copy -/
theorem MR.of_copy {w' : World} {base : Nat} {mv : Value} {n : Nat} {len : Nat → Nat} {m : Nat → Nat → Int} {G C : Nat → Nat} (ho : w'.ownsRow base 48 1 mv n ((List.range n).map (rowV G C len))) (hi : Inner w' base G C n len m) : ∃ gm cm, MR w' base mv n len m gm cm G C := by
  obtain ⟨am, cm, hv, h1, h2⟩ := ownz_shape ho
  by_cases e : n = 0
  · exact ⟨0, cm, ⟨am, hv, h1, h2⟩, .inl e, hi⟩
  · obtain ⟨g, cap, hv2, hg, h3, h4, hr⟩ := own_parts ho (.inr (by omega))
    have hcc : cap = cm := by
      rw [hv] at hv2
      injection hv2 with _ _ e3
      exact e3.symm
    subst hcc
    exact ⟨g, cap, ⟨am, hv, h1, h2⟩, .inr ⟨hv2, hr.congr fun i hi => by simp [List.getD, hi], hg⟩, hi⟩
/-- the words, to be read -/
theorem MR.rows {w : World} {base : Nat} {mv : Value} {n : Nat} {len : Nat → Nat} {m : Nat → Nat → Int} {gm cm : Nat} {G C : Nat → Nat} (h : MR w base mv n len m gm cm G C) (hs : ∀ i j, I64 (m i j)) :
    IntRows w mv ((List.range n).map fun i => (List.range (len i)).map fun j => m i j) := by
  have hl : ((List.range n).map fun i => (List.range (len i)).map fun j => m i j).length = n := by simp
  obtain ⟨am, hv, hc1, hc2⟩ := h.shape
  refine ⟨am, cm, by rw [hl]; exact hv, by rw [hl]; exact hc1, hc2, fun hp => ?_⟩
  rw [hl] at hp ⊢
  rcases h.out with e | ⟨e1, e4, e5⟩
  · omega
  rw [hv] at e1
  injection e1 with f1 f2 f3
  refine ⟨gm, 0, f1, e4.lt, fun i hi => ⟨rowV G C len i, by rw [Nat.zero_add]; exact e4.cell hi, ?_⟩⟩
  obtain ⟨g1, g2, g3, g4⟩ := h.inn.1 i hi
  have hr : rowAt ((List.range n).map fun i => (List.range (len i)).map fun j => m i j) i = (List.range (len i)).map fun j => m i j := by unfold rowAt; simp [List.getD, hi]
  have hnth : ∀ j, j < len i → nth ((List.range (len i)).map fun j => m i j) j = m i j := fun j hj => by unfold nth; simp [List.getD, hj]
  have hl2 : ((List.range (len i)).map fun j => m i j).length = len i := by simp
  rw [hr]
  refine ⟨some ⟨G i, 0, none⟩, C i, by rw [hl2]; rfl, by rw [hl2]; exact g2, g3, fun j hj => ?_, fun _ => ⟨G i, 0, rfl, g4.lt, fun j hj => ?_⟩⟩
  · rw [hl2] at hj; rw [hnth j hj]; exact hs i j
  · rw [hl2] at hj; rw [Nat.zero_add, hnth j hj]; exact g4.cell hj

/-- where a run stands -/
structure KInv (w0 : World) (R gr rc : Nat) (mv : Value) (n : Nat) (len : Nat → Nat) (gm cm : Nat) (G C : Nat → Nat) (dv lv : Value) (logs : List Int) (s : Kst) (wr : World) : Prop where
  bel : Below w0.heap.size w0 wr
  regs : RowF wr gr 2 R (fun i => .int .i64 (s.f i))
  rb : w0.heap.size ≤ gr ∧ R ≤ rc ∧ rc ≤ maxLen
  mem : MR wr w0.heap.size mv n len s.m gm cm G C
  ma : ∀ i, i < n → G i ≠ gr
  due : wr.ownsRow w0.heap.size 107 3 dv s.due.length (flatD s.due)
  lgs : wr.ownsRow w0.heap.size 3 1 lv logs.length (logs.map (Value.int .i64))
theorem KInv.below {w0 : World} {R gr rc : Nat} {mv : Value} {n : Nat} {len : Nat → Nat} {gm cm : Nat} {G C : Nat → Nat} {dv lv : Value} {logs : List Int} {s : Kst} {wr w' : World} (h : KInv w0 R gr rc mv n len gm cm G C dv lv logs s wr) (hb : Below wr.heap.size wr w') : KInv w0 R gr rc mv n len gm cm G C dv lv logs s w' where
  bel := h.bel.trans (hb.mono h.bel.size)
  regs := h.regs.below hb h.regs.lt
  rb := h.rb
  mem := h.mem.below hb
  ma := h.ma
  due := own_below h.due hb
  lgs := own_below h.lgs hb
/-- a register becomes v -/
theorem KInv.setReg {w0 : World} {R gr rc : Nat} {mv : Value} {n : Nat} {len : Nat → Nat} {gm cm : Nat} {G C : Nat → Nat} {dv lv : Value} {logs : List Int} {s : Kst} {wr : World} (h : KInv w0 R gr rc mv n len gm cm G C dv lv logs s wr) (i : Nat) (v : Int) (hi : i < R) :
    KInv w0 R gr rc mv n len gm cm G C dv lv logs ⟨put1 s.f i v, s.m, s.due⟩ (wr.setCell ⟨gr, i, none⟩ (.int .i64 v)) where
  bel := h.bel.setCell (by show w0.heap.size ≤ gr; exact h.rb.1) _
  regs := (h.regs.set i _ hi).congr fun j hj => by
    show (if j = i then Value.int .i64 v else .int .i64 (s.f j)) = .int .i64 (if j = i then v else s.f j)
    split <;> rfl
  rb := h.rb
  mem := h.mem.keep (fun hn => Below.heap_setCell _ _ _ _ (by
      show gm ≠ gr
      rcases h.mem.out with e | ⟨e1, e2, e3⟩
      · omega
      · exact e2.apart h.regs (by decide))) (fun a ha => Below.heap_setCell _ _ _ _ (by show G a ≠ gr; exact h.ma a ha))
  ma := h.ma
  due := ownz_keep h.due fun g hg => Below.heap_setCell _ _ _ _ (by show g ≠ gr; exact fun e => ownz_apart h.due h.regs (by decide) (by rw [← e]; exact hg.symm))
  lgs := ownz_keep h.lgs fun g hg => Below.heap_setCell _ _ _ _ (by show g ≠ gr; exact fun e => ownz_apart h.lgs h.regs (by decide) (by rw [← e]; exact hg.symm))
/-- a row of what is due grows: another than the run's own -/
theorem KInv.grown {w0 : World} {R gr rc : Nat} {mv : Value} {n : Nat} {len : Nat → Nat} {gm cm : Nat} {G C : Nat → Nat} {dv lv : Value} {logs : List Int} {s : Kst} {wr w' : World} (h : KInv w0 R gr rc mv n len gm cm G C dv lv logs s wr) {b k : Nat} {v : Value} {xs : List Value}
    (ho : wr.ownsRow b 107 3 v k xs) (hb : w0.heap.size ≤ b) (hg : wr.grownBy w' v.ownBlock) (hd : ∀ g, dv.ownBlock = some g → some g ≠ v.ownBlock) : KInv w0 R gr rc mv n len gm cm G C dv lv logs s w' where
  bel := h.bel.grown hg h.bel.size (fun q hq => by have := ownz_block_ge ho q hq; omega)
  regs := h.regs.grown hg (ownz_apart ho h.regs (by decide))
  rb := h.rb
  mem := h.mem.keep (fun hn => hg.block _ (h.mem.lt hn) (by
      rcases h.mem.out with e | ⟨e1, e2, e3⟩
      · omega
      · exact ownz_apart ho e2 (by decide))) (fun i hi => hg.block _ (h.mem.inn.1 i hi).2.2.2.lt (ownz_apart ho (h.mem.inn.1 i hi).2.2.2 (by decide)))
  ma := h.ma
  due := ownz_keep h.due fun g hk => hg.block _ (ownz_block_lt h.due g hk) (hd g hk)
  lgs := ownz_keep h.lgs fun g hk => hg.block _ (ownz_block_lt h.lgs g hk) (ownz_two h.lgs ho (by decide) g hk)
/-- what is due is told by another row -/
theorem KInv.newDue {w0 : World} {R gr rc : Nat} {mv : Value} {n : Nat} {len : Nat → Nat} {gm cm : Nat} {G C : Nat → Nat} {dv dv' lv : Value} {logs : List Int} {s : Kst} {wr : World} {l : List Du} (h : KInv w0 R gr rc mv n len gm cm G C dv lv logs s wr)
    (ho : wr.ownsRow w0.heap.size 107 3 dv' l.length (flatD l)) : KInv w0 R gr rc mv n len gm cm G C dv' lv logs ⟨s.f, s.m, l⟩ wr :=
  { h with due := ho }
/-- the row of what is due has grown by one -/
theorem KInv.push {w0 : World} {R gr rc : Nat} {mv : Value} {n : Nat} {len : Nat → Nat} {gm cm : Nat} {G C : Nat → Nat} {dv dv' lv : Value} {logs : List Int} {s : Kst} {wr w' : World} {d : Du} (h : KInv w0 R gr rc mv n len gm cm G C dv lv logs s wr)
    (hg : wr.grownBy w' dv.ownBlock) (ho : w'.ownsRow w0.heap.size 107 3 dv' (s.due.length + 1) (flatD s.due ++ duCells d)) : KInv w0 R gr rc mv n len gm cm G C dv' lv logs ⟨s.f, s.m, s.due ++ [d]⟩ w' where
  bel := h.bel.grown hg h.bel.size (fun q hq => ownz_block_ge h.due q hq)
  regs := h.regs.grown hg (ownz_apart h.due h.regs (by decide))
  rb := h.rb
  mem := h.mem.keep (fun hn => hg.block _ (h.mem.lt hn) (by
      rcases h.mem.out with e | ⟨e1, e2, e3⟩
      · omega
      · exact ownz_apart h.due e2 (by decide))) (fun i hi => hg.block _ (h.mem.inn.1 i hi).2.2.2.lt (ownz_apart h.due (h.mem.inn.1 i hi).2.2.2 (by decide)))
  ma := h.ma
  due := by
    rw [flatD_snoc] at ho
    show w'.ownsRow _ _ _ _ (s.due ++ [d]).length _
    rw [List.length_append]; exact ho
  lgs := ownz_keep h.lgs fun g hk => hg.block _ (ownz_block_lt h.lgs g hk) (ownz_two h.lgs h.due (by decide) g hk)
/-- a store into a row of numbers that is not the run's: the words of the cycle's end -/
theorem KInv.setNext {w0 : World} {R gr rc : Nat} {mv : Value} {n : Nat} {len : Nat → Nat} {gm cm : Nat} {G C : Nat → Nat} {dv lv : Value} {logs : List Int} {s : Kst} {wr : World} (h : KInv w0 R gr rc mv n len gm cm G C dv lv logs s wr) {b k j : Nat} {f : Nat → Value} (hr : RowF wr b 2 k f)
    (hb : w0.heap.size ≤ b) (h1 : b ≠ gr) (h2 : ∀ i, i < n → G i ≠ b) (v : Value) : KInv w0 R gr rc mv n len gm cm G C dv lv logs s (wr.setCell ⟨b, j, none⟩ v) where
  bel := h.bel.setCell (by show w0.heap.size ≤ b; exact hb) _
  regs := h.regs.setOther (by show gr ≠ b; exact h1.symm) _
  rb := h.rb
  mem := h.mem.keep (fun hn => Below.heap_setCell _ _ _ _ (by
      show gm ≠ b
      rcases h.mem.out with e | ⟨e1, e2, e3⟩
      · omega
      · exact e2.apart hr (by decide))) (fun a ha => Below.heap_setCell _ _ _ _ (by show G a ≠ b; exact h2 a ha))
  ma := h.ma
  due := ownz_keep h.due fun g hg => Below.heap_setCell _ _ _ _ (by show g ≠ b; exact fun e => ownz_apart h.due hr (by decide) (by rw [← e]; exact hg.symm))
  lgs := ownz_keep h.lgs fun g hg => Below.heap_setCell _ _ _ _ (by show g ≠ b; exact fun e => ownz_apart h.lgs hr (by decide) (by rw [← e]; exact hg.symm))
/-- the cycle is done: its words are the run's -/
theorem KInv.newMem {w0 : World} {R gr rc : Nat} {mv mv' : Value} {n : Nat} {len : Nat → Nat} {gm cm gm' cm' : Nat} {G C G' C' : Nat → Nat} {dv lv : Value} {logs : List Int} {s : Kst} {m' : Nat → Nat → Int} {wr : World} (h : KInv w0 R gr rc mv n len gm cm G C dv lv logs s wr)
    (hm : MR wr w0.heap.size mv' n len m' gm' cm' G' C') (ha : ∀ i, i < n → G' i ≠ gr) : KInv w0 R gr rc mv' n len gm' cm' G' C' dv lv logs ⟨s.f, m', s.due⟩ wr :=
  { h with mem := hm, ma := ha }
end Go.Proofs.YtbpaffkkphacdabGreat
/- What a cycle does to where a run stands, step by step; no walk. -/
namespace Go.Proofs.YtbpaffkkphacdabGreat
open Go.RowKit Go.Joins
set_option linter.unusedVariables false

theorem Tryz.i107 : (Tryz.prog.info? 107).map (fun i => (i.zero, i.size, i.bytes)) = some (some (.agg #[.int .i64 0, .int .i64 0, .int .i64 0]), 3, 24) := by kernel_rfl

/-- the world in which the machine and the kernel are boxed -/
def bxp (w : World) (p0 p1 p2 q0 q1 q2 r pc st : Int) (ka : Option Addr) (kl kc : Nat) : World := (w.alloc (.cells #[.int .i64 p0, .int .i64 p1, .int .i64 p2, .int .i64 q0, .int .i64 q1, .int .i64 q2, .int .i64 r] 28)).alloc (.cells #[.int .i64 pc, .int .i64 st, .slice ka kl kc] 31)
theorem bxp_size (w : World) (p0 p1 p2 q0 q1 q2 r pc st : Int) (ka : Option Addr) (kl kc : Nat) : (bxp w p0 p1 p2 q0 q1 q2 r pc st ka kl kc).heap.size = w.heap.size + 1 + 1 := by unfold bxp; simp
theorem bxp_below (w : World) (p0 p1 p2 q0 q1 q2 r pc st : Int) (ka : Option Addr) (kl kc : Nat) : Below w.heap.size w (bxp w p0 p1 p2 q0 q1 q2 r pc st ka kl kc) := below_alloc2 _ _ _
theorem bxp_cells {w wr : World} {p0 p1 p2 q0 q1 q2 r pc st : Int} {ka : Option Addr} {kl kc : Nat} (h : Below (w.heap.size + 1 + 1) (bxp w p0 p1 p2 q0 q1 q2 r pc st ka kl kc) wr) :
    (wr.cell? ⟨w.heap.size, 3, none⟩ = some (.int .i64 q0) ∧ wr.cell? ⟨w.heap.size, 4, none⟩ = some (.int .i64 q1) ∧ wr.cell? ⟨w.heap.size, 5, none⟩ = some (.int .i64 q2) ∧ wr.cell? ⟨w.heap.size, 6, none⟩ = some (.int .i64 r)) ∧ wr.cell? ⟨w.heap.size + 1, 0, none⟩ = some (.int .i64 pc) ∧ wr.cell? ⟨w.heap.size + 1, 1, none⟩ = some (.int .i64 st) ∧ wr.cell? ⟨w.heap.size + 1, 2, none⟩ = some (.slice ka kl kc) ∧
      w.heap.size < wr.heap.size ∧ w.heap.size + 1 < wr.heap.size ∧ Below w.heap.size w wr := by
  have hz := h.size
  rw [bxp_size] at hz
  have c0 : ∀ o, wr.cell? ⟨w.heap.size, o, none⟩ = (bxp w p0 p1 p2 q0 q1 q2 r pc st ka kl kc).cell? ⟨w.heap.size, o, none⟩ := fun o => h.cell (p := ⟨w.heap.size, o, none⟩) (by show w.heap.size < _; omega)
  have c1 : ∀ o, wr.cell? ⟨w.heap.size + 1, o, none⟩ = (bxp w p0 p1 p2 q0 q1 q2 r pc st ka kl kc).cell? ⟨w.heap.size + 1, o, none⟩ := fun o => h.cell (p := ⟨w.heap.size + 1, o, none⟩) (by show w.heap.size + 1 < _; omega)
  refine ⟨⟨?_, ?_, ?_, ?_⟩, ?_, ?_, ?_, by omega, by omega, (bxp_below w p0 p1 p2 q0 q1 q2 r pc st ka kl kc).trans (h.mono (by omega))⟩
  all_goals first | rw [c0] | rw [c1]
  all_goals (unfold bxp; go_simp)

/-- one of those that are due has come to its register; those that are left stay -/
theorem land_set {w0 : World} {R gr rc : Nat} {mv : Value} {n : Nat} {len : Nat → Nat} {gm cm : Nat} {G C : Nat → Nat} {dv lv ev : Value} {logs : List Int} {f : Nat → Int} {m : Nat → Nat → Int} {due l : List Du} {now : Int} {k base : Nat} {wr : World}
    (h : KInv w0 R gr rc mv n len gm cm G C dv lv logs ⟨landN now due f k, m, due⟩ wr) (ho : wr.ownsRow base 107 3 ev l.length (flatD l)) (hd : (duAt due k).at_ = now) (h1 : (duAt due k).rg.toNat < R) :
    KInv w0 R gr rc mv n len gm cm G C dv lv logs ⟨landN now due f (k + 1), m, due⟩ (wr.setCell ⟨gr, (duAt due k).rg.toNat, none⟩ (.int .i64 (duAt due k).v)) ∧
      (wr.setCell ⟨gr, (duAt due k).rg.toNat, none⟩ (.int .i64 (duAt due k).v)).ownsRow base 107 3 ev l.length (flatD l) := by
  refine ⟨?_, ownz_keep ho fun g hg => Below.heap_setCell _ _ _ _ (by show g ≠ gr; exact fun e => ownz_apart ho h.regs (by decide) (by rw [← e]; exact hg.symm))⟩
  have h2 := h.setReg _ (duAt due k).v h1
  have e : landN now due f (k + 1) = put1 (landN now due f k) (duAt due k).rg.toNat (duAt due k).v := if_pos hd
  rw [e]; exact h2
theorem land_rest {now : Int} {due : List Du} {k : Nat} (hd : (duAt due k).at_ = now) : restN now due (k + 1) = restN now due k := if_pos hd
theorem left_rest {now : Int} {due : List Du} {k : Nat} (hd : (duAt due k).at_ ≠ now) : restN now due (k + 1) = restN now due k ++ [duAt due k] := if_neg hd
theorem left_land {now : Int} {due : List Du} {f : Nat → Int} {k : Nat} (hd : (duAt due k).at_ ≠ now) : landN now due f (k + 1) = landN now due f k := if_neg hd

theorem op_skip {t : Tg} {logs : List Int} {pc turns now : Int} {f : Nat → Int} {m : Nat → Nat → Int} {q : Nx} {x : Kop} (h : actK pc turns now x = false) : opK t logs pc turns now f m q x = q := by
  unfold opK; rw [if_neg (by rw [h]; exact Bool.false_ne_true)]
theorem op_done {t : Tg} {logs : List Int} {pc turns now : Int} {f : Nat → Int} {m : Nat → Nat → Int} {q : Nx} {x : Kop} (h : actK pc turns now x = true) (ho : x.o ≠ 4) :
    opK t logs pc turns now f m q x = ⟨q.nx, q.du ++ [⟨now + waitsT t (clsv x.o), (x.d + now / pc) % t.r, valK logs t.r pc now f m x⟩]⟩ := by
  unfold opK; rw [if_pos h, if_neg ho]
theorem op_store {t : Tg} {logs : List Int} {pc turns now : Int} {f : Nat → Int} {m : Nat → Nat → Int} {q : Nx} {x : Kop} (h : actK pc turns now x = true) (ho : x.o = 4) :
    opK t logs pc turns now f m q x = ⟨put2 q.nx x.ar.toNat (wordK logs pc now x) (regK f t.r x.a (now / pc)), q.du ++ [⟨now + waitsT t (clsv x.o), (x.d + now / pc) % t.r, regK f t.r x.a (now / pc)⟩]⟩ := by
  have hv : valK logs t.r pc now f m x = regK f t.r x.a (now / pc) := by unfold valK; rw [ho]; rfl
  unfold opK; rw [if_pos h, if_pos ho, hv]

/-- the words of the cycle's end, behind an append to what is due -/
theorem next_push {w0 : World} {R gr rc : Nat} {mv : Value} {n : Nat} {len : Nat → Nat} {gm cm : Nat} {G C : Nat → Nat} {dv lv : Value} {logs : List Int} {s : Kst} {wr w' : World} (h : KInv w0 R gr rc mv n len gm cm G C dv lv logs s wr)
    (hg : wr.grownBy w' dv.ownBlock) {base gn cn : Nat} {nv : Value} {nx : Nat → Nat → Int} {Gn Cn : Nat → Nat} (hm : MR wr base nv n len nx gn cn Gn Cn) : MR w' base nv n len nx gn cn Gn Cn :=
  hm.keep (fun hn => hg.block _ (hm.lt hn) (by
      rcases hm.out with e | ⟨e1, e2, e3⟩
      · omega
      · exact ownz_apart h.due e2 (by decide))) (fun i hi => hg.block _ (hm.inn.1 i hi).2.2.2.lt (ownz_apart h.due (hm.inn.1 i hi).2.2.2 (by decide)))
/-- the start -/
theorem kinv_start {w0 wr : World} {R : List Int} {M : List (List Int)} {gr rc cm : Nat} {mv lv : Value} {gm : Nat} {G C : Nat → Nat} (hb : Below w0.heap.size w0 wr) (hr : RowF wr gr 2 R.length (fun i => .int .i64 (nth R i))) (h1 : w0.heap.size ≤ gr) (h2 : R.length ≤ rc) (h3 : rc ≤ maxLen)
    (hm : MR wr w0.heap.size mv M.length (fun i => (rowAt M i).length) (fun i j => nth (rowAt M i) j) gm cm G C) (ha : ∀ i, i < M.length → G i ≠ gr) (hl : wr.ownsRow w0.heap.size 3 1 lv (logsOf M).length ((logsOf M).map (Value.int .i64))) :
    KInv w0 R.length gr rc mv M.length (fun i => (rowAt M i).length) gm cm G C (.slice none 0 0) lv (logsOf M) (startK R M) wr where
  bel := hb
  regs := hr
  rb := ⟨h1, h2, h3⟩
  mem := hm
  ma := ha
  due := World.ownsRow_nil _ _ _ _
  lgs := hl

theorem mayK_parts {t : Tg} {K : Kn} {logs : List Int} (h : mayK t K logs = true) : mayT t = true ∧ 1 ≤ K.pc ∧ K.pc ≤ 200 ∧ 1 ≤ K.st ∧ K.st ≤ 1001 ∧ 1 ≤ K.ops.length ∧ K.ops.length ≤ 16 ∧ ∀ k, k < K.ops.length → oneOk t.r K.pc K.st logs (opAt K.ops k) = true := by
  unfold mayK at h
  simp only [Bool.and_eq_true] at h
  obtain ⟨⟨⟨⟨h1, h2⟩, h3⟩, h4⟩, h5⟩ := h
  have h2 := inR_iff.1 h2
  have h3 := inR_iff.1 h3
  have h4 := inR_iff.1 h4
  refine ⟨h1, h2.1, h2.2, h3.1, h3.2, by omega, by omega, fun k hk => ?_⟩
  have h6 := allN_get h5 k hk
  simp only [Bool.and_eq_true] at h6
  exact h6.1
theorem one_parts {r pc st : Int} {logs : List Int} {x : Kop} (h : oneOk r pc st logs x = true) : (0 ≤ x.sl ∧ x.sl < pc) ∧ (0 ≤ x.sg ∧ x.sg < st) ∧ (0 ≤ x.d ∧ x.d < r) ∧ (0 ≤ x.a ∧ x.a < r) ∧ (0 ≤ x.b ∧ x.b < r) ∧ logs.length ≤ 3 ∧
    (x.o = 1 ∨ x.o = 2 ∨ (x.o = 3 ∧ 0 ≤ x.ar ∧ x.ar < logs.length) ∨ (x.o = 4 ∧ 0 ≤ x.ar ∧ x.ar < logs.length) ∨ (11 ≤ x.o ∧ x.o ≤ 18)) := by
  unfold oneOk timeOk regsOk at h
  simp only [Bool.and_eq_true] at h
  obtain ⟨⟨⟨⟨a1, a2⟩, a3⟩, ⟨⟨⟨b1, b2⟩, b3⟩, b4⟩, b5⟩, c⟩ := h
  have a1 := inR_iff.1 a1
  have a2 := inR_iff.1 a2
  have b1 := inR_iff.1 b1
  have b2 := inR_iff.1 b2
  have b3 := inR_iff.1 b3
  obtain ⟨m1, m2, m3, m4, m5, m6, m7⟩ := may_parts c
  refine ⟨by omega, by omega, by omega, by omega, by omega, m1, ?_⟩
  have hs : stOk logs.length 2 1 ⟨x.o, 0, 0, 0, 0, x.ar, x.sp, x.pl, x.nn⟩ = true := allN_get m7 1 (by show 1 < 2; omega)
  have hp := st_parts hs
  rcases hp with h | h | h | ⟨h, h2, h3, -⟩ | ⟨h, h2, -, -⟩
  · exact .inl h
  · exact .inr (.inl h)
  · exact .inr (.inr (.inl h))
  · exact .inr (.inr (.inr (.inl ⟨h, h2, h3⟩)))
  · exact .inr (.inr (.inr (.inr ⟨h, h2⟩)))
theorem row_of_logs {M : List (List Int)} (h : hasLogs M = true) : ∀ i, i < M.length → 0 < (rowAt M i).length ∧ (rowAt M i).length ≤ 32 ∧ (rowAt M i).length = 2 ^ (nth (logsOf M) i).toNat := by
  intro i hi
  have h1 : decide (logIx (rowAt M i).length < 6) = true := allN_get h i hi
  have h2 : logIx (rowAt M i).length < 6 := of_decide_eq_true h1
  have h3 := logIx_pow h2
  rw [logsOf_nth M i hi]
  have h4 : ((logIx (rowAt M i).length : Int)).toNat = logIx (rowAt M i).length := Int.toNat_natCast _
  rw [h4, h3]
  refine ⟨?_, ?_, rfl⟩
  · rw [← h3]; exact Nat.pow_pos (by decide)
  · rw [← h3]
    exact Nat.le_trans (Nat.pow_le_pow_right (by decide) (show logIx (rowAt M i).length ≤ 5 by omega)) (by decide)
theorem wordK_cast (logs : List Int) (pc now : Int) (x : Kop) : idx x.sp x.pl (now / pc - x.sg) (nth logs x.ar.toNat) = (wordK logs pc now x : Int) := by
  have h := idx_in x.sp x.pl (now / pc - x.sg) (nth logs x.ar.toNat)
  unfold wordK
  omega
theorem wordK_lt (logs : List Int) (pc now : Int) (x : Kop) : wordK logs pc now x < 2 ^ (nth logs x.ar.toNat).toNat := by
  have h := idx_in x.sp x.pl (now / pc - x.sg) (nth logs x.ar.toNat)
  unfold p2 at h
  unfold wordK
  omega
theorem last_nat {PC ST turns : Nat} (h1 : 1 ≤ ST) (h2 : PC ≤ 200) (h3 : ST ≤ 1001) (h4 : turns ≤ 200) : ∃ LA : Nat, LA ≤ 240000 ∧ ((turns : Int) + (ST : Int) - 1) * (PC : Int) = (LA : Int) := by
  refine ⟨(turns + ST - 1) * PC, ?_, ?_⟩
  · exact Nat.le_trans (Nat.mul_le_mul (show turns + ST - 1 ≤ 1200 by omega) h2) (by decide)
  · rw [show ((turns : Int) + (ST : Int) - 1) = ((turns + ST - 1 : Nat) : Int) by omega]
    exact (Int.natCast_mul _ _).symm

theorem bxp_read {w W0 wr : World} {p0 p1 p2 q0 q1 q2 r pc st : Int} {ka : Option Addr} {kl kc : Nat} (hW : bxp w p0 p1 p2 q0 q1 q2 r pc st ka kl kc = W0) (h : Below W0.heap.size W0 wr) :
    (wr.cell? ⟨w.heap.size, 3, none⟩ = some (.int .i64 q0) ∧ wr.cell? ⟨w.heap.size, 4, none⟩ = some (.int .i64 q1) ∧ wr.cell? ⟨w.heap.size, 5, none⟩ = some (.int .i64 q2) ∧ wr.cell? ⟨w.heap.size, 6, none⟩ = some (.int .i64 r)) ∧ wr.cell? ⟨w.heap.size + 1, 0, none⟩ = some (.int .i64 pc) ∧ wr.cell? ⟨w.heap.size + 1, 1, none⟩ = some (.int .i64 st) ∧ wr.cell? ⟨w.heap.size + 1, 2, none⟩ = some (.slice ka kl kc) ∧
      w.heap.size < wr.heap.size ∧ w.heap.size + 1 < wr.heap.size ∧ Below w.heap.size w wr := by
  subst hW
  exact bxp_cells (by rw [bxp_size] at h; exact h)
theorem logs_own (v : Value) (M : List (List Int)) (w : World) (h : IntRows w v M) (hbig : M.length * 24 ≤ 140737488351232) (hL : hasLogs M = true) :
    Calls Tryz.prog 54 #[v] w fun e w' => ∃ lv, e = .returned (.tuple #[lv, .bool true]) ∧ w'.ownsRow w.heap.size 3 1 lv (logsOf M).length ((logsOf M).map (Value.int .i64)) ∧ Below w.heap.size w w' :=
  (logs_any v M w h hbig).mono fun e w' ⟨lv, h1, h2, h3, h4⟩ => ⟨lv, by rw [hL] at h1; exact h1, (h2 hL).2, h4⟩
/-- what is told behind a run -/
theorem kinv_out {w0 : World} {gr rc cm gm : Nat} {M : List (List Int)} {mv dv lv : Value} {n : Nat} {G C : Nat → Nat} {logs : List Int} {s : Kst} {wr : World} {X : Int} (h : KInv w0 n gr rc mv M.length (fun i => (rowAt M i).length) gm cm G C dv lv logs s wr) (hf : s.fine X) :
    Ints wr (.slice (some ⟨gr, 0, none⟩) n rc) (regsOf n s) ∧ IntRows wr mv (wordsOf M s) := by
  have hl : (regsOf n s).length = n := by unfold regsOf; simp
  have hn : ∀ i, i < n → nth (regsOf n s) i = s.f i := fun i hi => by unfold regsOf nth; simp [List.getD, hi]
  refine ⟨⟨some ⟨gr, 0, none⟩, rc, by rw [hl], by rw [hl]; exact h.rb.2.1, h.rb.2.2, fun i hi => ?_, fun _ => ⟨gr, 0, rfl, h.regs.lt, fun i hi => ?_⟩⟩, h.mem.rows hf.m⟩
  · rw [hl] at hi; rw [hn i hi]; exact hf.f i
  · rw [hl] at hi; rw [hn i hi, Nat.zero_add]; exact h.regs.cell hi
theorem opAt_in {l : List Kop} {i : Nat} (h : i < l.length) : opAt l i ∈ l := by
  unfold opAt
  rw [List.getD, List.getElem?_eq_getElem h]
  exact List.getElem_mem _
theorem nth_i64 {l : List Int} (h : ∀ i, i < l.length → -9223372036854775808 ≤ nth l i ∧ nth l i ≤ 9223372036854775807) (i : Nat) : I64 (nth l i) := by
  by_cases hi : i < l.length
  · exact h i hi
  · have e : nth l i = 0 := by unfold nth; simp [List.getD, hi]
    rw [e]; exact ⟨by decide, by decide⟩
theorem fine_startK {R : List Int} {M : List (List Int)} {X : Int} (hR : ∀ i, I64 (nth R i)) (hM : ∀ i j, I64 (nth (rowAt M i) j)) : (startK R M).fine X :=
  ⟨hR, hM, fun d hd => absurd hd (by show ¬ d ∈ []; simp)⟩
theorem words_i64 {w : World} {v : Value} {M : List (List Int)} (h : IntRows w v M) : ∀ i j, I64 (nth (rowAt M i) j) := by
  intro i j
  by_cases hi : i < M.length
  · obtain ⟨a, cap, e, h1, h2, h3⟩ := h
    obtain ⟨b, off, e2, h4, h5⟩ := h3 (by omega)
    obtain ⟨u, hu, ⟨ra, rc, hv, rl, rm, rr, rcell⟩⟩ := h5 i hi
    exact nth_i64 rr j
  · have e : rowAt M i = [] := by unfold rowAt; simp [List.getD, hi]
    rw [e]
    exact nth_i64 (l := []) (fun i hi => absurd hi (Nat.not_lt_zero _)) j
theorem fine_ops {t : Tg} {K : Kn} {logs : List Int} {turns now : Int} {f : Nat → Int} {m : Nat → Nat → Int} {q : Nx} (hr : 1 ≤ t.r) (hf : ∀ i, I64 (f i)) (hm : ∀ i j, I64 (m i j)) (hq : ∀ i j, I64 (q.nx i j)) (hd : ∀ d ∈ q.du, 0 ≤ d.rg ∧ d.rg < t.r ∧ I64 d.v)
    (hx : ∀ k, k < K.ops.length → I64 (opAt K.ops k).nn ∧ I64 (now / K.pc - (opAt K.ops k).sg)) : ∀ k, k ≤ K.ops.length → (∀ i j, I64 ((opsK t K logs turns now f m q k).nx i j)) ∧ ∀ d ∈ (opsK t K logs turns now f m q k).du, 0 ≤ d.rg ∧ d.rg < t.r ∧ I64 d.v := by
  intro k
  induction k with
  | zero => exact fun _ => ⟨hq, hd⟩
  | succ k ih =>
    intro hk
    obtain ⟨h1, h2⟩ := ih (by omega)
    have hv : I64 (valK logs t.r K.pc now f m (opAt K.ops k)) := val_fine hf hm (hx k (by omega)).1 (hx k (by omega)).2
    show (∀ i j, I64 ((opK t logs K.pc turns now f m (opsK t K logs turns now f m q k) (opAt K.ops k)).nx i j)) ∧ ∀ d ∈ (opK t logs K.pc turns now f m (opsK t K logs turns now f m q k) (opAt K.ops k)).du, _
    unfold opK
    split
    · refine ⟨fun i j => ?_, fun d hd => ?_⟩
      · dsimp only
        split
        · exact i64_ite hv (h1 i j)
        · exact h1 i j
      · rcases List.mem_append.1 hd with h3 | h3
        · exact h2 d h3
        · rw [List.mem_singleton.1 h3]
          exact ⟨Int.emod_nonneg _ (by omega), Int.emod_lt_of_pos _ (by omega), hv⟩
    · exact ⟨h1, h2⟩
theorem fine_cyc {t : Tg} {K : Kn} {logs : List Int} {turns now : Int} {s : Kst} (hr : 1 ≤ t.r) (hs : s.fine t.r) (hx : ∀ k, k < K.ops.length → I64 (opAt K.ops k).nn ∧ I64 (now / K.pc - (opAt K.ops k).sg)) : (cycK t K logs turns now s).fine t.r := by
  have h1 := land_fine (now := now) hs.f hs.due s.due.length (Nat.le_refl _)
  have h2 := rest_fine (now := now) hs.due s.due.length (Nat.le_refl _)
  unfold cycK
  split
  · exact ⟨h1, hs.m, h2⟩
  · obtain ⟨a, b⟩ := fine_ops (t := t) (logs := logs) (turns := turns) (now := now) hr h1 hs.m (q := ⟨s.m, restN now s.due s.due.length⟩) hs.m h2 hx K.ops.length (Nat.le_refl _)
    exact ⟨h1, a, b⟩
theorem fine_runK {t : Tg} {K : Kn} {logs : List Int} {turns : Int} {s : Kst} {N : Nat} (hr : 1 ≤ t.r) (hs : s.fine t.r) (hx : ∀ T : Nat, T < N → ∀ k, k < K.ops.length → I64 (opAt K.ops k).nn ∧ I64 ((T : Int) / K.pc - (opAt K.ops k).sg)) : ∀ T, T ≤ N → (runK t K logs turns s T).fine t.r := by
  intro T
  induction T with
  | zero => exact fun _ => hs
  | succ T ih => exact fun h => fine_cyc hr (ih (by omega)) (hx T (by omega))

/-- one that is not due yet is left -/
theorem left_push {w0 : World} {R gr rc : Nat} {mv : Value} {n : Nat} {len : Nat → Nat} {gm cm : Nat} {G C : Nat → Nat} {dv lv ev ev' : Value} {logs : List Int} {f : Nat → Int} {m : Nat → Nat → Int} {due : List Du} {now : Int} {k b : Nat} {wr w' : World} {X : Obj}
    (h : KInv w0 R gr rc mv n len gm cm G C dv lv logs ⟨landN now due f k, m, due⟩ wr) (ho : wr.ownsRow b 107 3 ev (restN now due k).length (flatD (restN now due k))) (hne : (duAt due k).at_ ≠ now) (hb : w0.heap.size ≤ b) (hdv : ∀ g, dv.ownBlock = some g → g < b)
    (hg : (wr.alloc X).grownBy w' ev.ownBlock) (ho2 : w'.ownsRow b 107 3 ev' ((restN now due k).length + 1) (flatD (restN now due k) ++ duCells (duAt due k))) :
    KInv w0 R gr rc mv n len gm cm G C dv lv logs ⟨landN now due f (k + 1), m, due⟩ w' ∧ w'.ownsRow b 107 3 ev' (restN now due (k + 1)).length (flatD (restN now due (k + 1))) := by
  have ho1 := own_below ho (below_alloc1 wr X)
  refine ⟨?_, ?_⟩
  · rw [left_land hne]
    exact (h.below (below_alloc1 _ _)).grown ho1 hb hg (fun g hg1 hg2 => by have := hdv g hg1; have := ownz_block_ge ho g hg2.symm; omega)
  · rw [left_rest hne, ← flatD_snoc, List.length_append]
    exact ho2

theorem words_len (M : List (List Int)) (s : Kst) : (wordsOf M s).length = M.length := by unfold wordsOf; simp
theorem words_row (M : List (List Int)) (s : Kst) (i : Nat) (h : i < M.length) : rowAt (wordsOf M s) i = (List.range (rowAt M i).length).map fun j => s.m i j := by unfold wordsOf rowAt; simp [List.getD, h]
/-- the copy of a run's words -/
theorem copy_words (v : Value) (M : List (List Int)) (s : Kst) (w : World) (h : IntRows w v (wordsOf M s)) (h3 : M.length ≤ 3) (h32 : ∀ i, i < M.length → 0 < (rowAt M i).length ∧ (rowAt M i).length ≤ 32) :
    Calls Tryz.prog 53 #[v] w fun e w' => ∃ nv gn cn Gn Cn, e = .returned nv ∧ MR w' w.heap.size nv M.length (fun i => (rowAt M i).length) s.m gn cn Gn Cn ∧ Below w.heap.size w w' := by
  have hl := words_len M s
  have hr : ∀ i, i < M.length → (rowAt (wordsOf M s) i).length = (rowAt M i).length := fun i hi => by rw [words_row M s i hi]; simp
  have hn : ∀ i, i < M.length → ∀ j, j < (rowAt M i).length → nth (rowAt (wordsOf M s) i) j = s.m i j := fun i hi j hj => by rw [words_row M s i hi]; unfold nth; simp [List.getD, hj]
  refine (copy_any v (wordsOf M s) w h (by rw [hl]; exact h3) (fun i hi => by rw [hl] at hi; rw [hr i hi]; exact h32 i hi)).mono fun e w' ⟨m, G, C, h1, h2, h4, h5⟩ => ?_
  rw [hl] at h2 h4
  have h2' : w'.ownsRow w.heap.size 48 1 m M.length ((List.range M.length).map (rowV G C (fun i => (rowAt M i).length))) := by
    have e : (List.range M.length).map (rowV G C (fun i => (rowAt (wordsOf M s) i).length)) = (List.range M.length).map (rowV G C (fun i => (rowAt M i).length)) := by
      refine List.map_congr_left fun i hi => ?_
      have hi2 := List.mem_range.1 hi
      unfold rowV
      dsimp only
      rw [hr i hi2]
    rw [← e]; exact h2
  have h4' : Inner w' w.heap.size G C M.length (fun i => (rowAt M i).length) s.m := by
    refine ⟨fun i hi => ?_, h4.2⟩
    obtain ⟨a1, a2, a3, a4⟩ := h4.1 i hi
    dsimp only at a2 a4
    rw [hr i hi] at a2 a4
    exact ⟨a1, a2, a3, a4.congr fun j hj => by rw [hn i hi j hj]⟩
  obtain ⟨gm, cm, hm⟩ := MR.of_copy h2' h4'
  exact ⟨m, gm, cm, G, C, h1, hm, h5⟩
theorem act_yes {pc turns now : Int} {x : Kop} (h1 : x.sl = now % pc) (h2 : 0 ≤ now / pc - x.sg) (h3 : now / pc - x.sg < turns) : actK pc turns now x = true := by
  unfold actK
  rw [decide_eq_true h1, decide_eq_true h2, decide_eq_true h3]; rfl
theorem act_no {pc turns now : Int} {x : Kop} (h : x.sl ≠ now % pc ∨ now / pc - x.sg < 0 ∨ turns ≤ now / pc - x.sg) : actK pc turns now x = false := by
  unfold actK
  rw [Bool.eq_false_iff]
  intro h2
  simp only [Bool.and_eq_true, decide_eq_true_eq] at h2
  omega

theorem wrap_small (x : Int) (h0 : -9223372036854775808 ≤ x) (h1 : x ≤ 9223372036854775807) : wrap64 x = x := by unfold wrap64; omega
theorem pace_nat {T PC : Nat} (hT : T ≤ 300000) : ∃ q : Nat, (T : Int) / (PC : Int) = (q : Int) ∧ q ≤ T ∧ wrap64 ((T : Int) / (PC : Int)) = (q : Int) := by
  have h2 : (T : Int) / (PC : Int) ≤ T := Int.ediv_le_self _ (by omega)
  obtain ⟨q, hq⟩ : ∃ q : Nat, (T : Int) / (PC : Int) = (q : Int) := ⟨T / PC, rfl⟩
  rw [hq] at h2
  exact ⟨q, hq, by omega, by rw [hq]; exact wrap_small _ (by omega) (by omega)⟩

theorem reg_nat {a q R : Nat} (hR : 1 ≤ R) : ∃ i : Nat, ((a : Int) + (q : Int)) % (R : Int) = (i : Int) ∧ i < R ∧ ((a : Int) + (q : Int)).tmod (R : Int) = (i : Int) := by
  refine ⟨(a + q) % R, ?_, Nat.mod_lt _ hR, ?_⟩
  · rw [← Int.natCast_add]; rfl
  · rw [← Int.natCast_add]; rfl
theorem wait_cell {w : World} {g : Nat} {p0 p1 p2 q0 q1 q2 r op : Int} (hm : mayT ⟨p0, p1, p2, q0, q1, q2, r⟩ = true) (h3 : w.cell? ⟨g, 3, none⟩ = some (.int .i64 q0)) (h4 : w.cell? ⟨g, 4, none⟩ = some (.int .i64 q1)) (h5 : w.cell? ⟨g, 5, none⟩ = some (.int .i64 q2)) :
    ∃ (c : Nat) (wt : Int), clsv op = (c : Int) ∧ (c : Int) < 3 ∧ w.cell? ⟨g, 3 + c, none⟩ = some (.int .i64 wt) ∧ 1 ≤ wt ∧ wt ≤ 6 ∧ wt = waitsT ⟨p0, p1, p2, q0, q1, q2, r⟩ (clsv op) := by
  obtain ⟨a, b, c, -, -⟩ := mayT_parts hm
  have a := unit_iff a
  have b := unit_iff b
  have c := unit_iff c
  dsimp only at a b c
  rcases cls_three op with h | h | h
  · exact ⟨0, q0, h, by decide, h3, by omega, by omega, by rw [h]; rfl⟩
  · exact ⟨1, q1, h, by decide, h4, by omega, by omega, by rw [h]; rfl⟩
  · exact ⟨2, q2, h, by decide, h5, by omega, by omega, by rw [h]; rfl⟩

theorem val_1 {logs : List Int} {R pc now : Int} {f : Nat → Int} {m : Nat → Nat → Int} {x : Kop} (h : x.o = 1) : valK logs R pc now f m x = x.nn := by unfold valK; rw [if_pos h]
theorem val_2 {logs : List Int} {R pc now : Int} {f : Nat → Int} {m : Nat → Nat → Int} {x : Kop} (h : x.o = 2) : valK logs R pc now f m x = now / pc - x.sg := by unfold valK; rw [if_neg (by omega), if_pos h]
theorem val_3 {logs : List Int} {R pc now : Int} {f : Nat → Int} {m : Nat → Nat → Int} {x : Kop} (h : x.o = 3) : valK logs R pc now f m x = m x.ar.toNat (wordK logs pc now x) := by unfold valK; rw [if_neg (by omega), if_neg (by omega), if_pos h]
theorem val_op {logs : List Int} {R pc now : Int} {f : Nat → Int} {m : Nat → Nat → Int} {x : Kop} (h : 11 ≤ x.o) : valK logs R pc now f m x = opv (x.o - 10) (f ((x.a + now / pc) % R).toNat) (f ((x.b + now / pc) % R).toNat) := by
  unfold valK; rw [if_neg (by omega), if_neg (by omega), if_neg (by omega), if_neg (by omega)]; rfl
theorem add_wrap {d q : Nat} (hd : d ≤ 300000) (hq : q ≤ 300000) : IntKind.i64.wrap ((d : Int) + (q : Int)) = (d : Int) + (q : Int) := by rw [IntKind.wrap_i64]; omega
theorem add_wrap2 {T : Nat} {wt : Int} (hT : T ≤ 300000) (h1 : 1 ≤ wt) (h2 : wt ≤ 6) : IntKind.i64.wrap ((T : Int) + wt) = (T : Int) + wt := by rw [IntKind.wrap_i64]; omega
theorem cell_other (w : World) (a : Addr) (v : Value) (b o : Nat) (h : b ≠ a.block) : (w.setCell a v).cell? ⟨b, o, none⟩ = w.cell? ⟨b, o, none⟩ := by
  have e := Below.heap_setCell w a v b h
  unfold World.cell?
  dsimp only
  rw [e]
end Go.Proofs.YtbpaffkkphacdabGreat
