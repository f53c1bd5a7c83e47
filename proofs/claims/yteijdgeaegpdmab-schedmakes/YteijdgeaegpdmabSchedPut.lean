/- The contract of a planner's put: a statement is put in, those for which it comes too late are taken out; or it finds no time. -/
import Derived.Test.YteijdgeaegpdmabSchedB
namespace Go.Proofs.Yteijdgeaegpdmab
open Go.RowKit Go.Joins
set_option linter.unusedVariables false
set_option linter.unusedSimpArgs false
set_option maxRecDepth 8192

/-- where a planner stands between two calls; from a, k: as SOk says -/
structure PSt (c : Pc) (I : Nat → Bool) (T N : Nat → Int) (a k : Nat) (x : World) : Prop where
  rows : PRows c I T N x
  sok : SOk c.L c.t c.P I T N a k
  map : ∃ q : Nat, MapG (fun s r => (inC c.L c.P I T s r : Int)) q c.mb x ∧ (q : Int) + cnt I c.L.body.length ≤ 2 * sumN N c.L.body.length
variable {c : Pc} {I : Nat → Bool} {T N : Nat → Int}
theorem PSt.below {a k : Nat} {x y : World} (h : PSt c I T N a k x) (hb : Below x.heap.size x y) : PSt c I T N a k y := by
  obtain ⟨q, h1, h2⟩ := h.map
  exact ⟨h.rows.below hb, h.sok, q, h1.below hb, h2⟩
theorem PSt.sum {a k : Nat} {x : World} (h : PSt c I T N a k x) (ok : PcOk c) : 0 ≤ sumN N c.L.body.length ∧ sumN N c.L.body.length ≤ 16016 := by
  have h1 := sum_range (N := N) (lo := 0) (hi := 1001) c.L.body.length h.sok.nexts
  have h2 := ok.len.2
  have h3 : (c.L.body.length : Int) * 1001 ≤ 16 * 1001 := Int.mul_le_mul_of_nonneg_right (by omega) (by omega)
  omega
theorem inC_le (L : Lp) (P : Int) (I : Nat → Bool) (T : Nat → Int) (s r : Int) : inC L P I T s r ≤ L.body.length := cnt_le _ _
theorem inC_range (ok : PcOk c) (I : Nat → Bool) (T : Nat → Int) (s r : Int) : -1000000 ≤ (inC c.L c.P I T s r : Int) ∧ (inC c.L c.P I T s r : Int) ≤ 1000000 := by
  have h1 := inC_le c.L c.P I T s r
  have h2 := ok.len.2
  omega
/-- one is taken out -/
theorem PSt.out {a k b : Nat} {x y : World} (h : PSt c I T N a k x) (hb : b < c.L.body.length) (hI : I b = true) (hk : k < (edgesD c.L c.t).length) (he : (edAt (edgesD c.L c.t) k).to.toNat = b) (hr : PRows c (upB I b false) T N y) {q : Nat} (hq : (q : Int) + cnt I c.L.body.length ≤ 2 * sumN N c.L.body.length)
    (hm : MapG (fun s r => if s = clsv (stAt c.L.body b).o ∧ r = (T b).tmod c.P then (inC c.L c.P I T s r : Int) - 1 else (inC c.L c.P I T s r : Int)) (q + 1) c.mb y) : PSt c (upB I b false) T N a (k + 1) y := by
  refine ⟨hr, h.sok.out hb hI hk he, q + 1, hm.congr fun s r => ?_, ?_⟩
  · have h1 := in_out (P := c.P) (T := T) hb hI s r
    by_cases e : s = clsv (stAt c.L.body b).o ∧ r = (T b).tmod c.P
    · rw [if_pos e]; rw [if_pos ⟨e.1.symm, e.2.symm⟩] at h1; omega
    · rw [if_neg e]; rw [if_neg fun e2 => e ⟨e2.1.symm, e2.2.symm⟩] at h1; omega
  · have h1 := cntI_out (n := c.L.body.length) hb hI
    omega
/-- one is put in -/
theorem PSt.putin {a0 a : Nat} {tm : Int} {x y : World} (h : PSt c I T N a0 (edgesD c.L c.t).length x) (ha : a < c.L.body.length) (hI : I a = false) (hrp : ReadyP c I T N a (edgesD c.L c.t).length tm) (h1 : tm ≤ 1000)
    (hfull : (inC c.L c.P I T (clsv (stAt c.L.body a).o) (tm.tmod c.P) : Int) ≠ unitsT c.t (clsv (stAt c.L.body a).o)) (hr : PRows c (upB I a true) (upI T a tm) (upI N a (tm + 1)) y) {q : Nat} (hq : (q : Int) + cnt I c.L.body.length ≤ 2 * sumN N c.L.body.length)
    (hm : MapG (fun s r => if s = clsv (stAt c.L.body a).o ∧ r = tm.tmod c.P then (inC c.L c.P I T s r : Int) + 1 else (inC c.L c.P I T s r : Int)) (q + 1) c.mb y) : PSt c (upB I a true) (upI T a tm) (upI N a (tm + 1)) a 0 y ∧ sumN N c.L.body.length + 1 ≤ sumN (upI N a (tm + 1)) c.L.body.length := by
  have hs : sumN (upI N a (tm + 1)) c.L.body.length = sumN N c.L.body.length + (tm + 1 - N a) := by rw [sum_up, if_pos ha]
  have h0 := hrp.1
  refine ⟨⟨hr, h.sok.put (k0 := 0) ha hI h0 h1 hfull (fun j hj e1 e2 => hrp.2.2 j hj e1 e2), q + 1, hm.congr fun s r => ?_, ?_⟩, by omega⟩
  · rw [in_put ha hI]
    by_cases e : s = clsv (stAt c.L.body a).o ∧ r = tm.tmod c.P
    · rw [if_pos e, if_pos ⟨e.1.symm, e.2.symm⟩]; omega
    · rw [if_neg e, if_neg fun e2 => e ⟨e2.1.symm, e2.2.symm⟩]; omega
  · have h2 := cntI_put (n := c.L.body.length) ha hI
    omega
theorem PSt.nextk {a k : Nat} {x y : World} (h : PSt c I T N a k x) (hb : Below x.heap.size x y) (hk : k < (edgesD c.L c.t).length) (hn : (edAt (edgesD c.L c.t) k).fr.toNat = a → I (edAt (edgesD c.L c.t) k).to.toNat = true → T a + gapP c.P (edAt (edgesD c.L c.t) k) ≤ T (edAt (edgesD c.L c.t) k).to.toNat) : PSt c I T N a (k + 1) y := by
  have h2 := h.below hb
  exact ⟨h2.rows, h2.sok.next hk hn, h2.map⟩
theorem PSt.anyk {a k b : Nat} {x : World} (h : PSt c I T N a k x) (hk : (edgesD c.L c.t).length ≤ k) : PSt c I T N b (edgesD c.L c.t).length x := ⟨h.rows, h.sok.any hk, h.map⟩
def PutP (c : Pc) (N : Nat → Int) (e : Ending) (w' : World) : Prop :=
  (e = .returned (.bool false) ∧ Below c.w0.heap.size c.w0 w') ∨ (e = .returned (.bool true) ∧ ∃ I' T' N', PSt c I' T' N' 0 (edgesD c.L c.t).length w' ∧ sumN N c.L.body.length + 1 ≤ sumN N' c.L.body.length)
theorem ReadyP.later {a k : Nat} {tm : Int} (h : ReadyP c I T N a k tm) (h1 : tm ≤ 1000) : ReadyP c I T N a k (tm + 1) := ⟨by have := h.1; omega, by omega, fun j hj e1 e2 => by have := h.2.2 j hj e1 e2; omega⟩

set_option maxHeartbeats 16000000 in
theorem put_any (x : World) (a : Nat) (ok : PcOk c) (h : PSt c I T N 0 (edgesD c.L c.t).length x) (ha : a < c.L.body.length) (hI : I a = false) :
    Calls Try.prog 67 #[.pointer (some ⟨c.pb, 0, none⟩), .int .i64 a] x fun e w' => PutP c N e w' := by
  have hn1 := h.sok.nexts a ha
  have HRD := hide (fun W (hW : Below x.heap.size x W) => ready_any W a ok (h.rows.below hW) ha h.sok.times hn1)
  obtain ⟨q, hM, hq⟩ := h.map
  have HFU := hide (fun W (tm : Int) (hW : Below x.heap.size x W) (h0 : 0 ≤ tm) (h1 : tm ≤ 1000) => full_any W a q tm _ ok (h.rows.below hW) (hM.below hW) ha h0 h1)
  have HM := hide hM
  have HQ := hide hq
  have HP := hide h
  have hpz := h.rows.lt
  have HBX := hide h.rows.bel
  have hai : (a : Int) < (c.L.body.length : Int) := by omega
  have HLAT := hide (fun tm => @ReadyP.later c I T N a (edgesD c.L c.t).length tm)
  have HFAIL : Hid (∀ w', Below x.heap.size x w' → PutP c N (.returned (.bool false)) w') := fun w' hw => .inl ⟨rfl, HBX.out.trans (hw.mono HBX.out.size)⟩
  have HN0 := hide hn1
  clear h hn1 hM hq
  go_enter Try.func67, Try.ntmps67
  go_wp2_with fail
  refine (HRD.out _ (Below.refl _ _)).mono ?_
  rintro e x1 ⟨tm0, rfl, hrp0, hb1⟩
  have HRP0 := hide hrp0
  have HB1 := hide hb1
  clear hrp0 hb1
  go_wp2_with fail
  go_loopw [5] (fun tv wr => ∃ tm : Int, tv = .int .i64 tm ∧ ReadyP c I T N a (edgesD c.L c.t).length tm ∧ Below x.heap.size x wr) (fun tv _ => (1100 - intOf tv).toNat)
  case atStart => exact ⟨tm0, rfl, HRP0.out, HB1.out⟩
  case round =>
    clear HRP0 HB1
    obtain ⟨tm, rfl, hrp, hbel⟩ := hrel
    have HRP := hide hrp
    have HB := hide hbel
    have htm0 : 0 ≤ tm := by have := hrp.1; have := HN0.out; omega
    have htm2 := hrp.2.1
    clear hrp hbel
    by_cases htm1 : tm ≤ 1000
    · have HFC := hide (HFU.out wr tm HB.out htm0 htm1)
      obtain ⟨bd, hbd⟩ : ∃ bd, decide ((inC c.L c.P I T (clsv (stAt c.L.body a).o) (tm.tmod c.P) : Int) = unitsT c.t (clsv (stAt c.L.body a).o)) = bd := ⟨_, rfl⟩
      rw [hbd] at HFC
      have HBD := hide hbd
      clear hbd
      cases bd with
      | true =>
        go_wp2_with fail
        refine HFC.out.mono ?_
        rintro e x2 ⟨rfl, hb2⟩
        have HB2 := hide (HB.out.trans (hb2.mono HB.out.size))
        clear hb2
        go_wp2_with fail
        go_roundw
        case rel => exact ⟨tm + 1, by go_num, HLAT.out tm HRP.out htm1, HB2.out⟩
        case measure => simp [intOf]; omega
      | false =>
        have HNF : Hid ((inC c.L c.P I T (clsv (stAt c.L.body a).o) (tm.tmod c.P) : Int) ≠ unitsT c.t (clsv (stAt c.L.body a).o)) := of_decide_eq_false HBD.out
        clear HLAT
        go_wp2_with fail
        refine HFC.out.mono ?_
        rintro e x2 ⟨rfl, hb2⟩
        have HB2 := hide (HB.out.trans (hb2.mono HB.out.size))
        clear hb2 HFC HFU HRD
        have hgt : ¬ 1000 < tm := by omega
        go_wp2_with fail
        have HR2 : Hid (PRows c I T N x2.drew) := (HP.out.rows.below HB2.out).below (below_dr1 _ _)
        have HM2 : Hid (MapG (fun s r => (inC c.L c.P I T s r : Int)) q c.mb x2.drew) := (HM.out.below HB2.out).below (below_dr1 _ _)
        have hwt : IntKind.i64.wrap (tm + 1) = tm + 1 := i64_wrap _ (by omega) (by omega)
        have HFL : Hid (∀ I T N y, PRows c I T N y → y.cell? ⟨c.pb, 13, none⟩ = some (.slice (some ⟨c.ib, 0, none⟩) c.L.body.length c.L.body.length) ∧ y.cell? ⟨c.pb, 14, none⟩ = some (.slice (some ⟨c.tb, 0, none⟩) c.L.body.length c.L.body.length) ∧ y.cell? ⟨c.pb, 15, none⟩ = some (.slice (some ⟨c.nb, 0, none⟩) c.L.body.length c.L.body.length)) := fun I T N y hy => by
          obtain ⟨f1, f10, f11, f12, f13, f14, f15, f16⟩ := hy.fields
          exact ⟨f13, f14, f15⟩
        have hiz := HR2.out.ir.lt
        have htz := HR2.out.tr.lt
        have hnz := HR2.out.nr.lt
        refine wp_region_noPanic ?_
        refine region_until 99 (fun w' => w'.cell? ⟨c.pb, 13, none⟩ = some (.slice (some ⟨c.ib, 0, none⟩) c.L.body.length c.L.body.length) ∧ w'.cell? ⟨c.pb, 14, none⟩ = some (.slice (some ⟨c.tb, 0, none⟩) c.L.body.length c.L.body.length) ∧ w'.cell? ⟨c.pb, 15, none⟩ = some (.slice (some ⟨c.nb, 0, none⟩) c.L.body.length c.L.body.length)) (by kernel_rfl) (HFL.out _ _ _ _ HR2.out) (fun hHeld => ?_)
        generalize x2.drew = y0 at *
        refine until_take (i := 0) (v := ?_) rfl (by kernel_rfl) (by kernel_rfl) (by kernel_rfl) (by kernel_rfl) (fun _ _ _ h => h) (Or.inl ⟨by rfl, ?_⟩) hHeld ?_
        rotate_left
        · intro w hSw
          try dsimp only at hSw
          go_simp
          try with_reducible rfl
        try simp only [Act.put, List.setIfInBounds_toArray, List.set_cons_zero, List.set_cons_succ]
        refine until_take (i := 1) (v := ?_) rfl (by kernel_rfl) (by kernel_rfl) (by kernel_rfl) (by kernel_rfl) (fun _ _ _ h => h) (Or.inl ⟨by rfl, ?_⟩) hHeld ?_
        rotate_left
        · intro w hSw
          try dsimp only at hSw
          go_simp
          try with_reducible rfl
        try simp only [Act.put, List.setIfInBounds_toArray, List.set_cons_zero, List.set_cons_succ]
        refine until_take (i := 2) (v := ?_) rfl (by kernel_rfl) (by kernel_rfl) (by kernel_rfl) (by kernel_rfl) (fun _ _ _ h => h) (Or.inl ⟨by rfl, ?_⟩) hHeld ?_
        rotate_left
        · intro w hSw
          try dsimp only at hSw
          go_simp
          try with_reducible rfl
        try simp only [Act.put, List.setIfInBounds_toArray, List.set_cons_zero, List.set_cons_succ]
        refine until_take (i := 3) (v := ?_) rfl (by kernel_rfl) (by kernel_rfl) (by kernel_rfl) (by kernel_rfl) (fun _ _ _ h => h) (Or.inl ⟨by rfl, ?_⟩) hHeld ?_
        rotate_left
        · intro w hSw
          try dsimp only at hSw
          go_simp
          try with_reducible rfl
        try simp only [Act.put, List.setIfInBounds_toArray, List.set_cons_zero, List.set_cons_succ]
        refine until_take (i := 4) (v := ?_) rfl (by kernel_rfl) (by kernel_rfl) (by kernel_rfl) (by kernel_rfl) (fun _ _ _ h => h) (Or.inl ⟨by rfl, ?_⟩) hHeld ?_
        rotate_left
        · intro w hSw
          try dsimp only at hSw
          go_simp
          try with_reducible rfl
        try simp only [Act.put, List.setIfInBounds_toArray, List.set_cons_zero, List.set_cons_succ]
        refine until_take (i := 5) (v := ?_) rfl (by kernel_rfl) (by kernel_rfl) (by kernel_rfl) (by kernel_rfl) (fun _ _ _ h => h) (Or.inl ⟨by rfl, ?_⟩) hHeld ?_
        rotate_left
        · intro w hSw
          try dsimp only at hSw
          go_simp
          try with_reducible rfl
        try simp only [Act.put, List.setIfInBounds_toArray, List.set_cons_zero, List.set_cons_succ]
        refine until_take (i := 6) (v := ?_) rfl (by kernel_rfl) (by kernel_rfl) (by kernel_rfl) (by kernel_rfl) (fun _ _ _ h => h) (Or.inl ⟨by rfl, ?_⟩) hHeld ?_
        rotate_left
        · intro w hSw
          try dsimp only at hSw
          go_simp
          try with_reducible rfl
        try simp only [Act.put, List.setIfInBounds_toArray, List.set_cons_zero, List.set_cons_succ]
        refine until_take (i := 7) (v := ?_) rfl (by kernel_rfl) (by kernel_rfl) (by kernel_rfl) (by kernel_rfl) (fun _ _ _ h => h) (Or.inl ⟨by rfl, ?_⟩) hHeld ?_
        rotate_left
        · intro w hSw
          try dsimp only at hSw
          go_simp
          try with_reducible rfl
        try simp only [Act.put, List.setIfInBounds_toArray, List.set_cons_zero, List.set_cons_succ]
        refine until_take (i := 8) (v := ?_) rfl (by kernel_rfl) (by kernel_rfl) (by kernel_rfl) (by kernel_rfl) (fun _ _ _ h => h) (Or.inl ⟨by rfl, ?_⟩) hHeld ?_
        rotate_left
        · intro w hSw
          try dsimp only at hSw
          go_simp
          try with_reducible rfl
        try simp only [Act.put, List.setIfInBounds_toArray, List.set_cons_zero, List.set_cons_succ]
        refine until_take (i := 9) (v := ?_) rfl (by kernel_rfl) (by kernel_rfl) (by kernel_rfl) (by kernel_rfl) (fun _ _ _ h => h) (Or.inl ⟨by rfl, ?_⟩) hHeld ?_
        rotate_left
        · intro w hSw
          try dsimp only at hSw
          go_simp
          try with_reducible rfl
        try simp only [Act.put, List.setIfInBounds_toArray, List.set_cons_zero, List.set_cons_succ]
        refine until_take (i := 10) (v := ?_) rfl (by kernel_rfl) (by kernel_rfl) (by kernel_rfl) (by kernel_rfl) (fun _ _ _ h => h) (Or.inl ⟨by rfl, ?_⟩) hHeld ?_
        rotate_left
        · intro w hSw
          try dsimp only at hSw
          go_simp
          try with_reducible rfl
        try simp only [Act.put, List.setIfInBounds_toArray, List.set_cons_zero, List.set_cons_succ]
        refine until_take (i := 11) (v := ?_) rfl (by kernel_rfl) (by kernel_rfl) (by kernel_rfl) (by kernel_rfl) (fun _ _ _ h => h) (Or.inl ⟨by rfl, ?_⟩) hHeld ?_
        rotate_left
        · intro w hSw
          try dsimp only at hSw
          go_simp
          try with_reducible rfl
        try simp only [Act.put, List.setIfInBounds_toArray, List.set_cons_zero, List.set_cons_succ]
        refine until_take (i := 12) (v := ?_) rfl (by kernel_rfl) (by kernel_rfl) (by kernel_rfl) (by kernel_rfl) (fun _ _ _ h => h) (Or.inl ⟨by rfl, ?_⟩) hHeld ?_
        rotate_left
        · intro w hSw
          try dsimp only at hSw
          go_simp
          try with_reducible rfl
        try simp only [Act.put, List.setIfInBounds_toArray, List.set_cons_zero, List.set_cons_succ]
        refine until_take (i := 13) (v := ?_) rfl (by kernel_rfl) (by kernel_rfl) (by kernel_rfl) (by kernel_rfl) (fun _ _ _ h => h) (Or.inl ⟨by rfl, ?_⟩) hHeld ?_
        rotate_left
        · intro w hSw
          try dsimp only at hSw
          go_simp
          try with_reducible rfl
        try simp only [Act.put, List.setIfInBounds_toArray, List.set_cons_zero, List.set_cons_succ]
        refine until_take (i := 14) (v := ?_) rfl (by kernel_rfl) (by kernel_rfl) (by kernel_rfl) (by kernel_rfl) (fun _ _ _ h => h) (Or.inl ⟨by rfl, ?_⟩) hHeld ?_
        rotate_left
        · intro w hSw
          try dsimp only at hSw
          go_simp
          try with_reducible rfl
        try simp only [Act.put, List.setIfInBounds_toArray, List.set_cons_zero, List.set_cons_succ]
        refine until_take (i := 15) (v := ?_) rfl (by kernel_rfl) (by kernel_rfl) (by kernel_rfl) (by kernel_rfl) (fun _ _ _ h => h) (Or.inl ⟨by rfl, ?_⟩) hHeld ?_
        rotate_left
        · intro w hSw
          try dsimp only at hSw
          go_simp
          try with_reducible rfl
        try simp only [Act.put, List.setIfInBounds_toArray, List.set_cons_zero, List.set_cons_succ]
        refine until_take (i := 16) (v := ?_) rfl (by kernel_rfl) (by kernel_rfl) (by kernel_rfl) (by kernel_rfl) (fun _ _ _ h => h) (Or.inl ⟨by rfl, ?_⟩) hHeld ?_
        rotate_left
        · intro w hSw
          try dsimp only at hSw
          go_simp
          try with_reducible rfl
        try simp only [Act.put, List.setIfInBounds_toArray, List.set_cons_zero, List.set_cons_succ]
        refine until_take (i := 17) (v := ?_) rfl (by kernel_rfl) (by kernel_rfl) (by kernel_rfl) (by kernel_rfl) (fun _ _ _ h => h) (Or.inl ⟨by rfl, ?_⟩) hHeld ?_
        rotate_left
        · intro w hSw
          try dsimp only at hSw
          go_simp
          try with_reducible rfl
        try simp only [Act.put, List.setIfInBounds_toArray, List.set_cons_zero, List.set_cons_succ]
        refine until_take (i := 18) (v := ?_) rfl (by kernel_rfl) (by kernel_rfl) (by kernel_rfl) (by kernel_rfl) (fun _ _ _ h => h) (Or.inl ⟨by rfl, ?_⟩) hHeld ?_
        rotate_left
        · intro w hSw
          try dsimp only at hSw
          go_simp
          try with_reducible rfl
        try simp only [Act.put, List.setIfInBounds_toArray, List.set_cons_zero, List.set_cons_succ]
        have s1 := HR2.out.ir.cell ha
        have s2 := HR2.out.ir.frozen a
        have HR3 : Hid (PRows c (upB I a true) T N (y0.setCell ⟨c.ib, a, none⟩ (.bool true))) := HR2.out.setIn a ha true
        have HM3 : Hid (MapG (fun s r => (inC c.L c.P I T s r : Int)) q c.mb (y0.setCell ⟨c.ib, a, none⟩ (.bool true))) := HM2.out.of_block (Below.heap_setCell _ _ _ _ (mapRow_apart HM2.out HR2.out.ir).symm)
        have hHeld2 := HFL.out _ _ _ _ HR3.out
        refine until_one (i := 19) rfl (by kernel_rfl) (fun K hK => ?_)
        go_simp
        refine hK.out _ _ (.inr hHeld2) ?_
        clear hK K
        try simp only [Act.put, List.setIfInBounds_toArray, List.set_cons_zero, List.set_cons_succ]
        clear s1 s2 hHeld HR2 HM2
        generalize y0.setCell ⟨c.ib, a, none⟩ (.bool true) = y1 at *
        have hHeld := hHeld2
        clear hHeld2
        refine until_take (i := 20) (v := ?_) rfl (by kernel_rfl) (by kernel_rfl) (by kernel_rfl) (by kernel_rfl) (fun _ _ _ h => h) (Or.inl ⟨by rfl, ?_⟩) hHeld ?_
        rotate_left
        · intro w hSw
          try dsimp only at hSw
          go_simp
          try with_reducible rfl
        try simp only [Act.put, List.setIfInBounds_toArray, List.set_cons_zero, List.set_cons_succ]
        have s1 := HR3.out.tr.cell ha
        have s2 := HR3.out.tr.frozen a
        have HR4 : Hid (PRows c (upB I a true) (upI T a tm) N (y1.setCell ⟨c.tb, a, none⟩ (.int .i64 tm))) := HR3.out.setT a ha tm
        have HM4 : Hid (MapG (fun s r => (inC c.L c.P I T s r : Int)) q c.mb (y1.setCell ⟨c.tb, a, none⟩ (.int .i64 tm))) := HM3.out.of_block (Below.heap_setCell _ _ _ _ (mapRow_apart HM3.out HR3.out.tr).symm)
        have hHeld2 := HFL.out _ _ _ _ HR4.out
        refine until_one (i := 21) rfl (by kernel_rfl) (fun K hK => ?_)
        go_simp
        refine hK.out _ _ (.inr hHeld2) ?_
        clear hK K
        try simp only [Act.put, List.setIfInBounds_toArray, List.set_cons_zero, List.set_cons_succ]
        clear s1 s2 hHeld HR3 HM3
        generalize y1.setCell ⟨c.tb, a, none⟩ (.int .i64 tm) = y2 at *
        have hHeld := hHeld2
        clear hHeld2
        refine until_take (i := 22) (v := ?_) rfl (by kernel_rfl) (by kernel_rfl) (by kernel_rfl) (by kernel_rfl) (fun _ _ _ h => h) (Or.inl ⟨by rfl, ?_⟩) hHeld ?_
        rotate_left
        · intro w hSw
          try dsimp only at hSw
          go_simp
          try with_reducible rfl
        try simp only [Act.put, List.setIfInBounds_toArray, List.set_cons_zero, List.set_cons_succ]
        have s1 := HR4.out.nr.cell ha
        have s2 := HR4.out.nr.frozen a
        have HR5 : Hid (PRows c (upB I a true) (upI T a tm) (upI N a (tm + 1)) (y2.setCell ⟨c.nb, a, none⟩ (.int .i64 (tm + 1)))) := HR4.out.setN a ha (tm + 1)
        have HM5 : Hid (MapG (fun s r => (inC c.L c.P I T s r : Int)) q c.mb (y2.setCell ⟨c.nb, a, none⟩ (.int .i64 (tm + 1)))) := HM4.out.of_block (Below.heap_setCell _ _ _ _ (mapRow_apart HM4.out HR4.out.nr).symm)
        have hHeld2 := HFL.out _ _ _ _ HR5.out
        refine until_one (i := 23) rfl (by kernel_rfl) (fun K hK => ?_)
        go_simp
        refine hK.out _ _ (.inr hHeld2) ?_
        clear hK K
        try simp only [Act.put, List.setIfInBounds_toArray, List.set_cons_zero, List.set_cons_succ]
        refine until_done (by kernel_rfl) ?_ _
        refine NoPanic.normal ?_
        clear s1 s2 hHeld HR4 HM4 hHeld2
        generalize y2.setCell ⟨c.nb, a, none⟩ (.int .i64 (tm + 1)) = y3 at *
        have hup : upI T a tm a = tm := by unfold upI; rw [if_pos rfl]
        have HUA := hide (fun W (hW : PRows c (upB I a true) (upI T a tm) (upI N a (tm + 1)) W) => unit_any W a ok hW ha (by rw [hup]; exact htm0) (by rw [hup]; exact htm1))
        rw [hup] at HUA
        have hq := HQ.out
        have hsum := HP.out.sum ok
        have HPI := hide (fun y hr hm => HP.out.putin (y := y) ha hI HRP.out htm1 HNF.out hr HQ.out hm)
        have hp1 := ok.p1
        have hp2 := ok.p2
        obtain ⟨cn, hcn, hcn3⟩ := cls_nat (stAt c.L.body a).o
        have hm1 := Int.tmod_nonneg c.P htm0
        have hm2 := Int.tmod_lt_of_pos tm (show 0 < c.P by omega)
        rw [hcn] at HUA HPI
        obtain ⟨rm, hrm⟩ : ∃ rm, tm.tmod c.P = rm := ⟨_, rfl⟩
        rw [hrm] at HUA HPI hm1 hm2
        obtain ⟨hf1, hf2⟩ := inC_range ok I T cn rm
        have HLK : Hid (∀ y, MapG (fun s r => (inC c.L c.P I T s r : Int)) q c.mb y → (Instr.lookup 115 (.map (some c.mb)) (.agg #[.int .i64 cn, .int .i64 rm]) false).run Try.prog y = .ok (.int .i64 (inC c.L c.P I T cn rm : Int)) y) := fun y hy => hy.look cn rm (wf_i _ (by omega) (by omega)) (wf_i _ (by omega) (by omega))
        have HST : Hid (∀ y, MapG (fun s r => (inC c.L c.P I T s r : Int)) q c.mb y → _) := fun y (hy : MapG (fun s r => (inC c.L c.P I T s r : Int)) q c.mb y) => hy.step (by unfold maxLen; omega) cn rm (wf_i _ (by omega) (by omega)) (wf_i _ (by omega) (by omega)) ((inC c.L c.P I T cn rm : Int) + 1) (wf_i _ (by omega) (by omega))
        have HEQ : Hid (∀ s r, (fun c' r' => if c' = (cn : Int) ∧ r' = rm then (inC c.L c.P I T cn rm : Int) + 1 else (inC c.L c.P I T c' r' : Int)) s r = (fun s r => if s = (cn : Int) ∧ r = rm then (inC c.L c.P I T s r : Int) + 1 else (inC c.L c.P I T s r : Int)) s r) := fun s r => by
          dsimp only
          by_cases e : s = (cn : Int) ∧ r = rm
          · rw [if_pos e, if_pos e, e.1, e.2]
          · rw [if_neg e, if_neg e]
        obtain ⟨fv, hfv⟩ : ∃ fv, (inC c.L c.P I T (cn : Int) rm : Int) = fv := ⟨_, rfl⟩
        rw [hfv] at HLK HST HEQ hf1 hf2
        have hwr : IntKind.i64.wrap (fv + 1) = fv + 1 := i64_wrap _ (by omega) (by omega)
        have HSE : Hid (∀ y, Below y3.heap.size y3 y → (y.cell? ⟨c.pb, 16, none⟩ = some (.map (some c.mb))) ∧ (Instr.lookup 115 (.map (some c.mb)) (.agg #[.int .i64 cn, .int .i64 rm]) false).run Try.prog y = .ok (.int .i64 fv) y) := fun y hy => ⟨(HR5.out.below hy).fields.2.2.2.2.2.2.2, HLK.out y (HM5.out.below hy)⟩
        clear hcn hrm hfv hq hsum
        go_wp2_with fail
        refine wp_region_noPanic ?_
        refine region_until 11 (fun w' => (w'.cell? ⟨c.pb, 16, none⟩ = some (.map (some c.mb))) ∧ (Instr.lookup 115 (.map (some c.mb)) (.agg #[.int .i64 cn, .int .i64 rm]) false).run Try.prog w' = .ok (.int .i64 fv) w') (by kernel_rfl) (HSE.out _ (below_dr1 _ _)) (fun hHeld => ?_)
        refine until_take (i := 0) (v := ?_) rfl (by kernel_rfl) (by kernel_rfl) (by kernel_rfl) (by kernel_rfl) (fun _ _ _ h => h) (Or.inl ⟨by rfl, ?_⟩) hHeld ?_
        rotate_left
        · intro w hSw
          try dsimp only at hSw
          go_simp
          try with_reducible rfl
        try simp only [Act.put, List.setIfInBounds_toArray, List.set_cons_zero, List.set_cons_succ]
        refine until_take (i := 1) (v := ?_) rfl (by kernel_rfl) (by kernel_rfl) (by kernel_rfl) (by kernel_rfl) (fun _ _ _ h => h) (Or.inl ⟨by rfl, ?_⟩) hHeld ?_
        rotate_left
        · intro w hSw
          try dsimp only at hSw
          go_simp
          try with_reducible rfl
        try simp only [Act.put, List.setIfInBounds_toArray, List.set_cons_zero, List.set_cons_succ]
        refine until_take (i := 2) (v := ?_) rfl (by kernel_rfl) (by kernel_rfl) (by kernel_rfl) (by kernel_rfl) (fun _ _ _ h => h) (Or.inl ⟨by rfl, ?_⟩) hHeld ?_
        rotate_left
        · intro w hSw
          try dsimp only at hSw
          go_simp
          try with_reducible rfl
        try simp only [Act.put, List.setIfInBounds_toArray, List.set_cons_zero, List.set_cons_succ]
        refine until_take (i := 3) (v := ?_) rfl (by kernel_rfl) (by kernel_rfl) (by kernel_rfl) (by kernel_rfl) (fun _ _ _ h => h) (Or.inl ⟨by rfl, ?_⟩) hHeld ?_
        rotate_left
        · intro w hSw
          try dsimp only at hSw
          go_simp
          try with_reducible rfl
        try simp only [Act.put, List.setIfInBounds_toArray, List.set_cons_zero, List.set_cons_succ]
        refine until_take (i := 4) (v := ?_) rfl (by kernel_rfl) (by kernel_rfl) (by kernel_rfl) (by kernel_rfl) (fun _ _ _ h => h) (Or.inl ⟨by rfl, ?_⟩) hHeld ?_
        rotate_left
        · intro w hSw
          try dsimp only at hSw
          go_simp
          try with_reducible rfl
        try simp only [Act.put, List.setIfInBounds_toArray, List.set_cons_zero, List.set_cons_succ]
        refine until_take (i := 5) (v := ?_) rfl (by kernel_rfl) (by kernel_rfl) (by kernel_rfl) (by kernel_rfl) (fun _ _ _ h => h) (Or.inl ⟨by rfl, ?_⟩) hHeld ?_
        rotate_left
        · intro w hSw
          try dsimp only at hSw
          go_simp
          try with_reducible rfl
        try simp only [Act.put, List.setIfInBounds_toArray, List.set_cons_zero, List.set_cons_succ]
        refine until_one (i := 6) rfl (by kernel_rfl) (fun K hK => ?_)
        go_simp
        refine (HUA.out _ (HR5.out.below (below_dr1 _ _))).mono ?_
        rintro e x3 ⟨rfl, hb3⟩
        have HB3 : Hid (Below y3.heap.size y3 x3) := (below_dr1 _ _).trans hb3
        have hHeld := HSE.out _ HB3.out
        clear hb3
        have HMX := hide (HM5.out.below HB3.out)
        have HXX := hide (HR5.out.below HB3.out)
        obtain ⟨ve, stp, w1, e1, e2, e3, w3, g1, g2, g3⟩ := HST.out _ HMX.out
        refine hK.out _ _ (.inr hHeld) ?_
        clear hK K
        try simp only [Act.put, List.setIfInBounds_toArray, List.set_cons_zero, List.set_cons_succ]
        refine until_take (i := 7) (v := ?_) rfl (by kernel_rfl) (by kernel_rfl) (by kernel_rfl) (by kernel_rfl) (fun _ _ _ h => h) (Or.inl ⟨by rfl, ?_⟩) hHeld ?_
        rotate_left
        · intro w hSw
          try dsimp only at hSw
          go_simp
          try with_reducible rfl
        try simp only [Act.put, List.setIfInBounds_toArray, List.set_cons_zero, List.set_cons_succ]
        refine until_take (i := 8) (v := ?_) rfl (by kernel_rfl) (by kernel_rfl) (by kernel_rfl) (by kernel_rfl) (fun _ _ _ h => h) (Or.inl ⟨by rfl, ?_⟩) hHeld ?_
        rotate_left
        · intro w hSw
          try dsimp only at hSw
          go_simp
          try with_reducible rfl
        try simp only [Act.put, List.setIfInBounds_toArray, List.set_cons_zero, List.set_cons_succ]
        have HR6 : Hid (PRows c (upB I a true) (upI T a tm) (upI N a (tm + 1)) w1) := HXX.out.grown (HXX.out.mne HMX.out) e2
        have HR7 : Hid (PRows c (upB I a true) (upI T a tm) (upI N a (tm + 1)) w3) := HR6.out.grown (HXX.out.mne HMX.out) g2
        have HPS := hide (HPI.out w3 HR7.out (g3.congr HEQ.out))
        have H1 : Hid ((w1.cell? ⟨c.pb, 16, none⟩ = some (.map (some c.mb))) ∧ (Instr.lookup 115 (.map (some c.mb)) (.agg #[.int .i64 cn, .int .i64 rm]) false).run Try.prog w1 = .ok (.int .i64 fv) w1) := ⟨HR6.out.fields.2.2.2.2.2.2.2, e3⟩
        clear g2 g3 e2
        refine until_one (i := 9) rfl (by kernel_rfl) (fun K hK => ?_)
        go_simp
        have hHeld := H1.out
        refine hK.out _ _ (.inr hHeld) ?_
        clear hK K
        try simp only [Act.put, List.setIfInBounds_toArray, List.set_cons_zero, List.set_cons_succ]
        refine until_take (i := 10) (v := ?_) rfl (by kernel_rfl) (by kernel_rfl) (by kernel_rfl) (by kernel_rfl) (fun _ _ _ h => h) (Or.inl ⟨by rfl, ?_⟩) hHeld ?_
        rotate_left
        · intro w hSw
          try dsimp only at hSw
          go_simp
          try with_reducible rfl
        try simp only [Act.put, List.setIfInBounds_toArray, List.set_cons_zero, List.set_cons_succ]
        refine until_one (i := 11) rfl (by kernel_rfl) (fun K hK => ?_)
        go_simp
        refine hK.out _ _ (.inl rfl) ?_
        clear hK K
        try simp only [Act.put, List.setIfInBounds_toArray, List.set_cons_zero, List.set_cons_succ]
        refine until_done (by kernel_rfl) ?_ _
        refine NoPanic.normal ?_
        clear hHeld e1 g1 e3 H1 HPI HST HLK HEQ HSE HUA HR5 HM5 HMX HXX HR6 HB3
        have hpz3 := HR7.out.lt
        obtain ⟨f1, f10, f11, f12, f13, f14, f15, f16⟩ := HR7.out.fields
        have HTA : Hid (upI T a tm a = tm) := hup
        clear hup HR7 hf1 hf2 hwr
        generalize (upB I a true) = I1 at HPS
        generalize (upI T a tm) = T1 at HPS HTA
        obtain ⟨N1, hN1⟩ : ∃ N1, (upI N a (tm + 1)) = N1 := ⟨_, rfl⟩
        rw [hN1] at HPS
        clear hN1
        have HSUM := hide HPS.out.2
        have HPS0 := hide HPS.out.1
        clear HPS
        obtain ⟨hec1, hec2⟩ := ok.ecap
        obtain ⟨es, hes⟩ : ∃ es, edgesD c.L c.t = es := ⟨_, rfl⟩
        rw [hes] at f10 hec1
        have HES := hide hes
        clear hes HRP HNF HBD HM HQ HP HB HFAIL HBX HFL HB2 hwt hiz htz hnz
        have HW3 : Hid (c.w0 = c.w0) := rfl
        go_wp2_with fail
        clear f1 f10 f11 f12 f13 f14 f15 f16
        go_loopw [60] (fun i wr => ∃ (k : Nat) (I2 : Nat → Bool), k ≤ es.length ∧ i = .int .i64 k ∧ PSt c I2 T1 N1 a k wr) (fun i _ => es.length - (intOf i).toNat)
        case atStart => exact ⟨0, I1, Nat.zero_le _, rfl, HPS0.out⟩
        case round =>
          clear HPS0 hpz3
          obtain ⟨k, I2, hk, rfl, hst⟩ := hrel
          have HPS := hide hst
          by_cases hkl : k < es.length
          · have hki : (k : Int) < (es.length : Int) := by omega
            obtain ⟨eb, eo, hea, hebz, -, -, fr, to, bk, wt, hed, hfr, hto, hbk, hwt, c0, c1, c2, c3⟩ := hst.rows.edge ok k (by rw [HES.out]; exact hkl)
            have hpw := hst.rows.lt
            have h3 := hst.rows.ir.cell hto
            have h5 := hst.rows.ir.lt
            obtain ⟨tf1, tf2⟩ := hst.sok.times to hto
            have htt := hst.rows.tr.lt
            have htoi : (to : Int) < (c.L.body.length : Int) := by omega
            have HGAP := hide (fun W => gap_any fr to bk wt c.P W hbk hwt hp1 hp2)
            have hpb1 : 0 ≤ (bk : Int) * c.P := Int.mul_nonneg (by omega) (by omega)
            have hpb2 : (bk : Int) * c.P ≤ 32 * 200 := Int.mul_le_mul (by omega) hp2 (by omega) (by omega)
            have HNX : Hid (∀ y, Below wr.heap.size wr y → (fr = a → I2 to = true → tm + ((wt : Int) - (bk : Int) * c.P) ≤ T1 to) → PSt c I2 T1 N1 a (k + 1) y) := fun y hy g => hst.nextk hy (by rw [HES.out]; exact hkl) (by rw [hed, HTA.out]; simpa [gapP] using g)
            have HOUT : Hid (∀ (y : World) (q : Nat), I2 to = true → PRows c (upB I2 to false) T1 N1 y → (q : Int) + cnt I2 c.L.body.length ≤ 2 * sumN N1 c.L.body.length → MapG (fun s r => if s = clsv (stAt c.L.body to).o ∧ r = (T1 to).tmod c.P then (inC c.L c.P I2 T1 s r : Int) - 1 else (inC c.L c.P I2 T1 s r : Int)) (q + 1) c.mb y → PSt c (upB I2 to false) T1 N1 a (k + 1) y) := fun y q g1 g2 g3 g4 => hst.out hto g1 (by rw [HES.out]; exact hkl) (by rw [hed]; simp) g2 g3 g4
            have HTK : Hid (∀ (y : World) (q : Nat), Below wr.heap.size wr y → MapG (fun s r => (inC c.L c.P I2 T1 s r : Int)) q c.mb y → (q : Int) + cnt I2 c.L.body.length ≤ 2 * sumN N1 c.L.body.length → Calls Try.prog 110 #[.pointer (some ⟨c.pb, 0, none⟩), .int .i64 to] y fun e w' => e = .returned (.tuple #[]) ∧ PRows c (upB I2 to false) T1 N1 w' ∧ MapG (fun s r => if s = clsv (stAt c.L.body to).o ∧ r = (T1 to).tmod c.P then (inC c.L c.P I2 T1 s r : Int) - 1 else (inC c.L c.P I2 T1 s r : Int)) (q + 1) c.mb w') := fun y q g1 g2 g3 => takeOut_any y to q _ ok (hst.rows.below g1) g2 (by have := hst.sum ok; omega) hto tf1 tf2 (inC_range ok I2 T1)
            have HMAP := hide hst.map
            have HROW : Hid (∀ y, Below wr.heap.size wr y → (y.cell? ⟨c.pb, 11, none⟩ = some (.int .i64 c.P) ∧ y.cell? ⟨c.pb, 13, none⟩ = some (.slice (some ⟨c.ib, 0, none⟩) c.L.body.length c.L.body.length) ∧ y.cell? ⟨c.pb, 14, none⟩ = some (.slice (some ⟨c.tb, 0, none⟩) c.L.body.length c.L.body.length)) ∧ y.cell? ⟨c.ib, to, none⟩ = some (.bool (I2 to)) ∧ y.cell? ⟨c.tb, to, none⟩ = some (.int .i64 (T1 to))) := fun y hy => by
              have hq := hst.rows.below hy
              obtain ⟨f1, f10, f11, f12, f13, f14, f15, f16⟩ := hq.fields
              exact ⟨⟨f11, f13, f14⟩, hq.ir.cell hto, hq.tr.cell hto⟩
            obtain ⟨gp, hgp⟩ : ∃ g, (wt : Int) - (bk : Int) * c.P = g := ⟨_, rfl⟩
            rw [hgp] at HGAP HNX
            have hgb : -10000 ≤ gp ∧ gp ≤ 6 := by omega
            obtain ⟨ik, hik⟩ : ∃ ik, I2 to = ik := ⟨_, rfl⟩
            obtain ⟨tf, htf⟩ : ∃ tf, T1 to = tf := ⟨_, rfl⟩
            rw [hik] at h3 HNX HROW HOUT
            rw [htf] at tf1 tf2 HNX HROW HOUT HTK
            have hwr : IntKind.i64.wrap (tm + gp) = tm + gp := i64_wrap _ (by omega) (by omega)
            have HBOX : Hid (∀ y : World, Below (wr.heap.size + 1) (wr.alloc (.cells #[.int .i64 fr, .int .i64 to, .int .i64 bk, .int .i64 wt] 77)) y → y.cell? ⟨wr.heap.size, 0, none⟩ = some (.int .i64 fr) ∧ y.cell? ⟨wr.heap.size, 1, none⟩ = some (.int .i64 to) ∧ y.cell? ⟨wr.heap.size, 2, none⟩ = some (.int .i64 bk) ∧ y.cell? ⟨wr.heap.size, 3, none⟩ = some (.int .i64 wt)) := fun y hy => by
              have hb : y.heap[wr.heap.size]? = some (.cells #[.int .i64 fr, .int .i64 to, .int .i64 bk, .int .i64 wt] 77 (0, 0)) := (hy.block _ (by omega)).trans (new_blkS _ _ _)
              refine ⟨?_, ?_, ?_, ?_⟩ <;> (rw [cell_of_block hb]; rfl)
            have HBAL : Hid (Below wr.heap.size wr (wr.alloc (.cells #[.int .i64 fr, .int .i64 to, .int .i64 bk, .int .i64 wt] 77))) := below_alloc1 _ _
            have HS : Hid ((wr.alloc (.cells #[.int .i64 fr, .int .i64 to, .int .i64 bk, .int .i64 wt] 77)).heap.size = wr.heap.size + 1) := by show _ = _; simp
            obtain ⟨f1, f10, f11, f12, f13, f14, f15, f16⟩ := hst.rows.fields
            clear hed hgp hik htf f1 f10 f11 f12 f14 f15 f16 hst
            rw [hea]
            by_cases hta : fr = a
            · cases ik with
              | false =>
                subst hta
                go_wp2_with fail
                go_big_quiet ((fail))
                go_wp2_with fail
                go_roundw
                case rel => exact ⟨k + 1, I2, by omega, by go_num, HNX.out _ (HBAL.out.trans (below_draws _ _ _)) (fun _ h => absurd h (by simp))⟩
                case measure => simp [intOf]; omega
              | true =>
                subst hta
                have HSE : Hid (∀ y : World, Below (wr.heap.size + 1) (wr.alloc (.cells #[.int .i64 fr, .int .i64 to, .int .i64 bk, .int .i64 wt] 77)) y → (y.cell? ⟨c.pb, 11, none⟩ = some (.int .i64 c.P) ∧ y.cell? ⟨c.pb, 13, none⟩ = some (.slice (some ⟨c.ib, 0, none⟩) c.L.body.length c.L.body.length) ∧ y.cell? ⟨c.pb, 14, none⟩ = some (.slice (some ⟨c.tb, 0, none⟩) c.L.body.length c.L.body.length)) ∧ (y.cell? ⟨c.ib, to, none⟩ = some (.bool true)) ∧ (y.cell? ⟨c.tb, to, none⟩ = some (.int .i64 tf)) ∧ (y.cell? ⟨wr.heap.size, 0, none⟩ = some (.int .i64 fr) ∧ y.cell? ⟨wr.heap.size, 1, none⟩ = some (.int .i64 to) ∧ y.cell? ⟨wr.heap.size, 2, none⟩ = some (.int .i64 bk) ∧ y.cell? ⟨wr.heap.size, 3, none⟩ = some (.int .i64 wt))) := fun y hy => by
                  obtain ⟨g1, g2, g3⟩ := HROW.out y (HBAL.out.trans (hy.mono (by omega)))
                  exact ⟨g1, g2, g3, HBOX.out y hy⟩
                obtain ⟨bd, hbd⟩ : ∃ bd, decide (tf < tm + gp) = bd := ⟨_, rfl⟩
                have HBD := hide hbd
                clear h3 f13
                go_wp2_with fail
                refine wp_region_noPanic ?_
                refine region_until 99 (fun w' => (w'.cell? ⟨c.pb, 11, none⟩ = some (.int .i64 c.P) ∧ w'.cell? ⟨c.pb, 13, none⟩ = some (.slice (some ⟨c.ib, 0, none⟩) c.L.body.length c.L.body.length) ∧ w'.cell? ⟨c.pb, 14, none⟩ = some (.slice (some ⟨c.tb, 0, none⟩) c.L.body.length c.L.body.length)) ∧ (w'.cell? ⟨c.ib, to, none⟩ = some (.bool true)) ∧ (w'.cell? ⟨c.tb, to, none⟩ = some (.int .i64 tf)) ∧ (w'.cell? ⟨wr.heap.size, 0, none⟩ = some (.int .i64 fr) ∧ w'.cell? ⟨wr.heap.size, 1, none⟩ = some (.int .i64 to) ∧ w'.cell? ⟨wr.heap.size, 2, none⟩ = some (.int .i64 bk) ∧ w'.cell? ⟨wr.heap.size, 3, none⟩ = some (.int .i64 wt))) (by kernel_rfl) (HSE.out _ (below_dr1 _ _)) (fun hHeld => ?_)
                refine until_take (i := 0) (v := ?_) rfl (by kernel_rfl) (by kernel_rfl) (by kernel_rfl) (by kernel_rfl) (fun _ _ _ h => h) (Or.inl ⟨by rfl, ?_⟩) hHeld ?_
                rotate_left
                · intro w hSw
                  try dsimp only at hSw
                  go_simp
                  try with_reducible rfl
                try simp only [Act.put, List.setIfInBounds_toArray, List.set_cons_zero, List.set_cons_succ]
                refine until_take (i := 1) (v := ?_) rfl (by kernel_rfl) (by kernel_rfl) (by kernel_rfl) (by kernel_rfl) (fun _ _ _ h => h) (Or.inl ⟨by rfl, ?_⟩) hHeld ?_
                rotate_left
                · intro w hSw
                  try dsimp only at hSw
                  go_simp
                  try with_reducible rfl
                try simp only [Act.put, List.setIfInBounds_toArray, List.set_cons_zero, List.set_cons_succ]
                refine until_take (i := 2) (v := ?_) rfl (by kernel_rfl) (by kernel_rfl) (by kernel_rfl) (by kernel_rfl) (fun _ _ _ h => h) (Or.inl ⟨by rfl, ?_⟩) hHeld ?_
                rotate_left
                · intro w hSw
                  try dsimp only at hSw
                  go_simp
                  try with_reducible rfl
                try simp only [Act.put, List.setIfInBounds_toArray, List.set_cons_zero, List.set_cons_succ]
                refine until_take (i := 3) (v := ?_) rfl (by kernel_rfl) (by kernel_rfl) (by kernel_rfl) (by kernel_rfl) (fun _ _ _ h => h) (Or.inl ⟨by rfl, ?_⟩) hHeld ?_
                rotate_left
                · intro w hSw
                  try dsimp only at hSw
                  go_simp
                  try with_reducible rfl
                try simp only [Act.put, List.setIfInBounds_toArray, List.set_cons_zero, List.set_cons_succ]
                refine until_take (i := 4) (v := ?_) rfl (by kernel_rfl) (by kernel_rfl) (by kernel_rfl) (by kernel_rfl) (fun _ _ _ h => h) (Or.inl ⟨by rfl, ?_⟩) hHeld ?_
                rotate_left
                · intro w hSw
                  try dsimp only at hSw
                  go_simp
                  try with_reducible rfl
                try simp only [Act.put, List.setIfInBounds_toArray, List.set_cons_zero, List.set_cons_succ]
                refine until_take (i := 5) (v := ?_) rfl (by kernel_rfl) (by kernel_rfl) (by kernel_rfl) (by kernel_rfl) (fun _ _ _ h => h) (Or.inl ⟨by rfl, ?_⟩) hHeld ?_
                rotate_left
                · intro w hSw
                  try dsimp only at hSw
                  go_simp
                  try with_reducible rfl
                try simp only [Act.put, List.setIfInBounds_toArray, List.set_cons_zero, List.set_cons_succ]
                refine until_take (i := 6) (v := ?_) rfl (by kernel_rfl) (by kernel_rfl) (by kernel_rfl) (by kernel_rfl) (fun _ _ _ h => h) (Or.inl ⟨by rfl, ?_⟩) hHeld ?_
                rotate_left
                · intro w hSw
                  try dsimp only at hSw
                  go_simp
                  try with_reducible rfl
                try simp only [Act.put, List.setIfInBounds_toArray, List.set_cons_zero, List.set_cons_succ]
                refine until_take (i := 7) (v := ?_) rfl (by kernel_rfl) (by kernel_rfl) (by kernel_rfl) (by kernel_rfl) (fun _ _ _ h => h) (Or.inl ⟨by rfl, ?_⟩) hHeld ?_
                rotate_left
                · intro w hSw
                  try dsimp only at hSw
                  go_simp
                  try with_reducible rfl
                try simp only [Act.put, List.setIfInBounds_toArray, List.set_cons_zero, List.set_cons_succ]
                refine until_take (i := 8) (v := ?_) rfl (by kernel_rfl) (by kernel_rfl) (by kernel_rfl) (by kernel_rfl) (fun _ _ _ h => h) (Or.inl ⟨by rfl, ?_⟩) hHeld ?_
                rotate_left
                · intro w hSw
                  try dsimp only at hSw
                  go_simp
                  try with_reducible rfl
                try simp only [Act.put, List.setIfInBounds_toArray, List.set_cons_zero, List.set_cons_succ]
                refine until_take (i := 9) (v := ?_) rfl (by kernel_rfl) (by kernel_rfl) (by kernel_rfl) (by kernel_rfl) (fun _ _ _ h => h) (Or.inl ⟨by rfl, ?_⟩) hHeld ?_
                rotate_left
                · intro w hSw
                  try dsimp only at hSw
                  go_simp
                  try with_reducible rfl
                try simp only [Act.put, List.setIfInBounds_toArray, List.set_cons_zero, List.set_cons_succ]
                refine until_take (i := 10) (v := ?_) rfl (by kernel_rfl) (by kernel_rfl) (by kernel_rfl) (by kernel_rfl) (fun _ _ _ h => h) (Or.inl ⟨by rfl, ?_⟩) hHeld ?_
                rotate_left
                · intro w hSw
                  try dsimp only at hSw
                  go_simp
                  try with_reducible rfl
                try simp only [Act.put, List.setIfInBounds_toArray, List.set_cons_zero, List.set_cons_succ]
                refine until_take (i := 11) (v := ?_) rfl (by kernel_rfl) (by kernel_rfl) (by kernel_rfl) (by kernel_rfl) (fun _ _ _ h => h) (Or.inl ⟨by rfl, ?_⟩) hHeld ?_
                rotate_left
                · intro w hSw
                  try dsimp only at hSw
                  go_simp
                  try with_reducible rfl
                try simp only [Act.put, List.setIfInBounds_toArray, List.set_cons_zero, List.set_cons_succ]
                refine until_take (i := 12) (v := ?_) rfl (by kernel_rfl) (by kernel_rfl) (by kernel_rfl) (by kernel_rfl) (fun _ _ _ h => h) (Or.inl ⟨by rfl, ?_⟩) hHeld ?_
                rotate_left
                · intro w hSw
                  try dsimp only at hSw
                  go_simp
                  try with_reducible rfl
                try simp only [Act.put, List.setIfInBounds_toArray, List.set_cons_zero, List.set_cons_succ]
                refine until_take (i := 13) (v := ?_) rfl (by kernel_rfl) (by kernel_rfl) (by kernel_rfl) (by kernel_rfl) (fun _ _ _ h => h) (Or.inl ⟨by rfl, ?_⟩) hHeld ?_
                rotate_left
                · intro w hSw
                  try dsimp only at hSw
                  go_simp
                  try with_reducible rfl
                try simp only [Act.put, List.setIfInBounds_toArray, List.set_cons_zero, List.set_cons_succ]
                refine until_take (i := 14) (v := ?_) rfl (by kernel_rfl) (by kernel_rfl) (by kernel_rfl) (by kernel_rfl) (fun _ _ _ h => h) (Or.inl ⟨by rfl, ?_⟩) hHeld ?_
                rotate_left
                · intro w hSw
                  try dsimp only at hSw
                  go_simp
                  try with_reducible rfl
                try simp only [Act.put, List.setIfInBounds_toArray, List.set_cons_zero, List.set_cons_succ]
                refine until_take (i := 15) (v := ?_) rfl (by kernel_rfl) (by kernel_rfl) (by kernel_rfl) (by kernel_rfl) (fun _ _ _ h => h) (Or.inl ⟨by rfl, ?_⟩) hHeld ?_
                rotate_left
                · intro w hSw
                  try dsimp only at hSw
                  go_simp
                  try with_reducible rfl
                try simp only [Act.put, List.setIfInBounds_toArray, List.set_cons_zero, List.set_cons_succ]
                refine until_take (i := 16) (v := ?_) rfl (by kernel_rfl) (by kernel_rfl) (by kernel_rfl) (by kernel_rfl) (fun _ _ _ h => h) (Or.inl ⟨by rfl, ?_⟩) hHeld ?_
                rotate_left
                · intro w hSw
                  try dsimp only at hSw
                  go_simp
                  try with_reducible rfl
                try simp only [Act.put, List.setIfInBounds_toArray, List.set_cons_zero, List.set_cons_succ]
                refine until_take (i := 17) (v := ?_) rfl (by kernel_rfl) (by kernel_rfl) (by kernel_rfl) (by kernel_rfl) (fun _ _ _ h => h) (Or.inl ⟨by rfl, ?_⟩) hHeld ?_
                rotate_left
                · intro w hSw
                  try dsimp only at hSw
                  go_simp
                  try with_reducible rfl
                try simp only [Act.put, List.setIfInBounds_toArray, List.set_cons_zero, List.set_cons_succ]
                refine until_take (i := 18) (v := ?_) rfl (by kernel_rfl) (by kernel_rfl) (by kernel_rfl) (by kernel_rfl) (fun _ _ _ h => h) (Or.inl ⟨by rfl, ?_⟩) hHeld ?_
                rotate_left
                · intro w hSw
                  try dsimp only at hSw
                  go_simp
                  try with_reducible rfl
                try simp only [Act.put, List.setIfInBounds_toArray, List.set_cons_zero, List.set_cons_succ]
                refine until_take (i := 19) (v := ?_) rfl (by kernel_rfl) (by kernel_rfl) (by kernel_rfl) (by kernel_rfl) (fun _ _ _ h => h) (Or.inl ⟨by rfl, ?_⟩) hHeld ?_
                rotate_left
                · intro w hSw
                  try dsimp only at hSw
                  go_simp
                  try with_reducible rfl
                try simp only [Act.put, List.setIfInBounds_toArray, List.set_cons_zero, List.set_cons_succ]
                refine until_take (i := 20) (v := ?_) rfl (by kernel_rfl) (by kernel_rfl) (by kernel_rfl) (by kernel_rfl) (fun _ _ _ h => h) (Or.inl ⟨by rfl, ?_⟩) hHeld ?_
                rotate_left
                · intro w hSw
                  try dsimp only at hSw
                  go_simp
                  try with_reducible rfl
                try simp only [Act.put, List.setIfInBounds_toArray, List.set_cons_zero, List.set_cons_succ]
                refine until_take (i := 21) (v := ?_) rfl (by kernel_rfl) (by kernel_rfl) (by kernel_rfl) (by kernel_rfl) (fun _ _ _ h => h) (Or.inl ⟨by rfl, ?_⟩) hHeld ?_
                rotate_left
                · intro w hSw
                  try dsimp only at hSw
                  go_simp
                  try with_reducible rfl
                try simp only [Act.put, List.setIfInBounds_toArray, List.set_cons_zero, List.set_cons_succ]
                refine until_take (i := 22) (v := ?_) rfl (by kernel_rfl) (by kernel_rfl) (by kernel_rfl) (by kernel_rfl) (fun _ _ _ h => h) (Or.inl ⟨by rfl, ?_⟩) hHeld ?_
                rotate_left
                · intro w hSw
                  try dsimp only at hSw
                  go_simp
                  try with_reducible rfl
                try simp only [Act.put, List.setIfInBounds_toArray, List.set_cons_zero, List.set_cons_succ]
                refine until_take (i := 23) (v := ?_) rfl (by kernel_rfl) (by kernel_rfl) (by kernel_rfl) (by kernel_rfl) (fun _ _ _ h => h) (Or.inl ⟨by rfl, ?_⟩) hHeld ?_
                rotate_left
                · intro w hSw
                  try dsimp only at hSw
                  go_simp
                  try with_reducible rfl
                try simp only [Act.put, List.setIfInBounds_toArray, List.set_cons_zero, List.set_cons_succ]
                refine until_take (i := 24) (v := ?_) rfl (by kernel_rfl) (by kernel_rfl) (by kernel_rfl) (by kernel_rfl) (fun _ _ _ h => h) (Or.inl ⟨by rfl, ?_⟩) hHeld ?_
                rotate_left
                · intro w hSw
                  try dsimp only at hSw
                  go_simp
                  try with_reducible rfl
                try simp only [Act.put, List.setIfInBounds_toArray, List.set_cons_zero, List.set_cons_succ]
                refine until_take (i := 25) (v := ?_) rfl (by kernel_rfl) (by kernel_rfl) (by kernel_rfl) (by kernel_rfl) (fun _ _ _ h => h) (Or.inl ⟨by rfl, ?_⟩) hHeld ?_
                rotate_left
                · intro w hSw
                  try dsimp only at hSw
                  go_simp
                  try with_reducible rfl
                try simp only [Act.put, List.setIfInBounds_toArray, List.set_cons_zero, List.set_cons_succ]
                refine until_take (i := 26) (v := ?_) rfl (by kernel_rfl) (by kernel_rfl) (by kernel_rfl) (by kernel_rfl) (fun _ _ _ h => h) (Or.inl ⟨by rfl, ?_⟩) hHeld ?_
                rotate_left
                · intro w hSw
                  try dsimp only at hSw
                  go_simp
                  try with_reducible rfl
                try simp only [Act.put, List.setIfInBounds_toArray, List.set_cons_zero, List.set_cons_succ]
                refine until_take (i := 27) (v := ?_) rfl (by kernel_rfl) (by kernel_rfl) (by kernel_rfl) (by kernel_rfl) (fun _ _ _ h => h) (Or.inl ⟨by rfl, ?_⟩) hHeld ?_
                rotate_left
                · intro w hSw
                  try dsimp only at hSw
                  go_simp
                  try with_reducible rfl
                try simp only [Act.put, List.setIfInBounds_toArray, List.set_cons_zero, List.set_cons_succ]
                refine until_take (i := 28) (v := ?_) rfl (by kernel_rfl) (by kernel_rfl) (by kernel_rfl) (by kernel_rfl) (fun _ _ _ h => h) (Or.inl ⟨by rfl, ?_⟩) hHeld ?_
                rotate_left
                · intro w hSw
                  try dsimp only at hSw
                  go_simp
                  try with_reducible rfl
                try simp only [Act.put, List.setIfInBounds_toArray, List.set_cons_zero, List.set_cons_succ]
                refine until_one (i := 29) rfl (by kernel_rfl) (fun K hK => ?_)
                go_simp
                refine (HGAP.out _).mono ?_
                rintro e x4 ⟨rfl, hb4⟩
                have HB4 : Hid (Below (wr.heap.size + 1) (wr.alloc (.cells #[.int .i64 fr, .int .i64 to, .int .i64 bk, .int .i64 wt] 77)) x4) := (below_dr1 _ _).trans (hb4.mono (by show _ ≤ (wr.alloc (.cells #[.int .i64 fr, .int .i64 to, .int .i64 bk, .int .i64 wt] 77)).heap.size; rw [HS.out]; exact Nat.le_refl _))
                have hHeld := HSE.out _ HB4.out
                clear hb4
                refine hK.out _ _ (.inr hHeld) ?_
                clear hK K
                try simp only [Act.put, List.setIfInBounds_toArray, List.set_cons_zero, List.set_cons_succ]
                refine until_take (i := 30) (v := ?_) rfl (by kernel_rfl) (by kernel_rfl) (by kernel_rfl) (by kernel_rfl) (fun _ _ _ h => h) (Or.inl ⟨by rfl, ?_⟩) hHeld ?_
                rotate_left
                · intro w hSw
                  try dsimp only at hSw
                  go_simp
                  try with_reducible rfl
                try simp only [Act.put, List.setIfInBounds_toArray, List.set_cons_zero, List.set_cons_succ]
                refine until_take (i := 31) (v := ?_) rfl (by kernel_rfl) (by kernel_rfl) (by kernel_rfl) (by kernel_rfl) (fun _ _ _ h => h) (Or.inl ⟨by rfl, ?_⟩) hHeld ?_
                rotate_left
                · intro w hSw
                  try dsimp only at hSw
                  go_simp
                  try with_reducible rfl
                try simp only [Act.put, List.setIfInBounds_toArray, List.set_cons_zero, List.set_cons_succ]
                refine until_take (i := 32) (v := ?_) rfl (by kernel_rfl) (by kernel_rfl) (by kernel_rfl) (by kernel_rfl) (fun _ _ _ h => h) (Or.inl ⟨by rfl, ?_⟩) hHeld ?_
                rotate_left
                · intro w hSw
                  try dsimp only at hSw
                  go_simp
                  try with_reducible rfl
                try simp only [Act.put, List.setIfInBounds_toArray, List.set_cons_zero, List.set_cons_succ]
                refine until_done (by kernel_rfl) ?_ _
                refine NoPanic.normal ?_
                have HB5 : Hid (Below wr.heap.size wr x4) := HBAL.out.trans (HB4.out.mono (by omega))
                obtain ⟨g1, g2, g3⟩ := hHeld
                clear g1 g2 hHeld
                obtain ⟨x0, x1', x2', x3'⟩ := HBOX.out _ HB4.out
                clear x0 x2' x3' g3
                cases bd with
                | true =>
                  go_wp2_with fail
                  obtain ⟨q2, hm2, hq2⟩ := HMAP.out
                  refine (HTK.out x4 q2 HB5.out (hm2.below HB5.out) hq2).mono ?_
                  rintro e x5 ⟨rfl, hr5, hm5⟩
                  have HF := hide (HOUT.out x5 q2 (by first | rfl | trivial) hr5 hq2 hm5)
                  clear hr5 hm5 hm2 hq2
                  go_wp2_with fail
                  go_roundw
                  case rel => exact ⟨k + 1, _, by omega, by go_num, HF.out⟩
                  case measure => simp [intOf]; omega
                | false =>
                  have HF := hide (HNX.out x4 HB5.out (fun _ _ => by have := of_decide_eq_false HBD.out; omega))
                  go_wp2_with fail
                  go_roundw
                  case rel => exact ⟨k + 1, I2, by omega, by go_num, HF.out⟩
                  case measure => simp [intOf]; omega
            · have htd2 : ¬ (fr : Int) = (a : Int) := by omega
              have htd4 : ((fr : Int) == (a : Int)) = false := beq_false_of_ne htd2
              go_wp2_with fail
              go_big_quiet ((fail))
              go_wp2_with fail
              go_roundw
              case rel => exact ⟨k + 1, I2, by omega, by go_num, HNX.out _ (HBAL.out.trans (below_draws _ _ _)) (fun h => absurd h hta)⟩
              case measure => simp [intOf]; omega
          · have e : k = es.length := by omega
            subst e
            have hki : ¬ (es.length : Int) < (es.length : Int) := by omega
            have HF : Hid (PutP c N (.returned (.bool true)) wr) := .inr ⟨rfl, I2, T1, N1, hst.anyk (by rw [HES.out]; exact Nat.le_refl _), HSUM.out⟩
            clear hst
            go_wp2_with fail
            exact bodyPost_ret (v := .bool true) (by simp [results, Try.results67, go_sem]) rfl HF.out
    · have hgt : 1000 < tm := by omega
      have HF := hide (HFAIL.out wr HB.out)
      go_wp2_with fail
      exact bodyPost_ret (v := .bool false) (by simp [results, Try.results67, go_sem]) rfl HF.out
end Go.Proofs.Yteijdgeaegpdmab
