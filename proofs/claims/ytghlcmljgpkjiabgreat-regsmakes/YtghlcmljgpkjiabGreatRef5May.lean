/- The contract of the document's own answer on whether a kernel may be; nothing that was there is changed. -/
import Derived.Test.YtghlcmljgpkjiabGreatRef5Two
import Derived.Test.YtghlcmljgpkjiabGreatRef6A
import Derived.Test.YtghlcmljgpkjiabGreatKernS
import Derived.Test.YtghlcmljgpkjiabGreatBase
import Derived.Deep.RegionHeld3
import Derived.BigRegion
import Derived.Deep.QuietTactic
import Derived.BigQuiet
namespace Go.Proofs.YtghlcmljgpkjiabGreat
open Go.RowKit Go.Joins
set_option linter.unusedVariables false
set_option linter.unusedSimpArgs false

/-- the world in which the machine and the kernel are boxed -/
def bxk (w : World) (p0 p1 p2 q0 q1 q2 r pc st : Int) (ka : Option Addr) (kl kc : Nat) : World := (w.alloc (.cells #[.int .i64 p0, .int .i64 p1, .int .i64 p2, .int .i64 q0, .int .i64 q1, .int .i64 q2, .int .i64 r] 28)).alloc (.cells #[.int .i64 pc, .int .i64 st, .slice ka kl kc] 31)
theorem bxk_size (w : World) (p0 p1 p2 q0 q1 q2 r pc st : Int) (ka : Option Addr) (kl kc : Nat) : (bxk w p0 p1 p2 q0 q1 q2 r pc st ka kl kc).heap.size = w.heap.size + 1 + 1 := by unfold bxk; simp
theorem bxk_below (w : World) (p0 p1 p2 q0 q1 q2 r pc st : Int) (ka : Option Addr) (kl kc : Nat) : Below w.heap.size w (bxk w p0 p1 p2 q0 q1 q2 r pc st ka kl kc) := below_alloc2 _ _ _
theorem bxk_cells {w wr : World} {p0 p1 p2 q0 q1 q2 r pc st : Int} {ka : Option Addr} {kl kc : Nat} (h : Below (w.heap.size + 1 + 1) (bxk w p0 p1 p2 q0 q1 q2 r pc st ka kl kc) wr) :
    (wr.cell? ⟨w.heap.size, 0, none⟩ = some (.int .i64 p0) ∧ wr.cell? ⟨w.heap.size, 1, none⟩ = some (.int .i64 p1) ∧ wr.cell? ⟨w.heap.size, 2, none⟩ = some (.int .i64 p2) ∧ wr.cell? ⟨w.heap.size, 3, none⟩ = some (.int .i64 q0) ∧ wr.cell? ⟨w.heap.size, 4, none⟩ = some (.int .i64 q1) ∧ wr.cell? ⟨w.heap.size, 5, none⟩ = some (.int .i64 q2) ∧ wr.cell? ⟨w.heap.size, 6, none⟩ = some (.int .i64 r)) ∧ wr.cell? ⟨w.heap.size + 1, 0, none⟩ = some (.int .i64 pc) ∧ wr.cell? ⟨w.heap.size + 1, 1, none⟩ = some (.int .i64 st) ∧ wr.cell? ⟨w.heap.size + 1, 2, none⟩ = some (.slice ka kl kc) ∧
      w.heap.size < wr.heap.size ∧ w.heap.size + 1 < wr.heap.size ∧ Below w.heap.size w wr := by
  have hz := h.size
  rw [bxk_size] at hz
  have c0 : ∀ o, wr.cell? ⟨w.heap.size, o, none⟩ = (bxk w p0 p1 p2 q0 q1 q2 r pc st ka kl kc).cell? ⟨w.heap.size, o, none⟩ := fun o => h.cell (p := ⟨w.heap.size, o, none⟩) (by show w.heap.size < _; omega)
  have c1 : ∀ o, wr.cell? ⟨w.heap.size + 1, o, none⟩ = (bxk w p0 p1 p2 q0 q1 q2 r pc st ka kl kc).cell? ⟨w.heap.size + 1, o, none⟩ := fun o => h.cell (p := ⟨w.heap.size + 1, o, none⟩) (by show w.heap.size + 1 < _; omega)
  refine ⟨⟨?_, ?_, ?_, ?_, ?_, ?_, ?_⟩, ?_, ?_, ?_, by omega, by omega, (bxk_below w p0 p1 p2 q0 q1 q2 r pc st ka kl kc).trans (h.mono (by omega))⟩
  all_goals first | rw [c0] | rw [c1]
  all_goals (unfold bxk; go_simp)

set_option maxHeartbeats 1000000 in
theorem kmay_no (p0 p1 p2 q0 q1 q2 r pc st : Int) (ka : Option Addr) (kc : Nat) (ops : List Kop) (la : Option Addr) (lc : Nat) (logs : List Int) (w : World) (hm : ops.length ≤ kc) (hc : kc ≤ maxLen) (h : mayT ⟨p0, p1, p2, q0, q1, q2, r⟩ = false ∨ inR pc 1 200 = false ∨ inR st 1 1001 = false ∨ inR ops.length 1 16 = false) :
    Calls Tryz.prog 26 #[.agg #[.int .i64 p0, .int .i64 p1, .int .i64 p2, .int .i64 q0, .int .i64 q1, .int .i64 q2, .int .i64 r], .agg #[.int .i64 pc, .int .i64 st, .slice ka ops.length kc], .slice la logs.length lc] w fun e w' => e = .returned (.bool (mayK ⟨p0, p1, p2, q0, q1, q2, r⟩ ⟨pc, st, ops⟩ logs)) ∧ Below w.heap.size w w' := by
  have HX := hide (mayK_no (t := ⟨p0, p1, p2, q0, q1, q2, r⟩) (K := ⟨pc, st, ops⟩) (logs := logs) h)
  unfold maxLen at hc
  have hmay := tmay_seven p0 p1 p2 q0 q1 q2 r (bxk w p0 p1 p2 q0 q1 q2 r pc st ka ops.length kc)
  cases ht : mayT ⟨p0, p1, p2, q0, q1, q2, r⟩ with
  | false =>
    rw [ht] at hmay
    clear ht
    have HM := hide hmay
    clear hmay h
    go_enter Tryz.func26, Tryz.ntmps26
    go_wp2_with fail
    refine HM.out.mono ?_
    rintro e x1 ⟨rfl, hb⟩
    rw [bxk_size] at hb
    obtain ⟨-, e1, e2, e3, z0, z1, hbw⟩ := bxk_cells hb
    have HB := hide hbw
    clear hb HM hbw
    go_wp2_with (go_at_call 66; refine (rwithin_any _ _ _ _).mono ?_; rintro e w' ⟨rfl, rfl⟩)
    go_ret
    exact ⟨ret_bool HX.out.symm, HB.out⟩
  | true =>
    rw [ht] at hmay
    cases h1 : inR pc 1 200 with
    | false =>
      clear ht
      have HM := hide hmay
      clear hmay h
      go_enter Tryz.func26, Tryz.ntmps26
      go_wp2_with fail
      refine HM.out.mono ?_
      rintro e x1 ⟨rfl, hb⟩
      rw [bxk_size] at hb
      obtain ⟨-, e1, e2, e3, z0, z1, hbw⟩ := bxk_cells hb
      have HB := hide hbw
      clear hb HM hbw
      go_wp2_with (go_at_call 66; refine (rwithin_any _ _ _ _).mono ?_; rintro e w' ⟨rfl, rfl⟩)
      go_ret
      exact ⟨ret_bool HX.out.symm, HB.out⟩
    | true =>
      cases h2 : inR st 1 1001 with
      | false =>
        clear ht
        have HM := hide hmay
        clear hmay h
        go_enter Tryz.func26, Tryz.ntmps26
        go_wp2_with fail
        refine HM.out.mono ?_
        rintro e x1 ⟨rfl, hb⟩
        rw [bxk_size] at hb
        obtain ⟨-, e1, e2, e3, z0, z1, hbw⟩ := bxk_cells hb
        have HB := hide hbw
        clear hb HM hbw
        go_wp2_with (go_at_call 66; refine (rwithin_any _ _ _ _).mono ?_; rintro e w' ⟨rfl, rfl⟩)
        go_ret
        exact ⟨ret_bool HX.out.symm, HB.out⟩
      | true =>
        have h3 : inR ops.length 1 16 = false := by rcases h with h | h | h | h <;> simp_all
        clear ht
        have HM := hide hmay
        clear hmay h
        go_enter Tryz.func26, Tryz.ntmps26
        go_wp2_with fail
        refine HM.out.mono ?_
        rintro e x1 ⟨rfl, hb⟩
        rw [bxk_size] at hb
        obtain ⟨-, e1, e2, e3, z0, z1, hbw⟩ := bxk_cells hb
        have HB := hide hbw
        clear hb HM hbw
        go_wp2_with (go_at_call 66; refine (rwithin_any _ _ _ _).mono ?_; rintro e w' ⟨rfl, rfl⟩)
        go_ret
        exact ⟨ret_bool HX.out.symm, HB.out⟩

set_option maxHeartbeats 4000000 in
theorem kmay_all (p0 p1 p2 q0 q1 q2 r pc st : Int) (ka : Option Addr) (kc : Nat) (ops : List Kop) (la : Option Addr) (lc : Nat) (logs : List Int) (w : World) (hm : ops.length ≤ kc) (hc : kc ≤ maxLen) (hO : OpsV w (.slice ka ops.length kc) ops) (hlog : Ints w (.slice la logs.length lc) logs) (ht : mayT ⟨p0, p1, p2, q0, q1, q2, r⟩ = true) (h1 : inR pc 1 200 = true) (h2 : inR st 1 1001 = true) (h3 : inR ops.length 1 16 = true) :
    Calls Tryz.prog 26 #[.agg #[.int .i64 p0, .int .i64 p1, .int .i64 p2, .int .i64 q0, .int .i64 q1, .int .i64 q2, .int .i64 r], .agg #[.int .i64 pc, .int .i64 st, .slice ka ops.length kc], .slice la logs.length lc] w fun e w' => e = .returned (.bool (mayK ⟨p0, p1, p2, q0, q1, q2, r⟩ ⟨pc, st, ops⟩ logs)) ∧ Below w.heap.size w w' := by
  have HX := hide (mayK_all (t := ⟨p0, p1, p2, q0, q1, q2, r⟩) (K := ⟨pc, st, ops⟩) (logs := logs) ht h1 h2 h3)
  obtain ⟨i1, i2⟩ := inR_iff.1 h1
  obtain ⟨i3, i4⟩ := inR_iff.1 h2
  obtain ⟨i5, i6⟩ := inR_iff.1 h3
  have hmay := tmay_seven p0 p1 p2 q0 q1 q2 r (bxk w p0 p1 p2 q0 q1 q2 r pc st ka ops.length kc)
  rw [ht] at hmay
  have HM := hide hmay
  unfold maxLen at hc
  obtain ⟨a9, c9, hv9, -, -, hcell9⟩ := hO
  injection hv9 with e9a e9b e9c
  subst e9a; subst e9c
  obtain ⟨b0, of0, rfl, hb0, hcell⟩ := hcell9 (by omega)
  have HC := hide hcell
  clear hmay ht hcell9 hcell
  go_enter Tryz.func26, Tryz.ntmps26
  go_wp2_with fail
  refine HM.out.mono ?_
  rintro e x1 ⟨rfl, hb⟩
  rw [bxk_size] at hb
  obtain ⟨-, e1, e2, e3, z0, z1, hbw⟩ := bxk_cells hb
  have HB := hide hb
  clear hb HM hbw
  go_wp2_with (go_at_call 66; refine (rwithin_any _ _ _ _).mono ?_; rintro e w' ⟨rfl, rfl⟩)
  go_loopw [7] (fun i wr => ∃ k : Nat, k ≤ ops.length ∧ i = .int .i64 k ∧ allN (fun i => oneOk r pc st logs (opAt ops i) && decide ((manyK ops i : Int) ≤ unitsT ⟨p0, p1, p2, q0, q1, q2, r⟩ (clsv (opAt ops i).o))) k = true ∧ Below (w.heap.size + 1 + 1) (bxk w p0 p1 p2 q0 q1 q2 r pc st (some ⟨b0, of0, none⟩) ops.length kc) wr) (fun i _ => ops.length - (intOf i).toNat)
  case atStart => exact ⟨0, Nat.zero_le _, rfl, rfl, HB.out⟩
  case round =>
    clear e1 e2 e3 z0 z1 HB
    obtain ⟨i, hi, rfl, hall, hbx⟩ := hrel
    have HA := hide hall
    have HBX := hide hbx
    obtain ⟨⟨t0, t1, t2, t3, t4, t5, t6⟩, e1, e2, e3, z0, z1, hbw⟩ := bxk_cells hbx
    have HBW := hide hbw
    have hwz := hbw.size
    clear hall hbx
    by_cases hil : i < ops.length
    · have hii : (i : Int) < (ops.length : Int) := by omega
      obtain ⟨k0, k1, k2, k3, k4, k5, k6, k7, k8, k9⟩ := ten (HC.out i hil)
      rw [← bcell hbw _ _ hb0] at k0 k1 k2 k3 k4 k5 k6 k7 k8 k9
      have hbz : b0 < wr.heap.size := by omega
      have hlw : Ints wr.drew (.slice la logs.length lc) logs := hlog.below (hbw.drew)
      generalize hx : opAt ops i = x at *
      have HXX := hide hx
      obtain ⟨sl, sg, o, d, a, b, ar, sp, pl, nn⟩ := x
      simp only at k0 k1 k2 k3 k4 k5 k6 k7 k8 k9
      have hone := one_any p0 p1 p2 q0 q1 q2 r pc st (some ⟨b0, of0, none⟩) ops.length kc sl sg o d a b ar sp pl nn la lc logs _ hlw i1 i2 i3 i4
      have HSb : Hid (∀ W : World, Below wr.heap.size wr W → W.cell? ⟨w.heap.size, 0, none⟩ = some (.int .i64 p0) ∧ W.cell? ⟨w.heap.size, 1, none⟩ = some (.int .i64 p1) ∧ W.cell? ⟨w.heap.size, 2, none⟩ = some (.int .i64 p2) ∧ W.cell? ⟨w.heap.size, 3, none⟩ = some (.int .i64 q0) ∧ W.cell? ⟨w.heap.size, 4, none⟩ = some (.int .i64 q1) ∧ W.cell? ⟨w.heap.size, 5, none⟩ = some (.int .i64 q2) ∧ W.cell? ⟨w.heap.size, 6, none⟩ = some (.int .i64 r) ∧ W.cell? ⟨w.heap.size + 1, 0, none⟩ = some (.int .i64 pc) ∧ W.cell? ⟨w.heap.size + 1, 1, none⟩ = some (.int .i64 st) ∧ W.cell? ⟨w.heap.size + 1, 2, none⟩ = some (.slice (some ⟨b0, of0, none⟩) ops.length kc) ∧ W.cell? ⟨b0, of0 + i * 10, none⟩ = some (.int .i64 sl) ∧ W.cell? ⟨b0, of0 + i * 10 + 1, none⟩ = some (.int .i64 sg) ∧ W.cell? ⟨b0, of0 + i * 10 + 2, none⟩ = some (.int .i64 o) ∧ W.cell? ⟨b0, of0 + i * 10 + 3, none⟩ = some (.int .i64 d) ∧ W.cell? ⟨b0, of0 + i * 10 + 4, none⟩ = some (.int .i64 a) ∧ W.cell? ⟨b0, of0 + i * 10 + 5, none⟩ = some (.int .i64 b) ∧ W.cell? ⟨b0, of0 + i * 10 + 6, none⟩ = some (.int .i64 ar) ∧ W.cell? ⟨b0, of0 + i * 10 + 7, none⟩ = some (.int .i64 sp) ∧ W.cell? ⟨b0, of0 + i * 10 + 8, none⟩ = some (.int .i64 pl) ∧ W.cell? ⟨b0, of0 + i * 10 + 9, none⟩ = some (.int .i64 nn)) := fun W hW => by
        have c := bcell hW
        rw [c _ _ z0, c _ _ z0, c _ _ z0, c _ _ z0, c _ _ z0, c _ _ z0, c _ _ z0, c _ _ z1, c _ _ z1, c _ _ z1, c _ _ hbz, c _ _ hbz, c _ _ hbz, c _ _ hbz, c _ _ hbz, c _ _ hbz, c _ _ hbz, c _ _ hbz, c _ _ hbz, c _ _ hbz]
        exact ⟨t0, t1, t2, t3, t4, t5, t6, e1, e2, e3, k0, k1, k2, k3, k4, k5, k6, k7, k8, k9⟩
      have HBL := hide hbw
      clear hx hbw hlw
      cases hok : oneOk r pc st logs ⟨sl, sg, o, d, a, b, ar, sp, pl, nn⟩ with
      | false =>
        rw [hok] at hone
        have HON := hide hone
        have HR : Hid (mayK ⟨p0, p1, p2, q0, q1, q2, r⟩ ⟨pc, st, ops⟩ logs = false) := by
          show _ = _
          rw [HX.out]
          refine allN_false (k := i) hil ?_
          show (oneOk r pc st logs (opAt ops i) && _) = false
          rw [HXX.out, hok]; rfl
        clear hone hok
        go_wp2_with fail
        clear t0 t1 t2 t3 t4 t5 t6 e1 e2 e3 k0 k1 k2 k3 k4 k5 k6 k7 k8 k9
        refine wp_region_noPanic ?_
        refine region_until 99 (fun w' => w'.cell? ⟨w.heap.size, 0, none⟩ = some (.int .i64 p0) ∧ w'.cell? ⟨w.heap.size, 1, none⟩ = some (.int .i64 p1) ∧ w'.cell? ⟨w.heap.size, 2, none⟩ = some (.int .i64 p2) ∧ w'.cell? ⟨w.heap.size, 3, none⟩ = some (.int .i64 q0) ∧ w'.cell? ⟨w.heap.size, 4, none⟩ = some (.int .i64 q1) ∧ w'.cell? ⟨w.heap.size, 5, none⟩ = some (.int .i64 q2) ∧ w'.cell? ⟨w.heap.size, 6, none⟩ = some (.int .i64 r) ∧ w'.cell? ⟨w.heap.size + 1, 0, none⟩ = some (.int .i64 pc) ∧ w'.cell? ⟨w.heap.size + 1, 1, none⟩ = some (.int .i64 st) ∧ w'.cell? ⟨w.heap.size + 1, 2, none⟩ = some (.slice (some ⟨b0, of0, none⟩) ops.length kc) ∧ w'.cell? ⟨b0, of0 + i * 10, none⟩ = some (.int .i64 sl) ∧ w'.cell? ⟨b0, of0 + i * 10 + 1, none⟩ = some (.int .i64 sg) ∧ w'.cell? ⟨b0, of0 + i * 10 + 2, none⟩ = some (.int .i64 o) ∧ w'.cell? ⟨b0, of0 + i * 10 + 3, none⟩ = some (.int .i64 d) ∧ w'.cell? ⟨b0, of0 + i * 10 + 4, none⟩ = some (.int .i64 a) ∧ w'.cell? ⟨b0, of0 + i * 10 + 5, none⟩ = some (.int .i64 b) ∧ w'.cell? ⟨b0, of0 + i * 10 + 6, none⟩ = some (.int .i64 ar) ∧ w'.cell? ⟨b0, of0 + i * 10 + 7, none⟩ = some (.int .i64 sp) ∧ w'.cell? ⟨b0, of0 + i * 10 + 8, none⟩ = some (.int .i64 pl) ∧ w'.cell? ⟨b0, of0 + i * 10 + 9, none⟩ = some (.int .i64 nn)) (by kernel_rfl) (HSb.out _ ((Below.refl _ _).drew)) (fun hHeld => ?_)
        refine utk (i := 0) rfl hHeld ?_
        try simp only [Act.put, List.setIfInBounds_toArray, List.set_cons_zero, List.set_cons_succ]
        refine utk (i := 1) rfl hHeld ?_
        try simp only [Act.put, List.setIfInBounds_toArray, List.set_cons_zero, List.set_cons_succ]
        refine utk (i := 2) rfl hHeld ?_
        try simp only [Act.put, List.setIfInBounds_toArray, List.set_cons_zero, List.set_cons_succ]
        refine utk (i := 3) rfl hHeld ?_
        try simp only [Act.put, List.setIfInBounds_toArray, List.set_cons_zero, List.set_cons_succ]
        refine utk (i := 4) rfl hHeld ?_
        try simp only [Act.put, List.setIfInBounds_toArray, List.set_cons_zero, List.set_cons_succ]
        refine utk (i := 5) rfl hHeld ?_
        try simp only [Act.put, List.setIfInBounds_toArray, List.set_cons_zero, List.set_cons_succ]
        refine utk (i := 6) rfl hHeld ?_
        try simp only [Act.put, List.setIfInBounds_toArray, List.set_cons_zero, List.set_cons_succ]
        refine utk (i := 7) rfl hHeld ?_
        try simp only [Act.put, List.setIfInBounds_toArray, List.set_cons_zero, List.set_cons_succ]
        refine until_one (i := 8) rfl (by kernel_rfl) (fun K hK => ?_)
        go_simp
        refine HON.out.mono ?_
        rintro e x2 ⟨rfl, hb2⟩
        have hb3 : Below wr.heap.size wr x2 := ((Below.refl _ _).drew).trans hb2
        have HB3 := hide hb3
        clear hb2 hb3 hHeld HON
        have hHeld := HSb.out _ HB3.out
        refine hK.out _ _ (.inr hHeld) ?_
        clear hK K
        try simp only [Act.put, List.setIfInBounds_toArray, List.set_cons_zero, List.set_cons_succ]
        refine utk (i := 9) rfl hHeld ?_
        try simp only [Act.put, List.setIfInBounds_toArray, List.set_cons_zero, List.set_cons_succ]
        refine until_done (by kernel_rfl) ?_ _
        refine NoPanic.normal ?_
        clear hHeld
        go_wp2_with fail
        go_ret
        exact ⟨ret_bool HR.out.symm, HBW.out.trans (HB3.out.mono (by omega))⟩
      | true =>
        rw [hok] at hone
        have HON := hide hone
        have HOK := hide hok
        obtain ⟨cn, hcn, hc3⟩ : ∃ n : Nat, clsv o = (n : Int) ∧ n < 3 := by
          rcases cls_three o with h | h | h
          · exact ⟨0, h, by omega⟩
          · exact ⟨1, h, by omega⟩
          · exact ⟨2, h, by omega⟩
        have hcl := fun W => refClass_any o W
        rw [hcn] at hcl
        have HCL := hide hcl
        have HCN := hide hcn
        clear hone hok hcl hcn
        go_wp2_with fail
        clear t0 t1 t2 t3 t4 t5 t6 e1 e2 e3 k0 k1 k2 k3 k4 k5 k6 k7 k8 k9
        refine wp_region_noPanic ?_
        refine region_until 99 (fun w' => w'.cell? ⟨w.heap.size, 0, none⟩ = some (.int .i64 p0) ∧ w'.cell? ⟨w.heap.size, 1, none⟩ = some (.int .i64 p1) ∧ w'.cell? ⟨w.heap.size, 2, none⟩ = some (.int .i64 p2) ∧ w'.cell? ⟨w.heap.size, 3, none⟩ = some (.int .i64 q0) ∧ w'.cell? ⟨w.heap.size, 4, none⟩ = some (.int .i64 q1) ∧ w'.cell? ⟨w.heap.size, 5, none⟩ = some (.int .i64 q2) ∧ w'.cell? ⟨w.heap.size, 6, none⟩ = some (.int .i64 r) ∧ w'.cell? ⟨w.heap.size + 1, 0, none⟩ = some (.int .i64 pc) ∧ w'.cell? ⟨w.heap.size + 1, 1, none⟩ = some (.int .i64 st) ∧ w'.cell? ⟨w.heap.size + 1, 2, none⟩ = some (.slice (some ⟨b0, of0, none⟩) ops.length kc) ∧ w'.cell? ⟨b0, of0 + i * 10, none⟩ = some (.int .i64 sl) ∧ w'.cell? ⟨b0, of0 + i * 10 + 1, none⟩ = some (.int .i64 sg) ∧ w'.cell? ⟨b0, of0 + i * 10 + 2, none⟩ = some (.int .i64 o) ∧ w'.cell? ⟨b0, of0 + i * 10 + 3, none⟩ = some (.int .i64 d) ∧ w'.cell? ⟨b0, of0 + i * 10 + 4, none⟩ = some (.int .i64 a) ∧ w'.cell? ⟨b0, of0 + i * 10 + 5, none⟩ = some (.int .i64 b) ∧ w'.cell? ⟨b0, of0 + i * 10 + 6, none⟩ = some (.int .i64 ar) ∧ w'.cell? ⟨b0, of0 + i * 10 + 7, none⟩ = some (.int .i64 sp) ∧ w'.cell? ⟨b0, of0 + i * 10 + 8, none⟩ = some (.int .i64 pl) ∧ w'.cell? ⟨b0, of0 + i * 10 + 9, none⟩ = some (.int .i64 nn)) (by kernel_rfl) (HSb.out _ ((Below.refl _ _).drew)) (fun hHeld => ?_)
        refine utk (i := 0) rfl hHeld ?_
        try simp only [Act.put, List.setIfInBounds_toArray, List.set_cons_zero, List.set_cons_succ]
        refine utk (i := 1) rfl hHeld ?_
        try simp only [Act.put, List.setIfInBounds_toArray, List.set_cons_zero, List.set_cons_succ]
        refine utk (i := 2) rfl hHeld ?_
        try simp only [Act.put, List.setIfInBounds_toArray, List.set_cons_zero, List.set_cons_succ]
        refine utk (i := 3) rfl hHeld ?_
        try simp only [Act.put, List.setIfInBounds_toArray, List.set_cons_zero, List.set_cons_succ]
        refine utk (i := 4) rfl hHeld ?_
        try simp only [Act.put, List.setIfInBounds_toArray, List.set_cons_zero, List.set_cons_succ]
        refine utk (i := 5) rfl hHeld ?_
        try simp only [Act.put, List.setIfInBounds_toArray, List.set_cons_zero, List.set_cons_succ]
        refine utk (i := 6) rfl hHeld ?_
        try simp only [Act.put, List.setIfInBounds_toArray, List.set_cons_zero, List.set_cons_succ]
        refine utk (i := 7) rfl hHeld ?_
        try simp only [Act.put, List.setIfInBounds_toArray, List.set_cons_zero, List.set_cons_succ]
        refine until_one (i := 8) rfl (by kernel_rfl) (fun K hK => ?_)
        go_simp
        refine HON.out.mono ?_
        rintro e x2 ⟨rfl, hb2⟩
        have hb3 : Below wr.heap.size wr x2 := ((Below.refl _ _).drew).trans hb2
        have HB3 := hide hb3
        clear hb2 hb3 hHeld HON
        have hHeld := HSb.out _ HB3.out
        refine hK.out _ _ (.inr hHeld) ?_
        clear hK K
        try simp only [Act.put, List.setIfInBounds_toArray, List.set_cons_zero, List.set_cons_succ]
        refine utk (i := 9) rfl hHeld ?_
        try simp only [Act.put, List.setIfInBounds_toArray, List.set_cons_zero, List.set_cons_succ]
        refine until_done (by kernel_rfl) ?_ _
        refine NoPanic.normal ?_
        have HBX2 : Hid (Below (w.heap.size + 1 + 1) (bxk w p0 p1 p2 q0 q1 q2 r pc st (some ⟨b0, of0, none⟩) ops.length kc) x2) := HBX.out.trans (HB3.out.mono (by omega))
        have hsz3 := HB3.out.size
        have hbz2 : b0 < x2.heap.size := by omega
        have hz02 : w.heap.size < x2.heap.size := by omega
        have hz12 : w.heap.size + 1 < x2.heap.size := by omega
        have hop := hHeld.2.2.2.2.2.2.2.2.2.1
        have hsi := hHeld.2.2.2.2.2.2.2.2.2.2.1
        have hoi := hHeld.2.2.2.2.2.2.2.2.2.2.2.2.1
        have hun : x2.cell? ⟨w.heap.size, cn, none⟩ = some (.int .i64 (unitsT ⟨p0, p1, p2, q0, q1, q2, r⟩ cn)) := by
          have hb : x2.heap[w.heap.size]? = some (.cells #[.int .i64 p0, .int .i64 p1, .int .i64 p2, .int .i64 q0, .int .i64 q1, .int .i64 q2, .int .i64 r] 28 (0, 0)) := by
            rw [HBX2.out.block w.heap.size (by omega)]
            unfold bxk
            rw [Below.heap_alloc _ _ _ (by simp)]
            show (w.heap.push _)[w.heap.size]? = _
            simp
          rw [cell_of_block hb]
          have h := units_cell (t := ⟨p0, p1, p2, q0, q1, q2, r⟩) (c := (cn : Int)) (by omega)
          rw [Int.toNat_natCast] at h
          exact h
        clear hHeld HSb
        go_wp2_with fail
        refine (HCL.out _).mono ?_
        rintro e x2 ⟨rfl, rfl⟩
        clear HCL
        go_wp2_with fail
        go_loopw [9, 10] (fun m j wq => ∃ jn n : Nat, jn ≤ ops.length ∧ j = .int .i64 jn ∧ m = .int .i64 (cnt (sameK ops i) jn) ∧ wq = x2.drewN n) (fun _ j _ => ops.length - (intOf j).toNat)
        case atStart => exact ⟨0, 0, Nat.zero_le _, rfl, rfl, rfl⟩
        case round =>
          obtain ⟨jn, n, hj, rfl, rfl, rfl⟩ := hrel
          have hmx := cnt_le (sameK ops i) jn
          by_cases hjl : jn < ops.length
          · have hji : (jn : Int) < (ops.length : Int) := by omega
            obtain ⟨y0, -, y2, -, -, -, -, -, -, -⟩ := ten (HC.out jn hjl)
            have hbwx := HBW.out.trans (HB3.out.mono (by omega))
            rw [← bcell hbwx _ _ hb0] at y0 y2
            have HSM : Hid (sameK ops i jn = (decide ((opAt ops jn).sl = sl) && decide (clsv (opAt ops jn).o = (cn : Int)))) := by
              show _ = _
              unfold sameK
              rw [HXX.out]
              dsimp only
              rw [HCN.out]
            have hcl := fun W => refClass_any (opAt ops jn).o W
            have HCT : Hid (cnt (sameK ops i) (jn + 1) = cnt (sameK ops i) jn + (if sameK ops i jn = true then 1 else 0)) := rfl
            generalize cnt (sameK ops i) jn = mn at *
            generalize (opAt ops jn).sl = yl at *
            generalize (opAt ops jn).o = yo at *
            generalize clsv yo = yc at *
            have HCY := hide hcl
            clear hcl hbwx
            by_cases hs : yl = sl
            · subst hs
              by_cases hcq : yc = (cn : Int)
              · have hq1 : (yc == (cn : Int)) = true := by simpa using hcq
                have HM1 : Hid (cnt (sameK ops i) (jn + 1) = mn + 1) := by show _ = _; rw [HCT.out, HSM.out, hcq]; simp
                clear hcq
                go_wp2_with fail
                go_region_held3 (fun w' => w'.cell? ⟨w.heap.size + 1, 2, none⟩ = some (.slice (some ⟨b0, of0, none⟩) ops.length kc) ∧ w'.cell? ⟨b0, of0 + jn * 10, none⟩ = some (.int .i64 yl) ∧ w'.cell? ⟨b0, of0 + i * 10, none⟩ = some (.int .i64 yl) ∧ w'.cell? ⟨b0, of0 + jn * 10 + 2, none⟩ = some (.int .i64 yo)) ((go_keep; done)) (first | (go_at_call 39; refine (HCY.out _).mono ?_; rintro e w' ⟨rfl, rfl⟩))
                go_wp2_with fail
                go_roundw
                case rel => exact ⟨jn + 1, n + 1, by omega, by go_num, by rw [HM1.out]; go_num, rfl⟩
                case measure => simp [intOf]; omega
              · have hq1 : (yc == (cn : Int)) = false := by simpa using hcq
                have HM1 : Hid (cnt (sameK ops i) (jn + 1) = mn) := by show _ = _; rw [HCT.out, HSM.out]; simp [hcq]
                clear hcq
                go_wp2_with fail
                go_region_held3 (fun w' => w'.cell? ⟨w.heap.size + 1, 2, none⟩ = some (.slice (some ⟨b0, of0, none⟩) ops.length kc) ∧ w'.cell? ⟨b0, of0 + jn * 10, none⟩ = some (.int .i64 yl) ∧ w'.cell? ⟨b0, of0 + i * 10, none⟩ = some (.int .i64 yl) ∧ w'.cell? ⟨b0, of0 + jn * 10 + 2, none⟩ = some (.int .i64 yo)) ((go_keep; done)) (first | (go_at_call 39; refine (HCY.out _).mono ?_; rintro e w' ⟨rfl, rfl⟩))
                go_wp2_with fail
                go_roundw
                case rel => exact ⟨jn + 1, n + 1, by omega, by go_num, by rw [HM1.out], rfl⟩
                case measure => simp [intOf]; omega
            · have hq1 : (yl == sl) = false := by simpa using hs
              have HM1 : Hid (cnt (sameK ops i) (jn + 1) = mn) := by show _ = _; rw [HCT.out, HSM.out]; simp [hs]
              clear hs
              go_wp2_with fail
              go_quiet ((fail))
              go_wp2_with fail
              go_roundw
              case rel => exact ⟨jn + 1, _, by omega, by go_num, by rw [HM1.out], rfl⟩
              case measure => simp [intOf]; omega
          · have e : jn = ops.length := by omega
            subst e
            have hci : (cn : Int) < 3 := by omega
            have HMK : Hid (manyK ops i = cnt (sameK ops i) ops.length) := rfl
            generalize cnt (sameK ops i) ops.length = mn at *
            have HUN : Hid (unitsT ⟨p0, p1, p2, q0, q1, q2, r⟩ (clsv (opAt ops i).o) = unitsT ⟨p0, p1, p2, q0, q1, q2, r⟩ (cn : Int)) := by
              show _ = _
              rw [HXX.out]
              dsimp only
              rw [HCN.out]
            have HO1 : Hid (oneOk r pc st logs (opAt ops i) = true) := by show _ = _; rw [HXX.out]; exact HOK.out
            generalize unitsT ⟨p0, p1, p2, q0, q1, q2, r⟩ (cn : Int) = un at *
            by_cases hgt : un < (mn : Int)
            · have HR : Hid (mayK ⟨p0, p1, p2, q0, q1, q2, r⟩ ⟨pc, st, ops⟩ logs = false) := by
                show _ = _
                rw [HX.out]
                refine allN_false (k := i) hil ?_
                show (_ && decide ((manyK ops i : Int) ≤ unitsT ⟨p0, p1, p2, q0, q1, q2, r⟩ (clsv (opAt ops i).o))) = false
                rw [HMK.out, HUN.out, decide_eq_false (by omega)]; simp
              go_wp2_with fail
              go_ret
              exact ⟨ret_bool HR.out.symm, (HBW.out.trans (HB3.out.mono (by omega))).trans (below_draws _ _ _)⟩
            · have HR : Hid ((oneOk r pc st logs (opAt ops i) && decide ((manyK ops i : Int) ≤ unitsT ⟨p0, p1, p2, q0, q1, q2, r⟩ (clsv (opAt ops i).o))) = true) := by
                show _ = _
                rw [HO1.out, HMK.out, HUN.out, decide_eq_true (by omega)]; rfl
              go_wp2_with fail
              go_roundw
              case rel => exact ⟨i + 1, by omega, by go_num, allN_step HA.out HR.out, HBX2.out.trans (below_draws _ _ _)⟩
              case measure => simp [intOf]; omega
    · have e : i = ops.length := by omega
      subst e
      have HR : Hid (mayK ⟨p0, p1, p2, q0, q1, q2, r⟩ ⟨pc, st, ops⟩ logs = true) := by show _ = _; rw [HX.out]; exact HA.out
      go_wp2_with fail
      go_ret
      exact ⟨ret_bool HR.out.symm, HBW.out⟩
theorem kmay_any (t : Tg) (kv : Value) (K : Kn) (la : Option Addr) (lc : Nat) (logs : List Int) (w : World) (hK : KernV w kv K) (hlog : Ints w (.slice la logs.length lc) logs) :
    Calls Tryz.prog 26 #[.agg t.cells, kv, .slice la logs.length lc] w fun e w' => e = .returned (.bool (mayK t K logs)) ∧ Below w.heap.size w w' := by
  obtain ⟨ov, rfl, hO⟩ := hK
  have hO' := hO
  obtain ⟨ka, kc, rfl, h1, h2, -⟩ := hO'
  obtain ⟨pc, st, ops⟩ := K
  obtain ⟨p0, p1, p2, q0, q1, q2, r⟩ := t
  by_cases hb : mayT ⟨p0, p1, p2, q0, q1, q2, r⟩ = true ∧ inR pc 1 200 = true ∧ inR st 1 1001 = true ∧ inR ops.length 1 16 = true
  · exact kmay_all p0 p1 p2 q0 q1 q2 r pc st ka kc ops la lc logs w h1 h2 hO hlog hb.1 hb.2.1 hb.2.2.1 hb.2.2.2
  · refine kmay_no p0 p1 p2 q0 q1 q2 r pc st ka kc ops la lc logs w h1 h2 ?_
    simp only [← Bool.not_eq_true]
    by_cases b1 : mayT ⟨p0, p1, p2, q0, q1, q2, r⟩ = true
    · by_cases b2 : inR pc 1 200 = true
      · by_cases b3 : inR st 1 1001 = true
        · exact .inr (.inr (.inr fun b4 => hb ⟨b1, b2, b3, b4⟩))
        · exact .inr (.inr (.inl b3))
      · exact .inr (.inl b2)
    · exact .inl b1
end Go.Proofs.YtghlcmljgpkjiabGreat
