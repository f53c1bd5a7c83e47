/- The contract of a machine's run: pace by pace, Slot by Slot, and what is left behind the last pace. -/
import Derived.Test.YtlgphgfldfjkkaaKernCyc
namespace Go.Proofs.Ytlgphgfldfjkkaa
open Go.RowKit Go.Joins
set_option linter.unusedVariables false
set_option linter.unusedSimpArgs false
set_option maxRecDepth 8192

theorem mul_bound {p N PC : Nat} (h : p ≤ N) : p * PC ≤ N * PC := Nat.mul_le_mul_right _ h
set_option maxHeartbeats 8000000 in
theorem mrun_any (c : Mc) (logs : List Int) (gm cm : Nat) (CM : Nat → Nat) (K : Kn) (ka : Option Addr) (kc PC ST N : Nat) (f : Nat → Int) (m : Nat → Nat → Int)
    (hI : MInv c (fun _ => .slice none 0 0) [] f m c.w1) (hS : ∀ x, KeptM c x → StatM c logs gm cm CM x) (hkv : c.kv = .slice ka K.ops.length kc) (hO : OpsV c.w1 (.slice ka K.ops.length kc) K.ops)
    (hn : c.n = logs.length) (hlen : ∀ i, i < c.n → c.lenM i = 2 ^ (nth logs i).toNat ∧ c.lenM i ≤ 32) (hR : (c.R : Int) = c.t.r) (hmay : mayK c.t K logs = true) (hpc : K.pc = c.pc) (hPC : c.pc = (PC : Int)) (hst : K.st = c.st) (hST : c.st = (ST : Int))
    (hN : c.turns + K.st - 1 = (N : Int)) (ht1 : 1 ≤ c.turns) (ht2 : c.turns ≤ 200) (hNP : N * PC ≤ 20000) :
    Calls Try.prog 64 #[.pointer (some ⟨c.A, 0, none⟩)] c.w1 fun e w' => e = .returned (.tuple #[]) ∧ ∃ x V, Below c.w1.heap.size c.w1 x ∧ MInv (c.at x) V (runK c.t K logs c.turns ⟨f, m, []⟩ (N * PC + 6)).due (runK c.t K logs c.turns ⟨f, m, []⟩ (N * PC + 6)).f (runK c.t K logs c.turns ⟨f, m, []⟩ (N * PC + 6)).m w' := by
  obtain ⟨hmt, hp1, hp2, hs1, hs2, ho1, ho2, -⟩ := mayK_parts hmay
  obtain ⟨-, ⟨c7, c8, c9, -, -, -, c13⟩, -⟩ := hI.cells
  rw [hPC] at c7
  rw [hkv] at c9
  have hAz := hI.A_lt
  have HSLOT := hide (slots_any c.A PC ka kc K.ops c.w1 c7 c9 hAz hO ho2 (by omega) (fun x hx => by have := (good_of hmay hn hx).2; omega))
  have HI := hide hI
  have HS := hide hS
  have HCX : Hid (∀ x U, SInv c.w1 PC U K.ops x → Ctx (c.at x) logs gm cm CM K PC N U) := fun x U h =>
    { hS := fun y hy => HS.out y (kept_at h.bel hy), hU := fun y hy => (slots_kept HI.out h hy).2, hn := hn, hlen := hlen, hR := hR, hmay := hmay, hpc := hpc, hPC := hPC, hN := hN, ht1 := ht1, ht2 := ht2, hNP := hNP }
  have hN2 : N ≤ 1300 := by omega
  have hPC1 : 1 ≤ PC := by omega
  have hPC2 : PC ≤ 200 := by omega
  have hNi : c.turns + c.st - 1 = (N : Int) := by omega
  have hst1 : 1 ≤ c.st := by omega
  have hst2 : c.st ≤ 1001 := by omega
  clear hI hS hO hmay hlen hkv c7 c9 hpc hPC hN hst hST hs1 hs2 hp1 hp2
  obtain ⟨W, hW⟩ : ∃ W, c.w1 = W := ⟨_, rfl⟩
  rw [hW] at c8 c13 hAz HSLOT ⊢
  have HWW := hide hW
  clear hW
  go_enter Try.func64, Try.ntmps64
  go_wp2_with fail
  refine HSLOT.out.mono ?_
  rintro e x1 ⟨rfl, U, hSl⟩
  have hcc := bcell hSl.bel
  rw [← hcc _ _ hAz] at c8 c13
  have hAz1 : c.A < x1.heap.size := by have := hSl.bel.size; omega
  have HSL : Hid (SInv c.w1 PC U K.ops x1) := by show SInv _ _ _ _ _; rw [HWW.out]; exact hSl
  have HC := hide (HCX.out x1 U HSL.out)
  have HI1 : Hid (MInv (c.at x1) (fun _ => .slice none 0 0) [] f m x1) := HI.out.at HSL.out.bel
  have HKP := hide (fun y (hk : KeptM (c.at x1) y) => (slots_kept HI.out HSL.out hk).1)
  clear hSl hcc HSLOT
  go_wp2_with fail
  go_big_quiet ((fail))
  go_wp2_with fail
  have HI2 : Hid (MInv (c.at x1) (fun _ => .slice none 0 0) [] f m (x1.drewN nq)) := HI1.out.below (below_draws _ _ _)
  clear HI1
  clear hNi
  go_loopw [3, 20] (fun cy i wr => ∃ p T : Nat, p ≤ N ∧ i = .int .i64 p ∧ cy = .int .i64 T ∧ T = p * PC ∧ ∃ V, MInv (c.at x1) V (runK c.t K logs c.turns ⟨f, m, []⟩ T).due (runK c.t K logs c.turns ⟨f, m, []⟩ T).f (runK c.t K logs c.turns ⟨f, m, []⟩ T).m wr) (fun _ i _ => N - (intOf i).toNat)
  case atStart => exact ⟨0, 0, Nat.zero_le _, rfl, rfl, by simp, _, HI2.out⟩
  case round =>
    clear HI2 c8 c13
    obtain ⟨p, T, hp, rfl, rfl, hT, V1, hQ⟩ := hrel
    by_cases hpl : p < N
    · have hpi : (p : Int) < (N : Int) := by omega
      have HT := hide hT
      have hTb : T ≤ 20000 := by have := mul_bound (PC := PC) hp; omega
      have HQ := hide hQ
      clear hT hQ
      rename World => wo
      go_wp2_with fail
      go_loopw [3, 25] (fun cy i wr => ∃ q T2 : Nat, q ≤ PC ∧ i = .int .i64 q ∧ cy = .int .i64 T2 ∧ T2 = T + q ∧ ∃ V, MInv (c.at x1) V (runK c.t K logs c.turns ⟨f, m, []⟩ T2).due (runK c.t K logs c.turns ⟨f, m, []⟩ T2).f (runK c.t K logs c.turns ⟨f, m, []⟩ T2).m wr) (fun _ i _ => PC - (intOf i).toNat)
      case atStart => exact ⟨0, T, Nat.zero_le _, rfl, rfl, rfl, _, HQ.out⟩
      case round =>
        clear HQ
        obtain ⟨q, T2, hq, rfl, rfl, hT2, V2, hQ2⟩ := hrel
        by_cases hql : q < PC
        · have hqi : (q : Int) < (PC : Int) := by omega
          have hT2b : T2 ≤ 20000 := by
            have h1 : p * PC + PC ≤ N * PC := by rw [← Nat.succ_mul]; exact Nat.mul_le_mul_right _ hpl
            have := HT.out
            omega
          have hrow := (HKP.out wr hQ2.keep).cell hql
          rw [HWW.out] at hrow
          have hgz : W.heap.size < wr.heap.size := by have := (HKP.out wr hQ2.keep).lt; rw [HWW.out] at this; exact this
          have HLAND := hide (cyc_land HC.out rfl T2 (by omega) hQ2)
          have HDO : Hid (∀ V Y, MInv (c.at x1) V (restN T2 (runK c.t K logs c.turns ⟨f, m, []⟩ T2).due (runK c.t K logs c.turns ⟨f, m, []⟩ T2).due.length) (landN T2 (runK c.t K logs c.turns ⟨f, m, []⟩ T2).due (runK c.t K logs c.turns ⟨f, m, []⟩ T2).f (runK c.t K logs c.turns ⟨f, m, []⟩ T2).due.length) (runK c.t K logs c.turns ⟨f, m, []⟩ T2).m Y →
            Calls Try.prog 76 #[.pointer (some ⟨c.A, 0, none⟩), U q, .int .i64 p, .int .i64 T2] Y fun e w' => e = .returned (.tuple #[]) ∧ ∃ V', MInv (c.at x1) V' (runK c.t K logs c.turns ⟨f, m, []⟩ (T2 + 1)).due (runK c.t K logs c.turns ⟨f, m, []⟩ (T2 + 1)).f (runK c.t K logs c.turns ⟨f, m, []⟩ (T2 + 1)).m w') := fun V Y h => cyc_do HC.out rfl p q T2 hpl hql (by rw [hT2, HT.out]) h
          have HT2 := hide hT2
          obtain ⟨oa, oc, hov, -, -, -⟩ := HC.out.hU wr hQ2.keep q hql
          rw [hov] at hrow HDO
          generalize (slotOf K.ops (q : Int)).length = ol at *
          clear hQ2 hT2 hov
          go_wp2_with fail
          refine HLAND.out.mono ?_
          rintro e x2 ⟨rfl, V3, h3⟩
          have H3 := hide h3
          clear h3 hrow hgz
          go_wp2_with fail
          refine (HDO.out V3 _ H3.out).mono ?_
          rintro e x3 ⟨rfl, V4, h4⟩
          have H4 := hide h4
          clear h4
          go_wp2_with fail
          go_roundw
          case rel => exact ⟨q + 1, T2 + 1, by omega, by go_num, by go_num, by have := HT2.out; omega, V4, H4.out⟩
          case measure => simp [intOf]; omega
        · have e : q = PC := by omega
          subst e
          have hqi : ¬ (q : Int) < (q : Int) := by omega
          have HQ2 := hide hQ2
          have HT2 := hide hT2
          clear hQ2 hT2
          go_wp2_with fail
          go_roundw
          case rel => exact ⟨p + 1, T2, by omega, by go_num, rfl, by rw [HT2.out, HT.out, Nat.succ_mul], V2, HQ2.out⟩
          case measure => simp [intOf]; omega
    · have e : p = N := by omega
      subst e
      have hpi : ¬ (p : Int) < (p : Int) := by omega
      have HQ := hide hQ
      have HT := hide hT
      have hTb : T ≤ 20000 := by omega
      clear hQ hT
      rename World => wo
      go_wp2_with fail
      go_loopw [3, 41] (fun cy i wr => ∃ r T2 : Nat, r ≤ 6 ∧ i = .int .i64 r ∧ cy = .int .i64 T2 ∧ T2 = T + r ∧ ∃ V, MInv (c.at x1) V (runK c.t K logs c.turns ⟨f, m, []⟩ T2).due (runK c.t K logs c.turns ⟨f, m, []⟩ T2).f (runK c.t K logs c.turns ⟨f, m, []⟩ T2).m wr) (fun _ i _ => 6 - (intOf i).toNat)
      case atStart => exact ⟨0, T, Nat.zero_le _, rfl, rfl, rfl, _, HQ.out⟩
      case round =>
        clear HQ
        obtain ⟨r, T2, hr, rfl, rfl, hT2, V2, hQ2⟩ := hrel
        by_cases hrl : r < 6
        · have hri : (r : Int) < 6 := by omega
          have hT2b : T2 ≤ 20010 := by omega
          have HLAND := hide (cyc_last HC.out rfl T2 hT2b (by rw [hT2, HT.out]; omega) hQ2)
          have HT2 := hide hT2
          clear hQ2 hT2
          go_wp2_with fail
          refine HLAND.out.mono ?_
          rintro e x2 ⟨rfl, V3, h3⟩
          have H3 := hide h3
          clear h3
          go_wp2_with fail
          go_roundw
          case rel => exact ⟨r + 1, T2 + 1, by omega, by go_num, by go_num, by have := HT2.out; omega, V3, H3.out⟩
          case measure => simp [intOf]; omega
        · have e : r = 6 := by omega
          have hri : ¬ (r : Int) < 6 := by omega
          have HQ2 := hide hQ2
          have HT2 : Hid (T2 = p * PC + 6) := by show _ = _; rw [hT2, HT.out, e]
          clear hQ2 hT2 e
          go_wp2_with fail
          go_end0
          refine ⟨rfl, x1, by rw [HWW.out] at HSL; exact HSL.out.bel, V2, ?_⟩
          rw [← HT2.out]
          exact HQ2.out
end Go.Proofs.Ytlgphgfldfjkkaa
