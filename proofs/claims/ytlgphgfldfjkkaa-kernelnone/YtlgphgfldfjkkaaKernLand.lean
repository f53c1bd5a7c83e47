/- The contract of a cycle's beginning: what is due has become what is in its registers. -/
import Derived.Test.YtlgphgfldfjkkaaKernRead
namespace Go.Proofs.Ytlgphgfldfjkkaa
open Go.RowKit Go.Joins
set_option linter.unusedVariables false
set_option linter.unusedSimpArgs false

theorem grown_refl (w : World) (row : Option Nat) : w.grownBy w row := ⟨rfl, rfl, rfl, Nat.le_refl _, fun _ _ _ => rfl⟩
theorem lane_in {D : List Du} {j : Int} {d : Du} (h : d ∈ lane D j) : d ∈ D := by
  unfold lane at h
  exact (List.mem_filter.1 h).1
/-- a list is empty behind its cycle -/
theorem MInv.landed {c : Mc} {V : Nat → Value} {D : List Du} {f : Nat → Int} {m : Nat → Nat → Int} {wr : World} {T : Nat} (h : MInv c V D f m wr) (hW : Win T D) :
    MInv c (fun i => if i = T % 6 then cut0 (V (T % 6)) else V i) (restN T D D.length) f m (wr.setCell ⟨c.A, 14 + T % 6, none⟩ (cut0 (V (T % 6)))) := by
  have hj : ((T : Int) % 6) = ((T % 6 : Nat) : Int) := by omega
  have h6 : T % 6 < 6 := Nat.mod_lt _ (by omega)
  refine h.setDue (T % 6) _ _ wr h6 (grown_refl _ _) ?_ (.inl (cut0_block (h.due _ h6))) (fun i hi hne => ?_)
  · rw [rest_lane hW, if_pos hj.symm]
    exact cut0_own (h.due _ h6)
  · rw [rest_lane hW, if_neg (by omega)]

set_option maxHeartbeats 2000000 in
theorem land_any {c : Mc} {V : Nat → Value} {D : List Du} {f : Nat → Int} {m : Nat → Nat → Int} (T : Nat) (w : World) (hI : MInv c V D f m w) (hW : Win T D) (hD : ∀ d ∈ D, 0 ≤ d.rg ∧ d.rg < (c.R : Int)) (hT : T ≤ 40000) :
    Calls Try.prog 75 #[.pointer (some ⟨c.A, 0, none⟩), .int .i64 T] w fun e w' => e = .returned (.tuple #[]) ∧ ∃ V', MInv c V' (restN T D D.length) (landN T D f D.length) m w' := by
  have hj : ((T : Int) % 6) = ((T % 6 : Nat) : Int) := by omega
  have h6 : T % 6 < 6 := Nat.mod_lt _ (by omega)
  have HF : Hid (landN T D f D.length = putN (lane D (T % 6 : Nat)) f (lane D (T % 6 : Nat)).length) := by show _ = _; rw [land_lane hW, hj]
  have HG : Hid (∀ f' wr, MInv c V D f' m wr → MInv c (fun i => if i = T % 6 then cut0 (V (T % 6)) else V i) (restN T D D.length) f' m (wr.setCell ⟨c.A, 14 + T % 6, none⟩ (cut0 (V (T % 6))))) := fun f' wr h => h.landed hW
  have HL : Hid (∀ d ∈ lane D (T % 6 : Nat), 0 ≤ d.rg ∧ d.rg < (c.R : Int)) := fun d hd => hD d (lane_in hd)
  have HDA := hide (fun W => dueAt_at c.A T W hT)
  clear hj hW hD
  generalize T % 6 = j at *
  obtain ⟨va, vc, hV, hvn, hvm⟩ := ownz_shape (hI.due j h6)
  have hcut : cut0 (V j) = .slice va 0 vc := by rw [hV]; rfl
  unfold maxLen at hvm
  have HI := hide hI
  have HV := hide hV
  have HCUT := hide hcut
  have hcell := hI.cells.2.2 j h6
  rw [hV] at hcell
  have hnil : va = none → vc = 0 := by
    intro e
    have h := (hI.due j h6).2
    rw [hV] at h
    rcases h with ⟨e2, _⟩ | ⟨g, cap, cur, e2, _⟩
    · injection e2
    · injection e2 with e3; rw [e3] at e; cases e
  have HNIL := hide hnil
  clear hV hcut hI hnil
  generalize hl : lane D (j : Int) = l at *
  have HLD := hide hl
  clear hl
  go_enter Try.func75, Try.ntmps75
  go_wp2_with (go_at_call 83; refine (HDA.out _).mono ?_; rintro e w' ⟨rfl, rfl⟩)
  go_loopw [14] (fun i wr => ∃ k : Nat, k ≤ l.length ∧ i = .int .i64 k ∧ MInv c V D (putN l f k) m wr) (fun i _ => l.length - (intOf i).toNat)
  case atStart => exact ⟨0, Nat.zero_le _, rfl, HI.out⟩
  case round =>
    clear HI hcell
    obtain ⟨k, hk, rfl, hQ⟩ := hrel
    by_cases hkl : k < l.length
    · have hrow := hQ.due j h6
      rw [HLD.out] at hrow
      obtain ⟨g, cap, hg0, hg1, hg2, hg3, hg4, hcells⟩ := res_cells hrow (by omega)
      rw [HV.out] at hg0
      injection hg0 with e1 e2 e3
      subst e1; subst e3
      obtain ⟨d0, d1⟩ := hcells k hkl
      obtain ⟨r0, r1⟩ := HL.out _ (duAt_in hkl)
      obtain ⟨q, hq⟩ : ∃ q : Nat, (duAt l k).rg = (q : Int) := ⟨(duAt l k).rg.toNat, by omega⟩
      have HP : Hid (putN l f (k + 1) = put1 (putN l f k) q (duAt l k).v) := by
        show put1 (putN l f k) (duAt l k).rg.toNat (duAt l k).v = _
        rw [hq]; rfl
      rw [hq] at d0 r1
      have hqR : q < c.R := by omega
      have hki : (k : Int) < (l.length : Int) := by omega
      obtain ⟨-, ⟨-, -, -, -, c11, -, -⟩, -⟩ := hQ.cells
      have hAz := hQ.A_lt
      have hgz := hQ.regs.lt
      have hfr := hQ.regs.frozen q
      have hrc := hQ.regs.cell hqR
      have hcr1 := hQ.hr.2.2.1
      have hcr := hQ.hr.2.2.2
      unfold maxLen at hcr
      have HQ := hide hQ
      generalize (duAt l k).v = vv at *
      generalize putN l f k = fk at *
      clear hcells hrow hq hQ HL HDA
      go_wp2_with fail
      go_region
      go_wp2_with fail
      go_roundw
      case rel =>
        refine ⟨k + 1, by omega, by go_num, ?_⟩
        rw [HP.out]
        exact (HQ.out.setReg q vv hqR).below (below_alloc1 _ _).drew
      case measure => simp [intOf]; omega
    · have e : k = l.length := by omega
      subst e
      have hki : ¬ (l.length : Int) < (l.length : Int) := by omega
      have hcell2 := hQ.cells.2.2 j h6
      rw [HV.out] at hcell2
      have hfr := hQ.frozenA (14 + j)
      have HQ := hide hQ
      clear hQ
      cases va with
      | none =>
        obtain rfl := HNIL.out rfl
        go_wp2_with fail
        go_end0
        refine ⟨rfl, ?_⟩
        rw [HF.out]
        have h := HG.out _ _ HQ.out
        rw [HCUT.out] at h
        exact ⟨_, h⟩
      | some ad =>
        go_wp2_with fail
        go_end0
        refine ⟨rfl, ?_⟩
        rw [HF.out]
        have h := HG.out _ _ HQ.out
        rw [HCUT.out] at h
        exact ⟨_, h⟩
end Go.Proofs.Ytlgphgfldfjkkaa
