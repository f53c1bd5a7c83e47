/- The contract of package sched's planAt: if it finds a plan, the plan is legal, and of the pace that was asked for; nothing that was there is changed. -/
import Derived.Test.YteijdgeaegpdmabSchedNew
namespace Go.Proofs.Yteijdgeaegpdmab
open Go.RowKit Go.Joins
set_option linter.unusedVariables false
set_option linter.unusedSimpArgs false
set_option maxRecDepth 8192

/-- what the row of next times comes to -/
def nextSum (w : World) (g n : Nat) : Int := sumN (fun i => match w.cell? ⟨g, i, none⟩ with | some (.int _ z) => z | _ => 0) n
theorem sum_congr {f g : Nat → Int} : ∀ n, (∀ i, i < n → f i = g i) → sumN f n = sumN g n := by
  intro n
  induction n with
  | zero => intro _; rfl
  | succ n ih =>
    intro h
    show sumN f n + f n = sumN g n + g n
    rw [ih fun i hi => h i (by omega), h n (by omega)]
theorem nextSum_row {w : World} {g n : Nat} {e : TypeId} {N : Nat → Int} (h : RowF w g e n (fun i => .int .i64 (N i))) : nextSum w g n = sumN N n :=
  sum_congr n fun i hi => by rw [h.cell hi]
def AtP (L : Lp) (t : Tg) (P : Int) (x : World) (e : Ending) (w' : World) : Prop := Below x.heap.size x w' ∧ ∃ (P' : Int) (ta : Option Addr) (tl tc : Nat) (b : Bool), e = .returned (.tuple #[.agg #[.int .i64 P', .slice ta tl tc], .bool b]) ∧ (b = true → P' = P ∧ ∃ g T, ta = some ⟨g, 0, none⟩ ∧ x.heap.size ≤ g ∧ tl = T.length ∧ Ints w' (.slice ta tl tc) T ∧ legalD L t P T = true)
theorem PSt.ints {c : Pc} {I : Nat → Bool} {T N : Nat → Int} {a k : Nat} {x : World} (h : PSt c I T N a k x) (ok : PcOk c) : Ints x (.slice (some ⟨c.tb, 0, none⟩) c.L.body.length c.L.body.length) ((List.range c.L.body.length).map T) := by
  have hl := ok.len
  have hlen : ((List.range c.L.body.length).map T).length = c.L.body.length := by simp
  refine ⟨some ⟨c.tb, 0, none⟩, c.L.body.length, by rw [hlen], by rw [hlen]; exact Nat.le_refl _, by unfold maxLen; omega, fun i hi => ?_, fun _ => ⟨c.tb, 0, rfl, h.rows.tr.lt, fun i hi => ?_⟩⟩
  · rw [hlen] at hi
    rw [nth_range hi]
    have := h.sok.times i hi
    omega
  · rw [hlen] at hi
    rw [nth_range hi, Nat.zero_add]
    exact h.rows.tr.cell hi
set_option maxHeartbeats 16000000 in
theorem planAt_any (p0 p1 p2 q0 q1 q2 r : Int) (L : Lp) (v0 v2 : Value) (bb bo bc : Nat) (P : Int) (ea : Option Addr) (ec : Nat) (x : World) (hm : mayB L = true) (ht : mayT ⟨p0, p1, p2, q0, q1, q2, r⟩ = true) (hP1 : 1 ≤ P) (hP2 : P ≤ 200) (hbb : bb < x.heap.size) (hbc : L.body.length ≤ bc) (hbm : bc ≤ 9223372036854775807) (hbody : ∀ i, i < L.body.length → ∀ j, j < 9 → x.cell? ⟨bb, bo + i * 9 + j, none⟩ = (stCells (stAt L.body i))[j]?) (hE : EdgesV x (.slice ea (edgesD L ⟨p0, p1, p2, q0, q1, q2, r⟩).length ec) (edgesD L ⟨p0, p1, p2, q0, q1, q2, r⟩)) :
    Calls Try.prog 32 #[.agg #[v0, .slice (some ⟨bb, bo, none⟩) L.body.length bc, v2], .agg #[.int .i64 p0, .int .i64 p1, .int .i64 p2, .int .i64 q0, .int .i64 q1, .int .i64 q2, .int .i64 r], .slice ea (edgesD L ⟨p0, p1, p2, q0, q1, q2, r⟩).length ec, .int .i64 P] x fun e w' => AtP L ⟨p0, p1, p2, q0, q1, q2, r⟩ P x e w' := by
  have HB3 := hide (below_alloc3 x (.cells #[v0, .slice (some ⟨bb, bo, none⟩) L.body.length bc, v2] 25) (.cells #[.int .i64 p0, .int .i64 p1, .int .i64 p2, .int .i64 q0, .int .i64 q1, .int .i64 q2, .int .i64 r] 28) (.cells #[.int .i64 0, .slice none 0 0] 30))
  have HS3 : Hid ((((x.alloc (.cells #[v0, .slice (some ⟨bb, bo, none⟩) L.body.length bc, v2] 25)).alloc (.cells #[.int .i64 p0, .int .i64 p1, .int .i64 p2, .int .i64 q0, .int .i64 q1, .int .i64 q2, .int .i64 r] 28)).alloc (.cells #[.int .i64 0, .slice none 0 0] 30)).heap.size = x.heap.size + 1 + 1 + 1) := by show _ = _; simp
  have HZ3 : Hid ((((x.alloc (.cells #[v0, .slice (some ⟨bb, bo, none⟩) L.body.length bc, v2] 25)).alloc (.cells #[.int .i64 p0, .int .i64 p1, .int .i64 p2, .int .i64 q0, .int .i64 q1, .int .i64 q2, .int .i64 r] 28)).alloc (.cells #[.int .i64 0, .slice none 0 0] 30)).heap[x.heap.size + 1 + 1]? = some (.cells #[.int .i64 0, .slice none 0 0] 30 (0, 0))) := by
    show _ = _
    have e : ((x.alloc (.cells #[v0, .slice (some ⟨bb, bo, none⟩) L.body.length bc, v2] 25)).alloc (.cells #[.int .i64 p0, .int .i64 p1, .int .i64 p2, .int .i64 q0, .int .i64 q1, .int .i64 q2, .int .i64 r] 28)).heap.size = x.heap.size + 1 + 1 := by simp
    rw [← e]; exact new_blkS _ _ _
  have HNP := hide (newPlanner_any p0 p1 p2 q0 q1 q2 r L v0 v2 bb bo bc P ea ec (((x.alloc (.cells #[v0, .slice (some ⟨bb, bo, none⟩) L.body.length bc, v2] 25)).alloc (.cells #[.int .i64 p0, .int .i64 p1, .int .i64 p2, .int .i64 q0, .int .i64 q1, .int .i64 q2, .int .i64 r] 28)).alloc (.cells #[.int .i64 0, .slice none 0 0] 30)) hm ht hP1 hP2 (Nat.lt_of_lt_of_le hbb HB3.out.size) hbc hbm (fun i hi j hj => (bcell HB3.out _ _ hbb).trans (hbody i hi j hj)) (hE.below HB3.out))
  have HLEG : Hid (∀ (c : Pc) I T N x, c.L = L → c.t = ⟨p0, p1, p2, q0, q1, q2, r⟩ → c.P = P → PSt c I T N 0 (edgesD c.L c.t).length x → (∀ i, i < c.L.body.length → I i = true) → legalD L ⟨p0, p1, p2, q0, q1, q2, r⟩ P ((List.range c.L.body.length).map T) = true) := fun c I T N x e1 e2 e3 h1 h2 => by
    obtain ⟨_, hs, _⟩ := h1
    rw [e1, e2, e3] at hs
    rw [e1] at h2 ⊢
    exact hs.legal hm ht hP1 hP2 h2
  have hbl : 0 ≤ 1 := by omega
  clear hbody hE hm ht
  obtain ⟨es, hes⟩ : ∃ es, edgesD L ⟨p0, p1, p2, q0, q1, q2, r⟩ = es := ⟨_, rfl⟩
  rw [hes] at HNP ⊢
  have HES := hide hes
  clear hes
  go_enter Try.func32, Try.ntmps32
  go_wp2_with fail
  refine HNP.out.mono ?_
  rintro e x1 ⟨c, rfl, ok, hw0, hcL, hct, hcP, hst⟩
  have HW0 := hide hw0
  have HCL := hide hcL
  have HCT := hide hct
  have HCP := hide hcP
  have HST := hide hst
  clear HNP hw0 hcL hct hcP hst hbl
  have HHI := hide (fun W I T N (h : PSt c I T N 0 (edgesD c.L c.t).length W) => highest_any W ok h.rows)
  have HPUT := hide (fun W a I T N (h : PSt c I T N 0 (edgesD c.L c.t).length W) ha hI => put_any W a ok h ha hI)
  have HSUM : Hid (∀ I T N W, PSt c I T N 0 (edgesD c.L c.t).length W → nextSum W c.nb c.L.body.length = sumN N c.L.body.length ∧ 0 ≤ sumN N c.L.body.length ∧ sumN N c.L.body.length ≤ 16016) := fun I T N W h => ⟨nextSum_row h.rows.nr, h.sum ok⟩
  have HRES : Hid (∀ W, Below c.w0.heap.size c.w0 W → W.heap[x.heap.size + 1 + 1]? = some (.cells #[.int .i64 0, .slice none 0 0] 30 (0, 0))) := fun W hW => by
    rw [hW.block _ (by rw [HW0.out, HS3.out]; omega), HW0.out]; exact HZ3.out
  have HBX : Hid (∀ W, Below c.w0.heap.size c.w0 W → Below x.heap.size x W) := fun W hW => by
    rw [HW0.out] at hW
    exact HB3.out.trans (hW.mono HB3.out.size)
  go_wp2_with fail
  refine (HHI.out x1 _ _ _ HST.out).mono ?_
  rintro e x2 ⟨fd, lf, rfl, hfd, hno, hyes, hb2⟩
  have HST2 := hide (HST.out.below hb2)
  have HNO := hide hno
  have HYES := hide hyes
  clear HST hno hyes hb2
  go_wp2_with fail
  go_loopw [11, 12] (fun av lv wr => ∃ (fd : Nat) (lf : Bool) (I : Nat → Bool) (T N : Nat → Int), av = .int .i64 fd ∧ lv = .bool lf ∧ fd < c.L.body.length ∧ (lf = false → ∀ j, j < c.L.body.length → I j = true) ∧ (lf = true → I fd = false) ∧ PSt c I T N 0 (edgesD c.L c.t).length wr) (fun _ _ wr => (16020 - nextSum wr c.nb c.L.body.length).toNat)
  case atStart => exact ⟨fd, lf, _, _, _, rfl, rfl, hfd, HNO.out, fun _ => rfl, HST2.out⟩
  case round =>
    clear HNO HYES HST2
    obtain ⟨fd, lf, I, T, N, rfl, rfl, hfd, hno, hyes, hst⟩ := hrel
    have HST := hide hst
    have HNO := hide hno
    have HYES := hide hyes
    have hsum := HSUM.out I T N wr hst
    clear hst hno hyes
    cases lf with
    | true =>
      have HI : Hid (I fd = false) := HYES.out rfl
      have HM0 := hide hsum
      clear hsum HNO HYES
      go_wp2_with fail
      refine (HPUT.out wr fd I T N HST.out hfd HI.out).mono ?_
      rintro e x3 hput
      rcases hput with ⟨rfl, hbf⟩ | ⟨rfl, I3, T3, N3, hst3, hsum3⟩
      · have hz := HRES.out x3 hbf
        have HBF := hide (HBX.out x3 hbf)
        have n0 : x3.cell? ⟨x.heap.size + 1 + 1, 0, none⟩ = some (.int .i64 0) := by rw [cell_of_block hz]; rfl
        have n1 : x3.cell? ⟨x.heap.size + 1 + 1, 1, none⟩ = some (.slice none 0 0) := by rw [cell_of_block hz]; rfl
        have f0 : x3.frozen? ⟨x.heap.size + 1 + 1, 0, none⟩ = false := by simp [World.frozen?, hz]
        have f1 : x3.frozen? ⟨x.heap.size + 1 + 1, 1, none⟩ = false := by simp [World.frozen?, hz]
        obtain ⟨s0, s1⟩ := pair_set (a' := .int .i64 0) (b' := .slice none 0 0) hz
        have HW : Hid (AtP L ⟨p0, p1, p2, q0, q1, q2, r⟩ P x (.returned (.tuple #[.agg #[.int .i64 0, .slice none 0 0], .bool false])) ((x3.setCell ⟨x.heap.size + 1 + 1, 0, none⟩ (.int .i64 0)).setCell ⟨x.heap.size + 1 + 1, 1, none⟩ (.slice none 0 0))) := ⟨(HBF.out.setCell (by show x.heap.size ≤ x.heap.size + 1 + 1; omega) _).setCell (by show x.heap.size ≤ x.heap.size + 1 + 1; omega) _, 0, none, 0, 0, false, rfl, fun h => absurd h (by simp)⟩
        clear hz hbf
        go_wp2_with fail
        exact bodyPost_ret (v := .tuple #[.agg #[.int .i64 0, .slice none 0 0], .bool false]) (by simp [results, Try.results32, go_sem, s0, s1]) rfl HW.out
      · have HST3 := hide hst3
        have HS3' := hide (HSUM.out I3 T3 N3 x3 hst3)
        have HM3 := hide hsum3
        clear hst3 hsum3
        go_wp2_with fail
        refine (HHI.out x3 _ _ _ HST3.out).mono ?_
        rintro e x4 ⟨fd4, lf4, rfl, hfd4, hno4, hyes4, hb4⟩
        have HST4 := hide (HST3.out.below hb4)
        have HNO4 := hide hno4
        have HYES4 := hide hyes4
        have HS4 := hide (HSUM.out I3 T3 N3 x4 HST4.out)
        clear hno4 hyes4 hb4
        go_wp2_with fail
        go_roundw
        case rel => exact ⟨fd4, lf4, I3, T3, N3, rfl, rfl, hfd4, HNO4.out, HYES4.out, HST4.out⟩
        case measure =>
          have h1 := HM0.out
          have h2 := HS4.out
          have h3 := HM3.out
          omega
    | false =>
      have HALL : Hid (∀ j, j < c.L.body.length → I j = true) := HNO.out rfl
      have HLG := hide (HLEG.out c I T N wr HCL.out HCT.out HCP.out HST.out HALL.out)
      have hpz := HST.out.rows.lt
      obtain ⟨f1, f10, f11, f12, f13, f14, f15, f16⟩ := HST.out.rows.fields
      have hbf := HST.out.rows.bel
      have hz := HRES.out wr hbf
      have HBF := hide (HBX.out wr hbf)
      have n0 : wr.cell? ⟨x.heap.size + 1 + 1, 0, none⟩ = some (.int .i64 0) := by rw [cell_of_block hz]; rfl
      have n1 : wr.cell? ⟨x.heap.size + 1 + 1, 1, none⟩ = some (.slice none 0 0) := by rw [cell_of_block hz]; rfl
      have g0 : wr.frozen? ⟨x.heap.size + 1 + 1, 0, none⟩ = false := by simp [World.frozen?, hz]
      have g1 : wr.frozen? ⟨x.heap.size + 1 + 1, 1, none⟩ = false := by simp [World.frozen?, hz]
      obtain ⟨s0, s1⟩ := pair_set (a' := .int .i64 P) (b' := .slice (some ⟨c.tb, 0, none⟩) c.L.body.length c.L.body.length) hz
      have hI := HST.out.ints ok
      have htb : x.heap.size + 1 + 1 < c.tb := by have := HST.out.rows.ge.2.2.2.1; rw [HW0.out, HS3.out] at this; omega
      have hzz : x.heap.size + 1 + 1 < wr.heap.size := (Array.getElem?_eq_some_iff.1 hz).1
      have HW : Hid (AtP L ⟨p0, p1, p2, q0, q1, q2, r⟩ P x (.returned (.tuple #[.agg #[.int .i64 P, .slice (some ⟨c.tb, 0, none⟩) c.L.body.length c.L.body.length], .bool true])) ((wr.setCell ⟨x.heap.size + 1 + 1, 0, none⟩ (.int .i64 P)).setCell ⟨x.heap.size + 1 + 1, 1, none⟩ (.slice (some ⟨c.tb, 0, none⟩) c.L.body.length c.L.body.length))) := by
        refine ⟨(HBF.out.setCell (by show x.heap.size ≤ x.heap.size + 1 + 1; omega) _).setCell (by show x.heap.size ≤ x.heap.size + 1 + 1; omega) _, P, _, _, _, true, rfl, fun _ => ⟨rfl, c.tb, (List.range c.L.body.length).map T, rfl, by omega, by simp, ?_, HLG.out⟩⟩
        have hl := ok.len
        have hlen : ((List.range c.L.body.length).map T).length = c.L.body.length := by simp
        have hr := (HST.out.rows.tr.setOther (a := ⟨x.heap.size + 1 + 1, 0, none⟩) (by show c.tb ≠ x.heap.size + 1 + 1; omega) (.int .i64 P)).setOther (a := ⟨x.heap.size + 1 + 1, 1, none⟩) (by show c.tb ≠ x.heap.size + 1 + 1; omega) (.slice (some ⟨c.tb, 0, none⟩) c.L.body.length c.L.body.length)
        refine ⟨some ⟨c.tb, 0, none⟩, c.L.body.length, by rw [hlen], by rw [hlen]; exact Nat.le_refl _, by unfold maxLen; omega, fun i hi => ?_, fun _ => ⟨c.tb, 0, rfl, hr.lt, fun i hi => ?_⟩⟩
        · rw [hlen] at hi
          rw [nth_range hi]
          have := HST.out.sok.times i hi
          omega
        · rw [hlen] at hi
          rw [nth_range hi, Nat.zero_add]
          exact hr.cell hi
      clear hz hbf f1 f10 f11 f12 f13 f15 f16 hI hzz htb hsum
      go_wp2_with fail
      exact bodyPost_ret (v := .tuple #[.agg #[.int .i64 P, .slice (some ⟨c.tb, 0, none⟩) c.L.body.length c.L.body.length], .bool true]) (by simp [results, Try.results32, go_sem, s0, s1]) rfl HW.out
end Go.Proofs.Yteijdgeaegpdmab
