/- The contract of the units that are used: they stand in a map, by Slot and class; nothing that was there is changed. -/
import Derived.Test.YtlgphgfldfjkkaaKernOne
import Derived.Test.YtlgphgfldfjkkaaMapStep
import Derived.Test.YtlgphgfldfjkkaaUntil
import Derived.Test.YtlgphgfldfjkkaaKernPush
import Derived.DeepKeys4
import Derived.Deep.RegionHeld3
namespace Go.Proofs.Ytlgphgfldfjkkaa
open Go.RowKit Go.Joins
open Go.WideMaps (KeyLaw)
set_option linter.unusedVariables false
set_option linter.unusedSimpArgs false
set_option maxRecDepth 8192

theorem laidOut : laidOutB Try.prog = true := by kernel_rfl
theorem unitRow : (111 : TypeId) < Try.prog.types.size := of_decide_eq_true (by kernel_rfl)
theorem unitWide : (match Try.prog.underlying 111 with | some (.array _ _) | some (.struct _) => true | _ => false) = true := by kernel_rfl
theorem unitLaw : KeyLaw Try.prog 111 := deep_law_laid laidOut (m := 2) (by omega) unitRow (by kernel_rfl) unitWide
theorem unitZero (u : World) : (zeroValue 3).run Try.prog u = .ok (.int .i64 0) u := by kernel_rfl
theorem unitKey (a b : Int) (ha : (Lit.int .i64 a).wf = true) (hb : (Lit.int .i64 b).wf = true) : ∃ kl, keyOf Try.prog 111 (.agg #[.int .i64 a, .int .i64 b]) = some kl := by
  have h1 : Try.prog.keyType 111 = true := by kernel_rfl
  have h2 : Try.prog.cellsOf 111 = 2 := by kernel_rfl
  have h3 : Try.prog.cellsOf 3 = 1 := by kernel_rfl
  obtain ⟨dd, h4⟩ : ∃ dd, Try.prog.types.size = dd + 1 := ⟨_, (Nat.succ_pred_eq_of_pos (Nat.lt_of_le_of_lt (Nat.zero_le _) unitRow)).symm⟩
  have h5 : (Value.agg #[.int .i64 a, .int .i64 b]).formed Try.prog 111 = true := by simp [Value.formed, Try.underlying111, h2]
  have h6 : ∀ d (x : Int), (Lit.int .i64 x).wf = true → Try.prog.keyLits (d + 1) 3 [.int .i64 x] = some [.int .i64 x] := fun d x hx => by
    unfold Program.keyLits
    rw [Try.underlying3]
    simp [hx]
  have h7 : Try.prog.keyLits (dd + 1 + 1) 111 [.int .i64 a, .int .i64 b] = some [.int .i64 a, .int .i64 b] := by
    unfold Program.keyLits
    rw [Try.underlying111]
    simp [h2, h3, h6 dd a ha, h6 dd b hb]
  unfold keyOf
  rw [Try.underlying111]
  simp only [h1, h5, Bool.and_self, if_true]
  rw [h4]
  have h8 : (Value.agg #[.int .i64 a, .int .i64 b]).cells.toList = [.int .i64 a, .int .i64 b] := rfl
  rw [h8, h7]
  exact ⟨_, rfl⟩
/-- how many of the first k Ops use a unit of a class at a Slot -/
def tally (l : List Kop) (k : Nat) (s c : Int) : Nat := cnt (fun j => decide ((opAt l j).sl = s) && decide (clsv (opAt l j).o = c)) k
theorem tally_so (l : List Kop) (k : Nat) : tally l (k + 1) (opAt l k).sl (clsv (opAt l k).o) = soFar l k := rfl
theorem tally_step (l : List Kop) (k : Nat) (s c : Int) : tally l (k + 1) s c = if (opAt l k).sl = s ∧ clsv (opAt l k).o = c then tally l k s c + 1 else tally l k s c := by
  unfold tally
  show cnt _ k + (if (decide ((opAt l k).sl = s) && decide (clsv (opAt l k).o = c)) = true then 1 else 0) = _
  by_cases h : (opAt l k).sl = s ∧ clsv (opAt l k).o = c
  · rw [if_pos h, if_pos (by rw [decide_eq_true h.1, decide_eq_true h.2]; rfl)]
  · rw [if_neg h, if_neg (by simpa using h)]; rfl
/-- the map holds the first k -/
def MapOk (l : List Kop) (k b : Nat) (x : World) : Prop :=
  ∃ D : DataW Unit, x.ownsMap Try.prog 111 (plainElem Try.prog 3) b k D ∧ Maps.IsMap D ∧ ∀ s c kl, keyOf Try.prog 111 (.agg #[.int .i64 s, .int .i64 c]) = some kl → D.atKey kl (.lit (.int .i64 0)) = .lit (.int .i64 (tally l k s c))
theorem MapOk.below {l : List Kop} {k b : Nat} {x y : World} (h : MapOk l k b x) (hb : Below x.heap.size x y) : MapOk l k b y := by
  obtain ⟨D, h1, h2, h3⟩ := h
  refine ⟨D, h1.kept (row := none) ⟨hb.os, hb.tape, hb.output, hb.size, fun i hi _ => hb.block i hi⟩ (by simp), h2, h3⟩
theorem MapOk.look {l : List Kop} {k b : Nat} {x : World} (h : MapOk l k b x) (s c : Int) (hs : (Lit.int .i64 s).wf = true) (hc : (Lit.int .i64 c).wf = true) : (Instr.lookup 109 (.map (some b)) (.agg #[.int .i64 s, .int .i64 c]) false).run Try.prog x = .ok (.int .i64 (tally l k s c)) x := by
  obtain ⟨D, h1, h2, h3⟩ := h
  obtain ⟨kl, hkl⟩ := unitKey s c hs hc
  obtain ⟨q, hr, hat, _⟩ := h1.lookup_int (Maps.Keyed.of_law unitLaw) Try.underlying109 Try.underlying3 (unitZero _) hkl
  rw [h3 s c kl hkl] at hat
  injection hat with e1
  injection e1 with _ e2
  rw [hr, e2]
/-- one Op more: the entry, and the store -/
theorem MapOk.step {l : List Kop} {k b : Nat} {x : World} (h : MapOk l k b x) (hk : k < l.length) (h16 : l.length ≤ 16) (s c : Int) (hs : (opAt l k).sl = s) (hc : clsv (opAt l k).o = c) (ws : (Lit.int .i64 s).wf = true) (wc : (Lit.int .i64 c).wf = true) :
    ∃ v0 st w1, (Instr.mapEntry 109 (.map (some b)) (.agg #[.int .i64 s, .int .i64 c])).run Try.prog x = .ok (.tuple #[v0, goInt st]) w1 ∧ x.grownBy w1 (some b) ∧ (Instr.lookup 109 (.map (some b)) (.agg #[.int .i64 s, .int .i64 c]) false).run Try.prog w1 = .ok (.int .i64 (tally l k s c)) w1 ∧
      ∃ w3, (Instr.entryStore 109 (.map (some b)) (goInt st) (.int .i64 ((tally l k s c : Int) + 1))).run Try.prog w1 = .ok () w3 ∧ w1.grownBy w3 (some b) ∧ MapOk l (k + 1) b w3 := by
  have hl := h.look s c ws wc
  obtain ⟨D, h1, h2, h3⟩ := h
  obtain ⟨kl, hkl⟩ := unitKey s c ws wc
  have ht16 : tally l k s c ≤ 16 := Nat.le_trans (cnt_le _ _) (by omega)
  obtain ⟨v0, st, w1, e1, e2, e3, e4⟩ := entry_own unitLaw Try.underlying109 Try.underlying3 unitZero h1 (by unfold maxLen; omega) hkl hl
  obtain ⟨w3, f1, f2, f3⟩ := e4 w1 ((tally l k s c : Int) + 1) rfl (WalkArith.wf_i64 (by omega))
  refine ⟨v0, st, w1, e1, e2, e3, w3, f1, f2, D.put kl (.lit (.int .i64 ((tally l k s c : Int) + 1))), f3, h2.put _ _, fun s' c' kl' hkl' => ?_⟩
  by_cases e : kl' = kl
  · subst e
    have hv := unitLaw.inj hkl hkl'
    injection hv with hv
    have hv2 : s = s' ∧ c = c' := by simpa using hv
    obtain ⟨rfl, rfl⟩ := hv2
    rw [Maps.atKey_put_same h2 ((Maps.Keyed.of_law unitLaw).key hkl'), tally_step, if_pos ⟨hs, hc⟩]
    rfl
  · rw [Maps.atKey_put_other e, h3 s' c' kl' hkl', tally_step, if_neg fun h => e ?_]
    have : s' = s ∧ c' = c := ⟨h.1.symm.trans hs, h.2.symm.trans hc⟩
    rw [this.1, this.2, hkl] at hkl'
    exact (Option.some.inj hkl').symm
theorem goInt_is (n : Int) : goInt n = .int .i64 n := rfl
theorem units_at (t : Tg) (c : Nat) (hc : c < 3) (w : World) (x : World) (h : x.heap[w.heap.size]? = some (.cells #[.int .i64 t.u0, .int .i64 t.u1, .int .i64 t.u2, .int .i64 t.w0, .int .i64 t.w1, .int .i64 t.w2, .int .i64 t.r] 49 (0, 0))) : x.cell? ⟨w.heap.size, c, none⟩ = some (.int .i64 (unitsT t c)) := by
  rw [cell_of_block h]
  obtain rfl | rfl | rfl : c = 0 ∨ c = 1 ∨ c = 2 := by omega
  all_goals rfl
set_option maxHeartbeats 8000000 in
theorem units_any (p0 p1 p2 q0 q1 q2 r pc st : Int) (ops : List Kop) (ka : Option Addr) (kc : Nat) (w : World) (hK : OpsV w (.slice ka ops.length kc) ops) (h16 : ops.length ≤ 16) (hsl : ∀ x ∈ ops, 0 ≤ x.sl ∧ x.sl ≤ 1000) :
    Calls Try.prog 60 #[.agg #[.int .i64 p0, .int .i64 p1, .int .i64 p2, .int .i64 q0, .int .i64 q1, .int .i64 q2, .int .i64 r], .agg #[.int .i64 pc, .int .i64 st, .slice ka ops.length kc]] w fun e w' => e = .returned (.bool (unitsP ⟨p0, p1, p2, q0, q1, q2, r⟩ ops)) ∧ Below w.heap.size w w' := by
  obtain ⟨ka', kc', hk1, hk2, hk3, hkc⟩ := hK
  injection hk1 with e1 e2 e3
  subst e1; subst e3
  unfold maxLen at hk3
  have HKC := hide hkc
  have HSL := hide hsl
  have hmm := @run_makeMap Try.prog
  have H0 : Hid (MapOk ops 0 (w.heap.size + 1 + 1) (((w.alloc (.cells #[.int .i64 p0, .int .i64 p1, .int .i64 p2, .int .i64 q0, .int .i64 q1, .int .i64 q2, .int .i64 r] 49)).alloc (.cells #[.int .i64 pc, .int .i64 st, .slice ka ops.length kc] 55)).alloc (.map #[] 0))) := by
    show MapOk _ _ _ _
    have h := World.ownsMap_made (H := Unit) ((w.alloc (.cells #[.int .i64 p0, .int .i64 p1, .int .i64 p2, .int .i64 q0, .int .i64 q1, .int .i64 q2, .int .i64 r] 49)).alloc (.cells #[.int .i64 pc, .int .i64 st, .slice ka ops.length kc] 55)) Try.prog 111 (plainElem Try.prog 3)
    have e : ((w.alloc (.cells #[.int .i64 p0, .int .i64 p1, .int .i64 p2, .int .i64 q0, .int .i64 q1, .int .i64 q2, .int .i64 r] 49)).alloc (.cells #[.int .i64 pc, .int .i64 st, .slice ka ops.length kc] 55)).heap.size = w.heap.size + 1 + 1 := by simp
    rw [e] at h
    exact ⟨_, h, Maps.isMap_empty, fun s c kl _ => rfl⟩
  clear hkc hsl e2
  go_enter Try.func60, Try.ntmps60
  go_wp2_with fail
  go_loopw [13] (fun i wr => ∃ k : Nat, k ≤ ops.length ∧ i = .int .i64 k ∧ allN (fun i => decide ((soFar ops i : Int) ≤ unitsT ⟨p0, p1, p2, q0, q1, q2, r⟩ (clsv (opAt ops i).o))) k = true ∧ Below (w.heap.size + 1 + 1) ((w.alloc (.cells #[.int .i64 p0, .int .i64 p1, .int .i64 p2, .int .i64 q0, .int .i64 q1, .int .i64 q2, .int .i64 r] 49)).alloc (.cells #[.int .i64 pc, .int .i64 st, .slice ka ops.length kc] 55)) wr ∧ MapOk ops k (w.heap.size + 1 + 1) wr) (fun i _ => ops.length - (intOf i).toNat)
  case atStart => exact ⟨0, Nat.zero_le _, rfl, rfl, (Below.refl _ _).alloc (by simp) _, H0.out⟩
  case round =>
    clear H0 hmm
    obtain ⟨k, hk, rfl, hall, hbel, hM⟩ := hrel
    have HA := hide hall
    have HB := hide hbel
    have HM := hide hM
    have hbw : Below w.heap.size w wr := (below_alloc2 _ _ _).trans (hbel.mono (by omega))
    have hsz : w.heap.size + 1 + 1 ≤ wr.heap.size := by have := hbel.size; simp at this; omega
    clear hall hM
    by_cases hkl : k < ops.length
    · have hki : (k : Int) < (ops.length : Int) := by omega
      obtain ⟨ob, oo, rfl, hob, hocell⟩ := HKC.out (by omega)
      obtain ⟨c0, c1, c2, c3, c4, c5, c6, c7, c8, c9⟩ := ten (hocell k hkl)
      rw [← bcell hbw _ _ hob] at c0 c1 c2 c3 c4 c5 c6 c7 c8 c9
      have hobz : ob < wr.heap.size := by omega
      have HBW := hide hbw
      obtain ⟨s0, s1⟩ := HSL.out _ (opAt_in hkl)
      obtain ⟨cn, hcn, hcn3⟩ : ∃ cn : Nat, clsv (opAt ops k).o = (cn : Int) ∧ cn < 3 := by
        rcases cls_three (opAt ops k).o with h | h | h
        · exact ⟨0, h, by omega⟩
        · exact ⟨1, h, by omega⟩
        · exact ⟨2, h, by omega⟩
      have HTG : Hid (∀ x, Below (w.heap.size + 1 + 1) wr x → x.cell? ⟨w.heap.size, cn, none⟩ = some (.int .i64 (unitsT ⟨p0, p1, p2, q0, q1, q2, r⟩ cn))) := fun x hx => units_at ⟨p0, p1, p2, q0, q1, q2, r⟩ cn hcn3 w x (by
        rw [hx.block _ (by omega), HB.out.block _ (by omega), Below.heap_alloc _ _ _ (by simp)]
        exact new_block _ _ _)
      have HSTEP := hide (fun (x : World) (h : MapOk ops k (w.heap.size + 1 + 1) x) => h.step hkl h16 _ cn rfl hcn (WalkArith.wf_i64 (by omega)) (WalkArith.wf_i64 (by omega)))
      have HLOOK := hide (fun (x : World) (h : MapOk ops k (w.heap.size + 1 + 1) x) => h.look (opAt ops k).sl cn (WalkArith.wf_i64 (by omega)) (WalkArith.wf_i64 (by omega)))
      have HLOOK2 := hide (fun (x : World) (h : MapOk ops (k + 1) (w.heap.size + 1 + 1) x) => h.look (opAt ops k).sl cn (WalkArith.wf_i64 (by omega)) (WalkArith.wf_i64 (by omega)))
      have HCL : Hid (∀ W, Calls Try.prog 12 #[.int .i64 (opAt ops k).o] W fun e w' => e = .returned (.int .i64 cn) ∧ w' = W) := fun W => by rw [← hcn]; exact class_any _ _
      have hcc : tally ops (k + 1) (opAt ops k).sl cn = tally ops k (opAt ops k).sl cn + 1 := by rw [tally_step, if_pos ⟨rfl, hcn⟩]
      have HSO : Hid (soFar ops k = tally ops k (opAt ops k).sl cn + 1) := by show _ = _; rw [← hcc, ← hcn, tally_so]
      have hcc16 : tally ops k (opAt ops k).sl cn ≤ 16 := Nat.le_trans (cnt_le _ _) (by omega)
      rw [hcc] at HLOOK2
      have HUN : Hid (unitsT ⟨p0, p1, p2, q0, q1, q2, r⟩ (clsv (opAt ops k).o) = unitsT ⟨p0, p1, p2, q0, q1, q2, r⟩ cn) := by show _ = _; rw [hcn]
      generalize tally ops k (opAt ops k).sl cn = cc at *
      generalize unitsT ⟨p0, p1, p2, q0, q1, q2, r⟩ (cn : Int) = un at *
      clear hcn hcc hocell hbw hbel
      have HXX : Hid (∃ xk, opAt ops k = xk) := ⟨_, rfl⟩
      generalize hxk : opAt ops k = xk at *
      have HXK := hide hxk
      clear hxk HXX
      obtain ⟨sl, sg, o, d, a, b, ar, sp, pl, nn⟩ := xk
      simp only at c0 c1 c2 c3 c4 c5 c6 c7 c8 c9 s0 s1 HSTEP HLOOK HLOOK2 HCL HSO HUN
      go_wp2_with fail
      clear c0 c1 c2 c3 c4 c5 c6 c7 c8 c9
      go_region_held3 (fun w' => w'.cell? ⟨wr.heap.size, 0, none⟩ = some (.int .i64 sl) ∧ w'.cell? ⟨wr.heap.size, 2, none⟩ = some (.int .i64 o)) ((go_keep; done)) (first | (go_at_call 12; refine (HCL.out _).mono ?_; rintro e w' ⟨rfl, hw'⟩; have hw' := hw'.symm; subst hw'))
      all_goals
        have HY := hide (HM.out.below ((below_alloc2 wr (.cells #[.int .i64 sl, .int .i64 sg, .int .i64 o, .int .i64 d, .int .i64 a, .int .i64 b, .int .i64 ar, .int .i64 sp, .int .i64 pl, .int .i64 nn] 68) (.cells #[.int .i64 sl, .int .i64 cn] 111)).drew.drew))
        have hblt : w.heap.size + 1 + 1 < wr.heap.size := by obtain ⟨D, h1, _⟩ := HM.out; exact h1.lt
        obtain ⟨v0, stp, w1, e1, e2, e3, w3, f1, f2, f3⟩ := HSTEP.out _ HY.out
        rw [goInt_is] at e1 f1
        have hcn3i : (cn : Int) < 3 := by omega
        have hwr : IntKind.i64.wrap ((cc : Int) + 1) = (cc : Int) + 1 := i64_wrap _ (by omega) (by omega)
        have HBY : Hid (((wr.alloc (.cells #[.int .i64 sl, .int .i64 sg, .int .i64 o, .int .i64 d, .int .i64 a, .int .i64 b, .int .i64 ar, .int .i64 sp, .int .i64 pl, .int .i64 nn] 68)).alloc (.cells #[.int .i64 sl, .int .i64 cn] 111)).heap[wr.heap.size + 1]? = some (.cells #[.int .i64 sl, .int .i64 cn] 111 (0, 0))) := by
          show _ = _
          have e : (wr.alloc (.cells #[.int .i64 sl, .int .i64 sg, .int .i64 o, .int .i64 d, .int .i64 a, .int .i64 b, .int .i64 ar, .int .i64 sp, .int .i64 pl, .int .i64 nn] 68)).heap.size = wr.heap.size + 1 := by simp
          rw [← e]; exact new_block _ _ _
        have HB1 : Hid (w1.heap[wr.heap.size + 1]? = some (.cells #[.int .i64 sl, .int .i64 cn] 111 (0, 0))) := by show _ = _; rw [e2.block _ (by simp) (by intro e; have := Option.some.inj e; omega)]; exact HBY.out
        have HB3 : Hid (w3.heap[wr.heap.size + 1]? = some (.cells #[.int .i64 sl, .int .i64 cn] 111 (0, 0))) := by show _ = _; rw [f2.block _ (Array.getElem?_eq_some_iff.1 HB1.out).1 (by intro e; have := Option.some.inj e; omega)]; exact HB1.out
        have HW3 : Hid (Below (w.heap.size + 1 + 1) wr w3) := (((((below_alloc2 wr (.cells #[.int .i64 sl, .int .i64 sg, .int .i64 o, .int .i64 d, .int .i64 a, .int .i64 b, .int .i64 ar, .int .i64 sp, .int .i64 pl, .int .i64 nn] 68) (.cells #[.int .i64 sl, .int .i64 cn] 111)).drew.drew).mono (by omega)).grown e2 (by simp; omega) (fun q hq => by have := Option.some.inj hq; omega)).grown f2 (by have := e2.size; simp at this; omega) (fun q hq => by have := Option.some.inj hq; omega))
        have HM3 := hide f3
        have c60 : w1.cell? ⟨wr.heap.size + 1, 0, none⟩ = some (.int .i64 sl) ∧ w1.cell? ⟨wr.heap.size + 1, 1, none⟩ = some (.int .i64 cn) ∧ (Instr.lookup 109 (.map (some (w.heap.size + 1 + 1))) (.agg #[.int .i64 sl, .int .i64 cn]) false).run Try.prog w1 = .ok (.int .i64 cc) w1 := ⟨by rw [cell_of_block HB1.out]; rfl, by rw [cell_of_block HB1.out]; rfl, e3⟩
        have H60 := hide c60
        have H7 : Hid (w3.drew.cell? ⟨wr.heap.size + 1, 0, none⟩ = some (.int .i64 sl) ∧ w3.drew.cell? ⟨wr.heap.size + 1, 1, none⟩ = some (.int .i64 cn) ∧ w3.drew.cell? ⟨w.heap.size, cn, none⟩ = some (.int .i64 un) ∧ (Instr.lookup 109 (.map (some (w.heap.size + 1 + 1))) (.agg #[.int .i64 sl, .int .i64 cn]) false).run Try.prog w3.drew = .ok (.int .i64 ((cc : Int) + 1)) w3.drew) := ⟨by show w3.cell? _ = _; rw [cell_of_block HB3.out]; rfl, by show w3.cell? _ = _; rw [cell_of_block HB3.out]; rfl, HTG.out _ HW3.out.drew, by have h := HLOOK2.out _ (HM3.out.below (Below.refl _ _).drew); rw [Int.natCast_add] at h; exact h⟩
        clear f3 e2 e3 f2 c60
        go_wp2_with fail
        refine wp_region_noPanic ?_
        refine region_until 6 (fun w' => w'.cell? ⟨wr.heap.size + 1, 0, none⟩ = some (.int .i64 sl) ∧ w'.cell? ⟨wr.heap.size + 1, 1, none⟩ = some (.int .i64 cn) ∧ (Instr.lookup 109 (.map (some (w.heap.size + 1 + 1))) (.agg #[.int .i64 sl, .int .i64 cn]) false).run Try.prog w' = .ok (.int .i64 cc) w') (by kernel_rfl) (⟨by rw [cell_of_block (w := ((wr.alloc (.cells #[.int .i64 sl, .int .i64 sg, .int .i64 o, .int .i64 d, .int .i64 a, .int .i64 b, .int .i64 ar, .int .i64 sp, .int .i64 pl, .int .i64 nn] 68)).alloc (.cells #[.int .i64 sl, .int .i64 cn] 111)).drew.drew) HBY.out]; rfl, by rw [cell_of_block (w := ((wr.alloc (.cells #[.int .i64 sl, .int .i64 sg, .int .i64 o, .int .i64 d, .int .i64 a, .int .i64 b, .int .i64 ar, .int .i64 sp, .int .i64 pl, .int .i64 nn] 68)).alloc (.cells #[.int .i64 sl, .int .i64 cn] 111)).drew.drew) HBY.out]; rfl, HLOOK.out _ HY.out⟩) (fun hHeld => ?_)
        refine until_take (i := 0) (v := ?_) rfl (by kernel_rfl) (by kernel_rfl) (by kernel_rfl) (by kernel_rfl) (fun _ _ _ h => h) (Or.inl ⟨by rfl, ?_⟩) hHeld ?_
        rotate_left
        · intro w hSw
          try dsimp only at hSw
          go_simp
          try with_reducible rfl
        try simp only [Act.put, List.setIfInBounds_toArray, List.set_cons_zero, List.set_cons_succ]
        refine until_take (i := 1) (v := ?_) rfl (by kernel_rfl) (by kernel_rfl) (by kernel_rfl) (by kernel_rfl) (fun _ _ _ h => h) (Or.inl ⟨by rfl, ?_⟩) hHeld ?_
        rotate_left
        · intro w hSw
          try dsimp only at hSw
          go_simp
          try with_reducible rfl
        try simp only [Act.put, List.setIfInBounds_toArray, List.set_cons_zero, List.set_cons_succ]
        refine until_take (i := 2) (v := ?_) rfl (by kernel_rfl) (by kernel_rfl) (by kernel_rfl) (by kernel_rfl) (fun _ _ _ h => h) (Or.inl ⟨by rfl, ?_⟩) hHeld ?_
        rotate_left
        · intro w hSw
          try dsimp only at hSw
          go_simp
          try with_reducible rfl
        try simp only [Act.put, List.setIfInBounds_toArray, List.set_cons_zero, List.set_cons_succ]
        refine until_take (i := 3) (v := ?_) rfl (by kernel_rfl) (by kernel_rfl) (by kernel_rfl) (by kernel_rfl) (fun _ _ _ h => h) (Or.inl ⟨by rfl, ?_⟩) hHeld ?_
        rotate_left
        · intro w hSw
          try dsimp only at hSw
          go_simp
          try with_reducible rfl
        try simp only [Act.put, List.setIfInBounds_toArray, List.set_cons_zero, List.set_cons_succ]
        refine until_one (i := 4) rfl (by kernel_rfl) (fun K hK => ?_)
        go_simp
        refine hK.out _ _ (.inr H60.out) ?_
        clear hK K hHeld
        try simp only [Act.put, List.setIfInBounds_toArray, List.set_cons_zero, List.set_cons_succ]
        have hHeld := H60.out
        refine until_take (i := 5) (v := ?_) rfl (by kernel_rfl) (by kernel_rfl) (by kernel_rfl) (by kernel_rfl) (fun _ _ _ h => h) (Or.inl ⟨by rfl, ?_⟩) hHeld ?_
        rotate_left
        · intro w hSw
          try dsimp only at hSw
          go_simp
          try with_reducible rfl
        try simp only [Act.put, List.setIfInBounds_toArray, List.set_cons_zero, List.set_cons_succ]
        refine until_one (i := 6) rfl (by kernel_rfl) (fun K hK => ?_)
        go_simp
        refine hK.out _ _ (.inl rfl) ?_
        clear hK K hHeld
        try simp only [Act.put, List.setIfInBounds_toArray, List.set_cons_zero, List.set_cons_succ]
        refine until_done (by kernel_rfl) ?_ _
        refine NoPanic.normal ?_
        clear e1 f1
        by_cases hgt : un < (cc : Int) + 1
        · have hgt2 : decide (un < (cc : Int) + 1) = true := decide_eq_true hgt
          have HF : Hid (unitsP ⟨p0, p1, p2, q0, q1, q2, r⟩ ops = false) := allN_false hkl (decide_eq_false (by rw [HXK.out, HSO.out, HUN.out]; omega))
          go_wp2_with fail
          refine wp_region_noPanic ?_
          refine region_until 99 (fun w' => w'.cell? ⟨wr.heap.size + 1, 0, none⟩ = some (.int .i64 sl) ∧ w'.cell? ⟨wr.heap.size + 1, 1, none⟩ = some (.int .i64 cn) ∧ w'.cell? ⟨w.heap.size, cn, none⟩ = some (.int .i64 un) ∧ (Instr.lookup 109 (.map (some (w.heap.size + 1 + 1))) (.agg #[.int .i64 sl, .int .i64 cn]) false).run Try.prog w' = .ok (.int .i64 (cc + 1)) w') (by kernel_rfl) H7.out (fun hHeld => ?_)
          refine until_take (i := 0) (v := ?_) rfl (by kernel_rfl) (by kernel_rfl) (by kernel_rfl) (by kernel_rfl) (fun _ _ _ h => h) (Or.inl ⟨by rfl, ?_⟩) hHeld ?_
          rotate_left
          · intro w hSw
            try dsimp only at hSw
            go_simp
            try with_reducible rfl
          try simp only [Act.put, List.setIfInBounds_toArray, List.set_cons_zero, List.set_cons_succ]
          refine until_take (i := 1) (v := ?_) rfl (by kernel_rfl) (by kernel_rfl) (by kernel_rfl) (by kernel_rfl) (fun _ _ _ h => h) (Or.inl ⟨by rfl, ?_⟩) hHeld ?_
          rotate_left
          · intro w hSw
            try dsimp only at hSw
            go_simp
            try with_reducible rfl
          try simp only [Act.put, List.setIfInBounds_toArray, List.set_cons_zero, List.set_cons_succ]
          refine until_take (i := 2) (v := ?_) rfl (by kernel_rfl) (by kernel_rfl) (by kernel_rfl) (by kernel_rfl) (fun _ _ _ h => h) (Or.inl ⟨by rfl, ?_⟩) hHeld ?_
          rotate_left
          · intro w hSw
            try dsimp only at hSw
            go_simp
            try with_reducible rfl
          try simp only [Act.put, List.setIfInBounds_toArray, List.set_cons_zero, List.set_cons_succ]
          refine until_take (i := 3) (v := ?_) rfl (by kernel_rfl) (by kernel_rfl) (by kernel_rfl) (by kernel_rfl) (fun _ _ _ h => h) (Or.inl ⟨by rfl, ?_⟩) hHeld ?_
          rotate_left
          · intro w hSw
            try dsimp only at hSw
            go_simp
            try with_reducible rfl
          try simp only [Act.put, List.setIfInBounds_toArray, List.set_cons_zero, List.set_cons_succ]
          refine until_take (i := 4) (v := ?_) rfl (by kernel_rfl) (by kernel_rfl) (by kernel_rfl) (by kernel_rfl) (fun _ _ _ h => h) (Or.inl ⟨by rfl, ?_⟩) hHeld ?_
          rotate_left
          · intro w hSw
            try dsimp only at hSw
            go_simp
            try with_reducible rfl
          try simp only [Act.put, List.setIfInBounds_toArray, List.set_cons_zero, List.set_cons_succ]
          refine until_take (i := 5) (v := ?_) rfl (by kernel_rfl) (by kernel_rfl) (by kernel_rfl) (by kernel_rfl) (fun _ _ _ h => h) (Or.inl ⟨by rfl, ?_⟩) hHeld ?_
          rotate_left
          · intro w hSw
            try dsimp only at hSw
            go_simp
            try with_reducible rfl
          try simp only [Act.put, List.setIfInBounds_toArray, List.set_cons_zero, List.set_cons_succ]
          refine until_take (i := 6) (v := ?_) rfl (by kernel_rfl) (by kernel_rfl) (by kernel_rfl) (by kernel_rfl) (fun _ _ _ h => h) (Or.inl ⟨by rfl, ?_⟩) hHeld ?_
          rotate_left
          · intro w hSw
            try dsimp only at hSw
            go_simp
            try with_reducible rfl
          try simp only [Act.put, List.setIfInBounds_toArray, List.set_cons_zero, List.set_cons_succ]
          refine until_take (i := 7) (v := ?_) rfl (by kernel_rfl) (by kernel_rfl) (by kernel_rfl) (by kernel_rfl) (fun _ _ _ h => h) (Or.inl ⟨by rfl, ?_⟩) hHeld ?_
          rotate_left
          · intro w hSw
            try dsimp only at hSw
            go_simp
            try with_reducible rfl
          try simp only [Act.put, List.setIfInBounds_toArray, List.set_cons_zero, List.set_cons_succ]
          refine until_take (i := 8) (v := ?_) rfl (by kernel_rfl) (by kernel_rfl) (by kernel_rfl) (by kernel_rfl) (fun _ _ _ h => h) (Or.inl ⟨by rfl, ?_⟩) hHeld ?_
          rotate_left
          · intro w hSw
            try dsimp only at hSw
            go_simp
            try with_reducible rfl
          try simp only [Act.put, List.setIfInBounds_toArray, List.set_cons_zero, List.set_cons_succ]
          refine until_done (by kernel_rfl) ?_ _
          refine NoPanic.normal ?_
          go_wp2_with fail
          go_ret
          exact ⟨ret_bool HF.out.symm, HBW.out.trans ((HW3.out.drew).mono (by omega))⟩
        · have hgt2 : decide (un < (cc : Int) + 1) = false := decide_eq_false hgt
          have HT : Hid (decide ((soFar ops k : Int) ≤ unitsT ⟨p0, p1, p2, q0, q1, q2, r⟩ (clsv (opAt ops k).o)) = true) := decide_eq_true (by rw [HXK.out, HSO.out, HUN.out]; omega)
          go_wp2_with fail
          refine wp_region_noPanic ?_
          refine region_until 99 (fun w' => w'.cell? ⟨wr.heap.size + 1, 0, none⟩ = some (.int .i64 sl) ∧ w'.cell? ⟨wr.heap.size + 1, 1, none⟩ = some (.int .i64 cn) ∧ w'.cell? ⟨w.heap.size, cn, none⟩ = some (.int .i64 un) ∧ (Instr.lookup 109 (.map (some (w.heap.size + 1 + 1))) (.agg #[.int .i64 sl, .int .i64 cn]) false).run Try.prog w' = .ok (.int .i64 (cc + 1)) w') (by kernel_rfl) H7.out (fun hHeld => ?_)
          refine until_take (i := 0) (v := ?_) rfl (by kernel_rfl) (by kernel_rfl) (by kernel_rfl) (by kernel_rfl) (fun _ _ _ h => h) (Or.inl ⟨by rfl, ?_⟩) hHeld ?_
          rotate_left
          · intro w hSw
            try dsimp only at hSw
            go_simp
            try with_reducible rfl
          try simp only [Act.put, List.setIfInBounds_toArray, List.set_cons_zero, List.set_cons_succ]
          refine until_take (i := 1) (v := ?_) rfl (by kernel_rfl) (by kernel_rfl) (by kernel_rfl) (by kernel_rfl) (fun _ _ _ h => h) (Or.inl ⟨by rfl, ?_⟩) hHeld ?_
          rotate_left
          · intro w hSw
            try dsimp only at hSw
            go_simp
            try with_reducible rfl
          try simp only [Act.put, List.setIfInBounds_toArray, List.set_cons_zero, List.set_cons_succ]
          refine until_take (i := 2) (v := ?_) rfl (by kernel_rfl) (by kernel_rfl) (by kernel_rfl) (by kernel_rfl) (fun _ _ _ h => h) (Or.inl ⟨by rfl, ?_⟩) hHeld ?_
          rotate_left
          · intro w hSw
            try dsimp only at hSw
            go_simp
            try with_reducible rfl
          try simp only [Act.put, List.setIfInBounds_toArray, List.set_cons_zero, List.set_cons_succ]
          refine until_take (i := 3) (v := ?_) rfl (by kernel_rfl) (by kernel_rfl) (by kernel_rfl) (by kernel_rfl) (fun _ _ _ h => h) (Or.inl ⟨by rfl, ?_⟩) hHeld ?_
          rotate_left
          · intro w hSw
            try dsimp only at hSw
            go_simp
            try with_reducible rfl
          try simp only [Act.put, List.setIfInBounds_toArray, List.set_cons_zero, List.set_cons_succ]
          refine until_take (i := 4) (v := ?_) rfl (by kernel_rfl) (by kernel_rfl) (by kernel_rfl) (by kernel_rfl) (fun _ _ _ h => h) (Or.inl ⟨by rfl, ?_⟩) hHeld ?_
          rotate_left
          · intro w hSw
            try dsimp only at hSw
            go_simp
            try with_reducible rfl
          try simp only [Act.put, List.setIfInBounds_toArray, List.set_cons_zero, List.set_cons_succ]
          refine until_take (i := 5) (v := ?_) rfl (by kernel_rfl) (by kernel_rfl) (by kernel_rfl) (by kernel_rfl) (fun _ _ _ h => h) (Or.inl ⟨by rfl, ?_⟩) hHeld ?_
          rotate_left
          · intro w hSw
            try dsimp only at hSw
            go_simp
            try with_reducible rfl
          try simp only [Act.put, List.setIfInBounds_toArray, List.set_cons_zero, List.set_cons_succ]
          refine until_take (i := 6) (v := ?_) rfl (by kernel_rfl) (by kernel_rfl) (by kernel_rfl) (by kernel_rfl) (fun _ _ _ h => h) (Or.inl ⟨by rfl, ?_⟩) hHeld ?_
          rotate_left
          · intro w hSw
            try dsimp only at hSw
            go_simp
            try with_reducible rfl
          try simp only [Act.put, List.setIfInBounds_toArray, List.set_cons_zero, List.set_cons_succ]
          refine until_take (i := 7) (v := ?_) rfl (by kernel_rfl) (by kernel_rfl) (by kernel_rfl) (by kernel_rfl) (fun _ _ _ h => h) (Or.inl ⟨by rfl, ?_⟩) hHeld ?_
          rotate_left
          · intro w hSw
            try dsimp only at hSw
            go_simp
            try with_reducible rfl
          try simp only [Act.put, List.setIfInBounds_toArray, List.set_cons_zero, List.set_cons_succ]
          refine until_take (i := 8) (v := ?_) rfl (by kernel_rfl) (by kernel_rfl) (by kernel_rfl) (by kernel_rfl) (fun _ _ _ h => h) (Or.inl ⟨by rfl, ?_⟩) hHeld ?_
          rotate_left
          · intro w hSw
            try dsimp only at hSw
            go_simp
            try with_reducible rfl
          try simp only [Act.put, List.setIfInBounds_toArray, List.set_cons_zero, List.set_cons_succ]
          refine until_done (by kernel_rfl) ?_ _
          refine NoPanic.normal ?_
          go_wp2_with fail
          go_roundw
          case rel => exact ⟨k + 1, by omega, by go_num, allN_step HA.out HT.out, HB.out.trans HW3.out.drew, HM3.out.below (Below.refl _ _).drew⟩
          case measure => simp [intOf]; omega
    · have e : k = ops.length := by omega
      subst e
      have hki : ¬ (ops.length : Int) < (ops.length : Int) := by omega
      have HBW := hide hbw
      clear hbw hbel
      go_wp2_with fail
      go_ret
      exact ⟨ret_bool HA.out.symm, HBW.out⟩
end Go.Proofs.Ytlgphgfldfjkkaa
