/- KernQ: texts that are built as one: KernUnits, KernMay, KernLogs, KernBeg, KernAll1, KernelAll. -/
import Derived.Test.YtpljieenjkbmmaaKernS
import Derived.Test.YtpljieenjkbmmaaBase
import Derived.Test.YtpljieenjkbmmaaKernM
import Derived.DeepKeys4
import Derived.Deep.RegionHeld3
import Derived.Test.YtpljieenjkbmmaaTarget
import Derived.Test.YtpljieenjkbmmaaKernP
import Derived.Test.YtpljieenjkbmmaaRef5A
import Derived.Lib.BitFns
import Derived.Lib.Small
import Derived.Lib.Walk
import Derived.Lib.SliceRun
import Derived.Test.YtpljieenjkbmmaaRef5B
import Derived.Deep.AppendLies
/- The contract of the units that are used: they stand in a map, by Slot and class; nothing that was there is changed. -/
namespace Go.Proofs.Ytpljieenjkbmmaa
open Go.RowKit Go.Joins
open Go.WideMaps (KeyLaw)
set_option linter.unusedVariables false
set_option linter.unusedSimpArgs false
set_option maxRecDepth 8192

theorem laidOut : laidOutB Try.prog = true := by kernel_rfl
theorem unitRow : (133 : TypeId) < Try.prog.types.size := of_decide_eq_true (by kernel_rfl)
theorem unitWide : (match Try.prog.underlying 133 with | some (.array _ _) | some (.struct _) => true | _ => false) = true := by kernel_rfl
theorem unitLaw : KeyLaw Try.prog 133 := deep_law_laid laidOut (m := 2) (by omega) unitRow (by kernel_rfl) unitWide
theorem unitZero (u : World) : (zeroValue 3).run Try.prog u = .ok (.int .i64 0) u := by kernel_rfl
theorem unitKey (a b : Int) (ha : (Lit.int .i64 a).wf = true) (hb : (Lit.int .i64 b).wf = true) : ∃ kl, keyOf Try.prog 133 (.agg #[.int .i64 a, .int .i64 b]) = some kl := by
  have h1 : Try.prog.keyType 133 = true := by kernel_rfl
  have h2 : Try.prog.cellsOf 133 = 2 := by kernel_rfl
  have h3 : Try.prog.cellsOf 3 = 1 := by kernel_rfl
  obtain ⟨dd, h4⟩ : ∃ dd, Try.prog.types.size = dd + 1 := ⟨_, (Nat.succ_pred_eq_of_pos (Nat.lt_of_le_of_lt (Nat.zero_le _) unitRow)).symm⟩
  have h5 : (Value.agg #[.int .i64 a, .int .i64 b]).formed Try.prog 133 = true := by simp [Value.formed, Try.underlying133, h2]
  have h6 : ∀ d (x : Int), (Lit.int .i64 x).wf = true → Try.prog.keyLits (d + 1) 3 [.int .i64 x] = some [.int .i64 x] := fun d x hx => by
    unfold Program.keyLits
    rw [Try.underlying3]
    simp [hx]
  have h7 : Try.prog.keyLits (dd + 1 + 1) 133 [.int .i64 a, .int .i64 b] = some [.int .i64 a, .int .i64 b] := by
    unfold Program.keyLits
    rw [Try.underlying133]
    simp [h2, h3, h6 dd a ha, h6 dd b hb]
  unfold keyOf
  rw [Try.underlying133]
  simp only [h1, h5, Bool.and_self, if_true]
  rw [h4]
  have h8 : (Value.agg #[.int .i64 a, .int .i64 b]).cells.toList = [.int .i64 a, .int .i64 b] := rfl
  rw [h8, h7]
  exact ⟨_, rfl⟩
/-- how many of the first k Ops use a unit of a class at a Slot -/
def tally (l : List Kop) (k : Nat) (s c : Int) : Nat := cnt (fun j => decide ((opAt l j).sl = s) && decide (clsv (opAt l j).o = c)) k
theorem tally_so (l : List Kop) (k : Nat) : tally l (k + 1) (opAt l k).sl (clsv (opAt l k).o) = soFar l k := rfl
theorem tally_step (l : List Kop) (k : Nat) (s c : Int) : tally l (k + 1) s c = if (opAt l k).sl = s ∧ clsv (opAt l k).o = c then tally l k s c + 1 else tally l k s c := by
  unfold tally
  show cnt _ k + (if (decide ((opAt l k).sl = s) && decide (clsv (opAt l k).o = c)) = true then 1 else 0) = _
  by_cases h : (opAt l k).sl = s ∧ clsv (opAt l k).o = c
  · rw [if_pos h, if_pos (by rw [decide_eq_true h.1, decide_eq_true h.2]; rfl)]
  · rw [if_neg h, if_neg (by simpa using h)]; rfl
/-- the map holds the first k -/
def MapOk (l : List Kop) (k b : Nat) (x : World) : Prop :=
  ∃ D : DataW Unit, x.ownsMap Try.prog 133 (plainElem Try.prog 3) b k D ∧ Maps.IsMap D ∧ ∀ s c kl, keyOf Try.prog 133 (.agg #[.int .i64 s, .int .i64 c]) = some kl → D.atKey kl (.lit (.int .i64 0)) = .lit (.int .i64 (tally l k s c))
theorem MapOk.below {l : List Kop} {k b : Nat} {x y : World} (h : MapOk l k b x) (hb : Below x.heap.size x y) : MapOk l k b y := by
  obtain ⟨D, h1, h2, h3⟩ := h
  refine ⟨D, h1.kept (row := none) ⟨hb.os, hb.tape, hb.output, hb.size, fun i hi _ => hb.block i hi⟩ (by simp), h2, h3⟩
theorem MapOk.look {l : List Kop} {k b : Nat} {x : World} (h : MapOk l k b x) (s c : Int) (hs : (Lit.int .i64 s).wf = true) (hc : (Lit.int .i64 c).wf = true) : (Instr.lookup 131 (.map (some b)) (.agg #[.int .i64 s, .int .i64 c]) false).run Try.prog x = .ok (.int .i64 (tally l k s c)) x := by
  obtain ⟨D, h1, h2, h3⟩ := h
  obtain ⟨kl, hkl⟩ := unitKey s c hs hc
  obtain ⟨q, hr, hat, _⟩ := h1.lookup_int (Maps.Keyed.of_law unitLaw) Try.underlying131 Try.underlying3 (unitZero _) hkl
  rw [h3 s c kl hkl] at hat
  injection hat with e1
  injection e1 with _ e2
  rw [hr, e2]
/-- one Op more: the entry, and the store -/
theorem MapOk.step {l : List Kop} {k b : Nat} {x : World} (h : MapOk l k b x) (hk : k < l.length) (h16 : l.length ≤ 16) (s c : Int) (hs : (opAt l k).sl = s) (hc : clsv (opAt l k).o = c) (ws : (Lit.int .i64 s).wf = true) (wc : (Lit.int .i64 c).wf = true) :
    ∃ v0 st w1, (Instr.mapEntry 131 (.map (some b)) (.agg #[.int .i64 s, .int .i64 c])).run Try.prog x = .ok (.tuple #[v0, goInt st]) w1 ∧ x.grownBy w1 (some b) ∧ (Instr.lookup 131 (.map (some b)) (.agg #[.int .i64 s, .int .i64 c]) false).run Try.prog w1 = .ok (.int .i64 (tally l k s c)) w1 ∧
      ∃ w3, (Instr.entryStore 131 (.map (some b)) (goInt st) (.int .i64 ((tally l k s c : Int) + 1))).run Try.prog w1 = .ok () w3 ∧ w1.grownBy w3 (some b) ∧ MapOk l (k + 1) b w3 := by
  have hl := h.look s c ws wc
  obtain ⟨D, h1, h2, h3⟩ := h
  obtain ⟨kl, hkl⟩ := unitKey s c ws wc
  have ht16 : tally l k s c ≤ 16 := Nat.le_trans (cnt_le _ _) (by omega)
  obtain ⟨v0, st, w1, e1, e2, e3, e4⟩ := entry_own unitLaw Try.underlying131 Try.underlying3 unitZero h1 (by unfold maxLen; omega) hkl hl
  obtain ⟨w3, f1, f2, f3⟩ := e4 w1 ((tally l k s c : Int) + 1) rfl (WalkArith.wf_i64 (by omega))
  refine ⟨v0, st, w1, e1, e2, e3, w3, f1, f2, D.put kl (.lit (.int .i64 ((tally l k s c : Int) + 1))), f3, h2.put _ _, fun s' c' kl' hkl' => ?_⟩
  by_cases e : kl' = kl
  · subst e
    have hv := unitLaw.inj hkl hkl'
    injection hv with hv
    have hv2 : s = s' ∧ c = c' := by simpa using hv
    obtain ⟨rfl, rfl⟩ := hv2
    rw [Maps.atKey_put_same h2 ((Maps.Keyed.of_law unitLaw).key hkl'), tally_step, if_pos ⟨hs, hc⟩]
    rfl
  · rw [Maps.atKey_put_other e, h3 s' c' kl' hkl', tally_step, if_neg fun h => e ?_]
    have : s' = s ∧ c' = c := ⟨h.1.symm.trans hs, h.2.symm.trans hc⟩
    rw [this.1, this.2, hkl] at hkl'
    exact (Option.some.inj hkl').symm
theorem goInt_is (n : Int) : goInt n = .int .i64 n := rfl
theorem units_at (t : Tg) (c : Nat) (hc : c < 3) (w : World) (x : World) (h : x.heap[w.heap.size]? = some (.cells #[.int .i64 t.u0, .int .i64 t.u1, .int .i64 t.u2, .int .i64 t.w0, .int .i64 t.w1, .int .i64 t.w2, .int .i64 t.r] 49 (0, 0))) : x.cell? ⟨w.heap.size, c, none⟩ = some (.int .i64 (unitsT t c)) := by
  rw [cell_of_block h]
  obtain rfl | rfl | rfl : c = 0 ∨ c = 1 ∨ c = 2 := by omega
  all_goals rfl
set_option maxHeartbeats 8000000 in
theorem units_any (p0 p1 p2 q0 q1 q2 r pc st : Int) (ops : List Kop) (ka : Option Addr) (kc : Nat) (w : World) (hK : OpsV w (.slice ka ops.length kc) ops) (h16 : ops.length ≤ 16) (hsl : ∀ x ∈ ops, 0 ≤ x.sl ∧ x.sl ≤ 1000) :
    Calls Try.prog 72 #[.agg #[.int .i64 p0, .int .i64 p1, .int .i64 p2, .int .i64 q0, .int .i64 q1, .int .i64 q2, .int .i64 r], .agg #[.int .i64 pc, .int .i64 st, .slice ka ops.length kc]] w fun e w' => e = .returned (.bool (unitsP ⟨p0, p1, p2, q0, q1, q2, r⟩ ops)) ∧ Below w.heap.size w w' := by
  obtain ⟨ka', kc', hk1, hk2, hk3, hkc⟩ := hK
  injection hk1 with e1 e2 e3
  subst e1; subst e3
  unfold maxLen at hk3
  have HKC := hide hkc
  have HSL := hide hsl
  have hmm := @run_makeMap Try.prog
  have H0 : Hid (MapOk ops 0 (w.heap.size + 1 + 1) (((w.alloc (.cells #[.int .i64 p0, .int .i64 p1, .int .i64 p2, .int .i64 q0, .int .i64 q1, .int .i64 q2, .int .i64 r] 49)).alloc (.cells #[.int .i64 pc, .int .i64 st, .slice ka ops.length kc] 55)).alloc (.map #[] 0))) := by
    show MapOk _ _ _ _
    have h := World.ownsMap_made (H := Unit) ((w.alloc (.cells #[.int .i64 p0, .int .i64 p1, .int .i64 p2, .int .i64 q0, .int .i64 q1, .int .i64 q2, .int .i64 r] 49)).alloc (.cells #[.int .i64 pc, .int .i64 st, .slice ka ops.length kc] 55)) Try.prog 133 (plainElem Try.prog 3)
    have e : ((w.alloc (.cells #[.int .i64 p0, .int .i64 p1, .int .i64 p2, .int .i64 q0, .int .i64 q1, .int .i64 q2, .int .i64 r] 49)).alloc (.cells #[.int .i64 pc, .int .i64 st, .slice ka ops.length kc] 55)).heap.size = w.heap.size + 1 + 1 := by simp
    rw [e] at h
    exact ⟨_, h, Maps.isMap_empty, fun s c kl _ => rfl⟩
  clear hkc hsl e2
  go_enter Try.func72, Try.ntmps72
  go_wp2_with fail
  go_loopw [13] (fun i wr => ∃ k : Nat, k ≤ ops.length ∧ i = .int .i64 k ∧ allN (fun i => decide ((soFar ops i : Int) ≤ unitsT ⟨p0, p1, p2, q0, q1, q2, r⟩ (clsv (opAt ops i).o))) k = true ∧ Below (w.heap.size + 1 + 1) ((w.alloc (.cells #[.int .i64 p0, .int .i64 p1, .int .i64 p2, .int .i64 q0, .int .i64 q1, .int .i64 q2, .int .i64 r] 49)).alloc (.cells #[.int .i64 pc, .int .i64 st, .slice ka ops.length kc] 55)) wr ∧ MapOk ops k (w.heap.size + 1 + 1) wr) (fun i _ => ops.length - (intOf i).toNat)
  case atStart => exact ⟨0, Nat.zero_le _, rfl, rfl, (Below.refl _ _).alloc (by simp) _, H0.out⟩
  case round =>
    clear H0 hmm
    obtain ⟨k, hk, rfl, hall, hbel, hM⟩ := hrel
    have HA := hide hall
    have HB := hide hbel
    have HM := hide hM
    have hbw : Below w.heap.size w wr := (below_alloc2 _ _ _).trans (hbel.mono (by omega))
    have hsz : w.heap.size + 1 + 1 ≤ wr.heap.size := by have := hbel.size; simp at this; omega
    clear hall hM
    by_cases hkl : k < ops.length
    · have hki : (k : Int) < (ops.length : Int) := by omega
      obtain ⟨ob, oo, rfl, hob, hocell⟩ := HKC.out (by omega)
      obtain ⟨c0, c1, c2, c3, c4, c5, c6, c7, c8, c9⟩ := ten (hocell k hkl)
      rw [← bcell hbw _ _ hob] at c0 c1 c2 c3 c4 c5 c6 c7 c8 c9
      have hobz : ob < wr.heap.size := by omega
      have HBW := hide hbw
      obtain ⟨s0, s1⟩ := HSL.out _ (opAt_in hkl)
      obtain ⟨cn, hcn, hcn3⟩ : ∃ cn : Nat, clsv (opAt ops k).o = (cn : Int) ∧ cn < 3 := by
        rcases cls_three (opAt ops k).o with h | h | h
        · exact ⟨0, h, by omega⟩
        · exact ⟨1, h, by omega⟩
        · exact ⟨2, h, by omega⟩
      have HTG : Hid (∀ x, Below (w.heap.size + 1 + 1) wr x → x.cell? ⟨w.heap.size, cn, none⟩ = some (.int .i64 (unitsT ⟨p0, p1, p2, q0, q1, q2, r⟩ cn))) := fun x hx => units_at ⟨p0, p1, p2, q0, q1, q2, r⟩ cn hcn3 w x (by
        rw [hx.block _ (by omega), HB.out.block _ (by omega), Below.heap_alloc _ _ _ (by simp)]
        exact new_block _ _ _)
      have HSTEP := hide (fun (x : World) (h : MapOk ops k (w.heap.size + 1 + 1) x) => h.step hkl h16 _ cn rfl hcn (WalkArith.wf_i64 (by omega)) (WalkArith.wf_i64 (by omega)))
      have HLOOK := hide (fun (x : World) (h : MapOk ops k (w.heap.size + 1 + 1) x) => h.look (opAt ops k).sl cn (WalkArith.wf_i64 (by omega)) (WalkArith.wf_i64 (by omega)))
      have HLOOK2 := hide (fun (x : World) (h : MapOk ops (k + 1) (w.heap.size + 1 + 1) x) => h.look (opAt ops k).sl cn (WalkArith.wf_i64 (by omega)) (WalkArith.wf_i64 (by omega)))
      have HCL : Hid (∀ W, Calls Try.prog 16 #[.int .i64 (opAt ops k).o] W fun e w' => e = .returned (.int .i64 cn) ∧ w' = W) := fun W => by rw [← hcn]; exact class_any _ _
      have hcc : tally ops (k + 1) (opAt ops k).sl cn = tally ops k (opAt ops k).sl cn + 1 := by rw [tally_step, if_pos ⟨rfl, hcn⟩]
      have HSO : Hid (soFar ops k = tally ops k (opAt ops k).sl cn + 1) := by show _ = _; rw [← hcc, ← hcn, tally_so]
      have hcc16 : tally ops k (opAt ops k).sl cn ≤ 16 := Nat.le_trans (cnt_le _ _) (by omega)
      rw [hcc] at HLOOK2
      have HUN : Hid (unitsT ⟨p0, p1, p2, q0, q1, q2, r⟩ (clsv (opAt ops k).o) = unitsT ⟨p0, p1, p2, q0, q1, q2, r⟩ cn) := by show _ = _; rw [hcn]
      generalize tally ops k (opAt ops k).sl cn = cc at *
      generalize unitsT ⟨p0, p1, p2, q0, q1, q2, r⟩ (cn : Int) = un at *
      clear hcn hcc hocell hbw hbel
      have HXX : Hid (∃ xk, opAt ops k = xk) := ⟨_, rfl⟩
      generalize hxk : opAt ops k = xk at *
      have HXK := hide hxk
      clear hxk HXX
      obtain ⟨sl, sg, o, d, a, b, ar, sp, pl, nn⟩ := xk
      simp only at c0 c1 c2 c3 c4 c5 c6 c7 c8 c9 s0 s1 HSTEP HLOOK HLOOK2 HCL HSO HUN
      go_wp2_with fail
      clear c0 c1 c2 c3 c4 c5 c6 c7 c8 c9
      go_region_held3 (fun w' => w'.cell? ⟨wr.heap.size, 0, none⟩ = some (.int .i64 sl) ∧ w'.cell? ⟨wr.heap.size, 2, none⟩ = some (.int .i64 o)) ((go_keep; done)) (first | (go_at_call 16; refine (HCL.out _).mono ?_; rintro e w' ⟨rfl, hw'⟩; have hw' := hw'.symm; subst hw'))
      all_goals
        have HY := hide (HM.out.below ((below_alloc2 wr (.cells #[.int .i64 sl, .int .i64 sg, .int .i64 o, .int .i64 d, .int .i64 a, .int .i64 b, .int .i64 ar, .int .i64 sp, .int .i64 pl, .int .i64 nn] 68) (.cells #[.int .i64 sl, .int .i64 cn] 133)).drew.drew))
        have hblt : w.heap.size + 1 + 1 < wr.heap.size := by obtain ⟨D, h1, _⟩ := HM.out; exact h1.lt
        obtain ⟨v0, stp, w1, e1, e2, e3, w3, f1, f2, f3⟩ := HSTEP.out _ HY.out
        rw [goInt_is] at e1 f1
        have hcn3i : (cn : Int) < 3 := by omega
        have hwr : IntKind.i64.wrap ((cc : Int) + 1) = (cc : Int) + 1 := i64_wrap _ (by omega) (by omega)
        have HBY : Hid (((wr.alloc (.cells #[.int .i64 sl, .int .i64 sg, .int .i64 o, .int .i64 d, .int .i64 a, .int .i64 b, .int .i64 ar, .int .i64 sp, .int .i64 pl, .int .i64 nn] 68)).alloc (.cells #[.int .i64 sl, .int .i64 cn] 133)).heap[wr.heap.size + 1]? = some (.cells #[.int .i64 sl, .int .i64 cn] 133 (0, 0))) := by
          show _ = _
          have e : (wr.alloc (.cells #[.int .i64 sl, .int .i64 sg, .int .i64 o, .int .i64 d, .int .i64 a, .int .i64 b, .int .i64 ar, .int .i64 sp, .int .i64 pl, .int .i64 nn] 68)).heap.size = wr.heap.size + 1 := by simp
          rw [← e]; exact new_block _ _ _
        have HB1 : Hid (w1.heap[wr.heap.size + 1]? = some (.cells #[.int .i64 sl, .int .i64 cn] 133 (0, 0))) := by show _ = _; rw [e2.block _ (by simp) (by intro e; have := Option.some.inj e; omega)]; exact HBY.out
        have HB3 : Hid (w3.heap[wr.heap.size + 1]? = some (.cells #[.int .i64 sl, .int .i64 cn] 133 (0, 0))) := by show _ = _; rw [f2.block _ (Array.getElem?_eq_some_iff.1 HB1.out).1 (by intro e; have := Option.some.inj e; omega)]; exact HB1.out
        have HW3 : Hid (Below (w.heap.size + 1 + 1) wr w3) := (((((below_alloc2 wr (.cells #[.int .i64 sl, .int .i64 sg, .int .i64 o, .int .i64 d, .int .i64 a, .int .i64 b, .int .i64 ar, .int .i64 sp, .int .i64 pl, .int .i64 nn] 68) (.cells #[.int .i64 sl, .int .i64 cn] 133)).drew.drew).mono (by omega)).grown e2 (by simp; omega) (fun q hq => by have := Option.some.inj hq; omega)).grown f2 (by have := e2.size; simp at this; omega) (fun q hq => by have := Option.some.inj hq; omega))
        have HM3 := hide f3
        have c60 : w1.cell? ⟨wr.heap.size + 1, 0, none⟩ = some (.int .i64 sl) ∧ w1.cell? ⟨wr.heap.size + 1, 1, none⟩ = some (.int .i64 cn) ∧ (Instr.lookup 131 (.map (some (w.heap.size + 1 + 1))) (.agg #[.int .i64 sl, .int .i64 cn]) false).run Try.prog w1 = .ok (.int .i64 cc) w1 := ⟨by rw [cell_of_block HB1.out]; rfl, by rw [cell_of_block HB1.out]; rfl, e3⟩
        have H60 := hide c60
        have H7 : Hid (w3.drew.cell? ⟨wr.heap.size + 1, 0, none⟩ = some (.int .i64 sl) ∧ w3.drew.cell? ⟨wr.heap.size + 1, 1, none⟩ = some (.int .i64 cn) ∧ w3.drew.cell? ⟨w.heap.size, cn, none⟩ = some (.int .i64 un) ∧ (Instr.lookup 131 (.map (some (w.heap.size + 1 + 1))) (.agg #[.int .i64 sl, .int .i64 cn]) false).run Try.prog w3.drew = .ok (.int .i64 ((cc : Int) + 1)) w3.drew) := ⟨by show w3.cell? _ = _; rw [cell_of_block HB3.out]; rfl, by show w3.cell? _ = _; rw [cell_of_block HB3.out]; rfl, HTG.out _ HW3.out.drew, by have h := HLOOK2.out _ (HM3.out.below (Below.refl _ _).drew); rw [Int.natCast_add] at h; exact h⟩
        clear f3 e2 e3 f2 c60
        go_wp2_with fail
        refine wp_region_noPanic ?_
        refine region_until 6 (fun w' => w'.cell? ⟨wr.heap.size + 1, 0, none⟩ = some (.int .i64 sl) ∧ w'.cell? ⟨wr.heap.size + 1, 1, none⟩ = some (.int .i64 cn) ∧ (Instr.lookup 131 (.map (some (w.heap.size + 1 + 1))) (.agg #[.int .i64 sl, .int .i64 cn]) false).run Try.prog w' = .ok (.int .i64 cc) w') (by kernel_rfl) (⟨by rw [cell_of_block (w := ((wr.alloc (.cells #[.int .i64 sl, .int .i64 sg, .int .i64 o, .int .i64 d, .int .i64 a, .int .i64 b, .int .i64 ar, .int .i64 sp, .int .i64 pl, .int .i64 nn] 68)).alloc (.cells #[.int .i64 sl, .int .i64 cn] 133)).drew.drew) HBY.out]; rfl, by rw [cell_of_block (w := ((wr.alloc (.cells #[.int .i64 sl, .int .i64 sg, .int .i64 o, .int .i64 d, .int .i64 a, .int .i64 b, .int .i64 ar, .int .i64 sp, .int .i64 pl, .int .i64 nn] 68)).alloc (.cells #[.int .i64 sl, .int .i64 cn] 133)).drew.drew) HBY.out]; rfl, HLOOK.out _ HY.out⟩) (fun hHeld => ?_)
        refine until_take (i := 0) (v := ?_) rfl (by kernel_rfl) (by kernel_rfl) (by kernel_rfl) (by kernel_rfl) (fun _ _ _ h => h) (Or.inl ⟨by rfl, ?_⟩) hHeld ?_
        rotate_left
        · intro w hSw
          try dsimp only at hSw
          go_simp
          try with_reducible rfl
        try simp only [Act.put, List.setIfInBounds_toArray, List.set_cons_zero, List.set_cons_succ]
        refine until_take (i := 1) (v := ?_) rfl (by kernel_rfl) (by kernel_rfl) (by kernel_rfl) (by kernel_rfl) (fun _ _ _ h => h) (Or.inl ⟨by rfl, ?_⟩) hHeld ?_
        rotate_left
        · intro w hSw
          try dsimp only at hSw
          go_simp
          try with_reducible rfl
        try simp only [Act.put, List.setIfInBounds_toArray, List.set_cons_zero, List.set_cons_succ]
        refine until_take (i := 2) (v := ?_) rfl (by kernel_rfl) (by kernel_rfl) (by kernel_rfl) (by kernel_rfl) (fun _ _ _ h => h) (Or.inl ⟨by rfl, ?_⟩) hHeld ?_
        rotate_left
        · intro w hSw
          try dsimp only at hSw
          go_simp
          try with_reducible rfl
        try simp only [Act.put, List.setIfInBounds_toArray, List.set_cons_zero, List.set_cons_succ]
        refine until_take (i := 3) (v := ?_) rfl (by kernel_rfl) (by kernel_rfl) (by kernel_rfl) (by kernel_rfl) (fun _ _ _ h => h) (Or.inl ⟨by rfl, ?_⟩) hHeld ?_
        rotate_left
        · intro w hSw
          try dsimp only at hSw
          go_simp
          try with_reducible rfl
        try simp only [Act.put, List.setIfInBounds_toArray, List.set_cons_zero, List.set_cons_succ]
        refine until_one (i := 4) rfl (by kernel_rfl) (fun K hK => ?_)
        go_simp
        refine hK.out _ _ (.inr H60.out) ?_
        clear hK K hHeld
        try simp only [Act.put, List.setIfInBounds_toArray, List.set_cons_zero, List.set_cons_succ]
        have hHeld := H60.out
        refine until_take (i := 5) (v := ?_) rfl (by kernel_rfl) (by kernel_rfl) (by kernel_rfl) (by kernel_rfl) (fun _ _ _ h => h) (Or.inl ⟨by rfl, ?_⟩) hHeld ?_
        rotate_left
        · intro w hSw
          try dsimp only at hSw
          go_simp
          try with_reducible rfl
        try simp only [Act.put, List.setIfInBounds_toArray, List.set_cons_zero, List.set_cons_succ]
        refine until_one (i := 6) rfl (by kernel_rfl) (fun K hK => ?_)
        go_simp
        refine hK.out _ _ (.inl rfl) ?_
        clear hK K hHeld
        try simp only [Act.put, List.setIfInBounds_toArray, List.set_cons_zero, List.set_cons_succ]
        refine until_done (by kernel_rfl) ?_ _
        refine NoPanic.normal ?_
        clear e1 f1
        by_cases hgt : un < (cc : Int) + 1
        · have hgt2 : decide (un < (cc : Int) + 1) = true := decide_eq_true hgt
          have HF : Hid (unitsP ⟨p0, p1, p2, q0, q1, q2, r⟩ ops = false) := allN_false hkl (decide_eq_false (by rw [HXK.out, HSO.out, HUN.out]; omega))
          go_wp2_with fail
          refine wp_region_noPanic ?_
          refine region_until 99 (fun w' => w'.cell? ⟨wr.heap.size + 1, 0, none⟩ = some (.int .i64 sl) ∧ w'.cell? ⟨wr.heap.size + 1, 1, none⟩ = some (.int .i64 cn) ∧ w'.cell? ⟨w.heap.size, cn, none⟩ = some (.int .i64 un) ∧ (Instr.lookup 131 (.map (some (w.heap.size + 1 + 1))) (.agg #[.int .i64 sl, .int .i64 cn]) false).run Try.prog w' = .ok (.int .i64 (cc + 1)) w') (by kernel_rfl) H7.out (fun hHeld => ?_)
          refine until_take (i := 0) (v := ?_) rfl (by kernel_rfl) (by kernel_rfl) (by kernel_rfl) (by kernel_rfl) (fun _ _ _ h => h) (Or.inl ⟨by rfl, ?_⟩) hHeld ?_
          rotate_left
          · intro w hSw
            try dsimp only at hSw
            go_simp
            try with_reducible rfl
          try simp only [Act.put, List.setIfInBounds_toArray, List.set_cons_zero, List.set_cons_succ]
          refine until_take (i := 1) (v := ?_) rfl (by kernel_rfl) (by kernel_rfl) (by kernel_rfl) (by kernel_rfl) (fun _ _ _ h => h) (Or.inl ⟨by rfl, ?_⟩) hHeld ?_
          rotate_left
          · intro w hSw
            try dsimp only at hSw
            go_simp
            try with_reducible rfl
          try simp only [Act.put, List.setIfInBounds_toArray, List.set_cons_zero, List.set_cons_succ]
          refine until_take (i := 2) (v := ?_) rfl (by kernel_rfl) (by kernel_rfl) (by kernel_rfl) (by kernel_rfl) (fun _ _ _ h => h) (Or.inl ⟨by rfl, ?_⟩) hHeld ?_
          rotate_left
          · intro w hSw
            try dsimp only at hSw
            go_simp
            try with_reducible rfl
          try simp only [Act.put, List.setIfInBounds_toArray, List.set_cons_zero, List.set_cons_succ]
          refine until_take (i := 3) (v := ?_) rfl (by kernel_rfl) (by kernel_rfl) (by kernel_rfl) (by kernel_rfl) (fun _ _ _ h => h) (Or.inl ⟨by rfl, ?_⟩) hHeld ?_
          rotate_left
          · intro w hSw
            try dsimp only at hSw
            go_simp
            try with_reducible rfl
          try simp only [Act.put, List.setIfInBounds_toArray, List.set_cons_zero, List.set_cons_succ]
          refine until_take (i := 4) (v := ?_) rfl (by kernel_rfl) (by kernel_rfl) (by kernel_rfl) (by kernel_rfl) (fun _ _ _ h => h) (Or.inl ⟨by rfl, ?_⟩) hHeld ?_
          rotate_left
          · intro w hSw
            try dsimp only at hSw
            go_simp
            try with_reducible rfl
          try simp only [Act.put, List.setIfInBounds_toArray, List.set_cons_zero, List.set_cons_succ]
          refine until_take (i := 5) (v := ?_) rfl (by kernel_rfl) (by kernel_rfl) (by kernel_rfl) (by kernel_rfl) (fun _ _ _ h => h) (Or.inl ⟨by rfl, ?_⟩) hHeld ?_
          rotate_left
          · intro w hSw
            try dsimp only at hSw
            go_simp
            try with_reducible rfl
          try simp only [Act.put, List.setIfInBounds_toArray, List.set_cons_zero, List.set_cons_succ]
          refine until_take (i := 6) (v := ?_) rfl (by kernel_rfl) (by kernel_rfl) (by kernel_rfl) (by kernel_rfl) (fun _ _ _ h => h) (Or.inl ⟨by rfl, ?_⟩) hHeld ?_
          rotate_left
          · intro w hSw
            try dsimp only at hSw
            go_simp
            try with_reducible rfl
          try simp only [Act.put, List.setIfInBounds_toArray, List.set_cons_zero, List.set_cons_succ]
          refine until_take (i := 7) (v := ?_) rfl (by kernel_rfl) (by kernel_rfl) (by kernel_rfl) (by kernel_rfl) (fun _ _ _ h => h) (Or.inl ⟨by rfl, ?_⟩) hHeld ?_
          rotate_left
          · intro w hSw
            try dsimp only at hSw
            go_simp
            try with_reducible rfl
          try simp only [Act.put, List.setIfInBounds_toArray, List.set_cons_zero, List.set_cons_succ]
          refine until_take (i := 8) (v := ?_) rfl (by kernel_rfl) (by kernel_rfl) (by kernel_rfl) (by kernel_rfl) (fun _ _ _ h => h) (Or.inl ⟨by rfl, ?_⟩) hHeld ?_
          rotate_left
          · intro w hSw
            try dsimp only at hSw
            go_simp
            try with_reducible rfl
          try simp only [Act.put, List.setIfInBounds_toArray, List.set_cons_zero, List.set_cons_succ]
          refine until_done (by kernel_rfl) ?_ _
          refine NoPanic.normal ?_
          go_wp2_with fail
          go_ret
          exact ⟨ret_bool HF.out.symm, HBW.out.trans ((HW3.out.drew).mono (by omega))⟩
        · have hgt2 : decide (un < (cc : Int) + 1) = false := decide_eq_false hgt
          have HT : Hid (decide ((soFar ops k : Int) ≤ unitsT ⟨p0, p1, p2, q0, q1, q2, r⟩ (clsv (opAt ops k).o)) = true) := decide_eq_true (by rw [HXK.out, HSO.out, HUN.out]; omega)
          go_wp2_with fail
          refine wp_region_noPanic ?_
          refine region_until 99 (fun w' => w'.cell? ⟨wr.heap.size + 1, 0, none⟩ = some (.int .i64 sl) ∧ w'.cell? ⟨wr.heap.size + 1, 1, none⟩ = some (.int .i64 cn) ∧ w'.cell? ⟨w.heap.size, cn, none⟩ = some (.int .i64 un) ∧ (Instr.lookup 131 (.map (some (w.heap.size + 1 + 1))) (.agg #[.int .i64 sl, .int .i64 cn]) false).run Try.prog w' = .ok (.int .i64 (cc + 1)) w') (by kernel_rfl) H7.out (fun hHeld => ?_)
          refine until_take (i := 0) (v := ?_) rfl (by kernel_rfl) (by kernel_rfl) (by kernel_rfl) (by kernel_rfl) (fun _ _ _ h => h) (Or.inl ⟨by rfl, ?_⟩) hHeld ?_
          rotate_left
          · intro w hSw
            try dsimp only at hSw
            go_simp
            try with_reducible rfl
          try simp only [Act.put, List.setIfInBounds_toArray, List.set_cons_zero, List.set_cons_succ]
          refine until_take (i := 1) (v := ?_) rfl (by kernel_rfl) (by kernel_rfl) (by kernel_rfl) (by kernel_rfl) (fun _ _ _ h => h) (Or.inl ⟨by rfl, ?_⟩) hHeld ?_
          rotate_left
          · intro w hSw
            try dsimp only at hSw
            go_simp
            try with_reducible rfl
          try simp only [Act.put, List.setIfInBounds_toArray, List.set_cons_zero, List.set_cons_succ]
          refine until_take (i := 2) (v := ?_) rfl (by kernel_rfl) (by kernel_rfl) (by kernel_rfl) (by kernel_rfl) (fun _ _ _ h => h) (Or.inl ⟨by rfl, ?_⟩) hHeld ?_
          rotate_left
          · intro w hSw
            try dsimp only at hSw
            go_simp
            try with_reducible rfl
          try simp only [Act.put, List.setIfInBounds_toArray, List.set_cons_zero, List.set_cons_succ]
          refine until_take (i := 3) (v := ?_) rfl (by kernel_rfl) (by kernel_rfl) (by kernel_rfl) (by kernel_rfl) (fun _ _ _ h => h) (Or.inl ⟨by rfl, ?_⟩) hHeld ?_
          rotate_left
          · intro w hSw
            try dsimp only at hSw
            go_simp
            try with_reducible rfl
          try simp only [Act.put, List.setIfInBounds_toArray, List.set_cons_zero, List.set_cons_succ]
          refine until_take (i := 4) (v := ?_) rfl (by kernel_rfl) (by kernel_rfl) (by kernel_rfl) (by kernel_rfl) (fun _ _ _ h => h) (Or.inl ⟨by rfl, ?_⟩) hHeld ?_
          rotate_left
          · intro w hSw
            try dsimp only at hSw
            go_simp
            try with_reducible rfl
          try simp only [Act.put, List.setIfInBounds_toArray, List.set_cons_zero, List.set_cons_succ]
          refine until_take (i := 5) (v := ?_) rfl (by kernel_rfl) (by kernel_rfl) (by kernel_rfl) (by kernel_rfl) (fun _ _ _ h => h) (Or.inl ⟨by rfl, ?_⟩) hHeld ?_
          rotate_left
          · intro w hSw
            try dsimp only at hSw
            go_simp
            try with_reducible rfl
          try simp only [Act.put, List.setIfInBounds_toArray, List.set_cons_zero, List.set_cons_succ]
          refine until_take (i := 6) (v := ?_) rfl (by kernel_rfl) (by kernel_rfl) (by kernel_rfl) (by kernel_rfl) (fun _ _ _ h => h) (Or.inl ⟨by rfl, ?_⟩) hHeld ?_
          rotate_left
          · intro w hSw
            try dsimp only at hSw
            go_simp
            try with_reducible rfl
          try simp only [Act.put, List.setIfInBounds_toArray, List.set_cons_zero, List.set_cons_succ]
          refine until_take (i := 7) (v := ?_) rfl (by kernel_rfl) (by kernel_rfl) (by kernel_rfl) (by kernel_rfl) (fun _ _ _ h => h) (Or.inl ⟨by rfl, ?_⟩) hHeld ?_
          rotate_left
          · intro w hSw
            try dsimp only at hSw
            go_simp
            try with_reducible rfl
          try simp only [Act.put, List.setIfInBounds_toArray, List.set_cons_zero, List.set_cons_succ]
          refine until_take (i := 8) (v := ?_) rfl (by kernel_rfl) (by kernel_rfl) (by kernel_rfl) (by kernel_rfl) (fun _ _ _ h => h) (Or.inl ⟨by rfl, ?_⟩) hHeld ?_
          rotate_left
          · intro w hSw
            try dsimp only at hSw
            go_simp
            try with_reducible rfl
          try simp only [Act.put, List.setIfInBounds_toArray, List.set_cons_zero, List.set_cons_succ]
          refine until_done (by kernel_rfl) ?_ _
          refine NoPanic.normal ?_
          go_wp2_with fail
          go_roundw
          case rel => exact ⟨k + 1, by omega, by go_num, allN_step HA.out HT.out, HB.out.trans HW3.out.drew, HM3.out.below (Below.refl _ _).drew⟩
          case measure => simp [intOf]; omega
    · have e : k = ops.length := by omega
      subst e
      have hki : ¬ (ops.length : Int) < (ops.length : Int) := by omega
      have HBW := hide hbw
      clear hbw hbel
      go_wp2_with fail
      go_ret
      exact ⟨ret_bool HA.out.symm, HBW.out⟩
end Go.Proofs.Ytpljieenjkbmmaa
/- The contract of May: whether a kernel may be, by the program; nothing that was there is changed. -/
namespace Go.Proofs.Ytpljieenjkbmmaa
open Go.RowKit Go.Joins
set_option linter.unusedVariables false
set_option linter.unusedSimpArgs false
set_option maxRecDepth 8192

theorem Try.i79 : (Try.prog.info? 79).map (fun i => (i.zero, i.size, i.bytes)) = some (some (.agg #[.int .i64 0, .int .i64 0, .int .i64 0, .int .i64 0, .int .i64 0, .int .i64 0, .int .i64 0, .int .i64 0, .int .i64 0]), 9, 72) := by kernel_rfl
/-- rows of statements, nine cells each -/
def flatS (l : List St) : List Value := l.flatMap fun x => (stCells x).toList
theorem flatS_snoc (l : List St) (x : St) : flatS l ++ (stCells x).toList = flatS (l ++ [x]) := by unfold flatS; simp
theorem flatS_get (l : List St) : ∀ i j, i < l.length → j < 9 → (flatS l)[i * 9 + j]? = (stCells (stAt l i))[j]? := by
  induction l with
  | nil => intro i c h; exact absurd h (Nat.not_lt_zero _)
  | cons d l ih =>
    intro i j h hj
    show ((stCells d).toList ++ flatS l)[i * 9 + j]? = _
    have h3 : (stCells d).toList.length = 9 := rfl
    cases i with
    | zero =>
      rw [List.getElem?_append_left (by omega), Nat.zero_mul, Nat.zero_add, Array.getElem?_toList]
      rfl
    | succ i =>
      rw [List.getElem?_append_right (by omega), h3, show (i + 1) * 9 + j - 9 = i * 9 + j from by omega, ih i j (by simpa using h) hj]
      rfl
theorem stmts_own {w : World} {base : Nat} {v : Value} {l : List St} (h : w.ownsRow base 79 9 v l.length (flatS l)) : Stmts w v l := by
  obtain ⟨hl, h⟩ := h
  rcases h with ⟨rfl, hn⟩ | ⟨g, cap, cur, rfl, hg, hb, hn, hm, hc, ht⟩
  · exact ⟨none, 0, by rw [hn], by omega, Nat.zero_le _, fun hp => by omega⟩
  · refine ⟨_, cap, rfl, hn, hm, fun _ => ⟨g, 0, rfl, (Array.getElem?_eq_some_iff.1 hb).1, fun i hi j hj => ?_⟩⟩
    rw [cell_of_block hb, ← flatS_get l i j hi hj, ← ht, List.getElem?_take, if_pos (by omega), Nat.zero_add]
    simp
theorem own_empty9 (w : World) (e : TypeId) (sz : Nat) : (w.alloc (.cells #[] e)).ownsRow w.heap.size e sz (.slice (some ⟨w.heap.size, 0, none⟩) 0 0) 0 [] := by
  refine ⟨by simp, .inr ⟨w.heap.size, 0, #[], rfl, Nat.le_refl _, ?_, Nat.le_refl _, Nat.zero_le _, by simp, by simp⟩⟩
  show (w.heap.push _)[w.heap.size]? = _
  simp
theorem body_snoc (l : List Kop) (k : Nat) (h : k < l.length) : bodyK (l.take (k + 1)) = bodyK (l.take k) ++ [stK (opAt l k)] := by
  have h1 : l[k]? = some (opAt l k) := by unfold opAt; rw [List.getD, List.getElem?_eq_getElem h]; rfl
  unfold bodyK
  rw [List.take_add_one, h1, List.map_append]
  rfl
theorem nine_at (w : World) (x : St) {B : Nat} (hB : w.heap.size = B) : ∀ (j : Nat) (u : Value), (stCells x).toList[j]? = some u → (w.alloc (.cells (stCells x) 79)).cell? ((⟨B, 0, none⟩ : Addr).add j) = some u := by
  subst hB
  intro j u hj
  have ha : (⟨w.heap.size, 0, none⟩ : Addr).add j = ⟨w.heap.size, j, none⟩ := by simp [Addr.add]; omega
  rw [ha, cell_of_block (new_block _ _ _)]
  simpa using hj
theorem nine_one {x : St} {u : Value} (h : u ∈ (stCells x).toList) : u.oneCell' = true := by
  unfold stCells at h
  simp at h
  rcases h with rfl | rfl | rfl | rfl | rfl | rfl | rfl | rfl | rfl <;> rfl

set_option maxHeartbeats 1000000 in
theorem kmay_long (p0 p1 p2 q0 q1 q2 r pc st : Int) (ops : List Kop) (ka : Option Addr) (kc : Nat) (la : Option Addr) (lc : Nat) (logs : List Int) (w : World) (hK : OpsV w (.slice ka ops.length kc) ops) (hLG : Ints w (.slice la logs.length lc) logs) (h : 16 < ops.length) : Calls Try.prog 35 #[.agg #[.int .i64 p0, .int .i64 p1, .int .i64 p2, .int .i64 q0, .int .i64 q1, .int .i64 q2, .int .i64 r], .agg #[.int .i64 pc, .int .i64 st, .slice ka ops.length kc], .slice la logs.length lc] w fun e w' => e = .returned (.bool false) ∧ Below w.heap.size w w' := by
  obtain ⟨ka', kc', hk1, hk2, hk3, hkc⟩ := hK
  injection hk1 with e1 e2 e3
  subst e1; subst e3
  unfold maxLen at hk3
  have hi : (16 : Int) < (ops.length : Int) := by omega
  clear hkc e2
  go_enter Try.func35, Try.ntmps35
  go_wp2_with fail
  go_ret
  exact ⟨rfl, below_alloc2 _ _ _⟩
set_option maxHeartbeats 1000000 in
theorem kmay_target (p0 p1 p2 q0 q1 q2 r pc st : Int) (ops : List Kop) (ka : Option Addr) (kc : Nat) (la : Option Addr) (lc : Nat) (logs : List Int) (w : World) (hK : OpsV w (.slice ka ops.length kc) ops) (hLG : Ints w (.slice la logs.length lc) logs) (h : ops.length ≤ 16) (ht : mayT ⟨p0, p1, p2, q0, q1, q2, r⟩ = false) : Calls Try.prog 35 #[.agg #[.int .i64 p0, .int .i64 p1, .int .i64 p2, .int .i64 q0, .int .i64 q1, .int .i64 q2, .int .i64 r], .agg #[.int .i64 pc, .int .i64 st, .slice ka ops.length kc], .slice la logs.length lc] w fun e w' => e = .returned (.bool false) ∧ Below w.heap.size w w' := by
  obtain ⟨ka', kc', hk1, hk2, hk3, hkc⟩ := hK
  injection hk1 with e1 e2 e3
  subst e1; subst e3
  unfold maxLen at hk3
  have hi : ¬ (16 : Int) < (ops.length : Int) := by omega
  have HT := hide (fun W => ht ▸ pmay_seven p0 p1 p2 q0 q1 q2 r W)
  clear hkc e2 ht
  go_enter Try.func35, Try.ntmps35
  go_wp2_with fail
  refine (HT.out _).mono ?_
  rintro e x1 ⟨rfl, hb⟩
  have HB := hide ((below_alloc2 w _ _).trans (hb.mono (by simp; omega)))
  clear hb HT
  go_wp2_with fail
  go_ret
  exact ⟨rfl, HB.out⟩
set_option maxHeartbeats 1000000 in
theorem kmay_time (p0 p1 p2 q0 q1 q2 r pc st : Int) (ops : List Kop) (ka : Option Addr) (kc : Nat) (la : Option Addr) (lc : Nat) (logs : List Int) (w : World) (hK : OpsV w (.slice ka ops.length kc) ops) (hLG : Ints w (.slice la logs.length lc) logs) (h : ops.length ≤ 16) (ht : mayT ⟨p0, p1, p2, q0, q1, q2, r⟩ = true) (hp : inR pc 1 200 = false ∨ (inR pc 1 200 = true ∧ inR st 1 1001 = false)) : Calls Try.prog 35 #[.agg #[.int .i64 p0, .int .i64 p1, .int .i64 p2, .int .i64 q0, .int .i64 q1, .int .i64 q2, .int .i64 r], .agg #[.int .i64 pc, .int .i64 st, .slice ka ops.length kc], .slice la logs.length lc] w fun e w' => e = .returned (.bool false) ∧ Below w.heap.size w w' := by
  obtain ⟨ka', kc', hk1, hk2, hk3, hkc⟩ := hK
  injection hk1 with e1 e2 e3
  subst e1; subst e3
  unfold maxLen at hk3
  have hi : ¬ (16 : Int) < (ops.length : Int) := by omega
  have HT := hide (fun W => ht ▸ pmay_seven p0 p1 p2 q0 q1 q2 r W)
  clear hkc e2 ht
  rcases hp with hp | ⟨hp, hs⟩
  all_goals
    go_enter Try.func35, Try.ntmps35
    go_wp2_with fail
    refine (HT.out _).mono ?_
    rintro e x1 ⟨rfl, hb⟩
    have HB := hide ((below_alloc2 w (.cells #[.int .i64 p0, .int .i64 p1, .int .i64 p2, .int .i64 q0, .int .i64 q1, .int .i64 q2, .int .i64 r] 49) (.cells #[.int .i64 pc, .int .i64 st, .slice ka ops.length kc] 55)).trans (hb.mono (by simp; omega)))
    have k0 : x1.cell? ⟨w.heap.size + 1, 0, none⟩ = some (.int .i64 pc) := by rw [bcell hb _ _ (by simp)]; go_simp
    have k1 : x1.cell? ⟨w.heap.size + 1, 1, none⟩ = some (.int .i64 st) := by rw [bcell hb _ _ (by simp)]; go_simp
    clear hb HT
    go_wp2_with (go_at_call 68; refine (pwithin_any _ _ _ _).mono ?_; rintro e w' ⟨rfl, hw'⟩; have hw' := hw'.symm; subst hw')
    go_ret
    exact ⟨rfl, HB.out⟩

set_option maxHeartbeats 8000000 in
theorem kmay_rest (p0 p1 p2 q0 q1 q2 r pc st : Int) (ops : List Kop) (ka : Option Addr) (kc : Nat) (la : Option Addr) (lc : Nat) (logs : List Int) (w : World) (hK : OpsV w (.slice ka ops.length kc) ops) (hLG : Ints w (.slice la logs.length lc) logs) (h16 : ops.length ≤ 16) (ht : mayT ⟨p0, p1, p2, q0, q1, q2, r⟩ = true) (hp : inR pc 1 200 = true) (hs : inR st 1 1001 = true) : Calls Try.prog 35 #[.agg #[.int .i64 p0, .int .i64 p1, .int .i64 p2, .int .i64 q0, .int .i64 q1, .int .i64 q2, .int .i64 r], .agg #[.int .i64 pc, .int .i64 st, .slice ka ops.length kc], .slice la logs.length lc] w fun e w' => e = .returned (.bool (allN (fun i => timeOk pc st (opAt ops i) && regsP r (opAt ops i)) ops.length && mayB ⟨logs, bodyK ops, []⟩ && unitsP ⟨p0, p1, p2, q0, q1, q2, r⟩ ops)) ∧ Below w.heap.size w w' := by
  have HKV := hide hK
  have HLV := hide hLG
  obtain ⟨ka', kc', hk1, hk2, hk3, hkc⟩ := hK
  injection hk1 with e1 e2 e3
  subst e1; subst e3
  unfold maxLen at hk3
  have hi16 : ¬ (16 : Int) < (ops.length : Int) := by omega
  obtain ⟨hp1, hp2⟩ := inR_iff.1 hp
  obtain ⟨hs1, hs2⟩ := inR_iff.1 hs
  have hr12 := (mayT_parts ht).2.2.2
  obtain ⟨hr1, hr2⟩ := hr12
  simp only at hr1 hr2
  obtain ⟨i0, hi, hz0, hz1, hz2⟩ := info_parts Try.i79
  have HT := hide (fun W => ht ▸ pmay_seven p0 p1 p2 q0 q1 q2 r W)
  have HTM : Hid (∀ x W, Calls Try.prog 69 #[.agg #[.int .i64 pc, .int .i64 st, .slice ka ops.length kc], .agg (kCells x)] W fun e w' => e = .returned (.bool (timeOk pc st x)) ∧ Below W.heap.size W w') := fun x W => timeMay_ten pc st _ x.sl x.sg x.o x.d x.a x.b x.ar x.sp x.pl x.nn W hp1 hp2 hs1 hs2
  have HRM : Hid (∀ x W, Calls Try.prog 70 #[.agg #[.int .i64 p0, .int .i64 p1, .int .i64 p2, .int .i64 q0, .int .i64 q1, .int .i64 q2, .int .i64 r], .agg (kCells x)] W fun e w' => e = .returned (.bool (regsP r x)) ∧ Below W.heap.size W w') := fun x W => registersMay_ten p0 p1 p2 q0 q1 q2 r x.sl x.sg x.o x.d x.a x.b x.ar x.sp x.pl x.nn W hr1 hr2
  have HKC := hide hkc
  clear hkc e2 ht
  go_enter Try.func35, Try.ntmps35
  go_wp2_with fail
  refine (HT.out _).mono ?_
  rintro e x1 ⟨rfl, hb⟩
  have HB := hide ((below_alloc2 w (.cells #[.int .i64 p0, .int .i64 p1, .int .i64 p2, .int .i64 q0, .int .i64 q1, .int .i64 q2, .int .i64 r] 49) (.cells #[.int .i64 pc, .int .i64 st, .slice ka ops.length kc] 55)).trans (hb.mono (by simp; omega)))
  have HBX : Hid (x1.heap[w.heap.size]? = some (.cells #[.int .i64 p0, .int .i64 p1, .int .i64 p2, .int .i64 q0, .int .i64 q1, .int .i64 q2, .int .i64 r] 49 (0, 0)) ∧ x1.heap[w.heap.size + 1]? = some (.cells #[.int .i64 pc, .int .i64 st, .slice ka ops.length kc] 55 (0, 0))) := by
    refine ⟨?_, ?_⟩
    · rw [hb.block _ (by simp; omega), Below.heap_alloc _ _ _ (by simp)]; exact new_block _ _ _
    · rw [hb.block _ (by simp)]
      have e : (w.alloc (.cells #[.int .i64 p0, .int .i64 p1, .int .i64 p2, .int .i64 q0, .int .i64 q1, .int .i64 q2, .int .i64 r] 49)).heap.size = w.heap.size + 1 := by simp
      rw [← e]; exact new_block _ _ _
  have k0 : x1.cell? ⟨w.heap.size + 1, 0, none⟩ = some (.int .i64 pc) := by rw [cell_of_block HBX.out.2]; rfl
  have k1 : x1.cell? ⟨w.heap.size + 1, 1, none⟩ = some (.int .i64 st) := by rw [cell_of_block HBX.out.2]; rfl
  have k2 : x1.cell? ⟨w.heap.size + 1, 2, none⟩ = some (.slice ka ops.length kc) := by rw [cell_of_block HBX.out.2]; rfl
  have hz : w.heap.size + 1 < x1.heap.size := by have := hb.size; simp at this; omega
  clear hb HT
  go_wp2_with (go_at_call 68; refine (pwithin_any _ _ _ _).mono ?_; rintro e w' ⟨rfl, hw'⟩; have hw' := hw'.symm; subst hw')
  go_loopw [7, 33] (fun bv i wr => ∃ k : Nat, k ≤ ops.length ∧ i = .int .i64 k ∧ allN (fun i => timeOk pc st (opAt ops i) && regsP r (opAt ops i)) k = true ∧ Below x1.heap.size x1 wr ∧ ∃ ba bc, bv = .slice ba k bc ∧ wr.ownsRow x1.heap.size 79 9 (.slice ba k bc) k (flatS (bodyK (ops.take k)))) (fun _ i _ => ops.length - (intOf i).toNat)
  case atStart => exact ⟨0, Nat.zero_le _, rfl, rfl, below_alloc1 _ _, _, 0, rfl, own_empty9 x1 79 9⟩
  case round =>
    clear k0 k1 k2
    obtain ⟨k, hk, rfl, hall, hbel, ba, bc, rfl, hown⟩ := hrel
    have HA := hide hall
    have HBL := hide hbel
    have HO := hide hown
    have hsz := hbel.size
    have HBW := hide (HB.out.trans (hbel.mono (by omega)))
    have HBX2 : Hid (wr.heap[w.heap.size]? = some (.cells #[.int .i64 p0, .int .i64 p1, .int .i64 p2, .int .i64 q0, .int .i64 q1, .int .i64 q2, .int .i64 r] 49 (0, 0)) ∧ wr.heap[w.heap.size + 1]? = some (.cells #[.int .i64 pc, .int .i64 st, .slice ka ops.length kc] 55 (0, 0))) := ⟨by rw [hbel.block _ (by omega)]; exact HBX.out.1, by rw [hbel.block _ (by omega)]; exact HBX.out.2⟩
    clear hall hown hbel
    by_cases hkl : k < ops.length
    · have hki : (k : Int) < (ops.length : Int) := by omega
      obtain ⟨ob, oo, rfl, hob, hocell⟩ := HKC.out (by omega)
      obtain ⟨c0, c1, c2, c3, c4, c5, c6, c7, c8, c9⟩ := ten (hocell k hkl)
      rw [← bcell HBW.out _ _ hob] at c0 c1 c2 c3 c4 c5 c6 c7 c8 c9
      have hobz : ob < wr.heap.size := by have := HBW.out.size; omega
      have HSN := hide (body_snoc ops k hkl)
      have HSM := hide (statement_any (opAt ops k))
      have HTK := hide (HTM.out (opAt ops k))
      have HRK := hide (HRM.out (opAt ops k))
      have HNO : Hid (∀ b, (timeOk pc st (opAt ops k) && regsP r (opAt ops k)) = b → b = false → allN (fun i => timeOk pc st (opAt ops i) && regsP r (opAt ops i)) ops.length = false) := fun b h1 h2 => allN_false hkl (h1.trans h2)
      have HYES : Hid ((timeOk pc st (opAt ops k) && regsP r (opAt ops k)) = true → allN (fun i => timeOk pc st (opAt ops i) && regsP r (opAt ops i)) (k + 1) = true) := fun h => allN_step HA.out h
      clear hocell
      obtain ⟨xk, hxk⟩ : ∃ xk, opAt ops k = xk := ⟨_, rfl⟩
      rw [hxk] at c0 c1 c2 c3 c4 c5 c6 c7 c8 c9 HSN HSM HTK HRK HNO HYES
      clear hxk
      obtain ⟨vT, hvT⟩ : ∃ b, timeOk pc st xk = b := ⟨_, rfl⟩
      obtain ⟨vR, hvR⟩ : ∃ b, regsP r xk = b := ⟨_, rfl⟩
      rw [hvT] at HTK HNO HYES
      rw [hvR] at HRK HNO HYES
      have HST : Hid (∃ z, stK xk = z) := ⟨_, rfl⟩
      obtain ⟨zk, hzk⟩ := HST.out
      rw [hzk] at HSM HSN
      clear hvT hvR hzk HST
      obtain ⟨sl, sg, o, d, a, b, ar, sp, pl, nn⟩ := xk
      obtain ⟨z0, z1, z2, z3, z4, z5, z6, z7, z8⟩ := zk
      simp only at c0 c1 c2 c3 c4 c5 c6 c7 c8 c9
      have HSM2 : Hid (∀ W, Calls Try.prog 71 #[.agg #[.int .i64 sl, .int .i64 sg, .int .i64 o, .int .i64 d, .int .i64 a, .int .i64 b, .int .i64 ar, .int .i64 sp, .int .i64 pl, .int .i64 nn]] W fun e w' => e = .returned (.agg #[.int .i64 z0, .int .i64 z1, .int .i64 z2, .int .i64 z3, .int .i64 z4, .int .i64 z5, .int .i64 z6, .int .i64 z7, .int .i64 z8]) ∧ Below W.heap.size W w') := HSM.out
      have b0 := cell_of_block HBX2.out.1
      have b1 := cell_of_block HBX2.out.2
      have t0 : wr.cell? ⟨w.heap.size, 0, none⟩ = some (.int .i64 p0) := by rw [b0]; rfl
      have t1 : wr.cell? ⟨w.heap.size, 1, none⟩ = some (.int .i64 p1) := by rw [b0]; rfl
      have t2 : wr.cell? ⟨w.heap.size, 2, none⟩ = some (.int .i64 p2) := by rw [b0]; rfl
      have t3 : wr.cell? ⟨w.heap.size, 3, none⟩ = some (.int .i64 q0) := by rw [b0]; rfl
      have t4 : wr.cell? ⟨w.heap.size, 4, none⟩ = some (.int .i64 q1) := by rw [b0]; rfl
      have t5 : wr.cell? ⟨w.heap.size, 5, none⟩ = some (.int .i64 q2) := by rw [b0]; rfl
      have t6 : wr.cell? ⟨w.heap.size, 6, none⟩ = some (.int .i64 r) := by rw [b0]; rfl
      have k0 : wr.cell? ⟨w.heap.size + 1, 0, none⟩ = some (.int .i64 pc) := by rw [b1]; rfl
      have k1 : wr.cell? ⟨w.heap.size + 1, 1, none⟩ = some (.int .i64 st) := by rw [b1]; rfl
      have k2 : wr.cell? ⟨w.heap.size + 1, 2, none⟩ = some (.slice (some ⟨ob, oo, none⟩) ops.length kc) := by rw [b1]; rfl
      have hzw : w.heap.size + 1 < wr.heap.size := by omega
      have hzw0 : w.heap.size < wr.heap.size := by omega
      clear b0 b1
      go_wp2_with fail
      refine (HTK.out _).mono ?_
      rintro e x2 ⟨rfl, hb2⟩
      have hc2 := bcell hb2
      have HX2 := hide ((below_alloc1 wr (.cells #[.int .i64 sl, .int .i64 sg, .int .i64 o, .int .i64 d, .int .i64 a, .int .i64 b, .int .i64 ar, .int .i64 sp, .int .i64 pl, .int .i64 nn] 68)).trans (hb2.mono (by simp)))
      have hx2 := op_box (show x2.heap[wr.heap.size]? = some (.cells #[.int .i64 sl, .int .i64 sg, .int .i64 o, .int .i64 d, .int .i64 a, .int .i64 b, .int .i64 ar, .int .i64 sp, .int .i64 pl, .int .i64 nn] 68 (0, 0)) by rw [hb2.block _ (by simp)]; exact new_block _ _ _)
      have hzx2 : wr.heap.size < x2.heap.size := by have := hb2.size; simp at this; omega
      have hc3 := bcell HX2.out
      rw [← hc3 _ _ hzw0] at t0 t1 t2 t3 t4 t5 t6
      clear hb2 hc2 hc3 c0 c1 c2 c3 c4 c5 c6 c7 c8 c9 k0 k1 k2
      cases vT with
      | false =>
        have HF := hide (HNO.out _ rfl rfl)
        go_wp2_with fail
        go_ret
        refine ⟨ret_bool ?_, HBW.out.trans (HX2.out.mono HBW.out.size)⟩
        rw [HF.out]; rfl
      | true =>
        obtain ⟨x20, x21, x22, x23, x24, x25, x26, x27, x28, x29⟩ := hx2
        go_wp2_with fail
        refine (HRK.out _).mono ?_
        rintro e x3 ⟨rfl, hb3⟩
        have HX3 := hide (HX2.out.trans (hb3.mono HX2.out.size))
        have hc3 := bcell hb3
        rw [← hc3 _ _ hzx2] at x20 x21 x22 x23 x24 x25 x26 x27 x28 x29
        have hz3 : wr.heap.size < x3.heap.size := by have := hb3.size; omega
        clear hb3 hc3 t0 t1 t2 t3 t4 t5 t6
        cases vR with
        | false =>
          have HF := hide (HNO.out _ rfl rfl)
          go_wp2_with fail
          go_ret
          refine ⟨ret_bool ?_, HBW.out.trans (HX3.out.mono HBW.out.size)⟩
          rw [HF.out]; rfl
        | true =>
          have HY := hide (HYES.out rfl)
          go_wp2_with fail
          refine (HSM2.out _).mono ?_
          rintro e x4 ⟨rfl, hb4⟩
          have HX4 := hide (HX3.out.trans (hb4.mono HX3.out.size))
          have HO4 := hide (own_below HO.out (HX4.out.alloc HX4.out.size (.cells #[.int .i64 z0, .int .i64 z1, .int .i64 z2, .int .i64 z3, .int .i64 z4, .int .i64 z5, .int .i64 z6, .int .i64 z7, .int .i64 z8] 79)))
          have hz4 : x1.heap.size ≤ x4.heap.size := by have := HX4.out.size; omega
          clear hb4
          go_wp2_with (at_builtin; refine wpList_append_own _ rfl (.tmp 47) (.tmp 50) 28 rfl x1.heap.size 79 i0 (.agg #[.int .i64 0, .int .i64 0, .int .i64 0, .int .i64 0, .int .i64 0, .int .i64 0, .int .i64 0, .int .i64 0, .int .i64 0]) 9 72 Try.underlying28 hi hz0 hz1 hz2 rfl (by decide) _ _ _ rfl HO4.out ⟨x4.heap.size, 0, none⟩ 1 1 (stCells ⟨z0, z1, z2, z3, z4, z5, z6, z7, z8⟩).toList rfl rfl (by exact nine_at x4 ⟨z0, z1, z2, z3, z4, z5, z6, z7, z8⟩ rfl) (by intro u hu; exact nine_one hu) (by unfold maxLen; omega) (by omega) (by simp; omega) ?_; intro v1 w5 hown1 hgrow1 hnil1; obtain ⟨ba2, bc2, rfl, -, -⟩ := ownz_shape hown1; have HO5 := hide hown1; have HG5 := hide hgrow1; clear hown1 hgrow1 hnil1)
          go_roundw
          case rel =>
            refine ⟨k + 1, by omega, by go_num, HY.out, ?_, ba2, bc2, rfl, ?_⟩
            · exact ((HBL.out.trans (HX4.out.mono hsz)).alloc (by omega) _).grown HG5.out (by simp; omega) (ownz_block_ge HO.out)
            · rw [HSN.out, ← flatS_snoc]; exact HO5.out
          case measure => simp [intOf]; omega
    · have e : k = ops.length := by omega
      subst e
      rw [List.take_length] at HO
      have hki : ¬ (ops.length : Int) < (ops.length : Int) := by omega
      have HLW : Hid (LoopV wr (.agg #[.slice la logs.length lc, .slice ba ops.length bc, .slice none 0 0]) ⟨logs, bodyK ops, []⟩) := by
        refine ⟨_, _, _, rfl, HLV.out.below HBW.out, ?_, none, 0, rfl, Nat.le_refl _, Nat.zero_le _, fun i hi => absurd hi (Nat.not_lt_zero _), fun hp => absurd hp (Nat.not_lt_zero _)⟩
        have h := HO.out
        rw [← bodyK_len ops] at h ⊢
        exact stmts_own h
      have HSLO : Hid (∀ x ∈ ops, 0 ≤ x.sl ∧ x.sl ≤ 1000) := fun x hx => by
        obtain ⟨i, hi, rfl⟩ := List.mem_iff_getElem.1 hx
        have h := allN_get HA.out i hi
        have e : opAt ops i = ops[i] := by unfold opAt; rw [List.getD, List.getElem?_eq_getElem hi]; rfl
        rw [e] at h
        simp only [Bool.and_eq_true] at h
        have h1 := h.1
        unfold timeOk at h1
        simp only [Bool.and_eq_true] at h1
        have h2 := inR_iff.1 h1.1.1
        omega
      have b0 := cell_of_block HBX2.out.1
      have b1 := cell_of_block HBX2.out.2
      have t0 : wr.cell? ⟨w.heap.size, 0, none⟩ = some (.int .i64 p0) := by rw [b0]; rfl
      have t1 : wr.cell? ⟨w.heap.size, 1, none⟩ = some (.int .i64 p1) := by rw [b0]; rfl
      have t2 : wr.cell? ⟨w.heap.size, 2, none⟩ = some (.int .i64 p2) := by rw [b0]; rfl
      have t3 : wr.cell? ⟨w.heap.size, 3, none⟩ = some (.int .i64 q0) := by rw [b0]; rfl
      have t4 : wr.cell? ⟨w.heap.size, 4, none⟩ = some (.int .i64 q1) := by rw [b0]; rfl
      have t5 : wr.cell? ⟨w.heap.size, 5, none⟩ = some (.int .i64 q2) := by rw [b0]; rfl
      have t6 : wr.cell? ⟨w.heap.size, 6, none⟩ = some (.int .i64 r) := by rw [b0]; rfl
      have k0 : wr.cell? ⟨w.heap.size + 1, 0, none⟩ = some (.int .i64 pc) := by rw [b1]; rfl
      have k1 : wr.cell? ⟨w.heap.size + 1, 1, none⟩ = some (.int .i64 st) := by rw [b1]; rfl
      have k2 : wr.cell? ⟨w.heap.size + 1, 2, none⟩ = some (.slice ka ops.length kc) := by rw [b1]; rfl
      have hzw : w.heap.size + 1 < wr.heap.size := by omega
      have hzw0 : w.heap.size < wr.heap.size := by omega
      obtain ⟨vM, hvM⟩ : ∃ b, mayB ⟨logs, bodyK ops, []⟩ = b := ⟨_, rfl⟩
      obtain ⟨vU, hvU⟩ : ∃ b, unitsP ⟨p0, p1, p2, q0, q1, q2, r⟩ ops = b := ⟨_, rfl⟩
      have HLM : Hid (Calls Try.prog 21 #[.agg #[.slice la logs.length lc, .slice ba ops.length bc, .slice none 0 0]] wr fun e w' => e = .returned (.bool vM) ∧ Below wr.heap.size wr w') := by
        show Calls _ _ _ _ _
        rw [← hvM]
        exact may_any _ _ wr HLW.out
      have HUM : Hid (∀ x, Below wr.heap.size wr x → Calls Try.prog 72 #[.agg #[.int .i64 p0, .int .i64 p1, .int .i64 p2, .int .i64 q0, .int .i64 q1, .int .i64 q2, .int .i64 r], .agg #[.int .i64 pc, .int .i64 st, .slice ka ops.length kc]] x fun e w' => e = .returned (.bool vU) ∧ Below x.heap.size x w') := fun x hx => by
        rw [← hvU]
        exact units_any p0 p1 p2 q0 q1 q2 r pc st ops ka kc x (HKV.out.below (HBW.out.trans (hx.mono HBW.out.size))) h16 HSLO.out
      have HFIN : Hid ((allN (fun i => timeOk pc st (opAt ops i) && regsP r (opAt ops i)) ops.length && mayB ⟨logs, bodyK ops, []⟩ && unitsP ⟨p0, p1, p2, q0, q1, q2, r⟩ ops) = (vM && vU)) := by show _ = _; rw [HA.out, hvM, hvU]; rfl
      clear b0 b1 hvM hvU
      cases vM with
      | false =>
        go_wp2_with fail
        refine HLM.out.mono ?_
        rintro e x2 ⟨rfl, hb2⟩
        have HX2 := hide (HBW.out.trans (hb2.mono HBW.out.size))
        clear hb2
        go_wp2_with fail
        go_ret
        exact ⟨ret_bool (by rw [HFIN.out]; rfl), HX2.out⟩
      | true =>
        go_wp2_with fail
        refine HLM.out.mono ?_
        rintro e x2 ⟨rfl, hb2⟩
        have HX2 := hide (HBW.out.trans (hb2.mono HBW.out.size))
        have HU2 := hide (HUM.out x2 hb2)
        have hc2 := bcell hb2
        rw [← hc2 _ _ hzw0] at t0 t1 t2 t3 t4 t5 t6
        rw [← hc2 _ _ hzw] at k0 k1 k2
        clear hb2 hc2
        go_wp2_with fail
        refine HU2.out.mono ?_
        rintro e x3 ⟨rfl, hb3⟩
        have HX3 := hide (HX2.out.trans (hb3.mono HX2.out.size))
        clear hb3
        go_wp2_with fail
        go_ret
        exact ⟨ret_bool (by rw [HFIN.out]; rfl), HX3.out⟩
theorem kernelMay (t : Tg) (kv : Value) (K : Kn) (la : Option Addr) (lc : Nat) (logs : List Int) (w : World) (hK : KernV w kv K) (hL : Ints w (.slice la logs.length lc) logs) :
    Calls Try.prog 35 #[.agg t.cells, kv, .slice la logs.length lc] w fun e w' => e = .returned (.bool (mayK t K logs)) ∧ Below w.heap.size w w' := by
  obtain ⟨p0, p1, p2, q0, q1, q2, r⟩ := t
  obtain ⟨pc, st, ops⟩ := K
  obtain ⟨ov, rfl, hO⟩ := hK
  have hO2 := hO
  obtain ⟨ka, kc, rfl, -⟩ := hO
  rw [← mayP_mayK]
  by_cases h16 : ops.length ≤ 16
  · cases ht : mayT ⟨p0, p1, p2, q0, q1, q2, r⟩ with
    | false =>
      have e : mayP ⟨p0, p1, p2, q0, q1, q2, r⟩ ⟨pc, st, ops⟩ logs = false := by unfold mayP; rw [ht]; simp
      rw [e]
      exact kmay_target p0 p1 p2 q0 q1 q2 r pc st ops ka kc la lc logs w hO2 hL h16 ht
    | true =>
      cases hp : inR pc 1 200 with
      | false =>
        have e : mayP ⟨p0, p1, p2, q0, q1, q2, r⟩ ⟨pc, st, ops⟩ logs = false := by unfold mayP; rw [show inR (Kn.pc ⟨pc, st, ops⟩) 1 200 = false from hp]; simp
        rw [e]
        exact kmay_time p0 p1 p2 q0 q1 q2 r pc st ops ka kc la lc logs w hO2 hL h16 ht (.inl hp)
      | true =>
        cases hs : inR st 1 1001 with
        | false =>
          have e : mayP ⟨p0, p1, p2, q0, q1, q2, r⟩ ⟨pc, st, ops⟩ logs = false := by unfold mayP; rw [show inR (Kn.st ⟨pc, st, ops⟩) 1 1001 = false from hs]; simp
          rw [e]
          exact kmay_time p0 p1 p2 q0 q1 q2 r pc st ops ka kc la lc logs w hO2 hL h16 ht (.inr ⟨hp, hs⟩)
        | true =>
          have e : mayP ⟨p0, p1, p2, q0, q1, q2, r⟩ ⟨pc, st, ops⟩ logs = (allN (fun i => timeOk pc st (opAt ops i) && regsP r (opAt ops i)) ops.length && mayB ⟨logs, bodyK ops, []⟩ && unitsP ⟨p0, p1, p2, q0, q1, q2, r⟩ ops) := by
            unfold mayP
            rw [ht, show inR (Kn.pc ⟨pc, st, ops⟩) 1 200 = true from hp, show inR (Kn.st ⟨pc, st, ops⟩) 1 1001 = true from hs, show decide ((Kn.ops ⟨pc, st, ops⟩).length ≤ 16) = true from decide_eq_true h16]
            rfl
          rw [e]
          exact kmay_rest p0 p1 p2 q0 q1 q2 r pc st ops ka kc la lc logs w hO2 hL h16 ht hp hs
  · have e : mayP ⟨p0, p1, p2, q0, q1, q2, r⟩ ⟨pc, st, ops⟩ logs = false := by unfold mayP; rw [show decide ((Kn.ops ⟨pc, st, ops⟩).length ≤ 16) = false from decide_eq_false h16]; simp
    rw [e]
    exact kmay_long p0 p1 p2 q0 q1 q2 r pc st ops ka kc la lc logs w hO2 hL (by omega)
end Go.Proofs.Ytpljieenjkbmmaa
/- The contract of the Logs of arrays, by the program; nothing that was there is changed. -/
namespace Go.Proofs.Ytpljieenjkbmmaa
open Go.RowKit Go.Joins
set_option linter.unusedVariables false
set_option linter.unusedSimpArgs false
set_option maxRecDepth 100000

theorem tab_size : Lib.len8tab.size = 256 := by kernel_rfl
set_option maxHeartbeats 4000000 in
theorem len64_some (n : Int) (w : World) (h0 : 0 ≤ n) (hn : n ≤ 18446744073709551615) : Calls Try.prog 114 #[.int .u64 n] w fun e w' => ∃ r, e = .returned (.int .i64 r) ∧ w' = w := by
  have hsz := tab_size
  go_enter Try.func114, Try.ntmps114
  go_wp2
  all_goals first
    | (go_ret; exact ⟨_, rfl, rfl⟩)
    | (exfalso; omega)
theorem len_some (n : Nat) (w : World) (hn : n ≤ 9223372036854775807) : Calls Try.prog 95 #[.int .u64 n] w fun e w' => ∃ r, e = .returned (.int .i64 r) ∧ w' = w := by
  have H := hide (len64_some n w (by omega) (by omega))
  go_enter Try.func95, Try.ntmps95
  go_wp2_with fail
  refine H.out.mono ?_
  rintro e w' ⟨r, rfl, rfl⟩
  go_wp2_with fail
  go_ret
  exact ⟨_, rfl, rfl⟩
set_option maxHeartbeats 1000000 in
theorem len64_1 (w : World) : Calls Try.prog 114 #[.int .u64 1] w fun e w' => e = .returned (.int .i64 1) ∧ w' = w := by
  have hsz := tab_size
  have htb : Lib.len8 1 = 1 := by rw [Lib.len8_of _ (by omega) (by omega)]; decide
  go_enter Try.func114, Try.ntmps114
  go_wp2_with fail
  go_ret
  exact ⟨rfl, rfl⟩
theorem len_1 (w : World) : Calls Try.prog 95 #[.int .u64 1] w fun e w' => e = .returned (.int .i64 1) ∧ w' = w := by
  have H := hide (len64_1 w)
  go_enter Try.func95, Try.ntmps95
  go_wp2_with fail
  refine H.out.mono ?_
  rintro e w' ⟨rfl, rfl⟩
  go_wp2_with fail
  go_ret
  exact ⟨rfl, rfl⟩
set_option maxHeartbeats 1000000 in
theorem len64_2 (w : World) : Calls Try.prog 114 #[.int .u64 2] w fun e w' => e = .returned (.int .i64 2) ∧ w' = w := by
  have hsz := tab_size
  have htb : Lib.len8 2 = 2 := by rw [Lib.len8_of _ (by omega) (by omega)]; decide
  go_enter Try.func114, Try.ntmps114
  go_wp2_with fail
  go_ret
  exact ⟨rfl, rfl⟩
theorem len_2 (w : World) : Calls Try.prog 95 #[.int .u64 2] w fun e w' => e = .returned (.int .i64 2) ∧ w' = w := by
  have H := hide (len64_2 w)
  go_enter Try.func95, Try.ntmps95
  go_wp2_with fail
  refine H.out.mono ?_
  rintro e w' ⟨rfl, rfl⟩
  go_wp2_with fail
  go_ret
  exact ⟨rfl, rfl⟩
set_option maxHeartbeats 1000000 in
theorem len64_4 (w : World) : Calls Try.prog 114 #[.int .u64 4] w fun e w' => e = .returned (.int .i64 3) ∧ w' = w := by
  have hsz := tab_size
  have htb : Lib.len8 4 = 3 := by rw [Lib.len8_of _ (by omega) (by omega)]; decide
  go_enter Try.func114, Try.ntmps114
  go_wp2_with fail
  go_ret
  exact ⟨rfl, rfl⟩
theorem len_4 (w : World) : Calls Try.prog 95 #[.int .u64 4] w fun e w' => e = .returned (.int .i64 3) ∧ w' = w := by
  have H := hide (len64_4 w)
  go_enter Try.func95, Try.ntmps95
  go_wp2_with fail
  refine H.out.mono ?_
  rintro e w' ⟨rfl, rfl⟩
  go_wp2_with fail
  go_ret
  exact ⟨rfl, rfl⟩
set_option maxHeartbeats 1000000 in
theorem len64_8 (w : World) : Calls Try.prog 114 #[.int .u64 8] w fun e w' => e = .returned (.int .i64 4) ∧ w' = w := by
  have hsz := tab_size
  have htb : Lib.len8 8 = 4 := by rw [Lib.len8_of _ (by omega) (by omega)]; decide
  go_enter Try.func114, Try.ntmps114
  go_wp2_with fail
  go_ret
  exact ⟨rfl, rfl⟩
theorem len_8 (w : World) : Calls Try.prog 95 #[.int .u64 8] w fun e w' => e = .returned (.int .i64 4) ∧ w' = w := by
  have H := hide (len64_8 w)
  go_enter Try.func95, Try.ntmps95
  go_wp2_with fail
  refine H.out.mono ?_
  rintro e w' ⟨rfl, rfl⟩
  go_wp2_with fail
  go_ret
  exact ⟨rfl, rfl⟩
set_option maxHeartbeats 1000000 in
theorem len64_16 (w : World) : Calls Try.prog 114 #[.int .u64 16] w fun e w' => e = .returned (.int .i64 5) ∧ w' = w := by
  have hsz := tab_size
  have htb : Lib.len8 16 = 5 := by rw [Lib.len8_of _ (by omega) (by omega)]; decide
  go_enter Try.func114, Try.ntmps114
  go_wp2_with fail
  go_ret
  exact ⟨rfl, rfl⟩
theorem len_16 (w : World) : Calls Try.prog 95 #[.int .u64 16] w fun e w' => e = .returned (.int .i64 5) ∧ w' = w := by
  have H := hide (len64_16 w)
  go_enter Try.func95, Try.ntmps95
  go_wp2_with fail
  refine H.out.mono ?_
  rintro e w' ⟨rfl, rfl⟩
  go_wp2_with fail
  go_ret
  exact ⟨rfl, rfl⟩
set_option maxHeartbeats 1000000 in
theorem len64_32 (w : World) : Calls Try.prog 114 #[.int .u64 32] w fun e w' => e = .returned (.int .i64 6) ∧ w' = w := by
  have hsz := tab_size
  have htb : Lib.len8 32 = 6 := by rw [Lib.len8_of _ (by omega) (by omega)]; decide
  go_enter Try.func114, Try.ntmps114
  go_wp2_with fail
  go_ret
  exact ⟨rfl, rfl⟩
theorem len_32 (w : World) : Calls Try.prog 95 #[.int .u64 32] w fun e w' => e = .returned (.int .i64 6) ∧ w' = w := by
  have H := hide (len64_32 w)
  go_enter Try.func95, Try.ntmps95
  go_wp2_with fail
  refine H.out.mono ?_
  rintro e w' ⟨rfl, rfl⟩
  go_wp2_with fail
  go_ret
  exact ⟨rfl, rfl⟩
theorem logIx_cases (n : Nat) : (n = 1 ∧ logIx n = 0) ∨ (n = 2 ∧ logIx n = 1) ∨ (n = 4 ∧ logIx n = 2) ∨ (n = 8 ∧ logIx n = 3) ∨ (n = 16 ∧ logIx n = 4) ∨ (n = 32 ∧ logIx n = 5) ∨ (logIx n = 6 ∧ n ≠ 1 ∧ n ≠ 2 ∧ n ≠ 4 ∧ n ≠ 8 ∧ n ≠ 16 ∧ n ≠ 32) := by
  by_cases h1 : n = 1
  · subst h1; exact .inl ⟨rfl, rfl⟩
  by_cases h2 : n = 2
  · subst h2; exact .inr (.inl ⟨rfl, rfl⟩)
  by_cases h3 : n = 4
  · subst h3; exact .inr (.inr (.inl ⟨rfl, rfl⟩))
  by_cases h4 : n = 8
  · subst h4; exact .inr (.inr (.inr (.inl ⟨rfl, rfl⟩)))
  by_cases h5 : n = 16
  · subst h5; exact .inr (.inr (.inr (.inr (.inl ⟨rfl, rfl⟩))))
  by_cases h6 : n = 32
  · subst h6; exact .inr (.inr (.inr (.inr (.inr (.inl ⟨rfl, rfl⟩)))))
  refine .inr (.inr (.inr (.inr (.inr (.inr ⟨?_, h1, h2, h3, h4, h5, h6⟩)))))
  unfold logIx
  rw [if_neg h1, if_neg h2, if_neg h3, if_neg h4, if_neg h5, if_neg h6]

/-- what is told of the Logs -/
def LogsP (w : World) (M : List (List Int)) (e : Ending) (w' : World) : Prop :=
  ∃ lv, e = .returned (.tuple #[lv, .bool (hasLogs M && decide (M.length ≤ 3))]) ∧ (hasLogs M = true → M.length ≤ 3 → w'.ownsRow w.heap.size 3 1 lv (logsOf M).length ((logsOf M).map (Value.int .i64))) ∧ (∃ la ll lc, lv = .slice la ll lc) ∧ Below w.heap.size w w'
theorem LogsP.no {w w' : World} {M : List (List Int)} (h : hasLogs M = false ∨ ¬ M.length ≤ 3) (hb : Below w.heap.size w w') : LogsP w M (.returned (.tuple #[.slice none 0 0, .bool false])) w' := by
  refine ⟨.slice none 0 0, ?_, fun e1 e2 => ?_, ⟨_, _, _, rfl⟩, hb⟩
  · rcases h with h | h
    · rw [h]; rfl
    · rw [decide_eq_false h, Bool.and_false]
  · rcases h with h | h
    · rw [h] at e1; cases e1
    · exact absurd e2 h
set_option maxHeartbeats 8000000 in
theorem plogs_any (v : Value) (M : List (List Int)) (w : World) (h : IntRows w v M) :
    Calls Try.prog 74 #[v] w fun e w' => LogsP w M e w' := by
  obtain ⟨ma, mcap, rfl, ml, mm, mc⟩ := h
  unfold maxLen at mm
  obtain ⟨i0, hi, hz0, hz1, hz2⟩ := info_parts Try.i3
  have HMC := hide mc
  clear mc
  by_cases h3 : M.length ≤ 3
  · have h3i : ¬ (3 : Int) < (M.length : Int) := by omega
    have HD : Hid (decide (M.length ≤ 3) = true) := decide_eq_true h3
    go_enter Try.func74, Try.ntmps74
    go_wp2_with fail
    go_loopw [4, 14] (fun l i wr => ∃ k : Nat, k ≤ M.length ∧ i = .int .i64 k ∧ allN (fun i => hasLog (rowAt M i)) k = true ∧ Below w.heap.size w wr ∧ ∃ la lc, l = .slice la k lc ∧ wr.ownsRow w.heap.size 3 1 (.slice la k lc) k (((logsOf M).take k).map (Value.int .i64))) (fun _ i _ => M.length - (intOf i).toNat)
    case atStart => exact ⟨0, Nat.zero_le _, rfl, rfl, below_alloc1 _ _, _, 0, rfl, own_empty w 3⟩
    case round =>
      obtain ⟨k, hk, rfl, hall, hbel, la, lc, rfl, hown⟩ := hrel
      have HA := hide hall
      have HB := hide hbel
      have HO := hide hown
      have hsz := hbel.size
      clear hall hown
      by_cases hlt : k < M.length
      · have hki : (k : Int) < (M.length : Int) := by omega
        obtain ⟨b, off, rfl, hb, hrow⟩ := HMC.out (by omega)
        obtain ⟨u, hu, ⟨ra, rc, rfl, rl, rm, rr, rcell⟩⟩ := hrow k hlt
        rw [← bcell hbel _ _ hb] at hu
        have hbz : b < wr.heap.size := by omega
        unfold maxLen at rm
        clear rr rcell hrow hbel
        have HTK := hide (logs_take M k hlt)
        have HLG : Hid (∀ b, hasLog (rowAt M k) = b → decide (logIx (rowAt M k).length < 6) = b) := fun b h => h
        have HNO : Hid (logIx (rowAt M k).length = 6 → hasLogs M = false) := fun h => allN_false hlt (by show decide (logIx _ < 6) = false; rw [h]; rfl)
        have HYES : Hid (logIx (rowAt M k).length < 6 → hasLog (rowAt M k) = true) := fun h => decide_eq_true h
        obtain ⟨n, hn⟩ : ∃ n, (rowAt M k).length = n := ⟨_, rfl⟩
        rw [hn] at hu HTK HNO HYES rl
        clear hn HLG
        rename World => wo
        rcases logIx_cases n with ⟨rfl, hg⟩ | ⟨rfl, hg⟩ | ⟨rfl, hg⟩ | ⟨rfl, hg⟩ | ⟨rfl, hg⟩ | ⟨rfl, hg⟩ | ⟨hg, n1, n2, n4, n8, n16, n32⟩
        · have hin : inR 0 0 5 = true := rfl
          have HG := hide hg
          clear hg
          go_wp2_with (first
            | (go_at_call 95; refine (len_1 _).mono ?_; rintro e w' ⟨rfl, hw'⟩; have hw' := hw'.symm; subst hw')
            | (go_at_call 68; refine (pwithin_any _ _ _ _).mono ?_; rintro e w' ⟨rfl, hw'⟩; have hw' := hw'.symm; subst hw')
            | (at_builtin; refine wpList_append_own _ rfl (.tmp 33) (.tmp 35) 27 rfl w.heap.size 3 i0 (.int .i64 0) 1 8 Try.underlying27 hi hz0 hz1 hz2 rfl (by decide) _ _ _ rfl (own_below HO.out (below_alloc1 _ _)) ⟨wo.heap.size, 0, none⟩ 1 1 [.int .i64 0] rfl rfl (by exact one_cell _ _ _) (by intro u hu; simp at hu; subst hu; rfl) (by unfold maxLen; omega) (by omega) (by simp; omega) ?_; intro v1 w1 hown1 hgrow1 hnil1; obtain ⟨g1, cap1, rfl, -, -, -, -⟩ := own_parts hown1 (.inr (by omega)); have HO2 := hide hown1; have HG2 := hide hgrow1; clear hown1 hgrow1 hnil1))
          go_roundw
          case rel =>
            refine ⟨k + 1, by omega, by go_num, allN_step HA.out (HYES.out (by rw [HG.out]; omega)), ?_, _, _, rfl, ?_⟩
            · exact (HB.out.alloc (by omega) _).grown HG2.out (by simp; omega) (own_block_ge HO.out)
            · rw [← HTK.out, HG.out]; exact HO2.out
          case measure => simp [intOf]; omega
        · have hin : inR 1 0 5 = true := rfl
          have HG := hide hg
          clear hg
          go_wp2_with (first
            | (go_at_call 95; refine (len_2 _).mono ?_; rintro e w' ⟨rfl, hw'⟩; have hw' := hw'.symm; subst hw')
            | (go_at_call 68; refine (pwithin_any _ _ _ _).mono ?_; rintro e w' ⟨rfl, hw'⟩; have hw' := hw'.symm; subst hw')
            | (at_builtin; refine wpList_append_own _ rfl (.tmp 33) (.tmp 35) 27 rfl w.heap.size 3 i0 (.int .i64 0) 1 8 Try.underlying27 hi hz0 hz1 hz2 rfl (by decide) _ _ _ rfl (own_below HO.out (below_alloc1 _ _)) ⟨wo.heap.size, 0, none⟩ 1 1 [.int .i64 1] rfl rfl (by exact one_cell _ _ _) (by intro u hu; simp at hu; subst hu; rfl) (by unfold maxLen; omega) (by omega) (by simp; omega) ?_; intro v1 w1 hown1 hgrow1 hnil1; obtain ⟨g1, cap1, rfl, -, -, -, -⟩ := own_parts hown1 (.inr (by omega)); have HO2 := hide hown1; have HG2 := hide hgrow1; clear hown1 hgrow1 hnil1))
          go_roundw
          case rel =>
            refine ⟨k + 1, by omega, by go_num, allN_step HA.out (HYES.out (by rw [HG.out]; omega)), ?_, _, _, rfl, ?_⟩
            · exact (HB.out.alloc (by omega) _).grown HG2.out (by simp; omega) (own_block_ge HO.out)
            · rw [← HTK.out, HG.out]; exact HO2.out
          case measure => simp [intOf]; omega
        · have hin : inR 2 0 5 = true := rfl
          have HG := hide hg
          clear hg
          go_wp2_with (first
            | (go_at_call 95; refine (len_4 _).mono ?_; rintro e w' ⟨rfl, hw'⟩; have hw' := hw'.symm; subst hw')
            | (go_at_call 68; refine (pwithin_any _ _ _ _).mono ?_; rintro e w' ⟨rfl, hw'⟩; have hw' := hw'.symm; subst hw')
            | (at_builtin; refine wpList_append_own _ rfl (.tmp 33) (.tmp 35) 27 rfl w.heap.size 3 i0 (.int .i64 0) 1 8 Try.underlying27 hi hz0 hz1 hz2 rfl (by decide) _ _ _ rfl (own_below HO.out (below_alloc1 _ _)) ⟨wo.heap.size, 0, none⟩ 1 1 [.int .i64 2] rfl rfl (by exact one_cell _ _ _) (by intro u hu; simp at hu; subst hu; rfl) (by unfold maxLen; omega) (by omega) (by simp; omega) ?_; intro v1 w1 hown1 hgrow1 hnil1; obtain ⟨g1, cap1, rfl, -, -, -, -⟩ := own_parts hown1 (.inr (by omega)); have HO2 := hide hown1; have HG2 := hide hgrow1; clear hown1 hgrow1 hnil1))
          go_roundw
          case rel =>
            refine ⟨k + 1, by omega, by go_num, allN_step HA.out (HYES.out (by rw [HG.out]; omega)), ?_, _, _, rfl, ?_⟩
            · exact (HB.out.alloc (by omega) _).grown HG2.out (by simp; omega) (own_block_ge HO.out)
            · rw [← HTK.out, HG.out]; exact HO2.out
          case measure => simp [intOf]; omega
        · have hin : inR 3 0 5 = true := rfl
          have HG := hide hg
          clear hg
          go_wp2_with (first
            | (go_at_call 95; refine (len_8 _).mono ?_; rintro e w' ⟨rfl, hw'⟩; have hw' := hw'.symm; subst hw')
            | (go_at_call 68; refine (pwithin_any _ _ _ _).mono ?_; rintro e w' ⟨rfl, hw'⟩; have hw' := hw'.symm; subst hw')
            | (at_builtin; refine wpList_append_own _ rfl (.tmp 33) (.tmp 35) 27 rfl w.heap.size 3 i0 (.int .i64 0) 1 8 Try.underlying27 hi hz0 hz1 hz2 rfl (by decide) _ _ _ rfl (own_below HO.out (below_alloc1 _ _)) ⟨wo.heap.size, 0, none⟩ 1 1 [.int .i64 3] rfl rfl (by exact one_cell _ _ _) (by intro u hu; simp at hu; subst hu; rfl) (by unfold maxLen; omega) (by omega) (by simp; omega) ?_; intro v1 w1 hown1 hgrow1 hnil1; obtain ⟨g1, cap1, rfl, -, -, -, -⟩ := own_parts hown1 (.inr (by omega)); have HO2 := hide hown1; have HG2 := hide hgrow1; clear hown1 hgrow1 hnil1))
          go_roundw
          case rel =>
            refine ⟨k + 1, by omega, by go_num, allN_step HA.out (HYES.out (by rw [HG.out]; omega)), ?_, _, _, rfl, ?_⟩
            · exact (HB.out.alloc (by omega) _).grown HG2.out (by simp; omega) (own_block_ge HO.out)
            · rw [← HTK.out, HG.out]; exact HO2.out
          case measure => simp [intOf]; omega
        · have hin : inR 4 0 5 = true := rfl
          have HG := hide hg
          clear hg
          go_wp2_with (first
            | (go_at_call 95; refine (len_16 _).mono ?_; rintro e w' ⟨rfl, hw'⟩; have hw' := hw'.symm; subst hw')
            | (go_at_call 68; refine (pwithin_any _ _ _ _).mono ?_; rintro e w' ⟨rfl, hw'⟩; have hw' := hw'.symm; subst hw')
            | (at_builtin; refine wpList_append_own _ rfl (.tmp 33) (.tmp 35) 27 rfl w.heap.size 3 i0 (.int .i64 0) 1 8 Try.underlying27 hi hz0 hz1 hz2 rfl (by decide) _ _ _ rfl (own_below HO.out (below_alloc1 _ _)) ⟨wo.heap.size, 0, none⟩ 1 1 [.int .i64 4] rfl rfl (by exact one_cell _ _ _) (by intro u hu; simp at hu; subst hu; rfl) (by unfold maxLen; omega) (by omega) (by simp; omega) ?_; intro v1 w1 hown1 hgrow1 hnil1; obtain ⟨g1, cap1, rfl, -, -, -, -⟩ := own_parts hown1 (.inr (by omega)); have HO2 := hide hown1; have HG2 := hide hgrow1; clear hown1 hgrow1 hnil1))
          go_roundw
          case rel =>
            refine ⟨k + 1, by omega, by go_num, allN_step HA.out (HYES.out (by rw [HG.out]; omega)), ?_, _, _, rfl, ?_⟩
            · exact (HB.out.alloc (by omega) _).grown HG2.out (by simp; omega) (own_block_ge HO.out)
            · rw [← HTK.out, HG.out]; exact HO2.out
          case measure => simp [intOf]; omega
        · have hin : inR 5 0 5 = true := rfl
          have HG := hide hg
          clear hg
          go_wp2_with (first
            | (go_at_call 95; refine (len_32 _).mono ?_; rintro e w' ⟨rfl, hw'⟩; have hw' := hw'.symm; subst hw')
            | (go_at_call 68; refine (pwithin_any _ _ _ _).mono ?_; rintro e w' ⟨rfl, hw'⟩; have hw' := hw'.symm; subst hw')
            | (at_builtin; refine wpList_append_own _ rfl (.tmp 33) (.tmp 35) 27 rfl w.heap.size 3 i0 (.int .i64 0) 1 8 Try.underlying27 hi hz0 hz1 hz2 rfl (by decide) _ _ _ rfl (own_below HO.out (below_alloc1 _ _)) ⟨wo.heap.size, 0, none⟩ 1 1 [.int .i64 5] rfl rfl (by exact one_cell _ _ _) (by intro u hu; simp at hu; subst hu; rfl) (by unfold maxLen; omega) (by omega) (by simp; omega) ?_; intro v1 w1 hown1 hgrow1 hnil1; obtain ⟨g1, cap1, rfl, -, -, -, -⟩ := own_parts hown1 (.inr (by omega)); have HO2 := hide hown1; have HG2 := hide hgrow1; clear hown1 hgrow1 hnil1))
          go_roundw
          case rel =>
            refine ⟨k + 1, by omega, by go_num, allN_step HA.out (HYES.out (by rw [HG.out]; omega)), ?_, _, _, rfl, ?_⟩
            · exact (HB.out.alloc (by omega) _).grown HG2.out (by simp; omega) (own_block_ge HO.out)
            · rw [← HTK.out, HG.out]; exact HO2.out
          case measure => simp [intOf]; omega
        · have HL : Hid (hasLogs M = false) := HNO.out hg
          have b1 : ((n : Int) == 1) = false := beq_eq_false_iff_ne.2 (by omega)
          have b2 : ((n : Int) == 2) = false := beq_eq_false_iff_ne.2 (by omega)
          have b4 : ((n : Int) == 4) = false := beq_eq_false_iff_ne.2 (by omega)
          have b8 : ((n : Int) == 8) = false := beq_eq_false_iff_ne.2 (by omega)
          have b16 : ((n : Int) == 16) = false := beq_eq_false_iff_ne.2 (by omega)
          have b32 : ((n : Int) == 32) = false := beq_eq_false_iff_ne.2 (by omega)
          clear hg n1 n2 n4 n8 n16 n32 HTK HYES HNO
          go_wp2_with fail
          refine (len_some n _ (by omega)).mono ?_
          rintro e w' ⟨r, rfl, rfl⟩
          obtain ⟨lg, hlg⟩ : ∃ lg, wrap64 (r - 1) = lg := ⟨_, rfl⟩
          cases hin : inR lg 0 5 with
          | false =>
            go_wp2_with (go_at_call 68; refine (pwithin_any _ _ _ _).mono ?_; rintro e w' ⟨rfl, rfl⟩)
            exact bodyPost_ret (v := .tuple #[.slice none 0 0, .bool false]) (by simp [results, Try.results74, go_sem]) rfl (LogsP.no (.inl HL.out) HB.out)
          | true =>
            have hlr := inR_iff.1 hin
            obtain rfl | rfl | rfl | rfl | rfl | rfl : lg = 0 ∨ lg = 1 ∨ lg = 2 ∨ lg = 3 ∨ lg = 4 ∨ lg = 5 := by omega
            all_goals
              clear hlr
              go_wp2_with (go_at_call 68; refine (pwithin_any _ _ _ _).mono ?_; rintro e w' ⟨rfl, rfl⟩)
              exact bodyPost_ret (v := .tuple #[.slice none 0 0, .bool false]) (by simp [results, Try.results74, go_sem]) rfl (LogsP.no (.inl HL.out) HB.out)
      · have e : k = M.length := by omega
        subst e
        have hki : ¬ (M.length : Int) < (M.length : Int) := by omega
        have HL : Hid (hasLogs M = true) := HA.out
        have HO2 : Hid (wr.ownsRow w.heap.size 3 1 (.slice la M.length lc) (logsOf M).length ((logsOf M).map (Value.int .i64))) := by
          have h := HO.out
          rw [List.take_of_length_le (by rw [logsOf_len]; omega)] at h
          show wr.ownsRow _ _ _ _ (logsOf M).length _
          rw [logsOf_len]; exact h
        clear hbel
        go_wp2_with fail
        exact bodyPost_ret (v := .tuple #[.slice la M.length lc, .bool true]) (by simp [results, Try.results74, go_sem]) rfl ⟨_, by rw [HL.out, HD.out]; rfl, fun _ _ => HO2.out, ⟨_, _, _, rfl⟩, HB.out⟩
  · have h3i : (3 : Int) < (M.length : Int) := by omega
    have HN3 := hide h3
    go_enter Try.func74, Try.ntmps74
    go_wp2_with fail
    exact bodyPost_ret (v := .tuple #[.slice none 0 0, .bool false]) (by simp [results, Try.results74, go_sem]) rfl (LogsP.no (.inr HN3.out) (Below.refl _ _))
end Go.Proofs.Ytpljieenjkbmmaa
/- How a run begins in memory, by the program: the machine, its registers, its words, row by row. -/
namespace Go.Proofs.Ytpljieenjkbmmaa
open Go.RowKit Go.Joins
set_option linter.unusedVariables false
set_option linter.unusedSimpArgs false

set_option maxHeartbeats 1000000 in
theorem clone_128 (v : Value) (zs : List Int) (w : World) (h : Ints w v zs) (h0 : 0 < zs.length) (h128 : zs.length ≤ 128) :
    Calls Try.prog 75 #[v] w fun e w' => ∃ g cap, e = .returned (.slice (some ⟨g, 0, none⟩) zs.length cap) ∧ w.heap.size ≤ g ∧ cap ≤ maxLen ∧
      RowX w' g 2 cap zs.length (fun j => .int .i64 (nth zs j)) ∧ Below w.heap.size w w' := by
  obtain ⟨a, rc, rfl, hl, hm, hr, hc⟩ := h
  unfold maxLen at hm
  obtain ⟨b2, o2, rfl, hb2, hcell2⟩ := hc h0
  obtain ⟨i0, hi, hz0, hz1, hz2⟩ := info_parts Try.i2
  have hq : ∀ (w : World) (a : Option Addr) (n c n' c' : Nat), (binOp .eql 36 (.slice a n c) (.slice none n' c')).run Try.prog w = .ok (.bool a.isNone) w := fun w a n c n' c' => Lib.run_eql_slice_nil w _ _ a n c n' c' Try.underlying36
  have hbe : Below w.heap.size w (w.alloc (.cells #[] 2)) := below_alloc1 _ _
  have N1 : Hid ((zs.map (Value.int .i64)).length = zs.length * 1) := by show _ = _; simp
  have N2 : Hid (∀ j u, (zs.map (Value.int .i64))[j]? = some u → (w.alloc (.cells #[] 2)).cell? ((⟨b2, o2, none⟩ : Addr).add j) = some u) := row_cells (fun i hi => by
    rw [bcell hbe _ _ hb2]; exact hcell2 i hi)
  have N3 := hide (ints_one zs)
  clear hc hcell2 hr
  go_enter Try.func75, Try.ntmps75
  go_wp2_with (at_builtin; refine wpList_append_own _ rfl (.tmp 5) (.tmp 6) 36 rfl w.heap.size 2 i0 (.int .i64 0) 1 8 Try.underlying36 hi hz0 hz1 hz2 rfl (by decide) _ _ _ rfl (own_empty w 2) ⟨b2, o2, none⟩ _ rc _ rfl N1.out N2.out N3.out (by unfold maxLen; omega) (by omega) (by simp) ?_; intro v1 w1 hown1 hgrow1 hnil1; obtain ⟨g1, cap1, rfl, -, -, -, -⟩ := own_parts hown1 (.inr (by omega)); have HB1 := below_empty hgrow1; have HO1 := hide hown1)
  go_ret
  simp only [Nat.zero_add] at HO1 ⊢
  obtain ⟨h1, h2, h3⟩ := own_x HO1.out
  refine ⟨g1, cap1, rfl, h1, h2, h3.congr fun j hj => ?_, HB1⟩
  rw [List.nil_append]
  exact getD_ints zs j hj

def lenOf (M : List (List Int)) (i : Nat) : Nat := (rowAt M i).length
/-- k rows of words have been copied -/
structure BInv (w0 : World) (A gr cr : Nat) (R : List Int) (t : Tg) (pc st : Int) (kv lv : Value) (logs : List Int) (turns : Int) (M : List (List Int)) (k : Nat) (mv : Value) (G C : Nat → Nat) (wr : World) : Prop where
  bel : Below w0.heap.size w0 wr
  hA : wr.heap[A]? = some (.cells #[.int .i64 t.u0, .int .i64 t.u1, .int .i64 t.u2, .int .i64 t.w0, .int .i64 t.w1, .int .i64 t.w2, .int .i64 t.r, .int .i64 pc, .int .i64 st, kv, lv, .slice (some ⟨gr, 0, none⟩) R.length cr, mv, .int .i64 turns, .slice none 0 0, .slice none 0 0, .slice none 0 0, .slice none 0 0, .slice none 0 0, .slice none 0 0] 112 (0, 0))
  hAb : w0.heap.size ≤ A
  regs : RowF wr gr 2 R.length (fun i => .int .i64 (nth R i))
  hr : w0.heap.size ≤ gr ∧ R.length ≤ cr ∧ cr ≤ maxLen
  out : wr.ownsRow w0.heap.size 36 1 mv k ((List.range k).map (rowV G C (lenOf M)))
  inn : Inner wr w0.heap.size G C k (lenOf M) (fun i j => nth (rowAt M i) j)
  rM : ∀ i, i < k → gr ≠ G i
  lgs : wr.ownsRow w0.heap.size 3 1 lv logs.length (logs.map (Value.int .i64))
variable {w0 : World} {A gr cr : Nat} {R : List Int} {t : Tg} {pc st : Int} {kv lv : Value} {logs : List Int} {turns : Int} {M : List (List Int)} {k : Nat} {mv : Value} {G C : Nat → Nat} {wr : World}
theorem BInv.A_lt (h : BInv w0 A gr cr R t pc st kv lv logs turns M k mv G C wr) : A < wr.heap.size := (Array.getElem?_eq_some_iff.1 h.hA).1
theorem BInv.below {x : World} (h : BInv w0 A gr cr R t pc st kv lv logs turns M k mv G C wr) (hb : Below wr.heap.size wr x) : BInv w0 A gr cr R t pc st kv lv logs turns M k mv G C x where
  bel := h.bel.trans (hb.mono h.bel.size)
  hA := by rw [hb.block _ h.A_lt]; exact h.hA
  hAb := h.hAb
  regs := h.regs.below hb h.regs.lt
  hr := h.hr
  out := ownz_keep h.out fun g hg => hb.block g (ownz_block_lt h.out g hg)
  inn := h.inn.below hb
  rM := h.rM
  lgs := ownz_keep h.lgs fun g hg => hb.block g (ownz_block_lt h.lgs g hg)
theorem BInv.cell (h : BInv w0 A gr cr R t pc st kv lv logs turns M k mv G C wr) : wr.cell? ⟨A, 12, none⟩ = some mv := by rw [cell_of_block h.hA]; rfl
theorem BInv.ends (h : BInv w0 A gr cr R t pc st kv lv logs turns M k mv G C wr) : wr.cell? ⟨A, 11, none⟩ = some (.slice (some ⟨gr, 0, none⟩) R.length cr) ∧ wr.cell? ⟨A, 12, none⟩ = some mv := ⟨by rw [cell_of_block h.hA]; rfl, h.cell⟩
theorem BInv.grown {w6 : World} (h : BInv w0 A gr cr R t pc st kv lv logs turns M k mv G C wr) (hg : wr.grownBy w6 mv.ownBlock) : w6.cell? ⟨A, 12, none⟩ = some mv ∧ w6.frozen? ⟨A, 12, none⟩ = false := by
  have b := row_far h.out hg h.hA (by decide)
  exact ⟨by rw [World.cell?_of_block (a := ⟨A, 12, none⟩) b]; exact h.cell, by simp [World.frozen?, b, h.hA]⟩
/-- one row more -/
theorem BInv.step {g cap g2 cap2 B0 : Nat} {w6 : World} (h : BInv w0 A gr cr R t pc st kv lv logs turns M k mv G C wr) (hrow : RowX wr g 2 cap (lenOf M k) (fun j => .int .i64 (nth (rowAt M k) j))) (hge : w0.heap.size ≤ g) (hcm : cap ≤ maxLen) (hgr : gr ≠ g) (hG : ∀ i, i < k → G i ≠ g)
    (hown : w6.ownsRow w0.heap.size 36 1 (.slice (some ⟨g2, 0, none⟩) (k + 1) cap2) (k + 1) (((List.range k).map (rowV G C (lenOf M))) ++ [.slice (some ⟨g, 0, none⟩) (lenOf M k) cap])) (hg : wr.grownBy w6 mv.ownBlock) :
    BInv w0 A gr cr R t pc st kv lv logs turns M (k + 1) (.slice (some ⟨g2, 0, none⟩) (k + 1) cap2) (fun i => if i = k then g else G i) (fun i => if i = k then cap else C i) (w6.setCell ⟨A, 12, none⟩ (.slice (some ⟨g2, 0, none⟩) (k + 1) cap2)) := by
  have bA := row_far h.out hg h.hA (by decide)
  have hfar : ∀ {q : Nat} {e : TypeId} {n : Nat} {f : Nat → Value}, RowF wr q e n f → e ≠ 36 → w6.heap[q]? = wr.heap[q]? := fun {q e n f} hr he => by
    obtain ⟨c, hb, _, _⟩ := hr
    exact row_far h.out hg hb he
  have hAr : A ≠ gr := blockrow_apart h.hA h.regs (by decide)
  have hAg : A ≠ g := blockrow_apart h.hA hrow.row (by decide)
  have hAG : ∀ i, i < k → A ≠ G i := fun i hi => blockrow_apart h.hA (h.inn.1 i hi).2.2.2 (by decide)
  refine { bel := (h.bel.grown hg h.bel.size (ownz_block_ge h.out)).setCell (by show w0.heap.size ≤ A; exact h.hAb) _, hA := ?_, hAb := h.hAb, regs := ?_, hr := h.hr, out := ?_, inn := ?_, rM := ?_, lgs := ?_ }
  · have hb : w6.heap[A]? = _ := bA.trans h.hA
    simp [World.setCell, Array.getElem?_modify, hb]
  · exact (h.regs.of_block (hfar h.regs (by decide))).setOther (by show gr ≠ A; exact hAr.symm) _
  · rw [← rowV_snoc]
    exact ownz_keep hown fun q hq => Below.heap_setCell _ _ _ _ (by
      show q ≠ A
      intro e
      subst e
      obtain ⟨-, hd⟩ := hown
      rcases hd with ⟨e3, _⟩ | ⟨g', cap', cur, e3, _, hb3, _⟩
      · cases e3
      · have e4 : g' = q := by rw [e3] at hq; simpa [Value.ownBlock] using hq
        subst e4
        exact blocks_apart (bA.trans h.hA) hb3 (by decide) rfl)
  · have h1 : Inner w6 w0.heap.size G C k (lenOf M) (fun i j => nth (rowAt M i) j) := h.inn.keep fun i hi => hfar (h.inn.1 i hi).2.2.2 (by decide)
    have h2 : RowF w6 g 2 (lenOf M k) (fun j => .int .i64 (nth (rowAt M k) j)) := hrow.row.of_block (hfar hrow.row (by decide))
    have h3 := h1.snoc g cap hge hrow.le hcm h2 hG
    refine h3.keep fun i hi => Below.heap_setCell _ _ _ _ ?_
    show (if i = k then g else G i) ≠ A
    by_cases e : i = k
    · rw [if_pos e]; exact hAg.symm
    · rw [if_neg e]; exact (hAG i (by omega)).symm
  · intro i hi
    by_cases e : i = k
    · simp only [if_pos e]; exact hgr
    · simp only [if_neg e]; exact h.rM i (by omega)
  · have h1 := ownz_keep h.lgs fun q hq => hg.block q (ownz_block_lt h.lgs q hq) (ownz_two h.lgs h.out (by decide) q hq)
    exact ownz_keep h1 fun q hq => Below.heap_setCell _ _ _ _ (by
      show q ≠ A
      intro e
      subst e
      obtain ⟨-, hd⟩ := h1
      rcases hd with ⟨e3, _⟩ | ⟨g', cap', cur, e3, _, hb3, _⟩
      · rw [e3] at hq; cases hq
      · have e4 : g' = q := by rw [e3] at hq; simpa [Value.ownBlock] using hq
        subst e4
        exact blocks_apart (bA.trans h.hA) hb3 (by decide) rfl)
/-- the machine, as its cycles begin -/
def mcOf (w0 wr : World) (A gr cr : Nat) (R : List Int) (t : Tg) (pc st : Int) (kv lv : Value) (turns : Int) (M : List (List Int)) (mv : Value) (G : Nat → Nat) : Mc := ⟨w0, wr, A, t, pc, st, kv, lv, mv, turns, R.length, gr, cr, M.length, lenOf M, G⟩
theorem BInv.mach (h : BInv w0 A gr cr R t pc st kv lv logs turns M M.length mv G C wr) : MInv (mcOf w0 wr A gr cr R t pc st kv lv turns M mv G) (fun _ => .slice none 0 0) [] (fun i => nth R i) (fun i j => nth (rowAt M i) j) wr where
  bel := h.bel
  keep := ⟨Nat.le_refl _, fun _ _ _ _ _ => rfl⟩
  hA := h.hA
  hA1 := ⟨h.hAb, h.A_lt⟩
  regs := h.regs
  hr := ⟨h.hr.1, h.regs.lt, h.hr.2⟩
  min := fun i hi => ⟨(h.inn.1 i hi).1, (h.inn.1 i hi).2.2.2.lt, (h.inn.1 i hi).2.2.2⟩
  minj := h.inn.2
  rM := h.rM
  due := fun j hj => World.ownsRow_nil _ _ _ _
  dinj := fun i j _ _ _ g hg => by cases hg
  w01 := h.bel.size
/-- what the run leaves as it is -/
theorem BInv.stat (h : BInv w0 A gr cr R t pc st kv lv logs turns M M.length mv G C wr) (hlg : ∀ i, i < logs.length → -9223372036854775808 ≤ nth logs i ∧ nth logs i ≤ 9223372036854775807) : ∃ gm cm, ∀ x, KeptM (mcOf w0 wr A gr cr R t pc st kv lv turns M mv G) x → StatM (mcOf w0 wr A gr cr R t pc st kv lv turns M mv G) logs gm cm C x ∧ (0 < M.length → RowF x gm 36 M.length (rowV G C (lenOf M)) ∧ w0.heap.size ≤ gm) ∧ ∃ am, mv = .slice am M.length cm ∧ M.length ≤ cm ∧ cm ≤ maxLen := by
  obtain ⟨gm, cm, hMR⟩ := MR.of_copy h.out h.inn
  have far : ∀ (x : World), KeptM (mcOf w0 wr A gr cr R t pc st kv lv turns M mv G) x → ∀ (g : Nat) (cs : Array Value) (e : TypeId), wr.heap[g]? = some (.cells cs e (0, 0)) → e ≠ 112 → e ≠ 2 → x.heap[g]? = wr.heap[g]? := fun x hx g cs e hb h1 h2 =>
    hx.2 g (Array.getElem?_eq_some_iff.1 hb).1 (blocks_apart hb h.hA h1) (blockrow_apart hb h.regs h2) (fun i hi => blockrow_apart hb (h.inn.1 i hi).2.2.2 h2)
  refine ⟨gm, cm, fun x hx => ?_⟩
  have hlog : x.ownsRow w0.heap.size 3 1 lv logs.length (logs.map (Value.int .i64)) := ownz_keep h.lgs fun q hq => by
    obtain ⟨-, hd⟩ := h.lgs
    rcases hd with ⟨e3, _⟩ | ⟨g', cap', cur, e3, _, hb3, _⟩
    · rw [e3] at hq; cases hq
    · have e4 : g' = q := by rw [e3] at hq; simpa [Value.ownBlock] using hq
      subst e4
      exact far x hx _ _ _ hb3 (by decide) (by decide)
  have hout : 0 < M.length → mv = .slice (some ⟨gm, 0, none⟩) M.length cm ∧ RowF x gm 36 M.length (rowV G C (lenOf M)) ∧ w0.heap.size ≤ gm := fun hp => by
    rcases hMR.out with e | ⟨e1, e2, e3⟩
    · omega
    · refine ⟨e1, ?_, e3⟩
      have e4 := e2
      obtain ⟨c, hb, _, _⟩ := e2
      exact e4.of_block (far x hx _ _ _ hb (by decide) (by decide))
  obtain ⟨am, hm1, hm2, hm3⟩ := hMR.shape
  exact ⟨⟨ints_of_own2 hlog hlg, fun hp => ⟨(hout hp).1, hm2, hm3, (hout hp).2.1.lt⟩, fun i hi => ⟨(hout (by show 0 < M.length; have : i < M.length := hi; omega)).2.1.cell hi, (h.inn.1 i hi).2.1, (h.inn.1 i hi).2.2.1⟩⟩, fun hp => (hout hp).2, am, hm1, hm2, hm3⟩
end Go.Proofs.Ytpljieenjkbmmaa
/- The contracts of package kernel: May and Run answer as the document says. -/
namespace Go.Proofs.Ytpljieenjkbmmaa
open Go.RowKit Go.Joins
set_option linter.unusedVariables false
set_option linter.unusedSimpArgs false
set_option maxRecDepth 8192

theorem kernelMay_all : MayC := fun t kv K la lc logs w h1 h2 => kernelMay t kv K la lc logs w h1 h2
/-- what Run is asked for -/
def RunP (w : World) (t : Tg) (K : Kn) (R : List Int) (M : List (List Int)) (turns : Int) (e : Ending) (w' : World) : Prop :=
  ∃ ra rc ma mc rl ml, e = .returned (.tuple #[.slice ra rl rc, .slice ma ml mc, .int .i64 (wrongK t K R.length M turns)]) ∧ Below w.heap.size w w' ∧
    (wrongK t K R.length M turns = 0 → Ints w' (.slice ra rl rc) (regsOf R.length (playK t K (logsOf M) turns R M)) ∧ IntRows w' (.slice ma ml mc) (wordsOf M (playK t K (logsOf M) turns R M))) ∧ (wrongK t K R.length M turns ≠ 0 → rl = 0 ∧ ml = 0)
theorem RunP.no {w w' : World} {t : Tg} {K : Kn} {R : List Int} {M : List (List Int)} {turns c : Int} (h : wrongK t K R.length M turns = c) (hc : c ≠ 0) (hb : Below w.heap.size w w') : RunP w t K R M turns (.returned (.tuple #[.slice none 0 0, .slice none 0 0, .int .i64 c])) w' :=
  ⟨none, 0, none, 0, 0, 0, by rw [h], hb, fun e => absurd (h.symm.trans e) hc, fun _ => ⟨rfl, rfl⟩⟩
theorem wrong_few {t : Tg} {K : Kn} {n : Nat} {M : List (List Int)} {turns : Int} (h : (hasLogs M && decide (M.length ≤ 3)) = false) : wrongK t K n M turns = 2 := by
  unfold wrongK
  refine if_neg fun h2 => ?_
  rw [h2.1, Bool.true_and] at h
  have h3 := of_decide_eq_false h
  obtain ⟨-, -, -, -, -, ho1, -, hall⟩ := mayK_parts h2.2.1
  have h4 := (one_parts (hall 0 (by omega))).2.2.2.2.2.1
  rw [logsOf_len] at h4
  omega

theorem ints_logs {w : World} {base : Nat} {v : Value} {M : List (List Int)} (h : w.ownsRow base 3 1 v (logsOf M).length ((logsOf M).map (Value.int .i64))) : Ints w v (logsOf M) :=
  ints_of_own2 h fun i hi => by
    rw [logsOf_nth M i (by rw [logsOf_len] at hi; exact hi)]
    have := logIx_le (rowAt M i).length
    omega
set_option maxHeartbeats 2000000 in
theorem krun_logs (p0 p1 p2 q0 q1 q2 r pc st : Int) (ops : List Kop) (ka : Option Addr) (kc : Nat) (ra : Option Addr) (rc : Nat) (R : List Int) (ma : Option Addr) (mc : Nat) (M : List (List Int)) (turns : Int) (w : World) (hK : KernV w (.agg #[.int .i64 pc, .int .i64 st, .slice ka ops.length kc]) ⟨pc, st, ops⟩) (hR : Ints w (.slice ra R.length rc) R) (hM : IntRows w (.slice ma M.length mc) M) (hf : (hasLogs M && decide (M.length ≤ 3)) = false) : Calls Try.prog 39 #[.agg #[.int .i64 p0, .int .i64 p1, .int .i64 p2, .int .i64 q0, .int .i64 q1, .int .i64 q2, .int .i64 r], .agg #[.int .i64 pc, .int .i64 st, .slice ka ops.length kc], .slice ra R.length rc, .slice ma M.length mc, .int .i64 turns] w fun e w' => RunP w ⟨p0, p1, p2, q0, q1, q2, r⟩ ⟨pc, st, ops⟩ R M turns e w' := by
  have HKV := hide hK
  have HMV := hide hM
  have HRV := hide hR
  have HB0 : Hid (Below w.heap.size w ((w.alloc (.cells #[.int .i64 p0, .int .i64 p1, .int .i64 p2, .int .i64 q0, .int .i64 q1, .int .i64 q2, .int .i64 r] 49)).alloc (.cells #[.int .i64 pc, .int .i64 st, .slice ka ops.length kc] 55))) := below_alloc2 _ _ _
  have HL := hide (plogs_any (.slice ma M.length mc) M ((w.alloc (.cells #[.int .i64 p0, .int .i64 p1, .int .i64 p2, .int .i64 q0, .int .i64 q1, .int .i64 q2, .int .i64 r] 49)).alloc (.cells #[.int .i64 pc, .int .i64 st, .slice ka ops.length kc] 55)) (hM.below (below_alloc2 _ _ _)))
  have HBX0 : Hid ((((w.alloc (.cells #[.int .i64 p0, .int .i64 p1, .int .i64 p2, .int .i64 q0, .int .i64 q1, .int .i64 q2, .int .i64 r] 49)).alloc (.cells #[.int .i64 pc, .int .i64 st, .slice ka ops.length kc] 55))).heap[w.heap.size]? = some (.cells #[.int .i64 p0, .int .i64 p1, .int .i64 p2, .int .i64 q0, .int .i64 q1, .int .i64 q2, .int .i64 r] 49 (0, 0)) ∧ (((w.alloc (.cells #[.int .i64 p0, .int .i64 p1, .int .i64 p2, .int .i64 q0, .int .i64 q1, .int .i64 q2, .int .i64 r] 49)).alloc (.cells #[.int .i64 pc, .int .i64 st, .slice ka ops.length kc] 55))).heap[w.heap.size + 1]? = some (.cells #[.int .i64 pc, .int .i64 st, .slice ka ops.length kc] 55 (0, 0))) := by
    refine ⟨?_, ?_⟩
    · rw [Below.heap_alloc _ _ _ (by simp)]; exact new_block _ _ _
    · have e : (w.alloc (.cells #[.int .i64 p0, .int .i64 p1, .int .i64 p2, .int .i64 q0, .int .i64 q1, .int .i64 q2, .int .i64 r] 49)).heap.size = w.heap.size + 1 := by simp
      rw [← e]; exact new_block _ _ _
  have hz0 : w.heap.size + 1 < ((w.alloc (.cells #[.int .i64 p0, .int .i64 p1, .int .i64 p2, .int .i64 q0, .int .i64 q1, .int .i64 q2, .int .i64 r] 49)).alloc (.cells #[.int .i64 pc, .int .i64 st, .slice ka ops.length kc] 55)).heap.size := by simp
  unfold LogsP at HL
  rw [hf] at HL
  have HW := hide (wrong_few (t := ⟨p0, p1, p2, q0, q1, q2, r⟩) (K := ⟨pc, st, ops⟩) (n := R.length) (turns := turns) hf)
  clear hK hM hR hf
  go_enter Try.func39, Try.ntmps39
  go_wp2_with fail
  refine HL.out.mono ?_
  rintro e x1 ⟨lv, rfl, hlv, ⟨la, ll, lc, rfl⟩, hb⟩
  have HX1 := hide (HB0.out.trans (hb.mono (by simp; omega)))
  have HBX : Hid ((x1).heap[w.heap.size]? = some (.cells #[.int .i64 p0, .int .i64 p1, .int .i64 p2, .int .i64 q0, .int .i64 q1, .int .i64 q2, .int .i64 r] 49 (0, 0)) ∧ (x1).heap[w.heap.size + 1]? = some (.cells #[.int .i64 pc, .int .i64 st, .slice ka ops.length kc] 55 (0, 0))) := ⟨by rw [hb.block _ (by omega)]; exact HBX0.out.1, by rw [hb.block _ (by omega)]; exact HBX0.out.2⟩
  have hzx : w.heap.size + 1 < x1.heap.size := by have := hb.size; omega
  have HLV := hide hlv
  have HZ1 := hide hb.size
  clear hlv hb HL
  go_wp2_with fail
  exact bodyPost_ret (v := .tuple #[.slice none 0 0, .slice none 0 0, .int .i64 2]) (by simp [results, Try.results39, go_sem]) rfl (RunP.no HW.out (by decide) HX1.out)
set_option maxHeartbeats 2000000 in
theorem krun_may (p0 p1 p2 q0 q1 q2 r pc st : Int) (ops : List Kop) (ka : Option Addr) (kc : Nat) (ra : Option Addr) (rc : Nat) (R : List Int) (ma : Option Addr) (mc : Nat) (M : List (List Int)) (turns : Int) (w : World) (hK : KernV w (.agg #[.int .i64 pc, .int .i64 st, .slice ka ops.length kc]) ⟨pc, st, ops⟩) (hR : Ints w (.slice ra R.length rc) R) (hM : IntRows w (.slice ma M.length mc) M) (hf : (hasLogs M && decide (M.length ≤ 3)) = true) (hmay : mayK ⟨p0, p1, p2, q0, q1, q2, r⟩ ⟨pc, st, ops⟩ (logsOf M) = false) : Calls Try.prog 39 #[.agg #[.int .i64 p0, .int .i64 p1, .int .i64 p2, .int .i64 q0, .int .i64 q1, .int .i64 q2, .int .i64 r], .agg #[.int .i64 pc, .int .i64 st, .slice ka ops.length kc], .slice ra R.length rc, .slice ma M.length mc, .int .i64 turns] w fun e w' => RunP w ⟨p0, p1, p2, q0, q1, q2, r⟩ ⟨pc, st, ops⟩ R M turns e w' := by
  have HKV := hide hK
  have HMV := hide hM
  have HRV := hide hR
  have HB0 : Hid (Below w.heap.size w ((w.alloc (.cells #[.int .i64 p0, .int .i64 p1, .int .i64 p2, .int .i64 q0, .int .i64 q1, .int .i64 q2, .int .i64 r] 49)).alloc (.cells #[.int .i64 pc, .int .i64 st, .slice ka ops.length kc] 55))) := below_alloc2 _ _ _
  have HL := hide (plogs_any (.slice ma M.length mc) M ((w.alloc (.cells #[.int .i64 p0, .int .i64 p1, .int .i64 p2, .int .i64 q0, .int .i64 q1, .int .i64 q2, .int .i64 r] 49)).alloc (.cells #[.int .i64 pc, .int .i64 st, .slice ka ops.length kc] 55)) (hM.below (below_alloc2 _ _ _)))
  have HBX0 : Hid ((((w.alloc (.cells #[.int .i64 p0, .int .i64 p1, .int .i64 p2, .int .i64 q0, .int .i64 q1, .int .i64 q2, .int .i64 r] 49)).alloc (.cells #[.int .i64 pc, .int .i64 st, .slice ka ops.length kc] 55))).heap[w.heap.size]? = some (.cells #[.int .i64 p0, .int .i64 p1, .int .i64 p2, .int .i64 q0, .int .i64 q1, .int .i64 q2, .int .i64 r] 49 (0, 0)) ∧ (((w.alloc (.cells #[.int .i64 p0, .int .i64 p1, .int .i64 p2, .int .i64 q0, .int .i64 q1, .int .i64 q2, .int .i64 r] 49)).alloc (.cells #[.int .i64 pc, .int .i64 st, .slice ka ops.length kc] 55))).heap[w.heap.size + 1]? = some (.cells #[.int .i64 pc, .int .i64 st, .slice ka ops.length kc] 55 (0, 0))) := by
    refine ⟨?_, ?_⟩
    · rw [Below.heap_alloc _ _ _ (by simp)]; exact new_block _ _ _
    · have e : (w.alloc (.cells #[.int .i64 p0, .int .i64 p1, .int .i64 p2, .int .i64 q0, .int .i64 q1, .int .i64 q2, .int .i64 r] 49)).heap.size = w.heap.size + 1 := by simp
      rw [← e]; exact new_block _ _ _
  have hz0 : w.heap.size + 1 < ((w.alloc (.cells #[.int .i64 p0, .int .i64 p1, .int .i64 p2, .int .i64 q0, .int .i64 q1, .int .i64 q2, .int .i64 r] 49)).alloc (.cells #[.int .i64 pc, .int .i64 st, .slice ka ops.length kc] 55)).heap.size := by simp
  unfold LogsP at HL
  rw [hf] at HL
  have hf2 : hasLogs M = true ∧ M.length ≤ 3 := by simpa using hf
  have HW : Hid (wrongK ⟨p0, p1, p2, q0, q1, q2, r⟩ ⟨pc, st, ops⟩ R.length M turns = 2) := by show _ = _; unfold wrongK; rw [if_neg (fun h => by rw [hmay] at h; exact Bool.noConfusion h.2.1)]
  have HMAY : Hid (∀ (la : Option Addr) (lc : Nat) W, KernV W (.agg #[.int .i64 pc, .int .i64 st, .slice ka ops.length kc]) ⟨pc, st, ops⟩ → Ints W (.slice la (logsOf M).length lc) (logsOf M) → Calls Try.prog 35 #[.agg #[.int .i64 p0, .int .i64 p1, .int .i64 p2, .int .i64 q0, .int .i64 q1, .int .i64 q2, .int .i64 r], .agg #[.int .i64 pc, .int .i64 st, .slice ka ops.length kc], .slice la (logsOf M).length lc] W fun e w' => e = .returned (.bool false) ∧ Below W.heap.size W w') := fun la lc W h1 h2 => by
    have h := kernelMay ⟨p0, p1, p2, q0, q1, q2, r⟩ _ ⟨pc, st, ops⟩ la lc (logsOf M) W h1 h2
    rw [hmay] at h
    exact h
  have HF2 := hide hf2
  clear hK hM hR hf hmay hf2
  go_enter Try.func39, Try.ntmps39
  go_wp2_with fail
  refine HL.out.mono ?_
  rintro e x1 ⟨lv, rfl, hlv, ⟨la, ll, lc, rfl⟩, hb⟩
  have HX1 := hide (HB0.out.trans (hb.mono (by simp; omega)))
  have HBX : Hid ((x1).heap[w.heap.size]? = some (.cells #[.int .i64 p0, .int .i64 p1, .int .i64 p2, .int .i64 q0, .int .i64 q1, .int .i64 q2, .int .i64 r] 49 (0, 0)) ∧ (x1).heap[w.heap.size + 1]? = some (.cells #[.int .i64 pc, .int .i64 st, .slice ka ops.length kc] 55 (0, 0))) := ⟨by rw [hb.block _ (by omega)]; exact HBX0.out.1, by rw [hb.block _ (by omega)]; exact HBX0.out.2⟩
  have hzx : w.heap.size + 1 < x1.heap.size := by have := hb.size; omega
  have HLV := hide hlv
  have HZ1 := hide hb.size
  have HI := ints_logs (hlv HF2.out.1 HF2.out.2)
  have hll : ll = (logsOf M).length := by
    obtain ⟨a, c, e, _⟩ := ownz_shape (hlv HF2.out.1 HF2.out.2)
    injection e
  subst hll
  have HC := hide (HMAY.out la lc x1 (HKV.out.below HX1.out) HI)
  have t0 : x1.cell? ⟨w.heap.size, 0, none⟩ = some (.int .i64 p0) := by rw [cell_of_block HBX.out.1]; rfl
  have t1 : x1.cell? ⟨w.heap.size, 1, none⟩ = some (.int .i64 p1) := by rw [cell_of_block HBX.out.1]; rfl
  have t2 : x1.cell? ⟨w.heap.size, 2, none⟩ = some (.int .i64 p2) := by rw [cell_of_block HBX.out.1]; rfl
  have t3 : x1.cell? ⟨w.heap.size, 3, none⟩ = some (.int .i64 q0) := by rw [cell_of_block HBX.out.1]; rfl
  have t4 : x1.cell? ⟨w.heap.size, 4, none⟩ = some (.int .i64 q1) := by rw [cell_of_block HBX.out.1]; rfl
  have t5 : x1.cell? ⟨w.heap.size, 5, none⟩ = some (.int .i64 q2) := by rw [cell_of_block HBX.out.1]; rfl
  have t6 : x1.cell? ⟨w.heap.size, 6, none⟩ = some (.int .i64 r) := by rw [cell_of_block HBX.out.1]; rfl
  have k0 : x1.cell? ⟨w.heap.size + 1, 0, none⟩ = some (.int .i64 pc) := by rw [cell_of_block HBX.out.2]; rfl
  have k1 : x1.cell? ⟨w.heap.size + 1, 1, none⟩ = some (.int .i64 st) := by rw [cell_of_block HBX.out.2]; rfl
  have k2 : x1.cell? ⟨w.heap.size + 1, 2, none⟩ = some (.slice ka ops.length kc) := by rw [cell_of_block HBX.out.2]; rfl
  clear hlv hb HL HI HMAY
  go_wp2_with fail
  refine HC.out.mono ?_
  rintro e x2 ⟨rfl, hb2⟩
  have HX2 := hide (HX1.out.trans (hb2.mono HX1.out.size))
  clear hb2
  go_wp2_with fail
  exact bodyPost_ret (v := .tuple #[.slice none 0 0, .slice none 0 0, .int .i64 2]) (by simp [results, Try.results39, go_sem]) rfl (RunP.no HW.out (by decide) HX2.out)
set_option maxHeartbeats 2000000 in
theorem krun_regs (p0 p1 p2 q0 q1 q2 r pc st : Int) (ops : List Kop) (ka : Option Addr) (kc : Nat) (ra : Option Addr) (rc : Nat) (R : List Int) (ma : Option Addr) (mc : Nat) (M : List (List Int)) (turns : Int) (w : World) (hK : KernV w (.agg #[.int .i64 pc, .int .i64 st, .slice ka ops.length kc]) ⟨pc, st, ops⟩) (hR : Ints w (.slice ra R.length rc) R) (hM : IntRows w (.slice ma M.length mc) M) (hf : (hasLogs M && decide (M.length ≤ 3)) = true) (hmay : mayK ⟨p0, p1, p2, q0, q1, q2, r⟩ ⟨pc, st, ops⟩ (logsOf M) = true) (hr : (R.length : Int) ≠ r ∨ ((R.length : Int) = r ∧ inR turns 0 200 = false)) : Calls Try.prog 39 #[.agg #[.int .i64 p0, .int .i64 p1, .int .i64 p2, .int .i64 q0, .int .i64 q1, .int .i64 q2, .int .i64 r], .agg #[.int .i64 pc, .int .i64 st, .slice ka ops.length kc], .slice ra R.length rc, .slice ma M.length mc, .int .i64 turns] w fun e w' => RunP w ⟨p0, p1, p2, q0, q1, q2, r⟩ ⟨pc, st, ops⟩ R M turns e w' := by
  have HKV := hide hK
  have HMV := hide hM
  have HRV := hide hR
  have HB0 : Hid (Below w.heap.size w ((w.alloc (.cells #[.int .i64 p0, .int .i64 p1, .int .i64 p2, .int .i64 q0, .int .i64 q1, .int .i64 q2, .int .i64 r] 49)).alloc (.cells #[.int .i64 pc, .int .i64 st, .slice ka ops.length kc] 55))) := below_alloc2 _ _ _
  have HL := hide (plogs_any (.slice ma M.length mc) M ((w.alloc (.cells #[.int .i64 p0, .int .i64 p1, .int .i64 p2, .int .i64 q0, .int .i64 q1, .int .i64 q2, .int .i64 r] 49)).alloc (.cells #[.int .i64 pc, .int .i64 st, .slice ka ops.length kc] 55)) (hM.below (below_alloc2 _ _ _)))
  have HBX0 : Hid ((((w.alloc (.cells #[.int .i64 p0, .int .i64 p1, .int .i64 p2, .int .i64 q0, .int .i64 q1, .int .i64 q2, .int .i64 r] 49)).alloc (.cells #[.int .i64 pc, .int .i64 st, .slice ka ops.length kc] 55))).heap[w.heap.size]? = some (.cells #[.int .i64 p0, .int .i64 p1, .int .i64 p2, .int .i64 q0, .int .i64 q1, .int .i64 q2, .int .i64 r] 49 (0, 0)) ∧ (((w.alloc (.cells #[.int .i64 p0, .int .i64 p1, .int .i64 p2, .int .i64 q0, .int .i64 q1, .int .i64 q2, .int .i64 r] 49)).alloc (.cells #[.int .i64 pc, .int .i64 st, .slice ka ops.length kc] 55))).heap[w.heap.size + 1]? = some (.cells #[.int .i64 pc, .int .i64 st, .slice ka ops.length kc] 55 (0, 0))) := by
    refine ⟨?_, ?_⟩
    · rw [Below.heap_alloc _ _ _ (by simp)]; exact new_block _ _ _
    · have e : (w.alloc (.cells #[.int .i64 p0, .int .i64 p1, .int .i64 p2, .int .i64 q0, .int .i64 q1, .int .i64 q2, .int .i64 r] 49)).heap.size = w.heap.size + 1 := by simp
      rw [← e]; exact new_block _ _ _
  have hz0 : w.heap.size + 1 < ((w.alloc (.cells #[.int .i64 p0, .int .i64 p1, .int .i64 p2, .int .i64 q0, .int .i64 q1, .int .i64 q2, .int .i64 r] 49)).alloc (.cells #[.int .i64 pc, .int .i64 st, .slice ka ops.length kc] 55)).heap.size := by simp
  unfold LogsP at HL
  rw [hf] at HL
  have hf2 : hasLogs M = true ∧ M.length ≤ 3 := by simpa using hf
  have hrl : R.length ≤ 9223372036854775807 := by obtain ⟨a, c, e, h1, h2, _⟩ := hR; unfold maxLen at h2; omega
  have HMAY : Hid (∀ (la : Option Addr) (lc : Nat) W, KernV W (.agg #[.int .i64 pc, .int .i64 st, .slice ka ops.length kc]) ⟨pc, st, ops⟩ → Ints W (.slice la (logsOf M).length lc) (logsOf M) → Calls Try.prog 35 #[.agg #[.int .i64 p0, .int .i64 p1, .int .i64 p2, .int .i64 q0, .int .i64 q1, .int .i64 q2, .int .i64 r], .agg #[.int .i64 pc, .int .i64 st, .slice ka ops.length kc], .slice la (logsOf M).length lc] W fun e w' => e = .returned (.bool true) ∧ Below W.heap.size W w') := fun la lc W h1 h2 => by
    have h := kernelMay ⟨p0, p1, p2, q0, q1, q2, r⟩ _ ⟨pc, st, ops⟩ la lc (logsOf M) W h1 h2
    rw [hmay] at h
    exact h
  have HF2 := hide hf2
  rcases hr with hr | ⟨hr, ht⟩
  · have HW : Hid (wrongK ⟨p0, p1, p2, q0, q1, q2, r⟩ ⟨pc, st, ops⟩ R.length M turns = 2) := by show _ = _; unfold wrongK; rw [if_neg (fun h => hr h.2.2)]
    have hrb : ((R.length : Int) == r) = false := beq_eq_false_iff_ne.2 hr
    have hrn : ((R.length : Int) != r) = true := by simpa using hr
    clear hK hM hR hf hmay hf2 hr
    go_enter Try.func39, Try.ntmps39
    go_wp2_with fail
    refine HL.out.mono ?_
    rintro e x1 ⟨lv, rfl, hlv, ⟨la, ll, lc, rfl⟩, hb⟩
    have HX1 := hide (HB0.out.trans (hb.mono (by simp; omega)))
    have HBX : Hid ((x1).heap[w.heap.size]? = some (.cells #[.int .i64 p0, .int .i64 p1, .int .i64 p2, .int .i64 q0, .int .i64 q1, .int .i64 q2, .int .i64 r] 49 (0, 0)) ∧ (x1).heap[w.heap.size + 1]? = some (.cells #[.int .i64 pc, .int .i64 st, .slice ka ops.length kc] 55 (0, 0))) := ⟨by rw [hb.block _ (by omega)]; exact HBX0.out.1, by rw [hb.block _ (by omega)]; exact HBX0.out.2⟩
    have hzx : w.heap.size + 1 < x1.heap.size := by have := hb.size; omega
    have HLV := hide hlv
    have HZ1 := hide hb.size
    have HI := ints_logs (hlv HF2.out.1 HF2.out.2)
    have hll : ll = (logsOf M).length := by
      obtain ⟨a, c, e, _⟩ := ownz_shape (hlv HF2.out.1 HF2.out.2)
      injection e
    subst hll
    have HC := hide (HMAY.out la lc x1 (HKV.out.below HX1.out) HI)
    have t0 : x1.cell? ⟨w.heap.size, 0, none⟩ = some (.int .i64 p0) := by rw [cell_of_block HBX.out.1]; rfl
    have t1 : x1.cell? ⟨w.heap.size, 1, none⟩ = some (.int .i64 p1) := by rw [cell_of_block HBX.out.1]; rfl
    have t2 : x1.cell? ⟨w.heap.size, 2, none⟩ = some (.int .i64 p2) := by rw [cell_of_block HBX.out.1]; rfl
    have t3 : x1.cell? ⟨w.heap.size, 3, none⟩ = some (.int .i64 q0) := by rw [cell_of_block HBX.out.1]; rfl
    have t4 : x1.cell? ⟨w.heap.size, 4, none⟩ = some (.int .i64 q1) := by rw [cell_of_block HBX.out.1]; rfl
    have t5 : x1.cell? ⟨w.heap.size, 5, none⟩ = some (.int .i64 q2) := by rw [cell_of_block HBX.out.1]; rfl
    have t6 : x1.cell? ⟨w.heap.size, 6, none⟩ = some (.int .i64 r) := by rw [cell_of_block HBX.out.1]; rfl
    have k0 : x1.cell? ⟨w.heap.size + 1, 0, none⟩ = some (.int .i64 pc) := by rw [cell_of_block HBX.out.2]; rfl
    have k1 : x1.cell? ⟨w.heap.size + 1, 1, none⟩ = some (.int .i64 st) := by rw [cell_of_block HBX.out.2]; rfl
    have k2 : x1.cell? ⟨w.heap.size + 1, 2, none⟩ = some (.slice ka ops.length kc) := by rw [cell_of_block HBX.out.2]; rfl
    clear hlv hb HL HI HMAY
    go_wp2_with fail
    refine HC.out.mono ?_
    rintro e x2 ⟨rfl, hb2⟩
    have HX2 := hide (HX1.out.trans (hb2.mono HX1.out.size))
    have HBX2 : Hid ((x2).heap[w.heap.size]? = some (.cells #[.int .i64 p0, .int .i64 p1, .int .i64 p2, .int .i64 q0, .int .i64 q1, .int .i64 q2, .int .i64 r] 49 (0, 0)) ∧ (x2).heap[w.heap.size + 1]? = some (.cells #[.int .i64 pc, .int .i64 st, .slice ka ops.length kc] 55 (0, 0))) := ⟨by rw [hb2.block _ (by omega)]; exact HBX.out.1, by rw [hb2.block _ (by omega)]; exact HBX.out.2⟩
    have HZ2 := hide hb2.size
    have HB2 := hide hb2
    clear hb2 t0 t1 t2 t3 t4 t5 t6 k0 k1 k2 HC
    have t6 : x2.cell? ⟨w.heap.size, 6, none⟩ = some (.int .i64 r) := by rw [cell_of_block HBX2.out.1]; rfl
    go_wp2_with fail
    exact bodyPost_ret (v := .tuple #[.slice none 0 0, .slice none 0 0, .int .i64 2]) (by simp [results, Try.results39, go_sem]) rfl (RunP.no HW.out (by decide) HX2.out)
  · have HW : Hid (wrongK ⟨p0, p1, p2, q0, q1, q2, r⟩ ⟨pc, st, ops⟩ R.length M turns = 3) := by
      show _ = _
      unfold wrongK
      rw [if_pos ⟨hf2.1, hmay, hr⟩, if_neg (fun h => by rw [inR_yes h] at ht; exact Bool.noConfusion ht)]
    have hrb : ((R.length : Int) == r) = true := by simpa using hr
    have hrn : ((R.length : Int) != r) = false := by simpa using hr
    have HTI := hide (fun W => ht ▸ pwithin_any turns 0 200 W)
    clear hK hM hR hf hmay hf2 hr ht
    go_enter Try.func39, Try.ntmps39
    go_wp2_with fail
    refine HL.out.mono ?_
    rintro e x1 ⟨lv, rfl, hlv, ⟨la, ll, lc, rfl⟩, hb⟩
    have HX1 := hide (HB0.out.trans (hb.mono (by simp; omega)))
    have HBX : Hid ((x1).heap[w.heap.size]? = some (.cells #[.int .i64 p0, .int .i64 p1, .int .i64 p2, .int .i64 q0, .int .i64 q1, .int .i64 q2, .int .i64 r] 49 (0, 0)) ∧ (x1).heap[w.heap.size + 1]? = some (.cells #[.int .i64 pc, .int .i64 st, .slice ka ops.length kc] 55 (0, 0))) := ⟨by rw [hb.block _ (by omega)]; exact HBX0.out.1, by rw [hb.block _ (by omega)]; exact HBX0.out.2⟩
    have hzx : w.heap.size + 1 < x1.heap.size := by have := hb.size; omega
    have HLV := hide hlv
    have HZ1 := hide hb.size
    have HI := ints_logs (hlv HF2.out.1 HF2.out.2)
    have hll : ll = (logsOf M).length := by
      obtain ⟨a, c, e, _⟩ := ownz_shape (hlv HF2.out.1 HF2.out.2)
      injection e
    subst hll
    have HC := hide (HMAY.out la lc x1 (HKV.out.below HX1.out) HI)
    have t0 : x1.cell? ⟨w.heap.size, 0, none⟩ = some (.int .i64 p0) := by rw [cell_of_block HBX.out.1]; rfl
    have t1 : x1.cell? ⟨w.heap.size, 1, none⟩ = some (.int .i64 p1) := by rw [cell_of_block HBX.out.1]; rfl
    have t2 : x1.cell? ⟨w.heap.size, 2, none⟩ = some (.int .i64 p2) := by rw [cell_of_block HBX.out.1]; rfl
    have t3 : x1.cell? ⟨w.heap.size, 3, none⟩ = some (.int .i64 q0) := by rw [cell_of_block HBX.out.1]; rfl
    have t4 : x1.cell? ⟨w.heap.size, 4, none⟩ = some (.int .i64 q1) := by rw [cell_of_block HBX.out.1]; rfl
    have t5 : x1.cell? ⟨w.heap.size, 5, none⟩ = some (.int .i64 q2) := by rw [cell_of_block HBX.out.1]; rfl
    have t6 : x1.cell? ⟨w.heap.size, 6, none⟩ = some (.int .i64 r) := by rw [cell_of_block HBX.out.1]; rfl
    have k0 : x1.cell? ⟨w.heap.size + 1, 0, none⟩ = some (.int .i64 pc) := by rw [cell_of_block HBX.out.2]; rfl
    have k1 : x1.cell? ⟨w.heap.size + 1, 1, none⟩ = some (.int .i64 st) := by rw [cell_of_block HBX.out.2]; rfl
    have k2 : x1.cell? ⟨w.heap.size + 1, 2, none⟩ = some (.slice ka ops.length kc) := by rw [cell_of_block HBX.out.2]; rfl
    clear hlv hb HL HI HMAY
    go_wp2_with fail
    refine HC.out.mono ?_
    rintro e x2 ⟨rfl, hb2⟩
    have HX2 := hide (HX1.out.trans (hb2.mono HX1.out.size))
    have HBX2 : Hid ((x2).heap[w.heap.size]? = some (.cells #[.int .i64 p0, .int .i64 p1, .int .i64 p2, .int .i64 q0, .int .i64 q1, .int .i64 q2, .int .i64 r] 49 (0, 0)) ∧ (x2).heap[w.heap.size + 1]? = some (.cells #[.int .i64 pc, .int .i64 st, .slice ka ops.length kc] 55 (0, 0))) := ⟨by rw [hb2.block _ (by omega)]; exact HBX.out.1, by rw [hb2.block _ (by omega)]; exact HBX.out.2⟩
    have HZ2 := hide hb2.size
    have HB2 := hide hb2
    clear hb2 t0 t1 t2 t3 t4 t5 t6 k0 k1 k2 HC
    have t6 : x2.cell? ⟨w.heap.size, 6, none⟩ = some (.int .i64 r) := by rw [cell_of_block HBX2.out.1]; rfl
    go_wp2_with (go_at_call 68; refine (HTI.out _).mono ?_; rintro e w' ⟨rfl, hw'⟩; have hw' := hw'.symm; subst hw')
    exact bodyPost_ret (v := .tuple #[.slice none 0 0, .slice none 0 0, .int .i64 3]) (by simp [results, Try.results39, go_sem]) rfl (RunP.no HW.out (by decide) HX2.out)
end Go.Proofs.Ytpljieenjkbmmaa
/- The contracts of package kernel: May and Run answer as the document says. -/
namespace Go.Proofs.Ytpljieenjkbmmaa
open Go.RowKit Go.Joins
set_option linter.unusedVariables false
set_option linter.unusedSimpArgs false
set_option maxRecDepth 8192

theorem boxes_held {p0 p1 p2 q0 q1 q2 r pc st : Int} {ops : List Kop} {ka : Option Addr} {kc : Nat} {w x : World} (h : ((x).heap[w.heap.size]? = some (.cells #[.int .i64 p0, .int .i64 p1, .int .i64 p2, .int .i64 q0, .int .i64 q1, .int .i64 q2, .int .i64 r] 49 (0, 0)) ∧ (x).heap[w.heap.size + 1]? = some (.cells #[.int .i64 pc, .int .i64 st, .slice ka ops.length kc] 55 (0, 0)))) : (x.cell? ⟨w.heap.size, 0, none⟩ = some (.int .i64 p0) ∧ x.cell? ⟨w.heap.size, 1, none⟩ = some (.int .i64 p1) ∧ x.cell? ⟨w.heap.size, 2, none⟩ = some (.int .i64 p2) ∧ x.cell? ⟨w.heap.size, 3, none⟩ = some (.int .i64 q0) ∧ x.cell? ⟨w.heap.size, 4, none⟩ = some (.int .i64 q1) ∧ x.cell? ⟨w.heap.size, 5, none⟩ = some (.int .i64 q2) ∧ x.cell? ⟨w.heap.size, 6, none⟩ = some (.int .i64 r)) ∧ x.cell? ⟨w.heap.size + 1, 0, none⟩ = some (.int .i64 pc) ∧ x.cell? ⟨w.heap.size + 1, 1, none⟩ = some (.int .i64 st) ∧ x.cell? ⟨w.heap.size + 1, 2, none⟩ = some (.slice ka ops.length kc) := by
  have e1 := cell_of_block h.1
  have e2 := cell_of_block h.2
  refine ⟨⟨?_, ?_, ?_, ?_, ?_, ?_, ?_⟩, ?_, ?_, ?_⟩
  all_goals first
    | (rw [e1]; rfl)
    | (rw [e2]; rfl)
theorem run_fine {t : Tg} {K : Kn} {R : List Int} {M : List (List Int)} {turns : Int} (hmay : mayK t K (logsOf M) = true) (hnn : ∀ x ∈ K.ops, I64 x.nn) (hR : ∀ i, I64 (nth R i)) (hM : ∀ i j, I64 (nth (rowAt M i) j)) (T : Nat) (hT : T ≤ 30000) : (runK t K (logsOf M) turns (startK R M) T).fine t.r := by
  obtain ⟨hmt, hp1, hp2, hs1, hs2, ho1, ho2, hall⟩ := mayK_parts hmay
  refine fine_runK (N := 30000) (mayT_parts hmt).2.2.2.1 (fine_startK hR hM) (fun T' hT' k hk => ⟨hnn _ (opAt_in hk), ?_⟩) T hT
  obtain ⟨-, hsg, -⟩ := one_parts (hall k hk)
  have h1 : 0 ≤ (T' : Int) / K.pc := Int.ediv_nonneg (by omega) (by omega)
  have h2 : (T' : Int) / K.pc ≤ T' := Int.ediv_le_self _ (by omega)
  unfold I64
  omega
theorem mach_regs {c : Mc} {V : Nat → Value} {D : List Du} {f : Nat → Int} {m : Nat → Nat → Int} {w' : World} (hI : MInv c V D f m w') (hf : ∀ i, I64 (f i)) : Ints w' (.slice (some ⟨c.gr, 0, none⟩) c.R c.cr) ((List.range c.R).map f) := by
  have hl : ((List.range c.R).map f).length = c.R := by simp
  have hn : ∀ i, i < c.R → nth ((List.range c.R).map f) i = f i := fun i hi => by unfold nth; simp [List.getD, hi]
  refine ⟨some ⟨c.gr, 0, none⟩, c.cr, by rw [hl], by rw [hl]; exact hI.hr.2.2.1, hI.hr.2.2.2, fun i hi => ?_, fun _ => ⟨c.gr, 0, rfl, hI.regs.lt, fun i hi => ?_⟩⟩
  · rw [hl] at hi; rw [hn i hi]; exact hf i
  · rw [hl] at hi; rw [hn i hi, Nat.zero_add]; exact hI.regs.cell hi
theorem mach_words {c : Mc} {V : Nat → Value} {D : List Du} {f : Nat → Int} {m : Nat → Nat → Int} {w' : World} {gm cm : Nat} {C : Nat → Nat} {am : Option Addr} (hI : MInv c V D f m w') (hm : ∀ i j, I64 (m i j)) (h1 : c.mv = .slice am c.n cm) (h2 : c.n ≤ cm) (h3 : cm ≤ maxLen) (h4 : 0 < c.n → c.mv = .slice (some ⟨gm, 0, none⟩) c.n cm ∧ RowF w' gm 36 c.n (rowV c.GM C c.lenM) ∧ c.w0.heap.size ≤ gm) (hC : ∀ i, i < c.n → c.lenM i ≤ C i ∧ C i ≤ maxLen) :
    IntRows w' c.mv ((List.range c.n).map fun i => (List.range (c.lenM i)).map fun j => m i j) := by
  have hMR : MR w' c.w0.heap.size c.mv c.n c.lenM m gm cm c.GM C := ⟨⟨am, h1, h2, h3⟩, by
    by_cases e : c.n = 0
    · exact .inl e
    · exact .inr (h4 (by omega)), fun i hi => ⟨(hI.min i hi).1, (hC i hi).1, (hC i hi).2, (hI.min i hi).2.2⟩, hI.minj⟩
  exact hMR.rows hm
/-- what is told at the end -/
theorem run_told {w w' wr x : World} {A gr cr : Nat} {R : List Int} {t : Tg} {K : Kn} {kv lv mv : Value} {turns : Int} {M : List (List Int)} {G C : Nat → Nat} {V : Nat → Value} {D : List Du} {s : Kst} (hB : BInv w A gr cr R t K.pc K.st kv lv (logsOf M) turns M M.length mv G C wr) (hbx : Below wr.heap.size wr x) (hI : MInv ((mcOf w wr A gr cr R t K.pc K.st kv lv turns M mv G).at x) V D s.f s.m w') (hs : playK t K (logsOf M) turns R M = s) (hf : s.fine t.r) (hw : wrongK t K R.length M turns = 0)
    {am : Option Addr} {cm : Nat} (hmv : mv = .slice am M.length cm) :
    RunP w t K R M turns (.returned (.tuple #[.slice (some ⟨gr, 0, none⟩) R.length cr, .slice am M.length cm, .int .i64 0])) w' := by
  have hlg : ∀ i, i < (logsOf M).length → -9223372036854775808 ≤ nth (logsOf M) i ∧ nth (logsOf M) i ≤ 9223372036854775807 := fun i hi => by
    rw [logsOf_nth M i (by rw [logsOf_len] at hi; exact hi)]
    have := logIx_le (rowAt M i).length
    omega
  obtain ⟨gm, cm', hst⟩ := hB.stat hlg
  obtain ⟨hS, hrow, am', h1, h2, h3⟩ := hst w' (kept_at (c := mcOf w wr A gr cr R t K.pc K.st kv lv turns M mv G) hbx hI.keep)
  have e : am' = am ∧ cm' = cm := by rw [hmv] at h1; injection h1 with e1 _ e3; exact ⟨e1.symm, e3.symm⟩
  obtain ⟨rfl, rfl⟩ := e
  refine ⟨some ⟨gr, 0, none⟩, cr, am', cm', R.length, M.length, by rw [hw], hI.bel, fun _ => ?_, fun h => absurd hw h⟩
  rw [hs]
  refine ⟨mach_regs hI hf.f, ?_⟩
  have h := mach_words hI hf.m h1 h2 h3 (gm := gm) (C := C) (fun hp => ⟨(hS.2.1 hp).1, (hrow hp).1, (hrow hp).2⟩) (fun i hi => (hS.2.2 i hi).2)
  have hh : IntRows w' mv (wordsOf M s) := h
  rw [hmv] at hh
  exact hh

set_option maxHeartbeats 40000000 in
theorem krun_ok (p0 p1 p2 q0 q1 q2 r pc st : Int) (ops : List Kop) (ka : Option Addr) (kc : Nat) (ra : Option Addr) (rc : Nat) (R : List Int) (ma : Option Addr) (mc : Nat) (M : List (List Int)) (turns : Int) (w : World) (hK : KernV w (.agg #[.int .i64 pc, .int .i64 st, .slice ka ops.length kc]) ⟨pc, st, ops⟩) (hR : Ints w (.slice ra R.length rc) R) (hM : IntRows w (.slice ma M.length mc) M) (hf : (hasLogs M && decide (M.length ≤ 3)) = true) (hmay : mayK ⟨p0, p1, p2, q0, q1, q2, r⟩ ⟨pc, st, ops⟩ (logsOf M) = true) (hr : (R.length : Int) = r) (ht : inR turns 0 200 = true) (hnn : ∀ x ∈ ops, I64 x.nn) (hlim : turns = 0 ∨ (turns + st) * pc ≤ 20000) : Calls Try.prog 39 #[.agg #[.int .i64 p0, .int .i64 p1, .int .i64 p2, .int .i64 q0, .int .i64 q1, .int .i64 q2, .int .i64 r], .agg #[.int .i64 pc, .int .i64 st, .slice ka ops.length kc], .slice ra R.length rc, .slice ma M.length mc, .int .i64 turns] w fun e w' => RunP w ⟨p0, p1, p2, q0, q1, q2, r⟩ ⟨pc, st, ops⟩ R M turns e w' := by
  have HKV := hide hK
  have HMV := hide hM
  have HRV := hide hR
  have HB0 : Hid (Below w.heap.size w ((w.alloc (.cells #[.int .i64 p0, .int .i64 p1, .int .i64 p2, .int .i64 q0, .int .i64 q1, .int .i64 q2, .int .i64 r] 49)).alloc (.cells #[.int .i64 pc, .int .i64 st, .slice ka ops.length kc] 55))) := below_alloc2 _ _ _
  have HL := hide (plogs_any (.slice ma M.length mc) M ((w.alloc (.cells #[.int .i64 p0, .int .i64 p1, .int .i64 p2, .int .i64 q0, .int .i64 q1, .int .i64 q2, .int .i64 r] 49)).alloc (.cells #[.int .i64 pc, .int .i64 st, .slice ka ops.length kc] 55)) (hM.below (below_alloc2 _ _ _)))
  have HBX0 : Hid ((((w.alloc (.cells #[.int .i64 p0, .int .i64 p1, .int .i64 p2, .int .i64 q0, .int .i64 q1, .int .i64 q2, .int .i64 r] 49)).alloc (.cells #[.int .i64 pc, .int .i64 st, .slice ka ops.length kc] 55))).heap[w.heap.size]? = some (.cells #[.int .i64 p0, .int .i64 p1, .int .i64 p2, .int .i64 q0, .int .i64 q1, .int .i64 q2, .int .i64 r] 49 (0, 0)) ∧ (((w.alloc (.cells #[.int .i64 p0, .int .i64 p1, .int .i64 p2, .int .i64 q0, .int .i64 q1, .int .i64 q2, .int .i64 r] 49)).alloc (.cells #[.int .i64 pc, .int .i64 st, .slice ka ops.length kc] 55))).heap[w.heap.size + 1]? = some (.cells #[.int .i64 pc, .int .i64 st, .slice ka ops.length kc] 55 (0, 0))) := by
    refine ⟨?_, ?_⟩
    · rw [Below.heap_alloc _ _ _ (by simp)]; exact new_block _ _ _
    · have e : (w.alloc (.cells #[.int .i64 p0, .int .i64 p1, .int .i64 p2, .int .i64 q0, .int .i64 q1, .int .i64 q2, .int .i64 r] 49)).heap.size = w.heap.size + 1 := by simp
      rw [← e]; exact new_block _ _ _
  have hz0 : w.heap.size + 1 < ((w.alloc (.cells #[.int .i64 p0, .int .i64 p1, .int .i64 p2, .int .i64 q0, .int .i64 q1, .int .i64 q2, .int .i64 r] 49)).alloc (.cells #[.int .i64 pc, .int .i64 st, .slice ka ops.length kc] 55)).heap.size := by simp
  unfold LogsP at HL
  rw [hf] at HL
  have hf2 : hasLogs M = true ∧ M.length ≤ 3 := by simpa using hf
  have hrl : R.length ≤ 9223372036854775807 := by obtain ⟨a, c, e, h1, h2, _⟩ := hR; unfold maxLen at h2; omega
  have HMAY : Hid (∀ (la : Option Addr) (lc : Nat) W, KernV W (.agg #[.int .i64 pc, .int .i64 st, .slice ka ops.length kc]) ⟨pc, st, ops⟩ → Ints W (.slice la (logsOf M).length lc) (logsOf M) → Calls Try.prog 35 #[.agg #[.int .i64 p0, .int .i64 p1, .int .i64 p2, .int .i64 q0, .int .i64 q1, .int .i64 q2, .int .i64 r], .agg #[.int .i64 pc, .int .i64 st, .slice ka ops.length kc], .slice la (logsOf M).length lc] W fun e w' => e = .returned (.bool true) ∧ Below W.heap.size W w') := fun la lc W h1 h2 => by
    have h := kernelMay ⟨p0, p1, p2, q0, q1, q2, r⟩ _ ⟨pc, st, ops⟩ la lc (logsOf M) W h1 h2
    rw [hmay] at h
    exact h
  have HF2 := hide hf2
  have HW : Hid (wrongK ⟨p0, p1, p2, q0, q1, q2, r⟩ ⟨pc, st, ops⟩ R.length M turns = 0) := by
    show _ = _
    unfold wrongK
    rw [if_pos ⟨hf2.1, hmay, hr⟩, if_pos (inR_iff.1 ht)]
  have hrb : ((R.length : Int) == r) = true := by simpa using hr
  have hrn : ((R.length : Int) != r) = false := by simpa using hr
  have HTI := hide (fun W => ht ▸ pwithin_any turns 0 200 W)
  obtain ⟨ht0, ht2⟩ := inR_iff.1 ht
  have hr12 := (mayT_parts (mayK_parts hmay).1).2.2.2
  simp only at hr12
  have hR0 : 0 < R.length := by omega
  have hR128 : R.length ≤ 128 := by omega
  obtain ⟨i0, hi, hz0', hz1, hz2⟩ := info_parts Try.i36
  have HCL : Hid (∀ W, Below w.heap.size w W → Calls Try.prog 75 #[.slice ra R.length rc] W fun e w' => ∃ g cap, e = .returned (.slice (some ⟨g, 0, none⟩) R.length cap) ∧ W.heap.size ≤ g ∧ cap ≤ maxLen ∧ RowX w' g 2 cap R.length (fun j => .int .i64 (nth R j)) ∧ Below W.heap.size W w') := fun W h => clone_128 _ R W (HRV.out.below h) hR0 hR128
  have HROWS := hide (row_of_logs hf2.1)
  have HMAYK := hide hmay
  have HNN := hide hnn
  have HLIM := hide hlim
  have HR1 := hide hr
  have HM3 : Hid (M.length ≤ 3) := hf2.2
  have hM3 : M.length ≤ 3 := hf2.2
  have HI64 : Hid ((∀ i, I64 (nth R i)) ∧ ∀ i j, I64 (nth (rowAt M i) j)) := ⟨nth_i64 (by obtain ⟨a, c, e, h1, h2, h3, _⟩ := hR; exact h3), words_i64 hM⟩
  obtain ⟨ma', mc', hme, hml, hmm, -⟩ := hM
  injection hme with e1 e2 e3
  subst e1; subst e3
  unfold maxLen at hmm
  clear hK hR hf hmay hf2 hr ht hnn hlim e2 hr12
  go_enter Try.func39, Try.ntmps39
  go_wp2_with fail
  refine HL.out.mono ?_
  rintro e x1 ⟨lv, rfl, hlv, ⟨la, ll, lc, rfl⟩, hb⟩
  have HX1 := hide (HB0.out.trans (hb.mono (by simp; omega)))
  have HBX : Hid ((x1).heap[w.heap.size]? = some (.cells #[.int .i64 p0, .int .i64 p1, .int .i64 p2, .int .i64 q0, .int .i64 q1, .int .i64 q2, .int .i64 r] 49 (0, 0)) ∧ (x1).heap[w.heap.size + 1]? = some (.cells #[.int .i64 pc, .int .i64 st, .slice ka ops.length kc] 55 (0, 0))) := ⟨by rw [hb.block _ (by omega)]; exact HBX0.out.1, by rw [hb.block _ (by omega)]; exact HBX0.out.2⟩
  have hzx : w.heap.size + 1 < x1.heap.size := by have := hb.size; omega
  have HLV := hide hlv
  have HZ1 := hide hb.size
  have HI := ints_logs (hlv HF2.out.1 HF2.out.2)
  have hll : ll = (logsOf M).length := by
    obtain ⟨a, c, e, _⟩ := ownz_shape (hlv HF2.out.1 HF2.out.2)
    injection e
  subst hll
  have HLO : Hid (x1.ownsRow w.heap.size 3 1 (.slice la (logsOf M).length lc) (logsOf M).length ((logsOf M).map (Value.int .i64))) := ownz_mono (hlv HF2.out.1 HF2.out.2) (by simp; omega)
  have HC := hide (HMAY.out la lc x1 (HKV.out.below HX1.out) HI)
  have t0 : x1.cell? ⟨w.heap.size, 0, none⟩ = some (.int .i64 p0) := by rw [cell_of_block HBX.out.1]; rfl
  have t1 : x1.cell? ⟨w.heap.size, 1, none⟩ = some (.int .i64 p1) := by rw [cell_of_block HBX.out.1]; rfl
  have t2 : x1.cell? ⟨w.heap.size, 2, none⟩ = some (.int .i64 p2) := by rw [cell_of_block HBX.out.1]; rfl
  have t3 : x1.cell? ⟨w.heap.size, 3, none⟩ = some (.int .i64 q0) := by rw [cell_of_block HBX.out.1]; rfl
  have t4 : x1.cell? ⟨w.heap.size, 4, none⟩ = some (.int .i64 q1) := by rw [cell_of_block HBX.out.1]; rfl
  have t5 : x1.cell? ⟨w.heap.size, 5, none⟩ = some (.int .i64 q2) := by rw [cell_of_block HBX.out.1]; rfl
  have t6 : x1.cell? ⟨w.heap.size, 6, none⟩ = some (.int .i64 r) := by rw [cell_of_block HBX.out.1]; rfl
  have k0 : x1.cell? ⟨w.heap.size + 1, 0, none⟩ = some (.int .i64 pc) := by rw [cell_of_block HBX.out.2]; rfl
  have k1 : x1.cell? ⟨w.heap.size + 1, 1, none⟩ = some (.int .i64 st) := by rw [cell_of_block HBX.out.2]; rfl
  have k2 : x1.cell? ⟨w.heap.size + 1, 2, none⟩ = some (.slice ka ops.length kc) := by rw [cell_of_block HBX.out.2]; rfl
  clear hlv hb HL HI HMAY
  go_wp2_with fail
  refine HC.out.mono ?_
  rintro e x2 ⟨rfl, hb2⟩
  have HX2 := hide (HX1.out.trans (hb2.mono HX1.out.size))
  have HBX2 : Hid ((x2).heap[w.heap.size]? = some (.cells #[.int .i64 p0, .int .i64 p1, .int .i64 p2, .int .i64 q0, .int .i64 q1, .int .i64 q2, .int .i64 r] 49 (0, 0)) ∧ (x2).heap[w.heap.size + 1]? = some (.cells #[.int .i64 pc, .int .i64 st, .slice ka ops.length kc] 55 (0, 0))) := ⟨by rw [hb2.block _ (by omega)]; exact HBX.out.1, by rw [hb2.block _ (by omega)]; exact HBX.out.2⟩
  have HLO2 := hide (own_below HLO.out hb2)
  have hzx2 : w.heap.size + 1 < x2.heap.size := by have := hb2.size; omega
  clear hb2 t0 t1 t2 t3 t4 t5 t6 k0 k1 k2 HC
  have t6 : x2.cell? ⟨w.heap.size, 6, none⟩ = some (.int .i64 r) := by rw [cell_of_block HBX2.out.1]; rfl
  go_wp2_with (go_at_call 68; refine (HTI.out _).mono ?_; rintro e w' ⟨rfl, hw'⟩; have hw' := hw'.symm; subst hw')
  clear t6
  refine wp_region_noPanic ?_
  refine region_until 99 (fun w' => (w'.cell? ⟨w.heap.size, 0, none⟩ = some (.int .i64 p0) ∧ w'.cell? ⟨w.heap.size, 1, none⟩ = some (.int .i64 p1) ∧ w'.cell? ⟨w.heap.size, 2, none⟩ = some (.int .i64 p2) ∧ w'.cell? ⟨w.heap.size, 3, none⟩ = some (.int .i64 q0) ∧ w'.cell? ⟨w.heap.size, 4, none⟩ = some (.int .i64 q1) ∧ w'.cell? ⟨w.heap.size, 5, none⟩ = some (.int .i64 q2) ∧ w'.cell? ⟨w.heap.size, 6, none⟩ = some (.int .i64 r)) ∧ w'.cell? ⟨w.heap.size + 1, 0, none⟩ = some (.int .i64 pc) ∧ w'.cell? ⟨w.heap.size + 1, 1, none⟩ = some (.int .i64 st) ∧ w'.cell? ⟨w.heap.size + 1, 2, none⟩ = some (.slice ka ops.length kc)) (by kernel_rfl) (boxes_held HBX2.out) (fun hHeld => ?_)
  refine until_take (i := 0) (v := ?_) rfl (by kernel_rfl) (by kernel_rfl) (by kernel_rfl) (by kernel_rfl) (fun _ _ _ h => h) (Or.inl ⟨by rfl, ?_⟩) hHeld ?_
  rotate_left
  · intro w hSw
    try dsimp only at hSw
    go_simp
    try with_reducible rfl
  try simp only [Act.put, List.setIfInBounds_toArray, List.set_cons_zero, List.set_cons_succ]
  refine until_take (i := 1) (v := ?_) rfl (by kernel_rfl) (by kernel_rfl) (by kernel_rfl) (by kernel_rfl) (fun _ _ _ h => h) (Or.inl ⟨by rfl, ?_⟩) hHeld ?_
  rotate_left
  · intro w hSw
    try dsimp only at hSw
    go_simp
    try with_reducible rfl
  try simp only [Act.put, List.setIfInBounds_toArray, List.set_cons_zero, List.set_cons_succ]
  refine until_take (i := 2) (v := ?_) rfl (by kernel_rfl) (by kernel_rfl) (by kernel_rfl) (by kernel_rfl) (fun _ _ _ h => h) (Or.inl ⟨by rfl, ?_⟩) hHeld ?_
  rotate_left
  · intro w hSw
    try dsimp only at hSw
    go_simp
    try with_reducible rfl
  try simp only [Act.put, List.setIfInBounds_toArray, List.set_cons_zero, List.set_cons_succ]
  refine until_take (i := 3) (v := ?_) rfl (by kernel_rfl) (by kernel_rfl) (by kernel_rfl) (by kernel_rfl) (fun _ _ _ h => h) (Or.inl ⟨by rfl, ?_⟩) hHeld ?_
  rotate_left
  · intro w hSw
    try dsimp only at hSw
    go_simp
    try with_reducible rfl
  try simp only [Act.put, List.setIfInBounds_toArray, List.set_cons_zero, List.set_cons_succ]
  refine until_take (i := 5) (v := ?_) rfl (by kernel_rfl) (by kernel_rfl) (by kernel_rfl) (by kernel_rfl) (fun _ _ _ h => h) (Or.inl ⟨by rfl, ?_⟩) hHeld ?_
  rotate_left
  · intro w hSw
    try dsimp only at hSw
    go_simp
    try with_reducible rfl
  try simp only [Act.put, List.setIfInBounds_toArray, List.set_cons_zero, List.set_cons_succ]
  refine until_one (i := 4) rfl (by kernel_rfl) (fun K hK => ?_)
  go_simp
  refine (HCL.out _ HX2.out.drew).mono ?_
  rintro e x3 ⟨gr, cr, rfl, hge, hcm, hrx, hb3⟩
  have HB3 : Hid (Below x2.heap.size x2 x3) := (Below.refl _ _).drew.trans hb3
  have HX3 := hide (HX2.out.trans (HB3.out.mono HX2.out.size))
  have HBX3 : Hid ((x3).heap[w.heap.size]? = some (.cells #[.int .i64 p0, .int .i64 p1, .int .i64 p2, .int .i64 q0, .int .i64 q1, .int .i64 q2, .int .i64 r] 49 (0, 0)) ∧ (x3).heap[w.heap.size + 1]? = some (.cells #[.int .i64 pc, .int .i64 st, .slice ka ops.length kc] 55 (0, 0))) := ⟨by rw [HB3.out.block _ (by omega)]; exact HBX2.out.1, by rw [HB3.out.block _ (by omega)]; exact HBX2.out.2⟩
  have HGE : Hid (w.heap.size ≤ gr ∧ gr < x3.heap.size ∧ R.length ≤ cr ∧ cr ≤ maxLen) := ⟨Nat.le_trans HX2.out.size hge, hrx.lt, hrx.le, hcm⟩
  have HRX := hide hrx
  have HLO3 := hide (own_below HLO2.out HB3.out)
  clear hge hcm hrx hb3 hHeld
  have hHeld := boxes_held HBX3.out
  refine hK.out _ _ (.inr hHeld) ?_
  clear hK K
  try simp only [Act.put, List.setIfInBounds_toArray, List.set_cons_zero, List.set_cons_succ]
  refine until_take (i := 6) (v := ?_) rfl (by kernel_rfl) (by kernel_rfl) (by kernel_rfl) (by kernel_rfl) (fun _ _ _ h => h) (Or.inl ⟨by rfl, ?_⟩) hHeld ?_
  rotate_left
  · intro w hSw
    try dsimp only at hSw
    go_simp
    try with_reducible rfl
  try simp only [Act.put, List.setIfInBounds_toArray, List.set_cons_zero, List.set_cons_succ]
  refine until_one (i := 7) rfl (by kernel_rfl) (fun K hK => ?_)
  go_simp
  have HBX4 : Hid ((x3.alloc (.cells #[.int .i64 p0, .int .i64 p1, .int .i64 p2, .int .i64 q0, .int .i64 q1, .int .i64 q2, .int .i64 r, .int .i64 pc, .int .i64 st, .slice ka ops.length kc, .slice la (logsOf M).length lc, .slice (some ⟨gr, 0, none⟩) R.length cr, .slice none 0 0, .int .i64 turns, .slice none 0 0, .slice none 0 0, .slice none 0 0, .slice none 0 0, .slice none 0 0, .slice none 0 0] 112)).heap[w.heap.size]? = some (.cells #[.int .i64 p0, .int .i64 p1, .int .i64 p2, .int .i64 q0, .int .i64 q1, .int .i64 q2, .int .i64 r] 49 (0, 0)) ∧ (x3.alloc (.cells #[.int .i64 p0, .int .i64 p1, .int .i64 p2, .int .i64 q0, .int .i64 q1, .int .i64 q2, .int .i64 r, .int .i64 pc, .int .i64 st, .slice ka ops.length kc, .slice la (logsOf M).length lc, .slice (some ⟨gr, 0, none⟩) R.length cr, .slice none 0 0, .int .i64 turns, .slice none 0 0, .slice none 0 0, .slice none 0 0, .slice none 0 0, .slice none 0 0, .slice none 0 0] 112)).heap[w.heap.size + 1]? = some (.cells #[.int .i64 pc, .int .i64 st, .slice ka ops.length kc] 55 (0, 0))) := ⟨by rw [Below.heap_alloc _ _ _ (by have := HX3.out.size; have := (Array.getElem?_eq_some_iff.1 HBX3.out.1).1; omega)]; exact HBX3.out.1, by rw [Below.heap_alloc _ _ _ (Array.getElem?_eq_some_iff.1 HBX3.out.2).1]; exact HBX3.out.2⟩
  refine hK.out _ _ (.inr (boxes_held HBX4.out)) ?_
  clear hK K hHeld
  try simp only [Act.put, List.setIfInBounds_toArray, List.set_cons_zero, List.set_cons_succ]
  have hHeld := boxes_held HBX4.out
  refine until_one (i := 8) rfl (by kernel_rfl) (fun K hK => ?_)
  go_simp
  refine hK.out _ _ (.inr hHeld) ?_
  clear hK K
  try simp only [Act.put, List.setIfInBounds_toArray, List.set_cons_zero, List.set_cons_succ]
  refine until_done (by kernel_rfl) ?_ _
  refine NoPanic.normal ?_
  clear hHeld
  obtain ⟨A, hA⟩ : ∃ A, x3.heap.size = A := ⟨_, rfl⟩
  have H0 : Hid (BInv w A gr cr R ⟨p0, p1, p2, q0, q1, q2, r⟩ pc st (.slice ka ops.length kc) (.slice la (logsOf M).length lc) (logsOf M) turns M 0 (.slice none 0 0) (fun _ => 0) (fun _ => 0) (x3.alloc (.cells #[.int .i64 p0, .int .i64 p1, .int .i64 p2, .int .i64 q0, .int .i64 q1, .int .i64 q2, .int .i64 r, .int .i64 pc, .int .i64 st, .slice ka ops.length kc, .slice la (logsOf M).length lc, .slice (some ⟨gr, 0, none⟩) R.length cr, .slice none 0 0, .int .i64 turns, .slice none 0 0, .slice none 0 0, .slice none 0 0, .slice none 0 0, .slice none 0 0, .slice none 0 0] 112))) :=
    { bel := HX3.out.alloc HX3.out.size _, hA := by rw [← hA]; exact new_block _ _ _, hAb := by rw [← hA]; exact HX3.out.size, regs := HRX.out.row.alloc _, hr := ⟨HGE.out.1, HGE.out.2.2⟩, out := World.ownsRow_nil _ _ _ _, inn := ⟨fun i hi => absurd hi (Nat.not_lt_zero _), fun i j hi => absurd hi (Nat.not_lt_zero _)⟩, rM := fun i hi => absurd hi (Nat.not_lt_zero _), lgs := own_below HLO3.out (below_alloc1 _ _) }
  have HAE := hide hA
  go_wp2_with fail
  clear hA
  go_loopw [52] (fun i wr => ∃ k : Nat, k ≤ M.length ∧ i = .int .i64 k ∧ ∃ mv G C, BInv w A gr cr R ⟨p0, p1, p2, q0, q1, q2, r⟩ pc st (.slice ka ops.length kc) (.slice la (logsOf M).length lc) (logsOf M) turns M k mv G C wr) (fun i _ => M.length - (intOf i).toNat)
  case atStart => exact ⟨0, Nat.zero_le _, rfl, _, _, _, H0.out⟩
  case round =>
    clear H0
    obtain ⟨k, hk, rfl, mv, G, C, hQ⟩ := hrel
    by_cases hkl : k < M.length
    · have hki : (k : Int) < (M.length : Int) := by omega
      obtain ⟨am, cm, hmv, hm1, hm2⟩ := ownz_shape hQ.out
      subst hmv
      have HMW := HMV.out.below hQ.bel
      obtain ⟨ma2, mc2, hme2, -, -, hmc2⟩ := HMW
      injection hme2 with e1 e2 e3
      subst e1; subst e3
      obtain ⟨mb, mo, rfl, hmbz, hmrow⟩ := hmc2 (by omega)
      obtain ⟨u, hu, hui⟩ := hmrow k hkl
      have HUI := hide hui
      obtain ⟨ua, uc, rfl, -⟩ := hui
      have HQ := hide hQ
      have hc12 := hQ.cell
      have hAz := hQ.A_lt
      obtain ⟨r0, r32, -⟩ := HROWS.out k hkl
      have HCK : Hid (∀ W, Below wr.heap.size wr W → Calls Try.prog 75 #[.slice ua (rowAt M k).length uc] W fun e w' => ∃ g cap, e = .returned (.slice (some ⟨g, 0, none⟩) (rowAt M k).length cap) ∧ W.heap.size ≤ g ∧ cap ≤ maxLen ∧ RowX w' g 2 cap (rowAt M k).length (fun j => .int .i64 (nth (rowAt M k) j)) ∧ Below W.heap.size W w') := fun W h => clone_128 _ (rowAt M k) W (HUI.out.below h) r0 (by omega)
      obtain ⟨ln, hln⟩ : ∃ ln, (rowAt M k).length = ln := ⟨_, rfl⟩
      rw [hln] at hu HCK
      have HLN := hide hln
      clear hmrow hmc2 hQ hln
      go_wp2_with fail
      refine wp_region_noPanic ?_
      refine region_until 11 (fun w' => w'.cell? ⟨A, 12, none⟩ = some (.slice am k cm)) (by kernel_rfl) hc12 (fun hHeld => ?_)
      refine until_take (i := 0) (v := ?_) rfl (by kernel_rfl) (by kernel_rfl) (by kernel_rfl) (by kernel_rfl) (fun _ _ _ h => h) (Or.inl ⟨by rfl, ?_⟩) hHeld ?_
      rotate_left
      · intro w hSw
        try dsimp only at hSw
        go_simp
        try with_reducible rfl
      try simp only [Act.put, List.setIfInBounds_toArray, List.set_cons_zero, List.set_cons_succ]
      refine until_take (i := 1) (v := ?_) rfl (by kernel_rfl) (by kernel_rfl) (by kernel_rfl) (by kernel_rfl) (fun _ _ _ h => h) (Or.inl ⟨by rfl, ?_⟩) hHeld ?_
      rotate_left
      · intro w hSw
        try dsimp only at hSw
        go_simp
        try with_reducible rfl
      try simp only [Act.put, List.setIfInBounds_toArray, List.set_cons_zero, List.set_cons_succ]
      refine until_take (i := 2) (v := ?_) rfl (by kernel_rfl) (by kernel_rfl) (by kernel_rfl) (by kernel_rfl) (fun _ _ _ h => h) (Or.inl ⟨by rfl, ?_⟩) hHeld ?_
      rotate_left
      · intro w hSw
        try dsimp only at hSw
        go_simp
        try with_reducible rfl
      try simp only [Act.put, List.setIfInBounds_toArray, List.set_cons_zero, List.set_cons_succ]
      refine until_take (i := 3) (v := ?_) rfl (by kernel_rfl) (by kernel_rfl) (by kernel_rfl) (by kernel_rfl) (fun _ _ _ h => h) (Or.inl ⟨by rfl, ?_⟩) hHeld ?_
      rotate_left
      · intro w hSw
        try dsimp only at hSw
        go_simp
        try with_reducible rfl
      try simp only [Act.put, List.setIfInBounds_toArray, List.set_cons_zero, List.set_cons_succ]
      refine until_take (i := 4) (v := ?_) rfl (by kernel_rfl) (by kernel_rfl) (by kernel_rfl) (by kernel_rfl) (fun _ _ _ h => h) (Or.inl ⟨by rfl, ?_⟩) hHeld ?_
      rotate_left
      · intro w hSw
        try dsimp only at hSw
        go_simp
        try with_reducible rfl
      try simp only [Act.put, List.setIfInBounds_toArray, List.set_cons_zero, List.set_cons_succ]
      refine until_take (i := 5) (v := ?_) rfl (by kernel_rfl) (by kernel_rfl) (by kernel_rfl) (by kernel_rfl) (fun _ _ _ h => h) (Or.inl ⟨by rfl, ?_⟩) hHeld ?_
      rotate_left
      · intro w hSw
        try dsimp only at hSw
        go_simp
        try with_reducible rfl
      try simp only [Act.put, List.setIfInBounds_toArray, List.set_cons_zero, List.set_cons_succ]
      refine until_one (i := 6) rfl (by kernel_rfl) (fun K hK => ?_)
      go_simp
      refine (HCK.out _ (Below.refl _ _).drew).mono ?_
      rintro e x5 ⟨g, cap, rfl, hge5, hcm5, hrx5, hb5⟩
      have HB5 : Hid (Below wr.heap.size wr x5) := (Below.refl _ _).drew.trans hb5
      have HG5 : Hid (wr.heap.size ≤ g ∧ cap ≤ maxLen) := ⟨hge5, hcm5⟩
      have HRX5 := hide hrx5
      have HQ5 := hide (HQ.out.below HB5.out)
      clear hge5 hcm5 hrx5 hb5 hHeld
      refine hK.out _ _ (.inr HQ5.out.cell) ?_
      clear hK K
      try simp only [Act.put, List.setIfInBounds_toArray, List.set_cons_zero, List.set_cons_succ]
      refine until_one (i := 7) rfl (by kernel_rfl) (fun K hK => ?_)
      go_simp
      have HQ6 := hide (HQ5.out.below (below_alloc1 x5 (.cells #[.slice (some ⟨g, 0, none⟩) ln cap] 36)))
      refine hK.out _ _ (.inr HQ6.out.cell) ?_
      clear hK K
      try simp only [Act.put, List.setIfInBounds_toArray, List.set_cons_zero, List.set_cons_succ]
      refine until_one (i := 8) rfl (by kernel_rfl) (fun K hK => ?_)
      refine step_append_lies _ (by rfl) (.tmp 60) (.tmp 63) 31 (by rfl) w.heap.size 36 i0 (.slice none 0 0) 1 24 Try.underlying31 hi hz0' hz1 hz2 rfl (by decide) _ k _ (by rfl) HQ6.out.out ⟨x5.heap.size, 0, none⟩ 1 1 [.slice (some ⟨g, 0, none⟩) ln cap] (by rfl) rfl (one_cell _ _ _) (by intro u hu; simp at hu; subst hu; rfl) (by decide) (by unfold maxLen; omega) (by omega) HQ6.out.bel.size (x5.heap.size + 1) (by simp) ?_
      intro g2 cap2 w6 hown6 hgrow6 hat6 hlt6
      have hk6 := HQ6.out.grown hgrow6
      have HO6 := hide hown6
      have HG6 := hide hgrow6
      clear hown6 hgrow6 hat6
      refine hK.out _ _ (.inr hk6.1) ?_
      clear hK K
      try simp only [Act.put, List.setIfInBounds_toArray, List.set_cons_zero, List.set_cons_succ]
      have hHeld := hk6.1
      have hf6 := hk6.2
      refine until_take (i := 9) (v := ?_) rfl (by kernel_rfl) (by kernel_rfl) (by kernel_rfl) (by kernel_rfl) (fun _ _ _ h => h) (Or.inl ⟨by rfl, ?_⟩) hHeld ?_
      rotate_left
      · intro w hSw
        try dsimp only at hSw
        go_simp
        try with_reducible rfl
      try simp only [Act.put, List.setIfInBounds_toArray, List.set_cons_zero, List.set_cons_succ]
      refine until_take (i := 10) (v := ?_) rfl (by kernel_rfl) (by kernel_rfl) (by kernel_rfl) (by kernel_rfl) (fun _ _ _ h => h) (Or.inl ⟨by rfl, ?_⟩) hHeld ?_
      rotate_left
      · intro w hSw
        try dsimp only at hSw
        go_simp
        try with_reducible rfl
      try simp only [Act.put, List.setIfInBounds_toArray, List.set_cons_zero, List.set_cons_succ]
      refine until_one (i := 11) rfl (by kernel_rfl) (fun K hK => ?_)
      go_simp
      refine hK.out _ _ (.inl rfl) ?_
      clear hK K
      try simp only [Act.put, List.setIfInBounds_toArray, List.set_cons_zero, List.set_cons_succ]
      refine until_done (by kernel_rfl) ?_ _
      refine NoPanic.normal ?_
      clear hk6 hHeld
      go_wp2_with fail
      go_roundw
      case rel =>
        refine ⟨k + 1, by omega, by go_num, _, _, _, HQ6.out.step (g := g) (cap := cap) (B0 := 0) ?_ (by have := HG5.out.1; have := HQ.out.bel.size; omega) HG5.out.2 ?_ ?_ (by show w6.ownsRow _ _ _ _ _ (_ ++ [.slice _ (rowAt M k).length _]); rw [HLN.out]; exact HO6.out) HG6.out⟩
        · have h := HRX5.out.below (below_alloc1 x5 (.cells #[.slice (some ⟨g, 0, none⟩) ln cap] 36)) HRX5.out.lt
          rw [← HLN.out] at h ⊢
          exact h
        · have := HQ.out.regs.lt; have := HG5.out.1; omega
        · intro i hi; have := (HQ.out.inn.1 i hi).2.2.2.lt; have := HG5.out.1; omega
      case measure => simp [intOf]; omega
    · have e : k = M.length := by omega
      subst e
      have hki : ¬ (M.length : Int) < (M.length : Int) := by omega
      obtain ⟨am, cm, hmv, hm1, hm2⟩ := ownz_shape hQ.out
      subst hmv
      have HQ := hide hQ
      have HMC := hide hQ.mach
      by_cases ht : turns = 0
      · obtain ⟨e11, e12⟩ := hQ.ends
        have htd : decide (0 < turns) = false := decide_eq_false (by omega)
        have htn : ¬ 0 < turns := by omega
        have HPL : Hid (playK ⟨p0, p1, p2, q0, q1, q2, r⟩ ⟨pc, st, ops⟩ (logsOf M) turns R M = startK R M) := by show _ = _; unfold playK; rw [if_pos ht]
        have hAz := hQ.A_lt
        clear hQ ht
        go_wp2_with fail
        go_big_quiet ((fail))
        go_wp2_with fail
        have hI : MInv ((mcOf w wr A gr cr R ⟨p0, p1, p2, q0, q1, q2, r⟩ pc st (.slice ka ops.length kc) (.slice la (logsOf M).length lc) turns M (.slice am M.length cm) G).at wr) (fun _ => .slice none 0 0) [] (startK R M).f (startK R M).m (wr.drewN nq) := HMC.out.below (below_draws _ _ _)
        exact bodyPost_ret (v := .tuple #[.slice (some ⟨gr, 0, none⟩) R.length cr, .slice am M.length cm, .int .i64 0]) (by simp [results, Try.results39, go_sem]) rfl (run_told (K := ⟨pc, st, ops⟩) HQ.out (Below.refl _ _) hI HPL.out (fine_startK HI64.out.1 HI64.out.2) HW.out rfl)
      · have htd : decide (0 < turns) = true := decide_eq_true (by omega)
        have htn : 0 < turns := by omega
        have hlg : ∀ i, i < (logsOf M).length → -9223372036854775808 ≤ nth (logsOf M) i ∧ nth (logsOf M) i ≤ 9223372036854775807 := fun i hi => by
          rw [logsOf_nth M i (by rw [logsOf_len] at hi; exact hi)]
          have := logIx_le (rowAt M i).length
          omega
        obtain ⟨gm, cm', hst⟩ := hQ.stat hlg
        obtain ⟨hmt, hp1, hp2, hs1, hs2, ho1, ho2, -⟩ := mayK_parts HMAYK.out
        simp only at hp1 hp2 hs1 hs2
        obtain ⟨PC, hPC⟩ : ∃ PC : Nat, pc = (PC : Int) := ⟨pc.toNat, by omega⟩
        obtain ⟨ST, hST⟩ : ∃ ST : Nat, st = (ST : Int) := ⟨st.toNat, by omega⟩
        obtain ⟨N, hN⟩ : ∃ N : Nat, turns + st - 1 = (N : Int) := ⟨(turns + st - 1).toNat, by omega⟩
        have hNP : N * PC ≤ 20000 := by
          have h1 : (turns + st) * pc ≤ 20000 := HLIM.out.resolve_left ht
          have h2 : ((N * PC : Nat) : Int) ≤ (turns + st) * pc := by
            rw [Int.natCast_mul, ← hPC, ← hN]
            exact Int.mul_le_mul_of_nonneg_right (by omega) (by omega)
          omega
        have hlast : lastK ⟨pc, st, ops⟩ turns = ((N * PC : Nat) : Int) := by unfold lastK; show (turns + st - 1) * pc = _; rw [hN, hPC, Int.natCast_mul]
        have HPL : Hid (playK ⟨p0, p1, p2, q0, q1, q2, r⟩ ⟨pc, st, ops⟩ (logsOf M) turns R M = runK ⟨p0, p1, p2, q0, q1, q2, r⟩ ⟨pc, st, ops⟩ (logsOf M) turns (startK R M) (N * PC + 6)) := by
          show _ = _
          unfold playK
          rw [if_neg ht, hlast, show (((N * PC : Nat) : Int) + 7).toNat = N * PC + 7 by omega]
          exact run_end hmt rfl hlast
        have HFI := hide (run_fine (t := ⟨p0, p1, p2, q0, q1, q2, r⟩) (turns := turns) HMAYK.out HNN.out HI64.out.1 HI64.out.2 (N * PC + 6) (by omega))
        have HRUN := hide (mrun_any (mcOf w wr A gr cr R ⟨p0, p1, p2, q0, q1, q2, r⟩ pc st (.slice ka ops.length kc) (.slice la (logsOf M).length lc) turns M (.slice am M.length cm) G) (logsOf M) gm cm' C ⟨pc, st, ops⟩ ka kc PC ST N (fun i => nth R i) (fun i j => nth (rowAt M i) j)
          hQ.mach (fun x hx => (hst x hx).1) rfl (by obtain ⟨ov, e, h⟩ := HKV.out; injection e with e; have e2 : ov = .slice ka ops.length kc := by simpa using e.symm
                                                     rw [e2] at h; exact h.below hQ.bel) (logsOf_len M).symm (fun i hi => ⟨(HROWS.out i hi).2.2, (HROWS.out i hi).2.1⟩) HR1.out HMAYK.out rfl hPC rfl hST hN (by show 1 ≤ turns; omega) ht2 hNP)
        have hAz := hQ.A_lt
        clear hQ ht hlg hst hlast hPC hST hN hp1 hp2 hs1 hs2
        go_wp2_with fail
        refine HRUN.out.mono ?_
        rintro e x9 ⟨rfl, y, V, hby, hI9⟩
        obtain ⟨-, ⟨-, -, -, -, e11, e12, -⟩, -⟩ := hI9.cells
        have e11' : x9.cell? ⟨A, 11, none⟩ = some (.slice (some ⟨gr, 0, none⟩) R.length cr) := e11
        have e12' : x9.cell? ⟨A, 12, none⟩ = some (.slice am M.length cm) := e12
        have HI9 := hide hI9
        have HBY := hide hby
        clear e11 e12 hI9 hby
        go_wp2_with fail
        go_big_quiet ((fail))
        go_wp2_with fail
        exact bodyPost_ret (v := .tuple #[.slice (some ⟨gr, 0, none⟩) R.length cr, .slice am M.length cm, .int .i64 0]) (by simp [results, Try.results39, go_sem]) rfl (run_told (K := ⟨pc, st, ops⟩) HQ.out HBY.out (HI9.out.below (below_draws _ _ _)) HPL.out HFI.out HW.out rfl)

theorem kernelRun_all : RunC := fun t kv rv mv K R M turns w hK hR hM hnn hbig hlim => by
  show Calls _ _ _ _ fun e w' => RunP w t K R M turns e w'
  obtain ⟨p0, p1, p2, q0, q1, q2, r⟩ := t
  obtain ⟨pc, st, ops⟩ := K
  have hK' := hK
  have hR' := hR
  have hM' := hM
  obtain ⟨ov, rfl, hO⟩ := hK'
  obtain ⟨ka, kc, rfl, -⟩ := hO
  obtain ⟨ra, rc, rfl, -⟩ := hR'
  obtain ⟨ma, mc, rfl, -⟩ := hM'
  cases hf : (hasLogs M && decide (M.length ≤ 3)) with
  | false => exact krun_logs p0 p1 p2 q0 q1 q2 r pc st ops ka kc ra rc R ma mc M turns w hK hR hM hf
  | true =>
    cases hmay : mayK ⟨p0, p1, p2, q0, q1, q2, r⟩ ⟨pc, st, ops⟩ (logsOf M) with
    | false => exact krun_may p0 p1 p2 q0 q1 q2 r pc st ops ka kc ra rc R ma mc M turns w hK hR hM hf hmay
    | true =>
      by_cases hr : (R.length : Int) = r
      · cases ht : inR turns 0 200 with
        | false => exact krun_regs p0 p1 p2 q0 q1 q2 r pc st ops ka kc ra rc R ma mc M turns w hK hR hM hf hmay (.inr ⟨hr, ht⟩)
        | true =>
          have hw : wrongK ⟨p0, p1, p2, q0, q1, q2, r⟩ ⟨pc, st, ops⟩ R.length M turns = 0 := by
            have hf2 : hasLogs M = true ∧ M.length ≤ 3 := by simpa using hf
            unfold wrongK
            rw [if_pos ⟨hf2.1, hmay, hr⟩, if_pos (inR_iff.1 ht)]
          exact krun_ok p0 p1 p2 q0 q1 q2 r pc st ops ka kc ra rc R ma mc M turns w hK hR hM hf hmay hr ht hnn (hlim hw)
      · exact krun_regs p0 p1 p2 q0 q1 q2 r pc st ops ka kc ra rc R ma mc M turns w hK hR hM hf hmay (.inl hr)
end Go.Proofs.Ytpljieenjkbmmaa
