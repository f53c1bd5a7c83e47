/- KernQ: texts that are built as one: KernUnits, KernMay, KernLogs, KernBeg, KernAll1, KernelAll. -/
import Derived.Test.YtbpaffkkphacdabKernS
import Derived.Test.YtbpaffkkphacdabBase
import Derived.Test.YtbpaffkkphacdabKernM
import Derived.DeepKeys4
import Derived.Deep.RegionHeld3
import Derived.Test.YtbpaffkkphacdabTarget
import Derived.Test.YtbpaffkkphacdabKernP
import Derived.Test.YtbpaffkkphacdabRef5A
import Derived.Lib.BitFns
import Derived.Lib.Small
import Derived.Lib.Walk
import Derived.Lib.SliceRun
import Derived.Test.YtbpaffkkphacdabRef5B
import Derived.Deep.AppendLies
/- The contract of the units that are used: they stand in a map, by Slot and class; nothing that was there is changed. -/
namespace Go.Proofs.Ytbpaffkkphacdab
open Go.RowKit Go.Joins
open Go.WideMaps (KeyLaw)
set_option linter.unusedVariables false
set_option linter.unusedSimpArgs false
set_option maxRecDepth 8192

theorem laidOut : laidOutB Try.prog = true := by kernel_rfl
theorem unitRow : (203 : TypeId) < Try.prog.types.size := of_decide_eq_true (by kernel_rfl)
theorem unitWide : (match Try.prog.underlying 203 with | some (.array _ _) | some (.struct _) => true | _ => false) = true := by kernel_rfl
theorem unitLaw : KeyLaw Try.prog 203 := deep_law_laid laidOut (m := 2) (by omega) unitRow (by kernel_rfl) unitWide
theorem unitZero (u : World) : (zeroValue 3).run Try.prog u = .ok (.int .i64 0) u := by kernel_rfl
theorem unitKey (a b : Int) (ha : (Lit.int .i64 a).wf = true) (hb : (Lit.int .i64 b).wf = true) : ∃ kl, keyOf Try.prog 203 (.agg #[.int .i64 a, .int .i64 b]) = some kl := by
  have h1 : Try.prog.keyType 203 = true := by kernel_rfl
  have h2 : Try.prog.cellsOf 203 = 2 := by kernel_rfl
  have h3 : Try.prog.cellsOf 3 = 1 := by kernel_rfl
  obtain ⟨dd, h4⟩ : ∃ dd, Try.prog.types.size = dd + 1 := ⟨_, (Nat.succ_pred_eq_of_pos (Nat.lt_of_le_of_lt (Nat.zero_le _) unitRow)).symm⟩
  have h5 : (Value.agg #[.int .i64 a, .int .i64 b]).formed Try.prog 203 = true := by simp [Value.formed, Try.underlying203, h2]
  have h6 : ∀ d (x : Int), (Lit.int .i64 x).wf = true → Try.prog.keyLits (d + 1) 3 [.int .i64 x] = some [.int .i64 x] := fun d x hx => by
    unfold Program.keyLits
    rw [Try.underlying3]
    simp [hx]
  have h7 : Try.prog.keyLits (dd + 1 + 1) 203 [.int .i64 a, .int .i64 b] = some [.int .i64 a, .int .i64 b] := by
    unfold Program.keyLits
    rw [Try.underlying203]
    simp [h2, h3, h6 dd a ha, h6 dd b hb]
  unfold keyOf
  rw [Try.underlying203]
  simp only [h1, h5, Bool.and_self, if_true]
  rw [h4]
  have h8 : (Value.agg #[.int .i64 a, .int .i64 b]).cells.toList = [.int .i64 a, .int .i64 b] := rfl
  rw [h8, h7]
  exact ⟨_, rfl⟩
/-- how many of the first k Ops use a unit of a class at a Slot -/
def tally (l : List Kop) (k : Nat) (s c : Int) : Nat := cnt (fun j => decide ((opAt l j).sl = s) && decide (clsv (opAt l j).o = c)) k
theorem tally_so (l : List Kop) (k : Nat) : tally l (k + 1) (opAt l k).sl (clsv (opAt l k).o) = soFar l k := rfl
theorem tally_step (l : List Kop) (k : Nat) (s c : Int) : tally l (k + 1) s c = if (opAt l k).sl = s ∧ clsv (opAt l k).o = c then tally l k s c + 1 else tally l k s c := by
  unfold tally
  show cnt _ k + (if (decide ((opAt l k).sl = s) && decide (clsv (opAt l k).o = c)) = true then 1 else 0) = _
  by_cases h : (opAt l k).sl = s ∧ clsv (opAt l k).o = c
  · rw [if_pos h, if_pos (by rw [decide_eq_true h.1, decide_eq_true h.2]; rfl)]
  · rw [if_neg h, if_neg (by simpa using h)]; rfl
/-- the map holds the first k -/
def MapOk (l : List Kop) (k b : Nat) (x : World) : Prop :=
  ∃ D : DataW Unit, x.ownsMap Try.prog 203 (plainElem Try.prog 3) b k D ∧ Maps.IsMap D ∧ ∀ s c kl, keyOf Try.prog 203 (.agg #[.int .i64 s, .int .i64 c]) = some kl → D.atKey kl (.lit (.int .i64 0)) = .lit (.int .i64 (tally l k s c))
theorem MapOk.below {l : List Kop} {k b : Nat} {x y : World} (h : MapOk l k b x) (hb : Below x.heap.size x y) : MapOk l k b y := by
  obtain ⟨D, h1, h2, h3⟩ := h
  refine ⟨D, h1.kept (row := none) ⟨hb.os, hb.tape, hb.output, hb.size, fun i hi _ => hb.block i hi⟩ (by simp), h2, h3⟩
theorem MapOk.look {l : List Kop} {k b : Nat} {x : World} (h : MapOk l k b x) (s c : Int) (hs : (Lit.int .i64 s).wf = true) (hc : (Lit.int .i64 c).wf = true) : (Instr.lookup 201 (.map (some b)) (.agg #[.int .i64 s, .int .i64 c]) false).run Try.prog x = .ok (.int .i64 (tally l k s c)) x := by
  obtain ⟨D, h1, h2, h3⟩ := h
  obtain ⟨kl, hkl⟩ := unitKey s c hs hc
  obtain ⟨q, hr, hat, _⟩ := h1.lookup_int (Maps.Keyed.of_law unitLaw) Try.underlying201 Try.underlying3 (unitZero _) hkl
  rw [h3 s c kl hkl] at hat
  injection hat with e1
  injection e1 with _ e2
  rw [hr, e2]
/-- one Op more: the entry, and the store -/
theorem MapOk.step {l : List Kop} {k b : Nat} {x : World} (h : MapOk l k b x) (hk : k < l.length) (h16 : l.length ≤ 16) (s c : Int) (hs : (opAt l k).sl = s) (hc : clsv (opAt l k).o = c) (ws : (Lit.int .i64 s).wf = true) (wc : (Lit.int .i64 c).wf = true) :
    ∃ v0 st w1, (Instr.mapEntry 201 (.map (some b)) (.agg #[.int .i64 s, .int .i64 c])).run Try.prog x = .ok (.tuple #[v0, goInt st]) w1 ∧ x.grownBy w1 (some b) ∧ (Instr.lookup 201 (.map (some b)) (.agg #[.int .i64 s, .int .i64 c]) false).run Try.prog w1 = .ok (.int .i64 (tally l k s c)) w1 ∧
      ∃ w3, (Instr.entryStore 201 (.map (some b)) (goInt st) (.int .i64 ((tally l k s c : Int) + 1))).run Try.prog w1 = .ok () w3 ∧ w1.grownBy w3 (some b) ∧ MapOk l (k + 1) b w3 := by
  have hl := h.look s c ws wc
  obtain ⟨D, h1, h2, h3⟩ := h
  obtain ⟨kl, hkl⟩ := unitKey s c ws wc
  have ht16 : tally l k s c ≤ 16 := Nat.le_trans (cnt_le _ _) (by omega)
  obtain ⟨v0, st, w1, e1, e2, e3, e4⟩ := entry_own unitLaw Try.underlying201 Try.underlying3 unitZero h1 (by unfold maxLen; omega) hkl hl
  obtain ⟨w3, f1, f2, f3⟩ := e4 w1 ((tally l k s c : Int) + 1) rfl (WalkArith.wf_i64 (by omega))
  refine ⟨v0, st, w1, e1, e2, e3, w3, f1, f2, D.put kl (.lit (.int .i64 ((tally l k s c : Int) + 1))), f3, h2.put _ _, fun s' c' kl' hkl' => ?_⟩
  by_cases e : kl' = kl
  · subst e
    have hv := unitLaw.inj hkl hkl'
    injection hv with hv
    have hv2 : s = s' ∧ c = c' := by simpa using hv
    obtain ⟨rfl, rfl⟩ := hv2
    rw [Maps.atKey_put_same h2 ((Maps.Keyed.of_law unitLaw).key hkl'), tally_step, if_pos ⟨hs, hc⟩]
    rfl
  · rw [Maps.atKey_put_other e, h3 s' c' kl' hkl', tally_step, if_neg fun h => e ?_]
    have : s' = s ∧ c' = c := ⟨h.1.symm.trans hs, h.2.symm.trans hc⟩
    rw [this.1, this.2, hkl] at hkl'
    exact (Option.some.inj hkl').symm
theorem goInt_is (n : Int) : goInt n = .int .i64 n := rfl
theorem units_at (t : Tg) (c : Nat) (hc : c < 3) (w : World) (x : World) (h : x.heap[w.heap.size]? = some (.cells #[.int .i64 t.u0, .int .i64 t.u1, .int .i64 t.u2, .int .i64 t.w0, .int .i64 t.w1, .int .i64 t.w2, .int .i64 t.r] 28 (0, 0))) : x.cell? ⟨w.heap.size, c, none⟩ = some (.int .i64 (unitsT t c)) := by
  rw [cell_of_block h]
  obtain rfl | rfl | rfl : c = 0 ∨ c = 1 ∨ c = 2 := by omega
  all_goals rfl
set_option maxHeartbeats 8000000 in
theorem units_any (p0 p1 p2 q0 q1 q2 r pc st : Int) (ops : List Kop) (ka : Option Addr) (kc : Nat) (w : World) (hK : OpsV w (.slice ka ops.length kc) ops) (h16 : ops.length ≤ 16) (hsl : ∀ x ∈ ops, 0 ≤ x.sl ∧ x.sl ≤ 1000) :
    Calls Try.prog 142 #[.agg #[.int .i64 p0, .int .i64 p1, .int .i64 p2, .int .i64 q0, .int .i64 q1, .int .i64 q2, .int .i64 r], .agg #[.int .i64 pc, .int .i64 st, .slice ka ops.length kc]] w fun e w' => e = .returned (.bool (unitsP ⟨p0, p1, p2, q0, q1, q2, r⟩ ops)) ∧ Below w.heap.size w w' := by
  obtain ⟨ka', kc', hk1, hk2, hk3, hkc⟩ := hK
  injection hk1 with e1 e2 e3
  subst e1; subst e3
  unfold maxLen at hk3
  have HKC := hide hkc
  have HSL := hide hsl
  have hmm := @run_makeMap Try.prog
  have H0 : Hid (MapOk ops 0 (w.heap.size + 1 + 1) (((w.alloc (.cells #[.int .i64 p0, .int .i64 p1, .int .i64 p2, .int .i64 q0, .int .i64 q1, .int .i64 q2, .int .i64 r] 28)).alloc (.cells #[.int .i64 pc, .int .i64 st, .slice ka ops.length kc] 40)).alloc (.map #[] 0))) := by
    show MapOk _ _ _ _
    have h := World.ownsMap_made (H := Unit) ((w.alloc (.cells #[.int .i64 p0, .int .i64 p1, .int .i64 p2, .int .i64 q0, .int .i64 q1, .int .i64 q2, .int .i64 r] 28)).alloc (.cells #[.int .i64 pc, .int .i64 st, .slice ka ops.length kc] 40)) Try.prog 203 (plainElem Try.prog 3)
    have e : ((w.alloc (.cells #[.int .i64 p0, .int .i64 p1, .int .i64 p2, .int .i64 q0, .int .i64 q1, .int .i64 q2, .int .i64 r] 28)).alloc (.cells #[.int .i64 pc, .int .i64 st, .slice ka ops.length kc] 40)).heap.size = w.heap.size + 1 + 1 := by simp
    rw [e] at h
    exact ⟨_, h, Maps.isMap_empty, fun s c kl _ => rfl⟩
  clear hkc hsl e2
  go_enter Try.func142, Try.ntmps142
  go_wp2_with fail
  go_loopw [13] (fun i wr => ∃ k : Nat, k ≤ ops.length ∧ i = .int .i64 k ∧ allN (fun i => decide ((soFar ops i : Int) ≤ unitsT ⟨p0, p1, p2, q0, q1, q2, r⟩ (clsv (opAt ops i).o))) k = true ∧ Below (w.heap.size + 1 + 1) ((w.alloc (.cells #[.int .i64 p0, .int .i64 p1, .int .i64 p2, .int .i64 q0, .int .i64 q1, .int .i64 q2, .int .i64 r] 28)).alloc (.cells #[.int .i64 pc, .int .i64 st, .slice ka ops.length kc] 40)) wr ∧ MapOk ops k (w.heap.size + 1 + 1) wr) (fun i _ => ops.length - (intOf i).toNat)
  case atStart => exact ⟨0, Nat.zero_le _, rfl, rfl, (Below.refl _ _).alloc (by simp) _, H0.out⟩
  case round =>
    clear H0 hmm
    obtain ⟨k, hk, rfl, hall, hbel, hM⟩ := hrel
    have HA := hide hall
    have HB := hide hbel
    have HM := hide hM
    have hbw : Below w.heap.size w wr := (below_alloc2 _ _ _).trans (hbel.mono (by omega))
    have hsz : w.heap.size + 1 + 1 ≤ wr.heap.size := by have := hbel.size; simp at this; omega
    clear hall hM
    by_cases hkl : k < ops.length
    · have hki : (k : Int) < (ops.length : Int) := by omega
      obtain ⟨ob, oo, rfl, hob, hocell⟩ := HKC.out (by omega)
      obtain ⟨c0, c1, c2, c3, c4, c5, c6, c7, c8, c9⟩ := ten (hocell k hkl)
      rw [← bcell hbw _ _ hob] at c0 c1 c2 c3 c4 c5 c6 c7 c8 c9
      have hobz : ob < wr.heap.size := by omega
      have HBW := hide hbw
      obtain ⟨s0, s1⟩ := HSL.out _ (opAt_in hkl)
      obtain ⟨cn, hcn, hcn3⟩ : ∃ cn : Nat, clsv (opAt ops k).o = (cn : Int) ∧ cn < 3 := by
        rcases cls_three (opAt ops k).o with h | h | h
        · exact ⟨0, h, by omega⟩
        · exact ⟨1, h, by omega⟩
        · exact ⟨2, h, by omega⟩
      have HTG : Hid (∀ x, Below (w.heap.size + 1 + 1) wr x → x.cell? ⟨w.heap.size, cn, none⟩ = some (.int .i64 (unitsT ⟨p0, p1, p2, q0, q1, q2, r⟩ cn))) := fun x hx => units_at ⟨p0, p1, p2, q0, q1, q2, r⟩ cn hcn3 w x (by
        rw [hx.block _ (by omega), HB.out.block _ (by omega), Below.heap_alloc _ _ _ (by simp)]
        exact new_block _ _ _)
      have HSTEP := hide (fun (x : World) (h : MapOk ops k (w.heap.size + 1 + 1) x) => h.step hkl h16 _ cn rfl hcn (WalkArith.wf_i64 (by omega)) (WalkArith.wf_i64 (by omega)))
      have HLOOK := hide (fun (x : World) (h : MapOk ops k (w.heap.size + 1 + 1) x) => h.look (opAt ops k).sl cn (WalkArith.wf_i64 (by omega)) (WalkArith.wf_i64 (by omega)))
      have HLOOK2 := hide (fun (x : World) (h : MapOk ops (k + 1) (w.heap.size + 1 + 1) x) => h.look (opAt ops k).sl cn (WalkArith.wf_i64 (by omega)) (WalkArith.wf_i64 (by omega)))
      have HCL : Hid (∀ W, Calls Try.prog 107 #[.int .i64 (opAt ops k).o] W fun e w' => e = .returned (.int .i64 cn) ∧ w' = W) := fun W => by rw [← hcn]; exact class_any _ _
      have hcc : tally ops (k + 1) (opAt ops k).sl cn = tally ops k (opAt ops k).sl cn + 1 := by rw [tally_step, if_pos ⟨rfl, hcn⟩]
      have HSO : Hid (soFar ops k = tally ops k (opAt ops k).sl cn + 1) := by show _ = _; rw [← hcc, ← hcn, tally_so]
      have hcc16 : tally ops k (opAt ops k).sl cn ≤ 16 := Nat.le_trans (cnt_le _ _) (by omega)
      rw [hcc] at HLOOK2
      have HUN : Hid (unitsT ⟨p0, p1, p2, q0, q1, q2, r⟩ (clsv (opAt ops k).o) = unitsT ⟨p0, p1, p2, q0, q1, q2, r⟩ cn) := by show _ = _; rw [hcn]
      generalize tally ops k (opAt ops k).sl cn = cc at *
      generalize unitsT ⟨p0, p1, p2, q0, q1, q2, r⟩ (cn : Int) = un at *
      clear hcn hcc hocell hbw hbel
      have HXX : Hid (∃ xk, opAt ops k = xk) := ⟨_, rfl⟩
      generalize hxk : opAt ops k = xk at *
      have HXK := hide hxk
      clear hxk HXX
      obtain ⟨sl, sg, o, d, a, b, ar, sp, pl, nn⟩ := xk
      simp only at c0 c1 c2 c3 c4 c5 c6 c7 c8 c9 s0 s1 HSTEP HLOOK HLOOK2 HCL HSO HUN
      go_wp2_with fail
      clear c0 c1 c2 c3 c4 c5 c6 c7 c8 c9
      go_region_held3 (fun w' => w'.cell? ⟨wr.heap.size, 0, none⟩ = some (.int .i64 sl) ∧ w'.cell? ⟨wr.heap.size, 2, none⟩ = some (.int .i64 o)) ((go_keep; done)) (first | (go_at_call 107; refine (HCL.out _).mono ?_; rintro e w' ⟨rfl, hw'⟩; have hw' := hw'.symm; subst hw'))
      all_goals
        have HY := hide (HM.out.below ((below_alloc2 wr (.cells #[.int .i64 sl, .int .i64 sg, .int .i64 o, .int .i64 d, .int .i64 a, .int .i64 b, .int .i64 ar, .int .i64 sp, .int .i64 pl, .int .i64 nn] 91) (.cells #[.int .i64 sl, .int .i64 cn] 203)).drew.drew))
        have hblt : w.heap.size + 1 + 1 < wr.heap.size := by obtain ⟨D, h1, _⟩ := HM.out; exact h1.lt
        obtain ⟨v0, stp, w1, e1, e2, e3, w3, f1, f2, f3⟩ := HSTEP.out _ HY.out
        rw [goInt_is] at e1 f1
        have hcn3i : (cn : Int) < 3 := by omega
        have hwr : IntKind.i64.wrap ((cc : Int) + 1) = (cc : Int) + 1 := i64_wrapK _ (by omega) (by omega)
        have HBY : Hid (((wr.alloc (.cells #[.int .i64 sl, .int .i64 sg, .int .i64 o, .int .i64 d, .int .i64 a, .int .i64 b, .int .i64 ar, .int .i64 sp, .int .i64 pl, .int .i64 nn] 91)).alloc (.cells #[.int .i64 sl, .int .i64 cn] 203)).heap[wr.heap.size + 1]? = some (.cells #[.int .i64 sl, .int .i64 cn] 203 (0, 0))) := by
          show _ = _
          have e : (wr.alloc (.cells #[.int .i64 sl, .int .i64 sg, .int .i64 o, .int .i64 d, .int .i64 a, .int .i64 b, .int .i64 ar, .int .i64 sp, .int .i64 pl, .int .i64 nn] 91)).heap.size = wr.heap.size + 1 := by simp
          rw [← e]; exact new_block _ _ _
        have HB1 : Hid (w1.heap[wr.heap.size + 1]? = some (.cells #[.int .i64 sl, .int .i64 cn] 203 (0, 0))) := by show _ = _; rw [e2.block _ (by simp) (by intro e; have := Option.some.inj e; omega)]; exact HBY.out
        have HB3 : Hid (w3.heap[wr.heap.size + 1]? = some (.cells #[.int .i64 sl, .int .i64 cn] 203 (0, 0))) := by show _ = _; rw [f2.block _ (Array.getElem?_eq_some_iff.1 HB1.out).1 (by intro e; have := Option.some.inj e; omega)]; exact HB1.out
        have HW3 : Hid (Below (w.heap.size + 1 + 1) wr w3) := (((((below_alloc2 wr (.cells #[.int .i64 sl, .int .i64 sg, .int .i64 o, .int .i64 d, .int .i64 a, .int .i64 b, .int .i64 ar, .int .i64 sp, .int .i64 pl, .int .i64 nn] 91) (.cells #[.int .i64 sl, .int .i64 cn] 203)).drew.drew).mono (by omega)).grown e2 (by simp; omega) (fun q hq => by have := Option.some.inj hq; omega)).grown f2 (by have := e2.size; simp at this; omega) (fun q hq => by have := Option.some.inj hq; omega))
        have HM3 := hide f3
        have c60 : w1.cell? ⟨wr.heap.size + 1, 0, none⟩ = some (.int .i64 sl) ∧ w1.cell? ⟨wr.heap.size + 1, 1, none⟩ = some (.int .i64 cn) ∧ (Instr.lookup 201 (.map (some (w.heap.size + 1 + 1))) (.agg #[.int .i64 sl, .int .i64 cn]) false).run Try.prog w1 = .ok (.int .i64 cc) w1 := ⟨by rw [cell_of_block HB1.out]; rfl, by rw [cell_of_block HB1.out]; rfl, e3⟩
        have H60 := hide c60
        have H7 : Hid (w3.drew.cell? ⟨wr.heap.size + 1, 0, none⟩ = some (.int .i64 sl) ∧ w3.drew.cell? ⟨wr.heap.size + 1, 1, none⟩ = some (.int .i64 cn) ∧ w3.drew.cell? ⟨w.heap.size, cn, none⟩ = some (.int .i64 un) ∧ (Instr.lookup 201 (.map (some (w.heap.size + 1 + 1))) (.agg #[.int .i64 sl, .int .i64 cn]) false).run Try.prog w3.drew = .ok (.int .i64 ((cc : Int) + 1)) w3.drew) := ⟨by show w3.cell? _ = _; rw [cell_of_block HB3.out]; rfl, by show w3.cell? _ = _; rw [cell_of_block HB3.out]; rfl, HTG.out _ HW3.out.drew, by have h := HLOOK2.out _ (HM3.out.below (Below.refl _ _).drew); rw [Int.natCast_add] at h; exact h⟩
        clear f3 e2 e3 f2 c60
        go_wp2_with fail
        refine wp_region_noPanic ?_
        refine region_until 6 (fun w' => w'.cell? ⟨wr.heap.size + 1, 0, none⟩ = some (.int .i64 sl) ∧ w'.cell? ⟨wr.heap.size + 1, 1, none⟩ = some (.int .i64 cn) ∧ (Instr.lookup 201 (.map (some (w.heap.size + 1 + 1))) (.agg #[.int .i64 sl, .int .i64 cn]) false).run Try.prog w' = .ok (.int .i64 cc) w') (by kernel_rfl) (⟨by rw [cell_of_block (w := ((wr.alloc (.cells #[.int .i64 sl, .int .i64 sg, .int .i64 o, .int .i64 d, .int .i64 a, .int .i64 b, .int .i64 ar, .int .i64 sp, .int .i64 pl, .int .i64 nn] 91)).alloc (.cells #[.int .i64 sl, .int .i64 cn] 203)).drew.drew) HBY.out]; rfl, by rw [cell_of_block (w := ((wr.alloc (.cells #[.int .i64 sl, .int .i64 sg, .int .i64 o, .int .i64 d, .int .i64 a, .int .i64 b, .int .i64 ar, .int .i64 sp, .int .i64 pl, .int .i64 nn] 91)).alloc (.cells #[.int .i64 sl, .int .i64 cn] 203)).drew.drew) HBY.out]; rfl, HLOOK.out _ HY.out⟩) (fun hHeld => ?_)
        refine utk (i := 0) rfl hHeld ?_
        try simp only [Act.put, List.setIfInBounds_toArray, List.set_cons_zero, List.set_cons_succ]
        refine utk (i := 1) rfl hHeld ?_
        try simp only [Act.put, List.setIfInBounds_toArray, List.set_cons_zero, List.set_cons_succ]
        refine utk (i := 2) rfl hHeld ?_
        try simp only [Act.put, List.setIfInBounds_toArray, List.set_cons_zero, List.set_cons_succ]
        refine utk (i := 3) rfl hHeld ?_
        try simp only [Act.put, List.setIfInBounds_toArray, List.set_cons_zero, List.set_cons_succ]
        refine until_one (i := 4) rfl (by kernel_rfl) (fun K hK => ?_)
        go_simp
        refine hK.out _ _ (.inr H60.out) ?_
        clear hK K hHeld
        try simp only [Act.put, List.setIfInBounds_toArray, List.set_cons_zero, List.set_cons_succ]
        have hHeld := H60.out
        refine utk (i := 5) rfl hHeld ?_
        try simp only [Act.put, List.setIfInBounds_toArray, List.set_cons_zero, List.set_cons_succ]
        refine until_one (i := 6) rfl (by kernel_rfl) (fun K hK => ?_)
        go_simp
        refine hK.out _ _ (.inl rfl) ?_
        clear hK K hHeld
        try simp only [Act.put, List.setIfInBounds_toArray, List.set_cons_zero, List.set_cons_succ]
        refine until_done (by kernel_rfl) ?_ _
        refine NoPanic.normal ?_
        clear e1 f1
        by_cases hgt : un < (cc : Int) + 1
        · have hgt2 : decide (un < (cc : Int) + 1) = true := decide_eq_true hgt
          have HF : Hid (unitsP ⟨p0, p1, p2, q0, q1, q2, r⟩ ops = false) := allN_false hkl (decide_eq_false (by rw [HXK.out, HSO.out, HUN.out]; omega))
          go_wp2_with fail
          refine wp_region_noPanic ?_
          refine region_until 99 (fun w' => w'.cell? ⟨wr.heap.size + 1, 0, none⟩ = some (.int .i64 sl) ∧ w'.cell? ⟨wr.heap.size + 1, 1, none⟩ = some (.int .i64 cn) ∧ w'.cell? ⟨w.heap.size, cn, none⟩ = some (.int .i64 un) ∧ (Instr.lookup 201 (.map (some (w.heap.size + 1 + 1))) (.agg #[.int .i64 sl, .int .i64 cn]) false).run Try.prog w' = .ok (.int .i64 (cc + 1)) w') (by kernel_rfl) H7.out (fun hHeld => ?_)
          refine utk (i := 0) rfl hHeld ?_
          try simp only [Act.put, List.setIfInBounds_toArray, List.set_cons_zero, List.set_cons_succ]
          refine utk (i := 1) rfl hHeld ?_
          try simp only [Act.put, List.setIfInBounds_toArray, List.set_cons_zero, List.set_cons_succ]
          refine utk (i := 2) rfl hHeld ?_
          try simp only [Act.put, List.setIfInBounds_toArray, List.set_cons_zero, List.set_cons_succ]
          refine utk (i := 3) rfl hHeld ?_
          try simp only [Act.put, List.setIfInBounds_toArray, List.set_cons_zero, List.set_cons_succ]
          refine utk (i := 4) rfl hHeld ?_
          try simp only [Act.put, List.setIfInBounds_toArray, List.set_cons_zero, List.set_cons_succ]
          refine utk (i := 5) rfl hHeld ?_
          try simp only [Act.put, List.setIfInBounds_toArray, List.set_cons_zero, List.set_cons_succ]
          refine utk (i := 6) rfl hHeld ?_
          try simp only [Act.put, List.setIfInBounds_toArray, List.set_cons_zero, List.set_cons_succ]
          refine utk (i := 7) rfl hHeld ?_
          try simp only [Act.put, List.setIfInBounds_toArray, List.set_cons_zero, List.set_cons_succ]
          refine utk (i := 8) rfl hHeld ?_
          try simp only [Act.put, List.setIfInBounds_toArray, List.set_cons_zero, List.set_cons_succ]
          refine until_done (by kernel_rfl) ?_ _
          refine NoPanic.normal ?_
          go_wp2_with fail
          go_ret
          exact ⟨ret_bool HF.out.symm, HBW.out.trans ((HW3.out.drew).mono (by omega))⟩
        · have hgt2 : decide (un < (cc : Int) + 1) = false := decide_eq_false hgt
          have HT : Hid (decide ((soFar ops k : Int) ≤ unitsT ⟨p0, p1, p2, q0, q1, q2, r⟩ (clsv (opAt ops k).o)) = true) := decide_eq_true (by rw [HXK.out, HSO.out, HUN.out]; omega)
          go_wp2_with fail
          refine wp_region_noPanic ?_
          refine region_until 99 (fun w' => w'.cell? ⟨wr.heap.size + 1, 0, none⟩ = some (.int .i64 sl) ∧ w'.cell? ⟨wr.heap.size + 1, 1, none⟩ = some (.int .i64 cn) ∧ w'.cell? ⟨w.heap.size, cn, none⟩ = some (.int .i64 un) ∧ (Instr.lookup 201 (.map (some (w.heap.size + 1 + 1))) (.agg #[.int .i64 sl, .int .i64 cn]) false).run Try.prog w' = .ok (.int .i64 (cc + 1)) w') (by kernel_rfl) H7.out (fun hHeld => ?_)
          refine utk (i := 0) rfl hHeld ?_
          try simp only [Act.put, List.setIfInBounds_toArray, List.set_cons_zero, List.set_cons_succ]
          refine utk (i := 1) rfl hHeld ?_
          try simp only [Act.put, List.setIfInBounds_toArray, List.set_cons_zero, List.set_cons_succ]
          refine utk (i := 2) rfl hHeld ?_
          try simp only [Act.put, List.setIfInBounds_toArray, List.set_cons_zero, List.set_cons_succ]
          refine utk (i := 3) rfl hHeld ?_
          try simp only [Act.put, List.setIfInBounds_toArray, List.set_cons_zero, List.set_cons_succ]
          refine utk (i := 4) rfl hHeld ?_
          try simp only [Act.put, List.setIfInBounds_toArray, List.set_cons_zero, List.set_cons_succ]
          refine utk (i := 5) rfl hHeld ?_
          try simp only [Act.put, List.setIfInBounds_toArray, List.set_cons_zero, List.set_cons_succ]
          refine utk (i := 6) rfl hHeld ?_
          try simp only [Act.put, List.setIfInBounds_toArray, List.set_cons_zero, List.set_cons_succ]
          refine utk (i := 7) rfl hHeld ?_
          try simp only [Act.put, List.setIfInBounds_toArray, List.set_cons_zero, List.set_cons_succ]
          refine utk (i := 8) rfl hHeld ?_
          try simp only [Act.put, List.setIfInBounds_toArray, List.set_cons_zero, List.set_cons_succ]
          refine until_done (by kernel_rfl) ?_ _
          refine NoPanic.normal ?_
          go_wp2_with fail
          go_roundw
          case rel => exact ⟨k + 1, by omega, by go_num, allN_step HA.out HT.out, HB.out.trans HW3.out.drew, HM3.out.below (Below.refl _ _).drew⟩
          case measure => simp [intOf]; omega
    · have e : k = ops.length := by omega
      subst e
      have hki : ¬ (ops.length : Int) < (ops.length : Int) := by omega
      have HBW := hide hbw
      clear hbw hbel
      go_wp2_with fail
      go_ret
      exact ⟨ret_bool HA.out.symm, HBW.out⟩
end Go.Proofs.Ytbpaffkkphacdab
/- The contract of May: whether a kernel may be, by the program; nothing that was there is changed. -/
namespace Go.Proofs.Ytbpaffkkphacdab
open Go.RowKit Go.Joins
set_option linter.unusedVariables false
set_option linter.unusedSimpArgs false
set_option maxRecDepth 8192

theorem Try.i76 : (Try.prog.info? 76).map (fun i => (i.zero, i.size, i.bytes)) = some (some (.agg #[.int .i64 0, .int .i64 0, .int .i64 0, .int .i64 0, .int .i64 0, .int .i64 0, .int .i64 0, .int .i64 0, .int .i64 0]), 9, 72) := by kernel_rfl
/-- rows of statements, nine cells each -/
def flatS (l : List St) : List Value := l.flatMap fun x => (stCells x).toList
theorem flatS_snoc (l : List St) (x : St) : flatS l ++ (stCells x).toList = flatS (l ++ [x]) := by unfold flatS; simp
theorem flatS_get (l : List St) : ∀ i j, i < l.length → j < 9 → (flatS l)[i * 9 + j]? = (stCells (stAt l i))[j]? := by
  induction l with
  | nil => intro i c h; exact absurd h (Nat.not_lt_zero _)
  | cons d l ih =>
    intro i j h hj
    show ((stCells d).toList ++ flatS l)[i * 9 + j]? = _
    have h3 : (stCells d).toList.length = 9 := rfl
    cases i with
    | zero =>
      rw [List.getElem?_append_left (by omega), Nat.zero_mul, Nat.zero_add, Array.getElem?_toList]
      rfl
    | succ i =>
      rw [List.getElem?_append_right (by omega), h3, show (i + 1) * 9 + j - 9 = i * 9 + j from by omega, ih i j (by simpa using h) hj]
      rfl
theorem stmts_own {w : World} {base : Nat} {v : Value} {l : List St} (h : w.ownsRow base 76 9 v l.length (flatS l)) : Stmts w v l := by
  obtain ⟨hl, h⟩ := h
  rcases h with ⟨rfl, hn⟩ | ⟨g, cap, cur, rfl, hg, hb, hn, hm, hc, ht⟩
  · exact ⟨none, 0, by rw [hn], by omega, Nat.zero_le _, fun hp => by omega⟩
  · refine ⟨_, cap, rfl, hn, hm, fun _ => ⟨g, 0, rfl, (Array.getElem?_eq_some_iff.1 hb).1, fun i hi j hj => ?_⟩⟩
    rw [cell_of_block hb, ← flatS_get l i j hi hj, ← ht, List.getElem?_take, if_pos (by omega), Nat.zero_add]
    simp
theorem own_empty9 (w : World) (e : TypeId) (sz : Nat) : (w.alloc (.cells #[] e)).ownsRow w.heap.size e sz (.slice (some ⟨w.heap.size, 0, none⟩) 0 0) 0 [] := by
  refine ⟨by simp, .inr ⟨w.heap.size, 0, #[], rfl, Nat.le_refl _, ?_, Nat.le_refl _, Nat.zero_le _, by simp, by simp⟩⟩
  show (w.heap.push _)[w.heap.size]? = _
  simp
theorem body_snoc (l : List Kop) (k : Nat) (h : k < l.length) : bodyK (l.take (k + 1)) = bodyK (l.take k) ++ [stK (opAt l k)] := by
  have h1 : l[k]? = some (opAt l k) := by unfold opAt; rw [List.getD, List.getElem?_eq_getElem h]; rfl
  unfold bodyK
  rw [List.take_add_one, h1, List.map_append]
  rfl
theorem nine_at (w : World) (x : St) {B : Nat} (hB : w.heap.size = B) : ∀ (j : Nat) (u : Value), (stCells x).toList[j]? = some u → (w.alloc (.cells (stCells x) 76)).cell? ((⟨B, 0, none⟩ : Addr).add j) = some u := by
  subst hB
  intro j u hj
  have ha : (⟨w.heap.size, 0, none⟩ : Addr).add j = ⟨w.heap.size, j, none⟩ := by simp [Addr.add]; omega
  rw [ha, cell_of_block (new_block _ _ _)]
  simpa using hj
theorem nine_one {x : St} {u : Value} (h : u ∈ (stCells x).toList) : u.oneCell' = true := by
  unfold stCells at h
  simp at h
  rcases h with rfl | rfl | rfl | rfl | rfl | rfl | rfl | rfl | rfl <;> rfl

set_option maxHeartbeats 1000000 in
theorem kmay_long (p0 p1 p2 q0 q1 q2 r pc st : Int) (ops : List Kop) (ka : Option Addr) (kc : Nat) (la : Option Addr) (lc : Nat) (logs : List Int) (w : World) (hK : OpsV w (.slice ka ops.length kc) ops) (hLG : Ints w (.slice la logs.length lc) logs) (h : 16 < ops.length) : Calls Try.prog 117 #[.agg #[.int .i64 p0, .int .i64 p1, .int .i64 p2, .int .i64 q0, .int .i64 q1, .int .i64 q2, .int .i64 r], .agg #[.int .i64 pc, .int .i64 st, .slice ka ops.length kc], .slice la logs.length lc] w fun e w' => e = .returned (.bool false) ∧ Below w.heap.size w w' := by
  obtain ⟨ka', kc', hk1, hk2, hk3, hkc⟩ := hK
  injection hk1 with e1 e2 e3
  subst e1; subst e3
  unfold maxLen at hk3
  have hi : (16 : Int) < (ops.length : Int) := by omega
  clear hkc e2
  go_enter Try.func117, Try.ntmps117
  go_wp2_with fail
  go_ret
  exact ⟨rfl, below_alloc2 _ _ _⟩
set_option maxHeartbeats 1000000 in
theorem kmay_target (p0 p1 p2 q0 q1 q2 r pc st : Int) (ops : List Kop) (ka : Option Addr) (kc : Nat) (la : Option Addr) (lc : Nat) (logs : List Int) (w : World) (hK : OpsV w (.slice ka ops.length kc) ops) (hLG : Ints w (.slice la logs.length lc) logs) (h : ops.length ≤ 16) (ht : mayT ⟨p0, p1, p2, q0, q1, q2, r⟩ = false) : Calls Try.prog 117 #[.agg #[.int .i64 p0, .int .i64 p1, .int .i64 p2, .int .i64 q0, .int .i64 q1, .int .i64 q2, .int .i64 r], .agg #[.int .i64 pc, .int .i64 st, .slice ka ops.length kc], .slice la logs.length lc] w fun e w' => e = .returned (.bool false) ∧ Below w.heap.size w w' := by
  obtain ⟨ka', kc', hk1, hk2, hk3, hkc⟩ := hK
  injection hk1 with e1 e2 e3
  subst e1; subst e3
  unfold maxLen at hk3
  have hi : ¬ (16 : Int) < (ops.length : Int) := by omega
  have HT := hide (fun W => ht ▸ pmay_seven p0 p1 p2 q0 q1 q2 r W)
  clear hkc e2 ht
  go_enter Try.func117, Try.ntmps117
  go_wp2_with fail
  refine (HT.out _).mono ?_
  rintro e x1 ⟨rfl, hb⟩
  have HB := hide ((below_alloc2 w _ _).trans (hb.mono (by simp; omega)))
  clear hb HT
  go_wp2_with fail
  go_ret
  exact ⟨rfl, HB.out⟩
set_option maxHeartbeats 1000000 in
theorem kmay_time (p0 p1 p2 q0 q1 q2 r pc st : Int) (ops : List Kop) (ka : Option Addr) (kc : Nat) (la : Option Addr) (lc : Nat) (logs : List Int) (w : World) (hK : OpsV w (.slice ka ops.length kc) ops) (hLG : Ints w (.slice la logs.length lc) logs) (h : ops.length ≤ 16) (ht : mayT ⟨p0, p1, p2, q0, q1, q2, r⟩ = true) (hp : inR pc 1 200 = false ∨ (inR pc 1 200 = true ∧ inR st 1 1001 = false)) : Calls Try.prog 117 #[.agg #[.int .i64 p0, .int .i64 p1, .int .i64 p2, .int .i64 q0, .int .i64 q1, .int .i64 q2, .int .i64 r], .agg #[.int .i64 pc, .int .i64 st, .slice ka ops.length kc], .slice la logs.length lc] w fun e w' => e = .returned (.bool false) ∧ Below w.heap.size w w' := by
  obtain ⟨ka', kc', hk1, hk2, hk3, hkc⟩ := hK
  injection hk1 with e1 e2 e3
  subst e1; subst e3
  unfold maxLen at hk3
  have hi : ¬ (16 : Int) < (ops.length : Int) := by omega
  have HT := hide (fun W => ht ▸ pmay_seven p0 p1 p2 q0 q1 q2 r W)
  clear hkc e2 ht
  rcases hp with hp | ⟨hp, hs⟩
  all_goals
    go_enter Try.func117, Try.ntmps117
    go_wp2_with fail
    refine (HT.out _).mono ?_
    rintro e x1 ⟨rfl, hb⟩
    have HB := hide ((below_alloc2 w (.cells #[.int .i64 p0, .int .i64 p1, .int .i64 p2, .int .i64 q0, .int .i64 q1, .int .i64 q2, .int .i64 r] 28) (.cells #[.int .i64 pc, .int .i64 st, .slice ka ops.length kc] 40)).trans (hb.mono (by simp; omega)))
    have k0 : x1.cell? ⟨w.heap.size + 1, 0, none⟩ = some (.int .i64 pc) := by rw [bcell hb _ _ (by simp)]; go_simp
    have k1 : x1.cell? ⟨w.heap.size + 1, 1, none⟩ = some (.int .i64 st) := by rw [bcell hb _ _ (by simp)]; go_simp
    clear hb HT
    go_wp2_with (go_at_call 138; refine (pwithin_any _ _ _ _).mono ?_; rintro e w' ⟨rfl, hw'⟩; have hw' := hw'.symm; subst hw')
    go_ret
    exact ⟨rfl, HB.out⟩

set_option maxHeartbeats 8000000 in
theorem kmay_rest (p0 p1 p2 q0 q1 q2 r pc st : Int) (ops : List Kop) (ka : Option Addr) (kc : Nat) (la : Option Addr) (lc : Nat) (logs : List Int) (w : World) (hK : OpsV w (.slice ka ops.length kc) ops) (hLG : Ints w (.slice la logs.length lc) logs) (h16 : ops.length ≤ 16) (ht : mayT ⟨p0, p1, p2, q0, q1, q2, r⟩ = true) (hp : inR pc 1 200 = true) (hs : inR st 1 1001 = true) : Calls Try.prog 117 #[.agg #[.int .i64 p0, .int .i64 p1, .int .i64 p2, .int .i64 q0, .int .i64 q1, .int .i64 q2, .int .i64 r], .agg #[.int .i64 pc, .int .i64 st, .slice ka ops.length kc], .slice la logs.length lc] w fun e w' => e = .returned (.bool (allN (fun i => timeOk pc st (opAt ops i) && regsP r (opAt ops i)) ops.length && mayB ⟨logs, bodyK ops, []⟩ && unitsP ⟨p0, p1, p2, q0, q1, q2, r⟩ ops)) ∧ Below w.heap.size w w' := by
  have HKV := hide hK
  have HLV := hide hLG
  obtain ⟨ka', kc', hk1, hk2, hk3, hkc⟩ := hK
  injection hk1 with e1 e2 e3
  subst e1; subst e3
  unfold maxLen at hk3
  have hi16 : ¬ (16 : Int) < (ops.length : Int) := by omega
  obtain ⟨hp1, hp2⟩ := inR_iff.1 hp
  obtain ⟨hs1, hs2⟩ := inR_iff.1 hs
  have hr12 := (mayT_parts ht).2.2.2
  obtain ⟨hr1, hr2⟩ := hr12
  simp only at hr1 hr2
  obtain ⟨i0, hi, hz0, hz1, hz2⟩ := info_parts Try.i76
  have HT := hide (fun W => ht ▸ pmay_seven p0 p1 p2 q0 q1 q2 r W)
  have HTM : Hid (∀ x W, Calls Try.prog 139 #[.agg #[.int .i64 pc, .int .i64 st, .slice ka ops.length kc], .agg (kCells x)] W fun e w' => e = .returned (.bool (timeOk pc st x)) ∧ Below W.heap.size W w') := fun x W => timeMay_ten pc st _ x.sl x.sg x.o x.d x.a x.b x.ar x.sp x.pl x.nn W hp1 hp2 hs1 hs2
  have HRM : Hid (∀ x W, Calls Try.prog 140 #[.agg #[.int .i64 p0, .int .i64 p1, .int .i64 p2, .int .i64 q0, .int .i64 q1, .int .i64 q2, .int .i64 r], .agg (kCells x)] W fun e w' => e = .returned (.bool (regsP r x)) ∧ Below W.heap.size W w') := fun x W => registersMay_ten p0 p1 p2 q0 q1 q2 r x.sl x.sg x.o x.d x.a x.b x.ar x.sp x.pl x.nn W hr1 hr2
  have HKC := hide hkc
  clear hkc e2 ht
  go_enter Try.func117, Try.ntmps117
  go_wp2_with fail
  refine (HT.out _).mono ?_
  rintro e x1 ⟨rfl, hb⟩
  have HB := hide ((below_alloc2 w (.cells #[.int .i64 p0, .int .i64 p1, .int .i64 p2, .int .i64 q0, .int .i64 q1, .int .i64 q2, .int .i64 r] 28) (.cells #[.int .i64 pc, .int .i64 st, .slice ka ops.length kc] 40)).trans (hb.mono (by simp; omega)))
  have HBX : Hid (x1.heap[w.heap.size]? = some (.cells #[.int .i64 p0, .int .i64 p1, .int .i64 p2, .int .i64 q0, .int .i64 q1, .int .i64 q2, .int .i64 r] 28 (0, 0)) ∧ x1.heap[w.heap.size + 1]? = some (.cells #[.int .i64 pc, .int .i64 st, .slice ka ops.length kc] 40 (0, 0))) := by
    refine ⟨?_, ?_⟩
    · rw [hb.block _ (by simp; omega), Below.heap_alloc _ _ _ (by simp)]; exact new_block _ _ _
    · rw [hb.block _ (by simp)]
      have e : (w.alloc (.cells #[.int .i64 p0, .int .i64 p1, .int .i64 p2, .int .i64 q0, .int .i64 q1, .int .i64 q2, .int .i64 r] 28)).heap.size = w.heap.size + 1 := by simp
      rw [← e]; exact new_block _ _ _
  have k0 : x1.cell? ⟨w.heap.size + 1, 0, none⟩ = some (.int .i64 pc) := by rw [cell_of_block HBX.out.2]; rfl
  have k1 : x1.cell? ⟨w.heap.size + 1, 1, none⟩ = some (.int .i64 st) := by rw [cell_of_block HBX.out.2]; rfl
  have k2 : x1.cell? ⟨w.heap.size + 1, 2, none⟩ = some (.slice ka ops.length kc) := by rw [cell_of_block HBX.out.2]; rfl
  have hz : w.heap.size + 1 < x1.heap.size := by have := hb.size; simp at this; omega
  clear hb HT
  go_wp2_with (go_at_call 138; refine (pwithin_any _ _ _ _).mono ?_; rintro e w' ⟨rfl, hw'⟩; have hw' := hw'.symm; subst hw')
  go_loopw [7, 33] (fun bv i wr => ∃ k : Nat, k ≤ ops.length ∧ i = .int .i64 k ∧ allN (fun i => timeOk pc st (opAt ops i) && regsP r (opAt ops i)) k = true ∧ Below x1.heap.size x1 wr ∧ ∃ ba bc, bv = .slice ba k bc ∧ wr.ownsRow x1.heap.size 76 9 (.slice ba k bc) k (flatS (bodyK (ops.take k)))) (fun _ i _ => ops.length - (intOf i).toNat)
  case atStart => exact ⟨0, Nat.zero_le _, rfl, rfl, below_alloc1 _ _, _, 0, rfl, own_empty9 x1 76 9⟩
  case round =>
    clear k0 k1 k2
    obtain ⟨k, hk, rfl, hall, hbel, ba, bc, rfl, hown⟩ := hrel
    have HA := hide hall
    have HBL := hide hbel
    have HO := hide hown
    have hsz := hbel.size
    have HBW := hide (HB.out.trans (hbel.mono (by omega)))
    have HBX2 : Hid (wr.heap[w.heap.size]? = some (.cells #[.int .i64 p0, .int .i64 p1, .int .i64 p2, .int .i64 q0, .int .i64 q1, .int .i64 q2, .int .i64 r] 28 (0, 0)) ∧ wr.heap[w.heap.size + 1]? = some (.cells #[.int .i64 pc, .int .i64 st, .slice ka ops.length kc] 40 (0, 0))) := ⟨by rw [hbel.block _ (by omega)]; exact HBX.out.1, by rw [hbel.block _ (by omega)]; exact HBX.out.2⟩
    clear hall hown hbel
    by_cases hkl : k < ops.length
    · have hki : (k : Int) < (ops.length : Int) := by omega
      obtain ⟨ob, oo, rfl, hob, hocell⟩ := HKC.out (by omega)
      obtain ⟨c0, c1, c2, c3, c4, c5, c6, c7, c8, c9⟩ := ten (hocell k hkl)
      rw [← bcell HBW.out _ _ hob] at c0 c1 c2 c3 c4 c5 c6 c7 c8 c9
      have hobz : ob < wr.heap.size := by have := HBW.out.size; omega
      have HSN := hide (body_snoc ops k hkl)
      have HSM := hide (statement_any (opAt ops k))
      have HTK := hide (HTM.out (opAt ops k))
      have HRK := hide (HRM.out (opAt ops k))
      have HNO : Hid (∀ b, (timeOk pc st (opAt ops k) && regsP r (opAt ops k)) = b → b = false → allN (fun i => timeOk pc st (opAt ops i) && regsP r (opAt ops i)) ops.length = false) := fun b h1 h2 => allN_false hkl (h1.trans h2)
      have HYES : Hid ((timeOk pc st (opAt ops k) && regsP r (opAt ops k)) = true → allN (fun i => timeOk pc st (opAt ops i) && regsP r (opAt ops i)) (k + 1) = true) := fun h => allN_step HA.out h
      clear hocell
      obtain ⟨xk, hxk⟩ : ∃ xk, opAt ops k = xk := ⟨_, rfl⟩
      rw [hxk] at c0 c1 c2 c3 c4 c5 c6 c7 c8 c9 HSN HSM HTK HRK HNO HYES
      clear hxk
      obtain ⟨vT, hvT⟩ : ∃ b, timeOk pc st xk = b := ⟨_, rfl⟩
      obtain ⟨vR, hvR⟩ : ∃ b, regsP r xk = b := ⟨_, rfl⟩
      rw [hvT] at HTK HNO HYES
      rw [hvR] at HRK HNO HYES
      have HST : Hid (∃ z, stK xk = z) := ⟨_, rfl⟩
      obtain ⟨zk, hzk⟩ := HST.out
      rw [hzk] at HSM HSN
      clear hvT hvR hzk HST
      obtain ⟨sl, sg, o, d, a, b, ar, sp, pl, nn⟩ := xk
      obtain ⟨z0, z1, z2, z3, z4, z5, z6, z7, z8⟩ := zk
      simp only at c0 c1 c2 c3 c4 c5 c6 c7 c8 c9
      have HSM2 : Hid (∀ W, Calls Try.prog 141 #[.agg #[.int .i64 sl, .int .i64 sg, .int .i64 o, .int .i64 d, .int .i64 a, .int .i64 b, .int .i64 ar, .int .i64 sp, .int .i64 pl, .int .i64 nn]] W fun e w' => e = .returned (.agg #[.int .i64 z0, .int .i64 z1, .int .i64 z2, .int .i64 z3, .int .i64 z4, .int .i64 z5, .int .i64 z6, .int .i64 z7, .int .i64 z8]) ∧ Below W.heap.size W w') := HSM.out
      have b0 := cell_of_block HBX2.out.1
      have b1 := cell_of_block HBX2.out.2
      have t0 : wr.cell? ⟨w.heap.size, 0, none⟩ = some (.int .i64 p0) := by rw [b0]; rfl
      have t1 : wr.cell? ⟨w.heap.size, 1, none⟩ = some (.int .i64 p1) := by rw [b0]; rfl
      have t2 : wr.cell? ⟨w.heap.size, 2, none⟩ = some (.int .i64 p2) := by rw [b0]; rfl
      have t3 : wr.cell? ⟨w.heap.size, 3, none⟩ = some (.int .i64 q0) := by rw [b0]; rfl
      have t4 : wr.cell? ⟨w.heap.size, 4, none⟩ = some (.int .i64 q1) := by rw [b0]; rfl
      have t5 : wr.cell? ⟨w.heap.size, 5, none⟩ = some (.int .i64 q2) := by rw [b0]; rfl
      have t6 : wr.cell? ⟨w.heap.size, 6, none⟩ = some (.int .i64 r) := by rw [b0]; rfl
      have k0 : wr.cell? ⟨w.heap.size + 1, 0, none⟩ = some (.int .i64 pc) := by rw [b1]; rfl
      have k1 : wr.cell? ⟨w.heap.size + 1, 1, none⟩ = some (.int .i64 st) := by rw [b1]; rfl
      have k2 : wr.cell? ⟨w.heap.size + 1, 2, none⟩ = some (.slice (some ⟨ob, oo, none⟩) ops.length kc) := by rw [b1]; rfl
      have hzw : w.heap.size + 1 < wr.heap.size := by omega
      have hzw0 : w.heap.size < wr.heap.size := by omega
      clear b0 b1
      go_wp2_with fail
      refine (HTK.out _).mono ?_
      rintro e x2 ⟨rfl, hb2⟩
      have hc2 := bcell hb2
      have HX2 := hide ((below_alloc1 wr (.cells #[.int .i64 sl, .int .i64 sg, .int .i64 o, .int .i64 d, .int .i64 a, .int .i64 b, .int .i64 ar, .int .i64 sp, .int .i64 pl, .int .i64 nn] 91)).trans (hb2.mono (by simp)))
      have hx2 := op_box (show x2.heap[wr.heap.size]? = some (.cells #[.int .i64 sl, .int .i64 sg, .int .i64 o, .int .i64 d, .int .i64 a, .int .i64 b, .int .i64 ar, .int .i64 sp, .int .i64 pl, .int .i64 nn] 91 (0, 0)) by rw [hb2.block _ (by simp)]; exact new_block _ _ _)
      have hzx2 : wr.heap.size < x2.heap.size := by have := hb2.size; simp at this; omega
      have hc3 := bcell HX2.out
      rw [← hc3 _ _ hzw0] at t0 t1 t2 t3 t4 t5 t6
      clear hb2 hc2 hc3 c0 c1 c2 c3 c4 c5 c6 c7 c8 c9 k0 k1 k2
      cases vT with
      | false =>
        have HF := hide (HNO.out _ rfl rfl)
        go_wp2_with fail
        go_ret
        refine ⟨ret_bool ?_, HBW.out.trans (HX2.out.mono HBW.out.size)⟩
        rw [HF.out]; rfl
      | true =>
        obtain ⟨x20, x21, x22, x23, x24, x25, x26, x27, x28, x29⟩ := hx2
        go_wp2_with fail
        refine (HRK.out _).mono ?_
        rintro e x3 ⟨rfl, hb3⟩
        have HX3 := hide (HX2.out.trans (hb3.mono HX2.out.size))
        have hc3 := bcell hb3
        rw [← hc3 _ _ hzx2] at x20 x21 x22 x23 x24 x25 x26 x27 x28 x29
        have hz3 : wr.heap.size < x3.heap.size := by have := hb3.size; omega
        clear hb3 hc3 t0 t1 t2 t3 t4 t5 t6
        cases vR with
        | false =>
          have HF := hide (HNO.out _ rfl rfl)
          go_wp2_with fail
          go_ret
          refine ⟨ret_bool ?_, HBW.out.trans (HX3.out.mono HBW.out.size)⟩
          rw [HF.out]; rfl
        | true =>
          have HY := hide (HYES.out rfl)
          go_wp2_with fail
          refine (HSM2.out _).mono ?_
          rintro e x4 ⟨rfl, hb4⟩
          have HX4 := hide (HX3.out.trans (hb4.mono HX3.out.size))
          have HO4 := hide (own_below HO.out (HX4.out.alloc HX4.out.size (.cells #[.int .i64 z0, .int .i64 z1, .int .i64 z2, .int .i64 z3, .int .i64 z4, .int .i64 z5, .int .i64 z6, .int .i64 z7, .int .i64 z8] 76)))
          have hz4 : x1.heap.size ≤ x4.heap.size := by have := HX4.out.size; omega
          clear hb4
          go_wp2_with (at_builtin; refine wpList_append_own _ rfl (.tmp 47) (.tmp 50) 23 rfl x1.heap.size 76 i0 (.agg #[.int .i64 0, .int .i64 0, .int .i64 0, .int .i64 0, .int .i64 0, .int .i64 0, .int .i64 0, .int .i64 0, .int .i64 0]) 9 72 Try.underlying23 hi hz0 hz1 hz2 rfl (by decide) _ _ _ rfl HO4.out ⟨x4.heap.size, 0, none⟩ 1 1 (stCells ⟨z0, z1, z2, z3, z4, z5, z6, z7, z8⟩).toList rfl rfl (by exact nine_at x4 ⟨z0, z1, z2, z3, z4, z5, z6, z7, z8⟩ rfl) (by intro u hu; exact nine_one hu) (by unfold maxLen; omega) (by omega) (by simp; omega) ?_; intro v1 w5 hown1 hgrow1 hnil1; obtain ⟨ba2, bc2, rfl, -, -⟩ := ownz_shape hown1; have HO5 := hide hown1; have HG5 := hide hgrow1; clear hown1 hgrow1 hnil1)
          go_roundw
          case rel =>
            refine ⟨k + 1, by omega, by go_num, HY.out, ?_, ba2, bc2, rfl, ?_⟩
            · exact ((HBL.out.trans (HX4.out.mono hsz)).alloc (by omega) _).grown HG5.out (by simp; omega) (ownz_block_ge HO.out)
            · rw [HSN.out, ← flatS_snoc]; exact HO5.out
          case measure => simp [intOf]; omega
    · have e : k = ops.length := by omega
      subst e
      rw [List.take_length] at HO
      have hki : ¬ (ops.length : Int) < (ops.length : Int) := by omega
      have HLW : Hid (LoopV wr (.agg #[.slice la logs.length lc, .slice ba ops.length bc, .slice none 0 0]) ⟨logs, bodyK ops, []⟩) := by
        refine ⟨_, _, _, rfl, HLV.out.below HBW.out, ?_, none, 0, rfl, Nat.le_refl _, Nat.zero_le _, fun i hi => absurd hi (Nat.not_lt_zero _), fun hp => absurd hp (Nat.not_lt_zero _)⟩
        have h := HO.out
        rw [← bodyK_len ops] at h ⊢
        exact stmts_own h
      have HSLO : Hid (∀ x ∈ ops, 0 ≤ x.sl ∧ x.sl ≤ 1000) := fun x hx => by
        obtain ⟨i, hi, rfl⟩ := List.mem_iff_getElem.1 hx
        have h := allN_get HA.out i hi
        have e : opAt ops i = ops[i] := by unfold opAt; rw [List.getD, List.getElem?_eq_getElem hi]; rfl
        rw [e] at h
        simp only [Bool.and_eq_true] at h
        have h1 := h.1
        unfold timeOk at h1
        simp only [Bool.and_eq_true] at h1
        have h2 := inR_iff.1 h1.1.1
        omega
      have b0 := cell_of_block HBX2.out.1
      have b1 := cell_of_block HBX2.out.2
      have t0 : wr.cell? ⟨w.heap.size, 0, none⟩ = some (.int .i64 p0) := by rw [b0]; rfl
      have t1 : wr.cell? ⟨w.heap.size, 1, none⟩ = some (.int .i64 p1) := by rw [b0]; rfl
      have t2 : wr.cell? ⟨w.heap.size, 2, none⟩ = some (.int .i64 p2) := by rw [b0]; rfl
      have t3 : wr.cell? ⟨w.heap.size, 3, none⟩ = some (.int .i64 q0) := by rw [b0]; rfl
      have t4 : wr.cell? ⟨w.heap.size, 4, none⟩ = some (.int .i64 q1) := by rw [b0]; rfl
      have t5 : wr.cell? ⟨w.heap.size, 5, none⟩ = some (.int .i64 q2) := by rw [b0]; rfl
      have t6 : wr.cell? ⟨w.heap.size, 6, none⟩ = some (.int .i64 r) := by rw [b0]; rfl
      have k0 : wr.cell? ⟨w.heap.size + 1, 0, none⟩ = some (.int .i64 pc) := by rw [b1]; rfl
      have k1 : wr.cell? ⟨w.heap.size + 1, 1, none⟩ = some (.int .i64 st) := by rw [b1]; rfl
      have k2 : wr.cell? ⟨w.heap.size + 1, 2, none⟩ = some (.slice ka ops.length kc) := by rw [b1]; rfl
      have hzw : w.heap.size + 1 < wr.heap.size := by omega
      have hzw0 : w.heap.size < wr.heap.size := by omega
      obtain ⟨vM, hvM⟩ : ∃ b, mayB ⟨logs, bodyK ops, []⟩ = b := ⟨_, rfl⟩
      obtain ⟨vU, hvU⟩ : ∃ b, unitsP ⟨p0, p1, p2, q0, q1, q2, r⟩ ops = b := ⟨_, rfl⟩
      have HLM : Hid (Calls Try.prog 59 #[.agg #[.slice la logs.length lc, .slice ba ops.length bc, .slice none 0 0]] wr fun e w' => e = .returned (.bool vM) ∧ Below wr.heap.size wr w') := by
        show Calls _ _ _ _ _
        rw [← hvM]
        exact may_any _ _ wr HLW.out
      have HUM : Hid (∀ x, Below wr.heap.size wr x → Calls Try.prog 142 #[.agg #[.int .i64 p0, .int .i64 p1, .int .i64 p2, .int .i64 q0, .int .i64 q1, .int .i64 q2, .int .i64 r], .agg #[.int .i64 pc, .int .i64 st, .slice ka ops.length kc]] x fun e w' => e = .returned (.bool vU) ∧ Below x.heap.size x w') := fun x hx => by
        rw [← hvU]
        exact units_any p0 p1 p2 q0 q1 q2 r pc st ops ka kc x (HKV.out.below (HBW.out.trans (hx.mono HBW.out.size))) h16 HSLO.out
      have HFIN : Hid ((allN (fun i => timeOk pc st (opAt ops i) && regsP r (opAt ops i)) ops.length && mayB ⟨logs, bodyK ops, []⟩ && unitsP ⟨p0, p1, p2, q0, q1, q2, r⟩ ops) = (vM && vU)) := by show _ = _; rw [HA.out, hvM, hvU]; rfl
      clear b0 b1 hvM hvU
      cases vM with
      | false =>
        go_wp2_with fail
        refine HLM.out.mono ?_
        rintro e x2 ⟨rfl, hb2⟩
        have HX2 := hide (HBW.out.trans (hb2.mono HBW.out.size))
        clear hb2
        go_wp2_with fail
        go_ret
        exact ⟨ret_bool (by rw [HFIN.out]; rfl), HX2.out⟩
      | true =>
        go_wp2_with fail
        refine HLM.out.mono ?_
        rintro e x2 ⟨rfl, hb2⟩
        have HX2 := hide (HBW.out.trans (hb2.mono HBW.out.size))
        have HU2 := hide (HUM.out x2 hb2)
        have hc2 := bcell hb2
        rw [← hc2 _ _ hzw0] at t0 t1 t2 t3 t4 t5 t6
        rw [← hc2 _ _ hzw] at k0 k1 k2
        clear hb2 hc2
        go_wp2_with fail
        refine HU2.out.mono ?_
        rintro e x3 ⟨rfl, hb3⟩
        have HX3 := hide (HX2.out.trans (hb3.mono HX2.out.size))
        clear hb3
        go_wp2_with fail
        go_ret
        exact ⟨ret_bool (by rw [HFIN.out]; rfl), HX3.out⟩
theorem kernelMay (t : Tg) (kv : Value) (K : Kn) (la : Option Addr) (lc : Nat) (logs : List Int) (w : World) (hK : KernV w kv K) (hL : Ints w (.slice la logs.length lc) logs) :
    Calls Try.prog 117 #[.agg t.cells, kv, .slice la logs.length lc] w fun e w' => e = .returned (.bool (mayK t K logs)) ∧ Below w.heap.size w w' := by
  obtain ⟨p0, p1, p2, q0, q1, q2, r⟩ := t
  obtain ⟨pc, st, ops⟩ := K
  obtain ⟨ov, rfl, hO⟩ := hK
  have hO2 := hO
  obtain ⟨ka, kc, rfl, -⟩ := hO
  rw [← mayP_mayK]
  by_cases h16 : ops.length ≤ 16
  · cases ht : mayT ⟨p0, p1, p2, q0, q1, q2, r⟩ with
    | false =>
      have e : mayP ⟨p0, p1, p2, q0, q1, q2, r⟩ ⟨pc, st, ops⟩ logs = false := by unfold mayP; rw [ht]; simp
      rw [e]
      exact kmay_target p0 p1 p2 q0 q1 q2 r pc st ops ka kc la lc logs w hO2 hL h16 ht
    | true =>
      cases hp : inR pc 1 200 with
      | false =>
        have e : mayP ⟨p0, p1, p2, q0, q1, q2, r⟩ ⟨pc, st, ops⟩ logs = false := by unfold mayP; rw [show inR (Kn.pc ⟨pc, st, ops⟩) 1 200 = false from hp]; simp
        rw [e]
        exact kmay_time p0 p1 p2 q0 q1 q2 r pc st ops ka kc la lc logs w hO2 hL h16 ht (.inl hp)
      | true =>
        cases hs : inR st 1 1001 with
        | false =>
          have e : mayP ⟨p0, p1, p2, q0, q1, q2, r⟩ ⟨pc, st, ops⟩ logs = false := by unfold mayP; rw [show inR (Kn.st ⟨pc, st, ops⟩) 1 1001 = false from hs]; simp
          rw [e]
          exact kmay_time p0 p1 p2 q0 q1 q2 r pc st ops ka kc la lc logs w hO2 hL h16 ht (.inr ⟨hp, hs⟩)
        | true =>
          have e : mayP ⟨p0, p1, p2, q0, q1, q2, r⟩ ⟨pc, st, ops⟩ logs = (allN (fun i => timeOk pc st (opAt ops i) && regsP r (opAt ops i)) ops.length && mayB ⟨logs, bodyK ops, []⟩ && unitsP ⟨p0, p1, p2, q0, q1, q2, r⟩ ops) := by
            unfold mayP
            rw [ht, show inR (Kn.pc ⟨pc, st, ops⟩) 1 200 = true from hp, show inR (Kn.st ⟨pc, st, ops⟩) 1 1001 = true from hs, show decide ((Kn.ops ⟨pc, st, ops⟩).length ≤ 16) = true from decide_eq_true h16]
            rfl
          rw [e]
          exact kmay_rest p0 p1 p2 q0 q1 q2 r pc st ops ka kc la lc logs w hO2 hL h16 ht hp hs
  · have e : mayP ⟨p0, p1, p2, q0, q1, q2, r⟩ ⟨pc, st, ops⟩ logs = false := by unfold mayP; rw [show decide ((Kn.ops ⟨pc, st, ops⟩).length ≤ 16) = false from decide_eq_false h16]; simp
    rw [e]
    exact kmay_long p0 p1 p2 q0 q1 q2 r pc st ops ka kc la lc logs w hO2 hL (by omega)
end Go.Proofs.Ytbpaffkkphacdab
/- The contract of the Logs of arrays, by the program; nothing that was there is changed. -/
namespace Go.Proofs.Ytbpaffkkphacdab
open Go.RowKit Go.Joins
set_option linter.unusedVariables false
set_option linter.unusedSimpArgs false
set_option maxRecDepth 100000

/-- what is told of the Logs -/
def LogsP (w : World) (M : List (List Int)) (e : Ending) (w' : World) : Prop :=
  ∃ lv, e = .returned (.tuple #[lv, .bool (hasLogs M && decide (M.length ≤ 3))]) ∧ (hasLogs M = true → M.length ≤ 3 → w'.ownsRow w.heap.size 3 1 lv (logsOf M).length ((logsOf M).map (Value.int .i64))) ∧ (∃ la ll lc, lv = .slice la ll lc) ∧ Below w.heap.size w w'
theorem LogsP.no {w w' : World} {M : List (List Int)} (h : hasLogs M = false ∨ ¬ M.length ≤ 3) (hb : Below w.heap.size w w') : LogsP w M (.returned (.tuple #[.slice none 0 0, .bool false])) w' := by
  refine ⟨.slice none 0 0, ?_, fun e1 e2 => ?_, ⟨_, _, _, rfl⟩, hb⟩
  · rcases h with h | h
    · rw [h]; rfl
    · rw [decide_eq_false h, Bool.and_false]
  · rcases h with h | h
    · rw [h] at e1; cases e1
    · exact absurd e2 h
end Go.Proofs.Ytbpaffkkphacdab
/- How a run begins in memory, by the program: the machine, its registers, its words, row by row. -/
namespace Go.Proofs.Ytbpaffkkphacdab
open Go.RowKit Go.Joins
set_option linter.unusedVariables false
set_option linter.unusedSimpArgs false

variable {w0 : World} {A gr cr : Nat} {R : List Int} {t : Tg} {pc st : Int} {kv lv : Value} {logs : List Int} {turns : Int} {M : List (List Int)} {k : Nat} {mv : Value} {G C : Nat → Nat} {wr : World}
end Go.Proofs.Ytbpaffkkphacdab
/- The contracts of package kernel: May and Run answer as the document says. -/
namespace Go.Proofs.Ytbpaffkkphacdab
open Go.RowKit Go.Joins
set_option linter.unusedVariables false
set_option linter.unusedSimpArgs false
set_option maxRecDepth 8192

theorem kernelMay_all : MayC := fun t kv K la lc logs w h1 h2 => kernelMay t kv K la lc logs w h1 h2
/-- what Run is asked for -/
def RunP (w : World) (t : Tg) (K : Kn) (R : List Int) (M : List (List Int)) (turns : Int) (e : Ending) (w' : World) : Prop :=
  ∃ ra rc ma mc rl ml, e = .returned (.tuple #[.slice ra rl rc, .slice ma ml mc, .int .i64 (wrongK t K R.length M turns)]) ∧ Below w.heap.size w w' ∧
    (wrongK t K R.length M turns = 0 → Ints w' (.slice ra rl rc) (regsOf R.length (playK t K (logsOf M) turns R M)) ∧ IntRows w' (.slice ma ml mc) (wordsOf M (playK t K (logsOf M) turns R M))) ∧ (wrongK t K R.length M turns ≠ 0 → rl = 0 ∧ ml = 0)
theorem RunP.no {w w' : World} {t : Tg} {K : Kn} {R : List Int} {M : List (List Int)} {turns c : Int} (h : wrongK t K R.length M turns = c) (hc : c ≠ 0) (hb : Below w.heap.size w w') : RunP w t K R M turns (.returned (.tuple #[.slice none 0 0, .slice none 0 0, .int .i64 c])) w' :=
  ⟨none, 0, none, 0, 0, 0, by rw [h], hb, fun e => absurd (h.symm.trans e) hc, fun _ => ⟨rfl, rfl⟩⟩
end Go.Proofs.Ytbpaffkkphacdab
/- The contracts of package kernel: May and Run answer as the document says. -/
namespace Go.Proofs.Ytbpaffkkphacdab
open Go.RowKit Go.Joins
set_option linter.unusedVariables false
set_option linter.unusedSimpArgs false
set_option maxRecDepth 8192

end Go.Proofs.Ytbpaffkkphacdab
