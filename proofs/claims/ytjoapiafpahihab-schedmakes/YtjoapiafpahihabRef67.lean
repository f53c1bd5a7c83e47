/- Ref67: texts that are built as one: Ref6Edges, DepMay, Ref7Units, Ref7Rounds, Ref7Least, BoundSay. -/
import Derived.Test.YtjoapiafpahihabRef6Is
import Derived.Test.YtjoapiafpahihabRounds
import Derived.Test.YtjoapiafpahihabRef2L
import Derived.Test.YtjoapiafpahihabBase
import Derived.Deep.QuietTactic
import Derived.BigQuiet
/- The contract of the document's own edges: all that there are; nothing that was there is changed. -/
namespace Go.Proofs.Ytjoapiafpahihab
open Go.RowKit Go.Joins
set_option linter.unusedVariables false

theorem Try.i68 : (Try.prog.info? 68).map (fun i => (i.zero, i.size, i.bytes)) = some (some (.agg #[.int .i64 0, .int .i64 0, .int .i64 0, .int .i64 0]), 4, 32) := by kernel_rfl

theorem ebox_cells {w wr : World} {v0 v1 v2 : Value} {p0 p1 p2 q0 q1 q2 r : Int} {ta tb : TypeId} (h : Below (w.heap.size + 1 + 1) ((w.alloc (.cells #[v0, v1, v2] ta)).alloc (.cells #[.int .i64 p0, .int .i64 p1, .int .i64 p2, .int .i64 q0, .int .i64 q1, .int .i64 q2, .int .i64 r] tb)) wr) :
    (wr.cell? ⟨w.heap.size, 0, none⟩ = some v0 ∧ wr.cell? ⟨w.heap.size, 1, none⟩ = some v1 ∧ wr.cell? ⟨w.heap.size, 2, none⟩ = some v2) ∧
    (wr.cell? ⟨w.heap.size + 1, 0, none⟩ = some (.int .i64 p0) ∧ wr.cell? ⟨w.heap.size + 1, 1, none⟩ = some (.int .i64 p1) ∧ wr.cell? ⟨w.heap.size + 1, 2, none⟩ = some (.int .i64 p2) ∧ wr.cell? ⟨w.heap.size + 1, 3, none⟩ = some (.int .i64 q0) ∧ wr.cell? ⟨w.heap.size + 1, 4, none⟩ = some (.int .i64 q1) ∧ wr.cell? ⟨w.heap.size + 1, 5, none⟩ = some (.int .i64 q2) ∧ wr.cell? ⟨w.heap.size + 1, 6, none⟩ = some (.int .i64 r)) ∧ w.heap.size < wr.heap.size ∧ w.heap.size + 1 < wr.heap.size ∧ Below w.heap.size w wr := by
  have hs : ((w.alloc (.cells #[v0, v1, v2] ta)).alloc (.cells #[.int .i64 p0, .int .i64 p1, .int .i64 p2, .int .i64 q0, .int .i64 q1, .int .i64 q2, .int .i64 r] tb)).heap.size = w.heap.size + 1 + 1 := by simp
  have hz := h.size
  have h' : Below ((w.alloc (.cells #[v0, v1, v2] ta)).alloc (.cells #[.int .i64 p0, .int .i64 p1, .int .i64 p2, .int .i64 q0, .int .i64 q1, .int .i64 q2, .int .i64 r] tb)).heap.size ((w.alloc (.cells #[v0, v1, v2] ta)).alloc (.cells #[.int .i64 p0, .int .i64 p1, .int .i64 p2, .int .i64 q0, .int .i64 q1, .int .i64 q2, .int .i64 r] tb)) wr := by rw [hs]; exact h
  refine ⟨⟨?_, ?_, ?_⟩, ⟨?_, ?_, ?_, ?_, ?_, ?_, ?_⟩, by omega, by omega, (below_alloc2 w _ _).trans (h.mono (by omega))⟩
  all_goals rw [bcell h' _ _ (by omega)]
  all_goals go_simp
/-- one row behind the other: a name, so that no walk opens it -/
def catE (a b : List Ed) : List Ed := a ++ b
theorem catE_nil (a : List Ed) : catE a [] = a := List.append_nil a
theorem catE_len (a b : List Ed) : (catE a b).length = a.length + b.length := List.length_append
theorem wtD_yes {L : Lp} {t : Tg} {fr to bk k : Nat} (h : isD L t fr to bk k = true) : wtD L t fr to bk (k + 1) = wtD L t fr to bk k ++ [⟨fr, to, bk, k⟩] := if_pos h
theorem wtD_no {L : Lp} {t : Tg} {fr to bk k : Nat} (h : isD L t fr to bk k = false) : wtD L t fr to bk (k + 1) = wtD L t fr to bk k := if_neg (by rw [h]; exact Bool.false_ne_true)

set_option maxHeartbeats 4000000 in
set_option maxRecDepth 100000 in
theorem redges_walk (p0 p1 p2 q0 q1 q2 r : Int) (L : Lp) (a0 : Option Addr) (cap0 b off cap : Nat) (v2 : Value) (w : World) (hl0 : L.logs.length ≤ cap0) (hm0 : cap0 ≤ 9223372036854775807) (hl1 : L.body.length ≤ cap) (hm1 : cap ≤ 9223372036854775807) (hb : b < w.heap.size)
    (hbody : ∀ i, i < L.body.length → ∀ j, j < 9 → w.cell? ⟨b, off + i * 9 + j, none⟩ = (stCells (stAt L.body i))[j]?) (hlogs : Ints w (.slice a0 L.logs.length cap0) L.logs) (hm : mayB L = true) (hn16 : L.body.length ≤ 16) :
    Calls Try.prog 28 #[.agg #[.slice a0 L.logs.length cap0, .slice (some ⟨b, off, none⟩) L.body.length cap, v2], .agg #[.int .i64 p0, .int .i64 p1, .int .i64 p2, .int .i64 q0, .int .i64 q1, .int .i64 q2, .int .i64 r]] w fun e w' => ∃ ev, e = .returned ev ∧ w'.ownsRow (w.heap.size + 1 + 1) 68 4 ev (edgesD L ⟨p0, p1, p2, q0, q1, q2, r⟩).length (flatE (edgesD L ⟨p0, p1, p2, q0, q1, q2, r⟩)) ∧ Below w.heap.size w w' := by
  have HBODY := hide hbody
  have HLOGS := hide hlogs
  have HM := hide hm
  clear hbody hlogs hm
  obtain ⟨j0, ji, jz0, jz1, jz2⟩ := info_parts Try.i68
  go_enter Try.func28, Try.ntmps28
  go_wp2_with fail
  go_loopw [5, 6] (fun ov iv wr => ∃ f : Nat, f ≤ L.body.length ∧ iv = .int .i64 f ∧ ∃ oa oc, ov = .slice oa (frD L ⟨p0, p1, p2, q0, q1, q2, r⟩ f).length oc ∧ wr.ownsRow (w.heap.size + 1 + 1) 68 4 (.slice oa (frD L ⟨p0, p1, p2, q0, q1, q2, r⟩ f).length oc) (frD L ⟨p0, p1, p2, q0, q1, q2, r⟩ f).length (flatE (frD L ⟨p0, p1, p2, q0, q1, q2, r⟩ f)) ∧ Below (w.heap.size + 1 + 1) ((w.alloc (.cells #[.slice a0 L.logs.length cap0, .slice (some ⟨b, off, none⟩) L.body.length cap, v2] 25)).alloc (.cells #[.int .i64 p0, .int .i64 p1, .int .i64 p2, .int .i64 q0, .int .i64 q1, .int .i64 q2, .int .i64 r] 28)) wr) (fun _ iv _ => L.body.length - (intOf iv).toNat)
  case atStart => exact ⟨0, Nat.zero_le _, rfl, none, 0, rfl, World.ownsRow_nil _ _ _ _, Below.refl _ _⟩
  case round =>
    obtain ⟨f, hf, rfl, oa, oc, rfl, hown, hbel⟩ := hrel
    have HO := hide hown
    have HB := hide hbel
    have hz := hbel.size
    have hs : ((w.alloc (.cells #[.slice a0 L.logs.length cap0, .slice (some ⟨b, off, none⟩) L.body.length cap, v2] 25)).alloc (.cells #[.int .i64 p0, .int .i64 p1, .int .i64 p2, .int .i64 q0, .int .i64 q1, .int .i64 q2, .int .i64 r] 28)).heap.size = w.heap.size + 1 + 1 := by simp
    obtain ⟨⟨l0, l1, l2⟩, ⟨t0, t1, t2, t3, t4, t5, t6⟩, z0, z1, hbw⟩ := ebox_cells hbel
    have HW := hide hbw
    clear hown hbel hbw hz hs
    by_cases hfl : f < L.body.length
    · have hfi : (f : Int) < (L.body.length : Int) := by omega
      go_wp2_with fail
      clear l0 l1 l2 t0 t1 t2 t3 t4 t5 t6 z0 z1
      go_loopw [5, 7] (fun ov iv wr => ∃ t : Nat, t ≤ L.body.length ∧ iv = .int .i64 t ∧ ∃ oa oc, ov = .slice oa (catE (frD L ⟨p0, p1, p2, q0, q1, q2, r⟩ f) (toD L ⟨p0, p1, p2, q0, q1, q2, r⟩ f t)).length oc ∧ wr.ownsRow (w.heap.size + 1 + 1) 68 4 (.slice oa (catE (frD L ⟨p0, p1, p2, q0, q1, q2, r⟩ f) (toD L ⟨p0, p1, p2, q0, q1, q2, r⟩ f t)).length oc) (catE (frD L ⟨p0, p1, p2, q0, q1, q2, r⟩ f) (toD L ⟨p0, p1, p2, q0, q1, q2, r⟩ f t)).length (flatE (catE (frD L ⟨p0, p1, p2, q0, q1, q2, r⟩ f) (toD L ⟨p0, p1, p2, q0, q1, q2, r⟩ f t))) ∧ Below (w.heap.size + 1 + 1) ((w.alloc (.cells #[.slice a0 L.logs.length cap0, .slice (some ⟨b, off, none⟩) L.body.length cap, v2] 25)).alloc (.cells #[.int .i64 p0, .int .i64 p1, .int .i64 p2, .int .i64 q0, .int .i64 q1, .int .i64 q2, .int .i64 r] 28)) wr) (fun _ iv _ => L.body.length - (intOf iv).toNat)
      case atStart => exact ⟨0, Nat.zero_le _, rfl, oa, oc, by show _ = Value.slice oa (catE (frD L ⟨p0, p1, p2, q0, q1, q2, r⟩ f) []).length oc; rw [catE_nil], by show wr.ownsRow _ _ _ (.slice oa (catE (frD L ⟨p0, p1, p2, q0, q1, q2, r⟩ f) []).length oc) (catE (frD L ⟨p0, p1, p2, q0, q1, q2, r⟩ f) []).length (flatE (catE (frD L ⟨p0, p1, p2, q0, q1, q2, r⟩ f) [])); rw [catE_nil]; exact HO.out, HB.out⟩
      case round =>
        clear HO HB HW
        obtain ⟨t, ht, rfl, oa, oc, rfl, hown, hbel⟩ := hrel
        have HO := hide hown
        have HB := hide hbel
        have hz := hbel.size
        have hs : ((w.alloc (.cells #[.slice a0 L.logs.length cap0, .slice (some ⟨b, off, none⟩) L.body.length cap, v2] 25)).alloc (.cells #[.int .i64 p0, .int .i64 p1, .int .i64 p2, .int .i64 q0, .int .i64 q1, .int .i64 q2, .int .i64 r] 28)).heap.size = w.heap.size + 1 + 1 := by simp
        obtain ⟨⟨l0, l1, l2⟩, ⟨t0, t1, t2, t3, t4, t5, t6⟩, z0, z1, hbw⟩ := ebox_cells hbel
        have HW := hide hbw
        clear hown hbel hbw hz hs
        by_cases htl : t < L.body.length
        · have hti : (t : Int) < (L.body.length : Int) := by omega
          go_wp2_with fail
          clear l0 l1 l2 t0 t1 t2 t3 t4 t5 t6 z0 z1
          go_loopw [5, 8] (fun ov iv wr => ∃ k : Nat, k ≤ 33 ∧ iv = .int .i64 k ∧ ∃ oa oc, ov = .slice oa (catE (catE (frD L ⟨p0, p1, p2, q0, q1, q2, r⟩ f) (toD L ⟨p0, p1, p2, q0, q1, q2, r⟩ f t)) (bkD L ⟨p0, p1, p2, q0, q1, q2, r⟩ f t k)).length oc ∧ wr.ownsRow (w.heap.size + 1 + 1) 68 4 (.slice oa (catE (catE (frD L ⟨p0, p1, p2, q0, q1, q2, r⟩ f) (toD L ⟨p0, p1, p2, q0, q1, q2, r⟩ f t)) (bkD L ⟨p0, p1, p2, q0, q1, q2, r⟩ f t k)).length oc) (catE (catE (frD L ⟨p0, p1, p2, q0, q1, q2, r⟩ f) (toD L ⟨p0, p1, p2, q0, q1, q2, r⟩ f t)) (bkD L ⟨p0, p1, p2, q0, q1, q2, r⟩ f t k)).length (flatE (catE (catE (frD L ⟨p0, p1, p2, q0, q1, q2, r⟩ f) (toD L ⟨p0, p1, p2, q0, q1, q2, r⟩ f t)) (bkD L ⟨p0, p1, p2, q0, q1, q2, r⟩ f t k))) ∧ Below (w.heap.size + 1 + 1) ((w.alloc (.cells #[.slice a0 L.logs.length cap0, .slice (some ⟨b, off, none⟩) L.body.length cap, v2] 25)).alloc (.cells #[.int .i64 p0, .int .i64 p1, .int .i64 p2, .int .i64 q0, .int .i64 q1, .int .i64 q2, .int .i64 r] 28)) wr) (fun _ iv _ => 33 - (intOf iv).toNat)
          case atStart => exact ⟨0, Nat.zero_le _, rfl, oa, oc, by show _ = Value.slice oa (catE (catE (frD L ⟨p0, p1, p2, q0, q1, q2, r⟩ f) (toD L ⟨p0, p1, p2, q0, q1, q2, r⟩ f t)) []).length oc; rw [catE_nil], by show wr.ownsRow _ _ _ (.slice oa (catE (catE (frD L ⟨p0, p1, p2, q0, q1, q2, r⟩ f) (toD L ⟨p0, p1, p2, q0, q1, q2, r⟩ f t)) []).length oc) (catE (catE (frD L ⟨p0, p1, p2, q0, q1, q2, r⟩ f) (toD L ⟨p0, p1, p2, q0, q1, q2, r⟩ f t)) []).length (flatE (catE (catE (frD L ⟨p0, p1, p2, q0, q1, q2, r⟩ f) (toD L ⟨p0, p1, p2, q0, q1, q2, r⟩ f t)) [])); rw [catE_nil]; exact HO.out, HB.out⟩
          case round =>
            clear HO HB HW
            obtain ⟨k, hk, rfl, oa, oc, rfl, hown, hbel⟩ := hrel
            have HO := hide hown
            have HB := hide hbel
            by_cases hkl : k < 33
            · have hki : (k : Int) ≤ 32 := by omega
              clear hown hbel
              go_wp2_with fail
              go_loopw [5, 9] (fun ov iv wr => ∃ x : Nat, x ≤ 7 ∧ iv = .int .i64 x ∧ ∃ oa oc, ov = .slice oa (catE (catE (catE (frD L ⟨p0, p1, p2, q0, q1, q2, r⟩ f) (toD L ⟨p0, p1, p2, q0, q1, q2, r⟩ f t)) (bkD L ⟨p0, p1, p2, q0, q1, q2, r⟩ f t k)) (wtD L ⟨p0, p1, p2, q0, q1, q2, r⟩ f t k x)).length oc ∧ wr.ownsRow (w.heap.size + 1 + 1) 68 4 (.slice oa (catE (catE (catE (frD L ⟨p0, p1, p2, q0, q1, q2, r⟩ f) (toD L ⟨p0, p1, p2, q0, q1, q2, r⟩ f t)) (bkD L ⟨p0, p1, p2, q0, q1, q2, r⟩ f t k)) (wtD L ⟨p0, p1, p2, q0, q1, q2, r⟩ f t k x)).length oc) (catE (catE (catE (frD L ⟨p0, p1, p2, q0, q1, q2, r⟩ f) (toD L ⟨p0, p1, p2, q0, q1, q2, r⟩ f t)) (bkD L ⟨p0, p1, p2, q0, q1, q2, r⟩ f t k)) (wtD L ⟨p0, p1, p2, q0, q1, q2, r⟩ f t k x)).length (flatE (catE (catE (catE (frD L ⟨p0, p1, p2, q0, q1, q2, r⟩ f) (toD L ⟨p0, p1, p2, q0, q1, q2, r⟩ f t)) (bkD L ⟨p0, p1, p2, q0, q1, q2, r⟩ f t k)) (wtD L ⟨p0, p1, p2, q0, q1, q2, r⟩ f t k x))) ∧ Below (w.heap.size + 1 + 1) ((w.alloc (.cells #[.slice a0 L.logs.length cap0, .slice (some ⟨b, off, none⟩) L.body.length cap, v2] 25)).alloc (.cells #[.int .i64 p0, .int .i64 p1, .int .i64 p2, .int .i64 q0, .int .i64 q1, .int .i64 q2, .int .i64 r] 28)) wr) (fun _ iv _ => 7 - (intOf iv).toNat)
              case atStart => exact ⟨0, Nat.zero_le _, rfl, oa, oc, by show _ = Value.slice oa (catE (catE (catE (frD L ⟨p0, p1, p2, q0, q1, q2, r⟩ f) (toD L ⟨p0, p1, p2, q0, q1, q2, r⟩ f t)) (bkD L ⟨p0, p1, p2, q0, q1, q2, r⟩ f t k)) []).length oc; rw [catE_nil], by show wr.ownsRow _ _ _ (.slice oa (catE (catE (catE (frD L ⟨p0, p1, p2, q0, q1, q2, r⟩ f) (toD L ⟨p0, p1, p2, q0, q1, q2, r⟩ f t)) (bkD L ⟨p0, p1, p2, q0, q1, q2, r⟩ f t k)) []).length oc) (catE (catE (catE (frD L ⟨p0, p1, p2, q0, q1, q2, r⟩ f) (toD L ⟨p0, p1, p2, q0, q1, q2, r⟩ f t)) (bkD L ⟨p0, p1, p2, q0, q1, q2, r⟩ f t k)) []).length (flatE (catE (catE (catE (frD L ⟨p0, p1, p2, q0, q1, q2, r⟩ f) (toD L ⟨p0, p1, p2, q0, q1, q2, r⟩ f t)) (bkD L ⟨p0, p1, p2, q0, q1, q2, r⟩ f t k)) [])); rw [catE_nil]; exact HO.out, HB.out⟩
              case round =>
                clear HO HB
                obtain ⟨x, hx, rfl, oa, oc, rfl, hown, hbel⟩ := hrel
                have HO := hide hown
                have HB := hide hbel
                have hz := hbel.size
                have hs : ((w.alloc (.cells #[.slice a0 L.logs.length cap0, .slice (some ⟨b, off, none⟩) L.body.length cap, v2] 25)).alloc (.cells #[.int .i64 p0, .int .i64 p1, .int .i64 p2, .int .i64 q0, .int .i64 q1, .int .i64 q2, .int .i64 r] 28)).heap.size = w.heap.size + 1 + 1 := by simp
                obtain ⟨⟨l0, l1, l2⟩, ⟨t0, t1, t2, t3, t4, t5, t6⟩, z0, z1, hbw⟩ := ebox_cells hbel
                have HW := hide hbw
                have hzw := hbw.size
                have hz2 : w.heap.size + 1 + 1 ≤ wr.heap.size := by omega
                clear hown hbel hbw hz hs
                by_cases hxl : x < 7
                · have hxi : (x : Int) ≤ 6 := by omega
                  have HLEN : Hid ((catE (catE (catE (frD L ⟨p0, p1, p2, q0, q1, q2, r⟩ f) (toD L ⟨p0, p1, p2, q0, q1, q2, r⟩ f t)) (bkD L ⟨p0, p1, p2, q0, q1, q2, r⟩ f t k)) (wtD L ⟨p0, p1, p2, q0, q1, q2, r⟩ f t k x)).length ≤ 60000) := by
                    show (catE (catE (catE (frD L ⟨p0, p1, p2, q0, q1, q2, r⟩ f) (toD L ⟨p0, p1, p2, q0, q1, q2, r⟩ f t)) (bkD L ⟨p0, p1, p2, q0, q1, q2, r⟩ f t k)) (wtD L ⟨p0, p1, p2, q0, q1, q2, r⟩ f t k x)).length ≤ 60000
                    have e1 := frD_len L ⟨p0, p1, p2, q0, q1, q2, r⟩ f hn16
                    have e2 := toD_len L ⟨p0, p1, p2, q0, q1, q2, r⟩ f t
                    have e3 := bkD_len L ⟨p0, p1, p2, q0, q1, q2, r⟩ f t k
                    have e4 := wtD_len L ⟨p0, p1, p2, q0, q1, q2, r⟩ f t k x
                    rw [catE_len, catE_len, catE_len]; omega
                  have hal : Below wr.heap.size wr (wr.alloc (.cells #[.int .i64 f, .int .i64 t, .int .i64 k, .int .i64 x] 68)) := below_alloc1 _ _
                  have hwe := HW.out.trans (hal.mono hzw)
                  have HIW := hide (is_walk p0 p1 p2 q0 q1 q2 r f t k x L a0 cap0 b off cap v2 (wr.alloc (.cells #[.int .i64 f, .int .i64 t, .int .i64 k, .int .i64 x] 68)) hl0 hm0 hl1 hm1 (by have := hwe.size; omega) (fun i hi j hj => by rw [bcell hwe _ _ hb]; exact HBODY.out i hi j hj) (HLOGS.out.below hwe) HM.out hfl htl (by omega) (by omega))
                  obtain ⟨ib, hib⟩ : ∃ ib, isD L ⟨p0, p1, p2, q0, q1, q2, r⟩ f t k x = ib := ⟨_, rfl⟩
                  rw [hib] at HIW
                  have HIB := hide hib
                  clear hib hal hwe
                  cases ib with
                  | false =>
                    go_wp2_with fail
                    refine HIW.out.mono ?_
                    rintro e x1 ⟨rfl, hb1⟩
                    have HX := hide ((below_alloc1 wr _).trans (hb1.mono (by simp)))
                    clear hb1
                    go_wp2_with fail
                    go_roundw
                    case rel => exact ⟨x + 1, by omega, by go_num, oa, oc, by rw [wtD_no HIB.out], by rw [wtD_no HIB.out]; exact own_below HO.out HX.out, HB.out.trans (HX.out.mono hz2)⟩
                    case measure => simp [intOf]; omega
                  | true =>
                    go_wp2_with fail
                    refine HIW.out.mono ?_
                    rintro e x1 ⟨rfl, hb1⟩
                    have HX := hide ((below_alloc1 wr _).trans (hb1.mono (by simp)))
                    have hc1 := bcell hb1
                    have hxz : wr.heap.size < x1.heap.size := by have := hb1.size; simp at this; omega
                    have HOX := hide (own_below HO.out HX.out)
                    have HBX := hide (HB.out.trans (HX.out.mono hz2))
                    clear hb1
                    go_wp2_with (at_builtin; refine wpList_append_own _ rfl (.tmp 42) (.tmp 44) 56 rfl (w.heap.size + 1 + 1) 68 j0 (.agg #[.int .i64 0, .int .i64 0, .int .i64 0, .int .i64 0]) 4 32 Try.underlying56 ji jz0 jz1 jz2 rfl (by decide) _ _ _ rfl (own_below HOX.out (below_alloc1 _ _)) ⟨x1.heap.size, 0, none⟩ 1 1 (edCells ⟨f, t, k, x⟩) rfl rfl (by exact four_cells _ _ _ _ _ _) (by intro u hu; unfold edCells at hu; simp at hu; rcases hu with rfl | rfl | rfl | rfl <;> rfl) (by unfold maxLen; have := HLEN.out; omega) (by have := HLEN.out; omega) (by simp; omega) ?_; intro v2' w2 hown2 hgrow2 hnil2; obtain ⟨oa2, oc2, rfl, hl1', hl2'⟩ := ownz_shape hown2; have HO2 := hide hown2; have HG2 := hide hgrow2; clear hown2 hgrow2)
                    go_roundw
                    case rel =>
                      have e1 : catE (catE (catE (frD L ⟨p0, p1, p2, q0, q1, q2, r⟩ f) (toD L ⟨p0, p1, p2, q0, q1, q2, r⟩ f t)) (bkD L ⟨p0, p1, p2, q0, q1, q2, r⟩ f t k)) (wtD L ⟨p0, p1, p2, q0, q1, q2, r⟩ f t k x) ++ [⟨f, t, k, x⟩] = catE (catE (catE (frD L ⟨p0, p1, p2, q0, q1, q2, r⟩ f) (toD L ⟨p0, p1, p2, q0, q1, q2, r⟩ f t)) (bkD L ⟨p0, p1, p2, q0, q1, q2, r⟩ f t k)) (wtD L ⟨p0, p1, p2, q0, q1, q2, r⟩ f t k (x + 1)) := by rw [wtD_yes HIB.out]; unfold catE; rw [List.append_assoc]
                      have e2 : (catE (catE (catE (frD L ⟨p0, p1, p2, q0, q1, q2, r⟩ f) (toD L ⟨p0, p1, p2, q0, q1, q2, r⟩ f t)) (bkD L ⟨p0, p1, p2, q0, q1, q2, r⟩ f t k)) (wtD L ⟨p0, p1, p2, q0, q1, q2, r⟩ f t k x)).length + 1 = (catE (catE (catE (frD L ⟨p0, p1, p2, q0, q1, q2, r⟩ f) (toD L ⟨p0, p1, p2, q0, q1, q2, r⟩ f t)) (bkD L ⟨p0, p1, p2, q0, q1, q2, r⟩ f t k)) (wtD L ⟨p0, p1, p2, q0, q1, q2, r⟩ f t k (x + 1))).length := by rw [← e1, List.length_append]; rfl
                      have h2 := HO2.out
                      rw [flatE_snoc, e1, e2] at h2
                      exact ⟨x + 1, by omega, by go_num, oa2, oc2, by rw [e2], h2, (HBX.out.alloc (by omega) _).grown HG2.out (by simp; omega) (ownz_block_ge HO.out)⟩
                    case measure => simp [intOf]; omega
                · have e : x = 7 := by omega
                  have hxi : ¬ (x : Int) ≤ 6 := by omega
                  have e1 : catE (catE (catE (frD L ⟨p0, p1, p2, q0, q1, q2, r⟩ f) (toD L ⟨p0, p1, p2, q0, q1, q2, r⟩ f t)) (bkD L ⟨p0, p1, p2, q0, q1, q2, r⟩ f t k)) (wtD L ⟨p0, p1, p2, q0, q1, q2, r⟩ f t k x) = catE (catE (frD L ⟨p0, p1, p2, q0, q1, q2, r⟩ f) (toD L ⟨p0, p1, p2, q0, q1, q2, r⟩ f t)) (bkD L ⟨p0, p1, p2, q0, q1, q2, r⟩ f t (k + 1)) := by rw [e]; unfold catE; rw [List.append_assoc]; rfl
                  have HE := hide e1
                  clear e1 e
                  go_wp2_with fail
                  go_roundw
                  case rel => exact ⟨k + 1, by omega, by go_num, oa, oc, by rw [HE.out], by have h := HO.out; rw [HE.out] at h; exact h, HB.out⟩
                  case measure => simp [intOf]; omega
            · have e : k = 33 := by omega
              have hki : ¬ (k : Int) ≤ 32 := by omega
              have e1 : catE (catE (frD L ⟨p0, p1, p2, q0, q1, q2, r⟩ f) (toD L ⟨p0, p1, p2, q0, q1, q2, r⟩ f t)) (bkD L ⟨p0, p1, p2, q0, q1, q2, r⟩ f t k) = catE (frD L ⟨p0, p1, p2, q0, q1, q2, r⟩ f) (toD L ⟨p0, p1, p2, q0, q1, q2, r⟩ f (t + 1)) := by rw [e]; unfold catE; rw [List.append_assoc]; rfl
              have HE := hide e1
              clear e1 e hown hbel
              go_wp2_with fail
              go_roundw
              case rel => exact ⟨t + 1, by omega, by go_num, oa, oc, by rw [HE.out], by have h := HO.out; rw [HE.out] at h; exact h, HB.out⟩
              case measure => simp [intOf]; omega
        · have e : t = L.body.length := by omega
          have hti : ¬ (t : Int) < (L.body.length : Int) := by omega
          have e1 : catE (frD L ⟨p0, p1, p2, q0, q1, q2, r⟩ f) (toD L ⟨p0, p1, p2, q0, q1, q2, r⟩ f t) = frD L ⟨p0, p1, p2, q0, q1, q2, r⟩ (f + 1) := by rw [e]; rfl
          have HE := hide e1
          clear e1 e
          go_wp2_with fail
          go_roundw
          case rel => exact ⟨f + 1, by omega, by go_num, oa, oc, by rw [HE.out], by have h := HO.out; rw [HE.out] at h; exact h, HB.out⟩
          case measure => simp [intOf]; omega
    · have e : f = L.body.length := by omega
      have hfi : ¬ (f : Int) < (L.body.length : Int) := by omega
      have e1 : frD L ⟨p0, p1, p2, q0, q1, q2, r⟩ f = edgesD L ⟨p0, p1, p2, q0, q1, q2, r⟩ := by rw [e]; rfl
      have HE := hide e1
      clear e1 e
      go_wp2_with fail
      go_ret
      exact ⟨_, rfl, by have h := HO.out; rw [HE.out] at h ⊢; exact h, HW.out⟩
end Go.Proofs.Ytjoapiafpahihab
/- The contracts of the document's own edges and of what may be, at loops and machines in memory; how the program tells edges (EdgesC). -/
namespace Go.Proofs.Ytjoapiafpahihab
open Go.RowKit Go.Joins
set_option linter.unusedVariables false

theorem redges_any (v : Value) (t : Tg) (L : Lp) (w : World) (hL : LoopV w v L) (hm : mayB L = true) :
    Calls Try.prog 28 #[v, .agg t.cells] w fun e w' => ∃ ev, e = .returned ev ∧ EdgesV w' ev (edgesD L t) ∧ Below w.heap.size w w' := by
  obtain ⟨m1, m2, m3, m4, m5, m6, m7⟩ := may_parts hm
  obtain ⟨v0, v1, v2, rfl, h0, ⟨a1, cap1, rfl, hl1, hm1, hc1⟩, h2⟩ := hL
  have h0' := h0
  obtain ⟨a0, cap0, rfl, hl0, hm0, -, -⟩ := h0'
  obtain ⟨b, off, rfl, hb, hcell⟩ := hc1 (by omega)
  unfold maxLen at hm0 hm1
  obtain ⟨p0, p1, p2, q0, q1, q2, r⟩ := t
  exact (redges_walk p0 p1 p2 q0 q1 q2 r L a0 cap0 b off cap1 v2 w hl0 (by omega) hl1 (by omega) hb hcell h0 hm m3).mono fun e w' ⟨ev, h1, h2, h3⟩ => ⟨ev, h1, EdgesV.of_own h2, h3⟩

set_option maxHeartbeats 400000 in
theorem rdmay_walk (p0 p1 p2 q0 q1 q2 r : Int) (L : Lp) (a0 a1 a2 : Option Addr) (cap0 cap1 cap2 : Nat) (w : World) (hL : LoopV w (.agg #[.slice a0 L.logs.length cap0, .slice a1 L.body.length cap1, .slice a2 L.outs.length cap2]) L) :
    Calls Try.prog 10 #[(.agg #[.slice a0 L.logs.length cap0, .slice a1 L.body.length cap1, .slice a2 L.outs.length cap2]), .agg #[.int .i64 p0, .int .i64 p1, .int .i64 p2, .int .i64 q0, .int .i64 q1, .int .i64 q2, .int .i64 r]] w fun e w' => e = .returned (.bool (mayB L && mayT ⟨p0, p1, p2, q0, q1, q2, r⟩)) ∧ Below w.heap.size w w' := by
  obtain ⟨mb, hmb⟩ : ∃ mb, mayB L = mb := ⟨_, rfl⟩
  have HM := hide (fun W (h : LoopV W (.agg #[.slice a0 L.logs.length cap0, .slice a1 L.body.length cap1, .slice a2 L.outs.length cap2]) L) => hmb ▸ rmay_any (.agg #[.slice a0 L.logs.length cap0, .slice a1 L.body.length cap1, .slice a2 L.outs.length cap2]) L W h)
  have HT := hide (tmay_seven p0 p1 p2 q0 q1 q2 r)
  rw [hmb]
  clear hmb
  cases mb with
  | false =>
    go_enter Try.func10, Try.ntmps10
    go_wp2_with fail
    refine (HM.out _ (hL.below (below_alloc2 _ _ _))).mono ?_
    rintro e x1 ⟨rfl, hb⟩
    have HB := hide ((below_alloc2 w _ _).trans (hb.mono (by simp; omega)))
    clear hb
    go_wp2_with fail
    go_ret
    exact ⟨by simp, HB.out⟩
  | true =>
    go_enter Try.func10, Try.ntmps10
    go_wp2_with fail
    refine (HM.out _ (hL.below (below_alloc2 _ _ _))).mono ?_
    rintro e x1 ⟨rfl, hb⟩
    have hb1 : Below (w.heap.size + 1 + 1) ((w.alloc (.cells #[.slice a0 L.logs.length cap0, .slice a1 L.body.length cap1, .slice a2 L.outs.length cap2] 25)).alloc (.cells #[.int .i64 p0, .int .i64 p1, .int .i64 p2, .int .i64 q0, .int .i64 q1, .int .i64 q2, .int .i64 r] 28)) x1 := by
      have hs : ((w.alloc (.cells #[.slice a0 L.logs.length cap0, .slice a1 L.body.length cap1, .slice a2 L.outs.length cap2] 25)).alloc (.cells #[.int .i64 p0, .int .i64 p1, .int .i64 p2, .int .i64 q0, .int .i64 q1, .int .i64 q2, .int .i64 r] 28)).heap.size = w.heap.size + 1 + 1 := by simp
      rw [← hs]; exact hb
    obtain ⟨⟨l0, l1, l2⟩, ⟨t0, t1, t2, t3, t4, t5, t6⟩, z0, z1, hbw⟩ := ebox_cells hb1
    have HB := hide hbw
    clear hb hb1 hbw
    go_wp2_with fail
    refine (HT.out _).mono ?_
    rintro e x2 ⟨rfl, hb⟩
    have HB2 := hide (HB.out.trans (hb.mono HB.out.size))
    clear hb
    go_wp2_with fail
    go_ret
    exact ⟨by simp, HB2.out⟩
/-- how the program tells edges -/
def EdgesC : Prop := ∀ (v : Value) (t : Tg) (L : Lp) (w : World), LoopV w v L →
  Calls Try.prog 23 #[v, .agg t.cells] w fun e w' => ∃ a n c, e = .returned (.tuple #[.slice a n c, .int .i64 (if (mayB L && mayT t) = true then 0 else 2)]) ∧ Below w.heap.size w w' ∧ ((mayB L && mayT t) = true → EdgesV w' (.slice a n c) (edgesD L t)) ∧ ((mayB L && mayT t) = false → n = 0)
theorem edgesC_no (hE : EdgesC) (v : Value) (t : Tg) (L : Lp) (w : World) (hL : LoopV w v L) (hm : (mayB L && mayT t) = false) :
    Calls Try.prog 23 #[v, .agg t.cells] w fun e w' => ∃ a c, e = .returned (.tuple #[.slice a 0 c, .int .i64 2]) ∧ Below w.heap.size w w' :=
  (hE v t L w hL).mono fun e w' ⟨a, n, c, h1, h2, h3, h4⟩ => by
    obtain rfl := h4 hm
    rw [hm] at h1
    exact ⟨a, c, h1, h2⟩
theorem edgesC_yes (hE : EdgesC) (v : Value) (t : Tg) (L : Lp) (w : World) (hL : LoopV w v L) (hm : (mayB L && mayT t) = true) :
    Calls Try.prog 23 #[v, .agg t.cells] w fun e w' => ∃ a n c, e = .returned (.tuple #[.slice a n c, .int .i64 0]) ∧ EdgesV w' (.slice a n c) (edgesD L t) ∧ Below w.heap.size w w' :=
  (hE v t L w hL).mono fun e w' ⟨a, n, c, h1, h2, h3, h4⟩ => by
    rw [hm] at h1
    exact ⟨a, n, c, h1, h3 hm, h2⟩
end Go.Proofs.Ytjoapiafpahihab
/- The contract of the document's own answer on units; nothing that was there is changed. -/
namespace Go.Proofs.Ytjoapiafpahihab
open Go.RowKit Go.Joins
set_option linter.unusedVariables false
set_option linter.unusedSimpArgs false
set_option maxRecDepth 8192

theorem unit_cell {p0 p1 p2 q0 q1 q2 r : Int} {w wr : World} {c : Nat} (hc : c < 3) (h0 : wr.cell? ⟨w.heap.size + 1, 0, none⟩ = some (.int .i64 p0)) (h1 : wr.cell? ⟨w.heap.size + 1, 1, none⟩ = some (.int .i64 p1)) (h2 : wr.cell? ⟨w.heap.size + 1, 2, none⟩ = some (.int .i64 p2)) : wr.cell? ⟨w.heap.size + 1, c, none⟩ = some (.int .i64 (unitsT ⟨p0, p1, p2, q0, q1, q2, r⟩ c)) := by
  obtain rfl | rfl | rfl : c = 0 ∨ c = 1 ∨ c = 2 := by omega
  · exact h0
  · exact h1
  · exact h2
theorem units_one {t : Tg} (h : mayT t = true) : ∀ c : Nat, ∃ u : Nat, unitsT t c = (u : Int) ∧ 1 ≤ u ∧ u ≤ 4 := by
  intro c
  obtain ⟨h1, h2, h3, -, -⟩ := mayT_parts h
  have h1 := unit_iff h1
  have h2 := unit_iff h2
  have h3 := unit_iff h3
  unfold unitsT
  split
  · exact ⟨t.u0.toNat, by omega, by omega, by omega⟩
  · split
    · exact ⟨t.u1.toNat, by omega, by omega, by omega⟩
    · exact ⟨t.u2.toNat, by omega, by omega, by omega⟩

end Go.Proofs.Ytjoapiafpahihab
/- The contract of the document's own answer on rounds of edges; nothing that was there is changed. -/
namespace Go.Proofs.Ytjoapiafpahihab
open Go.RowKit Go.Joins
set_option linter.unusedVariables false
set_option linter.unusedSimpArgs false
set_option maxRecDepth 8192

theorem Try.j3 : (Try.prog.info? 3).map (fun i => (i.zero, i.size, i.bytes)) = some (some (.int .i64 0), 1, 8) := by kernel_rfl
/-- an edge of a loop of n statements -/
def edOk (n : Nat) (e : Ed) : Prop := ∃ fr to bk wt : Nat, e = ⟨fr, to, bk, wt⟩ ∧ fr < n ∧ to < n ∧ bk ≤ 32 ∧ wt ≤ 6
theorem pass_same {p : Int} {l : List Ed} {a : Nat → Int} : ∀ k, k ≤ l.length → allN (fun j => okE p a (edAt l j)) k = true → passE p l a k = a := by
  intro k
  induction k with
  | zero => exact fun _ _ => rfl
  | succ k ih =>
    intro hk h
    have h1 : allN (fun j => okE p a (edAt l j)) k = true := allN_mk fun j hj => allN_get h j (by omega)
    show relE p (passE p l a k) (edAt l k) = a
    rw [ih (by omega) h1]
    have h2 := of_decide_eq_true (allN_get h k (by omega))
    unfold relE
    rw [if_neg (by omega)]
theorem pass_high {p : Int} {l : List Ed} {a : Nat → Int} {n : Nat} {B : Int} (hp : 0 ≤ p) (hl : ∀ e ∈ l, edOk n e) (ha : ∀ v, a v ≤ B) : ∀ k, k ≤ l.length → ∀ v, passE p l a k v ≤ B + 6 * k := by
  intro k
  induction k with
  | zero => intro _ v; have := ha v; show a v ≤ _; omega
  | succ k ih =>
    intro hk v
    show relE p (passE p l a k) (edAt l k) v ≤ _
    by_cases h : relE p (passE p l a k) (edAt l k) v = passE p l a k v
    · rw [h]; have := ih (by omega) v; omega
    · obtain ⟨h1, h2⟩ := rel_new h
      rw [h2]
      have h3 := ih (by omega) (edAt l k).fr.toNat
      obtain ⟨fr, to, bk, wt, he, -, -, h5, h6⟩ := hl _ (edAt_in (show k < l.length by omega))
      have h7 : 0 ≤ p * (bk : Int) := Int.mul_nonneg hp (by omega)
      have h8 : gapE p (edAt l k) ≤ 6 := by rw [he]; unfold gapE; show (wt : Int) - p * (bk : Int) ≤ 6; omega
      omega
theorem passR_high {p : Int} {l : List Ed} {n : Nat} (hp : 0 ≤ p) (hl : ∀ e ∈ l, edOk n e) : ∀ r v, passR p l r v ≤ 6 * ((r * l.length : Nat) : Int) := by
  intro r
  induction r with
  | zero => intro v; show (0 : Int) ≤ _; omega
  | succ r ih =>
    intro v
    have := pass_high hp hl ih l.length (Nat.le_refl _) v
    show passE p l (passR p l r) l.length v ≤ _
    rw [Nat.succ_mul, Int.natCast_add]
    omega
theorem passR_low {p : Int} {l : List Ed} (r v : Nat) : 0 ≤ passR p l r v := passR_le p l v 0 r (Nat.zero_le _)
theorem pass_low {p : Int} {l : List Ed} (r k v : Nat) : 0 ≤ passE p l (passR p l r) k v := Int.le_trans (passR_low r v) (pass_le p l _ v 0 k (Nat.zero_le _))
theorem exN_false {p : Nat → Bool} {k : Nat} (h : ∀ q, q < k → p q = false) : exN p k = false := by
  cases e : exN p k with
  | false => rfl
  | true =>
    obtain ⟨q, h1, h2⟩ := exN_iff.1 e
    rw [h q h1] at h2; cases h2

end Go.Proofs.Ytjoapiafpahihab
/- The contract of the document's own least pace by rounds; nothing that was there is changed. -/
namespace Go.Proofs.Ytjoapiafpahihab
open Go.RowKit Go.Joins
set_option linter.unusedVariables false
set_option linter.unusedSimpArgs false
set_option maxRecDepth 8192

theorem rounds_last {L : Lp} {t : Tg} {q : Nat} (hm : mayB L = true) (hq : 1 ≤ q) (h : roundsD L.body.length (edgesD L t) q = true) (hno : ∀ q' : Nat, 1 ≤ q' → q' < q → roundsD L.body.length (edgesD L t) q' = false) : roundsB L t = q := by
  obtain ⟨h1, h2, h3, h4⟩ := first_is 95 1 (rounds_some (t := t) hm)
  by_cases e : firstN (fun p : Nat => roundsD L.body.length (edgesD L t) p) 95 1 = q
  · exact e
  · exfalso
    by_cases hlt : firstN (fun p : Nat => roundsD L.body.length (edgesD L t) p) 95 1 < q
    · have h5 := hno _ h2 hlt
      have h6 : roundsD L.body.length (edgesD L t) (firstN (fun p : Nat => roundsD L.body.length (edgesD L t) p) 95 1 : Nat) = true := h1
      rw [h5] at h6; cases h6
    · have h5 := h4 q hq (by omega)
      have h6 : roundsD L.body.length (edgesD L t) (q : Nat) = false := h5
      rw [h] at h6; cases h6
theorem rounds_96 {L : Lp} {t : Tg} (hm : mayB L = true) {q : Nat} (hno : ∀ q' : Nat, 1 ≤ q' → q' < q → roundsD L.body.length (edgesD L t) q' = false) : q ≤ 96 := by
  obtain ⟨h1, h2, h3, h4⟩ := first_is 95 1 (rounds_some (t := t) hm)
  refine Classical.byContradiction fun hlt => ?_
  have h5 := hno _ h2 (by omega)
  have h6 : roundsD L.body.length (edgesD L t) (firstN (fun p : Nat => roundsD L.body.length (edgesD L t) p) 95 1 : Nat) = true := h1
  rw [h5] at h6; cases h6
end Go.Proofs.Ytjoapiafpahihab
/- How the program tells the least paces (BoundC); the document's own, at loops and machines in memory. -/
namespace Go.Proofs.Ytjoapiafpahihab
open Go.RowKit Go.Joins
set_option linter.unusedVariables false
set_option linter.unusedSimpArgs false
set_option maxRecDepth 8192

/-- how the program tells the least paces -/
def BoundC : Prop := ∀ (v : Value) (t : Tg) (L : Lp) (w : World), LoopV w v L →
  Calls Try.prog 29 #[v, .agg t.cells] w fun e w' => (if (mayB L && mayT t) = true then e = .returned (.tuple #[.int .i64 (unitsB L t), .int .i64 (roundsB L t), .int .i64 0]) else e = .returned (.tuple #[.int .i64 0, .int .i64 0, .int .i64 2])) ∧ Below w.heap.size w w'
end Go.Proofs.Ytjoapiafpahihab
