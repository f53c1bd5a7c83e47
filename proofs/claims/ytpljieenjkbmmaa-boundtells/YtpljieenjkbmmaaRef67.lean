/- Ref67: texts that are built as one: Ref6Edges, EdgesSame, DepTells, Ref7Units, Ref7Rounds, Ref7Least, BoundTells. -/
import Derived.Test.YtpljieenjkbmmaaRef6Is
import Derived.Test.YtpljieenjkbmmaaRounds
import Derived.Deep.QuietTactic
import Derived.BigQuiet
import Derived.Test.YtpljieenjkbmmaaRef2L
import Derived.Test.YtpljieenjkbmmaaBase
/- The contract of the document's own edges: all that there are; nothing that was there is changed. -/
namespace Go.Proofs.Ytpljieenjkbmmaa
open Go.RowKit Go.Joins
set_option linter.unusedVariables false

theorem Try.i81 : (Try.prog.info? 81).map (fun i => (i.zero, i.size, i.bytes)) = some (some (.agg #[.int .i64 0, .int .i64 0, .int .i64 0, .int .i64 0]), 4, 32) := by kernel_rfl

theorem ebox_cells {w wr : World} {v0 v1 v2 : Value} {p0 p1 p2 q0 q1 q2 r : Int} {ta tb : TypeId} (h : Below (w.heap.size + 1 + 1) ((w.alloc (.cells #[v0, v1, v2] ta)).alloc (.cells #[.int .i64 p0, .int .i64 p1, .int .i64 p2, .int .i64 q0, .int .i64 q1, .int .i64 q2, .int .i64 r] tb)) wr) :
    (wr.cell? ⟨w.heap.size, 0, none⟩ = some v0 ∧ wr.cell? ⟨w.heap.size, 1, none⟩ = some v1 ∧ wr.cell? ⟨w.heap.size, 2, none⟩ = some v2) ∧
    (wr.cell? ⟨w.heap.size + 1, 0, none⟩ = some (.int .i64 p0) ∧ wr.cell? ⟨w.heap.size + 1, 1, none⟩ = some (.int .i64 p1) ∧ wr.cell? ⟨w.heap.size + 1, 2, none⟩ = some (.int .i64 p2) ∧ wr.cell? ⟨w.heap.size + 1, 3, none⟩ = some (.int .i64 q0) ∧ wr.cell? ⟨w.heap.size + 1, 4, none⟩ = some (.int .i64 q1) ∧ wr.cell? ⟨w.heap.size + 1, 5, none⟩ = some (.int .i64 q2) ∧ wr.cell? ⟨w.heap.size + 1, 6, none⟩ = some (.int .i64 r)) ∧ w.heap.size < wr.heap.size ∧ w.heap.size + 1 < wr.heap.size ∧ Below w.heap.size w wr := by
  have hs : ((w.alloc (.cells #[v0, v1, v2] ta)).alloc (.cells #[.int .i64 p0, .int .i64 p1, .int .i64 p2, .int .i64 q0, .int .i64 q1, .int .i64 q2, .int .i64 r] tb)).heap.size = w.heap.size + 1 + 1 := by simp
  have hz := h.size
  have h' : Below ((w.alloc (.cells #[v0, v1, v2] ta)).alloc (.cells #[.int .i64 p0, .int .i64 p1, .int .i64 p2, .int .i64 q0, .int .i64 q1, .int .i64 q2, .int .i64 r] tb)).heap.size ((w.alloc (.cells #[v0, v1, v2] ta)).alloc (.cells #[.int .i64 p0, .int .i64 p1, .int .i64 p2, .int .i64 q0, .int .i64 q1, .int .i64 q2, .int .i64 r] tb)) wr := by rw [hs]; exact h
  refine ⟨⟨?_, ?_, ?_⟩, ⟨?_, ?_, ?_, ?_, ?_, ?_, ?_⟩, by omega, by omega, (below_alloc2 w _ _).trans (h.mono (by omega))⟩
  all_goals rw [bcell h' _ _ (by omega)]
  all_goals go_simp
/-- one row behind the other: a name, so that no walk opens it -/
def catE (a b : List Ed) : List Ed := a ++ b
theorem catE_nil (a : List Ed) : catE a [] = a := List.append_nil a
theorem catE_len (a b : List Ed) : (catE a b).length = a.length + b.length := List.length_append
theorem wtD_yes {L : Lp} {t : Tg} {fr to bk k : Nat} (h : isD L t fr to bk k = true) : wtD L t fr to bk (k + 1) = wtD L t fr to bk k ++ [⟨fr, to, bk, k⟩] := if_pos h
theorem wtD_no {L : Lp} {t : Tg} {fr to bk k : Nat} (h : isD L t fr to bk k = false) : wtD L t fr to bk (k + 1) = wtD L t fr to bk k := if_neg (by rw [h]; exact Bool.false_ne_true)

set_option maxHeartbeats 4000000 in
set_option maxRecDepth 100000 in
theorem redges_walk (p0 p1 p2 q0 q1 q2 r : Int) (L : Lp) (a0 : Option Addr) (cap0 b off cap : Nat) (v2 : Value) (w : World) (hl0 : L.logs.length ≤ cap0) (hm0 : cap0 ≤ 9223372036854775807) (hl1 : L.body.length ≤ cap) (hm1 : cap ≤ 9223372036854775807) (hb : b < w.heap.size)
    (hbody : ∀ i, i < L.body.length → ∀ j, j < 9 → w.cell? ⟨b, off + i * 9 + j, none⟩ = (stCells (stAt L.body i))[j]?) (hlogs : Ints w (.slice a0 L.logs.length cap0) L.logs) (hm : mayB L = true) (hn16 : L.body.length ≤ 16) :
    Calls Try.prog 44 #[.agg #[.slice a0 L.logs.length cap0, .slice (some ⟨b, off, none⟩) L.body.length cap, v2], .agg #[.int .i64 p0, .int .i64 p1, .int .i64 p2, .int .i64 q0, .int .i64 q1, .int .i64 q2, .int .i64 r]] w fun e w' => ∃ ev, e = .returned ev ∧ w'.ownsRow (w.heap.size + 1 + 1) 81 4 ev (edgesD L ⟨p0, p1, p2, q0, q1, q2, r⟩).length (flatE (edgesD L ⟨p0, p1, p2, q0, q1, q2, r⟩)) ∧ Below w.heap.size w w' := by
  have HBODY := hide hbody
  have HLOGS := hide hlogs
  have HM := hide hm
  clear hbody hlogs hm
  obtain ⟨j0, ji, jz0, jz1, jz2⟩ := info_parts Try.i81
  go_enter Try.func44, Try.ntmps44
  go_wp2_with fail
  go_loopw [5, 6] (fun ov iv wr => ∃ f : Nat, f ≤ L.body.length ∧ iv = .int .i64 f ∧ ∃ oa oc, ov = .slice oa (frD L ⟨p0, p1, p2, q0, q1, q2, r⟩ f).length oc ∧ wr.ownsRow (w.heap.size + 1 + 1) 81 4 (.slice oa (frD L ⟨p0, p1, p2, q0, q1, q2, r⟩ f).length oc) (frD L ⟨p0, p1, p2, q0, q1, q2, r⟩ f).length (flatE (frD L ⟨p0, p1, p2, q0, q1, q2, r⟩ f)) ∧ Below (w.heap.size + 1 + 1) ((w.alloc (.cells #[.slice a0 L.logs.length cap0, .slice (some ⟨b, off, none⟩) L.body.length cap, v2] 30)).alloc (.cells #[.int .i64 p0, .int .i64 p1, .int .i64 p2, .int .i64 q0, .int .i64 q1, .int .i64 q2, .int .i64 r] 49)) wr) (fun _ iv _ => L.body.length - (intOf iv).toNat)
  case atStart => exact ⟨0, Nat.zero_le _, rfl, none, 0, rfl, World.ownsRow_nil _ _ _ _, Below.refl _ _⟩
  case round =>
    obtain ⟨f, hf, rfl, oa, oc, rfl, hown, hbel⟩ := hrel
    have HO := hide hown
    have HB := hide hbel
    have hz := hbel.size
    have hs : ((w.alloc (.cells #[.slice a0 L.logs.length cap0, .slice (some ⟨b, off, none⟩) L.body.length cap, v2] 30)).alloc (.cells #[.int .i64 p0, .int .i64 p1, .int .i64 p2, .int .i64 q0, .int .i64 q1, .int .i64 q2, .int .i64 r] 49)).heap.size = w.heap.size + 1 + 1 := by simp
    obtain ⟨⟨l0, l1, l2⟩, ⟨t0, t1, t2, t3, t4, t5, t6⟩, z0, z1, hbw⟩ := ebox_cells hbel
    have HW := hide hbw
    clear hown hbel hbw hz hs
    by_cases hfl : f < L.body.length
    · have hfi : (f : Int) < (L.body.length : Int) := by omega
      go_wp2_with fail
      clear l0 l1 l2 t0 t1 t2 t3 t4 t5 t6 z0 z1
      go_loopw [5, 7] (fun ov iv wr => ∃ t : Nat, t ≤ L.body.length ∧ iv = .int .i64 t ∧ ∃ oa oc, ov = .slice oa (catE (frD L ⟨p0, p1, p2, q0, q1, q2, r⟩ f) (toD L ⟨p0, p1, p2, q0, q1, q2, r⟩ f t)).length oc ∧ wr.ownsRow (w.heap.size + 1 + 1) 81 4 (.slice oa (catE (frD L ⟨p0, p1, p2, q0, q1, q2, r⟩ f) (toD L ⟨p0, p1, p2, q0, q1, q2, r⟩ f t)).length oc) (catE (frD L ⟨p0, p1, p2, q0, q1, q2, r⟩ f) (toD L ⟨p0, p1, p2, q0, q1, q2, r⟩ f t)).length (flatE (catE (frD L ⟨p0, p1, p2, q0, q1, q2, r⟩ f) (toD L ⟨p0, p1, p2, q0, q1, q2, r⟩ f t))) ∧ Below (w.heap.size + 1 + 1) ((w.alloc (.cells #[.slice a0 L.logs.length cap0, .slice (some ⟨b, off, none⟩) L.body.length cap, v2] 30)).alloc (.cells #[.int .i64 p0, .int .i64 p1, .int .i64 p2, .int .i64 q0, .int .i64 q1, .int .i64 q2, .int .i64 r] 49)) wr) (fun _ iv _ => L.body.length - (intOf iv).toNat)
      case atStart => exact ⟨0, Nat.zero_le _, rfl, oa, oc, by show _ = Value.slice oa (catE (frD L ⟨p0, p1, p2, q0, q1, q2, r⟩ f) []).length oc; rw [catE_nil], by show wr.ownsRow _ _ _ (.slice oa (catE (frD L ⟨p0, p1, p2, q0, q1, q2, r⟩ f) []).length oc) (catE (frD L ⟨p0, p1, p2, q0, q1, q2, r⟩ f) []).length (flatE (catE (frD L ⟨p0, p1, p2, q0, q1, q2, r⟩ f) [])); rw [catE_nil]; exact HO.out, HB.out⟩
      case round =>
        clear HO HB HW
        obtain ⟨t, ht, rfl, oa, oc, rfl, hown, hbel⟩ := hrel
        have HO := hide hown
        have HB := hide hbel
        have hz := hbel.size
        have hs : ((w.alloc (.cells #[.slice a0 L.logs.length cap0, .slice (some ⟨b, off, none⟩) L.body.length cap, v2] 30)).alloc (.cells #[.int .i64 p0, .int .i64 p1, .int .i64 p2, .int .i64 q0, .int .i64 q1, .int .i64 q2, .int .i64 r] 49)).heap.size = w.heap.size + 1 + 1 := by simp
        obtain ⟨⟨l0, l1, l2⟩, ⟨t0, t1, t2, t3, t4, t5, t6⟩, z0, z1, hbw⟩ := ebox_cells hbel
        have HW := hide hbw
        clear hown hbel hbw hz hs
        by_cases htl : t < L.body.length
        · have hti : (t : Int) < (L.body.length : Int) := by omega
          go_wp2_with fail
          clear l0 l1 l2 t0 t1 t2 t3 t4 t5 t6 z0 z1
          go_loopw [5, 8] (fun ov iv wr => ∃ k : Nat, k ≤ 33 ∧ iv = .int .i64 k ∧ ∃ oa oc, ov = .slice oa (catE (catE (frD L ⟨p0, p1, p2, q0, q1, q2, r⟩ f) (toD L ⟨p0, p1, p2, q0, q1, q2, r⟩ f t)) (bkD L ⟨p0, p1, p2, q0, q1, q2, r⟩ f t k)).length oc ∧ wr.ownsRow (w.heap.size + 1 + 1) 81 4 (.slice oa (catE (catE (frD L ⟨p0, p1, p2, q0, q1, q2, r⟩ f) (toD L ⟨p0, p1, p2, q0, q1, q2, r⟩ f t)) (bkD L ⟨p0, p1, p2, q0, q1, q2, r⟩ f t k)).length oc) (catE (catE (frD L ⟨p0, p1, p2, q0, q1, q2, r⟩ f) (toD L ⟨p0, p1, p2, q0, q1, q2, r⟩ f t)) (bkD L ⟨p0, p1, p2, q0, q1, q2, r⟩ f t k)).length (flatE (catE (catE (frD L ⟨p0, p1, p2, q0, q1, q2, r⟩ f) (toD L ⟨p0, p1, p2, q0, q1, q2, r⟩ f t)) (bkD L ⟨p0, p1, p2, q0, q1, q2, r⟩ f t k))) ∧ Below (w.heap.size + 1 + 1) ((w.alloc (.cells #[.slice a0 L.logs.length cap0, .slice (some ⟨b, off, none⟩) L.body.length cap, v2] 30)).alloc (.cells #[.int .i64 p0, .int .i64 p1, .int .i64 p2, .int .i64 q0, .int .i64 q1, .int .i64 q2, .int .i64 r] 49)) wr) (fun _ iv _ => 33 - (intOf iv).toNat)
          case atStart => exact ⟨0, Nat.zero_le _, rfl, oa, oc, by show _ = Value.slice oa (catE (catE (frD L ⟨p0, p1, p2, q0, q1, q2, r⟩ f) (toD L ⟨p0, p1, p2, q0, q1, q2, r⟩ f t)) []).length oc; rw [catE_nil], by show wr.ownsRow _ _ _ (.slice oa (catE (catE (frD L ⟨p0, p1, p2, q0, q1, q2, r⟩ f) (toD L ⟨p0, p1, p2, q0, q1, q2, r⟩ f t)) []).length oc) (catE (catE (frD L ⟨p0, p1, p2, q0, q1, q2, r⟩ f) (toD L ⟨p0, p1, p2, q0, q1, q2, r⟩ f t)) []).length (flatE (catE (catE (frD L ⟨p0, p1, p2, q0, q1, q2, r⟩ f) (toD L ⟨p0, p1, p2, q0, q1, q2, r⟩ f t)) [])); rw [catE_nil]; exact HO.out, HB.out⟩
          case round =>
            clear HO HB HW
            obtain ⟨k, hk, rfl, oa, oc, rfl, hown, hbel⟩ := hrel
            have HO := hide hown
            have HB := hide hbel
            by_cases hkl : k < 33
            · have hki : (k : Int) ≤ 32 := by omega
              clear hown hbel
              go_wp2_with fail
              go_loopw [5, 9] (fun ov iv wr => ∃ x : Nat, x ≤ 7 ∧ iv = .int .i64 x ∧ ∃ oa oc, ov = .slice oa (catE (catE (catE (frD L ⟨p0, p1, p2, q0, q1, q2, r⟩ f) (toD L ⟨p0, p1, p2, q0, q1, q2, r⟩ f t)) (bkD L ⟨p0, p1, p2, q0, q1, q2, r⟩ f t k)) (wtD L ⟨p0, p1, p2, q0, q1, q2, r⟩ f t k x)).length oc ∧ wr.ownsRow (w.heap.size + 1 + 1) 81 4 (.slice oa (catE (catE (catE (frD L ⟨p0, p1, p2, q0, q1, q2, r⟩ f) (toD L ⟨p0, p1, p2, q0, q1, q2, r⟩ f t)) (bkD L ⟨p0, p1, p2, q0, q1, q2, r⟩ f t k)) (wtD L ⟨p0, p1, p2, q0, q1, q2, r⟩ f t k x)).length oc) (catE (catE (catE (frD L ⟨p0, p1, p2, q0, q1, q2, r⟩ f) (toD L ⟨p0, p1, p2, q0, q1, q2, r⟩ f t)) (bkD L ⟨p0, p1, p2, q0, q1, q2, r⟩ f t k)) (wtD L ⟨p0, p1, p2, q0, q1, q2, r⟩ f t k x)).length (flatE (catE (catE (catE (frD L ⟨p0, p1, p2, q0, q1, q2, r⟩ f) (toD L ⟨p0, p1, p2, q0, q1, q2, r⟩ f t)) (bkD L ⟨p0, p1, p2, q0, q1, q2, r⟩ f t k)) (wtD L ⟨p0, p1, p2, q0, q1, q2, r⟩ f t k x))) ∧ Below (w.heap.size + 1 + 1) ((w.alloc (.cells #[.slice a0 L.logs.length cap0, .slice (some ⟨b, off, none⟩) L.body.length cap, v2] 30)).alloc (.cells #[.int .i64 p0, .int .i64 p1, .int .i64 p2, .int .i64 q0, .int .i64 q1, .int .i64 q2, .int .i64 r] 49)) wr) (fun _ iv _ => 7 - (intOf iv).toNat)
              case atStart => exact ⟨0, Nat.zero_le _, rfl, oa, oc, by show _ = Value.slice oa (catE (catE (catE (frD L ⟨p0, p1, p2, q0, q1, q2, r⟩ f) (toD L ⟨p0, p1, p2, q0, q1, q2, r⟩ f t)) (bkD L ⟨p0, p1, p2, q0, q1, q2, r⟩ f t k)) []).length oc; rw [catE_nil], by show wr.ownsRow _ _ _ (.slice oa (catE (catE (catE (frD L ⟨p0, p1, p2, q0, q1, q2, r⟩ f) (toD L ⟨p0, p1, p2, q0, q1, q2, r⟩ f t)) (bkD L ⟨p0, p1, p2, q0, q1, q2, r⟩ f t k)) []).length oc) (catE (catE (catE (frD L ⟨p0, p1, p2, q0, q1, q2, r⟩ f) (toD L ⟨p0, p1, p2, q0, q1, q2, r⟩ f t)) (bkD L ⟨p0, p1, p2, q0, q1, q2, r⟩ f t k)) []).length (flatE (catE (catE (catE (frD L ⟨p0, p1, p2, q0, q1, q2, r⟩ f) (toD L ⟨p0, p1, p2, q0, q1, q2, r⟩ f t)) (bkD L ⟨p0, p1, p2, q0, q1, q2, r⟩ f t k)) [])); rw [catE_nil]; exact HO.out, HB.out⟩
              case round =>
                clear HO HB
                obtain ⟨x, hx, rfl, oa, oc, rfl, hown, hbel⟩ := hrel
                have HO := hide hown
                have HB := hide hbel
                have hz := hbel.size
                have hs : ((w.alloc (.cells #[.slice a0 L.logs.length cap0, .slice (some ⟨b, off, none⟩) L.body.length cap, v2] 30)).alloc (.cells #[.int .i64 p0, .int .i64 p1, .int .i64 p2, .int .i64 q0, .int .i64 q1, .int .i64 q2, .int .i64 r] 49)).heap.size = w.heap.size + 1 + 1 := by simp
                obtain ⟨⟨l0, l1, l2⟩, ⟨t0, t1, t2, t3, t4, t5, t6⟩, z0, z1, hbw⟩ := ebox_cells hbel
                have HW := hide hbw
                have hzw := hbw.size
                have hz2 : w.heap.size + 1 + 1 ≤ wr.heap.size := by omega
                clear hown hbel hbw hz hs
                by_cases hxl : x < 7
                · have hxi : (x : Int) ≤ 6 := by omega
                  have HLEN : Hid ((catE (catE (catE (frD L ⟨p0, p1, p2, q0, q1, q2, r⟩ f) (toD L ⟨p0, p1, p2, q0, q1, q2, r⟩ f t)) (bkD L ⟨p0, p1, p2, q0, q1, q2, r⟩ f t k)) (wtD L ⟨p0, p1, p2, q0, q1, q2, r⟩ f t k x)).length ≤ 60000) := by
                    show (catE (catE (catE (frD L ⟨p0, p1, p2, q0, q1, q2, r⟩ f) (toD L ⟨p0, p1, p2, q0, q1, q2, r⟩ f t)) (bkD L ⟨p0, p1, p2, q0, q1, q2, r⟩ f t k)) (wtD L ⟨p0, p1, p2, q0, q1, q2, r⟩ f t k x)).length ≤ 60000
                    have e1 := frD_len L ⟨p0, p1, p2, q0, q1, q2, r⟩ f hn16
                    have e2 := toD_len L ⟨p0, p1, p2, q0, q1, q2, r⟩ f t
                    have e3 := bkD_len L ⟨p0, p1, p2, q0, q1, q2, r⟩ f t k
                    have e4 := wtD_len L ⟨p0, p1, p2, q0, q1, q2, r⟩ f t k x
                    rw [catE_len, catE_len, catE_len]; omega
                  have hal : Below wr.heap.size wr (wr.alloc (.cells #[.int .i64 f, .int .i64 t, .int .i64 k, .int .i64 x] 81)) := below_alloc1 _ _
                  have hwe := HW.out.trans (hal.mono hzw)
                  have HIW := hide (is_walk p0 p1 p2 q0 q1 q2 r f t k x L a0 cap0 b off cap v2 (wr.alloc (.cells #[.int .i64 f, .int .i64 t, .int .i64 k, .int .i64 x] 81)) hl0 hm0 hl1 hm1 (by have := hwe.size; omega) (fun i hi j hj => by rw [bcell hwe _ _ hb]; exact HBODY.out i hi j hj) (HLOGS.out.below hwe) HM.out hfl htl (by omega) (by omega))
                  obtain ⟨ib, hib⟩ : ∃ ib, isD L ⟨p0, p1, p2, q0, q1, q2, r⟩ f t k x = ib := ⟨_, rfl⟩
                  rw [hib] at HIW
                  have HIB := hide hib
                  clear hib hal hwe
                  cases ib with
                  | false =>
                    go_wp2_with fail
                    refine HIW.out.mono ?_
                    rintro e x1 ⟨rfl, hb1⟩
                    have HX := hide ((below_alloc1 wr _).trans (hb1.mono (by simp)))
                    clear hb1
                    go_wp2_with fail
                    go_roundw
                    case rel => exact ⟨x + 1, by omega, by go_num, oa, oc, by rw [wtD_no HIB.out], by rw [wtD_no HIB.out]; exact own_below HO.out HX.out, HB.out.trans (HX.out.mono hz2)⟩
                    case measure => simp [intOf]; omega
                  | true =>
                    go_wp2_with fail
                    refine HIW.out.mono ?_
                    rintro e x1 ⟨rfl, hb1⟩
                    have HX := hide ((below_alloc1 wr _).trans (hb1.mono (by simp)))
                    have hc1 := bcell hb1
                    have hxz : wr.heap.size < x1.heap.size := by have := hb1.size; simp at this; omega
                    have HOX := hide (own_below HO.out HX.out)
                    have HBX := hide (HB.out.trans (HX.out.mono hz2))
                    clear hb1
                    go_wp2_with (at_builtin; refine wpList_append_own _ rfl (.tmp 42) (.tmp 44) 70 rfl (w.heap.size + 1 + 1) 81 j0 (.agg #[.int .i64 0, .int .i64 0, .int .i64 0, .int .i64 0]) 4 32 Try.underlying70 ji jz0 jz1 jz2 rfl (by decide) _ _ _ rfl (own_below HOX.out (below_alloc1 _ _)) ⟨x1.heap.size, 0, none⟩ 1 1 (edCells ⟨f, t, k, x⟩) rfl rfl (by exact four_cells _ _ _ _ _ _) (by intro u hu; unfold edCells at hu; simp at hu; rcases hu with rfl | rfl | rfl | rfl <;> rfl) (by unfold maxLen; have := HLEN.out; omega) (by have := HLEN.out; omega) (by simp; omega) ?_; intro v2' w2 hown2 hgrow2 hnil2; obtain ⟨oa2, oc2, rfl, hl1', hl2'⟩ := ownz_shape hown2; have HO2 := hide hown2; have HG2 := hide hgrow2; clear hown2 hgrow2)
                    go_roundw
                    case rel =>
                      have e1 : catE (catE (catE (frD L ⟨p0, p1, p2, q0, q1, q2, r⟩ f) (toD L ⟨p0, p1, p2, q0, q1, q2, r⟩ f t)) (bkD L ⟨p0, p1, p2, q0, q1, q2, r⟩ f t k)) (wtD L ⟨p0, p1, p2, q0, q1, q2, r⟩ f t k x) ++ [⟨f, t, k, x⟩] = catE (catE (catE (frD L ⟨p0, p1, p2, q0, q1, q2, r⟩ f) (toD L ⟨p0, p1, p2, q0, q1, q2, r⟩ f t)) (bkD L ⟨p0, p1, p2, q0, q1, q2, r⟩ f t k)) (wtD L ⟨p0, p1, p2, q0, q1, q2, r⟩ f t k (x + 1)) := by rw [wtD_yes HIB.out]; unfold catE; rw [List.append_assoc]
                      have e2 : (catE (catE (catE (frD L ⟨p0, p1, p2, q0, q1, q2, r⟩ f) (toD L ⟨p0, p1, p2, q0, q1, q2, r⟩ f t)) (bkD L ⟨p0, p1, p2, q0, q1, q2, r⟩ f t k)) (wtD L ⟨p0, p1, p2, q0, q1, q2, r⟩ f t k x)).length + 1 = (catE (catE (catE (frD L ⟨p0, p1, p2, q0, q1, q2, r⟩ f) (toD L ⟨p0, p1, p2, q0, q1, q2, r⟩ f t)) (bkD L ⟨p0, p1, p2, q0, q1, q2, r⟩ f t k)) (wtD L ⟨p0, p1, p2, q0, q1, q2, r⟩ f t k (x + 1))).length := by rw [← e1, List.length_append]; rfl
                      have h2 := HO2.out
                      rw [flatE_snoc, e1, e2] at h2
                      exact ⟨x + 1, by omega, by go_num, oa2, oc2, by rw [e2], h2, (HBX.out.alloc (by omega) _).grown HG2.out (by simp; omega) (ownz_block_ge HO.out)⟩
                    case measure => simp [intOf]; omega
                · have e : x = 7 := by omega
                  have hxi : ¬ (x : Int) ≤ 6 := by omega
                  have e1 : catE (catE (catE (frD L ⟨p0, p1, p2, q0, q1, q2, r⟩ f) (toD L ⟨p0, p1, p2, q0, q1, q2, r⟩ f t)) (bkD L ⟨p0, p1, p2, q0, q1, q2, r⟩ f t k)) (wtD L ⟨p0, p1, p2, q0, q1, q2, r⟩ f t k x) = catE (catE (frD L ⟨p0, p1, p2, q0, q1, q2, r⟩ f) (toD L ⟨p0, p1, p2, q0, q1, q2, r⟩ f t)) (bkD L ⟨p0, p1, p2, q0, q1, q2, r⟩ f t (k + 1)) := by rw [e]; unfold catE; rw [List.append_assoc]; rfl
                  have HE := hide e1
                  clear e1 e
                  go_wp2_with fail
                  go_roundw
                  case rel => exact ⟨k + 1, by omega, by go_num, oa, oc, by rw [HE.out], by have h := HO.out; rw [HE.out] at h; exact h, HB.out⟩
                  case measure => simp [intOf]; omega
            · have e : k = 33 := by omega
              have hki : ¬ (k : Int) ≤ 32 := by omega
              have e1 : catE (catE (frD L ⟨p0, p1, p2, q0, q1, q2, r⟩ f) (toD L ⟨p0, p1, p2, q0, q1, q2, r⟩ f t)) (bkD L ⟨p0, p1, p2, q0, q1, q2, r⟩ f t k) = catE (frD L ⟨p0, p1, p2, q0, q1, q2, r⟩ f) (toD L ⟨p0, p1, p2, q0, q1, q2, r⟩ f (t + 1)) := by rw [e]; unfold catE; rw [List.append_assoc]; rfl
              have HE := hide e1
              clear e1 e hown hbel
              go_wp2_with fail
              go_roundw
              case rel => exact ⟨t + 1, by omega, by go_num, oa, oc, by rw [HE.out], by have h := HO.out; rw [HE.out] at h; exact h, HB.out⟩
              case measure => simp [intOf]; omega
        · have e : t = L.body.length := by omega
          have hti : ¬ (t : Int) < (L.body.length : Int) := by omega
          have e1 : catE (frD L ⟨p0, p1, p2, q0, q1, q2, r⟩ f) (toD L ⟨p0, p1, p2, q0, q1, q2, r⟩ f t) = frD L ⟨p0, p1, p2, q0, q1, q2, r⟩ (f + 1) := by rw [e]; rfl
          have HE := hide e1
          clear e1 e
          go_wp2_with fail
          go_roundw
          case rel => exact ⟨f + 1, by omega, by go_num, oa, oc, by rw [HE.out], by have h := HO.out; rw [HE.out] at h; exact h, HB.out⟩
          case measure => simp [intOf]; omega
    · have e : f = L.body.length := by omega
      have hfi : ¬ (f : Int) < (L.body.length : Int) := by omega
      have e1 : frD L ⟨p0, p1, p2, q0, q1, q2, r⟩ f = edgesD L ⟨p0, p1, p2, q0, q1, q2, r⟩ := by rw [e]; rfl
      have HE := hide e1
      clear e1 e
      go_wp2_with fail
      go_ret
      exact ⟨_, rfl, by have h := HO.out; rw [HE.out] at h ⊢; exact h, HW.out⟩
end Go.Proofs.Ytpljieenjkbmmaa
/- The contract of the law's own comparison of edges, of two rows that hold the same; nothing that was there is changed. -/
namespace Go.Proofs.Ytpljieenjkbmmaa
open Go.RowKit Go.Joins
set_option linter.unusedVariables false

theorem fourE {w : World} {b o : Nat} {x : Ed} (h : ∀ j, j < 4 → w.cell? ⟨b, o + j, none⟩ = (edCells x)[j]?) :
    w.cell? ⟨b, o, none⟩ = some (.int .i64 x.fr) ∧ w.cell? ⟨b, o + 1, none⟩ = some (.int .i64 x.to) ∧ w.cell? ⟨b, o + 2, none⟩ = some (.int .i64 x.bk) ∧ w.cell? ⟨b, o + 3, none⟩ = some (.int .i64 x.wt) :=
  ⟨h 0 (by omega), h 1 (by omega), h 2 (by omega), h 3 (by omega)⟩
set_option maxHeartbeats 1000000 in
theorem edges_same (va vb : Value) (l : List Ed) (w : World) (ha : EdgesV w va l) (hb : EdgesV w vb l) :
    Calls Try.prog 45 #[va, vb] w fun e w' => e = .returned (.bool true) ∧ ∃ n, w' = w.drewN n := by
  obtain ⟨aa, ac, rfl, al, am, acell⟩ := ha
  obtain ⟨ba, bc, rfl, bl, bm, bcell⟩ := hb
  unfold maxLen at am bm
  go_enter Try.func45, Try.ntmps45
  go_wp2_with fail
  go_loopw [5] (fun i wr => ∃ k n : Nat, k ≤ l.length ∧ i = .int .i64 k ∧ wr = w.drewN n) (fun i _ => l.length - (intOf i).toNat)
  case atStart => exact ⟨0, 0, Nat.zero_le _, rfl, rfl⟩
  case round =>
    obtain ⟨k, n, hk, rfl, rfl⟩ := hrel
    by_cases hlt : k < l.length
    · obtain ⟨b1, o1, rfl, hb1, hc1⟩ := acell (by omega)
      obtain ⟨b2, o2, rfl, hb2, hc2⟩ := bcell (by omega)
      obtain ⟨c0, c1, c2, c3⟩ := fourE (hc1 k hlt)
      obtain ⟨d0, d1, d2, d3⟩ := fourE (hc2 k hlt)
      generalize edAt l k = x at *
      obtain ⟨f, t, bk, wt⟩ := x
      dsimp only at c0 c1 c2 c3 d0 d1 d2 d3
      have i1 : (k : Int) < (l.length : Int) := by omega
      clear hc1 hc2 acell bcell
      go_wp2_with fail
      go_big_quiet ((fail))
      go_wp2_with fail
      go_roundw
      case rel => exact ⟨k + 1, _, by omega, by go_num, rfl⟩
      case measure => simp [intOf]; omega
    · have i1 : ¬ (k : Int) < (l.length : Int) := by omega
      clear acell bcell
      go_wp2_with fail
      go_ret
      exact ⟨rfl, _, rfl⟩
end Go.Proofs.Ytpljieenjkbmmaa
/- DepTells' walk: for every loop and machine in memory the law returns true, if the program's Edges answers as EdgesC says; nothing that was there is changed. -/
namespace Go.Proofs.Ytpljieenjkbmmaa
open Go.RowKit Go.Joins
set_option linter.unusedVariables false

theorem redges_any (v : Value) (t : Tg) (L : Lp) (w : World) (hL : LoopV w v L) (hm : mayB L = true) :
    Calls Try.prog 44 #[v, .agg t.cells] w fun e w' => ∃ ev, e = .returned ev ∧ EdgesV w' ev (edgesD L t) ∧ Below w.heap.size w w' := by
  obtain ⟨m1, m2, m3, m4, m5, m6, m7⟩ := may_parts hm
  obtain ⟨v0, v1, v2, rfl, h0, ⟨a1, cap1, rfl, hl1, hm1, hc1⟩, h2⟩ := hL
  have h0' := h0
  obtain ⟨a0, cap0, rfl, hl0, hm0, -, -⟩ := h0'
  obtain ⟨b, off, rfl, hb, hcell⟩ := hc1 (by omega)
  unfold maxLen at hm0 hm1
  obtain ⟨p0, p1, p2, q0, q1, q2, r⟩ := t
  exact (redges_walk p0 p1 p2 q0 q1 q2 r L a0 cap0 b off cap1 v2 w hl0 (by omega) hl1 (by omega) hb hcell h0 hm m3).mono fun e w' ⟨ev, h1, h2, h3⟩ => ⟨ev, h1, EdgesV.of_own h2, h3⟩

set_option maxHeartbeats 400000 in
theorem rdmay_walk (p0 p1 p2 q0 q1 q2 r : Int) (L : Lp) (a0 a1 a2 : Option Addr) (cap0 cap1 cap2 : Nat) (w : World) (hL : LoopV w (.agg #[.slice a0 L.logs.length cap0, .slice a1 L.body.length cap1, .slice a2 L.outs.length cap2]) L) :
    Calls Try.prog 43 #[(.agg #[.slice a0 L.logs.length cap0, .slice a1 L.body.length cap1, .slice a2 L.outs.length cap2]), .agg #[.int .i64 p0, .int .i64 p1, .int .i64 p2, .int .i64 q0, .int .i64 q1, .int .i64 q2, .int .i64 r]] w fun e w' => e = .returned (.bool (mayB L && mayT ⟨p0, p1, p2, q0, q1, q2, r⟩)) ∧ Below w.heap.size w w' := by
  obtain ⟨mb, hmb⟩ : ∃ mb, mayB L = mb := ⟨_, rfl⟩
  have HM := hide (fun W (h : LoopV W (.agg #[.slice a0 L.logs.length cap0, .slice a1 L.body.length cap1, .slice a2 L.outs.length cap2]) L) => hmb ▸ rmay_any (.agg #[.slice a0 L.logs.length cap0, .slice a1 L.body.length cap1, .slice a2 L.outs.length cap2]) L W h)
  have HT := hide (tmay_seven p0 p1 p2 q0 q1 q2 r)
  rw [hmb]
  clear hmb
  cases mb with
  | false =>
    go_enter Try.func43, Try.ntmps43
    go_wp2_with fail
    refine (HM.out _ (hL.below (below_alloc2 _ _ _))).mono ?_
    rintro e x1 ⟨rfl, hb⟩
    have HB := hide ((below_alloc2 w _ _).trans (hb.mono (by simp; omega)))
    clear hb
    go_wp2_with fail
    go_ret
    exact ⟨by simp, HB.out⟩
  | true =>
    go_enter Try.func43, Try.ntmps43
    go_wp2_with fail
    refine (HM.out _ (hL.below (below_alloc2 _ _ _))).mono ?_
    rintro e x1 ⟨rfl, hb⟩
    have hb1 : Below (w.heap.size + 1 + 1) ((w.alloc (.cells #[.slice a0 L.logs.length cap0, .slice a1 L.body.length cap1, .slice a2 L.outs.length cap2] 30)).alloc (.cells #[.int .i64 p0, .int .i64 p1, .int .i64 p2, .int .i64 q0, .int .i64 q1, .int .i64 q2, .int .i64 r] 49)) x1 := by
      have hs : ((w.alloc (.cells #[.slice a0 L.logs.length cap0, .slice a1 L.body.length cap1, .slice a2 L.outs.length cap2] 30)).alloc (.cells #[.int .i64 p0, .int .i64 p1, .int .i64 p2, .int .i64 q0, .int .i64 q1, .int .i64 q2, .int .i64 r] 49)).heap.size = w.heap.size + 1 + 1 := by simp
      rw [← hs]; exact hb
    obtain ⟨⟨l0, l1, l2⟩, ⟨t0, t1, t2, t3, t4, t5, t6⟩, z0, z1, hbw⟩ := ebox_cells hb1
    have HB := hide hbw
    clear hb hb1 hbw
    go_wp2_with fail
    refine (HT.out _).mono ?_
    rintro e x2 ⟨rfl, hb⟩
    have HB2 := hide (HB.out.trans (hb.mono HB.out.size))
    clear hb
    go_wp2_with fail
    go_ret
    exact ⟨by simp, HB2.out⟩
/-- how the program tells edges -/
def EdgesC : Prop := ∀ (v : Value) (t : Tg) (L : Lp) (w : World), LoopV w v L →
  Calls Try.prog 42 #[v, .agg t.cells] w fun e w' => ∃ a n c, e = .returned (.tuple #[.slice a n c, .int .i64 (if (mayB L && mayT t) = true then 0 else 2)]) ∧ Below w.heap.size w w' ∧ ((mayB L && mayT t) = true → EdgesV w' (.slice a n c) (edgesD L t)) ∧ ((mayB L && mayT t) = false → n = 0)
theorem edgesC_no (hE : EdgesC) (v : Value) (t : Tg) (L : Lp) (w : World) (hL : LoopV w v L) (hm : (mayB L && mayT t) = false) :
    Calls Try.prog 42 #[v, .agg t.cells] w fun e w' => ∃ a c, e = .returned (.tuple #[.slice a 0 c, .int .i64 2]) ∧ Below w.heap.size w w' :=
  (hE v t L w hL).mono fun e w' ⟨a, n, c, h1, h2, h3, h4⟩ => by
    obtain rfl := h4 hm
    rw [hm] at h1
    exact ⟨a, c, h1, h2⟩
theorem edgesC_yes (hE : EdgesC) (v : Value) (t : Tg) (L : Lp) (w : World) (hL : LoopV w v L) (hm : (mayB L && mayT t) = true) :
    Calls Try.prog 42 #[v, .agg t.cells] w fun e w' => ∃ a n c, e = .returned (.tuple #[.slice a n c, .int .i64 0]) ∧ EdgesV w' (.slice a n c) (edgesD L t) ∧ Below w.heap.size w w' :=
  (hE v t L w hL).mono fun e w' ⟨a, n, c, h1, h2, h3, h4⟩ => by
    rw [hm] at h1
    exact ⟨a, n, c, h1, h3 hm, h2⟩

set_option maxHeartbeats 1000000 in
theorem depTells_walk (hE : EdgesC) (p0 p1 p2 q0 q1 q2 r : Int) (L : Lp) (a0 a1 a2 : Option Addr) (cap0 cap1 cap2 : Nat) (w : World) (hL : LoopV w (.agg #[.slice a0 L.logs.length cap0, .slice a1 L.body.length cap1, .slice a2 L.outs.length cap2]) L) :
    Calls Try.prog 11 #[(.agg #[.slice a0 L.logs.length cap0, .slice a1 L.body.length cap1, .slice a2 L.outs.length cap2]), .agg #[.int .i64 p0, .int .i64 p1, .int .i64 p2, .int .i64 q0, .int .i64 q1, .int .i64 q2, .int .i64 r]] w fun e w' => e = .returned (.bool true) ∧ Below w.heap.size w w' := by
  have HMY := hide (fun W (h : LoopV W (.agg #[.slice a0 L.logs.length cap0, .slice a1 L.body.length cap1, .slice a2 L.outs.length cap2]) L) => rdmay_walk p0 p1 p2 q0 q1 q2 r L a0 a1 a2 cap0 cap1 cap2 W h)
  have hs : ((w.alloc (.cells #[.slice a0 L.logs.length cap0, .slice a1 L.body.length cap1, .slice a2 L.outs.length cap2] 30)).alloc (.cells #[.int .i64 p0, .int .i64 p1, .int .i64 p2, .int .i64 q0, .int .i64 q1, .int .i64 q2, .int .i64 r] 49)).heap.size = w.heap.size + 1 + 1 := by simp
  have HS := hide hs
  obtain ⟨mb, hmb⟩ : ∃ mb, (mayB L && mayT ⟨p0, p1, p2, q0, q1, q2, r⟩) = mb := ⟨_, rfl⟩
  rw [hmb] at HMY
  have HMB := hide hmb
  clear hs hmb
  cases mb with
  | false =>
    go_enter Try.func11, Try.ntmps11
    go_wp2_with fail
    refine (edgesC_no hE (.agg #[.slice a0 L.logs.length cap0, .slice a1 L.body.length cap1, .slice a2 L.outs.length cap2]) ⟨p0, p1, p2, q0, q1, q2, r⟩ L _ (hL.below (below_alloc2 _ _ _)) HMB.out).mono ?_
    rintro e x1 ⟨ea, ec, rfl, hb⟩
    have HB1 : Hid (Below (w.heap.size + 1 + 1) ((w.alloc (.cells #[.slice a0 L.logs.length cap0, .slice a1 L.body.length cap1, .slice a2 L.outs.length cap2] 30)).alloc (.cells #[.int .i64 p0, .int .i64 p1, .int .i64 p2, .int .i64 q0, .int .i64 q1, .int .i64 q2, .int .i64 r] 49)) x1) := by show Below _ _ _; rw [← HS.out]; exact hb
    obtain ⟨⟨l0, l1, l2⟩, ⟨t0, t1, t2, t3, t4, t5, t6⟩, z0, z1, hbw⟩ := ebox_cells HB1.out
    have HW1 := hide hbw
    clear hb hbw
    go_wp2_with fail
    refine (HMY.out _ (hL.below HW1.out)).mono ?_
    rintro e x2 ⟨rfl, hb⟩
    have HW2 := hide (HW1.out.trans (hb.mono HW1.out.size))
    clear hb
    go_wp2_with fail
    go_ret
    exact ⟨by simp, HW2.out⟩
  | true =>
    have HMM : Hid (mayB L = true) := by
      have h := HMB.out
      rw [Bool.and_eq_true] at h
      exact h.1
    go_enter Try.func11, Try.ntmps11
    go_wp2_with fail
    refine (edgesC_yes hE (.agg #[.slice a0 L.logs.length cap0, .slice a1 L.body.length cap1, .slice a2 L.outs.length cap2]) ⟨p0, p1, p2, q0, q1, q2, r⟩ L _ (hL.below (below_alloc2 _ _ _)) HMB.out).mono ?_
    rintro e x1 ⟨ea, en, ec, rfl, hev, hb⟩
    have HB1 : Hid (Below (w.heap.size + 1 + 1) ((w.alloc (.cells #[.slice a0 L.logs.length cap0, .slice a1 L.body.length cap1, .slice a2 L.outs.length cap2] 30)).alloc (.cells #[.int .i64 p0, .int .i64 p1, .int .i64 p2, .int .i64 q0, .int .i64 q1, .int .i64 q2, .int .i64 r] 49)) x1) := by show Below _ _ _; rw [← HS.out]; exact hb
    obtain ⟨⟨l0, l1, l2⟩, ⟨t0, t1, t2, t3, t4, t5, t6⟩, z0, z1, hbw⟩ := ebox_cells HB1.out
    have HW1 := hide hbw
    have HEV := hide hev
    clear hb hbw hev
    go_wp2_with fail
    refine (HMY.out _ (hL.below HW1.out)).mono ?_
    rintro e x2 ⟨rfl, hb⟩
    have HB2 := hide (HB1.out.trans (hb.mono (by have := HB1.out.size; rw [HS.out] at this; omega)))
    have HEV2 := hide (HEV.out.below hb)
    clear l0 l1 l2 t0 t1 t2 t3 t4 t5 t6 z0 z1
    obtain ⟨⟨l0, l1, l2⟩, ⟨t0, t1, t2, t3, t4, t5, t6⟩, z0, z1, hbw⟩ := ebox_cells HB2.out
    have HW2 := hide hbw
    clear hb hbw
    go_wp2_with fail
    refine (redges_any (.agg #[.slice a0 L.logs.length cap0, .slice a1 L.body.length cap1, .slice a2 L.outs.length cap2]) ⟨p0, p1, p2, q0, q1, q2, r⟩ L _ (hL.below HW2.out) HMM.out).mono ?_
    rintro e x3 ⟨ev, rfl, hv, hb⟩
    have HEV3 := hide (HEV2.out.below hb)
    have HV3 := hide hv
    have HW3 := hide (HW2.out.trans (hb.mono HW2.out.size))
    clear hb hv
    clear l0 l1 l2 t0 t1 t2 t3 t4 t5 t6 z0 z1
    go_wp2_with fail
    refine (edges_same _ _ _ _ HEV3.out HV3.out).mono ?_
    rintro e x4 ⟨rfl, n4, rfl⟩
    go_wp2_with fail
    go_ret
    exact ⟨by simp, HW3.out.trans (below_draws _ _ _)⟩
theorem depTells_any (hE : EdgesC) (v : Value) (t : Tg) (L : Lp) (w : World) (hL : LoopV w v L) :
    Calls Try.prog 11 #[v, .agg t.cells] w fun e w' => e = .returned (.bool true) ∧ Below w.heap.size w w' := by
  obtain ⟨p0, p1, p2, q0, q1, q2, r⟩ := t
  have hL' := hL
  obtain ⟨v0, v1, v2, rfl, ⟨a0, cap0, rfl, -⟩, ⟨a1, cap1, rfl, -⟩, ⟨a2, cap2, rfl, -⟩⟩ := hL'
  exact depTells_walk hE p0 p1 p2 q0 q1 q2 r L a0 a1 a2 cap0 cap1 cap2 w hL
end Go.Proofs.Ytpljieenjkbmmaa
/- The contract of the document's own answer on units; nothing that was there is changed. -/
namespace Go.Proofs.Ytpljieenjkbmmaa
open Go.RowKit Go.Joins
set_option linter.unusedVariables false
set_option linter.unusedSimpArgs false
set_option maxRecDepth 8192

theorem cntC_le (L : Lp) (c : Nat) : cntC L c ≤ L.body.length := cnt_le _ _
theorem need_le {n u : Nat} (hu : 1 ≤ u) : needU n u ≤ n := (need_iff hu).1 (Nat.le_mul_of_pos_right n hu)
theorem paceU_le {L : Lp} {t : Tg} (hb : L.body.length ≤ 16) (hu : ∀ c : Nat, c < 3 → 1 ≤ (unitsT t c).toNat) : ∀ c, c ≤ 3 → 1 ≤ paceU L t c ∧ paceU L t c ≤ 16 := by
  intro c
  induction c with
  | zero => intro _; exact ⟨Nat.le_refl _, by show 1 ≤ 16; omega⟩
  | succ c ih =>
    intro hc
    have h1 := ih (by omega)
    have h2 := need_le (n := cntC L c) (hu c (by omega))
    have h3 := cntC_le L c
    show 1 ≤ max (paceU L t c) (needU (cntC L c) (unitsT t c).toNat) ∧ max (paceU L t c) (needU (cntC L c) (unitsT t c).toNat) ≤ 16
    omega
theorem unit_cell {p0 p1 p2 q0 q1 q2 r : Int} {w wr : World} {c : Nat} (hc : c < 3) (h0 : wr.cell? ⟨w.heap.size + 1, 0, none⟩ = some (.int .i64 p0)) (h1 : wr.cell? ⟨w.heap.size + 1, 1, none⟩ = some (.int .i64 p1)) (h2 : wr.cell? ⟨w.heap.size + 1, 2, none⟩ = some (.int .i64 p2)) : wr.cell? ⟨w.heap.size + 1, c, none⟩ = some (.int .i64 (unitsT ⟨p0, p1, p2, q0, q1, q2, r⟩ c)) := by
  obtain rfl | rfl | rfl : c = 0 ∨ c = 1 ∨ c = 2 := by omega
  · exact h0
  · exact h1
  · exact h2
theorem units_one {t : Tg} (h : mayT t = true) : ∀ c : Nat, ∃ u : Nat, unitsT t c = (u : Int) ∧ 1 ≤ u ∧ u ≤ 4 := by
  intro c
  obtain ⟨h1, h2, h3, -, -⟩ := mayT_parts h
  have h1 := unit_iff h1
  have h2 := unit_iff h2
  have h3 := unit_iff h3
  unfold unitsT
  split
  · exact ⟨t.u0.toNat, by omega, by omega, by omega⟩
  · split
    · exact ⟨t.u1.toNat, by omega, by omega, by omega⟩
    · exact ⟨t.u2.toNat, by omega, by omega, by omega⟩

set_option maxHeartbeats 8000000 in
theorem units7_walk (p0 p1 p2 q0 q1 q2 r : Int) (L : Lp) (v0 v2 : Value) (b off cap : Nat) (w : World) (hl : L.body.length ≤ cap) (hm : cap ≤ 9223372036854775807) (hb : b < w.heap.size) (hcell : ∀ i, i < L.body.length → ∀ j, j < 9 → w.cell? ⟨b, off + i * 9 + j, none⟩ = (stCells (stAt L.body i))[j]?) (h16 : L.body.length ≤ 16) (hmt : mayT ⟨p0, p1, p2, q0, q1, q2, r⟩ = true) :
    Calls Try.prog 47 #[.agg #[v0, .slice (some ⟨b, off, none⟩) L.body.length cap, v2], .agg #[.int .i64 p0, .int .i64 p1, .int .i64 p2, .int .i64 q0, .int .i64 q1, .int .i64 q2, .int .i64 r]] w fun e w' => e = .returned (.int .i64 (unitsB L ⟨p0, p1, p2, q0, q1, q2, r⟩)) ∧ Below w.heap.size w w' := by
  have HCE := hide hcell
  have HMT := hide hmt
  have HUU := hide (units_one hmt)
  have HPU := hide (paceU_le (L := L) (t := ⟨p0, p1, p2, q0, q1, q2, r⟩) h16 (fun c _ => by obtain ⟨u, h1, h2, _⟩ := units_one hmt c; rw [h1, Int.toNat_natCast]; exact h2))
  clear hcell hmt
  go_enter Try.func47, Try.ntmps47
  go_wp2_with fail
  go_loopw [5, 6] (fun pv i wr => ∃ c : Nat, c ≤ 3 ∧ i = .int .i64 c ∧ pv = .int .i64 (paceU L ⟨p0, p1, p2, q0, q1, q2, r⟩ c) ∧ Below (w.heap.size + 1 + 1) ((w.alloc (.cells #[v0, .slice (some ⟨b, off, none⟩) L.body.length cap, v2] 30)).alloc (.cells #[.int .i64 p0, .int .i64 p1, .int .i64 p2, .int .i64 q0, .int .i64 q1, .int .i64 q2, .int .i64 r] 49)) wr) (fun _ i _ => 3 - (intOf i).toNat)
  case atStart => exact ⟨0, by omega, rfl, rfl, Below.refl _ _⟩
  case round =>
    obtain ⟨c, hc, rfl, rfl, hbel⟩ := hrel
    have HB := hide hbel
    obtain ⟨⟨l0, l1, l2⟩, ⟨t0, t1, t2, t3, t4, t5, t6⟩, z0, z1, hbw⟩ := ebox_cells hbel
    have HBW := hide hbw
    have hpb := HPU.out c hc
    by_cases hcl : c < 3
    · have hci : (c : Int) < 3 := by omega
      have huc := unit_cell (q0 := q0) (q1 := q1) (q2 := q2) (r := r) hcl t0 t1 t2
      obtain ⟨u, hu, hu1, hu4⟩ := HUU.out c
      rw [hu] at huc
      have HNX : Hid (paceU L ⟨p0, p1, p2, q0, q1, q2, r⟩ (c + 1) = max (paceU L ⟨p0, p1, p2, q0, q1, q2, r⟩ c) (needU (cntC L c) u)) := by
        show max _ (needU (cntC L c) (unitsT _ c).toNat) = _
        rw [hu, Int.toNat_natCast]
      have HCN : Hid (cntC L c = cnt (fun i => decide (clsv (stAt L.body i).o = (c : Int))) L.body.length) := rfl
      obtain ⟨pa, hpa⟩ : ∃ pa, paceU L ⟨p0, p1, p2, q0, q1, q2, r⟩ c = pa := ⟨_, rfl⟩
      rw [hpa] at HNX hpb ⊢
      obtain ⟨hpb1, hpb2⟩ := hpb
      clear hbel hbw hu hpa t0 t1 t2 t3 t4 t5 t6 l0 l2
      rename World => wo
      go_wp2_with fail
      go_loopw [7, 8] (fun nv i wr => ∃ k : Nat, k ≤ L.body.length ∧ i = .int .i64 k ∧ nv = .int .i64 (cnt (fun i => decide (clsv (stAt L.body i).o = (c : Int))) k) ∧ wr = wo) (fun _ i _ => L.body.length - (intOf i).toNat)
      case atStart => exact ⟨0, Nat.zero_le _, rfl, rfl, rfl⟩
      case round =>
        obtain ⟨k, hk, rfl, rfl, rfl⟩ := hrel
        by_cases hkl : k < L.body.length
        · have hki : (k : Int) < (L.body.length : Int) := by omega
          have c0 := (nine (HCE.out k hkl)).1
          rw [← bcell HBW.out _ _ hb] at c0
          have hbz : b < wr.heap.size := by have := HBW.out.size; omega
          have HCL := hide (fun W => refClass_any (stAt L.body k).o W)
          have hcn := cnt_le (fun i => decide (clsv (stAt L.body i).o = (c : Int))) k
          have HST : Hid (∀ b, decide (clsv (stAt L.body k).o = (c : Int)) = b → cnt (fun i => decide (clsv (stAt L.body i).o = (c : Int))) (k + 1) = cnt (fun i => decide (clsv (stAt L.body i).o = (c : Int))) k + (if b = true then 1 else 0)) := fun b h => by subst h; rfl
          obtain ⟨cl, hcl2⟩ : ∃ cl, clsv (stAt L.body k).o = cl := ⟨_, rfl⟩
          rw [hcl2] at HCL HST
          generalize (stAt L.body k).o = oo at *
          generalize cnt (fun i => decide (clsv (stAt L.body i).o = (c : Int))) k = cn at *
          clear hcl2
          by_cases heq : cl = (c : Int)
          · have hb1 : (cl == (c : Int)) = true := by simpa using heq
            have HST2 := hide (HST.out true (decide_eq_true heq))
            clear heq HST
            go_wp2_with (go_at_call 19; refine (HCL.out _).mono ?_; rintro e w' ⟨rfl, hw'⟩; have hw' := hw'.symm; subst hw')
            go_roundw
            case rel => exact ⟨k + 1, by omega, by go_num, by rw [HST2.out]; simp, trivial⟩
            case measure => simp [intOf]; omega
          · have hb1 : (cl == (c : Int)) = false := by simpa using heq
            have HST2 := hide (HST.out false (decide_eq_false heq))
            clear heq HST
            go_wp2_with (go_at_call 19; refine (HCL.out _).mono ?_; rintro e w' ⟨rfl, hw'⟩; have hw' := hw'.symm; subst hw')
            go_roundw
            case rel => exact ⟨k + 1, by omega, by go_num, by rw [HST2.out]; simp, trivial⟩
            case measure => simp [intOf]; omega
        · have e : k = L.body.length := by omega
          subst e
          have hki : ¬ (L.body.length : Int) < (L.body.length : Int) := by omega
          rw [← HCN.out]
          have hcn := cntC_le L c
          generalize cntC L c = cn at *
          go_wp2_with fail
          go_loopw [5] (fun pv wr2 => ∃ q : Nat, pv = .int .i64 q ∧ pa ≤ q ∧ q ≤ max pa (needU cn u) ∧ wr2 = wr) (fun pv _ => 40 - (intOf pv).toNat)
          case atStart => exact ⟨pa, rfl, Nat.le_refl _, by omega, rfl⟩
          case round =>
            obtain ⟨q, rfl, hq1, hq2, rfl⟩ := hrel
            have hnl := need_le (n := cn) hu1
            have hqb : q ≤ 16 := by omega
            obtain ⟨qu, hqu⟩ : ∃ qu : Nat, q * u = qu := ⟨_, rfl⟩
            have hqi : (q : Int) * (u : Int) = (qu : Int) := by rw [← Int.natCast_mul, hqu]
            have hqub : qu ≤ 64 := by rw [← hqu]; exact Nat.mul_le_mul hqb hu4
            have hni := need_iff (n := cn) (q := q) hu1
            rw [hqu] at hni
            have HNI := hide hni
            clear hni hqu
            by_cases hlt : qu < cn
            · have hlti : (qu : Int) < (cn : Int) := by omega
              have HQ : Hid (q < needU cn u) := by show q < _; have := HNI.out; omega
              go_wp2_with fail
              go_roundw
              case rel => exact ⟨q + 1, by go_num, by omega, by have := HQ.out; omega, trivial⟩
              case measure => simp [intOf]; omega
            · have hlti : ¬ (qu : Int) < (cn : Int) := by omega
              have HQ : Hid (q = max pa (needU cn u)) := by show q = _; have := HNI.out; omega
              go_wp2_with fail
              go_roundw
              case rel => exact ⟨c + 1, by omega, by go_num, by rw [HNX.out, ← HQ.out], HB.out⟩
              case measure => simp [intOf]; omega
    · have e : c = 3 := by omega
      subst e
      clear hbel hbw
      go_wp2_with fail
      go_ret
      exact ⟨rfl, HBW.out⟩
end Go.Proofs.Ytpljieenjkbmmaa
/- The contract of the document's own answer on rounds of edges; nothing that was there is changed. -/
namespace Go.Proofs.Ytpljieenjkbmmaa
open Go.RowKit Go.Joins
set_option linter.unusedVariables false
set_option linter.unusedSimpArgs false
set_option maxRecDepth 8192

theorem Try.j3 : (Try.prog.info? 3).map (fun i => (i.zero, i.size, i.bytes)) = some (some (.int .i64 0), 1, 8) := by kernel_rfl
/-- an edge of a loop of n statements -/
def edOk (n : Nat) (e : Ed) : Prop := ∃ fr to bk wt : Nat, e = ⟨fr, to, bk, wt⟩ ∧ fr < n ∧ to < n ∧ bk ≤ 32 ∧ wt ≤ 6
theorem pass_same {p : Int} {l : List Ed} {a : Nat → Int} : ∀ k, k ≤ l.length → allN (fun j => okE p a (edAt l j)) k = true → passE p l a k = a := by
  intro k
  induction k with
  | zero => exact fun _ _ => rfl
  | succ k ih =>
    intro hk h
    have h1 : allN (fun j => okE p a (edAt l j)) k = true := allN_mk fun j hj => allN_get h j (by omega)
    show relE p (passE p l a k) (edAt l k) = a
    rw [ih (by omega) h1]
    have h2 := of_decide_eq_true (allN_get h k (by omega))
    unfold relE
    rw [if_neg (by omega)]
theorem pass_high {p : Int} {l : List Ed} {a : Nat → Int} {n : Nat} {B : Int} (hp : 0 ≤ p) (hl : ∀ e ∈ l, edOk n e) (ha : ∀ v, a v ≤ B) : ∀ k, k ≤ l.length → ∀ v, passE p l a k v ≤ B + 6 * k := by
  intro k
  induction k with
  | zero => intro _ v; have := ha v; show a v ≤ _; omega
  | succ k ih =>
    intro hk v
    show relE p (passE p l a k) (edAt l k) v ≤ _
    by_cases h : relE p (passE p l a k) (edAt l k) v = passE p l a k v
    · rw [h]; have := ih (by omega) v; omega
    · obtain ⟨h1, h2⟩ := rel_new h
      rw [h2]
      have h3 := ih (by omega) (edAt l k).fr.toNat
      obtain ⟨fr, to, bk, wt, he, -, -, h5, h6⟩ := hl _ (edAt_in (show k < l.length by omega))
      have h7 : 0 ≤ p * (bk : Int) := Int.mul_nonneg hp (by omega)
      have h8 : gapE p (edAt l k) ≤ 6 := by rw [he]; unfold gapE; show (wt : Int) - p * (bk : Int) ≤ 6; omega
      omega
theorem passR_high {p : Int} {l : List Ed} {n : Nat} (hp : 0 ≤ p) (hl : ∀ e ∈ l, edOk n e) : ∀ r v, passR p l r v ≤ 6 * ((r * l.length : Nat) : Int) := by
  intro r
  induction r with
  | zero => intro v; show (0 : Int) ≤ _; omega
  | succ r ih =>
    intro v
    have := pass_high hp hl ih l.length (Nat.le_refl _) v
    show passE p l (passR p l r) l.length v ≤ _
    rw [Nat.succ_mul, Int.natCast_add]
    omega
theorem passR_low {p : Int} {l : List Ed} (r v : Nat) : 0 ≤ passR p l r v := passR_le p l v 0 r (Nat.zero_le _)
theorem pass_low {p : Int} {l : List Ed} (r k v : Nat) : 0 ≤ passE p l (passR p l r) k v := Int.le_trans (passR_low r v) (pass_le p l _ v 0 k (Nat.zero_le _))
theorem exN_false {p : Nat → Bool} {k : Nat} (h : ∀ q, q < k → p q = false) : exN p k = false := by
  cases e : exN p k with
  | false => rfl
  | true =>
    obtain ⟨q, h1, h2⟩ := exN_iff.1 e
    rw [h q h1] at h2; cases h2

set_option maxHeartbeats 8000000 in
theorem rounds_any (n : Nat) (p : Int) (la : Option Addr) (lc : Nat) (l : List Ed) (w : World) (hE : EdgesV w (.slice la l.length lc) l) (hl : ∀ e ∈ l, edOk n e) (hn : n ≤ 16) (hp1 : 1 ≤ p) (hp2 : p ≤ 100) (hlen : l.length ≤ 60000) :
    Calls Try.prog 86 #[.int .i64 n, .slice la l.length lc, .int .i64 p] w fun e w' => e = .returned (.bool (roundsD n l p)) ∧ Below w.heap.size w w' := by
  obtain ⟨la', lc', he1, he2, he3, hec⟩ := hE
  injection he1 with e1 e2 e3
  subst e1; subst e3
  unfold maxLen at he3
  have HEC := hide hec
  have HL := hide hl
  have hmk := run_make_row' (P := Try.prog) 27 3 (.int .i64 0) 8 Try.underlying27 Try.j3 rfl .i64 .i64 n (by omega) (by omega)
  have H0 : Hid (RowF (w.alloc (.cells (madeCells #[.int .i64 0] n) 3)) w.heap.size 3 n (fun v => .int .i64 (passR p l 0 v))) := RowF.zeros w _ n _
  clear hec hl e2
  go_enter Try.func86, Try.ntmps86
  go_wp2_with fail
  go_loopw [8] (fun i wr => ∃ r : Nat, r ≤ n + 1 ∧ i = .int .i64 r ∧ (∀ q, q < r → stillE p l (passR p l q) = false) ∧ Below w.heap.size w wr ∧ RowF wr w.heap.size 3 n (fun v => .int .i64 (passR p l r v))) (fun i _ => n + 1 - (intOf i).toNat)
  case atStart => exact ⟨0, by omega, rfl, fun q hq => absurd hq (Nat.not_lt_zero _), below_alloc1 _ _, H0.out⟩
  case round =>
    clear H0 hmk
    obtain ⟨r, hr, rfl, hno, hbel, hrow⟩ := hrel
    have HNO := hide hno
    have HB := hide hbel
    have HROW := hide hrow
    clear hno hrow hbel
    by_cases hrl : r ≤ n
    · have hri : (r : Int) ≤ (n : Int) := by omega
      have hri2 : ¬ (n : Int) < (r : Int) := by omega
      rename World => wo
      go_wp2_with fail
      go_loopw [9, 10] (fun st i wr => ∃ k : Nat, k ≤ l.length ∧ i = .int .i64 k ∧ st = .bool (allN (fun j => okE p (passR p l r) (edAt l j)) k) ∧ Below w.heap.size w wr ∧ RowF wr w.heap.size 3 n (fun v => .int .i64 (passE p l (passR p l r) k v))) (fun _ i _ => l.length - (intOf i).toNat)
      case atStart => exact ⟨0, Nat.zero_le _, rfl, rfl, HB.out, HROW.out⟩
      case round =>
        obtain ⟨k, hk, rfl, rfl, hbel2, hrow2⟩ := hrel
        by_cases hkl : k < l.length
        · have hki : (k : Int) < (l.length : Int) := by omega
          obtain ⟨eb, eo, rfl, hebz, hecell⟩ := HEC.out (by omega)
          obtain ⟨c0, c1, c2, c3⟩ := fourE (hecell k hkl)
          rw [← bcell hbel2 _ _ hebz] at c0 c1 c2 c3
          have hebz2 : eb < wr.heap.size := by have := hbel2.size; omega
          obtain ⟨fr, to, bk, wt, hed, hfr, hto, hbk, hwt⟩ := HL.out _ (edAt_in hkl)
          have HST : Hid (∀ b, allN (fun j => okE p (passR p l r) (edAt l j)) k = b → allN (fun j => okE p (passR p l r) (edAt l j)) (k + 1) = (b && okE p (passR p l r) (edAt l k))) := fun b h => by show (allN _ k && _) = _; rw [h]
          have HSAME := hide (fun h => pass_same (p := p) (l := l) (a := passR p l r) k (by omega) h)
          have HREL : Hid (passE p l (passR p l r) (k + 1) = relE p (passE p l (passR p l r) k) (edAt l k)) := rfl
          have hhi := pass_high (p := p) (l := l) (a := passR p l r) (by omega) HL.out (passR_high (by omega) HL.out r) k hk
          have hlo := fun v => pass_low (p := p) (l := l) r k v
          have hr17 : r * l.length ≤ 16 * 60000 := Nat.mul_le_mul (by omega) hlen
          rw [hed] at c0 c1 c2 c3 HST HREL
          simp only at c0 c1 c2 c3
          have hcf := hrow2.cell hfr
          have hct := hrow2.cell hto
          have hft := hrow2.frozen to
          have hxz := hrow2.lt
          have hxf1 := hhi fr
          have hxf2 := hlo fr
          have hxt1 := hhi to
          have hxt2 := hlo to
          have HROW2 := hide hrow2
          have HB2 := hide hbel2
          have HSAMEX : Hid (allN (fun j => okE p (passR p l r) (edAt l j)) k = true → okE p (passR p l r) ⟨fr, to, bk, wt⟩ = decide (passE p l (passR p l r) k fr + ((wt : Int) - p * (bk : Int)) ≤ passE p l (passR p l r) k to)) := fun h => by rw [HSAME.out h]; rfl
          have HRELX : Hid (relE p (passE p l (passR p l r) k) ⟨fr, to, bk, wt⟩ = if passE p l (passR p l r) k to < passE p l (passR p l r) k fr + ((wt : Int) - p * (bk : Int)) then (fun v => if v = to then passE p l (passR p l r) k fr + ((wt : Int) - p * (bk : Int)) else passE p l (passR p l r) k v) else passE p l (passR p l r) k) := rfl
          obtain ⟨ak, hak⟩ : ∃ ak, passE p l (passR p l r) k = ak := ⟨_, rfl⟩
          rw [hak] at hcf hct hxf1 hxf2 hxt1 hxt2 HROW2 HSAMEX HRELX HREL
          obtain ⟨fk, hfk⟩ : ∃ b, allN (fun j => okE p (passR p l r) (edAt l j)) k = b := ⟨_, rfl⟩
          have HST2 := hide (HST.out fk hfk)
          rw [hfk] at HSAMEX
          rw [hfk]
          obtain ⟨xf, hxf⟩ : ∃ x, ak fr = x := ⟨_, rfl⟩
          obtain ⟨xt, hxt⟩ : ∃ x, ak to = x := ⟨_, rfl⟩
          rw [hxf] at hcf hxf1 hxf2 HSAMEX HRELX
          rw [hxt] at hct hxt1 hxt2 HSAMEX HRELX
          have hpb1 : 0 ≤ p * (bk : Int) := Int.mul_nonneg (by omega) (by omega)
          have hpb2 : p * (bk : Int) ≤ 100 * 32 := Int.mul_le_mul hp2 (by omega) (by omega) (by omega)
          have hfi : (fr : Int) < (n : Int) := by omega
          have hti : (to : Int) < (n : Int) := by omega
          obtain ⟨gp, hgp⟩ : ∃ gp, xf + (wt : Int) - p * (bk : Int) = gp := ⟨_, rfl⟩
          have hgp2 : xf + ((wt : Int) - p * (bk : Int)) = gp := by omega
          rw [hgp2] at HSAMEX HRELX
          have hgb : -10000 ≤ gp ∧ gp ≤ 100000000 := by omega
          obtain ⟨hgb1, hgb2⟩ := hgb
          clear hecell hed hrow2 hbel2 hhi hlo HSAME HST hxf1 hxf2 hxt1 hxt2 hgp2
          by_cases hup : xt < gp
          · have hupd : decide (xt < gp) = true := decide_eq_true hup
            have HN : Hid (passE p l (passR p l r) (k + 1) = fun v => if v = to then gp else ak v) := by show _ = _; rw [HREL.out, HRELX.out, if_pos hup]
            have HF : Hid (allN (fun j => okE p (passR p l r) (edAt l j)) (k + 1) = false) := by
              show _ = _
              rw [HST2.out]
              cases fk with
              | false => rfl
              | true => rw [HSAMEX.out rfl, decide_eq_false (by omega)]; rfl
            go_wp2_with fail
            go_big_quiet ((fail))
            go_wp2_with fail
            go_roundw
            case rel =>
              refine ⟨k + 1, by omega, by go_num, by rw [HF.out], ?_, ?_⟩
              · exact ((HB2.out.alloc HB2.out.size _).trans (below_draws _ _ _ |>.mono (by have := HB2.out.size; simp; omega))).setCell (Nat.le_refl _) _
              · rw [HN.out]
                have h := ((HROW2.out.alloc (.cells #[.int .i64 fr, .int .i64 to, .int .i64 bk, .int .i64 wt] 81)).drawn nq).set to (.int .i64 gp) hto
                refine h.congr fun v hv => ?_
                by_cases e : v = to
                · rw [if_pos e]; simp [e]
                · rw [if_neg e]; simp [e]
            case measure => simp [intOf]; omega
          · have hupd : decide (xt < gp) = false := decide_eq_false hup
            have HN : Hid (passE p l (passR p l r) (k + 1) = ak) := by show _ = _; rw [HREL.out, HRELX.out, if_neg hup]
            have HF : Hid (allN (fun j => okE p (passR p l r) (edAt l j)) (k + 1) = fk) := by
              show _ = _
              rw [HST2.out]
              cases fk with
              | false => rfl
              | true => rw [HSAMEX.out rfl, decide_eq_true (by omega)]; rfl
            go_wp2_with fail
            go_big_quiet ((fail))
            go_wp2_with fail
            go_roundw
            case rel =>
              refine ⟨k + 1, by omega, by go_num, by rw [HF.out], ?_, ?_⟩
              · exact (HB2.out.alloc HB2.out.size _).trans (below_draws _ _ _ |>.mono (by have := HB2.out.size; simp; omega))
              · rw [HN.out]
                exact (HROW2.out.alloc (.cells #[.int .i64 fr, .int .i64 to, .int .i64 bk, .int .i64 wt] 81)).drawn nq
            case measure => simp [intOf]; omega
        · have e : k = l.length := by omega
          subst e
          have hki : ¬ (l.length : Int) < (l.length : Int) := by omega
          have HB2 := hide hbel2
          have HROW2 := hide hrow2
          have HSE : Hid (stillE p l (passR p l r) = allN (fun j => okE p (passR p l r) (edAt l j)) l.length) := rfl
          obtain ⟨fk, hfk⟩ : ∃ b, allN (fun j => okE p (passR p l r) (edAt l j)) l.length = b := ⟨_, rfl⟩
          rw [hfk] at HSE ⊢
          clear hfk hbel2 hrow2
          cases fk with
          | true =>
            have HT : Hid (roundsD n l p = true) := exN_true (k := r) (by omega) HSE.out
            go_wp2_with fail
            go_ret
            exact ⟨ret_bool HT.out.symm, HB2.out⟩
          | false =>
            go_wp2_with fail
            go_roundw
            case rel =>
              refine ⟨r + 1, by omega, by go_num, fun q hq => ?_, HB2.out, HROW2.out⟩
              by_cases e : q = r
              · rw [e]; exact HSE.out
              · exact HNO.out q (by omega)
            case measure => simp [intOf]; omega
    · have e : r = n + 1 := by omega
      subst e
      have hri : ¬ ((n : Int) + 1) ≤ (n : Int) := by omega
      have hri2 : (n : Int) < (n : Int) + 1 := by omega
      have hri3 : ¬ (((n + 1 : Nat) : Int)) ≤ (n : Int) := by omega
      have HF : Hid (roundsD n l p = false) := exN_false HNO.out
      go_wp2_with fail
      go_ret
      exact ⟨ret_bool HF.out.symm, HB.out⟩
end Go.Proofs.Ytpljieenjkbmmaa
/- The contract of the document's own least pace by rounds; nothing that was there is changed. -/
namespace Go.Proofs.Ytpljieenjkbmmaa
open Go.RowKit Go.Joins
set_option linter.unusedVariables false
set_option linter.unusedSimpArgs false
set_option maxRecDepth 8192

theorem rounds_last {L : Lp} {t : Tg} {q : Nat} (hm : mayB L = true) (hq : 1 ≤ q) (h : roundsD L.body.length (edgesD L t) q = true) (hno : ∀ q' : Nat, 1 ≤ q' → q' < q → roundsD L.body.length (edgesD L t) q' = false) : roundsB L t = q := by
  obtain ⟨h1, h2, h3, h4⟩ := first_is 95 1 (rounds_some (t := t) hm)
  by_cases e : firstN (fun p : Nat => roundsD L.body.length (edgesD L t) p) 95 1 = q
  · exact e
  · exfalso
    by_cases hlt : firstN (fun p : Nat => roundsD L.body.length (edgesD L t) p) 95 1 < q
    · have h5 := hno _ h2 hlt
      have h6 : roundsD L.body.length (edgesD L t) (firstN (fun p : Nat => roundsD L.body.length (edgesD L t) p) 95 1 : Nat) = true := h1
      rw [h5] at h6; cases h6
    · have h5 := h4 q hq (by omega)
      have h6 : roundsD L.body.length (edgesD L t) (q : Nat) = false := h5
      rw [h] at h6; cases h6
theorem rounds_96 {L : Lp} {t : Tg} (hm : mayB L = true) {q : Nat} (hno : ∀ q' : Nat, 1 ≤ q' → q' < q → roundsD L.body.length (edgesD L t) q' = false) : q ≤ 96 := by
  obtain ⟨h1, h2, h3, h4⟩ := first_is 95 1 (rounds_some (t := t) hm)
  refine Classical.byContradiction fun hlt => ?_
  have h5 := hno _ h2 (by omega)
  have h6 : roundsD L.body.length (edgesD L t) (firstN (fun p : Nat => roundsD L.body.length (edgesD L t) p) 95 1 : Nat) = true := h1
  rw [h5] at h6; cases h6
set_option maxHeartbeats 4000000 in
theorem least7_walk (p0 p1 p2 q0 q1 q2 r : Int) (L : Lp) (v0 v2 : Value) (a1 : Option Addr) (cap : Nat) (w : World) (hL : LoopV w (.agg #[v0, .slice a1 L.body.length cap, v2]) L) (hm : mayB L = true) :
    Calls Try.prog 48 #[.agg #[v0, .slice a1 L.body.length cap, v2], .agg #[.int .i64 p0, .int .i64 p1, .int .i64 p2, .int .i64 q0, .int .i64 q1, .int .i64 q2, .int .i64 r]] w fun e w' => e = .returned (.int .i64 (roundsB L ⟨p0, p1, p2, q0, q1, q2, r⟩)) ∧ Below w.heap.size w w' := by
  obtain ⟨-, -, h16, -⟩ := may_parts hm
  have hlen : (edgesD L ⟨p0, p1, p2, q0, q1, q2, r⟩).length ≤ 60000 := by
    have := frD_len L ⟨p0, p1, p2, q0, q1, q2, r⟩ L.body.length h16
    have h2 : L.body.length * 3696 ≤ 16 * 3696 := Nat.mul_le_mul_right _ h16
    show (frD L ⟨p0, p1, p2, q0, q1, q2, r⟩ L.body.length).length ≤ 60000
    omega
  have HED := hide (fun W (h : LoopV W (.agg #[v0, .slice a1 L.body.length cap, v2]) L) => redges_any _ ⟨p0, p1, p2, q0, q1, q2, r⟩ L W h hm)
  have HOK : Hid (∀ e ∈ edgesD L ⟨p0, p1, p2, q0, q1, q2, r⟩, edOk L.body.length e) := fun e he => by
    obtain ⟨fr, to, bk, wt, h0, h1, h2, h3, h4, h5⟩ := edges_ok hm e he
    exact ⟨fr, to, bk, wt, h0, h1, h2, h5, h4⟩
  have HLAST := hide (fun q h1 h2 h3 => rounds_last (L := L) (t := ⟨p0, p1, p2, q0, q1, q2, r⟩) (q := q) hm h1 h2 h3)
  have H96 := hide (fun q h => rounds_96 (L := L) (t := ⟨p0, p1, p2, q0, q1, q2, r⟩) hm (q := q) h)
  have HL := hide hL
  clear hL hm
  go_enter Try.func48, Try.ntmps48
  go_wp2_with fail
  refine (HED.out _ (HL.out.below (below_alloc2 _ _ _))).mono ?_
  rintro e x1 ⟨ev, rfl, hev, hb⟩
  have hb1 : Below (w.heap.size + 1 + 1) ((w.alloc (.cells #[v0, .slice a1 L.body.length cap, v2] 30)).alloc (.cells #[.int .i64 p0, .int .i64 p1, .int .i64 p2, .int .i64 q0, .int .i64 q1, .int .i64 q2, .int .i64 r] 49)) x1 := by
    have hs : ((w.alloc (.cells #[v0, .slice a1 L.body.length cap, v2] 30)).alloc (.cells #[.int .i64 p0, .int .i64 p1, .int .i64 p2, .int .i64 q0, .int .i64 q1, .int .i64 q2, .int .i64 r] 49)).heap.size = w.heap.size + 1 + 1 := by simp
    rw [← hs]; exact hb
  have HB1 := hide hb1
  have HEV := hide hev
  obtain ⟨ea, ec, rfl, -⟩ := hev
  generalize edgesD L ⟨p0, p1, p2, q0, q1, q2, r⟩ = es at *
  clear hb hb1
  go_wp2_with fail
  go_loopw [6] (fun pv wr => ∃ q : Nat, pv = .int .i64 q ∧ 1 ≤ q ∧ (∀ q' : Nat, 1 ≤ q' → q' < q → roundsD L.body.length es q' = false) ∧ Below x1.heap.size x1 wr) (fun pv _ => 100 - (intOf pv).toNat)
  case atStart => exact ⟨1, rfl, Nat.le_refl _, fun q' h1 h2 => absurd h2 (by omega), Below.refl _ _⟩
  case round =>
    obtain ⟨q, rfl, hq1, hno, hbel⟩ := hrel
    have hq96 := H96.out q hno
    have HNO := hide hno
    have HBL := hide hbel
    obtain ⟨⟨l0, l1, l2⟩, -, z0, z1, hbw⟩ := ebox_cells (HB1.out.trans (hbel.mono (by have := HB1.out.size; simp at this; omega)))
    have HBW := hide hbw
    obtain ⟨rb, hrb⟩ : ∃ b, roundsD L.body.length es (q : Int) = b := ⟨_, rfl⟩
    have HRO : Hid (Calls Try.prog 86 #[.int .i64 L.body.length, .slice ea es.length ec, .int .i64 q] wr fun e w' => e = .returned (.bool rb) ∧ Below wr.heap.size wr w') := by
      show Calls _ _ _ _ _
      rw [← hrb]
      exact rounds_any L.body.length q ea ec es wr (HEV.out.below hbel) HOK.out h16 (by omega) (by omega) hlen
    have HRB := hide hrb
    clear hno hbel hbw hrb l0 l2
    cases rb with
    | true =>
      have HE := hide (HLAST.out q hq1 HRB.out HNO.out)
      go_wp2_with fail
      refine HRO.out.mono ?_
      rintro e x2 ⟨rfl, hb2⟩
      have HX2 := hide (HBW.out.trans (hb2.mono HBW.out.size))
      clear hb2
      go_wp2_with fail
      go_ret
      exact ⟨ret_int (by rw [HE.out]), HX2.out⟩
    | false =>
      go_wp2_with fail
      refine HRO.out.mono ?_
      rintro e x2 ⟨rfl, hb2⟩
      have HX2 := hide (HBL.out.trans (hb2.mono HBL.out.size))
      clear hb2
      go_wp2_with fail
      go_roundw
      case rel =>
        refine ⟨q + 1, by go_num, by omega, fun q' h1 h2 => ?_, HX2.out⟩
        by_cases e : q' = q
        · rw [e]; exact HRB.out
        · exact HNO.out q' h1 (by omega)
      case measure => simp [intOf]; omega
end Go.Proofs.Ytpljieenjkbmmaa
/- BoundTells' walk: for every loop and machine in memory the law returns true, if the program's Bound answers as BoundC says; nothing that was there is changed. -/
namespace Go.Proofs.Ytpljieenjkbmmaa
open Go.RowKit Go.Joins
set_option linter.unusedVariables false
set_option linter.unusedSimpArgs false
set_option maxRecDepth 8192

/-- how the program tells the least paces -/
def BoundC : Prop := ∀ (v : Value) (t : Tg) (L : Lp) (w : World), LoopV w v L →
  Calls Try.prog 46 #[v, .agg t.cells] w fun e w' => (if (mayB L && mayT t) = true then e = .returned (.tuple #[.int .i64 (unitsB L t), .int .i64 (roundsB L t), .int .i64 0]) else e = .returned (.tuple #[.int .i64 0, .int .i64 0, .int .i64 2])) ∧ Below w.heap.size w w'
theorem units7_any (t : Tg) (L : Lp) (v : Value) (w : World) (hL : LoopV w v L) (hm : mayB L = true) (hmt : mayT t = true) :
    Calls Try.prog 47 #[v, .agg t.cells] w fun e w' => e = .returned (.int .i64 (unitsB L t)) ∧ Below w.heap.size w w' := by
  obtain ⟨-, h1, h16, -⟩ := may_parts hm
  obtain ⟨v0, v1, v2, rfl, -, ⟨a, cap, rfl, hl, hc, h4⟩, -⟩ := hL
  obtain ⟨b, off, rfl, hb, hcell⟩ := h4 (by omega)
  obtain ⟨p0, p1, p2, q0, q1, q2, r⟩ := t
  exact units7_walk p0 p1 p2 q0 q1 q2 r L v0 v2 b off cap w hl (by unfold maxLen at hc; omega) hb hcell h16 hmt
theorem least7_any (t : Tg) (L : Lp) (v : Value) (w : World) (hL : LoopV w v L) (hm : mayB L = true) :
    Calls Try.prog 48 #[v, .agg t.cells] w fun e w' => e = .returned (.int .i64 (roundsB L t)) ∧ Below w.heap.size w w' := by
  have hL' := hL
  obtain ⟨v0, v1, v2, rfl, -, ⟨a, cap, rfl, hl, hc, h4⟩, -⟩ := hL'
  obtain ⟨p0, p1, p2, q0, q1, q2, r⟩ := t
  exact least7_walk p0 p1 p2 q0 q1 q2 r L v0 v2 a cap w hL hm

set_option maxHeartbeats 4000000 in
theorem boundTells_walk (hBound : BoundC) (p0 p1 p2 q0 q1 q2 r : Int) (L : Lp) (a0 a1 a2 : Option Addr) (cap0 cap1 cap2 : Nat) (w : World) (hL : LoopV w (.agg #[.slice a0 L.logs.length cap0, .slice a1 L.body.length cap1, .slice a2 L.outs.length cap2]) L) :
    Calls Try.prog 13 #[.agg #[.slice a0 L.logs.length cap0, .slice a1 L.body.length cap1, .slice a2 L.outs.length cap2], .agg #[.int .i64 p0, .int .i64 p1, .int .i64 p2, .int .i64 q0, .int .i64 q1, .int .i64 q2, .int .i64 r]] w fun e w' => e = .returned (.bool true) ∧ Below w.heap.size w w' := by
  have HBO := hide (fun W (h : LoopV W (.agg #[.slice a0 L.logs.length cap0, .slice a1 L.body.length cap1, .slice a2 L.outs.length cap2]) L) => hBound _ ⟨p0, p1, p2, q0, q1, q2, r⟩ L W h)
  have HMAY := hide (fun W (h : LoopV W (.agg #[.slice a0 L.logs.length cap0, .slice a1 L.body.length cap1, .slice a2 L.outs.length cap2]) L) => rdmay_walk p0 p1 p2 q0 q1 q2 r L a0 a1 a2 cap0 cap1 cap2 W h)
  have HL := hide hL
  clear hL
  cases h : (mayB L && mayT ⟨p0, p1, p2, q0, q1, q2, r⟩) with
  | false =>
    rw [h] at HMAY
    have HBO2 : Hid (∀ W, LoopV W (.agg #[.slice a0 L.logs.length cap0, .slice a1 L.body.length cap1, .slice a2 L.outs.length cap2]) L → Calls Try.prog 46 #[.agg #[.slice a0 L.logs.length cap0, .slice a1 L.body.length cap1, .slice a2 L.outs.length cap2], .agg #[.int .i64 p0, .int .i64 p1, .int .i64 p2, .int .i64 q0, .int .i64 q1, .int .i64 q2, .int .i64 r]] W fun e w' => e = .returned (.tuple #[.int .i64 0, .int .i64 0, .int .i64 2]) ∧ Below W.heap.size W w') := fun W hW => by
      have h2 := HBO.out W hW
      rw [h] at h2
      exact h2
    clear h HBO
    go_enter Try.func13, Try.ntmps13
    go_wp2_with fail
    refine (HBO2.out _ (HL.out.below (below_alloc2 _ _ _))).mono ?_
    rintro e x1 ⟨rfl, hb⟩
    have hb1 : Below (w.heap.size + 1 + 1) ((w.alloc (.cells #[.slice a0 L.logs.length cap0, .slice a1 L.body.length cap1, .slice a2 L.outs.length cap2] 30)).alloc (.cells #[.int .i64 p0, .int .i64 p1, .int .i64 p2, .int .i64 q0, .int .i64 q1, .int .i64 q2, .int .i64 r] 49)) x1 := by
      have hs : ((w.alloc (.cells #[.slice a0 L.logs.length cap0, .slice a1 L.body.length cap1, .slice a2 L.outs.length cap2] 30)).alloc (.cells #[.int .i64 p0, .int .i64 p1, .int .i64 p2, .int .i64 q0, .int .i64 q1, .int .i64 q2, .int .i64 r] 49)).heap.size = w.heap.size + 1 + 1 := by simp
      rw [← hs]; exact hb
    obtain ⟨⟨l0, l1, l2⟩, ⟨t0, t1, t2, t3, t4, t5, t6⟩, z0, z1, hbw⟩ := ebox_cells hb1
    have HB := hide hbw
    clear hb hb1 hbw
    go_wp2_with fail
    refine (HMAY.out _ (HL.out.below HB.out)).mono ?_
    rintro e x2 ⟨rfl, hb⟩
    have HB2 := hide (HB.out.trans (hb.mono HB.out.size))
    clear hb
    go_wp2_with fail
    go_ret
    exact ⟨rfl, HB2.out⟩
  | true =>
    have hm : mayB L = true ∧ mayT ⟨p0, p1, p2, q0, q1, q2, r⟩ = true := by simpa using h
    rw [h] at HMAY
    have HBO2 : Hid (∀ W, LoopV W (.agg #[.slice a0 L.logs.length cap0, .slice a1 L.body.length cap1, .slice a2 L.outs.length cap2]) L → Calls Try.prog 46 #[.agg #[.slice a0 L.logs.length cap0, .slice a1 L.body.length cap1, .slice a2 L.outs.length cap2], .agg #[.int .i64 p0, .int .i64 p1, .int .i64 p2, .int .i64 q0, .int .i64 q1, .int .i64 q2, .int .i64 r]] W fun e w' => e = .returned (.tuple #[.int .i64 (unitsB L ⟨p0, p1, p2, q0, q1, q2, r⟩), .int .i64 (roundsB L ⟨p0, p1, p2, q0, q1, q2, r⟩), .int .i64 0]) ∧ Below W.heap.size W w') := fun W hW => by
      have h2 := HBO.out W hW
      rw [h] at h2
      exact h2
    have HUN := hide (fun W (h : LoopV W (.agg #[.slice a0 L.logs.length cap0, .slice a1 L.body.length cap1, .slice a2 L.outs.length cap2]) L) => units7_any ⟨p0, p1, p2, q0, q1, q2, r⟩ L _ W h hm.1 hm.2)
    have HLE := hide (fun W (h : LoopV W (.agg #[.slice a0 L.logs.length cap0, .slice a1 L.body.length cap1, .slice a2 L.outs.length cap2]) L) => least7_any ⟨p0, p1, p2, q0, q1, q2, r⟩ L _ W h hm.1)
    generalize unitsB L ⟨p0, p1, p2, q0, q1, q2, r⟩ = ub at *
    generalize roundsB L ⟨p0, p1, p2, q0, q1, q2, r⟩ = rb at *
    clear h HBO hm
    go_enter Try.func13, Try.ntmps13
    go_wp2_with fail
    refine (HBO2.out _ (HL.out.below (below_alloc2 _ _ _))).mono ?_
    rintro e x1 ⟨rfl, hb⟩
    have hb1 : Below (w.heap.size + 1 + 1) ((w.alloc (.cells #[.slice a0 L.logs.length cap0, .slice a1 L.body.length cap1, .slice a2 L.outs.length cap2] 30)).alloc (.cells #[.int .i64 p0, .int .i64 p1, .int .i64 p2, .int .i64 q0, .int .i64 q1, .int .i64 q2, .int .i64 r] 49)) x1 := by
      have hs : ((w.alloc (.cells #[.slice a0 L.logs.length cap0, .slice a1 L.body.length cap1, .slice a2 L.outs.length cap2] 30)).alloc (.cells #[.int .i64 p0, .int .i64 p1, .int .i64 p2, .int .i64 q0, .int .i64 q1, .int .i64 q2, .int .i64 r] 49)).heap.size = w.heap.size + 1 + 1 := by simp
      rw [← hs]; exact hb
    have HB1 := hide hb1
    obtain ⟨⟨l0, l1, l2⟩, ⟨t0, t1, t2, t3, t4, t5, t6⟩, z0, z1, hbw⟩ := ebox_cells hb1
    have HB := hide hbw
    clear hb hb1 hbw
    go_wp2_with fail
    refine (HMAY.out _ (HL.out.below HB.out)).mono ?_
    rintro e x2 ⟨rfl, hb⟩
    have hb2 := HB1.out.trans (hb.mono (by have := HB1.out.size; simp at this; omega))
    have HB2 := hide hb2
    clear l0 l1 l2 t0 t1 t2 t3 t4 t5 t6 z0 z1
    obtain ⟨⟨l0, l1, l2⟩, ⟨t0, t1, t2, t3, t4, t5, t6⟩, z0, z1, hbw⟩ := ebox_cells hb2
    have HBW2 := hide hbw
    clear hb hb2 hbw
    go_wp2_with fail
    refine (HUN.out _ (HL.out.below HBW2.out)).mono ?_
    rintro e x3 ⟨rfl, hb⟩
    have hb3 := HB2.out.trans (hb.mono (by have := HB2.out.size; simp at this; omega))
    have HB3 := hide hb3
    clear l0 l1 l2 t0 t1 t2 t3 t4 t5 t6 z0 z1
    obtain ⟨⟨l0, l1, l2⟩, ⟨t0, t1, t2, t3, t4, t5, t6⟩, z0, z1, hbw⟩ := ebox_cells hb3
    have HBW3 := hide hbw
    clear hb hb3 hbw
    go_wp2_with fail
    refine (HLE.out _ (HL.out.below HBW3.out)).mono ?_
    rintro e x4 ⟨rfl, hb⟩
    have HBW4 := hide (HBW3.out.trans (hb.mono HBW3.out.size))
    clear hb
    go_wp2_with fail
    go_ret
    exact ⟨by simp, HBW4.out⟩
theorem boundTells_any (hBound : BoundC) (v : Value) (t : Tg) (L : Lp) (w : World) (hL : LoopV w v L) : Calls Try.prog 13 #[v, .agg t.cells] w fun e w' => e = .returned (.bool true) ∧ Below w.heap.size w w' := by
  have hL' := hL
  obtain ⟨v0, v1, v2, rfl, ⟨a0, cap0, rfl, -⟩, ⟨a1, cap1, rfl, -⟩, ⟨a2, cap2, rfl, -⟩⟩ := hL'
  obtain ⟨p0, p1, p2, q0, q1, q2, r⟩ := t
  exact boundTells_walk hBound p0 p1 p2 q0 q1 q2 r L a0 a1 a2 cap0 cap1 cap2 w hL
end Go.Proofs.Ytpljieenjkbmmaa
