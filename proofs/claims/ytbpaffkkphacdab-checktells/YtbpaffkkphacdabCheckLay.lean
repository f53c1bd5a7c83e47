/- Package check's lay: a kernel laid against a loop, in memory. -/
import Derived.Test.YtbpaffkkphacdabCheckC
import Derived.Test.YtbpaffkkphacdabTarget
import Derived.Test.YtbpaffkkphacdabDepQ
import Derived.Test.YtbpaffkkphacdabSchedA
namespace Go.Proofs.Ytbpaffkkphacdab
open Go.RowKit Go.Joins
set_option linter.unusedVariables false
set_option linter.unusedSimpArgs false
set_option maxRecDepth 8192

/-- the first k of a list of numbers -/
def upTo (f : Nat → Int) (k : Nat) : List Int := (List.range k).map f
theorem upTo_snoc (f : Nat → Int) (k : Nat) : upTo f (k + 1) = upTo f k ++ [f k] := by unfold upTo; rw [List.range_succ, List.map_append]; rfl
theorem Try.iintC : (Try.prog.info? 3).map (fun i => (i.zero, i.size, i.bytes)) = some (some (.int .i64 0), 1, 8) := by kernel_rfl
theorem Try.ireadC : (Try.prog.info? 174).map (fun i => (i.zero, i.size, i.bytes)) = some (some (.agg #[.int .i64 0, .int .i64 0, .int .i64 0, .int .i64 0, .int .i64 0]), 5, 40) := by kernel_rfl
theorem csame_o {L : Lp} {K : Kn} {O : List Int} {s : Nat} (h : sameD L K O s = true) : (opJ K O s).o = (stAt L.body s).o := by
  unfold sameD at h
  simp only [Bool.and_eq_true, decide_eq_true_eq] at h
  exact h.1.1.1.1
theorem one_cellC (w : World) (v : Value) (e : TypeId) {B : Nat} (hB : w.heap.size = B) : ∀ (j : Nat) (u : Value), [v][j]? = some u → (w.alloc (.cells #[v] e)).cell? ((⟨B, 0, none⟩ : Addr).add j) = some u := by
  subst hB
  intro j u hj
  have ha : (⟨w.heap.size, 0, none⟩ : Addr).add j = ⟨w.heap.size, j, none⟩ := by simp [Addr.add]; omega
  rw [ha, cell_of_block (new_blkC w #[v] e)]
  simpa using hj
theorem below_ac2 (X : World) (o : Obj) : Below X.heap.size X (X.drew.alloc o) := (below_draws _ _ 1).trans ((below_alloc1 X.drew o))
theorem below_ac3 (X : World) (o o' : Obj) : Below X.heap.size X ((X.drew.alloc o).alloc o') := (below_ac2 X o).trans ((below_alloc1 (X.drew.alloc o) o').mono (below_ac2 X o).size)
/-- a row has grown, and its slice was stored: what lies elsewhere stays -/
theorem stay_blk {x w1 : World} {base y o b : Nat} {e e' : TypeId} {sz n : Nat} {v u : Value} {xs : List Value} {cs : Array Value} (ho : x.ownsRow base e sz v n xs) (hg : x.grownBy w1 v.ownBlock) (hb : x.heap[b]? = some (.cells cs e' (0, 0))) (he : e' ≠ e) (hy : b ≠ y) : (w1.setCell ⟨y, o, none⟩ u).heap[b]? = some (.cells cs e' (0, 0)) := by
  rw [Below.heap_setCell _ _ _ _ hy]; exact grown_at ho hg hb he

set_option maxHeartbeats 32000000 in
theorem clay_walk (p0 p1 p2 q0 q1 q2 r pc st : Int) (ops : List Kop) (L : Lp) (O : List Int) (a0 a2 : Option Addr) (bb bo kb ko ob oo cap0 cap1 cap2 kc oc : Nat) (w : World) (hl : layD L ⟨p0, p1, p2, q0, q1, q2, r⟩ ⟨pc, st, ops⟩ O = true)
    (hbb : bb < w.heap.size) (hbc : L.body.length ≤ cap1) (hbm : cap1 ≤ 9223372036854775807) (hbody : ∀ i, i < L.body.length → ∀ j, j < 9 → w.cell? ⟨bb, bo + i * 9 + j, none⟩ = (stCells (stAt L.body i))[j]?)
    (hkb : kb < w.heap.size) (hkc : ops.length ≤ kc) (hkm : kc ≤ 9223372036854775807) (hops : ∀ i, i < ops.length → ∀ j, j < 10 → w.cell? ⟨kb, ko + i * 10 + j, none⟩ = (kCells (opAt ops i))[j]?)
    (hob : ob < w.heap.size) (hoc : O.length ≤ oc) (hom : oc ≤ 9223372036854775807) (hord : ∀ i, i < O.length → w.cell? ⟨ob, oo + i, none⟩ = some (.int .i64 (nth O i))) :
    Calls Try.prog 81 #[.agg #[.slice a0 L.logs.length cap0, .slice (some ⟨bb, bo, none⟩) L.body.length cap1, .slice a2 L.outs.length cap2], .agg #[.int .i64 p0, .int .i64 p1, .int .i64 p2, .int .i64 q0, .int .i64 q1, .int .i64 q2, .int .i64 r], .agg #[.int .i64 pc, .int .i64 st, .slice (some ⟨kb, ko, none⟩) ops.length kc], .slice (some ⟨ob, oo, none⟩) O.length oc] w fun e w' => e = .returned (.pointer (some ⟨(w.heap.size + 1 + 1 + 1), 0, none⟩)) ∧ Below w.heap.size w w' ∧ ∃ ta tc ra rc pa pq da dc, LyM (((w.alloc (.cells #[.slice a0 L.logs.length cap0, .slice (some ⟨bb, bo, none⟩) L.body.length cap1, .slice a2 L.outs.length cap2] 25)).alloc (.cells #[.int .i64 p0, .int .i64 p1, .int .i64 p2, .int .i64 q0, .int .i64 q1, .int .i64 q2, .int .i64 r] 28)).alloc (.cells #[.int .i64 pc, .int .i64 st, .slice (some ⟨kb, ko, none⟩) ops.length kc] 40)) (w.heap.size + 1 + 1 + 1) (.slice a0 L.logs.length cap0) (.slice (some ⟨bb, bo, none⟩) L.body.length cap1) (.slice a2 L.outs.length cap2) pc r (.slice ta L.body.length tc) (.slice ra L.body.length rc) (.slice pa L.body.length pq) (.slice da (readsD L ⟨pc, st, ops⟩ O).length dc) L.body.length L.body.length L.body.length (readsD L ⟨pc, st, ops⟩ O).length (upTo (timeJ ⟨pc, st, ops⟩ O) L.body.length) (upTo (readyJ ⟨p0, p1, p2, q0, q1, q2, r⟩ ⟨pc, st, ops⟩ O) L.body.length) (upTo (placeJ ⟨pc, st, ops⟩ O) L.body.length) (readsD L ⟨pc, st, ops⟩ O) w' := by
  obtain ⟨hm, hmt, hmk, h4, h5, h6⟩ := lay_parts hl
  obtain ⟨⟨hp1, hp2, hr1⟩, hrg⟩ := lay_range hl
  obtain ⟨-, hn1, hn16, -, -, -, h7⟩ := may_parts hm
  obtain ⟨i0, hi, hz0, hz1, hz2⟩ := info_parts Try.iintC
  obtain ⟨j0, hj, hy0, hy1, hy2⟩ := info_parts Try.ireadC
  simp only at hp1 hp2 hr1 h4
  have HRG := hide (fun (s : Nat) (hs : s < L.body.length) => hrg s hs)
  have HOPS := hide (fun (s : Nat) (hs : s < L.body.length) => lay_ops hl hs)
  have HSAM := hide (fun (s : Nat) (hs : s < L.body.length) => csame_o (h6 s hs).2)
  have HLOO := hide (fun (s : Nat) (hs : s < L.body.length) => looks_uses (allN_get h7 s hs))
  have HRL := hide (fun (k : Nat) (hk : k ≤ L.body.length) => reads_len (K := ⟨pc, st, ops⟩) (O := O) hm k hk)
  have HBO := hide hbody
  have HOP := hide hops
  have HOR := hide hord
  have HLN := hide (And.intro h4 h5)
  obtain ⟨x3, hx3⟩ : ∃ x3, (((w.alloc (.cells #[.slice a0 L.logs.length cap0, .slice (some ⟨bb, bo, none⟩) L.body.length cap1, .slice a2 L.outs.length cap2] 25)).alloc (.cells #[.int .i64 p0, .int .i64 p1, .int .i64 p2, .int .i64 q0, .int .i64 q1, .int .i64 q2, .int .i64 r] 28)).alloc (.cells #[.int .i64 pc, .int .i64 st, .slice (some ⟨kb, ko, none⟩) ops.length kc] 40)) = x3 := ⟨_, rfl⟩
  have hz3 : x3.heap.size = (w.heap.size + 1 + 1 + 1) := by rw [← hx3]; simp
  have HBZ := hide (show Below w.heap.size w x3 by rw [← hx3]; exact below_alloc3 w _ _ _)
  have HLK : Hid (∀ wr, Below (w.heap.size + 1 + 1 + 1) x3 wr → _) := fun wr hb => lkbox_cells (w := w) (wr := wr) (hx3 ▸ hb)
  have HST := hide (LyM.start x3 (.slice a0 L.logs.length cap0) (.slice (some ⟨bb, bo, none⟩) L.body.length cap1) (.slice a2 L.outs.length cap2) pc r)
  rw [hz3] at HST
  have HZ3 := hide hz3
  rw [hx3]
  have HX3 := hide hx3
  clear hbody hops hord hl hm hmt hmk h4 h5 h6 h7 hrg hx3 hz3
  go_enter Try.func81, Try.ntmps81
  go_wp2_with fail
  go_loopw [27] (fun i wr => ∃ k : Nat, k ≤ L.body.length ∧ i = .int .i64 k ∧ ∃ ta tc ra rc pa pq da dc, LyM x3 (w.heap.size + 1 + 1 + 1) (.slice a0 L.logs.length cap0) (.slice (some ⟨bb, bo, none⟩) L.body.length cap1) (.slice a2 L.outs.length cap2) pc r (.slice ta k tc) (.slice ra k rc) (.slice pa k pq) (.slice da (readsN L ⟨pc, st, ops⟩ O k).length dc) k k k (readsN L ⟨pc, st, ops⟩ O k).length (upTo (timeJ ⟨pc, st, ops⟩ O) k) (upTo (readyJ ⟨p0, p1, p2, q0, q1, q2, r⟩ ⟨pc, st, ops⟩ O) k) (upTo (placeJ ⟨pc, st, ops⟩ O) k) (readsN L ⟨pc, st, ops⟩ O k) wr) (fun i _ => L.body.length - (intOf i).toNat)
  case atStart => exact ⟨0, Nat.zero_le _, rfl, none, 0, none, 0, none, 0, none, 0, by rw [HX3.out]; exact HST.out⟩
  case round =>
    clear HST
    obtain ⟨k, hk, rfl, ta, tc, ra, rc, pa, pq, da, dc, hly⟩ := hrel
    have HLY := hide hly
    by_cases hkl : k < L.body.length
    · have hki : (k : Int) < (L.body.length : Int) := by omega
      have hkO : (k : Int) < (O.length : Int) := by have := HLN.out.2; omega
      obtain ⟨⟨l0, l1, l2⟩, ⟨t0, t1, t2, t3, t4, t5, t6⟩, ⟨k0, k1, k2⟩, hz, hbw⟩ := HLK.out _ hly.bel
      have HBW := hide hbw
      obtain ⟨c0, c1, c2, c3, c4, c5, c6, c7, c8⟩ := nine (fun j hj => (bcell hbw bb (bo + k * 9 + j) hbb).trans (HBO.out k hkl j hj))
      have hyz := hly.lt
      have hbz : bb < wr.heap.size := by omega
      obtain ⟨og0, og1, os0, os1, od0, od1, op0, op1, -, otm, onz, onl⟩ := HOPS.out k hkl
      obtain ⟨rg0, rg1, rg2, rg3⟩ := HRG.out k hkl
      obtain ⟨lk1, lk2⟩ := HLOO.out k hkl
      have hsam := HSAM.out k hkl
      obtain ⟨z, hzo⟩ : ∃ z : Nat, nth O k = z := ⟨(nth O k).toNat, by omega⟩
      have co := (bcell hbw ob (oo + k) hob).trans (HOR.out k (by have := HLN.out.2; omega))
      rw [hzo] at co onz onl
      have hzn : z < ops.length := by have := HLN.out.1; omega
      have hzi : (z : Int) < (ops.length : Int) := by omega
      obtain ⟨d0, d1, d2, d3, d4, d5, d6, d7, d8, d9⟩ := ten (fun j hj => (bcell hbw kb (ko + z * 10 + j) hkb).trans (HOP.out z hzn j hj))
      have hkz : kb < wr.heap.size := by omega
      have hoz : ob < wr.heap.size := by omega
      have hoJ : opJ ⟨pc, st, ops⟩ O k = opAt ops z := by unfold opJ ordJ; rw [hzo]; rfl
      have HRD : Hid (readsN L ⟨pc, st, ops⟩ O (k + 1) = readsN L ⟨pc, st, ops⟩ O k ++ readsU L ⟨pc, st, ops⟩ O k (usesL (stAt L.body k)).length) := rfl
      have HR0 : Hid (∀ i, i < (usesL (stAt L.body k)).length → readOf L ⟨pc, st, ops⟩ O k i = ⟨(if i = 1 then (stAt L.body k).ya else (stAt L.body k).xa), (if i = 1 then (stAt L.body k).yb else (stAt L.body k).xb), timeJ ⟨pc, st, ops⟩ O k, (opAt ops z).sg, if i = 1 then (opAt ops z).b else (opAt ops z).a⟩) := fun i hi => by
        unfold readOf
        rw [hoJ]
        have hu : refAt (usesL (stAt L.body k)) i = if i = 1 then ((stAt L.body k).ya, (stAt L.body k).yb) else ((stAt L.body k).xa, (stAt L.body k).xb) := by
          have hi2 : i < 2 := by omega
          unfold usesL at hi ⊢
          by_cases e4 : (stAt L.body k).o = 4
          · rw [if_pos e4] at hi ⊢
            have : i = 0 := by simp at hi; omega
            subst this; rfl
          · rw [if_neg e4] at hi ⊢
            by_cases e10 : 10 < (stAt L.body k).o
            · rw [if_pos e10]
              rcases (show i = 0 ∨ i = 1 by omega) with rfl | rfl <;> rfl
            · rw [if_neg e10] at hi; exact absurd hi (Nat.not_lt_zero _)
        rw [hu]
        by_cases e : i = 1
        · simp [e]
        · simp [e]
      have HRY : Hid (readyJ ⟨p0, p1, p2, q0, q1, q2, r⟩ ⟨pc, st, ops⟩ O k = timeJ ⟨pc, st, ops⟩ O k + waitT ⟨p0, p1, p2, q0, q1, q2, r⟩ (stAt L.body k).o) := by show timeJ ⟨pc, st, ops⟩ O k + waitT ⟨p0, p1, p2, q0, q1, q2, r⟩ (opJ ⟨pc, st, ops⟩ O k).o = _; rw [hsam]
      have HPL : Hid (placeJ ⟨pc, st, ops⟩ O k = (opAt ops z).d + (opAt ops z).sg) := by show (opJ ⟨pc, st, ops⟩ O k).d + (opJ ⟨pc, st, ops⟩ O k).sg = _; rw [hoJ]
      have HUS := hide lk1
      have HU2 := hide lk2
      have HUN : Hid ((usesL (stAt L.body k)).length = (usesL (stAt L.body k)).length) := rfl
      rw [hoJ] at og0 og1 os0 os1 od0 od1 otm hsam
      have HTS := hide (upTo_snoc (timeJ ⟨pc, st, ops⟩ O) k)
      have HRS := hide (upTo_snoc (readyJ ⟨p0, p1, p2, q0, q1, q2, r⟩ ⟨pc, st, ops⟩ O) k)
      have HPS := hide (upTo_snoc (placeJ ⟨pc, st, ops⟩ O) k)
      obtain ⟨un, hun⟩ : ∃ un, (usesL (stAt L.body k)).length = un := ⟨_, rfl⟩
      rw [hun] at HRD HR0 HUS HU2
      obtain ⟨tm, htm⟩ : ∃ tm, timeJ ⟨pc, st, ops⟩ O k = tm := ⟨_, rfl⟩
      obtain ⟨ry, hry⟩ : ∃ ry, readyJ ⟨p0, p1, p2, q0, q1, q2, r⟩ ⟨pc, st, ops⟩ O k = ry := ⟨_, rfl⟩
      obtain ⟨pt, hpt⟩ : ∃ pt, placeJ ⟨pc, st, ops⟩ O k = pt := ⟨_, rfl⟩
      rw [htm] at rg0 rg1 rg2 rg3 otm HR0 HRY HTS
      rw [hry] at rg2 rg3 HRY HRS
      rw [hpt] at op0 op1 HPL HPS
      generalize stAt L.body k = xk at *
      obtain ⟨so, xa, xb, ya, yb, ar, sp, pl, nn⟩ := xk
      generalize opAt ops z = ox at *
      obtain ⟨o0, o1, o2, o3, o4, o5, o6, o7, o8, o9⟩ := ox
      simp only at c0 c1 c2 c3 c4 c5 c6 c7 c8 d0 d1 d2 d3 d4 d5 d6 d7 d8 d9 og0 og1 os0 os1 od0 od1 otm hsam HR0 HRY HPL HUS
      clear hly hbw hun htm hry hpt hoJ hzo lk1 lk2 HUN hsam
      have HS5 : Hid (∀ w', Below wr.heap.size wr w' → w'.cell? ⟨w.heap.size + 1 + 1, 2, none⟩ = some (.slice (some ⟨kb, ko, none⟩) ops.length kc) ∧ w'.cell? ⟨ob, oo + k, none⟩ = some (.int .i64 (z : Int)) ∧ w'.cell? ⟨kb, ko + z * 10, none⟩ = some (.int .i64 o0) ∧ w'.cell? ⟨kb, ko + z * 10 + 1, none⟩ = some (.int .i64 o1) ∧ w'.cell? ⟨kb, ko + z * 10 + 2, none⟩ = some (.int .i64 o2) ∧ w'.cell? ⟨kb, ko + z * 10 + 3, none⟩ = some (.int .i64 o3) ∧ w'.cell? ⟨kb, ko + z * 10 + 4, none⟩ = some (.int .i64 o4) ∧ w'.cell? ⟨kb, ko + z * 10 + 5, none⟩ = some (.int .i64 o5) ∧ w'.cell? ⟨kb, ko + z * 10 + 6, none⟩ = some (.int .i64 o6) ∧ w'.cell? ⟨kb, ko + z * 10 + 7, none⟩ = some (.int .i64 o7) ∧ w'.cell? ⟨kb, ko + z * 10 + 8, none⟩ = some (.int .i64 o8) ∧ w'.cell? ⟨kb, ko + z * 10 + 9, none⟩ = some (.int .i64 o9)) := fun w' hb => ⟨(bcell hb (w.heap.size + 1 + 1) 2 hz).trans k2, (bcell hb ob (oo + k) hoz).trans co, (bcell hb kb (ko + z * 10) hkz).trans d0, (bcell hb kb (ko + z * 10 + 1) hkz).trans d1, (bcell hb kb (ko + z * 10 + 2) hkz).trans d2, (bcell hb kb (ko + z * 10 + 3) hkz).trans d3, (bcell hb kb (ko + z * 10 + 4) hkz).trans d4, (bcell hb kb (ko + z * 10 + 5) hkz).trans d5, (bcell hb kb (ko + z * 10 + 6) hkz).trans d6, (bcell hb kb (ko + z * 10 + 7) hkz).trans d7, (bcell hb kb (ko + z * 10 + 8) hkz).trans d8, (bcell hb kb (ko + z * 10 + 9) hkz).trans d9⟩
      go_wp2_with fail
      refine wp_region_noPanic ?_
      refine region_until 9 (fun w' => w'.cell? ⟨w.heap.size + 1 + 1, 2, none⟩ = some (.slice (some ⟨kb, ko, none⟩) ops.length kc) ∧ w'.cell? ⟨ob, oo + k, none⟩ = some (.int .i64 (z : Int)) ∧ w'.cell? ⟨kb, ko + z * 10, none⟩ = some (.int .i64 o0) ∧ w'.cell? ⟨kb, ko + z * 10 + 1, none⟩ = some (.int .i64 o1) ∧ w'.cell? ⟨kb, ko + z * 10 + 2, none⟩ = some (.int .i64 o2) ∧ w'.cell? ⟨kb, ko + z * 10 + 3, none⟩ = some (.int .i64 o3) ∧ w'.cell? ⟨kb, ko + z * 10 + 4, none⟩ = some (.int .i64 o4) ∧ w'.cell? ⟨kb, ko + z * 10 + 5, none⟩ = some (.int .i64 o5) ∧ w'.cell? ⟨kb, ko + z * 10 + 6, none⟩ = some (.int .i64 o6) ∧ w'.cell? ⟨kb, ko + z * 10 + 7, none⟩ = some (.int .i64 o7) ∧ w'.cell? ⟨kb, ko + z * 10 + 8, none⟩ = some (.int .i64 o8) ∧ w'.cell? ⟨kb, ko + z * 10 + 9, none⟩ = some (.int .i64 o9)) (by kernel_rfl) ⟨by go_simp, by go_simp, by go_simp, by go_simp, by go_simp, by go_simp, by go_simp, by go_simp, by go_simp, by go_simp, by go_simp, by go_simp⟩ (fun hHeld => ?_)
      refine utk (i := 0) rfl hHeld ?_
      try simp only [Act.put, List.setIfInBounds_toArray, List.set_cons_zero, List.set_cons_succ]
      refine utk (i := 1) rfl hHeld ?_
      try simp only [Act.put, List.setIfInBounds_toArray, List.set_cons_zero, List.set_cons_succ]
      refine utk (i := 2) rfl hHeld ?_
      try simp only [Act.put, List.setIfInBounds_toArray, List.set_cons_zero, List.set_cons_succ]
      refine utk (i := 3) rfl hHeld ?_
      try simp only [Act.put, List.setIfInBounds_toArray, List.set_cons_zero, List.set_cons_succ]
      refine utk (i := 4) rfl hHeld ?_
      try simp only [Act.put, List.setIfInBounds_toArray, List.set_cons_zero, List.set_cons_succ]
      refine utk (i := 5) rfl hHeld ?_
      try simp only [Act.put, List.setIfInBounds_toArray, List.set_cons_zero, List.set_cons_succ]
      refine utk (i := 6) rfl hHeld ?_
      try simp only [Act.put, List.setIfInBounds_toArray, List.set_cons_zero, List.set_cons_succ]
      refine utk (i := 7) rfl hHeld ?_
      try simp only [Act.put, List.setIfInBounds_toArray, List.set_cons_zero, List.set_cons_succ]
      obtain ⟨W0, hW0, hWb, hWz⟩ : ∃ W0, (wr.alloc (.cells #[.int .i64 so, .int .i64 xa, .int .i64 xb, .int .i64 ya, .int .i64 yb, .int .i64 ar, .int .i64 sp, .int .i64 pl, .int .i64 nn] 76)).drew = W0 ∧ Below wr.heap.size wr W0 ∧ W0.heap.size = wr.heap.size + 1 := ⟨_, rfl, (below_alloc1 wr (.cells #[.int .i64 so, .int .i64 xa, .int .i64 xb, .int .i64 ya, .int .i64 yb, .int .i64 ar, .int .i64 sp, .int .i64 pl, .int .i64 nn] 76)).trans (below_draws _ _ 1), by show (wr.alloc _).heap.size = _; simp⟩
      have hWs : W0.heap[wr.heap.size]? = some (.cells #[.int .i64 so, .int .i64 xa, .int .i64 xb, .int .i64 ya, .int .i64 yb, .int .i64 ar, .int .i64 sp, .int .i64 pl, .int .i64 nn] 76 (0, 0)) := by rw [← hW0]; exact new_blkC _ _ _
      have HWS := hide hWs
      have HWB := hide hWb
      have HWZ := hide hWz
      rw [hW0]
      rw [hW0] at hHeld
      have HA5 := hide (HS5.out _ (HWB.out.alloc HWB.out.size (.cells #[.int .i64 0, .int .i64 0, .int .i64 0, .int .i64 0, .int .i64 0, .int .i64 0, .int .i64 0, .int .i64 0, .int .i64 0, .int .i64 0] 91)))
      clear hW0 hWz hWs hWb
      refine until_one (i := 8) rfl (by kernel_rfl) (fun K hK => ?_)
      go_simp
      refine hK.out _ _ (.inr HA5.out) ?_
      clear hK K
      try simp only [Act.put, List.setIfInBounds_toArray, List.set_cons_zero, List.set_cons_succ]
      refine until_one (i := 9) rfl (by kernel_rfl) (fun K hK => ?_)
      go_simp
      refine hK.out _ _ (.inl rfl) ?_
      clear hK K
      try simp only [Act.put, List.setIfInBounds_toArray, List.set_cons_zero, List.set_cons_succ]
      refine until_done (by kernel_rfl) ?_ _
      refine NoPanic.normal ?_
      obtain ⟨b2, hb2⟩ : ∃ b2, W0.heap.size = b2 := ⟨_, rfl⟩
      obtain ⟨b1, hb1⟩ : ∃ b1, wr.heap.size = b1 := ⟨_, rfl⟩
      obtain ⟨X1, hX1⟩ : ∃ X1, W0.alloc (.cells #[.int .i64 o0, .int .i64 o1, .int .i64 o2, .int .i64 o3, .int .i64 o4, .int .i64 o5, .int .i64 o6, .int .i64 o7, .int .i64 o8, .int .i64 o9] 91) = X1 := ⟨_, rfl⟩
      have hXb : Below wr.heap.size wr X1 := by rw [← hX1]; exact HWB.out.alloc HWB.out.size _
      have HLY1 := hide (HLY.out.below hXb)
      have HB1 : Hid (X1.heap[b1]? = some (.cells #[.int .i64 so, .int .i64 xa, .int .i64 xb, .int .i64 ya, .int .i64 yb, .int .i64 ar, .int .i64 sp, .int .i64 pl, .int .i64 nn] 76 (0, 0))) := by show _ = _; rw [← hX1, ← hb1, Below.heap_alloc _ _ _ (by rw [HWZ.out]; omega)]; exact HWS.out
      have HB2 : Hid (X1.heap[b2]? = some (.cells #[.int .i64 o0, .int .i64 o1, .int .i64 o2, .int .i64 o3, .int .i64 o4, .int .i64 o5, .int .i64 o6, .int .i64 o7, .int .i64 o8, .int .i64 o9] 91 (0, 0))) := by show _ = _; rw [← hX1, ← hb2]; exact new_blkC _ _ _
      have hb12 : b2 = b1 + 1 := by rw [← hb2, HWZ.out, hb1]
      have hyb : (w.heap.size + 1 + 1 + 1) < b1 := by rw [← hb1]; exact hyz
      have hyb2 : (w.heap.size + 1 + 1 + 1) < b2 := by omega
      have hb1z : b1 < X1.heap.size := (Array.getElem?_eq_some_iff.1 HB1.out).1
      have hb2z : b2 < X1.heap.size := (Array.getElem?_eq_some_iff.1 HB2.out).1
      rw [hX1, hb1, hb2]
      clear hb12 hX1 hb1 hb2 hXb HWS HWB HWZ HA5 HS5 hHeld hz c0 c1 c2 c3 c4 c5 c6 c7 c8 d0 d1 d2 d3 d4 d5 d6 d7 d8 d9 l0 l1 l2 t0 t1 t2 t3 t4 t5 t6 k0 k1 k2 co hyz hbz hkz hoz
      obtain ⟨⟨l0, l1, l2⟩, ⟨t0, t1, t2, t3, t4, t5, t6⟩, ⟨k0, k1, k2⟩, hz, -⟩ := HLK.out _ HLY1.out.bel
      obtain ⟨-, -, -, -, -, y5, -⟩ := HLY1.out.cells
      have hyz := HLY1.out.lt
      have m0 : X1.cell? ⟨b2, 0, none⟩ = some (.int .i64 o0) := by rw [cell_of_block HB2.out]; rfl
      have m1 : X1.cell? ⟨b2, 1, none⟩ = some (.int .i64 o1) := by rw [cell_of_block HB2.out]; rfl
      obtain ⟨mu, hmu⟩ : ∃ mu, o1 * pc = mu := ⟨_, rfl⟩
      rw [hmu] at otm
      have hw1 : wrap64 (o1 * pc) = mu := by rw [hmu]; unfold wrap64; omega
      have hw2 : wrap64 (o0 + mu) = tm := by unfold wrap64; omega
      clear hmu otm
      have HLA := hide (HLY1.out.below (below_alloc1 X1 (.cells #[.int .i64 tm] 3)))
      clear l0 l1 l2 t0 t1 t2 t3 t4 t5 t6 k1 k2
      go_wp2_with (at_builtin; refine wpList_append_lies _ rfl (.tmp 52) (.tmp 54) 22 (by rfl) ((w.heap.size + 1 + 1 + 1) + 1) 3 i0 (.int .i64 0) 1 8 Try.underlying22 hi hz0 hz1 hz2 rfl (by decide) _ k (cellsI (upTo (timeJ ⟨pc, st, ops⟩ O) k)) (by rfl) HLA.out.ot ⟨X1.heap.size, 0, none⟩ 1 1 [.int .i64 tm] (by rfl) rfl (one_cellC _ _ _ rfl) (by intro u hu; simp at hu; subst hu; rfl) (by decide) (by unfold maxLen; omega) (by omega) HLA.out.lt _ rfl ?_)
      intro g1 e1 w1 hown hgrow hat hlt
      obtain ⟨hyw, hbx⟩ := HLA.out.grow_t hgrow
      have HP := hide (HLA.out.push_t hown hgrow hat (by simp))
      have HP1 := hide (stay_blk (u := .slice (some ⟨g1, 0, none⟩) (k + 1) e1) (o := 5) HLA.out.ot hgrow ((Below.heap_alloc _ _ _ (by omega)).trans HB1.out) (by decide) (show b1 ≠ (w.heap.size + 1 + 1 + 1) by omega))
      have HP2 := hide (stay_blk (u := .slice (some ⟨g1, 0, none⟩) (k + 1) e1) (o := 5) HLA.out.ot hgrow ((Below.heap_alloc _ _ _ (by omega)).trans HB2.out) (by decide) (show b2 ≠ (w.heap.size + 1 + 1 + 1) by omega))
      clear y5 m0 m1 k0 hz hyz hb2z hb1z
      have y5 : w1.cell? ⟨(w.heap.size + 1 + 1 + 1), 5, none⟩ = some (.slice ta k tc) := by rw [cell_of_block hyw]; rfl
      have fz : w1.frozen? ⟨(w.heap.size + 1 + 1 + 1), 5, none⟩ = false := by simp [World.frozen?, hyw]
      have hyz : (w.heap.size + 1 + 1 + 1) < w1.heap.size := (Array.getElem?_eq_some_iff.1 hyw).1
      clear hyw hbx hown hgrow hat hlt hw1 hw2 HLA HB1 HB2
      go_wp2_with fail
      obtain ⟨X2, hX2⟩ : ∃ X2, w1.setCell ⟨(w.heap.size + 1 + 1 + 1), 5, none⟩ (.slice (some ⟨g1, 0, none⟩) (k + 1) e1) = X2 := ⟨_, rfl⟩
      rw [hX2] at HP HP1 HP2 ⊢
      clear hX2
      have HS8 : Hid (∀ w', Below (w.heap.size + 1 + 1 + 1) x3 w' → w'.heap[(w.heap.size + 1 + 1 + 1)]? = some (.cells #[.slice a0 L.logs.length cap0, .slice (some ⟨bb, bo, none⟩) L.body.length cap1, .slice a2 L.outs.length cap2, .int .i64 pc, .int .i64 r, .slice (some ⟨g1, 0, none⟩) (k + 1) e1, .slice ra k rc, .slice pa k pq, .slice da (readsN L ⟨pc, st, ops⟩ O k).length dc, .map none] 108 (0, 0)) → w'.heap[b1]? = some (.cells #[.int .i64 so, .int .i64 xa, .int .i64 xb, .int .i64 ya, .int .i64 yb, .int .i64 ar, .int .i64 sp, .int .i64 pl, .int .i64 nn] 76 (0, 0)) → w'.heap[b2]? = some (.cells #[.int .i64 o0, .int .i64 o1, .int .i64 o2, .int .i64 o3, .int .i64 o4, .int .i64 o5, .int .i64 o6, .int .i64 o7, .int .i64 o8, .int .i64 o9] 91 (0, 0)) → w'.cell? ⟨(w.heap.size + 1 + 1 + 1), 6, none⟩ = some (.slice ra k rc) ∧ w'.cell? ⟨w.heap.size + 1, 0, none⟩ = some (.int .i64 p0) ∧ w'.cell? ⟨w.heap.size + 1, 1, none⟩ = some (.int .i64 p1) ∧ w'.cell? ⟨w.heap.size + 1, 2, none⟩ = some (.int .i64 p2) ∧ w'.cell? ⟨w.heap.size + 1, 3, none⟩ = some (.int .i64 q0) ∧ w'.cell? ⟨w.heap.size + 1, 4, none⟩ = some (.int .i64 q1) ∧ w'.cell? ⟨w.heap.size + 1, 5, none⟩ = some (.int .i64 q2) ∧ w'.cell? ⟨w.heap.size + 1, 6, none⟩ = some (.int .i64 r) ∧ w'.cell? ⟨b1, 0, none⟩ = some (.int .i64 so)) := fun w' hb hy h1 h2 => by
        obtain ⟨-, ⟨t0, t1, t2, t3, t4, t5, t6⟩, -, -, -⟩ := HLK.out _ hb
        exact ⟨(by rw [cell_of_block hy]; rfl), t0, t1, t2, t3, t4, t5, t6, (by rw [cell_of_block h1]; rfl)⟩
      have HS8X := hide (HS8.out _ HP.out.bel HP.out.blk HP1.out HP2.out)
      clear y5 fz hyz
      have hyz := HP.out.lt
      refine wp_region_noPanic ?_
      refine region_until 15 (fun w' => w'.cell? ⟨(w.heap.size + 1 + 1 + 1), 6, none⟩ = some (.slice ra k rc) ∧ w'.cell? ⟨w.heap.size + 1, 0, none⟩ = some (.int .i64 p0) ∧ w'.cell? ⟨w.heap.size + 1, 1, none⟩ = some (.int .i64 p1) ∧ w'.cell? ⟨w.heap.size + 1, 2, none⟩ = some (.int .i64 p2) ∧ w'.cell? ⟨w.heap.size + 1, 3, none⟩ = some (.int .i64 q0) ∧ w'.cell? ⟨w.heap.size + 1, 4, none⟩ = some (.int .i64 q1) ∧ w'.cell? ⟨w.heap.size + 1, 5, none⟩ = some (.int .i64 q2) ∧ w'.cell? ⟨w.heap.size + 1, 6, none⟩ = some (.int .i64 r) ∧ w'.cell? ⟨b1, 0, none⟩ = some (.int .i64 so)) (by kernel_rfl) HS8X.out (fun hHeld => ?_)
      refine utk (i := 0) rfl hHeld ?_
      try simp only [Act.put, List.setIfInBounds_toArray, List.set_cons_zero, List.set_cons_succ]
      refine utk (i := 1) rfl hHeld ?_
      try simp only [Act.put, List.setIfInBounds_toArray, List.set_cons_zero, List.set_cons_succ]
      refine utk (i := 2) rfl hHeld ?_
      try simp only [Act.put, List.setIfInBounds_toArray, List.set_cons_zero, List.set_cons_succ]
      refine utk (i := 3) rfl hHeld ?_
      try simp only [Act.put, List.setIfInBounds_toArray, List.set_cons_zero, List.set_cons_succ]
      refine utk (i := 4) rfl hHeld ?_
      try simp only [Act.put, List.setIfInBounds_toArray, List.set_cons_zero, List.set_cons_succ]
      refine utk (i := 5) rfl hHeld ?_
      try simp only [Act.put, List.setIfInBounds_toArray, List.set_cons_zero, List.set_cons_succ]
      refine utk (i := 6) rfl hHeld ?_
      try simp only [Act.put, List.setIfInBounds_toArray, List.set_cons_zero, List.set_cons_succ]
      refine utk (i := 7) rfl hHeld ?_
      try simp only [Act.put, List.setIfInBounds_toArray, List.set_cons_zero, List.set_cons_succ]
      refine utk (i := 8) rfl hHeld ?_
      try simp only [Act.put, List.setIfInBounds_toArray, List.set_cons_zero, List.set_cons_succ]
      refine until_one (i := 9) rfl (by kernel_rfl) (fun K hK => ?_)
      go_simp
      refine (pwait_seven p0 p1 p2 q0 q1 q2 r so _).mono ?_
      rintro e x5 ⟨rfl, hb5⟩
      have hb5 : Below X2.heap.size X2 x5 := (below_draws _ _ 1).trans hb5
      have HL5 := hide (HP.out.below hb5)
      have H51 := hide ((hb5.block _ (Array.getElem?_eq_some_iff.1 HP1.out).1).trans HP1.out)
      have H52 := hide ((hb5.block _ (Array.getElem?_eq_some_iff.1 HP2.out).1).trans HP2.out)
      have hH5 := HS8.out _ HL5.out.bel HL5.out.blk H51.out H52.out
      clear hb5
      refine hK.out _ _ (.inr hH5) ?_
      clear hK K
      try simp only [Act.put, List.setIfInBounds_toArray, List.set_cons_zero, List.set_cons_succ]
      have hwr : IntKind.i64.wrap (tm + waitT ⟨p0, p1, p2, q0, q1, q2, r⟩ so) = ry := by rw [← HRY.out]; exact wrapC (by omega) (by omega)
      have hwr2 : wrap64 (tm + waitT ⟨p0, p1, p2, q0, q1, q2, r⟩ so) = ry := by rw [← HRY.out]; unfold wrap64; omega
      refine utk (i := 10) rfl hH5 ?_
      try simp only [Act.put, List.setIfInBounds_toArray, List.set_cons_zero, List.set_cons_succ]
      have HL6 := hide (HL5.out.below (below_alloc1 x5 (.cells #[.int .i64 ry] 3)))
      have H61 := hide ((Below.heap_alloc x5 (.cells #[.int .i64 ry] 3) _ (Array.getElem?_eq_some_iff.1 H51.out).1).trans H51.out)
      have H62 := hide ((Below.heap_alloc x5 (.cells #[.int .i64 ry] 3) _ (Array.getElem?_eq_some_iff.1 H52.out).1).trans H52.out)
      have hH6 := HS8.out _ HL6.out.bel HL6.out.blk H61.out H62.out
      refine until_one (i := 11) rfl (by kernel_rfl) (fun K hK => ?_)
      go_simp
      refine hK.out _ _ (.inr hH6) ?_
      clear hK K
      try simp only [Act.put, List.setIfInBounds_toArray, List.set_cons_zero, List.set_cons_succ]
      refine until_one (i := 12) rfl (by kernel_rfl) (fun K hK => ?_)
      refine step_append_lies _ (by rfl) (.tmp 62) (.tmp 69) 22 (by rfl) ((w.heap.size + 1 + 1 + 1) + 1) 3 i0 (.int .i64 0) 1 8 Try.underlying22 hi hz0 hz1 hz2 rfl (by decide) _ k (cellsI (upTo (readyJ ⟨p0, p1, p2, q0, q1, q2, r⟩ ⟨pc, st, ops⟩ O) k)) (by rfl) HL6.out.or ⟨x5.heap.size, 0, none⟩ 1 1 [.int .i64 ry] (by rfl) rfl (one_cellC _ _ _ rfl) (by intro u hu; simp at hu; subst hu; rfl) (by decide) (by unfold maxLen; omega) (by omega) HL6.out.lt _ rfl ?_
      intro g2 e2 w2 hown hgrow hat hlt
      obtain ⟨hyw, hbx⟩ := HL6.out.grow_r hgrow
      have HQ := hide (HL6.out.push_r hown hgrow hat (by simp))
      have HQ1 := hide (stay_blk (u := (.slice (some ⟨g2, 0, none⟩) (k + 1) e2)) (o := 6) HL6.out.or hgrow H61.out (by decide) (show b1 ≠ (w.heap.size + 1 + 1 + 1) by omega))
      have HQ2 := hide (stay_blk (u := (.slice (some ⟨g2, 0, none⟩) (k + 1) e2)) (o := 6) HL6.out.or hgrow H62.out (by decide) (show b2 ≠ (w.heap.size + 1 + 1 + 1) by omega))
      have hH7 := HS8.out _ hbx hyw (grown_at HL6.out.or hgrow H61.out (by decide)) (grown_at HL6.out.or hgrow H62.out (by decide))
      have y6 : w2.cell? ⟨(w.heap.size + 1 + 1 + 1), 6, none⟩ = some (.slice ra k rc) := by rw [cell_of_block hyw]; rfl
      have fz : w2.frozen? ⟨(w.heap.size + 1 + 1 + 1), 6, none⟩ = false := by simp [World.frozen?, hyw]
      have hyz2 : (w.heap.size + 1 + 1 + 1) < w2.heap.size := (Array.getElem?_eq_some_iff.1 hyw).1
      clear hyw hbx hown hgrow hat hlt
      refine hK.out _ _ (.inr hH7) ?_
      clear hK K
      try simp only [Act.put, List.setIfInBounds_toArray, List.set_cons_zero, List.set_cons_succ]
      refine utk (i := 13) rfl hH7 ?_
      try simp only [Act.put, List.setIfInBounds_toArray, List.set_cons_zero, List.set_cons_succ]
      refine utk (i := 14) rfl hH7 ?_
      try simp only [Act.put, List.setIfInBounds_toArray, List.set_cons_zero, List.set_cons_succ]
      refine until_one (i := 15) rfl (by kernel_rfl) (fun K hK => ?_)
      go_simp
      refine hK.out _ _ (.inl rfl) ?_
      clear hK K
      try simp only [Act.put, List.setIfInBounds_toArray, List.set_cons_zero, List.set_cons_succ]
      refine until_done (by kernel_rfl) ?_ _
      refine NoPanic.normal ?_
      clear hH5 hH6 hH7 y6 fz hyz2 hyz hwr hwr2 hHeld HS8X HS8 HL5 HL6 H51 H52 H61 H62 HP HP1 HP2
      obtain ⟨X3, hX3⟩ : ∃ X3, w2.setCell ⟨(w.heap.size + 1 + 1 + 1), 6, none⟩ (.slice (some ⟨g2, 0, none⟩) (k + 1) e2) = X3 := ⟨_, rfl⟩
      rw [hX3] at HQ HQ1 HQ2 ⊢
      clear hX3
      go_wp2_with fail
      have HS9 : Hid (∀ w', Below (w.heap.size + 1 + 1 + 1) x3 w' → w'.heap[(w.heap.size + 1 + 1 + 1)]? = some (.cells #[.slice a0 L.logs.length cap0, .slice (some ⟨bb, bo, none⟩) L.body.length cap1, .slice a2 L.outs.length cap2, .int .i64 pc, .int .i64 r, .slice (some ⟨g1, 0, none⟩) (k + 1) e1, .slice (some ⟨g2, 0, none⟩) (k + 1) e2, .slice pa k pq, .slice da (readsN L ⟨pc, st, ops⟩ O k).length dc, .map none] 108 (0, 0)) → w'.heap[b1]? = some (.cells #[.int .i64 so, .int .i64 xa, .int .i64 xb, .int .i64 ya, .int .i64 yb, .int .i64 ar, .int .i64 sp, .int .i64 pl, .int .i64 nn] 76 (0, 0)) → w'.heap[b2]? = some (.cells #[.int .i64 o0, .int .i64 o1, .int .i64 o2, .int .i64 o3, .int .i64 o4, .int .i64 o5, .int .i64 o6, .int .i64 o7, .int .i64 o8, .int .i64 o9] 91 (0, 0)) → w'.cell? ⟨(w.heap.size + 1 + 1 + 1), 7, none⟩ = some (.slice pa k pq) ∧ w'.cell? ⟨b2, 3, none⟩ = some (.int .i64 o3) ∧ w'.cell? ⟨b2, 1, none⟩ = some (.int .i64 o1)) := fun w' hb hy h1 h2 => by
        obtain ⟨-, ⟨t0, t1, t2, t3, t4, t5, t6⟩, -, -, -⟩ := HLK.out _ hb
        exact ⟨(by rw [cell_of_block hy]; rfl), (by rw [cell_of_block h2]; rfl), (by rw [cell_of_block h2]; rfl)⟩
      have HS9X := hide (HS9.out _ HQ.out.bel HQ.out.blk HQ1.out HQ2.out)
      have hyz := HQ.out.lt
      have hwr : IntKind.i64.wrap (o3 + o1) = pt := by rw [HPL.out]; exact wrapC (by omega) (by omega)
      have hwr2 : wrap64 (o3 + o1) = pt := by rw [HPL.out]; unfold wrap64; omega
      refine wp_region_noPanic ?_
      refine region_until 14 (fun w' => w'.cell? ⟨(w.heap.size + 1 + 1 + 1), 7, none⟩ = some (.slice pa k pq) ∧ w'.cell? ⟨b2, 3, none⟩ = some (.int .i64 o3) ∧ w'.cell? ⟨b2, 1, none⟩ = some (.int .i64 o1)) (by kernel_rfl) HS9X.out (fun hHeld => ?_)
      refine utk (i := 0) rfl hHeld ?_
      try simp only [Act.put, List.setIfInBounds_toArray, List.set_cons_zero, List.set_cons_succ]
      refine utk (i := 1) rfl hHeld ?_
      try simp only [Act.put, List.setIfInBounds_toArray, List.set_cons_zero, List.set_cons_succ]
      refine utk (i := 2) rfl hHeld ?_
      try simp only [Act.put, List.setIfInBounds_toArray, List.set_cons_zero, List.set_cons_succ]
      refine utk (i := 3) rfl hHeld ?_
      try simp only [Act.put, List.setIfInBounds_toArray, List.set_cons_zero, List.set_cons_succ]
      refine utk (i := 4) rfl hHeld ?_
      try simp only [Act.put, List.setIfInBounds_toArray, List.set_cons_zero, List.set_cons_succ]
      refine utk (i := 5) rfl hHeld ?_
      try simp only [Act.put, List.setIfInBounds_toArray, List.set_cons_zero, List.set_cons_succ]
      refine utk (i := 6) rfl hHeld ?_
      try simp only [Act.put, List.setIfInBounds_toArray, List.set_cons_zero, List.set_cons_succ]
      refine utk (i := 7) rfl hHeld ?_
      try simp only [Act.put, List.setIfInBounds_toArray, List.set_cons_zero, List.set_cons_succ]
      refine utk (i := 8) rfl hHeld ?_
      try simp only [Act.put, List.setIfInBounds_toArray, List.set_cons_zero, List.set_cons_succ]
      refine utk (i := 9) rfl hHeld ?_
      try simp only [Act.put, List.setIfInBounds_toArray, List.set_cons_zero, List.set_cons_succ]
      have HQd := hide (HQ.out.below (below_draws _ _ 1))
      have HL6 := hide (HQd.out.below (below_alloc1 X3.drew (.cells #[.int .i64 pt] 3)))
      have H61 := hide ((Below.heap_alloc X3.drew (.cells #[.int .i64 pt] 3) _ (show b1 < X3.drew.heap.size from (Array.getElem?_eq_some_iff.1 HQ1.out).1)).trans HQ1.out)
      have H62 := hide ((Below.heap_alloc X3.drew (.cells #[.int .i64 pt] 3) _ (show b2 < X3.drew.heap.size from (Array.getElem?_eq_some_iff.1 HQ2.out).1)).trans HQ2.out)
      have hH6 := HS9.out _ HL6.out.bel HL6.out.blk H61.out H62.out
      refine until_one (i := 10) rfl (by kernel_rfl) (fun K hK => ?_)
      go_simp
      refine hK.out _ _ (.inr hH6) ?_
      clear hK K
      try simp only [Act.put, List.setIfInBounds_toArray, List.set_cons_zero, List.set_cons_succ]
      refine until_one (i := 11) rfl (by kernel_rfl) (fun K hK => ?_)
      refine step_append_lies _ (by rfl) (.tmp 77) (.tmp 83) 22 (by rfl) ((w.heap.size + 1 + 1 + 1) + 1) 3 i0 (.int .i64 0) 1 8 Try.underlying22 hi hz0 hz1 hz2 rfl (by decide) _ k (cellsI (upTo (placeJ ⟨pc, st, ops⟩ O) k)) (by rfl) HL6.out.op ⟨X3.drew.heap.size, 0, none⟩ 1 1 [.int .i64 pt] (by rfl) rfl (one_cellC _ _ _ rfl) (by intro u hu; simp at hu; subst hu; rfl) (by decide) (by unfold maxLen; omega) (by omega) HL6.out.lt _ rfl ?_
      intro g3 e3 w3 hown hgrow hat hlt
      obtain ⟨hyw, hbx⟩ := HL6.out.grow_p hgrow
      have HR := hide (HL6.out.push_p hown hgrow hat (by simp))
      have HR1 := hide (stay_blk (u := (.slice (some ⟨g3, 0, none⟩) (k + 1) e3)) (o := 7) HL6.out.op hgrow H61.out (by decide) (show b1 ≠ (w.heap.size + 1 + 1 + 1) by omega))
      have HR2 := hide (stay_blk (u := (.slice (some ⟨g3, 0, none⟩) (k + 1) e3)) (o := 7) HL6.out.op hgrow H62.out (by decide) (show b2 ≠ (w.heap.size + 1 + 1 + 1) by omega))
      have hH7 := HS9.out _ hbx hyw (grown_at HL6.out.op hgrow H61.out (by decide)) (grown_at HL6.out.op hgrow H62.out (by decide))
      have y7 : w3.cell? ⟨(w.heap.size + 1 + 1 + 1), 7, none⟩ = some (.slice pa k pq) := by rw [cell_of_block hyw]; rfl
      have fz : w3.frozen? ⟨(w.heap.size + 1 + 1 + 1), 7, none⟩ = false := by simp [World.frozen?, hyw]
      have hyz2 : (w.heap.size + 1 + 1 + 1) < w3.heap.size := (Array.getElem?_eq_some_iff.1 hyw).1
      clear hyw hbx hown hgrow hat hlt
      refine hK.out _ _ (.inr hH7) ?_
      clear hK K
      try simp only [Act.put, List.setIfInBounds_toArray, List.set_cons_zero, List.set_cons_succ]
      refine utk (i := 12) rfl hH7 ?_
      try simp only [Act.put, List.setIfInBounds_toArray, List.set_cons_zero, List.set_cons_succ]
      refine utk (i := 13) rfl hH7 ?_
      try simp only [Act.put, List.setIfInBounds_toArray, List.set_cons_zero, List.set_cons_succ]
      refine until_one (i := 14) rfl (by kernel_rfl) (fun K hK => ?_)
      go_simp
      refine hK.out _ _ (.inl rfl) ?_
      clear hK K
      try simp only [Act.put, List.setIfInBounds_toArray, List.set_cons_zero, List.set_cons_succ]
      refine until_done (by kernel_rfl) ?_ _
      refine NoPanic.normal ?_
      clear hH6 hH7 y7 fz hyz2 hyz hwr hwr2 hHeld HS9X HS9 HL6 H61 H62 HQ HQ1 HQ2 HQd
      obtain ⟨X4, hX4⟩ : ∃ X4, w3.setCell ⟨(w.heap.size + 1 + 1 + 1), 7, none⟩ (.slice (some ⟨g3, 0, none⟩) (k + 1) e3) = X4 := ⟨_, rfl⟩
      rw [hX4] at HR HR1 HR2 ⊢
      clear hX4
      go_wp2_with fail
      have HS10 : Hid (∀ w', Below X4.heap.size X4 w' → w'.cell? ⟨b1, 1, none⟩ = some (.int .i64 xa) ∧ w'.cell? ⟨b1, 2, none⟩ = some (.int .i64 xb) ∧ w'.cell? ⟨b1, 3, none⟩ = some (.int .i64 ya) ∧ w'.cell? ⟨b1, 4, none⟩ = some (.int .i64 yb) ∧ w'.cell? ⟨b2, 4, none⟩ = some (.int .i64 o4) ∧ w'.cell? ⟨b2, 5, none⟩ = some (.int .i64 o5)) := fun w' hb => by
        have h1 := (hb.block _ (Array.getElem?_eq_some_iff.1 HR1.out).1).trans HR1.out
        have h2 := (hb.block _ (Array.getElem?_eq_some_iff.1 HR2.out).1).trans HR2.out
        exact ⟨(by rw [cell_of_block h1]; rfl), (by rw [cell_of_block h1]; rfl), (by rw [cell_of_block h1]; rfl), (by rw [cell_of_block h1]; rfl), (by rw [cell_of_block h2]; rfl), (by rw [cell_of_block h2]; rfl)⟩
      have hb1z : b1 < X4.heap.size := (Array.getElem?_eq_some_iff.1 HR1.out).1
      have hb2z : b2 < X4.heap.size := (Array.getElem?_eq_some_iff.1 HR2.out).1
      refine wp_region_noPanic ?_
      refine region_until 13 (fun w' => w'.cell? ⟨b1, 1, none⟩ = some (.int .i64 xa) ∧ w'.cell? ⟨b1, 2, none⟩ = some (.int .i64 xb) ∧ w'.cell? ⟨b1, 3, none⟩ = some (.int .i64 ya) ∧ w'.cell? ⟨b1, 4, none⟩ = some (.int .i64 yb) ∧ w'.cell? ⟨b2, 4, none⟩ = some (.int .i64 o4) ∧ w'.cell? ⟨b2, 5, none⟩ = some (.int .i64 o5)) (by kernel_rfl) (HS10.out _ (below_draws _ _ 1)) (fun hHeld => ?_)
      refine utk (i := 0) rfl hHeld ?_
      try simp only [Act.put, List.setIfInBounds_toArray, List.set_cons_zero, List.set_cons_succ]
      refine utk (i := 1) rfl hHeld ?_
      try simp only [Act.put, List.setIfInBounds_toArray, List.set_cons_zero, List.set_cons_succ]
      refine utk (i := 2) rfl hHeld ?_
      try simp only [Act.put, List.setIfInBounds_toArray, List.set_cons_zero, List.set_cons_succ]
      refine utk (i := 3) rfl hHeld ?_
      try simp only [Act.put, List.setIfInBounds_toArray, List.set_cons_zero, List.set_cons_succ]
      refine utk (i := 4) rfl hHeld ?_
      try simp only [Act.put, List.setIfInBounds_toArray, List.set_cons_zero, List.set_cons_succ]
      refine utk (i := 5) rfl hHeld ?_
      try simp only [Act.put, List.setIfInBounds_toArray, List.set_cons_zero, List.set_cons_succ]
      refine utk (i := 6) rfl hHeld ?_
      try simp only [Act.put, List.setIfInBounds_toArray, List.set_cons_zero, List.set_cons_succ]
      refine utk (i := 7) rfl hHeld ?_
      try simp only [Act.put, List.setIfInBounds_toArray, List.set_cons_zero, List.set_cons_succ]
      refine utk (i := 8) rfl hHeld ?_
      try simp only [Act.put, List.setIfInBounds_toArray, List.set_cons_zero, List.set_cons_succ]
      refine utk (i := 9) rfl hHeld ?_
      try simp only [Act.put, List.setIfInBounds_toArray, List.set_cons_zero, List.set_cons_succ]
      refine until_two (i := 10) (j := 11) rfl rfl (by kernel_rfl) (fun K hK => ?a1) (fun K hK => ?a2)
      case' a1 =>
        go_simp
        refine hK.out _ _ (.inr (HS10.out _ (below_ac2 X4 (.cells #[.int .i64 0, .int .i64 0, .int .i64 0, .int .i64 0] 140)))) ?_
        clear hK K
        try simp only [Act.put, List.setIfInBounds_toArray, List.set_cons_zero, List.set_cons_succ]
        refine until_one (i := 11) rfl (by kernel_rfl) (fun K hK => ?_)
        go_simp
        refine hK.out _ _ (.inr (HS10.out _ (below_ac3 X4 (.cells #[.int .i64 0, .int .i64 0, .int .i64 0, .int .i64 0] 140) (.cells #[.int .i64 0, .int .i64 0] 123)))) ?_
        clear hK K
        try simp only [Act.put, List.setIfInBounds_toArray, List.set_cons_zero, List.set_cons_succ]
        refine until_one (i := 12) rfl (by kernel_rfl) (fun K hK => ?_)
        go_simp
        refine hK.out _ _ (.inr (HS10.out _ (below_ac3 X4 _ _))) ?_
        clear hK K
        try simp only [Act.put, List.setIfInBounds_toArray, List.set_cons_zero, List.set_cons_succ]
        refine until_one (i := 13) rfl (by kernel_rfl) (fun K hK => ?_)
        go_simp
        refine hK.out _ _ (.inl rfl) ?_
        clear hK K
        try simp only [Act.put, List.setIfInBounds_toArray, List.set_cons_zero, List.set_cons_succ]
        refine until_done (by kernel_rfl) ?_ _
        refine NoPanic.normal ?_
        obtain ⟨X5, hX5⟩ : ∃ X5, ((X4.alloc (.cells #[.int .i64 xa, .int .i64 xb, .int .i64 ya, .int .i64 yb] 140)).alloc (.cells #[.int .i64 o4, .int .i64 o5] 123)).drew = X5 := ⟨_, rfl⟩
        have hXb : Below X4.heap.size X4 X5 := by rw [← hX5]; exact (below_alloc2 X4 _ _).trans (below_draws _ _ 1)
        have h1 : X5.heap[X4.heap.size]? = some (.cells #[.int .i64 xa, .int .i64 xb, .int .i64 ya, .int .i64 yb] 140 (0, 0)) := by rw [← hX5]; exact (Below.heap_alloc _ _ _ (by simp)).trans (new_blkC _ _ _)
        have h2 : X5.heap[X4.heap.size + 1]? = some (.cells #[.int .i64 o4, .int .i64 o5] 123 (0, 0)) := by
          rw [← hX5]
          have e : (X4.alloc (.cells #[.int .i64 xa, .int .i64 xb, .int .i64 ya, .int .i64 yb] 140)).heap.size = X4.heap.size + 1 := by simp
          have h := new_blkC (X4.alloc (.cells #[.int .i64 xa, .int .i64 xb, .int .i64 ya, .int .i64 yb] 140)) #[.int .i64 o4, .int .i64 o5] 123
          rw [e] at h
          exact h
        rw [hX5]
        obtain ⟨qb, hq2⟩ : ∃ q, X4.heap.size + 1 = q := ⟨_, rfl⟩
        rw [hq2] at h2 ⊢
        obtain ⟨qa, hq1⟩ : ∃ q, X4.heap.size = q := ⟨_, rfl⟩
        rw [hq1] at h1 ⊢
        have HQA := hide h1
        have HQB := hide h2
        have HT := hide (HR.out.below hXb)
        have HT2 := hide ((hXb.block _ (Array.getElem?_eq_some_iff.1 HR2.out).1).trans HR2.out)
        have hqa : (w.heap.size + 1 + 1 + 1) < qa := by have := HR.out.lt; omega
        have hqb : (w.heap.size + 1 + 1 + 1) < qb := by have := HR.out.lt; omega
        have s0 : X5.cell? ⟨b1, 0, none⟩ = some (.int .i64 so) := by rw [cell_of_block ((hXb.block _ (Array.getElem?_eq_some_iff.1 HR1.out).1).trans HR1.out)]; rfl
        clear hX5 hXb h1 h2 hq1 hq2
      case' a2 =>
        go_simp
        refine hK.out _ _ (.inr (HS10.out _ (below_ac2 X4 (.cells #[.int .i64 0, .int .i64 0] 123)))) ?_
        clear hK K
        try simp only [Act.put, List.setIfInBounds_toArray, List.set_cons_zero, List.set_cons_succ]
        refine until_one (i := 10) rfl (by kernel_rfl) (fun K hK => ?_)
        go_simp
        refine hK.out _ _ (.inr (HS10.out _ (below_ac3 X4 (.cells #[.int .i64 0, .int .i64 0] 123) (.cells #[.int .i64 0, .int .i64 0, .int .i64 0, .int .i64 0] 140)))) ?_
        clear hK K
        try simp only [Act.put, List.setIfInBounds_toArray, List.set_cons_zero, List.set_cons_succ]
        refine until_one (i := 12) rfl (by kernel_rfl) (fun K hK => ?_)
        go_simp
        refine hK.out _ _ (.inr (HS10.out _ (below_ac3 X4 _ _))) ?_
        clear hK K
        try simp only [Act.put, List.setIfInBounds_toArray, List.set_cons_zero, List.set_cons_succ]
        refine until_one (i := 13) rfl (by kernel_rfl) (fun K hK => ?_)
        go_simp
        refine hK.out _ _ (.inl rfl) ?_
        clear hK K
        try simp only [Act.put, List.setIfInBounds_toArray, List.set_cons_zero, List.set_cons_succ]
        refine until_done (by kernel_rfl) ?_ _
        refine NoPanic.normal ?_
        obtain ⟨X5, hX5⟩ : ∃ X5, ((X4.alloc (.cells #[.int .i64 o4, .int .i64 o5] 123)).alloc (.cells #[.int .i64 xa, .int .i64 xb, .int .i64 ya, .int .i64 yb] 140)).drew = X5 := ⟨_, rfl⟩
        have hXb : Below X4.heap.size X4 X5 := by rw [← hX5]; exact (below_alloc2 X4 _ _).trans (below_draws _ _ 1)
        have h1 : X5.heap[X4.heap.size]? = some (.cells #[.int .i64 o4, .int .i64 o5] 123 (0, 0)) := by rw [← hX5]; exact (Below.heap_alloc _ _ _ (by simp)).trans (new_blkC _ _ _)
        have h2 : X5.heap[X4.heap.size + 1]? = some (.cells #[.int .i64 xa, .int .i64 xb, .int .i64 ya, .int .i64 yb] 140 (0, 0)) := by
          rw [← hX5]
          have e : (X4.alloc (.cells #[.int .i64 o4, .int .i64 o5] 123)).heap.size = X4.heap.size + 1 := by simp
          have h := new_blkC (X4.alloc (.cells #[.int .i64 o4, .int .i64 o5] 123)) #[.int .i64 xa, .int .i64 xb, .int .i64 ya, .int .i64 yb] 140
          rw [e] at h
          exact h
        rw [hX5]
        obtain ⟨qa, hq2⟩ : ∃ q, X4.heap.size + 1 = q := ⟨_, rfl⟩
        rw [hq2] at h2 ⊢
        obtain ⟨qb, hq1⟩ : ∃ q, X4.heap.size = q := ⟨_, rfl⟩
        rw [hq1] at h1 ⊢
        have HQA := hide h2
        have HQB := hide h1
        have HT := hide (HR.out.below hXb)
        have HT2 := hide ((hXb.block _ (Array.getElem?_eq_some_iff.1 HR2.out).1).trans HR2.out)
        have hqa : (w.heap.size + 1 + 1 + 1) < qa := by have := HR.out.lt; omega
        have hqb : (w.heap.size + 1 + 1 + 1) < qb := by have := HR.out.lt; omega
        have s0 : X5.cell? ⟨b1, 0, none⟩ = some (.int .i64 so) := by rw [cell_of_block ((hXb.block _ (Array.getElem?_eq_some_iff.1 HR1.out).1).trans HR1.out)]; rfl
        clear hX5 hXb h1 h2 hq1 hq2
      all_goals
        clear HR HR1 HR2 HS10 hb1z hb2z hHeld
        go_wp2_with fail
        refine (looks_any so _).mono ?_
        rintro e w' ⟨rfl, hw'⟩
        have hw' := hw'.symm; subst hw'
        rw [HUS.out]
        clear s0
        go_wp2_with fail
        have HNL : Hid ((readsN L ⟨pc, st, ops⟩ O k).length ≤ 2 * k) := HRL.out k hk
        rename World => wo
        go_loopw [100] (fun iv wr2 => ∃ i : Nat, i ≤ un ∧ iv = .int .i64 i ∧ ∃ da dc nd dl, LyM x3 (w.heap.size + 1 + 1 + 1) (.slice a0 L.logs.length cap0) (.slice (some ⟨bb, bo, none⟩) L.body.length cap1) (.slice a2 L.outs.length cap2) pc r (.slice (some ⟨g1, 0, none⟩) (k + 1) e1) (.slice (some ⟨g2, 0, none⟩) (k + 1) e2) (.slice (some ⟨g3, 0, none⟩) (k + 1) e3) (.slice da nd dc) (k + 1) (k + 1) (k + 1) nd ((upTo (timeJ ⟨pc, st, ops⟩ O) k) ++ [tm]) ((upTo (readyJ ⟨p0, p1, p2, q0, q1, q2, r⟩ ⟨pc, st, ops⟩ O) k) ++ [ry]) ((upTo (placeJ ⟨pc, st, ops⟩ O) k) ++ [pt]) dl wr2 ∧ dl = (readsN L ⟨pc, st, ops⟩ O k) ++ readsU L ⟨pc, st, ops⟩ O k i ∧ wr2.heap[b2]? = some (.cells #[.int .i64 o0, .int .i64 o1, .int .i64 o2, .int .i64 o3, .int .i64 o4, .int .i64 o5, .int .i64 o6, .int .i64 o7, .int .i64 o8, .int .i64 o9] 91 (0, 0)) ∧ wr2.heap[qa]? = some (.cells #[.int .i64 xa, .int .i64 xb, .int .i64 ya, .int .i64 yb] 140 (0, 0)) ∧ wr2.heap[qb]? = some (.cells #[.int .i64 o4, .int .i64 o5] 123 (0, 0))) (fun iv _ => un - (intOf iv).toNat)
        case atStart => exact ⟨0, Nat.zero_le _, rfl, da, dc, _, _, HT.out, by rw [show readsU L ⟨pc, st, ops⟩ O k 0 = [] from rfl, List.append_nil], HT2.out, HQA.out, HQB.out⟩
        case round =>
          clear HT HT2 HQA HQB HLY HLY1
          obtain ⟨i, hil, rfl, da, dc, nd, dl, hly, hdl, hb2, hqa', hqb'⟩ := hrel
          have HLY := hide hly
          have HDL := hide hdl
          have HB2 := hide hb2
          have HQA := hide hqa'
          have HQB := hide hqb'
          have hnd : nd * 5 = dl.length * 5 := by rw [← flatRd_len]; exact hly.od.1.symm
          have hnl : dl.length ≤ 2 * k + i := by
            rw [hdl, List.length_append, readsU_len]
            have := HNL.out
            omega
          clear hly hdl hb2 hqa' hqb'
          by_cases hiu : i < un
          · have hii : (i : Int) < (un : Int) := by omega
            have hu2 := HU2.out
            have hi2 : i < 2 := by omega
            have hi2i : (i : Int) < 2 := by omega
            have HRO := hide (HR0.out i hiu)
            obtain ⟨va, hva⟩ : ∃ va, (if i = 1 then ya else xa) = va := ⟨_, rfl⟩
            obtain ⟨vb, hvb⟩ : ∃ vb, (if i = 1 then yb else xb) = vb := ⟨_, rfl⟩
            obtain ⟨vn, hvn⟩ : ∃ vn, (if i = 1 then o5 else o4) = vn := ⟨_, rfl⟩
            rw [hva, hvb, hvn] at HRO
            have HRC : Hid (∀ w' : World, w'.heap[qa]? = some (.cells #[.int .i64 xa, .int .i64 xb, .int .i64 ya, .int .i64 yb] 140 (0, 0)) → w'.cell? ⟨qa, i * 2, none⟩ = some (.int .i64 va) ∧ w'.cell? ⟨qa, i * 2 + 1, none⟩ = some (.int .i64 vb)) := fun w' h => by
              have key := cell_of_block h
              rcases (show i = 0 ∨ i = 1 by omega) with e | e
              · subst e; subst hva; subst hvb; exact ⟨by rw [key]; rfl, by rw [key]; rfl⟩
              · subst e; subst hva; subst hvb; exact ⟨by rw [key]; rfl, by rw [key]; rfl⟩
            have HNC : Hid (∀ w' : World, w'.heap[qb]? = some (.cells #[.int .i64 o4, .int .i64 o5] 123 (0, 0)) → w'.cell? ⟨qb, i, none⟩ = some (.int .i64 vn)) := fun w' h => by
              have key := cell_of_block h
              rcases (show i = 0 ∨ i = 1 by omega) with e | e
              · subst e; subst hvn; rw [key]; rfl
              · subst e; subst hvn; rw [key]; rfl
            have HS14 : Hid (∀ w' : World, w'.heap[(w.heap.size + 1 + 1 + 1)]? = some (.cells #[.slice a0 L.logs.length cap0, .slice (some ⟨bb, bo, none⟩) L.body.length cap1, .slice a2 L.outs.length cap2, .int .i64 pc, .int .i64 r, .slice (some ⟨g1, 0, none⟩) (k + 1) e1, .slice (some ⟨g2, 0, none⟩) (k + 1) e2, .slice (some ⟨g3, 0, none⟩) (k + 1) e3, .slice da nd dc, .map none] 108 (0, 0)) → w'.heap[b2]? = some (.cells #[.int .i64 o0, .int .i64 o1, .int .i64 o2, .int .i64 o3, .int .i64 o4, .int .i64 o5, .int .i64 o6, .int .i64 o7, .int .i64 o8, .int .i64 o9] 91 (0, 0)) → w'.heap[qa]? = some (.cells #[.int .i64 xa, .int .i64 xb, .int .i64 ya, .int .i64 yb] 140 (0, 0)) → w'.heap[qb]? = some (.cells #[.int .i64 o4, .int .i64 o5] 123 (0, 0)) → w'.cell? ⟨(w.heap.size + 1 + 1 + 1), 8, none⟩ = some (.slice da nd dc) ∧ w'.cell? ⟨qa, i * 2, none⟩ = some (.int .i64 va) ∧ w'.cell? ⟨qa, i * 2 + 1, none⟩ = some (.int .i64 vb) ∧ w'.cell? ⟨b2, 1, none⟩ = some (.int .i64 o1) ∧ w'.cell? ⟨qb, i, none⟩ = some (.int .i64 vn)) := fun w' h1 h2 h3 h4 => ⟨by rw [cell_of_block h1]; rfl, (HRC.out w' h3).1, (HRC.out w' h3).2, by rw [cell_of_block h2]; rfl, HNC.out w' h4⟩
            have HS14X := hide (HS14.out _ HLY.out.blk HB2.out HQA.out HQB.out)
            have hyz := HLY.out.lt
            have hqaz : qa < wr.heap.size := (Array.getElem?_eq_some_iff.1 HQA.out).1
            have hqbz : qb < wr.heap.size := (Array.getElem?_eq_some_iff.1 HQB.out).1
            have hb2z : b2 < wr.heap.size := (Array.getElem?_eq_some_iff.1 HB2.out).1
            have HLD := hide (HLY.out.below (below_draws _ _ 1))
            have HL6 := hide (HLD.out.below (below_alloc1 wr.drew (.cells #[.int .i64 va, .int .i64 vb, .int .i64 tm, .int .i64 o1, .int .i64 vn] 174)))
            have H62 := hide ((Below.heap_alloc wr.drew (.cells #[.int .i64 va, .int .i64 vb, .int .i64 tm, .int .i64 o1, .int .i64 vn] 174) _ (show b2 < wr.drew.heap.size from hb2z)).trans HB2.out)
            have H6a := hide ((Below.heap_alloc wr.drew (.cells #[.int .i64 va, .int .i64 vb, .int .i64 tm, .int .i64 o1, .int .i64 vn] 174) _ (show qa < wr.drew.heap.size from hqaz)).trans HQA.out)
            have H6b := hide ((Below.heap_alloc wr.drew (.cells #[.int .i64 va, .int .i64 vb, .int .i64 tm, .int .i64 o1, .int .i64 vn] 174) _ (show qb < wr.drew.heap.size from hqbz)).trans HQB.out)
            have hH6 := HS14.out _ HL6.out.blk H62.out H6a.out H6b.out
            clear hva hvb hvn HRC HNC
            go_wp2_with fail
            refine wp_region_noPanic ?_
            refine region_until 19 (fun w' => w'.cell? ⟨(w.heap.size + 1 + 1 + 1), 8, none⟩ = some (.slice da nd dc) ∧ w'.cell? ⟨qa, i * 2, none⟩ = some (.int .i64 va) ∧ w'.cell? ⟨qa, i * 2 + 1, none⟩ = some (.int .i64 vb) ∧ w'.cell? ⟨b2, 1, none⟩ = some (.int .i64 o1) ∧ w'.cell? ⟨qb, i, none⟩ = some (.int .i64 vn)) (by kernel_rfl) HS14X.out (fun hHeld => ?_)
            refine utk (i := 0) rfl hHeld ?_
            try simp only [Act.put, List.setIfInBounds_toArray, List.set_cons_zero, List.set_cons_succ]
            refine utk (i := 1) rfl hHeld ?_
            try simp only [Act.put, List.setIfInBounds_toArray, List.set_cons_zero, List.set_cons_succ]
            refine utk (i := 2) rfl hHeld ?_
            try simp only [Act.put, List.setIfInBounds_toArray, List.set_cons_zero, List.set_cons_succ]
            refine utk (i := 3) rfl hHeld ?_
            try simp only [Act.put, List.setIfInBounds_toArray, List.set_cons_zero, List.set_cons_succ]
            refine utk (i := 4) rfl hHeld ?_
            try simp only [Act.put, List.setIfInBounds_toArray, List.set_cons_zero, List.set_cons_succ]
            refine utk (i := 5) rfl hHeld ?_
            try simp only [Act.put, List.setIfInBounds_toArray, List.set_cons_zero, List.set_cons_succ]
            refine utk (i := 6) rfl hHeld ?_
            try simp only [Act.put, List.setIfInBounds_toArray, List.set_cons_zero, List.set_cons_succ]
            refine utk (i := 7) rfl hHeld ?_
            try simp only [Act.put, List.setIfInBounds_toArray, List.set_cons_zero, List.set_cons_succ]
            refine utk (i := 8) rfl hHeld ?_
            try simp only [Act.put, List.setIfInBounds_toArray, List.set_cons_zero, List.set_cons_succ]
            refine utk (i := 9) rfl hHeld ?_
            try simp only [Act.put, List.setIfInBounds_toArray, List.set_cons_zero, List.set_cons_succ]
            refine utk (i := 10) rfl hHeld ?_
            try simp only [Act.put, List.setIfInBounds_toArray, List.set_cons_zero, List.set_cons_succ]
            refine utk (i := 11) rfl hHeld ?_
            try simp only [Act.put, List.setIfInBounds_toArray, List.set_cons_zero, List.set_cons_succ]
            refine utk (i := 12) rfl hHeld ?_
            try simp only [Act.put, List.setIfInBounds_toArray, List.set_cons_zero, List.set_cons_succ]
            refine utk (i := 13) rfl hHeld ?_
            try simp only [Act.put, List.setIfInBounds_toArray, List.set_cons_zero, List.set_cons_succ]
            refine utk (i := 14) rfl hHeld ?_
            try simp only [Act.put, List.setIfInBounds_toArray, List.set_cons_zero, List.set_cons_succ]
            refine until_one (i := 15) rfl (by kernel_rfl) (fun K hK => ?_)
            go_simp
            refine hK.out _ _ (.inr hH6) ?_
            clear hK K
            try simp only [Act.put, List.setIfInBounds_toArray, List.set_cons_zero, List.set_cons_succ]
            refine until_one (i := 16) rfl (by kernel_rfl) (fun K hK => ?_)
            refine step_append_lies _ (by rfl) (.tmp 107) (.tmp 118) 105 (by rfl) ((w.heap.size + 1 + 1 + 1) + 1) 174 j0 (.agg #[.int .i64 0, .int .i64 0, .int .i64 0, .int .i64 0, .int .i64 0]) 5 40 Try.underlying105 hj hy0 hy1 hy2 rfl (by decide) _ nd (flatRd dl) (by rfl) HL6.out.od ⟨wr.drew.heap.size, 0, none⟩ 1 1 (rdCells ⟨va, vb, tm, o1, vn⟩).toList (by rfl) rfl (World.news_of_block (new_blkC wr.drew #[.int .i64 va, .int .i64 vb, .int .i64 tm, .int .i64 o1, .int .i64 vn] 174)) (by intro u hu; simp [rdCells] at hu; rcases hu with rfl | rfl | rfl | rfl | rfl <;> rfl) (by decide) (by unfold maxLen; omega) (by omega) HL6.out.lt _ rfl ?_
            intro g4 e4 w4 hown hgrow hat hlt
            obtain ⟨hyw, hbx⟩ := HL6.out.grow_d hgrow
            have HQ := hide (HL6.out.push_d hown hgrow hat (by simp))
            have HQ2 := hide (stay_blk (u := .slice (some ⟨g4, 0, none⟩) (nd + 1) e4) (o := 8) HL6.out.od hgrow H62.out (by decide) (show b2 ≠ (w.heap.size + 1 + 1 + 1) by omega))
            have HQ3 := hide (stay_blk (u := .slice (some ⟨g4, 0, none⟩) (nd + 1) e4) (o := 8) HL6.out.od hgrow H6a.out (by decide) (show qa ≠ (w.heap.size + 1 + 1 + 1) by omega))
            have HQ4 := hide (stay_blk (u := .slice (some ⟨g4, 0, none⟩) (nd + 1) e4) (o := 8) HL6.out.od hgrow H6b.out (by decide) (show qb ≠ (w.heap.size + 1 + 1 + 1) by omega))
            have hH7 := HS14.out _ hyw (grown_at HL6.out.od hgrow H62.out (by decide)) (grown_at HL6.out.od hgrow H6a.out (by decide)) (grown_at HL6.out.od hgrow H6b.out (by decide))
            have y8 : w4.cell? ⟨(w.heap.size + 1 + 1 + 1), 8, none⟩ = some (.slice da nd dc) := by rw [cell_of_block hyw]; rfl
            have fz : w4.frozen? ⟨(w.heap.size + 1 + 1 + 1), 8, none⟩ = false := by simp [World.frozen?, hyw]
            have hyz2 : (w.heap.size + 1 + 1 + 1) < w4.heap.size := (Array.getElem?_eq_some_iff.1 hyw).1
            clear hyw hbx hown hgrow hat hlt
            refine hK.out _ _ (.inr hH7) ?_
            clear hK K
            try simp only [Act.put, List.setIfInBounds_toArray, List.set_cons_zero, List.set_cons_succ]
            refine utk (i := 17) rfl hH7 ?_
            try simp only [Act.put, List.setIfInBounds_toArray, List.set_cons_zero, List.set_cons_succ]
            refine utk (i := 18) rfl hH7 ?_
            try simp only [Act.put, List.setIfInBounds_toArray, List.set_cons_zero, List.set_cons_succ]
            refine until_one (i := 19) rfl (by kernel_rfl) (fun K hK => ?_)
            go_simp
            refine hK.out _ _ (.inl rfl) ?_
            clear hK K
            try simp only [Act.put, List.setIfInBounds_toArray, List.set_cons_zero, List.set_cons_succ]
            refine until_done (by kernel_rfl) ?_ _
            refine NoPanic.normal ?_
            clear hH6 hH7 y8 fz hyz2 hyz hHeld HS14X HS14 HL6 H62 H6a H6b HLD
            go_wp2_with fail
            go_roundw
            case rel => exact ⟨i + 1, by omega, by go_num, _, _, _, _, HQ.out, by rw [HDL.out, readsU_succ, HRO.out, List.append_assoc], HQ2.out, HQ3.out, HQ4.out⟩
            case measure => simp [intOf]; omega
          · have e : i = un := by omega
            subst e
            have hii : ¬ (i : Int) < (i : Int) := by omega
            go_wp2_with fail
            go_roundw
            case rel =>
              refine ⟨k + 1, by omega, by go_num, some ⟨g1, 0, none⟩, e1, some ⟨g2, 0, none⟩, e2, some ⟨g3, 0, none⟩, e3, da, dc, ?_⟩
              have e9 : nd = (readsN L ⟨pc, st, ops⟩ O (k + 1)).length := by rw [HRD.out, ← HDL.out]; omega
              rw [HTS.out, HRS.out, HPS.out, ← e9, HRD.out, ← HDL.out]
              exact HLY.out
            case measure => simp [intOf]; omega

    · have e : k = L.body.length := by omega
      subst e
      have hki : ¬ (L.body.length : Int) < (L.body.length : Int) := by omega
      obtain ⟨-, -, -, -, hbw⟩ := HLK.out _ hly.bel
      have HBW := hide hbw
      clear hly hbw
      go_wp2_with fail
      go_ret
      exact ⟨rfl, HBW.out, ta, tc, ra, rc, pa, pq, da, dc, HLY.out⟩
end Go.Proofs.Ytbpaffkkphacdab
