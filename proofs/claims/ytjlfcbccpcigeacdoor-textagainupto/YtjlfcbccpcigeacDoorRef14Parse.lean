/- The contract of the document's own Parse (N2): the loop whose text it is, or the first line that is none; nothing that was there is changed. -/
import Derived.Test.YtjlfcbccpcigeacDoorRef14Mem
import Derived.Test.YtjlfcbccpcigeacDoorTextSay
import Derived.Test.YtjlfcbccpcigeacDoorBase
namespace Go.Proofs.YtjlfcbccpcigeacDoor
open Go.RowKit Go.Joins
set_option linter.unusedVariables false
set_option linter.unusedSimpArgs false
set_option maxRecDepth 8192

theorem split_count (x : Int) : ∀ s : List Int, (splitD x s).length ≤ s.length + 1 ∧ 1 ≤ (splitD x s).length := by
  intro s
  induction s with
  | nil => exact ⟨Nat.le_refl _, Nat.le_refl _⟩
  | cons c l ih =>
    by_cases h : c = x
    · subst h
      rw [split_eq]
      simp only [List.length_cons]
      omega
    · obtain ⟨p, ps, hs⟩ : ∃ p ps, splitD x l = p :: ps := by
        match hs : splitD x l, split_ne x l with
        | p :: ps, _ => exact ⟨p, ps, rfl⟩
      rw [split_cons h hs]
      rw [hs] at ih
      simp only [List.length_cons] at ih ⊢
      omega
theorem st_in {ws : List (List Int)} {r : St} (h : stO ws = some r) : -9223372036854775808 ≤ r.nn ∧ r.nn ≤ 9223372036854775807 := by
  unfold stO at h
  split at h
  · split at h
    · cases h; exact ⟨by simp, by simp⟩
    · cases h
  · split at h
    · rename_i w a hw
      cases hn : numO a 19 with
      | none => rw [hn] at h; cases h
      | some n =>
        rw [hn] at h
        cases h
        exact (num_is hn).2
    · cases h
  all_goals (repeat' split at h) <;> first | (cases h; exact ⟨by simp, by simp⟩) | cases h
/-- the numbers of a loop under way -/
def InP (L : Lp) : Prop := (∀ z ∈ L.logs, -9223372036854775808 ≤ z ∧ z ≤ 9223372036854775807) ∧ (∀ z ∈ L.outs, -9223372036854775808 ≤ z ∧ z ≤ 9223372036854775807) ∧ ∀ s ∈ L.body, -9223372036854775808 ≤ s.nn ∧ s.nn ≤ 9223372036854775807
theorem InP.loopIn {L : Lp} (h : InP L) : LoopIn L := fun k => by
  by_cases hk : k < L.body.length
  · have : stAt L.body k ∈ L.body := by unfold stAt; rw [List.getD, List.getElem?_eq_getElem hk]; exact List.getElem_mem _
    exact h.2.2 _ this
  · have : (stAt L.body k).nn = 0 := by unfold stAt; rw [List.getD, List.getElem?_eq_none (by omega)]; rfl
    rw [this]; unfold I64; omega
/-- where Parse returns what is wrong -/
theorem none_in : InP ⟨[], [], []⟩ := ⟨by simp, by simp, by simp⟩
theorem none_loop (w : World) : LoopV w (.agg #[.slice none 0 0, .slice none 0 0, .slice none 0 0]) ⟨[], [], []⟩ :=
  ⟨_, _, _, rfl, ⟨none, 0, rfl, Nat.le_refl _, Nat.zero_le _, fun i hi => absurd hi (Nat.not_lt_zero _), fun hp => absurd hp (Nat.lt_irrefl _)⟩, ⟨none, 0, rfl, Nat.le_refl _, Nat.zero_le _, fun hp => absurd hp (Nat.lt_irrefl _)⟩, ⟨none, 0, rfl, Nat.le_refl _, Nat.zero_le _, fun i hi => absurd hi (Nat.not_lt_zero _), fun hp => absurd hp (Nat.lt_irrefl _)⟩⟩
theorem pp_no {s : List Int} {w w' : World} {k : Nat} (h : parseD s = (⟨[], [], []⟩, 2, k)) (hb : Below w.heap.size w w') : ParsePost s w (.returned (.tuple #[.agg #[.slice none 0 0, .slice none 0 0, .slice none 0 0], .agg #[.int .i64 2, .int .i64 (k : Int)]])) w' :=
  ⟨_, _, _, by rw [h], by rw [h]; exact none_loop _, by rw [h]; exact none_in.loopIn, hb⟩
theorem getD_drop (ls : List (List Int)) (k : Nat) : (ls.drop k).getD 0 [] = ls.getD k [] := by
  rw [List.getD, List.getD, List.getElem?_drop, Nat.add_zero]
theorem Tryd.iintP : (Tryd.prog.info? 3).map (fun i => (i.zero, i.size, i.bytes)) = some (some (.int .i64 0), 1, 8) := by kernel_rfl
theorem Tryd.istP : (Tryd.prog.info? 53).map (fun i => (i.zero, i.size, i.bytes)) = some (some (.agg #[.int .i64 0, .int .i64 0, .int .i64 0, .int .i64 0, .int .i64 0, .int .i64 0, .int .i64 0, .int .i64 0, .int .i64 0]), 9, 72) := by kernel_rfl
theorem new_blkP (w : World) (cs : Array Value) (e : TypeId) : (w.alloc (.cells cs e)).heap[w.heap.size]? = some (.cells cs e (0, 0)) := by show (w.heap.push _)[w.heap.size]? = _; simp

theorem two_eq {n : Nat} (h : n = 2) : ((n : Int) != 2) = false := by subst h; rfl
theorem two_ne {n : Nat} (h : ¬ n = 2) : ((n : Int) != 2) = true := by simp; omega
theorem two_sum {a b : Nat} (h : a + b ≤ 3000000) : wrap64 ((a : Int) + (b : Int)) = (a : Int) + (b : Int) := by unfold wrap64; omega
theorem st_none {ws : List (List Int)} (h : false = (stO ws).isSome) : stO ws = none := by
  cases hq : stO ws with
  | none => rfl
  | some r => rw [hq] at h; cases h
theorem st_some {ws : List (List Int)} {v : St} (h : true = (stO ws).isSome) (hv : ∀ r, stO ws = some r → v = r) : stO ws = some v := by
  cases hq : stO ws with
  | none => rw [hq] at h; cases h
  | some r => rw [hv r hq]
/-- StmtPost with the statement's cells written out -/
def StPost (ws : List (List Int)) (w : World) (e : Ending) (w' : World) : Prop := ∃ (s : St) (ok : Bool), e = .returned (.tuple #[.agg #[.int .i64 s.o, .int .i64 s.xa, .int .i64 s.xb, .int .i64 s.ya, .int .i64 s.yb, .int .i64 s.ar, .int .i64 s.sp, .int .i64 s.pl, .int .i64 s.nn], .bool ok]) ∧ ok = (stO ws).isSome ∧ (∀ r, stO ws = some r → s = r) ∧ Below w.heap.size w w'
theorem st_ones (v : St) : ∀ u ∈ (stCells v).toList, u.oneCell' = true := by
  intro u hu
  simp [stCells] at hu
  rcases hu with rfl | rfl | rfl | rfl | rfl | rfl | rfl | rfl | rfl <;> rfl
theorem new_st (x : World) (v : St) : ∀ j u, (stCells v).toList[j]? = some u → ((x.alloc (.cells #[.int .i64 v.o, .int .i64 v.xa, .int .i64 v.xb, .int .i64 v.ya, .int .i64 v.yb, .int .i64 v.ar, .int .i64 v.sp, .int .i64 v.pl, .int .i64 v.nn] 53)).alloc (.cells #[.int .i64 v.o, .int .i64 v.xa, .int .i64 v.xb, .int .i64 v.ya, .int .i64 v.yb, .int .i64 v.ar, .int .i64 v.sp, .int .i64 v.pl, .int .i64 v.nn] 53)).cell? ((⟨x.heap.size + 1, 0, none⟩ : Addr).add j) = some u := by
  have e : (x.alloc (.cells #[.int .i64 v.o, .int .i64 v.xa, .int .i64 v.xb, .int .i64 v.ya, .int .i64 v.yb, .int .i64 v.ar, .int .i64 v.sp, .int .i64 v.pl, .int .i64 v.nn] 53)).heap.size = x.heap.size + 1 := by simp
  have h := new_blkP (x.alloc (.cells #[.int .i64 v.o, .int .i64 v.xa, .int .i64 v.xb, .int .i64 v.ya, .int .i64 v.yb, .int .i64 v.ar, .int .i64 v.sp, .int .i64 v.pl, .int .i64 v.nn] 53)) #[.int .i64 v.o, .int .i64 v.xa, .int .i64 v.xb, .int .i64 v.ya, .int .i64 v.yb, .int .i64 v.ar, .int .i64 v.sp, .int .i64 v.pl, .int .i64 v.nn] 53
  rw [e] at h
  exact World.news_of_block h
theorem below_st1 (x : World) (v : St) : Below x.heap.size x (x.alloc (.cells #[.int .i64 v.o, .int .i64 v.xa, .int .i64 v.xb, .int .i64 v.ya, .int .i64 v.yb, .int .i64 v.ar, .int .i64 v.sp, .int .i64 v.pl, .int .i64 v.nn] 53)) := below_alloc1 _ _
theorem below_st2 (x : World) (v : St) : Below x.heap.size x ((x.alloc (.cells #[.int .i64 v.o, .int .i64 v.xa, .int .i64 v.xb, .int .i64 v.ya, .int .i64 v.yb, .int .i64 v.ar, .int .i64 v.sp, .int .i64 v.pl, .int .i64 v.nn] 53)).alloc (.cells #[.int .i64 v.o, .int .i64 v.xa, .int .i64 v.xb, .int .i64 v.ya, .int .i64 v.yb, .int .i64 v.ar, .int .i64 v.sp, .int .i64 v.pl, .int .i64 v.nn] 53)) := below_alloc2 _ _ _
theorem five_set {X : World} {g : Nat} {e e' : TypeId} {a b c u v a' b' c' u' v' : Value} (h1 : X.heap[g]? = some (.cells #[a, b, c] e (0, 0))) (h2 : X.heap[g + 1]? = some (.cells #[u, v] e' (0, 0))) :
    (((((X.setCell ⟨g, 0, none⟩ a').setCell ⟨g, 1, none⟩ b').setCell ⟨g, 2, none⟩ c').setCell ⟨g + 1, 0, none⟩ u').setCell ⟨g + 1, 1, none⟩ v').heap[g]? = some (.cells #[a', b', c'] e (0, 0)) ∧ (((((X.setCell ⟨g, 0, none⟩ a').setCell ⟨g, 1, none⟩ b').setCell ⟨g, 2, none⟩ c').setCell ⟨g + 1, 0, none⟩ u').setCell ⟨g + 1, 1, none⟩ v').heap[g + 1]? = some (.cells #[u', v'] e' (0, 0)) := by
  constructor <;> simp [World.setCell, Array.getElem?_modify, h1, h2]
theorem five_below {X w : World} {a' b' c' u' v' : Value} (h : Below w.heap.size w X) : Below w.heap.size w (((((X.setCell ⟨w.heap.size, 0, none⟩ a').setCell ⟨w.heap.size, 1, none⟩ b').setCell ⟨w.heap.size, 2, none⟩ c').setCell ⟨w.heap.size + 1, 0, none⟩ u').setCell ⟨w.heap.size + 1, 1, none⟩ v') :=
  ((((h.setCell (Nat.le_refl _) _).setCell (Nat.le_refl _) _).setCell (Nat.le_refl _) _).setCell (Nat.le_succ _) _).setCell (Nat.le_succ _) _
theorem loop_five {x1 wr : World} {y g : Nat} {lv bv ov u' v' : Value} {nl nb no : Nat} {ll ol : List Int} {bl : List St} (h : LpM x1 y lv bv ov nl nb no ll bl ol wr) (hg : g + 1 + 1 ≤ y) (hin : InP ⟨ll, bl, ol⟩) :
    LoopV (((((wr.setCell ⟨g, 0, none⟩ lv).setCell ⟨g, 1, none⟩ bv).setCell ⟨g, 2, none⟩ ov).setCell ⟨g + 1, 0, none⟩ u').setCell ⟨g + 1, 1, none⟩ v') (.agg #[lv, bv, ov]) ⟨ll, bl, ol⟩ := by
  have k0 : g < y + 1 := by omega
  have k1 : g + 1 < y + 1 := by omega
  have o1 := own_setP (u := v') (o := 1) (own_setP (u := u') (o := 0) (own_setP (u := ov) (o := 2) (own_setP (u := bv) (o := 1) (own_setP (u := lv) (o := 0) h.ol_ k0) k0) k0) k1) k1
  have o2 := own_setP (u := v') (o := 1) (own_setP (u := u') (o := 0) (own_setP (u := ov) (o := 2) (own_setP (u := bv) (o := 1) (own_setP (u := lv) (o := 0) h.ob k0) k0) k0) k1) k1
  have o3 := own_setP (u := v') (o := 1) (own_setP (u := u') (o := 0) (own_setP (u := ov) (o := 2) (own_setP (u := bv) (o := 1) (own_setP (u := lv) (o := 0) h.oo k0) k0) k0) k1) k1
  obtain ⟨e1, e2, e3⟩ := h.nums
  subst e1; subst e2; subst e3
  exact ⟨lv, bv, ov, rfl, Ints.of_ownP o1 hin.1, Stmts.of_ownP o2, Ints.of_ownP o3 hin.2.1⟩
theorem pp_yes {s : List Int} {w w' : World} {L : Lp} {v0 v1 v2 : Value} (h : parseD s = (L, 0, 0)) (hl : LoopV w' (.agg #[v0, v1, v2]) L) (hi : InP L) (hb : Below w.heap.size w w') : ParsePost s w (.returned (.tuple #[.agg #[v0, v1, v2], .agg #[.int .i64 0, .int .i64 0]])) w' :=
  ⟨_, _, _, by rw [h]; rfl, by rw [h]; exact hl, by rw [h]; exact hi.loopIn, hb⟩
set_option maxHeartbeats 32000000 in
theorem parse_walk (s : List Int) (w : World) (hsb : ByteL s) (hsl : s.length ≤ 2000000) : Calls Tryd.prog 11 #[.string (strOfNums s)] w (ParsePost s w) := by
  have HSP := hide (split_any s 10 ((w.alloc (.cells #[.slice none 0 0, .slice none 0 0, .slice none 0 0] 25)).alloc (.cells #[.int .i64 0, .int .i64 0] 32)) hsb hsl)
  have HPB := hide (fun i => parts_byte (x := 10) hsb i)
  have HPL := hide (fun i => part_len (x := 10) (byteL_mem hsb) i)
  obtain ⟨hct1, hct2⟩ := split_count 10 s
  have HPD : Hid (parseD s = goD ⟨[], [], []⟩ ((splitD 10 s).drop 0) 0) := rfl
  obtain ⟨ls, hls⟩ : ∃ ls, splitD 10 s = ls := ⟨_, rfl⟩
  rw [hls] at HSP HPB HPL hct1 hct2 HPD
  obtain ⟨n, hn⟩ : ∃ n : Nat, ls.length = n + 1 := ⟨ls.length - 1, by omega⟩
  have hn2 : n ≤ 2000000 := by omega
  obtain ⟨i0, hi, hz0, hz1, hz2⟩ := info_parts Tryd.iintP
  obtain ⟨j0, hj, hy0, hy1, hy2⟩ := info_parts Tryd.istP
  rw [hn] at HSP
  have HLN := hide hn
  have hwn : wrap64 (((n + 1 : Nat) : Int) - 1) = n := by unfold wrap64; omega
  have hwn2 : ((n + 1 : Nat) : Int) - 1 = n := by omega
  obtain ⟨PS, hPS⟩ : ∃ PS, strOfNums s = PS := ⟨_, rfl⟩
  rw [hPS] at HSP ⊢
  have HS2 : Hid (((w.alloc (.cells #[.slice none 0 0, .slice none 0 0, .slice none 0 0] 25)).alloc (.cells #[.int .i64 0, .int .i64 0] 32)).heap.size = w.heap.size + 1 + 1) := by show _ = _; simp
  clear hls hct1 hct2 hsb hPS hn
  go_enter Tryd.func11, Tryd.ntmps11
  go_wp2_with fail
  refine HSP.out.mono ?_
  rintro e x1 ⟨b, c, rfl, hc1, hc2, hbw, hbz, hcells, hbel⟩
  unfold maxLen at hc2
  rw [HS2.out] at hbel
  have HX1 := hide hbel
  have HCE := hide hcells
  have hx1 : w.heap.size + 1 + 1 ≤ x1.heap.size := by have := hbel.size; rw [HS2.out] at this; exact this
  have HR : Hid (∀ u, Below x1.heap.size x1 u → u.heap[w.heap.size]? = some (.cells #[.slice none 0 0, .slice none 0 0, .slice none 0 0] 25 (0, 0)) ∧ u.heap[w.heap.size + 1]? = some (.cells #[.int .i64 0, .int .i64 0] 32 (0, 0)) ∧ Below w.heap.size w u) := fun u hu => by
    have h2 := HX1.out.trans (hu.mono hx1)
    refine ⟨?_, ?_, (below_alloc2 w _ _).trans (h2.mono (by omega))⟩
    · rw [h2.block _ (by omega), Below.heap_alloc _ _ _ (by simp)]; exact new_blkP _ _ _
    · rw [h2.block _ (by omega)]
      have e : (w.alloc (.cells #[.slice none 0 0, .slice none 0 0, .slice none 0 0] 25)).heap.size = w.heap.size + 1 := by simp
      have h := new_blkP (w.alloc (.cells #[.slice none 0 0, .slice none 0 0, .slice none 0 0] 25)) #[.int .i64 0, .int .i64 0] 32
      rw [e] at h
      exact h
  have HST := hide (LpM.start x1)
  clear hcells hbel hbw HSP
  go_wp2_with fail
  go_loopw [7] (fun iv wr => ∃ (k nl nb no lc bc oc : Nat) (ll : List Int) (bl : List St) (ol : List Int) (la ba oa : Option Addr), k ≤ n ∧ iv = .int .i64 k ∧ LpM x1 x1.heap.size (.slice la nl lc) (.slice ba nb bc) (.slice oa no oc) nl nb no ll bl ol wr ∧ parseD s = goD ⟨ll, bl, ol⟩ (ls.drop k) k ∧ InP ⟨ll, bl, ol⟩ ∧ nl + nb + no ≤ k) (fun iv _ => n - (intOf iv).toNat)
  case atStart => exact ⟨0, 0, 0, 0, 0, 0, 0, [], [], [], none, none, none, Nat.zero_le _, rfl, HST.out, HPD.out, none_in, Nat.le_refl _⟩
  case round =>
    clear HST HPD
    obtain ⟨k, nl, nb, no, lc, bc, oc, ll, bl, ol, la, ba, oa, hk, rfl, hly, hgo, hin, hcnt⟩ := hrel
    have HLY := hide hly
    have HGO := hide hgo
    have HIN := hide hin
    have hyz := hly.lt
    have ck := (bcell hly.bel b k hbz).trans (HCE.out k (by omega))
    obtain ⟨y0, y1, y2⟩ := hly.cells
    have hbz2 : b < wr.heap.size := by omega
    by_cases hkl : k < n
    · have hki : (k : Int) < (n : Int) := by omega
      have hki2 : (k : Int) < ((n + 1 : Nat) : Int) := by omega
      have HSTEP : Hid (goD ⟨ll, bl, ol⟩ (ls.drop k) k = match lineO ⟨ll, bl, ol⟩ (splitD 32 (ls.getD k [])) with | some L' => goD L' (ls.drop (k + 1)) (k + 1) | none => (⟨[], [], []⟩, 2, k)) := by
        show _ = _
        have h := go_step (L := ⟨ll, bl, ol⟩) (ls := ls.drop k) (k := k) (by rw [List.length_drop, HLN.out]; omega)
        rw [getD_drop, List.tail_drop] at h
        exact h
      have hpb := HPB.out k
      have hpl := HPL.out k
      obtain ⟨p, hp⟩ : ∃ p, ls.getD k [] = p := ⟨_, rfl⟩
      rw [hp] at ck HSTEP hpb hpl
      have HSP2 := hide (fun W => split_any p 32 W hpb (by omega))
      obtain ⟨hw1, hw2⟩ := split_count 32 p
      have HWB := hide (fun i => parts_byte (x := 32) hpb i)
      have HWL := hide (fun i => part_len (x := 32) (byteL_mem hpb) i)
      obtain ⟨ws, hws⟩ : ∃ ws, splitD 32 p = ws := ⟨_, rfl⟩
      rw [hws] at HSTEP HSP2 hw1 hw2 HWB HWL
      obtain ⟨PP, hPP⟩ : ∃ PP, strOfNums p = PP := ⟨_, rfl⟩
      rw [hPP] at ck HSP2
      clear hp hws hPP hly hgo hin
      go_wp2_with fail
      refine (HSP2.out _).mono ?_
      rintro e x2 ⟨b2, c2, rfl, hd1, hd2, hd3, hd4, hdc, hbx⟩
      unfold maxLen at hd2
      obtain ⟨nw, hnw⟩ : ∃ nw, ws.length = nw := ⟨_, rfl⟩
      rw [hnw] at hw1 hw2 hd1 hdc ⊢
      have HNW := hide hnw
      have HLY2 := hide (HLY.out.below hbx)
      have hx2z := HLY2.out.lt
      obtain ⟨X3, hX3⟩ : ∃ X3, x2.alloc (.cells #[.int .i64 2, .int .i64 (k : Int)] 32) = X3 := ⟨_, rfl⟩
      have hX3b : Below x2.heap.size x2 X3 := by rw [← hX3]; exact below_alloc1 _ _
      have HLY3 := hide (HLY2.out.below hX3b)
      have hWB : X3.heap[x2.heap.size]? = some (.cells #[.int .i64 2, .int .i64 (k : Int)] 32 (0, 0)) := by rw [← hX3]; exact new_blkP _ _ _
      have HWBX := hide hWB
      have HDC : Hid (∀ i, i < nw → X3.cell? ⟨b2, i, none⟩ = some (.string (strOfNums (ws.getD i [])))) := fun i hi => (bcell hX3b b2 i hd4).trans (hdc i hi)
      have d0 := hdc 0 (by omega)
      have HDX := hide hdc
      have e1 := word_beq (byteL_mem (HWB.out 0)) (m := arrayW) (by decide) (b := [97, 114, 114, 97, 121]) rfl
      have e2 := word_beq (byteL_mem (HWB.out 0)) (m := outW) (by decide) (b := [111, 117, 116]) rfl
      obtain ⟨w0, hw0⟩ : ∃ w0, ws.getD 0 [] = w0 := ⟨_, rfl⟩
      rw [hw0] at d0 e1 e2
      have HW0 := hide hw0
      obtain ⟨A0, hA0⟩ : ∃ A0, strOfNums w0 = A0 := ⟨_, rfl⟩
      rw [hA0] at d0 e1 e2
      have HX3 := hide hX3
      have HD03 : Hid (X3.cell? ⟨b2, 0, none⟩ = some (.string A0)) := (bcell hX3b b2 0 hd4).trans d0
      have hb2z : b2 < X3.heap.size := by have := hX3b.size; omega
      have hwbz : x2.heap.size < X3.heap.size := (Array.getElem?_eq_some_iff.1 hWB).1
      have hn0 : (0 : Int) < (nw : Int) := by omega
      obtain ⟨z0, z1, z2⟩ := HLY2.out.cells
      have hb2x : b2 < x2.heap.size := hd4
      clear hnw hdc hbx hX3 hX3b hWB hw0 hA0 ck y0 y1 y2 hyz hbz2 HLY HLY2 HSP2
      by_cases q1 : w0 = arrayW
      · rw [decide_eq_true q1] at e1
        have HLI : Hid (lineO ⟨ll, bl, ol⟩ ws = if nw = 2 ∧ bl.length + ol.length = 0 then (numO (ws.getD 1 []) 18).map (fun n => (⟨ll ++ [n], bl, ol⟩ : Lp)) else none) := by
          have h := line_array (L := ⟨ll, bl, ol⟩) (ws := ws) (by rw [HW0.out]; exact q1)
          rw [HNW.out] at h
          exact h
        clear e2 q1
        by_cases q2 : nw = 2
        · have hne := two_eq q2
          have hne2 : (nw : Int) = 2 := by omega
          have HLE : Hid (bl.length + ol.length = nb + no) := (by show _ = _; rw [← HLY3.out.nums.2.1, ← HLY3.out.nums.2.2])
          by_cases q3 : nb + no = 0
          · have hq0 : ¬ (0 : Int) < (nb : Int) + (no : Int) := by omega
            have HL2 : Hid (lineO ⟨ll, bl, ol⟩ ws = (numO (ws.getD 1 []) 18).map (fun n => (⟨ll ++ [n], bl, ol⟩ : Lp))) := by show _ = _; rw [HLI.out, if_pos (show nw = 2 ∧ bl.length + ol.length = 0 from ⟨q2, HLE.out.trans q3⟩)]
            have d1 := HDX.out 1 (by omega)
            have HNU := hide (fun W => number_any14 (ws.getD 1 []) 18 W (HWB.out 1) (by have := HWL.out 1; omega) (by omega))
            obtain ⟨p1, hp1⟩ : ∃ p1, ws.getD 1 [] = p1 := ⟨_, rfl⟩
            rw [hp1] at d1 HNU HL2
            obtain ⟨A1, hA1⟩ : ∃ A1, strOfNums p1 = A1 := ⟨_, rfl⟩
            rw [hA1] at d1 HNU
            have hn3 : (1 : Int) < (nw : Int) := by omega
            clear hp1 hA1
            have hws := two_sum (a := nb) (b := no) (by omega)
            go_wp2_with fail
            clear hws
            refine (HNU.out _).mono ?_
            rintro e x4 ⟨v, okb, rfl, hob, hov, vlo, vhi, hx4⟩
            rw [HX3.out] at hx4
            have HLY4 := hide (HLY3.out.below hx4)
            have HWB4 := hide ((hx4.block _ (Array.getElem?_eq_some_iff.1 HWBX.out).1).trans HWBX.out)
            have d04 := (bcell hx4 b2 0 hb2z).trans (HD03.out)
            have hb4z : b2 < x4.heap.size := by have := hx4.size; omega
            clear d1 d0 hx4 z0 z1 z2
            cases okb with
            | false =>
              have HNO : Hid (parseD s = (⟨[], [], []⟩, 2, k)) := by
                show _ = _
                rw [HGO.out, HSTEP.out, HL2.out]
                cases hq : numO p1 18 with
                | none => rfl
                | some m => rw [hq] at hob; cases hob
              clear hob hov
              go_wp2_with fail
              skip
              obtain ⟨r1, r2, hbX⟩ := HR.out x4 HLY4.out.bel
              have HR1 := hide r1
              have HR2 := hide r2
              have HBX := hide hbX
              have kc0 : x4.cell? ⟨w.heap.size, 0, none⟩ = some (.slice none 0 0) := by rw [cell_of_block r1]; rfl
              have kf0 : x4.frozen? ⟨w.heap.size, 0, none⟩ = false := by simp [World.frozen?, r1]
              have kc1 : x4.cell? ⟨w.heap.size, 1, none⟩ = some (.slice none 0 0) := by rw [cell_of_block r1]; rfl
              have kf1 : x4.frozen? ⟨w.heap.size, 1, none⟩ = false := by simp [World.frozen?, r1]
              have kc2 : x4.cell? ⟨w.heap.size, 2, none⟩ = some (.slice none 0 0) := by rw [cell_of_block r1]; rfl
              have kf2 : x4.frozen? ⟨w.heap.size, 2, none⟩ = false := by simp [World.frozen?, r1]
              have mc0 : x4.cell? ⟨w.heap.size + 1, 0, none⟩ = some (.int .i64 0) := by rw [cell_of_block r2]; rfl
              have mf0 : x4.frozen? ⟨w.heap.size + 1, 0, none⟩ = false := by simp [World.frozen?, r2]
              have mc1 : x4.cell? ⟨w.heap.size + 1, 1, none⟩ = some (.int .i64 0) := by rw [cell_of_block r2]; rfl
              have mf1 : x4.frozen? ⟨w.heap.size + 1, 1, none⟩ = false := by simp [World.frozen?, r2]
              have hgz : w.heap.size + 1 < x4.heap.size := (Array.getElem?_eq_some_iff.1 r2).1
              clear r1 r2 hbX
              have u0 : x4.cell? ⟨x2.heap.size, 0, none⟩ = some (.int .i64 2) := by rw [cell_of_block HWB4.out]; rfl
              have u1 : x4.cell? ⟨x2.heap.size, 1, none⟩ = some (.int .i64 (k : Int)) := by rw [cell_of_block HWB4.out]; rfl
              have hq1 : ¬ x2.heap.size = w.heap.size := by omega
              have hq2 : ¬ x2.heap.size = w.heap.size + 1 := by omega
              have hq3 : ¬ w.heap.size = x2.heap.size := by omega
              have hq4 : ¬ w.heap.size + 1 = x2.heap.size := by omega
              refine wp_region_noPanic ?_
              refine region_until 3 (fun w' => w'.cell? ⟨x2.heap.size, 0, none⟩ = some (.int .i64 2) ∧ w'.cell? ⟨x2.heap.size, 1, none⟩ = some (.int .i64 (k : Int))) (by kernel_rfl) ⟨u0, u1⟩ (fun hHeld => ?_)
              refine utk (i := 0) rfl hHeld ?_
              try simp only [Act.put, List.setIfInBounds_toArray, List.set_cons_zero, List.set_cons_succ]
              refine utk (i := 1) rfl hHeld ?_
              try simp only [Act.put, List.setIfInBounds_toArray, List.set_cons_zero, List.set_cons_succ]
              refine until_one (i := 2) rfl (by kernel_rfl) (fun K hK => ?_)
              go_simp
              refine hK.out _ _ (.inr ⟨by go_simp, by go_simp⟩) ?_
              clear hK K
              try simp only [Act.put, List.setIfInBounds_toArray, List.set_cons_zero, List.set_cons_succ]
              refine until_one (i := 3) rfl (by kernel_rfl) (fun K hK => ?_)
              go_simp
              refine hK.out _ _ (.inl rfl) ?_
              clear hK K
              try simp only [Act.put, List.setIfInBounds_toArray, List.set_cons_zero, List.set_cons_succ]
              refine until_done (by kernel_rfl) ?_ _
              refine NoPanic.normal ?_
              obtain ⟨s1, s2⟩ := five_set (a' := .slice none 0 0) (b' := .slice none 0 0) (c' := .slice none 0 0) (u' := .int .i64 2) (v' := .int .i64 (k : Int)) HR1.out HR2.out
              have HFB := hide (five_below (a' := .slice none 0 0) (b' := .slice none 0 0) (c' := .slice none 0 0) (u' := .int .i64 2) (v' := .int .i64 (k : Int)) HBX.out)
              obtain ⟨XF, hXF⟩ : ∃ XF, (((((x4.setCell ⟨w.heap.size, 0, none⟩ (.slice none 0 0)).setCell ⟨w.heap.size, 1, none⟩ (.slice none 0 0)).setCell ⟨w.heap.size, 2, none⟩ (.slice none 0 0)).setCell ⟨w.heap.size + 1, 0, none⟩ (.int .i64 2)).setCell ⟨w.heap.size + 1, 1, none⟩ (.int .i64 (k : Int))) = XF := ⟨_, rfl⟩
              rw [hXF] at s1 s2 HFB
              rw [hXF]
              have f0 : XF.cell? ⟨w.heap.size, 0, none⟩ = some (.slice none 0 0) := by rw [cell_of_block s1]; rfl
              have f1 : XF.cell? ⟨w.heap.size, 1, none⟩ = some (.slice none 0 0) := by rw [cell_of_block s1]; rfl
              have f2 : XF.cell? ⟨w.heap.size, 2, none⟩ = some (.slice none 0 0) := by rw [cell_of_block s1]; rfl
              have f3 : XF.cell? ⟨w.heap.size + 1, 0, none⟩ = some (.int .i64 2) := by rw [cell_of_block s2]; rfl
              have f4 : XF.cell? ⟨w.heap.size + 1, 1, none⟩ = some (.int .i64 (k : Int)) := by rw [cell_of_block s2]; rfl
              clear hXF s1 s2
              go_wp2_with fail
              exact bodyPost_ret (v := .tuple #[.agg #[.slice none 0 0, .slice none 0 0, .slice none 0 0], .agg #[.int .i64 2, .int .i64 (k : Int)]]) (by simp [results, Tryd.results11, go_sem, f0, f1, f2, f3, f4]) rfl (pp_no HNO.out (HFB.out.trans (below_draws _ _ 1)))
            | true =>
              have HYES : Hid (parseD s = goD ⟨ll ++ [v], bl, ol⟩ (ls.drop (k + 1)) (k + 1)) := by
                show _ = _
                rw [HGO.out, HSTEP.out, HL2.out]
                cases hq : numO p1 18 with
                | none => rw [hq] at hob; cases hob
                | some m => rw [hov m hq]; rfl
              obtain ⟨z0, z1, z2⟩ := HLY4.out.cells
              have hyz4 := HLY4.out.lt
              have HLA := hide (HLY4.out.below (below_alloc1 x4 (.cells #[.int .i64 v] 3)))
              clear hob hov
              go_wp2_with (at_builtin; refine wpList_append_lies _ rfl (.tmp 79) (.tmp 81) 22 rfl (x1.heap.size + 1) 3 i0 (.int .i64 0) 1 8 Tryd.underlying22 hi hz0 hz1 hz2 rfl (by decide) _ nl (cellsP ll) rfl HLA.out.ol_ ⟨x4.heap.size, 0, none⟩ 1 1 [.int .i64 v] rfl rfl (World.news_of_block (new_blkP x4 #[.int .i64 v] 3)) (by intro u hu; simp at hu; subst hu; rfl) (by decide) (by unfold maxLen; omega) (by omega) HLA.out.lt _ rfl ?_)
              intro g9 e9 w5 hown hgrow hat hlt
              obtain ⟨hyw, hbx⟩ := HLA.out.grow_l hgrow
              have HP := hide (HLA.out.push_l hown hgrow hat (by simp))
              have fz : w5.frozen? ⟨x1.heap.size, 0, none⟩ = false := by simp [World.frozen?, hyw]
              have yc : w5.cell? ⟨x1.heap.size, 0, none⟩ = some (.slice la nl lc) := by rw [cell_of_block hyw]; rfl
              have hyz5 : x1.heap.size < w5.heap.size := (Array.getElem?_eq_some_iff.1 hyw).1
              clear z0 z1 z2 hown hgrow hat hlt hyw hbx d04
              go_wp2_with fail
              go_roundw
              case rel => exact ⟨k + 1, nl + 1, nb, no, e9, bc, oc, ll ++ [v], bl, ol, some ⟨g9, 0, none⟩, ba, oa, by omega, by go_num, HP.out, HYES.out, ⟨fun z hz => by first | exact HIN.out.1 z hz | (rcases List.mem_append.1 hz with h | h; exact HIN.out.1 z h; (rw [List.mem_singleton] at h; subst h; exact ⟨vlo, vhi⟩)), fun z hz => by first | exact HIN.out.2.1 z hz | (rcases List.mem_append.1 hz with h | h; exact HIN.out.2.1 z h; (rw [List.mem_singleton] at h; subst h; exact ⟨vlo, vhi⟩)), HIN.out.2.2⟩, by omega⟩
              case measure => simp [intOf]; omega
          · have hq0 : (0 : Int) < (nb : Int) + (no : Int) := by omega
            have HNO : Hid (parseD s = (⟨[], [], []⟩, 2, k)) := by show _ = _; rw [HGO.out, HSTEP.out, HLI.out, if_neg (show ¬ (nw = 2 ∧ bl.length + ol.length = 0) from fun h => q3 (HLE.out.symm.trans h.2))]
            have hws := two_sum (a := nb) (b := no) (by omega)
            have hq6 : decide ((0 : Int) < (nb : Int) + (no : Int)) = true := decide_eq_true hq0
            clear hq0 q3 hcnt
            go_wp2_with fail
            clear hws
            try rw [HX3.out]
            obtain ⟨r1, r2, hbX⟩ := HR.out X3 HLY3.out.bel
            have HR1 := hide r1
            have HR2 := hide r2
            have HBX := hide hbX
            have kc0 : X3.cell? ⟨w.heap.size, 0, none⟩ = some (.slice none 0 0) := by rw [cell_of_block r1]; rfl
            have kf0 : X3.frozen? ⟨w.heap.size, 0, none⟩ = false := by simp [World.frozen?, r1]
            have kc1 : X3.cell? ⟨w.heap.size, 1, none⟩ = some (.slice none 0 0) := by rw [cell_of_block r1]; rfl
            have kf1 : X3.frozen? ⟨w.heap.size, 1, none⟩ = false := by simp [World.frozen?, r1]
            have kc2 : X3.cell? ⟨w.heap.size, 2, none⟩ = some (.slice none 0 0) := by rw [cell_of_block r1]; rfl
            have kf2 : X3.frozen? ⟨w.heap.size, 2, none⟩ = false := by simp [World.frozen?, r1]
            have mc0 : X3.cell? ⟨w.heap.size + 1, 0, none⟩ = some (.int .i64 0) := by rw [cell_of_block r2]; rfl
            have mf0 : X3.frozen? ⟨w.heap.size + 1, 0, none⟩ = false := by simp [World.frozen?, r2]
            have mc1 : X3.cell? ⟨w.heap.size + 1, 1, none⟩ = some (.int .i64 0) := by rw [cell_of_block r2]; rfl
            have mf1 : X3.frozen? ⟨w.heap.size + 1, 1, none⟩ = false := by simp [World.frozen?, r2]
            have hgz : w.heap.size + 1 < X3.heap.size := (Array.getElem?_eq_some_iff.1 r2).1
            clear r1 r2 hbX
            have u0 : X3.cell? ⟨x2.heap.size, 0, none⟩ = some (.int .i64 2) := by rw [cell_of_block HWBX.out]; rfl
            have u1 : X3.cell? ⟨x2.heap.size, 1, none⟩ = some (.int .i64 (k : Int)) := by rw [cell_of_block HWBX.out]; rfl
            have hq1 : ¬ x2.heap.size = w.heap.size := by omega
            have hq2 : ¬ x2.heap.size = w.heap.size + 1 := by omega
            have hq3 : ¬ w.heap.size = x2.heap.size := by omega
            have hq4 : ¬ w.heap.size + 1 = x2.heap.size := by omega
            refine wp_region_noPanic ?_
            refine region_until 3 (fun w' => w'.cell? ⟨x2.heap.size, 0, none⟩ = some (.int .i64 2) ∧ w'.cell? ⟨x2.heap.size, 1, none⟩ = some (.int .i64 (k : Int))) (by kernel_rfl) ⟨u0, u1⟩ (fun hHeld => ?_)
            refine utk (i := 0) rfl hHeld ?_
            try simp only [Act.put, List.setIfInBounds_toArray, List.set_cons_zero, List.set_cons_succ]
            refine utk (i := 1) rfl hHeld ?_
            try simp only [Act.put, List.setIfInBounds_toArray, List.set_cons_zero, List.set_cons_succ]
            refine until_one (i := 2) rfl (by kernel_rfl) (fun K hK => ?_)
            go_simp
            refine hK.out _ _ (.inr ⟨by go_simp, by go_simp⟩) ?_
            clear hK K
            try simp only [Act.put, List.setIfInBounds_toArray, List.set_cons_zero, List.set_cons_succ]
            refine until_one (i := 3) rfl (by kernel_rfl) (fun K hK => ?_)
            go_simp
            refine hK.out _ _ (.inl rfl) ?_
            clear hK K
            try simp only [Act.put, List.setIfInBounds_toArray, List.set_cons_zero, List.set_cons_succ]
            refine until_done (by kernel_rfl) ?_ _
            refine NoPanic.normal ?_
            obtain ⟨s1, s2⟩ := five_set (a' := .slice none 0 0) (b' := .slice none 0 0) (c' := .slice none 0 0) (u' := .int .i64 2) (v' := .int .i64 (k : Int)) HR1.out HR2.out
            have HFB := hide (five_below (a' := .slice none 0 0) (b' := .slice none 0 0) (c' := .slice none 0 0) (u' := .int .i64 2) (v' := .int .i64 (k : Int)) HBX.out)
            obtain ⟨XF, hXF⟩ : ∃ XF, (((((X3.setCell ⟨w.heap.size, 0, none⟩ (.slice none 0 0)).setCell ⟨w.heap.size, 1, none⟩ (.slice none 0 0)).setCell ⟨w.heap.size, 2, none⟩ (.slice none 0 0)).setCell ⟨w.heap.size + 1, 0, none⟩ (.int .i64 2)).setCell ⟨w.heap.size + 1, 1, none⟩ (.int .i64 (k : Int))) = XF := ⟨_, rfl⟩
            rw [hXF] at s1 s2 HFB
            rw [hXF]
            have f0 : XF.cell? ⟨w.heap.size, 0, none⟩ = some (.slice none 0 0) := by rw [cell_of_block s1]; rfl
            have f1 : XF.cell? ⟨w.heap.size, 1, none⟩ = some (.slice none 0 0) := by rw [cell_of_block s1]; rfl
            have f2 : XF.cell? ⟨w.heap.size, 2, none⟩ = some (.slice none 0 0) := by rw [cell_of_block s1]; rfl
            have f3 : XF.cell? ⟨w.heap.size + 1, 0, none⟩ = some (.int .i64 2) := by rw [cell_of_block s2]; rfl
            have f4 : XF.cell? ⟨w.heap.size + 1, 1, none⟩ = some (.int .i64 (k : Int)) := by rw [cell_of_block s2]; rfl
            clear hXF s1 s2
            go_wp2_with fail
            exact bodyPost_ret (v := .tuple #[.agg #[.slice none 0 0, .slice none 0 0, .slice none 0 0], .agg #[.int .i64 2, .int .i64 (k : Int)]]) (by simp [results, Tryd.results11, go_sem, f0, f1, f2, f3, f4]) rfl (pp_no HNO.out (HFB.out.trans (below_draws _ _ 1)))
        · have hne := two_ne q2
          have HNO : Hid (parseD s = (⟨[], [], []⟩, 2, k)) := by show _ = _; rw [HGO.out, HSTEP.out, HLI.out, if_neg (show ¬ (nw = 2 ∧ bl.length + ol.length = 0) from fun h => q2 h.1)]
          have hne2 : ¬ (nw : Int) = 2 := by omega
          go_wp2_with fail
          try rw [HX3.out]
          obtain ⟨r1, r2, hbX⟩ := HR.out X3 HLY3.out.bel
          have HR1 := hide r1
          have HR2 := hide r2
          have HBX := hide hbX
          have kc0 : X3.cell? ⟨w.heap.size, 0, none⟩ = some (.slice none 0 0) := by rw [cell_of_block r1]; rfl
          have kf0 : X3.frozen? ⟨w.heap.size, 0, none⟩ = false := by simp [World.frozen?, r1]
          have kc1 : X3.cell? ⟨w.heap.size, 1, none⟩ = some (.slice none 0 0) := by rw [cell_of_block r1]; rfl
          have kf1 : X3.frozen? ⟨w.heap.size, 1, none⟩ = false := by simp [World.frozen?, r1]
          have kc2 : X3.cell? ⟨w.heap.size, 2, none⟩ = some (.slice none 0 0) := by rw [cell_of_block r1]; rfl
          have kf2 : X3.frozen? ⟨w.heap.size, 2, none⟩ = false := by simp [World.frozen?, r1]
          have mc0 : X3.cell? ⟨w.heap.size + 1, 0, none⟩ = some (.int .i64 0) := by rw [cell_of_block r2]; rfl
          have mf0 : X3.frozen? ⟨w.heap.size + 1, 0, none⟩ = false := by simp [World.frozen?, r2]
          have mc1 : X3.cell? ⟨w.heap.size + 1, 1, none⟩ = some (.int .i64 0) := by rw [cell_of_block r2]; rfl
          have mf1 : X3.frozen? ⟨w.heap.size + 1, 1, none⟩ = false := by simp [World.frozen?, r2]
          have hgz : w.heap.size + 1 < X3.heap.size := (Array.getElem?_eq_some_iff.1 r2).1
          clear r1 r2 hbX
          have u0 : X3.cell? ⟨x2.heap.size, 0, none⟩ = some (.int .i64 2) := by rw [cell_of_block HWBX.out]; rfl
          have u1 : X3.cell? ⟨x2.heap.size, 1, none⟩ = some (.int .i64 (k : Int)) := by rw [cell_of_block HWBX.out]; rfl
          have hq1 : ¬ x2.heap.size = w.heap.size := by omega
          have hq2 : ¬ x2.heap.size = w.heap.size + 1 := by omega
          have hq3 : ¬ w.heap.size = x2.heap.size := by omega
          have hq4 : ¬ w.heap.size + 1 = x2.heap.size := by omega
          refine wp_region_noPanic ?_
          refine region_until 3 (fun w' => w'.cell? ⟨x2.heap.size, 0, none⟩ = some (.int .i64 2) ∧ w'.cell? ⟨x2.heap.size, 1, none⟩ = some (.int .i64 (k : Int))) (by kernel_rfl) ⟨u0, u1⟩ (fun hHeld => ?_)
          refine utk (i := 0) rfl hHeld ?_
          try simp only [Act.put, List.setIfInBounds_toArray, List.set_cons_zero, List.set_cons_succ]
          refine utk (i := 1) rfl hHeld ?_
          try simp only [Act.put, List.setIfInBounds_toArray, List.set_cons_zero, List.set_cons_succ]
          refine until_one (i := 2) rfl (by kernel_rfl) (fun K hK => ?_)
          go_simp
          refine hK.out _ _ (.inr ⟨by go_simp, by go_simp⟩) ?_
          clear hK K
          try simp only [Act.put, List.setIfInBounds_toArray, List.set_cons_zero, List.set_cons_succ]
          refine until_one (i := 3) rfl (by kernel_rfl) (fun K hK => ?_)
          go_simp
          refine hK.out _ _ (.inl rfl) ?_
          clear hK K
          try simp only [Act.put, List.setIfInBounds_toArray, List.set_cons_zero, List.set_cons_succ]
          refine until_done (by kernel_rfl) ?_ _
          refine NoPanic.normal ?_
          obtain ⟨s1, s2⟩ := five_set (a' := .slice none 0 0) (b' := .slice none 0 0) (c' := .slice none 0 0) (u' := .int .i64 2) (v' := .int .i64 (k : Int)) HR1.out HR2.out
          have HFB := hide (five_below (a' := .slice none 0 0) (b' := .slice none 0 0) (c' := .slice none 0 0) (u' := .int .i64 2) (v' := .int .i64 (k : Int)) HBX.out)
          obtain ⟨XF, hXF⟩ : ∃ XF, (((((X3.setCell ⟨w.heap.size, 0, none⟩ (.slice none 0 0)).setCell ⟨w.heap.size, 1, none⟩ (.slice none 0 0)).setCell ⟨w.heap.size, 2, none⟩ (.slice none 0 0)).setCell ⟨w.heap.size + 1, 0, none⟩ (.int .i64 2)).setCell ⟨w.heap.size + 1, 1, none⟩ (.int .i64 (k : Int))) = XF := ⟨_, rfl⟩
          rw [hXF] at s1 s2 HFB
          rw [hXF]
          have f0 : XF.cell? ⟨w.heap.size, 0, none⟩ = some (.slice none 0 0) := by rw [cell_of_block s1]; rfl
          have f1 : XF.cell? ⟨w.heap.size, 1, none⟩ = some (.slice none 0 0) := by rw [cell_of_block s1]; rfl
          have f2 : XF.cell? ⟨w.heap.size, 2, none⟩ = some (.slice none 0 0) := by rw [cell_of_block s1]; rfl
          have f3 : XF.cell? ⟨w.heap.size + 1, 0, none⟩ = some (.int .i64 2) := by rw [cell_of_block s2]; rfl
          have f4 : XF.cell? ⟨w.heap.size + 1, 1, none⟩ = some (.int .i64 (k : Int)) := by rw [cell_of_block s2]; rfl
          clear hXF s1 s2
          go_wp2_with fail
          exact bodyPost_ret (v := .tuple #[.agg #[.slice none 0 0, .slice none 0 0, .slice none 0 0], .agg #[.int .i64 2, .int .i64 (k : Int)]]) (by simp [results, Tryd.results11, go_sem, f0, f1, f2, f3, f4]) rfl (pp_no HNO.out (HFB.out.trans (below_draws _ _ 1)))
      · have HQ1 := hide q1
        rw [decide_eq_false q1] at e1
        by_cases q4 : w0 = outW
        · rw [decide_eq_true q4] at e2
          have HLI : Hid (lineO ⟨ll, bl, ol⟩ ws = if nw = 2 then (numO (ws.getD 1 []) 18).map (fun n => (⟨ll, bl, ol ++ [n]⟩ : Lp)) else none) := by
            have h := line_out (L := ⟨ll, bl, ol⟩) (ws := ws) (by rw [HW0.out]; exact q4)
            rw [HNW.out] at h
            exact h
          clear q1 q4
          by_cases q2 : nw = 2
          · have hne := two_eq q2
            have hne2 : (nw : Int) = 2 := by omega
            have HL2 : Hid (lineO ⟨ll, bl, ol⟩ ws = (numO (ws.getD 1 []) 18).map (fun n => (⟨ll, bl, ol ++ [n]⟩ : Lp))) := by show _ = _; rw [HLI.out, if_pos q2]
            have d1 := HDX.out 1 (by omega)
            have HNU := hide (fun W => number_any14 (ws.getD 1 []) 18 W (HWB.out 1) (by have := HWL.out 1; omega) (by omega))
            obtain ⟨p1, hp1⟩ : ∃ p1, ws.getD 1 [] = p1 := ⟨_, rfl⟩
            rw [hp1] at d1 HNU HL2
            obtain ⟨A1, hA1⟩ : ∃ A1, strOfNums p1 = A1 := ⟨_, rfl⟩
            rw [hA1] at d1 HNU
            have hn3 : (1 : Int) < (nw : Int) := by omega
            clear hp1 hA1
            skip
            go_wp2_with fail
            skip
            refine (HNU.out _).mono ?_
            rintro e x4 ⟨v, okb, rfl, hob, hov, vlo, vhi, hx4⟩
            rw [HX3.out] at hx4
            have HLY4 := hide (HLY3.out.below hx4)
            have HWB4 := hide ((hx4.block _ (Array.getElem?_eq_some_iff.1 HWBX.out).1).trans HWBX.out)
            have d04 := (bcell hx4 b2 0 hb2z).trans (HD03.out)
            have hb4z : b2 < x4.heap.size := by have := hx4.size; omega
            clear d1 d0 hx4 z0 z1 z2
            cases okb with
            | false =>
              have HNO : Hid (parseD s = (⟨[], [], []⟩, 2, k)) := by
                show _ = _
                rw [HGO.out, HSTEP.out, HL2.out]
                cases hq : numO p1 18 with
                | none => rfl
                | some m => rw [hq] at hob; cases hob
              clear hob hov
              go_wp2_with fail
              skip
              obtain ⟨r1, r2, hbX⟩ := HR.out x4 HLY4.out.bel
              have HR1 := hide r1
              have HR2 := hide r2
              have HBX := hide hbX
              have kc0 : x4.cell? ⟨w.heap.size, 0, none⟩ = some (.slice none 0 0) := by rw [cell_of_block r1]; rfl
              have kf0 : x4.frozen? ⟨w.heap.size, 0, none⟩ = false := by simp [World.frozen?, r1]
              have kc1 : x4.cell? ⟨w.heap.size, 1, none⟩ = some (.slice none 0 0) := by rw [cell_of_block r1]; rfl
              have kf1 : x4.frozen? ⟨w.heap.size, 1, none⟩ = false := by simp [World.frozen?, r1]
              have kc2 : x4.cell? ⟨w.heap.size, 2, none⟩ = some (.slice none 0 0) := by rw [cell_of_block r1]; rfl
              have kf2 : x4.frozen? ⟨w.heap.size, 2, none⟩ = false := by simp [World.frozen?, r1]
              have mc0 : x4.cell? ⟨w.heap.size + 1, 0, none⟩ = some (.int .i64 0) := by rw [cell_of_block r2]; rfl
              have mf0 : x4.frozen? ⟨w.heap.size + 1, 0, none⟩ = false := by simp [World.frozen?, r2]
              have mc1 : x4.cell? ⟨w.heap.size + 1, 1, none⟩ = some (.int .i64 0) := by rw [cell_of_block r2]; rfl
              have mf1 : x4.frozen? ⟨w.heap.size + 1, 1, none⟩ = false := by simp [World.frozen?, r2]
              have hgz : w.heap.size + 1 < x4.heap.size := (Array.getElem?_eq_some_iff.1 r2).1
              clear r1 r2 hbX
              have u0 : x4.cell? ⟨x2.heap.size, 0, none⟩ = some (.int .i64 2) := by rw [cell_of_block HWB4.out]; rfl
              have u1 : x4.cell? ⟨x2.heap.size, 1, none⟩ = some (.int .i64 (k : Int)) := by rw [cell_of_block HWB4.out]; rfl
              have hq1 : ¬ x2.heap.size = w.heap.size := by omega
              have hq2 : ¬ x2.heap.size = w.heap.size + 1 := by omega
              have hq3 : ¬ w.heap.size = x2.heap.size := by omega
              have hq4 : ¬ w.heap.size + 1 = x2.heap.size := by omega
              refine wp_region_noPanic ?_
              refine region_until 3 (fun w' => w'.cell? ⟨x2.heap.size, 0, none⟩ = some (.int .i64 2) ∧ w'.cell? ⟨x2.heap.size, 1, none⟩ = some (.int .i64 (k : Int))) (by kernel_rfl) ⟨u0, u1⟩ (fun hHeld => ?_)
              refine utk (i := 0) rfl hHeld ?_
              try simp only [Act.put, List.setIfInBounds_toArray, List.set_cons_zero, List.set_cons_succ]
              refine utk (i := 1) rfl hHeld ?_
              try simp only [Act.put, List.setIfInBounds_toArray, List.set_cons_zero, List.set_cons_succ]
              refine until_one (i := 2) rfl (by kernel_rfl) (fun K hK => ?_)
              go_simp
              refine hK.out _ _ (.inr ⟨by go_simp, by go_simp⟩) ?_
              clear hK K
              try simp only [Act.put, List.setIfInBounds_toArray, List.set_cons_zero, List.set_cons_succ]
              refine until_one (i := 3) rfl (by kernel_rfl) (fun K hK => ?_)
              go_simp
              refine hK.out _ _ (.inl rfl) ?_
              clear hK K
              try simp only [Act.put, List.setIfInBounds_toArray, List.set_cons_zero, List.set_cons_succ]
              refine until_done (by kernel_rfl) ?_ _
              refine NoPanic.normal ?_
              obtain ⟨s1, s2⟩ := five_set (a' := .slice none 0 0) (b' := .slice none 0 0) (c' := .slice none 0 0) (u' := .int .i64 2) (v' := .int .i64 (k : Int)) HR1.out HR2.out
              have HFB := hide (five_below (a' := .slice none 0 0) (b' := .slice none 0 0) (c' := .slice none 0 0) (u' := .int .i64 2) (v' := .int .i64 (k : Int)) HBX.out)
              obtain ⟨XF, hXF⟩ : ∃ XF, (((((x4.setCell ⟨w.heap.size, 0, none⟩ (.slice none 0 0)).setCell ⟨w.heap.size, 1, none⟩ (.slice none 0 0)).setCell ⟨w.heap.size, 2, none⟩ (.slice none 0 0)).setCell ⟨w.heap.size + 1, 0, none⟩ (.int .i64 2)).setCell ⟨w.heap.size + 1, 1, none⟩ (.int .i64 (k : Int))) = XF := ⟨_, rfl⟩
              rw [hXF] at s1 s2 HFB
              rw [hXF]
              have f0 : XF.cell? ⟨w.heap.size, 0, none⟩ = some (.slice none 0 0) := by rw [cell_of_block s1]; rfl
              have f1 : XF.cell? ⟨w.heap.size, 1, none⟩ = some (.slice none 0 0) := by rw [cell_of_block s1]; rfl
              have f2 : XF.cell? ⟨w.heap.size, 2, none⟩ = some (.slice none 0 0) := by rw [cell_of_block s1]; rfl
              have f3 : XF.cell? ⟨w.heap.size + 1, 0, none⟩ = some (.int .i64 2) := by rw [cell_of_block s2]; rfl
              have f4 : XF.cell? ⟨w.heap.size + 1, 1, none⟩ = some (.int .i64 (k : Int)) := by rw [cell_of_block s2]; rfl
              clear hXF s1 s2
              go_wp2_with fail
              exact bodyPost_ret (v := .tuple #[.agg #[.slice none 0 0, .slice none 0 0, .slice none 0 0], .agg #[.int .i64 2, .int .i64 (k : Int)]]) (by simp [results, Tryd.results11, go_sem, f0, f1, f2, f3, f4]) rfl (pp_no HNO.out (HFB.out.trans (below_draws _ _ 1)))
            | true =>
              have HYES : Hid (parseD s = goD ⟨ll, bl, ol ++ [v]⟩ (ls.drop (k + 1)) (k + 1)) := by
                show _ = _
                rw [HGO.out, HSTEP.out, HL2.out]
                cases hq : numO p1 18 with
                | none => rw [hq] at hob; cases hob
                | some m => rw [hov m hq]; rfl
              obtain ⟨z0, z1, z2⟩ := HLY4.out.cells
              have hyz4 := HLY4.out.lt
              have HLA := hide (HLY4.out.below (below_alloc1 x4 (.cells #[.int .i64 v] 3)))
              clear hob hov
              go_wp2_with (at_builtin; refine wpList_append_lies _ rfl (.tmp 85) (.tmp 87) 22 rfl (x1.heap.size + 1) 3 i0 (.int .i64 0) 1 8 Tryd.underlying22 hi hz0 hz1 hz2 rfl (by decide) _ no (cellsP ol) rfl HLA.out.oo ⟨x4.heap.size, 0, none⟩ 1 1 [.int .i64 v] rfl rfl (World.news_of_block (new_blkP x4 #[.int .i64 v] 3)) (by intro u hu; simp at hu; subst hu; rfl) (by decide) (by unfold maxLen; omega) (by omega) HLA.out.lt _ rfl ?_)
              intro g9 e9 w5 hown hgrow hat hlt
              obtain ⟨hyw, hbx⟩ := HLA.out.grow_o hgrow
              have HP := hide (HLA.out.push_o hown hgrow hat (by simp))
              have fz : w5.frozen? ⟨x1.heap.size, 2, none⟩ = false := by simp [World.frozen?, hyw]
              have yc : w5.cell? ⟨x1.heap.size, 2, none⟩ = some (.slice oa no oc) := by rw [cell_of_block hyw]; rfl
              have hyz5 : x1.heap.size < w5.heap.size := (Array.getElem?_eq_some_iff.1 hyw).1
              clear z0 z1 z2 hown hgrow hat hlt hyw hbx d04
              go_wp2_with fail
              go_roundw
              case rel => exact ⟨k + 1, nl, nb, no + 1, lc, bc, e9, ll, bl, ol ++ [v], la, ba, some ⟨g9, 0, none⟩, by omega, by go_num, HP.out, HYES.out, ⟨fun z hz => by first | exact HIN.out.1 z hz | (rcases List.mem_append.1 hz with h | h; exact HIN.out.1 z h; (rw [List.mem_singleton] at h; subst h; exact ⟨vlo, vhi⟩)), fun z hz => by first | exact HIN.out.2.1 z hz | (rcases List.mem_append.1 hz with h | h; exact HIN.out.2.1 z h; (rw [List.mem_singleton] at h; subst h; exact ⟨vlo, vhi⟩)), HIN.out.2.2⟩, by omega⟩
              case measure => simp [intOf]; omega
          · have hne := two_ne q2
            have HNO : Hid (parseD s = (⟨[], [], []⟩, 2, k)) := by show _ = _; rw [HGO.out, HSTEP.out, HLI.out, if_neg q2]
            have hne2 : ¬ (nw : Int) = 2 := by omega
            go_wp2_with fail
            try rw [HX3.out]
            obtain ⟨r1, r2, hbX⟩ := HR.out X3 HLY3.out.bel
            have HR1 := hide r1
            have HR2 := hide r2
            have HBX := hide hbX
            have kc0 : X3.cell? ⟨w.heap.size, 0, none⟩ = some (.slice none 0 0) := by rw [cell_of_block r1]; rfl
            have kf0 : X3.frozen? ⟨w.heap.size, 0, none⟩ = false := by simp [World.frozen?, r1]
            have kc1 : X3.cell? ⟨w.heap.size, 1, none⟩ = some (.slice none 0 0) := by rw [cell_of_block r1]; rfl
            have kf1 : X3.frozen? ⟨w.heap.size, 1, none⟩ = false := by simp [World.frozen?, r1]
            have kc2 : X3.cell? ⟨w.heap.size, 2, none⟩ = some (.slice none 0 0) := by rw [cell_of_block r1]; rfl
            have kf2 : X3.frozen? ⟨w.heap.size, 2, none⟩ = false := by simp [World.frozen?, r1]
            have mc0 : X3.cell? ⟨w.heap.size + 1, 0, none⟩ = some (.int .i64 0) := by rw [cell_of_block r2]; rfl
            have mf0 : X3.frozen? ⟨w.heap.size + 1, 0, none⟩ = false := by simp [World.frozen?, r2]
            have mc1 : X3.cell? ⟨w.heap.size + 1, 1, none⟩ = some (.int .i64 0) := by rw [cell_of_block r2]; rfl
            have mf1 : X3.frozen? ⟨w.heap.size + 1, 1, none⟩ = false := by simp [World.frozen?, r2]
            have hgz : w.heap.size + 1 < X3.heap.size := (Array.getElem?_eq_some_iff.1 r2).1
            clear r1 r2 hbX
            have u0 : X3.cell? ⟨x2.heap.size, 0, none⟩ = some (.int .i64 2) := by rw [cell_of_block HWBX.out]; rfl
            have u1 : X3.cell? ⟨x2.heap.size, 1, none⟩ = some (.int .i64 (k : Int)) := by rw [cell_of_block HWBX.out]; rfl
            have hq1 : ¬ x2.heap.size = w.heap.size := by omega
            have hq2 : ¬ x2.heap.size = w.heap.size + 1 := by omega
            have hq3 : ¬ w.heap.size = x2.heap.size := by omega
            have hq4 : ¬ w.heap.size + 1 = x2.heap.size := by omega
            refine wp_region_noPanic ?_
            refine region_until 3 (fun w' => w'.cell? ⟨x2.heap.size, 0, none⟩ = some (.int .i64 2) ∧ w'.cell? ⟨x2.heap.size, 1, none⟩ = some (.int .i64 (k : Int))) (by kernel_rfl) ⟨u0, u1⟩ (fun hHeld => ?_)
            refine utk (i := 0) rfl hHeld ?_
            try simp only [Act.put, List.setIfInBounds_toArray, List.set_cons_zero, List.set_cons_succ]
            refine utk (i := 1) rfl hHeld ?_
            try simp only [Act.put, List.setIfInBounds_toArray, List.set_cons_zero, List.set_cons_succ]
            refine until_one (i := 2) rfl (by kernel_rfl) (fun K hK => ?_)
            go_simp
            refine hK.out _ _ (.inr ⟨by go_simp, by go_simp⟩) ?_
            clear hK K
            try simp only [Act.put, List.setIfInBounds_toArray, List.set_cons_zero, List.set_cons_succ]
            refine until_one (i := 3) rfl (by kernel_rfl) (fun K hK => ?_)
            go_simp
            refine hK.out _ _ (.inl rfl) ?_
            clear hK K
            try simp only [Act.put, List.setIfInBounds_toArray, List.set_cons_zero, List.set_cons_succ]
            refine until_done (by kernel_rfl) ?_ _
            refine NoPanic.normal ?_
            obtain ⟨s1, s2⟩ := five_set (a' := .slice none 0 0) (b' := .slice none 0 0) (c' := .slice none 0 0) (u' := .int .i64 2) (v' := .int .i64 (k : Int)) HR1.out HR2.out
            have HFB := hide (five_below (a' := .slice none 0 0) (b' := .slice none 0 0) (c' := .slice none 0 0) (u' := .int .i64 2) (v' := .int .i64 (k : Int)) HBX.out)
            obtain ⟨XF, hXF⟩ : ∃ XF, (((((X3.setCell ⟨w.heap.size, 0, none⟩ (.slice none 0 0)).setCell ⟨w.heap.size, 1, none⟩ (.slice none 0 0)).setCell ⟨w.heap.size, 2, none⟩ (.slice none 0 0)).setCell ⟨w.heap.size + 1, 0, none⟩ (.int .i64 2)).setCell ⟨w.heap.size + 1, 1, none⟩ (.int .i64 (k : Int))) = XF := ⟨_, rfl⟩
            rw [hXF] at s1 s2 HFB
            rw [hXF]
            have f0 : XF.cell? ⟨w.heap.size, 0, none⟩ = some (.slice none 0 0) := by rw [cell_of_block s1]; rfl
            have f1 : XF.cell? ⟨w.heap.size, 1, none⟩ = some (.slice none 0 0) := by rw [cell_of_block s1]; rfl
            have f2 : XF.cell? ⟨w.heap.size, 2, none⟩ = some (.slice none 0 0) := by rw [cell_of_block s1]; rfl
            have f3 : XF.cell? ⟨w.heap.size + 1, 0, none⟩ = some (.int .i64 2) := by rw [cell_of_block s2]; rfl
            have f4 : XF.cell? ⟨w.heap.size + 1, 1, none⟩ = some (.int .i64 (k : Int)) := by rw [cell_of_block s2]; rfl
            clear hXF s1 s2
            go_wp2_with fail
            exact bodyPost_ret (v := .tuple #[.agg #[.slice none 0 0, .slice none 0 0, .slice none 0 0], .agg #[.int .i64 2, .int .i64 (k : Int)]]) (by simp [results, Tryd.results11, go_sem, f0, f1, f2, f3, f4]) rfl (pp_no HNO.out (HFB.out.trans (below_draws _ _ 1)))
        · rw [decide_eq_false q4] at e2
          have HLI : Hid (lineO ⟨ll, bl, ol⟩ ws = if ol.length = 0 then (stO ws).map (fun x => (⟨ll, bl ++ [x], ol⟩ : Lp)) else none) := line_stmt (L := ⟨ll, bl, ol⟩) (ws := ws) (by rw [HW0.out]; exact q1) (by rw [HW0.out]; exact q4)
          clear q1 q4
          have HST : Hid (∀ W, W = X3 → Calls Tryd.prog 31 #[.slice (some ⟨b2, 0, none⟩) nw c2] W (StPost ws W)) := fun W hW => by rw [hW]; exact stmt_walk ws b2 nw c2 X3 ⟨HNW.out, hb2z, HDC.out⟩ HWB.out (fun i => by have := HWL.out i; omega) hw2 hd1 (by omega) (by omega)
          go_wp2_with fail
          refine (HST.out _ HX3.out).mono ?_
          rintro e x4 ⟨v, okb, rfl, hob, hov, hx4⟩
          rw [HX3.out] at hx4
          have HLY4 := hide (HLY3.out.below hx4)
          have HWB4 := hide ((hx4.block _ (Array.getElem?_eq_some_iff.1 HWBX.out).1).trans HWBX.out)
          have hb4z : b2 < x4.heap.size := by have := hx4.size; omega
          have HLE : Hid (ol.length = no) := HLY4.out.nums.2.2.symm
          obtain ⟨y0, y1, y2⟩ := HLY4.out.cells
          have hyz4 := HLY4.out.lt
          have hbw4 : x2.heap.size < x4.heap.size := by have := hx4.size; omega
          clear d0 hx4 z0 z1 z2 e1 e2
          cases okb with
          | false =>
            have HNO : Hid (parseD s = (⟨[], [], []⟩, 2, k)) := by
              show _ = _
              rw [HGO.out, HSTEP.out, HLI.out, st_none hob]
              by_cases hq : ol.length = 0
              · rw [if_pos hq]; rfl
              · rw [if_neg hq]
            clear hob hov
            obtain ⟨X5, hX5⟩ : ∃ X5, (x4.alloc (.cells #[.int .i64 v.o, .int .i64 v.xa, .int .i64 v.xb, .int .i64 v.ya, .int .i64 v.yb, .int .i64 v.ar, .int .i64 v.sp, .int .i64 v.pl, .int .i64 v.nn] 53)) = X5 := ⟨_, rfl⟩
            have HX5 := hide hX5
            have HLY5 := hide (HLY4.out.below (hX5 ▸ below_st1 x4 v))
            have HWB5 := hide (((hX5 ▸ below_st1 x4 v : Below x4.heap.size x4 X5).block _ (Array.getElem?_eq_some_iff.1 HWB4.out).1).trans HWB4.out)
            clear hX5
            go_wp2_with fail
            rw [HX5.out]
            obtain ⟨r1, r2, hbX⟩ := HR.out X5 HLY5.out.bel
            have HR1 := hide r1
            have HR2 := hide r2
            have HBX := hide hbX
            have kc0 : X5.cell? ⟨w.heap.size, 0, none⟩ = some (.slice none 0 0) := by rw [cell_of_block r1]; rfl
            have kf0 : X5.frozen? ⟨w.heap.size, 0, none⟩ = false := by simp [World.frozen?, r1]
            have kc1 : X5.cell? ⟨w.heap.size, 1, none⟩ = some (.slice none 0 0) := by rw [cell_of_block r1]; rfl
            have kf1 : X5.frozen? ⟨w.heap.size, 1, none⟩ = false := by simp [World.frozen?, r1]
            have kc2 : X5.cell? ⟨w.heap.size, 2, none⟩ = some (.slice none 0 0) := by rw [cell_of_block r1]; rfl
            have kf2 : X5.frozen? ⟨w.heap.size, 2, none⟩ = false := by simp [World.frozen?, r1]
            have mc0 : X5.cell? ⟨w.heap.size + 1, 0, none⟩ = some (.int .i64 0) := by rw [cell_of_block r2]; rfl
            have mf0 : X5.frozen? ⟨w.heap.size + 1, 0, none⟩ = false := by simp [World.frozen?, r2]
            have mc1 : X5.cell? ⟨w.heap.size + 1, 1, none⟩ = some (.int .i64 0) := by rw [cell_of_block r2]; rfl
            have mf1 : X5.frozen? ⟨w.heap.size + 1, 1, none⟩ = false := by simp [World.frozen?, r2]
            have hgz : w.heap.size + 1 < X5.heap.size := (Array.getElem?_eq_some_iff.1 r2).1
            clear r1 r2 hbX
            have u0 : X5.cell? ⟨x2.heap.size, 0, none⟩ = some (.int .i64 2) := by rw [cell_of_block HWB5.out]; rfl
            have u1 : X5.cell? ⟨x2.heap.size, 1, none⟩ = some (.int .i64 (k : Int)) := by rw [cell_of_block HWB5.out]; rfl
            have hq1 : ¬ x2.heap.size = w.heap.size := by omega
            have hq2 : ¬ x2.heap.size = w.heap.size + 1 := by omega
            have hq3 : ¬ w.heap.size = x2.heap.size := by omega
            have hq4 : ¬ w.heap.size + 1 = x2.heap.size := by omega
            refine wp_region_noPanic ?_
            refine region_until 3 (fun w' => w'.cell? ⟨x2.heap.size, 0, none⟩ = some (.int .i64 2) ∧ w'.cell? ⟨x2.heap.size, 1, none⟩ = some (.int .i64 (k : Int))) (by kernel_rfl) ⟨u0, u1⟩ (fun hHeld => ?_)
            refine utk (i := 0) rfl hHeld ?_
            try simp only [Act.put, List.setIfInBounds_toArray, List.set_cons_zero, List.set_cons_succ]
            refine utk (i := 1) rfl hHeld ?_
            try simp only [Act.put, List.setIfInBounds_toArray, List.set_cons_zero, List.set_cons_succ]
            refine until_one (i := 2) rfl (by kernel_rfl) (fun K hK => ?_)
            go_simp
            refine hK.out _ _ (.inr ⟨by go_simp, by go_simp⟩) ?_
            clear hK K
            try simp only [Act.put, List.setIfInBounds_toArray, List.set_cons_zero, List.set_cons_succ]
            refine until_one (i := 3) rfl (by kernel_rfl) (fun K hK => ?_)
            go_simp
            refine hK.out _ _ (.inl rfl) ?_
            clear hK K
            try simp only [Act.put, List.setIfInBounds_toArray, List.set_cons_zero, List.set_cons_succ]
            refine until_done (by kernel_rfl) ?_ _
            refine NoPanic.normal ?_
            obtain ⟨s1, s2⟩ := five_set (a' := .slice none 0 0) (b' := .slice none 0 0) (c' := .slice none 0 0) (u' := .int .i64 2) (v' := .int .i64 (k : Int)) HR1.out HR2.out
            have HFB := hide (five_below (a' := .slice none 0 0) (b' := .slice none 0 0) (c' := .slice none 0 0) (u' := .int .i64 2) (v' := .int .i64 (k : Int)) HBX.out)
            obtain ⟨XF, hXF⟩ : ∃ XF, (((((X5.setCell ⟨w.heap.size, 0, none⟩ (.slice none 0 0)).setCell ⟨w.heap.size, 1, none⟩ (.slice none 0 0)).setCell ⟨w.heap.size, 2, none⟩ (.slice none 0 0)).setCell ⟨w.heap.size + 1, 0, none⟩ (.int .i64 2)).setCell ⟨w.heap.size + 1, 1, none⟩ (.int .i64 (k : Int))) = XF := ⟨_, rfl⟩
            rw [hXF] at s1 s2 HFB
            rw [hXF]
            have f0 : XF.cell? ⟨w.heap.size, 0, none⟩ = some (.slice none 0 0) := by rw [cell_of_block s1]; rfl
            have f1 : XF.cell? ⟨w.heap.size, 1, none⟩ = some (.slice none 0 0) := by rw [cell_of_block s1]; rfl
            have f2 : XF.cell? ⟨w.heap.size, 2, none⟩ = some (.slice none 0 0) := by rw [cell_of_block s1]; rfl
            have f3 : XF.cell? ⟨w.heap.size + 1, 0, none⟩ = some (.int .i64 2) := by rw [cell_of_block s2]; rfl
            have f4 : XF.cell? ⟨w.heap.size + 1, 1, none⟩ = some (.int .i64 (k : Int)) := by rw [cell_of_block s2]; rfl
            clear hXF s1 s2
            go_wp2_with fail
            exact bodyPost_ret (v := .tuple #[.agg #[.slice none 0 0, .slice none 0 0, .slice none 0 0], .agg #[.int .i64 2, .int .i64 (k : Int)]]) (by simp [results, Tryd.results11, go_sem, f0, f1, f2, f3, f4]) rfl (pp_no HNO.out (HFB.out.trans (below_draws _ _ 1)))
          | true =>
            by_cases q3 : no = 0
            · have HYES : Hid (parseD s = goD ⟨ll, bl ++ [v], ol⟩ (ls.drop (k + 1)) (k + 1)) := by
                show _ = _
                rw [HGO.out, HSTEP.out, HLI.out, if_pos (show ol.length = 0 from HLE.out.trans q3), st_some hob hov]
                rfl
              have hvi := st_in (st_some hob hov)
              have hno : ¬ (0 : Int) < (no : Int) := by omega
              have HQ3 := hide q3
              clear hob hov q3
              have HLA := hide (HLY4.out.below (below_st2 x4 v))
              have HNW2 := hide (new_st x4 v)
              go_wp2_with (at_builtin; refine wpList_append_lies _ rfl (.tmp 106) (.tmp 108) 23 rfl (x1.heap.size + 1) 53 j0 (.agg #[.int .i64 0, .int .i64 0, .int .i64 0, .int .i64 0, .int .i64 0, .int .i64 0, .int .i64 0, .int .i64 0, .int .i64 0]) 9 72 Tryd.underlying23 hj hy0 hy1 hy2 rfl (by decide) _ nb (flatSP bl) rfl HLA.out.ob ⟨x4.heap.size + 1, 0, none⟩ 1 1 (stCells v).toList rfl rfl HNW2.out (st_ones v) (by decide) (by unfold maxLen; omega) (by omega) HLA.out.lt _ rfl ?_)
              intro g9 e9 w5 hown hgrow hat hlt
              obtain ⟨hyw, hbx⟩ := HLA.out.grow_b hgrow
              have HP := hide (HLA.out.push_b hown hgrow hat (by simp))
              have fz : w5.frozen? ⟨x1.heap.size, 1, none⟩ = false := by simp [World.frozen?, hyw]
              have yc : w5.cell? ⟨x1.heap.size, 1, none⟩ = some (.slice ba nb bc) := by rw [cell_of_block hyw]; rfl
              have hyz5 : x1.heap.size < w5.heap.size := (Array.getElem?_eq_some_iff.1 hyw).1
              clear y0 y1 y2 hown hgrow hat hlt hyw hbx
              go_wp2_with fail
              go_roundw
              case rel => exact ⟨k + 1, nl, nb + 1, no, lc, e9, oc, ll, bl ++ [v], ol, la, some ⟨g9, 0, none⟩, oa, by omega, by go_num, HP.out, HYES.out, ⟨HIN.out.1, HIN.out.2.1, fun z hz => by rcases List.mem_append.1 hz with h | h; exact HIN.out.2.2 z h; (rw [List.mem_singleton] at h; subst h; exact hvi)⟩, by omega⟩
              case measure => simp [intOf]; omega
            · have HNO : Hid (parseD s = (⟨[], [], []⟩, 2, k)) := by
                show _ = _
                rw [HGO.out, HSTEP.out, HLI.out, if_neg (show ¬ ol.length = 0 from fun h => q3 (HLE.out.symm.trans h))]
              have hno : (0 : Int) < (no : Int) := by omega
              clear hob hov q3
              obtain ⟨X5, hX5⟩ : ∃ X5, (x4.alloc (.cells #[.int .i64 v.o, .int .i64 v.xa, .int .i64 v.xb, .int .i64 v.ya, .int .i64 v.yb, .int .i64 v.ar, .int .i64 v.sp, .int .i64 v.pl, .int .i64 v.nn] 53)) = X5 := ⟨_, rfl⟩
              have HX5 := hide hX5
              have HLY5 := hide (HLY4.out.below (hX5 ▸ below_st1 x4 v))
              have HWB5 := hide (((hX5 ▸ below_st1 x4 v : Below x4.heap.size x4 X5).block _ (Array.getElem?_eq_some_iff.1 HWB4.out).1).trans HWB4.out)
              clear hX5
              go_wp2_with fail
              rw [HX5.out]
              obtain ⟨r1, r2, hbX⟩ := HR.out X5 HLY5.out.bel
              have HR1 := hide r1
              have HR2 := hide r2
              have HBX := hide hbX
              have kc0 : X5.cell? ⟨w.heap.size, 0, none⟩ = some (.slice none 0 0) := by rw [cell_of_block r1]; rfl
              have kf0 : X5.frozen? ⟨w.heap.size, 0, none⟩ = false := by simp [World.frozen?, r1]
              have kc1 : X5.cell? ⟨w.heap.size, 1, none⟩ = some (.slice none 0 0) := by rw [cell_of_block r1]; rfl
              have kf1 : X5.frozen? ⟨w.heap.size, 1, none⟩ = false := by simp [World.frozen?, r1]
              have kc2 : X5.cell? ⟨w.heap.size, 2, none⟩ = some (.slice none 0 0) := by rw [cell_of_block r1]; rfl
              have kf2 : X5.frozen? ⟨w.heap.size, 2, none⟩ = false := by simp [World.frozen?, r1]
              have mc0 : X5.cell? ⟨w.heap.size + 1, 0, none⟩ = some (.int .i64 0) := by rw [cell_of_block r2]; rfl
              have mf0 : X5.frozen? ⟨w.heap.size + 1, 0, none⟩ = false := by simp [World.frozen?, r2]
              have mc1 : X5.cell? ⟨w.heap.size + 1, 1, none⟩ = some (.int .i64 0) := by rw [cell_of_block r2]; rfl
              have mf1 : X5.frozen? ⟨w.heap.size + 1, 1, none⟩ = false := by simp [World.frozen?, r2]
              have hgz : w.heap.size + 1 < X5.heap.size := (Array.getElem?_eq_some_iff.1 r2).1
              clear r1 r2 hbX
              have u0 : X5.cell? ⟨x2.heap.size, 0, none⟩ = some (.int .i64 2) := by rw [cell_of_block HWB5.out]; rfl
              have u1 : X5.cell? ⟨x2.heap.size, 1, none⟩ = some (.int .i64 (k : Int)) := by rw [cell_of_block HWB5.out]; rfl
              have hq1 : ¬ x2.heap.size = w.heap.size := by omega
              have hq2 : ¬ x2.heap.size = w.heap.size + 1 := by omega
              have hq3 : ¬ w.heap.size = x2.heap.size := by omega
              have hq4 : ¬ w.heap.size + 1 = x2.heap.size := by omega
              refine wp_region_noPanic ?_
              refine region_until 3 (fun w' => w'.cell? ⟨x2.heap.size, 0, none⟩ = some (.int .i64 2) ∧ w'.cell? ⟨x2.heap.size, 1, none⟩ = some (.int .i64 (k : Int))) (by kernel_rfl) ⟨u0, u1⟩ (fun hHeld => ?_)
              refine utk (i := 0) rfl hHeld ?_
              try simp only [Act.put, List.setIfInBounds_toArray, List.set_cons_zero, List.set_cons_succ]
              refine utk (i := 1) rfl hHeld ?_
              try simp only [Act.put, List.setIfInBounds_toArray, List.set_cons_zero, List.set_cons_succ]
              refine until_one (i := 2) rfl (by kernel_rfl) (fun K hK => ?_)
              go_simp
              refine hK.out _ _ (.inr ⟨by go_simp, by go_simp⟩) ?_
              clear hK K
              try simp only [Act.put, List.setIfInBounds_toArray, List.set_cons_zero, List.set_cons_succ]
              refine until_one (i := 3) rfl (by kernel_rfl) (fun K hK => ?_)
              go_simp
              refine hK.out _ _ (.inl rfl) ?_
              clear hK K
              try simp only [Act.put, List.setIfInBounds_toArray, List.set_cons_zero, List.set_cons_succ]
              refine until_done (by kernel_rfl) ?_ _
              refine NoPanic.normal ?_
              obtain ⟨s1, s2⟩ := five_set (a' := .slice none 0 0) (b' := .slice none 0 0) (c' := .slice none 0 0) (u' := .int .i64 2) (v' := .int .i64 (k : Int)) HR1.out HR2.out
              have HFB := hide (five_below (a' := .slice none 0 0) (b' := .slice none 0 0) (c' := .slice none 0 0) (u' := .int .i64 2) (v' := .int .i64 (k : Int)) HBX.out)
              obtain ⟨XF, hXF⟩ : ∃ XF, (((((X5.setCell ⟨w.heap.size, 0, none⟩ (.slice none 0 0)).setCell ⟨w.heap.size, 1, none⟩ (.slice none 0 0)).setCell ⟨w.heap.size, 2, none⟩ (.slice none 0 0)).setCell ⟨w.heap.size + 1, 0, none⟩ (.int .i64 2)).setCell ⟨w.heap.size + 1, 1, none⟩ (.int .i64 (k : Int))) = XF := ⟨_, rfl⟩
              rw [hXF] at s1 s2 HFB
              rw [hXF]
              have f0 : XF.cell? ⟨w.heap.size, 0, none⟩ = some (.slice none 0 0) := by rw [cell_of_block s1]; rfl
              have f1 : XF.cell? ⟨w.heap.size, 1, none⟩ = some (.slice none 0 0) := by rw [cell_of_block s1]; rfl
              have f2 : XF.cell? ⟨w.heap.size, 2, none⟩ = some (.slice none 0 0) := by rw [cell_of_block s1]; rfl
              have f3 : XF.cell? ⟨w.heap.size + 1, 0, none⟩ = some (.int .i64 2) := by rw [cell_of_block s2]; rfl
              have f4 : XF.cell? ⟨w.heap.size + 1, 1, none⟩ = some (.int .i64 (k : Int)) := by rw [cell_of_block s2]; rfl
              clear hXF s1 s2
              go_wp2_with fail
              exact bodyPost_ret (v := .tuple #[.agg #[.slice none 0 0, .slice none 0 0, .slice none 0 0], .agg #[.int .i64 2, .int .i64 (k : Int)]]) (by simp [results, Tryd.results11, go_sem, f0, f1, f2, f3, f4]) rfl (pp_no HNO.out (HFB.out.trans (below_draws _ _ 1)))
    · obtain rfl : k = n := by omega
      have HLAST : Hid (goD ⟨ll, bl, ol⟩ (ls.drop k) k = if ls.getD k [] = [] ∧ mayB ⟨ll, bl, ol⟩ = true then (⟨ll, bl, ol⟩, 0, 0) else (⟨[], [], []⟩, 2, k)) := by
        show _ = _
        have h := go_last (L := ⟨ll, bl, ol⟩) (ls := ls.drop k) (k := k) (by rw [List.length_drop, HLN.out]; omega)
        rw [getD_drop] at h
        exact h
      have e0 := word_beq (byteL_mem (HPB.out k)) (m := []) (by simp) (b := []) rfl
      obtain ⟨p, hp⟩ : ∃ p, ls.getD k [] = p := ⟨_, rfl⟩
      rw [hp] at ck HLAST e0
      obtain ⟨PP, hPP⟩ : ∃ PP, strOfNums p = PP := ⟨_, rfl⟩
      rw [hPP] at ck e0
      have HMAY := hide (rmay_any _ _ wr (HLY.out.loop HIN.out.1 HIN.out.2.1))
      obtain ⟨mb, hmb⟩ : ∃ mb, mayB ⟨ll, bl, ol⟩ = mb := ⟨_, rfl⟩
      rw [hmb] at HLAST HMAY
      have hkc : (k : Int) < ((k + 1 : Nat) : Int) := by omega
      have hzw : w.heap.size + 1 < wr.heap.size := by omega
      clear hp hPP hmb hly hgo hin
      by_cases q1 : p = []
      · rw [decide_eq_true q1] at e0
        go_wp2_with fail
        refine HMAY.out.mono ?_
        rintro e x4 ⟨rfl, hx4⟩
        have HLY4 := hide (HLY.out.below hx4)
        have hzx : w.heap.size + 1 < x4.heap.size := by have := hx4.size; omega
        clear y0 y1 y2 hx4 ck e0 hyz hbz2
        obtain ⟨y0, y1, y2⟩ := HLY4.out.cells
        have hyz := HLY4.out.lt
        cases mb with
        | false =>
          have HNO : Hid (parseD s = (⟨[], [], []⟩, 2, k)) := by show _ = _; rw [HGO.out, HLAST.out, if_neg (show ¬ (p = [] ∧ false = true) from fun h => by cases h.2)]
          obtain ⟨r1, r2, hbX⟩ := HR.out x4 HLY4.out.bel
          have HR1 := hide r1
          have HR2 := hide r2
          have HBX := hide hbX
          have kc0 : x4.cell? ⟨w.heap.size, 0, none⟩ = some (.slice none 0 0) := by rw [cell_of_block r1]; rfl
          have kf0 : x4.frozen? ⟨w.heap.size, 0, none⟩ = false := by simp [World.frozen?, r1]
          have kc1 : x4.cell? ⟨w.heap.size, 1, none⟩ = some (.slice none 0 0) := by rw [cell_of_block r1]; rfl
          have kf1 : x4.frozen? ⟨w.heap.size, 1, none⟩ = false := by simp [World.frozen?, r1]
          have kc2 : x4.cell? ⟨w.heap.size, 2, none⟩ = some (.slice none 0 0) := by rw [cell_of_block r1]; rfl
          have kf2 : x4.frozen? ⟨w.heap.size, 2, none⟩ = false := by simp [World.frozen?, r1]
          have mc0 : x4.cell? ⟨w.heap.size + 1, 0, none⟩ = some (.int .i64 0) := by rw [cell_of_block r2]; rfl
          have mf0 : x4.frozen? ⟨w.heap.size + 1, 0, none⟩ = false := by simp [World.frozen?, r2]
          have mc1 : x4.cell? ⟨w.heap.size + 1, 1, none⟩ = some (.int .i64 0) := by rw [cell_of_block r2]; rfl
          have mf1 : x4.frozen? ⟨w.heap.size + 1, 1, none⟩ = false := by simp [World.frozen?, r2]
          have hgz : w.heap.size + 1 < x4.heap.size := (Array.getElem?_eq_some_iff.1 r2).1
          clear r1 r2 hbX
          go_wp2_with fail
          obtain ⟨s1, s2⟩ := five_set (a' := .slice none 0 0) (b' := .slice none 0 0) (c' := .slice none 0 0) (u' := .int .i64 2) (v' := .int .i64 (k : Int)) HR1.out HR2.out
          have HFB := hide (five_below (a' := .slice none 0 0) (b' := .slice none 0 0) (c' := .slice none 0 0) (u' := .int .i64 2) (v' := .int .i64 (k : Int)) HBX.out)
          obtain ⟨XF, hXF⟩ : ∃ XF, (((((x4.setCell ⟨w.heap.size, 0, none⟩ (.slice none 0 0)).setCell ⟨w.heap.size, 1, none⟩ (.slice none 0 0)).setCell ⟨w.heap.size, 2, none⟩ (.slice none 0 0)).setCell ⟨w.heap.size + 1, 0, none⟩ (.int .i64 2)).setCell ⟨w.heap.size + 1, 1, none⟩ (.int .i64 (k : Int))) = XF := ⟨_, rfl⟩
          rw [hXF] at s1 s2 HFB
          try rw [hXF] at HLF
          rw [hXF]
          have f0 : XF.cell? ⟨w.heap.size, 0, none⟩ = some (.slice none 0 0) := by rw [cell_of_block s1]; rfl
          have f1 : XF.cell? ⟨w.heap.size, 1, none⟩ = some (.slice none 0 0) := by rw [cell_of_block s1]; rfl
          have f2 : XF.cell? ⟨w.heap.size, 2, none⟩ = some (.slice none 0 0) := by rw [cell_of_block s1]; rfl
          have f3 : XF.cell? ⟨w.heap.size + 1, 0, none⟩ = some (.int .i64 2) := by rw [cell_of_block s2]; rfl
          have f4 : XF.cell? ⟨w.heap.size + 1, 1, none⟩ = some (.int .i64 (k : Int)) := by rw [cell_of_block s2]; rfl
          clear hXF s1 s2
          go_wp2_with fail
          exact bodyPost_ret (v := .tuple #[.agg #[.slice none 0 0, .slice none 0 0, .slice none 0 0], .agg #[.int .i64 2, .int .i64 (k : Int)]]) (by simp [results, Tryd.results11, go_sem, f0, f1, f2, f3, f4]) rfl (pp_no HNO.out HFB.out)
        | true =>
          have HYES : Hid (parseD s = (⟨ll, bl, ol⟩, 0, 0)) := by show _ = _; rw [HGO.out, HLAST.out, if_pos (show p = [] ∧ true = true from ⟨q1, rfl⟩)]
          obtain ⟨r1, r2, hbX⟩ := HR.out x4 HLY4.out.bel
          have HR1 := hide r1
          have HR2 := hide r2
          have HBX := hide hbX
          have kc0 : x4.cell? ⟨w.heap.size, 0, none⟩ = some (.slice none 0 0) := by rw [cell_of_block r1]; rfl
          have kf0 : x4.frozen? ⟨w.heap.size, 0, none⟩ = false := by simp [World.frozen?, r1]
          have kc1 : x4.cell? ⟨w.heap.size, 1, none⟩ = some (.slice none 0 0) := by rw [cell_of_block r1]; rfl
          have kf1 : x4.frozen? ⟨w.heap.size, 1, none⟩ = false := by simp [World.frozen?, r1]
          have kc2 : x4.cell? ⟨w.heap.size, 2, none⟩ = some (.slice none 0 0) := by rw [cell_of_block r1]; rfl
          have kf2 : x4.frozen? ⟨w.heap.size, 2, none⟩ = false := by simp [World.frozen?, r1]
          have mc0 : x4.cell? ⟨w.heap.size + 1, 0, none⟩ = some (.int .i64 0) := by rw [cell_of_block r2]; rfl
          have mf0 : x4.frozen? ⟨w.heap.size + 1, 0, none⟩ = false := by simp [World.frozen?, r2]
          have mc1 : x4.cell? ⟨w.heap.size + 1, 1, none⟩ = some (.int .i64 0) := by rw [cell_of_block r2]; rfl
          have mf1 : x4.frozen? ⟨w.heap.size + 1, 1, none⟩ = false := by simp [World.frozen?, r2]
          have hgz : w.heap.size + 1 < x4.heap.size := (Array.getElem?_eq_some_iff.1 r2).1
          clear r1 r2 hbX
          have HLF := hide (loop_five (g := w.heap.size) (u' := .int .i64 0) (v' := .int .i64 0) HLY4.out hx1 HIN.out)
          go_wp2_with fail
          obtain ⟨s1, s2⟩ := five_set (a' := .slice la nl lc) (b' := .slice ba nb bc) (c' := .slice oa no oc) (u' := .int .i64 0) (v' := .int .i64 0) HR1.out HR2.out
          have HFB := hide (five_below (a' := .slice la nl lc) (b' := .slice ba nb bc) (c' := .slice oa no oc) (u' := .int .i64 0) (v' := .int .i64 0) HBX.out)
          obtain ⟨XF, hXF⟩ : ∃ XF, (((((x4.setCell ⟨w.heap.size, 0, none⟩ (.slice la nl lc)).setCell ⟨w.heap.size, 1, none⟩ (.slice ba nb bc)).setCell ⟨w.heap.size, 2, none⟩ (.slice oa no oc)).setCell ⟨w.heap.size + 1, 0, none⟩ (.int .i64 0)).setCell ⟨w.heap.size + 1, 1, none⟩ (.int .i64 0)) = XF := ⟨_, rfl⟩
          rw [hXF] at s1 s2 HFB
          try rw [hXF] at HLF
          rw [hXF]
          have f0 : XF.cell? ⟨w.heap.size, 0, none⟩ = some (.slice la nl lc) := by rw [cell_of_block s1]; rfl
          have f1 : XF.cell? ⟨w.heap.size, 1, none⟩ = some (.slice ba nb bc) := by rw [cell_of_block s1]; rfl
          have f2 : XF.cell? ⟨w.heap.size, 2, none⟩ = some (.slice oa no oc) := by rw [cell_of_block s1]; rfl
          have f3 : XF.cell? ⟨w.heap.size + 1, 0, none⟩ = some (.int .i64 0) := by rw [cell_of_block s2]; rfl
          have f4 : XF.cell? ⟨w.heap.size + 1, 1, none⟩ = some (.int .i64 0) := by rw [cell_of_block s2]; rfl
          clear hXF s1 s2
          go_wp2_with fail
          exact bodyPost_ret (v := .tuple #[.agg #[.slice la nl lc, .slice ba nb bc, .slice oa no oc], .agg #[.int .i64 0, .int .i64 0]]) (by simp [results, Tryd.results11, go_sem, f0, f1, f2, f3, f4]) rfl (pp_yes HYES.out HLF.out HIN.out HFB.out)
      · have HNO : Hid (parseD s = (⟨[], [], []⟩, 2, k)) := by show _ = _; rw [HGO.out, HLAST.out, if_neg (show ¬ (p = [] ∧ mb = true) from fun h => q1 h.1)]
        rw [decide_eq_false q1] at e0
        obtain ⟨r1, r2, hbX⟩ := HR.out wr HLY.out.bel
        have HR1 := hide r1
        have HR2 := hide r2
        have HBX := hide hbX
        have kc0 : wr.cell? ⟨w.heap.size, 0, none⟩ = some (.slice none 0 0) := by rw [cell_of_block r1]; rfl
        have kf0 : wr.frozen? ⟨w.heap.size, 0, none⟩ = false := by simp [World.frozen?, r1]
        have kc1 : wr.cell? ⟨w.heap.size, 1, none⟩ = some (.slice none 0 0) := by rw [cell_of_block r1]; rfl
        have kf1 : wr.frozen? ⟨w.heap.size, 1, none⟩ = false := by simp [World.frozen?, r1]
        have kc2 : wr.cell? ⟨w.heap.size, 2, none⟩ = some (.slice none 0 0) := by rw [cell_of_block r1]; rfl
        have kf2 : wr.frozen? ⟨w.heap.size, 2, none⟩ = false := by simp [World.frozen?, r1]
        have mc0 : wr.cell? ⟨w.heap.size + 1, 0, none⟩ = some (.int .i64 0) := by rw [cell_of_block r2]; rfl
        have mf0 : wr.frozen? ⟨w.heap.size + 1, 0, none⟩ = false := by simp [World.frozen?, r2]
        have mc1 : wr.cell? ⟨w.heap.size + 1, 1, none⟩ = some (.int .i64 0) := by rw [cell_of_block r2]; rfl
        have mf1 : wr.frozen? ⟨w.heap.size + 1, 1, none⟩ = false := by simp [World.frozen?, r2]
        have hgz : w.heap.size + 1 < wr.heap.size := (Array.getElem?_eq_some_iff.1 r2).1
        clear r1 r2 hbX
        go_wp2_with fail
        obtain ⟨s1, s2⟩ := five_set (a' := .slice none 0 0) (b' := .slice none 0 0) (c' := .slice none 0 0) (u' := .int .i64 2) (v' := .int .i64 (k : Int)) HR1.out HR2.out
        have HFB := hide (five_below (a' := .slice none 0 0) (b' := .slice none 0 0) (c' := .slice none 0 0) (u' := .int .i64 2) (v' := .int .i64 (k : Int)) HBX.out)
        obtain ⟨XF, hXF⟩ : ∃ XF, (((((wr.setCell ⟨w.heap.size, 0, none⟩ (.slice none 0 0)).setCell ⟨w.heap.size, 1, none⟩ (.slice none 0 0)).setCell ⟨w.heap.size, 2, none⟩ (.slice none 0 0)).setCell ⟨w.heap.size + 1, 0, none⟩ (.int .i64 2)).setCell ⟨w.heap.size + 1, 1, none⟩ (.int .i64 (k : Int))) = XF := ⟨_, rfl⟩
        rw [hXF] at s1 s2 HFB
        try rw [hXF] at HLF
        rw [hXF]
        have f0 : XF.cell? ⟨w.heap.size, 0, none⟩ = some (.slice none 0 0) := by rw [cell_of_block s1]; rfl
        have f1 : XF.cell? ⟨w.heap.size, 1, none⟩ = some (.slice none 0 0) := by rw [cell_of_block s1]; rfl
        have f2 : XF.cell? ⟨w.heap.size, 2, none⟩ = some (.slice none 0 0) := by rw [cell_of_block s1]; rfl
        have f3 : XF.cell? ⟨w.heap.size + 1, 0, none⟩ = some (.int .i64 2) := by rw [cell_of_block s2]; rfl
        have f4 : XF.cell? ⟨w.heap.size + 1, 1, none⟩ = some (.int .i64 (k : Int)) := by rw [cell_of_block s2]; rfl
        clear hXF s1 s2
        go_wp2_with fail
        exact bodyPost_ret (v := .tuple #[.agg #[.slice none 0 0, .slice none 0 0, .slice none 0 0], .agg #[.int .i64 2, .int .i64 (k : Int)]]) (by simp [results, Tryd.results11, go_sem, f0, f1, f2, f3, f4]) rfl (pp_no HNO.out HFB.out)
theorem parseRef : ParseRefC := fun s w h1 h2 => parse_walk s w h1 h2
end Go.Proofs.YtjlfcbccpcigeacDoor
