/- The document's stmt: a statement's words read. -/
import Derived.Test.YtjlfcbccpcigeacDoorRef14Reads
import Derived.Test.YtjlfcbccpcigeacDoorLoopStmt
import Derived.Test.YtjlfcbccpcigeacDoorRef14Text
namespace Go.Proofs.YtjlfcbccpcigeacDoor
open Go.RowKit Go.Joins
set_option linter.unusedVariables false
set_option linter.unusedSimpArgs false
set_option maxRecDepth 8192

/-- a row of texts -/
def StrsV (w : World) (b n : Nat) (ws : List (List Int)) : Prop := ws.length = n ∧ b < w.heap.size ∧ ∀ i, i < n → w.cell? ⟨b, i, none⟩ = some (.string (strOfNums (ws.getD i [])))
theorem StrsV.below {w w' : World} {b n : Nat} {ws : List (List Int)} (h : StrsV w b n ws) (hb : Below w.heap.size w w') : StrsV w' b n ws :=
  ⟨h.1, Nat.lt_of_lt_of_le h.2.1 hb.size, fun i hi => (bcell hb _ _ h.2.1).trans (h.2.2 i hi)⟩
/-- what stmt answers -/
def StmtPost (ws : List (List Int)) (w : World) (e : Ending) (w' : World) : Prop := ∃ (s : St) (ok : Bool), e = .returned (.tuple #[.agg (stCells s), .bool ok]) ∧ ok = (stO ws).isSome ∧ (∀ r, stO ws = some r → s = r) ∧ Below w.heap.size w w'
theorem stmt_no {ws : List (List Int)} {w w' : World} {s : St} (h : stO ws = none) (hb : Below w.heap.size w w') : StmtPost ws w (.returned (.tuple #[.agg (stCells s), .bool false])) w' := ⟨s, false, rfl, by rw [h]; rfl, fun r hr => (by rw [h] at hr; cases hr), hb⟩
theorem word_beq {l : List Int} (hl : ∀ c ∈ l, 0 ≤ c ∧ c ≤ 255) {m : List Int} (hm : ∀ c ∈ m, 0 ≤ c ∧ c ≤ 255) {b : List UInt8} (hb : (strOfNums m).data.toList = b) : ((strOfNums l).toList == b) = decide (l = m) := by
  rw [← hb, ← ByteArray.toList_eq (strOfNums m)]; exact str_beq hl hm
theorem list_1 {ws : List (List Int)} (h : ws.length = 1) : ws = [ws.getD 0 []] := by match ws, h with | [a], _ => rfl
theorem list_2 {ws : List (List Int)} (h : ws.length = 2) : ws = [ws.getD 0 [], ws.getD 1 []] := by match ws, h with | [a, b], _ => rfl
/-- a word that is one of those of statements has its number of others -/
theorem op_ne (o : Int) : opD o ≠ constW ∧ opD o ≠ turnW ∧ opD o ≠ loadW ∧ opD o ≠ storeW := by
  unfold opD
  repeat' split
  all_goals decide
theorem find_none {w : List Int} (h : ∀ i : Nat, i < 8 → opD (11 + (i : Int)) ≠ w) : ([11, 12, 13, 14, 15, 16, 17, 18] : List Int).find? (fun o => decide (opD o = w)) = none := by
  rw [List.find?_eq_none]
  intro o ho
  have : ∃ i : Nat, i < 8 ∧ o = 11 + (i : Int) := by
    simp at ho
    rcases ho with e | e | e | e | e | e | e | e
    · exact ⟨0, by omega, by omega⟩
    · exact ⟨1, by omega, by omega⟩
    · exact ⟨2, by omega, by omega⟩
    · exact ⟨3, by omega, by omega⟩
    · exact ⟨4, by omega, by omega⟩
    · exact ⟨5, by omega, by omega⟩
    · exact ⟨6, by omega, by omega⟩
    · exact ⟨7, by omega, by omega⟩
  obtain ⟨i, hi, rfl⟩ := this
  simpa using h i hi
theorem st_bad {ws : List (List Int)} (n : Nat) (hn : ws.length = n + 1) (h1 : ws.getD 0 [] = constW → n ≠ 1) (h2 : ws.getD 0 [] = turnW → n ≠ 0) (h3 : ws.getD 0 [] = loadW → n ≠ 3) (h4 : ws.getD 0 [] = storeW → n ≠ 4) (h5 : n = 2 → ∀ i : Nat, i < 8 → opD (11 + (i : Int)) ≠ ws.getD 0 []) : stO ws = none := by
  match ws, hn with
  | [w], hn =>
    have e : n = 0 := by simp at hn; omega
    exact if_neg fun hq => h2 hq e
  | [w, a], hn =>
    have e : n = 1 := by simp at hn; omega
    exact if_neg fun hq => h1 hq e
  | [w, a, b], hn =>
    have e : n = 2 := by simp at hn; omega
    have h5' : ∀ i : Nat, i < 8 → opD (11 + (i : Int)) ≠ w := h5 e
    simp only [stO, find_none h5']
  | [w, a, b, c], hn =>
    have e : n = 3 := by simp at hn; omega
    exact if_neg fun hq => h3 hq e
  | [w, a, b, c, d], hn =>
    have e : n = 4 := by simp at hn; omega
    exact if_neg fun hq => h4 hq e
  | _ :: _ :: _ :: _ :: _ :: _ :: _, _ => rfl
theorem st_map1 {ws : List (List Int)} {o : Option Int} {n0 : Int} {b0 : Bool} (h : stO ws = o.map fun v => (⟨1, 0, 0, 0, 0, 0, 0, 0, v⟩ : St)) (hb : b0 = o.isSome) (hn : ∀ m, o = some m → n0 = m) : b0 = (stO ws).isSome ∧ ∀ r, stO ws = some r → (⟨1, 0, 0, 0, 0, 0, 0, 0, n0⟩ : St) = r := by
  rw [h, hb]
  cases o with
  | none => exact ⟨rfl, fun r hr => by cases hr⟩
  | some v => exact ⟨rfl, fun r hr => by have e := Option.some.inj hr; rw [← e, hn v rfl]⟩
theorem nine_set {x : World} {g : Nat} {e : TypeId} {a0 a1 a2 a3 a4 a5 a6 a7 a8 b0 b1 b2 b3 b4 b5 b6 b7 b8 : Value} (h : x.heap[g]? = some (.cells #[a0, a1, a2, a3, a4, a5, a6, a7, a8] e (0, 0))) : (((((((((x.setCell ⟨g, 0, none⟩ b0).setCell ⟨g, 1, none⟩ b1).setCell ⟨g, 2, none⟩ b2).setCell ⟨g, 3, none⟩ b3).setCell ⟨g, 4, none⟩ b4).setCell ⟨g, 5, none⟩ b5).setCell ⟨g, 6, none⟩ b6).setCell ⟨g, 7, none⟩ b7).setCell ⟨g, 8, none⟩ b8).heap[g]? = some (.cells #[b0, b1, b2, b3, b4, b5, b6, b7, b8] e (0, 0)) := by
  simp [World.setCell, Array.getElem?_modify, h]
theorem two_first {w y : World} {a b : Array Value} {e e' : TypeId} (h : Below (w.heap.size + 1 + 1) ((w.alloc (.cells a e)).alloc (.cells b e')) y) : y.heap[w.heap.size]? = some (.cells a e (0, 0)) := by
  rw [h.block _ (by omega), Below.heap_alloc _ _ _ (by simp)]; exact new_blkS _ _ _
theorem two_second {w y : World} {a b : Array Value} {e e' : TypeId} (h : Below (w.heap.size + 1 + 1) ((w.alloc (.cells a e)).alloc (.cells b e')) y) : y.heap[w.heap.size + 1]? = some (.cells b e' (0, 0)) := by
  have z : (w.alloc (.cells a e)).heap.size = w.heap.size + 1 := by simp
  rw [h.block _ (by omega), ← z]; exact new_blkS _ _ _
theorem three_first {w y : World} {a b c : Array Value} {e e' e'' : TypeId} (h : Below (w.heap.size + 1 + 1 + 1) (((w.alloc (.cells a e)).alloc (.cells b e')).alloc (.cells c e'')) y) : y.heap[w.heap.size]? = some (.cells a e (0, 0)) := by
  rw [h.block _ (by omega), Below.heap_alloc _ _ _ (by simp; omega), Below.heap_alloc _ _ _ (by simp)]; exact new_blkS _ _ _
theorem three_second {w y : World} {a b c : Array Value} {e e' e'' : TypeId} (h : Below (w.heap.size + 1 + 1 + 1) (((w.alloc (.cells a e)).alloc (.cells b e')).alloc (.cells c e'')) y) : y.heap[w.heap.size + 1]? = some (.cells b e' (0, 0)) := by
  have z : (w.alloc (.cells a e)).heap.size = w.heap.size + 1 := by simp
  rw [h.block _ (by omega), Below.heap_alloc _ _ _ (by simp), ← z]; exact new_blkS _ _ _
theorem three_third {w y : World} {a b c : Array Value} {e e' e'' : TypeId} (h : Below (w.heap.size + 1 + 1 + 1) (((w.alloc (.cells a e)).alloc (.cells b e')).alloc (.cells c e'')) y) : y.heap[w.heap.size + 1 + 1]? = some (.cells c e'' (0, 0)) := by
  have z : ((w.alloc (.cells a e)).alloc (.cells b e')).heap.size = w.heap.size + 1 + 1 := by simp
  rw [h.block _ (by omega), ← z]; exact new_blkS _ _ _
theorem op_byte (o : Int) : ∀ c ∈ opD o, 0 ≤ c ∧ c ≤ 255 := by
  unfold opD
  repeat' split
  all_goals decide
theorem st_op {ws : List (List Int)} {o : Int} (h1 : 11 ≤ o) (h2 : o ≤ 18) (h : ws.length = 3) (h0 : opD o = ws.getD 0 []) : stO ws = match refO (ws.getD 1 []), refO (ws.getD 2 []) with
    | some x, some y => some (⟨o, x.1, x.2, y.1, y.2, 0, 0, 0, 0⟩ : St)
    | _, _ => none := by
  match ws, h, h0 with
  | [w, a, b], _, h0 =>
    have h0' : opD o = w := h0
    subst h0'
    simp only [stO, op_find h1 h2]
    rfl
theorem st_fin2 {ws : List (List Int)} {o0 o1 : Option (Int × Int)} {o ra rb rc rd : Int} {b0 b1 ok : Bool} (h : stO ws = match o0, o1 with
    | some x, some y => some (⟨o, x.1, x.2, y.1, y.2, 0, 0, 0, 0⟩ : St)
    | _, _ => none) (hb0 : b0 = o0.isSome) (hn0 : ∀ r, o0 = some r → ra = r.1 ∧ rb = r.2) (hb1 : b1 = o1.isSome) (hn1 : ∀ r, o1 = some r → rc = r.1 ∧ rd = r.2) (hok : ok = (b0 && b1)) : ok = (stO ws).isSome ∧ ∀ r, stO ws = some r → (⟨o, ra, rb, rc, rd, 0, 0, 0, 0⟩ : St) = r := by
  rw [hok, hb0, hb1, h]
  cases o0 with
  | none => exact ⟨rfl, fun r hr => by cases hr⟩
  | some x => cases o1 with
    | none => exact ⟨rfl, fun r hr => by cases hr⟩
    | some y => exact ⟨rfl, fun r hr => by rw [(hn0 x rfl).1, (hn0 x rfl).2, (hn1 y rfl).1, (hn1 y rfl).2]; exact Option.some.inj hr⟩
theorem op_nums {i : Nat} (hi : i < 8) : ∃ oq o9 : Int, (10 : Int) + (i : Int) = oq ∧ wrap64 oq = oq ∧ IntKind.i64.wrap oq = oq ∧ oq + 1 = o9 ∧ wrap64 o9 = o9 ∧ IntKind.i64.wrap o9 = o9 ∧ 11 + (i : Int) = o9 ∧ 11 ≤ o9 ∧ o9 ≤ 18 := by
  refine ⟨10 + (i : Int), 11 + (i : Int), rfl, ?_, i64_wrap _ (by omega) (by omega), by omega, ?_, i64_wrap _ (by omega) (by omega), rfl, by omega, by omega⟩
  · unfold wrap64; omega
  · unfold wrap64; omega
theorem st_load {ws : List (List Int)} (h : ws.length = 4) (h0 : ws.getD 0 [] = loadW) : stO ws = match numO (ws.getD 1 []) 18, numO (ws.getD 2 []) 18, numO (ws.getD 3 []) 18 with
    | some x, some y, some z => some (⟨3, 0, 0, 0, 0, x, y, z, 0⟩ : St)
    | _, _, _ => none := by
  match ws, h, h0 with
  | [w, a, b, c], _, h0 => exact if_pos h0
theorem st_store {ws : List (List Int)} (h : ws.length = 5) (h0 : ws.getD 0 [] = storeW) : stO ws = match numO (ws.getD 1 []) 18, numO (ws.getD 2 []) 18, numO (ws.getD 3 []) 18, refO (ws.getD 4 []) with
    | some x, some y, some z, some q => some (⟨4, q.1, q.2, 0, 0, x, y, z, 0⟩ : St)
    | _, _, _, _ => none := by
  match ws, h, h0 with
  | [w, a, b, c, d], _, h0 => exact if_pos h0
theorem st_fin3 {ws : List (List Int)} {o0 o1 o2 : Option Int} {n0 n1 n2 : Int} {b0 b1 b2 ok : Bool} (h : stO ws = match o0, o1, o2 with
    | some x, some y, some z => some (⟨3, 0, 0, 0, 0, x, y, z, 0⟩ : St)
    | _, _, _ => none) (hb0 : b0 = o0.isSome) (hn0 : ∀ m, o0 = some m → n0 = m) (hb1 : b1 = o1.isSome) (hn1 : ∀ m, o1 = some m → n1 = m) (hb2 : b2 = o2.isSome) (hn2 : ∀ m, o2 = some m → n2 = m) (hok : ok = (b0 && b1 && b2)) : ok = (stO ws).isSome ∧ ∀ r, stO ws = some r → (⟨3, 0, 0, 0, 0, n0, n1, n2, 0⟩ : St) = r := by
  rw [hok, hb0, hb1, hb2, h]
  cases o0 with
  | none => exact ⟨rfl, fun r hr => by cases hr⟩
  | some x => cases o1 with
    | none => exact ⟨rfl, fun r hr => by cases hr⟩
    | some y => cases o2 with
      | none => exact ⟨rfl, fun r hr => by cases hr⟩
      | some z => exact ⟨rfl, fun r hr => by rw [hn0 x rfl, hn1 y rfl, hn2 z rfl]; exact Option.some.inj hr⟩
theorem st_fin4 {ws : List (List Int)} {o0 o1 o2 : Option Int} {o3 : Option (Int × Int)} {n0 n1 n2 ra rb : Int} {b0 b1 b2 b3 ok : Bool} (h : stO ws = match o0, o1, o2, o3 with
    | some x, some y, some z, some q => some (⟨4, q.1, q.2, 0, 0, x, y, z, 0⟩ : St)
    | _, _, _, _ => none) (hb0 : b0 = o0.isSome) (hn0 : ∀ m, o0 = some m → n0 = m) (hb1 : b1 = o1.isSome) (hn1 : ∀ m, o1 = some m → n1 = m) (hb2 : b2 = o2.isSome) (hn2 : ∀ m, o2 = some m → n2 = m) (hb3 : b3 = o3.isSome) (hn3 : ∀ r, o3 = some r → ra = r.1 ∧ rb = r.2) (hok : ok = (b0 && b1 && b2 && b3)) : ok = (stO ws).isSome ∧ ∀ r, stO ws = some r → (⟨4, ra, rb, 0, 0, n0, n1, n2, 0⟩ : St) = r := by
  rw [hok, hb0, hb1, hb2, hb3, h]
  cases o0 with
  | none => exact ⟨rfl, fun r hr => by cases hr⟩
  | some x => cases o1 with
    | none => exact ⟨rfl, fun r hr => by cases hr⟩
    | some y => cases o2 with
      | none => exact ⟨rfl, fun r hr => by cases hr⟩
      | some z => cases o3 with
        | none => exact ⟨rfl, fun r hr => by cases hr⟩
        | some q => exact ⟨rfl, fun r hr => by rw [hn0 x rfl, hn1 y rfl, hn2 z rfl, (hn3 q rfl).1, (hn3 q rfl).2]; exact Option.some.inj hr⟩
set_option maxHeartbeats 16000000 in
theorem stmt_walk (ws : List (List Int)) (b n c : Nat) (w : World) (hW : StrsV w b n ws) (hsb : ∀ i, ByteL (ws.getD i [])) (hl : ∀ i, (ws.getD i []).length ≤ 2000000) (hn1 : 1 ≤ n) (hnc : n ≤ c) (hcm : c ≤ 9223372036854775807) (hnb : n ≤ 3000000) :
    Calls Tryd.prog 31 #[.slice (some ⟨b, 0, none⟩) n c] w (StmtPost ws w) := by
  obtain ⟨hlen, hbz, hcells⟩ := hW
  have HCE := hide hcells
  have HZC : Hid (((w.alloc (.cells #[.int .i64 0, .int .i64 0, .int .i64 0, .int .i64 0, .int .i64 0, .int .i64 0, .int .i64 0, .int .i64 0, .int .i64 0] 53)).alloc (.cells #[.int .i64 1, .int .i64 0, .int .i64 0, .int .i64 0, .int .i64 0, .int .i64 0, .int .i64 0, .int .i64 0, .int .i64 0] 53)).heap.size = w.heap.size + 1 + 1) := by show _ = _; simp
  have HZL : Hid (((w.alloc (.cells #[.int .i64 0, .int .i64 0, .int .i64 0, .int .i64 0, .int .i64 0, .int .i64 0, .int .i64 0, .int .i64 0, .int .i64 0] 53)).alloc (.cells #[.int .i64 3, .int .i64 0, .int .i64 0, .int .i64 0, .int .i64 0, .int .i64 0, .int .i64 0, .int .i64 0, .int .i64 0] 53)).heap.size = w.heap.size + 1 + 1) := by show _ = _; simp
  have HZS : Hid (((w.alloc (.cells #[.int .i64 0, .int .i64 0, .int .i64 0, .int .i64 0, .int .i64 0, .int .i64 0, .int .i64 0, .int .i64 0, .int .i64 0] 53)).alloc (.cells #[.int .i64 4, .int .i64 0, .int .i64 0, .int .i64 0, .int .i64 0, .int .i64 0, .int .i64 0, .int .i64 0, .int .i64 0] 53)).heap.size = w.heap.size + 1 + 1) := by show _ = _; simp
  have c0 := hcells 0 (by omega)
  have e1 := word_beq (byteL_mem (hsb 0)) (m := constW) (by decide) (b := [99, 111, 110, 115, 116]) rfl
  have e2 := word_beq (byteL_mem (hsb 0)) (m := turnW) (by decide) (b := [116, 117, 114, 110]) rfl
  have e3 := word_beq (byteL_mem (hsb 0)) (m := loadW) (by decide) (b := [108, 111, 97, 100]) rfl
  have e4 := word_beq (byteL_mem (hsb 0)) (m := storeW) (by decide) (b := [115, 116, 111, 114, 101]) rfl
  obtain ⟨w0, hw0⟩ : ∃ w0, ws.getD 0 [] = w0 := ⟨_, rfl⟩
  rw [hw0] at c0 e1 e2 e3 e4
  have HW0 := hide hw0
  obtain ⟨A, hA⟩ : ∃ A, strOfNums w0 = A := ⟨_, rfl⟩
  rw [hA] at c0 e1 e2 e3 e4
  have HA := hide hA
  have hn0 : (0 : Int) < (n : Int) := by omega
  have hni : (1 : Int) ≤ (n : Int) := by omega
  obtain ⟨m, hm⟩ : ∃ m : Nat, n = m + 1 := ⟨n - 1, by omega⟩
  have hmi : (n : Int) - 1 = (m : Int) := by omega
  have hmw : wrap64 (m : Int) = (m : Int) := by unfold wrap64; omega
  clear hcells hA hw0
  go_enter Tryd.func31, Tryd.ntmps31
  by_cases q1 : w0 = constW
  · rw [decide_eq_true q1] at e1
    by_cases hm1 : m = 1
    · have hmi : (m : Int) = 1 := by omega
      have hn2 : n = 2 := by omega
      have c1 := HCE.out 1 (by omega)
      have HST : Hid (stO ws = (numO (ws.getD 1 []) 19).map fun v => (⟨1, 0, 0, 0, 0, 0, 0, 0, v⟩ : St)) := by
        show _ = _
        have e := list_2 (show ws.length = 2 by omega)
        rw [HW0.out, q1] at e
        generalize ws.getD 1 [] = a at *
        rw [e]
        show (if constW = constW then (numO a 19).map _ else none) = _
        exact if_pos rfl
      have HN := hide (fun W => number_any14 (ws.getD 1 []) 19 W (hsb 1) (hl 1) (by omega))
      generalize ws.getD 1 [] = p1 at *
      obtain ⟨A1, hA1⟩ : ∃ A1, strOfNums p1 = A1 := ⟨_, rfl⟩
      rw [hA1] at c1 HN
      have hn3 : (1 : Int) < (n : Int) := by omega
      clear q1 hA1 hm1 hn2
      go_wp2_with fail
      refine (HN.out _).mono ?_
      rintro e y ⟨n0, b0, rfl, hb0, hn0, lo, hi, hy⟩
      have HOK : Hid (b0 = (stO ws).isSome ∧ ∀ r, stO ws = some r → (⟨1, 0, 0, 0, 0, 0, 0, 0, n0⟩ : St) = r) := st_map1 HST.out hb0 hn0
      have HY : Hid (Below (w.heap.size + 1 + 1) ((w.alloc (.cells #[.int .i64 0, .int .i64 0, .int .i64 0, .int .i64 0, .int .i64 0, .int .i64 0, .int .i64 0, .int .i64 0, .int .i64 0] 53)).alloc (.cells #[.int .i64 1, .int .i64 0, .int .i64 0, .int .i64 0, .int .i64 0, .int .i64 0, .int .i64 0, .int .i64 0, .int .i64 0] 53)) y) := by show Below _ _ _; rw [← HZC.out]; exact hy
      have HRB0 : Hid (y.heap[w.heap.size]? = some (.cells #[.int .i64 0, .int .i64 0, .int .i64 0, .int .i64 0, .int .i64 0, .int .i64 0, .int .i64 0, .int .i64 0, .int .i64 0] 53 (0, 0))) := two_first HY.out
      have HSB0 : Hid (y.heap[w.heap.size + 1]? = some (.cells #[.int .i64 1, .int .i64 0, .int .i64 0, .int .i64 0, .int .i64 0, .int .i64 0, .int .i64 0, .int .i64 0, .int .i64 0] 53 (0, 0))) := two_second HY.out
      have HBL : Hid (Below w.heap.size w y) := (below_alloc2 _ _ _).trans (HY.out.mono (by omega))
      have hyz : w.heap.size + 1 < y.heap.size := (Array.getElem?_eq_some_iff.1 HSB0.out).1
      have uf : y.frozen? ⟨w.heap.size + 1, 8, none⟩ = false := by simp [World.frozen?, HSB0.out]
      have HRB : Hid ((y.setCell ⟨w.heap.size + 1, 8, none⟩ (.int .i64 n0)).heap[w.heap.size]? = some (.cells #[.int .i64 0, .int .i64 0, .int .i64 0, .int .i64 0, .int .i64 0, .int .i64 0, .int .i64 0, .int .i64 0, .int .i64 0] 53 (0, 0))) := by show _ = _; rw [Below.heap_setCell _ _ _ _ (show w.heap.size ≠ w.heap.size + 1 by omega)]; exact HRB0.out
      have HBL2 : Hid (Below w.heap.size w (y.setCell ⟨w.heap.size + 1, 8, none⟩ (.int .i64 n0))) := HBL.out.setCell (by show w.heap.size ≤ w.heap.size + 1; omega) _
      clear hb0 hn0 hy HST c1
      have k0 : y.cell? ⟨w.heap.size, 0, none⟩ = some (.int .i64 0) := by rw [cell_of_block HRB0.out]; rfl
      have f0 : y.frozen? ⟨w.heap.size, 0, none⟩ = false := by simp [World.frozen?, HRB0.out]
      have v0 : y.cell? ⟨w.heap.size + 1, 0, none⟩ = some (.int .i64 1) := by rw [cell_of_block HSB0.out]; rfl
      have k1 : y.cell? ⟨w.heap.size, 1, none⟩ = some (.int .i64 0) := by rw [cell_of_block HRB0.out]; rfl
      have f1 : y.frozen? ⟨w.heap.size, 1, none⟩ = false := by simp [World.frozen?, HRB0.out]
      have v1 : y.cell? ⟨w.heap.size + 1, 1, none⟩ = some (.int .i64 0) := by rw [cell_of_block HSB0.out]; rfl
      have k2 : y.cell? ⟨w.heap.size, 2, none⟩ = some (.int .i64 0) := by rw [cell_of_block HRB0.out]; rfl
      have f2 : y.frozen? ⟨w.heap.size, 2, none⟩ = false := by simp [World.frozen?, HRB0.out]
      have v2 : y.cell? ⟨w.heap.size + 1, 2, none⟩ = some (.int .i64 0) := by rw [cell_of_block HSB0.out]; rfl
      have k3 : y.cell? ⟨w.heap.size, 3, none⟩ = some (.int .i64 0) := by rw [cell_of_block HRB0.out]; rfl
      have f3 : y.frozen? ⟨w.heap.size, 3, none⟩ = false := by simp [World.frozen?, HRB0.out]
      have v3 : y.cell? ⟨w.heap.size + 1, 3, none⟩ = some (.int .i64 0) := by rw [cell_of_block HSB0.out]; rfl
      have k4 : y.cell? ⟨w.heap.size, 4, none⟩ = some (.int .i64 0) := by rw [cell_of_block HRB0.out]; rfl
      have f4 : y.frozen? ⟨w.heap.size, 4, none⟩ = false := by simp [World.frozen?, HRB0.out]
      have v4 : y.cell? ⟨w.heap.size + 1, 4, none⟩ = some (.int .i64 0) := by rw [cell_of_block HSB0.out]; rfl
      have k5 : y.cell? ⟨w.heap.size, 5, none⟩ = some (.int .i64 0) := by rw [cell_of_block HRB0.out]; rfl
      have f5 : y.frozen? ⟨w.heap.size, 5, none⟩ = false := by simp [World.frozen?, HRB0.out]
      have v5 : y.cell? ⟨w.heap.size + 1, 5, none⟩ = some (.int .i64 0) := by rw [cell_of_block HSB0.out]; rfl
      have k6 : y.cell? ⟨w.heap.size, 6, none⟩ = some (.int .i64 0) := by rw [cell_of_block HRB0.out]; rfl
      have f6 : y.frozen? ⟨w.heap.size, 6, none⟩ = false := by simp [World.frozen?, HRB0.out]
      have v6 : y.cell? ⟨w.heap.size + 1, 6, none⟩ = some (.int .i64 0) := by rw [cell_of_block HSB0.out]; rfl
      have k7 : y.cell? ⟨w.heap.size, 7, none⟩ = some (.int .i64 0) := by rw [cell_of_block HRB0.out]; rfl
      have f7 : y.frozen? ⟨w.heap.size, 7, none⟩ = false := by simp [World.frozen?, HRB0.out]
      have v7 : y.cell? ⟨w.heap.size + 1, 7, none⟩ = some (.int .i64 0) := by rw [cell_of_block HSB0.out]; rfl
      have k8 : y.cell? ⟨w.heap.size, 8, none⟩ = some (.int .i64 0) := by rw [cell_of_block HRB0.out]; rfl
      have f8 : y.frozen? ⟨w.heap.size, 8, none⟩ = false := by simp [World.frozen?, HRB0.out]
      have v8 : y.cell? ⟨w.heap.size + 1, 8, none⟩ = some (.int .i64 0) := by rw [cell_of_block HSB0.out]; rfl
      have HTW := hide (nine_set (b0 := .int .i64 1) (b1 := .int .i64 0) (b2 := .int .i64 0) (b3 := .int .i64 0) (b4 := .int .i64 0) (b5 := .int .i64 0) (b6 := .int .i64 0) (b7 := .int .i64 0) (b8 := .int .i64 n0) HRB.out)
      have HPP : Hid (StmtPost ws w (.returned (.tuple #[.agg #[.int .i64 1, .int .i64 0, .int .i64 0, .int .i64 0, .int .i64 0, .int .i64 0, .int .i64 0, .int .i64 0, .int .i64 n0], .bool b0])) ((((((((((y.setCell ⟨w.heap.size + 1, 8, none⟩ (.int .i64 n0)).setCell ⟨w.heap.size, 0, none⟩ (.int .i64 1)).setCell ⟨w.heap.size, 1, none⟩ (.int .i64 0)).setCell ⟨w.heap.size, 2, none⟩ (.int .i64 0)).setCell ⟨w.heap.size, 3, none⟩ (.int .i64 0)).setCell ⟨w.heap.size, 4, none⟩ (.int .i64 0)).setCell ⟨w.heap.size, 5, none⟩ (.int .i64 0)).setCell ⟨w.heap.size, 6, none⟩ (.int .i64 0)).setCell ⟨w.heap.size, 7, none⟩ (.int .i64 0)).setCell ⟨w.heap.size, 8, none⟩ (.int .i64 n0))) := ⟨_, b0, rfl, HOK.out.1, HOK.out.2, ((((((((((HBL2.out.setCell (Nat.le_refl _) _).setCell (Nat.le_refl _) _).setCell (Nat.le_refl _) _).setCell (Nat.le_refl _) _).setCell (Nat.le_refl _) _).setCell (Nat.le_refl _) _).setCell (Nat.le_refl _) _).setCell (Nat.le_refl _) _).setCell (Nat.le_refl _) _))⟩
      go_wp2_with fail
      have s0 : ((((((((((y.setCell ⟨w.heap.size + 1, 8, none⟩ (.int .i64 n0)).setCell ⟨w.heap.size, 0, none⟩ (.int .i64 1)).setCell ⟨w.heap.size, 1, none⟩ (.int .i64 0)).setCell ⟨w.heap.size, 2, none⟩ (.int .i64 0)).setCell ⟨w.heap.size, 3, none⟩ (.int .i64 0)).setCell ⟨w.heap.size, 4, none⟩ (.int .i64 0)).setCell ⟨w.heap.size, 5, none⟩ (.int .i64 0)).setCell ⟨w.heap.size, 6, none⟩ (.int .i64 0)).setCell ⟨w.heap.size, 7, none⟩ (.int .i64 0)).setCell ⟨w.heap.size, 8, none⟩ (.int .i64 n0)).cell? ⟨w.heap.size, 0, none⟩ = some (.int .i64 1) := by rw [cell_of_block HTW.out]; rfl
      have s1 : ((((((((((y.setCell ⟨w.heap.size + 1, 8, none⟩ (.int .i64 n0)).setCell ⟨w.heap.size, 0, none⟩ (.int .i64 1)).setCell ⟨w.heap.size, 1, none⟩ (.int .i64 0)).setCell ⟨w.heap.size, 2, none⟩ (.int .i64 0)).setCell ⟨w.heap.size, 3, none⟩ (.int .i64 0)).setCell ⟨w.heap.size, 4, none⟩ (.int .i64 0)).setCell ⟨w.heap.size, 5, none⟩ (.int .i64 0)).setCell ⟨w.heap.size, 6, none⟩ (.int .i64 0)).setCell ⟨w.heap.size, 7, none⟩ (.int .i64 0)).setCell ⟨w.heap.size, 8, none⟩ (.int .i64 n0)).cell? ⟨w.heap.size, 1, none⟩ = some (.int .i64 0) := by rw [cell_of_block HTW.out]; rfl
      have s2 : ((((((((((y.setCell ⟨w.heap.size + 1, 8, none⟩ (.int .i64 n0)).setCell ⟨w.heap.size, 0, none⟩ (.int .i64 1)).setCell ⟨w.heap.size, 1, none⟩ (.int .i64 0)).setCell ⟨w.heap.size, 2, none⟩ (.int .i64 0)).setCell ⟨w.heap.size, 3, none⟩ (.int .i64 0)).setCell ⟨w.heap.size, 4, none⟩ (.int .i64 0)).setCell ⟨w.heap.size, 5, none⟩ (.int .i64 0)).setCell ⟨w.heap.size, 6, none⟩ (.int .i64 0)).setCell ⟨w.heap.size, 7, none⟩ (.int .i64 0)).setCell ⟨w.heap.size, 8, none⟩ (.int .i64 n0)).cell? ⟨w.heap.size, 2, none⟩ = some (.int .i64 0) := by rw [cell_of_block HTW.out]; rfl
      have s3 : ((((((((((y.setCell ⟨w.heap.size + 1, 8, none⟩ (.int .i64 n0)).setCell ⟨w.heap.size, 0, none⟩ (.int .i64 1)).setCell ⟨w.heap.size, 1, none⟩ (.int .i64 0)).setCell ⟨w.heap.size, 2, none⟩ (.int .i64 0)).setCell ⟨w.heap.size, 3, none⟩ (.int .i64 0)).setCell ⟨w.heap.size, 4, none⟩ (.int .i64 0)).setCell ⟨w.heap.size, 5, none⟩ (.int .i64 0)).setCell ⟨w.heap.size, 6, none⟩ (.int .i64 0)).setCell ⟨w.heap.size, 7, none⟩ (.int .i64 0)).setCell ⟨w.heap.size, 8, none⟩ (.int .i64 n0)).cell? ⟨w.heap.size, 3, none⟩ = some (.int .i64 0) := by rw [cell_of_block HTW.out]; rfl
      have s4 : ((((((((((y.setCell ⟨w.heap.size + 1, 8, none⟩ (.int .i64 n0)).setCell ⟨w.heap.size, 0, none⟩ (.int .i64 1)).setCell ⟨w.heap.size, 1, none⟩ (.int .i64 0)).setCell ⟨w.heap.size, 2, none⟩ (.int .i64 0)).setCell ⟨w.heap.size, 3, none⟩ (.int .i64 0)).setCell ⟨w.heap.size, 4, none⟩ (.int .i64 0)).setCell ⟨w.heap.size, 5, none⟩ (.int .i64 0)).setCell ⟨w.heap.size, 6, none⟩ (.int .i64 0)).setCell ⟨w.heap.size, 7, none⟩ (.int .i64 0)).setCell ⟨w.heap.size, 8, none⟩ (.int .i64 n0)).cell? ⟨w.heap.size, 4, none⟩ = some (.int .i64 0) := by rw [cell_of_block HTW.out]; rfl
      have s5 : ((((((((((y.setCell ⟨w.heap.size + 1, 8, none⟩ (.int .i64 n0)).setCell ⟨w.heap.size, 0, none⟩ (.int .i64 1)).setCell ⟨w.heap.size, 1, none⟩ (.int .i64 0)).setCell ⟨w.heap.size, 2, none⟩ (.int .i64 0)).setCell ⟨w.heap.size, 3, none⟩ (.int .i64 0)).setCell ⟨w.heap.size, 4, none⟩ (.int .i64 0)).setCell ⟨w.heap.size, 5, none⟩ (.int .i64 0)).setCell ⟨w.heap.size, 6, none⟩ (.int .i64 0)).setCell ⟨w.heap.size, 7, none⟩ (.int .i64 0)).setCell ⟨w.heap.size, 8, none⟩ (.int .i64 n0)).cell? ⟨w.heap.size, 5, none⟩ = some (.int .i64 0) := by rw [cell_of_block HTW.out]; rfl
      have s6 : ((((((((((y.setCell ⟨w.heap.size + 1, 8, none⟩ (.int .i64 n0)).setCell ⟨w.heap.size, 0, none⟩ (.int .i64 1)).setCell ⟨w.heap.size, 1, none⟩ (.int .i64 0)).setCell ⟨w.heap.size, 2, none⟩ (.int .i64 0)).setCell ⟨w.heap.size, 3, none⟩ (.int .i64 0)).setCell ⟨w.heap.size, 4, none⟩ (.int .i64 0)).setCell ⟨w.heap.size, 5, none⟩ (.int .i64 0)).setCell ⟨w.heap.size, 6, none⟩ (.int .i64 0)).setCell ⟨w.heap.size, 7, none⟩ (.int .i64 0)).setCell ⟨w.heap.size, 8, none⟩ (.int .i64 n0)).cell? ⟨w.heap.size, 6, none⟩ = some (.int .i64 0) := by rw [cell_of_block HTW.out]; rfl
      have s7 : ((((((((((y.setCell ⟨w.heap.size + 1, 8, none⟩ (.int .i64 n0)).setCell ⟨w.heap.size, 0, none⟩ (.int .i64 1)).setCell ⟨w.heap.size, 1, none⟩ (.int .i64 0)).setCell ⟨w.heap.size, 2, none⟩ (.int .i64 0)).setCell ⟨w.heap.size, 3, none⟩ (.int .i64 0)).setCell ⟨w.heap.size, 4, none⟩ (.int .i64 0)).setCell ⟨w.heap.size, 5, none⟩ (.int .i64 0)).setCell ⟨w.heap.size, 6, none⟩ (.int .i64 0)).setCell ⟨w.heap.size, 7, none⟩ (.int .i64 0)).setCell ⟨w.heap.size, 8, none⟩ (.int .i64 n0)).cell? ⟨w.heap.size, 7, none⟩ = some (.int .i64 0) := by rw [cell_of_block HTW.out]; rfl
      have s8 : ((((((((((y.setCell ⟨w.heap.size + 1, 8, none⟩ (.int .i64 n0)).setCell ⟨w.heap.size, 0, none⟩ (.int .i64 1)).setCell ⟨w.heap.size, 1, none⟩ (.int .i64 0)).setCell ⟨w.heap.size, 2, none⟩ (.int .i64 0)).setCell ⟨w.heap.size, 3, none⟩ (.int .i64 0)).setCell ⟨w.heap.size, 4, none⟩ (.int .i64 0)).setCell ⟨w.heap.size, 5, none⟩ (.int .i64 0)).setCell ⟨w.heap.size, 6, none⟩ (.int .i64 0)).setCell ⟨w.heap.size, 7, none⟩ (.int .i64 0)).setCell ⟨w.heap.size, 8, none⟩ (.int .i64 n0)).cell? ⟨w.heap.size, 8, none⟩ = some (.int .i64 n0) := by rw [cell_of_block HTW.out]; rfl
      exact bodyPost_ret (v := .tuple #[.agg #[.int .i64 1, .int .i64 0, .int .i64 0, .int .i64 0, .int .i64 0, .int .i64 0, .int .i64 0, .int .i64 0, .int .i64 n0], .bool b0]) (by simp [results, Tryd.results31, go_sem, s0, s1, s2, s3, s4, s5, s6, s7, s8]) rfl HPP.out

    · have hmi : ¬ (m : Int) = 1 := by omega
      have hmb : ((m : Int) == 1) = false := beq_false_of_ne hmi
      have HNO := hide (st_bad (ws := ws) m (by omega) (fun _ => hm1) (fun hq => absurd (q1.symm.trans (HW0.out.symm.trans hq)) (by decide)) (fun hq => absurd (q1.symm.trans (HW0.out.symm.trans hq)) (by decide)) (fun hq => absurd (q1.symm.trans (HW0.out.symm.trans hq)) (by decide)) (fun _ i _ hq => (op_ne _).1 (hq.trans (HW0.out.trans q1))))
      clear q1 hm1
      have HPP : Hid (StmtPost ws w (.returned (.tuple #[.agg #[.int .i64 1, .int .i64 0, .int .i64 0, .int .i64 0, .int .i64 0, .int .i64 0, .int .i64 0, .int .i64 0, .int .i64 0], .bool false])) ((w.alloc (.cells #[.int .i64 1, .int .i64 0, .int .i64 0, .int .i64 0, .int .i64 0, .int .i64 0, .int .i64 0, .int .i64 0, .int .i64 0] 53)).alloc (.cells #[.int .i64 1, .int .i64 0, .int .i64 0, .int .i64 0, .int .i64 0, .int .i64 0, .int .i64 0, .int .i64 0, .int .i64 0] 53))) := stmt_no (s := ⟨1, 0, 0, 0, 0, 0, 0, 0, 0⟩) HNO.out (below_alloc2 _ _ _)
      go_wp2_with fail
      exact bodyPost_ret (v := .tuple #[.agg #[.int .i64 1, .int .i64 0, .int .i64 0, .int .i64 0, .int .i64 0, .int .i64 0, .int .i64 0, .int .i64 0, .int .i64 0], .bool false]) (by simp [results, Tryd.results31, go_sem]) rfl HPP.out

  · rw [decide_eq_false q1] at e1
    by_cases q2 : w0 = turnW
    · rw [decide_eq_true q2] at e2
      by_cases hm0 : m = 0
      · have hmi : (m : Int) = 0 := by omega
        have hmb : ((m : Int) == 0) = true := by rw [hmi]; rfl
        have HST : Hid (stO ws = some ⟨2, 0, 0, 0, 0, 0, 0, 0, 0⟩) := by
          show _ = _
          have e := list_1 (show ws.length = 1 by omega)
          rw [HW0.out, q2] at e
          rw [e]
          show (if turnW = turnW then some _ else none) = _
          exact if_pos rfl
        clear q1 q2 hm0
        have HPP : Hid (StmtPost ws w (.returned (.tuple #[.agg #[.int .i64 2, .int .i64 0, .int .i64 0, .int .i64 0, .int .i64 0, .int .i64 0, .int .i64 0, .int .i64 0, .int .i64 0], .bool true])) ((w.alloc (.cells #[.int .i64 2, .int .i64 0, .int .i64 0, .int .i64 0, .int .i64 0, .int .i64 0, .int .i64 0, .int .i64 0, .int .i64 0] 53)).alloc (.cells #[.int .i64 2, .int .i64 0, .int .i64 0, .int .i64 0, .int .i64 0, .int .i64 0, .int .i64 0, .int .i64 0, .int .i64 0] 53))) := ⟨⟨2, 0, 0, 0, 0, 0, 0, 0, 0⟩, true, rfl, by rw [HST.out]; rfl, fun r hr => by rw [HST.out] at hr; exact Option.some.inj hr, below_alloc2 _ _ _⟩
        go_wp2_with fail
        exact bodyPost_ret (v := .tuple #[.agg #[.int .i64 2, .int .i64 0, .int .i64 0, .int .i64 0, .int .i64 0, .int .i64 0, .int .i64 0, .int .i64 0, .int .i64 0], .bool true]) (by simp [results, Tryd.results31, go_sem]) rfl HPP.out

      · have hmi : ¬ (m : Int) = 0 := by omega
        have hmb : ((m : Int) == 0) = false := beq_false_of_ne hmi
        have HNO := hide (st_bad (ws := ws) m (by omega) (fun hq => absurd (q2.symm.trans (HW0.out.symm.trans hq)) (by decide)) (fun _ => hm0) (fun hq => absurd (q2.symm.trans (HW0.out.symm.trans hq)) (by decide)) (fun hq => absurd (q2.symm.trans (HW0.out.symm.trans hq)) (by decide)) (fun _ i _ hq => (op_ne _).2.1 (hq.trans (HW0.out.trans q2))))
        clear q1 q2 hm0
        have HPP : Hid (StmtPost ws w (.returned (.tuple #[.agg #[.int .i64 2, .int .i64 0, .int .i64 0, .int .i64 0, .int .i64 0, .int .i64 0, .int .i64 0, .int .i64 0, .int .i64 0], .bool false])) ((w.alloc (.cells #[.int .i64 2, .int .i64 0, .int .i64 0, .int .i64 0, .int .i64 0, .int .i64 0, .int .i64 0, .int .i64 0, .int .i64 0] 53)).alloc (.cells #[.int .i64 2, .int .i64 0, .int .i64 0, .int .i64 0, .int .i64 0, .int .i64 0, .int .i64 0, .int .i64 0, .int .i64 0] 53))) := stmt_no (s := ⟨2, 0, 0, 0, 0, 0, 0, 0, 0⟩) HNO.out (below_alloc2 _ _ _)
        go_wp2_with fail
        exact bodyPost_ret (v := .tuple #[.agg #[.int .i64 2, .int .i64 0, .int .i64 0, .int .i64 0, .int .i64 0, .int .i64 0, .int .i64 0, .int .i64 0, .int .i64 0], .bool false]) (by simp [results, Tryd.results31, go_sem]) rfl HPP.out

    · rw [decide_eq_false q2] at e2
      by_cases q3 : w0 = loadW
      · rw [decide_eq_true q3] at e3
        have q4 : ¬ w0 = storeW := fun hq => absurd (q3.symm.trans hq) (by decide)
        rw [decide_eq_false q4] at e4
        by_cases hmw4 : m = 3
        · have hmi3 : (m : Int) = 3 := by omega
          have HST := hide (st_load (ws := ws) (by omega) (HW0.out.trans q3))
          have c1 := HCE.out 1 (by omega)
          have c2 := HCE.out 2 (by omega)
          have c3 := HCE.out 3 (by omega)
          have hi1 : (1 : Int) < (n : Int) := by omega
          have hi2 : (2 : Int) < (n : Int) := by omega
          have hi3 : (3 : Int) < (n : Int) := by omega
          have HN1 := hide (fun W => number_any14 (ws.getD 1 []) 18 W (hsb 1) (hl 1) (by omega))
          have HN2 := hide (fun W => number_any14 (ws.getD 2 []) 18 W (hsb 2) (hl 2) (by omega))
          have HN3 := hide (fun W => number_any14 (ws.getD 3 []) 18 W (hsb 3) (hl 3) (by omega))
          generalize ws.getD 1 [] = p1 at *
          generalize ws.getD 2 [] = p2 at *
          generalize ws.getD 3 [] = p3 at *
          obtain ⟨A1, hA1⟩ : ∃ A1, strOfNums p1 = A1 := ⟨_, rfl⟩
          obtain ⟨A2, hA2⟩ : ∃ A2, strOfNums p2 = A2 := ⟨_, rfl⟩
          obtain ⟨A3, hA3⟩ : ∃ A3, strOfNums p3 = A3 := ⟨_, rfl⟩
          rw [hA1] at c1 HN1
          rw [hA2] at c2 HN2
          rw [hA3] at c3 HN3
          clear q1 q2 q3 q4 hA1 hA2 hA3 hmw4
          go_wp2_with fail
          refine (HN1.out _).mono ?_
          rintro e y1 ⟨n0, b0, rfl, hb0, hn0', lo0, hi0', hy1⟩
          have HQ0 := hide (And.intro hb0 hn0')
          have HY1 : Hid (Below (w.heap.size + 1 + 1) ((w.alloc (.cells #[.int .i64 0, .int .i64 0, .int .i64 0, .int .i64 0, .int .i64 0, .int .i64 0, .int .i64 0, .int .i64 0, .int .i64 0] 53)).alloc (.cells #[.int .i64 3, .int .i64 0, .int .i64 0, .int .i64 0, .int .i64 0, .int .i64 0, .int .i64 0, .int .i64 0, .int .i64 0] 53)) y1) := by show Below _ _ _; rw [← HZL.out]; exact hy1
          have HBW1 : Hid (Below w.heap.size w y1) := (below_alloc2 _ _ _).trans (HY1.out.mono (by omega))
          have hz1 : w.heap.size + 1 + 1 ≤ y1.heap.size := by have := HY1.out.size; rw [HZL.out] at this; exact this
          have d2 : y1.cell? ⟨b, 2, none⟩ = some (.string A2) := (bcell HBW1.out _ _ hbz).trans c2
          have hbz1 : b < y1.heap.size := by omega
          clear hb0 hn0' hy1
          go_wp2_with fail
          refine (HN2.out _).mono ?_
          rintro e y2 ⟨n1, b1, rfl, hb1, hn1', lo1, hi1', hy2⟩
          have HQ1 := hide (And.intro hb1 hn1')
          have HY2 : Hid (Below (w.heap.size + 1 + 1) ((w.alloc (.cells #[.int .i64 0, .int .i64 0, .int .i64 0, .int .i64 0, .int .i64 0, .int .i64 0, .int .i64 0, .int .i64 0, .int .i64 0] 53)).alloc (.cells #[.int .i64 3, .int .i64 0, .int .i64 0, .int .i64 0, .int .i64 0, .int .i64 0, .int .i64 0, .int .i64 0, .int .i64 0] 53)) y2) := HY1.out.trans (hy2.mono hz1)
          have HBW2 : Hid (Below w.heap.size w y2) := (below_alloc2 _ _ _).trans (HY2.out.mono (by omega))
          have hz2 : w.heap.size + 1 + 1 ≤ y2.heap.size := by have := HY2.out.size; rw [HZL.out] at this; exact this
          have d3 : y2.cell? ⟨b, 3, none⟩ = some (.string A3) := (bcell HBW2.out _ _ hbz).trans c3
          have hbz2 : b < y2.heap.size := by omega
          clear hb1 hn1' hy2 d2
          go_wp2_with fail
          refine (HN3.out _).mono ?_
          rintro e y ⟨n2, b2, rfl, hb2, hn2', lo2, hi2', hy3⟩
          have HQ2 := hide (And.intro hb2 hn2')
          have HY : Hid (Below (w.heap.size + 1 + 1) ((w.alloc (.cells #[.int .i64 0, .int .i64 0, .int .i64 0, .int .i64 0, .int .i64 0, .int .i64 0, .int .i64 0, .int .i64 0, .int .i64 0] 53)).alloc (.cells #[.int .i64 3, .int .i64 0, .int .i64 0, .int .i64 0, .int .i64 0, .int .i64 0, .int .i64 0, .int .i64 0, .int .i64 0] 53)) y) := HY2.out.trans (hy3.mono hz2)
          have HBL : Hid (Below w.heap.size w y) := (below_alloc2 _ _ _).trans (HY.out.mono (by omega))
          have HRB0 : Hid (y.heap[w.heap.size]? = some (.cells #[.int .i64 0, .int .i64 0, .int .i64 0, .int .i64 0, .int .i64 0, .int .i64 0, .int .i64 0, .int .i64 0, .int .i64 0] 53 (0, 0))) := two_first HY.out
          have HSB0 : Hid (y.heap[w.heap.size + 1]? = some (.cells #[.int .i64 3, .int .i64 0, .int .i64 0, .int .i64 0, .int .i64 0, .int .i64 0, .int .i64 0, .int .i64 0, .int .i64 0] 53 (0, 0))) := two_second HY.out
          have hyz : w.heap.size + 1 < y.heap.size := (Array.getElem?_eq_some_iff.1 HSB0.out).1
          have uf5 : y.frozen? ⟨w.heap.size + 1, 5, none⟩ = false := by simp [World.frozen?, HSB0.out]
          have uf6 : y.frozen? ⟨w.heap.size + 1, 6, none⟩ = false := by simp [World.frozen?, HSB0.out]
          have uf7 : y.frozen? ⟨w.heap.size + 1, 7, none⟩ = false := by simp [World.frozen?, HSB0.out]
          clear hb2 hn2' hy3 d3

          have HRB : Hid ((((y.setCell ⟨w.heap.size + 1, 5, none⟩ (.int .i64 n0)).setCell ⟨w.heap.size + 1, 6, none⟩ (.int .i64 n1)).setCell ⟨w.heap.size + 1, 7, none⟩ (.int .i64 n2)).heap[w.heap.size]? = some (.cells #[.int .i64 0, .int .i64 0, .int .i64 0, .int .i64 0, .int .i64 0, .int .i64 0, .int .i64 0, .int .i64 0, .int .i64 0] 53 (0, 0))) := by
            show _ = _
            rw [Below.heap_setCell _ _ _ _ (show w.heap.size ≠ w.heap.size + 1 by omega), Below.heap_setCell _ _ _ _ (show w.heap.size ≠ w.heap.size + 1 by omega), Below.heap_setCell _ _ _ _ (show w.heap.size ≠ w.heap.size + 1 by omega)]; exact HRB0.out
          have HBL2 : Hid (Below w.heap.size w (((y.setCell ⟨w.heap.size + 1, 5, none⟩ (.int .i64 n0)).setCell ⟨w.heap.size + 1, 6, none⟩ (.int .i64 n1)).setCell ⟨w.heap.size + 1, 7, none⟩ (.int .i64 n2))) := ((HBL.out.setCell (by show w.heap.size ≤ w.heap.size + 1; omega) _).setCell (by show w.heap.size ≤ w.heap.size + 1; omega) _).setCell (by show w.heap.size ≤ w.heap.size + 1; omega) _
          have HOK : Hid (∀ ok, ok = (b0 && b1 && b2) → ok = (stO ws).isSome ∧ ∀ r, stO ws = some r → (⟨3, 0, 0, 0, 0, n0, n1, n2, 0⟩ : St) = r) := fun ok hok => st_fin3 HST.out HQ0.out.1 HQ0.out.2 HQ1.out.1 HQ1.out.2 HQ2.out.1 HQ2.out.2 hok
          clear HST HQ0 HQ1 HQ2
          cases b0 with
          | false =>
            have HOQ : Hid (false = (false && b1 && b2)) := rfl
            have k0 : y.cell? ⟨w.heap.size, 0, none⟩ = some (.int .i64 0) := by rw [cell_of_block HRB0.out]; rfl
            have f0 : y.frozen? ⟨w.heap.size, 0, none⟩ = false := by simp [World.frozen?, HRB0.out]
            have v0 : y.cell? ⟨w.heap.size + 1, 0, none⟩ = some (.int .i64 3) := by rw [cell_of_block HSB0.out]; rfl
            have k1 : y.cell? ⟨w.heap.size, 1, none⟩ = some (.int .i64 0) := by rw [cell_of_block HRB0.out]; rfl
            have f1 : y.frozen? ⟨w.heap.size, 1, none⟩ = false := by simp [World.frozen?, HRB0.out]
            have v1 : y.cell? ⟨w.heap.size + 1, 1, none⟩ = some (.int .i64 0) := by rw [cell_of_block HSB0.out]; rfl
            have k2 : y.cell? ⟨w.heap.size, 2, none⟩ = some (.int .i64 0) := by rw [cell_of_block HRB0.out]; rfl
            have f2 : y.frozen? ⟨w.heap.size, 2, none⟩ = false := by simp [World.frozen?, HRB0.out]
            have v2 : y.cell? ⟨w.heap.size + 1, 2, none⟩ = some (.int .i64 0) := by rw [cell_of_block HSB0.out]; rfl
            have k3 : y.cell? ⟨w.heap.size, 3, none⟩ = some (.int .i64 0) := by rw [cell_of_block HRB0.out]; rfl
            have f3 : y.frozen? ⟨w.heap.size, 3, none⟩ = false := by simp [World.frozen?, HRB0.out]
            have v3 : y.cell? ⟨w.heap.size + 1, 3, none⟩ = some (.int .i64 0) := by rw [cell_of_block HSB0.out]; rfl
            have k4 : y.cell? ⟨w.heap.size, 4, none⟩ = some (.int .i64 0) := by rw [cell_of_block HRB0.out]; rfl
            have f4 : y.frozen? ⟨w.heap.size, 4, none⟩ = false := by simp [World.frozen?, HRB0.out]
            have v4 : y.cell? ⟨w.heap.size + 1, 4, none⟩ = some (.int .i64 0) := by rw [cell_of_block HSB0.out]; rfl
            have k5 : y.cell? ⟨w.heap.size, 5, none⟩ = some (.int .i64 0) := by rw [cell_of_block HRB0.out]; rfl
            have f5 : y.frozen? ⟨w.heap.size, 5, none⟩ = false := by simp [World.frozen?, HRB0.out]
            have v5 : y.cell? ⟨w.heap.size + 1, 5, none⟩ = some (.int .i64 0) := by rw [cell_of_block HSB0.out]; rfl
            have k6 : y.cell? ⟨w.heap.size, 6, none⟩ = some (.int .i64 0) := by rw [cell_of_block HRB0.out]; rfl
            have f6 : y.frozen? ⟨w.heap.size, 6, none⟩ = false := by simp [World.frozen?, HRB0.out]
            have v6 : y.cell? ⟨w.heap.size + 1, 6, none⟩ = some (.int .i64 0) := by rw [cell_of_block HSB0.out]; rfl
            have k7 : y.cell? ⟨w.heap.size, 7, none⟩ = some (.int .i64 0) := by rw [cell_of_block HRB0.out]; rfl
            have f7 : y.frozen? ⟨w.heap.size, 7, none⟩ = false := by simp [World.frozen?, HRB0.out]
            have v7 : y.cell? ⟨w.heap.size + 1, 7, none⟩ = some (.int .i64 0) := by rw [cell_of_block HSB0.out]; rfl
            have k8 : y.cell? ⟨w.heap.size, 8, none⟩ = some (.int .i64 0) := by rw [cell_of_block HRB0.out]; rfl
            have f8 : y.frozen? ⟨w.heap.size, 8, none⟩ = false := by simp [World.frozen?, HRB0.out]
            have v8 : y.cell? ⟨w.heap.size + 1, 8, none⟩ = some (.int .i64 0) := by rw [cell_of_block HSB0.out]; rfl
            have HTW := hide (nine_set (b0 := .int .i64 3) (b1 := .int .i64 0) (b2 := .int .i64 0) (b3 := .int .i64 0) (b4 := .int .i64 0) (b5 := .int .i64 n0) (b6 := .int .i64 n1) (b7 := .int .i64 n2) (b8 := .int .i64 0) HRB.out)
            have HPP : Hid (StmtPost ws w (.returned (.tuple #[.agg #[.int .i64 3, .int .i64 0, .int .i64 0, .int .i64 0, .int .i64 0, .int .i64 n0, .int .i64 n1, .int .i64 n2, .int .i64 0], .bool false])) ((((((((((((y.setCell ⟨w.heap.size + 1, 5, none⟩ (.int .i64 n0)).setCell ⟨w.heap.size + 1, 6, none⟩ (.int .i64 n1)).setCell ⟨w.heap.size + 1, 7, none⟩ (.int .i64 n2)).setCell ⟨w.heap.size, 0, none⟩ (.int .i64 3)).setCell ⟨w.heap.size, 1, none⟩ (.int .i64 0)).setCell ⟨w.heap.size, 2, none⟩ (.int .i64 0)).setCell ⟨w.heap.size, 3, none⟩ (.int .i64 0)).setCell ⟨w.heap.size, 4, none⟩ (.int .i64 0)).setCell ⟨w.heap.size, 5, none⟩ (.int .i64 n0)).setCell ⟨w.heap.size, 6, none⟩ (.int .i64 n1)).setCell ⟨w.heap.size, 7, none⟩ (.int .i64 n2)).setCell ⟨w.heap.size, 8, none⟩ (.int .i64 0))) := ⟨_, _, rfl, (HOK.out _ HOQ.out).1, (HOK.out _ HOQ.out).2, ((((((((((HBL2.out.setCell (Nat.le_refl _) _).setCell (Nat.le_refl _) _).setCell (Nat.le_refl _) _).setCell (Nat.le_refl _) _).setCell (Nat.le_refl _) _).setCell (Nat.le_refl _) _).setCell (Nat.le_refl _) _).setCell (Nat.le_refl _) _).setCell (Nat.le_refl _) _))⟩
            go_wp2_with fail
            have s0 : ((((((((((((y.setCell ⟨w.heap.size + 1, 5, none⟩ (.int .i64 n0)).setCell ⟨w.heap.size + 1, 6, none⟩ (.int .i64 n1)).setCell ⟨w.heap.size + 1, 7, none⟩ (.int .i64 n2)).setCell ⟨w.heap.size, 0, none⟩ (.int .i64 3)).setCell ⟨w.heap.size, 1, none⟩ (.int .i64 0)).setCell ⟨w.heap.size, 2, none⟩ (.int .i64 0)).setCell ⟨w.heap.size, 3, none⟩ (.int .i64 0)).setCell ⟨w.heap.size, 4, none⟩ (.int .i64 0)).setCell ⟨w.heap.size, 5, none⟩ (.int .i64 n0)).setCell ⟨w.heap.size, 6, none⟩ (.int .i64 n1)).setCell ⟨w.heap.size, 7, none⟩ (.int .i64 n2)).setCell ⟨w.heap.size, 8, none⟩ (.int .i64 0)).cell? ⟨w.heap.size, 0, none⟩ = some (.int .i64 3) := by rw [cell_of_block HTW.out]; rfl
            have s1 : ((((((((((((y.setCell ⟨w.heap.size + 1, 5, none⟩ (.int .i64 n0)).setCell ⟨w.heap.size + 1, 6, none⟩ (.int .i64 n1)).setCell ⟨w.heap.size + 1, 7, none⟩ (.int .i64 n2)).setCell ⟨w.heap.size, 0, none⟩ (.int .i64 3)).setCell ⟨w.heap.size, 1, none⟩ (.int .i64 0)).setCell ⟨w.heap.size, 2, none⟩ (.int .i64 0)).setCell ⟨w.heap.size, 3, none⟩ (.int .i64 0)).setCell ⟨w.heap.size, 4, none⟩ (.int .i64 0)).setCell ⟨w.heap.size, 5, none⟩ (.int .i64 n0)).setCell ⟨w.heap.size, 6, none⟩ (.int .i64 n1)).setCell ⟨w.heap.size, 7, none⟩ (.int .i64 n2)).setCell ⟨w.heap.size, 8, none⟩ (.int .i64 0)).cell? ⟨w.heap.size, 1, none⟩ = some (.int .i64 0) := by rw [cell_of_block HTW.out]; rfl
            have s2 : ((((((((((((y.setCell ⟨w.heap.size + 1, 5, none⟩ (.int .i64 n0)).setCell ⟨w.heap.size + 1, 6, none⟩ (.int .i64 n1)).setCell ⟨w.heap.size + 1, 7, none⟩ (.int .i64 n2)).setCell ⟨w.heap.size, 0, none⟩ (.int .i64 3)).setCell ⟨w.heap.size, 1, none⟩ (.int .i64 0)).setCell ⟨w.heap.size, 2, none⟩ (.int .i64 0)).setCell ⟨w.heap.size, 3, none⟩ (.int .i64 0)).setCell ⟨w.heap.size, 4, none⟩ (.int .i64 0)).setCell ⟨w.heap.size, 5, none⟩ (.int .i64 n0)).setCell ⟨w.heap.size, 6, none⟩ (.int .i64 n1)).setCell ⟨w.heap.size, 7, none⟩ (.int .i64 n2)).setCell ⟨w.heap.size, 8, none⟩ (.int .i64 0)).cell? ⟨w.heap.size, 2, none⟩ = some (.int .i64 0) := by rw [cell_of_block HTW.out]; rfl
            have s3 : ((((((((((((y.setCell ⟨w.heap.size + 1, 5, none⟩ (.int .i64 n0)).setCell ⟨w.heap.size + 1, 6, none⟩ (.int .i64 n1)).setCell ⟨w.heap.size + 1, 7, none⟩ (.int .i64 n2)).setCell ⟨w.heap.size, 0, none⟩ (.int .i64 3)).setCell ⟨w.heap.size, 1, none⟩ (.int .i64 0)).setCell ⟨w.heap.size, 2, none⟩ (.int .i64 0)).setCell ⟨w.heap.size, 3, none⟩ (.int .i64 0)).setCell ⟨w.heap.size, 4, none⟩ (.int .i64 0)).setCell ⟨w.heap.size, 5, none⟩ (.int .i64 n0)).setCell ⟨w.heap.size, 6, none⟩ (.int .i64 n1)).setCell ⟨w.heap.size, 7, none⟩ (.int .i64 n2)).setCell ⟨w.heap.size, 8, none⟩ (.int .i64 0)).cell? ⟨w.heap.size, 3, none⟩ = some (.int .i64 0) := by rw [cell_of_block HTW.out]; rfl
            have s4 : ((((((((((((y.setCell ⟨w.heap.size + 1, 5, none⟩ (.int .i64 n0)).setCell ⟨w.heap.size + 1, 6, none⟩ (.int .i64 n1)).setCell ⟨w.heap.size + 1, 7, none⟩ (.int .i64 n2)).setCell ⟨w.heap.size, 0, none⟩ (.int .i64 3)).setCell ⟨w.heap.size, 1, none⟩ (.int .i64 0)).setCell ⟨w.heap.size, 2, none⟩ (.int .i64 0)).setCell ⟨w.heap.size, 3, none⟩ (.int .i64 0)).setCell ⟨w.heap.size, 4, none⟩ (.int .i64 0)).setCell ⟨w.heap.size, 5, none⟩ (.int .i64 n0)).setCell ⟨w.heap.size, 6, none⟩ (.int .i64 n1)).setCell ⟨w.heap.size, 7, none⟩ (.int .i64 n2)).setCell ⟨w.heap.size, 8, none⟩ (.int .i64 0)).cell? ⟨w.heap.size, 4, none⟩ = some (.int .i64 0) := by rw [cell_of_block HTW.out]; rfl
            have s5 : ((((((((((((y.setCell ⟨w.heap.size + 1, 5, none⟩ (.int .i64 n0)).setCell ⟨w.heap.size + 1, 6, none⟩ (.int .i64 n1)).setCell ⟨w.heap.size + 1, 7, none⟩ (.int .i64 n2)).setCell ⟨w.heap.size, 0, none⟩ (.int .i64 3)).setCell ⟨w.heap.size, 1, none⟩ (.int .i64 0)).setCell ⟨w.heap.size, 2, none⟩ (.int .i64 0)).setCell ⟨w.heap.size, 3, none⟩ (.int .i64 0)).setCell ⟨w.heap.size, 4, none⟩ (.int .i64 0)).setCell ⟨w.heap.size, 5, none⟩ (.int .i64 n0)).setCell ⟨w.heap.size, 6, none⟩ (.int .i64 n1)).setCell ⟨w.heap.size, 7, none⟩ (.int .i64 n2)).setCell ⟨w.heap.size, 8, none⟩ (.int .i64 0)).cell? ⟨w.heap.size, 5, none⟩ = some (.int .i64 n0) := by rw [cell_of_block HTW.out]; rfl
            have s6 : ((((((((((((y.setCell ⟨w.heap.size + 1, 5, none⟩ (.int .i64 n0)).setCell ⟨w.heap.size + 1, 6, none⟩ (.int .i64 n1)).setCell ⟨w.heap.size + 1, 7, none⟩ (.int .i64 n2)).setCell ⟨w.heap.size, 0, none⟩ (.int .i64 3)).setCell ⟨w.heap.size, 1, none⟩ (.int .i64 0)).setCell ⟨w.heap.size, 2, none⟩ (.int .i64 0)).setCell ⟨w.heap.size, 3, none⟩ (.int .i64 0)).setCell ⟨w.heap.size, 4, none⟩ (.int .i64 0)).setCell ⟨w.heap.size, 5, none⟩ (.int .i64 n0)).setCell ⟨w.heap.size, 6, none⟩ (.int .i64 n1)).setCell ⟨w.heap.size, 7, none⟩ (.int .i64 n2)).setCell ⟨w.heap.size, 8, none⟩ (.int .i64 0)).cell? ⟨w.heap.size, 6, none⟩ = some (.int .i64 n1) := by rw [cell_of_block HTW.out]; rfl
            have s7 : ((((((((((((y.setCell ⟨w.heap.size + 1, 5, none⟩ (.int .i64 n0)).setCell ⟨w.heap.size + 1, 6, none⟩ (.int .i64 n1)).setCell ⟨w.heap.size + 1, 7, none⟩ (.int .i64 n2)).setCell ⟨w.heap.size, 0, none⟩ (.int .i64 3)).setCell ⟨w.heap.size, 1, none⟩ (.int .i64 0)).setCell ⟨w.heap.size, 2, none⟩ (.int .i64 0)).setCell ⟨w.heap.size, 3, none⟩ (.int .i64 0)).setCell ⟨w.heap.size, 4, none⟩ (.int .i64 0)).setCell ⟨w.heap.size, 5, none⟩ (.int .i64 n0)).setCell ⟨w.heap.size, 6, none⟩ (.int .i64 n1)).setCell ⟨w.heap.size, 7, none⟩ (.int .i64 n2)).setCell ⟨w.heap.size, 8, none⟩ (.int .i64 0)).cell? ⟨w.heap.size, 7, none⟩ = some (.int .i64 n2) := by rw [cell_of_block HTW.out]; rfl
            have s8 : ((((((((((((y.setCell ⟨w.heap.size + 1, 5, none⟩ (.int .i64 n0)).setCell ⟨w.heap.size + 1, 6, none⟩ (.int .i64 n1)).setCell ⟨w.heap.size + 1, 7, none⟩ (.int .i64 n2)).setCell ⟨w.heap.size, 0, none⟩ (.int .i64 3)).setCell ⟨w.heap.size, 1, none⟩ (.int .i64 0)).setCell ⟨w.heap.size, 2, none⟩ (.int .i64 0)).setCell ⟨w.heap.size, 3, none⟩ (.int .i64 0)).setCell ⟨w.heap.size, 4, none⟩ (.int .i64 0)).setCell ⟨w.heap.size, 5, none⟩ (.int .i64 n0)).setCell ⟨w.heap.size, 6, none⟩ (.int .i64 n1)).setCell ⟨w.heap.size, 7, none⟩ (.int .i64 n2)).setCell ⟨w.heap.size, 8, none⟩ (.int .i64 0)).cell? ⟨w.heap.size, 8, none⟩ = some (.int .i64 0) := by rw [cell_of_block HTW.out]; rfl
            exact bodyPost_ret (v := .tuple #[.agg #[.int .i64 3, .int .i64 0, .int .i64 0, .int .i64 0, .int .i64 0, .int .i64 n0, .int .i64 n1, .int .i64 n2, .int .i64 0], .bool false]) (by simp [results, Tryd.results31, go_sem, s0, s1, s2, s3, s4, s5, s6, s7, s8]) rfl HPP.out

          | true =>
            cases b1 with
            | false =>
              have HOQ : Hid (false = (true && false && b2)) := rfl
              have k0 : y.cell? ⟨w.heap.size, 0, none⟩ = some (.int .i64 0) := by rw [cell_of_block HRB0.out]; rfl
              have f0 : y.frozen? ⟨w.heap.size, 0, none⟩ = false := by simp [World.frozen?, HRB0.out]
              have v0 : y.cell? ⟨w.heap.size + 1, 0, none⟩ = some (.int .i64 3) := by rw [cell_of_block HSB0.out]; rfl
              have k1 : y.cell? ⟨w.heap.size, 1, none⟩ = some (.int .i64 0) := by rw [cell_of_block HRB0.out]; rfl
              have f1 : y.frozen? ⟨w.heap.size, 1, none⟩ = false := by simp [World.frozen?, HRB0.out]
              have v1 : y.cell? ⟨w.heap.size + 1, 1, none⟩ = some (.int .i64 0) := by rw [cell_of_block HSB0.out]; rfl
              have k2 : y.cell? ⟨w.heap.size, 2, none⟩ = some (.int .i64 0) := by rw [cell_of_block HRB0.out]; rfl
              have f2 : y.frozen? ⟨w.heap.size, 2, none⟩ = false := by simp [World.frozen?, HRB0.out]
              have v2 : y.cell? ⟨w.heap.size + 1, 2, none⟩ = some (.int .i64 0) := by rw [cell_of_block HSB0.out]; rfl
              have k3 : y.cell? ⟨w.heap.size, 3, none⟩ = some (.int .i64 0) := by rw [cell_of_block HRB0.out]; rfl
              have f3 : y.frozen? ⟨w.heap.size, 3, none⟩ = false := by simp [World.frozen?, HRB0.out]
              have v3 : y.cell? ⟨w.heap.size + 1, 3, none⟩ = some (.int .i64 0) := by rw [cell_of_block HSB0.out]; rfl
              have k4 : y.cell? ⟨w.heap.size, 4, none⟩ = some (.int .i64 0) := by rw [cell_of_block HRB0.out]; rfl
              have f4 : y.frozen? ⟨w.heap.size, 4, none⟩ = false := by simp [World.frozen?, HRB0.out]
              have v4 : y.cell? ⟨w.heap.size + 1, 4, none⟩ = some (.int .i64 0) := by rw [cell_of_block HSB0.out]; rfl
              have k5 : y.cell? ⟨w.heap.size, 5, none⟩ = some (.int .i64 0) := by rw [cell_of_block HRB0.out]; rfl
              have f5 : y.frozen? ⟨w.heap.size, 5, none⟩ = false := by simp [World.frozen?, HRB0.out]
              have v5 : y.cell? ⟨w.heap.size + 1, 5, none⟩ = some (.int .i64 0) := by rw [cell_of_block HSB0.out]; rfl
              have k6 : y.cell? ⟨w.heap.size, 6, none⟩ = some (.int .i64 0) := by rw [cell_of_block HRB0.out]; rfl
              have f6 : y.frozen? ⟨w.heap.size, 6, none⟩ = false := by simp [World.frozen?, HRB0.out]
              have v6 : y.cell? ⟨w.heap.size + 1, 6, none⟩ = some (.int .i64 0) := by rw [cell_of_block HSB0.out]; rfl
              have k7 : y.cell? ⟨w.heap.size, 7, none⟩ = some (.int .i64 0) := by rw [cell_of_block HRB0.out]; rfl
              have f7 : y.frozen? ⟨w.heap.size, 7, none⟩ = false := by simp [World.frozen?, HRB0.out]
              have v7 : y.cell? ⟨w.heap.size + 1, 7, none⟩ = some (.int .i64 0) := by rw [cell_of_block HSB0.out]; rfl
              have k8 : y.cell? ⟨w.heap.size, 8, none⟩ = some (.int .i64 0) := by rw [cell_of_block HRB0.out]; rfl
              have f8 : y.frozen? ⟨w.heap.size, 8, none⟩ = false := by simp [World.frozen?, HRB0.out]
              have v8 : y.cell? ⟨w.heap.size + 1, 8, none⟩ = some (.int .i64 0) := by rw [cell_of_block HSB0.out]; rfl
              have HTW := hide (nine_set (b0 := .int .i64 3) (b1 := .int .i64 0) (b2 := .int .i64 0) (b3 := .int .i64 0) (b4 := .int .i64 0) (b5 := .int .i64 n0) (b6 := .int .i64 n1) (b7 := .int .i64 n2) (b8 := .int .i64 0) HRB.out)
              have HPP : Hid (StmtPost ws w (.returned (.tuple #[.agg #[.int .i64 3, .int .i64 0, .int .i64 0, .int .i64 0, .int .i64 0, .int .i64 n0, .int .i64 n1, .int .i64 n2, .int .i64 0], .bool false])) ((((((((((((y.setCell ⟨w.heap.size + 1, 5, none⟩ (.int .i64 n0)).setCell ⟨w.heap.size + 1, 6, none⟩ (.int .i64 n1)).setCell ⟨w.heap.size + 1, 7, none⟩ (.int .i64 n2)).setCell ⟨w.heap.size, 0, none⟩ (.int .i64 3)).setCell ⟨w.heap.size, 1, none⟩ (.int .i64 0)).setCell ⟨w.heap.size, 2, none⟩ (.int .i64 0)).setCell ⟨w.heap.size, 3, none⟩ (.int .i64 0)).setCell ⟨w.heap.size, 4, none⟩ (.int .i64 0)).setCell ⟨w.heap.size, 5, none⟩ (.int .i64 n0)).setCell ⟨w.heap.size, 6, none⟩ (.int .i64 n1)).setCell ⟨w.heap.size, 7, none⟩ (.int .i64 n2)).setCell ⟨w.heap.size, 8, none⟩ (.int .i64 0))) := ⟨_, _, rfl, (HOK.out _ HOQ.out).1, (HOK.out _ HOQ.out).2, ((((((((((HBL2.out.setCell (Nat.le_refl _) _).setCell (Nat.le_refl _) _).setCell (Nat.le_refl _) _).setCell (Nat.le_refl _) _).setCell (Nat.le_refl _) _).setCell (Nat.le_refl _) _).setCell (Nat.le_refl _) _).setCell (Nat.le_refl _) _).setCell (Nat.le_refl _) _))⟩
              go_wp2_with fail
              have s0 : ((((((((((((y.setCell ⟨w.heap.size + 1, 5, none⟩ (.int .i64 n0)).setCell ⟨w.heap.size + 1, 6, none⟩ (.int .i64 n1)).setCell ⟨w.heap.size + 1, 7, none⟩ (.int .i64 n2)).setCell ⟨w.heap.size, 0, none⟩ (.int .i64 3)).setCell ⟨w.heap.size, 1, none⟩ (.int .i64 0)).setCell ⟨w.heap.size, 2, none⟩ (.int .i64 0)).setCell ⟨w.heap.size, 3, none⟩ (.int .i64 0)).setCell ⟨w.heap.size, 4, none⟩ (.int .i64 0)).setCell ⟨w.heap.size, 5, none⟩ (.int .i64 n0)).setCell ⟨w.heap.size, 6, none⟩ (.int .i64 n1)).setCell ⟨w.heap.size, 7, none⟩ (.int .i64 n2)).setCell ⟨w.heap.size, 8, none⟩ (.int .i64 0)).cell? ⟨w.heap.size, 0, none⟩ = some (.int .i64 3) := by rw [cell_of_block HTW.out]; rfl
              have s1 : ((((((((((((y.setCell ⟨w.heap.size + 1, 5, none⟩ (.int .i64 n0)).setCell ⟨w.heap.size + 1, 6, none⟩ (.int .i64 n1)).setCell ⟨w.heap.size + 1, 7, none⟩ (.int .i64 n2)).setCell ⟨w.heap.size, 0, none⟩ (.int .i64 3)).setCell ⟨w.heap.size, 1, none⟩ (.int .i64 0)).setCell ⟨w.heap.size, 2, none⟩ (.int .i64 0)).setCell ⟨w.heap.size, 3, none⟩ (.int .i64 0)).setCell ⟨w.heap.size, 4, none⟩ (.int .i64 0)).setCell ⟨w.heap.size, 5, none⟩ (.int .i64 n0)).setCell ⟨w.heap.size, 6, none⟩ (.int .i64 n1)).setCell ⟨w.heap.size, 7, none⟩ (.int .i64 n2)).setCell ⟨w.heap.size, 8, none⟩ (.int .i64 0)).cell? ⟨w.heap.size, 1, none⟩ = some (.int .i64 0) := by rw [cell_of_block HTW.out]; rfl
              have s2 : ((((((((((((y.setCell ⟨w.heap.size + 1, 5, none⟩ (.int .i64 n0)).setCell ⟨w.heap.size + 1, 6, none⟩ (.int .i64 n1)).setCell ⟨w.heap.size + 1, 7, none⟩ (.int .i64 n2)).setCell ⟨w.heap.size, 0, none⟩ (.int .i64 3)).setCell ⟨w.heap.size, 1, none⟩ (.int .i64 0)).setCell ⟨w.heap.size, 2, none⟩ (.int .i64 0)).setCell ⟨w.heap.size, 3, none⟩ (.int .i64 0)).setCell ⟨w.heap.size, 4, none⟩ (.int .i64 0)).setCell ⟨w.heap.size, 5, none⟩ (.int .i64 n0)).setCell ⟨w.heap.size, 6, none⟩ (.int .i64 n1)).setCell ⟨w.heap.size, 7, none⟩ (.int .i64 n2)).setCell ⟨w.heap.size, 8, none⟩ (.int .i64 0)).cell? ⟨w.heap.size, 2, none⟩ = some (.int .i64 0) := by rw [cell_of_block HTW.out]; rfl
              have s3 : ((((((((((((y.setCell ⟨w.heap.size + 1, 5, none⟩ (.int .i64 n0)).setCell ⟨w.heap.size + 1, 6, none⟩ (.int .i64 n1)).setCell ⟨w.heap.size + 1, 7, none⟩ (.int .i64 n2)).setCell ⟨w.heap.size, 0, none⟩ (.int .i64 3)).setCell ⟨w.heap.size, 1, none⟩ (.int .i64 0)).setCell ⟨w.heap.size, 2, none⟩ (.int .i64 0)).setCell ⟨w.heap.size, 3, none⟩ (.int .i64 0)).setCell ⟨w.heap.size, 4, none⟩ (.int .i64 0)).setCell ⟨w.heap.size, 5, none⟩ (.int .i64 n0)).setCell ⟨w.heap.size, 6, none⟩ (.int .i64 n1)).setCell ⟨w.heap.size, 7, none⟩ (.int .i64 n2)).setCell ⟨w.heap.size, 8, none⟩ (.int .i64 0)).cell? ⟨w.heap.size, 3, none⟩ = some (.int .i64 0) := by rw [cell_of_block HTW.out]; rfl
              have s4 : ((((((((((((y.setCell ⟨w.heap.size + 1, 5, none⟩ (.int .i64 n0)).setCell ⟨w.heap.size + 1, 6, none⟩ (.int .i64 n1)).setCell ⟨w.heap.size + 1, 7, none⟩ (.int .i64 n2)).setCell ⟨w.heap.size, 0, none⟩ (.int .i64 3)).setCell ⟨w.heap.size, 1, none⟩ (.int .i64 0)).setCell ⟨w.heap.size, 2, none⟩ (.int .i64 0)).setCell ⟨w.heap.size, 3, none⟩ (.int .i64 0)).setCell ⟨w.heap.size, 4, none⟩ (.int .i64 0)).setCell ⟨w.heap.size, 5, none⟩ (.int .i64 n0)).setCell ⟨w.heap.size, 6, none⟩ (.int .i64 n1)).setCell ⟨w.heap.size, 7, none⟩ (.int .i64 n2)).setCell ⟨w.heap.size, 8, none⟩ (.int .i64 0)).cell? ⟨w.heap.size, 4, none⟩ = some (.int .i64 0) := by rw [cell_of_block HTW.out]; rfl
              have s5 : ((((((((((((y.setCell ⟨w.heap.size + 1, 5, none⟩ (.int .i64 n0)).setCell ⟨w.heap.size + 1, 6, none⟩ (.int .i64 n1)).setCell ⟨w.heap.size + 1, 7, none⟩ (.int .i64 n2)).setCell ⟨w.heap.size, 0, none⟩ (.int .i64 3)).setCell ⟨w.heap.size, 1, none⟩ (.int .i64 0)).setCell ⟨w.heap.size, 2, none⟩ (.int .i64 0)).setCell ⟨w.heap.size, 3, none⟩ (.int .i64 0)).setCell ⟨w.heap.size, 4, none⟩ (.int .i64 0)).setCell ⟨w.heap.size, 5, none⟩ (.int .i64 n0)).setCell ⟨w.heap.size, 6, none⟩ (.int .i64 n1)).setCell ⟨w.heap.size, 7, none⟩ (.int .i64 n2)).setCell ⟨w.heap.size, 8, none⟩ (.int .i64 0)).cell? ⟨w.heap.size, 5, none⟩ = some (.int .i64 n0) := by rw [cell_of_block HTW.out]; rfl
              have s6 : ((((((((((((y.setCell ⟨w.heap.size + 1, 5, none⟩ (.int .i64 n0)).setCell ⟨w.heap.size + 1, 6, none⟩ (.int .i64 n1)).setCell ⟨w.heap.size + 1, 7, none⟩ (.int .i64 n2)).setCell ⟨w.heap.size, 0, none⟩ (.int .i64 3)).setCell ⟨w.heap.size, 1, none⟩ (.int .i64 0)).setCell ⟨w.heap.size, 2, none⟩ (.int .i64 0)).setCell ⟨w.heap.size, 3, none⟩ (.int .i64 0)).setCell ⟨w.heap.size, 4, none⟩ (.int .i64 0)).setCell ⟨w.heap.size, 5, none⟩ (.int .i64 n0)).setCell ⟨w.heap.size, 6, none⟩ (.int .i64 n1)).setCell ⟨w.heap.size, 7, none⟩ (.int .i64 n2)).setCell ⟨w.heap.size, 8, none⟩ (.int .i64 0)).cell? ⟨w.heap.size, 6, none⟩ = some (.int .i64 n1) := by rw [cell_of_block HTW.out]; rfl
              have s7 : ((((((((((((y.setCell ⟨w.heap.size + 1, 5, none⟩ (.int .i64 n0)).setCell ⟨w.heap.size + 1, 6, none⟩ (.int .i64 n1)).setCell ⟨w.heap.size + 1, 7, none⟩ (.int .i64 n2)).setCell ⟨w.heap.size, 0, none⟩ (.int .i64 3)).setCell ⟨w.heap.size, 1, none⟩ (.int .i64 0)).setCell ⟨w.heap.size, 2, none⟩ (.int .i64 0)).setCell ⟨w.heap.size, 3, none⟩ (.int .i64 0)).setCell ⟨w.heap.size, 4, none⟩ (.int .i64 0)).setCell ⟨w.heap.size, 5, none⟩ (.int .i64 n0)).setCell ⟨w.heap.size, 6, none⟩ (.int .i64 n1)).setCell ⟨w.heap.size, 7, none⟩ (.int .i64 n2)).setCell ⟨w.heap.size, 8, none⟩ (.int .i64 0)).cell? ⟨w.heap.size, 7, none⟩ = some (.int .i64 n2) := by rw [cell_of_block HTW.out]; rfl
              have s8 : ((((((((((((y.setCell ⟨w.heap.size + 1, 5, none⟩ (.int .i64 n0)).setCell ⟨w.heap.size + 1, 6, none⟩ (.int .i64 n1)).setCell ⟨w.heap.size + 1, 7, none⟩ (.int .i64 n2)).setCell ⟨w.heap.size, 0, none⟩ (.int .i64 3)).setCell ⟨w.heap.size, 1, none⟩ (.int .i64 0)).setCell ⟨w.heap.size, 2, none⟩ (.int .i64 0)).setCell ⟨w.heap.size, 3, none⟩ (.int .i64 0)).setCell ⟨w.heap.size, 4, none⟩ (.int .i64 0)).setCell ⟨w.heap.size, 5, none⟩ (.int .i64 n0)).setCell ⟨w.heap.size, 6, none⟩ (.int .i64 n1)).setCell ⟨w.heap.size, 7, none⟩ (.int .i64 n2)).setCell ⟨w.heap.size, 8, none⟩ (.int .i64 0)).cell? ⟨w.heap.size, 8, none⟩ = some (.int .i64 0) := by rw [cell_of_block HTW.out]; rfl
              exact bodyPost_ret (v := .tuple #[.agg #[.int .i64 3, .int .i64 0, .int .i64 0, .int .i64 0, .int .i64 0, .int .i64 n0, .int .i64 n1, .int .i64 n2, .int .i64 0], .bool false]) (by simp [results, Tryd.results31, go_sem, s0, s1, s2, s3, s4, s5, s6, s7, s8]) rfl HPP.out

            | true =>
              have HOQ : Hid (b2 = (true && true && b2)) := rfl
              have k0 : y.cell? ⟨w.heap.size, 0, none⟩ = some (.int .i64 0) := by rw [cell_of_block HRB0.out]; rfl
              have f0 : y.frozen? ⟨w.heap.size, 0, none⟩ = false := by simp [World.frozen?, HRB0.out]
              have v0 : y.cell? ⟨w.heap.size + 1, 0, none⟩ = some (.int .i64 3) := by rw [cell_of_block HSB0.out]; rfl
              have k1 : y.cell? ⟨w.heap.size, 1, none⟩ = some (.int .i64 0) := by rw [cell_of_block HRB0.out]; rfl
              have f1 : y.frozen? ⟨w.heap.size, 1, none⟩ = false := by simp [World.frozen?, HRB0.out]
              have v1 : y.cell? ⟨w.heap.size + 1, 1, none⟩ = some (.int .i64 0) := by rw [cell_of_block HSB0.out]; rfl
              have k2 : y.cell? ⟨w.heap.size, 2, none⟩ = some (.int .i64 0) := by rw [cell_of_block HRB0.out]; rfl
              have f2 : y.frozen? ⟨w.heap.size, 2, none⟩ = false := by simp [World.frozen?, HRB0.out]
              have v2 : y.cell? ⟨w.heap.size + 1, 2, none⟩ = some (.int .i64 0) := by rw [cell_of_block HSB0.out]; rfl
              have k3 : y.cell? ⟨w.heap.size, 3, none⟩ = some (.int .i64 0) := by rw [cell_of_block HRB0.out]; rfl
              have f3 : y.frozen? ⟨w.heap.size, 3, none⟩ = false := by simp [World.frozen?, HRB0.out]
              have v3 : y.cell? ⟨w.heap.size + 1, 3, none⟩ = some (.int .i64 0) := by rw [cell_of_block HSB0.out]; rfl
              have k4 : y.cell? ⟨w.heap.size, 4, none⟩ = some (.int .i64 0) := by rw [cell_of_block HRB0.out]; rfl
              have f4 : y.frozen? ⟨w.heap.size, 4, none⟩ = false := by simp [World.frozen?, HRB0.out]
              have v4 : y.cell? ⟨w.heap.size + 1, 4, none⟩ = some (.int .i64 0) := by rw [cell_of_block HSB0.out]; rfl
              have k5 : y.cell? ⟨w.heap.size, 5, none⟩ = some (.int .i64 0) := by rw [cell_of_block HRB0.out]; rfl
              have f5 : y.frozen? ⟨w.heap.size, 5, none⟩ = false := by simp [World.frozen?, HRB0.out]
              have v5 : y.cell? ⟨w.heap.size + 1, 5, none⟩ = some (.int .i64 0) := by rw [cell_of_block HSB0.out]; rfl
              have k6 : y.cell? ⟨w.heap.size, 6, none⟩ = some (.int .i64 0) := by rw [cell_of_block HRB0.out]; rfl
              have f6 : y.frozen? ⟨w.heap.size, 6, none⟩ = false := by simp [World.frozen?, HRB0.out]
              have v6 : y.cell? ⟨w.heap.size + 1, 6, none⟩ = some (.int .i64 0) := by rw [cell_of_block HSB0.out]; rfl
              have k7 : y.cell? ⟨w.heap.size, 7, none⟩ = some (.int .i64 0) := by rw [cell_of_block HRB0.out]; rfl
              have f7 : y.frozen? ⟨w.heap.size, 7, none⟩ = false := by simp [World.frozen?, HRB0.out]
              have v7 : y.cell? ⟨w.heap.size + 1, 7, none⟩ = some (.int .i64 0) := by rw [cell_of_block HSB0.out]; rfl
              have k8 : y.cell? ⟨w.heap.size, 8, none⟩ = some (.int .i64 0) := by rw [cell_of_block HRB0.out]; rfl
              have f8 : y.frozen? ⟨w.heap.size, 8, none⟩ = false := by simp [World.frozen?, HRB0.out]
              have v8 : y.cell? ⟨w.heap.size + 1, 8, none⟩ = some (.int .i64 0) := by rw [cell_of_block HSB0.out]; rfl
              have HTW := hide (nine_set (b0 := .int .i64 3) (b1 := .int .i64 0) (b2 := .int .i64 0) (b3 := .int .i64 0) (b4 := .int .i64 0) (b5 := .int .i64 n0) (b6 := .int .i64 n1) (b7 := .int .i64 n2) (b8 := .int .i64 0) HRB.out)
              have HPP : Hid (StmtPost ws w (.returned (.tuple #[.agg #[.int .i64 3, .int .i64 0, .int .i64 0, .int .i64 0, .int .i64 0, .int .i64 n0, .int .i64 n1, .int .i64 n2, .int .i64 0], .bool b2])) ((((((((((((y.setCell ⟨w.heap.size + 1, 5, none⟩ (.int .i64 n0)).setCell ⟨w.heap.size + 1, 6, none⟩ (.int .i64 n1)).setCell ⟨w.heap.size + 1, 7, none⟩ (.int .i64 n2)).setCell ⟨w.heap.size, 0, none⟩ (.int .i64 3)).setCell ⟨w.heap.size, 1, none⟩ (.int .i64 0)).setCell ⟨w.heap.size, 2, none⟩ (.int .i64 0)).setCell ⟨w.heap.size, 3, none⟩ (.int .i64 0)).setCell ⟨w.heap.size, 4, none⟩ (.int .i64 0)).setCell ⟨w.heap.size, 5, none⟩ (.int .i64 n0)).setCell ⟨w.heap.size, 6, none⟩ (.int .i64 n1)).setCell ⟨w.heap.size, 7, none⟩ (.int .i64 n2)).setCell ⟨w.heap.size, 8, none⟩ (.int .i64 0))) := ⟨_, _, rfl, (HOK.out _ HOQ.out).1, (HOK.out _ HOQ.out).2, ((((((((((HBL2.out.setCell (Nat.le_refl _) _).setCell (Nat.le_refl _) _).setCell (Nat.le_refl _) _).setCell (Nat.le_refl _) _).setCell (Nat.le_refl _) _).setCell (Nat.le_refl _) _).setCell (Nat.le_refl _) _).setCell (Nat.le_refl _) _).setCell (Nat.le_refl _) _))⟩
              go_wp2_with fail
              have s0 : ((((((((((((y.setCell ⟨w.heap.size + 1, 5, none⟩ (.int .i64 n0)).setCell ⟨w.heap.size + 1, 6, none⟩ (.int .i64 n1)).setCell ⟨w.heap.size + 1, 7, none⟩ (.int .i64 n2)).setCell ⟨w.heap.size, 0, none⟩ (.int .i64 3)).setCell ⟨w.heap.size, 1, none⟩ (.int .i64 0)).setCell ⟨w.heap.size, 2, none⟩ (.int .i64 0)).setCell ⟨w.heap.size, 3, none⟩ (.int .i64 0)).setCell ⟨w.heap.size, 4, none⟩ (.int .i64 0)).setCell ⟨w.heap.size, 5, none⟩ (.int .i64 n0)).setCell ⟨w.heap.size, 6, none⟩ (.int .i64 n1)).setCell ⟨w.heap.size, 7, none⟩ (.int .i64 n2)).setCell ⟨w.heap.size, 8, none⟩ (.int .i64 0)).cell? ⟨w.heap.size, 0, none⟩ = some (.int .i64 3) := by rw [cell_of_block HTW.out]; rfl
              have s1 : ((((((((((((y.setCell ⟨w.heap.size + 1, 5, none⟩ (.int .i64 n0)).setCell ⟨w.heap.size + 1, 6, none⟩ (.int .i64 n1)).setCell ⟨w.heap.size + 1, 7, none⟩ (.int .i64 n2)).setCell ⟨w.heap.size, 0, none⟩ (.int .i64 3)).setCell ⟨w.heap.size, 1, none⟩ (.int .i64 0)).setCell ⟨w.heap.size, 2, none⟩ (.int .i64 0)).setCell ⟨w.heap.size, 3, none⟩ (.int .i64 0)).setCell ⟨w.heap.size, 4, none⟩ (.int .i64 0)).setCell ⟨w.heap.size, 5, none⟩ (.int .i64 n0)).setCell ⟨w.heap.size, 6, none⟩ (.int .i64 n1)).setCell ⟨w.heap.size, 7, none⟩ (.int .i64 n2)).setCell ⟨w.heap.size, 8, none⟩ (.int .i64 0)).cell? ⟨w.heap.size, 1, none⟩ = some (.int .i64 0) := by rw [cell_of_block HTW.out]; rfl
              have s2 : ((((((((((((y.setCell ⟨w.heap.size + 1, 5, none⟩ (.int .i64 n0)).setCell ⟨w.heap.size + 1, 6, none⟩ (.int .i64 n1)).setCell ⟨w.heap.size + 1, 7, none⟩ (.int .i64 n2)).setCell ⟨w.heap.size, 0, none⟩ (.int .i64 3)).setCell ⟨w.heap.size, 1, none⟩ (.int .i64 0)).setCell ⟨w.heap.size, 2, none⟩ (.int .i64 0)).setCell ⟨w.heap.size, 3, none⟩ (.int .i64 0)).setCell ⟨w.heap.size, 4, none⟩ (.int .i64 0)).setCell ⟨w.heap.size, 5, none⟩ (.int .i64 n0)).setCell ⟨w.heap.size, 6, none⟩ (.int .i64 n1)).setCell ⟨w.heap.size, 7, none⟩ (.int .i64 n2)).setCell ⟨w.heap.size, 8, none⟩ (.int .i64 0)).cell? ⟨w.heap.size, 2, none⟩ = some (.int .i64 0) := by rw [cell_of_block HTW.out]; rfl
              have s3 : ((((((((((((y.setCell ⟨w.heap.size + 1, 5, none⟩ (.int .i64 n0)).setCell ⟨w.heap.size + 1, 6, none⟩ (.int .i64 n1)).setCell ⟨w.heap.size + 1, 7, none⟩ (.int .i64 n2)).setCell ⟨w.heap.size, 0, none⟩ (.int .i64 3)).setCell ⟨w.heap.size, 1, none⟩ (.int .i64 0)).setCell ⟨w.heap.size, 2, none⟩ (.int .i64 0)).setCell ⟨w.heap.size, 3, none⟩ (.int .i64 0)).setCell ⟨w.heap.size, 4, none⟩ (.int .i64 0)).setCell ⟨w.heap.size, 5, none⟩ (.int .i64 n0)).setCell ⟨w.heap.size, 6, none⟩ (.int .i64 n1)).setCell ⟨w.heap.size, 7, none⟩ (.int .i64 n2)).setCell ⟨w.heap.size, 8, none⟩ (.int .i64 0)).cell? ⟨w.heap.size, 3, none⟩ = some (.int .i64 0) := by rw [cell_of_block HTW.out]; rfl
              have s4 : ((((((((((((y.setCell ⟨w.heap.size + 1, 5, none⟩ (.int .i64 n0)).setCell ⟨w.heap.size + 1, 6, none⟩ (.int .i64 n1)).setCell ⟨w.heap.size + 1, 7, none⟩ (.int .i64 n2)).setCell ⟨w.heap.size, 0, none⟩ (.int .i64 3)).setCell ⟨w.heap.size, 1, none⟩ (.int .i64 0)).setCell ⟨w.heap.size, 2, none⟩ (.int .i64 0)).setCell ⟨w.heap.size, 3, none⟩ (.int .i64 0)).setCell ⟨w.heap.size, 4, none⟩ (.int .i64 0)).setCell ⟨w.heap.size, 5, none⟩ (.int .i64 n0)).setCell ⟨w.heap.size, 6, none⟩ (.int .i64 n1)).setCell ⟨w.heap.size, 7, none⟩ (.int .i64 n2)).setCell ⟨w.heap.size, 8, none⟩ (.int .i64 0)).cell? ⟨w.heap.size, 4, none⟩ = some (.int .i64 0) := by rw [cell_of_block HTW.out]; rfl
              have s5 : ((((((((((((y.setCell ⟨w.heap.size + 1, 5, none⟩ (.int .i64 n0)).setCell ⟨w.heap.size + 1, 6, none⟩ (.int .i64 n1)).setCell ⟨w.heap.size + 1, 7, none⟩ (.int .i64 n2)).setCell ⟨w.heap.size, 0, none⟩ (.int .i64 3)).setCell ⟨w.heap.size, 1, none⟩ (.int .i64 0)).setCell ⟨w.heap.size, 2, none⟩ (.int .i64 0)).setCell ⟨w.heap.size, 3, none⟩ (.int .i64 0)).setCell ⟨w.heap.size, 4, none⟩ (.int .i64 0)).setCell ⟨w.heap.size, 5, none⟩ (.int .i64 n0)).setCell ⟨w.heap.size, 6, none⟩ (.int .i64 n1)).setCell ⟨w.heap.size, 7, none⟩ (.int .i64 n2)).setCell ⟨w.heap.size, 8, none⟩ (.int .i64 0)).cell? ⟨w.heap.size, 5, none⟩ = some (.int .i64 n0) := by rw [cell_of_block HTW.out]; rfl
              have s6 : ((((((((((((y.setCell ⟨w.heap.size + 1, 5, none⟩ (.int .i64 n0)).setCell ⟨w.heap.size + 1, 6, none⟩ (.int .i64 n1)).setCell ⟨w.heap.size + 1, 7, none⟩ (.int .i64 n2)).setCell ⟨w.heap.size, 0, none⟩ (.int .i64 3)).setCell ⟨w.heap.size, 1, none⟩ (.int .i64 0)).setCell ⟨w.heap.size, 2, none⟩ (.int .i64 0)).setCell ⟨w.heap.size, 3, none⟩ (.int .i64 0)).setCell ⟨w.heap.size, 4, none⟩ (.int .i64 0)).setCell ⟨w.heap.size, 5, none⟩ (.int .i64 n0)).setCell ⟨w.heap.size, 6, none⟩ (.int .i64 n1)).setCell ⟨w.heap.size, 7, none⟩ (.int .i64 n2)).setCell ⟨w.heap.size, 8, none⟩ (.int .i64 0)).cell? ⟨w.heap.size, 6, none⟩ = some (.int .i64 n1) := by rw [cell_of_block HTW.out]; rfl
              have s7 : ((((((((((((y.setCell ⟨w.heap.size + 1, 5, none⟩ (.int .i64 n0)).setCell ⟨w.heap.size + 1, 6, none⟩ (.int .i64 n1)).setCell ⟨w.heap.size + 1, 7, none⟩ (.int .i64 n2)).setCell ⟨w.heap.size, 0, none⟩ (.int .i64 3)).setCell ⟨w.heap.size, 1, none⟩ (.int .i64 0)).setCell ⟨w.heap.size, 2, none⟩ (.int .i64 0)).setCell ⟨w.heap.size, 3, none⟩ (.int .i64 0)).setCell ⟨w.heap.size, 4, none⟩ (.int .i64 0)).setCell ⟨w.heap.size, 5, none⟩ (.int .i64 n0)).setCell ⟨w.heap.size, 6, none⟩ (.int .i64 n1)).setCell ⟨w.heap.size, 7, none⟩ (.int .i64 n2)).setCell ⟨w.heap.size, 8, none⟩ (.int .i64 0)).cell? ⟨w.heap.size, 7, none⟩ = some (.int .i64 n2) := by rw [cell_of_block HTW.out]; rfl
              have s8 : ((((((((((((y.setCell ⟨w.heap.size + 1, 5, none⟩ (.int .i64 n0)).setCell ⟨w.heap.size + 1, 6, none⟩ (.int .i64 n1)).setCell ⟨w.heap.size + 1, 7, none⟩ (.int .i64 n2)).setCell ⟨w.heap.size, 0, none⟩ (.int .i64 3)).setCell ⟨w.heap.size, 1, none⟩ (.int .i64 0)).setCell ⟨w.heap.size, 2, none⟩ (.int .i64 0)).setCell ⟨w.heap.size, 3, none⟩ (.int .i64 0)).setCell ⟨w.heap.size, 4, none⟩ (.int .i64 0)).setCell ⟨w.heap.size, 5, none⟩ (.int .i64 n0)).setCell ⟨w.heap.size, 6, none⟩ (.int .i64 n1)).setCell ⟨w.heap.size, 7, none⟩ (.int .i64 n2)).setCell ⟨w.heap.size, 8, none⟩ (.int .i64 0)).cell? ⟨w.heap.size, 8, none⟩ = some (.int .i64 0) := by rw [cell_of_block HTW.out]; rfl
              exact bodyPost_ret (v := .tuple #[.agg #[.int .i64 3, .int .i64 0, .int .i64 0, .int .i64 0, .int .i64 0, .int .i64 n0, .int .i64 n1, .int .i64 n2, .int .i64 0], .bool b2]) (by simp [results, Tryd.results31, go_sem, s0, s1, s2, s3, s4, s5, s6, s7, s8]) rfl HPP.out

        · have hmi3 : ¬ (m : Int) = 3 := by omega
          have hmb3 : ((m : Int) == 3) = false := beq_false_of_ne hmi3
          have HNO := hide (st_bad (ws := ws) m (by omega) (fun hq => absurd (q3.symm.trans (HW0.out.symm.trans hq)) (by decide)) (fun hq => absurd (q3.symm.trans (HW0.out.symm.trans hq)) (by decide)) (fun _ => hmw4) (fun hq => absurd (q3.symm.trans (HW0.out.symm.trans hq)) (by decide)) (fun _ i _ hq => (op_ne _).2.2.1 (hq.trans (HW0.out.trans q3))))
          clear q1 q2 q3 q4 hmw4
          have HPP : Hid (StmtPost ws w (.returned (.tuple #[.agg #[.int .i64 3, .int .i64 0, .int .i64 0, .int .i64 0, .int .i64 0, .int .i64 0, .int .i64 0, .int .i64 0, .int .i64 0], .bool false])) ((w.alloc (.cells #[.int .i64 3, .int .i64 0, .int .i64 0, .int .i64 0, .int .i64 0, .int .i64 0, .int .i64 0, .int .i64 0, .int .i64 0] 53)).alloc (.cells #[.int .i64 3, .int .i64 0, .int .i64 0, .int .i64 0, .int .i64 0, .int .i64 0, .int .i64 0, .int .i64 0, .int .i64 0] 53))) := stmt_no (s := ⟨3, 0, 0, 0, 0, 0, 0, 0, 0⟩) HNO.out (below_alloc2 _ _ _)
          go_wp2_with fail
          exact bodyPost_ret (v := .tuple #[.agg #[.int .i64 3, .int .i64 0, .int .i64 0, .int .i64 0, .int .i64 0, .int .i64 0, .int .i64 0, .int .i64 0, .int .i64 0], .bool false]) (by simp [results, Tryd.results31, go_sem]) rfl HPP.out

      · rw [decide_eq_false q3] at e3
        by_cases q4 : w0 = storeW
        · rw [decide_eq_true q4] at e4
          by_cases hmw4 : m = 4
          · have hmi3 : (m : Int) = 4 := by omega
            have HST := hide (st_store (ws := ws) (by omega) (HW0.out.trans q4))
            have c4 := HCE.out 4 (by omega)
            have hi4 : (4 : Int) < (n : Int) := by omega
            have HRD := hide (fun W => reads_any (ws.getD 4 []) W (hsb 4) (hl 4))
            generalize ws.getD 4 [] = p4 at *
            obtain ⟨A4, hA4⟩ : ∃ A4, strOfNums p4 = A4 := ⟨_, rfl⟩
            rw [hA4] at c4 HRD
            have c1 := HCE.out 1 (by omega)
            have c2 := HCE.out 2 (by omega)
            have c3 := HCE.out 3 (by omega)
            have hi1 : (1 : Int) < (n : Int) := by omega
            have hi2 : (2 : Int) < (n : Int) := by omega
            have hi3 : (3 : Int) < (n : Int) := by omega
            have HN1 := hide (fun W => number_any14 (ws.getD 1 []) 18 W (hsb 1) (hl 1) (by omega))
            have HN2 := hide (fun W => number_any14 (ws.getD 2 []) 18 W (hsb 2) (hl 2) (by omega))
            have HN3 := hide (fun W => number_any14 (ws.getD 3 []) 18 W (hsb 3) (hl 3) (by omega))
            generalize ws.getD 1 [] = p1 at *
            generalize ws.getD 2 [] = p2 at *
            generalize ws.getD 3 [] = p3 at *
            obtain ⟨A1, hA1⟩ : ∃ A1, strOfNums p1 = A1 := ⟨_, rfl⟩
            obtain ⟨A2, hA2⟩ : ∃ A2, strOfNums p2 = A2 := ⟨_, rfl⟩
            obtain ⟨A3, hA3⟩ : ∃ A3, strOfNums p3 = A3 := ⟨_, rfl⟩
            rw [hA1] at c1 HN1
            rw [hA2] at c2 HN2
            rw [hA3] at c3 HN3
            clear q1 q2 q3 q4 hA1 hA2 hA3 hA4 hmw4
            go_wp2_with fail
            refine (HN1.out _).mono ?_
            rintro e y1 ⟨n0, b0, rfl, hb0, hn0', lo0, hi0', hy1⟩
            have HQ0 := hide (And.intro hb0 hn0')
            have HY1 : Hid (Below (w.heap.size + 1 + 1) ((w.alloc (.cells #[.int .i64 0, .int .i64 0, .int .i64 0, .int .i64 0, .int .i64 0, .int .i64 0, .int .i64 0, .int .i64 0, .int .i64 0] 53)).alloc (.cells #[.int .i64 4, .int .i64 0, .int .i64 0, .int .i64 0, .int .i64 0, .int .i64 0, .int .i64 0, .int .i64 0, .int .i64 0] 53)) y1) := by show Below _ _ _; rw [← HZS.out]; exact hy1
            have HBW1 : Hid (Below w.heap.size w y1) := (below_alloc2 _ _ _).trans (HY1.out.mono (by omega))
            have hz1 : w.heap.size + 1 + 1 ≤ y1.heap.size := by have := HY1.out.size; rw [HZS.out] at this; exact this
            have d2 : y1.cell? ⟨b, 2, none⟩ = some (.string A2) := (bcell HBW1.out _ _ hbz).trans c2
            have hbz1 : b < y1.heap.size := by omega
            clear hb0 hn0' hy1
            go_wp2_with fail
            refine (HN2.out _).mono ?_
            rintro e y2 ⟨n1, b1, rfl, hb1, hn1', lo1, hi1', hy2⟩
            have HQ1 := hide (And.intro hb1 hn1')
            have HY2 : Hid (Below (w.heap.size + 1 + 1) ((w.alloc (.cells #[.int .i64 0, .int .i64 0, .int .i64 0, .int .i64 0, .int .i64 0, .int .i64 0, .int .i64 0, .int .i64 0, .int .i64 0] 53)).alloc (.cells #[.int .i64 4, .int .i64 0, .int .i64 0, .int .i64 0, .int .i64 0, .int .i64 0, .int .i64 0, .int .i64 0, .int .i64 0] 53)) y2) := HY1.out.trans (hy2.mono hz1)
            have HBW2 : Hid (Below w.heap.size w y2) := (below_alloc2 _ _ _).trans (HY2.out.mono (by omega))
            have hz2 : w.heap.size + 1 + 1 ≤ y2.heap.size := by have := HY2.out.size; rw [HZS.out] at this; exact this
            have d3 : y2.cell? ⟨b, 3, none⟩ = some (.string A3) := (bcell HBW2.out _ _ hbz).trans c3
            have hbz2 : b < y2.heap.size := by omega
            clear hb1 hn1' hy2 d2
            go_wp2_with fail
            refine (HN3.out _).mono ?_
            rintro e y ⟨n2, b2, rfl, hb2, hn2', lo2, hi2', hy3⟩
            have HQ2 := hide (And.intro hb2 hn2')
            have HY : Hid (Below (w.heap.size + 1 + 1) ((w.alloc (.cells #[.int .i64 0, .int .i64 0, .int .i64 0, .int .i64 0, .int .i64 0, .int .i64 0, .int .i64 0, .int .i64 0, .int .i64 0] 53)).alloc (.cells #[.int .i64 4, .int .i64 0, .int .i64 0, .int .i64 0, .int .i64 0, .int .i64 0, .int .i64 0, .int .i64 0, .int .i64 0] 53)) y) := HY2.out.trans (hy3.mono hz2)
            have HBL : Hid (Below w.heap.size w y) := (below_alloc2 _ _ _).trans (HY.out.mono (by omega))
            have HRB0 : Hid (y.heap[w.heap.size]? = some (.cells #[.int .i64 0, .int .i64 0, .int .i64 0, .int .i64 0, .int .i64 0, .int .i64 0, .int .i64 0, .int .i64 0, .int .i64 0] 53 (0, 0))) := two_first HY.out
            have HSB0 : Hid (y.heap[w.heap.size + 1]? = some (.cells #[.int .i64 4, .int .i64 0, .int .i64 0, .int .i64 0, .int .i64 0, .int .i64 0, .int .i64 0, .int .i64 0, .int .i64 0] 53 (0, 0))) := two_second HY.out
            have hyz : w.heap.size + 1 < y.heap.size := (Array.getElem?_eq_some_iff.1 HSB0.out).1
            have uf5 : y.frozen? ⟨w.heap.size + 1, 5, none⟩ = false := by simp [World.frozen?, HSB0.out]
            have uf6 : y.frozen? ⟨w.heap.size + 1, 6, none⟩ = false := by simp [World.frozen?, HSB0.out]
            have uf7 : y.frozen? ⟨w.heap.size + 1, 7, none⟩ = false := by simp [World.frozen?, HSB0.out]
            clear hb2 hn2' hy3 d3

            have HBL3 : Hid (Below w.heap.size w (((y.setCell ⟨w.heap.size + 1, 5, none⟩ (.int .i64 n0)).setCell ⟨w.heap.size + 1, 6, none⟩ (.int .i64 n1)).setCell ⟨w.heap.size + 1, 7, none⟩ (.int .i64 n2))) := ((HBL.out.setCell (by show w.heap.size ≤ w.heap.size + 1; omega) _).setCell (by show w.heap.size ≤ w.heap.size + 1; omega) _).setCell (by show w.heap.size ≤ w.heap.size + 1; omega) _
            have HSB3 : Hid ((((y.setCell ⟨w.heap.size + 1, 5, none⟩ (.int .i64 n0)).setCell ⟨w.heap.size + 1, 6, none⟩ (.int .i64 n1)).setCell ⟨w.heap.size + 1, 7, none⟩ (.int .i64 n2)).heap[w.heap.size + 1]? = some (.cells #[.int .i64 4, .int .i64 0, .int .i64 0, .int .i64 0, .int .i64 0, .int .i64 n0, .int .i64 n1, .int .i64 n2, .int .i64 0] 53 (0, 0))) := by show _ = _; simp [World.setCell, Array.getElem?_modify, HSB0.out]
            have HRB3 : Hid ((((y.setCell ⟨w.heap.size + 1, 5, none⟩ (.int .i64 n0)).setCell ⟨w.heap.size + 1, 6, none⟩ (.int .i64 n1)).setCell ⟨w.heap.size + 1, 7, none⟩ (.int .i64 n2)).heap[w.heap.size]? = some (.cells #[.int .i64 0, .int .i64 0, .int .i64 0, .int .i64 0, .int .i64 0, .int .i64 0, .int .i64 0, .int .i64 0, .int .i64 0] 53 (0, 0))) := by
              show _ = _
              rw [Below.heap_setCell _ _ _ _ (show w.heap.size ≠ w.heap.size + 1 by omega), Below.heap_setCell _ _ _ _ (show w.heap.size ≠ w.heap.size + 1 by omega), Below.heap_setCell _ _ _ _ (show w.heap.size ≠ w.heap.size + 1 by omega)]; exact HRB0.out
            have d4 : y.cell? ⟨b, 4, none⟩ = some (.string A4) := (bcell HBL.out _ _ hbz).trans c4
            have hbzy : b < y.heap.size := by omega
            have hbne : ¬ b = w.heap.size + 1 := by omega
            have hbne2 : ¬ w.heap.size + 1 = b := by omega
            have u5 : y.cell? ⟨w.heap.size + 1, 5, none⟩ = some (.int .i64 0) := by rw [cell_of_block HSB0.out]; rfl
            have u6 : y.cell? ⟨w.heap.size + 1, 6, none⟩ = some (.int .i64 0) := by rw [cell_of_block HSB0.out]; rfl
            have u7 : y.cell? ⟨w.heap.size + 1, 7, none⟩ = some (.int .i64 0) := by rw [cell_of_block HSB0.out]; rfl
            go_wp2_with fail
            refine (HRD.out _).mono ?_
            rintro e y4 ⟨ra, rb, b3, rfl, hb3, hr3, hy4⟩
            have HQ3 := hide (And.intro hb3 hr3)
            have hszy : (((y.setCell ⟨w.heap.size + 1, 5, none⟩ (.int .i64 n0)).setCell ⟨w.heap.size + 1, 6, none⟩ (.int .i64 n1)).setCell ⟨w.heap.size + 1, 7, none⟩ (.int .i64 n2)).heap.size = y.heap.size := by simp
            clear u5 u6 u7 d4 uf5 uf6 uf7 hb3 hr3
            have HRB0' : Hid (y4.heap[w.heap.size]? = some (.cells #[.int .i64 0, .int .i64 0, .int .i64 0, .int .i64 0, .int .i64 0, .int .i64 0, .int .i64 0, .int .i64 0, .int .i64 0] 53 (0, 0))) := (hy4.block _ (by rw [hszy]; omega)).trans HRB3.out
            have HSB0' : Hid (y4.heap[w.heap.size + 1]? = some (.cells #[.int .i64 4, .int .i64 0, .int .i64 0, .int .i64 0, .int .i64 0, .int .i64 n0, .int .i64 n1, .int .i64 n2, .int .i64 0] 53 (0, 0))) := (hy4.block _ (by rw [hszy]; omega)).trans HSB3.out
            have HBL4 : Hid (Below w.heap.size w y4) := HBL3.out.trans (hy4.mono (by rw [hszy]; omega))
            clear HRB0 HSB0
            have HRB0 := HRB0'
            have HSB0 := HSB0'
            clear hy4 HRB0' HSB0' hszy HBL3 HSB3 HRB3 hyz
            have hyz : w.heap.size + 1 < y4.heap.size := (Array.getElem?_eq_some_iff.1 HSB0.out).1
            have uf1 : y4.frozen? ⟨w.heap.size + 1, 1, none⟩ = false := by simp [World.frozen?, HSB0.out]
            have uf2 : y4.frozen? ⟨w.heap.size + 1, 2, none⟩ = false := by simp [World.frozen?, HSB0.out]
            have HRB : Hid (((y4.setCell ⟨w.heap.size + 1, 1, none⟩ (.int .i64 ra)).setCell ⟨w.heap.size + 1, 2, none⟩ (.int .i64 rb)).heap[w.heap.size]? = some (.cells #[.int .i64 0, .int .i64 0, .int .i64 0, .int .i64 0, .int .i64 0, .int .i64 0, .int .i64 0, .int .i64 0, .int .i64 0] 53 (0, 0))) := by
              show _ = _
              rw [Below.heap_setCell _ _ _ _ (show w.heap.size ≠ w.heap.size + 1 by omega), Below.heap_setCell _ _ _ _ (show w.heap.size ≠ w.heap.size + 1 by omega)]; exact HRB0.out
            have HBL2 : Hid (Below w.heap.size w ((y4.setCell ⟨w.heap.size + 1, 1, none⟩ (.int .i64 ra)).setCell ⟨w.heap.size + 1, 2, none⟩ (.int .i64 rb))) := (HBL4.out.setCell (by show w.heap.size ≤ w.heap.size + 1; omega) _).setCell (by show w.heap.size ≤ w.heap.size + 1; omega) _
            have HOK : Hid (∀ ok, ok = (b0 && b1 && b2 && b3) → ok = (stO ws).isSome ∧ ∀ r, stO ws = some r → (⟨4, ra, rb, 0, 0, n0, n1, n2, 0⟩ : St) = r) := fun ok hok => st_fin4 HST.out HQ0.out.1 HQ0.out.2 HQ1.out.1 HQ1.out.2 HQ2.out.1 HQ2.out.2 HQ3.out.1 HQ3.out.2 hok
            clear HST HQ0 HQ1 HQ2 HQ3
            have hx1 : ¬ y4.heap.size = w.heap.size + 1 := by omega
            have hx2 : ¬ w.heap.size + 1 = y4.heap.size := by omega
            have hx3 : ¬ y4.heap.size = w.heap.size := by omega
            have hx4 : ¬ w.heap.size = y4.heap.size := by omega
            have hx5 : w.heap.size < y4.heap.size := by omega
            cases b0 with
            | false =>
              have HOQ : Hid (false = (false && b1 && b2 && b3)) := rfl
              have k0 : y4.cell? ⟨w.heap.size, 0, none⟩ = some (.int .i64 0) := by rw [cell_of_block HRB0.out]; rfl
              have f0 : y4.frozen? ⟨w.heap.size, 0, none⟩ = false := by simp [World.frozen?, HRB0.out]
              have v0 : y4.cell? ⟨w.heap.size + 1, 0, none⟩ = some (.int .i64 4) := by rw [cell_of_block HSB0.out]; rfl
              have k1 : y4.cell? ⟨w.heap.size, 1, none⟩ = some (.int .i64 0) := by rw [cell_of_block HRB0.out]; rfl
              have f1 : y4.frozen? ⟨w.heap.size, 1, none⟩ = false := by simp [World.frozen?, HRB0.out]
              have v1 : y4.cell? ⟨w.heap.size + 1, 1, none⟩ = some (.int .i64 0) := by rw [cell_of_block HSB0.out]; rfl
              have k2 : y4.cell? ⟨w.heap.size, 2, none⟩ = some (.int .i64 0) := by rw [cell_of_block HRB0.out]; rfl
              have f2 : y4.frozen? ⟨w.heap.size, 2, none⟩ = false := by simp [World.frozen?, HRB0.out]
              have v2 : y4.cell? ⟨w.heap.size + 1, 2, none⟩ = some (.int .i64 0) := by rw [cell_of_block HSB0.out]; rfl
              have k3 : y4.cell? ⟨w.heap.size, 3, none⟩ = some (.int .i64 0) := by rw [cell_of_block HRB0.out]; rfl
              have f3 : y4.frozen? ⟨w.heap.size, 3, none⟩ = false := by simp [World.frozen?, HRB0.out]
              have v3 : y4.cell? ⟨w.heap.size + 1, 3, none⟩ = some (.int .i64 0) := by rw [cell_of_block HSB0.out]; rfl
              have k4 : y4.cell? ⟨w.heap.size, 4, none⟩ = some (.int .i64 0) := by rw [cell_of_block HRB0.out]; rfl
              have f4 : y4.frozen? ⟨w.heap.size, 4, none⟩ = false := by simp [World.frozen?, HRB0.out]
              have v4 : y4.cell? ⟨w.heap.size + 1, 4, none⟩ = some (.int .i64 0) := by rw [cell_of_block HSB0.out]; rfl
              have k5 : y4.cell? ⟨w.heap.size, 5, none⟩ = some (.int .i64 0) := by rw [cell_of_block HRB0.out]; rfl
              have f5 : y4.frozen? ⟨w.heap.size, 5, none⟩ = false := by simp [World.frozen?, HRB0.out]
              have v5 : y4.cell? ⟨w.heap.size + 1, 5, none⟩ = some (.int .i64 n0) := by rw [cell_of_block HSB0.out]; rfl
              have k6 : y4.cell? ⟨w.heap.size, 6, none⟩ = some (.int .i64 0) := by rw [cell_of_block HRB0.out]; rfl
              have f6 : y4.frozen? ⟨w.heap.size, 6, none⟩ = false := by simp [World.frozen?, HRB0.out]
              have v6 : y4.cell? ⟨w.heap.size + 1, 6, none⟩ = some (.int .i64 n1) := by rw [cell_of_block HSB0.out]; rfl
              have k7 : y4.cell? ⟨w.heap.size, 7, none⟩ = some (.int .i64 0) := by rw [cell_of_block HRB0.out]; rfl
              have f7 : y4.frozen? ⟨w.heap.size, 7, none⟩ = false := by simp [World.frozen?, HRB0.out]
              have v7 : y4.cell? ⟨w.heap.size + 1, 7, none⟩ = some (.int .i64 n2) := by rw [cell_of_block HSB0.out]; rfl
              have k8 : y4.cell? ⟨w.heap.size, 8, none⟩ = some (.int .i64 0) := by rw [cell_of_block HRB0.out]; rfl
              have f8 : y4.frozen? ⟨w.heap.size, 8, none⟩ = false := by simp [World.frozen?, HRB0.out]
              have v8 : y4.cell? ⟨w.heap.size + 1, 8, none⟩ = some (.int .i64 0) := by rw [cell_of_block HSB0.out]; rfl
              have HTW := hide (nine_set (b0 := .int .i64 4) (b1 := .int .i64 ra) (b2 := .int .i64 rb) (b3 := .int .i64 0) (b4 := .int .i64 0) (b5 := .int .i64 n0) (b6 := .int .i64 n1) (b7 := .int .i64 n2) (b8 := .int .i64 0) HRB.out)
              have HPP : Hid (StmtPost ws w (.returned (.tuple #[.agg #[.int .i64 4, .int .i64 ra, .int .i64 rb, .int .i64 0, .int .i64 0, .int .i64 n0, .int .i64 n1, .int .i64 n2, .int .i64 0], .bool false])) ((((((((((((y4.setCell ⟨w.heap.size + 1, 1, none⟩ (.int .i64 ra)).setCell ⟨w.heap.size + 1, 2, none⟩ (.int .i64 rb)).setCell ⟨w.heap.size, 0, none⟩ (.int .i64 4)).setCell ⟨w.heap.size, 1, none⟩ (.int .i64 ra)).setCell ⟨w.heap.size, 2, none⟩ (.int .i64 rb)).setCell ⟨w.heap.size, 3, none⟩ (.int .i64 0)).setCell ⟨w.heap.size, 4, none⟩ (.int .i64 0)).setCell ⟨w.heap.size, 5, none⟩ (.int .i64 n0)).setCell ⟨w.heap.size, 6, none⟩ (.int .i64 n1)).setCell ⟨w.heap.size, 7, none⟩ (.int .i64 n2)).setCell ⟨w.heap.size, 8, none⟩ (.int .i64 0)).alloc (.cells #[.int .i64 ra, .int .i64 rb] 51))) := ⟨_, _, rfl, (HOK.out _ HOQ.out).1, (HOK.out _ HOQ.out).2, (((((((((((HBL2.out.setCell (Nat.le_refl _) _).setCell (Nat.le_refl _) _).setCell (Nat.le_refl _) _).setCell (Nat.le_refl _) _).setCell (Nat.le_refl _) _).setCell (Nat.le_refl _) _).setCell (Nat.le_refl _) _).setCell (Nat.le_refl _) _).setCell (Nat.le_refl _) _)).alloc (by simp; omega) _)⟩
              have HTX : Hid (((((((((((((y4.setCell ⟨w.heap.size + 1, 1, none⟩ (.int .i64 ra)).setCell ⟨w.heap.size + 1, 2, none⟩ (.int .i64 rb)).setCell ⟨w.heap.size, 0, none⟩ (.int .i64 4)).setCell ⟨w.heap.size, 1, none⟩ (.int .i64 ra)).setCell ⟨w.heap.size, 2, none⟩ (.int .i64 rb)).setCell ⟨w.heap.size, 3, none⟩ (.int .i64 0)).setCell ⟨w.heap.size, 4, none⟩ (.int .i64 0)).setCell ⟨w.heap.size, 5, none⟩ (.int .i64 n0)).setCell ⟨w.heap.size, 6, none⟩ (.int .i64 n1)).setCell ⟨w.heap.size, 7, none⟩ (.int .i64 n2)).setCell ⟨w.heap.size, 8, none⟩ (.int .i64 0)).alloc (.cells #[.int .i64 ra, .int .i64 rb] 51)).heap[w.heap.size]? = some (.cells #[.int .i64 4, .int .i64 ra, .int .i64 rb, .int .i64 0, .int .i64 0, .int .i64 n0, .int .i64 n1, .int .i64 n2, .int .i64 0] 53 (0, 0))) := by
                show _ = _
                rw [Below.heap_alloc _ _ _ (by simp; omega)]; exact HTW.out
              go_wp2_with fail
              have s0 : ((((((((((((y4.setCell ⟨w.heap.size + 1, 1, none⟩ (.int .i64 ra)).setCell ⟨w.heap.size + 1, 2, none⟩ (.int .i64 rb)).setCell ⟨w.heap.size, 0, none⟩ (.int .i64 4)).setCell ⟨w.heap.size, 1, none⟩ (.int .i64 ra)).setCell ⟨w.heap.size, 2, none⟩ (.int .i64 rb)).setCell ⟨w.heap.size, 3, none⟩ (.int .i64 0)).setCell ⟨w.heap.size, 4, none⟩ (.int .i64 0)).setCell ⟨w.heap.size, 5, none⟩ (.int .i64 n0)).setCell ⟨w.heap.size, 6, none⟩ (.int .i64 n1)).setCell ⟨w.heap.size, 7, none⟩ (.int .i64 n2)).setCell ⟨w.heap.size, 8, none⟩ (.int .i64 0)).alloc (.cells #[.int .i64 ra, .int .i64 rb] 51)).cell? ⟨w.heap.size, 0, none⟩ = some (.int .i64 4) := by rw [cell_of_block HTX.out]; rfl
              have s1 : ((((((((((((y4.setCell ⟨w.heap.size + 1, 1, none⟩ (.int .i64 ra)).setCell ⟨w.heap.size + 1, 2, none⟩ (.int .i64 rb)).setCell ⟨w.heap.size, 0, none⟩ (.int .i64 4)).setCell ⟨w.heap.size, 1, none⟩ (.int .i64 ra)).setCell ⟨w.heap.size, 2, none⟩ (.int .i64 rb)).setCell ⟨w.heap.size, 3, none⟩ (.int .i64 0)).setCell ⟨w.heap.size, 4, none⟩ (.int .i64 0)).setCell ⟨w.heap.size, 5, none⟩ (.int .i64 n0)).setCell ⟨w.heap.size, 6, none⟩ (.int .i64 n1)).setCell ⟨w.heap.size, 7, none⟩ (.int .i64 n2)).setCell ⟨w.heap.size, 8, none⟩ (.int .i64 0)).alloc (.cells #[.int .i64 ra, .int .i64 rb] 51)).cell? ⟨w.heap.size, 1, none⟩ = some (.int .i64 ra) := by rw [cell_of_block HTX.out]; rfl
              have s2 : ((((((((((((y4.setCell ⟨w.heap.size + 1, 1, none⟩ (.int .i64 ra)).setCell ⟨w.heap.size + 1, 2, none⟩ (.int .i64 rb)).setCell ⟨w.heap.size, 0, none⟩ (.int .i64 4)).setCell ⟨w.heap.size, 1, none⟩ (.int .i64 ra)).setCell ⟨w.heap.size, 2, none⟩ (.int .i64 rb)).setCell ⟨w.heap.size, 3, none⟩ (.int .i64 0)).setCell ⟨w.heap.size, 4, none⟩ (.int .i64 0)).setCell ⟨w.heap.size, 5, none⟩ (.int .i64 n0)).setCell ⟨w.heap.size, 6, none⟩ (.int .i64 n1)).setCell ⟨w.heap.size, 7, none⟩ (.int .i64 n2)).setCell ⟨w.heap.size, 8, none⟩ (.int .i64 0)).alloc (.cells #[.int .i64 ra, .int .i64 rb] 51)).cell? ⟨w.heap.size, 2, none⟩ = some (.int .i64 rb) := by rw [cell_of_block HTX.out]; rfl
              have s3 : ((((((((((((y4.setCell ⟨w.heap.size + 1, 1, none⟩ (.int .i64 ra)).setCell ⟨w.heap.size + 1, 2, none⟩ (.int .i64 rb)).setCell ⟨w.heap.size, 0, none⟩ (.int .i64 4)).setCell ⟨w.heap.size, 1, none⟩ (.int .i64 ra)).setCell ⟨w.heap.size, 2, none⟩ (.int .i64 rb)).setCell ⟨w.heap.size, 3, none⟩ (.int .i64 0)).setCell ⟨w.heap.size, 4, none⟩ (.int .i64 0)).setCell ⟨w.heap.size, 5, none⟩ (.int .i64 n0)).setCell ⟨w.heap.size, 6, none⟩ (.int .i64 n1)).setCell ⟨w.heap.size, 7, none⟩ (.int .i64 n2)).setCell ⟨w.heap.size, 8, none⟩ (.int .i64 0)).alloc (.cells #[.int .i64 ra, .int .i64 rb] 51)).cell? ⟨w.heap.size, 3, none⟩ = some (.int .i64 0) := by rw [cell_of_block HTX.out]; rfl
              have s4 : ((((((((((((y4.setCell ⟨w.heap.size + 1, 1, none⟩ (.int .i64 ra)).setCell ⟨w.heap.size + 1, 2, none⟩ (.int .i64 rb)).setCell ⟨w.heap.size, 0, none⟩ (.int .i64 4)).setCell ⟨w.heap.size, 1, none⟩ (.int .i64 ra)).setCell ⟨w.heap.size, 2, none⟩ (.int .i64 rb)).setCell ⟨w.heap.size, 3, none⟩ (.int .i64 0)).setCell ⟨w.heap.size, 4, none⟩ (.int .i64 0)).setCell ⟨w.heap.size, 5, none⟩ (.int .i64 n0)).setCell ⟨w.heap.size, 6, none⟩ (.int .i64 n1)).setCell ⟨w.heap.size, 7, none⟩ (.int .i64 n2)).setCell ⟨w.heap.size, 8, none⟩ (.int .i64 0)).alloc (.cells #[.int .i64 ra, .int .i64 rb] 51)).cell? ⟨w.heap.size, 4, none⟩ = some (.int .i64 0) := by rw [cell_of_block HTX.out]; rfl
              have s5 : ((((((((((((y4.setCell ⟨w.heap.size + 1, 1, none⟩ (.int .i64 ra)).setCell ⟨w.heap.size + 1, 2, none⟩ (.int .i64 rb)).setCell ⟨w.heap.size, 0, none⟩ (.int .i64 4)).setCell ⟨w.heap.size, 1, none⟩ (.int .i64 ra)).setCell ⟨w.heap.size, 2, none⟩ (.int .i64 rb)).setCell ⟨w.heap.size, 3, none⟩ (.int .i64 0)).setCell ⟨w.heap.size, 4, none⟩ (.int .i64 0)).setCell ⟨w.heap.size, 5, none⟩ (.int .i64 n0)).setCell ⟨w.heap.size, 6, none⟩ (.int .i64 n1)).setCell ⟨w.heap.size, 7, none⟩ (.int .i64 n2)).setCell ⟨w.heap.size, 8, none⟩ (.int .i64 0)).alloc (.cells #[.int .i64 ra, .int .i64 rb] 51)).cell? ⟨w.heap.size, 5, none⟩ = some (.int .i64 n0) := by rw [cell_of_block HTX.out]; rfl
              have s6 : ((((((((((((y4.setCell ⟨w.heap.size + 1, 1, none⟩ (.int .i64 ra)).setCell ⟨w.heap.size + 1, 2, none⟩ (.int .i64 rb)).setCell ⟨w.heap.size, 0, none⟩ (.int .i64 4)).setCell ⟨w.heap.size, 1, none⟩ (.int .i64 ra)).setCell ⟨w.heap.size, 2, none⟩ (.int .i64 rb)).setCell ⟨w.heap.size, 3, none⟩ (.int .i64 0)).setCell ⟨w.heap.size, 4, none⟩ (.int .i64 0)).setCell ⟨w.heap.size, 5, none⟩ (.int .i64 n0)).setCell ⟨w.heap.size, 6, none⟩ (.int .i64 n1)).setCell ⟨w.heap.size, 7, none⟩ (.int .i64 n2)).setCell ⟨w.heap.size, 8, none⟩ (.int .i64 0)).alloc (.cells #[.int .i64 ra, .int .i64 rb] 51)).cell? ⟨w.heap.size, 6, none⟩ = some (.int .i64 n1) := by rw [cell_of_block HTX.out]; rfl
              have s7 : ((((((((((((y4.setCell ⟨w.heap.size + 1, 1, none⟩ (.int .i64 ra)).setCell ⟨w.heap.size + 1, 2, none⟩ (.int .i64 rb)).setCell ⟨w.heap.size, 0, none⟩ (.int .i64 4)).setCell ⟨w.heap.size, 1, none⟩ (.int .i64 ra)).setCell ⟨w.heap.size, 2, none⟩ (.int .i64 rb)).setCell ⟨w.heap.size, 3, none⟩ (.int .i64 0)).setCell ⟨w.heap.size, 4, none⟩ (.int .i64 0)).setCell ⟨w.heap.size, 5, none⟩ (.int .i64 n0)).setCell ⟨w.heap.size, 6, none⟩ (.int .i64 n1)).setCell ⟨w.heap.size, 7, none⟩ (.int .i64 n2)).setCell ⟨w.heap.size, 8, none⟩ (.int .i64 0)).alloc (.cells #[.int .i64 ra, .int .i64 rb] 51)).cell? ⟨w.heap.size, 7, none⟩ = some (.int .i64 n2) := by rw [cell_of_block HTX.out]; rfl
              have s8 : ((((((((((((y4.setCell ⟨w.heap.size + 1, 1, none⟩ (.int .i64 ra)).setCell ⟨w.heap.size + 1, 2, none⟩ (.int .i64 rb)).setCell ⟨w.heap.size, 0, none⟩ (.int .i64 4)).setCell ⟨w.heap.size, 1, none⟩ (.int .i64 ra)).setCell ⟨w.heap.size, 2, none⟩ (.int .i64 rb)).setCell ⟨w.heap.size, 3, none⟩ (.int .i64 0)).setCell ⟨w.heap.size, 4, none⟩ (.int .i64 0)).setCell ⟨w.heap.size, 5, none⟩ (.int .i64 n0)).setCell ⟨w.heap.size, 6, none⟩ (.int .i64 n1)).setCell ⟨w.heap.size, 7, none⟩ (.int .i64 n2)).setCell ⟨w.heap.size, 8, none⟩ (.int .i64 0)).alloc (.cells #[.int .i64 ra, .int .i64 rb] 51)).cell? ⟨w.heap.size, 8, none⟩ = some (.int .i64 0) := by rw [cell_of_block HTX.out]; rfl
              exact bodyPost_ret (v := .tuple #[.agg #[.int .i64 4, .int .i64 ra, .int .i64 rb, .int .i64 0, .int .i64 0, .int .i64 n0, .int .i64 n1, .int .i64 n2, .int .i64 0], .bool false]) (by simp [results, Tryd.results31, go_sem, s0, s1, s2, s3, s4, s5, s6, s7, s8]) rfl HPP.out

            | true =>
              cases b1 with
              | false =>
                have HOQ : Hid (false = (true && false && b2 && b3)) := rfl
                have k0 : y4.cell? ⟨w.heap.size, 0, none⟩ = some (.int .i64 0) := by rw [cell_of_block HRB0.out]; rfl
                have f0 : y4.frozen? ⟨w.heap.size, 0, none⟩ = false := by simp [World.frozen?, HRB0.out]
                have v0 : y4.cell? ⟨w.heap.size + 1, 0, none⟩ = some (.int .i64 4) := by rw [cell_of_block HSB0.out]; rfl
                have k1 : y4.cell? ⟨w.heap.size, 1, none⟩ = some (.int .i64 0) := by rw [cell_of_block HRB0.out]; rfl
                have f1 : y4.frozen? ⟨w.heap.size, 1, none⟩ = false := by simp [World.frozen?, HRB0.out]
                have v1 : y4.cell? ⟨w.heap.size + 1, 1, none⟩ = some (.int .i64 0) := by rw [cell_of_block HSB0.out]; rfl
                have k2 : y4.cell? ⟨w.heap.size, 2, none⟩ = some (.int .i64 0) := by rw [cell_of_block HRB0.out]; rfl
                have f2 : y4.frozen? ⟨w.heap.size, 2, none⟩ = false := by simp [World.frozen?, HRB0.out]
                have v2 : y4.cell? ⟨w.heap.size + 1, 2, none⟩ = some (.int .i64 0) := by rw [cell_of_block HSB0.out]; rfl
                have k3 : y4.cell? ⟨w.heap.size, 3, none⟩ = some (.int .i64 0) := by rw [cell_of_block HRB0.out]; rfl
                have f3 : y4.frozen? ⟨w.heap.size, 3, none⟩ = false := by simp [World.frozen?, HRB0.out]
                have v3 : y4.cell? ⟨w.heap.size + 1, 3, none⟩ = some (.int .i64 0) := by rw [cell_of_block HSB0.out]; rfl
                have k4 : y4.cell? ⟨w.heap.size, 4, none⟩ = some (.int .i64 0) := by rw [cell_of_block HRB0.out]; rfl
                have f4 : y4.frozen? ⟨w.heap.size, 4, none⟩ = false := by simp [World.frozen?, HRB0.out]
                have v4 : y4.cell? ⟨w.heap.size + 1, 4, none⟩ = some (.int .i64 0) := by rw [cell_of_block HSB0.out]; rfl
                have k5 : y4.cell? ⟨w.heap.size, 5, none⟩ = some (.int .i64 0) := by rw [cell_of_block HRB0.out]; rfl
                have f5 : y4.frozen? ⟨w.heap.size, 5, none⟩ = false := by simp [World.frozen?, HRB0.out]
                have v5 : y4.cell? ⟨w.heap.size + 1, 5, none⟩ = some (.int .i64 n0) := by rw [cell_of_block HSB0.out]; rfl
                have k6 : y4.cell? ⟨w.heap.size, 6, none⟩ = some (.int .i64 0) := by rw [cell_of_block HRB0.out]; rfl
                have f6 : y4.frozen? ⟨w.heap.size, 6, none⟩ = false := by simp [World.frozen?, HRB0.out]
                have v6 : y4.cell? ⟨w.heap.size + 1, 6, none⟩ = some (.int .i64 n1) := by rw [cell_of_block HSB0.out]; rfl
                have k7 : y4.cell? ⟨w.heap.size, 7, none⟩ = some (.int .i64 0) := by rw [cell_of_block HRB0.out]; rfl
                have f7 : y4.frozen? ⟨w.heap.size, 7, none⟩ = false := by simp [World.frozen?, HRB0.out]
                have v7 : y4.cell? ⟨w.heap.size + 1, 7, none⟩ = some (.int .i64 n2) := by rw [cell_of_block HSB0.out]; rfl
                have k8 : y4.cell? ⟨w.heap.size, 8, none⟩ = some (.int .i64 0) := by rw [cell_of_block HRB0.out]; rfl
                have f8 : y4.frozen? ⟨w.heap.size, 8, none⟩ = false := by simp [World.frozen?, HRB0.out]
                have v8 : y4.cell? ⟨w.heap.size + 1, 8, none⟩ = some (.int .i64 0) := by rw [cell_of_block HSB0.out]; rfl
                have HTW := hide (nine_set (b0 := .int .i64 4) (b1 := .int .i64 ra) (b2 := .int .i64 rb) (b3 := .int .i64 0) (b4 := .int .i64 0) (b5 := .int .i64 n0) (b6 := .int .i64 n1) (b7 := .int .i64 n2) (b8 := .int .i64 0) HRB.out)
                have HPP : Hid (StmtPost ws w (.returned (.tuple #[.agg #[.int .i64 4, .int .i64 ra, .int .i64 rb, .int .i64 0, .int .i64 0, .int .i64 n0, .int .i64 n1, .int .i64 n2, .int .i64 0], .bool false])) ((((((((((((y4.setCell ⟨w.heap.size + 1, 1, none⟩ (.int .i64 ra)).setCell ⟨w.heap.size + 1, 2, none⟩ (.int .i64 rb)).setCell ⟨w.heap.size, 0, none⟩ (.int .i64 4)).setCell ⟨w.heap.size, 1, none⟩ (.int .i64 ra)).setCell ⟨w.heap.size, 2, none⟩ (.int .i64 rb)).setCell ⟨w.heap.size, 3, none⟩ (.int .i64 0)).setCell ⟨w.heap.size, 4, none⟩ (.int .i64 0)).setCell ⟨w.heap.size, 5, none⟩ (.int .i64 n0)).setCell ⟨w.heap.size, 6, none⟩ (.int .i64 n1)).setCell ⟨w.heap.size, 7, none⟩ (.int .i64 n2)).setCell ⟨w.heap.size, 8, none⟩ (.int .i64 0)).alloc (.cells #[.int .i64 ra, .int .i64 rb] 51))) := ⟨_, _, rfl, (HOK.out _ HOQ.out).1, (HOK.out _ HOQ.out).2, (((((((((((HBL2.out.setCell (Nat.le_refl _) _).setCell (Nat.le_refl _) _).setCell (Nat.le_refl _) _).setCell (Nat.le_refl _) _).setCell (Nat.le_refl _) _).setCell (Nat.le_refl _) _).setCell (Nat.le_refl _) _).setCell (Nat.le_refl _) _).setCell (Nat.le_refl _) _)).alloc (by simp; omega) _)⟩
                have HTX : Hid (((((((((((((y4.setCell ⟨w.heap.size + 1, 1, none⟩ (.int .i64 ra)).setCell ⟨w.heap.size + 1, 2, none⟩ (.int .i64 rb)).setCell ⟨w.heap.size, 0, none⟩ (.int .i64 4)).setCell ⟨w.heap.size, 1, none⟩ (.int .i64 ra)).setCell ⟨w.heap.size, 2, none⟩ (.int .i64 rb)).setCell ⟨w.heap.size, 3, none⟩ (.int .i64 0)).setCell ⟨w.heap.size, 4, none⟩ (.int .i64 0)).setCell ⟨w.heap.size, 5, none⟩ (.int .i64 n0)).setCell ⟨w.heap.size, 6, none⟩ (.int .i64 n1)).setCell ⟨w.heap.size, 7, none⟩ (.int .i64 n2)).setCell ⟨w.heap.size, 8, none⟩ (.int .i64 0)).alloc (.cells #[.int .i64 ra, .int .i64 rb] 51)).heap[w.heap.size]? = some (.cells #[.int .i64 4, .int .i64 ra, .int .i64 rb, .int .i64 0, .int .i64 0, .int .i64 n0, .int .i64 n1, .int .i64 n2, .int .i64 0] 53 (0, 0))) := by
                  show _ = _
                  rw [Below.heap_alloc _ _ _ (by simp; omega)]; exact HTW.out
                go_wp2_with fail
                have s0 : ((((((((((((y4.setCell ⟨w.heap.size + 1, 1, none⟩ (.int .i64 ra)).setCell ⟨w.heap.size + 1, 2, none⟩ (.int .i64 rb)).setCell ⟨w.heap.size, 0, none⟩ (.int .i64 4)).setCell ⟨w.heap.size, 1, none⟩ (.int .i64 ra)).setCell ⟨w.heap.size, 2, none⟩ (.int .i64 rb)).setCell ⟨w.heap.size, 3, none⟩ (.int .i64 0)).setCell ⟨w.heap.size, 4, none⟩ (.int .i64 0)).setCell ⟨w.heap.size, 5, none⟩ (.int .i64 n0)).setCell ⟨w.heap.size, 6, none⟩ (.int .i64 n1)).setCell ⟨w.heap.size, 7, none⟩ (.int .i64 n2)).setCell ⟨w.heap.size, 8, none⟩ (.int .i64 0)).alloc (.cells #[.int .i64 ra, .int .i64 rb] 51)).cell? ⟨w.heap.size, 0, none⟩ = some (.int .i64 4) := by rw [cell_of_block HTX.out]; rfl
                have s1 : ((((((((((((y4.setCell ⟨w.heap.size + 1, 1, none⟩ (.int .i64 ra)).setCell ⟨w.heap.size + 1, 2, none⟩ (.int .i64 rb)).setCell ⟨w.heap.size, 0, none⟩ (.int .i64 4)).setCell ⟨w.heap.size, 1, none⟩ (.int .i64 ra)).setCell ⟨w.heap.size, 2, none⟩ (.int .i64 rb)).setCell ⟨w.heap.size, 3, none⟩ (.int .i64 0)).setCell ⟨w.heap.size, 4, none⟩ (.int .i64 0)).setCell ⟨w.heap.size, 5, none⟩ (.int .i64 n0)).setCell ⟨w.heap.size, 6, none⟩ (.int .i64 n1)).setCell ⟨w.heap.size, 7, none⟩ (.int .i64 n2)).setCell ⟨w.heap.size, 8, none⟩ (.int .i64 0)).alloc (.cells #[.int .i64 ra, .int .i64 rb] 51)).cell? ⟨w.heap.size, 1, none⟩ = some (.int .i64 ra) := by rw [cell_of_block HTX.out]; rfl
                have s2 : ((((((((((((y4.setCell ⟨w.heap.size + 1, 1, none⟩ (.int .i64 ra)).setCell ⟨w.heap.size + 1, 2, none⟩ (.int .i64 rb)).setCell ⟨w.heap.size, 0, none⟩ (.int .i64 4)).setCell ⟨w.heap.size, 1, none⟩ (.int .i64 ra)).setCell ⟨w.heap.size, 2, none⟩ (.int .i64 rb)).setCell ⟨w.heap.size, 3, none⟩ (.int .i64 0)).setCell ⟨w.heap.size, 4, none⟩ (.int .i64 0)).setCell ⟨w.heap.size, 5, none⟩ (.int .i64 n0)).setCell ⟨w.heap.size, 6, none⟩ (.int .i64 n1)).setCell ⟨w.heap.size, 7, none⟩ (.int .i64 n2)).setCell ⟨w.heap.size, 8, none⟩ (.int .i64 0)).alloc (.cells #[.int .i64 ra, .int .i64 rb] 51)).cell? ⟨w.heap.size, 2, none⟩ = some (.int .i64 rb) := by rw [cell_of_block HTX.out]; rfl
                have s3 : ((((((((((((y4.setCell ⟨w.heap.size + 1, 1, none⟩ (.int .i64 ra)).setCell ⟨w.heap.size + 1, 2, none⟩ (.int .i64 rb)).setCell ⟨w.heap.size, 0, none⟩ (.int .i64 4)).setCell ⟨w.heap.size, 1, none⟩ (.int .i64 ra)).setCell ⟨w.heap.size, 2, none⟩ (.int .i64 rb)).setCell ⟨w.heap.size, 3, none⟩ (.int .i64 0)).setCell ⟨w.heap.size, 4, none⟩ (.int .i64 0)).setCell ⟨w.heap.size, 5, none⟩ (.int .i64 n0)).setCell ⟨w.heap.size, 6, none⟩ (.int .i64 n1)).setCell ⟨w.heap.size, 7, none⟩ (.int .i64 n2)).setCell ⟨w.heap.size, 8, none⟩ (.int .i64 0)).alloc (.cells #[.int .i64 ra, .int .i64 rb] 51)).cell? ⟨w.heap.size, 3, none⟩ = some (.int .i64 0) := by rw [cell_of_block HTX.out]; rfl
                have s4 : ((((((((((((y4.setCell ⟨w.heap.size + 1, 1, none⟩ (.int .i64 ra)).setCell ⟨w.heap.size + 1, 2, none⟩ (.int .i64 rb)).setCell ⟨w.heap.size, 0, none⟩ (.int .i64 4)).setCell ⟨w.heap.size, 1, none⟩ (.int .i64 ra)).setCell ⟨w.heap.size, 2, none⟩ (.int .i64 rb)).setCell ⟨w.heap.size, 3, none⟩ (.int .i64 0)).setCell ⟨w.heap.size, 4, none⟩ (.int .i64 0)).setCell ⟨w.heap.size, 5, none⟩ (.int .i64 n0)).setCell ⟨w.heap.size, 6, none⟩ (.int .i64 n1)).setCell ⟨w.heap.size, 7, none⟩ (.int .i64 n2)).setCell ⟨w.heap.size, 8, none⟩ (.int .i64 0)).alloc (.cells #[.int .i64 ra, .int .i64 rb] 51)).cell? ⟨w.heap.size, 4, none⟩ = some (.int .i64 0) := by rw [cell_of_block HTX.out]; rfl
                have s5 : ((((((((((((y4.setCell ⟨w.heap.size + 1, 1, none⟩ (.int .i64 ra)).setCell ⟨w.heap.size + 1, 2, none⟩ (.int .i64 rb)).setCell ⟨w.heap.size, 0, none⟩ (.int .i64 4)).setCell ⟨w.heap.size, 1, none⟩ (.int .i64 ra)).setCell ⟨w.heap.size, 2, none⟩ (.int .i64 rb)).setCell ⟨w.heap.size, 3, none⟩ (.int .i64 0)).setCell ⟨w.heap.size, 4, none⟩ (.int .i64 0)).setCell ⟨w.heap.size, 5, none⟩ (.int .i64 n0)).setCell ⟨w.heap.size, 6, none⟩ (.int .i64 n1)).setCell ⟨w.heap.size, 7, none⟩ (.int .i64 n2)).setCell ⟨w.heap.size, 8, none⟩ (.int .i64 0)).alloc (.cells #[.int .i64 ra, .int .i64 rb] 51)).cell? ⟨w.heap.size, 5, none⟩ = some (.int .i64 n0) := by rw [cell_of_block HTX.out]; rfl
                have s6 : ((((((((((((y4.setCell ⟨w.heap.size + 1, 1, none⟩ (.int .i64 ra)).setCell ⟨w.heap.size + 1, 2, none⟩ (.int .i64 rb)).setCell ⟨w.heap.size, 0, none⟩ (.int .i64 4)).setCell ⟨w.heap.size, 1, none⟩ (.int .i64 ra)).setCell ⟨w.heap.size, 2, none⟩ (.int .i64 rb)).setCell ⟨w.heap.size, 3, none⟩ (.int .i64 0)).setCell ⟨w.heap.size, 4, none⟩ (.int .i64 0)).setCell ⟨w.heap.size, 5, none⟩ (.int .i64 n0)).setCell ⟨w.heap.size, 6, none⟩ (.int .i64 n1)).setCell ⟨w.heap.size, 7, none⟩ (.int .i64 n2)).setCell ⟨w.heap.size, 8, none⟩ (.int .i64 0)).alloc (.cells #[.int .i64 ra, .int .i64 rb] 51)).cell? ⟨w.heap.size, 6, none⟩ = some (.int .i64 n1) := by rw [cell_of_block HTX.out]; rfl
                have s7 : ((((((((((((y4.setCell ⟨w.heap.size + 1, 1, none⟩ (.int .i64 ra)).setCell ⟨w.heap.size + 1, 2, none⟩ (.int .i64 rb)).setCell ⟨w.heap.size, 0, none⟩ (.int .i64 4)).setCell ⟨w.heap.size, 1, none⟩ (.int .i64 ra)).setCell ⟨w.heap.size, 2, none⟩ (.int .i64 rb)).setCell ⟨w.heap.size, 3, none⟩ (.int .i64 0)).setCell ⟨w.heap.size, 4, none⟩ (.int .i64 0)).setCell ⟨w.heap.size, 5, none⟩ (.int .i64 n0)).setCell ⟨w.heap.size, 6, none⟩ (.int .i64 n1)).setCell ⟨w.heap.size, 7, none⟩ (.int .i64 n2)).setCell ⟨w.heap.size, 8, none⟩ (.int .i64 0)).alloc (.cells #[.int .i64 ra, .int .i64 rb] 51)).cell? ⟨w.heap.size, 7, none⟩ = some (.int .i64 n2) := by rw [cell_of_block HTX.out]; rfl
                have s8 : ((((((((((((y4.setCell ⟨w.heap.size + 1, 1, none⟩ (.int .i64 ra)).setCell ⟨w.heap.size + 1, 2, none⟩ (.int .i64 rb)).setCell ⟨w.heap.size, 0, none⟩ (.int .i64 4)).setCell ⟨w.heap.size, 1, none⟩ (.int .i64 ra)).setCell ⟨w.heap.size, 2, none⟩ (.int .i64 rb)).setCell ⟨w.heap.size, 3, none⟩ (.int .i64 0)).setCell ⟨w.heap.size, 4, none⟩ (.int .i64 0)).setCell ⟨w.heap.size, 5, none⟩ (.int .i64 n0)).setCell ⟨w.heap.size, 6, none⟩ (.int .i64 n1)).setCell ⟨w.heap.size, 7, none⟩ (.int .i64 n2)).setCell ⟨w.heap.size, 8, none⟩ (.int .i64 0)).alloc (.cells #[.int .i64 ra, .int .i64 rb] 51)).cell? ⟨w.heap.size, 8, none⟩ = some (.int .i64 0) := by rw [cell_of_block HTX.out]; rfl
                exact bodyPost_ret (v := .tuple #[.agg #[.int .i64 4, .int .i64 ra, .int .i64 rb, .int .i64 0, .int .i64 0, .int .i64 n0, .int .i64 n1, .int .i64 n2, .int .i64 0], .bool false]) (by simp [results, Tryd.results31, go_sem, s0, s1, s2, s3, s4, s5, s6, s7, s8]) rfl HPP.out

              | true =>
                cases b2 with
                | false =>
                  have HOQ : Hid (false = (true && true && false && b3)) := rfl
                  have k0 : y4.cell? ⟨w.heap.size, 0, none⟩ = some (.int .i64 0) := by rw [cell_of_block HRB0.out]; rfl
                  have f0 : y4.frozen? ⟨w.heap.size, 0, none⟩ = false := by simp [World.frozen?, HRB0.out]
                  have v0 : y4.cell? ⟨w.heap.size + 1, 0, none⟩ = some (.int .i64 4) := by rw [cell_of_block HSB0.out]; rfl
                  have k1 : y4.cell? ⟨w.heap.size, 1, none⟩ = some (.int .i64 0) := by rw [cell_of_block HRB0.out]; rfl
                  have f1 : y4.frozen? ⟨w.heap.size, 1, none⟩ = false := by simp [World.frozen?, HRB0.out]
                  have v1 : y4.cell? ⟨w.heap.size + 1, 1, none⟩ = some (.int .i64 0) := by rw [cell_of_block HSB0.out]; rfl
                  have k2 : y4.cell? ⟨w.heap.size, 2, none⟩ = some (.int .i64 0) := by rw [cell_of_block HRB0.out]; rfl
                  have f2 : y4.frozen? ⟨w.heap.size, 2, none⟩ = false := by simp [World.frozen?, HRB0.out]
                  have v2 : y4.cell? ⟨w.heap.size + 1, 2, none⟩ = some (.int .i64 0) := by rw [cell_of_block HSB0.out]; rfl
                  have k3 : y4.cell? ⟨w.heap.size, 3, none⟩ = some (.int .i64 0) := by rw [cell_of_block HRB0.out]; rfl
                  have f3 : y4.frozen? ⟨w.heap.size, 3, none⟩ = false := by simp [World.frozen?, HRB0.out]
                  have v3 : y4.cell? ⟨w.heap.size + 1, 3, none⟩ = some (.int .i64 0) := by rw [cell_of_block HSB0.out]; rfl
                  have k4 : y4.cell? ⟨w.heap.size, 4, none⟩ = some (.int .i64 0) := by rw [cell_of_block HRB0.out]; rfl
                  have f4 : y4.frozen? ⟨w.heap.size, 4, none⟩ = false := by simp [World.frozen?, HRB0.out]
                  have v4 : y4.cell? ⟨w.heap.size + 1, 4, none⟩ = some (.int .i64 0) := by rw [cell_of_block HSB0.out]; rfl
                  have k5 : y4.cell? ⟨w.heap.size, 5, none⟩ = some (.int .i64 0) := by rw [cell_of_block HRB0.out]; rfl
                  have f5 : y4.frozen? ⟨w.heap.size, 5, none⟩ = false := by simp [World.frozen?, HRB0.out]
                  have v5 : y4.cell? ⟨w.heap.size + 1, 5, none⟩ = some (.int .i64 n0) := by rw [cell_of_block HSB0.out]; rfl
                  have k6 : y4.cell? ⟨w.heap.size, 6, none⟩ = some (.int .i64 0) := by rw [cell_of_block HRB0.out]; rfl
                  have f6 : y4.frozen? ⟨w.heap.size, 6, none⟩ = false := by simp [World.frozen?, HRB0.out]
                  have v6 : y4.cell? ⟨w.heap.size + 1, 6, none⟩ = some (.int .i64 n1) := by rw [cell_of_block HSB0.out]; rfl
                  have k7 : y4.cell? ⟨w.heap.size, 7, none⟩ = some (.int .i64 0) := by rw [cell_of_block HRB0.out]; rfl
                  have f7 : y4.frozen? ⟨w.heap.size, 7, none⟩ = false := by simp [World.frozen?, HRB0.out]
                  have v7 : y4.cell? ⟨w.heap.size + 1, 7, none⟩ = some (.int .i64 n2) := by rw [cell_of_block HSB0.out]; rfl
                  have k8 : y4.cell? ⟨w.heap.size, 8, none⟩ = some (.int .i64 0) := by rw [cell_of_block HRB0.out]; rfl
                  have f8 : y4.frozen? ⟨w.heap.size, 8, none⟩ = false := by simp [World.frozen?, HRB0.out]
                  have v8 : y4.cell? ⟨w.heap.size + 1, 8, none⟩ = some (.int .i64 0) := by rw [cell_of_block HSB0.out]; rfl
                  have HTW := hide (nine_set (b0 := .int .i64 4) (b1 := .int .i64 ra) (b2 := .int .i64 rb) (b3 := .int .i64 0) (b4 := .int .i64 0) (b5 := .int .i64 n0) (b6 := .int .i64 n1) (b7 := .int .i64 n2) (b8 := .int .i64 0) HRB.out)
                  have HPP : Hid (StmtPost ws w (.returned (.tuple #[.agg #[.int .i64 4, .int .i64 ra, .int .i64 rb, .int .i64 0, .int .i64 0, .int .i64 n0, .int .i64 n1, .int .i64 n2, .int .i64 0], .bool false])) ((((((((((((y4.setCell ⟨w.heap.size + 1, 1, none⟩ (.int .i64 ra)).setCell ⟨w.heap.size + 1, 2, none⟩ (.int .i64 rb)).setCell ⟨w.heap.size, 0, none⟩ (.int .i64 4)).setCell ⟨w.heap.size, 1, none⟩ (.int .i64 ra)).setCell ⟨w.heap.size, 2, none⟩ (.int .i64 rb)).setCell ⟨w.heap.size, 3, none⟩ (.int .i64 0)).setCell ⟨w.heap.size, 4, none⟩ (.int .i64 0)).setCell ⟨w.heap.size, 5, none⟩ (.int .i64 n0)).setCell ⟨w.heap.size, 6, none⟩ (.int .i64 n1)).setCell ⟨w.heap.size, 7, none⟩ (.int .i64 n2)).setCell ⟨w.heap.size, 8, none⟩ (.int .i64 0)).alloc (.cells #[.int .i64 ra, .int .i64 rb] 51))) := ⟨_, _, rfl, (HOK.out _ HOQ.out).1, (HOK.out _ HOQ.out).2, (((((((((((HBL2.out.setCell (Nat.le_refl _) _).setCell (Nat.le_refl _) _).setCell (Nat.le_refl _) _).setCell (Nat.le_refl _) _).setCell (Nat.le_refl _) _).setCell (Nat.le_refl _) _).setCell (Nat.le_refl _) _).setCell (Nat.le_refl _) _).setCell (Nat.le_refl _) _)).alloc (by simp; omega) _)⟩
                  have HTX : Hid (((((((((((((y4.setCell ⟨w.heap.size + 1, 1, none⟩ (.int .i64 ra)).setCell ⟨w.heap.size + 1, 2, none⟩ (.int .i64 rb)).setCell ⟨w.heap.size, 0, none⟩ (.int .i64 4)).setCell ⟨w.heap.size, 1, none⟩ (.int .i64 ra)).setCell ⟨w.heap.size, 2, none⟩ (.int .i64 rb)).setCell ⟨w.heap.size, 3, none⟩ (.int .i64 0)).setCell ⟨w.heap.size, 4, none⟩ (.int .i64 0)).setCell ⟨w.heap.size, 5, none⟩ (.int .i64 n0)).setCell ⟨w.heap.size, 6, none⟩ (.int .i64 n1)).setCell ⟨w.heap.size, 7, none⟩ (.int .i64 n2)).setCell ⟨w.heap.size, 8, none⟩ (.int .i64 0)).alloc (.cells #[.int .i64 ra, .int .i64 rb] 51)).heap[w.heap.size]? = some (.cells #[.int .i64 4, .int .i64 ra, .int .i64 rb, .int .i64 0, .int .i64 0, .int .i64 n0, .int .i64 n1, .int .i64 n2, .int .i64 0] 53 (0, 0))) := by
                    show _ = _
                    rw [Below.heap_alloc _ _ _ (by simp; omega)]; exact HTW.out
                  go_wp2_with fail
                  have s0 : ((((((((((((y4.setCell ⟨w.heap.size + 1, 1, none⟩ (.int .i64 ra)).setCell ⟨w.heap.size + 1, 2, none⟩ (.int .i64 rb)).setCell ⟨w.heap.size, 0, none⟩ (.int .i64 4)).setCell ⟨w.heap.size, 1, none⟩ (.int .i64 ra)).setCell ⟨w.heap.size, 2, none⟩ (.int .i64 rb)).setCell ⟨w.heap.size, 3, none⟩ (.int .i64 0)).setCell ⟨w.heap.size, 4, none⟩ (.int .i64 0)).setCell ⟨w.heap.size, 5, none⟩ (.int .i64 n0)).setCell ⟨w.heap.size, 6, none⟩ (.int .i64 n1)).setCell ⟨w.heap.size, 7, none⟩ (.int .i64 n2)).setCell ⟨w.heap.size, 8, none⟩ (.int .i64 0)).alloc (.cells #[.int .i64 ra, .int .i64 rb] 51)).cell? ⟨w.heap.size, 0, none⟩ = some (.int .i64 4) := by rw [cell_of_block HTX.out]; rfl
                  have s1 : ((((((((((((y4.setCell ⟨w.heap.size + 1, 1, none⟩ (.int .i64 ra)).setCell ⟨w.heap.size + 1, 2, none⟩ (.int .i64 rb)).setCell ⟨w.heap.size, 0, none⟩ (.int .i64 4)).setCell ⟨w.heap.size, 1, none⟩ (.int .i64 ra)).setCell ⟨w.heap.size, 2, none⟩ (.int .i64 rb)).setCell ⟨w.heap.size, 3, none⟩ (.int .i64 0)).setCell ⟨w.heap.size, 4, none⟩ (.int .i64 0)).setCell ⟨w.heap.size, 5, none⟩ (.int .i64 n0)).setCell ⟨w.heap.size, 6, none⟩ (.int .i64 n1)).setCell ⟨w.heap.size, 7, none⟩ (.int .i64 n2)).setCell ⟨w.heap.size, 8, none⟩ (.int .i64 0)).alloc (.cells #[.int .i64 ra, .int .i64 rb] 51)).cell? ⟨w.heap.size, 1, none⟩ = some (.int .i64 ra) := by rw [cell_of_block HTX.out]; rfl
                  have s2 : ((((((((((((y4.setCell ⟨w.heap.size + 1, 1, none⟩ (.int .i64 ra)).setCell ⟨w.heap.size + 1, 2, none⟩ (.int .i64 rb)).setCell ⟨w.heap.size, 0, none⟩ (.int .i64 4)).setCell ⟨w.heap.size, 1, none⟩ (.int .i64 ra)).setCell ⟨w.heap.size, 2, none⟩ (.int .i64 rb)).setCell ⟨w.heap.size, 3, none⟩ (.int .i64 0)).setCell ⟨w.heap.size, 4, none⟩ (.int .i64 0)).setCell ⟨w.heap.size, 5, none⟩ (.int .i64 n0)).setCell ⟨w.heap.size, 6, none⟩ (.int .i64 n1)).setCell ⟨w.heap.size, 7, none⟩ (.int .i64 n2)).setCell ⟨w.heap.size, 8, none⟩ (.int .i64 0)).alloc (.cells #[.int .i64 ra, .int .i64 rb] 51)).cell? ⟨w.heap.size, 2, none⟩ = some (.int .i64 rb) := by rw [cell_of_block HTX.out]; rfl
                  have s3 : ((((((((((((y4.setCell ⟨w.heap.size + 1, 1, none⟩ (.int .i64 ra)).setCell ⟨w.heap.size + 1, 2, none⟩ (.int .i64 rb)).setCell ⟨w.heap.size, 0, none⟩ (.int .i64 4)).setCell ⟨w.heap.size, 1, none⟩ (.int .i64 ra)).setCell ⟨w.heap.size, 2, none⟩ (.int .i64 rb)).setCell ⟨w.heap.size, 3, none⟩ (.int .i64 0)).setCell ⟨w.heap.size, 4, none⟩ (.int .i64 0)).setCell ⟨w.heap.size, 5, none⟩ (.int .i64 n0)).setCell ⟨w.heap.size, 6, none⟩ (.int .i64 n1)).setCell ⟨w.heap.size, 7, none⟩ (.int .i64 n2)).setCell ⟨w.heap.size, 8, none⟩ (.int .i64 0)).alloc (.cells #[.int .i64 ra, .int .i64 rb] 51)).cell? ⟨w.heap.size, 3, none⟩ = some (.int .i64 0) := by rw [cell_of_block HTX.out]; rfl
                  have s4 : ((((((((((((y4.setCell ⟨w.heap.size + 1, 1, none⟩ (.int .i64 ra)).setCell ⟨w.heap.size + 1, 2, none⟩ (.int .i64 rb)).setCell ⟨w.heap.size, 0, none⟩ (.int .i64 4)).setCell ⟨w.heap.size, 1, none⟩ (.int .i64 ra)).setCell ⟨w.heap.size, 2, none⟩ (.int .i64 rb)).setCell ⟨w.heap.size, 3, none⟩ (.int .i64 0)).setCell ⟨w.heap.size, 4, none⟩ (.int .i64 0)).setCell ⟨w.heap.size, 5, none⟩ (.int .i64 n0)).setCell ⟨w.heap.size, 6, none⟩ (.int .i64 n1)).setCell ⟨w.heap.size, 7, none⟩ (.int .i64 n2)).setCell ⟨w.heap.size, 8, none⟩ (.int .i64 0)).alloc (.cells #[.int .i64 ra, .int .i64 rb] 51)).cell? ⟨w.heap.size, 4, none⟩ = some (.int .i64 0) := by rw [cell_of_block HTX.out]; rfl
                  have s5 : ((((((((((((y4.setCell ⟨w.heap.size + 1, 1, none⟩ (.int .i64 ra)).setCell ⟨w.heap.size + 1, 2, none⟩ (.int .i64 rb)).setCell ⟨w.heap.size, 0, none⟩ (.int .i64 4)).setCell ⟨w.heap.size, 1, none⟩ (.int .i64 ra)).setCell ⟨w.heap.size, 2, none⟩ (.int .i64 rb)).setCell ⟨w.heap.size, 3, none⟩ (.int .i64 0)).setCell ⟨w.heap.size, 4, none⟩ (.int .i64 0)).setCell ⟨w.heap.size, 5, none⟩ (.int .i64 n0)).setCell ⟨w.heap.size, 6, none⟩ (.int .i64 n1)).setCell ⟨w.heap.size, 7, none⟩ (.int .i64 n2)).setCell ⟨w.heap.size, 8, none⟩ (.int .i64 0)).alloc (.cells #[.int .i64 ra, .int .i64 rb] 51)).cell? ⟨w.heap.size, 5, none⟩ = some (.int .i64 n0) := by rw [cell_of_block HTX.out]; rfl
                  have s6 : ((((((((((((y4.setCell ⟨w.heap.size + 1, 1, none⟩ (.int .i64 ra)).setCell ⟨w.heap.size + 1, 2, none⟩ (.int .i64 rb)).setCell ⟨w.heap.size, 0, none⟩ (.int .i64 4)).setCell ⟨w.heap.size, 1, none⟩ (.int .i64 ra)).setCell ⟨w.heap.size, 2, none⟩ (.int .i64 rb)).setCell ⟨w.heap.size, 3, none⟩ (.int .i64 0)).setCell ⟨w.heap.size, 4, none⟩ (.int .i64 0)).setCell ⟨w.heap.size, 5, none⟩ (.int .i64 n0)).setCell ⟨w.heap.size, 6, none⟩ (.int .i64 n1)).setCell ⟨w.heap.size, 7, none⟩ (.int .i64 n2)).setCell ⟨w.heap.size, 8, none⟩ (.int .i64 0)).alloc (.cells #[.int .i64 ra, .int .i64 rb] 51)).cell? ⟨w.heap.size, 6, none⟩ = some (.int .i64 n1) := by rw [cell_of_block HTX.out]; rfl
                  have s7 : ((((((((((((y4.setCell ⟨w.heap.size + 1, 1, none⟩ (.int .i64 ra)).setCell ⟨w.heap.size + 1, 2, none⟩ (.int .i64 rb)).setCell ⟨w.heap.size, 0, none⟩ (.int .i64 4)).setCell ⟨w.heap.size, 1, none⟩ (.int .i64 ra)).setCell ⟨w.heap.size, 2, none⟩ (.int .i64 rb)).setCell ⟨w.heap.size, 3, none⟩ (.int .i64 0)).setCell ⟨w.heap.size, 4, none⟩ (.int .i64 0)).setCell ⟨w.heap.size, 5, none⟩ (.int .i64 n0)).setCell ⟨w.heap.size, 6, none⟩ (.int .i64 n1)).setCell ⟨w.heap.size, 7, none⟩ (.int .i64 n2)).setCell ⟨w.heap.size, 8, none⟩ (.int .i64 0)).alloc (.cells #[.int .i64 ra, .int .i64 rb] 51)).cell? ⟨w.heap.size, 7, none⟩ = some (.int .i64 n2) := by rw [cell_of_block HTX.out]; rfl
                  have s8 : ((((((((((((y4.setCell ⟨w.heap.size + 1, 1, none⟩ (.int .i64 ra)).setCell ⟨w.heap.size + 1, 2, none⟩ (.int .i64 rb)).setCell ⟨w.heap.size, 0, none⟩ (.int .i64 4)).setCell ⟨w.heap.size, 1, none⟩ (.int .i64 ra)).setCell ⟨w.heap.size, 2, none⟩ (.int .i64 rb)).setCell ⟨w.heap.size, 3, none⟩ (.int .i64 0)).setCell ⟨w.heap.size, 4, none⟩ (.int .i64 0)).setCell ⟨w.heap.size, 5, none⟩ (.int .i64 n0)).setCell ⟨w.heap.size, 6, none⟩ (.int .i64 n1)).setCell ⟨w.heap.size, 7, none⟩ (.int .i64 n2)).setCell ⟨w.heap.size, 8, none⟩ (.int .i64 0)).alloc (.cells #[.int .i64 ra, .int .i64 rb] 51)).cell? ⟨w.heap.size, 8, none⟩ = some (.int .i64 0) := by rw [cell_of_block HTX.out]; rfl
                  exact bodyPost_ret (v := .tuple #[.agg #[.int .i64 4, .int .i64 ra, .int .i64 rb, .int .i64 0, .int .i64 0, .int .i64 n0, .int .i64 n1, .int .i64 n2, .int .i64 0], .bool false]) (by simp [results, Tryd.results31, go_sem, s0, s1, s2, s3, s4, s5, s6, s7, s8]) rfl HPP.out

                | true =>
                  have HOQ : Hid (b3 = (true && true && true && b3)) := rfl
                  have k0 : y4.cell? ⟨w.heap.size, 0, none⟩ = some (.int .i64 0) := by rw [cell_of_block HRB0.out]; rfl
                  have f0 : y4.frozen? ⟨w.heap.size, 0, none⟩ = false := by simp [World.frozen?, HRB0.out]
                  have v0 : y4.cell? ⟨w.heap.size + 1, 0, none⟩ = some (.int .i64 4) := by rw [cell_of_block HSB0.out]; rfl
                  have k1 : y4.cell? ⟨w.heap.size, 1, none⟩ = some (.int .i64 0) := by rw [cell_of_block HRB0.out]; rfl
                  have f1 : y4.frozen? ⟨w.heap.size, 1, none⟩ = false := by simp [World.frozen?, HRB0.out]
                  have v1 : y4.cell? ⟨w.heap.size + 1, 1, none⟩ = some (.int .i64 0) := by rw [cell_of_block HSB0.out]; rfl
                  have k2 : y4.cell? ⟨w.heap.size, 2, none⟩ = some (.int .i64 0) := by rw [cell_of_block HRB0.out]; rfl
                  have f2 : y4.frozen? ⟨w.heap.size, 2, none⟩ = false := by simp [World.frozen?, HRB0.out]
                  have v2 : y4.cell? ⟨w.heap.size + 1, 2, none⟩ = some (.int .i64 0) := by rw [cell_of_block HSB0.out]; rfl
                  have k3 : y4.cell? ⟨w.heap.size, 3, none⟩ = some (.int .i64 0) := by rw [cell_of_block HRB0.out]; rfl
                  have f3 : y4.frozen? ⟨w.heap.size, 3, none⟩ = false := by simp [World.frozen?, HRB0.out]
                  have v3 : y4.cell? ⟨w.heap.size + 1, 3, none⟩ = some (.int .i64 0) := by rw [cell_of_block HSB0.out]; rfl
                  have k4 : y4.cell? ⟨w.heap.size, 4, none⟩ = some (.int .i64 0) := by rw [cell_of_block HRB0.out]; rfl
                  have f4 : y4.frozen? ⟨w.heap.size, 4, none⟩ = false := by simp [World.frozen?, HRB0.out]
                  have v4 : y4.cell? ⟨w.heap.size + 1, 4, none⟩ = some (.int .i64 0) := by rw [cell_of_block HSB0.out]; rfl
                  have k5 : y4.cell? ⟨w.heap.size, 5, none⟩ = some (.int .i64 0) := by rw [cell_of_block HRB0.out]; rfl
                  have f5 : y4.frozen? ⟨w.heap.size, 5, none⟩ = false := by simp [World.frozen?, HRB0.out]
                  have v5 : y4.cell? ⟨w.heap.size + 1, 5, none⟩ = some (.int .i64 n0) := by rw [cell_of_block HSB0.out]; rfl
                  have k6 : y4.cell? ⟨w.heap.size, 6, none⟩ = some (.int .i64 0) := by rw [cell_of_block HRB0.out]; rfl
                  have f6 : y4.frozen? ⟨w.heap.size, 6, none⟩ = false := by simp [World.frozen?, HRB0.out]
                  have v6 : y4.cell? ⟨w.heap.size + 1, 6, none⟩ = some (.int .i64 n1) := by rw [cell_of_block HSB0.out]; rfl
                  have k7 : y4.cell? ⟨w.heap.size, 7, none⟩ = some (.int .i64 0) := by rw [cell_of_block HRB0.out]; rfl
                  have f7 : y4.frozen? ⟨w.heap.size, 7, none⟩ = false := by simp [World.frozen?, HRB0.out]
                  have v7 : y4.cell? ⟨w.heap.size + 1, 7, none⟩ = some (.int .i64 n2) := by rw [cell_of_block HSB0.out]; rfl
                  have k8 : y4.cell? ⟨w.heap.size, 8, none⟩ = some (.int .i64 0) := by rw [cell_of_block HRB0.out]; rfl
                  have f8 : y4.frozen? ⟨w.heap.size, 8, none⟩ = false := by simp [World.frozen?, HRB0.out]
                  have v8 : y4.cell? ⟨w.heap.size + 1, 8, none⟩ = some (.int .i64 0) := by rw [cell_of_block HSB0.out]; rfl
                  have HTW := hide (nine_set (b0 := .int .i64 4) (b1 := .int .i64 ra) (b2 := .int .i64 rb) (b3 := .int .i64 0) (b4 := .int .i64 0) (b5 := .int .i64 n0) (b6 := .int .i64 n1) (b7 := .int .i64 n2) (b8 := .int .i64 0) HRB.out)
                  have HPP : Hid (StmtPost ws w (.returned (.tuple #[.agg #[.int .i64 4, .int .i64 ra, .int .i64 rb, .int .i64 0, .int .i64 0, .int .i64 n0, .int .i64 n1, .int .i64 n2, .int .i64 0], .bool b3])) ((((((((((((y4.setCell ⟨w.heap.size + 1, 1, none⟩ (.int .i64 ra)).setCell ⟨w.heap.size + 1, 2, none⟩ (.int .i64 rb)).setCell ⟨w.heap.size, 0, none⟩ (.int .i64 4)).setCell ⟨w.heap.size, 1, none⟩ (.int .i64 ra)).setCell ⟨w.heap.size, 2, none⟩ (.int .i64 rb)).setCell ⟨w.heap.size, 3, none⟩ (.int .i64 0)).setCell ⟨w.heap.size, 4, none⟩ (.int .i64 0)).setCell ⟨w.heap.size, 5, none⟩ (.int .i64 n0)).setCell ⟨w.heap.size, 6, none⟩ (.int .i64 n1)).setCell ⟨w.heap.size, 7, none⟩ (.int .i64 n2)).setCell ⟨w.heap.size, 8, none⟩ (.int .i64 0)).alloc (.cells #[.int .i64 ra, .int .i64 rb] 51))) := ⟨_, _, rfl, (HOK.out _ HOQ.out).1, (HOK.out _ HOQ.out).2, (((((((((((HBL2.out.setCell (Nat.le_refl _) _).setCell (Nat.le_refl _) _).setCell (Nat.le_refl _) _).setCell (Nat.le_refl _) _).setCell (Nat.le_refl _) _).setCell (Nat.le_refl _) _).setCell (Nat.le_refl _) _).setCell (Nat.le_refl _) _).setCell (Nat.le_refl _) _)).alloc (by simp; omega) _)⟩
                  have HTX : Hid (((((((((((((y4.setCell ⟨w.heap.size + 1, 1, none⟩ (.int .i64 ra)).setCell ⟨w.heap.size + 1, 2, none⟩ (.int .i64 rb)).setCell ⟨w.heap.size, 0, none⟩ (.int .i64 4)).setCell ⟨w.heap.size, 1, none⟩ (.int .i64 ra)).setCell ⟨w.heap.size, 2, none⟩ (.int .i64 rb)).setCell ⟨w.heap.size, 3, none⟩ (.int .i64 0)).setCell ⟨w.heap.size, 4, none⟩ (.int .i64 0)).setCell ⟨w.heap.size, 5, none⟩ (.int .i64 n0)).setCell ⟨w.heap.size, 6, none⟩ (.int .i64 n1)).setCell ⟨w.heap.size, 7, none⟩ (.int .i64 n2)).setCell ⟨w.heap.size, 8, none⟩ (.int .i64 0)).alloc (.cells #[.int .i64 ra, .int .i64 rb] 51)).heap[w.heap.size]? = some (.cells #[.int .i64 4, .int .i64 ra, .int .i64 rb, .int .i64 0, .int .i64 0, .int .i64 n0, .int .i64 n1, .int .i64 n2, .int .i64 0] 53 (0, 0))) := by
                    show _ = _
                    rw [Below.heap_alloc _ _ _ (by simp; omega)]; exact HTW.out
                  go_wp2_with fail
                  have s0 : ((((((((((((y4.setCell ⟨w.heap.size + 1, 1, none⟩ (.int .i64 ra)).setCell ⟨w.heap.size + 1, 2, none⟩ (.int .i64 rb)).setCell ⟨w.heap.size, 0, none⟩ (.int .i64 4)).setCell ⟨w.heap.size, 1, none⟩ (.int .i64 ra)).setCell ⟨w.heap.size, 2, none⟩ (.int .i64 rb)).setCell ⟨w.heap.size, 3, none⟩ (.int .i64 0)).setCell ⟨w.heap.size, 4, none⟩ (.int .i64 0)).setCell ⟨w.heap.size, 5, none⟩ (.int .i64 n0)).setCell ⟨w.heap.size, 6, none⟩ (.int .i64 n1)).setCell ⟨w.heap.size, 7, none⟩ (.int .i64 n2)).setCell ⟨w.heap.size, 8, none⟩ (.int .i64 0)).alloc (.cells #[.int .i64 ra, .int .i64 rb] 51)).cell? ⟨w.heap.size, 0, none⟩ = some (.int .i64 4) := by rw [cell_of_block HTX.out]; rfl
                  have s1 : ((((((((((((y4.setCell ⟨w.heap.size + 1, 1, none⟩ (.int .i64 ra)).setCell ⟨w.heap.size + 1, 2, none⟩ (.int .i64 rb)).setCell ⟨w.heap.size, 0, none⟩ (.int .i64 4)).setCell ⟨w.heap.size, 1, none⟩ (.int .i64 ra)).setCell ⟨w.heap.size, 2, none⟩ (.int .i64 rb)).setCell ⟨w.heap.size, 3, none⟩ (.int .i64 0)).setCell ⟨w.heap.size, 4, none⟩ (.int .i64 0)).setCell ⟨w.heap.size, 5, none⟩ (.int .i64 n0)).setCell ⟨w.heap.size, 6, none⟩ (.int .i64 n1)).setCell ⟨w.heap.size, 7, none⟩ (.int .i64 n2)).setCell ⟨w.heap.size, 8, none⟩ (.int .i64 0)).alloc (.cells #[.int .i64 ra, .int .i64 rb] 51)).cell? ⟨w.heap.size, 1, none⟩ = some (.int .i64 ra) := by rw [cell_of_block HTX.out]; rfl
                  have s2 : ((((((((((((y4.setCell ⟨w.heap.size + 1, 1, none⟩ (.int .i64 ra)).setCell ⟨w.heap.size + 1, 2, none⟩ (.int .i64 rb)).setCell ⟨w.heap.size, 0, none⟩ (.int .i64 4)).setCell ⟨w.heap.size, 1, none⟩ (.int .i64 ra)).setCell ⟨w.heap.size, 2, none⟩ (.int .i64 rb)).setCell ⟨w.heap.size, 3, none⟩ (.int .i64 0)).setCell ⟨w.heap.size, 4, none⟩ (.int .i64 0)).setCell ⟨w.heap.size, 5, none⟩ (.int .i64 n0)).setCell ⟨w.heap.size, 6, none⟩ (.int .i64 n1)).setCell ⟨w.heap.size, 7, none⟩ (.int .i64 n2)).setCell ⟨w.heap.size, 8, none⟩ (.int .i64 0)).alloc (.cells #[.int .i64 ra, .int .i64 rb] 51)).cell? ⟨w.heap.size, 2, none⟩ = some (.int .i64 rb) := by rw [cell_of_block HTX.out]; rfl
                  have s3 : ((((((((((((y4.setCell ⟨w.heap.size + 1, 1, none⟩ (.int .i64 ra)).setCell ⟨w.heap.size + 1, 2, none⟩ (.int .i64 rb)).setCell ⟨w.heap.size, 0, none⟩ (.int .i64 4)).setCell ⟨w.heap.size, 1, none⟩ (.int .i64 ra)).setCell ⟨w.heap.size, 2, none⟩ (.int .i64 rb)).setCell ⟨w.heap.size, 3, none⟩ (.int .i64 0)).setCell ⟨w.heap.size, 4, none⟩ (.int .i64 0)).setCell ⟨w.heap.size, 5, none⟩ (.int .i64 n0)).setCell ⟨w.heap.size, 6, none⟩ (.int .i64 n1)).setCell ⟨w.heap.size, 7, none⟩ (.int .i64 n2)).setCell ⟨w.heap.size, 8, none⟩ (.int .i64 0)).alloc (.cells #[.int .i64 ra, .int .i64 rb] 51)).cell? ⟨w.heap.size, 3, none⟩ = some (.int .i64 0) := by rw [cell_of_block HTX.out]; rfl
                  have s4 : ((((((((((((y4.setCell ⟨w.heap.size + 1, 1, none⟩ (.int .i64 ra)).setCell ⟨w.heap.size + 1, 2, none⟩ (.int .i64 rb)).setCell ⟨w.heap.size, 0, none⟩ (.int .i64 4)).setCell ⟨w.heap.size, 1, none⟩ (.int .i64 ra)).setCell ⟨w.heap.size, 2, none⟩ (.int .i64 rb)).setCell ⟨w.heap.size, 3, none⟩ (.int .i64 0)).setCell ⟨w.heap.size, 4, none⟩ (.int .i64 0)).setCell ⟨w.heap.size, 5, none⟩ (.int .i64 n0)).setCell ⟨w.heap.size, 6, none⟩ (.int .i64 n1)).setCell ⟨w.heap.size, 7, none⟩ (.int .i64 n2)).setCell ⟨w.heap.size, 8, none⟩ (.int .i64 0)).alloc (.cells #[.int .i64 ra, .int .i64 rb] 51)).cell? ⟨w.heap.size, 4, none⟩ = some (.int .i64 0) := by rw [cell_of_block HTX.out]; rfl
                  have s5 : ((((((((((((y4.setCell ⟨w.heap.size + 1, 1, none⟩ (.int .i64 ra)).setCell ⟨w.heap.size + 1, 2, none⟩ (.int .i64 rb)).setCell ⟨w.heap.size, 0, none⟩ (.int .i64 4)).setCell ⟨w.heap.size, 1, none⟩ (.int .i64 ra)).setCell ⟨w.heap.size, 2, none⟩ (.int .i64 rb)).setCell ⟨w.heap.size, 3, none⟩ (.int .i64 0)).setCell ⟨w.heap.size, 4, none⟩ (.int .i64 0)).setCell ⟨w.heap.size, 5, none⟩ (.int .i64 n0)).setCell ⟨w.heap.size, 6, none⟩ (.int .i64 n1)).setCell ⟨w.heap.size, 7, none⟩ (.int .i64 n2)).setCell ⟨w.heap.size, 8, none⟩ (.int .i64 0)).alloc (.cells #[.int .i64 ra, .int .i64 rb] 51)).cell? ⟨w.heap.size, 5, none⟩ = some (.int .i64 n0) := by rw [cell_of_block HTX.out]; rfl
                  have s6 : ((((((((((((y4.setCell ⟨w.heap.size + 1, 1, none⟩ (.int .i64 ra)).setCell ⟨w.heap.size + 1, 2, none⟩ (.int .i64 rb)).setCell ⟨w.heap.size, 0, none⟩ (.int .i64 4)).setCell ⟨w.heap.size, 1, none⟩ (.int .i64 ra)).setCell ⟨w.heap.size, 2, none⟩ (.int .i64 rb)).setCell ⟨w.heap.size, 3, none⟩ (.int .i64 0)).setCell ⟨w.heap.size, 4, none⟩ (.int .i64 0)).setCell ⟨w.heap.size, 5, none⟩ (.int .i64 n0)).setCell ⟨w.heap.size, 6, none⟩ (.int .i64 n1)).setCell ⟨w.heap.size, 7, none⟩ (.int .i64 n2)).setCell ⟨w.heap.size, 8, none⟩ (.int .i64 0)).alloc (.cells #[.int .i64 ra, .int .i64 rb] 51)).cell? ⟨w.heap.size, 6, none⟩ = some (.int .i64 n1) := by rw [cell_of_block HTX.out]; rfl
                  have s7 : ((((((((((((y4.setCell ⟨w.heap.size + 1, 1, none⟩ (.int .i64 ra)).setCell ⟨w.heap.size + 1, 2, none⟩ (.int .i64 rb)).setCell ⟨w.heap.size, 0, none⟩ (.int .i64 4)).setCell ⟨w.heap.size, 1, none⟩ (.int .i64 ra)).setCell ⟨w.heap.size, 2, none⟩ (.int .i64 rb)).setCell ⟨w.heap.size, 3, none⟩ (.int .i64 0)).setCell ⟨w.heap.size, 4, none⟩ (.int .i64 0)).setCell ⟨w.heap.size, 5, none⟩ (.int .i64 n0)).setCell ⟨w.heap.size, 6, none⟩ (.int .i64 n1)).setCell ⟨w.heap.size, 7, none⟩ (.int .i64 n2)).setCell ⟨w.heap.size, 8, none⟩ (.int .i64 0)).alloc (.cells #[.int .i64 ra, .int .i64 rb] 51)).cell? ⟨w.heap.size, 7, none⟩ = some (.int .i64 n2) := by rw [cell_of_block HTX.out]; rfl
                  have s8 : ((((((((((((y4.setCell ⟨w.heap.size + 1, 1, none⟩ (.int .i64 ra)).setCell ⟨w.heap.size + 1, 2, none⟩ (.int .i64 rb)).setCell ⟨w.heap.size, 0, none⟩ (.int .i64 4)).setCell ⟨w.heap.size, 1, none⟩ (.int .i64 ra)).setCell ⟨w.heap.size, 2, none⟩ (.int .i64 rb)).setCell ⟨w.heap.size, 3, none⟩ (.int .i64 0)).setCell ⟨w.heap.size, 4, none⟩ (.int .i64 0)).setCell ⟨w.heap.size, 5, none⟩ (.int .i64 n0)).setCell ⟨w.heap.size, 6, none⟩ (.int .i64 n1)).setCell ⟨w.heap.size, 7, none⟩ (.int .i64 n2)).setCell ⟨w.heap.size, 8, none⟩ (.int .i64 0)).alloc (.cells #[.int .i64 ra, .int .i64 rb] 51)).cell? ⟨w.heap.size, 8, none⟩ = some (.int .i64 0) := by rw [cell_of_block HTX.out]; rfl
                  exact bodyPost_ret (v := .tuple #[.agg #[.int .i64 4, .int .i64 ra, .int .i64 rb, .int .i64 0, .int .i64 0, .int .i64 n0, .int .i64 n1, .int .i64 n2, .int .i64 0], .bool b3]) (by simp [results, Tryd.results31, go_sem, s0, s1, s2, s3, s4, s5, s6, s7, s8]) rfl HPP.out

          · have hmi3 : ¬ (m : Int) = 4 := by omega
            have hmb3 : ((m : Int) == 4) = false := beq_false_of_ne hmi3
            have HNO := hide (st_bad (ws := ws) m (by omega) (fun hq => absurd (q4.symm.trans (HW0.out.symm.trans hq)) (by decide)) (fun hq => absurd (q4.symm.trans (HW0.out.symm.trans hq)) (by decide)) (fun hq => absurd (q4.symm.trans (HW0.out.symm.trans hq)) (by decide)) (fun _ => hmw4) (fun _ i _ hq => (op_ne _).2.2.2 (hq.trans (HW0.out.trans q4))))
            clear q1 q2 q3 q4 hmw4
            have HPP : Hid (StmtPost ws w (.returned (.tuple #[.agg #[.int .i64 4, .int .i64 0, .int .i64 0, .int .i64 0, .int .i64 0, .int .i64 0, .int .i64 0, .int .i64 0, .int .i64 0], .bool false])) ((w.alloc (.cells #[.int .i64 4, .int .i64 0, .int .i64 0, .int .i64 0, .int .i64 0, .int .i64 0, .int .i64 0, .int .i64 0, .int .i64 0] 53)).alloc (.cells #[.int .i64 4, .int .i64 0, .int .i64 0, .int .i64 0, .int .i64 0, .int .i64 0, .int .i64 0, .int .i64 0, .int .i64 0] 53))) := stmt_no (s := ⟨4, 0, 0, 0, 0, 0, 0, 0, 0⟩) HNO.out (below_alloc2 _ _ _)
            go_wp2_with fail
            exact bodyPost_ret (v := .tuple #[.agg #[.int .i64 4, .int .i64 0, .int .i64 0, .int .i64 0, .int .i64 0, .int .i64 0, .int .i64 0, .int .i64 0, .int .i64 0], .bool false]) (by simp [results, Tryd.results31, go_sem]) rfl HPP.out

        · rw [decide_eq_false q4] at e4
          have HWD := hide (fun W => words14_any W)
          have HNF0 : Hid (∀ j : Nat, j < 0 → ¬ (opD (11 + (j : Int)) = w0 ∧ m = 2)) := fun j hj => absurd hj (by omega)
          have HZ3 : Hid ((((w.alloc (.cells #[.int .i64 0, .int .i64 0, .int .i64 0, .int .i64 0, .int .i64 0, .int .i64 0, .int .i64 0, .int .i64 0, .int .i64 0] 53)).alloc (.cells #[.int .i64 0, .int .i64 0, .int .i64 0, .int .i64 0, .int .i64 0, .int .i64 0, .int .i64 0, .int .i64 0, .int .i64 0] 53)).alloc (.cells #[.string (strOfNums (opD 11)), .string (strOfNums (opD 12)), .string (strOfNums (opD 13)), .string (strOfNums (opD 14)), .string (strOfNums (opD 15)), .string (strOfNums (opD 16)), .string (strOfNums (opD 17)), .string (strOfNums (opD 18))] 9)).heap.size = w.heap.size + 1 + 1 + 1) := by show _ = _; simp
          have HNE := hide (And.intro q1 (And.intro q2 (And.intro q3 q4)))
          clear q1 q2 q3 q4
          go_wp2_with fail
          refine (HWD.out _).mono ?_
          rintro e y0 ⟨rfl, rfl⟩
          go_wp2_with fail
          go_loopw [18] (fun iv wr => ∃ i : Nat, i ≤ 8 ∧ iv = .int .i64 i ∧ (∀ j : Nat, j < i → ¬ (opD (11 + (j : Int)) = w0 ∧ m = 2)) ∧ Below (w.heap.size + 1 + 1 + 1) (((w.alloc (.cells #[.int .i64 0, .int .i64 0, .int .i64 0, .int .i64 0, .int .i64 0, .int .i64 0, .int .i64 0, .int .i64 0, .int .i64 0] 53)).alloc (.cells #[.int .i64 0, .int .i64 0, .int .i64 0, .int .i64 0, .int .i64 0, .int .i64 0, .int .i64 0, .int .i64 0, .int .i64 0] 53)).alloc (.cells #[.string (strOfNums (opD 11)), .string (strOfNums (opD 12)), .string (strOfNums (opD 13)), .string (strOfNums (opD 14)), .string (strOfNums (opD 15)), .string (strOfNums (opD 16)), .string (strOfNums (opD 17)), .string (strOfNums (opD 18))] 9)) wr) (fun iv _ => 8 - (intOf iv).toNat)
          case atStart => exact ⟨0, Nat.zero_le _, rfl, HNF0.out, Below.refl _ _⟩
          case round =>
            clear HNF0
            obtain ⟨i, hi8, rfl, hnf, hbel⟩ := hrel
            have HNF := hide hnf
            have HB := hide hbel
            clear hnf
            by_cases hi : i < 8
            · have hii : (i : Int) < 8 := by omega
              obtain ⟨WO, hWO⟩ : ∃ WO, strOfNums (opD (11 + (i : Int))) = WO := ⟨_, rfl⟩
              have heq := str_beq (l := opD (11 + (i : Int))) (m := w0) (op_byte _) (byteL_mem (HW0.out ▸ hsb 0))
              rw [hWO, HA.out] at heq
              have HSQ : Hid (∀ y, Below (w.heap.size + 1 + 1 + 1) (((w.alloc (.cells #[.int .i64 0, .int .i64 0, .int .i64 0, .int .i64 0, .int .i64 0, .int .i64 0, .int .i64 0, .int .i64 0, .int .i64 0] 53)).alloc (.cells #[.int .i64 0, .int .i64 0, .int .i64 0, .int .i64 0, .int .i64 0, .int .i64 0, .int .i64 0, .int .i64 0, .int .i64 0] 53)).alloc (.cells #[.string (strOfNums (opD 11)), .string (strOfNums (opD 12)), .string (strOfNums (opD 13)), .string (strOfNums (opD 14)), .string (strOfNums (opD 15)), .string (strOfNums (opD 16)), .string (strOfNums (opD 17)), .string (strOfNums (opD 18))] 9)) y → y.cell? ⟨w.heap.size + 1 + 1, i, none⟩ = some (.string WO) ∧ y.cell? ⟨b, 0, none⟩ = some (.string A)) := fun y hy => by
                refine ⟨?_, (bcell ((below_alloc3 _ _ _ _).trans (hy.mono (by omega))) _ _ hbz).trans c0⟩
                rw [← hWO]
                exact word_at (three_third hy) hi
              have HXD : Hid (Below (w.heap.size + 1 + 1 + 1) (((w.alloc (.cells #[.int .i64 0, .int .i64 0, .int .i64 0, .int .i64 0, .int .i64 0, .int .i64 0, .int .i64 0, .int .i64 0, .int .i64 0] 53)).alloc (.cells #[.int .i64 0, .int .i64 0, .int .i64 0, .int .i64 0, .int .i64 0, .int .i64 0, .int .i64 0, .int .i64 0, .int .i64 0] 53)).alloc (.cells #[.string (strOfNums (opD 11)), .string (strOfNums (opD 12)), .string (strOfNums (opD 13)), .string (strOfNums (opD 14)), .string (strOfNums (opD 15)), .string (strOfNums (opD 16)), .string (strOfNums (opD 17)), .string (strOfNums (opD 18))] 9)) wr.drew) := HB.out.trans (below_dr1 _ _)
              clear hbel hWO
              by_cases hop : opD (11 + (i : Int)) = w0
              · rw [decide_eq_true hop] at heq
                by_cases hm2 : m = 2
                · have hmi2 : (m : Int) = 2 := by omega
                  have hmb2 : ((m : Int) == 2) = true := by rw [hmi2]; rfl
                  have c1 := HCE.out 1 (by omega)
                  have c2 := HCE.out 2 (by omega)
                  have hi1 : (1 : Int) < (n : Int) := by omega
                  have hi2 : (2 : Int) < (n : Int) := by omega
                  obtain ⟨oq, o9, hoq, hw1, hw1b, ho9, hw2, hw2b, hoe, hlo, hhi⟩ := op_nums hi
                  rw [hoe] at hop
                  have HST := hide (st_op (ws := ws) hlo hhi (by omega) (hop.trans HW0.out.symm))
                  have HR1 := hide (fun W => reads_any (ws.getD 1 []) W (hsb 1) (hl 1))
                  have HR2 := hide (fun W => reads_any (ws.getD 2 []) W (hsb 2) (hl 2))
                  generalize ws.getD 1 [] = p1 at *
                  generalize ws.getD 2 [] = p2 at *
                  obtain ⟨A1, hA1⟩ : ∃ A1, strOfNums p1 = A1 := ⟨_, rfl⟩
                  obtain ⟨A2, hA2⟩ : ∃ A2, strOfNums p2 = A2 := ⟨_, rfl⟩
                  rw [hA1] at c1 HR1
                  rw [hA2] at c2 HR2
                  have HWB : Hid (∀ y, Below (w.heap.size + 1 + 1 + 1) (((w.alloc (.cells #[.int .i64 0, .int .i64 0, .int .i64 0, .int .i64 0, .int .i64 0, .int .i64 0, .int .i64 0, .int .i64 0, .int .i64 0] 53)).alloc (.cells #[.int .i64 0, .int .i64 0, .int .i64 0, .int .i64 0, .int .i64 0, .int .i64 0, .int .i64 0, .int .i64 0, .int .i64 0] 53)).alloc (.cells #[.string (strOfNums (opD 11)), .string (strOfNums (opD 12)), .string (strOfNums (opD 13)), .string (strOfNums (opD 14)), .string (strOfNums (opD 15)), .string (strOfNums (opD 16)), .string (strOfNums (opD 17)), .string (strOfNums (opD 18))] 9)) y → Below w.heap.size w y) := fun y hy => (below_alloc3 _ _ _ _).trans (hy.mono (by omega))
                  clear hop hm2 hA1 hA2 hoe hlo hhi
                  go_wp2_with fail
                  refine region_steady (fun w' => Below (w.heap.size + 1 + 1 + 1) (((w.alloc (.cells #[.int .i64 0, .int .i64 0, .int .i64 0, .int .i64 0, .int .i64 0, .int .i64 0, .int .i64 0, .int .i64 0, .int .i64 0] 53)).alloc (.cells #[.int .i64 0, .int .i64 0, .int .i64 0, .int .i64 0, .int .i64 0, .int .i64 0, .int .i64 0, .int .i64 0, .int .i64 0] 53)).alloc (.cells #[.string (strOfNums (opD 11)), .string (strOfNums (opD 12)), .string (strOfNums (opD 13)), .string (strOfNums (opD 14)), .string (strOfNums (opD 15)), .string (strOfNums (opD 16)), .string (strOfNums (opD 17)), .string (strOfNums (opD 18))] 9)) w' ∧ w'.cell? ⟨w.heap.size + 1 + 1, i, none⟩ = some (.string WO) ∧ w'.cell? ⟨b, 0, none⟩ = some (.string A)) 12 (by rfl) (by kernel_rfl) (by kernel_rfl) (by kernel_rfl) ⟨HXD.out, HSQ.out _ HXD.out⟩ ?_
                  refine steps_take (i := 0) (v := ?_) rfl (Or.inl ⟨by rfl, ?_⟩) ?_
                  rotate_left
                  · intro w hSw
                    try dsimp only at hSw
                    go_simp
                    try with_reducible rfl
                  try simp only [Act.put, List.setIfInBounds_toArray, List.set_cons_zero, List.set_cons_succ]
                  refine steps_take (i := 1) (v := ?_) rfl (Or.inl ⟨by rfl, ?_⟩) ?_
                  rotate_left
                  · intro w hSw
                    try dsimp only at hSw
                    go_simp
                    try with_reducible rfl
                  try simp only [Act.put, List.setIfInBounds_toArray, List.set_cons_zero, List.set_cons_succ]
                  refine steps_take (i := 2) (v := ?_) rfl (Or.inl ⟨by rfl, ?_⟩) ?_
                  rotate_left
                  · intro w hSw
                    try dsimp only at hSw
                    go_simp
                    try with_reducible rfl
                  try simp only [Act.put, List.setIfInBounds_toArray, List.set_cons_zero, List.set_cons_succ]
                  refine steps_take (i := 3) (v := ?_) rfl (Or.inl ⟨by rfl, ?_⟩) ?_
                  rotate_left
                  · intro w hSw
                    try dsimp only at hSw
                    go_simp
                    try with_reducible rfl
                  try simp only [Act.put, List.setIfInBounds_toArray, List.set_cons_zero, List.set_cons_succ]
                  refine steps_take (i := 4) (v := ?_) rfl (Or.inl ⟨by rfl, ?_⟩) ?_
                  rotate_left
                  · intro w hSw
                    try dsimp only at hSw
                    go_simp
                    try with_reducible rfl
                  try simp only [Act.put, List.setIfInBounds_toArray, List.set_cons_zero, List.set_cons_succ]
                  refine steps_take (i := 5) (v := ?_) rfl (Or.inl ⟨by rfl, ?_⟩) ?_
                  rotate_left
                  · intro w hSw
                    try dsimp only at hSw
                    go_simp
                    try with_reducible rfl
                  try simp only [Act.put, List.setIfInBounds_toArray, List.set_cons_zero, List.set_cons_succ]
                  refine steps_take (i := 6) (v := ?_) rfl (Or.inl ⟨by rfl, ?_⟩) ?_
                  rotate_left
                  · intro w hSw
                    try dsimp only at hSw
                    go_simp
                    try with_reducible rfl
                  try simp only [Act.put, List.setIfInBounds_toArray, List.set_cons_zero, List.set_cons_succ]
                  refine steps_take (i := 7) (v := ?_) rfl (Or.inl ⟨by rfl, ?_⟩) ?_
                  rotate_left
                  · intro w hSw
                    try dsimp only at hSw
                    go_simp
                    try with_reducible rfl
                  try simp only [Act.put, List.setIfInBounds_toArray, List.set_cons_zero, List.set_cons_succ]
                  refine steps_take (i := 8) (v := ?_) rfl (Or.inl ⟨by rfl, ?_⟩) ?_
                  rotate_left
                  · intro w hSw
                    try dsimp only at hSw
                    go_simp
                    try with_reducible rfl
                  try simp only [Act.put, List.setIfInBounds_toArray, List.set_cons_zero, List.set_cons_succ]
                  refine steps_take (i := 9) (v := ?_) rfl (Or.inl ⟨by rfl, ?_⟩) ?_
                  rotate_left
                  · intro w hSw
                    try dsimp only at hSw
                    go_simp
                    try with_reducible rfl
                  try simp only [Act.put, List.setIfInBounds_toArray, List.set_cons_zero, List.set_cons_succ]
                  refine steps_take (i := 10) (v := ?_) rfl (Or.inl ⟨by rfl, ?_⟩) ?_
                  rotate_left
                  · intro w hSw
                    try dsimp only at hSw
                    go_simp
                    try with_reducible rfl
                  try simp only [Act.put, List.setIfInBounds_toArray, List.set_cons_zero, List.set_cons_succ]
                  refine steps_take (i := 11) (v := ?_) rfl (Or.inl ⟨by rfl, ?_⟩) ?_
                  rotate_left
                  · intro w hSw
                    try dsimp only at hSw
                    go_simp
                    try with_reducible rfl
                  try simp only [Act.put, List.setIfInBounds_toArray, List.set_cons_zero, List.set_cons_succ]
                  refine steps_done (fun y hSy => ?_)
                  refine NoPanic.normal ?_
                  try dsimp only at hSy
                  rename World => y
                  have HY := hide hSy.1
                  have d1 : y.cell? ⟨b, 1, none⟩ = some (.string A1) := (bcell (HWB.out _ HY.out) _ _ hbz).trans c1
                  have hzy : w.heap.size + 1 + 1 + 1 ≤ y.heap.size := by have := HY.out.size; rw [HZ3.out] at this; exact this
                  have hbzy : b < y.heap.size := by omega
                  clear hSy
                  go_wp2_with fail
                  refine (HR1.out _).mono ?_
                  rintro e y1 ⟨ra, rb, b0, rfl, hb0, hr0, hy1⟩
                  have HQ0 := hide (And.intro hb0 hr0)
                  have HY1 : Hid (Below (w.heap.size + 1 + 1 + 1) (((w.alloc (.cells #[.int .i64 0, .int .i64 0, .int .i64 0, .int .i64 0, .int .i64 0, .int .i64 0, .int .i64 0, .int .i64 0, .int .i64 0] 53)).alloc (.cells #[.int .i64 0, .int .i64 0, .int .i64 0, .int .i64 0, .int .i64 0, .int .i64 0, .int .i64 0, .int .i64 0, .int .i64 0] 53)).alloc (.cells #[.string (strOfNums (opD 11)), .string (strOfNums (opD 12)), .string (strOfNums (opD 13)), .string (strOfNums (opD 14)), .string (strOfNums (opD 15)), .string (strOfNums (opD 16)), .string (strOfNums (opD 17)), .string (strOfNums (opD 18))] 9)) y1) := HY.out.trans (hy1.mono hzy)
                  have hzy1 : w.heap.size + 1 + 1 + 1 ≤ y1.heap.size := by have := HY1.out.size; rw [HZ3.out] at this; exact this
                  have d2 : y1.cell? ⟨b, 2, none⟩ = some (.string A2) := (bcell (HWB.out _ HY1.out) _ _ hbz).trans c2
                  have hbzy1 : b < y1.heap.size := by omega
                  clear hb0 hr0 hy1 d1
                  go_wp2_with fail
                  refine (HR2.out _).mono ?_
                  rintro e y2 ⟨rc, rd, b1, rfl, hb1, hr1, hy2⟩
                  have HQ1 := hide (And.intro hb1 hr1)
                  have HZA : Hid ((y1.alloc (.cells #[.int .i64 ra, .int .i64 rb] 51)).heap.size = y1.heap.size + 1) := by show _ = _; simp
                  have HY2 : Hid (Below (w.heap.size + 1 + 1 + 1) (((w.alloc (.cells #[.int .i64 0, .int .i64 0, .int .i64 0, .int .i64 0, .int .i64 0, .int .i64 0, .int .i64 0, .int .i64 0, .int .i64 0] 53)).alloc (.cells #[.int .i64 0, .int .i64 0, .int .i64 0, .int .i64 0, .int .i64 0, .int .i64 0, .int .i64 0, .int .i64 0, .int .i64 0] 53)).alloc (.cells #[.string (strOfNums (opD 11)), .string (strOfNums (opD 12)), .string (strOfNums (opD 13)), .string (strOfNums (opD 14)), .string (strOfNums (opD 15)), .string (strOfNums (opD 16)), .string (strOfNums (opD 17)), .string (strOfNums (opD 18))] 9)) y2) := HY1.out.trans (((below_alloc1 y1 (.cells #[.int .i64 ra, .int .i64 rb] 51)).trans (hy2.mono (by rw [HZA.out]; omega))).mono hzy1)
                  have hab : y2.heap[y1.heap.size]? = some (.cells #[.int .i64 ra, .int .i64 rb] 51 (0, 0)) := (hy2.block _ (by rw [HZA.out]; omega)).trans (new_blkS _ _ _)
                  have r0 : y2.cell? ⟨y1.heap.size, 0, none⟩ = some (.int .i64 ra) := by rw [cell_of_block hab]; rfl
                  have r1 : y2.cell? ⟨y1.heap.size, 1, none⟩ = some (.int .i64 rb) := by rw [cell_of_block hab]; rfl
                  have hyz2 : y1.heap.size < y2.heap.size := (Array.getElem?_eq_some_iff.1 hab).1
                  have HRB0 : Hid (y2.heap[w.heap.size]? = some (.cells #[.int .i64 0, .int .i64 0, .int .i64 0, .int .i64 0, .int .i64 0, .int .i64 0, .int .i64 0, .int .i64 0, .int .i64 0] 53 (0, 0))) := three_first HY2.out
                  have HSB0 : Hid (y2.heap[w.heap.size + 1]? = some (.cells #[.int .i64 0, .int .i64 0, .int .i64 0, .int .i64 0, .int .i64 0, .int .i64 0, .int .i64 0, .int .i64 0, .int .i64 0] 53 (0, 0))) := three_second HY2.out
                  have HRB := HRB0
                  have HBL2 : Hid (Below w.heap.size w y2) := HWB.out _ HY2.out
                  have hyz : w.heap.size + 1 < y2.heap.size := by omega
                  have hx1 : ¬ y2.heap.size = w.heap.size := by omega
                  have hx2 : ¬ w.heap.size = y2.heap.size := by omega
                  have hx3 : ¬ y1.heap.size = w.heap.size := by omega
                  have hx4 : ¬ w.heap.size = y1.heap.size := by omega
                  have hx5 : ¬ y1.heap.size = y2.heap.size := by omega
                  have hx6 : ¬ y2.heap.size = y1.heap.size := by omega
                  have hx7 : w.heap.size < y2.heap.size := by omega
                  have HOK : Hid (∀ ok, ok = (b0 && b1) → ok = (stO ws).isSome ∧ ∀ r, stO ws = some r → (⟨o9, ra, rb, rc, rd, 0, 0, 0, 0⟩ : St) = r) := fun ok hok => st_fin2 HST.out HQ0.out.1 HQ0.out.2 HQ1.out.1 HQ1.out.2 hok
                  clear hb1 hr1 hy2 d2 hab HST HQ0 HQ1
                  cases b0 with
                  | false =>
                    have HOQ : Hid (false = (false && b1)) := rfl
                    have k0 : y2.cell? ⟨w.heap.size, 0, none⟩ = some (.int .i64 0) := by rw [cell_of_block HRB0.out]; rfl
                    have f0 : y2.frozen? ⟨w.heap.size, 0, none⟩ = false := by simp [World.frozen?, HRB0.out]
                    have v0 : y2.cell? ⟨w.heap.size + 1, 0, none⟩ = some (.int .i64 0) := by rw [cell_of_block HSB0.out]; rfl
                    have k1 : y2.cell? ⟨w.heap.size, 1, none⟩ = some (.int .i64 0) := by rw [cell_of_block HRB0.out]; rfl
                    have f1 : y2.frozen? ⟨w.heap.size, 1, none⟩ = false := by simp [World.frozen?, HRB0.out]
                    have v1 : y2.cell? ⟨w.heap.size + 1, 1, none⟩ = some (.int .i64 0) := by rw [cell_of_block HSB0.out]; rfl
                    have k2 : y2.cell? ⟨w.heap.size, 2, none⟩ = some (.int .i64 0) := by rw [cell_of_block HRB0.out]; rfl
                    have f2 : y2.frozen? ⟨w.heap.size, 2, none⟩ = false := by simp [World.frozen?, HRB0.out]
                    have v2 : y2.cell? ⟨w.heap.size + 1, 2, none⟩ = some (.int .i64 0) := by rw [cell_of_block HSB0.out]; rfl
                    have k3 : y2.cell? ⟨w.heap.size, 3, none⟩ = some (.int .i64 0) := by rw [cell_of_block HRB0.out]; rfl
                    have f3 : y2.frozen? ⟨w.heap.size, 3, none⟩ = false := by simp [World.frozen?, HRB0.out]
                    have v3 : y2.cell? ⟨w.heap.size + 1, 3, none⟩ = some (.int .i64 0) := by rw [cell_of_block HSB0.out]; rfl
                    have k4 : y2.cell? ⟨w.heap.size, 4, none⟩ = some (.int .i64 0) := by rw [cell_of_block HRB0.out]; rfl
                    have f4 : y2.frozen? ⟨w.heap.size, 4, none⟩ = false := by simp [World.frozen?, HRB0.out]
                    have v4 : y2.cell? ⟨w.heap.size + 1, 4, none⟩ = some (.int .i64 0) := by rw [cell_of_block HSB0.out]; rfl
                    have k5 : y2.cell? ⟨w.heap.size, 5, none⟩ = some (.int .i64 0) := by rw [cell_of_block HRB0.out]; rfl
                    have f5 : y2.frozen? ⟨w.heap.size, 5, none⟩ = false := by simp [World.frozen?, HRB0.out]
                    have v5 : y2.cell? ⟨w.heap.size + 1, 5, none⟩ = some (.int .i64 0) := by rw [cell_of_block HSB0.out]; rfl
                    have k6 : y2.cell? ⟨w.heap.size, 6, none⟩ = some (.int .i64 0) := by rw [cell_of_block HRB0.out]; rfl
                    have f6 : y2.frozen? ⟨w.heap.size, 6, none⟩ = false := by simp [World.frozen?, HRB0.out]
                    have v6 : y2.cell? ⟨w.heap.size + 1, 6, none⟩ = some (.int .i64 0) := by rw [cell_of_block HSB0.out]; rfl
                    have k7 : y2.cell? ⟨w.heap.size, 7, none⟩ = some (.int .i64 0) := by rw [cell_of_block HRB0.out]; rfl
                    have f7 : y2.frozen? ⟨w.heap.size, 7, none⟩ = false := by simp [World.frozen?, HRB0.out]
                    have v7 : y2.cell? ⟨w.heap.size + 1, 7, none⟩ = some (.int .i64 0) := by rw [cell_of_block HSB0.out]; rfl
                    have k8 : y2.cell? ⟨w.heap.size, 8, none⟩ = some (.int .i64 0) := by rw [cell_of_block HRB0.out]; rfl
                    have f8 : y2.frozen? ⟨w.heap.size, 8, none⟩ = false := by simp [World.frozen?, HRB0.out]
                    have v8 : y2.cell? ⟨w.heap.size + 1, 8, none⟩ = some (.int .i64 0) := by rw [cell_of_block HSB0.out]; rfl
                    have HTW := hide (nine_set (b0 := .int .i64 o9) (b1 := .int .i64 ra) (b2 := .int .i64 rb) (b3 := .int .i64 rc) (b4 := .int .i64 rd) (b5 := .int .i64 0) (b6 := .int .i64 0) (b7 := .int .i64 0) (b8 := .int .i64 0) HRB.out)
                    have HPP : Hid (StmtPost ws w (.returned (.tuple #[.agg #[.int .i64 o9, .int .i64 ra, .int .i64 rb, .int .i64 rc, .int .i64 rd, .int .i64 0, .int .i64 0, .int .i64 0, .int .i64 0], .bool false])) ((((((((((y2.setCell ⟨w.heap.size, 0, none⟩ (.int .i64 o9)).setCell ⟨w.heap.size, 1, none⟩ (.int .i64 ra)).setCell ⟨w.heap.size, 2, none⟩ (.int .i64 rb)).setCell ⟨w.heap.size, 3, none⟩ (.int .i64 rc)).setCell ⟨w.heap.size, 4, none⟩ (.int .i64 rd)).setCell ⟨w.heap.size, 5, none⟩ (.int .i64 0)).setCell ⟨w.heap.size, 6, none⟩ (.int .i64 0)).setCell ⟨w.heap.size, 7, none⟩ (.int .i64 0)).setCell ⟨w.heap.size, 8, none⟩ (.int .i64 0)).alloc (.cells #[.int .i64 rc, .int .i64 rd] 51))) := ⟨_, _, rfl, (HOK.out _ HOQ.out).1, (HOK.out _ HOQ.out).2, (((((((((((HBL2.out.setCell (Nat.le_refl _) _).setCell (Nat.le_refl _) _).setCell (Nat.le_refl _) _).setCell (Nat.le_refl _) _).setCell (Nat.le_refl _) _).setCell (Nat.le_refl _) _).setCell (Nat.le_refl _) _).setCell (Nat.le_refl _) _).setCell (Nat.le_refl _) _)).alloc (by simp; omega) _)⟩
                    have HTX : Hid (((((((((((y2.setCell ⟨w.heap.size, 0, none⟩ (.int .i64 o9)).setCell ⟨w.heap.size, 1, none⟩ (.int .i64 ra)).setCell ⟨w.heap.size, 2, none⟩ (.int .i64 rb)).setCell ⟨w.heap.size, 3, none⟩ (.int .i64 rc)).setCell ⟨w.heap.size, 4, none⟩ (.int .i64 rd)).setCell ⟨w.heap.size, 5, none⟩ (.int .i64 0)).setCell ⟨w.heap.size, 6, none⟩ (.int .i64 0)).setCell ⟨w.heap.size, 7, none⟩ (.int .i64 0)).setCell ⟨w.heap.size, 8, none⟩ (.int .i64 0)).alloc (.cells #[.int .i64 rc, .int .i64 rd] 51)).heap[w.heap.size]? = some (.cells #[.int .i64 o9, .int .i64 ra, .int .i64 rb, .int .i64 rc, .int .i64 rd, .int .i64 0, .int .i64 0, .int .i64 0, .int .i64 0] 53 (0, 0))) := by
                      show _ = _
                      rw [Below.heap_alloc _ _ _ (by simp; omega)]; exact HTW.out
                    go_wp2_with fail
                    have s0 : ((((((((((y2.setCell ⟨w.heap.size, 0, none⟩ (.int .i64 o9)).setCell ⟨w.heap.size, 1, none⟩ (.int .i64 ra)).setCell ⟨w.heap.size, 2, none⟩ (.int .i64 rb)).setCell ⟨w.heap.size, 3, none⟩ (.int .i64 rc)).setCell ⟨w.heap.size, 4, none⟩ (.int .i64 rd)).setCell ⟨w.heap.size, 5, none⟩ (.int .i64 0)).setCell ⟨w.heap.size, 6, none⟩ (.int .i64 0)).setCell ⟨w.heap.size, 7, none⟩ (.int .i64 0)).setCell ⟨w.heap.size, 8, none⟩ (.int .i64 0)).alloc (.cells #[.int .i64 rc, .int .i64 rd] 51)).cell? ⟨w.heap.size, 0, none⟩ = some (.int .i64 o9) := by rw [cell_of_block HTX.out]; rfl
                    have s1 : ((((((((((y2.setCell ⟨w.heap.size, 0, none⟩ (.int .i64 o9)).setCell ⟨w.heap.size, 1, none⟩ (.int .i64 ra)).setCell ⟨w.heap.size, 2, none⟩ (.int .i64 rb)).setCell ⟨w.heap.size, 3, none⟩ (.int .i64 rc)).setCell ⟨w.heap.size, 4, none⟩ (.int .i64 rd)).setCell ⟨w.heap.size, 5, none⟩ (.int .i64 0)).setCell ⟨w.heap.size, 6, none⟩ (.int .i64 0)).setCell ⟨w.heap.size, 7, none⟩ (.int .i64 0)).setCell ⟨w.heap.size, 8, none⟩ (.int .i64 0)).alloc (.cells #[.int .i64 rc, .int .i64 rd] 51)).cell? ⟨w.heap.size, 1, none⟩ = some (.int .i64 ra) := by rw [cell_of_block HTX.out]; rfl
                    have s2 : ((((((((((y2.setCell ⟨w.heap.size, 0, none⟩ (.int .i64 o9)).setCell ⟨w.heap.size, 1, none⟩ (.int .i64 ra)).setCell ⟨w.heap.size, 2, none⟩ (.int .i64 rb)).setCell ⟨w.heap.size, 3, none⟩ (.int .i64 rc)).setCell ⟨w.heap.size, 4, none⟩ (.int .i64 rd)).setCell ⟨w.heap.size, 5, none⟩ (.int .i64 0)).setCell ⟨w.heap.size, 6, none⟩ (.int .i64 0)).setCell ⟨w.heap.size, 7, none⟩ (.int .i64 0)).setCell ⟨w.heap.size, 8, none⟩ (.int .i64 0)).alloc (.cells #[.int .i64 rc, .int .i64 rd] 51)).cell? ⟨w.heap.size, 2, none⟩ = some (.int .i64 rb) := by rw [cell_of_block HTX.out]; rfl
                    have s3 : ((((((((((y2.setCell ⟨w.heap.size, 0, none⟩ (.int .i64 o9)).setCell ⟨w.heap.size, 1, none⟩ (.int .i64 ra)).setCell ⟨w.heap.size, 2, none⟩ (.int .i64 rb)).setCell ⟨w.heap.size, 3, none⟩ (.int .i64 rc)).setCell ⟨w.heap.size, 4, none⟩ (.int .i64 rd)).setCell ⟨w.heap.size, 5, none⟩ (.int .i64 0)).setCell ⟨w.heap.size, 6, none⟩ (.int .i64 0)).setCell ⟨w.heap.size, 7, none⟩ (.int .i64 0)).setCell ⟨w.heap.size, 8, none⟩ (.int .i64 0)).alloc (.cells #[.int .i64 rc, .int .i64 rd] 51)).cell? ⟨w.heap.size, 3, none⟩ = some (.int .i64 rc) := by rw [cell_of_block HTX.out]; rfl
                    have s4 : ((((((((((y2.setCell ⟨w.heap.size, 0, none⟩ (.int .i64 o9)).setCell ⟨w.heap.size, 1, none⟩ (.int .i64 ra)).setCell ⟨w.heap.size, 2, none⟩ (.int .i64 rb)).setCell ⟨w.heap.size, 3, none⟩ (.int .i64 rc)).setCell ⟨w.heap.size, 4, none⟩ (.int .i64 rd)).setCell ⟨w.heap.size, 5, none⟩ (.int .i64 0)).setCell ⟨w.heap.size, 6, none⟩ (.int .i64 0)).setCell ⟨w.heap.size, 7, none⟩ (.int .i64 0)).setCell ⟨w.heap.size, 8, none⟩ (.int .i64 0)).alloc (.cells #[.int .i64 rc, .int .i64 rd] 51)).cell? ⟨w.heap.size, 4, none⟩ = some (.int .i64 rd) := by rw [cell_of_block HTX.out]; rfl
                    have s5 : ((((((((((y2.setCell ⟨w.heap.size, 0, none⟩ (.int .i64 o9)).setCell ⟨w.heap.size, 1, none⟩ (.int .i64 ra)).setCell ⟨w.heap.size, 2, none⟩ (.int .i64 rb)).setCell ⟨w.heap.size, 3, none⟩ (.int .i64 rc)).setCell ⟨w.heap.size, 4, none⟩ (.int .i64 rd)).setCell ⟨w.heap.size, 5, none⟩ (.int .i64 0)).setCell ⟨w.heap.size, 6, none⟩ (.int .i64 0)).setCell ⟨w.heap.size, 7, none⟩ (.int .i64 0)).setCell ⟨w.heap.size, 8, none⟩ (.int .i64 0)).alloc (.cells #[.int .i64 rc, .int .i64 rd] 51)).cell? ⟨w.heap.size, 5, none⟩ = some (.int .i64 0) := by rw [cell_of_block HTX.out]; rfl
                    have s6 : ((((((((((y2.setCell ⟨w.heap.size, 0, none⟩ (.int .i64 o9)).setCell ⟨w.heap.size, 1, none⟩ (.int .i64 ra)).setCell ⟨w.heap.size, 2, none⟩ (.int .i64 rb)).setCell ⟨w.heap.size, 3, none⟩ (.int .i64 rc)).setCell ⟨w.heap.size, 4, none⟩ (.int .i64 rd)).setCell ⟨w.heap.size, 5, none⟩ (.int .i64 0)).setCell ⟨w.heap.size, 6, none⟩ (.int .i64 0)).setCell ⟨w.heap.size, 7, none⟩ (.int .i64 0)).setCell ⟨w.heap.size, 8, none⟩ (.int .i64 0)).alloc (.cells #[.int .i64 rc, .int .i64 rd] 51)).cell? ⟨w.heap.size, 6, none⟩ = some (.int .i64 0) := by rw [cell_of_block HTX.out]; rfl
                    have s7 : ((((((((((y2.setCell ⟨w.heap.size, 0, none⟩ (.int .i64 o9)).setCell ⟨w.heap.size, 1, none⟩ (.int .i64 ra)).setCell ⟨w.heap.size, 2, none⟩ (.int .i64 rb)).setCell ⟨w.heap.size, 3, none⟩ (.int .i64 rc)).setCell ⟨w.heap.size, 4, none⟩ (.int .i64 rd)).setCell ⟨w.heap.size, 5, none⟩ (.int .i64 0)).setCell ⟨w.heap.size, 6, none⟩ (.int .i64 0)).setCell ⟨w.heap.size, 7, none⟩ (.int .i64 0)).setCell ⟨w.heap.size, 8, none⟩ (.int .i64 0)).alloc (.cells #[.int .i64 rc, .int .i64 rd] 51)).cell? ⟨w.heap.size, 7, none⟩ = some (.int .i64 0) := by rw [cell_of_block HTX.out]; rfl
                    have s8 : ((((((((((y2.setCell ⟨w.heap.size, 0, none⟩ (.int .i64 o9)).setCell ⟨w.heap.size, 1, none⟩ (.int .i64 ra)).setCell ⟨w.heap.size, 2, none⟩ (.int .i64 rb)).setCell ⟨w.heap.size, 3, none⟩ (.int .i64 rc)).setCell ⟨w.heap.size, 4, none⟩ (.int .i64 rd)).setCell ⟨w.heap.size, 5, none⟩ (.int .i64 0)).setCell ⟨w.heap.size, 6, none⟩ (.int .i64 0)).setCell ⟨w.heap.size, 7, none⟩ (.int .i64 0)).setCell ⟨w.heap.size, 8, none⟩ (.int .i64 0)).alloc (.cells #[.int .i64 rc, .int .i64 rd] 51)).cell? ⟨w.heap.size, 8, none⟩ = some (.int .i64 0) := by rw [cell_of_block HTX.out]; rfl
                    exact bodyPost_ret (v := .tuple #[.agg #[.int .i64 o9, .int .i64 ra, .int .i64 rb, .int .i64 rc, .int .i64 rd, .int .i64 0, .int .i64 0, .int .i64 0, .int .i64 0], .bool false]) (by simp [results, Tryd.results31, go_sem, s0, s1, s2, s3, s4, s5, s6, s7, s8]) rfl HPP.out

                  | true =>
                    have HOQ : Hid (b1 = (true && b1)) := rfl
                    have k0 : y2.cell? ⟨w.heap.size, 0, none⟩ = some (.int .i64 0) := by rw [cell_of_block HRB0.out]; rfl
                    have f0 : y2.frozen? ⟨w.heap.size, 0, none⟩ = false := by simp [World.frozen?, HRB0.out]
                    have v0 : y2.cell? ⟨w.heap.size + 1, 0, none⟩ = some (.int .i64 0) := by rw [cell_of_block HSB0.out]; rfl
                    have k1 : y2.cell? ⟨w.heap.size, 1, none⟩ = some (.int .i64 0) := by rw [cell_of_block HRB0.out]; rfl
                    have f1 : y2.frozen? ⟨w.heap.size, 1, none⟩ = false := by simp [World.frozen?, HRB0.out]
                    have v1 : y2.cell? ⟨w.heap.size + 1, 1, none⟩ = some (.int .i64 0) := by rw [cell_of_block HSB0.out]; rfl
                    have k2 : y2.cell? ⟨w.heap.size, 2, none⟩ = some (.int .i64 0) := by rw [cell_of_block HRB0.out]; rfl
                    have f2 : y2.frozen? ⟨w.heap.size, 2, none⟩ = false := by simp [World.frozen?, HRB0.out]
                    have v2 : y2.cell? ⟨w.heap.size + 1, 2, none⟩ = some (.int .i64 0) := by rw [cell_of_block HSB0.out]; rfl
                    have k3 : y2.cell? ⟨w.heap.size, 3, none⟩ = some (.int .i64 0) := by rw [cell_of_block HRB0.out]; rfl
                    have f3 : y2.frozen? ⟨w.heap.size, 3, none⟩ = false := by simp [World.frozen?, HRB0.out]
                    have v3 : y2.cell? ⟨w.heap.size + 1, 3, none⟩ = some (.int .i64 0) := by rw [cell_of_block HSB0.out]; rfl
                    have k4 : y2.cell? ⟨w.heap.size, 4, none⟩ = some (.int .i64 0) := by rw [cell_of_block HRB0.out]; rfl
                    have f4 : y2.frozen? ⟨w.heap.size, 4, none⟩ = false := by simp [World.frozen?, HRB0.out]
                    have v4 : y2.cell? ⟨w.heap.size + 1, 4, none⟩ = some (.int .i64 0) := by rw [cell_of_block HSB0.out]; rfl
                    have k5 : y2.cell? ⟨w.heap.size, 5, none⟩ = some (.int .i64 0) := by rw [cell_of_block HRB0.out]; rfl
                    have f5 : y2.frozen? ⟨w.heap.size, 5, none⟩ = false := by simp [World.frozen?, HRB0.out]
                    have v5 : y2.cell? ⟨w.heap.size + 1, 5, none⟩ = some (.int .i64 0) := by rw [cell_of_block HSB0.out]; rfl
                    have k6 : y2.cell? ⟨w.heap.size, 6, none⟩ = some (.int .i64 0) := by rw [cell_of_block HRB0.out]; rfl
                    have f6 : y2.frozen? ⟨w.heap.size, 6, none⟩ = false := by simp [World.frozen?, HRB0.out]
                    have v6 : y2.cell? ⟨w.heap.size + 1, 6, none⟩ = some (.int .i64 0) := by rw [cell_of_block HSB0.out]; rfl
                    have k7 : y2.cell? ⟨w.heap.size, 7, none⟩ = some (.int .i64 0) := by rw [cell_of_block HRB0.out]; rfl
                    have f7 : y2.frozen? ⟨w.heap.size, 7, none⟩ = false := by simp [World.frozen?, HRB0.out]
                    have v7 : y2.cell? ⟨w.heap.size + 1, 7, none⟩ = some (.int .i64 0) := by rw [cell_of_block HSB0.out]; rfl
                    have k8 : y2.cell? ⟨w.heap.size, 8, none⟩ = some (.int .i64 0) := by rw [cell_of_block HRB0.out]; rfl
                    have f8 : y2.frozen? ⟨w.heap.size, 8, none⟩ = false := by simp [World.frozen?, HRB0.out]
                    have v8 : y2.cell? ⟨w.heap.size + 1, 8, none⟩ = some (.int .i64 0) := by rw [cell_of_block HSB0.out]; rfl
                    have HTW := hide (nine_set (b0 := .int .i64 o9) (b1 := .int .i64 ra) (b2 := .int .i64 rb) (b3 := .int .i64 rc) (b4 := .int .i64 rd) (b5 := .int .i64 0) (b6 := .int .i64 0) (b7 := .int .i64 0) (b8 := .int .i64 0) HRB.out)
                    have HPP : Hid (StmtPost ws w (.returned (.tuple #[.agg #[.int .i64 o9, .int .i64 ra, .int .i64 rb, .int .i64 rc, .int .i64 rd, .int .i64 0, .int .i64 0, .int .i64 0, .int .i64 0], .bool b1])) ((((((((((y2.setCell ⟨w.heap.size, 0, none⟩ (.int .i64 o9)).setCell ⟨w.heap.size, 1, none⟩ (.int .i64 ra)).setCell ⟨w.heap.size, 2, none⟩ (.int .i64 rb)).setCell ⟨w.heap.size, 3, none⟩ (.int .i64 rc)).setCell ⟨w.heap.size, 4, none⟩ (.int .i64 rd)).setCell ⟨w.heap.size, 5, none⟩ (.int .i64 0)).setCell ⟨w.heap.size, 6, none⟩ (.int .i64 0)).setCell ⟨w.heap.size, 7, none⟩ (.int .i64 0)).setCell ⟨w.heap.size, 8, none⟩ (.int .i64 0)).alloc (.cells #[.int .i64 rc, .int .i64 rd] 51))) := ⟨_, _, rfl, (HOK.out _ HOQ.out).1, (HOK.out _ HOQ.out).2, (((((((((((HBL2.out.setCell (Nat.le_refl _) _).setCell (Nat.le_refl _) _).setCell (Nat.le_refl _) _).setCell (Nat.le_refl _) _).setCell (Nat.le_refl _) _).setCell (Nat.le_refl _) _).setCell (Nat.le_refl _) _).setCell (Nat.le_refl _) _).setCell (Nat.le_refl _) _)).alloc (by simp; omega) _)⟩
                    have HTX : Hid (((((((((((y2.setCell ⟨w.heap.size, 0, none⟩ (.int .i64 o9)).setCell ⟨w.heap.size, 1, none⟩ (.int .i64 ra)).setCell ⟨w.heap.size, 2, none⟩ (.int .i64 rb)).setCell ⟨w.heap.size, 3, none⟩ (.int .i64 rc)).setCell ⟨w.heap.size, 4, none⟩ (.int .i64 rd)).setCell ⟨w.heap.size, 5, none⟩ (.int .i64 0)).setCell ⟨w.heap.size, 6, none⟩ (.int .i64 0)).setCell ⟨w.heap.size, 7, none⟩ (.int .i64 0)).setCell ⟨w.heap.size, 8, none⟩ (.int .i64 0)).alloc (.cells #[.int .i64 rc, .int .i64 rd] 51)).heap[w.heap.size]? = some (.cells #[.int .i64 o9, .int .i64 ra, .int .i64 rb, .int .i64 rc, .int .i64 rd, .int .i64 0, .int .i64 0, .int .i64 0, .int .i64 0] 53 (0, 0))) := by
                      show _ = _
                      rw [Below.heap_alloc _ _ _ (by simp; omega)]; exact HTW.out
                    go_wp2_with fail
                    have s0 : ((((((((((y2.setCell ⟨w.heap.size, 0, none⟩ (.int .i64 o9)).setCell ⟨w.heap.size, 1, none⟩ (.int .i64 ra)).setCell ⟨w.heap.size, 2, none⟩ (.int .i64 rb)).setCell ⟨w.heap.size, 3, none⟩ (.int .i64 rc)).setCell ⟨w.heap.size, 4, none⟩ (.int .i64 rd)).setCell ⟨w.heap.size, 5, none⟩ (.int .i64 0)).setCell ⟨w.heap.size, 6, none⟩ (.int .i64 0)).setCell ⟨w.heap.size, 7, none⟩ (.int .i64 0)).setCell ⟨w.heap.size, 8, none⟩ (.int .i64 0)).alloc (.cells #[.int .i64 rc, .int .i64 rd] 51)).cell? ⟨w.heap.size, 0, none⟩ = some (.int .i64 o9) := by rw [cell_of_block HTX.out]; rfl
                    have s1 : ((((((((((y2.setCell ⟨w.heap.size, 0, none⟩ (.int .i64 o9)).setCell ⟨w.heap.size, 1, none⟩ (.int .i64 ra)).setCell ⟨w.heap.size, 2, none⟩ (.int .i64 rb)).setCell ⟨w.heap.size, 3, none⟩ (.int .i64 rc)).setCell ⟨w.heap.size, 4, none⟩ (.int .i64 rd)).setCell ⟨w.heap.size, 5, none⟩ (.int .i64 0)).setCell ⟨w.heap.size, 6, none⟩ (.int .i64 0)).setCell ⟨w.heap.size, 7, none⟩ (.int .i64 0)).setCell ⟨w.heap.size, 8, none⟩ (.int .i64 0)).alloc (.cells #[.int .i64 rc, .int .i64 rd] 51)).cell? ⟨w.heap.size, 1, none⟩ = some (.int .i64 ra) := by rw [cell_of_block HTX.out]; rfl
                    have s2 : ((((((((((y2.setCell ⟨w.heap.size, 0, none⟩ (.int .i64 o9)).setCell ⟨w.heap.size, 1, none⟩ (.int .i64 ra)).setCell ⟨w.heap.size, 2, none⟩ (.int .i64 rb)).setCell ⟨w.heap.size, 3, none⟩ (.int .i64 rc)).setCell ⟨w.heap.size, 4, none⟩ (.int .i64 rd)).setCell ⟨w.heap.size, 5, none⟩ (.int .i64 0)).setCell ⟨w.heap.size, 6, none⟩ (.int .i64 0)).setCell ⟨w.heap.size, 7, none⟩ (.int .i64 0)).setCell ⟨w.heap.size, 8, none⟩ (.int .i64 0)).alloc (.cells #[.int .i64 rc, .int .i64 rd] 51)).cell? ⟨w.heap.size, 2, none⟩ = some (.int .i64 rb) := by rw [cell_of_block HTX.out]; rfl
                    have s3 : ((((((((((y2.setCell ⟨w.heap.size, 0, none⟩ (.int .i64 o9)).setCell ⟨w.heap.size, 1, none⟩ (.int .i64 ra)).setCell ⟨w.heap.size, 2, none⟩ (.int .i64 rb)).setCell ⟨w.heap.size, 3, none⟩ (.int .i64 rc)).setCell ⟨w.heap.size, 4, none⟩ (.int .i64 rd)).setCell ⟨w.heap.size, 5, none⟩ (.int .i64 0)).setCell ⟨w.heap.size, 6, none⟩ (.int .i64 0)).setCell ⟨w.heap.size, 7, none⟩ (.int .i64 0)).setCell ⟨w.heap.size, 8, none⟩ (.int .i64 0)).alloc (.cells #[.int .i64 rc, .int .i64 rd] 51)).cell? ⟨w.heap.size, 3, none⟩ = some (.int .i64 rc) := by rw [cell_of_block HTX.out]; rfl
                    have s4 : ((((((((((y2.setCell ⟨w.heap.size, 0, none⟩ (.int .i64 o9)).setCell ⟨w.heap.size, 1, none⟩ (.int .i64 ra)).setCell ⟨w.heap.size, 2, none⟩ (.int .i64 rb)).setCell ⟨w.heap.size, 3, none⟩ (.int .i64 rc)).setCell ⟨w.heap.size, 4, none⟩ (.int .i64 rd)).setCell ⟨w.heap.size, 5, none⟩ (.int .i64 0)).setCell ⟨w.heap.size, 6, none⟩ (.int .i64 0)).setCell ⟨w.heap.size, 7, none⟩ (.int .i64 0)).setCell ⟨w.heap.size, 8, none⟩ (.int .i64 0)).alloc (.cells #[.int .i64 rc, .int .i64 rd] 51)).cell? ⟨w.heap.size, 4, none⟩ = some (.int .i64 rd) := by rw [cell_of_block HTX.out]; rfl
                    have s5 : ((((((((((y2.setCell ⟨w.heap.size, 0, none⟩ (.int .i64 o9)).setCell ⟨w.heap.size, 1, none⟩ (.int .i64 ra)).setCell ⟨w.heap.size, 2, none⟩ (.int .i64 rb)).setCell ⟨w.heap.size, 3, none⟩ (.int .i64 rc)).setCell ⟨w.heap.size, 4, none⟩ (.int .i64 rd)).setCell ⟨w.heap.size, 5, none⟩ (.int .i64 0)).setCell ⟨w.heap.size, 6, none⟩ (.int .i64 0)).setCell ⟨w.heap.size, 7, none⟩ (.int .i64 0)).setCell ⟨w.heap.size, 8, none⟩ (.int .i64 0)).alloc (.cells #[.int .i64 rc, .int .i64 rd] 51)).cell? ⟨w.heap.size, 5, none⟩ = some (.int .i64 0) := by rw [cell_of_block HTX.out]; rfl
                    have s6 : ((((((((((y2.setCell ⟨w.heap.size, 0, none⟩ (.int .i64 o9)).setCell ⟨w.heap.size, 1, none⟩ (.int .i64 ra)).setCell ⟨w.heap.size, 2, none⟩ (.int .i64 rb)).setCell ⟨w.heap.size, 3, none⟩ (.int .i64 rc)).setCell ⟨w.heap.size, 4, none⟩ (.int .i64 rd)).setCell ⟨w.heap.size, 5, none⟩ (.int .i64 0)).setCell ⟨w.heap.size, 6, none⟩ (.int .i64 0)).setCell ⟨w.heap.size, 7, none⟩ (.int .i64 0)).setCell ⟨w.heap.size, 8, none⟩ (.int .i64 0)).alloc (.cells #[.int .i64 rc, .int .i64 rd] 51)).cell? ⟨w.heap.size, 6, none⟩ = some (.int .i64 0) := by rw [cell_of_block HTX.out]; rfl
                    have s7 : ((((((((((y2.setCell ⟨w.heap.size, 0, none⟩ (.int .i64 o9)).setCell ⟨w.heap.size, 1, none⟩ (.int .i64 ra)).setCell ⟨w.heap.size, 2, none⟩ (.int .i64 rb)).setCell ⟨w.heap.size, 3, none⟩ (.int .i64 rc)).setCell ⟨w.heap.size, 4, none⟩ (.int .i64 rd)).setCell ⟨w.heap.size, 5, none⟩ (.int .i64 0)).setCell ⟨w.heap.size, 6, none⟩ (.int .i64 0)).setCell ⟨w.heap.size, 7, none⟩ (.int .i64 0)).setCell ⟨w.heap.size, 8, none⟩ (.int .i64 0)).alloc (.cells #[.int .i64 rc, .int .i64 rd] 51)).cell? ⟨w.heap.size, 7, none⟩ = some (.int .i64 0) := by rw [cell_of_block HTX.out]; rfl
                    have s8 : ((((((((((y2.setCell ⟨w.heap.size, 0, none⟩ (.int .i64 o9)).setCell ⟨w.heap.size, 1, none⟩ (.int .i64 ra)).setCell ⟨w.heap.size, 2, none⟩ (.int .i64 rb)).setCell ⟨w.heap.size, 3, none⟩ (.int .i64 rc)).setCell ⟨w.heap.size, 4, none⟩ (.int .i64 rd)).setCell ⟨w.heap.size, 5, none⟩ (.int .i64 0)).setCell ⟨w.heap.size, 6, none⟩ (.int .i64 0)).setCell ⟨w.heap.size, 7, none⟩ (.int .i64 0)).setCell ⟨w.heap.size, 8, none⟩ (.int .i64 0)).alloc (.cells #[.int .i64 rc, .int .i64 rd] 51)).cell? ⟨w.heap.size, 8, none⟩ = some (.int .i64 0) := by rw [cell_of_block HTX.out]; rfl
                    exact bodyPost_ret (v := .tuple #[.agg #[.int .i64 o9, .int .i64 ra, .int .i64 rb, .int .i64 rc, .int .i64 rd, .int .i64 0, .int .i64 0, .int .i64 0, .int .i64 0], .bool b1]) (by simp [results, Tryd.results31, go_sem, s0, s1, s2, s3, s4, s5, s6, s7, s8]) rfl HPP.out

                · have hmi2 : ¬ (m : Int) = 2 := by omega
                  have hmb2 : ((m : Int) == 2) = false := beq_false_of_ne hmi2
                  have HNX : Hid (∀ j : Nat, j < i + 1 → ¬ (opD (11 + (j : Int)) = w0 ∧ m = 2)) := fun j hj hq => hm2 hq.2
                  clear hm2 hop
                  go_wp2_with fail
                  refine region_steady (fun w' => Below (w.heap.size + 1 + 1 + 1) (((w.alloc (.cells #[.int .i64 0, .int .i64 0, .int .i64 0, .int .i64 0, .int .i64 0, .int .i64 0, .int .i64 0, .int .i64 0, .int .i64 0] 53)).alloc (.cells #[.int .i64 0, .int .i64 0, .int .i64 0, .int .i64 0, .int .i64 0, .int .i64 0, .int .i64 0, .int .i64 0, .int .i64 0] 53)).alloc (.cells #[.string (strOfNums (opD 11)), .string (strOfNums (opD 12)), .string (strOfNums (opD 13)), .string (strOfNums (opD 14)), .string (strOfNums (opD 15)), .string (strOfNums (opD 16)), .string (strOfNums (opD 17)), .string (strOfNums (opD 18))] 9)) w' ∧ w'.cell? ⟨w.heap.size + 1 + 1, i, none⟩ = some (.string WO) ∧ w'.cell? ⟨b, 0, none⟩ = some (.string A)) 12 (by rfl) (by kernel_rfl) (by kernel_rfl) (by kernel_rfl) ⟨HXD.out, HSQ.out _ HXD.out⟩ ?_
                  refine steps_take (i := 0) (v := ?_) rfl (Or.inl ⟨by rfl, ?_⟩) ?_
                  rotate_left
                  · intro w hSw
                    try dsimp only at hSw
                    go_simp
                    try with_reducible rfl
                  try simp only [Act.put, List.setIfInBounds_toArray, List.set_cons_zero, List.set_cons_succ]
                  refine steps_take (i := 1) (v := ?_) rfl (Or.inl ⟨by rfl, ?_⟩) ?_
                  rotate_left
                  · intro w hSw
                    try dsimp only at hSw
                    go_simp
                    try with_reducible rfl
                  try simp only [Act.put, List.setIfInBounds_toArray, List.set_cons_zero, List.set_cons_succ]
                  refine steps_take (i := 2) (v := ?_) rfl (Or.inl ⟨by rfl, ?_⟩) ?_
                  rotate_left
                  · intro w hSw
                    try dsimp only at hSw
                    go_simp
                    try with_reducible rfl
                  try simp only [Act.put, List.setIfInBounds_toArray, List.set_cons_zero, List.set_cons_succ]
                  refine steps_take (i := 3) (v := ?_) rfl (Or.inl ⟨by rfl, ?_⟩) ?_
                  rotate_left
                  · intro w hSw
                    try dsimp only at hSw
                    go_simp
                    try with_reducible rfl
                  try simp only [Act.put, List.setIfInBounds_toArray, List.set_cons_zero, List.set_cons_succ]
                  refine steps_take (i := 4) (v := ?_) rfl (Or.inl ⟨by rfl, ?_⟩) ?_
                  rotate_left
                  · intro w hSw
                    try dsimp only at hSw
                    go_simp
                    try with_reducible rfl
                  try simp only [Act.put, List.setIfInBounds_toArray, List.set_cons_zero, List.set_cons_succ]
                  refine steps_take (i := 5) (v := ?_) rfl (Or.inl ⟨by rfl, ?_⟩) ?_
                  rotate_left
                  · intro w hSw
                    try dsimp only at hSw
                    go_simp
                    try with_reducible rfl
                  try simp only [Act.put, List.setIfInBounds_toArray, List.set_cons_zero, List.set_cons_succ]
                  refine steps_take (i := 6) (v := ?_) rfl (Or.inl ⟨by rfl, ?_⟩) ?_
                  rotate_left
                  · intro w hSw
                    try dsimp only at hSw
                    go_simp
                    try with_reducible rfl
                  try simp only [Act.put, List.setIfInBounds_toArray, List.set_cons_zero, List.set_cons_succ]
                  refine steps_take (i := 7) (v := ?_) rfl (Or.inl ⟨by rfl, ?_⟩) ?_
                  rotate_left
                  · intro w hSw
                    try dsimp only at hSw
                    go_simp
                    try with_reducible rfl
                  try simp only [Act.put, List.setIfInBounds_toArray, List.set_cons_zero, List.set_cons_succ]
                  refine steps_take (i := 8) (v := ?_) rfl (Or.inl ⟨by rfl, ?_⟩) ?_
                  rotate_left
                  · intro w hSw
                    try dsimp only at hSw
                    go_simp
                    try with_reducible rfl
                  try simp only [Act.put, List.setIfInBounds_toArray, List.set_cons_zero, List.set_cons_succ]
                  refine steps_take (i := 9) (v := ?_) rfl (Or.inl ⟨by rfl, ?_⟩) ?_
                  rotate_left
                  · intro w hSw
                    try dsimp only at hSw
                    go_simp
                    try with_reducible rfl
                  try simp only [Act.put, List.setIfInBounds_toArray, List.set_cons_zero, List.set_cons_succ]
                  refine steps_take (i := 10) (v := ?_) rfl (Or.inl ⟨by rfl, ?_⟩) ?_
                  rotate_left
                  · intro w hSw
                    try dsimp only at hSw
                    go_simp
                    try with_reducible rfl
                  try simp only [Act.put, List.setIfInBounds_toArray, List.set_cons_zero, List.set_cons_succ]
                  refine steps_take (i := 11) (v := ?_) rfl (Or.inl ⟨by rfl, ?_⟩) ?_
                  rotate_left
                  · intro w hSw
                    try dsimp only at hSw
                    go_simp
                    try with_reducible rfl
                  try simp only [Act.put, List.setIfInBounds_toArray, List.set_cons_zero, List.set_cons_succ]
                  refine steps_done (fun y hSy => ?_)
                  refine NoPanic.normal ?_
                  try dsimp only at hSy

                  have HBY := hide hSy.1
                  clear hSy
                  go_wp2_with fail
                  go_roundw
                  case rel => exact ⟨i + 1, by omega, by go_num, HNX.out, HBY.out⟩
                  case measure => first | (simp [intOf]; done) | (simp [intOf]; omega)
              · rw [decide_eq_false hop] at heq
                have HNX : Hid (∀ j : Nat, j < i + 1 → ¬ (opD (11 + (j : Int)) = w0 ∧ m = 2)) := fun j hj hq => by
                  rcases Nat.lt_or_ge j i with h | h
                  · exact HNF.out j h hq
                  · have e : j = i := by omega
                    rw [e] at hq; exact hop hq.1
                clear hop
                go_wp2_with fail
                refine region_steady (fun w' => Below (w.heap.size + 1 + 1 + 1) (((w.alloc (.cells #[.int .i64 0, .int .i64 0, .int .i64 0, .int .i64 0, .int .i64 0, .int .i64 0, .int .i64 0, .int .i64 0, .int .i64 0] 53)).alloc (.cells #[.int .i64 0, .int .i64 0, .int .i64 0, .int .i64 0, .int .i64 0, .int .i64 0, .int .i64 0, .int .i64 0, .int .i64 0] 53)).alloc (.cells #[.string (strOfNums (opD 11)), .string (strOfNums (opD 12)), .string (strOfNums (opD 13)), .string (strOfNums (opD 14)), .string (strOfNums (opD 15)), .string (strOfNums (opD 16)), .string (strOfNums (opD 17)), .string (strOfNums (opD 18))] 9)) w' ∧ w'.cell? ⟨w.heap.size + 1 + 1, i, none⟩ = some (.string WO) ∧ w'.cell? ⟨b, 0, none⟩ = some (.string A)) 12 (by rfl) (by kernel_rfl) (by kernel_rfl) (by kernel_rfl) ⟨HXD.out, HSQ.out _ HXD.out⟩ ?_
                refine steps_take (i := 0) (v := ?_) rfl (Or.inl ⟨by rfl, ?_⟩) ?_
                rotate_left
                · intro w hSw
                  try dsimp only at hSw
                  go_simp
                  try with_reducible rfl
                try simp only [Act.put, List.setIfInBounds_toArray, List.set_cons_zero, List.set_cons_succ]
                refine steps_take (i := 1) (v := ?_) rfl (Or.inl ⟨by rfl, ?_⟩) ?_
                rotate_left
                · intro w hSw
                  try dsimp only at hSw
                  go_simp
                  try with_reducible rfl
                try simp only [Act.put, List.setIfInBounds_toArray, List.set_cons_zero, List.set_cons_succ]
                refine steps_take (i := 2) (v := ?_) rfl (Or.inl ⟨by rfl, ?_⟩) ?_
                rotate_left
                · intro w hSw
                  try dsimp only at hSw
                  go_simp
                  try with_reducible rfl
                try simp only [Act.put, List.setIfInBounds_toArray, List.set_cons_zero, List.set_cons_succ]
                refine steps_take (i := 3) (v := ?_) rfl (Or.inl ⟨by rfl, ?_⟩) ?_
                rotate_left
                · intro w hSw
                  try dsimp only at hSw
                  go_simp
                  try with_reducible rfl
                try simp only [Act.put, List.setIfInBounds_toArray, List.set_cons_zero, List.set_cons_succ]
                refine steps_take (i := 4) (v := ?_) rfl (Or.inl ⟨by rfl, ?_⟩) ?_
                rotate_left
                · intro w hSw
                  try dsimp only at hSw
                  go_simp
                  try with_reducible rfl
                try simp only [Act.put, List.setIfInBounds_toArray, List.set_cons_zero, List.set_cons_succ]
                refine steps_take (i := 5) (v := ?_) rfl (Or.inl ⟨by rfl, ?_⟩) ?_
                rotate_left
                · intro w hSw
                  try dsimp only at hSw
                  go_simp
                  try with_reducible rfl
                try simp only [Act.put, List.setIfInBounds_toArray, List.set_cons_zero, List.set_cons_succ]
                refine steps_take (i := 6) (v := ?_) rfl (Or.inl ⟨by rfl, ?_⟩) ?_
                rotate_left
                · intro w hSw
                  try dsimp only at hSw
                  go_simp
                  try with_reducible rfl
                try simp only [Act.put, List.setIfInBounds_toArray, List.set_cons_zero, List.set_cons_succ]
                refine steps_take (i := 7) (v := ?_) rfl (Or.inl ⟨by rfl, ?_⟩) ?_
                rotate_left
                · intro w hSw
                  try dsimp only at hSw
                  go_simp
                  try with_reducible rfl
                try simp only [Act.put, List.setIfInBounds_toArray, List.set_cons_zero, List.set_cons_succ]
                refine steps_take (i := 8) (v := ?_) rfl (Or.inl ⟨by rfl, ?_⟩) ?_
                rotate_left
                · intro w hSw
                  try dsimp only at hSw
                  go_simp
                  try with_reducible rfl
                try simp only [Act.put, List.setIfInBounds_toArray, List.set_cons_zero, List.set_cons_succ]
                refine steps_take (i := 9) (v := undef) rfl (Or.inr ⟨by rfl, rfl⟩) ?_
                try simp only [Act.put, List.setIfInBounds_toArray, List.set_cons_zero, List.set_cons_succ]
                refine steps_take (i := 10) (v := undef) rfl (Or.inr ⟨by rfl, rfl⟩) ?_
                try simp only [Act.put, List.setIfInBounds_toArray, List.set_cons_zero, List.set_cons_succ]
                refine steps_take (i := 11) (v := ?_) rfl (Or.inl ⟨by rfl, ?_⟩) ?_
                rotate_left
                · intro w hSw
                  try dsimp only at hSw
                  go_simp
                  try with_reducible rfl
                try simp only [Act.put, List.setIfInBounds_toArray, List.set_cons_zero, List.set_cons_succ]
                refine steps_done (fun y hSy => ?_)
                refine NoPanic.normal ?_
                try dsimp only at hSy

                have HBY := hide hSy.1
                clear hSy
                go_wp2_with fail
                go_roundw
                case rel => exact ⟨i + 1, by omega, by go_num, HNX.out, HBY.out⟩
                case measure => first | (simp [intOf]; done) | (simp [intOf]; omega)
            · have e : i = 8 := by omega
              subst e
              have HNO := hide (st_bad (ws := ws) m (by omega) (fun hq => absurd (HW0.out.symm.trans hq) HNE.out.1) (fun hq => absurd (HW0.out.symm.trans hq) HNE.out.2.1) (fun hq => absurd (HW0.out.symm.trans hq) HNE.out.2.2.1) (fun hq => absurd (HW0.out.symm.trans hq) HNE.out.2.2.2) (fun h2 j hj hq => HNF.out j hj ⟨hq.trans HW0.out, h2⟩))
              have HRB0 : Hid (wr.heap[w.heap.size]? = some (.cells #[.int .i64 0, .int .i64 0, .int .i64 0, .int .i64 0, .int .i64 0, .int .i64 0, .int .i64 0, .int .i64 0, .int .i64 0] 53 (0, 0))) := three_first HB.out
              have HSB0 : Hid (wr.heap[w.heap.size + 1]? = some (.cells #[.int .i64 0, .int .i64 0, .int .i64 0, .int .i64 0, .int .i64 0, .int .i64 0, .int .i64 0, .int .i64 0, .int .i64 0] 53 (0, 0))) := three_second HB.out
              have HRB := HRB0
              have HBL2 : Hid (Below w.heap.size w wr) := (below_alloc3 _ _ _ _).trans (HB.out.mono (by omega))
              have hyz : w.heap.size + 1 < wr.heap.size := (Array.getElem?_eq_some_iff.1 HSB0.out).1
              clear hbel
              have k0 : wr.cell? ⟨w.heap.size, 0, none⟩ = some (.int .i64 0) := by rw [cell_of_block HRB0.out]; rfl
              have f0 : wr.frozen? ⟨w.heap.size, 0, none⟩ = false := by simp [World.frozen?, HRB0.out]
              have v0 : wr.cell? ⟨w.heap.size + 1, 0, none⟩ = some (.int .i64 0) := by rw [cell_of_block HSB0.out]; rfl
              have k1 : wr.cell? ⟨w.heap.size, 1, none⟩ = some (.int .i64 0) := by rw [cell_of_block HRB0.out]; rfl
              have f1 : wr.frozen? ⟨w.heap.size, 1, none⟩ = false := by simp [World.frozen?, HRB0.out]
              have v1 : wr.cell? ⟨w.heap.size + 1, 1, none⟩ = some (.int .i64 0) := by rw [cell_of_block HSB0.out]; rfl
              have k2 : wr.cell? ⟨w.heap.size, 2, none⟩ = some (.int .i64 0) := by rw [cell_of_block HRB0.out]; rfl
              have f2 : wr.frozen? ⟨w.heap.size, 2, none⟩ = false := by simp [World.frozen?, HRB0.out]
              have v2 : wr.cell? ⟨w.heap.size + 1, 2, none⟩ = some (.int .i64 0) := by rw [cell_of_block HSB0.out]; rfl
              have k3 : wr.cell? ⟨w.heap.size, 3, none⟩ = some (.int .i64 0) := by rw [cell_of_block HRB0.out]; rfl
              have f3 : wr.frozen? ⟨w.heap.size, 3, none⟩ = false := by simp [World.frozen?, HRB0.out]
              have v3 : wr.cell? ⟨w.heap.size + 1, 3, none⟩ = some (.int .i64 0) := by rw [cell_of_block HSB0.out]; rfl
              have k4 : wr.cell? ⟨w.heap.size, 4, none⟩ = some (.int .i64 0) := by rw [cell_of_block HRB0.out]; rfl
              have f4 : wr.frozen? ⟨w.heap.size, 4, none⟩ = false := by simp [World.frozen?, HRB0.out]
              have v4 : wr.cell? ⟨w.heap.size + 1, 4, none⟩ = some (.int .i64 0) := by rw [cell_of_block HSB0.out]; rfl
              have k5 : wr.cell? ⟨w.heap.size, 5, none⟩ = some (.int .i64 0) := by rw [cell_of_block HRB0.out]; rfl
              have f5 : wr.frozen? ⟨w.heap.size, 5, none⟩ = false := by simp [World.frozen?, HRB0.out]
              have v5 : wr.cell? ⟨w.heap.size + 1, 5, none⟩ = some (.int .i64 0) := by rw [cell_of_block HSB0.out]; rfl
              have k6 : wr.cell? ⟨w.heap.size, 6, none⟩ = some (.int .i64 0) := by rw [cell_of_block HRB0.out]; rfl
              have f6 : wr.frozen? ⟨w.heap.size, 6, none⟩ = false := by simp [World.frozen?, HRB0.out]
              have v6 : wr.cell? ⟨w.heap.size + 1, 6, none⟩ = some (.int .i64 0) := by rw [cell_of_block HSB0.out]; rfl
              have k7 : wr.cell? ⟨w.heap.size, 7, none⟩ = some (.int .i64 0) := by rw [cell_of_block HRB0.out]; rfl
              have f7 : wr.frozen? ⟨w.heap.size, 7, none⟩ = false := by simp [World.frozen?, HRB0.out]
              have v7 : wr.cell? ⟨w.heap.size + 1, 7, none⟩ = some (.int .i64 0) := by rw [cell_of_block HSB0.out]; rfl
              have k8 : wr.cell? ⟨w.heap.size, 8, none⟩ = some (.int .i64 0) := by rw [cell_of_block HRB0.out]; rfl
              have f8 : wr.frozen? ⟨w.heap.size, 8, none⟩ = false := by simp [World.frozen?, HRB0.out]
              have v8 : wr.cell? ⟨w.heap.size + 1, 8, none⟩ = some (.int .i64 0) := by rw [cell_of_block HSB0.out]; rfl
              have HTW := hide (nine_set (b0 := .int .i64 0) (b1 := .int .i64 0) (b2 := .int .i64 0) (b3 := .int .i64 0) (b4 := .int .i64 0) (b5 := .int .i64 0) (b6 := .int .i64 0) (b7 := .int .i64 0) (b8 := .int .i64 0) HRB.out)
              have HPP : Hid (StmtPost ws w (.returned (.tuple #[.agg #[.int .i64 0, .int .i64 0, .int .i64 0, .int .i64 0, .int .i64 0, .int .i64 0, .int .i64 0, .int .i64 0, .int .i64 0], .bool false])) (((((((((wr.setCell ⟨w.heap.size, 0, none⟩ (.int .i64 0)).setCell ⟨w.heap.size, 1, none⟩ (.int .i64 0)).setCell ⟨w.heap.size, 2, none⟩ (.int .i64 0)).setCell ⟨w.heap.size, 3, none⟩ (.int .i64 0)).setCell ⟨w.heap.size, 4, none⟩ (.int .i64 0)).setCell ⟨w.heap.size, 5, none⟩ (.int .i64 0)).setCell ⟨w.heap.size, 6, none⟩ (.int .i64 0)).setCell ⟨w.heap.size, 7, none⟩ (.int .i64 0)).setCell ⟨w.heap.size, 8, none⟩ (.int .i64 0))) := stmt_no (s := ⟨0, 0, 0, 0, 0, 0, 0, 0, 0⟩) HNO.out ((((((((((HBL2.out.setCell (Nat.le_refl _) _).setCell (Nat.le_refl _) _).setCell (Nat.le_refl _) _).setCell (Nat.le_refl _) _).setCell (Nat.le_refl _) _).setCell (Nat.le_refl _) _).setCell (Nat.le_refl _) _).setCell (Nat.le_refl _) _).setCell (Nat.le_refl _) _))
              go_wp2_with fail
              have s0 : (((((((((wr.setCell ⟨w.heap.size, 0, none⟩ (.int .i64 0)).setCell ⟨w.heap.size, 1, none⟩ (.int .i64 0)).setCell ⟨w.heap.size, 2, none⟩ (.int .i64 0)).setCell ⟨w.heap.size, 3, none⟩ (.int .i64 0)).setCell ⟨w.heap.size, 4, none⟩ (.int .i64 0)).setCell ⟨w.heap.size, 5, none⟩ (.int .i64 0)).setCell ⟨w.heap.size, 6, none⟩ (.int .i64 0)).setCell ⟨w.heap.size, 7, none⟩ (.int .i64 0)).setCell ⟨w.heap.size, 8, none⟩ (.int .i64 0)).cell? ⟨w.heap.size, 0, none⟩ = some (.int .i64 0) := by rw [cell_of_block HTW.out]; rfl
              have s1 : (((((((((wr.setCell ⟨w.heap.size, 0, none⟩ (.int .i64 0)).setCell ⟨w.heap.size, 1, none⟩ (.int .i64 0)).setCell ⟨w.heap.size, 2, none⟩ (.int .i64 0)).setCell ⟨w.heap.size, 3, none⟩ (.int .i64 0)).setCell ⟨w.heap.size, 4, none⟩ (.int .i64 0)).setCell ⟨w.heap.size, 5, none⟩ (.int .i64 0)).setCell ⟨w.heap.size, 6, none⟩ (.int .i64 0)).setCell ⟨w.heap.size, 7, none⟩ (.int .i64 0)).setCell ⟨w.heap.size, 8, none⟩ (.int .i64 0)).cell? ⟨w.heap.size, 1, none⟩ = some (.int .i64 0) := by rw [cell_of_block HTW.out]; rfl
              have s2 : (((((((((wr.setCell ⟨w.heap.size, 0, none⟩ (.int .i64 0)).setCell ⟨w.heap.size, 1, none⟩ (.int .i64 0)).setCell ⟨w.heap.size, 2, none⟩ (.int .i64 0)).setCell ⟨w.heap.size, 3, none⟩ (.int .i64 0)).setCell ⟨w.heap.size, 4, none⟩ (.int .i64 0)).setCell ⟨w.heap.size, 5, none⟩ (.int .i64 0)).setCell ⟨w.heap.size, 6, none⟩ (.int .i64 0)).setCell ⟨w.heap.size, 7, none⟩ (.int .i64 0)).setCell ⟨w.heap.size, 8, none⟩ (.int .i64 0)).cell? ⟨w.heap.size, 2, none⟩ = some (.int .i64 0) := by rw [cell_of_block HTW.out]; rfl
              have s3 : (((((((((wr.setCell ⟨w.heap.size, 0, none⟩ (.int .i64 0)).setCell ⟨w.heap.size, 1, none⟩ (.int .i64 0)).setCell ⟨w.heap.size, 2, none⟩ (.int .i64 0)).setCell ⟨w.heap.size, 3, none⟩ (.int .i64 0)).setCell ⟨w.heap.size, 4, none⟩ (.int .i64 0)).setCell ⟨w.heap.size, 5, none⟩ (.int .i64 0)).setCell ⟨w.heap.size, 6, none⟩ (.int .i64 0)).setCell ⟨w.heap.size, 7, none⟩ (.int .i64 0)).setCell ⟨w.heap.size, 8, none⟩ (.int .i64 0)).cell? ⟨w.heap.size, 3, none⟩ = some (.int .i64 0) := by rw [cell_of_block HTW.out]; rfl
              have s4 : (((((((((wr.setCell ⟨w.heap.size, 0, none⟩ (.int .i64 0)).setCell ⟨w.heap.size, 1, none⟩ (.int .i64 0)).setCell ⟨w.heap.size, 2, none⟩ (.int .i64 0)).setCell ⟨w.heap.size, 3, none⟩ (.int .i64 0)).setCell ⟨w.heap.size, 4, none⟩ (.int .i64 0)).setCell ⟨w.heap.size, 5, none⟩ (.int .i64 0)).setCell ⟨w.heap.size, 6, none⟩ (.int .i64 0)).setCell ⟨w.heap.size, 7, none⟩ (.int .i64 0)).setCell ⟨w.heap.size, 8, none⟩ (.int .i64 0)).cell? ⟨w.heap.size, 4, none⟩ = some (.int .i64 0) := by rw [cell_of_block HTW.out]; rfl
              have s5 : (((((((((wr.setCell ⟨w.heap.size, 0, none⟩ (.int .i64 0)).setCell ⟨w.heap.size, 1, none⟩ (.int .i64 0)).setCell ⟨w.heap.size, 2, none⟩ (.int .i64 0)).setCell ⟨w.heap.size, 3, none⟩ (.int .i64 0)).setCell ⟨w.heap.size, 4, none⟩ (.int .i64 0)).setCell ⟨w.heap.size, 5, none⟩ (.int .i64 0)).setCell ⟨w.heap.size, 6, none⟩ (.int .i64 0)).setCell ⟨w.heap.size, 7, none⟩ (.int .i64 0)).setCell ⟨w.heap.size, 8, none⟩ (.int .i64 0)).cell? ⟨w.heap.size, 5, none⟩ = some (.int .i64 0) := by rw [cell_of_block HTW.out]; rfl
              have s6 : (((((((((wr.setCell ⟨w.heap.size, 0, none⟩ (.int .i64 0)).setCell ⟨w.heap.size, 1, none⟩ (.int .i64 0)).setCell ⟨w.heap.size, 2, none⟩ (.int .i64 0)).setCell ⟨w.heap.size, 3, none⟩ (.int .i64 0)).setCell ⟨w.heap.size, 4, none⟩ (.int .i64 0)).setCell ⟨w.heap.size, 5, none⟩ (.int .i64 0)).setCell ⟨w.heap.size, 6, none⟩ (.int .i64 0)).setCell ⟨w.heap.size, 7, none⟩ (.int .i64 0)).setCell ⟨w.heap.size, 8, none⟩ (.int .i64 0)).cell? ⟨w.heap.size, 6, none⟩ = some (.int .i64 0) := by rw [cell_of_block HTW.out]; rfl
              have s7 : (((((((((wr.setCell ⟨w.heap.size, 0, none⟩ (.int .i64 0)).setCell ⟨w.heap.size, 1, none⟩ (.int .i64 0)).setCell ⟨w.heap.size, 2, none⟩ (.int .i64 0)).setCell ⟨w.heap.size, 3, none⟩ (.int .i64 0)).setCell ⟨w.heap.size, 4, none⟩ (.int .i64 0)).setCell ⟨w.heap.size, 5, none⟩ (.int .i64 0)).setCell ⟨w.heap.size, 6, none⟩ (.int .i64 0)).setCell ⟨w.heap.size, 7, none⟩ (.int .i64 0)).setCell ⟨w.heap.size, 8, none⟩ (.int .i64 0)).cell? ⟨w.heap.size, 7, none⟩ = some (.int .i64 0) := by rw [cell_of_block HTW.out]; rfl
              have s8 : (((((((((wr.setCell ⟨w.heap.size, 0, none⟩ (.int .i64 0)).setCell ⟨w.heap.size, 1, none⟩ (.int .i64 0)).setCell ⟨w.heap.size, 2, none⟩ (.int .i64 0)).setCell ⟨w.heap.size, 3, none⟩ (.int .i64 0)).setCell ⟨w.heap.size, 4, none⟩ (.int .i64 0)).setCell ⟨w.heap.size, 5, none⟩ (.int .i64 0)).setCell ⟨w.heap.size, 6, none⟩ (.int .i64 0)).setCell ⟨w.heap.size, 7, none⟩ (.int .i64 0)).setCell ⟨w.heap.size, 8, none⟩ (.int .i64 0)).cell? ⟨w.heap.size, 8, none⟩ = some (.int .i64 0) := by rw [cell_of_block HTW.out]; rfl
              exact bodyPost_ret (v := .tuple #[.agg #[.int .i64 0, .int .i64 0, .int .i64 0, .int .i64 0, .int .i64 0, .int .i64 0, .int .i64 0, .int .i64 0, .int .i64 0], .bool false]) (by simp [results, Tryd.results31, go_sem, s0, s1, s2, s3, s4, s5, s6, s7, s8]) rfl HPP.out
end Go.Proofs.YtjlfcbccpcigeacDoor
