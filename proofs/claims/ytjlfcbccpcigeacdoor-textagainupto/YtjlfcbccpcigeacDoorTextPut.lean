/- The contract of Print's closure: a line's words, a blank between, and a byte 10, behind what the builder holds. -/
import Derived.Test.YtjlfcbccpcigeacDoorTextRefs
import Derived.Lib.OthersKept
namespace Go.Proofs.YtjlfcbccpcigeacDoor
open Go.RowKit Go.Joins
set_option linter.unusedVariables false
set_option linter.unusedSimpArgs false
set_option maxRecDepth 8192

/-- a builder that holds these bytes -/
def Bd (B b : Nat) (l : List Int) (w : World) : Prop := Lib.IsBuilderF 40 5 B b (Lib.byteCells (b8 l)) w
theorem rowF_old {B : Nat} {e : TypeId} {k : Nat} {v : Value} {n : Nat} {bs : List Value} {w w' : World} (hb : Below w.heap.size w w') (h : w.ownsRowF B e k v n bs) : w'.ownsRowF B e k v n bs := by
  obtain ⟨hl, h0 | ⟨g, cap, cur, x, hv, hB, hh, r⟩⟩ := h
  · exact ⟨hl, .inl h0⟩
  · exact ⟨hl, .inr ⟨g, cap, cur, x, hv, hB, by rw [hb.block g (Array.getElem?_eq_some_iff.1 hh).1]; exact hh, r⟩⟩
theorem atF_old {T e : TypeId} {B b : Nat} {p : Value} {bs : List Value} {w w' : World} (hb : Below w.heap.size w w') (h : Lib.BuilderAtF T e B b p bs w) : Lib.BuilderAtF T e B b p bs w' := by
  obtain ⟨hB, v, hh, hown, hne⟩ := h
  exact ⟨hB, v, by rw [hb.block b (Array.getElem?_eq_some_iff.1 hh).1]; exact hh, rowF_old hb hown, hne⟩
theorem Bd.old {B b : Nat} {l : List Int} {w w' : World} (h : Bd B b l w) (hb : Below w.heap.size w w') : Bd B b l w' := h.elim (fun x => .inl (atF_old hb x)) (fun x => .inr (atF_old hb x))
theorem bcells_len (l : List Int) : (Lib.byteCells (b8 l)).length = l.length := by unfold Lib.byteCells; rw [List.length_map, b8_len]
set_option maxHeartbeats 2000000 in
theorem put_line (B q bk n cap : Nat) (l : List Int) (ws : List (List Int)) (w : World) (hO : Bd B q l w) (hB : B ≤ w.heap.size) (hw : StrsV w bk n ws) (hn : n ≤ 5) (hcap : n ≤ cap) (hcm : cap ≤ 9223372036854775807) (hl : l.length ≤ 1000000) (hj : (joinD 32 ws).length ≤ 1000000) :
    Calls Tryd.prog 14 #[.slice (some ⟨bk, 0, none⟩) n cap, .pointer (some ⟨q, 0, none⟩)] w fun e w' => e = .returned (.tuple #[]) ∧ Bd B q (l ++ (joinD 32 ws ++ [10])) w' ∧ Below B w w' ∧ Lib.OthersKept 5 (some q) w w' := by
  obtain ⟨hwl, hbk, hcs⟩ := hw
  have HJ : Hid (Calls Tryd.prog 16 #[.slice (some ⟨bk, 0, none⟩) n cap, .string (ByteArray.mk #[32])] w fun e w' => e = .returned (.string (strOfNums (joinD 32 ws))) ∧ Below w.heap.size w w') := by
    have h := Tryd.strings_Join bk 0 cap (ws.map strOfNums) (strOfNums [32]) w (fun j x hx => by
      rw [List.getElem?_map] at hx
      obtain ⟨p, hp, rfl⟩ := Option.map_eq_some_iff.1 hx
      have hjl : j < ws.length := (List.getElem?_eq_some_iff.1 hp).1
      rw [Nat.zero_add, hcs j (by omega), List.getD_eq_getElem?_getD, hp]; rfl) hbk (by rw [List.length_map]; omega) (by rw [List.length_map]; omega) (by
      rw [List.map_map, show ((fun x : ByteArray => x.data.toList) ∘ strOfNums) = b8 from funext str_list, str_list, join_b8, b8_len]; omega)
    rw [List.map_map, show ((fun x : ByteArray => x.data.toList) ∘ strOfNums) = b8 from funext str_list, str_list, join_b8, List.length_map, hwl] at h
    exact h
  obtain ⟨jl, hjl⟩ : ∃ jl, joinD 32 ws = jl := ⟨_, rfl⟩
  rw [hjl] at HJ hj
  have HO := hide hO
  have HB := hide hB
  have HL := hide hl
  have HJL := hide hj
  clear hO hB hcs hbk hwl hl hj
  rw [hjl]
  clear hjl
  go_enter Tryd.func14, Tryd.ntmps14
  go_wp2_with fail
  refine HJ.out.mono ?_
  rintro e y1 ⟨rfl, hy1⟩
  have HY1 := hide hy1
  have HO1 := hide (HO.out.old hy1)
  clear hy1
  go_wp2_with fail
  refine (Tryd.Builder_WriteString_k B q _ (strOfNums jl) _ HO1.out (by rw [bcells_len, strOfNums_size]; have := HL.out; have := HJL.out; omega) (Nat.le_trans HB.out HY1.out.size)).mono ?_
  rintro e y2 ⟨rfl, hb2, hy2, hk2⟩
  have HO2 : Hid (Bd B q (l ++ jl) y2) := .inr (by rw [b8_app, Lib.byteCells_append, ← str_list jl]; exact hb2)
  have HY2 := hide ((HY1.out.mono HB.out).trans hy2)
  have HK2 := hide hk2
  clear hb2 hy2 hk2
  go_wp2_with fail
  refine (Tryd.Builder_WriteByte_k B q _ 10 _ HO2.out (by rw [bcells_len, List.length_append]; have := HL.out; have := HJL.out; omega) (Nat.le_trans HB.out HY2.out.size)).mono ?_
  rintro e y3 ⟨rfl, hb3, hy3, hk3⟩
  have HO3 : Hid (Bd B q (l ++ (jl ++ [10])) y3) := .inr (by rw [← List.append_assoc, b8_app (l ++ jl), Lib.byteCells_append]; exact hb3)
  have HY3 := hide (HY2.out.trans hy3)
  have HK3 : Hid (Lib.OthersKept 5 (some q) w y3) := (Lib.OthersKept.trans (fun k o hk _ _ => by rw [HY1.out.block k (Array.getElem?_eq_some_iff.1 hk).1]; exact hk) HK2.out).trans hk3
  clear hb3 hy3 hk3
  go_wp2_with fail
  go_end0
  exact ⟨rfl, HO3.out, HY3.out, HK3.out⟩
end Go.Proofs.YtjlfcbccpcigeacDoor
