/- The document's split: a text's parts between bytes. -/
import Derived.Test.YtjlfcbccpcigeacDoorRef14Ref
import Derived.Test.YtjlfcbccpcigeacDoorRounds
namespace Go.Proofs.YtjlfcbccpcigeacDoor
open Go.RowKit Go.Joins
set_option linter.unusedVariables false
set_option linter.unusedSimpArgs false
set_option maxRecDepth 8192

/-- bytes -/
def ByteL (s : List Int) : Prop := ∀ i, 0 ≤ nth s i ∧ nth s i ≤ 255
theorem str_extract (s : List Int) (a b : Nat) : (strOfNums s).extract a b = strOfNums ((s.drop a).take (b - a)) := by
  apply ByteArray.ext
  apply Array.toList_inj.1
  rw [strOfNums_data]
  simp [strOfNums, ByteArray.data_extract, List.map_take, List.map_drop, List.extract_eq_take_drop]
theorem str_get (s : List Int) (h : ByteL s) {i : Nat} (hi : i < s.length) : ((strOfNums s).data[i]?).map (·.toNat) = some (nth s i).toNat := by
  have e : (strOfNums s).data[i]? = some (UInt8.ofNat (nth s i).toNat) := by
    show ((s.map fun n => UInt8.ofNat n.toNat).toArray)[i]? = _
    rw [List.getElem?_toArray, List.getElem?_map, List.getElem?_eq_getElem hi]
    unfold nth
    rw [List.getD, List.getElem?_eq_getElem hi]
    rfl
  rw [e]
  have := h i
  simp
  omega
theorem str_ix {s : List Int} (hs : ByteL s) {i : Nat} (hi : i < s.length) (h : i < (strOfNums s).size) : (((strOfNums s)[i]'h).toNat : Int) = nth s i := by
  have e := str_get s hs hi
  have e2 : (strOfNums s).data[i]? = some ((strOfNums s)[i]'h) := by
    show (strOfNums s).data[i]? = some ((strOfNums s).data[i]'h)
    exact Array.getElem?_eq_getElem h
  rw [e2] at e
  have e3 : ((strOfNums s)[i]'h).toNat = (nth s i).toNat := Option.some.inj e
  have := hs i
  omega
theorem drop_at {s : List Int} {fr i : Nat} (hf : fr ≤ i) (hi : i < s.length) : s.drop fr = (s.drop fr).take (i - fr) ++ nth s i :: s.drop (i + 1) := by
  have e : (s.drop fr).drop (i - fr) = nth s i :: s.drop (i + 1) := by
    rw [List.drop_drop, show fr + (i - fr) = i by omega, List.drop_eq_getElem_cons hi]
    unfold nth
    rw [List.getD, List.getElem?_eq_getElem hi]; rfl
  rw [← e, List.take_append_drop]
theorem take_at {s : List Int} {fr i : Nat} (hf : fr ≤ i) (hi : i < s.length) : (s.drop fr).take (i + 1 - fr) = (s.drop fr).take (i - fr) ++ [nth s i] := by
  rw [show i + 1 - fr = (i - fr) + 1 by omega, List.take_add_one, List.getElem?_drop, show fr + (i - fr) = i by omega, List.getElem?_eq_getElem hi]
  unfold nth
  rw [List.getD, List.getElem?_eq_getElem hi]; rfl
theorem Tryd.ist9 : (Tryd.prog.info? 9).map (fun i => (i.zero, i.size, i.bytes)) = some (some (.string (ByteArray.mk #[])), 1, 16) := by kernel_rfl
/-- the parts so far -/
structure SplI (x : Int) (s : List Int) (i fr : Nat) (Ps : List (List Int)) : Prop where
  le : i ≤ s.length + 1
  mid : i ≤ s.length → fr ≤ i ∧ splitD x s = Ps ++ splitD x (s.drop fr) ∧ ∀ c ∈ (s.drop fr).take (i - fr), c ≠ x
  fin : s.length < i → Ps = splitD x s
theorem SplI.last {x : Int} {s : List Int} {fr : Nat} {Ps : List (List Int)} (h : SplI x s s.length fr Ps) : SplI x s (s.length + 1) (s.length + 1) (Ps ++ [(s.drop fr).take (s.length - fr)]) := by
  obtain ⟨h1, h2, h3⟩ := h.mid (Nat.le_refl _)
  have e : (s.drop fr).take (s.length - fr) = s.drop fr := List.take_of_length_le (by rw [List.length_drop]; exact Nat.le_refl _)
  rw [e] at h3
  refine ⟨Nat.le_refl _, fun hq => absurd hq (by omega), fun _ => ?_⟩
  rw [e, h2, split_free _ h3]
theorem SplI.cut {x : Int} {s : List Int} {i fr : Nat} {Ps : List (List Int)} (h : SplI x s i fr Ps) (hi : i < s.length) (hx : nth s i = x) : SplI x s (i + 1) (i + 1) (Ps ++ [(s.drop fr).take (i - fr)]) := by
  obtain ⟨h1, h2, h3⟩ := h.mid (by omega)
  refine ⟨by omega, fun _ => ⟨Nat.le_refl _, ?_, fun c hc => ?_⟩, fun hq => absurd hq (by omega)⟩
  · rw [h2]
    have e := drop_at h1 hi
    rw [hx] at e
    have e2 : splitD x (s.drop fr) = (s.drop fr).take (i - fr) :: splitD x (s.drop (i + 1)) := by
      conv => lhs; rw [e]
      exact split_app h3 _
    rw [e2, List.append_assoc]; rfl
  · rw [Nat.sub_self] at hc; cases hc
theorem SplI.go {x : Int} {s : List Int} {i fr : Nat} {Ps : List (List Int)} (h : SplI x s i fr Ps) (hi : i < s.length) (hx : nth s i ≠ x) : SplI x s (i + 1) fr Ps := by
  obtain ⟨h1, h2, h3⟩ := h.mid (by omega)
  refine ⟨by omega, fun _ => ⟨by omega, h2, fun c hc => ?_⟩, fun hq => absurd hq (by omega)⟩
  rw [take_at h1 hi] at hc
  rcases List.mem_append.1 hc with hc | hc
  · exact h3 c hc
  · have : c = nth s i := by simpa using hc
    rw [this]; exact hx
def strsC (ps : List (List Int)) : List Value := ps.map fun p => .string (strOfNums p)
theorem strsC_snoc (ps : List (List Int)) (p : List Int) : strsC (ps ++ [p]) = strsC ps ++ [.string (strOfNums p)] := by unfold strsC; simp
theorem one_str (wr : World) (PV : ByteArray) : ∀ (j : Nat) (u : Value), [Value.string PV][j]? = some u → (wr.alloc (.cells #[.string PV] 9)).cell? ((⟨wr.heap.size, 0, none⟩ : Addr).add j) = some u := by
  intro j u hj
  have ha : (⟨wr.heap.size, 0, none⟩ : Addr).add j = ⟨wr.heap.size, j, none⟩ := by simp [Addr.add]; omega
  rw [ha, cell_of_block (new_blkS wr _ _)]
  simpa using hj
set_option maxHeartbeats 8000000 in
theorem split_walk (s : List Int) (x : Int) (w : World) (hs : ByteL s) (hl : s.length ≤ 2000000) :
    Calls Tryd.prog 29 #[.string (strOfNums s), .int .u8 x] w fun e w' => ∃ v, e = .returned v ∧ w'.ownsRow w.heap.size 9 1 v (splitD x s).length (strsC (splitD x s)) ∧ Below w.heap.size w w' := by
  obtain ⟨i0, hi, hz0, hz1, hz2⟩ := info_parts Tryd.ist9
  have hsz : (strOfNums s).size = s.length := strOfNums_size s
  go_enter Tryd.func29, Tryd.ntmps29
  go_wp2_with fail
  go_loopw [5, 6, 7] (fun lv fv iv wr => ∃ (i fr : Nat) (Ps : List (List Int)) (la : Option Addr) (lc : Nat), lv = .slice la Ps.length lc ∧ fv = .int .i64 fr ∧ iv = .int .i64 i ∧ fr ≤ s.length + 1 ∧ Ps.length ≤ i ∧ SplI x s i fr Ps ∧ wr.ownsRow w.heap.size 9 1 (.slice la Ps.length lc) Ps.length (strsC Ps) ∧ Below w.heap.size w wr) (fun _ _ iv _ => s.length + 1 - (intOf iv).toNat)
  case atStart => exact ⟨0, 0, [], none, 0, rfl, rfl, rfl, by omega, Nat.le_refl _, ⟨by omega, fun _ => ⟨Nat.le_refl _, rfl, fun c hc => by simp at hc⟩, fun h => absurd h (by omega)⟩, ⟨rfl, .inl ⟨rfl, rfl⟩⟩, Below.refl _ _⟩
  case round =>
    obtain ⟨i, fr, Ps, la, lc, rfl, rfl, rfl, hfl, hpl, hI, hown, hbel⟩ := hrel
    have HI := hide hI
    have HO := hide hown
    have HB := hide hbel
    obtain ⟨la9, lc9, hsh, hkc, hcm⟩ := ownz_shape hown
    injection hsh with hsh1 hsh2 hsh3
    clear hsh1 hsh2
    subst hsh3
    unfold maxLen at hcm
    have HGE := hide (ownz_block_ge hown)
    have hwz : w.heap.size ≤ wr.heap.size := hbel.size
    by_cases hil : i ≤ s.length
    · have hii : (i : Int) ≤ (s.length : Int) := by omega
      obtain ⟨hfi, -, -⟩ := hI.mid hil
      have hfii : (fr : Int) ≤ (i : Int) := by omega
      by_cases hie : i = s.length
      · subst hie
        have HS := hide hI.last
        obtain ⟨PV, hpv⟩ : ∃ PV, (strOfNums s).extract fr s.length = PV := ⟨_, rfl⟩
        have HPV : Hid (PV = strOfNums ((s.drop fr).take (s.length - fr))) := hpv.symm.trans (str_extract s fr s.length)
        have HOC : Hid (∀ (j : Nat) (u : Value), [Value.string PV][j]? = some u → (wr.alloc (.cells #[.string PV] 9)).cell? ((⟨wr.heap.size, 0, none⟩ : Addr).add j) = some u) := one_str wr PV
        clear hI hown hbel
        go_wp2_with (at_builtin; refine wpList_append_own _ rfl (.tmp 25) (.tmp 30) 41 rfl w.heap.size 9 i0 (.string (ByteArray.mk #[])) 1 16 Tryd.underlying41 hi hz0 hz1 hz2 rfl (by decide) _ _ _ rfl (own_below HO.out (below_alloc1 _ _)) ⟨wr.heap.size, 0, none⟩ 1 1 [.string PV] rfl rfl (by exact HOC.out) (by intro u hu; simp at hu; subst hu; rfl) (by unfold maxLen; omega) (by omega) (by simp; omega) ?_; intro v1 w1 hown1 hgrow1 hnil1; obtain ⟨la1, lc1, rfl, -, -⟩ := ownz_shape hown1; have HO1 := hide hown1; have HB1 := hide ((HB.out.alloc HB.out.size (.cells #[.string PV] 9)).grown hgrow1 (by simp; omega) HGE.out); clear hown1 hgrow1 hnil1)
        go_roundw
        case rel => exact ⟨s.length + 1, s.length + 1, Ps ++ [(s.drop fr).take (s.length - fr)], la1, lc1, by simp, by go_num, by go_num, by omega, by simp; omega, HS.out, by rw [List.length_append, strsC_snoc, ← HPV.out]; exact HO1.out, HB1.out⟩
        case measure => first | (simp [intOf]; done) | (simp [intOf]; omega)
      · have hlt : i < s.length := by omega
        have hbi : ((i : Int) == (s.length : Int)) = false := beq_false_of_ne (by omega)
        have hlti : (i : Int) < (s.length : Int) := by omega
        have hix := fun h => str_ix hs hlt h
        by_cases hx : nth s i = x
        · have HS := hide (hI.cut hlt hx)
          rw [hx] at hix
          obtain ⟨PV, hpv⟩ : ∃ PV, (strOfNums s).extract fr i = PV := ⟨_, rfl⟩
          have HPV : Hid (PV = strOfNums ((s.drop fr).take (i - fr))) := hpv.symm.trans (str_extract s fr i)
          have HOC : Hid (∀ (j : Nat) (u : Value), [Value.string PV][j]? = some u → (wr.alloc (.cells #[.string PV] 9)).cell? ((⟨wr.heap.size, 0, none⟩ : Addr).add j) = some u) := one_str wr PV
          clear hI hown hbel hx
          go_wp2_with (at_builtin; refine wpList_append_own _ rfl (.tmp 25) (.tmp 30) 41 rfl w.heap.size 9 i0 (.string (ByteArray.mk #[])) 1 16 Tryd.underlying41 hi hz0 hz1 hz2 rfl (by decide) _ _ _ rfl (own_below HO.out (below_alloc1 _ _)) ⟨wr.heap.size, 0, none⟩ 1 1 [.string PV] rfl rfl (by exact HOC.out) (by intro u hu; simp at hu; subst hu; rfl) (by unfold maxLen; omega) (by omega) (by simp; omega) ?_; intro v1 w1 hown1 hgrow1 hnil1; obtain ⟨la1, lc1, rfl, -, -⟩ := ownz_shape hown1; have HO1 := hide hown1; have HB1 := hide ((HB.out.alloc HB.out.size (.cells #[.string PV] 9)).grown hgrow1 (by simp; omega) HGE.out); clear hown1 hgrow1 hnil1)
          go_roundw
          case rel => exact ⟨i + 1, i + 1, Ps ++ [(s.drop fr).take (i - fr)], la1, lc1, by simp, by go_num, by go_num, by omega, by simp; omega, HS.out, by rw [List.length_append, strsC_snoc, ← HPV.out]; exact HO1.out, HB1.out⟩
          case measure => first | (simp [intOf]; done) | (simp [intOf]; omega)
        · have HS := hide (hI.go hlt hx)
          have hbx : (nth s i == x) = false := beq_false_of_ne hx
          clear hI hown hbel hx
          go_wp2_with fail
          go_roundw
          case rel => exact ⟨i + 1, fr, Ps, la, lc, rfl, rfl, by go_num, by omega, by omega, HS.out, HO.out, HB.out⟩
          case measure => first | (simp [intOf]; done) | (simp [intOf]; omega)
    · have hii : ¬ (i : Int) ≤ (s.length : Int) := by omega
      have HFN := hide (hI.fin (by omega))
      clear hI hown hbel
      go_wp2_with fail
      go_ret
      refine ⟨_, rfl, ?_, HB.out⟩
      rw [← HFN.out]
      exact HO.out
theorem split_any (s : List Int) (x : Int) (w : World) (hs : ByteL s) (hl : s.length ≤ 2000000) :
    Calls Tryd.prog 29 #[.string (strOfNums s), .int .u8 x] w fun e w' => ∃ b c, e = .returned (.slice (some ⟨b, 0, none⟩) (splitD x s).length c) ∧ (splitD x s).length ≤ c ∧ c ≤ maxLen ∧ w.heap.size ≤ b ∧ b < w'.heap.size ∧ (∀ i, i < (splitD x s).length → w'.cell? ⟨b, i, none⟩ = some (.string (strOfNums ((splitD x s).getD i [])))) ∧ Below w.heap.size w w' := by
  refine (split_walk s x w hs hl).mono fun e w' ⟨v, he, hown, hb⟩ => ?_
  obtain ⟨hl, hc⟩ := hown
  rcases hc with ⟨_, h0⟩ | ⟨g, cap, cur, hv, hg, hbk, hn, hm, hcs, ht⟩
  · exact absurd (List.length_eq_zero_iff.1 h0) (split_ne x s)
  · refine ⟨g, cap, by rw [he, hv], hn, hm, hg, (Array.getElem?_eq_some_iff.1 hbk).1, fun i hi => ?_, hb⟩
    rw [cell_of_block hbk]
    have h3 : (cur.toList.take ((splitD x s).length * 1))[i]? = (strsC (splitD x s))[i]? := by rw [ht]
    rw [List.getElem?_take, if_pos (by omega)] at h3
    have h6 : cur.toList[i]? = cur[i]? := by simp
    rw [← h6, h3]
    unfold strsC
    rw [List.getElem?_map, List.getElem?_eq_getElem hi, List.getD, List.getElem?_eq_getElem hi]
    rfl
end Go.Proofs.YtjlfcbccpcigeacDoor
