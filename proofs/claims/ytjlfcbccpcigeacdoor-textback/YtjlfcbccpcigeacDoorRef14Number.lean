/- The document's number: of a text, of up to so many digits, within 64 bits. -/
import Derived.Test.YtjlfcbccpcigeacDoorRef14Split
namespace Go.Proofs.YtjlfcbccpcigeacDoor
open Go.RowKit Go.Joins
set_option linter.unusedVariables false
set_option linter.unusedSimpArgs false
set_option maxRecDepth 8192

theorem head_digs (n : Nat) : (digs n).head? ≠ some 45 := by
  intro h
  cases hd : digs n with
  | nil => exact digs_ne _ hd
  | cons c l =>
    rw [hd] at h
    have hc := digs_bytes n c (by rw [hd]; exact List.mem_cons_self ..)
    have : c = 45 := by simpa using h
    omega
theorem numT_digits (n : Int) : numT (digitsD n) = digs n.natAbs ∧ ((digitsD n).head? = some 45 → n < 0) := by
  unfold numT digitsD
  by_cases hn : n < 0
  · rw [if_pos hn]; exact ⟨if_pos rfl, fun _ => hn⟩
  · rw [if_neg hn, if_neg (head_digs _)]; exact ⟨rfl, fun h => absurd h (head_digs _)⟩
theorem num_no {s : List Int} {most : Nat} (h : ∀ n, s = digitsD n → False) : numO s most = none := by
  cases e : numO s most with
  | none => rfl
  | some n => exact (h n (num_is e).1).elim
theorem num_nil {s : List Int} {most : Nat} (h : numT s = []) : numO s most = none := num_no fun n e => by
  rw [e, (numT_digits n).1] at h
  exact digs_ne _ h
theorem num_long {s : List Int} {most : Nat} (h : most < (numT s).length) : numO s most = none := by
  unfold numO
  rw [if_neg (fun hc => by omega)]
theorem num_zero {s : List Int} {most : Nat} (h0 : 0 < (numT s).length) (h : nth (numT s) 0 = 48) (h2 : 1 < (numT s).length ∨ s.head? = some 45) : numO s most = none := num_no fun n e => by
  obtain ⟨e1, e2⟩ := numT_digits n
  rw [e, e1] at h
  rw [e, e1] at h2
  by_cases hz : n.natAbs = 0
  · rw [hz, digs_small (by omega)] at h2
    rcases h2 with h2 | h2
    · exact absurd h2 (by simp)
    · have := e2 h2; omega
  · obtain ⟨c, l, hd, hc⟩ := digs_head hz
    rw [hd] at h
    exact hc h
theorem num_char {s : List Int} {most j : Nat} (hj : j < (numT s).length) (h : nth (numT s) j < 48 ∨ 57 < nth (numT s) j) : numO s most = none := num_no fun n e => by
  have e1 := (numT_digits n).1
  rw [e, e1] at h hj
  have hm : nth (digs n.natAbs) j ∈ digs n.natAbs := by
    unfold nth
    rw [List.getD, List.getElem?_eq_getElem hj]
    exact List.getElem_mem hj
  have := digs_bytes _ _ hm
  omega
theorem num_yes {s : List Int} {most : Nat} (h : (numT s).length ≤ most) : numO s most = if digitsD (numV s) = s then some (numV s) else none := by
  unfold numO
  by_cases e : digitsD (numV s) = s
  · rw [if_pos e, if_pos ⟨h, e⟩]
  · rw [if_neg e, if_neg fun hc => e hc.2]
theorem strs_inj : ∀ {l m : List Int}, (∀ c ∈ l, 0 ≤ c ∧ c ≤ 255) → (∀ c ∈ m, 0 ≤ c ∧ c ≤ 255) → strOfNums l = strOfNums m → l = m := by
  intro l m hl hm h
  have h1 : l.map (fun n => UInt8.ofNat n.toNat) = m.map (fun n => UInt8.ofNat n.toNat) := by rw [← strOfNums_data, ← strOfNums_data, h]
  clear h
  induction l generalizing m with
  | nil => cases m with
    | nil => rfl
    | cons c m => simp at h1
  | cons c l ih => cases m with
    | nil => simp at h1
    | cons d m =>
      simp only [List.map_cons, List.cons.injEq] at h1
      have e1 := congrArg UInt8.toNat h1.1
      have hc := hl c (List.mem_cons_self ..)
      have hd := hm d (List.mem_cons_self ..)
      simp at e1
      have e2 : c = d := by omega
      rw [e2, ih (fun x hx => hl x (List.mem_cons_of_mem _ hx)) (fun x hx => hm x (List.mem_cons_of_mem _ hx)) h1.2]
theorem str_beq {l m : List Int} (hl : ∀ c ∈ l, 0 ≤ c ∧ c ≤ 255) (hm : ∀ c ∈ m, 0 ≤ c ∧ c ≤ 255) : ((strOfNums l).toList == (strOfNums m).toList) = decide (l = m) := by
  by_cases h : l = m
  · rw [h, decide_eq_true rfl]; simp
  · rw [decide_eq_false h]
    refine beq_false_of_ne fun e => h (strs_inj hl hm ?_)
    rw [ByteArray.toList_eq, ByteArray.toList_eq] at e
    exact ByteArray.ext (Array.toList_inj.1 e)
theorem byteL_mem {s : List Int} (h : ByteL s) : ∀ c ∈ s, 0 ≤ c ∧ c ≤ 255 := nth_mem fun i _ => h i
theorem digits_byte (n : Int) : ∀ c ∈ digitsD n, 0 ≤ c ∧ c ≤ 255 := fun c hc => by rcases digits_bytes n c hc with h | h <;> omega
theorem val_step (V d : Int) : wrap64 (wrap64 (10 * wrap64 (-V)) - d) = wrap64 (-(10 * V + d)) := by unfold wrap64; omega
theorem val_neg (V : Int) : wrap64 (0 - wrap64 (-V)) = wrap64 V := by unfold wrap64; omega
theorem val_take (t : List Int) {i : Nat} (h : i < t.length) : valD (t.take (i + 1)) = 10 * valD (t.take i) + (nth t i - 48) := by
  rw [List.take_add_one, List.getElem?_eq_getElem h]
  unfold nth
  rw [List.getD, List.getElem?_eq_getElem h]
  exact valD_snoc _ _
theorem nth_tail (s : List Int) (i : Nat) : nth s.tail i = nth s (i + 1) := by unfold nth; cases s <;> simp
theorem byteL_tail {s : List Int} (h : ByteL s) : ByteL s.tail := fun i => by rw [nth_tail]; exact h (i + 1)
theorem str_tail (s : List Int) : (strOfNums s).extract 1 s.length = strOfNums s.tail := by
  rw [str_extract]
  congr 1
  rw [List.drop_one]
  exact List.take_of_length_le (by simp)
/-- what number answers -/
def NumPost (s : List Int) (most : Nat) (w : World) (e : Ending) (w' : World) : Prop := ∃ n b, e = .returned (.tuple #[.int .i64 n, .bool b]) ∧ b = (numO s most).isSome ∧ (∀ m, numO s most = some m → n = m) ∧ -9223372036854775808 ≤ n ∧ n ≤ 9223372036854775807 ∧ Below w.heap.size w w'
theorem NumPost.none {s : List Int} {most : Nat} {w : World} (h : numO s most = none) : NumPost s most w (.returned (.tuple #[.int .i64 0, .bool false])) w :=
  ⟨0, false, rfl, by rw [h]; rfl, fun m hm => (by rw [h] at hm; cases hm), by omega, by omega, Below.refl _ _⟩
theorem num_post {s : List Int} {most : Nat} {w y : World} {nv : Int} {bq : Bool} (h1 : numO s most = if digitsD nv = s then some nv else none) (h2 : decide (digitsD nv = s) = bq) (h3 : -9223372036854775808 ≤ nv) (h4 : nv ≤ 9223372036854775807) (hy : Below w.heap.size w y) : NumPost s most w (.returned (.tuple #[.int .i64 nv, .bool bq])) y := by
  refine ⟨nv, bq, rfl, ?_, fun m hm => ?_, h3, h4, hy⟩
  · rw [h1, ← h2]
    by_cases e : digitsD nv = s
    · rw [if_pos e, decide_eq_true e]; rfl
    · rw [if_neg e, decide_eq_false e]; rfl
  · rw [h1] at hm
    by_cases e : digitsD nv = s
    · rw [if_pos e] at hm; exact Option.some.inj hm
    · rw [if_neg e] at hm; cases hm

set_option maxHeartbeats 16000000 in
theorem number_walk (s : List Int) (most : Nat) (w : World) (hsb : ByteL s) (hl : s.length ≤ 2000000) (hm : most ≤ 19) :
    Calls Tryd.prog 30 #[.string (strOfNums s), .int .i64 most] w (NumPost s most w) := by
  have hsz : (strOfNums s).size = s.length := strOfNums_size s
  go_enter Tryd.func30, Tryd.ntmps30
  by_cases h0 : s.length = 0
  · have e : s = [] := List.length_eq_zero_iff.1 h0
    have HNO : Hid (numO s most = none) := num_nil (by rw [e]; rfl)
    have hp : ¬ (0 : Int) < (s.length : Int) := by omega
    have hp2 : (s.length : Int) < 1 := by omega
    clear e h0
    go_wp2_with fail
    exact bodyPost_ret (v := .tuple #[.int .i64 0, .bool false]) (by simp [results, Tryd.results30, go_sem]) rfl (NumPost.none HNO.out)

  · have hp : (0 : Int) < (s.length : Int) := by omega
    have hix := fun h => str_ix hsb (show 0 < s.length by omega) h
    by_cases hb : nth s 0 = 45
    · rw [hb] at hix
      have hhd : s.head? = some 45 := by
        cases s with
        | nil => exact absurd rfl h0
        | cons c l => exact congrArg some hb
      obtain ⟨t, ht⟩ : ∃ t, s.tail = t := ⟨_, rfl⟩
      have HT : Hid (numT s = t) := by show _ = _; unfold numT; rw [if_pos hhd]; exact ht
      have HHD := hide hhd
      have htl : t.length ≤ s.length := by rw [← ht]; simp
      have htb : ByteL t := by rw [← ht]; exact byteL_tail hsb
      have hex : (strOfNums s).extract 1 s.length = strOfNums t := by rw [str_tail, ht]
      have htz : (strOfNums t).size = t.length := strOfNums_size t
      have hp1 : (1 : Int) ≤ (s.length : Int) := by omega
      clear hb hhd ht h0
      by_cases ht0 : t.length < 1
      · have HNO := hide (num_nil (s := s) (most := most) (by rw [HT.out]; exact List.length_eq_zero_iff.1 (by omega)))
        have hti : (t.length : Int) < 1 := by omega
        go_wp2_with fail
        exact bodyPost_ret (v := .tuple #[.int .i64 0, .bool false]) (by simp [results, Tryd.results30, go_sem]) rfl (NumPost.none HNO.out)

      · have hti : ¬ (t.length : Int) < 1 := by omega
        by_cases htm : most < t.length
        · have HNO := hide (num_long (s := s) (most := most) (by rw [HT.out]; exact htm))
          have htn : (most : Int) < (t.length : Int) := by omega
          go_wp2_with fail
          exact bodyPost_ret (v := .tuple #[.int .i64 0, .bool false]) (by simp [results, Tryd.results30, go_sem]) rfl (NumPost.none HNO.out)

        · have htn : ¬ (most : Int) < (t.length : Int) := by omega
          have hix0 := fun h => str_ix htb (show 0 < t.length by omega) h
          have hpos0 : (0 : Int) < (t.length : Int) := by omega
          obtain ⟨c1, hc1⟩ : ∃ c1, nth t 0 = c1 := ⟨_, rfl⟩
          have HC1 := hide hc1
          rw [hc1] at hix0
          clear hc1
          by_cases hz : c1 = 48 ∧ (1 < t.length ∨ True)
          · obtain ⟨hz1, hz2⟩ := hz
            have HNO := hide (num_zero (s := s) (most := most) (by rw [HT.out]; omega) (by rw [HT.out, HC1.out]; exact hz1) (by rw [HT.out]; exact .inr HHD.out))
            have hzb : (c1 == 48) = true := by simpa using hz1
            clear hz1
            by_cases hq1 : 1 < t.length
            · have hq2 : (1 : Int) < (t.length : Int) := by omega
              go_wp2_with fail
              exact bodyPost_ret (v := .tuple #[.int .i64 0, .bool false]) (by simp [results, Tryd.results30, go_sem]) rfl (NumPost.none HNO.out)
            · have hq2 : ¬ (1 : Int) < (t.length : Int) := by omega
              go_wp2_with fail
              exact bodyPost_ret (v := .tuple #[.int .i64 0, .bool false]) (by simp [results, Tryd.results30, go_sem]) rfl (NumPost.none HNO.out)
          · obtain ⟨zb, hzb⟩ : ∃ zb, (c1 == 48) = zb := ⟨_, rfl⟩
            have hzq : zb = true → ¬ (1 : Int) < (t.length : Int) ∧ False := fun h => by
              rw [h] at hzb
              have e : c1 = 48 := by simpa using hzb
              exact ⟨fun hq => hz ⟨e, .inl (by omega)⟩, hz ⟨e, .inr trivial⟩⟩
            clear hz
            have HLP : Hid True := trivial
            cases zb with
            | true => exact absurd (hzq rfl).2 id
            | false =>
              clear hzq
              go_wp2_with fail
              go_loopw [8, 9] (fun nv iv wr => ∃ i : Nat, i ≤ t.length ∧ nv = .int .i64 (wrap64 (-(valD (t.take i)))) ∧ iv = .int .i64 i ∧ (∀ j, j < i → 48 ≤ nth t j ∧ nth t j ≤ 57) ∧ wr = w) (fun _ iv _ => t.length - (intOf iv).toNat)
              case atStart => exact ⟨0, Nat.zero_le _, (by rw [List.take_zero]; simp [valD, wrap64]), rfl, fun j hj => absurd hj (by omega), rfl⟩
              case round =>
                obtain ⟨i, hi, rfl, rfl, hdg, hwr⟩ := hrel
                have hwr := hwr.symm
                subst hwr
                have HDG := hide hdg
                clear hdg
                by_cases hil : i < t.length
                · have hii : (i : Int) < (t.length : Int) := by omega
                  have hixi := fun h => str_ix htb hil h
                  have hcb := htb i
                  have HVS := hide (val_take t hil)
                  obtain ⟨ci, hci⟩ : ∃ ci, nth t i = ci := ⟨_, rfl⟩
                  have HCI := hide hci
                  rw [hci] at hixi hcb HVS
                  clear hci
                  by_cases hlo : ci < 48
                  · have HNO := hide (num_char (s := s) (most := most) (j := i) (by rw [HT.out]; exact hil) (by rw [HT.out, HCI.out]; exact .inl hlo))
                    go_wp2_with fail
                    exact bodyPost_ret (v := .tuple #[.int .i64 0, .bool false]) (by simp [results, Tryd.results30, go_sem]) rfl (NumPost.none HNO.out)

                  · by_cases hhi : 57 < ci
                    · have HNO := hide (num_char (s := s) (most := most) (j := i) (by rw [HT.out]; exact hil) (by rw [HT.out, HCI.out]; exact .inr hhi))
                      go_wp2_with fail
                      exact bodyPost_ret (v := .tuple #[.int .i64 0, .bool false]) (by simp [results, Tryd.results30, go_sem]) rfl (NumPost.none HNO.out)

                    · have hu : IntKind.u8.wrap (ci - 48) = ci - 48 := by rw [IntKind.wrap_u8]; omega
                      have hu2 : (ci - 48) % 256 = ci - 48 := by omega
                      have hst := val_step (valD (t.take i)) (ci - 48)
                      have hst2 := hst
                      rw [← HVS.out] at hst2
                      obtain ⟨V, hV⟩ : ∃ V, wrap64 (-(valD (t.take i))) = V := ⟨_, rfl⟩
                      rw [hV] at hst hst2 ⊢
                      obtain ⟨V2, hV2⟩ : ∃ V2, wrap64 (-(valD (t.take (i + 1)))) = V2 := ⟨_, rfl⟩
                      rw [hV2] at hst2
                      have HV2 := hide hV2
                      obtain ⟨dd, hdd⟩ : ∃ dd, ci - 48 = dd := ⟨_, rfl⟩
                      rw [hdd] at hu hu2 hst2
                      have hw6 : wrap64 dd = dd := by unfold wrap64; omega
                      have HDG2 : Hid (∀ j, j < i + 1 → 48 ≤ nth t j ∧ nth t j ≤ 57) := fun j hj => by
                        rcases Nat.lt_or_ge j i with h | h
                        · exact HDG.out j h
                        · have e : j = i := by omega
                          rw [e, HCI.out]; omega
                      clear hst hV hV2
                      go_wp2_with fail
                      go_roundw
                      case rel => exact ⟨i + 1, by omega, by rw [HV2.out]; try rw [hst2], by go_num, HDG2.out, by first | trivial | rfl⟩
                      case measure => first | (simp [intOf]; done) | (simp [intOf]; omega)
                · have e : i = t.length := by omega
                  subst e
                  have hii : ¬ (t.length : Int) < (t.length : Int) := by omega
                  rw [List.take_length]
                  have hvn := val_neg (valD t)
                  obtain ⟨V, hV⟩ : ∃ V, wrap64 (-(valD t)) = V := ⟨_, rfl⟩
                  rw [hV] at hvn ⊢
                  have HNV : Hid (V = numV s) := by show _ = _; rw [← hV]; unfold numV; rw [if_pos HHD.out, HT.out]
                  have HRG := hide (numV_range s)
                  have HDN := hide (fun W => digits_any (numV s) W HRG.out.1 HRG.out.2)
                  have heq := str_beq (digits_byte (numV s)) (byteL_mem hsb)
                  have HNY := hide (num_yes (s := s) (most := most) (by rw [HT.out]; omega))
                  obtain ⟨nv, hnv⟩ : ∃ nv, numV s = nv := ⟨_, rfl⟩
                  rw [hnv] at HRG HDN heq HNY HNV
                  obtain ⟨G, hG⟩ : ∃ G, strOfNums (digitsD nv) = G := ⟨_, rfl⟩
                  rw [hG] at HDN heq
                  obtain ⟨bq, hbq⟩ : ∃ bq, decide (digitsD nv = s) = bq := ⟨_, rfl⟩
                  rw [hbq] at heq
                  have HBQ := hide hbq
                  have hnvq := HNV.out
                  clear hnv hG hbq hV HLP hvn
                  go_wp2_with fail
                  refine (HDN.out _).mono ?_
                  rintro e y ⟨rfl, hy⟩
                  have HPO : Hid (NumPost s most w (.returned (.tuple #[.int .i64 nv, .bool bq])) y) := num_post HNY.out HBQ.out HRG.out.1 HRG.out.2 hy
                  clear hy
                  go_wp2_with fail
                  exact bodyPost_ret (v := .tuple #[.int .i64 nv, .bool bq]) (by simp [results, Tryd.results30, go_sem]) rfl HPO.out

    · have hbb : (nth s 0 == 45) = false := beq_false_of_ne hb
      have hhd : ¬ s.head? = some 45 := by
        cases s with
        | nil => exact absurd rfl h0
        | cons c l => intro h; exact hb (Option.some.inj h)
      obtain ⟨c0, hc0⟩ : ∃ c0, nth s 0 = c0 := ⟨_, rfl⟩
      rw [hc0] at hix hbb
      have HHD := hide hhd
      have HT : Hid (numT s = s) := by show _ = _; unfold numT; rw [if_neg hhd]
      have htb := hsb
      have HC1 := hide hc0
      clear hb hhd hc0
      by_cases ht0 : s.length < 1
      · exact absurd ht0 (by omega)
      · have hti : ¬ (s.length : Int) < 1 := by omega
        by_cases htm : most < s.length
        · have HNO := hide (num_long (s := s) (most := most) (by rw [HT.out]; exact htm))
          have htn : (most : Int) < (s.length : Int) := by omega
          go_wp2_with fail
          exact bodyPost_ret (v := .tuple #[.int .i64 0, .bool false]) (by simp [results, Tryd.results30, go_sem]) rfl (NumPost.none HNO.out)

        · have htn : ¬ (most : Int) < (s.length : Int) := by omega
          have hpos0 : (0 : Int) < (s.length : Int) := by omega
          by_cases hz : c0 = 48 ∧ (1 < s.length ∨ False)
          · obtain ⟨hz1, hz2⟩ := hz
            have HNO := hide (num_zero (s := s) (most := most) (by rw [HT.out]; omega) (by rw [HT.out, HC1.out]; exact hz1) (by rw [HT.out]; exact hz2.elim .inl False.elim))
            have hzb : (c0 == 48) = true := by simpa using hz1
            clear hz1
            have hq2 : (1 : Int) < (s.length : Int) := hz2.elim (fun h => by omega) False.elim

            go_wp2_with fail
            exact bodyPost_ret (v := .tuple #[.int .i64 0, .bool false]) (by simp [results, Tryd.results30, go_sem]) rfl (NumPost.none HNO.out)
          · obtain ⟨zb, hzb⟩ : ∃ zb, (c0 == 48) = zb := ⟨_, rfl⟩
            have hzq : zb = true → ¬ (1 : Int) < (s.length : Int) ∧ True := fun h => by
              rw [h] at hzb
              have e : c0 = 48 := by simpa using hzb
              exact ⟨fun hq => hz ⟨e, .inl (by omega)⟩, trivial⟩
            clear hz
            have HLP : Hid True := trivial
            cases zb with
            | true =>
              have hq2 := (hzq rfl).1
              clear hzq
              go_wp2_with fail
              go_loopw [8, 9] (fun nv iv wr => ∃ i : Nat, i ≤ s.length ∧ nv = .int .i64 (wrap64 (-(valD (s.take i)))) ∧ iv = .int .i64 i ∧ (∀ j, j < i → 48 ≤ nth s j ∧ nth s j ≤ 57) ∧ wr = w) (fun _ iv _ => s.length - (intOf iv).toNat)
              case atStart => exact ⟨0, Nat.zero_le _, (by rw [List.take_zero]; simp [valD, wrap64]), rfl, fun j hj => absurd hj (by omega), rfl⟩
              case round =>
                obtain ⟨i, hi, rfl, rfl, hdg, hwr⟩ := hrel
                have hwr := hwr.symm
                subst hwr
                have HDG := hide hdg
                clear hdg
                by_cases hil : i < s.length
                · have hii : (i : Int) < (s.length : Int) := by omega
                  have hixi := fun h => str_ix htb hil h
                  have hcb := htb i
                  have HVS := hide (val_take s hil)
                  obtain ⟨ci, hci⟩ : ∃ ci, nth s i = ci := ⟨_, rfl⟩
                  have HCI := hide hci
                  rw [hci] at hixi hcb HVS
                  clear hci
                  by_cases hlo : ci < 48
                  · have HNO := hide (num_char (s := s) (most := most) (j := i) (by rw [HT.out]; exact hil) (by rw [HT.out, HCI.out]; exact .inl hlo))
                    go_wp2_with fail
                    exact bodyPost_ret (v := .tuple #[.int .i64 0, .bool false]) (by simp [results, Tryd.results30, go_sem]) rfl (NumPost.none HNO.out)

                  · by_cases hhi : 57 < ci
                    · have HNO := hide (num_char (s := s) (most := most) (j := i) (by rw [HT.out]; exact hil) (by rw [HT.out, HCI.out]; exact .inr hhi))
                      go_wp2_with fail
                      exact bodyPost_ret (v := .tuple #[.int .i64 0, .bool false]) (by simp [results, Tryd.results30, go_sem]) rfl (NumPost.none HNO.out)

                    · have hu : IntKind.u8.wrap (ci - 48) = ci - 48 := by rw [IntKind.wrap_u8]; omega
                      have hu2 : (ci - 48) % 256 = ci - 48 := by omega
                      have hst := val_step (valD (s.take i)) (ci - 48)
                      have hst2 := hst
                      rw [← HVS.out] at hst2
                      obtain ⟨V, hV⟩ : ∃ V, wrap64 (-(valD (s.take i))) = V := ⟨_, rfl⟩
                      rw [hV] at hst hst2 ⊢
                      obtain ⟨V2, hV2⟩ : ∃ V2, wrap64 (-(valD (s.take (i + 1)))) = V2 := ⟨_, rfl⟩
                      rw [hV2] at hst2
                      have HV2 := hide hV2
                      obtain ⟨dd, hdd⟩ : ∃ dd, ci - 48 = dd := ⟨_, rfl⟩
                      rw [hdd] at hu hu2 hst2
                      have hw6 : wrap64 dd = dd := by unfold wrap64; omega
                      have HDG2 : Hid (∀ j, j < i + 1 → 48 ≤ nth s j ∧ nth s j ≤ 57) := fun j hj => by
                        rcases Nat.lt_or_ge j i with h | h
                        · exact HDG.out j h
                        · have e : j = i := by omega
                          rw [e, HCI.out]; omega
                      clear hst hV hV2
                      go_wp2_with fail
                      go_roundw
                      case rel => exact ⟨i + 1, by omega, by rw [HV2.out]; try rw [hst2], by go_num, HDG2.out, by first | trivial | rfl⟩
                      case measure => first | (simp [intOf]; done) | (simp [intOf]; omega)
                · have e : i = s.length := by omega
                  subst e
                  have hii : ¬ (s.length : Int) < (s.length : Int) := by omega
                  rw [List.take_length]
                  have hvn := val_neg (valD s)
                  obtain ⟨V, hV⟩ : ∃ V, wrap64 (-(valD s)) = V := ⟨_, rfl⟩
                  rw [hV] at hvn ⊢
                  have HNV : Hid (wrap64 (-V) = numV s) := by show _ = _; rw [show -V = 0 - V by omega, hvn]; unfold numV; rw [if_neg HHD.out, HT.out]
                  have HRG := hide (numV_range s)
                  have HDN := hide (fun W => digits_any (numV s) W HRG.out.1 HRG.out.2)
                  have heq := str_beq (digits_byte (numV s)) (byteL_mem hsb)
                  have HNY := hide (num_yes (s := s) (most := most) (by rw [HT.out]; omega))
                  obtain ⟨nv, hnv⟩ : ∃ nv, numV s = nv := ⟨_, rfl⟩
                  rw [hnv] at HRG HDN heq HNY HNV
                  obtain ⟨G, hG⟩ : ∃ G, strOfNums (digitsD nv) = G := ⟨_, rfl⟩
                  rw [hG] at HDN heq
                  obtain ⟨bq, hbq⟩ : ∃ bq, decide (digitsD nv = s) = bq := ⟨_, rfl⟩
                  rw [hbq] at heq
                  have HBQ := hide hbq
                  have hnvq := HNV.out
                  clear hnv hG hbq hV HLP hvn
                  go_wp2_with fail
                  refine (HDN.out _).mono ?_
                  rintro e y ⟨rfl, hy⟩
                  have HPO : Hid (NumPost s most w (.returned (.tuple #[.int .i64 nv, .bool bq])) y) := num_post HNY.out HBQ.out HRG.out.1 HRG.out.2 hy
                  clear hy
                  go_wp2_with fail
                  exact bodyPost_ret (v := .tuple #[.int .i64 nv, .bool bq]) (by simp [results, Tryd.results30, go_sem]) rfl HPO.out
            | false =>
              clear hzq
              go_wp2_with fail
              go_loopw [8, 9] (fun nv iv wr => ∃ i : Nat, i ≤ s.length ∧ nv = .int .i64 (wrap64 (-(valD (s.take i)))) ∧ iv = .int .i64 i ∧ (∀ j, j < i → 48 ≤ nth s j ∧ nth s j ≤ 57) ∧ wr = w) (fun _ iv _ => s.length - (intOf iv).toNat)
              case atStart => exact ⟨0, Nat.zero_le _, (by rw [List.take_zero]; simp [valD, wrap64]), rfl, fun j hj => absurd hj (by omega), rfl⟩
              case round =>
                obtain ⟨i, hi, rfl, rfl, hdg, hwr⟩ := hrel
                have hwr := hwr.symm
                subst hwr
                have HDG := hide hdg
                clear hdg
                by_cases hil : i < s.length
                · have hii : (i : Int) < (s.length : Int) := by omega
                  have hixi := fun h => str_ix htb hil h
                  have hcb := htb i
                  have HVS := hide (val_take s hil)
                  obtain ⟨ci, hci⟩ : ∃ ci, nth s i = ci := ⟨_, rfl⟩
                  have HCI := hide hci
                  rw [hci] at hixi hcb HVS
                  clear hci
                  by_cases hlo : ci < 48
                  · have HNO := hide (num_char (s := s) (most := most) (j := i) (by rw [HT.out]; exact hil) (by rw [HT.out, HCI.out]; exact .inl hlo))
                    go_wp2_with fail
                    exact bodyPost_ret (v := .tuple #[.int .i64 0, .bool false]) (by simp [results, Tryd.results30, go_sem]) rfl (NumPost.none HNO.out)

                  · by_cases hhi : 57 < ci
                    · have HNO := hide (num_char (s := s) (most := most) (j := i) (by rw [HT.out]; exact hil) (by rw [HT.out, HCI.out]; exact .inr hhi))
                      go_wp2_with fail
                      exact bodyPost_ret (v := .tuple #[.int .i64 0, .bool false]) (by simp [results, Tryd.results30, go_sem]) rfl (NumPost.none HNO.out)

                    · have hu : IntKind.u8.wrap (ci - 48) = ci - 48 := by rw [IntKind.wrap_u8]; omega
                      have hu2 : (ci - 48) % 256 = ci - 48 := by omega
                      have hst := val_step (valD (s.take i)) (ci - 48)
                      have hst2 := hst
                      rw [← HVS.out] at hst2
                      obtain ⟨V, hV⟩ : ∃ V, wrap64 (-(valD (s.take i))) = V := ⟨_, rfl⟩
                      rw [hV] at hst hst2 ⊢
                      obtain ⟨V2, hV2⟩ : ∃ V2, wrap64 (-(valD (s.take (i + 1)))) = V2 := ⟨_, rfl⟩
                      rw [hV2] at hst2
                      have HV2 := hide hV2
                      obtain ⟨dd, hdd⟩ : ∃ dd, ci - 48 = dd := ⟨_, rfl⟩
                      rw [hdd] at hu hu2 hst2
                      have hw6 : wrap64 dd = dd := by unfold wrap64; omega
                      have HDG2 : Hid (∀ j, j < i + 1 → 48 ≤ nth s j ∧ nth s j ≤ 57) := fun j hj => by
                        rcases Nat.lt_or_ge j i with h | h
                        · exact HDG.out j h
                        · have e : j = i := by omega
                          rw [e, HCI.out]; omega
                      clear hst hV hV2
                      go_wp2_with fail
                      go_roundw
                      case rel => exact ⟨i + 1, by omega, by rw [HV2.out]; try rw [hst2], by go_num, HDG2.out, by first | trivial | rfl⟩
                      case measure => first | (simp [intOf]; done) | (simp [intOf]; omega)
                · have e : i = s.length := by omega
                  subst e
                  have hii : ¬ (s.length : Int) < (s.length : Int) := by omega
                  rw [List.take_length]
                  have hvn := val_neg (valD s)
                  obtain ⟨V, hV⟩ : ∃ V, wrap64 (-(valD s)) = V := ⟨_, rfl⟩
                  rw [hV] at hvn ⊢
                  have HNV : Hid (wrap64 (-V) = numV s) := by show _ = _; rw [show -V = 0 - V by omega, hvn]; unfold numV; rw [if_neg HHD.out, HT.out]
                  have HRG := hide (numV_range s)
                  have HDN := hide (fun W => digits_any (numV s) W HRG.out.1 HRG.out.2)
                  have heq := str_beq (digits_byte (numV s)) (byteL_mem hsb)
                  have HNY := hide (num_yes (s := s) (most := most) (by rw [HT.out]; omega))
                  obtain ⟨nv, hnv⟩ : ∃ nv, numV s = nv := ⟨_, rfl⟩
                  rw [hnv] at HRG HDN heq HNY HNV
                  obtain ⟨G, hG⟩ : ∃ G, strOfNums (digitsD nv) = G := ⟨_, rfl⟩
                  rw [hG] at HDN heq
                  obtain ⟨bq, hbq⟩ : ∃ bq, decide (digitsD nv = s) = bq := ⟨_, rfl⟩
                  rw [hbq] at heq
                  have HBQ := hide hbq
                  have hnvq := HNV.out
                  clear hnv hG hbq hV HLP hvn
                  go_wp2_with fail
                  refine (HDN.out _).mono ?_
                  rintro e y ⟨rfl, hy⟩
                  have HPO : Hid (NumPost s most w (.returned (.tuple #[.int .i64 nv, .bool bq])) y) := num_post HNY.out HBQ.out HRG.out.1 HRG.out.2 hy
                  clear hy
                  go_wp2_with fail
                  exact bodyPost_ret (v := .tuple #[.int .i64 nv, .bool bq]) (by simp [results, Tryd.results30, go_sem]) rfl HPO.out

theorem number_any14 (s : List Int) (most : Nat) (w : World) (hsb : ByteL s) (hl : s.length ≤ 2000000) (hm : most ≤ 19) :
    Calls Tryd.prog 30 #[.string (strOfNums s), .int .i64 most] w (NumPost s most w) := number_walk s most w hsb hl hm
end Go.Proofs.YtjlfcbccpcigeacDoor
