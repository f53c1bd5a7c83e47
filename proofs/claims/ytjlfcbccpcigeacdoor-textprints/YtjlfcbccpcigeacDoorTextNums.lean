/- The contracts of package text's small functions: written, numberOf, shortOf. -/
import Derived.Test.YtjlfcbccpcigeacDoorTextVars
import Derived.BigQuiet
namespace Go.Proofs.YtjlfcbccpcigeacDoor
open Go.RowKit Go.Joins
set_option linter.unusedVariables false
set_option linter.unusedSimpArgs false
set_option maxRecDepth 8192

set_option maxHeartbeats 1000000 in
theorem written_any (n : Int) (w : World) (hv : VarsP w) (h0 : -9223372036854775808 ≤ n) (h1 : n ≤ 9223372036854775807) :
    Calls Tryd.prog 18 #[.int .i64 n] w fun e w' => e = .returned (.string (strOfNums (digitsD n))) ∧ Below w.heap.size w w' := by
  have HD := hide (fun W h => itoa_any n W h h0 h1)
  have HV := hide hv
  clear hv
  go_enter Tryd.func18, Tryd.ntmps18
  go_wp2_with fail
  refine (HD.out _ HV.out).mono ?_
  rintro e y ⟨rfl, hb⟩
  have HB := hide hb
  clear hb
  go_wp2_with fail
  go_ret
  exact ⟨rfl, HB.out⟩
set_option maxHeartbeats 2000000 in
theorem numberOf_any (s : List Int) (w : World) (hv : VarsT w) (hs : By s) (hl : s.length ≤ 2000000) :
    Calls Tryd.prog 74 #[.string (strOfNums s)] w (NumPost s 19 w) := by
  by_cases hp : ∃ v, Lib.parseIntB 64 (b8 s) = .ok v
  · obtain ⟨v, hp⟩ := hp
    have hr := Lib.parseIntB_bounds hp
    have h0 : -9223372036854775808 ≤ v := by have := hr.1; simp at this; omega
    have h1 : v ≤ 9223372036854775807 := by have := hr.2; simp at this; omega
    have HP := hide (fun W => parse_yes s v W hl hp)
    have HF := hide (fun W h => format_any v W h h0 h1)
    have HV := hide hv
    have HN := hide (num_parse hp h0 h1)
    have hbq : ((strOfNums (digitsD v)).toList == (strOfNums s).toList) = decide (digitsD v = s) := str_beq (digits_byte v) hs
    obtain ⟨bq, hb2⟩ : ∃ bq, decide (digitsD v = s) = bq := ⟨_, rfl⟩
    rw [hb2] at hbq
    have HB2 := hide hb2
    have H0 := hide h0
    have H1 := hide h1
    clear hv hp hr hb2 h0 h1 hs hl
    go_enter Tryd.func74, Tryd.ntmps74
    go_wp2_with fail
    refine (HP.out _).mono ?_
    rintro e y ⟨rfl, hb⟩
    have HB := hide hb
    clear hb
    go_wp2_with fail
    refine (HF.out _ (HV.out.on HB.out).toVarsP).mono ?_
    rintro e z ⟨rfl, hb⟩
    have HC := hide (HB.out.trans (hb.mono HB.out.size))
    clear hb
    go_wp2_with fail
    go_ret2
    exact num_post HN.out HB2.out H0.out H1.out HC.out
  · have HP := hide (fun W h => parse_no s W h hl (fun v e => hp ⟨v, e⟩))
    have HN := hide (num_unparsed (s := s) fun v e => hp ⟨v, e⟩)
    have HV := hide hv
    clear hv hp hs hl
    go_enter Tryd.func74, Tryd.ntmps74
    go_wp2_with fail
    refine (HP.out _ HV.out).mono ?_
    rintro e y ⟨v, N, rfl, hv0, hv1, hb⟩
    have HB := hide hb
    have H0 := hide hv0
    have H1 := hide hv1
    clear hb hv0 hv1
    go_wp2_with fail
    go_ret2
    exact ⟨v, false, rfl, by rw [HN.out]; rfl, fun m hm => (by rw [HN.out] at hm; cases hm), H0.out, H1.out, HB.out⟩
theorem short_post {s : List Int} {n : Int} {b : Bool} {w y : World} (h1 : b = (numO s 19).isSome) (h2 : ∀ m, numO s 19 = some m → n = m) (h3 : -9223372036854775808 ≤ n) (h4 : n ≤ 9223372036854775807) (hy : Below w.heap.size w y) {c : Bool} (hc : c = (b && decide (-1000000000000000000 < n ∧ n < 1000000000000000000))) : NumPost s 18 w (.returned (.tuple #[.int .i64 n, .bool c])) y := by
  refine ⟨n, c, rfl, ?_, fun m hm => ?_, h3, h4, hy⟩
  · rw [num_short, hc, h1]
    cases hn : numO s 19 with
    | none => rfl
    | some v =>
      rw [h2 v hn]
      show (true && _) = Option.isSome (if _ then _ else _)
      by_cases hr : -1000000000000000000 < v ∧ v < 1000000000000000000
      · rw [if_pos hr, decide_eq_true hr]; rfl
      · rw [if_neg hr, decide_eq_false hr]; rfl
  · rw [num_short] at hm
    cases hn : numO s 19 with
    | none => rw [hn] at hm; cases hm
    | some v =>
      rw [hn] at hm
      have hm' : (if -1000000000000000000 < v ∧ v < 1000000000000000000 then some v else none) = some m := hm
      split at hm'
      · rw [h2 v hn]; exact Option.some.inj hm'
      · cases hm'
set_option maxHeartbeats 2000000 in
theorem shortOf_any (s : List Int) (w : World) (hv : VarsT w) (hs : By s) (hl : s.length ≤ 2000000) :
    Calls Tryd.prog 73 #[.string (strOfNums s)] w (NumPost s 18 w) := by
  have HD := hide (fun W h => numberOf_any s W h hs hl)
  have HV := hide hv
  clear hv hs hl
  go_enter Tryd.func73, Tryd.ntmps73
  go_wp2_with fail
  refine (HD.out _ HV.out).mono ?_
  rintro e y ⟨n, b, rfl, h1, h2, h3, h4, hb⟩
  have HX : Hid (∀ c : Bool, c = (b && decide (-1000000000000000000 < n ∧ n < 1000000000000000000)) → NumPost s 18 w (.returned (.tuple #[.int .i64 n, .bool c])) y) := fun c hc => short_post h1 h2 h3 h4 hb hc
  clear h1 h2 h3 h4 hb
  cases b with
  | false =>
    go_wp2_with fail
    go_ret2
    exact HX.out _ rfl
  | true =>
    by_cases ha : -1000000000000000000 < n
    · by_cases hc : n < 1000000000000000000
      · go_wp2_with fail
        go_ret2
        exact HX.out _ (by simp [ha, hc])
      · have hd : decide (n < 1000000000000000000) = false := decide_eq_false hc
        go_wp2_with fail
        go_ret2
        exact HX.out _ (by simp [hd])
    · have hd : decide (-1000000000000000000 < n) = false := decide_eq_false ha
      go_wp2_with fail
      go_ret2
      exact HX.out _ (by simp [hd])
end Go.Proofs.YtjlfcbccpcigeacDoor
