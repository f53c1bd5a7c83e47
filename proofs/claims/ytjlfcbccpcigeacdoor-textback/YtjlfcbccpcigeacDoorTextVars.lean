/- What the package-level variables read as that package text, and what it calls of the library, read; and the library's contracts in this seat's own words: Itoa, FormatInt, ParseInt, Cut, CutPrefix. -/
import Derived.Test.YtjlfcbccpcigeacDoorTextLib
import Derived.Test.YtjlfcbccpcigeacDoorShelf
import Derived.Test.YtjlfcbccpcigeacDoorRef14Stmt
import Derived.WalkSmall
import Derived.Lib.AppendIntMem
import Derived.Lib.AtoiErrMem
import Derived.Lib.ParseIntBTie
namespace Go.Proofs.YtjlfcbccpcigeacDoor
open Go.RowKit Go.Joins
set_option linter.unusedVariables false
set_option maxRecDepth 8192

/-- what the variables hold that Print reads -/
structure VarsP (w : World) : Prop where
  size : 9 ≤ w.heap.size
  tab : Lib.TabIs Tryd.prog w "internal/strconv.uint64pow10" .u64 Lib.pow10Tab
  ops : ∀ i : Nat, i < 8 → w.cell? ⟨0, i, none⟩ = some (.string (strOfNums (opD (11 + (i : Int)))))
/-- what the variables hold -/
structure VarsT (w : World) : Prop extends VarsP w where
  most : ∃ m, w.cell? ⟨1, 0, none⟩ = some (.int .i64 m)
  syn : ∃ tp p, w.var? Tryd.prog "strconv.ErrSyntax" = some #[.iface tp p]
  rng : ∃ tp p, w.var? Tryd.prog "strconv.ErrRange" = some #[.iface tp p]
theorem cell_keep {B : Nat} {w w' : World} (hb : Below B w w') {b o : Nat} (h : b < B) : w'.cell? ⟨b, o, none⟩ = w.cell? ⟨b, o, none⟩ := by simp only [World.cell?, hb.block b h]
theorem VarsP.below {B : Nat} {w w' : World} (h : VarsP w) (hb : Below B w w') (hB : 9 ≤ B) : VarsP w' := by
  obtain ⟨h0, h2, h5⟩ := h
  refine ⟨Nat.le_trans h0 hb.size, ?_, fun i hi => ?_⟩
  · exact var?_below hb (g := 2) (by kernel_rfl) (by omega) h2
  · rw [cell_keep hb (by omega)]; exact h5 i hi
theorem VarsP.on {w w' : World} (h : VarsP w) (hb : Below w.heap.size w w') : VarsP w' := h.below hb h.size
theorem VarsT.below {B : Nat} {w w' : World} (h : VarsT w) (hb : Below B w w') (hB : 9 ≤ B) : VarsT w' := by
  obtain ⟨hP, ⟨m, h1⟩, ⟨t3, p3, h3⟩, ⟨t4, p4, h4⟩⟩ := h
  refine ⟨hP.below hb hB, ⟨m, ?_⟩, ⟨t3, p3, ?_⟩, ⟨t4, p4, ?_⟩⟩
  · rw [cell_keep hb (by omega)]; exact h1
  · exact var?_below hb (g := 7) (by kernel_rfl) (by omega) h3
  · exact var?_below hb (g := 8) (by kernel_rfl) (by omega) h4
theorem VarsT.on {w w' : World} (h : VarsT w) (hb : Below w.heap.size w w') : VarsT w' := h.below hb h.size
theorem digits8 (n : Int) : (⟨(Lib.itoa n).toArray⟩ : ByteArray) = strOfNums (digitsD n) := by rw [itoa_b8]; rfl
theorem itoa_any (n : Int) (w : World) (hv : VarsP w) (h0 : -9223372036854775808 ≤ n) (h1 : n ≤ 9223372036854775807) :
    Calls Tryd.prog 37 #[.int .i64 n] w fun e w' => e = .returned (.string (strOfNums (digitsD n))) ∧ Below w.heap.size w w' :=
  (Tryd.strconv_Itoa n h0 h1 w hv.tab).mono fun e w' ⟨he, k, os, hw⟩ => ⟨by rw [he, digits8], by rw [hw]; exact Lib.below_grow _ _ (Nat.le_refl _) k os⟩
theorem format_any (n : Int) (w : World) (hv : VarsP w) (h0 : -9223372036854775808 ≤ n) (h1 : n ≤ 9223372036854775807) :
    Calls Tryd.prog 38 #[.int .i64 n, .int .i64 10] w fun e w' => e = .returned (.string (strOfNums (digitsD n))) ∧ Below w.heap.size w w' :=
  (Tryd.strconv_FormatInt_10 n h0 h1 w hv.tab).mono fun e w' ⟨he, k, os, hw⟩ => ⟨by rw [he, digits8], by rw [hw]; exact Lib.below_grow _ _ (Nat.le_refl _) k os⟩
theorem parse_yes (s : List Int) (v : Int) (w : World) (hl : s.length ≤ 2000000) (h : Lib.parseIntB 64 (b8 s) = .ok v) :
    Calls Tryd.prog 88 #[.string (strOfNums s), .int .i64 10, .int .i64 64] w fun e w' => e = .returned (.tuple #[.int .i64 v, .nilIface]) ∧ Below w.heap.size w w' :=
  (Tryd.strconv_ParseInt_10_at64_ok (strOfNums s) (by rw [strOfNums_size]; omega) v (by rw [str_list]; exact h) w).mono fun e w' ⟨he, hw⟩ => ⟨he, by
    rcases hw with rfl | ⟨t, rfl⟩
    · exact Below.refl _ _
    · exact Lib.bytesWorld_below _ _ _⟩
theorem parse_no (s : List Int) (w : World) (hv : VarsT w) (hl : s.length ≤ 2000000) (h : ∀ v, Lib.parseIntB 64 (b8 s) ≠ .ok v) :
    Calls Tryd.prog 88 #[.string (strOfNums s), .int .i64 10, .int .i64 64] w fun e w' => ∃ v N, e = .returned (.tuple #[.int .i64 v, .iface 132 (.pointer (some ⟨N, 0, none⟩))]) ∧ -9223372036854775808 ≤ v ∧ v ≤ 9223372036854775807 ∧ Below w.heap.size w w' := by
  obtain ⟨t3, p3, h3⟩ := hv.syn
  obtain ⟨t4, p4, h4⟩ := hv.rng
  cases hp : Lib.parseIntB 64 (b8 s) with
  | ok v => exact absurd hp (h v)
  | «syntax» => exact (Tryd.strconv_ParseInt_10_at64_syntax_var (strOfNums s) (by rw [strOfNums_size]; omega) (by rw [str_list]; exact hp) t3 p3 w h3).mono fun e w' ⟨N, he, _, _, hb⟩ => ⟨0, N, he, by omega, by omega, hb⟩
  | range => exact (Tryd.strconv_ParseInt_10_at64_range_var (strOfNums s) (by rw [strOfNums_size]; omega) (by rw [str_list]; exact hp) t4 p4 w h4).mono fun e w' ⟨N, he, _, _, hb⟩ => ⟨_, N, he, by unfold Lib.intSat; split <;> omega, by unfold Lib.intSat; split <;> omega, hb⟩
theorem below_draws1 (n k : Nat) (w : World) : Below n w (w.drewN k) := ⟨rfl, rfl, rfl, Nat.le_refl _, fun _ _ => rfl⟩
theorem cut_any1 (s : List Int) (x : Int) (b : ByteArray) (hxb : b = strOfNums [x]) (w : World) (hv : VarsT w) (hs : By s) (hx : 0 ≤ x ∧ x ≤ 255) (hl : s.length ≤ 2000000) {p : List Int} (h : splitD x s = [p]) :
    Calls Tryd.prog 27 #[.string (strOfNums s), .string b] w fun e w' => e = .returned (.tuple #[.string (strOfNums s), .string (strOfNums []), .bool false]) ∧ Below w.heap.size w w' := by
  subst hxb
  obtain ⟨m, hm⟩ := hv.most
  have hc := Tryd.strings_Cut (strOfNums s) (strOfNums [x]) m w (by rw [strOfNums_size]; omega) hm
  rw [str_list, str_list, cut_none hx hs h] at hc
  exact hc.mono fun e w' ⟨he, n, hw⟩ => ⟨he, by rw [hw]; exact below_draws1 _ _ _⟩
theorem cut_any2 (s : List Int) (x : Int) (b : ByteArray) (hxb : b = strOfNums [x]) (w : World) (hv : VarsT w) (hs : By s) (hx : 0 ≤ x ∧ x ≤ 255) (hl : s.length ≤ 2000000) {p q : List Int} {qs : List (List Int)} (h : splitD x s = p :: q :: qs) :
    Calls Tryd.prog 27 #[.string (strOfNums s), .string b] w fun e w' => e = .returned (.tuple #[.string (strOfNums p), .string (strOfNums (s.drop (p.length + 1))), .bool true]) ∧ Below w.heap.size w w' := by
  subst hxb
  obtain ⟨m, hm⟩ := hv.most
  have hc := Tryd.strings_Cut (strOfNums s) (strOfNums [x]) m w (by rw [strOfNums_size]; omega) hm
  rw [str_list, str_list, cut_some hx hs h] at hc
  exact hc.mono fun e w' ⟨he, n, hw⟩ => ⟨he, by rw [hw]; exact below_draws1 _ _ _⟩
theorem prefix_any (s : List Int) (b : ByteArray) (hxb : b = strOfNums [35]) (w : World) (hs : By s) :
    Calls Tryd.prog 89 #[.string (strOfNums s), .string b] w fun e w' => e = .returned (.tuple #[.string (strOfNums (if s.head? = some 35 then s.tail else s)), .bool (decide (s.head? = some 35))]) ∧ w' = w := by
  subst hxb
  have hc := Tryd.strings_CutPrefix (strOfNums s) (strOfNums [35]) w
  rw [str_list, str_list] at hc
  have e1 : Lib.hasPrefix (b8 s) (b8 [35]) = decide (s.head? = some 35) := by
    cases s with
    | nil => rfl
    | cons c l =>
      show List.isPrefixOf [UInt8.ofNat 35] (UInt8.ofNat c.toNat :: b8 l) = _
      by_cases h : c = 35
      · subst h; rfl
      · rw [decide_eq_false (show ¬ (c :: l).head? = some 35 from fun e => h (by simpa using e))]
        have : UInt8.ofNat 35 ≠ UInt8.ofNat c.toNat := fun e => h (by_head (d := c) (c := 35) (by omega) (hs c (List.mem_cons_self ..)) e).symm
        simp [List.isPrefixOf]
        exact this
  have e2 : (⟨(Lib.trimPrefix (b8 s) (b8 [35])).toArray⟩ : ByteArray) = strOfNums (if s.head? = some 35 then s.tail else s) := by
    unfold Lib.trimPrefix
    rw [e1]
    by_cases h : s.head? = some 35
    · rw [decide_eq_true h, if_pos rfl, if_pos h, show (b8 [35]).length = 1 from rfl, ← b8_drop, List.drop_one]; rfl
    · rw [decide_eq_false h, if_neg Bool.false_ne_true, if_neg h]; rfl
  rw [e1, e2] at hc
  exact hc
end Go.Proofs.YtjlfcbccpcigeacDoor
