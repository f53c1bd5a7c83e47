/- What the rows' lists of package-level variables give the walks: VarsP and VarsT. -/
import Derived.Test.YtjlfcbccpcigeacDoorRows
import Derived.Test.YtjlfcbccpcigeacDoorTextVars
import Derived.LaidMore
import Derived.Lib.LaidTab
import Derived.Stop.LaidTwo
import Derived.Shelf.Vars
namespace Go.Proofs.YtjlfcbccpcigeacDoor
open Go.ChangeShapes Go.WideShapes Go.ChangeAt Go.RowKit
set_option linter.unusedVariables false
set_option maxRecDepth 100000

theorem laid_tail {P : Program} {x : String × DataW Unit} {r : List (String × DataW Unit)} {W : World} (h : laidMet P (x :: r) W) : laidMet P r W := by
  obtain ⟨n, d⟩ := x
  obtain ⟨ps, ⟨g0, t0, cs0, f0, p0, q0, -, -, -, -, hr, e0⟩, hnd, hrows⟩ := h
  subst e0
  exact ⟨q0, hr, (List.nodup_append.1 hnd).2.1, fun b off hb => hrows b off (List.mem_append_right _ hb)⟩
theorem strs_of_tab {H : Type} {enc : TypeId × Value → H} {P : Program} {w : World} {base : Nat} {sp : Nat → Bool} {held : Bool} {fuel : Nat} {t e : TypeId} {n : Nat} {cs : List Value} {zs : List (List UInt8)} {p : List MemPlace}
    (ht : P.underlying t = some (.array n e)) (he : P.underlying e = some .string) (hce : P.cellsOf e = 1) (hct : P.cellsOf t = n)
    (h : DataW.trod enc P w base sp held fuel t cs = some (.agg (zs.map fun z => .lit (.string z)), p)) : ∀ i, i < zs.length → cs[i]? = some (.string ⟨(zs.getD i []).toArray⟩) := by
  cases fuel with
  | zero => simp [DataW.trod] at h
  | succ fuel =>
    simp only [DataW.trod, ht, hce, hct, Nat.mul_one] at h
    split at h
    · rename_i hl
      obtain ⟨xs, hm, hx⟩ := Option.map_eq_some_iff.1 h
      have hxs : xs.map (·.1) = zs.map fun z => (DataW.lit (.string z) : DataW H) := by
        have := congrArg Prod.fst hx
        simpa using this
      have hxl : xs.length = n := by simpa using Lib.mapM_length hm
      intro i hi
      have hzl : zs.length = n := by
        have := congrArg List.length hxs
        simp at this
        omega
      obtain ⟨b, hb, hf⟩ := Lib.mapM_at hm i i (by simp [show i < n by omega])
      obtain ⟨s, hc, rfl, _⟩ := DataW.trod_string he hf
      have h1 : cs[i]? = some (.string s) := by
        have := congrArg (·[0]?) hc
        simpa [List.getElem?_take, List.getElem?_drop] using this
      have h2 : (xs.map (·.1))[i]? = some (DataW.lit (.string s.data.toList) : DataW H) := by simp [hb]
      rw [hxs] at h2
      simp only [List.getElem?_map, Option.map_eq_some_iff, DataW.lit.injEq, Lit.string.injEq] at h2
      obtain ⟨z', hz', e⟩ := h2
      rw [h1, List.getD_eq_getElem?_getD, hz']
      show some (Value.string s) = some (.string ⟨z'.toArray⟩)
      rw [e]
    · cases h
theorem ops_of_head {W : World} {rest : List (String × DataW Unit)} (h : laidMet Tryd.prog (("roundelay/text.opWords", Rows.laid_roundelay_text_opWords) :: rest) W) :
    ∀ i : Nat, i < 8 → W.cell? ⟨0, i, none⟩ = some (.string (strOfNums (opD (11 + (i : Int))))) := by
  obtain ⟨ps, ⟨g', t', cs, fuel, p, q, hg', ht', hvar, hd, _, _⟩, _⟩ := h
  obtain rfl := Option.some.inj ((show Tryd.prog.globalNamed "roundelay/text.opWords" = some 0 by kernel_rfl).symm.trans hg')
  obtain rfl := Option.some.inj ((show (Tryd.prog.globals[0]?).map (·.type) = some 73 by kernel_rfl).symm.trans ht')
  have hk := strs_of_tab (zs := [[97, 100, 100], [115, 117, 98], [109, 117, 108], [97, 110, 100], [111, 114], [120, 111, 114], [108, 101, 115, 115], [115, 97, 109, 101]]) Tryd.underlying73 Tryd.underlying9 (by kernel_rfl) (by kernel_rfl) hd
  intro i hi
  have h2 := World.var?_cell hg' hvar i
  rw [h2]
  have h3 := hk i (by simpa using hi)
  have h4 : cs[i]? = some (.string (strOfNums (opD (11 + (i : Int))))) := by
    rw [← Array.getElem?_toList, h3]
    match i, hi with
    | 0, _ => rfl
    | 1, _ => rfl
    | 2, _ => rfl
    | 3, _ => rfl
    | 4, _ => rfl
    | 5, _ => rfl
    | 6, _ => rfl
    | 7, _ => rfl
  exact h4
theorem tab_of_head {W : World} {rest : List (String × DataW Unit)} (h : laidMet Tryd.prog (("internal/strconv.uint64pow10", Rows.laid_internal_strconv_uint64pow10) :: rest) W) : Lib.TabIs Tryd.prog W "internal/strconv.uint64pow10" .u64 Lib.pow10Tab :=
  Lib.tabIs_of_head (rest := rest) (show Tryd.prog.globalNamed "internal/strconv.uint64pow10" = some 2 by kernel_rfl) (show (Tryd.prog.globals[2]?).map (·.type) = some 107 by kernel_rfl) Tryd.underlying107 Tryd.underlying94 (by kernel_rfl) (by kernel_rfl) h
theorem shaped_size {W : World} (h : W.ShapedOpen Tryd.prog) : 9 ≤ W.heap.size := by
  obtain ⟨h1, -⟩ := h
  have hz : (((begin Tryd.prog (fun _ _ => 0) default).world.heap[9 - 1]?).bind Obj.row?).isSome = true := by kernel_rfl
  obtain ⟨⟨zero, t⟩, hz⟩ := Option.isSome_iff_exists.1 hz
  obtain ⟨cs, hc, -⟩ := h1 (9 - 1) zero t (of_decide_eq_true (by kernel_rfl)) hz
  have := (Array.getElem?_eq_some_iff.1 hc).1
  omega
theorem row_es (u : TypeId) (h : Tryd.prog.typeName? 3 u = some "*errors.errorString") : u = 141 :=
  typeName_ptr_named (nm := "errors.errorString") (by rw [show "*" ++ "errors.errorString" = "*errors.errorString" by decide]; kernel_rfl) (by kernel_rfl) (by decide) u (by rw [show "*" ++ "errors.errorString" = "*errors.errorString" by decide]; exact h)
theorem varsP_of {W : World} (h : laidMetH Tryd.prog Rows.textPrintsRow.laid W) (hs : W.ShapedOpen Tryd.prog) : VarsP W := by
  rw [MakeChecks.laidMetH_plain _ _ _ (by kernel_rfl)] at h
  exact ⟨shaped_size hs, tab_of_head (laid_tail (laid_tail h)), ops_of_head (laid_tail (laid_tail (laid_tail h)))⟩
theorem varsT_of {W : World} (h : laidMetH Tryd.prog Rows.textParsesRow.laid W) (hs : W.ShapedOpen Tryd.prog) : VarsT W := by
  rw [MakeChecks.laidMetH_plain _ _ _ (by kernel_rfl)] at h
  obtain ⟨a0, a1, s0, s1, c0, c1, t0, t1, hv0, hv1, -⟩ := laid_sentinels2 (laid_tail (laid_tail (laid_tail (laid_tail h)))) (show Tryd.prog.globalNamed "strconv.ErrRange" = some 8 by kernel_rfl) (show (Tryd.prog.globals[8]?).map (·.type) = some 43 by kernel_rfl) (show Tryd.prog.globalNamed "strconv.ErrSyntax" = some 7 by kernel_rfl) (show (Tryd.prog.globals[7]?).map (·.type) = some 43 by kernel_rfl)
    Tryd.underlying43 (tp := 141) row_es Tryd.underlying141 Tryd.underlying143 rfl rfl Tryd.underlying9 (by kernel_rfl) (by kernel_rfl)
  exact ⟨⟨shaped_size hs, tab_of_head (laid_tail (laid_tail h)), ops_of_head (laid_tail (laid_tail (laid_tail (laid_tail (laid_tail (laid_tail h))))))⟩, cell_of_shapedOpen_int (g := 1) (zero := #[.int .i64 0]) (t := 3) (k := .i64) hs (of_decide_eq_true (by kernel_rfl)) (by kernel_rfl) rfl (by kernel_rfl) (by kernel_rfl) Tryd.underlying3, ⟨_, _, hv1⟩, ⟨_, _, hv0⟩⟩
end Go.Proofs.YtjlfcbccpcigeacDoor
