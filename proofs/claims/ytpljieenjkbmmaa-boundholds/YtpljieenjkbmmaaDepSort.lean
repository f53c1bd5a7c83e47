/- The contract of slices.SortFunc at edges, by package dep's compare: the same edges, in their order; nothing but the row is changed. -/
import Derived.Test.YtpljieenjkbmmaaDepCompact
import Derived.Test.YtpljieenjkbmmaaDepCmp
namespace Go.Proofs.Ytpljieenjkbmmaa
open Go.RowKit Go.Joins Go.Lib Go.Shelf
set_option linter.unusedVariables false

theorem ErV.holds [Inhabited Ed] {w : World} {g : Nat} {d : Array Ed} (h : ErV w g d) : Go.Sort.HoldsK edCells 4 w g 0 d := by
  intro t ht
  have ht' : t < d.size * 4 := by simpa using ht
  have h1 := h (t / 4) (by omega) (t % 4) (by omega)
  rw [show t / 4 * 4 + t % 4 = t by omega] at h1
  rw [Nat.zero_add, Go.Sort.get_flatK _ _ _ _ ht']
  refine ⟨?_, h1.2⟩
  rw [h1.1, List.getElem?_eq_getElem (show t % 4 < (edCells d[t / 4]!).length by show t % 4 < 4; omega), getElem!_pos (edCells d[t / 4]!) (t % 4) (show t % 4 < (edCells d[t / 4]!).length by show t % 4 < 4; omega)]
  rfl
theorem ErV.of_holds [Inhabited Ed] {w : World} {g : Nat} {d : Array Ed} (h : Go.Sort.HoldsK edCells 4 w g 0 d) : ErV w g d := by
  intro i hi j hj
  have h1 := h.cell (i := i) (c := j) hi hj
  rw [Nat.zero_add] at h1
  refine ⟨?_, h1.2⟩
  rw [h1.1, List.getElem?_eq_getElem (show j < (edCells d[i]!).length by show j < 4; omega), getElem!_pos (edCells d[i]!) j (show j < (edCells d[i]!).length by show j < 4; omega)]
theorem ErV.of_own [Inhabited Ed] {w : World} {B g n cap : Nat} {e : TypeId} {l : List Ed} (h : w.ownsRow B e 4 (.slice (some ⟨g, 0, none⟩) n cap) n (flatE l)) (hn : l.length = n) : ErV w g l.toArray ∧ B ≤ g ∧ g < w.heap.size ∧ n ≤ cap ∧ cap ≤ maxLen := by
  obtain ⟨hl, h⟩ := h
  rcases h with ⟨h, -⟩ | ⟨g', c', cur, hv, hg, hb, hn', hm, hc, ht⟩
  · injection h with h1; cases h1
  · injection hv with e1 e2 e3
    injection e1 with e1
    injection e1 with e1
    subst e1; subst e3
    refine ⟨fun i hi j hj => ?_, hg, (Array.getElem?_eq_some_iff.1 hb).1, hn', hm⟩
    have hi' : i < l.length := by simpa using hi
    have e4 : l.toArray[i]! = edAt l i := by
      rw [getElem!_pos _ i hi]
      unfold edAt
      rw [List.getD_eq_getElem?_getD, List.getElem?_eq_getElem hi']
      simp
    refine ⟨?_, ?_⟩
    · rw [cell_of_block hb, e4, ← flatE_get l i j hi' hj, ← ht, List.getElem?_take, if_pos (by omega)]
      simp
    · simp [World.frozen?, hb]
theorem below_sort [Inhabited Ed] {B g n : Nat} {w : World} {d : Array Ed} {os : Array Obj} (hB : B ≤ g) (hg : g < w.heap.size) : Below B w (sortWorldK edCells 4 w g 0 n d os) := by
  refine ⟨rfl, rfl, rfl, ?_, fun k hk => ?_⟩
  · exact size_sortWorldK_c edCells 4 w g 0 n d os
  · show ((w.heap.modify g _) ++ os)[k]? = _
    rw [Array.getElem?_append_left (by simp; omega), Array.getElem?_modify, if_neg (by omega)]
theorem lt_irr (x : Ed) : ltOf cmpE x x = false := by unfold ltOf; exact decide_eq_false (fun h => ltE_irr x (cmpE_lt.1 h))
theorem lt_tr (x y z : Ed) (h1 : ltOf cmpE x y = true) (h2 : ltOf cmpE y z = true) : ltOf cmpE x z = true := by
  unfold ltOf at *
  exact decide_eq_true (cmpE_lt.2 (ltE_trans (cmpE_lt.1 (of_decide_eq_true h1)) (cmpE_lt.1 (of_decide_eq_true h2))))
theorem lt_ntr (x y z : Ed) (h1 : ltOf cmpE x y = false) (h2 : ltOf cmpE y z = false) : ltOf cmpE x z = false := by
  unfold ltOf at *
  have a1 := of_decide_eq_false h1
  have a2 := of_decide_eq_false h2
  exact decide_eq_false (fun h => ltE_le (a := z) (b := y) (c := x) (fun h3 => a2 (cmpE_lt.2 h3)) (fun h3 => a1 (cmpE_lt.2 h3)) (cmpE_lt.1 h))
theorem swoE : Go.Sort.SWO (ltOf cmpE) := ⟨lt_irr, lt_tr, lt_ntr⟩
theorem sort_edges [Inhabited Ed] (d : Array Ed) (g cap B : Nat) (w : World) (hE : ErV w g d) (hB : B ≤ g) (hg : g < w.heap.size) (hsz : d.size ≤ 300) :
    Calls Try.prog 80 #[.slice (some ⟨g, 0, none⟩) d.size cap, .func (.func 81) #[] #[]] w fun e w' => e = .returned (.tuple #[]) ∧ ∃ d' : Array Ed, d'.size = d.size ∧ d'.toList.Perm d.toList ∧ (∀ i j, i < j → j < d'.size → ¬ ltE d'[j]! d'[i]!) ∧ ErV w' g d' ∧ Below B w w' ∧ w.heap.size ≤ w'.heap.size := by
  have eg : ∀ args w, (callFunc 81 args).run Try.prog w = .ok (.enter 81 args) w := enters_of Try.func81 (by kernel_rfl) rfl
  have hcmp : CmpLays Try.prog 81 #[] edCells 4 cmpE g 0 d.size w := fun _ _ _ _ x y => compare_four x.fr x.to x.bk x.wt y.fr y.to y.bk y.wt _
  have hcon := AnyQ.slices_SortFunc Try.sortE 4 Try.isAgg81 Try.sizeOf81 edCells (fun _ => rfl) (fun x v hv => by unfold edCells at hv; simp at hv; rcases hv with rfl | rfl | rfl | rfl <;> rfl) cmpE swoE 81 #[] g 0 cap d w eg hcmp hE.holds hg (by omega)
  refine hcon.mono fun e w' ⟨he, d', n, os, hp, hs, hw⟩ => ⟨he, d', hp.1, ?_, ?_, ?_, ?_, ?_⟩
  · have h := hp.2.2
    rw [Array.extract_eq_self_of_le (by rw [hp.1]; exact Nat.le_refl _), Array.extract_eq_self_of_le (Nat.le_refl _)] at h
    exact h
  · intro i j hij hj h
    have := hs i j (Nat.zero_le _) hij (by rw [← hp.1]; exact hj)
    unfold ltOf at this
    exact of_decide_eq_false this (cmpE_lt.2 h)
  · rw [hw]
    exact ErV.of_holds (holdsK_sortWorldK_c edCells 4 w g 0 d d' n os hE.holds hg hp.1)
  · rw [hw]; exact below_sort hB hg
  · rw [hw]; exact size_sortWorldK_c edCells 4 w g 0 n d' os
end Go.Proofs.Ytpljieenjkbmmaa
