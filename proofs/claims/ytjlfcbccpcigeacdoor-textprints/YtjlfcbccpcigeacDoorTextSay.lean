/- What the laws on loops as text say of a Parse and a Print, and of texts; no walk. -/
import Derived.Test.YtjlfcbccpcigeacDoorRef14Stmt
import Derived.Test.YtjlfcbccpcigeacDoorRef14Same
import Derived.Test.YtjlfcbccpcigeacDoorRef14Take
import Derived.Test.YtjlfcbccpcigeacDoorRef2L
namespace Go.Proofs.YtjlfcbccpcigeacDoor
open Go.RowKit Go.Joins
set_option linter.unusedVariables false
set_option linter.unusedSimpArgs false
set_option maxRecDepth 8192

def printD (L : Lp) : List Int := if mayB L = true then textD L else []
def printC (L : Lp) : Int := if mayB L = true then 0 else 2
/-- what a Parse answers -/
def ParsePost (s : List Int) (w : World) (e : Ending) (w' : World) : Prop := ∃ v0 v1 v2, e = .returned (.tuple #[.agg #[v0, v1, v2], .agg #[.int .i64 (parseD s).2.1, .int .i64 ((parseD s).2.2 : Int)]]) ∧ LoopV w' (.agg #[v0, v1, v2]) (parseD s).1 ∧ LoopIn (parseD s).1 ∧ Below w.heap.size w w'
/-- how the document does -/
def ParseRefC : Prop := ∀ (s : List Int) (w : World), ByteL s → s.length ≤ 2000000 → Calls Tryd.prog 11 #[.string (strOfNums s)] w (ParsePost s w)
theorem text_byte (L : Lp) : ∀ c ∈ textD L, 0 ≤ c ∧ c ≤ 255 := by
  have hd : ∀ n, ∀ c ∈ digitsD n, 0 ≤ c ∧ c ≤ 255 := digits_byte
  have hr : ∀ a b, ∀ c ∈ refD a b, 0 ≤ c ∧ c ≤ 255 := fun a b c hc => by
    unfold refD at hc
    rcases List.mem_cons.1 hc with h | h
    · omega
    · rcases List.mem_append.1 h with h | h
      · exact hd a c h
      · split at h
        · cases h
        · rcases List.mem_cons.1 h with h | h
          · omega
          · exact hd b c h
  have hj : ∀ ps : List (List Int), (∀ p ∈ ps, ∀ c ∈ p, 0 ≤ c ∧ c ≤ 255) → ∀ c ∈ joinD 32 ps, 0 ≤ c ∧ c ≤ 255 := by
    intro ps
    induction ps with
    | nil => intro _ c hc; cases hc
    | cons p ps ih =>
      intro h c hc
      cases ps with
      | nil => exact h p (List.mem_cons_self ..) c hc
      | cons q qs =>
        rcases List.mem_append.1 hc with hc | hc
        · exact h p (List.mem_cons_self ..) c hc
        · rcases List.mem_cons.1 hc with hc | hc
          · omega
          · exact ih (fun r hr => h r (List.mem_cons_of_mem _ hr)) c hc
  have hw : ∀ ws ∈ linesW L, ∀ p ∈ ws, ∀ c ∈ p, 0 ≤ c ∧ c ≤ 255 := by
    intro ws hws
    unfold linesW at hws
    rcases List.mem_append.1 hws with h | h
    · rcases List.mem_append.1 h with h | h
      · obtain ⟨n, _, rfl⟩ := List.mem_map.1 h
        intro p hp
        simp at hp
        rcases hp with e | e
        · subst e; decide
        · subst e; exact hd n
      · obtain ⟨s, _, rfl⟩ := List.mem_map.1 h
        intro p hp
        unfold stW at hp
        split at hp
        · simp at hp
          rcases hp with e | e
          · subst e; decide
          · subst e; exact hd _
        · split at hp
          · simp at hp
            subst hp; decide
          · split at hp
            · simp at hp
              rcases hp with e | e | e | e
              · subst e; decide
              all_goals (subst e; exact hd _)
            · split at hp
              · simp at hp
                rcases hp with e | e | e | e | e
                · subst e; decide
                · subst e; exact hd _
                · subst e; exact hd _
                · subst e; exact hd _
                · subst e; exact hr _ _
              · simp at hp
                rcases hp with e | e | e
                · subst e; exact op_byte _
                · subst e; exact hr _ _
                · subst e; exact hr _ _
    · obtain ⟨n, _, rfl⟩ := List.mem_map.1 h
      intro p hp
      simp at hp
      rcases hp with e | e
      · subst e; decide
      · subst e; exact hd n
  intro c hc
  unfold textD at hc
  obtain ⟨ws, hws, hc⟩ := List.mem_flatMap.1 hc
  rcases List.mem_append.1 hc with hc | hc
  · exact hj ws (hw ws hws) c hc
  · have : c = 10 := by simpa using hc
    omega
theorem byteL_of {s : List Int} (h : ∀ c ∈ s, 0 ≤ c ∧ c ≤ 255) : ByteL s := fun i => by
  unfold nth
  rw [List.getD_eq_getElem?_getD]
  rcases Nat.lt_or_ge i s.length with hi | hi
  · rw [List.getElem?_eq_getElem hi]; exact h _ (List.getElem_mem hi)
  · rw [List.getElem?_eq_none hi]; decide
theorem text_small {L : Lp} (hm : mayB L = true) (hn : LoopIn L) : (textD L).length ≤ 2000000 := by
  have h := (text_len hm hn).2.2 L.outs.length (Nat.le_refl _)
  rw [tx3_all] at h
  omega
end Go.Proofs.YtjlfcbccpcigeacDoor
