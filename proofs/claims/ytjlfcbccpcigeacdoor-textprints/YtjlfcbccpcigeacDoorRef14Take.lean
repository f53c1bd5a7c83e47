/- How the document's Parse takes a line: of an array, of an out, of a statement; no Go in sight. -/
import Derived.Test.YtjlfcbccpcigeacDoorTextMath
namespace Go.Proofs.YtjlfcbccpcigeacDoor
open Go.RowKit Go.Joins
set_option linter.unusedVariables false

theorem st_first_array (ws : List (List Int)) (h : ws.getD 0 [] = arrayW ∨ ws.getD 0 [] = outW) : stO ws = none := by
  have key : ∀ w, (w = arrayW ∨ w = outW) → w ≠ turnW ∧ w ≠ constW ∧ w ≠ loadW ∧ w ≠ storeW ∧ ([11, 12, 13, 14, 15, 16, 17, 18] : List Int).find? (fun o => decide (opD o = w)) = none := by
    intro w hw
    rcases hw with rfl | rfl <;> decide
  match ws, h with
  | [], h => rfl
  | [w], h => exact if_neg (key w h).1
  | [w, a], h => exact if_neg (key w h).2.1
  | [w, a, b], h => simp only [stO, (key w h).2.2.2.2]
  | [w, a, b, c], h => exact if_neg (key w h).2.2.1
  | [w, a, b, c, d], h => exact if_neg (key w h).2.2.2.1
  | _ :: _ :: _ :: _ :: _ :: _ :: _, _ => rfl
theorem line_array {L : Lp} {ws : List (List Int)} (h : ws.getD 0 [] = arrayW) : lineO L ws = if ws.length = 2 ∧ L.body.length + L.outs.length = 0 then (numO (ws.getD 1 []) 18).map (fun n => { L with logs := L.logs ++ [n] }) else none := by
  by_cases h2 : ws.length = 2
  · match ws, h2, h with
    | [w, a], _, h =>
      have hw : w = arrayW := h
      show (if w = arrayW then _ else _) = _
      rw [if_pos hw]
      by_cases hb : L.body.length + L.outs.length = 0
      · rw [if_pos hb, if_pos ⟨rfl, hb⟩]; rfl
      · rw [if_neg hb, if_neg fun hq => hb hq.2]
  · rw [if_neg fun hq => h2 hq.1]
    have hs := st_first_array ws (.inl h)
    unfold lineO
    split
    · exact absurd rfl h2
    · rw [hs]; split <;> rfl
theorem line_out {L : Lp} {ws : List (List Int)} (h : ws.getD 0 [] = outW) : lineO L ws = if ws.length = 2 then (numO (ws.getD 1 []) 18).map (fun n => { L with outs := L.outs ++ [n] }) else none := by
  by_cases h2 : ws.length = 2
  · match ws, h2, h with
    | [w, a], _, h =>
      have hw : w = outW := h
      subst hw
      rw [if_pos (show [outW, a].length = 2 from rfl)]
      simp only [lineO]
      rw [if_neg (show ¬ outW = arrayW by decide), if_pos trivial]; rfl
  · rw [if_neg h2]
    have hs := st_first_array ws (.inr h)
    unfold lineO
    split
    · exact absurd rfl h2
    · rw [hs]; split <;> rfl
theorem line_stmt {L : Lp} {ws : List (List Int)} (h1 : ws.getD 0 [] ≠ arrayW) (h2 : ws.getD 0 [] ≠ outW) : lineO L ws = if L.outs.length = 0 then (stO ws).map (fun s => { L with body := L.body ++ [s] }) else none := by
  unfold lineO
  split
  · rename_i w a
    have hw1 : w ≠ arrayW := h1
    have hw2 : w ≠ outW := h2
    rw [if_neg hw1, if_neg hw2]
    by_cases hc : w = constW
    · by_cases ho : L.outs.length = 0
      · rw [if_pos ⟨hc, ho⟩, if_pos ho]
      · rw [if_neg fun hq => ho hq.2, if_neg ho]
    · rw [if_neg fun hq => hc hq.1]
      have hs : stO [w, a] = none := if_neg hc
      rw [hs]
      split <;> rfl
  · rfl
theorem go_step {L : Lp} {ls : List (List Int)} {k : Nat} (h : 2 ≤ ls.length) : goD L ls k = match lineO L (splitD 32 (ls.getD 0 [])) with
    | some L' => goD L' ls.tail (k + 1)
    | none => (⟨[], [], []⟩, 2, k) := by
  match ls, h with
  | p :: q :: ps, _ => rfl
theorem go_last {L : Lp} {ls : List (List Int)} {k : Nat} (h : ls.length = 1) : goD L ls k = if ls.getD 0 [] = [] ∧ mayB L = true then (L, 0, 0) else (⟨[], [], []⟩, 2, k) := by
  match ls, h with
  | [p], _ => rfl
end Go.Proofs.YtjlfcbccpcigeacDoor
