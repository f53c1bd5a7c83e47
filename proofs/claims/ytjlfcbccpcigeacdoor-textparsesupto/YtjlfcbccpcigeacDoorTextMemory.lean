/- The contracts of package text's onlyNumber; a row of texts from a place on. -/
import Derived.Test.YtjlfcbccpcigeacDoorTextRefOf
namespace Go.Proofs.YtjlfcbccpcigeacDoor
open Go.RowKit Go.Joins
set_option linter.unusedVariables false
set_option linter.unusedSimpArgs false
set_option maxRecDepth 8192

/-- a row of texts from a place on -/
def StrsA (w : World) (b off n : Nat) (ws : List (List Int)) : Prop := ws.length = n ∧ b < w.heap.size ∧ ∀ i, i < n → w.cell? ⟨b, off + i, none⟩ = some (.string (strOfNums (ws.getD i [])))
theorem StrsA.below {w w' : World} {b off n : Nat} {ws : List (List Int)} (h : StrsA w b off n ws) (hb : Below w.heap.size w w') : StrsA w' b off n ws :=
  ⟨h.1, Nat.lt_of_lt_of_le h.2.1 hb.size, fun i hi => (bcell hb _ _ h.2.1).trans (h.2.2 i hi)⟩
/-- words that may be handed on: bytes, not too long -/
def WordsOk (ws : List (List Int)) : Prop := ∀ i, By (ws.getD i []) ∧ (ws.getD i []).length ≤ 2000000
set_option maxHeartbeats 2000000 in
theorem onlyNumber_any (ws : List (List Int)) (b n cap : Nat) (w : World) (hv : VarsT w) (h : StrsA w b 0 n ws) (hw : WordsOk ws) (hcap : n ≤ cap) (hcm : cap ≤ 9223372036854775807) :
    Calls Tryd.prog 55 #[.slice (some ⟨b, 0, none⟩) n cap] w fun e w' => ∃ v ok, e = .returned (.tuple #[.int .i64 v, .bool ok]) ∧ (n ≠ 2 → ok = false) ∧ (n = 2 → ok = (numO (ws.getD 1 []) 18).isSome ∧ ∀ m, numO (ws.getD 1 []) 18 = some m → v = m) ∧ -9223372036854775808 ≤ v ∧ v ≤ 9223372036854775807 ∧ Below w.heap.size w w' := by
  by_cases h2 : n = 2
  · subst h2
    have c1 := h.2.2 1 (by omega)
    have hbz := h.2.1
    have HS := hide (fun W hW => shortOf_any (ws.getD 1 []) W hW (hw 1).1 (hw 1).2)
    have HV := hide hv
    generalize ws.getD 1 [] = p1 at *
    clear h hw hv
    go_enter Tryd.func55, Tryd.ntmps55
    go_wp2_with fail
    refine (HS.out _ HV.out).mono ?_
    rintro e y ⟨n0, b0, rfl, hb0, hn0, lo, hi, hy⟩
    have HF : Hid (∃ v ok, (Ending.returned (.tuple #[.int .i64 n0, .bool b0])) = .returned (.tuple #[.int .i64 v, .bool ok]) ∧ (2 ≠ 2 → ok = false) ∧ (2 = 2 → ok = (numO p1 18).isSome ∧ ∀ m, numO p1 18 = some m → v = m) ∧ -9223372036854775808 ≤ v ∧ v ≤ 9223372036854775807 ∧ Below w.heap.size w y) := ⟨n0, b0, rfl, fun h => absurd rfl h, fun _ => ⟨hb0, hn0⟩, lo, hi, hy⟩
    clear hb0 hn0 hy
    go_wp2_with fail
    go_ret2
    exact HF.out
  · have hne : ¬ (n : Int) = 2 := by omega
    have hnb : ((n : Int) == 2) = false := beq_false_of_ne hne
    have hnz : (n : Int) ≠ 2 := hne
    have H2 := hide h2
    clear h hw hv h2
    go_enter Tryd.func55, Tryd.ntmps55
    go_wp2_with fail
    go_ret2
    exact ⟨0, false, rfl, fun _ => rfl, fun h => absurd h H2.out, by omega, by omega, Below.refl _ _⟩
end Go.Proofs.YtjlfcbccpcigeacDoor
