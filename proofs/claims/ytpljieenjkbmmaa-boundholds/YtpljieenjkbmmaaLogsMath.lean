/- The Logs that lists of words have; no Go in sight. -/
import Derived.Test.YtpljieenjkbmmaaLoopMath
namespace Go.Proofs.Ytpljieenjkbmmaa
set_option linter.unusedVariables false

/-- the first Log of so many words; 6: none -/
def logIx (n : Nat) : Nat := if n = 1 then 0 else if n = 2 then 1 else if n = 4 then 2 else if n = 8 then 3 else if n = 16 then 4 else if n = 32 then 5 else 6
def hasLog (r : List Int) : Bool := decide (logIx r.length < 6)
/-- all lists have Logs -/
def hasLogs (M : List (List Int)) : Bool := allN (fun i => hasLog (rowAt M i)) M.length
def logsOf (M : List (List Int)) : List Int := (List.range M.length).map fun i => (logIx (rowAt M i).length : Int)
theorem logsOf_len (M : List (List Int)) : (logsOf M).length = M.length := by unfold logsOf; simp
theorem logsOf_nth (M : List (List Int)) (i : Nat) (h : i < M.length) : nth (logsOf M) i = (logIx (rowAt M i).length : Int) := by unfold logsOf nth; simp [List.getD, h]
theorem logIx_le (n : Nat) : logIx n ≤ 6 := by
  unfold logIx
  repeat' split
  all_goals omega
theorem logIx_of {n k : Nat} (hk : k ≤ 5) (h : 2 ^ k = n) : logIx n = k := by
  subst h
  obtain rfl | rfl | rfl | rfl | rfl | rfl : k = 0 ∨ k = 1 ∨ k = 2 ∨ k = 3 ∨ k = 4 ∨ k = 5 := by omega
  all_goals rfl
theorem logIx_pow {n : Nat} (h : logIx n < 6) : 2 ^ logIx n = n := by
  unfold logIx at *
  split
  · subst_vars; rfl
  split
  · subst_vars; rfl
  split
  · subst_vars; rfl
  split
  · subst_vars; rfl
  split
  · subst_vars; rfl
  split
  · subst_vars; rfl
  · rename_i h1 h2 h3 h4 h5 h6
    rw [if_neg h1, if_neg h2, if_neg h3, if_neg h4, if_neg h5, if_neg h6] at h
    omega
theorem logIx_none {n : Nat} (h : ∀ j, j < 6 → 2 ^ j ≠ n) : logIx n = 6 := by
  have h0 := h 0 (by omega)
  have h1 := h 1 (by omega)
  have h2 := h 2 (by omega)
  have h3 := h 3 (by omega)
  have h4 := h 4 (by omega)
  have h5 := h 5 (by omega)
  unfold logIx
  rw [if_neg (by omega), if_neg (by omega), if_neg (by omega), if_neg (by omega), if_neg (by omega), if_neg (by omega)]
end Go.Proofs.Ytpljieenjkbmmaa
