/-
  No cell of these rows narrows 'for every input' (looked for: loops, veiled, ifaces, maps, wideKeys, modest, calm, conditions, laid).
  DERIVED. THE GIVEN ROWS OF THIS SEAT. 12 by the template 'for every input the law returns true; each argument reads behind the call as it read before'; 0 by the template 'total and deterministic' (their statements: YtpljieenjkbmmaaTotals.lean).
  GIVEN WITH THE SEED: the statements are not yours to turn. If you find one false, say at which input.
  Laid BY PROGRAM, IN A SANDBOX (cutbox-rows.mjs): the forced cells as the released guide's own fill.sh prints them over the translation cf38efcb0fd0770f… (all of the seat's roots in one cut). By AI agents, Wed Nov 11 2026. No macro, syntax, notation, axiom, sorry.
-/
import Derived.Test.YtpljieenjkbmmaaChecked
import GoSem.Claim
import GoSem.ClaimJoined
import GoSem.ClaimMapViews
import Derived.JoinedTies
import Derived.KernelRfl
namespace Go.Proofs.Ytpljieenjkbmmaa
/- THE CELL 'sum', in the pinned program and in every row, IS THE sha256 OF THE DUMP (.gsa) THAT YtpljieenjkbmmaaProg.lean LOADS. Nothing in Lean hashes anything: it is a label: what it is worth is what the hold of that sum in a sandbox is worth. -/
noncomputable def Try.pinned : Pinned := { name := "ytpljieenjkbmmaa", sum := "cf38efcb0fd0770fcbada5edd9757e03059ee7380bd52f45a9ad05a8ec9c7dec", checked := Try.checked }
namespace Rows
def none {H : Type} : Left H := { results := [], args := [] }

/-- 'roundelaylaw.NumTells': WHATEVER THE INPUT: true; the input reads as it did. -/
def numTellsSpec : ChangeSpec := { name := "numTells", fn := fun _ => fun
  | [d1, d2, d3, d4, d5, d6, d7] => { results := [.lit (.bool true)], args := [d1, d2, d3, d4, d5, d6, d7] }
  | _ => none }
def numTellsRow : OpenClaim := { program := "ytpljieenjkbmmaa", sum := "cf38efcb0fd0770fcbada5edd9757e03059ee7380bd52f45a9ad05a8ec9c7dec", func := "roundelay/roundelaylaw.NumTells", spec := "numTells", unfollowed := true, recurses := true, plainKeys := false, apart := false }
def NumTellsSaid : Prop := numTellsRow.holds Try.pinned (OpenSpec.ofChange numTellsSpec)

/-- ITS FALSE NEIGHBOUR: 'it returns false'. Refute it at one input. -/
def numTellsWrong : ChangeSpec := { name := "numTells", fn := fun _ => fun
  | [d1, d2, d3, d4, d5, d6, d7] => { results := [.lit (.bool false)], args := [d1, d2, d3, d4, d5, d6, d7] }
  | _ => none }
def NumTellsWrongFalsely : Prop := numTellsRow.holds Try.pinned (OpenSpec.ofChange numTellsWrong)

/-- 'roundelaykeep.NumRound': WHATEVER THE INPUT: true; the input reads as it did. -/
def numRoundSpec : ChangeSpec := { name := "numRound", fn := fun _ => fun
  | [d1, d2, d3, d4] => { results := [.lit (.bool true)], args := [d1, d2, d3, d4] }
  | _ => none }
def numRoundRow : OpenClaim := { program := "ytpljieenjkbmmaa", sum := "cf38efcb0fd0770fcbada5edd9757e03059ee7380bd52f45a9ad05a8ec9c7dec", func := "roundelay/roundelaykeep.NumRound", spec := "numRound", plainKeys := false, apart := false }
def NumRoundSaid : Prop := numRoundRow.holds Try.pinned (OpenSpec.ofChange numRoundSpec)

/-- ITS FALSE NEIGHBOUR: 'it returns false'. Refute it at one input. -/
def numRoundWrong : ChangeSpec := { name := "numRound", fn := fun _ => fun
  | [d1, d2, d3, d4] => { results := [.lit (.bool false)], args := [d1, d2, d3, d4] }
  | _ => none }
def NumRoundWrongFalsely : Prop := numRoundRow.holds Try.pinned (OpenSpec.ofChange numRoundWrong)

/-- 'roundelaylaw.LoopTells': WHATEVER THE INPUT: true; the input reads as it did. -/
def loopTellsSpec : ChangeSpec := { name := "loopTells", fn := fun _ => fun
  | [d1, d2] => { results := [.lit (.bool true)], args := [d1, d2] }
  | _ => none }
def loopTellsRow : OpenClaim := { program := "ytpljieenjkbmmaa", sum := "cf38efcb0fd0770fcbada5edd9757e03059ee7380bd52f45a9ad05a8ec9c7dec", func := "roundelay/roundelaylaw.LoopTells", spec := "loopTells", plainKeys := false, apart := false }
def LoopTellsSaid : Prop := loopTellsRow.holds Try.pinned (OpenSpec.ofChange loopTellsSpec)

/-- ITS FALSE NEIGHBOUR: 'it returns false'. Refute it at one input. -/
def loopTellsWrong : ChangeSpec := { name := "loopTells", fn := fun _ => fun
  | [d1, d2] => { results := [.lit (.bool false)], args := [d1, d2] }
  | _ => none }
def LoopTellsWrongFalsely : Prop := loopTellsRow.holds Try.pinned (OpenSpec.ofChange loopTellsWrong)

/-- 'roundelaylaw.SeqRuns': WHATEVER THE INPUT: true; the input reads as it did. -/
def seqRunsSpec : ChangeSpec := { name := "seqRuns", fn := fun _ => fun
  | [d1, d2, d3] => { results := [.lit (.bool true)], args := [d1, d2, d3] }
  | _ => none }
def seqRunsRow : OpenClaim := { program := "ytpljieenjkbmmaa", sum := "cf38efcb0fd0770fcbada5edd9757e03059ee7380bd52f45a9ad05a8ec9c7dec", func := "roundelay/roundelaylaw.SeqRuns", spec := "seqRuns", unfollowed := true, recurses := true, plainKeys := false, apart := false }
def SeqRunsSaid : Prop := seqRunsRow.holds Try.pinned (OpenSpec.ofChange seqRunsSpec)

/-- ITS FALSE NEIGHBOUR: 'it returns false'. Refute it at one input. -/
def seqRunsWrong : ChangeSpec := { name := "seqRuns", fn := fun _ => fun
  | [d1, d2, d3] => { results := [.lit (.bool false)], args := [d1, d2, d3] }
  | _ => none }
def SeqRunsWrongFalsely : Prop := seqRunsRow.holds Try.pinned (OpenSpec.ofChange seqRunsWrong)

/-- 'roundelaykeep.SeqNone': WHATEVER THE INPUT: true; the input reads as it did. -/
def seqNoneSpec : ChangeSpec := { name := "seqNone", fn := fun _ => fun
  | [d1, d2] => { results := [.lit (.bool true)], args := [d1, d2] }
  | _ => none }
def seqNoneRow : OpenClaim := { program := "ytpljieenjkbmmaa", sum := "cf38efcb0fd0770fcbada5edd9757e03059ee7380bd52f45a9ad05a8ec9c7dec", func := "roundelay/roundelaykeep.SeqNone", spec := "seqNone", unfollowed := true, recurses := true, plainKeys := false, apart := false }
def SeqNoneSaid : Prop := seqNoneRow.holds Try.pinned (OpenSpec.ofChange seqNoneSpec)

/-- ITS FALSE NEIGHBOUR: 'it returns false'. Refute it at one input. -/
def seqNoneWrong : ChangeSpec := { name := "seqNone", fn := fun _ => fun
  | [d1, d2] => { results := [.lit (.bool false)], args := [d1, d2] }
  | _ => none }
def SeqNoneWrongFalsely : Prop := seqNoneRow.holds Try.pinned (OpenSpec.ofChange seqNoneWrong)

/-- 'roundelaylaw.TargetTells': WHATEVER THE INPUT: true; the input reads as it did. -/
def targetTellsSpec : ChangeSpec := { name := "targetTells", fn := fun _ => fun
  | [d1, d2] => { results := [.lit (.bool true)], args := [d1, d2] }
  | _ => none }
def targetTellsRow : OpenClaim := { program := "ytpljieenjkbmmaa", sum := "cf38efcb0fd0770fcbada5edd9757e03059ee7380bd52f45a9ad05a8ec9c7dec", func := "roundelay/roundelaylaw.TargetTells", spec := "targetTells", plainKeys := false, apart := false }
def TargetTellsSaid : Prop := targetTellsRow.holds Try.pinned (OpenSpec.ofChange targetTellsSpec)

/-- ITS FALSE NEIGHBOUR: 'it returns false'. Refute it at one input. -/
def targetTellsWrong : ChangeSpec := { name := "targetTells", fn := fun _ => fun
  | [d1, d2] => { results := [.lit (.bool false)], args := [d1, d2] }
  | _ => none }
def TargetTellsWrongFalsely : Prop := targetTellsRow.holds Try.pinned (OpenSpec.ofChange targetTellsWrong)

/-- 'roundelaylaw.KernelRuns': WHATEVER THE INPUT: true; the input reads as it did. -/
def kernelRunsSpec : ChangeSpec := { name := "kernelRuns", fn := fun _ => fun
  | [d1, d2, d3, d4, d5] => { results := [.lit (.bool true)], args := [d1, d2, d3, d4, d5] }
  | _ => none }
def kernelRunsRow : OpenClaim := { program := "ytpljieenjkbmmaa", sum := "cf38efcb0fd0770fcbada5edd9757e03059ee7380bd52f45a9ad05a8ec9c7dec", func := "roundelay/roundelaylaw.KernelRuns", spec := "kernelRuns", unfollowed := true, recurses := true, plainKeys := false, apart := false }
def KernelRunsSaid : Prop := kernelRunsRow.holds Try.pinned (OpenSpec.ofChange kernelRunsSpec)

/-- ITS FALSE NEIGHBOUR: 'it returns false'. Refute it at one input. -/
def kernelRunsWrong : ChangeSpec := { name := "kernelRuns", fn := fun _ => fun
  | [d1, d2, d3, d4, d5] => { results := [.lit (.bool false)], args := [d1, d2, d3, d4, d5] }
  | _ => none }
def KernelRunsWrongFalsely : Prop := kernelRunsRow.holds Try.pinned (OpenSpec.ofChange kernelRunsWrong)

/-- 'roundelaykeep.KernelNone': WHATEVER THE INPUT: true; the input reads as it did. -/
def kernelNoneSpec : ChangeSpec := { name := "kernelNone", fn := fun _ => fun
  | [d1, d2, d3, d4] => { results := [.lit (.bool true)], args := [d1, d2, d3, d4] }
  | _ => none }
def kernelNoneRow : OpenClaim := { program := "ytpljieenjkbmmaa", sum := "cf38efcb0fd0770fcbada5edd9757e03059ee7380bd52f45a9ad05a8ec9c7dec", func := "roundelay/roundelaykeep.KernelNone", spec := "kernelNone", unfollowed := true, recurses := true, plainKeys := false, apart := false }
def KernelNoneSaid : Prop := kernelNoneRow.holds Try.pinned (OpenSpec.ofChange kernelNoneSpec)

/-- ITS FALSE NEIGHBOUR: 'it returns false'. Refute it at one input. -/
def kernelNoneWrong : ChangeSpec := { name := "kernelNone", fn := fun _ => fun
  | [d1, d2, d3, d4] => { results := [.lit (.bool false)], args := [d1, d2, d3, d4] }
  | _ => none }
def KernelNoneWrongFalsely : Prop := kernelNoneRow.holds Try.pinned (OpenSpec.ofChange kernelNoneWrong)

/-- 'roundelaylaw.DepTells': WHATEVER THE INPUT: true; the input reads as it did. -/
def depTellsSpec : ChangeSpec := { name := "depTells", fn := fun _ => fun
  | [d1, d2] => { results := [.lit (.bool true)], args := [d1, d2] }
  | _ => none }
def depTellsRow : OpenClaim := { program := "ytpljieenjkbmmaa", sum := "cf38efcb0fd0770fcbada5edd9757e03059ee7380bd52f45a9ad05a8ec9c7dec", func := "roundelay/roundelaylaw.DepTells", spec := "depTells", unfollowed := true, recurses := true, plainKeys := false, apart := false }
def DepTellsSaid : Prop := depTellsRow.holds Try.pinned (OpenSpec.ofChange depTellsSpec)

/-- ITS FALSE NEIGHBOUR: 'it returns false'. Refute it at one input. -/
def depTellsWrong : ChangeSpec := { name := "depTells", fn := fun _ => fun
  | [d1, d2] => { results := [.lit (.bool false)], args := [d1, d2] }
  | _ => none }
def DepTellsWrongFalsely : Prop := depTellsRow.holds Try.pinned (OpenSpec.ofChange depTellsWrong)

/-- 'roundelaykeep.DepForward': WHATEVER THE INPUT: true; the input reads as it did. -/
def depForwardSpec : ChangeSpec := { name := "depForward", fn := fun _ => fun
  | [d1, d2] => { results := [.lit (.bool true)], args := [d1, d2] }
  | _ => none }
def depForwardRow : OpenClaim := { program := "ytpljieenjkbmmaa", sum := "cf38efcb0fd0770fcbada5edd9757e03059ee7380bd52f45a9ad05a8ec9c7dec", func := "roundelay/roundelaykeep.DepForward", spec := "depForward", unfollowed := true, recurses := true, plainKeys := false, apart := false }
def DepForwardSaid : Prop := depForwardRow.holds Try.pinned (OpenSpec.ofChange depForwardSpec)

/-- ITS FALSE NEIGHBOUR: 'it returns false'. Refute it at one input. -/
def depForwardWrong : ChangeSpec := { name := "depForward", fn := fun _ => fun
  | [d1, d2] => { results := [.lit (.bool false)], args := [d1, d2] }
  | _ => none }
def DepForwardWrongFalsely : Prop := depForwardRow.holds Try.pinned (OpenSpec.ofChange depForwardWrong)

/-- 'roundelaylaw.BoundTells': WHATEVER THE INPUT: true; the input reads as it did. -/
def boundTellsSpec : ChangeSpec := { name := "boundTells", fn := fun _ => fun
  | [d1, d2] => { results := [.lit (.bool true)], args := [d1, d2] }
  | _ => none }
def boundTellsRow : OpenClaim := { program := "ytpljieenjkbmmaa", sum := "cf38efcb0fd0770fcbada5edd9757e03059ee7380bd52f45a9ad05a8ec9c7dec", func := "roundelay/roundelaylaw.BoundTells", spec := "boundTells", unfollowed := true, recurses := true, plainKeys := false, apart := false }
def BoundTellsSaid : Prop := boundTellsRow.holds Try.pinned (OpenSpec.ofChange boundTellsSpec)

/-- ITS FALSE NEIGHBOUR: 'it returns false'. Refute it at one input. -/
def boundTellsWrong : ChangeSpec := { name := "boundTells", fn := fun _ => fun
  | [d1, d2] => { results := [.lit (.bool false)], args := [d1, d2] }
  | _ => none }
def BoundTellsWrongFalsely : Prop := boundTellsRow.holds Try.pinned (OpenSpec.ofChange boundTellsWrong)

/-- 'roundelaylaw.BoundHolds': WHATEVER THE INPUT: true; the input reads as it did. -/
def boundHoldsSpec : ChangeSpec := { name := "boundHolds", fn := fun _ => fun
  | [d1, d2, d3] => { results := [.lit (.bool true)], args := [d1, d2, d3] }
  | _ => none }
def boundHoldsRow : OpenClaim := { program := "ytpljieenjkbmmaa", sum := "cf38efcb0fd0770fcbada5edd9757e03059ee7380bd52f45a9ad05a8ec9c7dec", func := "roundelay/roundelaylaw.BoundHolds", spec := "boundHolds", unfollowed := true, recurses := true, plainKeys := false, apart := false }
def BoundHoldsSaid : Prop := boundHoldsRow.holds Try.pinned (OpenSpec.ofChange boundHoldsSpec)

/-- ITS FALSE NEIGHBOUR: 'it returns false'. Refute it at one input. -/
def boundHoldsWrong : ChangeSpec := { name := "boundHolds", fn := fun _ => fun
  | [d1, d2, d3] => { results := [.lit (.bool false)], args := [d1, d2, d3] }
  | _ => none }
def BoundHoldsWrongFalsely : Prop := boundHoldsRow.holds Try.pinned (OpenSpec.ofChange boundHoldsWrong)

/- THE SECOND FORM. 'bulk': how many values and letters a reading holds, each counted each time it is reached (what is shared counts as often as it is met; a slice's spare places count too). A statement '..UptoSaid' is the law's where the arguments, and the package variables that the reading takes, are together of bulk at most 1048576: NARROWER than '..Said'. Prove '..Said' where nothing that the law and all that it calls make is longer than what came in: it says more and counts as full. Else prove '..UptoSaid'. A law counts once. -/
mutual
def uptoBulk {H : Type} : DataW H → Nat
  | .lit (.string bytes) => bytes.length + 1
  | .lit _ => 1
  | .nil => 1
  | .ptr d => uptoBulk d + 1
  | .slice elems spare => uptoBulkAll elems + uptoBulkAll spare + 1
  | .agg parts => uptoBulkAll parts + 1
  | .iface _ d => uptoBulk d + 1
  | .map entries => uptoBulkEntries entries + 1
  | .held _ => 1
def uptoBulkAll {H : Type} : List (DataW H) → Nat
  | [] => 0
  | d :: r => uptoBulk d + uptoBulkAll r
def uptoBulkEntries {H : Type} : List (Lit × DataW H) → Nat
  | [] => 0
  | x :: r => uptoBulkEntry x + uptoBulkEntries r
def uptoBulkEntry {H : Type} : Lit × DataW H → Nat
  | (.string bytes, d) => bytes.length + uptoBulk d + 1
  | (_, d) => uptoBulk d + 1
 end
def uptoSmall : (H : Type) → List (DataW H) → Bool := fun _ ds => decide (uptoBulkAll ds ≤ 1048576)
def OpenSpec.upto (s : _root_.Go.ChangeSpec) : _root_.Go.OpenSpec := { _root_.Go.OpenSpec.ofChange s with cond := some uptoSmall }

/-- 'roundelaylaw.NumTells', WHERE WHAT IT READS IS OF BULK AT MOST 1048576: true; the input reads as it did. -/
def numTellsUptoRow : OpenClaim := { program := "ytpljieenjkbmmaa", sum := "cf38efcb0fd0770fcbada5edd9757e03059ee7380bd52f45a9ad05a8ec9c7dec", func := "roundelay/roundelaylaw.NumTells", spec := "numTells", unfollowed := true, recurses := true, plainKeys := false, apart := false, narrowed := true }
def NumTellsUptoSaid : Prop := numTellsUptoRow.holds Try.pinned (OpenSpec.upto numTellsSpec)

/-- 'roundelaykeep.NumRound', WHERE WHAT IT READS IS OF BULK AT MOST 1048576: true; the input reads as it did. -/
def numRoundUptoRow : OpenClaim := { program := "ytpljieenjkbmmaa", sum := "cf38efcb0fd0770fcbada5edd9757e03059ee7380bd52f45a9ad05a8ec9c7dec", func := "roundelay/roundelaykeep.NumRound", spec := "numRound", plainKeys := false, apart := false, narrowed := true }
def NumRoundUptoSaid : Prop := numRoundUptoRow.holds Try.pinned (OpenSpec.upto numRoundSpec)

/-- 'roundelaylaw.LoopTells', WHERE WHAT IT READS IS OF BULK AT MOST 1048576: true; the input reads as it did. -/
def loopTellsUptoRow : OpenClaim := { program := "ytpljieenjkbmmaa", sum := "cf38efcb0fd0770fcbada5edd9757e03059ee7380bd52f45a9ad05a8ec9c7dec", func := "roundelay/roundelaylaw.LoopTells", spec := "loopTells", plainKeys := false, apart := false, narrowed := true }
def LoopTellsUptoSaid : Prop := loopTellsUptoRow.holds Try.pinned (OpenSpec.upto loopTellsSpec)

/-- 'roundelaylaw.SeqRuns', WHERE WHAT IT READS IS OF BULK AT MOST 1048576: true; the input reads as it did. -/
def seqRunsUptoRow : OpenClaim := { program := "ytpljieenjkbmmaa", sum := "cf38efcb0fd0770fcbada5edd9757e03059ee7380bd52f45a9ad05a8ec9c7dec", func := "roundelay/roundelaylaw.SeqRuns", spec := "seqRuns", unfollowed := true, recurses := true, plainKeys := false, apart := false, narrowed := true }
def SeqRunsUptoSaid : Prop := seqRunsUptoRow.holds Try.pinned (OpenSpec.upto seqRunsSpec)

/-- 'roundelaykeep.SeqNone', WHERE WHAT IT READS IS OF BULK AT MOST 1048576: true; the input reads as it did. -/
def seqNoneUptoRow : OpenClaim := { program := "ytpljieenjkbmmaa", sum := "cf38efcb0fd0770fcbada5edd9757e03059ee7380bd52f45a9ad05a8ec9c7dec", func := "roundelay/roundelaykeep.SeqNone", spec := "seqNone", unfollowed := true, recurses := true, plainKeys := false, apart := false, narrowed := true }
def SeqNoneUptoSaid : Prop := seqNoneUptoRow.holds Try.pinned (OpenSpec.upto seqNoneSpec)

/-- 'roundelaylaw.TargetTells', WHERE WHAT IT READS IS OF BULK AT MOST 1048576: true; the input reads as it did. -/
def targetTellsUptoRow : OpenClaim := { program := "ytpljieenjkbmmaa", sum := "cf38efcb0fd0770fcbada5edd9757e03059ee7380bd52f45a9ad05a8ec9c7dec", func := "roundelay/roundelaylaw.TargetTells", spec := "targetTells", plainKeys := false, apart := false, narrowed := true }
def TargetTellsUptoSaid : Prop := targetTellsUptoRow.holds Try.pinned (OpenSpec.upto targetTellsSpec)

/-- 'roundelaylaw.KernelRuns', WHERE WHAT IT READS IS OF BULK AT MOST 1048576: true; the input reads as it did. -/
def kernelRunsUptoRow : OpenClaim := { program := "ytpljieenjkbmmaa", sum := "cf38efcb0fd0770fcbada5edd9757e03059ee7380bd52f45a9ad05a8ec9c7dec", func := "roundelay/roundelaylaw.KernelRuns", spec := "kernelRuns", unfollowed := true, recurses := true, plainKeys := false, apart := false, narrowed := true }
def KernelRunsUptoSaid : Prop := kernelRunsUptoRow.holds Try.pinned (OpenSpec.upto kernelRunsSpec)

/-- 'roundelaykeep.KernelNone', WHERE WHAT IT READS IS OF BULK AT MOST 1048576: true; the input reads as it did. -/
def kernelNoneUptoRow : OpenClaim := { program := "ytpljieenjkbmmaa", sum := "cf38efcb0fd0770fcbada5edd9757e03059ee7380bd52f45a9ad05a8ec9c7dec", func := "roundelay/roundelaykeep.KernelNone", spec := "kernelNone", unfollowed := true, recurses := true, plainKeys := false, apart := false, narrowed := true }
def KernelNoneUptoSaid : Prop := kernelNoneUptoRow.holds Try.pinned (OpenSpec.upto kernelNoneSpec)

/-- 'roundelaylaw.DepTells', WHERE WHAT IT READS IS OF BULK AT MOST 1048576: true; the input reads as it did. -/
def depTellsUptoRow : OpenClaim := { program := "ytpljieenjkbmmaa", sum := "cf38efcb0fd0770fcbada5edd9757e03059ee7380bd52f45a9ad05a8ec9c7dec", func := "roundelay/roundelaylaw.DepTells", spec := "depTells", unfollowed := true, recurses := true, plainKeys := false, apart := false, narrowed := true }
def DepTellsUptoSaid : Prop := depTellsUptoRow.holds Try.pinned (OpenSpec.upto depTellsSpec)

/-- 'roundelaykeep.DepForward', WHERE WHAT IT READS IS OF BULK AT MOST 1048576: true; the input reads as it did. -/
def depForwardUptoRow : OpenClaim := { program := "ytpljieenjkbmmaa", sum := "cf38efcb0fd0770fcbada5edd9757e03059ee7380bd52f45a9ad05a8ec9c7dec", func := "roundelay/roundelaykeep.DepForward", spec := "depForward", unfollowed := true, recurses := true, plainKeys := false, apart := false, narrowed := true }
def DepForwardUptoSaid : Prop := depForwardUptoRow.holds Try.pinned (OpenSpec.upto depForwardSpec)

/-- 'roundelaylaw.BoundTells', WHERE WHAT IT READS IS OF BULK AT MOST 1048576: true; the input reads as it did. -/
def boundTellsUptoRow : OpenClaim := { program := "ytpljieenjkbmmaa", sum := "cf38efcb0fd0770fcbada5edd9757e03059ee7380bd52f45a9ad05a8ec9c7dec", func := "roundelay/roundelaylaw.BoundTells", spec := "boundTells", unfollowed := true, recurses := true, plainKeys := false, apart := false, narrowed := true }
def BoundTellsUptoSaid : Prop := boundTellsUptoRow.holds Try.pinned (OpenSpec.upto boundTellsSpec)

/-- 'roundelaylaw.BoundHolds', WHERE WHAT IT READS IS OF BULK AT MOST 1048576: true; the input reads as it did. -/
def boundHoldsUptoRow : OpenClaim := { program := "ytpljieenjkbmmaa", sum := "cf38efcb0fd0770fcbada5edd9757e03059ee7380bd52f45a9ad05a8ec9c7dec", func := "roundelay/roundelaylaw.BoundHolds", spec := "boundHolds", unfollowed := true, recurses := true, plainKeys := false, apart := false, narrowed := true }
def BoundHoldsUptoSaid : Prop := boundHoldsUptoRow.holds Try.pinned (OpenSpec.upto boundHoldsSpec)

end Rows
end Go.Proofs.Ytpljieenjkbmmaa
