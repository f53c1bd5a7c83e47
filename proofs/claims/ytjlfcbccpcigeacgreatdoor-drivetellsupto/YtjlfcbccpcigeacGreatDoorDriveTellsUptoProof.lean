/- For every script of bulk at most 1048576 the law DriveTells returns true at the landed commit; nothing that was there is changed. The card's condition: the listed package variables as the program's text lays them. -/
import Derived.Test.YtjlfcbccpcigeacGreatDoorCards
import Derived.Test.YtjlfcbccpcigeacGreatDoorTie
import Derived.Test.YtjlfcbccpcigeacGreatDoorR
import Derived.ProofKit
import Derived.ChangeOld
import Derived.JoinedCond
import Derived.Deep.DeepHandedRow
import Derived.Lay
namespace Go.Proofs.YtjlfcbccpcigeacGreatDoor.driveTells
open Go.ChangeShapes Go.WideShapes Go.ChangeAt Go.RowKit Go.ChangeMaps
set_option linter.unusedVariables false
set_option maxRecDepth 100000
theorem own : ownKnob Tryz.prog.godebug = none := kR
theorem jD : laidOutB Tryz.prog = true := kR
theorem short {H : Type} {b0 : ByteArray} (b : Rows.uptoSmall H [DataW.lit (H := H) (.string b0.data.toList)] = true) : b0.size ≤ 1048576 := by
 have h : Rows.uptoBulkAll [DataW.lit (H := H) (.string b0.data.toList)] ≤ 1048576 := QI b
 simp only [Rows.uptoBulkAll, Rows.uptoBulk] at h
 have a : b0.data.toList.length = b0.size := by rw [Array.length_toList]; rfl
 omega
theorem contract (H : Type) (c : TypeId × Value → H) (W : World) (base : Nat) (args : Array Value) (k u : List (DataW H)) (a : List MemPlace)
  (b : ∀ (j : Nat) t v, Tryz.f3.params[j]? = some t → args[j]? = some v → Value.okWide Tryz.prog W .any base t v)
  (x : DataW.Whole c Tryz.prog Tryz.f3.params.toList Rows.driveTellsSpec.vars false W args.toList k u a) (y : Rows.uptoSmall H (k ++ u) = true) (d : laidMetH Tryz.prog Rows.driveTellsRow.laid W) (r : W.ShapedOpen Tryz.prog) :
  Calls Tryz.prog 3 args W fun e s => ∃ v, e = .returned v ∧ Rows.driveTellsSpec.post c Tryz.prog Tryz.f3 false true false false W args v s := by
 have l := x
 obtain ⟨p, q, g, A, rfl, C, D⟩ := x
 have hA : DataW.TrodAll c Tryz.prog W 0 (fun _ => true) true Tryz.f3.params.toList args.toList k p := g
 rw [Tryz.params3] at hA b
 obtain ⟨v0, K, L, z, M, N, m, rfl, rfl, h0, G⟩ := trodAll_cons hA
 obtain ⟨rfl, rfl, rfl⟩ := trodAll_nil G
 obtain rfl : args = #[v0] := by cases args; simp_all
 obtain ⟨rfl, rfl⟩ := trodVars_none A
 obtain ⟨I, rfl, rfl, rfl, f⟩ := open_string Tryz.underlying9 (b 0 9 v0 rfl rfl) h0
 obtain ⟨l0, n, o, F⟩ := kj I
 subst o
 simp only [WJ] at y
 have i := short y
 clear g
 refine (tells_all l0 W (ks d r) (jg n) oM).mono fun e s ⟨B, bel⟩ => ?_
 subst B
 exact ⟨_, rfl, _, _, _, [], _, [], l, trodAll_mk1 (shut_bool Tryz.underlying4 _), (trodAll_cons_mk (shut_string Tryz.underlying9 f) trodAll_mk0), rfl, bel.frame _, fun h => by cases h⟩
theorem reads (os : Os) {H : Type} (b : TypeId × Value → H) : ∃ a, DataW.whole b Tryz.prog ((World.laidAll Tryz.prog os Rows.driveTellsRow.laid).forCall (fun _ _ => 0) ⟨#[], #[.string .empty], []⟩).memory Tryz.f3.params.toList Rows.driveTellsSpec.vars false #[Value.string .empty].toList 8 = some ([.lit (.string [])], [], a) :=
 ⟨[], kR⟩
theorem laid_met (os : Os) : laidMetH Tryz.prog Rows.driveTellsRow.laid ((World.laidAll Tryz.prog os Rows.driveTellsRow.laid).forCall (fun _ _ => 0) ⟨#[], #[.string .empty], []⟩).memory := by
 rw [MakeChecks.laidMetH_plain _ _ _ kR]
 exact laidMet_laidAll _ kR kR
theorem tR (os : Os) : Input.okWideB Tryz.prog ((World.laidAll Tryz.prog os Rows.driveTellsRow.laid).forCall (fun _ _ => 0) ⟨#[], #[.string .empty], []⟩) 3 ⟨#[], #[.string .empty], []⟩ = true := kR
theorem lifted (os : Os) (a : os.Started) (H : Type) (c : TypeId × Value → H) (F : Stop.Interp) :
  ReturnsInHanded {} Tryz.checked os 3 .any ((Rows.OpenSpec.upto Rows.driveTellsSpec).preRow c Tryz.prog Tryz.f3 Rows.driveTellsUptoRow.domain false Rows.driveTellsUptoRow.laid) (((Rows.OpenSpec.upto Rows.driveTellsSpec).at F).post c Tryz.prog Tryz.f3 false true false false) := by
 obtain ⟨f, m⟩ := reads os c
 refine returnsInHanded_of_row (C := Tryz.checked) (s := (Rows.OpenSpec.upto Rows.driveTellsSpec)) own a kR Tryz.func3
  ⟨World.laidAll Tryz.prog os Rows.driveTellsRow.laid, fun _ _ => 0, ⟨#[], #[.string .empty], []⟩, World.laidAll_os _ _ _, World.shaped_of_ZipB kR kR, (Input.okWide_of_okWideB (base := 0) (tR os)).1, (Input.okWide_of_okWideB (tR os)).2,
   OpenSpec.preRow_of_cond 8 m kR (fun k g => by cases g; kernel_rfl) kR (laid_met os), by
   simp only [Assume.holds]
   exact ⟨sM, sM, fun _ => Modest.zero, sM, sM⟩⟩ ?_
 intro W base args h i b d l _ g _ j hS _
 exact contract H c W base args h i b d l (g _ rfl) j hS
theorem said : Rows.DriveTellsUptoSaid :=
 OpenClaim.holds_of_cond 3 Tryz.f3 rfl rfl rfl rfl rfl rfl rfl ⟨rfl, rfl, rfl, rfl, rfl⟩ rfl rfl rfl rfl rfl kR Tryz.func3 kR
  (QI kR) (by unfold Func.isWrapper; first | (rw [Qf (by decide +kernel)]; kernel_rfl) | (rw [Qe (by decide +kernel)]; exact ⟨rfl, rfl⟩))
  (fun os a H b _ F => by rw [OpenClaim.pre_eq_preRow]; exact lifted os a H b F)
theorem plain (f : FuncId) (a : Func) (d : Tryz.pinned.checked.prog.funcNamed "roundelay/roundelaykeep.DriveTells" = some f) (b : Tryz.pinned.checked.prog.funcs[f]? = some a) :
  true = Tryz.pinned.checked.prog.looks [] ∧ ∀ (j : Nat) t, a.params[j]? = some t → Tryz.pinned.checked.prog.wantsStandIn t = false := by
 obtain rfl : f = 3 := QD ((show Tryz.prog.funcNamed "roundelay/roundelaykeep.DriveTells" = some 3 by kernel_rfl).symm.trans d) |>.symm
 obtain rfl : a = Tryz.f3 := (QD (Tryz.func3.symm.trans b)).symm
 refine ⟨by kernel_rfl, fun j t c => ?_⟩
 rw [Tryz.params3] at c
 obtain rfl : t = 9 := by simpa using Array.mem_of_getElem? c
 exact (show Tryz.prog.wantsStandIn 9 = false by kernel_rfl)
end Go.Proofs.YtjlfcbccpcigeacGreatDoor.driveTells
namespace Go.Proofs.YtjlfcbccpcigeacGreatDoor
theorem driveTellsUpto_holds : Rows.DriveTellsUptoCardSaid :=
 Claim7.holds_tied_plain_at .later [] _ _ _ _ driveTells.said (fun _ h => by cases h) kR (fun _ h => by cases h) driveTellsUpto_row_tie rfl ⟨rfl, rfl⟩ kR rfl driveTells.plain kR
end Go.Proofs.YtjlfcbccpcigeacGreatDoor
