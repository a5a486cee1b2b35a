/-
  DERIVED. GIVEN WITH THE SEED: THE PROGRAM's TIES (one call each: nine closed facts by the kernel) AND EACH ROW's TIE, after the 31st guide's Derived/Test/Toyas{Tie, Card}.lean. No idea stands in it: it is a product of the set-up. Laid BY PROGRAM, IN A SANDBOX (cutbox-door.mjs). By AI agents, Wed Nov 11 2026. No macro, syntax, notation, axiom, sorry.
-/
import Derived.Test.YtlebhdckgcjacaaGreatDoorRows
import Derived.LaidByTextLater
import Derived.SevenTiedAt
import Derived.LaidSub
import Derived.LaidOnce
namespace Go.Proofs.YtlebhdckgcjacaaGreatDoor
open Go
set_option maxRecDepth 100000
theorem seatTie1 : Tryz.prog.laidByTextLater [("wardmote/digest.squareRoots", Rows.laid_wardmote_digest_squareRoots), ("wardmote/digest.cubeRoots", Rows.laid_wardmote_digest_cubeRoots), ("wardmote/field.primeP", Rows.laid_wardmote_field_primeP), ("wardmote/field.primeQ", Rows.laid_wardmote_field_primeQ), ("wardmote/curve.generatorX", Rows.laid_wardmote_curve_generatorX), ("wardmote/curve.generatorY", Rows.laid_wardmote_curve_generatorY), ("wardmote/curve.threeHalves", Rows.laid_wardmote_curve_threeHalves)] [.data, .data, .data, .data, .data, .data, .data] true :=
  Program.laidByTextLater_by_one 44 8 65 (by kernel_rfl) (by kernel_rfl) (by kernel_rfl) (by kernel_rfl) (by kernel_rfl) (by kernel_rfl) (fun _ _ => by kernel_rfl)
theorem noOwnUnsafe : Tryz.pinned.checked.prog.headLifts.contains "ownunsafe" = false := by kernel_rfl
theorem tie : Tryz.prog.laidByTextLater [("wardmote/digest.squareRoots", Rows.laid_wardmote_digest_squareRoots), ("wardmote/digest.cubeRoots", Rows.laid_wardmote_digest_cubeRoots), ("wardmote/field.primeP", Rows.laid_wardmote_field_primeP), ("wardmote/field.primeQ", Rows.laid_wardmote_field_primeQ), ("wardmote/curve.generatorX", Rows.laid_wardmote_curve_generatorX), ("wardmote/curve.generatorY", Rows.laid_wardmote_curve_generatorY), ("wardmote/curve.threeHalves", Rows.laid_wardmote_curve_threeHalves)] [.data, .data, .data, .data, .data, .data, .data] true :=
  Program.laidByTextLater.sub seatTie1 ["wardmote/digest.squareRoots", "wardmote/digest.cubeRoots", "wardmote/field.primeP", "wardmote/field.primeQ", "wardmote/curve.generatorX", "wardmote/curve.generatorY", "wardmote/curve.threeHalves"] (by kernel_rfl) (by kernel_rfl)
theorem roastNil_row_tie : Rows.roastNilRow.laidByTextAt .later Tryz.pinned [.data, .data, .data, .data, .data, .data, .data] true :=
  OpenClaim.laidByTextAt_later rfl rfl tie noOwnUnsafe
theorem roastNilUpto_row_tie : Rows.roastNilUptoRow.laidByTextAt .later Tryz.pinned [.data, .data, .data, .data, .data, .data, .data] true :=
  OpenClaim.laidByTextAt_later rfl rfl tie noOwnUnsafe
end Go.Proofs.YtlebhdckgcjacaaGreatDoor
