/-
  DERIVED. GIVEN WITH THE SEED: THE PROGRAM's TIES (one call each: nine closed facts by the kernel) AND EACH ROW's TIE, after the 31st guide's Derived/Test/Toyas{Tie, Card}.lean. No idea stands in it: it is a product of the set-up. Laid BY PROGRAM, IN A SANDBOX (cutbox-door.mjs). By AI agents, Wed Nov 11 2026. No macro, syntax, notation, axiom, sorry.
-/
import Derived.Test.YtchphekaonnfeaaDoorRows
import Derived.LaidByTextLater
import Derived.SevenTiedAt
import Derived.LaidSub
import Derived.LaidOnce
namespace Go.Proofs.YtchphekaonnfeaaDoor
open Go
set_option maxRecDepth 100000
theorem seatTie1 : Tryd.prog.laidByTextLater [("wardmote/digest.squareRoots", Rows.laid_wardmote_digest_squareRoots), ("wardmote/digest.cubeRoots", Rows.laid_wardmote_digest_cubeRoots), ("wardmote/field.primeP", Rows.laid_wardmote_field_primeP), ("wardmote/field.primeQ", Rows.laid_wardmote_field_primeQ), ("wardmote/curve.generatorX", Rows.laid_wardmote_curve_generatorX), ("wardmote/curve.generatorY", Rows.laid_wardmote_curve_generatorY), ("wardmote/curve.threeHalves", Rows.laid_wardmote_curve_threeHalves)] [.data, .data, .data, .data, .data, .data, .data] true :=
  Program.laidByTextLater_by_one 44 8 65 (by kernel_rfl) (by kernel_rfl) (by kernel_rfl) (by kernel_rfl) (by kernel_rfl) (by kernel_rfl) (fun _ _ => by kernel_rfl)
theorem noOwnUnsafe : Tryd.pinned.checked.prog.headLifts.contains "ownunsafe" = false := by kernel_rfl
theorem tie : Tryd.prog.laidByTextLater [("wardmote/digest.squareRoots", Rows.laid_wardmote_digest_squareRoots), ("wardmote/digest.cubeRoots", Rows.laid_wardmote_digest_cubeRoots), ("wardmote/field.primeP", Rows.laid_wardmote_field_primeP), ("wardmote/field.primeQ", Rows.laid_wardmote_field_primeQ), ("wardmote/curve.generatorX", Rows.laid_wardmote_curve_generatorX), ("wardmote/curve.generatorY", Rows.laid_wardmote_curve_generatorY), ("wardmote/curve.threeHalves", Rows.laid_wardmote_curve_threeHalves)] [.data, .data, .data, .data, .data, .data, .data] true :=
  Program.laidByTextLater.sub seatTie1 ["wardmote/digest.squareRoots", "wardmote/digest.cubeRoots", "wardmote/field.primeP", "wardmote/field.primeQ", "wardmote/curve.generatorX", "wardmote/curve.generatorY", "wardmote/curve.threeHalves"] (by kernel_rfl) (by kernel_rfl)
theorem schnorrHolds_row_tie : Rows.schnorrHoldsRow.laidByTextAt .later Tryd.pinned [.data, .data, .data, .data, .data, .data, .data] true :=
  OpenClaim.laidByTextAt_later rfl rfl tie noOwnUnsafe
theorem schnorrTells_row_tie : Rows.schnorrTellsRow.laidByTextAt .later Tryd.pinned [.data, .data, .data, .data, .data, .data, .data] true :=
  OpenClaim.laidByTextAt_later rfl rfl tie noOwnUnsafe
theorem schnorrHoldsUpto_row_tie : Rows.schnorrHoldsUptoRow.laidByTextAt .later Tryd.pinned [.data, .data, .data, .data, .data, .data, .data] true :=
  OpenClaim.laidByTextAt_later rfl rfl tie noOwnUnsafe
theorem schnorrTellsUpto_row_tie : Rows.schnorrTellsUptoRow.laidByTextAt .later Tryd.pinned [.data, .data, .data, .data, .data, .data, .data] true :=
  OpenClaim.laidByTextAt_later rfl rfl tie noOwnUnsafe
end Go.Proofs.YtchphekaonnfeaaDoor
