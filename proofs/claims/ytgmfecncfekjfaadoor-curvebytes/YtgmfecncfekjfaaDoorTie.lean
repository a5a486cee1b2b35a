/-
  DERIVED. GIVEN WITH THE SEED: THE PROGRAM's TIES (one call each: nine closed facts by the kernel) AND EACH ROW's TIE, after the 31st guide's Derived/Test/Toyas{Tie, Card}.lean. No idea stands in it: it is a product of the set-up. Laid BY PROGRAM, IN A SANDBOX (cutbox-door.mjs). By AI agents, Wed Nov 11 2026. No macro, syntax, notation, axiom, sorry.
-/
import Derived.Test.YtgmfecncfekjfaaDoorRows
import Derived.LaidByTextLater
import Derived.SevenTiedAt
import Derived.LaidSub
import Derived.LaidOnce
namespace Go.Proofs.YtgmfecncfekjfaaDoor
open Go
set_option maxRecDepth 100000
theorem seatTie1 : Tryd.prog.laidByTextLater [("wardmote/field.primeP", Rows.laid_wardmote_field_primeP), ("wardmote/field.primeQ", Rows.laid_wardmote_field_primeQ), ("wardmote/field.rootPower", Rows.laid_wardmote_field_rootPower), ("wardmote/curve.generatorX", Rows.laid_wardmote_curve_generatorX), ("wardmote/curve.generatorY", Rows.laid_wardmote_curve_generatorY), ("wardmote/curve.threeHalves", Rows.laid_wardmote_curve_threeHalves)] [.data, .data, .data, .data, .data, .data] true :=
  Program.laidByTextLater_by_one 39 8 5 (by kernel_rfl) (by kernel_rfl) (by kernel_rfl) (by kernel_rfl) (by kernel_rfl) (by kernel_rfl) (fun _ _ => by kernel_rfl)
theorem noOwnUnsafe : Tryd.pinned.checked.prog.headLifts.contains "ownunsafe" = false := by kernel_rfl
theorem tie : Tryd.prog.laidByTextLater [("wardmote/field.primeP", Rows.laid_wardmote_field_primeP), ("wardmote/curve.generatorX", Rows.laid_wardmote_curve_generatorX), ("wardmote/curve.generatorY", Rows.laid_wardmote_curve_generatorY), ("wardmote/curve.threeHalves", Rows.laid_wardmote_curve_threeHalves)] [.data, .data, .data, .data] true :=
  Program.laidByTextLater.sub seatTie1 ["wardmote/field.primeP", "wardmote/curve.generatorX", "wardmote/curve.generatorY", "wardmote/curve.threeHalves"] (by kernel_rfl) (by kernel_rfl)
theorem curveSums_row_tie : Rows.curveSumsRow.laidByTextAt .later Tryd.pinned [.data, .data, .data, .data] true :=
  OpenClaim.laidByTextAt_later rfl rfl tie noOwnUnsafe
theorem curveGroup_row_tie : Rows.curveGroupRow.laidByTextAt .later Tryd.pinned [.data, .data, .data, .data] true :=
  OpenClaim.laidByTextAt_later rfl rfl tie noOwnUnsafe
theorem tie2 : Tryd.prog.laidByTextLater [("wardmote/field.primeP", Rows.laid_wardmote_field_primeP), ("wardmote/field.primeQ", Rows.laid_wardmote_field_primeQ), ("wardmote/curve.generatorX", Rows.laid_wardmote_curve_generatorX), ("wardmote/curve.generatorY", Rows.laid_wardmote_curve_generatorY), ("wardmote/curve.threeHalves", Rows.laid_wardmote_curve_threeHalves)] [.data, .data, .data, .data, .data] true :=
  Program.laidByTextLater.sub seatTie1 ["wardmote/field.primeP", "wardmote/field.primeQ", "wardmote/curve.generatorX", "wardmote/curve.generatorY", "wardmote/curve.threeHalves"] (by kernel_rfl) (by kernel_rfl)
theorem curveTimes_row_tie : Rows.curveTimesRow.laidByTextAt .later Tryd.pinned [.data, .data, .data, .data, .data] true :=
  OpenClaim.laidByTextAt_later rfl rfl tie2 noOwnUnsafe
theorem curveMany_row_tie : Rows.curveManyRow.laidByTextAt .later Tryd.pinned [.data, .data, .data, .data, .data] true :=
  OpenClaim.laidByTextAt_later rfl rfl tie2 noOwnUnsafe
theorem curveLinear_row_tie : Rows.curveLinearRow.laidByTextAt .later Tryd.pinned [.data, .data, .data, .data, .data] true :=
  OpenClaim.laidByTextAt_later rfl rfl tie2 noOwnUnsafe
theorem tie3 : Tryd.prog.laidByTextLater [("wardmote/field.primeP", Rows.laid_wardmote_field_primeP), ("wardmote/field.rootPower", Rows.laid_wardmote_field_rootPower), ("wardmote/curve.generatorX", Rows.laid_wardmote_curve_generatorX), ("wardmote/curve.generatorY", Rows.laid_wardmote_curve_generatorY), ("wardmote/curve.threeHalves", Rows.laid_wardmote_curve_threeHalves)] [.data, .data, .data, .data, .data] true :=
  Program.laidByTextLater.sub seatTie1 ["wardmote/field.primeP", "wardmote/field.rootPower", "wardmote/curve.generatorX", "wardmote/curve.generatorY", "wardmote/curve.threeHalves"] (by kernel_rfl) (by kernel_rfl)
theorem curveBytes_row_tie : Rows.curveBytesRow.laidByTextAt .later Tryd.pinned [.data, .data, .data, .data, .data] true :=
  OpenClaim.laidByTextAt_later rfl rfl tie3 noOwnUnsafe
theorem curveSumsUpto_row_tie : Rows.curveSumsUptoRow.laidByTextAt .later Tryd.pinned [.data, .data, .data, .data] true :=
  OpenClaim.laidByTextAt_later rfl rfl tie noOwnUnsafe
theorem curveTimesUpto_row_tie : Rows.curveTimesUptoRow.laidByTextAt .later Tryd.pinned [.data, .data, .data, .data, .data] true :=
  OpenClaim.laidByTextAt_later rfl rfl tie2 noOwnUnsafe
theorem curveManyUpto_row_tie : Rows.curveManyUptoRow.laidByTextAt .later Tryd.pinned [.data, .data, .data, .data, .data] true :=
  OpenClaim.laidByTextAt_later rfl rfl tie2 noOwnUnsafe
theorem curveBytesUpto_row_tie : Rows.curveBytesUptoRow.laidByTextAt .later Tryd.pinned [.data, .data, .data, .data, .data] true :=
  OpenClaim.laidByTextAt_later rfl rfl tie3 noOwnUnsafe
theorem curveGroupUpto_row_tie : Rows.curveGroupUptoRow.laidByTextAt .later Tryd.pinned [.data, .data, .data, .data] true :=
  OpenClaim.laidByTextAt_later rfl rfl tie noOwnUnsafe
theorem curveLinearUpto_row_tie : Rows.curveLinearUptoRow.laidByTextAt .later Tryd.pinned [.data, .data, .data, .data, .data] true :=
  OpenClaim.laidByTextAt_later rfl rfl tie2 noOwnUnsafe
end Go.Proofs.YtgmfecncfekjfaaDoor
