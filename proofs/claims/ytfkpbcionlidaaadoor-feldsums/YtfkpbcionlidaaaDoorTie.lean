/-
  DERIVED. GIVEN WITH THE SEED: THE PROGRAM's TIES (one call each: nine closed facts by the kernel) AND EACH ROW's TIE, after the 31st guide's Derived/Test/Toyas{Tie, Card}.lean. No idea stands in it: it is a product of the set-up. Laid BY PROGRAM, IN A SANDBOX (cutbox-door.mjs). By AI agents, Wed Nov 11 2026. No macro, syntax, notation, axiom, sorry.
-/
import Derived.Test.YtfkpbcionlidaaaDoorRows
import Derived.LaidByTextLater
import Derived.SevenTiedAt
import Derived.LaidSub
import Derived.LaidOnce
namespace Go.Proofs.YtfkpbcionlidaaaDoor
open Go
set_option maxRecDepth 100000
theorem seatTie1 : Tryd.prog.laidByTextLater [("wardmote/field.primeP", Rows.laid_wardmote_field_primeP), ("wardmote/field.primeQ", Rows.laid_wardmote_field_primeQ), ("wardmote/curve.generatorX", Rows.laid_wardmote_curve_generatorX), ("wardmote/curve.generatorY", Rows.laid_wardmote_curve_generatorY), ("wardmote/curve.threeHalves", Rows.laid_wardmote_curve_threeHalves)] [.data, .data, .data, .data, .data] true :=
  Program.laidByTextLater_by_one 34 8 5 (by kernel_rfl) (by kernel_rfl) (by kernel_rfl) (by kernel_rfl) (by kernel_rfl) (by kernel_rfl) (fun _ _ => by kernel_rfl)
theorem noOwnUnsafe : Tryd.pinned.checked.prog.headLifts.contains "ownunsafe" = false := by kernel_rfl
theorem tie : Tryd.prog.laidByTextLater [("wardmote/field.primeP", Rows.laid_wardmote_field_primeP), ("wardmote/field.primeQ", Rows.laid_wardmote_field_primeQ), ("wardmote/curve.generatorX", Rows.laid_wardmote_curve_generatorX), ("wardmote/curve.generatorY", Rows.laid_wardmote_curve_generatorY), ("wardmote/curve.threeHalves", Rows.laid_wardmote_curve_threeHalves)] [.data, .data, .data, .data, .data] true :=
  Program.laidByTextLater.sub seatTie1 ["wardmote/field.primeP", "wardmote/field.primeQ", "wardmote/curve.generatorX", "wardmote/curve.generatorY", "wardmote/curve.threeHalves"] (by kernel_rfl) (by kernel_rfl)
theorem feldSums_row_tie : Rows.feldSumsRow.laidByTextAt .later Tryd.pinned [.data, .data, .data, .data, .data] true :=
  OpenClaim.laidByTextAt_later rfl rfl tie noOwnUnsafe
theorem feldAdds_row_tie : Rows.feldAddsRow.laidByTextAt .later Tryd.pinned [.data, .data, .data, .data, .data] true :=
  OpenClaim.laidByTextAt_later rfl rfl tie noOwnUnsafe
theorem feldSumsUpto_row_tie : Rows.feldSumsUptoRow.laidByTextAt .later Tryd.pinned [.data, .data, .data, .data, .data] true :=
  OpenClaim.laidByTextAt_later rfl rfl tie noOwnUnsafe
theorem feldAddsUpto_row_tie : Rows.feldAddsUptoRow.laidByTextAt .later Tryd.pinned [.data, .data, .data, .data, .data] true :=
  OpenClaim.laidByTextAt_later rfl rfl tie noOwnUnsafe
end Go.Proofs.YtfkpbcionlidaaaDoor
