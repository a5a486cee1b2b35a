/-
  DERIVED. GIVEN WITH THE SEED: THE PROGRAM's TIES (one call each: nine closed facts by the kernel) AND EACH ROW's TIE, after the 31st guide's Derived/Test/Toyas{Tie, Card}.lean. No idea stands in it: it is a product of the set-up. Laid BY PROGRAM, IN A SANDBOX (cutbox-door.mjs). By AI agents, Wed Nov 11 2026. No macro, syntax, notation, axiom, sorry.
-/
import Derived.Test.YtglifkfkcepllabDoorRows
import Derived.LaidByTextLater
import Derived.SevenTiedAt
import Derived.LaidSub
import Derived.LaidOnce
namespace Go.Proofs.YtglifkfkcepllabDoor
open Go
set_option maxRecDepth 100000
theorem seatTie1 : Tryd.prog.laidByTextLater [("wardmote/field.primeP", Rows.laid_wardmote_field_primeP), ("wardmote/field.primeQ", Rows.laid_wardmote_field_primeQ), ("wardmote/field.rootPower", Rows.laid_wardmote_field_rootPower)] [.data, .data, .data] true :=
  Program.laidByTextLater_by_one 24 8 5 (by kernel_rfl) (by kernel_rfl) (by kernel_rfl) (by kernel_rfl) (by kernel_rfl) (by kernel_rfl) (fun _ _ => by kernel_rfl)
theorem noOwnUnsafe : Tryd.pinned.checked.prog.headLifts.contains "ownunsafe" = false := by kernel_rfl
theorem tie : Tryd.prog.laidByTextLater [("wardmote/field.primeP", Rows.laid_wardmote_field_primeP), ("wardmote/field.primeQ", Rows.laid_wardmote_field_primeQ), ("wardmote/field.rootPower", Rows.laid_wardmote_field_rootPower)] [.data, .data, .data] true :=
  Program.laidByTextLater.sub seatTie1 ["wardmote/field.primeP", "wardmote/field.primeQ", "wardmote/field.rootPower"] (by kernel_rfl) (by kernel_rfl)
theorem fieldRoots_row_tie : Rows.fieldRootsRow.laidByTextAt .later Tryd.pinned [.data, .data, .data] true :=
  OpenClaim.laidByTextAt_later rfl rfl tie noOwnUnsafe
theorem fieldNegs_row_tie : Rows.fieldNegsRow.laidByTextAt .later Tryd.pinned [.data, .data, .data] true :=
  OpenClaim.laidByTextAt_later rfl rfl tie noOwnUnsafe
theorem tie2 : Tryd.prog.laidByTextLater [("wardmote/field.primeP", Rows.laid_wardmote_field_primeP), ("wardmote/field.rootPower", Rows.laid_wardmote_field_rootPower)] [.data, .data] true :=
  Program.laidByTextLater.sub seatTie1 ["wardmote/field.primeP", "wardmote/field.rootPower"] (by kernel_rfl) (by kernel_rfl)
theorem fieldNil_row_tie : Rows.fieldNilRow.laidByTextAt .later Tryd.pinned [.data, .data] true :=
  OpenClaim.laidByTextAt_later rfl rfl tie2 noOwnUnsafe
theorem fieldRootsUpto_row_tie : Rows.fieldRootsUptoRow.laidByTextAt .later Tryd.pinned [.data, .data, .data] true :=
  OpenClaim.laidByTextAt_later rfl rfl tie noOwnUnsafe
theorem fieldNilUpto_row_tie : Rows.fieldNilUptoRow.laidByTextAt .later Tryd.pinned [.data, .data] true :=
  OpenClaim.laidByTextAt_later rfl rfl tie2 noOwnUnsafe
theorem fieldNegsUpto_row_tie : Rows.fieldNegsUptoRow.laidByTextAt .later Tryd.pinned [.data, .data, .data] true :=
  OpenClaim.laidByTextAt_later rfl rfl tie noOwnUnsafe
end Go.Proofs.YtglifkfkcepllabDoor
