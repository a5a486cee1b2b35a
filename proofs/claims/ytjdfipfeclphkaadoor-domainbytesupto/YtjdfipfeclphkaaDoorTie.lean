/-
  DERIVED. GIVEN WITH THE SEED: THE PROGRAM's TIES (one call each: nine closed facts by the kernel) AND EACH ROW's TIE, after the 31st guide's Derived/Test/Toyas{Tie, Card}.lean. No idea stands in it: it is a product of the set-up. Laid BY PROGRAM, IN A SANDBOX (cutbox-door.mjs). By AI agents, Wed Nov 11 2026. No macro, syntax, notation, axiom, sorry.
-/
import Derived.Test.YtjdfipfeclphkaaDoorRows
import Derived.LaidByTextLater
import Derived.SevenTiedAt
import Derived.LaidSub
import Derived.LaidOnce
namespace Go.Proofs.YtjdfipfeclphkaaDoor
open Go
set_option maxRecDepth 100000
theorem seatTie1 : Tryd.prog.laidByTextLater [("wardmote/digest.squareRoots", Rows.laid_wardmote_digest_squareRoots), ("wardmote/digest.cubeRoots", Rows.laid_wardmote_digest_cubeRoots), ("wardmote/field.primeQ", Rows.laid_wardmote_field_primeQ)] [.data, .data, .data] true :=
  Program.laidByTextLater_by_one 24 8 65 (by kernel_rfl) (by kernel_rfl) (by kernel_rfl) (by kernel_rfl) (by kernel_rfl) (by kernel_rfl) (fun _ _ => by kernel_rfl)
theorem noOwnUnsafe : Tryd.pinned.checked.prog.headLifts.contains "ownunsafe" = false := by kernel_rfl
theorem tie : Tryd.prog.laidByTextLater [("wardmote/digest.squareRoots", Rows.laid_wardmote_digest_squareRoots), ("wardmote/digest.cubeRoots", Rows.laid_wardmote_digest_cubeRoots), ("wardmote/field.primeQ", Rows.laid_wardmote_field_primeQ)] [.data, .data, .data] true :=
  Program.laidByTextLater.sub seatTie1 ["wardmote/digest.squareRoots", "wardmote/digest.cubeRoots", "wardmote/field.primeQ"] (by kernel_rfl) (by kernel_rfl)
theorem domainBytes_row_tie : Rows.domainBytesRow.laidByTextAt .later Tryd.pinned [.data, .data, .data] true :=
  OpenClaim.laidByTextAt_later rfl rfl tie noOwnUnsafe
theorem domainDraws_row_tie : Rows.domainDrawsRow.laidByTextAt .later Tryd.pinned [.data, .data, .data] true :=
  OpenClaim.laidByTextAt_later rfl rfl tie noOwnUnsafe
theorem tie2 : Tryd.prog.laidByTextLater [("wardmote/digest.squareRoots", Rows.laid_wardmote_digest_squareRoots), ("wardmote/digest.cubeRoots", Rows.laid_wardmote_digest_cubeRoots)] [.data, .data] true :=
  Program.laidByTextLater.sub seatTie1 ["wardmote/digest.squareRoots", "wardmote/digest.cubeRoots"] (by kernel_rfl) (by kernel_rfl)
theorem domainApart_row_tie : Rows.domainApartRow.laidByTextAt .later Tryd.pinned [.data, .data] true :=
  OpenClaim.laidByTextAt_later rfl rfl tie2 noOwnUnsafe
theorem domainBytesUpto_row_tie : Rows.domainBytesUptoRow.laidByTextAt .later Tryd.pinned [.data, .data, .data] true :=
  OpenClaim.laidByTextAt_later rfl rfl tie noOwnUnsafe
theorem domainDrawsUpto_row_tie : Rows.domainDrawsUptoRow.laidByTextAt .later Tryd.pinned [.data, .data, .data] true :=
  OpenClaim.laidByTextAt_later rfl rfl tie noOwnUnsafe
theorem domainApartUpto_row_tie : Rows.domainApartUptoRow.laidByTextAt .later Tryd.pinned [.data, .data] true :=
  OpenClaim.laidByTextAt_later rfl rfl tie2 noOwnUnsafe
end Go.Proofs.YtjdfipfeclphkaaDoor
