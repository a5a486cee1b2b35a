/-
  DERIVED. GIVEN WITH THE SEED: THE CARDS: each row of YtglifkfkcepllabDoorRows.lean that lists a variable, with what it lists TIED to the program's text (the seventh form; the later family's looks); each row that meets fmt, with fmt's text TOLD by the authors' own Lean function (tested against real Go, not proved from fmt's source: count such statements apart). THE CARD IS WHAT COUNTS. Prove the row's statement (the work); the ties are given (YtglifkfkcepllabDoorTie.lean); close each card by the builder's one call (the guide's Derived/Test/ToyasCard.lean, 'card_holds'). Laid BY PROGRAM, IN A SANDBOX (cutbox-door.mjs). By AI agents, Wed Nov 11 2026. No macro, syntax, notation, axiom, sorry.
-/
import Derived.Test.YtglifkfkcepllabDoorRows
import GoSem.ClaimSeven
namespace Go.Proofs.YtglifkfkcepllabDoor
namespace Rows

/-- THE TIED CARD OF 'wardmotelaw02.FieldRoots'. -/
def fieldRootsCard : Claim7 := { stood := { row := fieldRootsRow, standIns := [], harness := (true, "09828af9828d2d763b0680afd77de0ad27d54756f11163acf0f2e9a691531cb8"), looks := false }, kinds := [], alts := [], laidByText := true, laidKinds := [.data, .data, .data], laidTests := true, laidLooks := .later }
def FieldRootsCardSaid : Prop := Claim7.holds Tryd.pinned (.plain (OpenSpec.ofChange fieldRootsSpec)) fieldRootsCard

/-- THE TIED CARD OF 'wardmotelaw02.FieldNil'. -/
def fieldNilCard : Claim7 := { stood := { row := fieldNilRow, standIns := [], harness := (true, "09828af9828d2d763b0680afd77de0ad27d54756f11163acf0f2e9a691531cb8"), looks := false }, kinds := [], alts := [], laidByText := true, laidKinds := [.data, .data], laidTests := true, laidLooks := .later }
def FieldNilCardSaid : Prop := Claim7.holds Tryd.pinned (.plain (OpenSpec.ofChange fieldNilSpec)) fieldNilCard

/-- THE TIED CARD OF 'wardmotelaw02.FieldNegs'. -/
def fieldNegsCard : Claim7 := { stood := { row := fieldNegsRow, standIns := [], harness := (true, "09828af9828d2d763b0680afd77de0ad27d54756f11163acf0f2e9a691531cb8"), looks := false }, kinds := [], alts := [], laidByText := true, laidKinds := [.data, .data, .data], laidTests := true, laidLooks := .later }
def FieldNegsCardSaid : Prop := Claim7.holds Tryd.pinned (.plain (OpenSpec.ofChange fieldNegsSpec)) fieldNegsCard

/-- THE SECOND FORM's CARD OF 'wardmotelaw02.FieldRoots'. -/
def fieldRootsUptoCard : Claim7 := { stood := { row := fieldRootsUptoRow, standIns := [], harness := (true, "09828af9828d2d763b0680afd77de0ad27d54756f11163acf0f2e9a691531cb8"), looks := false }, kinds := [], alts := [], laidByText := true, laidKinds := [.data, .data, .data], laidTests := true, laidLooks := .later }
def FieldRootsUptoCardSaid : Prop := Claim7.holds Tryd.pinned (.plain (OpenSpec.upto fieldRootsSpec)) fieldRootsUptoCard

/-- THE SECOND FORM's CARD OF 'wardmotelaw02.FieldNil'. -/
def fieldNilUptoCard : Claim7 := { stood := { row := fieldNilUptoRow, standIns := [], harness := (true, "09828af9828d2d763b0680afd77de0ad27d54756f11163acf0f2e9a691531cb8"), looks := false }, kinds := [], alts := [], laidByText := true, laidKinds := [.data, .data], laidTests := true, laidLooks := .later }
def FieldNilUptoCardSaid : Prop := Claim7.holds Tryd.pinned (.plain (OpenSpec.upto fieldNilSpec)) fieldNilUptoCard

/-- THE SECOND FORM's CARD OF 'wardmotelaw02.FieldNegs'. -/
def fieldNegsUptoCard : Claim7 := { stood := { row := fieldNegsUptoRow, standIns := [], harness := (true, "09828af9828d2d763b0680afd77de0ad27d54756f11163acf0f2e9a691531cb8"), looks := false }, kinds := [], alts := [], laidByText := true, laidKinds := [.data, .data, .data], laidTests := true, laidLooks := .later }
def FieldNegsUptoCardSaid : Prop := Claim7.holds Tryd.pinned (.plain (OpenSpec.upto fieldNegsSpec)) fieldNegsUptoCard
end Rows
end Go.Proofs.YtglifkfkcepllabDoor
