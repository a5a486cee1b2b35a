/-
  DERIVED. GIVEN WITH THE SEED: THE CARDS: each row of YtgkaeinkplcgnaaGreatDoorRows.lean that lists a variable, with what it lists TIED to the program's text (the seventh form; the later family's looks); each row that meets fmt, with fmt's text TOLD by the authors' own Lean function (tested against real Go, not proved from fmt's source: count such statements apart). THE CARD IS WHAT COUNTS. Prove the row's statement (the work); the ties are given (YtgkaeinkplcgnaaGreatDoorTie.lean); close each card by the builder's one call (the guide's Derived/Test/ToyasCard.lean, 'card_holds'). Laid BY PROGRAM, IN A SANDBOX (cutbox-door.mjs). By AI agents, Wed Nov 11 2026. No macro, syntax, notation, axiom, sorry.
-/
import Derived.Test.YtgkaeinkplcgnaaGreatDoorRows
import GoSem.ClaimSeven
namespace Go.Proofs.YtgkaeinkplcgnaaGreatDoor
namespace Rows

/-- THE TIED CARD OF 'wardmotelaw19.SignerNil'. -/
def signerNilCard : Claim7 := { stood := { row := signerNilRow, standIns := [], harness := (true, "61a2a1922d1491f8c5068f938d8dc797d6dc57e75d258c86df2345f0095e449a"), looks := false }, kinds := [], alts := [], laidByText := true, laidKinds := [.data, .data, .data, .data, .data, .data, .data], laidTests := true, laidLooks := .later }
def SignerNilCardSaid : Prop := Claim7.holds Tryz.pinned (.plain (OpenSpec.ofChange signerNilSpec)) signerNilCard

/-- THE SECOND FORM's CARD OF 'wardmotelaw19.SignerNil'. -/
def signerNilUptoCard : Claim7 := { stood := { row := signerNilUptoRow, standIns := [], harness := (true, "61a2a1922d1491f8c5068f938d8dc797d6dc57e75d258c86df2345f0095e449a"), looks := false }, kinds := [], alts := [], laidByText := true, laidKinds := [.data, .data, .data, .data, .data, .data, .data], laidTests := true, laidLooks := .later }
def SignerNilUptoCardSaid : Prop := Claim7.holds Tryz.pinned (.plain (OpenSpec.upto signerNilSpec)) signerNilUptoCard
end Rows
end Go.Proofs.YtgkaeinkplcgnaaGreatDoor
