/-
  DERIVED. GIVEN WITH THE SEED: THE CARDS: each row of YtlebhdckgcjacaaGreatDoorRows.lean that lists a variable, with what it lists TIED to the program's text (the seventh form; the later family's looks); each row that meets fmt, with fmt's text TOLD by the authors' own Lean function (tested against real Go, not proved from fmt's source: count such statements apart). THE CARD IS WHAT COUNTS. Prove the row's statement (the work); the ties are given (YtlebhdckgcjacaaGreatDoorTie.lean); close each card by the builder's one call (the guide's Derived/Test/ToyasCard.lean, 'card_holds'). Laid BY PROGRAM, IN A SANDBOX (cutbox-door.mjs). By AI agents, Wed Nov 11 2026. No macro, syntax, notation, axiom, sorry.
-/
import Derived.Test.YtlebhdckgcjacaaGreatDoorRows
import GoSem.ClaimSeven
namespace Go.Proofs.YtlebhdckgcjacaaGreatDoor
namespace Rows

/-- THE TIED CARD OF 'wardmotelaw21.RoastNil'. -/
def roastNilCard : Claim7 := { stood := { row := roastNilRow, standIns := [], harness := (true, "f16f20c53619f7bc02b228c765244e0b8f15ddfe0990a17f3057c3459e4df9d5"), looks := false }, kinds := [], alts := [], laidByText := true, laidKinds := [.data, .data, .data, .data, .data, .data, .data], laidTests := true, laidLooks := .later }
def RoastNilCardSaid : Prop := Claim7.holds Tryz.pinned (.plain (OpenSpec.ofChange roastNilSpec)) roastNilCard

/-- THE SECOND FORM's CARD OF 'wardmotelaw21.RoastNil'. -/
def roastNilUptoCard : Claim7 := { stood := { row := roastNilUptoRow, standIns := [], harness := (true, "f16f20c53619f7bc02b228c765244e0b8f15ddfe0990a17f3057c3459e4df9d5"), looks := false }, kinds := [], alts := [], laidByText := true, laidKinds := [.data, .data, .data, .data, .data, .data, .data], laidTests := true, laidLooks := .later }
def RoastNilUptoCardSaid : Prop := Claim7.holds Tryz.pinned (.plain (OpenSpec.upto roastNilSpec)) roastNilUptoCard
end Rows
end Go.Proofs.YtlebhdckgcjacaaGreatDoor
