/-
  DERIVED. GIVEN WITH THE SEED: THE CARDS: each row of YtienklnigigepaaGreatDoorRows.lean that lists a variable, with what it lists TIED to the program's text (the seventh form; the later family's looks); each row that meets fmt, with fmt's text TOLD by the authors' own Lean function (tested against real Go, not proved from fmt's source: count such statements apart). THE CARD IS WHAT COUNTS. Prove the row's statement (the work); the ties are given (YtienklnigigepaaGreatDoorTie.lean); close each card by the builder's one call (the guide's Derived/Test/ToyasCard.lean, 'card_holds'). Laid BY PROGRAM, IN A SANDBOX (cutbox-door.mjs). By AI agents, Wed Nov 11 2026. No macro, syntax, notation, axiom, sorry.
-/
import Derived.Test.YtienklnigigepaaGreatDoorRows
import GoSem.ClaimSeven
namespace Go.Proofs.YtienklnigigepaaGreatDoor
namespace Rows

/-- THE TIED CARD OF 'wardmotelaw17.DkgNil'. -/
def dkgNilCard : Claim7 := { stood := { row := dkgNilRow, standIns := [], harness := (true, "84844f9ccdf3ba6aa7d88da0657d9f3d1a8e5bb040f7be1671c60be837ee9980"), looks := false }, kinds := [], alts := [], laidByText := true, laidKinds := [.data, .data, .data, .data, .data, .data, .data, .data], laidTests := true, laidLooks := .later }
def DkgNilCardSaid : Prop := Claim7.holds Tryz.pinned (.plain (OpenSpec.ofChange dkgNilSpec)) dkgNilCard

/-- THE SECOND FORM's CARD OF 'wardmotelaw17.DkgNil'. -/
def dkgNilUptoCard : Claim7 := { stood := { row := dkgNilUptoRow, standIns := [], harness := (true, "84844f9ccdf3ba6aa7d88da0657d9f3d1a8e5bb040f7be1671c60be837ee9980"), looks := false }, kinds := [], alts := [], laidByText := true, laidKinds := [.data, .data, .data, .data, .data, .data, .data, .data], laidTests := true, laidLooks := .later }
def DkgNilUptoCardSaid : Prop := Claim7.holds Tryz.pinned (.plain (OpenSpec.upto dkgNilSpec)) dkgNilUptoCard
end Rows
end Go.Proofs.YtienklnigigepaaGreatDoor
