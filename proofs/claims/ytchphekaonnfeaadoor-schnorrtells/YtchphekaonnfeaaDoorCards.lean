/-
  DERIVED. GIVEN WITH THE SEED: THE CARDS: each row of YtchphekaonnfeaaDoorRows.lean that lists a variable, with what it lists TIED to the program's text (the seventh form; the later family's looks); each row that meets fmt, with fmt's text TOLD by the authors' own Lean function (tested against real Go, not proved from fmt's source: count such statements apart). THE CARD IS WHAT COUNTS. Prove the row's statement (the work); the ties are given (YtchphekaonnfeaaDoorTie.lean); close each card by the builder's one call (the guide's Derived/Test/ToyasCard.lean, 'card_holds'). Laid BY PROGRAM, IN A SANDBOX (cutbox-door.mjs). By AI agents, Wed Nov 11 2026. No macro, syntax, notation, axiom, sorry.
-/
import Derived.Test.YtchphekaonnfeaaDoorRows
import GoSem.ClaimSeven
namespace Go.Proofs.YtchphekaonnfeaaDoor
namespace Rows

/-- THE TIED CARD OF 'wardmotelaw08.SchnorrHolds'. -/
def schnorrHoldsCard : Claim7 := { stood := { row := schnorrHoldsRow, standIns := [], harness := (true, "683badf75243669106ca1de370c617b514e84b6d9364fd1f6933c6133d2a6461"), looks := false }, kinds := [], alts := [], laidByText := true, laidKinds := [.data, .data, .data, .data, .data, .data, .data], laidTests := true, laidLooks := .later }
def SchnorrHoldsCardSaid : Prop := Claim7.holds Tryd.pinned (.plain (OpenSpec.ofChange schnorrHoldsSpec)) schnorrHoldsCard

/-- THE TIED CARD OF 'wardmotelaw08.SchnorrTells'. -/
def schnorrTellsCard : Claim7 := { stood := { row := schnorrTellsRow, standIns := [], harness := (true, "683badf75243669106ca1de370c617b514e84b6d9364fd1f6933c6133d2a6461"), looks := false }, kinds := [], alts := [], laidByText := true, laidKinds := [.data, .data, .data, .data, .data, .data, .data], laidTests := true, laidLooks := .later }
def SchnorrTellsCardSaid : Prop := Claim7.holds Tryd.pinned (.plain (OpenSpec.ofChange schnorrTellsSpec)) schnorrTellsCard

/-- THE SECOND FORM's CARD OF 'wardmotelaw08.SchnorrHolds'. -/
def schnorrHoldsUptoCard : Claim7 := { stood := { row := schnorrHoldsUptoRow, standIns := [], harness := (true, "683badf75243669106ca1de370c617b514e84b6d9364fd1f6933c6133d2a6461"), looks := false }, kinds := [], alts := [], laidByText := true, laidKinds := [.data, .data, .data, .data, .data, .data, .data], laidTests := true, laidLooks := .later }
def SchnorrHoldsUptoCardSaid : Prop := Claim7.holds Tryd.pinned (.plain (OpenSpec.upto schnorrHoldsSpec)) schnorrHoldsUptoCard

/-- THE SECOND FORM's CARD OF 'wardmotelaw08.SchnorrTells'. -/
def schnorrTellsUptoCard : Claim7 := { stood := { row := schnorrTellsUptoRow, standIns := [], harness := (true, "683badf75243669106ca1de370c617b514e84b6d9364fd1f6933c6133d2a6461"), looks := false }, kinds := [], alts := [], laidByText := true, laidKinds := [.data, .data, .data, .data, .data, .data, .data], laidTests := true, laidLooks := .later }
def SchnorrTellsUptoCardSaid : Prop := Claim7.holds Tryd.pinned (.plain (OpenSpec.upto schnorrTellsSpec)) schnorrTellsUptoCard
end Rows
end Go.Proofs.YtchphekaonnfeaaDoor
