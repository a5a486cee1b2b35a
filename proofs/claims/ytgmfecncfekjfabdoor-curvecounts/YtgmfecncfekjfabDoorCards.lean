/-
  DERIVED. GIVEN WITH THE SEED: THE CARDS: each row of YtgmfecncfekjfabDoorRows.lean that lists a variable, with what it lists TIED to the program's text (the seventh form; the later family's looks); each row that meets fmt, with fmt's text TOLD by the authors' own Lean function (tested against real Go, not proved from fmt's source: count such statements apart). THE CARD IS WHAT COUNTS. Prove the row's statement (the work); the ties are given (YtgmfecncfekjfabDoorTie.lean); close each card by the builder's one call (the guide's Derived/Test/ToyasCard.lean, 'card_holds'). Laid BY PROGRAM, IN A SANDBOX (cutbox-door.mjs). By AI agents, Wed Nov 11 2026. No macro, syntax, notation, axiom, sorry.
-/
import Derived.Test.YtgmfecncfekjfabDoorRows
import GoSem.ClaimSeven
namespace Go.Proofs.YtgmfecncfekjfabDoor
namespace Rows

/-- THE TIED CARD OF 'wardmotelaw03.CurveOrder'. -/
def curveOrderCard : Claim7 := { stood := { row := curveOrderRow, standIns := [], harness := (true, "3616a4a03af296a6b05d9eb20b02a8468cc5c9dbd360c5902e46f8f82dc176f9"), looks := false }, kinds := [], alts := [], laidByText := true, laidKinds := [.data, .data, .data, .data, .data], laidTests := true, laidLooks := .later }
def CurveOrderCardSaid : Prop := Claim7.holds Tryd.pinned (.plain (OpenSpec.ofChange curveOrderSpec)) curveOrderCard

/-- THE TIED CARD OF 'wardmotelaw03.CurveCounts'. -/
def curveCountsCard : Claim7 := { stood := { row := curveCountsRow, standIns := [], harness := (true, "3616a4a03af296a6b05d9eb20b02a8468cc5c9dbd360c5902e46f8f82dc176f9"), looks := false }, kinds := [], alts := [], laidByText := true, laidKinds := [.data, .data, .data, .data, .data], laidTests := true, laidLooks := .later }
def CurveCountsCardSaid : Prop := Claim7.holds Tryd.pinned (.plain (OpenSpec.ofChange curveCountsSpec)) curveCountsCard

/-- THE SECOND FORM's CARD OF 'wardmotelaw03.CurveOrder'. -/
def curveOrderUptoCard : Claim7 := { stood := { row := curveOrderUptoRow, standIns := [], harness := (true, "3616a4a03af296a6b05d9eb20b02a8468cc5c9dbd360c5902e46f8f82dc176f9"), looks := false }, kinds := [], alts := [], laidByText := true, laidKinds := [.data, .data, .data, .data, .data], laidTests := true, laidLooks := .later }
def CurveOrderUptoCardSaid : Prop := Claim7.holds Tryd.pinned (.plain (OpenSpec.upto curveOrderSpec)) curveOrderUptoCard

/-- THE SECOND FORM's CARD OF 'wardmotelaw03.CurveCounts'. -/
def curveCountsUptoCard : Claim7 := { stood := { row := curveCountsUptoRow, standIns := [], harness := (true, "3616a4a03af296a6b05d9eb20b02a8468cc5c9dbd360c5902e46f8f82dc176f9"), looks := false }, kinds := [], alts := [], laidByText := true, laidKinds := [.data, .data, .data, .data, .data], laidTests := true, laidLooks := .later }
def CurveCountsUptoCardSaid : Prop := Claim7.holds Tryd.pinned (.plain (OpenSpec.upto curveCountsSpec)) curveCountsUptoCard
end Rows
end Go.Proofs.YtgmfecncfekjfabDoor
