/-
  DERIVED. GIVEN WITH THE SEED: THE CARDS: each row of YtcdiehnkknmbeabDoorRows.lean that lists a variable, with what it lists TIED to the program's text (the seventh form; the later family's looks); each row that meets fmt, with fmt's text TOLD by the authors' own Lean function (tested against real Go, not proved from fmt's source: count such statements apart). THE CARD IS WHAT COUNTS. Prove the row's statement (the work); the ties are given (YtcdiehnkknmbeabDoorTie.lean); close each card by the builder's one call (the guide's Derived/Test/ToyasCard.lean, 'card_holds'). Laid BY PROGRAM, IN A SANDBOX (cutbox-door.mjs). By AI agents, Wed Nov 11 2026. No macro, syntax, notation, axiom, sorry.
-/
import Derived.Test.YtcdiehnkknmbeabDoorRows
import GoSem.ClaimSeven
namespace Go.Proofs.YtcdiehnkknmbeabDoor
namespace Rows

/-- THE TIED CARD OF 'wardmotelaw06.ShareOnes'. -/
def shareOnesCard : Claim7 := { stood := { row := shareOnesRow, standIns := [], harness := (true, "b650fdd0a585cfd246e2350c155712fefbd2b9290c698cb3f4f3f5ce62eb0c9a"), looks := false }, kinds := [], alts := [], laidByText := true, laidKinds := [.data], laidTests := true, laidLooks := .later }
def ShareOnesCardSaid : Prop := Claim7.holds Tryd.pinned (.plain (OpenSpec.ofChange shareOnesSpec)) shareOnesCard

/-- THE SECOND FORM's CARD OF 'wardmotelaw06.ShareOnes'. -/
def shareOnesUptoCard : Claim7 := { stood := { row := shareOnesUptoRow, standIns := [], harness := (true, "b650fdd0a585cfd246e2350c155712fefbd2b9290c698cb3f4f3f5ce62eb0c9a"), looks := false }, kinds := [], alts := [], laidByText := true, laidKinds := [.data], laidTests := true, laidLooks := .later }
def ShareOnesUptoCardSaid : Prop := Claim7.holds Tryd.pinned (.plain (OpenSpec.upto shareOnesSpec)) shareOnesUptoCard
end Rows
end Go.Proofs.YtcdiehnkknmbeabDoor
