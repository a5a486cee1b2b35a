/-
  DERIVED. GIVEN WITH THE SEED: THE CARDS: each row of YtkdejflgmgljiaaDoorRows.lean that lists a variable, with what it lists TIED to the program's text (the seventh form; the later family's looks); each row that meets fmt, with fmt's text TOLD by the authors' own Lean function (tested against real Go, not proved from fmt's source: count such statements apart). THE CARD IS WHAT COUNTS. Prove the row's statement (the work); the ties are given (YtkdejflgmgljiaaDoorTie.lean); close each card by the builder's one call (the guide's Derived/Test/ToyasCard.lean, 'card_holds'). Laid BY PROGRAM, IN A SANDBOX (cutbox-door.mjs). By AI agents, Wed Nov 11 2026. No macro, syntax, notation, axiom, sorry.
-/
import Derived.Test.YtkdejflgmgljiaaDoorRows
import GoSem.ClaimSeven
namespace Go.Proofs.YtkdejflgmgljiaaDoor
namespace Rows

/-- THE TIED CARD OF 'wardmotelaw07.FeldCommits'. -/
def feldCommitsCard : Claim7 := { stood := { row := feldCommitsRow, standIns := [], harness := (true, "c69000073c36f9446496f279761b49919eedc7659dc10729100d2780f0d5e690"), looks := false }, kinds := [], alts := [], laidByText := true, laidKinds := [.data, .data, .data, .data, .data], laidTests := true, laidLooks := .later }
def FeldCommitsCardSaid : Prop := Claim7.holds Tryd.pinned (.plain (OpenSpec.ofChange feldCommitsSpec)) feldCommitsCard

/-- THE TIED CARD OF 'wardmotelaw07.FeldValues'. -/
def feldValuesCard : Claim7 := { stood := { row := feldValuesRow, standIns := [], harness := (true, "c69000073c36f9446496f279761b49919eedc7659dc10729100d2780f0d5e690"), looks := false }, kinds := [], alts := [], laidByText := true, laidKinds := [.data, .data, .data, .data, .data], laidTests := true, laidLooks := .later }
def FeldValuesCardSaid : Prop := Claim7.holds Tryd.pinned (.plain (OpenSpec.ofChange feldValuesSpec)) feldValuesCard

/-- THE SECOND FORM's CARD OF 'wardmotelaw07.FeldCommits'. -/
def feldCommitsUptoCard : Claim7 := { stood := { row := feldCommitsUptoRow, standIns := [], harness := (true, "c69000073c36f9446496f279761b49919eedc7659dc10729100d2780f0d5e690"), looks := false }, kinds := [], alts := [], laidByText := true, laidKinds := [.data, .data, .data, .data, .data], laidTests := true, laidLooks := .later }
def FeldCommitsUptoCardSaid : Prop := Claim7.holds Tryd.pinned (.plain (OpenSpec.upto feldCommitsSpec)) feldCommitsUptoCard

/-- THE SECOND FORM's CARD OF 'wardmotelaw07.FeldValues'. -/
def feldValuesUptoCard : Claim7 := { stood := { row := feldValuesUptoRow, standIns := [], harness := (true, "c69000073c36f9446496f279761b49919eedc7659dc10729100d2780f0d5e690"), looks := false }, kinds := [], alts := [], laidByText := true, laidKinds := [.data, .data, .data, .data, .data], laidTests := true, laidLooks := .later }
def FeldValuesUptoCardSaid : Prop := Claim7.holds Tryd.pinned (.plain (OpenSpec.upto feldValuesSpec)) feldValuesUptoCard
end Rows
end Go.Proofs.YtkdejflgmgljiaaDoor
