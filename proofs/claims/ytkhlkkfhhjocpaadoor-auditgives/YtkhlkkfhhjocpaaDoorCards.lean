/-
  DERIVED. GIVEN WITH THE SEED: THE CARDS: each row of YtkhlkkfhhjocpaaDoorRows.lean that lists a variable, with what it lists TIED to the program's text (the seventh form; the later family's looks); each row that meets fmt, with fmt's text TOLD by the authors' own Lean function (tested against real Go, not proved from fmt's source: count such statements apart). THE CARD IS WHAT COUNTS. Prove the row's statement (the work); the ties are given (YtkhlkkfhhjocpaaDoorTie.lean); close each card by the builder's one call (the guide's Derived/Test/ToyasCard.lean, 'card_holds'). Laid BY PROGRAM, IN A SANDBOX (cutbox-door.mjs). By AI agents, Wed Nov 11 2026. No macro, syntax, notation, axiom, sorry.
-/
import Derived.Test.YtkhlkkfhhjocpaaDoorRows
import GoSem.ClaimSeven
namespace Go.Proofs.YtkhlkkfhhjocpaaDoor
namespace Rows

/-- THE TIED CARD OF 'wardmotelaw28.AuditLeaks'. -/
def auditLeaksCard : Claim7 := { stood := { row := auditLeaksRow, standIns := [], harness := (true, "1edf369adcdd30219f661209f0c44811b15143cbe335eddd32f1444713e4e459"), looks := false }, kinds := [], alts := [], laidByText := true, laidKinds := [.data], laidTests := true, laidLooks := .later }
def AuditLeaksCardSaid : Prop := Claim7.holds Tryd.pinned (.plain (OpenSpec.ofChange auditLeaksSpec)) auditLeaksCard

/-- THE TIED CARD OF 'wardmotelaw28.AuditGives'. -/
def auditGivesCard : Claim7 := { stood := { row := auditGivesRow, standIns := [], harness := (true, "1edf369adcdd30219f661209f0c44811b15143cbe335eddd32f1444713e4e459"), looks := false }, kinds := [], alts := [], laidByText := true, laidKinds := [.data], laidTests := true, laidLooks := .later }
def AuditGivesCardSaid : Prop := Claim7.holds Tryd.pinned (.plain (OpenSpec.ofChange auditGivesSpec)) auditGivesCard

/-- THE SECOND FORM's CARD OF 'wardmotelaw28.AuditLeaks'. -/
def auditLeaksUptoCard : Claim7 := { stood := { row := auditLeaksUptoRow, standIns := [], harness := (true, "1edf369adcdd30219f661209f0c44811b15143cbe335eddd32f1444713e4e459"), looks := false }, kinds := [], alts := [], laidByText := true, laidKinds := [.data], laidTests := true, laidLooks := .later }
def AuditLeaksUptoCardSaid : Prop := Claim7.holds Tryd.pinned (.plain (OpenSpec.upto auditLeaksSpec)) auditLeaksUptoCard

/-- THE SECOND FORM's CARD OF 'wardmotelaw28.AuditGives'. -/
def auditGivesUptoCard : Claim7 := { stood := { row := auditGivesUptoRow, standIns := [], harness := (true, "1edf369adcdd30219f661209f0c44811b15143cbe335eddd32f1444713e4e459"), looks := false }, kinds := [], alts := [], laidByText := true, laidKinds := [.data], laidTests := true, laidLooks := .later }
def AuditGivesUptoCardSaid : Prop := Claim7.holds Tryd.pinned (.plain (OpenSpec.upto auditGivesSpec)) auditGivesUptoCard
end Rows
end Go.Proofs.YtkhlkkfhhjocpaaDoor
