/-
  DERIVED. GIVEN WITH THE SEED: THE CARDS: each row of YtbpgiijdcagckaaDoorRows.lean that lists a variable, with what it lists TIED to the program's text (the seventh form; the later family's looks); each row that meets fmt, with fmt's text TOLD by the authors' own Lean function (tested against real Go, not proved from fmt's source: count such statements apart). THE CARD IS WHAT COUNTS. Prove the row's statement (the work); the ties are given (YtbpgiijdcagckaaDoorTie.lean); close each card by the builder's one call (the guide's Derived/Test/ToyasCard.lean, 'card_holds'). Laid BY PROGRAM, IN A SANDBOX (cutbox-door.mjs). By AI agents, Wed Nov 11 2026. No macro, syntax, notation, axiom, sorry.
-/
import Derived.Test.YtbpgiijdcagckaaDoorRows
import GoSem.ClaimSeven
namespace Go.Proofs.YtbpgiijdcagckaaDoor
namespace Rows

/-- THE TIED CARD OF 'wardmotelaw28.AuditTwice'. -/
def auditTwiceCard : Claim7 := { stood := { row := auditTwiceRow, standIns := [], harness := (true, "7d8f2641c072ab593f4bb9da63def8b67ecae7032159e451383835c5926fe88e"), looks := false }, kinds := [], alts := [], laidByText := true, laidKinds := [.data], laidTests := true, laidLooks := .later }
def AuditTwiceCardSaid : Prop := Claim7.holds Tryd.pinned (.plain (OpenSpec.ofChange auditTwiceSpec)) auditTwiceCard

/-- THE TIED CARD OF 'wardmotelaw28.AuditFinds'. -/
def auditFindsCard : Claim7 := { stood := { row := auditFindsRow, standIns := [], harness := (true, "7d8f2641c072ab593f4bb9da63def8b67ecae7032159e451383835c5926fe88e"), looks := false }, kinds := [], alts := [], laidByText := true, laidKinds := [.data], laidTests := true, laidLooks := .later }
def AuditFindsCardSaid : Prop := Claim7.holds Tryd.pinned (.plain (OpenSpec.ofChange auditFindsSpec)) auditFindsCard

/-- THE SECOND FORM's CARD OF 'wardmotelaw28.AuditTwice'. -/
def auditTwiceUptoCard : Claim7 := { stood := { row := auditTwiceUptoRow, standIns := [], harness := (true, "7d8f2641c072ab593f4bb9da63def8b67ecae7032159e451383835c5926fe88e"), looks := false }, kinds := [], alts := [], laidByText := true, laidKinds := [.data], laidTests := true, laidLooks := .later }
def AuditTwiceUptoCardSaid : Prop := Claim7.holds Tryd.pinned (.plain (OpenSpec.upto auditTwiceSpec)) auditTwiceUptoCard

/-- THE SECOND FORM's CARD OF 'wardmotelaw28.AuditFinds'. -/
def auditFindsUptoCard : Claim7 := { stood := { row := auditFindsUptoRow, standIns := [], harness := (true, "7d8f2641c072ab593f4bb9da63def8b67ecae7032159e451383835c5926fe88e"), looks := false }, kinds := [], alts := [], laidByText := true, laidKinds := [.data], laidTests := true, laidLooks := .later }
def AuditFindsUptoCardSaid : Prop := Claim7.holds Tryd.pinned (.plain (OpenSpec.upto auditFindsSpec)) auditFindsUptoCard
end Rows
end Go.Proofs.YtbpgiijdcagckaaDoor
