/-
  DERIVED. GIVEN WITH THE SEED: THE CARDS: each row of YtfkpbcionlidaaaDoorRows.lean that lists a variable, with what it lists TIED to the program's text (the seventh form; the later family's looks); each row that meets fmt, with fmt's text TOLD by the authors' own Lean function (tested against real Go, not proved from fmt's source: count such statements apart). THE CARD IS WHAT COUNTS. Prove the row's statement (the work); the ties are given (YtfkpbcionlidaaaDoorTie.lean); close each card by the builder's one call (the guide's Derived/Test/ToyasCard.lean, 'card_holds'). Laid BY PROGRAM, IN A SANDBOX (cutbox-door.mjs). By AI agents, Wed Nov 11 2026. No macro, syntax, notation, axiom, sorry.
-/
import Derived.Test.YtfkpbcionlidaaaDoorRows
import GoSem.ClaimSeven
namespace Go.Proofs.YtfkpbcionlidaaaDoor
namespace Rows

/-- THE TIED CARD OF 'wardmotelaw07.FeldSums'. -/
def feldSumsCard : Claim7 := { stood := { row := feldSumsRow, standIns := [], harness := (true, "2d5c6380e20e965e248e8a53d704430359881f5af61d6d91e174bf40a21a6f59"), looks := false }, kinds := [], alts := [], laidByText := true, laidKinds := [.data, .data, .data, .data, .data], laidTests := true, laidLooks := .later }
def FeldSumsCardSaid : Prop := Claim7.holds Tryd.pinned (.plain (OpenSpec.ofChange feldSumsSpec)) feldSumsCard

/-- THE TIED CARD OF 'wardmotelaw07.FeldAdds'. -/
def feldAddsCard : Claim7 := { stood := { row := feldAddsRow, standIns := [], harness := (true, "2d5c6380e20e965e248e8a53d704430359881f5af61d6d91e174bf40a21a6f59"), looks := false }, kinds := [], alts := [], laidByText := true, laidKinds := [.data, .data, .data, .data, .data], laidTests := true, laidLooks := .later }
def FeldAddsCardSaid : Prop := Claim7.holds Tryd.pinned (.plain (OpenSpec.ofChange feldAddsSpec)) feldAddsCard

/-- THE SECOND FORM's CARD OF 'wardmotelaw07.FeldSums'. -/
def feldSumsUptoCard : Claim7 := { stood := { row := feldSumsUptoRow, standIns := [], harness := (true, "2d5c6380e20e965e248e8a53d704430359881f5af61d6d91e174bf40a21a6f59"), looks := false }, kinds := [], alts := [], laidByText := true, laidKinds := [.data, .data, .data, .data, .data], laidTests := true, laidLooks := .later }
def FeldSumsUptoCardSaid : Prop := Claim7.holds Tryd.pinned (.plain (OpenSpec.upto feldSumsSpec)) feldSumsUptoCard

/-- THE SECOND FORM's CARD OF 'wardmotelaw07.FeldAdds'. -/
def feldAddsUptoCard : Claim7 := { stood := { row := feldAddsUptoRow, standIns := [], harness := (true, "2d5c6380e20e965e248e8a53d704430359881f5af61d6d91e174bf40a21a6f59"), looks := false }, kinds := [], alts := [], laidByText := true, laidKinds := [.data, .data, .data, .data, .data], laidTests := true, laidLooks := .later }
def FeldAddsUptoCardSaid : Prop := Claim7.holds Tryd.pinned (.plain (OpenSpec.upto feldAddsSpec)) feldAddsUptoCard
end Rows
end Go.Proofs.YtfkpbcionlidaaaDoor
