/-
  DERIVED. GIVEN WITH THE SEED: THE CARDS: each row of YtocjeboicofflaaDoorRows.lean that lists a variable, with what it lists TIED to the program's text (the seventh form; the later family's looks); each row that meets fmt, with fmt's text TOLD by the authors' own Lean function (tested against real Go, not proved from fmt's source: count such statements apart). THE CARD IS WHAT COUNTS. Prove the row's statement (the work); the ties are given (YtocjeboicofflaaDoorTie.lean); close each card by the builder's one call (the guide's Derived/Test/ToyasCard.lean, 'card_holds'). Laid BY PROGRAM, IN A SANDBOX (cutbox-door.mjs). By AI agents, Wed Nov 11 2026. No macro, syntax, notation, axiom, sorry.
-/
import Derived.Test.YtocjeboicofflaaDoorRows
import GoSem.ClaimSeven
namespace Go.Proofs.YtocjeboicofflaaDoor
namespace Rows

/-- THE TIED CARD OF 'wardmotelaw07.FeldCommits'. -/
def feldCommitsCard : Claim7 := { stood := { row := feldCommitsRow, standIns := [], harness := (true, "cf74e0343f286e084af05d5ebe2be9b5e1ee657cea4ffb07231a7afc96172f3f"), looks := false }, kinds := [], alts := [], laidByText := true, laidKinds := [.data, .data, .data, .data, .data], laidTests := true, laidLooks := .later }
def FeldCommitsCardSaid : Prop := Claim7.holds Tryd.pinned (.plain (OpenSpec.ofChange feldCommitsSpec)) feldCommitsCard

/-- THE TIED CARD OF 'wardmotelaw07.FeldValues'. -/
def feldValuesCard : Claim7 := { stood := { row := feldValuesRow, standIns := [], harness := (true, "cf74e0343f286e084af05d5ebe2be9b5e1ee657cea4ffb07231a7afc96172f3f"), looks := false }, kinds := [], alts := [], laidByText := true, laidKinds := [.data, .data, .data, .data, .data], laidTests := true, laidLooks := .later }
def FeldValuesCardSaid : Prop := Claim7.holds Tryd.pinned (.plain (OpenSpec.ofChange feldValuesSpec)) feldValuesCard

/-- THE TIED CARD OF 'wardmotelaw07.FeldSums'. -/
def feldSumsCard : Claim7 := { stood := { row := feldSumsRow, standIns := [], harness := (true, "cf74e0343f286e084af05d5ebe2be9b5e1ee657cea4ffb07231a7afc96172f3f"), looks := false }, kinds := [], alts := [], laidByText := true, laidKinds := [.data, .data, .data, .data, .data], laidTests := true, laidLooks := .later }
def FeldSumsCardSaid : Prop := Claim7.holds Tryd.pinned (.plain (OpenSpec.ofChange feldSumsSpec)) feldSumsCard

/-- THE TIED CARD OF 'wardmotelaw07.FeldTells'. -/
def feldTellsCard : Claim7 := { stood := { row := feldTellsRow, standIns := [], harness := (true, "cf74e0343f286e084af05d5ebe2be9b5e1ee657cea4ffb07231a7afc96172f3f"), looks := false }, kinds := [], alts := [], laidByText := true, laidKinds := [.data, .data, .data, .data, .data], laidTests := true, laidLooks := .later }
def FeldTellsCardSaid : Prop := Claim7.holds Tryd.pinned (.plain (OpenSpec.ofChange feldTellsSpec)) feldTellsCard

/-- THE TIED CARD OF 'wardmotelaw07.FeldAdds'. -/
def feldAddsCard : Claim7 := { stood := { row := feldAddsRow, standIns := [], harness := (true, "cf74e0343f286e084af05d5ebe2be9b5e1ee657cea4ffb07231a7afc96172f3f"), looks := false }, kinds := [], alts := [], laidByText := true, laidKinds := [.data, .data, .data, .data, .data], laidTests := true, laidLooks := .later }
def FeldAddsCardSaid : Prop := Claim7.holds Tryd.pinned (.plain (OpenSpec.ofChange feldAddsSpec)) feldAddsCard

/-- THE SECOND FORM's CARD OF 'wardmotelaw07.FeldCommits'. -/
def feldCommitsUptoCard : Claim7 := { stood := { row := feldCommitsUptoRow, standIns := [], harness := (true, "cf74e0343f286e084af05d5ebe2be9b5e1ee657cea4ffb07231a7afc96172f3f"), looks := false }, kinds := [], alts := [], laidByText := true, laidKinds := [.data, .data, .data, .data, .data], laidTests := true, laidLooks := .later }
def FeldCommitsUptoCardSaid : Prop := Claim7.holds Tryd.pinned (.plain (OpenSpec.upto feldCommitsSpec)) feldCommitsUptoCard

/-- THE SECOND FORM's CARD OF 'wardmotelaw07.FeldValues'. -/
def feldValuesUptoCard : Claim7 := { stood := { row := feldValuesUptoRow, standIns := [], harness := (true, "cf74e0343f286e084af05d5ebe2be9b5e1ee657cea4ffb07231a7afc96172f3f"), looks := false }, kinds := [], alts := [], laidByText := true, laidKinds := [.data, .data, .data, .data, .data], laidTests := true, laidLooks := .later }
def FeldValuesUptoCardSaid : Prop := Claim7.holds Tryd.pinned (.plain (OpenSpec.upto feldValuesSpec)) feldValuesUptoCard

/-- THE SECOND FORM's CARD OF 'wardmotelaw07.FeldSums'. -/
def feldSumsUptoCard : Claim7 := { stood := { row := feldSumsUptoRow, standIns := [], harness := (true, "cf74e0343f286e084af05d5ebe2be9b5e1ee657cea4ffb07231a7afc96172f3f"), looks := false }, kinds := [], alts := [], laidByText := true, laidKinds := [.data, .data, .data, .data, .data], laidTests := true, laidLooks := .later }
def FeldSumsUptoCardSaid : Prop := Claim7.holds Tryd.pinned (.plain (OpenSpec.upto feldSumsSpec)) feldSumsUptoCard

/-- THE SECOND FORM's CARD OF 'wardmotelaw07.FeldTells'. -/
def feldTellsUptoCard : Claim7 := { stood := { row := feldTellsUptoRow, standIns := [], harness := (true, "cf74e0343f286e084af05d5ebe2be9b5e1ee657cea4ffb07231a7afc96172f3f"), looks := false }, kinds := [], alts := [], laidByText := true, laidKinds := [.data, .data, .data, .data, .data], laidTests := true, laidLooks := .later }
def FeldTellsUptoCardSaid : Prop := Claim7.holds Tryd.pinned (.plain (OpenSpec.upto feldTellsSpec)) feldTellsUptoCard

/-- THE SECOND FORM's CARD OF 'wardmotelaw07.FeldAdds'. -/
def feldAddsUptoCard : Claim7 := { stood := { row := feldAddsUptoRow, standIns := [], harness := (true, "cf74e0343f286e084af05d5ebe2be9b5e1ee657cea4ffb07231a7afc96172f3f"), looks := false }, kinds := [], alts := [], laidByText := true, laidKinds := [.data, .data, .data, .data, .data], laidTests := true, laidLooks := .later }
def FeldAddsUptoCardSaid : Prop := Claim7.holds Tryd.pinned (.plain (OpenSpec.upto feldAddsSpec)) feldAddsUptoCard
end Rows
end Go.Proofs.YtocjeboicofflaaDoor
