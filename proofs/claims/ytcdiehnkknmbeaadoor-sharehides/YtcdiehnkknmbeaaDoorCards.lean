/-
  DERIVED. GIVEN WITH THE SEED: THE CARDS: each row of YtcdiehnkknmbeaaDoorRows.lean that lists a variable, with what it lists TIED to the program's text (the seventh form; the later family's looks); each row that meets fmt, with fmt's text TOLD by the authors' own Lean function (tested against real Go, not proved from fmt's source: count such statements apart). THE CARD IS WHAT COUNTS. Prove the row's statement (the work); the ties are given (YtcdiehnkknmbeaaDoorTie.lean); close each card by the builder's one call (the guide's Derived/Test/ToyasCard.lean, 'card_holds'). Laid BY PROGRAM, IN A SANDBOX (cutbox-door.mjs). By AI agents, Wed Nov 11 2026. No macro, syntax, notation, axiom, sorry.
-/
import Derived.Test.YtcdiehnkknmbeaaDoorRows
import GoSem.ClaimSeven
namespace Go.Proofs.YtcdiehnkknmbeaaDoor
namespace Rows

/-- THE TIED CARD OF 'wardmotelaw06.ShareValues'. -/
def shareValuesCard : Claim7 := { stood := { row := shareValuesRow, standIns := [], harness := (true, "df0ba1e708e49889108539cae6be804751bd9aa67442ba1b71dbf1d8c1c1d31f"), looks := false }, kinds := [], alts := [], laidByText := true, laidKinds := [.data], laidTests := true, laidLooks := .later }
def ShareValuesCardSaid : Prop := Claim7.holds Tryd.pinned (.plain (OpenSpec.ofChange shareValuesSpec)) shareValuesCard

/-- THE TIED CARD OF 'wardmotelaw06.ShareWeights'. -/
def shareWeightsCard : Claim7 := { stood := { row := shareWeightsRow, standIns := [], harness := (true, "df0ba1e708e49889108539cae6be804751bd9aa67442ba1b71dbf1d8c1c1d31f"), looks := false }, kinds := [], alts := [], laidByText := true, laidKinds := [.data], laidTests := true, laidLooks := .later }
def ShareWeightsCardSaid : Prop := Claim7.holds Tryd.pinned (.plain (OpenSpec.ofChange shareWeightsSpec)) shareWeightsCard

/-- THE TIED CARD OF 'wardmotelaw06.ShareJoins'. -/
def shareJoinsCard : Claim7 := { stood := { row := shareJoinsRow, standIns := [], harness := (true, "df0ba1e708e49889108539cae6be804751bd9aa67442ba1b71dbf1d8c1c1d31f"), looks := false }, kinds := [], alts := [], laidByText := true, laidKinds := [.data], laidTests := true, laidLooks := .later }
def ShareJoinsCardSaid : Prop := Claim7.holds Tryd.pinned (.plain (OpenSpec.ofChange shareJoinsSpec)) shareJoinsCard

/-- THE TIED CARD OF 'wardmotelaw06.ShareSums'. -/
def shareSumsCard : Claim7 := { stood := { row := shareSumsRow, standIns := [], harness := (true, "df0ba1e708e49889108539cae6be804751bd9aa67442ba1b71dbf1d8c1c1d31f"), looks := false }, kinds := [], alts := [], laidByText := true, laidKinds := [.data], laidTests := true, laidLooks := .later }
def ShareSumsCardSaid : Prop := Claim7.holds Tryd.pinned (.plain (OpenSpec.ofChange shareSumsSpec)) shareSumsCard

/-- THE TIED CARD OF 'wardmotelaw06.ShareBack'. -/
def shareBackCard : Claim7 := { stood := { row := shareBackRow, standIns := [], harness := (true, "df0ba1e708e49889108539cae6be804751bd9aa67442ba1b71dbf1d8c1c1d31f"), looks := false }, kinds := [], alts := [], laidByText := true, laidKinds := [.data], laidTests := true, laidLooks := .later }
def ShareBackCardSaid : Prop := Claim7.holds Tryd.pinned (.plain (OpenSpec.ofChange shareBackSpec)) shareBackCard

/-- THE TIED CARD OF 'wardmotelaw06.ShareHides'. -/
def shareHidesCard : Claim7 := { stood := { row := shareHidesRow, standIns := [], harness := (true, "df0ba1e708e49889108539cae6be804751bd9aa67442ba1b71dbf1d8c1c1d31f"), looks := false }, kinds := [], alts := [], laidByText := true, laidKinds := [.data], laidTests := true, laidLooks := .later }
def ShareHidesCardSaid : Prop := Claim7.holds Tryd.pinned (.plain (OpenSpec.ofChange shareHidesSpec)) shareHidesCard

/-- THE SECOND FORM's CARD OF 'wardmotelaw06.ShareValues'. -/
def shareValuesUptoCard : Claim7 := { stood := { row := shareValuesUptoRow, standIns := [], harness := (true, "df0ba1e708e49889108539cae6be804751bd9aa67442ba1b71dbf1d8c1c1d31f"), looks := false }, kinds := [], alts := [], laidByText := true, laidKinds := [.data], laidTests := true, laidLooks := .later }
def ShareValuesUptoCardSaid : Prop := Claim7.holds Tryd.pinned (.plain (OpenSpec.upto shareValuesSpec)) shareValuesUptoCard

/-- THE SECOND FORM's CARD OF 'wardmotelaw06.ShareWeights'. -/
def shareWeightsUptoCard : Claim7 := { stood := { row := shareWeightsUptoRow, standIns := [], harness := (true, "df0ba1e708e49889108539cae6be804751bd9aa67442ba1b71dbf1d8c1c1d31f"), looks := false }, kinds := [], alts := [], laidByText := true, laidKinds := [.data], laidTests := true, laidLooks := .later }
def ShareWeightsUptoCardSaid : Prop := Claim7.holds Tryd.pinned (.plain (OpenSpec.upto shareWeightsSpec)) shareWeightsUptoCard

/-- THE SECOND FORM's CARD OF 'wardmotelaw06.ShareJoins'. -/
def shareJoinsUptoCard : Claim7 := { stood := { row := shareJoinsUptoRow, standIns := [], harness := (true, "df0ba1e708e49889108539cae6be804751bd9aa67442ba1b71dbf1d8c1c1d31f"), looks := false }, kinds := [], alts := [], laidByText := true, laidKinds := [.data], laidTests := true, laidLooks := .later }
def ShareJoinsUptoCardSaid : Prop := Claim7.holds Tryd.pinned (.plain (OpenSpec.upto shareJoinsSpec)) shareJoinsUptoCard

/-- THE SECOND FORM's CARD OF 'wardmotelaw06.ShareSums'. -/
def shareSumsUptoCard : Claim7 := { stood := { row := shareSumsUptoRow, standIns := [], harness := (true, "df0ba1e708e49889108539cae6be804751bd9aa67442ba1b71dbf1d8c1c1d31f"), looks := false }, kinds := [], alts := [], laidByText := true, laidKinds := [.data], laidTests := true, laidLooks := .later }
def ShareSumsUptoCardSaid : Prop := Claim7.holds Tryd.pinned (.plain (OpenSpec.upto shareSumsSpec)) shareSumsUptoCard

/-- THE SECOND FORM's CARD OF 'wardmotelaw06.ShareBack'. -/
def shareBackUptoCard : Claim7 := { stood := { row := shareBackUptoRow, standIns := [], harness := (true, "df0ba1e708e49889108539cae6be804751bd9aa67442ba1b71dbf1d8c1c1d31f"), looks := false }, kinds := [], alts := [], laidByText := true, laidKinds := [.data], laidTests := true, laidLooks := .later }
def ShareBackUptoCardSaid : Prop := Claim7.holds Tryd.pinned (.plain (OpenSpec.upto shareBackSpec)) shareBackUptoCard

/-- THE SECOND FORM's CARD OF 'wardmotelaw06.ShareHides'. -/
def shareHidesUptoCard : Claim7 := { stood := { row := shareHidesUptoRow, standIns := [], harness := (true, "df0ba1e708e49889108539cae6be804751bd9aa67442ba1b71dbf1d8c1c1d31f"), looks := false }, kinds := [], alts := [], laidByText := true, laidKinds := [.data], laidTests := true, laidLooks := .later }
def ShareHidesUptoCardSaid : Prop := Claim7.holds Tryd.pinned (.plain (OpenSpec.upto shareHidesSpec)) shareHidesUptoCard
end Rows
end Go.Proofs.YtcdiehnkknmbeaaDoor
