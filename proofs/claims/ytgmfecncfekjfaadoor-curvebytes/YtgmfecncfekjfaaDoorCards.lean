/-
  DERIVED. GIVEN WITH THE SEED: THE CARDS: each row of YtgmfecncfekjfaaDoorRows.lean that lists a variable, with what it lists TIED to the program's text (the seventh form; the later family's looks); each row that meets fmt, with fmt's text TOLD by the authors' own Lean function (tested against real Go, not proved from fmt's source: count such statements apart). THE CARD IS WHAT COUNTS. Prove the row's statement (the work); the ties are given (YtgmfecncfekjfaaDoorTie.lean); close each card by the builder's one call (the guide's Derived/Test/ToyasCard.lean, 'card_holds'). Laid BY PROGRAM, IN A SANDBOX (cutbox-door.mjs). By AI agents, Wed Nov 11 2026. No macro, syntax, notation, axiom, sorry.
-/
import Derived.Test.YtgmfecncfekjfaaDoorRows
import GoSem.ClaimSeven
namespace Go.Proofs.YtgmfecncfekjfaaDoor
namespace Rows

/-- THE TIED CARD OF 'wardmotelaw03.CurveSums'. -/
def curveSumsCard : Claim7 := { stood := { row := curveSumsRow, standIns := [], harness := (true, "6f3a6a3fb173d1a4b973427514be2b0ef6a4d1d86e3f8f1ed0df752cc36d3a74"), looks := false }, kinds := [], alts := [], laidByText := true, laidKinds := [.data, .data, .data, .data], laidTests := true, laidLooks := .later }
def CurveSumsCardSaid : Prop := Claim7.holds Tryd.pinned (.plain (OpenSpec.ofChange curveSumsSpec)) curveSumsCard

/-- THE TIED CARD OF 'wardmotelaw03.CurveTimes'. -/
def curveTimesCard : Claim7 := { stood := { row := curveTimesRow, standIns := [], harness := (true, "6f3a6a3fb173d1a4b973427514be2b0ef6a4d1d86e3f8f1ed0df752cc36d3a74"), looks := false }, kinds := [], alts := [], laidByText := true, laidKinds := [.data, .data, .data, .data, .data], laidTests := true, laidLooks := .later }
def CurveTimesCardSaid : Prop := Claim7.holds Tryd.pinned (.plain (OpenSpec.ofChange curveTimesSpec)) curveTimesCard

/-- THE TIED CARD OF 'wardmotelaw03.CurveMany'. -/
def curveManyCard : Claim7 := { stood := { row := curveManyRow, standIns := [], harness := (true, "6f3a6a3fb173d1a4b973427514be2b0ef6a4d1d86e3f8f1ed0df752cc36d3a74"), looks := false }, kinds := [], alts := [], laidByText := true, laidKinds := [.data, .data, .data, .data, .data], laidTests := true, laidLooks := .later }
def CurveManyCardSaid : Prop := Claim7.holds Tryd.pinned (.plain (OpenSpec.ofChange curveManySpec)) curveManyCard

/-- THE TIED CARD OF 'wardmotelaw03.CurveBytes'. -/
def curveBytesCard : Claim7 := { stood := { row := curveBytesRow, standIns := [], harness := (true, "6f3a6a3fb173d1a4b973427514be2b0ef6a4d1d86e3f8f1ed0df752cc36d3a74"), looks := false }, kinds := [], alts := [], laidByText := true, laidKinds := [.data, .data, .data, .data, .data], laidTests := true, laidLooks := .later }
def CurveBytesCardSaid : Prop := Claim7.holds Tryd.pinned (.plain (OpenSpec.ofChange curveBytesSpec)) curveBytesCard

/-- THE TIED CARD OF 'wardmotelaw03.CurveGroup'. -/
def curveGroupCard : Claim7 := { stood := { row := curveGroupRow, standIns := [], harness := (true, "6f3a6a3fb173d1a4b973427514be2b0ef6a4d1d86e3f8f1ed0df752cc36d3a74"), looks := false }, kinds := [], alts := [], laidByText := true, laidKinds := [.data, .data, .data, .data], laidTests := true, laidLooks := .later }
def CurveGroupCardSaid : Prop := Claim7.holds Tryd.pinned (.plain (OpenSpec.ofChange curveGroupSpec)) curveGroupCard

/-- THE TIED CARD OF 'wardmotelaw03.CurveLinear'. -/
def curveLinearCard : Claim7 := { stood := { row := curveLinearRow, standIns := [], harness := (true, "6f3a6a3fb173d1a4b973427514be2b0ef6a4d1d86e3f8f1ed0df752cc36d3a74"), looks := false }, kinds := [], alts := [], laidByText := true, laidKinds := [.data, .data, .data, .data, .data], laidTests := true, laidLooks := .later }
def CurveLinearCardSaid : Prop := Claim7.holds Tryd.pinned (.plain (OpenSpec.ofChange curveLinearSpec)) curveLinearCard

/-- THE SECOND FORM's CARD OF 'wardmotelaw03.CurveSums'. -/
def curveSumsUptoCard : Claim7 := { stood := { row := curveSumsUptoRow, standIns := [], harness := (true, "6f3a6a3fb173d1a4b973427514be2b0ef6a4d1d86e3f8f1ed0df752cc36d3a74"), looks := false }, kinds := [], alts := [], laidByText := true, laidKinds := [.data, .data, .data, .data], laidTests := true, laidLooks := .later }
def CurveSumsUptoCardSaid : Prop := Claim7.holds Tryd.pinned (.plain (OpenSpec.upto curveSumsSpec)) curveSumsUptoCard

/-- THE SECOND FORM's CARD OF 'wardmotelaw03.CurveTimes'. -/
def curveTimesUptoCard : Claim7 := { stood := { row := curveTimesUptoRow, standIns := [], harness := (true, "6f3a6a3fb173d1a4b973427514be2b0ef6a4d1d86e3f8f1ed0df752cc36d3a74"), looks := false }, kinds := [], alts := [], laidByText := true, laidKinds := [.data, .data, .data, .data, .data], laidTests := true, laidLooks := .later }
def CurveTimesUptoCardSaid : Prop := Claim7.holds Tryd.pinned (.plain (OpenSpec.upto curveTimesSpec)) curveTimesUptoCard

/-- THE SECOND FORM's CARD OF 'wardmotelaw03.CurveMany'. -/
def curveManyUptoCard : Claim7 := { stood := { row := curveManyUptoRow, standIns := [], harness := (true, "6f3a6a3fb173d1a4b973427514be2b0ef6a4d1d86e3f8f1ed0df752cc36d3a74"), looks := false }, kinds := [], alts := [], laidByText := true, laidKinds := [.data, .data, .data, .data, .data], laidTests := true, laidLooks := .later }
def CurveManyUptoCardSaid : Prop := Claim7.holds Tryd.pinned (.plain (OpenSpec.upto curveManySpec)) curveManyUptoCard

/-- THE SECOND FORM's CARD OF 'wardmotelaw03.CurveBytes'. -/
def curveBytesUptoCard : Claim7 := { stood := { row := curveBytesUptoRow, standIns := [], harness := (true, "6f3a6a3fb173d1a4b973427514be2b0ef6a4d1d86e3f8f1ed0df752cc36d3a74"), looks := false }, kinds := [], alts := [], laidByText := true, laidKinds := [.data, .data, .data, .data, .data], laidTests := true, laidLooks := .later }
def CurveBytesUptoCardSaid : Prop := Claim7.holds Tryd.pinned (.plain (OpenSpec.upto curveBytesSpec)) curveBytesUptoCard

/-- THE SECOND FORM's CARD OF 'wardmotelaw03.CurveGroup'. -/
def curveGroupUptoCard : Claim7 := { stood := { row := curveGroupUptoRow, standIns := [], harness := (true, "6f3a6a3fb173d1a4b973427514be2b0ef6a4d1d86e3f8f1ed0df752cc36d3a74"), looks := false }, kinds := [], alts := [], laidByText := true, laidKinds := [.data, .data, .data, .data], laidTests := true, laidLooks := .later }
def CurveGroupUptoCardSaid : Prop := Claim7.holds Tryd.pinned (.plain (OpenSpec.upto curveGroupSpec)) curveGroupUptoCard

/-- THE SECOND FORM's CARD OF 'wardmotelaw03.CurveLinear'. -/
def curveLinearUptoCard : Claim7 := { stood := { row := curveLinearUptoRow, standIns := [], harness := (true, "6f3a6a3fb173d1a4b973427514be2b0ef6a4d1d86e3f8f1ed0df752cc36d3a74"), looks := false }, kinds := [], alts := [], laidByText := true, laidKinds := [.data, .data, .data, .data, .data], laidTests := true, laidLooks := .later }
def CurveLinearUptoCardSaid : Prop := Claim7.holds Tryd.pinned (.plain (OpenSpec.upto curveLinearSpec)) curveLinearUptoCard
end Rows
end Go.Proofs.YtgmfecncfekjfaaDoor
