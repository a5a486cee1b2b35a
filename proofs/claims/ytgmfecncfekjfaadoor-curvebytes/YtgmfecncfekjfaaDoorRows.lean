/-
  NARROWER THAN 'FOR EVERY INPUT', by the rows' own cells (each row's printed sentence says how): CurveSums: laid · CurveTimes: laid · CurveMany: laid · CurveBytes: laid · CurveGroup: laid · CurveLinear: laid.
  DERIVED. THE GIVEN ROWS OF THIS SEAT. 6 by the template 'for every input the law returns true; each argument reads behind the call as it read before'; 0 by the template 'total and deterministic' (their statements: YtgmfecncfekjfaaDoorTotals.lean).
  GIVEN WITH THE SEED: the statements are not yours to turn. If you find one false, say at which input.
  Laid BY PROGRAM, IN A SANDBOX (cutbox-rows.mjs): the forced cells as the released guide's own fill.sh prints them over the translation 844ee8828aaf7146… (all of the seat's roots in one cut). By AI agents, Wed Nov 11 2026. No macro, syntax, notation, axiom, sorry.
-/
import Derived.Test.YtgmfecncfekjfaaDoorChecked
import GoSem.Claim
import GoSem.ClaimJoined
import GoSem.ClaimMapViews
import Derived.JoinedTies
import Derived.KernelRfl
namespace Go.Proofs.YtgmfecncfekjfaaDoor
/- THE CELL 'sum', in the pinned program and in every row, IS THE sha256 OF THE DUMP (.gsa) THAT YtgmfecncfekjfaaDoorProg.lean LOADS. Nothing in Lean hashes anything: it is a label: what it is worth is what the hold of that sum in a sandbox is worth. -/
noncomputable def Tryd.pinned : Pinned := { name := "ytgmfecncfekjfaadoor", sum := "844ee8828aaf7146eb2c73eb1a8435d5b3b64e5c7c7ece650d47c0afb4794513", checked := Tryd.checked }
namespace Rows
def none {H : Type} : Left H := { results := [], args := [] }

/- WHAT THE LISTED PACKAGE-LEVEL VARIABLES READ AS WHEN THE CALL BEGINS. Each datum BY PROGRAM (the guide's laid-datum.mjs) off the statement by which the dump's own 'gosem.cut.vars' lays the variable. In a bare row this is a premise. The card (YtgmfecncfekjfaaDoorCards.lean) ties it to the program's text. -/
def laid_wardmote_field_primeP {H : Type} : DataW H := .agg [.lit (.int .u64 18446744069414583343), .lit (.int .u64 18446744073709551615), .lit (.int .u64 18446744073709551615), .lit (.int .u64 18446744073709551615)]
def laid_wardmote_curve_generatorX {H : Type} : DataW H := .agg [.lit (.int .u64 6481385041966929816), .lit (.int .u64 188021827762530521), .lit (.int .u64 6170039885052185351), .lit (.int .u64 8772561819708210092)]
def laid_wardmote_curve_generatorY {H : Type} : DataW H := .agg [.lit (.int .u64 11261198710074299576), .lit (.int .u64 18237243440184513561), .lit (.int .u64 6747795201694173352), .lit (.int .u64 5204712524664259685)]
def laid_wardmote_curve_threeHalves {H : Type} : DataW H := .agg [.lit (.int .u64 18446744071562067481), .lit (.int .u64 18446744073709551615), .lit (.int .u64 18446744073709551615), .lit (.int .u64 9223372036854775807)]
def laid_wardmote_field_primeQ {H : Type} : DataW H := .agg [.lit (.int .u64 13822214165235122497), .lit (.int .u64 13451932020343611451), .lit (.int .u64 18446744073709551614), .lit (.int .u64 18446744073709551615)]
def laid_wardmote_field_rootPower {H : Type} : DataW H := .agg [.lit (.int .u64 18446744072635809548), .lit (.int .u64 18446744073709551615), .lit (.int .u64 18446744073709551615), .lit (.int .u64 4611686018427387903)]

/-- 'wardmotelaw03.CurveSums': WHATEVER THE INPUT: true; the input reads as it did. -/
def curveSumsSpec : ChangeSpec := { name := "curveSums", fn := fun _ => fun
  | [d1, d2] => { results := [.lit (.bool true)], args := [d1, d2] }
  | _ => none }
def curveSumsRow : OpenClaim := { program := "ytgmfecncfekjfaadoor", sum := "844ee8828aaf7146eb2c73eb1a8435d5b3b64e5c7c7ece650d47c0afb4794513", func := "wardmote/wardmotelaw03.CurveSums", spec := "curveSums", inPlace := ["math/bits.Sub64", "math/bits.Add64"], unfollowed := true, recurses := true, named := ["wardmote/field.primeP", "wardmote/curve.threeHalves", "wardmote/curve.generatorX", "wardmote/curve.generatorY"], apart := false, laid := [("wardmote/field.primeP", laid_wardmote_field_primeP), ("wardmote/curve.generatorX", laid_wardmote_curve_generatorX), ("wardmote/curve.generatorY", laid_wardmote_curve_generatorY), ("wardmote/curve.threeHalves", laid_wardmote_curve_threeHalves)] }
def CurveSumsSaid : Prop := curveSumsRow.holds Tryd.pinned (OpenSpec.ofChange curveSumsSpec)

/-- ITS FALSE NEIGHBOUR: 'it returns false'. Refute it at one input. -/
def curveSumsWrong : ChangeSpec := { name := "curveSums", fn := fun _ => fun
  | [d1, d2] => { results := [.lit (.bool false)], args := [d1, d2] }
  | _ => none }
def CurveSumsWrongFalsely : Prop := curveSumsRow.holds Tryd.pinned (OpenSpec.ofChange curveSumsWrong)

/-- 'wardmotelaw03.CurveTimes': WHATEVER THE INPUT: true; the input reads as it did. -/
def curveTimesSpec : ChangeSpec := { name := "curveTimes", fn := fun _ => fun
  | [d1, d2] => { results := [.lit (.bool true)], args := [d1, d2] }
  | _ => none }
def curveTimesRow : OpenClaim := { program := "ytgmfecncfekjfaadoor", sum := "844ee8828aaf7146eb2c73eb1a8435d5b3b64e5c7c7ece650d47c0afb4794513", func := "wardmote/wardmotelaw03.CurveTimes", spec := "curveTimes", inPlace := ["math/bits.Sub64", "math/bits.Add64"], unfollowed := true, recurses := true, named := ["wardmote/field.primeP", "wardmote/field.primeQ", "wardmote/curve.threeHalves", "wardmote/curve.generatorX", "wardmote/curve.generatorY"], apart := false, laid := [("wardmote/field.primeP", laid_wardmote_field_primeP), ("wardmote/field.primeQ", laid_wardmote_field_primeQ), ("wardmote/curve.generatorX", laid_wardmote_curve_generatorX), ("wardmote/curve.generatorY", laid_wardmote_curve_generatorY), ("wardmote/curve.threeHalves", laid_wardmote_curve_threeHalves)] }
def CurveTimesSaid : Prop := curveTimesRow.holds Tryd.pinned (OpenSpec.ofChange curveTimesSpec)

/-- ITS FALSE NEIGHBOUR: 'it returns false'. Refute it at one input. -/
def curveTimesWrong : ChangeSpec := { name := "curveTimes", fn := fun _ => fun
  | [d1, d2] => { results := [.lit (.bool false)], args := [d1, d2] }
  | _ => none }
def CurveTimesWrongFalsely : Prop := curveTimesRow.holds Tryd.pinned (OpenSpec.ofChange curveTimesWrong)

/-- 'wardmotelaw03.CurveMany': WHATEVER THE INPUT: true; the input reads as it did. -/
def curveManySpec : ChangeSpec := { name := "curveMany", fn := fun _ => fun
  | [d1, d2] => { results := [.lit (.bool true)], args := [d1, d2] }
  | _ => none }
def curveManyRow : OpenClaim := { program := "ytgmfecncfekjfaadoor", sum := "844ee8828aaf7146eb2c73eb1a8435d5b3b64e5c7c7ece650d47c0afb4794513", func := "wardmote/wardmotelaw03.CurveMany", spec := "curveMany", inPlace := ["math/bits.Sub64", "math/bits.Add64"], unfollowed := true, recurses := true, named := ["wardmote/curve.generatorX", "wardmote/curve.generatorY", "wardmote/field.primeP", "wardmote/curve.threeHalves", "wardmote/field.primeQ"], apart := false, laid := [("wardmote/field.primeP", laid_wardmote_field_primeP), ("wardmote/field.primeQ", laid_wardmote_field_primeQ), ("wardmote/curve.generatorX", laid_wardmote_curve_generatorX), ("wardmote/curve.generatorY", laid_wardmote_curve_generatorY), ("wardmote/curve.threeHalves", laid_wardmote_curve_threeHalves)] }
def CurveManySaid : Prop := curveManyRow.holds Tryd.pinned (OpenSpec.ofChange curveManySpec)

/-- ITS FALSE NEIGHBOUR: 'it returns false'. Refute it at one input. -/
def curveManyWrong : ChangeSpec := { name := "curveMany", fn := fun _ => fun
  | [d1, d2] => { results := [.lit (.bool false)], args := [d1, d2] }
  | _ => none }
def CurveManyWrongFalsely : Prop := curveManyRow.holds Tryd.pinned (OpenSpec.ofChange curveManyWrong)

/-- 'wardmotelaw03.CurveBytes': WHATEVER THE INPUT: true; the input reads as it did. -/
def curveBytesSpec : ChangeSpec := { name := "curveBytes", fn := fun _ => fun
  | [d1, d2] => { results := [.lit (.bool true)], args := [d1, d2] }
  | _ => none }
def curveBytesRow : OpenClaim := { program := "ytgmfecncfekjfaadoor", sum := "844ee8828aaf7146eb2c73eb1a8435d5b3b64e5c7c7ece650d47c0afb4794513", func := "wardmote/wardmotelaw03.CurveBytes", spec := "curveBytes", inPlace := ["math/bits.Sub64", "math/bits.Add64"], unfollowed := true, recurses := true, named := ["wardmote/field.primeP", "wardmote/field.rootPower", "wardmote/curve.generatorX", "wardmote/curve.generatorY", "wardmote/curve.threeHalves"], apart := false, laid := [("wardmote/field.primeP", laid_wardmote_field_primeP), ("wardmote/field.rootPower", laid_wardmote_field_rootPower), ("wardmote/curve.generatorX", laid_wardmote_curve_generatorX), ("wardmote/curve.generatorY", laid_wardmote_curve_generatorY), ("wardmote/curve.threeHalves", laid_wardmote_curve_threeHalves)] }
def CurveBytesSaid : Prop := curveBytesRow.holds Tryd.pinned (OpenSpec.ofChange curveBytesSpec)

/-- ITS FALSE NEIGHBOUR: 'it returns false'. Refute it at one input. -/
def curveBytesWrong : ChangeSpec := { name := "curveBytes", fn := fun _ => fun
  | [d1, d2] => { results := [.lit (.bool false)], args := [d1, d2] }
  | _ => none }
def CurveBytesWrongFalsely : Prop := curveBytesRow.holds Tryd.pinned (OpenSpec.ofChange curveBytesWrong)

/-- 'wardmotelaw03.CurveGroup': WHATEVER THE INPUT: true; the input reads as it did. -/
def curveGroupSpec : ChangeSpec := { name := "curveGroup", fn := fun _ => fun
  | [d1, d2, d3] => { results := [.lit (.bool true)], args := [d1, d2, d3] }
  | _ => none }
def curveGroupRow : OpenClaim := { program := "ytgmfecncfekjfaadoor", sum := "844ee8828aaf7146eb2c73eb1a8435d5b3b64e5c7c7ece650d47c0afb4794513", func := "wardmote/wardmotelaw03.CurveGroup", spec := "curveGroup", inPlace := ["math/bits.Sub64", "math/bits.Add64"], unfollowed := true, recurses := true, named := ["wardmote/field.primeP", "wardmote/curve.threeHalves", "wardmote/curve.generatorX", "wardmote/curve.generatorY"], apart := false, laid := [("wardmote/field.primeP", laid_wardmote_field_primeP), ("wardmote/curve.generatorX", laid_wardmote_curve_generatorX), ("wardmote/curve.generatorY", laid_wardmote_curve_generatorY), ("wardmote/curve.threeHalves", laid_wardmote_curve_threeHalves)] }
def CurveGroupSaid : Prop := curveGroupRow.holds Tryd.pinned (OpenSpec.ofChange curveGroupSpec)

/-- ITS FALSE NEIGHBOUR: 'it returns false'. Refute it at one input. -/
def curveGroupWrong : ChangeSpec := { name := "curveGroup", fn := fun _ => fun
  | [d1, d2, d3] => { results := [.lit (.bool false)], args := [d1, d2, d3] }
  | _ => none }
def CurveGroupWrongFalsely : Prop := curveGroupRow.holds Tryd.pinned (OpenSpec.ofChange curveGroupWrong)

/-- 'wardmotelaw03.CurveLinear': WHATEVER THE INPUT: true; the input reads as it did. -/
def curveLinearSpec : ChangeSpec := { name := "curveLinear", fn := fun _ => fun
  | [d1, d2, d3] => { results := [.lit (.bool true)], args := [d1, d2, d3] }
  | _ => none }
def curveLinearRow : OpenClaim := { program := "ytgmfecncfekjfaadoor", sum := "844ee8828aaf7146eb2c73eb1a8435d5b3b64e5c7c7ece650d47c0afb4794513", func := "wardmote/wardmotelaw03.CurveLinear", spec := "curveLinear", inPlace := ["math/bits.Add64", "math/bits.Sub64"], unfollowed := true, recurses := true, named := ["wardmote/curve.generatorX", "wardmote/curve.generatorY", "wardmote/field.primeP", "wardmote/curve.threeHalves", "wardmote/field.primeQ"], apart := false, laid := [("wardmote/field.primeP", laid_wardmote_field_primeP), ("wardmote/field.primeQ", laid_wardmote_field_primeQ), ("wardmote/curve.generatorX", laid_wardmote_curve_generatorX), ("wardmote/curve.generatorY", laid_wardmote_curve_generatorY), ("wardmote/curve.threeHalves", laid_wardmote_curve_threeHalves)] }
def CurveLinearSaid : Prop := curveLinearRow.holds Tryd.pinned (OpenSpec.ofChange curveLinearSpec)

/-- ITS FALSE NEIGHBOUR: 'it returns false'. Refute it at one input. -/
def curveLinearWrong : ChangeSpec := { name := "curveLinear", fn := fun _ => fun
  | [d1, d2, d3] => { results := [.lit (.bool false)], args := [d1, d2, d3] }
  | _ => none }
def CurveLinearWrongFalsely : Prop := curveLinearRow.holds Tryd.pinned (OpenSpec.ofChange curveLinearWrong)

/- THE SECOND FORM. 'bulk': how many values and letters a reading holds, each counted each time it is reached (what is shared counts as often as it is met; a slice's spare places count too). A statement '..UptoSaid' is the law's where the arguments, and the package variables that the reading takes, are together of bulk at most 1048576: NARROWER than '..Said'. Prove '..Said' where nothing that the law and all that it calls make is longer than what came in: it says more and counts as full. Else prove '..UptoSaid'. A law counts once. -/
mutual
def uptoBulk {H : Type} : DataW H → Nat
  | .lit (.string bytes) => bytes.length + 1
  | .lit _ => 1
  | .nil => 1
  | .ptr d => uptoBulk d + 1
  | .slice elems spare => uptoBulkAll elems + uptoBulkAll spare + 1
  | .agg parts => uptoBulkAll parts + 1
  | .iface _ d => uptoBulk d + 1
  | .map entries => uptoBulkEntries entries + 1
  | .held _ => 1
def uptoBulkAll {H : Type} : List (DataW H) → Nat
  | [] => 0
  | d :: r => uptoBulk d + uptoBulkAll r
def uptoBulkEntries {H : Type} : List (Lit × DataW H) → Nat
  | [] => 0
  | x :: r => uptoBulkEntry x + uptoBulkEntries r
def uptoBulkEntry {H : Type} : Lit × DataW H → Nat
  | (.string bytes, d) => bytes.length + uptoBulk d + 1
  | (_, d) => uptoBulk d + 1
 end
def uptoSmall : (H : Type) → List (DataW H) → Bool := fun _ ds => decide (uptoBulkAll ds ≤ 1048576)
def OpenSpec.upto (s : _root_.Go.ChangeSpec) : _root_.Go.OpenSpec := { _root_.Go.OpenSpec.ofChange s with cond := some uptoSmall }

/-- 'wardmotelaw03.CurveSums', WHERE WHAT IT READS IS OF BULK AT MOST 1048576: true; the input reads as it did. -/
def curveSumsUptoRow : OpenClaim := { program := "ytgmfecncfekjfaadoor", sum := "844ee8828aaf7146eb2c73eb1a8435d5b3b64e5c7c7ece650d47c0afb4794513", func := "wardmote/wardmotelaw03.CurveSums", spec := "curveSums", inPlace := ["math/bits.Sub64", "math/bits.Add64"], unfollowed := true, recurses := true, named := ["wardmote/field.primeP", "wardmote/curve.threeHalves", "wardmote/curve.generatorX", "wardmote/curve.generatorY"], apart := false, laid := [("wardmote/field.primeP", laid_wardmote_field_primeP), ("wardmote/curve.generatorX", laid_wardmote_curve_generatorX), ("wardmote/curve.generatorY", laid_wardmote_curve_generatorY), ("wardmote/curve.threeHalves", laid_wardmote_curve_threeHalves)], narrowed := true }
def CurveSumsUptoSaid : Prop := curveSumsUptoRow.holds Tryd.pinned (OpenSpec.upto curveSumsSpec)

/-- 'wardmotelaw03.CurveTimes', WHERE WHAT IT READS IS OF BULK AT MOST 1048576: true; the input reads as it did. -/
def curveTimesUptoRow : OpenClaim := { program := "ytgmfecncfekjfaadoor", sum := "844ee8828aaf7146eb2c73eb1a8435d5b3b64e5c7c7ece650d47c0afb4794513", func := "wardmote/wardmotelaw03.CurveTimes", spec := "curveTimes", inPlace := ["math/bits.Sub64", "math/bits.Add64"], unfollowed := true, recurses := true, named := ["wardmote/field.primeP", "wardmote/field.primeQ", "wardmote/curve.threeHalves", "wardmote/curve.generatorX", "wardmote/curve.generatorY"], apart := false, laid := [("wardmote/field.primeP", laid_wardmote_field_primeP), ("wardmote/field.primeQ", laid_wardmote_field_primeQ), ("wardmote/curve.generatorX", laid_wardmote_curve_generatorX), ("wardmote/curve.generatorY", laid_wardmote_curve_generatorY), ("wardmote/curve.threeHalves", laid_wardmote_curve_threeHalves)], narrowed := true }
def CurveTimesUptoSaid : Prop := curveTimesUptoRow.holds Tryd.pinned (OpenSpec.upto curveTimesSpec)

/-- 'wardmotelaw03.CurveMany', WHERE WHAT IT READS IS OF BULK AT MOST 1048576: true; the input reads as it did. -/
def curveManyUptoRow : OpenClaim := { program := "ytgmfecncfekjfaadoor", sum := "844ee8828aaf7146eb2c73eb1a8435d5b3b64e5c7c7ece650d47c0afb4794513", func := "wardmote/wardmotelaw03.CurveMany", spec := "curveMany", inPlace := ["math/bits.Sub64", "math/bits.Add64"], unfollowed := true, recurses := true, named := ["wardmote/curve.generatorX", "wardmote/curve.generatorY", "wardmote/field.primeP", "wardmote/curve.threeHalves", "wardmote/field.primeQ"], apart := false, laid := [("wardmote/field.primeP", laid_wardmote_field_primeP), ("wardmote/field.primeQ", laid_wardmote_field_primeQ), ("wardmote/curve.generatorX", laid_wardmote_curve_generatorX), ("wardmote/curve.generatorY", laid_wardmote_curve_generatorY), ("wardmote/curve.threeHalves", laid_wardmote_curve_threeHalves)], narrowed := true }
def CurveManyUptoSaid : Prop := curveManyUptoRow.holds Tryd.pinned (OpenSpec.upto curveManySpec)

/-- 'wardmotelaw03.CurveBytes', WHERE WHAT IT READS IS OF BULK AT MOST 1048576: true; the input reads as it did. -/
def curveBytesUptoRow : OpenClaim := { program := "ytgmfecncfekjfaadoor", sum := "844ee8828aaf7146eb2c73eb1a8435d5b3b64e5c7c7ece650d47c0afb4794513", func := "wardmote/wardmotelaw03.CurveBytes", spec := "curveBytes", inPlace := ["math/bits.Sub64", "math/bits.Add64"], unfollowed := true, recurses := true, named := ["wardmote/field.primeP", "wardmote/field.rootPower", "wardmote/curve.generatorX", "wardmote/curve.generatorY", "wardmote/curve.threeHalves"], apart := false, laid := [("wardmote/field.primeP", laid_wardmote_field_primeP), ("wardmote/field.rootPower", laid_wardmote_field_rootPower), ("wardmote/curve.generatorX", laid_wardmote_curve_generatorX), ("wardmote/curve.generatorY", laid_wardmote_curve_generatorY), ("wardmote/curve.threeHalves", laid_wardmote_curve_threeHalves)], narrowed := true }
def CurveBytesUptoSaid : Prop := curveBytesUptoRow.holds Tryd.pinned (OpenSpec.upto curveBytesSpec)

/-- 'wardmotelaw03.CurveGroup', WHERE WHAT IT READS IS OF BULK AT MOST 1048576: true; the input reads as it did. -/
def curveGroupUptoRow : OpenClaim := { program := "ytgmfecncfekjfaadoor", sum := "844ee8828aaf7146eb2c73eb1a8435d5b3b64e5c7c7ece650d47c0afb4794513", func := "wardmote/wardmotelaw03.CurveGroup", spec := "curveGroup", inPlace := ["math/bits.Sub64", "math/bits.Add64"], unfollowed := true, recurses := true, named := ["wardmote/field.primeP", "wardmote/curve.threeHalves", "wardmote/curve.generatorX", "wardmote/curve.generatorY"], apart := false, laid := [("wardmote/field.primeP", laid_wardmote_field_primeP), ("wardmote/curve.generatorX", laid_wardmote_curve_generatorX), ("wardmote/curve.generatorY", laid_wardmote_curve_generatorY), ("wardmote/curve.threeHalves", laid_wardmote_curve_threeHalves)], narrowed := true }
def CurveGroupUptoSaid : Prop := curveGroupUptoRow.holds Tryd.pinned (OpenSpec.upto curveGroupSpec)

/-- 'wardmotelaw03.CurveLinear', WHERE WHAT IT READS IS OF BULK AT MOST 1048576: true; the input reads as it did. -/
def curveLinearUptoRow : OpenClaim := { program := "ytgmfecncfekjfaadoor", sum := "844ee8828aaf7146eb2c73eb1a8435d5b3b64e5c7c7ece650d47c0afb4794513", func := "wardmote/wardmotelaw03.CurveLinear", spec := "curveLinear", inPlace := ["math/bits.Add64", "math/bits.Sub64"], unfollowed := true, recurses := true, named := ["wardmote/curve.generatorX", "wardmote/curve.generatorY", "wardmote/field.primeP", "wardmote/curve.threeHalves", "wardmote/field.primeQ"], apart := false, laid := [("wardmote/field.primeP", laid_wardmote_field_primeP), ("wardmote/field.primeQ", laid_wardmote_field_primeQ), ("wardmote/curve.generatorX", laid_wardmote_curve_generatorX), ("wardmote/curve.generatorY", laid_wardmote_curve_generatorY), ("wardmote/curve.threeHalves", laid_wardmote_curve_threeHalves)], narrowed := true }
def CurveLinearUptoSaid : Prop := curveLinearUptoRow.holds Tryd.pinned (OpenSpec.upto curveLinearSpec)

end Rows
end Go.Proofs.YtgmfecncfekjfaaDoor
