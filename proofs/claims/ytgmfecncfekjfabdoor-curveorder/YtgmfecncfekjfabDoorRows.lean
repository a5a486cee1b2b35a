/-
  NARROWER THAN 'FOR EVERY INPUT', by the rows' own cells (each row's printed sentence says how): CurveOrder: laid · CurveCounts: laid.
  DERIVED. THE GIVEN ROWS OF THIS SEAT. 2 by the template 'for every input the law returns true; each argument reads behind the call as it read before'; 0 by the template 'total and deterministic' (their statements: YtgmfecncfekjfabDoorTotals.lean).
  GIVEN WITH THE SEED: the statements are not yours to turn. If you find one false, say at which input.
  Laid BY PROGRAM, IN A SANDBOX (cutbox-rows.mjs): the forced cells as the released guide's own fill.sh prints them over the translation d9a7c5659b8e14f2… (all of the seat's roots in one cut). By AI agents, Wed Nov 11 2026. No macro, syntax, notation, axiom, sorry.
-/
import Derived.Test.YtgmfecncfekjfabDoorChecked
import GoSem.Claim
import GoSem.ClaimJoined
import GoSem.ClaimMapViews
import Derived.JoinedTies
import Derived.KernelRfl
namespace Go.Proofs.YtgmfecncfekjfabDoor
/- THE CELL 'sum', in the pinned program and in every row, IS THE sha256 OF THE DUMP (.gsa) THAT YtgmfecncfekjfabDoorProg.lean LOADS. Nothing in Lean hashes anything: it is a label: what it is worth is what the hold of that sum in a sandbox is worth. -/
noncomputable def Tryd.pinned : Pinned := { name := "ytgmfecncfekjfabdoor", sum := "d9a7c5659b8e14f29b66ee8dca379b96e184e8cd1ccfee0bbd9fc13fe92ff047", checked := Tryd.checked }
namespace Rows
def none {H : Type} : Left H := { results := [], args := [] }

/- WHAT THE LISTED PACKAGE-LEVEL VARIABLES READ AS WHEN THE CALL BEGINS. Each datum BY PROGRAM (the guide's laid-datum.mjs) off the statement by which the dump's own 'gosem.cut.vars' lays the variable. In a bare row this is a premise. The card (YtgmfecncfekjfabDoorCards.lean) ties it to the program's text. -/
def laid_wardmote_field_primeP {H : Type} : DataW H := .agg [.lit (.int .u64 18446744069414583343), .lit (.int .u64 18446744073709551615), .lit (.int .u64 18446744073709551615), .lit (.int .u64 18446744073709551615)]
def laid_wardmote_field_primeQ {H : Type} : DataW H := .agg [.lit (.int .u64 13822214165235122497), .lit (.int .u64 13451932020343611451), .lit (.int .u64 18446744073709551614), .lit (.int .u64 18446744073709551615)]
def laid_wardmote_curve_generatorX {H : Type} : DataW H := .agg [.lit (.int .u64 6481385041966929816), .lit (.int .u64 188021827762530521), .lit (.int .u64 6170039885052185351), .lit (.int .u64 8772561819708210092)]
def laid_wardmote_curve_generatorY {H : Type} : DataW H := .agg [.lit (.int .u64 11261198710074299576), .lit (.int .u64 18237243440184513561), .lit (.int .u64 6747795201694173352), .lit (.int .u64 5204712524664259685)]
def laid_wardmote_curve_threeHalves {H : Type} : DataW H := .agg [.lit (.int .u64 18446744071562067481), .lit (.int .u64 18446744073709551615), .lit (.int .u64 18446744073709551615), .lit (.int .u64 9223372036854775807)]

/-- 'wardmotelaw03.CurveOrder': WHATEVER THE INPUT: true; the input reads as it did. -/
def curveOrderSpec : ChangeSpec := { name := "curveOrder", fn := fun _ => fun
  | [d1, d2] => { results := [.lit (.bool true)], args := [d1, d2] }
  | _ => none }
def curveOrderRow : OpenClaim := { program := "ytgmfecncfekjfabdoor", sum := "d9a7c5659b8e14f29b66ee8dca379b96e184e8cd1ccfee0bbd9fc13fe92ff047", func := "wardmote/wardmotelaw03.CurveOrder", spec := "curveOrder", inPlace := ["math/bits.Add64", "math/bits.Sub64"], unfollowed := true, recurses := true, named := ["wardmote/curve.generatorX", "wardmote/curve.generatorY", "wardmote/field.primeP", "wardmote/curve.threeHalves", "wardmote/field.primeQ"], apart := false, laid := [("wardmote/field.primeP", laid_wardmote_field_primeP), ("wardmote/field.primeQ", laid_wardmote_field_primeQ), ("wardmote/curve.generatorX", laid_wardmote_curve_generatorX), ("wardmote/curve.generatorY", laid_wardmote_curve_generatorY), ("wardmote/curve.threeHalves", laid_wardmote_curve_threeHalves)] }
def CurveOrderSaid : Prop := curveOrderRow.holds Tryd.pinned (OpenSpec.ofChange curveOrderSpec)

/-- ITS FALSE NEIGHBOUR: 'it returns false'. Refute it at one input. -/
def curveOrderWrong : ChangeSpec := { name := "curveOrder", fn := fun _ => fun
  | [d1, d2] => { results := [.lit (.bool false)], args := [d1, d2] }
  | _ => none }
def CurveOrderWrongFalsely : Prop := curveOrderRow.holds Tryd.pinned (OpenSpec.ofChange curveOrderWrong)

/-- 'wardmotelaw03.CurveCounts': WHATEVER THE INPUT: true; the input reads as it did. -/
def curveCountsSpec : ChangeSpec := { name := "curveCounts", fn := fun _ => fun
  | [d1, d2] => { results := [.lit (.bool true)], args := [d1, d2] }
  | _ => none }
def curveCountsRow : OpenClaim := { program := "ytgmfecncfekjfabdoor", sum := "d9a7c5659b8e14f29b66ee8dca379b96e184e8cd1ccfee0bbd9fc13fe92ff047", func := "wardmote/wardmotelaw03.CurveCounts", spec := "curveCounts", inPlace := ["math/bits.Add64", "math/bits.Sub64"], unfollowed := true, recurses := true, named := ["wardmote/curve.generatorX", "wardmote/curve.generatorY", "wardmote/field.primeP", "wardmote/curve.threeHalves", "wardmote/field.primeQ"], apart := false, laid := [("wardmote/field.primeP", laid_wardmote_field_primeP), ("wardmote/field.primeQ", laid_wardmote_field_primeQ), ("wardmote/curve.generatorX", laid_wardmote_curve_generatorX), ("wardmote/curve.generatorY", laid_wardmote_curve_generatorY), ("wardmote/curve.threeHalves", laid_wardmote_curve_threeHalves)] }
def CurveCountsSaid : Prop := curveCountsRow.holds Tryd.pinned (OpenSpec.ofChange curveCountsSpec)

/-- ITS FALSE NEIGHBOUR: 'it returns false'. Refute it at one input. -/
def curveCountsWrong : ChangeSpec := { name := "curveCounts", fn := fun _ => fun
  | [d1, d2] => { results := [.lit (.bool false)], args := [d1, d2] }
  | _ => none }
def CurveCountsWrongFalsely : Prop := curveCountsRow.holds Tryd.pinned (OpenSpec.ofChange curveCountsWrong)

/- THE SECOND FORM. 'bulk': how many values and letters a reading holds, each counted each time it is reached (what is shared counts as often as it is met; a slice's spare places count too). A statement '..UptoSaid' is the law's where the arguments, and the package variables that the reading takes, are together of bulk at most 1048576: NARROWER than '..Said'. Prove '..Said' where nothing that the law and all that it calls make is longer than what came in: it says more and counts as full. Else prove '..UptoSaid'. A law counts once. -/
mutual
def uptoBulk {H : Type} : DataW H → Nat
  | .lit (.string bytes) => bytes.length + 1
  | .lit _ => 1
  | .nil => 1
  | .ptr d => uptoBulk d + 1
  | .slice elems spare => uptoBulkAll elems + uptoBulkAll spare + 1
  | .agg parts => uptoBulkAll parts + 1
  | .iface _ d => uptoBulk d + 1
  | .map entries => uptoBulkEntries entries + 1
  | .held _ => 1
def uptoBulkAll {H : Type} : List (DataW H) → Nat
  | [] => 0
  | d :: r => uptoBulk d + uptoBulkAll r
def uptoBulkEntries {H : Type} : List (Lit × DataW H) → Nat
  | [] => 0
  | x :: r => uptoBulkEntry x + uptoBulkEntries r
def uptoBulkEntry {H : Type} : Lit × DataW H → Nat
  | (.string bytes, d) => bytes.length + uptoBulk d + 1
  | (_, d) => uptoBulk d + 1
 end
def uptoSmall : (H : Type) → List (DataW H) → Bool := fun _ ds => decide (uptoBulkAll ds ≤ 1048576)
def OpenSpec.upto (s : _root_.Go.ChangeSpec) : _root_.Go.OpenSpec := { _root_.Go.OpenSpec.ofChange s with cond := some uptoSmall }

/-- 'wardmotelaw03.CurveOrder', WHERE WHAT IT READS IS OF BULK AT MOST 1048576: true; the input reads as it did. -/
def curveOrderUptoRow : OpenClaim := { program := "ytgmfecncfekjfabdoor", sum := "d9a7c5659b8e14f29b66ee8dca379b96e184e8cd1ccfee0bbd9fc13fe92ff047", func := "wardmote/wardmotelaw03.CurveOrder", spec := "curveOrder", inPlace := ["math/bits.Add64", "math/bits.Sub64"], unfollowed := true, recurses := true, named := ["wardmote/curve.generatorX", "wardmote/curve.generatorY", "wardmote/field.primeP", "wardmote/curve.threeHalves", "wardmote/field.primeQ"], apart := false, laid := [("wardmote/field.primeP", laid_wardmote_field_primeP), ("wardmote/field.primeQ", laid_wardmote_field_primeQ), ("wardmote/curve.generatorX", laid_wardmote_curve_generatorX), ("wardmote/curve.generatorY", laid_wardmote_curve_generatorY), ("wardmote/curve.threeHalves", laid_wardmote_curve_threeHalves)], narrowed := true }
def CurveOrderUptoSaid : Prop := curveOrderUptoRow.holds Tryd.pinned (OpenSpec.upto curveOrderSpec)

/-- 'wardmotelaw03.CurveCounts', WHERE WHAT IT READS IS OF BULK AT MOST 1048576: true; the input reads as it did. -/
def curveCountsUptoRow : OpenClaim := { program := "ytgmfecncfekjfabdoor", sum := "d9a7c5659b8e14f29b66ee8dca379b96e184e8cd1ccfee0bbd9fc13fe92ff047", func := "wardmote/wardmotelaw03.CurveCounts", spec := "curveCounts", inPlace := ["math/bits.Add64", "math/bits.Sub64"], unfollowed := true, recurses := true, named := ["wardmote/curve.generatorX", "wardmote/curve.generatorY", "wardmote/field.primeP", "wardmote/curve.threeHalves", "wardmote/field.primeQ"], apart := false, laid := [("wardmote/field.primeP", laid_wardmote_field_primeP), ("wardmote/field.primeQ", laid_wardmote_field_primeQ), ("wardmote/curve.generatorX", laid_wardmote_curve_generatorX), ("wardmote/curve.generatorY", laid_wardmote_curve_generatorY), ("wardmote/curve.threeHalves", laid_wardmote_curve_threeHalves)], narrowed := true }
def CurveCountsUptoSaid : Prop := curveCountsUptoRow.holds Tryd.pinned (OpenSpec.upto curveCountsSpec)

end Rows
end Go.Proofs.YtgmfecncfekjfabDoor
