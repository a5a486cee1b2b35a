/-
  NARROWER THAN 'FOR EVERY INPUT', by the rows' own cells (each row's printed sentence says how): ShareValues: laid · ShareWeights: laid · ShareJoins: laid · ShareSums: laid · ShareBack: laid · ShareHides: laid.
  DERIVED. THE GIVEN ROWS OF THIS SEAT. 6 by the template 'for every input the law returns true; each argument reads behind the call as it read before'; 0 by the template 'total and deterministic' (their statements: YtcdiehnkknmbeaaDoorTotals.lean).
  GIVEN WITH THE SEED: the statements are not yours to turn. If you find one false, say at which input.
  Laid BY PROGRAM, IN A SANDBOX (cutbox-rows.mjs): the forced cells as the released guide's own fill.sh prints them over the translation 087f584ff02e8f8b… (all of the seat's roots in one cut). By AI agents, Wed Nov 11 2026. No macro, syntax, notation, axiom, sorry.
-/
import Derived.Test.YtcdiehnkknmbeaaDoorChecked
import GoSem.Claim
import GoSem.ClaimJoined
import GoSem.ClaimMapViews
import Derived.JoinedTies
import Derived.KernelRfl
namespace Go.Proofs.YtcdiehnkknmbeaaDoor
/- THE CELL 'sum', in the pinned program and in every row, IS THE sha256 OF THE DUMP (.gsa) THAT YtcdiehnkknmbeaaDoorProg.lean LOADS. Nothing in Lean hashes anything: it is a label: what it is worth is what the hold of that sum in a sandbox is worth. -/
noncomputable def Tryd.pinned : Pinned := { name := "ytcdiehnkknmbeaadoor", sum := "087f584ff02e8f8b6ce8f5e41966d12b745829cbbe58360b4893248d13db1a47", checked := Tryd.checked }
namespace Rows
def none {H : Type} : Left H := { results := [], args := [] }

/- WHAT THE LISTED PACKAGE-LEVEL VARIABLES READ AS WHEN THE CALL BEGINS. Each datum BY PROGRAM (the guide's laid-datum.mjs) off the statement by which the dump's own 'gosem.cut.vars' lays the variable. In a bare row this is a premise. The card (YtcdiehnkknmbeaaDoorCards.lean) ties it to the program's text. -/
def laid_wardmote_field_primeQ {H : Type} : DataW H := .agg [.lit (.int .u64 13822214165235122497), .lit (.int .u64 13451932020343611451), .lit (.int .u64 18446744073709551614), .lit (.int .u64 18446744073709551615)]

/-- 'wardmotelaw06.ShareValues': WHATEVER THE INPUT: true; the input reads as it did. -/
def shareValuesSpec : ChangeSpec := { name := "shareValues", fn := fun _ => fun
  | [d1, d2, d3] => { results := [.lit (.bool true)], args := [d1, d2, d3] }
  | _ => none }
def shareValuesRow : OpenClaim := { program := "ytcdiehnkknmbeaadoor", sum := "087f584ff02e8f8b6ce8f5e41966d12b745829cbbe58360b4893248d13db1a47", func := "wardmote/wardmotelaw06.ShareValues", spec := "shareValues", inPlace := ["math/bits.Sub64", "math/bits.Add64"], unfollowed := true, recurses := true, named := ["wardmote/field.primeQ"], apart := false, laid := [("wardmote/field.primeQ", laid_wardmote_field_primeQ)] }
def ShareValuesSaid : Prop := shareValuesRow.holds Tryd.pinned (OpenSpec.ofChange shareValuesSpec)

/-- ITS FALSE NEIGHBOUR: 'it returns false'. Refute it at one input. -/
def shareValuesWrong : ChangeSpec := { name := "shareValues", fn := fun _ => fun
  | [d1, d2, d3] => { results := [.lit (.bool false)], args := [d1, d2, d3] }
  | _ => none }
def ShareValuesWrongFalsely : Prop := shareValuesRow.holds Tryd.pinned (OpenSpec.ofChange shareValuesWrong)

/-- 'wardmotelaw06.ShareWeights': WHATEVER THE INPUT: true; the input reads as it did. -/
def shareWeightsSpec : ChangeSpec := { name := "shareWeights", fn := fun _ => fun
  | [d1, d2, d3] => { results := [.lit (.bool true)], args := [d1, d2, d3] }
  | _ => none }
def shareWeightsRow : OpenClaim := { program := "ytcdiehnkknmbeaadoor", sum := "087f584ff02e8f8b6ce8f5e41966d12b745829cbbe58360b4893248d13db1a47", func := "wardmote/wardmotelaw06.ShareWeights", spec := "shareWeights", inPlace := ["math/bits.Sub64", "math/bits.Add64"], unfollowed := true, recurses := true, named := ["wardmote/field.primeQ"], apart := false, laid := [("wardmote/field.primeQ", laid_wardmote_field_primeQ)] }
def ShareWeightsSaid : Prop := shareWeightsRow.holds Tryd.pinned (OpenSpec.ofChange shareWeightsSpec)

/-- ITS FALSE NEIGHBOUR: 'it returns false'. Refute it at one input. -/
def shareWeightsWrong : ChangeSpec := { name := "shareWeights", fn := fun _ => fun
  | [d1, d2, d3] => { results := [.lit (.bool false)], args := [d1, d2, d3] }
  | _ => none }
def ShareWeightsWrongFalsely : Prop := shareWeightsRow.holds Tryd.pinned (OpenSpec.ofChange shareWeightsWrong)

/-- 'wardmotelaw06.ShareJoins': WHATEVER THE INPUT: true; the input reads as it did. -/
def shareJoinsSpec : ChangeSpec := { name := "shareJoins", fn := fun _ => fun
  | [d1, d2, d3] => { results := [.lit (.bool true)], args := [d1, d2, d3] }
  | _ => none }
def shareJoinsRow : OpenClaim := { program := "ytcdiehnkknmbeaadoor", sum := "087f584ff02e8f8b6ce8f5e41966d12b745829cbbe58360b4893248d13db1a47", func := "wardmote/wardmotelaw06.ShareJoins", spec := "shareJoins", inPlace := ["math/bits.Sub64", "math/bits.Add64"], unfollowed := true, recurses := true, named := ["wardmote/field.primeQ"], apart := false, laid := [("wardmote/field.primeQ", laid_wardmote_field_primeQ)] }
def ShareJoinsSaid : Prop := shareJoinsRow.holds Tryd.pinned (OpenSpec.ofChange shareJoinsSpec)

/-- ITS FALSE NEIGHBOUR: 'it returns false'. Refute it at one input. -/
def shareJoinsWrong : ChangeSpec := { name := "shareJoins", fn := fun _ => fun
  | [d1, d2, d3] => { results := [.lit (.bool false)], args := [d1, d2, d3] }
  | _ => none }
def ShareJoinsWrongFalsely : Prop := shareJoinsRow.holds Tryd.pinned (OpenSpec.ofChange shareJoinsWrong)

/-- 'wardmotelaw06.ShareSums': WHATEVER THE INPUT: true; the input reads as it did. -/
def shareSumsSpec : ChangeSpec := { name := "shareSums", fn := fun _ => fun
  | [d1, d2] => { results := [.lit (.bool true)], args := [d1, d2] }
  | _ => none }
def shareSumsRow : OpenClaim := { program := "ytcdiehnkknmbeaadoor", sum := "087f584ff02e8f8b6ce8f5e41966d12b745829cbbe58360b4893248d13db1a47", func := "wardmote/wardmotelaw06.ShareSums", spec := "shareSums", inPlace := ["math/bits.Sub64", "math/bits.Add64"], unfollowed := true, recurses := true, named := ["wardmote/field.primeQ"], apart := false, laid := [("wardmote/field.primeQ", laid_wardmote_field_primeQ)] }
def ShareSumsSaid : Prop := shareSumsRow.holds Tryd.pinned (OpenSpec.ofChange shareSumsSpec)

/-- ITS FALSE NEIGHBOUR: 'it returns false'. Refute it at one input. -/
def shareSumsWrong : ChangeSpec := { name := "shareSums", fn := fun _ => fun
  | [d1, d2] => { results := [.lit (.bool false)], args := [d1, d2] }
  | _ => none }
def ShareSumsWrongFalsely : Prop := shareSumsRow.holds Tryd.pinned (OpenSpec.ofChange shareSumsWrong)

/-- 'wardmotelaw06.ShareBack': WHATEVER THE INPUT: true; the input reads as it did. -/
def shareBackSpec : ChangeSpec := { name := "shareBack", fn := fun _ => fun
  | [d1, d2, d3] => { results := [.lit (.bool true)], args := [d1, d2, d3] }
  | _ => none }
def shareBackRow : OpenClaim := { program := "ytcdiehnkknmbeaadoor", sum := "087f584ff02e8f8b6ce8f5e41966d12b745829cbbe58360b4893248d13db1a47", func := "wardmote/wardmotelaw06.ShareBack", spec := "shareBack", inPlace := ["math/bits.Add64", "math/bits.Sub64"], unfollowed := true, recurses := true, named := ["wardmote/field.primeQ"], apart := false, laid := [("wardmote/field.primeQ", laid_wardmote_field_primeQ)] }
def ShareBackSaid : Prop := shareBackRow.holds Tryd.pinned (OpenSpec.ofChange shareBackSpec)

/-- ITS FALSE NEIGHBOUR: 'it returns false'. Refute it at one input. -/
def shareBackWrong : ChangeSpec := { name := "shareBack", fn := fun _ => fun
  | [d1, d2, d3] => { results := [.lit (.bool false)], args := [d1, d2, d3] }
  | _ => none }
def ShareBackWrongFalsely : Prop := shareBackRow.holds Tryd.pinned (OpenSpec.ofChange shareBackWrong)

/-- 'wardmotelaw06.ShareHides': WHATEVER THE INPUT: true; the input reads as it did. -/
def shareHidesSpec : ChangeSpec := { name := "shareHides", fn := fun _ => fun
  | [d1, d2, d3] => { results := [.lit (.bool true)], args := [d1, d2, d3] }
  | _ => none }
def shareHidesRow : OpenClaim := { program := "ytcdiehnkknmbeaadoor", sum := "087f584ff02e8f8b6ce8f5e41966d12b745829cbbe58360b4893248d13db1a47", func := "wardmote/wardmotelaw06.ShareHides", spec := "shareHides", inPlace := ["math/bits.Add64", "math/bits.Sub64"], unfollowed := true, recurses := true, named := ["wardmote/field.primeQ"], apart := false, laid := [("wardmote/field.primeQ", laid_wardmote_field_primeQ)] }
def ShareHidesSaid : Prop := shareHidesRow.holds Tryd.pinned (OpenSpec.ofChange shareHidesSpec)

/-- ITS FALSE NEIGHBOUR: 'it returns false'. Refute it at one input. -/
def shareHidesWrong : ChangeSpec := { name := "shareHides", fn := fun _ => fun
  | [d1, d2, d3] => { results := [.lit (.bool false)], args := [d1, d2, d3] }
  | _ => none }
def ShareHidesWrongFalsely : Prop := shareHidesRow.holds Tryd.pinned (OpenSpec.ofChange shareHidesWrong)

/- THE SECOND FORM. 'bulk': how many values and letters a reading holds, each counted each time it is reached (what is shared counts as often as it is met; a slice's spare places count too). A statement '..UptoSaid' is the law's where the arguments, and the package variables that the reading takes, are together of bulk at most 1048576: NARROWER than '..Said'. Prove '..Said' where nothing that the law and all that it calls make is longer than what came in: it says more and counts as full. Else prove '..UptoSaid'. A law counts once. -/
mutual
def uptoBulk {H : Type} : DataW H → Nat
  | .lit (.string bytes) => bytes.length + 1
  | .lit _ => 1
  | .nil => 1
  | .ptr d => uptoBulk d + 1
  | .slice elems spare => uptoBulkAll elems + uptoBulkAll spare + 1
  | .agg parts => uptoBulkAll parts + 1
  | .iface _ d => uptoBulk d + 1
  | .map entries => uptoBulkEntries entries + 1
  | .held _ => 1
def uptoBulkAll {H : Type} : List (DataW H) → Nat
  | [] => 0
  | d :: r => uptoBulk d + uptoBulkAll r
def uptoBulkEntries {H : Type} : List (Lit × DataW H) → Nat
  | [] => 0
  | x :: r => uptoBulkEntry x + uptoBulkEntries r
def uptoBulkEntry {H : Type} : Lit × DataW H → Nat
  | (.string bytes, d) => bytes.length + uptoBulk d + 1
  | (_, d) => uptoBulk d + 1
 end
def uptoSmall : (H : Type) → List (DataW H) → Bool := fun _ ds => decide (uptoBulkAll ds ≤ 1048576)
def OpenSpec.upto (s : _root_.Go.ChangeSpec) : _root_.Go.OpenSpec := { _root_.Go.OpenSpec.ofChange s with cond := some uptoSmall }

/-- 'wardmotelaw06.ShareValues', WHERE WHAT IT READS IS OF BULK AT MOST 1048576: true; the input reads as it did. -/
def shareValuesUptoRow : OpenClaim := { program := "ytcdiehnkknmbeaadoor", sum := "087f584ff02e8f8b6ce8f5e41966d12b745829cbbe58360b4893248d13db1a47", func := "wardmote/wardmotelaw06.ShareValues", spec := "shareValues", inPlace := ["math/bits.Sub64", "math/bits.Add64"], unfollowed := true, recurses := true, named := ["wardmote/field.primeQ"], apart := false, laid := [("wardmote/field.primeQ", laid_wardmote_field_primeQ)], narrowed := true }
def ShareValuesUptoSaid : Prop := shareValuesUptoRow.holds Tryd.pinned (OpenSpec.upto shareValuesSpec)

/-- 'wardmotelaw06.ShareWeights', WHERE WHAT IT READS IS OF BULK AT MOST 1048576: true; the input reads as it did. -/
def shareWeightsUptoRow : OpenClaim := { program := "ytcdiehnkknmbeaadoor", sum := "087f584ff02e8f8b6ce8f5e41966d12b745829cbbe58360b4893248d13db1a47", func := "wardmote/wardmotelaw06.ShareWeights", spec := "shareWeights", inPlace := ["math/bits.Sub64", "math/bits.Add64"], unfollowed := true, recurses := true, named := ["wardmote/field.primeQ"], apart := false, laid := [("wardmote/field.primeQ", laid_wardmote_field_primeQ)], narrowed := true }
def ShareWeightsUptoSaid : Prop := shareWeightsUptoRow.holds Tryd.pinned (OpenSpec.upto shareWeightsSpec)

/-- 'wardmotelaw06.ShareJoins', WHERE WHAT IT READS IS OF BULK AT MOST 1048576: true; the input reads as it did. -/
def shareJoinsUptoRow : OpenClaim := { program := "ytcdiehnkknmbeaadoor", sum := "087f584ff02e8f8b6ce8f5e41966d12b745829cbbe58360b4893248d13db1a47", func := "wardmote/wardmotelaw06.ShareJoins", spec := "shareJoins", inPlace := ["math/bits.Sub64", "math/bits.Add64"], unfollowed := true, recurses := true, named := ["wardmote/field.primeQ"], apart := false, laid := [("wardmote/field.primeQ", laid_wardmote_field_primeQ)], narrowed := true }
def ShareJoinsUptoSaid : Prop := shareJoinsUptoRow.holds Tryd.pinned (OpenSpec.upto shareJoinsSpec)

/-- 'wardmotelaw06.ShareSums', WHERE WHAT IT READS IS OF BULK AT MOST 1048576: true; the input reads as it did. -/
def shareSumsUptoRow : OpenClaim := { program := "ytcdiehnkknmbeaadoor", sum := "087f584ff02e8f8b6ce8f5e41966d12b745829cbbe58360b4893248d13db1a47", func := "wardmote/wardmotelaw06.ShareSums", spec := "shareSums", inPlace := ["math/bits.Sub64", "math/bits.Add64"], unfollowed := true, recurses := true, named := ["wardmote/field.primeQ"], apart := false, laid := [("wardmote/field.primeQ", laid_wardmote_field_primeQ)], narrowed := true }
def ShareSumsUptoSaid : Prop := shareSumsUptoRow.holds Tryd.pinned (OpenSpec.upto shareSumsSpec)

/-- 'wardmotelaw06.ShareBack', WHERE WHAT IT READS IS OF BULK AT MOST 1048576: true; the input reads as it did. -/
def shareBackUptoRow : OpenClaim := { program := "ytcdiehnkknmbeaadoor", sum := "087f584ff02e8f8b6ce8f5e41966d12b745829cbbe58360b4893248d13db1a47", func := "wardmote/wardmotelaw06.ShareBack", spec := "shareBack", inPlace := ["math/bits.Add64", "math/bits.Sub64"], unfollowed := true, recurses := true, named := ["wardmote/field.primeQ"], apart := false, laid := [("wardmote/field.primeQ", laid_wardmote_field_primeQ)], narrowed := true }
def ShareBackUptoSaid : Prop := shareBackUptoRow.holds Tryd.pinned (OpenSpec.upto shareBackSpec)

/-- 'wardmotelaw06.ShareHides', WHERE WHAT IT READS IS OF BULK AT MOST 1048576: true; the input reads as it did. -/
def shareHidesUptoRow : OpenClaim := { program := "ytcdiehnkknmbeaadoor", sum := "087f584ff02e8f8b6ce8f5e41966d12b745829cbbe58360b4893248d13db1a47", func := "wardmote/wardmotelaw06.ShareHides", spec := "shareHides", inPlace := ["math/bits.Add64", "math/bits.Sub64"], unfollowed := true, recurses := true, named := ["wardmote/field.primeQ"], apart := false, laid := [("wardmote/field.primeQ", laid_wardmote_field_primeQ)], narrowed := true }
def ShareHidesUptoSaid : Prop := shareHidesUptoRow.holds Tryd.pinned (OpenSpec.upto shareHidesSpec)

end Rows
end Go.Proofs.YtcdiehnkknmbeaaDoor
