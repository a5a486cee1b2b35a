/-
  NARROWER THAN 'FOR EVERY INPUT', by the rows' own cells (each row's printed sentence says how): FeldSums: laid · FeldAdds: laid.
  DERIVED. THE GIVEN ROWS OF THIS SEAT. 2 by the template 'for every input the law returns true; each argument reads behind the call as it read before'; 0 by the template 'total and deterministic' (their statements: YtfkpbcionlidaaaDoorTotals.lean).
  GIVEN WITH THE SEED: the statements are not yours to turn. If you find one false, say at which input.
  Laid BY PROGRAM, IN A SANDBOX (cutbox-rows.mjs): the forced cells as the released guide's own fill.sh prints them over the translation 95b395cb9c7e00e1… (all of the seat's roots in one cut). By AI agents, Wed Nov 11 2026. No macro, syntax, notation, axiom, sorry.
-/
import Derived.Test.YtfkpbcionlidaaaDoorChecked
import GoSem.Claim
import GoSem.ClaimJoined
import GoSem.ClaimMapViews
import Derived.JoinedTies
import Derived.KernelRfl
namespace Go.Proofs.YtfkpbcionlidaaaDoor
/- THE CELL 'sum', in the pinned program and in every row, IS THE sha256 OF THE DUMP (.gsa) THAT YtfkpbcionlidaaaDoorProg.lean LOADS. Nothing in Lean hashes anything: it is a label: what it is worth is what the hold of that sum in a sandbox is worth. -/
noncomputable def Tryd.pinned : Pinned := { name := "ytfkpbcionlidaaadoor", sum := "95b395cb9c7e00e15022d34b681a45b36a23209b426986f4f47112c8d0fba4a2", checked := Tryd.checked }
namespace Rows
def none {H : Type} : Left H := { results := [], args := [] }

/- WHAT THE LISTED PACKAGE-LEVEL VARIABLES READ AS WHEN THE CALL BEGINS. Each datum BY PROGRAM (the guide's laid-datum.mjs) off the statement by which the dump's own 'gosem.cut.vars' lays the variable. In a bare row this is a premise. The card (YtfkpbcionlidaaaDoorCards.lean) ties it to the program's text. -/
def laid_wardmote_field_primeP {H : Type} : DataW H := .agg [.lit (.int .u64 18446744069414583343), .lit (.int .u64 18446744073709551615), .lit (.int .u64 18446744073709551615), .lit (.int .u64 18446744073709551615)]
def laid_wardmote_field_primeQ {H : Type} : DataW H := .agg [.lit (.int .u64 13822214165235122497), .lit (.int .u64 13451932020343611451), .lit (.int .u64 18446744073709551614), .lit (.int .u64 18446744073709551615)]
def laid_wardmote_curve_generatorX {H : Type} : DataW H := .agg [.lit (.int .u64 6481385041966929816), .lit (.int .u64 188021827762530521), .lit (.int .u64 6170039885052185351), .lit (.int .u64 8772561819708210092)]
def laid_wardmote_curve_generatorY {H : Type} : DataW H := .agg [.lit (.int .u64 11261198710074299576), .lit (.int .u64 18237243440184513561), .lit (.int .u64 6747795201694173352), .lit (.int .u64 5204712524664259685)]
def laid_wardmote_curve_threeHalves {H : Type} : DataW H := .agg [.lit (.int .u64 18446744071562067481), .lit (.int .u64 18446744073709551615), .lit (.int .u64 18446744073709551615), .lit (.int .u64 9223372036854775807)]

/-- 'wardmotelaw07.FeldSums': WHATEVER THE INPUT: true; the input reads as it did. -/
def feldSumsSpec : ChangeSpec := { name := "feldSums", fn := fun _ => fun
  | [d] => { results := [.lit (.bool true)], args := [d] }
  | _ => none }
def feldSumsRow : OpenClaim := { program := "ytfkpbcionlidaaadoor", sum := "95b395cb9c7e00e15022d34b681a45b36a23209b426986f4f47112c8d0fba4a2", func := "wardmote/wardmotelaw07.FeldSums", spec := "feldSums", inPlace := ["math/bits.Sub64", "math/bits.Add64"], unfollowed := true, recurses := true, named := ["wardmote/field.primeQ", "wardmote/curve.generatorX", "wardmote/curve.generatorY", "wardmote/field.primeP", "wardmote/curve.threeHalves"], apart := false, laid := [("wardmote/field.primeP", laid_wardmote_field_primeP), ("wardmote/field.primeQ", laid_wardmote_field_primeQ), ("wardmote/curve.generatorX", laid_wardmote_curve_generatorX), ("wardmote/curve.generatorY", laid_wardmote_curve_generatorY), ("wardmote/curve.threeHalves", laid_wardmote_curve_threeHalves)] }
def FeldSumsSaid : Prop := feldSumsRow.holds Tryd.pinned (OpenSpec.ofChange feldSumsSpec)

/-- ITS FALSE NEIGHBOUR: 'it returns false'. Refute it at one input. -/
def feldSumsWrong : ChangeSpec := { name := "feldSums", fn := fun _ => fun
  | [d] => { results := [.lit (.bool false)], args := [d] }
  | _ => none }
def FeldSumsWrongFalsely : Prop := feldSumsRow.holds Tryd.pinned (OpenSpec.ofChange feldSumsWrong)

/-- 'wardmotelaw07.FeldAdds': WHATEVER THE INPUT: true; the input reads as it did. -/
def feldAddsSpec : ChangeSpec := { name := "feldAdds", fn := fun _ => fun
  | [d1, d2] => { results := [.lit (.bool true)], args := [d1, d2] }
  | _ => none }
def feldAddsRow : OpenClaim := { program := "ytfkpbcionlidaaadoor", sum := "95b395cb9c7e00e15022d34b681a45b36a23209b426986f4f47112c8d0fba4a2", func := "wardmote/wardmotelaw07.FeldAdds", spec := "feldAdds", inPlace := ["math/bits.Sub64", "math/bits.Add64"], unfollowed := true, recurses := true, named := ["wardmote/field.primeQ", "wardmote/curve.generatorX", "wardmote/curve.generatorY", "wardmote/field.primeP", "wardmote/curve.threeHalves"], apart := false, laid := [("wardmote/field.primeP", laid_wardmote_field_primeP), ("wardmote/field.primeQ", laid_wardmote_field_primeQ), ("wardmote/curve.generatorX", laid_wardmote_curve_generatorX), ("wardmote/curve.generatorY", laid_wardmote_curve_generatorY), ("wardmote/curve.threeHalves", laid_wardmote_curve_threeHalves)] }
def FeldAddsSaid : Prop := feldAddsRow.holds Tryd.pinned (OpenSpec.ofChange feldAddsSpec)

/-- ITS FALSE NEIGHBOUR: 'it returns false'. Refute it at one input. -/
def feldAddsWrong : ChangeSpec := { name := "feldAdds", fn := fun _ => fun
  | [d1, d2] => { results := [.lit (.bool false)], args := [d1, d2] }
  | _ => none }
def FeldAddsWrongFalsely : Prop := feldAddsRow.holds Tryd.pinned (OpenSpec.ofChange feldAddsWrong)

/- THE SECOND FORM. 'bulk': how many values and letters a reading holds, each counted each time it is reached (what is shared counts as often as it is met; a slice's spare places count too). A statement '..UptoSaid' is the law's where the arguments, and the package variables that the reading takes, are together of bulk at most 1048576: NARROWER than '..Said'. Prove '..Said' where nothing that the law and all that it calls make is longer than what came in: it says more and counts as full. Else prove '..UptoSaid'. A law counts once. -/
mutual
def uptoBulk {H : Type} : DataW H → Nat
  | .lit (.string bytes) => bytes.length + 1
  | .lit _ => 1
  | .nil => 1
  | .ptr d => uptoBulk d + 1
  | .slice elems spare => uptoBulkAll elems + uptoBulkAll spare + 1
  | .agg parts => uptoBulkAll parts + 1
  | .iface _ d => uptoBulk d + 1
  | .map entries => uptoBulkEntries entries + 1
  | .held _ => 1
def uptoBulkAll {H : Type} : List (DataW H) → Nat
  | [] => 0
  | d :: r => uptoBulk d + uptoBulkAll r
def uptoBulkEntries {H : Type} : List (Lit × DataW H) → Nat
  | [] => 0
  | x :: r => uptoBulkEntry x + uptoBulkEntries r
def uptoBulkEntry {H : Type} : Lit × DataW H → Nat
  | (.string bytes, d) => bytes.length + uptoBulk d + 1
  | (_, d) => uptoBulk d + 1
 end
def uptoSmall : (H : Type) → List (DataW H) → Bool := fun _ ds => decide (uptoBulkAll ds ≤ 1048576)
def OpenSpec.upto (s : _root_.Go.ChangeSpec) : _root_.Go.OpenSpec := { _root_.Go.OpenSpec.ofChange s with cond := some uptoSmall }

/-- 'wardmotelaw07.FeldSums', WHERE WHAT IT READS IS OF BULK AT MOST 1048576: true; the input reads as it did. -/
def feldSumsUptoRow : OpenClaim := { program := "ytfkpbcionlidaaadoor", sum := "95b395cb9c7e00e15022d34b681a45b36a23209b426986f4f47112c8d0fba4a2", func := "wardmote/wardmotelaw07.FeldSums", spec := "feldSums", inPlace := ["math/bits.Sub64", "math/bits.Add64"], unfollowed := true, recurses := true, named := ["wardmote/field.primeQ", "wardmote/curve.generatorX", "wardmote/curve.generatorY", "wardmote/field.primeP", "wardmote/curve.threeHalves"], apart := false, laid := [("wardmote/field.primeP", laid_wardmote_field_primeP), ("wardmote/field.primeQ", laid_wardmote_field_primeQ), ("wardmote/curve.generatorX", laid_wardmote_curve_generatorX), ("wardmote/curve.generatorY", laid_wardmote_curve_generatorY), ("wardmote/curve.threeHalves", laid_wardmote_curve_threeHalves)], narrowed := true }
def FeldSumsUptoSaid : Prop := feldSumsUptoRow.holds Tryd.pinned (OpenSpec.upto feldSumsSpec)

/-- 'wardmotelaw07.FeldAdds', WHERE WHAT IT READS IS OF BULK AT MOST 1048576: true; the input reads as it did. -/
def feldAddsUptoRow : OpenClaim := { program := "ytfkpbcionlidaaadoor", sum := "95b395cb9c7e00e15022d34b681a45b36a23209b426986f4f47112c8d0fba4a2", func := "wardmote/wardmotelaw07.FeldAdds", spec := "feldAdds", inPlace := ["math/bits.Sub64", "math/bits.Add64"], unfollowed := true, recurses := true, named := ["wardmote/field.primeQ", "wardmote/curve.generatorX", "wardmote/curve.generatorY", "wardmote/field.primeP", "wardmote/curve.threeHalves"], apart := false, laid := [("wardmote/field.primeP", laid_wardmote_field_primeP), ("wardmote/field.primeQ", laid_wardmote_field_primeQ), ("wardmote/curve.generatorX", laid_wardmote_curve_generatorX), ("wardmote/curve.generatorY", laid_wardmote_curve_generatorY), ("wardmote/curve.threeHalves", laid_wardmote_curve_threeHalves)], narrowed := true }
def FeldAddsUptoSaid : Prop := feldAddsUptoRow.holds Tryd.pinned (OpenSpec.upto feldAddsSpec)

end Rows
end Go.Proofs.YtfkpbcionlidaaaDoor
