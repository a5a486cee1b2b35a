/-
  NARROWER THAN 'FOR EVERY INPUT', by the rows' own cells (each row's printed sentence says how): FieldRoots: laid · FieldNil: laid · FieldNegs: laid.
  DERIVED. THE GIVEN ROWS OF THIS SEAT. 3 by the template 'for every input the law returns true; each argument reads behind the call as it read before'; 0 by the template 'total and deterministic' (their statements: YtglifkfkcepllabDoorTotals.lean).
  GIVEN WITH THE SEED: the statements are not yours to turn. If you find one false, say at which input.
  Laid BY PROGRAM, IN A SANDBOX (cutbox-rows.mjs): the forced cells as the released guide's own fill.sh prints them over the translation 2d80f6b1239ac713… (all of the seat's roots in one cut). By AI agents, Wed Nov 11 2026. No macro, syntax, notation, axiom, sorry.
-/
import Derived.Test.YtglifkfkcepllabDoorChecked
import GoSem.Claim
import GoSem.ClaimJoined
import GoSem.ClaimMapViews
import Derived.JoinedTies
import Derived.KernelRfl
namespace Go.Proofs.YtglifkfkcepllabDoor
/- THE CELL 'sum', in the pinned program and in every row, IS THE sha256 OF THE DUMP (.gsa) THAT YtglifkfkcepllabDoorProg.lean LOADS. Nothing in Lean hashes anything: it is a label: what it is worth is what the hold of that sum in a sandbox is worth. -/
noncomputable def Tryd.pinned : Pinned := { name := "ytglifkfkcepllabdoor", sum := "2d80f6b1239ac71304486a99a41ce1708e0e8f016cb5d8be844cd108e37900bb", checked := Tryd.checked }
namespace Rows
def none {H : Type} : Left H := { results := [], args := [] }

/- WHAT THE LISTED PACKAGE-LEVEL VARIABLES READ AS WHEN THE CALL BEGINS. Each datum BY PROGRAM (the guide's laid-datum.mjs) off the statement by which the dump's own 'gosem.cut.vars' lays the variable. In a bare row this is a premise. The card (YtglifkfkcepllabDoorCards.lean) ties it to the program's text. -/
def laid_wardmote_field_primeP {H : Type} : DataW H := .agg [.lit (.int .u64 18446744069414583343), .lit (.int .u64 18446744073709551615), .lit (.int .u64 18446744073709551615), .lit (.int .u64 18446744073709551615)]
def laid_wardmote_field_primeQ {H : Type} : DataW H := .agg [.lit (.int .u64 13822214165235122497), .lit (.int .u64 13451932020343611451), .lit (.int .u64 18446744073709551614), .lit (.int .u64 18446744073709551615)]
def laid_wardmote_field_rootPower {H : Type} : DataW H := .agg [.lit (.int .u64 18446744072635809548), .lit (.int .u64 18446744073709551615), .lit (.int .u64 18446744073709551615), .lit (.int .u64 4611686018427387903)]

/-- 'wardmotelaw02.FieldRoots': WHATEVER THE INPUT: true; the input reads as it did. -/
def fieldRootsSpec : ChangeSpec := { name := "fieldRoots", fn := fun _ => fun
  | [d] => { results := [.lit (.bool true)], args := [d] }
  | _ => none }
def fieldRootsRow : OpenClaim := { program := "ytglifkfkcepllabdoor", sum := "2d80f6b1239ac71304486a99a41ce1708e0e8f016cb5d8be844cd108e37900bb", func := "wardmote/wardmotelaw02.FieldRoots", spec := "fieldRoots", inPlace := ["math/bits.Sub64", "math/bits.Add64"], unfollowed := true, recurses := true, named := ["wardmote/field.primeP", "wardmote/field.primeQ", "wardmote/field.rootPower"], apart := false, laid := [("wardmote/field.primeP", laid_wardmote_field_primeP), ("wardmote/field.primeQ", laid_wardmote_field_primeQ), ("wardmote/field.rootPower", laid_wardmote_field_rootPower)] }
def FieldRootsSaid : Prop := fieldRootsRow.holds Tryd.pinned (OpenSpec.ofChange fieldRootsSpec)

/-- ITS FALSE NEIGHBOUR: 'it returns false'. Refute it at one input. -/
def fieldRootsWrong : ChangeSpec := { name := "fieldRoots", fn := fun _ => fun
  | [d] => { results := [.lit (.bool false)], args := [d] }
  | _ => none }
def FieldRootsWrongFalsely : Prop := fieldRootsRow.holds Tryd.pinned (OpenSpec.ofChange fieldRootsWrong)

/-- 'wardmotelaw02.FieldNil': WHATEVER THE INPUT: true; the input reads as it did. -/
def fieldNilSpec : ChangeSpec := { name := "fieldNil", fn := fun _ => fun
  | [d1, d2] => { results := [.lit (.bool true)], args := [d1, d2] }
  | _ => none }
def fieldNilRow : OpenClaim := { program := "ytglifkfkcepllabdoor", sum := "2d80f6b1239ac71304486a99a41ce1708e0e8f016cb5d8be844cd108e37900bb", func := "wardmote/wardmotelaw02.FieldNil", spec := "fieldNil", inPlace := ["math/bits.Add64", "math/bits.Sub64"], unfollowed := true, recurses := true, named := ["wardmote/field.primeP", "wardmote/field.rootPower"], apart := false, laid := [("wardmote/field.primeP", laid_wardmote_field_primeP), ("wardmote/field.rootPower", laid_wardmote_field_rootPower)] }
def FieldNilSaid : Prop := fieldNilRow.holds Tryd.pinned (OpenSpec.ofChange fieldNilSpec)

/-- ITS FALSE NEIGHBOUR: 'it returns false'. Refute it at one input. -/
def fieldNilWrong : ChangeSpec := { name := "fieldNil", fn := fun _ => fun
  | [d1, d2] => { results := [.lit (.bool false)], args := [d1, d2] }
  | _ => none }
def FieldNilWrongFalsely : Prop := fieldNilRow.holds Tryd.pinned (OpenSpec.ofChange fieldNilWrong)

/-- 'wardmotelaw02.FieldNegs': WHATEVER THE INPUT: true; the input reads as it did. -/
def fieldNegsSpec : ChangeSpec := { name := "fieldNegs", fn := fun _ => fun
  | [d1, d2, d3] => { results := [.lit (.bool true)], args := [d1, d2, d3] }
  | _ => none }
def fieldNegsRow : OpenClaim := { program := "ytglifkfkcepllabdoor", sum := "2d80f6b1239ac71304486a99a41ce1708e0e8f016cb5d8be844cd108e37900bb", func := "wardmote/wardmotelaw02.FieldNegs", spec := "fieldNegs", inPlace := ["math/bits.Sub64", "math/bits.Add64"], unfollowed := true, recurses := true, named := ["wardmote/field.primeP", "wardmote/field.primeQ", "wardmote/field.rootPower"], apart := false, laid := [("wardmote/field.primeP", laid_wardmote_field_primeP), ("wardmote/field.primeQ", laid_wardmote_field_primeQ), ("wardmote/field.rootPower", laid_wardmote_field_rootPower)] }
def FieldNegsSaid : Prop := fieldNegsRow.holds Tryd.pinned (OpenSpec.ofChange fieldNegsSpec)

/-- ITS FALSE NEIGHBOUR: 'it returns false'. Refute it at one input. -/
def fieldNegsWrong : ChangeSpec := { name := "fieldNegs", fn := fun _ => fun
  | [d1, d2, d3] => { results := [.lit (.bool false)], args := [d1, d2, d3] }
  | _ => none }
def FieldNegsWrongFalsely : Prop := fieldNegsRow.holds Tryd.pinned (OpenSpec.ofChange fieldNegsWrong)

/- THE SECOND FORM. 'bulk': how many values and letters a reading holds, each counted each time it is reached (what is shared counts as often as it is met; a slice's spare places count too). A statement '..UptoSaid' is the law's where the arguments, and the package variables that the reading takes, are together of bulk at most 1048576: NARROWER than '..Said'. Prove '..Said' where nothing that the law and all that it calls make is longer than what came in: it says more and counts as full. Else prove '..UptoSaid'. A law counts once. -/
mutual
def uptoBulk {H : Type} : DataW H → Nat
  | .lit (.string bytes) => bytes.length + 1
  | .lit _ => 1
  | .nil => 1
  | .ptr d => uptoBulk d + 1
  | .slice elems spare => uptoBulkAll elems + uptoBulkAll spare + 1
  | .agg parts => uptoBulkAll parts + 1
  | .iface _ d => uptoBulk d + 1
  | .map entries => uptoBulkEntries entries + 1
  | .held _ => 1
def uptoBulkAll {H : Type} : List (DataW H) → Nat
  | [] => 0
  | d :: r => uptoBulk d + uptoBulkAll r
def uptoBulkEntries {H : Type} : List (Lit × DataW H) → Nat
  | [] => 0
  | x :: r => uptoBulkEntry x + uptoBulkEntries r
def uptoBulkEntry {H : Type} : Lit × DataW H → Nat
  | (.string bytes, d) => bytes.length + uptoBulk d + 1
  | (_, d) => uptoBulk d + 1
 end
def uptoSmall : (H : Type) → List (DataW H) → Bool := fun _ ds => decide (uptoBulkAll ds ≤ 1048576)
def OpenSpec.upto (s : _root_.Go.ChangeSpec) : _root_.Go.OpenSpec := { _root_.Go.OpenSpec.ofChange s with cond := some uptoSmall }

/-- 'wardmotelaw02.FieldRoots', WHERE WHAT IT READS IS OF BULK AT MOST 1048576: true; the input reads as it did. -/
def fieldRootsUptoRow : OpenClaim := { program := "ytglifkfkcepllabdoor", sum := "2d80f6b1239ac71304486a99a41ce1708e0e8f016cb5d8be844cd108e37900bb", func := "wardmote/wardmotelaw02.FieldRoots", spec := "fieldRoots", inPlace := ["math/bits.Sub64", "math/bits.Add64"], unfollowed := true, recurses := true, named := ["wardmote/field.primeP", "wardmote/field.primeQ", "wardmote/field.rootPower"], apart := false, laid := [("wardmote/field.primeP", laid_wardmote_field_primeP), ("wardmote/field.primeQ", laid_wardmote_field_primeQ), ("wardmote/field.rootPower", laid_wardmote_field_rootPower)], narrowed := true }
def FieldRootsUptoSaid : Prop := fieldRootsUptoRow.holds Tryd.pinned (OpenSpec.upto fieldRootsSpec)

/-- 'wardmotelaw02.FieldNil', WHERE WHAT IT READS IS OF BULK AT MOST 1048576: true; the input reads as it did. -/
def fieldNilUptoRow : OpenClaim := { program := "ytglifkfkcepllabdoor", sum := "2d80f6b1239ac71304486a99a41ce1708e0e8f016cb5d8be844cd108e37900bb", func := "wardmote/wardmotelaw02.FieldNil", spec := "fieldNil", inPlace := ["math/bits.Add64", "math/bits.Sub64"], unfollowed := true, recurses := true, named := ["wardmote/field.primeP", "wardmote/field.rootPower"], apart := false, laid := [("wardmote/field.primeP", laid_wardmote_field_primeP), ("wardmote/field.rootPower", laid_wardmote_field_rootPower)], narrowed := true }
def FieldNilUptoSaid : Prop := fieldNilUptoRow.holds Tryd.pinned (OpenSpec.upto fieldNilSpec)

/-- 'wardmotelaw02.FieldNegs', WHERE WHAT IT READS IS OF BULK AT MOST 1048576: true; the input reads as it did. -/
def fieldNegsUptoRow : OpenClaim := { program := "ytglifkfkcepllabdoor", sum := "2d80f6b1239ac71304486a99a41ce1708e0e8f016cb5d8be844cd108e37900bb", func := "wardmote/wardmotelaw02.FieldNegs", spec := "fieldNegs", inPlace := ["math/bits.Sub64", "math/bits.Add64"], unfollowed := true, recurses := true, named := ["wardmote/field.primeP", "wardmote/field.primeQ", "wardmote/field.rootPower"], apart := false, laid := [("wardmote/field.primeP", laid_wardmote_field_primeP), ("wardmote/field.primeQ", laid_wardmote_field_primeQ), ("wardmote/field.rootPower", laid_wardmote_field_rootPower)], narrowed := true }
def FieldNegsUptoSaid : Prop := fieldNegsUptoRow.holds Tryd.pinned (OpenSpec.upto fieldNegsSpec)

end Rows
end Go.Proofs.YtglifkfkcepllabDoor
