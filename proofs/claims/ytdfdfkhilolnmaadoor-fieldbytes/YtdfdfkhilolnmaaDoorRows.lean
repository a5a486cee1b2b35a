/-
  NARROWER THAN 'FOR EVERY INPUT', by the rows' own cells (each row's printed sentence says how): FieldSums: laid · FieldProducts: laid · FieldPlain: laid · FieldPowers: laid · FieldBytes: laid · FieldRules: laid.
  DERIVED. THE GIVEN ROWS OF THIS SEAT. 6 by the template 'for every input the law returns true; each argument reads behind the call as it read before'; 0 by the template 'total and deterministic' (their statements: YtdfdfkhilolnmaaDoorTotals.lean).
  GIVEN WITH THE SEED: the statements are not yours to turn. If you find one false, say at which input.
  Laid BY PROGRAM, IN A SANDBOX (cutbox-rows.mjs): the forced cells as the released guide's own fill.sh prints them over the translation 0abeb9ff232ca81c… (all of the seat's roots in one cut). By AI agents, Wed Nov 11 2026. No macro, syntax, notation, axiom, sorry.
-/
import Derived.Test.YtdfdfkhilolnmaaDoorChecked
import GoSem.Claim
import GoSem.ClaimJoined
import GoSem.ClaimMapViews
import Derived.JoinedTies
import Derived.KernelRfl
namespace Go.Proofs.YtdfdfkhilolnmaaDoor
/- THE CELL 'sum', in the pinned program and in every row, IS THE sha256 OF THE DUMP (.gsa) THAT YtdfdfkhilolnmaaDoorProg.lean LOADS. Nothing in Lean hashes anything: it is a label: what it is worth is what the hold of that sum in a sandbox is worth. -/
noncomputable def Tryd.pinned : Pinned := { name := "ytdfdfkhilolnmaadoor", sum := "0abeb9ff232ca81c0a90a89ae3e6f9040ac77ce3f2beba8013beb0a063ff622c", checked := Tryd.checked }
namespace Rows
def none {H : Type} : Left H := { results := [], args := [] }

/- WHAT THE LISTED PACKAGE-LEVEL VARIABLES READ AS WHEN THE CALL BEGINS. Each datum BY PROGRAM (the guide's laid-datum.mjs) off the statement by which the dump's own 'gosem.cut.vars' lays the variable. In a bare row this is a premise. The card (YtdfdfkhilolnmaaDoorCards.lean) ties it to the program's text. -/
def laid_wardmote_field_primeP {H : Type} : DataW H := .agg [.lit (.int .u64 18446744069414583343), .lit (.int .u64 18446744073709551615), .lit (.int .u64 18446744073709551615), .lit (.int .u64 18446744073709551615)]
def laid_wardmote_field_primeQ {H : Type} : DataW H := .agg [.lit (.int .u64 13822214165235122497), .lit (.int .u64 13451932020343611451), .lit (.int .u64 18446744073709551614), .lit (.int .u64 18446744073709551615)]
def laid_wardmote_field_rootPower {H : Type} : DataW H := .agg [.lit (.int .u64 18446744072635809548), .lit (.int .u64 18446744073709551615), .lit (.int .u64 18446744073709551615), .lit (.int .u64 4611686018427387903)]

/-- 'wardmotelaw02.FieldSums': WHATEVER THE INPUT: true; the input reads as it did. -/
def fieldSumsSpec : ChangeSpec := { name := "fieldSums", fn := fun _ => fun
  | [d1, d2, d3] => { results := [.lit (.bool true)], args := [d1, d2, d3] }
  | _ => none }
def fieldSumsRow : OpenClaim := { program := "ytdfdfkhilolnmaadoor", sum := "0abeb9ff232ca81c0a90a89ae3e6f9040ac77ce3f2beba8013beb0a063ff622c", func := "wardmote/wardmotelaw02.FieldSums", spec := "fieldSums", inPlace := ["math/bits.Sub64", "math/bits.Add64"], unfollowed := true, recurses := true, named := ["wardmote/field.primeP", "wardmote/field.primeQ", "wardmote/field.rootPower"], apart := false, laid := [("wardmote/field.primeP", laid_wardmote_field_primeP), ("wardmote/field.primeQ", laid_wardmote_field_primeQ), ("wardmote/field.rootPower", laid_wardmote_field_rootPower)] }
def FieldSumsSaid : Prop := fieldSumsRow.holds Tryd.pinned (OpenSpec.ofChange fieldSumsSpec)

/-- ITS FALSE NEIGHBOUR: 'it returns false'. Refute it at one input. -/
def fieldSumsWrong : ChangeSpec := { name := "fieldSums", fn := fun _ => fun
  | [d1, d2, d3] => { results := [.lit (.bool false)], args := [d1, d2, d3] }
  | _ => none }
def FieldSumsWrongFalsely : Prop := fieldSumsRow.holds Tryd.pinned (OpenSpec.ofChange fieldSumsWrong)

/-- 'wardmotelaw02.FieldProducts': WHATEVER THE INPUT: true; the input reads as it did. -/
def fieldProductsSpec : ChangeSpec := { name := "fieldProducts", fn := fun _ => fun
  | [d1, d2, d3] => { results := [.lit (.bool true)], args := [d1, d2, d3] }
  | _ => none }
def fieldProductsRow : OpenClaim := { program := "ytdfdfkhilolnmaadoor", sum := "0abeb9ff232ca81c0a90a89ae3e6f9040ac77ce3f2beba8013beb0a063ff622c", func := "wardmote/wardmotelaw02.FieldProducts", spec := "fieldProducts", inPlace := ["math/bits.Sub64", "math/bits.Add64"], unfollowed := true, recurses := true, named := ["wardmote/field.primeP", "wardmote/field.primeQ", "wardmote/field.rootPower"], apart := false, laid := [("wardmote/field.primeP", laid_wardmote_field_primeP), ("wardmote/field.primeQ", laid_wardmote_field_primeQ), ("wardmote/field.rootPower", laid_wardmote_field_rootPower)] }
def FieldProductsSaid : Prop := fieldProductsRow.holds Tryd.pinned (OpenSpec.ofChange fieldProductsSpec)

/-- ITS FALSE NEIGHBOUR: 'it returns false'. Refute it at one input. -/
def fieldProductsWrong : ChangeSpec := { name := "fieldProducts", fn := fun _ => fun
  | [d1, d2, d3] => { results := [.lit (.bool false)], args := [d1, d2, d3] }
  | _ => none }
def FieldProductsWrongFalsely : Prop := fieldProductsRow.holds Tryd.pinned (OpenSpec.ofChange fieldProductsWrong)

/-- 'wardmotelaw02.FieldPlain': WHATEVER THE INPUT: true; the input reads as it did. -/
def fieldPlainSpec : ChangeSpec := { name := "fieldPlain", fn := fun _ => fun
  | [d1, d2, d3] => { results := [.lit (.bool true)], args := [d1, d2, d3] }
  | _ => none }
def fieldPlainRow : OpenClaim := { program := "ytdfdfkhilolnmaadoor", sum := "0abeb9ff232ca81c0a90a89ae3e6f9040ac77ce3f2beba8013beb0a063ff622c", func := "wardmote/wardmotelaw02.FieldPlain", spec := "fieldPlain", inPlace := ["math/bits.Sub64", "math/bits.Add64"], unfollowed := true, recurses := true, named := ["wardmote/field.primeP", "wardmote/field.primeQ", "wardmote/field.rootPower"], apart := false, laid := [("wardmote/field.primeP", laid_wardmote_field_primeP), ("wardmote/field.primeQ", laid_wardmote_field_primeQ), ("wardmote/field.rootPower", laid_wardmote_field_rootPower)] }
def FieldPlainSaid : Prop := fieldPlainRow.holds Tryd.pinned (OpenSpec.ofChange fieldPlainSpec)

/-- ITS FALSE NEIGHBOUR: 'it returns false'. Refute it at one input. -/
def fieldPlainWrong : ChangeSpec := { name := "fieldPlain", fn := fun _ => fun
  | [d1, d2, d3] => { results := [.lit (.bool false)], args := [d1, d2, d3] }
  | _ => none }
def FieldPlainWrongFalsely : Prop := fieldPlainRow.holds Tryd.pinned (OpenSpec.ofChange fieldPlainWrong)

/-- 'wardmotelaw02.FieldPowers': WHATEVER THE INPUT: true; the input reads as it did. -/
def fieldPowersSpec : ChangeSpec := { name := "fieldPowers", fn := fun _ => fun
  | [d1, d2, d3] => { results := [.lit (.bool true)], args := [d1, d2, d3] }
  | _ => none }
def fieldPowersRow : OpenClaim := { program := "ytdfdfkhilolnmaadoor", sum := "0abeb9ff232ca81c0a90a89ae3e6f9040ac77ce3f2beba8013beb0a063ff622c", func := "wardmote/wardmotelaw02.FieldPowers", spec := "fieldPowers", inPlace := ["math/bits.Sub64", "math/bits.Add64"], unfollowed := true, recurses := true, named := ["wardmote/field.primeP", "wardmote/field.primeQ", "wardmote/field.rootPower"], apart := false, laid := [("wardmote/field.primeP", laid_wardmote_field_primeP), ("wardmote/field.primeQ", laid_wardmote_field_primeQ), ("wardmote/field.rootPower", laid_wardmote_field_rootPower)] }
def FieldPowersSaid : Prop := fieldPowersRow.holds Tryd.pinned (OpenSpec.ofChange fieldPowersSpec)

/-- ITS FALSE NEIGHBOUR: 'it returns false'. Refute it at one input. -/
def fieldPowersWrong : ChangeSpec := { name := "fieldPowers", fn := fun _ => fun
  | [d1, d2, d3] => { results := [.lit (.bool false)], args := [d1, d2, d3] }
  | _ => none }
def FieldPowersWrongFalsely : Prop := fieldPowersRow.holds Tryd.pinned (OpenSpec.ofChange fieldPowersWrong)

/-- 'wardmotelaw02.FieldBytes': WHATEVER THE INPUT: true; the input reads as it did. -/
def fieldBytesSpec : ChangeSpec := { name := "fieldBytes", fn := fun _ => fun
  | [d1, d2, d3] => { results := [.lit (.bool true)], args := [d1, d2, d3] }
  | _ => none }
def fieldBytesRow : OpenClaim := { program := "ytdfdfkhilolnmaadoor", sum := "0abeb9ff232ca81c0a90a89ae3e6f9040ac77ce3f2beba8013beb0a063ff622c", func := "wardmote/wardmotelaw02.FieldBytes", spec := "fieldBytes", inPlace := ["math/bits.Sub64", "math/bits.Add64"], unfollowed := true, recurses := true, named := ["wardmote/field.primeP", "wardmote/field.primeQ", "wardmote/field.rootPower"], apart := false, laid := [("wardmote/field.primeP", laid_wardmote_field_primeP), ("wardmote/field.primeQ", laid_wardmote_field_primeQ), ("wardmote/field.rootPower", laid_wardmote_field_rootPower)] }
def FieldBytesSaid : Prop := fieldBytesRow.holds Tryd.pinned (OpenSpec.ofChange fieldBytesSpec)

/-- ITS FALSE NEIGHBOUR: 'it returns false'. Refute it at one input. -/
def fieldBytesWrong : ChangeSpec := { name := "fieldBytes", fn := fun _ => fun
  | [d1, d2, d3] => { results := [.lit (.bool false)], args := [d1, d2, d3] }
  | _ => none }
def FieldBytesWrongFalsely : Prop := fieldBytesRow.holds Tryd.pinned (OpenSpec.ofChange fieldBytesWrong)

/-- 'wardmotelaw02.FieldRules': WHATEVER THE INPUT: true; the input reads as it did. -/
def fieldRulesSpec : ChangeSpec := { name := "fieldRules", fn := fun _ => fun
  | [d1, d2] => { results := [.lit (.bool true)], args := [d1, d2] }
  | _ => none }
def fieldRulesRow : OpenClaim := { program := "ytdfdfkhilolnmaadoor", sum := "0abeb9ff232ca81c0a90a89ae3e6f9040ac77ce3f2beba8013beb0a063ff622c", func := "wardmote/wardmotelaw02.FieldRules", spec := "fieldRules", inPlace := ["math/bits.Sub64", "math/bits.Add64"], unfollowed := true, recurses := true, named := ["wardmote/field.primeP", "wardmote/field.primeQ", "wardmote/field.rootPower"], apart := false, laid := [("wardmote/field.primeP", laid_wardmote_field_primeP), ("wardmote/field.primeQ", laid_wardmote_field_primeQ), ("wardmote/field.rootPower", laid_wardmote_field_rootPower)] }
def FieldRulesSaid : Prop := fieldRulesRow.holds Tryd.pinned (OpenSpec.ofChange fieldRulesSpec)

/-- ITS FALSE NEIGHBOUR: 'it returns false'. Refute it at one input. -/
def fieldRulesWrong : ChangeSpec := { name := "fieldRules", fn := fun _ => fun
  | [d1, d2] => { results := [.lit (.bool false)], args := [d1, d2] }
  | _ => none }
def FieldRulesWrongFalsely : Prop := fieldRulesRow.holds Tryd.pinned (OpenSpec.ofChange fieldRulesWrong)

/- THE SECOND FORM. 'bulk': how many values and letters a reading holds, each counted each time it is reached (what is shared counts as often as it is met; a slice's spare places count too). A statement '..UptoSaid' is the law's where the arguments, and the package variables that the reading takes, are together of bulk at most 1048576: NARROWER than '..Said'. Prove '..Said' where nothing that the law and all that it calls make is longer than what came in: it says more and counts as full. Else prove '..UptoSaid'. A law counts once. -/
mutual
def uptoBulk {H : Type} : DataW H → Nat
  | .lit (.string bytes) => bytes.length + 1
  | .lit _ => 1
  | .nil => 1
  | .ptr d => uptoBulk d + 1
  | .slice elems spare => uptoBulkAll elems + uptoBulkAll spare + 1
  | .agg parts => uptoBulkAll parts + 1
  | .iface _ d => uptoBulk d + 1
  | .map entries => uptoBulkEntries entries + 1
  | .held _ => 1
def uptoBulkAll {H : Type} : List (DataW H) → Nat
  | [] => 0
  | d :: r => uptoBulk d + uptoBulkAll r
def uptoBulkEntries {H : Type} : List (Lit × DataW H) → Nat
  | [] => 0
  | x :: r => uptoBulkEntry x + uptoBulkEntries r
def uptoBulkEntry {H : Type} : Lit × DataW H → Nat
  | (.string bytes, d) => bytes.length + uptoBulk d + 1
  | (_, d) => uptoBulk d + 1
 end
def uptoSmall : (H : Type) → List (DataW H) → Bool := fun _ ds => decide (uptoBulkAll ds ≤ 1048576)
def OpenSpec.upto (s : _root_.Go.ChangeSpec) : _root_.Go.OpenSpec := { _root_.Go.OpenSpec.ofChange s with cond := some uptoSmall }

/-- 'wardmotelaw02.FieldSums', WHERE WHAT IT READS IS OF BULK AT MOST 1048576: true; the input reads as it did. -/
def fieldSumsUptoRow : OpenClaim := { program := "ytdfdfkhilolnmaadoor", sum := "0abeb9ff232ca81c0a90a89ae3e6f9040ac77ce3f2beba8013beb0a063ff622c", func := "wardmote/wardmotelaw02.FieldSums", spec := "fieldSums", inPlace := ["math/bits.Sub64", "math/bits.Add64"], unfollowed := true, recurses := true, named := ["wardmote/field.primeP", "wardmote/field.primeQ", "wardmote/field.rootPower"], apart := false, laid := [("wardmote/field.primeP", laid_wardmote_field_primeP), ("wardmote/field.primeQ", laid_wardmote_field_primeQ), ("wardmote/field.rootPower", laid_wardmote_field_rootPower)], narrowed := true }
def FieldSumsUptoSaid : Prop := fieldSumsUptoRow.holds Tryd.pinned (OpenSpec.upto fieldSumsSpec)

/-- 'wardmotelaw02.FieldProducts', WHERE WHAT IT READS IS OF BULK AT MOST 1048576: true; the input reads as it did. -/
def fieldProductsUptoRow : OpenClaim := { program := "ytdfdfkhilolnmaadoor", sum := "0abeb9ff232ca81c0a90a89ae3e6f9040ac77ce3f2beba8013beb0a063ff622c", func := "wardmote/wardmotelaw02.FieldProducts", spec := "fieldProducts", inPlace := ["math/bits.Sub64", "math/bits.Add64"], unfollowed := true, recurses := true, named := ["wardmote/field.primeP", "wardmote/field.primeQ", "wardmote/field.rootPower"], apart := false, laid := [("wardmote/field.primeP", laid_wardmote_field_primeP), ("wardmote/field.primeQ", laid_wardmote_field_primeQ), ("wardmote/field.rootPower", laid_wardmote_field_rootPower)], narrowed := true }
def FieldProductsUptoSaid : Prop := fieldProductsUptoRow.holds Tryd.pinned (OpenSpec.upto fieldProductsSpec)

/-- 'wardmotelaw02.FieldPlain', WHERE WHAT IT READS IS OF BULK AT MOST 1048576: true; the input reads as it did. -/
def fieldPlainUptoRow : OpenClaim := { program := "ytdfdfkhilolnmaadoor", sum := "0abeb9ff232ca81c0a90a89ae3e6f9040ac77ce3f2beba8013beb0a063ff622c", func := "wardmote/wardmotelaw02.FieldPlain", spec := "fieldPlain", inPlace := ["math/bits.Sub64", "math/bits.Add64"], unfollowed := true, recurses := true, named := ["wardmote/field.primeP", "wardmote/field.primeQ", "wardmote/field.rootPower"], apart := false, laid := [("wardmote/field.primeP", laid_wardmote_field_primeP), ("wardmote/field.primeQ", laid_wardmote_field_primeQ), ("wardmote/field.rootPower", laid_wardmote_field_rootPower)], narrowed := true }
def FieldPlainUptoSaid : Prop := fieldPlainUptoRow.holds Tryd.pinned (OpenSpec.upto fieldPlainSpec)

/-- 'wardmotelaw02.FieldPowers', WHERE WHAT IT READS IS OF BULK AT MOST 1048576: true; the input reads as it did. -/
def fieldPowersUptoRow : OpenClaim := { program := "ytdfdfkhilolnmaadoor", sum := "0abeb9ff232ca81c0a90a89ae3e6f9040ac77ce3f2beba8013beb0a063ff622c", func := "wardmote/wardmotelaw02.FieldPowers", spec := "fieldPowers", inPlace := ["math/bits.Sub64", "math/bits.Add64"], unfollowed := true, recurses := true, named := ["wardmote/field.primeP", "wardmote/field.primeQ", "wardmote/field.rootPower"], apart := false, laid := [("wardmote/field.primeP", laid_wardmote_field_primeP), ("wardmote/field.primeQ", laid_wardmote_field_primeQ), ("wardmote/field.rootPower", laid_wardmote_field_rootPower)], narrowed := true }
def FieldPowersUptoSaid : Prop := fieldPowersUptoRow.holds Tryd.pinned (OpenSpec.upto fieldPowersSpec)

/-- 'wardmotelaw02.FieldBytes', WHERE WHAT IT READS IS OF BULK AT MOST 1048576: true; the input reads as it did. -/
def fieldBytesUptoRow : OpenClaim := { program := "ytdfdfkhilolnmaadoor", sum := "0abeb9ff232ca81c0a90a89ae3e6f9040ac77ce3f2beba8013beb0a063ff622c", func := "wardmote/wardmotelaw02.FieldBytes", spec := "fieldBytes", inPlace := ["math/bits.Sub64", "math/bits.Add64"], unfollowed := true, recurses := true, named := ["wardmote/field.primeP", "wardmote/field.primeQ", "wardmote/field.rootPower"], apart := false, laid := [("wardmote/field.primeP", laid_wardmote_field_primeP), ("wardmote/field.primeQ", laid_wardmote_field_primeQ), ("wardmote/field.rootPower", laid_wardmote_field_rootPower)], narrowed := true }
def FieldBytesUptoSaid : Prop := fieldBytesUptoRow.holds Tryd.pinned (OpenSpec.upto fieldBytesSpec)

/-- 'wardmotelaw02.FieldRules', WHERE WHAT IT READS IS OF BULK AT MOST 1048576: true; the input reads as it did. -/
def fieldRulesUptoRow : OpenClaim := { program := "ytdfdfkhilolnmaadoor", sum := "0abeb9ff232ca81c0a90a89ae3e6f9040ac77ce3f2beba8013beb0a063ff622c", func := "wardmote/wardmotelaw02.FieldRules", spec := "fieldRules", inPlace := ["math/bits.Sub64", "math/bits.Add64"], unfollowed := true, recurses := true, named := ["wardmote/field.primeP", "wardmote/field.primeQ", "wardmote/field.rootPower"], apart := false, laid := [("wardmote/field.primeP", laid_wardmote_field_primeP), ("wardmote/field.primeQ", laid_wardmote_field_primeQ), ("wardmote/field.rootPower", laid_wardmote_field_rootPower)], narrowed := true }
def FieldRulesUptoSaid : Prop := fieldRulesUptoRow.holds Tryd.pinned (OpenSpec.upto fieldRulesSpec)

end Rows
end Go.Proofs.YtdfdfkhilolnmaaDoor
