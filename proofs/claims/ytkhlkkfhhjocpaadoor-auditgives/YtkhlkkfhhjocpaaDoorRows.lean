/-
  NARROWER THAN 'FOR EVERY INPUT', by the rows' own cells (each row's printed sentence says how): AuditLeaks: laid · AuditGives: laid.
  DERIVED. THE GIVEN ROWS OF THIS SEAT. 2 by the template 'for every input the law returns true; each argument reads behind the call as it read before'; 0 by the template 'total and deterministic' (their statements: YtkhlkkfhhjocpaaDoorTotals.lean).
  GIVEN WITH THE SEED: the statements are not yours to turn. If you find one false, say at which input.
  Laid BY PROGRAM, IN A SANDBOX (cutbox-rows.mjs): the forced cells as the released guide's own fill.sh prints them over the translation 8b36464e961948ae… (all of the seat's roots in one cut). By AI agents, Wed Nov 11 2026. No macro, syntax, notation, axiom, sorry.
-/
import Derived.Test.YtkhlkkfhhjocpaaDoorChecked
import GoSem.Claim
import GoSem.ClaimJoined
import GoSem.ClaimMapViews
import Derived.JoinedTies
import Derived.KernelRfl
namespace Go.Proofs.YtkhlkkfhhjocpaaDoor
/- THE CELL 'sum', in the pinned program and in every row, IS THE sha256 OF THE DUMP (.gsa) THAT YtkhlkkfhhjocpaaDoorProg.lean LOADS. Nothing in Lean hashes anything: it is a label: what it is worth is what the hold of that sum in a sandbox is worth. -/
noncomputable def Tryd.pinned : Pinned := { name := "ytkhlkkfhhjocpaadoor", sum := "8b36464e961948aed4f8b96a78d852a9afd8a4af1a7f4d20ceb56b396d0781f7", checked := Tryd.checked }
namespace Rows
def none {H : Type} : Left H := { results := [], args := [] }

/- WHAT THE LISTED PACKAGE-LEVEL VARIABLES READ AS WHEN THE CALL BEGINS. Each datum BY PROGRAM (the guide's laid-datum.mjs) off the statement by which the dump's own 'gosem.cut.vars' lays the variable. In a bare row this is a premise. The card (YtkhlkkfhhjocpaaDoorCards.lean) ties it to the program's text. -/
def laid_wardmote_field_primeQ {H : Type} : DataW H := .agg [.lit (.int .u64 13822214165235122497), .lit (.int .u64 13451932020343611451), .lit (.int .u64 18446744073709551614), .lit (.int .u64 18446744073709551615)]

/-- 'wardmotelaw28.AuditLeaks': WHATEVER THE INPUT: true; the input reads as it did. -/
def auditLeaksSpec : ChangeSpec := { name := "auditLeaks", fn := fun _ => fun
  | [d1, d2] => { results := [.lit (.bool true)], args := [d1, d2] }
  | _ => none }
def auditLeaksRow : OpenClaim := { program := "ytkhlkkfhhjocpaadoor", sum := "8b36464e961948aed4f8b96a78d852a9afd8a4af1a7f4d20ceb56b396d0781f7", func := "wardmote/wardmotelaw28.AuditLeaks", spec := "auditLeaks", inPlace := ["math/bits.Sub64", "math/bits.Add64"], unfollowed := true, recurses := true, named := ["wardmote/field.primeQ"], apart := false, laid := [("wardmote/field.primeQ", laid_wardmote_field_primeQ)] }
def AuditLeaksSaid : Prop := auditLeaksRow.holds Tryd.pinned (OpenSpec.ofChange auditLeaksSpec)

/-- ITS FALSE NEIGHBOUR: 'it returns false'. Refute it at one input. -/
def auditLeaksWrong : ChangeSpec := { name := "auditLeaks", fn := fun _ => fun
  | [d1, d2] => { results := [.lit (.bool false)], args := [d1, d2] }
  | _ => none }
def AuditLeaksWrongFalsely : Prop := auditLeaksRow.holds Tryd.pinned (OpenSpec.ofChange auditLeaksWrong)

/-- 'wardmotelaw28.AuditGives': WHATEVER THE INPUT: true; the input reads as it did. -/
def auditGivesSpec : ChangeSpec := { name := "auditGives", fn := fun _ => fun
  | [d1, d2, d3] => { results := [.lit (.bool true)], args := [d1, d2, d3] }
  | _ => none }
def auditGivesRow : OpenClaim := { program := "ytkhlkkfhhjocpaadoor", sum := "8b36464e961948aed4f8b96a78d852a9afd8a4af1a7f4d20ceb56b396d0781f7", func := "wardmote/wardmotelaw28.AuditGives", spec := "auditGives", inPlace := ["math/bits.Add64", "math/bits.Sub64"], unfollowed := true, recurses := true, named := ["wardmote/field.primeQ"], apart := false, laid := [("wardmote/field.primeQ", laid_wardmote_field_primeQ)] }
def AuditGivesSaid : Prop := auditGivesRow.holds Tryd.pinned (OpenSpec.ofChange auditGivesSpec)

/-- ITS FALSE NEIGHBOUR: 'it returns false'. Refute it at one input. -/
def auditGivesWrong : ChangeSpec := { name := "auditGives", fn := fun _ => fun
  | [d1, d2, d3] => { results := [.lit (.bool false)], args := [d1, d2, d3] }
  | _ => none }
def AuditGivesWrongFalsely : Prop := auditGivesRow.holds Tryd.pinned (OpenSpec.ofChange auditGivesWrong)

/- THE SECOND FORM. 'bulk': how many values and letters a reading holds, each counted each time it is reached (what is shared counts as often as it is met; a slice's spare places count too). A statement '..UptoSaid' is the law's where the arguments, and the package variables that the reading takes, are together of bulk at most 1048576: NARROWER than '..Said'. Prove '..Said' where nothing that the law and all that it calls make is longer than what came in: it says more and counts as full. Else prove '..UptoSaid'. A law counts once. -/
mutual
def uptoBulk {H : Type} : DataW H → Nat
  | .lit (.string bytes) => bytes.length + 1
  | .lit _ => 1
  | .nil => 1
  | .ptr d => uptoBulk d + 1
  | .slice elems spare => uptoBulkAll elems + uptoBulkAll spare + 1
  | .agg parts => uptoBulkAll parts + 1
  | .iface _ d => uptoBulk d + 1
  | .map entries => uptoBulkEntries entries + 1
  | .held _ => 1
def uptoBulkAll {H : Type} : List (DataW H) → Nat
  | [] => 0
  | d :: r => uptoBulk d + uptoBulkAll r
def uptoBulkEntries {H : Type} : List (Lit × DataW H) → Nat
  | [] => 0
  | x :: r => uptoBulkEntry x + uptoBulkEntries r
def uptoBulkEntry {H : Type} : Lit × DataW H → Nat
  | (.string bytes, d) => bytes.length + uptoBulk d + 1
  | (_, d) => uptoBulk d + 1
 end
def uptoSmall : (H : Type) → List (DataW H) → Bool := fun _ ds => decide (uptoBulkAll ds ≤ 1048576)
def OpenSpec.upto (s : _root_.Go.ChangeSpec) : _root_.Go.OpenSpec := { _root_.Go.OpenSpec.ofChange s with cond := some uptoSmall }

/-- 'wardmotelaw28.AuditLeaks', WHERE WHAT IT READS IS OF BULK AT MOST 1048576: true; the input reads as it did. -/
def auditLeaksUptoRow : OpenClaim := { program := "ytkhlkkfhhjocpaadoor", sum := "8b36464e961948aed4f8b96a78d852a9afd8a4af1a7f4d20ceb56b396d0781f7", func := "wardmote/wardmotelaw28.AuditLeaks", spec := "auditLeaks", inPlace := ["math/bits.Sub64", "math/bits.Add64"], unfollowed := true, recurses := true, named := ["wardmote/field.primeQ"], apart := false, laid := [("wardmote/field.primeQ", laid_wardmote_field_primeQ)], narrowed := true }
def AuditLeaksUptoSaid : Prop := auditLeaksUptoRow.holds Tryd.pinned (OpenSpec.upto auditLeaksSpec)

/-- 'wardmotelaw28.AuditGives', WHERE WHAT IT READS IS OF BULK AT MOST 1048576: true; the input reads as it did. -/
def auditGivesUptoRow : OpenClaim := { program := "ytkhlkkfhhjocpaadoor", sum := "8b36464e961948aed4f8b96a78d852a9afd8a4af1a7f4d20ceb56b396d0781f7", func := "wardmote/wardmotelaw28.AuditGives", spec := "auditGives", inPlace := ["math/bits.Add64", "math/bits.Sub64"], unfollowed := true, recurses := true, named := ["wardmote/field.primeQ"], apart := false, laid := [("wardmote/field.primeQ", laid_wardmote_field_primeQ)], narrowed := true }
def AuditGivesUptoSaid : Prop := auditGivesUptoRow.holds Tryd.pinned (OpenSpec.upto auditGivesSpec)

end Rows
end Go.Proofs.YtkhlkkfhhjocpaaDoor
