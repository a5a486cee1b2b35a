/-
  NARROWER THAN 'FOR EVERY INPUT', by the rows' own cells (each row's printed sentence says how): AuditTwice: laid · AuditFinds: laid.
  DERIVED. THE GIVEN ROWS OF THIS SEAT. 2 by the template 'for every input the law returns true; each argument reads behind the call as it read before'; 0 by the template 'total and deterministic' (their statements: YtbpgiijdcagckaaDoorTotals.lean).
  GIVEN WITH THE SEED: the statements are not yours to turn. If you find one false, say at which input.
  Laid BY PROGRAM, IN A SANDBOX (cutbox-rows.mjs): the forced cells as the released guide's own fill.sh prints them over the translation a95fd01188e2f77e… (all of the seat's roots in one cut). By AI agents, Wed Nov 11 2026. No macro, syntax, notation, axiom, sorry.
-/
import Derived.Test.YtbpgiijdcagckaaDoorChecked
import GoSem.Claim
import GoSem.ClaimJoined
import GoSem.ClaimMapViews
import Derived.JoinedTies
import Derived.KernelRfl
namespace Go.Proofs.YtbpgiijdcagckaaDoor
/- THE CELL 'sum', in the pinned program and in every row, IS THE sha256 OF THE DUMP (.gsa) THAT YtbpgiijdcagckaaDoorProg.lean LOADS. Nothing in Lean hashes anything: it is a label: what it is worth is what the hold of that sum in a sandbox is worth. -/
noncomputable def Tryd.pinned : Pinned := { name := "ytbpgiijdcagckaadoor", sum := "a95fd01188e2f77ec9e05a1c4f5402134887edde73a91b245dbc7ef1104535e5", checked := Tryd.checked }
namespace Rows
def none {H : Type} : Left H := { results := [], args := [] }

/- WHAT THE LISTED PACKAGE-LEVEL VARIABLES READ AS WHEN THE CALL BEGINS. Each datum BY PROGRAM (the guide's laid-datum.mjs) off the statement by which the dump's own 'gosem.cut.vars' lays the variable. In a bare row this is a premise. The card (YtbpgiijdcagckaaDoorCards.lean) ties it to the program's text. -/
def laid_wardmote_field_primeQ {H : Type} : DataW H := .agg [.lit (.int .u64 13822214165235122497), .lit (.int .u64 13451932020343611451), .lit (.int .u64 18446744073709551614), .lit (.int .u64 18446744073709551615)]

/-- 'wardmotelaw28.AuditTwice': WHATEVER THE INPUT: true; the input reads as it did. -/
def auditTwiceSpec : ChangeSpec := { name := "auditTwice", fn := fun _ => fun
  | [d] => { results := [.lit (.bool true)], args := [d] }
  | _ => none }
def auditTwiceRow : OpenClaim := { program := "ytbpgiijdcagckaadoor", sum := "a95fd01188e2f77ec9e05a1c4f5402134887edde73a91b245dbc7ef1104535e5", func := "wardmote/wardmotelaw28.AuditTwice", spec := "auditTwice", inPlace := ["math/bits.Sub64", "math/bits.Add64"], unfollowed := true, recurses := true, named := ["wardmote/field.primeQ"], plainKeys := false, apart := false, laid := [("wardmote/field.primeQ", laid_wardmote_field_primeQ)] }
def AuditTwiceSaid : Prop := auditTwiceRow.holds Tryd.pinned (OpenSpec.ofChange auditTwiceSpec)

/-- ITS FALSE NEIGHBOUR: 'it returns false'. Refute it at one input. -/
def auditTwiceWrong : ChangeSpec := { name := "auditTwice", fn := fun _ => fun
  | [d] => { results := [.lit (.bool false)], args := [d] }
  | _ => none }
def AuditTwiceWrongFalsely : Prop := auditTwiceRow.holds Tryd.pinned (OpenSpec.ofChange auditTwiceWrong)

/-- 'wardmotelaw28.AuditFinds': WHATEVER THE INPUT: true; the input reads as it did. -/
def auditFindsSpec : ChangeSpec := { name := "auditFinds", fn := fun _ => fun
  | [d] => { results := [.lit (.bool true)], args := [d] }
  | _ => none }
def auditFindsRow : OpenClaim := { program := "ytbpgiijdcagckaadoor", sum := "a95fd01188e2f77ec9e05a1c4f5402134887edde73a91b245dbc7ef1104535e5", func := "wardmote/wardmotelaw28.AuditFinds", spec := "auditFinds", inPlace := ["math/bits.Sub64", "math/bits.Add64"], unfollowed := true, recurses := true, named := ["wardmote/field.primeQ"], plainKeys := false, apart := false, laid := [("wardmote/field.primeQ", laid_wardmote_field_primeQ)] }
def AuditFindsSaid : Prop := auditFindsRow.holds Tryd.pinned (OpenSpec.ofChange auditFindsSpec)

/-- ITS FALSE NEIGHBOUR: 'it returns false'. Refute it at one input. -/
def auditFindsWrong : ChangeSpec := { name := "auditFinds", fn := fun _ => fun
  | [d] => { results := [.lit (.bool false)], args := [d] }
  | _ => none }
def AuditFindsWrongFalsely : Prop := auditFindsRow.holds Tryd.pinned (OpenSpec.ofChange auditFindsWrong)

/- THE SECOND FORM. 'bulk': how many values and letters a reading holds, each counted each time it is reached (what is shared counts as often as it is met; a slice's spare places count too). A statement '..UptoSaid' is the law's where the arguments, and the package variables that the reading takes, are together of bulk at most 1048576: NARROWER than '..Said'. Prove '..Said' where nothing that the law and all that it calls make is longer than what came in: it says more and counts as full. Else prove '..UptoSaid'. A law counts once. -/
mutual
def uptoBulk {H : Type} : DataW H → Nat
  | .lit (.string bytes) => bytes.length + 1
  | .lit _ => 1
  | .nil => 1
  | .ptr d => uptoBulk d + 1
  | .slice elems spare => uptoBulkAll elems + uptoBulkAll spare + 1
  | .agg parts => uptoBulkAll parts + 1
  | .iface _ d => uptoBulk d + 1
  | .map entries => uptoBulkEntries entries + 1
  | .held _ => 1
def uptoBulkAll {H : Type} : List (DataW H) → Nat
  | [] => 0
  | d :: r => uptoBulk d + uptoBulkAll r
def uptoBulkEntries {H : Type} : List (Lit × DataW H) → Nat
  | [] => 0
  | x :: r => uptoBulkEntry x + uptoBulkEntries r
def uptoBulkEntry {H : Type} : Lit × DataW H → Nat
  | (.string bytes, d) => bytes.length + uptoBulk d + 1
  | (_, d) => uptoBulk d + 1
 end
def uptoSmall : (H : Type) → List (DataW H) → Bool := fun _ ds => decide (uptoBulkAll ds ≤ 1048576)
def OpenSpec.upto (s : _root_.Go.ChangeSpec) : _root_.Go.OpenSpec := { _root_.Go.OpenSpec.ofChange s with cond := some uptoSmall }

/-- 'wardmotelaw28.AuditTwice', WHERE WHAT IT READS IS OF BULK AT MOST 1048576: true; the input reads as it did. -/
def auditTwiceUptoRow : OpenClaim := { program := "ytbpgiijdcagckaadoor", sum := "a95fd01188e2f77ec9e05a1c4f5402134887edde73a91b245dbc7ef1104535e5", func := "wardmote/wardmotelaw28.AuditTwice", spec := "auditTwice", inPlace := ["math/bits.Sub64", "math/bits.Add64"], unfollowed := true, recurses := true, named := ["wardmote/field.primeQ"], plainKeys := false, apart := false, laid := [("wardmote/field.primeQ", laid_wardmote_field_primeQ)], narrowed := true }
def AuditTwiceUptoSaid : Prop := auditTwiceUptoRow.holds Tryd.pinned (OpenSpec.upto auditTwiceSpec)

/-- 'wardmotelaw28.AuditFinds', WHERE WHAT IT READS IS OF BULK AT MOST 1048576: true; the input reads as it did. -/
def auditFindsUptoRow : OpenClaim := { program := "ytbpgiijdcagckaadoor", sum := "a95fd01188e2f77ec9e05a1c4f5402134887edde73a91b245dbc7ef1104535e5", func := "wardmote/wardmotelaw28.AuditFinds", spec := "auditFinds", inPlace := ["math/bits.Sub64", "math/bits.Add64"], unfollowed := true, recurses := true, named := ["wardmote/field.primeQ"], plainKeys := false, apart := false, laid := [("wardmote/field.primeQ", laid_wardmote_field_primeQ)], narrowed := true }
def AuditFindsUptoSaid : Prop := auditFindsUptoRow.holds Tryd.pinned (OpenSpec.upto auditFindsSpec)

end Rows
end Go.Proofs.YtbpgiijdcagckaaDoor
