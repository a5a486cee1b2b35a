/-
  No cell of these rows narrows 'for every input' (looked for: loops, veiled, ifaces, maps, wideKeys, modest, calm, conditions, laid).
  DERIVED. THE GIVEN ROWS OF THIS SEAT. 5 by the template 'for every input the law returns true; each argument reads behind the call as it read before'; 0 by the template 'total and deterministic' (their statements: YtdeeilhibgholaaTotals.lean).
  GIVEN WITH THE SEED: the statements are not yours to turn. If you find one false, say at which input.
  Laid BY PROGRAM, IN A SANDBOX (cutbox-rows.mjs): the forced cells as the released guide's own fill.sh prints them over the translation 3779cd309a5efc90… (all of the seat's roots in one cut). By AI agents, Wed Nov 11 2026. No macro, syntax, notation, axiom, sorry.
-/
import Derived.Test.YtdeeilhibgholaaChecked
import GoSem.Claim
import GoSem.ClaimJoined
import GoSem.ClaimMapViews
import Derived.JoinedTies
import Derived.KernelRfl
namespace Go.Proofs.Ytdeeilhibgholaa
/- THE CELL 'sum', in the pinned program and in every row, IS THE sha256 OF THE DUMP (.gsa) THAT YtdeeilhibgholaaProg.lean LOADS. Nothing in Lean hashes anything: it is a label: what it is worth is what the hold of that sum in a sandbox is worth. -/
noncomputable def Try.pinned : Pinned := { name := "ytdeeilhibgholaa", sum := "3779cd309a5efc90a666cf7f2e6e3074221cdbc047582d33098f4794bc3b652f", checked := Try.checked }
namespace Rows
def none {H : Type} : Left H := { results := [], args := [] }

/-- 'wardmotelaw09.ParcelPacks': WHATEVER THE INPUT: true; the input reads as it did. -/
def parcelPacksSpec : ChangeSpec := { name := "parcelPacks", fn := fun _ => fun
  | [d1, d2] => { results := [.lit (.bool true)], args := [d1, d2] }
  | _ => none }
def parcelPacksRow : OpenClaim := { program := "ytdeeilhibgholaa", sum := "3779cd309a5efc90a666cf7f2e6e3074221cdbc047582d33098f4794bc3b652f", func := "wardmote/wardmotelaw09.ParcelPacks", spec := "parcelPacks", apart := false }
def ParcelPacksSaid : Prop := parcelPacksRow.holds Try.pinned (OpenSpec.ofChange parcelPacksSpec)

/-- ITS FALSE NEIGHBOUR: 'it returns false'. Refute it at one input. -/
def parcelPacksWrong : ChangeSpec := { name := "parcelPacks", fn := fun _ => fun
  | [d1, d2] => { results := [.lit (.bool false)], args := [d1, d2] }
  | _ => none }
def ParcelPacksWrongFalsely : Prop := parcelPacksRow.holds Try.pinned (OpenSpec.ofChange parcelPacksWrong)

/-- 'wardmotelaw09.ParcelUnpacks': WHATEVER THE INPUT: true; the input reads as it did. -/
def parcelUnpacksSpec : ChangeSpec := { name := "parcelUnpacks", fn := fun _ => fun
  | [d] => { results := [.lit (.bool true)], args := [d] }
  | _ => none }
def parcelUnpacksRow : OpenClaim := { program := "ytdeeilhibgholaa", sum := "3779cd309a5efc90a666cf7f2e6e3074221cdbc047582d33098f4794bc3b652f", func := "wardmote/wardmotelaw09.ParcelUnpacks", spec := "parcelUnpacks", apart := false }
def ParcelUnpacksSaid : Prop := parcelUnpacksRow.holds Try.pinned (OpenSpec.ofChange parcelUnpacksSpec)

/-- ITS FALSE NEIGHBOUR: 'it returns false'. Refute it at one input. -/
def parcelUnpacksWrong : ChangeSpec := { name := "parcelUnpacks", fn := fun _ => fun
  | [d] => { results := [.lit (.bool false)], args := [d] }
  | _ => none }
def ParcelUnpacksWrongFalsely : Prop := parcelUnpacksRow.holds Try.pinned (OpenSpec.ofChange parcelUnpacksWrong)

/-- 'wardmotelaw09.ParcelInts': WHATEVER THE INPUT: true; the input reads as it did. -/
def parcelIntsSpec : ChangeSpec := { name := "parcelInts", fn := fun _ => fun
  | [d1, d2] => { results := [.lit (.bool true)], args := [d1, d2] }
  | _ => none }
def parcelIntsRow : OpenClaim := { program := "ytdeeilhibgholaa", sum := "3779cd309a5efc90a666cf7f2e6e3074221cdbc047582d33098f4794bc3b652f", func := "wardmote/wardmotelaw09.ParcelInts", spec := "parcelInts", apart := false }
def ParcelIntsSaid : Prop := parcelIntsRow.holds Try.pinned (OpenSpec.ofChange parcelIntsSpec)

/-- ITS FALSE NEIGHBOUR: 'it returns false'. Refute it at one input. -/
def parcelIntsWrong : ChangeSpec := { name := "parcelInts", fn := fun _ => fun
  | [d1, d2] => { results := [.lit (.bool false)], args := [d1, d2] }
  | _ => none }
def ParcelIntsWrongFalsely : Prop := parcelIntsRow.holds Try.pinned (OpenSpec.ofChange parcelIntsWrong)

/-- 'wardmotelaw09.ParcelBack': WHATEVER THE INPUT: true; the input reads as it did. -/
def parcelBackSpec : ChangeSpec := { name := "parcelBack", fn := fun _ => fun
  | [d1, d2, d3] => { results := [.lit (.bool true)], args := [d1, d2, d3] }
  | _ => none }
def parcelBackRow : OpenClaim := { program := "ytdeeilhibgholaa", sum := "3779cd309a5efc90a666cf7f2e6e3074221cdbc047582d33098f4794bc3b652f", func := "wardmote/wardmotelaw09.ParcelBack", spec := "parcelBack", apart := false }
def ParcelBackSaid : Prop := parcelBackRow.holds Try.pinned (OpenSpec.ofChange parcelBackSpec)

/-- ITS FALSE NEIGHBOUR: 'it returns false'. Refute it at one input. -/
def parcelBackWrong : ChangeSpec := { name := "parcelBack", fn := fun _ => fun
  | [d1, d2, d3] => { results := [.lit (.bool false)], args := [d1, d2, d3] }
  | _ => none }
def ParcelBackWrongFalsely : Prop := parcelBackRow.holds Try.pinned (OpenSpec.ofChange parcelBackWrong)

/-- 'wardmotelaw09.ParcelApart': WHATEVER THE INPUT: true; the input reads as it did. -/
def parcelApartSpec : ChangeSpec := { name := "parcelApart", fn := fun _ => fun
  | [d1, d2, d3] => { results := [.lit (.bool true)], args := [d1, d2, d3] }
  | _ => none }
def parcelApartRow : OpenClaim := { program := "ytdeeilhibgholaa", sum := "3779cd309a5efc90a666cf7f2e6e3074221cdbc047582d33098f4794bc3b652f", func := "wardmote/wardmotelaw09.ParcelApart", spec := "parcelApart", apart := false }
def ParcelApartSaid : Prop := parcelApartRow.holds Try.pinned (OpenSpec.ofChange parcelApartSpec)

/-- ITS FALSE NEIGHBOUR: 'it returns false'. Refute it at one input. -/
def parcelApartWrong : ChangeSpec := { name := "parcelApart", fn := fun _ => fun
  | [d1, d2, d3] => { results := [.lit (.bool false)], args := [d1, d2, d3] }
  | _ => none }
def ParcelApartWrongFalsely : Prop := parcelApartRow.holds Try.pinned (OpenSpec.ofChange parcelApartWrong)

/- THE SECOND FORM. 'bulk': how many values and letters a reading holds, each counted each time it is reached (what is shared counts as often as it is met; a slice's spare places count too). A statement '..UptoSaid' is the law's where the arguments, and the package variables that the reading takes, are together of bulk at most 1048576: NARROWER than '..Said'. Prove '..Said' where nothing that the law and all that it calls make is longer than what came in: it says more and counts as full. Else prove '..UptoSaid'. A law counts once. -/
mutual
def uptoBulk {H : Type} : DataW H → Nat
  | .lit (.string bytes) => bytes.length + 1
  | .lit _ => 1
  | .nil => 1
  | .ptr d => uptoBulk d + 1
  | .slice elems spare => uptoBulkAll elems + uptoBulkAll spare + 1
  | .agg parts => uptoBulkAll parts + 1
  | .iface _ d => uptoBulk d + 1
  | .map entries => uptoBulkEntries entries + 1
  | .held _ => 1
def uptoBulkAll {H : Type} : List (DataW H) → Nat
  | [] => 0
  | d :: r => uptoBulk d + uptoBulkAll r
def uptoBulkEntries {H : Type} : List (Lit × DataW H) → Nat
  | [] => 0
  | x :: r => uptoBulkEntry x + uptoBulkEntries r
def uptoBulkEntry {H : Type} : Lit × DataW H → Nat
  | (.string bytes, d) => bytes.length + uptoBulk d + 1
  | (_, d) => uptoBulk d + 1
 end
def uptoSmall : (H : Type) → List (DataW H) → Bool := fun _ ds => decide (uptoBulkAll ds ≤ 1048576)
def OpenSpec.upto (s : _root_.Go.ChangeSpec) : _root_.Go.OpenSpec := { _root_.Go.OpenSpec.ofChange s with cond := some uptoSmall }

/-- 'wardmotelaw09.ParcelPacks', WHERE WHAT IT READS IS OF BULK AT MOST 1048576: true; the input reads as it did. -/
def parcelPacksUptoRow : OpenClaim := { program := "ytdeeilhibgholaa", sum := "3779cd309a5efc90a666cf7f2e6e3074221cdbc047582d33098f4794bc3b652f", func := "wardmote/wardmotelaw09.ParcelPacks", spec := "parcelPacks", apart := false, narrowed := true }
def ParcelPacksUptoSaid : Prop := parcelPacksUptoRow.holds Try.pinned (OpenSpec.upto parcelPacksSpec)

/-- 'wardmotelaw09.ParcelUnpacks', WHERE WHAT IT READS IS OF BULK AT MOST 1048576: true; the input reads as it did. -/
def parcelUnpacksUptoRow : OpenClaim := { program := "ytdeeilhibgholaa", sum := "3779cd309a5efc90a666cf7f2e6e3074221cdbc047582d33098f4794bc3b652f", func := "wardmote/wardmotelaw09.ParcelUnpacks", spec := "parcelUnpacks", apart := false, narrowed := true }
def ParcelUnpacksUptoSaid : Prop := parcelUnpacksUptoRow.holds Try.pinned (OpenSpec.upto parcelUnpacksSpec)

/-- 'wardmotelaw09.ParcelInts', WHERE WHAT IT READS IS OF BULK AT MOST 1048576: true; the input reads as it did. -/
def parcelIntsUptoRow : OpenClaim := { program := "ytdeeilhibgholaa", sum := "3779cd309a5efc90a666cf7f2e6e3074221cdbc047582d33098f4794bc3b652f", func := "wardmote/wardmotelaw09.ParcelInts", spec := "parcelInts", apart := false, narrowed := true }
def ParcelIntsUptoSaid : Prop := parcelIntsUptoRow.holds Try.pinned (OpenSpec.upto parcelIntsSpec)

/-- 'wardmotelaw09.ParcelBack', WHERE WHAT IT READS IS OF BULK AT MOST 1048576: true; the input reads as it did. -/
def parcelBackUptoRow : OpenClaim := { program := "ytdeeilhibgholaa", sum := "3779cd309a5efc90a666cf7f2e6e3074221cdbc047582d33098f4794bc3b652f", func := "wardmote/wardmotelaw09.ParcelBack", spec := "parcelBack", apart := false, narrowed := true }
def ParcelBackUptoSaid : Prop := parcelBackUptoRow.holds Try.pinned (OpenSpec.upto parcelBackSpec)

/-- 'wardmotelaw09.ParcelApart', WHERE WHAT IT READS IS OF BULK AT MOST 1048576: true; the input reads as it did. -/
def parcelApartUptoRow : OpenClaim := { program := "ytdeeilhibgholaa", sum := "3779cd309a5efc90a666cf7f2e6e3074221cdbc047582d33098f4794bc3b652f", func := "wardmote/wardmotelaw09.ParcelApart", spec := "parcelApart", apart := false, narrowed := true }
def ParcelApartUptoSaid : Prop := parcelApartUptoRow.holds Try.pinned (OpenSpec.upto parcelApartSpec)

end Rows
end Go.Proofs.Ytdeeilhibgholaa
