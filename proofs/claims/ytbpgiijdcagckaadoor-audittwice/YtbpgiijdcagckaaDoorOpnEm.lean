/- Slices of emits among the arguments. -/
import Derived.Test.YtbpgiijdcagckaaDoorOpnRw
import Derived.Test.YtbpgiijdcagckaaDoorTwM
namespace Go.Proofs.YtbpgiijdcagckaaDoor
open Go Go.ChangeShapes Go.WideShapes Go.ChangeAt Go.RowKit
theorem cellsEmK : Tryd.prog.cellsOf 33 = 23 := by kernel_rfl
set_option maxRecDepth 100000 in
theorem dec_em {H : Type} {enc : TypeId × Value → H} {W : World} {fuel : Nat} {l : List Value} {x : DataW H × List MemPlace}
    (hf : DataW.trod enc Tryd.prog W 0 (fun _ => true) true fuel 33 l = some x) (hl : l.length = 23) : ∃ t : Td, l = emV t ∧ t.W := by
  obtain ⟨c0, l0, rfl, hl0⟩ := len_succ hl
  obtain ⟨c1, l1, rfl, hl1⟩ := len_succ hl0
  obtain ⟨c2, l2, rfl, hl2⟩ := len_succ hl1
  obtain ⟨c3, l3, rfl, hl3⟩ := len_succ hl2
  obtain ⟨c4, l4, rfl, hl4⟩ := len_succ hl3
  obtain ⟨c5, l5, rfl, hl5⟩ := len_succ hl4
  obtain ⟨c6, l6, rfl, hl6⟩ := len_succ hl5
  obtain ⟨c7, l7, rfl, hl7⟩ := len_succ hl6
  obtain ⟨c8, l8, rfl, hl8⟩ := len_succ hl7
  obtain ⟨c9, l9, rfl, hl9⟩ := len_succ hl8
  obtain ⟨c10, l10, rfl, hl10⟩ := len_succ hl9
  obtain ⟨c11, l11, rfl, hl11⟩ := len_succ hl10
  obtain ⟨c12, l12, rfl, hl12⟩ := len_succ hl11
  obtain ⟨c13, l13, rfl, hl13⟩ := len_succ hl12
  obtain ⟨c14, l14, rfl, hl14⟩ := len_succ hl13
  obtain ⟨c15, l15, rfl, hl15⟩ := len_succ hl14
  obtain ⟨c16, l16, rfl, hl16⟩ := len_succ hl15
  obtain ⟨c17, l17, rfl, hl17⟩ := len_succ hl16
  obtain ⟨c18, l18, rfl, hl18⟩ := len_succ hl17
  obtain ⟨c19, l19, rfl, hl19⟩ := len_succ hl18
  obtain ⟨c20, l20, rfl, hl20⟩ := len_succ hl19
  obtain ⟨c21, l21, rfl, hl21⟩ := len_succ hl20
  obtain ⟨c22, l22, rfl, hl22⟩ := len_succ hl21
  obtain rfl := List.length_eq_zero_iff.1 hl22
  obtain ⟨xs, m, _, hx, _, hlx, hall⟩ := DataW.trod_struct Tryd.underlying33 hf
  have i0 := hall 0 _ rfl
  have i1 := hall 1 _ rfl
  match xs, hlx with
  | [y0, y1], _ =>
    simp [cellsNum, cellsPrK] at i0 i1
    obtain ⟨u0, hu0, hw1, hw2⟩ := trod_prW i0
    obtain ⟨v0, v1, v2, v3, v4, v5, v6, -, -, -, -, e0, rfl, rfl, rfl, rfl, rfl, rfl, rfl, rfl, rfl, rfl, rfl, rfl, rfl, rfl, rfl, rfl, rfl, rfl⟩ := trod_prK i0
    subst e0
    obtain rfl : v0 = u0 := by simpa using hu0
    obtain ⟨v7, -, rfl, rfl, rfl, rfl, rfl⟩ := trod_numP i1
    exact ⟨⟨v0, v1, v2, v3, v4, v5, v6, 0, 0, v7, 0⟩, rfl, hw1, hw2⟩
set_option maxRecDepth 100000 in
theorem open_ems {H : Type} {enc : TypeId × Value → H} {W : World} {base : Nat} {v : Value} {d : DataW H} {p : List MemPlace}
    (hv : Value.okWide Tryd.prog W .any base 22 v) (h : DataW.Trod enc Tryd.prog W 0 (fun _ => true) true 22 v d p) :
    ∃ (a : Option Addr) (len cap : Nat) (ts : Nat → Td), v = .slice a len cap ∧ EmsAt W a len ts ∧ ∀ j, j < len → (ts j).W :=
  open_rowsK (E := emV) (Pp := Td.W) Tryd.underlying22 cellsEmK (by decide) (fun _ => rfl) (fun hf hl => dec_em hf hl) hv h
end Go.Proofs.YtbpgiijdcagckaaDoor
