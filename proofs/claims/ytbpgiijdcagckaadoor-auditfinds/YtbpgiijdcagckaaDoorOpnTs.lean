/- Slices of shares among the arguments. -/
import Derived.Test.YtbpgiijdcagckaaDoorOpnRw
import Derived.Test.YtbpgiijdcagckaaDoorFnA
namespace Go.Proofs.YtbpgiijdcagckaaDoor
open Go Go.ChangeShapes Go.WideShapes Go.ChangeAt Go.RowKit
set_option maxRecDepth 100000 in
theorem dec_td {H : Type} {enc : TypeId × Value → H} {W : World} {fuel : Nat} {l : List Value} {x : DataW H × List MemPlace}
    (hf : DataW.trod enc Tryd.prog W 0 (fun _ => true) true fuel 54 l = some x) (hl : l.length = 35) : ∃ t : Td, l = tdV t ∧ t.W ∧ t.R := by
  obtain ⟨c0, l0, rfl, hl0⟩ := len_succ hl
  obtain ⟨c1, l1, rfl, hl1⟩ := len_succ hl0
  obtain ⟨c2, l2, rfl, hl2⟩ := len_succ hl1
  obtain ⟨c3, l3, rfl, hl3⟩ := len_succ hl2
  obtain ⟨c4, l4, rfl, hl4⟩ := len_succ hl3
  obtain ⟨c5, l5, rfl, hl5⟩ := len_succ hl4
  obtain ⟨c6, l6, rfl, hl6⟩ := len_succ hl5
  obtain ⟨c7, l7, rfl, hl7⟩ := len_succ hl6
  obtain ⟨c8, l8, rfl, hl8⟩ := len_succ hl7
  obtain ⟨c9, l9, rfl, hl9⟩ := len_succ hl8
  obtain ⟨c10, l10, rfl, hl10⟩ := len_succ hl9
  obtain ⟨c11, l11, rfl, hl11⟩ := len_succ hl10
  obtain ⟨c12, l12, rfl, hl12⟩ := len_succ hl11
  obtain ⟨c13, l13, rfl, hl13⟩ := len_succ hl12
  obtain ⟨c14, l14, rfl, hl14⟩ := len_succ hl13
  obtain ⟨c15, l15, rfl, hl15⟩ := len_succ hl14
  obtain ⟨c16, l16, rfl, hl16⟩ := len_succ hl15
  obtain ⟨c17, l17, rfl, hl17⟩ := len_succ hl16
  obtain ⟨c18, l18, rfl, hl18⟩ := len_succ hl17
  obtain ⟨c19, l19, rfl, hl19⟩ := len_succ hl18
  obtain ⟨c20, l20, rfl, hl20⟩ := len_succ hl19
  obtain ⟨c21, l21, rfl, hl21⟩ := len_succ hl20
  obtain ⟨c22, l22, rfl, hl22⟩ := len_succ hl21
  obtain ⟨c23, l23, rfl, hl23⟩ := len_succ hl22
  obtain ⟨c24, l24, rfl, hl24⟩ := len_succ hl23
  obtain ⟨c25, l25, rfl, hl25⟩ := len_succ hl24
  obtain ⟨c26, l26, rfl, hl26⟩ := len_succ hl25
  obtain ⟨c27, l27, rfl, hl27⟩ := len_succ hl26
  obtain ⟨c28, l28, rfl, hl28⟩ := len_succ hl27
  obtain ⟨c29, l29, rfl, hl29⟩ := len_succ hl28
  obtain ⟨c30, l30, rfl, hl30⟩ := len_succ hl29
  obtain ⟨c31, l31, rfl, hl31⟩ := len_succ hl30
  obtain ⟨c32, l32, rfl, hl32⟩ := len_succ hl31
  obtain ⟨c33, l33, rfl, hl33⟩ := len_succ hl32
  obtain ⟨c34, l34, rfl, hl34⟩ := len_succ hl33
  obtain rfl := List.length_eq_zero_iff.1 hl34
  obtain ⟨xs, m, _, hx, _, hlx, hall⟩ := DataW.trod_struct Tryd.underlying54 hf
  have i0 := hall 0 _ rfl
  match xs, hlx with
  | [y0, y1, y2, y3, y4], _ =>
    simp [cellsPrK] at i0
    obtain ⟨u0, hu0, hw1, hw2⟩ := trod_prW i0
    obtain ⟨n, dx, dy, di, ex, ey, ei, f, wt, c, z, h0, h1, h2, h3, h4, h5, h6, h7, e0, rfl, rfl, rfl, rfl, rfl, rfl, rfl, rfl, rfl, rfl, rfl, rfl, rfl, rfl, rfl, rfl, rfl, rfl, rfl, rfl, rfl, rfl, rfl, rfl, rfl, rfl, rfl, rfl, rfl, rfl, rfl, rfl, rfl, rfl⟩ := trod_tdK hf
    subst e0
    obtain rfl : n = u0 := by simpa using hu0
    exact ⟨⟨n, dx, dy, di, ex, ey, ei, f, wt, c, z⟩, rfl, ⟨hw1, hw2⟩, h4, h5, h6, h7⟩
set_option maxRecDepth 100000 in
theorem open_tds {H : Type} {enc : TypeId × Value → H} {W : World} {base : Nat} {v : Value} {d : DataW H} {p : List MemPlace}
    (hv : Value.okWide Tryd.prog W .any base 45 v) (h : DataW.Trod enc Tryd.prog W 0 (fun _ => true) true 45 v d p) :
    ∃ (a : Option Addr) (len cap : Nat) (ts : Nat → Td), v = .slice a len cap ∧ TdsAt W a len ts ∧ ∀ j, j < len → (ts j).W ∧ (ts j).R :=
  open_rowsK (E := tdV) (Pp := fun t => t.W ∧ t.R) Tryd.underlying45 cellsTdK (by decide) (fun _ => rfl) (fun hf hl => dec_td hf hl) hv h
end Go.Proofs.YtbpgiijdcagckaaDoor
