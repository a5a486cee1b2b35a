/- A share that was told, handed in. -/
import Derived.Test.YtbpgiijdcagckaaDoorOpnP
import Derived.Test.YtbpgiijdcagckaaDoorAuA
namespace Go.Proofs.YtbpgiijdcagckaaDoor
open Go Go.ChangeShapes Go.WideShapes Go.ChangeAt Go.RowKit
theorem len_succ {l : List Value} {n : Nat} (h : l.length = n + 1) : ∃ a l', l = a :: l' ∧ l'.length = n := by
  match l, h with
  | a :: l', h => exact ⟨a, l', rfl, by simpa using h⟩
theorem cellsIntK : Tryd.prog.cellsOf 3 = 1 := by kernel_rfl
theorem cellsPtK : Tryd.prog.cellsOf 29 = 9 := by kernel_rfl
set_option maxRecDepth 100000 in
theorem trod_ptK {H : Type} {enc : TypeId × Value → H} {W : World} {base fuel : Nat} {spare : Nat → Bool} {held : Bool} {c0 c1 c2 c3 c4 c5 c6 c7 c8 : Value} {x : DataW H × List MemPlace}
    (hf : DataW.trod enc Tryd.prog W base spare held fuel 29 [c0, c1, c2, c3, c4, c5, c6, c7, c8] = some x) :
    ∃ (v0 : Nat) (v1 : Nat) (v2 : Bool), v0 < R256 ∧ v1 < R256 ∧ c0 = .int .u64 (limb v0 0 : Nat) ∧ c1 = .int .u64 (limb v0 1 : Nat) ∧ c2 = .int .u64 (limb v0 2 : Nat) ∧ c3 = .int .u64 (limb v0 3 : Nat) ∧ c4 = .int .u64 (limb v1 0 : Nat) ∧ c5 = .int .u64 (limb v1 1 : Nat) ∧ c6 = .int .u64 (limb v1 2 : Nat) ∧ c7 = .int .u64 (limb v1 3 : Nat) ∧ c8 = .bool v2 := by
  obtain ⟨xs, m, _, hx, _, hl, hall⟩ := DataW.trod_struct Tryd.underlying29 hf
  have i0 := hall 0 _ rfl
  have i1 := hall 1 _ rfl
  have i2 := hall 2 _ rfl
  match xs, hl with
  | [y0, y1, y2], _ =>
    simp [cellsBool, cellsNum] at i0 i1 i2
    obtain ⟨v0, hv0, rfl, rfl, rfl, rfl, rfl⟩ := trod_numP i0
    obtain ⟨v1, hv1, rfl, rfl, rfl, rfl, rfl⟩ := trod_numP i1
    obtain ⟨v2, e2, rfl⟩ := DataW.trod_bool Tryd.underlying4 i2
    simp at e2
    subst e2
    exact ⟨v0, v1, v2, hv0, hv1, rfl, rfl, rfl, rfl, rfl, rfl, rfl, rfl, rfl⟩
theorem cellsPrK : Tryd.prog.cellsOf 31 = 19 := by kernel_rfl
set_option maxRecDepth 100000 in
theorem trod_prK {H : Type} {enc : TypeId × Value → H} {W : World} {base fuel : Nat} {spare : Nat → Bool} {held : Bool} {c0 c1 c2 c3 c4 c5 c6 c7 c8 c9 c10 c11 c12 c13 c14 c15 c16 c17 c18 : Value} {x : DataW H × List MemPlace}
    (hf : DataW.trod enc Tryd.prog W base spare held fuel 31 [c0, c1, c2, c3, c4, c5, c6, c7, c8, c9, c10, c11, c12, c13, c14, c15, c16, c17, c18] = some x) :
    ∃ (v0 : Int) (v1 : Nat) (v2 : Nat) (v3 : Bool) (v4 : Nat) (v5 : Nat) (v6 : Bool), v1 < R256 ∧ v2 < R256 ∧ v4 < R256 ∧ v5 < R256 ∧ c0 = .int .i64 v0 ∧ c1 = .int .u64 (limb v1 0 : Nat) ∧ c2 = .int .u64 (limb v1 1 : Nat) ∧ c3 = .int .u64 (limb v1 2 : Nat) ∧ c4 = .int .u64 (limb v1 3 : Nat) ∧ c5 = .int .u64 (limb v2 0 : Nat) ∧ c6 = .int .u64 (limb v2 1 : Nat) ∧ c7 = .int .u64 (limb v2 2 : Nat) ∧ c8 = .int .u64 (limb v2 3 : Nat) ∧ c9 = .bool v3 ∧ c10 = .int .u64 (limb v4 0 : Nat) ∧ c11 = .int .u64 (limb v4 1 : Nat) ∧ c12 = .int .u64 (limb v4 2 : Nat) ∧ c13 = .int .u64 (limb v4 3 : Nat) ∧ c14 = .int .u64 (limb v5 0 : Nat) ∧ c15 = .int .u64 (limb v5 1 : Nat) ∧ c16 = .int .u64 (limb v5 2 : Nat) ∧ c17 = .int .u64 (limb v5 3 : Nat) ∧ c18 = .bool v6 := by
  obtain ⟨xs, m, _, hx, _, hl, hall⟩ := DataW.trod_struct Tryd.underlying31 hf
  have i0 := hall 0 _ rfl
  have i1 := hall 1 _ rfl
  have i2 := hall 2 _ rfl
  match xs, hl with
  | [y0, y1, y2], _ =>
    simp [cellsIntK, cellsPtK] at i0 i1 i2
    obtain ⟨v0, e0, rfl, _⟩ := DataW.trod_int Tryd.underlying3 i0
    simp at e0
    subst e0
    obtain ⟨v1, v2, v3, hv1, hv2, rfl, rfl, rfl, rfl, rfl, rfl, rfl, rfl, rfl⟩ := trod_ptK i1
    obtain ⟨v4, v5, v6, hv4, hv5, rfl, rfl, rfl, rfl, rfl, rfl, rfl, rfl, rfl⟩ := trod_ptK i2
    exact ⟨v0, v1, v2, v3, v4, v5, v6, hv1, hv2, hv4, hv5, rfl, rfl, rfl, rfl, rfl, rfl, rfl, rfl, rfl, rfl, rfl, rfl, rfl, rfl, rfl, rfl, rfl, rfl, rfl⟩
theorem cellsTdK : Tryd.prog.cellsOf 54 = 35 := by kernel_rfl
set_option maxRecDepth 100000 in
theorem trod_tdK {H : Type} {enc : TypeId × Value → H} {W : World} {base fuel : Nat} {spare : Nat → Bool} {held : Bool} {c0 c1 c2 c3 c4 c5 c6 c7 c8 c9 c10 c11 c12 c13 c14 c15 c16 c17 c18 c19 c20 c21 c22 c23 c24 c25 c26 c27 c28 c29 c30 c31 c32 c33 c34 : Value} {x : DataW H × List MemPlace}
    (hf : DataW.trod enc Tryd.prog W base spare held fuel 54 [c0, c1, c2, c3, c4, c5, c6, c7, c8, c9, c10, c11, c12, c13, c14, c15, c16, c17, c18, c19, c20, c21, c22, c23, c24, c25, c26, c27, c28, c29, c30, c31, c32, c33, c34] = some x) :
    ∃ (v0 : Int) (v1 : Nat) (v2 : Nat) (v3 : Bool) (v4 : Nat) (v5 : Nat) (v6 : Bool) (v7 : Nat) (v8 : Nat) (v9 : Nat) (v10 : Nat), v1 < R256 ∧ v2 < R256 ∧ v4 < R256 ∧ v5 < R256 ∧ v7 < R256 ∧ v8 < R256 ∧ v9 < R256 ∧ v10 < R256 ∧ c0 = .int .i64 v0 ∧ c1 = .int .u64 (limb v1 0 : Nat) ∧ c2 = .int .u64 (limb v1 1 : Nat) ∧ c3 = .int .u64 (limb v1 2 : Nat) ∧ c4 = .int .u64 (limb v1 3 : Nat) ∧ c5 = .int .u64 (limb v2 0 : Nat) ∧ c6 = .int .u64 (limb v2 1 : Nat) ∧ c7 = .int .u64 (limb v2 2 : Nat) ∧ c8 = .int .u64 (limb v2 3 : Nat) ∧ c9 = .bool v3 ∧ c10 = .int .u64 (limb v4 0 : Nat) ∧ c11 = .int .u64 (limb v4 1 : Nat) ∧ c12 = .int .u64 (limb v4 2 : Nat) ∧ c13 = .int .u64 (limb v4 3 : Nat) ∧ c14 = .int .u64 (limb v5 0 : Nat) ∧ c15 = .int .u64 (limb v5 1 : Nat) ∧ c16 = .int .u64 (limb v5 2 : Nat) ∧ c17 = .int .u64 (limb v5 3 : Nat) ∧ c18 = .bool v6 ∧ c19 = .int .u64 (limb v7 0 : Nat) ∧ c20 = .int .u64 (limb v7 1 : Nat) ∧ c21 = .int .u64 (limb v7 2 : Nat) ∧ c22 = .int .u64 (limb v7 3 : Nat) ∧ c23 = .int .u64 (limb v8 0 : Nat) ∧ c24 = .int .u64 (limb v8 1 : Nat) ∧ c25 = .int .u64 (limb v8 2 : Nat) ∧ c26 = .int .u64 (limb v8 3 : Nat) ∧ c27 = .int .u64 (limb v9 0 : Nat) ∧ c28 = .int .u64 (limb v9 1 : Nat) ∧ c29 = .int .u64 (limb v9 2 : Nat) ∧ c30 = .int .u64 (limb v9 3 : Nat) ∧ c31 = .int .u64 (limb v10 0 : Nat) ∧ c32 = .int .u64 (limb v10 1 : Nat) ∧ c33 = .int .u64 (limb v10 2 : Nat) ∧ c34 = .int .u64 (limb v10 3 : Nat) := by
  obtain ⟨xs, m, _, hx, _, hl, hall⟩ := DataW.trod_struct Tryd.underlying54 hf
  have i0 := hall 0 _ rfl
  have i1 := hall 1 _ rfl
  have i2 := hall 2 _ rfl
  have i3 := hall 3 _ rfl
  have i4 := hall 4 _ rfl
  match xs, hl with
  | [y0, y1, y2, y3, y4], _ =>
    simp [cellsNum, cellsPrK] at i0 i1 i2 i3 i4
    obtain ⟨v0, v1, v2, v3, v4, v5, v6, hv1, hv2, hv4, hv5, rfl, rfl, rfl, rfl, rfl, rfl, rfl, rfl, rfl, rfl, rfl, rfl, rfl, rfl, rfl, rfl, rfl, rfl, rfl⟩ := trod_prK i0
    obtain ⟨v7, hv7, rfl, rfl, rfl, rfl, rfl⟩ := trod_numP i1
    obtain ⟨v8, hv8, rfl, rfl, rfl, rfl, rfl⟩ := trod_numP i2
    obtain ⟨v9, hv9, rfl, rfl, rfl, rfl, rfl⟩ := trod_numP i3
    obtain ⟨v10, hv10, rfl, rfl, rfl, rfl, rfl⟩ := trod_numP i4
    exact ⟨v0, v1, v2, v3, v4, v5, v6, v7, v8, v9, v10, hv1, hv2, hv4, hv5, hv7, hv8, hv9, hv10, rfl, rfl, rfl, rfl, rfl, rfl, rfl, rfl, rfl, rfl, rfl, rfl, rfl, rfl, rfl, rfl, rfl, rfl, rfl, rfl, rfl, rfl, rfl, rfl, rfl, rfl, rfl, rfl, rfl, rfl, rfl, rfl, rfl, rfl, rfl⟩
set_option maxRecDepth 100000 in
theorem open_told {H : Type} {enc : TypeId × Value → H} {W : World} {base b0 : Nat} {spare : Nat → Bool} {held : Bool} {r : Reach} {v : Value} {d : DataW H} {p : List MemPlace}
    (hv : Value.okWide Tryd.prog W r b0 54 v) (h : DataW.Trod enc Tryd.prog W base spare held 54 v d p) :
    ∃ t : Td, t.R ∧ v = .agg (tdV t).toArray := by
  simp only [Value.okWide, Tryd.underlying54] at hv
  obtain ⟨cs, rfl, hsz, _⟩ := hv
  rw [cellsTdK] at hsz
  obtain ⟨fuel, hf⟩ := h
  obtain ⟨l⟩ := cs
  have hl : l.length = 35 := hsz
  clear hsz
  obtain ⟨c0, l0, rfl, hl0⟩ := len_succ hl
  obtain ⟨c1, l1, rfl, hl1⟩ := len_succ hl0
  obtain ⟨c2, l2, rfl, hl2⟩ := len_succ hl1
  obtain ⟨c3, l3, rfl, hl3⟩ := len_succ hl2
  obtain ⟨c4, l4, rfl, hl4⟩ := len_succ hl3
  obtain ⟨c5, l5, rfl, hl5⟩ := len_succ hl4
  obtain ⟨c6, l6, rfl, hl6⟩ := len_succ hl5
  obtain ⟨c7, l7, rfl, hl7⟩ := len_succ hl6
  obtain ⟨c8, l8, rfl, hl8⟩ := len_succ hl7
  obtain ⟨c9, l9, rfl, hl9⟩ := len_succ hl8
  obtain ⟨c10, l10, rfl, hl10⟩ := len_succ hl9
  obtain ⟨c11, l11, rfl, hl11⟩ := len_succ hl10
  obtain ⟨c12, l12, rfl, hl12⟩ := len_succ hl11
  obtain ⟨c13, l13, rfl, hl13⟩ := len_succ hl12
  obtain ⟨c14, l14, rfl, hl14⟩ := len_succ hl13
  obtain ⟨c15, l15, rfl, hl15⟩ := len_succ hl14
  obtain ⟨c16, l16, rfl, hl16⟩ := len_succ hl15
  obtain ⟨c17, l17, rfl, hl17⟩ := len_succ hl16
  obtain ⟨c18, l18, rfl, hl18⟩ := len_succ hl17
  obtain ⟨c19, l19, rfl, hl19⟩ := len_succ hl18
  obtain ⟨c20, l20, rfl, hl20⟩ := len_succ hl19
  obtain ⟨c21, l21, rfl, hl21⟩ := len_succ hl20
  obtain ⟨c22, l22, rfl, hl22⟩ := len_succ hl21
  obtain ⟨c23, l23, rfl, hl23⟩ := len_succ hl22
  obtain ⟨c24, l24, rfl, hl24⟩ := len_succ hl23
  obtain ⟨c25, l25, rfl, hl25⟩ := len_succ hl24
  obtain ⟨c26, l26, rfl, hl26⟩ := len_succ hl25
  obtain ⟨c27, l27, rfl, hl27⟩ := len_succ hl26
  obtain ⟨c28, l28, rfl, hl28⟩ := len_succ hl27
  obtain ⟨c29, l29, rfl, hl29⟩ := len_succ hl28
  obtain ⟨c30, l30, rfl, hl30⟩ := len_succ hl29
  obtain ⟨c31, l31, rfl, hl31⟩ := len_succ hl30
  obtain ⟨c32, l32, rfl, hl32⟩ := len_succ hl31
  obtain ⟨c33, l33, rfl, hl33⟩ := len_succ hl32
  obtain ⟨c34, l34, rfl, hl34⟩ := len_succ hl33
  obtain rfl := List.length_eq_zero_iff.1 hl34
  obtain ⟨n, dx, dy, di, ex, ey, ei, f, wt, c, z, h0, h1, h2, h3, h4, h5, h6, h7, rfl, rfl, rfl, rfl, rfl, rfl, rfl, rfl, rfl, rfl, rfl, rfl, rfl, rfl, rfl, rfl, rfl, rfl, rfl, rfl, rfl, rfl, rfl, rfl, rfl, rfl, rfl, rfl, rfl, rfl, rfl, rfl, rfl, rfl, rfl⟩ := trod_tdK hf
  exact ⟨⟨n, dx, dy, di, ex, ey, ei, f, wt, c, z⟩, ⟨h4, h5, h6, h7⟩, rfl⟩
end Go.Proofs.YtbpgiijdcagckaaDoor
