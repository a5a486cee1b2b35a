/- A point of the curve that is handed in. -/
import Derived.Test.YtbpgiijdcagckaaDoorFrame
import Derived.LaidMore
import Derived.Stop.Joined
namespace Go.Proofs.YtbpgiijdcagckaaDoor
open Go Go.ChangeShapes Go.WideShapes Go.ChangeAt Go.RowKit

theorem cellsPt : Tryd.prog.cellsOf 29 = 9 := by kernel_rfl
theorem cellsBool : Tryd.prog.cellsOf 4 = 1 := by kernel_rfl
theorem trod_numP {H : Type} {enc : TypeId × Value → H} {W : World} {base fuel : Nat} {spare : Nat → Bool} {held : Bool} {c0 c1 c2 c3 : Value} {x : DataW H × List MemPlace}
    (hf : DataW.trod enc Tryd.prog W base spare held fuel 27 [c0, c1, c2, c3] = some x) :
    ∃ n : Nat, n < R256 ∧ c0 = .int .u64 (limb n 0 : Nat) ∧ c1 = .int .u64 (limb n 1 : Nat) ∧ c2 = .int .u64 (limb n 2 : Nat) ∧ c3 = .int .u64 (limb n 3 : Nat) ∧ x = (.agg [.lit (.int .u64 (limb n 0 : Nat)), .lit (.int .u64 (limb n 1 : Nat)), .lit (.int .u64 (limb n 2 : Nat)), .lit (.int .u64 (limb n 3 : Nat))], []) := by
  obtain ⟨xs, m, _, hx, _, hl, hall⟩ := DataW.trod_array Tryd.underlying27 hf
  have i0 := hall 0 (by omega)
  have i1 := hall 1 (by omega)
  have i2 := hall 2 (by omega)
  have i3 := hall 3 (by omega)
  match xs, hl with
  | [y0, y1, y2, y3], _ =>
    simp [cellsLimb] at i0 i1 i2 i3
    obtain ⟨x0, e0, rfl, w0⟩ := DataW.trod_int Tryd.underlying25 i0
    obtain ⟨x1, e1, rfl, w1⟩ := DataW.trod_int Tryd.underlying25 i1
    obtain ⟨x2, e2, rfl, w2⟩ := DataW.trod_int Tryd.underlying25 i2
    obtain ⟨x3, e3, rfl, w3⟩ := DataW.trod_int Tryd.underlying25 i3
    simp at e0 e1 e2 e3
    subst e0 e1 e2 e3
    obtain ⟨n0, rfl, h0⟩ := word_of_wf w0
    obtain ⟨n1, rfl, h1⟩ := word_of_wf w1
    obtain ⟨n2, rfl, h2⟩ := word_of_wf w2
    obtain ⟨n3, rfl, h3⟩ := word_of_wf w3
    refine ⟨join4 n0 n1 n2 n3, join4_lt _ _ _ _ h0 h1 h2 h3, ?_⟩
    rw [limb_join0 _ _ _ _ h0, limb_join1 _ _ _ _ h0 h1, limb_join2 _ _ _ _ h0 h1 h2, limb_join3 _ _ _ _ h0 h1 h2 h3]
    exact ⟨rfl, rfl, rfl, rfl, hx⟩
set_option maxRecDepth 100000 in
theorem open_pt {H : Type} {enc : TypeId × Value → H} {W : World} {base b0 : Nat} {spare : Nat → Bool} {held : Bool} {r : Reach} {v : Value} {d : DataW H} {p : List MemPlace}
    (hv : Value.okWide Tryd.prog W r b0 29 v) (h : DataW.Trod enc Tryd.prog W base spare held 29 v d p) :
    ∃ (x y : Nat) (i : Bool), x < R256 ∧ y < R256 ∧ v = .agg #[.int .u64 (limb (x) 0 : Nat), .int .u64 (limb (x) 1 : Nat), .int .u64 (limb (x) 2 : Nat), .int .u64 (limb (x) 3 : Nat), .int .u64 (limb (y) 0 : Nat), .int .u64 (limb (y) 1 : Nat), .int .u64 (limb (y) 2 : Nat), .int .u64 (limb (y) 3 : Nat), .bool (i)] := by
  simp only [Value.okWide, Tryd.underlying29] at hv
  obtain ⟨cs, rfl, hsz, _⟩ := hv
  rw [cellsPt] at hsz
  obtain ⟨fuel, hf⟩ := h
  obtain ⟨xs, m, _, hx, _, hl, hall⟩ := DataW.trod_struct Tryd.underlying29 hf
  have i0 := hall 0 _ rfl
  have i1 := hall 1 _ rfl
  have i2 := hall 2 _ rfl
  obtain ⟨l⟩ := cs
  match l, hsz, xs, hl with
  | [c0, c1, c2, c3, d0, d1, d2, d3, e0], _, [y0, y1, y2], _ =>
    simp [Value.cells, cellsNum, cellsBool] at i0 i1 i2
    obtain ⟨x, hx1, rfl, rfl, rfl, rfl, rfl⟩ := trod_numP i0
    obtain ⟨y, hy1, rfl, rfl, rfl, rfl, rfl⟩ := trod_numP i1
    obtain ⟨b, e, rfl⟩ := DataW.trod_bool Tryd.underlying4 i2
    simp at e
    subst e
    exact ⟨x, y, b, hx1, hy1, rfl⟩
end Go.Proofs.YtbpgiijdcagckaaDoor
