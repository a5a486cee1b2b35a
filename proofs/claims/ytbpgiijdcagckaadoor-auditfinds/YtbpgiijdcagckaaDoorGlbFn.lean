/- What the row's condition on the package's variables gives. -/
import Derived.Test.YtbpgiijdcagckaaDoorAuG
import Derived.Test.YtbpgiijdcagckaaDoorLbA
import Derived.ProofKit
import Derived.OpenShut
import Derived.Below
import Derived.LaidMore
import Derived.Stop.Joined
namespace Go.Proofs.YtbpgiijdcagckaaDoor
open Go Go.ChangeShapes Go.WideShapes Go.ChangeAt Go.RowKit
theorem cellsNumX : Tryd.prog.cellsOf 27 = 4 := by kernel_rfl
theorem cellsLimbX : Tryd.prog.cellsOf 25 = 1 := by kernel_rfl
set_option maxRecDepth 100000 in
theorem laid_numX {H : Type} {enc : TypeId × Value → H} {W : World} {n : String} {g base fuel : Nat} {spare : Nat → Bool} {held : Bool} {cs : Array Value} {a0 a1 a2 a3 : Int} {q : List MemPlace}
    (hg : Tryd.prog.globalNamed n = some g) (hv : W.var? Tryd.prog n = some cs)
    (hd : DataW.trod enc Tryd.prog W base spare held fuel 27 cs.toList = some (.agg [.lit (.int .u64 a0), .lit (.int .u64 a1), .lit (.int .u64 a2), .lit (.int .u64 a3)], q)) :
    W.cell? ⟨g, 0, none⟩ = some (.int .u64 a0) ∧ W.cell? ⟨g, 1, none⟩ = some (.int .u64 a1) ∧ W.cell? ⟨g, 2, none⟩ = some (.int .u64 a2) ∧ W.cell? ⟨g, 3, none⟩ = some (.int .u64 a3) := by
  have c := World.var?_cell hg hv
  obtain ⟨xs, m, _, hx, hlen, hl, hall⟩ := DataW.trod_array Tryd.underlying27 hd
  have i0 := hall 0 (by omega)
  have i1 := hall 1 (by omega)
  have i2 := hall 2 (by omega)
  have i3 := hall 3 (by omega)
  rw [cellsNumX] at hlen
  obtain ⟨l⟩ := cs
  match l, hlen, xs, hl with
  | [c0, c1, c2, c3], _, [y0, y1, y2, y3], _ =>
    simp [cellsLimbX] at i0 i1 i2 i3
    obtain ⟨x0, e0, rfl, w0⟩ := DataW.trod_int Tryd.underlying25 i0
    obtain ⟨x1, e1, rfl, w1⟩ := DataW.trod_int Tryd.underlying25 i1
    obtain ⟨x2, e2, rfl, w2⟩ := DataW.trod_int Tryd.underlying25 i2
    obtain ⟨x3, e3, rfl, w3⟩ := DataW.trod_int Tryd.underlying25 i3
    simp at hx e0 e1 e2 e3
    obtain ⟨⟨rfl, rfl, rfl, rfl⟩, _⟩ := hx
    subst e0 e1 e2 e3
    exact ⟨c 0, c 1, c 2, c 3⟩
theorem num4_ofX {W : World} {g n : Nat} {a0 a1 a2 a3 : Int} (h : W.cell? ⟨g, 0, none⟩ = some (.int .u64 a0) ∧ W.cell? ⟨g, 1, none⟩ = some (.int .u64 a1) ∧ W.cell? ⟨g, 2, none⟩ = some (.int .u64 a2) ∧ W.cell? ⟨g, 3, none⟩ = some (.int .u64 a3))
    (e0 : a0 = (limb n 0 : Nat)) (e1 : a1 = (limb n 1 : Nat)) (e2 : a2 = (limb n 2 : Nat)) (e3 : a3 = (limb n 3 : Nat)) : Num4 W g n := by
  subst e0 e1 e2 e3
  exact limbs4 _ h.1 h.2.1 h.2.2.1 h.2.2.2
theorem Tryd.own : ownKnob Tryd.prog.godebug = none := by kernel_rfl
theorem size_of_cell {W : World} {g : Nat} {v : Value} (h : W.cell? ⟨g, 0, none⟩ = some v) : g < W.heap.size := by
  rcases Nat.lt_or_ge g W.heap.size with l | l
  · exact l
  · have : W.cell? ⟨g, 0, none⟩ = none := by simp [World.cell?, Array.getElem?_eq_none l]
    rw [this] at h
    cases h
set_option maxRecDepth 100000 in
theorem glob_X {W : World} (h : laidMetH Tryd.prog Rows.auditFindsRow.laid W) : GlobQ W := by
  rw [MakeChecks.laidMetH_plain _ _ _ (by kernel_rfl)] at h
  obtain ⟨ps, ⟨g0, t0, cs0, f0, p0, q0, hg0, ht0, hv0, hd0, _, _⟩, _, _⟩ := h
  have e0 : some g0 = some 0 := hg0.symm.trans (by kernel_rfl)
  cases e0
  have u0 : some t0 = some 27 := ht0.symm.trans (by kernel_rfl)
  cases u0
  have c0 := laid_numX hg0 hv0 hd0
  have s0 := size_of_cell c0.1
  exact ⟨num4_ofX c0 (by kernel_rfl) (by kernel_rfl) (by kernel_rfl) (by kernel_rfl), s0⟩
end Go.Proofs.YtbpgiijdcagckaaDoor
