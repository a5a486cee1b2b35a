/- What the row's condition on the package's variables gives. -/
import Derived.Test.YtchphekaonnfeaaDoorMgM
import Derived.Test.YtchphekaonnfeaaDoorScL
namespace Go.Proofs.YtchphekaonnfeaaDoor
open Go Go.ChangeShapes Go.WideShapes Go.ChangeAt Go.RowKit
theorem cellsNumX : Tryd.prog.cellsOf 24 = 4 := by kernel_rfl
theorem cellsLimbX : Tryd.prog.cellsOf 22 = 1 := by kernel_rfl
set_option maxRecDepth 100000 in
theorem laid_numX {H : Type} {enc : TypeId × Value → H} {W : World} {n : String} {g base fuel : Nat} {spare : Nat → Bool} {held : Bool} {cs : Array Value} {a0 a1 a2 a3 : Int} {q : List MemPlace}
    (hg : Tryd.prog.globalNamed n = some g) (hv : W.var? Tryd.prog n = some cs)
    (hd : DataW.trod enc Tryd.prog W base spare held fuel 24 cs.toList = some (.agg [.lit (.int .u64 a0), .lit (.int .u64 a1), .lit (.int .u64 a2), .lit (.int .u64 a3)], q)) :
    W.cell? ⟨g, 0, none⟩ = some (.int .u64 a0) ∧ W.cell? ⟨g, 1, none⟩ = some (.int .u64 a1) ∧ W.cell? ⟨g, 2, none⟩ = some (.int .u64 a2) ∧ W.cell? ⟨g, 3, none⟩ = some (.int .u64 a3) := by
  have c := World.var?_cell hg hv
  obtain ⟨xs, m, _, hx, hlen, hl, hall⟩ := DataW.trod_array Tryd.underlying24 hd
  have i0 := hall 0 (by omega)
  have i1 := hall 1 (by omega)
  have i2 := hall 2 (by omega)
  have i3 := hall 3 (by omega)
  rw [cellsNumX] at hlen
  obtain ⟨l⟩ := cs
  match l, hlen, xs, hl with
  | [c0, c1, c2, c3], _, [y0, y1, y2, y3], _ =>
    simp [cellsLimbX] at i0 i1 i2 i3
    obtain ⟨x0, e0, rfl, w0⟩ := DataW.trod_int Tryd.underlying22 i0
    obtain ⟨x1, e1, rfl, w1⟩ := DataW.trod_int Tryd.underlying22 i1
    obtain ⟨x2, e2, rfl, w2⟩ := DataW.trod_int Tryd.underlying22 i2
    obtain ⟨x3, e3, rfl, w3⟩ := DataW.trod_int Tryd.underlying22 i3
    simp at hx e0 e1 e2 e3
    obtain ⟨⟨rfl, rfl, rfl, rfl⟩, _⟩ := hx
    subst e0 e1 e2 e3
    exact ⟨c 0, c 1, c 2, c 3⟩
theorem num4_ofX {W : World} {g n : Nat} {a0 a1 a2 a3 : Int} (h : W.cell? ⟨g, 0, none⟩ = some (.int .u64 a0) ∧ W.cell? ⟨g, 1, none⟩ = some (.int .u64 a1) ∧ W.cell? ⟨g, 2, none⟩ = some (.int .u64 a2) ∧ W.cell? ⟨g, 3, none⟩ = some (.int .u64 a3))
    (e0 : a0 = (limb n 0 : Nat)) (e1 : a1 = (limb n 1 : Nat)) (e2 : a2 = (limb n 2 : Nat)) (e3 : a3 = (limb n 3 : Nat)) : Num4 W g n := by
  subst e0 e1 e2 e3
  exact limbs4 _ h.1 h.2.1 h.2.2.1 h.2.2.2
set_option maxRecDepth 100000 in
theorem glob_X {W : World} (h : laidMetH Tryd.prog Rows.schnorrTellsRow.laid W) : GlobP W ∧ (GlobD W ∧ 6 < W.heap.size) ∧ GlobQ W ∧ GTH W ∧ GG W := by
  rw [MakeChecks.laidMetH_plain _ _ _ (by kernel_rfl)] at h
  obtain ⟨ps, ⟨g0, t0, cs0, f0, p0, q0, hg0, ht0, hv0, hd0, ⟨g1, t1, cs1, f1, p1, q1, hg1, ht1, hv1, hd1, ⟨g2, t2, cs2, f2, p2, q2, hg2, ht2, hv2, hd2, ⟨g3, t3, cs3, f3, p3, q3, hg3, ht3, hv3, hd3, ⟨g4, t4, cs4, f4, p4, q4, hg4, ht4, hv4, hd4, ⟨g5, t5, cs5, f5, p5, q5, hg5, ht5, hv5, hd5, ⟨g6, t6, cs6, f6, p6, q6, hg6, ht6, hv6, hd6, _, _⟩, _⟩, _⟩, _⟩, _⟩, _⟩, _⟩, _, _⟩ := h
  have e0 : some g0 = some 5 := hg0.symm.trans (by kernel_rfl)
  cases e0
  have u0 : some t0 = some 130 := ht0.symm.trans (by kernel_rfl)
  cases u0
  have c0 : ∀ j, j < 8 → W.cell? ⟨5, j, none⟩ = some (.int .u32 (squareL.getD j 0 : Nat)) := fun j hj => laid_u32 squareL rfl Tryd.underlying130 hg0 hv0 hd0 j hj
  have s0 := size_of_cell (c0 0 (by omega))
  have e1 : some g1 = some 6 := hg1.symm.trans (by kernel_rfl)
  cases e1
  have u1 : some t1 = some 136 := ht1.symm.trans (by kernel_rfl)
  cases u1
  have c1 : ∀ j, j < 64 → W.cell? ⟨6, j, none⟩ = some (.int .u32 (cubeL.getD j 0 : Nat)) := fun j hj => laid_u32 cubeL rfl Tryd.underlying136 hg1 hv1 hd1 j hj
  have s1 := size_of_cell (c1 0 (by omega))
  have e2 : some g2 = some 4 := hg2.symm.trans (by kernel_rfl)
  cases e2
  have u2 : some t2 = some 24 := ht2.symm.trans (by kernel_rfl)
  cases u2
  have c2 := laid_numX hg2 hv2 hd2
  have s2 := size_of_cell c2.1
  have e3 : some g3 = some 0 := hg3.symm.trans (by kernel_rfl)
  cases e3
  have u3 : some t3 = some 24 := ht3.symm.trans (by kernel_rfl)
  cases u3
  have c3 := laid_numX hg3 hv3 hd3
  have s3 := size_of_cell c3.1
  have e4 : some g4 = some 1 := hg4.symm.trans (by kernel_rfl)
  cases e4
  have u4 : some t4 = some 24 := ht4.symm.trans (by kernel_rfl)
  cases u4
  have c4 := laid_numX hg4 hv4 hd4
  have s4 := size_of_cell c4.1
  have e5 : some g5 = some 2 := hg5.symm.trans (by kernel_rfl)
  cases e5
  have u5 : some t5 = some 24 := ht5.symm.trans (by kernel_rfl)
  cases u5
  have c5 := laid_numX hg5 hv5 hd5
  have s5 := size_of_cell c5.1
  have e6 : some g6 = some 3 := hg6.symm.trans (by kernel_rfl)
  cases e6
  have u6 : some t6 = some 24 := ht6.symm.trans (by kernel_rfl)
  cases u6
  have c6 := laid_numX hg6 hv6 hd6
  have s6 := size_of_cell c6.1
  exact ⟨⟨num4_ofX c2 (by kernel_rfl) (by kernel_rfl) (by kernel_rfl) (by kernel_rfl), s2⟩, ⟨⟨fun j hj => by rw [c0 j hj, square_get j hj], s0, c1, s1⟩, s1⟩, ⟨num4_ofX c3 (by kernel_rfl) (by kernel_rfl) (by kernel_rfl) (by kernel_rfl), s3⟩, ⟨num4_ofX c6 (by kernel_rfl) (by kernel_rfl) (by kernel_rfl) (by kernel_rfl), s6⟩, ⟨num4_ofX c4 (by kernel_rfl) (by kernel_rfl) (by kernel_rfl) (by kernel_rfl), num4_ofX c5 (by kernel_rfl) (by kernel_rfl) (by kernel_rfl) (by kernel_rfl), s4, s5⟩⟩
end Go.Proofs.YtchphekaonnfeaaDoor
