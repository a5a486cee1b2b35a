/- What the rows' conditions give of the curve's variables. -/
import Derived.Test.YtkdejflgmgljiaaDoorOpnP
import Derived.Test.YtkdejflgmgljiaaDoorGnA
namespace Go.Proofs.YtkdejflgmgljiaaDoor
open Go Go.ChangeShapes Go.WideShapes Go.ChangeAt Go.RowKit

set_option maxRecDepth 100000 in
theorem laid_num {H : Type} {enc : TypeId × Value → H} {W : World} {n : String} {g base fuel : Nat} {spare : Nat → Bool} {held : Bool} {cs : Array Value} {a0 a1 a2 a3 : Int} {q : List MemPlace}
    (hg : Tryd.prog.globalNamed n = some g) (hv : W.var? Tryd.prog n = some cs)
    (hd : DataW.trod enc Tryd.prog W base spare held fuel 34 cs.toList = some (.agg [.lit (.int .u64 a0), .lit (.int .u64 a1), .lit (.int .u64 a2), .lit (.int .u64 a3)], q)) :
    W.cell? ⟨g, 0, none⟩ = some (.int .u64 a0) ∧ W.cell? ⟨g, 1, none⟩ = some (.int .u64 a1) ∧ W.cell? ⟨g, 2, none⟩ = some (.int .u64 a2) ∧ W.cell? ⟨g, 3, none⟩ = some (.int .u64 a3) := by
  have c := World.var?_cell hg hv
  obtain ⟨xs, m, _, hx, hlen, hl, hall⟩ := DataW.trod_array Tryd.underlying34 hd
  have i0 := hall 0 (by omega)
  have i1 := hall 1 (by omega)
  have i2 := hall 2 (by omega)
  have i3 := hall 3 (by omega)
  rw [cellsNum] at hlen
  obtain ⟨l⟩ := cs
  match l, hlen, xs, hl with
  | [c0, c1, c2, c3], _, [y0, y1, y2, y3], _ =>
    simp [cellsLimb] at i0 i1 i2 i3
    obtain ⟨x0, e0, rfl, w0⟩ := DataW.trod_int Tryd.underlying32 i0
    obtain ⟨x1, e1, rfl, w1⟩ := DataW.trod_int Tryd.underlying32 i1
    obtain ⟨x2, e2, rfl, w2⟩ := DataW.trod_int Tryd.underlying32 i2
    obtain ⟨x3, e3, rfl, w3⟩ := DataW.trod_int Tryd.underlying32 i3
    simp at hx e0 e1 e2 e3
    obtain ⟨⟨rfl, rfl, rfl, rfl⟩, _⟩ := hx
    subst e0 e1 e2 e3
    exact ⟨c 0, c 1, c 2, c 3⟩
theorem num4_of {W : World} {g n : Nat} {a0 a1 a2 a3 : Int} (h : W.cell? ⟨g, 0, none⟩ = some (.int .u64 a0) ∧ W.cell? ⟨g, 1, none⟩ = some (.int .u64 a1) ∧ W.cell? ⟨g, 2, none⟩ = some (.int .u64 a2) ∧ W.cell? ⟨g, 3, none⟩ = some (.int .u64 a3))
    (e0 : a0 = (limb n 0 : Nat)) (e1 : a1 = (limb n 1 : Nat)) (e2 : a2 = (limb n 2 : Nat)) (e3 : a3 = (limb n 3 : Nat)) : Num4 W g n := by
  subst e0 e1 e2 e3
  exact limbs4 _ h.1 h.2.1 h.2.2.1 h.2.2.2
theorem size_of_cell {W : World} {g : Nat} {v : Value} (h : W.cell? ⟨g, 0, none⟩ = some v) : g < W.heap.size := by
  rcases Nat.lt_or_ge g W.heap.size with l | l
  · exact l
  · have : W.cell? ⟨g, 0, none⟩ = none := by simp [World.cell?, Array.getElem?_eq_none l]
    rw [this] at h
    cases h
theorem glob_FeldCommits {W : World} (h : laidMetH Tryd.prog Rows.feldCommitsRow.laid W) : GlobP W ∧ GTH W ∧ GG W ∧ GlobQ W := by
  rw [MakeChecks.laidMetH_plain _ _ _ (by kernel_rfl)] at h
  obtain ⟨ps, ⟨g0, t0, cs0, f0, p0, q0, hg0, ht0, hv0, hd0, ⟨g1, t1, cs1, f1, p1, q1, hg1, ht1, hv1, hd1, ⟨g2, t2, cs2, f2, p2, q2, hg2, ht2, hv2, hd2, ⟨g3, t3, cs3, f3, p3, q3, hg3, ht3, hv3, hd3, ⟨g4, t4, cs4, f4, p4, q4, hg4, ht4, hv4, hd4, _, _⟩, _⟩, _⟩, _⟩, _⟩, _, _⟩ := h
  have e0 : some g0 = some 4 := hg0.symm.trans (by kernel_rfl)
  cases e0
  have u0 : some t0 = some 34 := ht0.symm.trans (by kernel_rfl)
  cases u0
  have c0 := laid_num hg0 hv0 hd0
  have n0 : Num4 W 4 PP := num4_of c0 (by kernel_rfl) (by kernel_rfl) (by kernel_rfl) (by kernel_rfl)
  have s0 := size_of_cell c0.1
  have e1 : some g1 = some 2 := hg1.symm.trans (by kernel_rfl)
  cases e1
  have u1 : some t1 = some 34 := ht1.symm.trans (by kernel_rfl)
  cases u1
  have c1 := laid_num hg1 hv1 hd1
  have n1 : Num4 W 2 QQ := num4_of c1 (by kernel_rfl) (by kernel_rfl) (by kernel_rfl) (by kernel_rfl)
  have s1 := size_of_cell c1.1
  have e2 : some g2 = some 0 := hg2.symm.trans (by kernel_rfl)
  cases e2
  have u2 : some t2 = some 34 := ht2.symm.trans (by kernel_rfl)
  cases u2
  have c2 := laid_num hg2 hv2 hd2
  have n2 : Num4 W 0 GX := num4_of c2 (by kernel_rfl) (by kernel_rfl) (by kernel_rfl) (by kernel_rfl)
  have s2 := size_of_cell c2.1
  have e3 : some g3 = some 1 := hg3.symm.trans (by kernel_rfl)
  cases e3
  have u3 : some t3 = some 34 := ht3.symm.trans (by kernel_rfl)
  cases u3
  have c3 := laid_num hg3 hv3 hd3
  have n3 : Num4 W 1 GY := num4_of c3 (by kernel_rfl) (by kernel_rfl) (by kernel_rfl) (by kernel_rfl)
  have s3 := size_of_cell c3.1
  have e4 : some g4 = some 3 := hg4.symm.trans (by kernel_rfl)
  cases e4
  have u4 : some t4 = some 34 := ht4.symm.trans (by kernel_rfl)
  cases u4
  have c4 := laid_num hg4 hv4 hd4
  have n4 : Num4 W 3 TH := num4_of c4 (by kernel_rfl) (by kernel_rfl) (by kernel_rfl) (by kernel_rfl)
  have s4 := size_of_cell c4.1
  exact ⟨⟨n0, s0⟩, ⟨n4, s4⟩, ⟨n2, n3, s2, s3⟩, ⟨n1, s1⟩⟩
end Go.Proofs.YtkdejflgmgljiaaDoor
