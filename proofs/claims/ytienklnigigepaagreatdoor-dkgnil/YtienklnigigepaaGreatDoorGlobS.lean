/- What a row's condition on the package's variables gives: the roots lie where the code reads them. -/
import Derived.Test.YtienklnigigepaaGreatDoorShaF
import Derived.ProofKit
import Derived.OpenShut
import Derived.Below
import Derived.LaidMore
import Derived.Stop.Joined
namespace Go.Proofs.YtienklnigigepaaGreatDoor
open Go Go.ChangeShapes Go.WideShapes Go.ChangeAt Go.RowKit

theorem Tryz.own : ownKnob Tryz.prog.godebug = none := by kernel_rfl
theorem cellsW : Tryz.prog.cellsOf 205 = 1 := by kernel_rfl
theorem laid_u32 {H : Type} {enc : TypeId × Value → H} {W : World} {s : String} {g base fuel n : Nat} {t : TypeId} {spare : Nat → Bool} {held : Bool} {cs : Array Value} {q : List MemPlace} (l : List Nat) (hl : l.length = n)
    (ht : Tryz.prog.underlying t = some (.array n 205)) (hg : Tryz.prog.globalNamed s = some g) (hv : W.var? Tryz.prog s = some cs)
    (hd : DataW.trod enc Tryz.prog W base spare held fuel t cs.toList = some (.agg (l.map fun a => .lit (.int .u32 (a : Nat))), q)) (j : Nat) (hj : j < n) : W.cell? ⟨g, j, none⟩ = some (.int .u32 (l.getD j 0 : Nat)) := by
  have c := World.var?_cell hg hv j
  obtain ⟨xs, m, _, hx, hlen, hxl, hall⟩ := DataW.trod_array ht hd
  have i := hall j hj
  rw [cellsW, Nat.mul_one] at i
  have hxj : xs[j]? = some (xs[j]'(by omega)) := List.getElem?_eq_getElem (by omega)
  rw [hxj] at i
  obtain ⟨a, e, ex, _⟩ := DataW.trod_int Tryz.underlying205 i
  have h1 : l.map (fun a => (.lit (.int .u32 (a : Nat)) : DataW H)) = xs.map (·.1) := by
    have := congrArg Prod.fst hx
    simpa using this
  have h2 := congrArg (fun z => z[j]?) h1
  simp only [List.getElem?_map, hxj, ex, Option.map_some] at h2
  have hlj : l[j]? = some (l[j]'(by omega)) := List.getElem?_eq_getElem (by omega)
  rw [hlj] at h2
  simp at h2
  have h3 : (cs.toList.drop j)[0]? = some (.int .u32 a) := by
    have := congrArg (fun z => z[0]?) e
    simpa [List.getElem?_take] using this
  rw [List.getElem?_drop, Nat.add_zero, Array.getElem?_toList] at h3
  rw [c, h3, List.getD_eq_getElem?_getD, hlj, ← h2]
  rfl
theorem size_of_cell {W : World} {g : Nat} {v : Value} (h : W.cell? ⟨g, 0, none⟩ = some v) : g < W.heap.size := by
  rcases Nat.lt_or_ge g W.heap.size with l | l
  · exact l
  · have : W.cell? ⟨g, 0, none⟩ = none := by simp [World.cell?, Array.getElem?_eq_none l]
    rw [this] at h
    cases h
def squareL : List Nat := [1779033703, 3144134277, 1013904242, 2773480762, 1359893119, 2600822924, 528734635, 1541459225]
theorem square_get : ∀ j, j < 8 → squareL.getD j 0 = init8.get j := by decide
set_option maxRecDepth 100000 in
theorem glob_ofD {W : World} (h : laidMetH Tryz.prog Rows.dkgNilRow.laid W) : GlobD W ∧ 5 < W.heap.size := by
  rw [MakeChecks.laidMetH_plain _ _ _ (by kernel_rfl)] at h
  obtain ⟨ps, ⟨g0, t0, cs0, f0, p0, q0, hg0, ht0, hv0, hd0, ⟨g1, t1, cs1, f1, p1, q1, hg1, ht1, hv1, hd1, _, _⟩, _⟩, _, _⟩ := h
  have e0 : some g0 = some 3 := hg0.symm.trans (by kernel_rfl)
  have e1 : some g1 = some 5 := hg1.symm.trans (by kernel_rfl)
  cases e0
  cases e1
  have u0 : some t0 = some 211 := ht0.symm.trans (by kernel_rfl)
  have u1 : some t1 = some 239 := ht1.symm.trans (by kernel_rfl)
  cases u0
  cases u1
  have c0 : ∀ j, j < 8 → W.cell? ⟨3, j, none⟩ = some (.int .u32 (squareL.getD j 0 : Nat)) := fun j hj => laid_u32 squareL rfl Tryz.underlying211 hg0 hv0 hd0 j hj
  have c1 : ∀ j, j < 64 → W.cell? ⟨5, j, none⟩ = some (.int .u32 (cubeL.getD j 0 : Nat)) := fun j hj => laid_u32 cubeL rfl Tryz.underlying239 hg1 hv1 hd1 j hj
  have s0 := size_of_cell (c0 0 (by omega))
  have s1 := size_of_cell (c1 0 (by omega))
  exact ⟨⟨fun j hj => by rw [c0 j hj, square_get j hj], s0, c1, s1⟩, s1⟩
end Go.Proofs.YtienklnigigepaaGreatDoor
