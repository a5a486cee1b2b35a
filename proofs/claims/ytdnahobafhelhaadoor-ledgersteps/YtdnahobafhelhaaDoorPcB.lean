/- Package parcel: Pack. -/
import Derived.Test.YtdnahobafhelhaaDoorPcA
namespace Go.Proofs.YtdnahobafhelhaaDoor
open Go Go.RowKit Go.Lib

theorem pair_cells (x y : UInt8) (w : World) (t : TypeId) : ∀ j u, (strCells (ofL [x, y]))[j]? = some u → (w.alloc (.cells #[.int .u8 (x.toNat : Int), .int .u8 (y.toNat : Int)] t)).cell? ((⟨w.heap.size, 0, none⟩ : Addr).add j) = some u := fun j u hj => by
  match j, hj with
  | 0, hj => simp [strCells, ofL] at hj; subst hj; simp [go_sem, Addr.add_lit]
  | 1, hj => simp [strCells, ofL] at hj; subst hj; simp [go_sem, Addr.add_lit]
  | j + 2, hj => simp [strCells, ofL] at hj
theorem pair_row (x y : UInt8) (w : World) (t : TypeId) (B : Nat) (hB : B ≤ w.heap.size) : RowB (w.alloc (.cells #[.int .u8 (x.toNat : Int), .int .u8 (y.toNat : Int)] t)) (From B) (some ⟨w.heap.size, 0, none⟩) (ofL [x, y]) 2 := by
  refine .inr ⟨w.heap.size, rfl, hB, by simp, Nat.le_refl _, by decide, fun j u hj => ?_, fun j hj => ?_, fun j => by simp [go_sem]⟩
  · have := pair_cells x y w t j u hj
    rwa [Addr.add_lit, Nat.zero_add] at this
  · match j, hj with
    | 0, _ => simp [go_sem]
    | 1, _ => simp [go_sem]
theorem u8wrap (n : Nat) : IntKind.u8.wrap (n : Int) = ((UInt8.ofNat n).toNat : Int) := by
  rw [IntKind.wrap_u8]
  simp
end Go.Proofs.YtdnahobafhelhaaDoor
