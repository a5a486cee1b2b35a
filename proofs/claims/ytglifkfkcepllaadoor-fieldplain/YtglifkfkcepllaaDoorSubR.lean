/- wardmoteref01.Sub: the difference and its borrow, by the reference's digits. -/
import Derived.Test.YtglifkfkcepllaaDoorNumR
import Derived.Test.YtglifkfkcepllaaDoorPlus
import Derived.Test.YtglifkfkcepllaaDoorMinus
import Derived.Test.YtglifkfkcepllaaDoorDgs
namespace Go.Proofs.YtglifkfkcepllaaDoor
open Go.RowKit

theorem dpre16 {l : List Nat} (h : dval l < R256) : dpre l 16 = dval l := by
  obtain ⟨r, hr⟩ := dpre_split l 16
  have e : (65536 : Nat) ^ 16 = R256 := by decide
  rw [e] at hr
  rcases Nat.eq_zero_or_pos r with z | z
  · subst z; omega
  · have : R256 * 1 ≤ R256 * r := Nat.mul_le_mul_left _ z
    omega
def overL : List Nat := [0, 0, 0, 0, 0, 0, 0, 0, 0, 0, 0, 0, 0, 0, 0, 0, 1]
theorem overL_ok : Dok overL := by unfold Dok overL; decide
theorem overL_val : dval overL = R256 := by decide
theorem overL_dg (w : World) : Dg (w.alloc (.cells #[.int .i64 0, .int .i64 0, .int .i64 0, .int .i64 0, .int .i64 0, .int .i64 0, .int .i64 0, .int .i64 0, .int .i64 0, .int .i64 0, .int .i64 0, .int .i64 0, .int .i64 0, .int .i64 0, .int .i64 0, .int .i64 0, .int .i64 1] 3)) (.slice (some ⟨w.heap.size, 0, none⟩) 17 17) overL := by
  refine Or.inr ⟨w.heap.size, 17, rfl, by simp, ?_⟩
  intro j hj
  have hj' : j < 17 := hj
  rw [World.cell?_alloc_new]
  have all : ∀ j, j < 17 → (#[Value.int .i64 0, .int .i64 0, .int .i64 0, .int .i64 0, .int .i64 0, .int .i64 0, .int .i64 0, .int .i64 0, .int .i64 0, .int .i64 0, .int .i64 0, .int .i64 0, .int .i64 0, .int .i64 0, .int .i64 0, .int .i64 0, .int .i64 1] : Array Value)[j]? = some (.int .i64 (dget overL j : Nat)) := by
    intro j hj
    match j, hj with
    | 0, _ | 1, _ | 2, _ | 3, _ | 4, _ | 5, _ | 6, _ | 7, _ | 8, _ | 9, _ | 10, _ | 11, _ | 12, _ | 13, _ | 14, _ | 15, _ | 16, _ => rfl
    | n + 17, h => exact absurd h (by omega)
  exact all j hj'

end Go.Proofs.YtglifkfkcepllaaDoor
