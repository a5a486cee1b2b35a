/- What every statement of layer 4 asks besides: the sum of three letters; and what a nil hash answers. -/
import Derived.Test.YtienklnigigepaaGreatDoorShaF
namespace Go.Proofs.YtienklnigigepaaGreatDoor
open Go.RowKit

def abcS : ByteArray := ⟨#[97, 98, 99]⟩
def abcR : ByteArray := ⟨#[186, 120, 22, 191, 143, 1, 207, 234, 65, 65, 64, 222, 93, 174, 34, 35, 176, 3, 97, 163, 150, 23, 122, 156, 180, 16, 255, 97, 242, 0, 21, 173]⟩
set_option maxRecDepth 100000 in
theorem abc_sum : shaS abcS = abcR := by kernel_rfl
theorem hsum_nil (w : World) : Calls Tryz.prog 166 #[.pointer none] w fun e w' => e = .returned (.string ByteArray.empty) ∧ Below w.heap.size w w' := by
  go_enter Tryz.func166, Tryz.ntmps166
  go_wp2
  go_ret
  exact ⟨rfl, by first | exact Below.refl _ _ | exact below_alloc0' (Below.refl _ _) _⟩
end Go.Proofs.YtienklnigigepaaGreatDoor
