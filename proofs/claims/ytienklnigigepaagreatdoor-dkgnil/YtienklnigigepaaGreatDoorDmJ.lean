/- The reference's Scalar. -/
import Derived.Test.YtienklnigigepaaGreatDoorDmG
namespace Go.Proofs.YtienklnigigepaaGreatDoor
open Go Go.RowKit Go.Lib

theorem FieldB.new' (W : World) (m : Nat) (t : TypeId) : FieldB (W.alloc (.cells #[.int .u64 (limb m 0 : Nat), .int .u64 (limb m 1 : Nat), .int .u64 (limb m 2 : Nat), .int .u64 (limb m 3 : Nat), .int .u64 (limb (R256 - m) 0 : Nat), .int .u64 (limb (R256 - m) 1 : Nat), .int .u64 (limb (R256 - m) 2 : Nat), .int .u64 (limb (R256 - m) 3 : Nat)] t)) W.heap.size m :=
  ⟨by refine limbs4 _ ?_ ?_ ?_ ?_ <;> simp [go_sem], by refine limbs4 _ ?_ ?_ ?_ ?_ <;> simp [go_sem], by simp⟩
end Go.Proofs.YtienklnigigepaaGreatDoor
