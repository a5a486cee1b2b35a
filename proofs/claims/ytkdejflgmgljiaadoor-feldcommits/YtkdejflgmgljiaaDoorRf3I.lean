/- The reference's Is, of a point of the group. -/
import Derived.Test.YtkdejflgmgljiaaDoorRf3B
namespace Go.Proofs.YtkdejflgmgljiaaDoor
open Go Go.RowKit Go.Lib

theorem is3_A (a : Pts) (w : World) : Calls Tryd.prog 44 #[.agg #[.int .u64 (limb (pX (a)) 0 : Nat), .int .u64 (limb (pX (a)) 1 : Nat), .int .u64 (limb (pX (a)) 2 : Nat), .int .u64 (limb (pX (a)) 3 : Nat), .int .u64 (limb (pY (a)) 0 : Nat), .int .u64 (limb (pY (a)) 1 : Nat), .int .u64 (limb (pY (a)) 2 : Nat), .int .u64 (limb (pY (a)) 3 : Nat), .bool (pI (a))]] w fun e w' => e = .returned (.bool true) ∧ Below w.heap.size w w' := by
  have k := is3_any (pX a) (pY a) (pI a) (lt_R (pX_lt a)) (lt_R (pY_lt a)) w
  rw [pts_ok a] at k
  exact k
end Go.Proofs.YtkdejflgmgljiaaDoor
