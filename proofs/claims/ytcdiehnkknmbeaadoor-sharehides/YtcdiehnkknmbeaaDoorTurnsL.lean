/- Limbs of some numbers. -/
import Derived.Test.YtcdiehnkknmbeaaDoorEq
namespace Go.Proofs.YtcdiehnkknmbeaaDoor
open Go.RowKit

theorem limb_most : limb (R256 - 1) 0 = 18446744073709551615 ∧ limb (R256 - 1) 1 = 18446744073709551615 ∧ limb (R256 - 1) 2 = 18446744073709551615 ∧ limb (R256 - 1) 3 = 18446744073709551615 := by decide
theorem limb_one : limb 1 0 = 1 ∧ limb 1 1 = 0 ∧ limb 1 2 = 0 ∧ limb 1 3 = 0 := by decide
theorem limb_nought (k : Nat) : limb 0 k = 0 := by simp [limb]
theorem most_one : addN (R256 - 1) 1 = 0 ∧ addK (R256 - 1) 1 = 1 := by decide
end Go.Proofs.YtcdiehnkknmbeaaDoor
