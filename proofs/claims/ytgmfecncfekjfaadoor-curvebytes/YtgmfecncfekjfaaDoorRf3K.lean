/- The reference's field of P: what its sums, differences and products yield, as words. -/
import Derived.Test.YtgmfecncfekjfaaDoorCvZ
import Derived.Test.YtgmfecncfekjfaaDoorRef2I
namespace Go.Proofs.YtgmfecncfekjfaaDoor
open Go Go.RowKit Go.Lib

def rfM (x y z : Nat) : Prop := ∀ w, Calls Tryd.prog 40 #[.agg #[.int .u64 (limb (PP) 0 : Nat), .int .u64 (limb (PP) 1 : Nat), .int .u64 (limb (PP) 2 : Nat), .int .u64 (limb (PP) 3 : Nat), .int .u64 (limb (R256 - (PP)) 0 : Nat), .int .u64 (limb (R256 - (PP)) 1 : Nat), .int .u64 (limb (R256 - (PP)) 2 : Nat), .int .u64 (limb (R256 - (PP)) 3 : Nat)], .agg #[.int .u64 (limb (x) 0 : Nat), .int .u64 (limb (x) 1 : Nat), .int .u64 (limb (x) 2 : Nat), .int .u64 (limb (x) 3 : Nat)], .agg #[.int .u64 (limb (y) 0 : Nat), .int .u64 (limb (y) 1 : Nat), .int .u64 (limb (y) 2 : Nat), .int .u64 (limb (y) 3 : Nat)]] w fun e w' => e = .returned (.agg #[.int .u64 (limb (z) 0 : Nat), .int .u64 (limb (z) 1 : Nat), .int .u64 (limb (z) 2 : Nat), .int .u64 (limb (z) 3 : Nat)]) ∧ Below w.heap.size w w'
def rfZ (x : Nat) (b : Bool) : Prop := ∀ w, Calls Tryd.prog 37 #[.agg #[.int .u64 (limb (x) 0 : Nat), .int .u64 (limb (x) 1 : Nat), .int .u64 (limb (x) 2 : Nat), .int .u64 (limb (x) 3 : Nat)]] w fun e w' => e = .returned (.bool b) ∧ Below w.heap.size w w'
theorem rfM_of {x y z : Nat} (hx : x < PP) (hy : y < PP) (h : z = mM x y) : rfM x y z := fun w => by rw [h]; exact mul2_any PP x y FM_P FS_P (lt_R hx) (lt_R hy) w
theorem rfZ_of {x : Nat} {b : Bool} (hx : x < R256) (h : decide (x = 0) = b) : rfZ x b := fun w => by rw [← h]; exact zero2_any x hx w
end Go.Proofs.YtgmfecncfekjfaaDoor
