/- limb.Select: one of two numbers, by the lowest bit. -/
import Derived.Test.YtcdiehnkknmbeaaDoorHold
namespace Go.Proofs.YtcdiehnkknmbeaaDoor
open Go.RowKit

theorem and_one (s : Nat) (h : s < 18446744073709551616) : bits .and .u64 (s : Int) 1 = ((s % 2 : Nat) : Int) := by
  have h := bits_and_u64_nat s 1 h (by omega)
  have e : s &&& 1 = s % 2 := Nat.and_two_pow_sub_one_eq_mod s 1
  rw [e] at h
  exact h

end Go.Proofs.YtcdiehnkknmbeaaDoor
