/- The reference's Zero, Inv and Invert. -/
import Derived.Test.YtgmfecncfekjfaaDoorRef2P
import Derived.Test.YtgmfecncfekjfaaDoorFdB
import Derived.Test.YtgmfecncfekjfaaDoorLbA
namespace Go.Proofs.YtgmfecncfekjfaaDoor
open Go.RowKit

set_option maxHeartbeats 1000000 in
theorem zero2_a (x0 x1 x2 x3 : Int) (h0 : (x0 == 0) = false) (w : World) :
    Calls Tryd.prog 37 #[.agg #[.int .u64 x0, .int .u64 x1, .int .u64 x2, .int .u64 x3]] w fun e w' => e = .returned (.bool false) ∧ Below w.heap.size w w' := by
  go_enter Tryd.func37, Tryd.ntmps37
  go_wp2_with fail
  go_ret
  exact ⟨rfl, below_alloc0 (Below.refl _ _) _⟩
set_option maxHeartbeats 1000000 in
theorem zero2_b (x0 x1 x2 x3 : Int) (h0 : (x0 == 0) = true) (h1 : (x1 == 0) = false) (w : World) :
    Calls Tryd.prog 37 #[.agg #[.int .u64 x0, .int .u64 x1, .int .u64 x2, .int .u64 x3]] w fun e w' => e = .returned (.bool false) ∧ Below w.heap.size w w' := by
  go_enter Tryd.func37, Tryd.ntmps37
  go_wp2_with fail
  go_ret
  exact ⟨rfl, below_alloc0 (Below.refl _ _) _⟩
set_option maxHeartbeats 1000000 in
theorem zero2_c (x0 x1 x2 x3 : Int) (h0 : (x0 == 0) = true) (h1 : (x1 == 0) = true) (h2 : (x2 == 0) = false) (w : World) :
    Calls Tryd.prog 37 #[.agg #[.int .u64 x0, .int .u64 x1, .int .u64 x2, .int .u64 x3]] w fun e w' => e = .returned (.bool false) ∧ Below w.heap.size w w' := by
  go_enter Tryd.func37, Tryd.ntmps37
  go_wp2_with fail
  go_ret
  exact ⟨rfl, below_alloc0 (Below.refl _ _) _⟩
set_option maxHeartbeats 1000000 in
theorem zero2_d (x0 x1 x2 x3 : Int) (h0 : (x0 == 0) = true) (h1 : (x1 == 0) = true) (h2 : (x2 == 0) = true) (h3 : (x3 == 0) = false) (w : World) :
    Calls Tryd.prog 37 #[.agg #[.int .u64 x0, .int .u64 x1, .int .u64 x2, .int .u64 x3]] w fun e w' => e = .returned (.bool false) ∧ Below w.heap.size w w' := by
  go_enter Tryd.func37, Tryd.ntmps37
  go_wp2_with fail
  go_ret
  exact ⟨rfl, below_alloc0 (Below.refl _ _) _⟩
set_option maxHeartbeats 1000000 in
theorem zero2_e (x0 x1 x2 x3 : Int) (h0 : (x0 == 0) = true) (h1 : (x1 == 0) = true) (h2 : (x2 == 0) = true) (h3 : (x3 == 0) = true) (w : World) :
    Calls Tryd.prog 37 #[.agg #[.int .u64 x0, .int .u64 x1, .int .u64 x2, .int .u64 x3]] w fun e w' => e = .returned (.bool true) ∧ Below w.heap.size w w' := by
  go_enter Tryd.func37, Tryd.ntmps37
  go_wp2_with fail
  go_ret
  exact ⟨rfl, below_alloc0 (Below.refl _ _) _⟩
theorem zero2_any (a : Nat) (ha : a < R256) (w : World) : Calls Tryd.prog 37 #[.agg #[.int .u64 (limb (a) 0 : Nat), .int .u64 (limb (a) 1 : Nat), .int .u64 (limb (a) 2 : Nat), .int .u64 (limb (a) 3 : Nat)]] w fun e w' => e = .returned (.bool (decide (a = 0))) ∧ Below w.heap.size w w' := by
  have h := eq4_zero a ha
  unfold eq4 at h
  rw [← h]
  cases h0 : ((limb a 0 : Nat) : Int) == 0
  · exact zero2_a _ _ _ _ h0 w
  · cases h1 : ((limb a 1 : Nat) : Int) == 0
    · exact zero2_b _ _ _ _ h0 h1 w
    · cases h2 : ((limb a 2 : Nat) : Int) == 0
      · exact zero2_c _ _ _ _ h0 h1 h2 w
      · cases h3 : ((limb a 3 : Nat) : Int) == 0
        · exact zero2_d _ _ _ _ h0 h1 h2 h3 w
        · exact zero2_e _ _ _ _ h0 h1 h2 h3 w
end Go.Proofs.YtgmfecncfekjfaaDoor
