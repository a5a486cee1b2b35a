/- limb.NewMont refuses even numbers and 1. -/
import Derived.Test.YtaigpginoakdfaaMontW
namespace Go.Proofs.Ytaigpginoakdfaa
open Go.RowKit
attribute [local go_sem] run_eq4

set_option maxHeartbeats 1000000 in
theorem newmont_even (m : Nat) (h : m % 2 = 0) (w : World) :
    Calls Try.prog 26 #[.agg #[.int .u64 (limb (m) 0 : Nat), .int .u64 (limb (m) 1 : Nat), .int .u64 (limb (m) 2 : Nat), .int .u64 (limb (m) 3 : Nat)]] w fun e w' => e = .returned (.tuple #[.pointer none, .int .i64 1]) ∧ Below w.heap.size w w' := by
  have tb : bits .and .u64 (limb m 0 : Int) 1 = 0 := (by have h0 : limb m 0 % 2 = 0 := (by rw [limb_zero]; unfold M64; omega); have h := and_one (limb m 0) (limb_lt m 0); rw [h0] at h; exact h)
  skip
  clear h
  go_enter Try.func26, Try.ntmps26
  go_wp2
  go_ret2
  exact ⟨rfl, by ((repeat' (first | with_reducible exact Below.refl _ _ | with_reducible refine Below.setCell ?_ ?_ _ | with_reducible refine below_alloc0 ?_ _ | with_reducible refine below_drewN ?_ _ | with_reducible refine Below.drew ?_ | refine below_call0 ?_ (by assumption))) <;> (first | omega | (simp; done) | (simp; omega)))⟩

set_option maxHeartbeats 1000000 in
theorem newmont_one (m : Nat) (h : m = 1) (w : World) :
    Calls Try.prog 26 #[.agg #[.int .u64 (limb (m) 0 : Nat), .int .u64 (limb (m) 1 : Nat), .int .u64 (limb (m) 2 : Nat), .int .u64 (limb (m) 3 : Nat)]] w fun e w' => e = .returned (.tuple #[.pointer none, .int .i64 1]) ∧ Below w.heap.size w w' := by
  have tb : bits .and .u64 (limb m 0 : Int) 1 = 1 := (by rw [h]; decide)
  have t1 : eq4 (limb m 0 : Nat) (limb m 1 : Nat) (limb m 2 : Nat) (limb m 3 : Nat) 1 0 0 0 = true := (by rw [h]; decide)
  clear h
  go_enter Try.func26, Try.ntmps26
  go_wp2
  go_ret2
  exact ⟨rfl, by ((repeat' (first | with_reducible exact Below.refl _ _ | with_reducible refine Below.setCell ?_ ?_ _ | with_reducible refine below_alloc0 ?_ _ | with_reducible refine below_drewN ?_ _ | with_reducible refine Below.drew ?_ | refine below_call0 ?_ (by assumption))) <;> (first | omega | (simp; done) | (simp; omega)))⟩

end Go.Proofs.Ytaigpginoakdfaa
