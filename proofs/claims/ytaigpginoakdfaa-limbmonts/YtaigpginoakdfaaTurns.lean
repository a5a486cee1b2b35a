/- What every statement of layer 1 asks besides: R - 1 and 1 are 0 with a carry. -/
import Derived.Test.YtaigpginoakdfaaEq
namespace Go.Proofs.Ytaigpginoakdfaa
open Go.RowKit

attribute [local go_sem] run_eq4

theorem limb_most : limb (R256 - 1) 0 = 18446744073709551615 ∧ limb (R256 - 1) 1 = 18446744073709551615 ∧ limb (R256 - 1) 2 = 18446744073709551615 ∧ limb (R256 - 1) 3 = 18446744073709551615 := by decide
theorem limb_one : limb 1 0 = 1 ∧ limb 1 1 = 0 ∧ limb 1 2 = 0 ∧ limb 1 3 = 0 := by decide
theorem limb_nought (k : Nat) : limb 0 k = 0 := by simp [limb]
theorem most_one : addN (R256 - 1) 1 = 0 ∧ addK (R256 - 1) 1 = 1 := by decide

theorem most_any (w : World) : Calls Try.prog 19 #[] w fun e w' => e = .returned (.agg #[.int .u64 (limb (R256 - 1) 0 : Nat), .int .u64 (limb (R256 - 1) 1 : Nat), .int .u64 (limb (R256 - 1) 2 : Nat), .int .u64 (limb (R256 - 1) 3 : Nat)]) ∧ Below w.heap.size w w' := by
  obtain ⟨l0, l1, l2, l3⟩ := limb_most
  rw [l0, l1, l2, l3]
  clear l0 l1 l2 l3
  go_enter Try.func19, Try.ntmps19
  go_wp2
  refine bodyPost_ret (v := .agg #[.int .u64 (18446744073709551615 : Nat), .int .u64 (18446744073709551615 : Nat), .int .u64 (18446744073709551615 : Nat), .int .u64 (18446744073709551615 : Nat)]) ?_ rfl ⟨rfl, ?_⟩
  · simp [results, Try.results19, go_sem]
  · ((repeat' (first | with_reducible exact Below.refl _ _ | with_reducible refine Below.setCell ?_ ?_ _ | with_reducible refine below_alloc0 ?_ _ | with_reducible refine below_drewN ?_ _ | with_reducible refine Below.drew ?_ | refine below_call0 ?_ (by assumption))) <;> (first | omega | (simp; done) | (simp; omega)))

theorem turns_any (w : World) : Calls Try.prog 15 #[] w fun e w' => e = .returned (.bool true) ∧ Below w.heap.size w w' := by
  have key : ∀ w, Calls Try.prog 9 #[.agg #[.int .u64 (limb (R256 - 1) 0 : Nat), .int .u64 (limb (R256 - 1) 1 : Nat), .int .u64 (limb (R256 - 1) 2 : Nat), .int .u64 (limb (R256 - 1) 3 : Nat)], .agg #[.int .u64 1, .int .u64 0, .int .u64 0, .int .u64 0]] w fun e w' => e = .returned (.tuple #[.agg #[.int .u64 0, .int .u64 0, .int .u64 0, .int .u64 0], .int .u64 1]) ∧ Below w.heap.size w w' := by
    intro w
    have h := add_any (R256 - 1) 1 (by decide) (by decide) w
    rw [most_one.1, most_one.2, limb_nought, limb_nought, limb_nought, limb_nought, limb_one.1, limb_one.2.1, limb_one.2.2.1, limb_one.2.2.2] at h
    exact h
  have Key : Hid _ := key
  clear key
  go_enter Try.func15, Try.ntmps15
  go_wp2_with fail
  refine (most_any _).mono ?_
  rintro e w1 ⟨rfl, hb1⟩
  go_wp2_with fail
  refine (Key.out _).mono ?_
  rintro e w2 ⟨rfl, hb2⟩
  have z : eq4 0 0 0 0 0 0 0 0 = true := rfl
  go_wp2
  go_ret
  have s1 := hb1.size
  have s2 := hb2.size
  exact ⟨rfl, by ((repeat' (first | with_reducible exact Below.refl _ _ | with_reducible refine Below.setCell ?_ ?_ _ | with_reducible refine below_alloc0 ?_ _ | with_reducible refine below_drewN ?_ _ | with_reducible refine Below.drew ?_ | refine below_call0 ?_ (by assumption))) <;> (first | omega | (simp; done) | (simp; omega)))⟩
end Go.Proofs.Ytaigpginoakdfaa
