/- limb.Select: one of two numbers, by the lowest bit. -/
import Derived.Test.YtdfdfkhilolnmaaDoorHold
namespace Go.Proofs.YtdfdfkhilolnmaaDoor
open Go.RowKit

theorem and_one (s : Nat) (h : s < 18446744073709551616) : bits .and .u64 (s : Int) 1 = ((s % 2 : Nat) : Int) := by
  have h := bits_and_u64_nat s 1 h (by omega)
  have e : s &&& 1 = s % 2 := Nat.and_two_pow_sub_one_eq_mod s 1
  rw [e] at h
  exact h

theorem select_odd (s a b : Nat) (hs : s < 18446744073709551616) (h : s % 2 = 1) (w : World) :
    Calls Tryd.prog 61 #[.int .u64 s, .agg #[.int .u64 (limb (a) 0 : Nat), .int .u64 (limb (a) 1 : Nat), .int .u64 (limb (a) 2 : Nat), .int .u64 (limb (a) 3 : Nat)], .agg #[.int .u64 (limb (b) 0 : Nat), .int .u64 (limb (b) 1 : Nat), .int .u64 (limb (b) 2 : Nat), .int .u64 (limb (b) 3 : Nat)]] w fun e w' => e = .returned (.agg #[.int .u64 (limb (a) 0 : Nat), .int .u64 (limb (a) 1 : Nat), .int .u64 (limb (a) 2 : Nat), .int .u64 (limb (a) 3 : Nat)]) ∧ Below w.heap.size w w' := by
  have e1 := and_one s hs
  rw [h] at e1
  clear h
  go_enter Tryd.func61, Tryd.ntmps61
  go_wp2
  refine bodyPost_ret (v := .agg #[.int .u64 (limb (a) 0 : Nat), .int .u64 (limb (a) 1 : Nat), .int .u64 (limb (a) 2 : Nat), .int .u64 (limb (a) 3 : Nat)]) ?_ rfl ⟨rfl, ?_⟩
  · simp [results, Tryd.results61, go_sem]
  · ((repeat' (first | with_reducible exact Below.refl _ _ | with_reducible refine Below.setCell ?_ ?_ _ | with_reducible refine below_alloc0 ?_ _ | with_reducible refine below_drewN ?_ _ | with_reducible refine Below.drew ?_ | refine below_call0 ?_ (by assumption))) <;> (first | omega | (simp; done) | (simp; omega)))

theorem select_even (s a b : Nat) (hs : s < 18446744073709551616) (h : s % 2 = 0) (w : World) :
    Calls Tryd.prog 61 #[.int .u64 s, .agg #[.int .u64 (limb (a) 0 : Nat), .int .u64 (limb (a) 1 : Nat), .int .u64 (limb (a) 2 : Nat), .int .u64 (limb (a) 3 : Nat)], .agg #[.int .u64 (limb (b) 0 : Nat), .int .u64 (limb (b) 1 : Nat), .int .u64 (limb (b) 2 : Nat), .int .u64 (limb (b) 3 : Nat)]] w fun e w' => e = .returned (.agg #[.int .u64 (limb (b) 0 : Nat), .int .u64 (limb (b) 1 : Nat), .int .u64 (limb (b) 2 : Nat), .int .u64 (limb (b) 3 : Nat)]) ∧ Below w.heap.size w w' := by
  have e1 := and_one s hs
  rw [h] at e1
  clear h
  go_enter Tryd.func61, Tryd.ntmps61
  go_wp2
  refine bodyPost_ret (v := .agg #[.int .u64 (limb (b) 0 : Nat), .int .u64 (limb (b) 1 : Nat), .int .u64 (limb (b) 2 : Nat), .int .u64 (limb (b) 3 : Nat)]) ?_ rfl ⟨rfl, ?_⟩
  · simp [results, Tryd.results61, go_sem]
  · ((repeat' (first | with_reducible exact Below.refl _ _ | with_reducible refine Below.setCell ?_ ?_ _ | with_reducible refine below_alloc0 ?_ _ | with_reducible refine below_drewN ?_ _ | with_reducible refine Below.drew ?_ | refine below_call0 ?_ (by assumption))) <;> (first | omega | (simp; done) | (simp; omega)))

end Go.Proofs.YtdfdfkhilolnmaaDoor
