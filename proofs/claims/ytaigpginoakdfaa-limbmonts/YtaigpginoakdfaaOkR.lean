/- wardmoteref01.Ok: is a number one for Montgomery's way? And the reference's Compare of two numbers' digits. -/
import Derived.Test.YtaigpginoakdfaaCpr
import Derived.Test.YtaigpginoakdfaaDgs
namespace Go.Proofs.Ytaigpginoakdfaa
open Go.RowKit

set_option maxHeartbeats 1000000 in
theorem okr_even (x0 x1 x2 x3 : Int) (r : (x0.tmod 2 == 1) = false) (w : World) :
    Calls Try.prog 27 #[.agg #[.int .u64 x0, .int .u64 x1, .int .u64 x2, .int .u64 x3]] w fun e w' => e = .returned (.bool false) ∧ Below w.heap.size w w' := by
  go_enter Try.func27, Try.ntmps27
  go_wp2_with fail
  go_ret
  exact ⟨rfl, below_alloc0 (Below.refl _ _) _⟩
set_option maxHeartbeats 1000000 in
theorem okr_a (x0 x1 x2 x3 : Int) (r : (x0.tmod 2 == 1) = true) (h0 : decide (1 < x0) = true) (w : World) :
    Calls Try.prog 27 #[.agg #[.int .u64 x0, .int .u64 x1, .int .u64 x2, .int .u64 x3]] w fun e w' => e = .returned (.bool true) ∧ Below w.heap.size w w' := by
  go_enter Try.func27, Try.ntmps27
  go_wp2_with fail
  go_ret
  exact ⟨rfl, below_alloc0 (Below.refl _ _) _⟩
set_option maxHeartbeats 1000000 in
theorem okr_b (x0 x1 x2 x3 : Int) (r : (x0.tmod 2 == 1) = true) (h0 : decide (1 < x0) = false) (h1 : decide (0 < x1) = true) (w : World) :
    Calls Try.prog 27 #[.agg #[.int .u64 x0, .int .u64 x1, .int .u64 x2, .int .u64 x3]] w fun e w' => e = .returned (.bool true) ∧ Below w.heap.size w w' := by
  go_enter Try.func27, Try.ntmps27
  go_wp2_with fail
  go_ret
  exact ⟨rfl, below_alloc0 (Below.refl _ _) _⟩
set_option maxHeartbeats 1000000 in
theorem okr_c (x0 x1 x2 x3 : Int) (r : (x0.tmod 2 == 1) = true) (h0 : decide (1 < x0) = false) (h1 : decide (0 < x1) = false) (h2 : decide (0 < x2) = true) (w : World) :
    Calls Try.prog 27 #[.agg #[.int .u64 x0, .int .u64 x1, .int .u64 x2, .int .u64 x3]] w fun e w' => e = .returned (.bool true) ∧ Below w.heap.size w w' := by
  go_enter Try.func27, Try.ntmps27
  go_wp2_with fail
  go_ret
  exact ⟨rfl, below_alloc0 (Below.refl _ _) _⟩
set_option maxHeartbeats 1000000 in
theorem okr_d (x0 x1 x2 x3 : Int) (r : (x0.tmod 2 == 1) = true) (h0 : decide (1 < x0) = false) (h1 : decide (0 < x1) = false) (h2 : decide (0 < x2) = false) (h3 : decide (0 < x3) = true) (w : World) :
    Calls Try.prog 27 #[.agg #[.int .u64 x0, .int .u64 x1, .int .u64 x2, .int .u64 x3]] w fun e w' => e = .returned (.bool true) ∧ Below w.heap.size w w' := by
  go_enter Try.func27, Try.ntmps27
  go_wp2_with fail
  go_ret
  exact ⟨rfl, below_alloc0 (Below.refl _ _) _⟩
set_option maxHeartbeats 1000000 in
theorem okr_no (x0 x1 x2 x3 : Int) (r : (x0.tmod 2 == 1) = true) (h0 : decide (1 < x0) = false) (h1 : decide (0 < x1) = false) (h2 : decide (0 < x2) = false) (h3 : decide (0 < x3) = false) (w : World) :
    Calls Try.prog 27 #[.agg #[.int .u64 x0, .int .u64 x1, .int .u64 x2, .int .u64 x3]] w fun e w' => e = .returned (.bool false) ∧ Below w.heap.size w w' := by
  go_enter Try.func27, Try.ntmps27
  go_wp2_with fail
  go_ret
  exact ⟨rfl, below_alloc0 (Below.refl _ _) _⟩
theorem odd_rem (x : Nat) : ((x : Int).tmod 2 == 1) = decide (x % 2 = 1) := by
  rw [Int.tmod_eq_emod_of_nonneg (by omega)]
  by_cases h : x % 2 = 1
  · rw [decide_eq_true h]; exact beq_iff_eq.2 (by omega)
  · rw [decide_eq_false h]; exact beq_eq_false_iff_ne.2 (by omega)
theorem okr_any (m : Nat) (hm : m < R256) (w : World) : Calls Try.prog 27 #[.agg #[.int .u64 (limb (m) 0 : Nat), .int .u64 (limb (m) 1 : Nat), .int .u64 (limb (m) 2 : Nat), .int .u64 (limb (m) 3 : Nat)]] w fun e w' => e = .returned (.bool (decide (m % 2 = 1 ∧ m ≠ 1))) ∧ Below w.heap.size w w' := by
  have l0 : limb m 0 % 2 = m % 2 := by rw [limb_zero]; unfold M64; omega
  have j := join_limb m hm
  by_cases he : m % 2 = 1
  · have r : (((limb m 0 : Nat) : Int).tmod 2 == 1) = true := by rw [odd_rem]; exact decide_eq_true (by omega)
    by_cases h1 : m = 1
    · rw [decide_eq_false (fun h => h.2 h1)]
      exact okr_no _ _ _ _ r (decide_eq_false (by rw [h1]; decide)) (decide_eq_false (by rw [h1]; decide)) (decide_eq_false (by rw [h1]; decide)) (decide_eq_false (by rw [h1]; decide)) w
    · rw [decide_eq_true ⟨he, h1⟩]
      by_cases b0 : 1 < limb m 0
      · exact okr_a _ _ _ _ r (decide_eq_true (by omega)) w
      · by_cases b1 : 0 < limb m 1
        · exact okr_b _ _ _ _ r (decide_eq_false (by omega)) (decide_eq_true (by omega)) w
        · by_cases b2 : 0 < limb m 2
          · exact okr_c _ _ _ _ r (decide_eq_false (by omega)) (decide_eq_false (by omega)) (decide_eq_true (by omega)) w
          · by_cases b3 : 0 < limb m 3
            · exact okr_d _ _ _ _ r (decide_eq_false (by omega)) (decide_eq_false (by omega)) (decide_eq_false (by omega)) (decide_eq_true (by omega)) w
            · exfalso
              rw [show limb m 0 = 1 from by omega, show limb m 1 = 0 from by omega, show limb m 2 = 0 from by omega, show limb m 3 = 0 from by omega] at j
              unfold join4 M64 at j
              omega
  · rw [decide_eq_false (fun h => he h.1)]
    exact okr_even _ _ _ _ (by rw [odd_rem]; exact decide_eq_false (by omega)) w
theorem cmpr_any (x m : Nat) (c : Int) (hx : x < R256) (hm : m < R256) (hc : cmpN x m = c) (v u : Value) (w : World) (hv : Dg w v (digL x 16)) (hu : Dg w u (digL m 16)) :
    Calls Try.prog 21 #[v, u] w fun e w' => e = .returned (.int .i64 c) ∧ Below w.heap.size w w' := by
  have k := compare_any v u _ _ (digL_ok x 16) (digL_ok m 16) (by rw [digL_length]; omega) (by rw [digL_length]; omega) w hv hu
  rw [dval_digL16 x hx, dval_digL16 m hm, hc] at k
  exact k.mono fun e w' ⟨he, hw⟩ => ⟨he, by rw [hw]; exact Below.refl _ _⟩
theorem cmpN_not (x m : Nat) (h : ¬ x < m) : decide (cmpN x m < 0) = false := by
  rcases Nat.lt_or_eq_of_le (Nat.le_of_not_lt h) with g | g
  · rw [cmpN_gt g]; rfl
  · rw [g, cmpN_self]; rfl
end Go.Proofs.Ytaigpginoakdfaa
