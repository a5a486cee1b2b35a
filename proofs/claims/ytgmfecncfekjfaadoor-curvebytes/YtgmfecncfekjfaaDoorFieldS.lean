/- Plain laws of roots mod P; no program in sight. -/
import Derived.Test.YtgmfecncfekjfaaDoorFieldL
import Derived.Test.YtgmfecncfekjfaaDoorFdB
namespace Go.Proofs.YtgmfecncfekjfaaDoor

/-! ### Roots mod P -/
def halfP : Nat := (PP - 1) / 2
theorem halfP_two : 2 * halfP = PP - 1 := by decide
/-- A number to (P - 1) / 2 is 1 or -1. -/
theorem eps_or (a : Nat) (h0 : a ≠ 0) (h : a < PP) : a ^ halfP % PP = 1 ∨ a ^ halfP % PP = PP - 1 := by
  refine sq_one prime_P (Nat.mod_lt _ (by decide)) ?_
  rw [← Nat.mul_mod, ← Nat.pow_add, ← Nat.two_mul, halfP_two]
  exact fermat1 prime_P a (not_dvd_of_lt h0 h)
theorem mul_last (m a : Nat) (h0 : 0 < m) (ha : a < m) : a * (m - 1) % m = subM m 0 a := by
  by_cases h1 : m = 1
  · subst h1; unfold subM; rw [Nat.mod_one, Nat.mod_one]
  · have k := mul_neg m a 1 (by omega)
    rw [subM_zero m 1 h0 (by omega), if_neg (by decide), Nat.mul_one, Nat.mod_eq_of_lt ha] at k
    exact k
theorem rootE_two : rootE + rootE = halfP + 1 := by decide
/-- The root of a square is the number or its negative. -/
theorem root_of_sq (a : Nat) (h : a < PP) : (a * a % PP) ^ rootE % PP = a ∨ (a * a % PP) ^ rootE % PP = subM PP 0 a := by
  have e : (a * a % PP) ^ rootE % PP = a * (a ^ halfP % PP) % PP := by
    rw [← Nat.pow_mod, Nat.mul_pow, ← Nat.pow_add, rootE_two, Nat.pow_succ, Nat.mul_mod_mod, Nat.mul_comm]
  rw [e]
  by_cases h0 : a = 0
  · left
    rw [h0, Nat.zero_mul, Nat.zero_mod]
  · rcases eps_or a h0 h with q | q
    · left
      rw [q, Nat.mul_one, Nat.mod_eq_of_lt h]
    · right
      rw [q]
      exact mul_last PP a (by decide) h
theorem evenR_cases (m r : Nat) : evenR m r = r ∨ evenR m r = subM m 0 r := by
  unfold evenR
  split
  · exact .inr rfl
  · exact .inl rfl
theorem evenR_is_even (r : Nat) (h : r < PP) : evenR PP r % 2 = 0 := by
  unfold evenR
  split
  · rw [subM_zero PP r (by decide) h, if_neg (by omega)]
    have : PP % 2 = 1 := by decide
    omega
  · omega
end Go.Proofs.YtgmfecncfekjfaaDoor
