/- Plain laws of roots mod P; no program in sight. -/
import Derived.Test.YtglifkfkcepllabDoorFieldL
import Derived.Test.YtglifkfkcepllabDoorFieldI
namespace Go.Proofs.YtglifkfkcepllabDoor

/-! ### Roots mod P -/
theorem neg_mul_neg (m a : Nat) (ha : a < m) : subM m 0 a * subM m 0 a % m = a * a % m := by
  have h0 : 0 < m := by omega
  rw [mul_neg m _ a ha, Nat.mul_comm (subM m 0 a) a, mul_neg m a a ha, neg_neg m _ (Nat.mod_lt _ h0)]
def halfP : Nat := (PP - 1) / 2
theorem halfP_two : 2 * halfP = PP - 1 := by decide
theorem halfP_odd : halfP % 2 = 1 := by decide
/-- A number to (P - 1) / 2 is 1 or -1. -/
theorem eps_or (a : Nat) (h0 : a ≠ 0) (h : a < PP) : a ^ halfP % PP = 1 ∨ a ^ halfP % PP = PP - 1 := by
  refine sq_one prime_P (Nat.mod_lt _ (by decide)) ?_
  rw [← Nat.mul_mod, ← Nat.pow_add, ← Nat.two_mul, halfP_two]
  exact fermat1 prime_P a (not_dvd_of_lt h0 h)
theorem neg_one_pow (m : Nat) (h1 : 1 < m) : ∀ k, (m - 1) ^ k % m = if k % 2 = 0 then 1 else m - 1
  | 0 => by simp; exact Nat.mod_eq_of_lt h1
  | k + 1 => by
    have ih := neg_one_pow m h1 k
    rw [Nat.pow_succ, Nat.mul_mod, ih, Nat.mod_eq_of_lt (show m - 1 < m by omega)]
    by_cases h : k % 2 = 0
    · rw [if_pos h, if_neg (by omega), Nat.one_mul, Nat.mod_eq_of_lt (by omega)]
    · rw [if_neg h, if_pos (by omega)]
      have e : (m - 1) * (m - 1) = 1 + m * (m - 2) := by
        obtain ⟨y, rfl⟩ : ∃ y, m = y + 2 := ⟨m - 2, by omega⟩
        simp only [Nat.add_sub_cancel, show y + 2 - 1 = y + 1 from by omega, Nat.mul_add, Nat.add_mul, Nat.mul_one, Nat.one_mul]
        omega
      rw [e, Nat.add_mul_mod_self_left, Nat.mod_eq_of_lt h1]
theorem mul_last (m a : Nat) (h0 : 0 < m) (ha : a < m) : a * (m - 1) % m = subM m 0 a := by
  by_cases h1 : m = 1
  · subst h1; unfold subM; rw [Nat.mod_one, Nat.mod_one]
  · have k := mul_neg m a 1 (by omega)
    rw [subM_zero m 1 h0 (by omega), if_neg (by decide), Nat.mul_one, Nat.mod_eq_of_lt ha] at k
    exact k
/-- The same of the negative is the negative. -/
theorem eps_neg (a : Nat) (h : a < PP) : (subM PP 0 a) ^ halfP % PP = subM PP 0 (a ^ halfP % PP) := by
  have h0 : 0 < PP := by decide
  rw [← mul_last PP a h0 h, ← Nat.pow_mod, Nat.mul_pow, Nat.mul_mod, neg_one_pow PP (by decide) halfP, halfP_odd, if_neg (by decide)]
  exact mul_last PP _ h0 (Nat.mod_lt _ h0)
theorem rootE_two : rootE + rootE = halfP + 1 := by decide
theorem root_sq (a : Nat) : a ^ rootE % PP * (a ^ rootE % PP) % PP = a * (a ^ halfP % PP) % PP := by
  rw [← Nat.mul_mod, ← Nat.pow_add, rootE_two, Nat.pow_succ, Nat.mul_mod_mod, Nat.mul_comm]
/-- The root of a square is the number or its negative. -/
theorem root_of_sq (a : Nat) (h : a < PP) : (a * a % PP) ^ rootE % PP = a ∨ (a * a % PP) ^ rootE % PP = subM PP 0 a := by
  have e : (a * a % PP) ^ rootE % PP = a * (a ^ halfP % PP) % PP := by
    rw [← Nat.pow_mod, Nat.mul_pow, ← Nat.pow_add, rootE_two, Nat.pow_succ, Nat.mul_mod_mod, Nat.mul_comm]
  rw [e]
  by_cases h0 : a = 0
  · left
    rw [h0, Nat.zero_mul, Nat.zero_mod]
  · rcases eps_or a h0 h with q | q
    · left
      rw [q, Nat.mul_one, Nat.mod_eq_of_lt h]
    · right
      rw [q]
      exact mul_last PP a (by decide) h
theorem evenR_cases (m r : Nat) : evenR m r = r ∨ evenR m r = subM m 0 r := by
  unfold evenR
  split
  · exact .inr rfl
  · exact .inl rfl
theorem evenR_is_even (r : Nat) (h : r < PP) : evenR PP r % 2 = 0 := by
  unfold evenR
  split
  · rw [subM_zero PP r (by decide) h, if_neg (by omega)]
    have : PP % 2 = 1 := by decide
    omega
  · omega
/-- Just one of a number that is not 0 and its negative has a root. -/
theorem one_root (a : Nat) (h0 : a ≠ 0) (h : a < PP) :
    (a ^ rootE % PP * (a ^ rootE % PP) % PP = a ∧ ¬ (subM PP 0 a) ^ rootE % PP * ((subM PP 0 a) ^ rootE % PP) % PP = subM PP 0 a) ∨
    (¬ a ^ rootE % PP * (a ^ rootE % PP) % PP = a ∧ (subM PP 0 a) ^ rootE % PP * ((subM PP 0 a) ^ rootE % PP) % PP = subM PP 0 a) := by
  have p0 : 0 < PP := by decide
  have p2 : PP % 2 = 1 := by decide
  have nz : subM PP 0 a = PP - a := by rw [subM_zero PP a p0 h, if_neg h0]
  have nl : subM PP 0 a < PP := subM_lt _ _ _ p0
  have ne : a ≠ subM PP 0 a := by rw [nz]; omega
  have e1 : subM PP 0 1 = PP - 1 := by decide
  have e2 : subM PP 0 (PP - 1) = 1 := by decide
  rw [root_sq, root_sq, eps_neg a h]
  rcases eps_or a h0 h with q | q
  · left
    rw [q, e1, Nat.mul_one, Nat.mod_eq_of_lt h, mul_last PP _ p0 nl, neg_neg PP a h]
    exact ⟨rfl, ne⟩
  · right
    rw [q, e2, Nat.mul_one, Nat.mod_eq_of_lt nl, mul_last PP a p0 h]
    exact ⟨fun c => ne c.symm, rfl⟩
end Go.Proofs.YtglifkfkcepllabDoor
