/- Plain laws of a field of numbers below a prime: negatives, products, inverses and roots; no program in sight. -/
import Derived.Test.YtbpgiijdcagckaaDoorFdA
namespace Go.Proofs.YtbpgiijdcagckaaDoor

theorem subM_zero (m b : Nat) (_h0 : 0 < m) (hb : b < m) : subM m 0 b = if b = 0 then 0 else m - b := by
  unfold subM
  rw [Nat.zero_add]
  by_cases h : b = 0
  · rw [if_pos h, h, Nat.sub_zero, Nat.mod_self]
  · rw [if_neg h, Nat.mod_eq_of_lt (by omega)]
theorem negM_neg (m b : Nat) (hb : b < m) : subM m 0 (subM m 0 b) = b := by
  have h0 : 0 < m := by omega
  rw [subM_zero m b h0 hb]
  by_cases h : b = 0
  · rw [if_pos h, subM_zero m 0 h0 h0, if_pos rfl, h]
  · rw [if_neg h, subM_zero m (m - b) h0 (by omega), if_neg (by omega)]
    omega
theorem sub_add (m a b : Nat) (hb : b < m) : (a + subM m 0 b) % m = subM m a b := by
  unfold subM
  rw [Nat.zero_add, Nat.add_mod, Nat.mod_mod, ← Nat.add_mod, ← Nat.add_sub_assoc (Nat.le_of_lt hb)]
theorem add_neg (m a : Nat) (ha : a < m) : (a + subM m 0 a) % m = 0 := by
  rw [sub_add m a a ha]
  unfold subM
  rw [Nat.add_sub_cancel_left, Nat.mod_self]
/-- What a number and another one make 0 with is the same. -/
theorem neg_uniq (m x y : Nat) (hx : x < m) (hy : y < m) (h : (x + y) % m = 0) : y = subM m 0 x := by
  have h0 : 0 < m := by omega
  rw [subM_zero m x h0 hx]
  rcases Nat.lt_or_ge (x + y) m with q | q
  · rw [Nat.mod_eq_of_lt q] at h
    rw [if_pos (by omega)]
    omega
  · rw [Nat.mod_eq_sub_mod q, Nat.mod_eq_of_lt (by omega)] at h
    by_cases z : x = 0
    · omega
    · rw [if_neg z]; omega
theorem mul_neg (m a b : Nat) (hb : b < m) : a * subM m 0 b % m = subM m 0 (a * b % m) := by
  have h0 : 0 < m := by omega
  refine neg_uniq m _ _ (Nat.mod_lt _ h0) (Nat.mod_lt _ h0) ?_
  rw [← Nat.add_mod, ← Nat.mul_add, Nat.mul_mod, add_neg m b hb, Nat.mul_zero, Nat.zero_mod]
theorem mul_mod_comm (m a b : Nat) : a * b % m = b * a % m := by rw [Nat.mul_comm]
theorem mul_mod_assoc (m a b c : Nat) : a * b % m * c % m = a * (b * c % m) % m := by
  rw [Nat.mod_mul_mod, Nat.mul_mod_mod, Nat.mul_assoc]
theorem mul_mod_dist (m a b c : Nat) : a * ((b + c) % m) % m = (a * b % m + a * c % m) % m := by
  rw [Nat.mul_mod_mod, Nat.mul_add, Nat.add_mod]
theorem not_dvd_of_lt {m a : Nat} (h0 : a ≠ 0) (h : a < m) : ¬ m ∣ a := fun d => by have := Nat.le_of_dvd (by omega) d; omega
theorem inv_mod {m a : Nat} (hp : PrimeN m) (h0 : a ≠ 0) (h : a < m) : a * (a ^ (m - 2) % m) % m = 1 := by
  have h2 := hp.1
  rw [Nat.mul_mod_mod, Nat.mul_comm, ← Nat.pow_succ, show (m - 2).succ = m - 1 from by omega]
  exact fermat1 hp a (not_dvd_of_lt h0 h)
theorem sq_one {m x : Nat} (hp : PrimeN m) (hx : x < m) (h : x * x % m = 1) : x = 1 ∨ x = m - 1 := by
  have h2 := hp.1
  have x0 : x ≠ 0 := fun z => by rw [z, Nat.mul_zero, Nat.zero_mod] at h; omega
  have e : (x - 1) * (x + 1) = x * x - 1 := by
    obtain ⟨y, rfl⟩ : ∃ y, x = y + 1 := ⟨x - 1, by omega⟩
    simp only [Nat.add_sub_cancel, Nat.mul_add, Nat.add_mul, Nat.mul_one, Nat.one_mul]
    omega
  have d : m ∣ (x - 1) * (x + 1) := by
    rw [e]
    exact dvd_sub_of_mod (by rw [h, Nat.mod_eq_of_lt (by omega)])
  rcases hp.dvd_mul d with q | q
  · left
    rcases Nat.eq_zero_or_pos (x - 1) with z | z
    · omega
    · have := Nat.le_of_dvd z q; omega
  · right
    have := Nat.le_of_dvd (by omega) q
    omega
end Go.Proofs.YtbpgiijdcagckaaDoor
