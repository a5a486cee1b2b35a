/- Montgomery's way over plain numbers; no program in sight. -/
import Derived.Test.YtaigpginoakdfaaSel
namespace Go.Proofs.Ytaigpginoakdfaa

/-- What R times gives 1 mod an odd m. -/
def rinv (m : Nat) : Nat := ((m + 1) / 2) ^ 256
def redN (m x : Nat) : Nat := x * rinv m % m
theorem R256_pow : R256 = 2 ^ 256 := by decide
theorem rinv_one (m : Nat) (h : m % 2 = 1) : R256 * rinv m % m = 1 % m := by
  unfold rinv
  rw [R256_pow, ← Nat.mul_pow, show 2 * ((m + 1) / 2) = m + 1 from by omega, Nat.pow_mod, Nat.add_mod_left, ← Nat.pow_mod, Nat.one_pow]
theorem mod_congr (x y z m : Nat) (h : x % m = y % m) : x * z % m = y * z % m := by rw [Nat.mul_mod, h, ← Nat.mul_mod]
theorem mul_rinv (m x : Nat) (h : m % 2 = 1) : x * R256 * rinv m % m = x % m := by
  rw [Nat.mul_assoc, Nat.mul_comm, mod_congr _ 1 _ _ (rinv_one m h), Nat.one_mul]
theorem red_of (m T w K : Nat) (h : m % 2 = 1) (e : R256 * T = w + K * m) : T % m = redN m w := by
  unfold redN
  rw [← mul_rinv m T h, Nat.mul_comm T, e]
  exact mod_congr _ _ _ _ (Nat.add_mul_mod_self_right _ _ _)
theorem red_R (m a : Nat) (h : m % 2 = 1) : redN m (a * (R256 * R256 % m)) = a * R256 % m := by
  unfold redN
  have e : a * (R256 * R256 % m) % m = a * R256 * R256 % m := by rw [Nat.mul_mod, Nat.mod_mod, ← Nat.mul_mod, Nat.mul_assoc]
  rw [mod_congr _ _ _ _ e, mul_rinv m _ h]
theorem red_mod (m x y : Nat) (h : x % m = y % m) : redN m x = redN m y := mod_congr _ _ _ _ h
theorem perm4 (p q R : Nat) : p * R * (q * R) = p * q * R * R := by rw [Nat.mul_mul_mul_comm, ← Nat.mul_assoc]
/-- There, a product, and back. -/
theorem red_round (m p q : Nat) (h : m % 2 = 1) : redN m (redN m ((p * R256 % m) * (q * R256 % m)) * 1) = p * q % m := by
  have e1 : redN m ((p * R256 % m) * (q * R256 % m)) = p * q * R256 % m := by
    rw [red_mod m _ (p * q * R256 * R256) (by rw [← Nat.mul_mod, perm4])]
    unfold redN
    exact mul_rinv m _ h
  rw [e1, Nat.mul_one, red_mod m _ (p * q * R256) (Nat.mod_mod _ _)]
  unfold redN
  exact mul_rinv m _ h
theorem red_back (m p : Nat) (h : m % 2 = 1) : redN m (p * R256 % m * 1) = p % m := by
  rw [Nat.mul_one, red_mod m _ (p * R256) (Nat.mod_mod _ _)]
  unfold redN
  exact mul_rinv m _ h
theorem red_lt (m x : Nat) (h : 0 < m) : redN m x < m := Nat.mod_lt _ h
/-- With R again. -/
theorem red_up (m x : Nat) (h : m % 2 = 1) : redN m x * R256 % m = x % m := by
  unfold redN
  rw [Nat.mul_mod, Nat.mod_mod, ← Nat.mul_mod, Nat.mul_assoc, Nat.mul_comm (rinv m), ← Nat.mul_assoc]
  exact mul_rinv m x h

/-! ### The inverse mod 2^64 -/
def invAt (odd x r : Nat) : Prop := ∃ k : Int, (odd : Int) * x = 1 + k * 2 ^ r
theorem inv_start (o : Nat) (h : o % 2 = 1) : invAt o o 3 := by
  obtain ⟨k, hk⟩ : ∃ k, o = 2 * k + 1 := ⟨o / 2, by omega⟩
  obtain ⟨j, hj⟩ : ∃ j, k * (k + 1) = 2 * j := by
    have := Nat.mod_two_eq_zero_or_one k
    rcases this with e | e
    · exact ⟨k / 2 * (k + 1), by rw [← Nat.mul_assoc, show 2 * (k / 2) = k from by omega]⟩
    · exact ⟨k * ((k + 1) / 2), by rw [Nat.mul_left_comm, show 2 * ((k + 1) / 2) = k + 1 from by omega]⟩
  refine ⟨j, ?_⟩
  have e : o * o = 1 + 8 * j := by
    have e2 : o * o = 4 * (k * (k + 1)) + 1 := by
      rw [hk]
      simp only [Nat.mul_add, Nat.add_mul, Nat.mul_one, Nat.one_mul, Nat.mul_assoc, Nat.mul_left_comm 2 k]
      have : k * (2 * (2 * k)) = 2 * (2 * (k * k)) := by simp only [Nat.mul_left_comm k 2]
      omega
    omega
  have e3 : ((o * o : Nat) : Int) = ((1 + 8 * j : Nat) : Int) := by rw [e]
  rw [Int.natCast_mul] at e3
  rw [e3]
  have : ((2 : Int) ^ 3) = 8 := by decide
  rw [this]
  omega
theorem sq_one (t k P : Int) (h : t = 1 + k * P) : t * (2 - t) = 1 + -(k * k) * (P * P) := by
  subst h
  have e : (2 : Int) - (1 + k * P) = 1 - k * P := by omega
  rw [e]
  have e2 : (1 + k * P) * (1 - k * P) = 1 - (k * P) * (k * P) := by
    rw [Int.mul_sub, Int.mul_one, Int.add_mul, Int.one_mul]
    omega
  have e3 : k * P * (k * P) = k * k * (P * P) := by rw [Int.mul_assoc, Int.mul_left_comm P, ← Int.mul_assoc k k]
  rw [e2, e3, Int.neg_mul]
  omega
theorem inv_step (o x r : Nat) (y : Nat) (q : Int) (h : invAt o x r) (hr : r ≤ 64) (hy : (y : Int) = x * (2 - o * x) + q * 2 ^ 64) : invAt o y (min (2 * r) 64) := by
  obtain ⟨k, hk⟩ := h
  have e := sq_one _ k _ hk
  have e2 : (o : Int) * y = o * x * (2 - o * x) + o * q * 2 ^ 64 := by
    rw [hy, Int.mul_add, ← Int.mul_assoc, ← Int.mul_assoc]
  unfold invAt
  rw [e2, e, ← Int.pow_add]
  obtain ⟨s, hs⟩ : ∃ s, s = min (2 * r) 64 := ⟨_, rfl⟩
  rw [← hs]
  obtain ⟨u, hu⟩ : ∃ u, r + r = s + u := ⟨r + r - s, by omega⟩
  obtain ⟨v, hv⟩ : ∃ v, 64 = s + v := ⟨64 - s, by omega⟩
  rw [hu]
  refine ⟨-(k * k) * 2 ^ u + o * q * 2 ^ v, ?_⟩
  have p64 : (2 : Int) ^ 64 = 2 ^ s * 2 ^ v := by rw [← Int.pow_add, ← hv]
  rw [p64, Int.pow_add, Int.add_mul, Int.mul_assoc _ (2 ^ u), Int.mul_comm (2 ^ u), Int.mul_assoc _ (2 ^ v), Int.mul_comm (2 ^ v)]
  omega
theorem inv_done (o x : Nat) (h : invAt o x 64) : ∃ k : Int, (o : Int) * x = 1 + k * 18446744073709551616 := h
end Go.Proofs.Ytaigpginoakdfaa
