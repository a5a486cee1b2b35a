/- Bytes of a number and the number of bytes; no program in sight. -/
import Derived.Test.YtienklnigigepaaGreatDoorLbA
namespace Go.Proofs.YtienklnigigepaaGreatDoor

/-- The value of t digits of 8 bits from place s on, the highest first. -/
def hz (d : Nat → Nat) (s : Nat) : Nat → Nat
  | 0 => 0
  | t + 1 => hz d s t * 256 + d (s + t)
theorem hz_succ (d : Nat → Nat) (s t : Nat) : hz d s (t + 1) = hz d s t * 256 + d (s + t) := rfl
theorem hz_lt (d : Nat → Nat) (hd : ∀ j, d j < 256) (s : Nat) : ∀ t, hz d s t < 256 ^ t
  | 0 => by simp [hz]
  | t + 1 => by
    have h1 := hz_lt d hd s t
    have h2 := hd (s + t)
    rw [hz_succ, Nat.pow_succ]
    omega
/-- How many of the eight bytes of limb k are in when i bytes are. -/
def clamp (i k : Nat) : Nat := min (i - 8 * (3 - k)) 8
theorem clamp_zero (k : Nat) : clamp 0 k = 0 := by unfold clamp; omega
theorem clamp_full (k : Nat) (h : k < 4) : clamp 32 k = 8 := by unfold clamp; omega
theorem clamp_same (i k : Nat) (hi : i < 32) (hk : k = 3 - i / 8) : clamp i k = i % 8 ∧ clamp (i + 1) k = i % 8 + 1 ∧ 8 * (3 - k) + i % 8 = i := by unfold clamp; omega
theorem clamp_other (i k : Nat) (hi : i < 32) (hk4 : k < 4) (hk : k ≠ 3 - i / 8) : clamp (i + 1) k = clamp i k := by unfold clamp; omega
def numB (d : Nat → Nat) : Nat := join4 (hz d 24 8) (hz d 16 8) (hz d 8 8) (hz d 0 8)
theorem hz8_lt (d : Nat → Nat) (hd : ∀ j, d j < 256) (s : Nat) : hz d s 8 < M64 := by
  have := hz_lt d hd s 8
  have e : (256 : Nat) ^ 8 = M64 := by decide
  omega
theorem numB_lt (d : Nat → Nat) (hd : ∀ j, d j < 256) : numB d < R256 := join4_lt _ _ _ _ (hz8_lt d hd _) (hz8_lt d hd _) (hz8_lt d hd _) (hz8_lt d hd _)
theorem limb_numB (d : Nat → Nat) (hd : ∀ j, d j < 256) : limb (numB d) 0 = hz d 24 8 ∧ limb (numB d) 1 = hz d 16 8 ∧ limb (numB d) 2 = hz d 8 8 ∧ limb (numB d) 3 = hz d 0 8 :=
  ⟨limb_join0 _ _ _ _ (hz8_lt d hd _), limb_join1 _ _ _ _ (hz8_lt d hd _) (hz8_lt d hd _), limb_join2 _ _ _ _ (hz8_lt d hd _) (hz8_lt d hd _) (hz8_lt d hd _), limb_join3 _ _ _ _ (hz8_lt d hd _) (hz8_lt d hd _) (hz8_lt d hd _) (hz8_lt d hd _)⟩
theorem limb_numB' (d : Nat → Nat) (hd : ∀ j, d j < 256) (k : Nat) (hk : k < 4) : limb (numB d) k = hz d (8 * (3 - k)) 8 := by
  obtain ⟨h0, h1, h2, h3⟩ := limb_numB d hd
  have e : k = 0 ∨ k = 1 ∨ k = 2 ∨ k = 3 := by omega
  rcases e with rfl | rfl | rfl | rfl <;> assumption
/-- Byte j of a number's 32, the highest first. -/
def byteN (a j : Nat) : Nat := limb a (3 - j / 8) / 256 ^ (7 - j % 8) % 256
theorem byteN_lt (a j : Nat) : byteN a j < 256 := Nat.mod_lt _ (by decide)
/-- The first t of the eight digits of x. -/
theorem hz_top (d : Nat → Nat) (s x : Nat) (h : ∀ t, t < 8 → d (s + t) = x / 256 ^ (7 - t) % 256) (hx : x < M64) : ∀ t, t ≤ 8 → hz d s t = x / 256 ^ (8 - t)
  | 0, _ => by
    have e : (256 : Nat) ^ (8 - 0) = M64 := by decide
    rw [e, Nat.div_eq_of_lt hx]; rfl
  | t + 1, ht => by
    rw [hz_succ, hz_top d s x h hx t (by omega), h t (by omega), show 8 - (t + 1) = 7 - t from by omega, show 8 - t = (7 - t) + 1 from by omega, Nat.pow_succ, ← Nat.div_div_eq_div_mul]
    omega
theorem numB_byteN (a : Nat) (ha : a < R256) (d : Nat → Nat) (h : ∀ j, j < 32 → d j = byteN a j) : numB d = a := by
  have key : ∀ k, k < 4 → hz d (8 * (3 - k)) 8 = limb a k := by
    intro k hk
    rw [hz_top d (8 * (3 - k)) (limb a k) ?_ (limb_lt a k) 8 (Nat.le_refl _)]
    · simp
    · intro t ht
      rw [h _ (by omega)]
      unfold byteN
      rw [show 3 - (8 * (3 - k) + t) / 8 = k from by omega, show (8 * (3 - k) + t) % 8 = t from by omega]
  unfold numB
  rw [show hz d 24 8 = limb a 0 from key 0 (by omega), show hz d 16 8 = limb a 1 from key 1 (by omega), show hz d 8 8 = limb a 2 from key 2 (by omega), show hz d 0 8 = limb a 3 from key 3 (by omega), join_limb a ha]
/-- A digit of a value of digits. -/
theorem hz_dig (d : Nat → Nat) (hd : ∀ j, d j < 256) (s n : Nat) : ∀ t, t < n → hz d s n / 256 ^ (n - 1 - t) % 256 = d (s + t) := by
  induction n with
  | zero => intro t ht; omega
  | succ n ih =>
    intro t ht
    have dn := hd (s + n)
    by_cases e : t = n
    · subst e
      rw [show t + 1 - 1 - t = 0 from by omega, Nat.pow_zero, Nat.div_one, hz_succ]
      omega
    · rw [hz_succ, show n + 1 - 1 - t = (n - 1 - t) + 1 from by omega, Nat.pow_succ, Nat.mul_comm (256 ^ (n - 1 - t)) 256, ← Nat.div_div_eq_div_mul, show (hz d s n * 256 + d (s + n)) / 256 = hz d s n from by omega]
      exact ih t (by omega)
theorem byteN_numB (d : Nat → Nat) (hd : ∀ j, d j < 256) (j : Nat) (hj : j < 32) : byteN (numB d) j = d j := by
  unfold byteN
  rw [limb_numB' d hd (3 - j / 8) (by omega)]
  have h := hz_dig d hd (8 * (3 - (3 - j / 8))) 8 (j % 8) (by omega)
  rw [show 8 - 1 - j % 8 = 7 - j % 8 from by omega] at h
  rw [h]
  congr 1
  omega

/-- What limb.FromBytes's limb k holds when i bytes are in. -/
def progB (d : Nat → Nat) (i k : Nat) : Nat := hz d (8 * (3 - k)) (clamp i k) * 256 ^ (8 - clamp i k)
theorem progB_same (d : Nat → Nat) (i k : Nat) (hi : i < 32) (hk : k = 3 - i / 8) : progB d (i + 1) k = progB d i k + d i * 256 ^ (7 - i % 8) := by
  obtain ⟨e1, e2, e3⟩ := clamp_same i k hi hk
  unfold progB
  rw [e1, e2, hz_succ, e3, Nat.add_mul, show 8 - (i % 8 + 1) = 7 - i % 8 from by omega, show 8 - i % 8 = (7 - i % 8) + 1 from by omega, Nat.pow_succ, Nat.mul_assoc, Nat.mul_comm 256]
theorem progB_other (d : Nat → Nat) (i k : Nat) (hi : i < 32) (hk4 : k < 4) (hk : k ≠ 3 - i / 8) : progB d (i + 1) k = progB d i k := by
  unfold progB; rw [clamp_other i k hi hk4 hk]
theorem progB_zero (d : Nat → Nat) (k : Nat) : progB d 0 k = 0 := by unfold progB; rw [clamp_zero]; simp [hz]
theorem progB_full (d : Nat → Nat) (hd : ∀ j, d j < 256) (k : Nat) (hk : k < 4) : progB d 32 k = limb (numB d) k := by
  unfold progB
  rw [clamp_full k hk, limb_numB' d hd k hk]
  simp
theorem progB_or (d : Nat → Nat) (hd : ∀ j, d j < 256) (i k : Nat) (hi : i < 32) (hk : k = 3 - i / 8) : progB d i k ||| d i * 256 ^ (7 - i % 8) = progB d (i + 1) k ∧ progB d i k < M64 ∧ d i * 256 ^ (7 - i % 8) < M64 := by
  obtain ⟨e1, _, _⟩ := clamp_same i k hi hk
  have dl := hd i
  have hl := hz_lt d hd (8 * (3 - k)) (i % 8)
  have p1 : (256 : Nat) ^ (8 - i % 8) = 256 * 256 ^ (7 - i % 8) := by rw [show 8 - i % 8 = (7 - i % 8) + 1 from by omega, Nat.pow_succ, Nat.mul_comm]
  have p2 : (256 : Nat) ^ (i % 8) * 256 ^ (8 - i % 8) = M64 := by rw [← Nat.pow_add, show i % 8 + (8 - i % 8) = 8 from by omega]; decide
  have q1 : d i * 256 ^ (7 - i % 8) < 256 ^ (8 - i % 8) := by rw [p1]; exact Nat.mul_lt_mul_of_pos_right dl (Nat.pow_pos (by decide))
  refine ⟨?_, ?_, ?_⟩
  · rw [progB_same d i k hi hk]
    unfold progB
    rw [e1]
    have e : (256 : Nat) ^ (8 - i % 8) = 2 ^ (8 * (8 - i % 8)) := by rw [Nat.pow_mul]
    rw [e] at q1 ⊢
    rw [Nat.mul_comm (hz _ _ _)]
    exact (Nat.two_pow_add_eq_or_of_lt q1 _).symm
  · unfold progB
    rw [e1, ← p2]
    exact Nat.mul_lt_mul_of_pos_right hl (Nat.pow_pos (by decide))
  · refine Nat.lt_of_lt_of_le q1 ?_
    rw [← p2]
    exact Nat.le_mul_of_pos_left _ (Nat.pow_pos (by decide))
/-- What the reference's limb k holds when i bytes are in. -/
def refB (d : Nat → Nat) (i k : Nat) : Nat := hz d (8 * (3 - k)) (clamp i k)
theorem refB_same (d : Nat → Nat) (i k : Nat) (hi : i < 32) (hk : k = 3 - i / 8) : refB d (i + 1) k = refB d i k * 256 + d i := by
  obtain ⟨e1, e2, e3⟩ := clamp_same i k hi hk
  unfold refB
  rw [e1, e2, hz_succ, e3]
theorem refB_other (d : Nat → Nat) (i k : Nat) (hi : i < 32) (hk4 : k < 4) (hk : k ≠ 3 - i / 8) : refB d (i + 1) k = refB d i k := by
  unfold refB; rw [clamp_other i k hi hk4 hk]
theorem refB_zero (d : Nat → Nat) (k : Nat) : refB d 0 k = 0 := by unfold refB; rw [clamp_zero]; rfl
theorem refB_full (d : Nat → Nat) (hd : ∀ j, d j < 256) (k : Nat) (hk : k < 4) : refB d 32 k = limb (numB d) k := by
  unfold refB
  rw [clamp_full k hk, limb_numB' d hd k hk]
theorem refB_lt (d : Nat → Nat) (hd : ∀ j, d j < 256) (i k : Nat) : refB d i k < M64 := by
  have h := hz_lt d hd (8 * (3 - k)) (clamp i k)
  have h2 : (256 : Nat) ^ clamp i k ≤ 256 ^ 8 := Nat.pow_le_pow_right (by decide) (by unfold clamp; omega)
  have e : (256 : Nat) ^ 8 = M64 := by decide
  unfold refB
  omega
/-- The first k limbs' bytes, the highest limb first, and m more. -/
theorem byteN_at (a k m : Nat) (hm : m < 8) (hk : k < 4) : byteN a (8 * (3 - k) + m) = limb a k / 256 ^ (7 - m) % 256 := by
  unfold byteN
  rw [show 3 - (8 * (3 - k) + m) / 8 = k from by omega, show (8 * (3 - k) + m) % 8 = m from by omega]
end Go.Proofs.YtienklnigigepaaGreatDoor
