/- Montgomery's step keeps the residue: plain numbers; no program in sight. -/
import Derived.Test.YtaigpginoakdfaaMontN
namespace Go.Proofs.Ytaigpginoakdfaa

def StripAt (m V i low over : Nat) : Prop := low < R256 ∧ over ≤ 1 ∧ ∃ K, K < M64 ^ i ∧ M64 ^ i * (low + R256 * (over + V / M64 ^ (i + 4))) = V + K * m
theorem R256_M : R256 = M64 ^ 4 := by decide
theorem StripAt.start (m V : Nat) : StripAt m V 0 (V % R256) 0 := by
  refine ⟨Nat.mod_lt _ (by decide), by omega, 0, by simp, ?_⟩
  rw [Nat.pow_zero, Nat.one_mul, Nat.zero_add, ← R256_M, Nat.zero_mul, Nat.add_zero]
  exact Nat.mod_add_div V R256
/-- The lowest limb goes. -/
theorem cancel_zero (l c m0 : Nat) (hc : (c * m0 + 1) % M64 = 0) : (l * c % M64 * m0 + l) % M64 = 0 := by
  have e : (l * c % M64 * m0 + l) % M64 = (l * (c * m0 + 1)) % M64 := by
    rw [Nat.mul_add, Nat.mul_one, ← Nat.mul_assoc, Nat.add_mod, Nat.mul_mod, Nat.mod_mod, ← Nat.mul_mod, ← Nat.add_mod]
  rw [e, Nat.mul_mod, hc, Nat.mul_zero, Nat.zero_mod]
theorem strip_arith (P R M km low over W4 W5 l4 r1 r2 r3 r4 n3 o' V Km : Nat) (hR : R = M * M * M * M) (hrow : M * (r1 + M * (r2 + M * (r3 + M * r4))) = km + low) (hW : W4 = l4 + M * W5) (hn : n3 + M * o' = l4 + r4 + over)
    (h : P * (low + R * (over + W4)) = V + Km) : P * M * (r1 + M * (r2 + M * (r3 + M * n3)) + R * (o' + W5)) = V + (Km + P * km) := by
  have e : M * (r1 + M * (r2 + M * (r3 + M * n3)) + R * (o' + W5)) = km + (low + R * (over + W4)) := by
    have e1 : n3 + M * (o' + W5) = r4 + (over + W4) := by rw [hW, Nat.mul_add]; omega
    have e2 : M * M * M * M * (n3 + M * (o' + W5)) = M * M * M * M * (r4 + (over + W4)) := by rw [e1]
    rw [hR]
    simp only [Nat.mul_add, Nat.mul_assoc] at hrow e2 ⊢
    omega
  rw [Nat.mul_assoc, e, Nat.mul_add, h]
  omega
theorem StripAt.step {m V i low over c : Nat} (h : StripAt m V i low over) (hc : (c * limb m 0 + 1) % M64 = 0) (k r0 r1 r2 r3 r4 n3 o' : Nat) (hk : k = limb low 0 * c % M64)
    (h0 : r0 = (k * limb m 0 + limb low 0) % M64) (hrow : r0 + M64 * (r1 + M64 * (r2 + M64 * (r3 + M64 * r4))) = k * m + low) (l1 : r1 < M64) (l2 : r2 < M64) (l3 : r3 < M64) (l4 : r4 < M64)
    (hn : n3 = addS (limb V (i + 4)) r4 over) (ho : o' = addC (limb V (i + 4)) r4 over) : StripAt m V (i + 1) (join4 r1 r2 r3 n3) o' := by
  obtain ⟨g1, g2, K, g3, g4⟩ := h
  have z : r0 = 0 := by rw [h0, hk]; exact cancel_zero _ _ _ hc
  rw [z, Nat.zero_add] at hrow
  have n3l : n3 < M64 := by rw [hn]; exact addS_lt _ _ _
  have kl : k < M64 := by rw [hk]; exact Nat.mod_lt _ M64_pos
  have st := add_step (limb V (i + 4)) r4 over
  rw [← hn, ← ho] at st
  have W : V / M64 ^ (i + 4) = limb V (i + 4) + M64 * (V / M64 ^ (i + 1 + 4)) := by
    have e : V / M64 ^ (i + 1 + 4) = V / M64 ^ (i + 4) / M64 := by rw [show i + 1 + 4 = i + 4 + 1 from by omega, Nat.pow_succ M64 (i + 4), Nat.div_div_eq_div_mul]
    rw [e]
    exact (Nat.mod_add_div _ _).symm
  have hR : R256 = M64 * M64 * M64 * M64 := by decide
  have key := strip_arith (M64 ^ i) R256 M64 (k * m) low over _ _ _ r1 r2 r3 r4 n3 o' V (K * m) hR hrow W st g4
  refine ⟨join4_lt _ _ _ _ l1 l2 l3 n3l, by rw [ho]; exact addC_le _ _ _ (limb_lt _ _) l4 g2, K + M64 ^ i * k, ?_, ?_⟩
  · rw [Nat.pow_succ]
    have : M64 ^ i * (k + 1) ≤ M64 ^ i * M64 := Nat.mul_le_mul_left _ kl
    rw [Nat.mul_add, Nat.mul_one] at this
    omega
  · rw [Nat.pow_succ, Nat.add_mul, Nat.mul_assoc (M64 ^ i) k m]
    exact key
theorem StripAt.done {m V low over : Nat} (h : StripAt m V 4 low over) (hm : m < R256) (hodd : m % 2 = 1) (hV : V < R256 * m) : over * R256 + low < 2 * m ∧ (over * R256 + low) % m = redN m V := by
  obtain ⟨g1, g2, K, g3, g4⟩ := h
  have W : V / M64 ^ (4 + 4) = 0 := by
    refine Nat.div_eq_of_lt (Nat.lt_of_lt_of_le hV ?_)
    rw [Nat.pow_add, ← R256_M]
    exact Nat.mul_le_mul_left _ (Nat.le_of_lt hm)
  rw [W, ← R256_M, Nat.add_zero] at g4
  rw [← R256_M] at g3
  have e : low + R256 * over = over * R256 + low := by rw [Nat.mul_comm]; omega
  rw [e] at g4
  have lt : over * R256 + low < 2 * m := by
    have a1 : K * m ≤ R256 * m := Nat.mul_le_mul_right _ (Nat.le_of_lt g3)
    have a2 : R256 * (over * R256 + low) < R256 * (2 * m) := by rw [g4, Nat.mul_left_comm]; omega
    exact Nat.lt_of_mul_lt_mul_left a2
  exact ⟨lt, red_of m _ V K hodd g4⟩
end Go.Proofs.Ytaigpginoakdfaa
