/- Plain numbers for the fields: what is above 2^256 folded back, one subtraction at the end, powers four bits at once; no program in sight. -/
import Derived.Test.YtcdiehnkknmbeaaDoorNum
import Derived.Test.YtcdiehnkknmbeaaDoorPrimePQ
namespace Go.Proofs.YtcdiehnkknmbeaaDoor

/-- A number such as P and Q: the gap to 2^256 has three limbs. -/
def FM (m : Nat) : Prop := R256 < 2 * m ∧ m < R256 ∧ R256 - m < M64 * (M64 * M64)
theorem FM_P : FM PP := by unfold FM; decide
theorem FM_Q : FM QQ := by unfold FM; decide
theorem FM.pos {m : Nat} (h : FM m) : 1 < m := by
  have := h.1
  have e : 4 < R256 := by decide
  omega
theorem R256_pow4 : R256 = M64 ^ 4 := by decide
theorem limb_div (V i : Nat) : limb (V / R256) i = limb V (i + 4) := by
  unfold limb
  rw [R256_pow4, Nat.div_div_eq_div_mul, ← Nat.pow_add, Nat.add_comm 4 i]
theorem limb_mod (V i : Nat) (h : i < 4) : limb (V % R256) i = limb V i := by
  have e := Nat.mod_add_div V R256
  have er : R256 = M64 ^ i * (M64 * M64 ^ (3 - i)) := by
    rw [← Nat.mul_assoc, ← Nat.pow_succ, ← Nat.pow_add, R256_pow4]
    congr 1
    omega
  unfold limb
  generalize V % R256 = r at *
  generalize V / R256 = q at *
  rw [← e, er, Nat.mul_assoc, Nat.add_mul_div_left _ _ (Nat.pow_pos M64_pos), Nat.mul_assoc, Nat.add_mul_mod_self_left]
theorem limb_gap3 {m : Nat} (h : FM m) : limb (R256 - m) 3 = 0 := by
  unfold limb
  rw [Nat.div_eq_of_lt, Nat.zero_mod]
  have e : M64 ^ 3 = M64 * (M64 * M64) := by decide
  rw [e]
  exact h.2.2

theorem fold_key (g0 g1 g2 a b x0 x1 x2 x3 x4 p0 p1 p2 p3 p4 q0 q1 q2 q3 q4 : Nat)
    (e0 : x0 + M64 * (x1 + M64 * (x2 + M64 * (x3 + M64 * x4))) = g0 * b + a)
    (e1 : p0 + M64 * (p1 + M64 * (p2 + M64 * (p3 + M64 * p4))) = g1 * b + join4 x1 x2 x3 x4)
    (e2 : q0 + M64 * (q1 + M64 * (q2 + M64 * (q3 + M64 * q4))) = g2 * b + join4 p1 p2 p3 p4) :
    join8 x0 p0 q0 q1 q2 q3 q4 0 = a + b * join4 g0 g1 g2 0 := by
  unfold join8 join4 at *
  have x : b * (g0 + M64 * (g1 + M64 * (g2 + M64 * 0))) = g0 * b + M64 * (g1 * b + M64 * (g2 * b)) := by
    rw [Nat.mul_comm b]
    simp only [Nat.add_mul, Nat.mul_assoc, Nat.mul_zero, Nat.add_zero]
  rw [x]
  generalize g0 * b = z0 at *
  generalize g1 * b = z1 at *
  generalize g2 * b = z2 at *
  unfold M64 at *
  omega
theorem fold_limbs (A B g : Nat) (hA : A < R256) (hB : B < R256) (hg : g < R256) (h3 : limb g 3 = 0) (x p q : Nat → Nat)
    (hx : x = rowL (limb g 0) (limb B 0) (limb B 1) (limb B 2) (limb B 3) (limb A 0) (limb A 1) (limb A 2) (limb A 3))
    (hp : p = rowL (limb g 1) (limb B 0) (limb B 1) (limb B 2) (limb B 3) (x 1) (x 2) (x 3) (x 4))
    (hq : q = rowL (limb g 2) (limb B 0) (limb B 1) (limb B 2) (limb B 3) (p 1) (p 2) (p 3) (p 4)) :
    ((x 1 < M64 ∧ x 2 < M64 ∧ x 3 < M64 ∧ x 4 < M64) ∧ (p 1 < M64 ∧ p 2 < M64 ∧ p 3 < M64 ∧ p 4 < M64)) ∧
    limb (A + B * g) 0 = x 0 ∧ limb (A + B * g) 1 = p 0 ∧ limb (A + B * g) 2 = q 0 ∧ limb (A + B * g) 3 = q 1 ∧ limb (A + B * g) 4 = q 2 ∧ limb (A + B * g) 5 = q 3 ∧ limb (A + B * g) 6 = q 4 ∧ limb (A + B * g) 7 = 0 := by
  have vx := row_val (limb g 0) (limb B 0) (limb B 1) (limb B 2) (limb B 3) (limb A 0) (limb A 1) (limb A 2) (limb A 3)
  have vp := row_val (limb g 1) (limb B 0) (limb B 1) (limb B 2) (limb B 3) (x 1) (x 2) (x 3) (x 4)
  have vq := row_val (limb g 2) (limb B 0) (limb B 1) (limb B 2) (limb B 3) (p 1) (p 2) (p 3) (p 4)
  have L := limb_lt
  obtain ⟨x0, x1, x2, x3, x4⟩ := row_lt (limb g 0) (limb B 0) (limb B 1) (limb B 2) (limb B 3) (limb A 0) (limb A 1) (limb A 2) (limb A 3) (L _ _) (L _ _) (L _ _) (L _ _) (L _ _) (L _ _) (L _ _) (L _ _) (L _ _)
  rw [← hx] at vx x0 x1 x2 x3 x4
  obtain ⟨p0, p1, p2, p3, p4⟩ := row_lt (limb g 1) (limb B 0) (limb B 1) (limb B 2) (limb B 3) _ _ _ _ (L _ _) (L _ _) (L _ _) (L _ _) (L _ _) x1 x2 x3 x4
  rw [← hp] at vp p0 p1 p2 p3 p4
  obtain ⟨q0, q1, q2, q3, q4⟩ := row_lt (limb g 2) (limb B 0) (limb B 1) (limb B 2) (limb B 3) _ _ _ _ (L _ _) (L _ _) (L _ _) (L _ _) (L _ _) p1 p2 p3 p4
  rw [← hq] at vq q0 q1 q2 q3 q4
  rw [join_limb B hB] at vx vp vq
  rw [join_limb A hA] at vx
  have key := fold_key _ _ _ A B _ _ _ _ _ _ _ _ _ _ _ _ _ _ _ vx vp vq
  have jg := join_limb g hg
  rw [h3] at jg
  rw [jg] at key
  obtain ⟨l0, l1, l2, l3, l4, l5, l6, l7⟩ := limb_join8 _ _ _ _ _ _ _ _ x0 p0 q0 q1 q2 q3 q4 M64_pos
  rw [key] at l0 l1 l2 l3 l4 l5 l6 l7
  exact ⟨⟨⟨x1, x2, x3, x4⟩, p1, p2, p3, p4⟩, l0, l1, l2, l3, l4, l5, l6, l7⟩
theorem row_zero (b0 b1 b2 b3 w0 w1 w2 w3 : Nat) (h0 : w0 < M64) (h1 : w1 < M64) (h2 : w2 < M64) (h3 : w3 < M64) :
    rowL 0 b0 b1 b2 b3 w0 w1 w2 w3 0 = w0 ∧ rowL 0 b0 b1 b2 b3 w0 w1 w2 w3 1 = w1 ∧ rowL 0 b0 b1 b2 b3 w0 w1 w2 w3 2 = w2 ∧ rowL 0 b0 b1 b2 b3 w0 w1 w2 w3 3 = w3 ∧ rowL 0 b0 b1 b2 b3 w0 w1 w2 w3 4 = 0 := by
  have l : ∀ b x, x < M64 → maL 0 b x 0 = x := fun b x h => by unfold maL; rw [Nat.zero_mul, Nat.zero_add, Nat.add_zero, Nat.mod_eq_of_lt h]
  have k : ∀ b x, x < M64 → maH 0 b x 0 = 0 := fun b x h => by unfold maH; rw [Nat.zero_mul, Nat.zero_add, Nat.add_zero, Nat.div_eq_of_lt h]
  refine ⟨l _ _ h0, ?_, ?_, ?_, ?_⟩
  · show maL 0 b1 w1 (maH 0 b0 w0 0) = w1
    rw [k _ _ h0, l _ _ h1]
  · show maL 0 b2 w2 (maH 0 b1 w1 (maH 0 b0 w0 0)) = w2
    rw [k _ _ h0, k _ _ h1, l _ _ h2]
  · show maL 0 b3 w3 (maH 0 b2 w2 (maH 0 b1 w1 (maH 0 b0 w0 0))) = w3
    rw [k _ _ h0, k _ _ h1, k _ _ h2, l _ _ h3]
  · show maH 0 b3 w3 (maH 0 b2 w2 (maH 0 b1 w1 (maH 0 b0 w0 0))) = 0
    rw [k _ _ h0, k _ _ h1, k _ _ h2, k _ _ h3]
/-- What is folded stays the same mod m, and grows less. -/
theorem fold_mod (A B m : Nat) (hm : m < R256) : (A + B * (R256 - m)) % m = (A + R256 * B) % m := by
  have e : R256 * B = B * (R256 - m) + m * B := by
    rw [Nat.mul_comm R256, ← Nat.mul_comm B m, ← Nat.mul_add, Nat.sub_add_cancel (Nat.le_of_lt hm)]
  rw [e, ← Nat.add_assoc, Nat.add_mul_mod_self_left]
theorem fold_less (A B m : Nat) (hm : 0 < m) (hm2 : m < R256) (hB : 0 < B) : A + B * (R256 - m) < A + R256 * B := by
  have : B * (R256 - m) < B * R256 := Nat.mul_lt_mul_of_pos_left (by omega) hB
  rw [Nat.mul_comm R256]
  omega

def lessN (o a m : Nat) : Nat := if o = 0 ∧ a < m then a else subN a m
theorem lessN_eq (o a m V : Nat) (hV : V = R256 * o + a) (h2 : V < 2 * m) (hm : m < R256) (ha : a < R256) (ho : o ≤ 1) : lessN o a m = V % m := by
  unfold lessN
  have hc : o = 0 ∨ o = 1 := by omega
  rcases hc with rfl | rfl
  · rw [Nat.mul_zero, Nat.zero_add] at hV
    subst hV
    by_cases h : V < m
    · rw [if_pos ⟨rfl, h⟩, Nat.mod_eq_of_lt h]
    · rw [if_neg (fun c => h c.2)]
      unfold subN
      rw [show V + R256 - m = (V - m) + R256 from by omega, Nat.add_mod_right, Nat.mod_eq_of_lt (by omega), Nat.mod_eq_sub_mod (by omega), Nat.mod_eq_of_lt (by omega)]
  · rw [if_neg (fun c => by cases c.1)]
    unfold subN
    rw [Nat.mul_one] at hV
    rw [show a + R256 - m = V - m from by omega, Nat.mod_eq_of_lt (show V - m < R256 by omega), Nat.mod_eq_sub_mod (show m ≤ V by omega), Nat.mod_eq_of_lt (by omega)]

/-! ### Powers, four bits at once -/
theorem pow_two_M (k : Nat) : M64 ^ k = 2 ^ (64 * k) := by rw [Nat.pow_mul]; rfl
theorem nib (e i : Nat) : limb e (i / 16) / 2 ^ (i % 16 * 4) % 16 = e / 16 ^ i % 16 := by
  have hj : i % 16 * 4 + 4 + (60 - i % 16 * 4) = 64 := by omega
  have eM : M64 = 2 ^ (i % 16 * 4) * (16 * 2 ^ (60 - i % 16 * 4)) := by
    have : (16 : Nat) = 2 ^ 4 := rfl
    rw [this, ← Nat.pow_add, ← Nat.pow_add, ← Nat.add_assoc]
    show (2 : Nat) ^ 64 = _
    rw [hj]
  have e16 : (16 : Nat) ^ i = M64 ^ (i / 16) * 2 ^ (i % 16 * 4) := by
    rw [pow_two_M, ← Nat.pow_add, show (16 : Nat) = 2 ^ 4 from rfl, ← Nat.pow_mul]
    congr 1
    omega
  rw [e16, ← Nat.div_div_eq_div_mul]
  unfold limb
  generalize e / M64 ^ (i / 16) = x
  generalize 2 ^ (60 - i % 16 * 4) = c at *
  generalize 2 ^ (i % 16 * 4) = d at *
  rw [eM, Nat.mod_mul_right_div_self, Nat.mod_mul_right_mod]
theorem top_step (e i : Nat) : e / 16 ^ i = 16 * (e / 16 ^ (i + 1)) + e / 16 ^ i % 16 := by
  rw [Nat.pow_succ, ← Nat.div_div_eq_div_mul]
  omega
theorem top_none (e : Nat) (h : e < R256) : e / 16 ^ 64 = 0 := Nat.div_eq_of_lt (Nat.lt_of_lt_of_le h (by decide))
theorem sq_step (m a t : Nat) : (a ^ t % m) * (a ^ t % m) % m = a ^ (t * 2) % m := by
  rw [← Nat.mul_mod, ← Nat.pow_add, Nat.mul_two]
theorem mul_step (m a t s : Nat) : (a ^ t % m) * (a ^ s % m) % m = a ^ (t + s) % m := by
  rw [← Nat.mul_mod, ← Nat.pow_add]
end Go.Proofs.YtcdiehnkknmbeaaDoor
