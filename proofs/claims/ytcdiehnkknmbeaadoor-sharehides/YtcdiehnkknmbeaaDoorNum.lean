/- Plain numbers: four limbs of 64 bits and the number that they are; no program in sight. -/
import Derived.KernelRfl
namespace Go.Proofs.YtcdiehnkknmbeaaDoor

def M64 : Nat := 18446744073709551616
def R256 : Nat := 115792089237316195423570985008687907853269984665640564039457584007913129639936
/-- Limb k of n. -/
def limb (n k : Nat) : Nat := n / M64 ^ k % M64
def join4 (x0 x1 x2 x3 : Nat) : Nat := x0 + M64 * (x1 + M64 * (x2 + M64 * x3))
theorem M64_pos : 0 < M64 := by decide
theorem R256_eq : R256 = M64 * (M64 * (M64 * M64)) := by decide
theorem limb_lt (n k : Nat) : limb n k < M64 := Nat.mod_lt _ M64_pos
theorem limb_zero (n : Nat) : limb n 0 = n % M64 := by simp [limb]
theorem limb_succ (n k : Nat) : limb n (k + 1) = limb (n / M64) k := by
  unfold limb
  rw [Nat.pow_succ, Nat.mul_comm (M64 ^ k), ← Nat.div_div_eq_div_mul]
theorem limb_cons (x n k : Nat) (hx : x < M64) : limb (x + M64 * n) (k + 1) = limb n k := by
  rw [limb_succ, Nat.add_mul_div_left _ _ M64_pos, Nat.div_eq_of_lt hx, Nat.zero_add]
theorem limb_head (x n : Nat) (hx : x < M64) : limb (x + M64 * n) 0 = x := by
  rw [limb_zero, Nat.add_mul_mod_self_left, Nat.mod_eq_of_lt hx]
theorem limb_join0 (x0 x1 x2 x3 : Nat) (h0 : x0 < M64) : limb (join4 x0 x1 x2 x3) 0 = x0 := limb_head _ _ h0
theorem limb_join1 (x0 x1 x2 x3 : Nat) (h0 : x0 < M64) (h1 : x1 < M64) : limb (join4 x0 x1 x2 x3) 1 = x1 := by
  unfold join4; rw [limb_cons _ _ _ h0, limb_head _ _ h1]
theorem limb_join2 (x0 x1 x2 x3 : Nat) (h0 : x0 < M64) (h1 : x1 < M64) (h2 : x2 < M64) : limb (join4 x0 x1 x2 x3) 2 = x2 := by
  unfold join4; rw [limb_cons _ _ _ h0, limb_cons _ _ _ h1, limb_head _ _ h2]
theorem limb_join3 (x0 x1 x2 x3 : Nat) (h0 : x0 < M64) (h1 : x1 < M64) (h2 : x2 < M64) (h3 : x3 < M64) : limb (join4 x0 x1 x2 x3) 3 = x3 := by
  unfold join4; rw [limb_cons _ _ _ h0, limb_cons _ _ _ h1, limb_cons _ _ _ h2]
  rw [limb_zero, Nat.mod_eq_of_lt h3]
theorem join_limb (n : Nat) (h : n < R256) : join4 (limb n 0) (limb n 1) (limb n 2) (limb n 3) = n := by
  have e : ∀ m, m % M64 + M64 * (m / M64) = m := fun m => Nat.mod_add_div m M64
  unfold join4
  have l1 : limb n 1 = n / M64 % M64 := by rw [limb_succ n 0, limb_zero]
  have l2 : limb n 2 = n / M64 / M64 % M64 := by rw [limb_succ n 1, limb_succ _ 0, limb_zero]
  have l3 : limb n 3 = n / M64 / M64 / M64 % M64 := by rw [limb_succ n 2, limb_succ _ 1, limb_succ _ 0, limb_zero]
  rw [l1, l2, l3, limb_zero]
  have h3 : n / M64 / M64 / M64 < M64 := by
    rw [Nat.div_div_eq_div_mul, Nat.div_div_eq_div_mul]
    refine Nat.div_lt_of_lt_mul ?_
    have e4 : R256 = M64 * M64 * M64 * M64 := by decide
    rw [e4] at h
    exact h
  rw [Nat.mod_eq_of_lt h3, e, e, e]
theorem join4_lt (x0 x1 x2 x3 : Nat) (h0 : x0 < M64) (h1 : x1 < M64) (h2 : x2 < M64) (h3 : x3 < M64) : join4 x0 x1 x2 x3 < R256 := by
  unfold join4 R256; unfold M64 at *; omega
theorem limb_inj (n m : Nat) (hn : n < R256) (hm : m < R256) (h0 : limb n 0 = limb m 0) (h1 : limb n 1 = limb m 1) (h2 : limb n 2 = limb m 2) (h3 : limb n 3 = limb m 3) : n = m := by
  rw [← join_limb n hn, ← join_limb m hm, h0, h1, h2, h3]

def addS (x y c : Nat) : Nat := (x + y + c) % M64
def addC (x y c : Nat) : Nat := (x + y + c) / M64
def subS (x y b : Nat) : Nat := (x + M64 - y - b) % M64
def subB (x y b : Nat) : Nat := if x < y + b then 1 else 0
def mulH (x y : Nat) : Nat := x * y / M64
def mulL (x y : Nat) : Nat := x * y % M64
theorem addC_le (x y c : Nat) (hx : x < M64) (hy : y < M64) (hc : c ≤ 1) : addC x y c ≤ 1 := by
  unfold addC; unfold M64 at *; omega
theorem subB_le (x y b : Nat) : subB x y b ≤ 1 := by unfold subB; split <;> omega
theorem addS_lt (x y c : Nat) : addS x y c < M64 := Nat.mod_lt _ (by decide)
theorem subS_lt (x y c : Nat) : subS x y c < M64 := Nat.mod_lt _ (by decide)

/-- The carry ahead of place k. -/
def chain (C : Nat → Nat → Nat → Nat) (A B : Nat → Nat) : Nat → Nat
  | 0 => 0
  | k + 1 => C (A k) (B k) (chain C A B k)
def digs (S C : Nat → Nat → Nat → Nat) (A B : Nat → Nat) (k : Nat) : Nat := S (A k) (B k) (chain C A B k)
theorem digs_eq (S C : Nat → Nat → Nat → Nat) (A B : Nat → Nat) (k : Nat) : digs S C A B k = S (A k) (B k) (chain C A B k) := rfl
/-- What stands at place j when k places are done. -/
def part (S C : Nat → Nat → Nat → Nat) (A B : Nat → Nat) (k j : Nat) : Nat := if j < k then digs S C A B j else 0

theorem chain_four (C : Nat → Nat → Nat → Nat) (A B : Nat → Nat) : chain C A B 4 = C (A 3) (B 3) (chain C A B 3) := rfl
theorem chain_three (C : Nat → Nat → Nat → Nat) (A B : Nat → Nat) : chain C A B 3 = C (A 2) (B 2) (chain C A B 2) := rfl
theorem chain_two (C : Nat → Nat → Nat → Nat) (A B : Nat → Nat) : chain C A B 2 = C (A 1) (B 1) (chain C A B 1) := rfl
theorem chain_one (C : Nat → Nat → Nat → Nat) (A B : Nat → Nat) : chain C A B 1 = C (A 0) (B 0) (chain C A B 0) := rfl
theorem chain_add_le (a b : Nat) : ∀ k, chain addC (limb a) (limb b) k ≤ 1
  | 0 => by simp [chain]
  | k + 1 => addC_le _ _ _ (limb_lt _ _) (limb_lt _ _) (chain_add_le a b k)
theorem chain_sub_le (A B : Nat → Nat) : ∀ k, chain subB A B k ≤ 1
  | 0 => by simp [chain]
  | k + 1 => subB_le _ _ _

def addN (a b : Nat) : Nat := (a + b) % R256
def addK (a b : Nat) : Nat := (a + b) / R256
def subN (a b : Nat) : Nat := (a + R256 - b) % R256
def subK (a b : Nat) : Nat := if a < b then 1 else 0
theorem addN_lt (a b : Nat) : addN a b < R256 := Nat.mod_lt _ (by decide)
theorem subN_lt (a b : Nat) : subN a b < R256 := Nat.mod_lt _ (by decide)
theorem addK_le (a b : Nat) (ha : a < R256) (hb : b < R256) : addK a b ≤ 1 := by unfold addK; unfold R256 at *; omega
theorem subK_le (a b : Nat) : subK a b ≤ 1 := by unfold subK; split <;> omega

theorem add_step (x y c : Nat) : addS x y c + M64 * addC x y c = x + y + c := Nat.mod_add_div _ _
theorem sub_step (x y b : Nat) (hx : x < M64) (hy : y < M64) (hb : b ≤ 1) : subS x y b + y + b = x + M64 * subB x y b := by
  unfold subS subB; unfold M64 at *
  split <;> omega

theorem add_key (a0 a1 a2 a3 b0 b1 b2 b3 s0 s1 s2 s3 k1 k2 k3 k4 : Nat) (e0 : s0 + M64 * k1 = a0 + b0 + 0) (e1 : s1 + M64 * k2 = a1 + b1 + k1) (e2 : s2 + M64 * k3 = a2 + b2 + k2) (e3 : s3 + M64 * k4 = a3 + b3 + k3) :
    join4 s0 s1 s2 s3 + R256 * k4 = join4 a0 a1 a2 a3 + join4 b0 b1 b2 b3 := by
  unfold join4 R256; unfold M64 at *; omega
theorem sub_key (a0 a1 a2 a3 b0 b1 b2 b3 s0 s1 s2 s3 k1 k2 k3 k4 : Nat) (e0 : s0 + b0 + 0 = a0 + M64 * k1) (e1 : s1 + b1 + k1 = a1 + M64 * k2) (e2 : s2 + b2 + k2 = a2 + M64 * k3) (e3 : s3 + b3 + k3 = a3 + M64 * k4) :
    join4 s0 s1 s2 s3 + join4 b0 b1 b2 b3 = join4 a0 a1 a2 a3 + R256 * k4 := by
  unfold join4 R256; unfold M64 at *; omega
theorem add_fin (s k a b : Nat) (h : s + R256 * k = a + b) (lt : s < R256) : s = addN a b ∧ k = addK a b := by
  unfold addN addK
  rw [← h]
  refine ⟨?_, ?_⟩
  · rw [Nat.add_mul_mod_self_left, Nat.mod_eq_of_lt lt]
  · rw [Nat.add_mul_div_left _ _ (by decide), Nat.div_eq_of_lt lt, Nat.zero_add]
theorem sub_fin (s k a b : Nat) (h : s + b = a + R256 * k) (lt : s < R256) (_ha : a < R256) (hb : b < R256) (hk : k ≤ 1) : s = subN a b ∧ k = subK a b := by
  have hk' : k = 0 ∨ k = 1 := by omega
  rcases hk' with rfl | rfl
  · have e : subN a b = s := by
      unfold subN
      rw [show a + R256 - b = s + R256 from by omega, Nat.add_mod_right, Nat.mod_eq_of_lt lt]
    have : ¬ a < b := by omega
    exact ⟨e.symm, by unfold subK; rw [if_neg this]⟩
  · have e : subN a b = s := by
      unfold subN
      rw [show a + R256 - b = s from by omega, Nat.mod_eq_of_lt lt]
    have : a < b := by omega
    exact ⟨e.symm, by unfold subK; rw [if_pos this]⟩

theorem add_join (a b : Nat) (ha : a < R256) (hb : b < R256) :
    join4 (digs addS addC (limb a) (limb b) 0) (digs addS addC (limb a) (limb b) 1) (digs addS addC (limb a) (limb b) 2) (digs addS addC (limb a) (limb b) 3) = addN a b ∧ chain addC (limb a) (limb b) 4 = addK a b := by
  have key := add_key (limb a 0) (limb a 1) (limb a 2) (limb a 3) (limb b 0) (limb b 1) (limb b 2) (limb b 3) _ _ _ _ _ _ _ _
    (add_step (limb a 0) (limb b 0) (chain addC (limb a) (limb b) 0)) (add_step (limb a 1) (limb b 1) (chain addC (limb a) (limb b) 1)) (add_step (limb a 2) (limb b 2) (chain addC (limb a) (limb b) 2)) (add_step (limb a 3) (limb b 3) (chain addC (limb a) (limb b) 3))
  rw [join_limb a ha, join_limb b hb] at key
  exact add_fin _ _ _ _ key (join4_lt _ _ _ _ (addS_lt _ _ _) (addS_lt _ _ _) (addS_lt _ _ _) (addS_lt _ _ _))

theorem sub_aux (a b s0 s1 s2 s3 k0 k1 k2 k3 k4 t1 t2 t3 t4 : Nat) (ha : a < R256) (hb : b < R256) (z : k0 = 0) (c1 : k1 = t1) (c2 : k2 = t2) (c3 : k3 = t3) (c4 : k4 = t4)
    (e0 : s0 + limb b 0 + k0 = limb a 0 + M64 * t1) (e1 : s1 + limb b 1 + k1 = limb a 1 + M64 * t2) (e2 : s2 + limb b 2 + k2 = limb a 2 + M64 * t3) (e3 : s3 + limb b 3 + k3 = limb a 3 + M64 * t4)
    (l0 : s0 < M64) (l1 : s1 < M64) (l2 : s2 < M64) (l3 : s3 < M64) (l4 : k4 ≤ 1) : join4 s0 s1 s2 s3 = subN a b ∧ k4 = subK a b := by
  subst z c1 c2 c3 c4
  have key := sub_key (limb a 0) (limb a 1) (limb a 2) (limb a 3) (limb b 0) (limb b 1) (limb b 2) (limb b 3) s0 s1 s2 s3 _ _ _ _ e0 e1 e2 e3
  rw [join_limb a ha, join_limb b hb] at key
  exact sub_fin _ _ _ _ key (join4_lt _ _ _ _ l0 l1 l2 l3) ha hb l4
theorem sub_join (a b : Nat) (ha : a < R256) (hb : b < R256) :
    join4 (digs subS subB (limb a) (limb b) 0) (digs subS subB (limb a) (limb b) 1) (digs subS subB (limb a) (limb b) 2) (digs subS subB (limb a) (limb b) 3) = subN a b ∧ chain subB (limb a) (limb b) 4 = subK a b := by
  have le := chain_sub_le (limb a) (limb b)
  rw [digs_eq, digs_eq, digs_eq, digs_eq]
  exact sub_aux a b _ _ _ _ (chain subB (limb a) (limb b) 0) (chain subB (limb a) (limb b) 1) (chain subB (limb a) (limb b) 2) (chain subB (limb a) (limb b) 3) (chain subB (limb a) (limb b) 4) _ _ _ _ ha hb rfl (chain_one subB (limb a) (limb b)) (chain_two subB (limb a) (limb b)) (chain_three subB (limb a) (limb b)) (chain_four subB (limb a) (limb b))
    (sub_step (limb a 0) (limb b 0) (chain subB (limb a) (limb b) 0) (limb_lt _ _) (limb_lt _ _) (le 0)) (sub_step (limb a 1) (limb b 1) (chain subB (limb a) (limb b) 1) (limb_lt _ _) (limb_lt _ _) (le 1)) (sub_step (limb a 2) (limb b 2) (chain subB (limb a) (limb b) 2) (limb_lt _ _) (limb_lt _ _) (le 2)) (sub_step (limb a 3) (limb b 3) (chain subB (limb a) (limb b) 3) (limb_lt _ _) (limb_lt _ _) (le 3))
    (subS_lt _ _ _) (subS_lt _ _ _) (subS_lt _ _ _) (subS_lt _ _ _) (le 4)

def cmpN (a b : Nat) : Int := if a < b then -1 else if b < a then 1 else 0
theorem cmp_lt (a b m : Nat) (ha : a < R256) (hb : b < R256) (hm : m < 4) (eq : ∀ j, m + 1 ≤ j → j < 4 → limb a j = limb b j) (lt : limb a m < limb b m) : a < b := by
  have ja := join_limb a ha
  have jb := join_limb b hb
  have a0 := limb_lt a 0
  have a1 := limb_lt a 1
  have a2 := limb_lt a 2
  have e1 := eq 1
  have e2 := eq 2
  have e3 := eq 3
  rw [← ja, ← jb]
  clear ja jb eq ha hb
  unfold join4
  unfold M64 at *
  match m, hm with
  | 0, _ => have := e1 (by omega) (by omega); have := e2 (by omega) (by omega); have := e3 (by omega) (by omega); omega
  | 1, _ => have := e2 (by omega) (by omega); have := e3 (by omega) (by omega); omega
  | 2, _ => have := e3 (by omega) (by omega); omega
  | 3, _ => omega
theorem cmp_eq (a b : Nat) (ha : a < R256) (hb : b < R256) (eq : ∀ j, 0 ≤ j → j < 4 → limb a j = limb b j) : a = b :=
  limb_inj a b ha hb (eq 0 (by omega) (by omega)) (eq 1 (by omega) (by omega)) (eq 2 (by omega) (by omega)) (eq 3 (by omega) (by omega))
theorem cmpN_lt {a b : Nat} (h : a < b) : cmpN a b = -1 := if_pos h
theorem cmpN_gt {a b : Nat} (h : b < a) : cmpN a b = 1 := by unfold cmpN; rw [if_neg (by omega), if_pos h]
theorem cmpN_self (a : Nat) : cmpN a a = 0 := by unfold cmpN; rw [if_neg (by omega), if_neg (by omega)]

/-! ### Products -/
def maH (a b c d : Nat) : Nat := (a * b + c + d) / M64
def maL (a b c d : Nat) : Nat := (a * b + c + d) % M64
theorem maL_lt (a b c d : Nat) : maL a b c d < M64 := Nat.mod_lt _ M64_pos
theorem ma_step (a b c d : Nat) : maL a b c d + M64 * maH a b c d = a * b + c + d := Nat.mod_add_div _ _
theorem prod_le (a b : Nat) (ha : a < M64) (hb : b < M64) : a * b ≤ 340282366920938463426481119284349108225 := by
  have h := Nat.mul_le_mul (Nat.le_sub_one_of_lt ha) (Nat.le_sub_one_of_lt hb)
  exact h
theorem maH_lt (a b c d : Nat) (ha : a < M64) (hb : b < M64) (hc : c < M64) (hd : d < M64) : maH a b c d < M64 := by
  have h := prod_le a b ha hb
  unfold maH
  refine Nat.div_lt_of_lt_mul ?_
  generalize a * b = p at *
  unfold M64 at *
  omega
theorem mulAdd_eq (a b c d : Nat) :
    addS (addS (mulL a b) c 0) d 0 = maL a b c d ∧ mulH a b + addC (mulL a b) c 0 + addC (addS (mulL a b) c 0) d 0 = maH a b c d := by
  have e1 : mulL a b + M64 * mulH a b = a * b := Nat.mod_add_div _ _
  have e2 := add_step (mulL a b) c 0
  have e3 := add_step (addS (mulL a b) c 0) d 0
  have e4 := ma_step a b c d
  have l1 := addS_lt (addS (mulL a b) c 0) d 0
  have l2 := maL_lt a b c d
  generalize addS (addS (mulL a b) c 0) d 0 = s2 at *
  generalize addC (addS (mulL a b) c 0) d 0 = c2 at *
  generalize addS (mulL a b) c 0 = s1 at *
  generalize addC (mulL a b) c 0 = c1 at *
  generalize mulL a b = l at *
  generalize mulH a b = h at *
  generalize maL a b c d = x at *
  generalize maH a b c d = y at *
  generalize a * b = p at *
  unfold M64 at *
  omega
/-- The five limbs of d times b more than w. -/
def rowL (d b0 b1 b2 b3 w0 w1 w2 w3 : Nat) : Nat → Nat
  | 0 => maL d b0 w0 0
  | 1 => maL d b1 w1 (maH d b0 w0 0)
  | 2 => maL d b2 w2 (maH d b1 w1 (maH d b0 w0 0))
  | 3 => maL d b3 w3 (maH d b2 w2 (maH d b1 w1 (maH d b0 w0 0)))
  | _ => maH d b3 w3 (maH d b2 w2 (maH d b1 w1 (maH d b0 w0 0)))
theorem row_step (d b0 b1 b2 b3 w0 w1 w2 w3 r0 r1 r2 r3 k1 k2 k3 k4 : Nat) (e0 : r0 + M64 * k1 = d * b0 + w0 + 0) (e1 : r1 + M64 * k2 = d * b1 + w1 + k1) (e2 : r2 + M64 * k3 = d * b2 + w2 + k2) (e3 : r3 + M64 * k4 = d * b3 + w3 + k3) :
    r0 + M64 * (r1 + M64 * (r2 + M64 * (r3 + M64 * k4))) = d * join4 b0 b1 b2 b3 + join4 w0 w1 w2 w3 := by
  unfold join4
  have x : d * (b0 + M64 * (b1 + M64 * (b2 + M64 * b3))) = d * b0 + M64 * (d * b1 + M64 * (d * b2 + M64 * (d * b3))) := by
    simp only [Nat.mul_add, Nat.mul_left_comm d M64]
  rw [x]
  generalize d * b0 = p0 at *
  generalize d * b1 = p1 at *
  generalize d * b2 = p2 at *
  generalize d * b3 = p3 at *
  unfold M64 at *
  omega
theorem row_val (d b0 b1 b2 b3 w0 w1 w2 w3 : Nat) :
    rowL d b0 b1 b2 b3 w0 w1 w2 w3 0 + M64 * (rowL d b0 b1 b2 b3 w0 w1 w2 w3 1 + M64 * (rowL d b0 b1 b2 b3 w0 w1 w2 w3 2 + M64 * (rowL d b0 b1 b2 b3 w0 w1 w2 w3 3 + M64 * rowL d b0 b1 b2 b3 w0 w1 w2 w3 4))) = d * join4 b0 b1 b2 b3 + join4 w0 w1 w2 w3 :=
  row_step d b0 b1 b2 b3 w0 w1 w2 w3 _ _ _ _ _ _ _ _ (ma_step _ _ _ _) (ma_step _ _ _ _) (ma_step _ _ _ _) (ma_step _ _ _ _)
theorem row_lt (d b0 b1 b2 b3 w0 w1 w2 w3 : Nat) (hd : d < M64) (h0 : b0 < M64) (h1 : b1 < M64) (h2 : b2 < M64) (h3 : b3 < M64) (g0 : w0 < M64) (g1 : w1 < M64) (g2 : w2 < M64) (g3 : w3 < M64) :
    rowL d b0 b1 b2 b3 w0 w1 w2 w3 0 < M64 ∧ rowL d b0 b1 b2 b3 w0 w1 w2 w3 1 < M64 ∧ rowL d b0 b1 b2 b3 w0 w1 w2 w3 2 < M64 ∧ rowL d b0 b1 b2 b3 w0 w1 w2 w3 3 < M64 ∧ rowL d b0 b1 b2 b3 w0 w1 w2 w3 4 < M64 :=
  ⟨maL_lt _ _ _ _, maL_lt _ _ _ _, maL_lt _ _ _ _, maL_lt _ _ _ _, maH_lt _ _ _ _ hd h3 g3 (maH_lt _ _ _ _ hd h2 g2 (maH_lt _ _ _ _ hd h1 g1 (maH_lt _ _ _ _ hd h0 g0 M64_pos)))⟩
def join8 (x0 x1 x2 x3 x4 x5 x6 x7 : Nat) : Nat := x0 + M64 * (x1 + M64 * (x2 + M64 * (x3 + M64 * (x4 + M64 * (x5 + M64 * (x6 + M64 * x7))))))
theorem limb_join8 (x0 x1 x2 x3 x4 x5 x6 x7 : Nat) (h0 : x0 < M64) (h1 : x1 < M64) (h2 : x2 < M64) (h3 : x3 < M64) (h4 : x4 < M64) (h5 : x5 < M64) (h6 : x6 < M64) (h7 : x7 < M64) :
    limb (join8 x0 x1 x2 x3 x4 x5 x6 x7) 0 = x0 ∧ limb (join8 x0 x1 x2 x3 x4 x5 x6 x7) 1 = x1 ∧ limb (join8 x0 x1 x2 x3 x4 x5 x6 x7) 2 = x2 ∧ limb (join8 x0 x1 x2 x3 x4 x5 x6 x7) 3 = x3 ∧
    limb (join8 x0 x1 x2 x3 x4 x5 x6 x7) 4 = x4 ∧ limb (join8 x0 x1 x2 x3 x4 x5 x6 x7) 5 = x5 ∧ limb (join8 x0 x1 x2 x3 x4 x5 x6 x7) 6 = x6 ∧ limb (join8 x0 x1 x2 x3 x4 x5 x6 x7) 7 = x7 := by
  unfold join8
  refine ⟨?_, ?_, ?_, ?_, ?_, ?_, ?_, ?_⟩
  · rw [limb_head _ _ h0]
  · rw [limb_cons _ _ _ h0, limb_head _ _ h1]
  · rw [limb_cons _ _ _ h0, limb_cons _ _ _ h1, limb_head _ _ h2]
  · rw [limb_cons _ _ _ h0, limb_cons _ _ _ h1, limb_cons _ _ _ h2, limb_head _ _ h3]
  · rw [limb_cons _ _ _ h0, limb_cons _ _ _ h1, limb_cons _ _ _ h2, limb_cons _ _ _ h3, limb_head _ _ h4]
  · rw [limb_cons _ _ _ h0, limb_cons _ _ _ h1, limb_cons _ _ _ h2, limb_cons _ _ _ h3, limb_cons _ _ _ h4, limb_head _ _ h5]
  · rw [limb_cons _ _ _ h0, limb_cons _ _ _ h1, limb_cons _ _ _ h2, limb_cons _ _ _ h3, limb_cons _ _ _ h4, limb_cons _ _ _ h5, limb_head _ _ h6]
  · rw [limb_cons _ _ _ h0, limb_cons _ _ _ h1, limb_cons _ _ _ h2, limb_cons _ _ _ h3, limb_cons _ _ _ h4, limb_cons _ _ _ h5, limb_cons _ _ _ h6, limb_zero, Nat.mod_eq_of_lt h7]
theorem mul_key (a0 a1 a2 a3 b x0 x1 x2 x3 x4 p1 p2 p3 p4 p5 q2 q3 q4 q5 q6 r3 r4 r5 r6 r7 : Nat)
    (e0 : x0 + M64 * (x1 + M64 * (x2 + M64 * (x3 + M64 * x4))) = a0 * b + join4 0 0 0 0)
    (e1 : p1 + M64 * (p2 + M64 * (p3 + M64 * (p4 + M64 * p5))) = a1 * b + join4 x1 x2 x3 x4)
    (e2 : q2 + M64 * (q3 + M64 * (q4 + M64 * (q5 + M64 * q6))) = a2 * b + join4 p2 p3 p4 p5)
    (e3 : r3 + M64 * (r4 + M64 * (r5 + M64 * (r6 + M64 * r7))) = a3 * b + join4 q3 q4 q5 q6) :
    join8 x0 p1 q2 r3 r4 r5 r6 r7 = join4 a0 a1 a2 a3 * b := by
  unfold join8 join4 at *
  have x : (a0 + M64 * (a1 + M64 * (a2 + M64 * a3))) * b = a0 * b + M64 * (a1 * b + M64 * (a2 * b + M64 * (a3 * b))) := by
    simp only [Nat.add_mul, Nat.mul_assoc]
  rw [x]
  generalize a0 * b = z0 at *
  generalize a1 * b = z1 at *
  generalize a2 * b = z2 at *
  generalize a3 * b = z3 at *
  unfold M64 at *
  omega
end Go.Proofs.YtcdiehnkknmbeaaDoor
