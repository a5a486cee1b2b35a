/- Several texts laid together. -/
import Derived.KernelRfl
import Derived.Test.YtbpgiijdcagckaaDoorPrimePQ
import Derived.Test.YtbpgiijdcagckaaDoorRows
import Derived.WalkKit
import Derived.WalkSpells
import Derived.WalkLawsBesides
import Derived.StillTactics
import Derived.Laws.Externs
import Derived.RowKit3
import Derived.Below
import Derived.Lib.Mul64
import Derived.Laws.Bits64b
import Derived.BigQuiet
import Derived.Deep.QuietTactic
import Derived.Handy
import Derived.Shelf.Bits.Mul64
namespace Go.Proofs.YtbpgiijdcagckaaDoor

def M64 : Nat := 18446744073709551616
def R256 : Nat := 115792089237316195423570985008687907853269984665640564039457584007913129639936
/-- Limb k of n. -/
def limb (n k : Nat) : Nat := n / M64 ^ k % M64
def join4 (x0 x1 x2 x3 : Nat) : Nat := x0 + M64 * (x1 + M64 * (x2 + M64 * x3))
theorem M64_pos : 0 < M64 := by decide
theorem R256_eq : R256 = M64 * (M64 * (M64 * M64)) := by decide
theorem limb_lt (n k : Nat) : limb n k < M64 := Nat.mod_lt _ M64_pos
theorem limb_zero (n : Nat) : limb n 0 = n % M64 := by simp [limb]
theorem limb_succ (n k : Nat) : limb n (k + 1) = limb (n / M64) k := by
  unfold limb
  rw [Nat.pow_succ, Nat.mul_comm (M64 ^ k), ← Nat.div_div_eq_div_mul]
theorem limb_cons (x n k : Nat) (hx : x < M64) : limb (x + M64 * n) (k + 1) = limb n k := by
  rw [limb_succ, Nat.add_mul_div_left _ _ M64_pos, Nat.div_eq_of_lt hx, Nat.zero_add]
theorem limb_head (x n : Nat) (hx : x < M64) : limb (x + M64 * n) 0 = x := by
  rw [limb_zero, Nat.add_mul_mod_self_left, Nat.mod_eq_of_lt hx]
theorem limb_join0 (x0 x1 x2 x3 : Nat) (h0 : x0 < M64) : limb (join4 x0 x1 x2 x3) 0 = x0 := limb_head _ _ h0
theorem limb_join1 (x0 x1 x2 x3 : Nat) (h0 : x0 < M64) (h1 : x1 < M64) : limb (join4 x0 x1 x2 x3) 1 = x1 := by
  unfold join4; rw [limb_cons _ _ _ h0, limb_head _ _ h1]
theorem limb_join2 (x0 x1 x2 x3 : Nat) (h0 : x0 < M64) (h1 : x1 < M64) (h2 : x2 < M64) : limb (join4 x0 x1 x2 x3) 2 = x2 := by
  unfold join4; rw [limb_cons _ _ _ h0, limb_cons _ _ _ h1, limb_head _ _ h2]
theorem limb_join3 (x0 x1 x2 x3 : Nat) (h0 : x0 < M64) (h1 : x1 < M64) (h2 : x2 < M64) (h3 : x3 < M64) : limb (join4 x0 x1 x2 x3) 3 = x3 := by
  unfold join4; rw [limb_cons _ _ _ h0, limb_cons _ _ _ h1, limb_cons _ _ _ h2]
  rw [limb_zero, Nat.mod_eq_of_lt h3]
theorem join_limb (n : Nat) (h : n < R256) : join4 (limb n 0) (limb n 1) (limb n 2) (limb n 3) = n := by
  have e : ∀ m, m % M64 + M64 * (m / M64) = m := fun m => Nat.mod_add_div m M64
  unfold join4
  have l1 : limb n 1 = n / M64 % M64 := by rw [limb_succ n 0, limb_zero]
  have l2 : limb n 2 = n / M64 / M64 % M64 := by rw [limb_succ n 1, limb_succ _ 0, limb_zero]
  have l3 : limb n 3 = n / M64 / M64 / M64 % M64 := by rw [limb_succ n 2, limb_succ _ 1, limb_succ _ 0, limb_zero]
  rw [l1, l2, l3, limb_zero]
  have h3 : n / M64 / M64 / M64 < M64 := by
    rw [Nat.div_div_eq_div_mul, Nat.div_div_eq_div_mul]
    refine Nat.div_lt_of_lt_mul ?_
    have e4 : R256 = M64 * M64 * M64 * M64 := by decide
    rw [e4] at h
    exact h
  rw [Nat.mod_eq_of_lt h3, e, e, e]
theorem join4_lt (x0 x1 x2 x3 : Nat) (h0 : x0 < M64) (h1 : x1 < M64) (h2 : x2 < M64) (h3 : x3 < M64) : join4 x0 x1 x2 x3 < R256 := by
  unfold join4 R256; unfold M64 at *; omega
theorem limb_inj (n m : Nat) (hn : n < R256) (hm : m < R256) (h0 : limb n 0 = limb m 0) (h1 : limb n 1 = limb m 1) (h2 : limb n 2 = limb m 2) (h3 : limb n 3 = limb m 3) : n = m := by
  rw [← join_limb n hn, ← join_limb m hm, h0, h1, h2, h3]

def addS (x y c : Nat) : Nat := (x + y + c) % M64
def addC (x y c : Nat) : Nat := (x + y + c) / M64
def subS (x y b : Nat) : Nat := (x + M64 - y - b) % M64
def subB (x y b : Nat) : Nat := if x < y + b then 1 else 0
def mulH (x y : Nat) : Nat := x * y / M64
def mulL (x y : Nat) : Nat := x * y % M64
theorem addC_le (x y c : Nat) (hx : x < M64) (hy : y < M64) (hc : c ≤ 1) : addC x y c ≤ 1 := by
  unfold addC; unfold M64 at *; omega
theorem subB_le (x y b : Nat) : subB x y b ≤ 1 := by unfold subB; split <;> omega
theorem addS_lt (x y c : Nat) : addS x y c < M64 := Nat.mod_lt _ (by decide)
theorem subS_lt (x y c : Nat) : subS x y c < M64 := Nat.mod_lt _ (by decide)

/-- The carry ahead of place k. -/
def chain (C : Nat → Nat → Nat → Nat) (A B : Nat → Nat) : Nat → Nat
  | 0 => 0
  | k + 1 => C (A k) (B k) (chain C A B k)
def digs (S C : Nat → Nat → Nat → Nat) (A B : Nat → Nat) (k : Nat) : Nat := S (A k) (B k) (chain C A B k)
theorem digs_eq (S C : Nat → Nat → Nat → Nat) (A B : Nat → Nat) (k : Nat) : digs S C A B k = S (A k) (B k) (chain C A B k) := rfl
/-- What stands at place j when k places are done. -/
def part (S C : Nat → Nat → Nat → Nat) (A B : Nat → Nat) (k j : Nat) : Nat := if j < k then digs S C A B j else 0

theorem chain_four (C : Nat → Nat → Nat → Nat) (A B : Nat → Nat) : chain C A B 4 = C (A 3) (B 3) (chain C A B 3) := rfl
theorem chain_three (C : Nat → Nat → Nat → Nat) (A B : Nat → Nat) : chain C A B 3 = C (A 2) (B 2) (chain C A B 2) := rfl
theorem chain_two (C : Nat → Nat → Nat → Nat) (A B : Nat → Nat) : chain C A B 2 = C (A 1) (B 1) (chain C A B 1) := rfl
theorem chain_one (C : Nat → Nat → Nat → Nat) (A B : Nat → Nat) : chain C A B 1 = C (A 0) (B 0) (chain C A B 0) := rfl
theorem chain_add_le (a b : Nat) : ∀ k, chain addC (limb a) (limb b) k ≤ 1
  | 0 => by simp [chain]
  | k + 1 => addC_le _ _ _ (limb_lt _ _) (limb_lt _ _) (chain_add_le a b k)
theorem chain_sub_le (A B : Nat → Nat) : ∀ k, chain subB A B k ≤ 1
  | 0 => by simp [chain]
  | k + 1 => subB_le _ _ _

def addN (a b : Nat) : Nat := (a + b) % R256
def addK (a b : Nat) : Nat := (a + b) / R256
def subN (a b : Nat) : Nat := (a + R256 - b) % R256
def subK (a b : Nat) : Nat := if a < b then 1 else 0
theorem addN_lt (a b : Nat) : addN a b < R256 := Nat.mod_lt _ (by decide)
theorem subN_lt (a b : Nat) : subN a b < R256 := Nat.mod_lt _ (by decide)
theorem addK_le (a b : Nat) (ha : a < R256) (hb : b < R256) : addK a b ≤ 1 := by unfold addK; unfold R256 at *; omega
theorem subK_le (a b : Nat) : subK a b ≤ 1 := by unfold subK; split <;> omega

theorem add_step (x y c : Nat) : addS x y c + M64 * addC x y c = x + y + c := Nat.mod_add_div _ _
theorem sub_step (x y b : Nat) (hx : x < M64) (hy : y < M64) (hb : b ≤ 1) : subS x y b + y + b = x + M64 * subB x y b := by
  unfold subS subB; unfold M64 at *
  split <;> omega

theorem add_key (a0 a1 a2 a3 b0 b1 b2 b3 s0 s1 s2 s3 k1 k2 k3 k4 : Nat) (e0 : s0 + M64 * k1 = a0 + b0 + 0) (e1 : s1 + M64 * k2 = a1 + b1 + k1) (e2 : s2 + M64 * k3 = a2 + b2 + k2) (e3 : s3 + M64 * k4 = a3 + b3 + k3) :
    join4 s0 s1 s2 s3 + R256 * k4 = join4 a0 a1 a2 a3 + join4 b0 b1 b2 b3 := by
  unfold join4 R256; unfold M64 at *; omega
theorem sub_key (a0 a1 a2 a3 b0 b1 b2 b3 s0 s1 s2 s3 k1 k2 k3 k4 : Nat) (e0 : s0 + b0 + 0 = a0 + M64 * k1) (e1 : s1 + b1 + k1 = a1 + M64 * k2) (e2 : s2 + b2 + k2 = a2 + M64 * k3) (e3 : s3 + b3 + k3 = a3 + M64 * k4) :
    join4 s0 s1 s2 s3 + join4 b0 b1 b2 b3 = join4 a0 a1 a2 a3 + R256 * k4 := by
  unfold join4 R256; unfold M64 at *; omega
theorem add_fin (s k a b : Nat) (h : s + R256 * k = a + b) (lt : s < R256) : s = addN a b ∧ k = addK a b := by
  unfold addN addK
  rw [← h]
  refine ⟨?_, ?_⟩
  · rw [Nat.add_mul_mod_self_left, Nat.mod_eq_of_lt lt]
  · rw [Nat.add_mul_div_left _ _ (by decide), Nat.div_eq_of_lt lt, Nat.zero_add]
theorem sub_fin (s k a b : Nat) (h : s + b = a + R256 * k) (lt : s < R256) (_ha : a < R256) (hb : b < R256) (hk : k ≤ 1) : s = subN a b ∧ k = subK a b := by
  have hk' : k = 0 ∨ k = 1 := by omega
  rcases hk' with rfl | rfl
  · have e : subN a b = s := by
      unfold subN
      rw [show a + R256 - b = s + R256 from by omega, Nat.add_mod_right, Nat.mod_eq_of_lt lt]
    have : ¬ a < b := by omega
    exact ⟨e.symm, by unfold subK; rw [if_neg this]⟩
  · have e : subN a b = s := by
      unfold subN
      rw [show a + R256 - b = s from by omega, Nat.mod_eq_of_lt lt]
    have : a < b := by omega
    exact ⟨e.symm, by unfold subK; rw [if_pos this]⟩

theorem add_join (a b : Nat) (ha : a < R256) (hb : b < R256) :
    join4 (digs addS addC (limb a) (limb b) 0) (digs addS addC (limb a) (limb b) 1) (digs addS addC (limb a) (limb b) 2) (digs addS addC (limb a) (limb b) 3) = addN a b ∧ chain addC (limb a) (limb b) 4 = addK a b := by
  have key := add_key (limb a 0) (limb a 1) (limb a 2) (limb a 3) (limb b 0) (limb b 1) (limb b 2) (limb b 3) _ _ _ _ _ _ _ _
    (add_step (limb a 0) (limb b 0) (chain addC (limb a) (limb b) 0)) (add_step (limb a 1) (limb b 1) (chain addC (limb a) (limb b) 1)) (add_step (limb a 2) (limb b 2) (chain addC (limb a) (limb b) 2)) (add_step (limb a 3) (limb b 3) (chain addC (limb a) (limb b) 3))
  rw [join_limb a ha, join_limb b hb] at key
  exact add_fin _ _ _ _ key (join4_lt _ _ _ _ (addS_lt _ _ _) (addS_lt _ _ _) (addS_lt _ _ _) (addS_lt _ _ _))

theorem sub_aux (a b s0 s1 s2 s3 k0 k1 k2 k3 k4 t1 t2 t3 t4 : Nat) (ha : a < R256) (hb : b < R256) (z : k0 = 0) (c1 : k1 = t1) (c2 : k2 = t2) (c3 : k3 = t3) (c4 : k4 = t4)
    (e0 : s0 + limb b 0 + k0 = limb a 0 + M64 * t1) (e1 : s1 + limb b 1 + k1 = limb a 1 + M64 * t2) (e2 : s2 + limb b 2 + k2 = limb a 2 + M64 * t3) (e3 : s3 + limb b 3 + k3 = limb a 3 + M64 * t4)
    (l0 : s0 < M64) (l1 : s1 < M64) (l2 : s2 < M64) (l3 : s3 < M64) (l4 : k4 ≤ 1) : join4 s0 s1 s2 s3 = subN a b ∧ k4 = subK a b := by
  subst z c1 c2 c3 c4
  have key := sub_key (limb a 0) (limb a 1) (limb a 2) (limb a 3) (limb b 0) (limb b 1) (limb b 2) (limb b 3) s0 s1 s2 s3 _ _ _ _ e0 e1 e2 e3
  rw [join_limb a ha, join_limb b hb] at key
  exact sub_fin _ _ _ _ key (join4_lt _ _ _ _ l0 l1 l2 l3) ha hb l4
theorem sub_join (a b : Nat) (ha : a < R256) (hb : b < R256) :
    join4 (digs subS subB (limb a) (limb b) 0) (digs subS subB (limb a) (limb b) 1) (digs subS subB (limb a) (limb b) 2) (digs subS subB (limb a) (limb b) 3) = subN a b ∧ chain subB (limb a) (limb b) 4 = subK a b := by
  have le := chain_sub_le (limb a) (limb b)
  rw [digs_eq, digs_eq, digs_eq, digs_eq]
  exact sub_aux a b _ _ _ _ (chain subB (limb a) (limb b) 0) (chain subB (limb a) (limb b) 1) (chain subB (limb a) (limb b) 2) (chain subB (limb a) (limb b) 3) (chain subB (limb a) (limb b) 4) _ _ _ _ ha hb rfl (chain_one subB (limb a) (limb b)) (chain_two subB (limb a) (limb b)) (chain_three subB (limb a) (limb b)) (chain_four subB (limb a) (limb b))
    (sub_step (limb a 0) (limb b 0) (chain subB (limb a) (limb b) 0) (limb_lt _ _) (limb_lt _ _) (le 0)) (sub_step (limb a 1) (limb b 1) (chain subB (limb a) (limb b) 1) (limb_lt _ _) (limb_lt _ _) (le 1)) (sub_step (limb a 2) (limb b 2) (chain subB (limb a) (limb b) 2) (limb_lt _ _) (limb_lt _ _) (le 2)) (sub_step (limb a 3) (limb b 3) (chain subB (limb a) (limb b) 3) (limb_lt _ _) (limb_lt _ _) (le 3))
    (subS_lt _ _ _) (subS_lt _ _ _) (subS_lt _ _ _) (subS_lt _ _ _) (le 4)

def cmpN (a b : Nat) : Int := if a < b then -1 else if b < a then 1 else 0
theorem cmp_lt (a b m : Nat) (ha : a < R256) (hb : b < R256) (hm : m < 4) (eq : ∀ j, m + 1 ≤ j → j < 4 → limb a j = limb b j) (lt : limb a m < limb b m) : a < b := by
  have ja := join_limb a ha
  have jb := join_limb b hb
  have a0 := limb_lt a 0
  have a1 := limb_lt a 1
  have a2 := limb_lt a 2
  have e1 := eq 1
  have e2 := eq 2
  have e3 := eq 3
  rw [← ja, ← jb]
  clear ja jb eq ha hb
  unfold join4
  unfold M64 at *
  match m, hm with
  | 0, _ => have := e1 (by omega) (by omega); have := e2 (by omega) (by omega); have := e3 (by omega) (by omega); omega
  | 1, _ => have := e2 (by omega) (by omega); have := e3 (by omega) (by omega); omega
  | 2, _ => have := e3 (by omega) (by omega); omega
  | 3, _ => omega
theorem cmp_eq (a b : Nat) (ha : a < R256) (hb : b < R256) (eq : ∀ j, 0 ≤ j → j < 4 → limb a j = limb b j) : a = b :=
  limb_inj a b ha hb (eq 0 (by omega) (by omega)) (eq 1 (by omega) (by omega)) (eq 2 (by omega) (by omega)) (eq 3 (by omega) (by omega))
theorem cmpN_lt {a b : Nat} (h : a < b) : cmpN a b = -1 := if_pos h
theorem cmpN_gt {a b : Nat} (h : b < a) : cmpN a b = 1 := by unfold cmpN; rw [if_neg (by omega), if_pos h]
theorem cmpN_self (a : Nat) : cmpN a a = 0 := by unfold cmpN; rw [if_neg (by omega), if_neg (by omega)]

/-! ### Products -/
def maH (a b c d : Nat) : Nat := (a * b + c + d) / M64
def maL (a b c d : Nat) : Nat := (a * b + c + d) % M64
theorem maL_lt (a b c d : Nat) : maL a b c d < M64 := Nat.mod_lt _ M64_pos
theorem ma_step (a b c d : Nat) : maL a b c d + M64 * maH a b c d = a * b + c + d := Nat.mod_add_div _ _
theorem prod_le (a b : Nat) (ha : a < M64) (hb : b < M64) : a * b ≤ 340282366920938463426481119284349108225 := by
  have h := Nat.mul_le_mul (Nat.le_sub_one_of_lt ha) (Nat.le_sub_one_of_lt hb)
  exact h
theorem maH_lt (a b c d : Nat) (ha : a < M64) (hb : b < M64) (hc : c < M64) (hd : d < M64) : maH a b c d < M64 := by
  have h := prod_le a b ha hb
  unfold maH
  refine Nat.div_lt_of_lt_mul ?_
  generalize a * b = p at *
  unfold M64 at *
  omega
theorem mulAdd_eq (a b c d : Nat) :
    addS (addS (mulL a b) c 0) d 0 = maL a b c d ∧ mulH a b + addC (mulL a b) c 0 + addC (addS (mulL a b) c 0) d 0 = maH a b c d := by
  have e1 : mulL a b + M64 * mulH a b = a * b := Nat.mod_add_div _ _
  have e2 := add_step (mulL a b) c 0
  have e3 := add_step (addS (mulL a b) c 0) d 0
  have e4 := ma_step a b c d
  have l1 := addS_lt (addS (mulL a b) c 0) d 0
  have l2 := maL_lt a b c d
  generalize addS (addS (mulL a b) c 0) d 0 = s2 at *
  generalize addC (addS (mulL a b) c 0) d 0 = c2 at *
  generalize addS (mulL a b) c 0 = s1 at *
  generalize addC (mulL a b) c 0 = c1 at *
  generalize mulL a b = l at *
  generalize mulH a b = h at *
  generalize maL a b c d = x at *
  generalize maH a b c d = y at *
  generalize a * b = p at *
  unfold M64 at *
  omega
/-- The five limbs of d times b more than w. -/
def rowL (d b0 b1 b2 b3 w0 w1 w2 w3 : Nat) : Nat → Nat
  | 0 => maL d b0 w0 0
  | 1 => maL d b1 w1 (maH d b0 w0 0)
  | 2 => maL d b2 w2 (maH d b1 w1 (maH d b0 w0 0))
  | 3 => maL d b3 w3 (maH d b2 w2 (maH d b1 w1 (maH d b0 w0 0)))
  | _ => maH d b3 w3 (maH d b2 w2 (maH d b1 w1 (maH d b0 w0 0)))
theorem row_step (d b0 b1 b2 b3 w0 w1 w2 w3 r0 r1 r2 r3 k1 k2 k3 k4 : Nat) (e0 : r0 + M64 * k1 = d * b0 + w0 + 0) (e1 : r1 + M64 * k2 = d * b1 + w1 + k1) (e2 : r2 + M64 * k3 = d * b2 + w2 + k2) (e3 : r3 + M64 * k4 = d * b3 + w3 + k3) :
    r0 + M64 * (r1 + M64 * (r2 + M64 * (r3 + M64 * k4))) = d * join4 b0 b1 b2 b3 + join4 w0 w1 w2 w3 := by
  unfold join4
  have x : d * (b0 + M64 * (b1 + M64 * (b2 + M64 * b3))) = d * b0 + M64 * (d * b1 + M64 * (d * b2 + M64 * (d * b3))) := by
    simp only [Nat.mul_add, Nat.mul_left_comm d M64]
  rw [x]
  generalize d * b0 = p0 at *
  generalize d * b1 = p1 at *
  generalize d * b2 = p2 at *
  generalize d * b3 = p3 at *
  unfold M64 at *
  omega
theorem row_val (d b0 b1 b2 b3 w0 w1 w2 w3 : Nat) :
    rowL d b0 b1 b2 b3 w0 w1 w2 w3 0 + M64 * (rowL d b0 b1 b2 b3 w0 w1 w2 w3 1 + M64 * (rowL d b0 b1 b2 b3 w0 w1 w2 w3 2 + M64 * (rowL d b0 b1 b2 b3 w0 w1 w2 w3 3 + M64 * rowL d b0 b1 b2 b3 w0 w1 w2 w3 4))) = d * join4 b0 b1 b2 b3 + join4 w0 w1 w2 w3 :=
  row_step d b0 b1 b2 b3 w0 w1 w2 w3 _ _ _ _ _ _ _ _ (ma_step _ _ _ _) (ma_step _ _ _ _) (ma_step _ _ _ _) (ma_step _ _ _ _)
theorem row_lt (d b0 b1 b2 b3 w0 w1 w2 w3 : Nat) (hd : d < M64) (h0 : b0 < M64) (h1 : b1 < M64) (h2 : b2 < M64) (h3 : b3 < M64) (g0 : w0 < M64) (g1 : w1 < M64) (g2 : w2 < M64) (g3 : w3 < M64) :
    rowL d b0 b1 b2 b3 w0 w1 w2 w3 0 < M64 ∧ rowL d b0 b1 b2 b3 w0 w1 w2 w3 1 < M64 ∧ rowL d b0 b1 b2 b3 w0 w1 w2 w3 2 < M64 ∧ rowL d b0 b1 b2 b3 w0 w1 w2 w3 3 < M64 ∧ rowL d b0 b1 b2 b3 w0 w1 w2 w3 4 < M64 :=
  ⟨maL_lt _ _ _ _, maL_lt _ _ _ _, maL_lt _ _ _ _, maL_lt _ _ _ _, maH_lt _ _ _ _ hd h3 g3 (maH_lt _ _ _ _ hd h2 g2 (maH_lt _ _ _ _ hd h1 g1 (maH_lt _ _ _ _ hd h0 g0 M64_pos)))⟩
def join8 (x0 x1 x2 x3 x4 x5 x6 x7 : Nat) : Nat := x0 + M64 * (x1 + M64 * (x2 + M64 * (x3 + M64 * (x4 + M64 * (x5 + M64 * (x6 + M64 * x7))))))
theorem limb_join8 (x0 x1 x2 x3 x4 x5 x6 x7 : Nat) (h0 : x0 < M64) (h1 : x1 < M64) (h2 : x2 < M64) (h3 : x3 < M64) (h4 : x4 < M64) (h5 : x5 < M64) (h6 : x6 < M64) (h7 : x7 < M64) :
    limb (join8 x0 x1 x2 x3 x4 x5 x6 x7) 0 = x0 ∧ limb (join8 x0 x1 x2 x3 x4 x5 x6 x7) 1 = x1 ∧ limb (join8 x0 x1 x2 x3 x4 x5 x6 x7) 2 = x2 ∧ limb (join8 x0 x1 x2 x3 x4 x5 x6 x7) 3 = x3 ∧
    limb (join8 x0 x1 x2 x3 x4 x5 x6 x7) 4 = x4 ∧ limb (join8 x0 x1 x2 x3 x4 x5 x6 x7) 5 = x5 ∧ limb (join8 x0 x1 x2 x3 x4 x5 x6 x7) 6 = x6 ∧ limb (join8 x0 x1 x2 x3 x4 x5 x6 x7) 7 = x7 := by
  unfold join8
  refine ⟨?_, ?_, ?_, ?_, ?_, ?_, ?_, ?_⟩
  · rw [limb_head _ _ h0]
  · rw [limb_cons _ _ _ h0, limb_head _ _ h1]
  · rw [limb_cons _ _ _ h0, limb_cons _ _ _ h1, limb_head _ _ h2]
  · rw [limb_cons _ _ _ h0, limb_cons _ _ _ h1, limb_cons _ _ _ h2, limb_head _ _ h3]
  · rw [limb_cons _ _ _ h0, limb_cons _ _ _ h1, limb_cons _ _ _ h2, limb_cons _ _ _ h3, limb_head _ _ h4]
  · rw [limb_cons _ _ _ h0, limb_cons _ _ _ h1, limb_cons _ _ _ h2, limb_cons _ _ _ h3, limb_cons _ _ _ h4, limb_head _ _ h5]
  · rw [limb_cons _ _ _ h0, limb_cons _ _ _ h1, limb_cons _ _ _ h2, limb_cons _ _ _ h3, limb_cons _ _ _ h4, limb_cons _ _ _ h5, limb_head _ _ h6]
  · rw [limb_cons _ _ _ h0, limb_cons _ _ _ h1, limb_cons _ _ _ h2, limb_cons _ _ _ h3, limb_cons _ _ _ h4, limb_cons _ _ _ h5, limb_cons _ _ _ h6, limb_zero, Nat.mod_eq_of_lt h7]
theorem mul_key (a0 a1 a2 a3 b x0 x1 x2 x3 x4 p1 p2 p3 p4 p5 q2 q3 q4 q5 q6 r3 r4 r5 r6 r7 : Nat)
    (e0 : x0 + M64 * (x1 + M64 * (x2 + M64 * (x3 + M64 * x4))) = a0 * b + join4 0 0 0 0)
    (e1 : p1 + M64 * (p2 + M64 * (p3 + M64 * (p4 + M64 * p5))) = a1 * b + join4 x1 x2 x3 x4)
    (e2 : q2 + M64 * (q3 + M64 * (q4 + M64 * (q5 + M64 * q6))) = a2 * b + join4 p2 p3 p4 p5)
    (e3 : r3 + M64 * (r4 + M64 * (r5 + M64 * (r6 + M64 * r7))) = a3 * b + join4 q3 q4 q5 q6) :
    join8 x0 p1 q2 r3 r4 r5 r6 r7 = join4 a0 a1 a2 a3 * b := by
  unfold join8 join4 at *
  have x : (a0 + M64 * (a1 + M64 * (a2 + M64 * a3))) * b = a0 * b + M64 * (a1 * b + M64 * (a2 * b + M64 * (a3 * b))) := by
    simp only [Nat.add_mul, Nat.mul_assoc]
  rw [x]
  generalize a0 * b = z0 at *
  generalize a1 * b = z1 at *
  generalize a2 * b = z2 at *
  generalize a3 * b = z3 at *
  unfold M64 at *
  omega
end Go.Proofs.YtbpgiijdcagckaaDoor

namespace Go.Proofs.YtbpgiijdcagckaaDoor

/-- A number such as P and Q: the gap to 2^256 has three limbs. -/
def FM (m : Nat) : Prop := R256 < 2 * m ∧ m < R256 ∧ R256 - m < M64 * (M64 * M64)
theorem FM_P : FM PP := by unfold FM; decide
theorem FM_Q : FM QQ := by unfold FM; decide
theorem FM.pos {m : Nat} (h : FM m) : 1 < m := by
  have := h.1
  have e : 4 < R256 := by decide
  omega
theorem R256_pow4 : R256 = M64 ^ 4 := by decide
theorem limb_div (V i : Nat) : limb (V / R256) i = limb V (i + 4) := by
  unfold limb
  rw [R256_pow4, Nat.div_div_eq_div_mul, ← Nat.pow_add, Nat.add_comm 4 i]
theorem limb_mod (V i : Nat) (h : i < 4) : limb (V % R256) i = limb V i := by
  have e := Nat.mod_add_div V R256
  have er : R256 = M64 ^ i * (M64 * M64 ^ (3 - i)) := by
    rw [← Nat.mul_assoc, ← Nat.pow_succ, ← Nat.pow_add, R256_pow4]
    congr 1
    omega
  unfold limb
  generalize V % R256 = r at *
  generalize V / R256 = q at *
  rw [← e, er, Nat.mul_assoc, Nat.add_mul_div_left _ _ (Nat.pow_pos M64_pos), Nat.mul_assoc, Nat.add_mul_mod_self_left]
theorem limb_gap3 {m : Nat} (h : FM m) : limb (R256 - m) 3 = 0 := by
  unfold limb
  rw [Nat.div_eq_of_lt, Nat.zero_mod]
  have e : M64 ^ 3 = M64 * (M64 * M64) := by decide
  rw [e]
  exact h.2.2

theorem fold_key (g0 g1 g2 a b x0 x1 x2 x3 x4 p0 p1 p2 p3 p4 q0 q1 q2 q3 q4 : Nat)
    (e0 : x0 + M64 * (x1 + M64 * (x2 + M64 * (x3 + M64 * x4))) = g0 * b + a)
    (e1 : p0 + M64 * (p1 + M64 * (p2 + M64 * (p3 + M64 * p4))) = g1 * b + join4 x1 x2 x3 x4)
    (e2 : q0 + M64 * (q1 + M64 * (q2 + M64 * (q3 + M64 * q4))) = g2 * b + join4 p1 p2 p3 p4) :
    join8 x0 p0 q0 q1 q2 q3 q4 0 = a + b * join4 g0 g1 g2 0 := by
  unfold join8 join4 at *
  have x : b * (g0 + M64 * (g1 + M64 * (g2 + M64 * 0))) = g0 * b + M64 * (g1 * b + M64 * (g2 * b)) := by
    rw [Nat.mul_comm b]
    simp only [Nat.add_mul, Nat.mul_assoc, Nat.mul_zero, Nat.add_zero]
  rw [x]
  generalize g0 * b = z0 at *
  generalize g1 * b = z1 at *
  generalize g2 * b = z2 at *
  unfold M64 at *
  omega
theorem fold_limbs (A B g : Nat) (hA : A < R256) (hB : B < R256) (hg : g < R256) (h3 : limb g 3 = 0) (x p q : Nat → Nat)
    (hx : x = rowL (limb g 0) (limb B 0) (limb B 1) (limb B 2) (limb B 3) (limb A 0) (limb A 1) (limb A 2) (limb A 3))
    (hp : p = rowL (limb g 1) (limb B 0) (limb B 1) (limb B 2) (limb B 3) (x 1) (x 2) (x 3) (x 4))
    (hq : q = rowL (limb g 2) (limb B 0) (limb B 1) (limb B 2) (limb B 3) (p 1) (p 2) (p 3) (p 4)) :
    ((x 1 < M64 ∧ x 2 < M64 ∧ x 3 < M64 ∧ x 4 < M64) ∧ (p 1 < M64 ∧ p 2 < M64 ∧ p 3 < M64 ∧ p 4 < M64)) ∧
    limb (A + B * g) 0 = x 0 ∧ limb (A + B * g) 1 = p 0 ∧ limb (A + B * g) 2 = q 0 ∧ limb (A + B * g) 3 = q 1 ∧ limb (A + B * g) 4 = q 2 ∧ limb (A + B * g) 5 = q 3 ∧ limb (A + B * g) 6 = q 4 ∧ limb (A + B * g) 7 = 0 := by
  have vx := row_val (limb g 0) (limb B 0) (limb B 1) (limb B 2) (limb B 3) (limb A 0) (limb A 1) (limb A 2) (limb A 3)
  have vp := row_val (limb g 1) (limb B 0) (limb B 1) (limb B 2) (limb B 3) (x 1) (x 2) (x 3) (x 4)
  have vq := row_val (limb g 2) (limb B 0) (limb B 1) (limb B 2) (limb B 3) (p 1) (p 2) (p 3) (p 4)
  have L := limb_lt
  obtain ⟨x0, x1, x2, x3, x4⟩ := row_lt (limb g 0) (limb B 0) (limb B 1) (limb B 2) (limb B 3) (limb A 0) (limb A 1) (limb A 2) (limb A 3) (L _ _) (L _ _) (L _ _) (L _ _) (L _ _) (L _ _) (L _ _) (L _ _) (L _ _)
  rw [← hx] at vx x0 x1 x2 x3 x4
  obtain ⟨p0, p1, p2, p3, p4⟩ := row_lt (limb g 1) (limb B 0) (limb B 1) (limb B 2) (limb B 3) _ _ _ _ (L _ _) (L _ _) (L _ _) (L _ _) (L _ _) x1 x2 x3 x4
  rw [← hp] at vp p0 p1 p2 p3 p4
  obtain ⟨q0, q1, q2, q3, q4⟩ := row_lt (limb g 2) (limb B 0) (limb B 1) (limb B 2) (limb B 3) _ _ _ _ (L _ _) (L _ _) (L _ _) (L _ _) (L _ _) p1 p2 p3 p4
  rw [← hq] at vq q0 q1 q2 q3 q4
  rw [join_limb B hB] at vx vp vq
  rw [join_limb A hA] at vx
  have key := fold_key _ _ _ A B _ _ _ _ _ _ _ _ _ _ _ _ _ _ _ vx vp vq
  have jg := join_limb g hg
  rw [h3] at jg
  rw [jg] at key
  obtain ⟨l0, l1, l2, l3, l4, l5, l6, l7⟩ := limb_join8 _ _ _ _ _ _ _ _ x0 p0 q0 q1 q2 q3 q4 M64_pos
  rw [key] at l0 l1 l2 l3 l4 l5 l6 l7
  exact ⟨⟨⟨x1, x2, x3, x4⟩, p1, p2, p3, p4⟩, l0, l1, l2, l3, l4, l5, l6, l7⟩
theorem row_zero (b0 b1 b2 b3 w0 w1 w2 w3 : Nat) (h0 : w0 < M64) (h1 : w1 < M64) (h2 : w2 < M64) (h3 : w3 < M64) :
    rowL 0 b0 b1 b2 b3 w0 w1 w2 w3 0 = w0 ∧ rowL 0 b0 b1 b2 b3 w0 w1 w2 w3 1 = w1 ∧ rowL 0 b0 b1 b2 b3 w0 w1 w2 w3 2 = w2 ∧ rowL 0 b0 b1 b2 b3 w0 w1 w2 w3 3 = w3 ∧ rowL 0 b0 b1 b2 b3 w0 w1 w2 w3 4 = 0 := by
  have l : ∀ b x, x < M64 → maL 0 b x 0 = x := fun b x h => by unfold maL; rw [Nat.zero_mul, Nat.zero_add, Nat.add_zero, Nat.mod_eq_of_lt h]
  have k : ∀ b x, x < M64 → maH 0 b x 0 = 0 := fun b x h => by unfold maH; rw [Nat.zero_mul, Nat.zero_add, Nat.add_zero, Nat.div_eq_of_lt h]
  refine ⟨l _ _ h0, ?_, ?_, ?_, ?_⟩
  · show maL 0 b1 w1 (maH 0 b0 w0 0) = w1
    rw [k _ _ h0, l _ _ h1]
  · show maL 0 b2 w2 (maH 0 b1 w1 (maH 0 b0 w0 0)) = w2
    rw [k _ _ h0, k _ _ h1, l _ _ h2]
  · show maL 0 b3 w3 (maH 0 b2 w2 (maH 0 b1 w1 (maH 0 b0 w0 0))) = w3
    rw [k _ _ h0, k _ _ h1, k _ _ h2, l _ _ h3]
  · show maH 0 b3 w3 (maH 0 b2 w2 (maH 0 b1 w1 (maH 0 b0 w0 0))) = 0
    rw [k _ _ h0, k _ _ h1, k _ _ h2, k _ _ h3]
/-- What is folded stays the same mod m, and grows less. -/
theorem fold_mod (A B m : Nat) (hm : m < R256) : (A + B * (R256 - m)) % m = (A + R256 * B) % m := by
  have e : R256 * B = B * (R256 - m) + m * B := by
    rw [Nat.mul_comm R256, ← Nat.mul_comm B m, ← Nat.mul_add, Nat.sub_add_cancel (Nat.le_of_lt hm)]
  rw [e, ← Nat.add_assoc, Nat.add_mul_mod_self_left]
theorem fold_less (A B m : Nat) (hm : 0 < m) (hm2 : m < R256) (hB : 0 < B) : A + B * (R256 - m) < A + R256 * B := by
  have : B * (R256 - m) < B * R256 := Nat.mul_lt_mul_of_pos_left (by omega) hB
  rw [Nat.mul_comm R256]
  omega

def lessN (o a m : Nat) : Nat := if o = 0 ∧ a < m then a else subN a m
theorem lessN_eq (o a m V : Nat) (hV : V = R256 * o + a) (h2 : V < 2 * m) (hm : m < R256) (ha : a < R256) (ho : o ≤ 1) : lessN o a m = V % m := by
  unfold lessN
  have hc : o = 0 ∨ o = 1 := by omega
  rcases hc with rfl | rfl
  · rw [Nat.mul_zero, Nat.zero_add] at hV
    subst hV
    by_cases h : V < m
    · rw [if_pos ⟨rfl, h⟩, Nat.mod_eq_of_lt h]
    · rw [if_neg (fun c => h c.2)]
      unfold subN
      rw [show V + R256 - m = (V - m) + R256 from by omega, Nat.add_mod_right, Nat.mod_eq_of_lt (by omega), Nat.mod_eq_sub_mod (by omega), Nat.mod_eq_of_lt (by omega)]
  · rw [if_neg (fun c => by cases c.1)]
    unfold subN
    rw [Nat.mul_one] at hV
    rw [show a + R256 - m = V - m from by omega, Nat.mod_eq_of_lt (show V - m < R256 by omega), Nat.mod_eq_sub_mod (show m ≤ V by omega), Nat.mod_eq_of_lt (by omega)]

/-! ### Powers, four bits at once -/
theorem pow_two_M (k : Nat) : M64 ^ k = 2 ^ (64 * k) := by rw [Nat.pow_mul]; rfl
theorem nib (e i : Nat) : limb e (i / 16) / 2 ^ (i % 16 * 4) % 16 = e / 16 ^ i % 16 := by
  have hj : i % 16 * 4 + 4 + (60 - i % 16 * 4) = 64 := by omega
  have eM : M64 = 2 ^ (i % 16 * 4) * (16 * 2 ^ (60 - i % 16 * 4)) := by
    have : (16 : Nat) = 2 ^ 4 := rfl
    rw [this, ← Nat.pow_add, ← Nat.pow_add, ← Nat.add_assoc]
    show (2 : Nat) ^ 64 = _
    rw [hj]
  have e16 : (16 : Nat) ^ i = M64 ^ (i / 16) * 2 ^ (i % 16 * 4) := by
    rw [pow_two_M, ← Nat.pow_add, show (16 : Nat) = 2 ^ 4 from rfl, ← Nat.pow_mul]
    congr 1
    omega
  rw [e16, ← Nat.div_div_eq_div_mul]
  unfold limb
  generalize e / M64 ^ (i / 16) = x
  generalize 2 ^ (60 - i % 16 * 4) = c at *
  generalize 2 ^ (i % 16 * 4) = d at *
  rw [eM, Nat.mod_mul_right_div_self, Nat.mod_mul_right_mod]
theorem top_step (e i : Nat) : e / 16 ^ i = 16 * (e / 16 ^ (i + 1)) + e / 16 ^ i % 16 := by
  rw [Nat.pow_succ, ← Nat.div_div_eq_div_mul]
  omega
theorem top_none (e : Nat) (h : e < R256) : e / 16 ^ 64 = 0 := Nat.div_eq_of_lt (Nat.lt_of_lt_of_le h (by decide))
theorem sq_step (m a t : Nat) : (a ^ t % m) * (a ^ t % m) % m = a ^ (t * 2) % m := by
  rw [← Nat.mul_mod, ← Nat.pow_add, Nat.mul_two]
theorem mul_step (m a t s : Nat) : (a ^ t % m) * (a ^ s % m) % m = a ^ (t + s) % m := by
  rw [← Nat.mul_mod, ← Nat.pow_add]
end Go.Proofs.YtbpgiijdcagckaaDoor

namespace Go.Proofs.YtbpgiijdcagckaaDoor
open Go.RowKit



theorem add64 (x y c : Nat) (hc : c ≤ 1) (w : World) : (callFunc 39 #[.int .u64 x, .int .u64 y, .int .u64 c]).run Tryd.prog w =
    .ok (.value (.tuple #[.int .u64 (addS x y c), .int .u64 (addC x y c)])) w := by
  rw [run_callFunc_extern Tryd.func39 (by kernel_rfl) (by kernel_rfl) (by kernel_rfl) (e := add64Entry) (by kernel_rfl), run_add64 x y c (by omega) (by omega) (by omega) (by omega)]
  simp only [Result.andThen, addS, addC, M64]
  congr 5 <;> omega
theorem add64_0 (x y : Nat) (w : World) : (callFunc 39 #[.int .u64 x, .int .u64 y, .int .u64 0]).run Tryd.prog w =
    .ok (.value (.tuple #[.int .u64 (addS x y 0), .int .u64 (addC x y 0)])) w := add64 x y 0 (by omega) w
theorem has_sub64 : (Extern.find Tryd.f40).isSome = true := by kernel_rfl
theorem run_sub64_0 (x y : Nat) (w : World) : (((Extern.find Tryd.f40).get has_sub64) #[.int .u64 x, .int .u64 y, .int .u64 (0 : Nat)]).run Tryd.prog w =
      .ok (.tuple #[.int .u64 (subS x y 0), .int .u64 (subB x y 0)]) w := by kernel_rfl
theorem run_sub64_1 (x y : Nat) (w : World) : (((Extern.find Tryd.f40).get has_sub64) #[.int .u64 x, .int .u64 y, .int .u64 (1 : Nat)]).run Tryd.prog w =
      .ok (.tuple #[.int .u64 (subS x y 1), .int .u64 (subB x y 1)]) w := by kernel_rfl
theorem run_sub64 (x y b : Nat) (hb : b ≤ 1) (w : World) : (((Extern.find Tryd.f40).get has_sub64) #[.int .u64 x, .int .u64 y, .int .u64 b]).run Tryd.prog w =
      .ok (.tuple #[.int .u64 (subS x y b), .int .u64 (subB x y b)]) w := by
  have : b = 0 ∨ b = 1 := by omega
  rcases this with rfl | rfl
  · exact run_sub64_0 x y w
  · exact run_sub64_1 x y w
theorem sub64 (x y b : Nat) (hb : b ≤ 1) (w : World) : (callFunc 40 #[.int .u64 x, .int .u64 y, .int .u64 b]).run Tryd.prog w =
    .ok (.value (.tuple #[.int .u64 (subS x y b), .int .u64 (subB x y b)])) w := by
  rw [run_callFunc_extern Tryd.func40 (by kernel_rfl) (by kernel_rfl) (by kernel_rfl) (Option.some_get has_sub64).symm, run_sub64 x y b hb]
  rfl
theorem sub64_0 (x y : Nat) (w : World) : (callFunc 40 #[.int .u64 x, .int .u64 y, .int .u64 0]).run Tryd.prog w =
    .ok (.value (.tuple #[.int .u64 (subS x y 0), .int .u64 (subB x y 0)])) w := sub64 x y 0 (by omega) w


theorem plus_any (x y c : Nat) (hc : c ≤ 1) (w : World) :
    Calls Tryd.prog 55 #[.int .u64 x, .int .u64 y, .int .u64 c] w fun e w' => e = .returned (.tuple #[.int .u64 (addS x y c), .int .u64 (addC x y c)]) ∧ w' = w := by
  go_enter Tryd.func55, Tryd.ntmps55
  go_wp2_with (simp only [add64 x y c hc])
  go_ret2
  exact ⟨rfl, rfl⟩
theorem minus_any (x y c : Nat) (hc : c ≤ 1) (w : World) :
    Calls Tryd.prog 51 #[.int .u64 x, .int .u64 y, .int .u64 c] w fun e w' => e = .returned (.tuple #[.int .u64 (subS x y c), .int .u64 (subB x y c)]) ∧ w' = w := by
  go_enter Tryd.func51, Tryd.ntmps51
  go_wp2_with (simp only [sub64 x y c hc])
  go_ret2
  exact ⟨rfl, rfl⟩
end Go.Proofs.YtbpgiijdcagckaaDoor

namespace Go.Proofs.YtbpgiijdcagckaaDoor
open Go.RowKit

theorem below_drewN {B : Nat} {a w : World} (h : Below B a w) (n : Nat) : Below B a (w.drewN n) := ⟨h.os, h.tape, h.output, h.size, h.block⟩

theorem cell_step {S C : Nat → Nat → Nat → Nat} {A B : Nat → Nat} {wr : World} {b k : Nat} (h : ∀ j, j < 4 → wr.cell? ⟨b, j, none⟩ = some (.int .u64 (part S C A B k j))) (j : Nat) (hj : j < 4) (n : Nat) :
    ((wr.drewN n).setCell ⟨b, k, none⟩ (.int .u64 (S (A k) (B k) (chain C A B k)))).cell? ⟨b, j, none⟩ = some (.int .u64 (part S C A B (k + 1) j)) := by
  by_cases e : j = k
  · subst e
    have hh : (wr.drewN n).cell? ⟨b, j, none⟩ = some (.int .u64 (part S C A B j j)) := h j hj
    rw [World.cell?_setCell_same _ _ _ hh]
    simp [part, digs]
  · rw [World.cell?_setCell_other _ _ _ _ (by intro c; injection c with _ c2 _; exact e c2.symm)]
    show wr.cell? _ = _
    rw [h j hj]
    unfold part
    by_cases e2 : j < k
    · rw [if_pos e2, if_pos (by omega)]
    · rw [if_neg e2, if_neg (by omega)]
theorem part_done (S C : Nat → Nat → Nat → Nat) (A B : Nat → Nat) (j : Nat) (h : j < 4) : part S C A B 4 j = digs S C A B j := if_pos h

set_option maxHeartbeats 1000000 in
theorem along_plus (pa pb : Nat) (A B : Nat → Nat) (w : World)
    (ha : ∀ j, j < 4 → w.cell? ⟨pa, j, none⟩ = some (.int .u64 (A j))) (hb : ∀ j, j < 4 → w.cell? ⟨pb, j, none⟩ = some (.int .u64 (B j)))
    (hpa : pa < w.heap.size) (hpb : pb < w.heap.size) (hc : ∀ k, chain addC A B k ≤ 1) :
    Calls Tryd.prog 50 #[.func (.func 55) #[] #[], .pointer (some ⟨pa, 0, none⟩), .pointer (some ⟨pb, 0, none⟩)] w fun e w' =>
      e = .returned (.tuple #[.agg #[.int .u64 (digs addS addC A B 0), .int .u64 (digs addS addC A B 1), .int .u64 (digs addS addC A B 2), .int .u64 (digs addS addC A B 3)],
        .int .u64 (chain addC A B 4)]) ∧ Below w.heap.size w w' := by
  go_enter Tryd.func50, Tryd.ntmps50
  go_wp2
  go_loopw [7, 10] (fun c i wr => ∃ k : Nat, k ≤ 4 ∧ i = .int .i64 k ∧ c = .int .u64 (chain addC A B k) ∧
      (∀ j, j < 4 → wr.cell? ⟨w.heap.size, j, none⟩ = some (.int .u64 (part addS addC A B k j))) ∧ (∀ j, j < 4 → wr.frozen? ⟨w.heap.size, j, none⟩ = false) ∧ Below w.heap.size w wr ∧ w.heap.size < wr.heap.size)
    (fun _ i _ => 4 - (intOf i).toNat)
  case atStart =>
    refine ⟨0, by omega, rfl, rfl, ?_, ?_, (Below.refl _ _).alloc (Nat.le_refl _) _, by simp⟩
    · intro j hj
      match j, hj with
      | 0, _ => simp [part]
      | 1, _ => simp [part]
      | 2, _ => simp [part]
      | 3, _ => simp [part]
    · intro j hj
      simp
  case round =>
    obtain ⟨k, hk, rfl, rfl, hcell, hfr, hbel, hsz⟩ := hrel
    by_cases hlt : k < 4
    · have ga : wr.cell? ⟨pa, k, none⟩ = some (.int .u64 (A k)) := (hbel.cell (p := ⟨pa, k, none⟩) hpa).trans (ha k hlt)
      have gb : wr.cell? ⟨pb, k, none⟩ = some (.int .u64 (B k)) := (hbel.cell (p := ⟨pb, k, none⟩) hpb).trans (hb k hlt)
      have gf := hfr k hlt
      have go := hcell k hlt
      have gc := hc k
      clear ha hb hc
      have HC : Hid (∀ j, j < 4 → wr.cell? ⟨w.heap.size, j, none⟩ = some (.int .u64 (part addS addC A B k j))) := hcell
      have HF : Hid (∀ j, j < 4 → wr.frozen? ⟨w.heap.size, j, none⟩ = false) := hfr
      clear hcell hfr
      go_wp2
      go_quiet ((go_at_call 55; exact Calls.quiet_of_same (plus_any _ _ _ gc _)))
      go_wp2
      go_roundw
      case rel =>
        refine ⟨k + 1, by omega, by go_num, rfl, ?_, ?_, ?_, ?_⟩
        · intro j hj
          exact cell_step HC.out j hj nq
        · intro j hj
          rw [World.frozen?_setCell]
          exact HF.out j hj
        · exact (below_drewN hbel nq).setCell (Nat.le_refl _) _
        · rw [World.size_setCell]; exact hsz
      case measure => simp [intOf]; omega
    · have g0 := hcell 0 (by omega)
      have g1 := hcell 1 (by omega)
      have g2 := hcell 2 (by omega)
      have g3 := hcell 3 (by omega)
      have f0 := hfr 0 (by omega)
      have f1 := hfr 1 (by omega)
      have f2 := hfr 2 (by omega)
      have f3 := hfr 3 (by omega)
      clear ha hb hc hcell hfr
      go_wp2
      have hk4 : k = 4 := by omega
      subst hk4
      refine bodyPost_ret (v := .tuple #[.agg #[.int .u64 (digs addS addC A B 0), .int .u64 (digs addS addC A B 1), .int .u64 (digs addS addC A B 2), .int .u64 (digs addS addC A B 3)], .int .u64 (chain addC A B 4)]) ?_ rfl ⟨rfl, ?_⟩
      · simp [results, Tryd.results50, go_sem, g0, g1, g2, g3]
        rw [part_done _ _ _ _ 0 (by omega), part_done _ _ _ _ 1 (by omega), part_done _ _ _ _ 2 (by omega), part_done _ _ _ _ 3 (by omega)]
        exact ⟨rfl, rfl, rfl, rfl⟩
      · exact (((hbel.setCell (Nat.le_refl _) _).setCell (Nat.le_refl _) _).setCell (Nat.le_refl _) _).setCell (Nat.le_refl _) _

set_option maxHeartbeats 1000000 in
theorem along_minus (pa pb : Nat) (A B : Nat → Nat) (w : World)
    (ha : ∀ j, j < 4 → w.cell? ⟨pa, j, none⟩ = some (.int .u64 (A j))) (hb : ∀ j, j < 4 → w.cell? ⟨pb, j, none⟩ = some (.int .u64 (B j)))
    (hpa : pa < w.heap.size) (hpb : pb < w.heap.size) (hc : ∀ k, chain subB A B k ≤ 1) :
    Calls Tryd.prog 50 #[.func (.func 51) #[] #[], .pointer (some ⟨pa, 0, none⟩), .pointer (some ⟨pb, 0, none⟩)] w fun e w' =>
      e = .returned (.tuple #[.agg #[.int .u64 (digs subS subB A B 0), .int .u64 (digs subS subB A B 1), .int .u64 (digs subS subB A B 2), .int .u64 (digs subS subB A B 3)],
        .int .u64 (chain subB A B 4)]) ∧ Below w.heap.size w w' := by
  go_enter Tryd.func50, Tryd.ntmps50
  go_wp2
  go_loopw [7, 10] (fun c i wr => ∃ k : Nat, k ≤ 4 ∧ i = .int .i64 k ∧ c = .int .u64 (chain subB A B k) ∧
      (∀ j, j < 4 → wr.cell? ⟨w.heap.size, j, none⟩ = some (.int .u64 (part subS subB A B k j))) ∧ (∀ j, j < 4 → wr.frozen? ⟨w.heap.size, j, none⟩ = false) ∧ Below w.heap.size w wr ∧ w.heap.size < wr.heap.size)
    (fun _ i _ => 4 - (intOf i).toNat)
  case atStart =>
    refine ⟨0, by omega, rfl, rfl, ?_, ?_, (Below.refl _ _).alloc (Nat.le_refl _) _, by simp⟩
    · intro j hj
      match j, hj with
      | 0, _ => simp [part]
      | 1, _ => simp [part]
      | 2, _ => simp [part]
      | 3, _ => simp [part]
    · intro j hj
      simp
  case round =>
    obtain ⟨k, hk, rfl, rfl, hcell, hfr, hbel, hsz⟩ := hrel
    by_cases hlt : k < 4
    · have ga : wr.cell? ⟨pa, k, none⟩ = some (.int .u64 (A k)) := (hbel.cell (p := ⟨pa, k, none⟩) hpa).trans (ha k hlt)
      have gb : wr.cell? ⟨pb, k, none⟩ = some (.int .u64 (B k)) := (hbel.cell (p := ⟨pb, k, none⟩) hpb).trans (hb k hlt)
      have gf := hfr k hlt
      have go := hcell k hlt
      have gc := hc k
      clear ha hb hc
      have HC : Hid (∀ j, j < 4 → wr.cell? ⟨w.heap.size, j, none⟩ = some (.int .u64 (part subS subB A B k j))) := hcell
      have HF : Hid (∀ j, j < 4 → wr.frozen? ⟨w.heap.size, j, none⟩ = false) := hfr
      clear hcell hfr
      go_wp2
      go_quiet ((go_at_call 51; exact Calls.quiet_of_same (minus_any _ _ _ gc _)))
      go_wp2
      go_roundw
      case rel =>
        refine ⟨k + 1, by omega, by go_num, rfl, ?_, ?_, ?_, ?_⟩
        · intro j hj
          exact cell_step HC.out j hj nq
        · intro j hj
          rw [World.frozen?_setCell]
          exact HF.out j hj
        · exact (below_drewN hbel nq).setCell (Nat.le_refl _) _
        · rw [World.size_setCell]; exact hsz
      case measure => simp [intOf]; omega
    · have g0 := hcell 0 (by omega)
      have g1 := hcell 1 (by omega)
      have g2 := hcell 2 (by omega)
      have g3 := hcell 3 (by omega)
      have f0 := hfr 0 (by omega)
      have f1 := hfr 1 (by omega)
      have f2 := hfr 2 (by omega)
      have f3 := hfr 3 (by omega)
      clear ha hb hc hcell hfr
      go_wp2
      have hk4 : k = 4 := by omega
      subst hk4
      refine bodyPost_ret (v := .tuple #[.agg #[.int .u64 (digs subS subB A B 0), .int .u64 (digs subS subB A B 1), .int .u64 (digs subS subB A B 2), .int .u64 (digs subS subB A B 3)], .int .u64 (chain subB A B 4)]) ?_ rfl ⟨rfl, ?_⟩
      · simp [results, Tryd.results50, go_sem, g0, g1, g2, g3]
        rw [part_done _ _ _ _ 0 (by omega), part_done _ _ _ _ 1 (by omega), part_done _ _ _ _ 2 (by omega), part_done _ _ _ _ 3 (by omega)]
        exact ⟨rfl, rfl, rfl, rfl⟩
      · exact (((hbel.setCell (Nat.le_refl _) _).setCell (Nat.le_refl _) _).setCell (Nat.le_refl _) _).setCell (Nat.le_refl _) _

end Go.Proofs.YtbpgiijdcagckaaDoor

namespace Go.Proofs.YtbpgiijdcagckaaDoor
open Go.RowKit

theorem bcell {W w1 : World} (hb : Below W.heap.size W w1) : (∀ b o, b < W.heap.size → w1.cell? ⟨b, o, none⟩ = W.cell? ⟨b, o, none⟩) ∧ (∀ b o, b < W.heap.size → w1.frozen? ⟨b, o, none⟩ = W.frozen? ⟨b, o, none⟩) :=
  ⟨fun b o h => hb.cell (p := ⟨b, o, none⟩) h, fun b o h => hb.frozen (p := ⟨b, o, none⟩) h⟩

theorem limbs4 (P : Nat → Prop) (h0 : P 0) (h1 : P 1) (h2 : P 2) (h3 : P 3) : ∀ j, j < 4 → P j := by
  intro j hj
  match j, hj with
  | 0, _ => exact h0
  | 1, _ => exact h1
  | 2, _ => exact h2
  | 3, _ => exact h3

theorem add_limbs (a b : Nat) (ha : a < R256) (hb : b < R256) : digs addS addC (limb a) (limb b) 0 = limb (addN a b) 0 ∧ digs addS addC (limb a) (limb b) 1 = limb (addN a b) 1 ∧ digs addS addC (limb a) (limb b) 2 = limb (addN a b) 2 ∧ digs addS addC (limb a) (limb b) 3 = limb (addN a b) 3 := by
  have h := (add_join a b ha hb).1
  rw [← h, digs_eq, digs_eq, digs_eq, digs_eq]
  exact ⟨(limb_join0 _ _ _ _ (addS_lt _ _ _)).symm, (limb_join1 _ _ _ _ (addS_lt _ _ _) (addS_lt _ _ _)).symm, (limb_join2 _ _ _ _ (addS_lt _ _ _) (addS_lt _ _ _) (addS_lt _ _ _)).symm, (limb_join3 _ _ _ _ (addS_lt _ _ _) (addS_lt _ _ _) (addS_lt _ _ _) (addS_lt _ _ _)).symm⟩
theorem sub_limbs (a b : Nat) (ha : a < R256) (hb : b < R256) : digs subS subB (limb a) (limb b) 0 = limb (subN a b) 0 ∧ digs subS subB (limb a) (limb b) 1 = limb (subN a b) 1 ∧ digs subS subB (limb a) (limb b) 2 = limb (subN a b) 2 ∧ digs subS subB (limb a) (limb b) 3 = limb (subN a b) 3 := by
  have h := (sub_join a b ha hb).1
  rw [← h, digs_eq, digs_eq, digs_eq, digs_eq]
  exact ⟨(limb_join0 _ _ _ _ (subS_lt _ _ _)).symm, (limb_join1 _ _ _ _ (subS_lt _ _ _) (subS_lt _ _ _)).symm, (limb_join2 _ _ _ _ (subS_lt _ _ _) (subS_lt _ _ _) (subS_lt _ _ _)).symm, (limb_join3 _ _ _ _ (subS_lt _ _ _) (subS_lt _ _ _) (subS_lt _ _ _) (subS_lt _ _ _)).symm⟩

theorem chain_c (a b : Nat) : ∀ k, chain addC (limb a) (limb b) k ≤ 1 := chain_add_le a b
theorem chain_d (a b : Nat) : ∀ k, chain subB (limb a) (limb b) k ≤ 1 := chain_sub_le _ _
theorem below_call0 {a W w1 : World} (h : Below a.heap.size a W) (h1 : Below W.heap.size W w1) : Below a.heap.size a w1 := h.trans (h1.mono h.size)
theorem below_alloc0 {a W : World} (h : Below a.heap.size a W) (o : Obj) : Below a.heap.size a (W.alloc o) := h.alloc h.size o
theorem below_call {B : Nat} {a W w1 : World} (h : Below B a W) (h1 : Below W.heap.size W w1) (hB : B ≤ W.heap.size) : Below B a w1 := h.trans (h1.mono hB)

set_option maxHeartbeats 1000000 in
theorem add_any (a b : Nat) (ha : a < R256) (hb : b < R256) (w : World) :
    Calls Tryd.prog 49 #[.agg #[.int .u64 (limb (a) 0 : Nat), .int .u64 (limb (a) 1 : Nat), .int .u64 (limb (a) 2 : Nat), .int .u64 (limb (a) 3 : Nat)], .agg #[.int .u64 (limb (b) 0 : Nat), .int .u64 (limb (b) 1 : Nat), .int .u64 (limb (b) 2 : Nat), .int .u64 (limb (b) 3 : Nat)]] w fun e w' => e = .returned (.tuple #[.agg #[.int .u64 (limb (addN a b) 0 : Nat), .int .u64 (limb (addN a b) 1 : Nat), .int .u64 (limb (addN a b) 2 : Nat), .int .u64 (limb (addN a b) 3 : Nat)], .int .u64 (addK a b)]) ∧ Below w.heap.size w w' := by
  obtain ⟨l0, l1, l2, l3⟩ := add_limbs a b ha hb
  have lk := (add_join a b ha hb).2
  have Hl := And.intro l0 (And.intro l1 (And.intro l2 (And.intro l3 lk)))
  have HL : Hid _ := Hl
  clear l0 l1 l2 l3 lk Hl
  go_enter Tryd.func49, Tryd.ntmps49
  go_wp2_with fail
  refine (along_plus _ _ (limb a) (limb b) _ ?_ ?_ ?_ ?_ (chain_c a b)).mono ?_
  · refine limbs4 _ ?_ ?_ ?_ ?_ <;> simp [go_sem]
  · refine limbs4 _ ?_ ?_ ?_ ?_ <;> simp [go_sem]
  · simp only [World.size_alloc]; omega
  · simp only [World.size_alloc]; omega
  · rintro e w1 ⟨rfl, hb1⟩
    obtain ⟨l0, l1, l2, l3, lk⟩ := HL.out
    rw [l0, l1, l2, l3, lk]
    clear l0 l1 l2 l3 lk HL
    obtain ⟨hc1, hf1⟩ := bcell hb1
    have hz := hb1.size
    simp only [World.size_alloc] at hc1 hf1 hz
    go_wp2
    refine bodyPost_ret (v := .tuple #[.agg #[.int .u64 (limb (addN a b) 0 : Nat), .int .u64 (limb (addN a b) 1 : Nat), .int .u64 (limb (addN a b) 2 : Nat), .int .u64 (limb (addN a b) 3 : Nat)], .int .u64 (addK a b)]) ?_ rfl ⟨rfl, ?_⟩
    · simp [results, Tryd.results49, go_sem, hc1]
    · ((repeat' (first | with_reducible exact Below.refl _ _ | with_reducible refine Below.setCell ?_ ?_ _ | with_reducible refine below_alloc0 ?_ _ | with_reducible refine below_drewN ?_ _ | with_reducible refine Below.drew ?_ | refine below_call0 ?_ (by assumption))) <;> (first | omega | (simp; done) | (simp; omega)))

set_option maxHeartbeats 1000000 in
theorem sub_any (a b : Nat) (ha : a < R256) (hb : b < R256) (w : World) :
    Calls Tryd.prog 45 #[.agg #[.int .u64 (limb (a) 0 : Nat), .int .u64 (limb (a) 1 : Nat), .int .u64 (limb (a) 2 : Nat), .int .u64 (limb (a) 3 : Nat)], .agg #[.int .u64 (limb (b) 0 : Nat), .int .u64 (limb (b) 1 : Nat), .int .u64 (limb (b) 2 : Nat), .int .u64 (limb (b) 3 : Nat)]] w fun e w' => e = .returned (.tuple #[.agg #[.int .u64 (limb (subN a b) 0 : Nat), .int .u64 (limb (subN a b) 1 : Nat), .int .u64 (limb (subN a b) 2 : Nat), .int .u64 (limb (subN a b) 3 : Nat)], .int .u64 (subK a b)]) ∧ Below w.heap.size w w' := by
  obtain ⟨l0, l1, l2, l3⟩ := sub_limbs a b ha hb
  have lk := (sub_join a b ha hb).2
  have Hl := And.intro l0 (And.intro l1 (And.intro l2 (And.intro l3 lk)))
  have HL : Hid _ := Hl
  clear l0 l1 l2 l3 lk Hl
  go_enter Tryd.func45, Tryd.ntmps45
  go_wp2_with fail
  refine (along_minus _ _ (limb a) (limb b) _ ?_ ?_ ?_ ?_ (chain_d a b)).mono ?_
  · refine limbs4 _ ?_ ?_ ?_ ?_ <;> simp [go_sem]
  · refine limbs4 _ ?_ ?_ ?_ ?_ <;> simp [go_sem]
  · simp only [World.size_alloc]; omega
  · simp only [World.size_alloc]; omega
  · rintro e w1 ⟨rfl, hb1⟩
    obtain ⟨l0, l1, l2, l3, lk⟩ := HL.out
    rw [l0, l1, l2, l3, lk]
    clear l0 l1 l2 l3 lk HL
    obtain ⟨hc1, hf1⟩ := bcell hb1
    have hz := hb1.size
    simp only [World.size_alloc] at hc1 hf1 hz
    go_wp2
    refine bodyPost_ret (v := .tuple #[.agg #[.int .u64 (limb (subN a b) 0 : Nat), .int .u64 (limb (subN a b) 1 : Nat), .int .u64 (limb (subN a b) 2 : Nat), .int .u64 (limb (subN a b) 3 : Nat)], .int .u64 (subK a b)]) ?_ rfl ⟨rfl, ?_⟩
    · simp [results, Tryd.results45, go_sem, hc1]
    · ((repeat' (first | with_reducible exact Below.refl _ _ | with_reducible refine Below.setCell ?_ ?_ _ | with_reducible refine below_alloc0 ?_ _ | with_reducible refine below_drewN ?_ _ | with_reducible refine Below.drew ?_ | refine below_call0 ?_ (by assumption))) <;> (first | omega | (simp; done) | (simp; omega)))

end Go.Proofs.YtbpgiijdcagckaaDoor

namespace Go.Proofs.YtbpgiijdcagckaaDoor
open Go.RowKit Go.Shelf

theorem addN' (a b : Nat) : (a : Int) + (b : Int) = ((a + b : Nat) : Int) := (Int.natCast_add a b).symm
theorem wrapN (a : Nat) (ha : a < 18446744073709551616) : IntKind.u64.wrap (a : Int) = (a : Int) := by rw [IntKind.wrap_u64]; omega

/-- The shelf's numbers, here. -/
def mulRen : Go.Shelf.Ren := ⟨fun _ => 41, fun t => if t = 46 then 96 else 25, fun g => g⟩
theorem mulLays : Lays.n264 Tryd.prog mulRen where
  mixed := by kernel_rfl
  f264 := by kernel_rfl
  t46 := by kernel_rfl
  a46 := fun w => by kernel_rfl
  z46 := fun w => by kernel_rfl
  v46 := fun w => by kernel_rfl
  t53 := by kernel_rfl
  a53 := fun w => by kernel_rfl
  z53 := fun w => by kernel_rfl
  v53 := fun w => by kernel_rfl
theorem mul64' (x y : Nat) (hx : x < 18446744073709551616) (hy : y < 18446744073709551616) (w : World) :
    Calls Tryd.prog 41 #[.int .u64 x, .int .u64 y] w fun e w' => e = .returned (.tuple #[.int .u64 ((x * y / 18446744073709551616 : Nat) : Int), .int .u64 ((x * y % 18446744073709551616 : Nat) : Int)]) ∧ w' = w :=
  Any.bits_Mul64 mulLays x y hx hy w
theorem mul64 (x y : Nat) (hx : x < M64) (hy : y < M64) (w : World) :
    Calls Tryd.prog 41 #[.int .u64 x, .int .u64 y] w fun e w' => e = .returned (.tuple #[.int .u64 (mulH x y), .int .u64 (mulL x y)]) ∧ w' = w := mul64' x y hx hy w

set_option maxHeartbeats 1000000 in
theorem mulAdd_any (a b c d : Nat) (ha : a < M64) (hb : b < M64) (hc : c < M64) (hd : d < M64) (w : World) :
    Calls Tryd.prog 57 #[.int .u64 a, .int .u64 b, .int .u64 c, .int .u64 d] w fun e w' => e = .returned (.tuple #[.int .u64 (maH a b c d), .int .u64 (maL a b c d)]) ∧ w' = w := by
  obtain ⟨eL, eH⟩ := mulAdd_eq a b c d
  have l2 : mulH a b + addC (mulL a b) c 0 + addC (addS (mulL a b) c 0) d 0 < 18446744073709551616 := by rw [eH]; exact maH_lt a b c d ha hb hc hd
  have l1 : mulH a b + addC (mulL a b) c 0 < 18446744073709551616 := by omega
  have H : Hid (_ ∧ _ ∧ _ ∧ _) := ⟨eL, eH, l1, l2⟩
  clear eL eH l1 l2
  go_enter Tryd.func57, Tryd.ntmps57
  go_wp2_with (first | (go_at_call 41; refine (mul64 a b ha hb _).mono ?_; rintro e w' ⟨rfl, rfl⟩) | simp only [add64_0])
  obtain ⟨eL, eH, l1, l2⟩ := H.out
  simp only [addN', wrapN _ l1, eH, eL, wrapN _ (maH_lt a b c d ha hb hc hd)]
  go_ret2
  exact ⟨rfl, rfl⟩

set_option maxHeartbeats 2000000 in
theorem addRow_any (pb d b0 b1 b2 b3 w0 w1 w2 w3 : Nat) (hd : d < M64) (h0 : b0 < M64) (h1 : b1 < M64) (h2 : b2 < M64) (h3 : b3 < M64) (g0 : w0 < M64) (g1 : w1 < M64) (g2 : w2 < M64) (g3 : w3 < M64) (w : World)
    (c0 : w.cell? ⟨pb, 0, none⟩ = some (.int .u64 b0)) (c1 : w.cell? ⟨pb, 1, none⟩ = some (.int .u64 b1)) (c2 : w.cell? ⟨pb, 2, none⟩ = some (.int .u64 b2)) (c3 : w.cell? ⟨pb, 3, none⟩ = some (.int .u64 b3)) :
    Calls Tryd.prog 54 #[.int .u64 d, .pointer (some ⟨pb, 0, none⟩), .int .u64 w0, .int .u64 w1, .int .u64 w2, .int .u64 w3] w fun e w' =>
      e = .returned (.tuple #[.int .u64 (rowL d b0 b1 b2 b3 w0 w1 w2 w3 0), .int .u64 (rowL d b0 b1 b2 b3 w0 w1 w2 w3 1), .int .u64 (rowL d b0 b1 b2 b3 w0 w1 w2 w3 2), .int .u64 (rowL d b0 b1 b2 b3 w0 w1 w2 w3 3), .int .u64 (rowL d b0 b1 b2 b3 w0 w1 w2 w3 4)]) ∧ w' = w := by
  have k1 := maH_lt d b0 w0 0 hd h0 g0 M64_pos
  have k2 := maH_lt d b1 w1 _ hd h1 g1 k1
  have k3 := maH_lt d b2 w2 _ hd h2 g2 k2
  go_enter Tryd.func54, Tryd.ntmps54
  go_wp2_with fail
  refine (mulAdd_any d b0 w0 0 hd h0 g0 M64_pos _).mono ?_
  rintro e w' ⟨rfl, rfl⟩
  go_wp2_with fail
  refine (mulAdd_any d b1 w1 _ hd h1 g1 k1 _).mono ?_
  rintro e w' ⟨rfl, rfl⟩
  go_wp2_with fail
  refine (mulAdd_any d b2 w2 _ hd h2 g2 k2 _).mono ?_
  rintro e w' ⟨rfl, rfl⟩
  go_wp2_with fail
  refine (mulAdd_any d b3 w3 _ hd h3 g3 k3 _).mono ?_
  rintro e w' ⟨rfl, rfl⟩
  go_wp2
  exact bodyPost_ret (v := .tuple #[.int .u64 (maL d b0 w0 0), .int .u64 (maL d b1 w1 (maH d b0 w0 0)), .int .u64 (maL d b2 w2 (maH d b1 w1 (maH d b0 w0 0))), .int .u64 (maL d b3 w3 (maH d b2 w2 (maH d b1 w1 (maH d b0 w0 0)))), .int .u64 (maH d b3 w3 (maH d b2 w2 (maH d b1 w1 (maH d b0 w0 0))))]) (by simp [results, Tryd.results54, go_sem]) rfl ⟨rfl, rfl⟩
end Go.Proofs.YtbpgiijdcagckaaDoor

namespace Go.Proofs.YtbpgiijdcagckaaDoor
open Go.RowKit

def Num4 (w : World) (b n : Nat) : Prop := ∀ j, j < 4 → w.cell? ⟨b, j, none⟩ = some (.int .u64 (limb n j : Nat))
theorem bcell3 {W w1 : World} (hb : Below W.heap.size W w1) : (∀ b o, b < W.heap.size → w1.cell? ⟨b, o, none⟩ = W.cell? ⟨b, o, none⟩) ∧ (∀ b o, b < W.heap.size → w1.frozen? ⟨b, o, none⟩ = W.frozen? ⟨b, o, none⟩) ∧ (∀ b, b < W.heap.size → b < w1.heap.size) :=
  ⟨fun b o h => hb.cell (p := ⟨b, o, none⟩) h, fun b o h => hb.frozen (p := ⟨b, o, none⟩) h, fun _ h => Nat.lt_of_lt_of_le h hb.size⟩
theorem Num4.call {W w1 : World} {b n : Nat} (h : Num4 W b n) (hb : Below W.heap.size W w1) (hlt : b < W.heap.size) : Num4 w1 b n := fun j hj => (hb.cell (p := ⟨b, j, none⟩) hlt).trans (h j hj)
theorem Num4.alloc {W : World} {b n : Nat} {o : Obj} (h : Num4 W b n) (hlt : b < W.heap.size) : Num4 (W.alloc o) b n := fun j hj => (World.cell?_alloc_lt W o ⟨b, j, none⟩ hlt).trans (h j hj)
theorem Num4.new (W : World) (n : Nat) (t : TypeId) : Num4 (W.alloc (.cells #[.int .u64 (limb n 0 : Nat), .int .u64 (limb n 1 : Nat), .int .u64 (limb n 2 : Nat), .int .u64 (limb n 3 : Nat)] t)) W.heap.size n := by
  refine limbs4 _ ?_ ?_ ?_ ?_ <;> simp [go_sem]
theorem Num4.new' {W : World} {n b : Nat} {t : TypeId} (h : b = W.heap.size) : Num4 (W.alloc (.cells #[.int .u64 (limb n 0 : Nat), .int .u64 (limb n 1 : Nat), .int .u64 (limb n 2 : Nat), .int .u64 (limb n 3 : Nat)] t)) b n := by
  subst h; exact Num4.new W n t
theorem Num4.set {W : World} {b n : Nat} {p : Addr} {v : Value} (h : Num4 W b n) (hne : p.block ≠ b) : Num4 (W.setCell p v) b n := fun j hj => by
  rw [World.cell?_setCell_other _ _ _ _ (by intro c; apply hne; rw [c])]
  exact h j hj
theorem Num4.drewN {W : World} {b n k : Nat} (h : Num4 W b n) : Num4 (W.drewN k) b n := fun j hj => h j hj
theorem Num4.drew {W : World} {b n : Nat} (h : Num4 W b n) : Num4 W.drew b n := fun j hj => h j hj
theorem Num4.facts {w : World} {b n : Nat} (h : Num4 w b n) : w.cell? ⟨b, 0, none⟩ = some (.int .u64 (limb n 0 : Nat)) ∧ w.cell? ⟨b, 1, none⟩ = some (.int .u64 (limb n 1 : Nat)) ∧ w.cell? ⟨b, 2, none⟩ = some (.int .u64 (limb n 2 : Nat)) ∧ w.cell? ⟨b, 3, none⟩ = some (.int .u64 (limb n 3 : Nat)) :=
  ⟨h 0 (by omega), h 1 (by omega), h 2 (by omega), h 3 (by omega)⟩
/-- A block of four limbs 0 that was made and is not written yet. -/
def Pend (w : World) (p : Nat) : Prop := (∀ j, j < 4 → w.cell? ⟨p, j, none⟩ = some (.int .u64 0)) ∧ (∀ j, j < 4 → w.frozen? ⟨p, j, none⟩ = false) ∧ p < w.heap.size
theorem Pend.new (W : World) (t : TypeId) : Pend (W.alloc (.cells #[.int .u64 0, .int .u64 0, .int .u64 0, .int .u64 0] t)) W.heap.size := by
  refine ⟨?_, ?_, by simp⟩
  · refine limbs4 _ ?_ ?_ ?_ ?_ <;> simp [go_sem]
  · intro j _
    simp
theorem Pend.call {W w1 : World} {p : Nat} (h : Pend W p) (hb : Below W.heap.size W w1) : Pend w1 p :=
  ⟨fun j hj => (hb.cell (p := ⟨p, j, none⟩) h.2.2).trans (h.1 j hj), fun j hj => (hb.frozen (p := ⟨p, j, none⟩) h.2.2).trans (h.2.1 j hj), Nat.lt_of_lt_of_le h.2.2 hb.size⟩
theorem Pend.call_new {W w1 : World} {t : TypeId} (hb : Below (W.alloc (.cells #[.int .u64 0, .int .u64 0, .int .u64 0, .int .u64 0] t)).heap.size (W.alloc (.cells #[.int .u64 0, .int .u64 0, .int .u64 0, .int .u64 0] t)) w1) : Pend w1 W.heap.size := Pend.call (Pend.new W t) hb
theorem Pend.call_drew {W w1 : World} {t : TypeId} (hb : Below (W.alloc (.cells #[.int .u64 0, .int .u64 0, .int .u64 0, .int .u64 0] t)).drew.heap.size (W.alloc (.cells #[.int .u64 0, .int .u64 0, .int .u64 0, .int .u64 0] t)).drew w1) : Pend w1 W.heap.size := Pend.call (W := (W.alloc (.cells #[.int .u64 0, .int .u64 0, .int .u64 0, .int .u64 0] t)).drew) (Pend.new W t) hb
theorem Pend.facts {w : World} {p : Nat} (h : Pend w p) : (w.cell? ⟨p, 0, none⟩ = some (.int .u64 0) ∧ w.cell? ⟨p, 1, none⟩ = some (.int .u64 0) ∧ w.cell? ⟨p, 2, none⟩ = some (.int .u64 0) ∧ w.cell? ⟨p, 3, none⟩ = some (.int .u64 0)) ∧
    (w.frozen? ⟨p, 0, none⟩ = false ∧ w.frozen? ⟨p, 1, none⟩ = false ∧ w.frozen? ⟨p, 2, none⟩ = false ∧ w.frozen? ⟨p, 3, none⟩ = false) ∧ p < w.heap.size :=
  ⟨⟨h.1 0 (by omega), h.1 1 (by omega), h.1 2 (by omega), h.1 3 (by omega)⟩, ⟨h.2.1 0 (by omega), h.2.1 1 (by omega), h.2.1 2 (by omega), h.2.1 3 (by omega)⟩, h.2.2⟩
/-- Four limbs stored, one behind the other. -/
theorem Num4.put {W : World} {p n : Nat} (h : Pend W p) : Num4 ((((W.setCell ⟨p, 0, none⟩ (.int .u64 (limb n 0 : Nat))).setCell ⟨p, 1, none⟩ (.int .u64 (limb n 1 : Nat))).setCell ⟨p, 2, none⟩ (.int .u64 (limb n 2 : Nat))).setCell ⟨p, 3, none⟩ (.int .u64 (limb n 3 : Nat))) p n := by
  obtain ⟨⟨f0, f1, f2, f3⟩, _, _⟩ := h.facts
  refine limbs4 _ ?_ ?_ ?_ ?_ <;> simp [go_sem, f0, f1, f2, f3]
theorem Pend.set {W : World} {p : Nat} {a : Addr} {v : Value} (h : Pend W p) (hne : a.block ≠ p) : Pend (W.setCell a v) p :=
  ⟨fun j hj => by rw [World.cell?_setCell_other _ _ _ _ (by intro c; apply hne; rw [c])]; exact h.1 j hj, fun j hj => by rw [World.frozen?_setCell]; exact h.2.1 j hj, by rw [World.size_setCell]; exact h.2.2⟩
theorem Pend.drew {W : World} {p : Nat} (h : Pend W p) : Pend W.drew p := h
theorem Pend.alloc {W : World} {p : Nat} {o : Obj} (h : Pend W p) : Pend (W.alloc o) p := h.call ((Below.refl _ _).alloc (Nat.le_refl _) o)
end Go.Proofs.YtbpgiijdcagckaaDoor

namespace Go.Proofs.YtbpgiijdcagckaaDoor
open Go.RowKit

/-- The eight limbs of a product by rows are those of the product. -/
theorem mul_limbs (a b : Nat) (ha : a < R256) (hb : b < R256) (x p q r : Nat → Nat)
    (hx : x = rowL (limb a 0) (limb b 0) (limb b 1) (limb b 2) (limb b 3) 0 0 0 0)
    (hp : p = rowL (limb a 1) (limb b 0) (limb b 1) (limb b 2) (limb b 3) (x 1) (x 2) (x 3) (x 4))
    (hq : q = rowL (limb a 2) (limb b 0) (limb b 1) (limb b 2) (limb b 3) (p 1) (p 2) (p 3) (p 4))
    (hr : r = rowL (limb a 3) (limb b 0) (limb b 1) (limb b 2) (limb b 3) (q 1) (q 2) (q 3) (q 4)) :
    ((x 1 < M64 ∧ x 2 < M64 ∧ x 3 < M64 ∧ x 4 < M64) ∧ (p 1 < M64 ∧ p 2 < M64 ∧ p 3 < M64 ∧ p 4 < M64) ∧ (q 1 < M64 ∧ q 2 < M64 ∧ q 3 < M64 ∧ q 4 < M64)) ∧
    limb (a * b) 0 = x 0 ∧ limb (a * b) 1 = p 0 ∧ limb (a * b) 2 = q 0 ∧ limb (a * b) 3 = r 0 ∧ limb (a * b) 4 = r 1 ∧ limb (a * b) 5 = r 2 ∧ limb (a * b) 6 = r 3 ∧ limb (a * b) 7 = r 4 := by
  have vx := row_val (limb a 0) (limb b 0) (limb b 1) (limb b 2) (limb b 3) 0 0 0 0
  have vp := row_val (limb a 1) (limb b 0) (limb b 1) (limb b 2) (limb b 3) (x 1) (x 2) (x 3) (x 4)
  have vq := row_val (limb a 2) (limb b 0) (limb b 1) (limb b 2) (limb b 3) (p 1) (p 2) (p 3) (p 4)
  have vr := row_val (limb a 3) (limb b 0) (limb b 1) (limb b 2) (limb b 3) (q 1) (q 2) (q 3) (q 4)
  have L := limb_lt
  obtain ⟨x0, x1, x2, x3, x4⟩ := row_lt (limb a 0) (limb b 0) (limb b 1) (limb b 2) (limb b 3) 0 0 0 0 (L _ _) (L _ _) (L _ _) (L _ _) (L _ _) M64_pos M64_pos M64_pos M64_pos
  rw [← hx] at vx x0 x1 x2 x3 x4
  obtain ⟨p0, p1, p2, p3, p4⟩ := row_lt (limb a 1) (limb b 0) (limb b 1) (limb b 2) (limb b 3) _ _ _ _ (L _ _) (L _ _) (L _ _) (L _ _) (L _ _) x1 x2 x3 x4
  rw [← hp] at vp p0 p1 p2 p3 p4
  obtain ⟨q0, q1, q2, q3, q4⟩ := row_lt (limb a 2) (limb b 0) (limb b 1) (limb b 2) (limb b 3) _ _ _ _ (L _ _) (L _ _) (L _ _) (L _ _) (L _ _) p1 p2 p3 p4
  rw [← hq] at vq q0 q1 q2 q3 q4
  obtain ⟨r0, r1, r2, r3, r4⟩ := row_lt (limb a 3) (limb b 0) (limb b 1) (limb b 2) (limb b 3) _ _ _ _ (L _ _) (L _ _) (L _ _) (L _ _) (L _ _) q1 q2 q3 q4
  rw [← hr] at vr r0 r1 r2 r3 r4
  rw [join_limb b hb] at vx vp vq vr
  have key := mul_key _ _ _ _ b _ _ _ _ _ _ _ _ _ _ _ _ _ _ _ _ _ _ _ _ vx vp vq vr
  rw [join_limb a ha] at key
  obtain ⟨l0, l1, l2, l3, l4, l5, l6, l7⟩ := limb_join8 _ _ _ _ _ _ _ _ x0 p0 q0 r0 r1 r2 r3 r4
  rw [key] at l0 l1 l2 l3 l4 l5 l6 l7
  exact ⟨⟨⟨x1, x2, x3, x4⟩, ⟨p1, p2, p3, p4⟩, q1, q2, q3, q4⟩, l0, l1, l2, l3, l4, l5, l6, l7⟩

set_option maxHeartbeats 2000000 in
theorem mul_any (a b : Nat) (ha : a < R256) (hb : b < R256) (w : World) :
    Calls Tryd.prog 48 #[.agg #[.int .u64 (limb (a) 0 : Nat), .int .u64 (limb (a) 1 : Nat), .int .u64 (limb (a) 2 : Nat), .int .u64 (limb (a) 3 : Nat)], .agg #[.int .u64 (limb (b) 0 : Nat), .int .u64 (limb (b) 1 : Nat), .int .u64 (limb (b) 2 : Nat), .int .u64 (limb (b) 3 : Nat)]] w fun e w' => e = .returned (.agg #[.int .u64 (limb (a * b) 0 : Nat), .int .u64 (limb (a * b) 1 : Nat), .int .u64 (limb (a * b) 2 : Nat), .int .u64 (limb (a * b) 3 : Nat), .int .u64 (limb (a * b) 4 : Nat), .int .u64 (limb (a * b) 5 : Nat), .int .u64 (limb (a * b) 6 : Nat), .int .u64 (limb (a * b) 7 : Nat)]) ∧ Below w.heap.size w w' := by
  obtain ⟨x, hx⟩ : ∃ x, x = rowL (limb a 0) (limb b 0) (limb b 1) (limb b 2) (limb b 3) 0 0 0 0 := ⟨_, rfl⟩
  obtain ⟨p, hp⟩ : ∃ p, p = rowL (limb a 1) (limb b 0) (limb b 1) (limb b 2) (limb b 3) (x 1) (x 2) (x 3) (x 4) := ⟨_, rfl⟩
  obtain ⟨q, hq⟩ : ∃ q, q = rowL (limb a 2) (limb b 0) (limb b 1) (limb b 2) (limb b 3) (p 1) (p 2) (p 3) (p 4) := ⟨_, rfl⟩
  obtain ⟨r, hr⟩ : ∃ r, r = rowL (limb a 3) (limb b 0) (limb b 1) (limb b 2) (limb b 3) (q 1) (q 2) (q 3) (q 4) := ⟨_, rfl⟩
  obtain ⟨⟨⟨x1, x2, x3, x4⟩, ⟨p1, p2, p3, p4⟩, q1, q2, q3, q4⟩, l0, l1, l2, l3, l4, l5, l6, l7⟩ := mul_limbs a b ha hb x p q r hx hp hq hr
  rw [l0, l1, l2, l3, l4, l5, l6, l7]
  clear l0 l1 l2 l3 l4 l5 l6 l7
  have L := limb_lt
  have Kx := fun (w : World) (B : Nat) => addRow_any B (limb a 0) (limb b 0) (limb b 1) (limb b 2) (limb b 3) 0 0 0 0 (L _ _) (L _ _) (L _ _) (L _ _) (L _ _) M64_pos M64_pos M64_pos M64_pos w
  have Kp := fun (w : World) (B : Nat) => addRow_any B (limb a 1) (limb b 0) (limb b 1) (limb b 2) (limb b 3) _ _ _ _ (L _ _) (L _ _) (L _ _) (L _ _) (L _ _) x1 x2 x3 x4 w
  have Kq := fun (w : World) (B : Nat) => addRow_any B (limb a 2) (limb b 0) (limb b 1) (limb b 2) (limb b 3) _ _ _ _ (L _ _) (L _ _) (L _ _) (L _ _) (L _ _) p1 p2 p3 p4 w
  have Kr := fun (w : World) (B : Nat) => addRow_any B (limb a 3) (limb b 0) (limb b 1) (limb b 2) (limb b 3) _ _ _ _ (L _ _) (L _ _) (L _ _) (L _ _) (L _ _) q1 q2 q3 q4 w
  rw [← hx] at Kx
  rw [← hp] at Kp
  rw [← hq] at Kq
  rw [← hr] at Kr
  clear hx hp hq hr L x1 x2 x3 x4 p1 p2 p3 p4 q1 q2 q3 q4
  have Hx : Hid _ := Kx
  have Hp : Hid _ := Kp
  have Hq : Hid _ := Kq
  have Hr : Hid _ := Kr
  clear Kx Kp Kq Kr
  go_enter Tryd.func48, Tryd.ntmps48
  go_wp2_with fail
  refine (Hx.out _ _ (by simp [go_sem]) (by simp [go_sem]) (by simp [go_sem]) (by simp [go_sem])).mono ?_
  rintro e w' ⟨rfl, rfl⟩
  go_wp2_with fail
  refine (Hp.out _ _ (by simp [go_sem]) (by simp [go_sem]) (by simp [go_sem]) (by simp [go_sem])).mono ?_
  rintro e w' ⟨rfl, rfl⟩
  go_wp2_with fail
  refine (Hq.out _ _ (by simp [go_sem]) (by simp [go_sem]) (by simp [go_sem]) (by simp [go_sem])).mono ?_
  rintro e w' ⟨rfl, rfl⟩
  go_wp2_with fail
  refine (Hr.out _ _ (by simp [go_sem]) (by simp [go_sem]) (by simp [go_sem]) (by simp [go_sem])).mono ?_
  rintro e w' ⟨rfl, rfl⟩
  go_wp2
  refine bodyPost_ret (v := .agg #[.int .u64 (x 0 : Nat), .int .u64 (p 0 : Nat), .int .u64 (q 0 : Nat), .int .u64 (r 0 : Nat), .int .u64 (r 1 : Nat), .int .u64 (r 2 : Nat), .int .u64 (r 3 : Nat), .int .u64 (r 4 : Nat)]) ?_ rfl ⟨rfl, ?_⟩
  · simp [results, Tryd.results48, go_sem]
  · ((repeat' (first | with_reducible exact Below.refl _ _ | with_reducible refine Below.setCell ?_ ?_ _ | with_reducible refine below_alloc0 ?_ _ | with_reducible refine below_drewN ?_ _ | with_reducible refine Below.drew ?_ | refine below_call0 ?_ (by assumption))) <;> (first | omega | (simp; done) | (simp; omega)))
end Go.Proofs.YtbpgiijdcagckaaDoor

namespace Go.Proofs.YtbpgiijdcagckaaDoor
open Go.RowKit

theorem ret_int {k : IntKind} {a b : Int} (h : a = b) : Ending.returned (.int k a) = .returned (.int k b) := by rw [h]

set_option maxHeartbeats 1000000 in
theorem cmp_any (a b : Nat) (ha : a < R256) (hb : b < R256) (w : World) :
    Calls Tryd.prog 38 #[.agg #[.int .u64 (limb (a) 0 : Nat), .int .u64 (limb (a) 1 : Nat), .int .u64 (limb (a) 2 : Nat), .int .u64 (limb (a) 3 : Nat)], .agg #[.int .u64 (limb (b) 0 : Nat), .int .u64 (limb (b) 1 : Nat), .int .u64 (limb (b) 2 : Nat), .int .u64 (limb (b) 3 : Nat)]] w fun e w' => e = .returned (.int .i64 (cmpN a b)) ∧ Below w.heap.size w w' := by
  go_enter Tryd.func38, Tryd.ntmps38
  go_wp2
  go_loopw [5] (fun i wr => ∃ k : Nat, k ≤ 4 ∧ i = .int .i64 ((k : Int) - 1) ∧ (∀ j, k ≤ j → j < 4 → limb a j = limb b j) ∧
      (∀ j, j < 4 → wr.cell? ⟨w.heap.size, j, none⟩ = some (.int .u64 (limb a j))) ∧ (∀ j, j < 4 → wr.cell? ⟨w.heap.size + 1, j, none⟩ = some (.int .u64 (limb b j))) ∧ Below w.heap.size w wr)
    (fun i _ => (intOf i + 1).toNat)
  case atStart =>
    refine ⟨4, by omega, rfl, fun j h1 h2 => by omega, ?_, ?_, by ((repeat' (first | with_reducible exact Below.refl _ _ | with_reducible refine Below.setCell ?_ ?_ _ | with_reducible refine below_alloc0 ?_ _ | with_reducible refine below_drewN ?_ _ | with_reducible refine Below.drew ?_ | refine below_call0 ?_ (by assumption))) <;> (first | omega | (simp; done) | (simp; omega)))⟩
    · refine limbs4 _ ?_ ?_ ?_ ?_ <;> simp [go_sem]
    · refine limbs4 _ ?_ ?_ ?_ ?_ <;> simp [go_sem]
  case round =>
    obtain ⟨k, hk, rfl, heq, hca, hcb, hbel⟩ := hrel
    by_cases hk0 : k = 0
    · subst hk0
      have HR : Hid (cmpN a b = 0) := by rw [cmp_eq a b ha hb heq]; exact cmpN_self b
      clear heq hca hcb
      go_wp2
      go_ret
      exact ⟨ret_int HR.out.symm, by ((repeat' (first | with_reducible exact Below.refl _ _ | with_reducible refine Below.setCell ?_ ?_ _ | with_reducible refine below_alloc0 ?_ _ | with_reducible refine below_drewN ?_ _ | with_reducible refine Below.drew ?_ | refine below_call0 ?_ (by assumption))) <;> (first | omega | (simp; done) | (simp; omega)))⟩
    · obtain ⟨m, rfl⟩ : ∃ m, k = m + 1 := ⟨k - 1, by omega⟩
      have e : ((m + 1 : Nat) : Int) - 1 = (m : Int) := by omega
      rw [e]
      clear e
      have hm : m < 4 := by omega
      have ga := hca m hm
      have gb := hcb m hm
      have HC : Hid ((∀ j, j < 4 → wr.cell? ⟨w.heap.size, j, none⟩ = some (.int .u64 (limb a j))) ∧ (∀ j, j < 4 → wr.cell? ⟨w.heap.size + 1, j, none⟩ = some (.int .u64 (limb b j)))) := ⟨hca, hcb⟩
      have HE : Hid (∀ j, m + 1 ≤ j → j < 4 → limb a j = limb b j) := heq
      clear hca hcb heq
      by_cases h1 : limb a m < limb b m
      · have HR : Hid (cmpN a b = -1) := cmpN_lt (cmp_lt a b m ha hb hm HE.out h1)
        have d1 : decide ((limb a m : Int) < (limb b m : Int)) = true := by simpa using h1
        go_wp2
        go_quiet (fail)
        go_wp2
        go_ret
        exact ⟨ret_int HR.out.symm, by ((repeat' (first | with_reducible exact Below.refl _ _ | with_reducible refine Below.setCell ?_ ?_ _ | with_reducible refine below_alloc0 ?_ _ | with_reducible refine below_drewN ?_ _ | with_reducible refine Below.drew ?_ | refine below_call0 ?_ (by assumption))) <;> (first | omega | (simp; done) | (simp; omega)))⟩
      · by_cases h2 : limb b m < limb a m
        · have HR : Hid (cmpN a b = 1) := cmpN_gt (cmp_lt b a m hb ha hm (fun j x y => (HE.out j x y).symm) h2)
          have d1 : decide ((limb a m : Int) < (limb b m : Int)) = false := by simpa using h1
          have d2 : decide ((limb b m : Int) < (limb a m : Int)) = true := by simpa using h2
          go_wp2
          go_quiet (fail)
          go_wp2
          go_quiet (fail)
          go_wp2
          go_ret
          exact ⟨ret_int HR.out.symm, by ((repeat' (first | with_reducible exact Below.refl _ _ | with_reducible refine Below.setCell ?_ ?_ _ | with_reducible refine below_alloc0 ?_ _ | with_reducible refine below_drewN ?_ _ | with_reducible refine Below.drew ?_ | refine below_call0 ?_ (by assumption))) <;> (first | omega | (simp; done) | (simp; omega)))⟩
        · have d1 : decide ((limb a m : Int) < (limb b m : Int)) = false := by simpa using h1
          have d2 : decide ((limb b m : Int) < (limb a m : Int)) = false := by simpa using h2
          have em : limb a m = limb b m := by omega
          have EM : Hid (limb a m = limb b m) := em
          clear em
          go_wp2
          go_quiet (fail)
          go_wp2
          go_quiet (fail)
          go_wp2
          go_roundw
          case rel =>
            refine ⟨m, by omega, rfl, ?_, HC.out.1, HC.out.2, by ((repeat' (first | with_reducible exact Below.refl _ _ | with_reducible refine Below.setCell ?_ ?_ _ | with_reducible refine below_alloc0 ?_ _ | with_reducible refine below_drewN ?_ _ | with_reducible refine Below.drew ?_ | refine below_call0 ?_ (by assumption))) <;> (first | omega | (simp; done) | (simp; omega)))⟩
            intro j hj hj4
            by_cases hjm : j = m
            · subst hjm; exact EM.out
            · exact HE.out j (by omega) hj4
          case measure => simp [intOf]
end Go.Proofs.YtbpgiijdcagckaaDoor

namespace Go.Proofs.YtbpgiijdcagckaaDoor
open Go.RowKit

def eq4 (x0 x1 x2 x3 y0 y1 y2 y3 : Int) : Bool := x0 == y0 && (x1 == y1 && (x2 == y2 && x3 == y3))
theorem size_limb (w : World) : (sizeOf 25).run Tryd.prog w = .ok 1 w := by kernel_rfl
theorem limb_part0 (a b c d : Int) (w : World) : (Go.part 25 #[.int .u64 a, .int .u64 b, .int .u64 c, .int .u64 d] 0).run Tryd.prog w = .ok (.int .u64 a) w := by kernel_rfl
theorem limb_part1 (a b c d : Int) (w : World) : (Go.part 25 #[.int .u64 a, .int .u64 b, .int .u64 c, .int .u64 d] 1).run Tryd.prog w = .ok (.int .u64 b) w := by kernel_rfl
theorem limb_part2 (a b c d : Int) (w : World) : (Go.part 25 #[.int .u64 a, .int .u64 b, .int .u64 c, .int .u64 d] 2).run Tryd.prog w = .ok (.int .u64 c) w := by kernel_rfl
theorem limb_part3 (a b c d : Int) (w : World) : (Go.part 25 #[.int .u64 a, .int .u64 b, .int .u64 c, .int .u64 d] 3).run Tryd.prog w = .ok (.int .u64 d) w := by kernel_rfl
theorem eq_limb (d : Nat) (a b : Int) (w : World) : (Op.equalIn (d + 1) 25 (.int .u64 a) (.int .u64 b)).run Tryd.prog w = .ok (a == b) w := run_equalIn_int w d 25 .u64 .u64 a b Tryd.underlying25
theorem run_eq4' (d : Nat) (x0 x1 x2 x3 y0 y1 y2 y3 : Int) (w : World) : (Op.equalIn (d + 2) 27 (.agg #[.int .u64 x0, .int .u64 x1, .int .u64 x2, .int .u64 x3]) (.agg #[.int .u64 y0, .int .u64 y1, .int .u64 y2, .int .u64 y3])).run Tryd.prog w = .ok (eq4 x0 x1 x2 x3 y0 y1 y2 y3) w := by
  rw [Op.equalIn]
  simp only [Sem.run_bind, run_underlying Tryd.underlying27, Result.andThen_ok, size_limb]
  simp only [Std.Legacy.Range.forIn_eq_forIn_range', Std.Legacy.Range.size]
  simp only [List.range', List.forIn_cons, List.forIn_nil, Sem.run_bind, Nat.mul_one, Nat.sub_zero, Nat.zero_add, limb_part0, Result.andThen_ok, eq_limb]
  unfold eq4
  cases x0 == y0
  · simp
  simp only [Bool.not_true, Bool.false_eq_true, if_false, Sem.run_pure, Result.andThen_ok, Sem.run_bind, limb_part1, eq_limb]
  cases x1 == y1
  · simp
  simp only [Bool.not_true, Bool.false_eq_true, if_false, Sem.run_pure, Result.andThen_ok, Sem.run_bind, show 1 + 1 = 2 from rfl, show 2 + 1 = 3 from rfl, limb_part2, eq_limb]
  cases x2 == y2
  · simp
  simp only [Bool.not_true, Bool.false_eq_true, if_false, Sem.run_pure, Result.andThen_ok, Sem.run_bind, limb_part3, eq_limb]
  cases x3 == y3
  · simp
  · simp
theorem run_eq4 (x0 x1 x2 x3 y0 y1 y2 y3 : Int) (w : World) : (Op.equalIn 10000 27 (.agg #[.int .u64 x0, .int .u64 x1, .int .u64 x2, .int .u64 x3]) (.agg #[.int .u64 y0, .int .u64 y1, .int .u64 y2, .int .u64 y3])).run Tryd.prog w = .ok (eq4 x0 x1 x2 x3 y0 y1 y2 y3) w := run_eq4' 9998 x0 x1 x2 x3 y0 y1 y2 y3 w
theorem eq4_num (a b : Nat) (ha : a < R256) (hb : b < R256) : eq4 (limb a 0 : Nat) (limb a 1 : Nat) (limb a 2 : Nat) (limb a 3 : Nat) (limb b 0 : Nat) (limb b 1 : Nat) (limb b 2 : Nat) (limb b 3 : Nat) = decide (a = b) := by
  rw [Bool.eq_iff_iff, decide_eq_true_iff]
  unfold eq4
  rw [Bool.and_eq_true, Bool.and_eq_true, Bool.and_eq_true, beq_iff_eq, beq_iff_eq, beq_iff_eq, beq_iff_eq]
  constructor
  · rintro ⟨h0, h1, h2, h3⟩
    exact limb_inj a b ha hb (Int.ofNat_inj.1 h0) (Int.ofNat_inj.1 h1) (Int.ofNat_inj.1 h2) (Int.ofNat_inj.1 h3)
  · rintro rfl
    exact ⟨rfl, rfl, rfl, rfl⟩
end Go.Proofs.YtbpgiijdcagckaaDoor

namespace Go.Proofs.YtbpgiijdcagckaaDoor
open Go.RowKit

theorem limb_most : limb (R256 - 1) 0 = 18446744073709551615 ∧ limb (R256 - 1) 1 = 18446744073709551615 ∧ limb (R256 - 1) 2 = 18446744073709551615 ∧ limb (R256 - 1) 3 = 18446744073709551615 := by decide
theorem limb_one : limb 1 0 = 1 ∧ limb 1 1 = 0 ∧ limb 1 2 = 0 ∧ limb 1 3 = 0 := by decide
theorem limb_nought (k : Nat) : limb 0 k = 0 := by simp [limb]
theorem most_one : addN (R256 - 1) 1 = 0 ∧ addK (R256 - 1) 1 = 1 := by decide
end Go.Proofs.YtbpgiijdcagckaaDoor

namespace Go.Proofs.YtbpgiijdcagckaaDoor
open Go.RowKit

def Own4 (w : World) (p n : Nat) : Prop := Num4 w p n ∧ (∀ j, j < 4 → w.frozen? ⟨p, j, none⟩ = false) ∧ p < w.heap.size
theorem Own4.new (W : World) (n : Nat) (t : TypeId) : Own4 (W.alloc (.cells #[.int .u64 (limb n 0 : Nat), .int .u64 (limb n 1 : Nat), .int .u64 (limb n 2 : Nat), .int .u64 (limb n 3 : Nat)] t)) W.heap.size n :=
  ⟨Num4.new W n t, fun j _ => by simp, by simp⟩
theorem Own4.new' {W : World} {n p : Nat} {t : TypeId} (h : p = W.heap.size) : Own4 (W.alloc (.cells #[.int .u64 (limb n 0 : Nat), .int .u64 (limb n 1 : Nat), .int .u64 (limb n 2 : Nat), .int .u64 (limb n 3 : Nat)] t)) p n := by
  subst h; exact Own4.new W n t
theorem Own4.call {W w1 : World} {p n : Nat} (h : Own4 W p n) (hb : Below W.heap.size W w1) : Own4 w1 p n :=
  ⟨h.1.call hb h.2.2, fun j hj => (hb.frozen (p := ⟨p, j, none⟩) h.2.2).trans (h.2.1 j hj), Nat.lt_of_lt_of_le h.2.2 hb.size⟩
theorem Own4.alloc {W : World} {p n : Nat} {o : Obj} (h : Own4 W p n) : Own4 (W.alloc o) p n := h.call ((Below.refl _ _).alloc (Nat.le_refl _) o)
theorem Own4.drew {W : World} {p n : Nat} (h : Own4 W p n) : Own4 W.drew p n := h
theorem Own4.drewN {W : World} {p n k : Nat} (h : Own4 W p n) : Own4 (W.drewN k) p n := h
theorem Own4.set {W : World} {p n : Nat} {a : Addr} {v : Value} (h : Own4 W p n) (hne : a.block ≠ p) : Own4 (W.setCell a v) p n :=
  ⟨h.1.set hne, fun j hj => by rw [World.frozen?_setCell]; exact h.2.1 j hj, by rw [World.size_setCell]; exact h.2.2⟩
theorem Own4.facts {w : World} {p n : Nat} (h : Own4 w p n) : (w.cell? ⟨p, 0, none⟩ = some (.int .u64 (limb n 0 : Nat)) ∧ w.cell? ⟨p, 1, none⟩ = some (.int .u64 (limb n 1 : Nat)) ∧ w.cell? ⟨p, 2, none⟩ = some (.int .u64 (limb n 2 : Nat)) ∧ w.cell? ⟨p, 3, none⟩ = some (.int .u64 (limb n 3 : Nat))) ∧
    (w.frozen? ⟨p, 0, none⟩ = false ∧ w.frozen? ⟨p, 1, none⟩ = false ∧ w.frozen? ⟨p, 2, none⟩ = false ∧ w.frozen? ⟨p, 3, none⟩ = false) ∧ p < w.heap.size :=
  ⟨h.1.facts, ⟨h.2.1 0 (by omega), h.2.1 1 (by omega), h.2.1 2 (by omega), h.2.1 3 (by omega)⟩, h.2.2⟩
theorem Own4.put {W : World} {p n k : Nat} (h : Own4 W p n) : Own4 ((((W.setCell ⟨p, 0, none⟩ (.int .u64 (limb k 0 : Nat))).setCell ⟨p, 1, none⟩ (.int .u64 (limb k 1 : Nat))).setCell ⟨p, 2, none⟩ (.int .u64 (limb k 2 : Nat))).setCell ⟨p, 3, none⟩ (.int .u64 (limb k 3 : Nat))) p k := by
  obtain ⟨⟨f0, f1, f2, f3⟩, _, _⟩ := h.facts
  refine ⟨?_, fun j hj => ?_, ?_⟩
  · refine limbs4 _ ?_ ?_ ?_ ?_ <;> simp [go_sem, f0, f1, f2, f3]
  · rw [World.frozen?_setCell, World.frozen?_setCell, World.frozen?_setCell, World.frozen?_setCell]; exact h.2.1 j hj
  · rw [World.size_setCell, World.size_setCell, World.size_setCell, World.size_setCell]; exact h.2.2
theorem Pend.own {W : World} {p k : Nat} (h : Pend W p) : Own4 ((((W.setCell ⟨p, 0, none⟩ (.int .u64 (limb k 0 : Nat))).setCell ⟨p, 1, none⟩ (.int .u64 (limb k 1 : Nat))).setCell ⟨p, 2, none⟩ (.int .u64 (limb k 2 : Nat))).setCell ⟨p, 3, none⟩ (.int .u64 (limb k 3 : Nat))) p k :=
  ⟨Num4.put h, fun j hj => by rw [World.frozen?_setCell, World.frozen?_setCell, World.frozen?_setCell, World.frozen?_setCell]; exact h.2.1 j hj, by rw [World.size_setCell, World.size_setCell, World.size_setCell, World.size_setCell]; exact h.2.2⟩
end Go.Proofs.YtbpgiijdcagckaaDoor

namespace Go.Proofs.YtbpgiijdcagckaaDoor
open Go.RowKit

theorem and_one (s : Nat) (h : s < 18446744073709551616) : bits .and .u64 (s : Int) 1 = ((s % 2 : Nat) : Int) := by
  have h := bits_and_u64_nat s 1 h (by omega)
  have e : s &&& 1 = s % 2 := Nat.and_two_pow_sub_one_eq_mod s 1
  rw [e] at h
  exact h

end Go.Proofs.YtbpgiijdcagckaaDoor

namespace Go.Proofs.YtbpgiijdcagckaaDoor
open Go.RowKit

def NS (w : World) (b n : Nat) : Prop := Num4 w b n ∧ b < w.heap.size
theorem NS.call {W w1 : World} {b n : Nat} (h : NS W b n) (hb : Below W.heap.size W w1) : NS w1 b n := ⟨h.1.call hb h.2, Nat.lt_of_lt_of_le h.2 hb.size⟩
theorem NS.alloc {W : World} {b n : Nat} {o : Obj} (h : NS W b n) : NS (W.alloc o) b n := h.call ((Below.refl _ _).alloc (Nat.le_refl _) o)
theorem NS.acall {W w1 : World} {b n : Nat} {o : Obj} (h : NS W b n) (hb : Below (W.alloc o).heap.size (W.alloc o) w1) : NS w1 b n := h.alloc.call hb
theorem NS.new (W : World) (n : Nat) (t : TypeId) : NS (W.alloc (.cells #[.int .u64 (limb n 0 : Nat), .int .u64 (limb n 1 : Nat), .int .u64 (limb n 2 : Nat), .int .u64 (limb n 3 : Nat)] t)) W.heap.size n := ⟨Num4.new W n t, by simp⟩
theorem NS.ncall {W w1 : World} {n : Nat} {t : TypeId} (hb : Below (W.alloc (.cells #[.int .u64 (limb n 0 : Nat), .int .u64 (limb n 1 : Nat), .int .u64 (limb n 2 : Nat), .int .u64 (limb n 3 : Nat)] t)).heap.size (W.alloc (.cells #[.int .u64 (limb n 0 : Nat), .int .u64 (limb n 1 : Nat), .int .u64 (limb n 2 : Nat), .int .u64 (limb n 3 : Nat)] t)) w1) : NS w1 W.heap.size n := (NS.new W n t).call hb
theorem NS.facts {w : World} {b n : Nat} (h : NS w b n) : (w.cell? ⟨b, 0, none⟩ = some (.int .u64 (limb n 0 : Nat)) ∧ w.cell? ⟨b, 1, none⟩ = some (.int .u64 (limb n 1 : Nat)) ∧ w.cell? ⟨b, 2, none⟩ = some (.int .u64 (limb n 2 : Nat)) ∧ w.cell? ⟨b, 3, none⟩ = some (.int .u64 (limb n 3 : Nat))) ∧ b < w.heap.size := ⟨h.1.facts, h.2⟩
theorem below_acall {a W w1 : World} {o : Obj} (h : Below a.heap.size a W) (hb : Below (W.alloc o).heap.size (W.alloc o) w1) : Below a.heap.size a w1 := below_call0 (below_alloc0 h o) hb
end Go.Proofs.YtbpgiijdcagckaaDoor
