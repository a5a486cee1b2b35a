/- A remainder bit by bit over lists of digits: plain; no program in sight. -/
import Derived.Test.YtaigpginoakdfaaDgN
import Derived.Test.YtaigpginoakdfaaBitN
namespace Go.Proofs.Ytaigpginoakdfaa

theorem dget_dig : ∀ (l : List Nat), Dok l → ∀ i, dget l i = dig (dval l) i
  | [], _, i => by simp [dget, dig, dval]
  | x :: r, h, 0 => by
    have hx : x < 65536 := h x (by simp)
    simp [dget, dig, dval]
    omega
  | x :: r, h, i + 1 => by
    have hx : x < 65536 := h x (by simp)
    have ih := dget_dig r (fun d hd => h d (by simp [hd])) i
    have e : dget (x :: r) (i + 1) = dget r i := by simp [dget]
    rw [e, ih]
    unfold dig
    rw [dval, Nat.pow_succ, Nat.mul_comm (65536 ^ i) 65536, ← Nat.div_div_eq_div_mul, show (x + 65536 * dval r) / 65536 = dval r from by omega]
theorem dig_bitN (a i r : Nat) (hr : r < 16) : dig a i / 2 ^ r % 2 = bitN a (16 * i + r) := by
  unfold dig bitN
  have e1 : 65536 = 2 ^ r * (2 * 2 ^ (15 - r)) := by
    rw [← Nat.pow_succ', ← Nat.pow_add, show r + (15 - r).succ = 16 from by omega]
  have e2 : 65536 ^ i = 2 ^ (16 * i) := by rw [Nat.pow_mul]
  rw [e2, Nat.pow_add, ← Nat.div_div_eq_div_mul]
  generalize a / 2 ^ (16 * i) = y
  rw [e1, Nat.mod_mul_right_div_self, Nat.mod_mul_right_mod]

def RestAt (A m t : Nat) (l : List Nat) : Prop := Dok l ∧ 0 < l.length ∧ l.length ≤ 17 ∧ dval l = A / 2 ^ t % m
def MidAt (A m t d : Nat) (l : List Nat) : Prop := Dok l ∧ 0 < l.length ∧ l.length ≤ 17 ∧ dval l = 2 * (A / 2 ^ (t + 1) % m) + d
theorem RestAt.start (A m t : Nat) (h : A / 2 ^ t = 0) : RestAt A m t [0] := ⟨by intro d hd; simp at hd; omega, by simp, by simp, by rw [h]; simp [dval]⟩
theorem pow17 (n : Nat) (h : 65536 ^ n < 2 * R256) : n ≤ 16 := by
  rcases Nat.lt_or_ge 16 n with g | g
  · have : 65536 ^ 17 ≤ 65536 ^ n := Nat.pow_le_pow_right (by decide) g
    have e : (65536 : Nat) ^ 17 = 65536 * R256 := by decide
    have p : 0 < R256 := by decide
    omega
  · exact g
theorem RestAt.double {A m t : Nat} {l l2 : List Nat} (hm : m < R256) (h0 : 0 < m) (h : RestAt A m (t + 1) l) (k1 : Dok l2) (k2 : dval l2 = dval l + dval l) (k3 : l2.length = max l.length l.length ∨ l2.length = max l.length l.length + 1 ∧ 65536 ^ max l.length l.length ≤ dval l2) : MidAt A m t 0 l2 := by
  obtain ⟨h1, h2, h3, h4⟩ := h
  have lt := Nat.mod_lt (A / 2 ^ (t + 1)) h0
  rw [Nat.max_self] at k3
  refine ⟨k1, by omega, ?_, by omega⟩
  rcases k3 with k3 | ⟨k3, k4⟩
  · omega
  · have := pow17 l.length (by omega)
    omega
theorem MidAt.more {A m t : Nat} {l l2 : List Nat} (hm : m < R256) (h0 : 0 < m) (h : MidAt A m t 0 l) (k1 : Dok l2) (k2 : dval l2 = dval l + dval [1]) (k3 : l2.length = max l.length [1].length ∨ l2.length = max l.length [1].length + 1 ∧ 65536 ^ max l.length [1].length ≤ dval l2) : MidAt A m t 1 l2 := by
  obtain ⟨h1, h2, h3, h4⟩ := h
  have lt := Nat.mod_lt (A / 2 ^ (t + 1)) h0
  have e1 : dval [1] = 1 := rfl
  have e2 : max l.length [1].length = l.length := by simp; omega
  rw [e2] at k3
  rw [e1] at k2
  refine ⟨k1, by omega, ?_, by omega⟩
  rcases k3 with k3 | ⟨k3, k4⟩
  · omega
  · have := pow17 l.length (by omega)
    omega
theorem MidAt.keep {A m t d : Nat} {l : List Nat} (h : MidAt A m t d l) (hd : d = bitN A t) (hlt : dval l < m) : RestAt A m t l := by
  obtain ⟨h1, h2, h3, h4⟩ := h
  refine ⟨h1, h2, h3, ?_⟩
  rw [mod_step, ← hd, ← h4, Nat.mod_eq_of_lt hlt]
theorem MidAt.less {A m t d : Nat} {l l2 : List Nat} (h0 : 0 < m) (h : MidAt A m t d l) (hd : d = bitN A t) (hge : m ≤ dval l) (k1 : Dok l2) (k2 : dval l2 = dval l - m) (k3 : l2.length = l.length) : RestAt A m t l2 := by
  obtain ⟨h1, h2, h3, h4⟩ := h
  have lt := Nat.mod_lt (A / 2 ^ (t + 1)) h0
  have b2 := bitN_lt A t
  refine ⟨k1, by omega, by omega, ?_⟩
  rw [mod_step, ← hd, ← h4, Nat.mod_eq_sub_mod hge, Nat.mod_eq_of_lt (by omega), k2]
end Go.Proofs.Ytaigpginoakdfaa
