/- The reference's turned words: wardmoteref04.s and three. -/
import Derived.Test.YtienklnigigepaaGreatDoorShaT
namespace Go.Proofs.YtienklnigigepaaGreatDoor
open Go.RowKit

theorem rot_split (x n : Nat) (hn : n < 32) (h0 : 0 < n) (hx : x < 4294967296) : rot x n = x / 2 ^ n + x % 2 ^ n * 2 ^ (32 - n) := by
  have hp : 0 < 2 ^ n := Nat.pow_pos (by decide)
  have e32 : 2 ^ n * 2 ^ (32 - n) = 4294967296 := by rw [← Nat.pow_add, show n + (32 - n) = 32 from by omega]
  have e1 : x * 2 ^ (32 - n) % 4294967296 = x % 2 ^ n * 2 ^ (32 - n) := by
    rw [← e32, Nat.mul_mod_mul_right]
  have hq : x / 2 ^ n < 2 ^ (32 - n) := by
    rw [Nat.div_lt_iff_lt_mul hp, Nat.mul_comm, e32]
    exact hx
  have h1 : x % 2 ^ n * 2 ^ (32 - n) < 4294967296 := by
    rw [← e32]
    exact Nat.mul_lt_mul_of_pos_right (Nat.mod_lt _ hp) (Nat.pow_pos (by decide))
  have h2 : x / 2 ^ n < 4294967296 := Nat.lt_of_le_of_lt (Nat.div_le_self _ _) hx
  unfold rot or32
  rw [e1, Nat.mod_eq_of_lt h1, Nat.mod_eq_of_lt h2]
  have h := Nat.shiftLeft_add_eq_or_of_lt hq (x % 2 ^ n)
  rw [Nat.shiftLeft_eq] at h
  rw [← h, Nat.add_comm]
theorem rot_lt (x n : Nat) : rot x n < 4294967296 := or32_lt _ _
theorem bits_i64 (a b : Nat) (ha : a < 4294967296) (hb : b < 4294967296) : bits .xor .i64 (a : Int) (b : Int) = (xor32 a b : Nat) ∧ bits .and .i64 (a : Int) (b : Int) = (and32 a b : Nat) := by
  have hk : ∀ n : Int, 0 ≤ n → n < 2 ^ 32 → IntKind.i64.wrap n = n := fun n h0 h1 => by rw [IntKind.wrap_i64]; omega
  have e : ∀ c : Nat, c < 4294967296 → (BitVec.ofInt 64 (c : Int)).toNat = c := fun c hc => by simp; omega
  constructor
  · show IntKind.i64.wrap ((BitVec.ofInt 64 (a : Int) ^^^ BitVec.ofInt 64 (b : Int)).toNat : Int) = _
    rw [BitVec.toNat_xor, e a ha, e b hb]
    unfold xor32
    rw [Nat.mod_eq_of_lt ha, Nat.mod_eq_of_lt hb]
    have : a ^^^ b < 2 ^ 32 := Nat.xor_lt_two_pow (n := 32) ha hb
    exact hk _ (by omega) (by omega)
  · show IntKind.i64.wrap ((BitVec.ofInt 64 (a : Int) &&& BitVec.ofInt 64 (b : Int)).toNat : Int) = _
    rw [BitVec.toNat_and, e a ha, e b hb]
    unfold and32
    rw [Nat.mod_eq_of_lt ha, Nat.mod_eq_of_lt hb]
    have : a &&& b < 2 ^ 32 := Nat.and_lt_two_pow (n := 32) _ hb
    exact hk _ (by omega) (by omega)

end Go.Proofs.YtienklnigigepaaGreatDoor
