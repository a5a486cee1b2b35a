/- Bits of a number: plain; no program in sight. -/
import Derived.Test.YtbpgiijdcagckaaDoorLbA
namespace Go.Proofs.YtbpgiijdcagckaaDoor

def bitN (a n : Nat) : Nat := a / 2 ^ n % 2
theorem limb_bit (a i r : Nat) (hr : r < 64) : limb a i / 2 ^ r % 2 = bitN a (64 * i + r) := by
  unfold limb bitN
  have e1 : M64 = 2 ^ r * (2 * 2 ^ (63 - r)) := by
    rw [← Nat.pow_succ', ← Nat.pow_add, show r + (63 - r).succ = 64 from by omega]; decide
  have e2 : M64 ^ i = 2 ^ (64 * i) := by rw [Nat.pow_mul]; congr 1
  rw [e2, Nat.pow_add, ← Nat.div_div_eq_div_mul]
  generalize a / 2 ^ (64 * i) = y
  rw [e1, Nat.mod_mul_right_div_self, Nat.mod_mul_right_mod]
theorem bitN_lt (a n : Nat) : bitN a n < 2 := Nat.mod_lt _ (by decide)
theorem half_step (V q : Nat) : V / 2 ^ q = 2 * (V / 2 ^ (q + 1)) + bitN V q := by
  unfold bitN
  rw [Nat.pow_succ, ← Nat.div_div_eq_div_mul]
  omega
theorem mod_step (V q m : Nat) : (V / 2 ^ q) % m = (2 * (V / 2 ^ (q + 1) % m) + bitN V q) % m := by
  rw [half_step V q, Nat.add_mod, Nat.mul_mod, Nat.add_mod (2 * _) _ m]
  congr 2
  rw [Nat.mul_mod 2 (V / 2 ^ (q + 1) % m), Nat.mod_mod]
end Go.Proofs.YtbpgiijdcagckaaDoor
