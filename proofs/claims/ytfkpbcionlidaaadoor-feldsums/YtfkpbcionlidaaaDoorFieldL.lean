/- Plain laws of a field of numbers below a prime: negatives, products, inverses and roots; no program in sight. -/
import Derived.Test.YtfkpbcionlidaaaDoorFdA
namespace Go.Proofs.YtfkpbcionlidaaaDoor

theorem sub_add (m a b : Nat) (hb : b < m) : (a + subM m 0 b) % m = subM m a b := by
 unfold subM
 rw [Nat.zero_add, Nat.add_mod, Nat.mod_mod, ← Nat.add_mod, ← Nat.add_sub_assoc (Nat.le_of_lt hb)]
theorem add_neg (m a : Nat) (ha : a < m) : (a + subM m 0 a) % m = 0 := by
 rw [sub_add m a a ha]
 unfold subM
 rw [Nat.add_sub_cancel_left, Nat.mod_self]
end Go.Proofs.YtfkpbcionlidaaaDoor
