/- The reference's Pow of a field. -/
import Derived.Test.YtgmfecncfekjfabDoorRef2M
import Derived.Test.YtgmfecncfekjfabDoorBitN
namespace Go.Proofs.YtgmfecncfekjfabDoor
open Go.RowKit

def PowB (m a e n o : Nat) : Prop := o = a ^ (e / 2 ^ n) % m
theorem PowB.sq {m a e n o y : Nat} (h : PowB m a e (n + 1) o) (hy : y = o * o % m) (hb : bitN e n = 0) : PowB m a e n y := by
  unfold PowB at *
  rw [hy, h, ← Nat.mul_mod, ← Nat.pow_add, half_step e n, hb]
  congr 2
  omega
theorem PowB.sqm {m a e n o y z : Nat} (h : PowB m a e (n + 1) o) (hy : y = o * o % m) (hz : z = y * a % m) (hb : bitN e n = 1) : PowB m a e n z := by
  unfold PowB at *
  rw [hz, hy, h, ← Nat.mul_mod, ← Nat.pow_add, half_step e n, hb, Nat.mul_mod, Nat.mod_mod, ← Nat.mul_mod, ← Nat.pow_succ]
  congr 2
  omega
theorem PowB.top {m a e : Nat} (he : e < R256) (h1 : 1 < m) : PowB m a e 256 1 := by
  unfold PowB
  rw [Nat.div_eq_of_lt (show e < 2 ^ 256 from he), Nat.pow_zero, Nat.mod_eq_of_lt h1]
/-- What the loops of the reference's Pow keep. -/
def PoAt (w wx : World) (m a e o : Nat) : Prop := FieldB wx w.heap.size m ∧ Num4 wx (w.heap.size + 1) a ∧ Num4 wx (w.heap.size + 1 + 1) e ∧ Pend wx (w.heap.size + 1 + 1 + 1) ∧ Own4 wx (w.heap.size + 1 + 1 + 1 + 1) o ∧ Below w.heap.size w wx
theorem PoAt.call {w W w1 : World} {m a e o : Nat} (h : PoAt w W m a e o) (hb : Below W.heap.size W w1) : PoAt w w1 m a e o :=
  ⟨h.1.call hb, h.2.1.call hb (Nat.lt_trans (by omega) h.2.2.2.1.2.2), h.2.2.1.call hb (Nat.lt_trans (by omega) h.2.2.2.1.2.2), h.2.2.2.1.call hb, h.2.2.2.2.1.call hb, below_call0 h.2.2.2.2.2 hb⟩
theorem PoAt.put {w W : World} {m a e o : Nat} (h : PoAt w W m a e o) (k : Nat) : PoAt w ((((W.setCell ⟨w.heap.size + 1 + 1 + 1 + 1, 0, none⟩ (.int .u64 (limb k 0 : Nat))).setCell ⟨w.heap.size + 1 + 1 + 1 + 1, 1, none⟩ (.int .u64 (limb k 1 : Nat))).setCell ⟨w.heap.size + 1 + 1 + 1 + 1, 2, none⟩ (.int .u64 (limb k 2 : Nat))).setCell ⟨w.heap.size + 1 + 1 + 1 + 1, 3, none⟩ (.int .u64 (limb k 3 : Nat))) m a e k := by
  have n1 : w.heap.size + 1 + 1 + 1 + 1 ≠ w.heap.size := by omega
  have n2 : w.heap.size + 1 + 1 + 1 + 1 ≠ w.heap.size + 1 := by omega
  have n3 : w.heap.size + 1 + 1 + 1 + 1 ≠ w.heap.size + 1 + 1 := by omega
  have n4 : w.heap.size + 1 + 1 + 1 + 1 ≠ w.heap.size + 1 + 1 + 1 := by omega
  have n5 : w.heap.size ≤ w.heap.size + 1 + 1 + 1 + 1 := by omega
  exact ⟨(((h.1.setB n1).setB n1).setB n1).setB n1, (((h.2.1.set n2).set n2).set n2).set n2, (((h.2.2.1.set n3).set n3).set n3).set n3, (((h.2.2.2.1.set n4).set n4).set n4).set n4, h.2.2.2.2.1.put, (((h.2.2.2.2.2.setCell n5 _).setCell n5 _).setCell n5 _).setCell n5 _⟩
theorem limb_one2 : limb 1 0 = 1 ∧ limb 1 1 = 0 ∧ limb 1 2 = 0 ∧ limb 1 3 = 0 := by decide

end Go.Proofs.YtgmfecncfekjfabDoor
