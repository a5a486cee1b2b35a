/- The reference's round. -/
import Derived.Test.YtienklnigigepaaGreatDoorRef4A
import Derived.Test.YtienklnigigepaaGreatDoorShaS
import Derived.Test.YtienklnigigepaaGreatDoorHeldR
namespace Go.Proofs.YtienklnigigepaaGreatDoor
open Go.RowKit

def agg8 (x : E8) : Value := .agg #[.int .i64 (x.a : Nat), .int .i64 (x.b : Nat), .int .i64 (x.c : Nat), .int .i64 (x.d : Nat), .int .i64 (x.e : Nat), .int .i64 (x.f : Nat), .int .i64 (x.g : Nat), .int .i64 (x.h : Nat)]
def Low8 (x : E8) : Prop := x.a < 4294967296 ∧ x.b < 4294967296 ∧ x.c < 4294967296 ∧ x.d < 4294967296 ∧ x.e < 4294967296 ∧ x.f < 4294967296 ∧ x.g < 4294967296 ∧ x.h < 4294967296
theorem not32_eq (e : Nat) (he : e < 4294967296) : xor32 4294967295 e = 4294967295 - e := by
  have h : (BitVec.allOnes 32 ^^^ BitVec.ofNat 32 e) = ~~~ (BitVec.ofNat 32 e) := by rw [BitVec.xor_comm, BitVec.xor_allOnes]
  have h2 := congrArg BitVec.toNat h
  rw [BitVec.toNat_xor, BitVec.toNat_not, BitVec.toNat_ofNat, BitVec.toNat_allOnes, Nat.mod_eq_of_lt he] at h2
  unfold xor32
  rw [Nat.mod_eq_of_lt he]
  exact h2
theorem keep64 (z : Nat) (h : z < 9223372036854775808) : IntKind.i64.wrap (z : Int) = (z : Nat) ∧ wrap64 (z : Int) = (z : Nat) := ⟨by rw [IntKind.wrap_i64]; omega, by unfold wrap64; omega⟩
theorem rem32 (z : Nat) : (z : Int).tmod 4294967296 = ((z % 4294967296 : Nat) : Int) ∧ (z : Int) % 4294967296 = ((z % 4294967296 : Nat) : Int) := ⟨by rw [Int.tmod_eq_emod_of_nonneg (by omega)]; omega, by omega⟩
theorem sub_all (e : Nat) (h : e < 4294967296) : (4294967295 : Int) - (e : Int) = ((4294967295 - e : Nat) : Int) := by omega
theorem rnd_sums (h S1 cc k v S0 mj d : Nat) : (h + S1 + cc + k + v + (S0 + mj)) % 4294967296 = add32 (add32 (add32 (add32 (add32 h S1) cc) k) v) (add32 S0 mj) ∧ (d + (h + S1 + cc + k + v)) % 4294967296 = add32 d (add32 (add32 (add32 (add32 h S1) cc) k) v) := by
  refine ⟨?_, ?_⟩ <;> simp only [add32, Nat.mod_add_mod, Nat.add_mod_mod]

end Go.Proofs.YtienklnigigepaaGreatDoor
