/- lower: the lower half of a wide number; and three numbers that a world holds. -/
import Derived.Test.YtpedidldhlldfabMul
import Derived.Test.YtpedidldhlldfabTurns
namespace Go.Proofs.Ytpedidldhlldfab
open Go.RowKit

theorem limb_mod (n k : Nat) (hk : k < 4) : limb (n % R256) k = limb n k := by
  unfold limb
  have e : R256 = M64 ^ k * M64 ^ (4 - k) := by rw [← Nat.pow_add, show k + (4 - k) = 4 from by omega]; decide
  rw [e, Nat.mod_mul_right_div_self]
  have e2 : M64 ^ (4 - k) = M64 * M64 ^ (3 - k) := by rw [← Nat.pow_succ', show (3 - k).succ = 4 - k from by omega]
  rw [e2, Nat.mod_mul_right_mod]

theorem lower_any (n : Nat) (w : World) : Calls Try.prog 9 #[.agg #[.int .u64 (limb (n) 0 : Nat), .int .u64 (limb (n) 1 : Nat), .int .u64 (limb (n) 2 : Nat), .int .u64 (limb (n) 3 : Nat), .int .u64 (limb (n) 4 : Nat), .int .u64 (limb (n) 5 : Nat), .int .u64 (limb (n) 6 : Nat), .int .u64 (limb (n) 7 : Nat)]] w fun e w' => e = .returned (.agg #[.int .u64 (limb (n % R256) 0 : Nat), .int .u64 (limb (n % R256) 1 : Nat), .int .u64 (limb (n % R256) 2 : Nat), .int .u64 (limb (n % R256) 3 : Nat)]) ∧ Below w.heap.size w w' := by
  rw [limb_mod n 0 (by omega), limb_mod n 1 (by omega), limb_mod n 2 (by omega), limb_mod n 3 (by omega)]
  go_enter Try.func9, Try.ntmps9
  go_wp2
  refine bodyPost_ret (v := .agg #[.int .u64 (limb (n) 0 : Nat), .int .u64 (limb (n) 1 : Nat), .int .u64 (limb (n) 2 : Nat), .int .u64 (limb (n) 3 : Nat)]) ?_ rfl ⟨rfl, ?_⟩
  · simp [results, Try.results9, go_sem]
  · ((repeat' (first | with_reducible exact Below.refl _ _ | with_reducible refine Below.setCell ?_ ?_ _ | with_reducible refine below_alloc0 ?_ _ | with_reducible refine below_drewN ?_ _ | with_reducible refine Below.drew ?_ | refine below_call0 ?_ (by assumption))) <;> (first | omega | (simp; done) | (simp; omega)))

end Go.Proofs.Ytpedidldhlldfab
