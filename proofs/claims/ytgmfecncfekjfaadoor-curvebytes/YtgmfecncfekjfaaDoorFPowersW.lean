/- The walk of the statement FieldPowers. -/
import Derived.Test.YtgmfecncfekjfaaDoorFieldH
import Derived.Test.YtgmfecncfekjfaaDoorFieldM
import Derived.Test.YtgmfecncfekjfaaDoorFieldQ
import Derived.Test.YtgmfecncfekjfaaDoorRef2F
import Derived.Test.YtgmfecncfekjfaaDoorRef2S
import Derived.Test.YtgmfecncfekjfaaDoorWalkW
import Derived.Test.YtgmfecncfekjfaaDoorHeldR
namespace Go.Proofs.YtgmfecncfekjfaaDoor
open Go.RowKit
attribute [local go_sem] run_eq4

theorem sqrt2_P (a r s : Nat) (ok : Bool) (ha : a < PP) (hr : r = a ^ rootE % PP) (hok : ok = decide (r * r % PP = a)) (hs : s = evenR PP r) (w : World) :
    Calls Tryd.prog 55 #[.agg #[.int .u64 (limb (PP) 0 : Nat), .int .u64 (limb (PP) 1 : Nat), .int .u64 (limb (PP) 2 : Nat), .int .u64 (limb (PP) 3 : Nat), .int .u64 (limb (R256 - (PP)) 0 : Nat), .int .u64 (limb (R256 - (PP)) 1 : Nat), .int .u64 (limb (R256 - (PP)) 2 : Nat), .int .u64 (limb (R256 - (PP)) 3 : Nat)], .agg #[.int .u64 (limb (a) 0 : Nat), .int .u64 (limb (a) 1 : Nat), .int .u64 (limb (a) 2 : Nat), .int .u64 (limb (a) 3 : Nat)], .bool true] w fun e w' => e = .returned (cond ok (.tuple #[.agg #[.int .u64 (limb (s) 0 : Nat), .int .u64 (limb (s) 1 : Nat), .int .u64 (limb (s) 2 : Nat), .int .u64 (limb (s) 3 : Nat)], .int .i64 0]) (.tuple #[z4, .int .i64 22])) ∧ Below w.heap.size w w' := by
  have aR : a < R256 := Nat.lt_trans ha FM_P.2.1
  have rP : r < PP := by rw [hr]; exact Nat.mod_lt _ (by decide)
  have rR : r < R256 := Nat.lt_trans rP FM_P.2.1
  have k1 := has2_b PP a true FM_P.2.1 aR (decide_eq_true ha)
  have k2 : ∀ w, Calls Tryd.prog 73 #[.agg #[.int .u64 (limb (PP) 0 : Nat), .int .u64 (limb (PP) 1 : Nat), .int .u64 (limb (PP) 2 : Nat), .int .u64 (limb (PP) 3 : Nat)], .agg #[.int .u64 1, .int .u64 0, .int .u64 0, .int .u64 0]] w fun e w' => e = .returned (.tuple #[.agg #[.int .u64 (limb (PP + 1) 0 : Nat), .int .u64 (limb (PP + 1) 1 : Nat), .int .u64 (limb (PP + 1) 2 : Nat), .int .u64 (limb (PP + 1) 3 : Nat)], .bool false]) ∧ Below w.heap.size w w' := fun w => by
    have k := plus2_any PP 1 FM_P.2.1 (by decide) w
    rw [show addN PP 1 = PP + 1 from by decide, show decide (addK PP 1 = 1) = false from by decide, limb_one2.1, limb_one2.2.1, limb_one2.2.2.1, limb_one2.2.2.2] at k
    exact k
  have k3 : ∀ w, Calls Tryd.prog 80 #[.agg #[.int .u64 (limb (PP) 0 : Nat), .int .u64 (limb (PP) 1 : Nat), .int .u64 (limb (PP) 2 : Nat), .int .u64 (limb (PP) 3 : Nat), .int .u64 (limb (R256 - (PP)) 0 : Nat), .int .u64 (limb (R256 - (PP)) 1 : Nat), .int .u64 (limb (R256 - (PP)) 2 : Nat), .int .u64 (limb (R256 - (PP)) 3 : Nat)], .agg #[.int .u64 (limb (a) 0 : Nat), .int .u64 (limb (a) 1 : Nat), .int .u64 (limb (a) 2 : Nat), .int .u64 (limb (a) 3 : Nat)], .agg #[.int .u64 (limb (rootE) 0 : Nat), .int .u64 (limb (rootE) 1 : Nat), .int .u64 (limb (rootE) 2 : Nat), .int .u64 (limb (rootE) 3 : Nat)]] w fun e w' => e = .returned (.agg #[.int .u64 (limb (r) 0 : Nat), .int .u64 (limb (r) 1 : Nat), .int .u64 (limb (r) 2 : Nat), .int .u64 (limb (r) 3 : Nat)]) ∧ Below w.heap.size w w' := fun w => by rw [hr]; exact pow2_any PP a rootE FM_P FS_P aR rootE_lt w
  have k4 := mul2_any PP r r FM_P FS_P rR rR
  have sR : r * r % PP < R256 := Nat.lt_trans (Nat.mod_lt _ (by decide)) FM_P.2.1
  have he := eq4_num (r * r % PP) a sR aR
  rw [← hok] at he
  have lp : limb r 0 % 2 = r % 2 := by have h := limb_bit r 0 0 (by decide); unfold bitN at h; simpa using h
  cases ok
  · exact sqrt2_bad PP a (PP + 1) rootE r (r * r % PP) (limb (PP + 1) 0 / 4) (limb (PP + 1) 1 / 4) (limb (PP + 1) 2 / 4) (limb (PP + 1) 3 / 4) k1 k2 k3 k4 (by decide) (by decide) (by decide) (by decide) (by decide) (by decide) (by decide) (by decide) he w
  · rcases (show r % 2 = 0 ∨ r % 2 = 1 by omega) with h | h
    · rw [hs, evenR_even PP r h]
      exact sqrt2_even PP a (PP + 1) rootE r (r * r % PP) (limb (PP + 1) 0 / 4) (limb (PP + 1) 1 / 4) (limb (PP + 1) 2 / 4) (limb (PP + 1) 3 / 4) k1 k2 k3 k4 (by decide) (by decide) (by decide) (by decide) (by decide) (by decide) (by decide) (by decide) he (by rw [Int.tmod_eq_emod_of_nonneg (by omega)]; omega) w
    · rw [hs, evenR_odd PP r h]
      have k5 : ∀ w, Calls Tryd.prog 42 #[.agg #[.int .u64 (limb (PP) 0 : Nat), .int .u64 (limb (PP) 1 : Nat), .int .u64 (limb (PP) 2 : Nat), .int .u64 (limb (PP) 3 : Nat), .int .u64 (limb (R256 - (PP)) 0 : Nat), .int .u64 (limb (R256 - (PP)) 1 : Nat), .int .u64 (limb (R256 - (PP)) 2 : Nat), .int .u64 (limb (R256 - (PP)) 3 : Nat)], .agg #[.int .u64 0, .int .u64 0, .int .u64 0, .int .u64 0], .agg #[.int .u64 (limb (r) 0 : Nat), .int .u64 (limb (r) 1 : Nat), .int .u64 (limb (r) 2 : Nat), .int .u64 (limb (r) 3 : Nat)]] w fun e w' => e = .returned (.agg #[.int .u64 (limb (subM PP 0 r) 0 : Nat), .int .u64 (limb (subM PP 0 r) 1 : Nat), .int .u64 (limb (subM PP 0 r) 2 : Nat), .int .u64 (limb (subM PP 0 r) 3 : Nat)]) ∧ Below w.heap.size w w' := fun w => by
        have k := sub2_any PP 0 r FM_P.2.1 (by decide) rP w
        rw [limb_nought, limb_nought, limb_nought, limb_nought] at k
        exact k
      exact sqrt2_odd PP a (PP + 1) rootE r (r * r % PP) (subM PP 0 r) (limb (PP + 1) 0 / 4) (limb (PP + 1) 1 / 4) (limb (PP + 1) 2 / 4) (limb (PP + 1) 3 / 4) k1 k2 k3 k4 k5 (by decide) (by decide) (by decide) (by decide) (by decide) (by decide) (by decide) (by decide) he (by rw [Int.tmod_eq_emod_of_nonneg (by omega)]; omega) w
end Go.Proofs.YtgmfecncfekjfaaDoor
