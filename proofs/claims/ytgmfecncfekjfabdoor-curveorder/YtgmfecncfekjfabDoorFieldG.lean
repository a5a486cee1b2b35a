/- field.Neg of a number of the field (apart from FieldM, for cuts without Modulus). -/
import Derived.Test.YtgmfecncfekjfabDoorFdA
namespace Go.Proofs.YtgmfecncfekjfabDoor
open Go.RowKit

theorem fneg_in (g m a : Nat) (hF : FM m) (ha : a < m) (w : World) (hM : FieldB w g m) :
    Calls Tryd.prog 9 #[.pointer (some ⟨g, 0, none⟩), .agg #[.int .u64 (limb (a) 0 : Nat), .int .u64 (limb (a) 1 : Nat), .int .u64 (limb (a) 2 : Nat), .int .u64 (limb (a) 3 : Nat)]] w fun e w' => e = .returned (.tuple #[.agg #[.int .u64 (limb (subM m 0 a) 0 : Nat), .int .u64 (limb (subM m 0 a) 1 : Nat), .int .u64 (limb (subM m 0 a) 2 : Nat), .int .u64 (limb (subM m 0 a) 3 : Nat)], .int .i64 0]) ∧ Below w.heap.size w w' := by
  refine fneg_go _ a _ _ _ _ 0 (fun w => FieldB w g m) (FB_alloc g m) (fun w h => ?_) w hM
  have m1 := hF.pos
  have k := join_minus g m 0 a _ hF.2.1 (by omega) ha (fun w h => minus_fld g m 0 a hF (by omega) ha w h) w h
  rw [limb_nought, limb_nought, limb_nought, limb_nought] at k
  exact k
end Go.Proofs.YtgmfecncfekjfabDoor
