/- math/bits.Mul64, limb.mulAdd and limb.addRow: what they answer, over natural numbers. -/
import Derived.Test.YtjdfipfeclphkaaDoorAdd
import Derived.Shelf.Bits.Mul64
namespace Go.Proofs.YtjdfipfeclphkaaDoor
open Go.RowKit Go.Shelf

theorem addN' (a b : Nat) : (a : Int) + (b : Int) = ((a + b : Nat) : Int) := (Int.natCast_add a b).symm
theorem wrapN (a : Nat) (ha : a < 18446744073709551616) : IntKind.u64.wrap (a : Int) = (a : Int) := by rw [IntKind.wrap_u64]; omega

/-- The shelf's numbers, here. -/
def mulRen : Go.Shelf.Ren := ⟨fun _ => 53, fun t => if t = 46 then 87 else 30, fun g => g⟩
theorem mulLays : Lays.n264 Tryd.prog mulRen where
  mixed := by kernel_rfl
  f264 := by kernel_rfl
  t46 := by kernel_rfl
  a46 := fun w => by kernel_rfl
  z46 := fun w => by kernel_rfl
  v46 := fun w => by kernel_rfl
  t53 := by kernel_rfl
  a53 := fun w => by kernel_rfl
  z53 := fun w => by kernel_rfl
  v53 := fun w => by kernel_rfl
theorem mul64' (x y : Nat) (hx : x < 18446744073709551616) (hy : y < 18446744073709551616) (w : World) :
    Calls Tryd.prog 53 #[.int .u64 x, .int .u64 y] w fun e w' => e = .returned (.tuple #[.int .u64 ((x * y / 18446744073709551616 : Nat) : Int), .int .u64 ((x * y % 18446744073709551616 : Nat) : Int)]) ∧ w' = w :=
  Any.bits_Mul64 mulLays x y hx hy w
theorem mul64 (x y : Nat) (hx : x < M64) (hy : y < M64) (w : World) :
    Calls Tryd.prog 53 #[.int .u64 x, .int .u64 y] w fun e w' => e = .returned (.tuple #[.int .u64 (mulH x y), .int .u64 (mulL x y)]) ∧ w' = w := mul64' x y hx hy w

end Go.Proofs.YtjdfipfeclphkaaDoor
