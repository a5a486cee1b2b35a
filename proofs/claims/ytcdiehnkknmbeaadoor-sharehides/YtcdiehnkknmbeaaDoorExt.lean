/- The sums and differences of math/bits at this translation: what Add64, Sub64 and Mul64 answer, over natural numbers; no conditions but that the carry is 0 or 1. -/
import Derived.Test.YtcdiehnkknmbeaaDoorRows
import Derived.Test.YtcdiehnkknmbeaaDoorNum
import Derived.WalkKit
import Derived.WalkSpells
import Derived.WalkLawsBesides
import Derived.StillTactics
import Derived.Laws.Externs
import Derived.RowKit3
import Derived.Below
import Derived.Lib.Mul64
import Derived.Laws.Bits64b
import Derived.BigQuiet
import Derived.Deep.QuietTactic
import Derived.Handy
namespace Go.Proofs.YtcdiehnkknmbeaaDoor
open Go.RowKit



theorem add64 (x y c : Nat) (hc : c ≤ 1) (w : World) : (callFunc 60 #[.int .u64 x, .int .u64 y, .int .u64 c]).run Tryd.prog w =
    .ok (.value (.tuple #[.int .u64 (addS x y c), .int .u64 (addC x y c)])) w := by
  rw [run_callFunc_extern Tryd.func60 (by kernel_rfl) (by kernel_rfl) (by kernel_rfl) (e := add64Entry) (by kernel_rfl), run_add64 x y c (by omega) (by omega) (by omega) (by omega)]
  simp only [Result.andThen, addS, addC, M64]
  congr 5 <;> omega
theorem add64_0 (x y : Nat) (w : World) : (callFunc 60 #[.int .u64 x, .int .u64 y, .int .u64 0]).run Tryd.prog w =
    .ok (.value (.tuple #[.int .u64 (addS x y 0), .int .u64 (addC x y 0)])) w := add64 x y 0 (by omega) w
theorem has_sub64 : (Extern.find Tryd.f61).isSome = true := by kernel_rfl
theorem run_sub64_0 (x y : Nat) (w : World) : (((Extern.find Tryd.f61).get has_sub64) #[.int .u64 x, .int .u64 y, .int .u64 (0 : Nat)]).run Tryd.prog w =
      .ok (.tuple #[.int .u64 (subS x y 0), .int .u64 (subB x y 0)]) w := by kernel_rfl
theorem run_sub64_1 (x y : Nat) (w : World) : (((Extern.find Tryd.f61).get has_sub64) #[.int .u64 x, .int .u64 y, .int .u64 (1 : Nat)]).run Tryd.prog w =
      .ok (.tuple #[.int .u64 (subS x y 1), .int .u64 (subB x y 1)]) w := by kernel_rfl
theorem run_sub64 (x y b : Nat) (hb : b ≤ 1) (w : World) : (((Extern.find Tryd.f61).get has_sub64) #[.int .u64 x, .int .u64 y, .int .u64 b]).run Tryd.prog w =
      .ok (.tuple #[.int .u64 (subS x y b), .int .u64 (subB x y b)]) w := by
  have : b = 0 ∨ b = 1 := by omega
  rcases this with rfl | rfl
  · exact run_sub64_0 x y w
  · exact run_sub64_1 x y w
theorem sub64 (x y b : Nat) (hb : b ≤ 1) (w : World) : (callFunc 61 #[.int .u64 x, .int .u64 y, .int .u64 b]).run Tryd.prog w =
    .ok (.value (.tuple #[.int .u64 (subS x y b), .int .u64 (subB x y b)])) w := by
  rw [run_callFunc_extern Tryd.func61 (by kernel_rfl) (by kernel_rfl) (by kernel_rfl) (Option.some_get has_sub64).symm, run_sub64 x y b hb]
  rfl
theorem sub64_0 (x y : Nat) (w : World) : (callFunc 61 #[.int .u64 x, .int .u64 y, .int .u64 0]).run Tryd.prog w =
    .ok (.value (.tuple #[.int .u64 (subS x y 0), .int .u64 (subB x y 0)])) w := sub64 x y 0 (by omega) w


theorem plus_any (x y c : Nat) (hc : c ≤ 1) (w : World) :
    Calls Tryd.prog 68 #[.int .u64 x, .int .u64 y, .int .u64 c] w fun e w' => e = .returned (.tuple #[.int .u64 (addS x y c), .int .u64 (addC x y c)]) ∧ w' = w := by
  go_enter Tryd.func68, Tryd.ntmps68
  go_wp2_with (simp only [add64 x y c hc])
  go_ret2
  exact ⟨rfl, rfl⟩
theorem minus_any (x y c : Nat) (hc : c ≤ 1) (w : World) :
    Calls Tryd.prog 67 #[.int .u64 x, .int .u64 y, .int .u64 c] w fun e w' => e = .returned (.tuple #[.int .u64 (subS x y c), .int .u64 (subB x y c)]) ∧ w' = w := by
  go_enter Tryd.func67, Tryd.ntmps67
  go_wp2_with (simp only [sub64 x y c hc])
  go_ret2
  exact ⟨rfl, rfl⟩
end Go.Proofs.YtcdiehnkknmbeaaDoor
