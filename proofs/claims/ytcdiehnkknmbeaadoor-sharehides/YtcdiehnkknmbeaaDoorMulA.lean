/- math/bits.Mul64, limb.mulAdd and limb.addRow: what they answer, over natural numbers. -/
import Derived.Test.YtcdiehnkknmbeaaDoorAdd
import Derived.Shelf.Bits.Mul64
namespace Go.Proofs.YtcdiehnkknmbeaaDoor
open Go.RowKit Go.Shelf

theorem addN' (a b : Nat) : (a : Int) + (b : Int) = ((a + b : Nat) : Int) := (Int.natCast_add a b).symm
theorem wrapN (a : Nat) (ha : a < 18446744073709551616) : IntKind.u64.wrap (a : Int) = (a : Int) := by rw [IntKind.wrap_u64]; omega

/-- The shelf's numbers, here. -/
def mulRen : Go.Shelf.Ren := ⟨fun _ => 59, fun t => if t = 46 then 92 else 23, fun g => g⟩
theorem mulLays : Lays.n264 Tryd.prog mulRen where
  mixed := by kernel_rfl
  f264 := by kernel_rfl
  t46 := by kernel_rfl
  a46 := fun w => by kernel_rfl
  z46 := fun w => by kernel_rfl
  v46 := fun w => by kernel_rfl
  t53 := by kernel_rfl
  a53 := fun w => by kernel_rfl
  z53 := fun w => by kernel_rfl
  v53 := fun w => by kernel_rfl
theorem mul64' (x y : Nat) (hx : x < 18446744073709551616) (hy : y < 18446744073709551616) (w : World) :
    Calls Tryd.prog 59 #[.int .u64 x, .int .u64 y] w fun e w' => e = .returned (.tuple #[.int .u64 ((x * y / 18446744073709551616 : Nat) : Int), .int .u64 ((x * y % 18446744073709551616 : Nat) : Int)]) ∧ w' = w :=
  Any.bits_Mul64 mulLays x y hx hy w
theorem mul64 (x y : Nat) (hx : x < M64) (hy : y < M64) (w : World) :
    Calls Tryd.prog 59 #[.int .u64 x, .int .u64 y] w fun e w' => e = .returned (.tuple #[.int .u64 (mulH x y), .int .u64 (mulL x y)]) ∧ w' = w := mul64' x y hx hy w

set_option maxHeartbeats 1000000 in
theorem mulAdd_any (a b c d : Nat) (ha : a < M64) (hb : b < M64) (hc : c < M64) (hd : d < M64) (w : World) :
    Calls Tryd.prog 75 #[.int .u64 a, .int .u64 b, .int .u64 c, .int .u64 d] w fun e w' => e = .returned (.tuple #[.int .u64 (maH a b c d), .int .u64 (maL a b c d)]) ∧ w' = w := by
  obtain ⟨eL, eH⟩ := mulAdd_eq a b c d
  have l2 : mulH a b + addC (mulL a b) c 0 + addC (addS (mulL a b) c 0) d 0 < 18446744073709551616 := by rw [eH]; exact maH_lt a b c d ha hb hc hd
  have l1 : mulH a b + addC (mulL a b) c 0 < 18446744073709551616 := by omega
  have H : Hid (_ ∧ _ ∧ _ ∧ _) := ⟨eL, eH, l1, l2⟩
  clear eL eH l1 l2
  go_enter Tryd.func75, Tryd.ntmps75
  go_wp2_with (first | (go_at_call 59; refine (mul64 a b ha hb _).mono ?_; rintro e w' ⟨rfl, rfl⟩) | simp only [add64_0])
  obtain ⟨eL, eH, l1, l2⟩ := H.out
  simp only [addN', wrapN _ l1, eH, eL, wrapN _ (maH_lt a b c d ha hb hc hd)]
  go_ret2
  exact ⟨rfl, rfl⟩

set_option maxHeartbeats 2000000 in
theorem addRow_any (pb d b0 b1 b2 b3 w0 w1 w2 w3 : Nat) (hd : d < M64) (h0 : b0 < M64) (h1 : b1 < M64) (h2 : b2 < M64) (h3 : b3 < M64) (g0 : w0 < M64) (g1 : w1 < M64) (g2 : w2 < M64) (g3 : w3 < M64) (w : World)
    (c0 : w.cell? ⟨pb, 0, none⟩ = some (.int .u64 b0)) (c1 : w.cell? ⟨pb, 1, none⟩ = some (.int .u64 b1)) (c2 : w.cell? ⟨pb, 2, none⟩ = some (.int .u64 b2)) (c3 : w.cell? ⟨pb, 3, none⟩ = some (.int .u64 b3)) :
    Calls Tryd.prog 73 #[.int .u64 d, .pointer (some ⟨pb, 0, none⟩), .int .u64 w0, .int .u64 w1, .int .u64 w2, .int .u64 w3] w fun e w' =>
      e = .returned (.tuple #[.int .u64 (rowL d b0 b1 b2 b3 w0 w1 w2 w3 0), .int .u64 (rowL d b0 b1 b2 b3 w0 w1 w2 w3 1), .int .u64 (rowL d b0 b1 b2 b3 w0 w1 w2 w3 2), .int .u64 (rowL d b0 b1 b2 b3 w0 w1 w2 w3 3), .int .u64 (rowL d b0 b1 b2 b3 w0 w1 w2 w3 4)]) ∧ w' = w := by
  have k1 := maH_lt d b0 w0 0 hd h0 g0 M64_pos
  have k2 := maH_lt d b1 w1 _ hd h1 g1 k1
  have k3 := maH_lt d b2 w2 _ hd h2 g2 k2
  go_enter Tryd.func73, Tryd.ntmps73
  go_wp2_with fail
  refine (mulAdd_any d b0 w0 0 hd h0 g0 M64_pos _).mono ?_
  rintro e w' ⟨rfl, rfl⟩
  go_wp2_with fail
  refine (mulAdd_any d b1 w1 _ hd h1 g1 k1 _).mono ?_
  rintro e w' ⟨rfl, rfl⟩
  go_wp2_with fail
  refine (mulAdd_any d b2 w2 _ hd h2 g2 k2 _).mono ?_
  rintro e w' ⟨rfl, rfl⟩
  go_wp2_with fail
  refine (mulAdd_any d b3 w3 _ hd h3 g3 k3 _).mono ?_
  rintro e w' ⟨rfl, rfl⟩
  go_wp2
  exact bodyPost_ret (v := .tuple #[.int .u64 (maL d b0 w0 0), .int .u64 (maL d b1 w1 (maH d b0 w0 0)), .int .u64 (maL d b2 w2 (maH d b1 w1 (maH d b0 w0 0))), .int .u64 (maL d b3 w3 (maH d b2 w2 (maH d b1 w1 (maH d b0 w0 0)))), .int .u64 (maH d b3 w3 (maH d b2 w2 (maH d b1 w1 (maH d b0 w0 0))))]) (by simp [results, Tryd.results73, go_sem]) rfl ⟨rfl, rfl⟩
end Go.Proofs.YtcdiehnkknmbeaaDoor
