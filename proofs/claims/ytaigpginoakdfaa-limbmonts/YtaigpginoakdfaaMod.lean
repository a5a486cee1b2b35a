/- limb.Mod: the remainder of a wide number, bit by bit. -/
import Derived.Test.YtaigpginoakdfaaSel
import Derived.Test.YtaigpginoakdfaaEq
import Derived.Test.YtaigpginoakdfaaBitN
namespace Go.Proofs.Ytaigpginoakdfaa
open Go.RowKit
attribute [local go_sem] run_eq4

theorem bit_eq (a n i r : Nat) (h : i = n / 64 ∧ r = n % 64) : bits .and .u64 ((limb a i : Int) / 2 ^ r) 1 = ((bitN a n : Nat) : Int) := by
  have e : ((limb a i : Int) / 2 ^ r) = ((limb a i / 2 ^ r : Nat) : Int) := by
    rw [Int.natCast_ediv, Int.natCast_pow]; rfl
  rw [e, and_one _ (Nat.lt_of_le_of_lt (Nat.div_le_self _ _) (limb_lt a i)), limb_bit a i r (by omega), show 64 * i + r = n from by omega]
theorem or_even (x b : Nat) (hx : x % 2 = 0) (hb : b < 2) : x ||| b = x + b := by
  have h := Nat.two_pow_add_eq_or_of_lt (i := 1) (b := b) (by omega) (x / 2)
  rw [show 2 ^ 1 * (x / 2) = x from by omega] at h
  exact h.symm
/-- The sum of a number with itself, and a bit put into it. -/
theorem put_bit (s b : Nat) (hs : s < R256) (he : s % 2 = 0) (hb : b < 2) : s + b < R256 ∧ limb s 0 % 2 = 0 ∧ limb (s + b) 0 = limb s 0 + b ∧ limb (s + b) 1 = limb s 1 ∧ limb (s + b) 2 = limb s 2 ∧ limb (s + b) 3 = limb s 3 := by
  have j := join_limb s hs
  have l0 := limb_lt s 0
  have l1 := limb_lt s 1
  have l2 := limb_lt s 2
  have l3 := limb_lt s 3
  have e0 : limb s 0 % 2 = 0 := by
    rw [limb_zero]
    unfold M64
    omega
  have l0' : limb s 0 + b < M64 := by unfold M64 at *; omega
  have key : s + b = join4 (limb s 0 + b) (limb s 1) (limb s 2) (limb s 3) := by
    conv => lhs; rw [← j]
    unfold join4
    omega
  refine ⟨by rw [key]; exact join4_lt _ _ _ _ l0' l1 l2 l3, e0, ?_, ?_, ?_, ?_⟩
  · rw [key, limb_join0 _ _ _ _ l0']
  · rw [key, limb_join1 _ _ _ _ l0' l1]
  · rw [key, limb_join2 _ _ _ _ l0' l1 l2]
  · rw [key, limb_join3 _ _ _ _ l0' l1 l2 l3]
theorem double_even (x : Nat) (hx : x < R256) : addN x x % 2 = 0 ∧ addK x x * R256 + addN x x = 2 * x ∧ addK x x ≤ 1 := by
  unfold addN addK
  unfold R256 at *
  omega
def Num8 (w : World) (b n : Nat) : Prop := ∀ j, j < 8 → w.cell? ⟨b, j, none⟩ = some (.int .u64 (limb n j : Nat))
theorem Num8.call {W w1 : World} {b n : Nat} (h : Num8 W b n) (hb : Below W.heap.size W w1) (hlt : b < W.heap.size) : Num8 w1 b n := fun j hj => (hb.cell (p := ⟨b, j, none⟩) hlt).trans (h j hj)
theorem Num8.alloc {W : World} {b n : Nat} {o : Obj} (h : Num8 W b n) (hlt : b < W.heap.size) : Num8 (W.alloc o) b n := fun j hj => (World.cell?_alloc_lt W o ⟨b, j, none⟩ hlt).trans (h j hj)
theorem Num8.set {W : World} {b n : Nat} {p : Addr} {v : Value} (h : Num8 W b n) (hne : p.block ≠ b) : Num8 (W.setCell p v) b n := fun j hj => by
  rw [World.cell?_setCell_other _ _ _ _ (by intro c; apply hne; rw [c])]
  exact h j hj
theorem mod_zero (W : Nat) (w : World) : Calls Try.prog 24 #[.agg #[.int .u64 (limb (W) 0 : Nat), .int .u64 (limb (W) 1 : Nat), .int .u64 (limb (W) 2 : Nat), .int .u64 (limb (W) 3 : Nat), .int .u64 (limb (W) 4 : Nat), .int .u64 (limb (W) 5 : Nat), .int .u64 (limb (W) 6 : Nat), .int .u64 (limb (W) 7 : Nat)], .agg #[.int .u64 0, .int .u64 0, .int .u64 0, .int .u64 0]] w fun e w' => e = .returned (.tuple #[.agg #[.int .u64 0, .int .u64 0, .int .u64 0, .int .u64 0], .int .i64 1]) ∧ Below w.heap.size w w' := by
  have q : eq4 0 0 0 0 0 0 0 0 = true := rfl
  go_enter Try.func24, Try.ntmps24
  go_wp2
  refine bodyPost_ret (v := .tuple #[.agg #[.int .u64 0, .int .u64 0, .int .u64 0, .int .u64 0], .int .i64 1]) ?_ rfl ⟨rfl, ?_⟩
  · simp [results, Try.results24, go_sem]
  · ((repeat' (first | with_reducible exact Below.refl _ _ | with_reducible refine Below.setCell ?_ ?_ _ | with_reducible refine below_alloc0 ?_ _ | with_reducible refine below_drewN ?_ _ | with_reducible refine Below.drew ?_ | refine below_call0 ?_ (by assumption))) <;> (first | omega | (simp; done) | (simp; omega)))
end Go.Proofs.Ytaigpginoakdfaa
