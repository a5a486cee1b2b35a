/- Several texts laid together. -/
import Derived.Test.YtchphekaonnfeaaDoorLbA
import Derived.WalkSmall
namespace Go.Proofs.YtchphekaonnfeaaDoor

def bitN (a n : Nat) : Nat := a / 2 ^ n % 2
theorem limb_bit (a i r : Nat) (hr : r < 64) : limb a i / 2 ^ r % 2 = bitN a (64 * i + r) := by
  unfold limb bitN
  have e1 : M64 = 2 ^ r * (2 * 2 ^ (63 - r)) := by
    rw [← Nat.pow_succ', ← Nat.pow_add, show r + (63 - r).succ = 64 from by omega]; decide
  have e2 : M64 ^ i = 2 ^ (64 * i) := by rw [Nat.pow_mul]; congr 1
  rw [e2, Nat.pow_add, ← Nat.div_div_eq_div_mul]
  generalize a / 2 ^ (64 * i) = y
  rw [e1, Nat.mod_mul_right_div_self, Nat.mod_mul_right_mod]
theorem bitN_lt (a n : Nat) : bitN a n < 2 := Nat.mod_lt _ (by decide)
end Go.Proofs.YtchphekaonnfeaaDoor

namespace Go.Proofs.YtchphekaonnfeaaDoor
open Go Go.RowKit

theorem bit_eq (a n i r : Nat) (h : i = n / 64 ∧ r = n % 64) : bits .and .u64 ((limb a i : Int) / 2 ^ r) 1 = ((bitN a n : Nat) : Int) := by
  have e : ((limb a i : Int) / 2 ^ r) = ((limb a i / 2 ^ r : Nat) : Int) := by
    rw [Int.natCast_ediv, Int.natCast_pow]; rfl
  rw [e, and_one _ (Nat.lt_of_le_of_lt (Nat.div_le_self _ _) (limb_lt a i)), limb_bit a i r (by omega), show 64 * i + r = n from by omega]
theorem ret_u64 {a b : Int} (h : a = b) : Ending.returned (.int .u64 a) = .returned (.int .u64 b) := by rw [h]
set_option maxHeartbeats 1000000 in
theorem bit_in (a n : Nat) (hn : n < 256) (w : World) :
    Calls Tryd.prog 52 #[.agg #[.int .u64 (limb (a) 0 : Nat), .int .u64 (limb (a) 1 : Nat), .int .u64 (limb (a) 2 : Nat), .int .u64 (limb (a) 3 : Nat)], .int .i64 n] w fun e w' => e = .returned (.int .u64 (bitN a n : Nat)) ∧ Below w.heap.size w w' := by
  obtain ⟨i, hi⟩ : ∃ i, i = n / 64 := ⟨_, rfl⟩
  obtain ⟨r, hr⟩ : ∃ r, r = n % 64 := ⟨_, rfl⟩
  have e1 : (n : Int).tdiv 64 = (i : Nat) := by rw [Int.tdiv_eq_ediv_of_nonneg (by omega)]; omega
  have e2 : (n : Int) / 64 = (i : Nat) := by omega
  have e3 : (n : Int).tmod 64 = (r : Nat) := by rw [Int.tmod_eq_emod_of_nonneg (by omega)]; omega
  have e4 : (n : Int) % 64 = (r : Nat) := by omega
  have i4 : i < 4 := by omega
  have i5 : (i : Int) < 4 := by omega
  have r6 : (r : Int) < 64 := by omega
  have four : i = 0 ∨ i = 1 ∨ i = 2 ∨ i = 3 := by omega
  have HI : Hid (i = n / 64 ∧ r = n % 64) := ⟨hi, hr⟩
  clear hi hr i4 i5
  rcases four with rfl | rfl | rfl | rfl
  · go_enter Tryd.func52, Tryd.ntmps52
    go_wp2
    go_ret
    exact ⟨ret_u64 (bit_eq a n _ r HI.out), by ((repeat' (first | with_reducible exact Below.refl _ _ | with_reducible refine Below.setCell ?_ ?_ _ | with_reducible refine below_alloc0 ?_ _ | with_reducible refine below_drewN ?_ _ | with_reducible refine Below.drew ?_ | refine below_call0 ?_ (by assumption))) <;> (first | omega | (simp; done) | (simp; omega)))⟩
  · go_enter Tryd.func52, Tryd.ntmps52
    go_wp2
    go_ret
    exact ⟨ret_u64 (bit_eq a n _ r HI.out), by ((repeat' (first | with_reducible exact Below.refl _ _ | with_reducible refine Below.setCell ?_ ?_ _ | with_reducible refine below_alloc0 ?_ _ | with_reducible refine below_drewN ?_ _ | with_reducible refine Below.drew ?_ | refine below_call0 ?_ (by assumption))) <;> (first | omega | (simp; done) | (simp; omega)))⟩
  · go_enter Tryd.func52, Tryd.ntmps52
    go_wp2
    go_ret
    exact ⟨ret_u64 (bit_eq a n _ r HI.out), by ((repeat' (first | with_reducible exact Below.refl _ _ | with_reducible refine Below.setCell ?_ ?_ _ | with_reducible refine below_alloc0 ?_ _ | with_reducible refine below_drewN ?_ _ | with_reducible refine Below.drew ?_ | refine below_call0 ?_ (by assumption))) <;> (first | omega | (simp; done) | (simp; omega)))⟩
  · go_enter Tryd.func52, Tryd.ntmps52
    go_wp2
    go_ret
    exact ⟨ret_u64 (bit_eq a n _ r HI.out), by ((repeat' (first | with_reducible exact Below.refl _ _ | with_reducible refine Below.setCell ?_ ?_ _ | with_reducible refine below_alloc0 ?_ _ | with_reducible refine below_drewN ?_ _ | with_reducible refine Below.drew ?_ | refine below_call0 ?_ (by assumption))) <;> (first | omega | (simp; done) | (simp; omega)))⟩
theorem bit_out (a : Nat) (n : Int) (h : 255 < n) (w : World) :
    Calls Tryd.prog 52 #[.agg #[.int .u64 (limb (a) 0 : Nat), .int .u64 (limb (a) 1 : Nat), .int .u64 (limb (a) 2 : Nat), .int .u64 (limb (a) 3 : Nat)], .int .i64 n] w fun e w' => e = .returned (.int .u64 0) ∧ Below w.heap.size w w' := by
  have d1 : decide (n < 0) = false := by simp; omega
  have d2 : decide (255 < n) = true := by simpa using h
  go_enter Tryd.func52, Tryd.ntmps52
  go_wp2
  go_ret
  exact ⟨rfl, by ((repeat' (first | with_reducible exact Below.refl _ _ | with_reducible refine Below.setCell ?_ ?_ _ | with_reducible refine below_alloc0 ?_ _ | with_reducible refine below_drewN ?_ _ | with_reducible refine Below.drew ?_ | refine below_call0 ?_ (by assumption))) <;> (first | omega | (simp; done) | (simp; omega)))⟩
theorem bit_all (a n : Nat) (ha : a < R256) (w : World) :
    Calls Tryd.prog 52 #[.agg #[.int .u64 (limb (a) 0 : Nat), .int .u64 (limb (a) 1 : Nat), .int .u64 (limb (a) 2 : Nat), .int .u64 (limb (a) 3 : Nat)], .int .i64 n] w fun e w' => e = .returned (.int .u64 (bitN a n : Nat)) ∧ Below w.heap.size w w' := by
  rcases Nat.lt_or_ge n 256 with h | h
  · exact bit_in a n h w
  · have e : bitN a n = 0 := by
      unfold bitN
      rw [Nat.div_eq_of_lt (Nat.lt_of_lt_of_le (show a < 2 ^ 256 from ha) (Nat.pow_le_pow_right (by decide) h))]
    rw [e]
    exact bit_out a n (by omega) w
end Go.Proofs.YtchphekaonnfeaaDoor
