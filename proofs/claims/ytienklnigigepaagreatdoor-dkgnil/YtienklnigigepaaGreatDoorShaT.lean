/- math/bits.RotateLeft32 and digest.turn: a word, turned. -/
import Derived.Test.YtienklnigigepaaGreatDoorShaN
import Derived.Test.YtienklnigigepaaGreatDoorRows
import Derived.WalkKit
import Derived.WalkSpells
import Derived.WalkLawsBesides
import Derived.StillTactics
import Derived.Laws.Externs
import Derived.RowKit3
import Derived.Below
import Derived.Laws.Bits64b
import Derived.Laws.BitsAllLaws
namespace Go.Proofs.YtienklnigigepaaGreatDoor
open Go.RowKit

theorem ofInt32 (a : Nat) : (BitVec.ofInt 32 (a : Int)).toNat = a % 4294967296 := by
  simp
theorem wrap32_nat (n : Nat) (h : n < 4294967296) : IntKind.u32.wrap (n : Int) = (n : Int) := by rw [IntKind.wrap_u32]; omega
theorem bits_xor32 (a b : Nat) : bits .xor .u32 (a : Int) (b : Int) = (xor32 a b : Nat) := by
  show IntKind.u32.wrap ((BitVec.ofInt 32 (a : Int) ^^^ BitVec.ofInt 32 (b : Int)).toNat : Int) = _
  rw [BitVec.toNat_xor, ofInt32, ofInt32]
  exact wrap32_nat _ (Nat.xor_lt_two_pow (n := 32) (Nat.mod_lt _ (by decide)) (Nat.mod_lt _ (by decide)))
theorem bits_and32 (a b : Nat) : bits .and .u32 (a : Int) (b : Int) = (and32 a b : Nat) := by
  show IntKind.u32.wrap ((BitVec.ofInt 32 (a : Int) &&& BitVec.ofInt 32 (b : Int)).toNat : Int) = _
  rw [BitVec.toNat_and, ofInt32, ofInt32]
  exact wrap32_nat _ (Nat.and_lt_two_pow (n := 32) _ (Nat.mod_lt _ (by decide)))
theorem bits_or32 (a b : Nat) : bits .or .u32 (a : Int) (b : Int) = (or32 a b : Nat) := by
  show IntKind.u32.wrap ((BitVec.ofInt 32 (a : Int) ||| BitVec.ofInt 32 (b : Int)).toNat : Int) = _
  rw [BitVec.toNat_or, ofInt32, ofInt32]
  exact wrap32_nat _ (Nat.or_lt_two_pow (n := 32) (Nat.mod_lt _ (by decide)) (Nat.mod_lt _ (by decide)))
theorem bits_not32 (a : Nat) : bits .xor .u32 4294967295 (a : Int) = (xor32 4294967295 a : Nat) := bits_xor32 4294967295 a
theorem bits_not32' (a : Nat) : bits .xor .u32 IntKind.u32.max (a : Int) = (xor32 4294967295 a : Nat) := bits_xor32 4294967295 a
theorem wrap_add32 (a b : Nat) : IntKind.u32.wrap ((a : Int) + (b : Int)) = (add32 a b : Nat) := by
  rw [IntKind.wrap_u32]
  unfold add32
  omega

set_option maxHeartbeats 1000000 in
theorem rotl_any (x n : Nat) (h0 : 0 < n) (hn : n < 32) (w : World) :
    Calls Tryz.prog 192 #[.int .u32 (x : Nat), .int .i64 (-(n : Int))] w fun e w' => e = .returned (.int .u32 (rot x n : Nat)) ∧ w' = w := by
  have e1 : IntKind.u64.wrap (-(n : Int)) = ((18446744073709551616 - n : Nat) : Int) := by rw [IntKind.wrap_u64]; omega
  have e2 : bits .and .u64 ((18446744073709551616 - n : Nat) : Int) 31 = ((32 - n : Nat) : Int) := by
    have h := bits_and_u64_nat (18446744073709551616 - n) 31 (by omega) (by omega)
    rw [show (18446744073709551616 - n) &&& 31 = (18446744073709551616 - n) % 32 from Nat.and_two_pow_sub_one_eq_mod _ 5, show (18446744073709551616 - n) % 32 = 32 - n from by omega] at h
    exact h
  have e3 : (32 : Int) - ((32 - n : Nat) : Int) = (n : Int) := by omega
  have e4 : IntKind.u64.wrap (n : Int) = (n : Int) := by rw [IntKind.wrap_u64]; omega
  obtain ⟨m, hm⟩ : ∃ m, m = 32 - n := ⟨_, rfl⟩
  obtain ⟨big, hbig⟩ : ∃ big, big = 18446744073709551616 - n := ⟨_, rfl⟩
  rw [← hbig] at e1 e2
  rw [← hm] at e2 e3
  have e5 : ((x : Int) * 2 ^ m % 4294967296) = ((x * 2 ^ (32 - n) % 4294967296 : Nat) : Int) := by
    rw [← hm, Int.natCast_emod, Int.natCast_mul, Int.natCast_pow]
    rfl
  have e6 : (x : Int) / 2 ^ n = ((x / 2 ^ n : Nat) : Int) := by
    rw [Int.natCast_ediv, Int.natCast_pow]
    rfl
  have e7 : bits .or .u32 ((x : Int) * 2 ^ m % 4294967296) ((x : Int) / 2 ^ n) = (rot x n : Nat) := by
    rw [e5, e6]
    exact bits_or32 _ _
  clear e5 e6 hm hbig
  go_enter Tryz.func192, Tryz.ntmps192
  go_wp2
  go_ret
  exact ⟨rfl, rfl⟩
set_option maxHeartbeats 1000000 in
theorem turn_any (x n : Nat) (h0 : 0 < n) (hn : n < 32) (w : World) :
    Calls Tryz.prog 183 #[.int .u32 (x : Nat), .int .i64 (n : Nat)] w fun e w' => e = .returned (.int .u32 (rot x n : Nat)) ∧ w' = w := by
  have e1 : IntKind.i64.wrap (0 - (n : Int)) = -(n : Int) := by rw [IntKind.wrap_i64]; omega
  have e2 : IntKind.i64.wrap (-(n : Int)) = -(n : Int) := by rw [IntKind.wrap_i64]; omega
  have K : Hid _ := rotl_any x n h0 hn
  clear h0 hn
  go_enter Tryz.func183, Tryz.ntmps183
  go_wp2_with fail
  refine (K.out _).mono ?_
  rintro e w' ⟨rfl, rfl⟩
  go_wp2
  go_ret
  exact ⟨rfl, rfl⟩
theorem turn_k (x n : Nat) (k : Int) (hk : k = (n : Nat)) (h0 : 0 < n) (hn : n < 32) (w : World) :
    Calls Tryz.prog 183 #[.int .u32 (x : Nat), .int .i64 k] w fun e w' => e = .returned (.int .u32 (rot x n : Nat)) ∧ w' = w := by
  subst hk
  exact turn_any x n h0 hn w
theorem turn_i (x : Nat) (k : Int) (h0 : 0 < k) (hn : k < 32) (w : World) :
    Calls Tryz.prog 183 #[.int .u32 (x : Nat), .int .i64 k] w fun e w' => e = .returned (.int .u32 (rot x k.toNat : Nat)) ∧ w' = w :=
  turn_k x k.toNat k (by omega) (by omega) (by omega) w
theorem wrap_mul32 (c k : Nat) : IntKind.u32.wrap ((c : Int) * (k : Int)) = ((c * k % 4294967296 : Nat) : Int) := by
  rw [IntKind.wrap_u32, Int.natCast_emod, Int.natCast_mul]
  rfl
end Go.Proofs.YtienklnigigepaaGreatDoor
