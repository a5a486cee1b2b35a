/- The reference's turned words: wardmoteref04.s and three. -/
import Derived.Test.YtdnahobafhelhaaDoorMgC
namespace Go.Proofs.YtdnahobafhelhaaDoor
open Go.RowKit

theorem rot_split (x n : Nat) (hn : n < 32) (h0 : 0 < n) (hx : x < 4294967296) : rot x n = x / 2 ^ n + x % 2 ^ n * 2 ^ (32 - n) := by
  have hp : 0 < 2 ^ n := Nat.pow_pos (by decide)
  have e32 : 2 ^ n * 2 ^ (32 - n) = 4294967296 := by rw [← Nat.pow_add, show n + (32 - n) = 32 from by omega]
  have e1 : x * 2 ^ (32 - n) % 4294967296 = x % 2 ^ n * 2 ^ (32 - n) := by
    rw [← e32, Nat.mul_mod_mul_right]
  have hq : x / 2 ^ n < 2 ^ (32 - n) := by
    rw [Nat.div_lt_iff_lt_mul hp, Nat.mul_comm, e32]
    exact hx
  have h1 : x % 2 ^ n * 2 ^ (32 - n) < 4294967296 := by
    rw [← e32]
    exact Nat.mul_lt_mul_of_pos_right (Nat.mod_lt _ hp) (Nat.pow_pos (by decide))
  have h2 : x / 2 ^ n < 4294967296 := Nat.lt_of_le_of_lt (Nat.div_le_self _ _) hx
  unfold rot or32
  rw [e1, Nat.mod_eq_of_lt h1, Nat.mod_eq_of_lt h2]
  have h := Nat.shiftLeft_add_eq_or_of_lt hq (x % 2 ^ n)
  rw [Nat.shiftLeft_eq] at h
  rw [← h, Nat.add_comm]
theorem rot_lt (x n : Nat) : rot x n < 4294967296 := or32_lt _ _
theorem bits_i64 (a b : Nat) (ha : a < 4294967296) (hb : b < 4294967296) : bits .xor .i64 (a : Int) (b : Int) = (xor32 a b : Nat) ∧ bits .and .i64 (a : Int) (b : Int) = (and32 a b : Nat) := by
  have hk : ∀ n : Int, 0 ≤ n → n < 2 ^ 32 → IntKind.i64.wrap n = n := fun n h0 h1 => by rw [IntKind.wrap_i64]; omega
  have e : ∀ c : Nat, c < 4294967296 → (BitVec.ofInt 64 (c : Int)).toNat = c := fun c hc => by simp; omega
  constructor
  · show IntKind.i64.wrap ((BitVec.ofInt 64 (a : Int) ^^^ BitVec.ofInt 64 (b : Int)).toNat : Int) = _
    rw [BitVec.toNat_xor, e a ha, e b hb]
    unfold xor32
    rw [Nat.mod_eq_of_lt ha, Nat.mod_eq_of_lt hb]
    have : a ^^^ b < 2 ^ 32 := Nat.xor_lt_two_pow (n := 32) ha hb
    exact hk _ (by omega) (by omega)
  · show IntKind.i64.wrap ((BitVec.ofInt 64 (a : Int) &&& BitVec.ofInt 64 (b : Int)).toNat : Int) = _
    rw [BitVec.toNat_and, e a ha, e b hb]
    unfold and32
    rw [Nat.mod_eq_of_lt ha, Nat.mod_eq_of_lt hb]
    have : a &&& b < 2 ^ 32 := Nat.and_lt_two_pow (n := 32) _ hb
    exact hk _ (by omega) (by omega)

set_option maxHeartbeats 1000000 in
theorem s4_any (x n : Nat) (hx : x < 4294967296) (h0 : 0 < n) (hn : n < 32) (k : Int) (hk : k = (n : Nat)) (w : World) :
    Calls Tryd.prog 43 #[.int .i64 (x : Nat), .int .i64 k] w fun e w' => e = .returned (.int .i64 (rot x n : Nat)) ∧ w' = w := by
  have hr := rot_split x n hn h0 hx
  have rl := rot_lt x n
  obtain ⟨p, hp⟩ : ∃ p, p = 2 ^ n := ⟨_, rfl⟩
  obtain ⟨m, hm⟩ : ∃ m, m = 32 - n := ⟨_, rfl⟩
  obtain ⟨q, hq⟩ : ∃ q, q = 2 ^ m := ⟨_, rfl⟩
  obtain ⟨l, hl⟩ : ∃ l, l = x % p := ⟨_, rfl⟩
  obtain ⟨d, hd⟩ : ∃ d, d = x / p := ⟨_, rfl⟩
  obtain ⟨lq, hlq⟩ : ∃ z, z = l * q := ⟨_, rfl⟩
  have p1 : 0 < p := by rw [hp]; exact Nat.pow_pos (by decide)
  have p2 : p < 4294967296 := by rw [hp]; exact (Nat.pow_lt_pow_right (by decide) hn : (2 : Nat) ^ n < 2 ^ 32)
  have q2 : q < 4294967296 := by rw [hq]; exact (Nat.pow_lt_pow_right (by decide) (by omega) : (2 : Nat) ^ m < 2 ^ 32)
  have e1 : (2 : Int) ^ n = (p : Nat) := by rw [hp, Int.natCast_pow]; rfl
  have e2 : (32 : Int) - (n : Int) = (m : Nat) := by omega
  have e3 : (2 : Int) ^ m = (q : Nat) := by rw [hq, Int.natCast_pow]; rfl
  have e4 : IntKind.i64.wrap (p : Int) = (p : Nat) := by rw [IntKind.wrap_i64]; omega
  have e5 : IntKind.i64.wrap (q : Int) = (q : Nat) := by rw [IntKind.wrap_i64]; omega
  have e6 : (x : Int).tmod (p : Int) = (l : Nat) := by rw [Int.tmod_eq_emod_of_nonneg (by omega), hl, Int.natCast_emod]
  have e7 : (x : Int).tdiv (p : Int) = (d : Nat) := by rw [Int.tdiv_eq_ediv_of_nonneg (by omega), hd, Int.natCast_ediv]
  have e8 : (l : Int) * (q : Int) = (lq : Nat) := by rw [hlq, Int.natCast_mul]
  have hsum : d + lq = rot x n := by rw [hr, hlq, hd, hl, hq, hm, hp]
  have e9 : (d : Int) + (lq : Int) = (rot x n : Nat) := by omega
  have e10 : IntKind.i64.wrap (lq : Int) = (lq : Nat) := by rw [IntKind.wrap_i64]; omega
  have e11 : IntKind.i64.wrap (d : Int) = (d : Nat) := by rw [IntKind.wrap_i64]; omega
  have e12 : IntKind.u64.wrap (n : Int) = (n : Nat) := by rw [IntKind.wrap_u64]; omega
  have e13 : IntKind.u64.wrap (m : Int) = (m : Nat) := by rw [IntKind.wrap_u64]; omega
  have p3 : ¬ ((p : Int) = 0) := by omega
  have e14 : IntKind.i64.wrap (rot x n : Int) = (rot x n : Nat) := by rw [IntKind.wrap_i64]; omega
  obtain ⟨R, hR⟩ : ∃ R, R = rot x n := ⟨_, rfl⟩
  rw [← hR] at e9 e14 ⊢
  subst hk
  clear hr rl hp hm hq hl hd hlq hsum hR
  go_enter Tryd.func43, Tryd.ntmps43
  go_wp2
  go_ret
  exact ⟨rfl, rfl⟩
set_option maxHeartbeats 1000000 in
theorem three_any (x i j k : Nat) (hx : x < 4294967296) (i0 : 0 < i) (i1 : i < 32) (j0 : 0 < j) (j1 : j < 32) (k0 : 0 < k) (k1 : k < 32) (ki kj kk : Int) (ei : ki = (i : Nat)) (ej : kj = (j : Nat)) (ek : kk = (k : Nat)) (w : World) :
    Calls Tryd.prog 44 #[.int .i64 (x : Nat), .int .i64 ki, .int .i64 kj, .int .i64 kk] w fun e w' => e = .returned (.int .i64 (rot3 x i j k : Nat)) ∧ w' = w := by
  have K1 : Hid _ := fun w => s4_any x i hx i0 i1 ki ei w
  have K2 : Hid _ := fun w => s4_any x j hx j0 j1 kj ej w
  have K3 : Hid _ := fun w => s4_any x k hx k0 k1 kk ek w
  have b1 := (bits_i64 _ _ (rot_lt x i) (rot_lt x j)).1
  have b2 := (bits_i64 _ _ (xor32_lt (rot x i) (rot x j)) (rot_lt x k)).1
  have HR : Hid (xor32 (xor32 (rot x i) (rot x j)) (rot x k) = rot3 x i j k) := rfl
  clear i0 i1 j0 j1 k0 k1 ei ej ek hx
  go_enter Tryd.func44, Tryd.ntmps44
  go_wp2_with fail
  refine (K1.out _).mono ?_
  rintro e w1 ⟨rfl, rfl⟩
  go_wp2_with fail
  refine (K2.out _).mono ?_
  rintro e w1 ⟨rfl, rfl⟩
  go_wp2_with fail
  refine (K3.out _).mono ?_
  rintro e w1 ⟨rfl, rfl⟩
  go_wp2_with fail
  go_ret
  exact ⟨by rw [← HR.out]; rfl, rfl⟩
end Go.Proofs.YtdnahobafhelhaaDoor
