/- Several texts laid together. -/
import Derived.KernelRfl
import Derived.Test.YtchphekaonnfeaaDoorRows
import Derived.WalkKit
import Derived.WalkSpells
import Derived.WalkLawsBesides
import Derived.StillTactics
import Derived.Laws.Externs
import Derived.RowKit3
import Derived.Below
import Derived.Laws.Bits64b
import Derived.Laws.BitsAllLaws
namespace Go.Proofs.YtchphekaonnfeaaDoor

def add32 (a b : Nat) : Nat := (a + b) % 4294967296
def xor32 (a b : Nat) : Nat := (a % 4294967296) ^^^ (b % 4294967296)
def and32 (a b : Nat) : Nat := (a % 4294967296) &&& (b % 4294967296)
def or32 (a b : Nat) : Nat := (a % 4294967296) ||| (b % 4294967296)
def rot (x n : Nat) : Nat := or32 (x * 2 ^ (32 - n) % 4294967296) (x / 2 ^ n)
def rot3 (x i j k : Nat) : Nat := xor32 (xor32 (rot x i) (rot x j)) (rot x k)
def sig0 (x : Nat) : Nat := xor32 (xor32 (rot x 7) (rot x 18)) (x / 8)
def sig1 (x : Nat) : Nat := xor32 (xor32 (rot x 17) (rot x 19)) (x / 1024)
def ch (e f g : Nat) : Nat := xor32 (and32 e f) (and32 (xor32 4294967295 e) g)
def maj (a b c : Nat) : Nat := xor32 (xor32 (and32 a b) (and32 a c)) (and32 b c)
def word4 (b : Nat → Nat) (t : Nat) : Nat := or32 (or32 (or32 (b (4 * t) * 16777216 % 4294967296) (b (4 * t + 1) * 65536 % 4294967296)) (b (4 * t + 2) * 256 % 4294967296)) (b (4 * t + 3))
/-- The words W0 on, the first t of them. -/
def wl (b : Nat → Nat) : Nat → List Nat
  | 0 => []
  | t + 1 => (fun l => l ++ [if t < 16 then word4 b t else add32 (add32 (add32 (sig1 (l.getD (t - 2) 0)) (l.getD (t - 7) 0)) (sig0 (l.getD (t - 15) 0))) (l.getD (t - 16) 0)]) (wl b t)
def wAt (b : Nat → Nat) (t : Nat) : Nat := (wl b (t + 1)).getD t 0
structure E8 where
  a : Nat
  b : Nat
  c : Nat
  d : Nat
  e : Nat
  f : Nat
  g : Nat
  h : Nat
def E8.get (x : E8) : Nat → Nat
  | 0 => x.a
  | 1 => x.b
  | 2 => x.c
  | 3 => x.d
  | 4 => x.e
  | 5 => x.f
  | 6 => x.g
  | _ => x.h
def t1N (x : E8) (k w : Nat) : Nat := add32 (add32 (add32 (add32 x.h (rot3 x.e 6 11 25)) (ch x.e x.f x.g)) k) w
def t2N (x : E8) : Nat := add32 (rot3 x.a 2 13 22) (maj x.a x.b x.c)
def rnd (x : E8) (k w : Nat) : E8 := ⟨add32 (t1N x k w) (t2N x), x.a, x.b, x.c, add32 x.d (t1N x k w), x.e, x.f, x.g⟩
def cubeL : List Nat := [1116352408, 1899447441, 3049323471, 3921009573, 961987163, 1508970993, 2453635748, 2870763221, 3624381080, 310598401, 607225278, 1426881987, 1925078388, 2162078206, 2614888103, 3248222580, 3835390401, 4022224774, 264347078, 604807628, 770255983, 1249150122, 1555081692, 1996064986, 2554220882, 2821834349, 2952996808, 3210313671, 3336571891, 3584528711, 113926993, 338241895, 666307205, 773529912, 1294757372, 1396182291, 1695183700, 1986661051, 2177026350, 2456956037, 2730485921, 2820302411, 3259730800, 3345764771, 3516065817, 3600352804, 4094571909, 275423344, 430227734, 506948616, 659060556, 883997877, 958139571, 1322822218, 1537002063, 1747873779, 1955562222, 2024104815, 2227730452, 2361852424, 2428436474, 2756734187, 3204031479, 3329325298]
def cube (t : Nat) : Nat := cubeL.getD t 0
def rounds (b : Nat → Nat) (x : E8) : Nat → E8
  | 0 => x
  | t + 1 => rnd (rounds b x t) (cube t) (wAt b t)
def sum8 (x y : E8) : E8 := ⟨add32 x.a y.a, add32 x.b y.b, add32 x.c y.c, add32 x.d y.d, add32 x.e y.e, add32 x.f y.f, add32 x.g y.g, add32 x.h y.h⟩
def mixN (x : E8) (b : Nat → Nat) : E8 := sum8 x (rounds b x 64)
def init8 : E8 := ⟨1779033703, 3144134277, 1013904242, 2773480762, 1359893119, 2600822924, 528734635, 1541459225⟩
/-- Behind n whole blocks of a text. -/
def hashAt (T : Nat → Nat) : Nat → E8
  | 0 => init8
  | n + 1 => mixN (hashAt T n) (fun j => T (64 * n + j))

theorem wl_length (b : Nat → Nat) (t : Nat) : (wl b t).length = t := by
  induction t with
  | zero => rfl
  | succ t ih => simp [wl, ih]
theorem getD_left (l r : List Nat) (k : Nat) (h : k < l.length) : (l ++ r).getD k 0 = l.getD k 0 := by
  simp [List.getD, List.getElem?_append_left h]
theorem getD_snoc (l : List Nat) (x : Nat) : (l ++ [x]).getD l.length 0 = x := by
  simp [List.getD]
theorem wl_succ (b : Nat → Nat) (t : Nat) : wl b (t + 1) = wl b t ++ [if t < 16 then word4 b t else add32 (add32 (add32 (sig1 ((wl b t).getD (t - 2) 0)) ((wl b t).getD (t - 7) 0)) (sig0 ((wl b t).getD (t - 15) 0))) ((wl b t).getD (t - 16) 0)] := rfl
theorem wl_get (b : Nat → Nat) (k : Nat) : ∀ t, k < t → (wl b t).getD k 0 = wAt b k := by
  intro t
  induction t with
  | zero => intro h; omega
  | succ t ih =>
    intro h
    by_cases e : k = t
    · subst e; rfl
    · have l := wl_length b t
      rw [wl_succ, getD_left _ _ _ (by omega)]
      exact ih (by omega)
theorem wAt_last (b : Nat → Nat) (t : Nat) : wAt b t = if t < 16 then word4 b t else add32 (add32 (add32 (sig1 ((wl b t).getD (t - 2) 0)) ((wl b t).getD (t - 7) 0)) (sig0 ((wl b t).getD (t - 15) 0))) ((wl b t).getD (t - 16) 0) := by
  unfold wAt
  rw [wl_succ]
  have h := getD_snoc (wl b t) (if t < 16 then word4 b t else add32 (add32 (add32 (sig1 ((wl b t).getD (t - 2) 0)) ((wl b t).getD (t - 7) 0)) (sig0 ((wl b t).getD (t - 15) 0))) ((wl b t).getD (t - 16) 0))
  rw [wl_length] at h
  exact h
theorem wAt_low (b : Nat → Nat) (t : Nat) (h : t < 16) : wAt b t = word4 b t := by rw [wAt_last, if_pos h]
theorem wAt_high (b : Nat → Nat) (t : Nat) (h : 16 ≤ t) : wAt b t = add32 (add32 (add32 (sig1 (wAt b (t - 2))) (wAt b (t - 7))) (sig0 (wAt b (t - 15)))) (wAt b (t - 16)) := by
  rw [wAt_last, if_neg (by omega), wl_get b (t - 2) t (by omega), wl_get b (t - 7) t (by omega), wl_get b (t - 15) t (by omega), wl_get b (t - 16) t (by omega)]
end Go.Proofs.YtchphekaonnfeaaDoor

namespace Go.Proofs.YtchphekaonnfeaaDoor
open Go.RowKit

theorem ofInt32 (a : Nat) : (BitVec.ofInt 32 (a : Int)).toNat = a % 4294967296 := by
  simp
theorem wrap32_nat (n : Nat) (h : n < 4294967296) : IntKind.u32.wrap (n : Int) = (n : Int) := by rw [IntKind.wrap_u32]; omega
theorem bits_xor32 (a b : Nat) : bits .xor .u32 (a : Int) (b : Int) = (xor32 a b : Nat) := by
  show IntKind.u32.wrap ((BitVec.ofInt 32 (a : Int) ^^^ BitVec.ofInt 32 (b : Int)).toNat : Int) = _
  rw [BitVec.toNat_xor, ofInt32, ofInt32]
  exact wrap32_nat _ (Nat.xor_lt_two_pow (n := 32) (Nat.mod_lt _ (by decide)) (Nat.mod_lt _ (by decide)))
theorem bits_and32 (a b : Nat) : bits .and .u32 (a : Int) (b : Int) = (and32 a b : Nat) := by
  show IntKind.u32.wrap ((BitVec.ofInt 32 (a : Int) &&& BitVec.ofInt 32 (b : Int)).toNat : Int) = _
  rw [BitVec.toNat_and, ofInt32, ofInt32]
  exact wrap32_nat _ (Nat.and_lt_two_pow (n := 32) _ (Nat.mod_lt _ (by decide)))
theorem bits_or32 (a b : Nat) : bits .or .u32 (a : Int) (b : Int) = (or32 a b : Nat) := by
  show IntKind.u32.wrap ((BitVec.ofInt 32 (a : Int) ||| BitVec.ofInt 32 (b : Int)).toNat : Int) = _
  rw [BitVec.toNat_or, ofInt32, ofInt32]
  exact wrap32_nat _ (Nat.or_lt_two_pow (n := 32) (Nat.mod_lt _ (by decide)) (Nat.mod_lt _ (by decide)))
theorem bits_not32 (a : Nat) : bits .xor .u32 4294967295 (a : Int) = (xor32 4294967295 a : Nat) := bits_xor32 4294967295 a
theorem bits_not32' (a : Nat) : bits .xor .u32 IntKind.u32.max (a : Int) = (xor32 4294967295 a : Nat) := bits_xor32 4294967295 a
theorem wrap_add32 (a b : Nat) : IntKind.u32.wrap ((a : Int) + (b : Int)) = (add32 a b : Nat) := by
  rw [IntKind.wrap_u32]
  unfold add32
  omega

set_option maxHeartbeats 1000000 in
theorem rotl_any (x n : Nat) (h0 : 0 < n) (hn : n < 32) (w : World) :
    Calls Tryd.prog 86 #[.int .u32 (x : Nat), .int .i64 (-(n : Int))] w fun e w' => e = .returned (.int .u32 (rot x n : Nat)) ∧ w' = w := by
  have e1 : IntKind.u64.wrap (-(n : Int)) = ((18446744073709551616 - n : Nat) : Int) := by rw [IntKind.wrap_u64]; omega
  have e2 : bits .and .u64 ((18446744073709551616 - n : Nat) : Int) 31 = ((32 - n : Nat) : Int) := by
    have h := bits_and_u64_nat (18446744073709551616 - n) 31 (by omega) (by omega)
    rw [show (18446744073709551616 - n) &&& 31 = (18446744073709551616 - n) % 32 from Nat.and_two_pow_sub_one_eq_mod _ 5, show (18446744073709551616 - n) % 32 = 32 - n from by omega] at h
    exact h
  have e3 : (32 : Int) - ((32 - n : Nat) : Int) = (n : Int) := by omega
  have e4 : IntKind.u64.wrap (n : Int) = (n : Int) := by rw [IntKind.wrap_u64]; omega
  obtain ⟨m, hm⟩ : ∃ m, m = 32 - n := ⟨_, rfl⟩
  obtain ⟨big, hbig⟩ : ∃ big, big = 18446744073709551616 - n := ⟨_, rfl⟩
  rw [← hbig] at e1 e2
  rw [← hm] at e2 e3
  have e5 : ((x : Int) * 2 ^ m % 4294967296) = ((x * 2 ^ (32 - n) % 4294967296 : Nat) : Int) := by
    rw [← hm, Int.natCast_emod, Int.natCast_mul, Int.natCast_pow]
    rfl
  have e6 : (x : Int) / 2 ^ n = ((x / 2 ^ n : Nat) : Int) := by
    rw [Int.natCast_ediv, Int.natCast_pow]
    rfl
  have e7 : bits .or .u32 ((x : Int) * 2 ^ m % 4294967296) ((x : Int) / 2 ^ n) = (rot x n : Nat) := by
    rw [e5, e6]
    exact bits_or32 _ _
  clear e5 e6 hm hbig
  go_enter Tryd.func86, Tryd.ntmps86
  go_wp2
  go_ret
  exact ⟨rfl, rfl⟩
set_option maxHeartbeats 1000000 in
theorem turn_any (x n : Nat) (h0 : 0 < n) (hn : n < 32) (w : World) :
    Calls Tryd.prog 84 #[.int .u32 (x : Nat), .int .i64 (n : Nat)] w fun e w' => e = .returned (.int .u32 (rot x n : Nat)) ∧ w' = w := by
  have e1 : IntKind.i64.wrap (0 - (n : Int)) = -(n : Int) := by rw [IntKind.wrap_i64]; omega
  have e2 : IntKind.i64.wrap (-(n : Int)) = -(n : Int) := by rw [IntKind.wrap_i64]; omega
  have K : Hid _ := rotl_any x n h0 hn
  clear h0 hn
  go_enter Tryd.func84, Tryd.ntmps84
  go_wp2_with fail
  refine (K.out _).mono ?_
  rintro e w' ⟨rfl, rfl⟩
  go_wp2
  go_ret
  exact ⟨rfl, rfl⟩
theorem turn_k (x n : Nat) (k : Int) (hk : k = (n : Nat)) (h0 : 0 < n) (hn : n < 32) (w : World) :
    Calls Tryd.prog 84 #[.int .u32 (x : Nat), .int .i64 k] w fun e w' => e = .returned (.int .u32 (rot x n : Nat)) ∧ w' = w := by
  subst hk
  exact turn_any x n h0 hn w
theorem turn_i (x : Nat) (k : Int) (h0 : 0 < k) (hn : k < 32) (w : World) :
    Calls Tryd.prog 84 #[.int .u32 (x : Nat), .int .i64 k] w fun e w' => e = .returned (.int .u32 (rot x k.toNat : Nat)) ∧ w' = w :=
  turn_k x k.toNat k (by omega) (by omega) (by omega) w
theorem wrap_mul32 (c k : Nat) : IntKind.u32.wrap ((c : Int) * (k : Int)) = ((c * k % 4294967296 : Nat) : Int) := by
  rw [IntKind.wrap_u32, Int.natCast_emod, Int.natCast_mul]
  rfl
end Go.Proofs.YtchphekaonnfeaaDoor

namespace Go.Proofs.YtchphekaonnfeaaDoor
open Go.RowKit

end Go.Proofs.YtchphekaonnfeaaDoor
