/- The sum SHA-256, over natural numbers: what the program's words are, operation by operation. -/
import Derived.KernelRfl
namespace Go.Proofs.YtienklnigigepaaGreatDoor

def add32 (a b : Nat) : Nat := (a + b) % 4294967296
def xor32 (a b : Nat) : Nat := (a % 4294967296) ^^^ (b % 4294967296)
def and32 (a b : Nat) : Nat := (a % 4294967296) &&& (b % 4294967296)
def or32 (a b : Nat) : Nat := (a % 4294967296) ||| (b % 4294967296)
def rot (x n : Nat) : Nat := or32 (x * 2 ^ (32 - n) % 4294967296) (x / 2 ^ n)
def rot3 (x i j k : Nat) : Nat := xor32 (xor32 (rot x i) (rot x j)) (rot x k)
def sig0 (x : Nat) : Nat := xor32 (xor32 (rot x 7) (rot x 18)) (x / 8)
def sig1 (x : Nat) : Nat := xor32 (xor32 (rot x 17) (rot x 19)) (x / 1024)
def ch (e f g : Nat) : Nat := xor32 (and32 e f) (and32 (xor32 4294967295 e) g)
def maj (a b c : Nat) : Nat := xor32 (xor32 (and32 a b) (and32 a c)) (and32 b c)
def word4 (b : Nat → Nat) (t : Nat) : Nat := or32 (or32 (or32 (b (4 * t) * 16777216 % 4294967296) (b (4 * t + 1) * 65536 % 4294967296)) (b (4 * t + 2) * 256 % 4294967296)) (b (4 * t + 3))
/-- The words W0 on, the first t of them. -/
def wl (b : Nat → Nat) : Nat → List Nat
  | 0 => []
  | t + 1 => (fun l => l ++ [if t < 16 then word4 b t else add32 (add32 (add32 (sig1 (l.getD (t - 2) 0)) (l.getD (t - 7) 0)) (sig0 (l.getD (t - 15) 0))) (l.getD (t - 16) 0)]) (wl b t)
def wAt (b : Nat → Nat) (t : Nat) : Nat := (wl b (t + 1)).getD t 0
structure E8 where
  a : Nat
  b : Nat
  c : Nat
  d : Nat
  e : Nat
  f : Nat
  g : Nat
  h : Nat
def E8.get (x : E8) : Nat → Nat
  | 0 => x.a
  | 1 => x.b
  | 2 => x.c
  | 3 => x.d
  | 4 => x.e
  | 5 => x.f
  | 6 => x.g
  | _ => x.h
def t1N (x : E8) (k w : Nat) : Nat := add32 (add32 (add32 (add32 x.h (rot3 x.e 6 11 25)) (ch x.e x.f x.g)) k) w
def t2N (x : E8) : Nat := add32 (rot3 x.a 2 13 22) (maj x.a x.b x.c)
def rnd (x : E8) (k w : Nat) : E8 := ⟨add32 (t1N x k w) (t2N x), x.a, x.b, x.c, add32 x.d (t1N x k w), x.e, x.f, x.g⟩
def cubeL : List Nat := [1116352408, 1899447441, 3049323471, 3921009573, 961987163, 1508970993, 2453635748, 2870763221, 3624381080, 310598401, 607225278, 1426881987, 1925078388, 2162078206, 2614888103, 3248222580, 3835390401, 4022224774, 264347078, 604807628, 770255983, 1249150122, 1555081692, 1996064986, 2554220882, 2821834349, 2952996808, 3210313671, 3336571891, 3584528711, 113926993, 338241895, 666307205, 773529912, 1294757372, 1396182291, 1695183700, 1986661051, 2177026350, 2456956037, 2730485921, 2820302411, 3259730800, 3345764771, 3516065817, 3600352804, 4094571909, 275423344, 430227734, 506948616, 659060556, 883997877, 958139571, 1322822218, 1537002063, 1747873779, 1955562222, 2024104815, 2227730452, 2361852424, 2428436474, 2756734187, 3204031479, 3329325298]
def cube (t : Nat) : Nat := cubeL.getD t 0
def rounds (b : Nat → Nat) (x : E8) : Nat → E8
  | 0 => x
  | t + 1 => rnd (rounds b x t) (cube t) (wAt b t)
def sum8 (x y : E8) : E8 := ⟨add32 x.a y.a, add32 x.b y.b, add32 x.c y.c, add32 x.d y.d, add32 x.e y.e, add32 x.f y.f, add32 x.g y.g, add32 x.h y.h⟩
def mixN (x : E8) (b : Nat → Nat) : E8 := sum8 x (rounds b x 64)
def init8 : E8 := ⟨1779033703, 3144134277, 1013904242, 2773480762, 1359893119, 2600822924, 528734635, 1541459225⟩
/-- Behind n whole blocks of a text. -/
def hashAt (T : Nat → Nat) : Nat → E8
  | 0 => init8
  | n + 1 => mixN (hashAt T n) (fun j => T (64 * n + j))

theorem wl_length (b : Nat → Nat) (t : Nat) : (wl b t).length = t := by
  induction t with
  | zero => rfl
  | succ t ih => simp [wl, ih]
theorem getD_left (l r : List Nat) (k : Nat) (h : k < l.length) : (l ++ r).getD k 0 = l.getD k 0 := by
  simp [List.getD, List.getElem?_append_left h]
theorem getD_snoc (l : List Nat) (x : Nat) : (l ++ [x]).getD l.length 0 = x := by
  simp [List.getD]
theorem wl_succ (b : Nat → Nat) (t : Nat) : wl b (t + 1) = wl b t ++ [if t < 16 then word4 b t else add32 (add32 (add32 (sig1 ((wl b t).getD (t - 2) 0)) ((wl b t).getD (t - 7) 0)) (sig0 ((wl b t).getD (t - 15) 0))) ((wl b t).getD (t - 16) 0)] := rfl
theorem wl_get (b : Nat → Nat) (k : Nat) : ∀ t, k < t → (wl b t).getD k 0 = wAt b k := by
  intro t
  induction t with
  | zero => intro h; omega
  | succ t ih =>
    intro h
    by_cases e : k = t
    · subst e; rfl
    · have l := wl_length b t
      rw [wl_succ, getD_left _ _ _ (by omega)]
      exact ih (by omega)
theorem wAt_last (b : Nat → Nat) (t : Nat) : wAt b t = if t < 16 then word4 b t else add32 (add32 (add32 (sig1 ((wl b t).getD (t - 2) 0)) ((wl b t).getD (t - 7) 0)) (sig0 ((wl b t).getD (t - 15) 0))) ((wl b t).getD (t - 16) 0) := by
  unfold wAt
  rw [wl_succ]
  have h := getD_snoc (wl b t) (if t < 16 then word4 b t else add32 (add32 (add32 (sig1 ((wl b t).getD (t - 2) 0)) ((wl b t).getD (t - 7) 0)) (sig0 ((wl b t).getD (t - 15) 0))) ((wl b t).getD (t - 16) 0))
  rw [wl_length] at h
  exact h
theorem wAt_low (b : Nat → Nat) (t : Nat) (h : t < 16) : wAt b t = word4 b t := by rw [wAt_last, if_pos h]
theorem wAt_high (b : Nat → Nat) (t : Nat) (h : 16 ≤ t) : wAt b t = add32 (add32 (add32 (sig1 (wAt b (t - 2))) (wAt b (t - 7))) (sig0 (wAt b (t - 15)))) (wAt b (t - 16)) := by
  rw [wAt_last, if_neg (by omega), wl_get b (t - 2) t (by omega), wl_get b (t - 7) t (by omega), wl_get b (t - 15) t (by omega), wl_get b (t - 16) t (by omega)]
theorem xor32_lt (a b : Nat) : xor32 a b < 4294967296 := Nat.xor_lt_two_pow (n := 32) (Nat.mod_lt _ (by decide)) (Nat.mod_lt _ (by decide))
theorem or32_lt (a b : Nat) : or32 a b < 4294967296 := Nat.or_lt_two_pow (n := 32) (Nat.mod_lt _ (by decide)) (Nat.mod_lt _ (by decide))
theorem and32_lt (a b : Nat) : and32 a b < 4294967296 := Nat.and_lt_two_pow (n := 32) _ (Nat.mod_lt _ (by decide))
theorem add32_lt (a b : Nat) : add32 a b < 4294967296 := Nat.mod_lt _ (by decide)
theorem wAt_lt (b : Nat → Nat) (t : Nat) : wAt b t < 4294967296 := by
  by_cases h : t < 16
  · rw [wAt_low b t h]; exact or32_lt _ _
  · rw [wAt_high b t (by omega)]; exact add32_lt _ _
/-- The sum's bytes of the text "abc", by the plain functions. -/
def abcT (j : Nat) : Nat := [97, 98, 99, 128].getD j (if j = 63 then 24 else 0)
def abcH : E8 := hashAt abcT 1
set_option maxRecDepth 100000 in
theorem abc_hash : abcH = ⟨3128432319, 2399260650, 1094795486, 1571693091, 2953011619, 2518121116, 3021012833, 4060091821⟩ := by kernel_rfl
end Go.Proofs.YtienklnigigepaaGreatDoor
