/- limb.inverse: what an odd number times it is 1 mod 2^64. -/
import Derived.Test.YtaigpginoakdfaaMontN
import Derived.Test.YtaigpginoakdfaaHold
namespace Go.Proofs.Ytaigpginoakdfaa
open Go.RowKit

theorem inv_wrap (o x p s y : Nat) (hp : p = o * x % M64) (hs : s = (2 + M64 - p) % M64) (hy : y = x * s % M64) : ∃ q : Int, (y : Int) = x * (2 - o * x) + q * 2 ^ 64 := by
  have e1 := Nat.mod_add_div (o * x) M64
  have e2 := Nat.mod_add_div (2 + M64 - p) M64
  have e3 := Nat.mod_add_div (x * s) M64
  have pl : p < M64 := by rw [hp]; exact Nat.mod_lt _ M64_pos
  rw [← hp] at e1
  rw [← hs] at e2
  rw [← hy] at e3
  generalize o * x / M64 = a at *
  generalize (2 + M64 - p) / M64 = b at *
  generalize x * s / M64 = c at *
  have i1 : ((p + M64 * a : Nat) : Int) = (o : Int) * x := by rw [e1, Int.natCast_mul]
  have i3 : ((y + M64 * c : Nat) : Int) = (x : Int) * s := by rw [e3, Int.natCast_mul]
  have i2 : (s : Int) = 2 - (o : Int) * x + M64 * (1 + a - b) := by
    rw [← i1]
    unfold M64 at *
    omega
  refine ⟨x * (1 + a - b) - c, ?_⟩
  have e4 : (y : Int) = (x : Int) * s - (M64 : Int) * c := by
    rw [← i3]
    unfold M64
    omega
  have p64 : (2 : Int) ^ 64 = (M64 : Int) := by decide
  rw [e4, i2, p64, Int.mul_add, Int.sub_mul, Int.mul_comm (c : Int), Int.mul_left_comm, Int.mul_comm ((x : Int) * _) (M64 : Int), ← Int.mul_assoc]
  omega

theorem wrapU (n : Nat) : IntKind.u64.wrap (n : Int) = ((n % M64 : Nat) : Int) := by rw [IntKind.wrap_u64]; unfold M64; omega

set_option maxHeartbeats 1000000 in
theorem inverse_any (o : Nat) (ho : o < M64) (h1 : o % 2 = 1) (w : World) :
    Calls Try.prog 46 #[.int .u64 o] w fun e w' => ∃ x : Nat, e = .returned (.int .u64 x) ∧ x < M64 ∧ invAt o x 64 ∧ w' = w := by
  have HO : Hid _ := inv_start o h1
  clear h1
  go_enter Try.func46, Try.ntmps46
  go_wp2_with fail
  go_loopw [3, 4] (fun x r wr => ∃ (rr xx : Nat), (rr = 3 ∨ rr = 6 ∨ rr = 12 ∨ rr = 24 ∨ rr = 48 ∨ rr = 96) ∧ r = .int .i64 rr ∧ x = .int .u64 xx ∧ xx < M64 ∧ invAt o xx (min rr 64) ∧ wr = w)
    (fun _ r _ => 96 - (intOf r).toNat)
  case atStart => exact ⟨3, o, by omega, rfl, rfl, ho, HO.out, rfl⟩
  case round =>
    obtain ⟨rr, x, hr, rfl, rfl, hx, hinv, rfl⟩ := hrel
    obtain ⟨p, hp⟩ : ∃ p, p = o * x % M64 := ⟨_, rfl⟩
    obtain ⟨s, hs⟩ : ∃ s, s = (2 + M64 - p) % M64 := ⟨_, rfl⟩
    obtain ⟨y, hy⟩ : ∃ y, y = x * s % M64 := ⟨_, rfl⟩
    have e1 : IntKind.u64.wrap ((o : Int) * (x : Int)) = (p : Nat) := by rw [← Int.natCast_mul, wrapU, ← hp]
    have e2 : IntKind.u64.wrap (2 - (p : Int)) = (s : Nat) := by
      have pl : p < M64 := by rw [hp]; exact Nat.mod_lt _ M64_pos
      rw [hs, IntKind.wrap_u64]
      unfold M64 at *
      omega
    have e3 : IntKind.u64.wrap ((x : Int) * (s : Int)) = (y : Nat) := by rw [← Int.natCast_mul, wrapU, ← hy]
    have yl : y < M64 := by rw [hy]; exact Nat.mod_lt _ M64_pos
    obtain ⟨q, hq⟩ := inv_wrap o x p s y hp hs hy
    have H : Hid (∀ r2, r2 ≤ 64 → invAt o x r2 → invAt o y (min (2 * r2) 64)) := fun r2 h2 h => inv_step o x r2 y q h h2 hq
    have HI : Hid _ := hinv
    have HL : Hid _ := And.intro hx yl
    clear hq hp hs hy hinv hx yl
    rcases hr with rfl | rfl | rfl | rfl | rfl | rfl
    · go_wp2_with fail
      go_roundw
      case rel => exact ⟨6, y, by omega, rfl, rfl, HL.out.2, H.out 3 (by omega) HI.out, by first | rfl | trivial⟩
      case measure => simp [intOf]
    · go_wp2_with fail
      go_roundw
      case rel => exact ⟨12, y, by omega, rfl, rfl, HL.out.2, H.out 6 (by omega) HI.out, by first | rfl | trivial⟩
      case measure => simp [intOf]
    · go_wp2_with fail
      go_roundw
      case rel => exact ⟨24, y, by omega, rfl, rfl, HL.out.2, H.out 12 (by omega) HI.out, by first | rfl | trivial⟩
      case measure => simp [intOf]
    · go_wp2_with fail
      go_roundw
      case rel => exact ⟨48, y, by omega, rfl, rfl, HL.out.2, H.out 24 (by omega) HI.out, by first | rfl | trivial⟩
      case measure => simp [intOf]
    · go_wp2_with fail
      go_roundw
      case rel => exact ⟨96, y, by omega, rfl, rfl, HL.out.2, H.out 48 (by omega) HI.out, by first | rfl | trivial⟩
      case measure => simp [intOf]
    · go_wp2_with fail
      go_ret
      exact ⟨x, rfl, HL.out.1, HI.out, rfl⟩
end Go.Proofs.Ytaigpginoakdfaa
