/- The numbers that bytes are: parcel.joined. -/
import Derived.Test.YtadcjdffjhiniaaRowI
import Derived.Test.YtadcjdffjhiniaaPiN
namespace Go.Proofs.Ytadcjdffjhiniaa
open Go Go.RowKit Go.Lib

theorem bits_oru64 (a b : Nat) (ha : a < 18446744073709551616) (hb : b < 18446744073709551616) : bits .or .u64 (a : Int) (b : Int) = ((a ||| b : Nat) : Int) := by
  show IntKind.u64.wrap ((BitVec.ofInt 64 (a : Int) ||| BitVec.ofInt 64 (b : Int)).toNat : Int) = _
  have h : a ||| b < 2 ^ 64 := Nat.or_lt_two_pow (n := 64) ha hb
  rw [BitVec.toNat_or]
  have ea : (BitVec.ofInt 64 (a : Int)).toNat = a := by simp; omega
  have eb : (BitVec.ofInt 64 (b : Int)).toNat = b := by simp; omega
  rw [ea, eb, IntKind.wrap_u64]
  omega
theorem or_byte (v : Nat) (y : UInt8) (hv : v < 72057594037927936) : bits .or .u64 ((v : Int) * 256) (y.toNat : Int) = ((256 * v + y.toNat : Nat) : Int) := by
  have hy := y.toNat_lt
  have e : (v : Int) * 256 = ((v * 256 : Nat) : Int) := by omega
  rw [e, bits_oru64 _ _ (by omega) (by omega)]
  have h := Nat.shiftLeft_add_eq_or_of_lt (i := 8) (b := y.toNat) hy v
  rw [Nat.shiftLeft_eq] at h
  have h' : v * 256 ||| y.toNat = v * 256 + y.toNat := h.symm
  rw [h']
  omega
theorem take_snocB (s : ByteArray) (k : Nat) (h : k < s.size) : s.data.toList.take (k + 1) = s.data.toList.take k ++ [s[k]] := by
  rw [List.take_succ_eq_append_getElem (by rw [ba_len]; exact h)]; rfl
set_option maxRecDepth 100000 in
set_option maxHeartbeats 2000000 in
theorem joined_any (s : ByteArray) (hs : s.size ≤ 8) (w : World) :
    Calls Try.prog 48 #[.string s] w fun e w' => e = .returned (.int .u64 (joinN s.data.toList : Nat)) ∧ w' = w := by
  obtain ⟨n, hn⟩ : ∃ n, n = s.size := ⟨_, rfl⟩
  have n8 : (n : Int) ≤ 8 := by omega
  have ez : (s.size : Int) = (n : Int) := by omega
  have HS : Hid (n = s.size ∧ s.size ≤ 8) := ⟨hn, hs⟩
  clear hn hs
  go_enter Try.func48, Try.ntmps48
  go_wp2_with fail
  go_loop [3, 7] (fun ov iv => ∃ k : Nat, k ≤ n ∧ iv = .int .i64 (k : Nat) ∧ ov = .int .u64 (joinN (s.data.toList.take k) : Nat)) (fun _ iv => n - (Go.RowKit.intOf iv).toNat)
  case atStart => exact ⟨0, Nat.zero_le _, rfl, rfl⟩
  case round =>
    obtain ⟨k, hk, rfl, rfl⟩ := hrel
    by_cases hlt : k < n
    · have hlt' : (k : Int) < (n : Int) := Int.ofNat_lt.2 hlt
      have hks : k < s.size := by rw [← HS.out.1]; exact hlt
      obtain ⟨b, hb⟩ : ∃ b, b = s[k] := ⟨_, rfl⟩
      have bx : ∀ h, (s[k]'h) = b := fun _ => hb.symm
      obtain ⟨v, hv⟩ : ∃ v, v = joinN (s.data.toList.take k) := ⟨_, rfl⟩
      have hvb : v < 72057594037927936 := by
        have h1 := joinN_lt (s.data.toList.take k)
        rw [List.length_take, ba_len, ← hv] at h1
        have h2 : min k s.size = k := by omega
        rw [h2] at h1
        have h3 : (256 : Nat) ^ k ≤ 256 ^ 7 := Nat.pow_le_pow_right (by decide) (by have := HS.out.2; omega)
        have h4 : (256 : Nat) ^ 7 = 72057594037927936 := by decide
        omega
      rw [← hv]
      obtain ⟨u, hu⟩ : ∃ u, u = 256 * v + b.toNat := ⟨_, rfl⟩
      have hor : bits .or .u64 ((v : Int) * 256) (b.toNat : Int) = (u : Nat) := by rw [hu]; exact or_byte v b hvb
      have vb : (v : Int) < 72057594037927936 := by omega
      have bb : (b.toNat : Int) < 256 := by have := b.toNat_lt; omega
      have HN : Hid (u = joinN (s.data.toList.take (k + 1))) := by
        rw [take_snocB s k hks, joinN_snoc, ← hv, ← hb]; exact hu
      clear hv hvb hu hb
      go_wp2_with fail
      go_round
      case rel => exact ⟨k + 1, by omega, by go_num, by rw [← HN.out]⟩
      case measure => simp [Go.RowKit.intOf]; omega
    · obtain rfl : k = n := by omega
      have hnl : ¬ ((k : Int) < (k : Int)) := Int.lt_irrefl _
      have et : s.data.toList.take k = s.data.toList := List.take_of_length_le (by rw [ba_len, ← HS.out.1]; exact Nat.le_refl _)
      rw [et]
      clear hlt hk et
      go_wp2_with fail
      go_ret
      exact ⟨rfl, rfl⟩
end Go.Proofs.Ytadcjdffjhiniaa
