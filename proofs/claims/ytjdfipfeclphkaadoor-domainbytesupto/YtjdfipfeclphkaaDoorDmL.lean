/- large: are parts more than are hashed here? (Where their sum is an int.) -/
import Derived.Test.YtjdfipfeclphkaaDoorMgC
namespace Go.Proofs.YtjdfipfeclphkaaDoor
open Go Go.RowKit Go.Lib

def largeB (l : List ByteArray) (t : ByteArray) : Bool := decide (20000 < t.size + bytesN l)
set_option maxRecDepth 100000 in
set_option maxHeartbeats 4000000 in
theorem large_any (t : ByteArray) (a : Option Addr) (l : List ByteArray) (cap : Nat) (hb : t.size + bytesN l + l.length < 1152921504606846976) (w : World) (hS : Strs w a l) :
    Calls Tryd.prog 6 #[.slice a l.length cap, .string t] w fun e w' => e = .returned (.bool (largeB l t)) ∧ Below w.heap.size w w' := by
  obtain ⟨n, hn⟩ : ∃ n, n = l.length := ⟨_, rfl⟩
  rw [← hn]
  have hn60 : (n : Int) < 1152921504606846976 := by omega
  have ht60 : (t.size : Int) < 1152921504606846976 := by omega
  have HS : Hid (Strs w a l ∧ t.size + bytesN l < 1152921504606846976 ∧ n = l.length) := ⟨hS, by omega, hn⟩
  obtain ⟨D, hD⟩ : ∃ D, D = largeB l t := ⟨_, rfl⟩
  rw [← hD]
  have HD : Hid (D = largeB l t) := hD
  clear hS hb hn hD
  go_enter Tryd.func6, Tryd.ntmps6
  go_wp2_with fail
  rename_i Kr hKr
  have HKr : Hid _ := hKr
  clear hKr
  go_loop [5, 12] (fun av iv => ∃ i : Nat, i ≤ n ∧ iv = .int .i64 (i : Nat) ∧ av = .int .i64 ((t.size + bytesN (l.take i) : Nat) : Int)) (fun _ iv => n - (intOf iv).toNat)
  case atStart => exact ⟨0, Nat.zero_le _, rfl, rfl⟩
  case round =>
    obtain ⟨i, hi, rfl, rfl⟩ := hrel
    by_cases hlt : i < n
    · clear HKr
      have hil : i < l.length := by rw [← HS.out.2.2]; exact hlt
      obtain ⟨p, o, rfl, hc, _⟩ := HS.out.1.get hil
      obtain ⟨s, hs⟩ : ∃ s, s = (l[i]'hil) := ⟨_, rfl⟩
      rw [← hs] at hc
      have hlt' : (i : Int) < (n : Int) := Int.ofNat_lt.2 hlt
      have e1 : t.size + bytesN (l.take (i + 1)) = t.size + bytesN (l.take i) + s.size := by rw [bytesN_take_succ hil, ← hs]; omega
      have e2 := bytesN_take l (i + 1)
      obtain ⟨A, hA⟩ : ∃ A, A = t.size + bytesN (l.take i) := ⟨_, rfl⟩
      rw [← hA] at e1 ⊢
      have hAb : (A : Int) + (s.size : Int) < 1152921504606846976 := by have := HS.out.2.1; omega
      have HN : Hid ((A : Int) + (s.size : Int) = ((t.size + bytesN (l.take (i + 1)) : Nat) : Int)) := by show _ = _; omega
      clear hs hA e1 e2
      go_wp2_with fail
      go_round
      case rel => exact ⟨i + 1, by omega, by go_num, by rw [← HN.out]⟩
      case measure => simp [intOf]; omega
    · obtain rfl : i = n := by omega
      have hnl : ¬ ((i : Int) < (i : Int)) := Int.lt_irrefl _
      have et : l.take i = l := by rw [HS.out.2.2]; exact List.take_of_length_le (Nat.le_refl _)
      rw [et]
      have HE : Hid (decide ((20000 : Int) < ((t.size + bytesN l : Nat) : Int)) = D) := by
        rw [HD.out]
        unfold largeB
        exact decide_eq_decide.2 ⟨fun h => by omega, fun h => by omega⟩
      clear et hlt hi
      go_wp2_with fail
      refine HKr.out _ _ ?_
      clear HKr
      go_wp2_with fail
      go_ret
      exact ⟨by rw [← HE.out]; rfl, Below.refl _ _⟩
end Go.Proofs.YtjdfipfeclphkaaDoor
