/- The reference's Hashed. -/
import Derived.Test.YtjdfipfeclphkaaDoorMgC
namespace Go.Proofs.YtjdfipfeclphkaaDoor
open Go Go.RowKit Go.Lib

set_option maxRecDepth 100000 in
set_option maxHeartbeats 4000000 in
theorem hashed_any (t : ByteArray) (a : Option Addr) (l : List ByteArray) (cap : Nat) (hb : (hashB t l).size < 1152921504606846976) (w : World) (hS : Strs w a l) :
    Calls Tryd.prog 18 #[.string t, .slice a l.length cap] w fun e w' => e = .returned (.string (hashB t l)) ∧ Below w.heap.size w w' := by
  have hts : t.size < 1152921504606846976 := by rw [hashB_size] at hb; omega
  have htn : (t.size : Int) < 1152921504606846976 := by omega
  obtain ⟨n, hn⟩ : ∃ n, n = l.length := ⟨_, rfl⟩
  rw [← hn]
  have hn60 : (n : Int) < 1152921504606846976 := by rw [hashB_size] at hb; omega
  have HS : Hid (Strs w a l ∧ (hashB t l).size < 1152921504606846976 ∧ n = l.length) := ⟨hS, hb, hn⟩
  have KN1 : Hid _ := fun (w' : World) => number_any t.size 1 (by omega) (by decide) w'
  have e1 : (ofL (numL t.size 1)).size = 1 := by rw [ofL_size, numL_length]
  have HP : Hid (ofL (numL t.size 1) ++ t = hashB t (l.take 0)) := hashB_zero t l
  obtain ⟨Z, hZ⟩ : ∃ Z, Z = ofL (numL t.size 1) := ⟨_, rfl⟩
  rw [← hZ] at e1 HP KN1
  clear hS hb hn hts hZ
  go_enter Tryd.func18, Tryd.ntmps18
  go_wp2_with fail
  refine (KN1.out _).mono ?_
  rintro e w1 ⟨rfl, hb1⟩
  have H1 : Hid (Below w.heap.size w w1) := hb1
  clear hb1 KN1
  go_wp2_with fail
  rename_i Kr hKr
  have HKr : Hid _ := hKr
  clear hKr
  rw [HP.out]
  clear e1
  go_loopw [5, 15] (fun sv iv wr => ∃ i : Nat, i ≤ n ∧ iv = .int .i64 (i : Nat) ∧ sv = .string (hashB t (l.take i)) ∧ Below w.heap.size w wr) (fun _ iv _ => n - (intOf iv).toNat)
  case atStart => exact ⟨0, Nat.zero_le _, rfl, rfl, H1.out⟩
  case round =>
    obtain ⟨i, hi, rfl, rfl, hB⟩ := hrel
    rename World => wr
    have HB : Hid (Below w.heap.size w wr) := hB
    clear hB H1
    by_cases hlt : i < n
    · clear HKr
      have hil : i < l.length := by rw [← HS.out.2.2]; exact hlt
      obtain ⟨p, o, rfl, hc, hp⟩ := HS.out.1.get hil
      obtain ⟨s, hs⟩ : ∃ s, s = (l[i]'hil) := ⟨_, rfl⟩
      rw [← hs] at hc
      have hc' : wr.cell? ⟨p, o + i, none⟩ = some (.string s) := (HB.out.cell (p := ⟨p, o + i, none⟩) hp).trans hc
      have hlt' : (i : Int) < (n : Int) := Int.ofNat_lt.2 hlt
      have e4 : (hashB t (l.take i)).size + 4 + s.size < 1152921504606846976 := by
        have h1 := hashB_take t l (i + 1)
        rw [← hashB_succ t hil, ← hs, ByteArray.size_append, ByteArray.size_append, ofL_size, numL_length] at h1
        have h2 := HS.out.2.1
        omega
      have KN3 : Hid _ := fun (w' : World) => number_any s.size 4 (by omega) (by decide) w'
      have e3 : (ofL (numL s.size 4)).size = 4 := by rw [ofL_size, numL_length]
      have HN : Hid (hashB t (l.take i) ++ ofL (numL s.size 4) ++ s = hashB t (l.take (i + 1))) := by
        rw [← hashB_succ t hil, ← hs]; exact rfl
      obtain ⟨X, hX⟩ : ∃ X, X = hashB t (l.take i) := ⟨_, rfl⟩
      obtain ⟨Y, hY⟩ : ∃ Y, Y = ofL (numL s.size 4) := ⟨_, rfl⟩
      rw [← hX] at e4 HN ⊢
      rw [← hY] at e3 HN
      have sb : (s.size : Int) < 1152921504606846976 := by omega
      have sx : X.size < 1152921504606846976 := by omega
      have KN4 : Hid (∀ w' : World, Calls Tryd.prog 27 #[.int .i64 (s.size : Nat), .int .i64 4] w' fun e w'' => e = .returned (.string Y) ∧ Below w'.heap.size w' w'') := by
        rw [hY]; exact KN3.out
      clear hc hs hX hY KN3
      go_wp2_with fail
      refine (KN4.out _).mono ?_
      rintro e w3 ⟨rfl, hb3⟩
      have H3 : Hid (Below w.heap.size w w3) := below_call0' HB.out hb3
      clear hb3 hc' KN4
      go_wp2_with fail
      go_roundw
      case rel => first | exact ⟨i + 1, hlt, by go_num, by rw [← HN.out], H3.out⟩ | ((repeat apply Exists.intro); exact ⟨⟨i + 1, hlt, by go_num, by rw [← HN.out], H3.out⟩, rfl⟩)
      case measure => simp [intOf]; omega
    · obtain rfl : i = n := by omega
      have hnl : ¬ ((i : Int) < (i : Int)) := Int.lt_irrefl _
      have HE : Hid (hashB t (l.take i) = hashB t l) := by
        have et : l.take i = l := by rw [HS.out.2.2]; exact List.take_of_length_le (Nat.le_refl _)
        rw [et]; exact rfl
      clear hlt hi
      go_wp2_with fail
      refine HKr.out _ _ ?_
      clear HKr
      go_wp2_with fail
      go_ret
      exact ⟨by rw [← HE.out]; rfl, HB.out⟩
end Go.Proofs.YtjdfipfeclphkaaDoor
