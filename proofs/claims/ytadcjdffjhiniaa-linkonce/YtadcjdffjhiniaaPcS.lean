/- The reference's Pack. -/
import Derived.Test.YtadcjdffjhiniaaPcR
namespace Go.Proofs.Ytadcjdffjhiniaa
open Go Go.RowKit Go.Lib

theorem ret_pair {a b c d : Value} (h : a = c) (h2 : b = d) : Ending.returned (.tuple #[a, b]) = .returned (.tuple #[c, d]) := by rw [h, h2]
theorem rpack_kind (k : Int) (a : Option Addr) (n cap : Nat) (hk : kindB k = false) (w : World) :
    Calls Try.prog 33 #[.int .i64 k, .slice a n cap] w fun e w' => e = .returned (.tuple #[.string ⟨#[]⟩, .int .i64 1]) ∧ Below w.heap.size w w' := by
  have h : ¬ (1 ≤ k ∧ k ≤ 63) := of_decide_eq_false hk
  clear hk
  by_cases h1 : k < 1
  · clear h
    go_enter Try.func33, Try.ntmps33
    go_wp2_with fail
    go_ret2
    exact ⟨rfl, Below.refl _ _⟩
  · have h2 : 63 < k := by omega
    clear h
    go_enter Try.func33, Try.ntmps33
    go_wp2_with fail
    go_ret2
    exact ⟨rfl, Below.refl _ _⟩
theorem pk_no {k : Nat} {l : List ByteArray} (hk : kindB (k : Nat) = true) (hf : fitB l = false) : pkS (k : Nat) l = ⟨#[]⟩ ∧ pkE (k : Nat) l = 2 := by
  unfold pkS pkE
  rw [hk, hf]
  exact ⟨rfl, rfl⟩
theorem pk_yes {k : Nat} {l : List ByteArray} (hk : kindB (k : Nat) = true) (hf : fitB l = true) : pkS (k : Nat) l = ofL (packL k l) ∧ pkE (k : Nat) l = 0 := by
  unfold pkS pkE
  rw [hk, hf]
  exact ⟨rfl, rfl⟩
set_option maxHeartbeats 4000000 in
theorem rpack_in (k : Nat) (a : Option Addr) (l : List ByteArray) (cap : Nat) (hk : kindB (k : Nat) = true) (hlen : l.length ≤ 8796093022208) (w : World) (hS : Strs w a l) (hz : ∀ s ∈ l, s.size < 140737488351233) :
    Calls Try.prog 33 #[.int .i64 (k : Nat), .slice a l.length cap] w fun e w' => e = .returned (.tuple #[.string (pkS (k : Nat) l), .int .i64 (pkE (k : Nat) l)]) ∧ Below w.heap.size w w' := by
  have hk' : 1 ≤ (k : Int) ∧ (k : Int) ≤ 63 := of_decide_eq_true hk
  have k1 : ¬ ((k : Int) < 1) := by omega
  have k2 : ¬ ((63 : Int) < (k : Int)) := by omega
  have HS : Hid (Strs w a l ∧ (∀ s ∈ l, s.size < 140737488351233) ∧ l.length ≤ 8796093022208 ∧ kindB (k : Nat) = true ∧ (k : Int) ≤ 63) := ⟨hS, hz, hlen, hk, hk'.2⟩
  obtain ⟨n, hn⟩ : ∃ n, n = l.length := ⟨_, rfl⟩
  rw [← hn]
  have n43 : (n : Int) ≤ 8796093022208 := by omega
  have HL : Hid (n = l.length) := hn
  clear hS hz hn hlen hk hk'
  go_enter Try.func33, Try.ntmps33
  go_wp2_with fail
  rename_i Kr hKr
  have HKr : Hid _ := hKr
  clear hKr
  go_loop [6, 20] (fun av iv => ∃ j : Nat, j ≤ n ∧ iv = .int .i64 (j : Nat) ∧ av = .int .i64 ((2 + sumN (l.take j) : Nat) : Int) ∧ okS (l.take j) = true) (fun _ iv => n - (intOf iv).toNat)
  case atStart => exact ⟨0, Nat.zero_le _, rfl, rfl, rfl⟩
  case round =>
    obtain ⟨j, hj, rfl, rfl, hok⟩ := hrel
    by_cases hlt : j < n
    · clear HKr
      have hjl : j < l.length := by rw [← HL.out]; exact hlt
      obtain ⟨p, o, rfl, hc, _⟩ := HS.out.1.get hjl
      obtain ⟨s, hs⟩ : ∃ s, s = (l[j]'hjl) := ⟨_, rfl⟩
      rw [← hs] at hc
      have hlt' : (j : Int) < (n : Int) := Int.ofNat_lt.2 hlt
      have hsz : s.size < 140737488351233 := HS.out.2.1 s (by rw [hs]; exact List.getElem_mem hjl)
      obtain ⟨A, hA⟩ : ∃ A, A = 2 + sumN (l.take j) := ⟨_, rfl⟩
      rw [← hA]
      have hAb : (A : Int) ≤ 140737488351233000 := by
        have := sumN_le hok
        rw [List.length_take] at this
        omega
      have sb : (s.size : Int) < 140737488351233 := by omega
      by_cases h8 : s.size ≤ 8000
      · have h8' : ¬ ((8000 : Int) < (s.size : Int)) := by omega
        have HN : Hid (okS (l.take (j + 1)) = true ∧ ((A : Int) + 2 + (s.size : Int) = ((2 + sumN (l.take (j + 1)) : Nat) : Int))) := by
          rw [okS_take_succ hjl, sumN_take_succ hjl, ← hs, hok]
          refine ⟨by simp [h8], by omega⟩
        clear hs hok hsz hA h8
        go_wp2_with fail
        go_round
        case rel => exact ⟨j + 1, by omega, by go_num, by rw [← HN.out.2], HN.out.1⟩
        case measure => simp [intOf]; omega
      · have h8' : ((8000 : Int) < (s.size : Int)) := by omega
        have hF : fitB l = false := by
          unfold fitB
          rw [okS_false hjl (by rw [← hs]; omega), Bool.and_false, Bool.false_and]
        have HF : Hid (_ ∧ _) := pk_no HS.out.2.2.2.1 hF
        clear hs hok hsz hA h8 hF
        go_wp2_with fail
        go_ret2
        exact ⟨ret_pair (by rw [HF.out.1]; rfl) (by rw [HF.out.2]; rfl), Below.refl _ _⟩
    · obtain rfl : j = n := by omega
      have hnl : ¬ ((j : Int) < (j : Int)) := Int.lt_irrefl _
      have et : l.take j = l := by rw [HL.out]; exact List.take_of_length_le (Nat.le_refl _)
      rw [et] at hok ⊢
      obtain ⟨A, hA⟩ : ∃ A, A = 2 + sumN l := ⟨_, rfl⟩
      rw [← hA]
      have HA : Hid (A = 2 + sumN l ∧ okS l = true) := ⟨hA, hok⟩
      clear hok et hA hlt hj
      by_cases h40 : (40 : Int) < (j : Int)
      · have hF : fitB l = false := by
          unfold fitB
          rw [← HL.out, decide_eq_false (show ¬ j ≤ 40 by omega), Bool.false_and, Bool.false_and]
        have HF : Hid (_ ∧ _) := pk_no HS.out.2.2.2.1 hF
        clear hF
        go_wp2_with fail
        refine HKr.out _ _ ?_
        clear HKr
        go_wp2_with fail
        go_ret2
        exact ⟨ret_pair (by rw [HF.out.1]; rfl) (by rw [HF.out.2]; rfl), Below.refl _ _⟩
      by_cases h20 : (20000 : Int) < (A : Int)
      · have hF : fitB l = false := by
          unfold fitB
          rw [← HA.out.1, decide_eq_false (show ¬ A ≤ 20000 by omega), Bool.and_false]
        have HF : Hid (_ ∧ _) := pk_no HS.out.2.2.2.1 hF
        clear hF
        go_wp2_with fail
        refine HKr.out _ _ ?_
        clear HKr
        go_wp2_with fail
        go_ret2
        exact ⟨ret_pair (by rw [HF.out.1]; rfl) (by rw [HF.out.2]; rfl), Below.refl _ _⟩
      have hF : fitB l = true := by
        unfold fitB
        rw [← HL.out, ← HA.out.1, HA.out.2, decide_eq_true (show j ≤ 40 by omega), decide_eq_true (show A ≤ 20000 by omega)]
        rfl
      have HF : Hid (_ ∧ _) := pk_yes HS.out.2.2.2.1 hF
      clear hF
      have KN1 : Hid _ := fun (w' : World) => number_any k 1 (by have := HS.out.2.2.2.2; omega) (by decide) w'
      have KN2 : Hid _ := fun (w' : World) => number_any j 1 (by omega) (by decide) w'
      go_wp2_with fail
      refine HKr.out _ _ ?_
      clear HKr
      go_wp2_with fail
      refine (KN1.out _).mono ?_
      rintro e w1 ⟨rfl, hb1⟩
      have H1 : Hid (Below w.heap.size w w1) := hb1
      clear hb1
      go_wp2_with fail
      refine (KN2.out _).mono ?_
      rintro e w2 ⟨rfl, hb2⟩
      have H2 : Hid (Below w.heap.size w w2) := below_call0 H1.out hb2
      clear hb2 H1
      have e1 : (ofL (numL k 1)).size = 1 := by rw [ofL_size, numL_length]
      have e2 : (ofL (numL j 1)).size = 1 := by rw [ofL_size, numL_length]
      go_wp2_with fail
      rename_i Kr2 hKr2
      have HKr2 : Hid _ := hKr2
      clear hKr2
      have HP : Hid (ofL (numL k 1) ++ ofL (numL j 1) = ofL (UInt8.ofNat k :: UInt8.ofNat j :: itemsL (l.take 0)) ∧ ∀ i, (ofL (UInt8.ofNat k :: UInt8.ofNat j :: itemsL (l.take i))).size ≤ 20000) := by
        refine ⟨by rw [ofL_append]; rfl, fun i => ?_⟩
        rw [ofL_size]
        simp only [List.length_cons, itemsL_length]
        have h1 := HA.out.1
        have h2 : sumN (l.take i) ≤ sumN l := by
          have := sumN_append (l.take i) (l.drop i)
          rw [List.take_append_drop] at this
          omega
        omega
      rw [HP.out.1]
      clear e1 e2 KN1 KN2
      go_loopw [9, 48] (fun ov iv wr => ∃ i : Nat, i ≤ j ∧ iv = .int .i64 (i : Nat) ∧ ov = .string (ofL (UInt8.ofNat k :: UInt8.ofNat j :: itemsL (l.take i))) ∧ Below w.heap.size w wr) (fun _ iv _ => j - (intOf iv).toNat)
      case atStart => exact ⟨0, Nat.zero_le _, rfl, rfl, H2.out⟩
      case round =>
        obtain ⟨i, hi, rfl, rfl, hB⟩ := hrel
        rename World => wr
        have HB : Hid (Below w.heap.size w wr) := hB
        clear hB H2
        by_cases hlt : i < j
        · clear HKr2
          have hil : i < l.length := by rw [← HL.out]; exact hlt
          obtain ⟨p, o, rfl, hc, hp⟩ := HS.out.1.get hil
          obtain ⟨s, hs⟩ : ∃ s, s = (l[i]'hil) := ⟨_, rfl⟩
          rw [← hs] at hc
          have hc' : wr.cell? ⟨p, o + i, none⟩ = some (.string s) := (HB.out.cell (p := ⟨p, o + i, none⟩) hp).trans hc
          have hlt' : (i : Int) < (j : Int) := Int.ofNat_lt.2 hlt
          have hs8 : s.size ≤ 8000 := by rw [hs]; exact okS_of_mem HA.out.2 hil
          have sb : (s.size : Int) ≤ 8000 := by omega
          have sb' : s.size ≤ 8000 := hs8
          have j40 : (j : Int) ≤ 40 := by omega
          have KN3 : Hid _ := fun (w' : World) => number_any s.size 2 (by omega) (by decide) w'
          have e3 : (ofL (numL s.size 2)).size = 2 := by rw [ofL_size, numL_length]
          have e4 := HP.out.2 i
          have HN : Hid (ofL (UInt8.ofNat k :: UInt8.ofNat j :: itemsL (l.take i)) ++ ofL (numL s.size 2) ++ s = ofL (UInt8.ofNat k :: UInt8.ofNat j :: itemsL (l.take (i + 1)))) := by
            rw [itemsL_take_succ hil, ← hs, numL2]
            apply ba_ext
            rw [ba_append, ba_append, ofL_data, ofL_data, ofL_data]
            simp [itemL]
          obtain ⟨X, hX⟩ : ∃ X, X = ofL (UInt8.ofNat k :: UInt8.ofNat j :: itemsL (l.take i)) := ⟨_, rfl⟩
          obtain ⟨Y, hY⟩ : ∃ Y, Y = ofL (numL s.size 2) := ⟨_, rfl⟩
          rw [← hX] at e4 HN ⊢
          rw [← hY] at e3 HN
          have KN4 : Hid (∀ w' : World, Calls Try.prog 41 #[.int .i64 (s.size : Nat), .int .i64 2] w' fun e w'' => e = .returned (.string Y) ∧ Below w'.heap.size w' w'') := by
            rw [hY]; exact KN3.out
          clear hc hs hs8 hX hY KN3
          go_wp2_with fail
          refine (KN4.out _).mono ?_
          rintro e w3 ⟨rfl, hb3⟩
          have H3 : Hid (Below w.heap.size w w3) := below_call0 HB.out hb3
          clear hb3 hc' KN4
          go_wp2_with fail
          go_roundw
          case rel => first | exact ⟨i + 1, hlt, by go_num, by rw [← HN.out], H3.out⟩ | ((repeat apply Exists.intro); exact ⟨⟨i + 1, hlt, by go_num, by rw [← HN.out], H3.out⟩, rfl⟩)
          case measure => simp [intOf]; omega
        · obtain rfl : i = j := by omega
          have hnl : ¬ ((i : Int) < (i : Int)) := Int.lt_irrefl _
          have HE : Hid (ofL (UInt8.ofNat k :: UInt8.ofNat i :: itemsL (l.take i)) = pkS (k : Nat) l) := by
            have et : l.take i = l := by rw [HL.out]; exact List.take_of_length_le (Nat.le_refl _)
            rw [et, HF.out.1, HL.out]; rfl
          clear hlt hi
          go_wp2_with fail
          refine HKr2.out _ _ ?_
          clear HKr2
          go_wp2_with fail
          go_ret2
          exact ⟨ret_pair (by rw [← HE.out]; rfl) (by rw [HF.out.2]; rfl), HB.out⟩
theorem rpack_any (k : Int) (a : Option Addr) (l : List ByteArray) (cap : Nat) (hlen : l.length ≤ 8796093022208) (w : World) (hS : Strs w a l) (hz : ∀ s ∈ l, s.size < 140737488351233) :
    Calls Try.prog 33 #[.int .i64 k, .slice a l.length cap] w fun e w' => e = .returned (.tuple #[.string (pkS k l), .int .i64 (pkE k l)]) ∧ Below w.heap.size w w' := by
  rcases Bool.eq_false_or_eq_true (kindB k) with hk | hk
  · have h : 1 ≤ k ∧ k ≤ 63 := of_decide_eq_true hk
    obtain ⟨m, rfl⟩ : ∃ m : Nat, k = (m : Nat) := ⟨k.toNat, by omega⟩
    exact rpack_in m a l cap hk hlen w hS hz
  · have := rpack_kind k a l.length cap hk w
    unfold pkS pkE
    rw [hk]
    exact this
theorem pack_any (k : Int) (a : Option Addr) (l : List ByteArray) (cap : Nat) (w : World) (hS : Strs w a l) (hz : ∀ s ∈ l, s.size < 140737488351233) :
    Calls Try.prog 40 #[.int .i64 k, .slice a l.length cap] w fun e w' => e = .returned (.tuple #[.string (pkS k l), .int .i64 (pkE k l)]) ∧ Below w.heap.size w w' := by
  rcases Bool.eq_false_or_eq_true (kindB k) with hk | hk
  · have h : 1 ≤ k ∧ k ≤ 63 := of_decide_eq_true hk
    obtain ⟨m, rfl⟩ : ∃ m : Nat, k = (m : Nat) := ⟨k.toNat, by omega⟩
    rcases Bool.eq_false_or_eq_true (fitB l) with hf | hf
    · rw [(pk_yes hk hf).1, (pk_yes hk hf).2]
      exact pack_in m a l cap hk hf w hS
    · rw [(pk_no hk hf).1, (pk_no hk hf).2]
      exact pack_long m a l cap hk hf w hS hz
  · have := pack_kind k a l.length cap hk w
    unfold pkS pkE
    rw [hk]
    exact this
end Go.Proofs.Ytadcjdffjhiniaa
