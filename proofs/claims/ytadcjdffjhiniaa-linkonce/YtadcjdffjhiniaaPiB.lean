/- Numbers' bytes: the package's and the reference's. -/
import Derived.Test.YtadcjdffjhiniaaPiA
import Derived.Test.YtadcjdffjhiniaaPcR
namespace Go.Proofs.Ytadcjdffjhiniaa
open Go Go.RowKit Go.Lib

theorem ret_pair' {a b c d : Value} (h : a = c) (h2 : b = d) : Ending.returned (.tuple #[a, b]) = .returned (.tuple #[c, d]) := by rw [h, h2]
theorem in_long {l : List Int} (h : 1000 < l.length) : inE l = 2 ∧ inS l = ⟨#[]⟩ := by
  have : inE l = 2 := by unfold inE; rw [if_pos h]
  exact ⟨this, by unfold inS; rw [this]; rfl⟩
theorem in_neg {l : List Int} (h : ¬ 1000 < l.length) (h2 : inB l = false) : inE l = 1 ∧ inS l = ⟨#[]⟩ := by
  have : inE l = 1 := by unfold inE; rw [if_neg h, h2]; rfl
  exact ⟨this, by unfold inS; rw [this]; rfl⟩
theorem in_ok {l : List Int} (h : ¬ 1000 < l.length) (h2 : inB l = true) : inE l = 0 ∧ inS l = ofL (inL l) := by
  have : inE l = 0 := by unfold inE; rw [if_neg h, h2]; rfl
  exact ⟨this, by unfold inS; rw [this]; rfl⟩
theorem inB_take_succ {l : List Int} {k : Nat} (hk : k < l.length) : inB (l.take (k + 1)) = (inB (l.take k) && decide (0 ≤ (l[k]'hk))) := by
  rw [List.take_succ_eq_append_getElem hk]
  unfold inB
  rw [List.all_append]
  simp
set_option maxRecDepth 100000 in
set_option maxHeartbeats 4000000 in
theorem rints_any (a : Option Addr) (l : List Int) (cap : Nat) (w : World) (hS : IntsAt w a l) (hr : ∀ n ∈ l, n < 9223372036854775808) :
    Calls Try.prog 32 #[.slice a l.length cap] w fun e w' => e = .returned (.tuple #[.string (inS l), .int .i64 (inE l)]) ∧ Below w.heap.size w w' := by
  obtain ⟨n, hn⟩ : ∃ n, n = l.length := ⟨_, rfl⟩
  by_cases h1 : 1000 < l.length
  · have h1' : (1000 : Int) < (n : Int) := by omega
    have HF : Hid (_ ∧ _) := in_long h1
    rw [← hn]
    clear hn h1 hS hr
    go_enter Try.func32, Try.ntmps32
    go_wp2_with fail
    go_ret2
    exact ⟨ret_pair' (by rw [HF.out.2]; rfl) (by rw [HF.out.1]; rfl), Below.refl _ _⟩
  have h1' : ¬ ((1000 : Int) < (n : Int)) := by omega
  have n1 : (n : Int) ≤ 1000 := by omega
  have HL : Hid (n = l.length ∧ ¬ 1000 < l.length) := ⟨hn, h1⟩
  have HS : Hid (IntsAt w a l ∧ ∀ n ∈ l, n < 9223372036854775808) := ⟨hS, hr⟩
  rw [← hn]
  clear hn h1 hS hr
  go_enter Try.func32, Try.ntmps32
  go_wp2_with fail
  rename_i Kr hKr
  have HKr : Hid _ := hKr
  clear hKr
  go_loopw [4, 12] (fun sv iv wr => ∃ k : Nat, k ≤ n ∧ iv = .int .i64 (k : Nat) ∧ sv = .string (ofL (inL (l.take k))) ∧ inB (l.take k) = true ∧ Below w.heap.size w wr) (fun _ iv _ => n - (Go.RowKit.intOf iv).toNat)
  case atStart => exact ⟨0, Nat.zero_le _, rfl, rfl, rfl, Below.refl _ _⟩
  case round =>
    obtain ⟨k, hk, rfl, rfl, hok, hB⟩ := hrel
    rename World => wr
    have HB : Hid (Below w.heap.size w wr ∧ inB (l.take k) = true) := ⟨hB, hok⟩
    clear hB hok
    by_cases hlt : k < n
    · clear HKr
      have hkl : k < l.length := by rw [← HL.out.1]; exact hlt
      obtain ⟨p, o, rfl, hc, hp⟩ := HS.out.1.get hkl
      obtain ⟨x, hx⟩ : ∃ x, x = (l[k]'hkl) := ⟨_, rfl⟩
      rw [← hx] at hc
      have hc' : wr.cell? ⟨p, o + k, none⟩ = some (.int .i64 x) := (HB.out.1.cell (p := ⟨p, o + k, none⟩) hp).trans hc
      have hlt' : (k : Int) < (n : Int) := Int.ofNat_lt.2 hlt
      by_cases h0 : x < 0
      · have HF : Hid (_ ∧ _) := in_neg HL.out.2 (inB_false hkl (by rw [← hx]; exact h0))
        clear hx hc hp hlt
        go_wp2_with fail
        go_ret2
        exact ⟨ret_pair' (by rw [HF.out.2]; rfl) (by rw [HF.out.1]; rfl), HB.out.1⟩
      · have hxr : x < 9223372036854775808 := HS.out.2 x (by rw [hx]; exact List.getElem_mem hkl)
        obtain ⟨q, rfl⟩ : ∃ q : Nat, x = (q : Nat) := ⟨x.toNat, by omega⟩
        have KN : Hid _ := fun (w' : World) => number_any q 8 (by omega) (by decide) w'
        obtain ⟨X, hX⟩ : ∃ X, X = ofL (inL (l.take k)) := ⟨_, rfl⟩
        obtain ⟨Y, hY⟩ : ∃ Y, Y = ofL (numL q 8) := ⟨_, rfl⟩
        rw [← hX]
        rw [← hY] at KN
        have e1 : X.size ≤ 8000 := by
          rw [hX, ofL_size, inL_length, List.length_take]
          have := HL.out.2
          omega
        have e2 : Y.size = 8 := by rw [hY, ofL_size, numL_length]
        have HN : Hid (X ++ Y = ofL (inL (l.take (k + 1))) ∧ inB (l.take (k + 1)) = true) := by
          refine ⟨?_, ?_⟩
          · rw [hX, hY, ofL_append, inL_take_succ hkl, ← hx, Int.toNat_natCast]
          · rw [inB_take_succ hkl, HB.out.2, ← hx, decide_eq_true (show 0 ≤ (q : Int) by omega)]; rfl
        clear hx hc hp hX hY hxr
        go_wp2_with fail
        refine (KN.out _).mono ?_
        rintro e w1 ⟨rfl, hb1⟩
        have H1 : Hid (Below w.heap.size w w1) := below_call0 HB.out.1 hb1
        clear hb1 hc' KN
        go_wp2_with fail
        go_roundw
        case rel => first | exact ⟨k + 1, hlt, by go_num, by rw [← HN.out.1], HN.out.2, H1.out⟩ | ((repeat apply Exists.intro); exact ⟨⟨k + 1, hlt, by go_num, by rw [← HN.out.1], HN.out.2, H1.out⟩, rfl⟩)
        case measure => simp [Go.RowKit.intOf]; omega
    · obtain rfl : k = n := by omega
      have hnl : ¬ ((k : Int) < (k : Int)) := Int.lt_irrefl _
      have et : l.take k = l := by rw [HL.out.1]; exact List.take_of_length_le (Nat.le_refl _)
      have HF : Hid (_ ∧ _) := in_ok HL.out.2 (by have := HB.out.2; rw [et] at this; exact this)
      rw [et]
      clear et hlt hk
      go_wp2_with fail
      refine HKr.out _ _ ?_
      clear HKr
      go_wp2_with fail
      go_ret2
      exact ⟨ret_pair' (by rw [HF.out.2]; rfl) (by rw [HF.out.1]; rfl), HB.out.1⟩
end Go.Proofs.Ytadcjdffjhiniaa
