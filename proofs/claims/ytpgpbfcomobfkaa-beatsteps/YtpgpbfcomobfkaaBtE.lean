/- Package beat: Check, Heard, New. -/
import Derived.Test.YtpgpbfcomobfkaaBtD
namespace Go.Proofs.Ytpgpbfcomobfkaa
open Go Go.RowKit Go.Lib

theorem lateL_get {x : Wt} {i : Nat} (hi : i < (lateL x).length) : ∃ k : Nat, (lateL x)[i]'hi = ((k : Nat) : Int) ∧ 1 ≤ k ∧ k ≤ x.n ∧ k ≠ x.self := by
  have h : (lateL x)[i]'hi ∈ lsN (lateB x) x.n := List.getElem_mem hi
  obtain ⟨k, h1, h2, h3, h4⟩ := lsN_mem.1 h
  refine ⟨k, h1, h2, h3, fun c => ?_⟩
  rw [c] at h4
  unfold lateB at h4
  simp at h4
theorem but_from {g : Nat} {w w1 w' : World} (h : But g (From w.heap.size) w w1) (hb : Below w1.heap.size w1 w') : But g (From w.heap.size) w w' := by
  refine h.trans (But.of_off (Off.of_below hb fun k hk => Nat.le_trans h.size hk))
set_option maxHeartbeats 1000000 in
theorem check_ok (g : Nat) (x : Wt) (m : Nat) (h1 : x.now ≤ m) (h2 : m ≤ 1099511627776) (w : World) (hW : WatchAt w g x) : Calls Try.prog 14 #[.pointer (some ⟨g, 0, none⟩), .int .i64 (m : Nat)] w fun e w' => ∃ a cap, e = .returned (.tuple #[.slice a (lateL (atW x m)).length cap, .int .i64 0]) ∧ IntsFrom w' w.heap.size a (lateL (atW x m)) ∧ WatchAt w' g (checkW x m) ∧ But g (From w.heap.size) w w' := by
  have HW : Hid (WatchAt w g x) := hW
  have hd : decide (((x.now : Nat) : Int) ≤ (m : Nat) ∧ ((m : Nat) : Int) ≤ 1099511627776) = true := decide_eq_true (by omega)
  have HD : Hid (_ ∧ m ≤ 1099511627776) := ⟨hd, h2⟩
  have c2 := hW.c2
  have f2 := hW.fz 2
  obtain ⟨L, hL⟩ : ∃ L, L = lateL (atW x m) := ⟨_, rfl⟩
  rw [← hL]
  have HL : Hid _ := hL
  clear hW hd h1 h2 hL
  go_enter Try.func14, Try.ntmps14
  go_wp2_with fail
  refine (mayBe_any g x _ _ HW.out).mono ?_
  rintro e w1 ⟨rfl, rfl⟩
  rw [HD.out.1]
  go_wp2_with fail
  refine (those_late g (atW x m) _ (HW.out.now HD.out.2)).mono ?_
  rintro e w2 ⟨a, cap, rfl, hR, hb⟩
  have e0 : lsN (lateB (atW x m)) (atW x m).n = L := HL.out.symm
  rw [e0] at hR ⊢
  obtain ⟨n, hn⟩ : ∃ n, n = L.length := ⟨_, rfl⟩
  rw [← hn]
  have HN : Hid (n = L.length) := hn
  have hz : (w1.setCell ⟨g, 2, none⟩ (.int .i64 (m : Nat))).heap.size = w1.heap.size := World.size_setCell _ _ _
  rw [hz] at hR hb
  have H2 : Hid (IntsFrom w2 w1.heap.size a L ∧ WatchAt w2 g (setS (atW x m) []) ∧ But g (From w1.heap.size) w1 w2) :=
    ⟨hR.from, by rw [setS_nil]; exact (HW.out.now HD.out.2).call (by rw [hz]; exact hb), ((But.refl _ _ _).set _).trans (But.of_below hb)⟩
  have n10 : (n : Int) ≤ 10 := by
    have := lsN_len (lateB (atW x m)) (atW x m).n
    rw [e0] at this
    have := HW.out.ok.n10
    have : (atW x m).n = x.n := rfl
    omega
  clear hR hb hn hz e0
  go_wp2_with fail
  rename_i Kr hKr
  have HKr : Hid _ := hKr
  clear hKr c2 f2
  go_loopw [23] (fun iv wr => ∃ i : Nat, i ≤ n ∧ iv = .int .i64 (i : Nat) ∧ IntsFrom wr w1.heap.size a L ∧ WatchAt wr g (setS (atW x m) (L.take i)) ∧ But g (From w1.heap.size) w1 wr) (fun iv _ => n - (Go.RowKit.intOf iv).toNat)
  case atStart => exact ⟨0, Nat.zero_le _, rfl, H2.out⟩
  case round =>
    obtain ⟨i, hi, rfl, hI, hV, hB⟩ := hrel
    rename World => wr
    have HB : Hid (_ ∧ _ ∧ _) := ⟨hI, hV, hB⟩
    clear H2
    by_cases hlt : i < n
    · clear HKr
      have hil : i < L.length := by rw [← HN.out]; exact hlt
      have hlt' : (i : Int) < (n : Int) := by omega
      obtain ⟨p, o, ha, cp, pB, pl⟩ := hI.get hil
      subst ha
      obtain ⟨k, hk, k1, kn, ks⟩ := lateL_get (x := atW x m) (i := i) (by rw [← HL.out]; exact hil)
      have hk' : (L[i]'hil) = ((k : Nat) : Int) := by
        have : L = lateL (atW x m) := HL.out
        subst this
        exact hk
      rw [hk'] at cp
      have kn' : k ≤ 10 := by have := HW.out.ok.n10; have : (atW x m).n = x.n := rfl; omega
      have q1 : (k : Int) < 11 := by omega
      have q0 : (0 : Int) ≤ (k : Int) := by omega
      have cs := hV.cs k kn'
      have fs := hV.fz (3 + k * 3 + 2)
      have HT : Hid (L.take (i + 1) = L.take i ++ [((k : Nat) : Int)] ∧ k ≤ 10 ∧ k ≠ x.self ∧ i < n) := ⟨by rw [List.take_succ_eq_append_getElem hil, hk'], kn', ks, hlt⟩
      clear hk hk' k1 kn ks kn' hI hV hB pB pl hil hi hlt
      go_wp2_with fail
      go_roundw
      case rel =>
        have h1 : g < w1.heap.size := HW.out.lt
        have t : i + 1 ≤ n ∧ IntsFrom (wr.setCell ⟨g, 3 + k * 3 + 2, none⟩ (.bool true)) w1.heap.size (some ⟨p, o, none⟩) L ∧ WatchAt (wr.setCell ⟨g, 3 + k * 3 + 2, none⟩ (.bool true)) g (setS (atW x m) (L.take (i + 1))) ∧ But g (From w1.heap.size) w1 (wr.setCell ⟨g, 3 + k * 3 + 2, none⟩ (.bool true)) :=
          ⟨HT.out.2.2.2, HB.out.1.set h1 _, by rw [HT.out.1]; exact HB.out.2.1.sil HT.out.2.1 HT.out.2.2.1, HB.out.2.2.set _⟩
        first | exact ⟨i + 1, t.1, by go_num, t.2⟩ | ((repeat apply Exists.intro); exact ⟨⟨i + 1, t.1, by go_num, t.2⟩, rfl⟩)
      case measure => have h1 := HT.out.2.2.2; simp [Go.RowKit.intOf]; omega
    · obtain rfl : i = n := by omega
      have hnl : ¬ ((i : Int) < (i : Int)) := Int.lt_irrefl _
      clear hlt hi hI hV hB
      go_wp2_with fail
      refine HKr.out _ _ ?_
      clear HKr
      go_wp2_with fail
      go_ret2
      refine ⟨a, cap, by rw [← HN.out]; rfl, HB.out.1, ?_, HB.out.2.2⟩
      have h := HB.out.2.1
      rw [List.take_of_length_le (by rw [← HN.out]; exact Nat.le_refl _), HL.out, setS_late] at h
      exact h
theorem check_no (g : Nat) (x : Wt) (m : Int) (h1 : ¬ (((x.now : Nat) : Int) ≤ m ∧ m ≤ 1099511627776)) (w : World) (hW : WatchAt w g x) : Calls Try.prog 14 #[.pointer (some ⟨g, 0, none⟩), .int .i64 m] w fun e w' => e = .returned (.tuple #[.slice none 0 0, .int .i64 1]) ∧ w' = w := by
  have HW : Hid (WatchAt w g x) := hW
  have HD : Hid (decide (((x.now : Nat) : Int) ≤ m ∧ m ≤ 1099511627776) = false) := decide_eq_false h1
  clear hW h1
  go_enter Try.func14, Try.ntmps14
  go_wp2_with fail
  refine (mayBe_any g x _ _ HW.out).mono ?_
  rintro e w1 ⟨rfl, rfl⟩
  rw [HD.out]
  go_wp2_with fail
  go_ret2
  exact ⟨rfl, rfl⟩
theorem WatchAt.heard {w w' : World} {g k m : Nat} {x : Wt} (h : WatchAt w g x) (hm : m ≤ 1099511627776) (hk : k ≤ 10) (hz : w'.heap.size = w.heap.size)
    (e2 : w'.cell? ⟨g, 2, none⟩ = some (.int .i64 (m : Nat))) (eh : w'.cell? ⟨g, 3 + k * 3, none⟩ = some (.int .i64 (m : Nat))) (et : w'.cell? ⟨g, 3 + k * 3 + 1, none⟩ = some (.int .i64 (dbl (x.s k) (x.t k) : Nat))) (es : w'.cell? ⟨g, 3 + k * 3 + 2, none⟩ = some (.bool false))
    (eo : ∀ o, o ≠ 2 → o ≠ 3 + k * 3 → o ≠ 3 + k * 3 + 1 → o ≠ 3 + k * 3 + 2 → w'.cell? ⟨g, o, none⟩ = w.cell? ⟨g, o, none⟩) (ef : ∀ o, w'.frozen? ⟨g, o, none⟩ = w.frozen? ⟨g, o, none⟩) : WatchAt w' g (heardW x k m) := by
  refine ⟨heardW_ok h.ok hm, by rw [hz]; exact h.lt, (eo _ (by omega) (by omega) (by omega) (by omega)).trans h.c0, (eo _ (by omega) (by omega) (by omega) (by omega)).trans h.c1, e2, fun j hj => ?_, fun j hj => ?_, fun j hj => ?_, fun o => (ef o).trans (h.fz o)⟩
  · by_cases c : j = k
    · subst c; rw [eh]; unfold heardW; simp
    · rw [eo _ (by omega) (by omega) (by omega) (by omega), h.ch j hj]; unfold heardW; simp [c]
  · by_cases c : j = k
    · subst c; rw [et]; unfold heardW; simp
    · rw [eo _ (by omega) (by omega) (by omega) (by omega), h.ct j hj]; unfold heardW; simp [c]
  · by_cases c : j = k
    · subst c; rw [es]; unfold heardW; simp
    · rw [eo _ (by omega) (by omega) (by omega) (by omega), h.cs j hj]; unfold heardW; simp [c]
theorem cell_ne {w : World} {g o q : Nat} {v : Value} (h : o ≠ q) : (w.setCell ⟨g, q, none⟩ v).cell? ⟨g, o, none⟩ = w.cell? ⟨g, o, none⟩ := World.cell?_setCell_other _ _ _ _ (by intro c; injection c with _ c2 _; omega)
theorem cell_eq {w : World} {g o : Nat} {u v : Value} (h : w.cell? ⟨g, o, none⟩ = some u) : (w.setCell ⟨g, o, none⟩ v).cell? ⟨g, o, none⟩ = some v := World.cell?_setCell_same _ _ _ h
set_option maxHeartbeats 1000000 in
theorem heard_ok (g : Nat) (x : Wt) (k m : Nat) (k1 : 1 ≤ k) (kn : k ≤ x.n) (h1 : x.now ≤ m) (h2 : m ≤ 1099511627776) (w : World) (hW : WatchAt w g x) : Calls Try.prog 12 #[.pointer (some ⟨g, 0, none⟩), .int .i64 (k : Nat), .int .i64 (m : Nat)] w fun e w' => e = .returned (.tuple #[.bool (x.s k), .int .i64 0]) ∧ WatchAt w' g (heardW x k m) ∧ But g (From w.heap.size) w w' := by
  have HW : Hid (WatchAt w g x) := hW
  have HD : Hid (decide (((x.now : Nat) : Int) ≤ (m : Nat) ∧ ((m : Nat) : Int) ≤ 1099511627776) = true ∧ decide (1 ≤ ((k : Nat) : Int) ∧ ((k : Nat) : Int) ≤ (x.n : Nat)) = true ∧ m ≤ 1099511627776 ∧ k ≤ 10) := ⟨decide_eq_true (by omega), decide_eq_true (by omega), h2, by have := hW.ok.n10; omega⟩
  have k10 : k ≤ 10 := HD.out.2.2.2
  have c2 := hW.c2
  have ch := hW.ch k k10
  have ct := hW.ct k k10
  have cs := hW.cs k k10
  have f2 := hW.fz 2
  have fh := hW.fz (3 + k * 3)
  have ft := hW.fz (3 + k * 3 + 1)
  have fs := hW.fz (3 + k * 3 + 2)
  have q1 : (k : Int) < 11 := by omega
  have q0 : (0 : Int) ≤ (k : Int) := by omega
  have bt := hW.ok.t k
  obtain ⟨T, hT⟩ : ∃ T, T = x.t k := ⟨_, rfl⟩
  obtain ⟨S1, hS⟩ : ∃ S1, S1 = x.s k := ⟨_, rfl⟩
  rw [← hT] at ct bt
  rw [← hS] at cs ⊢
  have HT : Hid (T = x.t k ∧ S1 = x.s k) := ⟨hT, hS⟩
  clear hW h1 h2 k1 kn hT hS k10
  cases S1 with
  | false =>
    go_enter Try.func12, Try.ntmps12
    go_wp2_with fail
    refine (has_any g x _ _ HW.out).mono ?_
    rintro e w1 ⟨rfl, rfl⟩
    rw [HD.out.2.1]
    go_wp2_with fail
    refine (mayBe_any g x _ _ HW.out).mono ?_
    rintro e w1 ⟨rfl, rfl⟩
    rw [HD.out.1]
    go_wp2_with fail
    go_ret2
    refine ⟨rfl, ?_, ((But.refl _ _ _).set _).set _⟩
    refine HW.out.heard HD.out.2.2.1 HD.out.2.2.2 (by simp) ?_ ?_ ?_ ?_ (fun o a1 a2 a3 a4 => ?_) (fun o => by simp only [World.frozen?_setCell])
    · rw [cell_ne (by omega)]; exact cell_eq c2
    · exact cell_eq (by rw [cell_ne (by omega)]; exact ch)
    · rw [cell_ne (by omega), cell_ne (by omega), ← HT.out.2, ← HT.out.1]; exact ct
    · rw [cell_ne (by omega), cell_ne (by omega)]; exact cs
    · rw [cell_ne (by omega), cell_ne (by omega)]
  | true =>
    have bt' : (T : Int) ≤ 64 := by omega
    go_enter Try.func12, Try.ntmps12
    go_wp2_with fail
    refine (has_any g x _ _ HW.out).mono ?_
    rintro e w1 ⟨rfl, rfl⟩
    rw [HD.out.2.1]
    go_wp2_with fail
    refine (mayBe_any g x _ _ HW.out).mono ?_
    rintro e w1 ⟨rfl, rfl⟩
    rw [HD.out.1]
    go_wp2_with fail
    all_goals go_ret2
    all_goals refine ⟨rfl, ?_, ((((But.refl _ _ _).set _).set _).set _).set _⟩
    all_goals refine HW.out.heard HD.out.2.2.1 HD.out.2.2.2 (by simp) ?_ ?_ ?_ ?_ (fun o a1 a2 a3 a4 => by rw [cell_ne a2, cell_ne a3, cell_ne a4, cell_ne a1]) (fun o => by simp only [World.frozen?_setCell])
    · rw [cell_ne (by omega), cell_ne (by omega), cell_ne (by omega)]; exact cell_eq c2
    · exact cell_eq (by rw [cell_ne (by omega), cell_ne (by omega), cell_ne (by omega)]; exact ch)
    · rw [cell_ne (by omega), cell_eq (by rw [cell_ne (by omega), cell_ne (by omega)]; exact ct), ← HT.out.2, ← HT.out.1, show ((dbl true T : Nat) : Int) = 64 by unfold dbl; rw [if_pos rfl]; omega]
    · rw [cell_ne (by omega), cell_ne (by omega)]; exact cell_eq (by rw [cell_ne (by omega)]; exact cs)
    · rw [cell_ne (by omega), cell_ne (by omega), cell_ne (by omega)]; exact cell_eq c2
    · exact cell_eq (by rw [cell_ne (by omega), cell_ne (by omega), cell_ne (by omega)]; exact ch)
    · rw [cell_ne (by omega), cell_eq (by rw [cell_ne (by omega), cell_ne (by omega)]; exact ct), ← HT.out.2, ← HT.out.1, show ((dbl true T : Nat) : Int) = 2 * T by unfold dbl; rw [if_pos rfl]; omega]
    · rw [cell_ne (by omega), cell_ne (by omega)]; exact cell_eq (by rw [cell_ne (by omega)]; exact cs)
theorem heard_no (g : Nat) (x : Wt) (k m : Int) (h1 : ¬ ((1 ≤ k ∧ k ≤ (x.n : Nat)) ∧ ((x.now : Nat) : Int) ≤ m ∧ m ≤ 1099511627776)) (w : World) (hW : WatchAt w g x) : Calls Try.prog 12 #[.pointer (some ⟨g, 0, none⟩), .int .i64 k, .int .i64 m] w fun e w' => e = .returned (.tuple #[.bool false, .int .i64 1]) ∧ w' = w := by
  have HW : Hid (WatchAt w g x) := hW
  clear hW
  by_cases h2 : 1 ≤ k ∧ k ≤ (x.n : Nat)
  · have HD : Hid (decide (1 ≤ k ∧ k ≤ (x.n : Nat)) = true ∧ decide (((x.now : Nat) : Int) ≤ m ∧ m ≤ 1099511627776) = false) := ⟨decide_eq_true h2, decide_eq_false fun c => h1 ⟨h2, c⟩⟩
    clear h1 h2
    go_enter Try.func12, Try.ntmps12
    go_wp2_with fail
    refine (has_any g x _ _ HW.out).mono ?_
    rintro e w1 ⟨rfl, rfl⟩
    rw [HD.out.1]
    go_wp2_with fail
    refine (mayBe_any g x _ _ HW.out).mono ?_
    rintro e w1 ⟨rfl, rfl⟩
    rw [HD.out.2]
    go_wp2_with fail
    go_ret2
    exact ⟨rfl, rfl⟩
  · have HD : Hid (decide (1 ≤ k ∧ k ≤ (x.n : Nat)) = false) := decide_eq_false h2
    clear h1 h2
    go_enter Try.func12, Try.ntmps12
    go_wp2_with fail
    refine (has_any g x _ _ HW.out).mono ?_
    rintro e w1 ⟨rfl, rfl⟩
    rw [HD.out]
    go_wp2_with fail
    go_ret2
    exact ⟨rfl, rfl⟩
end Go.Proofs.Ytpgpbfcomobfkaa
