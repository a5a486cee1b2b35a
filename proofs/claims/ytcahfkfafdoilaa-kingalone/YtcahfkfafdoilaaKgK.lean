/- The laws KingKeeps, KingAlone. -/
import Derived.Test.YtcahfkfafdoilaaKgL
namespace Go.Proofs.Ytcahfkfafdoilaa
open Go Go.RowKit Go.Lib

theorem valI_of {l : List Int} {i c : Nat} (hc : c ≤ 1) (h : l[i]? = some (c : Int)) : valI l i = c := by
  unfold valI
  rw [h]
  have : c = 0 ∨ c = 1 := by omega
  rcases this with rfl | rfl <;> rfl
theorem kingKeeps_tab (N F S V : Int) (s : Int) (wa : Option Addr) (wl wc : Nat) (h : ¬ (1 ≤ N ∧ N ≤ 10 ∧ 0 ≤ F ∧ 3 * F < N)) (w : World) :
    Calls Try.prog 5 #[.agg #[.int .i64 N, .int .i64 F, .int .i64 S, .int .i64 V], .agg #[.int .i64 s, .slice wa wl wc]] w fun e w' => e = .returned (.bool true) ∧ Below w.heap.size w w' := by
  have HD : Hid (decide (1 ≤ N ∧ N ≤ 10 ∧ 0 ≤ F ∧ 3 * F < N) = false) := decide_eq_false h
  clear h
  obtain ⟨w2, hw2⟩ : ∃ w2, w2 = (w.alloc (.cells #[.int .i64 N, .int .i64 F, .int .i64 S, .int .i64 V] 23)).alloc (.cells #[.int .i64 s, .slice wa wl wc] 43) := ⟨_, rfl⟩
  obtain ⟨p0, p1, p3, q0, q1, hz2, hB2⟩ := seat_world hw2
  obtain ⟨A, hA⟩ : ∃ A, A = w.heap.size := ⟨_, rfl⟩
  have HA : Hid (A = w.heap.size ∧ w2.heap.size = A + 2 ∧ Below w.heap.size w w2) := ⟨hA, by omega, hB2⟩
  rw [← hA] at p0 p1 p3 q0 q1
  go_enter Try.func5, Try.ntmps5
  go_wp2_with fail
  refine (rtable_any _ _ _).mono ?_
  rintro e w3 ⟨rfl, hw3⟩
  rw [HD.out]
  obtain rfl : w3 = w2 := hw3.trans hw2.symm
  rw [← hA]
  clear hw3 hw2 hA
  go_wp2_with fail
  refine (kone_any _).mono ?_
  rintro e w4 ⟨rfl, hb⟩
  have HB : Hid (Below w.heap.size w w4) := below_call0 HA.out.2.2 hb
  clear hb
  go_wp2_with fail
  go_ret
  exact ⟨rfl, HB.out⟩
theorem kingKeeps_val (N F S V : Int) (s : Int) (wa : Option Addr) (wl wc : Nat) (h : 1 ≤ N ∧ N ≤ 10 ∧ 0 ≤ F ∧ 3 * F < N) (h0 : ¬ V = 0) (h1 : ¬ V = 1) (w : World) :
    Calls Try.prog 5 #[.agg #[.int .i64 N, .int .i64 F, .int .i64 S, .int .i64 V], .agg #[.int .i64 s, .slice wa wl wc]] w fun e w' => e = .returned (.bool true) ∧ Below w.heap.size w w' := by
  have HD : Hid (decide (1 ≤ N ∧ N ≤ 10 ∧ 0 ≤ F ∧ 3 * F < N) = true) := decide_eq_true h
  clear h
  have z0 : (V != 0) = true := by simpa using h0
  have z1 : (V != 1) = true := by simpa using h1
  obtain ⟨w2, hw2⟩ : ∃ w2, w2 = (w.alloc (.cells #[.int .i64 N, .int .i64 F, .int .i64 S, .int .i64 V] 23)).alloc (.cells #[.int .i64 s, .slice wa wl wc] 43) := ⟨_, rfl⟩
  obtain ⟨p0, p1, p3, q0, q1, hz2, hB2⟩ := seat_world hw2
  obtain ⟨A, hA⟩ : ∃ A, A = w.heap.size := ⟨_, rfl⟩
  have HA : Hid (A = w.heap.size ∧ w2.heap.size = A + 2 ∧ Below w.heap.size w w2) := ⟨hA, by omega, hB2⟩
  rw [← hA] at p0 p1 p3 q0 q1
  go_enter Try.func5, Try.ntmps5
  go_wp2_with fail
  refine (rtable_any _ _ _).mono ?_
  rintro e w3 ⟨rfl, hw3⟩
  rw [HD.out]
  obtain rfl : w3 = w2 := hw3.trans hw2.symm
  rw [← hA]
  clear hw3 hw2 hA
  go_wp2_with fail
  refine (kone_any _).mono ?_
  rintro e w4 ⟨rfl, hb⟩
  have HB : Hid (Below w.heap.size w w4) := below_call0 HA.out.2.2 hb
  clear hb
  go_wp2_with fail
  go_ret
  exact ⟨rfl, HB.out⟩
theorem kingKeeps_long0 (N F S : Int) (s : Int) (wa : Option Addr) (wl wc : Nat) (h : 1 ≤ N ∧ N ≤ 10 ∧ 0 ≤ F ∧ 3 * F < N) (h4 : 4000 < wl) (w : World) :
    Calls Try.prog 5 #[.agg #[.int .i64 N, .int .i64 F, .int .i64 S, .int .i64 0], .agg #[.int .i64 s, .slice wa wl wc]] w fun e w' => e = .returned (.bool true) ∧ Below w.heap.size w w' := by
  have HD : Hid (decide (1 ≤ N ∧ N ≤ 10 ∧ 0 ≤ F ∧ 3 * F < N) = true) := decide_eq_true h
  clear h
  have h4' : (4000 : Int) < (wl : Int) := by omega
  obtain ⟨w2, hw2⟩ : ∃ w2, w2 = (w.alloc (.cells #[.int .i64 N, .int .i64 F, .int .i64 S, .int .i64 0] 23)).alloc (.cells #[.int .i64 s, .slice wa wl wc] 43) := ⟨_, rfl⟩
  obtain ⟨p0, p1, p3, q0, q1, hz2, hB2⟩ := seat_world hw2
  obtain ⟨A, hA⟩ : ∃ A, A = w.heap.size := ⟨_, rfl⟩
  have HA : Hid (A = w.heap.size ∧ w2.heap.size = A + 2 ∧ Below w.heap.size w w2) := ⟨hA, by omega, hB2⟩
  rw [← hA] at p0 p1 p3 q0 q1
  go_enter Try.func5, Try.ntmps5
  go_wp2_with fail
  refine (rtable_any _ _ _).mono ?_
  rintro e w3 ⟨rfl, hw3⟩
  rw [HD.out]
  obtain rfl : w3 = w2 := hw3.trans hw2.symm
  rw [← hA]
  clear hw3 hw2 hA
  go_wp2_with fail
  refine (kone_any _).mono ?_
  rintro e w4 ⟨rfl, hb⟩
  have HB : Hid (Below w.heap.size w w4) := below_call0 HA.out.2.2 hb
  clear hb
  go_wp2_with fail
  go_ret
  exact ⟨rfl, HB.out⟩
theorem kingKeeps_long1 (N F S : Int) (s : Int) (wa : Option Addr) (wl wc : Nat) (h : 1 ≤ N ∧ N ≤ 10 ∧ 0 ≤ F ∧ 3 * F < N) (h4 : 4000 < wl) (w : World) :
    Calls Try.prog 5 #[.agg #[.int .i64 N, .int .i64 F, .int .i64 S, .int .i64 1], .agg #[.int .i64 s, .slice wa wl wc]] w fun e w' => e = .returned (.bool true) ∧ Below w.heap.size w w' := by
  have HD : Hid (decide (1 ≤ N ∧ N ≤ 10 ∧ 0 ≤ F ∧ 3 * F < N) = true) := decide_eq_true h
  clear h
  have h4' : (4000 : Int) < (wl : Int) := by omega
  obtain ⟨w2, hw2⟩ : ∃ w2, w2 = (w.alloc (.cells #[.int .i64 N, .int .i64 F, .int .i64 S, .int .i64 1] 23)).alloc (.cells #[.int .i64 s, .slice wa wl wc] 43) := ⟨_, rfl⟩
  obtain ⟨p0, p1, p3, q0, q1, hz2, hB2⟩ := seat_world hw2
  obtain ⟨A, hA⟩ : ∃ A, A = w.heap.size := ⟨_, rfl⟩
  have HA : Hid (A = w.heap.size ∧ w2.heap.size = A + 2 ∧ Below w.heap.size w w2) := ⟨hA, by omega, hB2⟩
  rw [← hA] at p0 p1 p3 q0 q1
  go_enter Try.func5, Try.ntmps5
  go_wp2_with fail
  refine (rtable_any _ _ _).mono ?_
  rintro e w3 ⟨rfl, hw3⟩
  rw [HD.out]
  obtain rfl : w3 = w2 := hw3.trans hw2.symm
  rw [← hA]
  clear hw3 hw2 hA
  go_wp2_with fail
  refine (kone_any _).mono ?_
  rintro e w4 ⟨rfl, hb⟩
  have HB : Hid (Below w.heap.size w w4) := below_call0 HA.out.2.2 hb
  clear hb
  go_wp2_with fail
  go_ret
  exact ⟨rfl, HB.out⟩
set_option maxRecDepth 100000 in
set_option maxHeartbeats 8000000 in
theorem kingKeeps_ok (n f c : Nat) (S : Int) (s : Int) (wa : Option Addr) (wl wc : Nat) (words : List Int) (h1 : 1 ≤ n) (h10 : n ≤ 10) (hf : 3 * f < n) (hcc : c = 0 ∨ c = 1) (hwl : wl = words.length) (h4 : wl ≤ 4000) (w : World) (hWd : IntsAt w wa words) :
    Calls Try.prog 5 #[.agg #[.int .i64 (n : Nat), .int .i64 (f : Nat), .int .i64 S, .int .i64 (c : Nat)], .agg #[.int .i64 s, .slice wa wl wc]] w fun e w' => e = .returned (.bool true) ∧ Below w.heap.size w w' := by
  have HD : Hid (decide (1 ≤ (n : Int) ∧ (n : Int) ≤ 10 ∧ 0 ≤ (f : Int) ∧ 3 * (f : Int) < (n : Int)) = true) := decide_eq_true (by omega)
  obtain ⟨w2, hw2⟩ : ∃ w2, w2 = (w.alloc (.cells #[.int .i64 (n : Nat), .int .i64 (f : Nat), .int .i64 S, .int .i64 (c : Nat)] 23)).alloc (.cells #[.int .i64 s, .slice wa wl wc] 43) := ⟨_, rfl⟩
  obtain ⟨p0, p1, p3, q0, q1, hz2, hB2⟩ := seat_world hw2
  obtain ⟨A, hA⟩ : ∃ A, A = w.heap.size := ⟨_, rfl⟩
  have HA : Hid (A = w.heap.size ∧ w2.heap.size = A + 2 ∧ Below w.heap.size w w2) := ⟨hA, by omega, hB2⟩
  rw [← hA] at p0 p1 p3 q0 q1
  have h4' : ¬ ((4000 : Int) < (wl : Int)) := by omega
  have HC : Hid (1 ≤ n ∧ n ≤ 10 ∧ 3 * f < n ∧ c ≤ 1 ∧ wl = words.length ∧ wl ≤ 4000) := ⟨h1, h10, hf, by omega, hwl, h4⟩
  have HI : Hid (IntsAt w wa words) := hWd
  have n10 : (n : Int) ≤ 10 := by omega
  have KF : Hid (∀ i, i < n → ∀ w, Calls Try.prog 22 #[.int .i64 s, .int .i64 (f : Nat), .int .i64 (i : Nat)] w fun e w' => e = .returned (.bool (flB s f i)) ∧ w' = w) := fun i hi w => fails_any s f i (by have := HC.out; omega) (by have := HC.out; omega) w
  clear h1 h10 hf hwl h4 hWd hz2 hB2
  rcases hcc with rfl | rfl
  · go_enter Try.func5, Try.ntmps5
    go_wp2_with fail
    refine (rtable_any _ _ _).mono ?_
    rintro e w3 ⟨rfl, hw3⟩
    rw [HD.out]
    obtain rfl : w3 = w2 := hw3.trans hw2.symm
    rw [← hA]
    clear hw3 hw2 hA
    go_wp2_with fail
    rename_i Kr hKr
    have HKr : Hid _ := hKr
    clear hKr
    have HP : Hid (w3.cell? ⟨A, 0, none⟩ = some (.int .i64 (n : Nat)) ∧ w3.cell? ⟨A, 1, none⟩ = some (.int .i64 (f : Nat)) ∧ w3.cell? ⟨A, 3, none⟩ = some (.int .i64 0) ∧ w3.cell? ⟨A + 1, 0, none⟩ = some (.int .i64 s) ∧ w3.cell? ⟨A + 1, 1, none⟩ = some (.slice wa wl wc)) := ⟨p0, p1, p3, q0, q1⟩
    clear p0 p1 p3 q0 q1
    go_loopw [5, 6] (fun ov iv wr => ∃ (i m : Nat) (ta : Option Addr) (tc : Nat) (T : List Int), i ≤ n ∧ m = i ∧ T.length = i ∧ ov = .slice ta m tc ∧ iv = .int .i64 (i : Nat) ∧ RowI wr w3.heap.size ta T tc ∧ Below w3.heap.size w3 wr ∧ ∀ j, j < i → flB s f j = false → T[j]? = some 0) (fun _ iv _ => n - (Go.RowKit.intOf iv).toNat)
    case atStart => exact ⟨0, 0, none, 0, [], Nat.zero_le _, rfl, rfl, rfl, rfl, RowI.nil _ _, Below.refl _ _, fun j hj => absurd hj (by omega)⟩
    case round =>
      obtain ⟨i, m, ta, tc, T, hi, hm, hTl, rfl, rfl, hRow, hB, hTo⟩ := hrel
      rename World => wr
      have HK : Hid (m = i ∧ T.length = i ∧ RowI wr w3.heap.size ta T tc ∧ Below w3.heap.size w3 wr ∧ ∀ j, j < i → flB s f j = false → T[j]? = some 0) := ⟨hm, hTl, hRow, hB, hTo⟩
      have ec : ∀ k o, k < A + 2 → wr.cell? ⟨k, o, none⟩ = w3.cell? ⟨k, o, none⟩ := fun k o hk => hB.cell (p := ⟨k, o, none⟩) (by have := HA.out; show k < _; omega)
      have c0 := (ec A 0 (by omega)).trans HP.out.1
      have c1 := (ec A 1 (by omega)).trans HP.out.2.1
      have c3 := (ec A 3 (by omega)).trans HP.out.2.2.1
      have d0 := (ec (A + 1) 0 (by omega)).trans HP.out.2.2.2.1
      clear ec
      by_cases hlt : i < n
      · have hlt' : (i : Int) < (n : Int) := by omega
        have HLT : Hid (i < n) := hlt
        obtain ⟨D, hD⟩ : ∃ D, D = flB s f i := ⟨_, rfl⟩
        have KF1 : Hid (∀ w, Calls Try.prog 22 #[.int .i64 s, .int .i64 (f : Nat), .int .i64 (i : Nat)] w fun e w' => e = .returned (.bool D) ∧ w' = w) := by rw [hD]; exact KF.out i hlt
        have HDD : Hid (D = flB s f i) := hD
        clear HKr hi hm hTl hRow hB hTo hlt hD
        cases D with
        | true =>
          go_wp2_with fail
          refine (KF1.out _).mono ?_
          rintro e w6 ⟨rfl, hw6⟩
          obtain rfl : wr = w6 := hw6.symm
          obtain ⟨w7, hw7⟩ : ∃ w7, w7 = wr.alloc (.cells #[.int .i64 1] 3) := ⟨_, rfl⟩
          have hb7 : Below wr.heap.size wr w7 := by rw [hw7]; exact below_alloc0 (Below.refl _ _) _
          have hc7 : w7.cell? ⟨wr.heap.size, 0, none⟩ = some (.int .i64 1) := by rw [hw7, World.cell?_alloc_new]; rfl
          have H7 : Hid (RowI w7 w3.heap.size ta T tc ∧ Below w3.heap.size w3 w7 ∧ w7.cell? ⟨wr.heap.size, 0, none⟩ = some (.int .i64 1) ∧ w7 = wr.alloc (.cells #[.int .i64 1] 3)) := ⟨HK.out.2.2.1.call hb7, below_call0 HK.out.2.2.2.1 hb7, hc7, hw7⟩
          clear hb7 hc7 hw7
          go_wp2_with (at_builtin; change wpList _ _ _ _ _ (wr.alloc (.cells #[.int .i64 1] 3)); rw [← H7.out.2.2.2]; refine wpList_append_RowI _ rfl _ _ rfl w3.heap.size ta m tc T 1 rfl (by rw [HK.out.2.1]; exact HK.out.1) H7.out.1 H7.out.2.1.size (by rw [HK.out.2.1]; have := HLT.out; have := HC.out.2.1; omega) ⟨wr.heap.size, 0, none⟩ 1 rfl H7.out.2.2.1 ?_; intro a9 m9 cap9 w9 hm9 hR9 hb9; have H9 : Hid (m9 = m + 1 ∧ RowI w9 w3.heap.size a9 (T ++ [1]) cap9 ∧ Below w3.heap.size w7 w9) := ⟨hm9, hR9, hb9⟩; clear hm9 hR9 hb9)
          have HE : Hid (m9 = i + 1 ∧ (T ++ [1]).length = i + 1 ∧ RowI w9 w3.heap.size a9 (T ++ [1]) cap9 ∧ Below w3.heap.size w3 w9 ∧ ∀ j, j < i + 1 → flB s f j = false → (T ++ [1])[j]? = some 0) := by
            refine ⟨by rw [H9.out.1, HK.out.1], by rw [List.length_append, HK.out.2.1]; rfl, H9.out.2.1, H7.out.2.1.trans H9.out.2.2, fun j hj hfl => ?_⟩
            by_cases q : j < i
            · rw [List.getElem?_append_left (by rw [HK.out.2.1]; exact q)]; exact HK.out.2.2.2.2 j q hfl
            · obtain rfl : j = i := by omega
              rw [← HDD.out] at hfl; cases hfl
          go_roundw
          case rel => first | exact ⟨i + 1, m9, a9, cap9, T ++ [1], HLT.out, HE.out.1, HE.out.2.1, rfl, by go_num, HE.out.2.2⟩ | ((repeat apply Exists.intro); exact ⟨⟨i + 1, m9, a9, cap9, T ++ [1], HLT.out, HE.out.1, HE.out.2.1, rfl, by go_num, HE.out.2.2⟩, rfl⟩)
          case measure => have h1 := HLT.out; simp [Go.RowKit.intOf]; omega
        | false =>
          go_wp2_with fail
          refine (KF1.out _).mono ?_
          rintro e w6 ⟨rfl, hw6⟩
          obtain rfl : wr = w6 := hw6.symm
          obtain ⟨w7, hw7⟩ : ∃ w7, w7 = wr.alloc (.cells #[.int .i64 0] 3) := ⟨_, rfl⟩
          have hb7 : Below wr.heap.size wr w7 := by rw [hw7]; exact below_alloc0 (Below.refl _ _) _
          have hc7 : w7.cell? ⟨wr.heap.size, 0, none⟩ = some (.int .i64 0) := by rw [hw7, World.cell?_alloc_new]; rfl
          have H7 : Hid (RowI w7 w3.heap.size ta T tc ∧ Below w3.heap.size w3 w7 ∧ w7.cell? ⟨wr.heap.size, 0, none⟩ = some (.int .i64 0) ∧ w7 = wr.alloc (.cells #[.int .i64 0] 3)) := ⟨HK.out.2.2.1.call hb7, below_call0 HK.out.2.2.2.1 hb7, hc7, hw7⟩
          clear hb7 hc7 hw7
          go_wp2_with (at_builtin; change wpList _ _ _ _ _ (wr.alloc (.cells #[.int .i64 0] 3)); rw [← H7.out.2.2.2]; refine wpList_append_RowI _ rfl _ _ rfl w3.heap.size ta m tc T 0 rfl (by rw [HK.out.2.1]; exact HK.out.1) H7.out.1 H7.out.2.1.size (by rw [HK.out.2.1]; have := HLT.out; have := HC.out.2.1; omega) ⟨wr.heap.size, 0, none⟩ 1 rfl H7.out.2.2.1 ?_; intro a9 m9 cap9 w9 hm9 hR9 hb9; have H9 : Hid (m9 = m + 1 ∧ RowI w9 w3.heap.size a9 (T ++ [0]) cap9 ∧ Below w3.heap.size w7 w9) := ⟨hm9, hR9, hb9⟩; clear hm9 hR9 hb9)
          have HE : Hid (m9 = i + 1 ∧ (T ++ [0]).length = i + 1 ∧ RowI w9 w3.heap.size a9 (T ++ [0]) cap9 ∧ Below w3.heap.size w3 w9 ∧ ∀ j, j < i + 1 → flB s f j = false → (T ++ [0])[j]? = some 0) := by
            refine ⟨by rw [H9.out.1, HK.out.1], by rw [List.length_append, HK.out.2.1]; rfl, H9.out.2.1, H7.out.2.1.trans H9.out.2.2, fun j hj hfl => ?_⟩
            by_cases q : j < i
            · rw [List.getElem?_append_left (by rw [HK.out.2.1]; exact q)]; exact HK.out.2.2.2.2 j q hfl
            · obtain rfl : j = i := by omega
              rw [List.getElem?_append_right (by have := HK.out.2.1; omega), HK.out.2.1, Nat.sub_self]; rfl
          go_roundw
          case rel => first | exact ⟨i + 1, m9, a9, cap9, T ++ [0], HLT.out, HE.out.1, HE.out.2.1, rfl, by go_num, HE.out.2.2⟩ | ((repeat apply Exists.intro); exact ⟨⟨i + 1, m9, a9, cap9, T ++ [0], HLT.out, HE.out.1, HE.out.2.1, rfl, by go_num, HE.out.2.2⟩, rfl⟩)
          case measure => have h1 := HLT.out; simp [Go.RowKit.intOf]; omega
      · obtain rfl : i = n := by omega
        have hnl : ¬ ((i : Int) < (i : Int)) := Int.lt_irrefl _
        have HBr : Hid (Below w3.heap.size w3 wr ∧ IntsAt wr ta T) := ⟨hB, hRow.ints⟩
        have HTo : Hid (∀ j, j < i → flB s f j = false → T[j]? = some 0) := hTo
        clear hlt hi hm hTl hRow hB hTo
        go_wp2_with fail
        refine HKr.out _ _ ?_
        clear HKr
        go_wp2_with fail
        refine (table_any i f HC.out.1 HC.out.2.1 HC.out.2.2.1 ta T m tc (by rw [HK.out.2.1]; exact HK.out.1) _ HBr.out.2).mono ?_
        rintro e w4 ⟨pa, pc, gs, rfl, hT, hB4⟩
        have HB4 : Hid (TabAt w4 wr.heap.size pa pc gs (tabX i f T i) ∧ Below wr.heap.size wr w4 ∧ Below w3.heap.size w3 w4) := ⟨hT, hB4, below_call0 HBr.out.1 hB4⟩
        have ec : ∀ k o, k < A + 2 → w4.cell? ⟨k, o, none⟩ = w3.cell? ⟨k, o, none⟩ := fun k o hk => HB4.out.2.2.cell (p := ⟨k, o, none⟩) (by have := HA.out; show k < _; omega)
        have r0 := (ec A 0 (by omega)).trans HP.out.1
        have r1 := (ec A 1 (by omega)).trans HP.out.2.1
        have s0 := (ec (A + 1) 0 (by omega)).trans HP.out.2.2.2.1
        have s1 := (ec (A + 1) 1 (by omega)).trans HP.out.2.2.2.2
        clear c0 c1 c3 d0 hT hB4 ec
        have hsz : w3.heap.size ≤ wr.heap.size := HBr.out.1.size
        have hge : ∀ g ∈ gs, w.heap.size ≤ g := fun g hg => by have := HB4.out.1.ge g hg; have := HA.out; omega
        have HPL : Hid _ := play_any i f (fun r X => Agr (flB s f) 0 r X) s (tabX i f T i) (fun j x hx hfl => by
            obtain ⟨rfl, hj⟩ := tabX_get hx
            exact ⟨valI_of (by decide) (HTo.out j hj hfl), fun q => by simp at q⟩) (fun r X Y hr hTb hk hrd => hk.step (by decide) (flB_le s f i) hTb hrd) HC.out.2.1 (tabX_tab T HC.out.1 HC.out.2.2.1) pa pc wr.heap.size gs wa wl wc words HC.out.2.2.2.2.1 HC.out.2.2.2.2.2 w4 HB4.out.1 ((show IntsAt w wa words from HI.out).off (below_call0 HA.out.2.2 HB4.out.2.2) hge)
        clear hge
        go_wp2_with fail
        refine Calls.mono HPL.out ?_
        rintro e w5 ⟨rfl, ⟨Y, hY1, hY2, hY3⟩, hkp⟩
        have HLS : Hid (LS w5 gs pa i f 0 s Y) := ⟨hY1, hY2, hY3, PEptrs HB4.out.1 hkp⟩
        have hAn : ∀ k, k < A + 2 → k < w4.heap.size ∧ k ∉ gs := fun k hk => ⟨by have := HA.out; have := HB4.out.2.2.size; omega, fun q => by have := HB4.out.1.ge k q; have := HA.out; omega⟩
        have ec : ∀ k o, k < A + 2 → w5.cell? ⟨k, o, none⟩ = w4.cell? ⟨k, o, none⟩ := fun k o hk => World.cell?_of_block (w := w4) (a := ⟨k, o, none⟩) (hkp.block (hAn k hk).1 (hAn k hk).2)
        have ec3 : ∀ k o, k < A + 2 → w4.cell? ⟨k, o, none⟩ = w3.cell? ⟨k, o, none⟩ := fun k o hk => HB4.out.2.2.cell (p := ⟨k, o, none⟩) (by have := HA.out; show k < _; omega)
        have t1 := (ec A 1 (by omega)).trans r1
        have t3 := ((ec A 3 (by omega)).trans (ec3 A 3 (by omega))).trans HP.out.2.2.1
        have u0 := (ec (A + 1) 0 (by omega)).trans s0
        have HB5 : Hid (Below w.heap.size w w5) := (below_call0 HA.out.2.2 HB4.out.2.2).trans (hkp.below (by have := HB4.out.2.2.size; have := HA.out; omega) (fun g hg => by have := HB4.out.1.ge g hg; have := HA.out; omega))
        clear r0 r1 s0 s1 hY1 hY2 hY3 hkp hAn ec ec3 HPL hsz
        go_wp2_with fail
        rename_i KrB hKrB
        have HKrB : Hid _ := hKrB
        clear hKrB
        go_loopw [79] (fun iv wz => ∃ j : Nat, j ≤ i ∧ iv = .int .i64 (j : Nat) ∧ w5 = wz) (fun iv _ => i - (Go.RowKit.intOf iv).toNat)
        case atStart => exact ⟨0, Nat.zero_le _, rfl, rfl⟩
        case round =>
          obtain ⟨j, hj, rfl, hwr⟩ := hrel
          subst hwr
          by_cases hjl : j < i
          · have hjl' : (j : Int) < (i : Int) := by omega
            have HJL : Hid (j < i) := hjl
            obtain ⟨g, x, pb, po, ha, cp, hN, hr, hv⟩ := HLS.out.get hjl
            subst ha
            obtain ⟨D, hD⟩ : ∃ D, D = flB s f j := ⟨_, rfl⟩
            have KF1 : Hid (∀ w, Calls Try.prog 22 #[.int .i64 s, .int .i64 (f : Nat), .int .i64 (j : Nat)] w fun e w' => e = .returned (.bool D) ∧ w' = w) := by rw [hD]; exact KF.out j hjl
            have KD : Hid (Calls Try.prog 18 #[.pointer (some ⟨g, 0, none⟩)] w5 fun e w' => e = .returned (.tuple #[.int .i64 (x.v : Nat), .bool true]) ∧ w' = w5) := kdone_yes g x _ hN hr
            have HV : Hid (D = false → x.v = 0) := by rw [hD]; exact hv
            clear HKrB hj hjl hN hr hv hD
            cases D with
            | true =>
              go_wp2_with fail
              refine Calls.mono KD.out ?_
              rintro e w6 ⟨rfl, hw6⟩
              obtain rfl : w5 = w6 := hw6.symm
              go_wp2_with fail
              refine (KF1.out _).mono ?_
              rintro e w6 ⟨rfl, hw6⟩
              obtain rfl : w5 = w6 := hw6.symm
              go_wp2_with fail
              go_roundw
              case rel => first | exact ⟨j + 1, HJL.out, by go_num, by first | rfl | trivial⟩ | ((repeat apply Exists.intro); exact ⟨⟨j + 1, HJL.out, by go_num, by first | rfl | trivial⟩, rfl⟩)
              case measure => have h1 := HJL.out; simp [Go.RowKit.intOf]; omega
            | false =>
              have hx := HV.out rfl
              rw [hx] at KD
              clear hx
              go_wp2_with fail
              refine Calls.mono KD.out ?_
              rintro e w6 ⟨rfl, hw6⟩
              obtain rfl : w5 = w6 := hw6.symm
              go_wp2_with fail
              refine (KF1.out _).mono ?_
              rintro e w6 ⟨rfl, hw6⟩
              obtain rfl : w5 = w6 := hw6.symm
              go_wp2_with fail
              go_roundw
              case rel => first | exact ⟨j + 1, HJL.out, by go_num, by first | rfl | trivial⟩ | ((repeat apply Exists.intro); exact ⟨⟨j + 1, HJL.out, by go_num, by first | rfl | trivial⟩, rfl⟩)
              case measure => have h1 := HJL.out; simp [Go.RowKit.intOf]; omega
          · obtain rfl : j = i := by omega
            have hnl : ¬ ((j : Int) < (j : Int)) := Int.lt_irrefl _
            clear hjl hj
            go_wp2_with fail
            refine HKrB.out _ _ ?_
            clear HKrB
            go_wp2_with fail
            refine (kone_any _).mono ?_
            rintro e w6 ⟨rfl, hb⟩
            have HB : Hid (Below w.heap.size w w6) := below_call0 HB5.out hb
            clear hb
            go_wp2_with fail
            go_ret
            exact ⟨rfl, HB.out⟩
  · go_enter Try.func5, Try.ntmps5
    go_wp2_with fail
    refine (rtable_any _ _ _).mono ?_
    rintro e w3 ⟨rfl, hw3⟩
    rw [HD.out]
    obtain rfl : w3 = w2 := hw3.trans hw2.symm
    rw [← hA]
    clear hw3 hw2 hA
    go_wp2_with fail
    rename_i Kr hKr
    have HKr : Hid _ := hKr
    clear hKr
    have HP : Hid (w3.cell? ⟨A, 0, none⟩ = some (.int .i64 (n : Nat)) ∧ w3.cell? ⟨A, 1, none⟩ = some (.int .i64 (f : Nat)) ∧ w3.cell? ⟨A, 3, none⟩ = some (.int .i64 1) ∧ w3.cell? ⟨A + 1, 0, none⟩ = some (.int .i64 s) ∧ w3.cell? ⟨A + 1, 1, none⟩ = some (.slice wa wl wc)) := ⟨p0, p1, p3, q0, q1⟩
    clear p0 p1 p3 q0 q1
    go_loopw [5, 6] (fun ov iv wr => ∃ (i m : Nat) (ta : Option Addr) (tc : Nat) (T : List Int), i ≤ n ∧ m = i ∧ T.length = i ∧ ov = .slice ta m tc ∧ iv = .int .i64 (i : Nat) ∧ RowI wr w3.heap.size ta T tc ∧ Below w3.heap.size w3 wr ∧ ∀ j, j < i → flB s f j = false → T[j]? = some 1) (fun _ iv _ => n - (Go.RowKit.intOf iv).toNat)
    case atStart => exact ⟨0, 0, none, 0, [], Nat.zero_le _, rfl, rfl, rfl, rfl, RowI.nil _ _, Below.refl _ _, fun j hj => absurd hj (by omega)⟩
    case round =>
      obtain ⟨i, m, ta, tc, T, hi, hm, hTl, rfl, rfl, hRow, hB, hTo⟩ := hrel
      rename World => wr
      have HK : Hid (m = i ∧ T.length = i ∧ RowI wr w3.heap.size ta T tc ∧ Below w3.heap.size w3 wr ∧ ∀ j, j < i → flB s f j = false → T[j]? = some 1) := ⟨hm, hTl, hRow, hB, hTo⟩
      have ec : ∀ k o, k < A + 2 → wr.cell? ⟨k, o, none⟩ = w3.cell? ⟨k, o, none⟩ := fun k o hk => hB.cell (p := ⟨k, o, none⟩) (by have := HA.out; show k < _; omega)
      have c0 := (ec A 0 (by omega)).trans HP.out.1
      have c1 := (ec A 1 (by omega)).trans HP.out.2.1
      have c3 := (ec A 3 (by omega)).trans HP.out.2.2.1
      have d0 := (ec (A + 1) 0 (by omega)).trans HP.out.2.2.2.1
      clear ec
      by_cases hlt : i < n
      · have hlt' : (i : Int) < (n : Int) := by omega
        have HLT : Hid (i < n) := hlt
        obtain ⟨D, hD⟩ : ∃ D, D = flB s f i := ⟨_, rfl⟩
        have KF1 : Hid (∀ w, Calls Try.prog 22 #[.int .i64 s, .int .i64 (f : Nat), .int .i64 (i : Nat)] w fun e w' => e = .returned (.bool D) ∧ w' = w) := by rw [hD]; exact KF.out i hlt
        have HDD : Hid (D = flB s f i) := hD
        clear HKr hi hm hTl hRow hB hTo hlt hD
        cases D with
        | true =>
          go_wp2_with fail
          refine (KF1.out _).mono ?_
          rintro e w6 ⟨rfl, hw6⟩
          obtain rfl : wr = w6 := hw6.symm
          obtain ⟨w7, hw7⟩ : ∃ w7, w7 = wr.alloc (.cells #[.int .i64 0] 3) := ⟨_, rfl⟩
          have hb7 : Below wr.heap.size wr w7 := by rw [hw7]; exact below_alloc0 (Below.refl _ _) _
          have hc7 : w7.cell? ⟨wr.heap.size, 0, none⟩ = some (.int .i64 0) := by rw [hw7, World.cell?_alloc_new]; rfl
          have H7 : Hid (RowI w7 w3.heap.size ta T tc ∧ Below w3.heap.size w3 w7 ∧ w7.cell? ⟨wr.heap.size, 0, none⟩ = some (.int .i64 0) ∧ w7 = wr.alloc (.cells #[.int .i64 0] 3)) := ⟨HK.out.2.2.1.call hb7, below_call0 HK.out.2.2.2.1 hb7, hc7, hw7⟩
          clear hb7 hc7 hw7
          go_wp2_with (at_builtin; change wpList _ _ _ _ _ (wr.alloc (.cells #[.int .i64 0] 3)); rw [← H7.out.2.2.2]; refine wpList_append_RowI _ rfl _ _ rfl w3.heap.size ta m tc T 0 rfl (by rw [HK.out.2.1]; exact HK.out.1) H7.out.1 H7.out.2.1.size (by rw [HK.out.2.1]; have := HLT.out; have := HC.out.2.1; omega) ⟨wr.heap.size, 0, none⟩ 1 rfl H7.out.2.2.1 ?_; intro a9 m9 cap9 w9 hm9 hR9 hb9; have H9 : Hid (m9 = m + 1 ∧ RowI w9 w3.heap.size a9 (T ++ [0]) cap9 ∧ Below w3.heap.size w7 w9) := ⟨hm9, hR9, hb9⟩; clear hm9 hR9 hb9)
          have HE : Hid (m9 = i + 1 ∧ (T ++ [0]).length = i + 1 ∧ RowI w9 w3.heap.size a9 (T ++ [0]) cap9 ∧ Below w3.heap.size w3 w9 ∧ ∀ j, j < i + 1 → flB s f j = false → (T ++ [0])[j]? = some 1) := by
            refine ⟨by rw [H9.out.1, HK.out.1], by rw [List.length_append, HK.out.2.1]; rfl, H9.out.2.1, H7.out.2.1.trans H9.out.2.2, fun j hj hfl => ?_⟩
            by_cases q : j < i
            · rw [List.getElem?_append_left (by rw [HK.out.2.1]; exact q)]; exact HK.out.2.2.2.2 j q hfl
            · obtain rfl : j = i := by omega
              rw [← HDD.out] at hfl; cases hfl
          go_roundw
          case rel => first | exact ⟨i + 1, m9, a9, cap9, T ++ [0], HLT.out, HE.out.1, HE.out.2.1, rfl, by go_num, HE.out.2.2⟩ | ((repeat apply Exists.intro); exact ⟨⟨i + 1, m9, a9, cap9, T ++ [0], HLT.out, HE.out.1, HE.out.2.1, rfl, by go_num, HE.out.2.2⟩, rfl⟩)
          case measure => have h1 := HLT.out; simp [Go.RowKit.intOf]; omega
        | false =>
          go_wp2_with fail
          refine (KF1.out _).mono ?_
          rintro e w6 ⟨rfl, hw6⟩
          obtain rfl : wr = w6 := hw6.symm
          obtain ⟨w7, hw7⟩ : ∃ w7, w7 = wr.alloc (.cells #[.int .i64 1] 3) := ⟨_, rfl⟩
          have hb7 : Below wr.heap.size wr w7 := by rw [hw7]; exact below_alloc0 (Below.refl _ _) _
          have hc7 : w7.cell? ⟨wr.heap.size, 0, none⟩ = some (.int .i64 1) := by rw [hw7, World.cell?_alloc_new]; rfl
          have H7 : Hid (RowI w7 w3.heap.size ta T tc ∧ Below w3.heap.size w3 w7 ∧ w7.cell? ⟨wr.heap.size, 0, none⟩ = some (.int .i64 1) ∧ w7 = wr.alloc (.cells #[.int .i64 1] 3)) := ⟨HK.out.2.2.1.call hb7, below_call0 HK.out.2.2.2.1 hb7, hc7, hw7⟩
          clear hb7 hc7 hw7
          go_wp2_with (at_builtin; change wpList _ _ _ _ _ (wr.alloc (.cells #[.int .i64 1] 3)); rw [← H7.out.2.2.2]; refine wpList_append_RowI _ rfl _ _ rfl w3.heap.size ta m tc T 1 rfl (by rw [HK.out.2.1]; exact HK.out.1) H7.out.1 H7.out.2.1.size (by rw [HK.out.2.1]; have := HLT.out; have := HC.out.2.1; omega) ⟨wr.heap.size, 0, none⟩ 1 rfl H7.out.2.2.1 ?_; intro a9 m9 cap9 w9 hm9 hR9 hb9; have H9 : Hid (m9 = m + 1 ∧ RowI w9 w3.heap.size a9 (T ++ [1]) cap9 ∧ Below w3.heap.size w7 w9) := ⟨hm9, hR9, hb9⟩; clear hm9 hR9 hb9)
          have HE : Hid (m9 = i + 1 ∧ (T ++ [1]).length = i + 1 ∧ RowI w9 w3.heap.size a9 (T ++ [1]) cap9 ∧ Below w3.heap.size w3 w9 ∧ ∀ j, j < i + 1 → flB s f j = false → (T ++ [1])[j]? = some 1) := by
            refine ⟨by rw [H9.out.1, HK.out.1], by rw [List.length_append, HK.out.2.1]; rfl, H9.out.2.1, H7.out.2.1.trans H9.out.2.2, fun j hj hfl => ?_⟩
            by_cases q : j < i
            · rw [List.getElem?_append_left (by rw [HK.out.2.1]; exact q)]; exact HK.out.2.2.2.2 j q hfl
            · obtain rfl : j = i := by omega
              rw [List.getElem?_append_right (by have := HK.out.2.1; omega), HK.out.2.1, Nat.sub_self]; rfl
          go_roundw
          case rel => first | exact ⟨i + 1, m9, a9, cap9, T ++ [1], HLT.out, HE.out.1, HE.out.2.1, rfl, by go_num, HE.out.2.2⟩ | ((repeat apply Exists.intro); exact ⟨⟨i + 1, m9, a9, cap9, T ++ [1], HLT.out, HE.out.1, HE.out.2.1, rfl, by go_num, HE.out.2.2⟩, rfl⟩)
          case measure => have h1 := HLT.out; simp [Go.RowKit.intOf]; omega
      · obtain rfl : i = n := by omega
        have hnl : ¬ ((i : Int) < (i : Int)) := Int.lt_irrefl _
        have HBr : Hid (Below w3.heap.size w3 wr ∧ IntsAt wr ta T) := ⟨hB, hRow.ints⟩
        have HTo : Hid (∀ j, j < i → flB s f j = false → T[j]? = some 1) := hTo
        clear hlt hi hm hTl hRow hB hTo
        go_wp2_with fail
        refine HKr.out _ _ ?_
        clear HKr
        go_wp2_with fail
        refine (table_any i f HC.out.1 HC.out.2.1 HC.out.2.2.1 ta T m tc (by rw [HK.out.2.1]; exact HK.out.1) _ HBr.out.2).mono ?_
        rintro e w4 ⟨pa, pc, gs, rfl, hT, hB4⟩
        have HB4 : Hid (TabAt w4 wr.heap.size pa pc gs (tabX i f T i) ∧ Below wr.heap.size wr w4 ∧ Below w3.heap.size w3 w4) := ⟨hT, hB4, below_call0 HBr.out.1 hB4⟩
        have ec : ∀ k o, k < A + 2 → w4.cell? ⟨k, o, none⟩ = w3.cell? ⟨k, o, none⟩ := fun k o hk => HB4.out.2.2.cell (p := ⟨k, o, none⟩) (by have := HA.out; show k < _; omega)
        have r0 := (ec A 0 (by omega)).trans HP.out.1
        have r1 := (ec A 1 (by omega)).trans HP.out.2.1
        have s0 := (ec (A + 1) 0 (by omega)).trans HP.out.2.2.2.1
        have s1 := (ec (A + 1) 1 (by omega)).trans HP.out.2.2.2.2
        clear c0 c1 c3 d0 hT hB4 ec
        have hsz : w3.heap.size ≤ wr.heap.size := HBr.out.1.size
        have hge : ∀ g ∈ gs, w.heap.size ≤ g := fun g hg => by have := HB4.out.1.ge g hg; have := HA.out; omega
        have HPL : Hid _ := play_any i f (fun r X => Agr (flB s f) 1 r X) s (tabX i f T i) (fun j x hx hfl => by
            obtain ⟨rfl, hj⟩ := tabX_get hx
            exact ⟨valI_of (by decide) (HTo.out j hj hfl), fun q => by simp at q⟩) (fun r X Y hr hTb hk hrd => hk.step (by decide) (flB_le s f i) hTb hrd) HC.out.2.1 (tabX_tab T HC.out.1 HC.out.2.2.1) pa pc wr.heap.size gs wa wl wc words HC.out.2.2.2.2.1 HC.out.2.2.2.2.2 w4 HB4.out.1 ((show IntsAt w wa words from HI.out).off (below_call0 HA.out.2.2 HB4.out.2.2) hge)
        clear hge
        go_wp2_with fail
        refine Calls.mono HPL.out ?_
        rintro e w5 ⟨rfl, ⟨Y, hY1, hY2, hY3⟩, hkp⟩
        have HLS : Hid (LS w5 gs pa i f 1 s Y) := ⟨hY1, hY2, hY3, PEptrs HB4.out.1 hkp⟩
        have hAn : ∀ k, k < A + 2 → k < w4.heap.size ∧ k ∉ gs := fun k hk => ⟨by have := HA.out; have := HB4.out.2.2.size; omega, fun q => by have := HB4.out.1.ge k q; have := HA.out; omega⟩
        have ec : ∀ k o, k < A + 2 → w5.cell? ⟨k, o, none⟩ = w4.cell? ⟨k, o, none⟩ := fun k o hk => World.cell?_of_block (w := w4) (a := ⟨k, o, none⟩) (hkp.block (hAn k hk).1 (hAn k hk).2)
        have ec3 : ∀ k o, k < A + 2 → w4.cell? ⟨k, o, none⟩ = w3.cell? ⟨k, o, none⟩ := fun k o hk => HB4.out.2.2.cell (p := ⟨k, o, none⟩) (by have := HA.out; show k < _; omega)
        have t1 := (ec A 1 (by omega)).trans r1
        have t3 := ((ec A 3 (by omega)).trans (ec3 A 3 (by omega))).trans HP.out.2.2.1
        have u0 := (ec (A + 1) 0 (by omega)).trans s0
        have HB5 : Hid (Below w.heap.size w w5) := (below_call0 HA.out.2.2 HB4.out.2.2).trans (hkp.below (by have := HB4.out.2.2.size; have := HA.out; omega) (fun g hg => by have := HB4.out.1.ge g hg; have := HA.out; omega))
        clear r0 r1 s0 s1 hY1 hY2 hY3 hkp hAn ec ec3 HPL hsz
        go_wp2_with fail
        rename_i KrB hKrB
        have HKrB : Hid _ := hKrB
        clear hKrB
        go_loopw [79] (fun iv wz => ∃ j : Nat, j ≤ i ∧ iv = .int .i64 (j : Nat) ∧ w5 = wz) (fun iv _ => i - (Go.RowKit.intOf iv).toNat)
        case atStart => exact ⟨0, Nat.zero_le _, rfl, rfl⟩
        case round =>
          obtain ⟨j, hj, rfl, hwr⟩ := hrel
          subst hwr
          by_cases hjl : j < i
          · have hjl' : (j : Int) < (i : Int) := by omega
            have HJL : Hid (j < i) := hjl
            obtain ⟨g, x, pb, po, ha, cp, hN, hr, hv⟩ := HLS.out.get hjl
            subst ha
            obtain ⟨D, hD⟩ : ∃ D, D = flB s f j := ⟨_, rfl⟩
            have KF1 : Hid (∀ w, Calls Try.prog 22 #[.int .i64 s, .int .i64 (f : Nat), .int .i64 (j : Nat)] w fun e w' => e = .returned (.bool D) ∧ w' = w) := by rw [hD]; exact KF.out j hjl
            have KD : Hid (Calls Try.prog 18 #[.pointer (some ⟨g, 0, none⟩)] w5 fun e w' => e = .returned (.tuple #[.int .i64 (x.v : Nat), .bool true]) ∧ w' = w5) := kdone_yes g x _ hN hr
            have HV : Hid (D = false → x.v = 1) := by rw [hD]; exact hv
            clear HKrB hj hjl hN hr hv hD
            cases D with
            | true =>
              go_wp2_with fail
              refine Calls.mono KD.out ?_
              rintro e w6 ⟨rfl, hw6⟩
              obtain rfl : w5 = w6 := hw6.symm
              go_wp2_with fail
              refine (KF1.out _).mono ?_
              rintro e w6 ⟨rfl, hw6⟩
              obtain rfl : w5 = w6 := hw6.symm
              go_wp2_with fail
              go_roundw
              case rel => first | exact ⟨j + 1, HJL.out, by go_num, by first | rfl | trivial⟩ | ((repeat apply Exists.intro); exact ⟨⟨j + 1, HJL.out, by go_num, by first | rfl | trivial⟩, rfl⟩)
              case measure => have h1 := HJL.out; simp [Go.RowKit.intOf]; omega
            | false =>
              have hx := HV.out rfl
              rw [hx] at KD
              clear hx
              go_wp2_with fail
              refine Calls.mono KD.out ?_
              rintro e w6 ⟨rfl, hw6⟩
              obtain rfl : w5 = w6 := hw6.symm
              go_wp2_with fail
              refine (KF1.out _).mono ?_
              rintro e w6 ⟨rfl, hw6⟩
              obtain rfl : w5 = w6 := hw6.symm
              go_wp2_with fail
              go_roundw
              case rel => first | exact ⟨j + 1, HJL.out, by go_num, by first | rfl | trivial⟩ | ((repeat apply Exists.intro); exact ⟨⟨j + 1, HJL.out, by go_num, by first | rfl | trivial⟩, rfl⟩)
              case measure => have h1 := HJL.out; simp [Go.RowKit.intOf]; omega
          · obtain rfl : j = i := by omega
            have hnl : ¬ ((j : Int) < (j : Int)) := Int.lt_irrefl _
            clear hjl hj
            go_wp2_with fail
            refine HKrB.out _ _ ?_
            clear HKrB
            go_wp2_with fail
            refine (kone_any _).mono ?_
            rintro e w6 ⟨rfl, hb⟩
            have HB : Hid (Below w.heap.size w w6) := below_call0 HB5.out hb
            clear hb
            go_wp2_with fail
            go_ret
            exact ⟨rfl, HB.out⟩
theorem kingKeeps_any (N F S V : Int) (s : Int) (wa : Option Addr) (wc : Nat) (words : List Int) (w : World) (hWd : IntsAt w wa words) :
    Calls Try.prog 5 #[.agg #[.int .i64 N, .int .i64 F, .int .i64 S, .int .i64 V], .agg #[.int .i64 s, .slice wa words.length wc]] w fun e w' => e = .returned (.bool true) ∧ Below w.heap.size w w' := by
  by_cases h : 1 ≤ N ∧ N ≤ 10 ∧ 0 ≤ F ∧ 3 * F < N
  · by_cases hV : V = 0 ∨ V = 1
    · by_cases h4 : words.length ≤ 4000
      · obtain ⟨n, rfl⟩ : ∃ n : Nat, N = n := ⟨N.toNat, by omega⟩
        obtain ⟨f, rfl⟩ : ∃ f : Nat, F = f := ⟨F.toNat, by omega⟩
        obtain ⟨c, rfl⟩ : ∃ c : Nat, V = c := ⟨V.toNat, by omega⟩
        exact kingKeeps_ok n f c S s wa _ wc words (by omega) (by omega) (by omega) (by omega) rfl h4 w hWd
      · rcases hV with rfl | rfl
        · exact kingKeeps_long0 N F S s wa _ wc h (by omega) w
        · exact kingKeeps_long1 N F S s wa _ wc h (by omega) w
    · exact kingKeeps_val N F S V s wa _ wc h (fun c => hV (.inl c)) (fun c => hV (.inr c)) w
  · exact kingKeeps_tab N F S V s wa _ wc h w
end Go.Proofs.Ytcahfkfafdoilaa
