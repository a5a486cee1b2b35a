/- The law KingAlone. -/
import Derived.Test.YtcahfkfafdoilaaKgK
namespace Go.Proofs.Ytcahfkfafdoilaa
open Go Go.RowKit Go.Lib

theorem kingAlone_no (n v : Int) (h : ¬ (1 ≤ n ∧ n ≤ 10 ∧ (v = 0 ∨ v = 1))) (w : World) :
    Calls Try.prog 7 #[.int .i64 n, .int .i64 v] w fun e w' => e = .returned (.bool true) ∧ Below w.heap.size w w' := by
  have hc : n < 1 ∨ (1 ≤ n ∧ 10 < n) ∨ (1 ≤ n ∧ n ≤ 10 ∧ ¬ v = 0 ∧ ¬ v = 1) := by omega
  clear h
  rcases hc with h | ⟨h1, h2⟩ | ⟨h1, h2, h3, h4⟩
  · go_enter Try.func7, Try.ntmps7
    go_wp2_with fail
    refine (kone_any _).mono ?_
    rintro e w4 ⟨rfl, hb⟩
    have HB : Hid _ := hb
    clear hb
    go_wp2_with fail
    go_ret
    exact ⟨rfl, HB.out⟩
  · go_enter Try.func7, Try.ntmps7
    go_wp2_with fail
    refine (kone_any _).mono ?_
    rintro e w4 ⟨rfl, hb⟩
    have HB : Hid _ := hb
    clear hb
    go_wp2_with fail
    go_ret
    exact ⟨rfl, HB.out⟩
  · have z0 : (v != 0) = true := by simpa using h3
    have z1 : (v != 1) = true := by simpa using h4
    go_enter Try.func7, Try.ntmps7
    go_wp2_with fail
    refine (kone_any _).mono ?_
    rintro e w4 ⟨rfl, hb⟩
    have HB : Hid _ := hb
    clear hb
    go_wp2_with fail
    go_ret
    exact ⟨rfl, HB.out⟩
set_option maxRecDepth 100000 in
set_option maxHeartbeats 8000000 in
theorem kingAlone_ok (n c : Nat) (h1 : 1 ≤ n) (h10 : n ≤ 10) (hcc : c = 0 ∨ c = 1) (w : World) :
    Calls Try.prog 7 #[.int .i64 (n : Nat), .int .i64 (c : Nat)] w fun e w' => e = .returned (.bool true) ∧ Below w.heap.size w w' := by
  obtain ⟨f, hfe⟩ : ∃ f, f = (n - 1) / 3 := ⟨_, rfl⟩
  obtain ⟨k, hk⟩ : ∃ k, k = n - 1 := ⟨_, rfl⟩
  have e1 : (n : Int) - 1 = (k : Nat) := by omega
  have e2 : ((k : Nat) : Int).tdiv 3 = (f : Nat) := by rw [hfe, ← hk]; rfl
  have HC : Hid (1 ≤ n ∧ n ≤ 10 ∧ 3 * f < n ∧ c ≤ 1) := ⟨h1, h10, by omega, by omega⟩
  have n10 : (n : Int) ≤ 10 := by omega
  have n1 : (1 : Int) ≤ (n : Int) := by omega
  have f10 : (f : Int) ≤ 10 := by omega
  clear h1 h10 hfe hk
  rcases hcc with rfl | rfl
  · go_enter Try.func7, Try.ntmps7
    go_wp2_with fail
    rename_i Kr hKr
    have HKr : Hid _ := hKr
    clear hKr
    go_loopw [5, 6] (fun ov iv wr => ∃ (i m : Nat) (ta : Option Addr) (tc : Nat) (T : List Int), i ≤ n ∧ m = i ∧ T.length = i ∧ ov = .slice ta m tc ∧ iv = .int .i64 (i : Nat) ∧ RowI wr w.heap.size ta T tc ∧ Below w.heap.size w wr ∧ ∀ j, j < i → T[j]? = some 0) (fun _ iv _ => n - (Go.RowKit.intOf iv).toNat)
    case atStart => exact ⟨0, 0, none, 0, [], Nat.zero_le _, rfl, rfl, rfl, rfl, RowI.nil _ _, Below.refl _ _, fun j hj => absurd hj (by omega)⟩
    case round =>
      obtain ⟨i, m, ta, tc, T, hi, hm, hTl, rfl, rfl, hRow, hB, hTo⟩ := hrel
      rename World => wr
      have HK : Hid (m = i ∧ T.length = i ∧ RowI wr w.heap.size ta T tc ∧ Below w.heap.size w wr ∧ ∀ j, j < i → T[j]? = some 0) := ⟨hm, hTl, hRow, hB, hTo⟩
      by_cases hlt : i < n
      · have hlt' : (i : Int) < (n : Int) := by omega
        have HLT : Hid (i < n) := hlt
        clear HKr hi hm hTl hRow hB hTo hlt
        obtain ⟨w7, hw7⟩ : ∃ w7, w7 = wr.alloc (.cells #[.int .i64 0] 3) := ⟨_, rfl⟩
        have hb7 : Below wr.heap.size wr w7 := by rw [hw7]; exact below_alloc0 (Below.refl _ _) _
        have hc7 : w7.cell? ⟨wr.heap.size, 0, none⟩ = some (.int .i64 0) := by rw [hw7, World.cell?_alloc_new]; rfl
        have H7 : Hid (RowI w7 w.heap.size ta T tc ∧ Below w.heap.size w w7 ∧ w7.cell? ⟨wr.heap.size, 0, none⟩ = some (.int .i64 0) ∧ w7 = wr.alloc (.cells #[.int .i64 0] 3)) := ⟨HK.out.2.2.1.call hb7, below_call0 HK.out.2.2.2.1 hb7, hc7, hw7⟩
        clear hb7 hc7 hw7
        go_wp2_with (at_builtin; change wpList _ _ _ _ _ (wr.alloc (.cells #[.int .i64 0] 3)); rw [← H7.out.2.2.2]; refine wpList_append_RowI _ rfl _ _ rfl w.heap.size ta m tc T 0 rfl (by rw [HK.out.2.1]; exact HK.out.1) H7.out.1 H7.out.2.1.size (by rw [HK.out.2.1]; have := HLT.out; have := HC.out.2.1; omega) ⟨wr.heap.size, 0, none⟩ 1 rfl H7.out.2.2.1 ?_; intro a9 m9 cap9 w9 hm9 hR9 hb9; have H9 : Hid (m9 = m + 1 ∧ RowI w9 w.heap.size a9 (T ++ [0]) cap9 ∧ Below w.heap.size w7 w9) := ⟨hm9, hR9, hb9⟩; clear hm9 hR9 hb9)
        have HE : Hid (m9 = i + 1 ∧ (T ++ [0]).length = i + 1 ∧ RowI w9 w.heap.size a9 (T ++ [0]) cap9 ∧ Below w.heap.size w w9 ∧ ∀ j, j < i + 1 → (T ++ [0])[j]? = some 0) := by
          refine ⟨by rw [H9.out.1, HK.out.1], by rw [List.length_append, HK.out.2.1]; rfl, H9.out.2.1, H7.out.2.1.trans H9.out.2.2, fun j hj => ?_⟩
          by_cases q : j < i
          · rw [List.getElem?_append_left (by rw [HK.out.2.1]; exact q)]; exact HK.out.2.2.2.2 j q
          · obtain rfl : j = i := by omega
            rw [List.getElem?_append_right (by have := HK.out.2.1; omega), HK.out.2.1, Nat.sub_self]; rfl
        go_roundw
        case rel => first | exact ⟨i + 1, m9, a9, cap9, T ++ [0], HLT.out, HE.out.1, HE.out.2.1, rfl, by go_num, HE.out.2.2⟩ | ((repeat apply Exists.intro); exact ⟨⟨i + 1, m9, a9, cap9, T ++ [0], HLT.out, HE.out.1, HE.out.2.1, rfl, by go_num, HE.out.2.2⟩, rfl⟩)
        case measure => have h1 := HLT.out; simp [Go.RowKit.intOf]; omega
      · obtain rfl : i = n := by omega
        have hnl : ¬ ((i : Int) < (i : Int)) := Int.lt_irrefl _
        have HBr : Hid (Below w.heap.size w wr ∧ IntsAt wr ta T) := ⟨hB, hRow.ints⟩
        have HTo : Hid (∀ j, j < i → T[j]? = some 0) := hTo
        clear hlt hi hm hTl hRow hB hTo
        go_wp2_with fail
        refine HKr.out _ _ ?_
        clear HKr
        go_wp2_with fail
        refine (table_any i f HC.out.1 HC.out.2.1 HC.out.2.2.1 ta T m tc (by rw [HK.out.2.1]; exact HK.out.1) _ HBr.out.2).mono ?_
        rintro e w4 ⟨pa, pc, gs, rfl, hT, hB4⟩
        have HB4 : Hid (TabAt w4 wr.heap.size pa pc gs (tabX i f T i) ∧ Below wr.heap.size wr w4 ∧ Below w.heap.size w w4) := ⟨hT, hB4, below_call0 HBr.out.1 hB4⟩
        clear hT hB4
        have HPL : Hid _ := play_any i f (fun r X => Agr (flB 0 f) 0 r X) 0 (tabX i f T i) (fun j x hx hfl => by
            obtain ⟨rfl, hj⟩ := tabX_get hx
            exact ⟨valI_of (by decide) (HTo.out j hj), fun q => by simp at q⟩) (fun r X Y hr hTb hk hrd => hk.step (by decide) (flB_le 0 f i) hTb hrd) HC.out.2.1 (tabX_tab T HC.out.1 HC.out.2.2.1) pa pc wr.heap.size gs none 0 0 [] rfl (by decide) w4 HB4.out.1 (fun j n hj => by simp at hj)
        go_wp2_with fail
        refine Calls.mono HPL.out ?_
        rintro e w5 ⟨rfl, ⟨Y, hY1, hY2, hY3⟩, hkp⟩
        have HLS : Hid (LS w5 gs pa i f 0 0 Y) := ⟨hY1, hY2, hY3, PEptrs HB4.out.1 hkp⟩
        have HB5 : Hid (Below w.heap.size w w5) := HB4.out.2.2.trans (hkp.below (by have := HB4.out.2.2.size; omega) (fun g hg => by have := HB4.out.1.ge g hg; have := HBr.out.1.size; omega))
        clear hY1 hY2 hY3 hkp HPL
        go_wp2_with fail
        rename_i KrB hKrB
        have HKrB : Hid _ := hKrB
        clear hKrB
        go_loopw [57] (fun iv wz => ∃ j : Nat, j ≤ i ∧ iv = .int .i64 (j : Nat) ∧ w5 = wz) (fun iv _ => i - (Go.RowKit.intOf iv).toNat)
        case atStart => exact ⟨0, Nat.zero_le _, rfl, rfl⟩
        case round =>
          obtain ⟨j, hj, rfl, hwr⟩ := hrel
          subst hwr
          by_cases hjl : j < i
          · have hjl' : (j : Int) < (i : Int) := by omega
            have HJL : Hid (j < i) := hjl
            obtain ⟨g, x, pb, po, ha, cp, hN, hr, hv⟩ := HLS.out.get hjl
            subst ha
            have KD : Hid (Calls Try.prog 18 #[.pointer (some ⟨g, 0, none⟩)] w5 fun e w' => e = .returned (.tuple #[.int .i64 0, .bool true]) ∧ w' = w5) := by
              have h := kdone_yes g x _ hN hr
              rw [hv (flB_zero f j)] at h
              exact h
            clear HKrB hj hjl hN hr hv
            go_wp2_with fail
            refine Calls.mono KD.out ?_
            rintro e w6 ⟨rfl, hw6⟩
            obtain rfl : w5 = w6 := hw6.symm
            go_wp2_with fail
            go_roundw
            case rel => first | exact ⟨j + 1, HJL.out, by go_num, by first | rfl | trivial⟩ | ((repeat apply Exists.intro); exact ⟨⟨j + 1, HJL.out, by go_num, by first | rfl | trivial⟩, rfl⟩)
            case measure => have h1 := HJL.out; simp [Go.RowKit.intOf]; omega
          · obtain rfl : j = i := by omega
            have hnl : ¬ ((j : Int) < (j : Int)) := Int.lt_irrefl _
            clear hjl hj
            go_wp2_with fail
            refine HKrB.out _ _ ?_
            clear HKrB
            go_wp2_with fail
            refine (kone_any _).mono ?_
            rintro e w6 ⟨rfl, hb⟩
            have HB : Hid (Below w.heap.size w w6) := below_call0 HB5.out hb
            clear hb
            go_wp2_with fail
            go_ret
            exact ⟨rfl, HB.out⟩
  · go_enter Try.func7, Try.ntmps7
    go_wp2_with fail
    rename_i Kr hKr
    have HKr : Hid _ := hKr
    clear hKr
    go_loopw [5, 6] (fun ov iv wr => ∃ (i m : Nat) (ta : Option Addr) (tc : Nat) (T : List Int), i ≤ n ∧ m = i ∧ T.length = i ∧ ov = .slice ta m tc ∧ iv = .int .i64 (i : Nat) ∧ RowI wr w.heap.size ta T tc ∧ Below w.heap.size w wr ∧ ∀ j, j < i → T[j]? = some 1) (fun _ iv _ => n - (Go.RowKit.intOf iv).toNat)
    case atStart => exact ⟨0, 0, none, 0, [], Nat.zero_le _, rfl, rfl, rfl, rfl, RowI.nil _ _, Below.refl _ _, fun j hj => absurd hj (by omega)⟩
    case round =>
      obtain ⟨i, m, ta, tc, T, hi, hm, hTl, rfl, rfl, hRow, hB, hTo⟩ := hrel
      rename World => wr
      have HK : Hid (m = i ∧ T.length = i ∧ RowI wr w.heap.size ta T tc ∧ Below w.heap.size w wr ∧ ∀ j, j < i → T[j]? = some 1) := ⟨hm, hTl, hRow, hB, hTo⟩
      by_cases hlt : i < n
      · have hlt' : (i : Int) < (n : Int) := by omega
        have HLT : Hid (i < n) := hlt
        clear HKr hi hm hTl hRow hB hTo hlt
        obtain ⟨w7, hw7⟩ : ∃ w7, w7 = wr.alloc (.cells #[.int .i64 1] 3) := ⟨_, rfl⟩
        have hb7 : Below wr.heap.size wr w7 := by rw [hw7]; exact below_alloc0 (Below.refl _ _) _
        have hc7 : w7.cell? ⟨wr.heap.size, 0, none⟩ = some (.int .i64 1) := by rw [hw7, World.cell?_alloc_new]; rfl
        have H7 : Hid (RowI w7 w.heap.size ta T tc ∧ Below w.heap.size w w7 ∧ w7.cell? ⟨wr.heap.size, 0, none⟩ = some (.int .i64 1) ∧ w7 = wr.alloc (.cells #[.int .i64 1] 3)) := ⟨HK.out.2.2.1.call hb7, below_call0 HK.out.2.2.2.1 hb7, hc7, hw7⟩
        clear hb7 hc7 hw7
        go_wp2_with (at_builtin; change wpList _ _ _ _ _ (wr.alloc (.cells #[.int .i64 1] 3)); rw [← H7.out.2.2.2]; refine wpList_append_RowI _ rfl _ _ rfl w.heap.size ta m tc T 1 rfl (by rw [HK.out.2.1]; exact HK.out.1) H7.out.1 H7.out.2.1.size (by rw [HK.out.2.1]; have := HLT.out; have := HC.out.2.1; omega) ⟨wr.heap.size, 0, none⟩ 1 rfl H7.out.2.2.1 ?_; intro a9 m9 cap9 w9 hm9 hR9 hb9; have H9 : Hid (m9 = m + 1 ∧ RowI w9 w.heap.size a9 (T ++ [1]) cap9 ∧ Below w.heap.size w7 w9) := ⟨hm9, hR9, hb9⟩; clear hm9 hR9 hb9)
        have HE : Hid (m9 = i + 1 ∧ (T ++ [1]).length = i + 1 ∧ RowI w9 w.heap.size a9 (T ++ [1]) cap9 ∧ Below w.heap.size w w9 ∧ ∀ j, j < i + 1 → (T ++ [1])[j]? = some 1) := by
          refine ⟨by rw [H9.out.1, HK.out.1], by rw [List.length_append, HK.out.2.1]; rfl, H9.out.2.1, H7.out.2.1.trans H9.out.2.2, fun j hj => ?_⟩
          by_cases q : j < i
          · rw [List.getElem?_append_left (by rw [HK.out.2.1]; exact q)]; exact HK.out.2.2.2.2 j q
          · obtain rfl : j = i := by omega
            rw [List.getElem?_append_right (by have := HK.out.2.1; omega), HK.out.2.1, Nat.sub_self]; rfl
        go_roundw
        case rel => first | exact ⟨i + 1, m9, a9, cap9, T ++ [1], HLT.out, HE.out.1, HE.out.2.1, rfl, by go_num, HE.out.2.2⟩ | ((repeat apply Exists.intro); exact ⟨⟨i + 1, m9, a9, cap9, T ++ [1], HLT.out, HE.out.1, HE.out.2.1, rfl, by go_num, HE.out.2.2⟩, rfl⟩)
        case measure => have h1 := HLT.out; simp [Go.RowKit.intOf]; omega
      · obtain rfl : i = n := by omega
        have hnl : ¬ ((i : Int) < (i : Int)) := Int.lt_irrefl _
        have HBr : Hid (Below w.heap.size w wr ∧ IntsAt wr ta T) := ⟨hB, hRow.ints⟩
        have HTo : Hid (∀ j, j < i → T[j]? = some 1) := hTo
        clear hlt hi hm hTl hRow hB hTo
        go_wp2_with fail
        refine HKr.out _ _ ?_
        clear HKr
        go_wp2_with fail
        refine (table_any i f HC.out.1 HC.out.2.1 HC.out.2.2.1 ta T m tc (by rw [HK.out.2.1]; exact HK.out.1) _ HBr.out.2).mono ?_
        rintro e w4 ⟨pa, pc, gs, rfl, hT, hB4⟩
        have HB4 : Hid (TabAt w4 wr.heap.size pa pc gs (tabX i f T i) ∧ Below wr.heap.size wr w4 ∧ Below w.heap.size w w4) := ⟨hT, hB4, below_call0 HBr.out.1 hB4⟩
        clear hT hB4
        have HPL : Hid _ := play_any i f (fun r X => Agr (flB 0 f) 1 r X) 0 (tabX i f T i) (fun j x hx hfl => by
            obtain ⟨rfl, hj⟩ := tabX_get hx
            exact ⟨valI_of (by decide) (HTo.out j hj), fun q => by simp at q⟩) (fun r X Y hr hTb hk hrd => hk.step (by decide) (flB_le 0 f i) hTb hrd) HC.out.2.1 (tabX_tab T HC.out.1 HC.out.2.2.1) pa pc wr.heap.size gs none 0 0 [] rfl (by decide) w4 HB4.out.1 (fun j n hj => by simp at hj)
        go_wp2_with fail
        refine Calls.mono HPL.out ?_
        rintro e w5 ⟨rfl, ⟨Y, hY1, hY2, hY3⟩, hkp⟩
        have HLS : Hid (LS w5 gs pa i f 1 0 Y) := ⟨hY1, hY2, hY3, PEptrs HB4.out.1 hkp⟩
        have HB5 : Hid (Below w.heap.size w w5) := HB4.out.2.2.trans (hkp.below (by have := HB4.out.2.2.size; omega) (fun g hg => by have := HB4.out.1.ge g hg; have := HBr.out.1.size; omega))
        clear hY1 hY2 hY3 hkp HPL
        go_wp2_with fail
        rename_i KrB hKrB
        have HKrB : Hid _ := hKrB
        clear hKrB
        go_loopw [57] (fun iv wz => ∃ j : Nat, j ≤ i ∧ iv = .int .i64 (j : Nat) ∧ w5 = wz) (fun iv _ => i - (Go.RowKit.intOf iv).toNat)
        case atStart => exact ⟨0, Nat.zero_le _, rfl, rfl⟩
        case round =>
          obtain ⟨j, hj, rfl, hwr⟩ := hrel
          subst hwr
          by_cases hjl : j < i
          · have hjl' : (j : Int) < (i : Int) := by omega
            have HJL : Hid (j < i) := hjl
            obtain ⟨g, x, pb, po, ha, cp, hN, hr, hv⟩ := HLS.out.get hjl
            subst ha
            have KD : Hid (Calls Try.prog 18 #[.pointer (some ⟨g, 0, none⟩)] w5 fun e w' => e = .returned (.tuple #[.int .i64 1, .bool true]) ∧ w' = w5) := by
              have h := kdone_yes g x _ hN hr
              rw [hv (flB_zero f j)] at h
              exact h
            clear HKrB hj hjl hN hr hv
            go_wp2_with fail
            refine Calls.mono KD.out ?_
            rintro e w6 ⟨rfl, hw6⟩
            obtain rfl : w5 = w6 := hw6.symm
            go_wp2_with fail
            go_roundw
            case rel => first | exact ⟨j + 1, HJL.out, by go_num, by first | rfl | trivial⟩ | ((repeat apply Exists.intro); exact ⟨⟨j + 1, HJL.out, by go_num, by first | rfl | trivial⟩, rfl⟩)
            case measure => have h1 := HJL.out; simp [Go.RowKit.intOf]; omega
          · obtain rfl : j = i := by omega
            have hnl : ¬ ((j : Int) < (j : Int)) := Int.lt_irrefl _
            clear hjl hj
            go_wp2_with fail
            refine HKrB.out _ _ ?_
            clear HKrB
            go_wp2_with fail
            refine (kone_any _).mono ?_
            rintro e w6 ⟨rfl, hb⟩
            have HB : Hid (Below w.heap.size w w6) := below_call0 HB5.out hb
            clear hb
            go_wp2_with fail
            go_ret
            exact ⟨rfl, HB.out⟩
theorem kingAlone_any (n v : Int) (w : World) :
    Calls Try.prog 7 #[.int .i64 n, .int .i64 v] w fun e w' => e = .returned (.bool true) ∧ Below w.heap.size w w' := by
  by_cases h : 1 ≤ n ∧ n ≤ 10 ∧ (v = 0 ∨ v = 1)
  · obtain ⟨a, rfl⟩ : ∃ a : Nat, n = a := ⟨n.toNat, by omega⟩
    obtain ⟨c, rfl⟩ : ∃ c : Nat, v = c := ⟨v.toNat, by omega⟩
    exact kingAlone_ok a c (by omega) (by omega) (by omega) w
  · exact kingAlone_no n v h w
end Go.Proofs.Ytcahfkfafdoilaa
