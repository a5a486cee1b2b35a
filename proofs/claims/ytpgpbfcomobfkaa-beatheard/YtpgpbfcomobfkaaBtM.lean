/- The law BeatFew. -/
import Derived.Test.YtpgpbfcomobfkaaBtL
namespace Go.Proofs.Ytpgpbfcomobfkaa
open Go Go.RowKit Go.Lib

theorem bel {g : Nat} {x : Wt} {w wr w' : World} (hB : Below g w wr) (hW : WatchAt wr g x) (hb : Below wr.heap.size wr w') : Below g w w' := hB.trans (hb.mono (Nat.le_of_lt hW.lt))
theorem beatFew_long (a : Option Addr) (len cap : Nat) (hl : 400 < len) (w : World) : Calls Try.prog 4 #[.slice a len cap] w fun e w' => e = .returned (.bool true) ∧ Below w.heap.size w w' := by
  have h1 : (400 : Int) < (len : Nat) := by omega
  have K1 : Hid (∀ w', Calls Try.prog 9 #[.int .i64 4, .int .i64 1, .int .i64 0] w' fun e w'' => e = .returned (.tuple #[.pointer (some ⟨w'.heap.size, 0, none⟩), .int .i64 0]) ∧ WatchAt w'' w'.heap.size (newW 4 1 0) ∧ Below w'.heap.size w' w'') :=
    fun w' => new_ok 4 1 0 (by decide) (by decide) (by decide) (by decide) (by decide) w'
  clear hl
  go_enter Try.func4, Try.ntmps4
  go_wp2_with fail
  refine (K1.out _).mono ?_
  rintro e w1 ⟨rfl, -, hb1⟩
  have H1 : Hid _ := hb1
  clear hb1
  go_wp2_with fail
  refine (five_any _).mono ?_
  rintro e w2 ⟨rfl, hb⟩
  have HB : Hid _ := hb
  clear hb
  go_wp2_with fail
  go_ret
  exact ⟨rfl, below_call0 H1.out HB.out⟩
set_option maxRecDepth 100000 in
set_option maxHeartbeats 4000000 in
theorem beatFew_in (a : Option Addr) (len cap : Nat) (hl : len ≤ 400) (w : World) (hS : StepsIn w a len) : Calls Try.prog 4 #[.slice a len cap] w fun e w' => e = .returned (.bool true) ∧ Below w.heap.size w w' := by
  have h1 : ((len : Nat) : Int) ≤ 400 := by omega
  have HS : Hid (StepsIn w a len ∧ len ≤ 400) := ⟨hS, hl⟩
  have K1 : Hid (∀ w', Calls Try.prog 9 #[.int .i64 4, .int .i64 1, .int .i64 0] w' fun e w'' => e = .returned (.tuple #[.pointer (some ⟨w'.heap.size, 0, none⟩), .int .i64 0]) ∧ WatchAt w'' w'.heap.size (newW 4 1 0) ∧ Below w'.heap.size w' w'') :=
    fun w' => new_ok 4 1 0 (by decide) (by decide) (by decide) (by decide) (by decide) w'
  clear hl hS
  go_enter Try.func4, Try.ntmps4
  go_wp2_with fail
  refine (K1.out _).mono ?_
  rintro e w1 ⟨rfl, hW1, hb1⟩
  obtain ⟨g, hg⟩ : ∃ g, g = w.heap.size := ⟨_, rfl⟩
  have HG : Hid (g = w.heap.size) := hg
  have H1 : Hid (WatchAt w1 g (newW 4 1 0) ∧ Below g w w1) := ⟨by rw [hg]; exact hW1, by rw [hg]; exact hb1⟩
  rw [← hg]
  clear hW1 hb1 hg K1
  go_wp2_with fail
  rename_i Kr hKr
  have HKr : Hid _ := hKr
  clear hKr
  go_loopw [5, 6, 7, 44] (fun nv lv tv iv wr => ∃ (now last told i : Nat) (x : Wt), i ≤ len ∧ now ≤ 100 * i ∧ nv = .int .i64 (now : Nat) ∧ lv = .int .i64 (last : Nat) ∧ tv = .int .i64 (told : Nat) ∧ iv = .int .i64 (i : Nat) ∧ FewI x now last told ∧ last ≤ now ∧ WatchAt wr g x ∧ Below g w wr) (fun _ _ _ iv _ => len - (Go.RowKit.intOf iv).toNat)
  case atStart => exact ⟨0, 0, 0, 0, newW 4 1 0, Nat.zero_le _, Nat.le_refl _, rfl, rfl, rfl, rfl, FewI.start, Nat.le_refl _, H1.out⟩
  case round =>
    obtain ⟨now, last, told, i, x, hi, hnow, rfl, rfl, rfl, rfl, hF, hlast, hW, hB⟩ := hrel
    rename World => wr
    have HA : Hid (WatchAt wr g x ∧ Below g w wr ∧ FewI x now last told ∧ last ≤ now ∧ now ≤ 100 * i) := ⟨hW, hB, hF, hlast, hnow⟩
    clear H1
    by_cases hlt : i < len
    · clear HKr
      have hlt' : (i : Int) < (len : Nat) := by omega
      obtain ⟨p, o, X, N, M, ha, c0, c1, c2, pl⟩ := HS.out.1 i hlt
      subst ha
      have e0 : wr.cell? ⟨p, o + i * 3, none⟩ = some (.int .i64 X) := (hB.cell (p := ⟨p, _, none⟩) (by rw [HG.out]; exact pl)).trans c0
      have e1 : wr.cell? ⟨p, o + i * 3 + 1, none⟩ = some (.int .i64 N) := (hB.cell (p := ⟨p, _, none⟩) (by rw [HG.out]; exact pl)).trans c1
      have e2 : wr.cell? ⟨p, o + i * 3 + 2, none⟩ = some (.int .i64 M) := (hB.cell (p := ⟨p, _, none⟩) (by rw [HG.out]; exact pl)).trans c2
      have HL : Hid (i < len) := hlt
      have b1 : (now : Int) ≤ 40000 := by have := HS.out.2; omega
      have b2 : (last : Int) ≤ 40000 := by omega
      have b3 : (told : Int) ≤ 4 := by have := hF.le5; omega
      clear c0 c1 c2 pl hi hnow hF hlast hW hB hlt
      by_cases hM : M < 0 ∨ 100 < M
      · rcases hM with hM | hM
        all_goals
          go_wp2_with fail
          go_roundw
        case rel => exact ⟨now, last, told, i + 1, x, HL.out, by have := HA.out.2.2.2.2; omega, rfl, rfl, rfl, by go_num, HA.out.2.2.1, HA.out.2.2.2.1, HA.out.1.call (below_alloc0 (Below.refl _ _) _), bel HA.out.2.1 HA.out.1 (below_alloc0 (Below.refl _ _) _)⟩
        case measure => have h1 := HL.out; simp [Go.RowKit.intOf]; omega
        case rel => exact ⟨now, last, told, i + 1, x, HL.out, by have := HA.out.2.2.2.2; omega, rfl, rfl, rfl, by go_num, HA.out.2.2.1, HA.out.2.2.2.1, HA.out.1.call (below_alloc0 (Below.refl _ _) _), bel HA.out.2.1 HA.out.1 (below_alloc0 (Below.refl _ _) _)⟩
        case measure => have h1 := HL.out; simp [Go.RowKit.intOf]; omega
      · obtain ⟨m, rfl⟩ : ∃ m : Nat, M = (m : Nat) := ⟨M.toNat, by omega⟩
        have m1 : ((m : Nat) : Int) ≤ 100 := by omega
        clear hM
        have hat : ∃ at0 : Nat, now ≤ at0 ∧ at0 ≤ last + 64 ∧ at0 ≤ now + m ∧ (((last : Int) + 64 < (now : Int) + (m : Int) ∧ (at0 : Int) = (last : Int) + 64) ∨ ((now : Int) + (m : Int) ≤ (last : Int) + 64 ∧ (at0 : Int) = (now : Int) + (m : Int))) := by
          have h2 := HA.out.2.2.1.le
          by_cases c : last + 64 < now + m
          · exact ⟨last + 64, h2, Nat.le_refl _, by omega, .inl ⟨by omega, by omega⟩⟩
          · exact ⟨now + m, by omega, by omega, Nat.le_refl _, .inr ⟨by omega, by omega⟩⟩
        obtain ⟨A, a1, a2, a3, hA⟩ := hat
        have HT : Hid (now ≤ A ∧ A ≤ last + 64 ∧ A ≤ 100 * (i + 1) ∧ A ≤ 1099511627776 ∧ x.now ≤ A) := ⟨a1, a2, by have := HA.out.2.2.2.2; omega, by have := HA.out.2.2.2.2; have := HS.out.2; have := HL.out; omega, Nat.le_trans HA.out.2.2.1.nw a1⟩
        have A4 : (A : Int) ≤ 40200 := by omega
        clear a1 a2 a3
        rcases hA with ⟨hA1, hA2⟩ | ⟨hA1, hA2⟩
        · have f1 : (A : Int) < (now : Int) + (m : Int) := by omega
          have f2 : (last : Int) + 64 = (A : Nat) := by omega
          clear hA1 hA2
          by_cases hX : X = 2
          · subst hX
            go_wp2_with fail
            refine (check_ok g x A HT.out.2.2.2.2 HT.out.2.2.2.1 _ (HA.out.1.call (below_alloc0 (Below.refl _ _) _))).mono ?_
            rintro e w2 ⟨aL, capL, rfl, hI2, hW2, hb2⟩
            obtain ⟨L, hL⟩ : ∃ L, L = lateL (atW x A) := ⟨_, rfl⟩
            rw [← hL] at hI2 ⊢
            obtain ⟨n, hn⟩ : ∃ n, n = L.length := ⟨_, rfl⟩
            rw [← hn]
            have HN : Hid (n = L.length ∧ L = lateL (atW x A)) := ⟨hn, hL⟩
            have H2 : Hid (WatchAt w2 g (checkW x A) ∧ Below g w w2 ∧ IntsAt w2 aL L) := ⟨hW2, below_but (bel HA.out.2.1 HA.out.1 (below_alloc0 (Below.refl _ _) _)) (Nat.le_refl _) (Nat.le_of_lt (HA.out.1.call (below_alloc0 (Below.refl _ _) _)).lt) hb2, hI2.ints⟩
            have n10 : (n : Int) ≤ 10 := by
              have h3 := lsN_len (lateB (atW x A)) (atW x A).n
              have h4 : (lateL (atW x A)).length = (lsN (lateB (atW x A)) (atW x A).n).length := rfl
              have h5 : (atW x A).n = 4 := HA.out.2.2.1.n
              rw [hn, hL, h4]
              omega
            clear hI2 hW2 hb2 hL hn
            go_wp2_with fail
            rename_i Kr3 hKr3
            have HKr3 : Hid _ := hKr3
            clear hKr3
            go_loop [7, 80] (fun tv jv => ∃ (j q : Nat), j ≤ n ∧ q = told + (L.take j).count 2 ∧ tv = .int .i64 (q : Nat) ∧ jv = .int .i64 (j : Nat)) (fun _ jv => n - (Go.RowKit.intOf jv).toNat)
            case atStart => exact ⟨0, told, Nat.zero_le _, by simp, rfl, rfl⟩
            case round =>
              obtain ⟨j, q, hj, hq, rfl, rfl⟩ := hrel
              have HQ : Hid (q = told + (L.take j).count 2) := hq
              have q1 : (q : Int) ≤ 14 := by
                have h3 : (L.take j).count 2 ≤ (L.take j).length := List.count_le_length
                have h4 := List.length_take_le j L
                omega
              clear hq
              by_cases hjn : j < n
              · clear HKr3
                have hjn' : (j : Int) < (n : Nat) := by omega
                have hjl : j < L.length := by rw [← HN.out.1]; exact hjn
                obtain ⟨pL, oL, ha, cp, -⟩ := H2.out.2.2.get hjl
                subst ha
                obtain ⟨s, hs⟩ : ∃ s, s = (L[j]'hjl) := ⟨_, rfl⟩
                rw [← hs] at cp
                have et : L.take (j + 1) = L.take j ++ [s] := by rw [List.take_succ_eq_append_getElem hjl, hs]
                have HJ : Hid (j < n ∧ (L.take (j + 1)).count 2 = (L.take j).count 2 + if s = 2 then 1 else 0) := ⟨hjn, by rw [et, List.count_append]; congr 1; by_cases c : s = 2 <;> simp [c]⟩
                clear hjn hjl hs et hj
                by_cases hs2 : s = 2
                · subst hs2
                  go_wp2_with fail
                  go_round
                  case rel => exact ⟨j + 1, q + 1, HJ.out.1, by have h1 := HJ.out.2; have h2 := HQ.out; simp at h1; omega, by go_num, by go_num⟩
                  case measure => have h1 := HJ.out.1; simp [Go.RowKit.intOf]; omega
                · have HS2 : Hid (¬ s = 2) := hs2
                  go_wp2_with fail
                  go_round
                  case rel => exact ⟨j + 1, q, HJ.out.1, by have h1 := HJ.out.2; have h2 := HQ.out; rw [if_neg HS2.out] at h1; omega, rfl, by go_num⟩
                  case measure => have h1 := HJ.out.1; simp [Go.RowKit.intOf]; omega
              · obtain rfl : j = n := by omega
                have hnl : ¬ ((j : Int) < (j : Int)) := Int.lt_irrefl _
                have HF : Hid (FewI (checkW x A) A last q) := by
                  have h := HA.out.2.2.1.check (m := A) HT.out.2.1
                  have h3 := HQ.out
                  rw [List.take_of_length_le (by rw [← HN.out.1]; exact Nat.le_refl _), HN.out.2, count_two (y := atW x A) HA.out.2.2.1.n] at h3
                  rw [h3]
                  exact h
                clear hjn hj HQ
                go_wp2_with fail
                refine HKr3.out _ _ ?_
                clear HKr3
                go_wp2_with fail
                go_roundw
                case rel => exact ⟨A, last, q, i + 1, checkW x A, HL.out, HT.out.2.2.1, rfl, rfl, rfl, by go_num, HF.out, Nat.le_trans HA.out.2.2.2.1 HT.out.1, H2.out.1, H2.out.2.1⟩
                case measure => have h1 := HL.out; simp [Go.RowKit.intOf]; omega
          · go_wp2_with fail
            refine (heard_ok g x 2 A (by decide) (by rw [HA.out.2.2.1.n]; decide) HT.out.2.2.2.2 HT.out.2.2.2.1 _ (HA.out.1.call (below_alloc0 (Below.refl _ _) _))).mono ?_
            rintro e w2 ⟨rfl, hW2, hb2⟩
            have H2 : Hid (WatchAt w2 g (heardW x 2 A) ∧ Below g w w2) := ⟨hW2, below_but (bel HA.out.2.1 HA.out.1 (below_alloc0 (Below.refl _ _) _)) (Nat.le_refl _) (Nat.le_of_lt (HA.out.1.call (below_alloc0 (Below.refl _ _) _)).lt) hb2⟩
            clear hW2 hb2
            go_wp2_with fail
            go_roundw
            case rel => exact ⟨A, A, told, i + 1, heardW x 2 A, HL.out, HT.out.2.2.1, rfl, rfl, rfl, by go_num, HA.out.2.2.1.two, Nat.le_refl _, H2.out.1, H2.out.2⟩
            case measure => have h1 := HL.out; simp [Go.RowKit.intOf]; omega
        · have f2 : (now : Int) + (m : Int) = (A : Nat) := by omega
          have f1 : ¬ ((last : Int) + 64 < (A : Int)) := by omega
          clear hA1 hA2
          by_cases hX : X = 2
          · subst hX
            go_wp2_with fail
            refine (check_ok g x A HT.out.2.2.2.2 HT.out.2.2.2.1 _ (HA.out.1.call (below_alloc0 (Below.refl _ _) _))).mono ?_
            rintro e w2 ⟨aL, capL, rfl, hI2, hW2, hb2⟩
            obtain ⟨L, hL⟩ : ∃ L, L = lateL (atW x A) := ⟨_, rfl⟩
            rw [← hL] at hI2 ⊢
            obtain ⟨n, hn⟩ : ∃ n, n = L.length := ⟨_, rfl⟩
            rw [← hn]
            have HN : Hid (n = L.length ∧ L = lateL (atW x A)) := ⟨hn, hL⟩
            have H2 : Hid (WatchAt w2 g (checkW x A) ∧ Below g w w2 ∧ IntsAt w2 aL L) := ⟨hW2, below_but (bel HA.out.2.1 HA.out.1 (below_alloc0 (Below.refl _ _) _)) (Nat.le_refl _) (Nat.le_of_lt (HA.out.1.call (below_alloc0 (Below.refl _ _) _)).lt) hb2, hI2.ints⟩
            have n10 : (n : Int) ≤ 10 := by
              have h3 := lsN_len (lateB (atW x A)) (atW x A).n
              have h4 : (lateL (atW x A)).length = (lsN (lateB (atW x A)) (atW x A).n).length := rfl
              have h5 : (atW x A).n = 4 := HA.out.2.2.1.n
              rw [hn, hL, h4]
              omega
            clear hI2 hW2 hb2 hL hn
            go_wp2_with fail
            rename_i Kr3 hKr3
            have HKr3 : Hid _ := hKr3
            clear hKr3
            go_loop [7, 80] (fun tv jv => ∃ (j q : Nat), j ≤ n ∧ q = told + (L.take j).count 2 ∧ tv = .int .i64 (q : Nat) ∧ jv = .int .i64 (j : Nat)) (fun _ jv => n - (Go.RowKit.intOf jv).toNat)
            case atStart => exact ⟨0, told, Nat.zero_le _, by simp, rfl, rfl⟩
            case round =>
              obtain ⟨j, q, hj, hq, rfl, rfl⟩ := hrel
              have HQ : Hid (q = told + (L.take j).count 2) := hq
              have q1 : (q : Int) ≤ 14 := by
                have h3 : (L.take j).count 2 ≤ (L.take j).length := List.count_le_length
                have h4 := List.length_take_le j L
                omega
              clear hq
              by_cases hjn : j < n
              · clear HKr3
                have hjn' : (j : Int) < (n : Nat) := by omega
                have hjl : j < L.length := by rw [← HN.out.1]; exact hjn
                obtain ⟨pL, oL, ha, cp, -⟩ := H2.out.2.2.get hjl
                subst ha
                obtain ⟨s, hs⟩ : ∃ s, s = (L[j]'hjl) := ⟨_, rfl⟩
                rw [← hs] at cp
                have et : L.take (j + 1) = L.take j ++ [s] := by rw [List.take_succ_eq_append_getElem hjl, hs]
                have HJ : Hid (j < n ∧ (L.take (j + 1)).count 2 = (L.take j).count 2 + if s = 2 then 1 else 0) := ⟨hjn, by rw [et, List.count_append]; congr 1; by_cases c : s = 2 <;> simp [c]⟩
                clear hjn hjl hs et hj
                by_cases hs2 : s = 2
                · subst hs2
                  go_wp2_with fail
                  go_round
                  case rel => exact ⟨j + 1, q + 1, HJ.out.1, by have h1 := HJ.out.2; have h2 := HQ.out; simp at h1; omega, by go_num, by go_num⟩
                  case measure => have h1 := HJ.out.1; simp [Go.RowKit.intOf]; omega
                · have HS2 : Hid (¬ s = 2) := hs2
                  go_wp2_with fail
                  go_round
                  case rel => exact ⟨j + 1, q, HJ.out.1, by have h1 := HJ.out.2; have h2 := HQ.out; rw [if_neg HS2.out] at h1; omega, rfl, by go_num⟩
                  case measure => have h1 := HJ.out.1; simp [Go.RowKit.intOf]; omega
              · obtain rfl : j = n := by omega
                have hnl : ¬ ((j : Int) < (j : Int)) := Int.lt_irrefl _
                have HF : Hid (FewI (checkW x A) A last q) := by
                  have h := HA.out.2.2.1.check (m := A) HT.out.2.1
                  have h3 := HQ.out
                  rw [List.take_of_length_le (by rw [← HN.out.1]; exact Nat.le_refl _), HN.out.2, count_two (y := atW x A) HA.out.2.2.1.n] at h3
                  rw [h3]
                  exact h
                clear hjn hj HQ
                go_wp2_with fail
                refine HKr3.out _ _ ?_
                clear HKr3
                go_wp2_with fail
                go_roundw
                case rel => exact ⟨A, last, q, i + 1, checkW x A, HL.out, HT.out.2.2.1, rfl, rfl, rfl, by go_num, HF.out, Nat.le_trans HA.out.2.2.2.1 HT.out.1, H2.out.1, H2.out.2.1⟩
                case measure => have h1 := HL.out; simp [Go.RowKit.intOf]; omega
          · by_cases h64 : (A : Int) = (last : Int) + 64
            · have f3 : (last : Int) + 64 = (A : Nat) := h64.symm
              clear h64 f1
              have f1 : ¬ ((A : Int) < (A : Int)) := Int.lt_irrefl _
              go_wp2_with fail
              refine (heard_ok g x 2 A (by decide) (by rw [HA.out.2.2.1.n]; decide) HT.out.2.2.2.2 HT.out.2.2.2.1 _ (HA.out.1.call (below_alloc0 (Below.refl _ _) _))).mono ?_
              rintro e w2 ⟨rfl, hW2, hb2⟩
              have H2 : Hid (WatchAt w2 g (heardW x 2 A) ∧ Below g w w2) := ⟨hW2, below_but (bel HA.out.2.1 HA.out.1 (below_alloc0 (Below.refl _ _) _)) (Nat.le_refl _) (Nat.le_of_lt (HA.out.1.call (below_alloc0 (Below.refl _ _) _)).lt) hb2⟩
              clear hW2 hb2
              go_wp2_with fail
              go_roundw
              case rel => exact ⟨A, A, told, i + 1, heardW x 2 A, HL.out, HT.out.2.2.1, rfl, rfl, rfl, by go_num, HA.out.2.2.1.two, Nat.le_refl _, H2.out.1, H2.out.2⟩
              case measure => have h1 := HL.out; simp [Go.RowKit.intOf]; omega
            · by_cases hN : 1 ≤ N ∧ N ≤ 4
              · obtain ⟨k, rfl⟩ : ∃ k : Nat, N = (k : Nat) := ⟨N.toNat, by omega⟩
                have HK : Hid (1 ≤ k ∧ k ≤ 4) := ⟨by omega, by omega⟩
                have k1 : (1 : Int) ≤ (k : Nat) := hN.1
                have k4 : ((k : Nat) : Int) ≤ 4 := hN.2
                clear hN
                by_cases hk2 : k = 2
                · subst hk2
                  go_wp2_with fail
                  refine (heard_ok g x 2 A (by decide) (by rw [HA.out.2.2.1.n]; decide) HT.out.2.2.2.2 HT.out.2.2.2.1 _ (HA.out.1.call (below_alloc0 (Below.refl _ _) _))).mono ?_
                  rintro e w2 ⟨rfl, hW2, hb2⟩
                  have H2 : Hid (WatchAt w2 g (heardW x 2 A) ∧ Below g w w2) := ⟨hW2, below_but (bel HA.out.2.1 HA.out.1 (below_alloc0 (Below.refl _ _) _)) (Nat.le_refl _) (Nat.le_of_lt (HA.out.1.call (below_alloc0 (Below.refl _ _) _)).lt) hb2⟩
                  clear hW2 hb2
                  go_wp2_with fail
                  go_roundw
                  case rel => exact ⟨A, A, told, i + 1, heardW x 2 A, HL.out, HT.out.2.2.1, rfl, rfl, rfl, by go_num, HA.out.2.2.1.two, Nat.le_refl _, H2.out.1, H2.out.2⟩
                  case measure => have h1 := HL.out; simp [Go.RowKit.intOf]; omega
                · have HK2 : Hid (k ≠ 2) := hk2
                  have k2 : ¬ ((k : Int) = 2) := by omega
                  clear hk2
                  go_wp2_with fail
                  refine (heard_ok g x k A HK.out.1 (by rw [HA.out.2.2.1.n]; exact HK.out.2) HT.out.2.2.2.2 HT.out.2.2.2.1 _ (HA.out.1.call (below_alloc0 (Below.refl _ _) _))).mono ?_
                  rintro e w2 ⟨rfl, hW2, hb2⟩
                  have H2 : Hid (WatchAt w2 g (heardW x k A) ∧ Below g w w2) := ⟨hW2, below_but (bel HA.out.2.1 HA.out.1 (below_alloc0 (Below.refl _ _) _)) (Nat.le_refl _) (Nat.le_of_lt (HA.out.1.call (below_alloc0 (Below.refl _ _) _)).lt) hb2⟩
                  clear hW2 hb2
                  go_wp2_with fail
                  go_roundw
                  case rel => exact ⟨A, last, told, i + 1, heardW x k A, HL.out, HT.out.2.2.1, rfl, rfl, rfl, by go_num, HA.out.2.2.1.other HK2.out HT.out.2.1, Nat.le_trans HA.out.2.2.2.1 HT.out.1, H2.out.1, H2.out.2⟩
                  case measure => have h1 := HL.out; simp [Go.RowKit.intOf]; omega
              · have HNo : Hid (¬ (1 ≤ N ∧ N ≤ 4)) := hN
                by_cases hN1 : N < 1
                · clear hN
                  have hN2 : ¬ (N = 2) := by omega
                  go_wp2_with fail
                  refine (heard_no g x N _ (by rw [HA.out.2.2.1.n]; exact fun c => HNo.out c.1) _ (HA.out.1.call (below_alloc0 (Below.refl _ _) _))).mono ?_
                  rintro e w2 ⟨rfl, rfl⟩
                  go_wp2_with fail
                  go_roundw
                  case rel => exact ⟨A, last, told, i + 1, x, HL.out, HT.out.2.2.1, rfl, rfl, rfl, by go_num, HA.out.2.2.1.on HT.out.1 HT.out.2.1, Nat.le_trans HA.out.2.2.2.1 HT.out.1, HA.out.1.call (below_alloc0 (Below.refl _ _) _), bel HA.out.2.1 HA.out.1 (below_alloc0 (Below.refl _ _) _)⟩
                  case measure => have h1 := HL.out; simp [Go.RowKit.intOf]; omega
                · have hN4 : 4 < N := by omega
                  have hN2 : ¬ (N = 2) := by omega
                  clear hN
                  go_wp2_with fail
                  refine (heard_no g x N _ (by rw [HA.out.2.2.1.n]; exact fun c => HNo.out c.1) _ (HA.out.1.call (below_alloc0 (Below.refl _ _) _))).mono ?_
                  rintro e w2 ⟨rfl, rfl⟩
                  go_wp2_with fail
                  go_roundw
                  case rel => exact ⟨A, last, told, i + 1, x, HL.out, HT.out.2.2.1, rfl, rfl, rfl, by go_num, HA.out.2.2.1.on HT.out.1 HT.out.2.1, Nat.le_trans HA.out.2.2.2.1 HT.out.1, HA.out.1.call (below_alloc0 (Below.refl _ _) _), bel HA.out.2.1 HA.out.1 (below_alloc0 (Below.refl _ _) _)⟩
                  case measure => have h1 := HL.out; simp [Go.RowKit.intOf]; omega
    · obtain rfl : i = len := by omega
      have hnl : ¬ ((i : Int) < (i : Int)) := Int.lt_irrefl _
      have b3 : (told : Int) ≤ 5 := by have := hF.le5; omega
      clear hlt hi hnow hF hlast hW hB
      go_wp2_with fail
      refine HKr.out _ _ ?_
      clear HKr
      go_wp2_with fail
      refine (five_any _).mono ?_
      rintro e w2 ⟨rfl, hb⟩
      have HB : Hid _ := hb
      clear hb
      go_wp2_with fail
      go_ret
      refine ⟨rfl, ?_⟩
      have h := HA.out.2.1
      rw [HG.out] at h
      exact below_call0 h HB.out
theorem beatFew_any (a : Option Addr) (len cap : Nat) (w : World) (hS : StepsIn w a len) : Calls Try.prog 4 #[.slice a len cap] w fun e w' => e = .returned (.bool true) ∧ Below w.heap.size w w' := by
  rcases Nat.lt_or_ge 400 len with h | h
  · exact beatFew_long a len cap h w
  · exact beatFew_in a len cap h w hS
end Go.Proofs.Ytpgpbfcomobfkaa
