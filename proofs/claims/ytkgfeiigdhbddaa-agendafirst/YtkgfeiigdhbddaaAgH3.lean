/- Package agenda: the law AgendaFirst. -/
import Derived.Test.YtkgfeiigdhbddaaOpenA
import Derived.Test.YtkgfeiigdhbddaaHeldR
namespace Go.Proofs.Ytkgfeiigdhbddaa
open Go Go.RowKit Go.Lib
/-- An agenda, whatever became of it. -/
def AgAny (w : World) (Z : Nat → Prop) (g b : Nat) : Prop := ∃ l L, l ≤ b ∧ AgZ w Z g l L
theorem aput_any (g b : Nat) (Z : Nat → Prop) (N : Int) (s : ByteArray) (w : World) (hZ : ∀ k, w.heap.size ≤ k → Z k) (hA : AgAny w Z g b) (hb : b < 100000) (hs : s.size < 140737488351233) : Calls Try.prog 12 #[.pointer (some ⟨g, 0, none⟩), .int .i64 N, .string s] w fun e w' => ∃ v, e = .returned v ∧ AgAny w' Z g (b + 1) ∧ Off Z w w' := by
  obtain ⟨l, L, hl, hA⟩ := hA
  by_cases h : 0 ≤ N ∧ N ≤ 1099511627776
  · obtain ⟨m, rfl⟩ : ∃ m : Nat, N = (m : Int) := ⟨N.toNat, by omega⟩
    by_cases h5 : 512 ≤ L.length
    · refine (aput_full g l m Z L s (by omega) w hA h5).mono ?_
      rintro e w' ⟨he, rfl⟩
      exact ⟨_, he, ⟨l, L, by omega, hA⟩, Off.refl _ _⟩
    · refine (aput_ok g l (l + 1) m rfl Z L s (by omega) w hZ hA (by omega) (by omega) (by omega)).mono ?_
      rintro e w' ⟨he, hA', hO⟩
      exact ⟨_, he, ⟨l + 1, _, by omega, hA'⟩, hO⟩
  · refine (aput_arg (some ⟨g, 0, none⟩) N s h w).mono ?_
    rintro e w' ⟨he, rfl⟩
    exact ⟨_, he, ⟨l, L, by omega, hA⟩, Off.refl _ _⟩
theorem adrop_any (g b : Nat) (Z : Nat → Prop) (M : Int) (w : World) (hZ : ∀ k, w.heap.size ≤ k → Z k) (hA : AgAny w Z g b) (hM : M ≤ 9223372036854775807) : Calls Try.prog 13 #[.pointer (some ⟨g, 0, none⟩), .int .i64 M] w fun e w' => ∃ v, e = .returned v ∧ AgAny w' Z g (b + 1) ∧ Off Z w w' := by
  obtain ⟨l, L, hl, hA⟩ := hA
  by_cases h : 1 ≤ M
  · obtain ⟨t, rfl⟩ : ∃ t : Nat, M = (t : Int) := ⟨M.toNat, by omega⟩
    by_cases hx : ∃ x ∈ L, x.t = t
    · obtain ⟨x, hx, hxt⟩ := hx
      refine (adrop_yes g l t Z L x w hZ hA hx hxt (by omega)).mono ?_
      rintro e w' ⟨he, hA', hO⟩
      exact ⟨_, he, ⟨l, _, by omega, hA'⟩, hO⟩
    · refine (adrop_no g l t Z L w hA (by omega) (by omega) (fun e he c => hx ⟨e, he, c⟩)).mono ?_
      rintro e w' ⟨he, rfl⟩
      exact ⟨_, he, ⟨l, L, by omega, hA⟩, Off.refl _ _⟩
  · refine (adrop_arg (some ⟨g, 0, none⟩) M h w).mono ?_
    rintro e w' ⟨he, rfl⟩
    exact ⟨_, he, ⟨l, L, by omega, hA⟩, Off.refl _ _⟩
theorem amove_any (g b : Nat) (Z : Nat → Prop) (M N : Int) (w : World) (hZ : ∀ k, w.heap.size ≤ k → Z k) (hA : AgAny w Z g b) (hM : M ≤ 9223372036854775807) : Calls Try.prog 14 #[.pointer (some ⟨g, 0, none⟩), .int .i64 M, .int .i64 N] w fun e w' => ∃ v, e = .returned v ∧ AgAny w' Z g (b + 1) ∧ Off Z w w' := by
  obtain ⟨l, L, hl, hA⟩ := hA
  by_cases h : 1 ≤ M ∧ 0 ≤ N ∧ N ≤ 1099511627776
  · obtain ⟨t, rfl⟩ : ∃ t : Nat, M = (t : Int) := ⟨M.toNat, by omega⟩
    obtain ⟨m, rfl⟩ : ∃ m : Nat, N = (m : Int) := ⟨N.toNat, by omega⟩
    by_cases hx : ∃ x ∈ L, x.t = t
    · obtain ⟨x, hx, hxt⟩ := hx
      refine (amove_yes g l t m Z L x w hZ hA hx hxt (by omega) (by omega)).mono ?_
      rintro e w' ⟨he, hA', hO⟩
      exact ⟨_, he, ⟨l, _, by omega, hA'⟩, hO⟩
    · refine (amove_no g l t m Z L w hA (by omega) (by omega) (by omega) (fun e he c => hx ⟨e, he, c⟩)).mono ?_
      rintro e w' ⟨he, rfl⟩
      exact ⟨_, he, ⟨l, L, by omega, hA⟩, Off.refl _ _⟩
  · refine (amove_arg (some ⟨g, 0, none⟩) M N h w).mono ?_
    rintro e w' ⟨he, rfl⟩
    exact ⟨_, he, ⟨l, L, by omega, hA⟩, Off.refl _ _⟩
theorem AgAny.call {w w' : World} {Z : Nat → Prop} {g b : Nat} (h : AgAny w Z g b) (hb : Below w.heap.size w w') : AgAny w' Z g b := by
  obtain ⟨l, L, h1, h2⟩ := h
  exact ⟨l, L, h1, h2.call hb⟩
theorem AgAny.up {w : World} {Z : Nat → Prop} {g b c : Nat} (h : AgAny w Z g b) (hb : b ≤ c) : AgAny w Z g c := by
  obtain ⟨l, L, h1, h2⟩ := h
  exact ⟨l, L, Nat.le_trans h1 hb, h2⟩
theorem StepsA.call {w w' : World} {a : Option Addr} {n B : Nat} (h : StepsA w a n) (hB : B = w.heap.size) (hb : Below B w w') : StepsA w' a n := fun j hj => by
  obtain ⟨b, o, X, N, M, s, h1, h2, h3, h4, h5, h6, h7, h8⟩ := h j hj
  subst hB
  exact ⟨b, o, X, N, M, s, h1, (hb.cell (p := ⟨b, _, none⟩) h7).trans h2, (hb.cell (p := ⟨b, _, none⟩) h7).trans h3, (hb.cell (p := ⟨b, _, none⟩) h7).trans h4, (hb.cell (p := ⟨b, _, none⟩) h7).trans h5, h6, Nat.lt_of_lt_of_le h7 hb.size, h8⟩
theorem belowD (w : World) : Below w.heap.size w w.drew := ⟨rfl, rfl, rfl, Nat.le_refl _, fun _ _ => rfl⟩
theorem eq_en (x : En) (w : World) : Sem.run Try.prog (binOp .eql 34 (.agg #[.int .i64 (x.t : Nat), .int .i64 (x.m : Nat), .string x.s]) (.agg #[.int .i64 (x.t : Nat), .int .i64 (x.m : Nat), .string x.s])) w = .ok (.bool true) w := by
  simp [go_sem]
set_option maxRecDepth 100000 in
set_option maxHeartbeats 1000000 in
theorem agendaFirst_no (a : Option Addr) (n cap : Nat) (now : Int) (w : World) (h : 200 < n ∨ now < 0 ∨ 1099511627776 < now) : Calls Try.prog 6 #[.slice a n cap, .int .i64 now] w fun e w' => e = .returned (.bool true) ∧ Below w.heap.size w w' := by
  have hc : 200 < n ∨ (¬ 200 < n ∧ now < 0) ∨ (¬ 200 < n ∧ ¬ now < 0 ∧ 1099511627776 < now) := by omega
  clear h
  rcases hc with h1 | ⟨h1, h2⟩ | ⟨h1, h2, h3⟩
  all_goals
    first | have d1 : (200 : Int) < (n : Nat) := by omega
          | have d1 : ¬ ((200 : Int) < (n : Nat)) := by omega
    clear h1
    go_enter Try.func6, Try.ntmps6
    go_wp2_with fail
    refine (anew_in (From w.heap.size) w (fun k hk => hk)).mono ?_
    rintro e w1 ⟨rfl, hA1, hb1⟩
    have H1 : Hid (Below w.heap.size w w1) := hb1
    clear hA1 hb1
    go_wp2_with fail
    refine (three_any _).mono ?_
    rintro e w2 ⟨rfl, hb2⟩
    have H2 : Hid (Below w.heap.size w w2) := below_call0 H1.out hb2
    clear hb2
    go_wp2_with fail
    go_ret
    exact ⟨rfl, H2.out⟩
set_option maxRecDepth 100000 in
set_option maxHeartbeats 4000000 in
theorem agendaFirst_ok (a : Option Addr) (n cap : Nat) (now : Nat) (hn : n ≤ 200) (hnow : now ≤ 1099511627776) (w : World) (hS : StepsA w a n) : Calls Try.prog 6 #[.slice a n cap, .int .i64 (now : Nat)] w fun e w' => e = .returned (.bool true) ∧ Below w.heap.size w w' := by
  have HS : Hid (StepsA w a n ∧ n ≤ 200 ∧ now ≤ 1099511627776) := ⟨hS, hn, hnow⟩
  have d1 : ¬ ((200 : Int) < (n : Nat)) := by omega
  have d2 : ¬ ((now : Int) < 0) := by omega
  have d3 : ¬ ((1099511627776 : Int) < (now : Nat)) := by omega
  have d4 : decide ((now : Int) < 0) = false := decide_eq_false d2
  have d5 : decide ((1099511627776 : Int) < (now : Nat)) = false := decide_eq_false d3
  have d6 : decide ((200 : Int) < (n : Nat)) = false := decide_eq_false d1
  have n2 : (n : Int) ≤ 200 := by omega
  obtain ⟨g, hg⟩ : ∃ g, g = w.heap.size := ⟨_, rfl⟩
  have HG : Hid (g = w.heap.size) := hg
  clear hS hn hnow
  go_enter Try.func6, Try.ntmps6
  go_wp2_with fail
  refine (anew_in (From g) w (fun k hk => by show g ≤ k; rw [HG.out]; exact hk)).mono ?_
  rintro e w1 ⟨rfl, hA1, hb1⟩
  rw [← hg] at hA1 hb1 ⊢
  have H1 : Hid (AgAny w1 (From g) g 0 ∧ Below g w w1) := ⟨⟨0, [], Nat.le_refl _, hA1⟩, hb1⟩
  clear hA1 hb1 hg
  go_wp2_with fail
  rename_i Kr hKr
  have HKr : Hid _ := hKr
  clear hKr
  go_loopw [36] (fun iv wr => ∃ k : Nat, k ≤ n ∧ iv = .int .i64 (k : Nat) ∧ AgAny wr (From g) g k ∧ Below g w wr) (fun iv _ => n - (Go.RowKit.intOf iv).toNat)
  case atStart => exact ⟨0, Nat.zero_le _, rfl, H1.out⟩
  case round =>
    obtain ⟨k, hk, rfl, hA, hB⟩ := hrel
    rename World => wr
    have HR : Hid (AgAny wr (From g) g k ∧ Below g w wr) := ⟨hA, hB⟩
    by_cases hlt : k < n
    · obtain ⟨b, o, X, N, M, s, ha, c0, c1, c2, c3, hs, hbz, hN, hM⟩ := (HS.out.1.call HG.out hB) k hlt
      subst ha
      have HX : Hid (s.size < 140737488351233 ∧ M ≤ 9223372036854775807 ∧ k < n ∧ k < 100000) := ⟨hs, hM.2, hlt, by have := HS.out.2.1; omega⟩
      have i1 : (k : Int) < (n : Int) := by omega
      clear HKr hk hA hB hlt hs hbz hN hM H1
      have hxc : X = 0 ∨ X = 1 ∨ X = 2 ∨ X = 3 ∨ (¬ X = 0 ∧ ¬ X = 1 ∧ ¬ X = 2 ∧ ¬ X = 3) := by omega
      rcases hxc with rfl | rfl | rfl | rfl | ⟨x0, x1, x2, x3⟩
      · go_wp2_with fail
        have hbA : Below wr.heap.size wr (wr.alloc (.cells #[.int .i64 0, .int .i64 N, .int .i64 M, .string s] 31)) := below_alloc0 (Below.refl _ _) _
        refine (aput_any g k (From g) N s _ (from_new (HR.out.2.trans (hbA.mono (Nat.le_trans (Nat.le_of_eq HG.out) HR.out.2.size))) (Nat.le_of_eq HG.out)) (HR.out.1.call hbA) HX.out.2.2.2 HX.out.1).mono ?_
        rintro e w3 ⟨v3, rfl, hA3, hO3⟩
        have H3 : Hid (AgAny w3 (From g) g (k + 1) ∧ Below g w w3) := ⟨hA3, from_off (HR.out.2.trans (hbA.mono (Nat.le_trans (Nat.le_of_eq HG.out) HR.out.2.size))) hO3⟩
        clear hA3 hO3 hbA
        go_wp2_with fail
        go_roundw
        case rel => first | exact ⟨k + 1, HX.out.2.2.1, by go_num, H3.out⟩ | ((repeat apply Exists.intro); exact ⟨⟨k + 1, HX.out.2.2.1, by go_num, H3.out⟩, rfl⟩)
        case measure => have h1 := HX.out.2.2.1; simp [Go.RowKit.intOf]; omega
      · go_wp2_with fail
        have hbA : Below wr.heap.size wr (wr.alloc (.cells #[.int .i64 1, .int .i64 N, .int .i64 M, .string s] 31)) := below_alloc0 (Below.refl _ _) _
        refine (aput_any g k (From g) N s _ (from_new (HR.out.2.trans (hbA.mono (Nat.le_trans (Nat.le_of_eq HG.out) HR.out.2.size))) (Nat.le_of_eq HG.out)) (HR.out.1.call hbA) HX.out.2.2.2 HX.out.1).mono ?_
        rintro e w3 ⟨v3, rfl, hA3, hO3⟩
        have H3 : Hid (AgAny w3 (From g) g (k + 1) ∧ Below g w w3) := ⟨hA3, from_off (HR.out.2.trans (hbA.mono (Nat.le_trans (Nat.le_of_eq HG.out) HR.out.2.size))) hO3⟩
        clear hA3 hO3 hbA
        go_wp2_with fail
        go_roundw
        case rel => first | exact ⟨k + 1, HX.out.2.2.1, by go_num, H3.out⟩ | ((repeat apply Exists.intro); exact ⟨⟨k + 1, HX.out.2.2.1, by go_num, H3.out⟩, rfl⟩)
        case measure => have h1 := HX.out.2.2.1; simp [Go.RowKit.intOf]; omega
      · go_wp2_with fail
        have hbA : Below wr.heap.size wr (wr.alloc (.cells #[.int .i64 2, .int .i64 N, .int .i64 M, .string s] 31)) := below_alloc0 (Below.refl _ _) _
        refine (adrop_any g k (From g) M _ (from_new (HR.out.2.trans (hbA.mono (Nat.le_trans (Nat.le_of_eq HG.out) HR.out.2.size))) (Nat.le_of_eq HG.out)) (HR.out.1.call hbA) HX.out.2.1).mono ?_
        rintro e w3 ⟨v3, rfl, hA3, hO3⟩
        have H3 : Hid (AgAny w3 (From g) g (k + 1) ∧ Below g w w3) := ⟨hA3, from_off (HR.out.2.trans (hbA.mono (Nat.le_trans (Nat.le_of_eq HG.out) HR.out.2.size))) hO3⟩
        clear hA3 hO3 hbA
        go_wp2_with fail
        go_roundw
        case rel => first | exact ⟨k + 1, HX.out.2.2.1, by go_num, H3.out⟩ | ((repeat apply Exists.intro); exact ⟨⟨k + 1, HX.out.2.2.1, by go_num, H3.out⟩, rfl⟩)
        case measure => have h1 := HX.out.2.2.1; simp [Go.RowKit.intOf]; omega
      · go_wp2_with fail
        have hbA : Below wr.heap.size wr (wr.alloc (.cells #[.int .i64 3, .int .i64 N, .int .i64 M, .string s] 31)) := below_alloc0 (Below.refl _ _) _
        refine (amove_any g k (From g) M N _ (from_new (HR.out.2.trans (hbA.mono (Nat.le_trans (Nat.le_of_eq HG.out) HR.out.2.size))) (Nat.le_of_eq HG.out)) (HR.out.1.call hbA) HX.out.2.1).mono ?_
        rintro e w3 ⟨v3, rfl, hA3, hO3⟩
        have H3 : Hid (AgAny w3 (From g) g (k + 1) ∧ Below g w w3) := ⟨hA3, from_off (HR.out.2.trans (hbA.mono (Nat.le_trans (Nat.le_of_eq HG.out) HR.out.2.size))) hO3⟩
        clear hA3 hO3 hbA
        go_wp2_with fail
        go_roundw
        case rel => first | exact ⟨k + 1, HX.out.2.2.1, by go_num, H3.out⟩ | ((repeat apply Exists.intro); exact ⟨⟨k + 1, HX.out.2.2.1, by go_num, H3.out⟩, rfl⟩)
        case measure => have h1 := HX.out.2.2.1; simp [Go.RowKit.intOf]; omega
      · have HA : Hid (AgAny (wr.alloc (.cells #[.int .i64 X, .int .i64 N, .int .i64 M, .string s] 31)) (From g) g (k + 1) ∧ Below g w (wr.alloc (.cells #[.int .i64 X, .int .i64 N, .int .i64 M, .string s] 31))) := by
          have hbA : Below wr.heap.size wr (wr.alloc (.cells #[.int .i64 X, .int .i64 N, .int .i64 M, .string s] 31)) := below_alloc0 (Below.refl _ _) _
          exact ⟨(HR.out.1.call hbA).up (Nat.le_succ _), HR.out.2.trans (hbA.mono (Nat.le_trans (Nat.le_of_eq HG.out) HR.out.2.size))⟩
        go_wp2_with fail
        go_roundw
        case rel => first | exact ⟨k + 1, HX.out.2.2.1, by go_num, HA.out⟩ | ((repeat apply Exists.intro); exact ⟨⟨k + 1, HX.out.2.2.1, by go_num, HA.out⟩, rfl⟩)
        case measure => have h1 := HX.out.2.2.1; simp [Go.RowKit.intOf]; omega
    · obtain rfl : k = n := by omega
      have hnl : ¬ ((k : Int) < (k : Int)) := Int.lt_irrefl _
      clear hlt hk hA hB
      go_wp2_with fail
      refine HKr.out _ _ ?_
      clear HKr
      obtain ⟨l, L, hl, hAL⟩ := HR.out.1
      have HL : Hid (AgZ wr (From g) g l L ∧ Below g w wr) := ⟨hAL, HR.out.2⟩
      have l5 := hAL.len5
      clear hl hAL HR
      cases L with
      | nil =>
        go_wp2_with fail
        refine (afirst_nil g l (From g) wr HL.out.1).mono ?_
        rintro e w2 ⟨rfl, hb2⟩
        have H2 : Hid (AgZ w2 (From g) g l [] ∧ Below g w w2) := ⟨HL.out.1.call hb2, HL.out.2.trans (hb2.mono (Nat.le_trans (Nat.le_of_eq HG.out) HL.out.2.size))⟩
        clear hb2
        unfold enG
        go_wp2_with fail
        have hbA : Below w2.heap.size w2 (w2.alloc (.cells #[.int .i64 (zeroE.t : Nat), .int .i64 (zeroE.m : Nat), .string zeroE.s] 34)) := below_alloc0 (Below.refl _ _) _
        have H3 : Hid (AgZ (w2.alloc (.cells #[.int .i64 (zeroE.t : Nat), .int .i64 (zeroE.m : Nat), .string zeroE.s] 34)) (From g) g l [] ∧ Below g w (w2.alloc (.cells #[.int .i64 (zeroE.t : Nat), .int .i64 (zeroE.m : Nat), .string zeroE.s] 34))) := ⟨H2.out.1.call hbA, H2.out.2.trans (hbA.mono (Nat.le_trans (Nat.le_of_eq HG.out) H2.out.2.size))⟩
        clear hbA H2
        refine (alen_in g l 0 (From g) [] rfl _ H3.out.1).mono ?_
        rintro e w3 ⟨rfl, hw3⟩
        rw [hw3]
        clear hw3 w3
        go_wp2_with fail
        refine (atake_ok g l now (From g) [] HS.out.2.2 _ (from_new H3.out.2 (Nat.le_of_eq HG.out)) H3.out.1).mono ?_
        rintro e w4 ⟨a4, m4, cap4, rfl, hm4, hR4, _, hA4, hO4⟩
        obtain rfl : m4 = 0 := hm4
        have H4 : Hid (AgZ w4 (From g) g l [] ∧ Below g w w4) := ⟨hA4, from_off H3.out.2 hO4⟩
        clear hR4 hA4 hO4
        go_wp2_with fail
        refine (alen_in g l 0 (From g) [] rfl _ H4.out.1).mono ?_
        rintro e w5 ⟨rfl, hw5⟩
        rw [hw5]
        clear hw5 w5
        go_wp2_with fail
        refine (three_any _).mono ?_
        rintro e w6 ⟨rfl, hb6⟩
        have H6 : Hid (Below g w w6) := H4.out.2.trans (hb6.mono (Nat.le_trans (Nat.le_of_eq HG.out) H4.out.2.size))
        clear hb6
        go_wp2_with fail
        go_ret
        exact ⟨rfl, by rw [← HG.out]; exact H6.out⟩
      | cons x R =>
        obtain ⟨nn, hnn⟩ : ∃ nn, nn = (x :: R).length := ⟨_, rfl⟩
        obtain ⟨mm, hmm⟩ : ∃ mm, mm = (due now (x :: R)).length := ⟨_, rfl⟩
        obtain ⟨rr, hrr⟩ : ∃ rr, rr = (rest now (x :: R)).length := ⟨_, rfl⟩
        have hsum : mm + rr = nn := by rw [hnn, hmm, hrr]; unfold due rest; rw [← List.length_append, List.takeWhile_append_dropWhile]
        have HN : Hid (nn = (x :: R).length ∧ mm = (due now (x :: R)).length ∧ rr = (rest now (x :: R)).length) := ⟨hnn, hmm, hrr⟩
        have j1 : (0 : Int) < (nn : Nat) := by rw [hnn, List.length_cons]; omega
        have j2 : (nn : Int) ≤ 512 := by omega
        have j3 : (nn : Int) - (mm : Int) = (rr : Int) := by omega
        have j4 : decide ((0 : Int) < (nn : Nat)) = true := decide_eq_true j1
        have j5 : (mm : Int) ≤ 512 := by omega
        have j6 : (rr : Int) ≤ 512 := by omega
        clear hnn hmm hrr hsum l5
        go_wp2_with fail
        refine (afirst_cons g l (From g) x R wr HL.out.1).mono ?_
        rintro e w2 ⟨rfl, hb2⟩
        have H2 : Hid (AgZ w2 (fun k => g ≤ k ∧ k < w2.heap.size) g l (x :: R) ∧ Below g w w2) := ⟨(HL.out.1.call hb2).mono (fun k hk h => ⟨h, hk⟩), HL.out.2.trans (hb2.mono (Nat.le_trans (Nat.le_of_eq HG.out) HL.out.2.size))⟩
        clear hb2
        unfold enG
        go_wp2_with fail
        have hbA : Below w2.heap.size w2 (w2.alloc (.cells #[.int .i64 (x.t : Nat), .int .i64 (x.m : Nat), .string x.s] 34)) := below_alloc0 (Below.refl _ _) _
        have x0 : (w2.alloc (.cells #[.int .i64 (x.t : Nat), .int .i64 (x.m : Nat), .string x.s] 34)).cell? ⟨w2.heap.size, 0, none⟩ = some (.int .i64 (x.t : Nat)) := by rw [World.cell?_alloc_new]; rfl
        have x1 : (w2.alloc (.cells #[.int .i64 (x.t : Nat), .int .i64 (x.m : Nat), .string x.s] 34)).cell? ⟨w2.heap.size, 1, none⟩ = some (.int .i64 (x.m : Nat)) := by rw [World.cell?_alloc_new]; rfl
        have x2 : (w2.alloc (.cells #[.int .i64 (x.t : Nat), .int .i64 (x.m : Nat), .string x.s] 34)).cell? ⟨w2.heap.size, 2, none⟩ = some (.string x.s) := by rw [World.cell?_alloc_new]; rfl
        have hz3 : (w2.alloc (.cells #[.int .i64 (x.t : Nat), .int .i64 (x.m : Nat), .string x.s] 34)).heap.size = w2.heap.size + 1 := by simp
        have H3 : Hid (AgZ (w2.alloc (.cells #[.int .i64 (x.t : Nat), .int .i64 (x.m : Nat), .string x.s] 34)) (fun k => (g ≤ k ∧ k < w2.heap.size) ∨ w2.heap.size + 1 ≤ k) g l (x :: R) ∧ Below g w (w2.alloc (.cells #[.int .i64 (x.t : Nat), .int .i64 (x.m : Nat), .string x.s] 34)) ∧ (w2.alloc (.cells #[.int .i64 (x.t : Nat), .int .i64 (x.m : Nat), .string x.s] 34)).heap.size = w2.heap.size + 1 ∧ g ≤ w2.heap.size) := ⟨(H2.out.1.call hbA).mono (fun k _ h => .inl h), H2.out.2.trans (hbA.mono (Nat.le_trans (Nat.le_of_eq HG.out) H2.out.2.size)), hz3, Nat.le_trans (Nat.le_of_eq HG.out) H2.out.2.size⟩
        obtain ⟨E, hE⟩ : ∃ E, E = w2.heap.size := ⟨_, rfl⟩
        rw [← hE] at x0 x1 x2 H3 ⊢
        have HE : Hid (E = w2.heap.size) := hE
        clear hbA H2 hz3 hE
        generalize w2.alloc (.cells #[.int .i64 (x.t : Nat), .int .i64 (x.m : Nat), .string x.s] 34) = V at *
        refine (alen_in g l nn _ (x :: R) HN.out.1 V H3.out.1).mono ?_
        rintro e w3 ⟨rfl, hw3⟩
        rw [hw3]
        clear hw3 w3
        go_wp2_with fail
        refine (atake_ok g l now _ (x :: R) HS.out.2.2 V (fun k hk => .inr (by have := H3.out.2.2.1; omega)) H3.out.1).mono ?_
        rintro e w4 ⟨a4, m4, cap4, rfl, hm4, hR4, hq4, hA4, hO4⟩
        obtain rfl : m4 = mm := by rw [hm4]; exact HN.out.2.1.symm
        have hEn : ¬ ((g ≤ E ∧ E < E) ∨ E + 1 ≤ E) := by omega
        have y0 := (hO4.cell (p := ⟨E, 0, none⟩) hEn).trans x0
        have y1 := (hO4.cell (p := ⟨E, 1, none⟩) hEn).trans x1
        have y2 := (hO4.cell (p := ⟨E, 2, none⟩) hEn).trans x2
        have hE4 : E < w4.heap.size := by have := hO4.size; have := H3.out.2.2.1; omega
        have H4 : Hid (AgZ w4 (fun k => (g ≤ k ∧ k < E) ∨ E + 1 ≤ k) g l (rest now (x :: R)) ∧ Below g w w4 ∧ RwO w4 a4 cap4 m4 (enF (due now (x :: R)))) := ⟨hA4, ⟨hO4.os.trans H3.out.2.1.os, hO4.tape.trans H3.out.2.1.tape, hO4.output.trans H3.out.2.1.output, Nat.le_trans H3.out.2.1.size hO4.size, fun k hk => (hO4.block k (fun c => by have := H3.out.2.2.2; omega)).trans (H3.out.2.1.block k hk)⟩, hR4⟩
        clear hm4 hR4 hq4 hA4 hO4 hEn x0 x1 x2
        go_wp2_with fail
        refine (alen_in g l rr _ _ HN.out.2.2 w4 H4.out.1).mono ?_
        rintro e w5 ⟨rfl, hw5⟩
        rw [hw5]
        clear hw5 w5
        by_cases hx : x.m ≤ now
        · have k1 : (x.m : Int) ≤ (now : Int) := by omega
          have k2 : decide ((x.m : Int) ≤ (now : Int)) = true := decide_eq_true k1
          have hd : due now (x :: R) = x :: due now R := by simp [due, hx]
          have hm0 : 0 < m4 := by have := HN.out.2.1; rw [hd] at this; rw [this, List.length_cons]; omega
          have k3 : (0 : Int) < (m4 : Nat) := by omega
          have k4 : decide ((0 : Int) < (m4 : Nat)) = true := decide_eq_true k3
          have hrow := H4.out.2.2
          rcases hrow with ⟨_, h0, _⟩ | ⟨q4, rfl, hrow⟩
          · omega
          · have z0 := hrow.c0 0 hm0
            have z1 := hrow.c1 0 hm0
            have z2 := hrow.c2 0 hm0
            have he0 : enF (due now (x :: R)) 0 = x := by rw [hd]; rfl
            rw [he0] at z0 z1 z2
            have hq4 := hrow.lt
            have k5 : decide (0 < m4) = true := decide_eq_true hm0
            clear hrow hd he0 hx
            go_wp2_with fail
            have hq := eq_en x
            refine wp_region_H (fun w' => Below w4.heap.size w4 w') 14 rfl (by kernel_rfl) ?_
            refine wpAnyH_take (i := 0) (oi := ?o0q) (v := ?v0q) ?hi0q (by kernel_rfl) (by kernel_rfl) (by kernel_rfl) ?hQ0q ?hy0q (belowD w4) ?more0q
            case hi0q => rw [List.getElem?_toArray]; exact rfl
            case hQ0q => exact fun _ _ _ h => h
            case hy0q =>
              refine Or.inl ⟨by rfl, ?_⟩
              intro w' hSw
              have y0' := (hSw.cell (p := ⟨E, 0, none⟩) hE4).trans y0
              have y1' := (hSw.cell (p := ⟨E, 1, none⟩) hE4).trans y1
              have y2' := (hSw.cell (p := ⟨E, 2, none⟩) hE4).trans y2
              have z0' := (hSw.cell (p := ⟨q4, _, none⟩) hq4).trans z0
              have z1' := (hSw.cell (p := ⟨q4, _, none⟩) hq4).trans z1
              have z2' := (hSw.cell (p := ⟨q4, _, none⟩) hq4).trans z2
              clear hSw
              go_simp
              try with_reducible rfl
            simp only [Act.put, List.setIfInBounds_toArray, List.set_cons_zero, List.set_cons_succ]
            refine wpAnyH_take (i := 1) (oi := ?o1q) (v := ?v1q) ?hi1q (by kernel_rfl) (by kernel_rfl) (by kernel_rfl) ?hQ1q ?hy1q (belowD w4) ?more1q
            case hi1q => rw [List.getElem?_toArray]; exact rfl
            case hQ1q => exact fun _ _ _ h => h
            case hy1q =>
              refine Or.inl ⟨by rfl, ?_⟩
              intro w' hSw
              have y0' := (hSw.cell (p := ⟨E, 0, none⟩) hE4).trans y0
              have y1' := (hSw.cell (p := ⟨E, 1, none⟩) hE4).trans y1
              have y2' := (hSw.cell (p := ⟨E, 2, none⟩) hE4).trans y2
              have z0' := (hSw.cell (p := ⟨q4, _, none⟩) hq4).trans z0
              have z1' := (hSw.cell (p := ⟨q4, _, none⟩) hq4).trans z1
              have z2' := (hSw.cell (p := ⟨q4, _, none⟩) hq4).trans z2
              clear hSw
              go_simp
              try with_reducible rfl
            simp only [Act.put, List.setIfInBounds_toArray, List.set_cons_zero, List.set_cons_succ]
            refine wpAnyH_take (i := 2) (oi := ?o2q) (v := ?v2q) ?hi2q (by kernel_rfl) (by kernel_rfl) (by kernel_rfl) ?hQ2q ?hy2q (belowD w4) ?more2q
            case hi2q => rw [List.getElem?_toArray]; exact rfl
            case hQ2q => exact fun _ _ _ h => h
            case hy2q =>
              refine Or.inl ⟨by rfl, ?_⟩
              intro w' hSw
              have y0' := (hSw.cell (p := ⟨E, 0, none⟩) hE4).trans y0
              have y1' := (hSw.cell (p := ⟨E, 1, none⟩) hE4).trans y1
              have y2' := (hSw.cell (p := ⟨E, 2, none⟩) hE4).trans y2
              have z0' := (hSw.cell (p := ⟨q4, _, none⟩) hq4).trans z0
              have z1' := (hSw.cell (p := ⟨q4, _, none⟩) hq4).trans z1
              have z2' := (hSw.cell (p := ⟨q4, _, none⟩) hq4).trans z2
              clear hSw
              go_simp
              try with_reducible rfl
            simp only [Act.put, List.setIfInBounds_toArray, List.set_cons_zero, List.set_cons_succ]
            refine wpAnyH_take (i := 3) (oi := ?o3q) (v := ?v3q) ?hi3q (by kernel_rfl) (by kernel_rfl) (by kernel_rfl) ?hQ3q ?hy3q (belowD w4) ?more3q
            case hi3q => rw [List.getElem?_toArray]; exact rfl
            case hQ3q => exact fun _ _ _ h => h
            case hy3q =>
              refine Or.inl ⟨by rfl, ?_⟩
              intro w' hSw
              have y0' := (hSw.cell (p := ⟨E, 0, none⟩) hE4).trans y0
              have y1' := (hSw.cell (p := ⟨E, 1, none⟩) hE4).trans y1
              have y2' := (hSw.cell (p := ⟨E, 2, none⟩) hE4).trans y2
              have z0' := (hSw.cell (p := ⟨q4, _, none⟩) hq4).trans z0
              have z1' := (hSw.cell (p := ⟨q4, _, none⟩) hq4).trans z1
              have z2' := (hSw.cell (p := ⟨q4, _, none⟩) hq4).trans z2
              clear hSw
              go_simp
              try with_reducible rfl
            simp only [Act.put, List.setIfInBounds_toArray, List.set_cons_zero, List.set_cons_succ]
            refine wpAnyH_take (i := 4) (oi := ?o4q) (v := ?v4q) ?hi4q (by kernel_rfl) (by kernel_rfl) (by kernel_rfl) ?hQ4q ?hy4q (belowD w4) ?more4q
            case hi4q => rw [List.getElem?_toArray]; exact rfl
            case hQ4q => exact fun _ _ _ h => h
            case hy4q =>
              refine Or.inl ⟨by rfl, ?_⟩
              intro w' hSw
              have y0' := (hSw.cell (p := ⟨E, 0, none⟩) hE4).trans y0
              have y1' := (hSw.cell (p := ⟨E, 1, none⟩) hE4).trans y1
              have y2' := (hSw.cell (p := ⟨E, 2, none⟩) hE4).trans y2
              have z0' := (hSw.cell (p := ⟨q4, _, none⟩) hq4).trans z0
              have z1' := (hSw.cell (p := ⟨q4, _, none⟩) hq4).trans z1
              have z2' := (hSw.cell (p := ⟨q4, _, none⟩) hq4).trans z2
              clear hSw
              go_simp
              try with_reducible rfl
            simp only [Act.put, List.setIfInBounds_toArray, List.set_cons_zero, List.set_cons_succ]
            refine wpAnyH_take (i := 5) (oi := ?o5q) (v := ?v5q) ?hi5q (by kernel_rfl) (by kernel_rfl) (by kernel_rfl) ?hQ5q ?hy5q (belowD w4) ?more5q
            case hi5q => rw [List.getElem?_toArray]; exact rfl
            case hQ5q => exact fun _ _ _ h => h
            case hy5q =>
              refine Or.inl ⟨by rfl, ?_⟩
              intro w' hSw
              have y0' := (hSw.cell (p := ⟨E, 0, none⟩) hE4).trans y0
              have y1' := (hSw.cell (p := ⟨E, 1, none⟩) hE4).trans y1
              have y2' := (hSw.cell (p := ⟨E, 2, none⟩) hE4).trans y2
              have z0' := (hSw.cell (p := ⟨q4, _, none⟩) hq4).trans z0
              have z1' := (hSw.cell (p := ⟨q4, _, none⟩) hq4).trans z1
              have z2' := (hSw.cell (p := ⟨q4, _, none⟩) hq4).trans z2
              clear hSw
              go_simp
              try with_reducible rfl
            simp only [Act.put, List.setIfInBounds_toArray, List.set_cons_zero, List.set_cons_succ]
            refine wpAnyH_take (i := 6) (oi := ?o6q) (v := ?v6q) ?hi6q (by kernel_rfl) (by kernel_rfl) (by kernel_rfl) ?hQ6q ?hy6q (belowD w4) ?more6q
            case hi6q => rw [List.getElem?_toArray]; exact rfl
            case hQ6q => exact fun _ _ _ h => h
            case hy6q =>
              refine Or.inl ⟨by rfl, ?_⟩
              intro w' hSw
              have y0' := (hSw.cell (p := ⟨E, 0, none⟩) hE4).trans y0
              have y1' := (hSw.cell (p := ⟨E, 1, none⟩) hE4).trans y1
              have y2' := (hSw.cell (p := ⟨E, 2, none⟩) hE4).trans y2
              have z0' := (hSw.cell (p := ⟨q4, _, none⟩) hq4).trans z0
              have z1' := (hSw.cell (p := ⟨q4, _, none⟩) hq4).trans z1
              have z2' := (hSw.cell (p := ⟨q4, _, none⟩) hq4).trans z2
              clear hSw
              go_simp
              try with_reducible rfl
            simp only [Act.put, List.setIfInBounds_toArray, List.set_cons_zero, List.set_cons_succ]
            refine wpAnyH_take (i := 7) (oi := ?o7q) (v := ?v7q) ?hi7q (by kernel_rfl) (by kernel_rfl) (by kernel_rfl) ?hQ7q ?hy7q (belowD w4) ?more7q
            case hi7q => rw [List.getElem?_toArray]; exact rfl
            case hQ7q => exact fun _ _ _ h => h
            case hy7q =>
              refine Or.inl ⟨by rfl, ?_⟩
              intro w' hSw
              have y0' := (hSw.cell (p := ⟨E, 0, none⟩) hE4).trans y0
              have y1' := (hSw.cell (p := ⟨E, 1, none⟩) hE4).trans y1
              have y2' := (hSw.cell (p := ⟨E, 2, none⟩) hE4).trans y2
              have z0' := (hSw.cell (p := ⟨q4, _, none⟩) hq4).trans z0
              have z1' := (hSw.cell (p := ⟨q4, _, none⟩) hq4).trans z1
              have z2' := (hSw.cell (p := ⟨q4, _, none⟩) hq4).trans z2
              clear hSw
              go_simp
              try with_reducible rfl
            simp only [Act.put, List.setIfInBounds_toArray, List.set_cons_zero, List.set_cons_succ]
            refine wpAnyH_take (i := 8) (oi := ?o8q) (v := ?v8q) ?hi8q (by kernel_rfl) (by kernel_rfl) (by kernel_rfl) ?hQ8q ?hy8q (belowD w4) ?more8q
            case hi8q => rw [List.getElem?_toArray]; exact rfl
            case hQ8q => exact fun _ _ _ h => h
            case hy8q =>
              refine Or.inl ⟨by rfl, ?_⟩
              intro w' hSw
              have y0' := (hSw.cell (p := ⟨E, 0, none⟩) hE4).trans y0
              have y1' := (hSw.cell (p := ⟨E, 1, none⟩) hE4).trans y1
              have y2' := (hSw.cell (p := ⟨E, 2, none⟩) hE4).trans y2
              have z0' := (hSw.cell (p := ⟨q4, _, none⟩) hq4).trans z0
              have z1' := (hSw.cell (p := ⟨q4, _, none⟩) hq4).trans z1
              have z2' := (hSw.cell (p := ⟨q4, _, none⟩) hq4).trans z2
              clear hSw
              go_simp
              try with_reducible rfl
            simp only [Act.put, List.setIfInBounds_toArray, List.set_cons_zero, List.set_cons_succ]
            refine wpAnyH_take (i := 9) (oi := ?o9q) (v := ?v9q) ?hi9q (by kernel_rfl) (by kernel_rfl) (by kernel_rfl) ?hQ9q ?hy9q (belowD w4) ?more9q
            case hi9q => rw [List.getElem?_toArray]; exact rfl
            case hQ9q => exact fun _ _ _ h => h
            case hy9q =>
              refine Or.inl ⟨by rfl, ?_⟩
              intro w' hSw
              have y0' := (hSw.cell (p := ⟨E, 0, none⟩) hE4).trans y0
              have y1' := (hSw.cell (p := ⟨E, 1, none⟩) hE4).trans y1
              have y2' := (hSw.cell (p := ⟨E, 2, none⟩) hE4).trans y2
              have z0' := (hSw.cell (p := ⟨q4, _, none⟩) hq4).trans z0
              have z1' := (hSw.cell (p := ⟨q4, _, none⟩) hq4).trans z1
              have z2' := (hSw.cell (p := ⟨q4, _, none⟩) hq4).trans z2
              clear hSw
              go_simp
              try with_reducible rfl
            simp only [Act.put, List.setIfInBounds_toArray, List.set_cons_zero, List.set_cons_succ]
            refine wpAnyH_take (i := 10) (oi := ?o10q) (v := ?v10q) ?hi10q (by kernel_rfl) (by kernel_rfl) (by kernel_rfl) ?hQ10q ?hy10q (belowD w4) ?more10q
            case hi10q => rw [List.getElem?_toArray]; exact rfl
            case hQ10q => exact fun _ _ _ h => h
            case hy10q =>
              refine Or.inl ⟨by rfl, ?_⟩
              intro w' hSw
              have y0' := (hSw.cell (p := ⟨E, 0, none⟩) hE4).trans y0
              have y1' := (hSw.cell (p := ⟨E, 1, none⟩) hE4).trans y1
              have y2' := (hSw.cell (p := ⟨E, 2, none⟩) hE4).trans y2
              have z0' := (hSw.cell (p := ⟨q4, _, none⟩) hq4).trans z0
              have z1' := (hSw.cell (p := ⟨q4, _, none⟩) hq4).trans z1
              have z2' := (hSw.cell (p := ⟨q4, _, none⟩) hq4).trans z2
              clear hSw
              go_simp
              try with_reducible rfl
            simp only [Act.put, List.setIfInBounds_toArray, List.set_cons_zero, List.set_cons_succ]
            refine wpAnyH_one (i := 11) (o := ?o11q) (by kernel_rfl) ?hi11q ?hw11q ?st11q
            case hi11q => rw [List.getElem?_toArray]; exact rfl
            case hw11q => exact rfl
            intro K hK
            have HK11q : Hid _ := hK
            clear hK
            go_simp
            refine (three_any _).mono ?_
            rintro e w6 ⟨rfl, hb6⟩
            have H6 : Hid (Below w4.heap.size w4 w6) := ⟨hb6.os, hb6.tape, hb6.output, hb6.size, hb6.block⟩
            clear hb6
            go_wp2_with fail
            refine HK11q.out _ _ ⟨H6.out, ?_⟩
            clear HK11q K
            try simp only [Act.put, List.setIfInBounds_toArray, List.set_cons_zero, List.set_cons_succ]
            refine wpAnyH_take (i := 12) (oi := ?o12q) (v := ?v12q) ?hi12q (by kernel_rfl) (by kernel_rfl) (by kernel_rfl) ?hQ12q ?hy12q H6.out ?more12q
            case hi12q => rw [List.getElem?_toArray]; exact rfl
            case hQ12q => exact fun _ _ _ h => h
            case hy12q =>
              refine Or.inl ⟨by rfl, ?_⟩
              intro w' hSw
              have y0' := (hSw.cell (p := ⟨E, 0, none⟩) hE4).trans y0
              have y1' := (hSw.cell (p := ⟨E, 1, none⟩) hE4).trans y1
              have y2' := (hSw.cell (p := ⟨E, 2, none⟩) hE4).trans y2
              have z0' := (hSw.cell (p := ⟨q4, _, none⟩) hq4).trans z0
              have z1' := (hSw.cell (p := ⟨q4, _, none⟩) hq4).trans z1
              have z2' := (hSw.cell (p := ⟨q4, _, none⟩) hq4).trans z2
              clear hSw
              go_simp
              try with_reducible rfl
            simp only [Act.put, List.setIfInBounds_toArray, List.set_cons_zero, List.set_cons_succ]
            refine wpAnyH_take (i := 13) (oi := ?o13q) (v := ?v13q) ?hi13q (by kernel_rfl) (by kernel_rfl) (by kernel_rfl) ?hQ13q ?hy13q H6.out ?more13q
            case hi13q => rw [List.getElem?_toArray]; exact rfl
            case hQ13q => exact fun _ _ _ h => h
            case hy13q =>
              refine Or.inl ⟨by rfl, ?_⟩
              intro w' hSw
              have y0' := (hSw.cell (p := ⟨E, 0, none⟩) hE4).trans y0
              have y1' := (hSw.cell (p := ⟨E, 1, none⟩) hE4).trans y1
              have y2' := (hSw.cell (p := ⟨E, 2, none⟩) hE4).trans y2
              have z0' := (hSw.cell (p := ⟨q4, _, none⟩) hq4).trans z0
              have z1' := (hSw.cell (p := ⟨q4, _, none⟩) hq4).trans z1
              have z2' := (hSw.cell (p := ⟨q4, _, none⟩) hq4).trans z2
              clear hSw
              go_simp
              try with_reducible rfl
            simp only [Act.put, List.setIfInBounds_toArray, List.set_cons_zero, List.set_cons_succ]
            refine wpAnyH_done (by kernel_rfl) ?_ _
            go_wp2_with fail
            go_ret
            exact ⟨rfl, by rw [← HG.out]; exact H4.out.2.1.trans (H6.out.mono (Nat.le_trans (Nat.le_of_eq HG.out) H4.out.2.1.size))⟩
        · have k1 : ¬ ((x.m : Int) ≤ (now : Int)) := by omega
          have k2 : decide ((x.m : Int) ≤ (now : Int)) = false := decide_eq_false k1
          have hd : due now (x :: R) = [] := by simp [due, hx]
          have hm0 : m4 = 0 := by have := HN.out.2.1; rw [hd] at this; exact this
          subst hm0
          clear hd hx
          go_wp2_with fail
          refine (three_any _).mono ?_
          rintro e w6 ⟨rfl, hb6⟩
          have H6 : Hid (Below g w w6) := H4.out.2.1.trans (hb6.mono (Nat.le_trans (Nat.le_of_eq HG.out) H4.out.2.1.size))
          clear hb6
          go_wp2_with fail
          go_ret
          exact ⟨rfl, by rw [← HG.out]; exact H6.out⟩
theorem agendaFirst_in (a : Option Addr) (n cap : Nat) (now : Int) (w : World) (hS : StepsA w a n) : Calls Try.prog 6 #[.slice a n cap, .int .i64 now] w fun e w' => e = .returned (.bool true) ∧ Below w.heap.size w w' := by
  by_cases h : 200 < n ∨ now < 0 ∨ 1099511627776 < now
  · exact agendaFirst_no a n cap now w h
  · obtain ⟨m, rfl⟩ : ∃ m : Nat, now = (m : Int) := ⟨now.toNat, by omega⟩
    exact agendaFirst_ok a n cap m (by omega) (by omega) w hS
end Go.Proofs.Ytkgfeiigdhbddaa
