/- Package agenda: what a nil agenda answers; the law AgendaNil. -/
import Derived.Test.YtkgfeiigdhbddaaAgH1
namespace Go.Proofs.Ytkgfeiigdhbddaa
open Go Go.RowKit Go.Lib
theorem alen_nil (w : World) : Calls Try.prog 11 #[.pointer none] w fun e w' => e = .returned (.int .i64 0) ∧ w' = w := by
  go_enter Try.func11, Try.ntmps11
  go_wp2
  go_ret
  exact ⟨rfl, rfl⟩
theorem aplace_nil (t : Int) (w : World) : Calls Try.prog 26 #[.pointer none, .int .i64 t] w fun e w' => e = .returned (.tuple #[.int .i64 0, .bool false]) ∧ w' = w := by
  go_enter Try.func26, Try.ntmps26
  go_wp2
  go_ret2
  exact ⟨rfl, rfl⟩
theorem aput_nil (m : Int) (s : ByteArray) (h : 0 ≤ m ∧ m ≤ 1099511627776) (w : World) : Calls Try.prog 12 #[.pointer none, .int .i64 m, .string s] w fun e w' => e = .returned (.tuple #[.int .i64 0, .int .i64 5]) ∧ w' = w := by
  have HD : Hid (decide (0 ≤ m ∧ m ≤ 1099511627776) = true) := decide_eq_true h
  clear h
  go_enter Try.func12, Try.ntmps12
  go_wp2_with fail
  refine (isMoment_any _ _).mono ?_
  rintro e w1 ⟨rfl, rfl⟩
  rw [HD.out]
  go_wp2_with fail
  go_ret2
  exact ⟨rfl, rfl⟩
theorem adrop_nil (t : Int) (h : 1 ≤ t) (w : World) : Calls Try.prog 13 #[.pointer none, .int .i64 t] w fun e w' => e = .returned (.tuple #[.bool false, .int .i64 0]) ∧ w' = w := by
  have HD : Hid (decide (1 ≤ t) = true) := decide_eq_true h
  clear h
  go_enter Try.func13, Try.ntmps13
  go_wp2_with fail
  refine (isTicket_any _ _).mono ?_
  rintro e w1 ⟨rfl, rfl⟩
  rw [HD.out]
  go_wp2_with fail
  refine (aplace_nil _ _).mono ?_
  rintro e w2 ⟨rfl, rfl⟩
  go_wp2_with fail
  go_ret2
  exact ⟨rfl, rfl⟩
theorem amove_nil (t m : Int) (h : 1 ≤ t) (h2 : 0 ≤ m ∧ m ≤ 1099511627776) (w : World) : Calls Try.prog 14 #[.pointer none, .int .i64 t, .int .i64 m] w fun e w' => e = .returned (.int .i64 6) ∧ w' = w := by
  have HD : Hid (decide (1 ≤ t) = true) := decide_eq_true h
  have HE : Hid (decide (0 ≤ m ∧ m ≤ 1099511627776) = true) := decide_eq_true h2
  clear h h2
  go_enter Try.func14, Try.ntmps14
  go_wp2_with fail
  refine (isTicket_any _ _).mono ?_
  rintro e w1 ⟨rfl, rfl⟩
  rw [HD.out]
  go_wp2_with fail
  refine (isMoment_any _ _).mono ?_
  rintro e w2 ⟨rfl, rfl⟩
  rw [HE.out]
  go_wp2_with fail
  refine (aplace_nil _ _).mono ?_
  rintro e w3 ⟨rfl, rfl⟩
  go_wp2_with fail
  go_ret
  exact ⟨rfl, rfl⟩
theorem atake_nil (now : Int) (h : 0 ≤ now ∧ now ≤ 1099511627776) (w : World) : Calls Try.prog 15 #[.pointer none, .int .i64 now] w fun e w' => e = .returned (.tuple #[.slice none 0 0, .int .i64 0]) ∧ w' = w := by
  have HD : Hid (decide (0 ≤ now ∧ now ≤ 1099511627776) = true) := decide_eq_true h
  clear h
  go_enter Try.func15, Try.ntmps15
  go_wp2_with fail
  refine (isMoment_any _ _).mono ?_
  rintro e w1 ⟨rfl, rfl⟩
  rw [HD.out]
  go_wp2_with fail
  rename_i Kr hKr
  have HKr : Hid _ := hKr
  clear hKr
  go_loopw [6] (fun ov wr => ov = .slice none 0 0 ∧ wr = w1) (fun _ _ => 0)
  case atStart => exact ⟨rfl, rfl⟩
  case round =>
    obtain ⟨rfl, rfl⟩ := hrel
    go_wp2_with fail
    refine (alen_nil _).mono ?_
    rintro e w2 ⟨rfl, rfl⟩
    go_wp2_with fail
    refine HKr.out _ _ ?_
    go_wp2_with fail
    go_ret2
    exact ⟨rfl, rfl⟩
theorem afirst_nilp (w : World) : Calls Try.prog 10 #[.pointer none] w fun e w' => e = .returned (.tuple #[enG zeroE, .bool false]) ∧ Below w.heap.size w w' := by
  go_enter Try.func10, Try.ntmps10
  go_wp2_with fail
  refine (alen_nil _).mono ?_
  rintro e w1 ⟨rfl, rfl⟩
  go_wp2_with fail
  refine bodyPost_ret (v := .tuple #[enG zeroE, .bool false]) ?_ rfl ⟨rfl, below_alloc0 (Below.refl _ _) _⟩
  simp [results, Try.results10, go_sem, enG, zeroE]
set_option maxRecDepth 100000 in
set_option maxHeartbeats 2000000 in
theorem agendaNil_in (n m : Int) (w : World) : Calls Try.prog 5 #[.int .i64 n, .int .i64 m] w fun e w' => e = .returned (.bool true) ∧ Below w.heap.size w w' := by
  have PU : Hid (∀ w, Calls Try.prog 12 #[.pointer none, .int .i64 m, .string ⟨#[120]⟩] w fun e w' => e = .returned (.tuple #[.int .i64 0, .int .i64 (if 0 ≤ m ∧ m ≤ 1099511627776 then 5 else 1)]) ∧ w' = w) := fun w => by
    by_cases h : 0 ≤ m ∧ m ≤ 1099511627776
    · rw [if_pos h]; exact aput_nil m _ h w
    · rw [if_neg h]; exact aput_arg none m _ h w
  have DR : Hid (∀ w, Calls Try.prog 13 #[.pointer none, .int .i64 n] w fun e w' => e = .returned (.tuple #[.bool false, .int .i64 (if 1 ≤ n then 0 else 1)]) ∧ w' = w) := fun w => by
    by_cases h : 1 ≤ n
    · rw [if_pos h]; exact adrop_nil n h w
    · rw [if_neg h]; exact adrop_arg none n h w
  have TA : Hid (∀ w, Calls Try.prog 15 #[.pointer none, .int .i64 m] w fun e w' => e = .returned (.tuple #[.slice none 0 0, .int .i64 (if 0 ≤ m ∧ m ≤ 1099511627776 then 0 else 1)]) ∧ w' = w) := fun w => by
    by_cases h : 0 ≤ m ∧ m ≤ 1099511627776
    · rw [if_pos h]; exact atake_nil m h w
    · rw [if_neg h]; exact atake_arg none m h w
  have MO : Hid (∀ w, Calls Try.prog 14 #[.pointer none, .int .i64 n, .int .i64 m] w fun e w' => e = .returned (.int .i64 (if 1 ≤ n ∧ 0 ≤ m ∧ m ≤ 1099511627776 then 6 else 1)) ∧ w' = w) := fun w => by
    by_cases h : 1 ≤ n ∧ 0 ≤ m ∧ m ≤ 1099511627776
    · rw [if_pos h]; exact amove_nil n m h.1 h.2 w
    · rw [if_neg h]; exact amove_arg none n m h w
  have hc : (m < 0) ∨ (0 ≤ m ∧ m ≤ 1099511627776) ∨ (0 ≤ m ∧ 1099511627776 < m) := by omega
  have hn : 1 ≤ n ∨ n < 1 := by omega
  rcases hc with h1 | ⟨h1, h2⟩ | ⟨h1, h2⟩ <;> rcases hn with h3 | h3
  all_goals
    try have h4 : decide (m ≤ 1099511627776) = false := decide_eq_false (by omega)
    try have h5 : ¬ (m ≤ 1099511627776) := by omega
    go_enter Try.func5, Try.ntmps5
    go_wp2_with fail
    refine (PU.out _).mono ?_
    rintro e w1 ⟨rfl, rfl⟩
    go_wp2_with fail
    refine (DR.out _).mono ?_
    rintro e w2 ⟨rfl, rfl⟩
    go_wp2_with fail
    refine (TA.out _).mono ?_
    rintro e w3 ⟨rfl, rfl⟩
    go_wp2_with fail
    refine (afirst_nilp _).mono ?_
    rintro e w4 ⟨rfl, hb4⟩
    have H4 : Hid (Below w3.heap.size w3 w4) := hb4
    clear hb4
    unfold enG
    go_wp2_with fail
    refine (alen_nil _).mono ?_
    rintro e w5 ⟨rfl, rfl⟩
    go_wp2_with fail
    refine (MO.out _).mono ?_
    rintro e w6 ⟨rfl, rfl⟩
    go_wp2_with fail
    refine (three_any _).mono ?_
    rintro e w7 ⟨rfl, hb7⟩
    have H7 : Hid (Below w3.heap.size w3 w7) := below_call0 (below_alloc0 H4.out _) hb7
    clear hb7
    go_wp2_with fail
    go_ret
    exact ⟨rfl, H7.out⟩
end Go.Proofs.Ytkgfeiigdhbddaa
