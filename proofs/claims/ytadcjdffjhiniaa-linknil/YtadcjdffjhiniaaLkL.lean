/- The law LinkNil: the walk. -/
import Derived.Test.YtadcjdffjhiniaaLkK
namespace Go.Proofs.Ytadcjdffjhiniaa
open Go Go.RowKit Go.Lib

set_option maxRecDepth 100000 in
set_option maxHeartbeats 4000000 in
theorem linkNil_00 (s : ByteArray) (hs : s.size < 140737488351233) (ha : lkU 2 0 s = none) (hf : rdF s = none) (w : World) : Calls Try.prog 7 #[.string s] w fun e w' => e = .returned (.bool true) ∧ Below w.heap.size w w' := by
  have K1 : Hid _ := fun w : World => push_nil ⟨#[]⟩ (by decide) w
  have K2 : Hid _ := fun w : World => heard_form none s hs ha w
  have K3 : Hid _ := fun w : World => take_nil s hs w
  have K4 : Hid _ := fun w : World => came_nil w
  have K5 : Hid _ := fun w : World => ropen2_any s hs w
  have K6 : Hid _ := fun w : World => ropen1_any s hs w
  have ea : rdA s = none := by unfold rdA; rw [ha]; rfl
  rw [ea] at K5
  rw [hf] at K6
  rw [hf] at K3
  unfold opPost at K5 K6
  have K3 : Hid (∀ w : World, Calls Try.prog 19 #[.pointer none, .string s] w fun e w' => e = .returned (.tuple #[.string ⟨#[]⟩, .bool false, .int .i64 4]) ∧ Below w.heap.size w w') := fun w => (K3.out w).mono fun e w' h => ⟨h.1.trans (by simp), h.2⟩
  have K5 : Hid (∀ w : World, Calls Try.prog 24 #[.string s, .int .i64 2] w fun e w' => e = .returned (.tuple #[.agg #[.int .i64 0, .int .i64 0, .string ⟨#[]⟩], .bool false]) ∧ Below w.heap.size w w') := K5.out
  have K6 : Hid (∀ w : World, Calls Try.prog 24 #[.string s, .int .i64 1] w fun e w' => e = .returned (.tuple #[.agg #[.int .i64 0, .int .i64 0, .string ⟨#[]⟩], .bool false]) ∧ Below w.heap.size w w') := K6.out
  have K7 : Hid _ := fun w : World => ack_nil w
  have K8 : Hid _ := fun w : World => waiting_nil w
  have K9 : Hid _ := fun w : World => frames_nil w
  have K10 : Hid _ := fun w : World => ltwo_any w
  have tb : ((⟨#[]⟩ : ByteArray).toList == (⟨#[]⟩ : ByteArray).toList) = true := by simp only [BEq.rfl]
  clear ea hf ha hs
  go_enter Try.func7, Try.ntmps7
  go_wp2_with fail
  refine (K1.out _).mono ?_
  rintro e w1 ⟨rfl, rfl⟩
  go_wp2_with fail
  refine (K2.out _).mono ?_
  rintro e w2 ⟨rfl, hb2⟩
  have H2 : Hid (Below w1.heap.size w1 w2) := hb2
  clear hb2
  go_wp2_with fail
  refine (K3.out _).mono ?_
  rintro e w3 ⟨rfl, hb3⟩
  have H3 : Hid (Below w1.heap.size w1 w3) := below_call0 H2.out hb3
  clear hb3
  go_wp2_with fail
  refine (K4.out _).mono ?_
  rintro e w4 ⟨rfl, rfl⟩
  go_wp2_with fail
  refine (K5.out _).mono ?_
  rintro e w5 ⟨rfl, hb5⟩
  have H5 : Hid (Below w1.heap.size w1 w5) := below_call0 H3.out hb5
  clear hb5
  go_wp2_with fail
  refine (K6.out _).mono ?_
  rintro e w6 ⟨rfl, hb6⟩
  have H6 : Hid (Below w1.heap.size w1 w6) := below_call0 (below_alloc0 H5.out _) hb6
  clear hb6
  go_wp2_with fail
  refine (K7.out _).mono ?_
  rintro e w7 ⟨rfl, rfl⟩
  go_wp2_with fail
  refine (K8.out _).mono ?_
  rintro e w8 ⟨rfl, rfl⟩
  go_wp2_with fail
  refine (K9.out _).mono ?_
  rintro e w9 ⟨rfl, rfl⟩
  go_wp2_with fail
  refine (K10.out _).mono ?_
  rintro e w10 ⟨rfl, hb10⟩
  have H10 : Hid (Below w1.heap.size w1 w10) := below_call0 (below_alloc0 H6.out _) hb10
  clear hb10
  go_wp2_with fail
  go_ret
  exact ⟨rfl, H10.out⟩
set_option maxRecDepth 100000 in
set_option maxHeartbeats 4000000 in
theorem linkNil_01 (s : ByteArray) (hs : s.size < 140737488351233) (ha : lkU 2 0 s = none) {l' n' : Nat} {t : ByteArray} (hf : rdF s = some (l', n', t)) (w : World) : Calls Try.prog 7 #[.string s] w fun e w' => e = .returned (.bool true) ∧ Below w.heap.size w w' := by
  have K1 : Hid _ := fun w : World => push_nil ⟨#[]⟩ (by decide) w
  have K2 : Hid _ := fun w : World => heard_form none s hs ha w
  have K3 : Hid _ := fun w : World => take_nil s hs w
  have K4 : Hid _ := fun w : World => came_nil w
  have K5 : Hid _ := fun w : World => ropen2_any s hs w
  have K6 : Hid _ := fun w : World => ropen1_any s hs w
  have ea : rdA s = none := by unfold rdA; rw [ha]; rfl
  rw [ea] at K5
  rw [hf] at K6
  rw [hf] at K3
  unfold opPost at K5 K6
  have K3 : Hid (∀ w : World, Calls Try.prog 19 #[.pointer none, .string s] w fun e w' => e = .returned (.tuple #[.string ⟨#[]⟩, .bool false, .int .i64 7]) ∧ Below w.heap.size w w') := fun w => (K3.out w).mono fun e w' h => ⟨h.1.trans (by simp), h.2⟩
  have K5 : Hid (∀ w : World, Calls Try.prog 24 #[.string s, .int .i64 2] w fun e w' => e = .returned (.tuple #[.agg #[.int .i64 0, .int .i64 0, .string ⟨#[]⟩], .bool false]) ∧ Below w.heap.size w w') := K5.out
  have K6 : Hid (∀ w : World, Calls Try.prog 24 #[.string s, .int .i64 1] w fun e w' => e = .returned (.tuple #[.agg #[.int .i64 (l' : Nat), .int .i64 (n' : Nat), .string t], .bool true]) ∧ Below w.heap.size w w') := K6.out
  have K7 : Hid _ := fun w : World => ack_nil w
  have K8 : Hid _ := fun w : World => waiting_nil w
  have K9 : Hid _ := fun w : World => frames_nil w
  have K10 : Hid _ := fun w : World => ltwo_any w
  have tb : ((⟨#[]⟩ : ByteArray).toList == (⟨#[]⟩ : ByteArray).toList) = true := by simp only [BEq.rfl]
  clear ea hf ha hs
  go_enter Try.func7, Try.ntmps7
  go_wp2_with fail
  refine (K1.out _).mono ?_
  rintro e w1 ⟨rfl, rfl⟩
  go_wp2_with fail
  refine (K2.out _).mono ?_
  rintro e w2 ⟨rfl, hb2⟩
  have H2 : Hid (Below w1.heap.size w1 w2) := hb2
  clear hb2
  go_wp2_with fail
  refine (K3.out _).mono ?_
  rintro e w3 ⟨rfl, hb3⟩
  have H3 : Hid (Below w1.heap.size w1 w3) := below_call0 H2.out hb3
  clear hb3
  go_wp2_with fail
  refine (K4.out _).mono ?_
  rintro e w4 ⟨rfl, rfl⟩
  go_wp2_with fail
  refine (K5.out _).mono ?_
  rintro e w5 ⟨rfl, hb5⟩
  have H5 : Hid (Below w1.heap.size w1 w5) := below_call0 H3.out hb5
  clear hb5
  go_wp2_with fail
  refine (K6.out _).mono ?_
  rintro e w6 ⟨rfl, hb6⟩
  have H6 : Hid (Below w1.heap.size w1 w6) := below_call0 (below_alloc0 H5.out _) hb6
  clear hb6
  go_wp2_with fail
  refine (K7.out _).mono ?_
  rintro e w7 ⟨rfl, rfl⟩
  go_wp2_with fail
  refine (K8.out _).mono ?_
  rintro e w8 ⟨rfl, rfl⟩
  go_wp2_with fail
  refine (K9.out _).mono ?_
  rintro e w9 ⟨rfl, rfl⟩
  go_wp2_with fail
  refine (K10.out _).mono ?_
  rintro e w10 ⟨rfl, hb10⟩
  have H10 : Hid (Below w1.heap.size w1 w10) := below_call0 (below_alloc0 H6.out _) hb10
  clear hb10
  go_wp2_with fail
  go_ret
  exact ⟨rfl, H10.out⟩
set_option maxRecDepth 100000 in
set_option maxHeartbeats 4000000 in
theorem linkNil_10 (s : ByteArray) (hs : s.size < 140737488351233) {l n : Nat} {r : List ByteArray} (ha : lkU 2 0 s = some (l, n, r)) (hf : rdF s = none) (w : World) : Calls Try.prog 7 #[.string s] w fun e w' => e = .returned (.bool true) ∧ Below w.heap.size w w' := by
  have K1 : Hid _ := fun w : World => push_nil ⟨#[]⟩ (by decide) w
  have K2 : Hid _ := fun w : World => heard_nil s hs ha w
  have K3 : Hid _ := fun w : World => take_nil s hs w
  have K4 : Hid _ := fun w : World => came_nil w
  have K5 : Hid _ := fun w : World => ropen2_any s hs w
  have K6 : Hid _ := fun w : World => ropen1_any s hs w
  have ea : rdA s = some (l, n, ⟨#[]⟩) := by unfold rdA; rw [ha]; rfl
  rw [ea] at K5
  rw [hf] at K6
  rw [hf] at K3
  unfold opPost at K5 K6
  have K3 : Hid (∀ w : World, Calls Try.prog 19 #[.pointer none, .string s] w fun e w' => e = .returned (.tuple #[.string ⟨#[]⟩, .bool false, .int .i64 4]) ∧ Below w.heap.size w w') := fun w => (K3.out w).mono fun e w' h => ⟨h.1.trans (by simp), h.2⟩
  have K5 : Hid (∀ w : World, Calls Try.prog 24 #[.string s, .int .i64 2] w fun e w' => e = .returned (.tuple #[.agg #[.int .i64 (l : Nat), .int .i64 (n : Nat), .string ⟨#[]⟩], .bool true]) ∧ Below w.heap.size w w') := K5.out
  have K6 : Hid (∀ w : World, Calls Try.prog 24 #[.string s, .int .i64 1] w fun e w' => e = .returned (.tuple #[.agg #[.int .i64 0, .int .i64 0, .string ⟨#[]⟩], .bool false]) ∧ Below w.heap.size w w') := K6.out
  have K7 : Hid _ := fun w : World => ack_nil w
  have K8 : Hid _ := fun w : World => waiting_nil w
  have K9 : Hid _ := fun w : World => frames_nil w
  have K10 : Hid _ := fun w : World => ltwo_any w
  have tb : ((⟨#[]⟩ : ByteArray).toList == (⟨#[]⟩ : ByteArray).toList) = true := by simp only [BEq.rfl]
  clear ea hf ha hs
  go_enter Try.func7, Try.ntmps7
  go_wp2_with fail
  refine (K1.out _).mono ?_
  rintro e w1 ⟨rfl, rfl⟩
  go_wp2_with fail
  refine (K2.out _).mono ?_
  rintro e w2 ⟨rfl, hb2⟩
  have H2 : Hid (Below w1.heap.size w1 w2) := hb2
  clear hb2
  go_wp2_with fail
  refine (K3.out _).mono ?_
  rintro e w3 ⟨rfl, hb3⟩
  have H3 : Hid (Below w1.heap.size w1 w3) := below_call0 H2.out hb3
  clear hb3
  go_wp2_with fail
  refine (K4.out _).mono ?_
  rintro e w4 ⟨rfl, rfl⟩
  go_wp2_with fail
  refine (K5.out _).mono ?_
  rintro e w5 ⟨rfl, hb5⟩
  have H5 : Hid (Below w1.heap.size w1 w5) := below_call0 H3.out hb5
  clear hb5
  go_wp2_with fail
  refine (K6.out _).mono ?_
  rintro e w6 ⟨rfl, hb6⟩
  have H6 : Hid (Below w1.heap.size w1 w6) := below_call0 (below_alloc0 H5.out _) hb6
  clear hb6
  go_wp2_with fail
  refine (K7.out _).mono ?_
  rintro e w7 ⟨rfl, rfl⟩
  go_wp2_with fail
  refine (K8.out _).mono ?_
  rintro e w8 ⟨rfl, rfl⟩
  go_wp2_with fail
  refine (K9.out _).mono ?_
  rintro e w9 ⟨rfl, rfl⟩
  go_wp2_with fail
  refine (K10.out _).mono ?_
  rintro e w10 ⟨rfl, hb10⟩
  have H10 : Hid (Below w1.heap.size w1 w10) := below_call0 (below_alloc0 H6.out _) hb10
  clear hb10
  go_wp2_with fail
  go_ret
  exact ⟨rfl, H10.out⟩
set_option maxRecDepth 100000 in
set_option maxHeartbeats 4000000 in
theorem linkNil_11 (s : ByteArray) (hs : s.size < 140737488351233) {l n : Nat} {r : List ByteArray} (ha : lkU 2 0 s = some (l, n, r)) {l' n' : Nat} {t : ByteArray} (hf : rdF s = some (l', n', t)) (w : World) : Calls Try.prog 7 #[.string s] w fun e w' => e = .returned (.bool true) ∧ Below w.heap.size w w' := by
  have K1 : Hid _ := fun w : World => push_nil ⟨#[]⟩ (by decide) w
  have K2 : Hid _ := fun w : World => heard_nil s hs ha w
  have K3 : Hid _ := fun w : World => take_nil s hs w
  have K4 : Hid _ := fun w : World => came_nil w
  have K5 : Hid _ := fun w : World => ropen2_any s hs w
  have K6 : Hid _ := fun w : World => ropen1_any s hs w
  have ea : rdA s = some (l, n, ⟨#[]⟩) := by unfold rdA; rw [ha]; rfl
  rw [ea] at K5
  rw [hf] at K6
  rw [hf] at K3
  unfold opPost at K5 K6
  have K3 : Hid (∀ w : World, Calls Try.prog 19 #[.pointer none, .string s] w fun e w' => e = .returned (.tuple #[.string ⟨#[]⟩, .bool false, .int .i64 7]) ∧ Below w.heap.size w w') := fun w => (K3.out w).mono fun e w' h => ⟨h.1.trans (by simp), h.2⟩
  have K5 : Hid (∀ w : World, Calls Try.prog 24 #[.string s, .int .i64 2] w fun e w' => e = .returned (.tuple #[.agg #[.int .i64 (l : Nat), .int .i64 (n : Nat), .string ⟨#[]⟩], .bool true]) ∧ Below w.heap.size w w') := K5.out
  have K6 : Hid (∀ w : World, Calls Try.prog 24 #[.string s, .int .i64 1] w fun e w' => e = .returned (.tuple #[.agg #[.int .i64 (l' : Nat), .int .i64 (n' : Nat), .string t], .bool true]) ∧ Below w.heap.size w w') := K6.out
  have K7 : Hid _ := fun w : World => ack_nil w
  have K8 : Hid _ := fun w : World => waiting_nil w
  have K9 : Hid _ := fun w : World => frames_nil w
  have K10 : Hid _ := fun w : World => ltwo_any w
  have tb : ((⟨#[]⟩ : ByteArray).toList == (⟨#[]⟩ : ByteArray).toList) = true := by simp only [BEq.rfl]
  clear ea hf ha hs
  go_enter Try.func7, Try.ntmps7
  go_wp2_with fail
  refine (K1.out _).mono ?_
  rintro e w1 ⟨rfl, rfl⟩
  go_wp2_with fail
  refine (K2.out _).mono ?_
  rintro e w2 ⟨rfl, hb2⟩
  have H2 : Hid (Below w1.heap.size w1 w2) := hb2
  clear hb2
  go_wp2_with fail
  refine (K3.out _).mono ?_
  rintro e w3 ⟨rfl, hb3⟩
  have H3 : Hid (Below w1.heap.size w1 w3) := below_call0 H2.out hb3
  clear hb3
  go_wp2_with fail
  refine (K4.out _).mono ?_
  rintro e w4 ⟨rfl, rfl⟩
  go_wp2_with fail
  refine (K5.out _).mono ?_
  rintro e w5 ⟨rfl, hb5⟩
  have H5 : Hid (Below w1.heap.size w1 w5) := below_call0 H3.out hb5
  clear hb5
  go_wp2_with fail
  refine (K6.out _).mono ?_
  rintro e w6 ⟨rfl, hb6⟩
  have H6 : Hid (Below w1.heap.size w1 w6) := below_call0 (below_alloc0 H5.out _) hb6
  clear hb6
  go_wp2_with fail
  refine (K7.out _).mono ?_
  rintro e w7 ⟨rfl, rfl⟩
  go_wp2_with fail
  refine (K8.out _).mono ?_
  rintro e w8 ⟨rfl, rfl⟩
  go_wp2_with fail
  refine (K9.out _).mono ?_
  rintro e w9 ⟨rfl, rfl⟩
  go_wp2_with fail
  refine (K10.out _).mono ?_
  rintro e w10 ⟨rfl, hb10⟩
  have H10 : Hid (Below w1.heap.size w1 w10) := below_call0 (below_alloc0 H6.out _) hb10
  clear hb10
  go_wp2_with fail
  go_ret
  exact ⟨rfl, H10.out⟩
theorem linkNil_any (s : ByteArray) (hs : s.size < 140737488351233) (w : World) : Calls Try.prog 7 #[.string s] w fun e w' => e = .returned (.bool true) ∧ Below w.heap.size w w' := by
  match ha : lkU 2 0 s, hf : rdF s with
  | none, none => exact linkNil_00 s hs ha hf w
  | none, some (l', n', t) => exact linkNil_01 s hs ha hf w
  | some (l, n, r), none => exact linkNil_10 s hs ha hf w
  | some (l, n, r), some (l', n', t) => exact linkNil_11 s hs ha hf w
end Go.Proofs.Ytadcjdffjhiniaa
