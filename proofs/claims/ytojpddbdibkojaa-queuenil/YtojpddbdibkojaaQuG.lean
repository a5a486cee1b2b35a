/- The law QueueNil. -/
import Derived.Test.YtojpddbdibkojaaQuF
namespace Go.Proofs.Ytojpddbdibkojaa
open Go Go.RowKit Go.Lib
theorem eq_sig0 (w : World) : Sem.run Try.prog (binOp .eql 38 (.agg #[.int .u64 0, .int .u64 0, .int .u64 0, .int .u64 0, .int .u64 0, .int .u64 0, .int .u64 0, .int .u64 0, .bool false, .int .u64 0, .int .u64 0, .int .u64 0, .int .u64 0]) (.agg #[.int .u64 0, .int .u64 0, .int .u64 0, .int .u64 0, .int .u64 0, .int .u64 0, .int .u64 0, .int .u64 0, .bool false, .int .u64 0, .int .u64 0, .int .u64 0, .int .u64 0])) w = .ok (.bool true) w := by kernel_rfl
set_option maxRecDepth 100000 in
set_option maxHeartbeats 4000000 in
theorem qnil_in (id : Int) (m : ByteArray) (w : World) (hm : m.size ≤ 281474976710656) (h1 : 1 ≤ id) (h2 : id ≤ 1099511627776) (h3 : (m.size : Int) ≤ 4096) (hk : decide (okQ id m) = true) : Calls Try.prog 5 #[.agg #[.int .i64 id, .string m]] w fun e w' => e = .returned (.bool true) ∧ Below w.heap.size w w' := by
  have HT : Hid (m.size ≤ 281474976710656 ∧ decide (okQ id m) = true) := ⟨hm, hk⟩
  obtain ⟨W1, hW1⟩ : ∃ W1, W1 = w.alloc (.cells #[.int .i64 id, .string m] 31) := ⟨_, rfl⟩
  obtain ⟨E, hE⟩ : ∃ E, E = w.heap.size := ⟨_, rfl⟩
  have HW : Hid (W1 = w.alloc (.cells #[.int .i64 id, .string m] 31) ∧ E = w.heap.size) := ⟨hW1, hE⟩
  have H1 : Hid (Below w.heap.size w W1 ∧ Blk W1 E [.int .i64 id, .string m]) := by
    rw [hW1, hE]; exact ⟨below_alloc0 (Below.refl _ _) _, Blk.new w [.int .i64 id, .string m] 31⟩
  have x1 : W1.cell? ⟨E, 0, none⟩ = some (.int .i64 id) := H1.out.2.2.2 0 _ rfl
  have y1 : W1.cell? ⟨E, 1, none⟩ = some (.string m) := H1.out.2.2.2 1 _ rfl
  clear hW1 hE hm hk
  go_enter Try.func5, Try.ntmps5
  go_upto_region 1 with fail
  rw [← HW.out.1, ← HW.out.2]
  go_wp2_with fail
  refine (submit_nil id m W1 HT.out.1 true HT.out.2.symm).mono ?_
  rintro e w2 ⟨rfl, hb2⟩
  simp only [if_true]
  obtain ⟨W3, hW3⟩ : ∃ W3, W3 = w2.alloc (.cells #[.int .u64 0, .int .u64 0, .int .u64 0, .int .u64 0, .int .u64 0, .int .u64 0, .int .u64 0, .int .u64 0, .bool false, .int .u64 0, .int .u64 0, .int .u64 0, .int .u64 0] 38) := ⟨_, rfl⟩
  obtain ⟨G, hG⟩ : ∃ G, G = w2.heap.size := ⟨_, rfl⟩
  have HW3 : Hid (W3 = w2.alloc (.cells #[.int .u64 0, .int .u64 0, .int .u64 0, .int .u64 0, .int .u64 0, .int .u64 0, .int .u64 0, .int .u64 0, .bool false, .int .u64 0, .int .u64 0, .int .u64 0, .int .u64 0] 38) ∧ G = w2.heap.size) := ⟨hW3, hG⟩
  have H3 : Hid (Below w.heap.size w W3 ∧ Blk W3 E [.int .i64 id, .string m] ∧ Blk W3 G [.int .u64 0, .int .u64 0, .int .u64 0, .int .u64 0, .int .u64 0, .int .u64 0, .int .u64 0, .int .u64 0, .bool false, .int .u64 0, .int .u64 0, .int .u64 0, .int .u64 0]) := by
    have hb3 : Below w2.heap.size w2 W3 := by rw [hW3]; exact below_alloc0 (Below.refl _ _) _
    refine ⟨(H1.out.1.trans (hb2.mono H1.out.1.size)).trans (hb3.mono (Nat.le_trans H1.out.1.size hb2.size)), (H1.out.2.call hb2).call hb3, ?_⟩
    rw [hW3, hG]; exact Blk.new w2 [.int .u64 0, .int .u64 0, .int .u64 0, .int .u64 0, .int .u64 0, .int .u64 0, .int .u64 0, .int .u64 0, .bool false, .int .u64 0, .int .u64 0, .int .u64 0, .int .u64 0] 38
  have x3 : W3.cell? ⟨E, 0, none⟩ = some (.int .i64 id) := H3.out.2.1.2.2 0 _ rfl
  clear hW3 hG hb2 x1 y1
  go_upto_region 3 with fail
  rw [← HW3.out.1, ← HW3.out.2]
  go_wp2_with fail
  refine (get_nil id W3).mono ?_
  rintro e w4 ⟨rfl, hb4⟩
  have H4 : Hid (Below w.heap.size w w4 ∧ Blk w4 E [.int .i64 id, .string m] ∧ Blk w4 G [.int .u64 0, .int .u64 0, .int .u64 0, .int .u64 0, .int .u64 0, .int .u64 0, .int .u64 0, .int .u64 0, .bool false, .int .u64 0, .int .u64 0, .int .u64 0, .int .u64 0]) := ⟨H3.out.1.trans (hb4.mono H3.out.1.size), H3.out.2.1.call hb4, H3.out.2.2.call hb4⟩
  obtain ⟨W5, hW5⟩ : ∃ W5, W5 = w4.alloc (.cells #[.int .i64 0, .string ⟨#[]⟩] 31) := ⟨_, rfl⟩
  have HW5 : Hid (W5 = w4.alloc (.cells #[.int .i64 0, .string ⟨#[]⟩] 31)) := hW5
  have H5 : Hid (Below w.heap.size w W5 ∧ Blk W5 E [.int .i64 id, .string m] ∧ Blk W5 G [.int .u64 0, .int .u64 0, .int .u64 0, .int .u64 0, .int .u64 0, .int .u64 0, .int .u64 0, .int .u64 0, .bool false, .int .u64 0, .int .u64 0, .int .u64 0, .int .u64 0]) := by
    have hb5 : Below w4.heap.size w4 W5 := by rw [hW5]; exact below_alloc0 (Below.refl _ _) _
    exact ⟨H4.out.1.trans (hb5.mono H4.out.1.size), H4.out.2.1.call hb5, H4.out.2.2.call hb5⟩
  clear hb4 hW5 x3
  go_upto_region 4 with fail
  rw [← HW5.out]
  go_wp2_with fail
  refine (count_nil W5).mono ?_
  rintro e w6 ⟨rfl, hw6⟩
  subst hw6
  have x5 : w6.cell? ⟨E, 0, none⟩ = some (.int .i64 id) := H5.out.2.1.2.2 0 _ rfl
  have y5 : w6.cell? ⟨E, 1, none⟩ = some (.string m) := H5.out.2.1.2.2 1 _ rfl
  have s0 : w6.cell? ⟨G, 0, none⟩ = some (.int .u64 0) := H5.out.2.2.2.2 0 _ rfl
  have s1 : w6.cell? ⟨G, 1, none⟩ = some (.int .u64 0) := H5.out.2.2.2.2 1 _ rfl
  have s2 : w6.cell? ⟨G, 2, none⟩ = some (.int .u64 0) := H5.out.2.2.2.2 2 _ rfl
  have s3 : w6.cell? ⟨G, 3, none⟩ = some (.int .u64 0) := H5.out.2.2.2.2 3 _ rfl
  have s4 : w6.cell? ⟨G, 4, none⟩ = some (.int .u64 0) := H5.out.2.2.2.2 4 _ rfl
  have s5 : w6.cell? ⟨G, 5, none⟩ = some (.int .u64 0) := H5.out.2.2.2.2 5 _ rfl
  have s6 : w6.cell? ⟨G, 6, none⟩ = some (.int .u64 0) := H5.out.2.2.2.2 6 _ rfl
  have s7 : w6.cell? ⟨G, 7, none⟩ = some (.int .u64 0) := H5.out.2.2.2.2 7 _ rfl
  have s8 : w6.cell? ⟨G, 8, none⟩ = some (.bool false) := H5.out.2.2.2.2 8 _ rfl
  have s9 : w6.cell? ⟨G, 9, none⟩ = some (.int .u64 0) := H5.out.2.2.2.2 9 _ rfl
  have s10 : w6.cell? ⟨G, 10, none⟩ = some (.int .u64 0) := H5.out.2.2.2.2 10 _ rfl
  have s11 : w6.cell? ⟨G, 11, none⟩ = some (.int .u64 0) := H5.out.2.2.2.2 11 _ rfl
  have s12 : w6.cell? ⟨G, 12, none⟩ = some (.int .u64 0) := H5.out.2.2.2.2 12 _ rfl
  have hqs := eq_sig0
  go_wp2_with fail
  refine (finish_nil id sg0 w6).mono ?_
  rintro e w7 ⟨rfl, hb7⟩
  have H7 : Hid (Below w.heap.size w w7) := H5.out.1.trans (hb7.mono H5.out.1.size)
  clear hb7 x5 y5 s0 s1 s2 s3 s4 s5 s6 s7 s8 s9 s10 s11 s12
  go_wp2_with fail
  refine (waiting_nil w7).mono ?_
  rintro e w8 ⟨rfl, hw8⟩
  subst hw8
  go_wp2_with fail
  refine (four_any w8).mono ?_
  rintro e w9 ⟨rfl, hb9⟩
  have H9 : Hid (Below w.heap.size w w9) := H7.out.trans (hb9.mono H7.out.size)
  clear hb9
  go_wp2_with fail
  go_ret
  exact ⟨rfl, H9.out⟩
set_option maxRecDepth 100000 in
set_option maxHeartbeats 4000000 in
theorem qnil_long (id : Int) (m : ByteArray) (w : World) (hm : m.size ≤ 281474976710656) (h1 : 1 ≤ id) (h2 : id ≤ 1099511627776) (h3 : ¬ (m.size : Int) ≤ 4096) (hk : decide (okQ id m) = false) : Calls Try.prog 5 #[.agg #[.int .i64 id, .string m]] w fun e w' => e = .returned (.bool true) ∧ Below w.heap.size w w' := by
  have h4 : decide ((m.size : Int) ≤ 4096) = false := decide_eq_false h3
  have HT : Hid (m.size ≤ 281474976710656 ∧ decide (okQ id m) = false) := ⟨hm, hk⟩
  obtain ⟨W1, hW1⟩ : ∃ W1, W1 = w.alloc (.cells #[.int .i64 id, .string m] 31) := ⟨_, rfl⟩
  obtain ⟨E, hE⟩ : ∃ E, E = w.heap.size := ⟨_, rfl⟩
  have HW : Hid (W1 = w.alloc (.cells #[.int .i64 id, .string m] 31) ∧ E = w.heap.size) := ⟨hW1, hE⟩
  have H1 : Hid (Below w.heap.size w W1 ∧ Blk W1 E [.int .i64 id, .string m]) := by
    rw [hW1, hE]; exact ⟨below_alloc0 (Below.refl _ _) _, Blk.new w [.int .i64 id, .string m] 31⟩
  have x1 : W1.cell? ⟨E, 0, none⟩ = some (.int .i64 id) := H1.out.2.2.2 0 _ rfl
  have y1 : W1.cell? ⟨E, 1, none⟩ = some (.string m) := H1.out.2.2.2 1 _ rfl
  clear hW1 hE hm hk
  go_enter Try.func5, Try.ntmps5
  go_upto_region 1 with fail
  rw [← HW.out.1, ← HW.out.2]
  go_wp2_with fail
  refine (submit_nil id m W1 HT.out.1 false HT.out.2.symm).mono ?_
  rintro e w2 ⟨rfl, hb2⟩
  simp only [Bool.false_eq_true, if_false]
  obtain ⟨W3, hW3⟩ : ∃ W3, W3 = w2.alloc (.cells #[.int .u64 0, .int .u64 0, .int .u64 0, .int .u64 0, .int .u64 0, .int .u64 0, .int .u64 0, .int .u64 0, .bool false, .int .u64 0, .int .u64 0, .int .u64 0, .int .u64 0] 38) := ⟨_, rfl⟩
  obtain ⟨G, hG⟩ : ∃ G, G = w2.heap.size := ⟨_, rfl⟩
  have HW3 : Hid (W3 = w2.alloc (.cells #[.int .u64 0, .int .u64 0, .int .u64 0, .int .u64 0, .int .u64 0, .int .u64 0, .int .u64 0, .int .u64 0, .bool false, .int .u64 0, .int .u64 0, .int .u64 0, .int .u64 0] 38) ∧ G = w2.heap.size) := ⟨hW3, hG⟩
  have H3 : Hid (Below w.heap.size w W3 ∧ Blk W3 E [.int .i64 id, .string m] ∧ Blk W3 G [.int .u64 0, .int .u64 0, .int .u64 0, .int .u64 0, .int .u64 0, .int .u64 0, .int .u64 0, .int .u64 0, .bool false, .int .u64 0, .int .u64 0, .int .u64 0, .int .u64 0]) := by
    have hb3 : Below w2.heap.size w2 W3 := by rw [hW3]; exact below_alloc0 (Below.refl _ _) _
    refine ⟨(H1.out.1.trans (hb2.mono H1.out.1.size)).trans (hb3.mono (Nat.le_trans H1.out.1.size hb2.size)), (H1.out.2.call hb2).call hb3, ?_⟩
    rw [hW3, hG]; exact Blk.new w2 [.int .u64 0, .int .u64 0, .int .u64 0, .int .u64 0, .int .u64 0, .int .u64 0, .int .u64 0, .int .u64 0, .bool false, .int .u64 0, .int .u64 0, .int .u64 0, .int .u64 0] 38
  have x3 : W3.cell? ⟨E, 0, none⟩ = some (.int .i64 id) := H3.out.2.1.2.2 0 _ rfl
  clear hW3 hG hb2 x1 y1
  go_upto_region 3 with fail
  rw [← HW3.out.1, ← HW3.out.2]
  go_wp2_with fail
  refine (get_nil id W3).mono ?_
  rintro e w4 ⟨rfl, hb4⟩
  have H4 : Hid (Below w.heap.size w w4 ∧ Blk w4 E [.int .i64 id, .string m] ∧ Blk w4 G [.int .u64 0, .int .u64 0, .int .u64 0, .int .u64 0, .int .u64 0, .int .u64 0, .int .u64 0, .int .u64 0, .bool false, .int .u64 0, .int .u64 0, .int .u64 0, .int .u64 0]) := ⟨H3.out.1.trans (hb4.mono H3.out.1.size), H3.out.2.1.call hb4, H3.out.2.2.call hb4⟩
  obtain ⟨W5, hW5⟩ : ∃ W5, W5 = w4.alloc (.cells #[.int .i64 0, .string ⟨#[]⟩] 31) := ⟨_, rfl⟩
  have HW5 : Hid (W5 = w4.alloc (.cells #[.int .i64 0, .string ⟨#[]⟩] 31)) := hW5
  have H5 : Hid (Below w.heap.size w W5 ∧ Blk W5 E [.int .i64 id, .string m] ∧ Blk W5 G [.int .u64 0, .int .u64 0, .int .u64 0, .int .u64 0, .int .u64 0, .int .u64 0, .int .u64 0, .int .u64 0, .bool false, .int .u64 0, .int .u64 0, .int .u64 0, .int .u64 0]) := by
    have hb5 : Below w4.heap.size w4 W5 := by rw [hW5]; exact below_alloc0 (Below.refl _ _) _
    exact ⟨H4.out.1.trans (hb5.mono H4.out.1.size), H4.out.2.1.call hb5, H4.out.2.2.call hb5⟩
  clear hb4 hW5 x3
  go_upto_region 4 with fail
  rw [← HW5.out]
  go_wp2_with fail
  refine (count_nil W5).mono ?_
  rintro e w6 ⟨rfl, hw6⟩
  subst hw6
  have x5 : w6.cell? ⟨E, 0, none⟩ = some (.int .i64 id) := H5.out.2.1.2.2 0 _ rfl
  have y5 : w6.cell? ⟨E, 1, none⟩ = some (.string m) := H5.out.2.1.2.2 1 _ rfl
  have s0 : w6.cell? ⟨G, 0, none⟩ = some (.int .u64 0) := H5.out.2.2.2.2 0 _ rfl
  have s1 : w6.cell? ⟨G, 1, none⟩ = some (.int .u64 0) := H5.out.2.2.2.2 1 _ rfl
  have s2 : w6.cell? ⟨G, 2, none⟩ = some (.int .u64 0) := H5.out.2.2.2.2 2 _ rfl
  have s3 : w6.cell? ⟨G, 3, none⟩ = some (.int .u64 0) := H5.out.2.2.2.2 3 _ rfl
  have s4 : w6.cell? ⟨G, 4, none⟩ = some (.int .u64 0) := H5.out.2.2.2.2 4 _ rfl
  have s5 : w6.cell? ⟨G, 5, none⟩ = some (.int .u64 0) := H5.out.2.2.2.2 5 _ rfl
  have s6 : w6.cell? ⟨G, 6, none⟩ = some (.int .u64 0) := H5.out.2.2.2.2 6 _ rfl
  have s7 : w6.cell? ⟨G, 7, none⟩ = some (.int .u64 0) := H5.out.2.2.2.2 7 _ rfl
  have s8 : w6.cell? ⟨G, 8, none⟩ = some (.bool false) := H5.out.2.2.2.2 8 _ rfl
  have s9 : w6.cell? ⟨G, 9, none⟩ = some (.int .u64 0) := H5.out.2.2.2.2 9 _ rfl
  have s10 : w6.cell? ⟨G, 10, none⟩ = some (.int .u64 0) := H5.out.2.2.2.2 10 _ rfl
  have s11 : w6.cell? ⟨G, 11, none⟩ = some (.int .u64 0) := H5.out.2.2.2.2 11 _ rfl
  have s12 : w6.cell? ⟨G, 12, none⟩ = some (.int .u64 0) := H5.out.2.2.2.2 12 _ rfl
  have hqs := eq_sig0
  go_wp2_with fail
  refine (finish_nil id sg0 w6).mono ?_
  rintro e w7 ⟨rfl, hb7⟩
  have H7 : Hid (Below w.heap.size w w7) := H5.out.1.trans (hb7.mono H5.out.1.size)
  clear hb7 x5 y5 s0 s1 s2 s3 s4 s5 s6 s7 s8 s9 s10 s11 s12
  go_wp2_with fail
  refine (waiting_nil w7).mono ?_
  rintro e w8 ⟨rfl, hw8⟩
  subst hw8
  go_wp2_with fail
  refine (four_any w8).mono ?_
  rintro e w9 ⟨rfl, hb9⟩
  have H9 : Hid (Below w.heap.size w w9) := H7.out.trans (hb9.mono H7.out.size)
  clear hb9
  go_wp2_with fail
  go_ret
  exact ⟨rfl, H9.out⟩
set_option maxRecDepth 100000 in
set_option maxHeartbeats 4000000 in
theorem qnil_big (id : Int) (m : ByteArray) (w : World) (hm : m.size ≤ 281474976710656) (h1 : 1 ≤ id) (h2 : ¬ id ≤ 1099511627776) (hk : decide (okQ id m) = false) : Calls Try.prog 5 #[.agg #[.int .i64 id, .string m]] w fun e w' => e = .returned (.bool true) ∧ Below w.heap.size w w' := by
  have HT : Hid (m.size ≤ 281474976710656 ∧ decide (okQ id m) = false) := ⟨hm, hk⟩
  obtain ⟨W1, hW1⟩ : ∃ W1, W1 = w.alloc (.cells #[.int .i64 id, .string m] 31) := ⟨_, rfl⟩
  obtain ⟨E, hE⟩ : ∃ E, E = w.heap.size := ⟨_, rfl⟩
  have HW : Hid (W1 = w.alloc (.cells #[.int .i64 id, .string m] 31) ∧ E = w.heap.size) := ⟨hW1, hE⟩
  have H1 : Hid (Below w.heap.size w W1 ∧ Blk W1 E [.int .i64 id, .string m]) := by
    rw [hW1, hE]; exact ⟨below_alloc0 (Below.refl _ _) _, Blk.new w [.int .i64 id, .string m] 31⟩
  have x1 : W1.cell? ⟨E, 0, none⟩ = some (.int .i64 id) := H1.out.2.2.2 0 _ rfl
  have y1 : W1.cell? ⟨E, 1, none⟩ = some (.string m) := H1.out.2.2.2 1 _ rfl
  clear hW1 hE hm hk
  go_enter Try.func5, Try.ntmps5
  go_upto_region 1 with fail
  rw [← HW.out.1, ← HW.out.2]
  go_wp2_with fail
  refine (submit_nil id m W1 HT.out.1 false HT.out.2.symm).mono ?_
  rintro e w2 ⟨rfl, hb2⟩
  simp only [Bool.false_eq_true, if_false]
  obtain ⟨W3, hW3⟩ : ∃ W3, W3 = w2.alloc (.cells #[.int .u64 0, .int .u64 0, .int .u64 0, .int .u64 0, .int .u64 0, .int .u64 0, .int .u64 0, .int .u64 0, .bool false, .int .u64 0, .int .u64 0, .int .u64 0, .int .u64 0] 38) := ⟨_, rfl⟩
  obtain ⟨G, hG⟩ : ∃ G, G = w2.heap.size := ⟨_, rfl⟩
  have HW3 : Hid (W3 = w2.alloc (.cells #[.int .u64 0, .int .u64 0, .int .u64 0, .int .u64 0, .int .u64 0, .int .u64 0, .int .u64 0, .int .u64 0, .bool false, .int .u64 0, .int .u64 0, .int .u64 0, .int .u64 0] 38) ∧ G = w2.heap.size) := ⟨hW3, hG⟩
  have H3 : Hid (Below w.heap.size w W3 ∧ Blk W3 E [.int .i64 id, .string m] ∧ Blk W3 G [.int .u64 0, .int .u64 0, .int .u64 0, .int .u64 0, .int .u64 0, .int .u64 0, .int .u64 0, .int .u64 0, .bool false, .int .u64 0, .int .u64 0, .int .u64 0, .int .u64 0]) := by
    have hb3 : Below w2.heap.size w2 W3 := by rw [hW3]; exact below_alloc0 (Below.refl _ _) _
    refine ⟨(H1.out.1.trans (hb2.mono H1.out.1.size)).trans (hb3.mono (Nat.le_trans H1.out.1.size hb2.size)), (H1.out.2.call hb2).call hb3, ?_⟩
    rw [hW3, hG]; exact Blk.new w2 [.int .u64 0, .int .u64 0, .int .u64 0, .int .u64 0, .int .u64 0, .int .u64 0, .int .u64 0, .int .u64 0, .bool false, .int .u64 0, .int .u64 0, .int .u64 0, .int .u64 0] 38
  have x3 : W3.cell? ⟨E, 0, none⟩ = some (.int .i64 id) := H3.out.2.1.2.2 0 _ rfl
  clear hW3 hG hb2 x1 y1
  go_upto_region 3 with fail
  rw [← HW3.out.1, ← HW3.out.2]
  go_wp2_with fail
  refine (get_nil id W3).mono ?_
  rintro e w4 ⟨rfl, hb4⟩
  have H4 : Hid (Below w.heap.size w w4 ∧ Blk w4 E [.int .i64 id, .string m] ∧ Blk w4 G [.int .u64 0, .int .u64 0, .int .u64 0, .int .u64 0, .int .u64 0, .int .u64 0, .int .u64 0, .int .u64 0, .bool false, .int .u64 0, .int .u64 0, .int .u64 0, .int .u64 0]) := ⟨H3.out.1.trans (hb4.mono H3.out.1.size), H3.out.2.1.call hb4, H3.out.2.2.call hb4⟩
  obtain ⟨W5, hW5⟩ : ∃ W5, W5 = w4.alloc (.cells #[.int .i64 0, .string ⟨#[]⟩] 31) := ⟨_, rfl⟩
  have HW5 : Hid (W5 = w4.alloc (.cells #[.int .i64 0, .string ⟨#[]⟩] 31)) := hW5
  have H5 : Hid (Below w.heap.size w W5 ∧ Blk W5 E [.int .i64 id, .string m] ∧ Blk W5 G [.int .u64 0, .int .u64 0, .int .u64 0, .int .u64 0, .int .u64 0, .int .u64 0, .int .u64 0, .int .u64 0, .bool false, .int .u64 0, .int .u64 0, .int .u64 0, .int .u64 0]) := by
    have hb5 : Below w4.heap.size w4 W5 := by rw [hW5]; exact below_alloc0 (Below.refl _ _) _
    exact ⟨H4.out.1.trans (hb5.mono H4.out.1.size), H4.out.2.1.call hb5, H4.out.2.2.call hb5⟩
  clear hb4 hW5 x3
  go_upto_region 4 with fail
  rw [← HW5.out]
  go_wp2_with fail
  refine (count_nil W5).mono ?_
  rintro e w6 ⟨rfl, hw6⟩
  subst hw6
  have x5 : w6.cell? ⟨E, 0, none⟩ = some (.int .i64 id) := H5.out.2.1.2.2 0 _ rfl
  have y5 : w6.cell? ⟨E, 1, none⟩ = some (.string m) := H5.out.2.1.2.2 1 _ rfl
  have s0 : w6.cell? ⟨G, 0, none⟩ = some (.int .u64 0) := H5.out.2.2.2.2 0 _ rfl
  have s1 : w6.cell? ⟨G, 1, none⟩ = some (.int .u64 0) := H5.out.2.2.2.2 1 _ rfl
  have s2 : w6.cell? ⟨G, 2, none⟩ = some (.int .u64 0) := H5.out.2.2.2.2 2 _ rfl
  have s3 : w6.cell? ⟨G, 3, none⟩ = some (.int .u64 0) := H5.out.2.2.2.2 3 _ rfl
  have s4 : w6.cell? ⟨G, 4, none⟩ = some (.int .u64 0) := H5.out.2.2.2.2 4 _ rfl
  have s5 : w6.cell? ⟨G, 5, none⟩ = some (.int .u64 0) := H5.out.2.2.2.2 5 _ rfl
  have s6 : w6.cell? ⟨G, 6, none⟩ = some (.int .u64 0) := H5.out.2.2.2.2 6 _ rfl
  have s7 : w6.cell? ⟨G, 7, none⟩ = some (.int .u64 0) := H5.out.2.2.2.2 7 _ rfl
  have s8 : w6.cell? ⟨G, 8, none⟩ = some (.bool false) := H5.out.2.2.2.2 8 _ rfl
  have s9 : w6.cell? ⟨G, 9, none⟩ = some (.int .u64 0) := H5.out.2.2.2.2 9 _ rfl
  have s10 : w6.cell? ⟨G, 10, none⟩ = some (.int .u64 0) := H5.out.2.2.2.2 10 _ rfl
  have s11 : w6.cell? ⟨G, 11, none⟩ = some (.int .u64 0) := H5.out.2.2.2.2 11 _ rfl
  have s12 : w6.cell? ⟨G, 12, none⟩ = some (.int .u64 0) := H5.out.2.2.2.2 12 _ rfl
  have hqs := eq_sig0
  go_wp2_with fail
  refine (finish_nil id sg0 w6).mono ?_
  rintro e w7 ⟨rfl, hb7⟩
  have H7 : Hid (Below w.heap.size w w7) := H5.out.1.trans (hb7.mono H5.out.1.size)
  clear hb7 x5 y5 s0 s1 s2 s3 s4 s5 s6 s7 s8 s9 s10 s11 s12
  go_wp2_with fail
  refine (waiting_nil w7).mono ?_
  rintro e w8 ⟨rfl, hw8⟩
  subst hw8
  go_wp2_with fail
  refine (four_any w8).mono ?_
  rintro e w9 ⟨rfl, hb9⟩
  have H9 : Hid (Below w.heap.size w w9) := H7.out.trans (hb9.mono H7.out.size)
  clear hb9
  go_wp2_with fail
  go_ret
  exact ⟨rfl, H9.out⟩
set_option maxRecDepth 100000 in
set_option maxHeartbeats 4000000 in
theorem qnil_low (id : Int) (m : ByteArray) (w : World) (hm : m.size ≤ 281474976710656) (h1 : ¬ 1 ≤ id) (hk : decide (okQ id m) = false) : Calls Try.prog 5 #[.agg #[.int .i64 id, .string m]] w fun e w' => e = .returned (.bool true) ∧ Below w.heap.size w w' := by
  have HT : Hid (m.size ≤ 281474976710656 ∧ decide (okQ id m) = false) := ⟨hm, hk⟩
  obtain ⟨W1, hW1⟩ : ∃ W1, W1 = w.alloc (.cells #[.int .i64 id, .string m] 31) := ⟨_, rfl⟩
  obtain ⟨E, hE⟩ : ∃ E, E = w.heap.size := ⟨_, rfl⟩
  have HW : Hid (W1 = w.alloc (.cells #[.int .i64 id, .string m] 31) ∧ E = w.heap.size) := ⟨hW1, hE⟩
  have H1 : Hid (Below w.heap.size w W1 ∧ Blk W1 E [.int .i64 id, .string m]) := by
    rw [hW1, hE]; exact ⟨below_alloc0 (Below.refl _ _) _, Blk.new w [.int .i64 id, .string m] 31⟩
  have x1 : W1.cell? ⟨E, 0, none⟩ = some (.int .i64 id) := H1.out.2.2.2 0 _ rfl
  have y1 : W1.cell? ⟨E, 1, none⟩ = some (.string m) := H1.out.2.2.2 1 _ rfl
  clear hW1 hE hm hk
  go_enter Try.func5, Try.ntmps5
  go_upto_region 1 with fail
  rw [← HW.out.1, ← HW.out.2]
  go_wp2_with fail
  refine (submit_nil id m W1 HT.out.1 false HT.out.2.symm).mono ?_
  rintro e w2 ⟨rfl, hb2⟩
  simp only [Bool.false_eq_true, if_false]
  obtain ⟨W3, hW3⟩ : ∃ W3, W3 = w2.alloc (.cells #[.int .u64 0, .int .u64 0, .int .u64 0, .int .u64 0, .int .u64 0, .int .u64 0, .int .u64 0, .int .u64 0, .bool false, .int .u64 0, .int .u64 0, .int .u64 0, .int .u64 0] 38) := ⟨_, rfl⟩
  obtain ⟨G, hG⟩ : ∃ G, G = w2.heap.size := ⟨_, rfl⟩
  have HW3 : Hid (W3 = w2.alloc (.cells #[.int .u64 0, .int .u64 0, .int .u64 0, .int .u64 0, .int .u64 0, .int .u64 0, .int .u64 0, .int .u64 0, .bool false, .int .u64 0, .int .u64 0, .int .u64 0, .int .u64 0] 38) ∧ G = w2.heap.size) := ⟨hW3, hG⟩
  have H3 : Hid (Below w.heap.size w W3 ∧ Blk W3 E [.int .i64 id, .string m] ∧ Blk W3 G [.int .u64 0, .int .u64 0, .int .u64 0, .int .u64 0, .int .u64 0, .int .u64 0, .int .u64 0, .int .u64 0, .bool false, .int .u64 0, .int .u64 0, .int .u64 0, .int .u64 0]) := by
    have hb3 : Below w2.heap.size w2 W3 := by rw [hW3]; exact below_alloc0 (Below.refl _ _) _
    refine ⟨(H1.out.1.trans (hb2.mono H1.out.1.size)).trans (hb3.mono (Nat.le_trans H1.out.1.size hb2.size)), (H1.out.2.call hb2).call hb3, ?_⟩
    rw [hW3, hG]; exact Blk.new w2 [.int .u64 0, .int .u64 0, .int .u64 0, .int .u64 0, .int .u64 0, .int .u64 0, .int .u64 0, .int .u64 0, .bool false, .int .u64 0, .int .u64 0, .int .u64 0, .int .u64 0] 38
  have x3 : W3.cell? ⟨E, 0, none⟩ = some (.int .i64 id) := H3.out.2.1.2.2 0 _ rfl
  clear hW3 hG hb2 x1 y1
  go_upto_region 3 with fail
  rw [← HW3.out.1, ← HW3.out.2]
  go_wp2_with fail
  refine (get_nil id W3).mono ?_
  rintro e w4 ⟨rfl, hb4⟩
  have H4 : Hid (Below w.heap.size w w4 ∧ Blk w4 E [.int .i64 id, .string m] ∧ Blk w4 G [.int .u64 0, .int .u64 0, .int .u64 0, .int .u64 0, .int .u64 0, .int .u64 0, .int .u64 0, .int .u64 0, .bool false, .int .u64 0, .int .u64 0, .int .u64 0, .int .u64 0]) := ⟨H3.out.1.trans (hb4.mono H3.out.1.size), H3.out.2.1.call hb4, H3.out.2.2.call hb4⟩
  obtain ⟨W5, hW5⟩ : ∃ W5, W5 = w4.alloc (.cells #[.int .i64 0, .string ⟨#[]⟩] 31) := ⟨_, rfl⟩
  have HW5 : Hid (W5 = w4.alloc (.cells #[.int .i64 0, .string ⟨#[]⟩] 31)) := hW5
  have H5 : Hid (Below w.heap.size w W5 ∧ Blk W5 E [.int .i64 id, .string m] ∧ Blk W5 G [.int .u64 0, .int .u64 0, .int .u64 0, .int .u64 0, .int .u64 0, .int .u64 0, .int .u64 0, .int .u64 0, .bool false, .int .u64 0, .int .u64 0, .int .u64 0, .int .u64 0]) := by
    have hb5 : Below w4.heap.size w4 W5 := by rw [hW5]; exact below_alloc0 (Below.refl _ _) _
    exact ⟨H4.out.1.trans (hb5.mono H4.out.1.size), H4.out.2.1.call hb5, H4.out.2.2.call hb5⟩
  clear hb4 hW5 x3
  go_upto_region 4 with fail
  rw [← HW5.out]
  go_wp2_with fail
  refine (count_nil W5).mono ?_
  rintro e w6 ⟨rfl, hw6⟩
  subst hw6
  have x5 : w6.cell? ⟨E, 0, none⟩ = some (.int .i64 id) := H5.out.2.1.2.2 0 _ rfl
  have y5 : w6.cell? ⟨E, 1, none⟩ = some (.string m) := H5.out.2.1.2.2 1 _ rfl
  have s0 : w6.cell? ⟨G, 0, none⟩ = some (.int .u64 0) := H5.out.2.2.2.2 0 _ rfl
  have s1 : w6.cell? ⟨G, 1, none⟩ = some (.int .u64 0) := H5.out.2.2.2.2 1 _ rfl
  have s2 : w6.cell? ⟨G, 2, none⟩ = some (.int .u64 0) := H5.out.2.2.2.2 2 _ rfl
  have s3 : w6.cell? ⟨G, 3, none⟩ = some (.int .u64 0) := H5.out.2.2.2.2 3 _ rfl
  have s4 : w6.cell? ⟨G, 4, none⟩ = some (.int .u64 0) := H5.out.2.2.2.2 4 _ rfl
  have s5 : w6.cell? ⟨G, 5, none⟩ = some (.int .u64 0) := H5.out.2.2.2.2 5 _ rfl
  have s6 : w6.cell? ⟨G, 6, none⟩ = some (.int .u64 0) := H5.out.2.2.2.2 6 _ rfl
  have s7 : w6.cell? ⟨G, 7, none⟩ = some (.int .u64 0) := H5.out.2.2.2.2 7 _ rfl
  have s8 : w6.cell? ⟨G, 8, none⟩ = some (.bool false) := H5.out.2.2.2.2 8 _ rfl
  have s9 : w6.cell? ⟨G, 9, none⟩ = some (.int .u64 0) := H5.out.2.2.2.2 9 _ rfl
  have s10 : w6.cell? ⟨G, 10, none⟩ = some (.int .u64 0) := H5.out.2.2.2.2 10 _ rfl
  have s11 : w6.cell? ⟨G, 11, none⟩ = some (.int .u64 0) := H5.out.2.2.2.2 11 _ rfl
  have s12 : w6.cell? ⟨G, 12, none⟩ = some (.int .u64 0) := H5.out.2.2.2.2 12 _ rfl
  have hqs := eq_sig0
  go_wp2_with fail
  refine (finish_nil id sg0 w6).mono ?_
  rintro e w7 ⟨rfl, hb7⟩
  have H7 : Hid (Below w.heap.size w w7) := H5.out.1.trans (hb7.mono H5.out.1.size)
  clear hb7 x5 y5 s0 s1 s2 s3 s4 s5 s6 s7 s8 s9 s10 s11 s12
  go_wp2_with fail
  refine (waiting_nil w7).mono ?_
  rintro e w8 ⟨rfl, hw8⟩
  subst hw8
  go_wp2_with fail
  refine (four_any w8).mono ?_
  rintro e w9 ⟨rfl, hb9⟩
  have H9 : Hid (Below w.heap.size w w9) := H7.out.trans (hb9.mono H7.out.size)
  clear hb9
  go_wp2_with fail
  go_ret
  exact ⟨rfl, H9.out⟩
theorem queueNil_any (id : Int) (m : ByteArray) (w : World) (hm : m.size < 140737488351233) : Calls Try.prog 5 #[.agg #[.int .i64 id, .string m]] w fun e w' => e = .returned (.bool true) ∧ Below w.heap.size w w' := by
  by_cases h1 : 1 ≤ id
  · by_cases h2 : id ≤ 1099511627776
    · by_cases h3 : (m.size : Int) ≤ 4096
      · exact qnil_in id m w (by omega) h1 h2 h3 (decide_eq_true ⟨h1, h2, by omega⟩)
      · exact qnil_long id m w (by omega) h1 h2 h3 (decide_eq_false (fun c => h3 (by have := c.2.2; omega)))
    · exact qnil_big id m w (by omega) h1 h2 (decide_eq_false (fun c => h2 c.2.1))
  · exact qnil_low id m w (by omega) h1 (decide_eq_false (fun c => h1 c.1))
end Go.Proofs.Ytojpddbdibkojaa
