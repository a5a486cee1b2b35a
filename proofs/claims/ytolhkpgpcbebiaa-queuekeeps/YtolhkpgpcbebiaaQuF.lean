/- Package queue: the law's small case. -/
import Derived.Test.YtolhkpgpcbebiaaQuDz
import Derived.Test.YtolhkpgpcbebiaaQuE3
namespace Go.Proofs.Ytolhkpgpcbebiaa
open Go Go.RowKit Go.Lib
theorem from_off {w w1 w2 : World} {B : Nat} (h : Below B w w1) (hO : Off (From B) w1 w2) : Below B w w2 := ⟨hO.os.trans h.os, hO.tape.trans h.tape, hO.output.trans h.output, Nat.le_trans h.size hO.size, fun k hk => (hO.block k (not_from hk)).trans (h.block k hk)⟩
theorem from_new {w w1 : World} {B : Nat} (h : Below B w w1) (hB : B ≤ w.heap.size) : ∀ k, w1.heap.size ≤ k → From B k := fun k hk => by have := h.size; show B ≤ k; omega
def s7 : Sg := ⟨0, 0, 0, 0, 0, 0, 0, 0, false, 7, 0, 0, 0⟩
theorem eq_num7 (w : World) : Sem.run Try.prog (binOp .eql 34 (.agg #[.int .u64 7, .int .u64 0, .int .u64 0, .int .u64 0]) (.agg #[.int .u64 7, .int .u64 0, .int .u64 0, .int .u64 0])) w = .ok (.bool true) w := by kernel_rfl
set_option maxRecDepth 100000 in
set_option maxHeartbeats 4000000 in
theorem four_any (w : World) : Calls Try.prog 8 #[] w fun e w' => e = .returned (.bool true) ∧ Below w.heap.size w w' := by
  obtain ⟨L1, hL1⟩ : ∃ L1 : List Qe, L1 = [⟨1, ⟨#[97]⟩, false, sg0⟩] := ⟨_, rfl⟩
  obtain ⟨L2, hL2⟩ : ∃ L2 : List Qe, L2 = [⟨1, ⟨#[97]⟩, true, s7⟩] := ⟨_, rfl⟩
  obtain ⟨g, hg⟩ : ∃ g, g = w.heap.size := ⟨_, rfl⟩
  have HG : Hid (g = w.heap.size) := hg
  have K1 : Hid (∀ w', (∀ k, w'.heap.size ≤ k → From g k) → QI w' (From g) g [] → Calls Try.prog 9 #[.pointer (some ⟨g, 0, none⟩), .agg #[.int .i64 1, .string ⟨#[97]⟩]] w' fun e w'' => e = .returned (.tuple #[.int .i64 1, .agg #[.int .u64 0, .int .u64 0, .int .u64 0, .int .u64 0, .int .u64 0, .int .u64 0, .int .u64 0, .int .u64 0, .bool false, .int .u64 0, .int .u64 0, .int .u64 0, .int .u64 0]]) ∧ QI w'' (From g) g L1 ∧ Off (From g) w' w'') := fun w' hz h => by
    have := submit_any g 1 ⟨#[97]⟩ (From g) [] w' hz h (by decide) (by decide) (by decide)
    rw [show subR [] 1 ⟨#[97]⟩ = (1, sg0, L1) from by rw [hL1]; kernel_rfl] at this
    exact this
  have K2 : Hid (∀ w', (∀ k, w'.heap.size ≤ k → From g k) → QI w' (From g) g L1 → Calls Try.prog 9 #[.pointer (some ⟨g, 0, none⟩), .agg #[.int .i64 1, .string ⟨#[98]⟩]] w' fun e w'' => e = .returned (.tuple #[.int .i64 3, .agg #[.int .u64 0, .int .u64 0, .int .u64 0, .int .u64 0, .int .u64 0, .int .u64 0, .int .u64 0, .int .u64 0, .bool false, .int .u64 0, .int .u64 0, .int .u64 0, .int .u64 0]]) ∧ QI w'' (From g) g L1 ∧ Off (From g) w' w'') := fun w' hz h => by
    have := submit_any g 1 ⟨#[98]⟩ (From g) L1 w' hz h (by decide) (by decide) (by rw [hL1]; decide)
    rw [show subR L1 1 ⟨#[98]⟩ = (3, sg0, L1) from by rw [hL1]; kernel_rfl] at this
    exact this
  have K3 : Hid (∀ w', (∀ k, w'.heap.size ≤ k → From g k) → QI w' (From g) g L1 → Calls Try.prog 11 #[.pointer (some ⟨g, 0, none⟩), .int .i64 1, .agg #[.int .u64 0, .int .u64 0, .int .u64 0, .int .u64 0, .int .u64 0, .int .u64 0, .int .u64 0, .int .u64 0, .bool false, .int .u64 7, .int .u64 0, .int .u64 0, .int .u64 0]] w' fun e w'' => e = .returned (.int .i64 0) ∧ QI w'' (From g) g L2 ∧ Off (From g) w' w'') := fun w' hz h => by
    have := finish_any g 1 s7 (From g) L1 w' hz h (by decide) (by rw [hL1]; decide)
    rw [show finR L1 1 s7 = (0, L2) from by rw [hL1, hL2]; kernel_rfl] at this
    exact this
  have K4 : Hid (∀ w', (∀ k, w'.heap.size ≤ k → From g k) → QI w' (From g) g L2 → Calls Try.prog 9 #[.pointer (some ⟨g, 0, none⟩), .agg #[.int .i64 1, .string ⟨#[97]⟩]] w' fun e w'' => e = .returned (.tuple #[.int .i64 4, .agg #[.int .u64 0, .int .u64 0, .int .u64 0, .int .u64 0, .int .u64 0, .int .u64 0, .int .u64 0, .int .u64 0, .bool false, .int .u64 7, .int .u64 0, .int .u64 0, .int .u64 0]]) ∧ QI w'' (From g) g L2 ∧ Off (From g) w' w'') := fun w' hz h => by
    have := submit_any g 1 ⟨#[97]⟩ (From g) L2 w' hz h (by decide) (by decide) (by rw [hL2]; decide)
    rw [show subR L2 1 ⟨#[97]⟩ = (4, s7, L2) from by rw [hL2]; kernel_rfl] at this
    exact this
  have KN : Hid (Calls Try.prog 7 #[] w fun e w' => e = .returned (.pointer (some ⟨g, 0, none⟩)) ∧ QI w' (From g) g [] ∧ Below g w w') := by
    rw [hg]; exact qnew_in (From w.heap.size) w (fun k hk => hk)
  have hq7 := eq_num7
  clear hL1 hL2 hg
  go_enter Try.func8, Try.ntmps8
  go_wp2_with fail
  refine KN.out.mono ?_
  rintro e w1 ⟨rfl, hQ1, hb1⟩
  have H1 : Hid (QI w1 (From g) g [] ∧ Below g w w1) := ⟨hQ1, hb1⟩
  clear hQ1 hb1
  go_wp2_with fail
  refine (K1.out _ (fun k hk => by have h := H1.out.2.size; have := HG.out; show g ≤ k; (try simp at hk); omega) (H1.out.1)).mono ?_
  rintro e w2 ⟨rfl, hQ, hO⟩
  have H2 : Hid (QI w2 (From g) g L1 ∧ Below g w w2) := ⟨hQ, from_off (H1.out.2) hO⟩
  clear hQ hO
  go_wp2_with fail
  refine (K2.out _ (fun k hk => by have h := H2.out.2.size; have := HG.out; show g ≤ k; (try simp at hk); omega) (H2.out.1.call (below_alloc0 (Below.refl _ _) _))).mono ?_
  rintro e w3 ⟨rfl, hQ, hO⟩
  have H3 : Hid (QI w3 (From g) g L1 ∧ Below g w w3) := ⟨hQ, from_off (H2.out.2.alloc (by have h := H2.out.2.size; have := HG.out; omega) _) hO⟩
  clear hQ hO
  go_wp2_with fail
  refine (K3.out _ (fun k hk => by have h := H3.out.2.size; have := HG.out; show g ≤ k; (try simp at hk); omega) (H3.out.1.call (below_alloc0 (Below.refl _ _) _))).mono ?_
  rintro e w4 ⟨rfl, hQ, hO⟩
  have H4 : Hid (QI w4 (From g) g L2 ∧ Below g w w4) := ⟨hQ, from_off (H3.out.2.alloc (by have h := H3.out.2.size; have := HG.out; omega) _) hO⟩
  clear hQ hO
  go_wp2_with fail
  refine (K4.out _ (fun k hk => by have h := H4.out.2.size; have := HG.out; show g ≤ k; (try simp at hk); omega) (H4.out.1)).mono ?_
  rintro e w5 ⟨rfl, hQ, hO⟩
  have H5 : Hid (QI w5 (From g) g L2 ∧ Below g w w5) := ⟨hQ, from_off (H4.out.2) hO⟩
  clear hQ hO
  go_wp2_with fail
  go_ret
  refine ⟨rfl, ?_⟩
  rw [← HG.out]
  exact H5.out.2.alloc (by have h := H5.out.2.size; have := HG.out; omega) _
set_option maxHeartbeats 4000000 in
theorem submit_nil (id : Int) (m : ByteArray) (w : World) (hm : m.size ≤ 281474976710656) (b : Bool) (hb : b = decide (okQ id m)) : Calls Try.prog 9 #[.pointer none, .agg #[.int .i64 id, .string m]] w fun e w' => e = .returned (.tuple #[.int .i64 (if b then 2 else 3), .agg #[.int .u64 0, .int .u64 0, .int .u64 0, .int .u64 0, .int .u64 0, .int .u64 0, .int .u64 0, .int .u64 0, .bool false, .int .u64 0, .int .u64 0, .int .u64 0, .int .u64 0]]) ∧ Below w.heap.size w w' := by
  obtain ⟨W1, hW1⟩ : ∃ W1, W1 = (w.alloc (.cells #[.int .i64 id, .string m] 31)).alloc (.cells #[.int .u64 0, .int .u64 0, .int .u64 0, .int .u64 0, .int .u64 0, .int .u64 0, .int .u64 0, .int .u64 0, .bool false, .int .u64 0, .int .u64 0, .int .u64 0, .int .u64 0] 38) := ⟨_, rfl⟩
  have hb1 : Below w.heap.size w W1 := by rw [hW1]; exact below_alloc0 (below_alloc0 (Below.refl _ _) _) _
  have hbx : Blk W1 w.heap.size [.int .i64 id, .string m] := by rw [hW1]; exact (Blk.new w [.int .i64 id, .string m] 31).call (below_alloc0 (Below.refl _ _) _)
  have hsx : Blk W1 (w.heap.size + 1) [.int .u64 0, .int .u64 0, .int .u64 0, .int .u64 0, .int .u64 0, .int .u64 0, .int .u64 0, .int .u64 0, .bool false, .int .u64 0, .int .u64 0, .int .u64 0, .int .u64 0] := by rw [hW1, show w.heap.size + 1 = (w.alloc (.cells #[.int .i64 id, .string m] 31)).heap.size by simp]; exact Blk.new _ [.int .u64 0, .int .u64 0, .int .u64 0, .int .u64 0, .int .u64 0, .int .u64 0, .int .u64 0, .int .u64 0, .bool false, .int .u64 0, .int .u64 0, .int .u64 0, .int .u64 0] 38
  have HW : Hid (W1 = (w.alloc (.cells #[.int .i64 id, .string m] 31)).alloc (.cells #[.int .u64 0, .int .u64 0, .int .u64 0, .int .u64 0, .int .u64 0, .int .u64 0, .int .u64 0, .int .u64 0, .bool false, .int .u64 0, .int .u64 0, .int .u64 0, .int .u64 0] 38)) := hW1
  obtain ⟨E, hE⟩ : ∃ E, E = w.heap.size := ⟨_, rfl⟩
  obtain ⟨F, hF⟩ : ∃ F, F = w.heap.size + 1 := ⟨_, rfl⟩
  rw [← hE] at hbx
  rw [← hF] at hsx
  have HE : Hid (E = w.heap.size ∧ F = w.heap.size + 1) := ⟨hE, hF⟩
  have HT : Hid (m.size ≤ 281474976710656 ∧ decide (okQ id m) = b) := ⟨hm, hb.symm⟩
  have H1 : Hid (Below w.heap.size w W1 ∧ Blk W1 E [.int .i64 id, .string m] ∧ Blk W1 F [.int .u64 0, .int .u64 0, .int .u64 0, .int .u64 0, .int .u64 0, .int .u64 0, .int .u64 0, .int .u64 0, .bool false, .int .u64 0, .int .u64 0, .int .u64 0, .int .u64 0]) := ⟨hb1, hbx, hsx⟩
  have x0 : W1.cell? ⟨E, 0, none⟩ = some (.int .i64 id) := hbx.2.2 0 _ rfl
  clear hb1 hbx hsx hW1 hm hE hF hb
  go_enter Try.func9, Try.ntmps9
  go_upto_region 1 with fail
  rw [← HW.out, ← HE.out.2, ← HE.out.1]
  go_wp2_with fail
  refine (find_nil id W1).mono ?_
  rintro e w2 ⟨rfl, hb2⟩
  obtain ⟨W3, hW3⟩ : ∃ W3, W3 = w2.alloc (.cells #[.string ⟨#[]⟩, .int .i64 0, .int .u64 0, .int .u64 0, .int .u64 0, .int .u64 0, .int .u64 0, .int .u64 0, .int .u64 0, .int .u64 0, .bool false, .int .u64 0, .int .u64 0, .int .u64 0, .int .u64 0] 65) := ⟨_, rfl⟩
  have hb3 : Below w2.heap.size w2 W3 := by rw [hW3]; exact below_alloc0 (Below.refl _ _) _
  have HG : Hid (W3 = w2.alloc (.cells #[.string ⟨#[]⟩, .int .i64 0, .int .u64 0, .int .u64 0, .int .u64 0, .int .u64 0, .int .u64 0, .int .u64 0, .int .u64 0, .int .u64 0, .bool false, .int .u64 0, .int .u64 0, .int .u64 0, .int .u64 0] 65)) := hW3
  have H3 : Hid (Below w.heap.size w W3 ∧ Blk W3 E [.int .i64 id, .string m] ∧ Blk W3 F [.int .u64 0, .int .u64 0, .int .u64 0, .int .u64 0, .int .u64 0, .int .u64 0, .int .u64 0, .int .u64 0, .bool false, .int .u64 0, .int .u64 0, .int .u64 0, .int .u64 0]) := ⟨(H1.out.1.trans (hb2.mono H1.out.1.size)).trans (hb3.mono (Nat.le_trans H1.out.1.size hb2.size)), (H1.out.2.1.call hb2).call hb3, (H1.out.2.2.call hb2).call hb3⟩
  have x3 : W3.cell? ⟨E, 0, none⟩ = some (.int .i64 id) := H3.out.2.1.2.2 0 _ rfl
  have y3 : W3.cell? ⟨E, 1, none⟩ = some (.string m) := H3.out.2.1.2.2 1 _ rfl
  clear hb2 hb3 hW3 x0
  go_upto_region 2 with fail
  rw [← HG.out]
  go_wp2_with fail
  refine (isReq_any id m W3 HT.out.1).mono ?_
  rintro e w4 ⟨rfl, hb4⟩
  rw [HT.out.2]
  have H4 : Hid (Below w.heap.size w w4 ∧ Blk w4 F [.int .u64 0, .int .u64 0, .int .u64 0, .int .u64 0, .int .u64 0, .int .u64 0, .int .u64 0, .int .u64 0, .bool false, .int .u64 0, .int .u64 0, .int .u64 0, .int .u64 0]) := ⟨H3.out.1.trans (hb4.mono H3.out.1.size), H3.out.2.2.call hb4⟩
  clear hb4 x3 y3
  have f0 : w4.cell? ⟨F, 0, none⟩ = some (.int .u64 0) := H4.out.2.2.2 0 _ rfl
  have f1 : w4.cell? ⟨F, 1, none⟩ = some (.int .u64 0) := H4.out.2.2.2 1 _ rfl
  have f2 : w4.cell? ⟨F, 2, none⟩ = some (.int .u64 0) := H4.out.2.2.2 2 _ rfl
  have f3 : w4.cell? ⟨F, 3, none⟩ = some (.int .u64 0) := H4.out.2.2.2 3 _ rfl
  have f4 : w4.cell? ⟨F, 4, none⟩ = some (.int .u64 0) := H4.out.2.2.2 4 _ rfl
  have f5 : w4.cell? ⟨F, 5, none⟩ = some (.int .u64 0) := H4.out.2.2.2 5 _ rfl
  have f6 : w4.cell? ⟨F, 6, none⟩ = some (.int .u64 0) := H4.out.2.2.2 6 _ rfl
  have f7 : w4.cell? ⟨F, 7, none⟩ = some (.int .u64 0) := H4.out.2.2.2 7 _ rfl
  have f8 : w4.cell? ⟨F, 8, none⟩ = some (.bool false) := H4.out.2.2.2 8 _ rfl
  have f9 : w4.cell? ⟨F, 9, none⟩ = some (.int .u64 0) := H4.out.2.2.2 9 _ rfl
  have f10 : w4.cell? ⟨F, 10, none⟩ = some (.int .u64 0) := H4.out.2.2.2 10 _ rfl
  have f11 : w4.cell? ⟨F, 11, none⟩ = some (.int .u64 0) := H4.out.2.2.2 11 _ rfl
  have f12 : w4.cell? ⟨F, 12, none⟩ = some (.int .u64 0) := H4.out.2.2.2 12 _ rfl
  have fz : ∀ o, w4.frozen? ⟨F, o, none⟩ = false := H4.out.2.2.1
  have HO : Hid (Below w.heap.size w (put13 w4 F sg0)) := by
    have := put13_off (Z := From w.heap.size) (S := sg0) (b := F) (Off.of_below H4.out.1 (fun k hk => hk)) (by have := HE.out; show w.heap.size ≤ F; omega)
    exact from_off (Below.refl _ _) this
  cases b with
  | true =>
    go_wp2_with fail
    refine bodyPost_ret (v := .tuple #[.int .i64 2, .agg #[.int .u64 0, .int .u64 0, .int .u64 0, .int .u64 0, .int .u64 0, .int .u64 0, .int .u64 0, .int .u64 0, .bool false, .int .u64 0, .int .u64 0, .int .u64 0, .int .u64 0]]) ?_ rfl ⟨rfl, HO.out⟩
    simp [results, Try.results9, go_sem, *]
  | false =>
    go_wp2_with fail
    refine bodyPost_ret (v := .tuple #[.int .i64 3, .agg #[.int .u64 0, .int .u64 0, .int .u64 0, .int .u64 0, .int .u64 0, .int .u64 0, .int .u64 0, .int .u64 0, .bool false, .int .u64 0, .int .u64 0, .int .u64 0, .int .u64 0]]) ?_ rfl ⟨rfl, HO.out⟩
    simp [results, Try.results9, go_sem, *]
theorem finish_nil (id : Int) (s : Sg) (w : World) : Calls Try.prog 11 #[.pointer none, .int .i64 id, .agg #[.int .u64 s.x0, .int .u64 s.x1, .int .u64 s.x2, .int .u64 s.x3, .int .u64 s.x4, .int .u64 s.x5, .int .u64 s.x6, .int .u64 s.x7, .bool s.i, .int .u64 s.x8, .int .u64 s.x9, .int .u64 s.x10, .int .u64 s.x11]] w fun e w' => e = .returned (.int .i64 6) ∧ Below w.heap.size w w' := by
  go_enter Try.func11, Try.ntmps11
  go_wp2_with fail
  refine (find_nil id _).mono ?_
  rintro e w2 ⟨rfl, hb2⟩
  have H2 : Hid (Below w.heap.size w w2) := (below_alloc0 (Below.refl _ _) _).trans (hb2.mono (by simp))
  clear hb2
  go_wp2_with fail
  go_ret
  exact ⟨rfl, H2.out.alloc H2.out.size _⟩
theorem get_nil (id : Int) (w : World) : Calls Try.prog 17 #[.pointer none, .int .i64 id] w fun e w' => e = .returned (.tuple #[.agg #[.int .i64 0, .string ⟨#[]⟩], .bool false]) ∧ Below w.heap.size w w' := by
  go_enter Try.func17, Try.ntmps17
  go_wp2_with fail
  refine (find_nil id _).mono ?_
  rintro e w2 ⟨rfl, hb2⟩
  have h2 := get_blk hb2
  obtain ⟨E, hE⟩ : ∃ E, E = w.heap.size := ⟨_, rfl⟩
  rw [← hE] at h2 ⊢
  have HE : Hid (E = w.heap.size ∧ Blk w2 E [.int .i64 0, .string ⟨#[]⟩] ∧ Below E w w2) := ⟨hE, h2⟩
  have el := h2.1.1
  have f0 : w2.cell? ⟨E, 0, none⟩ = some (.int .i64 0) := h2.1.2.2 0 _ rfl
  have f1 : w2.cell? ⟨E, 1, none⟩ = some (.string ⟨#[]⟩) := h2.1.2.2 1 _ rfl
  have fz := h2.1.2.1
  clear hb2 h2 hE
  go_wp2_with fail
  refine bodyPost_ret (v := .tuple #[.agg #[.int .i64 0, .string ⟨#[]⟩], .bool false]) ?_ rfl ⟨rfl, ?_⟩
  · simp [results, Try.results17, go_sem, *]
  · rw [← HE.out.1]
    exact ((HE.out.2.2.setCell (p := ⟨E, _, none⟩) (Nat.le_refl E) _).setCell (p := ⟨E, _, none⟩) (Nat.le_refl E) _).alloc (by rw [World.size_setCell, World.size_setCell]; exact Nat.le_of_lt HE.out.2.1.1) _
theorem count_nil (w : World) : Calls Try.prog 13 #[.pointer none] w fun e w' => e = .returned (.tuple #[.int .i64 0, .int .i64 0]) ∧ w' = w := by
  go_enter Try.func13, Try.ntmps13
  go_wp2
  go_ret2
  exact ⟨rfl, rfl⟩
theorem waiting_nil (w : World) : Calls Try.prog 15 #[.pointer none] w fun e w' => e = .returned (.slice none 0 0) ∧ w' = w := by
  go_enter Try.func15, Try.ntmps15
  go_wp2
  go_ret
  exact ⟨rfl, rfl⟩
end Go.Proofs.Ytolhkpgpcbebiaa
