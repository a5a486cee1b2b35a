/- Package queue: Submit, a case. -/
import Derived.Test.YtolhkpgpcbebiaaQuD
import Derived.Test.YtolhkpgpcbebiaaHeldN
namespace Go.Proofs.Ytolhkpgpcbebiaa
open Go Go.RowKit Go.Lib
set_option maxRecDepth 100000 in
set_option maxHeartbeats 4000000 in
theorem submit_badS (g : Nat) (id : Int) (m : ByteArray) (Z : Nat → Prop) (L : List Qe) (w : World) (hZ : ∀ k, w.heap.size ≤ k → Z k) (hQ : QI w Z g L) (hid : -9223372036854775808 ≤ id ∧ id ≤ 9223372036854775807) (hm : m.size ≤ 281474976710656) (hN : L.length < 10000) (x : Qe) (hl : lookQ L id = some x) (hk : ¬ okQ id m) :
    Calls Try.prog 9 #[.pointer (some ⟨g, 0, none⟩), .agg #[.int .i64 id, .string m]] w fun e w' => e = .returned (.tuple #[.int .i64 3, .agg #[.int .u64 0, .int .u64 0, .int .u64 0, .int .u64 0, .int .u64 0, .int .u64 0, .int .u64 0, .int .u64 0, .bool false, .int .u64 0, .int .u64 0, .int .u64 0, .int .u64 0]]) ∧ QI w' Z g L ∧ Off Z w w' := by
  have HL : Hid (lookQ L id = some x) := hl
  have HD : Hid (decide (okQ id m) = false) := decide_eq_false hk
  obtain ⟨W1, hW1⟩ : ∃ W1, W1 = (w.alloc (.cells #[.int .i64 id, .string m] 31)).alloc (.cells #[.int .u64 0, .int .u64 0, .int .u64 0, .int .u64 0, .int .u64 0, .int .u64 0, .int .u64 0, .int .u64 0, .bool false, .int .u64 0, .int .u64 0, .int .u64 0, .int .u64 0] 38) := ⟨_, rfl⟩
  have hb1 : Below w.heap.size w W1 := by rw [hW1]; exact below_alloc0 (below_alloc0 (Below.refl _ _) _) _
  have hbx : Blk W1 w.heap.size [.int .i64 id, .string m] := by rw [hW1]; exact (Blk.new w [.int .i64 id, .string m] 31).call (below_alloc0 (Below.refl _ _) _)
  have hsx : Blk W1 (w.heap.size + 1) [.int .u64 0, .int .u64 0, .int .u64 0, .int .u64 0, .int .u64 0, .int .u64 0, .int .u64 0, .int .u64 0, .bool false, .int .u64 0, .int .u64 0, .int .u64 0, .int .u64 0] := by rw [hW1, show w.heap.size + 1 = (w.alloc (.cells #[.int .i64 id, .string m] 31)).heap.size by simp]; exact Blk.new _ [.int .u64 0, .int .u64 0, .int .u64 0, .int .u64 0, .int .u64 0, .int .u64 0, .int .u64 0, .int .u64 0, .bool false, .int .u64 0, .int .u64 0, .int .u64 0, .int .u64 0] 38
  have HW : Hid (W1 = (w.alloc (.cells #[.int .i64 id, .string m] 31)).alloc (.cells #[.int .u64 0, .int .u64 0, .int .u64 0, .int .u64 0, .int .u64 0, .int .u64 0, .int .u64 0, .int .u64 0, .bool false, .int .u64 0, .int .u64 0, .int .u64 0, .int .u64 0] 38)) := hW1
  obtain ⟨E, hE⟩ : ∃ E, E = w.heap.size := ⟨_, rfl⟩
  obtain ⟨F, hF⟩ : ∃ F, F = w.heap.size + 1 := ⟨_, rfl⟩
  rw [← hE] at hbx
  rw [← hF] at hsx
  have HE : Hid (E = w.heap.size ∧ F = w.heap.size + 1) := ⟨hE, hF⟩
  have HT : Hid ((∀ k, w.heap.size ≤ k → Z k) ∧ (-9223372036854775808 ≤ id ∧ id ≤ 9223372036854775807) ∧ m.size ≤ 281474976710656 ∧ L.length < 10000) := ⟨hZ, hid, hm, hN⟩
  have H1 : Hid (QI w Z g L ∧ QI W1 Z g L ∧ Below w.heap.size w W1 ∧ Blk W1 E [.int .i64 id, .string m] ∧ Blk W1 F [.int .u64 0, .int .u64 0, .int .u64 0, .int .u64 0, .int .u64 0, .int .u64 0, .int .u64 0, .int .u64 0, .bool false, .int .u64 0, .int .u64 0, .int .u64 0, .int .u64 0]) := ⟨hQ, hQ.call hb1, hb1, hbx, hsx⟩
  clear hl hk
  have x0 : W1.cell? ⟨E, 0, none⟩ = some (.int .i64 id) := hbx.2.2 0 _ rfl
  clear hQ hb1 hbx hsx hW1 hZ hid hm hN hE hF
  go_enter Try.func9, Try.ntmps9
  go_upto_region 1 with fail
  rw [← HW.out, ← HE.out.2, ← HE.out.1]
  go_wp2_with fail
  refine (find_in g id HT.out.2.1 Z L W1 H1.out.2.1).mono ?_
  rintro e w2 ⟨rfl, hb2⟩
  rw [HL.out]
  simp only [fm, fa, fs, Option.isSome_some]
  obtain ⟨W3, hW3⟩ : ∃ W3, W3 = w2.alloc (.cells #[.string x.m, .int .i64 (qa x.d), .int .u64 x.S.x0, .int .u64 x.S.x1, .int .u64 x.S.x2, .int .u64 x.S.x3, .int .u64 x.S.x4, .int .u64 x.S.x5, .int .u64 x.S.x6, .int .u64 x.S.x7, .bool x.S.i, .int .u64 x.S.x8, .int .u64 x.S.x9, .int .u64 x.S.x10, .int .u64 x.S.x11] 65) := ⟨_, rfl⟩
  have hb3 : Below w2.heap.size w2 W3 := by rw [hW3]; exact below_alloc0 (Below.refl _ _) _
  have hex : Blk W3 w2.heap.size [.string x.m, .int .i64 (qa x.d), .int .u64 x.S.x0, .int .u64 x.S.x1, .int .u64 x.S.x2, .int .u64 x.S.x3, .int .u64 x.S.x4, .int .u64 x.S.x5, .int .u64 x.S.x6, .int .u64 x.S.x7, .bool x.S.i, .int .u64 x.S.x8, .int .u64 x.S.x9, .int .u64 x.S.x10, .int .u64 x.S.x11] := by rw [hW3]; exact Blk.new w2 [.string x.m, .int .i64 (qa x.d), .int .u64 x.S.x0, .int .u64 x.S.x1, .int .u64 x.S.x2, .int .u64 x.S.x3, .int .u64 x.S.x4, .int .u64 x.S.x5, .int .u64 x.S.x6, .int .u64 x.S.x7, .bool x.S.i, .int .u64 x.S.x8, .int .u64 x.S.x9, .int .u64 x.S.x10, .int .u64 x.S.x11] 65
  obtain ⟨G, hG⟩ : ∃ G, G = w2.heap.size := ⟨_, rfl⟩
  have HG : Hid (W3 = w2.alloc (.cells #[.string x.m, .int .i64 (qa x.d), .int .u64 x.S.x0, .int .u64 x.S.x1, .int .u64 x.S.x2, .int .u64 x.S.x3, .int .u64 x.S.x4, .int .u64 x.S.x5, .int .u64 x.S.x6, .int .u64 x.S.x7, .bool x.S.i, .int .u64 x.S.x8, .int .u64 x.S.x9, .int .u64 x.S.x10, .int .u64 x.S.x11] 65) ∧ G = w2.heap.size) := ⟨hW3, hG⟩
  rw [← hG] at hex
  have H3 : Hid (QI W3 Z g L ∧ Below w.heap.size w W3 ∧ Blk W3 E [.int .i64 id, .string m] ∧ Blk W3 F [.int .u64 0, .int .u64 0, .int .u64 0, .int .u64 0, .int .u64 0, .int .u64 0, .int .u64 0, .int .u64 0, .bool false, .int .u64 0, .int .u64 0, .int .u64 0, .int .u64 0] ∧ Blk W3 G [.string x.m, .int .i64 (qa x.d), .int .u64 x.S.x0, .int .u64 x.S.x1, .int .u64 x.S.x2, .int .u64 x.S.x3, .int .u64 x.S.x4, .int .u64 x.S.x5, .int .u64 x.S.x6, .int .u64 x.S.x7, .bool x.S.i, .int .u64 x.S.x8, .int .u64 x.S.x9, .int .u64 x.S.x10, .int .u64 x.S.x11]) := ⟨(H1.out.2.1.call hb2).call hb3, (H1.out.2.2.1.trans (hb2.mono H1.out.2.2.1.size)).trans (hb3.mono (Nat.le_trans H1.out.2.2.1.size hb2.size)), (H1.out.2.2.2.1.call hb2).call hb3, (H1.out.2.2.2.2.call hb2).call hb3, hex⟩
  have x3 : W3.cell? ⟨E, 0, none⟩ = some (.int .i64 id) := H3.out.2.2.1.2.2 0 _ rfl
  have y3 : W3.cell? ⟨E, 1, none⟩ = some (.string m) := H3.out.2.2.1.2.2 1 _ rfl
  clear hb2 hb3 hex hW3 hG x0
  go_upto_region 2 with fail
  rw [← HG.out.1, ← HG.out.2]
  go_wp2_with fail
  refine (isReq_any id m W3 HT.out.2.2.1).mono ?_
  rintro e w4 ⟨rfl, hb4⟩
  rw [HD.out]
  have H4 : Hid (QI w4 Z g L ∧ Below w.heap.size w w4 ∧ Blk w4 E [.int .i64 id, .string m] ∧ Blk w4 F [.int .u64 0, .int .u64 0, .int .u64 0, .int .u64 0, .int .u64 0, .int .u64 0, .int .u64 0, .int .u64 0, .bool false, .int .u64 0, .int .u64 0, .int .u64 0, .int .u64 0] ∧ Blk w4 G [.string x.m, .int .i64 (qa x.d), .int .u64 x.S.x0, .int .u64 x.S.x1, .int .u64 x.S.x2, .int .u64 x.S.x3, .int .u64 x.S.x4, .int .u64 x.S.x5, .int .u64 x.S.x6, .int .u64 x.S.x7, .bool x.S.i, .int .u64 x.S.x8, .int .u64 x.S.x9, .int .u64 x.S.x10, .int .u64 x.S.x11] ∧ W3.heap.size ≤ w4.heap.size) := ⟨H3.out.1.call hb4, H3.out.2.1.trans (hb4.mono H3.out.2.1.size), H3.out.2.2.1.call hb4, H3.out.2.2.2.1.call hb4, H3.out.2.2.2.2.call hb4, hb4.size⟩
  clear hb4 x3 y3
  have f0 : w4.cell? ⟨F, 0, none⟩ = some (.int .u64 0) := H4.out.2.2.2.1.2.2 0 _ rfl
  have f1 : w4.cell? ⟨F, 1, none⟩ = some (.int .u64 0) := H4.out.2.2.2.1.2.2 1 _ rfl
  have f2 : w4.cell? ⟨F, 2, none⟩ = some (.int .u64 0) := H4.out.2.2.2.1.2.2 2 _ rfl
  have f3 : w4.cell? ⟨F, 3, none⟩ = some (.int .u64 0) := H4.out.2.2.2.1.2.2 3 _ rfl
  have f4 : w4.cell? ⟨F, 4, none⟩ = some (.int .u64 0) := H4.out.2.2.2.1.2.2 4 _ rfl
  have f5 : w4.cell? ⟨F, 5, none⟩ = some (.int .u64 0) := H4.out.2.2.2.1.2.2 5 _ rfl
  have f6 : w4.cell? ⟨F, 6, none⟩ = some (.int .u64 0) := H4.out.2.2.2.1.2.2 6 _ rfl
  have f7 : w4.cell? ⟨F, 7, none⟩ = some (.int .u64 0) := H4.out.2.2.2.1.2.2 7 _ rfl
  have f8 : w4.cell? ⟨F, 8, none⟩ = some (.bool false) := H4.out.2.2.2.1.2.2 8 _ rfl
  have f9 : w4.cell? ⟨F, 9, none⟩ = some (.int .u64 0) := H4.out.2.2.2.1.2.2 9 _ rfl
  have f10 : w4.cell? ⟨F, 10, none⟩ = some (.int .u64 0) := H4.out.2.2.2.1.2.2 10 _ rfl
  have f11 : w4.cell? ⟨F, 11, none⟩ = some (.int .u64 0) := H4.out.2.2.2.1.2.2 11 _ rfl
  have f12 : w4.cell? ⟨F, 12, none⟩ = some (.int .u64 0) := H4.out.2.2.2.1.2.2 12 _ rfl
  have fz : ∀ o, w4.frozen? ⟨F, o, none⟩ = false := H4.out.2.2.2.1.2.1
  go_wp2_with fail
  refine bodyPost_ret (v := .tuple #[.int .i64 3, .agg #[.int .u64 0, .int .u64 0, .int .u64 0, .int .u64 0, .int .u64 0, .int .u64 0, .int .u64 0, .int .u64 0, .bool false, .int .u64 0, .int .u64 0, .int .u64 0, .int .u64 0]]) ?_ rfl ⟨rfl, ?_⟩
  · simp [results, Try.results9, go_sem, *]
  · exact sub_end (S := sg0) (F := F) ((H1.out.1.but (by have := HE.out; omega) H4.out.2.1)) (Off.of_below H4.out.2.1 HT.out.1) (HT.out.1 F (by have := HE.out; omega))
end Go.Proofs.Ytolhkpgpcbebiaa
