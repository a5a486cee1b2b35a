/- Package queue: Submit, a case. -/
import Derived.Test.YtolhkpgpcbebiaaQuD
import Derived.Test.YtolhkpgpcbebiaaHeldN
namespace Go.Proofs.Ytolhkpgpcbebiaa
open Go Go.RowKit Go.Lib
set_option maxRecDepth 100000 in
set_option maxHeartbeats 4000000 in
theorem submit_known (g : Nat) (id : Int) (m : ByteArray) (Z : Nat → Prop) (L : List Qe) (w : World) (hZ : ∀ k, w.heap.size ≤ k → Z k) (hQ : QI w Z g L) (hid : -9223372036854775808 ≤ id ∧ id ≤ 9223372036854775807) (hm : m.size ≤ 281474976710656) (hN : L.length < 10000) (x : Qe) (hl : lookQ L id = some x) (hk : okQ id m) (heq : x.m = m) :
    Calls Try.prog 9 #[.pointer (some ⟨g, 0, none⟩), .agg #[.int .i64 id, .string m]] w fun e w' => e = .returned (.tuple #[.int .i64 (qa x.d), .agg #[.int .u64 x.S.x0, .int .u64 x.S.x1, .int .u64 x.S.x2, .int .u64 x.S.x3, .int .u64 x.S.x4, .int .u64 x.S.x5, .int .u64 x.S.x6, .int .u64 x.S.x7, .bool x.S.i, .int .u64 x.S.x8, .int .u64 x.S.x9, .int .u64 x.S.x10, .int .u64 x.S.x11]]) ∧ QI w' Z g L ∧ Off Z w w' := by
  have HL : Hid (lookQ L id = some x) := hl
  have HD : Hid (decide (okQ id m) = true) := decide_eq_true hk
  obtain ⟨W1, hW1⟩ : ∃ W1, W1 = (w.alloc (.cells #[.int .i64 id, .string m] 31)).alloc (.cells #[.int .u64 0, .int .u64 0, .int .u64 0, .int .u64 0, .int .u64 0, .int .u64 0, .int .u64 0, .int .u64 0, .bool false, .int .u64 0, .int .u64 0, .int .u64 0, .int .u64 0] 38) := ⟨_, rfl⟩
  have hb1 : Below w.heap.size w W1 := by rw [hW1]; exact below_alloc0 (below_alloc0 (Below.refl _ _) _) _
  have hbx : Blk W1 w.heap.size [.int .i64 id, .string m] := by rw [hW1]; exact (Blk.new w [.int .i64 id, .string m] 31).call (below_alloc0 (Below.refl _ _) _)
  have hsx : Blk W1 (w.heap.size + 1) [.int .u64 0, .int .u64 0, .int .u64 0, .int .u64 0, .int .u64 0, .int .u64 0, .int .u64 0, .int .u64 0, .bool false, .int .u64 0, .int .u64 0, .int .u64 0, .int .u64 0] := by rw [hW1, show w.heap.size + 1 = (w.alloc (.cells #[.int .i64 id, .string m] 31)).heap.size by simp]; exact Blk.new _ [.int .u64 0, .int .u64 0, .int .u64 0, .int .u64 0, .int .u64 0, .int .u64 0, .int .u64 0, .int .u64 0, .bool false, .int .u64 0, .int .u64 0, .int .u64 0, .int .u64 0] 38
  have HW : Hid (W1 = (w.alloc (.cells #[.int .i64 id, .string m] 31)).alloc (.cells #[.int .u64 0, .int .u64 0, .int .u64 0, .int .u64 0, .int .u64 0, .int .u64 0, .int .u64 0, .int .u64 0, .bool false, .int .u64 0, .int .u64 0, .int .u64 0, .int .u64 0] 38)) := hW1
  obtain ⟨E, hE⟩ : ∃ E, E = w.heap.size := ⟨_, rfl⟩
  obtain ⟨F, hF⟩ : ∃ F, F = w.heap.size + 1 := ⟨_, rfl⟩
  rw [← hE] at hbx
  rw [← hF] at hsx
  have HE : Hid (E = w.heap.size ∧ F = w.heap.size + 1) := ⟨hE, hF⟩
  have HT : Hid ((∀ k, w.heap.size ≤ k → Z k) ∧ (-9223372036854775808 ≤ id ∧ id ≤ 9223372036854775807) ∧ m.size ≤ 281474976710656 ∧ L.length < 10000) := ⟨hZ, hid, hm, hN⟩
  have H1 : Hid (QI w Z g L ∧ QI W1 Z g L ∧ Below w.heap.size w W1 ∧ Blk W1 E [.int .i64 id, .string m] ∧ Blk W1 F [.int .u64 0, .int .u64 0, .int .u64 0, .int .u64 0, .int .u64 0, .int .u64 0, .int .u64 0, .int .u64 0, .bool false, .int .u64 0, .int .u64 0, .int .u64 0, .int .u64 0]) := ⟨hQ, hQ.call hb1, hb1, hbx, hsx⟩
  have hs : (x.m.toList == m.toList) = true := by rw [heq]; exact beq_self_eq_true _
  clear hl hk heq
  have x0 : W1.cell? ⟨E, 0, none⟩ = some (.int .i64 id) := hbx.2.2 0 _ rfl
  clear hQ hb1 hbx hsx hW1 hZ hid hm hN hE hF
  go_enter Try.func9, Try.ntmps9
  go_upto_region 1 with fail
  rw [← HW.out, ← HE.out.2, ← HE.out.1]
  go_wp2_with fail
  refine (find_in g id HT.out.2.1 Z L W1 H1.out.2.1).mono ?_
  rintro e w2 ⟨rfl, hb2⟩
  rw [HL.out]
  simp only [fm, fa, fs, Option.isSome_some]
  obtain ⟨W3, hW3⟩ : ∃ W3, W3 = w2.alloc (.cells #[.string x.m, .int .i64 (qa x.d), .int .u64 x.S.x0, .int .u64 x.S.x1, .int .u64 x.S.x2, .int .u64 x.S.x3, .int .u64 x.S.x4, .int .u64 x.S.x5, .int .u64 x.S.x6, .int .u64 x.S.x7, .bool x.S.i, .int .u64 x.S.x8, .int .u64 x.S.x9, .int .u64 x.S.x10, .int .u64 x.S.x11] 65) := ⟨_, rfl⟩
  have hb3 : Below w2.heap.size w2 W3 := by rw [hW3]; exact below_alloc0 (Below.refl _ _) _
  have hex : Blk W3 w2.heap.size [.string x.m, .int .i64 (qa x.d), .int .u64 x.S.x0, .int .u64 x.S.x1, .int .u64 x.S.x2, .int .u64 x.S.x3, .int .u64 x.S.x4, .int .u64 x.S.x5, .int .u64 x.S.x6, .int .u64 x.S.x7, .bool x.S.i, .int .u64 x.S.x8, .int .u64 x.S.x9, .int .u64 x.S.x10, .int .u64 x.S.x11] := by rw [hW3]; exact Blk.new w2 [.string x.m, .int .i64 (qa x.d), .int .u64 x.S.x0, .int .u64 x.S.x1, .int .u64 x.S.x2, .int .u64 x.S.x3, .int .u64 x.S.x4, .int .u64 x.S.x5, .int .u64 x.S.x6, .int .u64 x.S.x7, .bool x.S.i, .int .u64 x.S.x8, .int .u64 x.S.x9, .int .u64 x.S.x10, .int .u64 x.S.x11] 65
  obtain ⟨G, hG⟩ : ∃ G, G = w2.heap.size := ⟨_, rfl⟩
  have HG : Hid (W3 = w2.alloc (.cells #[.string x.m, .int .i64 (qa x.d), .int .u64 x.S.x0, .int .u64 x.S.x1, .int .u64 x.S.x2, .int .u64 x.S.x3, .int .u64 x.S.x4, .int .u64 x.S.x5, .int .u64 x.S.x6, .int .u64 x.S.x7, .bool x.S.i, .int .u64 x.S.x8, .int .u64 x.S.x9, .int .u64 x.S.x10, .int .u64 x.S.x11] 65) ∧ G = w2.heap.size) := ⟨hW3, hG⟩
  rw [← hG] at hex
  have H3 : Hid (QI W3 Z g L ∧ Below w.heap.size w W3 ∧ Blk W3 E [.int .i64 id, .string m] ∧ Blk W3 F [.int .u64 0, .int .u64 0, .int .u64 0, .int .u64 0, .int .u64 0, .int .u64 0, .int .u64 0, .int .u64 0, .bool false, .int .u64 0, .int .u64 0, .int .u64 0, .int .u64 0] ∧ Blk W3 G [.string x.m, .int .i64 (qa x.d), .int .u64 x.S.x0, .int .u64 x.S.x1, .int .u64 x.S.x2, .int .u64 x.S.x3, .int .u64 x.S.x4, .int .u64 x.S.x5, .int .u64 x.S.x6, .int .u64 x.S.x7, .bool x.S.i, .int .u64 x.S.x8, .int .u64 x.S.x9, .int .u64 x.S.x10, .int .u64 x.S.x11]) := ⟨(H1.out.2.1.call hb2).call hb3, (H1.out.2.2.1.trans (hb2.mono H1.out.2.2.1.size)).trans (hb3.mono (Nat.le_trans H1.out.2.2.1.size hb2.size)), (H1.out.2.2.2.1.call hb2).call hb3, (H1.out.2.2.2.2.call hb2).call hb3, hex⟩
  have x3 : W3.cell? ⟨E, 0, none⟩ = some (.int .i64 id) := H3.out.2.2.1.2.2 0 _ rfl
  have y3 : W3.cell? ⟨E, 1, none⟩ = some (.string m) := H3.out.2.2.1.2.2 1 _ rfl
  clear hb2 hb3 hex hW3 hG x0
  go_upto_region 2 with fail
  rw [← HG.out.1, ← HG.out.2]
  go_wp2_with fail
  refine (isReq_any id m W3 HT.out.2.2.1).mono ?_
  rintro e w4 ⟨rfl, hb4⟩
  rw [HD.out]
  have H4 : Hid (QI w4 Z g L ∧ Below w.heap.size w w4 ∧ Blk w4 E [.int .i64 id, .string m] ∧ Blk w4 F [.int .u64 0, .int .u64 0, .int .u64 0, .int .u64 0, .int .u64 0, .int .u64 0, .int .u64 0, .int .u64 0, .bool false, .int .u64 0, .int .u64 0, .int .u64 0, .int .u64 0] ∧ Blk w4 G [.string x.m, .int .i64 (qa x.d), .int .u64 x.S.x0, .int .u64 x.S.x1, .int .u64 x.S.x2, .int .u64 x.S.x3, .int .u64 x.S.x4, .int .u64 x.S.x5, .int .u64 x.S.x6, .int .u64 x.S.x7, .bool x.S.i, .int .u64 x.S.x8, .int .u64 x.S.x9, .int .u64 x.S.x10, .int .u64 x.S.x11] ∧ W3.heap.size ≤ w4.heap.size) := ⟨H3.out.1.call hb4, H3.out.2.1.trans (hb4.mono H3.out.2.1.size), H3.out.2.2.1.call hb4, H3.out.2.2.2.1.call hb4, H3.out.2.2.2.2.call hb4, hb4.size⟩
  clear hb4 x3 y3
  have f0 : w4.cell? ⟨F, 0, none⟩ = some (.int .u64 0) := H4.out.2.2.2.1.2.2 0 _ rfl
  have f1 : w4.cell? ⟨F, 1, none⟩ = some (.int .u64 0) := H4.out.2.2.2.1.2.2 1 _ rfl
  have f2 : w4.cell? ⟨F, 2, none⟩ = some (.int .u64 0) := H4.out.2.2.2.1.2.2 2 _ rfl
  have f3 : w4.cell? ⟨F, 3, none⟩ = some (.int .u64 0) := H4.out.2.2.2.1.2.2 3 _ rfl
  have f4 : w4.cell? ⟨F, 4, none⟩ = some (.int .u64 0) := H4.out.2.2.2.1.2.2 4 _ rfl
  have f5 : w4.cell? ⟨F, 5, none⟩ = some (.int .u64 0) := H4.out.2.2.2.1.2.2 5 _ rfl
  have f6 : w4.cell? ⟨F, 6, none⟩ = some (.int .u64 0) := H4.out.2.2.2.1.2.2 6 _ rfl
  have f7 : w4.cell? ⟨F, 7, none⟩ = some (.int .u64 0) := H4.out.2.2.2.1.2.2 7 _ rfl
  have f8 : w4.cell? ⟨F, 8, none⟩ = some (.bool false) := H4.out.2.2.2.1.2.2 8 _ rfl
  have f9 : w4.cell? ⟨F, 9, none⟩ = some (.int .u64 0) := H4.out.2.2.2.1.2.2 9 _ rfl
  have f10 : w4.cell? ⟨F, 10, none⟩ = some (.int .u64 0) := H4.out.2.2.2.1.2.2 10 _ rfl
  have f11 : w4.cell? ⟨F, 11, none⟩ = some (.int .u64 0) := H4.out.2.2.2.1.2.2 11 _ rfl
  have f12 : w4.cell? ⟨F, 12, none⟩ = some (.int .u64 0) := H4.out.2.2.2.1.2.2 12 _ rfl
  have fz : ∀ o, w4.frozen? ⟨F, o, none⟩ = false := H4.out.2.2.2.1.2.1
  have e0 : w4.cell? ⟨G, 0, none⟩ = some (.string x.m) := H4.out.2.2.2.2.1.2.2 0 _ rfl
  have y4 : w4.cell? ⟨E, 1, none⟩ = some (.string m) := H4.out.2.2.1.2.2 1 _ rfl
  go_wp2_with fail
  refine wp_region_N (fun w' => Blk w' G [.string x.m, .int .i64 (qa x.d), .int .u64 x.S.x0, .int .u64 x.S.x1, .int .u64 x.S.x2, .int .u64 x.S.x3, .int .u64 x.S.x4, .int .u64 x.S.x5, .int .u64 x.S.x6, .int .u64 x.S.x7, .bool x.S.i, .int .u64 x.S.x8, .int .u64 x.S.x9, .int .u64 x.S.x10, .int .u64 x.S.x11]) 5 6 rfl (by kernel_rfl) ?_
  refine wpAnyN_take (i := 0) (oi := ?o0) (v := ?v0) ?hi0 (by kernel_rfl) (by kernel_rfl) (by kernel_rfl) (by kernel_rfl) (by decide) (by kernel_rfl) ?hQ0 ?hy0 H4.out.2.2.2.2.1 ?more0
  case hi0 => rw [List.getElem?_toArray]; exact rfl
  case hQ0 => exact fun _ _ _ h => h
  case hy0 =>
    refine Or.inl ⟨by rfl, ?_⟩
    intro w' hSw
    have k1 : w'.cell? ⟨G, 1, none⟩ = some (.int .i64 (qa x.d)) := hSw.2.2 1 _ rfl
    have k2 : w'.cell? ⟨G, 2, none⟩ = some (.int .u64 x.S.x0) := hSw.2.2 2 _ rfl
    have k3 : w'.cell? ⟨G, 3, none⟩ = some (.int .u64 x.S.x1) := hSw.2.2 3 _ rfl
    have k4 : w'.cell? ⟨G, 4, none⟩ = some (.int .u64 x.S.x2) := hSw.2.2 4 _ rfl
    have k5 : w'.cell? ⟨G, 5, none⟩ = some (.int .u64 x.S.x3) := hSw.2.2 5 _ rfl
    have k6 : w'.cell? ⟨G, 6, none⟩ = some (.int .u64 x.S.x4) := hSw.2.2 6 _ rfl
    have k7 : w'.cell? ⟨G, 7, none⟩ = some (.int .u64 x.S.x5) := hSw.2.2 7 _ rfl
    have k8 : w'.cell? ⟨G, 8, none⟩ = some (.int .u64 x.S.x6) := hSw.2.2 8 _ rfl
    have k9 : w'.cell? ⟨G, 9, none⟩ = some (.int .u64 x.S.x7) := hSw.2.2 9 _ rfl
    have k10 : w'.cell? ⟨G, 10, none⟩ = some (.bool x.S.i) := hSw.2.2 10 _ rfl
    have k11 : w'.cell? ⟨G, 11, none⟩ = some (.int .u64 x.S.x8) := hSw.2.2 11 _ rfl
    have k12 : w'.cell? ⟨G, 12, none⟩ = some (.int .u64 x.S.x9) := hSw.2.2 12 _ rfl
    have k13 : w'.cell? ⟨G, 13, none⟩ = some (.int .u64 x.S.x10) := hSw.2.2 13 _ rfl
    have k14 : w'.cell? ⟨G, 14, none⟩ = some (.int .u64 x.S.x11) := hSw.2.2 14 _ rfl
    clear hSw
    go_simp
    try with_reducible rfl
  simp only [Act.put, List.setIfInBounds_toArray, List.set_cons_zero, List.set_cons_succ]
  refine wpAnyN_take (i := 1) (oi := ?o1) (v := ?v1) ?hi1 (by kernel_rfl) (by kernel_rfl) (by kernel_rfl) (by kernel_rfl) (by decide) (by kernel_rfl) ?hQ1 ?hy1 H4.out.2.2.2.2.1 ?more1
  case hi1 => rw [List.getElem?_toArray]; exact rfl
  case hQ1 => exact fun _ _ _ h => h
  case hy1 =>
    refine Or.inl ⟨by rfl, ?_⟩
    intro w' hSw
    have k1 : w'.cell? ⟨G, 1, none⟩ = some (.int .i64 (qa x.d)) := hSw.2.2 1 _ rfl
    have k2 : w'.cell? ⟨G, 2, none⟩ = some (.int .u64 x.S.x0) := hSw.2.2 2 _ rfl
    have k3 : w'.cell? ⟨G, 3, none⟩ = some (.int .u64 x.S.x1) := hSw.2.2 3 _ rfl
    have k4 : w'.cell? ⟨G, 4, none⟩ = some (.int .u64 x.S.x2) := hSw.2.2 4 _ rfl
    have k5 : w'.cell? ⟨G, 5, none⟩ = some (.int .u64 x.S.x3) := hSw.2.2 5 _ rfl
    have k6 : w'.cell? ⟨G, 6, none⟩ = some (.int .u64 x.S.x4) := hSw.2.2 6 _ rfl
    have k7 : w'.cell? ⟨G, 7, none⟩ = some (.int .u64 x.S.x5) := hSw.2.2 7 _ rfl
    have k8 : w'.cell? ⟨G, 8, none⟩ = some (.int .u64 x.S.x6) := hSw.2.2 8 _ rfl
    have k9 : w'.cell? ⟨G, 9, none⟩ = some (.int .u64 x.S.x7) := hSw.2.2 9 _ rfl
    have k10 : w'.cell? ⟨G, 10, none⟩ = some (.bool x.S.i) := hSw.2.2 10 _ rfl
    have k11 : w'.cell? ⟨G, 11, none⟩ = some (.int .u64 x.S.x8) := hSw.2.2 11 _ rfl
    have k12 : w'.cell? ⟨G, 12, none⟩ = some (.int .u64 x.S.x9) := hSw.2.2 12 _ rfl
    have k13 : w'.cell? ⟨G, 13, none⟩ = some (.int .u64 x.S.x10) := hSw.2.2 13 _ rfl
    have k14 : w'.cell? ⟨G, 14, none⟩ = some (.int .u64 x.S.x11) := hSw.2.2 14 _ rfl
    clear hSw
    go_simp
    try with_reducible rfl
  simp only [Act.put, List.setIfInBounds_toArray, List.set_cons_zero, List.set_cons_succ]
  refine wpAnyN_take (i := 2) (oi := ?o2) (v := ?v2) ?hi2 (by kernel_rfl) (by kernel_rfl) (by kernel_rfl) (by kernel_rfl) (by decide) (by kernel_rfl) ?hQ2 ?hy2 H4.out.2.2.2.2.1 ?more2
  case hi2 => rw [List.getElem?_toArray]; exact rfl
  case hQ2 => exact fun _ _ _ h => h
  case hy2 =>
    refine Or.inl ⟨by rfl, ?_⟩
    intro w' hSw
    have k1 : w'.cell? ⟨G, 1, none⟩ = some (.int .i64 (qa x.d)) := hSw.2.2 1 _ rfl
    have k2 : w'.cell? ⟨G, 2, none⟩ = some (.int .u64 x.S.x0) := hSw.2.2 2 _ rfl
    have k3 : w'.cell? ⟨G, 3, none⟩ = some (.int .u64 x.S.x1) := hSw.2.2 3 _ rfl
    have k4 : w'.cell? ⟨G, 4, none⟩ = some (.int .u64 x.S.x2) := hSw.2.2 4 _ rfl
    have k5 : w'.cell? ⟨G, 5, none⟩ = some (.int .u64 x.S.x3) := hSw.2.2 5 _ rfl
    have k6 : w'.cell? ⟨G, 6, none⟩ = some (.int .u64 x.S.x4) := hSw.2.2 6 _ rfl
    have k7 : w'.cell? ⟨G, 7, none⟩ = some (.int .u64 x.S.x5) := hSw.2.2 7 _ rfl
    have k8 : w'.cell? ⟨G, 8, none⟩ = some (.int .u64 x.S.x6) := hSw.2.2 8 _ rfl
    have k9 : w'.cell? ⟨G, 9, none⟩ = some (.int .u64 x.S.x7) := hSw.2.2 9 _ rfl
    have k10 : w'.cell? ⟨G, 10, none⟩ = some (.bool x.S.i) := hSw.2.2 10 _ rfl
    have k11 : w'.cell? ⟨G, 11, none⟩ = some (.int .u64 x.S.x8) := hSw.2.2 11 _ rfl
    have k12 : w'.cell? ⟨G, 12, none⟩ = some (.int .u64 x.S.x9) := hSw.2.2 12 _ rfl
    have k13 : w'.cell? ⟨G, 13, none⟩ = some (.int .u64 x.S.x10) := hSw.2.2 13 _ rfl
    have k14 : w'.cell? ⟨G, 14, none⟩ = some (.int .u64 x.S.x11) := hSw.2.2 14 _ rfl
    clear hSw
    go_simp
    try with_reducible rfl
  simp only [Act.put, List.setIfInBounds_toArray, List.set_cons_zero, List.set_cons_succ]
  refine wpAnyN_take (i := 3) (oi := ?o3) (v := ?v3) ?hi3 (by kernel_rfl) (by kernel_rfl) (by kernel_rfl) (by kernel_rfl) (by decide) (by kernel_rfl) ?hQ3 ?hy3 H4.out.2.2.2.2.1 ?more3
  case hi3 => rw [List.getElem?_toArray]; exact rfl
  case hQ3 => exact fun _ _ _ h => h
  case hy3 =>
    refine Or.inl ⟨by rfl, ?_⟩
    intro w' hSw
    have k1 : w'.cell? ⟨G, 1, none⟩ = some (.int .i64 (qa x.d)) := hSw.2.2 1 _ rfl
    have k2 : w'.cell? ⟨G, 2, none⟩ = some (.int .u64 x.S.x0) := hSw.2.2 2 _ rfl
    have k3 : w'.cell? ⟨G, 3, none⟩ = some (.int .u64 x.S.x1) := hSw.2.2 3 _ rfl
    have k4 : w'.cell? ⟨G, 4, none⟩ = some (.int .u64 x.S.x2) := hSw.2.2 4 _ rfl
    have k5 : w'.cell? ⟨G, 5, none⟩ = some (.int .u64 x.S.x3) := hSw.2.2 5 _ rfl
    have k6 : w'.cell? ⟨G, 6, none⟩ = some (.int .u64 x.S.x4) := hSw.2.2 6 _ rfl
    have k7 : w'.cell? ⟨G, 7, none⟩ = some (.int .u64 x.S.x5) := hSw.2.2 7 _ rfl
    have k8 : w'.cell? ⟨G, 8, none⟩ = some (.int .u64 x.S.x6) := hSw.2.2 8 _ rfl
    have k9 : w'.cell? ⟨G, 9, none⟩ = some (.int .u64 x.S.x7) := hSw.2.2 9 _ rfl
    have k10 : w'.cell? ⟨G, 10, none⟩ = some (.bool x.S.i) := hSw.2.2 10 _ rfl
    have k11 : w'.cell? ⟨G, 11, none⟩ = some (.int .u64 x.S.x8) := hSw.2.2 11 _ rfl
    have k12 : w'.cell? ⟨G, 12, none⟩ = some (.int .u64 x.S.x9) := hSw.2.2 12 _ rfl
    have k13 : w'.cell? ⟨G, 13, none⟩ = some (.int .u64 x.S.x10) := hSw.2.2 13 _ rfl
    have k14 : w'.cell? ⟨G, 14, none⟩ = some (.int .u64 x.S.x11) := hSw.2.2 14 _ rfl
    clear hSw
    go_simp
    try with_reducible rfl
  simp only [Act.put, List.setIfInBounds_toArray, List.set_cons_zero, List.set_cons_succ]
  refine wpAnyN_take (i := 4) (oi := ?o4) (v := ?v4) ?hi4 (by kernel_rfl) (by kernel_rfl) (by kernel_rfl) (by kernel_rfl) (by decide) (by kernel_rfl) ?hQ4 ?hy4 H4.out.2.2.2.2.1 ?more4
  case hi4 => rw [List.getElem?_toArray]; exact rfl
  case hQ4 => exact fun _ _ _ h => h
  case hy4 =>
    refine Or.inl ⟨by rfl, ?_⟩
    intro w' hSw
    have k1 : w'.cell? ⟨G, 1, none⟩ = some (.int .i64 (qa x.d)) := hSw.2.2 1 _ rfl
    have k2 : w'.cell? ⟨G, 2, none⟩ = some (.int .u64 x.S.x0) := hSw.2.2 2 _ rfl
    have k3 : w'.cell? ⟨G, 3, none⟩ = some (.int .u64 x.S.x1) := hSw.2.2 3 _ rfl
    have k4 : w'.cell? ⟨G, 4, none⟩ = some (.int .u64 x.S.x2) := hSw.2.2 4 _ rfl
    have k5 : w'.cell? ⟨G, 5, none⟩ = some (.int .u64 x.S.x3) := hSw.2.2 5 _ rfl
    have k6 : w'.cell? ⟨G, 6, none⟩ = some (.int .u64 x.S.x4) := hSw.2.2 6 _ rfl
    have k7 : w'.cell? ⟨G, 7, none⟩ = some (.int .u64 x.S.x5) := hSw.2.2 7 _ rfl
    have k8 : w'.cell? ⟨G, 8, none⟩ = some (.int .u64 x.S.x6) := hSw.2.2 8 _ rfl
    have k9 : w'.cell? ⟨G, 9, none⟩ = some (.int .u64 x.S.x7) := hSw.2.2 9 _ rfl
    have k10 : w'.cell? ⟨G, 10, none⟩ = some (.bool x.S.i) := hSw.2.2 10 _ rfl
    have k11 : w'.cell? ⟨G, 11, none⟩ = some (.int .u64 x.S.x8) := hSw.2.2 11 _ rfl
    have k12 : w'.cell? ⟨G, 12, none⟩ = some (.int .u64 x.S.x9) := hSw.2.2 12 _ rfl
    have k13 : w'.cell? ⟨G, 13, none⟩ = some (.int .u64 x.S.x10) := hSw.2.2 13 _ rfl
    have k14 : w'.cell? ⟨G, 14, none⟩ = some (.int .u64 x.S.x11) := hSw.2.2 14 _ rfl
    clear hSw
    go_simp
    try with_reducible rfl
  simp only [Act.put, List.setIfInBounds_toArray, List.set_cons_zero, List.set_cons_succ]
  refine wpAnyN_one (i := 5) (o := ?o5) (by kernel_rfl) ?hi5 ?hw5 ?st5
  case hi5 => rw [List.getElem?_toArray]; exact rfl
  case hw5 => exact rfl
  intro K hK
  have HK5 : Hid _ := hK
  clear hK
  go_simp
  refine HK5.out _ _ ⟨fun h => absurd h (by decide +kernel), ?_⟩
  clear HK5 K
  try simp only [Act.put, List.setIfInBounds_toArray, List.set_cons_zero, List.set_cons_succ]
  refine wpAnyN_done (by kernel_rfl) ?_ _
  go_wp2_with fail
  refine bodyPost_ret (v := .tuple #[.int .i64 (qa x.d), .agg #[.int .u64 x.S.x0, .int .u64 x.S.x1, .int .u64 x.S.x2, .int .u64 x.S.x3, .int .u64 x.S.x4, .int .u64 x.S.x5, .int .u64 x.S.x6, .int .u64 x.S.x7, .bool x.S.i, .int .u64 x.S.x8, .int .u64 x.S.x9, .int .u64 x.S.x10, .int .u64 x.S.x11]]) ?_ rfl ⟨rfl, ?_⟩
  · simp [results, Try.results9, go_sem, *]
  · exact sub_end' (S := x.S) (F := F) ((H1.out.1.but (by have := HE.out; omega) H4.out.2.1)) (Off.of_below H4.out.2.1 HT.out.1) (HT.out.1 F (by have := HE.out; omega))
end Go.Proofs.Ytolhkpgpcbebiaa
