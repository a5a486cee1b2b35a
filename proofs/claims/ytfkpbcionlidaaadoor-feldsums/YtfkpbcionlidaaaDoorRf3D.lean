/- The reference's curve: a sum. -/
import Derived.Test.YtfkpbcionlidaaaDoorRf3C
namespace Go.Proofs.YtfkpbcionlidaaaDoor
open Go Go.RowKit Go.Lib

set_option maxRecDepth 100000 in
set_option maxHeartbeats 4000000 in
theorem plus3_l (x1 y1 z1 x2 y2 z2 : Nat) (hz1 : z1 < PP) (h1 : z1 = 0) (w : World) :
  Calls Tryd.prog 20 #[.agg #[.int .u64 (limb (x1) 0 : Nat), .int .u64 (limb (x1) 1 : Nat), .int .u64 (limb (x1) 2 : Nat), .int .u64 (limb (x1) 3 : Nat), .int .u64 (limb (y1) 0 : Nat), .int .u64 (limb (y1) 1 : Nat), .int .u64 (limb (y1) 2 : Nat), .int .u64 (limb (y1) 3 : Nat), .int .u64 (limb (z1) 0 : Nat), .int .u64 (limb (z1) 1 : Nat), .int .u64 (limb (z1) 2 : Nat), .int .u64 (limb (z1) 3 : Nat)], .agg #[.int .u64 (limb (x2) 0 : Nat), .int .u64 (limb (x2) 1 : Nat), .int .u64 (limb (x2) 2 : Nat), .int .u64 (limb (x2) 3 : Nat), .int .u64 (limb (y2) 0 : Nat), .int .u64 (limb (y2) 1 : Nat), .int .u64 (limb (y2) 2 : Nat), .int .u64 (limb (y2) 3 : Nat), .int .u64 (limb (z2) 0 : Nat), .int .u64 (limb (z2) 1 : Nat), .int .u64 (limb (z2) 2 : Nat), .int .u64 (limb (z2) 3 : Nat)]] w fun e w' => e = .returned (.agg #[.int .u64 (limb (x2) 0 : Nat), .int .u64 (limb (x2) 1 : Nat), .int .u64 (limb (x2) 2 : Nat), .int .u64 (limb (x2) 3 : Nat), .int .u64 (limb (y2) 0 : Nat), .int .u64 (limb (y2) 1 : Nat), .int .u64 (limb (y2) 2 : Nat), .int .u64 (limb (y2) 3 : Nat), .int .u64 (limb (z2) 0 : Nat), .int .u64 (limb (z2) 1 : Nat), .int .u64 (limb (z2) 2 : Nat), .int .u64 (limb (z2) 3 : Nat)]) ∧ Below w.heap.size w w' := by
 have K1 : Hid (rfZ z1 true) := rfZ_of (lt_R hz1) (decide_eq_true h1)
 obtain ⟨w0, hw0⟩ : ∃ wq, wq = (((w.alloc (.cells #[.int .u64 (limb (x1) 0 : Nat), .int .u64 (limb (x1) 1 : Nat), .int .u64 (limb (x1) 2 : Nat), .int .u64 (limb (x1) 3 : Nat), .int .u64 (limb (y1) 0 : Nat), .int .u64 (limb (y1) 1 : Nat), .int .u64 (limb (y1) 2 : Nat), .int .u64 (limb (y1) 3 : Nat), .int .u64 (limb (z1) 0 : Nat), .int .u64 (limb (z1) 1 : Nat), .int .u64 (limb (z1) 2 : Nat), .int .u64 (limb (z1) 3 : Nat)] 53)).alloc (.cells #[.int .u64 (limb (x2) 0 : Nat), .int .u64 (limb (x2) 1 : Nat), .int .u64 (limb (x2) 2 : Nat), .int .u64 (limb (x2) 3 : Nat), .int .u64 (limb (y2) 0 : Nat), .int .u64 (limb (y2) 1 : Nat), .int .u64 (limb (y2) 2 : Nat), .int .u64 (limb (y2) 3 : Nat), .int .u64 (limb (z2) 0 : Nat), .int .u64 (limb (z2) 1 : Nat), .int .u64 (limb (z2) 2 : Nat), .int .u64 (limb (z2) 3 : Nat)] 53)).alloc (.cells #[.int .u64 0, .int .u64 0, .int .u64 0, .int .u64 0, .int .u64 0, .int .u64 0, .int .u64 0, .int .u64 0, .int .u64 0, .int .u64 0, .int .u64 0, .int .u64 0] 53)) := ⟨_, rfl⟩
 have H0 : Hid (OwnC w0 (w.heap.size) (ovL x1 y1 z1)) ∧ Hid (OwnC w0 (w.heap.size + 1) (ovL x2 y2 z2)) ∧ Hid (OwnC w0 (w.heap.size + 1 + 1) z12L) ∧ Hid (Below w.heap.size w w0) := by
  rw [hw0]
  exact ⟨(OwnC.new' rfl).alloc.alloc, (OwnC.new' (by simp only [World.size_alloc])).alloc, (OwnC.new' (by simp only [World.size_alloc])), below_alloc0 (below_alloc0 (below_alloc0 (Below.refl _ _) _) _) _⟩
 obtain ⟨P0_0, P1_0, P2_0, W_0⟩ := H0
 clear hz1 h1
 go_enter Tryd.func20, Tryd.ntmps20
 go_upto_region 1 with fail
 rw [← hw0]
 clear hw0
 obtain ⟨fP0z, fP00, fP01, fP02, fP03, fP04, fP05, fP06, fP07, fP08, fP09, fP010, fP011, fP0f⟩ := (P0_0.out).ov
 go_wp2_with fail
 clear fP0z fP00 fP01 fP02 fP03 fP04 fP05 fP06 fP07 fP08 fP09 fP010 fP011 fP0f
 refine (K1.out _).mono ?_
 rintro e w1 ⟨rfl, hq⟩
 have P0_1 : Hid (OwnC w1 (w.heap.size) (ovL x1 y1 z1)) := OwnC.call P0_0.out hq
 have P1_1 : Hid (OwnC w1 (w.heap.size + 1) (ovL x2 y2 z2)) := OwnC.call P1_0.out hq
 have P2_1 : Hid (OwnC w1 (w.heap.size + 1 + 1) z12L) := OwnC.call P2_0.out hq
 have W_1 : Hid (Below w.heap.size w w1) := below_call0 W_0.out hq
 clear hq P0_0 P1_0 P2_0 W_0
 obtain ⟨fP1z, fP10, fP11, fP12, fP13, fP14, fP15, fP16, fP17, fP18, fP19, fP110, fP111, fP1f⟩ := (P1_1.out).ov
 obtain ⟨fP2z, fP20, fP21, fP22, fP23, fP24, fP25, fP26, fP27, fP28, fP29, fP210, fP211, fP2f⟩ := (P2_1.out).z12
 go_wp2_with fail
 clear fP1z fP10 fP11 fP12 fP13 fP14 fP15 fP16 fP17 fP18 fP19 fP110 fP111 fP1f fP2z fP20 fP21 fP22 fP23 fP24 fP25 fP26 fP27 fP28 fP29 fP210 fP211 fP2f
 obtain ⟨wz, hwz⟩ : ∃ wq, wq = ((((((((((((w1.setCell ⟨(w.heap.size + 1 + 1), 0, none⟩ (.int .u64 (limb (x2) 0 : Nat))).setCell ⟨(w.heap.size + 1 + 1), 1, none⟩ (.int .u64 (limb (x2) 1 : Nat))).setCell ⟨(w.heap.size + 1 + 1), 2, none⟩ (.int .u64 (limb (x2) 2 : Nat))).setCell ⟨(w.heap.size + 1 + 1), 3, none⟩ (.int .u64 (limb (x2) 3 : Nat))).setCell ⟨(w.heap.size + 1 + 1), 4, none⟩ (.int .u64 (limb (y2) 0 : Nat))).setCell ⟨(w.heap.size + 1 + 1), 5, none⟩ (.int .u64 (limb (y2) 1 : Nat))).setCell ⟨(w.heap.size + 1 + 1), 6, none⟩ (.int .u64 (limb (y2) 2 : Nat))).setCell ⟨(w.heap.size + 1 + 1), 7, none⟩ (.int .u64 (limb (y2) 3 : Nat))).setCell ⟨(w.heap.size + 1 + 1), 8, none⟩ (.int .u64 (limb (z2) 0 : Nat))).setCell ⟨(w.heap.size + 1 + 1), 9, none⟩ (.int .u64 (limb (z2) 1 : Nat))).setCell ⟨(w.heap.size + 1 + 1), 10, none⟩ (.int .u64 (limb (z2) 2 : Nat))).setCell ⟨(w.heap.size + 1 + 1), 11, none⟩ (.int .u64 (limb (z2) 3 : Nat))) := ⟨_, rfl⟩
 rw [← hwz]
 have hwy : wz = putL (w.heap.size + 1 + 1) 0 (ovL x2 y2 z2) w1 := hwz
 have HZ : OwnC wz (w.heap.size + 1 + 1) (ovL x2 y2 z2) ∧ Below w.heap.size w wz := by
  rw [hwy]
  exact ⟨OwnC.put (ovL x2 y2 z2) P2_1.out rfl, below_putL (Nat.le_succ_of_le (Nat.le_succ_of_le (Nat.le_refl _))) (ovL x2 y2 z2) 0 _ W_1.out⟩
 clear hwz hwy
 obtain ⟨hO, HB⟩ := HZ
 obtain ⟨rz, r0, r1, r2, r3, r4, r5, r6, r7, r8, r9, r10, r11, rf⟩ := hO.ov
 refine bodyPost_ret (v := .agg #[.int .u64 (limb (x2) 0 : Nat), .int .u64 (limb (x2) 1 : Nat), .int .u64 (limb (x2) 2 : Nat), .int .u64 (limb (x2) 3 : Nat), .int .u64 (limb (y2) 0 : Nat), .int .u64 (limb (y2) 1 : Nat), .int .u64 (limb (y2) 2 : Nat), .int .u64 (limb (y2) 3 : Nat), .int .u64 (limb (z2) 0 : Nat), .int .u64 (limb (z2) 1 : Nat), .int .u64 (limb (z2) 2 : Nat), .int .u64 (limb (z2) 3 : Nat)]) ?_ rfl ⟨rfl, HB⟩
 simp [results, Tryd.results20, go_sem, r0, r1, r2, r3, r4, r5, r6, r7, r8, r9, r10, r11]
set_option maxRecDepth 100000 in
set_option maxHeartbeats 4000000 in
theorem plus3_r (x1 y1 z1 x2 y2 z2 : Nat) (hz1 : z1 < PP) (hz2 : z2 < PP) (h1 : z1 ≠ 0) (h2 : z2 = 0) (w : World) :
  Calls Tryd.prog 20 #[.agg #[.int .u64 (limb (x1) 0 : Nat), .int .u64 (limb (x1) 1 : Nat), .int .u64 (limb (x1) 2 : Nat), .int .u64 (limb (x1) 3 : Nat), .int .u64 (limb (y1) 0 : Nat), .int .u64 (limb (y1) 1 : Nat), .int .u64 (limb (y1) 2 : Nat), .int .u64 (limb (y1) 3 : Nat), .int .u64 (limb (z1) 0 : Nat), .int .u64 (limb (z1) 1 : Nat), .int .u64 (limb (z1) 2 : Nat), .int .u64 (limb (z1) 3 : Nat)], .agg #[.int .u64 (limb (x2) 0 : Nat), .int .u64 (limb (x2) 1 : Nat), .int .u64 (limb (x2) 2 : Nat), .int .u64 (limb (x2) 3 : Nat), .int .u64 (limb (y2) 0 : Nat), .int .u64 (limb (y2) 1 : Nat), .int .u64 (limb (y2) 2 : Nat), .int .u64 (limb (y2) 3 : Nat), .int .u64 (limb (z2) 0 : Nat), .int .u64 (limb (z2) 1 : Nat), .int .u64 (limb (z2) 2 : Nat), .int .u64 (limb (z2) 3 : Nat)]] w fun e w' => e = .returned (.agg #[.int .u64 (limb (x1) 0 : Nat), .int .u64 (limb (x1) 1 : Nat), .int .u64 (limb (x1) 2 : Nat), .int .u64 (limb (x1) 3 : Nat), .int .u64 (limb (y1) 0 : Nat), .int .u64 (limb (y1) 1 : Nat), .int .u64 (limb (y1) 2 : Nat), .int .u64 (limb (y1) 3 : Nat), .int .u64 (limb (z1) 0 : Nat), .int .u64 (limb (z1) 1 : Nat), .int .u64 (limb (z1) 2 : Nat), .int .u64 (limb (z1) 3 : Nat)]) ∧ Below w.heap.size w w' := by
 have K1 : Hid (rfZ z1 false) := rfZ_of (lt_R hz1) (decide_eq_false h1)
 have K2 : Hid (rfZ z2 true) := rfZ_of (lt_R hz2) (decide_eq_true h2)
 obtain ⟨w0, hw0⟩ : ∃ wq, wq = (((w.alloc (.cells #[.int .u64 (limb (x1) 0 : Nat), .int .u64 (limb (x1) 1 : Nat), .int .u64 (limb (x1) 2 : Nat), .int .u64 (limb (x1) 3 : Nat), .int .u64 (limb (y1) 0 : Nat), .int .u64 (limb (y1) 1 : Nat), .int .u64 (limb (y1) 2 : Nat), .int .u64 (limb (y1) 3 : Nat), .int .u64 (limb (z1) 0 : Nat), .int .u64 (limb (z1) 1 : Nat), .int .u64 (limb (z1) 2 : Nat), .int .u64 (limb (z1) 3 : Nat)] 53)).alloc (.cells #[.int .u64 (limb (x2) 0 : Nat), .int .u64 (limb (x2) 1 : Nat), .int .u64 (limb (x2) 2 : Nat), .int .u64 (limb (x2) 3 : Nat), .int .u64 (limb (y2) 0 : Nat), .int .u64 (limb (y2) 1 : Nat), .int .u64 (limb (y2) 2 : Nat), .int .u64 (limb (y2) 3 : Nat), .int .u64 (limb (z2) 0 : Nat), .int .u64 (limb (z2) 1 : Nat), .int .u64 (limb (z2) 2 : Nat), .int .u64 (limb (z2) 3 : Nat)] 53)).alloc (.cells #[.int .u64 0, .int .u64 0, .int .u64 0, .int .u64 0, .int .u64 0, .int .u64 0, .int .u64 0, .int .u64 0, .int .u64 0, .int .u64 0, .int .u64 0, .int .u64 0] 53)) := ⟨_, rfl⟩
 have H0 : Hid (OwnC w0 (w.heap.size) (ovL x1 y1 z1)) ∧ Hid (OwnC w0 (w.heap.size + 1) (ovL x2 y2 z2)) ∧ Hid (OwnC w0 (w.heap.size + 1 + 1) z12L) ∧ Hid (Below w.heap.size w w0) := by
  rw [hw0]
  exact ⟨(OwnC.new' rfl).alloc.alloc, (OwnC.new' (by simp only [World.size_alloc])).alloc, (OwnC.new' (by simp only [World.size_alloc])), below_alloc0 (below_alloc0 (below_alloc0 (Below.refl _ _) _) _) _⟩
 obtain ⟨P0_0, P1_0, P2_0, W_0⟩ := H0
 clear hz1 hz2 h1 h2
 go_enter Tryd.func20, Tryd.ntmps20
 go_upto_region 1 with fail
 rw [← hw0]
 clear hw0
 obtain ⟨fP0z, fP00, fP01, fP02, fP03, fP04, fP05, fP06, fP07, fP08, fP09, fP010, fP011, fP0f⟩ := (P0_0.out).ov
 go_wp2_with fail
 clear fP0z fP00 fP01 fP02 fP03 fP04 fP05 fP06 fP07 fP08 fP09 fP010 fP011 fP0f
 refine (K1.out _).mono ?_
 rintro e w1 ⟨rfl, hq⟩
 have P0_1 : Hid (OwnC w1 (w.heap.size) (ovL x1 y1 z1)) := OwnC.call P0_0.out hq
 have P1_1 : Hid (OwnC w1 (w.heap.size + 1) (ovL x2 y2 z2)) := OwnC.call P1_0.out hq
 have P2_1 : Hid (OwnC w1 (w.heap.size + 1 + 1) z12L) := OwnC.call P2_0.out hq
 have W_1 : Hid (Below w.heap.size w w1) := below_call0 W_0.out hq
 clear hq P0_0 P1_0 P2_0 W_0
 go_upto_region 3 with fail
 obtain ⟨fP1z, fP10, fP11, fP12, fP13, fP14, fP15, fP16, fP17, fP18, fP19, fP110, fP111, fP1f⟩ := (P1_1.out).ov
 go_wp2_with fail
 clear fP1z fP10 fP11 fP12 fP13 fP14 fP15 fP16 fP17 fP18 fP19 fP110 fP111 fP1f
 refine (K2.out _).mono ?_
 rintro e w2 ⟨rfl, hq⟩
 have P0_2 : Hid (OwnC w2 (w.heap.size) (ovL x1 y1 z1)) := OwnC.call P0_1.out hq
 have P1_2 : Hid (OwnC w2 (w.heap.size + 1) (ovL x2 y2 z2)) := OwnC.call P1_1.out hq
 have P2_2 : Hid (OwnC w2 (w.heap.size + 1 + 1) z12L) := OwnC.call P2_1.out hq
 have W_2 : Hid (Below w.heap.size w w2) := below_call0 W_1.out hq
 clear hq P0_1 P1_1 P2_1 W_1
 obtain ⟨fP0z, fP00, fP01, fP02, fP03, fP04, fP05, fP06, fP07, fP08, fP09, fP010, fP011, fP0f⟩ := (P0_2.out).ov
 obtain ⟨fP2z, fP20, fP21, fP22, fP23, fP24, fP25, fP26, fP27, fP28, fP29, fP210, fP211, fP2f⟩ := (P2_2.out).z12
 go_wp2_with fail
 clear fP0z fP00 fP01 fP02 fP03 fP04 fP05 fP06 fP07 fP08 fP09 fP010 fP011 fP0f fP2z fP20 fP21 fP22 fP23 fP24 fP25 fP26 fP27 fP28 fP29 fP210 fP211 fP2f
 obtain ⟨wz, hwz⟩ : ∃ wq, wq = ((((((((((((w2.setCell ⟨(w.heap.size + 1 + 1), 0, none⟩ (.int .u64 (limb (x1) 0 : Nat))).setCell ⟨(w.heap.size + 1 + 1), 1, none⟩ (.int .u64 (limb (x1) 1 : Nat))).setCell ⟨(w.heap.size + 1 + 1), 2, none⟩ (.int .u64 (limb (x1) 2 : Nat))).setCell ⟨(w.heap.size + 1 + 1), 3, none⟩ (.int .u64 (limb (x1) 3 : Nat))).setCell ⟨(w.heap.size + 1 + 1), 4, none⟩ (.int .u64 (limb (y1) 0 : Nat))).setCell ⟨(w.heap.size + 1 + 1), 5, none⟩ (.int .u64 (limb (y1) 1 : Nat))).setCell ⟨(w.heap.size + 1 + 1), 6, none⟩ (.int .u64 (limb (y1) 2 : Nat))).setCell ⟨(w.heap.size + 1 + 1), 7, none⟩ (.int .u64 (limb (y1) 3 : Nat))).setCell ⟨(w.heap.size + 1 + 1), 8, none⟩ (.int .u64 (limb (z1) 0 : Nat))).setCell ⟨(w.heap.size + 1 + 1), 9, none⟩ (.int .u64 (limb (z1) 1 : Nat))).setCell ⟨(w.heap.size + 1 + 1), 10, none⟩ (.int .u64 (limb (z1) 2 : Nat))).setCell ⟨(w.heap.size + 1 + 1), 11, none⟩ (.int .u64 (limb (z1) 3 : Nat))) := ⟨_, rfl⟩
 rw [← hwz]
 have hwy : wz = putL (w.heap.size + 1 + 1) 0 (ovL x1 y1 z1) w2 := hwz
 have HZ : OwnC wz (w.heap.size + 1 + 1) (ovL x1 y1 z1) ∧ Below w.heap.size w wz := by
  rw [hwy]
  exact ⟨OwnC.put (ovL x1 y1 z1) P2_2.out rfl, below_putL (Nat.le_succ_of_le (Nat.le_succ_of_le (Nat.le_refl _))) (ovL x1 y1 z1) 0 _ W_2.out⟩
 clear hwz hwy
 obtain ⟨hO, HB⟩ := HZ
 obtain ⟨rz, r0, r1, r2, r3, r4, r5, r6, r7, r8, r9, r10, r11, rf⟩ := hO.ov
 refine bodyPost_ret (v := .agg #[.int .u64 (limb (x1) 0 : Nat), .int .u64 (limb (x1) 1 : Nat), .int .u64 (limb (x1) 2 : Nat), .int .u64 (limb (x1) 3 : Nat), .int .u64 (limb (y1) 0 : Nat), .int .u64 (limb (y1) 1 : Nat), .int .u64 (limb (y1) 2 : Nat), .int .u64 (limb (y1) 3 : Nat), .int .u64 (limb (z1) 0 : Nat), .int .u64 (limb (z1) 1 : Nat), .int .u64 (limb (z1) 2 : Nat), .int .u64 (limb (z1) 3 : Nat)]) ?_ rfl ⟨rfl, HB⟩
 simp [results, Tryd.results20, go_sem, r0, r1, r2, r3, r4, r5, r6, r7, r8, r9, r10, r11]
set_option maxRecDepth 100000 in
set_option maxHeartbeats 4000000 in
theorem plus3_same (x1 y1 z1 x2 y2 z2 u v X Y Z : Nat) (hx1 : x1 < PP) (hy1 : y1 < PP) (hz1 : z1 < PP) (hx2 : x2 < PP) (hy2 : y2 < PP) (hz2 : z2 < PP) (h1 : z1 ≠ 0) (h2 : z2 ≠ 0) (hu : u = sM (mM y2 z1) (mM y1 z2)) (hv : v = sM (mM x2 z1) (mM x1 z2)) (h3 : v = 0) (h4 : u = 0) (kt : ∀ w, Calls Tryd.prog 43 #[.agg #[.int .u64 (limb (x1) 0 : Nat), .int .u64 (limb (x1) 1 : Nat), .int .u64 (limb (x1) 2 : Nat), .int .u64 (limb (x1) 3 : Nat), .int .u64 (limb (y1) 0 : Nat), .int .u64 (limb (y1) 1 : Nat), .int .u64 (limb (y1) 2 : Nat), .int .u64 (limb (y1) 3 : Nat), .int .u64 (limb (z1) 0 : Nat), .int .u64 (limb (z1) 1 : Nat), .int .u64 (limb (z1) 2 : Nat), .int .u64 (limb (z1) 3 : Nat)]] w fun e w' => e = .returned (.agg #[.int .u64 (limb (X) 0 : Nat), .int .u64 (limb (X) 1 : Nat), .int .u64 (limb (X) 2 : Nat), .int .u64 (limb (X) 3 : Nat), .int .u64 (limb (Y) 0 : Nat), .int .u64 (limb (Y) 1 : Nat), .int .u64 (limb (Y) 2 : Nat), .int .u64 (limb (Y) 3 : Nat), .int .u64 (limb (Z) 0 : Nat), .int .u64 (limb (Z) 1 : Nat), .int .u64 (limb (Z) 2 : Nat), .int .u64 (limb (Z) 3 : Nat)]) ∧ Below w.heap.size w w') (w : World) :
  Calls Tryd.prog 20 #[.agg #[.int .u64 (limb (x1) 0 : Nat), .int .u64 (limb (x1) 1 : Nat), .int .u64 (limb (x1) 2 : Nat), .int .u64 (limb (x1) 3 : Nat), .int .u64 (limb (y1) 0 : Nat), .int .u64 (limb (y1) 1 : Nat), .int .u64 (limb (y1) 2 : Nat), .int .u64 (limb (y1) 3 : Nat), .int .u64 (limb (z1) 0 : Nat), .int .u64 (limb (z1) 1 : Nat), .int .u64 (limb (z1) 2 : Nat), .int .u64 (limb (z1) 3 : Nat)], .agg #[.int .u64 (limb (x2) 0 : Nat), .int .u64 (limb (x2) 1 : Nat), .int .u64 (limb (x2) 2 : Nat), .int .u64 (limb (x2) 3 : Nat), .int .u64 (limb (y2) 0 : Nat), .int .u64 (limb (y2) 1 : Nat), .int .u64 (limb (y2) 2 : Nat), .int .u64 (limb (y2) 3 : Nat), .int .u64 (limb (z2) 0 : Nat), .int .u64 (limb (z2) 1 : Nat), .int .u64 (limb (z2) 2 : Nat), .int .u64 (limb (z2) 3 : Nat)]] w fun e w' => e = .returned (.agg #[.int .u64 (limb (X) 0 : Nat), .int .u64 (limb (X) 1 : Nat), .int .u64 (limb (X) 2 : Nat), .int .u64 (limb (X) 3 : Nat), .int .u64 (limb (Y) 0 : Nat), .int .u64 (limb (Y) 1 : Nat), .int .u64 (limb (Y) 2 : Nat), .int .u64 (limb (Y) 3 : Nat), .int .u64 (limb (Z) 0 : Nat), .int .u64 (limb (Z) 1 : Nat), .int .u64 (limb (Z) 2 : Nat), .int .u64 (limb (Z) 3 : Nat)]) ∧ Below w.heap.size w w' := by
 have K1 : Hid (rfZ z1 false) := rfZ_of (lt_R hz1) (decide_eq_false h1)
 have K2 : Hid (rfZ z2 false) := rfZ_of (lt_R hz2) (decide_eq_false h2)
 have K3 : Hid (∀ w, Calls Tryd.prog 40 #[] w fun e w' => e = .returned (.agg #[.int .u64 (limb (PP) 0 : Nat), .int .u64 (limb (PP) 1 : Nat), .int .u64 (limb (PP) 2 : Nat), .int .u64 (limb (PP) 3 : Nat), .int .u64 (limb (R256 - (PP)) 0 : Nat), .int .u64 (limb (R256 - (PP)) 1 : Nat), .int .u64 (limb (R256 - (PP)) 2 : Nat), .int .u64 (limb (R256 - (PP)) 3 : Nat)]) ∧ Below w.heap.size w w') := fun w => base2_any w
 obtain ⟨c1, ec1⟩ : ∃ uq, uq = mM y2 z1 := ⟨_, rfl⟩
 have lc1 : c1 < PP := by rw [ec1]; exact mM_lt _ _
 have K4 : Hid (rfM y2 z1 c1) := rfM_of hy2 hz1 ec1
 obtain ⟨c2, ec2⟩ : ∃ uq, uq = mM y1 z2 := ⟨_, rfl⟩
 have lc2 : c2 < PP := by rw [ec2]; exact mM_lt _ _
 have K5 : Hid (rfM y1 z2 c2) := rfM_of hy1 hz2 ec2
 rw [← ec1, ← ec2] at hu
 have lu : u < PP := by rw [hu]; exact sM_lt _ _
 have K6 : Hid (rfS c1 c2 u) := rfS_of lc1 lc2 hu
 obtain ⟨c3, ec3⟩ : ∃ uq, uq = mM x2 z1 := ⟨_, rfl⟩
 have lc3 : c3 < PP := by rw [ec3]; exact mM_lt _ _
 have K7 : Hid (rfM x2 z1 c3) := rfM_of hx2 hz1 ec3
 obtain ⟨c4, ec4⟩ : ∃ uq, uq = mM x1 z2 := ⟨_, rfl⟩
 have lc4 : c4 < PP := by rw [ec4]; exact mM_lt _ _
 have K8 : Hid (rfM x1 z2 c4) := rfM_of hx1 hz2 ec4
 rw [← ec3, ← ec4] at hv
 have lv : v < PP := by rw [hv]; exact sM_lt _ _
 have K9 : Hid (rfS c3 c4 v) := rfS_of lc3 lc4 hv
 have K10 : Hid (rfZ v true) := rfZ_of (lt_R lv) (decide_eq_true h3)
 have K11 : Hid (rfZ u true) := rfZ_of (lt_R lu) (decide_eq_true h4)
 have K12 : Hid (∀ w, Calls Tryd.prog 43 #[.agg #[.int .u64 (limb (x1) 0 : Nat), .int .u64 (limb (x1) 1 : Nat), .int .u64 (limb (x1) 2 : Nat), .int .u64 (limb (x1) 3 : Nat), .int .u64 (limb (y1) 0 : Nat), .int .u64 (limb (y1) 1 : Nat), .int .u64 (limb (y1) 2 : Nat), .int .u64 (limb (y1) 3 : Nat), .int .u64 (limb (z1) 0 : Nat), .int .u64 (limb (z1) 1 : Nat), .int .u64 (limb (z1) 2 : Nat), .int .u64 (limb (z1) 3 : Nat)]] w fun e w' => e = .returned (.agg #[.int .u64 (limb (X) 0 : Nat), .int .u64 (limb (X) 1 : Nat), .int .u64 (limb (X) 2 : Nat), .int .u64 (limb (X) 3 : Nat), .int .u64 (limb (Y) 0 : Nat), .int .u64 (limb (Y) 1 : Nat), .int .u64 (limb (Y) 2 : Nat), .int .u64 (limb (Y) 3 : Nat), .int .u64 (limb (Z) 0 : Nat), .int .u64 (limb (Z) 1 : Nat), .int .u64 (limb (Z) 2 : Nat), .int .u64 (limb (Z) 3 : Nat)]) ∧ Below w.heap.size w w') := kt
 obtain ⟨w0, hw0⟩ : ∃ wq, wq = (((w.alloc (.cells #[.int .u64 (limb (x1) 0 : Nat), .int .u64 (limb (x1) 1 : Nat), .int .u64 (limb (x1) 2 : Nat), .int .u64 (limb (x1) 3 : Nat), .int .u64 (limb (y1) 0 : Nat), .int .u64 (limb (y1) 1 : Nat), .int .u64 (limb (y1) 2 : Nat), .int .u64 (limb (y1) 3 : Nat), .int .u64 (limb (z1) 0 : Nat), .int .u64 (limb (z1) 1 : Nat), .int .u64 (limb (z1) 2 : Nat), .int .u64 (limb (z1) 3 : Nat)] 53)).alloc (.cells #[.int .u64 (limb (x2) 0 : Nat), .int .u64 (limb (x2) 1 : Nat), .int .u64 (limb (x2) 2 : Nat), .int .u64 (limb (x2) 3 : Nat), .int .u64 (limb (y2) 0 : Nat), .int .u64 (limb (y2) 1 : Nat), .int .u64 (limb (y2) 2 : Nat), .int .u64 (limb (y2) 3 : Nat), .int .u64 (limb (z2) 0 : Nat), .int .u64 (limb (z2) 1 : Nat), .int .u64 (limb (z2) 2 : Nat), .int .u64 (limb (z2) 3 : Nat)] 53)).alloc (.cells #[.int .u64 0, .int .u64 0, .int .u64 0, .int .u64 0, .int .u64 0, .int .u64 0, .int .u64 0, .int .u64 0, .int .u64 0, .int .u64 0, .int .u64 0, .int .u64 0] 53)) := ⟨_, rfl⟩
 have H0 : Hid (OwnC w0 (w.heap.size) (ovL x1 y1 z1)) ∧ Hid (OwnC w0 (w.heap.size + 1) (ovL x2 y2 z2)) ∧ Hid (OwnC w0 (w.heap.size + 1 + 1) z12L) ∧ Hid (Below w.heap.size w w0) := by
  rw [hw0]
  exact ⟨(OwnC.new' rfl).alloc.alloc, (OwnC.new' (by simp only [World.size_alloc])).alloc, (OwnC.new' (by simp only [World.size_alloc])), below_alloc0 (below_alloc0 (below_alloc0 (Below.refl _ _) _) _) _⟩
 obtain ⟨P0_0, P1_0, P2_0, W_0⟩ := H0
 clear ec1 lc1 ec2 lc2 hu lu ec3 lc3 ec4 lc4 hv lv hx1 hy1 hz1 hx2 hy2 hz2 h1 h2 h3 h4 kt
 go_enter Tryd.func20, Tryd.ntmps20
 go_upto_region 1 with fail
 rw [← hw0]
 clear hw0
 obtain ⟨fP0z, fP00, fP01, fP02, fP03, fP04, fP05, fP06, fP07, fP08, fP09, fP010, fP011, fP0f⟩ := (P0_0.out).ov
 go_wp2_with fail
 clear fP0z fP00 fP01 fP02 fP03 fP04 fP05 fP06 fP07 fP08 fP09 fP010 fP011 fP0f
 refine (K1.out _).mono ?_
 rintro e w1 ⟨rfl, hq⟩
 have P0_1 : Hid (OwnC w1 (w.heap.size) (ovL x1 y1 z1)) := OwnC.call P0_0.out hq
 have P1_1 : Hid (OwnC w1 (w.heap.size + 1) (ovL x2 y2 z2)) := OwnC.call P1_0.out hq
 have P2_1 : Hid (OwnC w1 (w.heap.size + 1 + 1) z12L) := OwnC.call P2_0.out hq
 have W_1 : Hid (Below w.heap.size w w1) := below_call0 W_0.out hq
 clear hq P0_0 P1_0 P2_0 W_0
 go_upto_region 3 with fail
 obtain ⟨fP1z, fP10, fP11, fP12, fP13, fP14, fP15, fP16, fP17, fP18, fP19, fP110, fP111, fP1f⟩ := (P1_1.out).ov
 go_wp2_with fail
 clear fP1z fP10 fP11 fP12 fP13 fP14 fP15 fP16 fP17 fP18 fP19 fP110 fP111 fP1f
 refine (K2.out _).mono ?_
 rintro e w2 ⟨rfl, hq⟩
 have P0_2 : Hid (OwnC w2 (w.heap.size) (ovL x1 y1 z1)) := OwnC.call P0_1.out hq
 have P1_2 : Hid (OwnC w2 (w.heap.size + 1) (ovL x2 y2 z2)) := OwnC.call P1_1.out hq
 have P2_2 : Hid (OwnC w2 (w.heap.size + 1 + 1) z12L) := OwnC.call P2_1.out hq
 have W_2 : Hid (Below w.heap.size w w2) := below_call0 W_1.out hq
 clear hq P0_1 P1_1 P2_1 W_1
 go_upto_region 5 with fail
 go_upto_region 5 with fail
 go_cut [5] (fun vq5 wx => ∃ bk5, vq5 = .pointer (some ⟨bk5, 0, none⟩) ∧ w2.heap.size ≤ bk5 ∧ OwnC wx bk5 (fvL PP) ∧ Below w2.heap.size w2 wx)
 case first =>
  go_wp2_with fail
  refine (K3.out _).mono ?_
  rintro e wx0 ⟨rfl, hq0⟩
  go_wp2_with fail
  go_meet
  exact ⟨_, rfl, hq0.size, OwnC.new' rfl, below_alloc0 hq0 _⟩
 case rest =>
  obtain ⟨bk5, rfl, hle, hO, hB⟩ := hcut
  have P0_3 : Hid (OwnC wc (w.heap.size) (ovL x1 y1 z1)) := OwnC.call P0_2.out hB
  have P1_3 : Hid (OwnC wc (w.heap.size + 1) (ovL x2 y2 z2)) := OwnC.call P1_2.out hB
  have P2_3 : Hid (OwnC wc (w.heap.size + 1 + 1) z12L) := OwnC.call P2_2.out hB
  have W_3 : Hid (Below w.heap.size w wc) := below_call0 W_2.out hB
  have V5_3 : Hid (OwnC wc bk5 (fvL PP)) := hO
  clear hB P0_2 P1_2 P2_2 W_2
  clear hO hle
  generalize wc = w3 at P0_3 P1_3 P2_3 W_3 V5_3 ⊢
  go_upto_region 6 with fail
  go_cut [6] (fun vq6 wx => ∃ bk6, vq6 = .pointer (some ⟨bk6, 0, none⟩) ∧ w3.heap.size ≤ bk6 ∧ OwnC wx bk6 (numL u) ∧ Below w3.heap.size w3 wx)
  case first =>
   refine wp_region_I 15 0 14 [?v0r6, ?v1r6, ?v2r6, ?v3r6, ?v4r6, ?v5r6, ?v6r6, ?v7r6, ?v8r6, ?v9r6, ?v10r6, ?v11r6, ?v12r6, ?v13r6, undef] [some 22, some 23, some 24, some 25, some 26, some 27, some 28, some 29, some 30, some 31, some 32, some 33, some 34, some 35, some 6] (fun w b => OwnC w b z4L) ?Ar6 ?oar6 (by kernel_rfl) (by kernel_rfl) (by kernel_rfl) rfl ?hAr6 (fun _ _ _ h hb => h.call hb) ?hopr6 ?hoar6 (by decide) ?halr6 ?hfinr6
   case hAr6 =>
    intro bq
    simp only [List.set_cons_zero, List.set_cons_succ, List.zip_cons_cons, List.zip_nil_right, fillD, Act.put, List.setIfInBounds_toArray]
    exact rfl
   case hopr6 =>
    refine ⟨?_, ?_, ?_, ?_, ?_, ?_, ?_, ?_, ?_, ?_, ?_, ?_, ?_, ?_, fun h => absurd rfl h, trivial⟩
    iterate 2 focus (intro _ bq wx hS; refine OpTo.yields rfl ?_; obtain ⟨_, _, _, _, _, _, _, _, _, _⟩ := (OwnC.call V5_3.out hS).fv; clear hS; go_simp; try with_reducible rfl)
    focus (intro _ bq wx hS; refine OpTo.yields rfl ?_; clear hS; go_simp; try with_reducible rfl)
    focus (intro _ bq wx hS; refine OpTo.yields rfl ?_; obtain ⟨_, _, _, _, _, _, _, _, _, _, _, _, _, _⟩ := (OwnC.call P1_3.out hS).ov; clear hS; go_simp; try with_reducible rfl)
    focus (intro _ bq wx hS; refine OpTo.yields rfl ?_; clear hS; go_simp; try with_reducible rfl)
    focus (intro _ bq wx hS; refine OpTo.yields rfl ?_; obtain ⟨_, _, _, _, _, _, _, _, _, _, _, _, _, _⟩ := (OwnC.call P0_3.out hS).ov; clear hS; go_simp; try with_reducible rfl)
    focus (intro _ bq wx hS; refine OpTo.calls rfl ?_ ?_; rotate_left; intro K hK; go_simp; refine (K4.out _).mono ?_; rintro e w' ⟨rfl, hq⟩; exact hK w' hq; exact rfl)
    focus (intro _ bq wx hS; refine OpTo.yields rfl ?_; obtain ⟨_, _, _, _, _, _, _, _, _, _⟩ := (OwnC.call V5_3.out hS).fv; clear hS; go_simp; try with_reducible rfl)
    focus (intro _ bq wx hS; refine OpTo.yields rfl ?_; clear hS; go_simp; try with_reducible rfl)
    focus (intro _ bq wx hS; refine OpTo.yields rfl ?_; obtain ⟨_, _, _, _, _, _, _, _, _, _, _, _, _, _⟩ := (OwnC.call P0_3.out hS).ov; clear hS; go_simp; try with_reducible rfl)
    focus (intro _ bq wx hS; refine OpTo.yields rfl ?_; clear hS; go_simp; try with_reducible rfl)
    focus (intro _ bq wx hS; refine OpTo.yields rfl ?_; obtain ⟨_, _, _, _, _, _, _, _, _, _, _, _, _, _⟩ := (OwnC.call P1_3.out hS).ov; clear hS; go_simp; try with_reducible rfl)
    focus (intro _ bq wx hS; refine OpTo.calls rfl ?_ ?_; rotate_left; intro K hK; go_simp; refine (K5.out _).mono ?_; rintro e w' ⟨rfl, hq⟩; exact hK w' hq; exact rfl)
    focus (intro _ bq wx hS; refine OpTo.calls rfl ?_ ?_; rotate_left; intro K hK; go_simp; refine (K6.out _).mono ?_; rintro e w' ⟨rfl, hq⟩; exact hK w' hq; exact rfl)
   case hoar6 =>
    rw [List.getElem?_toArray]
    exact rfl
   case halr6 =>
    intro bq wx hS
    refine OpTo.make (ob := ?obr6) (B := fun w b => OwnC w b z4L) hS rfl ?runr6 ?ownr6
    case runr6 =>
     go_simp
     try with_reducible rfl
    case ownr6 => exact OwnC.new' rfl
   case hfinr6 =>
    intro bq wx hS hB hle
    refine tail_at (o := ?ofr6_15) ?hir6_15 ?hwr6_15 ?_
    case hir6_15 => rw [List.getElem?_toArray]; exact rfl
    case hwr6_15 => exact rfl
    obtain ⟨gz, g0, g1, g2, g3, gf⟩ := hB.z4
    go_simp
    clear gz g0 g1 g2 g3 gf
    refine tail_end ?_
    go_wp2_with fail
    go_meet
    exact ⟨bq, rfl, hle, OwnC.put (numL u) hB rfl, below_putL hle (numL u) 0 _ hS⟩
  case rest =>
   obtain ⟨bk6, rfl, hle, hO, hB⟩ := hcut
   rename_i un uo up uq ur us ut uu uv uw ux uy uz uA uB uC uD uE uF uG uH uI uJ uK uL uM uN uO uP uQ uR uS uT uU uV uW uX uY uZ va vb vc vd ve vf vg vh vi vj vk vl vm vn vo vp vq vr vs vt vu vv vw vx vy vz vA vB vC vD vE vF vG vH vI vJ vK vL vM vN vO vP vQ vR vS vT vU vV vW vX vY vZ za zb zc zd ze zf zg zh zi zj zk zl zm zn zo zp zq zr zs zt Kq3 hKq3
   clear un uo up uq ur us ut uu uv uw ux uy uz uA uB uC uD uE uF uG uH uI uJ uK uL uM uN uO uP uQ uR uS uT uU uV uW uX uY uZ va vb vc vd ve vf vg vh vi vj vk vl vm vn vo vp vq vr vs vt vu vv vw vx vy vz vA vB vC vD vE vF vG vH vI vJ vK vL vM vN vO vP vQ vR vS vT vU vV vW vX vY vZ za zb zc zd ze zf zg zh zi zj zk zl zm zn zo zp zq zr zs zt
   have P0_4 : Hid (OwnC wc (w.heap.size) (ovL x1 y1 z1)) := OwnC.call P0_3.out hB
   have P1_4 : Hid (OwnC wc (w.heap.size + 1) (ovL x2 y2 z2)) := OwnC.call P1_3.out hB
   have P2_4 : Hid (OwnC wc (w.heap.size + 1 + 1) z12L) := OwnC.call P2_3.out hB
   have W_4 : Hid (Below w.heap.size w wc) := below_call0 W_3.out hB
   have V5_4 : Hid (OwnC wc bk5 (fvL PP)) := OwnC.call V5_3.out hB
   have V6_4 : Hid (OwnC wc bk6 (numL u)) := hO
   clear hB P0_3 P1_3 P2_3 W_3 V5_3
   clear hO hle
   generalize wc = w4 at P0_4 P1_4 P2_4 W_4 V5_4 V6_4 ⊢
   go_upto_region 7 with fail
   go_cut [7] (fun vq7 wx => ∃ bk7, vq7 = .pointer (some ⟨bk7, 0, none⟩) ∧ w4.heap.size ≤ bk7 ∧ OwnC wx bk7 (numL v) ∧ Below w4.heap.size w4 wx)
   case first =>
    refine wp_region_I 15 0 14 [?v0r7, ?v1r7, ?v2r7, ?v3r7, ?v4r7, ?v5r7, ?v6r7, ?v7r7, ?v8r7, ?v9r7, ?v10r7, ?v11r7, ?v12r7, ?v13r7, undef] [some 36, some 37, some 38, some 39, some 40, some 41, some 42, some 43, some 44, some 45, some 46, some 47, some 48, some 49, some 7] (fun w b => OwnC w b z4L) ?Ar7 ?oar7 (by kernel_rfl) (by kernel_rfl) (by kernel_rfl) rfl ?hAr7 (fun _ _ _ h hb => h.call hb) ?hopr7 ?hoar7 (by decide) ?halr7 ?hfinr7
    case hAr7 =>
     intro bq
     simp only [List.set_cons_zero, List.set_cons_succ, List.zip_cons_cons, List.zip_nil_right, fillD, Act.put, List.setIfInBounds_toArray]
     exact rfl
    case hopr7 =>
     refine ⟨?_, ?_, ?_, ?_, ?_, ?_, ?_, ?_, ?_, ?_, ?_, ?_, ?_, ?_, fun h => absurd rfl h, trivial⟩
     iterate 2 focus (intro _ bq wx hS; refine OpTo.yields rfl ?_; obtain ⟨_, _, _, _, _, _, _, _, _, _⟩ := (OwnC.call V5_4.out hS).fv; clear hS; go_simp; try with_reducible rfl)
     focus (intro _ bq wx hS; refine OpTo.yields rfl ?_; clear hS; go_simp; try with_reducible rfl)
     focus (intro _ bq wx hS; refine OpTo.yields rfl ?_; obtain ⟨_, _, _, _, _, _, _, _, _, _, _, _, _, _⟩ := (OwnC.call P1_4.out hS).ov; clear hS; go_simp; try with_reducible rfl)
     focus (intro _ bq wx hS; refine OpTo.yields rfl ?_; clear hS; go_simp; try with_reducible rfl)
     focus (intro _ bq wx hS; refine OpTo.yields rfl ?_; obtain ⟨_, _, _, _, _, _, _, _, _, _, _, _, _, _⟩ := (OwnC.call P0_4.out hS).ov; clear hS; go_simp; try with_reducible rfl)
     focus (intro _ bq wx hS; refine OpTo.calls rfl ?_ ?_; rotate_left; intro K hK; go_simp; refine (K7.out _).mono ?_; rintro e w' ⟨rfl, hq⟩; exact hK w' hq; exact rfl)
     focus (intro _ bq wx hS; refine OpTo.yields rfl ?_; obtain ⟨_, _, _, _, _, _, _, _, _, _⟩ := (OwnC.call V5_4.out hS).fv; clear hS; go_simp; try with_reducible rfl)
     focus (intro _ bq wx hS; refine OpTo.yields rfl ?_; clear hS; go_simp; try with_reducible rfl)
     focus (intro _ bq wx hS; refine OpTo.yields rfl ?_; obtain ⟨_, _, _, _, _, _, _, _, _, _, _, _, _, _⟩ := (OwnC.call P0_4.out hS).ov; clear hS; go_simp; try with_reducible rfl)
     focus (intro _ bq wx hS; refine OpTo.yields rfl ?_; clear hS; go_simp; try with_reducible rfl)
     focus (intro _ bq wx hS; refine OpTo.yields rfl ?_; obtain ⟨_, _, _, _, _, _, _, _, _, _, _, _, _, _⟩ := (OwnC.call P1_4.out hS).ov; clear hS; go_simp; try with_reducible rfl)
     focus (intro _ bq wx hS; refine OpTo.calls rfl ?_ ?_; rotate_left; intro K hK; go_simp; refine (K8.out _).mono ?_; rintro e w' ⟨rfl, hq⟩; exact hK w' hq; exact rfl)
     focus (intro _ bq wx hS; refine OpTo.calls rfl ?_ ?_; rotate_left; intro K hK; go_simp; refine (K9.out _).mono ?_; rintro e w' ⟨rfl, hq⟩; exact hK w' hq; exact rfl)
    case hoar7 =>
     rw [List.getElem?_toArray]
     exact rfl
    case halr7 =>
     intro bq wx hS
     refine OpTo.make (ob := ?obr7) (B := fun w b => OwnC w b z4L) hS rfl ?runr7 ?ownr7
     case runr7 =>
      go_simp
      try with_reducible rfl
     case ownr7 => exact OwnC.new' rfl
    case hfinr7 =>
     intro bq wx hS hB hle
     refine tail_at (o := ?ofr7_15) ?hir7_15 ?hwr7_15 ?_
     case hir7_15 => rw [List.getElem?_toArray]; exact rfl
     case hwr7_15 => exact rfl
     obtain ⟨gz, g0, g1, g2, g3, gf⟩ := hB.z4
     go_simp
     clear gz g0 g1 g2 g3 gf
     refine tail_end ?_
     go_wp2_with fail
     go_meet
     exact ⟨bq, rfl, hle, OwnC.put (numL v) hB rfl, below_putL hle (numL v) 0 _ hS⟩
   case rest =>
    obtain ⟨bk7, rfl, hle, hO, hB⟩ := hcut
    rename_i un uo up uq ur us ut uu uv uw ux uy uz uA uB uC uD uE uF uG uH uI uJ uK uL uM uN uO uP uQ uR uS uT uU uV uW uX uY uZ va vb vc vd ve vf vg vh vi vj vk vl vm vn vo vp vq vr vs vt vu vv vw vx vy vz vA vB vC vD vE vF vG vH vI vJ vK vL vM vN vO vP vQ vR vS vT vU vV vW vX vY vZ za zb zc zd ze zf zg zh zi zj zk zl zm zn zo zp zq zr zs zt Kq4 hKq4
    clear un uo up uq ur us ut uu uv uw ux uy uz uA uB uC uD uE uF uG uH uI uJ uK uL uM uN uO uP uQ uR uS uT uU uV uW uX uY uZ va vb vc vd ve vf vg vh vi vj vk vl vm vn vo vp vq vr vs vt vu vv vw vx vy vz vA vB vC vD vE vF vG vH vI vJ vK vL vM vN vO vP vQ vR vS vT vU vV vW vX vY vZ za zb zc zd ze zf zg zh zi zj zk zl zm zn zo zp zq zr zs zt
    have P0_5 : Hid (OwnC wc (w.heap.size) (ovL x1 y1 z1)) := OwnC.call P0_4.out hB
    have P1_5 : Hid (OwnC wc (w.heap.size + 1) (ovL x2 y2 z2)) := OwnC.call P1_4.out hB
    have P2_5 : Hid (OwnC wc (w.heap.size + 1 + 1) z12L) := OwnC.call P2_4.out hB
    have W_5 : Hid (Below w.heap.size w wc) := below_call0 W_4.out hB
    have V5_5 : Hid (OwnC wc bk5 (fvL PP)) := OwnC.call V5_4.out hB
    have V6_5 : Hid (OwnC wc bk6 (numL u)) := OwnC.call V6_4.out hB
    have V7_5 : Hid (OwnC wc bk7 (numL v)) := hO
    clear hB P0_4 P1_4 P2_4 W_4 V5_4 V6_4
    clear hO hle
    generalize wc = w5 at P0_5 P1_5 P2_5 W_5 V5_5 V6_5 V7_5 ⊢
    obtain ⟨fV7z, fV70, fV71, fV72, fV73, fV7f⟩ := (V7_5.out).num
    go_wp2_with fail
    clear fV7z fV70 fV71 fV72 fV73 fV7f
    refine (K10.out _).mono ?_
    rintro e w6 ⟨rfl, hq⟩
    have P0_6 : Hid (OwnC w6 (w.heap.size) (ovL x1 y1 z1)) := OwnC.call P0_5.out hq
    have P1_6 : Hid (OwnC w6 (w.heap.size + 1) (ovL x2 y2 z2)) := OwnC.call P1_5.out hq
    have P2_6 : Hid (OwnC w6 (w.heap.size + 1 + 1) z12L) := OwnC.call P2_5.out hq
    have W_6 : Hid (Below w.heap.size w w6) := below_call0 W_5.out hq
    have V5_6 : Hid (OwnC w6 bk5 (fvL PP)) := OwnC.call V5_5.out hq
    have V6_6 : Hid (OwnC w6 bk6 (numL u)) := OwnC.call V6_5.out hq
    have V7_6 : Hid (OwnC w6 bk7 (numL v)) := OwnC.call V7_5.out hq
    clear hq P0_5 P1_5 P2_5 W_5 V5_5 V6_5 V7_5
    go_upto_region 9 with fail
    obtain ⟨fV6z, fV60, fV61, fV62, fV63, fV6f⟩ := (V6_6.out).num
    go_wp2_with fail
    clear fV6z fV60 fV61 fV62 fV63 fV6f
    refine (K11.out _).mono ?_
    rintro e w7 ⟨rfl, hq⟩
    have P0_7 : Hid (OwnC w7 (w.heap.size) (ovL x1 y1 z1)) := OwnC.call P0_6.out hq
    have P1_7 : Hid (OwnC w7 (w.heap.size + 1) (ovL x2 y2 z2)) := OwnC.call P1_6.out hq
    have P2_7 : Hid (OwnC w7 (w.heap.size + 1 + 1) z12L) := OwnC.call P2_6.out hq
    have W_7 : Hid (Below w.heap.size w w7) := below_call0 W_6.out hq
    have V5_7 : Hid (OwnC w7 bk5 (fvL PP)) := OwnC.call V5_6.out hq
    have V6_7 : Hid (OwnC w7 bk6 (numL u)) := OwnC.call V6_6.out hq
    have V7_7 : Hid (OwnC w7 bk7 (numL v)) := OwnC.call V7_6.out hq
    clear hq P0_6 P1_6 P2_6 W_6 V5_6 V6_6 V7_6
    obtain ⟨fP0z, fP00, fP01, fP02, fP03, fP04, fP05, fP06, fP07, fP08, fP09, fP010, fP011, fP0f⟩ := (P0_7.out).ov
    obtain ⟨fP2z, fP20, fP21, fP22, fP23, fP24, fP25, fP26, fP27, fP28, fP29, fP210, fP211, fP2f⟩ := (P2_7.out).z12
    go_wp2_with fail
    clear fP0z fP00 fP01 fP02 fP03 fP04 fP05 fP06 fP07 fP08 fP09 fP010 fP011 fP0f fP2z fP20 fP21 fP22 fP23 fP24 fP25 fP26 fP27 fP28 fP29 fP210 fP211 fP2f
    refine (K12.out _).mono ?_
    rintro e w8 ⟨rfl, hq⟩
    have P0_8 : Hid (OwnC w8 (w.heap.size) (ovL x1 y1 z1)) := OwnC.call P0_7.out hq
    have P1_8 : Hid (OwnC w8 (w.heap.size + 1) (ovL x2 y2 z2)) := OwnC.call P1_7.out hq
    have P2_8 : Hid (OwnC w8 (w.heap.size + 1 + 1) z12L) := OwnC.call P2_7.out hq
    have W_8 : Hid (Below w.heap.size w w8) := below_call0 W_7.out hq
    have V5_8 : Hid (OwnC w8 bk5 (fvL PP)) := OwnC.call V5_7.out hq
    have V6_8 : Hid (OwnC w8 bk6 (numL u)) := OwnC.call V6_7.out hq
    have V7_8 : Hid (OwnC w8 bk7 (numL v)) := OwnC.call V7_7.out hq
    clear hq P0_7 P1_7 P2_7 W_7 V5_7 V6_7 V7_7
    obtain ⟨fP2z, fP20, fP21, fP22, fP23, fP24, fP25, fP26, fP27, fP28, fP29, fP210, fP211, fP2f⟩ := (P2_8.out).z12
    go_wp2_with fail
    clear fP2z fP20 fP21 fP22 fP23 fP24 fP25 fP26 fP27 fP28 fP29 fP210 fP211 fP2f
    obtain ⟨wz, hwz⟩ : ∃ wq, wq = ((((((((((((w8.setCell ⟨(w.heap.size + 1 + 1), 0, none⟩ (.int .u64 (limb (X) 0 : Nat))).setCell ⟨(w.heap.size + 1 + 1), 1, none⟩ (.int .u64 (limb (X) 1 : Nat))).setCell ⟨(w.heap.size + 1 + 1), 2, none⟩ (.int .u64 (limb (X) 2 : Nat))).setCell ⟨(w.heap.size + 1 + 1), 3, none⟩ (.int .u64 (limb (X) 3 : Nat))).setCell ⟨(w.heap.size + 1 + 1), 4, none⟩ (.int .u64 (limb (Y) 0 : Nat))).setCell ⟨(w.heap.size + 1 + 1), 5, none⟩ (.int .u64 (limb (Y) 1 : Nat))).setCell ⟨(w.heap.size + 1 + 1), 6, none⟩ (.int .u64 (limb (Y) 2 : Nat))).setCell ⟨(w.heap.size + 1 + 1), 7, none⟩ (.int .u64 (limb (Y) 3 : Nat))).setCell ⟨(w.heap.size + 1 + 1), 8, none⟩ (.int .u64 (limb (Z) 0 : Nat))).setCell ⟨(w.heap.size + 1 + 1), 9, none⟩ (.int .u64 (limb (Z) 1 : Nat))).setCell ⟨(w.heap.size + 1 + 1), 10, none⟩ (.int .u64 (limb (Z) 2 : Nat))).setCell ⟨(w.heap.size + 1 + 1), 11, none⟩ (.int .u64 (limb (Z) 3 : Nat))) := ⟨_, rfl⟩
    rw [← hwz]
    have hwy : wz = putL (w.heap.size + 1 + 1) 0 (ovL X Y Z) w8 := hwz
    have HZ : OwnC wz (w.heap.size + 1 + 1) (ovL X Y Z) ∧ Below w.heap.size w wz := by
     rw [hwy]
     exact ⟨OwnC.put (ovL X Y Z) P2_8.out rfl, below_putL (Nat.le_succ_of_le (Nat.le_succ_of_le (Nat.le_refl _))) (ovL X Y Z) 0 _ W_8.out⟩
    clear hwz hwy
    obtain ⟨hO, HB⟩ := HZ
    obtain ⟨rz, r0, r1, r2, r3, r4, r5, r6, r7, r8, r9, r10, r11, rf⟩ := hO.ov
    refine bodyPost_ret (v := .agg #[.int .u64 (limb (X) 0 : Nat), .int .u64 (limb (X) 1 : Nat), .int .u64 (limb (X) 2 : Nat), .int .u64 (limb (X) 3 : Nat), .int .u64 (limb (Y) 0 : Nat), .int .u64 (limb (Y) 1 : Nat), .int .u64 (limb (Y) 2 : Nat), .int .u64 (limb (Y) 3 : Nat), .int .u64 (limb (Z) 0 : Nat), .int .u64 (limb (Z) 1 : Nat), .int .u64 (limb (Z) 2 : Nat), .int .u64 (limb (Z) 3 : Nat)]) ?_ rfl ⟨rfl, HB⟩
    simp [results, Tryd.results20, go_sem, r0, r1, r2, r3, r4, r5, r6, r7, r8, r9, r10, r11]
set_option maxRecDepth 100000 in
set_option maxHeartbeats 4000000 in
theorem plus3_opp (x1 y1 z1 x2 y2 z2 u v : Nat) (hx1 : x1 < PP) (hy1 : y1 < PP) (hz1 : z1 < PP) (hx2 : x2 < PP) (hy2 : y2 < PP) (hz2 : z2 < PP) (h1 : z1 ≠ 0) (h2 : z2 ≠ 0) (hu : u = sM (mM y2 z1) (mM y1 z2)) (hv : v = sM (mM x2 z1) (mM x1 z2)) (h3 : v = 0) (h4 : u ≠ 0) (w : World) :
  Calls Tryd.prog 20 #[.agg #[.int .u64 (limb (x1) 0 : Nat), .int .u64 (limb (x1) 1 : Nat), .int .u64 (limb (x1) 2 : Nat), .int .u64 (limb (x1) 3 : Nat), .int .u64 (limb (y1) 0 : Nat), .int .u64 (limb (y1) 1 : Nat), .int .u64 (limb (y1) 2 : Nat), .int .u64 (limb (y1) 3 : Nat), .int .u64 (limb (z1) 0 : Nat), .int .u64 (limb (z1) 1 : Nat), .int .u64 (limb (z1) 2 : Nat), .int .u64 (limb (z1) 3 : Nat)], .agg #[.int .u64 (limb (x2) 0 : Nat), .int .u64 (limb (x2) 1 : Nat), .int .u64 (limb (x2) 2 : Nat), .int .u64 (limb (x2) 3 : Nat), .int .u64 (limb (y2) 0 : Nat), .int .u64 (limb (y2) 1 : Nat), .int .u64 (limb (y2) 2 : Nat), .int .u64 (limb (y2) 3 : Nat), .int .u64 (limb (z2) 0 : Nat), .int .u64 (limb (z2) 1 : Nat), .int .u64 (limb (z2) 2 : Nat), .int .u64 (limb (z2) 3 : Nat)]] w fun e w' => e = .returned (.agg #[.int .u64 0, .int .u64 0, .int .u64 0, .int .u64 0, .int .u64 1, .int .u64 0, .int .u64 0, .int .u64 0, .int .u64 0, .int .u64 0, .int .u64 0, .int .u64 0]) ∧ Below w.heap.size w w' := by
 have K1 : Hid (rfZ z1 false) := rfZ_of (lt_R hz1) (decide_eq_false h1)
 have K2 : Hid (rfZ z2 false) := rfZ_of (lt_R hz2) (decide_eq_false h2)
 have K3 : Hid (∀ w, Calls Tryd.prog 40 #[] w fun e w' => e = .returned (.agg #[.int .u64 (limb (PP) 0 : Nat), .int .u64 (limb (PP) 1 : Nat), .int .u64 (limb (PP) 2 : Nat), .int .u64 (limb (PP) 3 : Nat), .int .u64 (limb (R256 - (PP)) 0 : Nat), .int .u64 (limb (R256 - (PP)) 1 : Nat), .int .u64 (limb (R256 - (PP)) 2 : Nat), .int .u64 (limb (R256 - (PP)) 3 : Nat)]) ∧ Below w.heap.size w w') := fun w => base2_any w
 obtain ⟨c1, ec1⟩ : ∃ uq, uq = mM y2 z1 := ⟨_, rfl⟩
 have lc1 : c1 < PP := by rw [ec1]; exact mM_lt _ _
 have K4 : Hid (rfM y2 z1 c1) := rfM_of hy2 hz1 ec1
 obtain ⟨c2, ec2⟩ : ∃ uq, uq = mM y1 z2 := ⟨_, rfl⟩
 have lc2 : c2 < PP := by rw [ec2]; exact mM_lt _ _
 have K5 : Hid (rfM y1 z2 c2) := rfM_of hy1 hz2 ec2
 rw [← ec1, ← ec2] at hu
 have lu : u < PP := by rw [hu]; exact sM_lt _ _
 have K6 : Hid (rfS c1 c2 u) := rfS_of lc1 lc2 hu
 obtain ⟨c3, ec3⟩ : ∃ uq, uq = mM x2 z1 := ⟨_, rfl⟩
 have lc3 : c3 < PP := by rw [ec3]; exact mM_lt _ _
 have K7 : Hid (rfM x2 z1 c3) := rfM_of hx2 hz1 ec3
 obtain ⟨c4, ec4⟩ : ∃ uq, uq = mM x1 z2 := ⟨_, rfl⟩
 have lc4 : c4 < PP := by rw [ec4]; exact mM_lt _ _
 have K8 : Hid (rfM x1 z2 c4) := rfM_of hx1 hz2 ec4
 rw [← ec3, ← ec4] at hv
 have lv : v < PP := by rw [hv]; exact sM_lt _ _
 have K9 : Hid (rfS c3 c4 v) := rfS_of lc3 lc4 hv
 have K10 : Hid (rfZ v true) := rfZ_of (lt_R lv) (decide_eq_true h3)
 have K11 : Hid (rfZ u false) := rfZ_of (lt_R lu) (decide_eq_false h4)
 obtain ⟨w0, hw0⟩ : ∃ wq, wq = (((w.alloc (.cells #[.int .u64 (limb (x1) 0 : Nat), .int .u64 (limb (x1) 1 : Nat), .int .u64 (limb (x1) 2 : Nat), .int .u64 (limb (x1) 3 : Nat), .int .u64 (limb (y1) 0 : Nat), .int .u64 (limb (y1) 1 : Nat), .int .u64 (limb (y1) 2 : Nat), .int .u64 (limb (y1) 3 : Nat), .int .u64 (limb (z1) 0 : Nat), .int .u64 (limb (z1) 1 : Nat), .int .u64 (limb (z1) 2 : Nat), .int .u64 (limb (z1) 3 : Nat)] 53)).alloc (.cells #[.int .u64 (limb (x2) 0 : Nat), .int .u64 (limb (x2) 1 : Nat), .int .u64 (limb (x2) 2 : Nat), .int .u64 (limb (x2) 3 : Nat), .int .u64 (limb (y2) 0 : Nat), .int .u64 (limb (y2) 1 : Nat), .int .u64 (limb (y2) 2 : Nat), .int .u64 (limb (y2) 3 : Nat), .int .u64 (limb (z2) 0 : Nat), .int .u64 (limb (z2) 1 : Nat), .int .u64 (limb (z2) 2 : Nat), .int .u64 (limb (z2) 3 : Nat)] 53)).alloc (.cells #[.int .u64 0, .int .u64 0, .int .u64 0, .int .u64 0, .int .u64 0, .int .u64 0, .int .u64 0, .int .u64 0, .int .u64 0, .int .u64 0, .int .u64 0, .int .u64 0] 53)) := ⟨_, rfl⟩
 have H0 : Hid (OwnC w0 (w.heap.size) (ovL x1 y1 z1)) ∧ Hid (OwnC w0 (w.heap.size + 1) (ovL x2 y2 z2)) ∧ Hid (OwnC w0 (w.heap.size + 1 + 1) z12L) ∧ Hid (Below w.heap.size w w0) := by
  rw [hw0]
  exact ⟨(OwnC.new' rfl).alloc.alloc, (OwnC.new' (by simp only [World.size_alloc])).alloc, (OwnC.new' (by simp only [World.size_alloc])), below_alloc0 (below_alloc0 (below_alloc0 (Below.refl _ _) _) _) _⟩
 obtain ⟨P0_0, P1_0, P2_0, W_0⟩ := H0
 clear ec1 lc1 ec2 lc2 hu lu ec3 lc3 ec4 lc4 hv lv hx1 hy1 hz1 hx2 hy2 hz2 h1 h2 h3 h4
 go_enter Tryd.func20, Tryd.ntmps20
 go_upto_region 1 with fail
 rw [← hw0]
 clear hw0
 obtain ⟨fP0z, fP00, fP01, fP02, fP03, fP04, fP05, fP06, fP07, fP08, fP09, fP010, fP011, fP0f⟩ := (P0_0.out).ov
 go_wp2_with fail
 clear fP0z fP00 fP01 fP02 fP03 fP04 fP05 fP06 fP07 fP08 fP09 fP010 fP011 fP0f
 refine (K1.out _).mono ?_
 rintro e w1 ⟨rfl, hq⟩
 have P0_1 : Hid (OwnC w1 (w.heap.size) (ovL x1 y1 z1)) := OwnC.call P0_0.out hq
 have P1_1 : Hid (OwnC w1 (w.heap.size + 1) (ovL x2 y2 z2)) := OwnC.call P1_0.out hq
 have P2_1 : Hid (OwnC w1 (w.heap.size + 1 + 1) z12L) := OwnC.call P2_0.out hq
 have W_1 : Hid (Below w.heap.size w w1) := below_call0 W_0.out hq
 clear hq P0_0 P1_0 P2_0 W_0
 go_upto_region 3 with fail
 obtain ⟨fP1z, fP10, fP11, fP12, fP13, fP14, fP15, fP16, fP17, fP18, fP19, fP110, fP111, fP1f⟩ := (P1_1.out).ov
 go_wp2_with fail
 clear fP1z fP10 fP11 fP12 fP13 fP14 fP15 fP16 fP17 fP18 fP19 fP110 fP111 fP1f
 refine (K2.out _).mono ?_
 rintro e w2 ⟨rfl, hq⟩
 have P0_2 : Hid (OwnC w2 (w.heap.size) (ovL x1 y1 z1)) := OwnC.call P0_1.out hq
 have P1_2 : Hid (OwnC w2 (w.heap.size + 1) (ovL x2 y2 z2)) := OwnC.call P1_1.out hq
 have P2_2 : Hid (OwnC w2 (w.heap.size + 1 + 1) z12L) := OwnC.call P2_1.out hq
 have W_2 : Hid (Below w.heap.size w w2) := below_call0 W_1.out hq
 clear hq P0_1 P1_1 P2_1 W_1
 go_upto_region 5 with fail
 go_upto_region 5 with fail
 go_cut [5] (fun vq5 wx => ∃ bk5, vq5 = .pointer (some ⟨bk5, 0, none⟩) ∧ w2.heap.size ≤ bk5 ∧ OwnC wx bk5 (fvL PP) ∧ Below w2.heap.size w2 wx)
 case first =>
  go_wp2_with fail
  refine (K3.out _).mono ?_
  rintro e wx0 ⟨rfl, hq0⟩
  go_wp2_with fail
  go_meet
  exact ⟨_, rfl, hq0.size, OwnC.new' rfl, below_alloc0 hq0 _⟩
 case rest =>
  obtain ⟨bk5, rfl, hle, hO, hB⟩ := hcut
  have P0_3 : Hid (OwnC wc (w.heap.size) (ovL x1 y1 z1)) := OwnC.call P0_2.out hB
  have P1_3 : Hid (OwnC wc (w.heap.size + 1) (ovL x2 y2 z2)) := OwnC.call P1_2.out hB
  have P2_3 : Hid (OwnC wc (w.heap.size + 1 + 1) z12L) := OwnC.call P2_2.out hB
  have W_3 : Hid (Below w.heap.size w wc) := below_call0 W_2.out hB
  have V5_3 : Hid (OwnC wc bk5 (fvL PP)) := hO
  clear hB P0_2 P1_2 P2_2 W_2
  clear hO hle
  generalize wc = w3 at P0_3 P1_3 P2_3 W_3 V5_3 ⊢
  go_upto_region 6 with fail
  go_cut [6] (fun vq6 wx => ∃ bk6, vq6 = .pointer (some ⟨bk6, 0, none⟩) ∧ w3.heap.size ≤ bk6 ∧ OwnC wx bk6 (numL u) ∧ Below w3.heap.size w3 wx)
  case first =>
   refine wp_region_I 15 0 14 [?v0r6, ?v1r6, ?v2r6, ?v3r6, ?v4r6, ?v5r6, ?v6r6, ?v7r6, ?v8r6, ?v9r6, ?v10r6, ?v11r6, ?v12r6, ?v13r6, undef] [some 22, some 23, some 24, some 25, some 26, some 27, some 28, some 29, some 30, some 31, some 32, some 33, some 34, some 35, some 6] (fun w b => OwnC w b z4L) ?Ar6 ?oar6 (by kernel_rfl) (by kernel_rfl) (by kernel_rfl) rfl ?hAr6 (fun _ _ _ h hb => h.call hb) ?hopr6 ?hoar6 (by decide) ?halr6 ?hfinr6
   case hAr6 =>
    intro bq
    simp only [List.set_cons_zero, List.set_cons_succ, List.zip_cons_cons, List.zip_nil_right, fillD, Act.put, List.setIfInBounds_toArray]
    exact rfl
   case hopr6 =>
    refine ⟨?_, ?_, ?_, ?_, ?_, ?_, ?_, ?_, ?_, ?_, ?_, ?_, ?_, ?_, fun h => absurd rfl h, trivial⟩
    iterate 2 focus (intro _ bq wx hS; refine OpTo.yields rfl ?_; obtain ⟨_, _, _, _, _, _, _, _, _, _⟩ := (OwnC.call V5_3.out hS).fv; clear hS; go_simp; try with_reducible rfl)
    focus (intro _ bq wx hS; refine OpTo.yields rfl ?_; clear hS; go_simp; try with_reducible rfl)
    focus (intro _ bq wx hS; refine OpTo.yields rfl ?_; obtain ⟨_, _, _, _, _, _, _, _, _, _, _, _, _, _⟩ := (OwnC.call P1_3.out hS).ov; clear hS; go_simp; try with_reducible rfl)
    focus (intro _ bq wx hS; refine OpTo.yields rfl ?_; clear hS; go_simp; try with_reducible rfl)
    focus (intro _ bq wx hS; refine OpTo.yields rfl ?_; obtain ⟨_, _, _, _, _, _, _, _, _, _, _, _, _, _⟩ := (OwnC.call P0_3.out hS).ov; clear hS; go_simp; try with_reducible rfl)
    focus (intro _ bq wx hS; refine OpTo.calls rfl ?_ ?_; rotate_left; intro K hK; go_simp; refine (K4.out _).mono ?_; rintro e w' ⟨rfl, hq⟩; exact hK w' hq; exact rfl)
    focus (intro _ bq wx hS; refine OpTo.yields rfl ?_; obtain ⟨_, _, _, _, _, _, _, _, _, _⟩ := (OwnC.call V5_3.out hS).fv; clear hS; go_simp; try with_reducible rfl)
    focus (intro _ bq wx hS; refine OpTo.yields rfl ?_; clear hS; go_simp; try with_reducible rfl)
    focus (intro _ bq wx hS; refine OpTo.yields rfl ?_; obtain ⟨_, _, _, _, _, _, _, _, _, _, _, _, _, _⟩ := (OwnC.call P0_3.out hS).ov; clear hS; go_simp; try with_reducible rfl)
    focus (intro _ bq wx hS; refine OpTo.yields rfl ?_; clear hS; go_simp; try with_reducible rfl)
    focus (intro _ bq wx hS; refine OpTo.yields rfl ?_; obtain ⟨_, _, _, _, _, _, _, _, _, _, _, _, _, _⟩ := (OwnC.call P1_3.out hS).ov; clear hS; go_simp; try with_reducible rfl)
    focus (intro _ bq wx hS; refine OpTo.calls rfl ?_ ?_; rotate_left; intro K hK; go_simp; refine (K5.out _).mono ?_; rintro e w' ⟨rfl, hq⟩; exact hK w' hq; exact rfl)
    focus (intro _ bq wx hS; refine OpTo.calls rfl ?_ ?_; rotate_left; intro K hK; go_simp; refine (K6.out _).mono ?_; rintro e w' ⟨rfl, hq⟩; exact hK w' hq; exact rfl)
   case hoar6 =>
    rw [List.getElem?_toArray]
    exact rfl
   case halr6 =>
    intro bq wx hS
    refine OpTo.make (ob := ?obr6) (B := fun w b => OwnC w b z4L) hS rfl ?runr6 ?ownr6
    case runr6 =>
     go_simp
     try with_reducible rfl
    case ownr6 => exact OwnC.new' rfl
   case hfinr6 =>
    intro bq wx hS hB hle
    refine tail_at (o := ?ofr6_15) ?hir6_15 ?hwr6_15 ?_
    case hir6_15 => rw [List.getElem?_toArray]; exact rfl
    case hwr6_15 => exact rfl
    obtain ⟨gz, g0, g1, g2, g3, gf⟩ := hB.z4
    go_simp
    clear gz g0 g1 g2 g3 gf
    refine tail_end ?_
    go_wp2_with fail
    go_meet
    exact ⟨bq, rfl, hle, OwnC.put (numL u) hB rfl, below_putL hle (numL u) 0 _ hS⟩
  case rest =>
   obtain ⟨bk6, rfl, hle, hO, hB⟩ := hcut
   rename_i un uo up uq ur us ut uu uv uw ux uy uz uA uB uC uD uE uF uG uH uI uJ uK uL uM uN uO uP uQ uR uS uT uU uV uW uX uY uZ va vb vc vd ve vf vg vh vi vj vk vl vm vn vo vp vq vr vs vt vu vv vw vx vy vz vA vB vC vD vE vF vG vH vI vJ vK vL vM vN vO vP vQ vR vS vT vU vV vW vX vY vZ za zb zc zd ze zf zg zh zi zj zk zl zm zn zo zp zq zr zs zt Kq3 hKq3
   clear un uo up uq ur us ut uu uv uw ux uy uz uA uB uC uD uE uF uG uH uI uJ uK uL uM uN uO uP uQ uR uS uT uU uV uW uX uY uZ va vb vc vd ve vf vg vh vi vj vk vl vm vn vo vp vq vr vs vt vu vv vw vx vy vz vA vB vC vD vE vF vG vH vI vJ vK vL vM vN vO vP vQ vR vS vT vU vV vW vX vY vZ za zb zc zd ze zf zg zh zi zj zk zl zm zn zo zp zq zr zs zt
   have P0_4 : Hid (OwnC wc (w.heap.size) (ovL x1 y1 z1)) := OwnC.call P0_3.out hB
   have P1_4 : Hid (OwnC wc (w.heap.size + 1) (ovL x2 y2 z2)) := OwnC.call P1_3.out hB
   have P2_4 : Hid (OwnC wc (w.heap.size + 1 + 1) z12L) := OwnC.call P2_3.out hB
   have W_4 : Hid (Below w.heap.size w wc) := below_call0 W_3.out hB
   have V5_4 : Hid (OwnC wc bk5 (fvL PP)) := OwnC.call V5_3.out hB
   have V6_4 : Hid (OwnC wc bk6 (numL u)) := hO
   clear hB P0_3 P1_3 P2_3 W_3 V5_3
   clear hO hle
   generalize wc = w4 at P0_4 P1_4 P2_4 W_4 V5_4 V6_4 ⊢
   go_upto_region 7 with fail
   go_cut [7] (fun vq7 wx => ∃ bk7, vq7 = .pointer (some ⟨bk7, 0, none⟩) ∧ w4.heap.size ≤ bk7 ∧ OwnC wx bk7 (numL v) ∧ Below w4.heap.size w4 wx)
   case first =>
    refine wp_region_I 15 0 14 [?v0r7, ?v1r7, ?v2r7, ?v3r7, ?v4r7, ?v5r7, ?v6r7, ?v7r7, ?v8r7, ?v9r7, ?v10r7, ?v11r7, ?v12r7, ?v13r7, undef] [some 36, some 37, some 38, some 39, some 40, some 41, some 42, some 43, some 44, some 45, some 46, some 47, some 48, some 49, some 7] (fun w b => OwnC w b z4L) ?Ar7 ?oar7 (by kernel_rfl) (by kernel_rfl) (by kernel_rfl) rfl ?hAr7 (fun _ _ _ h hb => h.call hb) ?hopr7 ?hoar7 (by decide) ?halr7 ?hfinr7
    case hAr7 =>
     intro bq
     simp only [List.set_cons_zero, List.set_cons_succ, List.zip_cons_cons, List.zip_nil_right, fillD, Act.put, List.setIfInBounds_toArray]
     exact rfl
    case hopr7 =>
     refine ⟨?_, ?_, ?_, ?_, ?_, ?_, ?_, ?_, ?_, ?_, ?_, ?_, ?_, ?_, fun h => absurd rfl h, trivial⟩
     iterate 2 focus (intro _ bq wx hS; refine OpTo.yields rfl ?_; obtain ⟨_, _, _, _, _, _, _, _, _, _⟩ := (OwnC.call V5_4.out hS).fv; clear hS; go_simp; try with_reducible rfl)
     focus (intro _ bq wx hS; refine OpTo.yields rfl ?_; clear hS; go_simp; try with_reducible rfl)
     focus (intro _ bq wx hS; refine OpTo.yields rfl ?_; obtain ⟨_, _, _, _, _, _, _, _, _, _, _, _, _, _⟩ := (OwnC.call P1_4.out hS).ov; clear hS; go_simp; try with_reducible rfl)
     focus (intro _ bq wx hS; refine OpTo.yields rfl ?_; clear hS; go_simp; try with_reducible rfl)
     focus (intro _ bq wx hS; refine OpTo.yields rfl ?_; obtain ⟨_, _, _, _, _, _, _, _, _, _, _, _, _, _⟩ := (OwnC.call P0_4.out hS).ov; clear hS; go_simp; try with_reducible rfl)
     focus (intro _ bq wx hS; refine OpTo.calls rfl ?_ ?_; rotate_left; intro K hK; go_simp; refine (K7.out _).mono ?_; rintro e w' ⟨rfl, hq⟩; exact hK w' hq; exact rfl)
     focus (intro _ bq wx hS; refine OpTo.yields rfl ?_; obtain ⟨_, _, _, _, _, _, _, _, _, _⟩ := (OwnC.call V5_4.out hS).fv; clear hS; go_simp; try with_reducible rfl)
     focus (intro _ bq wx hS; refine OpTo.yields rfl ?_; clear hS; go_simp; try with_reducible rfl)
     focus (intro _ bq wx hS; refine OpTo.yields rfl ?_; obtain ⟨_, _, _, _, _, _, _, _, _, _, _, _, _, _⟩ := (OwnC.call P0_4.out hS).ov; clear hS; go_simp; try with_reducible rfl)
     focus (intro _ bq wx hS; refine OpTo.yields rfl ?_; clear hS; go_simp; try with_reducible rfl)
     focus (intro _ bq wx hS; refine OpTo.yields rfl ?_; obtain ⟨_, _, _, _, _, _, _, _, _, _, _, _, _, _⟩ := (OwnC.call P1_4.out hS).ov; clear hS; go_simp; try with_reducible rfl)
     focus (intro _ bq wx hS; refine OpTo.calls rfl ?_ ?_; rotate_left; intro K hK; go_simp; refine (K8.out _).mono ?_; rintro e w' ⟨rfl, hq⟩; exact hK w' hq; exact rfl)
     focus (intro _ bq wx hS; refine OpTo.calls rfl ?_ ?_; rotate_left; intro K hK; go_simp; refine (K9.out _).mono ?_; rintro e w' ⟨rfl, hq⟩; exact hK w' hq; exact rfl)
    case hoar7 =>
     rw [List.getElem?_toArray]
     exact rfl
    case halr7 =>
     intro bq wx hS
     refine OpTo.make (ob := ?obr7) (B := fun w b => OwnC w b z4L) hS rfl ?runr7 ?ownr7
     case runr7 =>
      go_simp
      try with_reducible rfl
     case ownr7 => exact OwnC.new' rfl
    case hfinr7 =>
     intro bq wx hS hB hle
     refine tail_at (o := ?ofr7_15) ?hir7_15 ?hwr7_15 ?_
     case hir7_15 => rw [List.getElem?_toArray]; exact rfl
     case hwr7_15 => exact rfl
     obtain ⟨gz, g0, g1, g2, g3, gf⟩ := hB.z4
     go_simp
     clear gz g0 g1 g2 g3 gf
     refine tail_end ?_
     go_wp2_with fail
     go_meet
     exact ⟨bq, rfl, hle, OwnC.put (numL v) hB rfl, below_putL hle (numL v) 0 _ hS⟩
   case rest =>
    obtain ⟨bk7, rfl, hle, hO, hB⟩ := hcut
    rename_i un uo up uq ur us ut uu uv uw ux uy uz uA uB uC uD uE uF uG uH uI uJ uK uL uM uN uO uP uQ uR uS uT uU uV uW uX uY uZ va vb vc vd ve vf vg vh vi vj vk vl vm vn vo vp vq vr vs vt vu vv vw vx vy vz vA vB vC vD vE vF vG vH vI vJ vK vL vM vN vO vP vQ vR vS vT vU vV vW vX vY vZ za zb zc zd ze zf zg zh zi zj zk zl zm zn zo zp zq zr zs zt Kq4 hKq4
    clear un uo up uq ur us ut uu uv uw ux uy uz uA uB uC uD uE uF uG uH uI uJ uK uL uM uN uO uP uQ uR uS uT uU uV uW uX uY uZ va vb vc vd ve vf vg vh vi vj vk vl vm vn vo vp vq vr vs vt vu vv vw vx vy vz vA vB vC vD vE vF vG vH vI vJ vK vL vM vN vO vP vQ vR vS vT vU vV vW vX vY vZ za zb zc zd ze zf zg zh zi zj zk zl zm zn zo zp zq zr zs zt
    have P0_5 : Hid (OwnC wc (w.heap.size) (ovL x1 y1 z1)) := OwnC.call P0_4.out hB
    have P1_5 : Hid (OwnC wc (w.heap.size + 1) (ovL x2 y2 z2)) := OwnC.call P1_4.out hB
    have P2_5 : Hid (OwnC wc (w.heap.size + 1 + 1) z12L) := OwnC.call P2_4.out hB
    have W_5 : Hid (Below w.heap.size w wc) := below_call0 W_4.out hB
    have V5_5 : Hid (OwnC wc bk5 (fvL PP)) := OwnC.call V5_4.out hB
    have V6_5 : Hid (OwnC wc bk6 (numL u)) := OwnC.call V6_4.out hB
    have V7_5 : Hid (OwnC wc bk7 (numL v)) := hO
    clear hB P0_4 P1_4 P2_4 W_4 V5_4 V6_4
    clear hO hle
    generalize wc = w5 at P0_5 P1_5 P2_5 W_5 V5_5 V6_5 V7_5 ⊢
    obtain ⟨fV7z, fV70, fV71, fV72, fV73, fV7f⟩ := (V7_5.out).num
    go_wp2_with fail
    clear fV7z fV70 fV71 fV72 fV73 fV7f
    refine (K10.out _).mono ?_
    rintro e w6 ⟨rfl, hq⟩
    have P0_6 : Hid (OwnC w6 (w.heap.size) (ovL x1 y1 z1)) := OwnC.call P0_5.out hq
    have P1_6 : Hid (OwnC w6 (w.heap.size + 1) (ovL x2 y2 z2)) := OwnC.call P1_5.out hq
    have P2_6 : Hid (OwnC w6 (w.heap.size + 1 + 1) z12L) := OwnC.call P2_5.out hq
    have W_6 : Hid (Below w.heap.size w w6) := below_call0 W_5.out hq
    have V5_6 : Hid (OwnC w6 bk5 (fvL PP)) := OwnC.call V5_5.out hq
    have V6_6 : Hid (OwnC w6 bk6 (numL u)) := OwnC.call V6_5.out hq
    have V7_6 : Hid (OwnC w6 bk7 (numL v)) := OwnC.call V7_5.out hq
    clear hq P0_5 P1_5 P2_5 W_5 V5_5 V6_5 V7_5
    go_upto_region 9 with fail
    obtain ⟨fV6z, fV60, fV61, fV62, fV63, fV6f⟩ := (V6_6.out).num
    go_wp2_with fail
    clear fV6z fV60 fV61 fV62 fV63 fV6f
    refine (K11.out _).mono ?_
    rintro e w7 ⟨rfl, hq⟩
    have P0_7 : Hid (OwnC w7 (w.heap.size) (ovL x1 y1 z1)) := OwnC.call P0_6.out hq
    have P1_7 : Hid (OwnC w7 (w.heap.size + 1) (ovL x2 y2 z2)) := OwnC.call P1_6.out hq
    have P2_7 : Hid (OwnC w7 (w.heap.size + 1 + 1) z12L) := OwnC.call P2_6.out hq
    have W_7 : Hid (Below w.heap.size w w7) := below_call0 W_6.out hq
    have V5_7 : Hid (OwnC w7 bk5 (fvL PP)) := OwnC.call V5_6.out hq
    have V6_7 : Hid (OwnC w7 bk6 (numL u)) := OwnC.call V6_6.out hq
    have V7_7 : Hid (OwnC w7 bk7 (numL v)) := OwnC.call V7_6.out hq
    clear hq P0_6 P1_6 P2_6 W_6 V5_6 V6_6 V7_6
    obtain ⟨fP2z, fP20, fP21, fP22, fP23, fP24, fP25, fP26, fP27, fP28, fP29, fP210, fP211, fP2f⟩ := (P2_7.out).z12
    go_wp2_with fail
    clear fP2z fP20 fP21 fP22 fP23 fP24 fP25 fP26 fP27 fP28 fP29 fP210 fP211 fP2f
    obtain ⟨wz, hwz⟩ : ∃ wq, wq = ((((((((((((w7.setCell ⟨(w.heap.size + 1 + 1), 0, none⟩ (.int .u64 0)).setCell ⟨(w.heap.size + 1 + 1), 1, none⟩ (.int .u64 0)).setCell ⟨(w.heap.size + 1 + 1), 2, none⟩ (.int .u64 0)).setCell ⟨(w.heap.size + 1 + 1), 3, none⟩ (.int .u64 0)).setCell ⟨(w.heap.size + 1 + 1), 4, none⟩ (.int .u64 1)).setCell ⟨(w.heap.size + 1 + 1), 5, none⟩ (.int .u64 0)).setCell ⟨(w.heap.size + 1 + 1), 6, none⟩ (.int .u64 0)).setCell ⟨(w.heap.size + 1 + 1), 7, none⟩ (.int .u64 0)).setCell ⟨(w.heap.size + 1 + 1), 8, none⟩ (.int .u64 0)).setCell ⟨(w.heap.size + 1 + 1), 9, none⟩ (.int .u64 0)).setCell ⟨(w.heap.size + 1 + 1), 10, none⟩ (.int .u64 0)).setCell ⟨(w.heap.size + 1 + 1), 11, none⟩ (.int .u64 0)) := ⟨_, rfl⟩
    rw [← hwz]
    have hwy : wz = putL (w.heap.size + 1 + 1) 0 (ovL 0 1 0) w7 := by
     rw [hwz]
     simp only [putL, ovL, lit0.1, lit0.2.1, lit0.2.2.1, lit0.2.2.2, lit1.1, lit1.2.1, lit1.2.2.1, lit1.2.2.2]
    have HZ : OwnC wz (w.heap.size + 1 + 1) (ovL 0 1 0) ∧ Below w.heap.size w wz := by
     rw [hwy]
     exact ⟨OwnC.put (ovL 0 1 0) P2_7.out rfl, below_putL (Nat.le_succ_of_le (Nat.le_succ_of_le (Nat.le_refl _))) (ovL 0 1 0) 0 _ W_7.out⟩
    clear hwz hwy
    obtain ⟨hO, HB⟩ := HZ
    obtain ⟨rz, r0, r1, r2, r3, r4, r5, r6, r7, r8, r9, r10, r11, rf⟩ := hO.ov
    try rw [lit0.1] at r0
    try rw [lit0.2.1] at r1
    try rw [lit0.2.2.1] at r2
    try rw [lit0.2.2.2] at r3
    try rw [lit1.1] at r4
    try rw [lit1.2.1] at r5
    try rw [lit1.2.2.1] at r6
    try rw [lit1.2.2.2] at r7
    try rw [lit0.1] at r8
    try rw [lit0.2.1] at r9
    try rw [lit0.2.2.1] at r10
    try rw [lit0.2.2.2] at r11
    refine bodyPost_ret (v := .agg #[.int .u64 0, .int .u64 0, .int .u64 0, .int .u64 0, .int .u64 1, .int .u64 0, .int .u64 0, .int .u64 0, .int .u64 0, .int .u64 0, .int .u64 0, .int .u64 0]) ?_ rfl ⟨rfl, HB⟩
    simp [results, Tryd.results20, go_sem, r0, r1, r2, r3, r4, r5, r6, r7, r8, r9, r10, r11]
set_option maxRecDepth 100000 in
set_option maxHeartbeats 4000000 in
theorem plus3_fin (x1 y1 z1 x2 y2 z2 u v z v2 v3 ww t X Y Z : Nat) (hx1 : x1 < PP) (hy1 : y1 < PP) (hz1 : z1 < PP) (hx2 : x2 < PP) (hy2 : y2 < PP) (hz2 : z2 < PP) (h1 : z1 ≠ 0) (h2 : z2 ≠ 0) (hu : u = sM (mM y2 z1) (mM y1 z2)) (hv : v = sM (mM x2 z1) (mM x1 z2)) (h3 : v ≠ 0) (q_z : z = mM z1 z2) (q_v2 : v2 = mM v v) (q_v3 : v3 = mM v2 v) (q_ww : ww = mM v2 (mM x1 z2)) (q_t : t = sM (sM (mM (mM u u) z) v3) (aM ww ww)) (q_X : X = mM v t) (q_Y : Y = sM (mM u (sM ww t)) (mM v3 (mM y1 z2))) (q_Z : Z = mM v3 z) (w : World) :
  Calls Tryd.prog 20 #[.agg #[.int .u64 (limb (x1) 0 : Nat), .int .u64 (limb (x1) 1 : Nat), .int .u64 (limb (x1) 2 : Nat), .int .u64 (limb (x1) 3 : Nat), .int .u64 (limb (y1) 0 : Nat), .int .u64 (limb (y1) 1 : Nat), .int .u64 (limb (y1) 2 : Nat), .int .u64 (limb (y1) 3 : Nat), .int .u64 (limb (z1) 0 : Nat), .int .u64 (limb (z1) 1 : Nat), .int .u64 (limb (z1) 2 : Nat), .int .u64 (limb (z1) 3 : Nat)], .agg #[.int .u64 (limb (x2) 0 : Nat), .int .u64 (limb (x2) 1 : Nat), .int .u64 (limb (x2) 2 : Nat), .int .u64 (limb (x2) 3 : Nat), .int .u64 (limb (y2) 0 : Nat), .int .u64 (limb (y2) 1 : Nat), .int .u64 (limb (y2) 2 : Nat), .int .u64 (limb (y2) 3 : Nat), .int .u64 (limb (z2) 0 : Nat), .int .u64 (limb (z2) 1 : Nat), .int .u64 (limb (z2) 2 : Nat), .int .u64 (limb (z2) 3 : Nat)]] w fun e w' => e = .returned (.agg #[.int .u64 (limb (X) 0 : Nat), .int .u64 (limb (X) 1 : Nat), .int .u64 (limb (X) 2 : Nat), .int .u64 (limb (X) 3 : Nat), .int .u64 (limb (Y) 0 : Nat), .int .u64 (limb (Y) 1 : Nat), .int .u64 (limb (Y) 2 : Nat), .int .u64 (limb (Y) 3 : Nat), .int .u64 (limb (Z) 0 : Nat), .int .u64 (limb (Z) 1 : Nat), .int .u64 (limb (Z) 2 : Nat), .int .u64 (limb (Z) 3 : Nat)]) ∧ Below w.heap.size w w' := by
 have K1 : Hid (rfZ z1 false) := rfZ_of (lt_R hz1) (decide_eq_false h1)
 have K2 : Hid (rfZ z2 false) := rfZ_of (lt_R hz2) (decide_eq_false h2)
 have K3 : Hid (∀ w, Calls Tryd.prog 40 #[] w fun e w' => e = .returned (.agg #[.int .u64 (limb (PP) 0 : Nat), .int .u64 (limb (PP) 1 : Nat), .int .u64 (limb (PP) 2 : Nat), .int .u64 (limb (PP) 3 : Nat), .int .u64 (limb (R256 - (PP)) 0 : Nat), .int .u64 (limb (R256 - (PP)) 1 : Nat), .int .u64 (limb (R256 - (PP)) 2 : Nat), .int .u64 (limb (R256 - (PP)) 3 : Nat)]) ∧ Below w.heap.size w w') := fun w => base2_any w
 obtain ⟨c1, ec1⟩ : ∃ uq, uq = mM y2 z1 := ⟨_, rfl⟩
 have lc1 : c1 < PP := by rw [ec1]; exact mM_lt _ _
 have K4 : Hid (rfM y2 z1 c1) := rfM_of hy2 hz1 ec1
 obtain ⟨c2, ec2⟩ : ∃ uq, uq = mM y1 z2 := ⟨_, rfl⟩
 have lc2 : c2 < PP := by rw [ec2]; exact mM_lt _ _
 have K5 : Hid (rfM y1 z2 c2) := rfM_of hy1 hz2 ec2
 rw [← ec1, ← ec2] at hu
 have lu : u < PP := by rw [hu]; exact sM_lt _ _
 have K6 : Hid (rfS c1 c2 u) := rfS_of lc1 lc2 hu
 obtain ⟨c3, ec3⟩ : ∃ uq, uq = mM x2 z1 := ⟨_, rfl⟩
 have lc3 : c3 < PP := by rw [ec3]; exact mM_lt _ _
 have K7 : Hid (rfM x2 z1 c3) := rfM_of hx2 hz1 ec3
 obtain ⟨c4, ec4⟩ : ∃ uq, uq = mM x1 z2 := ⟨_, rfl⟩
 have lc4 : c4 < PP := by rw [ec4]; exact mM_lt _ _
 have K8 : Hid (rfM x1 z2 c4) := rfM_of hx1 hz2 ec4
 rw [← ec3, ← ec4] at hv
 have lv : v < PP := by rw [hv]; exact sM_lt _ _
 have K9 : Hid (rfS c3 c4 v) := rfS_of lc3 lc4 hv
 have K10 : Hid (rfZ v false) := rfZ_of (lt_R lv) (decide_eq_false h3)
 have lz : z < PP := by rw [q_z]; exact mM_lt _ _
 have K11 : Hid (rfM z1 z2 z) := rfM_of hz1 hz2 q_z
 have lv2 : v2 < PP := by rw [q_v2]; exact mM_lt _ _
 have K12 : Hid (rfM v v v2) := rfM_of lv lv q_v2
 have lv3 : v3 < PP := by rw [q_v3]; exact mM_lt _ _
 have K13 : Hid (rfM v2 v v3) := rfM_of lv2 lv q_v3
 rw [← ec4] at q_ww
 have lww : ww < PP := by rw [q_ww]; exact mM_lt _ _
 have K14 : Hid (rfM v2 c4 ww) := rfM_of lv2 lc4 q_ww
 obtain ⟨c5, ec5⟩ : ∃ uq, uq = mM u u := ⟨_, rfl⟩
 have lc5 : c5 < PP := by rw [ec5]; exact mM_lt _ _
 have K15 : Hid (rfM u u c5) := rfM_of lu lu ec5
 obtain ⟨c6, ec6⟩ : ∃ uq, uq = mM c5 z := ⟨_, rfl⟩
 have lc6 : c6 < PP := by rw [ec6]; exact mM_lt _ _
 have K16 : Hid (rfM c5 z c6) := rfM_of lc5 lz ec6
 obtain ⟨c7, ec7⟩ : ∃ uq, uq = sM c6 v3 := ⟨_, rfl⟩
 have lc7 : c7 < PP := by rw [ec7]; exact sM_lt _ _
 have K17 : Hid (rfS c6 v3 c7) := rfS_of lc6 lv3 ec7
 obtain ⟨c8, ec8⟩ : ∃ uq, uq = aM ww ww := ⟨_, rfl⟩
 have lc8 : c8 < PP := by rw [ec8]; exact aM_lt _ _
 have K18 : Hid (rfA ww ww c8) := rfA_of lww lww ec8
 rw [← ec5, ← ec6, ← ec7, ← ec8] at q_t
 have lt : t < PP := by rw [q_t]; exact sM_lt _ _
 have K19 : Hid (rfS c7 c8 t) := rfS_of lc7 lc8 q_t
 have lX : X < PP := by rw [q_X]; exact mM_lt _ _
 have K20 : Hid (rfM v t X) := rfM_of lv lt q_X
 obtain ⟨c9, ec9⟩ : ∃ uq, uq = sM ww t := ⟨_, rfl⟩
 have lc9 : c9 < PP := by rw [ec9]; exact sM_lt _ _
 have K21 : Hid (rfS ww t c9) := rfS_of lww lt ec9
 obtain ⟨c10, ec10⟩ : ∃ uq, uq = mM u c9 := ⟨_, rfl⟩
 have lc10 : c10 < PP := by rw [ec10]; exact mM_lt _ _
 have K22 : Hid (rfM u c9 c10) := rfM_of lu lc9 ec10
 obtain ⟨c11, ec11⟩ : ∃ uq, uq = mM v3 c2 := ⟨_, rfl⟩
 have lc11 : c11 < PP := by rw [ec11]; exact mM_lt _ _
 have K23 : Hid (rfM v3 c2 c11) := rfM_of lv3 lc2 ec11
 rw [← ec9, ← ec10, ← ec2, ← ec11] at q_Y
 have lY : Y < PP := by rw [q_Y]; exact sM_lt _ _
 have K24 : Hid (rfS c10 c11 Y) := rfS_of lc10 lc11 q_Y
 have lZ : Z < PP := by rw [q_Z]; exact mM_lt _ _
 have K25 : Hid (rfM v3 z Z) := rfM_of lv3 lz q_Z
 obtain ⟨w0, hw0⟩ : ∃ wq, wq = (((w.alloc (.cells #[.int .u64 (limb (x1) 0 : Nat), .int .u64 (limb (x1) 1 : Nat), .int .u64 (limb (x1) 2 : Nat), .int .u64 (limb (x1) 3 : Nat), .int .u64 (limb (y1) 0 : Nat), .int .u64 (limb (y1) 1 : Nat), .int .u64 (limb (y1) 2 : Nat), .int .u64 (limb (y1) 3 : Nat), .int .u64 (limb (z1) 0 : Nat), .int .u64 (limb (z1) 1 : Nat), .int .u64 (limb (z1) 2 : Nat), .int .u64 (limb (z1) 3 : Nat)] 53)).alloc (.cells #[.int .u64 (limb (x2) 0 : Nat), .int .u64 (limb (x2) 1 : Nat), .int .u64 (limb (x2) 2 : Nat), .int .u64 (limb (x2) 3 : Nat), .int .u64 (limb (y2) 0 : Nat), .int .u64 (limb (y2) 1 : Nat), .int .u64 (limb (y2) 2 : Nat), .int .u64 (limb (y2) 3 : Nat), .int .u64 (limb (z2) 0 : Nat), .int .u64 (limb (z2) 1 : Nat), .int .u64 (limb (z2) 2 : Nat), .int .u64 (limb (z2) 3 : Nat)] 53)).alloc (.cells #[.int .u64 0, .int .u64 0, .int .u64 0, .int .u64 0, .int .u64 0, .int .u64 0, .int .u64 0, .int .u64 0, .int .u64 0, .int .u64 0, .int .u64 0, .int .u64 0] 53)) := ⟨_, rfl⟩
 have H0 : Hid (OwnC w0 (w.heap.size) (ovL x1 y1 z1)) ∧ Hid (OwnC w0 (w.heap.size + 1) (ovL x2 y2 z2)) ∧ Hid (OwnC w0 (w.heap.size + 1 + 1) z12L) ∧ Hid (Below w.heap.size w w0) := by
  rw [hw0]
  exact ⟨(OwnC.new' rfl).alloc.alloc, (OwnC.new' (by simp only [World.size_alloc])).alloc, (OwnC.new' (by simp only [World.size_alloc])), below_alloc0 (below_alloc0 (below_alloc0 (Below.refl _ _) _) _) _⟩
 obtain ⟨P0_0, P1_0, P2_0, W_0⟩ := H0
 clear ec1 lc1 ec2 lc2 hu lu ec3 lc3 ec4 lc4 hv lv q_z lz q_v2 lv2 q_v3 lv3 q_ww lww ec5 lc5 ec6 lc6 ec7 lc7 ec8 lc8 q_t lt q_X lX ec9 lc9 ec10 lc10 ec11 lc11 q_Y lY q_Z lZ hx1 hy1 hz1 hx2 hy2 hz2 h1 h2 h3
 go_enter Tryd.func20, Tryd.ntmps20
 go_upto_region 1 with fail
 rw [← hw0]
 clear hw0
 obtain ⟨fP0z, fP00, fP01, fP02, fP03, fP04, fP05, fP06, fP07, fP08, fP09, fP010, fP011, fP0f⟩ := (P0_0.out).ov
 go_wp2_with fail
 clear fP0z fP00 fP01 fP02 fP03 fP04 fP05 fP06 fP07 fP08 fP09 fP010 fP011 fP0f
 refine (K1.out _).mono ?_
 rintro e w1 ⟨rfl, hq⟩
 have P0_1 : Hid (OwnC w1 (w.heap.size) (ovL x1 y1 z1)) := OwnC.call P0_0.out hq
 have P1_1 : Hid (OwnC w1 (w.heap.size + 1) (ovL x2 y2 z2)) := OwnC.call P1_0.out hq
 have P2_1 : Hid (OwnC w1 (w.heap.size + 1 + 1) z12L) := OwnC.call P2_0.out hq
 have W_1 : Hid (Below w.heap.size w w1) := below_call0 W_0.out hq
 clear hq P0_0 P1_0 P2_0 W_0
 go_upto_region 3 with fail
 obtain ⟨fP1z, fP10, fP11, fP12, fP13, fP14, fP15, fP16, fP17, fP18, fP19, fP110, fP111, fP1f⟩ := (P1_1.out).ov
 go_wp2_with fail
 clear fP1z fP10 fP11 fP12 fP13 fP14 fP15 fP16 fP17 fP18 fP19 fP110 fP111 fP1f
 refine (K2.out _).mono ?_
 rintro e w2 ⟨rfl, hq⟩
 have P0_2 : Hid (OwnC w2 (w.heap.size) (ovL x1 y1 z1)) := OwnC.call P0_1.out hq
 have P1_2 : Hid (OwnC w2 (w.heap.size + 1) (ovL x2 y2 z2)) := OwnC.call P1_1.out hq
 have P2_2 : Hid (OwnC w2 (w.heap.size + 1 + 1) z12L) := OwnC.call P2_1.out hq
 have W_2 : Hid (Below w.heap.size w w2) := below_call0 W_1.out hq
 clear hq P0_1 P1_1 P2_1 W_1
 go_upto_region 5 with fail
 go_upto_region 5 with fail
 go_cut [5] (fun vq5 wx => ∃ bk5, vq5 = .pointer (some ⟨bk5, 0, none⟩) ∧ w2.heap.size ≤ bk5 ∧ OwnC wx bk5 (fvL PP) ∧ Below w2.heap.size w2 wx)
 case first =>
  go_wp2_with fail
  refine (K3.out _).mono ?_
  rintro e wx0 ⟨rfl, hq0⟩
  go_wp2_with fail
  go_meet
  exact ⟨_, rfl, hq0.size, OwnC.new' rfl, below_alloc0 hq0 _⟩
 case rest =>
  obtain ⟨bk5, rfl, hle, hO, hB⟩ := hcut
  have P0_3 : Hid (OwnC wc (w.heap.size) (ovL x1 y1 z1)) := OwnC.call P0_2.out hB
  have P1_3 : Hid (OwnC wc (w.heap.size + 1) (ovL x2 y2 z2)) := OwnC.call P1_2.out hB
  have P2_3 : Hid (OwnC wc (w.heap.size + 1 + 1) z12L) := OwnC.call P2_2.out hB
  have W_3 : Hid (Below w.heap.size w wc) := below_call0 W_2.out hB
  have V5_3 : Hid (OwnC wc bk5 (fvL PP)) := hO
  clear hB P0_2 P1_2 P2_2 W_2
  clear hO hle
  generalize wc = w3 at P0_3 P1_3 P2_3 W_3 V5_3 ⊢
  go_upto_region 6 with fail
  go_cut [6] (fun vq6 wx => ∃ bk6, vq6 = .pointer (some ⟨bk6, 0, none⟩) ∧ w3.heap.size ≤ bk6 ∧ OwnC wx bk6 (numL u) ∧ Below w3.heap.size w3 wx)
  case first =>
   refine wp_region_I 15 0 14 [?v0r6, ?v1r6, ?v2r6, ?v3r6, ?v4r6, ?v5r6, ?v6r6, ?v7r6, ?v8r6, ?v9r6, ?v10r6, ?v11r6, ?v12r6, ?v13r6, undef] [some 22, some 23, some 24, some 25, some 26, some 27, some 28, some 29, some 30, some 31, some 32, some 33, some 34, some 35, some 6] (fun w b => OwnC w b z4L) ?Ar6 ?oar6 (by kernel_rfl) (by kernel_rfl) (by kernel_rfl) rfl ?hAr6 (fun _ _ _ h hb => h.call hb) ?hopr6 ?hoar6 (by decide) ?halr6 ?hfinr6
   case hAr6 =>
    intro bq
    simp only [List.set_cons_zero, List.set_cons_succ, List.zip_cons_cons, List.zip_nil_right, fillD, Act.put, List.setIfInBounds_toArray]
    exact rfl
   case hopr6 =>
    refine ⟨?_, ?_, ?_, ?_, ?_, ?_, ?_, ?_, ?_, ?_, ?_, ?_, ?_, ?_, fun h => absurd rfl h, trivial⟩
    iterate 2 focus (intro _ bq wx hS; refine OpTo.yields rfl ?_; obtain ⟨_, _, _, _, _, _, _, _, _, _⟩ := (OwnC.call V5_3.out hS).fv; clear hS; go_simp; try with_reducible rfl)
    focus (intro _ bq wx hS; refine OpTo.yields rfl ?_; clear hS; go_simp; try with_reducible rfl)
    focus (intro _ bq wx hS; refine OpTo.yields rfl ?_; obtain ⟨_, _, _, _, _, _, _, _, _, _, _, _, _, _⟩ := (OwnC.call P1_3.out hS).ov; clear hS; go_simp; try with_reducible rfl)
    focus (intro _ bq wx hS; refine OpTo.yields rfl ?_; clear hS; go_simp; try with_reducible rfl)
    focus (intro _ bq wx hS; refine OpTo.yields rfl ?_; obtain ⟨_, _, _, _, _, _, _, _, _, _, _, _, _, _⟩ := (OwnC.call P0_3.out hS).ov; clear hS; go_simp; try with_reducible rfl)
    focus (intro _ bq wx hS; refine OpTo.calls rfl ?_ ?_; rotate_left; intro K hK; go_simp; refine (K4.out _).mono ?_; rintro e w' ⟨rfl, hq⟩; exact hK w' hq; exact rfl)
    focus (intro _ bq wx hS; refine OpTo.yields rfl ?_; obtain ⟨_, _, _, _, _, _, _, _, _, _⟩ := (OwnC.call V5_3.out hS).fv; clear hS; go_simp; try with_reducible rfl)
    focus (intro _ bq wx hS; refine OpTo.yields rfl ?_; clear hS; go_simp; try with_reducible rfl)
    focus (intro _ bq wx hS; refine OpTo.yields rfl ?_; obtain ⟨_, _, _, _, _, _, _, _, _, _, _, _, _, _⟩ := (OwnC.call P0_3.out hS).ov; clear hS; go_simp; try with_reducible rfl)
    focus (intro _ bq wx hS; refine OpTo.yields rfl ?_; clear hS; go_simp; try with_reducible rfl)
    focus (intro _ bq wx hS; refine OpTo.yields rfl ?_; obtain ⟨_, _, _, _, _, _, _, _, _, _, _, _, _, _⟩ := (OwnC.call P1_3.out hS).ov; clear hS; go_simp; try with_reducible rfl)
    focus (intro _ bq wx hS; refine OpTo.calls rfl ?_ ?_; rotate_left; intro K hK; go_simp; refine (K5.out _).mono ?_; rintro e w' ⟨rfl, hq⟩; exact hK w' hq; exact rfl)
    focus (intro _ bq wx hS; refine OpTo.calls rfl ?_ ?_; rotate_left; intro K hK; go_simp; refine (K6.out _).mono ?_; rintro e w' ⟨rfl, hq⟩; exact hK w' hq; exact rfl)
   case hoar6 =>
    rw [List.getElem?_toArray]
    exact rfl
   case halr6 =>
    intro bq wx hS
    refine OpTo.make (ob := ?obr6) (B := fun w b => OwnC w b z4L) hS rfl ?runr6 ?ownr6
    case runr6 =>
     go_simp
     try with_reducible rfl
    case ownr6 => exact OwnC.new' rfl
   case hfinr6 =>
    intro bq wx hS hB hle
    refine tail_at (o := ?ofr6_15) ?hir6_15 ?hwr6_15 ?_
    case hir6_15 => rw [List.getElem?_toArray]; exact rfl
    case hwr6_15 => exact rfl
    obtain ⟨gz, g0, g1, g2, g3, gf⟩ := hB.z4
    go_simp
    clear gz g0 g1 g2 g3 gf
    refine tail_end ?_
    go_wp2_with fail
    go_meet
    exact ⟨bq, rfl, hle, OwnC.put (numL u) hB rfl, below_putL hle (numL u) 0 _ hS⟩
  case rest =>
   obtain ⟨bk6, rfl, hle, hO, hB⟩ := hcut
   rename_i un uo up uq ur us ut uu uv uw ux uy uz uA uB uC uD uE uF uG uH uI uJ uK uL uM uN uO uP uQ uR uS uT uU uV uW uX uY uZ va vb vc vd ve vf vg vh vi vj vk vl vm vn vo vp vq vr vs vt vu vv vw vx vy vz vA vB vC vD vE vF vG vH vI vJ vK vL vM vN vO vP vQ vR vS vT vU vV vW vX vY vZ za zb zc zd ze zf zg zh zi zj zk zl zm zn zo zp zq zr zs zt Kq3 hKq3
   clear un uo up uq ur us ut uu uv uw ux uy uz uA uB uC uD uE uF uG uH uI uJ uK uL uM uN uO uP uQ uR uS uT uU uV uW uX uY uZ va vb vc vd ve vf vg vh vi vj vk vl vm vn vo vp vq vr vs vt vu vv vw vx vy vz vA vB vC vD vE vF vG vH vI vJ vK vL vM vN vO vP vQ vR vS vT vU vV vW vX vY vZ za zb zc zd ze zf zg zh zi zj zk zl zm zn zo zp zq zr zs zt
   have P0_4 : Hid (OwnC wc (w.heap.size) (ovL x1 y1 z1)) := OwnC.call P0_3.out hB
   have P1_4 : Hid (OwnC wc (w.heap.size + 1) (ovL x2 y2 z2)) := OwnC.call P1_3.out hB
   have P2_4 : Hid (OwnC wc (w.heap.size + 1 + 1) z12L) := OwnC.call P2_3.out hB
   have W_4 : Hid (Below w.heap.size w wc) := below_call0 W_3.out hB
   have V5_4 : Hid (OwnC wc bk5 (fvL PP)) := OwnC.call V5_3.out hB
   have V6_4 : Hid (OwnC wc bk6 (numL u)) := hO
   clear hB P0_3 P1_3 P2_3 W_3 V5_3
   clear hO hle
   generalize wc = w4 at P0_4 P1_4 P2_4 W_4 V5_4 V6_4 ⊢
   go_upto_region 7 with fail
   go_cut [7] (fun vq7 wx => ∃ bk7, vq7 = .pointer (some ⟨bk7, 0, none⟩) ∧ w4.heap.size ≤ bk7 ∧ OwnC wx bk7 (numL v) ∧ Below w4.heap.size w4 wx)
   case first =>
    refine wp_region_I 15 0 14 [?v0r7, ?v1r7, ?v2r7, ?v3r7, ?v4r7, ?v5r7, ?v6r7, ?v7r7, ?v8r7, ?v9r7, ?v10r7, ?v11r7, ?v12r7, ?v13r7, undef] [some 36, some 37, some 38, some 39, some 40, some 41, some 42, some 43, some 44, some 45, some 46, some 47, some 48, some 49, some 7] (fun w b => OwnC w b z4L) ?Ar7 ?oar7 (by kernel_rfl) (by kernel_rfl) (by kernel_rfl) rfl ?hAr7 (fun _ _ _ h hb => h.call hb) ?hopr7 ?hoar7 (by decide) ?halr7 ?hfinr7
    case hAr7 =>
     intro bq
     simp only [List.set_cons_zero, List.set_cons_succ, List.zip_cons_cons, List.zip_nil_right, fillD, Act.put, List.setIfInBounds_toArray]
     exact rfl
    case hopr7 =>
     refine ⟨?_, ?_, ?_, ?_, ?_, ?_, ?_, ?_, ?_, ?_, ?_, ?_, ?_, ?_, fun h => absurd rfl h, trivial⟩
     iterate 2 focus (intro _ bq wx hS; refine OpTo.yields rfl ?_; obtain ⟨_, _, _, _, _, _, _, _, _, _⟩ := (OwnC.call V5_4.out hS).fv; clear hS; go_simp; try with_reducible rfl)
     focus (intro _ bq wx hS; refine OpTo.yields rfl ?_; clear hS; go_simp; try with_reducible rfl)
     focus (intro _ bq wx hS; refine OpTo.yields rfl ?_; obtain ⟨_, _, _, _, _, _, _, _, _, _, _, _, _, _⟩ := (OwnC.call P1_4.out hS).ov; clear hS; go_simp; try with_reducible rfl)
     focus (intro _ bq wx hS; refine OpTo.yields rfl ?_; clear hS; go_simp; try with_reducible rfl)
     focus (intro _ bq wx hS; refine OpTo.yields rfl ?_; obtain ⟨_, _, _, _, _, _, _, _, _, _, _, _, _, _⟩ := (OwnC.call P0_4.out hS).ov; clear hS; go_simp; try with_reducible rfl)
     focus (intro _ bq wx hS; refine OpTo.calls rfl ?_ ?_; rotate_left; intro K hK; go_simp; refine (K7.out _).mono ?_; rintro e w' ⟨rfl, hq⟩; exact hK w' hq; exact rfl)
     focus (intro _ bq wx hS; refine OpTo.yields rfl ?_; obtain ⟨_, _, _, _, _, _, _, _, _, _⟩ := (OwnC.call V5_4.out hS).fv; clear hS; go_simp; try with_reducible rfl)
     focus (intro _ bq wx hS; refine OpTo.yields rfl ?_; clear hS; go_simp; try with_reducible rfl)
     focus (intro _ bq wx hS; refine OpTo.yields rfl ?_; obtain ⟨_, _, _, _, _, _, _, _, _, _, _, _, _, _⟩ := (OwnC.call P0_4.out hS).ov; clear hS; go_simp; try with_reducible rfl)
     focus (intro _ bq wx hS; refine OpTo.yields rfl ?_; clear hS; go_simp; try with_reducible rfl)
     focus (intro _ bq wx hS; refine OpTo.yields rfl ?_; obtain ⟨_, _, _, _, _, _, _, _, _, _, _, _, _, _⟩ := (OwnC.call P1_4.out hS).ov; clear hS; go_simp; try with_reducible rfl)
     focus (intro _ bq wx hS; refine OpTo.calls rfl ?_ ?_; rotate_left; intro K hK; go_simp; refine (K8.out _).mono ?_; rintro e w' ⟨rfl, hq⟩; exact hK w' hq; exact rfl)
     focus (intro _ bq wx hS; refine OpTo.calls rfl ?_ ?_; rotate_left; intro K hK; go_simp; refine (K9.out _).mono ?_; rintro e w' ⟨rfl, hq⟩; exact hK w' hq; exact rfl)
    case hoar7 =>
     rw [List.getElem?_toArray]
     exact rfl
    case halr7 =>
     intro bq wx hS
     refine OpTo.make (ob := ?obr7) (B := fun w b => OwnC w b z4L) hS rfl ?runr7 ?ownr7
     case runr7 =>
      go_simp
      try with_reducible rfl
     case ownr7 => exact OwnC.new' rfl
    case hfinr7 =>
     intro bq wx hS hB hle
     refine tail_at (o := ?ofr7_15) ?hir7_15 ?hwr7_15 ?_
     case hir7_15 => rw [List.getElem?_toArray]; exact rfl
     case hwr7_15 => exact rfl
     obtain ⟨gz, g0, g1, g2, g3, gf⟩ := hB.z4
     go_simp
     clear gz g0 g1 g2 g3 gf
     refine tail_end ?_
     go_wp2_with fail
     go_meet
     exact ⟨bq, rfl, hle, OwnC.put (numL v) hB rfl, below_putL hle (numL v) 0 _ hS⟩
   case rest =>
    obtain ⟨bk7, rfl, hle, hO, hB⟩ := hcut
    rename_i un uo up uq ur us ut uu uv uw ux uy uz uA uB uC uD uE uF uG uH uI uJ uK uL uM uN uO uP uQ uR uS uT uU uV uW uX uY uZ va vb vc vd ve vf vg vh vi vj vk vl vm vn vo vp vq vr vs vt vu vv vw vx vy vz vA vB vC vD vE vF vG vH vI vJ vK vL vM vN vO vP vQ vR vS vT vU vV vW vX vY vZ za zb zc zd ze zf zg zh zi zj zk zl zm zn zo zp zq zr zs zt Kq4 hKq4
    clear un uo up uq ur us ut uu uv uw ux uy uz uA uB uC uD uE uF uG uH uI uJ uK uL uM uN uO uP uQ uR uS uT uU uV uW uX uY uZ va vb vc vd ve vf vg vh vi vj vk vl vm vn vo vp vq vr vs vt vu vv vw vx vy vz vA vB vC vD vE vF vG vH vI vJ vK vL vM vN vO vP vQ vR vS vT vU vV vW vX vY vZ za zb zc zd ze zf zg zh zi zj zk zl zm zn zo zp zq zr zs zt
    have P0_5 : Hid (OwnC wc (w.heap.size) (ovL x1 y1 z1)) := OwnC.call P0_4.out hB
    have P1_5 : Hid (OwnC wc (w.heap.size + 1) (ovL x2 y2 z2)) := OwnC.call P1_4.out hB
    have P2_5 : Hid (OwnC wc (w.heap.size + 1 + 1) z12L) := OwnC.call P2_4.out hB
    have W_5 : Hid (Below w.heap.size w wc) := below_call0 W_4.out hB
    have V5_5 : Hid (OwnC wc bk5 (fvL PP)) := OwnC.call V5_4.out hB
    have V6_5 : Hid (OwnC wc bk6 (numL u)) := OwnC.call V6_4.out hB
    have V7_5 : Hid (OwnC wc bk7 (numL v)) := hO
    clear hB P0_4 P1_4 P2_4 W_4 V5_4 V6_4
    clear hO hle
    generalize wc = w5 at P0_5 P1_5 P2_5 W_5 V5_5 V6_5 V7_5 ⊢
    obtain ⟨fV7z, fV70, fV71, fV72, fV73, fV7f⟩ := (V7_5.out).num
    go_wp2_with fail
    clear fV7z fV70 fV71 fV72 fV73 fV7f
    refine (K10.out _).mono ?_
    rintro e w6 ⟨rfl, hq⟩
    have P0_6 : Hid (OwnC w6 (w.heap.size) (ovL x1 y1 z1)) := OwnC.call P0_5.out hq
    have P1_6 : Hid (OwnC w6 (w.heap.size + 1) (ovL x2 y2 z2)) := OwnC.call P1_5.out hq
    have P2_6 : Hid (OwnC w6 (w.heap.size + 1 + 1) z12L) := OwnC.call P2_5.out hq
    have W_6 : Hid (Below w.heap.size w w6) := below_call0 W_5.out hq
    have V5_6 : Hid (OwnC w6 bk5 (fvL PP)) := OwnC.call V5_5.out hq
    have V6_6 : Hid (OwnC w6 bk6 (numL u)) := OwnC.call V6_5.out hq
    have V7_6 : Hid (OwnC w6 bk7 (numL v)) := OwnC.call V7_5.out hq
    clear hq P0_5 P1_5 P2_5 W_5 V5_5 V6_5 V7_5
    go_upto_region 12 with fail
    go_upto_region 12 with fail
    go_cut [8] (fun vq8 wx => ∃ bk8, vq8 = .pointer (some ⟨bk8, 0, none⟩) ∧ w6.heap.size ≤ bk8 ∧ OwnC wx bk8 (numL z) ∧ Below w6.heap.size w6 wx)
    case first =>
     obtain ⟨fP0z, fP00, fP01, fP02, fP03, fP04, fP05, fP06, fP07, fP08, fP09, fP010, fP011, fP0f⟩ := (P0_6.out).ov
     obtain ⟨fP1z, fP10, fP11, fP12, fP13, fP14, fP15, fP16, fP17, fP18, fP19, fP110, fP111, fP1f⟩ := (P1_6.out).ov
     obtain ⟨fV5z, fV50, fV51, fV52, fV53, fV54, fV55, fV56, fV57, fV5f⟩ := (V5_6.out).fv
     go_wp2_with fail
     clear fP0z fP00 fP01 fP02 fP03 fP04 fP05 fP06 fP07 fP08 fP09 fP010 fP011 fP0f fP1z fP10 fP11 fP12 fP13 fP14 fP15 fP16 fP17 fP18 fP19 fP110 fP111 fP1f fV5z fV50 fV51 fV52 fV53 fV54 fV55 fV56 fV57 fV5f
     refine (K11.out _).mono ?_
     rintro e wx0 ⟨rfl, hq0⟩
     go_wp2_with fail
     go_meet
     exact ⟨_, rfl, hq0.size, OwnC.new' rfl, below_alloc0 hq0 _⟩
    case rest =>
     obtain ⟨bk8, rfl, hle, hO, hB⟩ := hcut
     rename_i un uo up uq ur us ut uu uv uw ux uy uz uA uB uC uD uE uF uG uH uI uJ uK uL uM uN uO uP uQ uR uS uT uU uV uW uX uY uZ va vb vc vd ve vf vg vh vi vj vk vl vm vn vo vp vq vr vs vt vu vv vw vx vy vz vA vB vC vD vE vF vG vH vI vJ vK vL vM vN vO vP vQ vR vS vT vU vV vW vX vY vZ za zb zc zd ze zf zg zh zi zj zk zl zm zn zo zp zq zr zs zt Kq6 hKq6
     clear un uo up uq ur us ut uu uv uw ux uy uz uA uB uC uD uE uF uG uH uI uJ uK uL uM uN uO uP uQ uR uS uT uU uV uW uX uY uZ va vb vc vd ve vf vg vh vi vj vk vl vm vn vo vp vq vr vs vt vu vv vw vx vy vz vA vB vC vD vE vF vG vH vI vJ vK vL vM vN vO vP vQ vR vS vT vU vV vW vX vY vZ za zb zc zd ze zf zg zh zi zj zk zl zm zn zo zp zq zr zs zt
     have P0_7 : Hid (OwnC wc (w.heap.size) (ovL x1 y1 z1)) := OwnC.call P0_6.out hB
     have P1_7 : Hid (OwnC wc (w.heap.size + 1) (ovL x2 y2 z2)) := OwnC.call P1_6.out hB
     have P2_7 : Hid (OwnC wc (w.heap.size + 1 + 1) z12L) := OwnC.call P2_6.out hB
     have W_7 : Hid (Below w.heap.size w wc) := below_call0 W_6.out hB
     have V5_7 : Hid (OwnC wc bk5 (fvL PP)) := OwnC.call V5_6.out hB
     have V6_7 : Hid (OwnC wc bk6 (numL u)) := OwnC.call V6_6.out hB
     have V7_7 : Hid (OwnC wc bk7 (numL v)) := OwnC.call V7_6.out hB
     have V8_7 : Hid (OwnC wc bk8 (numL z)) := hO
     clear hB P0_6 P1_6 P2_6 W_6 V5_6 V6_6 V7_6
     clear hO hle
     generalize wc = w7 at P0_7 P1_7 P2_7 W_7 V5_7 V6_7 V7_7 V8_7 ⊢
     go_upto_region 13 with fail
     go_cut [9] (fun vq9 wx => ∃ bk9, vq9 = .pointer (some ⟨bk9, 0, none⟩) ∧ w7.heap.size ≤ bk9 ∧ OwnC wx bk9 (numL v2) ∧ Below w7.heap.size w7 wx)
     case first =>
      obtain ⟨fV5z, fV50, fV51, fV52, fV53, fV54, fV55, fV56, fV57, fV5f⟩ := (V5_7.out).fv
      obtain ⟨fV7z, fV70, fV71, fV72, fV73, fV7f⟩ := (V7_7.out).num
      go_wp2_with fail
      clear fV5z fV50 fV51 fV52 fV53 fV54 fV55 fV56 fV57 fV5f fV7z fV70 fV71 fV72 fV73 fV7f
      refine (K12.out _).mono ?_
      rintro e wx0 ⟨rfl, hq0⟩
      go_wp2_with fail
      go_meet
      exact ⟨_, rfl, hq0.size, OwnC.new' rfl, below_alloc0 hq0 _⟩
     case rest =>
      obtain ⟨bk9, rfl, hle, hO, hB⟩ := hcut
      rename_i un uo up uq ur us ut uu uv uw ux uy uz uA uB uC uD uE uF uG uH uI uJ uK uL uM uN uO uP uQ uR uS uT uU uV uW uX uY uZ va vb vc vd ve vf vg vh vi vj vk vl vm vn vo vp vq vr vs vt vu vv vw vx vy vz vA vB vC vD vE vF vG vH vI vJ vK vL vM vN vO vP vQ vR vS vT vU vV vW vX vY vZ za zb zc zd ze zf zg zh zi zj zk zl zm zn zo zp zq zr zs zt Kq7 hKq7
      clear un uo up uq ur us ut uu uv uw ux uy uz uA uB uC uD uE uF uG uH uI uJ uK uL uM uN uO uP uQ uR uS uT uU uV uW uX uY uZ va vb vc vd ve vf vg vh vi vj vk vl vm vn vo vp vq vr vs vt vu vv vw vx vy vz vA vB vC vD vE vF vG vH vI vJ vK vL vM vN vO vP vQ vR vS vT vU vV vW vX vY vZ za zb zc zd ze zf zg zh zi zj zk zl zm zn zo zp zq zr zs zt
      have P0_8 : Hid (OwnC wc (w.heap.size) (ovL x1 y1 z1)) := OwnC.call P0_7.out hB
      have P1_8 : Hid (OwnC wc (w.heap.size + 1) (ovL x2 y2 z2)) := OwnC.call P1_7.out hB
      have P2_8 : Hid (OwnC wc (w.heap.size + 1 + 1) z12L) := OwnC.call P2_7.out hB
      have W_8 : Hid (Below w.heap.size w wc) := below_call0 W_7.out hB
      have V5_8 : Hid (OwnC wc bk5 (fvL PP)) := OwnC.call V5_7.out hB
      have V6_8 : Hid (OwnC wc bk6 (numL u)) := OwnC.call V6_7.out hB
      have V7_8 : Hid (OwnC wc bk7 (numL v)) := OwnC.call V7_7.out hB
      have V8_8 : Hid (OwnC wc bk8 (numL z)) := OwnC.call V8_7.out hB
      have V9_8 : Hid (OwnC wc bk9 (numL v2)) := hO
      clear hB P0_7 P1_7 P2_7 W_7 V5_7 V6_7 V7_7 V8_7
      clear hO hle
      generalize wc = w8 at P0_8 P1_8 P2_8 W_8 V5_8 V6_8 V7_8 V8_8 V9_8 ⊢
      go_upto_region 14 with fail
      go_cut [10] (fun vq10 wx => ∃ bk10, vq10 = .pointer (some ⟨bk10, 0, none⟩) ∧ w8.heap.size ≤ bk10 ∧ OwnC wx bk10 (numL v3) ∧ Below w8.heap.size w8 wx)
      case first =>
       obtain ⟨fV5z, fV50, fV51, fV52, fV53, fV54, fV55, fV56, fV57, fV5f⟩ := (V5_8.out).fv
       obtain ⟨fV7z, fV70, fV71, fV72, fV73, fV7f⟩ := (V7_8.out).num
       obtain ⟨fV9z, fV90, fV91, fV92, fV93, fV9f⟩ := (V9_8.out).num
       go_wp2_with fail
       clear fV5z fV50 fV51 fV52 fV53 fV54 fV55 fV56 fV57 fV5f fV7z fV70 fV71 fV72 fV73 fV7f fV9z fV90 fV91 fV92 fV93 fV9f
       refine (K13.out _).mono ?_
       rintro e wx0 ⟨rfl, hq0⟩
       go_wp2_with fail
       go_meet
       exact ⟨_, rfl, hq0.size, OwnC.new' rfl, below_alloc0 hq0 _⟩
      case rest =>
       obtain ⟨bk10, rfl, hle, hO, hB⟩ := hcut
       rename_i un uo up uq ur us ut uu uv uw ux uy uz uA uB uC uD uE uF uG uH uI uJ uK uL uM uN uO uP uQ uR uS uT uU uV uW uX uY uZ va vb vc vd ve vf vg vh vi vj vk vl vm vn vo vp vq vr vs vt vu vv vw vx vy vz vA vB vC vD vE vF vG vH vI vJ vK vL vM vN vO vP vQ vR vS vT vU vV vW vX vY vZ za zb zc zd ze zf zg zh zi zj zk zl zm zn zo zp zq zr zs zt Kq8 hKq8
       clear un uo up uq ur us ut uu uv uw ux uy uz uA uB uC uD uE uF uG uH uI uJ uK uL uM uN uO uP uQ uR uS uT uU uV uW uX uY uZ va vb vc vd ve vf vg vh vi vj vk vl vm vn vo vp vq vr vs vt vu vv vw vx vy vz vA vB vC vD vE vF vG vH vI vJ vK vL vM vN vO vP vQ vR vS vT vU vV vW vX vY vZ za zb zc zd ze zf zg zh zi zj zk zl zm zn zo zp zq zr zs zt
       have P0_9 : Hid (OwnC wc (w.heap.size) (ovL x1 y1 z1)) := OwnC.call P0_8.out hB
       have P1_9 : Hid (OwnC wc (w.heap.size + 1) (ovL x2 y2 z2)) := OwnC.call P1_8.out hB
       have P2_9 : Hid (OwnC wc (w.heap.size + 1 + 1) z12L) := OwnC.call P2_8.out hB
       have W_9 : Hid (Below w.heap.size w wc) := below_call0 W_8.out hB
       have V5_9 : Hid (OwnC wc bk5 (fvL PP)) := OwnC.call V5_8.out hB
       have V6_9 : Hid (OwnC wc bk6 (numL u)) := OwnC.call V6_8.out hB
       have V7_9 : Hid (OwnC wc bk7 (numL v)) := OwnC.call V7_8.out hB
       have V8_9 : Hid (OwnC wc bk8 (numL z)) := OwnC.call V8_8.out hB
       have V9_9 : Hid (OwnC wc bk9 (numL v2)) := OwnC.call V9_8.out hB
       have V10_9 : Hid (OwnC wc bk10 (numL v3)) := hO
       clear hB P0_8 P1_8 P2_8 W_8 V5_8 V6_8 V7_8 V8_8 V9_8
       clear hO hle
       generalize wc = w9 at P0_9 P1_9 P2_9 W_9 V5_9 V6_9 V7_9 V8_9 V9_9 V10_9 ⊢
       go_upto_region 15 with fail
       go_cut [11] (fun vq11 wx => ∃ bk11, vq11 = .pointer (some ⟨bk11, 0, none⟩) ∧ w9.heap.size ≤ bk11 ∧ OwnC wx bk11 (numL ww) ∧ Below w9.heap.size w9 wx)
       case first =>
        refine wp_region_I 10 0 9 [?v0r15, ?v1r15, ?v2r15, ?v3r15, ?v4r15, ?v5r15, ?v6r15, ?v7r15, ?v8r15, undef] [some 72, some 73, some 74, some 75, some 76, some 77, some 78, some 79, some 80, some 11] (fun w b => OwnC w b z4L) ?Ar15 ?oar15 (by kernel_rfl) (by kernel_rfl) (by kernel_rfl) rfl ?hAr15 (fun _ _ _ h hb => h.call hb) ?hopr15 ?hoar15 (by decide) ?halr15 ?hfinr15
        case hAr15 =>
         intro bq
         simp only [List.set_cons_zero, List.set_cons_succ, List.zip_cons_cons, List.zip_nil_right, fillD, Act.put, List.setIfInBounds_toArray]
         exact rfl
        case hopr15 =>
         refine ⟨?_, ?_, ?_, ?_, ?_, ?_, ?_, ?_, ?_, fun h => absurd rfl h, trivial⟩
         focus (intro _ bq wx hS; refine OpTo.yields rfl ?_; obtain ⟨_, _, _, _, _, _, _, _, _, _⟩ := (OwnC.call V5_9.out hS).fv; clear hS; go_simp; try with_reducible rfl)
         focus (intro _ bq wx hS; refine OpTo.yields rfl ?_; obtain ⟨_, _, _, _, _, _⟩ := (OwnC.call V9_9.out hS).num; clear hS; go_simp; try with_reducible rfl)
         focus (intro _ bq wx hS; refine OpTo.yields rfl ?_; obtain ⟨_, _, _, _, _, _, _, _, _, _⟩ := (OwnC.call V5_9.out hS).fv; clear hS; go_simp; try with_reducible rfl)
         focus (intro _ bq wx hS; refine OpTo.yields rfl ?_; clear hS; go_simp; try with_reducible rfl)
         focus (intro _ bq wx hS; refine OpTo.yields rfl ?_; obtain ⟨_, _, _, _, _, _, _, _, _, _, _, _, _, _⟩ := (OwnC.call P0_9.out hS).ov; clear hS; go_simp; try with_reducible rfl)
         focus (intro _ bq wx hS; refine OpTo.yields rfl ?_; clear hS; go_simp; try with_reducible rfl)
         focus (intro _ bq wx hS; refine OpTo.yields rfl ?_; obtain ⟨_, _, _, _, _, _, _, _, _, _, _, _, _, _⟩ := (OwnC.call P1_9.out hS).ov; clear hS; go_simp; try with_reducible rfl)
         focus (intro _ bq wx hS; refine OpTo.calls rfl ?_ ?_; rotate_left; intro K hK; go_simp; refine (K8.out _).mono ?_; rintro e w' ⟨rfl, hq⟩; exact hK w' hq; exact rfl)
         focus (intro _ bq wx hS; refine OpTo.calls rfl ?_ ?_; rotate_left; intro K hK; go_simp; refine (K14.out _).mono ?_; rintro e w' ⟨rfl, hq⟩; exact hK w' hq; exact rfl)
        case hoar15 =>
         rw [List.getElem?_toArray]
         exact rfl
        case halr15 =>
         intro bq wx hS
         refine OpTo.make (ob := ?obr15) (B := fun w b => OwnC w b z4L) hS rfl ?runr15 ?ownr15
         case runr15 =>
          go_simp
          try with_reducible rfl
         case ownr15 => exact OwnC.new' rfl
        case hfinr15 =>
         intro bq wx hS hB hle
         refine tail_at (o := ?ofr15_10) ?hir15_10 ?hwr15_10 ?_
         case hir15_10 => rw [List.getElem?_toArray]; exact rfl
         case hwr15_10 => exact rfl
         obtain ⟨gz, g0, g1, g2, g3, gf⟩ := hB.z4
         go_simp
         clear gz g0 g1 g2 g3 gf
         refine tail_end ?_
         go_wp2_with fail
         go_meet
         exact ⟨bq, rfl, hle, OwnC.put (numL ww) hB rfl, below_putL hle (numL ww) 0 _ hS⟩
       case rest =>
        obtain ⟨bk11, rfl, hle, hO, hB⟩ := hcut
        rename_i un uo up uq ur us ut uu uv uw ux uy uz uA uB uC uD uE uF uG uH uI uJ uK uL uM uN uO uP uQ uR uS uT uU uV uW uX uY uZ va vb vc vd ve vf vg vh vi vj vk vl vm vn vo vp vq vr vs vt vu vv vw vx vy vz vA vB vC vD vE vF vG vH vI vJ vK vL vM vN vO vP vQ vR vS vT vU vV vW vX vY vZ za zb zc zd ze zf zg zh zi zj zk zl zm zn zo zp zq zr zs zt Kq9 hKq9
        clear un uo up uq ur us ut uu uv uw ux uy uz uA uB uC uD uE uF uG uH uI uJ uK uL uM uN uO uP uQ uR uS uT uU uV uW uX uY uZ va vb vc vd ve vf vg vh vi vj vk vl vm vn vo vp vq vr vs vt vu vv vw vx vy vz vA vB vC vD vE vF vG vH vI vJ vK vL vM vN vO vP vQ vR vS vT vU vV vW vX vY vZ za zb zc zd ze zf zg zh zi zj zk zl zm zn zo zp zq zr zs zt
        have P0_10 : Hid (OwnC wc (w.heap.size) (ovL x1 y1 z1)) := OwnC.call P0_9.out hB
        have P1_10 : Hid (OwnC wc (w.heap.size + 1) (ovL x2 y2 z2)) := OwnC.call P1_9.out hB
        have P2_10 : Hid (OwnC wc (w.heap.size + 1 + 1) z12L) := OwnC.call P2_9.out hB
        have W_10 : Hid (Below w.heap.size w wc) := below_call0 W_9.out hB
        have V5_10 : Hid (OwnC wc bk5 (fvL PP)) := OwnC.call V5_9.out hB
        have V6_10 : Hid (OwnC wc bk6 (numL u)) := OwnC.call V6_9.out hB
        have V7_10 : Hid (OwnC wc bk7 (numL v)) := OwnC.call V7_9.out hB
        have V8_10 : Hid (OwnC wc bk8 (numL z)) := OwnC.call V8_9.out hB
        have V10_10 : Hid (OwnC wc bk10 (numL v3)) := OwnC.call V10_9.out hB
        have V11_10 : Hid (OwnC wc bk11 (numL ww)) := hO
        clear hB P0_9 P1_9 P2_9 W_9 V5_9 V6_9 V7_9 V8_9 V9_9 V10_9
        clear hO hle
        generalize wc = w10 at P0_10 P1_10 P2_10 W_10 V5_10 V6_10 V7_10 V8_10 V10_10 V11_10 ⊢
        go_upto_region 16 with fail
        go_cut [12] (fun vq12 wx => ∃ bk12, vq12 = .pointer (some ⟨bk12, 0, none⟩) ∧ w10.heap.size ≤ bk12 ∧ OwnC wx bk12 (numL t) ∧ Below w10.heap.size w10 wx)
        case first =>
         refine wp_region_I 17 0 16 [?v0r16, ?v1r16, ?v2r16, ?v3r16, ?v4r16, ?v5r16, ?v6r16, ?v7r16, ?v8r16, ?v9r16, ?v10r16, ?v11r16, ?v12r16, ?v13r16, ?v14r16, ?v15r16, undef] [some 81, some 82, some 83, some 84, some 85, some 86, some 87, some 88, some 89, some 90, some 91, some 92, some 93, some 94, some 95, some 96, some 12] (fun w b => OwnC w b z4L) ?Ar16 ?oar16 (by kernel_rfl) (by kernel_rfl) (by kernel_rfl) rfl ?hAr16 (fun _ _ _ h hb => h.call hb) ?hopr16 ?hoar16 (by decide) ?halr16 ?hfinr16
         case hAr16 =>
          intro bq
          simp only [List.set_cons_zero, List.set_cons_succ, List.zip_cons_cons, List.zip_nil_right, fillD, Act.put, List.setIfInBounds_toArray]
          exact rfl
         case hopr16 =>
          refine ⟨?_, ?_, ?_, ?_, ?_, ?_, ?_, ?_, ?_, ?_, ?_, ?_, ?_, ?_, ?_, ?_, fun h => absurd rfl h, trivial⟩
          iterate 4 focus (intro _ bq wx hS; refine OpTo.yields rfl ?_; obtain ⟨_, _, _, _, _, _, _, _, _, _⟩ := (OwnC.call V5_10.out hS).fv; clear hS; go_simp; try with_reducible rfl)
          iterate 2 focus (intro _ bq wx hS; refine OpTo.yields rfl ?_; obtain ⟨_, _, _, _, _, _⟩ := (OwnC.call V6_10.out hS).num; clear hS; go_simp; try with_reducible rfl)
          focus (intro _ bq wx hS; refine OpTo.calls rfl ?_ ?_; rotate_left; intro K hK; go_simp; refine (K15.out _).mono ?_; rintro e w' ⟨rfl, hq⟩; exact hK w' hq; exact rfl)
          focus (intro _ bq wx hS; refine OpTo.yields rfl ?_; obtain ⟨_, _, _, _, _, _⟩ := (OwnC.call V8_10.out hS).num; clear hS; go_simp; try with_reducible rfl)
          focus (intro _ bq wx hS; refine OpTo.calls rfl ?_ ?_; rotate_left; intro K hK; go_simp; refine (K16.out _).mono ?_; rintro e w' ⟨rfl, hq⟩; exact hK w' hq; exact rfl)
          focus (intro _ bq wx hS; refine OpTo.yields rfl ?_; obtain ⟨_, _, _, _, _, _⟩ := (OwnC.call V10_10.out hS).num; clear hS; go_simp; try with_reducible rfl)
          focus (intro _ bq wx hS; refine OpTo.calls rfl ?_ ?_; rotate_left; intro K hK; go_simp; refine (K17.out _).mono ?_; rintro e w' ⟨rfl, hq⟩; exact hK w' hq; exact rfl)
          focus (intro _ bq wx hS; refine OpTo.yields rfl ?_; obtain ⟨_, _, _, _, _, _, _, _, _, _⟩ := (OwnC.call V5_10.out hS).fv; clear hS; go_simp; try with_reducible rfl)
          iterate 2 focus (intro _ bq wx hS; refine OpTo.yields rfl ?_; obtain ⟨_, _, _, _, _, _⟩ := (OwnC.call V11_10.out hS).num; clear hS; go_simp; try with_reducible rfl)
          focus (intro _ bq wx hS; refine OpTo.calls rfl ?_ ?_; rotate_left; intro K hK; go_simp; refine (K18.out _).mono ?_; rintro e w' ⟨rfl, hq⟩; exact hK w' hq; exact rfl)
          focus (intro _ bq wx hS; refine OpTo.calls rfl ?_ ?_; rotate_left; intro K hK; go_simp; refine (K19.out _).mono ?_; rintro e w' ⟨rfl, hq⟩; exact hK w' hq; exact rfl)
         case hoar16 =>
          rw [List.getElem?_toArray]
          exact rfl
         case halr16 =>
          intro bq wx hS
          refine OpTo.make (ob := ?obr16) (B := fun w b => OwnC w b z4L) hS rfl ?runr16 ?ownr16
          case runr16 =>
           go_simp
           try with_reducible rfl
          case ownr16 => exact OwnC.new' rfl
         case hfinr16 =>
          intro bq wx hS hB hle
          refine tail_at (o := ?ofr16_17) ?hir16_17 ?hwr16_17 ?_
          case hir16_17 => rw [List.getElem?_toArray]; exact rfl
          case hwr16_17 => exact rfl
          obtain ⟨gz, g0, g1, g2, g3, gf⟩ := hB.z4
          go_simp
          clear gz g0 g1 g2 g3 gf
          refine tail_end ?_
          go_wp2_with fail
          go_meet
          exact ⟨bq, rfl, hle, OwnC.put (numL t) hB rfl, below_putL hle (numL t) 0 _ hS⟩
        case rest =>
         obtain ⟨bk12, rfl, hle, hO, hB⟩ := hcut
         rename_i un uo up uq ur us ut uu uv uw ux uy uz uA uB uC uD uE uF uG uH uI uJ uK uL uM uN uO uP uQ uR uS uT uU uV uW uX uY uZ va vb vc vd ve vf vg vh vi vj vk vl vm vn vo vp vq vr vs vt vu vv vw vx vy vz vA vB vC vD vE vF vG vH vI vJ vK vL vM vN vO vP vQ vR vS vT vU vV vW vX vY vZ za zb zc zd ze zf zg zh zi zj zk zl zm zn zo zp zq zr zs zt Kq10 hKq10
         clear un uo up uq ur us ut uu uv uw ux uy uz uA uB uC uD uE uF uG uH uI uJ uK uL uM uN uO uP uQ uR uS uT uU uV uW uX uY uZ va vb vc vd ve vf vg vh vi vj vk vl vm vn vo vp vq vr vs vt vu vv vw vx vy vz vA vB vC vD vE vF vG vH vI vJ vK vL vM vN vO vP vQ vR vS vT vU vV vW vX vY vZ za zb zc zd ze zf zg zh zi zj zk zl zm zn zo zp zq zr zs zt
         have P0_11 : Hid (OwnC wc (w.heap.size) (ovL x1 y1 z1)) := OwnC.call P0_10.out hB
         have P1_11 : Hid (OwnC wc (w.heap.size + 1) (ovL x2 y2 z2)) := OwnC.call P1_10.out hB
         have P2_11 : Hid (OwnC wc (w.heap.size + 1 + 1) z12L) := OwnC.call P2_10.out hB
         have W_11 : Hid (Below w.heap.size w wc) := below_call0 W_10.out hB
         have V5_11 : Hid (OwnC wc bk5 (fvL PP)) := OwnC.call V5_10.out hB
         have V6_11 : Hid (OwnC wc bk6 (numL u)) := OwnC.call V6_10.out hB
         have V7_11 : Hid (OwnC wc bk7 (numL v)) := OwnC.call V7_10.out hB
         have V8_11 : Hid (OwnC wc bk8 (numL z)) := OwnC.call V8_10.out hB
         have V10_11 : Hid (OwnC wc bk10 (numL v3)) := OwnC.call V10_10.out hB
         have V11_11 : Hid (OwnC wc bk11 (numL ww)) := OwnC.call V11_10.out hB
         have V12_11 : Hid (OwnC wc bk12 (numL t)) := hO
         clear hB P0_10 P1_10 P2_10 W_10 V5_10 V6_10 V7_10 V8_10 V10_10 V11_10
         clear hO hle
         generalize wc = w11 at P0_11 P1_11 P2_11 W_11 V5_11 V6_11 V7_11 V8_11 V10_11 V11_11 V12_11 ⊢
         go_upto_region 17 with fail
         refine wp_region_J 27 0 [?v0r17, ?v1r17, ?v2r17, ?v3r17, ?v4r17, ?v5r17, ?v6r17, ?v7r17, ?v8r17, ?v9r17, ?v10r17, ?v11r17, ?v12r17, ?v13r17, ?v14r17, ?v15r17, ?v16r17, ?v17r17, ?v18r17, ?v19r17, ?v20r17, ?v21r17, ?v22r17, ?v23r17, ?v24r17, ?v25r17, ?v26r17] [some 97, some 98, some 99, some 100, some 101, some 102, some 103, some 104, some 105, some 106, some 107, some 108, some 109, some 110, some 111, some 112, some 113, some 114, some 115, some 116, some 117, some 118, some 119, some 120, some 121, some 122, some 123] ?Ar17 (by kernel_rfl) (by kernel_rfl) (by kernel_rfl) rfl ?hAr17 ?hopr17 ?hfinr17
         case hAr17 =>
          simp only [List.set_cons_zero, List.set_cons_succ, List.zip_cons_cons, List.zip_nil_right, fillD, Act.put, List.setIfInBounds_toArray]
          exact rfl
         case hopr17 =>
          refine ⟨?_, ?_, ?_, ?_, ?_, ?_, ?_, ?_, ?_, ?_, ?_, ?_, ?_, ?_, ?_, ?_, ?_, ?_, ?_, ?_, ?_, ?_, ?_, ?_, ?_, ?_, ?_, trivial⟩
          focus (intro _ bq wx hS; refine OpTo.yields rfl ?_; obtain ⟨_, _, _, _, _, _, _, _, _, _⟩ := (OwnC.call V5_11.out hS).fv; clear hS; go_simp; try with_reducible rfl)
          focus (intro _ bq wx hS; refine OpTo.yields rfl ?_; obtain ⟨_, _, _, _, _, _⟩ := (OwnC.call V7_11.out hS).num; clear hS; go_simp; try with_reducible rfl)
          focus (intro _ bq wx hS; refine OpTo.yields rfl ?_; obtain ⟨_, _, _, _, _, _⟩ := (OwnC.call V12_11.out hS).num; clear hS; go_simp; try with_reducible rfl)
          focus (intro _ bq wx hS; refine OpTo.calls rfl ?_ ?_; rotate_left; intro K hK; go_simp; refine (K20.out _).mono ?_; rintro e w' ⟨rfl, hq⟩; exact hK w' hq; exact rfl)
          iterate 2 focus (intro _ bq wx hS; refine OpTo.yields rfl ?_; obtain ⟨_, _, _, _, _, _, _, _, _, _⟩ := (OwnC.call V5_11.out hS).fv; clear hS; go_simp; try with_reducible rfl)
          focus (intro _ bq wx hS; refine OpTo.yields rfl ?_; obtain ⟨_, _, _, _, _, _⟩ := (OwnC.call V6_11.out hS).num; clear hS; go_simp; try with_reducible rfl)
          focus (intro _ bq wx hS; refine OpTo.yields rfl ?_; obtain ⟨_, _, _, _, _, _, _, _, _, _⟩ := (OwnC.call V5_11.out hS).fv; clear hS; go_simp; try with_reducible rfl)
          focus (intro _ bq wx hS; refine OpTo.yields rfl ?_; obtain ⟨_, _, _, _, _, _⟩ := (OwnC.call V11_11.out hS).num; clear hS; go_simp; try with_reducible rfl)
          focus (intro _ bq wx hS; refine OpTo.yields rfl ?_; obtain ⟨_, _, _, _, _, _⟩ := (OwnC.call V12_11.out hS).num; clear hS; go_simp; try with_reducible rfl)
          focus (intro _ bq wx hS; refine OpTo.calls rfl ?_ ?_; rotate_left; intro K hK; go_simp; refine (K21.out _).mono ?_; rintro e w' ⟨rfl, hq⟩; exact hK w' hq; exact rfl)
          focus (intro _ bq wx hS; refine OpTo.calls rfl ?_ ?_; rotate_left; intro K hK; go_simp; refine (K22.out _).mono ?_; rintro e w' ⟨rfl, hq⟩; exact hK w' hq; exact rfl)
          focus (intro _ bq wx hS; refine OpTo.yields rfl ?_; obtain ⟨_, _, _, _, _, _, _, _, _, _⟩ := (OwnC.call V5_11.out hS).fv; clear hS; go_simp; try with_reducible rfl)
          focus (intro _ bq wx hS; refine OpTo.yields rfl ?_; obtain ⟨_, _, _, _, _, _⟩ := (OwnC.call V10_11.out hS).num; clear hS; go_simp; try with_reducible rfl)
          focus (intro _ bq wx hS; refine OpTo.yields rfl ?_; obtain ⟨_, _, _, _, _, _, _, _, _, _⟩ := (OwnC.call V5_11.out hS).fv; clear hS; go_simp; try with_reducible rfl)
          focus (intro _ bq wx hS; refine OpTo.yields rfl ?_; clear hS; go_simp; try with_reducible rfl)
          focus (intro _ bq wx hS; refine OpTo.yields rfl ?_; obtain ⟨_, _, _, _, _, _, _, _, _, _, _, _, _, _⟩ := (OwnC.call P0_11.out hS).ov; clear hS; go_simp; try with_reducible rfl)
          focus (intro _ bq wx hS; refine OpTo.yields rfl ?_; clear hS; go_simp; try with_reducible rfl)
          focus (intro _ bq wx hS; refine OpTo.yields rfl ?_; obtain ⟨_, _, _, _, _, _, _, _, _, _, _, _, _, _⟩ := (OwnC.call P1_11.out hS).ov; clear hS; go_simp; try with_reducible rfl)
          focus (intro _ bq wx hS; refine OpTo.calls rfl ?_ ?_; rotate_left; intro K hK; go_simp; refine (K5.out _).mono ?_; rintro e w' ⟨rfl, hq⟩; exact hK w' hq; exact rfl)
          focus (intro _ bq wx hS; refine OpTo.calls rfl ?_ ?_; rotate_left; intro K hK; go_simp; refine (K23.out _).mono ?_; rintro e w' ⟨rfl, hq⟩; exact hK w' hq; exact rfl)
          focus (intro _ bq wx hS; refine OpTo.calls rfl ?_ ?_; rotate_left; intro K hK; go_simp; refine (K24.out _).mono ?_; rintro e w' ⟨rfl, hq⟩; exact hK w' hq; exact rfl)
          focus (intro _ bq wx hS; refine OpTo.yields rfl ?_; obtain ⟨_, _, _, _, _, _, _, _, _, _⟩ := (OwnC.call V5_11.out hS).fv; clear hS; go_simp; try with_reducible rfl)
          focus (intro _ bq wx hS; refine OpTo.yields rfl ?_; obtain ⟨_, _, _, _, _, _⟩ := (OwnC.call V10_11.out hS).num; clear hS; go_simp; try with_reducible rfl)
          focus (intro _ bq wx hS; refine OpTo.yields rfl ?_; obtain ⟨_, _, _, _, _, _⟩ := (OwnC.call V8_11.out hS).num; clear hS; go_simp; try with_reducible rfl)
          focus (intro _ bq wx hS; refine OpTo.calls rfl ?_ ?_; rotate_left; intro K hK; go_simp; refine (K25.out _).mono ?_; rintro e w' ⟨rfl, hq⟩; exact hK w' hq; exact rfl)
          focus (intro _ bq wx hS; refine OpTo.yields rfl ?_; clear hS; go_simp; try with_reducible rfl)
         case hfinr17 =>
          intro wx hS
          refine tail_at (o := ?ofr17_27) ?hir17_27 ?hwr17_27 ?_
          case hir17_27 => rw [List.getElem?_toArray]; exact rfl
          case hwr17_27 => exact rfl
          obtain ⟨gP2z, gP20, gP21, gP22, gP23, gP24, gP25, gP26, gP27, gP28, gP29, gP210, gP211, gP2f⟩ := (OwnC.call P2_11.out hS).z12
          go_simp
          clear gP2z gP20 gP21 gP22 gP23 gP24 gP25 gP26 gP27 gP28 gP29 gP210 gP211 gP2f
          refine tail_end ?_
          obtain ⟨wz, hwz⟩ : ∃ wq, wq = ((((((((((((wx.setCell ⟨(w.heap.size + 1 + 1), 0, none⟩ (.int .u64 (limb (X) 0 : Nat))).setCell ⟨(w.heap.size + 1 + 1), 1, none⟩ (.int .u64 (limb (X) 1 : Nat))).setCell ⟨(w.heap.size + 1 + 1), 2, none⟩ (.int .u64 (limb (X) 2 : Nat))).setCell ⟨(w.heap.size + 1 + 1), 3, none⟩ (.int .u64 (limb (X) 3 : Nat))).setCell ⟨(w.heap.size + 1 + 1), 4, none⟩ (.int .u64 (limb (Y) 0 : Nat))).setCell ⟨(w.heap.size + 1 + 1), 5, none⟩ (.int .u64 (limb (Y) 1 : Nat))).setCell ⟨(w.heap.size + 1 + 1), 6, none⟩ (.int .u64 (limb (Y) 2 : Nat))).setCell ⟨(w.heap.size + 1 + 1), 7, none⟩ (.int .u64 (limb (Y) 3 : Nat))).setCell ⟨(w.heap.size + 1 + 1), 8, none⟩ (.int .u64 (limb (Z) 0 : Nat))).setCell ⟨(w.heap.size + 1 + 1), 9, none⟩ (.int .u64 (limb (Z) 1 : Nat))).setCell ⟨(w.heap.size + 1 + 1), 10, none⟩ (.int .u64 (limb (Z) 2 : Nat))).setCell ⟨(w.heap.size + 1 + 1), 11, none⟩ (.int .u64 (limb (Z) 3 : Nat))) := ⟨_, rfl⟩
          rw [← hwz]
          have hwy : wz = putL (w.heap.size + 1 + 1) 0 (ovL X Y Z) wx := hwz
          have HZ : OwnC wz (w.heap.size + 1 + 1) (ovL X Y Z) ∧ Below w.heap.size w wz := by
           rw [hwy]
           exact ⟨OwnC.put (ovL X Y Z) (OwnC.call P2_11.out hS) rfl, below_putL (Nat.le_succ_of_le (Nat.le_succ_of_le (Nat.le_refl _))) (ovL X Y Z) 0 _ (below_call0 W_11.out hS)⟩
          clear hwz hwy
          obtain ⟨hO, HB⟩ := HZ
          obtain ⟨rz, r0, r1, r2, r3, r4, r5, r6, r7, r8, r9, r10, r11, rf⟩ := hO.ov
          rename_i Kz hKz
          refine hKz _ _ ?_
          refine wp_ret ?_
          refine bodyPost_ret (v := .agg #[.int .u64 (limb (X) 0 : Nat), .int .u64 (limb (X) 1 : Nat), .int .u64 (limb (X) 2 : Nat), .int .u64 (limb (X) 3 : Nat), .int .u64 (limb (Y) 0 : Nat), .int .u64 (limb (Y) 1 : Nat), .int .u64 (limb (Y) 2 : Nat), .int .u64 (limb (Y) 3 : Nat), .int .u64 (limb (Z) 0 : Nat), .int .u64 (limb (Z) 1 : Nat), .int .u64 (limb (Z) 2 : Nat), .int .u64 (limb (Z) 3 : Nat)]) ?_ rfl ⟨rfl, HB⟩
          simp [results, Tryd.results20, go_sem, r0, r1, r2, r3, r4, r5, r6, r7, r8, r9, r10, r11]
end Go.Proofs.YtfkpbcionlidaaaDoor
