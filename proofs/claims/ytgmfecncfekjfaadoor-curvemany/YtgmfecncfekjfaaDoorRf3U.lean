/- The reference's curve: Add, Neg, Mul. -/
import Derived.Test.YtgmfecncfekjfaaDoorRf3T
import Derived.Test.YtgmfecncfekjfaaDoorRf3I
namespace Go.Proofs.YtgmfecncfekjfaaDoor
open Go Go.RowKit Go.Lib

set_option maxRecDepth 100000 in
set_option maxHeartbeats 4000000 in
theorem add3_bad1 (x y u v : Nat) (i j : Bool) (hX : x < R256) (hY : y < R256) (hk : ptOk x y i = false) (w : World) :
  Calls Tryd.prog 10 #[.agg #[.int .u64 (limb (x) 0 : Nat), .int .u64 (limb (x) 1 : Nat), .int .u64 (limb (x) 2 : Nat), .int .u64 (limb (x) 3 : Nat), .int .u64 (limb (y) 0 : Nat), .int .u64 (limb (y) 1 : Nat), .int .u64 (limb (y) 2 : Nat), .int .u64 (limb (y) 3 : Nat), .bool i], .agg #[.int .u64 (limb (u) 0 : Nat), .int .u64 (limb (u) 1 : Nat), .int .u64 (limb (u) 2 : Nat), .int .u64 (limb (u) 3 : Nat), .int .u64 (limb (v) 0 : Nat), .int .u64 (limb (v) 1 : Nat), .int .u64 (limb (v) 2 : Nat), .int .u64 (limb (v) 3 : Nat), .bool j]] w fun e w' => e = .returned (.tuple #[.agg #[.int .u64 0, .int .u64 0, .int .u64 0, .int .u64 0, .int .u64 0, .int .u64 0, .int .u64 0, .int .u64 0, .bool false], .int .i64 30]) ∧ Below w.heap.size w w' := by
 have K1 : Hid (∀ w, Calls Tryd.prog 12 #[.agg #[.int .u64 (limb (x) 0 : Nat), .int .u64 (limb (x) 1 : Nat), .int .u64 (limb (x) 2 : Nat), .int .u64 (limb (x) 3 : Nat), .int .u64 (limb (y) 0 : Nat), .int .u64 (limb (y) 1 : Nat), .int .u64 (limb (y) 2 : Nat), .int .u64 (limb (y) 3 : Nat), .bool i]] w fun e w' => e = .returned (.bool false) ∧ Below w.heap.size w w') := fun w => by have k := is3_any x y i hX hY w; rw [hk] at k; exact k
 obtain ⟨w0, hw0⟩ : ∃ wq, wq = (((w.alloc (.cells #[.int .u64 (limb (x) 0 : Nat), .int .u64 (limb (x) 1 : Nat), .int .u64 (limb (x) 2 : Nat), .int .u64 (limb (x) 3 : Nat), .int .u64 (limb (y) 0 : Nat), .int .u64 (limb (y) 1 : Nat), .int .u64 (limb (y) 2 : Nat), .int .u64 (limb (y) 3 : Nat), .bool i] 26)).alloc (.cells #[.int .u64 (limb (u) 0 : Nat), .int .u64 (limb (u) 1 : Nat), .int .u64 (limb (u) 2 : Nat), .int .u64 (limb (u) 3 : Nat), .int .u64 (limb (v) 0 : Nat), .int .u64 (limb (v) 1 : Nat), .int .u64 (limb (v) 2 : Nat), .int .u64 (limb (v) 3 : Nat), .bool j] 26)).alloc (.cells #[.int .u64 0, .int .u64 0, .int .u64 0, .int .u64 0, .int .u64 0, .int .u64 0, .int .u64 0, .int .u64 0, .bool false] 26)) := ⟨_, rfl⟩
 have H0 : Hid (OwnC w0 (w.heap.size) (ptL x y i)) ∧ Hid (OwnC w0 (w.heap.size + 1) (ptL u v j)) ∧ Hid (OwnC w0 (w.heap.size + 1 + 1) zpL) ∧ Hid (Below w.heap.size w w0) := by
  rw [hw0]
  exact ⟨(OwnC.new' rfl).alloc.alloc, (OwnC.new' (by simp only [World.size_alloc])).alloc, (OwnC.new' (by simp only [World.size_alloc])), below_alloc0 (below_alloc0 (below_alloc0 (Below.refl _ _) _) _) _⟩
 obtain ⟨P0_0, P1_0, P2_0, W_0⟩ := H0
 clear hX hY hk
 go_enter Tryd.func10, Tryd.ntmps10
 go_upto_region 1 with fail
 rw [← hw0]
 clear hw0
 obtain ⟨fP0z, fP00, fP01, fP02, fP03, fP04, fP05, fP06, fP07, fP08, fP0f⟩ := (P0_0.out).pt
 go_wp2_with fail
 clear fP0z fP00 fP01 fP02 fP03 fP04 fP05 fP06 fP07 fP08 fP0f
 refine (K1.out _).mono ?_
 rintro e w1 ⟨rfl, hq⟩
 have P0_1 : Hid (OwnC w1 (w.heap.size) (ptL x y i)) := OwnC.call P0_0.out hq
 have P1_1 : Hid (OwnC w1 (w.heap.size + 1) (ptL u v j)) := OwnC.call P1_0.out hq
 have P2_1 : Hid (OwnC w1 (w.heap.size + 1 + 1) zpL) := OwnC.call P2_0.out hq
 have W_1 : Hid (Below w.heap.size w w1) := below_call0 W_0.out hq
 clear hq P0_0 P1_0 P2_0 W_0
 obtain ⟨fP2z, fP20, fP21, fP22, fP23, fP24, fP25, fP26, fP27, fP28, fP2f⟩ := (P2_1.out).zp
 go_wp2_with fail
 clear fP2z fP20 fP21 fP22 fP23 fP24 fP25 fP26 fP27 fP28 fP2f
 obtain ⟨wz, hwz⟩ : ∃ wq, wq = (((((((((w1.setCell ⟨(w.heap.size + 1 + 1), 0, none⟩ (.int .u64 0)).setCell ⟨(w.heap.size + 1 + 1), 1, none⟩ (.int .u64 0)).setCell ⟨(w.heap.size + 1 + 1), 2, none⟩ (.int .u64 0)).setCell ⟨(w.heap.size + 1 + 1), 3, none⟩ (.int .u64 0)).setCell ⟨(w.heap.size + 1 + 1), 4, none⟩ (.int .u64 0)).setCell ⟨(w.heap.size + 1 + 1), 5, none⟩ (.int .u64 0)).setCell ⟨(w.heap.size + 1 + 1), 6, none⟩ (.int .u64 0)).setCell ⟨(w.heap.size + 1 + 1), 7, none⟩ (.int .u64 0)).setCell ⟨(w.heap.size + 1 + 1), 8, none⟩ (.bool false)) := ⟨_, rfl⟩
 rw [← hwz]
 have hwy : wz = putL (w.heap.size + 1 + 1) 0 zpL w1 := hwz
 have HZ : OwnC wz (w.heap.size + 1 + 1) zpL ∧ Below w.heap.size w wz := by
  rw [hwy]
  exact ⟨OwnC.put zpL P2_1.out rfl, below_putL (Nat.le_succ_of_le (Nat.le_succ_of_le (Nat.le_refl _))) zpL 0 _ W_1.out⟩
 clear hwz hwy
 obtain ⟨hO, HB⟩ := HZ
 obtain ⟨rz, r0, r1, r2, r3, r4, r5, r6, r7, r8, rf⟩ := hO.zp
 refine bodyPost_ret (v := .tuple #[.agg #[.int .u64 0, .int .u64 0, .int .u64 0, .int .u64 0, .int .u64 0, .int .u64 0, .int .u64 0, .int .u64 0, .bool false], .int .i64 30]) ?_ rfl ⟨rfl, HB⟩
 simp [results, Tryd.results10, go_sem, r0, r1, r2, r3, r4, r5, r6, r7, r8]
set_option maxRecDepth 100000 in
set_option maxHeartbeats 4000000 in
theorem add3_bad2 (a : Pts) (u v : Nat) (j : Bool) (hU : u < R256) (hV : v < R256) (hk : ptOk u v j = false) (w : World) :
  Calls Tryd.prog 10 #[.agg #[.int .u64 (limb (pX a) 0 : Nat), .int .u64 (limb (pX a) 1 : Nat), .int .u64 (limb (pX a) 2 : Nat), .int .u64 (limb (pX a) 3 : Nat), .int .u64 (limb (pY a) 0 : Nat), .int .u64 (limb (pY a) 1 : Nat), .int .u64 (limb (pY a) 2 : Nat), .int .u64 (limb (pY a) 3 : Nat), .bool (pI a)], .agg #[.int .u64 (limb (u) 0 : Nat), .int .u64 (limb (u) 1 : Nat), .int .u64 (limb (u) 2 : Nat), .int .u64 (limb (u) 3 : Nat), .int .u64 (limb (v) 0 : Nat), .int .u64 (limb (v) 1 : Nat), .int .u64 (limb (v) 2 : Nat), .int .u64 (limb (v) 3 : Nat), .bool j]] w fun e w' => e = .returned (.tuple #[.agg #[.int .u64 0, .int .u64 0, .int .u64 0, .int .u64 0, .int .u64 0, .int .u64 0, .int .u64 0, .int .u64 0, .bool false], .int .i64 30]) ∧ Below w.heap.size w w' := by
 have K1 : Hid (∀ w, Calls Tryd.prog 12 #[.agg #[.int .u64 (limb (pX a) 0 : Nat), .int .u64 (limb (pX a) 1 : Nat), .int .u64 (limb (pX a) 2 : Nat), .int .u64 (limb (pX a) 3 : Nat), .int .u64 (limb (pY a) 0 : Nat), .int .u64 (limb (pY a) 1 : Nat), .int .u64 (limb (pY a) 2 : Nat), .int .u64 (limb (pY a) 3 : Nat), .bool (pI a)]] w fun e w' => e = .returned (.bool true) ∧ Below w.heap.size w w') := fun w => by have k := is3_A a w; exact k
 have K2 : Hid (∀ w, Calls Tryd.prog 12 #[.agg #[.int .u64 (limb (u) 0 : Nat), .int .u64 (limb (u) 1 : Nat), .int .u64 (limb (u) 2 : Nat), .int .u64 (limb (u) 3 : Nat), .int .u64 (limb (v) 0 : Nat), .int .u64 (limb (v) 1 : Nat), .int .u64 (limb (v) 2 : Nat), .int .u64 (limb (v) 3 : Nat), .bool j]] w fun e w' => e = .returned (.bool false) ∧ Below w.heap.size w w') := fun w => by have k := is3_any u v j hU hV w; rw [hk] at k; exact k
 obtain ⟨w0, hw0⟩ : ∃ wq, wq = (((w.alloc (.cells #[.int .u64 (limb (pX a) 0 : Nat), .int .u64 (limb (pX a) 1 : Nat), .int .u64 (limb (pX a) 2 : Nat), .int .u64 (limb (pX a) 3 : Nat), .int .u64 (limb (pY a) 0 : Nat), .int .u64 (limb (pY a) 1 : Nat), .int .u64 (limb (pY a) 2 : Nat), .int .u64 (limb (pY a) 3 : Nat), .bool (pI a)] 26)).alloc (.cells #[.int .u64 (limb (u) 0 : Nat), .int .u64 (limb (u) 1 : Nat), .int .u64 (limb (u) 2 : Nat), .int .u64 (limb (u) 3 : Nat), .int .u64 (limb (v) 0 : Nat), .int .u64 (limb (v) 1 : Nat), .int .u64 (limb (v) 2 : Nat), .int .u64 (limb (v) 3 : Nat), .bool j] 26)).alloc (.cells #[.int .u64 0, .int .u64 0, .int .u64 0, .int .u64 0, .int .u64 0, .int .u64 0, .int .u64 0, .int .u64 0, .bool false] 26)) := ⟨_, rfl⟩
 have H0 : Hid (OwnC w0 (w.heap.size) (ptL (pX a) (pY a) (pI a))) ∧ Hid (OwnC w0 (w.heap.size + 1) (ptL u v j)) ∧ Hid (OwnC w0 (w.heap.size + 1 + 1) zpL) ∧ Hid (Below w.heap.size w w0) := by
  rw [hw0]
  exact ⟨(OwnC.new' rfl).alloc.alloc, (OwnC.new' (by simp only [World.size_alloc])).alloc, (OwnC.new' (by simp only [World.size_alloc])), below_alloc0 (below_alloc0 (below_alloc0 (Below.refl _ _) _) _) _⟩
 obtain ⟨P0_0, P1_0, P2_0, W_0⟩ := H0
 clear hU hV hk
 go_enter Tryd.func10, Tryd.ntmps10
 go_upto_region 1 with fail
 rw [← hw0]
 clear hw0
 obtain ⟨fP0z, fP00, fP01, fP02, fP03, fP04, fP05, fP06, fP07, fP08, fP0f⟩ := (P0_0.out).pt
 go_wp2_with fail
 clear fP0z fP00 fP01 fP02 fP03 fP04 fP05 fP06 fP07 fP08 fP0f
 refine (K1.out _).mono ?_
 rintro e w1 ⟨rfl, hq⟩
 have P0_1 : Hid (OwnC w1 (w.heap.size) (ptL (pX a) (pY a) (pI a))) := OwnC.call P0_0.out hq
 have P1_1 : Hid (OwnC w1 (w.heap.size + 1) (ptL u v j)) := OwnC.call P1_0.out hq
 have P2_1 : Hid (OwnC w1 (w.heap.size + 1 + 1) zpL) := OwnC.call P2_0.out hq
 have W_1 : Hid (Below w.heap.size w w1) := below_call0 W_0.out hq
 clear hq P0_0 P1_0 P2_0 W_0
 obtain ⟨fP1z, fP10, fP11, fP12, fP13, fP14, fP15, fP16, fP17, fP18, fP1f⟩ := (P1_1.out).pt
 go_wp2_with fail
 clear fP1z fP10 fP11 fP12 fP13 fP14 fP15 fP16 fP17 fP18 fP1f
 refine (K2.out _).mono ?_
 rintro e w2 ⟨rfl, hq⟩
 have P0_2 : Hid (OwnC w2 (w.heap.size) (ptL (pX a) (pY a) (pI a))) := OwnC.call P0_1.out hq
 have P1_2 : Hid (OwnC w2 (w.heap.size + 1) (ptL u v j)) := OwnC.call P1_1.out hq
 have P2_2 : Hid (OwnC w2 (w.heap.size + 1 + 1) zpL) := OwnC.call P2_1.out hq
 have W_2 : Hid (Below w.heap.size w w2) := below_call0 W_1.out hq
 clear hq P0_1 P1_1 P2_1 W_1
 obtain ⟨fP2z, fP20, fP21, fP22, fP23, fP24, fP25, fP26, fP27, fP28, fP2f⟩ := (P2_2.out).zp
 go_wp2_with fail
 clear fP2z fP20 fP21 fP22 fP23 fP24 fP25 fP26 fP27 fP28 fP2f
 obtain ⟨wz, hwz⟩ : ∃ wq, wq = (((((((((w2.setCell ⟨(w.heap.size + 1 + 1), 0, none⟩ (.int .u64 0)).setCell ⟨(w.heap.size + 1 + 1), 1, none⟩ (.int .u64 0)).setCell ⟨(w.heap.size + 1 + 1), 2, none⟩ (.int .u64 0)).setCell ⟨(w.heap.size + 1 + 1), 3, none⟩ (.int .u64 0)).setCell ⟨(w.heap.size + 1 + 1), 4, none⟩ (.int .u64 0)).setCell ⟨(w.heap.size + 1 + 1), 5, none⟩ (.int .u64 0)).setCell ⟨(w.heap.size + 1 + 1), 6, none⟩ (.int .u64 0)).setCell ⟨(w.heap.size + 1 + 1), 7, none⟩ (.int .u64 0)).setCell ⟨(w.heap.size + 1 + 1), 8, none⟩ (.bool false)) := ⟨_, rfl⟩
 rw [← hwz]
 have hwy : wz = putL (w.heap.size + 1 + 1) 0 zpL w2 := hwz
 have HZ : OwnC wz (w.heap.size + 1 + 1) zpL ∧ Below w.heap.size w wz := by
  rw [hwy]
  exact ⟨OwnC.put zpL P2_2.out rfl, below_putL (Nat.le_succ_of_le (Nat.le_succ_of_le (Nat.le_refl _))) zpL 0 _ W_2.out⟩
 clear hwz hwy
 obtain ⟨hO, HB⟩ := HZ
 obtain ⟨rz, r0, r1, r2, r3, r4, r5, r6, r7, r8, rf⟩ := hO.zp
 refine bodyPost_ret (v := .tuple #[.agg #[.int .u64 0, .int .u64 0, .int .u64 0, .int .u64 0, .int .u64 0, .int .u64 0, .int .u64 0, .int .u64 0, .bool false], .int .i64 30]) ?_ rfl ⟨rfl, HB⟩
 simp [results, Tryd.results10, go_sem, r0, r1, r2, r3, r4, r5, r6, r7, r8]
set_option maxRecDepth 100000 in
set_option maxHeartbeats 4000000 in
theorem add3_A (a b : Pts) (w : World) :
  Calls Tryd.prog 10 #[.agg #[.int .u64 (limb (pX a) 0 : Nat), .int .u64 (limb (pX a) 1 : Nat), .int .u64 (limb (pX a) 2 : Nat), .int .u64 (limb (pX a) 3 : Nat), .int .u64 (limb (pY a) 0 : Nat), .int .u64 (limb (pY a) 1 : Nat), .int .u64 (limb (pY a) 2 : Nat), .int .u64 (limb (pY a) 3 : Nat), .bool (pI a)], .agg #[.int .u64 (limb (pX b) 0 : Nat), .int .u64 (limb (pX b) 1 : Nat), .int .u64 (limb (pX b) 2 : Nat), .int .u64 (limb (pX b) 3 : Nat), .int .u64 (limb (pY b) 0 : Nat), .int .u64 (limb (pY b) 1 : Nat), .int .u64 (limb (pY b) 2 : Nat), .int .u64 (limb (pY b) 3 : Nat), .bool (pI b)]] w fun e w' => e = .returned (.tuple #[.agg #[.int .u64 (limb (pX (gr.add a b)) 0 : Nat), .int .u64 (limb (pX (gr.add a b)) 1 : Nat), .int .u64 (limb (pX (gr.add a b)) 2 : Nat), .int .u64 (limb (pX (gr.add a b)) 3 : Nat), .int .u64 (limb (pY (gr.add a b)) 0 : Nat), .int .u64 (limb (pY (gr.add a b)) 1 : Nat), .int .u64 (limb (pY (gr.add a b)) 2 : Nat), .int .u64 (limb (pY (gr.add a b)) 3 : Nat), .bool (pI (gr.add a b))], .int .i64 0]) ∧ Below w.heap.size w w' := by
 have K1 : Hid (∀ w, Calls Tryd.prog 12 #[.agg #[.int .u64 (limb (pX a) 0 : Nat), .int .u64 (limb (pX a) 1 : Nat), .int .u64 (limb (pX a) 2 : Nat), .int .u64 (limb (pX a) 3 : Nat), .int .u64 (limb (pY a) 0 : Nat), .int .u64 (limb (pY a) 1 : Nat), .int .u64 (limb (pY a) 2 : Nat), .int .u64 (limb (pY a) 3 : Nat), .bool (pI a)]] w fun e w' => e = .returned (.bool true) ∧ Below w.heap.size w w') := fun w => by have k := is3_A a w; exact k
 have K2 : Hid (∀ w, Calls Tryd.prog 12 #[.agg #[.int .u64 (limb (pX b) 0 : Nat), .int .u64 (limb (pX b) 1 : Nat), .int .u64 (limb (pX b) 2 : Nat), .int .u64 (limb (pX b) 3 : Nat), .int .u64 (limb (pY b) 0 : Nat), .int .u64 (limb (pY b) 1 : Nat), .int .u64 (limb (pY b) 2 : Nat), .int .u64 (limb (pY b) 3 : Nat), .bool (pI b)]] w fun e w' => e = .returned (.bool true) ∧ Below w.heap.size w w') := fun w => by have k := is3_A b w; exact k
 obtain ⟨X1, Y1, Z1, o1, q1⟩ := in3_A a
 have K3 : Hid (∀ w, Calls Tryd.prog 35 #[.agg #[.int .u64 (limb (pX a) 0 : Nat), .int .u64 (limb (pX a) 1 : Nat), .int .u64 (limb (pX a) 2 : Nat), .int .u64 (limb (pX a) 3 : Nat), .int .u64 (limb (pY a) 0 : Nat), .int .u64 (limb (pY a) 1 : Nat), .int .u64 (limb (pY a) 2 : Nat), .int .u64 (limb (pY a) 3 : Nat), .bool (pI a)]] w fun e w' => e = .returned (.agg #[.int .u64 (limb (X1) 0 : Nat), .int .u64 (limb (X1) 1 : Nat), .int .u64 (limb (X1) 2 : Nat), .int .u64 (limb (X1) 3 : Nat), .int .u64 (limb (Y1) 0 : Nat), .int .u64 (limb (Y1) 1 : Nat), .int .u64 (limb (Y1) 2 : Nat), .int .u64 (limb (Y1) 3 : Nat), .int .u64 (limb (Z1) 0 : Nat), .int .u64 (limb (Z1) 1 : Nat), .int .u64 (limb (Z1) 2 : Nat), .int .u64 (limb (Z1) 3 : Nat)]) ∧ Below w.heap.size w w') := q1
 obtain ⟨X2, Y2, Z2, o2, q2⟩ := in3_A b
 have K4 : Hid (∀ w, Calls Tryd.prog 35 #[.agg #[.int .u64 (limb (pX b) 0 : Nat), .int .u64 (limb (pX b) 1 : Nat), .int .u64 (limb (pX b) 2 : Nat), .int .u64 (limb (pX b) 3 : Nat), .int .u64 (limb (pY b) 0 : Nat), .int .u64 (limb (pY b) 1 : Nat), .int .u64 (limb (pY b) 2 : Nat), .int .u64 (limb (pY b) 3 : Nat), .bool (pI b)]] w fun e w' => e = .returned (.agg #[.int .u64 (limb (X2) 0 : Nat), .int .u64 (limb (X2) 1 : Nat), .int .u64 (limb (X2) 2 : Nat), .int .u64 (limb (X2) 3 : Nat), .int .u64 (limb (Y2) 0 : Nat), .int .u64 (limb (Y2) 1 : Nat), .int .u64 (limb (Y2) 2 : Nat), .int .u64 (limb (Y2) 3 : Nat), .int .u64 (limb (Z2) 0 : Nat), .int .u64 (limb (Z2) 1 : Nat), .int .u64 (limb (Z2) 2 : Nat), .int .u64 (limb (Z2) 3 : Nat)]) ∧ Below w.heap.size w w') := q2
 obtain ⟨X3, Y3, Z3, o3, q3⟩ := plus3_A _ _ _ _ _ _ a b o1 o2
 have K5 : Hid (∀ w, Calls Tryd.prog 34 #[.agg #[.int .u64 (limb (X1) 0 : Nat), .int .u64 (limb (X1) 1 : Nat), .int .u64 (limb (X1) 2 : Nat), .int .u64 (limb (X1) 3 : Nat), .int .u64 (limb (Y1) 0 : Nat), .int .u64 (limb (Y1) 1 : Nat), .int .u64 (limb (Y1) 2 : Nat), .int .u64 (limb (Y1) 3 : Nat), .int .u64 (limb (Z1) 0 : Nat), .int .u64 (limb (Z1) 1 : Nat), .int .u64 (limb (Z1) 2 : Nat), .int .u64 (limb (Z1) 3 : Nat)], .agg #[.int .u64 (limb (X2) 0 : Nat), .int .u64 (limb (X2) 1 : Nat), .int .u64 (limb (X2) 2 : Nat), .int .u64 (limb (X2) 3 : Nat), .int .u64 (limb (Y2) 0 : Nat), .int .u64 (limb (Y2) 1 : Nat), .int .u64 (limb (Y2) 2 : Nat), .int .u64 (limb (Y2) 3 : Nat), .int .u64 (limb (Z2) 0 : Nat), .int .u64 (limb (Z2) 1 : Nat), .int .u64 (limb (Z2) 2 : Nat), .int .u64 (limb (Z2) 3 : Nat)]] w fun e w' => e = .returned (.agg #[.int .u64 (limb (X3) 0 : Nat), .int .u64 (limb (X3) 1 : Nat), .int .u64 (limb (X3) 2 : Nat), .int .u64 (limb (X3) 3 : Nat), .int .u64 (limb (Y3) 0 : Nat), .int .u64 (limb (Y3) 1 : Nat), .int .u64 (limb (Y3) 2 : Nat), .int .u64 (limb (Y3) 3 : Nat), .int .u64 (limb (Z3) 0 : Nat), .int .u64 (limb (Z3) 1 : Nat), .int .u64 (limb (Z3) 2 : Nat), .int .u64 (limb (Z3) 3 : Nat)]) ∧ Below w.heap.size w w') := q3
 obtain ⟨p1, ep1⟩ : ∃ uq, uq = gr.add a b := ⟨_, rfl⟩
 rw [← ep1]
 have K6 : Hid (∀ w, Calls Tryd.prog 33 #[.agg #[.int .u64 (limb (X3) 0 : Nat), .int .u64 (limb (X3) 1 : Nat), .int .u64 (limb (X3) 2 : Nat), .int .u64 (limb (X3) 3 : Nat), .int .u64 (limb (Y3) 0 : Nat), .int .u64 (limb (Y3) 1 : Nat), .int .u64 (limb (Y3) 2 : Nat), .int .u64 (limb (Y3) 3 : Nat), .int .u64 (limb (Z3) 0 : Nat), .int .u64 (limb (Z3) 1 : Nat), .int .u64 (limb (Z3) 2 : Nat), .int .u64 (limb (Z3) 3 : Nat)]] w fun e w' => e = .returned (.agg #[.int .u64 (limb (pX p1) 0 : Nat), .int .u64 (limb (pX p1) 1 : Nat), .int .u64 (limb (pX p1) 2 : Nat), .int .u64 (limb (pX p1) 3 : Nat), .int .u64 (limb (pY p1) 0 : Nat), .int .u64 (limb (pY p1) 1 : Nat), .int .u64 (limb (pY p1) 2 : Nat), .int .u64 (limb (pY p1) 3 : Nat), .bool (pI p1)]) ∧ Below w.heap.size w w') := fun w => by rw [ep1]; exact out3_A _ _ _ (gr.add a b) o3 w
 obtain ⟨w0, hw0⟩ : ∃ wq, wq = (((w.alloc (.cells #[.int .u64 (limb (pX a) 0 : Nat), .int .u64 (limb (pX a) 1 : Nat), .int .u64 (limb (pX a) 2 : Nat), .int .u64 (limb (pX a) 3 : Nat), .int .u64 (limb (pY a) 0 : Nat), .int .u64 (limb (pY a) 1 : Nat), .int .u64 (limb (pY a) 2 : Nat), .int .u64 (limb (pY a) 3 : Nat), .bool (pI a)] 26)).alloc (.cells #[.int .u64 (limb (pX b) 0 : Nat), .int .u64 (limb (pX b) 1 : Nat), .int .u64 (limb (pX b) 2 : Nat), .int .u64 (limb (pX b) 3 : Nat), .int .u64 (limb (pY b) 0 : Nat), .int .u64 (limb (pY b) 1 : Nat), .int .u64 (limb (pY b) 2 : Nat), .int .u64 (limb (pY b) 3 : Nat), .bool (pI b)] 26)).alloc (.cells #[.int .u64 0, .int .u64 0, .int .u64 0, .int .u64 0, .int .u64 0, .int .u64 0, .int .u64 0, .int .u64 0, .bool false] 26)) := ⟨_, rfl⟩
 have H0 : Hid (OwnC w0 (w.heap.size) (ptL (pX a) (pY a) (pI a))) ∧ Hid (OwnC w0 (w.heap.size + 1) (ptL (pX b) (pY b) (pI b))) ∧ Hid (OwnC w0 (w.heap.size + 1 + 1) zpL) ∧ Hid (Below w.heap.size w w0) := by
  rw [hw0]
  exact ⟨(OwnC.new' rfl).alloc.alloc, (OwnC.new' (by simp only [World.size_alloc])).alloc, (OwnC.new' (by simp only [World.size_alloc])), below_alloc0 (below_alloc0 (below_alloc0 (Below.refl _ _) _) _) _⟩
 obtain ⟨P0_0, P1_0, P2_0, W_0⟩ := H0
 clear o1 q1 o2 q2 o3 q3 ep1
 go_enter Tryd.func10, Tryd.ntmps10
 go_upto_region 1 with fail
 rw [← hw0]
 clear hw0
 obtain ⟨fP0z, fP00, fP01, fP02, fP03, fP04, fP05, fP06, fP07, fP08, fP0f⟩ := (P0_0.out).pt
 go_wp2_with fail
 clear fP0z fP00 fP01 fP02 fP03 fP04 fP05 fP06 fP07 fP08 fP0f
 refine (K1.out _).mono ?_
 rintro e w1 ⟨rfl, hq⟩
 have P0_1 : Hid (OwnC w1 (w.heap.size) (ptL (pX a) (pY a) (pI a))) := OwnC.call P0_0.out hq
 have P1_1 : Hid (OwnC w1 (w.heap.size + 1) (ptL (pX b) (pY b) (pI b))) := OwnC.call P1_0.out hq
 have P2_1 : Hid (OwnC w1 (w.heap.size + 1 + 1) zpL) := OwnC.call P2_0.out hq
 have W_1 : Hid (Below w.heap.size w w1) := below_call0 W_0.out hq
 clear hq P0_0 P1_0 P2_0 W_0
 obtain ⟨fP1z, fP10, fP11, fP12, fP13, fP14, fP15, fP16, fP17, fP18, fP1f⟩ := (P1_1.out).pt
 go_wp2_with fail
 clear fP1z fP10 fP11 fP12 fP13 fP14 fP15 fP16 fP17 fP18 fP1f
 refine (K2.out _).mono ?_
 rintro e w2 ⟨rfl, hq⟩
 have P0_2 : Hid (OwnC w2 (w.heap.size) (ptL (pX a) (pY a) (pI a))) := OwnC.call P0_1.out hq
 have P1_2 : Hid (OwnC w2 (w.heap.size + 1) (ptL (pX b) (pY b) (pI b))) := OwnC.call P1_1.out hq
 have P2_2 : Hid (OwnC w2 (w.heap.size + 1 + 1) zpL) := OwnC.call P2_1.out hq
 have W_2 : Hid (Below w.heap.size w w2) := below_call0 W_1.out hq
 clear hq P0_1 P1_1 P2_1 W_1
 go_upto_region 3 with fail
 refine wp_region_J 6 1 [?v0r3, ?v1r3, ?v2r3, ?v3r3, ?v4r3, ?v5r3] [some 15, some 16, some 17, some 18, some 19, some 20] ?Ar3 (by kernel_rfl) (by kernel_rfl) (by kernel_rfl) rfl ?hAr3 ?hopr3 ?hfinr3
 case hAr3 =>
  simp only [List.set_cons_zero, List.set_cons_succ, List.zip_cons_cons, List.zip_nil_right, fillD, Act.put, List.setIfInBounds_toArray]
  exact rfl
 case hopr3 =>
  refine ⟨?_, ?_, ?_, ?_, ?_, ?_, trivial⟩
  focus (intro _ bq wx hS; refine OpTo.yields rfl ?_; obtain ⟨_, _, _, _, _, _, _, _, _, _, _⟩ := (OwnC.call P0_2.out hS).pt; clear hS; go_simp; try with_reducible rfl)
  focus (intro _ bq wx hS; refine OpTo.calls rfl ?_ ?_; rotate_left; intro K hK; go_simp; refine (K3.out _).mono ?_; rintro e w' ⟨rfl, hq⟩; exact hK w' hq; exact rfl)
  focus (intro _ bq wx hS; refine OpTo.yields rfl ?_; obtain ⟨_, _, _, _, _, _, _, _, _, _, _⟩ := (OwnC.call P1_2.out hS).pt; clear hS; go_simp; try with_reducible rfl)
  focus (intro _ bq wx hS; refine OpTo.calls rfl ?_ ?_; rotate_left; intro K hK; go_simp; refine (K4.out _).mono ?_; rintro e w' ⟨rfl, hq⟩; exact hK w' hq; exact rfl)
  focus (intro _ bq wx hS; refine OpTo.calls rfl ?_ ?_; rotate_left; intro K hK; go_simp; refine (K5.out _).mono ?_; rintro e w' ⟨rfl, hq⟩; exact hK w' hq; exact rfl)
  focus (intro _ bq wx hS; refine OpTo.calls rfl ?_ ?_; rotate_left; intro K hK; go_simp; refine (K6.out _).mono ?_; rintro e w' ⟨rfl, hq⟩; exact hK w' hq; exact rfl)
 case hfinr3 =>
  intro wx hS
  refine tail_at (o := ?ofr3_6) ?hir3_6 ?hwr3_6 ?_
  case hir3_6 => rw [List.getElem?_toArray]; exact rfl
  case hwr3_6 => exact rfl
  obtain ⟨gP2z, gP20, gP21, gP22, gP23, gP24, gP25, gP26, gP27, gP28, gP2f⟩ := (OwnC.call P2_2.out hS).zp
  go_simp
  clear gP2z gP20 gP21 gP22 gP23 gP24 gP25 gP26 gP27 gP28 gP2f
  refine tail_at (o := ?ofr3_7) ?hir3_7 ?hwr3_7 ?_
  case hir3_7 => rw [List.getElem?_toArray]; exact rfl
  case hwr3_7 => exact rfl
  go_simp
  refine tail_end ?_
  obtain ⟨wz, hwz⟩ : ∃ wq, wq = (((((((((wx.setCell ⟨(w.heap.size + 1 + 1), 0, none⟩ (.int .u64 (limb (pX p1) 0 : Nat))).setCell ⟨(w.heap.size + 1 + 1), 1, none⟩ (.int .u64 (limb (pX p1) 1 : Nat))).setCell ⟨(w.heap.size + 1 + 1), 2, none⟩ (.int .u64 (limb (pX p1) 2 : Nat))).setCell ⟨(w.heap.size + 1 + 1), 3, none⟩ (.int .u64 (limb (pX p1) 3 : Nat))).setCell ⟨(w.heap.size + 1 + 1), 4, none⟩ (.int .u64 (limb (pY p1) 0 : Nat))).setCell ⟨(w.heap.size + 1 + 1), 5, none⟩ (.int .u64 (limb (pY p1) 1 : Nat))).setCell ⟨(w.heap.size + 1 + 1), 6, none⟩ (.int .u64 (limb (pY p1) 2 : Nat))).setCell ⟨(w.heap.size + 1 + 1), 7, none⟩ (.int .u64 (limb (pY p1) 3 : Nat))).setCell ⟨(w.heap.size + 1 + 1), 8, none⟩ (.bool (pI p1))) := ⟨_, rfl⟩
  rw [← hwz]
  have hwy : wz = putL (w.heap.size + 1 + 1) 0 (ptL (pX p1) (pY p1) (pI p1)) wx := hwz
  have HZ : OwnC wz (w.heap.size + 1 + 1) (ptL (pX p1) (pY p1) (pI p1)) ∧ Below w.heap.size w wz := by
   rw [hwy]
   exact ⟨OwnC.put (ptL (pX p1) (pY p1) (pI p1)) (OwnC.call P2_2.out hS) rfl, below_putL (Nat.le_succ_of_le (Nat.le_succ_of_le (Nat.le_refl _))) (ptL (pX p1) (pY p1) (pI p1)) 0 _ (below_call0 W_2.out hS)⟩
  clear hwz hwy
  obtain ⟨hO, HB⟩ := HZ
  obtain ⟨rz, r0, r1, r2, r3, r4, r5, r6, r7, r8, rf⟩ := hO.pt
  rename_i Kz hKz
  refine hKz _ _ ?_
  refine wp_ret ?_
  refine bodyPost_ret (v := .tuple #[.agg #[.int .u64 (limb (pX p1) 0 : Nat), .int .u64 (limb (pX p1) 1 : Nat), .int .u64 (limb (pX p1) 2 : Nat), .int .u64 (limb (pX p1) 3 : Nat), .int .u64 (limb (pY p1) 0 : Nat), .int .u64 (limb (pY p1) 1 : Nat), .int .u64 (limb (pY p1) 2 : Nat), .int .u64 (limb (pY p1) 3 : Nat), .bool (pI p1)], .int .i64 0]) ?_ rfl ⟨rfl, HB⟩
  simp [results, Tryd.results10, go_sem, r0, r1, r2, r3, r4, r5, r6, r7, r8]
set_option maxRecDepth 100000 in
set_option maxHeartbeats 4000000 in
theorem neg3_num (x y U : Nat) (i : Bool) (hy : y < PP) (hU : U = sM 0 y) (w : World) :
  Calls Tryd.prog 14 #[.agg #[.int .u64 (limb (x) 0 : Nat), .int .u64 (limb (x) 1 : Nat), .int .u64 (limb (x) 2 : Nat), .int .u64 (limb (x) 3 : Nat), .int .u64 (limb (y) 0 : Nat), .int .u64 (limb (y) 1 : Nat), .int .u64 (limb (y) 2 : Nat), .int .u64 (limb (y) 3 : Nat), .bool i]] w fun e w' => e = .returned (.agg #[.int .u64 (limb (x) 0 : Nat), .int .u64 (limb (x) 1 : Nat), .int .u64 (limb (x) 2 : Nat), .int .u64 (limb (x) 3 : Nat), .int .u64 (limb (U) 0 : Nat), .int .u64 (limb (U) 1 : Nat), .int .u64 (limb (U) 2 : Nat), .int .u64 (limb (U) 3 : Nat), .bool i]) ∧ Below w.heap.size w w' := by
 have K1 : Hid (∀ w, Calls Tryd.prog 38 #[] w fun e w' => e = .returned (.agg #[.int .u64 (limb (PP) 0 : Nat), .int .u64 (limb (PP) 1 : Nat), .int .u64 (limb (PP) 2 : Nat), .int .u64 (limb (PP) 3 : Nat), .int .u64 (limb (R256 - (PP)) 0 : Nat), .int .u64 (limb (R256 - (PP)) 1 : Nat), .int .u64 (limb (R256 - (PP)) 2 : Nat), .int .u64 (limb (R256 - (PP)) 3 : Nat)]) ∧ Below w.heap.size w w') := fun w => base2_any w
 have lU : U < PP := by rw [hU]; exact sM_lt _ _
 have K2 : Hid (∀ w, Calls Tryd.prog 42 #[.agg #[.int .u64 (limb (PP) 0 : Nat), .int .u64 (limb (PP) 1 : Nat), .int .u64 (limb (PP) 2 : Nat), .int .u64 (limb (PP) 3 : Nat), .int .u64 (limb (R256 - (PP)) 0 : Nat), .int .u64 (limb (R256 - (PP)) 1 : Nat), .int .u64 (limb (R256 - (PP)) 2 : Nat), .int .u64 (limb (R256 - (PP)) 3 : Nat)], .agg #[.int .u64 0, .int .u64 0, .int .u64 0, .int .u64 0], .agg #[.int .u64 (limb (y) 0 : Nat), .int .u64 (limb (y) 1 : Nat), .int .u64 (limb (y) 2 : Nat), .int .u64 (limb (y) 3 : Nat)]] w fun e w' => e = .returned (.agg #[.int .u64 (limb (U) 0 : Nat), .int .u64 (limb (U) 1 : Nat), .int .u64 (limb (U) 2 : Nat), .int .u64 (limb (U) 3 : Nat)]) ∧ Below w.heap.size w w') := fun w => by have k := sub2_any PP 0 y FM_P.2.1 PPpos hy w; rw [show subM PP 0 y = U from hU.symm] at k; rw [lit0.1, lit0.2.1, lit0.2.2.1, lit0.2.2.2] at k; exact k
 obtain ⟨w0, hw0⟩ : ∃ wq, wq = ((w.alloc (.cells #[.int .u64 (limb (x) 0 : Nat), .int .u64 (limb (x) 1 : Nat), .int .u64 (limb (x) 2 : Nat), .int .u64 (limb (x) 3 : Nat), .int .u64 (limb (y) 0 : Nat), .int .u64 (limb (y) 1 : Nat), .int .u64 (limb (y) 2 : Nat), .int .u64 (limb (y) 3 : Nat), .bool i] 26)).alloc (.cells #[.int .u64 0, .int .u64 0, .int .u64 0, .int .u64 0, .int .u64 0, .int .u64 0, .int .u64 0, .int .u64 0, .bool false] 26)) := ⟨_, rfl⟩
 have H0 : Hid (OwnC w0 (w.heap.size) (ptL x y i)) ∧ Hid (OwnC w0 (w.heap.size + 1) zpL) ∧ Hid (Below w.heap.size w w0) := by
  rw [hw0]
  exact ⟨(OwnC.new' rfl).alloc, (OwnC.new' (by simp only [World.size_alloc])), below_alloc0 (below_alloc0 (Below.refl _ _) _) _⟩
 obtain ⟨P0_0, P1_0, W_0⟩ := H0
 clear hU lU hy
 go_enter Tryd.func14, Tryd.ntmps14
 go_upto_region 1 with fail
 rw [← hw0]
 clear hw0
 go_upto_region 1 with fail
 go_cut [3] (fun vq3 wx => ∃ bk3, vq3 = .pointer (some ⟨bk3, 0, none⟩) ∧ w0.heap.size ≤ bk3 ∧ OwnC wx bk3 (fvL PP) ∧ Below w0.heap.size w0 wx)
 case first =>
  go_wp2_with fail
  refine (K1.out _).mono ?_
  rintro e wx0 ⟨rfl, hq0⟩
  go_wp2_with fail
  go_meet
  exact ⟨_, rfl, hq0.size, OwnC.new' rfl, below_alloc0 hq0 _⟩
 case rest =>
  obtain ⟨bk3, rfl, hle, hO, hB⟩ := hcut
  have P0_1 : Hid (OwnC wc (w.heap.size) (ptL x y i)) := OwnC.call P0_0.out hB
  have P1_1 : Hid (OwnC wc (w.heap.size + 1) zpL) := OwnC.call P1_0.out hB
  have W_1 : Hid (Below w.heap.size w wc) := below_call0 W_0.out hB
  have V3_1 : Hid (OwnC wc bk3 (fvL PP)) := hO
  clear hB P0_0 P1_0 W_0
  clear hO hle
  generalize wc = w1 at P0_1 P1_1 W_1 V3_1 ⊢
  go_upto_region 2 with fail
  refine wp_region_J 10 0 [?v0r2, ?v1r2, ?v2r2, ?v3r2, ?v4r2, ?v5r2, ?v6r2, ?v7r2, ?v8r2, ?v9r2] [some 5, some 6, some 7, some 8, some 9, some 10, some 11, some 12, some 13, some 14] ?Ar2 (by kernel_rfl) (by kernel_rfl) (by kernel_rfl) rfl ?hAr2 ?hopr2 ?hfinr2
  case hAr2 =>
   simp only [List.set_cons_zero, List.set_cons_succ, List.zip_cons_cons, List.zip_nil_right, fillD, Act.put, List.setIfInBounds_toArray]
   exact rfl
  case hopr2 =>
   refine ⟨?_, ?_, ?_, ?_, ?_, ?_, ?_, ?_, ?_, ?_, trivial⟩
   focus (intro _ bq wx hS; refine OpTo.yields rfl ?_; clear hS; go_simp; try with_reducible rfl)
   focus (intro _ bq wx hS; refine OpTo.yields rfl ?_; obtain ⟨_, _, _, _, _, _, _, _, _, _, _⟩ := (OwnC.call P0_1.out hS).pt; clear hS; go_simp; try with_reducible rfl)
   focus (intro _ bq wx hS; refine OpTo.yields rfl ?_; obtain ⟨_, _, _, _, _, _, _, _, _, _⟩ := (OwnC.call V3_1.out hS).fv; clear hS; go_simp; try with_reducible rfl)
   iterate 2 focus (intro _ bq wx hS; refine OpTo.yields rfl ?_; clear hS; go_simp; try with_reducible rfl)
   focus (intro _ bq wx hS; refine OpTo.yields rfl ?_; obtain ⟨_, _, _, _, _, _, _, _, _, _, _⟩ := (OwnC.call P0_1.out hS).pt; clear hS; go_simp; try with_reducible rfl)
   focus (intro _ bq wx hS; refine OpTo.calls rfl ?_ ?_; rotate_left; intro K hK; go_simp; refine (K2.out _).mono ?_; rintro e w' ⟨rfl, hq⟩; exact hK w' hq; exact rfl)
   focus (intro _ bq wx hS; refine OpTo.yields rfl ?_; clear hS; go_simp; try with_reducible rfl)
   focus (intro _ bq wx hS; refine OpTo.yields rfl ?_; obtain ⟨_, _, _, _, _, _, _, _, _, _, _⟩ := (OwnC.call P0_1.out hS).pt; clear hS; go_simp; try with_reducible rfl)
   focus (intro _ bq wx hS; refine OpTo.yields rfl ?_; clear hS; go_simp; try with_reducible rfl)
  case hfinr2 =>
   intro wx hS
   refine tail_at (o := ?ofr2_10) ?hir2_10 ?hwr2_10 ?_
   case hir2_10 => rw [List.getElem?_toArray]; exact rfl
   case hwr2_10 => exact rfl
   obtain ⟨gP1z, gP10, gP11, gP12, gP13, gP14, gP15, gP16, gP17, gP18, gP1f⟩ := (OwnC.call P1_1.out hS).zp
   go_simp
   clear gP1z gP10 gP11 gP12 gP13 gP14 gP15 gP16 gP17 gP18 gP1f
   refine tail_end ?_
   obtain ⟨wz, hwz⟩ : ∃ wq, wq = (((((((((wx.setCell ⟨(w.heap.size + 1), 0, none⟩ (.int .u64 (limb (x) 0 : Nat))).setCell ⟨(w.heap.size + 1), 1, none⟩ (.int .u64 (limb (x) 1 : Nat))).setCell ⟨(w.heap.size + 1), 2, none⟩ (.int .u64 (limb (x) 2 : Nat))).setCell ⟨(w.heap.size + 1), 3, none⟩ (.int .u64 (limb (x) 3 : Nat))).setCell ⟨(w.heap.size + 1), 4, none⟩ (.int .u64 (limb (U) 0 : Nat))).setCell ⟨(w.heap.size + 1), 5, none⟩ (.int .u64 (limb (U) 1 : Nat))).setCell ⟨(w.heap.size + 1), 6, none⟩ (.int .u64 (limb (U) 2 : Nat))).setCell ⟨(w.heap.size + 1), 7, none⟩ (.int .u64 (limb (U) 3 : Nat))).setCell ⟨(w.heap.size + 1), 8, none⟩ (.bool i)) := ⟨_, rfl⟩
   rw [← hwz]
   have hwy : wz = putL (w.heap.size + 1) 0 (ptL x U i) wx := hwz
   have HZ : OwnC wz (w.heap.size + 1) (ptL x U i) ∧ Below w.heap.size w wz := by
    rw [hwy]
    exact ⟨OwnC.put (ptL x U i) (OwnC.call P1_1.out hS) rfl, below_putL (Nat.le_succ_of_le (Nat.le_refl _)) (ptL x U i) 0 _ (below_call0 W_1.out hS)⟩
   clear hwz hwy
   obtain ⟨hO, HB⟩ := HZ
   obtain ⟨rz, r0, r1, r2, r3, r4, r5, r6, r7, r8, rf⟩ := hO.pt
   rename_i Kz hKz
   refine hKz _ _ ?_
   refine wp_ret ?_
   refine bodyPost_ret (v := .agg #[.int .u64 (limb (x) 0 : Nat), .int .u64 (limb (x) 1 : Nat), .int .u64 (limb (x) 2 : Nat), .int .u64 (limb (x) 3 : Nat), .int .u64 (limb (U) 0 : Nat), .int .u64 (limb (U) 1 : Nat), .int .u64 (limb (U) 2 : Nat), .int .u64 (limb (U) 3 : Nat), .bool i]) ?_ rfl ⟨rfl, HB⟩
   simp [results, Tryd.results14, go_sem, r0, r1, r2, r3, r4, r5, r6, r7, r8]
theorem neg3_A (a : Pts) (w : World) : Calls Tryd.prog 14 #[.agg #[.int .u64 (limb (pX (a)) 0 : Nat), .int .u64 (limb (pX (a)) 1 : Nat), .int .u64 (limb (pX (a)) 2 : Nat), .int .u64 (limb (pX (a)) 3 : Nat), .int .u64 (limb (pY (a)) 0 : Nat), .int .u64 (limb (pY (a)) 1 : Nat), .int .u64 (limb (pY (a)) 2 : Nat), .int .u64 (limb (pY (a)) 3 : Nat), .bool (pI (a))]] w fun e w' => e = .returned (.agg #[.int .u64 (limb (pX (gr.neg a)) 0 : Nat), .int .u64 (limb (pX (gr.neg a)) 1 : Nat), .int .u64 (limb (pX (gr.neg a)) 2 : Nat), .int .u64 (limb (pX (gr.neg a)) 3 : Nat), .int .u64 (limb (pY (gr.neg a)) 0 : Nat), .int .u64 (limb (pY (gr.neg a)) 1 : Nat), .int .u64 (limb (pY (gr.neg a)) 2 : Nat), .int .u64 (limb (pY (gr.neg a)) 3 : Nat), .bool (pI (gr.neg a))]) ∧ Below w.heap.size w w' := by
 have k := neg3_num (pX a) (pY a) _ (pI a) (pY_lt a) rfl w
 rw [(pts_neg a).1, (pts_neg a).2.1, (pts_neg a).2.2]
 exact k
set_option maxRecDepth 100000 in
set_option maxHeartbeats 4000000 in
theorem mul3_range (k x y : Nat) (i : Bool) (hkR : k < R256) (hk : ¬ k < QQ) (w : World) :
  Calls Tryd.prog 17 #[.agg #[.int .u64 (limb (k) 0 : Nat), .int .u64 (limb (k) 1 : Nat), .int .u64 (limb (k) 2 : Nat), .int .u64 (limb (k) 3 : Nat)], .agg #[.int .u64 (limb (x) 0 : Nat), .int .u64 (limb (x) 1 : Nat), .int .u64 (limb (x) 2 : Nat), .int .u64 (limb (x) 3 : Nat), .int .u64 (limb (y) 0 : Nat), .int .u64 (limb (y) 1 : Nat), .int .u64 (limb (y) 2 : Nat), .int .u64 (limb (y) 3 : Nat), .bool i]] w fun e w' => e = .returned (.tuple #[.agg #[.int .u64 0, .int .u64 0, .int .u64 0, .int .u64 0, .int .u64 0, .int .u64 0, .int .u64 0, .int .u64 0, .bool false], .int .i64 20]) ∧ Below w.heap.size w w' := by
 have K1 : Hid (∀ w, Calls Tryd.prog 45 #[] w fun e w' => e = .returned (.agg #[.int .u64 (limb (QQ) 0 : Nat), .int .u64 (limb (QQ) 1 : Nat), .int .u64 (limb (QQ) 2 : Nat), .int .u64 (limb (QQ) 3 : Nat), .int .u64 (limb (R256 - (QQ)) 0 : Nat), .int .u64 (limb (R256 - (QQ)) 1 : Nat), .int .u64 (limb (R256 - (QQ)) 2 : Nat), .int .u64 (limb (R256 - (QQ)) 3 : Nat)]) ∧ Below w.heap.size w w') := fun w => scalars2_any w
 have K2 : Hid (∀ w, Calls Tryd.prog 39 #[.agg #[.int .u64 (limb (QQ) 0 : Nat), .int .u64 (limb (QQ) 1 : Nat), .int .u64 (limb (QQ) 2 : Nat), .int .u64 (limb (QQ) 3 : Nat), .int .u64 (limb (R256 - (QQ)) 0 : Nat), .int .u64 (limb (R256 - (QQ)) 1 : Nat), .int .u64 (limb (R256 - (QQ)) 2 : Nat), .int .u64 (limb (R256 - (QQ)) 3 : Nat)], .agg #[.int .u64 (limb (k) 0 : Nat), .int .u64 (limb (k) 1 : Nat), .int .u64 (limb (k) 2 : Nat), .int .u64 (limb (k) 3 : Nat)]] w fun e w' => e = .returned (.bool false) ∧ Below w.heap.size w w') := fun w => has2_b QQ k false FM_Q.2.1 hkR (decide_eq_false hk) w
 obtain ⟨w0, hw0⟩ : ∃ wq, wq = (((w.alloc (.cells #[.int .u64 (limb (k) 0 : Nat), .int .u64 (limb (k) 1 : Nat), .int .u64 (limb (k) 2 : Nat), .int .u64 (limb (k) 3 : Nat)] 24)).alloc (.cells #[.int .u64 (limb (x) 0 : Nat), .int .u64 (limb (x) 1 : Nat), .int .u64 (limb (x) 2 : Nat), .int .u64 (limb (x) 3 : Nat), .int .u64 (limb (y) 0 : Nat), .int .u64 (limb (y) 1 : Nat), .int .u64 (limb (y) 2 : Nat), .int .u64 (limb (y) 3 : Nat), .bool i] 26)).alloc (.cells #[.int .u64 0, .int .u64 0, .int .u64 0, .int .u64 0, .int .u64 0, .int .u64 0, .int .u64 0, .int .u64 0, .bool false] 26)) := ⟨_, rfl⟩
 have H0 : Hid (OwnC w0 (w.heap.size) (numL k)) ∧ Hid (OwnC w0 (w.heap.size + 1) (ptL x y i)) ∧ Hid (OwnC w0 (w.heap.size + 1 + 1) zpL) ∧ Hid (Below w.heap.size w w0) := by
  rw [hw0]
  exact ⟨(OwnC.new' rfl).alloc.alloc, (OwnC.new' (by simp only [World.size_alloc])).alloc, (OwnC.new' (by simp only [World.size_alloc])), below_alloc0 (below_alloc0 (below_alloc0 (Below.refl _ _) _) _) _⟩
 obtain ⟨P0_0, P1_0, P2_0, W_0⟩ := H0
 clear hkR hk
 go_enter Tryd.func17, Tryd.ntmps17
 go_upto_region 1 with fail
 rw [← hw0]
 clear hw0
 go_upto_region 1 with fail
 go_cut [6] (fun vq6 wx => ∃ bk6, vq6 = .pointer (some ⟨bk6, 0, none⟩) ∧ w0.heap.size ≤ bk6 ∧ OwnC wx bk6 (fvL QQ) ∧ Below w0.heap.size w0 wx)
 case first =>
  go_wp2_with fail
  refine (K1.out _).mono ?_
  rintro e wx0 ⟨rfl, hq0⟩
  go_wp2_with fail
  go_meet
  exact ⟨_, rfl, hq0.size, OwnC.new' rfl, below_alloc0 hq0 _⟩
 case rest =>
  obtain ⟨bk6, rfl, hle, hO, hB⟩ := hcut
  have P0_1 : Hid (OwnC wc (w.heap.size) (numL k)) := OwnC.call P0_0.out hB
  have P1_1 : Hid (OwnC wc (w.heap.size + 1) (ptL x y i)) := OwnC.call P1_0.out hB
  have P2_1 : Hid (OwnC wc (w.heap.size + 1 + 1) zpL) := OwnC.call P2_0.out hB
  have W_1 : Hid (Below w.heap.size w wc) := below_call0 W_0.out hB
  have V6_1 : Hid (OwnC wc bk6 (fvL QQ)) := hO
  clear hB P0_0 P1_0 P2_0 W_0
  clear hO hle
  generalize wc = w1 at P0_1 P1_1 P2_1 W_1 V6_1 ⊢
  obtain ⟨fP0z, fP00, fP01, fP02, fP03, fP0f⟩ := (P0_1.out).num
  obtain ⟨fV6z, fV60, fV61, fV62, fV63, fV64, fV65, fV66, fV67, fV6f⟩ := (V6_1.out).fv
  go_wp2_with fail
  clear fP0z fP00 fP01 fP02 fP03 fP0f fV6z fV60 fV61 fV62 fV63 fV64 fV65 fV66 fV67 fV6f
  refine (K2.out _).mono ?_
  rintro e w2 ⟨rfl, hq⟩
  have P0_2 : Hid (OwnC w2 (w.heap.size) (numL k)) := OwnC.call P0_1.out hq
  have P1_2 : Hid (OwnC w2 (w.heap.size + 1) (ptL x y i)) := OwnC.call P1_1.out hq
  have P2_2 : Hid (OwnC w2 (w.heap.size + 1 + 1) zpL) := OwnC.call P2_1.out hq
  have W_2 : Hid (Below w.heap.size w w2) := below_call0 W_1.out hq
  have V6_2 : Hid (OwnC w2 bk6 (fvL QQ)) := OwnC.call V6_1.out hq
  clear hq P0_1 P1_1 P2_1 W_1 V6_1
  obtain ⟨fP2z, fP20, fP21, fP22, fP23, fP24, fP25, fP26, fP27, fP28, fP2f⟩ := (P2_2.out).zp
  go_wp2_with fail
  clear fP2z fP20 fP21 fP22 fP23 fP24 fP25 fP26 fP27 fP28 fP2f
  obtain ⟨wz, hwz⟩ : ∃ wq, wq = (((((((((w2.setCell ⟨(w.heap.size + 1 + 1), 0, none⟩ (.int .u64 0)).setCell ⟨(w.heap.size + 1 + 1), 1, none⟩ (.int .u64 0)).setCell ⟨(w.heap.size + 1 + 1), 2, none⟩ (.int .u64 0)).setCell ⟨(w.heap.size + 1 + 1), 3, none⟩ (.int .u64 0)).setCell ⟨(w.heap.size + 1 + 1), 4, none⟩ (.int .u64 0)).setCell ⟨(w.heap.size + 1 + 1), 5, none⟩ (.int .u64 0)).setCell ⟨(w.heap.size + 1 + 1), 6, none⟩ (.int .u64 0)).setCell ⟨(w.heap.size + 1 + 1), 7, none⟩ (.int .u64 0)).setCell ⟨(w.heap.size + 1 + 1), 8, none⟩ (.bool false)) := ⟨_, rfl⟩
  rw [← hwz]
  have hwy : wz = putL (w.heap.size + 1 + 1) 0 zpL w2 := hwz
  have HZ : OwnC wz (w.heap.size + 1 + 1) zpL ∧ Below w.heap.size w wz := by
   rw [hwy]
   exact ⟨OwnC.put zpL P2_2.out rfl, below_putL (Nat.le_succ_of_le (Nat.le_succ_of_le (Nat.le_refl _))) zpL 0 _ W_2.out⟩
  clear hwz hwy
  obtain ⟨hO, HB⟩ := HZ
  obtain ⟨rz, r0, r1, r2, r3, r4, r5, r6, r7, r8, rf⟩ := hO.zp
  refine bodyPost_ret (v := .tuple #[.agg #[.int .u64 0, .int .u64 0, .int .u64 0, .int .u64 0, .int .u64 0, .int .u64 0, .int .u64 0, .int .u64 0, .bool false], .int .i64 20]) ?_ rfl ⟨rfl, HB⟩
  simp [results, Tryd.results17, go_sem, r0, r1, r2, r3, r4, r5, r6, r7, r8]
set_option maxRecDepth 100000 in
set_option maxHeartbeats 4000000 in
theorem mul3_curve (k x y : Nat) (i : Bool) (hkR : k < R256) (hk : k < QQ) (hX : x < R256) (hY : y < R256) (hb : ptOk x y i = false) (w : World) :
  Calls Tryd.prog 17 #[.agg #[.int .u64 (limb (k) 0 : Nat), .int .u64 (limb (k) 1 : Nat), .int .u64 (limb (k) 2 : Nat), .int .u64 (limb (k) 3 : Nat)], .agg #[.int .u64 (limb (x) 0 : Nat), .int .u64 (limb (x) 1 : Nat), .int .u64 (limb (x) 2 : Nat), .int .u64 (limb (x) 3 : Nat), .int .u64 (limb (y) 0 : Nat), .int .u64 (limb (y) 1 : Nat), .int .u64 (limb (y) 2 : Nat), .int .u64 (limb (y) 3 : Nat), .bool i]] w fun e w' => e = .returned (.tuple #[.agg #[.int .u64 0, .int .u64 0, .int .u64 0, .int .u64 0, .int .u64 0, .int .u64 0, .int .u64 0, .int .u64 0, .bool false], .int .i64 30]) ∧ Below w.heap.size w w' := by
 have K1 : Hid (∀ w, Calls Tryd.prog 45 #[] w fun e w' => e = .returned (.agg #[.int .u64 (limb (QQ) 0 : Nat), .int .u64 (limb (QQ) 1 : Nat), .int .u64 (limb (QQ) 2 : Nat), .int .u64 (limb (QQ) 3 : Nat), .int .u64 (limb (R256 - (QQ)) 0 : Nat), .int .u64 (limb (R256 - (QQ)) 1 : Nat), .int .u64 (limb (R256 - (QQ)) 2 : Nat), .int .u64 (limb (R256 - (QQ)) 3 : Nat)]) ∧ Below w.heap.size w w') := fun w => scalars2_any w
 have K2 : Hid (∀ w, Calls Tryd.prog 39 #[.agg #[.int .u64 (limb (QQ) 0 : Nat), .int .u64 (limb (QQ) 1 : Nat), .int .u64 (limb (QQ) 2 : Nat), .int .u64 (limb (QQ) 3 : Nat), .int .u64 (limb (R256 - (QQ)) 0 : Nat), .int .u64 (limb (R256 - (QQ)) 1 : Nat), .int .u64 (limb (R256 - (QQ)) 2 : Nat), .int .u64 (limb (R256 - (QQ)) 3 : Nat)], .agg #[.int .u64 (limb (k) 0 : Nat), .int .u64 (limb (k) 1 : Nat), .int .u64 (limb (k) 2 : Nat), .int .u64 (limb (k) 3 : Nat)]] w fun e w' => e = .returned (.bool true) ∧ Below w.heap.size w w') := fun w => has2_b QQ k true FM_Q.2.1 hkR (decide_eq_true hk) w
 have K3 : Hid (∀ w, Calls Tryd.prog 12 #[.agg #[.int .u64 (limb (x) 0 : Nat), .int .u64 (limb (x) 1 : Nat), .int .u64 (limb (x) 2 : Nat), .int .u64 (limb (x) 3 : Nat), .int .u64 (limb (y) 0 : Nat), .int .u64 (limb (y) 1 : Nat), .int .u64 (limb (y) 2 : Nat), .int .u64 (limb (y) 3 : Nat), .bool i]] w fun e w' => e = .returned (.bool false) ∧ Below w.heap.size w w') := fun w => by have k := is3_any x y i hX hY w; rw [hb] at k; exact k
 obtain ⟨w0, hw0⟩ : ∃ wq, wq = (((w.alloc (.cells #[.int .u64 (limb (k) 0 : Nat), .int .u64 (limb (k) 1 : Nat), .int .u64 (limb (k) 2 : Nat), .int .u64 (limb (k) 3 : Nat)] 24)).alloc (.cells #[.int .u64 (limb (x) 0 : Nat), .int .u64 (limb (x) 1 : Nat), .int .u64 (limb (x) 2 : Nat), .int .u64 (limb (x) 3 : Nat), .int .u64 (limb (y) 0 : Nat), .int .u64 (limb (y) 1 : Nat), .int .u64 (limb (y) 2 : Nat), .int .u64 (limb (y) 3 : Nat), .bool i] 26)).alloc (.cells #[.int .u64 0, .int .u64 0, .int .u64 0, .int .u64 0, .int .u64 0, .int .u64 0, .int .u64 0, .int .u64 0, .bool false] 26)) := ⟨_, rfl⟩
 have H0 : Hid (OwnC w0 (w.heap.size) (numL k)) ∧ Hid (OwnC w0 (w.heap.size + 1) (ptL x y i)) ∧ Hid (OwnC w0 (w.heap.size + 1 + 1) zpL) ∧ Hid (Below w.heap.size w w0) := by
  rw [hw0]
  exact ⟨(OwnC.new' rfl).alloc.alloc, (OwnC.new' (by simp only [World.size_alloc])).alloc, (OwnC.new' (by simp only [World.size_alloc])), below_alloc0 (below_alloc0 (below_alloc0 (Below.refl _ _) _) _) _⟩
 obtain ⟨P0_0, P1_0, P2_0, W_0⟩ := H0
 clear hkR hk hX hY hb
 go_enter Tryd.func17, Tryd.ntmps17
 go_upto_region 1 with fail
 rw [← hw0]
 clear hw0
 go_upto_region 1 with fail
 go_cut [6] (fun vq6 wx => ∃ bk6, vq6 = .pointer (some ⟨bk6, 0, none⟩) ∧ w0.heap.size ≤ bk6 ∧ OwnC wx bk6 (fvL QQ) ∧ Below w0.heap.size w0 wx)
 case first =>
  go_wp2_with fail
  refine (K1.out _).mono ?_
  rintro e wx0 ⟨rfl, hq0⟩
  go_wp2_with fail
  go_meet
  exact ⟨_, rfl, hq0.size, OwnC.new' rfl, below_alloc0 hq0 _⟩
 case rest =>
  obtain ⟨bk6, rfl, hle, hO, hB⟩ := hcut
  have P0_1 : Hid (OwnC wc (w.heap.size) (numL k)) := OwnC.call P0_0.out hB
  have P1_1 : Hid (OwnC wc (w.heap.size + 1) (ptL x y i)) := OwnC.call P1_0.out hB
  have P2_1 : Hid (OwnC wc (w.heap.size + 1 + 1) zpL) := OwnC.call P2_0.out hB
  have W_1 : Hid (Below w.heap.size w wc) := below_call0 W_0.out hB
  have V6_1 : Hid (OwnC wc bk6 (fvL QQ)) := hO
  clear hB P0_0 P1_0 P2_0 W_0
  clear hO hle
  generalize wc = w1 at P0_1 P1_1 P2_1 W_1 V6_1 ⊢
  obtain ⟨fP0z, fP00, fP01, fP02, fP03, fP0f⟩ := (P0_1.out).num
  obtain ⟨fV6z, fV60, fV61, fV62, fV63, fV64, fV65, fV66, fV67, fV6f⟩ := (V6_1.out).fv
  go_wp2_with fail
  clear fP0z fP00 fP01 fP02 fP03 fP0f fV6z fV60 fV61 fV62 fV63 fV64 fV65 fV66 fV67 fV6f
  refine (K2.out _).mono ?_
  rintro e w2 ⟨rfl, hq⟩
  have P0_2 : Hid (OwnC w2 (w.heap.size) (numL k)) := OwnC.call P0_1.out hq
  have P1_2 : Hid (OwnC w2 (w.heap.size + 1) (ptL x y i)) := OwnC.call P1_1.out hq
  have P2_2 : Hid (OwnC w2 (w.heap.size + 1 + 1) zpL) := OwnC.call P2_1.out hq
  have W_2 : Hid (Below w.heap.size w w2) := below_call0 W_1.out hq
  have V6_2 : Hid (OwnC w2 bk6 (fvL QQ)) := OwnC.call V6_1.out hq
  clear hq P0_1 P1_1 P2_1 W_1 V6_1
  go_upto_region 4 with fail
  obtain ⟨fP1z, fP10, fP11, fP12, fP13, fP14, fP15, fP16, fP17, fP18, fP1f⟩ := (P1_2.out).pt
  go_wp2_with fail
  clear fP1z fP10 fP11 fP12 fP13 fP14 fP15 fP16 fP17 fP18 fP1f
  refine (K3.out _).mono ?_
  rintro e w3 ⟨rfl, hq⟩
  have P0_3 : Hid (OwnC w3 (w.heap.size) (numL k)) := OwnC.call P0_2.out hq
  have P1_3 : Hid (OwnC w3 (w.heap.size + 1) (ptL x y i)) := OwnC.call P1_2.out hq
  have P2_3 : Hid (OwnC w3 (w.heap.size + 1 + 1) zpL) := OwnC.call P2_2.out hq
  have W_3 : Hid (Below w.heap.size w w3) := below_call0 W_2.out hq
  have V6_3 : Hid (OwnC w3 bk6 (fvL QQ)) := OwnC.call V6_2.out hq
  clear hq P0_2 P1_2 P2_2 W_2 V6_2
  obtain ⟨fP2z, fP20, fP21, fP22, fP23, fP24, fP25, fP26, fP27, fP28, fP2f⟩ := (P2_3.out).zp
  go_wp2_with fail
  clear fP2z fP20 fP21 fP22 fP23 fP24 fP25 fP26 fP27 fP28 fP2f
  obtain ⟨wz, hwz⟩ : ∃ wq, wq = (((((((((w3.setCell ⟨(w.heap.size + 1 + 1), 0, none⟩ (.int .u64 0)).setCell ⟨(w.heap.size + 1 + 1), 1, none⟩ (.int .u64 0)).setCell ⟨(w.heap.size + 1 + 1), 2, none⟩ (.int .u64 0)).setCell ⟨(w.heap.size + 1 + 1), 3, none⟩ (.int .u64 0)).setCell ⟨(w.heap.size + 1 + 1), 4, none⟩ (.int .u64 0)).setCell ⟨(w.heap.size + 1 + 1), 5, none⟩ (.int .u64 0)).setCell ⟨(w.heap.size + 1 + 1), 6, none⟩ (.int .u64 0)).setCell ⟨(w.heap.size + 1 + 1), 7, none⟩ (.int .u64 0)).setCell ⟨(w.heap.size + 1 + 1), 8, none⟩ (.bool false)) := ⟨_, rfl⟩
  rw [← hwz]
  have hwy : wz = putL (w.heap.size + 1 + 1) 0 zpL w3 := hwz
  have HZ : OwnC wz (w.heap.size + 1 + 1) zpL ∧ Below w.heap.size w wz := by
   rw [hwy]
   exact ⟨OwnC.put zpL P2_3.out rfl, below_putL (Nat.le_succ_of_le (Nat.le_succ_of_le (Nat.le_refl _))) zpL 0 _ W_3.out⟩
  clear hwz hwy
  obtain ⟨hO, HB⟩ := HZ
  obtain ⟨rz, r0, r1, r2, r3, r4, r5, r6, r7, r8, rf⟩ := hO.zp
  refine bodyPost_ret (v := .tuple #[.agg #[.int .u64 0, .int .u64 0, .int .u64 0, .int .u64 0, .int .u64 0, .int .u64 0, .int .u64 0, .int .u64 0, .bool false], .int .i64 30]) ?_ rfl ⟨rfl, HB⟩
  simp [results, Tryd.results17, go_sem, r0, r1, r2, r3, r4, r5, r6, r7, r8]
set_option maxRecDepth 100000 in
set_option maxHeartbeats 4000000 in
theorem mul3_A (k : Nat) (a : Pts) (hkR : k < R256) (hk : k < QQ) (w : World) :
  Calls Tryd.prog 17 #[.agg #[.int .u64 (limb (k) 0 : Nat), .int .u64 (limb (k) 1 : Nat), .int .u64 (limb (k) 2 : Nat), .int .u64 (limb (k) 3 : Nat)], .agg #[.int .u64 (limb (pX a) 0 : Nat), .int .u64 (limb (pX a) 1 : Nat), .int .u64 (limb (pX a) 2 : Nat), .int .u64 (limb (pX a) 3 : Nat), .int .u64 (limb (pY a) 0 : Nat), .int .u64 (limb (pY a) 1 : Nat), .int .u64 (limb (pY a) 2 : Nat), .int .u64 (limb (pY a) 3 : Nat), .bool (pI a)]] w fun e w' => e = .returned (.tuple #[.agg #[.int .u64 (limb (pX (gr.mul k a)) 0 : Nat), .int .u64 (limb (pX (gr.mul k a)) 1 : Nat), .int .u64 (limb (pX (gr.mul k a)) 2 : Nat), .int .u64 (limb (pX (gr.mul k a)) 3 : Nat), .int .u64 (limb (pY (gr.mul k a)) 0 : Nat), .int .u64 (limb (pY (gr.mul k a)) 1 : Nat), .int .u64 (limb (pY (gr.mul k a)) 2 : Nat), .int .u64 (limb (pY (gr.mul k a)) 3 : Nat), .bool (pI (gr.mul k a))], .int .i64 0]) ∧ Below w.heap.size w w' := by
 have K1 : Hid (∀ w, Calls Tryd.prog 45 #[] w fun e w' => e = .returned (.agg #[.int .u64 (limb (QQ) 0 : Nat), .int .u64 (limb (QQ) 1 : Nat), .int .u64 (limb (QQ) 2 : Nat), .int .u64 (limb (QQ) 3 : Nat), .int .u64 (limb (R256 - (QQ)) 0 : Nat), .int .u64 (limb (R256 - (QQ)) 1 : Nat), .int .u64 (limb (R256 - (QQ)) 2 : Nat), .int .u64 (limb (R256 - (QQ)) 3 : Nat)]) ∧ Below w.heap.size w w') := fun w => scalars2_any w
 have K2 : Hid (∀ w, Calls Tryd.prog 39 #[.agg #[.int .u64 (limb (QQ) 0 : Nat), .int .u64 (limb (QQ) 1 : Nat), .int .u64 (limb (QQ) 2 : Nat), .int .u64 (limb (QQ) 3 : Nat), .int .u64 (limb (R256 - (QQ)) 0 : Nat), .int .u64 (limb (R256 - (QQ)) 1 : Nat), .int .u64 (limb (R256 - (QQ)) 2 : Nat), .int .u64 (limb (R256 - (QQ)) 3 : Nat)], .agg #[.int .u64 (limb (k) 0 : Nat), .int .u64 (limb (k) 1 : Nat), .int .u64 (limb (k) 2 : Nat), .int .u64 (limb (k) 3 : Nat)]] w fun e w' => e = .returned (.bool true) ∧ Below w.heap.size w w') := fun w => has2_b QQ k true FM_Q.2.1 hkR (decide_eq_true hk) w
 have K3 : Hid (∀ w, Calls Tryd.prog 12 #[.agg #[.int .u64 (limb (pX a) 0 : Nat), .int .u64 (limb (pX a) 1 : Nat), .int .u64 (limb (pX a) 2 : Nat), .int .u64 (limb (pX a) 3 : Nat), .int .u64 (limb (pY a) 0 : Nat), .int .u64 (limb (pY a) 1 : Nat), .int .u64 (limb (pY a) 2 : Nat), .int .u64 (limb (pY a) 3 : Nat), .bool (pI a)]] w fun e w' => e = .returned (.bool true) ∧ Below w.heap.size w w') := fun w => by have k := is3_A a w; exact k
 obtain ⟨X1, Y1, Z1, o1, q1⟩ := in3_A a
 have K4 : Hid (∀ w, Calls Tryd.prog 35 #[.agg #[.int .u64 (limb (pX a) 0 : Nat), .int .u64 (limb (pX a) 1 : Nat), .int .u64 (limb (pX a) 2 : Nat), .int .u64 (limb (pX a) 3 : Nat), .int .u64 (limb (pY a) 0 : Nat), .int .u64 (limb (pY a) 1 : Nat), .int .u64 (limb (pY a) 2 : Nat), .int .u64 (limb (pY a) 3 : Nat), .bool (pI a)]] w fun e w' => e = .returned (.agg #[.int .u64 (limb (X1) 0 : Nat), .int .u64 (limb (X1) 1 : Nat), .int .u64 (limb (X1) 2 : Nat), .int .u64 (limb (X1) 3 : Nat), .int .u64 (limb (Y1) 0 : Nat), .int .u64 (limb (Y1) 1 : Nat), .int .u64 (limb (Y1) 2 : Nat), .int .u64 (limb (Y1) 3 : Nat), .int .u64 (limb (Z1) 0 : Nat), .int .u64 (limb (Z1) 1 : Nat), .int .u64 (limb (Z1) 2 : Nat), .int .u64 (limb (Z1) 3 : Nat)]) ∧ Below w.heap.size w w') := q1
 obtain ⟨X2, Y2, Z2, o2, q2⟩ := times3_A k _ _ _ a hkR o1
 have K5 : Hid (∀ w, Calls Tryd.prog 46 #[.agg #[.int .u64 (limb (k) 0 : Nat), .int .u64 (limb (k) 1 : Nat), .int .u64 (limb (k) 2 : Nat), .int .u64 (limb (k) 3 : Nat)], .agg #[.int .u64 (limb (X1) 0 : Nat), .int .u64 (limb (X1) 1 : Nat), .int .u64 (limb (X1) 2 : Nat), .int .u64 (limb (X1) 3 : Nat), .int .u64 (limb (Y1) 0 : Nat), .int .u64 (limb (Y1) 1 : Nat), .int .u64 (limb (Y1) 2 : Nat), .int .u64 (limb (Y1) 3 : Nat), .int .u64 (limb (Z1) 0 : Nat), .int .u64 (limb (Z1) 1 : Nat), .int .u64 (limb (Z1) 2 : Nat), .int .u64 (limb (Z1) 3 : Nat)]] w fun e w' => e = .returned (.agg #[.int .u64 (limb (X2) 0 : Nat), .int .u64 (limb (X2) 1 : Nat), .int .u64 (limb (X2) 2 : Nat), .int .u64 (limb (X2) 3 : Nat), .int .u64 (limb (Y2) 0 : Nat), .int .u64 (limb (Y2) 1 : Nat), .int .u64 (limb (Y2) 2 : Nat), .int .u64 (limb (Y2) 3 : Nat), .int .u64 (limb (Z2) 0 : Nat), .int .u64 (limb (Z2) 1 : Nat), .int .u64 (limb (Z2) 2 : Nat), .int .u64 (limb (Z2) 3 : Nat)]) ∧ Below w.heap.size w w') := q2
 obtain ⟨p1, ep1⟩ : ∃ uq, uq = gr.mul k a := ⟨_, rfl⟩
 rw [← ep1]
 have K6 : Hid (∀ w, Calls Tryd.prog 33 #[.agg #[.int .u64 (limb (X2) 0 : Nat), .int .u64 (limb (X2) 1 : Nat), .int .u64 (limb (X2) 2 : Nat), .int .u64 (limb (X2) 3 : Nat), .int .u64 (limb (Y2) 0 : Nat), .int .u64 (limb (Y2) 1 : Nat), .int .u64 (limb (Y2) 2 : Nat), .int .u64 (limb (Y2) 3 : Nat), .int .u64 (limb (Z2) 0 : Nat), .int .u64 (limb (Z2) 1 : Nat), .int .u64 (limb (Z2) 2 : Nat), .int .u64 (limb (Z2) 3 : Nat)]] w fun e w' => e = .returned (.agg #[.int .u64 (limb (pX p1) 0 : Nat), .int .u64 (limb (pX p1) 1 : Nat), .int .u64 (limb (pX p1) 2 : Nat), .int .u64 (limb (pX p1) 3 : Nat), .int .u64 (limb (pY p1) 0 : Nat), .int .u64 (limb (pY p1) 1 : Nat), .int .u64 (limb (pY p1) 2 : Nat), .int .u64 (limb (pY p1) 3 : Nat), .bool (pI p1)]) ∧ Below w.heap.size w w') := fun w => by rw [ep1]; exact out3_A _ _ _ (gr.mul k a) o2 w
 obtain ⟨w0, hw0⟩ : ∃ wq, wq = (((w.alloc (.cells #[.int .u64 (limb (k) 0 : Nat), .int .u64 (limb (k) 1 : Nat), .int .u64 (limb (k) 2 : Nat), .int .u64 (limb (k) 3 : Nat)] 24)).alloc (.cells #[.int .u64 (limb (pX a) 0 : Nat), .int .u64 (limb (pX a) 1 : Nat), .int .u64 (limb (pX a) 2 : Nat), .int .u64 (limb (pX a) 3 : Nat), .int .u64 (limb (pY a) 0 : Nat), .int .u64 (limb (pY a) 1 : Nat), .int .u64 (limb (pY a) 2 : Nat), .int .u64 (limb (pY a) 3 : Nat), .bool (pI a)] 26)).alloc (.cells #[.int .u64 0, .int .u64 0, .int .u64 0, .int .u64 0, .int .u64 0, .int .u64 0, .int .u64 0, .int .u64 0, .bool false] 26)) := ⟨_, rfl⟩
 have H0 : Hid (OwnC w0 (w.heap.size) (numL k)) ∧ Hid (OwnC w0 (w.heap.size + 1) (ptL (pX a) (pY a) (pI a))) ∧ Hid (OwnC w0 (w.heap.size + 1 + 1) zpL) ∧ Hid (Below w.heap.size w w0) := by
  rw [hw0]
  exact ⟨(OwnC.new' rfl).alloc.alloc, (OwnC.new' (by simp only [World.size_alloc])).alloc, (OwnC.new' (by simp only [World.size_alloc])), below_alloc0 (below_alloc0 (below_alloc0 (Below.refl _ _) _) _) _⟩
 obtain ⟨P0_0, P1_0, P2_0, W_0⟩ := H0
 clear o1 q1 o2 q2 ep1 hkR hk
 go_enter Tryd.func17, Tryd.ntmps17
 go_upto_region 1 with fail
 rw [← hw0]
 clear hw0
 go_upto_region 1 with fail
 go_cut [6] (fun vq6 wx => ∃ bk6, vq6 = .pointer (some ⟨bk6, 0, none⟩) ∧ w0.heap.size ≤ bk6 ∧ OwnC wx bk6 (fvL QQ) ∧ Below w0.heap.size w0 wx)
 case first =>
  go_wp2_with fail
  refine (K1.out _).mono ?_
  rintro e wx0 ⟨rfl, hq0⟩
  go_wp2_with fail
  go_meet
  exact ⟨_, rfl, hq0.size, OwnC.new' rfl, below_alloc0 hq0 _⟩
 case rest =>
  obtain ⟨bk6, rfl, hle, hO, hB⟩ := hcut
  have P0_1 : Hid (OwnC wc (w.heap.size) (numL k)) := OwnC.call P0_0.out hB
  have P1_1 : Hid (OwnC wc (w.heap.size + 1) (ptL (pX a) (pY a) (pI a))) := OwnC.call P1_0.out hB
  have P2_1 : Hid (OwnC wc (w.heap.size + 1 + 1) zpL) := OwnC.call P2_0.out hB
  have W_1 : Hid (Below w.heap.size w wc) := below_call0 W_0.out hB
  have V6_1 : Hid (OwnC wc bk6 (fvL QQ)) := hO
  clear hB P0_0 P1_0 P2_0 W_0
  clear hO hle
  generalize wc = w1 at P0_1 P1_1 P2_1 W_1 V6_1 ⊢
  obtain ⟨fP0z, fP00, fP01, fP02, fP03, fP0f⟩ := (P0_1.out).num
  obtain ⟨fV6z, fV60, fV61, fV62, fV63, fV64, fV65, fV66, fV67, fV6f⟩ := (V6_1.out).fv
  go_wp2_with fail
  clear fP0z fP00 fP01 fP02 fP03 fP0f fV6z fV60 fV61 fV62 fV63 fV64 fV65 fV66 fV67 fV6f
  refine (K2.out _).mono ?_
  rintro e w2 ⟨rfl, hq⟩
  have P0_2 : Hid (OwnC w2 (w.heap.size) (numL k)) := OwnC.call P0_1.out hq
  have P1_2 : Hid (OwnC w2 (w.heap.size + 1) (ptL (pX a) (pY a) (pI a))) := OwnC.call P1_1.out hq
  have P2_2 : Hid (OwnC w2 (w.heap.size + 1 + 1) zpL) := OwnC.call P2_1.out hq
  have W_2 : Hid (Below w.heap.size w w2) := below_call0 W_1.out hq
  have V6_2 : Hid (OwnC w2 bk6 (fvL QQ)) := OwnC.call V6_1.out hq
  clear hq P0_1 P1_1 P2_1 W_1 V6_1
  go_upto_region 4 with fail
  obtain ⟨fP1z, fP10, fP11, fP12, fP13, fP14, fP15, fP16, fP17, fP18, fP1f⟩ := (P1_2.out).pt
  go_wp2_with fail
  clear fP1z fP10 fP11 fP12 fP13 fP14 fP15 fP16 fP17 fP18 fP1f
  refine (K3.out _).mono ?_
  rintro e w3 ⟨rfl, hq⟩
  have P0_3 : Hid (OwnC w3 (w.heap.size) (numL k)) := OwnC.call P0_2.out hq
  have P1_3 : Hid (OwnC w3 (w.heap.size + 1) (ptL (pX a) (pY a) (pI a))) := OwnC.call P1_2.out hq
  have P2_3 : Hid (OwnC w3 (w.heap.size + 1 + 1) zpL) := OwnC.call P2_2.out hq
  have W_3 : Hid (Below w.heap.size w w3) := below_call0 W_2.out hq
  have V6_3 : Hid (OwnC w3 bk6 (fvL QQ)) := OwnC.call V6_2.out hq
  clear hq P0_2 P1_2 P2_2 W_2 V6_2
  go_upto_region 6 with fail
  refine wp_region_J 5 1 [?v0r6, ?v1r6, ?v2r6, ?v3r6, ?v4r6] [some 17, some 18, some 19, some 20, some 21] ?Ar6 (by kernel_rfl) (by kernel_rfl) (by kernel_rfl) rfl ?hAr6 ?hopr6 ?hfinr6
  case hAr6 =>
   simp only [List.set_cons_zero, List.set_cons_succ, List.zip_cons_cons, List.zip_nil_right, fillD, Act.put, List.setIfInBounds_toArray]
   exact rfl
  case hopr6 =>
   refine ⟨?_, ?_, ?_, ?_, ?_, trivial⟩
   focus (intro _ bq wx hS; refine OpTo.yields rfl ?_; obtain ⟨_, _, _, _, _, _⟩ := (OwnC.call P0_3.out hS).num; clear hS; go_simp; try with_reducible rfl)
   focus (intro _ bq wx hS; refine OpTo.yields rfl ?_; obtain ⟨_, _, _, _, _, _, _, _, _, _, _⟩ := (OwnC.call P1_3.out hS).pt; clear hS; go_simp; try with_reducible rfl)
   focus (intro _ bq wx hS; refine OpTo.calls rfl ?_ ?_; rotate_left; intro K hK; go_simp; refine (K4.out _).mono ?_; rintro e w' ⟨rfl, hq⟩; exact hK w' hq; exact rfl)
   focus (intro _ bq wx hS; refine OpTo.calls rfl ?_ ?_; rotate_left; intro K hK; go_simp; refine (K5.out _).mono ?_; rintro e w' ⟨rfl, hq⟩; exact hK w' hq; exact rfl)
   focus (intro _ bq wx hS; refine OpTo.calls rfl ?_ ?_; rotate_left; intro K hK; go_simp; refine (K6.out _).mono ?_; rintro e w' ⟨rfl, hq⟩; exact hK w' hq; exact rfl)
  case hfinr6 =>
   intro wx hS
   refine tail_at (o := ?ofr6_5) ?hir6_5 ?hwr6_5 ?_
   case hir6_5 => rw [List.getElem?_toArray]; exact rfl
   case hwr6_5 => exact rfl
   obtain ⟨gP2z, gP20, gP21, gP22, gP23, gP24, gP25, gP26, gP27, gP28, gP2f⟩ := (OwnC.call P2_3.out hS).zp
   go_simp
   clear gP2z gP20 gP21 gP22 gP23 gP24 gP25 gP26 gP27 gP28 gP2f
   refine tail_at (o := ?ofr6_6) ?hir6_6 ?hwr6_6 ?_
   case hir6_6 => rw [List.getElem?_toArray]; exact rfl
   case hwr6_6 => exact rfl
   go_simp
   refine tail_end ?_
   obtain ⟨wz, hwz⟩ : ∃ wq, wq = (((((((((wx.setCell ⟨(w.heap.size + 1 + 1), 0, none⟩ (.int .u64 (limb (pX p1) 0 : Nat))).setCell ⟨(w.heap.size + 1 + 1), 1, none⟩ (.int .u64 (limb (pX p1) 1 : Nat))).setCell ⟨(w.heap.size + 1 + 1), 2, none⟩ (.int .u64 (limb (pX p1) 2 : Nat))).setCell ⟨(w.heap.size + 1 + 1), 3, none⟩ (.int .u64 (limb (pX p1) 3 : Nat))).setCell ⟨(w.heap.size + 1 + 1), 4, none⟩ (.int .u64 (limb (pY p1) 0 : Nat))).setCell ⟨(w.heap.size + 1 + 1), 5, none⟩ (.int .u64 (limb (pY p1) 1 : Nat))).setCell ⟨(w.heap.size + 1 + 1), 6, none⟩ (.int .u64 (limb (pY p1) 2 : Nat))).setCell ⟨(w.heap.size + 1 + 1), 7, none⟩ (.int .u64 (limb (pY p1) 3 : Nat))).setCell ⟨(w.heap.size + 1 + 1), 8, none⟩ (.bool (pI p1))) := ⟨_, rfl⟩
   rw [← hwz]
   have hwy : wz = putL (w.heap.size + 1 + 1) 0 (ptL (pX p1) (pY p1) (pI p1)) wx := hwz
   have HZ : OwnC wz (w.heap.size + 1 + 1) (ptL (pX p1) (pY p1) (pI p1)) ∧ Below w.heap.size w wz := by
    rw [hwy]
    exact ⟨OwnC.put (ptL (pX p1) (pY p1) (pI p1)) (OwnC.call P2_3.out hS) rfl, below_putL (Nat.le_succ_of_le (Nat.le_succ_of_le (Nat.le_refl _))) (ptL (pX p1) (pY p1) (pI p1)) 0 _ (below_call0 W_3.out hS)⟩
   clear hwz hwy
   obtain ⟨hO, HB⟩ := HZ
   obtain ⟨rz, r0, r1, r2, r3, r4, r5, r6, r7, r8, rf⟩ := hO.pt
   rename_i Kz hKz
   refine hKz _ _ ?_
   refine wp_ret ?_
   refine bodyPost_ret (v := .tuple #[.agg #[.int .u64 (limb (pX p1) 0 : Nat), .int .u64 (limb (pX p1) 1 : Nat), .int .u64 (limb (pX p1) 2 : Nat), .int .u64 (limb (pX p1) 3 : Nat), .int .u64 (limb (pY p1) 0 : Nat), .int .u64 (limb (pY p1) 1 : Nat), .int .u64 (limb (pY p1) 2 : Nat), .int .u64 (limb (pY p1) 3 : Nat), .bool (pI p1)], .int .i64 0]) ?_ rfl ⟨rfl, HB⟩
   simp [results, Tryd.results17, go_sem, r0, r1, r2, r3, r4, r5, r6, r7, r8]
end Go.Proofs.YtgmfecncfekjfaaDoor
