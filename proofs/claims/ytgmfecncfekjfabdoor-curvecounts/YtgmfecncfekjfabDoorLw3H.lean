/- Curve: a few times a point is the point added as often: the law's walk. -/
import Derived.Test.YtgmfecncfekjfabDoorLw3I
namespace Go.Proofs.YtgmfecncfekjfabDoor
open Go Go.RowKit Go.Lib
attribute [local go_sem] run_eqP run_eq49 eq4_same beqB_same

theorem ziL_eq : ziL = ptL (pX gr.z) (pY gr.z) (pI gr.z) := by
  unfold ptL
  rw [pX_none gr_z_val, pY_none gr_z_val, pI_none gr_z_val, lit0.1, lit0.2.1, lit0.2.2.1, lit0.2.2.2]; rfl
theorem few_limbs {n : Nat} (h : n ≤ 24) : (limb n 0 : Int) = (n : Int) ∧ (limb n 1 : Int) = 0 ∧ (limb n 2 : Int) = 0 ∧ (limb n 3 : Int) = 0 := by
  have : n = 0 ∨ n = 1 ∨ n = 2 ∨ n = 3 ∨ n = 4 ∨ n = 5 ∨ n = 6 ∨ n = 7 ∨ n = 8 ∨ n = 9 ∨ n = 10 ∨ n = 11 ∨ n = 12 ∨ n = 13 ∨ n = 14 ∨ n = 15 ∨ n = 16 ∨ n = 17 ∨ n = 18 ∨ n = 19 ∨ n = 20 ∨ n = 21 ∨ n = 22 ∨ n = 23 ∨ n = 24 := by omega
  rcases this with rfl | rfl | rfl | rfl | rfl | rfl | rfl | rfl | rfl | rfl | rfl | rfl | rfl | rfl | rfl | rfl | rfl | rfl | rfl | rfl | rfl | rfl | rfl | rfl | rfl <;> exact ⟨by kernel_rfl, by kernel_rfl, by kernel_rfl, by kernel_rfl⟩
def CtA (w wx : World) (b : Nat) (a q : Pts) : Prop := OwnC wx w.heap.size (ptL (pX a) (pY a) (pI a)) ∧ OwnC wx b (ptL (pX q) (pY q) (pI q)) ∧ Below w.heap.size w wx ∧ w.heap.size < b
theorem CtA.call {w W w1 : World} {b : Nat} {a q : Pts} (H : CtA w W b a q) (hb : Below W.heap.size W w1) : CtA w w1 b a q := ⟨H.1.call hb, H.2.1.call hb, below_call0 H.2.2.1 hb, H.2.2.2⟩
theorem CtA.put {w W : World} {b : Nat} {a q : Pts} (H : CtA w W b a q) (r : Pts) : CtA w ((((((((((W.setCell ⟨b, 0, none⟩ (.int .u64 (limb (pX r) 0 : Nat))).setCell ⟨b, 1, none⟩ (.int .u64 (limb (pX r) 1 : Nat))).setCell ⟨b, 2, none⟩ (.int .u64 (limb (pX r) 2 : Nat))).setCell ⟨b, 3, none⟩ (.int .u64 (limb (pX r) 3 : Nat))).setCell ⟨b, 4, none⟩ (.int .u64 (limb (pY r) 0 : Nat))).setCell ⟨b, 5, none⟩ (.int .u64 (limb (pY r) 1 : Nat))).setCell ⟨b, 6, none⟩ (.int .u64 (limb (pY r) 2 : Nat))).setCell ⟨b, 7, none⟩ (.int .u64 (limb (pY r) 3 : Nat))).setCell ⟨b, 8, none⟩ (.bool (pI r)))) b a r := by
  have a1 : w.heap.size ≠ b := by have := H.2.2.2; omega
  exact ⟨OwnC.puts (ptL (pX r) (pY r) (pI r)) 0 H.1 a1, OwnC.put (ptL (pX r) (pY r) (pI r)) H.2.1 rfl, below_putL (Nat.le_of_lt H.2.2.2) (ptL (pX r) (pY r) (pI r)) 0 _ H.2.2.1, H.2.2.2⟩
set_option maxRecDepth 100000 in
set_option maxHeartbeats 4000000 in
theorem counts_bad (u v : Nat) (j : Bool) (hU : u < R256) (hV : v < R256) (hk : ptOk u v j = false) (k : Int) (w : World) (hG : GlobP w) (hT : GTH w) (hQ : GG w) : Calls Tryd.prog 4 #[.agg #[.int .u64 (limb (u) 0 : Nat), .int .u64 (limb (u) 1 : Nat), .int .u64 (limb (u) 2 : Nat), .int .u64 (limb (u) 3 : Nat), .int .u64 (limb (v) 0 : Nat), .int .u64 (limb (v) 1 : Nat), .int .u64 (limb (v) 2 : Nat), .int .u64 (limb (v) 3 : Nat), .bool j], .int .i64 k] w fun e w' => e = .returned (.bool true) ∧ Below w.heap.size w w' := by
  have K1 : Hid (∀ w, Calls Tryd.prog 5 #[.agg #[.int .u64 (limb (u) 0 : Nat), .int .u64 (limb (u) 1 : Nat), .int .u64 (limb (u) 2 : Nat), .int .u64 (limb (u) 3 : Nat), .int .u64 (limb (v) 0 : Nat), .int .u64 (limb (v) 1 : Nat), .int .u64 (limb (v) 2 : Nat), .int .u64 (limb (v) 3 : Nat), .bool j]] w fun e w' => e = .returned (.bool false) ∧ Below w.heap.size w w') := fun w => by have k := is3_any u v j hU hV w; rw [hk] at k; exact k
  have K2 : Hid (∀ w, GlobP w → GTH w → GG w → Calls Tryd.prog 6 #[] w fun e w' => e = .returned (.bool true) ∧ Below w.heap.size w w') := fun w h1 h2 h3 => g3_any w h1 h2 h3
  obtain ⟨w0, hw0⟩ : ∃ wq, wq = (w.alloc (.cells #[.int .u64 (limb (u) 0 : Nat), .int .u64 (limb (u) 1 : Nat), .int .u64 (limb (u) 2 : Nat), .int .u64 (limb (u) 3 : Nat), .int .u64 (limb (v) 0 : Nat), .int .u64 (limb (v) 1 : Nat), .int .u64 (limb (v) 2 : Nat), .int .u64 (limb (v) 3 : Nat), .bool j] 26)) := ⟨_, rfl⟩
  have H0 : Hid (OwnC w0 (w.heap.size) (ptL u v j)) ∧ Hid (Below w.heap.size w w0) ∧ Hid (GlobP w0) ∧ Hid (GTH w0) ∧ Hid (GG w0) := by
    rw [hw0]
    exact ⟨(OwnC.new' rfl), below_alloc0 (Below.refl _ _) _, (hG).call (below_alloc0 (Below.refl _ _) _), (hT).call (below_alloc0 (Below.refl _ _) _), (hQ).call (below_alloc0 (Below.refl _ _) _)⟩
  obtain ⟨P0_0, W_0, G_0, T_0, Q_0⟩ := H0
  clear hU hV hk hG hT hQ
  go_enter Tryd.func4, Tryd.ntmps4
  go_upto_region 1 with fail
  rw [← hw0]
  clear hw0
  obtain ⟨fP0z, fP00, fP01, fP02, fP03, fP04, fP05, fP06, fP07, fP08, fP0f⟩ := (P0_0.out).pt
  go_wp2_with fail
  clear fP0z fP00 fP01 fP02 fP03 fP04 fP05 fP06 fP07 fP08 fP0f
  refine (K1.out _).mono ?_
  rintro e w1 ⟨rfl, hq⟩
  have P0_1 : Hid (OwnC w1 (w.heap.size) (ptL u v j)) := OwnC.call P0_0.out hq
  have W_1 : Hid (Below w.heap.size w w1) := below_call0 W_0.out hq
  have G_1 : Hid (GlobP w1) := G_0.out.call hq
  have T_1 : Hid (GTH w1) := T_0.out.call hq
  have Q_1 : Hid (GG w1) := Q_0.out.call hq
  clear hq P0_0 W_0 G_0 T_0 Q_0
  go_upto_region 2 with fail
  go_wp2_with fail
  refine (K2.out _ (G_1.out) (T_1.out) (Q_1.out)).mono ?_
  rintro e w2 ⟨rfl, hq⟩
  have P0_2 : Hid (OwnC w2 (w.heap.size) (ptL u v j)) := OwnC.call P0_1.out hq
  have W_2 : Hid (Below w.heap.size w w2) := below_call0 W_1.out hq
  have G_2 : Hid (GlobP w2) := G_1.out.call hq
  have T_2 : Hid (GTH w2) := T_1.out.call hq
  have Q_2 : Hid (GG w2) := Q_1.out.call hq
  clear hq P0_1 W_1 G_1 T_1 Q_1
  go_wp2_with fail
  go_ret
  exact ⟨rfl, W_2.out⟩
set_option maxRecDepth 100000 in
set_option maxHeartbeats 4000000 in
theorem counts_neg (a : Pts) (k : Int) (hk : k < 0) (w : World) (hG : GlobP w) (hT : GTH w) (hQ : GG w) : Calls Tryd.prog 4 #[.agg #[.int .u64 (limb (pX a) 0 : Nat), .int .u64 (limb (pX a) 1 : Nat), .int .u64 (limb (pX a) 2 : Nat), .int .u64 (limb (pX a) 3 : Nat), .int .u64 (limb (pY a) 0 : Nat), .int .u64 (limb (pY a) 1 : Nat), .int .u64 (limb (pY a) 2 : Nat), .int .u64 (limb (pY a) 3 : Nat), .bool (pI a)], .int .i64 k] w fun e w' => e = .returned (.bool true) ∧ Below w.heap.size w w' := by
  have K1 : Hid (∀ w, Calls Tryd.prog 5 #[.agg #[.int .u64 (limb (pX a) 0 : Nat), .int .u64 (limb (pX a) 1 : Nat), .int .u64 (limb (pX a) 2 : Nat), .int .u64 (limb (pX a) 3 : Nat), .int .u64 (limb (pY a) 0 : Nat), .int .u64 (limb (pY a) 1 : Nat), .int .u64 (limb (pY a) 2 : Nat), .int .u64 (limb (pY a) 3 : Nat), .bool (pI a)]] w fun e w' => e = .returned (.bool true) ∧ Below w.heap.size w w') := fun w => by have k := is3_A a w; exact k
  have K2 : Hid (∀ w, GlobP w → GTH w → GG w → Calls Tryd.prog 6 #[] w fun e w' => e = .returned (.bool true) ∧ Below w.heap.size w w') := fun w h1 h2 h3 => g3_any w h1 h2 h3
  obtain ⟨w0, hw0⟩ : ∃ wq, wq = (w.alloc (.cells #[.int .u64 (limb (pX a) 0 : Nat), .int .u64 (limb (pX a) 1 : Nat), .int .u64 (limb (pX a) 2 : Nat), .int .u64 (limb (pX a) 3 : Nat), .int .u64 (limb (pY a) 0 : Nat), .int .u64 (limb (pY a) 1 : Nat), .int .u64 (limb (pY a) 2 : Nat), .int .u64 (limb (pY a) 3 : Nat), .bool (pI a)] 26)) := ⟨_, rfl⟩
  have H0 : Hid (OwnC w0 (w.heap.size) (ptL (pX a) (pY a) (pI a))) ∧ Hid (Below w.heap.size w w0) ∧ Hid (GlobP w0) ∧ Hid (GTH w0) ∧ Hid (GG w0) := by
    rw [hw0]
    exact ⟨(OwnC.new' rfl), below_alloc0 (Below.refl _ _) _, (hG).call (below_alloc0 (Below.refl _ _) _), (hT).call (below_alloc0 (Below.refl _ _) _), (hQ).call (below_alloc0 (Below.refl _ _) _)⟩
  obtain ⟨P0_0, W_0, G_0, T_0, Q_0⟩ := H0
  clear hG hT hQ
  have d1 : decide (k < 0) = true := decide_eq_true hk
  go_enter Tryd.func4, Tryd.ntmps4
  go_upto_region 1 with fail
  rw [← hw0]
  clear hw0
  obtain ⟨fP0z, fP00, fP01, fP02, fP03, fP04, fP05, fP06, fP07, fP08, fP0f⟩ := (P0_0.out).pt
  go_wp2_with fail
  clear fP0z fP00 fP01 fP02 fP03 fP04 fP05 fP06 fP07 fP08 fP0f
  refine (K1.out _).mono ?_
  rintro e w1 ⟨rfl, hq⟩
  have P0_1 : Hid (OwnC w1 (w.heap.size) (ptL (pX a) (pY a) (pI a))) := OwnC.call P0_0.out hq
  have W_1 : Hid (Below w.heap.size w w1) := below_call0 W_0.out hq
  have G_1 : Hid (GlobP w1) := G_0.out.call hq
  have T_1 : Hid (GTH w1) := T_0.out.call hq
  have Q_1 : Hid (GG w1) := Q_0.out.call hq
  clear hq P0_0 W_0 G_0 T_0 Q_0
  go_upto_region 2 with fail
  go_wp2_with fail
  refine (K2.out _ (G_1.out) (T_1.out) (Q_1.out)).mono ?_
  rintro e w2 ⟨rfl, hq⟩
  have P0_2 : Hid (OwnC w2 (w.heap.size) (ptL (pX a) (pY a) (pI a))) := OwnC.call P0_1.out hq
  have W_2 : Hid (Below w.heap.size w w2) := below_call0 W_1.out hq
  have G_2 : Hid (GlobP w2) := G_1.out.call hq
  have T_2 : Hid (GTH w2) := T_1.out.call hq
  have Q_2 : Hid (GG w2) := Q_1.out.call hq
  clear hq P0_1 W_1 G_1 T_1 Q_1
  go_wp2_with fail
  go_ret
  exact ⟨rfl, W_2.out⟩
set_option maxRecDepth 100000 in
set_option maxHeartbeats 4000000 in
theorem counts_gt (a : Pts) (k : Int) (hk : 24 < k) (w : World) (hG : GlobP w) (hT : GTH w) (hQ : GG w) : Calls Tryd.prog 4 #[.agg #[.int .u64 (limb (pX a) 0 : Nat), .int .u64 (limb (pX a) 1 : Nat), .int .u64 (limb (pX a) 2 : Nat), .int .u64 (limb (pX a) 3 : Nat), .int .u64 (limb (pY a) 0 : Nat), .int .u64 (limb (pY a) 1 : Nat), .int .u64 (limb (pY a) 2 : Nat), .int .u64 (limb (pY a) 3 : Nat), .bool (pI a)], .int .i64 k] w fun e w' => e = .returned (.bool true) ∧ Below w.heap.size w w' := by
  have K1 : Hid (∀ w, Calls Tryd.prog 5 #[.agg #[.int .u64 (limb (pX a) 0 : Nat), .int .u64 (limb (pX a) 1 : Nat), .int .u64 (limb (pX a) 2 : Nat), .int .u64 (limb (pX a) 3 : Nat), .int .u64 (limb (pY a) 0 : Nat), .int .u64 (limb (pY a) 1 : Nat), .int .u64 (limb (pY a) 2 : Nat), .int .u64 (limb (pY a) 3 : Nat), .bool (pI a)]] w fun e w' => e = .returned (.bool true) ∧ Below w.heap.size w w') := fun w => by have k := is3_A a w; exact k
  have K2 : Hid (∀ w, GlobP w → GTH w → GG w → Calls Tryd.prog 6 #[] w fun e w' => e = .returned (.bool true) ∧ Below w.heap.size w w') := fun w h1 h2 h3 => g3_any w h1 h2 h3
  obtain ⟨w0, hw0⟩ : ∃ wq, wq = (w.alloc (.cells #[.int .u64 (limb (pX a) 0 : Nat), .int .u64 (limb (pX a) 1 : Nat), .int .u64 (limb (pX a) 2 : Nat), .int .u64 (limb (pX a) 3 : Nat), .int .u64 (limb (pY a) 0 : Nat), .int .u64 (limb (pY a) 1 : Nat), .int .u64 (limb (pY a) 2 : Nat), .int .u64 (limb (pY a) 3 : Nat), .bool (pI a)] 26)) := ⟨_, rfl⟩
  have H0 : Hid (OwnC w0 (w.heap.size) (ptL (pX a) (pY a) (pI a))) ∧ Hid (Below w.heap.size w w0) ∧ Hid (GlobP w0) ∧ Hid (GTH w0) ∧ Hid (GG w0) := by
    rw [hw0]
    exact ⟨(OwnC.new' rfl), below_alloc0 (Below.refl _ _) _, (hG).call (below_alloc0 (Below.refl _ _) _), (hT).call (below_alloc0 (Below.refl _ _) _), (hQ).call (below_alloc0 (Below.refl _ _) _)⟩
  obtain ⟨P0_0, W_0, G_0, T_0, Q_0⟩ := H0
  clear hG hT hQ
  have d1 : decide (k < 0) = false := decide_eq_false (by omega)
  have d0 : ¬ k < 0 := by omega
  have d2 : decide (24 < k) = true := decide_eq_true hk
  go_enter Tryd.func4, Tryd.ntmps4
  go_upto_region 1 with fail
  rw [← hw0]
  clear hw0
  obtain ⟨fP0z, fP00, fP01, fP02, fP03, fP04, fP05, fP06, fP07, fP08, fP0f⟩ := (P0_0.out).pt
  go_wp2_with fail
  clear fP0z fP00 fP01 fP02 fP03 fP04 fP05 fP06 fP07 fP08 fP0f
  refine (K1.out _).mono ?_
  rintro e w1 ⟨rfl, hq⟩
  have P0_1 : Hid (OwnC w1 (w.heap.size) (ptL (pX a) (pY a) (pI a))) := OwnC.call P0_0.out hq
  have W_1 : Hid (Below w.heap.size w w1) := below_call0 W_0.out hq
  have G_1 : Hid (GlobP w1) := G_0.out.call hq
  have T_1 : Hid (GTH w1) := T_0.out.call hq
  have Q_1 : Hid (GG w1) := Q_0.out.call hq
  clear hq P0_0 W_0 G_0 T_0 Q_0
  go_upto_region 2 with fail
  go_wp2_with fail
  refine (K2.out _ (G_1.out) (T_1.out) (Q_1.out)).mono ?_
  rintro e w2 ⟨rfl, hq⟩
  have P0_2 : Hid (OwnC w2 (w.heap.size) (ptL (pX a) (pY a) (pI a))) := OwnC.call P0_1.out hq
  have W_2 : Hid (Below w.heap.size w w2) := below_call0 W_1.out hq
  have G_2 : Hid (GlobP w2) := G_1.out.call hq
  have T_2 : Hid (GTH w2) := T_1.out.call hq
  have Q_2 : Hid (GG w2) := Q_1.out.call hq
  clear hq P0_1 W_1 G_1 T_1 Q_1
  go_wp2_with fail
  go_ret
  exact ⟨rfl, W_2.out⟩
set_option maxRecDepth 100000 in
set_option maxHeartbeats 4000000 in
theorem counts_ok (a : Pts) (n : Nat) (hn : n ≤ 24) (w : World) (hG : GlobP w) (hN : GlobQ w) (hT : GTH w) (hQ : GG w) : Calls Tryd.prog 4 #[.agg #[.int .u64 (limb (pX a) 0 : Nat), .int .u64 (limb (pX a) 1 : Nat), .int .u64 (limb (pX a) 2 : Nat), .int .u64 (limb (pX a) 3 : Nat), .int .u64 (limb (pY a) 0 : Nat), .int .u64 (limb (pY a) 1 : Nat), .int .u64 (limb (pY a) 2 : Nat), .int .u64 (limb (pY a) 3 : Nat), .bool (pI a)], .int .i64 (n : Nat)] w fun e w' => e = .returned (.bool true) ∧ Below w.heap.size w w' := by
  have K1 : Hid (∀ w, Calls Tryd.prog 5 #[.agg #[.int .u64 (limb (pX a) 0 : Nat), .int .u64 (limb (pX a) 1 : Nat), .int .u64 (limb (pX a) 2 : Nat), .int .u64 (limb (pX a) 3 : Nat), .int .u64 (limb (pY a) 0 : Nat), .int .u64 (limb (pY a) 1 : Nat), .int .u64 (limb (pY a) 2 : Nat), .int .u64 (limb (pY a) 3 : Nat), .bool (pI a)]] w fun e w' => e = .returned (.bool true) ∧ Below w.heap.size w w') := fun w => by have k := is3_A a w; exact k
  have HW : Hid (GlobP w ∧ GlobQ w ∧ GTH w ∧ GG w) := ⟨hG, hN, hT, hQ⟩
  have HK24 : Hid (n ≤ 24) := hn
  have n24' : (n : Int) ≤ 24 := by omega
  obtain ⟨w0, hw0⟩ : ∃ wq, wq = (w.alloc (.cells #[.int .u64 (limb (pX a) 0 : Nat), .int .u64 (limb (pX a) 1 : Nat), .int .u64 (limb (pX a) 2 : Nat), .int .u64 (limb (pX a) 3 : Nat), .int .u64 (limb (pY a) 0 : Nat), .int .u64 (limb (pY a) 1 : Nat), .int .u64 (limb (pY a) 2 : Nat), .int .u64 (limb (pY a) 3 : Nat), .bool (pI a)] 26)) := ⟨_, rfl⟩
  have H0 : Hid (OwnC w0 (w.heap.size) (ptL (pX a) (pY a) (pI a))) ∧ Hid (Below w.heap.size w w0) ∧ Hid (GlobP w0) ∧ Hid (GlobQ w0) ∧ Hid (GTH w0) ∧ Hid (GG w0) := by
    rw [hw0]
    exact ⟨(OwnC.new' rfl), below_alloc0 (Below.refl _ _) _, (hG).call (below_alloc0 (Below.refl _ _) _), (hN).call (below_alloc0 (Below.refl _ _) _), (hT).call (below_alloc0 (Below.refl _ _) _), (hQ).call (below_alloc0 (Below.refl _ _) _)⟩
  obtain ⟨P0_0, W_0, G_0, N_0, T_0, Q_0⟩ := H0
  clear hG hN hT hQ hn
  have d1 : decide ((n : Int) < 0) = false := decide_eq_false (by omega)
  have d0 : ¬ (n : Int) < 0 := by omega
  have d2 : decide ((24 : Int) < (n : Int)) = false := decide_eq_false (by omega)
  have d3 : ¬ ((24 : Int) < (n : Int)) := by omega
  go_enter Tryd.func4, Tryd.ntmps4
  go_upto_region 1 with fail
  rw [← hw0]
  clear hw0
  obtain ⟨fP0z, fP00, fP01, fP02, fP03, fP04, fP05, fP06, fP07, fP08, fP0f⟩ := (P0_0.out).pt
  go_wp2_with fail
  clear fP0z fP00 fP01 fP02 fP03 fP04 fP05 fP06 fP07 fP08 fP0f
  refine (K1.out _).mono ?_
  rintro e w1 ⟨rfl, hq⟩
  have P0_1 : Hid (OwnC w1 (w.heap.size) (ptL (pX a) (pY a) (pI a))) := OwnC.call P0_0.out hq
  have W_1 : Hid (Below w.heap.size w w1) := below_call0 W_0.out hq
  have G_1 : Hid (GlobP w1) := G_0.out.call hq
  have N_1 : Hid (GlobQ w1) := N_0.out.call hq
  have T_1 : Hid (GTH w1) := T_0.out.call hq
  have Q_1 : Hid (GG w1) := Q_0.out.call hq
  clear hq P0_0 W_0 G_0 N_0 T_0 Q_0
  go_upto_region 3 with fail
  go_upto_region 3 with fail
  go_cut [5] (fun vq5 wx => ∃ bk5, vq5 = .pointer (some ⟨bk5, 0, none⟩) ∧ w1.heap.size ≤ bk5 ∧ OwnC wx bk5 ziL ∧ Below w1.heap.size w1 wx)
  case first =>
    go_wp2_with fail
    go_meet
    exact ⟨_, rfl, Nat.le_refl _, OwnC.new' rfl, below_alloc0 (Below.refl _ _) _⟩
  case rest =>
    obtain ⟨bk5, rfl, hle, hO, hB⟩ := hcut
    have HLE : Hid (w.heap.size < bk5) := Nat.lt_of_lt_of_le P0_1.out.1 hle
    have P0_2 : Hid (OwnC wc (w.heap.size) (ptL (pX a) (pY a) (pI a))) := OwnC.call P0_1.out hB
    have W_2 : Hid (Below w.heap.size w wc) := below_call0 W_1.out hB
    have G_2 : Hid (GlobP wc) := G_1.out.call hB
    have N_2 : Hid (GlobQ wc) := N_1.out.call hB
    have T_2 : Hid (GTH wc) := T_1.out.call hB
    have Q_2 : Hid (GG wc) := Q_1.out.call hB
    have V5_2 : Hid (OwnC wc bk5 ziL) := hO
    clear hB P0_1 W_1 G_1 N_1 T_1 Q_1
    clear hO hle
    generalize wc = w2 at P0_2 W_2 G_2 N_2 T_2 Q_2 V5_2 ⊢
    have HI : Hid (CtA w w2 bk5 a (gr.mul 0 a)) := ⟨P0_2.out, by show OwnC w2 bk5 (ptL (pX gr.z) (pY gr.z) (pI gr.z)); rw [← ziL_eq]; exact V5_2.out, W_2.out, HLE.out⟩
    have H0 : Hid (GlobP w ∧ GlobQ w ∧ GTH w ∧ GG w) := HW.out
    clear P0_2 V5_2 W_2 G_2 N_2 T_2 Q_2 HLE HW
    go_wp2_with fail
    rename_i Kr hKr
    have HKr : Hid _ := hKr
    clear hKr
    go_loopw [6] (fun iv wr => ∃ k : Nat, k ≤ n ∧ iv = .int .i64 (k : Nat) ∧ CtA w wr bk5 a (gr.mul k a)) (fun iv _ => n - (Go.RowKit.intOf iv).toNat)
    case atStart => exact ⟨0, Nat.zero_le _, rfl, HI.out⟩
    case round =>
      clear HI
      obtain ⟨k, hk, rfl, hC⟩ := hrel
      rename World => w4
      obtain ⟨q, hq⟩ : ∃ q, q = gr.mul k a := ⟨_, rfl⟩
      rw [← hq] at hC
      have HC : Hid (CtA w w4 bk5 a q) := hC
      by_cases hlt : k < n
      · have hlt' : (k : Int) < (n : Int) := Int.ofNat_lt.2 hlt
        have hkk : k + 1 ≤ n := hlt
        obtain ⟨r, hr⟩ : ∃ r, r = gr.add q a := ⟨_, rfl⟩
        have HR : Hid (gr.mul (k + 1) a = r) := by
          show gr.mul (k + 1) a = r
          rw [hr, hq]; rfl
        have KA : Hid (∀ w, GlobP w → GTH w → Calls Tryd.prog 12 #[.agg #[.int .u64 (limb (pX (q)) 0 : Nat), .int .u64 (limb (pX (q)) 1 : Nat), .int .u64 (limb (pX (q)) 2 : Nat), .int .u64 (limb (pX (q)) 3 : Nat), .int .u64 (limb (pY (q)) 0 : Nat), .int .u64 (limb (pY (q)) 1 : Nat), .int .u64 (limb (pY (q)) 2 : Nat), .int .u64 (limb (pY (q)) 3 : Nat), .bool (pI (q))], .agg #[.int .u64 (limb (pX (a)) 0 : Nat), .int .u64 (limb (pX (a)) 1 : Nat), .int .u64 (limb (pX (a)) 2 : Nat), .int .u64 (limb (pX (a)) 3 : Nat), .int .u64 (limb (pY (a)) 0 : Nat), .int .u64 (limb (pY (a)) 1 : Nat), .int .u64 (limb (pY (a)) 2 : Nat), .int .u64 (limb (pY (a)) 3 : Nat), .bool (pI (a))]] w fun e w' => e = .returned (.tuple #[.agg #[.int .u64 (limb (pX (r)) 0 : Nat), .int .u64 (limb (pX (r)) 1 : Nat), .int .u64 (limb (pX (r)) 2 : Nat), .int .u64 (limb (pX (r)) 3 : Nat), .int .u64 (limb (pY (r)) 0 : Nat), .int .u64 (limb (pY (r)) 1 : Nat), .int .u64 (limb (pY (r)) 2 : Nat), .int .u64 (limb (pY (r)) 3 : Nat), .bool (pI (r))], .int .i64 0]) ∧ Below w.heap.size w w') := fun w g t => by rw [hr]; exact Add_A q a w g t
        obtain ⟨fz, f0, f1, f2, f3, f4, f5, f6, f7, f8, ff⟩ := HC.out.2.1.pt
        obtain ⟨hz, h0, h1, h2, h3, h4, h5, h6, h7, h8, hf⟩ := HC.out.1.pt
        clear hC hq hr hk hlt HKr
        go_wp2_with fail
        refine (KA.out _ (H0.out.1.call HC.out.2.2.1) (H0.out.2.2.1.call HC.out.2.2.1)).mono ?_
        rintro e w7 ⟨rfl, hb7⟩
        obtain ⟨w8, hw8⟩ : ∃ wq, wq = w7.alloc (.cells #[.int .u64 (limb (pX r) 0 : Nat), .int .u64 (limb (pX r) 1 : Nat), .int .u64 (limb (pX r) 2 : Nat), .int .u64 (limb (pX r) 3 : Nat), .int .u64 (limb (pY r) 0 : Nat), .int .u64 (limb (pY r) 1 : Nat), .int .u64 (limb (pY r) 2 : Nat), .int .u64 (limb (pY r) 3 : Nat), .bool (pI r)] 26) := ⟨_, rfl⟩
        have HC8 : Hid (CtA w w8 bk5 a q) := by rw [hw8]; exact (HC.out.call hb7).call (below_alloc0 (Below.refl _ _) _)
        have HV8 : Hid (OwnC w8 w7.heap.size (ptL (pX r) (pY r) (pI r))) := by rw [hw8]; exact OwnC.new' rfl
        clear hb7 HC KA fz f0 f1 f2 f3 f4 f5 f6 f7 f8 ff hz h0 h1 h2 h3 h4 h5 h6 h7 h8 hf
        go_upto_region 8 with fail
        rw [← hw8]
        clear hw8
        obtain ⟨mz, m0, m1, m2, m3, m4, m5, m6, m7, m8, mf⟩ := HC8.out.2.1.pt
        obtain ⟨sz, s0, s1, s2, s3, s4, s5, s6, s7, s8, sf⟩ := HV8.out.pt
        have HN : Hid (CtA w (((((((((w8.setCell ⟨bk5, 0, none⟩ (.int .u64 (limb (pX r) 0 : Nat))).setCell ⟨bk5, 1, none⟩ (.int .u64 (limb (pX r) 1 : Nat))).setCell ⟨bk5, 2, none⟩ (.int .u64 (limb (pX r) 2 : Nat))).setCell ⟨bk5, 3, none⟩ (.int .u64 (limb (pX r) 3 : Nat))).setCell ⟨bk5, 4, none⟩ (.int .u64 (limb (pY r) 0 : Nat))).setCell ⟨bk5, 5, none⟩ (.int .u64 (limb (pY r) 1 : Nat))).setCell ⟨bk5, 6, none⟩ (.int .u64 (limb (pY r) 2 : Nat))).setCell ⟨bk5, 7, none⟩ (.int .u64 (limb (pY r) 3 : Nat))).setCell ⟨bk5, 8, none⟩ (.bool (pI r))) bk5 a r) := HC8.out.put r
        go_wp2_with fail
        go_roundw
        case rel => first | exact ⟨k + 1, hkk, by go_num, by rw [HR.out]; exact HN.out⟩ | ((repeat apply Exists.intro); exact ⟨⟨k + 1, hkk, by go_num, by rw [HR.out]; exact HN.out⟩, rfl⟩)
        case measure => simp [intOf]; omega
      · obtain rfl : k = n := by omega
        have hnl : ¬ ((k : Int) < (k : Int)) := Int.lt_irrefl _
        have k24 := HK24.out
        obtain ⟨l0, l1, l2, l3⟩ := few_limbs k24
        have KM : Hid (∀ w, GlobP w → GlobQ w → GTH w → Calls Tryd.prog 10 #[.agg #[.int .u64 (k : Nat), .int .u64 0, .int .u64 0, .int .u64 0], .agg #[.int .u64 (limb (pX (a)) 0 : Nat), .int .u64 (limb (pX (a)) 1 : Nat), .int .u64 (limb (pX (a)) 2 : Nat), .int .u64 (limb (pX (a)) 3 : Nat), .int .u64 (limb (pY (a)) 0 : Nat), .int .u64 (limb (pY (a)) 1 : Nat), .int .u64 (limb (pY (a)) 2 : Nat), .int .u64 (limb (pY (a)) 3 : Nat), .bool (pI (a))]] w fun e w' => e = .returned (.tuple #[.agg #[.int .u64 (limb (pX (q)) 0 : Nat), .int .u64 (limb (pX (q)) 1 : Nat), .int .u64 (limb (pX (q)) 2 : Nat), .int .u64 (limb (pX (q)) 3 : Nat), .int .u64 (limb (pY (q)) 0 : Nat), .int .u64 (limb (pY (q)) 1 : Nat), .int .u64 (limb (pY (q)) 2 : Nat), .int .u64 (limb (pY (q)) 3 : Nat), .bool (pI (q))], .int .i64 0]) ∧ Below w.heap.size w w') := fun w g m t => by
          have h := Mul_ok k a (Nat.lt_of_le_of_lt k24 (by decide)) w g m t
          rw [l0, l1, l2, l3, ← hq] at h
          exact h
        have KG : Hid (∀ w, GlobP w → GTH w → GG w → Calls Tryd.prog 6 #[] w fun e w' => e = .returned (.bool true) ∧ Below w.heap.size w w') := fun w h1 h2 h3 => g3_any w h1 h2 h3
        have wk : IntKind.u64.wrap (k : Int) = (k : Int) := by rw [IntKind.wrap_u64]; omega
        have k25 : (k : Int) ≤ 24 := by omega
        clear hlt hk hC hq l0 l1 l2 l3 k24 HK24
        go_wp2_with fail
        refine HKr.out _ _ ?_
        clear HKr
        obtain ⟨hz, h0, h1, h2, h3, h4, h5, h6, h7, h8, hf⟩ := HC.out.1.pt
        go_wp2_with fail
        refine (KM.out _ (H0.out.1.call HC.out.2.2.1) (H0.out.2.1.call HC.out.2.2.1) (H0.out.2.2.1.call HC.out.2.2.1)).mono ?_
        rintro e w7 ⟨rfl, hb7⟩
        obtain ⟨w8, hw8⟩ : ∃ wq, wq = w7.alloc (.cells #[.int .u64 (limb (pX q) 0 : Nat), .int .u64 (limb (pX q) 1 : Nat), .int .u64 (limb (pX q) 2 : Nat), .int .u64 (limb (pX q) 3 : Nat), .int .u64 (limb (pY q) 0 : Nat), .int .u64 (limb (pY q) 1 : Nat), .int .u64 (limb (pY q) 2 : Nat), .int .u64 (limb (pY q) 3 : Nat), .bool (pI q)] 26) := ⟨_, rfl⟩
        have HC8 : Hid (CtA w w8 bk5 a q) := by rw [hw8]; exact (HC.out.call hb7).call (below_alloc0 (Below.refl _ _) _)
        have HV8 : Hid (OwnC w8 w7.heap.size (ptL (pX q) (pY q) (pI q))) := by rw [hw8]; exact OwnC.new' rfl
        clear hb7 HC KM hz h0 h1 h2 h3 h4 h5 h6 h7 h8 hf
        go_upto_region 12 with fail
        rw [← hw8]
        clear hw8
        obtain ⟨mz, m0, m1, m2, m3, m4, m5, m6, m7, m8, mf⟩ := HC8.out.2.1.pt
        obtain ⟨sz, s0, s1, s2, s3, s4, s5, s6, s7, s8, sf⟩ := HV8.out.pt
        go_wp2_with fail
        clear mz m0 m1 m2 m3 m4 m5 m6 m7 m8 mf sz s0 s1 s2 s3 s4 s5 s6 s7 s8 sf
        refine (KG.out _ (H0.out.1.call HC8.out.2.2.1) (H0.out.2.2.1.call HC8.out.2.2.1) (H0.out.2.2.2.call HC8.out.2.2.1)).mono ?_
        rintro e w9 ⟨rfl, hb9⟩
        have HB : Hid (Below w.heap.size w w9) := below_call0 HC8.out.2.2.1 hb9
        clear hb9
        go_wp2_with fail
        go_ret
        exact ⟨rfl, HB.out⟩
theorem counts_any (u v : Nat) (j : Bool) (k : Int) (hU : u < R256) (hV : v < R256) (w : World) (hG : GlobP w) (hN : GlobQ w) (hT : GTH w) (hQ : GG w) : Calls Tryd.prog 4 #[.agg #[.int .u64 (limb (u) 0 : Nat), .int .u64 (limb (u) 1 : Nat), .int .u64 (limb (u) 2 : Nat), .int .u64 (limb (u) 3 : Nat), .int .u64 (limb (v) 0 : Nat), .int .u64 (limb (v) 1 : Nat), .int .u64 (limb (v) 2 : Nat), .int .u64 (limb (v) 3 : Nat), .bool (j)], .int .i64 k] w fun e w' => e = .returned (.bool true) ∧ Below w.heap.size w w' := by
  cases h1 : ptOk u v j with
  | false => exact counts_bad u v j hU hV h1 k w hG hT hQ
  | true =>
    obtain ⟨a, rfl, rfl, rfl⟩ := pts_of h1
    by_cases c1 : k < 0
    · exact counts_neg a k c1 w hG hT hQ
    · by_cases c2 : 24 < k
      · exact counts_gt a k c2 w hG hT hQ
      · obtain ⟨n, rfl⟩ : ∃ n : Nat, k = (n : Int) := ⟨k.toNat, by omega⟩
        exact counts_ok a n (by omega) w hG hN hT hQ
end Go.Proofs.YtgmfecncfekjfabDoor
