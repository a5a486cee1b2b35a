/- Curve: Q times any point is the one at infinity: the law's walk. -/
import Derived.Test.YtgmfecncfekjfabDoorLw3I
import Derived.Test.YtgmfecncfekjfabDoorFieldG
namespace Go.Proofs.YtgmfecncfekjfabDoor
open Go Go.RowKit Go.Lib
attribute [local go_sem] run_eqP run_eq49 eq4_same beqB_same

theorem gr_uniq {x p : Pts} (h : gr.add x p = gr.z) : x = gr.neg p := gr.cancel (c := p) (by rw [h, gr.comm, gr.inv])
theorem last_one : subM QQ 0 1 + 1 = QQ := by kernel_rfl
theorem gr_last (p : Pts) : gr.mul (subM QQ 0 1) p = gr.neg p := gr_uniq (by
  have h : gr.mul (subM QQ 0 1 + 1) p = gr.z := by rw [last_one]; exact order_any p
  exact h)
theorem gr_mul_neg (k : Nat) (p : Pts) : gr.mul k (gr.neg p) = gr.neg (gr.mul k p) := gr_uniq (by
  rw [gr.comm, ← gr.mul_sum, gr.inv, gr.mul_z])
theorem last_lt : subM QQ 0 1 < QQ := of_decide_eq_true (by kernel_rfl)
set_option maxRecDepth 100000 in
set_option maxHeartbeats 4000000 in
theorem order_bad (k u v : Nat) (j : Bool) (hU : u < R256) (hV : v < R256) (hk : ptOk u v j = false) (w : World) (hG : GlobP w) (hT : GTH w) (hQ : GG w) : Calls Tryd.prog 3 #[.agg #[.int .u64 (limb (k) 0 : Nat), .int .u64 (limb (k) 1 : Nat), .int .u64 (limb (k) 2 : Nat), .int .u64 (limb (k) 3 : Nat)], .agg #[.int .u64 (limb (u) 0 : Nat), .int .u64 (limb (u) 1 : Nat), .int .u64 (limb (u) 2 : Nat), .int .u64 (limb (u) 3 : Nat), .int .u64 (limb (v) 0 : Nat), .int .u64 (limb (v) 1 : Nat), .int .u64 (limb (v) 2 : Nat), .int .u64 (limb (v) 3 : Nat), .bool j]] w fun e w' => e = .returned (.bool true) ∧ Below w.heap.size w w' := by
  have K1 : Hid (∀ w, Calls Tryd.prog 5 #[.agg #[.int .u64 (limb (u) 0 : Nat), .int .u64 (limb (u) 1 : Nat), .int .u64 (limb (u) 2 : Nat), .int .u64 (limb (u) 3 : Nat), .int .u64 (limb (v) 0 : Nat), .int .u64 (limb (v) 1 : Nat), .int .u64 (limb (v) 2 : Nat), .int .u64 (limb (v) 3 : Nat), .bool j]] w fun e w' => e = .returned (.bool false) ∧ Below w.heap.size w w') := fun w => by have k := is3_any u v j hU hV w; rw [hk] at k; exact k
  have K2 : Hid (∀ w, GlobP w → GTH w → GG w → Calls Tryd.prog 6 #[] w fun e w' => e = .returned (.bool true) ∧ Below w.heap.size w w') := fun w h1 h2 h3 => g3_any w h1 h2 h3
  obtain ⟨w0, hw0⟩ : ∃ wq, wq = ((w.alloc (.cells #[.int .u64 (limb (k) 0 : Nat), .int .u64 (limb (k) 1 : Nat), .int .u64 (limb (k) 2 : Nat), .int .u64 (limb (k) 3 : Nat)] 24)).alloc (.cells #[.int .u64 (limb (u) 0 : Nat), .int .u64 (limb (u) 1 : Nat), .int .u64 (limb (u) 2 : Nat), .int .u64 (limb (u) 3 : Nat), .int .u64 (limb (v) 0 : Nat), .int .u64 (limb (v) 1 : Nat), .int .u64 (limb (v) 2 : Nat), .int .u64 (limb (v) 3 : Nat), .bool j] 26)) := ⟨_, rfl⟩
  have H0 : Hid (OwnC w0 (w.heap.size) (numL k)) ∧ Hid (OwnC w0 (w.heap.size + 1) (ptL u v j)) ∧ Hid (Below w.heap.size w w0) ∧ Hid (GlobP w0) ∧ Hid (GTH w0) ∧ Hid (GG w0) := by
    rw [hw0]
    exact ⟨(OwnC.new' rfl).alloc, (OwnC.new' (by simp only [World.size_alloc])), below_alloc0 (below_alloc0 (Below.refl _ _) _) _, (hG).call (below_alloc0 (below_alloc0 (Below.refl _ _) _) _), (hT).call (below_alloc0 (below_alloc0 (Below.refl _ _) _) _), (hQ).call (below_alloc0 (below_alloc0 (Below.refl _ _) _) _)⟩
  obtain ⟨P0_0, P1_0, W_0, G_0, T_0, Q_0⟩ := H0
  clear hU hV hk hG hT hQ
  go_enter Tryd.func3, Tryd.ntmps3
  go_upto_region 1 with fail
  rw [← hw0]
  clear hw0
  obtain ⟨fP1z, fP10, fP11, fP12, fP13, fP14, fP15, fP16, fP17, fP18, fP1f⟩ := (P1_0.out).pt
  go_wp2_with fail
  clear fP1z fP10 fP11 fP12 fP13 fP14 fP15 fP16 fP17 fP18 fP1f
  refine (K1.out _).mono ?_
  rintro e w1 ⟨rfl, hq⟩
  have P0_1 : Hid (OwnC w1 (w.heap.size) (numL k)) := OwnC.call P0_0.out hq
  have P1_1 : Hid (OwnC w1 (w.heap.size + 1) (ptL u v j)) := OwnC.call P1_0.out hq
  have W_1 : Hid (Below w.heap.size w w1) := below_call0 W_0.out hq
  have G_1 : Hid (GlobP w1) := G_0.out.call hq
  have T_1 : Hid (GTH w1) := T_0.out.call hq
  have Q_1 : Hid (GG w1) := Q_0.out.call hq
  clear hq P0_0 P1_0 W_0 G_0 T_0 Q_0
  go_upto_region 2 with fail
  go_wp2_with fail
  refine (K2.out _ (G_1.out) (T_1.out) (Q_1.out)).mono ?_
  rintro e w2 ⟨rfl, hq⟩
  have P0_2 : Hid (OwnC w2 (w.heap.size) (numL k)) := OwnC.call P0_1.out hq
  have P1_2 : Hid (OwnC w2 (w.heap.size + 1) (ptL u v j)) := OwnC.call P1_1.out hq
  have W_2 : Hid (Below w.heap.size w w2) := below_call0 W_1.out hq
  have G_2 : Hid (GlobP w2) := G_1.out.call hq
  have T_2 : Hid (GTH w2) := T_1.out.call hq
  have Q_2 : Hid (GG w2) := Q_1.out.call hq
  clear hq P0_1 P1_1 W_1 G_1 T_1 Q_1
  go_wp2_with fail
  go_ret
  exact ⟨rfl, W_2.out⟩
set_option maxRecDepth 100000 in
set_option maxHeartbeats 4000000 in
theorem order_ok (k : Nat) (a : Pts) (hk : k < R256) (w : World) (hG : GlobP w) (hN : GlobQ w) (hT : GTH w) (hQ : GG w) : Calls Tryd.prog 3 #[.agg #[.int .u64 (limb (k) 0 : Nat), .int .u64 (limb (k) 1 : Nat), .int .u64 (limb (k) 2 : Nat), .int .u64 (limb (k) 3 : Nat)], .agg #[.int .u64 (limb (pX a) 0 : Nat), .int .u64 (limb (pX a) 1 : Nat), .int .u64 (limb (pX a) 2 : Nat), .int .u64 (limb (pX a) 3 : Nat), .int .u64 (limb (pY a) 0 : Nat), .int .u64 (limb (pY a) 1 : Nat), .int .u64 (limb (pY a) 2 : Nat), .int .u64 (limb (pY a) 3 : Nat), .bool (pI a)]] w fun e w' => e = .returned (.bool true) ∧ Below w.heap.size w w' := by
  have K1 : Hid (∀ w, Calls Tryd.prog 5 #[.agg #[.int .u64 (limb (pX a) 0 : Nat), .int .u64 (limb (pX a) 1 : Nat), .int .u64 (limb (pX a) 2 : Nat), .int .u64 (limb (pX a) 3 : Nat), .int .u64 (limb (pY a) 0 : Nat), .int .u64 (limb (pY a) 1 : Nat), .int .u64 (limb (pY a) 2 : Nat), .int .u64 (limb (pY a) 3 : Nat), .bool (pI a)]] w fun e w' => e = .returned (.bool true) ∧ Below w.heap.size w w') := fun w => by have k := is3_A a w; exact k
  obtain ⟨ck, eck⟩ : ∃ uq, uq = k % QQ := ⟨_, rfl⟩
  have lck : ck < QQ := by rw [eck]; exact Nat.mod_lt _ QQ_pos2
  have K2 : Hid (∀ w, Calls Tryd.prog 7 #[.agg #[.int .u64 (limb (k) 0 : Nat), .int .u64 (limb (k) 1 : Nat), .int .u64 (limb (k) 2 : Nat), .int .u64 (limb (k) 3 : Nat)]] w fun e w' => e = .returned (.agg #[.int .u64 (limb (ck) 0 : Nat), .int .u64 (limb (ck) 1 : Nat), .int .u64 (limb (ck) 2 : Nat), .int .u64 (limb (ck) 3 : Nat)]) ∧ Below w.heap.size w w') := fun w => inq_any k ck hk eck w
  obtain ⟨l, el⟩ : ∃ uq, uq = subM QQ 0 1 := ⟨_, rfl⟩
  have ll : l < QQ := by rw [el]; exact last_lt
  have KS : Hid _ := fun (w : World) h => scalars_any w h
  have KN : Hid (∀ g w, FieldB w g QQ → Calls Tryd.prog 9 #[.pointer (some ⟨g, 0, none⟩), .agg #[.int .u64 1, .int .u64 0, .int .u64 0, .int .u64 0]] w fun e w' => e = .returned (.tuple #[.agg #[.int .u64 (limb (l) 0 : Nat), .int .u64 (limb (l) 1 : Nat), .int .u64 (limb (l) 2 : Nat), .int .u64 (limb (l) 3 : Nat)], .int .i64 0]) ∧ Below w.heap.size w w') := fun g w h => by have k := fneg_in g QQ 1 FM_Q (by decide) w h; rw [lit1.1, lit1.2.1, lit1.2.2.1, lit1.2.2.2, ← el] at k; exact k
  obtain ⟨p1, ep1⟩ : ∃ uq, uq = gr.mul l a := ⟨_, rfl⟩
  have K3 : Hid (∀ w, GlobP w → GlobQ w → GTH w → Calls Tryd.prog 10 #[.agg #[.int .u64 (limb (l) 0 : Nat), .int .u64 (limb (l) 1 : Nat), .int .u64 (limb (l) 2 : Nat), .int .u64 (limb (l) 3 : Nat)], .agg #[.int .u64 (limb (pX a) 0 : Nat), .int .u64 (limb (pX a) 1 : Nat), .int .u64 (limb (pX a) 2 : Nat), .int .u64 (limb (pX a) 3 : Nat), .int .u64 (limb (pY a) 0 : Nat), .int .u64 (limb (pY a) 1 : Nat), .int .u64 (limb (pY a) 2 : Nat), .int .u64 (limb (pY a) 3 : Nat), .bool (pI a)]] w fun e w' => e = .returned (.tuple #[.agg #[.int .u64 (limb (pX p1) 0 : Nat), .int .u64 (limb (pX p1) 1 : Nat), .int .u64 (limb (pX p1) 2 : Nat), .int .u64 (limb (pX p1) 3 : Nat), .int .u64 (limb (pY p1) 0 : Nat), .int .u64 (limb (pY p1) 1 : Nat), .int .u64 (limb (pY p1) 2 : Nat), .int .u64 (limb (pY p1) 3 : Nat), .bool (pI p1)], .int .i64 0]) ∧ Below w.heap.size w w') := fun w g n t => by have k := Mul_ok l a ll w g n t; rw [show gr.mul l a = p1 from ep1.symm] at k; exact k
  have K4 : Hid (∀ w, GlobP w → Calls Tryd.prog 11 #[.agg #[.int .u64 (limb (pX a) 0 : Nat), .int .u64 (limb (pX a) 1 : Nat), .int .u64 (limb (pX a) 2 : Nat), .int .u64 (limb (pX a) 3 : Nat), .int .u64 (limb (pY a) 0 : Nat), .int .u64 (limb (pY a) 1 : Nat), .int .u64 (limb (pY a) 2 : Nat), .int .u64 (limb (pY a) 3 : Nat), .bool (pI a)]] w fun e w' => e = .returned (.tuple #[.agg #[.int .u64 (limb (pX p1) 0 : Nat), .int .u64 (limb (pX p1) 1 : Nat), .int .u64 (limb (pX p1) 2 : Nat), .int .u64 (limb (pX p1) 3 : Nat), .int .u64 (limb (pY p1) 0 : Nat), .int .u64 (limb (pY p1) 1 : Nat), .int .u64 (limb (pY p1) 2 : Nat), .int .u64 (limb (pY p1) 3 : Nat), .bool (pI p1)], .int .i64 0]) ∧ Below w.heap.size w w') := fun w hG => by have k := Neg_A a w hG; rw [show gr.neg a = p1 from by rw [ep1, el]; exact (gr_last a).symm] at k; exact k
  obtain ⟨p2, ep2⟩ : ∃ uq, uq = gr.mul ck a := ⟨_, rfl⟩
  have K5 : Hid (∀ w, GlobP w → GlobQ w → GTH w → Calls Tryd.prog 10 #[.agg #[.int .u64 (limb (ck) 0 : Nat), .int .u64 (limb (ck) 1 : Nat), .int .u64 (limb (ck) 2 : Nat), .int .u64 (limb (ck) 3 : Nat)], .agg #[.int .u64 (limb (pX a) 0 : Nat), .int .u64 (limb (pX a) 1 : Nat), .int .u64 (limb (pX a) 2 : Nat), .int .u64 (limb (pX a) 3 : Nat), .int .u64 (limb (pY a) 0 : Nat), .int .u64 (limb (pY a) 1 : Nat), .int .u64 (limb (pY a) 2 : Nat), .int .u64 (limb (pY a) 3 : Nat), .bool (pI a)]] w fun e w' => e = .returned (.tuple #[.agg #[.int .u64 (limb (pX p2) 0 : Nat), .int .u64 (limb (pX p2) 1 : Nat), .int .u64 (limb (pX p2) 2 : Nat), .int .u64 (limb (pX p2) 3 : Nat), .int .u64 (limb (pY p2) 0 : Nat), .int .u64 (limb (pY p2) 1 : Nat), .int .u64 (limb (pY p2) 2 : Nat), .int .u64 (limb (pY p2) 3 : Nat), .bool (pI p2)], .int .i64 0]) ∧ Below w.heap.size w w') := fun w g n t => by have k := Mul_ok ck a lck w g n t; rw [show gr.mul ck a = p2 from ep2.symm] at k; exact k
  obtain ⟨p3, ep3⟩ : ∃ uq, uq = gr.mul ck p1 := ⟨_, rfl⟩
  have K6 : Hid (∀ w, GlobP w → GlobQ w → GTH w → Calls Tryd.prog 10 #[.agg #[.int .u64 (limb (ck) 0 : Nat), .int .u64 (limb (ck) 1 : Nat), .int .u64 (limb (ck) 2 : Nat), .int .u64 (limb (ck) 3 : Nat)], .agg #[.int .u64 (limb (pX p1) 0 : Nat), .int .u64 (limb (pX p1) 1 : Nat), .int .u64 (limb (pX p1) 2 : Nat), .int .u64 (limb (pX p1) 3 : Nat), .int .u64 (limb (pY p1) 0 : Nat), .int .u64 (limb (pY p1) 1 : Nat), .int .u64 (limb (pY p1) 2 : Nat), .int .u64 (limb (pY p1) 3 : Nat), .bool (pI p1)]] w fun e w' => e = .returned (.tuple #[.agg #[.int .u64 (limb (pX p3) 0 : Nat), .int .u64 (limb (pX p3) 1 : Nat), .int .u64 (limb (pX p3) 2 : Nat), .int .u64 (limb (pX p3) 3 : Nat), .int .u64 (limb (pY p3) 0 : Nat), .int .u64 (limb (pY p3) 1 : Nat), .int .u64 (limb (pY p3) 2 : Nat), .int .u64 (limb (pY p3) 3 : Nat), .bool (pI p3)], .int .i64 0]) ∧ Below w.heap.size w w') := fun w g n t => by have k := Mul_ok ck p1 lck w g n t; rw [show gr.mul ck p1 = p3 from ep3.symm] at k; exact k
  have K7 : Hid (∀ w, GlobP w → Calls Tryd.prog 11 #[.agg #[.int .u64 (limb (pX p2) 0 : Nat), .int .u64 (limb (pX p2) 1 : Nat), .int .u64 (limb (pX p2) 2 : Nat), .int .u64 (limb (pX p2) 3 : Nat), .int .u64 (limb (pY p2) 0 : Nat), .int .u64 (limb (pY p2) 1 : Nat), .int .u64 (limb (pY p2) 2 : Nat), .int .u64 (limb (pY p2) 3 : Nat), .bool (pI p2)]] w fun e w' => e = .returned (.tuple #[.agg #[.int .u64 (limb (pX p3) 0 : Nat), .int .u64 (limb (pX p3) 1 : Nat), .int .u64 (limb (pX p3) 2 : Nat), .int .u64 (limb (pX p3) 3 : Nat), .int .u64 (limb (pY p3) 0 : Nat), .int .u64 (limb (pY p3) 1 : Nat), .int .u64 (limb (pY p3) 2 : Nat), .int .u64 (limb (pY p3) 3 : Nat), .bool (pI p3)], .int .i64 0]) ∧ Below w.heap.size w w') := fun w hG => by have k := Neg_A p2 w hG; rw [show gr.neg p2 = p3 from by rw [ep3, ep2, ep1, el, gr_last]; exact (gr_mul_neg ck a).symm] at k; exact k
  have K8 : Hid (∀ w, GlobP w → GTH w → GG w → Calls Tryd.prog 6 #[] w fun e w' => e = .returned (.bool true) ∧ Below w.heap.size w w') := fun w h1 h2 h3 => g3_any w h1 h2 h3
  obtain ⟨w0, hw0⟩ : ∃ wq, wq = ((w.alloc (.cells #[.int .u64 (limb (k) 0 : Nat), .int .u64 (limb (k) 1 : Nat), .int .u64 (limb (k) 2 : Nat), .int .u64 (limb (k) 3 : Nat)] 24)).alloc (.cells #[.int .u64 (limb (pX a) 0 : Nat), .int .u64 (limb (pX a) 1 : Nat), .int .u64 (limb (pX a) 2 : Nat), .int .u64 (limb (pX a) 3 : Nat), .int .u64 (limb (pY a) 0 : Nat), .int .u64 (limb (pY a) 1 : Nat), .int .u64 (limb (pY a) 2 : Nat), .int .u64 (limb (pY a) 3 : Nat), .bool (pI a)] 26)) := ⟨_, rfl⟩
  have H0 : Hid (OwnC w0 (w.heap.size) (numL k)) ∧ Hid (OwnC w0 (w.heap.size + 1) (ptL (pX a) (pY a) (pI a))) ∧ Hid (Below w.heap.size w w0) ∧ Hid (GlobP w0) ∧ Hid (GlobQ w0) ∧ Hid (GTH w0) ∧ Hid (GG w0) := by
    rw [hw0]
    exact ⟨(OwnC.new' rfl).alloc, (OwnC.new' (by simp only [World.size_alloc])), below_alloc0 (below_alloc0 (Below.refl _ _) _) _, (hG).call (below_alloc0 (below_alloc0 (Below.refl _ _) _) _), (hN).call (below_alloc0 (below_alloc0 (Below.refl _ _) _) _), (hT).call (below_alloc0 (below_alloc0 (Below.refl _ _) _) _), (hQ).call (below_alloc0 (below_alloc0 (Below.refl _ _) _) _)⟩
  obtain ⟨P0_0, P1_0, W_0, G_0, N_0, T_0, Q_0⟩ := H0
  clear eck lck el ll ep1 ep2 ep3 hk hG hN hT hQ
  go_enter Tryd.func3, Tryd.ntmps3
  go_upto_region 1 with fail
  rw [← hw0]
  clear hw0
  obtain ⟨fP1z, fP10, fP11, fP12, fP13, fP14, fP15, fP16, fP17, fP18, fP1f⟩ := (P1_0.out).pt
  go_wp2_with fail
  clear fP1z fP10 fP11 fP12 fP13 fP14 fP15 fP16 fP17 fP18 fP1f
  refine (K1.out _).mono ?_
  rintro e w1 ⟨rfl, hq⟩
  have P0_1 : Hid (OwnC w1 (w.heap.size) (numL k)) := OwnC.call P0_0.out hq
  have P1_1 : Hid (OwnC w1 (w.heap.size + 1) (ptL (pX a) (pY a) (pI a))) := OwnC.call P1_0.out hq
  have W_1 : Hid (Below w.heap.size w w1) := below_call0 W_0.out hq
  have G_1 : Hid (GlobP w1) := G_0.out.call hq
  have N_1 : Hid (GlobQ w1) := N_0.out.call hq
  have T_1 : Hid (GTH w1) := T_0.out.call hq
  have Q_1 : Hid (GG w1) := Q_0.out.call hq
  clear hq P0_0 P1_0 W_0 G_0 N_0 T_0 Q_0
  go_upto_region 3 with fail
  go_upto_region 3 with fail
  go_cut [5] (fun vq5 wx => ∃ bk5, vq5 = .pointer (some ⟨bk5, 0, none⟩) ∧ w1.heap.size ≤ bk5 ∧ OwnC wx bk5 (numL ck) ∧ Below w1.heap.size w1 wx)
  case first =>
    obtain ⟨fP0z, fP00, fP01, fP02, fP03, fP0f⟩ := (P0_1.out).num
    go_wp2_with fail
    clear fP0z fP00 fP01 fP02 fP03 fP0f
    refine (K2.out _).mono ?_
    rintro e wx0 ⟨rfl, hq0⟩
    go_wp2_with fail
    go_meet
    exact ⟨_, rfl, hq0.size, OwnC.new' rfl, below_alloc0 hq0 _⟩
  case rest =>
    obtain ⟨bk5, rfl, hle, hO, hB⟩ := hcut
    have P0_2 : Hid (OwnC wc (w.heap.size) (numL k)) := OwnC.call P0_1.out hB
    have P1_2 : Hid (OwnC wc (w.heap.size + 1) (ptL (pX a) (pY a) (pI a))) := OwnC.call P1_1.out hB
    have W_2 : Hid (Below w.heap.size w wc) := below_call0 W_1.out hB
    have G_2 : Hid (GlobP wc) := G_1.out.call hB
    have N_2 : Hid (GlobQ wc) := N_1.out.call hB
    have T_2 : Hid (GTH wc) := T_1.out.call hB
    have Q_2 : Hid (GG wc) := Q_1.out.call hB
    have V5_2 : Hid (OwnC wc bk5 (numL ck)) := hO
    clear hB P0_1 P1_1 W_1 G_1 N_1 T_1 Q_1
    clear hO hle
    generalize wc = w2 at P0_2 P1_2 W_2 G_2 N_2 T_2 Q_2 V5_2 ⊢
    go_upto_region 4 with fail
    go_cut [6, 7] (fun vq vr wx => ∃ bk6, vq = .pointer (some ⟨bk6, 0, none⟩) ∧ vr = .int .i64 0 ∧ w2.heap.size ≤ bk6 ∧ OwnC wx bk6 (numL l) ∧ Below w2.heap.size w2 wx)
    case first =>
      go_wp2_with fail
      refine (KS.out _ N_2.out).mono ?_
      rintro e wx0 ⟨gq, rfl, hFq, hq0⟩
      go_wp2_with fail
      refine (KN.out gq _ hFq).mono ?_
      rintro e wx1 ⟨rfl, hq1⟩
      have hS1 : Below w2.heap.size w2 wx1 := below_call0 hq0 hq1
      clear hq0 hq1 hFq
      go_wp2_with fail
      go_meet
      exact ⟨_, rfl, rfl, hS1.size, OwnC.new' rfl, below_alloc0 hS1 _⟩
    case rest =>
      obtain ⟨bk6, rfl, rfl, hle, hO, hB⟩ := hcut
      rename_i us ut uu uv uw ux uy uz uA uB uC uD uE uF uG uH uI uJ uK uL uM uN uO uP uQ uR uS uT uU uV uW uX uY uZ va vb vc vd ve vf vg vh vi vj vk vl vm vn vo vp vq vr vs vt vu vv vw vx vy vz vA vB vC vD vE vF vG vH vI vJ vK vL vM vN vO Kq2 hKq2
      clear us ut uu uv uw ux uy uz uA uB uC uD uE uF uG uH uI uJ uK uL uM uN uO uP uQ uR uS uT uU uV uW uX uY uZ va vb vc vd ve vf vg vh vi vj vk vl vm vn vo vp vq vr vs vt vu vv vw vx vy vz vA vB vC vD vE vF vG vH vI vJ vK vL vM vN vO
      have P0_3 : Hid (OwnC wc (w.heap.size) (numL k)) := OwnC.call P0_2.out hB
      have P1_3 : Hid (OwnC wc (w.heap.size + 1) (ptL (pX a) (pY a) (pI a))) := OwnC.call P1_2.out hB
      have W_3 : Hid (Below w.heap.size w wc) := below_call0 W_2.out hB
      have G_3 : Hid (GlobP wc) := G_2.out.call hB
      have N_3 : Hid (GlobQ wc) := N_2.out.call hB
      have T_3 : Hid (GTH wc) := T_2.out.call hB
      have Q_3 : Hid (GG wc) := Q_2.out.call hB
      have V5_3 : Hid (OwnC wc bk5 (numL ck)) := OwnC.call V5_2.out hB
      have V6_3 : Hid (OwnC wc bk6 (numL l)) := hO
      clear hB P0_2 P1_2 W_2 G_2 N_2 T_2 Q_2 V5_2
      clear hO hle
      generalize wc = w3 at P0_3 P1_3 W_3 G_3 N_3 T_3 Q_3 V5_3 V6_3 ⊢
      go_upto_region 5 with fail
      go_cut [8, 9] (fun vq8 vq9 wx => ∃ bk8, vq8 = .pointer (some ⟨bk8, 0, none⟩) ∧ vq9 = .int .i64 0 ∧ w3.heap.size ≤ bk8 ∧ OwnC wx bk8 (ptL (pX p1) (pY p1) (pI p1)) ∧ Below w3.heap.size w3 wx)
      case first =>
        obtain ⟨fP1z, fP10, fP11, fP12, fP13, fP14, fP15, fP16, fP17, fP18, fP1f⟩ := (P1_3.out).pt
        obtain ⟨fV6z, fV60, fV61, fV62, fV63, fV6f⟩ := (V6_3.out).num
        go_wp2_with fail
        clear fP1z fP10 fP11 fP12 fP13 fP14 fP15 fP16 fP17 fP18 fP1f fV6z fV60 fV61 fV62 fV63 fV6f
        refine (K3.out _ (G_3.out) (N_3.out) (T_3.out)).mono ?_
        rintro e wx0 ⟨rfl, hq0⟩
        go_wp2_with fail
        go_meet
        exact ⟨_, rfl, rfl, hq0.size, OwnC.new' rfl, below_alloc0 hq0 _⟩
      case rest =>
        obtain ⟨bk8, rfl, rfl, hle, hO, hB⟩ := hcut
        rename_i us ut uu uv uw ux uy uz uA uB uC uD uE uF uG uH uI uJ uK uL uM uN uO uP uQ uR uS uT uU uV uW uX uY uZ va vb vc vd ve vf vg vh vi vj vk vl vm vn vo vp vq vr vs vt vu vv vw vx vy vz vA vB vC vD vE vF vG vH vI vJ vK vL vM vN vO Kq3 hKq3
        clear us ut uu uv uw ux uy uz uA uB uC uD uE uF uG uH uI uJ uK uL uM uN uO uP uQ uR uS uT uU uV uW uX uY uZ va vb vc vd ve vf vg vh vi vj vk vl vm vn vo vp vq vr vs vt vu vv vw vx vy vz vA vB vC vD vE vF vG vH vI vJ vK vL vM vN vO
        have P0_4 : Hid (OwnC wc (w.heap.size) (numL k)) := OwnC.call P0_3.out hB
        have P1_4 : Hid (OwnC wc (w.heap.size + 1) (ptL (pX a) (pY a) (pI a))) := OwnC.call P1_3.out hB
        have W_4 : Hid (Below w.heap.size w wc) := below_call0 W_3.out hB
        have G_4 : Hid (GlobP wc) := G_3.out.call hB
        have N_4 : Hid (GlobQ wc) := N_3.out.call hB
        have T_4 : Hid (GTH wc) := T_3.out.call hB
        have Q_4 : Hid (GG wc) := Q_3.out.call hB
        have V5_4 : Hid (OwnC wc bk5 (numL ck)) := OwnC.call V5_3.out hB
        have V6_4 : Hid (OwnC wc bk6 (numL l)) := OwnC.call V6_3.out hB
        have V8_4 : Hid (OwnC wc bk8 (ptL (pX p1) (pY p1) (pI p1))) := hO
        clear hB P0_3 P1_3 W_3 G_3 N_3 T_3 Q_3 V5_3 V6_3
        clear hO hle
        generalize wc = w4 at P0_4 P1_4 W_4 G_4 N_4 T_4 Q_4 V5_4 V6_4 V8_4 ⊢
        go_upto_region 6 with fail
        go_cut [10, 11] (fun vq10 vq11 wx => ∃ bk10, vq10 = .pointer (some ⟨bk10, 0, none⟩) ∧ vq11 = .int .i64 0 ∧ w4.heap.size ≤ bk10 ∧ OwnC wx bk10 (ptL (pX p1) (pY p1) (pI p1)) ∧ Below w4.heap.size w4 wx)
        case first =>
          obtain ⟨fP1z, fP10, fP11, fP12, fP13, fP14, fP15, fP16, fP17, fP18, fP1f⟩ := (P1_4.out).pt
          go_wp2_with fail
          clear fP1z fP10 fP11 fP12 fP13 fP14 fP15 fP16 fP17 fP18 fP1f
          refine (K4.out _ (G_4.out)).mono ?_
          rintro e wx0 ⟨rfl, hq0⟩
          go_wp2_with fail
          go_meet
          exact ⟨_, rfl, rfl, hq0.size, OwnC.new' rfl, below_alloc0 hq0 _⟩
        case rest =>
          obtain ⟨bk10, rfl, rfl, hle, hO, hB⟩ := hcut
          rename_i us ut uu uv uw ux uy uz uA uB uC uD uE uF uG uH uI uJ uK uL uM uN uO uP uQ uR uS uT uU uV uW uX uY uZ va vb vc vd ve vf vg vh vi vj vk vl vm vn vo vp vq vr vs vt vu vv vw vx vy vz vA vB vC vD vE vF vG vH vI vJ vK vL vM vN vO Kq4 hKq4
          clear us ut uu uv uw ux uy uz uA uB uC uD uE uF uG uH uI uJ uK uL uM uN uO uP uQ uR uS uT uU uV uW uX uY uZ va vb vc vd ve vf vg vh vi vj vk vl vm vn vo vp vq vr vs vt vu vv vw vx vy vz vA vB vC vD vE vF vG vH vI vJ vK vL vM vN vO
          have P0_5 : Hid (OwnC wc (w.heap.size) (numL k)) := OwnC.call P0_4.out hB
          have P1_5 : Hid (OwnC wc (w.heap.size + 1) (ptL (pX a) (pY a) (pI a))) := OwnC.call P1_4.out hB
          have W_5 : Hid (Below w.heap.size w wc) := below_call0 W_4.out hB
          have G_5 : Hid (GlobP wc) := G_4.out.call hB
          have N_5 : Hid (GlobQ wc) := N_4.out.call hB
          have T_5 : Hid (GTH wc) := T_4.out.call hB
          have Q_5 : Hid (GG wc) := Q_4.out.call hB
          have V5_5 : Hid (OwnC wc bk5 (numL ck)) := OwnC.call V5_4.out hB
          have V6_5 : Hid (OwnC wc bk6 (numL l)) := OwnC.call V6_4.out hB
          have V8_5 : Hid (OwnC wc bk8 (ptL (pX p1) (pY p1) (pI p1))) := OwnC.call V8_4.out hB
          have V10_5 : Hid (OwnC wc bk10 (ptL (pX p1) (pY p1) (pI p1))) := hO
          clear hB P0_4 P1_4 W_4 G_4 N_4 T_4 Q_4 V5_4 V6_4 V8_4
          clear hO hle
          generalize wc = w5 at P0_5 P1_5 W_5 G_5 N_5 T_5 Q_5 V5_5 V6_5 V8_5 V10_5 ⊢
          go_upto_region 7 with fail
          go_cut [12, 13] (fun vq12 vq13 wx => ∃ bk12, vq12 = .pointer (some ⟨bk12, 0, none⟩) ∧ vq13 = .int .i64 0 ∧ w5.heap.size ≤ bk12 ∧ OwnC wx bk12 (ptL (pX p2) (pY p2) (pI p2)) ∧ Below w5.heap.size w5 wx)
          case first =>
            obtain ⟨fP1z, fP10, fP11, fP12, fP13, fP14, fP15, fP16, fP17, fP18, fP1f⟩ := (P1_5.out).pt
            obtain ⟨fV5z, fV50, fV51, fV52, fV53, fV5f⟩ := (V5_5.out).num
            go_wp2_with fail
            clear fP1z fP10 fP11 fP12 fP13 fP14 fP15 fP16 fP17 fP18 fP1f fV5z fV50 fV51 fV52 fV53 fV5f
            refine (K5.out _ (G_5.out) (N_5.out) (T_5.out)).mono ?_
            rintro e wx0 ⟨rfl, hq0⟩
            go_wp2_with fail
            go_meet
            exact ⟨_, rfl, rfl, hq0.size, OwnC.new' rfl, below_alloc0 hq0 _⟩
          case rest =>
            obtain ⟨bk12, rfl, rfl, hle, hO, hB⟩ := hcut
            rename_i us ut uu uv uw ux uy uz uA uB uC uD uE uF uG uH uI uJ uK uL uM uN uO uP uQ uR uS uT uU uV uW uX uY uZ va vb vc vd ve vf vg vh vi vj vk vl vm vn vo vp vq vr vs vt vu vv vw vx vy vz vA vB vC vD vE vF vG vH vI vJ vK vL vM vN vO Kq5 hKq5
            clear us ut uu uv uw ux uy uz uA uB uC uD uE uF uG uH uI uJ uK uL uM uN uO uP uQ uR uS uT uU uV uW uX uY uZ va vb vc vd ve vf vg vh vi vj vk vl vm vn vo vp vq vr vs vt vu vv vw vx vy vz vA vB vC vD vE vF vG vH vI vJ vK vL vM vN vO
            have P0_6 : Hid (OwnC wc (w.heap.size) (numL k)) := OwnC.call P0_5.out hB
            have P1_6 : Hid (OwnC wc (w.heap.size + 1) (ptL (pX a) (pY a) (pI a))) := OwnC.call P1_5.out hB
            have W_6 : Hid (Below w.heap.size w wc) := below_call0 W_5.out hB
            have G_6 : Hid (GlobP wc) := G_5.out.call hB
            have N_6 : Hid (GlobQ wc) := N_5.out.call hB
            have T_6 : Hid (GTH wc) := T_5.out.call hB
            have Q_6 : Hid (GG wc) := Q_5.out.call hB
            have V5_6 : Hid (OwnC wc bk5 (numL ck)) := OwnC.call V5_5.out hB
            have V6_6 : Hid (OwnC wc bk6 (numL l)) := OwnC.call V6_5.out hB
            have V8_6 : Hid (OwnC wc bk8 (ptL (pX p1) (pY p1) (pI p1))) := OwnC.call V8_5.out hB
            have V10_6 : Hid (OwnC wc bk10 (ptL (pX p1) (pY p1) (pI p1))) := OwnC.call V10_5.out hB
            have V12_6 : Hid (OwnC wc bk12 (ptL (pX p2) (pY p2) (pI p2))) := hO
            clear hB P0_5 P1_5 W_5 G_5 N_5 T_5 Q_5 V5_5 V6_5 V8_5 V10_5
            clear hO hle
            generalize wc = w6 at P0_6 P1_6 W_6 G_6 N_6 T_6 Q_6 V5_6 V6_6 V8_6 V10_6 V12_6 ⊢
            go_upto_region 8 with fail
            go_cut [14, 15] (fun vq14 vq15 wx => ∃ bk14, vq14 = .pointer (some ⟨bk14, 0, none⟩) ∧ vq15 = .int .i64 0 ∧ w6.heap.size ≤ bk14 ∧ OwnC wx bk14 (ptL (pX p3) (pY p3) (pI p3)) ∧ Below w6.heap.size w6 wx)
            case first =>
              obtain ⟨fV10z, fV100, fV101, fV102, fV103, fV104, fV105, fV106, fV107, fV108, fV10f⟩ := (V10_6.out).pt
              obtain ⟨fV5z, fV50, fV51, fV52, fV53, fV5f⟩ := (V5_6.out).num
              go_wp2_with fail
              clear fV10z fV100 fV101 fV102 fV103 fV104 fV105 fV106 fV107 fV108 fV10f fV5z fV50 fV51 fV52 fV53 fV5f
              refine (K6.out _ (G_6.out) (N_6.out) (T_6.out)).mono ?_
              rintro e wx0 ⟨rfl, hq0⟩
              go_wp2_with fail
              go_meet
              exact ⟨_, rfl, rfl, hq0.size, OwnC.new' rfl, below_alloc0 hq0 _⟩
            case rest =>
              obtain ⟨bk14, rfl, rfl, hle, hO, hB⟩ := hcut
              rename_i us ut uu uv uw ux uy uz uA uB uC uD uE uF uG uH uI uJ uK uL uM uN uO uP uQ uR uS uT uU uV uW uX uY uZ va vb vc vd ve vf vg vh vi vj vk vl vm vn vo vp vq vr vs vt vu vv vw vx vy vz vA vB vC vD vE vF vG vH vI vJ vK vL vM vN vO Kq6 hKq6
              clear us ut uu uv uw ux uy uz uA uB uC uD uE uF uG uH uI uJ uK uL uM uN uO uP uQ uR uS uT uU uV uW uX uY uZ va vb vc vd ve vf vg vh vi vj vk vl vm vn vo vp vq vr vs vt vu vv vw vx vy vz vA vB vC vD vE vF vG vH vI vJ vK vL vM vN vO
              have P0_7 : Hid (OwnC wc (w.heap.size) (numL k)) := OwnC.call P0_6.out hB
              have P1_7 : Hid (OwnC wc (w.heap.size + 1) (ptL (pX a) (pY a) (pI a))) := OwnC.call P1_6.out hB
              have W_7 : Hid (Below w.heap.size w wc) := below_call0 W_6.out hB
              have G_7 : Hid (GlobP wc) := G_6.out.call hB
              have N_7 : Hid (GlobQ wc) := N_6.out.call hB
              have T_7 : Hid (GTH wc) := T_6.out.call hB
              have Q_7 : Hid (GG wc) := Q_6.out.call hB
              have V5_7 : Hid (OwnC wc bk5 (numL ck)) := OwnC.call V5_6.out hB
              have V6_7 : Hid (OwnC wc bk6 (numL l)) := OwnC.call V6_6.out hB
              have V8_7 : Hid (OwnC wc bk8 (ptL (pX p1) (pY p1) (pI p1))) := OwnC.call V8_6.out hB
              have V10_7 : Hid (OwnC wc bk10 (ptL (pX p1) (pY p1) (pI p1))) := OwnC.call V10_6.out hB
              have V12_7 : Hid (OwnC wc bk12 (ptL (pX p2) (pY p2) (pI p2))) := OwnC.call V12_6.out hB
              have V14_7 : Hid (OwnC wc bk14 (ptL (pX p3) (pY p3) (pI p3))) := hO
              clear hB P0_6 P1_6 W_6 G_6 N_6 T_6 Q_6 V5_6 V6_6 V8_6 V10_6 V12_6
              clear hO hle
              generalize wc = w7 at P0_7 P1_7 W_7 G_7 N_7 T_7 Q_7 V5_7 V6_7 V8_7 V10_7 V12_7 V14_7 ⊢
              go_upto_region 9 with fail
              go_cut [16, 17] (fun vq16 vq17 wx => ∃ bk16, vq16 = .pointer (some ⟨bk16, 0, none⟩) ∧ vq17 = .int .i64 0 ∧ w7.heap.size ≤ bk16 ∧ OwnC wx bk16 (ptL (pX p3) (pY p3) (pI p3)) ∧ Below w7.heap.size w7 wx)
              case first =>
                obtain ⟨fV12z, fV120, fV121, fV122, fV123, fV124, fV125, fV126, fV127, fV128, fV12f⟩ := (V12_7.out).pt
                go_wp2_with fail
                clear fV12z fV120 fV121 fV122 fV123 fV124 fV125 fV126 fV127 fV128 fV12f
                refine (K7.out _ (G_7.out)).mono ?_
                rintro e wx0 ⟨rfl, hq0⟩
                go_wp2_with fail
                go_meet
                exact ⟨_, rfl, rfl, hq0.size, OwnC.new' rfl, below_alloc0 hq0 _⟩
              case rest =>
                obtain ⟨bk16, rfl, rfl, hle, hO, hB⟩ := hcut
                rename_i us ut uu uv uw ux uy uz uA uB uC uD uE uF uG uH uI uJ uK uL uM uN uO uP uQ uR uS uT uU uV uW uX uY uZ va vb vc vd ve vf vg vh vi vj vk vl vm vn vo vp vq vr vs vt vu vv vw vx vy vz vA vB vC vD vE vF vG vH vI vJ vK vL vM vN vO Kq7 hKq7
                clear us ut uu uv uw ux uy uz uA uB uC uD uE uF uG uH uI uJ uK uL uM uN uO uP uQ uR uS uT uU uV uW uX uY uZ va vb vc vd ve vf vg vh vi vj vk vl vm vn vo vp vq vr vs vt vu vv vw vx vy vz vA vB vC vD vE vF vG vH vI vJ vK vL vM vN vO
                have P0_8 : Hid (OwnC wc (w.heap.size) (numL k)) := OwnC.call P0_7.out hB
                have P1_8 : Hid (OwnC wc (w.heap.size + 1) (ptL (pX a) (pY a) (pI a))) := OwnC.call P1_7.out hB
                have W_8 : Hid (Below w.heap.size w wc) := below_call0 W_7.out hB
                have G_8 : Hid (GlobP wc) := G_7.out.call hB
                have N_8 : Hid (GlobQ wc) := N_7.out.call hB
                have T_8 : Hid (GTH wc) := T_7.out.call hB
                have Q_8 : Hid (GG wc) := Q_7.out.call hB
                have V5_8 : Hid (OwnC wc bk5 (numL ck)) := OwnC.call V5_7.out hB
                have V6_8 : Hid (OwnC wc bk6 (numL l)) := OwnC.call V6_7.out hB
                have V8_8 : Hid (OwnC wc bk8 (ptL (pX p1) (pY p1) (pI p1))) := OwnC.call V8_7.out hB
                have V10_8 : Hid (OwnC wc bk10 (ptL (pX p1) (pY p1) (pI p1))) := OwnC.call V10_7.out hB
                have V12_8 : Hid (OwnC wc bk12 (ptL (pX p2) (pY p2) (pI p2))) := OwnC.call V12_7.out hB
                have V14_8 : Hid (OwnC wc bk14 (ptL (pX p3) (pY p3) (pI p3))) := OwnC.call V14_7.out hB
                have V16_8 : Hid (OwnC wc bk16 (ptL (pX p3) (pY p3) (pI p3))) := hO
                clear hB P0_7 P1_7 W_7 G_7 N_7 T_7 Q_7 V5_7 V6_7 V8_7 V10_7 V12_7 V14_7
                clear hO hle
                generalize wc = w8 at P0_8 P1_8 W_8 G_8 N_8 T_8 Q_8 V5_8 V6_8 V8_8 V10_8 V12_8 V14_8 V16_8 ⊢
                go_upto_region 10 with fail
                obtain ⟨fV10z, fV100, fV101, fV102, fV103, fV104, fV105, fV106, fV107, fV108, fV10f⟩ := (V10_8.out).pt
                obtain ⟨fV14z, fV140, fV141, fV142, fV143, fV144, fV145, fV146, fV147, fV148, fV14f⟩ := (V14_8.out).pt
                obtain ⟨fV16z, fV160, fV161, fV162, fV163, fV164, fV165, fV166, fV167, fV168, fV16f⟩ := (V16_8.out).pt
                obtain ⟨fV8z, fV80, fV81, fV82, fV83, fV84, fV85, fV86, fV87, fV88, fV8f⟩ := (V8_8.out).pt
                go_wp2_with fail
                clear fV10z fV100 fV101 fV102 fV103 fV104 fV105 fV106 fV107 fV108 fV10f fV14z fV140 fV141 fV142 fV143 fV144 fV145 fV146 fV147 fV148 fV14f fV16z fV160 fV161 fV162 fV163 fV164 fV165 fV166 fV167 fV168 fV16f fV8z fV80 fV81 fV82 fV83 fV84 fV85 fV86 fV87 fV88 fV8f
                refine (K8.out _ (G_8.out) (T_8.out) (Q_8.out)).mono ?_
                rintro e w9 ⟨rfl, hq⟩
                have P0_9 : Hid (OwnC w9 (w.heap.size) (numL k)) := OwnC.call P0_8.out hq
                have P1_9 : Hid (OwnC w9 (w.heap.size + 1) (ptL (pX a) (pY a) (pI a))) := OwnC.call P1_8.out hq
                have W_9 : Hid (Below w.heap.size w w9) := below_call0 W_8.out hq
                have G_9 : Hid (GlobP w9) := G_8.out.call hq
                have N_9 : Hid (GlobQ w9) := N_8.out.call hq
                have T_9 : Hid (GTH w9) := T_8.out.call hq
                have Q_9 : Hid (GG w9) := Q_8.out.call hq
                have V5_9 : Hid (OwnC w9 bk5 (numL ck)) := OwnC.call V5_8.out hq
                have V6_9 : Hid (OwnC w9 bk6 (numL l)) := OwnC.call V6_8.out hq
                have V8_9 : Hid (OwnC w9 bk8 (ptL (pX p1) (pY p1) (pI p1))) := OwnC.call V8_8.out hq
                have V10_9 : Hid (OwnC w9 bk10 (ptL (pX p1) (pY p1) (pI p1))) := OwnC.call V10_8.out hq
                have V12_9 : Hid (OwnC w9 bk12 (ptL (pX p2) (pY p2) (pI p2))) := OwnC.call V12_8.out hq
                have V14_9 : Hid (OwnC w9 bk14 (ptL (pX p3) (pY p3) (pI p3))) := OwnC.call V14_8.out hq
                have V16_9 : Hid (OwnC w9 bk16 (ptL (pX p3) (pY p3) (pI p3))) := OwnC.call V16_8.out hq
                clear hq P0_8 P1_8 W_8 G_8 N_8 T_8 Q_8 V5_8 V6_8 V8_8 V10_8 V12_8 V14_8 V16_8
                go_wp2_with fail
                go_ret
                exact ⟨rfl, W_9.out⟩
theorem order_law (k u v : Nat) (j : Bool) (hk : k < R256) (hU : u < R256) (hV : v < R256) (w : World) (hG : GlobP w) (hN : GlobQ w) (hT : GTH w) (hQ : GG w) : Calls Tryd.prog 3 #[.agg #[.int .u64 (limb (k) 0 : Nat), .int .u64 (limb (k) 1 : Nat), .int .u64 (limb (k) 2 : Nat), .int .u64 (limb (k) 3 : Nat)], .agg #[.int .u64 (limb (u) 0 : Nat), .int .u64 (limb (u) 1 : Nat), .int .u64 (limb (u) 2 : Nat), .int .u64 (limb (u) 3 : Nat), .int .u64 (limb (v) 0 : Nat), .int .u64 (limb (v) 1 : Nat), .int .u64 (limb (v) 2 : Nat), .int .u64 (limb (v) 3 : Nat), .bool (j)]] w fun e w' => e = .returned (.bool true) ∧ Below w.heap.size w w' := by
  cases h1 : ptOk u v j with
  | false => exact order_bad k u v j hU hV h1 w hG hT hQ
  | true =>
    obtain ⟨a, rfl, rfl, rfl⟩ := pts_of h1
    exact order_ok k a hk w hG hN hT hQ
end Go.Proofs.YtgmfecncfekjfabDoor
