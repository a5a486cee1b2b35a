/- Curve: what is multiplied adds up: the law's walk. -/
import Derived.Test.YtgmfecncfekjfaaDoorLw3I
namespace Go.Proofs.YtgmfecncfekjfaaDoor
open Go Go.RowKit Go.Lib
attribute [local go_sem] run_eqP run_eq49 eq4_same beqB_same

theorem NumsAt.two (w : World) (a b : Nat) (t : TypeId) : NumsAt (w.alloc (.cells #[.int .u64 (limb (a) 0 : Nat), .int .u64 (limb (a) 1 : Nat), .int .u64 (limb (a) 2 : Nat), .int .u64 (limb (a) 3 : Nat), .int .u64 (limb (b) 0 : Nat), .int .u64 (limb (b) 1 : Nat), .int .u64 (limb (b) 2 : Nat), .int .u64 (limb (b) 3 : Nat)] t)) (some ⟨w.heap.size, 0, none⟩) [a, b] := fun j n hj => by
 match j, hj with
 | 0, hj => simp at hj; subst hj; exact ⟨w.heap.size, 0, rfl, by simp, by rw [World.cell?_alloc_new]; rfl, by rw [World.cell?_alloc_new]; rfl, by rw [World.cell?_alloc_new]; rfl, by rw [World.cell?_alloc_new]; rfl⟩
 | 1, hj => simp at hj; subst hj; exact ⟨w.heap.size, 0, rfl, by simp, by rw [World.cell?_alloc_new]; rfl, by rw [World.cell?_alloc_new]; rfl, by rw [World.cell?_alloc_new]; rfl, by rw [World.cell?_alloc_new]; rfl⟩
theorem PntsAt.two {w : World} {c : Nat} (x y : Nat) (i : Bool) (t : TypeId) (hc : c = w.heap.size) : PntsAt (w.alloc (.cells #[.int .u64 (limb (x) 0 : Nat), .int .u64 (limb (x) 1 : Nat), .int .u64 (limb (x) 2 : Nat), .int .u64 (limb (x) 3 : Nat), .int .u64 (limb (y) 0 : Nat), .int .u64 (limb (y) 1 : Nat), .int .u64 (limb (y) 2 : Nat), .int .u64 (limb (y) 3 : Nat), .bool i, .int .u64 (limb (x) 0 : Nat), .int .u64 (limb (x) 1 : Nat), .int .u64 (limb (x) 2 : Nat), .int .u64 (limb (x) 3 : Nat), .int .u64 (limb (y) 0 : Nat), .int .u64 (limb (y) 1 : Nat), .int .u64 (limb (y) 2 : Nat), .int .u64 (limb (y) 3 : Nat), .bool i] t)) (some ⟨c, 0, none⟩) [(x, y, i), (x, y, i)] := fun j n hj => by
 subst hc
 match j, hj with
 | 0, hj => simp at hj; subst hj; exact ⟨w.heap.size, 0, rfl, by simp, by rw [World.cell?_alloc_new]; rfl, by rw [World.cell?_alloc_new]; rfl, by rw [World.cell?_alloc_new]; rfl, by rw [World.cell?_alloc_new]; rfl, by rw [World.cell?_alloc_new]; rfl, by rw [World.cell?_alloc_new]; rfl, by rw [World.cell?_alloc_new]; rfl, by rw [World.cell?_alloc_new]; rfl, by rw [World.cell?_alloc_new]; rfl⟩
 | 1, hj => simp at hj; subst hj; exact ⟨w.heap.size, 0, rfl, by simp, by rw [World.cell?_alloc_new]; rfl, by rw [World.cell?_alloc_new]; rfl, by rw [World.cell?_alloc_new]; rfl, by rw [World.cell?_alloc_new]; rfl, by rw [World.cell?_alloc_new]; rfl, by rw [World.cell?_alloc_new]; rfl, by rw [World.cell?_alloc_new]; rfl, by rw [World.cell?_alloc_new]; rfl, by rw [World.cell?_alloc_new]; rfl⟩
set_option maxRecDepth 100000 in
set_option maxHeartbeats 4000000 in
theorem linear_bad (x y u v : Nat) (j : Bool) (hU : u < R256) (hV : v < R256) (hk : ptOk u v j = false) (w : World) (hG : GlobP w) (hT : GTH w) (hQ : GG w) : Calls Tryd.prog 8 #[.agg #[.int .u64 (limb (x) 0 : Nat), .int .u64 (limb (x) 1 : Nat), .int .u64 (limb (x) 2 : Nat), .int .u64 (limb (x) 3 : Nat)], .agg #[.int .u64 (limb (y) 0 : Nat), .int .u64 (limb (y) 1 : Nat), .int .u64 (limb (y) 2 : Nat), .int .u64 (limb (y) 3 : Nat)], .agg #[.int .u64 (limb (u) 0 : Nat), .int .u64 (limb (u) 1 : Nat), .int .u64 (limb (u) 2 : Nat), .int .u64 (limb (u) 3 : Nat), .int .u64 (limb (v) 0 : Nat), .int .u64 (limb (v) 1 : Nat), .int .u64 (limb (v) 2 : Nat), .int .u64 (limb (v) 3 : Nat), .bool j]] w fun e w' => e = .returned (.bool true) ∧ Below w.heap.size w w' := by
 have K1 : Hid (∀ w, Calls Tryd.prog 12 #[.agg #[.int .u64 (limb (u) 0 : Nat), .int .u64 (limb (u) 1 : Nat), .int .u64 (limb (u) 2 : Nat), .int .u64 (limb (u) 3 : Nat), .int .u64 (limb (v) 0 : Nat), .int .u64 (limb (v) 1 : Nat), .int .u64 (limb (v) 2 : Nat), .int .u64 (limb (v) 3 : Nat), .bool j]] w fun e w' => e = .returned (.bool false) ∧ Below w.heap.size w w') := fun w => by have k := is3_any u v j hU hV w; rw [hk] at k; exact k
 have K2 : Hid (∀ w, GlobP w → GTH w → GG w → Calls Tryd.prog 15 #[] w fun e w' => e = .returned (.bool true) ∧ Below w.heap.size w w') := fun w h1 h2 h3 => g3_any w h1 h2 h3
 obtain ⟨w0, hw0⟩ : ∃ wq, wq = (((w.alloc (.cells #[.int .u64 (limb (x) 0 : Nat), .int .u64 (limb (x) 1 : Nat), .int .u64 (limb (x) 2 : Nat), .int .u64 (limb (x) 3 : Nat)] 24)).alloc (.cells #[.int .u64 (limb (y) 0 : Nat), .int .u64 (limb (y) 1 : Nat), .int .u64 (limb (y) 2 : Nat), .int .u64 (limb (y) 3 : Nat)] 24)).alloc (.cells #[.int .u64 (limb (u) 0 : Nat), .int .u64 (limb (u) 1 : Nat), .int .u64 (limb (u) 2 : Nat), .int .u64 (limb (u) 3 : Nat), .int .u64 (limb (v) 0 : Nat), .int .u64 (limb (v) 1 : Nat), .int .u64 (limb (v) 2 : Nat), .int .u64 (limb (v) 3 : Nat), .bool j] 26)) := ⟨_, rfl⟩
 have H0 : Hid (OwnC w0 (w.heap.size) (numL x)) ∧ Hid (OwnC w0 (w.heap.size + 1) (numL y)) ∧ Hid (OwnC w0 (w.heap.size + 1 + 1) (ptL u v j)) ∧ Hid (Below w.heap.size w w0) ∧ Hid (GlobP w0) ∧ Hid (GTH w0) ∧ Hid (GG w0) := by
  rw [hw0]
  exact ⟨(OwnC.new' rfl).alloc.alloc, (OwnC.new' (by simp only [World.size_alloc])).alloc, (OwnC.new' (by simp only [World.size_alloc])), below_alloc0 (below_alloc0 (below_alloc0 (Below.refl _ _) _) _) _, (hG).call (below_alloc0 (below_alloc0 (below_alloc0 (Below.refl _ _) _) _) _), (hT).call (below_alloc0 (below_alloc0 (below_alloc0 (Below.refl _ _) _) _) _), (hQ).call (below_alloc0 (below_alloc0 (below_alloc0 (Below.refl _ _) _) _) _)⟩
 obtain ⟨P0_0, P1_0, P2_0, W_0, G_0, T_0, Q_0⟩ := H0
 clear hU hV hk hG hT hQ
 go_enter Tryd.func8, Tryd.ntmps8
 go_upto_region 1 with fail
 rw [← hw0]
 clear hw0
 obtain ⟨fP2z, fP20, fP21, fP22, fP23, fP24, fP25, fP26, fP27, fP28, fP2f⟩ := (P2_0.out).pt
 go_wp2_with fail
 clear fP2z fP20 fP21 fP22 fP23 fP24 fP25 fP26 fP27 fP28 fP2f
 refine (K1.out _).mono ?_
 rintro e w1 ⟨rfl, hq⟩
 have P0_1 : Hid (OwnC w1 (w.heap.size) (numL x)) := OwnC.call P0_0.out hq
 have P1_1 : Hid (OwnC w1 (w.heap.size + 1) (numL y)) := OwnC.call P1_0.out hq
 have P2_1 : Hid (OwnC w1 (w.heap.size + 1 + 1) (ptL u v j)) := OwnC.call P2_0.out hq
 have W_1 : Hid (Below w.heap.size w w1) := below_call0 W_0.out hq
 have G_1 : Hid (GlobP w1) := G_0.out.call hq
 have T_1 : Hid (GTH w1) := T_0.out.call hq
 have Q_1 : Hid (GG w1) := Q_0.out.call hq
 clear hq P0_0 P1_0 P2_0 W_0 G_0 T_0 Q_0
 go_upto_region 2 with fail
 go_wp2_with fail
 refine (K2.out _ (G_1.out) (T_1.out) (Q_1.out)).mono ?_
 rintro e w2 ⟨rfl, hq⟩
 have P0_2 : Hid (OwnC w2 (w.heap.size) (numL x)) := OwnC.call P0_1.out hq
 have P1_2 : Hid (OwnC w2 (w.heap.size + 1) (numL y)) := OwnC.call P1_1.out hq
 have P2_2 : Hid (OwnC w2 (w.heap.size + 1 + 1) (ptL u v j)) := OwnC.call P2_1.out hq
 have W_2 : Hid (Below w.heap.size w w2) := below_call0 W_1.out hq
 have G_2 : Hid (GlobP w2) := G_1.out.call hq
 have T_2 : Hid (GTH w2) := T_1.out.call hq
 have Q_2 : Hid (GG w2) := Q_1.out.call hq
 clear hq P0_1 P1_1 P2_1 W_1 G_1 T_1 Q_1
 go_wp2_with fail
 go_ret
 exact ⟨rfl, W_2.out⟩
set_option maxRecDepth 100000 in
set_option maxHeartbeats 4000000 in
theorem linear_ok (x y : Nat) (a : Pts) (hx : x < R256) (hy : y < R256) (w : World) (hG : GlobP w) (hN : GlobQ w) (hT : GTH w) (hQ : GG w) : Calls Tryd.prog 8 #[.agg #[.int .u64 (limb (x) 0 : Nat), .int .u64 (limb (x) 1 : Nat), .int .u64 (limb (x) 2 : Nat), .int .u64 (limb (x) 3 : Nat)], .agg #[.int .u64 (limb (y) 0 : Nat), .int .u64 (limb (y) 1 : Nat), .int .u64 (limb (y) 2 : Nat), .int .u64 (limb (y) 3 : Nat)], .agg #[.int .u64 (limb (pX a) 0 : Nat), .int .u64 (limb (pX a) 1 : Nat), .int .u64 (limb (pX a) 2 : Nat), .int .u64 (limb (pX a) 3 : Nat), .int .u64 (limb (pY a) 0 : Nat), .int .u64 (limb (pY a) 1 : Nat), .int .u64 (limb (pY a) 2 : Nat), .int .u64 (limb (pY a) 3 : Nat), .bool (pI a)]] w fun e w' => e = .returned (.bool true) ∧ Below w.heap.size w w' := by
 have K1 : Hid (∀ w, Calls Tryd.prog 12 #[.agg #[.int .u64 (limb (pX a) 0 : Nat), .int .u64 (limb (pX a) 1 : Nat), .int .u64 (limb (pX a) 2 : Nat), .int .u64 (limb (pX a) 3 : Nat), .int .u64 (limb (pY a) 0 : Nat), .int .u64 (limb (pY a) 1 : Nat), .int .u64 (limb (pY a) 2 : Nat), .int .u64 (limb (pY a) 3 : Nat), .bool (pI a)]] w fun e w' => e = .returned (.bool true) ∧ Below w.heap.size w w') := fun w => by have k := is3_A a w; exact k
 obtain ⟨cx, ecx⟩ : ∃ uq, uq = x % QQ := ⟨_, rfl⟩
 have lcx : cx < QQ := by rw [ecx]; exact Nat.mod_lt _ QQ_pos2
 have K2 : Hid (∀ w, Calls Tryd.prog 24 #[.agg #[.int .u64 (limb (x) 0 : Nat), .int .u64 (limb (x) 1 : Nat), .int .u64 (limb (x) 2 : Nat), .int .u64 (limb (x) 3 : Nat)]] w fun e w' => e = .returned (.agg #[.int .u64 (limb (cx) 0 : Nat), .int .u64 (limb (cx) 1 : Nat), .int .u64 (limb (cx) 2 : Nat), .int .u64 (limb (cx) 3 : Nat)]) ∧ Below w.heap.size w w') := fun w => inq_any x cx hx ecx w
 obtain ⟨cy, ecy⟩ : ∃ uq, uq = y % QQ := ⟨_, rfl⟩
 have lcy : cy < QQ := by rw [ecy]; exact Nat.mod_lt _ QQ_pos2
 have K3 : Hid (∀ w, Calls Tryd.prog 24 #[.agg #[.int .u64 (limb (y) 0 : Nat), .int .u64 (limb (y) 1 : Nat), .int .u64 (limb (y) 2 : Nat), .int .u64 (limb (y) 3 : Nat)]] w fun e w' => e = .returned (.agg #[.int .u64 (limb (cy) 0 : Nat), .int .u64 (limb (cy) 1 : Nat), .int .u64 (limb (cy) 2 : Nat), .int .u64 (limb (cy) 3 : Nat)]) ∧ Below w.heap.size w w') := fun w => inq_any y cy hy ecy w
 obtain ⟨s, es⟩ : ∃ uq, uq = (cx + cy) % QQ := ⟨_, rfl⟩
 have ls : s < QQ := by rw [es]; exact Nat.mod_lt _ QQ_pos2
 obtain ⟨m, em⟩ : ∃ uq, uq = cx * cy % QQ := ⟨_, rfl⟩
 have lm : m < QQ := by rw [em]; exact Nat.mod_lt _ QQ_pos2
 have KS : Hid _ := fun (w : World) h => scalars_any w h
 have KA : Hid (∀ g w, FieldB w g QQ → Calls Tryd.prog 26 #[.pointer (some ⟨g, 0, none⟩), .agg #[.int .u64 (limb (cx) 0 : Nat), .int .u64 (limb (cx) 1 : Nat), .int .u64 (limb (cx) 2 : Nat), .int .u64 (limb (cx) 3 : Nat)], .agg #[.int .u64 (limb (cy) 0 : Nat), .int .u64 (limb (cy) 1 : Nat), .int .u64 (limb (cy) 2 : Nat), .int .u64 (limb (cy) 3 : Nat)]] w fun e w' => e = .returned (.tuple #[.agg #[.int .u64 (limb (s) 0 : Nat), .int .u64 (limb (s) 1 : Nat), .int .u64 (limb (s) 2 : Nat), .int .u64 (limb (s) 3 : Nat)], .int .i64 0]) ∧ Below w.heap.size w w') := fun g w h => by rw [es]; exact fadd_in g QQ cx cy FM_Q lcx lcy w h
 have KM : Hid (∀ g w, FieldB w g QQ → Calls Tryd.prog 27 #[.pointer (some ⟨g, 0, none⟩), .agg #[.int .u64 (limb (cx) 0 : Nat), .int .u64 (limb (cx) 1 : Nat), .int .u64 (limb (cx) 2 : Nat), .int .u64 (limb (cx) 3 : Nat)], .agg #[.int .u64 (limb (cy) 0 : Nat), .int .u64 (limb (cy) 1 : Nat), .int .u64 (limb (cy) 2 : Nat), .int .u64 (limb (cy) 3 : Nat)]] w fun e w' => e = .returned (.tuple #[.agg #[.int .u64 (limb (m) 0 : Nat), .int .u64 (limb (m) 1 : Nat), .int .u64 (limb (m) 2 : Nat), .int .u64 (limb (m) 3 : Nat)], .int .i64 0]) ∧ Below w.heap.size w w') := fun g w h => by rw [em]; exact fmul_in g QQ cx cy FM_Q lcx lcy w h
 obtain ⟨p1, ep1⟩ : ∃ uq, uq = gr.mul cx a := ⟨_, rfl⟩
 have K4 : Hid (∀ w, GlobP w → GlobQ w → GTH w → Calls Tryd.prog 16 #[.agg #[.int .u64 (limb (cx) 0 : Nat), .int .u64 (limb (cx) 1 : Nat), .int .u64 (limb (cx) 2 : Nat), .int .u64 (limb (cx) 3 : Nat)], .agg #[.int .u64 (limb (pX a) 0 : Nat), .int .u64 (limb (pX a) 1 : Nat), .int .u64 (limb (pX a) 2 : Nat), .int .u64 (limb (pX a) 3 : Nat), .int .u64 (limb (pY a) 0 : Nat), .int .u64 (limb (pY a) 1 : Nat), .int .u64 (limb (pY a) 2 : Nat), .int .u64 (limb (pY a) 3 : Nat), .bool (pI a)]] w fun e w' => e = .returned (.tuple #[.agg #[.int .u64 (limb (pX p1) 0 : Nat), .int .u64 (limb (pX p1) 1 : Nat), .int .u64 (limb (pX p1) 2 : Nat), .int .u64 (limb (pX p1) 3 : Nat), .int .u64 (limb (pY p1) 0 : Nat), .int .u64 (limb (pY p1) 1 : Nat), .int .u64 (limb (pY p1) 2 : Nat), .int .u64 (limb (pY p1) 3 : Nat), .bool (pI p1)], .int .i64 0]) ∧ Below w.heap.size w w') := fun w g n t => by have k := Mul_ok cx a lcx w g n t; rw [show gr.mul cx a = p1 from ep1.symm] at k; exact k
 obtain ⟨p2, ep2⟩ : ∃ uq, uq = gr.mul cy a := ⟨_, rfl⟩
 have K5 : Hid (∀ w, GlobP w → GlobQ w → GTH w → Calls Tryd.prog 16 #[.agg #[.int .u64 (limb (cy) 0 : Nat), .int .u64 (limb (cy) 1 : Nat), .int .u64 (limb (cy) 2 : Nat), .int .u64 (limb (cy) 3 : Nat)], .agg #[.int .u64 (limb (pX a) 0 : Nat), .int .u64 (limb (pX a) 1 : Nat), .int .u64 (limb (pX a) 2 : Nat), .int .u64 (limb (pX a) 3 : Nat), .int .u64 (limb (pY a) 0 : Nat), .int .u64 (limb (pY a) 1 : Nat), .int .u64 (limb (pY a) 2 : Nat), .int .u64 (limb (pY a) 3 : Nat), .bool (pI a)]] w fun e w' => e = .returned (.tuple #[.agg #[.int .u64 (limb (pX p2) 0 : Nat), .int .u64 (limb (pX p2) 1 : Nat), .int .u64 (limb (pX p2) 2 : Nat), .int .u64 (limb (pX p2) 3 : Nat), .int .u64 (limb (pY p2) 0 : Nat), .int .u64 (limb (pY p2) 1 : Nat), .int .u64 (limb (pY p2) 2 : Nat), .int .u64 (limb (pY p2) 3 : Nat), .bool (pI p2)], .int .i64 0]) ∧ Below w.heap.size w w') := fun w g n t => by have k := Mul_ok cy a lcy w g n t; rw [show gr.mul cy a = p2 from ep2.symm] at k; exact k
 have hsp : gr.mul s a = gr.add p1 p2 := by rw [es, gr_mod, gr.mul_add, ep1, ep2]
 have hmp : gr.mul cx p2 = gr.mul m a := by rw [ep2, ← gr.mul_mul, em, gr_mod]
 obtain ⟨p3, ep3⟩ : ∃ uq, uq = gr.mul s a := ⟨_, rfl⟩
 have K6 : Hid (∀ w, GlobP w → GlobQ w → GTH w → Calls Tryd.prog 16 #[.agg #[.int .u64 (limb (s) 0 : Nat), .int .u64 (limb (s) 1 : Nat), .int .u64 (limb (s) 2 : Nat), .int .u64 (limb (s) 3 : Nat)], .agg #[.int .u64 (limb (pX a) 0 : Nat), .int .u64 (limb (pX a) 1 : Nat), .int .u64 (limb (pX a) 2 : Nat), .int .u64 (limb (pX a) 3 : Nat), .int .u64 (limb (pY a) 0 : Nat), .int .u64 (limb (pY a) 1 : Nat), .int .u64 (limb (pY a) 2 : Nat), .int .u64 (limb (pY a) 3 : Nat), .bool (pI a)]] w fun e w' => e = .returned (.tuple #[.agg #[.int .u64 (limb (pX p3) 0 : Nat), .int .u64 (limb (pX p3) 1 : Nat), .int .u64 (limb (pX p3) 2 : Nat), .int .u64 (limb (pX p3) 3 : Nat), .int .u64 (limb (pY p3) 0 : Nat), .int .u64 (limb (pY p3) 1 : Nat), .int .u64 (limb (pY p3) 2 : Nat), .int .u64 (limb (pY p3) 3 : Nat), .bool (pI p3)], .int .i64 0]) ∧ Below w.heap.size w w') := fun w g n t => by have k := Mul_ok s a ls w g n t; rw [show gr.mul s a = p3 from ep3.symm] at k; exact k
 have K7 : Hid (∀ w, GlobP w → GTH w → Calls Tryd.prog 9 #[.agg #[.int .u64 (limb (pX p1) 0 : Nat), .int .u64 (limb (pX p1) 1 : Nat), .int .u64 (limb (pX p1) 2 : Nat), .int .u64 (limb (pX p1) 3 : Nat), .int .u64 (limb (pY p1) 0 : Nat), .int .u64 (limb (pY p1) 1 : Nat), .int .u64 (limb (pY p1) 2 : Nat), .int .u64 (limb (pY p1) 3 : Nat), .bool (pI p1)], .agg #[.int .u64 (limb (pX p2) 0 : Nat), .int .u64 (limb (pX p2) 1 : Nat), .int .u64 (limb (pX p2) 2 : Nat), .int .u64 (limb (pX p2) 3 : Nat), .int .u64 (limb (pY p2) 0 : Nat), .int .u64 (limb (pY p2) 1 : Nat), .int .u64 (limb (pY p2) 2 : Nat), .int .u64 (limb (pY p2) 3 : Nat), .bool (pI p2)]] w fun e w' => e = .returned (.tuple #[.agg #[.int .u64 (limb (pX p3) 0 : Nat), .int .u64 (limb (pX p3) 1 : Nat), .int .u64 (limb (pX p3) 2 : Nat), .int .u64 (limb (pX p3) 3 : Nat), .int .u64 (limb (pY p3) 0 : Nat), .int .u64 (limb (pY p3) 1 : Nat), .int .u64 (limb (pY p3) 2 : Nat), .int .u64 (limb (pY p3) 3 : Nat), .bool (pI p3)], .int .i64 0]) ∧ Below w.heap.size w w') := fun w hG hT => by have k := Add_A p1 p2 w hG hT; rw [show gr.add p1 p2 = p3 from by rw [ep3]; exact hsp.symm] at k; exact k
 obtain ⟨p4, ep4⟩ : ∃ uq, uq = gr.mul m a := ⟨_, rfl⟩
 have K8 : Hid (∀ w, GlobP w → GlobQ w → GTH w → Calls Tryd.prog 16 #[.agg #[.int .u64 (limb (m) 0 : Nat), .int .u64 (limb (m) 1 : Nat), .int .u64 (limb (m) 2 : Nat), .int .u64 (limb (m) 3 : Nat)], .agg #[.int .u64 (limb (pX a) 0 : Nat), .int .u64 (limb (pX a) 1 : Nat), .int .u64 (limb (pX a) 2 : Nat), .int .u64 (limb (pX a) 3 : Nat), .int .u64 (limb (pY a) 0 : Nat), .int .u64 (limb (pY a) 1 : Nat), .int .u64 (limb (pY a) 2 : Nat), .int .u64 (limb (pY a) 3 : Nat), .bool (pI a)]] w fun e w' => e = .returned (.tuple #[.agg #[.int .u64 (limb (pX p4) 0 : Nat), .int .u64 (limb (pX p4) 1 : Nat), .int .u64 (limb (pX p4) 2 : Nat), .int .u64 (limb (pX p4) 3 : Nat), .int .u64 (limb (pY p4) 0 : Nat), .int .u64 (limb (pY p4) 1 : Nat), .int .u64 (limb (pY p4) 2 : Nat), .int .u64 (limb (pY p4) 3 : Nat), .bool (pI p4)], .int .i64 0]) ∧ Below w.heap.size w w') := fun w g n t => by have k := Mul_ok m a lm w g n t; rw [show gr.mul m a = p4 from ep4.symm] at k; exact k
 have K9 : Hid (∀ w, GlobP w → GlobQ w → GTH w → Calls Tryd.prog 16 #[.agg #[.int .u64 (limb (cx) 0 : Nat), .int .u64 (limb (cx) 1 : Nat), .int .u64 (limb (cx) 2 : Nat), .int .u64 (limb (cx) 3 : Nat)], .agg #[.int .u64 (limb (pX p2) 0 : Nat), .int .u64 (limb (pX p2) 1 : Nat), .int .u64 (limb (pX p2) 2 : Nat), .int .u64 (limb (pX p2) 3 : Nat), .int .u64 (limb (pY p2) 0 : Nat), .int .u64 (limb (pY p2) 1 : Nat), .int .u64 (limb (pY p2) 2 : Nat), .int .u64 (limb (pY p2) 3 : Nat), .bool (pI p2)]] w fun e w' => e = .returned (.tuple #[.agg #[.int .u64 (limb (pX p4) 0 : Nat), .int .u64 (limb (pX p4) 1 : Nat), .int .u64 (limb (pX p4) 2 : Nat), .int .u64 (limb (pX p4) 3 : Nat), .int .u64 (limb (pY p4) 0 : Nat), .int .u64 (limb (pY p4) 1 : Nat), .int .u64 (limb (pY p4) 2 : Nat), .int .u64 (limb (pY p4) 3 : Nat), .bool (pI p4)], .int .i64 0]) ∧ Below w.heap.size w w') := fun w g n t => by have k := Mul_ok cx p2 lcx w g n t; rw [show gr.mul cx p2 = p4 from by rw [ep4]; exact hmp] at k; exact k
 have K10 : Hid (∀ b c w, GlobP w → GlobQ w → GTH w → NumsAt w (some ⟨b, 0, none⟩) [cx, cy] → PntsAt w (some ⟨c, 0, none⟩) [(pX a, pY a, pI a), (pX a, pY a, pI a)] → Calls Tryd.prog 18 #[.slice (some ⟨b, 0, none⟩) 2 2, .slice (some ⟨c, 0, none⟩) 2 2] w fun e w' => e = .returned (.tuple #[.agg #[.int .u64 (limb (pX p3) 0 : Nat), .int .u64 (limb (pX p3) 1 : Nat), .int .u64 (limb (pX p3) 2 : Nat), .int .u64 (limb (pX p3) 3 : Nat), .int .u64 (limb (pY p3) 0 : Nat), .int .u64 (limb (pY p3) 1 : Nat), .int .u64 (limb (pY p3) 2 : Nat), .int .u64 (limb (pY p3) 3 : Nat), .bool (pI p3)], .int .i64 0]) ∧ Below w.heap.size w w') := fun b c w g n t h1 h2 => by have k := Sum_ok 2 (some ⟨b, 0, none⟩) (some ⟨c, 0, none⟩) 2 2 [(cx, a), (cy, a)] rfl (by decide) (fun z hz => (List.mem_cons.1 hz).elim (fun e => by rw [e]; exact lcx) (fun e => by rw [List.mem_singleton.1 e]; exact lcy)) w g n t h1 h2; rw [show gr.tot gr.mul [(cx, a), (cy, a)] = p3 from by rw [ep3, hsp, ep1, ep2]; show gr.add (gr.mul cx a) (gr.add (gr.mul cy a) gr.z) = _; rw [gr.zero]] at k; exact k
 have K11 : Hid (∀ w, GlobP w → GTH w → GG w → Calls Tryd.prog 15 #[] w fun e w' => e = .returned (.bool true) ∧ Below w.heap.size w w') := fun w h1 h2 h3 => g3_any w h1 h2 h3
 obtain ⟨w0, hw0⟩ : ∃ wq, wq = (((w.alloc (.cells #[.int .u64 (limb (x) 0 : Nat), .int .u64 (limb (x) 1 : Nat), .int .u64 (limb (x) 2 : Nat), .int .u64 (limb (x) 3 : Nat)] 24)).alloc (.cells #[.int .u64 (limb (y) 0 : Nat), .int .u64 (limb (y) 1 : Nat), .int .u64 (limb (y) 2 : Nat), .int .u64 (limb (y) 3 : Nat)] 24)).alloc (.cells #[.int .u64 (limb (pX a) 0 : Nat), .int .u64 (limb (pX a) 1 : Nat), .int .u64 (limb (pX a) 2 : Nat), .int .u64 (limb (pX a) 3 : Nat), .int .u64 (limb (pY a) 0 : Nat), .int .u64 (limb (pY a) 1 : Nat), .int .u64 (limb (pY a) 2 : Nat), .int .u64 (limb (pY a) 3 : Nat), .bool (pI a)] 26)) := ⟨_, rfl⟩
 have H0 : Hid (OwnC w0 (w.heap.size) (numL x)) ∧ Hid (OwnC w0 (w.heap.size + 1) (numL y)) ∧ Hid (OwnC w0 (w.heap.size + 1 + 1) (ptL (pX a) (pY a) (pI a))) ∧ Hid (Below w.heap.size w w0) ∧ Hid (GlobP w0) ∧ Hid (GlobQ w0) ∧ Hid (GTH w0) ∧ Hid (GG w0) := by
  rw [hw0]
  exact ⟨(OwnC.new' rfl).alloc.alloc, (OwnC.new' (by simp only [World.size_alloc])).alloc, (OwnC.new' (by simp only [World.size_alloc])), below_alloc0 (below_alloc0 (below_alloc0 (Below.refl _ _) _) _) _, (hG).call (below_alloc0 (below_alloc0 (below_alloc0 (Below.refl _ _) _) _) _), (hN).call (below_alloc0 (below_alloc0 (below_alloc0 (Below.refl _ _) _) _) _), (hT).call (below_alloc0 (below_alloc0 (below_alloc0 (Below.refl _ _) _) _) _), (hQ).call (below_alloc0 (below_alloc0 (below_alloc0 (Below.refl _ _) _) _) _)⟩
 obtain ⟨P0_0, P1_0, P2_0, W_0, G_0, N_0, T_0, Q_0⟩ := H0
 clear ecx lcx ecy lcy es ls em lm ep1 ep2 hsp hmp ep3 ep4 hx hy hG hN hT hQ
 go_enter Tryd.func8, Tryd.ntmps8
 go_upto_region 1 with fail
 rw [← hw0]
 clear hw0
 obtain ⟨fP2z, fP20, fP21, fP22, fP23, fP24, fP25, fP26, fP27, fP28, fP2f⟩ := (P2_0.out).pt
 go_wp2_with fail
 clear fP2z fP20 fP21 fP22 fP23 fP24 fP25 fP26 fP27 fP28 fP2f
 refine (K1.out _).mono ?_
 rintro e w1 ⟨rfl, hq⟩
 have P0_1 : Hid (OwnC w1 (w.heap.size) (numL x)) := OwnC.call P0_0.out hq
 have P1_1 : Hid (OwnC w1 (w.heap.size + 1) (numL y)) := OwnC.call P1_0.out hq
 have P2_1 : Hid (OwnC w1 (w.heap.size + 1 + 1) (ptL (pX a) (pY a) (pI a))) := OwnC.call P2_0.out hq
 have W_1 : Hid (Below w.heap.size w w1) := below_call0 W_0.out hq
 have G_1 : Hid (GlobP w1) := G_0.out.call hq
 have N_1 : Hid (GlobQ w1) := N_0.out.call hq
 have T_1 : Hid (GTH w1) := T_0.out.call hq
 have Q_1 : Hid (GG w1) := Q_0.out.call hq
 clear hq P0_0 P1_0 P2_0 W_0 G_0 N_0 T_0 Q_0
 go_upto_region 3 with fail
 go_upto_region 3 with fail
 go_cut [7] (fun vq7 wx => ∃ bk7, vq7 = .pointer (some ⟨bk7, 0, none⟩) ∧ w1.heap.size ≤ bk7 ∧ OwnC wx bk7 (numL cx) ∧ Below w1.heap.size w1 wx)
 case first =>
  obtain ⟨fP0z, fP00, fP01, fP02, fP03, fP0f⟩ := (P0_1.out).num
  go_wp2_with fail
  clear fP0z fP00 fP01 fP02 fP03 fP0f
  refine (K2.out _).mono ?_
  rintro e wx0 ⟨rfl, hq0⟩
  go_wp2_with fail
  go_meet
  exact ⟨_, rfl, hq0.size, OwnC.new' rfl, below_alloc0 hq0 _⟩
 case rest =>
  obtain ⟨bk7, rfl, hle, hO, hB⟩ := hcut
  have P0_2 : Hid (OwnC wc (w.heap.size) (numL x)) := OwnC.call P0_1.out hB
  have P1_2 : Hid (OwnC wc (w.heap.size + 1) (numL y)) := OwnC.call P1_1.out hB
  have P2_2 : Hid (OwnC wc (w.heap.size + 1 + 1) (ptL (pX a) (pY a) (pI a))) := OwnC.call P2_1.out hB
  have W_2 : Hid (Below w.heap.size w wc) := below_call0 W_1.out hB
  have G_2 : Hid (GlobP wc) := G_1.out.call hB
  have N_2 : Hid (GlobQ wc) := N_1.out.call hB
  have T_2 : Hid (GTH wc) := T_1.out.call hB
  have Q_2 : Hid (GG wc) := Q_1.out.call hB
  have V7_2 : Hid (OwnC wc bk7 (numL cx)) := hO
  clear hB P0_1 P1_1 P2_1 W_1 G_1 N_1 T_1 Q_1
  clear hO hle
  generalize wc = w2 at P0_2 P1_2 P2_2 W_2 G_2 N_2 T_2 Q_2 V7_2 ⊢
  go_upto_region 4 with fail
  go_cut [8] (fun vq8 wx => ∃ bk8, vq8 = .pointer (some ⟨bk8, 0, none⟩) ∧ w2.heap.size ≤ bk8 ∧ OwnC wx bk8 (numL cy) ∧ Below w2.heap.size w2 wx)
  case first =>
   obtain ⟨fP1z, fP10, fP11, fP12, fP13, fP1f⟩ := (P1_2.out).num
   go_wp2_with fail
   clear fP1z fP10 fP11 fP12 fP13 fP1f
   refine (K3.out _).mono ?_
   rintro e wx0 ⟨rfl, hq0⟩
   go_wp2_with fail
   go_meet
   exact ⟨_, rfl, hq0.size, OwnC.new' rfl, below_alloc0 hq0 _⟩
  case rest =>
   obtain ⟨bk8, rfl, hle, hO, hB⟩ := hcut
   rename_i uB uC uD uE uF uG uH uI uJ uK uL uM uN uO uP uQ uR uS uT uU uV uW uX uY uZ va vb vc vd ve vf vg vh vi vj vk vl vm vn vo vp vq vr vs vt vu vv vw vx vy vz vA vB vC vD vE vF vG vH vI vJ vK vL vM vN vO vP vQ vR vS vT vU vV vW vX vY vZ za zb zc zd ze zf zg zh zi zj zk zl zm zn zo zp zq zr zs zt zu zv zw zx zy zz zA Kq2 hKq2
   clear uB uC uD uE uF uG uH uI uJ uK uL uM uN uO uP uQ uR uS uT uU uV uW uX uY uZ va vb vc vd ve vf vg vh vi vj vk vl vm vn vo vp vq vr vs vt vu vv vw vx vy vz vA vB vC vD vE vF vG vH vI vJ vK vL vM vN vO vP vQ vR vS vT vU vV vW vX vY vZ za zb zc zd ze zf zg zh zi zj zk zl zm zn zo zp zq zr zs zt zu zv zw zx zy zz zA
   have P0_3 : Hid (OwnC wc (w.heap.size) (numL x)) := OwnC.call P0_2.out hB
   have P1_3 : Hid (OwnC wc (w.heap.size + 1) (numL y)) := OwnC.call P1_2.out hB
   have P2_3 : Hid (OwnC wc (w.heap.size + 1 + 1) (ptL (pX a) (pY a) (pI a))) := OwnC.call P2_2.out hB
   have W_3 : Hid (Below w.heap.size w wc) := below_call0 W_2.out hB
   have G_3 : Hid (GlobP wc) := G_2.out.call hB
   have N_3 : Hid (GlobQ wc) := N_2.out.call hB
   have T_3 : Hid (GTH wc) := T_2.out.call hB
   have Q_3 : Hid (GG wc) := Q_2.out.call hB
   have V7_3 : Hid (OwnC wc bk7 (numL cx)) := OwnC.call V7_2.out hB
   have V8_3 : Hid (OwnC wc bk8 (numL cy)) := hO
   clear hB P0_2 P1_2 P2_2 W_2 G_2 N_2 T_2 Q_2 V7_2
   clear hO hle
   generalize wc = w3 at P0_3 P1_3 P2_3 W_3 G_3 N_3 T_3 Q_3 V7_3 V8_3 ⊢
   go_upto_region 5 with fail
   go_cut [9, 10] (fun vq vr wx => ∃ bk9, vq = .pointer (some ⟨bk9, 0, none⟩) ∧ vr = .int .i64 0 ∧ Own4 wx bk9 s ∧ Below w3.heap.size w3 wx)
   case first =>
    refine wp_region_N (fun w' => Below w3.heap.size w3 w') 8 10 rfl (by kernel_rfl) ?_
    refine wpAnyN_take (i := 1) (oi := ?o1d5) (v := ?v1d5) ?hi1d5 (by kernel_rfl) (by kernel_rfl) (by kernel_rfl) (by kernel_rfl) (by decide) (by kernel_rfl) ?hQ1d5 ?hy1d5 (Below.drew (Below.refl _ _)) ?more1d5
    case hi1d5 => rw [List.getElem?_toArray]; exact rfl
    case hQ1d5 => exact fun _ _ _ h => h
    case hy1d5 =>
     refine Or.inl ⟨by rfl, ?_⟩
     intro w' hSw
     obtain ⟨fV7z, fV70, fV71, fV72, fV73, fV7f⟩ := (OwnC.call V7_3.out hSw).num
     obtain ⟨fV8z, fV80, fV81, fV82, fV83, fV8f⟩ := (OwnC.call V8_3.out hSw).num
     clear hSw
     go_simp
     try with_reducible rfl
    simp only [Act.put, List.setIfInBounds_toArray, List.set_cons_zero, List.set_cons_succ]
    refine wpAnyN_take (i := 2) (oi := ?o2d5) (v := ?v2d5) ?hi2d5 (by kernel_rfl) (by kernel_rfl) (by kernel_rfl) (by kernel_rfl) (by decide) (by kernel_rfl) ?hQ2d5 ?hy2d5 (Below.drew (Below.refl _ _)) ?more2d5
    case hi2d5 => rw [List.getElem?_toArray]; exact rfl
    case hQ2d5 => exact fun _ _ _ h => h
    case hy2d5 =>
     refine Or.inl ⟨by rfl, ?_⟩
     intro w' hSw
     obtain ⟨fV7z, fV70, fV71, fV72, fV73, fV7f⟩ := (OwnC.call V7_3.out hSw).num
     obtain ⟨fV8z, fV80, fV81, fV82, fV83, fV8f⟩ := (OwnC.call V8_3.out hSw).num
     clear hSw
     go_simp
     try with_reducible rfl
    simp only [Act.put, List.setIfInBounds_toArray, List.set_cons_zero, List.set_cons_succ]
    refine wpAnyN_two (i := 0) (j := 7) (o := ?o0d5x1) (p := ?o7d5x1) (by kernel_rfl) ?hi0d5x1 ?hi7d5x1 ?hw0d5x1 ?hw7d5x1 ?st0d5x1 ?st7d5x1
    case hi0d5x1 => rw [List.getElem?_toArray]; exact rfl
    case hw0d5x1 => exact rfl
    case hi7d5x1 => rw [List.getElem?_toArray]; exact rfl
    case hw7d5x1 => exact rfl
    case st0d5x1 =>
     intro K hK
     have HK0d5y2 : Hid _ := hK
     clear hK
     go_simp
     refine (KS.out _ (N_3.out.call (Below.drew (Below.refl _ _)))).mono ?_
     rintro e w0d5y2 ⟨gq, rfl, hFq, hq⟩
     have H0d5y2 : Hid (Below w3.heap.size w3 w0d5y2) := below_call0 (Below.drew (Below.refl _ _)) hq
     clear hq
     go_wp2_with fail
     refine HK0d5y2.out _ _ ⟨fun _ => H0d5y2.out, ?_⟩
     clear HK0d5y2 K
     try simp only [Act.put, List.setIfInBounds_toArray, List.set_cons_zero, List.set_cons_succ]
     refine wpAnyN_two (i := 3) (j := 7) (o := ?o3d5y2x3) (p := ?o7d5y2x3) (by kernel_rfl) ?hi3d5y2x3 ?hi7d5y2x3 ?hw3d5y2x3 ?hw7d5y2x3 ?st3d5y2x3 ?st7d5y2x3
     case hi3d5y2x3 => rw [List.getElem?_toArray]; exact rfl
     case hw3d5y2x3 => exact rfl
     case hi7d5y2x3 => rw [List.getElem?_toArray]; exact rfl
     case hw7d5y2x3 => exact rfl
     case st3d5y2x3 =>
      intro K hK
      have HK3d5y4 : Hid _ := hK
      clear hK
      go_simp
      refine (KA.out gq _ (by first | exact hFq | exact hFq.alloc)).mono ?_
      rintro e w3d5y4 ⟨rfl, hq⟩
      have H3d5y4 : Hid (Below w3.heap.size w3 w3d5y4) := below_call0 H0d5y2.out hq
      clear hq
      go_wp2_with fail
      refine HK3d5y4.out _ _ ⟨fun _ => H3d5y4.out, ?_⟩
      clear HK3d5y4 K
      try simp only [Act.put, List.setIfInBounds_toArray, List.set_cons_zero, List.set_cons_succ]
      refine wpAnyN_takeF (i := 4) (oi := ?o4d5y4) (v := ?v4d5y4) ?hi4d5y4 (by kernel_rfl) (by kernel_rfl) (by kernel_rfl) (by decide) ?hQ4d5y4 ?hy4d5y4 H3d5y4.out ?more4d5y4
      case hi4d5y4 => rw [List.getElem?_toArray]; exact rfl
      case hQ4d5y4 => exact fun _ _ _ h => h
      case hy4d5y4 =>
       refine Or.inl ⟨by rfl, ?_⟩
       intro w' hSw
       clear hSw
       go_simp
       try with_reducible rfl
      simp only [Act.put, List.setIfInBounds_toArray, List.set_cons_zero, List.set_cons_succ]
      refine wpAnyN_takeF (i := 5) (oi := ?o5d5y4) (v := ?v5d5y4) ?hi5d5y4 (by kernel_rfl) (by kernel_rfl) (by kernel_rfl) (by decide) ?hQ5d5y4 ?hy5d5y4 H3d5y4.out ?more5d5y4
      case hi5d5y4 => rw [List.getElem?_toArray]; exact rfl
      case hQ5d5y4 => exact fun _ _ _ h => h
      case hy5d5y4 =>
       refine Or.inl ⟨by rfl, ?_⟩
       intro w' hSw
       clear hSw
       go_simp
       try with_reducible rfl
      simp only [Act.put, List.setIfInBounds_toArray, List.set_cons_zero, List.set_cons_succ]
      refine wpAnyN_takeF (i := 6) (oi := ?o6d5y4) (v := ?v6d5y4) ?hi6d5y4 (by kernel_rfl) (by kernel_rfl) (by kernel_rfl) (by decide) ?hQ6d5y4 ?hy6d5y4 H3d5y4.out ?more6d5y4
      case hi6d5y4 => rw [List.getElem?_toArray]; exact rfl
      case hQ6d5y4 => exact fun _ _ _ h => h
      case hy6d5y4 =>
       refine Or.inl ⟨by rfl, ?_⟩
       intro w' hSw
       clear hSw
       go_simp
       try with_reducible rfl
      simp only [Act.put, List.setIfInBounds_toArray, List.set_cons_zero, List.set_cons_succ]
      refine wpAnyN_one (i := 7) (o := ?o7d5y4) (by kernel_rfl) ?hi7d5y4 ?hw7d5y4 ?st7d5y4
      case hi7d5y4 => rw [List.getElem?_toArray]; exact rfl
      case hw7d5y4 => exact rfl
      intro K hK
      have HK7d5y4 : Hid _ := hK
      clear hK
      go_simp
      refine HK7d5y4.out _ _ ⟨fun _ => (below_alloc0 H3d5y4.out _), ?_⟩
      clear HK7d5y4 K
      try simp only [Act.put, List.setIfInBounds_toArray, List.set_cons_zero, List.set_cons_succ]
      refine wpAnyN_one (i := 8) (o := ?o8d5y4) (by kernel_rfl) ?hi8d5y4 ?hw8d5y4 ?st8d5y4
      case hi8d5y4 => rw [List.getElem?_toArray]; exact rfl
      case hw8d5y4 => exact rfl
      intro K hK
      have HK8d5y4 : Hid _ := hK
      clear hK
      obtain ⟨⟨o0, o1, o2, o3⟩, ⟨f0, f1, f2, f3⟩, oz⟩ := Pend.facts (Pend.newC (W := w3d5y4) (t := 24) rfl)
      try simp only [World.size_alloc] at o0 o1 o2 o3 f0 f1 f2 f3 oz
      go_simp
      refine HK8d5y4.out _ _ ⟨fun h => absurd h (by decide +kernel), ?_⟩
      clear HK8d5y4 K
      try simp only [Act.put, List.setIfInBounds_toArray, List.set_cons_zero, List.set_cons_succ]
      refine wpAnyN_one (i := 9) (o := ?o9d5y4) (by kernel_rfl) ?hi9d5y4 ?hw9d5y4 ?st9d5y4
      case hi9d5y4 => rw [List.getElem?_toArray]; exact rfl
      case hw9d5y4 => exact rfl
      intro K hK
      have HK9d5y4 : Hid _ := hK
      clear hK
      go_simp
      refine HK9d5y4.out _ _ ⟨fun h => absurd h (by decide +kernel), ?_⟩
      clear HK9d5y4 K
      try simp only [Act.put, List.setIfInBounds_toArray, List.set_cons_zero, List.set_cons_succ]
      refine wpAnyN_done (by kernel_rfl) ?_ _
      obtain ⟨wSd5y4, hwS⟩ : ∃ y, y = w3d5y4.alloc (.cells #[.int .u64 (limb s 0 : Nat), .int .u64 (limb s 1 : Nat), .int .u64 (limb s 2 : Nat), .int .u64 (limb s 3 : Nat)] 24) := ⟨_, rfl⟩
      have HSd5y4 : Hid (Own4 wSd5y4 (w3d5y4.heap.size) s ∧ Below w3.heap.size w3 wSd5y4) := by rw [hwS]; exact ⟨Own4.new' rfl, below_alloc0 H3d5y4.out _⟩
      rw [← hwS]
      clear hwS o0 o1 o2 o3 f0 f1 f2 f3 oz
      go_wp2_with fail
      go_meet
      exact ⟨_, rfl, rfl, HSd5y4.out.1, HSd5y4.out.2⟩
     case st7d5y2x3 =>
      intro K hK
      have HK7d5y5 : Hid _ := hK
      clear hK
      go_simp
      refine HK7d5y5.out _ _ ⟨fun _ => (below_alloc0 H0d5y2.out _), ?_⟩
      clear HK7d5y5 K
      try simp only [Act.put, List.setIfInBounds_toArray, List.set_cons_zero, List.set_cons_succ]
      refine wpAnyN_one (i := 3) (o := ?o3d5y5) (by kernel_rfl) ?hi3d5y5 ?hw3d5y5 ?st3d5y5
      case hi3d5y5 => rw [List.getElem?_toArray]; exact rfl
      case hw3d5y5 => exact rfl
      intro K hK
      have HK3d5y5 : Hid _ := hK
      clear hK
      go_simp
      refine (KA.out gq _ (by first | exact hFq | exact hFq.alloc)).mono ?_
      rintro e w3d5y5 ⟨rfl, hq⟩
      have H3d5y5 : Hid (Below w3.heap.size w3 w3d5y5) := below_call0 (below_alloc0 H0d5y2.out _) hq
      have P3d5y5 : Hid (Pend w3d5y5 (w0d5y2.heap.size)) := Pend.call (Pend.newC (W := w0d5y2) (t := 24) rfl) hq
      clear hq
      go_wp2_with fail
      refine HK3d5y5.out _ _ ⟨fun _ => H3d5y5.out, ?_⟩
      clear HK3d5y5 K
      try simp only [Act.put, List.setIfInBounds_toArray, List.set_cons_zero, List.set_cons_succ]
      refine wpAnyN_takeF (i := 4) (oi := ?o4d5y5) (v := ?v4d5y5) ?hi4d5y5 (by kernel_rfl) (by kernel_rfl) (by kernel_rfl) (by decide) ?hQ4d5y5 ?hy4d5y5 H3d5y5.out ?more4d5y5
      case hi4d5y5 => rw [List.getElem?_toArray]; exact rfl
      case hQ4d5y5 => exact fun _ _ _ h => h
      case hy4d5y5 =>
       refine Or.inl ⟨by rfl, ?_⟩
       intro w' hSw
       clear hSw
       go_simp
       try with_reducible rfl
      simp only [Act.put, List.setIfInBounds_toArray, List.set_cons_zero, List.set_cons_succ]
      refine wpAnyN_takeF (i := 5) (oi := ?o5d5y5) (v := ?v5d5y5) ?hi5d5y5 (by kernel_rfl) (by kernel_rfl) (by kernel_rfl) (by decide) ?hQ5d5y5 ?hy5d5y5 H3d5y5.out ?more5d5y5
      case hi5d5y5 => rw [List.getElem?_toArray]; exact rfl
      case hQ5d5y5 => exact fun _ _ _ h => h
      case hy5d5y5 =>
       refine Or.inl ⟨by rfl, ?_⟩
       intro w' hSw
       clear hSw
       go_simp
       try with_reducible rfl
      simp only [Act.put, List.setIfInBounds_toArray, List.set_cons_zero, List.set_cons_succ]
      refine wpAnyN_takeF (i := 6) (oi := ?o6d5y5) (v := ?v6d5y5) ?hi6d5y5 (by kernel_rfl) (by kernel_rfl) (by kernel_rfl) (by decide) ?hQ6d5y5 ?hy6d5y5 H3d5y5.out ?more6d5y5
      case hi6d5y5 => rw [List.getElem?_toArray]; exact rfl
      case hQ6d5y5 => exact fun _ _ _ h => h
      case hy6d5y5 =>
       refine Or.inl ⟨by rfl, ?_⟩
       intro w' hSw
       clear hSw
       go_simp
       try with_reducible rfl
      simp only [Act.put, List.setIfInBounds_toArray, List.set_cons_zero, List.set_cons_succ]
      refine wpAnyN_one (i := 8) (o := ?o8d5y5) (by kernel_rfl) ?hi8d5y5 ?hw8d5y5 ?st8d5y5
      case hi8d5y5 => rw [List.getElem?_toArray]; exact rfl
      case hw8d5y5 => exact rfl
      intro K hK
      have HK8d5y5 : Hid _ := hK
      clear hK
      obtain ⟨⟨o0, o1, o2, o3⟩, ⟨f0, f1, f2, f3⟩, oz⟩ := Pend.facts P3d5y5.out
      try simp only [World.size_alloc] at o0 o1 o2 o3 f0 f1 f2 f3 oz
      go_simp
      refine HK8d5y5.out _ _ ⟨fun h => absurd h (by decide +kernel), ?_⟩
      clear HK8d5y5 K
      try simp only [Act.put, List.setIfInBounds_toArray, List.set_cons_zero, List.set_cons_succ]
      refine wpAnyN_one (i := 9) (o := ?o9d5y5) (by kernel_rfl) ?hi9d5y5 ?hw9d5y5 ?st9d5y5
      case hi9d5y5 => rw [List.getElem?_toArray]; exact rfl
      case hw9d5y5 => exact rfl
      intro K hK
      have HK9d5y5 : Hid _ := hK
      clear hK
      go_simp
      refine HK9d5y5.out _ _ ⟨fun h => absurd h (by decide +kernel), ?_⟩
      clear HK9d5y5 K
      try simp only [Act.put, List.setIfInBounds_toArray, List.set_cons_zero, List.set_cons_succ]
      refine wpAnyN_done (by kernel_rfl) ?_ _
      obtain ⟨wSd5y5, hwS⟩ : ∃ y, y = ((((w3d5y5.setCell ⟨w0d5y2.heap.size, 0, none⟩ (.int .u64 (limb s 0 : Nat))).setCell ⟨w0d5y2.heap.size, 1, none⟩ (.int .u64 (limb s 1 : Nat))).setCell ⟨w0d5y2.heap.size, 2, none⟩ (.int .u64 (limb s 2 : Nat))).setCell ⟨w0d5y2.heap.size, 3, none⟩ (.int .u64 (limb s 3 : Nat))) := ⟨_, rfl⟩
      have HSd5y5 : Hid (Own4 wSd5y5 (w0d5y2.heap.size) s ∧ Below w3.heap.size w3 wSd5y5) := by rw [hwS]; exact ⟨Pend.own P3d5y5.out, Below.setCell (Below.setCell (Below.setCell (Below.setCell H3d5y5.out (Below.size H0d5y2.out) _) (Below.size H0d5y2.out) _) (Below.size H0d5y2.out) _) (Below.size H0d5y2.out) _⟩
      rw [← hwS]
      clear hwS o0 o1 o2 o3 f0 f1 f2 f3 oz
      go_wp2_with fail
      go_meet
      exact ⟨_, rfl, rfl, HSd5y5.out.1, HSd5y5.out.2⟩
    case st7d5x1 =>
     intro K hK
     have HK7d5y6 : Hid _ := hK
     clear hK
     go_simp
     refine HK7d5y6.out _ _ ⟨fun _ => (below_alloc0 (Below.drew (Below.refl _ _)) _), ?_⟩
     clear HK7d5y6 K
     try simp only [Act.put, List.setIfInBounds_toArray, List.set_cons_zero, List.set_cons_succ]
     refine wpAnyN_one (i := 0) (o := ?o0d5y6) (by kernel_rfl) ?hi0d5y6 ?hw0d5y6 ?st0d5y6
     case hi0d5y6 => rw [List.getElem?_toArray]; exact rfl
     case hw0d5y6 => exact rfl
     intro K hK
     have HK0d5y6 : Hid _ := hK
     clear hK
     go_simp
     refine (KS.out _ (N_3.out.call (below_alloc0 (Below.drew (Below.refl _ _)) _))).mono ?_
     rintro e w0d5y6 ⟨gq, rfl, hFq, hq⟩
     have H0d5y6 : Hid (Below w3.heap.size w3 w0d5y6) := below_call0 (below_alloc0 (Below.drew (Below.refl _ _)) _) hq
     have P0d5y6 : Hid (Pend w0d5y6 (w3.heap.size)) := Pend.call (Pend.newC (W := w3.drew) (t := 24) rfl) hq
     clear hq
     go_wp2_with fail
     refine HK0d5y6.out _ _ ⟨fun _ => H0d5y6.out, ?_⟩
     clear HK0d5y6 K
     try simp only [Act.put, List.setIfInBounds_toArray, List.set_cons_zero, List.set_cons_succ]
     refine wpAnyN_one (i := 3) (o := ?o3d5y6) (by kernel_rfl) ?hi3d5y6 ?hw3d5y6 ?st3d5y6
     case hi3d5y6 => rw [List.getElem?_toArray]; exact rfl
     case hw3d5y6 => exact rfl
     intro K hK
     have HK3d5y6 : Hid _ := hK
     clear hK
     go_simp
     refine (KA.out gq _ (by first | exact hFq | exact hFq.alloc)).mono ?_
     rintro e w3d5y6 ⟨rfl, hq⟩
     have H3d5y6 : Hid (Below w3.heap.size w3 w3d5y6) := below_call0 H0d5y6.out hq
     have P3d5y6 : Hid (Pend w3d5y6 (w3.heap.size)) := Pend.call P0d5y6.out hq
     clear hq
     go_wp2_with fail
     refine HK3d5y6.out _ _ ⟨fun _ => H3d5y6.out, ?_⟩
     clear HK3d5y6 K
     try simp only [Act.put, List.setIfInBounds_toArray, List.set_cons_zero, List.set_cons_succ]
     refine wpAnyN_takeF (i := 4) (oi := ?o4d5y6) (v := ?v4d5y6) ?hi4d5y6 (by kernel_rfl) (by kernel_rfl) (by kernel_rfl) (by decide) ?hQ4d5y6 ?hy4d5y6 H3d5y6.out ?more4d5y6
     case hi4d5y6 => rw [List.getElem?_toArray]; exact rfl
     case hQ4d5y6 => exact fun _ _ _ h => h
     case hy4d5y6 =>
      refine Or.inl ⟨by rfl, ?_⟩
      intro w' hSw
      clear hSw
      go_simp
      try with_reducible rfl
     simp only [Act.put, List.setIfInBounds_toArray, List.set_cons_zero, List.set_cons_succ]
     refine wpAnyN_takeF (i := 5) (oi := ?o5d5y6) (v := ?v5d5y6) ?hi5d5y6 (by kernel_rfl) (by kernel_rfl) (by kernel_rfl) (by decide) ?hQ5d5y6 ?hy5d5y6 H3d5y6.out ?more5d5y6
     case hi5d5y6 => rw [List.getElem?_toArray]; exact rfl
     case hQ5d5y6 => exact fun _ _ _ h => h
     case hy5d5y6 =>
      refine Or.inl ⟨by rfl, ?_⟩
      intro w' hSw
      clear hSw
      go_simp
      try with_reducible rfl
     simp only [Act.put, List.setIfInBounds_toArray, List.set_cons_zero, List.set_cons_succ]
     refine wpAnyN_takeF (i := 6) (oi := ?o6d5y6) (v := ?v6d5y6) ?hi6d5y6 (by kernel_rfl) (by kernel_rfl) (by kernel_rfl) (by decide) ?hQ6d5y6 ?hy6d5y6 H3d5y6.out ?more6d5y6
     case hi6d5y6 => rw [List.getElem?_toArray]; exact rfl
     case hQ6d5y6 => exact fun _ _ _ h => h
     case hy6d5y6 =>
      refine Or.inl ⟨by rfl, ?_⟩
      intro w' hSw
      clear hSw
      go_simp
      try with_reducible rfl
     simp only [Act.put, List.setIfInBounds_toArray, List.set_cons_zero, List.set_cons_succ]
     refine wpAnyN_one (i := 8) (o := ?o8d5y6) (by kernel_rfl) ?hi8d5y6 ?hw8d5y6 ?st8d5y6
     case hi8d5y6 => rw [List.getElem?_toArray]; exact rfl
     case hw8d5y6 => exact rfl
     intro K hK
     have HK8d5y6 : Hid _ := hK
     clear hK
     obtain ⟨⟨o0, o1, o2, o3⟩, ⟨f0, f1, f2, f3⟩, oz⟩ := Pend.facts P3d5y6.out
     try simp only [World.size_alloc] at o0 o1 o2 o3 f0 f1 f2 f3 oz
     go_simp
     refine HK8d5y6.out _ _ ⟨fun h => absurd h (by decide +kernel), ?_⟩
     clear HK8d5y6 K
     try simp only [Act.put, List.setIfInBounds_toArray, List.set_cons_zero, List.set_cons_succ]
     refine wpAnyN_one (i := 9) (o := ?o9d5y6) (by kernel_rfl) ?hi9d5y6 ?hw9d5y6 ?st9d5y6
     case hi9d5y6 => rw [List.getElem?_toArray]; exact rfl
     case hw9d5y6 => exact rfl
     intro K hK
     have HK9d5y6 : Hid _ := hK
     clear hK
     go_simp
     refine HK9d5y6.out _ _ ⟨fun h => absurd h (by decide +kernel), ?_⟩
     clear HK9d5y6 K
     try simp only [Act.put, List.setIfInBounds_toArray, List.set_cons_zero, List.set_cons_succ]
     refine wpAnyN_done (by kernel_rfl) ?_ _
     obtain ⟨wSd5y6, hwS⟩ : ∃ y, y = ((((w3d5y6.setCell ⟨w3.heap.size, 0, none⟩ (.int .u64 (limb s 0 : Nat))).setCell ⟨w3.heap.size, 1, none⟩ (.int .u64 (limb s 1 : Nat))).setCell ⟨w3.heap.size, 2, none⟩ (.int .u64 (limb s 2 : Nat))).setCell ⟨w3.heap.size, 3, none⟩ (.int .u64 (limb s 3 : Nat))) := ⟨_, rfl⟩
     have HSd5y6 : Hid (Own4 wSd5y6 (w3.heap.size) s ∧ Below w3.heap.size w3 wSd5y6) := by rw [hwS]; exact ⟨Pend.own P3d5y6.out, Below.setCell (Below.setCell (Below.setCell (Below.setCell H3d5y6.out (Nat.le_refl _) _) (Nat.le_refl _) _) (Nat.le_refl _) _) (Nat.le_refl _) _⟩
     rw [← hwS]
     clear hwS o0 o1 o2 o3 f0 f1 f2 f3 oz
     go_wp2_with fail
     go_meet
     exact ⟨_, rfl, rfl, HSd5y6.out.1, HSd5y6.out.2⟩
   case rest =>
    obtain ⟨bk9, rfl, rfl, hO, hB⟩ := hcut
    rename_i uB uC uD uE uF uG uH uI uJ uK uL uM uN uO uP uQ uR uS uT uU uV uW uX uY uZ va vb vc vd ve vf vg vh vi vj vk vl vm vn vo vp vq vr vs vt vu vv vw vx vy vz vA vB vC vD vE vF vG vH vI vJ vK vL vM vN vO vP vQ vR vS vT vU vV vW vX vY vZ za zb zc zd ze zf zg zh zi zj zk zl zm zn zo zp zq zr zs zt zu zv zw zx zy zz zA Kq3 hKq3
    clear uB uC uD uE uF uG uH uI uJ uK uL uM uN uO uP uQ uR uS uT uU uV uW uX uY uZ va vb vc vd ve vf vg vh vi vj vk vl vm vn vo vp vq vr vs vt vu vv vw vx vy vz vA vB vC vD vE vF vG vH vI vJ vK vL vM vN vO vP vQ vR vS vT vU vV vW vX vY vZ za zb zc zd ze zf zg zh zi zj zk zl zm zn zo zp zq zr zs zt zu zv zw zx zy zz zA
    have P0_4 : Hid (OwnC wc (w.heap.size) (numL x)) := OwnC.call P0_3.out hB
    have P1_4 : Hid (OwnC wc (w.heap.size + 1) (numL y)) := OwnC.call P1_3.out hB
    have P2_4 : Hid (OwnC wc (w.heap.size + 1 + 1) (ptL (pX a) (pY a) (pI a))) := OwnC.call P2_3.out hB
    have W_4 : Hid (Below w.heap.size w wc) := below_call0 W_3.out hB
    have G_4 : Hid (GlobP wc) := G_3.out.call hB
    have N_4 : Hid (GlobQ wc) := N_3.out.call hB
    have T_4 : Hid (GTH wc) := T_3.out.call hB
    have Q_4 : Hid (GG wc) := Q_3.out.call hB
    have V7_4 : Hid (OwnC wc bk7 (numL cx)) := OwnC.call V7_3.out hB
    have V8_4 : Hid (OwnC wc bk8 (numL cy)) := OwnC.call V8_3.out hB
    have V9_4 : Hid (Own4 wc bk9 s) := hO
    clear hB P0_3 P1_3 P2_3 W_3 G_3 N_3 T_3 Q_3 V7_3 V8_3
    clear hO
    generalize wc = w4 at P0_4 P1_4 P2_4 W_4 G_4 N_4 T_4 Q_4 V7_4 V8_4 V9_4 ⊢
    go_upto_region 6 with fail
    go_cut [11, 12] (fun vq vr wx => ∃ bk11, vq = .pointer (some ⟨bk11, 0, none⟩) ∧ vr = .int .i64 0 ∧ Own4 wx bk11 m ∧ Below w4.heap.size w4 wx)
    case first =>
     refine wp_region_N (fun w' => Below w4.heap.size w4 w') 8 10 rfl (by kernel_rfl) ?_
     refine wpAnyN_take (i := 1) (oi := ?o1d6) (v := ?v1d6) ?hi1d6 (by kernel_rfl) (by kernel_rfl) (by kernel_rfl) (by kernel_rfl) (by decide) (by kernel_rfl) ?hQ1d6 ?hy1d6 (Below.drew (Below.refl _ _)) ?more1d6
     case hi1d6 => rw [List.getElem?_toArray]; exact rfl
     case hQ1d6 => exact fun _ _ _ h => h
     case hy1d6 =>
      refine Or.inl ⟨by rfl, ?_⟩
      intro w' hSw
      obtain ⟨fV7z, fV70, fV71, fV72, fV73, fV7f⟩ := (OwnC.call V7_4.out hSw).num
      obtain ⟨fV8z, fV80, fV81, fV82, fV83, fV8f⟩ := (OwnC.call V8_4.out hSw).num
      clear hSw
      go_simp
      try with_reducible rfl
     simp only [Act.put, List.setIfInBounds_toArray, List.set_cons_zero, List.set_cons_succ]
     refine wpAnyN_take (i := 2) (oi := ?o2d6) (v := ?v2d6) ?hi2d6 (by kernel_rfl) (by kernel_rfl) (by kernel_rfl) (by kernel_rfl) (by decide) (by kernel_rfl) ?hQ2d6 ?hy2d6 (Below.drew (Below.refl _ _)) ?more2d6
     case hi2d6 => rw [List.getElem?_toArray]; exact rfl
     case hQ2d6 => exact fun _ _ _ h => h
     case hy2d6 =>
      refine Or.inl ⟨by rfl, ?_⟩
      intro w' hSw
      obtain ⟨fV7z, fV70, fV71, fV72, fV73, fV7f⟩ := (OwnC.call V7_4.out hSw).num
      obtain ⟨fV8z, fV80, fV81, fV82, fV83, fV8f⟩ := (OwnC.call V8_4.out hSw).num
      clear hSw
      go_simp
      try with_reducible rfl
     simp only [Act.put, List.setIfInBounds_toArray, List.set_cons_zero, List.set_cons_succ]
     refine wpAnyN_two (i := 0) (j := 7) (o := ?o0d6x1) (p := ?o7d6x1) (by kernel_rfl) ?hi0d6x1 ?hi7d6x1 ?hw0d6x1 ?hw7d6x1 ?st0d6x1 ?st7d6x1
     case hi0d6x1 => rw [List.getElem?_toArray]; exact rfl
     case hw0d6x1 => exact rfl
     case hi7d6x1 => rw [List.getElem?_toArray]; exact rfl
     case hw7d6x1 => exact rfl
     case st0d6x1 =>
      intro K hK
      have HK0d6y2 : Hid _ := hK
      clear hK
      go_simp
      refine (KS.out _ (N_4.out.call (Below.drew (Below.refl _ _)))).mono ?_
      rintro e w0d6y2 ⟨gq, rfl, hFq, hq⟩
      have H0d6y2 : Hid (Below w4.heap.size w4 w0d6y2) := below_call0 (Below.drew (Below.refl _ _)) hq
      clear hq
      go_wp2_with fail
      refine HK0d6y2.out _ _ ⟨fun _ => H0d6y2.out, ?_⟩
      clear HK0d6y2 K
      try simp only [Act.put, List.setIfInBounds_toArray, List.set_cons_zero, List.set_cons_succ]
      refine wpAnyN_two (i := 3) (j := 7) (o := ?o3d6y2x3) (p := ?o7d6y2x3) (by kernel_rfl) ?hi3d6y2x3 ?hi7d6y2x3 ?hw3d6y2x3 ?hw7d6y2x3 ?st3d6y2x3 ?st7d6y2x3
      case hi3d6y2x3 => rw [List.getElem?_toArray]; exact rfl
      case hw3d6y2x3 => exact rfl
      case hi7d6y2x3 => rw [List.getElem?_toArray]; exact rfl
      case hw7d6y2x3 => exact rfl
      case st3d6y2x3 =>
       intro K hK
       have HK3d6y4 : Hid _ := hK
       clear hK
       go_simp
       refine (KM.out gq _ (by first | exact hFq | exact hFq.alloc)).mono ?_
       rintro e w3d6y4 ⟨rfl, hq⟩
       have H3d6y4 : Hid (Below w4.heap.size w4 w3d6y4) := below_call0 H0d6y2.out hq
       clear hq
       go_wp2_with fail
       refine HK3d6y4.out _ _ ⟨fun _ => H3d6y4.out, ?_⟩
       clear HK3d6y4 K
       try simp only [Act.put, List.setIfInBounds_toArray, List.set_cons_zero, List.set_cons_succ]
       refine wpAnyN_takeF (i := 4) (oi := ?o4d6y4) (v := ?v4d6y4) ?hi4d6y4 (by kernel_rfl) (by kernel_rfl) (by kernel_rfl) (by decide) ?hQ4d6y4 ?hy4d6y4 H3d6y4.out ?more4d6y4
       case hi4d6y4 => rw [List.getElem?_toArray]; exact rfl
       case hQ4d6y4 => exact fun _ _ _ h => h
       case hy4d6y4 =>
        refine Or.inl ⟨by rfl, ?_⟩
        intro w' hSw
        clear hSw
        go_simp
        try with_reducible rfl
       simp only [Act.put, List.setIfInBounds_toArray, List.set_cons_zero, List.set_cons_succ]
       refine wpAnyN_takeF (i := 5) (oi := ?o5d6y4) (v := ?v5d6y4) ?hi5d6y4 (by kernel_rfl) (by kernel_rfl) (by kernel_rfl) (by decide) ?hQ5d6y4 ?hy5d6y4 H3d6y4.out ?more5d6y4
       case hi5d6y4 => rw [List.getElem?_toArray]; exact rfl
       case hQ5d6y4 => exact fun _ _ _ h => h
       case hy5d6y4 =>
        refine Or.inl ⟨by rfl, ?_⟩
        intro w' hSw
        clear hSw
        go_simp
        try with_reducible rfl
       simp only [Act.put, List.setIfInBounds_toArray, List.set_cons_zero, List.set_cons_succ]
       refine wpAnyN_takeF (i := 6) (oi := ?o6d6y4) (v := ?v6d6y4) ?hi6d6y4 (by kernel_rfl) (by kernel_rfl) (by kernel_rfl) (by decide) ?hQ6d6y4 ?hy6d6y4 H3d6y4.out ?more6d6y4
       case hi6d6y4 => rw [List.getElem?_toArray]; exact rfl
       case hQ6d6y4 => exact fun _ _ _ h => h
       case hy6d6y4 =>
        refine Or.inl ⟨by rfl, ?_⟩
        intro w' hSw
        clear hSw
        go_simp
        try with_reducible rfl
       simp only [Act.put, List.setIfInBounds_toArray, List.set_cons_zero, List.set_cons_succ]
       refine wpAnyN_one (i := 7) (o := ?o7d6y4) (by kernel_rfl) ?hi7d6y4 ?hw7d6y4 ?st7d6y4
       case hi7d6y4 => rw [List.getElem?_toArray]; exact rfl
       case hw7d6y4 => exact rfl
       intro K hK
       have HK7d6y4 : Hid _ := hK
       clear hK
       go_simp
       refine HK7d6y4.out _ _ ⟨fun _ => (below_alloc0 H3d6y4.out _), ?_⟩
       clear HK7d6y4 K
       try simp only [Act.put, List.setIfInBounds_toArray, List.set_cons_zero, List.set_cons_succ]
       refine wpAnyN_one (i := 8) (o := ?o8d6y4) (by kernel_rfl) ?hi8d6y4 ?hw8d6y4 ?st8d6y4
       case hi8d6y4 => rw [List.getElem?_toArray]; exact rfl
       case hw8d6y4 => exact rfl
       intro K hK
       have HK8d6y4 : Hid _ := hK
       clear hK
       obtain ⟨⟨o0, o1, o2, o3⟩, ⟨f0, f1, f2, f3⟩, oz⟩ := Pend.facts (Pend.newC (W := w3d6y4) (t := 24) rfl)
       try simp only [World.size_alloc] at o0 o1 o2 o3 f0 f1 f2 f3 oz
       go_simp
       refine HK8d6y4.out _ _ ⟨fun h => absurd h (by decide +kernel), ?_⟩
       clear HK8d6y4 K
       try simp only [Act.put, List.setIfInBounds_toArray, List.set_cons_zero, List.set_cons_succ]
       refine wpAnyN_one (i := 9) (o := ?o9d6y4) (by kernel_rfl) ?hi9d6y4 ?hw9d6y4 ?st9d6y4
       case hi9d6y4 => rw [List.getElem?_toArray]; exact rfl
       case hw9d6y4 => exact rfl
       intro K hK
       have HK9d6y4 : Hid _ := hK
       clear hK
       go_simp
       refine HK9d6y4.out _ _ ⟨fun h => absurd h (by decide +kernel), ?_⟩
       clear HK9d6y4 K
       try simp only [Act.put, List.setIfInBounds_toArray, List.set_cons_zero, List.set_cons_succ]
       refine wpAnyN_done (by kernel_rfl) ?_ _
       obtain ⟨wSd6y4, hwS⟩ : ∃ y, y = w3d6y4.alloc (.cells #[.int .u64 (limb m 0 : Nat), .int .u64 (limb m 1 : Nat), .int .u64 (limb m 2 : Nat), .int .u64 (limb m 3 : Nat)] 24) := ⟨_, rfl⟩
       have HSd6y4 : Hid (Own4 wSd6y4 (w3d6y4.heap.size) m ∧ Below w4.heap.size w4 wSd6y4) := by rw [hwS]; exact ⟨Own4.new' rfl, below_alloc0 H3d6y4.out _⟩
       rw [← hwS]
       clear hwS o0 o1 o2 o3 f0 f1 f2 f3 oz
       go_wp2_with fail
       go_meet
       exact ⟨_, rfl, rfl, HSd6y4.out.1, HSd6y4.out.2⟩
      case st7d6y2x3 =>
       intro K hK
       have HK7d6y5 : Hid _ := hK
       clear hK
       go_simp
       refine HK7d6y5.out _ _ ⟨fun _ => (below_alloc0 H0d6y2.out _), ?_⟩
       clear HK7d6y5 K
       try simp only [Act.put, List.setIfInBounds_toArray, List.set_cons_zero, List.set_cons_succ]
       refine wpAnyN_one (i := 3) (o := ?o3d6y5) (by kernel_rfl) ?hi3d6y5 ?hw3d6y5 ?st3d6y5
       case hi3d6y5 => rw [List.getElem?_toArray]; exact rfl
       case hw3d6y5 => exact rfl
       intro K hK
       have HK3d6y5 : Hid _ := hK
       clear hK
       go_simp
       refine (KM.out gq _ (by first | exact hFq | exact hFq.alloc)).mono ?_
       rintro e w3d6y5 ⟨rfl, hq⟩
       have H3d6y5 : Hid (Below w4.heap.size w4 w3d6y5) := below_call0 (below_alloc0 H0d6y2.out _) hq
       have P3d6y5 : Hid (Pend w3d6y5 (w0d6y2.heap.size)) := Pend.call (Pend.newC (W := w0d6y2) (t := 24) rfl) hq
       clear hq
       go_wp2_with fail
       refine HK3d6y5.out _ _ ⟨fun _ => H3d6y5.out, ?_⟩
       clear HK3d6y5 K
       try simp only [Act.put, List.setIfInBounds_toArray, List.set_cons_zero, List.set_cons_succ]
       refine wpAnyN_takeF (i := 4) (oi := ?o4d6y5) (v := ?v4d6y5) ?hi4d6y5 (by kernel_rfl) (by kernel_rfl) (by kernel_rfl) (by decide) ?hQ4d6y5 ?hy4d6y5 H3d6y5.out ?more4d6y5
       case hi4d6y5 => rw [List.getElem?_toArray]; exact rfl
       case hQ4d6y5 => exact fun _ _ _ h => h
       case hy4d6y5 =>
        refine Or.inl ⟨by rfl, ?_⟩
        intro w' hSw
        clear hSw
        go_simp
        try with_reducible rfl
       simp only [Act.put, List.setIfInBounds_toArray, List.set_cons_zero, List.set_cons_succ]
       refine wpAnyN_takeF (i := 5) (oi := ?o5d6y5) (v := ?v5d6y5) ?hi5d6y5 (by kernel_rfl) (by kernel_rfl) (by kernel_rfl) (by decide) ?hQ5d6y5 ?hy5d6y5 H3d6y5.out ?more5d6y5
       case hi5d6y5 => rw [List.getElem?_toArray]; exact rfl
       case hQ5d6y5 => exact fun _ _ _ h => h
       case hy5d6y5 =>
        refine Or.inl ⟨by rfl, ?_⟩
        intro w' hSw
        clear hSw
        go_simp
        try with_reducible rfl
       simp only [Act.put, List.setIfInBounds_toArray, List.set_cons_zero, List.set_cons_succ]
       refine wpAnyN_takeF (i := 6) (oi := ?o6d6y5) (v := ?v6d6y5) ?hi6d6y5 (by kernel_rfl) (by kernel_rfl) (by kernel_rfl) (by decide) ?hQ6d6y5 ?hy6d6y5 H3d6y5.out ?more6d6y5
       case hi6d6y5 => rw [List.getElem?_toArray]; exact rfl
       case hQ6d6y5 => exact fun _ _ _ h => h
       case hy6d6y5 =>
        refine Or.inl ⟨by rfl, ?_⟩
        intro w' hSw
        clear hSw
        go_simp
        try with_reducible rfl
       simp only [Act.put, List.setIfInBounds_toArray, List.set_cons_zero, List.set_cons_succ]
       refine wpAnyN_one (i := 8) (o := ?o8d6y5) (by kernel_rfl) ?hi8d6y5 ?hw8d6y5 ?st8d6y5
       case hi8d6y5 => rw [List.getElem?_toArray]; exact rfl
       case hw8d6y5 => exact rfl
       intro K hK
       have HK8d6y5 : Hid _ := hK
       clear hK
       obtain ⟨⟨o0, o1, o2, o3⟩, ⟨f0, f1, f2, f3⟩, oz⟩ := Pend.facts P3d6y5.out
       try simp only [World.size_alloc] at o0 o1 o2 o3 f0 f1 f2 f3 oz
       go_simp
       refine HK8d6y5.out _ _ ⟨fun h => absurd h (by decide +kernel), ?_⟩
       clear HK8d6y5 K
       try simp only [Act.put, List.setIfInBounds_toArray, List.set_cons_zero, List.set_cons_succ]
       refine wpAnyN_one (i := 9) (o := ?o9d6y5) (by kernel_rfl) ?hi9d6y5 ?hw9d6y5 ?st9d6y5
       case hi9d6y5 => rw [List.getElem?_toArray]; exact rfl
       case hw9d6y5 => exact rfl
       intro K hK
       have HK9d6y5 : Hid _ := hK
       clear hK
       go_simp
       refine HK9d6y5.out _ _ ⟨fun h => absurd h (by decide +kernel), ?_⟩
       clear HK9d6y5 K
       try simp only [Act.put, List.setIfInBounds_toArray, List.set_cons_zero, List.set_cons_succ]
       refine wpAnyN_done (by kernel_rfl) ?_ _
       obtain ⟨wSd6y5, hwS⟩ : ∃ y, y = ((((w3d6y5.setCell ⟨w0d6y2.heap.size, 0, none⟩ (.int .u64 (limb m 0 : Nat))).setCell ⟨w0d6y2.heap.size, 1, none⟩ (.int .u64 (limb m 1 : Nat))).setCell ⟨w0d6y2.heap.size, 2, none⟩ (.int .u64 (limb m 2 : Nat))).setCell ⟨w0d6y2.heap.size, 3, none⟩ (.int .u64 (limb m 3 : Nat))) := ⟨_, rfl⟩
       have HSd6y5 : Hid (Own4 wSd6y5 (w0d6y2.heap.size) m ∧ Below w4.heap.size w4 wSd6y5) := by rw [hwS]; exact ⟨Pend.own P3d6y5.out, Below.setCell (Below.setCell (Below.setCell (Below.setCell H3d6y5.out (Below.size H0d6y2.out) _) (Below.size H0d6y2.out) _) (Below.size H0d6y2.out) _) (Below.size H0d6y2.out) _⟩
       rw [← hwS]
       clear hwS o0 o1 o2 o3 f0 f1 f2 f3 oz
       go_wp2_with fail
       go_meet
       exact ⟨_, rfl, rfl, HSd6y5.out.1, HSd6y5.out.2⟩
     case st7d6x1 =>
      intro K hK
      have HK7d6y6 : Hid _ := hK
      clear hK
      go_simp
      refine HK7d6y6.out _ _ ⟨fun _ => (below_alloc0 (Below.drew (Below.refl _ _)) _), ?_⟩
      clear HK7d6y6 K
      try simp only [Act.put, List.setIfInBounds_toArray, List.set_cons_zero, List.set_cons_succ]
      refine wpAnyN_one (i := 0) (o := ?o0d6y6) (by kernel_rfl) ?hi0d6y6 ?hw0d6y6 ?st0d6y6
      case hi0d6y6 => rw [List.getElem?_toArray]; exact rfl
      case hw0d6y6 => exact rfl
      intro K hK
      have HK0d6y6 : Hid _ := hK
      clear hK
      go_simp
      refine (KS.out _ (N_4.out.call (below_alloc0 (Below.drew (Below.refl _ _)) _))).mono ?_
      rintro e w0d6y6 ⟨gq, rfl, hFq, hq⟩
      have H0d6y6 : Hid (Below w4.heap.size w4 w0d6y6) := below_call0 (below_alloc0 (Below.drew (Below.refl _ _)) _) hq
      have P0d6y6 : Hid (Pend w0d6y6 (w4.heap.size)) := Pend.call (Pend.newC (W := w4.drew) (t := 24) rfl) hq
      clear hq
      go_wp2_with fail
      refine HK0d6y6.out _ _ ⟨fun _ => H0d6y6.out, ?_⟩
      clear HK0d6y6 K
      try simp only [Act.put, List.setIfInBounds_toArray, List.set_cons_zero, List.set_cons_succ]
      refine wpAnyN_one (i := 3) (o := ?o3d6y6) (by kernel_rfl) ?hi3d6y6 ?hw3d6y6 ?st3d6y6
      case hi3d6y6 => rw [List.getElem?_toArray]; exact rfl
      case hw3d6y6 => exact rfl
      intro K hK
      have HK3d6y6 : Hid _ := hK
      clear hK
      go_simp
      refine (KM.out gq _ (by first | exact hFq | exact hFq.alloc)).mono ?_
      rintro e w3d6y6 ⟨rfl, hq⟩
      have H3d6y6 : Hid (Below w4.heap.size w4 w3d6y6) := below_call0 H0d6y6.out hq
      have P3d6y6 : Hid (Pend w3d6y6 (w4.heap.size)) := Pend.call P0d6y6.out hq
      clear hq
      go_wp2_with fail
      refine HK3d6y6.out _ _ ⟨fun _ => H3d6y6.out, ?_⟩
      clear HK3d6y6 K
      try simp only [Act.put, List.setIfInBounds_toArray, List.set_cons_zero, List.set_cons_succ]
      refine wpAnyN_takeF (i := 4) (oi := ?o4d6y6) (v := ?v4d6y6) ?hi4d6y6 (by kernel_rfl) (by kernel_rfl) (by kernel_rfl) (by decide) ?hQ4d6y6 ?hy4d6y6 H3d6y6.out ?more4d6y6
      case hi4d6y6 => rw [List.getElem?_toArray]; exact rfl
      case hQ4d6y6 => exact fun _ _ _ h => h
      case hy4d6y6 =>
       refine Or.inl ⟨by rfl, ?_⟩
       intro w' hSw
       clear hSw
       go_simp
       try with_reducible rfl
      simp only [Act.put, List.setIfInBounds_toArray, List.set_cons_zero, List.set_cons_succ]
      refine wpAnyN_takeF (i := 5) (oi := ?o5d6y6) (v := ?v5d6y6) ?hi5d6y6 (by kernel_rfl) (by kernel_rfl) (by kernel_rfl) (by decide) ?hQ5d6y6 ?hy5d6y6 H3d6y6.out ?more5d6y6
      case hi5d6y6 => rw [List.getElem?_toArray]; exact rfl
      case hQ5d6y6 => exact fun _ _ _ h => h
      case hy5d6y6 =>
       refine Or.inl ⟨by rfl, ?_⟩
       intro w' hSw
       clear hSw
       go_simp
       try with_reducible rfl
      simp only [Act.put, List.setIfInBounds_toArray, List.set_cons_zero, List.set_cons_succ]
      refine wpAnyN_takeF (i := 6) (oi := ?o6d6y6) (v := ?v6d6y6) ?hi6d6y6 (by kernel_rfl) (by kernel_rfl) (by kernel_rfl) (by decide) ?hQ6d6y6 ?hy6d6y6 H3d6y6.out ?more6d6y6
      case hi6d6y6 => rw [List.getElem?_toArray]; exact rfl
      case hQ6d6y6 => exact fun _ _ _ h => h
      case hy6d6y6 =>
       refine Or.inl ⟨by rfl, ?_⟩
       intro w' hSw
       clear hSw
       go_simp
       try with_reducible rfl
      simp only [Act.put, List.setIfInBounds_toArray, List.set_cons_zero, List.set_cons_succ]
      refine wpAnyN_one (i := 8) (o := ?o8d6y6) (by kernel_rfl) ?hi8d6y6 ?hw8d6y6 ?st8d6y6
      case hi8d6y6 => rw [List.getElem?_toArray]; exact rfl
      case hw8d6y6 => exact rfl
      intro K hK
      have HK8d6y6 : Hid _ := hK
      clear hK
      obtain ⟨⟨o0, o1, o2, o3⟩, ⟨f0, f1, f2, f3⟩, oz⟩ := Pend.facts P3d6y6.out
      try simp only [World.size_alloc] at o0 o1 o2 o3 f0 f1 f2 f3 oz
      go_simp
      refine HK8d6y6.out _ _ ⟨fun h => absurd h (by decide +kernel), ?_⟩
      clear HK8d6y6 K
      try simp only [Act.put, List.setIfInBounds_toArray, List.set_cons_zero, List.set_cons_succ]
      refine wpAnyN_one (i := 9) (o := ?o9d6y6) (by kernel_rfl) ?hi9d6y6 ?hw9d6y6 ?st9d6y6
      case hi9d6y6 => rw [List.getElem?_toArray]; exact rfl
      case hw9d6y6 => exact rfl
      intro K hK
      have HK9d6y6 : Hid _ := hK
      clear hK
      go_simp
      refine HK9d6y6.out _ _ ⟨fun h => absurd h (by decide +kernel), ?_⟩
      clear HK9d6y6 K
      try simp only [Act.put, List.setIfInBounds_toArray, List.set_cons_zero, List.set_cons_succ]
      refine wpAnyN_done (by kernel_rfl) ?_ _
      obtain ⟨wSd6y6, hwS⟩ : ∃ y, y = ((((w3d6y6.setCell ⟨w4.heap.size, 0, none⟩ (.int .u64 (limb m 0 : Nat))).setCell ⟨w4.heap.size, 1, none⟩ (.int .u64 (limb m 1 : Nat))).setCell ⟨w4.heap.size, 2, none⟩ (.int .u64 (limb m 2 : Nat))).setCell ⟨w4.heap.size, 3, none⟩ (.int .u64 (limb m 3 : Nat))) := ⟨_, rfl⟩
      have HSd6y6 : Hid (Own4 wSd6y6 (w4.heap.size) m ∧ Below w4.heap.size w4 wSd6y6) := by rw [hwS]; exact ⟨Pend.own P3d6y6.out, Below.setCell (Below.setCell (Below.setCell (Below.setCell H3d6y6.out (Nat.le_refl _) _) (Nat.le_refl _) _) (Nat.le_refl _) _) (Nat.le_refl _) _⟩
      rw [← hwS]
      clear hwS o0 o1 o2 o3 f0 f1 f2 f3 oz
      go_wp2_with fail
      go_meet
      exact ⟨_, rfl, rfl, HSd6y6.out.1, HSd6y6.out.2⟩
    case rest =>
     obtain ⟨bk11, rfl, rfl, hO, hB⟩ := hcut
     rename_i uB uC uD uE uF uG uH uI uJ uK uL uM uN uO uP uQ uR uS uT uU uV uW uX uY uZ va vb vc vd ve vf vg vh vi vj vk vl vm vn vo vp vq vr vs vt vu vv vw vx vy vz vA vB vC vD vE vF vG vH vI vJ vK vL vM vN vO vP vQ vR vS vT vU vV vW vX vY vZ za zb zc zd ze zf zg zh zi zj zk zl zm zn zo zp zq zr zs zt zu zv zw zx zy zz zA Kq4 hKq4
     clear uB uC uD uE uF uG uH uI uJ uK uL uM uN uO uP uQ uR uS uT uU uV uW uX uY uZ va vb vc vd ve vf vg vh vi vj vk vl vm vn vo vp vq vr vs vt vu vv vw vx vy vz vA vB vC vD vE vF vG vH vI vJ vK vL vM vN vO vP vQ vR vS vT vU vV vW vX vY vZ za zb zc zd ze zf zg zh zi zj zk zl zm zn zo zp zq zr zs zt zu zv zw zx zy zz zA
     have P0_5 : Hid (OwnC wc (w.heap.size) (numL x)) := OwnC.call P0_4.out hB
     have P1_5 : Hid (OwnC wc (w.heap.size + 1) (numL y)) := OwnC.call P1_4.out hB
     have P2_5 : Hid (OwnC wc (w.heap.size + 1 + 1) (ptL (pX a) (pY a) (pI a))) := OwnC.call P2_4.out hB
     have W_5 : Hid (Below w.heap.size w wc) := below_call0 W_4.out hB
     have G_5 : Hid (GlobP wc) := G_4.out.call hB
     have N_5 : Hid (GlobQ wc) := N_4.out.call hB
     have T_5 : Hid (GTH wc) := T_4.out.call hB
     have Q_5 : Hid (GG wc) := Q_4.out.call hB
     have V7_5 : Hid (OwnC wc bk7 (numL cx)) := OwnC.call V7_4.out hB
     have V8_5 : Hid (OwnC wc bk8 (numL cy)) := OwnC.call V8_4.out hB
     have V9_5 : Hid (Own4 wc bk9 s) := V9_4.out.call hB
     have V11_5 : Hid (Own4 wc bk11 m) := hO
     clear hB P0_4 P1_4 P2_4 W_4 G_4 N_4 T_4 Q_4 V7_4 V8_4 V9_4
     clear hO
     generalize wc = w5 at P0_5 P1_5 P2_5 W_5 G_5 N_5 T_5 Q_5 V7_5 V8_5 V9_5 V11_5 ⊢
     go_upto_region 7 with fail
     go_cut [13, 14] (fun vq13 vq14 wx => ∃ bk13, vq13 = .pointer (some ⟨bk13, 0, none⟩) ∧ vq14 = .int .i64 0 ∧ w5.heap.size ≤ bk13 ∧ OwnC wx bk13 (ptL (pX p1) (pY p1) (pI p1)) ∧ Below w5.heap.size w5 wx)
     case first =>
      obtain ⟨fP2z, fP20, fP21, fP22, fP23, fP24, fP25, fP26, fP27, fP28, fP2f⟩ := (P2_5.out).pt
      obtain ⟨fV7z, fV70, fV71, fV72, fV73, fV7f⟩ := (V7_5.out).num
      go_wp2_with fail
      clear fP2z fP20 fP21 fP22 fP23 fP24 fP25 fP26 fP27 fP28 fP2f fV7z fV70 fV71 fV72 fV73 fV7f
      refine (K4.out _ (G_5.out) (N_5.out) (T_5.out)).mono ?_
      rintro e wx0 ⟨rfl, hq0⟩
      go_wp2_with fail
      go_meet
      exact ⟨_, rfl, rfl, hq0.size, OwnC.new' rfl, below_alloc0 hq0 _⟩
     case rest =>
      obtain ⟨bk13, rfl, rfl, hle, hO, hB⟩ := hcut
      rename_i uB uC uD uE uF uG uH uI uJ uK uL uM uN uO uP uQ uR uS uT uU uV uW uX uY uZ va vb vc vd ve vf vg vh vi vj vk vl vm vn vo vp vq vr vs vt vu vv vw vx vy vz vA vB vC vD vE vF vG vH vI vJ vK vL vM vN vO vP vQ vR vS vT vU vV vW vX vY vZ za zb zc zd ze zf zg zh zi zj zk zl zm zn zo zp zq zr zs zt zu zv zw zx zy zz zA Kq5 hKq5
      clear uB uC uD uE uF uG uH uI uJ uK uL uM uN uO uP uQ uR uS uT uU uV uW uX uY uZ va vb vc vd ve vf vg vh vi vj vk vl vm vn vo vp vq vr vs vt vu vv vw vx vy vz vA vB vC vD vE vF vG vH vI vJ vK vL vM vN vO vP vQ vR vS vT vU vV vW vX vY vZ za zb zc zd ze zf zg zh zi zj zk zl zm zn zo zp zq zr zs zt zu zv zw zx zy zz zA
      have P0_6 : Hid (OwnC wc (w.heap.size) (numL x)) := OwnC.call P0_5.out hB
      have P1_6 : Hid (OwnC wc (w.heap.size + 1) (numL y)) := OwnC.call P1_5.out hB
      have P2_6 : Hid (OwnC wc (w.heap.size + 1 + 1) (ptL (pX a) (pY a) (pI a))) := OwnC.call P2_5.out hB
      have W_6 : Hid (Below w.heap.size w wc) := below_call0 W_5.out hB
      have G_6 : Hid (GlobP wc) := G_5.out.call hB
      have N_6 : Hid (GlobQ wc) := N_5.out.call hB
      have T_6 : Hid (GTH wc) := T_5.out.call hB
      have Q_6 : Hid (GG wc) := Q_5.out.call hB
      have V7_6 : Hid (OwnC wc bk7 (numL cx)) := OwnC.call V7_5.out hB
      have V8_6 : Hid (OwnC wc bk8 (numL cy)) := OwnC.call V8_5.out hB
      have V9_6 : Hid (Own4 wc bk9 s) := V9_5.out.call hB
      have V11_6 : Hid (Own4 wc bk11 m) := V11_5.out.call hB
      have V13_6 : Hid (OwnC wc bk13 (ptL (pX p1) (pY p1) (pI p1))) := hO
      clear hB P0_5 P1_5 P2_5 W_5 G_5 N_5 T_5 Q_5 V7_5 V8_5 V9_5 V11_5
      clear hO hle
      generalize wc = w6 at P0_6 P1_6 P2_6 W_6 G_6 N_6 T_6 Q_6 V7_6 V8_6 V9_6 V11_6 V13_6 ⊢
      go_upto_region 8 with fail
      go_cut [15, 16] (fun vq15 vq16 wx => ∃ bk15, vq15 = .pointer (some ⟨bk15, 0, none⟩) ∧ vq16 = .int .i64 0 ∧ w6.heap.size ≤ bk15 ∧ OwnC wx bk15 (ptL (pX p2) (pY p2) (pI p2)) ∧ Below w6.heap.size w6 wx)
      case first =>
       obtain ⟨fP2z, fP20, fP21, fP22, fP23, fP24, fP25, fP26, fP27, fP28, fP2f⟩ := (P2_6.out).pt
       obtain ⟨fV8z, fV80, fV81, fV82, fV83, fV8f⟩ := (V8_6.out).num
       go_wp2_with fail
       clear fP2z fP20 fP21 fP22 fP23 fP24 fP25 fP26 fP27 fP28 fP2f fV8z fV80 fV81 fV82 fV83 fV8f
       refine (K5.out _ (G_6.out) (N_6.out) (T_6.out)).mono ?_
       rintro e wx0 ⟨rfl, hq0⟩
       go_wp2_with fail
       go_meet
       exact ⟨_, rfl, rfl, hq0.size, OwnC.new' rfl, below_alloc0 hq0 _⟩
      case rest =>
       obtain ⟨bk15, rfl, rfl, hle, hO, hB⟩ := hcut
       rename_i uB uC uD uE uF uG uH uI uJ uK uL uM uN uO uP uQ uR uS uT uU uV uW uX uY uZ va vb vc vd ve vf vg vh vi vj vk vl vm vn vo vp vq vr vs vt vu vv vw vx vy vz vA vB vC vD vE vF vG vH vI vJ vK vL vM vN vO vP vQ vR vS vT vU vV vW vX vY vZ za zb zc zd ze zf zg zh zi zj zk zl zm zn zo zp zq zr zs zt zu zv zw zx zy zz zA Kq6 hKq6
       clear uB uC uD uE uF uG uH uI uJ uK uL uM uN uO uP uQ uR uS uT uU uV uW uX uY uZ va vb vc vd ve vf vg vh vi vj vk vl vm vn vo vp vq vr vs vt vu vv vw vx vy vz vA vB vC vD vE vF vG vH vI vJ vK vL vM vN vO vP vQ vR vS vT vU vV vW vX vY vZ za zb zc zd ze zf zg zh zi zj zk zl zm zn zo zp zq zr zs zt zu zv zw zx zy zz zA
       have P0_7 : Hid (OwnC wc (w.heap.size) (numL x)) := OwnC.call P0_6.out hB
       have P1_7 : Hid (OwnC wc (w.heap.size + 1) (numL y)) := OwnC.call P1_6.out hB
       have P2_7 : Hid (OwnC wc (w.heap.size + 1 + 1) (ptL (pX a) (pY a) (pI a))) := OwnC.call P2_6.out hB
       have W_7 : Hid (Below w.heap.size w wc) := below_call0 W_6.out hB
       have G_7 : Hid (GlobP wc) := G_6.out.call hB
       have N_7 : Hid (GlobQ wc) := N_6.out.call hB
       have T_7 : Hid (GTH wc) := T_6.out.call hB
       have Q_7 : Hid (GG wc) := Q_6.out.call hB
       have V7_7 : Hid (OwnC wc bk7 (numL cx)) := OwnC.call V7_6.out hB
       have V8_7 : Hid (OwnC wc bk8 (numL cy)) := OwnC.call V8_6.out hB
       have V9_7 : Hid (Own4 wc bk9 s) := V9_6.out.call hB
       have V11_7 : Hid (Own4 wc bk11 m) := V11_6.out.call hB
       have V13_7 : Hid (OwnC wc bk13 (ptL (pX p1) (pY p1) (pI p1))) := OwnC.call V13_6.out hB
       have V15_7 : Hid (OwnC wc bk15 (ptL (pX p2) (pY p2) (pI p2))) := hO
       clear hB P0_6 P1_6 P2_6 W_6 G_6 N_6 T_6 Q_6 V7_6 V8_6 V9_6 V11_6 V13_6
       clear hO hle
       generalize wc = w7 at P0_7 P1_7 P2_7 W_7 G_7 N_7 T_7 Q_7 V7_7 V8_7 V9_7 V11_7 V13_7 V15_7 ⊢
       go_upto_region 9 with fail
       go_cut [17, 18] (fun vq17 vq18 wx => ∃ bk17, vq17 = .pointer (some ⟨bk17, 0, none⟩) ∧ vq18 = .int .i64 0 ∧ w7.heap.size ≤ bk17 ∧ OwnC wx bk17 (ptL (pX p3) (pY p3) (pI p3)) ∧ Below w7.heap.size w7 wx)
       case first =>
        obtain ⟨fP2z, fP20, fP21, fP22, fP23, fP24, fP25, fP26, fP27, fP28, fP2f⟩ := (P2_7.out).pt
        obtain ⟨⟨fV90, fV91, fV92, fV93⟩, -, fV9z⟩ := (V9_7.out).facts
        go_wp2_with fail
        clear fP2z fP20 fP21 fP22 fP23 fP24 fP25 fP26 fP27 fP28 fP2f fV90 fV91 fV92 fV93 fV9z
        refine (K6.out _ (G_7.out) (N_7.out) (T_7.out)).mono ?_
        rintro e wx0 ⟨rfl, hq0⟩
        go_wp2_with fail
        go_meet
        exact ⟨_, rfl, rfl, hq0.size, OwnC.new' rfl, below_alloc0 hq0 _⟩
       case rest =>
        obtain ⟨bk17, rfl, rfl, hle, hO, hB⟩ := hcut
        rename_i uB uC uD uE uF uG uH uI uJ uK uL uM uN uO uP uQ uR uS uT uU uV uW uX uY uZ va vb vc vd ve vf vg vh vi vj vk vl vm vn vo vp vq vr vs vt vu vv vw vx vy vz vA vB vC vD vE vF vG vH vI vJ vK vL vM vN vO vP vQ vR vS vT vU vV vW vX vY vZ za zb zc zd ze zf zg zh zi zj zk zl zm zn zo zp zq zr zs zt zu zv zw zx zy zz zA Kq7 hKq7
        clear uB uC uD uE uF uG uH uI uJ uK uL uM uN uO uP uQ uR uS uT uU uV uW uX uY uZ va vb vc vd ve vf vg vh vi vj vk vl vm vn vo vp vq vr vs vt vu vv vw vx vy vz vA vB vC vD vE vF vG vH vI vJ vK vL vM vN vO vP vQ vR vS vT vU vV vW vX vY vZ za zb zc zd ze zf zg zh zi zj zk zl zm zn zo zp zq zr zs zt zu zv zw zx zy zz zA
        have P0_8 : Hid (OwnC wc (w.heap.size) (numL x)) := OwnC.call P0_7.out hB
        have P1_8 : Hid (OwnC wc (w.heap.size + 1) (numL y)) := OwnC.call P1_7.out hB
        have P2_8 : Hid (OwnC wc (w.heap.size + 1 + 1) (ptL (pX a) (pY a) (pI a))) := OwnC.call P2_7.out hB
        have W_8 : Hid (Below w.heap.size w wc) := below_call0 W_7.out hB
        have G_8 : Hid (GlobP wc) := G_7.out.call hB
        have N_8 : Hid (GlobQ wc) := N_7.out.call hB
        have T_8 : Hid (GTH wc) := T_7.out.call hB
        have Q_8 : Hid (GG wc) := Q_7.out.call hB
        have V7_8 : Hid (OwnC wc bk7 (numL cx)) := OwnC.call V7_7.out hB
        have V8_8 : Hid (OwnC wc bk8 (numL cy)) := OwnC.call V8_7.out hB
        have V9_8 : Hid (Own4 wc bk9 s) := V9_7.out.call hB
        have V11_8 : Hid (Own4 wc bk11 m) := V11_7.out.call hB
        have V13_8 : Hid (OwnC wc bk13 (ptL (pX p1) (pY p1) (pI p1))) := OwnC.call V13_7.out hB
        have V15_8 : Hid (OwnC wc bk15 (ptL (pX p2) (pY p2) (pI p2))) := OwnC.call V15_7.out hB
        have V17_8 : Hid (OwnC wc bk17 (ptL (pX p3) (pY p3) (pI p3))) := hO
        clear hB P0_7 P1_7 P2_7 W_7 G_7 N_7 T_7 Q_7 V7_7 V8_7 V9_7 V11_7 V13_7 V15_7
        clear hO hle
        generalize wc = w8 at P0_8 P1_8 P2_8 W_8 G_8 N_8 T_8 Q_8 V7_8 V8_8 V9_8 V11_8 V13_8 V15_8 V17_8 ⊢
        go_upto_region 10 with fail
        go_cut [19, 20] (fun vq19 vq20 wx => ∃ bk19, vq19 = .pointer (some ⟨bk19, 0, none⟩) ∧ vq20 = .int .i64 0 ∧ w8.heap.size ≤ bk19 ∧ OwnC wx bk19 (ptL (pX p3) (pY p3) (pI p3)) ∧ Below w8.heap.size w8 wx)
        case first =>
         obtain ⟨fV13z, fV130, fV131, fV132, fV133, fV134, fV135, fV136, fV137, fV138, fV13f⟩ := (V13_8.out).pt
         obtain ⟨fV15z, fV150, fV151, fV152, fV153, fV154, fV155, fV156, fV157, fV158, fV15f⟩ := (V15_8.out).pt
         go_wp2_with fail
         clear fV13z fV130 fV131 fV132 fV133 fV134 fV135 fV136 fV137 fV138 fV13f fV15z fV150 fV151 fV152 fV153 fV154 fV155 fV156 fV157 fV158 fV15f
         refine (K7.out _ (G_8.out) (T_8.out)).mono ?_
         rintro e wx0 ⟨rfl, hq0⟩
         go_wp2_with fail
         go_meet
         exact ⟨_, rfl, rfl, hq0.size, OwnC.new' rfl, below_alloc0 hq0 _⟩
        case rest =>
         obtain ⟨bk19, rfl, rfl, hle, hO, hB⟩ := hcut
         rename_i uB uC uD uE uF uG uH uI uJ uK uL uM uN uO uP uQ uR uS uT uU uV uW uX uY uZ va vb vc vd ve vf vg vh vi vj vk vl vm vn vo vp vq vr vs vt vu vv vw vx vy vz vA vB vC vD vE vF vG vH vI vJ vK vL vM vN vO vP vQ vR vS vT vU vV vW vX vY vZ za zb zc zd ze zf zg zh zi zj zk zl zm zn zo zp zq zr zs zt zu zv zw zx zy zz zA Kq8 hKq8
         clear uB uC uD uE uF uG uH uI uJ uK uL uM uN uO uP uQ uR uS uT uU uV uW uX uY uZ va vb vc vd ve vf vg vh vi vj vk vl vm vn vo vp vq vr vs vt vu vv vw vx vy vz vA vB vC vD vE vF vG vH vI vJ vK vL vM vN vO vP vQ vR vS vT vU vV vW vX vY vZ za zb zc zd ze zf zg zh zi zj zk zl zm zn zo zp zq zr zs zt zu zv zw zx zy zz zA
         have P0_9 : Hid (OwnC wc (w.heap.size) (numL x)) := OwnC.call P0_8.out hB
         have P1_9 : Hid (OwnC wc (w.heap.size + 1) (numL y)) := OwnC.call P1_8.out hB
         have P2_9 : Hid (OwnC wc (w.heap.size + 1 + 1) (ptL (pX a) (pY a) (pI a))) := OwnC.call P2_8.out hB
         have W_9 : Hid (Below w.heap.size w wc) := below_call0 W_8.out hB
         have G_9 : Hid (GlobP wc) := G_8.out.call hB
         have N_9 : Hid (GlobQ wc) := N_8.out.call hB
         have T_9 : Hid (GTH wc) := T_8.out.call hB
         have Q_9 : Hid (GG wc) := Q_8.out.call hB
         have V7_9 : Hid (OwnC wc bk7 (numL cx)) := OwnC.call V7_8.out hB
         have V8_9 : Hid (OwnC wc bk8 (numL cy)) := OwnC.call V8_8.out hB
         have V9_9 : Hid (Own4 wc bk9 s) := V9_8.out.call hB
         have V11_9 : Hid (Own4 wc bk11 m) := V11_8.out.call hB
         have V13_9 : Hid (OwnC wc bk13 (ptL (pX p1) (pY p1) (pI p1))) := OwnC.call V13_8.out hB
         have V15_9 : Hid (OwnC wc bk15 (ptL (pX p2) (pY p2) (pI p2))) := OwnC.call V15_8.out hB
         have V17_9 : Hid (OwnC wc bk17 (ptL (pX p3) (pY p3) (pI p3))) := OwnC.call V17_8.out hB
         have V19_9 : Hid (OwnC wc bk19 (ptL (pX p3) (pY p3) (pI p3))) := hO
         clear hB P0_8 P1_8 P2_8 W_8 G_8 N_8 T_8 Q_8 V7_8 V8_8 V9_8 V11_8 V13_8 V15_8 V17_8
         clear hO hle
         generalize wc = w9 at P0_9 P1_9 P2_9 W_9 G_9 N_9 T_9 Q_9 V7_9 V8_9 V9_9 V11_9 V13_9 V15_9 V17_9 V19_9 ⊢
         go_upto_region 11 with fail
         go_cut [21, 22] (fun vq21 vq22 wx => ∃ bk21, vq21 = .pointer (some ⟨bk21, 0, none⟩) ∧ vq22 = .int .i64 0 ∧ w9.heap.size ≤ bk21 ∧ OwnC wx bk21 (ptL (pX p4) (pY p4) (pI p4)) ∧ Below w9.heap.size w9 wx)
         case first =>
          obtain ⟨fP2z, fP20, fP21, fP22, fP23, fP24, fP25, fP26, fP27, fP28, fP2f⟩ := (P2_9.out).pt
          obtain ⟨⟨fV110, fV111, fV112, fV113⟩, -, fV11z⟩ := (V11_9.out).facts
          go_wp2_with fail
          clear fP2z fP20 fP21 fP22 fP23 fP24 fP25 fP26 fP27 fP28 fP2f fV110 fV111 fV112 fV113 fV11z
          refine (K8.out _ (G_9.out) (N_9.out) (T_9.out)).mono ?_
          rintro e wx0 ⟨rfl, hq0⟩
          go_wp2_with fail
          go_meet
          exact ⟨_, rfl, rfl, hq0.size, OwnC.new' rfl, below_alloc0 hq0 _⟩
         case rest =>
          obtain ⟨bk21, rfl, rfl, hle, hO, hB⟩ := hcut
          rename_i uB uC uD uE uF uG uH uI uJ uK uL uM uN uO uP uQ uR uS uT uU uV uW uX uY uZ va vb vc vd ve vf vg vh vi vj vk vl vm vn vo vp vq vr vs vt vu vv vw vx vy vz vA vB vC vD vE vF vG vH vI vJ vK vL vM vN vO vP vQ vR vS vT vU vV vW vX vY vZ za zb zc zd ze zf zg zh zi zj zk zl zm zn zo zp zq zr zs zt zu zv zw zx zy zz zA Kq9 hKq9
          clear uB uC uD uE uF uG uH uI uJ uK uL uM uN uO uP uQ uR uS uT uU uV uW uX uY uZ va vb vc vd ve vf vg vh vi vj vk vl vm vn vo vp vq vr vs vt vu vv vw vx vy vz vA vB vC vD vE vF vG vH vI vJ vK vL vM vN vO vP vQ vR vS vT vU vV vW vX vY vZ za zb zc zd ze zf zg zh zi zj zk zl zm zn zo zp zq zr zs zt zu zv zw zx zy zz zA
          have P0_10 : Hid (OwnC wc (w.heap.size) (numL x)) := OwnC.call P0_9.out hB
          have P1_10 : Hid (OwnC wc (w.heap.size + 1) (numL y)) := OwnC.call P1_9.out hB
          have P2_10 : Hid (OwnC wc (w.heap.size + 1 + 1) (ptL (pX a) (pY a) (pI a))) := OwnC.call P2_9.out hB
          have W_10 : Hid (Below w.heap.size w wc) := below_call0 W_9.out hB
          have G_10 : Hid (GlobP wc) := G_9.out.call hB
          have N_10 : Hid (GlobQ wc) := N_9.out.call hB
          have T_10 : Hid (GTH wc) := T_9.out.call hB
          have Q_10 : Hid (GG wc) := Q_9.out.call hB
          have V7_10 : Hid (OwnC wc bk7 (numL cx)) := OwnC.call V7_9.out hB
          have V8_10 : Hid (OwnC wc bk8 (numL cy)) := OwnC.call V8_9.out hB
          have V9_10 : Hid (Own4 wc bk9 s) := V9_9.out.call hB
          have V11_10 : Hid (Own4 wc bk11 m) := V11_9.out.call hB
          have V13_10 : Hid (OwnC wc bk13 (ptL (pX p1) (pY p1) (pI p1))) := OwnC.call V13_9.out hB
          have V15_10 : Hid (OwnC wc bk15 (ptL (pX p2) (pY p2) (pI p2))) := OwnC.call V15_9.out hB
          have V17_10 : Hid (OwnC wc bk17 (ptL (pX p3) (pY p3) (pI p3))) := OwnC.call V17_9.out hB
          have V19_10 : Hid (OwnC wc bk19 (ptL (pX p3) (pY p3) (pI p3))) := OwnC.call V19_9.out hB
          have V21_10 : Hid (OwnC wc bk21 (ptL (pX p4) (pY p4) (pI p4))) := hO
          clear hB P0_9 P1_9 P2_9 W_9 G_9 N_9 T_9 Q_9 V7_9 V8_9 V9_9 V11_9 V13_9 V15_9 V17_9 V19_9
          clear hO hle
          generalize wc = w10 at P0_10 P1_10 P2_10 W_10 G_10 N_10 T_10 Q_10 V7_10 V8_10 V9_10 V11_10 V13_10 V15_10 V17_10 V19_10 V21_10 ⊢
          go_upto_region 12 with fail
          go_cut [23, 24] (fun vq23 vq24 wx => ∃ bk23, vq23 = .pointer (some ⟨bk23, 0, none⟩) ∧ vq24 = .int .i64 0 ∧ w10.heap.size ≤ bk23 ∧ OwnC wx bk23 (ptL (pX p4) (pY p4) (pI p4)) ∧ Below w10.heap.size w10 wx)
          case first =>
           obtain ⟨fV15z, fV150, fV151, fV152, fV153, fV154, fV155, fV156, fV157, fV158, fV15f⟩ := (V15_10.out).pt
           obtain ⟨fV7z, fV70, fV71, fV72, fV73, fV7f⟩ := (V7_10.out).num
           go_wp2_with fail
           clear fV15z fV150 fV151 fV152 fV153 fV154 fV155 fV156 fV157 fV158 fV15f fV7z fV70 fV71 fV72 fV73 fV7f
           refine (K9.out _ (G_10.out) (N_10.out) (T_10.out)).mono ?_
           rintro e wx0 ⟨rfl, hq0⟩
           go_wp2_with fail
           go_meet
           exact ⟨_, rfl, rfl, hq0.size, OwnC.new' rfl, below_alloc0 hq0 _⟩
          case rest =>
           obtain ⟨bk23, rfl, rfl, hle, hO, hB⟩ := hcut
           rename_i uB uC uD uE uF uG uH uI uJ uK uL uM uN uO uP uQ uR uS uT uU uV uW uX uY uZ va vb vc vd ve vf vg vh vi vj vk vl vm vn vo vp vq vr vs vt vu vv vw vx vy vz vA vB vC vD vE vF vG vH vI vJ vK vL vM vN vO vP vQ vR vS vT vU vV vW vX vY vZ za zb zc zd ze zf zg zh zi zj zk zl zm zn zo zp zq zr zs zt zu zv zw zx zy zz zA Kq10 hKq10
           clear uB uC uD uE uF uG uH uI uJ uK uL uM uN uO uP uQ uR uS uT uU uV uW uX uY uZ va vb vc vd ve vf vg vh vi vj vk vl vm vn vo vp vq vr vs vt vu vv vw vx vy vz vA vB vC vD vE vF vG vH vI vJ vK vL vM vN vO vP vQ vR vS vT vU vV vW vX vY vZ za zb zc zd ze zf zg zh zi zj zk zl zm zn zo zp zq zr zs zt zu zv zw zx zy zz zA
           have P0_11 : Hid (OwnC wc (w.heap.size) (numL x)) := OwnC.call P0_10.out hB
           have P1_11 : Hid (OwnC wc (w.heap.size + 1) (numL y)) := OwnC.call P1_10.out hB
           have P2_11 : Hid (OwnC wc (w.heap.size + 1 + 1) (ptL (pX a) (pY a) (pI a))) := OwnC.call P2_10.out hB
           have W_11 : Hid (Below w.heap.size w wc) := below_call0 W_10.out hB
           have G_11 : Hid (GlobP wc) := G_10.out.call hB
           have N_11 : Hid (GlobQ wc) := N_10.out.call hB
           have T_11 : Hid (GTH wc) := T_10.out.call hB
           have Q_11 : Hid (GG wc) := Q_10.out.call hB
           have V7_11 : Hid (OwnC wc bk7 (numL cx)) := OwnC.call V7_10.out hB
           have V8_11 : Hid (OwnC wc bk8 (numL cy)) := OwnC.call V8_10.out hB
           have V9_11 : Hid (Own4 wc bk9 s) := V9_10.out.call hB
           have V11_11 : Hid (Own4 wc bk11 m) := V11_10.out.call hB
           have V13_11 : Hid (OwnC wc bk13 (ptL (pX p1) (pY p1) (pI p1))) := OwnC.call V13_10.out hB
           have V15_11 : Hid (OwnC wc bk15 (ptL (pX p2) (pY p2) (pI p2))) := OwnC.call V15_10.out hB
           have V17_11 : Hid (OwnC wc bk17 (ptL (pX p3) (pY p3) (pI p3))) := OwnC.call V17_10.out hB
           have V19_11 : Hid (OwnC wc bk19 (ptL (pX p3) (pY p3) (pI p3))) := OwnC.call V19_10.out hB
           have V21_11 : Hid (OwnC wc bk21 (ptL (pX p4) (pY p4) (pI p4))) := OwnC.call V21_10.out hB
           have V23_11 : Hid (OwnC wc bk23 (ptL (pX p4) (pY p4) (pI p4))) := hO
           clear hB P0_10 P1_10 P2_10 W_10 G_10 N_10 T_10 Q_10 V7_10 V8_10 V9_10 V11_10 V13_10 V15_10 V17_10 V19_10 V21_10
           clear hO hle
           generalize wc = w11 at P0_11 P1_11 P2_11 W_11 G_11 N_11 T_11 Q_11 V7_11 V8_11 V9_11 V11_11 V13_11 V15_11 V17_11 V19_11 V21_11 V23_11 ⊢
           go_upto_region 13 with fail
           go_cut [25, 26] (fun vq25 vq26 wx => ∃ bk25, vq25 = .pointer (some ⟨bk25, 0, none⟩) ∧ vq26 = .int .i64 0 ∧ w11.heap.size ≤ bk25 ∧ OwnC wx bk25 (ptL (pX p3) (pY p3) (pI p3)) ∧ Below w11.heap.size w11 wx)
           case first =>
            obtain ⟨fP2z, fP20, fP21, fP22, fP23, fP24, fP25, fP26, fP27, fP28, fP2f⟩ := (P2_11.out).pt
            obtain ⟨fV7z, fV70, fV71, fV72, fV73, fV7f⟩ := (V7_11.out).num
            obtain ⟨fV8z, fV80, fV81, fV82, fV83, fV8f⟩ := (V8_11.out).num
            go_wp2_with fail
            clear fP2z fP20 fP21 fP22 fP23 fP24 fP25 fP26 fP27 fP28 fP2f fV7z fV70 fV71 fV72 fV73 fV7f fV8z fV80 fV81 fV82 fV83 fV8f
            refine (K10.out _ _ _ (G_11.out.call (below_alloc0 (below_alloc0 (Below.refl _ _) _) _)) (N_11.out.call (below_alloc0 (below_alloc0 (Below.refl _ _) _) _)) (T_11.out.call (below_alloc0 (below_alloc0 (Below.refl _ _) _) _)) (NumsAt.two _ _ _ _).alloc (PntsAt.two _ _ _ _ (by rw [World.size_alloc]))).mono ?_
            rintro e wx0 ⟨rfl, hq0'⟩
            have hq0 : Below w11.heap.size w11 wx0 := below_call0 (below_alloc0 (below_alloc0 (Below.refl _ _) _) _) hq0'
            clear hq0'
            go_wp2_with fail
            go_meet
            exact ⟨_, rfl, rfl, hq0.size, OwnC.new' rfl, below_alloc0 hq0 _⟩
           case rest =>
            obtain ⟨bk25, rfl, rfl, hle, hO, hB⟩ := hcut
            rename_i uB uC uD uE uF uG uH uI uJ uK uL uM uN uO uP uQ uR uS uT uU uV uW uX uY uZ va vb vc vd ve vf vg vh vi vj vk vl vm vn vo vp vq vr vs vt vu vv vw vx vy vz vA vB vC vD vE vF vG vH vI vJ vK vL vM vN vO vP vQ vR vS vT vU vV vW vX vY vZ za zb zc zd ze zf zg zh zi zj zk zl zm zn zo zp zq zr zs zt zu zv zw zx zy zz zA Kq11 hKq11
            clear uB uC uD uE uF uG uH uI uJ uK uL uM uN uO uP uQ uR uS uT uU uV uW uX uY uZ va vb vc vd ve vf vg vh vi vj vk vl vm vn vo vp vq vr vs vt vu vv vw vx vy vz vA vB vC vD vE vF vG vH vI vJ vK vL vM vN vO vP vQ vR vS vT vU vV vW vX vY vZ za zb zc zd ze zf zg zh zi zj zk zl zm zn zo zp zq zr zs zt zu zv zw zx zy zz zA
            have P0_12 : Hid (OwnC wc (w.heap.size) (numL x)) := OwnC.call P0_11.out hB
            have P1_12 : Hid (OwnC wc (w.heap.size + 1) (numL y)) := OwnC.call P1_11.out hB
            have P2_12 : Hid (OwnC wc (w.heap.size + 1 + 1) (ptL (pX a) (pY a) (pI a))) := OwnC.call P2_11.out hB
            have W_12 : Hid (Below w.heap.size w wc) := below_call0 W_11.out hB
            have G_12 : Hid (GlobP wc) := G_11.out.call hB
            have N_12 : Hid (GlobQ wc) := N_11.out.call hB
            have T_12 : Hid (GTH wc) := T_11.out.call hB
            have Q_12 : Hid (GG wc) := Q_11.out.call hB
            have V7_12 : Hid (OwnC wc bk7 (numL cx)) := OwnC.call V7_11.out hB
            have V8_12 : Hid (OwnC wc bk8 (numL cy)) := OwnC.call V8_11.out hB
            have V9_12 : Hid (Own4 wc bk9 s) := V9_11.out.call hB
            have V11_12 : Hid (Own4 wc bk11 m) := V11_11.out.call hB
            have V13_12 : Hid (OwnC wc bk13 (ptL (pX p1) (pY p1) (pI p1))) := OwnC.call V13_11.out hB
            have V15_12 : Hid (OwnC wc bk15 (ptL (pX p2) (pY p2) (pI p2))) := OwnC.call V15_11.out hB
            have V17_12 : Hid (OwnC wc bk17 (ptL (pX p3) (pY p3) (pI p3))) := OwnC.call V17_11.out hB
            have V19_12 : Hid (OwnC wc bk19 (ptL (pX p3) (pY p3) (pI p3))) := OwnC.call V19_11.out hB
            have V21_12 : Hid (OwnC wc bk21 (ptL (pX p4) (pY p4) (pI p4))) := OwnC.call V21_11.out hB
            have V23_12 : Hid (OwnC wc bk23 (ptL (pX p4) (pY p4) (pI p4))) := OwnC.call V23_11.out hB
            have V25_12 : Hid (OwnC wc bk25 (ptL (pX p3) (pY p3) (pI p3))) := hO
            clear hB P0_11 P1_11 P2_11 W_11 G_11 N_11 T_11 Q_11 V7_11 V8_11 V9_11 V11_11 V13_11 V15_11 V17_11 V19_11 V21_11 V23_11
            clear hO hle
            generalize wc = w12 at P0_12 P1_12 P2_12 W_12 G_12 N_12 T_12 Q_12 V7_12 V8_12 V9_12 V11_12 V13_12 V15_12 V17_12 V19_12 V21_12 V23_12 V25_12 ⊢
            go_upto_region 14 with fail
            obtain ⟨fV17z, fV170, fV171, fV172, fV173, fV174, fV175, fV176, fV177, fV178, fV17f⟩ := (V17_12.out).pt
            obtain ⟨fV19z, fV190, fV191, fV192, fV193, fV194, fV195, fV196, fV197, fV198, fV19f⟩ := (V19_12.out).pt
            obtain ⟨fV21z, fV210, fV211, fV212, fV213, fV214, fV215, fV216, fV217, fV218, fV21f⟩ := (V21_12.out).pt
            obtain ⟨fV23z, fV230, fV231, fV232, fV233, fV234, fV235, fV236, fV237, fV238, fV23f⟩ := (V23_12.out).pt
            obtain ⟨fV25z, fV250, fV251, fV252, fV253, fV254, fV255, fV256, fV257, fV258, fV25f⟩ := (V25_12.out).pt
            go_wp2_with fail
            clear fV17z fV170 fV171 fV172 fV173 fV174 fV175 fV176 fV177 fV178 fV17f fV19z fV190 fV191 fV192 fV193 fV194 fV195 fV196 fV197 fV198 fV19f fV21z fV210 fV211 fV212 fV213 fV214 fV215 fV216 fV217 fV218 fV21f fV23z fV230 fV231 fV232 fV233 fV234 fV235 fV236 fV237 fV238 fV23f fV25z fV250 fV251 fV252 fV253 fV254 fV255 fV256 fV257 fV258 fV25f
            refine (K11.out _ (G_12.out) (T_12.out) (Q_12.out)).mono ?_
            rintro e w13 ⟨rfl, hq⟩
            have P0_13 : Hid (OwnC w13 (w.heap.size) (numL x)) := OwnC.call P0_12.out hq
            have P1_13 : Hid (OwnC w13 (w.heap.size + 1) (numL y)) := OwnC.call P1_12.out hq
            have P2_13 : Hid (OwnC w13 (w.heap.size + 1 + 1) (ptL (pX a) (pY a) (pI a))) := OwnC.call P2_12.out hq
            have W_13 : Hid (Below w.heap.size w w13) := below_call0 W_12.out hq
            have G_13 : Hid (GlobP w13) := G_12.out.call hq
            have N_13 : Hid (GlobQ w13) := N_12.out.call hq
            have T_13 : Hid (GTH w13) := T_12.out.call hq
            have Q_13 : Hid (GG w13) := Q_12.out.call hq
            have V7_13 : Hid (OwnC w13 bk7 (numL cx)) := OwnC.call V7_12.out hq
            have V8_13 : Hid (OwnC w13 bk8 (numL cy)) := OwnC.call V8_12.out hq
            have V9_13 : Hid (Own4 w13 bk9 s) := V9_12.out.call hq
            have V11_13 : Hid (Own4 w13 bk11 m) := V11_12.out.call hq
            have V13_13 : Hid (OwnC w13 bk13 (ptL (pX p1) (pY p1) (pI p1))) := OwnC.call V13_12.out hq
            have V15_13 : Hid (OwnC w13 bk15 (ptL (pX p2) (pY p2) (pI p2))) := OwnC.call V15_12.out hq
            have V17_13 : Hid (OwnC w13 bk17 (ptL (pX p3) (pY p3) (pI p3))) := OwnC.call V17_12.out hq
            have V19_13 : Hid (OwnC w13 bk19 (ptL (pX p3) (pY p3) (pI p3))) := OwnC.call V19_12.out hq
            have V21_13 : Hid (OwnC w13 bk21 (ptL (pX p4) (pY p4) (pI p4))) := OwnC.call V21_12.out hq
            have V23_13 : Hid (OwnC w13 bk23 (ptL (pX p4) (pY p4) (pI p4))) := OwnC.call V23_12.out hq
            have V25_13 : Hid (OwnC w13 bk25 (ptL (pX p3) (pY p3) (pI p3))) := OwnC.call V25_12.out hq
            clear hq P0_12 P1_12 P2_12 W_12 G_12 N_12 T_12 Q_12 V7_12 V8_12 V9_12 V11_12 V13_12 V15_12 V17_12 V19_12 V21_12 V23_12 V25_12
            go_wp2_with fail
            go_ret
            exact ⟨rfl, W_13.out⟩
theorem linear_any (x y u v : Nat) (j : Bool) (hx : x < R256) (hy : y < R256) (hU : u < R256) (hV : v < R256) (w : World) (hG : GlobP w) (hN : GlobQ w) (hT : GTH w) (hQ : GG w) : Calls Tryd.prog 8 #[.agg #[.int .u64 (limb (x) 0 : Nat), .int .u64 (limb (x) 1 : Nat), .int .u64 (limb (x) 2 : Nat), .int .u64 (limb (x) 3 : Nat)], .agg #[.int .u64 (limb (y) 0 : Nat), .int .u64 (limb (y) 1 : Nat), .int .u64 (limb (y) 2 : Nat), .int .u64 (limb (y) 3 : Nat)], .agg #[.int .u64 (limb (u) 0 : Nat), .int .u64 (limb (u) 1 : Nat), .int .u64 (limb (u) 2 : Nat), .int .u64 (limb (u) 3 : Nat), .int .u64 (limb (v) 0 : Nat), .int .u64 (limb (v) 1 : Nat), .int .u64 (limb (v) 2 : Nat), .int .u64 (limb (v) 3 : Nat), .bool (j)]] w fun e w' => e = .returned (.bool true) ∧ Below w.heap.size w w' := by
 cases h1 : ptOk u v j with
 | false => exact linear_bad x y u v j hU hV h1 w hG hT hQ
 | true =>
  obtain ⟨a, rfl, rfl, rfl⟩ := pts_of h1
  exact linear_ok x y a hx hy w hG hN hT hQ
end Go.Proofs.YtgmfecncfekjfaaDoor
