/- Several texts laid together. -/
import Derived.Test.YtocjeboicofflaaDoorFtD
import Derived.Test.YtocjeboicofflaaDoorHeldR
namespace Go.Proofs.YtocjeboicofflaaDoor
open Go Go.RowKit Go.Lib
theorem eqPts (a b : Pts) (D : Bool) (hD : D = true ↔ a = b) (w : World) : (Op.equalIn 10000 36 (.agg #[.int .u64 (limb (pX a) 0 : Nat), .int .u64 (limb (pX a) 1 : Nat), .int .u64 (limb (pX a) 2 : Nat), .int .u64 (limb (pX a) 3 : Nat), .int .u64 (limb (pY a) 0 : Nat), .int .u64 (limb (pY a) 1 : Nat), .int .u64 (limb (pY a) 2 : Nat), .int .u64 (limb (pY a) 3 : Nat), .bool (pI a)]) (.agg #[.int .u64 (limb (pX b) 0 : Nat), .int .u64 (limb (pX b) 1 : Nat), .int .u64 (limb (pX b) 2 : Nat), .int .u64 (limb (pX b) 3 : Nat), .int .u64 (limb (pY b) 0 : Nat), .int .u64 (limb (pY b) 1 : Nat), .int .u64 (limb (pY b) 2 : Nat), .int .u64 (limb (pY b) 3 : Nat), .bool (pI b)])).run Tryd.prog w = .ok D w := by
  rw [run_eqP, eq4_num _ _ (Nat.lt_trans (pX_lt a) (of_decide_eq_true (by kernel_rfl))) (Nat.lt_trans (pX_lt b) (of_decide_eq_true (by kernel_rfl))), eq4_num _ _ (Nat.lt_trans (pY_lt a) (of_decide_eq_true (by kernel_rfl))) (Nat.lt_trans (pY_lt b) (of_decide_eq_true (by kernel_rfl)))]
  by_cases h : a = b
  · rw [hD.2 h]
    subst h
    simp
  · have hf : D = false := by
      cases D
      · rfl
      · exact absurd (hD.1 rfl) h
    rw [hf]
    by_cases h1 : pX a = pX b
    · by_cases h2 : pY a = pY b
      · by_cases h3 : pI a = pI b
        · exact absurd (pts_inj h1 h2 h3) h
        · simp [h1, h2, h3]
      · simp [h2]
    · simp [h1]
/-- What a node's commitments tell. -/
def vaP (x : Nat) (cs : List Pts) : Pts := gr.tot gr.mul (List.zip ((List.range cs.length).map fun i => x ^ i % QQ) cs)
set_option maxRecDepth 100000 in
set_option maxHeartbeats 4000000 in
theorem fval_ok (cs : List Pts) (n x : Nat) (b : Option Addr) (kc : Nat) (V : Pts) (hn : n = cs.length) (h1 : 1 ≤ n ∧ n ≤ 10) (hx : x ≤ 10) (hV : V = vaP x cs) (w : World) (hG : GA w) (hP : PtsAt w b cs) :
    Calls Tryd.prog 12 #[.slice b n kc, .int .i64 (x : Nat)] w fun e w' => e = .returned (.tuple #[.agg #[.int .u64 (limb (pX V) 0 : Nat), .int .u64 (limb (pX V) 1 : Nat), .int .u64 (limb (pX V) 2 : Nat), .int .u64 (limb (pX V) 3 : Nat), .int .u64 (limb (pY V) 0 : Nat), .int .u64 (limb (pY V) 1 : Nat), .int .u64 (limb (pY V) 2 : Nat), .int .u64 (limb (pY V) 3 : Nat), .bool (pI V)], .int .i64 0]) ∧ Below w.heap.size w w' := by
  have KI : Hid _ := isCount_ok n h1
  have KP : Hid _ := powers_ok x n hx h1
  have KS : Hid (∀ (k : Nat) (w : World), GA w → NumsAt w (some ⟨k, 0, none⟩) ((List.range n).map fun i => x ^ i % QQ) → PtsAt w b cs → Calls Tryd.prog 30 #[.slice (some ⟨k, 0, none⟩) n n, .slice b n kc] w fun e w' => e = .returned (.tuple #[.agg #[.int .u64 (limb (pX V) 0 : Nat), .int .u64 (limb (pX V) 1 : Nat), .int .u64 (limb (pX V) 2 : Nat), .int .u64 (limb (pX V) 3 : Nat), .int .u64 (limb (pY V) 0 : Nat), .int .u64 (limb (pY V) 1 : Nat), .int .u64 (limb (pY V) 2 : Nat), .int .u64 (limb (pY V) 3 : Nat), .bool (pI V)], .int .i64 0]) ∧ Below w.heap.size w w') := fun k w h2 h3 h4 => by
    have hl1 : ((List.range n).map fun i => x ^ i % QQ).length = cs.length := by rw [List.length_map, List.length_range, hn]
    have s := Sum_ok n (some ⟨k, 0, none⟩) b n kc (List.zip ((List.range n).map fun i => x ^ i % QQ) cs) (by rw [List.length_zip, hl1, Nat.min_self, hn]) (by omega) (fun z hz => by
      have := (List.of_mem_zip hz).1
      rw [List.mem_map] at this
      obtain ⟨i, _, hi⟩ := this
      rw [← hi]
      exact pow_lt x i) w h2.1 h2.2.1 h2.2.2.1 (by rw [List.map_fst_zip (by omega)]; exact h3) (by rw [List.map_snd_zip (by omega)]; exact h4)
    rw [hV]
    unfold vaP
    rw [← hn]
    exact s
  have hx1 : (0 : Int) ≤ (x : Int) := by omega
  have hx2 : (x : Int) ≤ 10 := by omega
  have hx3 : ¬ ((x : Int) < 0) := by omega
  have hx4 : ¬ ((10 : Int) < (x : Int)) := by omega
  obtain ⟨W2, hW2⟩ : ∃ W2, W2 = w.alloc (.cells #[.int .u64 0, .int .u64 0, .int .u64 0, .int .u64 0, .int .u64 0, .int .u64 0, .int .u64 0, .int .u64 0, .bool false] 36) := ⟨_, rfl⟩
  have H2 : Hid (Below w.heap.size w W2 ∧ Bl W2 w.heap.size [.int .u64 0, .int .u64 0, .int .u64 0, .int .u64 0, .int .u64 0, .int .u64 0, .int .u64 0, .int .u64 0, .bool false] 36 ∧ GA W2 ∧ PtsAt W2 b cs) := by
    have hb : Below w.heap.size w W2 := by
      rw [hW2]
      exact below_alloc0 (Below.refl _ _) _
    refine ⟨hb, ?_, hG.call hb, hP.call hb⟩
    rw [hW2]
    exact Bl.new w [.int .u64 0, .int .u64 0, .int .u64 0, .int .u64 0, .int .u64 0, .int .u64 0, .int .u64 0, .int .u64 0, .bool false] _
  have HW : Hid (W2 = w.alloc (.cells #[.int .u64 0, .int .u64 0, .int .u64 0, .int .u64 0, .int .u64 0, .int .u64 0, .int .u64 0, .int .u64 0, .bool false] 36)) := hW2
  clear hn h1 hx hV hG hP hW2
  go_enter Tryd.func12, Tryd.ntmps12
  go_upto_region 1 with fail
  rw [← HW.out]
  clear HW
  go_wp2_with fail
  refine (KI.out _).mono ?_
  rintro e w1 ⟨rfl, h1⟩
  obtain rfl : W2 = w1 := h1.symm
  go_wp2_with fail
  refine (KP.out _ H2.out.2.2.1.2.1).mono ?_
  rintro e w3 ⟨k, rfl, hN3, hb3⟩
  have H3 : Hid (Below w.heap.size w w3 ∧ Bl w3 w.heap.size [.int .u64 0, .int .u64 0, .int .u64 0, .int .u64 0, .int .u64 0, .int .u64 0, .int .u64 0, .int .u64 0, .bool false] 36 ∧ GA w3 ∧ PtsAt w3 b cs ∧ NumsAt w3 (some ⟨k, 0, none⟩) ((List.range n).map fun i => x ^ i % QQ)) := ⟨below_call0 H2.out.1 hb3, H2.out.2.1.call hb3, H2.out.2.2.1.call hb3, H2.out.2.2.2.call hb3, hN3⟩
  clear hN3 hb3 H2 KI KP
  go_wp2_with fail
  refine (KS.out k _ H3.out.2.2.1 H3.out.2.2.2.2 H3.out.2.2.2.1).mono ?_
  rintro e w4 ⟨rfl, hb4⟩
  have H4 : Hid (Below w.heap.size w w4 ∧ Bl w4 w.heap.size [.int .u64 0, .int .u64 0, .int .u64 0, .int .u64 0, .int .u64 0, .int .u64 0, .int .u64 0, .int .u64 0, .bool false] 36) := ⟨below_call0 H3.out.1 hb4, H3.out.2.1.call hb4⟩
  clear hb4 H3 KS
  have HS : Hid ((storeVar 36 ⟨w.heap.size, 0, none⟩ (.agg #[.int .u64 (limb (pX V) 0 : Nat), .int .u64 (limb (pX V) 1 : Nat), .int .u64 (limb (pX V) 2 : Nat), .int .u64 (limb (pX V) 3 : Nat), .int .u64 (limb (pY V) 0 : Nat), .int .u64 (limb (pY V) 1 : Nat), .int .u64 (limb (pY V) 2 : Nat), .int .u64 (limb (pY V) 3 : Nat), .bool (pI V)])).run Tryd.prog w4 = .ok () (w4.setRow w.heap.size #[.int .u64 (limb (pX V) 0 : Nat), .int .u64 (limb (pX V) 1 : Nat), .int .u64 (limb (pX V) 2 : Nat), .int .u64 (limb (pX V) 3 : Nat), .int .u64 (limb (pY V) 0 : Nat), .int .u64 (limb (pY V) 1 : Nat), .int .u64 (limb (pY V) 2 : Nat), .int .u64 (limb (pY V) 3 : Nat), .bool (pI V)])) := H4.out.2.store (us := [.int .u64 (limb (pX V) 0 : Nat), .int .u64 (limb (pX V) 1 : Nat), .int .u64 (limb (pX V) 2 : Nat), .int .u64 (limb (pX V) 3 : Nat), .int .u64 (limb (pY V) 0 : Nat), .int .u64 (limb (pY V) 1 : Nat), .int .u64 (limb (pY V) 2 : Nat), .int .u64 (limb (pY V) 3 : Nat), .bool (pI V)]) (by kernel_rfl) rfl (by kernel_rfl)
  go_wp2_with ((with_reducible refine store_to (b := w.heap.size) (k := 0) (x := 4) (y := 25) ?_ ?_ ?_ ?_ HS.out ?_); rfl; rfl; rfl; rfl)
  have hld : (loadVar 36 ⟨w.heap.size, 0, none⟩).run Tryd.prog (w4.setRow w.heap.size #[.int .u64 (limb (pX V) 0 : Nat), .int .u64 (limb (pX V) 1 : Nat), .int .u64 (limb (pX V) 2 : Nat), .int .u64 (limb (pX V) 3 : Nat), .int .u64 (limb (pY V) 0 : Nat), .int .u64 (limb (pY V) 1 : Nat), .int .u64 (limb (pY V) 2 : Nat), .int .u64 (limb (pY V) 3 : Nat), .bool (pI V)]) = .ok (.agg #[.int .u64 (limb (pX V) 0 : Nat), .int .u64 (limb (pX V) 1 : Nat), .int .u64 (limb (pX V) 2 : Nat), .int .u64 (limb (pX V) 3 : Nat), .int .u64 (limb (pY V) 0 : Nat), .int .u64 (limb (pY V) 1 : Nat), .int .u64 (limb (pY V) 2 : Nat), .int .u64 (limb (pY V) 3 : Nat), .bool (pI V)]) (w4.setRow w.heap.size #[.int .u64 (limb (pX V) 0 : Nat), .int .u64 (limb (pX V) 1 : Nat), .int .u64 (limb (pX V) 2 : Nat), .int .u64 (limb (pX V) 3 : Nat), .int .u64 (limb (pY V) 0 : Nat), .int .u64 (limb (pY V) 1 : Nat), .int .u64 (limb (pY V) 2 : Nat), .int .u64 (limb (pY V) 3 : Nat), .bool (pI V)]) := (H4.out.2.put [.int .u64 (limb (pX V) 0 : Nat), .int .u64 (limb (pX V) 1 : Nat), .int .u64 (limb (pX V) 2 : Nat), .int .u64 (limb (pX V) 3 : Nat), .int .u64 (limb (pY V) 0 : Nat), .int .u64 (limb (pY V) 1 : Nat), .int .u64 (limb (pY V) 2 : Nat), .int .u64 (limb (pY V) 3 : Nat), .bool (pI V)]).load Tryd.underlying36 rfl (by kernel_rfl)
  refine bodyPost_ret (v := .tuple #[.agg #[.int .u64 (limb (pX V) 0 : Nat), .int .u64 (limb (pX V) 1 : Nat), .int .u64 (limb (pX V) 2 : Nat), .int .u64 (limb (pX V) 3 : Nat), .int .u64 (limb (pY V) 0 : Nat), .int .u64 (limb (pY V) 1 : Nat), .int .u64 (limb (pY V) 2 : Nat), .int .u64 (limb (pY V) 3 : Nat), .bool (pI V)], .int .i64 0]) ?_ rfl ⟨rfl, below_setRow (Nat.le_refl _) _ H4.out.1⟩
  simp [results, Tryd.results12, asAddr, hld]
set_option maxRecDepth 100000 in
set_option maxHeartbeats 4000000 in
theorem fchk_ok (cs : List Pts) (n x s : Nat) (b : Option Addr) (kc : Nat) (V R : Pts) (D : Bool) (E : Int) (hn : n = cs.length) (h1 : 1 ≤ n ∧ n ≤ 10) (hx : x ≤ 10) (hs : s < QQ) (hV : V = vaP x cs) (hR : R = gr.mul s gG) (hD : D = true ↔ R = V) (hE : E = if D then 0 else 70) (w : World) (hG : GA w) (hP : PtsAt w b cs) :
    Calls Tryd.prog 14 #[.slice b n kc, .int .i64 (x : Nat), .agg #[.int .u64 (limb s 0 : Nat), .int .u64 (limb s 1 : Nat), .int .u64 (limb s 2 : Nat), .int .u64 (limb s 3 : Nat)]] w fun e w' => e = .returned (.int .i64 E) ∧ Below w.heap.size w w' := by
  have KV : Hid (∀ w, GA w → PtsAt w b cs → Calls Tryd.prog 12 #[.slice b n kc, .int .i64 (x : Nat)] w fun e w' => e = .returned (.tuple #[.agg #[.int .u64 (limb (pX V) 0 : Nat), .int .u64 (limb (pX V) 1 : Nat), .int .u64 (limb (pX V) 2 : Nat), .int .u64 (limb (pX V) 3 : Nat), .int .u64 (limb (pY V) 0 : Nat), .int .u64 (limb (pY V) 1 : Nat), .int .u64 (limb (pY V) 2 : Nat), .int .u64 (limb (pY V) 3 : Nat), .bool (pI V)], .int .i64 0]) ∧ Below w.heap.size w w') := fun w h2 h3 => fval_ok cs n x b kc V hn h1 hx hV w h2 h3
  have KG : Hid _ := G_A
  have KM : Hid (∀ w, GA w → Calls Tryd.prog 27 #[.agg #[.int .u64 (limb s 0 : Nat), .int .u64 (limb s 1 : Nat), .int .u64 (limb s 2 : Nat), .int .u64 (limb s 3 : Nat)], .agg #[.int .u64 (limb (pX gG) 0 : Nat), .int .u64 (limb (pX gG) 1 : Nat), .int .u64 (limb (pX gG) 2 : Nat), .int .u64 (limb (pX gG) 3 : Nat), .int .u64 (limb (pY gG) 0 : Nat), .int .u64 (limb (pY gG) 1 : Nat), .int .u64 (limb (pY gG) 2 : Nat), .int .u64 (limb (pY gG) 3 : Nat), .bool (pI gG)]] w fun e w' => e = .returned (.tuple #[.agg #[.int .u64 (limb (pX R) 0 : Nat), .int .u64 (limb (pX R) 1 : Nat), .int .u64 (limb (pX R) 2 : Nat), .int .u64 (limb (pX R) 3 : Nat), .int .u64 (limb (pY R) 0 : Nat), .int .u64 (limb (pY R) 1 : Nat), .int .u64 (limb (pY R) 2 : Nat), .int .u64 (limb (pY R) 3 : Nat), .bool (pI R)], .int .i64 0]) ∧ Below w.heap.size w w') := fun w h => by
    rw [hR]
    exact Mul_ok s gG hs w h.1 h.2.1 h.2.2.1
  have HQ : Hid (∀ w : World, (Op.equalIn 10000 36 (.agg #[.int .u64 (limb (pX R) 0 : Nat), .int .u64 (limb (pX R) 1 : Nat), .int .u64 (limb (pX R) 2 : Nat), .int .u64 (limb (pX R) 3 : Nat), .int .u64 (limb (pY R) 0 : Nat), .int .u64 (limb (pY R) 1 : Nat), .int .u64 (limb (pY R) 2 : Nat), .int .u64 (limb (pY R) 3 : Nat), .bool (pI R)]) (.agg #[.int .u64 (limb (pX V) 0 : Nat), .int .u64 (limb (pX V) 1 : Nat), .int .u64 (limb (pX V) 2 : Nat), .int .u64 (limb (pX V) 3 : Nat), .int .u64 (limb (pY V) 0 : Nat), .int .u64 (limb (pY V) 1 : Nat), .int .u64 (limb (pY V) 2 : Nat), .int .u64 (limb (pY V) 3 : Nat), .bool (pI V)])).run Tryd.prog w = .ok D w) := fun w => eqPts R V D hD w
  obtain ⟨W1, hW1⟩ : ∃ W1, W1 = w.alloc (.cells #[.int .u64 (limb s 0 : Nat), .int .u64 (limb s 1 : Nat), .int .u64 (limb s 2 : Nat), .int .u64 (limb s 3 : Nat)] 34) := ⟨_, rfl⟩
  have H1 : Hid (Below w.heap.size w W1 ∧ Bl W1 w.heap.size (numV s) 34 ∧ GA W1 ∧ PtsAt W1 b cs) := by
    have hb : Below w.heap.size w W1 := by
      rw [hW1]
      exact below_alloc0 (Below.refl _ _) _
    refine ⟨hb, ?_, hG.call hb, hP.call hb⟩
    rw [hW1]
    exact Bl.new w (numV s) _
  have HW : Hid (W1 = w.alloc (.cells #[.int .u64 (limb s 0 : Nat), .int .u64 (limb s 1 : Nat), .int .u64 (limb s 2 : Nat), .int .u64 (limb s 3 : Nat)] 34)) := hW1
  have HE : Hid (E = if D then 0 else 70) := hE
  clear hn h1 hx hs hV hR hD hG hP hW1 hE
  go_enter Tryd.func14, Tryd.ntmps14
  go_upto_region 1 with fail
  rw [← HW.out]
  clear HW
  go_wp2_with fail
  refine (KV.out _ H1.out.2.2.1 H1.out.2.2.2).mono ?_
  rintro e w2 ⟨rfl, hb2⟩
  obtain ⟨A, hA⟩ : ∃ A, A = w2.heap.size := ⟨_, rfl⟩
  obtain ⟨W3, hW3⟩ : ∃ W3, W3 = w2.alloc (.cells #[.int .u64 (limb (pX V) 0 : Nat), .int .u64 (limb (pX V) 1 : Nat), .int .u64 (limb (pX V) 2 : Nat), .int .u64 (limb (pX V) 3 : Nat), .int .u64 (limb (pY V) 0 : Nat), .int .u64 (limb (pY V) 1 : Nat), .int .u64 (limb (pY V) 2 : Nat), .int .u64 (limb (pY V) 3 : Nat), .bool (pI V)] 36) := ⟨_, rfl⟩
  have H3 : Hid (Below w.heap.size w W3 ∧ Bl W3 w.heap.size (numV s) 34 ∧ GA W3 ∧ Bl W3 A (ptsV V) 36) := by
    have hb : Below W1.heap.size W1 W3 := by
      rw [hW3]
      exact below_alloc0 hb2 _
    refine ⟨below_call0 H1.out.1 hb, H1.out.2.1.call hb, H1.out.2.2.1.call hb, ?_⟩
    rw [hW3, hA]
    exact Bl.new w2 (ptsV V) _
  have HW : Hid (W3 = w2.alloc (.cells #[.int .u64 (limb (pX V) 0 : Nat), .int .u64 (limb (pX V) 1 : Nat), .int .u64 (limb (pX V) 2 : Nat), .int .u64 (limb (pX V) 3 : Nat), .int .u64 (limb (pY V) 0 : Nat), .int .u64 (limb (pY V) 1 : Nat), .int .u64 (limb (pY V) 2 : Nat), .int .u64 (limb (pY V) 3 : Nat), .bool (pI V)] 36) ∧ A = w2.heap.size) := ⟨hW3, hA⟩
  clear hW3 hA hb2 H1 KV
  go_upto_region 2 with fail
  rw [← HW.out.1, ← HW.out.2]
  clear HW
  go_upto_region 4 with fail
  refine wp_region_K 8 0 6 7 [.agg #[.int .u64 (limb s 0 : Nat), .int .u64 (limb s 1 : Nat), .int .u64 (limb s 2 : Nat), .int .u64 (limb s 3 : Nat)], ?v1r2, ?v2r2, ?v3r2, ?v4r2, ?v5r2, undef, undef] [some 20, some 21, some 22, some 19, some 23, some 24, some 9, none] (fun s w b => OwnC w b (cond s (ptsV R) zpL)) ?Ar2 ?oar2 ?osr2 (by kernel_rfl) (by kernel_rfl) (by kernel_rfl) rfl ?hAr2 (fun _ _ _ _ h hb => OwnC.call h hb) ?hopr2 ?hoar2 ?hosr2 (by decide) (by decide) ?hswr2 ?halr2 ?hstr2 ?hfinr2
  case hAr2 =>
    intro bq
    simp only [List.set_cons_zero, List.set_cons_succ, List.zip_cons_cons, List.zip_nil_right, fillD, Act.put, List.setIfInBounds_toArray]
    exact rfl
  case hopr2 =>
    refine ⟨?_, ?_, ?_, ?_, ?_, ?_, fun h => absurd rfl h, fun _ h => absurd rfl h, trivial⟩
    focus (intro _ _ bq wx hS; refine OpTo.yields rfl ?_; exact exec_loadF (b := w.heap.size) (x := 5) rfl rfl ((H3.out.2.1.call hS).load Tryd.underlying34 rfl (by kernel_rfl)))
    focus (intro _ _ bq wx hS; refine OpTo.calls rfl ?_ ?_; rotate_left; intro K hK; go_simp; refine (KG.out _ (H3.out.2.2.1.call hS).2.2.2).mono ?_; rintro e w' ⟨rfl, hq⟩; exact hK w' hq; exact rfl)
    focus (intro _ _ bq wx hS; refine OpTo.calls rfl ?_ ?_; rotate_left; intro K hK; go_simp; refine (KM.out _ (H3.out.2.2.1.call hS)).mono ?_; rintro e w' ⟨rfl, hq⟩; exact hK w' hq; exact rfl)
    iterate 3 focus (intro _ _ bq wx hS; refine OpTo.yields rfl ?_; clear hS; go_simp; try with_reducible rfl)
  case hoar2 =>
    rw [List.getElem?_toArray]
    exact rfl
  case halr2 =>
    intro bq wx hS
    refine OpTo.make (ob := ?obr2) (B := fun w b => OwnC w b zpL) hS rfl ?runr2 ?ownr2
    case runr2 =>
      go_simp
      try with_reducible rfl
    case ownr2 => exact OwnC.new' rfl
  case hosr2 =>
    rw [List.getElem?_toArray]
    exact rfl
  case hswr2 => kernel_rfl
  case hstr2 =>
    intro bq wx hS hB hle
    have hB' : OwnC wx bq zpL := hB
    refine OpTo.stores (w1 := putL bq 0 (ptsV R) wx) (R := fun w' => OwnC w' bq (cond true (ptsV R) zpL) ∧ Below W3.heap.size W3 w') rfl ?_ rfl ⟨OwnC.put (ptsV R) hB' rfl, below_putL hle (ptsV R) 0 _ hS⟩
    obtain ⟨gz, g0, g1, g2, g3, g4, g5, g6, g7, g8, gf⟩ := OwnC.zp hB'
    first | (left; go_simp; done) | (right; exact ⟨_, by go_simp; rfl⟩) | (left; go_simp; rfl)
  case hfinr2 =>
    intro bq wx hS hB hle
    refine tail_at (o := ?ofr2_8) ?hir2_8 ?hwr2_8 ?_
    case hir2_8 => rw [List.getElem?_toArray]; exact rfl
    case hwr2_8 => exact rfl
    go_simp
    refine tail_end ?_
    have L1 : Hid ((loadVar 36 ⟨bq, 0, none⟩).run Tryd.prog wx = .ok (.agg #[.int .u64 (limb (pX R) 0 : Nat), .int .u64 (limb (pX R) 1 : Nat), .int .u64 (limb (pX R) 2 : Nat), .int .u64 (limb (pX R) 3 : Nat), .int .u64 (limb (pY R) 0 : Nat), .int .u64 (limb (pY R) 1 : Nat), .int .u64 (limb (pY R) 2 : Nat), .int .u64 (limb (pY R) 3 : Nat), .bool (pI R)]) wx) := run_loadVar_mid wx bq 0 36 (ptsV R) _ (fun j v hv => by rw [Nat.zero_add]; exact hB.2.2 j v hv) Tryd.underlying36 rfl (by kernel_rfl)
    have L2 : Hid ((loadVar 36 ⟨A, 0, none⟩).run Tryd.prog wx = .ok (.agg #[.int .u64 (limb (pX V) 0 : Nat), .int .u64 (limb (pX V) 1 : Nat), .int .u64 (limb (pX V) 2 : Nat), .int .u64 (limb (pX V) 3 : Nat), .int .u64 (limb (pY V) 0 : Nat), .int .u64 (limb (pY V) 1 : Nat), .int .u64 (limb (pY V) 2 : Nat), .int .u64 (limb (pY V) 3 : Nat), .bool (pI V)]) wx) := (H3.out.2.2.2.call hS).load Tryd.underlying36 rfl (by kernel_rfl)
    have HF : Hid (Below w.heap.size w wx) := below_call0 H3.out.1 hS
    clear hB hS hle H3 KG KM
    go_upto_region 7 with fail
    have hq := HQ.out
    cases D
    · obtain rfl : E = 70 := HE.out
      go_wp2_with (first | ((with_reducible refine load_to (b := bq) (k := 0) (x := 9) ?_ ?_ ?_ L1.out ?_); rfl; rfl; rfl) | ((with_reducible refine load_to (b := A) (k := 0) (x := 7) ?_ ?_ ?_ L2.out ?_); rfl; rfl; rfl))
      go_ret
      exact ⟨rfl, HF.out⟩
    · obtain rfl : E = 0 := HE.out
      go_wp2_with (first | ((with_reducible refine load_to (b := bq) (k := 0) (x := 9) ?_ ?_ ?_ L1.out ?_); rfl; rfl; rfl) | ((with_reducible refine load_to (b := A) (k := 0) (x := 7) ?_ ?_ ?_ L2.out ?_); rfl; rfl; rfl))
      go_ret
      exact ⟨rfl, HF.out⟩
end Go.Proofs.YtocjeboicofflaaDoor

namespace Go.Proofs.YtocjeboicofflaaDoor
open Go Go.RowKit Go.Lib
theorem fmod (n : Nat) (p : Pts) : gr.mul (n % QQ) p = gr.mul n p := by
  have e : n = n / QQ * QQ + n % QQ := by
    rw [Nat.mul_comm]
    exact (Nat.div_add_mod n QQ).symm
  have h : gr.mul n p = gr.mul (n / QQ * QQ + n % QQ) p := by rw [← e]
  rw [h, gr.mul_add, gr.mul_mul, order_any, gr.mul_z, gr.zero']
theorem fmul_modr (a b : Nat) (p : Pts) : gr.mul (a * (b % QQ)) p = gr.mul (a * b) p := by rw [gr.mul_mul, fmod, ← gr.mul_mul]
theorem tot_pow (x : Nat) : ∀ (l : List Nat) (e : Nat), gr.tot gr.mul (List.zip ((List.range l.length).map fun i => x ^ (e + i) % QQ) (l.map fun k => gr.mul k gG)) = gr.mul (x ^ e * hoN QQ x l) gG
  | [], _ => rfl
  | c :: r, e => by
    have ih := tot_pow x r (e + 1)
    have eq : (List.range r.length).map ((fun i => x ^ (e + i) % QQ) ∘ Nat.succ) = (List.range r.length).map fun i => x ^ (e + 1 + i) % QQ := List.map_congr_left fun i _ => by
      show x ^ (e + (i + 1)) % QQ = _
      rw [show e + (i + 1) = e + 1 + i by omega]
    rw [List.length_cons, List.range_succ_eq_map, List.map_cons, List.map_map, List.map_cons, List.zip_cons_cons]
    show gr.add (gr.mul (x ^ (e + 0) % QQ) (gr.mul c gG)) (gr.tot gr.mul _) = _
    rw [eq, ih, Nat.add_zero, fmod, ← gr.mul_mul, ← gr.mul_add]
    have h1 : gr.mul (x ^ e * hoN QQ x (c :: r)) gG = gr.mul (x ^ e * (hoN QQ x r * x) + x ^ e * c) gG := by
      show gr.mul (x ^ e * ((hoN QQ x r * x % QQ + c) % QQ)) gG = _
      rw [fmul_modr, Nat.mul_add, gr.mul_add, fmul_modr, ← gr.mul_add]
    rw [h1]
    congr 1
    rw [Nat.pow_succ, Nat.add_comm, Nat.mul_assoc, Nat.mul_comm x]
theorem vaP_ok (x : Nat) (l : List Nat) : vaP x (l.map fun k => gr.mul k gG) = gr.mul (hoN QQ x l) gG := by
  have h := tot_pow x l 0
  simp only [Nat.zero_add, Nat.pow_zero, Nat.one_mul] at h
  unfold vaP
  rw [List.length_map]
  exact h
theorem gG_inj {i j : Nat} (hi : i < QQ) (hj : j < QQ) : gr.mul i gG = gr.mul j gG ↔ i = j :=
  ⟨fun h => gr.inj gG QQ prime_Q.2 G_order gG_ne hi hj h, fun h => by rw [h]⟩
theorem nums_two (W : World) (x y : Nat) (t : TypeId) (hx : x < M64) (hy : y < M64) : Nums (W.alloc (.cells #[.int .u64 (x : Int), .int .u64 0, .int .u64 0, .int .u64 0, .int .u64 (y : Int), .int .u64 0, .int .u64 0, .int .u64 0] t)) (some ⟨W.heap.size, 0, none⟩) [x, y] := by
  obtain ⟨x0, x1, x2, x3⟩ := limb_small x hx
  obtain ⟨y0, y1, y2, y3⟩ := limb_small y hy
  intro j n hj
  match j, hj with
  | 0, hj =>
    simp at hj
    subst hj
    refine ⟨W.heap.size, 0, rfl, fun i hi => ?_, by simp⟩
    have : i = 0 ∨ i = 1 ∨ i = 2 ∨ i = 3 := by omega
    rcases this with rfl | rfl | rfl | rfl <;> simp [go_sem, x0, x1, x2, x3]
  | 1, hj =>
    simp at hj
    subst hj
    refine ⟨W.heap.size, 0, rfl, fun i hi => ?_, by simp⟩
    have : i = 0 ∨ i = 1 ∨ i = 2 ∨ i = 3 := by omega
    rcases this with rfl | rfl | rfl | rfl <;> simp [go_sem, y0, y1, y2, y3]
  | j + 2, hj => simp at hj
theorem line_at : atE [5, 3] 0 = 0 := by kernel_rfl
theorem line_ho : hoN QQ 2 [5, 3] = 11 := by kernel_rfl
/-- A share against commitments of a polynomial. -/
theorem fchk_poly (l : List Nat) (n x s : Nat) (b : Option Addr) (kc : Nat) (E : Int) (hn : n = l.length) (h1 : 1 ≤ n ∧ n ≤ 10) (hx : x ≤ 10) (hs : s < QQ) (hE : E = if s = hoN QQ x l then 0 else 70) (w : World) (hG : GA w) (hP : PtsAt w b (l.map fun k => gr.mul k gG)) :
    Calls Tryd.prog 14 #[.slice b n kc, .int .i64 (x : Nat), .agg #[.int .u64 (limb s 0 : Nat), .int .u64 (limb s 1 : Nat), .int .u64 (limb s 2 : Nat), .int .u64 (limb s 3 : Nat)]] w fun e w' => e = .returned (.int .i64 E) ∧ Below w.heap.size w w' :=
  fchk_ok (l.map fun k => gr.mul k gG) n x s b kc (gr.mul (hoN QQ x l) gG) (gr.mul s gG) (decide (s = hoN QQ x l)) E (by rw [List.length_map]; exact hn) h1 hx hs (vaP_ok x l).symm rfl
    (by rw [gG_inj hs (hoN_lt QQ x (of_decide_eq_true (by kernel_rfl)) l)]; simp) (by rw [hE]; by_cases h : s = hoN QQ x l <;> simp [h]) w hG hP
theorem lit_num (k : Nat) (h : k < M64) : (.agg #[.int .u64 (limb k 0 : Nat), .int .u64 (limb k 1 : Nat), .int .u64 (limb k 2 : Nat), .int .u64 (limb k 3 : Nat)] : Value) = .agg #[.int .u64 (k : Nat), .int .u64 0, .int .u64 0, .int .u64 0] := by
  obtain ⟨e0, e1, e2, e3⟩ := limb_small k h
  rw [e0, e1, e2, e3]
  rfl
set_option maxRecDepth 100000 in
set_option maxHeartbeats 4000000 in
theorem line_ok (w : World) (hG : GA w) : Calls Tryd.prog 11 #[] w fun e w' => e = .returned (.bool true) ∧ Below w.heap.size w w' := by
  have KC : Hid (∀ (a : Option Addr) (w : World), GA w → Nums w a [5, 3] → Calls Tryd.prog 8 #[.slice a 2 2] w fun e w' => (∃ b, e = .returned (.tuple #[.slice b 2 2, .int .i64 0]) ∧ PtsAt w' b ([5, 3].map fun k => gr.mul k gG)) ∧ Below w.heap.size w w') := fun a w h1 h2 => by
    have h := fcom_any [5, 3] 2 a 2 rfl (by decide) w h1 h2
    refine h.mono ?_
    rintro e w' ⟨⟨b, c, he, hp⟩, hb⟩
    obtain ⟨rfl, hp2⟩ := hp line_at
    rw [line_at] at he
    exact ⟨⟨b, he, hp2⟩, hb⟩
  have K1 : Hid (∀ (b : Option Addr) (w : World), GA w → PtsAt w b ([5, 3].map fun k => gr.mul k gG) → Calls Tryd.prog 14 #[.slice b 2 2, .int .i64 2, .agg #[.int .u64 11, .int .u64 0, .int .u64 0, .int .u64 0]] w fun e w' => e = .returned (.int .i64 0) ∧ Below w.heap.size w w') := fun b w h1 h2 => by
    have h := fchk_poly [5, 3] 2 2 11 b 2 0 rfl (by decide) (by decide) (of_decide_eq_true (by kernel_rfl)) (by rw [line_ho]; rfl) w h1 h2
    rw [lit_num 11 (by decide)] at h
    exact h
  have K2 : Hid (∀ (b : Option Addr) (w : World), GA w → PtsAt w b ([5, 3].map fun k => gr.mul k gG) → Calls Tryd.prog 14 #[.slice b 2 2, .int .i64 2, .agg #[.int .u64 12, .int .u64 0, .int .u64 0, .int .u64 0]] w fun e w' => e = .returned (.int .i64 70) ∧ Below w.heap.size w w') := fun b w h1 h2 => by
    have h := fchk_poly [5, 3] 2 2 12 b 2 70 rfl (by decide) (by decide) (of_decide_eq_true (by kernel_rfl)) (by rw [line_ho]; rfl) w h1 h2
    rw [lit_num 12 (by decide)] at h
    exact h
  have H0 : Hid (GA w) := hG
  clear hG
  go_enter Tryd.func11, Tryd.ntmps11
  go_wp2_with fail
  refine (KC.out _ _ (H0.out.call (below_alloc0 (Below.refl _ _) _)) (nums_two w 5 3 34 (by decide) (by decide))).mono ?_
  rintro e w1 ⟨⟨b, rfl, hp⟩, hb1⟩
  have H1 : Hid (Below w.heap.size w w1 ∧ PtsAt w1 b ([5, 3].map fun k => gr.mul k gG)) := ⟨below_call0 (below_alloc0 (Below.refl _ _) _) hb1, hp⟩
  clear hb1 hp KC
  go_wp2_with fail
  refine (K1.out _ _ (H0.out.call H1.out.1) H1.out.2).mono ?_
  rintro e w2 ⟨rfl, hb2⟩
  have H2 : Hid (Below w.heap.size w w2 ∧ PtsAt w2 b ([5, 3].map fun k => gr.mul k gG)) := ⟨below_call0 H1.out.1 hb2, H1.out.2.call hb2⟩
  clear hb2 H1 K1
  go_wp2_with fail
  refine (K2.out _ _ (H0.out.call H2.out.1) H2.out.2).mono ?_
  rintro e w3 ⟨rfl, hb3⟩
  have H3 : Hid (Below w.heap.size w w3) := below_call0 H2.out.1 hb3
  clear hb3 H2 K2
  go_wp2_with fail
  go_ret
  exact ⟨rfl, H3.out⟩
end Go.Proofs.YtocjeboicofflaaDoor

namespace Go.Proofs.YtocjeboicofflaaDoor
open Go Go.RowKit Go.Lib
theorem Bl.cells {w : World} {b : Nat} {vs : List Value} {t : TypeId} (h : Bl w b vs t) (j : Nat) (v : Value) (hv : vs[j]? = some v) : w.cell? ⟨b, j, none⟩ = some v := by
  have h' : w.heap[b]? = some (.cells vs.toArray t) := h
  simpa [World.cell?, h'] using hv
theorem eqNumD (a b : Nat) (ha : a < R256) (hb : b < R256) (D : Bool) (hD : D = decide (a = b)) (w : World) : (Op.equalIn 10000 34 (.agg #[.int .u64 (limb a 0 : Nat), .int .u64 (limb a 1 : Nat), .int .u64 (limb a 2 : Nat), .int .u64 (limb a 3 : Nat)]) (.agg #[.int .u64 (limb b 0 : Nat), .int .u64 (limb b 1 : Nat), .int .u64 (limb b 2 : Nat), .int .u64 (limb b 3 : Nat)])).run Tryd.prog w = .ok D w := by
  rw [run_eq4, eq4_num _ _ ha hb, hD]
theorem ok_of {l : List Nat} (h : atE l 0 = 0) : (1 ≤ l.length ∧ l.length ≤ 10) ∧ allQ l = true := by
  unfold atE at h
  split at h
  · next h1 =>
    split at h
    · next h2 => exact ⟨h1, h2.1⟩
    · cases h
  · cases h
set_option maxRecDepth 100000 in
set_option maxHeartbeats 4000000 in
theorem tells_A1 (l : List Nat) (n : Nat) (a : Option Addr) (c : Nat) (x : Int) (s : Nat) (hn : n = l.length) (hR : ∀ k ∈ l, k < R256) (hs : s < R256) (hE : atE l 0 = 1) (w : World) (hG : GA w) (hN : Nums w a l) :
    Calls Tryd.prog 6 #[.slice a n c, .int .i64 x, .agg #[.int .u64 (limb s 0 : Nat), .int .u64 (limb s 1 : Nat), .int .u64 (limb s 2 : Nat), .int .u64 (limb s 3 : Nat)]] w fun e w' => e = .returned (.bool true) ∧ Below w.heap.size w w' := by
  have KC : Hid _ := fcom_any l n a c hn hR
  have KL : Hid _ := line_ok
  have KS : Hid _ := scalars2_any
  have KH : Hid _ := has2_any QQ s (of_decide_eq_true (by kernel_rfl)) hs
  obtain ⟨W1, hW1⟩ : ∃ W1, W1 = w.alloc (.cells #[.int .u64 (limb s 0 : Nat), .int .u64 (limb s 1 : Nat), .int .u64 (limb s 2 : Nat), .int .u64 (limb s 3 : Nat)] 34) := ⟨_, rfl⟩
  have H1 : Hid (Below w.heap.size w W1 ∧ Bl W1 w.heap.size (numV s) 34 ∧ GA W1 ∧ Nums W1 a l) := by
    have hb : Below w.heap.size w W1 := by
      rw [hW1]
      exact below_alloc0 (Below.refl _ _) _
    refine ⟨hb, ?_, hG.call hb, hN.call hb⟩
    rw [hW1]
    exact Bl.new w (numV s) _
  have HW : Hid (W1 = w.alloc (.cells #[.int .u64 (limb s 0 : Nat), .int .u64 (limb s 1 : Nat), .int .u64 (limb s 2 : Nat), .int .u64 (limb s 3 : Nat)] 34)) := hW1
  clear hW1 hG hN hR hn hs
  go_enter Tryd.func6, Tryd.ntmps6
  go_upto_region 1 with fail
  rw [← HW.out]
  clear HW
  go_wp2_with fail
  refine (KC.out _ H1.out.2.2.1 H1.out.2.2.2).mono ?_
  rintro e w2 ⟨⟨b, m, rfl, hp⟩, hb2⟩
  have H2 : Hid (Below w.heap.size w w2 ∧ Bl w2 w.heap.size (numV s) 34 ∧ GA w2 ∧ Nums w2 a l ∧ (atE l 0 = 0 → m = n ∧ PtsAt w2 b (l.map fun k => gr.mul k gG))) := ⟨below_call0 H1.out.1 hb2, H1.out.2.1.call hb2, H1.out.2.2.1.call hb2, H1.out.2.2.2.call hb2, hp⟩
  clear hp hb2 H1 KC
  rw [hE]
  go_upto_region 2 with fail
  refine wp_region_H (fun w' => Below w2.heap.size w2 w') 16 rfl (by kernel_rfl) ?_
  refine wpAnyH_take (i := 0) (oi := ?o0A1) (v := ?v0A1) ?hi0A1 (by kernel_rfl) (by kernel_rfl) (by kernel_rfl) ?hQ0A1 ?hy0A1 (Below.drew (Below.refl _ _)) ?more0A1
  case hi0A1 => rw [List.getElem?_toArray]; exact rfl
  case hQ0A1 => exact fun _ _ _ h => h
  case hy0A1 =>
    refine Or.inl ⟨by rfl, ?_⟩
    intro w' hSw
    have q0 := (H2.out.2.1.call hSw).cells 0 _ rfl
    have q1 := (H2.out.2.1.call hSw).cells 1 _ rfl
    have q2 := (H2.out.2.1.call hSw).cells 2 _ rfl
    have q3 := (H2.out.2.1.call hSw).cells 3 _ rfl
    clear hSw
    go_simp
    try with_reducible rfl
  simp only [Act.put, List.setIfInBounds_toArray, List.set_cons_zero, List.set_cons_succ]
  refine wpAnyH_take (i := 1) (oi := ?o1A1) (v := ?v1A1) ?hi1A1 (by kernel_rfl) (by kernel_rfl) (by kernel_rfl) ?hQ1A1 ?hy1A1 (Below.drew (Below.refl _ _)) ?more1A1
  case hi1A1 => rw [List.getElem?_toArray]; exact rfl
  case hQ1A1 => exact fun _ _ _ h => h
  case hy1A1 =>
    refine Or.inl ⟨by rfl, ?_⟩
    intro w' hSw
    have q0 := (H2.out.2.1.call hSw).cells 0 _ rfl
    have q1 := (H2.out.2.1.call hSw).cells 1 _ rfl
    have q2 := (H2.out.2.1.call hSw).cells 2 _ rfl
    have q3 := (H2.out.2.1.call hSw).cells 3 _ rfl
    clear hSw
    go_simp
    try with_reducible rfl
  simp only [Act.put, List.setIfInBounds_toArray, List.set_cons_zero, List.set_cons_succ]
  refine wpAnyH_take (i := 2) (oi := ?o2A1) (v := ?v2A1) ?hi2A1 (by kernel_rfl) (by kernel_rfl) (by kernel_rfl) ?hQ2A1 ?hy2A1 (Below.drew (Below.refl _ _)) ?more2A1
  case hi2A1 => rw [List.getElem?_toArray]; exact rfl
  case hQ2A1 => exact fun _ _ _ h => h
  case hy2A1 =>
    refine Or.inl ⟨by rfl, ?_⟩
    intro w' hSw
    have q0 := (H2.out.2.1.call hSw).cells 0 _ rfl
    have q1 := (H2.out.2.1.call hSw).cells 1 _ rfl
    have q2 := (H2.out.2.1.call hSw).cells 2 _ rfl
    have q3 := (H2.out.2.1.call hSw).cells 3 _ rfl
    clear hSw
    go_simp
    try with_reducible rfl
  simp only [Act.put, List.setIfInBounds_toArray, List.set_cons_zero, List.set_cons_succ]
  refine wpAnyH_take (i := 3) (oi := ?o3A1) (v := undef) ?hi3A1 (by kernel_rfl) (by kernel_rfl) (by kernel_rfl) ?hQ3A1 ?hy3A1 (Below.drew (Below.refl _ _)) ?more3A1
  case hi3A1 => rw [List.getElem?_toArray]; exact rfl
  case hQ3A1 => exact fun _ _ _ h => h
  case hy3A1 =>
    exact Or.inr ⟨by rfl, rfl⟩
  simp only [Act.put, List.setIfInBounds_toArray, List.set_cons_zero, List.set_cons_succ]
  refine wpAnyH_take (i := 4) (oi := ?o4A1) (v := undef) ?hi4A1 (by kernel_rfl) (by kernel_rfl) (by kernel_rfl) ?hQ4A1 ?hy4A1 (Below.drew (Below.refl _ _)) ?more4A1
  case hi4A1 => rw [List.getElem?_toArray]; exact rfl
  case hQ4A1 => exact fun _ _ _ h => h
  case hy4A1 =>
    exact Or.inr ⟨by rfl, rfl⟩
  simp only [Act.put, List.setIfInBounds_toArray, List.set_cons_zero, List.set_cons_succ]
  refine wpAnyH_take (i := 5) (oi := ?o5A1) (v := ?v5A1) ?hi5A1 (by kernel_rfl) (by kernel_rfl) (by kernel_rfl) ?hQ5A1 ?hy5A1 (Below.drew (Below.refl _ _)) ?more5A1
  case hi5A1 => rw [List.getElem?_toArray]; exact rfl
  case hQ5A1 => exact fun _ _ _ h => h
  case hy5A1 =>
    refine Or.inl ⟨by rfl, ?_⟩
    intro w' hSw
    have q0 := (H2.out.2.1.call hSw).cells 0 _ rfl
    have q1 := (H2.out.2.1.call hSw).cells 1 _ rfl
    have q2 := (H2.out.2.1.call hSw).cells 2 _ rfl
    have q3 := (H2.out.2.1.call hSw).cells 3 _ rfl
    clear hSw
    go_simp
    try with_reducible rfl
  simp only [Act.put, List.setIfInBounds_toArray, List.set_cons_zero, List.set_cons_succ]
  refine wpAnyH_take (i := 6) (oi := ?o6A1) (v := ?v6A1) ?hi6A1 (by kernel_rfl) (by kernel_rfl) (by kernel_rfl) ?hQ6A1 ?hy6A1 (Below.drew (Below.refl _ _)) ?more6A1
  case hi6A1 => rw [List.getElem?_toArray]; exact rfl
  case hQ6A1 => exact fun _ _ _ h => h
  case hy6A1 =>
    refine Or.inl ⟨by rfl, ?_⟩
    intro w' hSw
    have q0 := (H2.out.2.1.call hSw).cells 0 _ rfl
    have q1 := (H2.out.2.1.call hSw).cells 1 _ rfl
    have q2 := (H2.out.2.1.call hSw).cells 2 _ rfl
    have q3 := (H2.out.2.1.call hSw).cells 3 _ rfl
    clear hSw
    go_simp
    try with_reducible rfl
  simp only [Act.put, List.setIfInBounds_toArray, List.set_cons_zero, List.set_cons_succ]
  refine wpAnyH_take (i := 7) (oi := ?o7A1) (v := undef) ?hi7A1 (by kernel_rfl) (by kernel_rfl) (by kernel_rfl) ?hQ7A1 ?hy7A1 (Below.drew (Below.refl _ _)) ?more7A1
  case hi7A1 => rw [List.getElem?_toArray]; exact rfl
  case hQ7A1 => exact fun _ _ _ h => h
  case hy7A1 =>
    exact Or.inr ⟨by rfl, rfl⟩
  simp only [Act.put, List.setIfInBounds_toArray, List.set_cons_zero, List.set_cons_succ]
  refine wpAnyH_take (i := 8) (oi := ?o8A1) (v := undef) ?hi8A1 (by kernel_rfl) (by kernel_rfl) (by kernel_rfl) ?hQ8A1 ?hy8A1 (Below.drew (Below.refl _ _)) ?more8A1
  case hi8A1 => rw [List.getElem?_toArray]; exact rfl
  case hQ8A1 => exact fun _ _ _ h => h
  case hy8A1 =>
    exact Or.inr ⟨by rfl, rfl⟩
  simp only [Act.put, List.setIfInBounds_toArray, List.set_cons_zero, List.set_cons_succ]
  refine wpAnyH_take (i := 9) (oi := ?o9A1) (v := ?v9A1) ?hi9A1 (by kernel_rfl) (by kernel_rfl) (by kernel_rfl) ?hQ9A1 ?hy9A1 (Below.drew (Below.refl _ _)) ?more9A1
  case hi9A1 => rw [List.getElem?_toArray]; exact rfl
  case hQ9A1 => exact fun _ _ _ h => h
  case hy9A1 =>
    refine Or.inl ⟨by rfl, ?_⟩
    intro w' hSw
    have q0 := (H2.out.2.1.call hSw).cells 0 _ rfl
    have q1 := (H2.out.2.1.call hSw).cells 1 _ rfl
    have q2 := (H2.out.2.1.call hSw).cells 2 _ rfl
    have q3 := (H2.out.2.1.call hSw).cells 3 _ rfl
    clear hSw
    go_simp
    try with_reducible rfl
  simp only [Act.put, List.setIfInBounds_toArray, List.set_cons_zero, List.set_cons_succ]
  refine wpAnyH_take (i := 10) (oi := ?o10A1) (v := ?v10A1) ?hi10A1 (by kernel_rfl) (by kernel_rfl) (by kernel_rfl) ?hQ10A1 ?hy10A1 (Below.drew (Below.refl _ _)) ?more10A1
  case hi10A1 => rw [List.getElem?_toArray]; exact rfl
  case hQ10A1 => exact fun _ _ _ h => h
  case hy10A1 =>
    refine Or.inl ⟨by rfl, ?_⟩
    intro w' hSw
    have q0 := (H2.out.2.1.call hSw).cells 0 _ rfl
    have q1 := (H2.out.2.1.call hSw).cells 1 _ rfl
    have q2 := (H2.out.2.1.call hSw).cells 2 _ rfl
    have q3 := (H2.out.2.1.call hSw).cells 3 _ rfl
    clear hSw
    go_simp
    try with_reducible rfl
  simp only [Act.put, List.setIfInBounds_toArray, List.set_cons_zero, List.set_cons_succ]
  refine wpAnyH_take (i := 11) (oi := ?o11A1) (v := undef) ?hi11A1 (by kernel_rfl) (by kernel_rfl) (by kernel_rfl) ?hQ11A1 ?hy11A1 (Below.drew (Below.refl _ _)) ?more11A1
  case hi11A1 => rw [List.getElem?_toArray]; exact rfl
  case hQ11A1 => exact fun _ _ _ h => h
  case hy11A1 =>
    exact Or.inr ⟨by rfl, rfl⟩
  simp only [Act.put, List.setIfInBounds_toArray, List.set_cons_zero, List.set_cons_succ]
  refine wpAnyH_take (i := 12) (oi := ?o12A1) (v := undef) ?hi12A1 (by kernel_rfl) (by kernel_rfl) (by kernel_rfl) ?hQ12A1 ?hy12A1 (Below.drew (Below.refl _ _)) ?more12A1
  case hi12A1 => rw [List.getElem?_toArray]; exact rfl
  case hQ12A1 => exact fun _ _ _ h => h
  case hy12A1 =>
    exact Or.inr ⟨by rfl, rfl⟩
  simp only [Act.put, List.setIfInBounds_toArray, List.set_cons_zero, List.set_cons_succ]
  refine wpAnyH_take (i := 13) (oi := ?o13A1) (v := undef) ?hi13A1 (by kernel_rfl) (by kernel_rfl) (by kernel_rfl) ?hQ13A1 ?hy13A1 (Below.drew (Below.refl _ _)) ?more13A1
  case hi13A1 => rw [List.getElem?_toArray]; exact rfl
  case hQ13A1 => exact fun _ _ _ h => h
  case hy13A1 =>
    exact Or.inr ⟨by rfl, rfl⟩
  simp only [Act.put, List.setIfInBounds_toArray, List.set_cons_zero, List.set_cons_succ]
  refine wpAnyH_take (i := 14) (oi := ?o14A1) (v := undef) ?hi14A1 (by kernel_rfl) (by kernel_rfl) (by kernel_rfl) ?hQ14A1 ?hy14A1 (Below.drew (Below.refl _ _)) ?more14A1
  case hi14A1 => rw [List.getElem?_toArray]; exact rfl
  case hQ14A1 => exact fun _ _ _ h => h
  case hy14A1 =>
    exact Or.inr ⟨by rfl, rfl⟩
  simp only [Act.put, List.setIfInBounds_toArray, List.set_cons_zero, List.set_cons_succ]
  refine wpAnyH_take (i := 15) (oi := ?o15A1) (v := ?v15A1) ?hi15A1 (by kernel_rfl) (by kernel_rfl) (by kernel_rfl) ?hQ15A1 ?hy15A1 (Below.drew (Below.refl _ _)) ?more15A1
  case hi15A1 => rw [List.getElem?_toArray]; exact rfl
  case hQ15A1 => exact fun _ _ _ h => h
  case hy15A1 =>
    refine Or.inl ⟨by rfl, ?_⟩
    intro w' hSw
    have q0 := (H2.out.2.1.call hSw).cells 0 _ rfl
    have q1 := (H2.out.2.1.call hSw).cells 1 _ rfl
    have q2 := (H2.out.2.1.call hSw).cells 2 _ rfl
    have q3 := (H2.out.2.1.call hSw).cells 3 _ rfl
    clear hSw
    go_simp
    try with_reducible rfl
  simp only [Act.put, List.setIfInBounds_toArray, List.set_cons_zero, List.set_cons_succ]
  refine wpAnyH_done (by kernel_rfl) ?_ _
  go_wp2_with fail
  refine (KL.out _ (H2.out.2.2.1.call (Below.drew (Below.refl _ _)))).mono ?_
  rintro e w9 ⟨rfl, hb9⟩
  have H9 : Hid (Below w.heap.size w w9) := below_call0 (below_call0 H2.out.1 (Below.drew (Below.refl _ _))) hb9
  clear hb9
  go_wp2_with fail
  go_ret
  exact ⟨rfl, H9.out⟩
set_option maxRecDepth 100000 in
set_option maxHeartbeats 4000000 in
theorem tells_A2 (l : List Nat) (n : Nat) (a : Option Addr) (c : Nat) (x : Int) (s : Nat) (hn : n = l.length) (hR : ∀ k ∈ l, k < R256) (hs : s < R256) (hE : atE l 0 = 20) (w : World) (hG : GA w) (hN : Nums w a l) :
    Calls Tryd.prog 6 #[.slice a n c, .int .i64 x, .agg #[.int .u64 (limb s 0 : Nat), .int .u64 (limb s 1 : Nat), .int .u64 (limb s 2 : Nat), .int .u64 (limb s 3 : Nat)]] w fun e w' => e = .returned (.bool true) ∧ Below w.heap.size w w' := by
  have KC : Hid _ := fcom_any l n a c hn hR
  have KL : Hid _ := line_ok
  have KS : Hid _ := scalars2_any
  have KH : Hid _ := has2_any QQ s (of_decide_eq_true (by kernel_rfl)) hs
  obtain ⟨W1, hW1⟩ : ∃ W1, W1 = w.alloc (.cells #[.int .u64 (limb s 0 : Nat), .int .u64 (limb s 1 : Nat), .int .u64 (limb s 2 : Nat), .int .u64 (limb s 3 : Nat)] 34) := ⟨_, rfl⟩
  have H1 : Hid (Below w.heap.size w W1 ∧ Bl W1 w.heap.size (numV s) 34 ∧ GA W1 ∧ Nums W1 a l) := by
    have hb : Below w.heap.size w W1 := by
      rw [hW1]
      exact below_alloc0 (Below.refl _ _) _
    refine ⟨hb, ?_, hG.call hb, hN.call hb⟩
    rw [hW1]
    exact Bl.new w (numV s) _
  have HW : Hid (W1 = w.alloc (.cells #[.int .u64 (limb s 0 : Nat), .int .u64 (limb s 1 : Nat), .int .u64 (limb s 2 : Nat), .int .u64 (limb s 3 : Nat)] 34)) := hW1
  clear hW1 hG hN hR hn hs
  go_enter Tryd.func6, Tryd.ntmps6
  go_upto_region 1 with fail
  rw [← HW.out]
  clear HW
  go_wp2_with fail
  refine (KC.out _ H1.out.2.2.1 H1.out.2.2.2).mono ?_
  rintro e w2 ⟨⟨b, m, rfl, hp⟩, hb2⟩
  have H2 : Hid (Below w.heap.size w w2 ∧ Bl w2 w.heap.size (numV s) 34 ∧ GA w2 ∧ Nums w2 a l ∧ (atE l 0 = 0 → m = n ∧ PtsAt w2 b (l.map fun k => gr.mul k gG))) := ⟨below_call0 H1.out.1 hb2, H1.out.2.1.call hb2, H1.out.2.2.1.call hb2, H1.out.2.2.2.call hb2, hp⟩
  clear hp hb2 H1 KC
  rw [hE]
  go_upto_region 2 with fail
  refine wp_region_H (fun w' => Below w2.heap.size w2 w') 16 rfl (by kernel_rfl) ?_
  refine wpAnyH_take (i := 0) (oi := ?o0A2) (v := ?v0A2) ?hi0A2 (by kernel_rfl) (by kernel_rfl) (by kernel_rfl) ?hQ0A2 ?hy0A2 (Below.drew (Below.refl _ _)) ?more0A2
  case hi0A2 => rw [List.getElem?_toArray]; exact rfl
  case hQ0A2 => exact fun _ _ _ h => h
  case hy0A2 =>
    refine Or.inl ⟨by rfl, ?_⟩
    intro w' hSw
    have q0 := (H2.out.2.1.call hSw).cells 0 _ rfl
    have q1 := (H2.out.2.1.call hSw).cells 1 _ rfl
    have q2 := (H2.out.2.1.call hSw).cells 2 _ rfl
    have q3 := (H2.out.2.1.call hSw).cells 3 _ rfl
    clear hSw
    go_simp
    try with_reducible rfl
  simp only [Act.put, List.setIfInBounds_toArray, List.set_cons_zero, List.set_cons_succ]
  refine wpAnyH_take (i := 1) (oi := ?o1A2) (v := ?v1A2) ?hi1A2 (by kernel_rfl) (by kernel_rfl) (by kernel_rfl) ?hQ1A2 ?hy1A2 (Below.drew (Below.refl _ _)) ?more1A2
  case hi1A2 => rw [List.getElem?_toArray]; exact rfl
  case hQ1A2 => exact fun _ _ _ h => h
  case hy1A2 =>
    refine Or.inl ⟨by rfl, ?_⟩
    intro w' hSw
    have q0 := (H2.out.2.1.call hSw).cells 0 _ rfl
    have q1 := (H2.out.2.1.call hSw).cells 1 _ rfl
    have q2 := (H2.out.2.1.call hSw).cells 2 _ rfl
    have q3 := (H2.out.2.1.call hSw).cells 3 _ rfl
    clear hSw
    go_simp
    try with_reducible rfl
  simp only [Act.put, List.setIfInBounds_toArray, List.set_cons_zero, List.set_cons_succ]
  refine wpAnyH_take (i := 2) (oi := ?o2A2) (v := ?v2A2) ?hi2A2 (by kernel_rfl) (by kernel_rfl) (by kernel_rfl) ?hQ2A2 ?hy2A2 (Below.drew (Below.refl _ _)) ?more2A2
  case hi2A2 => rw [List.getElem?_toArray]; exact rfl
  case hQ2A2 => exact fun _ _ _ h => h
  case hy2A2 =>
    refine Or.inl ⟨by rfl, ?_⟩
    intro w' hSw
    have q0 := (H2.out.2.1.call hSw).cells 0 _ rfl
    have q1 := (H2.out.2.1.call hSw).cells 1 _ rfl
    have q2 := (H2.out.2.1.call hSw).cells 2 _ rfl
    have q3 := (H2.out.2.1.call hSw).cells 3 _ rfl
    clear hSw
    go_simp
    try with_reducible rfl
  simp only [Act.put, List.setIfInBounds_toArray, List.set_cons_zero, List.set_cons_succ]
  refine wpAnyH_take (i := 3) (oi := ?o3A2) (v := undef) ?hi3A2 (by kernel_rfl) (by kernel_rfl) (by kernel_rfl) ?hQ3A2 ?hy3A2 (Below.drew (Below.refl _ _)) ?more3A2
  case hi3A2 => rw [List.getElem?_toArray]; exact rfl
  case hQ3A2 => exact fun _ _ _ h => h
  case hy3A2 =>
    exact Or.inr ⟨by rfl, rfl⟩
  simp only [Act.put, List.setIfInBounds_toArray, List.set_cons_zero, List.set_cons_succ]
  refine wpAnyH_take (i := 4) (oi := ?o4A2) (v := undef) ?hi4A2 (by kernel_rfl) (by kernel_rfl) (by kernel_rfl) ?hQ4A2 ?hy4A2 (Below.drew (Below.refl _ _)) ?more4A2
  case hi4A2 => rw [List.getElem?_toArray]; exact rfl
  case hQ4A2 => exact fun _ _ _ h => h
  case hy4A2 =>
    exact Or.inr ⟨by rfl, rfl⟩
  simp only [Act.put, List.setIfInBounds_toArray, List.set_cons_zero, List.set_cons_succ]
  refine wpAnyH_take (i := 5) (oi := ?o5A2) (v := ?v5A2) ?hi5A2 (by kernel_rfl) (by kernel_rfl) (by kernel_rfl) ?hQ5A2 ?hy5A2 (Below.drew (Below.refl _ _)) ?more5A2
  case hi5A2 => rw [List.getElem?_toArray]; exact rfl
  case hQ5A2 => exact fun _ _ _ h => h
  case hy5A2 =>
    refine Or.inl ⟨by rfl, ?_⟩
    intro w' hSw
    have q0 := (H2.out.2.1.call hSw).cells 0 _ rfl
    have q1 := (H2.out.2.1.call hSw).cells 1 _ rfl
    have q2 := (H2.out.2.1.call hSw).cells 2 _ rfl
    have q3 := (H2.out.2.1.call hSw).cells 3 _ rfl
    clear hSw
    go_simp
    try with_reducible rfl
  simp only [Act.put, List.setIfInBounds_toArray, List.set_cons_zero, List.set_cons_succ]
  refine wpAnyH_take (i := 6) (oi := ?o6A2) (v := ?v6A2) ?hi6A2 (by kernel_rfl) (by kernel_rfl) (by kernel_rfl) ?hQ6A2 ?hy6A2 (Below.drew (Below.refl _ _)) ?more6A2
  case hi6A2 => rw [List.getElem?_toArray]; exact rfl
  case hQ6A2 => exact fun _ _ _ h => h
  case hy6A2 =>
    refine Or.inl ⟨by rfl, ?_⟩
    intro w' hSw
    have q0 := (H2.out.2.1.call hSw).cells 0 _ rfl
    have q1 := (H2.out.2.1.call hSw).cells 1 _ rfl
    have q2 := (H2.out.2.1.call hSw).cells 2 _ rfl
    have q3 := (H2.out.2.1.call hSw).cells 3 _ rfl
    clear hSw
    go_simp
    try with_reducible rfl
  simp only [Act.put, List.setIfInBounds_toArray, List.set_cons_zero, List.set_cons_succ]
  refine wpAnyH_take (i := 7) (oi := ?o7A2) (v := undef) ?hi7A2 (by kernel_rfl) (by kernel_rfl) (by kernel_rfl) ?hQ7A2 ?hy7A2 (Below.drew (Below.refl _ _)) ?more7A2
  case hi7A2 => rw [List.getElem?_toArray]; exact rfl
  case hQ7A2 => exact fun _ _ _ h => h
  case hy7A2 =>
    exact Or.inr ⟨by rfl, rfl⟩
  simp only [Act.put, List.setIfInBounds_toArray, List.set_cons_zero, List.set_cons_succ]
  refine wpAnyH_take (i := 8) (oi := ?o8A2) (v := undef) ?hi8A2 (by kernel_rfl) (by kernel_rfl) (by kernel_rfl) ?hQ8A2 ?hy8A2 (Below.drew (Below.refl _ _)) ?more8A2
  case hi8A2 => rw [List.getElem?_toArray]; exact rfl
  case hQ8A2 => exact fun _ _ _ h => h
  case hy8A2 =>
    exact Or.inr ⟨by rfl, rfl⟩
  simp only [Act.put, List.setIfInBounds_toArray, List.set_cons_zero, List.set_cons_succ]
  refine wpAnyH_take (i := 9) (oi := ?o9A2) (v := ?v9A2) ?hi9A2 (by kernel_rfl) (by kernel_rfl) (by kernel_rfl) ?hQ9A2 ?hy9A2 (Below.drew (Below.refl _ _)) ?more9A2
  case hi9A2 => rw [List.getElem?_toArray]; exact rfl
  case hQ9A2 => exact fun _ _ _ h => h
  case hy9A2 =>
    refine Or.inl ⟨by rfl, ?_⟩
    intro w' hSw
    have q0 := (H2.out.2.1.call hSw).cells 0 _ rfl
    have q1 := (H2.out.2.1.call hSw).cells 1 _ rfl
    have q2 := (H2.out.2.1.call hSw).cells 2 _ rfl
    have q3 := (H2.out.2.1.call hSw).cells 3 _ rfl
    clear hSw
    go_simp
    try with_reducible rfl
  simp only [Act.put, List.setIfInBounds_toArray, List.set_cons_zero, List.set_cons_succ]
  refine wpAnyH_take (i := 10) (oi := ?o10A2) (v := ?v10A2) ?hi10A2 (by kernel_rfl) (by kernel_rfl) (by kernel_rfl) ?hQ10A2 ?hy10A2 (Below.drew (Below.refl _ _)) ?more10A2
  case hi10A2 => rw [List.getElem?_toArray]; exact rfl
  case hQ10A2 => exact fun _ _ _ h => h
  case hy10A2 =>
    refine Or.inl ⟨by rfl, ?_⟩
    intro w' hSw
    have q0 := (H2.out.2.1.call hSw).cells 0 _ rfl
    have q1 := (H2.out.2.1.call hSw).cells 1 _ rfl
    have q2 := (H2.out.2.1.call hSw).cells 2 _ rfl
    have q3 := (H2.out.2.1.call hSw).cells 3 _ rfl
    clear hSw
    go_simp
    try with_reducible rfl
  simp only [Act.put, List.setIfInBounds_toArray, List.set_cons_zero, List.set_cons_succ]
  refine wpAnyH_take (i := 11) (oi := ?o11A2) (v := undef) ?hi11A2 (by kernel_rfl) (by kernel_rfl) (by kernel_rfl) ?hQ11A2 ?hy11A2 (Below.drew (Below.refl _ _)) ?more11A2
  case hi11A2 => rw [List.getElem?_toArray]; exact rfl
  case hQ11A2 => exact fun _ _ _ h => h
  case hy11A2 =>
    exact Or.inr ⟨by rfl, rfl⟩
  simp only [Act.put, List.setIfInBounds_toArray, List.set_cons_zero, List.set_cons_succ]
  refine wpAnyH_take (i := 12) (oi := ?o12A2) (v := undef) ?hi12A2 (by kernel_rfl) (by kernel_rfl) (by kernel_rfl) ?hQ12A2 ?hy12A2 (Below.drew (Below.refl _ _)) ?more12A2
  case hi12A2 => rw [List.getElem?_toArray]; exact rfl
  case hQ12A2 => exact fun _ _ _ h => h
  case hy12A2 =>
    exact Or.inr ⟨by rfl, rfl⟩
  simp only [Act.put, List.setIfInBounds_toArray, List.set_cons_zero, List.set_cons_succ]
  refine wpAnyH_take (i := 13) (oi := ?o13A2) (v := undef) ?hi13A2 (by kernel_rfl) (by kernel_rfl) (by kernel_rfl) ?hQ13A2 ?hy13A2 (Below.drew (Below.refl _ _)) ?more13A2
  case hi13A2 => rw [List.getElem?_toArray]; exact rfl
  case hQ13A2 => exact fun _ _ _ h => h
  case hy13A2 =>
    exact Or.inr ⟨by rfl, rfl⟩
  simp only [Act.put, List.setIfInBounds_toArray, List.set_cons_zero, List.set_cons_succ]
  refine wpAnyH_take (i := 14) (oi := ?o14A2) (v := undef) ?hi14A2 (by kernel_rfl) (by kernel_rfl) (by kernel_rfl) ?hQ14A2 ?hy14A2 (Below.drew (Below.refl _ _)) ?more14A2
  case hi14A2 => rw [List.getElem?_toArray]; exact rfl
  case hQ14A2 => exact fun _ _ _ h => h
  case hy14A2 =>
    exact Or.inr ⟨by rfl, rfl⟩
  simp only [Act.put, List.setIfInBounds_toArray, List.set_cons_zero, List.set_cons_succ]
  refine wpAnyH_take (i := 15) (oi := ?o15A2) (v := ?v15A2) ?hi15A2 (by kernel_rfl) (by kernel_rfl) (by kernel_rfl) ?hQ15A2 ?hy15A2 (Below.drew (Below.refl _ _)) ?more15A2
  case hi15A2 => rw [List.getElem?_toArray]; exact rfl
  case hQ15A2 => exact fun _ _ _ h => h
  case hy15A2 =>
    refine Or.inl ⟨by rfl, ?_⟩
    intro w' hSw
    have q0 := (H2.out.2.1.call hSw).cells 0 _ rfl
    have q1 := (H2.out.2.1.call hSw).cells 1 _ rfl
    have q2 := (H2.out.2.1.call hSw).cells 2 _ rfl
    have q3 := (H2.out.2.1.call hSw).cells 3 _ rfl
    clear hSw
    go_simp
    try with_reducible rfl
  simp only [Act.put, List.setIfInBounds_toArray, List.set_cons_zero, List.set_cons_succ]
  refine wpAnyH_done (by kernel_rfl) ?_ _
  go_wp2_with fail
  refine (KL.out _ (H2.out.2.2.1.call (Below.drew (Below.refl _ _)))).mono ?_
  rintro e w9 ⟨rfl, hb9⟩
  have H9 : Hid (Below w.heap.size w w9) := below_call0 (below_call0 H2.out.1 (Below.drew (Below.refl _ _))) hb9
  clear hb9
  go_wp2_with fail
  go_ret
  exact ⟨rfl, H9.out⟩
set_option maxRecDepth 100000 in
set_option maxHeartbeats 4000000 in
theorem tells_B (l : List Nat) (n : Nat) (a : Option Addr) (c : Nat) (x : Int) (s : Nat) (hn : n = l.length) (hR : ∀ k ∈ l, k < R256) (hs : s < R256) (hE : atE l 0 = 0) (hx : x < 0) (w : World) (hG : GA w) (hN : Nums w a l) :
    Calls Tryd.prog 6 #[.slice a n c, .int .i64 x, .agg #[.int .u64 (limb s 0 : Nat), .int .u64 (limb s 1 : Nat), .int .u64 (limb s 2 : Nat), .int .u64 (limb s 3 : Nat)]] w fun e w' => e = .returned (.bool true) ∧ Below w.heap.size w w' := by
  have KC : Hid _ := fcom_any l n a c hn hR
  have KL : Hid _ := line_ok
  have KS : Hid _ := scalars2_any
  have KH : Hid _ := has2_any QQ s (of_decide_eq_true (by kernel_rfl)) hs
  obtain ⟨W1, hW1⟩ : ∃ W1, W1 = w.alloc (.cells #[.int .u64 (limb s 0 : Nat), .int .u64 (limb s 1 : Nat), .int .u64 (limb s 2 : Nat), .int .u64 (limb s 3 : Nat)] 34) := ⟨_, rfl⟩
  have H1 : Hid (Below w.heap.size w W1 ∧ Bl W1 w.heap.size (numV s) 34 ∧ GA W1 ∧ Nums W1 a l) := by
    have hb : Below w.heap.size w W1 := by
      rw [hW1]
      exact below_alloc0 (Below.refl _ _) _
    refine ⟨hb, ?_, hG.call hb, hN.call hb⟩
    rw [hW1]
    exact Bl.new w (numV s) _
  have HW : Hid (W1 = w.alloc (.cells #[.int .u64 (limb s 0 : Nat), .int .u64 (limb s 1 : Nat), .int .u64 (limb s 2 : Nat), .int .u64 (limb s 3 : Nat)] 34)) := hW1
  clear hW1 hG hN hR hn hs
  go_enter Tryd.func6, Tryd.ntmps6
  go_upto_region 1 with fail
  rw [← HW.out]
  clear HW
  go_wp2_with fail
  refine (KC.out _ H1.out.2.2.1 H1.out.2.2.2).mono ?_
  rintro e w2 ⟨⟨b, m, rfl, hp⟩, hb2⟩
  have H2 : Hid (Below w.heap.size w w2 ∧ Bl w2 w.heap.size (numV s) 34 ∧ GA w2 ∧ Nums w2 a l ∧ (atE l 0 = 0 → m = n ∧ PtsAt w2 b (l.map fun k => gr.mul k gG))) := ⟨below_call0 H1.out.1 hb2, H1.out.2.1.call hb2, H1.out.2.2.1.call hb2, H1.out.2.2.2.call hb2, hp⟩
  clear hp hb2 H1 KC
  rw [hE]
  go_upto_region 2 with fail
  refine wp_region_H (fun w' => Below w2.heap.size w2 w') 16 rfl (by kernel_rfl) ?_
  refine wpAnyH_take (i := 0) (oi := ?o0B) (v := ?v0B) ?hi0B (by kernel_rfl) (by kernel_rfl) (by kernel_rfl) ?hQ0B ?hy0B (Below.drew (Below.refl _ _)) ?more0B
  case hi0B => rw [List.getElem?_toArray]; exact rfl
  case hQ0B => exact fun _ _ _ h => h
  case hy0B =>
    refine Or.inl ⟨by rfl, ?_⟩
    intro w' hSw
    have q0 := (H2.out.2.1.call hSw).cells 0 _ rfl
    have q1 := (H2.out.2.1.call hSw).cells 1 _ rfl
    have q2 := (H2.out.2.1.call hSw).cells 2 _ rfl
    have q3 := (H2.out.2.1.call hSw).cells 3 _ rfl
    clear hSw
    go_simp
    try with_reducible rfl
  simp only [Act.put, List.setIfInBounds_toArray, List.set_cons_zero, List.set_cons_succ]
  refine wpAnyH_take (i := 1) (oi := ?o1B) (v := ?v1B) ?hi1B (by kernel_rfl) (by kernel_rfl) (by kernel_rfl) ?hQ1B ?hy1B (Below.drew (Below.refl _ _)) ?more1B
  case hi1B => rw [List.getElem?_toArray]; exact rfl
  case hQ1B => exact fun _ _ _ h => h
  case hy1B =>
    refine Or.inl ⟨by rfl, ?_⟩
    intro w' hSw
    have q0 := (H2.out.2.1.call hSw).cells 0 _ rfl
    have q1 := (H2.out.2.1.call hSw).cells 1 _ rfl
    have q2 := (H2.out.2.1.call hSw).cells 2 _ rfl
    have q3 := (H2.out.2.1.call hSw).cells 3 _ rfl
    clear hSw
    go_simp
    try with_reducible rfl
  simp only [Act.put, List.setIfInBounds_toArray, List.set_cons_zero, List.set_cons_succ]
  refine wpAnyH_take (i := 2) (oi := ?o2B) (v := ?v2B) ?hi2B (by kernel_rfl) (by kernel_rfl) (by kernel_rfl) ?hQ2B ?hy2B (Below.drew (Below.refl _ _)) ?more2B
  case hi2B => rw [List.getElem?_toArray]; exact rfl
  case hQ2B => exact fun _ _ _ h => h
  case hy2B =>
    refine Or.inl ⟨by rfl, ?_⟩
    intro w' hSw
    have q0 := (H2.out.2.1.call hSw).cells 0 _ rfl
    have q1 := (H2.out.2.1.call hSw).cells 1 _ rfl
    have q2 := (H2.out.2.1.call hSw).cells 2 _ rfl
    have q3 := (H2.out.2.1.call hSw).cells 3 _ rfl
    clear hSw
    go_simp
    try with_reducible rfl
  simp only [Act.put, List.setIfInBounds_toArray, List.set_cons_zero, List.set_cons_succ]
  refine wpAnyH_take (i := 3) (oi := ?o3B) (v := ?v3B) ?hi3B (by kernel_rfl) (by kernel_rfl) (by kernel_rfl) ?hQ3B ?hy3B (Below.drew (Below.refl _ _)) ?more3B
  case hi3B => rw [List.getElem?_toArray]; exact rfl
  case hQ3B => exact fun _ _ _ h => h
  case hy3B =>
    refine Or.inl ⟨by rfl, ?_⟩
    intro w' hSw
    have q0 := (H2.out.2.1.call hSw).cells 0 _ rfl
    have q1 := (H2.out.2.1.call hSw).cells 1 _ rfl
    have q2 := (H2.out.2.1.call hSw).cells 2 _ rfl
    have q3 := (H2.out.2.1.call hSw).cells 3 _ rfl
    clear hSw
    go_simp
    try with_reducible rfl
  simp only [Act.put, List.setIfInBounds_toArray, List.set_cons_zero, List.set_cons_succ]
  refine wpAnyH_take (i := 4) (oi := ?o4B) (v := ?v4B) ?hi4B (by kernel_rfl) (by kernel_rfl) (by kernel_rfl) ?hQ4B ?hy4B (Below.drew (Below.refl _ _)) ?more4B
  case hi4B => rw [List.getElem?_toArray]; exact rfl
  case hQ4B => exact fun _ _ _ h => h
  case hy4B =>
    refine Or.inl ⟨by rfl, ?_⟩
    intro w' hSw
    have q0 := (H2.out.2.1.call hSw).cells 0 _ rfl
    have q1 := (H2.out.2.1.call hSw).cells 1 _ rfl
    have q2 := (H2.out.2.1.call hSw).cells 2 _ rfl
    have q3 := (H2.out.2.1.call hSw).cells 3 _ rfl
    clear hSw
    go_simp
    try with_reducible rfl
  simp only [Act.put, List.setIfInBounds_toArray, List.set_cons_zero, List.set_cons_succ]
  refine wpAnyH_take (i := 5) (oi := ?o5B) (v := ?v5B) ?hi5B (by kernel_rfl) (by kernel_rfl) (by kernel_rfl) ?hQ5B ?hy5B (Below.drew (Below.refl _ _)) ?more5B
  case hi5B => rw [List.getElem?_toArray]; exact rfl
  case hQ5B => exact fun _ _ _ h => h
  case hy5B =>
    refine Or.inl ⟨by rfl, ?_⟩
    intro w' hSw
    have q0 := (H2.out.2.1.call hSw).cells 0 _ rfl
    have q1 := (H2.out.2.1.call hSw).cells 1 _ rfl
    have q2 := (H2.out.2.1.call hSw).cells 2 _ rfl
    have q3 := (H2.out.2.1.call hSw).cells 3 _ rfl
    clear hSw
    go_simp
    try with_reducible rfl
  simp only [Act.put, List.setIfInBounds_toArray, List.set_cons_zero, List.set_cons_succ]
  refine wpAnyH_take (i := 6) (oi := ?o6B) (v := ?v6B) ?hi6B (by kernel_rfl) (by kernel_rfl) (by kernel_rfl) ?hQ6B ?hy6B (Below.drew (Below.refl _ _)) ?more6B
  case hi6B => rw [List.getElem?_toArray]; exact rfl
  case hQ6B => exact fun _ _ _ h => h
  case hy6B =>
    refine Or.inl ⟨by rfl, ?_⟩
    intro w' hSw
    have q0 := (H2.out.2.1.call hSw).cells 0 _ rfl
    have q1 := (H2.out.2.1.call hSw).cells 1 _ rfl
    have q2 := (H2.out.2.1.call hSw).cells 2 _ rfl
    have q3 := (H2.out.2.1.call hSw).cells 3 _ rfl
    clear hSw
    go_simp
    try with_reducible rfl
  simp only [Act.put, List.setIfInBounds_toArray, List.set_cons_zero, List.set_cons_succ]
  refine wpAnyH_take (i := 7) (oi := ?o7B) (v := undef) ?hi7B (by kernel_rfl) (by kernel_rfl) (by kernel_rfl) ?hQ7B ?hy7B (Below.drew (Below.refl _ _)) ?more7B
  case hi7B => rw [List.getElem?_toArray]; exact rfl
  case hQ7B => exact fun _ _ _ h => h
  case hy7B =>
    exact Or.inr ⟨by rfl, rfl⟩
  simp only [Act.put, List.setIfInBounds_toArray, List.set_cons_zero, List.set_cons_succ]
  refine wpAnyH_take (i := 8) (oi := ?o8B) (v := undef) ?hi8B (by kernel_rfl) (by kernel_rfl) (by kernel_rfl) ?hQ8B ?hy8B (Below.drew (Below.refl _ _)) ?more8B
  case hi8B => rw [List.getElem?_toArray]; exact rfl
  case hQ8B => exact fun _ _ _ h => h
  case hy8B =>
    exact Or.inr ⟨by rfl, rfl⟩
  simp only [Act.put, List.setIfInBounds_toArray, List.set_cons_zero, List.set_cons_succ]
  refine wpAnyH_take (i := 9) (oi := ?o9B) (v := ?v9B) ?hi9B (by kernel_rfl) (by kernel_rfl) (by kernel_rfl) ?hQ9B ?hy9B (Below.drew (Below.refl _ _)) ?more9B
  case hi9B => rw [List.getElem?_toArray]; exact rfl
  case hQ9B => exact fun _ _ _ h => h
  case hy9B =>
    refine Or.inl ⟨by rfl, ?_⟩
    intro w' hSw
    have q0 := (H2.out.2.1.call hSw).cells 0 _ rfl
    have q1 := (H2.out.2.1.call hSw).cells 1 _ rfl
    have q2 := (H2.out.2.1.call hSw).cells 2 _ rfl
    have q3 := (H2.out.2.1.call hSw).cells 3 _ rfl
    clear hSw
    go_simp
    try with_reducible rfl
  simp only [Act.put, List.setIfInBounds_toArray, List.set_cons_zero, List.set_cons_succ]
  refine wpAnyH_take (i := 10) (oi := ?o10B) (v := ?v10B) ?hi10B (by kernel_rfl) (by kernel_rfl) (by kernel_rfl) ?hQ10B ?hy10B (Below.drew (Below.refl _ _)) ?more10B
  case hi10B => rw [List.getElem?_toArray]; exact rfl
  case hQ10B => exact fun _ _ _ h => h
  case hy10B =>
    refine Or.inl ⟨by rfl, ?_⟩
    intro w' hSw
    have q0 := (H2.out.2.1.call hSw).cells 0 _ rfl
    have q1 := (H2.out.2.1.call hSw).cells 1 _ rfl
    have q2 := (H2.out.2.1.call hSw).cells 2 _ rfl
    have q3 := (H2.out.2.1.call hSw).cells 3 _ rfl
    clear hSw
    go_simp
    try with_reducible rfl
  simp only [Act.put, List.setIfInBounds_toArray, List.set_cons_zero, List.set_cons_succ]
  refine wpAnyH_take (i := 11) (oi := ?o11B) (v := undef) ?hi11B (by kernel_rfl) (by kernel_rfl) (by kernel_rfl) ?hQ11B ?hy11B (Below.drew (Below.refl _ _)) ?more11B
  case hi11B => rw [List.getElem?_toArray]; exact rfl
  case hQ11B => exact fun _ _ _ h => h
  case hy11B =>
    exact Or.inr ⟨by rfl, rfl⟩
  simp only [Act.put, List.setIfInBounds_toArray, List.set_cons_zero, List.set_cons_succ]
  refine wpAnyH_take (i := 12) (oi := ?o12B) (v := undef) ?hi12B (by kernel_rfl) (by kernel_rfl) (by kernel_rfl) ?hQ12B ?hy12B (Below.drew (Below.refl _ _)) ?more12B
  case hi12B => rw [List.getElem?_toArray]; exact rfl
  case hQ12B => exact fun _ _ _ h => h
  case hy12B =>
    exact Or.inr ⟨by rfl, rfl⟩
  simp only [Act.put, List.setIfInBounds_toArray, List.set_cons_zero, List.set_cons_succ]
  refine wpAnyH_take (i := 13) (oi := ?o13B) (v := undef) ?hi13B (by kernel_rfl) (by kernel_rfl) (by kernel_rfl) ?hQ13B ?hy13B (Below.drew (Below.refl _ _)) ?more13B
  case hi13B => rw [List.getElem?_toArray]; exact rfl
  case hQ13B => exact fun _ _ _ h => h
  case hy13B =>
    exact Or.inr ⟨by rfl, rfl⟩
  simp only [Act.put, List.setIfInBounds_toArray, List.set_cons_zero, List.set_cons_succ]
  refine wpAnyH_take (i := 14) (oi := ?o14B) (v := undef) ?hi14B (by kernel_rfl) (by kernel_rfl) (by kernel_rfl) ?hQ14B ?hy14B (Below.drew (Below.refl _ _)) ?more14B
  case hi14B => rw [List.getElem?_toArray]; exact rfl
  case hQ14B => exact fun _ _ _ h => h
  case hy14B =>
    exact Or.inr ⟨by rfl, rfl⟩
  simp only [Act.put, List.setIfInBounds_toArray, List.set_cons_zero, List.set_cons_succ]
  refine wpAnyH_take (i := 15) (oi := ?o15B) (v := ?v15B) ?hi15B (by kernel_rfl) (by kernel_rfl) (by kernel_rfl) ?hQ15B ?hy15B (Below.drew (Below.refl _ _)) ?more15B
  case hi15B => rw [List.getElem?_toArray]; exact rfl
  case hQ15B => exact fun _ _ _ h => h
  case hy15B =>
    refine Or.inl ⟨by rfl, ?_⟩
    intro w' hSw
    have q0 := (H2.out.2.1.call hSw).cells 0 _ rfl
    have q1 := (H2.out.2.1.call hSw).cells 1 _ rfl
    have q2 := (H2.out.2.1.call hSw).cells 2 _ rfl
    have q3 := (H2.out.2.1.call hSw).cells 3 _ rfl
    clear hSw
    go_simp
    try with_reducible rfl
  simp only [Act.put, List.setIfInBounds_toArray, List.set_cons_zero, List.set_cons_succ]
  refine wpAnyH_done (by kernel_rfl) ?_ _
  go_wp2_with fail
  refine (KL.out _ (H2.out.2.2.1.call (Below.drew (Below.refl _ _)))).mono ?_
  rintro e w9 ⟨rfl, hb9⟩
  have H9 : Hid (Below w.heap.size w w9) := below_call0 (below_call0 H2.out.1 (Below.drew (Below.refl _ _))) hb9
  clear hb9
  go_wp2_with fail
  go_ret
  exact ⟨rfl, H9.out⟩
set_option maxRecDepth 100000 in
set_option maxHeartbeats 4000000 in
theorem tells_C (l : List Nat) (n : Nat) (a : Option Addr) (c : Nat) (x : Int) (s : Nat) (hn : n = l.length) (hR : ∀ k ∈ l, k < R256) (hs : s < R256) (hE : atE l 0 = 0) (hx0 : ¬ x < 0) (hx : 10 < x) (w : World) (hG : GA w) (hN : Nums w a l) :
    Calls Tryd.prog 6 #[.slice a n c, .int .i64 x, .agg #[.int .u64 (limb s 0 : Nat), .int .u64 (limb s 1 : Nat), .int .u64 (limb s 2 : Nat), .int .u64 (limb s 3 : Nat)]] w fun e w' => e = .returned (.bool true) ∧ Below w.heap.size w w' := by
  have KC : Hid _ := fcom_any l n a c hn hR
  have KL : Hid _ := line_ok
  have KS : Hid _ := scalars2_any
  have KH : Hid _ := has2_any QQ s (of_decide_eq_true (by kernel_rfl)) hs
  have d1 : decide (x < 0) = false := decide_eq_false hx0
  have d2 : decide (10 < x) = true := decide_eq_true hx
  obtain ⟨W1, hW1⟩ : ∃ W1, W1 = w.alloc (.cells #[.int .u64 (limb s 0 : Nat), .int .u64 (limb s 1 : Nat), .int .u64 (limb s 2 : Nat), .int .u64 (limb s 3 : Nat)] 34) := ⟨_, rfl⟩
  have H1 : Hid (Below w.heap.size w W1 ∧ Bl W1 w.heap.size (numV s) 34 ∧ GA W1 ∧ Nums W1 a l) := by
    have hb : Below w.heap.size w W1 := by
      rw [hW1]
      exact below_alloc0 (Below.refl _ _) _
    refine ⟨hb, ?_, hG.call hb, hN.call hb⟩
    rw [hW1]
    exact Bl.new w (numV s) _
  have HW : Hid (W1 = w.alloc (.cells #[.int .u64 (limb s 0 : Nat), .int .u64 (limb s 1 : Nat), .int .u64 (limb s 2 : Nat), .int .u64 (limb s 3 : Nat)] 34)) := hW1
  clear hW1 hG hN hR hn hs
  go_enter Tryd.func6, Tryd.ntmps6
  go_upto_region 1 with fail
  rw [← HW.out]
  clear HW
  go_wp2_with fail
  refine (KC.out _ H1.out.2.2.1 H1.out.2.2.2).mono ?_
  rintro e w2 ⟨⟨b, m, rfl, hp⟩, hb2⟩
  have H2 : Hid (Below w.heap.size w w2 ∧ Bl w2 w.heap.size (numV s) 34 ∧ GA w2 ∧ Nums w2 a l ∧ (atE l 0 = 0 → m = n ∧ PtsAt w2 b (l.map fun k => gr.mul k gG))) := ⟨below_call0 H1.out.1 hb2, H1.out.2.1.call hb2, H1.out.2.2.1.call hb2, H1.out.2.2.2.call hb2, hp⟩
  clear hp hb2 H1 KC
  rw [hE]
  go_upto_region 2 with fail
  refine wp_region_H (fun w' => Below w2.heap.size w2 w') 16 rfl (by kernel_rfl) ?_
  refine wpAnyH_take (i := 0) (oi := ?o0C) (v := ?v0C) ?hi0C (by kernel_rfl) (by kernel_rfl) (by kernel_rfl) ?hQ0C ?hy0C (Below.drew (Below.refl _ _)) ?more0C
  case hi0C => rw [List.getElem?_toArray]; exact rfl
  case hQ0C => exact fun _ _ _ h => h
  case hy0C =>
    refine Or.inl ⟨by rfl, ?_⟩
    intro w' hSw
    have q0 := (H2.out.2.1.call hSw).cells 0 _ rfl
    have q1 := (H2.out.2.1.call hSw).cells 1 _ rfl
    have q2 := (H2.out.2.1.call hSw).cells 2 _ rfl
    have q3 := (H2.out.2.1.call hSw).cells 3 _ rfl
    clear hSw
    go_simp
    try with_reducible rfl
  simp only [Act.put, List.setIfInBounds_toArray, List.set_cons_zero, List.set_cons_succ]
  refine wpAnyH_take (i := 1) (oi := ?o1C) (v := ?v1C) ?hi1C (by kernel_rfl) (by kernel_rfl) (by kernel_rfl) ?hQ1C ?hy1C (Below.drew (Below.refl _ _)) ?more1C
  case hi1C => rw [List.getElem?_toArray]; exact rfl
  case hQ1C => exact fun _ _ _ h => h
  case hy1C =>
    refine Or.inl ⟨by rfl, ?_⟩
    intro w' hSw
    have q0 := (H2.out.2.1.call hSw).cells 0 _ rfl
    have q1 := (H2.out.2.1.call hSw).cells 1 _ rfl
    have q2 := (H2.out.2.1.call hSw).cells 2 _ rfl
    have q3 := (H2.out.2.1.call hSw).cells 3 _ rfl
    clear hSw
    go_simp
    try with_reducible rfl
  simp only [Act.put, List.setIfInBounds_toArray, List.set_cons_zero, List.set_cons_succ]
  refine wpAnyH_take (i := 2) (oi := ?o2C) (v := ?v2C) ?hi2C (by kernel_rfl) (by kernel_rfl) (by kernel_rfl) ?hQ2C ?hy2C (Below.drew (Below.refl _ _)) ?more2C
  case hi2C => rw [List.getElem?_toArray]; exact rfl
  case hQ2C => exact fun _ _ _ h => h
  case hy2C =>
    refine Or.inl ⟨by rfl, ?_⟩
    intro w' hSw
    have q0 := (H2.out.2.1.call hSw).cells 0 _ rfl
    have q1 := (H2.out.2.1.call hSw).cells 1 _ rfl
    have q2 := (H2.out.2.1.call hSw).cells 2 _ rfl
    have q3 := (H2.out.2.1.call hSw).cells 3 _ rfl
    clear hSw
    go_simp
    try with_reducible rfl
  simp only [Act.put, List.setIfInBounds_toArray, List.set_cons_zero, List.set_cons_succ]
  refine wpAnyH_take (i := 3) (oi := ?o3C) (v := ?v3C) ?hi3C (by kernel_rfl) (by kernel_rfl) (by kernel_rfl) ?hQ3C ?hy3C (Below.drew (Below.refl _ _)) ?more3C
  case hi3C => rw [List.getElem?_toArray]; exact rfl
  case hQ3C => exact fun _ _ _ h => h
  case hy3C =>
    refine Or.inl ⟨by rfl, ?_⟩
    intro w' hSw
    have q0 := (H2.out.2.1.call hSw).cells 0 _ rfl
    have q1 := (H2.out.2.1.call hSw).cells 1 _ rfl
    have q2 := (H2.out.2.1.call hSw).cells 2 _ rfl
    have q3 := (H2.out.2.1.call hSw).cells 3 _ rfl
    clear hSw
    go_simp
    try with_reducible rfl
  simp only [Act.put, List.setIfInBounds_toArray, List.set_cons_zero, List.set_cons_succ]
  refine wpAnyH_take (i := 4) (oi := ?o4C) (v := ?v4C) ?hi4C (by kernel_rfl) (by kernel_rfl) (by kernel_rfl) ?hQ4C ?hy4C (Below.drew (Below.refl _ _)) ?more4C
  case hi4C => rw [List.getElem?_toArray]; exact rfl
  case hQ4C => exact fun _ _ _ h => h
  case hy4C =>
    refine Or.inl ⟨by rfl, ?_⟩
    intro w' hSw
    have q0 := (H2.out.2.1.call hSw).cells 0 _ rfl
    have q1 := (H2.out.2.1.call hSw).cells 1 _ rfl
    have q2 := (H2.out.2.1.call hSw).cells 2 _ rfl
    have q3 := (H2.out.2.1.call hSw).cells 3 _ rfl
    clear hSw
    go_simp
    try with_reducible rfl
  simp only [Act.put, List.setIfInBounds_toArray, List.set_cons_zero, List.set_cons_succ]
  refine wpAnyH_take (i := 5) (oi := ?o5C) (v := ?v5C) ?hi5C (by kernel_rfl) (by kernel_rfl) (by kernel_rfl) ?hQ5C ?hy5C (Below.drew (Below.refl _ _)) ?more5C
  case hi5C => rw [List.getElem?_toArray]; exact rfl
  case hQ5C => exact fun _ _ _ h => h
  case hy5C =>
    refine Or.inl ⟨by rfl, ?_⟩
    intro w' hSw
    have q0 := (H2.out.2.1.call hSw).cells 0 _ rfl
    have q1 := (H2.out.2.1.call hSw).cells 1 _ rfl
    have q2 := (H2.out.2.1.call hSw).cells 2 _ rfl
    have q3 := (H2.out.2.1.call hSw).cells 3 _ rfl
    clear hSw
    go_simp
    try with_reducible rfl
  simp only [Act.put, List.setIfInBounds_toArray, List.set_cons_zero, List.set_cons_succ]
  refine wpAnyH_take (i := 6) (oi := ?o6C) (v := ?v6C) ?hi6C (by kernel_rfl) (by kernel_rfl) (by kernel_rfl) ?hQ6C ?hy6C (Below.drew (Below.refl _ _)) ?more6C
  case hi6C => rw [List.getElem?_toArray]; exact rfl
  case hQ6C => exact fun _ _ _ h => h
  case hy6C =>
    refine Or.inl ⟨by rfl, ?_⟩
    intro w' hSw
    have q0 := (H2.out.2.1.call hSw).cells 0 _ rfl
    have q1 := (H2.out.2.1.call hSw).cells 1 _ rfl
    have q2 := (H2.out.2.1.call hSw).cells 2 _ rfl
    have q3 := (H2.out.2.1.call hSw).cells 3 _ rfl
    clear hSw
    go_simp
    try with_reducible rfl
  simp only [Act.put, List.setIfInBounds_toArray, List.set_cons_zero, List.set_cons_succ]
  refine wpAnyH_take (i := 7) (oi := ?o7C) (v := ?v7C) ?hi7C (by kernel_rfl) (by kernel_rfl) (by kernel_rfl) ?hQ7C ?hy7C (Below.drew (Below.refl _ _)) ?more7C
  case hi7C => rw [List.getElem?_toArray]; exact rfl
  case hQ7C => exact fun _ _ _ h => h
  case hy7C =>
    refine Or.inl ⟨by rfl, ?_⟩
    intro w' hSw
    have q0 := (H2.out.2.1.call hSw).cells 0 _ rfl
    have q1 := (H2.out.2.1.call hSw).cells 1 _ rfl
    have q2 := (H2.out.2.1.call hSw).cells 2 _ rfl
    have q3 := (H2.out.2.1.call hSw).cells 3 _ rfl
    clear hSw
    go_simp
    try with_reducible rfl
  simp only [Act.put, List.setIfInBounds_toArray, List.set_cons_zero, List.set_cons_succ]
  refine wpAnyH_take (i := 8) (oi := ?o8C) (v := ?v8C) ?hi8C (by kernel_rfl) (by kernel_rfl) (by kernel_rfl) ?hQ8C ?hy8C (Below.drew (Below.refl _ _)) ?more8C
  case hi8C => rw [List.getElem?_toArray]; exact rfl
  case hQ8C => exact fun _ _ _ h => h
  case hy8C =>
    refine Or.inl ⟨by rfl, ?_⟩
    intro w' hSw
    have q0 := (H2.out.2.1.call hSw).cells 0 _ rfl
    have q1 := (H2.out.2.1.call hSw).cells 1 _ rfl
    have q2 := (H2.out.2.1.call hSw).cells 2 _ rfl
    have q3 := (H2.out.2.1.call hSw).cells 3 _ rfl
    clear hSw
    go_simp
    try with_reducible rfl
  simp only [Act.put, List.setIfInBounds_toArray, List.set_cons_zero, List.set_cons_succ]
  refine wpAnyH_take (i := 9) (oi := ?o9C) (v := ?v9C) ?hi9C (by kernel_rfl) (by kernel_rfl) (by kernel_rfl) ?hQ9C ?hy9C (Below.drew (Below.refl _ _)) ?more9C
  case hi9C => rw [List.getElem?_toArray]; exact rfl
  case hQ9C => exact fun _ _ _ h => h
  case hy9C =>
    refine Or.inl ⟨by rfl, ?_⟩
    intro w' hSw
    have q0 := (H2.out.2.1.call hSw).cells 0 _ rfl
    have q1 := (H2.out.2.1.call hSw).cells 1 _ rfl
    have q2 := (H2.out.2.1.call hSw).cells 2 _ rfl
    have q3 := (H2.out.2.1.call hSw).cells 3 _ rfl
    clear hSw
    go_simp
    try with_reducible rfl
  simp only [Act.put, List.setIfInBounds_toArray, List.set_cons_zero, List.set_cons_succ]
  refine wpAnyH_take (i := 10) (oi := ?o10C) (v := ?v10C) ?hi10C (by kernel_rfl) (by kernel_rfl) (by kernel_rfl) ?hQ10C ?hy10C (Below.drew (Below.refl _ _)) ?more10C
  case hi10C => rw [List.getElem?_toArray]; exact rfl
  case hQ10C => exact fun _ _ _ h => h
  case hy10C =>
    refine Or.inl ⟨by rfl, ?_⟩
    intro w' hSw
    have q0 := (H2.out.2.1.call hSw).cells 0 _ rfl
    have q1 := (H2.out.2.1.call hSw).cells 1 _ rfl
    have q2 := (H2.out.2.1.call hSw).cells 2 _ rfl
    have q3 := (H2.out.2.1.call hSw).cells 3 _ rfl
    clear hSw
    go_simp
    try with_reducible rfl
  simp only [Act.put, List.setIfInBounds_toArray, List.set_cons_zero, List.set_cons_succ]
  refine wpAnyH_take (i := 11) (oi := ?o11C) (v := undef) ?hi11C (by kernel_rfl) (by kernel_rfl) (by kernel_rfl) ?hQ11C ?hy11C (Below.drew (Below.refl _ _)) ?more11C
  case hi11C => rw [List.getElem?_toArray]; exact rfl
  case hQ11C => exact fun _ _ _ h => h
  case hy11C =>
    exact Or.inr ⟨by rfl, rfl⟩
  simp only [Act.put, List.setIfInBounds_toArray, List.set_cons_zero, List.set_cons_succ]
  refine wpAnyH_take (i := 12) (oi := ?o12C) (v := undef) ?hi12C (by kernel_rfl) (by kernel_rfl) (by kernel_rfl) ?hQ12C ?hy12C (Below.drew (Below.refl _ _)) ?more12C
  case hi12C => rw [List.getElem?_toArray]; exact rfl
  case hQ12C => exact fun _ _ _ h => h
  case hy12C =>
    exact Or.inr ⟨by rfl, rfl⟩
  simp only [Act.put, List.setIfInBounds_toArray, List.set_cons_zero, List.set_cons_succ]
  refine wpAnyH_take (i := 13) (oi := ?o13C) (v := undef) ?hi13C (by kernel_rfl) (by kernel_rfl) (by kernel_rfl) ?hQ13C ?hy13C (Below.drew (Below.refl _ _)) ?more13C
  case hi13C => rw [List.getElem?_toArray]; exact rfl
  case hQ13C => exact fun _ _ _ h => h
  case hy13C =>
    exact Or.inr ⟨by rfl, rfl⟩
  simp only [Act.put, List.setIfInBounds_toArray, List.set_cons_zero, List.set_cons_succ]
  refine wpAnyH_take (i := 14) (oi := ?o14C) (v := undef) ?hi14C (by kernel_rfl) (by kernel_rfl) (by kernel_rfl) ?hQ14C ?hy14C (Below.drew (Below.refl _ _)) ?more14C
  case hi14C => rw [List.getElem?_toArray]; exact rfl
  case hQ14C => exact fun _ _ _ h => h
  case hy14C =>
    exact Or.inr ⟨by rfl, rfl⟩
  simp only [Act.put, List.setIfInBounds_toArray, List.set_cons_zero, List.set_cons_succ]
  refine wpAnyH_take (i := 15) (oi := ?o15C) (v := ?v15C) ?hi15C (by kernel_rfl) (by kernel_rfl) (by kernel_rfl) ?hQ15C ?hy15C (Below.drew (Below.refl _ _)) ?more15C
  case hi15C => rw [List.getElem?_toArray]; exact rfl
  case hQ15C => exact fun _ _ _ h => h
  case hy15C =>
    refine Or.inl ⟨by rfl, ?_⟩
    intro w' hSw
    have q0 := (H2.out.2.1.call hSw).cells 0 _ rfl
    have q1 := (H2.out.2.1.call hSw).cells 1 _ rfl
    have q2 := (H2.out.2.1.call hSw).cells 2 _ rfl
    have q3 := (H2.out.2.1.call hSw).cells 3 _ rfl
    clear hSw
    go_simp
    try with_reducible rfl
  simp only [Act.put, List.setIfInBounds_toArray, List.set_cons_zero, List.set_cons_succ]
  refine wpAnyH_done (by kernel_rfl) ?_ _
  go_wp2_with fail
  refine (KL.out _ (H2.out.2.2.1.call (Below.drew (Below.refl _ _)))).mono ?_
  rintro e w9 ⟨rfl, hb9⟩
  have H9 : Hid (Below w.heap.size w w9) := below_call0 (below_call0 H2.out.1 (Below.drew (Below.refl _ _))) hb9
  clear hb9
  go_wp2_with fail
  go_ret
  exact ⟨rfl, H9.out⟩
set_option maxRecDepth 100000 in
set_option maxHeartbeats 4000000 in
theorem tells_D (l : List Nat) (n : Nat) (a : Option Addr) (c : Nat) (x : Int) (s : Nat) (hn : n = l.length) (hR : ∀ k ∈ l, k < R256) (hs : s < R256) (hE : atE l 0 = 0) (hx0 : ¬ x < 0) (hx : ¬ 10 < x) (hQ : ¬ s < QQ) (w : World) (hG : GA w) (hN : Nums w a l) :
    Calls Tryd.prog 6 #[.slice a n c, .int .i64 x, .agg #[.int .u64 (limb s 0 : Nat), .int .u64 (limb s 1 : Nat), .int .u64 (limb s 2 : Nat), .int .u64 (limb s 3 : Nat)]] w fun e w' => e = .returned (.bool true) ∧ Below w.heap.size w w' := by
  have KC : Hid _ := fcom_any l n a c hn hR
  have KL : Hid _ := line_ok
  have KS : Hid _ := scalars2_any
  have KH : Hid _ := has2_any QQ s (of_decide_eq_true (by kernel_rfl)) hs
  have HH : Hid (decide (s < QQ) = false) := decide_eq_false hQ
  have d1 : decide (x < 0) = false := decide_eq_false hx0
  have d2 : decide (10 < x) = false := decide_eq_false hx
  obtain ⟨W1, hW1⟩ : ∃ W1, W1 = w.alloc (.cells #[.int .u64 (limb s 0 : Nat), .int .u64 (limb s 1 : Nat), .int .u64 (limb s 2 : Nat), .int .u64 (limb s 3 : Nat)] 34) := ⟨_, rfl⟩
  have H1 : Hid (Below w.heap.size w W1 ∧ Bl W1 w.heap.size (numV s) 34 ∧ GA W1 ∧ Nums W1 a l) := by
    have hb : Below w.heap.size w W1 := by
      rw [hW1]
      exact below_alloc0 (Below.refl _ _) _
    refine ⟨hb, ?_, hG.call hb, hN.call hb⟩
    rw [hW1]
    exact Bl.new w (numV s) _
  have HW : Hid (W1 = w.alloc (.cells #[.int .u64 (limb s 0 : Nat), .int .u64 (limb s 1 : Nat), .int .u64 (limb s 2 : Nat), .int .u64 (limb s 3 : Nat)] 34)) := hW1
  clear hW1 hG hN hR hn hs
  go_enter Tryd.func6, Tryd.ntmps6
  go_upto_region 1 with fail
  rw [← HW.out]
  clear HW
  go_wp2_with fail
  refine (KC.out _ H1.out.2.2.1 H1.out.2.2.2).mono ?_
  rintro e w2 ⟨⟨b, m, rfl, hp⟩, hb2⟩
  have H2 : Hid (Below w.heap.size w w2 ∧ Bl w2 w.heap.size (numV s) 34 ∧ GA w2 ∧ Nums w2 a l ∧ (atE l 0 = 0 → m = n ∧ PtsAt w2 b (l.map fun k => gr.mul k gG))) := ⟨below_call0 H1.out.1 hb2, H1.out.2.1.call hb2, H1.out.2.2.1.call hb2, H1.out.2.2.2.call hb2, hp⟩
  clear hp hb2 H1 KC
  rw [hE]
  go_upto_region 2 with fail
  refine wp_region_H (fun w' => Below w2.heap.size w2 w') 16 rfl (by kernel_rfl) ?_
  refine wpAnyH_take (i := 0) (oi := ?o0D) (v := ?v0D) ?hi0D (by kernel_rfl) (by kernel_rfl) (by kernel_rfl) ?hQ0D ?hy0D (Below.drew (Below.refl _ _)) ?more0D
  case hi0D => rw [List.getElem?_toArray]; exact rfl
  case hQ0D => exact fun _ _ _ h => h
  case hy0D =>
    refine Or.inl ⟨by rfl, ?_⟩
    intro w' hSw
    have q0 := (H2.out.2.1.call hSw).cells 0 _ rfl
    have q1 := (H2.out.2.1.call hSw).cells 1 _ rfl
    have q2 := (H2.out.2.1.call hSw).cells 2 _ rfl
    have q3 := (H2.out.2.1.call hSw).cells 3 _ rfl
    clear hSw
    go_simp
    try with_reducible rfl
  simp only [Act.put, List.setIfInBounds_toArray, List.set_cons_zero, List.set_cons_succ]
  refine wpAnyH_take (i := 1) (oi := ?o1D) (v := ?v1D) ?hi1D (by kernel_rfl) (by kernel_rfl) (by kernel_rfl) ?hQ1D ?hy1D (Below.drew (Below.refl _ _)) ?more1D
  case hi1D => rw [List.getElem?_toArray]; exact rfl
  case hQ1D => exact fun _ _ _ h => h
  case hy1D =>
    refine Or.inl ⟨by rfl, ?_⟩
    intro w' hSw
    have q0 := (H2.out.2.1.call hSw).cells 0 _ rfl
    have q1 := (H2.out.2.1.call hSw).cells 1 _ rfl
    have q2 := (H2.out.2.1.call hSw).cells 2 _ rfl
    have q3 := (H2.out.2.1.call hSw).cells 3 _ rfl
    clear hSw
    go_simp
    try with_reducible rfl
  simp only [Act.put, List.setIfInBounds_toArray, List.set_cons_zero, List.set_cons_succ]
  refine wpAnyH_take (i := 2) (oi := ?o2D) (v := ?v2D) ?hi2D (by kernel_rfl) (by kernel_rfl) (by kernel_rfl) ?hQ2D ?hy2D (Below.drew (Below.refl _ _)) ?more2D
  case hi2D => rw [List.getElem?_toArray]; exact rfl
  case hQ2D => exact fun _ _ _ h => h
  case hy2D =>
    refine Or.inl ⟨by rfl, ?_⟩
    intro w' hSw
    have q0 := (H2.out.2.1.call hSw).cells 0 _ rfl
    have q1 := (H2.out.2.1.call hSw).cells 1 _ rfl
    have q2 := (H2.out.2.1.call hSw).cells 2 _ rfl
    have q3 := (H2.out.2.1.call hSw).cells 3 _ rfl
    clear hSw
    go_simp
    try with_reducible rfl
  simp only [Act.put, List.setIfInBounds_toArray, List.set_cons_zero, List.set_cons_succ]
  refine wpAnyH_take (i := 3) (oi := ?o3D) (v := ?v3D) ?hi3D (by kernel_rfl) (by kernel_rfl) (by kernel_rfl) ?hQ3D ?hy3D (Below.drew (Below.refl _ _)) ?more3D
  case hi3D => rw [List.getElem?_toArray]; exact rfl
  case hQ3D => exact fun _ _ _ h => h
  case hy3D =>
    refine Or.inl ⟨by rfl, ?_⟩
    intro w' hSw
    have q0 := (H2.out.2.1.call hSw).cells 0 _ rfl
    have q1 := (H2.out.2.1.call hSw).cells 1 _ rfl
    have q2 := (H2.out.2.1.call hSw).cells 2 _ rfl
    have q3 := (H2.out.2.1.call hSw).cells 3 _ rfl
    clear hSw
    go_simp
    try with_reducible rfl
  simp only [Act.put, List.setIfInBounds_toArray, List.set_cons_zero, List.set_cons_succ]
  refine wpAnyH_take (i := 4) (oi := ?o4D) (v := ?v4D) ?hi4D (by kernel_rfl) (by kernel_rfl) (by kernel_rfl) ?hQ4D ?hy4D (Below.drew (Below.refl _ _)) ?more4D
  case hi4D => rw [List.getElem?_toArray]; exact rfl
  case hQ4D => exact fun _ _ _ h => h
  case hy4D =>
    refine Or.inl ⟨by rfl, ?_⟩
    intro w' hSw
    have q0 := (H2.out.2.1.call hSw).cells 0 _ rfl
    have q1 := (H2.out.2.1.call hSw).cells 1 _ rfl
    have q2 := (H2.out.2.1.call hSw).cells 2 _ rfl
    have q3 := (H2.out.2.1.call hSw).cells 3 _ rfl
    clear hSw
    go_simp
    try with_reducible rfl
  simp only [Act.put, List.setIfInBounds_toArray, List.set_cons_zero, List.set_cons_succ]
  refine wpAnyH_take (i := 5) (oi := ?o5D) (v := ?v5D) ?hi5D (by kernel_rfl) (by kernel_rfl) (by kernel_rfl) ?hQ5D ?hy5D (Below.drew (Below.refl _ _)) ?more5D
  case hi5D => rw [List.getElem?_toArray]; exact rfl
  case hQ5D => exact fun _ _ _ h => h
  case hy5D =>
    refine Or.inl ⟨by rfl, ?_⟩
    intro w' hSw
    have q0 := (H2.out.2.1.call hSw).cells 0 _ rfl
    have q1 := (H2.out.2.1.call hSw).cells 1 _ rfl
    have q2 := (H2.out.2.1.call hSw).cells 2 _ rfl
    have q3 := (H2.out.2.1.call hSw).cells 3 _ rfl
    clear hSw
    go_simp
    try with_reducible rfl
  simp only [Act.put, List.setIfInBounds_toArray, List.set_cons_zero, List.set_cons_succ]
  refine wpAnyH_take (i := 6) (oi := ?o6D) (v := ?v6D) ?hi6D (by kernel_rfl) (by kernel_rfl) (by kernel_rfl) ?hQ6D ?hy6D (Below.drew (Below.refl _ _)) ?more6D
  case hi6D => rw [List.getElem?_toArray]; exact rfl
  case hQ6D => exact fun _ _ _ h => h
  case hy6D =>
    refine Or.inl ⟨by rfl, ?_⟩
    intro w' hSw
    have q0 := (H2.out.2.1.call hSw).cells 0 _ rfl
    have q1 := (H2.out.2.1.call hSw).cells 1 _ rfl
    have q2 := (H2.out.2.1.call hSw).cells 2 _ rfl
    have q3 := (H2.out.2.1.call hSw).cells 3 _ rfl
    clear hSw
    go_simp
    try with_reducible rfl
  simp only [Act.put, List.setIfInBounds_toArray, List.set_cons_zero, List.set_cons_succ]
  refine wpAnyH_take (i := 7) (oi := ?o7D) (v := ?v7D) ?hi7D (by kernel_rfl) (by kernel_rfl) (by kernel_rfl) ?hQ7D ?hy7D (Below.drew (Below.refl _ _)) ?more7D
  case hi7D => rw [List.getElem?_toArray]; exact rfl
  case hQ7D => exact fun _ _ _ h => h
  case hy7D =>
    refine Or.inl ⟨by rfl, ?_⟩
    intro w' hSw
    have q0 := (H2.out.2.1.call hSw).cells 0 _ rfl
    have q1 := (H2.out.2.1.call hSw).cells 1 _ rfl
    have q2 := (H2.out.2.1.call hSw).cells 2 _ rfl
    have q3 := (H2.out.2.1.call hSw).cells 3 _ rfl
    clear hSw
    go_simp
    try with_reducible rfl
  simp only [Act.put, List.setIfInBounds_toArray, List.set_cons_zero, List.set_cons_succ]
  refine wpAnyH_take (i := 8) (oi := ?o8D) (v := ?v8D) ?hi8D (by kernel_rfl) (by kernel_rfl) (by kernel_rfl) ?hQ8D ?hy8D (Below.drew (Below.refl _ _)) ?more8D
  case hi8D => rw [List.getElem?_toArray]; exact rfl
  case hQ8D => exact fun _ _ _ h => h
  case hy8D =>
    refine Or.inl ⟨by rfl, ?_⟩
    intro w' hSw
    have q0 := (H2.out.2.1.call hSw).cells 0 _ rfl
    have q1 := (H2.out.2.1.call hSw).cells 1 _ rfl
    have q2 := (H2.out.2.1.call hSw).cells 2 _ rfl
    have q3 := (H2.out.2.1.call hSw).cells 3 _ rfl
    clear hSw
    go_simp
    try with_reducible rfl
  simp only [Act.put, List.setIfInBounds_toArray, List.set_cons_zero, List.set_cons_succ]
  refine wpAnyH_take (i := 9) (oi := ?o9D) (v := ?v9D) ?hi9D (by kernel_rfl) (by kernel_rfl) (by kernel_rfl) ?hQ9D ?hy9D (Below.drew (Below.refl _ _)) ?more9D
  case hi9D => rw [List.getElem?_toArray]; exact rfl
  case hQ9D => exact fun _ _ _ h => h
  case hy9D =>
    refine Or.inl ⟨by rfl, ?_⟩
    intro w' hSw
    have q0 := (H2.out.2.1.call hSw).cells 0 _ rfl
    have q1 := (H2.out.2.1.call hSw).cells 1 _ rfl
    have q2 := (H2.out.2.1.call hSw).cells 2 _ rfl
    have q3 := (H2.out.2.1.call hSw).cells 3 _ rfl
    clear hSw
    go_simp
    try with_reducible rfl
  simp only [Act.put, List.setIfInBounds_toArray, List.set_cons_zero, List.set_cons_succ]
  refine wpAnyH_take (i := 10) (oi := ?o10D) (v := ?v10D) ?hi10D (by kernel_rfl) (by kernel_rfl) (by kernel_rfl) ?hQ10D ?hy10D (Below.drew (Below.refl _ _)) ?more10D
  case hi10D => rw [List.getElem?_toArray]; exact rfl
  case hQ10D => exact fun _ _ _ h => h
  case hy10D =>
    refine Or.inl ⟨by rfl, ?_⟩
    intro w' hSw
    have q0 := (H2.out.2.1.call hSw).cells 0 _ rfl
    have q1 := (H2.out.2.1.call hSw).cells 1 _ rfl
    have q2 := (H2.out.2.1.call hSw).cells 2 _ rfl
    have q3 := (H2.out.2.1.call hSw).cells 3 _ rfl
    clear hSw
    go_simp
    try with_reducible rfl
  simp only [Act.put, List.setIfInBounds_toArray, List.set_cons_zero, List.set_cons_succ]
  refine wpAnyH_take (i := 12) (oi := ?o12D) (v := ?v12D) ?hi12D (by kernel_rfl) (by kernel_rfl) (by kernel_rfl) ?hQ12D ?hy12D (Below.drew (Below.refl _ _)) ?more12D
  case hi12D => rw [List.getElem?_toArray]; exact rfl
  case hQ12D => exact fun _ _ _ h => h
  case hy12D =>
    refine Or.inl ⟨by rfl, ?_⟩
    intro w' hSw
    have q0 := (H2.out.2.1.call hSw).cells 0 _ rfl
    have q1 := (H2.out.2.1.call hSw).cells 1 _ rfl
    have q2 := (H2.out.2.1.call hSw).cells 2 _ rfl
    have q3 := (H2.out.2.1.call hSw).cells 3 _ rfl
    clear hSw
    go_simp
    try with_reducible rfl
  simp only [Act.put, List.setIfInBounds_toArray, List.set_cons_zero, List.set_cons_succ]
  refine wpAnyH_one (i := 11) (o := ?o11D) (by kernel_rfl) ?hi11D ?hw11D ?st11D
  case hi11D => rw [List.getElem?_toArray]; exact rfl
  case hw11D => exact rfl
  intro K hK
  have HK11D : Hid _ := hK
  clear hK
  go_simp
  refine (KS.out _).mono ?_
  rintro e w3 ⟨rfl, hb3⟩
  have I3 : Hid (Below w2.heap.size w2 w3) := below_call0 (Below.drew (Below.refl _ _)) hb3
  clear hb3 KS
  go_wp2_with fail
  refine HK11D.out _ _ ⟨I3.out, ?_⟩
  clear HK11D K
  try simp only [Act.put, List.setIfInBounds_toArray, List.set_cons_zero, List.set_cons_succ]
  refine wpAnyH_one (i := 13) (o := ?o13D) (by kernel_rfl) ?hi13D ?hw13D ?st13D
  case hi13D => rw [List.getElem?_toArray]; exact rfl
  case hw13D => exact rfl
  intro K hK
  have HK13D : Hid _ := hK
  clear hK
  go_simp
  refine (KH.out _).mono ?_
  rintro e w4 ⟨rfl, hb4⟩
  have I4 : Hid (Below w2.heap.size w2 w4) := below_call0 I3.out hb4
  clear hb4 KH
  have hq := HH.out
  rw [hq]
  go_wp2_with fail
  refine HK13D.out _ _ ⟨I4.out, ?_⟩
  clear HK13D K
  try simp only [Act.put, List.setIfInBounds_toArray, List.set_cons_zero, List.set_cons_succ]
  refine wpAnyH_take (i := 14) (oi := ?o14D) (v := ?v14D) ?hi14D (by kernel_rfl) (by kernel_rfl) (by kernel_rfl) ?hQ14D ?hy14D I4.out ?more14D
  case hi14D => rw [List.getElem?_toArray]; exact rfl
  case hQ14D => exact fun _ _ _ h => h
  case hy14D =>
    refine Or.inl ⟨by rfl, ?_⟩
    intro w' hSw
    have q0 := (H2.out.2.1.call hSw).cells 0 _ rfl
    have q1 := (H2.out.2.1.call hSw).cells 1 _ rfl
    have q2 := (H2.out.2.1.call hSw).cells 2 _ rfl
    have q3 := (H2.out.2.1.call hSw).cells 3 _ rfl
    clear hSw
    go_simp
    try with_reducible rfl
  simp only [Act.put, List.setIfInBounds_toArray, List.set_cons_zero, List.set_cons_succ]
  refine wpAnyH_take (i := 15) (oi := ?o15D) (v := ?v15D) ?hi15D (by kernel_rfl) (by kernel_rfl) (by kernel_rfl) ?hQ15D ?hy15D I4.out ?more15D
  case hi15D => rw [List.getElem?_toArray]; exact rfl
  case hQ15D => exact fun _ _ _ h => h
  case hy15D =>
    refine Or.inl ⟨by rfl, ?_⟩
    intro w' hSw
    have q0 := (H2.out.2.1.call hSw).cells 0 _ rfl
    have q1 := (H2.out.2.1.call hSw).cells 1 _ rfl
    have q2 := (H2.out.2.1.call hSw).cells 2 _ rfl
    have q3 := (H2.out.2.1.call hSw).cells 3 _ rfl
    clear hSw
    go_simp
    try with_reducible rfl
  simp only [Act.put, List.setIfInBounds_toArray, List.set_cons_zero, List.set_cons_succ]
  refine wpAnyH_done (by kernel_rfl) ?_ _
  go_wp2_with fail
  refine (KL.out _ (H2.out.2.2.1.call I4.out)).mono ?_
  rintro e w9 ⟨rfl, hb9⟩
  have H9 : Hid (Below w.heap.size w w9) := below_call0 (below_call0 H2.out.1 I4.out) hb9
  clear hb9
  go_wp2_with fail
  go_ret
  exact ⟨rfl, H9.out⟩
end Go.Proofs.YtocjeboicofflaaDoor

namespace Go.Proofs.YtocjeboicofflaaDoor
open Go Go.RowKit Go.Lib
set_option maxRecDepth 100000 in
set_option maxHeartbeats 4000000 in
theorem tells_E (l : List Nat) (n : Nat) (a : Option Addr) (c : Nat) (s : Nat) (hn : n = l.length) (hR : ∀ k ∈ l, k < R256) (hs : s < R256) (hE : atE l 0 = 0) (y v : Nat) (D : Bool) (E : Int) (hx : y ≤ 10) (hQ : s < QQ) (hv : v = hoN QQ y l) (hDD : D = decide (s = v)) (hEE : E = if s = v then 0 else 70) (w : World) (hG : GA w) (hN : Nums w a l) :
    Calls Tryd.prog 6 #[.slice a n c, .int .i64 (y : Nat), .agg #[.int .u64 (limb s 0 : Nat), .int .u64 (limb s 1 : Nat), .int .u64 (limb s 2 : Nat), .int .u64 (limb s 3 : Nat)]] w fun e w' => e = .returned (.bool true) ∧ Below w.heap.size w w' := by
  have KC : Hid _ := fcom_any l n a c hn hR
  have KL : Hid _ := line_ok
  have KS : Hid _ := scalars2_any
  have KH : Hid _ := has2_any QQ s (of_decide_eq_true (by kernel_rfl)) hs
  have d1 : decide ((y : Int) < 0) = false := decide_eq_false (by omega)
  have d2 : decide (10 < (y : Int)) = false := decide_eq_false (by omega)
  have HH : Hid (decide (s < QQ) = true) := decide_eq_true hQ
  have hok := ok_of hE
  rw [← hn] at hok
  have hy : y < QQ := Nat.lt_of_le_of_lt hx (of_decide_eq_true (by kernel_rfl))
  have hvQ : v < QQ := by rw [hv]; exact hoN_lt QQ y (of_decide_eq_true (by kernel_rfl)) l
  have KE : Hid (∀ w, GlobQ w → Nums w a l → Calls Tryd.prog 20 #[.slice a n c, .int .i64 (y : Nat)] w fun e w' => e = .returned (.tuple #[.agg #[.int .u64 (limb v 0 : Nat), .int .u64 (limb v 1 : Nat), .int .u64 (limb v 2 : Nat), .int .u64 (limb v 3 : Nat)], .int .i64 0]) ∧ Below w.heap.size w w') := fun w h1 h2 => by
    have h := eval_in a l c y (by rw [← hn]; exact hok.1) hx hR w h1 h2
    have e1 : atV l y = v := by
      rw [hv]
      exact if_pos ⟨by rw [← hn]; exact hok.1.1, by rw [← hn]; exact hok.1.2, hok.2, hy⟩
    have e2 : atE l y = 0 := by
      unfold atE
      rw [← hn, if_pos hok.1, if_pos ⟨hok.2, hy⟩]
    rw [e1, e2, ← hn] at h
    exact h
  have KV : Hid (∀ (b : Option Addr) (w : World), GA w → PtsAt w b (l.map fun k => gr.mul k gG) → Calls Tryd.prog 14 #[.slice b n n, .int .i64 (y : Nat), .agg #[.int .u64 (limb v 0 : Nat), .int .u64 (limb v 1 : Nat), .int .u64 (limb v 2 : Nat), .int .u64 (limb v 3 : Nat)]] w fun e w' => e = .returned (.int .i64 0) ∧ Below w.heap.size w w') := fun b w h1 h2 => fchk_poly l n y v b n 0 hn hok.1 hx hvQ (by rw [if_pos hv]) w h1 h2
  have KT : Hid (∀ (b : Option Addr) (w : World), GA w → PtsAt w b (l.map fun k => gr.mul k gG) → Calls Tryd.prog 14 #[.slice b n n, .int .i64 (y : Nat), .agg #[.int .u64 (limb s 0 : Nat), .int .u64 (limb s 1 : Nat), .int .u64 (limb s 2 : Nat), .int .u64 (limb s 3 : Nat)]] w fun e w' => e = .returned (.int .i64 E) ∧ Below w.heap.size w w') := fun b w h1 h2 => fchk_poly l n y s b n E hn hok.1 hx hQ (by rw [hEE, ← hv]) w h1 h2
  have HQ : Hid (∀ w, (Op.equalIn 10000 34 (.agg #[.int .u64 (limb s 0 : Nat), .int .u64 (limb s 1 : Nat), .int .u64 (limb s 2 : Nat), .int .u64 (limb s 3 : Nat)]) (.agg #[.int .u64 (limb v 0 : Nat), .int .u64 (limb v 1 : Nat), .int .u64 (limb v 2 : Nat), .int .u64 (limb v 3 : Nat)])).run Tryd.prog w = .ok D w) := fun w => eqNumD s v hs (Nat.lt_trans hvQ (of_decide_eq_true (by kernel_rfl))) D hDD w
  have hD : (D = true ∧ E = 0) ∨ (D = false ∧ E = 70) := by
    by_cases h : s = v
    · exact .inl ⟨by rw [hDD]; exact decide_eq_true h, by rw [hEE, if_pos h]⟩
    · exact .inr ⟨by rw [hDD]; exact decide_eq_false h, by rw [hEE, if_neg h]⟩
  clear hok hy hvQ hv hQ hDD hEE hx
  obtain ⟨W1, hW1⟩ : ∃ W1, W1 = w.alloc (.cells #[.int .u64 (limb s 0 : Nat), .int .u64 (limb s 1 : Nat), .int .u64 (limb s 2 : Nat), .int .u64 (limb s 3 : Nat)] 34) := ⟨_, rfl⟩
  have H1 : Hid (Below w.heap.size w W1 ∧ Bl W1 w.heap.size (numV s) 34 ∧ GA W1 ∧ Nums W1 a l) := by
    have hb : Below w.heap.size w W1 := by
      rw [hW1]
      exact below_alloc0 (Below.refl _ _) _
    refine ⟨hb, ?_, hG.call hb, hN.call hb⟩
    rw [hW1]
    exact Bl.new w (numV s) _
  have HW : Hid (W1 = w.alloc (.cells #[.int .u64 (limb s 0 : Nat), .int .u64 (limb s 1 : Nat), .int .u64 (limb s 2 : Nat), .int .u64 (limb s 3 : Nat)] 34)) := hW1
  clear hW1 hG hN hR hn hs
  go_enter Tryd.func6, Tryd.ntmps6
  go_upto_region 1 with fail
  rw [← HW.out]
  clear HW
  go_wp2_with fail
  refine (KC.out _ H1.out.2.2.1 H1.out.2.2.2).mono ?_
  rintro e w2 ⟨⟨b, m, rfl, hp⟩, hb2⟩
  have H2 : Hid (Below w.heap.size w w2 ∧ Bl w2 w.heap.size (numV s) 34 ∧ GA w2 ∧ Nums w2 a l ∧ (atE l 0 = 0 → m = n ∧ PtsAt w2 b (l.map fun k => gr.mul k gG))) := ⟨below_call0 H1.out.1 hb2, H1.out.2.1.call hb2, H1.out.2.2.1.call hb2, H1.out.2.2.2.call hb2, hp⟩
  clear hp hb2 H1 KC
  rw [hE]
  obtain ⟨rfl, hp2⟩ : m = n ∧ PtsAt w2 b (l.map fun k => gr.mul k gG) := H2.out.2.2.2.2 hE
  have HP2 : Hid (PtsAt w2 b (l.map fun k => gr.mul k gG)) := hp2
  clear hp2
  go_upto_region 2 with fail
  refine wp_region_H (fun w' => Below w2.heap.size w2 w') 16 rfl (by kernel_rfl) ?_
  refine wpAnyH_take (i := 0) (oi := ?o0E) (v := ?v0E) ?hi0E (by kernel_rfl) (by kernel_rfl) (by kernel_rfl) ?hQ0E ?hy0E (Below.drew (Below.refl _ _)) ?more0E
  case hi0E => rw [List.getElem?_toArray]; exact rfl
  case hQ0E => exact fun _ _ _ h => h
  case hy0E =>
    refine Or.inl ⟨by rfl, ?_⟩
    intro w' hSw
    have q0 := (H2.out.2.1.call hSw).cells 0 _ rfl
    have q1 := (H2.out.2.1.call hSw).cells 1 _ rfl
    have q2 := (H2.out.2.1.call hSw).cells 2 _ rfl
    have q3 := (H2.out.2.1.call hSw).cells 3 _ rfl
    clear hSw
    go_simp
    try with_reducible rfl
  simp only [Act.put, List.setIfInBounds_toArray, List.set_cons_zero, List.set_cons_succ]
  refine wpAnyH_take (i := 1) (oi := ?o1E) (v := ?v1E) ?hi1E (by kernel_rfl) (by kernel_rfl) (by kernel_rfl) ?hQ1E ?hy1E (Below.drew (Below.refl _ _)) ?more1E
  case hi1E => rw [List.getElem?_toArray]; exact rfl
  case hQ1E => exact fun _ _ _ h => h
  case hy1E =>
    refine Or.inl ⟨by rfl, ?_⟩
    intro w' hSw
    have q0 := (H2.out.2.1.call hSw).cells 0 _ rfl
    have q1 := (H2.out.2.1.call hSw).cells 1 _ rfl
    have q2 := (H2.out.2.1.call hSw).cells 2 _ rfl
    have q3 := (H2.out.2.1.call hSw).cells 3 _ rfl
    clear hSw
    go_simp
    try with_reducible rfl
  simp only [Act.put, List.setIfInBounds_toArray, List.set_cons_zero, List.set_cons_succ]
  refine wpAnyH_take (i := 2) (oi := ?o2E) (v := ?v2E) ?hi2E (by kernel_rfl) (by kernel_rfl) (by kernel_rfl) ?hQ2E ?hy2E (Below.drew (Below.refl _ _)) ?more2E
  case hi2E => rw [List.getElem?_toArray]; exact rfl
  case hQ2E => exact fun _ _ _ h => h
  case hy2E =>
    refine Or.inl ⟨by rfl, ?_⟩
    intro w' hSw
    have q0 := (H2.out.2.1.call hSw).cells 0 _ rfl
    have q1 := (H2.out.2.1.call hSw).cells 1 _ rfl
    have q2 := (H2.out.2.1.call hSw).cells 2 _ rfl
    have q3 := (H2.out.2.1.call hSw).cells 3 _ rfl
    clear hSw
    go_simp
    try with_reducible rfl
  simp only [Act.put, List.setIfInBounds_toArray, List.set_cons_zero, List.set_cons_succ]
  refine wpAnyH_take (i := 3) (oi := ?o3E) (v := ?v3E) ?hi3E (by kernel_rfl) (by kernel_rfl) (by kernel_rfl) ?hQ3E ?hy3E (Below.drew (Below.refl _ _)) ?more3E
  case hi3E => rw [List.getElem?_toArray]; exact rfl
  case hQ3E => exact fun _ _ _ h => h
  case hy3E =>
    refine Or.inl ⟨by rfl, ?_⟩
    intro w' hSw
    have q0 := (H2.out.2.1.call hSw).cells 0 _ rfl
    have q1 := (H2.out.2.1.call hSw).cells 1 _ rfl
    have q2 := (H2.out.2.1.call hSw).cells 2 _ rfl
    have q3 := (H2.out.2.1.call hSw).cells 3 _ rfl
    clear hSw
    go_simp
    try with_reducible rfl
  simp only [Act.put, List.setIfInBounds_toArray, List.set_cons_zero, List.set_cons_succ]
  refine wpAnyH_take (i := 4) (oi := ?o4E) (v := ?v4E) ?hi4E (by kernel_rfl) (by kernel_rfl) (by kernel_rfl) ?hQ4E ?hy4E (Below.drew (Below.refl _ _)) ?more4E
  case hi4E => rw [List.getElem?_toArray]; exact rfl
  case hQ4E => exact fun _ _ _ h => h
  case hy4E =>
    refine Or.inl ⟨by rfl, ?_⟩
    intro w' hSw
    have q0 := (H2.out.2.1.call hSw).cells 0 _ rfl
    have q1 := (H2.out.2.1.call hSw).cells 1 _ rfl
    have q2 := (H2.out.2.1.call hSw).cells 2 _ rfl
    have q3 := (H2.out.2.1.call hSw).cells 3 _ rfl
    clear hSw
    go_simp
    try with_reducible rfl
  simp only [Act.put, List.setIfInBounds_toArray, List.set_cons_zero, List.set_cons_succ]
  refine wpAnyH_take (i := 5) (oi := ?o5E) (v := ?v5E) ?hi5E (by kernel_rfl) (by kernel_rfl) (by kernel_rfl) ?hQ5E ?hy5E (Below.drew (Below.refl _ _)) ?more5E
  case hi5E => rw [List.getElem?_toArray]; exact rfl
  case hQ5E => exact fun _ _ _ h => h
  case hy5E =>
    refine Or.inl ⟨by rfl, ?_⟩
    intro w' hSw
    have q0 := (H2.out.2.1.call hSw).cells 0 _ rfl
    have q1 := (H2.out.2.1.call hSw).cells 1 _ rfl
    have q2 := (H2.out.2.1.call hSw).cells 2 _ rfl
    have q3 := (H2.out.2.1.call hSw).cells 3 _ rfl
    clear hSw
    go_simp
    try with_reducible rfl
  simp only [Act.put, List.setIfInBounds_toArray, List.set_cons_zero, List.set_cons_succ]
  refine wpAnyH_take (i := 6) (oi := ?o6E) (v := ?v6E) ?hi6E (by kernel_rfl) (by kernel_rfl) (by kernel_rfl) ?hQ6E ?hy6E (Below.drew (Below.refl _ _)) ?more6E
  case hi6E => rw [List.getElem?_toArray]; exact rfl
  case hQ6E => exact fun _ _ _ h => h
  case hy6E =>
    refine Or.inl ⟨by rfl, ?_⟩
    intro w' hSw
    have q0 := (H2.out.2.1.call hSw).cells 0 _ rfl
    have q1 := (H2.out.2.1.call hSw).cells 1 _ rfl
    have q2 := (H2.out.2.1.call hSw).cells 2 _ rfl
    have q3 := (H2.out.2.1.call hSw).cells 3 _ rfl
    clear hSw
    go_simp
    try with_reducible rfl
  simp only [Act.put, List.setIfInBounds_toArray, List.set_cons_zero, List.set_cons_succ]
  refine wpAnyH_take (i := 7) (oi := ?o7E) (v := ?v7E) ?hi7E (by kernel_rfl) (by kernel_rfl) (by kernel_rfl) ?hQ7E ?hy7E (Below.drew (Below.refl _ _)) ?more7E
  case hi7E => rw [List.getElem?_toArray]; exact rfl
  case hQ7E => exact fun _ _ _ h => h
  case hy7E =>
    refine Or.inl ⟨by rfl, ?_⟩
    intro w' hSw
    have q0 := (H2.out.2.1.call hSw).cells 0 _ rfl
    have q1 := (H2.out.2.1.call hSw).cells 1 _ rfl
    have q2 := (H2.out.2.1.call hSw).cells 2 _ rfl
    have q3 := (H2.out.2.1.call hSw).cells 3 _ rfl
    clear hSw
    go_simp
    try with_reducible rfl
  simp only [Act.put, List.setIfInBounds_toArray, List.set_cons_zero, List.set_cons_succ]
  refine wpAnyH_take (i := 8) (oi := ?o8E) (v := ?v8E) ?hi8E (by kernel_rfl) (by kernel_rfl) (by kernel_rfl) ?hQ8E ?hy8E (Below.drew (Below.refl _ _)) ?more8E
  case hi8E => rw [List.getElem?_toArray]; exact rfl
  case hQ8E => exact fun _ _ _ h => h
  case hy8E =>
    refine Or.inl ⟨by rfl, ?_⟩
    intro w' hSw
    have q0 := (H2.out.2.1.call hSw).cells 0 _ rfl
    have q1 := (H2.out.2.1.call hSw).cells 1 _ rfl
    have q2 := (H2.out.2.1.call hSw).cells 2 _ rfl
    have q3 := (H2.out.2.1.call hSw).cells 3 _ rfl
    clear hSw
    go_simp
    try with_reducible rfl
  simp only [Act.put, List.setIfInBounds_toArray, List.set_cons_zero, List.set_cons_succ]
  refine wpAnyH_take (i := 9) (oi := ?o9E) (v := ?v9E) ?hi9E (by kernel_rfl) (by kernel_rfl) (by kernel_rfl) ?hQ9E ?hy9E (Below.drew (Below.refl _ _)) ?more9E
  case hi9E => rw [List.getElem?_toArray]; exact rfl
  case hQ9E => exact fun _ _ _ h => h
  case hy9E =>
    refine Or.inl ⟨by rfl, ?_⟩
    intro w' hSw
    have q0 := (H2.out.2.1.call hSw).cells 0 _ rfl
    have q1 := (H2.out.2.1.call hSw).cells 1 _ rfl
    have q2 := (H2.out.2.1.call hSw).cells 2 _ rfl
    have q3 := (H2.out.2.1.call hSw).cells 3 _ rfl
    clear hSw
    go_simp
    try with_reducible rfl
  simp only [Act.put, List.setIfInBounds_toArray, List.set_cons_zero, List.set_cons_succ]
  refine wpAnyH_take (i := 10) (oi := ?o10E) (v := ?v10E) ?hi10E (by kernel_rfl) (by kernel_rfl) (by kernel_rfl) ?hQ10E ?hy10E (Below.drew (Below.refl _ _)) ?more10E
  case hi10E => rw [List.getElem?_toArray]; exact rfl
  case hQ10E => exact fun _ _ _ h => h
  case hy10E =>
    refine Or.inl ⟨by rfl, ?_⟩
    intro w' hSw
    have q0 := (H2.out.2.1.call hSw).cells 0 _ rfl
    have q1 := (H2.out.2.1.call hSw).cells 1 _ rfl
    have q2 := (H2.out.2.1.call hSw).cells 2 _ rfl
    have q3 := (H2.out.2.1.call hSw).cells 3 _ rfl
    clear hSw
    go_simp
    try with_reducible rfl
  simp only [Act.put, List.setIfInBounds_toArray, List.set_cons_zero, List.set_cons_succ]
  refine wpAnyH_take (i := 12) (oi := ?o12E) (v := ?v12E) ?hi12E (by kernel_rfl) (by kernel_rfl) (by kernel_rfl) ?hQ12E ?hy12E (Below.drew (Below.refl _ _)) ?more12E
  case hi12E => rw [List.getElem?_toArray]; exact rfl
  case hQ12E => exact fun _ _ _ h => h
  case hy12E =>
    refine Or.inl ⟨by rfl, ?_⟩
    intro w' hSw
    have q0 := (H2.out.2.1.call hSw).cells 0 _ rfl
    have q1 := (H2.out.2.1.call hSw).cells 1 _ rfl
    have q2 := (H2.out.2.1.call hSw).cells 2 _ rfl
    have q3 := (H2.out.2.1.call hSw).cells 3 _ rfl
    clear hSw
    go_simp
    try with_reducible rfl
  simp only [Act.put, List.setIfInBounds_toArray, List.set_cons_zero, List.set_cons_succ]
  refine wpAnyH_one (i := 11) (o := ?o11E) (by kernel_rfl) ?hi11E ?hw11E ?st11E
  case hi11E => rw [List.getElem?_toArray]; exact rfl
  case hw11E => exact rfl
  intro K hK
  have HK11E : Hid _ := hK
  clear hK
  go_simp
  refine (KS.out _).mono ?_
  rintro e w3 ⟨rfl, hb3⟩
  have I3 : Hid (Below w2.heap.size w2 w3) := below_call0 (Below.drew (Below.refl _ _)) hb3
  clear hb3 KS
  go_wp2_with fail
  refine HK11E.out _ _ ⟨I3.out, ?_⟩
  clear HK11E K
  try simp only [Act.put, List.setIfInBounds_toArray, List.set_cons_zero, List.set_cons_succ]
  refine wpAnyH_one (i := 13) (o := ?o13E) (by kernel_rfl) ?hi13E ?hw13E ?st13E
  case hi13E => rw [List.getElem?_toArray]; exact rfl
  case hw13E => exact rfl
  intro K hK
  have HK13E : Hid _ := hK
  clear hK
  go_simp
  refine (KH.out _).mono ?_
  rintro e w4 ⟨rfl, hb4⟩
  have I4 : Hid (Below w2.heap.size w2 w4) := below_call0 I3.out hb4
  clear hb4 KH
  have hq := HH.out
  rw [hq]
  go_wp2_with fail
  refine HK13E.out _ _ ⟨I4.out, ?_⟩
  clear HK13E K
  try simp only [Act.put, List.setIfInBounds_toArray, List.set_cons_zero, List.set_cons_succ]
  refine wpAnyH_take (i := 14) (oi := ?o14E) (v := ?v14E) ?hi14E (by kernel_rfl) (by kernel_rfl) (by kernel_rfl) ?hQ14E ?hy14E I4.out ?more14E
  case hi14E => rw [List.getElem?_toArray]; exact rfl
  case hQ14E => exact fun _ _ _ h => h
  case hy14E =>
    refine Or.inl ⟨by rfl, ?_⟩
    intro w' hSw
    have q0 := (H2.out.2.1.call hSw).cells 0 _ rfl
    have q1 := (H2.out.2.1.call hSw).cells 1 _ rfl
    have q2 := (H2.out.2.1.call hSw).cells 2 _ rfl
    have q3 := (H2.out.2.1.call hSw).cells 3 _ rfl
    clear hSw
    go_simp
    try with_reducible rfl
  simp only [Act.put, List.setIfInBounds_toArray, List.set_cons_zero, List.set_cons_succ]
  refine wpAnyH_take (i := 15) (oi := ?o15E) (v := ?v15E) ?hi15E (by kernel_rfl) (by kernel_rfl) (by kernel_rfl) ?hQ15E ?hy15E I4.out ?more15E
  case hi15E => rw [List.getElem?_toArray]; exact rfl
  case hQ15E => exact fun _ _ _ h => h
  case hy15E =>
    refine Or.inl ⟨by rfl, ?_⟩
    intro w' hSw
    have q0 := (H2.out.2.1.call hSw).cells 0 _ rfl
    have q1 := (H2.out.2.1.call hSw).cells 1 _ rfl
    have q2 := (H2.out.2.1.call hSw).cells 2 _ rfl
    have q3 := (H2.out.2.1.call hSw).cells 3 _ rfl
    clear hSw
    go_simp
    try with_reducible rfl
  simp only [Act.put, List.setIfInBounds_toArray, List.set_cons_zero, List.set_cons_succ]
  refine wpAnyH_done (by kernel_rfl) ?_ _
  go_upto_region 4 with fail
  have H4 : Hid (Below w.heap.size w w4 ∧ Bl w4 w.heap.size (numV s) 34 ∧ GA w4 ∧ Nums w4 a l ∧ PtsAt w4 b (l.map fun k => gr.mul k gG)) := ⟨below_call0 H2.out.1 I4.out, H2.out.2.1.call I4.out, H2.out.2.2.1.call I4.out, H2.out.2.2.2.1.call I4.out, HP2.out.call I4.out⟩
  clear I3 I4 H2 HP2 HH
  go_wp2_with fail
  refine (KE.out _ H4.out.2.2.1.2.1 H4.out.2.2.2.1).mono ?_
  rintro e w5 ⟨rfl, hb5⟩
  obtain ⟨B, hB⟩ : ∃ B, B = w5.heap.size := ⟨_, rfl⟩
  obtain ⟨W6, hW6⟩ : ∃ W6, W6 = w5.alloc (.cells #[.int .u64 (limb v 0 : Nat), .int .u64 (limb v 1 : Nat), .int .u64 (limb v 2 : Nat), .int .u64 (limb v 3 : Nat)] 34) := ⟨_, rfl⟩
  have H6 : Hid (Below w.heap.size w W6 ∧ Bl W6 w.heap.size (numV s) 34 ∧ GA W6 ∧ PtsAt W6 b (l.map fun k => gr.mul k gG) ∧ Bl W6 B (numV v) 34) := by
    have hb : Below w4.heap.size w4 W6 := by
      rw [hW6]
      exact below_alloc0 hb5 _
    refine ⟨below_call0 H4.out.1 hb, H4.out.2.1.call hb, H4.out.2.2.1.call hb, H4.out.2.2.2.2.call hb, ?_⟩
    rw [hW6, hB]
    exact Bl.new w5 (numV v) _
  have HW : Hid (W6 = w5.alloc (.cells #[.int .u64 (limb v 0 : Nat), .int .u64 (limb v 1 : Nat), .int .u64 (limb v 2 : Nat), .int .u64 (limb v 3 : Nat)] 34) ∧ B = w5.heap.size) := ⟨hW6, hB⟩
  clear hW6 hB hb5 H4 KE
  go_upto_region 5 with fail
  rw [← HW.out.1, ← HW.out.2]
  clear HW
  have LV : Hid (∀ wx, Below W6.heap.size W6 wx → (loadVar 34 ⟨B, 0, none⟩).run Tryd.prog wx = .ok (.agg #[.int .u64 (limb v 0 : Nat), .int .u64 (limb v 1 : Nat), .int .u64 (limb v 2 : Nat), .int .u64 (limb v 3 : Nat)]) wx) := fun wx hx => (H6.out.2.2.2.2.call hx).load Tryd.underlying34 rfl (by kernel_rfl)
  have LS : Hid (∀ wx, Below W6.heap.size W6 wx → (loadVar 34 ⟨w.heap.size, 0, none⟩).run Tryd.prog wx = .ok (.agg #[.int .u64 (limb s 0 : Nat), .int .u64 (limb s 1 : Nat), .int .u64 (limb s 2 : Nat), .int .u64 (limb s 3 : Nat)]) wx) := fun wx hx => (H6.out.2.1.call hx).load Tryd.underlying34 rfl (by kernel_rfl)
  go_wp2_with ((with_reducible refine load_to (b := B) (k := 0) (x := 9) ?_ ?_ ?_ (LV.out _ (Below.refl _ _)) ?_); rfl; rfl; rfl)
  refine (KV.out _ _ H6.out.2.2.1 H6.out.2.2.2.1).mono ?_
  rintro e w7 ⟨rfl, hb7⟩
  have H7 : Hid (Below W6.heap.size W6 w7) := hb7
  clear hb7 KV
  go_upto_region 6 with fail
  go_wp2_with ((with_reducible refine load_to (b := w.heap.size) (k := 0) (x := 5) ?_ ?_ ?_ (LS.out _ H7.out) ?_); rfl; rfl; rfl)
  refine (KT.out _ _ (H6.out.2.2.1.call H7.out) (H6.out.2.2.2.1.call H7.out)).mono ?_
  rintro e w8 ⟨rfl, hb8⟩
  have H8 : Hid (Below W6.heap.size W6 w8) := below_call0 H7.out hb8
  clear hb8 KT
  go_upto_region 7 with fail
  have hq := HQ.out
  rcases hD with ⟨rfl, rfl⟩ | ⟨rfl, rfl⟩
  all_goals
    go_wp2_with (first | ((with_reducible refine load_to (b := w.heap.size) (k := 0) (x := 5) ?_ ?_ ?_ (LS.out _ H8.out) ?_); rfl; rfl; rfl) | ((with_reducible refine load_to (b := B) (k := 0) (x := 9) ?_ ?_ ?_ (LV.out _ H8.out) ?_); rfl; rfl; rfl))
    refine (KL.out _ (H6.out.2.2.1.call H8.out)).mono ?_
    rintro e w9 ⟨rfl, hb9⟩
    have H9 : Hid (Below w.heap.size w w9) := below_call0 (below_call0 H6.out.1 H8.out) hb9
    clear hb9
    go_wp2_with fail
    go_ret
    exact ⟨rfl, H9.out⟩
end Go.Proofs.YtocjeboicofflaaDoor

namespace Go.Proofs.YtocjeboicofflaaDoor
open Go Go.RowKit Go.Lib
theorem nums_of {w : World} {a : Option Addr} {l : List Nat} (h : NumsAt w a l) : Nums w a l := fun j n hj => by
  obtain ⟨b, o, h1, h2⟩ := h j n hj
  refine ⟨b, o, h1, fun i hi => ?_, h2.lt⟩
  have : i = 0 ∨ i = 1 ∨ i = 2 ∨ i = 3 := by omega
  rcases this with rfl | rfl | rfl | rfl
  · exact h2.c0
  · exact h2.c1
  · exact h2.c2
  · exact h2.c3
theorem atE_three (l : List Nat) (x : Nat) : atE l x = 0 ∨ atE l x = 1 ∨ atE l x = 20 := by
  unfold atE
  split
  · split
    · exact .inl rfl
    · exact .inr (.inr rfl)
  · exact .inr (.inl rfl)
theorem feldTells_any (l : List Nat) (a : Option Addr) (c : Nat) (x : Int) (s : Nat) (hR : ∀ k ∈ l, k < R256) (hs : s < R256) (w : World) (hG : GA w) (hN : NumsAt w a l) :
    Calls Tryd.prog 6 #[.slice a l.length c, .int .i64 x, .agg #[.int .u64 (limb s 0 : Nat), .int .u64 (limb s 1 : Nat), .int .u64 (limb s 2 : Nat), .int .u64 (limb s 3 : Nat)]] w fun e w' => e = .returned (.bool true) ∧ Below w.heap.size w w' := by
  have hM := nums_of hN
  rcases atE_three l 0 with hE | hE | hE
  · by_cases h0 : x < 0
    · exact tells_B l _ a c x s rfl hR hs hE h0 w hG hM
    · by_cases h1 : 10 < x
      · exact tells_C l _ a c x s rfl hR hs hE h0 h1 w hG hM
      · by_cases hQ : s < QQ
        · obtain ⟨y, rfl⟩ : ∃ y : Nat, x = (y : Int) := ⟨x.toNat, by omega⟩
          exact tells_E l _ a c s rfl hR hs hE y (hoN QQ y l) _ _ (by omega) hQ rfl rfl rfl w hG hM
        · exact tells_D l _ a c x s rfl hR hs hE h0 h1 hQ w hG hM
  · exact tells_A1 l _ a c x s rfl hR hs hE w hG hM
  · exact tells_A2 l _ a c x s rfl hR hs hE w hG hM
end Go.Proofs.YtocjeboicofflaaDoor
