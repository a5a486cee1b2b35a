/- Several texts laid together. -/
import Derived.Test.YtkdejflgmgljiaaDoorFtX
namespace Go.Proofs.YtkdejflgmgljiaaDoor
open Go Go.RowKit Go.Lib
theorem eqPts (a b : Pts) (D : Bool) (hD : D = true ↔ a = b) (w : World) : (Op.equalIn 10000 36 (.agg #[.int .u64 (limb (pX a) 0 : Nat), .int .u64 (limb (pX a) 1 : Nat), .int .u64 (limb (pX a) 2 : Nat), .int .u64 (limb (pX a) 3 : Nat), .int .u64 (limb (pY a) 0 : Nat), .int .u64 (limb (pY a) 1 : Nat), .int .u64 (limb (pY a) 2 : Nat), .int .u64 (limb (pY a) 3 : Nat), .bool (pI a)]) (.agg #[.int .u64 (limb (pX b) 0 : Nat), .int .u64 (limb (pX b) 1 : Nat), .int .u64 (limb (pX b) 2 : Nat), .int .u64 (limb (pX b) 3 : Nat), .int .u64 (limb (pY b) 0 : Nat), .int .u64 (limb (pY b) 1 : Nat), .int .u64 (limb (pY b) 2 : Nat), .int .u64 (limb (pY b) 3 : Nat), .bool (pI b)])).run Tryd.prog w = .ok D w := by
  rw [run_eqP, eq4_num _ _ (Nat.lt_trans (pX_lt a) (of_decide_eq_true (by kernel_rfl))) (Nat.lt_trans (pX_lt b) (of_decide_eq_true (by kernel_rfl))), eq4_num _ _ (Nat.lt_trans (pY_lt a) (of_decide_eq_true (by kernel_rfl))) (Nat.lt_trans (pY_lt b) (of_decide_eq_true (by kernel_rfl)))]
  by_cases h : a = b
  · rw [hD.2 h]
    subst h
    simp
  · have hf : D = false := by
      cases D
      · rfl
      · exact absurd (hD.1 rfl) h
    rw [hf]
    by_cases h1 : pX a = pX b
    · by_cases h2 : pY a = pY b
      · by_cases h3 : pI a = pI b
        · exact absurd (pts_inj h1 h2 h3) h
        · simp [h1, h2, h3]
      · simp [h2]
    · simp [h1]
/-- What a node's commitments tell. -/
def vaP (x : Nat) (cs : List Pts) : Pts := gr.tot gr.mul (List.zip ((List.range cs.length).map fun i => x ^ i % QQ) cs)
set_option maxRecDepth 100000 in
set_option maxHeartbeats 4000000 in
theorem fval_ok (cs : List Pts) (n x : Nat) (b : Option Addr) (kc : Nat) (V : Pts) (hn : n = cs.length) (h1 : 1 ≤ n ∧ n ≤ 10) (hx : x ≤ 10) (hV : V = vaP x cs) (w : World) (hG : GA w) (hP : PtsAt w b cs) :
    Calls Tryd.prog 9 #[.slice b n kc, .int .i64 (x : Nat)] w fun e w' => e = .returned (.tuple #[.agg #[.int .u64 (limb (pX V) 0 : Nat), .int .u64 (limb (pX V) 1 : Nat), .int .u64 (limb (pX V) 2 : Nat), .int .u64 (limb (pX V) 3 : Nat), .int .u64 (limb (pY V) 0 : Nat), .int .u64 (limb (pY V) 1 : Nat), .int .u64 (limb (pY V) 2 : Nat), .int .u64 (limb (pY V) 3 : Nat), .bool (pI V)], .int .i64 0]) ∧ Below w.heap.size w w' := by
  have KI : Hid _ := isCount_ok n h1
  have KP : Hid _ := powers_ok x n hx h1
  have KS : Hid (∀ (k : Nat) (w : World), GA w → NumsAt w (some ⟨k, 0, none⟩) ((List.range n).map fun i => x ^ i % QQ) → PtsAt w b cs → Calls Tryd.prog 21 #[.slice (some ⟨k, 0, none⟩) n n, .slice b n kc] w fun e w' => e = .returned (.tuple #[.agg #[.int .u64 (limb (pX V) 0 : Nat), .int .u64 (limb (pX V) 1 : Nat), .int .u64 (limb (pX V) 2 : Nat), .int .u64 (limb (pX V) 3 : Nat), .int .u64 (limb (pY V) 0 : Nat), .int .u64 (limb (pY V) 1 : Nat), .int .u64 (limb (pY V) 2 : Nat), .int .u64 (limb (pY V) 3 : Nat), .bool (pI V)], .int .i64 0]) ∧ Below w.heap.size w w') := fun k w h2 h3 h4 => by
    have hl1 : ((List.range n).map fun i => x ^ i % QQ).length = cs.length := by rw [List.length_map, List.length_range, hn]
    have s := Sum_ok n (some ⟨k, 0, none⟩) b n kc (List.zip ((List.range n).map fun i => x ^ i % QQ) cs) (by rw [List.length_zip, hl1, Nat.min_self, hn]) (by omega) (fun z hz => by
      have := (List.of_mem_zip hz).1
      rw [List.mem_map] at this
      obtain ⟨i, _, hi⟩ := this
      rw [← hi]
      exact pow_lt x i) w h2.1 h2.2.1 h2.2.2.1 (by rw [List.map_fst_zip (by omega)]; exact h3) (by rw [List.map_snd_zip (by omega)]; exact h4)
    rw [hV]
    unfold vaP
    rw [← hn]
    exact s
  have hx1 : (0 : Int) ≤ (x : Int) := by omega
  have hx2 : (x : Int) ≤ 10 := by omega
  have hx3 : ¬ ((x : Int) < 0) := by omega
  have hx4 : ¬ ((10 : Int) < (x : Int)) := by omega
  obtain ⟨W2, hW2⟩ : ∃ W2, W2 = w.alloc (.cells #[.int .u64 0, .int .u64 0, .int .u64 0, .int .u64 0, .int .u64 0, .int .u64 0, .int .u64 0, .int .u64 0, .bool false] 36) := ⟨_, rfl⟩
  have H2 : Hid (Below w.heap.size w W2 ∧ Bl W2 w.heap.size [.int .u64 0, .int .u64 0, .int .u64 0, .int .u64 0, .int .u64 0, .int .u64 0, .int .u64 0, .int .u64 0, .bool false] 36 ∧ GA W2 ∧ PtsAt W2 b cs) := by
    have hb : Below w.heap.size w W2 := by
      rw [hW2]
      exact below_alloc0 (Below.refl _ _) _
    refine ⟨hb, ?_, hG.call hb, hP.call hb⟩
    rw [hW2]
    exact Bl.new w [.int .u64 0, .int .u64 0, .int .u64 0, .int .u64 0, .int .u64 0, .int .u64 0, .int .u64 0, .int .u64 0, .bool false] _
  have HW : Hid (W2 = w.alloc (.cells #[.int .u64 0, .int .u64 0, .int .u64 0, .int .u64 0, .int .u64 0, .int .u64 0, .int .u64 0, .int .u64 0, .bool false] 36)) := hW2
  clear hn h1 hx hV hG hP hW2
  go_enter Tryd.func9, Tryd.ntmps9
  go_upto_region 1 with fail
  rw [← HW.out]
  clear HW
  go_wp2_with fail
  refine (KI.out _).mono ?_
  rintro e w1 ⟨rfl, h1⟩
  obtain rfl : W2 = w1 := h1.symm
  go_wp2_with fail
  refine (KP.out _ H2.out.2.2.1.2.1).mono ?_
  rintro e w3 ⟨k, rfl, hN3, hb3⟩
  have H3 : Hid (Below w.heap.size w w3 ∧ Bl w3 w.heap.size [.int .u64 0, .int .u64 0, .int .u64 0, .int .u64 0, .int .u64 0, .int .u64 0, .int .u64 0, .int .u64 0, .bool false] 36 ∧ GA w3 ∧ PtsAt w3 b cs ∧ NumsAt w3 (some ⟨k, 0, none⟩) ((List.range n).map fun i => x ^ i % QQ)) := ⟨below_call0 H2.out.1 hb3, H2.out.2.1.call hb3, H2.out.2.2.1.call hb3, H2.out.2.2.2.call hb3, hN3⟩
  clear hN3 hb3 H2 KI KP
  go_wp2_with fail
  refine (KS.out k _ H3.out.2.2.1 H3.out.2.2.2.2 H3.out.2.2.2.1).mono ?_
  rintro e w4 ⟨rfl, hb4⟩
  have H4 : Hid (Below w.heap.size w w4 ∧ Bl w4 w.heap.size [.int .u64 0, .int .u64 0, .int .u64 0, .int .u64 0, .int .u64 0, .int .u64 0, .int .u64 0, .int .u64 0, .bool false] 36) := ⟨below_call0 H3.out.1 hb4, H3.out.2.1.call hb4⟩
  clear hb4 H3 KS
  have HS : Hid ((storeVar 36 ⟨w.heap.size, 0, none⟩ (.agg #[.int .u64 (limb (pX V) 0 : Nat), .int .u64 (limb (pX V) 1 : Nat), .int .u64 (limb (pX V) 2 : Nat), .int .u64 (limb (pX V) 3 : Nat), .int .u64 (limb (pY V) 0 : Nat), .int .u64 (limb (pY V) 1 : Nat), .int .u64 (limb (pY V) 2 : Nat), .int .u64 (limb (pY V) 3 : Nat), .bool (pI V)])).run Tryd.prog w4 = .ok () (w4.setRow w.heap.size #[.int .u64 (limb (pX V) 0 : Nat), .int .u64 (limb (pX V) 1 : Nat), .int .u64 (limb (pX V) 2 : Nat), .int .u64 (limb (pX V) 3 : Nat), .int .u64 (limb (pY V) 0 : Nat), .int .u64 (limb (pY V) 1 : Nat), .int .u64 (limb (pY V) 2 : Nat), .int .u64 (limb (pY V) 3 : Nat), .bool (pI V)])) := H4.out.2.store (us := [.int .u64 (limb (pX V) 0 : Nat), .int .u64 (limb (pX V) 1 : Nat), .int .u64 (limb (pX V) 2 : Nat), .int .u64 (limb (pX V) 3 : Nat), .int .u64 (limb (pY V) 0 : Nat), .int .u64 (limb (pY V) 1 : Nat), .int .u64 (limb (pY V) 2 : Nat), .int .u64 (limb (pY V) 3 : Nat), .bool (pI V)]) (by kernel_rfl) rfl (by kernel_rfl)
  go_wp2_with ((with_reducible refine store_to (b := w.heap.size) (k := 0) (x := 4) (y := 25) ?_ ?_ ?_ ?_ HS.out ?_); rfl; rfl; rfl; rfl)
  have hld : (loadVar 36 ⟨w.heap.size, 0, none⟩).run Tryd.prog (w4.setRow w.heap.size #[.int .u64 (limb (pX V) 0 : Nat), .int .u64 (limb (pX V) 1 : Nat), .int .u64 (limb (pX V) 2 : Nat), .int .u64 (limb (pX V) 3 : Nat), .int .u64 (limb (pY V) 0 : Nat), .int .u64 (limb (pY V) 1 : Nat), .int .u64 (limb (pY V) 2 : Nat), .int .u64 (limb (pY V) 3 : Nat), .bool (pI V)]) = .ok (.agg #[.int .u64 (limb (pX V) 0 : Nat), .int .u64 (limb (pX V) 1 : Nat), .int .u64 (limb (pX V) 2 : Nat), .int .u64 (limb (pX V) 3 : Nat), .int .u64 (limb (pY V) 0 : Nat), .int .u64 (limb (pY V) 1 : Nat), .int .u64 (limb (pY V) 2 : Nat), .int .u64 (limb (pY V) 3 : Nat), .bool (pI V)]) (w4.setRow w.heap.size #[.int .u64 (limb (pX V) 0 : Nat), .int .u64 (limb (pX V) 1 : Nat), .int .u64 (limb (pX V) 2 : Nat), .int .u64 (limb (pX V) 3 : Nat), .int .u64 (limb (pY V) 0 : Nat), .int .u64 (limb (pY V) 1 : Nat), .int .u64 (limb (pY V) 2 : Nat), .int .u64 (limb (pY V) 3 : Nat), .bool (pI V)]) := (H4.out.2.put [.int .u64 (limb (pX V) 0 : Nat), .int .u64 (limb (pX V) 1 : Nat), .int .u64 (limb (pX V) 2 : Nat), .int .u64 (limb (pX V) 3 : Nat), .int .u64 (limb (pY V) 0 : Nat), .int .u64 (limb (pY V) 1 : Nat), .int .u64 (limb (pY V) 2 : Nat), .int .u64 (limb (pY V) 3 : Nat), .bool (pI V)]).load Tryd.underlying36 rfl (by kernel_rfl)
  refine bodyPost_ret (v := .tuple #[.agg #[.int .u64 (limb (pX V) 0 : Nat), .int .u64 (limb (pX V) 1 : Nat), .int .u64 (limb (pX V) 2 : Nat), .int .u64 (limb (pX V) 3 : Nat), .int .u64 (limb (pY V) 0 : Nat), .int .u64 (limb (pY V) 1 : Nat), .int .u64 (limb (pY V) 2 : Nat), .int .u64 (limb (pY V) 3 : Nat), .bool (pI V)], .int .i64 0]) ?_ rfl ⟨rfl, below_setRow (Nat.le_refl _) _ H4.out.1⟩
  simp [results, Tryd.results9, asAddr, hld]
set_option maxRecDepth 100000 in
set_option maxHeartbeats 4000000 in
theorem fchk_ok (cs : List Pts) (n x s : Nat) (b : Option Addr) (kc : Nat) (V R : Pts) (D : Bool) (E : Int) (hn : n = cs.length) (h1 : 1 ≤ n ∧ n ≤ 10) (hx : x ≤ 10) (hs : s < QQ) (hV : V = vaP x cs) (hR : R = gr.mul s gG) (hD : D = true ↔ R = V) (hE : E = if D then 0 else 70) (w : World) (hG : GA w) (hP : PtsAt w b cs) :
    Calls Tryd.prog 11 #[.slice b n kc, .int .i64 (x : Nat), .agg #[.int .u64 (limb s 0 : Nat), .int .u64 (limb s 1 : Nat), .int .u64 (limb s 2 : Nat), .int .u64 (limb s 3 : Nat)]] w fun e w' => e = .returned (.int .i64 E) ∧ Below w.heap.size w w' := by
  have KV : Hid (∀ w, GA w → PtsAt w b cs → Calls Tryd.prog 9 #[.slice b n kc, .int .i64 (x : Nat)] w fun e w' => e = .returned (.tuple #[.agg #[.int .u64 (limb (pX V) 0 : Nat), .int .u64 (limb (pX V) 1 : Nat), .int .u64 (limb (pX V) 2 : Nat), .int .u64 (limb (pX V) 3 : Nat), .int .u64 (limb (pY V) 0 : Nat), .int .u64 (limb (pY V) 1 : Nat), .int .u64 (limb (pY V) 2 : Nat), .int .u64 (limb (pY V) 3 : Nat), .bool (pI V)], .int .i64 0]) ∧ Below w.heap.size w w') := fun w h2 h3 => fval_ok cs n x b kc V hn h1 hx hV w h2 h3
  have KG : Hid _ := G_A
  have KM : Hid (∀ w, GA w → Calls Tryd.prog 17 #[.agg #[.int .u64 (limb s 0 : Nat), .int .u64 (limb s 1 : Nat), .int .u64 (limb s 2 : Nat), .int .u64 (limb s 3 : Nat)], .agg #[.int .u64 (limb (pX gG) 0 : Nat), .int .u64 (limb (pX gG) 1 : Nat), .int .u64 (limb (pX gG) 2 : Nat), .int .u64 (limb (pX gG) 3 : Nat), .int .u64 (limb (pY gG) 0 : Nat), .int .u64 (limb (pY gG) 1 : Nat), .int .u64 (limb (pY gG) 2 : Nat), .int .u64 (limb (pY gG) 3 : Nat), .bool (pI gG)]] w fun e w' => e = .returned (.tuple #[.agg #[.int .u64 (limb (pX R) 0 : Nat), .int .u64 (limb (pX R) 1 : Nat), .int .u64 (limb (pX R) 2 : Nat), .int .u64 (limb (pX R) 3 : Nat), .int .u64 (limb (pY R) 0 : Nat), .int .u64 (limb (pY R) 1 : Nat), .int .u64 (limb (pY R) 2 : Nat), .int .u64 (limb (pY R) 3 : Nat), .bool (pI R)], .int .i64 0]) ∧ Below w.heap.size w w') := fun w h => by
    rw [hR]
    exact Mul_ok s gG hs w h.1 h.2.1 h.2.2.1
  have HQ : Hid (∀ w : World, (Op.equalIn 10000 36 (.agg #[.int .u64 (limb (pX R) 0 : Nat), .int .u64 (limb (pX R) 1 : Nat), .int .u64 (limb (pX R) 2 : Nat), .int .u64 (limb (pX R) 3 : Nat), .int .u64 (limb (pY R) 0 : Nat), .int .u64 (limb (pY R) 1 : Nat), .int .u64 (limb (pY R) 2 : Nat), .int .u64 (limb (pY R) 3 : Nat), .bool (pI R)]) (.agg #[.int .u64 (limb (pX V) 0 : Nat), .int .u64 (limb (pX V) 1 : Nat), .int .u64 (limb (pX V) 2 : Nat), .int .u64 (limb (pX V) 3 : Nat), .int .u64 (limb (pY V) 0 : Nat), .int .u64 (limb (pY V) 1 : Nat), .int .u64 (limb (pY V) 2 : Nat), .int .u64 (limb (pY V) 3 : Nat), .bool (pI V)])).run Tryd.prog w = .ok D w) := fun w => eqPts R V D hD w
  obtain ⟨W1, hW1⟩ : ∃ W1, W1 = w.alloc (.cells #[.int .u64 (limb s 0 : Nat), .int .u64 (limb s 1 : Nat), .int .u64 (limb s 2 : Nat), .int .u64 (limb s 3 : Nat)] 34) := ⟨_, rfl⟩
  have H1 : Hid (Below w.heap.size w W1 ∧ Bl W1 w.heap.size (numV s) 34 ∧ GA W1 ∧ PtsAt W1 b cs) := by
    have hb : Below w.heap.size w W1 := by
      rw [hW1]
      exact below_alloc0 (Below.refl _ _) _
    refine ⟨hb, ?_, hG.call hb, hP.call hb⟩
    rw [hW1]
    exact Bl.new w (numV s) _
  have HW : Hid (W1 = w.alloc (.cells #[.int .u64 (limb s 0 : Nat), .int .u64 (limb s 1 : Nat), .int .u64 (limb s 2 : Nat), .int .u64 (limb s 3 : Nat)] 34)) := hW1
  have HE : Hid (E = if D then 0 else 70) := hE
  clear hn h1 hx hs hV hR hD hG hP hW1 hE
  go_enter Tryd.func11, Tryd.ntmps11
  go_upto_region 1 with fail
  rw [← HW.out]
  clear HW
  go_wp2_with fail
  refine (KV.out _ H1.out.2.2.1 H1.out.2.2.2).mono ?_
  rintro e w2 ⟨rfl, hb2⟩
  obtain ⟨A, hA⟩ : ∃ A, A = w2.heap.size := ⟨_, rfl⟩
  obtain ⟨W3, hW3⟩ : ∃ W3, W3 = w2.alloc (.cells #[.int .u64 (limb (pX V) 0 : Nat), .int .u64 (limb (pX V) 1 : Nat), .int .u64 (limb (pX V) 2 : Nat), .int .u64 (limb (pX V) 3 : Nat), .int .u64 (limb (pY V) 0 : Nat), .int .u64 (limb (pY V) 1 : Nat), .int .u64 (limb (pY V) 2 : Nat), .int .u64 (limb (pY V) 3 : Nat), .bool (pI V)] 36) := ⟨_, rfl⟩
  have H3 : Hid (Below w.heap.size w W3 ∧ Bl W3 w.heap.size (numV s) 34 ∧ GA W3 ∧ Bl W3 A (ptsV V) 36) := by
    have hb : Below W1.heap.size W1 W3 := by
      rw [hW3]
      exact below_alloc0 hb2 _
    refine ⟨below_call0 H1.out.1 hb, H1.out.2.1.call hb, H1.out.2.2.1.call hb, ?_⟩
    rw [hW3, hA]
    exact Bl.new w2 (ptsV V) _
  have HW : Hid (W3 = w2.alloc (.cells #[.int .u64 (limb (pX V) 0 : Nat), .int .u64 (limb (pX V) 1 : Nat), .int .u64 (limb (pX V) 2 : Nat), .int .u64 (limb (pX V) 3 : Nat), .int .u64 (limb (pY V) 0 : Nat), .int .u64 (limb (pY V) 1 : Nat), .int .u64 (limb (pY V) 2 : Nat), .int .u64 (limb (pY V) 3 : Nat), .bool (pI V)] 36) ∧ A = w2.heap.size) := ⟨hW3, hA⟩
  clear hW3 hA hb2 H1 KV
  go_upto_region 2 with fail
  rw [← HW.out.1, ← HW.out.2]
  clear HW
  go_upto_region 4 with fail
  refine wp_region_K 8 0 6 7 [.agg #[.int .u64 (limb s 0 : Nat), .int .u64 (limb s 1 : Nat), .int .u64 (limb s 2 : Nat), .int .u64 (limb s 3 : Nat)], ?v1r2, ?v2r2, ?v3r2, ?v4r2, ?v5r2, undef, undef] [some 20, some 21, some 22, some 19, some 23, some 24, some 9, none] (fun s w b => OwnC w b (cond s (ptsV R) zpL)) ?Ar2 ?oar2 ?osr2 (by kernel_rfl) (by kernel_rfl) (by kernel_rfl) rfl ?hAr2 (fun _ _ _ _ h hb => OwnC.call h hb) ?hopr2 ?hoar2 ?hosr2 (by decide) (by decide) ?hswr2 ?halr2 ?hstr2 ?hfinr2
  case hAr2 =>
    intro bq
    simp only [List.set_cons_zero, List.set_cons_succ, List.zip_cons_cons, List.zip_nil_right, fillD, Act.put, List.setIfInBounds_toArray]
    exact rfl
  case hopr2 =>
    refine ⟨?_, ?_, ?_, ?_, ?_, ?_, fun h => absurd rfl h, fun _ h => absurd rfl h, trivial⟩
    focus (intro _ _ bq wx hS; refine OpTo.yields rfl ?_; exact exec_loadF (b := w.heap.size) (x := 5) rfl rfl ((H3.out.2.1.call hS).load Tryd.underlying34 rfl (by kernel_rfl)))
    focus (intro _ _ bq wx hS; refine OpTo.calls rfl ?_ ?_; rotate_left; intro K hK; go_simp; refine (KG.out _ (H3.out.2.2.1.call hS).2.2.2).mono ?_; rintro e w' ⟨rfl, hq⟩; exact hK w' hq; exact rfl)
    focus (intro _ _ bq wx hS; refine OpTo.calls rfl ?_ ?_; rotate_left; intro K hK; go_simp; refine (KM.out _ (H3.out.2.2.1.call hS)).mono ?_; rintro e w' ⟨rfl, hq⟩; exact hK w' hq; exact rfl)
    iterate 3 focus (intro _ _ bq wx hS; refine OpTo.yields rfl ?_; clear hS; go_simp; try with_reducible rfl)
  case hoar2 =>
    rw [List.getElem?_toArray]
    exact rfl
  case halr2 =>
    intro bq wx hS
    refine OpTo.make (ob := ?obr2) (B := fun w b => OwnC w b zpL) hS rfl ?runr2 ?ownr2
    case runr2 =>
      go_simp
      try with_reducible rfl
    case ownr2 => exact OwnC.new' rfl
  case hosr2 =>
    rw [List.getElem?_toArray]
    exact rfl
  case hswr2 => kernel_rfl
  case hstr2 =>
    intro bq wx hS hB hle
    have hB' : OwnC wx bq zpL := hB
    refine OpTo.stores (w1 := putL bq 0 (ptsV R) wx) (R := fun w' => OwnC w' bq (cond true (ptsV R) zpL) ∧ Below W3.heap.size W3 w') rfl ?_ rfl ⟨OwnC.put (ptsV R) hB' rfl, below_putL hle (ptsV R) 0 _ hS⟩
    obtain ⟨gz, g0, g1, g2, g3, g4, g5, g6, g7, g8, gf⟩ := OwnC.zp hB'
    first | (left; go_simp; done) | (right; exact ⟨_, by go_simp; rfl⟩) | (left; go_simp; rfl)
  case hfinr2 =>
    intro bq wx hS hB hle
    refine tail_at (o := ?ofr2_8) ?hir2_8 ?hwr2_8 ?_
    case hir2_8 => rw [List.getElem?_toArray]; exact rfl
    case hwr2_8 => exact rfl
    go_simp
    refine tail_end ?_
    have L1 : Hid ((loadVar 36 ⟨bq, 0, none⟩).run Tryd.prog wx = .ok (.agg #[.int .u64 (limb (pX R) 0 : Nat), .int .u64 (limb (pX R) 1 : Nat), .int .u64 (limb (pX R) 2 : Nat), .int .u64 (limb (pX R) 3 : Nat), .int .u64 (limb (pY R) 0 : Nat), .int .u64 (limb (pY R) 1 : Nat), .int .u64 (limb (pY R) 2 : Nat), .int .u64 (limb (pY R) 3 : Nat), .bool (pI R)]) wx) := run_loadVar_mid wx bq 0 36 (ptsV R) _ (fun j v hv => by rw [Nat.zero_add]; exact hB.2.2 j v hv) Tryd.underlying36 rfl (by kernel_rfl)
    have L2 : Hid ((loadVar 36 ⟨A, 0, none⟩).run Tryd.prog wx = .ok (.agg #[.int .u64 (limb (pX V) 0 : Nat), .int .u64 (limb (pX V) 1 : Nat), .int .u64 (limb (pX V) 2 : Nat), .int .u64 (limb (pX V) 3 : Nat), .int .u64 (limb (pY V) 0 : Nat), .int .u64 (limb (pY V) 1 : Nat), .int .u64 (limb (pY V) 2 : Nat), .int .u64 (limb (pY V) 3 : Nat), .bool (pI V)]) wx) := (H3.out.2.2.2.call hS).load Tryd.underlying36 rfl (by kernel_rfl)
    have HF : Hid (Below w.heap.size w wx) := below_call0 H3.out.1 hS
    clear hB hS hle H3 KG KM
    go_upto_region 7 with fail
    have hq := HQ.out
    cases D
    · obtain rfl : E = 70 := HE.out
      go_wp2_with (first | ((with_reducible refine load_to (b := bq) (k := 0) (x := 9) ?_ ?_ ?_ L1.out ?_); rfl; rfl; rfl) | ((with_reducible refine load_to (b := A) (k := 0) (x := 7) ?_ ?_ ?_ L2.out ?_); rfl; rfl; rfl))
      go_ret
      exact ⟨rfl, HF.out⟩
    · obtain rfl : E = 0 := HE.out
      go_wp2_with (first | ((with_reducible refine load_to (b := bq) (k := 0) (x := 9) ?_ ?_ ?_ L1.out ?_); rfl; rfl; rfl) | ((with_reducible refine load_to (b := A) (k := 0) (x := 7) ?_ ?_ ?_ L2.out ?_); rfl; rfl; rfl))
      go_ret
      exact ⟨rfl, HF.out⟩
end Go.Proofs.YtkdejflgmgljiaaDoor

namespace Go.Proofs.YtkdejflgmgljiaaDoor
open Go Go.RowKit Go.Lib
theorem fmod (n : Nat) (p : Pts) : gr.mul (n % QQ) p = gr.mul n p := by
  have e : n = n / QQ * QQ + n % QQ := by
    rw [Nat.mul_comm]
    exact (Nat.div_add_mod n QQ).symm
  have h : gr.mul n p = gr.mul (n / QQ * QQ + n % QQ) p := by rw [← e]
  rw [h, gr.mul_add, gr.mul_mul, order_any, gr.mul_z, gr.zero']
theorem fmul_modr (a b : Nat) (p : Pts) : gr.mul (a * (b % QQ)) p = gr.mul (a * b) p := by rw [gr.mul_mul, fmod, ← gr.mul_mul]
theorem tot_pow (x : Nat) : ∀ (l : List Nat) (e : Nat), gr.tot gr.mul (List.zip ((List.range l.length).map fun i => x ^ (e + i) % QQ) (l.map fun k => gr.mul k gG)) = gr.mul (x ^ e * hoN QQ x l) gG
  | [], _ => rfl
  | c :: r, e => by
    have ih := tot_pow x r (e + 1)
    have eq : (List.range r.length).map ((fun i => x ^ (e + i) % QQ) ∘ Nat.succ) = (List.range r.length).map fun i => x ^ (e + 1 + i) % QQ := List.map_congr_left fun i _ => by
      show x ^ (e + (i + 1)) % QQ = _
      rw [show e + (i + 1) = e + 1 + i by omega]
    rw [List.length_cons, List.range_succ_eq_map, List.map_cons, List.map_map, List.map_cons, List.zip_cons_cons]
    show gr.add (gr.mul (x ^ (e + 0) % QQ) (gr.mul c gG)) (gr.tot gr.mul _) = _
    rw [eq, ih, Nat.add_zero, fmod, ← gr.mul_mul, ← gr.mul_add]
    have h1 : gr.mul (x ^ e * hoN QQ x (c :: r)) gG = gr.mul (x ^ e * (hoN QQ x r * x) + x ^ e * c) gG := by
      show gr.mul (x ^ e * ((hoN QQ x r * x % QQ + c) % QQ)) gG = _
      rw [fmul_modr, Nat.mul_add, gr.mul_add, fmul_modr, ← gr.mul_add]
    rw [h1]
    congr 1
    rw [Nat.pow_succ, Nat.add_comm, Nat.mul_assoc, Nat.mul_comm x]
theorem vaP_ok (x : Nat) (l : List Nat) : vaP x (l.map fun k => gr.mul k gG) = gr.mul (hoN QQ x l) gG := by
  have h := tot_pow x l 0
  simp only [Nat.zero_add, Nat.pow_zero, Nat.one_mul] at h
  unfold vaP
  rw [List.length_map]
  exact h
theorem gG_inj {i j : Nat} (hi : i < QQ) (hj : j < QQ) : gr.mul i gG = gr.mul j gG ↔ i = j :=
  ⟨fun h => gr.inj gG QQ prime_Q.2 G_order gG_ne hi hj h, fun h => by rw [h]⟩
theorem nums_two (W : World) (x y : Nat) (t : TypeId) (hx : x < M64) (hy : y < M64) : Nums (W.alloc (.cells #[.int .u64 (x : Int), .int .u64 0, .int .u64 0, .int .u64 0, .int .u64 (y : Int), .int .u64 0, .int .u64 0, .int .u64 0] t)) (some ⟨W.heap.size, 0, none⟩) [x, y] := by
  obtain ⟨x0, x1, x2, x3⟩ := limb_small x hx
  obtain ⟨y0, y1, y2, y3⟩ := limb_small y hy
  intro j n hj
  match j, hj with
  | 0, hj =>
    simp at hj
    subst hj
    refine ⟨W.heap.size, 0, rfl, fun i hi => ?_, by simp⟩
    have : i = 0 ∨ i = 1 ∨ i = 2 ∨ i = 3 := by omega
    rcases this with rfl | rfl | rfl | rfl <;> simp [go_sem, x0, x1, x2, x3]
  | 1, hj =>
    simp at hj
    subst hj
    refine ⟨W.heap.size, 0, rfl, fun i hi => ?_, by simp⟩
    have : i = 0 ∨ i = 1 ∨ i = 2 ∨ i = 3 := by omega
    rcases this with rfl | rfl | rfl | rfl <;> simp [go_sem, y0, y1, y2, y3]
  | j + 2, hj => simp at hj
theorem line_at : atE [5, 3] 0 = 0 := by kernel_rfl
theorem line_ho : hoN QQ 2 [5, 3] = 11 := by kernel_rfl
/-- A share against commitments of a polynomial. -/
theorem fchk_poly (l : List Nat) (n x s : Nat) (b : Option Addr) (kc : Nat) (E : Int) (hn : n = l.length) (h1 : 1 ≤ n ∧ n ≤ 10) (hx : x ≤ 10) (hs : s < QQ) (hE : E = if s = hoN QQ x l then 0 else 70) (w : World) (hG : GA w) (hP : PtsAt w b (l.map fun k => gr.mul k gG)) :
    Calls Tryd.prog 11 #[.slice b n kc, .int .i64 (x : Nat), .agg #[.int .u64 (limb s 0 : Nat), .int .u64 (limb s 1 : Nat), .int .u64 (limb s 2 : Nat), .int .u64 (limb s 3 : Nat)]] w fun e w' => e = .returned (.int .i64 E) ∧ Below w.heap.size w w' :=
  fchk_ok (l.map fun k => gr.mul k gG) n x s b kc (gr.mul (hoN QQ x l) gG) (gr.mul s gG) (decide (s = hoN QQ x l)) E (by rw [List.length_map]; exact hn) h1 hx hs (vaP_ok x l).symm rfl
    (by rw [gG_inj hs (hoN_lt QQ x (of_decide_eq_true (by kernel_rfl)) l)]; simp) (by rw [hE]; by_cases h : s = hoN QQ x l <;> simp [h]) w hG hP
theorem lit_num (k : Nat) (h : k < M64) : (.agg #[.int .u64 (limb k 0 : Nat), .int .u64 (limb k 1 : Nat), .int .u64 (limb k 2 : Nat), .int .u64 (limb k 3 : Nat)] : Value) = .agg #[.int .u64 (k : Nat), .int .u64 0, .int .u64 0, .int .u64 0] := by
  obtain ⟨e0, e1, e2, e3⟩ := limb_small k h
  rw [e0, e1, e2, e3]
  rfl
set_option maxRecDepth 100000 in
set_option maxHeartbeats 4000000 in
theorem line_ok (w : World) (hG : GA w) : Calls Tryd.prog 8 #[] w fun e w' => e = .returned (.bool true) ∧ Below w.heap.size w w' := by
  have KC : Hid (∀ (a : Option Addr) (w : World), GA w → Nums w a [5, 3] → Calls Tryd.prog 5 #[.slice a 2 2] w fun e w' => (∃ b, e = .returned (.tuple #[.slice b 2 2, .int .i64 0]) ∧ PtsAt w' b ([5, 3].map fun k => gr.mul k gG)) ∧ Below w.heap.size w w') := fun a w h1 h2 => by
    have h := fcom_any [5, 3] 2 a 2 rfl (by decide) w h1 h2
    refine h.mono ?_
    rintro e w' ⟨⟨b, c, he, hp, -⟩, hb⟩
    obtain ⟨rfl, hp2⟩ := hp line_at
    rw [line_at] at he
    exact ⟨⟨b, he, hp2⟩, hb⟩
  have K1 : Hid (∀ (b : Option Addr) (w : World), GA w → PtsAt w b ([5, 3].map fun k => gr.mul k gG) → Calls Tryd.prog 11 #[.slice b 2 2, .int .i64 2, .agg #[.int .u64 11, .int .u64 0, .int .u64 0, .int .u64 0]] w fun e w' => e = .returned (.int .i64 0) ∧ Below w.heap.size w w') := fun b w h1 h2 => by
    have h := fchk_poly [5, 3] 2 2 11 b 2 0 rfl (by decide) (by decide) (of_decide_eq_true (by kernel_rfl)) (by rw [line_ho]; rfl) w h1 h2
    rw [lit_num 11 (by decide)] at h
    exact h
  have K2 : Hid (∀ (b : Option Addr) (w : World), GA w → PtsAt w b ([5, 3].map fun k => gr.mul k gG) → Calls Tryd.prog 11 #[.slice b 2 2, .int .i64 2, .agg #[.int .u64 12, .int .u64 0, .int .u64 0, .int .u64 0]] w fun e w' => e = .returned (.int .i64 70) ∧ Below w.heap.size w w') := fun b w h1 h2 => by
    have h := fchk_poly [5, 3] 2 2 12 b 2 70 rfl (by decide) (by decide) (of_decide_eq_true (by kernel_rfl)) (by rw [line_ho]; rfl) w h1 h2
    rw [lit_num 12 (by decide)] at h
    exact h
  have H0 : Hid (GA w) := hG
  clear hG
  go_enter Tryd.func8, Tryd.ntmps8
  go_wp2_with fail
  refine (KC.out _ _ (H0.out.call (below_alloc0 (Below.refl _ _) _)) (nums_two w 5 3 34 (by decide) (by decide))).mono ?_
  rintro e w1 ⟨⟨b, rfl, hp⟩, hb1⟩
  have H1 : Hid (Below w.heap.size w w1 ∧ PtsAt w1 b ([5, 3].map fun k => gr.mul k gG)) := ⟨below_call0 (below_alloc0 (Below.refl _ _) _) hb1, hp⟩
  clear hb1 hp KC
  go_wp2_with fail
  refine (K1.out _ _ (H0.out.call H1.out.1) H1.out.2).mono ?_
  rintro e w2 ⟨rfl, hb2⟩
  have H2 : Hid (Below w.heap.size w w2 ∧ PtsAt w2 b ([5, 3].map fun k => gr.mul k gG)) := ⟨below_call0 H1.out.1 hb2, H1.out.2.call hb2⟩
  clear hb2 H1 K1
  go_wp2_with fail
  refine (K2.out _ _ (H0.out.call H2.out.1) H2.out.2).mono ?_
  rintro e w3 ⟨rfl, hb3⟩
  have H3 : Hid (Below w.heap.size w w3) := below_call0 H2.out.1 hb3
  clear hb3 H2 K2
  go_wp2_with fail
  go_ret
  exact ⟨rfl, H3.out⟩
end Go.Proofs.YtkdejflgmgljiaaDoor
