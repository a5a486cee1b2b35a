/- A signature of three letters. -/
import Derived.Test.YtchphekaonnfeaaDoorMgS
namespace Go.Proofs.YtchphekaonnfeaaDoor
open Go Go.RowKit Go.Lib
theorem run_eqM' (d : Nat) (x0 x1 x2 x3 y0 y1 y2 y3 : Int) (w : World) : (Op.equalIn (d + 2) 24 (.agg #[.int .u64 x0, .int .u64 x1, .int .u64 x2, .int .u64 x3]) (.agg #[.int .u64 y0, .int .u64 y1, .int .u64 y2, .int .u64 y3])).run Tryd.prog w = .ok (eq4 x0 x1 x2 x3 y0 y1 y2 y3) w := by
  rw [Op.equalIn]
  simp only [Sem.run_bind, run_underlying Tryd.underlying24, Result.andThen_ok, size_limb]
  simp only [Std.Legacy.Range.forIn_eq_forIn_range', Std.Legacy.Range.size]
  simp only [List.range', List.forIn_cons, List.forIn_nil, Sem.run_bind, Nat.mul_one, Nat.sub_zero, Nat.zero_add, limb_part0, Result.andThen_ok, eq_limb]
  unfold eq4
  cases x0 == y0
  · simp
  simp only [Bool.not_true, Bool.false_eq_true, if_false, Sem.run_pure, Result.andThen_ok, Sem.run_bind, limb_part1, eq_limb]
  cases x1 == y1
  · simp
  simp only [Bool.not_true, Bool.false_eq_true, if_false, Sem.run_pure, Result.andThen_ok, Sem.run_bind, show 1 + 1 = 2 from rfl, show 2 + 1 = 3 from rfl, limb_part2, eq_limb]
  cases x2 == y2
  · simp
  simp only [Bool.not_true, Bool.false_eq_true, if_false, Sem.run_pure, Result.andThen_ok, Sem.run_bind, limb_part3, eq_limb]
  cases x3 == y3
  · simp
  · simp
theorem run_eqM (x0 x1 x2 x3 y0 y1 y2 y3 : Int) (w : World) : (Op.equalIn 10000 24 (.agg #[.int .u64 x0, .int .u64 x1, .int .u64 x2, .int .u64 x3]) (.agg #[.int .u64 y0, .int .u64 y1, .int .u64 y2, .int .u64 y3])).run Tryd.prog w = .ok (eq4 x0 x1 x2 x3 y0 y1 y2 y3) w := run_eqM' 9998 x0 x1 x2 x3 y0 y1 y2 y3 w
theorem ltQ_small (k : Nat) (h : k < 100) : k < QQ := Nat.lt_trans h (of_decide_eq_true (by kernel_rfl))
set_option maxRecDepth 100000 in
set_option maxHeartbeats 4000000 in
theorem abc_ok (w : World) (hG : GS w) : Calls Tryd.prog 7 #[] w fun e w' => e = .returned (.bool true) ∧ Below w.heap.size w w' := by
  obtain ⟨Y, hY⟩ : ∃ Y, Y = gr.mul 7 gG := ⟨_, rfl⟩
  obtain ⟨R, hR⟩ : ∃ R, R = gr.mul 9 gG := ⟨_, rfl⟩
  obtain ⟨c, hc⟩ : ∃ c, c = chN R Y ⟨#[97, 98, 99]⟩ := ⟨_, rfl⟩
  obtain ⟨z, hz⟩ : ∃ z, z = (9 + c * 7 % QQ) % QQ := ⟨_, rfl⟩
  have K7 : Hid (∀ w, GS w → Calls Tryd.prog 6 #[.agg #[.int .u64 7, .int .u64 0, .int .u64 0, .int .u64 0]] w fun e w' => e = .returned (.tuple #[.agg #[.int .u64 (limb (pX Y) 0 : Nat), .int .u64 (limb (pX Y) 1 : Nat), .int .u64 (limb (pX Y) 2 : Nat), .int .u64 (limb (pX Y) 3 : Nat), .int .u64 (limb (pY Y) 0 : Nat), .int .u64 (limb (pY Y) 1 : Nat), .int .u64 (limb (pY Y) 2 : Nat), .int .u64 (limb (pY Y) 3 : Nat), .bool (pI Y)], .int .i64 0]) ∧ Below w.heap.size w w') := fun w h => by
    have k := pub_ok 7 Y (by decide) (ltQ_small 7 (by decide)) hY w h.1
    rw [s_lit 7 (by decide)] at k
    exact k
  have K9 : Hid (∀ w, GS w → Calls Tryd.prog 6 #[.agg #[.int .u64 9, .int .u64 0, .int .u64 0, .int .u64 0]] w fun e w' => e = .returned (.tuple #[.agg #[.int .u64 (limb (pX R) 0 : Nat), .int .u64 (limb (pX R) 1 : Nat), .int .u64 (limb (pX R) 2 : Nat), .int .u64 (limb (pX R) 3 : Nat), .int .u64 (limb (pY R) 0 : Nat), .int .u64 (limb (pY R) 1 : Nat), .int .u64 (limb (pY R) 2 : Nat), .int .u64 (limb (pY R) 3 : Nat), .bool (pI R)], .int .i64 0]) ∧ Below w.heap.size w w') := fun w h => by
    have k := pub_ok 9 R (by decide) (ltQ_small 9 (by decide)) hR w h.1
    rw [s_lit 9 (by decide)] at k
    exact k
  have KS : Hid (∀ w, GS w → Calls Tryd.prog 5 #[.agg #[.int .u64 7, .int .u64 0, .int .u64 0, .int .u64 0], .agg #[.int .u64 9, .int .u64 0, .int .u64 0, .int .u64 0], .string ⟨#[97, 98, 99]⟩] w fun e w' => e = .returned (.tuple #[.agg #[.int .u64 (limb (pX R) 0 : Nat), .int .u64 (limb (pX R) 1 : Nat), .int .u64 (limb (pX R) 2 : Nat), .int .u64 (limb (pX R) 3 : Nat), .int .u64 (limb (pY R) 0 : Nat), .int .u64 (limb (pY R) 1 : Nat), .int .u64 (limb (pY R) 2 : Nat), .int .u64 (limb (pY R) 3 : Nat), .bool (pI R), .int .u64 (limb z 0 : Nat), .int .u64 (limb z 1 : Nat), .int .u64 (limb z 2 : Nat), .int .u64 (limb z 3 : Nat)], .int .i64 0]) ∧ Below w.heap.size w w') := fun w h => by
    have k := sign_ok 7 9 ⟨#[97, 98, 99]⟩ Y R c _ z (by decide) (ltQ_small 7 (by decide)) (by decide) (ltQ_small 9 (by decide)) (by decide) hY hR hc rfl hz w h
    rw [s_lit 7 (by decide), s_lit 9 (by decide)] at k
    exact k
  have KV : Hid (∀ w, GS w → Calls Tryd.prog 8 #[.agg #[.int .u64 (limb (pX Y) 0 : Nat), .int .u64 (limb (pX Y) 1 : Nat), .int .u64 (limb (pX Y) 2 : Nat), .int .u64 (limb (pX Y) 3 : Nat), .int .u64 (limb (pY Y) 0 : Nat), .int .u64 (limb (pY Y) 1 : Nat), .int .u64 (limb (pY Y) 2 : Nat), .int .u64 (limb (pY Y) 3 : Nat), .bool (pI Y)], .string ⟨#[97, 98, 99]⟩, .agg #[.int .u64 0, .int .u64 0, .int .u64 0, .int .u64 0, .int .u64 0, .int .u64 0, .int .u64 0, .int .u64 0, .bool false, .int .u64 0, .int .u64 0, .int .u64 0, .int .u64 0]] w fun e w' => e = .returned (.int .i64 30) ∧ Below w.heap.size w w') := fun w h => by
    have e1 : fiE (pX Y) (pY Y) (pI Y) = 0 := by rw [hY]; exact fi_mul (by decide) (ltQ_small 7 (by decide))
    have e2 : fiE 0 0 false = 30 := by kernel_rfl
    have k := verify_any (pX Y) (pY Y) 0 0 0 (pI Y) false ⟨#[97, 98, 99]⟩ 0 30 (p_R _ (pX_lt Y)) (p_R _ (pY_lt Y)) (by decide) (by decide) (by decide) (by rw [e1, e2]; rfl) (fun _ h2 => absurd (e2.symm.trans h2) (by decide)) w h
    rw [show ((limb 0 0 : Nat) : Int) = 0 by kernel_rfl, show ((limb 0 1 : Nat) : Int) = 0 by kernel_rfl, show ((limb 0 2 : Nat) : Int) = 0 by kernel_rfl, show ((limb 0 3 : Nat) : Int) = 0 by kernel_rfl] at k
    exact k
  have hq0 : z ≠ 0 := by
    rw [hz]
    exact z_ne c (by rw [hc, hR, hY])
  have hzR : z < R256 := by
    rw [hz]
    exact QQ_R (Nat.mod_lt _ QQ_pos)
  have hq1 : ∀ w : World, (Op.equalIn 10000 28 (.agg #[.int .u64 (limb (pX R) 0 : Nat), .int .u64 (limb (pX R) 1 : Nat), .int .u64 (limb (pX R) 2 : Nat), .int .u64 (limb (pX R) 3 : Nat), .int .u64 (limb (pY R) 0 : Nat), .int .u64 (limb (pY R) 1 : Nat), .int .u64 (limb (pY R) 2 : Nat), .int .u64 (limb (pY R) 3 : Nat), .bool (pI R)]) (.agg #[.int .u64 (limb (pX R) 0 : Nat), .int .u64 (limb (pX R) 1 : Nat), .int .u64 (limb (pX R) 2 : Nat), .int .u64 (limb (pX R) 3 : Nat), .int .u64 (limb (pY R) 0 : Nat), .int .u64 (limb (pY R) 1 : Nat), .int .u64 (limb (pY R) 2 : Nat), .int .u64 (limb (pY R) 3 : Nat), .bool (pI R)])).run Tryd.prog w = .ok true w := fun w => eqPts R R true (by simp) w
  have hq2 : ∀ w : World, (Op.equalIn 10000 24 (.agg #[.int .u64 (limb z 0 : Nat), .int .u64 (limb z 1 : Nat), .int .u64 (limb z 2 : Nat), .int .u64 (limb z 3 : Nat)]) (.agg #[.int .u64 0, .int .u64 0, .int .u64 0, .int .u64 0])).run Tryd.prog w = .ok false w := fun w => by
    have h := eq4_num z 0 hzR (by decide)
    have e : (limb 0 0 : Int) = 0 ∧ (limb 0 1 : Int) = 0 ∧ (limb 0 2 : Int) = 0 ∧ (limb 0 3 : Int) = 0 := ⟨by kernel_rfl, by kernel_rfl, by kernel_rfl, by kernel_rfl⟩
    rw [e.1, e.2.1, e.2.2.1, e.2.2.2] at h
    rw [run_eqM, h, decide_eq_false hq0]
  have HQ : Hid ((∀ w : World, (Op.equalIn 10000 28 (.agg #[.int .u64 (limb (pX R) 0 : Nat), .int .u64 (limb (pX R) 1 : Nat), .int .u64 (limb (pX R) 2 : Nat), .int .u64 (limb (pX R) 3 : Nat), .int .u64 (limb (pY R) 0 : Nat), .int .u64 (limb (pY R) 1 : Nat), .int .u64 (limb (pY R) 2 : Nat), .int .u64 (limb (pY R) 3 : Nat), .bool (pI R)]) (.agg #[.int .u64 (limb (pX R) 0 : Nat), .int .u64 (limb (pX R) 1 : Nat), .int .u64 (limb (pX R) 2 : Nat), .int .u64 (limb (pX R) 3 : Nat), .int .u64 (limb (pY R) 0 : Nat), .int .u64 (limb (pY R) 1 : Nat), .int .u64 (limb (pY R) 2 : Nat), .int .u64 (limb (pY R) 3 : Nat), .bool (pI R)])).run Tryd.prog w = .ok true w) ∧ ∀ w : World, (Op.equalIn 10000 24 (.agg #[.int .u64 (limb z 0 : Nat), .int .u64 (limb z 1 : Nat), .int .u64 (limb z 2 : Nat), .int .u64 (limb z 3 : Nat)]) (.agg #[.int .u64 0, .int .u64 0, .int .u64 0, .int .u64 0])).run Tryd.prog w = .ok false w) := ⟨hq1, hq2⟩
  have H0 : Hid (GS w) := hG
  clear hG hq0 hzR hq1 hq2 hz hc hR hY
  go_enter Tryd.func7, Tryd.ntmps7
  go_wp2_with fail
  refine (K7.out _ H0.out).mono ?_
  rintro e w1 ⟨rfl, hb1⟩
  have I1 : Hid (Below w.heap.size w w1) := hb1
  clear hb1 K7
  obtain ⟨A, hA⟩ : ∃ b, b = w1.heap.size := ⟨_, rfl⟩
  have HS : Hid ((storeVar 28 ⟨A, 0, none⟩ (.agg #[.int .u64 (limb (pX Y) 0 : Nat), .int .u64 (limb (pX Y) 1 : Nat), .int .u64 (limb (pX Y) 2 : Nat), .int .u64 (limb (pX Y) 3 : Nat), .int .u64 (limb (pY Y) 0 : Nat), .int .u64 (limb (pY Y) 1 : Nat), .int .u64 (limb (pY Y) 2 : Nat), .int .u64 (limb (pY Y) 3 : Nat), .bool (pI Y)])).run Tryd.prog (w1.alloc (.cells #[.int .u64 0, .int .u64 0, .int .u64 0, .int .u64 0, .int .u64 0, .int .u64 0, .int .u64 0, .int .u64 0, .bool false] 28)) = .ok () ((w1.alloc (.cells #[.int .u64 0, .int .u64 0, .int .u64 0, .int .u64 0, .int .u64 0, .int .u64 0, .int .u64 0, .int .u64 0, .bool false] 28)).setRow A #[.int .u64 (limb (pX Y) 0 : Nat), .int .u64 (limb (pX Y) 1 : Nat), .int .u64 (limb (pX Y) 2 : Nat), .int .u64 (limb (pX Y) 3 : Nat), .int .u64 (limb (pY Y) 0 : Nat), .int .u64 (limb (pY Y) 1 : Nat), .int .u64 (limb (pY Y) 2 : Nat), .int .u64 (limb (pY Y) 3 : Nat), .bool (pI Y)])) := by
    rw [hA]
    exact (Bl.new w1 [.int .u64 0, .int .u64 0, .int .u64 0, .int .u64 0, .int .u64 0, .int .u64 0, .int .u64 0, .int .u64 0, .bool false] 28).store (us := [.int .u64 (limb (pX Y) 0 : Nat), .int .u64 (limb (pX Y) 1 : Nat), .int .u64 (limb (pX Y) 2 : Nat), .int .u64 (limb (pX Y) 3 : Nat), .int .u64 (limb (pY Y) 0 : Nat), .int .u64 (limb (pY Y) 1 : Nat), .int .u64 (limb (pY Y) 2 : Nat), .int .u64 (limb (pY Y) 3 : Nat), .bool (pI Y)]) (by kernel_rfl) rfl (by kernel_rfl)
  have HA : Hid (A = w1.heap.size) := hA
  clear hA
  go_upto_region 2 with (first | ((rw [← HA.out]); (with_reducible refine store_to (b := A) (k := 0) (x := 1) (y := 10) ?_ ?_ ?_ ?_ HS.out ?_); rfl; rfl; rfl; rfl) | ((with_reducible refine store_to (b := A) (k := 0) (x := 1) (y := 10) ?_ ?_ ?_ ?_ HS.out ?_); rfl; rfl; rfl; rfl))
  obtain ⟨W1, hW1⟩ : ∃ W, W = (w1.alloc (.cells #[.int .u64 0, .int .u64 0, .int .u64 0, .int .u64 0, .int .u64 0, .int .u64 0, .int .u64 0, .int .u64 0, .bool false] 28)).setRow A #[.int .u64 (limb (pX Y) 0 : Nat), .int .u64 (limb (pX Y) 1 : Nat), .int .u64 (limb (pX Y) 2 : Nat), .int .u64 (limb (pX Y) 3 : Nat), .int .u64 (limb (pY Y) 0 : Nat), .int .u64 (limb (pY Y) 1 : Nat), .int .u64 (limb (pY Y) 2 : Nat), .int .u64 (limb (pY Y) 3 : Nat), .bool (pI Y)] := ⟨_, rfl⟩
  have BW1 : Hid (Below w1.heap.size w1 W1 ∧ Bl W1 A [.int .u64 (limb (pX Y) 0 : Nat), .int .u64 (limb (pX Y) 1 : Nat), .int .u64 (limb (pX Y) 2 : Nat), .int .u64 (limb (pX Y) 3 : Nat), .int .u64 (limb (pY Y) 0 : Nat), .int .u64 (limb (pY Y) 1 : Nat), .int .u64 (limb (pY Y) 2 : Nat), .int .u64 (limb (pY Y) 3 : Nat), .bool (pI Y)] 28) := by
    rw [hW1, HA.out]
    exact ⟨below_setRow (Nat.le_refl _) _ (below_alloc0 (Below.refl _ _) _), (Bl.new w1 [.int .u64 0, .int .u64 0, .int .u64 0, .int .u64 0, .int .u64 0, .int .u64 0, .int .u64 0, .int .u64 0, .bool false] 28).put [.int .u64 (limb (pX Y) 0 : Nat), .int .u64 (limb (pX Y) 1 : Nat), .int .u64 (limb (pX Y) 2 : Nat), .int .u64 (limb (pX Y) 3 : Nat), .int .u64 (limb (pY Y) 0 : Nat), .int .u64 (limb (pY Y) 1 : Nat), .int .u64 (limb (pY Y) 2 : Nat), .int .u64 (limb (pY Y) 3 : Nat), .bool (pI Y)]⟩
  rw [← hW1]
  clear hW1 HS
  have H1 : Hid (Below w.heap.size w W1 ∧ Bl W1 A [.int .u64 (limb (pX Y) 0 : Nat), .int .u64 (limb (pX Y) 1 : Nat), .int .u64 (limb (pX Y) 2 : Nat), .int .u64 (limb (pX Y) 3 : Nat), .int .u64 (limb (pY Y) 0 : Nat), .int .u64 (limb (pY Y) 1 : Nat), .int .u64 (limb (pY Y) 2 : Nat), .int .u64 (limb (pY Y) 3 : Nat), .bool (pI Y)] 28) := ⟨below_call0 I1.out BW1.out.1, BW1.out.2⟩
  clear I1 BW1 HA
  go_wp2_with fail
  refine (KS.out _ (H0.out.call H1.out.1)).mono ?_
  rintro e w2 ⟨rfl, hb2⟩
  have I2 : Hid (Below w.heap.size w w2 ∧ Bl w2 A [.int .u64 (limb (pX Y) 0 : Nat), .int .u64 (limb (pX Y) 1 : Nat), .int .u64 (limb (pX Y) 2 : Nat), .int .u64 (limb (pX Y) 3 : Nat), .int .u64 (limb (pY Y) 0 : Nat), .int .u64 (limb (pY Y) 1 : Nat), .int .u64 (limb (pY Y) 2 : Nat), .int .u64 (limb (pY Y) 3 : Nat), .bool (pI Y)] 28) := ⟨below_call0 H1.out.1 hb2, H1.out.2.call hb2⟩
  clear hb2 KS H1
  obtain ⟨B, hB⟩ : ∃ b, b = w2.heap.size := ⟨_, rfl⟩
  have HS : Hid ((storeVar 30 ⟨B, 0, none⟩ (.agg #[.int .u64 (limb (pX R) 0 : Nat), .int .u64 (limb (pX R) 1 : Nat), .int .u64 (limb (pX R) 2 : Nat), .int .u64 (limb (pX R) 3 : Nat), .int .u64 (limb (pY R) 0 : Nat), .int .u64 (limb (pY R) 1 : Nat), .int .u64 (limb (pY R) 2 : Nat), .int .u64 (limb (pY R) 3 : Nat), .bool (pI R), .int .u64 (limb z 0 : Nat), .int .u64 (limb z 1 : Nat), .int .u64 (limb z 2 : Nat), .int .u64 (limb z 3 : Nat)])).run Tryd.prog (w2.alloc (.cells #[.int .u64 0, .int .u64 0, .int .u64 0, .int .u64 0, .int .u64 0, .int .u64 0, .int .u64 0, .int .u64 0, .bool false, .int .u64 0, .int .u64 0, .int .u64 0, .int .u64 0] 30)) = .ok () ((w2.alloc (.cells #[.int .u64 0, .int .u64 0, .int .u64 0, .int .u64 0, .int .u64 0, .int .u64 0, .int .u64 0, .int .u64 0, .bool false, .int .u64 0, .int .u64 0, .int .u64 0, .int .u64 0] 30)).setRow B #[.int .u64 (limb (pX R) 0 : Nat), .int .u64 (limb (pX R) 1 : Nat), .int .u64 (limb (pX R) 2 : Nat), .int .u64 (limb (pX R) 3 : Nat), .int .u64 (limb (pY R) 0 : Nat), .int .u64 (limb (pY R) 1 : Nat), .int .u64 (limb (pY R) 2 : Nat), .int .u64 (limb (pY R) 3 : Nat), .bool (pI R), .int .u64 (limb z 0 : Nat), .int .u64 (limb z 1 : Nat), .int .u64 (limb z 2 : Nat), .int .u64 (limb z 3 : Nat)])) := by
    rw [hB]
    exact (Bl.new w2 [.int .u64 0, .int .u64 0, .int .u64 0, .int .u64 0, .int .u64 0, .int .u64 0, .int .u64 0, .int .u64 0, .bool false, .int .u64 0, .int .u64 0, .int .u64 0, .int .u64 0] 30).store (us := [.int .u64 (limb (pX R) 0 : Nat), .int .u64 (limb (pX R) 1 : Nat), .int .u64 (limb (pX R) 2 : Nat), .int .u64 (limb (pX R) 3 : Nat), .int .u64 (limb (pY R) 0 : Nat), .int .u64 (limb (pY R) 1 : Nat), .int .u64 (limb (pY R) 2 : Nat), .int .u64 (limb (pY R) 3 : Nat), .bool (pI R), .int .u64 (limb z 0 : Nat), .int .u64 (limb z 1 : Nat), .int .u64 (limb z 2 : Nat), .int .u64 (limb z 3 : Nat)]) (by kernel_rfl) rfl (by kernel_rfl)
  have HA : Hid (B = w2.heap.size) := hB
  clear hB
  go_upto_region 3 with (first | ((rw [← HA.out]); (with_reducible refine store_to (b := B) (k := 0) (x := 3) (y := 16) ?_ ?_ ?_ ?_ HS.out ?_); rfl; rfl; rfl; rfl) | ((with_reducible refine store_to (b := B) (k := 0) (x := 3) (y := 16) ?_ ?_ ?_ ?_ HS.out ?_); rfl; rfl; rfl; rfl))
  obtain ⟨W2, hW2⟩ : ∃ W, W = (w2.alloc (.cells #[.int .u64 0, .int .u64 0, .int .u64 0, .int .u64 0, .int .u64 0, .int .u64 0, .int .u64 0, .int .u64 0, .bool false, .int .u64 0, .int .u64 0, .int .u64 0, .int .u64 0] 30)).setRow B #[.int .u64 (limb (pX R) 0 : Nat), .int .u64 (limb (pX R) 1 : Nat), .int .u64 (limb (pX R) 2 : Nat), .int .u64 (limb (pX R) 3 : Nat), .int .u64 (limb (pY R) 0 : Nat), .int .u64 (limb (pY R) 1 : Nat), .int .u64 (limb (pY R) 2 : Nat), .int .u64 (limb (pY R) 3 : Nat), .bool (pI R), .int .u64 (limb z 0 : Nat), .int .u64 (limb z 1 : Nat), .int .u64 (limb z 2 : Nat), .int .u64 (limb z 3 : Nat)] := ⟨_, rfl⟩
  have BW2 : Hid (Below w2.heap.size w2 W2 ∧ Bl W2 B [.int .u64 (limb (pX R) 0 : Nat), .int .u64 (limb (pX R) 1 : Nat), .int .u64 (limb (pX R) 2 : Nat), .int .u64 (limb (pX R) 3 : Nat), .int .u64 (limb (pY R) 0 : Nat), .int .u64 (limb (pY R) 1 : Nat), .int .u64 (limb (pY R) 2 : Nat), .int .u64 (limb (pY R) 3 : Nat), .bool (pI R), .int .u64 (limb z 0 : Nat), .int .u64 (limb z 1 : Nat), .int .u64 (limb z 2 : Nat), .int .u64 (limb z 3 : Nat)] 30) := by
    rw [hW2, HA.out]
    exact ⟨below_setRow (Nat.le_refl _) _ (below_alloc0 (Below.refl _ _) _), (Bl.new w2 [.int .u64 0, .int .u64 0, .int .u64 0, .int .u64 0, .int .u64 0, .int .u64 0, .int .u64 0, .int .u64 0, .bool false, .int .u64 0, .int .u64 0, .int .u64 0, .int .u64 0] 30).put [.int .u64 (limb (pX R) 0 : Nat), .int .u64 (limb (pX R) 1 : Nat), .int .u64 (limb (pX R) 2 : Nat), .int .u64 (limb (pX R) 3 : Nat), .int .u64 (limb (pY R) 0 : Nat), .int .u64 (limb (pY R) 1 : Nat), .int .u64 (limb (pY R) 2 : Nat), .int .u64 (limb (pY R) 3 : Nat), .bool (pI R), .int .u64 (limb z 0 : Nat), .int .u64 (limb z 1 : Nat), .int .u64 (limb z 2 : Nat), .int .u64 (limb z 3 : Nat)]⟩
  rw [← hW2]
  clear hW2 HS
  have H2 : Hid (Below w.heap.size w W2 ∧ Bl W2 A [.int .u64 (limb (pX Y) 0 : Nat), .int .u64 (limb (pX Y) 1 : Nat), .int .u64 (limb (pX Y) 2 : Nat), .int .u64 (limb (pX Y) 3 : Nat), .int .u64 (limb (pY Y) 0 : Nat), .int .u64 (limb (pY Y) 1 : Nat), .int .u64 (limb (pY Y) 2 : Nat), .int .u64 (limb (pY Y) 3 : Nat), .bool (pI Y)] 28 ∧ Bl W2 B [.int .u64 (limb (pX R) 0 : Nat), .int .u64 (limb (pX R) 1 : Nat), .int .u64 (limb (pX R) 2 : Nat), .int .u64 (limb (pX R) 3 : Nat), .int .u64 (limb (pY R) 0 : Nat), .int .u64 (limb (pY R) 1 : Nat), .int .u64 (limb (pY R) 2 : Nat), .int .u64 (limb (pY R) 3 : Nat), .bool (pI R), .int .u64 (limb z 0 : Nat), .int .u64 (limb z 1 : Nat), .int .u64 (limb z 2 : Nat), .int .u64 (limb z 3 : Nat)] 30) := ⟨below_call0 I2.out.1 BW2.out.1, I2.out.2.call BW2.out.1, BW2.out.2⟩
  clear I2 BW2 HA
  go_wp2_with fail
  refine (K9.out _ (H0.out.call H2.out.1)).mono ?_
  rintro e w3 ⟨rfl, hb3⟩
  have I3 : Hid (Below w.heap.size w w3 ∧ Bl w3 A [.int .u64 (limb (pX Y) 0 : Nat), .int .u64 (limb (pX Y) 1 : Nat), .int .u64 (limb (pX Y) 2 : Nat), .int .u64 (limb (pX Y) 3 : Nat), .int .u64 (limb (pY Y) 0 : Nat), .int .u64 (limb (pY Y) 1 : Nat), .int .u64 (limb (pY Y) 2 : Nat), .int .u64 (limb (pY Y) 3 : Nat), .bool (pI Y)] 28 ∧ Bl w3 B [.int .u64 (limb (pX R) 0 : Nat), .int .u64 (limb (pX R) 1 : Nat), .int .u64 (limb (pX R) 2 : Nat), .int .u64 (limb (pX R) 3 : Nat), .int .u64 (limb (pY R) 0 : Nat), .int .u64 (limb (pY R) 1 : Nat), .int .u64 (limb (pY R) 2 : Nat), .int .u64 (limb (pY R) 3 : Nat), .bool (pI R), .int .u64 (limb z 0 : Nat), .int .u64 (limb z 1 : Nat), .int .u64 (limb z 2 : Nat), .int .u64 (limb z 3 : Nat)] 30) := ⟨below_call0 H2.out.1 hb3, H2.out.2.1.call hb3, H2.out.2.2.call hb3⟩
  clear hb3 K9 H2
  obtain ⟨C, hC⟩ : ∃ b, b = w3.heap.size := ⟨_, rfl⟩
  have HS : Hid ((storeVar 28 ⟨C, 0, none⟩ (.agg #[.int .u64 (limb (pX R) 0 : Nat), .int .u64 (limb (pX R) 1 : Nat), .int .u64 (limb (pX R) 2 : Nat), .int .u64 (limb (pX R) 3 : Nat), .int .u64 (limb (pY R) 0 : Nat), .int .u64 (limb (pY R) 1 : Nat), .int .u64 (limb (pY R) 2 : Nat), .int .u64 (limb (pY R) 3 : Nat), .bool (pI R)])).run Tryd.prog (w3.alloc (.cells #[.int .u64 0, .int .u64 0, .int .u64 0, .int .u64 0, .int .u64 0, .int .u64 0, .int .u64 0, .int .u64 0, .bool false] 28)) = .ok () ((w3.alloc (.cells #[.int .u64 0, .int .u64 0, .int .u64 0, .int .u64 0, .int .u64 0, .int .u64 0, .int .u64 0, .int .u64 0, .bool false] 28)).setRow C #[.int .u64 (limb (pX R) 0 : Nat), .int .u64 (limb (pX R) 1 : Nat), .int .u64 (limb (pX R) 2 : Nat), .int .u64 (limb (pX R) 3 : Nat), .int .u64 (limb (pY R) 0 : Nat), .int .u64 (limb (pY R) 1 : Nat), .int .u64 (limb (pY R) 2 : Nat), .int .u64 (limb (pY R) 3 : Nat), .bool (pI R)])) := by
    rw [hC]
    exact (Bl.new w3 [.int .u64 0, .int .u64 0, .int .u64 0, .int .u64 0, .int .u64 0, .int .u64 0, .int .u64 0, .int .u64 0, .bool false] 28).store (us := [.int .u64 (limb (pX R) 0 : Nat), .int .u64 (limb (pX R) 1 : Nat), .int .u64 (limb (pX R) 2 : Nat), .int .u64 (limb (pX R) 3 : Nat), .int .u64 (limb (pY R) 0 : Nat), .int .u64 (limb (pY R) 1 : Nat), .int .u64 (limb (pY R) 2 : Nat), .int .u64 (limb (pY R) 3 : Nat), .bool (pI R)]) (by kernel_rfl) rfl (by kernel_rfl)
  have HA : Hid (C = w3.heap.size) := hC
  clear hC
  go_upto_region 4 with (first | ((rw [← HA.out]); (with_reducible refine store_to (b := C) (k := 0) (x := 5) (y := 21) ?_ ?_ ?_ ?_ HS.out ?_); rfl; rfl; rfl; rfl) | ((with_reducible refine store_to (b := C) (k := 0) (x := 5) (y := 21) ?_ ?_ ?_ ?_ HS.out ?_); rfl; rfl; rfl; rfl))
  obtain ⟨W3, hW3⟩ : ∃ W, W = (w3.alloc (.cells #[.int .u64 0, .int .u64 0, .int .u64 0, .int .u64 0, .int .u64 0, .int .u64 0, .int .u64 0, .int .u64 0, .bool false] 28)).setRow C #[.int .u64 (limb (pX R) 0 : Nat), .int .u64 (limb (pX R) 1 : Nat), .int .u64 (limb (pX R) 2 : Nat), .int .u64 (limb (pX R) 3 : Nat), .int .u64 (limb (pY R) 0 : Nat), .int .u64 (limb (pY R) 1 : Nat), .int .u64 (limb (pY R) 2 : Nat), .int .u64 (limb (pY R) 3 : Nat), .bool (pI R)] := ⟨_, rfl⟩
  have BW3 : Hid (Below w3.heap.size w3 W3 ∧ Bl W3 C [.int .u64 (limb (pX R) 0 : Nat), .int .u64 (limb (pX R) 1 : Nat), .int .u64 (limb (pX R) 2 : Nat), .int .u64 (limb (pX R) 3 : Nat), .int .u64 (limb (pY R) 0 : Nat), .int .u64 (limb (pY R) 1 : Nat), .int .u64 (limb (pY R) 2 : Nat), .int .u64 (limb (pY R) 3 : Nat), .bool (pI R)] 28) := by
    rw [hW3, HA.out]
    exact ⟨below_setRow (Nat.le_refl _) _ (below_alloc0 (Below.refl _ _) _), (Bl.new w3 [.int .u64 0, .int .u64 0, .int .u64 0, .int .u64 0, .int .u64 0, .int .u64 0, .int .u64 0, .int .u64 0, .bool false] 28).put [.int .u64 (limb (pX R) 0 : Nat), .int .u64 (limb (pX R) 1 : Nat), .int .u64 (limb (pX R) 2 : Nat), .int .u64 (limb (pX R) 3 : Nat), .int .u64 (limb (pY R) 0 : Nat), .int .u64 (limb (pY R) 1 : Nat), .int .u64 (limb (pY R) 2 : Nat), .int .u64 (limb (pY R) 3 : Nat), .bool (pI R)]⟩
  rw [← hW3]
  clear hW3 HS
  have H3 : Hid (Below w.heap.size w W3 ∧ Bl W3 A [.int .u64 (limb (pX Y) 0 : Nat), .int .u64 (limb (pX Y) 1 : Nat), .int .u64 (limb (pX Y) 2 : Nat), .int .u64 (limb (pX Y) 3 : Nat), .int .u64 (limb (pY Y) 0 : Nat), .int .u64 (limb (pY Y) 1 : Nat), .int .u64 (limb (pY Y) 2 : Nat), .int .u64 (limb (pY Y) 3 : Nat), .bool (pI Y)] 28 ∧ Bl W3 B [.int .u64 (limb (pX R) 0 : Nat), .int .u64 (limb (pX R) 1 : Nat), .int .u64 (limb (pX R) 2 : Nat), .int .u64 (limb (pX R) 3 : Nat), .int .u64 (limb (pY R) 0 : Nat), .int .u64 (limb (pY R) 1 : Nat), .int .u64 (limb (pY R) 2 : Nat), .int .u64 (limb (pY R) 3 : Nat), .bool (pI R), .int .u64 (limb z 0 : Nat), .int .u64 (limb z 1 : Nat), .int .u64 (limb z 2 : Nat), .int .u64 (limb z 3 : Nat)] 30 ∧ Bl W3 C [.int .u64 (limb (pX R) 0 : Nat), .int .u64 (limb (pX R) 1 : Nat), .int .u64 (limb (pX R) 2 : Nat), .int .u64 (limb (pX R) 3 : Nat), .int .u64 (limb (pY R) 0 : Nat), .int .u64 (limb (pY R) 1 : Nat), .int .u64 (limb (pY R) 2 : Nat), .int .u64 (limb (pY R) 3 : Nat), .bool (pI R)] 28) := ⟨below_call0 I3.out.1 BW3.out.1, I3.out.2.1.call BW3.out.1, I3.out.2.2.call BW3.out.1, BW3.out.2⟩
  clear I3 BW3 HA
  have L1 : Hid ((loadVar 28 ⟨A, 0, none⟩).run Tryd.prog W3 = .ok (.agg #[.int .u64 (limb (pX Y) 0 : Nat), .int .u64 (limb (pX Y) 1 : Nat), .int .u64 (limb (pX Y) 2 : Nat), .int .u64 (limb (pX Y) 3 : Nat), .int .u64 (limb (pY Y) 0 : Nat), .int .u64 (limb (pY Y) 1 : Nat), .int .u64 (limb (pY Y) 2 : Nat), .int .u64 (limb (pY Y) 3 : Nat), .bool (pI Y)]) W3) := H3.out.2.1.load Tryd.underlying28 rfl (by kernel_rfl)
  have L2 : Hid ((loadVar 28 ⟨B, 0, none⟩).run Tryd.prog W3 = .ok (.agg #[.int .u64 (limb (pX R) 0 : Nat), .int .u64 (limb (pX R) 1 : Nat), .int .u64 (limb (pX R) 2 : Nat), .int .u64 (limb (pX R) 3 : Nat), .int .u64 (limb (pY R) 0 : Nat), .int .u64 (limb (pY R) 1 : Nat), .int .u64 (limb (pY R) 2 : Nat), .int .u64 (limb (pY R) 3 : Nat), .bool (pI R)]) W3) := H3.out.2.2.1.loadAt 0 [.int .u64 (limb (pX R) 0 : Nat), .int .u64 (limb (pX R) 1 : Nat), .int .u64 (limb (pX R) 2 : Nat), .int .u64 (limb (pX R) 3 : Nat), .int .u64 (limb (pY R) 0 : Nat), .int .u64 (limb (pY R) 1 : Nat), .int .u64 (limb (pY R) 2 : Nat), .int .u64 (limb (pY R) 3 : Nat), .bool (pI R)] ⟨rfl, rfl⟩ Tryd.underlying28 rfl (by kernel_rfl)
  have L3 : Hid ((loadVar 24 ⟨B, 9, none⟩).run Tryd.prog W3 = .ok (.agg #[.int .u64 (limb z 0 : Nat), .int .u64 (limb z 1 : Nat), .int .u64 (limb z 2 : Nat), .int .u64 (limb z 3 : Nat)]) W3) := H3.out.2.2.1.loadAt 9 [.int .u64 (limb z 0 : Nat), .int .u64 (limb z 1 : Nat), .int .u64 (limb z 2 : Nat), .int .u64 (limb z 3 : Nat)] ⟨rfl, rfl⟩ Tryd.underlying24 rfl (by kernel_rfl)
  have L4 : Hid ((loadVar 28 ⟨C, 0, none⟩).run Tryd.prog W3 = .ok (.agg #[.int .u64 (limb (pX R) 0 : Nat), .int .u64 (limb (pX R) 1 : Nat), .int .u64 (limb (pX R) 2 : Nat), .int .u64 (limb (pX R) 3 : Nat), .int .u64 (limb (pY R) 0 : Nat), .int .u64 (limb (pY R) 1 : Nat), .int .u64 (limb (pY R) 2 : Nat), .int .u64 (limb (pY R) 3 : Nat), .bool (pI R)]) W3) := H3.out.2.2.2.load Tryd.underlying28 rfl (by kernel_rfl)
  have hq1 := HQ.out.1
  have hq2 := HQ.out.2
  go_wp2_with (first | ((with_reducible refine load_to (b := A) (k := 0) (x := 1) ?_ ?_ ?_ L1.out ?_); rfl; rfl; rfl) | ((with_reducible refine load_to (b := B) (k := 0) (x := 34) ?_ ?_ ?_ L2.out ?_); rfl; rfl; rfl) | ((with_reducible refine load_to (b := B) (k := 9) (x := 40) ?_ ?_ ?_ L3.out ?_); rfl; rfl; rfl) | ((with_reducible refine load_to (b := C) (k := 0) (x := 5) ?_ ?_ ?_ L4.out ?_); rfl; rfl; rfl))
  refine (KV.out _ (H0.out.call H3.out.1)).mono ?_
  rintro e w4 ⟨rfl, hb4⟩
  have H4 : Hid (Below w.heap.size w w4) := below_call0 H3.out.1 hb4
  clear hb4 H3 KV hq1 hq2
  go_wp2_with fail
  go_ret
  exact ⟨rfl, H4.out⟩
end Go.Proofs.YtchphekaonnfeaaDoor
