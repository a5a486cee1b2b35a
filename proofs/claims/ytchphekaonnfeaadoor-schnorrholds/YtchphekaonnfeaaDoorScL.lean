/- The statement SchnorrHolds' walk, where a signature is told. -/
import Derived.Test.YtchphekaonnfeaaDoorScK
namespace Go.Proofs.YtchphekaonnfeaaDoor
open Go Go.RowKit Go.Lib
set_option maxRecDepth 100000 in
set_option maxHeartbeats 4000000 in
theorem holds_good (x k u : Nat) (m : ByteArray) (h0 : 0 < x) (hx : x < QQ) (h1 : 0 < k) (hk : k < QQ) (hm : m.size ≤ 4096) (hu : u < R256) (w : World) (hG : GS w) :
    Calls Tryd.prog 3 #[.agg #[.int .u64 (limb x 0 : Nat), .int .u64 (limb x 1 : Nat), .int .u64 (limb x 2 : Nat), .int .u64 (limb x 3 : Nat), .int .u64 (limb k 0 : Nat), .int .u64 (limb k 1 : Nat), .int .u64 (limb k 2 : Nat), .int .u64 (limb k 3 : Nat)], .agg #[.int .u64 (limb u 0 : Nat), .int .u64 (limb u 1 : Nat), .int .u64 (limb u 2 : Nat), .int .u64 (limb u 3 : Nat)], .string m] w fun e w' => e = .returned (.bool true) ∧ Below w.heap.size w w' := by
  obtain ⟨Y, hY⟩ : ∃ Y, Y = gr.mul x gG := ⟨_, rfl⟩
  obtain ⟨R, hR⟩ : ∃ R, R = gr.mul k gG := ⟨_, rfl⟩
  obtain ⟨c, hc⟩ : ∃ c, c = chN R Y m := ⟨_, rfl⟩
  obtain ⟨z, hz⟩ : ∃ z, z = (k + c * x % QQ) % QQ := ⟨_, rfl⟩
  obtain ⟨D1, hD1⟩ : ∃ D, D = decide (u < QQ) := ⟨_, rfl⟩
  obtain ⟨D2, hD2⟩ : ∃ D, D = decide (u = z) := ⟨_, rfl⟩
  obtain ⟨g, hg⟩ : ∃ g : Int, g = if D1 then (if D2 then 0 else 80) else 20 := ⟨_, rfl⟩
  have KP : Hid (∀ w, GS w → Calls Tryd.prog 6 #[.agg #[.int .u64 (limb x 0 : Nat), .int .u64 (limb x 1 : Nat), .int .u64 (limb x 2 : Nat), .int .u64 (limb x 3 : Nat)]] w fun e w' => e = .returned (.tuple #[.agg #[.int .u64 (limb (pX Y) 0 : Nat), .int .u64 (limb (pX Y) 1 : Nat), .int .u64 (limb (pX Y) 2 : Nat), .int .u64 (limb (pX Y) 3 : Nat), .int .u64 (limb (pY Y) 0 : Nat), .int .u64 (limb (pY Y) 1 : Nat), .int .u64 (limb (pY Y) 2 : Nat), .int .u64 (limb (pY Y) 3 : Nat), .bool (pI Y)], .int .i64 0]) ∧ Below w.heap.size w w') := fun w h => pub_ok x Y h0 hx hY w h.1
  have KS : Hid (∀ w, GS w → Calls Tryd.prog 5 #[.agg #[.int .u64 (limb x 0 : Nat), .int .u64 (limb x 1 : Nat), .int .u64 (limb x 2 : Nat), .int .u64 (limb x 3 : Nat)], .agg #[.int .u64 (limb k 0 : Nat), .int .u64 (limb k 1 : Nat), .int .u64 (limb k 2 : Nat), .int .u64 (limb k 3 : Nat)], .string m] w fun e w' => e = .returned (.tuple #[.agg #[.int .u64 (limb (pX R) 0 : Nat), .int .u64 (limb (pX R) 1 : Nat), .int .u64 (limb (pX R) 2 : Nat), .int .u64 (limb (pX R) 3 : Nat), .int .u64 (limb (pY R) 0 : Nat), .int .u64 (limb (pY R) 1 : Nat), .int .u64 (limb (pY R) 2 : Nat), .int .u64 (limb (pY R) 3 : Nat), .bool (pI R), .int .u64 (limb z 0 : Nat), .int .u64 (limb z 1 : Nat), .int .u64 (limb z 2 : Nat), .int .u64 (limb z 3 : Nat)], .int .i64 0]) ∧ Below w.heap.size w w') := fun w h => sign_ok x k m Y R c _ z h0 hx h1 hk hm hY hR hc rfl hz w h
  have hzq : z < QQ := by
    rw [hz]
    exact Nat.mod_lt _ QQ_pos
  have KV : Hid (∀ w, GS w → Calls Tryd.prog 8 #[.agg #[.int .u64 (limb (pX Y) 0 : Nat), .int .u64 (limb (pX Y) 1 : Nat), .int .u64 (limb (pX Y) 2 : Nat), .int .u64 (limb (pX Y) 3 : Nat), .int .u64 (limb (pY Y) 0 : Nat), .int .u64 (limb (pY Y) 1 : Nat), .int .u64 (limb (pY Y) 2 : Nat), .int .u64 (limb (pY Y) 3 : Nat), .bool (pI Y)], .string m, .agg #[.int .u64 (limb (pX R) 0 : Nat), .int .u64 (limb (pX R) 1 : Nat), .int .u64 (limb (pX R) 2 : Nat), .int .u64 (limb (pX R) 3 : Nat), .int .u64 (limb (pY R) 0 : Nat), .int .u64 (limb (pY R) 1 : Nat), .int .u64 (limb (pY R) 2 : Nat), .int .u64 (limb (pY R) 3 : Nat), .bool (pI R), .int .u64 (limb z 0 : Nat), .int .u64 (limb z 1 : Nat), .int .u64 (limb z 2 : Nat), .int .u64 (limb z 3 : Nat)]] w fun e w' => e = .returned (.int .i64 0) ∧ Below w.heap.size w w') := fun w h =>
    ver_ok x k m Y R z 0 h0 hx h1 hk hm hY hR (QQ_R hzq) (by rw [if_pos hzq, ← hc, ← hz, if_pos rfl]) w h
  have KU : Hid (∀ w, GS w → Calls Tryd.prog 8 #[.agg #[.int .u64 (limb (pX Y) 0 : Nat), .int .u64 (limb (pX Y) 1 : Nat), .int .u64 (limb (pX Y) 2 : Nat), .int .u64 (limb (pX Y) 3 : Nat), .int .u64 (limb (pY Y) 0 : Nat), .int .u64 (limb (pY Y) 1 : Nat), .int .u64 (limb (pY Y) 2 : Nat), .int .u64 (limb (pY Y) 3 : Nat), .bool (pI Y)], .string m, .agg #[.int .u64 (limb (pX R) 0 : Nat), .int .u64 (limb (pX R) 1 : Nat), .int .u64 (limb (pX R) 2 : Nat), .int .u64 (limb (pX R) 3 : Nat), .int .u64 (limb (pY R) 0 : Nat), .int .u64 (limb (pY R) 1 : Nat), .int .u64 (limb (pY R) 2 : Nat), .int .u64 (limb (pY R) 3 : Nat), .bool (pI R), .int .u64 (limb u 0 : Nat), .int .u64 (limb u 1 : Nat), .int .u64 (limb u 2 : Nat), .int .u64 (limb u 3 : Nat)]] w fun e w' => e = .returned (.int .i64 g) ∧ Below w.heap.size w w') := fun w h =>
    ver_ok x k m Y R u g h0 hx h1 hk hm hY hR hu (by rw [hg, hD1, hD2, ← hc, ← hz]; simp only [decide_eq_true_eq]) w h
  have KF : Hid _ := scalars2_any
  have KH : Hid (∀ w, Calls Tryd.prog 10 #[.agg #[.int .u64 (limb QQ 0 : Nat), .int .u64 (limb QQ 1 : Nat), .int .u64 (limb QQ 2 : Nat), .int .u64 (limb QQ 3 : Nat), .int .u64 (limb (R256 - QQ) 0 : Nat), .int .u64 (limb (R256 - QQ) 1 : Nat), .int .u64 (limb (R256 - QQ) 2 : Nat), .int .u64 (limb (R256 - QQ) 3 : Nat)], .agg #[.int .u64 (limb u 0 : Nat), .int .u64 (limb u 1 : Nat), .int .u64 (limb u 2 : Nat), .int .u64 (limb u 3 : Nat)]] w fun e w' => e = .returned (.bool D1) ∧ Below w.heap.size w w') := fun w => by
    rw [hD1]
    exact has2_any QQ u (of_decide_eq_true (by kernel_rfl)) hu w
  have KA : Hid _ := abc_ok
  have HQ : Hid (∀ w : World, (Op.equalIn 10000 24 (.agg #[.int .u64 (limb u 0 : Nat), .int .u64 (limb u 1 : Nat), .int .u64 (limb u 2 : Nat), .int .u64 (limb u 3 : Nat)]) (.agg #[.int .u64 (limb z 0 : Nat), .int .u64 (limb z 1 : Nat), .int .u64 (limb z 2 : Nat), .int .u64 (limb z 3 : Nat)])).run Tryd.prog w = .ok D2 w) := fun w => by
    rw [run_eqM, eq4_num u z hu (QQ_R hzq), hD2]
  have HD : Hid (g = if D1 then (if D2 then 0 else 80) else 20) := hg
  clear hx hk hm hu h0 h1 hzq hg hD1 hD2 hz hc hR hY
  obtain ⟨N, hN⟩ : ∃ N, N = w.heap.size := ⟨_, rfl⟩
  obtain ⟨W0, hW0⟩ : ∃ W, W = (w.alloc (.cells #[.int .u64 (limb x 0 : Nat), .int .u64 (limb x 1 : Nat), .int .u64 (limb x 2 : Nat), .int .u64 (limb x 3 : Nat), .int .u64 (limb k 0 : Nat), .int .u64 (limb k 1 : Nat), .int .u64 (limb k 2 : Nat), .int .u64 (limb k 3 : Nat)] 26)).alloc (.cells #[.int .u64 (limb u 0 : Nat), .int .u64 (limb u 1 : Nat), .int .u64 (limb u 2 : Nat), .int .u64 (limb u 3 : Nat)] 24) := ⟨_, rfl⟩
  have H0 : Hid (Below w.heap.size w W0 ∧ Bl W0 N [.int .u64 (limb x 0 : Nat), .int .u64 (limb x 1 : Nat), .int .u64 (limb x 2 : Nat), .int .u64 (limb x 3 : Nat), .int .u64 (limb k 0 : Nat), .int .u64 (limb k 1 : Nat), .int .u64 (limb k 2 : Nat), .int .u64 (limb k 3 : Nat)] 26 ∧ Bl W0 (N + 1) [.int .u64 (limb u 0 : Nat), .int .u64 (limb u 1 : Nat), .int .u64 (limb u 2 : Nat), .int .u64 (limb u 3 : Nat)] 24 ∧ GS W0) := by
    have hb : Below w.heap.size w W0 := by
      rw [hW0]
      exact below_alloc0 (below_alloc0 (Below.refl _ _) _) _
    have e0 := Bl.new (w) [.int .u64 (limb x 0 : Nat), .int .u64 (limb x 1 : Nat), .int .u64 (limb x 2 : Nat), .int .u64 (limb x 3 : Nat), .int .u64 (limb k 0 : Nat), .int .u64 (limb k 1 : Nat), .int .u64 (limb k 2 : Nat), .int .u64 (limb k 3 : Nat)] 26
    have a0 : Below (w).heap.size (w) ((w).alloc (.cells [.int .u64 (limb x 0 : Nat), .int .u64 (limb x 1 : Nat), .int .u64 (limb x 2 : Nat), .int .u64 (limb x 3 : Nat), .int .u64 (limb k 0 : Nat), .int .u64 (limb k 1 : Nat), .int .u64 (limb k 2 : Nat), .int .u64 (limb k 3 : Nat)].toArray 26)) := below_alloc0 (Below.refl _ _) _
    have e1 := Bl.new ((w).alloc (.cells [.int .u64 (limb x 0 : Nat), .int .u64 (limb x 1 : Nat), .int .u64 (limb x 2 : Nat), .int .u64 (limb x 3 : Nat), .int .u64 (limb k 0 : Nat), .int .u64 (limb k 1 : Nat), .int .u64 (limb k 2 : Nat), .int .u64 (limb k 3 : Nat)].toArray 26)) [.int .u64 (limb u 0 : Nat), .int .u64 (limb u 1 : Nat), .int .u64 (limb u 2 : Nat), .int .u64 (limb u 3 : Nat)] 24
    have a1 : Below ((w).alloc (.cells [.int .u64 (limb x 0 : Nat), .int .u64 (limb x 1 : Nat), .int .u64 (limb x 2 : Nat), .int .u64 (limb x 3 : Nat), .int .u64 (limb k 0 : Nat), .int .u64 (limb k 1 : Nat), .int .u64 (limb k 2 : Nat), .int .u64 (limb k 3 : Nat)].toArray 26)).heap.size ((w).alloc (.cells [.int .u64 (limb x 0 : Nat), .int .u64 (limb x 1 : Nat), .int .u64 (limb x 2 : Nat), .int .u64 (limb x 3 : Nat), .int .u64 (limb k 0 : Nat), .int .u64 (limb k 1 : Nat), .int .u64 (limb k 2 : Nat), .int .u64 (limb k 3 : Nat)].toArray 26)) (((w).alloc (.cells [.int .u64 (limb x 0 : Nat), .int .u64 (limb x 1 : Nat), .int .u64 (limb x 2 : Nat), .int .u64 (limb x 3 : Nat), .int .u64 (limb k 0 : Nat), .int .u64 (limb k 1 : Nat), .int .u64 (limb k 2 : Nat), .int .u64 (limb k 3 : Nat)].toArray 26)).alloc (.cells [.int .u64 (limb u 0 : Nat), .int .u64 (limb u 1 : Nat), .int .u64 (limb u 2 : Nat), .int .u64 (limb u 3 : Nat)].toArray 24)) := below_alloc0 (Below.refl _ _) _
    rw [World.size_alloc] at e1
    refine ⟨hb, ?_, ?_, hG.call hb⟩
    · rw [hW0, hN]
      exact (e0.call a1)
    · rw [hW0, hN]
      exact e1
  have HW : Hid (W0 = (w.alloc (.cells #[.int .u64 (limb x 0 : Nat), .int .u64 (limb x 1 : Nat), .int .u64 (limb x 2 : Nat), .int .u64 (limb x 3 : Nat), .int .u64 (limb k 0 : Nat), .int .u64 (limb k 1 : Nat), .int .u64 (limb k 2 : Nat), .int .u64 (limb k 3 : Nat)] 26)).alloc (.cells #[.int .u64 (limb u 0 : Nat), .int .u64 (limb u 1 : Nat), .int .u64 (limb u 2 : Nat), .int .u64 (limb u 3 : Nat)] 24) ∧ N = w.heap.size) := ⟨hW0, hN⟩
  clear hW0 hN hG 
  go_enter Tryd.func3, Tryd.ntmps3
  go_upto_region 1 with fail
  rw [← HW.out.1, ← HW.out.2]
  clear HW
  have L1 : Hid ((loadVar 24 ⟨N, 0, none⟩).run Tryd.prog W0 = .ok (.agg #[.int .u64 (limb x 0 : Nat), .int .u64 (limb x 1 : Nat), .int .u64 (limb x 2 : Nat), .int .u64 (limb x 3 : Nat)]) W0) := H0.out.2.1.loadAt 0 [.int .u64 (limb x 0 : Nat), .int .u64 (limb x 1 : Nat), .int .u64 (limb x 2 : Nat), .int .u64 (limb x 3 : Nat)] ⟨rfl, rfl⟩ Tryd.underlying24 rfl (by kernel_rfl)
  have L2 : Hid ((loadVar 24 ⟨N, 4, none⟩).run Tryd.prog W0 = .ok (.agg #[.int .u64 (limb k 0 : Nat), .int .u64 (limb k 1 : Nat), .int .u64 (limb k 2 : Nat), .int .u64 (limb k 3 : Nat)]) W0) := H0.out.2.1.loadAt 4 [.int .u64 (limb k 0 : Nat), .int .u64 (limb k 1 : Nat), .int .u64 (limb k 2 : Nat), .int .u64 (limb k 3 : Nat)] ⟨rfl, rfl⟩ Tryd.underlying24 rfl (by kernel_rfl)
  go_wp2_with (first | ((with_reducible refine load_to (b := N) (k := 0) (x := 14) ?_ ?_ ?_ L1.out ?_); rfl; rfl; rfl) | ((with_reducible refine load_to (b := N) (k := 4) (x := 16) ?_ ?_ ?_ L2.out ?_); rfl; rfl; rfl))
  refine (KS.out _ H0.out.2.2.2).mono ?_
  rintro e w1 ⟨rfl, hb1⟩
  have I1 : Hid (Below w.heap.size w w1 ∧ Bl w1 N [.int .u64 (limb x 0 : Nat), .int .u64 (limb x 1 : Nat), .int .u64 (limb x 2 : Nat), .int .u64 (limb x 3 : Nat), .int .u64 (limb k 0 : Nat), .int .u64 (limb k 1 : Nat), .int .u64 (limb k 2 : Nat), .int .u64 (limb k 3 : Nat)] 26 ∧ Bl w1 (N + 1) [.int .u64 (limb u 0 : Nat), .int .u64 (limb u 1 : Nat), .int .u64 (limb u 2 : Nat), .int .u64 (limb u 3 : Nat)] 24 ∧ GS w1) := ⟨below_call0 H0.out.1 hb1, H0.out.2.1.call hb1, H0.out.2.2.1.call hb1, H0.out.2.2.2.call hb1⟩
  clear hb1 KS L1 L2 H0
  obtain ⟨A, hA⟩ : ∃ b, b = w1.heap.size := ⟨_, rfl⟩
  have HS : Hid ((storeVar 30 ⟨A, 0, none⟩ (.agg #[.int .u64 (limb (pX R) 0 : Nat), .int .u64 (limb (pX R) 1 : Nat), .int .u64 (limb (pX R) 2 : Nat), .int .u64 (limb (pX R) 3 : Nat), .int .u64 (limb (pY R) 0 : Nat), .int .u64 (limb (pY R) 1 : Nat), .int .u64 (limb (pY R) 2 : Nat), .int .u64 (limb (pY R) 3 : Nat), .bool (pI R), .int .u64 (limb z 0 : Nat), .int .u64 (limb z 1 : Nat), .int .u64 (limb z 2 : Nat), .int .u64 (limb z 3 : Nat)])).run Tryd.prog (w1.alloc (.cells #[.int .u64 0, .int .u64 0, .int .u64 0, .int .u64 0, .int .u64 0, .int .u64 0, .int .u64 0, .int .u64 0, .bool false, .int .u64 0, .int .u64 0, .int .u64 0, .int .u64 0] 30)) = .ok () ((w1.alloc (.cells #[.int .u64 0, .int .u64 0, .int .u64 0, .int .u64 0, .int .u64 0, .int .u64 0, .int .u64 0, .int .u64 0, .bool false, .int .u64 0, .int .u64 0, .int .u64 0, .int .u64 0] 30)).setRow A #[.int .u64 (limb (pX R) 0 : Nat), .int .u64 (limb (pX R) 1 : Nat), .int .u64 (limb (pX R) 2 : Nat), .int .u64 (limb (pX R) 3 : Nat), .int .u64 (limb (pY R) 0 : Nat), .int .u64 (limb (pY R) 1 : Nat), .int .u64 (limb (pY R) 2 : Nat), .int .u64 (limb (pY R) 3 : Nat), .bool (pI R), .int .u64 (limb z 0 : Nat), .int .u64 (limb z 1 : Nat), .int .u64 (limb z 2 : Nat), .int .u64 (limb z 3 : Nat)])) := by
    rw [hA]
    exact (Bl.new w1 [.int .u64 0, .int .u64 0, .int .u64 0, .int .u64 0, .int .u64 0, .int .u64 0, .int .u64 0, .int .u64 0, .bool false, .int .u64 0, .int .u64 0, .int .u64 0, .int .u64 0] 30).store (us := [.int .u64 (limb (pX R) 0 : Nat), .int .u64 (limb (pX R) 1 : Nat), .int .u64 (limb (pX R) 2 : Nat), .int .u64 (limb (pX R) 3 : Nat), .int .u64 (limb (pY R) 0 : Nat), .int .u64 (limb (pY R) 1 : Nat), .int .u64 (limb (pY R) 2 : Nat), .int .u64 (limb (pY R) 3 : Nat), .bool (pI R), .int .u64 (limb z 0 : Nat), .int .u64 (limb z 1 : Nat), .int .u64 (limb z 2 : Nat), .int .u64 (limb z 3 : Nat)]) (by kernel_rfl) rfl (by kernel_rfl)
  have HA : Hid (A = w1.heap.size) := hA
  clear hA
  go_upto_region 2 with (first | ((rw [← HA.out]); (with_reducible refine store_to (b := A) (k := 0) (x := 7) (y := 20) ?_ ?_ ?_ ?_ HS.out ?_); rfl; rfl; rfl; rfl) | ((with_reducible refine store_to (b := A) (k := 0) (x := 7) (y := 20) ?_ ?_ ?_ ?_ HS.out ?_); rfl; rfl; rfl; rfl))
  obtain ⟨W1, hW1⟩ : ∃ W, W = (w1.alloc (.cells #[.int .u64 0, .int .u64 0, .int .u64 0, .int .u64 0, .int .u64 0, .int .u64 0, .int .u64 0, .int .u64 0, .bool false, .int .u64 0, .int .u64 0, .int .u64 0, .int .u64 0] 30)).setRow A #[.int .u64 (limb (pX R) 0 : Nat), .int .u64 (limb (pX R) 1 : Nat), .int .u64 (limb (pX R) 2 : Nat), .int .u64 (limb (pX R) 3 : Nat), .int .u64 (limb (pY R) 0 : Nat), .int .u64 (limb (pY R) 1 : Nat), .int .u64 (limb (pY R) 2 : Nat), .int .u64 (limb (pY R) 3 : Nat), .bool (pI R), .int .u64 (limb z 0 : Nat), .int .u64 (limb z 1 : Nat), .int .u64 (limb z 2 : Nat), .int .u64 (limb z 3 : Nat)] := ⟨_, rfl⟩
  have BW1 : Hid (Below w1.heap.size w1 W1 ∧ Bl W1 A [.int .u64 (limb (pX R) 0 : Nat), .int .u64 (limb (pX R) 1 : Nat), .int .u64 (limb (pX R) 2 : Nat), .int .u64 (limb (pX R) 3 : Nat), .int .u64 (limb (pY R) 0 : Nat), .int .u64 (limb (pY R) 1 : Nat), .int .u64 (limb (pY R) 2 : Nat), .int .u64 (limb (pY R) 3 : Nat), .bool (pI R), .int .u64 (limb z 0 : Nat), .int .u64 (limb z 1 : Nat), .int .u64 (limb z 2 : Nat), .int .u64 (limb z 3 : Nat)] 30) := by
    rw [hW1, HA.out]
    exact ⟨below_setRow (Nat.le_refl _) _ (below_alloc0 (Below.refl _ _) _), (Bl.new w1 [.int .u64 0, .int .u64 0, .int .u64 0, .int .u64 0, .int .u64 0, .int .u64 0, .int .u64 0, .int .u64 0, .bool false, .int .u64 0, .int .u64 0, .int .u64 0, .int .u64 0] 30).put [.int .u64 (limb (pX R) 0 : Nat), .int .u64 (limb (pX R) 1 : Nat), .int .u64 (limb (pX R) 2 : Nat), .int .u64 (limb (pX R) 3 : Nat), .int .u64 (limb (pY R) 0 : Nat), .int .u64 (limb (pY R) 1 : Nat), .int .u64 (limb (pY R) 2 : Nat), .int .u64 (limb (pY R) 3 : Nat), .bool (pI R), .int .u64 (limb z 0 : Nat), .int .u64 (limb z 1 : Nat), .int .u64 (limb z 2 : Nat), .int .u64 (limb z 3 : Nat)]⟩
  rw [← hW1]
  clear hW1 HS
  have H1 : Hid (Below w.heap.size w W1 ∧ Bl W1 N [.int .u64 (limb x 0 : Nat), .int .u64 (limb x 1 : Nat), .int .u64 (limb x 2 : Nat), .int .u64 (limb x 3 : Nat), .int .u64 (limb k 0 : Nat), .int .u64 (limb k 1 : Nat), .int .u64 (limb k 2 : Nat), .int .u64 (limb k 3 : Nat)] 26 ∧ Bl W1 (N + 1) [.int .u64 (limb u 0 : Nat), .int .u64 (limb u 1 : Nat), .int .u64 (limb u 2 : Nat), .int .u64 (limb u 3 : Nat)] 24 ∧ GS W1 ∧ Bl W1 A [.int .u64 (limb (pX R) 0 : Nat), .int .u64 (limb (pX R) 1 : Nat), .int .u64 (limb (pX R) 2 : Nat), .int .u64 (limb (pX R) 3 : Nat), .int .u64 (limb (pY R) 0 : Nat), .int .u64 (limb (pY R) 1 : Nat), .int .u64 (limb (pY R) 2 : Nat), .int .u64 (limb (pY R) 3 : Nat), .bool (pI R), .int .u64 (limb z 0 : Nat), .int .u64 (limb z 1 : Nat), .int .u64 (limb z 2 : Nat), .int .u64 (limb z 3 : Nat)] 30) := ⟨below_call0 I1.out.1 BW1.out.1, I1.out.2.1.call BW1.out.1, I1.out.2.2.1.call BW1.out.1, I1.out.2.2.2.call BW1.out.1, BW1.out.2⟩
  clear I1 BW1 HA
  have L1 : Hid ((loadVar 24 ⟨N, 0, none⟩).run Tryd.prog W1 = .ok (.agg #[.int .u64 (limb x 0 : Nat), .int .u64 (limb x 1 : Nat), .int .u64 (limb x 2 : Nat), .int .u64 (limb x 3 : Nat)]) W1) := H1.out.2.1.loadAt 0 [.int .u64 (limb x 0 : Nat), .int .u64 (limb x 1 : Nat), .int .u64 (limb x 2 : Nat), .int .u64 (limb x 3 : Nat)] ⟨rfl, rfl⟩ Tryd.underlying24 rfl (by kernel_rfl)
  go_wp2_with ((with_reducible refine load_to (b := N) (k := 0) (x := 23) ?_ ?_ ?_ L1.out ?_); rfl; rfl; rfl)
  refine (KP.out _ H1.out.2.2.2.1).mono ?_
  rintro e w2 ⟨rfl, hb2⟩
  have I2 : Hid (Below w.heap.size w w2 ∧ Bl w2 (N + 1) [.int .u64 (limb u 0 : Nat), .int .u64 (limb u 1 : Nat), .int .u64 (limb u 2 : Nat), .int .u64 (limb u 3 : Nat)] 24 ∧ GS w2 ∧ Bl w2 A [.int .u64 (limb (pX R) 0 : Nat), .int .u64 (limb (pX R) 1 : Nat), .int .u64 (limb (pX R) 2 : Nat), .int .u64 (limb (pX R) 3 : Nat), .int .u64 (limb (pY R) 0 : Nat), .int .u64 (limb (pY R) 1 : Nat), .int .u64 (limb (pY R) 2 : Nat), .int .u64 (limb (pY R) 3 : Nat), .bool (pI R), .int .u64 (limb z 0 : Nat), .int .u64 (limb z 1 : Nat), .int .u64 (limb z 2 : Nat), .int .u64 (limb z 3 : Nat)] 30) := ⟨below_call0 H1.out.1 hb2, H1.out.2.2.1.call hb2, H1.out.2.2.2.1.call hb2, H1.out.2.2.2.2.call hb2⟩
  clear hb2 KP L1 H1
  obtain ⟨B, hB⟩ : ∃ b, b = w2.heap.size := ⟨_, rfl⟩
  have HS : Hid ((storeVar 28 ⟨B, 0, none⟩ (.agg #[.int .u64 (limb (pX Y) 0 : Nat), .int .u64 (limb (pX Y) 1 : Nat), .int .u64 (limb (pX Y) 2 : Nat), .int .u64 (limb (pX Y) 3 : Nat), .int .u64 (limb (pY Y) 0 : Nat), .int .u64 (limb (pY Y) 1 : Nat), .int .u64 (limb (pY Y) 2 : Nat), .int .u64 (limb (pY Y) 3 : Nat), .bool (pI Y)])).run Tryd.prog (w2.alloc (.cells #[.int .u64 0, .int .u64 0, .int .u64 0, .int .u64 0, .int .u64 0, .int .u64 0, .int .u64 0, .int .u64 0, .bool false] 28)) = .ok () ((w2.alloc (.cells #[.int .u64 0, .int .u64 0, .int .u64 0, .int .u64 0, .int .u64 0, .int .u64 0, .int .u64 0, .int .u64 0, .bool false] 28)).setRow B #[.int .u64 (limb (pX Y) 0 : Nat), .int .u64 (limb (pX Y) 1 : Nat), .int .u64 (limb (pX Y) 2 : Nat), .int .u64 (limb (pX Y) 3 : Nat), .int .u64 (limb (pY Y) 0 : Nat), .int .u64 (limb (pY Y) 1 : Nat), .int .u64 (limb (pY Y) 2 : Nat), .int .u64 (limb (pY Y) 3 : Nat), .bool (pI Y)])) := by
    rw [hB]
    exact (Bl.new w2 [.int .u64 0, .int .u64 0, .int .u64 0, .int .u64 0, .int .u64 0, .int .u64 0, .int .u64 0, .int .u64 0, .bool false] 28).store (us := [.int .u64 (limb (pX Y) 0 : Nat), .int .u64 (limb (pX Y) 1 : Nat), .int .u64 (limb (pX Y) 2 : Nat), .int .u64 (limb (pX Y) 3 : Nat), .int .u64 (limb (pY Y) 0 : Nat), .int .u64 (limb (pY Y) 1 : Nat), .int .u64 (limb (pY Y) 2 : Nat), .int .u64 (limb (pY Y) 3 : Nat), .bool (pI Y)]) (by kernel_rfl) rfl (by kernel_rfl)
  have HA : Hid (B = w2.heap.size) := hB
  clear hB
  go_upto_region 3 with (first | ((rw [← HA.out]); (with_reducible refine store_to (b := B) (k := 0) (x := 9) (y := 26) ?_ ?_ ?_ ?_ HS.out ?_); rfl; rfl; rfl; rfl) | ((with_reducible refine store_to (b := B) (k := 0) (x := 9) (y := 26) ?_ ?_ ?_ ?_ HS.out ?_); rfl; rfl; rfl; rfl))
  obtain ⟨W2, hW2⟩ : ∃ W, W = (w2.alloc (.cells #[.int .u64 0, .int .u64 0, .int .u64 0, .int .u64 0, .int .u64 0, .int .u64 0, .int .u64 0, .int .u64 0, .bool false] 28)).setRow B #[.int .u64 (limb (pX Y) 0 : Nat), .int .u64 (limb (pX Y) 1 : Nat), .int .u64 (limb (pX Y) 2 : Nat), .int .u64 (limb (pX Y) 3 : Nat), .int .u64 (limb (pY Y) 0 : Nat), .int .u64 (limb (pY Y) 1 : Nat), .int .u64 (limb (pY Y) 2 : Nat), .int .u64 (limb (pY Y) 3 : Nat), .bool (pI Y)] := ⟨_, rfl⟩
  have BW2 : Hid (Below w2.heap.size w2 W2 ∧ Bl W2 B [.int .u64 (limb (pX Y) 0 : Nat), .int .u64 (limb (pX Y) 1 : Nat), .int .u64 (limb (pX Y) 2 : Nat), .int .u64 (limb (pX Y) 3 : Nat), .int .u64 (limb (pY Y) 0 : Nat), .int .u64 (limb (pY Y) 1 : Nat), .int .u64 (limb (pY Y) 2 : Nat), .int .u64 (limb (pY Y) 3 : Nat), .bool (pI Y)] 28) := by
    rw [hW2, HA.out]
    exact ⟨below_setRow (Nat.le_refl _) _ (below_alloc0 (Below.refl _ _) _), (Bl.new w2 [.int .u64 0, .int .u64 0, .int .u64 0, .int .u64 0, .int .u64 0, .int .u64 0, .int .u64 0, .int .u64 0, .bool false] 28).put [.int .u64 (limb (pX Y) 0 : Nat), .int .u64 (limb (pX Y) 1 : Nat), .int .u64 (limb (pX Y) 2 : Nat), .int .u64 (limb (pX Y) 3 : Nat), .int .u64 (limb (pY Y) 0 : Nat), .int .u64 (limb (pY Y) 1 : Nat), .int .u64 (limb (pY Y) 2 : Nat), .int .u64 (limb (pY Y) 3 : Nat), .bool (pI Y)]⟩
  rw [← hW2]
  clear hW2 HS
  have H2 : Hid (Below w.heap.size w W2 ∧ Bl W2 (N + 1) [.int .u64 (limb u 0 : Nat), .int .u64 (limb u 1 : Nat), .int .u64 (limb u 2 : Nat), .int .u64 (limb u 3 : Nat)] 24 ∧ GS W2 ∧ Bl W2 A [.int .u64 (limb (pX R) 0 : Nat), .int .u64 (limb (pX R) 1 : Nat), .int .u64 (limb (pX R) 2 : Nat), .int .u64 (limb (pX R) 3 : Nat), .int .u64 (limb (pY R) 0 : Nat), .int .u64 (limb (pY R) 1 : Nat), .int .u64 (limb (pY R) 2 : Nat), .int .u64 (limb (pY R) 3 : Nat), .bool (pI R), .int .u64 (limb z 0 : Nat), .int .u64 (limb z 1 : Nat), .int .u64 (limb z 2 : Nat), .int .u64 (limb z 3 : Nat)] 30 ∧ Bl W2 B [.int .u64 (limb (pX Y) 0 : Nat), .int .u64 (limb (pX Y) 1 : Nat), .int .u64 (limb (pX Y) 2 : Nat), .int .u64 (limb (pX Y) 3 : Nat), .int .u64 (limb (pY Y) 0 : Nat), .int .u64 (limb (pY Y) 1 : Nat), .int .u64 (limb (pY Y) 2 : Nat), .int .u64 (limb (pY Y) 3 : Nat), .bool (pI Y)] 28) := ⟨below_call0 I2.out.1 BW2.out.1, I2.out.2.1.call BW2.out.1, I2.out.2.2.1.call BW2.out.1, I2.out.2.2.2.call BW2.out.1, BW2.out.2⟩
  clear I2 BW2 HA
  go_upto_region 5 with fail
  have L1 : Hid ((loadVar 28 ⟨B, 0, none⟩).run Tryd.prog W2 = .ok (.agg #[.int .u64 (limb (pX Y) 0 : Nat), .int .u64 (limb (pX Y) 1 : Nat), .int .u64 (limb (pX Y) 2 : Nat), .int .u64 (limb (pX Y) 3 : Nat), .int .u64 (limb (pY Y) 0 : Nat), .int .u64 (limb (pY Y) 1 : Nat), .int .u64 (limb (pY Y) 2 : Nat), .int .u64 (limb (pY Y) 3 : Nat), .bool (pI Y)]) W2) := H2.out.2.2.2.2.load Tryd.underlying28 rfl (by kernel_rfl)
  have L2 : Hid ((loadVar 30 ⟨A, 0, none⟩).run Tryd.prog W2 = .ok (.agg #[.int .u64 (limb (pX R) 0 : Nat), .int .u64 (limb (pX R) 1 : Nat), .int .u64 (limb (pX R) 2 : Nat), .int .u64 (limb (pX R) 3 : Nat), .int .u64 (limb (pY R) 0 : Nat), .int .u64 (limb (pY R) 1 : Nat), .int .u64 (limb (pY R) 2 : Nat), .int .u64 (limb (pY R) 3 : Nat), .bool (pI R), .int .u64 (limb z 0 : Nat), .int .u64 (limb z 1 : Nat), .int .u64 (limb z 2 : Nat), .int .u64 (limb z 3 : Nat)]) W2) := H2.out.2.2.2.1.load Tryd.underlying30 rfl (by kernel_rfl)
  go_wp2_with (first | ((with_reducible refine load_to (b := B) (k := 0) (x := 9) ?_ ?_ ?_ L1.out ?_); rfl; rfl; rfl) | ((with_reducible refine load_to (b := A) (k := 0) (x := 7) ?_ ?_ ?_ L2.out ?_); rfl; rfl; rfl))
  refine (KV.out _ H2.out.2.2.1).mono ?_
  rintro e w3 ⟨rfl, hb3⟩
  have H3 : Hid (Below w.heap.size w w3 ∧ Bl w3 (N + 1) [.int .u64 (limb u 0 : Nat), .int .u64 (limb u 1 : Nat), .int .u64 (limb u 2 : Nat), .int .u64 (limb u 3 : Nat)] 24 ∧ GS w3 ∧ Bl w3 A [.int .u64 (limb (pX R) 0 : Nat), .int .u64 (limb (pX R) 1 : Nat), .int .u64 (limb (pX R) 2 : Nat), .int .u64 (limb (pX R) 3 : Nat), .int .u64 (limb (pY R) 0 : Nat), .int .u64 (limb (pY R) 1 : Nat), .int .u64 (limb (pY R) 2 : Nat), .int .u64 (limb (pY R) 3 : Nat), .bool (pI R), .int .u64 (limb z 0 : Nat), .int .u64 (limb z 1 : Nat), .int .u64 (limb z 2 : Nat), .int .u64 (limb z 3 : Nat)] 30 ∧ Bl w3 B [.int .u64 (limb (pX Y) 0 : Nat), .int .u64 (limb (pX Y) 1 : Nat), .int .u64 (limb (pX Y) 2 : Nat), .int .u64 (limb (pX Y) 3 : Nat), .int .u64 (limb (pY Y) 0 : Nat), .int .u64 (limb (pY Y) 1 : Nat), .int .u64 (limb (pY Y) 2 : Nat), .int .u64 (limb (pY Y) 3 : Nat), .bool (pI Y)] 28) := ⟨below_call0 H2.out.1 hb3, H2.out.2.1.call hb3, H2.out.2.2.1.call hb3, H2.out.2.2.2.1.call hb3, H2.out.2.2.2.2.call hb3⟩
  clear hb3 KV L1 L2 H2
  go_upto_region 7 with fail
  have L1 : Hid ((loadVar 30 ⟨A, 0, none⟩).run Tryd.prog w3 = .ok (.agg #[.int .u64 (limb (pX R) 0 : Nat), .int .u64 (limb (pX R) 1 : Nat), .int .u64 (limb (pX R) 2 : Nat), .int .u64 (limb (pX R) 3 : Nat), .int .u64 (limb (pY R) 0 : Nat), .int .u64 (limb (pY R) 1 : Nat), .int .u64 (limb (pY R) 2 : Nat), .int .u64 (limb (pY R) 3 : Nat), .bool (pI R), .int .u64 (limb z 0 : Nat), .int .u64 (limb z 1 : Nat), .int .u64 (limb z 2 : Nat), .int .u64 (limb z 3 : Nat)]) w3) := H3.out.2.2.2.1.load Tryd.underlying30 rfl (by kernel_rfl)
  obtain ⟨D, hD⟩ : ∃ b, b = w3.heap.size := ⟨_, rfl⟩
  have HS : Hid ((storeVar 30 ⟨D, 0, none⟩ (.agg #[.int .u64 (limb (pX R) 0 : Nat), .int .u64 (limb (pX R) 1 : Nat), .int .u64 (limb (pX R) 2 : Nat), .int .u64 (limb (pX R) 3 : Nat), .int .u64 (limb (pY R) 0 : Nat), .int .u64 (limb (pY R) 1 : Nat), .int .u64 (limb (pY R) 2 : Nat), .int .u64 (limb (pY R) 3 : Nat), .bool (pI R), .int .u64 (limb z 0 : Nat), .int .u64 (limb z 1 : Nat), .int .u64 (limb z 2 : Nat), .int .u64 (limb z 3 : Nat)])).run Tryd.prog (w3.alloc (.cells #[.int .u64 0, .int .u64 0, .int .u64 0, .int .u64 0, .int .u64 0, .int .u64 0, .int .u64 0, .int .u64 0, .bool false, .int .u64 0, .int .u64 0, .int .u64 0, .int .u64 0] 30)) = .ok () ((w3.alloc (.cells #[.int .u64 0, .int .u64 0, .int .u64 0, .int .u64 0, .int .u64 0, .int .u64 0, .int .u64 0, .int .u64 0, .bool false, .int .u64 0, .int .u64 0, .int .u64 0, .int .u64 0] 30)).setRow D #[.int .u64 (limb (pX R) 0 : Nat), .int .u64 (limb (pX R) 1 : Nat), .int .u64 (limb (pX R) 2 : Nat), .int .u64 (limb (pX R) 3 : Nat), .int .u64 (limb (pY R) 0 : Nat), .int .u64 (limb (pY R) 1 : Nat), .int .u64 (limb (pY R) 2 : Nat), .int .u64 (limb (pY R) 3 : Nat), .bool (pI R), .int .u64 (limb z 0 : Nat), .int .u64 (limb z 1 : Nat), .int .u64 (limb z 2 : Nat), .int .u64 (limb z 3 : Nat)])) := by
    rw [hD]
    exact (Bl.new w3 [.int .u64 0, .int .u64 0, .int .u64 0, .int .u64 0, .int .u64 0, .int .u64 0, .int .u64 0, .int .u64 0, .bool false, .int .u64 0, .int .u64 0, .int .u64 0, .int .u64 0] 30).store (us := [.int .u64 (limb (pX R) 0 : Nat), .int .u64 (limb (pX R) 1 : Nat), .int .u64 (limb (pX R) 2 : Nat), .int .u64 (limb (pX R) 3 : Nat), .int .u64 (limb (pY R) 0 : Nat), .int .u64 (limb (pY R) 1 : Nat), .int .u64 (limb (pY R) 2 : Nat), .int .u64 (limb (pY R) 3 : Nat), .bool (pI R), .int .u64 (limb z 0 : Nat), .int .u64 (limb z 1 : Nat), .int .u64 (limb z 2 : Nat), .int .u64 (limb z 3 : Nat)]) (by kernel_rfl) rfl (by kernel_rfl)
  have HA : Hid (D = w3.heap.size) := hD
  clear hD
  go_upto_region 8 with (first | ((with_reducible refine load_to (b := A) (k := 0) (x := 7) ?_ ?_ ?_ L1.out ?_); rfl; rfl; rfl) | ((rw [← HA.out]); (with_reducible refine store_to (b := D) (k := 0) (x := 11) (y := 45) ?_ ?_ ?_ ?_ HS.out ?_); rfl; rfl; rfl; rfl) | ((with_reducible refine store_to (b := D) (k := 0) (x := 11) (y := 45) ?_ ?_ ?_ ?_ HS.out ?_); rfl; rfl; rfl; rfl))
  obtain ⟨W3, hW3⟩ : ∃ W, W = (w3.alloc (.cells #[.int .u64 0, .int .u64 0, .int .u64 0, .int .u64 0, .int .u64 0, .int .u64 0, .int .u64 0, .int .u64 0, .bool false, .int .u64 0, .int .u64 0, .int .u64 0, .int .u64 0] 30)).setRow D #[.int .u64 (limb (pX R) 0 : Nat), .int .u64 (limb (pX R) 1 : Nat), .int .u64 (limb (pX R) 2 : Nat), .int .u64 (limb (pX R) 3 : Nat), .int .u64 (limb (pY R) 0 : Nat), .int .u64 (limb (pY R) 1 : Nat), .int .u64 (limb (pY R) 2 : Nat), .int .u64 (limb (pY R) 3 : Nat), .bool (pI R), .int .u64 (limb z 0 : Nat), .int .u64 (limb z 1 : Nat), .int .u64 (limb z 2 : Nat), .int .u64 (limb z 3 : Nat)] := ⟨_, rfl⟩
  have BW3 : Hid (Below w3.heap.size w3 W3 ∧ Bl W3 D [.int .u64 (limb (pX R) 0 : Nat), .int .u64 (limb (pX R) 1 : Nat), .int .u64 (limb (pX R) 2 : Nat), .int .u64 (limb (pX R) 3 : Nat), .int .u64 (limb (pY R) 0 : Nat), .int .u64 (limb (pY R) 1 : Nat), .int .u64 (limb (pY R) 2 : Nat), .int .u64 (limb (pY R) 3 : Nat), .bool (pI R), .int .u64 (limb z 0 : Nat), .int .u64 (limb z 1 : Nat), .int .u64 (limb z 2 : Nat), .int .u64 (limb z 3 : Nat)] 30) := by
    rw [hW3, HA.out]
    exact ⟨below_setRow (Nat.le_refl _) _ (below_alloc0 (Below.refl _ _) _), (Bl.new w3 [.int .u64 0, .int .u64 0, .int .u64 0, .int .u64 0, .int .u64 0, .int .u64 0, .int .u64 0, .int .u64 0, .bool false, .int .u64 0, .int .u64 0, .int .u64 0, .int .u64 0] 30).put [.int .u64 (limb (pX R) 0 : Nat), .int .u64 (limb (pX R) 1 : Nat), .int .u64 (limb (pX R) 2 : Nat), .int .u64 (limb (pX R) 3 : Nat), .int .u64 (limb (pY R) 0 : Nat), .int .u64 (limb (pY R) 1 : Nat), .int .u64 (limb (pY R) 2 : Nat), .int .u64 (limb (pY R) 3 : Nat), .bool (pI R), .int .u64 (limb z 0 : Nat), .int .u64 (limb z 1 : Nat), .int .u64 (limb z 2 : Nat), .int .u64 (limb z 3 : Nat)]⟩
  rw [← hW3]
  clear hW3 HS
  have H4 : Hid (Below w.heap.size w W3 ∧ Bl W3 (N + 1) [.int .u64 (limb u 0 : Nat), .int .u64 (limb u 1 : Nat), .int .u64 (limb u 2 : Nat), .int .u64 (limb u 3 : Nat)] 24 ∧ GS W3 ∧ Bl W3 A [.int .u64 (limb (pX R) 0 : Nat), .int .u64 (limb (pX R) 1 : Nat), .int .u64 (limb (pX R) 2 : Nat), .int .u64 (limb (pX R) 3 : Nat), .int .u64 (limb (pY R) 0 : Nat), .int .u64 (limb (pY R) 1 : Nat), .int .u64 (limb (pY R) 2 : Nat), .int .u64 (limb (pY R) 3 : Nat), .bool (pI R), .int .u64 (limb z 0 : Nat), .int .u64 (limb z 1 : Nat), .int .u64 (limb z 2 : Nat), .int .u64 (limb z 3 : Nat)] 30 ∧ Bl W3 B [.int .u64 (limb (pX Y) 0 : Nat), .int .u64 (limb (pX Y) 1 : Nat), .int .u64 (limb (pX Y) 2 : Nat), .int .u64 (limb (pX Y) 3 : Nat), .int .u64 (limb (pY Y) 0 : Nat), .int .u64 (limb (pY Y) 1 : Nat), .int .u64 (limb (pY Y) 2 : Nat), .int .u64 (limb (pY Y) 3 : Nat), .bool (pI Y)] 28 ∧ Bl W3 D [.int .u64 (limb (pX R) 0 : Nat), .int .u64 (limb (pX R) 1 : Nat), .int .u64 (limb (pX R) 2 : Nat), .int .u64 (limb (pX R) 3 : Nat), .int .u64 (limb (pY R) 0 : Nat), .int .u64 (limb (pY R) 1 : Nat), .int .u64 (limb (pY R) 2 : Nat), .int .u64 (limb (pY R) 3 : Nat), .bool (pI R), .int .u64 (limb z 0 : Nat), .int .u64 (limb z 1 : Nat), .int .u64 (limb z 2 : Nat), .int .u64 (limb z 3 : Nat)] 30 ∧ D = w3.heap.size ∧ Below w.heap.size w w3 ∧ Bl w3 (N + 1) [.int .u64 (limb u 0 : Nat), .int .u64 (limb u 1 : Nat), .int .u64 (limb u 2 : Nat), .int .u64 (limb u 3 : Nat)] 24 ∧ GS w3 ∧ Bl w3 A [.int .u64 (limb (pX R) 0 : Nat), .int .u64 (limb (pX R) 1 : Nat), .int .u64 (limb (pX R) 2 : Nat), .int .u64 (limb (pX R) 3 : Nat), .int .u64 (limb (pY R) 0 : Nat), .int .u64 (limb (pY R) 1 : Nat), .int .u64 (limb (pY R) 2 : Nat), .int .u64 (limb (pY R) 3 : Nat), .bool (pI R), .int .u64 (limb z 0 : Nat), .int .u64 (limb z 1 : Nat), .int .u64 (limb z 2 : Nat), .int .u64 (limb z 3 : Nat)] 30 ∧ Bl w3 B [.int .u64 (limb (pX Y) 0 : Nat), .int .u64 (limb (pX Y) 1 : Nat), .int .u64 (limb (pX Y) 2 : Nat), .int .u64 (limb (pX Y) 3 : Nat), .int .u64 (limb (pY Y) 0 : Nat), .int .u64 (limb (pY Y) 1 : Nat), .int .u64 (limb (pY Y) 2 : Nat), .int .u64 (limb (pY Y) 3 : Nat), .bool (pI Y)] 28 ∧ Below w3.heap.size w3 W3) := ⟨below_call0 H3.out.1 BW3.out.1, H3.out.2.1.call BW3.out.1, H3.out.2.2.1.call BW3.out.1, H3.out.2.2.2.1.call BW3.out.1, H3.out.2.2.2.2.call BW3.out.1, BW3.out.2, HA.out, H3.out.1, H3.out.2.1, H3.out.2.2.1, H3.out.2.2.2.1, H3.out.2.2.2.2, BW3.out.1⟩
  clear L1 H3 BW3 HA
  have L1 : Hid ((loadVar 24 ⟨N + 1, 0, none⟩).run Tryd.prog W3 = .ok (.agg #[.int .u64 (limb u 0 : Nat), .int .u64 (limb u 1 : Nat), .int .u64 (limb u 2 : Nat), .int .u64 (limb u 3 : Nat)]) W3) := H4.out.2.1.load Tryd.underlying24 rfl (by kernel_rfl)
  have HS : Hid ((storeVar 24 ⟨D, 9, none⟩ (.agg #[.int .u64 (limb u 0 : Nat), .int .u64 (limb u 1 : Nat), .int .u64 (limb u 2 : Nat), .int .u64 (limb u 3 : Nat)])).run Tryd.prog W3 = .ok () (W3.setCells D 9 [.int .u64 (limb u 0 : Nat), .int .u64 (limb u 1 : Nat), .int .u64 (limb u 2 : Nat), .int .u64 (limb u 3 : Nat)])) := H4.out.2.2.2.2.2.1.storeAt 9 [.int .u64 (limb u 0 : Nat), .int .u64 (limb u 1 : Nat), .int .u64 (limb u 2 : Nat), .int .u64 (limb u 3 : Nat)] (Nat.le_refl 13) (by kernel_rfl) (by kernel_rfl)
  go_upto_region 9 with (first | ((with_reducible refine load_to (b := N + 1) (k := 0) (x := 4) ?_ ?_ ?_ L1.out ?_); rfl; rfl; rfl) | ((with_reducible refine store_to (b := D) (k := 9) (x := 47) (y := 46) ?_ ?_ ?_ ?_ HS.out ?_); rfl; rfl; rfl; rfl))
  obtain ⟨W4, hW4⟩ : ∃ W, W = W3.setCells D 9 [.int .u64 (limb u 0 : Nat), .int .u64 (limb u 1 : Nat), .int .u64 (limb u 2 : Nat), .int .u64 (limb u 3 : Nat)] := ⟨_, rfl⟩
  have H5 : Hid (Below w.heap.size w W4 ∧ Bl W4 (N + 1) [.int .u64 (limb u 0 : Nat), .int .u64 (limb u 1 : Nat), .int .u64 (limb u 2 : Nat), .int .u64 (limb u 3 : Nat)] 24 ∧ GS W4 ∧ Bl W4 A [.int .u64 (limb (pX R) 0 : Nat), .int .u64 (limb (pX R) 1 : Nat), .int .u64 (limb (pX R) 2 : Nat), .int .u64 (limb (pX R) 3 : Nat), .int .u64 (limb (pY R) 0 : Nat), .int .u64 (limb (pY R) 1 : Nat), .int .u64 (limb (pY R) 2 : Nat), .int .u64 (limb (pY R) 3 : Nat), .bool (pI R), .int .u64 (limb z 0 : Nat), .int .u64 (limb z 1 : Nat), .int .u64 (limb z 2 : Nat), .int .u64 (limb z 3 : Nat)] 30 ∧ Bl W4 B [.int .u64 (limb (pX Y) 0 : Nat), .int .u64 (limb (pX Y) 1 : Nat), .int .u64 (limb (pX Y) 2 : Nat), .int .u64 (limb (pX Y) 3 : Nat), .int .u64 (limb (pY Y) 0 : Nat), .int .u64 (limb (pY Y) 1 : Nat), .int .u64 (limb (pY Y) 2 : Nat), .int .u64 (limb (pY Y) 3 : Nat), .bool (pI Y)] 28 ∧ Bl W4 D [.int .u64 (limb (pX R) 0 : Nat), .int .u64 (limb (pX R) 1 : Nat), .int .u64 (limb (pX R) 2 : Nat), .int .u64 (limb (pX R) 3 : Nat), .int .u64 (limb (pY R) 0 : Nat), .int .u64 (limb (pY R) 1 : Nat), .int .u64 (limb (pY R) 2 : Nat), .int .u64 (limb (pY R) 3 : Nat), .bool (pI R), .int .u64 (limb u 0 : Nat), .int .u64 (limb u 1 : Nat), .int .u64 (limb u 2 : Nat), .int .u64 (limb u 3 : Nat)] 30) := by
    have hb : Below w3.heap.size w3 W4 := by
      rw [hW4]
      exact below_cellsK (Nat.le_of_eq H4.out.2.2.2.2.2.2.1.symm) _ _ _ H4.out.2.2.2.2.2.2.2.2.2.2.2.2
    refine ⟨below_call0 H4.out.2.2.2.2.2.2.2.1 hb, H4.out.2.2.2.2.2.2.2.2.1.call hb, H4.out.2.2.2.2.2.2.2.2.2.1.call hb, H4.out.2.2.2.2.2.2.2.2.2.2.1.call hb, H4.out.2.2.2.2.2.2.2.2.2.2.2.1.call hb, ?_⟩
    rw [hW4]
    exact Bl.setCells [.int .u64 (limb u 0 : Nat), .int .u64 (limb u 1 : Nat), .int .u64 (limb u 2 : Nat), .int .u64 (limb u 3 : Nat)] 9 _ _ H4.out.2.2.2.2.2.1
  rw [← hW4]
  clear hW4 HS L1 H4
  have L1 : Hid ((loadVar 28 ⟨B, 0, none⟩).run Tryd.prog W4 = .ok (.agg #[.int .u64 (limb (pX Y) 0 : Nat), .int .u64 (limb (pX Y) 1 : Nat), .int .u64 (limb (pX Y) 2 : Nat), .int .u64 (limb (pX Y) 3 : Nat), .int .u64 (limb (pY Y) 0 : Nat), .int .u64 (limb (pY Y) 1 : Nat), .int .u64 (limb (pY Y) 2 : Nat), .int .u64 (limb (pY Y) 3 : Nat), .bool (pI Y)]) W4) := H5.out.2.2.2.2.1.load Tryd.underlying28 rfl (by kernel_rfl)
  have L2 : Hid ((loadVar 30 ⟨D, 0, none⟩).run Tryd.prog W4 = .ok (.agg #[.int .u64 (limb (pX R) 0 : Nat), .int .u64 (limb (pX R) 1 : Nat), .int .u64 (limb (pX R) 2 : Nat), .int .u64 (limb (pX R) 3 : Nat), .int .u64 (limb (pY R) 0 : Nat), .int .u64 (limb (pY R) 1 : Nat), .int .u64 (limb (pY R) 2 : Nat), .int .u64 (limb (pY R) 3 : Nat), .bool (pI R), .int .u64 (limb u 0 : Nat), .int .u64 (limb u 1 : Nat), .int .u64 (limb u 2 : Nat), .int .u64 (limb u 3 : Nat)]) W4) := H5.out.2.2.2.2.2.load Tryd.underlying30 rfl (by kernel_rfl)
  go_wp2_with (first | ((with_reducible refine load_to (b := B) (k := 0) (x := 9) ?_ ?_ ?_ L1.out ?_); rfl; rfl; rfl) | ((with_reducible refine load_to (b := D) (k := 0) (x := 11) ?_ ?_ ?_ L2.out ?_); rfl; rfl; rfl))
  refine (KU.out _ H5.out.2.2.1).mono ?_
  rintro e w5 ⟨rfl, hb5⟩
  have H6 : Hid (Below w.heap.size w w5 ∧ Bl w5 (N + 1) [.int .u64 (limb u 0 : Nat), .int .u64 (limb u 1 : Nat), .int .u64 (limb u 2 : Nat), .int .u64 (limb u 3 : Nat)] 24 ∧ GS w5 ∧ Bl w5 A [.int .u64 (limb (pX R) 0 : Nat), .int .u64 (limb (pX R) 1 : Nat), .int .u64 (limb (pX R) 2 : Nat), .int .u64 (limb (pX R) 3 : Nat), .int .u64 (limb (pY R) 0 : Nat), .int .u64 (limb (pY R) 1 : Nat), .int .u64 (limb (pY R) 2 : Nat), .int .u64 (limb (pY R) 3 : Nat), .bool (pI R), .int .u64 (limb z 0 : Nat), .int .u64 (limb z 1 : Nat), .int .u64 (limb z 2 : Nat), .int .u64 (limb z 3 : Nat)] 30) := ⟨below_call0 H5.out.1 hb5, H5.out.2.1.call hb5, H5.out.2.2.1.call hb5, H5.out.2.2.2.1.call hb5⟩
  clear hb5 KU L1 L2 H5
  go_upto_region 10 with fail
  refine wp_region_H (fun w' => Below w5.heap.size w5 w') 4 rfl (by kernel_rfl) ?_
  refine wpAnyH_take (i := 1) (oi := ?o1h) (v := ?v1h) ?hi1h (by kernel_rfl) (by kernel_rfl) (by kernel_rfl) ?hQ1h ?hy1h (Below.drew (Below.refl _ _)) ?more1h
  case hi1h => rw [List.getElem?_toArray]; exact rfl
  case hQ1h => exact fun _ _ _ h => h
  case hy1h =>
    refine Or.inl ⟨by rfl, ?_⟩
    intro w' hSw
    have q0 := (H6.out.2.1.call hSw).cells 0 _ rfl
    have q1 := (H6.out.2.1.call hSw).cells 1 _ rfl
    have q2 := (H6.out.2.1.call hSw).cells 2 _ rfl
    have q3 := (H6.out.2.1.call hSw).cells 3 _ rfl
    clear hSw
    go_simp
    try with_reducible rfl
  simp only [Act.put, List.setIfInBounds_toArray, List.set_cons_zero, List.set_cons_succ]
  refine wpAnyH_one (i := 0) (o := ?o0h) (by kernel_rfl) ?hi0h ?hw0h ?st0h
  case hi0h => rw [List.getElem?_toArray]; exact rfl
  case hw0h => exact rfl
  intro K hK
  have HK0h : Hid _ := hK
  clear hK
  go_simp
  refine (KF.out _).mono ?_
  rintro e w6 ⟨rfl, hb6⟩
  have I6 : Hid (Below w5.heap.size w5 w6) := below_call0 (Below.drew (Below.refl _ _)) hb6
  clear hb6 KF
  go_wp2_with fail
  refine HK0h.out _ _ ⟨I6.out, ?_⟩
  clear HK0h K
  try simp only [Act.put, List.setIfInBounds_toArray, List.set_cons_zero, List.set_cons_succ]
  refine wpAnyH_one (i := 2) (o := ?o2h) (by kernel_rfl) ?hi2h ?hw2h ?st2h
  case hi2h => rw [List.getElem?_toArray]; exact rfl
  case hw2h => exact rfl
  intro K hK
  have HK2h : Hid _ := hK
  clear hK
  go_simp
  refine (KH.out _).mono ?_
  rintro e w7 ⟨rfl, hb7⟩
  have I7 : Hid (Below w5.heap.size w5 w7) := below_call0 I6.out hb7
  clear hb7 KH
  go_wp2_with fail
  refine HK2h.out _ _ ⟨I7.out, ?_⟩
  clear HK2h K
  try simp only [Act.put, List.setIfInBounds_toArray, List.set_cons_zero, List.set_cons_succ]
  refine wpAnyH_take (i := 3) (oi := ?o3h) (v := ?v3h) ?hi3h (by kernel_rfl) (by kernel_rfl) (by kernel_rfl) ?hQ3h ?hy3h I7.out ?more3h
  case hi3h => rw [List.getElem?_toArray]; exact rfl
  case hQ3h => exact fun _ _ _ h => h
  case hy3h =>
    refine Or.inl ⟨by rfl, ?_⟩
    intro w' hSw
    clear hSw
    go_simp
    try with_reducible rfl
  simp only [Act.put, List.setIfInBounds_toArray, List.set_cons_zero, List.set_cons_succ]
  refine wpAnyH_done (by kernel_rfl) ?_ _
  have H7 : Hid (Below w.heap.size w w7 ∧ Bl w7 (N + 1) [.int .u64 (limb u 0 : Nat), .int .u64 (limb u 1 : Nat), .int .u64 (limb u 2 : Nat), .int .u64 (limb u 3 : Nat)] 24 ∧ GS w7 ∧ Bl w7 A [.int .u64 (limb (pX R) 0 : Nat), .int .u64 (limb (pX R) 1 : Nat), .int .u64 (limb (pX R) 2 : Nat), .int .u64 (limb (pX R) 3 : Nat), .int .u64 (limb (pY R) 0 : Nat), .int .u64 (limb (pY R) 1 : Nat), .int .u64 (limb (pY R) 2 : Nat), .int .u64 (limb (pY R) 3 : Nat), .bool (pI R), .int .u64 (limb z 0 : Nat), .int .u64 (limb z 1 : Nat), .int .u64 (limb z 2 : Nat), .int .u64 (limb z 3 : Nat)] 30) := ⟨below_call0 H6.out.1 I7.out, H6.out.2.1.call I7.out, H6.out.2.2.1.call I7.out, H6.out.2.2.2.call I7.out⟩
  clear I7 I6 H6
  cases D1
  · obtain rfl : g = 20 := HD.out
    clear HD
    go_wp2_with fail
    refine (KA.out _ H7.out.2.2.1).mono ?_
    rintro e w8 ⟨rfl, hb8⟩
    have H8 : Hid (Below w.heap.size w w8) := below_call0 H7.out.1 hb8
    clear hb8 H7 KA
    go_wp2_with fail
    go_ret
    exact ⟨rfl, H8.out⟩
  · go_upto_region 12 with fail
    have L1 : Hid ((loadVar 24 ⟨N + 1, 0, none⟩).run Tryd.prog w7 = .ok (.agg #[.int .u64 (limb u 0 : Nat), .int .u64 (limb u 1 : Nat), .int .u64 (limb u 2 : Nat), .int .u64 (limb u 3 : Nat)]) w7) := H7.out.2.1.load Tryd.underlying24 rfl (by kernel_rfl)
    have L2 : Hid ((loadVar 24 ⟨A, 9, none⟩).run Tryd.prog w7 = .ok (.agg #[.int .u64 (limb z 0 : Nat), .int .u64 (limb z 1 : Nat), .int .u64 (limb z 2 : Nat), .int .u64 (limb z 3 : Nat)]) w7) := H7.out.2.2.2.loadAt 9 [.int .u64 (limb z 0 : Nat), .int .u64 (limb z 1 : Nat), .int .u64 (limb z 2 : Nat), .int .u64 (limb z 3 : Nat)] ⟨rfl, rfl⟩ Tryd.underlying24 rfl (by kernel_rfl)
    have hq := HQ.out
    cases D2
    · obtain rfl : g = 80 := HD.out
      clear HD
      go_wp2_with (first | ((with_reducible refine load_to (b := N + 1) (k := 0) (x := 4) ?_ ?_ ?_ L1.out ?_); rfl; rfl; rfl) | ((with_reducible refine load_to (b := A) (k := 9) (x := 64) ?_ ?_ ?_ L2.out ?_); rfl; rfl; rfl))
      refine (KA.out _ H7.out.2.2.1).mono ?_
      rintro e w8 ⟨rfl, hb8⟩
      have H8 : Hid (Below w.heap.size w w8) := below_call0 H7.out.1 hb8
      clear hb8 H7 KA hq L1 L2
      go_wp2_with fail
      go_ret
      exact ⟨rfl, H8.out⟩
    · obtain rfl : g = 0 := HD.out
      clear HD
      go_wp2_with (first | ((with_reducible refine load_to (b := N + 1) (k := 0) (x := 4) ?_ ?_ ?_ L1.out ?_); rfl; rfl; rfl) | ((with_reducible refine load_to (b := A) (k := 9) (x := 64) ?_ ?_ ?_ L2.out ?_); rfl; rfl; rfl))
      refine (KA.out _ H7.out.2.2.1).mono ?_
      rintro e w8 ⟨rfl, hb8⟩
      have H8 : Hid (Below w.heap.size w w8) := below_call0 H7.out.1 hb8
      clear hb8 H7 KA hq L1 L2
      go_wp2_with fail
      go_ret
      exact ⟨rfl, H8.out⟩
theorem fErr_all : ∀ {l : List Int}, fErr l = 0 → ∀ e ∈ l, e = 0
  | [], _, e, h => absurd h (by simp)
  | a :: r, h, e, he => by
    unfold fErr at h
    by_cases c : a = 0
    · rw [if_pos c] at h
      rcases List.mem_cons.1 he with rfl | h'
      · exact c
      · exact fErr_all h e h'
    · rw [if_neg c] at h
      exact absurd h c
theorem scE_lt {x : Nat} (h : scE x = 0) : x < QQ := by
  by_cases d : x < QQ
  · exact d
  · have e : scE x = 20 := if_neg d
    rw [e] at h
    exact absurd h (by decide)
theorem nzE_pos {x : Nat} (h : nzE x = 0) : 0 < x := by
  by_cases d : x = 0
  · have e : nzE x = 21 := if_pos d
    rw [e] at h
    exact absurd h (by decide)
  · omega
theorem shE_le {m : ByteArray} (h : shE m = 0) : m.size ≤ 4096 := by
  by_cases d : m.size ≤ 4096
  · exact d
  · have e : shE m = 2 := if_neg d
    rw [e] at h
    exact absurd h (by decide)
theorem holds_any (x k u : Nat) (m : ByteArray) (hx : x < R256) (hk : k < R256) (hu : u < R256) (w : World) (hG : GS w) :
    Calls Tryd.prog 3 #[.agg #[.int .u64 (limb x 0 : Nat), .int .u64 (limb x 1 : Nat), .int .u64 (limb x 2 : Nat), .int .u64 (limb x 3 : Nat), .int .u64 (limb k 0 : Nat), .int .u64 (limb k 1 : Nat), .int .u64 (limb k 2 : Nat), .int .u64 (limb k 3 : Nat)], .agg #[.int .u64 (limb u 0 : Nat), .int .u64 (limb u 1 : Nat), .int .u64 (limb u 2 : Nat), .int .u64 (limb u 3 : Nat)], .string m] w fun e w' => e = .returned (.bool true) ∧ Below w.heap.size w w' := by
  by_cases c : fErr [scE x, scE k, nzE x, nzE k, shE m] = 0
  · have a := fErr_all c
    exact holds_good x k u m (nzE_pos (a (nzE x) (by simp))) (scE_lt (a (scE x) (by simp))) (nzE_pos (a (nzE k) (by simp))) (scE_lt (a (scE k) (by simp))) (shE_le (a (shE m) (by simp))) hu w hG
  · exact holds_err x k u m _ hx hk rfl c w hG
end Go.Proofs.YtchphekaonnfeaaDoor
