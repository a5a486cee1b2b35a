/- Package schnorr: Public and Sign that tell an error. -/
import Derived.Test.YtchphekaonnfeaaDoorMgO
namespace Go.Proofs.YtchphekaonnfeaaDoor
open Go Go.RowKit Go.Lib
set_option maxRecDepth 100000 in
set_option maxHeartbeats 4000000 in
theorem pub_bad (x : Nat) (E : Int) (hx : x < R256) (hE : E = fErr [scE x, nzE x]) (hne : E ≠ 0) (w : World) (hG : GA w) :
    Calls Tryd.prog 6 #[.agg #[.int .u64 (limb x 0 : Nat), .int .u64 (limb x 1 : Nat), .int .u64 (limb x 2 : Nat), .int .u64 (limb x 3 : Nat)]] w fun e w' => e = .returned (.tuple #[.agg #[.int .u64 0, .int .u64 0, .int .u64 0, .int .u64 0, .int .u64 0, .int .u64 0, .int .u64 0, .int .u64 0, .bool false], .int .i64 E]) ∧ Below w.heap.size w w' := by
  have KF : Hid (∀ (b : Nat) (w : World), GA w → b < w.heap.size → w.cell? ⟨b, 0, none⟩ = some (.func (.func 17) #[.agg #[.int .u64 (limb x 0 : Nat), .int .u64 (limb x 1 : Nat), .int .u64 (limb x 2 : Nat), .int .u64 (limb x 3 : Nat)]] #[]) → w.cell? ⟨b, 1, none⟩ = some (.func (.func 18) #[.agg #[.int .u64 (limb x 0 : Nat), .int .u64 (limb x 1 : Nat), .int .u64 (limb x 2 : Nat), .int .u64 (limb x 3 : Nat)]] #[]) →
      Calls Tryd.prog 16 #[.slice (some ⟨b, 0, none⟩) 2 2] w fun e w' => e = .returned (.int .i64 E) ∧ Below w.heap.size w w') := fun b w hG hb h1 h2 => by
    refine first_any 2 b (fun j => if j = 0 then 17 else 18) (fun _ => #[.agg #[.int .u64 (limb x 0 : Nat), .int .u64 (limb x 1 : Nat), .int .u64 (limb x 2 : Nat), .int .u64 (limb x 3 : Nat)]]) (fun j => if j = 0 then scE x else nzE x) E GA (fun w w' h hb => h.call hb) (fun j hj _ w hG => ?_) (fun j hj => ?_) (by decide) hE w hG ⟨hb, fun j hj => ?_⟩
    · match j, hj with
      | 0, _ => exact q_scalar x _ hx rfl w hG.2.1
      | 1, _ => exact q_zero x _ hx rfl w
    · match j, hj with
      | 0, _ => exact enters_of Tryd.func17 (by kernel_rfl) rfl
      | 1, _ => exact enters_of Tryd.func18 (by kernel_rfl) rfl
    · match j, hj with
      | 0, _ => exact h1
      | 1, _ => exact h2
  have e1 : (E != 0) = true := by simpa using hne
  have e2 : (E == 0) = false := by simpa using hne
  have e3 : decide (E = 0) = false := decide_eq_false hne
  obtain ⟨N, hN⟩ : ∃ N, N = w.heap.size := ⟨_, rfl⟩
  obtain ⟨W1, hW1⟩ : ∃ W1, W1 = (w.alloc (.cells #[.int .u64 (limb x 0 : Nat), .int .u64 (limb x 1 : Nat), .int .u64 (limb x 2 : Nat), .int .u64 (limb x 3 : Nat)] 24)).alloc (.cells #[.int .u64 0, .int .u64 0, .int .u64 0, .int .u64 0, .int .u64 0, .int .u64 0, .int .u64 0, .int .u64 0, .bool false] 28) := ⟨_, rfl⟩
  have H1 : Hid (Below w.heap.size w W1 ∧ Bl W1 N (numV x) 24 ∧ Bl W1 (N + 1) [.int .u64 0, .int .u64 0, .int .u64 0, .int .u64 0, .int .u64 0, .int .u64 0, .int .u64 0, .int .u64 0, .bool false] 28 ∧ GA W1 ∧ N = w.heap.size) := by
    have e1 := Bl.new w (numV x) 24
    have e2 := Bl.new (w.alloc (.cells (numV x).toArray 24)) [.int .u64 0, .int .u64 0, .int .u64 0, .int .u64 0, .int .u64 0, .int .u64 0, .int .u64 0, .int .u64 0, .bool false] 28
    have a2 : Below (w.alloc (.cells (numV x).toArray 24)).heap.size (w.alloc (.cells (numV x).toArray 24)) ((w.alloc (.cells (numV x).toArray 24)).alloc (.cells [.int .u64 0, .int .u64 0, .int .u64 0, .int .u64 0, .int .u64 0, .int .u64 0, .int .u64 0, .int .u64 0, .bool false].toArray 28)) := below_alloc0 (Below.refl _ _) _
    have hb : Below w.heap.size w W1 := by
      rw [hW1]
      exact below_alloc0 (below_alloc0 (Below.refl _ _) _) _
    rw [World.size_alloc] at e2
    refine ⟨hb, ?_, ?_, hG.call hb, hN⟩
    · rw [hW1, hN]
      exact e1.call a2
    · rw [hW1, hN]
      exact e2
  have HW : Hid (W1 = (w.alloc (.cells #[.int .u64 (limb x 0 : Nat), .int .u64 (limb x 1 : Nat), .int .u64 (limb x 2 : Nat), .int .u64 (limb x 3 : Nat)] 24)).alloc (.cells #[.int .u64 0, .int .u64 0, .int .u64 0, .int .u64 0, .int .u64 0, .int .u64 0, .int .u64 0, .int .u64 0, .bool false] 28) ∧ N = w.heap.size) := ⟨hW1, hN⟩
  clear hW1 hG hx hE hN hne
  have hmf : ∀ (fn : Fn) (first cap : Array Value) (w : World), (Instr.makeFunc fn first cap).run Tryd.prog w = .ok (.func fn first cap) w := fun _ _ _ _ => rfl
  go_enter Tryd.func6, Tryd.ntmps6
  go_upto_region 1 with fail
  rw [← HW.out.1, ← HW.out.2]
  clear HW
  have L1 : Hid ((loadVar 24 ⟨N, 0, none⟩).run Tryd.prog W1 = .ok (.agg #[.int .u64 (limb x 0 : Nat), .int .u64 (limb x 1 : Nat), .int .u64 (limb x 2 : Nat), .int .u64 (limb x 3 : Nat)]) W1) := H1.out.2.1.load Tryd.underlying24 rfl (by kernel_rfl)
  go_wp2_with ((with_reducible refine load_to (b := N) (k := 0) (x := 1) ?_ ?_ ?_ L1.out ?_); rfl; rfl; rfl)
  clear L1
  have HA : Hid (∀ b, Below W1.heap.size W1 (W1.alloc b)) := fun b => below_alloc0 (Below.refl _ _) b
  refine (KF.out _ _ (H1.out.2.2.2.1.call (HA.out _)) (by simp) (by simp [go_sem]) (by simp [go_sem])).mono ?_
  rintro e w2 ⟨rfl, hb2⟩
  have H2 : Hid (Below w.heap.size w w2 ∧ Bl w2 N (numV x) 24 ∧ Bl w2 (N + 1) [.int .u64 0, .int .u64 0, .int .u64 0, .int .u64 0, .int .u64 0, .int .u64 0, .int .u64 0, .int .u64 0, .bool false] 28 ∧ GA w2 ∧ N = w.heap.size) := by
    have hb := below_call0 (HA.out _) hb2
    exact ⟨below_call0 H1.out.1 hb, H1.out.2.1.call hb, H1.out.2.2.1.call hb, H1.out.2.2.2.1.call hb, H1.out.2.2.2.2⟩
  clear hb2 H1 HA KF hmf
  go_upto_region 3 with fail
  have HS : Hid ((storeVar 28 ⟨N + 1, 0, none⟩ (.agg #[.int .u64 0, .int .u64 0, .int .u64 0, .int .u64 0, .int .u64 0, .int .u64 0, .int .u64 0, .int .u64 0, .bool false])).run Tryd.prog w2 = .ok () (w2.setRow (N + 1) #[.int .u64 0, .int .u64 0, .int .u64 0, .int .u64 0, .int .u64 0, .int .u64 0, .int .u64 0, .int .u64 0, .bool false])) := H2.out.2.2.1.store (us := [.int .u64 0, .int .u64 0, .int .u64 0, .int .u64 0, .int .u64 0, .int .u64 0, .int .u64 0, .int .u64 0, .bool false]) (by kernel_rfl) rfl (by kernel_rfl)
  go_wp2_with ((with_reducible refine store_to (b := N + 1) (k := 0) (x := 2) (y := 13) ?_ ?_ ?_ ?_ HS.out ?_); rfl; rfl; rfl; rfl)
  have hld : (loadVar 28 ⟨N + 1, 0, none⟩).run Tryd.prog (w2.setRow (N + 1) #[.int .u64 0, .int .u64 0, .int .u64 0, .int .u64 0, .int .u64 0, .int .u64 0, .int .u64 0, .int .u64 0, .bool false]) = .ok (.agg #[.int .u64 0, .int .u64 0, .int .u64 0, .int .u64 0, .int .u64 0, .int .u64 0, .int .u64 0, .int .u64 0, .bool false]) (w2.setRow (N + 1) #[.int .u64 0, .int .u64 0, .int .u64 0, .int .u64 0, .int .u64 0, .int .u64 0, .int .u64 0, .int .u64 0, .bool false]) := (H2.out.2.2.1.put [.int .u64 0, .int .u64 0, .int .u64 0, .int .u64 0, .int .u64 0, .int .u64 0, .int .u64 0, .int .u64 0, .bool false]).load Tryd.underlying28 rfl (by kernel_rfl)
  refine bodyPost_ret (v := .tuple #[.agg #[.int .u64 0, .int .u64 0, .int .u64 0, .int .u64 0, .int .u64 0, .int .u64 0, .int .u64 0, .int .u64 0, .bool false], .int .i64 E]) ?_ rfl ⟨rfl, below_setRow (by have := H2.out.2.2.2.2; omega) _ H2.out.1⟩
  simp [results, Tryd.results6, asAddr, hld]
set_option maxRecDepth 100000 in
set_option maxHeartbeats 4000000 in
theorem sign_bad (x k : Nat) (m : ByteArray) (E : Int) (hx : x < R256) (hk : k < R256) (hE : E = fErr [scE x, scE k, nzE x, nzE k, shE m]) (hne : E ≠ 0) (w : World) (hG : GS w) :
    Calls Tryd.prog 5 #[.agg #[.int .u64 (limb x 0 : Nat), .int .u64 (limb x 1 : Nat), .int .u64 (limb x 2 : Nat), .int .u64 (limb x 3 : Nat)], .agg #[.int .u64 (limb k 0 : Nat), .int .u64 (limb k 1 : Nat), .int .u64 (limb k 2 : Nat), .int .u64 (limb k 3 : Nat)], .string m] w fun e w' => e = .returned (.tuple #[.agg #[.int .u64 0, .int .u64 0, .int .u64 0, .int .u64 0, .int .u64 0, .int .u64 0, .int .u64 0, .int .u64 0, .bool false, .int .u64 0, .int .u64 0, .int .u64 0, .int .u64 0], .int .i64 E]) ∧ Below w.heap.size w w' := by
  have KF : Hid (∀ (b : Nat) (w : World), GS w → b < w.heap.size → w.cell? ⟨b, 0, none⟩ = some (.func (.func 17) #[.agg #[.int .u64 (limb x 0 : Nat), .int .u64 (limb x 1 : Nat), .int .u64 (limb x 2 : Nat), .int .u64 (limb x 3 : Nat)]] #[]) → w.cell? ⟨b, 1, none⟩ = some (.func (.func 17) #[.agg #[.int .u64 (limb k 0 : Nat), .int .u64 (limb k 1 : Nat), .int .u64 (limb k 2 : Nat), .int .u64 (limb k 3 : Nat)]] #[]) → w.cell? ⟨b, 2, none⟩ = some (.func (.func 18) #[.agg #[.int .u64 (limb x 0 : Nat), .int .u64 (limb x 1 : Nat), .int .u64 (limb x 2 : Nat), .int .u64 (limb x 3 : Nat)]] #[]) → w.cell? ⟨b, 3, none⟩ = some (.func (.func 18) #[.agg #[.int .u64 (limb k 0 : Nat), .int .u64 (limb k 1 : Nat), .int .u64 (limb k 2 : Nat), .int .u64 (limb k 3 : Nat)]] #[]) → w.cell? ⟨b, 4, none⟩ = some (.func (.func 19) #[.string m] #[]) →
      Calls Tryd.prog 16 #[.slice (some ⟨b, 0, none⟩) 5 5] w fun e w' => e = .returned (.int .i64 E) ∧ Below w.heap.size w w') := fun b w hG hb c0 c1 c2 c3 c4 => by
    refine first_any 5 b (fun j => if j < 2 then 17 else if j < 4 then 18 else 19) (fun j => if j = 4 then #[.string m] else if j % 2 = 0 then #[.agg #[.int .u64 (limb x 0 : Nat), .int .u64 (limb x 1 : Nat), .int .u64 (limb x 2 : Nat), .int .u64 (limb x 3 : Nat)]] else #[.agg #[.int .u64 (limb k 0 : Nat), .int .u64 (limb k 1 : Nat), .int .u64 (limb k 2 : Nat), .int .u64 (limb k 3 : Nat)]]) (fun j => if j = 0 then scE x else if j = 1 then scE k else if j = 2 then nzE x else if j = 3 then nzE k else shE m) E GS (fun w w' h hb => h.call hb) (fun j hj _ w hG => ?_) (fun j hj => ?_) (by decide) hE w hG ⟨hb, fun j hj => ?_⟩
    · match j, hj with
      | 0, _ => exact q_scalar x _ hx rfl w hG.1.2.1
      | 1, _ => exact q_scalar k _ hk rfl w hG.1.2.1
      | 2, _ => exact q_zero x _ hx rfl w
      | 3, _ => exact q_zero k _ hk rfl w
      | 4, _ =>
        refine (q_short m _ rfl w).mono ?_
        rintro e w' ⟨he, rfl⟩
        exact ⟨he, Below.refl _ _⟩
    · match j, hj with
      | 0, _ => exact enters_of Tryd.func17 (by kernel_rfl) rfl
      | 1, _ => exact enters_of Tryd.func17 (by kernel_rfl) rfl
      | 2, _ => exact enters_of Tryd.func18 (by kernel_rfl) rfl
      | 3, _ => exact enters_of Tryd.func18 (by kernel_rfl) rfl
      | 4, _ => exact enters_of Tryd.func19 (by kernel_rfl) rfl
    · match j, hj with
      | 0, _ => exact c0
      | 1, _ => exact c1
      | 2, _ => exact c2
      | 3, _ => exact c3
      | 4, _ => exact c4
  have e1 : (E != 0) = true := by simpa using hne
  have e2 : (E == 0) = false := by simpa using hne
  have e3 : decide (E = 0) = false := decide_eq_false hne
  obtain ⟨N, hN⟩ : ∃ N, N = w.heap.size := ⟨_, rfl⟩
  obtain ⟨W1, hW1⟩ : ∃ W1, W1 = ((w.alloc (.cells #[.int .u64 (limb x 0 : Nat), .int .u64 (limb x 1 : Nat), .int .u64 (limb x 2 : Nat), .int .u64 (limb x 3 : Nat)] 24)).alloc (.cells #[.int .u64 (limb k 0 : Nat), .int .u64 (limb k 1 : Nat), .int .u64 (limb k 2 : Nat), .int .u64 (limb k 3 : Nat)] 24)).alloc (.cells #[.int .u64 0, .int .u64 0, .int .u64 0, .int .u64 0, .int .u64 0, .int .u64 0, .int .u64 0, .int .u64 0, .bool false, .int .u64 0, .int .u64 0, .int .u64 0, .int .u64 0] 30) := ⟨_, rfl⟩
  have H1 : Hid (Below w.heap.size w W1 ∧ Bl W1 N (numV x) 24 ∧ Bl W1 (N + 1) (numV k) 24 ∧ Bl W1 (N + 1 + 1) [.int .u64 0, .int .u64 0, .int .u64 0, .int .u64 0, .int .u64 0, .int .u64 0, .int .u64 0, .int .u64 0, .bool false, .int .u64 0, .int .u64 0, .int .u64 0, .int .u64 0] 30 ∧ GS W1 ∧ N = w.heap.size) := by
    have e1 := Bl.new w (numV x) 24
    have e2 := Bl.new (w.alloc (.cells (numV x).toArray 24)) (numV k) 24
    have e3 := Bl.new ((w.alloc (.cells (numV x).toArray 24)).alloc (.cells (numV k).toArray 24)) [.int .u64 0, .int .u64 0, .int .u64 0, .int .u64 0, .int .u64 0, .int .u64 0, .int .u64 0, .int .u64 0, .bool false, .int .u64 0, .int .u64 0, .int .u64 0, .int .u64 0] 30
    have a2 : Below (w.alloc (.cells (numV x).toArray 24)).heap.size (w.alloc (.cells (numV x).toArray 24)) ((w.alloc (.cells (numV x).toArray 24)).alloc (.cells (numV k).toArray 24)) := below_alloc0 (Below.refl _ _) _
    have a3 : Below ((w.alloc (.cells (numV x).toArray 24)).alloc (.cells (numV k).toArray 24)).heap.size ((w.alloc (.cells (numV x).toArray 24)).alloc (.cells (numV k).toArray 24)) (((w.alloc (.cells (numV x).toArray 24)).alloc (.cells (numV k).toArray 24)).alloc (.cells [.int .u64 0, .int .u64 0, .int .u64 0, .int .u64 0, .int .u64 0, .int .u64 0, .int .u64 0, .int .u64 0, .bool false, .int .u64 0, .int .u64 0, .int .u64 0, .int .u64 0].toArray 30)) := below_alloc0 (Below.refl _ _) _
    have hb : Below w.heap.size w W1 := by
      rw [hW1]
      exact below_alloc0 (below_alloc0 (below_alloc0 (Below.refl _ _) _) _) _
    rw [World.size_alloc] at e2
    rw [World.size_alloc, World.size_alloc] at e3
    refine ⟨hb, ?_, ?_, ?_, hG.call hb, hN⟩
    · rw [hW1, hN]
      exact (e1.call a2).call a3
    · rw [hW1, hN]
      exact e2.call a3
    · rw [hW1, hN]
      exact e3
  have HW : Hid (W1 = ((w.alloc (.cells #[.int .u64 (limb x 0 : Nat), .int .u64 (limb x 1 : Nat), .int .u64 (limb x 2 : Nat), .int .u64 (limb x 3 : Nat)] 24)).alloc (.cells #[.int .u64 (limb k 0 : Nat), .int .u64 (limb k 1 : Nat), .int .u64 (limb k 2 : Nat), .int .u64 (limb k 3 : Nat)] 24)).alloc (.cells #[.int .u64 0, .int .u64 0, .int .u64 0, .int .u64 0, .int .u64 0, .int .u64 0, .int .u64 0, .int .u64 0, .bool false, .int .u64 0, .int .u64 0, .int .u64 0, .int .u64 0] 30) ∧ N = w.heap.size) := ⟨hW1, hN⟩
  clear hW1 hG hx hk hE hN hne
  have hmf : ∀ (fn : Fn) (first cap : Array Value) (w : World), (Instr.makeFunc fn first cap).run Tryd.prog w = .ok (.func fn first cap) w := fun _ _ _ _ => rfl
  go_enter Tryd.func5, Tryd.ntmps5
  go_upto_region 1 with fail
  rw [← HW.out.1, ← HW.out.2]
  clear HW
  have L1 : Hid ((loadVar 24 ⟨N, 0, none⟩).run Tryd.prog W1 = .ok (.agg #[.int .u64 (limb x 0 : Nat), .int .u64 (limb x 1 : Nat), .int .u64 (limb x 2 : Nat), .int .u64 (limb x 3 : Nat)]) W1) := H1.out.2.1.load Tryd.underlying24 rfl (by kernel_rfl)
  have L2 : Hid ((loadVar 24 ⟨N + 1, 0, none⟩).run Tryd.prog W1 = .ok (.agg #[.int .u64 (limb k 0 : Nat), .int .u64 (limb k 1 : Nat), .int .u64 (limb k 2 : Nat), .int .u64 (limb k 3 : Nat)]) W1) := H1.out.2.2.1.load Tryd.underlying24 rfl (by kernel_rfl)
  go_wp2_with (first | ((with_reducible refine load_to (b := N) (k := 0) (x := 3) ?_ ?_ ?_ L1.out ?_); rfl; rfl; rfl) | ((with_reducible refine load_to (b := N + 1) (k := 0) (x := 4) ?_ ?_ ?_ L2.out ?_); rfl; rfl; rfl))
  clear L1 L2
  have HA : Hid (∀ b, Below W1.heap.size W1 (W1.alloc b)) := fun b => below_alloc0 (Below.refl _ _) b
  refine (KF.out _ _ (H1.out.2.2.2.2.1.call (HA.out _)) (by simp) (by simp [go_sem]) (by simp [go_sem]) (by simp [go_sem]) (by simp [go_sem]) (by simp [go_sem])).mono ?_
  rintro e w2 ⟨rfl, hb2⟩
  have H2 : Hid (Below w.heap.size w w2 ∧ Bl w2 N (numV x) 24 ∧ Bl w2 (N + 1) (numV k) 24 ∧ Bl w2 (N + 1 + 1) [.int .u64 0, .int .u64 0, .int .u64 0, .int .u64 0, .int .u64 0, .int .u64 0, .int .u64 0, .int .u64 0, .bool false, .int .u64 0, .int .u64 0, .int .u64 0, .int .u64 0] 30 ∧ GS w2 ∧ N = w.heap.size) := by
    have hb := below_call0 (HA.out _) hb2
    exact ⟨below_call0 H1.out.1 hb, H1.out.2.1.call hb, H1.out.2.2.1.call hb, H1.out.2.2.2.1.call hb, H1.out.2.2.2.2.1.call hb, H1.out.2.2.2.2.2⟩
  clear hb2 H1 HA KF hmf
  go_upto_region 3 with fail
  have HS : Hid ((storeVar 30 ⟨N + 1 + 1, 0, none⟩ (.agg #[.int .u64 0, .int .u64 0, .int .u64 0, .int .u64 0, .int .u64 0, .int .u64 0, .int .u64 0, .int .u64 0, .bool false, .int .u64 0, .int .u64 0, .int .u64 0, .int .u64 0])).run Tryd.prog w2 = .ok () (w2.setRow (N + 1 + 1) #[.int .u64 0, .int .u64 0, .int .u64 0, .int .u64 0, .int .u64 0, .int .u64 0, .int .u64 0, .int .u64 0, .bool false, .int .u64 0, .int .u64 0, .int .u64 0, .int .u64 0])) := H2.out.2.2.2.1.store (us := [.int .u64 0, .int .u64 0, .int .u64 0, .int .u64 0, .int .u64 0, .int .u64 0, .int .u64 0, .int .u64 0, .bool false, .int .u64 0, .int .u64 0, .int .u64 0, .int .u64 0]) (by kernel_rfl) rfl (by kernel_rfl)
  go_wp2_with ((with_reducible refine store_to (b := N + 1 + 1) (k := 0) (x := 6) (y := 30) ?_ ?_ ?_ ?_ HS.out ?_); rfl; rfl; rfl; rfl)
  have hld : (loadVar 30 ⟨N + 1 + 1, 0, none⟩).run Tryd.prog (w2.setRow (N + 1 + 1) #[.int .u64 0, .int .u64 0, .int .u64 0, .int .u64 0, .int .u64 0, .int .u64 0, .int .u64 0, .int .u64 0, .bool false, .int .u64 0, .int .u64 0, .int .u64 0, .int .u64 0]) = .ok (.agg #[.int .u64 0, .int .u64 0, .int .u64 0, .int .u64 0, .int .u64 0, .int .u64 0, .int .u64 0, .int .u64 0, .bool false, .int .u64 0, .int .u64 0, .int .u64 0, .int .u64 0]) (w2.setRow (N + 1 + 1) #[.int .u64 0, .int .u64 0, .int .u64 0, .int .u64 0, .int .u64 0, .int .u64 0, .int .u64 0, .int .u64 0, .bool false, .int .u64 0, .int .u64 0, .int .u64 0, .int .u64 0]) := (H2.out.2.2.2.1.put [.int .u64 0, .int .u64 0, .int .u64 0, .int .u64 0, .int .u64 0, .int .u64 0, .int .u64 0, .int .u64 0, .bool false, .int .u64 0, .int .u64 0, .int .u64 0, .int .u64 0]).load Tryd.underlying30 rfl (by kernel_rfl)
  refine bodyPost_ret (v := .tuple #[.agg #[.int .u64 0, .int .u64 0, .int .u64 0, .int .u64 0, .int .u64 0, .int .u64 0, .int .u64 0, .int .u64 0, .bool false, .int .u64 0, .int .u64 0, .int .u64 0, .int .u64 0], .int .i64 E]) ?_ rfl ⟨rfl, below_setRow (by have := H2.out.2.2.2.2.2; omega) _ H2.out.1⟩
  simp [results, Tryd.results5, asAddr, hld]
end Go.Proofs.YtchphekaonnfeaaDoor
