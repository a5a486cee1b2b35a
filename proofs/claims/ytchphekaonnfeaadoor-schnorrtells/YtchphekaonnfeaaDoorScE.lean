/- Package schnorr: Sign of scalars that are not zero. -/
import Derived.Test.YtchphekaonnfeaaDoorMgO
namespace Go.Proofs.YtchphekaonnfeaaDoor
open Go Go.RowKit Go.Lib
theorem exec_storeF {o : Oper} {ρ : Operand → Value} {w w' : World} {b k x y : Nat} {ty : TypeId} {vs : Array Value} (ho : o.op = .store ty (.tmp x) (.tmp y)) (hx : ρ (.tmp x) = .pointer (some ⟨b, k, none⟩)) (hy : ρ (.tmp y) = .agg vs) (hs : (storeVar ty ⟨b, k, none⟩ (.agg vs)).run Tryd.prog w = .ok () w') :
    (execOp ρ o).run Tryd.prog w = .ok .skip w' ∨ ∃ u, (execOp ρ o).run Tryd.prog w = .ok (.value u) w' := by
  have e : (execOp ρ o).run Tryd.prog w = .ok .skip w' := by
    unfold execOp
    simp only [ho, hx, hy, Instr.storeAt, Instr.sureAddr, Sem.run_bind, Sem.run_pure, Result.andThen_ok, hs]
  exact Or.inl e
set_option maxRecDepth 100000 in
set_option maxHeartbeats 4000000 in
theorem sign_ok (x k : Nat) (m : ByteArray) (Y R : Pts) (c p z : Nat) (h0 : 0 < x) (hx : x < QQ) (h1 : 0 < k) (hk : k < QQ) (hm : m.size ≤ 4096) (hY : Y = gr.mul x gG) (hR : R = gr.mul k gG) (hc : c = chN R Y m) (hp : p = c * x % QQ) (hz : z = (k + p) % QQ) (w : World) (hG : GS w) :
    Calls Tryd.prog 5 #[.agg #[.int .u64 (limb x 0 : Nat), .int .u64 (limb x 1 : Nat), .int .u64 (limb x 2 : Nat), .int .u64 (limb x 3 : Nat)], .agg #[.int .u64 (limb k 0 : Nat), .int .u64 (limb k 1 : Nat), .int .u64 (limb k 2 : Nat), .int .u64 (limb k 3 : Nat)], .string m] w fun e w' => e = .returned (.tuple #[.agg #[.int .u64 (limb (pX R) 0 : Nat), .int .u64 (limb (pX R) 1 : Nat), .int .u64 (limb (pX R) 2 : Nat), .int .u64 (limb (pX R) 3 : Nat), .int .u64 (limb (pY R) 0 : Nat), .int .u64 (limb (pY R) 1 : Nat), .int .u64 (limb (pY R) 2 : Nat), .int .u64 (limb (pY R) 3 : Nat), .bool (pI R), .int .u64 (limb z 0 : Nat), .int .u64 (limb z 1 : Nat), .int .u64 (limb z 2 : Nat), .int .u64 (limb z 3 : Nat)], .int .i64 0]) ∧ Below w.heap.size w w' := by
  have KF : Hid (∀ (b : Nat) (w : World), GS w → b < w.heap.size → w.cell? ⟨b, 0, none⟩ = some (.func (.func 17) #[.agg #[.int .u64 (limb x 0 : Nat), .int .u64 (limb x 1 : Nat), .int .u64 (limb x 2 : Nat), .int .u64 (limb x 3 : Nat)]] #[]) → w.cell? ⟨b, 1, none⟩ = some (.func (.func 17) #[.agg #[.int .u64 (limb k 0 : Nat), .int .u64 (limb k 1 : Nat), .int .u64 (limb k 2 : Nat), .int .u64 (limb k 3 : Nat)]] #[]) → w.cell? ⟨b, 2, none⟩ = some (.func (.func 18) #[.agg #[.int .u64 (limb x 0 : Nat), .int .u64 (limb x 1 : Nat), .int .u64 (limb x 2 : Nat), .int .u64 (limb x 3 : Nat)]] #[]) → w.cell? ⟨b, 3, none⟩ = some (.func (.func 18) #[.agg #[.int .u64 (limb k 0 : Nat), .int .u64 (limb k 1 : Nat), .int .u64 (limb k 2 : Nat), .int .u64 (limb k 3 : Nat)]] #[]) → w.cell? ⟨b, 4, none⟩ = some (.func (.func 19) #[.string m] #[]) →
      Calls Tryd.prog 16 #[.slice (some ⟨b, 0, none⟩) 5 5] w fun e w' => e = .returned (.int .i64 0) ∧ Below w.heap.size w w') := fun b w hG hb c0 c1 c2 c3 c4 => by
    refine first_any 5 b (fun j => if j < 2 then 17 else if j < 4 then 18 else 19) (fun j => if j = 4 then #[.string m] else if j % 2 = 0 then #[.agg #[.int .u64 (limb x 0 : Nat), .int .u64 (limb x 1 : Nat), .int .u64 (limb x 2 : Nat), .int .u64 (limb x 3 : Nat)]] else #[.agg #[.int .u64 (limb k 0 : Nat), .int .u64 (limb k 1 : Nat), .int .u64 (limb k 2 : Nat), .int .u64 (limb k 3 : Nat)]]) (fun _ => 0) 0 GS (fun w w' h hb => h.call hb) (fun j hj _ w hG => ?_) (fun j hj => ?_) (by decide) rfl w hG ⟨hb, fun j hj => ?_⟩
    · match j, hj with
      | 0, _ => exact q_scalar x 0 (QQ_R hx) (scE_in hx).symm w hG.1.2.1
      | 1, _ => exact q_scalar k 0 (QQ_R hk) (scE_in hk).symm w hG.1.2.1
      | 2, _ => exact q_zero x 0 (QQ_R hx) (nzE_in h0).symm w
      | 3, _ => exact q_zero k 0 (QQ_R hk) (nzE_in h1).symm w
      | 4, _ =>
        refine (q_short m 0 (shE_in hm).symm w).mono ?_
        rintro e w' ⟨he, rfl⟩
        exact ⟨he, Below.refl _ _⟩
    · match j, hj with
      | 0, _ => exact enters_of Tryd.func17 (by kernel_rfl) rfl
      | 1, _ => exact enters_of Tryd.func17 (by kernel_rfl) rfl
      | 2, _ => exact enters_of Tryd.func18 (by kernel_rfl) rfl
      | 3, _ => exact enters_of Tryd.func18 (by kernel_rfl) rfl
      | 4, _ => exact enters_of Tryd.func19 (by kernel_rfl) rfl
    · match j, hj with
      | 0, _ => exact c0
      | 1, _ => exact c1
      | 2, _ => exact c2
      | 3, _ => exact c3
      | 4, _ => exact c4
  have KG : Hid _ := G_A
  have KX : Hid (∀ w, GA w → Calls Tryd.prog 20 #[.agg #[.int .u64 (limb x 0 : Nat), .int .u64 (limb x 1 : Nat), .int .u64 (limb x 2 : Nat), .int .u64 (limb x 3 : Nat)], .agg #[.int .u64 (limb (pX gG) 0 : Nat), .int .u64 (limb (pX gG) 1 : Nat), .int .u64 (limb (pX gG) 2 : Nat), .int .u64 (limb (pX gG) 3 : Nat), .int .u64 (limb (pY gG) 0 : Nat), .int .u64 (limb (pY gG) 1 : Nat), .int .u64 (limb (pY gG) 2 : Nat), .int .u64 (limb (pY gG) 3 : Nat), .bool (pI gG)]] w fun e w' => e = .returned (.tuple #[.agg #[.int .u64 (limb (pX Y) 0 : Nat), .int .u64 (limb (pX Y) 1 : Nat), .int .u64 (limb (pX Y) 2 : Nat), .int .u64 (limb (pX Y) 3 : Nat), .int .u64 (limb (pY Y) 0 : Nat), .int .u64 (limb (pY Y) 1 : Nat), .int .u64 (limb (pY Y) 2 : Nat), .int .u64 (limb (pY Y) 3 : Nat), .bool (pI Y)], .int .i64 0]) ∧ Below w.heap.size w w') := fun w h => by
    rw [hY]
    exact Mul_ok x gG hx w h.1 h.2.1 h.2.2.1
  have KK : Hid (∀ w, GA w → Calls Tryd.prog 20 #[.agg #[.int .u64 (limb k 0 : Nat), .int .u64 (limb k 1 : Nat), .int .u64 (limb k 2 : Nat), .int .u64 (limb k 3 : Nat)], .agg #[.int .u64 (limb (pX gG) 0 : Nat), .int .u64 (limb (pX gG) 1 : Nat), .int .u64 (limb (pX gG) 2 : Nat), .int .u64 (limb (pX gG) 3 : Nat), .int .u64 (limb (pY gG) 0 : Nat), .int .u64 (limb (pY gG) 1 : Nat), .int .u64 (limb (pY gG) 2 : Nat), .int .u64 (limb (pY gG) 3 : Nat), .bool (pI gG)]] w fun e w' => e = .returned (.tuple #[.agg #[.int .u64 (limb (pX R) 0 : Nat), .int .u64 (limb (pX R) 1 : Nat), .int .u64 (limb (pX R) 2 : Nat), .int .u64 (limb (pX R) 3 : Nat), .int .u64 (limb (pY R) 0 : Nat), .int .u64 (limb (pY R) 1 : Nat), .int .u64 (limb (pY R) 2 : Nat), .int .u64 (limb (pY R) 3 : Nat), .bool (pI R)], .int .i64 0]) ∧ Below w.heap.size w w') := fun w h => by
    rw [hR]
    exact Mul_ok k gG hk w h.1 h.2.1 h.2.2.1
  have KS : Hid _ := scalars_any
  have KC : Hid (∀ w, GS w → Calls Tryd.prog 22 #[.agg #[.int .u64 (limb (pX R) 0 : Nat), .int .u64 (limb (pX R) 1 : Nat), .int .u64 (limb (pX R) 2 : Nat), .int .u64 (limb (pX R) 3 : Nat), .int .u64 (limb (pY R) 0 : Nat), .int .u64 (limb (pY R) 1 : Nat), .int .u64 (limb (pY R) 2 : Nat), .int .u64 (limb (pY R) 3 : Nat), .bool (pI R)], .agg #[.int .u64 (limb (pX Y) 0 : Nat), .int .u64 (limb (pX Y) 1 : Nat), .int .u64 (limb (pX Y) 2 : Nat), .int .u64 (limb (pX Y) 3 : Nat), .int .u64 (limb (pY Y) 0 : Nat), .int .u64 (limb (pY Y) 1 : Nat), .int .u64 (limb (pY Y) 2 : Nat), .int .u64 (limb (pY Y) 3 : Nat), .bool (pI Y)], .string m] w fun e w' => e = .returned (.agg #[.int .u64 (limb c 0 : Nat), .int .u64 (limb c 1 : Nat), .int .u64 (limb c 2 : Nat), .int .u64 (limb c 3 : Nat)]) ∧ Below w.heap.size w w') := fun w h => chal_ok R Y m c hm hc w h
  have hcq : c < QQ := by rw [hc]; exact chN_lt R Y m
  have KU : Hid (∀ (g : Nat) (w : World), FieldB w g QQ → Calls Tryd.prog 15 #[.pointer (some ⟨g, 0, none⟩), .agg #[.int .u64 (limb c 0 : Nat), .int .u64 (limb c 1 : Nat), .int .u64 (limb c 2 : Nat), .int .u64 (limb c 3 : Nat)], .agg #[.int .u64 (limb x 0 : Nat), .int .u64 (limb x 1 : Nat), .int .u64 (limb x 2 : Nat), .int .u64 (limb x 3 : Nat)]] w fun e w' => e = .returned (.tuple #[.agg #[.int .u64 (limb p 0 : Nat), .int .u64 (limb p 1 : Nat), .int .u64 (limb p 2 : Nat), .int .u64 (limb p 3 : Nat)], .int .i64 0]) ∧ Below w.heap.size w w') := fun g w h => by
    rw [hp]
    exact fmul_in g QQ c x FM_Q hcq hx w h
  have hpq : p < QQ := by rw [hp]; exact Nat.mod_lt _ (Nat.lt_of_le_of_lt (Nat.zero_le _) hx)
  have KA : Hid (∀ (g : Nat) (w : World), FieldB w g QQ → Calls Tryd.prog 23 #[.pointer (some ⟨g, 0, none⟩), .agg #[.int .u64 (limb k 0 : Nat), .int .u64 (limb k 1 : Nat), .int .u64 (limb k 2 : Nat), .int .u64 (limb k 3 : Nat)], .agg #[.int .u64 (limb p 0 : Nat), .int .u64 (limb p 1 : Nat), .int .u64 (limb p 2 : Nat), .int .u64 (limb p 3 : Nat)]] w fun e w' => e = .returned (.tuple #[.agg #[.int .u64 (limb z 0 : Nat), .int .u64 (limb z 1 : Nat), .int .u64 (limb z 2 : Nat), .int .u64 (limb z 3 : Nat)], .int .i64 0]) ∧ Below w.heap.size w w') := fun g w h => by
    rw [hz]
    exact fadd_in g QQ k p FM_Q hk hpq w h
  obtain ⟨N, hN⟩ : ∃ N, N = w.heap.size := ⟨_, rfl⟩
  obtain ⟨W1, hW1⟩ : ∃ W1, W1 = ((w.alloc (.cells #[.int .u64 (limb x 0 : Nat), .int .u64 (limb x 1 : Nat), .int .u64 (limb x 2 : Nat), .int .u64 (limb x 3 : Nat)] 24)).alloc (.cells #[.int .u64 (limb k 0 : Nat), .int .u64 (limb k 1 : Nat), .int .u64 (limb k 2 : Nat), .int .u64 (limb k 3 : Nat)] 24)).alloc (.cells #[.int .u64 0, .int .u64 0, .int .u64 0, .int .u64 0, .int .u64 0, .int .u64 0, .int .u64 0, .int .u64 0, .bool false, .int .u64 0, .int .u64 0, .int .u64 0, .int .u64 0] 30) := ⟨_, rfl⟩
  have H1 : Hid (Below w.heap.size w W1 ∧ Bl W1 N (numV x) 24 ∧ Bl W1 (N + 1) (numV k) 24 ∧ Bl W1 (N + 1 + 1) [.int .u64 0, .int .u64 0, .int .u64 0, .int .u64 0, .int .u64 0, .int .u64 0, .int .u64 0, .int .u64 0, .bool false, .int .u64 0, .int .u64 0, .int .u64 0, .int .u64 0] 30 ∧ GS W1 ∧ N = w.heap.size) := by
    have e1 := Bl.new w (numV x) 24
    have e2 := Bl.new (w.alloc (.cells (numV x).toArray 24)) (numV k) 24
    have e3 := Bl.new ((w.alloc (.cells (numV x).toArray 24)).alloc (.cells (numV k).toArray 24)) [.int .u64 0, .int .u64 0, .int .u64 0, .int .u64 0, .int .u64 0, .int .u64 0, .int .u64 0, .int .u64 0, .bool false, .int .u64 0, .int .u64 0, .int .u64 0, .int .u64 0] 30
    have a2 : Below (w.alloc (.cells (numV x).toArray 24)).heap.size (w.alloc (.cells (numV x).toArray 24)) ((w.alloc (.cells (numV x).toArray 24)).alloc (.cells (numV k).toArray 24)) := below_alloc0 (Below.refl _ _) _
    have a3 : Below ((w.alloc (.cells (numV x).toArray 24)).alloc (.cells (numV k).toArray 24)).heap.size ((w.alloc (.cells (numV x).toArray 24)).alloc (.cells (numV k).toArray 24)) (((w.alloc (.cells (numV x).toArray 24)).alloc (.cells (numV k).toArray 24)).alloc (.cells [.int .u64 0, .int .u64 0, .int .u64 0, .int .u64 0, .int .u64 0, .int .u64 0, .int .u64 0, .int .u64 0, .bool false, .int .u64 0, .int .u64 0, .int .u64 0, .int .u64 0].toArray 30)) := below_alloc0 (Below.refl _ _) _
    have hb : Below w.heap.size w W1 := by
      rw [hW1]
      exact below_alloc0 (below_alloc0 (below_alloc0 (Below.refl _ _) _) _) _
    rw [World.size_alloc] at e2
    rw [World.size_alloc, World.size_alloc] at e3
    refine ⟨hb, ?_, ?_, ?_, hG.call hb, hN⟩
    · rw [hW1, hN]
      exact (e1.call a2).call a3
    · rw [hW1, hN]
      exact e2.call a3
    · rw [hW1, hN]
      exact e3
  have HW : Hid (W1 = ((w.alloc (.cells #[.int .u64 (limb x 0 : Nat), .int .u64 (limb x 1 : Nat), .int .u64 (limb x 2 : Nat), .int .u64 (limb x 3 : Nat)] 24)).alloc (.cells #[.int .u64 (limb k 0 : Nat), .int .u64 (limb k 1 : Nat), .int .u64 (limb k 2 : Nat), .int .u64 (limb k 3 : Nat)] 24)).alloc (.cells #[.int .u64 0, .int .u64 0, .int .u64 0, .int .u64 0, .int .u64 0, .int .u64 0, .int .u64 0, .int .u64 0, .bool false, .int .u64 0, .int .u64 0, .int .u64 0, .int .u64 0] 30) ∧ N = w.heap.size) := ⟨hW1, hN⟩
  clear hW1 hG h0 hx h1 hk hm hY hR hc hp hz hcq hpq hN
  have hmf : ∀ (fn : Fn) (first cap : Array Value) (w : World), (Instr.makeFunc fn first cap).run Tryd.prog w = .ok (.func fn first cap) w := fun _ _ _ _ => rfl
  go_enter Tryd.func5, Tryd.ntmps5
  go_upto_region 1 with fail
  rw [← HW.out.1, ← HW.out.2]
  clear HW
  have L1 : Hid ((loadVar 24 ⟨N, 0, none⟩).run Tryd.prog W1 = .ok (.agg #[.int .u64 (limb x 0 : Nat), .int .u64 (limb x 1 : Nat), .int .u64 (limb x 2 : Nat), .int .u64 (limb x 3 : Nat)]) W1) := H1.out.2.1.load Tryd.underlying24 rfl (by kernel_rfl)
  have L2 : Hid ((loadVar 24 ⟨N + 1, 0, none⟩).run Tryd.prog W1 = .ok (.agg #[.int .u64 (limb k 0 : Nat), .int .u64 (limb k 1 : Nat), .int .u64 (limb k 2 : Nat), .int .u64 (limb k 3 : Nat)]) W1) := H1.out.2.2.1.load Tryd.underlying24 rfl (by kernel_rfl)
  go_wp2_with (first | ((with_reducible refine load_to (b := N) (k := 0) (x := 3) ?_ ?_ ?_ L1.out ?_); rfl; rfl; rfl) | ((with_reducible refine load_to (b := N + 1) (k := 0) (x := 4) ?_ ?_ ?_ L2.out ?_); rfl; rfl; rfl))
  clear L1 L2
  have HA : Hid (∀ b, Below W1.heap.size W1 (W1.alloc b)) := fun b => below_alloc0 (Below.refl _ _) b
  refine (KF.out _ _ (H1.out.2.2.2.2.1.call (HA.out _)) (by simp) (by simp [go_sem]) (by simp [go_sem]) (by simp [go_sem]) (by simp [go_sem]) (by simp [go_sem])).mono ?_
  rintro e w2 ⟨rfl, hb2⟩
  have H2 : Hid (Below w.heap.size w w2 ∧ Bl w2 N (numV x) 24 ∧ Bl w2 (N + 1) (numV k) 24 ∧ Bl w2 (N + 1 + 1) [.int .u64 0, .int .u64 0, .int .u64 0, .int .u64 0, .int .u64 0, .int .u64 0, .int .u64 0, .int .u64 0, .bool false, .int .u64 0, .int .u64 0, .int .u64 0, .int .u64 0] 30 ∧ GS w2 ∧ N = w.heap.size) := by
    have hb := below_call0 (HA.out _) hb2
    exact ⟨below_call0 H1.out.1 hb, H1.out.2.1.call hb, H1.out.2.2.1.call hb, H1.out.2.2.2.1.call hb, H1.out.2.2.2.2.1.call hb, H1.out.2.2.2.2.2⟩
  clear hb2 H1 HA KF hmf
  go_upto_region 4 with fail
  refine wp_region_K 8 0 6 7 [.agg #[.int .u64 (limb x 0 : Nat), .int .u64 (limb x 1 : Nat), .int .u64 (limb x 2 : Nat), .int .u64 (limb x 3 : Nat)], ?v1r4, ?v2r4, ?v3r4, ?v4r4, ?v5r4, undef, undef] [some 33, some 34, some 35, some 32, some 36, some 37, some 9, none] (fun s w b => Bl w b (cond s (ptsV Y) [.int .u64 0, .int .u64 0, .int .u64 0, .int .u64 0, .int .u64 0, .int .u64 0, .int .u64 0, .int .u64 0, .bool false]) 28) ?Ar4 ?oar4 ?osr4 (by kernel_rfl) (by kernel_rfl) (by kernel_rfl) rfl ?hAr4 (fun _ _ _ _ h hb => Bl.call h hb) ?hopr4 ?hoar4 ?hosr4 (by decide) (by decide) ?hswr4 ?halr4 ?hstr4 ?hfinr4
  case hAr4 =>
    intro bq
    simp only [List.set_cons_zero, List.set_cons_succ, List.zip_cons_cons, List.zip_nil_right, fillD, Act.put, List.setIfInBounds_toArray]
    exact rfl
  case hopr4 =>
    refine ⟨?_, ?_, ?_, ?_, ?_, ?_, fun h => absurd rfl h, fun _ h => absurd rfl h, trivial⟩
    focus (intro _ _ bq wx hS; refine OpTo.yields rfl ?_; exact exec_loadF (b := N) (x := 3) rfl rfl ((H2.out.2.1.call hS).load Tryd.underlying24 rfl (by kernel_rfl)))
    focus (intro _ _ bq wx hS; refine OpTo.calls rfl ?_ ?_; rotate_left; intro K hK; go_simp; refine (KG.out _ (H2.out.2.2.2.2.1.call hS).1.2.2.2).mono ?_; rintro e w' ⟨rfl, hq⟩; exact hK w' hq; exact rfl)
    focus (intro _ _ bq wx hS; refine OpTo.calls rfl ?_ ?_; rotate_left; intro K hK; go_simp; refine (KX.out _ (H2.out.2.2.2.2.1.call hS).1).mono ?_; rintro e w' ⟨rfl, hq⟩; exact hK w' hq; exact rfl)
    focus (intro _ _ bq wx hS; refine OpTo.yields rfl ?_; clear hS; go_simp; try with_reducible rfl)
    focus (intro _ _ bq wx hS; refine OpTo.yields rfl ?_; clear hS; go_simp; try with_reducible rfl)
    focus (intro _ _ bq wx hS; refine OpTo.yields rfl ?_; clear hS; go_simp; try with_reducible rfl)
  case hoar4 =>
    rw [List.getElem?_toArray]
    exact rfl
  case halr4 =>
    intro bq wx hS
    refine OpTo.make (ob := ?obr4) (B := fun w b => Bl w b [.int .u64 0, .int .u64 0, .int .u64 0, .int .u64 0, .int .u64 0, .int .u64 0, .int .u64 0, .int .u64 0, .bool false] 28) hS rfl ?runr4 ?ownr4
    case runr4 =>
      go_simp
      try with_reducible rfl
    case ownr4 => exact Bl.new _ [.int .u64 0, .int .u64 0, .int .u64 0, .int .u64 0, .int .u64 0, .int .u64 0, .int .u64 0, .int .u64 0, .bool false] _
  case hosr4 =>
    rw [List.getElem?_toArray]
    exact rfl
  case hswr4 => kernel_rfl
  case hstr4 =>
    intro bq wx hS hB hle
    have hB' : Bl wx bq [.int .u64 0, .int .u64 0, .int .u64 0, .int .u64 0, .int .u64 0, .int .u64 0, .int .u64 0, .int .u64 0, .bool false] 28 := hB
    exact OpTo.stores (w1 := wx.setRow bq (ptsV Y).toArray) (R := fun w' => Bl w' bq (cond true (ptsV Y) [.int .u64 0, .int .u64 0, .int .u64 0, .int .u64 0, .int .u64 0, .int .u64 0, .int .u64 0, .int .u64 0, .bool false]) 28 ∧ Below w2.heap.size w2 w') rfl (exec_storeF (b := bq) (x := 9) (y := 36) rfl rfl rfl (hB'.store (us := ptsV Y) (by kernel_rfl) rfl (by kernel_rfl))) rfl ⟨hB'.put (ptsV Y), below_setRow hle _ hS⟩
  intro A w3 hS hB hle
  refine tail_at (o := ?ofr4_8) ?hir4_8 ?hwr4_8 ?_
  case hir4_8 => rw [List.getElem?_toArray]; exact rfl
  case hwr4_8 => exact rfl
  go_simp
  refine tail_end ?_
  have H3 : Hid (Below w.heap.size w w3 ∧ Bl w3 N (numV x) 24 ∧ Bl w3 (N + 1) (numV k) 24 ∧ Bl w3 (N + 1 + 1) [.int .u64 0, .int .u64 0, .int .u64 0, .int .u64 0, .int .u64 0, .int .u64 0, .int .u64 0, .int .u64 0, .bool false, .int .u64 0, .int .u64 0, .int .u64 0, .int .u64 0] 30 ∧ GS w3 ∧ N = w.heap.size ∧ Bl w3 A (ptsV Y) 28) := ⟨below_call0 H2.out.1 hS, H2.out.2.1.call hS, H2.out.2.2.1.call hS, H2.out.2.2.2.1.call hS, H2.out.2.2.2.2.1.call hS, H2.out.2.2.2.2.2, hB⟩
  clear hS hB hle H2 KX
  go_upto_region 5 with fail
  refine wp_region_K 8 0 6 7 [.agg #[.int .u64 (limb k 0 : Nat), .int .u64 (limb k 1 : Nat), .int .u64 (limb k 2 : Nat), .int .u64 (limb k 3 : Nat)], ?v1r5, ?v2r5, ?v3r5, ?v4r5, ?v5r5, undef, undef] [some 39, some 40, some 41, some 38, some 42, some 43, some 11, none] (fun s w b => Bl w b (cond s (ptsV R) [.int .u64 0, .int .u64 0, .int .u64 0, .int .u64 0, .int .u64 0, .int .u64 0, .int .u64 0, .int .u64 0, .bool false]) 28) ?Ar5 ?oar5 ?osr5 (by kernel_rfl) (by kernel_rfl) (by kernel_rfl) rfl ?hAr5 (fun _ _ _ _ h hb => Bl.call h hb) ?hopr5 ?hoar5 ?hosr5 (by decide) (by decide) ?hswr5 ?halr5 ?hstr5 ?hfinr5
  case hAr5 =>
    intro bq
    simp only [List.set_cons_zero, List.set_cons_succ, List.zip_cons_cons, List.zip_nil_right, fillD, Act.put, List.setIfInBounds_toArray]
    exact rfl
  case hopr5 =>
    refine ⟨?_, ?_, ?_, ?_, ?_, ?_, fun h => absurd rfl h, fun _ h => absurd rfl h, trivial⟩
    focus (intro _ _ bq wx hS; refine OpTo.yields rfl ?_; exact exec_loadF (b := N + 1) (x := 4) rfl rfl ((H3.out.2.2.1.call hS).load Tryd.underlying24 rfl (by kernel_rfl)))
    focus (intro _ _ bq wx hS; refine OpTo.calls rfl ?_ ?_; rotate_left; intro K hK; go_simp; refine (KG.out _ (H3.out.2.2.2.2.1.call hS).1.2.2.2).mono ?_; rintro e w' ⟨rfl, hq⟩; exact hK w' hq; exact rfl)
    focus (intro _ _ bq wx hS; refine OpTo.calls rfl ?_ ?_; rotate_left; intro K hK; go_simp; refine (KK.out _ (H3.out.2.2.2.2.1.call hS).1).mono ?_; rintro e w' ⟨rfl, hq⟩; exact hK w' hq; exact rfl)
    focus (intro _ _ bq wx hS; refine OpTo.yields rfl ?_; clear hS; go_simp; try with_reducible rfl)
    focus (intro _ _ bq wx hS; refine OpTo.yields rfl ?_; clear hS; go_simp; try with_reducible rfl)
    focus (intro _ _ bq wx hS; refine OpTo.yields rfl ?_; clear hS; go_simp; try with_reducible rfl)
  case hoar5 =>
    rw [List.getElem?_toArray]
    exact rfl
  case halr5 =>
    intro bq wx hS
    refine OpTo.make (ob := ?obr5) (B := fun w b => Bl w b [.int .u64 0, .int .u64 0, .int .u64 0, .int .u64 0, .int .u64 0, .int .u64 0, .int .u64 0, .int .u64 0, .bool false] 28) hS rfl ?runr5 ?ownr5
    case runr5 =>
      go_simp
      try with_reducible rfl
    case ownr5 => exact Bl.new _ [.int .u64 0, .int .u64 0, .int .u64 0, .int .u64 0, .int .u64 0, .int .u64 0, .int .u64 0, .int .u64 0, .bool false] _
  case hosr5 =>
    rw [List.getElem?_toArray]
    exact rfl
  case hswr5 => kernel_rfl
  case hstr5 =>
    intro bq wx hS hB hle
    have hB' : Bl wx bq [.int .u64 0, .int .u64 0, .int .u64 0, .int .u64 0, .int .u64 0, .int .u64 0, .int .u64 0, .int .u64 0, .bool false] 28 := hB
    exact OpTo.stores (w1 := wx.setRow bq (ptsV R).toArray) (R := fun w' => Bl w' bq (cond true (ptsV R) [.int .u64 0, .int .u64 0, .int .u64 0, .int .u64 0, .int .u64 0, .int .u64 0, .int .u64 0, .int .u64 0, .bool false]) 28 ∧ Below w3.heap.size w3 w') rfl (exec_storeF (b := bq) (x := 11) (y := 42) rfl rfl rfl (hB'.store (us := ptsV R) (by kernel_rfl) rfl (by kernel_rfl))) rfl ⟨hB'.put (ptsV R), below_setRow hle _ hS⟩
  intro B w4 hS hB hle
  refine tail_at (o := ?ofr5_8) ?hir5_8 ?hwr5_8 ?_
  case hir5_8 => rw [List.getElem?_toArray]; exact rfl
  case hwr5_8 => exact rfl
  go_simp
  refine tail_end ?_
  have H4 : Hid (Below w.heap.size w w4 ∧ Bl w4 N (numV x) 24 ∧ Bl w4 (N + 1) (numV k) 24 ∧ Bl w4 (N + 1 + 1) [.int .u64 0, .int .u64 0, .int .u64 0, .int .u64 0, .int .u64 0, .int .u64 0, .int .u64 0, .int .u64 0, .bool false, .int .u64 0, .int .u64 0, .int .u64 0, .int .u64 0] 30 ∧ GS w4 ∧ N = w.heap.size ∧ Bl w4 A (ptsV Y) 28 ∧ Bl w4 B (ptsV R) 28 ∧ N + 1 + 1 < B) := ⟨below_call0 H3.out.1 hS, H3.out.2.1.call hS, H3.out.2.2.1.call hS, H3.out.2.2.2.1.call hS, H3.out.2.2.2.2.1.call hS, H3.out.2.2.2.2.2.1, H3.out.2.2.2.2.2.2.call hS, hB, Nat.lt_of_lt_of_le H3.out.2.2.2.1.lt hle⟩
  clear hS hB hle H3 KK KG
  go_upto_region 6 with fail
  go_wp2_with fail
  refine (KS.out _ H4.out.2.2.2.2.1.1.2.1).mono ?_
  rintro e w5 ⟨g, rfl, hF, hb5⟩
  have H5 : Hid (Below w.heap.size w w5 ∧ Bl w5 N (numV x) 24 ∧ Bl w5 (N + 1) (numV k) 24 ∧ Bl w5 (N + 1 + 1) [.int .u64 0, .int .u64 0, .int .u64 0, .int .u64 0, .int .u64 0, .int .u64 0, .int .u64 0, .int .u64 0, .bool false, .int .u64 0, .int .u64 0, .int .u64 0, .int .u64 0] 30 ∧ GS w5 ∧ N = w.heap.size ∧ Bl w5 A (ptsV Y) 28 ∧ Bl w5 B (ptsV R) 28 ∧ FieldB w5 g QQ ∧ N + 1 + 1 < B) := ⟨below_call0 H4.out.1 hb5, H4.out.2.1.call hb5, H4.out.2.2.1.call hb5, H4.out.2.2.2.1.call hb5, H4.out.2.2.2.2.1.call hb5, H4.out.2.2.2.2.2.1, H4.out.2.2.2.2.2.2.1.call hb5, H4.out.2.2.2.2.2.2.2.1.call hb5, hF, H4.out.2.2.2.2.2.2.2.2⟩
  clear hb5 hF H4 KS
  go_upto_region 7 with fail
  refine wp_region_K 12 0 10 11 [?v0r7, .agg #[.int .u64 (limb (pX R) 0 : Nat), .int .u64 (limb (pX R) 1 : Nat), .int .u64 (limb (pX R) 2 : Nat), .int .u64 (limb (pX R) 3 : Nat), .int .u64 (limb (pY R) 0 : Nat), .int .u64 (limb (pY R) 1 : Nat), .int .u64 (limb (pY R) 2 : Nat), .int .u64 (limb (pY R) 3 : Nat), .bool (pI R)], .agg #[.int .u64 (limb (pX Y) 0 : Nat), .int .u64 (limb (pX Y) 1 : Nat), .int .u64 (limb (pX Y) 2 : Nat), .int .u64 (limb (pX Y) 3 : Nat), .int .u64 (limb (pY Y) 0 : Nat), .int .u64 (limb (pY Y) 1 : Nat), .int .u64 (limb (pY Y) 2 : Nat), .int .u64 (limb (pY Y) 3 : Nat), .bool (pI Y)], ?v3r7, ?v4r7, .agg #[.int .u64 (limb x 0 : Nat), .int .u64 (limb x 1 : Nat), .int .u64 (limb x 2 : Nat), .int .u64 (limb x 3 : Nat)], ?v6r7, ?v7r7, ?v8r7, ?v9r7, undef, undef] [some 46, some 47, some 48, some 49, some 50, some 51, some 52, some 45, some 53, some 54, some 14, none] (fun s w b => Bl w b (cond s (numV p) [.int .u64 0, .int .u64 0, .int .u64 0, .int .u64 0]) 24) ?Ar7 ?oar7 ?osr7 (by kernel_rfl) (by kernel_rfl) (by kernel_rfl) rfl ?hAr7 (fun _ _ _ _ h hb => Bl.call h hb) ?hopr7 ?hoar7 ?hosr7 (by decide) (by decide) ?hswr7 ?halr7 ?hstr7 ?hfinr7
  case hAr7 =>
    intro bq
    simp only [List.set_cons_zero, List.set_cons_succ, List.zip_cons_cons, List.zip_nil_right, fillD, Act.put, List.setIfInBounds_toArray]
    exact rfl
  case hopr7 =>
    refine ⟨?_, ?_, ?_, ?_, ?_, ?_, ?_, ?_, ?_, ?_, fun h => absurd rfl h, fun _ h => absurd rfl h, trivial⟩
    focus (intro _ _ bq wx hS; refine OpTo.yields rfl ?_; clear hS; go_simp; try with_reducible rfl)
    focus (intro _ _ bq wx hS; refine OpTo.yields rfl ?_; exact exec_loadF (b := B) (x := 11) rfl rfl ((H5.out.2.2.2.2.2.2.2.1.call hS).load Tryd.underlying28 rfl (by kernel_rfl)))
    focus (intro _ _ bq wx hS; refine OpTo.yields rfl ?_; exact exec_loadF (b := A) (x := 9) rfl rfl ((H5.out.2.2.2.2.2.2.1.call hS).load Tryd.underlying28 rfl (by kernel_rfl)))
    focus (intro _ _ bq wx hS; refine OpTo.yields rfl ?_; clear hS; go_simp; try with_reducible rfl)
    focus (intro _ _ bq wx hS; refine OpTo.calls rfl ?_ ?_; rotate_left; intro K hK; go_simp; refine (KC.out _ (H5.out.2.2.2.2.1.call hS)).mono ?_; rintro e w' ⟨rfl, hq⟩; exact hK w' hq; exact rfl)
    focus (intro _ _ bq wx hS; refine OpTo.yields rfl ?_; exact exec_loadF (b := N) (x := 3) rfl rfl ((H5.out.2.1.call hS).load Tryd.underlying24 rfl (by kernel_rfl)))
    focus (intro _ _ bq wx hS; refine OpTo.calls rfl ?_ ?_; rotate_left; intro K hK; go_simp; refine (KU.out g _ (FieldB.call H5.out.2.2.2.2.2.2.2.2.1 hS)).mono ?_; rintro e w' ⟨rfl, hq⟩; exact hK w' hq; exact rfl)
    focus (intro _ _ bq wx hS; refine OpTo.yields rfl ?_; clear hS; go_simp; try with_reducible rfl)
    focus (intro _ _ bq wx hS; refine OpTo.yields rfl ?_; clear hS; go_simp; try with_reducible rfl)
    focus (intro _ _ bq wx hS; refine OpTo.yields rfl ?_; clear hS; go_simp; try with_reducible rfl)
  case hoar7 =>
    rw [List.getElem?_toArray]
    exact rfl
  case halr7 =>
    intro bq wx hS
    refine OpTo.make (ob := ?obr7) (B := fun w b => Bl w b [.int .u64 0, .int .u64 0, .int .u64 0, .int .u64 0] 24) hS rfl ?runr7 ?ownr7
    case runr7 =>
      go_simp
      try with_reducible rfl
    case ownr7 => exact Bl.new _ [.int .u64 0, .int .u64 0, .int .u64 0, .int .u64 0] _
  case hosr7 =>
    rw [List.getElem?_toArray]
    exact rfl
  case hswr7 => kernel_rfl
  case hstr7 =>
    intro bq wx hS hB hle
    have hB' : Bl wx bq [.int .u64 0, .int .u64 0, .int .u64 0, .int .u64 0] 24 := hB
    exact OpTo.stores (w1 := wx.setRow bq (numV p).toArray) (R := fun w' => Bl w' bq (cond true (numV p) [.int .u64 0, .int .u64 0, .int .u64 0, .int .u64 0]) 24 ∧ Below w5.heap.size w5 w') rfl (exec_storeF (b := bq) (x := 14) (y := 53) rfl rfl rfl (hB'.store (us := numV p) (by kernel_rfl) rfl (by kernel_rfl))) rfl ⟨hB'.put (numV p), below_setRow hle _ hS⟩
  intro C w6 hS hB hle
  refine tail_at (o := ?ofr7_12) ?hir7_12 ?hwr7_12 ?_
  case hir7_12 => rw [List.getElem?_toArray]; exact rfl
  case hwr7_12 => exact rfl
  go_simp
  refine tail_end ?_
  have H6 : Hid (Below w.heap.size w w6 ∧ Bl w6 (N + 1) (numV k) 24 ∧ Bl w6 (N + 1 + 1) [.int .u64 0, .int .u64 0, .int .u64 0, .int .u64 0, .int .u64 0, .int .u64 0, .int .u64 0, .int .u64 0, .bool false, .int .u64 0, .int .u64 0, .int .u64 0, .int .u64 0] 30 ∧ N = w.heap.size ∧ Bl w6 B (ptsV R) 28 ∧ FieldB w6 g QQ ∧ Bl w6 C (numV p) 24 ∧ B < C ∧ N + 1 + 1 < C ∧ N + 1 + 1 < B) := ⟨below_call0 H5.out.1 hS, H5.out.2.2.1.call hS, H5.out.2.2.2.1.call hS, H5.out.2.2.2.2.2.1, H5.out.2.2.2.2.2.2.2.1.call hS, FieldB.call H5.out.2.2.2.2.2.2.2.2.1 hS, hB, Nat.lt_of_lt_of_le H5.out.2.2.2.2.2.2.2.1.lt hle, Nat.lt_of_lt_of_le H5.out.2.2.2.1.lt hle, H5.out.2.2.2.2.2.2.2.2.2⟩
  clear hS hB hle H5 KC KU
  go_upto_region 8 with fail
  have L1 : Hid ((loadVar 24 ⟨N + 1, 0, none⟩).run Tryd.prog w6 = .ok (.agg #[.int .u64 (limb k 0 : Nat), .int .u64 (limb k 1 : Nat), .int .u64 (limb k 2 : Nat), .int .u64 (limb k 3 : Nat)]) w6) := H6.out.2.1.load Tryd.underlying24 rfl (by kernel_rfl)
  have L2 : Hid ((loadVar 24 ⟨C, 0, none⟩).run Tryd.prog w6 = .ok (.agg #[.int .u64 (limb p 0 : Nat), .int .u64 (limb p 1 : Nat), .int .u64 (limb p 2 : Nat), .int .u64 (limb p 3 : Nat)]) w6) := H6.out.2.2.2.2.2.2.1.load Tryd.underlying24 rfl (by kernel_rfl)
  go_wp2_with (first | ((with_reducible refine load_to (b := N + 1) (k := 0) (x := 4) ?_ ?_ ?_ L1.out ?_); rfl; rfl; rfl) | ((with_reducible refine load_to (b := C) (k := 0) (x := 14) ?_ ?_ ?_ L2.out ?_); rfl; rfl; rfl))
  clear L1 L2
  refine (KA.out g _ H6.out.2.2.2.2.2.1).mono ?_
  rintro e w7 ⟨rfl, hb7⟩
  have H7 : Hid (Below w.heap.size w w7 ∧ Bl w7 (N + 1 + 1) [.int .u64 0, .int .u64 0, .int .u64 0, .int .u64 0, .int .u64 0, .int .u64 0, .int .u64 0, .int .u64 0, .bool false, .int .u64 0, .int .u64 0, .int .u64 0, .int .u64 0] 30 ∧ N = w.heap.size ∧ Bl w7 B (ptsV R) 28 ∧ Bl w7 C (numV p) 24 ∧ B < C ∧ N + 1 + 1 < C ∧ N + 1 + 1 < B) := ⟨below_call0 H6.out.1 hb7, H6.out.2.2.1.call hb7, H6.out.2.2.2.1, H6.out.2.2.2.2.1.call hb7, H6.out.2.2.2.2.2.2.1.call hb7, H6.out.2.2.2.2.2.2.2⟩
  clear hb7 H6 KA
  have HS : Hid ((storeVar 24 ⟨C, 0, none⟩ (.agg #[.int .u64 (limb z 0 : Nat), .int .u64 (limb z 1 : Nat), .int .u64 (limb z 2 : Nat), .int .u64 (limb z 3 : Nat)])).run Tryd.prog w7 = .ok () (w7.setRow C #[.int .u64 (limb z 0 : Nat), .int .u64 (limb z 1 : Nat), .int .u64 (limb z 2 : Nat), .int .u64 (limb z 3 : Nat)])) := H7.out.2.2.2.2.1.store (us := [.int .u64 (limb z 0 : Nat), .int .u64 (limb z 1 : Nat), .int .u64 (limb z 2 : Nat), .int .u64 (limb z 3 : Nat)]) (by kernel_rfl) rfl (by kernel_rfl)
  go_upto_region 9 with ((with_reducible refine store_to (b := C) (k := 0) (x := 14) (y := 60) ?_ ?_ ?_ ?_ HS.out ?_); rfl; rfl; rfl; rfl)
  obtain ⟨w8, hw8⟩ : ∃ w8, w8 = w7.setRow C #[.int .u64 (limb z 0 : Nat), .int .u64 (limb z 1 : Nat), .int .u64 (limb z 2 : Nat), .int .u64 (limb z 3 : Nat)] := ⟨_, rfl⟩
  have H8 : Hid (Below w.heap.size w w8 ∧ Bl w8 (N + 1 + 1) [.int .u64 0, .int .u64 0, .int .u64 0, .int .u64 0, .int .u64 0, .int .u64 0, .int .u64 0, .int .u64 0, .bool false, .int .u64 0, .int .u64 0, .int .u64 0, .int .u64 0] 30 ∧ N = w.heap.size ∧ Bl w8 B (ptsV R) 28 ∧ Bl w8 C (numV z) 24) := by
    have n1 := H7.out.2.2.1
    have n2 := H7.out.2.2.2.2.2
    rw [hw8]
    exact ⟨below_setRow (by omega) _ H7.out.1, (setRow_other w7 C (N + 1 + 1) _ (by omega)).trans H7.out.2.1, n1, (setRow_other w7 C B _ (by omega)).trans H7.out.2.2.2.1, H7.out.2.2.2.2.1.put (numV z)⟩
  rw [← hw8]
  clear hw8 HS H7
  have L1 : Hid ((loadVar 28 ⟨B, 0, none⟩).run Tryd.prog w8 = .ok (.agg #[.int .u64 (limb (pX R) 0 : Nat), .int .u64 (limb (pX R) 1 : Nat), .int .u64 (limb (pX R) 2 : Nat), .int .u64 (limb (pX R) 3 : Nat), .int .u64 (limb (pY R) 0 : Nat), .int .u64 (limb (pY R) 1 : Nat), .int .u64 (limb (pY R) 2 : Nat), .int .u64 (limb (pY R) 3 : Nat), .bool (pI R)]) w8) := H8.out.2.2.2.1.load Tryd.underlying28 rfl (by kernel_rfl)
  have L2 : Hid ((loadVar 24 ⟨C, 0, none⟩).run Tryd.prog w8 = .ok (.agg #[.int .u64 (limb z 0 : Nat), .int .u64 (limb z 1 : Nat), .int .u64 (limb z 2 : Nat), .int .u64 (limb z 3 : Nat)]) w8) := H8.out.2.2.2.2.load Tryd.underlying24 rfl (by kernel_rfl)
  have HS : Hid ((storeVar 30 ⟨N + 1 + 1, 0, none⟩ (.agg #[.int .u64 (limb (pX R) 0 : Nat), .int .u64 (limb (pX R) 1 : Nat), .int .u64 (limb (pX R) 2 : Nat), .int .u64 (limb (pX R) 3 : Nat), .int .u64 (limb (pY R) 0 : Nat), .int .u64 (limb (pY R) 1 : Nat), .int .u64 (limb (pY R) 2 : Nat), .int .u64 (limb (pY R) 3 : Nat), .bool (pI R), .int .u64 (limb z 0 : Nat), .int .u64 (limb z 1 : Nat), .int .u64 (limb z 2 : Nat), .int .u64 (limb z 3 : Nat)])).run Tryd.prog w8 = .ok () (w8.setRow (N + 1 + 1) #[.int .u64 (limb (pX R) 0 : Nat), .int .u64 (limb (pX R) 1 : Nat), .int .u64 (limb (pX R) 2 : Nat), .int .u64 (limb (pX R) 3 : Nat), .int .u64 (limb (pY R) 0 : Nat), .int .u64 (limb (pY R) 1 : Nat), .int .u64 (limb (pY R) 2 : Nat), .int .u64 (limb (pY R) 3 : Nat), .bool (pI R), .int .u64 (limb z 0 : Nat), .int .u64 (limb z 1 : Nat), .int .u64 (limb z 2 : Nat), .int .u64 (limb z 3 : Nat)])) := H8.out.2.1.store (us := [.int .u64 (limb (pX R) 0 : Nat), .int .u64 (limb (pX R) 1 : Nat), .int .u64 (limb (pX R) 2 : Nat), .int .u64 (limb (pX R) 3 : Nat), .int .u64 (limb (pY R) 0 : Nat), .int .u64 (limb (pY R) 1 : Nat), .int .u64 (limb (pY R) 2 : Nat), .int .u64 (limb (pY R) 3 : Nat), .bool (pI R), .int .u64 (limb z 0 : Nat), .int .u64 (limb z 1 : Nat), .int .u64 (limb z 2 : Nat), .int .u64 (limb z 3 : Nat)]) (by kernel_rfl) rfl (by kernel_rfl)
  go_wp2_with (first | ((with_reducible refine load_to (b := B) (k := 0) (x := 11) ?_ ?_ ?_ L1.out ?_); rfl; rfl; rfl) | ((with_reducible refine load_to (b := C) (k := 0) (x := 14) ?_ ?_ ?_ L2.out ?_); rfl; rfl; rfl) | ((with_reducible refine store_to (b := N + 1 + 1) (k := 0) (x := 6) (y := 64) ?_ ?_ ?_ ?_ HS.out ?_); rfl; rfl; rfl; rfl))
  have hld : (loadVar 30 ⟨N + 1 + 1, 0, none⟩).run Tryd.prog (w8.setRow (N + 1 + 1) #[.int .u64 (limb (pX R) 0 : Nat), .int .u64 (limb (pX R) 1 : Nat), .int .u64 (limb (pX R) 2 : Nat), .int .u64 (limb (pX R) 3 : Nat), .int .u64 (limb (pY R) 0 : Nat), .int .u64 (limb (pY R) 1 : Nat), .int .u64 (limb (pY R) 2 : Nat), .int .u64 (limb (pY R) 3 : Nat), .bool (pI R), .int .u64 (limb z 0 : Nat), .int .u64 (limb z 1 : Nat), .int .u64 (limb z 2 : Nat), .int .u64 (limb z 3 : Nat)]) = .ok (.agg #[.int .u64 (limb (pX R) 0 : Nat), .int .u64 (limb (pX R) 1 : Nat), .int .u64 (limb (pX R) 2 : Nat), .int .u64 (limb (pX R) 3 : Nat), .int .u64 (limb (pY R) 0 : Nat), .int .u64 (limb (pY R) 1 : Nat), .int .u64 (limb (pY R) 2 : Nat), .int .u64 (limb (pY R) 3 : Nat), .bool (pI R), .int .u64 (limb z 0 : Nat), .int .u64 (limb z 1 : Nat), .int .u64 (limb z 2 : Nat), .int .u64 (limb z 3 : Nat)]) (w8.setRow (N + 1 + 1) #[.int .u64 (limb (pX R) 0 : Nat), .int .u64 (limb (pX R) 1 : Nat), .int .u64 (limb (pX R) 2 : Nat), .int .u64 (limb (pX R) 3 : Nat), .int .u64 (limb (pY R) 0 : Nat), .int .u64 (limb (pY R) 1 : Nat), .int .u64 (limb (pY R) 2 : Nat), .int .u64 (limb (pY R) 3 : Nat), .bool (pI R), .int .u64 (limb z 0 : Nat), .int .u64 (limb z 1 : Nat), .int .u64 (limb z 2 : Nat), .int .u64 (limb z 3 : Nat)]) := (H8.out.2.1.put [.int .u64 (limb (pX R) 0 : Nat), .int .u64 (limb (pX R) 1 : Nat), .int .u64 (limb (pX R) 2 : Nat), .int .u64 (limb (pX R) 3 : Nat), .int .u64 (limb (pY R) 0 : Nat), .int .u64 (limb (pY R) 1 : Nat), .int .u64 (limb (pY R) 2 : Nat), .int .u64 (limb (pY R) 3 : Nat), .bool (pI R), .int .u64 (limb z 0 : Nat), .int .u64 (limb z 1 : Nat), .int .u64 (limb z 2 : Nat), .int .u64 (limb z 3 : Nat)]).load Tryd.underlying30 rfl (by kernel_rfl)
  refine bodyPost_ret (v := .tuple #[.agg #[.int .u64 (limb (pX R) 0 : Nat), .int .u64 (limb (pX R) 1 : Nat), .int .u64 (limb (pX R) 2 : Nat), .int .u64 (limb (pX R) 3 : Nat), .int .u64 (limb (pY R) 0 : Nat), .int .u64 (limb (pY R) 1 : Nat), .int .u64 (limb (pY R) 2 : Nat), .int .u64 (limb (pY R) 3 : Nat), .bool (pI R), .int .u64 (limb z 0 : Nat), .int .u64 (limb z 1 : Nat), .int .u64 (limb z 2 : Nat), .int .u64 (limb z 3 : Nat)], .int .i64 0]) ?_ rfl ⟨rfl, below_setRow (by have := H8.out.2.2.1; omega) _ H8.out.1⟩
  simp [results, Tryd.results5, asAddr, hld]
end Go.Proofs.YtchphekaonnfeaaDoor
