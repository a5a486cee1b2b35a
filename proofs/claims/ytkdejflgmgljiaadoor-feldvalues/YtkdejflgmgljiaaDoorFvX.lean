/- Several texts laid together. -/
import Derived.Test.YtkdejflgmgljiaaDoorFtX
import Derived.Test.YtkdejflgmgljiaaDoorRf3T
import Derived.Test.YtkdejflgmgljiaaDoorRf3I
import Derived.Test.YtkdejflgmgljiaaDoorHeldR
namespace Go.Proofs.YtkdejflgmgljiaaDoor
open Go Go.RowKit Go.Lib
theorem limb_GG : (limb GX 0 : Int) = 6481385041966929816 ∧ (limb GX 1 : Int) = 188021827762530521 ∧ (limb GX 2 : Int) = 6170039885052185351 ∧ (limb GX 3 : Int) = 8772561819708210092 ∧ (limb GY 0 : Int) = 11261198710074299576 ∧ (limb GY 1 : Int) = 18237243440184513561 ∧ (limb GY 2 : Int) = 6747795201694173352 ∧ (limb GY 3 : Int) = 5204712524664259685 := ⟨by kernel_rfl, by kernel_rfl, by kernel_rfl, by kernel_rfl, by kernel_rfl, by kernel_rfl, by kernel_rfl, by kernel_rfl⟩
set_option maxRecDepth 100000 in
set_option maxHeartbeats 4000000 in
theorem G3_lit (w : World) : Calls Tryd.prog 35 #[] w fun e w' => e = .returned (.agg #[.int .u64 6481385041966929816, .int .u64 188021827762530521, .int .u64 6170039885052185351, .int .u64 8772561819708210092, .int .u64 11261198710074299576, .int .u64 18237243440184513561, .int .u64 6747795201694173352, .int .u64 5204712524664259685, .bool false]) ∧ Below w.heap.size w w' := by
  obtain ⟨w0, hw0⟩ : ∃ wq, wq = (w.alloc (.cells #[.int .u64 0, .int .u64 0, .int .u64 0, .int .u64 0, .int .u64 0, .int .u64 0, .int .u64 0, .int .u64 0, .bool false] 36)) := ⟨_, rfl⟩
  have H0 : Hid (OwnC w0 (w.heap.size) [.int .u64 0, .int .u64 0, .int .u64 0, .int .u64 0, .int .u64 0, .int .u64 0, .int .u64 0, .int .u64 0, .bool false] ∧ Below w.heap.size w w0) := by
    rw [hw0]
    exact ⟨(OwnC.new' rfl), below_alloc0 (Below.refl _ _) _⟩
  go_enter Tryd.func35, Tryd.ntmps35
  go_upto_region 1 with fail
  rw [← hw0]
  clear hw0
  have f0 := H0.out.1.2.2 0 _ rfl
  have f1 := H0.out.1.2.2 1 _ rfl
  have f2 := H0.out.1.2.2 2 _ rfl
  have f3 := H0.out.1.2.2 3 _ rfl
  have f4 := H0.out.1.2.2 4 _ rfl
  have f5 := H0.out.1.2.2 5 _ rfl
  have f6 := H0.out.1.2.2 6 _ rfl
  have f7 := H0.out.1.2.2 7 _ rfl
  have f8 := H0.out.1.2.2 8 _ rfl
  have fz := H0.out.1.2.1
  go_wp2_with fail
  clear f0 f1 f2 f3 f4 f5 f6 f7 f8 fz
  obtain ⟨wz, hwz⟩ : ∃ wq, wq = (((((((((w0.setCell ⟨w.heap.size, 0, none⟩ (.int .u64 6481385041966929816)).setCell ⟨w.heap.size, 1, none⟩ (.int .u64 188021827762530521)).setCell ⟨w.heap.size, 2, none⟩ (.int .u64 6170039885052185351)).setCell ⟨w.heap.size, 3, none⟩ (.int .u64 8772561819708210092)).setCell ⟨w.heap.size, 4, none⟩ (.int .u64 11261198710074299576)).setCell ⟨w.heap.size, 5, none⟩ (.int .u64 18237243440184513561)).setCell ⟨w.heap.size, 6, none⟩ (.int .u64 6747795201694173352)).setCell ⟨w.heap.size, 7, none⟩ (.int .u64 5204712524664259685)).setCell ⟨w.heap.size, 8, none⟩ (.bool false)) := ⟨_, rfl⟩
  rw [← hwz]
  have HZ : OwnC wz w.heap.size [.int .u64 6481385041966929816, .int .u64 188021827762530521, .int .u64 6170039885052185351, .int .u64 8772561819708210092, .int .u64 11261198710074299576, .int .u64 18237243440184513561, .int .u64 6747795201694173352, .int .u64 5204712524664259685, .bool false] ∧ Below w.heap.size w wz := by
    rw [hwz]
    exact ⟨OwnC.put [.int .u64 6481385041966929816, .int .u64 188021827762530521, .int .u64 6170039885052185351, .int .u64 8772561819708210092, .int .u64 11261198710074299576, .int .u64 18237243440184513561, .int .u64 6747795201694173352, .int .u64 5204712524664259685, .bool false] H0.out.1 rfl, below_putL (Nat.le_refl _) [.int .u64 6481385041966929816, .int .u64 188021827762530521, .int .u64 6170039885052185351, .int .u64 8772561819708210092, .int .u64 11261198710074299576, .int .u64 18237243440184513561, .int .u64 6747795201694173352, .int .u64 5204712524664259685, .bool false] 0 _ H0.out.2⟩
  clear hwz
  obtain ⟨hO, HB⟩ := HZ
  have r0 := hO.2.2 0 _ rfl
  have r1 := hO.2.2 1 _ rfl
  have r2 := hO.2.2 2 _ rfl
  have r3 := hO.2.2 3 _ rfl
  have r4 := hO.2.2 4 _ rfl
  have r5 := hO.2.2 5 _ rfl
  have r6 := hO.2.2 6 _ rfl
  have r7 := hO.2.2 7 _ rfl
  have r8 := hO.2.2 8 _ rfl
  refine bodyPost_ret (v := .agg #[.int .u64 6481385041966929816, .int .u64 188021827762530521, .int .u64 6170039885052185351, .int .u64 8772561819708210092, .int .u64 11261198710074299576, .int .u64 18237243440184513561, .int .u64 6747795201694173352, .int .u64 5204712524664259685, .bool false]) ?_ rfl ⟨rfl, HB⟩
  simp [results, Tryd.results35, go_sem, r0, r1, r2, r3, r4, r5, r6, r7, r8]
theorem G3_A (w : World) : Calls Tryd.prog 35 #[] w fun e w' => e = .returned (.agg #[.int .u64 (limb (pX gG) 0 : Nat), .int .u64 (limb (pX gG) 1 : Nat), .int .u64 (limb (pX gG) 2 : Nat), .int .u64 (limb (pX gG) 3 : Nat), .int .u64 (limb (pY gG) 0 : Nat), .int .u64 (limb (pY gG) 1 : Nat), .int .u64 (limb (pY gG) 2 : Nat), .int .u64 (limb (pY gG) 3 : Nat), .bool (pI gG)]) ∧ Below w.heap.size w w' := by
  obtain ⟨e0, e1, e2, e3, e4, e5, e6, e7⟩ := limb_GG
  rw [gG_x, gG_y, gG_i, e0, e1, e2, e3, e4, e5, e6, e7]
  exact G3_lit w
set_option maxRecDepth 100000 in
set_option maxHeartbeats 4000000 in
theorem times7_A (k : Nat) (R : Pts) (hk : k < R256) (hR : R = gr.mul k gG) (w : World) :
    Calls Tryd.prog 19 #[.agg #[.int .u64 (limb k 0 : Nat), .int .u64 (limb k 1 : Nat), .int .u64 (limb k 2 : Nat), .int .u64 (limb k 3 : Nat)]] w fun e w' => e = .returned (.agg #[.int .u64 (limb (pX R) 0 : Nat), .int .u64 (limb (pX R) 1 : Nat), .int .u64 (limb (pX R) 2 : Nat), .int .u64 (limb (pX R) 3 : Nat), .int .u64 (limb (pY R) 0 : Nat), .int .u64 (limb (pY R) 1 : Nat), .int .u64 (limb (pY R) 2 : Nat), .int .u64 (limb (pY R) 3 : Nat), .bool (pI R)]) ∧ Below w.heap.size w w' := by
  have K1 : Hid (∀ w, Calls Tryd.prog 35 #[] w fun e w' => e = .returned (.agg #[.int .u64 (limb (pX gG) 0 : Nat), .int .u64 (limb (pX gG) 1 : Nat), .int .u64 (limb (pX gG) 2 : Nat), .int .u64 (limb (pX gG) 3 : Nat), .int .u64 (limb (pY gG) 0 : Nat), .int .u64 (limb (pY gG) 1 : Nat), .int .u64 (limb (pY gG) 2 : Nat), .int .u64 (limb (pY gG) 3 : Nat), .bool (pI gG)]) ∧ Below w.heap.size w w') := G3_A
  obtain ⟨X1, Y1, Z1, o1, q1⟩ := in3_A gG
  have K4 : Hid (∀ w, Calls Tryd.prog 24 #[.agg #[.int .u64 (limb (pX gG) 0 : Nat), .int .u64 (limb (pX gG) 1 : Nat), .int .u64 (limb (pX gG) 2 : Nat), .int .u64 (limb (pX gG) 3 : Nat), .int .u64 (limb (pY gG) 0 : Nat), .int .u64 (limb (pY gG) 1 : Nat), .int .u64 (limb (pY gG) 2 : Nat), .int .u64 (limb (pY gG) 3 : Nat), .bool (pI gG)]] w fun e w' => e = .returned (.agg #[.int .u64 (limb (X1) 0 : Nat), .int .u64 (limb (X1) 1 : Nat), .int .u64 (limb (X1) 2 : Nat), .int .u64 (limb (X1) 3 : Nat), .int .u64 (limb (Y1) 0 : Nat), .int .u64 (limb (Y1) 1 : Nat), .int .u64 (limb (Y1) 2 : Nat), .int .u64 (limb (Y1) 3 : Nat), .int .u64 (limb (Z1) 0 : Nat), .int .u64 (limb (Z1) 1 : Nat), .int .u64 (limb (Z1) 2 : Nat), .int .u64 (limb (Z1) 3 : Nat)]) ∧ Below w.heap.size w w') := q1
  obtain ⟨X2, Y2, Z2, o2, q2⟩ := times3_A k _ _ _ gG hk o1
  have K5 : Hid (∀ w, Calls Tryd.prog 34 #[.agg #[.int .u64 (limb k 0 : Nat), .int .u64 (limb k 1 : Nat), .int .u64 (limb k 2 : Nat), .int .u64 (limb k 3 : Nat)], .agg #[.int .u64 (limb (X1) 0 : Nat), .int .u64 (limb (X1) 1 : Nat), .int .u64 (limb (X1) 2 : Nat), .int .u64 (limb (X1) 3 : Nat), .int .u64 (limb (Y1) 0 : Nat), .int .u64 (limb (Y1) 1 : Nat), .int .u64 (limb (Y1) 2 : Nat), .int .u64 (limb (Y1) 3 : Nat), .int .u64 (limb (Z1) 0 : Nat), .int .u64 (limb (Z1) 1 : Nat), .int .u64 (limb (Z1) 2 : Nat), .int .u64 (limb (Z1) 3 : Nat)]] w fun e w' => e = .returned (.agg #[.int .u64 (limb (X2) 0 : Nat), .int .u64 (limb (X2) 1 : Nat), .int .u64 (limb (X2) 2 : Nat), .int .u64 (limb (X2) 3 : Nat), .int .u64 (limb (Y2) 0 : Nat), .int .u64 (limb (Y2) 1 : Nat), .int .u64 (limb (Y2) 2 : Nat), .int .u64 (limb (Y2) 3 : Nat), .int .u64 (limb (Z2) 0 : Nat), .int .u64 (limb (Z2) 1 : Nat), .int .u64 (limb (Z2) 2 : Nat), .int .u64 (limb (Z2) 3 : Nat)]) ∧ Below w.heap.size w w') := q2
  have K6 : Hid (∀ w, Calls Tryd.prog 26 #[.agg #[.int .u64 (limb (X2) 0 : Nat), .int .u64 (limb (X2) 1 : Nat), .int .u64 (limb (X2) 2 : Nat), .int .u64 (limb (X2) 3 : Nat), .int .u64 (limb (Y2) 0 : Nat), .int .u64 (limb (Y2) 1 : Nat), .int .u64 (limb (Y2) 2 : Nat), .int .u64 (limb (Y2) 3 : Nat), .int .u64 (limb (Z2) 0 : Nat), .int .u64 (limb (Z2) 1 : Nat), .int .u64 (limb (Z2) 2 : Nat), .int .u64 (limb (Z2) 3 : Nat)]] w fun e w' => e = .returned (.agg #[.int .u64 (limb (pX R) 0 : Nat), .int .u64 (limb (pX R) 1 : Nat), .int .u64 (limb (pX R) 2 : Nat), .int .u64 (limb (pX R) 3 : Nat), .int .u64 (limb (pY R) 0 : Nat), .int .u64 (limb (pY R) 1 : Nat), .int .u64 (limb (pY R) 2 : Nat), .int .u64 (limb (pY R) 3 : Nat), .bool (pI R)]) ∧ Below w.heap.size w w') := fun w => by rw [hR]; exact out3_A _ _ _ (gr.mul k gG) o2 w
  obtain ⟨w0, hw0⟩ : ∃ wq, wq = ((w.alloc (.cells #[.int .u64 (limb k 0 : Nat), .int .u64 (limb k 1 : Nat), .int .u64 (limb k 2 : Nat), .int .u64 (limb k 3 : Nat)] 34)).alloc (.cells #[.int .u64 0, .int .u64 0, .int .u64 0, .int .u64 0, .int .u64 0, .int .u64 0, .int .u64 0, .int .u64 0, .bool false] 36)) := ⟨_, rfl⟩
  have H0 : Hid (OwnC w0 (w.heap.size) (numL k)) ∧ Hid (OwnC w0 (w.heap.size + 1) zpL) ∧ Hid (Below w.heap.size w w0) := by
    rw [hw0]
    exact ⟨(OwnC.new' rfl).alloc, (OwnC.new' (by simp only [World.size_alloc])), below_alloc0 (below_alloc0 (Below.refl _ _) _) _⟩
  obtain ⟨P0_0, P1_0, W_0⟩ := H0
  clear o1 q1 o2 q2 hR hk
  go_enter Tryd.func19, Tryd.ntmps19
  go_upto_region 1 with fail
  rw [← hw0]
  clear hw0
  refine wp_region_J 5 0 [?v0r6, ?v1r6, ?v2r6, ?v3r6, ?v4r6] [some 3, some 4, some 5, some 6, some 7] ?Ar6 (by kernel_rfl) (by kernel_rfl) (by kernel_rfl) rfl ?hAr6 ?hopr6 ?hfinr6
  case hAr6 =>
    simp only [List.set_cons_zero, List.set_cons_succ, List.zip_cons_cons, List.zip_nil_right, fillD, Act.put, List.setIfInBounds_toArray]
    exact rfl
  case hopr6 =>
    refine ⟨?_, ?_, ?_, ?_, ?_, trivial⟩
    focus (intro _ bq wx hS; refine OpTo.yields rfl ?_; obtain ⟨_, _, _, _, _, _⟩ := (OwnC.call P0_0.out hS).num; clear hS; go_simp; try with_reducible rfl)
    focus (intro _ bq wx hS; refine OpTo.calls rfl ?_ ?_; rotate_left; intro K hK; go_simp; refine (K1.out _).mono ?_; rintro e w' ⟨rfl, hq⟩; exact hK w' hq; exact rfl)
    focus (intro _ bq wx hS; refine OpTo.calls rfl ?_ ?_; rotate_left; intro K hK; go_simp; refine (K4.out _).mono ?_; rintro e w' ⟨rfl, hq⟩; exact hK w' hq; exact rfl)
    focus (intro _ bq wx hS; refine OpTo.calls rfl ?_ ?_; rotate_left; intro K hK; go_simp; refine (K5.out _).mono ?_; rintro e w' ⟨rfl, hq⟩; exact hK w' hq; exact rfl)
    focus (intro _ bq wx hS; refine OpTo.calls rfl ?_ ?_; rotate_left; intro K hK; go_simp; refine (K6.out _).mono ?_; rintro e w' ⟨rfl, hq⟩; exact hK w' hq; exact rfl)
  case hfinr6 =>
    intro wx hS
    refine tail_at (o := ?ofr6_5) ?hir6_5 ?hwr6_5 ?_
    case hir6_5 => rw [List.getElem?_toArray]; exact rfl
    case hwr6_5 => exact rfl
    obtain ⟨gP2z, gP20, gP21, gP22, gP23, gP24, gP25, gP26, gP27, gP28, gP2f⟩ := (OwnC.call P1_0.out hS).zp
    go_simp
    clear gP2z gP20 gP21 gP22 gP23 gP24 gP25 gP26 gP27 gP28 gP2f
    refine tail_end ?_
    obtain ⟨wz, hwz⟩ : ∃ wq, wq = (((((((((wx.setCell ⟨(w.heap.size + 1), 0, none⟩ (.int .u64 (limb (pX R) 0 : Nat))).setCell ⟨(w.heap.size + 1), 1, none⟩ (.int .u64 (limb (pX R) 1 : Nat))).setCell ⟨(w.heap.size + 1), 2, none⟩ (.int .u64 (limb (pX R) 2 : Nat))).setCell ⟨(w.heap.size + 1), 3, none⟩ (.int .u64 (limb (pX R) 3 : Nat))).setCell ⟨(w.heap.size + 1), 4, none⟩ (.int .u64 (limb (pY R) 0 : Nat))).setCell ⟨(w.heap.size + 1), 5, none⟩ (.int .u64 (limb (pY R) 1 : Nat))).setCell ⟨(w.heap.size + 1), 6, none⟩ (.int .u64 (limb (pY R) 2 : Nat))).setCell ⟨(w.heap.size + 1), 7, none⟩ (.int .u64 (limb (pY R) 3 : Nat))).setCell ⟨(w.heap.size + 1), 8, none⟩ (.bool (pI R))) := ⟨_, rfl⟩
    rw [← hwz]
    have hwy : wz = putL (w.heap.size + 1) 0 (ptL (pX R) (pY R) (pI R)) wx := hwz
    have HZ : OwnC wz (w.heap.size + 1) (ptL (pX R) (pY R) (pI R)) ∧ Below w.heap.size w wz := by
      rw [hwy]
      exact ⟨OwnC.put (ptL (pX R) (pY R) (pI R)) (OwnC.call P1_0.out hS) rfl, below_putL (Nat.le_succ_of_le (Nat.le_refl _)) (ptL (pX R) (pY R) (pI R)) 0 _ (below_call0 W_0.out hS)⟩
    clear hwz hwy
    obtain ⟨hO, HB⟩ := HZ
    obtain ⟨rz, r0, r1, r2, r3, r4, r5, r6, r7, r8, rf⟩ := hO.pt
    rename_i Kz hKz
    refine hKz _ _ ?_
    refine wp_ret ?_
    refine bodyPost_ret (v := .agg #[.int .u64 (limb (pX R) 0 : Nat), .int .u64 (limb (pX R) 1 : Nat), .int .u64 (limb (pX R) 2 : Nat), .int .u64 (limb (pX R) 3 : Nat), .int .u64 (limb (pY R) 0 : Nat), .int .u64 (limb (pY R) 1 : Nat), .int .u64 (limb (pY R) 2 : Nat), .int .u64 (limb (pY R) 3 : Nat), .bool (pI R)]) ?_ rfl ⟨rfl, HB⟩
    simp [results, Tryd.results19, go_sem, r0, r1, r2, r3, r4, r5, r6, r7, r8]
end Go.Proofs.YtkdejflgmgljiaaDoor

namespace Go.Proofs.YtkdejflgmgljiaaDoor
open Go Go.RowKit Go.Lib
theorem isCount_no (n : Nat) (h : ¬ (1 ≤ n ∧ n ≤ 10)) (w : World) : Calls Tryd.prog 20 #[.int .i64 (n : Nat)] w fun e w' => e = .returned (.bool false) ∧ w' = w := by
  by_cases h0 : 1 ≤ n
  · have h1 : (1 : Int) ≤ (n : Int) := by omega
    have h2 : ¬ ((n : Int) ≤ 10) := by omega
    clear h h0
    go_enter Tryd.func20, Tryd.ntmps20
    go_wp2_with fail
    go_ret
    exact ⟨rfl, rfl⟩
  · have h1 : ¬ ((1 : Int) ≤ (n : Int)) := by omega
    clear h h0
    go_enter Tryd.func20, Tryd.ntmps20
    go_wp2_with fail
    go_ret
    exact ⟨rfl, rfl⟩
/-- Are all of them points? -/
def allP (zs : List (Nat × Nat × Bool)) : Bool := zs.all fun z => ptOk z.1 z.2.1 z.2.2
theorem allP_ok : ∀ {zs : List (Nat × Nat × Bool)}, allP zs = true → ∃ cs : List Pts, zs = cs.map ptT
  | [], _ => ⟨[], rfl⟩
  | z :: r, h => by
    unfold allP at h
    rw [List.all_cons, Bool.and_eq_true] at h
    obtain ⟨cs, hc⟩ := allP_ok (zs := r) h.2
    have h0 : smF [(0, z)] = 0 := by
      unfold smF
      rw [if_pos (of_decide_eq_true (by kernel_rfl)), if_pos h.1]
      rfl
    obtain ⟨m, hm, -⟩ := smF_ok h0
    match m, hm with
    | [], hm => simp at hm
    | y :: m', hm =>
      rw [List.map_cons, List.cons.injEq, Prod.mk.injEq] at hm
      exact ⟨y.2 :: cs, by rw [List.map_cons, ← hm.1.2, ← hc]⟩
theorem smF_30 : ∀ (ks : List Nat) (zs : List (Nat × Nat × Bool)), (∀ k ∈ ks, k < QQ) → ks.length = zs.length → allP zs = false → smF (List.zip ks zs) = 30
  | [], [], _, _, h => by cases h
  | [], _ :: _, _, h, _ => by simp at h
  | _ :: _, [], _, h, _ => by simp at h
  | k :: ks, z :: zs, hk, hl, h => by
    rw [List.zip_cons_cons]
    unfold smF
    rw [if_pos (hk k List.mem_cons_self)]
    by_cases c : ptOk z.1 z.2.1 z.2.2 = true
    · rw [if_pos c]
      refine smF_30 ks zs (fun j hj => hk j (List.mem_cons_of_mem k hj)) (by simpa using hl) ?_
      unfold allP at h
      rw [List.all_cons, c, Bool.true_and] at h
      exact h
    · rw [if_neg c]
set_option maxRecDepth 100000 in
set_option maxHeartbeats 4000000 in
theorem fval_a1 (n : Nat) (x : Int) (b : Option Addr) (kc : Nat) (h : ¬ (1 ≤ n ∧ n ≤ 10)) (w : World) :
    Calls Tryd.prog 9 #[.slice b n kc, .int .i64 x] w fun e w' => e = .returned (.tuple #[.agg #[.int .u64 0, .int .u64 0, .int .u64 0, .int .u64 0, .int .u64 0, .int .u64 0, .int .u64 0, .int .u64 0, .bool false], .int .i64 1]) ∧ Below w.heap.size w w' := by
  have KI : Hid _ := isCount_no n h
  obtain ⟨W2, hW2⟩ : ∃ W2, W2 = w.alloc (.cells #[.int .u64 0, .int .u64 0, .int .u64 0, .int .u64 0, .int .u64 0, .int .u64 0, .int .u64 0, .int .u64 0, .bool false] 36) := ⟨_, rfl⟩
  have H2 : Hid (Below w.heap.size w W2 ∧ Bl W2 w.heap.size [.int .u64 0, .int .u64 0, .int .u64 0, .int .u64 0, .int .u64 0, .int .u64 0, .int .u64 0, .int .u64 0, .bool false] 36) := by
    rw [hW2]
    exact ⟨below_alloc0 (Below.refl _ _) _, Bl.new w [.int .u64 0, .int .u64 0, .int .u64 0, .int .u64 0, .int .u64 0, .int .u64 0, .int .u64 0, .int .u64 0, .bool false] _⟩
  have HW : Hid (W2 = w.alloc (.cells #[.int .u64 0, .int .u64 0, .int .u64 0, .int .u64 0, .int .u64 0, .int .u64 0, .int .u64 0, .int .u64 0, .bool false] 36)) := hW2
  clear hW2 h 
  go_enter Tryd.func9, Tryd.ntmps9
  go_upto_region 1 with fail
  rw [← HW.out]
  clear HW
  go_wp2_with fail
  refine (KI.out _).mono ?_
  rintro e w1 ⟨rfl, h1⟩
  obtain rfl : W2 = w1 := h1.symm
  go_upto_region 2 with fail
  have HS : Hid ((storeVar 36 ⟨w.heap.size, 0, none⟩ (.agg #[.int .u64 0, .int .u64 0, .int .u64 0, .int .u64 0, .int .u64 0, .int .u64 0, .int .u64 0, .int .u64 0, .bool false])).run Tryd.prog W2 = .ok () (W2.setRow w.heap.size #[.int .u64 0, .int .u64 0, .int .u64 0, .int .u64 0, .int .u64 0, .int .u64 0, .int .u64 0, .int .u64 0, .bool false])) := H2.out.2.store (us := [.int .u64 0, .int .u64 0, .int .u64 0, .int .u64 0, .int .u64 0, .int .u64 0, .int .u64 0, .int .u64 0, .bool false]) (by kernel_rfl) rfl (by kernel_rfl)
  go_wp2_with ((with_reducible refine store_to (b := w.heap.size) (k := 0) (x := 4) (y := 18) ?_ ?_ ?_ ?_ HS.out ?_); rfl; rfl; rfl; rfl)
  have hld : (loadVar 36 ⟨w.heap.size, 0, none⟩).run Tryd.prog (W2.setRow w.heap.size #[.int .u64 0, .int .u64 0, .int .u64 0, .int .u64 0, .int .u64 0, .int .u64 0, .int .u64 0, .int .u64 0, .bool false]) = .ok (.agg #[.int .u64 0, .int .u64 0, .int .u64 0, .int .u64 0, .int .u64 0, .int .u64 0, .int .u64 0, .int .u64 0, .bool false]) (W2.setRow w.heap.size #[.int .u64 0, .int .u64 0, .int .u64 0, .int .u64 0, .int .u64 0, .int .u64 0, .int .u64 0, .int .u64 0, .bool false]) := (H2.out.2.put [.int .u64 0, .int .u64 0, .int .u64 0, .int .u64 0, .int .u64 0, .int .u64 0, .int .u64 0, .int .u64 0, .bool false]).load Tryd.underlying36 rfl (by kernel_rfl)
  refine bodyPost_ret (v := .tuple #[.agg #[.int .u64 0, .int .u64 0, .int .u64 0, .int .u64 0, .int .u64 0, .int .u64 0, .int .u64 0, .int .u64 0, .bool false], .int .i64 1]) ?_ rfl ⟨rfl, below_setRow (Nat.le_refl _) _ H2.out.1⟩
  simp [results, Tryd.results9, asAddr, hld]
set_option maxRecDepth 100000 in
set_option maxHeartbeats 4000000 in
theorem fval_a2 (n : Nat) (x : Int) (b : Option Addr) (kc : Nat) (h : 1 ≤ n ∧ n ≤ 10) (h0 : x < 0) (w : World) :
    Calls Tryd.prog 9 #[.slice b n kc, .int .i64 x] w fun e w' => e = .returned (.tuple #[.agg #[.int .u64 0, .int .u64 0, .int .u64 0, .int .u64 0, .int .u64 0, .int .u64 0, .int .u64 0, .int .u64 0, .bool false], .int .i64 1]) ∧ Below w.heap.size w w' := by
  have KI : Hid _ := isCount_ok n h
  have d1 : decide (x < 0) = true := decide_eq_true h0
  obtain ⟨W2, hW2⟩ : ∃ W2, W2 = w.alloc (.cells #[.int .u64 0, .int .u64 0, .int .u64 0, .int .u64 0, .int .u64 0, .int .u64 0, .int .u64 0, .int .u64 0, .bool false] 36) := ⟨_, rfl⟩
  have H2 : Hid (Below w.heap.size w W2 ∧ Bl W2 w.heap.size [.int .u64 0, .int .u64 0, .int .u64 0, .int .u64 0, .int .u64 0, .int .u64 0, .int .u64 0, .int .u64 0, .bool false] 36) := by
    rw [hW2]
    exact ⟨below_alloc0 (Below.refl _ _) _, Bl.new w [.int .u64 0, .int .u64 0, .int .u64 0, .int .u64 0, .int .u64 0, .int .u64 0, .int .u64 0, .int .u64 0, .bool false] _⟩
  have HW : Hid (W2 = w.alloc (.cells #[.int .u64 0, .int .u64 0, .int .u64 0, .int .u64 0, .int .u64 0, .int .u64 0, .int .u64 0, .int .u64 0, .bool false] 36)) := hW2
  clear hW2 h 
  go_enter Tryd.func9, Tryd.ntmps9
  go_upto_region 1 with fail
  rw [← HW.out]
  clear HW
  go_wp2_with fail
  refine (KI.out _).mono ?_
  rintro e w1 ⟨rfl, h1⟩
  obtain rfl : W2 = w1 := h1.symm
  go_upto_region 2 with fail
  have HS : Hid ((storeVar 36 ⟨w.heap.size, 0, none⟩ (.agg #[.int .u64 0, .int .u64 0, .int .u64 0, .int .u64 0, .int .u64 0, .int .u64 0, .int .u64 0, .int .u64 0, .bool false])).run Tryd.prog W2 = .ok () (W2.setRow w.heap.size #[.int .u64 0, .int .u64 0, .int .u64 0, .int .u64 0, .int .u64 0, .int .u64 0, .int .u64 0, .int .u64 0, .bool false])) := H2.out.2.store (us := [.int .u64 0, .int .u64 0, .int .u64 0, .int .u64 0, .int .u64 0, .int .u64 0, .int .u64 0, .int .u64 0, .bool false]) (by kernel_rfl) rfl (by kernel_rfl)
  go_wp2_with ((with_reducible refine store_to (b := w.heap.size) (k := 0) (x := 4) (y := 18) ?_ ?_ ?_ ?_ HS.out ?_); rfl; rfl; rfl; rfl)
  have hld : (loadVar 36 ⟨w.heap.size, 0, none⟩).run Tryd.prog (W2.setRow w.heap.size #[.int .u64 0, .int .u64 0, .int .u64 0, .int .u64 0, .int .u64 0, .int .u64 0, .int .u64 0, .int .u64 0, .bool false]) = .ok (.agg #[.int .u64 0, .int .u64 0, .int .u64 0, .int .u64 0, .int .u64 0, .int .u64 0, .int .u64 0, .int .u64 0, .bool false]) (W2.setRow w.heap.size #[.int .u64 0, .int .u64 0, .int .u64 0, .int .u64 0, .int .u64 0, .int .u64 0, .int .u64 0, .int .u64 0, .bool false]) := (H2.out.2.put [.int .u64 0, .int .u64 0, .int .u64 0, .int .u64 0, .int .u64 0, .int .u64 0, .int .u64 0, .int .u64 0, .bool false]).load Tryd.underlying36 rfl (by kernel_rfl)
  refine bodyPost_ret (v := .tuple #[.agg #[.int .u64 0, .int .u64 0, .int .u64 0, .int .u64 0, .int .u64 0, .int .u64 0, .int .u64 0, .int .u64 0, .bool false], .int .i64 1]) ?_ rfl ⟨rfl, below_setRow (Nat.le_refl _) _ H2.out.1⟩
  simp [results, Tryd.results9, asAddr, hld]
set_option maxRecDepth 100000 in
set_option maxHeartbeats 4000000 in
theorem fval_a3 (n : Nat) (x : Int) (b : Option Addr) (kc : Nat) (h : 1 ≤ n ∧ n ≤ 10) (h0 : ¬ x < 0) (h1 : 10 < x) (w : World) :
    Calls Tryd.prog 9 #[.slice b n kc, .int .i64 x] w fun e w' => e = .returned (.tuple #[.agg #[.int .u64 0, .int .u64 0, .int .u64 0, .int .u64 0, .int .u64 0, .int .u64 0, .int .u64 0, .int .u64 0, .bool false], .int .i64 1]) ∧ Below w.heap.size w w' := by
  have KI : Hid _ := isCount_ok n h
  have d1 : decide (x < 0) = false := decide_eq_false h0
  have d2 : decide (10 < x) = true := decide_eq_true h1
  obtain ⟨W2, hW2⟩ : ∃ W2, W2 = w.alloc (.cells #[.int .u64 0, .int .u64 0, .int .u64 0, .int .u64 0, .int .u64 0, .int .u64 0, .int .u64 0, .int .u64 0, .bool false] 36) := ⟨_, rfl⟩
  have H2 : Hid (Below w.heap.size w W2 ∧ Bl W2 w.heap.size [.int .u64 0, .int .u64 0, .int .u64 0, .int .u64 0, .int .u64 0, .int .u64 0, .int .u64 0, .int .u64 0, .bool false] 36) := by
    rw [hW2]
    exact ⟨below_alloc0 (Below.refl _ _) _, Bl.new w [.int .u64 0, .int .u64 0, .int .u64 0, .int .u64 0, .int .u64 0, .int .u64 0, .int .u64 0, .int .u64 0, .bool false] _⟩
  have HW : Hid (W2 = w.alloc (.cells #[.int .u64 0, .int .u64 0, .int .u64 0, .int .u64 0, .int .u64 0, .int .u64 0, .int .u64 0, .int .u64 0, .bool false] 36)) := hW2
  clear hW2 h 
  go_enter Tryd.func9, Tryd.ntmps9
  go_upto_region 1 with fail
  rw [← HW.out]
  clear HW
  go_wp2_with fail
  refine (KI.out _).mono ?_
  rintro e w1 ⟨rfl, h1⟩
  obtain rfl : W2 = w1 := h1.symm
  go_upto_region 2 with fail
  have HS : Hid ((storeVar 36 ⟨w.heap.size, 0, none⟩ (.agg #[.int .u64 0, .int .u64 0, .int .u64 0, .int .u64 0, .int .u64 0, .int .u64 0, .int .u64 0, .int .u64 0, .bool false])).run Tryd.prog W2 = .ok () (W2.setRow w.heap.size #[.int .u64 0, .int .u64 0, .int .u64 0, .int .u64 0, .int .u64 0, .int .u64 0, .int .u64 0, .int .u64 0, .bool false])) := H2.out.2.store (us := [.int .u64 0, .int .u64 0, .int .u64 0, .int .u64 0, .int .u64 0, .int .u64 0, .int .u64 0, .int .u64 0, .bool false]) (by kernel_rfl) rfl (by kernel_rfl)
  go_wp2_with ((with_reducible refine store_to (b := w.heap.size) (k := 0) (x := 4) (y := 18) ?_ ?_ ?_ ?_ HS.out ?_); rfl; rfl; rfl; rfl)
  have hld : (loadVar 36 ⟨w.heap.size, 0, none⟩).run Tryd.prog (W2.setRow w.heap.size #[.int .u64 0, .int .u64 0, .int .u64 0, .int .u64 0, .int .u64 0, .int .u64 0, .int .u64 0, .int .u64 0, .bool false]) = .ok (.agg #[.int .u64 0, .int .u64 0, .int .u64 0, .int .u64 0, .int .u64 0, .int .u64 0, .int .u64 0, .int .u64 0, .bool false]) (W2.setRow w.heap.size #[.int .u64 0, .int .u64 0, .int .u64 0, .int .u64 0, .int .u64 0, .int .u64 0, .int .u64 0, .int .u64 0, .bool false]) := (H2.out.2.put [.int .u64 0, .int .u64 0, .int .u64 0, .int .u64 0, .int .u64 0, .int .u64 0, .int .u64 0, .int .u64 0, .bool false]).load Tryd.underlying36 rfl (by kernel_rfl)
  refine bodyPost_ret (v := .tuple #[.agg #[.int .u64 0, .int .u64 0, .int .u64 0, .int .u64 0, .int .u64 0, .int .u64 0, .int .u64 0, .int .u64 0, .bool false], .int .i64 1]) ?_ rfl ⟨rfl, below_setRow (Nat.le_refl _) _ H2.out.1⟩
  simp [results, Tryd.results9, asAddr, hld]
end Go.Proofs.YtkdejflgmgljiaaDoor

namespace Go.Proofs.YtkdejflgmgljiaaDoor
open Go Go.RowKit Go.Lib
set_option maxRecDepth 100000 in
set_option maxHeartbeats 4000000 in
theorem fval_cu (zs : List (Nat × Nat × Bool)) (n x : Nat) (b : Option Addr) (kc : Nat) (hn : n = zs.length) (h1 : 1 ≤ n ∧ n ≤ 10) (hx : x ≤ 10) (hV : allP zs = false) (hZ : ∀ z ∈ zs, z.1 < R256 ∧ z.2.1 < R256) (w : World) (hG : GA w) (hP : PntsAt w b zs) :
    Calls Tryd.prog 9 #[.slice b n kc, .int .i64 (x : Nat)] w fun e w' => e = .returned (.tuple #[.agg #[.int .u64 0, .int .u64 0, .int .u64 0, .int .u64 0, .int .u64 0, .int .u64 0, .int .u64 0, .int .u64 0, .bool false], .int .i64 30]) ∧ Below w.heap.size w w' := by
  have KI : Hid _ := isCount_ok n h1
  have KP : Hid _ := powers_ok x n hx h1
  have KS : Hid (∀ (k : Nat) (w : World), GA w → NumsAt w (some ⟨k, 0, none⟩) ((List.range n).map fun i => x ^ i % QQ) → PntsAt w b zs → Calls Tryd.prog 21 #[.slice (some ⟨k, 0, none⟩) n n, .slice b n kc] w fun e w' => e = .returned (.tuple #[.agg #[.int .u64 0, .int .u64 0, .int .u64 0, .int .u64 0, .int .u64 0, .int .u64 0, .int .u64 0, .int .u64 0, .bool false], .int .i64 30]) ∧ Below w.heap.size w w') := fun k w h2 h3 h4 => by
    have hl1 : ((List.range n).map fun i => x ^ i % QQ).length = zs.length := by rw [List.length_map, List.length_range, hn]
    have hq : ∀ k ∈ ((List.range n).map fun i => x ^ i % QQ), k < QQ := fun k hk => by
      rw [List.mem_map] at hk
      obtain ⟨i, _, hi⟩ := hk
      rw [← hi]
      exact pow_lt x i
    exact Sum_err n (some ⟨k, 0, none⟩) b n kc (List.zip ((List.range n).map fun i => x ^ i % QQ) zs) 30 (by rw [List.length_zip, hl1, Nat.min_self, hn]) (by omega) (fun z hz => by
      have h1 := (List.of_mem_zip hz).1
      have h2 := (List.of_mem_zip hz).2
      exact ⟨Nat.lt_trans (hq _ h1) FM_Q.2.1, hZ _ h2⟩) (smF_30 _ _ hq hl1 hV) (by decide) w h2.1 h2.2.1 (by rw [List.map_fst_zip (by omega)]; exact h3) (by rw [List.map_snd_zip (by omega)]; exact h4)
  have hx1 : (0 : Int) ≤ (x : Int) := by omega
  have hx2 : (x : Int) ≤ 10 := by omega
  have hx3 : ¬ ((x : Int) < 0) := by omega
  have hx4 : ¬ ((10 : Int) < (x : Int)) := by omega
  obtain ⟨W2, hW2⟩ : ∃ W2, W2 = w.alloc (.cells #[.int .u64 0, .int .u64 0, .int .u64 0, .int .u64 0, .int .u64 0, .int .u64 0, .int .u64 0, .int .u64 0, .bool false] 36) := ⟨_, rfl⟩
  have H2 : Hid (Below w.heap.size w W2 ∧ Bl W2 w.heap.size [.int .u64 0, .int .u64 0, .int .u64 0, .int .u64 0, .int .u64 0, .int .u64 0, .int .u64 0, .int .u64 0, .bool false] 36 ∧ GA W2 ∧ PntsAt W2 b zs) := by
    have hb : Below w.heap.size w W2 := by
      rw [hW2]
      exact below_alloc0 (Below.refl _ _) _
    refine ⟨hb, ?_, hG.call hb, hP.call hb⟩
    rw [hW2]
    exact Bl.new w [.int .u64 0, .int .u64 0, .int .u64 0, .int .u64 0, .int .u64 0, .int .u64 0, .int .u64 0, .int .u64 0, .bool false] _
  have HW : Hid (W2 = w.alloc (.cells #[.int .u64 0, .int .u64 0, .int .u64 0, .int .u64 0, .int .u64 0, .int .u64 0, .int .u64 0, .int .u64 0, .bool false] 36)) := hW2
  clear hn h1 hx hV hZ hG hP hW2
  go_enter Tryd.func9, Tryd.ntmps9
  go_upto_region 1 with fail
  rw [← HW.out]
  clear HW
  go_wp2_with fail
  refine (KI.out _).mono ?_
  rintro e w1 ⟨rfl, h1⟩
  obtain rfl : W2 = w1 := h1.symm
  go_wp2_with fail
  refine (KP.out _ H2.out.2.2.1.2.1).mono ?_
  rintro e w3 ⟨k, rfl, hN3, hb3⟩
  have H3 : Hid (Below w.heap.size w w3 ∧ Bl w3 w.heap.size [.int .u64 0, .int .u64 0, .int .u64 0, .int .u64 0, .int .u64 0, .int .u64 0, .int .u64 0, .int .u64 0, .bool false] 36 ∧ GA w3 ∧ PntsAt w3 b zs ∧ NumsAt w3 (some ⟨k, 0, none⟩) ((List.range n).map fun i => x ^ i % QQ)) := ⟨below_call0 H2.out.1 hb3, H2.out.2.1.call hb3, H2.out.2.2.1.call hb3, H2.out.2.2.2.call hb3, hN3⟩
  clear hN3 hb3 H2 KI KP
  go_wp2_with fail
  refine (KS.out k _ H3.out.2.2.1 H3.out.2.2.2.2 H3.out.2.2.2.1).mono ?_
  rintro e w4 ⟨rfl, hb4⟩
  have H4 : Hid (Below w.heap.size w w4 ∧ Bl w4 w.heap.size [.int .u64 0, .int .u64 0, .int .u64 0, .int .u64 0, .int .u64 0, .int .u64 0, .int .u64 0, .int .u64 0, .bool false] 36) := ⟨below_call0 H3.out.1 hb4, H3.out.2.1.call hb4⟩
  clear hb4 H3 KS
  have HS : Hid ((storeVar 36 ⟨w.heap.size, 0, none⟩ (.agg #[.int .u64 0, .int .u64 0, .int .u64 0, .int .u64 0, .int .u64 0, .int .u64 0, .int .u64 0, .int .u64 0, .bool false])).run Tryd.prog w4 = .ok () (w4.setRow w.heap.size #[.int .u64 0, .int .u64 0, .int .u64 0, .int .u64 0, .int .u64 0, .int .u64 0, .int .u64 0, .int .u64 0, .bool false])) := H4.out.2.store (us := [.int .u64 0, .int .u64 0, .int .u64 0, .int .u64 0, .int .u64 0, .int .u64 0, .int .u64 0, .int .u64 0, .bool false]) (by kernel_rfl) rfl (by kernel_rfl)
  go_wp2_with ((with_reducible refine store_to (b := w.heap.size) (k := 0) (x := 4) (y := 25) ?_ ?_ ?_ ?_ HS.out ?_); rfl; rfl; rfl; rfl)
  have hld : (loadVar 36 ⟨w.heap.size, 0, none⟩).run Tryd.prog (w4.setRow w.heap.size #[.int .u64 0, .int .u64 0, .int .u64 0, .int .u64 0, .int .u64 0, .int .u64 0, .int .u64 0, .int .u64 0, .bool false]) = .ok (.agg #[.int .u64 0, .int .u64 0, .int .u64 0, .int .u64 0, .int .u64 0, .int .u64 0, .int .u64 0, .int .u64 0, .bool false]) (w4.setRow w.heap.size #[.int .u64 0, .int .u64 0, .int .u64 0, .int .u64 0, .int .u64 0, .int .u64 0, .int .u64 0, .int .u64 0, .bool false]) := (H4.out.2.put [.int .u64 0, .int .u64 0, .int .u64 0, .int .u64 0, .int .u64 0, .int .u64 0, .int .u64 0, .int .u64 0, .bool false]).load Tryd.underlying36 rfl (by kernel_rfl)
  refine bodyPost_ret (v := .tuple #[.agg #[.int .u64 0, .int .u64 0, .int .u64 0, .int .u64 0, .int .u64 0, .int .u64 0, .int .u64 0, .int .u64 0, .bool false], .int .i64 30]) ?_ rfl ⟨rfl, below_setRow (Nat.le_refl _) _ H4.out.1⟩
  simp [results, Tryd.results9, asAddr, hld]
set_option maxRecDepth 100000 in
set_option maxHeartbeats 4000000 in
theorem fchk_err (zs : List (Nat × Nat × Bool)) (n : Nat) (x : Int) (s : Nat) (b : Option Addr) (kc : Nat) (E : Int) (h0 : E ≠ 0) (hV : ∀ w, GA w → PntsAt w b zs → Calls Tryd.prog 9 #[.slice b n kc, .int .i64 x] w fun e w' => e = .returned (.tuple #[.agg #[.int .u64 0, .int .u64 0, .int .u64 0, .int .u64 0, .int .u64 0, .int .u64 0, .int .u64 0, .int .u64 0, .bool false], .int .i64 E]) ∧ Below w.heap.size w w') (w : World) (hG : GA w) (hP : PntsAt w b zs) :
    Calls Tryd.prog 11 #[.slice b n kc, .int .i64 x, .agg #[.int .u64 (limb s 0 : Nat), .int .u64 (limb s 1 : Nat), .int .u64 (limb s 2 : Nat), .int .u64 (limb s 3 : Nat)]] w fun e w' => e = .returned (.int .i64 E) ∧ Below w.heap.size w w' := by
  have KV : Hid _ := hV
  have e1 : (E != 0) = true := by simpa using h0
  have e2 : (E == 0) = false := by simpa using h0
  have e3 : decide (E = 0) = false := decide_eq_false h0
  obtain ⟨W1, hW1⟩ : ∃ W1, W1 = w.alloc (.cells #[.int .u64 (limb s 0 : Nat), .int .u64 (limb s 1 : Nat), .int .u64 (limb s 2 : Nat), .int .u64 (limb s 3 : Nat)] 34) := ⟨_, rfl⟩
  have H1 : Hid (Below w.heap.size w W1 ∧ GA W1 ∧ PntsAt W1 b zs) := by
    have hb : Below w.heap.size w W1 := by
      rw [hW1]
      exact below_alloc0 (Below.refl _ _) _
    exact ⟨hb, hG.call hb, hP.call hb⟩
  have HW : Hid (W1 = w.alloc (.cells #[.int .u64 (limb s 0 : Nat), .int .u64 (limb s 1 : Nat), .int .u64 (limb s 2 : Nat), .int .u64 (limb s 3 : Nat)] 34)) := hW1
  clear hW1 hG hP hV
  go_enter Tryd.func11, Tryd.ntmps11
  go_upto_region 1 with fail
  rw [← HW.out]
  clear HW
  go_wp2_with fail
  refine (KV.out _ H1.out.2.1 H1.out.2.2).mono ?_
  rintro e w2 ⟨rfl, hb2⟩
  have H2 : Hid (Below w.heap.size w w2) := below_call0 H1.out.1 hb2
  clear hb2 H1 KV
  go_wp2_with fail
  go_ret
  exact ⟨rfl, below_alloc0 H2.out _⟩
set_option maxRecDepth 100000 in
set_option maxHeartbeats 4000000 in
theorem fchk_sc (cs : List Pts) (n x s : Nat) (b : Option Addr) (kc : Nat) (V : Pts) (hn : n = cs.length) (h1 : 1 ≤ n ∧ n ≤ 10) (hx : x ≤ 10) (hsR : s < R256) (hs : ¬ s < QQ) (hV : V = vaP x cs) (w : World) (hG : GA w) (hP : PtsAt w b cs) :
    Calls Tryd.prog 11 #[.slice b n kc, .int .i64 (x : Nat), .agg #[.int .u64 (limb s 0 : Nat), .int .u64 (limb s 1 : Nat), .int .u64 (limb s 2 : Nat), .int .u64 (limb s 3 : Nat)]] w fun e w' => e = .returned (.int .i64 20) ∧ Below w.heap.size w w' := by
  have KV : Hid (∀ w, GA w → PtsAt w b cs → Calls Tryd.prog 9 #[.slice b n kc, .int .i64 (x : Nat)] w fun e w' => e = .returned (.tuple #[.agg #[.int .u64 (limb (pX V) 0 : Nat), .int .u64 (limb (pX V) 1 : Nat), .int .u64 (limb (pX V) 2 : Nat), .int .u64 (limb (pX V) 3 : Nat), .int .u64 (limb (pY V) 0 : Nat), .int .u64 (limb (pY V) 1 : Nat), .int .u64 (limb (pY V) 2 : Nat), .int .u64 (limb (pY V) 3 : Nat), .bool (pI V)], .int .i64 0]) ∧ Below w.heap.size w w') := fun w h2 h3 => fval_ok cs n x b kc V hn h1 hx hV w h2 h3
  have KG : Hid _ := G_A
  have KM : Hid (∀ w, GA w → Calls Tryd.prog 17 #[.agg #[.int .u64 (limb s 0 : Nat), .int .u64 (limb s 1 : Nat), .int .u64 (limb s 2 : Nat), .int .u64 (limb s 3 : Nat)], .agg #[.int .u64 (limb (pX gG) 0 : Nat), .int .u64 (limb (pX gG) 1 : Nat), .int .u64 (limb (pX gG) 2 : Nat), .int .u64 (limb (pX gG) 3 : Nat), .int .u64 (limb (pY gG) 0 : Nat), .int .u64 (limb (pY gG) 1 : Nat), .int .u64 (limb (pY gG) 2 : Nat), .int .u64 (limb (pY gG) 3 : Nat), .bool (pI gG)]] w fun e w' => e = .returned (.tuple #[.agg #[.int .u64 0, .int .u64 0, .int .u64 0, .int .u64 0, .int .u64 0, .int .u64 0, .int .u64 0, .int .u64 0, .bool false], .int .i64 20]) ∧ Below w.heap.size w w') := fun w h => by
    exact Mul_err s (pX gG) (pY gG) (pI gG) 20 hsR (Nat.lt_trans (pX_lt gG) (of_decide_eq_true (by kernel_rfl))) (Nat.lt_trans (pY_lt gG) (of_decide_eq_true (by kernel_rfl))) (by unfold smF; rw [if_neg hs]) (by decide) w h.1 h.2.1
  obtain ⟨W1, hW1⟩ : ∃ W1, W1 = w.alloc (.cells #[.int .u64 (limb s 0 : Nat), .int .u64 (limb s 1 : Nat), .int .u64 (limb s 2 : Nat), .int .u64 (limb s 3 : Nat)] 34) := ⟨_, rfl⟩
  have H1 : Hid (Below w.heap.size w W1 ∧ Bl W1 w.heap.size (numV s) 34 ∧ GA W1 ∧ PtsAt W1 b cs) := by
    have hb : Below w.heap.size w W1 := by
      rw [hW1]
      exact below_alloc0 (Below.refl _ _) _
    refine ⟨hb, ?_, hG.call hb, hP.call hb⟩
    rw [hW1]
    exact Bl.new w (numV s) _
  have HW : Hid (W1 = w.alloc (.cells #[.int .u64 (limb s 0 : Nat), .int .u64 (limb s 1 : Nat), .int .u64 (limb s 2 : Nat), .int .u64 (limb s 3 : Nat)] 34)) := hW1
  clear hn h1 hx hs hsR hV hG hP hW1
  go_enter Tryd.func11, Tryd.ntmps11
  go_upto_region 1 with fail
  rw [← HW.out]
  clear HW
  go_wp2_with fail
  refine (KV.out _ H1.out.2.2.1 H1.out.2.2.2).mono ?_
  rintro e w2 ⟨rfl, hb2⟩
  obtain ⟨A, hA⟩ : ∃ A, A = w2.heap.size := ⟨_, rfl⟩
  obtain ⟨W3, hW3⟩ : ∃ W3, W3 = w2.alloc (.cells #[.int .u64 (limb (pX V) 0 : Nat), .int .u64 (limb (pX V) 1 : Nat), .int .u64 (limb (pX V) 2 : Nat), .int .u64 (limb (pX V) 3 : Nat), .int .u64 (limb (pY V) 0 : Nat), .int .u64 (limb (pY V) 1 : Nat), .int .u64 (limb (pY V) 2 : Nat), .int .u64 (limb (pY V) 3 : Nat), .bool (pI V)] 36) := ⟨_, rfl⟩
  have H3 : Hid (Below w.heap.size w W3 ∧ Bl W3 w.heap.size (numV s) 34 ∧ GA W3 ∧ Bl W3 A (ptsV V) 36) := by
    have hb : Below W1.heap.size W1 W3 := by
      rw [hW3]
      exact below_alloc0 hb2 _
    refine ⟨below_call0 H1.out.1 hb, H1.out.2.1.call hb, H1.out.2.2.1.call hb, ?_⟩
    rw [hW3, hA]
    exact Bl.new w2 (ptsV V) _
  have HW : Hid (W3 = w2.alloc (.cells #[.int .u64 (limb (pX V) 0 : Nat), .int .u64 (limb (pX V) 1 : Nat), .int .u64 (limb (pX V) 2 : Nat), .int .u64 (limb (pX V) 3 : Nat), .int .u64 (limb (pY V) 0 : Nat), .int .u64 (limb (pY V) 1 : Nat), .int .u64 (limb (pY V) 2 : Nat), .int .u64 (limb (pY V) 3 : Nat), .bool (pI V)] 36) ∧ A = w2.heap.size) := ⟨hW3, hA⟩
  clear hW3 hA hb2 H1 KV
  go_upto_region 2 with fail
  rw [← HW.out.1, ← HW.out.2]
  clear HW
  go_upto_region 4 with fail
  refine wp_region_K 8 0 6 7 [.agg #[.int .u64 (limb s 0 : Nat), .int .u64 (limb s 1 : Nat), .int .u64 (limb s 2 : Nat), .int .u64 (limb s 3 : Nat)], ?v1r2, ?v2r2, ?v3r2, ?v4r2, ?v5r2, undef, undef] [some 20, some 21, some 22, some 19, some 23, some 24, some 9, none] (fun s w b => OwnC w b (cond s zpL zpL)) ?Ar2 ?oar2 ?osr2 (by kernel_rfl) (by kernel_rfl) (by kernel_rfl) rfl ?hAr2 (fun _ _ _ _ h hb => OwnC.call h hb) ?hopr2 ?hoar2 ?hosr2 (by decide) (by decide) ?hswr2 ?halr2 ?hstr2 ?hfinr2
  case hAr2 =>
    intro bq
    simp only [List.set_cons_zero, List.set_cons_succ, List.zip_cons_cons, List.zip_nil_right, fillD, Act.put, List.setIfInBounds_toArray]
    exact rfl
  case hopr2 =>
    refine ⟨?_, ?_, ?_, ?_, ?_, ?_, fun h => absurd rfl h, fun _ h => absurd rfl h, trivial⟩
    focus (intro _ _ bq wx hS; refine OpTo.yields rfl ?_; exact exec_loadF (b := w.heap.size) (x := 5) rfl rfl ((H3.out.2.1.call hS).load Tryd.underlying34 rfl (by kernel_rfl)))
    focus (intro _ _ bq wx hS; refine OpTo.calls rfl ?_ ?_; rotate_left; intro K hK; go_simp; refine (KG.out _ (H3.out.2.2.1.call hS).2.2.2).mono ?_; rintro e w' ⟨rfl, hq⟩; exact hK w' hq; exact rfl)
    focus (intro _ _ bq wx hS; refine OpTo.calls rfl ?_ ?_; rotate_left; intro K hK; go_simp; refine (KM.out _ (H3.out.2.2.1.call hS)).mono ?_; rintro e w' ⟨rfl, hq⟩; exact hK w' hq; exact rfl)
    iterate 3 focus (intro _ _ bq wx hS; refine OpTo.yields rfl ?_; clear hS; go_simp; try with_reducible rfl)
  case hoar2 =>
    rw [List.getElem?_toArray]
    exact rfl
  case halr2 =>
    intro bq wx hS
    refine OpTo.make (ob := ?obr2) (B := fun w b => OwnC w b zpL) hS rfl ?runr2 ?ownr2
    case runr2 =>
      go_simp
      try with_reducible rfl
    case ownr2 => exact OwnC.new' rfl
  case hosr2 =>
    rw [List.getElem?_toArray]
    exact rfl
  case hswr2 => kernel_rfl
  case hstr2 =>
    intro bq wx hS hB hle
    have hB' : OwnC wx bq zpL := hB
    refine OpTo.stores (w1 := putL bq 0 zpL wx) (R := fun w' => OwnC w' bq (cond true zpL zpL) ∧ Below W3.heap.size W3 w') rfl ?_ rfl ⟨OwnC.put zpL hB' rfl, below_putL hle zpL 0 _ hS⟩
    obtain ⟨gz, g0, g1, g2, g3, g4, g5, g6, g7, g8, gf⟩ := OwnC.zp hB'
    first | (left; go_simp; done) | (right; exact ⟨_, by go_simp; rfl⟩) | (left; go_simp; rfl)
  case hfinr2 =>
    intro bq wx hS hB hle
    refine tail_at (o := ?ofr2_8) ?hir2_8 ?hwr2_8 ?_
    case hir2_8 => rw [List.getElem?_toArray]; exact rfl
    case hwr2_8 => exact rfl
    go_simp
    refine tail_end ?_
    have HF : Hid (Below w.heap.size w wx) := below_call0 H3.out.1 hS
    clear hB hS hle H3 KG KM
    go_wp2_with fail
    go_ret
    exact ⟨rfl, HF.out⟩
end Go.Proofs.YtkdejflgmgljiaaDoor

namespace Go.Proofs.YtkdejflgmgljiaaDoor
open Go Go.RowKit Go.Lib
theorem PointB.load {w : World} {b o x y : Nat} {i : Bool} (h : PointB w b o x y i) : (loadVar 36 ⟨b, o, none⟩).run Tryd.prog w = .ok (.agg #[.int .u64 (limb x 0 : Nat), .int .u64 (limb x 1 : Nat), .int .u64 (limb x 2 : Nat), .int .u64 (limb x 3 : Nat), .int .u64 (limb y 0 : Nat), .int .u64 (limb y 1 : Nat), .int .u64 (limb y 2 : Nat), .int .u64 (limb y 3 : Nat), .bool i]) w :=
  run_loadVar_mid w b o 36 (ptL x y i) _ (fun j v hv => by
    match j, hv with
    | 0, hv => cases hv; exact h.x0
    | 1, hv => cases hv; exact h.x1
    | 2, hv => cases hv; exact h.x2
    | 3, hv => cases hv; exact h.x3
    | 4, hv => cases hv; exact h.y0
    | 5, hv => cases hv; exact h.y1
    | 6, hv => cases hv; exact h.y2
    | 7, hv => cases hv; exact h.y3
    | 8, hv => cases hv; exact h.i8
    | j + 9, hv => simp [ptL] at hv) Tryd.underlying36 rfl (by kernel_rfl)
set_option maxRecDepth 100000 in
set_option maxHeartbeats 4000000 in
theorem are7_any (zs : List (Nat × Nat × Bool)) (n : Nat) (a : Option Addr) (kc : Nat) (hn : n = zs.length) (h10 : n ≤ 10) (hZ : ∀ z ∈ zs, z.1 < R256 ∧ z.2.1 < R256) (w : World) (hP : PntsAt w a zs) :
    Calls Tryd.prog 23 #[.slice a n kc] w fun e w' => e = .returned (.bool (allP zs)) ∧ Below w.heap.size w w' := by
  obtain ⟨A, hA⟩ : ∃ A, A = allP zs := ⟨_, rfl⟩
  rw [← hA]
  have HN : Hid (PntsAt w a zs ∧ n = zs.length ∧ n ≤ 10 ∧ (∀ z ∈ zs, z.1 < R256 ∧ z.2.1 < R256) ∧ A = allP zs) := ⟨hP, hn, h10, hZ, hA⟩
  have n64 : (n : Int) ≤ 64 := by omega
  clear hn h10 hZ hA hP
  go_enter Tryd.func23, Tryd.ntmps23
  go_wp2_with fail
  rename_i Kr hKr
  have HKr : Hid _ := hKr
  clear hKr
  go_loopw [7] (fun iv wr => ∃ k : Nat, k ≤ n ∧ iv = .int .i64 (k : Nat) ∧ allP (zs.take k) = true ∧ Below w.heap.size w wr) (fun iv _ => n - (Go.RowKit.intOf iv).toNat)
  case atStart => exact ⟨0, Nat.zero_le _, rfl, rfl, Below.refl _ _⟩
  case round =>
    obtain ⟨k, hk, rfl, ht, hB⟩ := hrel
    rename World => wr
    have HC : Hid (allP (zs.take k) = true ∧ Below w.heap.size w wr ∧ k ≤ n) := ⟨ht, hB, hk⟩
    clear ht hB hk
    by_cases hlt : k < n
    · clear HKr
      have hlt' : (k : Int) < (n : Int) := Int.ofNat_lt.2 hlt
      have hkl : k < zs.length := by rw [← HN.out.2.1]; exact hlt
      obtain ⟨kb, ko, rfl, hNB⟩ := HN.out.1.get hkl
      obtain ⟨x, hx⟩ : ∃ x, x = (zs[k]'hkl).1 := ⟨_, rfl⟩
      obtain ⟨y, hy⟩ : ∃ y, y = (zs[k]'hkl).2.1 := ⟨_, rfl⟩
      obtain ⟨i, hi⟩ : ∃ i, i = (zs[k]'hkl).2.2 := ⟨_, rfl⟩
      rw [← hx, ← hy, ← hi] at hNB
      obtain ⟨B, hB⟩ : ∃ B, B = ptOk x y i := ⟨_, rfl⟩
      have K1 : Hid (∀ w, Calls Tryd.prog 44 #[.agg #[.int .u64 (limb x 0 : Nat), .int .u64 (limb x 1 : Nat), .int .u64 (limb x 2 : Nat), .int .u64 (limb x 3 : Nat), .int .u64 (limb y 0 : Nat), .int .u64 (limb y 1 : Nat), .int .u64 (limb y 2 : Nat), .int .u64 (limb y 3 : Nat), .bool i]] w fun e w' => e = .returned (.bool B) ∧ Below w.heap.size w w') := fun w => by
        rw [hB]
        have h := HN.out.2.2.2.1 _ (List.getElem_mem hkl)
        exact is3_any x y i (by rw [hx]; exact h.1) (by rw [hy]; exact h.2) w
      have LN : Hid ((loadVar 36 ⟨kb, ko + k * 9, none⟩).run Tryd.prog wr = .ok (.agg #[.int .u64 (limb x 0 : Nat), .int .u64 (limb x 1 : Nat), .int .u64 (limb x 2 : Nat), .int .u64 (limb x 3 : Nat), .int .u64 (limb y 0 : Nat), .int .u64 (limb y 1 : Nat), .int .u64 (limb y 2 : Nat), .int .u64 (limb y 3 : Nat), .bool i]) wr) := (hNB.call HC.out.2.1).load
      have HE : Hid (k < n ∧ allP (zs.take (k + 1)) = B ∧ (B = false → A = false)) := by
        have e1 : zs.take (k + 1) = zs.take k ++ [zs[k]'hkl] := List.take_succ_eq_append_getElem hkl
        have e2 : allP (zs.take (k + 1)) = B := by
          have h1 := HC.out.1
          unfold allP at h1 ⊢
          rw [e1, List.all_append, h1, List.all_cons, List.all_nil, Bool.and_true, Bool.true_and, hB, hx, hy, hi]
        refine ⟨hlt, e2, fun hb => ?_⟩
        rw [HN.out.2.2.2.2, ← List.take_append_drop (k + 1) zs]
        unfold allP at e2 ⊢
        rw [List.all_append, e2, hb, Bool.false_and]
      clear hx hy hi hNB hkl hlt hB
      obtain ⟨D, hD⟩ : ∃ D, D = wr.heap.size := ⟨_, rfl⟩
      obtain ⟨W4, hW4⟩ : ∃ W4, W4 = wr.alloc (.cells #[.int .u64 (limb x 0 : Nat), .int .u64 (limb x 1 : Nat), .int .u64 (limb x 2 : Nat), .int .u64 (limb x 3 : Nat), .int .u64 (limb y 0 : Nat), .int .u64 (limb y 1 : Nat), .int .u64 (limb y 2 : Nat), .int .u64 (limb y 3 : Nat), .bool i] 36) := ⟨_, rfl⟩
      have H4 : Hid (Below w.heap.size w W4 ∧ Bl W4 D (ptL x y i) 36) := by
        rw [hW4, hD]
        exact ⟨below_alloc0 HC.out.2.1 _, Bl.new wr (ptL x y i) _⟩
      have HW4 : Hid (W4 = wr.alloc (.cells #[.int .u64 (limb x 0 : Nat), .int .u64 (limb x 1 : Nat), .int .u64 (limb x 2 : Nat), .int .u64 (limb x 3 : Nat), .int .u64 (limb y 0 : Nat), .int .u64 (limb y 1 : Nat), .int .u64 (limb y 2 : Nat), .int .u64 (limb y 3 : Nat), .bool i] 36) ∧ D = wr.heap.size) := ⟨hW4, hD⟩
      clear hW4 hD
      go_upto_region 4 with ((with_reducible refine load_to (b := kb) (k := ko + k * 9) (x := 9) ?_ ?_ ?_ LN.out ?_); rfl; rfl; rfl)
      rw [← HW4.out.1, ← HW4.out.2]
      clear HW4 LN
      have L4 : Hid ((loadVar 36 ⟨D, 0, none⟩).run Tryd.prog W4 = .ok (.agg #[.int .u64 (limb x 0 : Nat), .int .u64 (limb x 1 : Nat), .int .u64 (limb x 2 : Nat), .int .u64 (limb x 3 : Nat), .int .u64 (limb y 0 : Nat), .int .u64 (limb y 1 : Nat), .int .u64 (limb y 2 : Nat), .int .u64 (limb y 3 : Nat), .bool i]) W4) := H4.out.2.load Tryd.underlying36 rfl (by kernel_rfl)
      go_wp2_with ((with_reducible refine load_to (b := D) (k := 0) (x := 4) ?_ ?_ ?_ L4.out ?_); rfl; rfl; rfl)
      refine (K1.out _).mono ?_
      rintro e w5 ⟨rfl, hb5⟩
      have H6 : Hid (Below w.heap.size w w5) := below_call0 H4.out.1 hb5
      clear H4 hb5 L4 K1
      cases B with
      | false =>
        obtain rfl : A = false := HE.out.2.2 rfl
        go_wp2_with fail
        go_ret
        exact ⟨rfl, H6.out⟩
      | true =>
        go_wp2_with fail
        go_roundw
        case rel => first | exact ⟨k + 1, HE.out.1, by go_num, HE.out.2.1, H6.out⟩ | ((repeat apply Exists.intro); exact ⟨⟨k + 1, HE.out.1, by go_num, HE.out.2.1, H6.out⟩, rfl⟩)
        case measure => have := HE.out.1; simp [Go.RowKit.intOf]; omega
    · obtain rfl : k = n := by have := HC.out.2.2; omega
      have hnl : ¬ ((k : Int) < (k : Int)) := Int.lt_irrefl _
      clear hlt
      go_wp2_with fail
      refine HKr.out _ _ ?_
      clear HKr
      go_wp2_with fail
      obtain rfl : A = true := by
        have h := HC.out.1
        rw [HN.out.2.1, List.take_length] at h
        rw [HN.out.2.2.2.2, h]
      go_ret
      exact ⟨rfl, HC.out.2.1⟩
set_option maxRecDepth 100000 in
set_option maxHeartbeats 4000000 in
theorem val7_b1 (n : Nat) (x : Int) (b : Option Addr) (kc : Nat) (h : n < 1) (w : World) :
    Calls Tryd.prog 10 #[.slice b n kc, .int .i64 x] w fun e w' => e = .returned (.tuple #[.agg #[.int .u64 0, .int .u64 0, .int .u64 0, .int .u64 0, .int .u64 0, .int .u64 0, .int .u64 0, .int .u64 0, .bool false], .int .i64 1]) ∧ Below w.heap.size w w' := by
  have d1 : decide ((n : Int) < 1) = true := decide_eq_true (by omega)
  clear h
  obtain ⟨W2, hW2⟩ : ∃ W2, W2 = w.alloc (.cells #[.int .u64 0, .int .u64 0, .int .u64 0, .int .u64 0, .int .u64 0, .int .u64 0, .int .u64 0, .int .u64 0, .bool false] 36) := ⟨_, rfl⟩
  have H2 : Hid (Below w.heap.size w W2 ∧ Bl W2 w.heap.size [.int .u64 0, .int .u64 0, .int .u64 0, .int .u64 0, .int .u64 0, .int .u64 0, .int .u64 0, .int .u64 0, .bool false] 36) := by
    rw [hW2]
    exact ⟨below_alloc0 (Below.refl _ _) _, Bl.new w [.int .u64 0, .int .u64 0, .int .u64 0, .int .u64 0, .int .u64 0, .int .u64 0, .int .u64 0, .int .u64 0, .bool false] _⟩
  have HW : Hid (W2 = w.alloc (.cells #[.int .u64 0, .int .u64 0, .int .u64 0, .int .u64 0, .int .u64 0, .int .u64 0, .int .u64 0, .int .u64 0, .bool false] 36)) := hW2
  clear hW2
  go_enter Tryd.func10, Tryd.ntmps10
  go_upto_region 1 with fail
  rw [← HW.out]
  clear HW
  go_upto_region 2 with fail
  have HS : Hid ((storeVar 36 ⟨w.heap.size, 0, none⟩ (.agg #[.int .u64 0, .int .u64 0, .int .u64 0, .int .u64 0, .int .u64 0, .int .u64 0, .int .u64 0, .int .u64 0, .bool false])).run Tryd.prog W2 = .ok () (W2.setRow w.heap.size #[.int .u64 0, .int .u64 0, .int .u64 0, .int .u64 0, .int .u64 0, .int .u64 0, .int .u64 0, .int .u64 0, .bool false])) := H2.out.2.store (us := [.int .u64 0, .int .u64 0, .int .u64 0, .int .u64 0, .int .u64 0, .int .u64 0, .int .u64 0, .int .u64 0, .bool false]) (by kernel_rfl) rfl (by kernel_rfl)
  go_wp2_with ((with_reducible refine store_to (b := w.heap.size) (k := 0) (x := 4) (y := 26) ?_ ?_ ?_ ?_ HS.out ?_); rfl; rfl; rfl; rfl)
  have hld : (loadVar 36 ⟨w.heap.size, 0, none⟩).run Tryd.prog (W2.setRow w.heap.size #[.int .u64 0, .int .u64 0, .int .u64 0, .int .u64 0, .int .u64 0, .int .u64 0, .int .u64 0, .int .u64 0, .bool false]) = .ok (.agg #[.int .u64 0, .int .u64 0, .int .u64 0, .int .u64 0, .int .u64 0, .int .u64 0, .int .u64 0, .int .u64 0, .bool false]) (W2.setRow w.heap.size #[.int .u64 0, .int .u64 0, .int .u64 0, .int .u64 0, .int .u64 0, .int .u64 0, .int .u64 0, .int .u64 0, .bool false]) := (H2.out.2.put [.int .u64 0, .int .u64 0, .int .u64 0, .int .u64 0, .int .u64 0, .int .u64 0, .int .u64 0, .int .u64 0, .bool false]).load Tryd.underlying36 rfl (by kernel_rfl)
  refine bodyPost_ret (v := .tuple #[.agg #[.int .u64 0, .int .u64 0, .int .u64 0, .int .u64 0, .int .u64 0, .int .u64 0, .int .u64 0, .int .u64 0, .bool false], .int .i64 1]) ?_ rfl ⟨rfl, below_setRow (Nat.le_refl _) _ H2.out.1⟩
  simp [results, Tryd.results10, asAddr, hld]
set_option maxRecDepth 100000 in
set_option maxHeartbeats 4000000 in
theorem val7_b2 (n : Nat) (x : Int) (b : Option Addr) (kc : Nat) (h : 10 < n) (w : World) :
    Calls Tryd.prog 10 #[.slice b n kc, .int .i64 x] w fun e w' => e = .returned (.tuple #[.agg #[.int .u64 0, .int .u64 0, .int .u64 0, .int .u64 0, .int .u64 0, .int .u64 0, .int .u64 0, .int .u64 0, .bool false], .int .i64 1]) ∧ Below w.heap.size w w' := by
  have d1 : decide ((n : Int) < 1) = false := decide_eq_false (by omega)
  have d2 : decide ((10 : Int) < (n : Int)) = true := decide_eq_true (by omega)
  clear h
  obtain ⟨W2, hW2⟩ : ∃ W2, W2 = w.alloc (.cells #[.int .u64 0, .int .u64 0, .int .u64 0, .int .u64 0, .int .u64 0, .int .u64 0, .int .u64 0, .int .u64 0, .bool false] 36) := ⟨_, rfl⟩
  have H2 : Hid (Below w.heap.size w W2 ∧ Bl W2 w.heap.size [.int .u64 0, .int .u64 0, .int .u64 0, .int .u64 0, .int .u64 0, .int .u64 0, .int .u64 0, .int .u64 0, .bool false] 36) := by
    rw [hW2]
    exact ⟨below_alloc0 (Below.refl _ _) _, Bl.new w [.int .u64 0, .int .u64 0, .int .u64 0, .int .u64 0, .int .u64 0, .int .u64 0, .int .u64 0, .int .u64 0, .bool false] _⟩
  have HW : Hid (W2 = w.alloc (.cells #[.int .u64 0, .int .u64 0, .int .u64 0, .int .u64 0, .int .u64 0, .int .u64 0, .int .u64 0, .int .u64 0, .bool false] 36)) := hW2
  clear hW2
  go_enter Tryd.func10, Tryd.ntmps10
  go_upto_region 1 with fail
  rw [← HW.out]
  clear HW
  go_upto_region 2 with fail
  have HS : Hid ((storeVar 36 ⟨w.heap.size, 0, none⟩ (.agg #[.int .u64 0, .int .u64 0, .int .u64 0, .int .u64 0, .int .u64 0, .int .u64 0, .int .u64 0, .int .u64 0, .bool false])).run Tryd.prog W2 = .ok () (W2.setRow w.heap.size #[.int .u64 0, .int .u64 0, .int .u64 0, .int .u64 0, .int .u64 0, .int .u64 0, .int .u64 0, .int .u64 0, .bool false])) := H2.out.2.store (us := [.int .u64 0, .int .u64 0, .int .u64 0, .int .u64 0, .int .u64 0, .int .u64 0, .int .u64 0, .int .u64 0, .bool false]) (by kernel_rfl) rfl (by kernel_rfl)
  go_wp2_with ((with_reducible refine store_to (b := w.heap.size) (k := 0) (x := 4) (y := 26) ?_ ?_ ?_ ?_ HS.out ?_); rfl; rfl; rfl; rfl)
  have hld : (loadVar 36 ⟨w.heap.size, 0, none⟩).run Tryd.prog (W2.setRow w.heap.size #[.int .u64 0, .int .u64 0, .int .u64 0, .int .u64 0, .int .u64 0, .int .u64 0, .int .u64 0, .int .u64 0, .bool false]) = .ok (.agg #[.int .u64 0, .int .u64 0, .int .u64 0, .int .u64 0, .int .u64 0, .int .u64 0, .int .u64 0, .int .u64 0, .bool false]) (W2.setRow w.heap.size #[.int .u64 0, .int .u64 0, .int .u64 0, .int .u64 0, .int .u64 0, .int .u64 0, .int .u64 0, .int .u64 0, .bool false]) := (H2.out.2.put [.int .u64 0, .int .u64 0, .int .u64 0, .int .u64 0, .int .u64 0, .int .u64 0, .int .u64 0, .int .u64 0, .bool false]).load Tryd.underlying36 rfl (by kernel_rfl)
  refine bodyPost_ret (v := .tuple #[.agg #[.int .u64 0, .int .u64 0, .int .u64 0, .int .u64 0, .int .u64 0, .int .u64 0, .int .u64 0, .int .u64 0, .bool false], .int .i64 1]) ?_ rfl ⟨rfl, below_setRow (Nat.le_refl _) _ H2.out.1⟩
  simp [results, Tryd.results10, asAddr, hld]
set_option maxRecDepth 100000 in
set_option maxHeartbeats 4000000 in
theorem val7_b3 (n : Nat) (x : Int) (b : Option Addr) (kc : Nat) (h : 1 ≤ n ∧ n ≤ 10) (h0 : x < 0) (w : World) :
    Calls Tryd.prog 10 #[.slice b n kc, .int .i64 x] w fun e w' => e = .returned (.tuple #[.agg #[.int .u64 0, .int .u64 0, .int .u64 0, .int .u64 0, .int .u64 0, .int .u64 0, .int .u64 0, .int .u64 0, .bool false], .int .i64 1]) ∧ Below w.heap.size w w' := by
  have d1 : decide ((n : Int) < 1) = false := decide_eq_false (by omega)
  have d2 : decide ((10 : Int) < (n : Int)) = false := decide_eq_false (by omega)
  have d3 : decide (x < 0) = true := decide_eq_true h0
  clear h
  obtain ⟨W2, hW2⟩ : ∃ W2, W2 = w.alloc (.cells #[.int .u64 0, .int .u64 0, .int .u64 0, .int .u64 0, .int .u64 0, .int .u64 0, .int .u64 0, .int .u64 0, .bool false] 36) := ⟨_, rfl⟩
  have H2 : Hid (Below w.heap.size w W2 ∧ Bl W2 w.heap.size [.int .u64 0, .int .u64 0, .int .u64 0, .int .u64 0, .int .u64 0, .int .u64 0, .int .u64 0, .int .u64 0, .bool false] 36) := by
    rw [hW2]
    exact ⟨below_alloc0 (Below.refl _ _) _, Bl.new w [.int .u64 0, .int .u64 0, .int .u64 0, .int .u64 0, .int .u64 0, .int .u64 0, .int .u64 0, .int .u64 0, .bool false] _⟩
  have HW : Hid (W2 = w.alloc (.cells #[.int .u64 0, .int .u64 0, .int .u64 0, .int .u64 0, .int .u64 0, .int .u64 0, .int .u64 0, .int .u64 0, .bool false] 36)) := hW2
  clear hW2
  go_enter Tryd.func10, Tryd.ntmps10
  go_upto_region 1 with fail
  rw [← HW.out]
  clear HW
  go_upto_region 2 with fail
  have HS : Hid ((storeVar 36 ⟨w.heap.size, 0, none⟩ (.agg #[.int .u64 0, .int .u64 0, .int .u64 0, .int .u64 0, .int .u64 0, .int .u64 0, .int .u64 0, .int .u64 0, .bool false])).run Tryd.prog W2 = .ok () (W2.setRow w.heap.size #[.int .u64 0, .int .u64 0, .int .u64 0, .int .u64 0, .int .u64 0, .int .u64 0, .int .u64 0, .int .u64 0, .bool false])) := H2.out.2.store (us := [.int .u64 0, .int .u64 0, .int .u64 0, .int .u64 0, .int .u64 0, .int .u64 0, .int .u64 0, .int .u64 0, .bool false]) (by kernel_rfl) rfl (by kernel_rfl)
  go_wp2_with ((with_reducible refine store_to (b := w.heap.size) (k := 0) (x := 4) (y := 26) ?_ ?_ ?_ ?_ HS.out ?_); rfl; rfl; rfl; rfl)
  have hld : (loadVar 36 ⟨w.heap.size, 0, none⟩).run Tryd.prog (W2.setRow w.heap.size #[.int .u64 0, .int .u64 0, .int .u64 0, .int .u64 0, .int .u64 0, .int .u64 0, .int .u64 0, .int .u64 0, .bool false]) = .ok (.agg #[.int .u64 0, .int .u64 0, .int .u64 0, .int .u64 0, .int .u64 0, .int .u64 0, .int .u64 0, .int .u64 0, .bool false]) (W2.setRow w.heap.size #[.int .u64 0, .int .u64 0, .int .u64 0, .int .u64 0, .int .u64 0, .int .u64 0, .int .u64 0, .int .u64 0, .bool false]) := (H2.out.2.put [.int .u64 0, .int .u64 0, .int .u64 0, .int .u64 0, .int .u64 0, .int .u64 0, .int .u64 0, .int .u64 0, .bool false]).load Tryd.underlying36 rfl (by kernel_rfl)
  refine bodyPost_ret (v := .tuple #[.agg #[.int .u64 0, .int .u64 0, .int .u64 0, .int .u64 0, .int .u64 0, .int .u64 0, .int .u64 0, .int .u64 0, .bool false], .int .i64 1]) ?_ rfl ⟨rfl, below_setRow (Nat.le_refl _) _ H2.out.1⟩
  simp [results, Tryd.results10, asAddr, hld]
set_option maxRecDepth 100000 in
set_option maxHeartbeats 4000000 in
theorem val7_b4 (n : Nat) (x : Int) (b : Option Addr) (kc : Nat) (h : 1 ≤ n ∧ n ≤ 10) (h0 : ¬ x < 0) (h1 : 10 < x) (w : World) :
    Calls Tryd.prog 10 #[.slice b n kc, .int .i64 x] w fun e w' => e = .returned (.tuple #[.agg #[.int .u64 0, .int .u64 0, .int .u64 0, .int .u64 0, .int .u64 0, .int .u64 0, .int .u64 0, .int .u64 0, .bool false], .int .i64 1]) ∧ Below w.heap.size w w' := by
  have d1 : decide ((n : Int) < 1) = false := decide_eq_false (by omega)
  have d2 : decide ((10 : Int) < (n : Int)) = false := decide_eq_false (by omega)
  have d3 : decide (x < 0) = false := decide_eq_false h0
  have d4 : decide (10 < x) = true := decide_eq_true h1
  clear h
  obtain ⟨W2, hW2⟩ : ∃ W2, W2 = w.alloc (.cells #[.int .u64 0, .int .u64 0, .int .u64 0, .int .u64 0, .int .u64 0, .int .u64 0, .int .u64 0, .int .u64 0, .bool false] 36) := ⟨_, rfl⟩
  have H2 : Hid (Below w.heap.size w W2 ∧ Bl W2 w.heap.size [.int .u64 0, .int .u64 0, .int .u64 0, .int .u64 0, .int .u64 0, .int .u64 0, .int .u64 0, .int .u64 0, .bool false] 36) := by
    rw [hW2]
    exact ⟨below_alloc0 (Below.refl _ _) _, Bl.new w [.int .u64 0, .int .u64 0, .int .u64 0, .int .u64 0, .int .u64 0, .int .u64 0, .int .u64 0, .int .u64 0, .bool false] _⟩
  have HW : Hid (W2 = w.alloc (.cells #[.int .u64 0, .int .u64 0, .int .u64 0, .int .u64 0, .int .u64 0, .int .u64 0, .int .u64 0, .int .u64 0, .bool false] 36)) := hW2
  clear hW2
  go_enter Tryd.func10, Tryd.ntmps10
  go_upto_region 1 with fail
  rw [← HW.out]
  clear HW
  go_upto_region 2 with fail
  have HS : Hid ((storeVar 36 ⟨w.heap.size, 0, none⟩ (.agg #[.int .u64 0, .int .u64 0, .int .u64 0, .int .u64 0, .int .u64 0, .int .u64 0, .int .u64 0, .int .u64 0, .bool false])).run Tryd.prog W2 = .ok () (W2.setRow w.heap.size #[.int .u64 0, .int .u64 0, .int .u64 0, .int .u64 0, .int .u64 0, .int .u64 0, .int .u64 0, .int .u64 0, .bool false])) := H2.out.2.store (us := [.int .u64 0, .int .u64 0, .int .u64 0, .int .u64 0, .int .u64 0, .int .u64 0, .int .u64 0, .int .u64 0, .bool false]) (by kernel_rfl) rfl (by kernel_rfl)
  go_wp2_with ((with_reducible refine store_to (b := w.heap.size) (k := 0) (x := 4) (y := 26) ?_ ?_ ?_ ?_ HS.out ?_); rfl; rfl; rfl; rfl)
  have hld : (loadVar 36 ⟨w.heap.size, 0, none⟩).run Tryd.prog (W2.setRow w.heap.size #[.int .u64 0, .int .u64 0, .int .u64 0, .int .u64 0, .int .u64 0, .int .u64 0, .int .u64 0, .int .u64 0, .bool false]) = .ok (.agg #[.int .u64 0, .int .u64 0, .int .u64 0, .int .u64 0, .int .u64 0, .int .u64 0, .int .u64 0, .int .u64 0, .bool false]) (W2.setRow w.heap.size #[.int .u64 0, .int .u64 0, .int .u64 0, .int .u64 0, .int .u64 0, .int .u64 0, .int .u64 0, .int .u64 0, .bool false]) := (H2.out.2.put [.int .u64 0, .int .u64 0, .int .u64 0, .int .u64 0, .int .u64 0, .int .u64 0, .int .u64 0, .int .u64 0, .bool false]).load Tryd.underlying36 rfl (by kernel_rfl)
  refine bodyPost_ret (v := .tuple #[.agg #[.int .u64 0, .int .u64 0, .int .u64 0, .int .u64 0, .int .u64 0, .int .u64 0, .int .u64 0, .int .u64 0, .bool false], .int .i64 1]) ?_ rfl ⟨rfl, below_setRow (Nat.le_refl _) _ H2.out.1⟩
  simp [results, Tryd.results10, asAddr, hld]
set_option maxRecDepth 100000 in
set_option maxHeartbeats 4000000 in
theorem val7_cu (zs : List (Nat × Nat × Bool)) (n x : Nat) (b : Option Addr) (kc : Nat) (hn : n = zs.length) (h1 : 1 ≤ n ∧ n ≤ 10) (hx : x ≤ 10) (hV : allP zs = false) (hZ : ∀ z ∈ zs, z.1 < R256 ∧ z.2.1 < R256) (w : World) (hP : PntsAt w b zs) :
    Calls Tryd.prog 10 #[.slice b n kc, .int .i64 (x : Nat)] w fun e w' => e = .returned (.tuple #[.agg #[.int .u64 0, .int .u64 0, .int .u64 0, .int .u64 0, .int .u64 0, .int .u64 0, .int .u64 0, .int .u64 0, .bool false], .int .i64 30]) ∧ Below w.heap.size w w' := by
  have KA : Hid (∀ w, PntsAt w b zs → Calls Tryd.prog 23 #[.slice b n kc] w fun e w' => e = .returned (.bool false) ∧ Below w.heap.size w w') := fun w h => by
    have k := are7_any zs n b kc hn h1.2 hZ w h
    rw [hV] at k
    exact k
  have d1 : decide ((n : Int) < 1) = false := decide_eq_false (by omega)
  have d2 : decide ((10 : Int) < (n : Int)) = false := decide_eq_false (by omega)
  have d3 : decide ((x : Int) < 0) = false := decide_eq_false (by omega)
  have d4 : decide ((10 : Int) < (x : Int)) = false := decide_eq_false (by omega)
  obtain ⟨W2, hW2⟩ : ∃ W2, W2 = w.alloc (.cells #[.int .u64 0, .int .u64 0, .int .u64 0, .int .u64 0, .int .u64 0, .int .u64 0, .int .u64 0, .int .u64 0, .bool false] 36) := ⟨_, rfl⟩
  have H2 : Hid (Below w.heap.size w W2 ∧ Bl W2 w.heap.size [.int .u64 0, .int .u64 0, .int .u64 0, .int .u64 0, .int .u64 0, .int .u64 0, .int .u64 0, .int .u64 0, .bool false] 36 ∧ PntsAt W2 b zs) := by
    have hb : Below w.heap.size w W2 := by
      rw [hW2]
      exact below_alloc0 (Below.refl _ _) _
    refine ⟨hb, ?_, hP.call hb⟩
    rw [hW2]
    exact Bl.new w [.int .u64 0, .int .u64 0, .int .u64 0, .int .u64 0, .int .u64 0, .int .u64 0, .int .u64 0, .int .u64 0, .bool false] _
  have HW : Hid (W2 = w.alloc (.cells #[.int .u64 0, .int .u64 0, .int .u64 0, .int .u64 0, .int .u64 0, .int .u64 0, .int .u64 0, .int .u64 0, .bool false] 36)) := hW2
  clear hW2 hn h1 hx hV hZ hP
  go_enter Tryd.func10, Tryd.ntmps10
  go_upto_region 1 with fail
  rw [← HW.out]
  clear HW
  go_wp2_with fail
  refine (KA.out _ H2.out.2.2).mono ?_
  rintro e w3 ⟨rfl, hb3⟩
  have H3 : Hid (Below w.heap.size w w3 ∧ Bl w3 w.heap.size [.int .u64 0, .int .u64 0, .int .u64 0, .int .u64 0, .int .u64 0, .int .u64 0, .int .u64 0, .int .u64 0, .bool false] 36) := ⟨below_call0 H2.out.1 hb3, H2.out.2.1.call hb3⟩
  clear hb3 H2 KA
  go_upto_region 4 with fail
  have HS : Hid ((storeVar 36 ⟨w.heap.size, 0, none⟩ (.agg #[.int .u64 0, .int .u64 0, .int .u64 0, .int .u64 0, .int .u64 0, .int .u64 0, .int .u64 0, .int .u64 0, .bool false])).run Tryd.prog w3 = .ok () (w3.setRow w.heap.size #[.int .u64 0, .int .u64 0, .int .u64 0, .int .u64 0, .int .u64 0, .int .u64 0, .int .u64 0, .int .u64 0, .bool false])) := H3.out.2.store (us := [.int .u64 0, .int .u64 0, .int .u64 0, .int .u64 0, .int .u64 0, .int .u64 0, .int .u64 0, .int .u64 0, .bool false]) (by kernel_rfl) rfl (by kernel_rfl)
  go_wp2_with ((with_reducible refine store_to (b := w.heap.size) (k := 0) (x := 4) (y := 30) ?_ ?_ ?_ ?_ HS.out ?_); rfl; rfl; rfl; rfl)
  have hld : (loadVar 36 ⟨w.heap.size, 0, none⟩).run Tryd.prog (w3.setRow w.heap.size #[.int .u64 0, .int .u64 0, .int .u64 0, .int .u64 0, .int .u64 0, .int .u64 0, .int .u64 0, .int .u64 0, .bool false]) = .ok (.agg #[.int .u64 0, .int .u64 0, .int .u64 0, .int .u64 0, .int .u64 0, .int .u64 0, .int .u64 0, .int .u64 0, .bool false]) (w3.setRow w.heap.size #[.int .u64 0, .int .u64 0, .int .u64 0, .int .u64 0, .int .u64 0, .int .u64 0, .int .u64 0, .int .u64 0, .bool false]) := (H3.out.2.put [.int .u64 0, .int .u64 0, .int .u64 0, .int .u64 0, .int .u64 0, .int .u64 0, .int .u64 0, .int .u64 0, .bool false]).load Tryd.underlying36 rfl (by kernel_rfl)
  refine bodyPost_ret (v := .tuple #[.agg #[.int .u64 0, .int .u64 0, .int .u64 0, .int .u64 0, .int .u64 0, .int .u64 0, .int .u64 0, .int .u64 0, .bool false], .int .i64 30]) ?_ rfl ⟨rfl, below_setRow (Nat.le_refl _) _ H3.out.1⟩
  simp [results, Tryd.results10, asAddr, hld]
end Go.Proofs.YtkdejflgmgljiaaDoor

namespace Go.Proofs.YtkdejflgmgljiaaDoor
open Go Go.RowKit Go.Lib
/-- From the last point on: x times what is there, and the next. -/
def hoP (x : Nat) : List Pts → Pts
  | [] => gr.z
  | c :: r => gr.add (gr.mul x (hoP x r)) c
theorem tot_hoP (x : Nat) : ∀ (l : List Pts) (e : Nat), gr.tot gr.mul (List.zip ((List.range l.length).map fun i => x ^ (e + i) % QQ) l) = gr.mul (x ^ e) (hoP x l)
  | [], e => (gr.mul_z _).symm
  | c :: r, e => by
    have ih := tot_hoP x r (e + 1)
    have eq : (List.range r.length).map ((fun i => x ^ (e + i) % QQ) ∘ Nat.succ) = (List.range r.length).map fun i => x ^ (e + 1 + i) % QQ := List.map_congr_left fun i _ => by
      show x ^ (e + (i + 1)) % QQ = _
      rw [show e + (i + 1) = e + 1 + i by omega]
    rw [List.length_cons, List.range_succ_eq_map, List.map_cons, List.map_map, List.zip_cons_cons]
    show gr.add (gr.mul (x ^ (e + 0) % QQ) c) (gr.tot gr.mul _) = gr.mul (x ^ e) (gr.add (gr.mul x (hoP x r)) c)
    rw [eq, ih, Nat.add_zero, fmod, gr.mul_sum, ← gr.mul_mul, ← Nat.pow_succ, gr.comm]
theorem vaP_ho (x : Nat) (l : List Pts) : vaP x l = hoP x l := by
  have h := tot_hoP x l 0
  simp only [Nat.zero_add, Nat.pow_zero, gr.one] at h
  exact h
/-- What Value has in its memory. -/
def HvA (w wx : World) (b X Y Z : Nat) : Prop := OwnC wx w.heap.size zpL ∧ OwnC wx b (ovL X Y Z) ∧ Below w.heap.size w wx ∧ w.heap.size < b
theorem HvA.call {w W w1 : World} {b X Y Z : Nat} (H : HvA w W b X Y Z) (hb : Below W.heap.size W w1) : HvA w w1 b X Y Z := ⟨H.1.call hb, H.2.1.call hb, below_call0 H.2.2.1 hb, H.2.2.2⟩
def HvB (w wx : World) (b X Y Z c P Q R : Nat) : Prop := HvA w wx b X Y Z ∧ OwnC wx c (ovL P Q R) ∧ b < c
theorem HvB.call {w W w1 : World} {b X Y Z c P Q R : Nat} (H : HvB w W b X Y Z c P Q R) (hb : Below W.heap.size W w1) : HvB w w1 b X Y Z c P Q R := ⟨H.1.call hb, H.2.1.call hb, H.2.2⟩
theorem HvA.put {w W : World} {b X Y Z : Nat} (H : HvA w W b X Y Z) (P Q R : Nat) : HvA w ((((((((((((W.setCell ⟨b, 0, none⟩ (.int .u64 (limb (P) 0 : Nat))).setCell ⟨b, 1, none⟩ (.int .u64 (limb (P) 1 : Nat))).setCell ⟨b, 2, none⟩ (.int .u64 (limb (P) 2 : Nat))).setCell ⟨b, 3, none⟩ (.int .u64 (limb (P) 3 : Nat))).setCell ⟨b, 4, none⟩ (.int .u64 (limb (Q) 0 : Nat))).setCell ⟨b, 5, none⟩ (.int .u64 (limb (Q) 1 : Nat))).setCell ⟨b, 6, none⟩ (.int .u64 (limb (Q) 2 : Nat))).setCell ⟨b, 7, none⟩ (.int .u64 (limb (Q) 3 : Nat))).setCell ⟨b, 8, none⟩ (.int .u64 (limb (R) 0 : Nat))).setCell ⟨b, 9, none⟩ (.int .u64 (limb (R) 1 : Nat))).setCell ⟨b, 10, none⟩ (.int .u64 (limb (R) 2 : Nat))).setCell ⟨b, 11, none⟩ (.int .u64 (limb (R) 3 : Nat))) b P Q R := by
  have a1 : w.heap.size ≠ b := by have := H.2.2.2; omega
  have a3 : w.heap.size ≤ b := by have := H.2.2.2; omega
  exact ⟨OwnC.puts (ovL P Q R) 0 H.1 a1, OwnC.put (ovL P Q R) H.2.1 rfl, below_putL a3 (ovL P Q R) 0 _ H.2.2.1, H.2.2.2⟩
theorem HvB.put {w W : World} {b X Y Z c S T U : Nat} (H : HvB w W b X Y Z c S T U) (P Q R : Nat) : HvB w ((((((((((((W.setCell ⟨c, 0, none⟩ (.int .u64 (limb (P) 0 : Nat))).setCell ⟨c, 1, none⟩ (.int .u64 (limb (P) 1 : Nat))).setCell ⟨c, 2, none⟩ (.int .u64 (limb (P) 2 : Nat))).setCell ⟨c, 3, none⟩ (.int .u64 (limb (P) 3 : Nat))).setCell ⟨c, 4, none⟩ (.int .u64 (limb (Q) 0 : Nat))).setCell ⟨c, 5, none⟩ (.int .u64 (limb (Q) 1 : Nat))).setCell ⟨c, 6, none⟩ (.int .u64 (limb (Q) 2 : Nat))).setCell ⟨c, 7, none⟩ (.int .u64 (limb (Q) 3 : Nat))).setCell ⟨c, 8, none⟩ (.int .u64 (limb (R) 0 : Nat))).setCell ⟨c, 9, none⟩ (.int .u64 (limb (R) 1 : Nat))).setCell ⟨c, 10, none⟩ (.int .u64 (limb (R) 2 : Nat))).setCell ⟨c, 11, none⟩ (.int .u64 (limb (R) 3 : Nat))) b X Y Z c P Q R := by
  have h1 := H.1.2.2.2
  have h2 := H.2.2
  have a1 : w.heap.size ≠ c := by omega
  have a2 : b ≠ c := by omega
  have a3 : w.heap.size ≤ c := by omega
  exact ⟨⟨OwnC.puts (ovL P Q R) 0 H.1.1 a1, OwnC.puts (ovL P Q R) 0 H.1.2.1 a2, below_putL a3 (ovL P Q R) 0 _ H.1.2.2.1, H.1.2.2.2⟩, OwnC.put (ovL P Q R) H.2.1 rfl, H.2.2⟩
theorem HvB.new {w W : World} {b X Y Z : Nat} {t : TypeId} (H : HvA w W b X Y Z) : HvB w (W.alloc (.cells #[.int .u64 0, .int .u64 0, .int .u64 0, .int .u64 0, .int .u64 1, .int .u64 0, .int .u64 0, .int .u64 0, .int .u64 0, .int .u64 0, .int .u64 0, .int .u64 0] t)) b X Y Z W.heap.size 0 1 0 := by
  refine ⟨H.call (below_alloc0 (Below.refl _ _) _), ?_, H.2.1.1⟩
  rw [← inf12]
  exact OwnC.new' rfl
theorem in3_z (w : World) : Calls Tryd.prog 24 #[.agg #[.int .u64 0, .int .u64 0, .int .u64 0, .int .u64 0, .int .u64 0, .int .u64 0, .int .u64 0, .int .u64 0, .bool true]] w fun e w' => e = .returned (.agg #[.int .u64 0, .int .u64 0, .int .u64 0, .int .u64 0, .int .u64 1, .int .u64 0, .int .u64 0, .int .u64 0, .int .u64 0, .int .u64 0, .int .u64 0, .int .u64 0]) ∧ Below w.heap.size w w' := in3_inf 0 0 w
theorem allP_map (cs : List Pts) : allP (cs.map ptT) = true := by
  unfold allP
  rw [List.all_eq_true]
  intro z hz
  rw [List.mem_map] at hz
  obtain ⟨p, _, rfl⟩ := hz
  exact pts_ok p
theorem lt_map {cs : List Pts} : ∀ z ∈ cs.map ptT, z.1 < R256 ∧ z.2.1 < R256 := fun z hz => by
  rw [List.mem_map] at hz
  obtain ⟨p, _, rfl⟩ := hz
  exact ⟨lt_R (pX_lt p), lt_R (pY_lt p)⟩
set_option maxRecDepth 100000 in
set_option maxHeartbeats 8000000 in
theorem val7_ok (cs : List Pts) (n x : Nat) (b : Option Addr) (kc : Nat) (V : Pts) (hn : n = cs.length) (h1 : 1 ≤ n ∧ n ≤ 10) (hx : x ≤ 10) (hV : V = vaP x cs) (w : World) (hP : PtsAt w b cs) :
    Calls Tryd.prog 10 #[.slice b n kc, .int .i64 (x : Nat)] w fun e w' => e = .returned (.tuple #[.agg #[.int .u64 (limb (pX V) 0 : Nat), .int .u64 (limb (pX V) 1 : Nat), .int .u64 (limb (pX V) 2 : Nat), .int .u64 (limb (pX V) 3 : Nat), .int .u64 (limb (pY V) 0 : Nat), .int .u64 (limb (pY V) 1 : Nat), .int .u64 (limb (pY V) 2 : Nat), .int .u64 (limb (pY V) 3 : Nat), .bool (pI V)], .int .i64 0]) ∧ Below w.heap.size w w' := by
  have KA : Hid (∀ w, PtsAt w b cs → Calls Tryd.prog 23 #[.slice b n kc] w fun e w' => e = .returned (.bool true) ∧ Below w.heap.size w w') := fun w h => by
    have k := are7_any (cs.map ptT) n b kc (by rw [List.length_map]; exact hn) h1.2 lt_map w h
    rw [allP_map] at k
    exact k
  have K0 : Hid (∀ w, Calls Tryd.prog 24 #[.agg #[.int .u64 0, .int .u64 0, .int .u64 0, .int .u64 0, .int .u64 0, .int .u64 0, .int .u64 0, .int .u64 0, .bool true]] w fun e w' => e = .returned (.agg #[.int .u64 0, .int .u64 0, .int .u64 0, .int .u64 0, .int .u64 1, .int .u64 0, .int .u64 0, .int .u64 0, .int .u64 0, .int .u64 0, .int .u64 0, .int .u64 0]) ∧ Below w.heap.size w w') := in3_z
  have d1 : decide ((n : Int) < 1) = false := decide_eq_false (by omega)
  have d2 : decide ((10 : Int) < (n : Int)) = false := decide_eq_false (by omega)
  have d3 : decide ((x : Int) < 0) = false := decide_eq_false (by omega)
  have d4 : decide ((10 : Int) < (x : Int)) = false := decide_eq_false (by omega)
  have n64 : (n : Int) ≤ 64 := by omega
  have n1 : (1 : Int) ≤ (n : Int) := by omega
  have x64 : (x : Int) ≤ 64 := by omega
  obtain ⟨W2, hW2⟩ : ∃ W2, W2 = w.alloc (.cells #[.int .u64 0, .int .u64 0, .int .u64 0, .int .u64 0, .int .u64 0, .int .u64 0, .int .u64 0, .int .u64 0, .bool false] 36) := ⟨_, rfl⟩
  have H2 : Hid (Below w.heap.size w W2 ∧ OwnC W2 w.heap.size zpL ∧ PtsAt W2 b cs ∧ w.heap.size < W2.heap.size) := by
    have hb : Below w.heap.size w W2 := by
      rw [hW2]
      exact below_alloc0 (Below.refl _ _) _
    refine ⟨hb, ?_, hP.call hb, ?_⟩
    · rw [hW2]
      exact OwnC.new' (vs := zpL) rfl
    · rw [hW2, World.size_alloc]
      omega
  have HN : Hid (PtsAt w b cs ∧ n = cs.length ∧ V = hoP x cs) := ⟨hP, hn, by rw [hV, vaP_ho]⟩
  have HW : Hid (W2 = w.alloc (.cells #[.int .u64 0, .int .u64 0, .int .u64 0, .int .u64 0, .int .u64 0, .int .u64 0, .int .u64 0, .int .u64 0, .bool false] 36)) := hW2
  clear hW2 hn h1 hx hV hP
  go_enter Tryd.func10, Tryd.ntmps10
  go_upto_region 1 with fail
  rw [← HW.out]
  clear HW
  go_wp2_with fail
  refine (KA.out _ H2.out.2.2.1).mono ?_
  rintro e w3 ⟨rfl, hb3⟩
  have H3 : Hid (Below w.heap.size w w3 ∧ OwnC w3 w.heap.size zpL ∧ w.heap.size < w3.heap.size) := ⟨below_call0 H2.out.1 hb3, H2.out.2.1.call hb3, Nat.lt_of_lt_of_le H2.out.2.2.2 hb3.size⟩
  clear hb3 H2 KA
  go_wp2_with fail
  refine (K0.out _).mono ?_
  rintro e w4 ⟨rfl, hb4⟩
  have HC0 : Hid (HvA w (w4.alloc (.cells #[.int .u64 0, .int .u64 0, .int .u64 0, .int .u64 0, .int .u64 1, .int .u64 0, .int .u64 0, .int .u64 0, .int .u64 0, .int .u64 0, .int .u64 0, .int .u64 0] 56)) w4.heap.size 0 1 0) := by
    refine ⟨(H3.out.2.1.call hb4).alloc, ?_, below_alloc0 (below_call0 H3.out.1 hb4) _, Nat.lt_of_lt_of_le H3.out.2.2 hb4.size⟩
    rw [← inf12]
    exact OwnC.new' rfl
  clear hb4 H3
  go_wp2_with fail
  rename_i Kr hKr
  have HKr : Hid _ := hKr
  clear hKr
  go_loopw [7] (fun iv wr => ∃ (j X Y Z : Nat), j ≤ n ∧ iv = .int .i64 ((j : Int) - 1) ∧ OvrN X Y Z (hoP x (cs.drop j)).1 ∧ HvA w wr w4.heap.size X Y Z) (fun iv _ => (Go.RowKit.intOf iv + 1).toNat)
  case atStart => exact ⟨n, 0, 1, 0, Nat.le_refl _, by first | rfl | go_num, by rw [HN.out.2.1, List.drop_length]; exact ovrN_none, HC0.out⟩
  case round =>
    clear HC0
    obtain ⟨j, X, Y, Z, hj, rfl, hO, hC⟩ := hrel
    rename World => w5
    have HC5 : Hid (HvA w w5 w4.heap.size X Y Z) := hC
    clear hC
    by_cases hj0 : j = 0
    · subst hj0
      have e0 : ((0 : Nat) : Int) - 1 = -1 := rfl
      rw [e0]
      have hO' : OvrN X Y Z V.1 := by
        rw [HN.out.2.2]
        exact hO
      have K1 : Hid (∀ w, Calls Tryd.prog 26 #[.agg #[.int .u64 (limb (X) 0 : Nat), .int .u64 (limb (X) 1 : Nat), .int .u64 (limb (X) 2 : Nat), .int .u64 (limb (X) 3 : Nat), .int .u64 (limb (Y) 0 : Nat), .int .u64 (limb (Y) 1 : Nat), .int .u64 (limb (Y) 2 : Nat), .int .u64 (limb (Y) 3 : Nat), .int .u64 (limb (Z) 0 : Nat), .int .u64 (limb (Z) 1 : Nat), .int .u64 (limb (Z) 2 : Nat), .int .u64 (limb (Z) 3 : Nat)]] w fun e w' => e = .returned (.agg #[.int .u64 (limb (pX V) 0 : Nat), .int .u64 (limb (pX V) 1 : Nat), .int .u64 (limb (pX V) 2 : Nat), .int .u64 (limb (pX V) 3 : Nat), .int .u64 (limb (pY V) 0 : Nat), .int .u64 (limb (pY V) 1 : Nat), .int .u64 (limb (pY V) 2 : Nat), .int .u64 (limb (pY V) 3 : Nat), .bool (pI V)]) ∧ Below w.heap.size w w') := fun w => out3_A X Y Z V hO' w
      clear hO hO' hj K0
      go_wp2_with fail
      refine HKr.out _ _ ?_
      clear HKr
      obtain ⟨vz, v0, v1, v2, v3, v4, v5, v6, v7, v8, v9, va, vb, vf⟩ := HC5.out.2.1.ov
      go_wp2_with fail
      refine (K1.out _).mono ?_
      rintro e w7 ⟨rfl, hb7⟩
      have HX : Hid (OwnC w7 (w.heap.size) zpL ∧ Below w.heap.size w w7) := ⟨(HC5.out.call hb7).1, (HC5.out.call hb7).2.2.1⟩
      clear hb7 HC5 K1 vz v0 v1 v2 v3 v4 v5 v6 v7 v8 v9 va vb vf
      obtain ⟨xz, x0, x1, x2, x3, x4, x5, x6, x7, x8, xf⟩ := HX.out.1.zp
      go_wp2_with fail
      clear xz x0 x1 x2 x3 x4 x5 x6 x7 x8 xf
      obtain ⟨wy, hwy⟩ : ∃ wq, wq = (((((((((w7.setCell ⟨w.heap.size, 0, none⟩ (.int .u64 (limb (pX V) 0 : Nat))).setCell ⟨w.heap.size, 1, none⟩ (.int .u64 (limb (pX V) 1 : Nat))).setCell ⟨w.heap.size, 2, none⟩ (.int .u64 (limb (pX V) 2 : Nat))).setCell ⟨w.heap.size, 3, none⟩ (.int .u64 (limb (pX V) 3 : Nat))).setCell ⟨w.heap.size, 4, none⟩ (.int .u64 (limb (pY V) 0 : Nat))).setCell ⟨w.heap.size, 5, none⟩ (.int .u64 (limb (pY V) 1 : Nat))).setCell ⟨w.heap.size, 6, none⟩ (.int .u64 (limb (pY V) 2 : Nat))).setCell ⟨w.heap.size, 7, none⟩ (.int .u64 (limb (pY V) 3 : Nat))).setCell ⟨w.heap.size, 8, none⟩ (.bool (pI V))) := ⟨_, rfl⟩
      rw [← hwy]
      have HO : OwnC wy (w.heap.size) (ptL (pX V) (pY V) (pI V)) ∧ Below w.heap.size w wy := by
        rw [hwy]
        exact ⟨OwnC.put (ptL (pX V) (pY V) (pI V)) HX.out.1 rfl, below_putL (Nat.le_refl _) (ptL (pX V) (pY V) (pI V)) 0 _ HX.out.2⟩
      clear hwy HX
      obtain ⟨yz, y0, y1, y2, y3, y4, y5, y6, y7, y8, yf⟩ := HO.1.pt
      refine bodyPost_ret (v := .tuple #[.agg #[.int .u64 (limb (pX V) 0 : Nat), .int .u64 (limb (pX V) 1 : Nat), .int .u64 (limb (pX V) 2 : Nat), .int .u64 (limb (pX V) 3 : Nat), .int .u64 (limb (pY V) 0 : Nat), .int .u64 (limb (pY V) 1 : Nat), .int .u64 (limb (pY V) 2 : Nat), .int .u64 (limb (pY V) 3 : Nat), .bool (pI V)], .int .i64 0]) ?_ rfl ⟨rfl, HO.2⟩
      simp [results, Tryd.results10, go_sem, y0, y1, y2, y3, y4, y5, y6, y7, y8]
    · obtain ⟨i, rfl⟩ : ∃ i, j = i + 1 := ⟨j - 1, by omega⟩
      have ei : ((i + 1 : Nat) : Int) - 1 = (i : Int) := by omega
      rw [ei]
      have i0 : decide ((0 : Int) ≤ (i : Int)) = true := decide_eq_true (by omega)
      have i1 : (i : Int) < (n : Int) := by omega
      have hil : i < cs.length := by rw [← HN.out.2.1]; omega
      obtain ⟨A, hA⟩ : ∃ A, A = hoP x (cs.drop (i + 1)) := ⟨_, rfl⟩
      rw [← hA] at hO
      have HA : Hid (OvrN X Y Z A.1 ∧ A = hoP x (cs.drop (i + 1)) ∧ i < cs.length ∧ i + 1 ≤ n) := ⟨hO, hA, hil, hj⟩
      clear hO hA hil hj HKr hj0
      go_wp2_with fail
      refine (K0.out _).mono ?_
      rintro e w6 ⟨rfl, hb6⟩
      have HB6 : Hid (HvB w (w6.alloc (.cells #[.int .u64 0, .int .u64 0, .int .u64 0, .int .u64 0, .int .u64 1, .int .u64 0, .int .u64 0, .int .u64 0, .int .u64 0, .int .u64 0, .int .u64 0, .int .u64 0] 56)) w4.heap.size X Y Z w6.heap.size 0 1 0) := HvB.new (HC5.out.call hb6)
      clear hb6 HC5 K0
      go_wp2_with fail
      rename_i Kr2 hKr2
      have HKr2 : Hid _ := hKr2
      clear hKr2
      go_loopw [9] (fun kv wr => ∃ (k P Q R : Nat), k ≤ x ∧ kv = .int .i64 (k : Nat) ∧ OvrN P Q R (gr.mul k A).1 ∧ HvB w wr w4.heap.size X Y Z w6.heap.size P Q R) (fun kv _ => x - (Go.RowKit.intOf kv).toNat)
      case atStart => exact ⟨0, 0, 1, 0, Nat.zero_le _, rfl, ovrN_none, HB6.out⟩
      case round =>
        clear HB6
        obtain ⟨k, P, Q, R, hk, rfl, hO2, hC2⟩ := hrel
        rename World => w7
        have HC7 : Hid (HvB w w7 w4.heap.size X Y Z w6.heap.size P Q R) := hC2
        clear hC2
        by_cases hkx : k < x
        · have hkx' : (k : Int) < (x : Int) := Int.ofNat_lt.2 hkx
          obtain ⟨P2, Q2, R2, o2, k2⟩ := plus3_A P Q R X Y Z (gr.mul k A) A hO2 HA.out.1
          have K1 : Hid (∀ w, Calls Tryd.prog 25 #[.agg #[.int .u64 (limb (P) 0 : Nat), .int .u64 (limb (P) 1 : Nat), .int .u64 (limb (P) 2 : Nat), .int .u64 (limb (P) 3 : Nat), .int .u64 (limb (Q) 0 : Nat), .int .u64 (limb (Q) 1 : Nat), .int .u64 (limb (Q) 2 : Nat), .int .u64 (limb (Q) 3 : Nat), .int .u64 (limb (R) 0 : Nat), .int .u64 (limb (R) 1 : Nat), .int .u64 (limb (R) 2 : Nat), .int .u64 (limb (R) 3 : Nat)], .agg #[.int .u64 (limb (X) 0 : Nat), .int .u64 (limb (X) 1 : Nat), .int .u64 (limb (X) 2 : Nat), .int .u64 (limb (X) 3 : Nat), .int .u64 (limb (Y) 0 : Nat), .int .u64 (limb (Y) 1 : Nat), .int .u64 (limb (Y) 2 : Nat), .int .u64 (limb (Y) 3 : Nat), .int .u64 (limb (Z) 0 : Nat), .int .u64 (limb (Z) 1 : Nat), .int .u64 (limb (Z) 2 : Nat), .int .u64 (limb (Z) 3 : Nat)]] w fun e w' => e = .returned (.agg #[.int .u64 (limb (P2) 0 : Nat), .int .u64 (limb (P2) 1 : Nat), .int .u64 (limb (P2) 2 : Nat), .int .u64 (limb (P2) 3 : Nat), .int .u64 (limb (Q2) 0 : Nat), .int .u64 (limb (Q2) 1 : Nat), .int .u64 (limb (Q2) 2 : Nat), .int .u64 (limb (Q2) 3 : Nat), .int .u64 (limb (R2) 0 : Nat), .int .u64 (limb (R2) 1 : Nat), .int .u64 (limb (R2) 2 : Nat), .int .u64 (limb (R2) 3 : Nat)]) ∧ Below w.heap.size w w') := k2
          have HO : Hid (OvrN P2 Q2 R2 (gr.mul (k + 1) A).1 ∧ k + 1 ≤ x) := ⟨o2, hkx⟩
          clear hO2 o2 k2 hk hkx HKr2
          obtain ⟨_, _, _, _, _, _, _, _, _, _, _, _, _, _⟩ := HC7.out.2.1.ov
          obtain ⟨_, _, _, _, _, _, _, _, _, _, _, _, _, _⟩ := HC7.out.1.2.1.ov
          go_upto_region 13 with fail
          go_wp2_with fail
          refine (K1.out _).mono ?_
          rintro e w8 ⟨rfl, hb8⟩
          have HN8 : Hid (HvB w w8 w4.heap.size X Y Z w6.heap.size P Q R) := HC7.out.call hb8
          clear hb8 HC7 K1
          obtain ⟨yz, y0, y1, y2, y3, y4, y5, y6, y7, y8, y9, ya, yb, yf⟩ := HN8.out.2.1.ov
          go_wp2_with fail
          clear yz y0 y1 y2 y3 y4 y5 y6 y7 y8 y9 ya yb yf
          have HN9 : Hid (HvB w ((((((((((((w8.setCell ⟨w6.heap.size, 0, none⟩ (.int .u64 (limb (P2) 0 : Nat))).setCell ⟨w6.heap.size, 1, none⟩ (.int .u64 (limb (P2) 1 : Nat))).setCell ⟨w6.heap.size, 2, none⟩ (.int .u64 (limb (P2) 2 : Nat))).setCell ⟨w6.heap.size, 3, none⟩ (.int .u64 (limb (P2) 3 : Nat))).setCell ⟨w6.heap.size, 4, none⟩ (.int .u64 (limb (Q2) 0 : Nat))).setCell ⟨w6.heap.size, 5, none⟩ (.int .u64 (limb (Q2) 1 : Nat))).setCell ⟨w6.heap.size, 6, none⟩ (.int .u64 (limb (Q2) 2 : Nat))).setCell ⟨w6.heap.size, 7, none⟩ (.int .u64 (limb (Q2) 3 : Nat))).setCell ⟨w6.heap.size, 8, none⟩ (.int .u64 (limb (R2) 0 : Nat))).setCell ⟨w6.heap.size, 9, none⟩ (.int .u64 (limb (R2) 1 : Nat))).setCell ⟨w6.heap.size, 10, none⟩ (.int .u64 (limb (R2) 2 : Nat))).setCell ⟨w6.heap.size, 11, none⟩ (.int .u64 (limb (R2) 3 : Nat))) w4.heap.size X Y Z w6.heap.size P2 Q2 R2) := HN8.out.put P2 Q2 R2
          clear HN8
          go_roundw
          case rel => first | exact ⟨k + 1, P2, Q2, R2, HO.out.2, by go_num, HO.out.1, HN9.out⟩ | ((repeat apply Exists.intro); exact ⟨⟨k + 1, P2, Q2, R2, HO.out.2, by go_num, HO.out.1, HN9.out⟩, rfl⟩)
          case measure => have := HO.out.2; simp [Go.RowKit.intOf]; omega
        · obtain rfl : k = x := by omega
          have hnl : ¬ ((k : Int) < (k : Int)) := Int.lt_irrefl _
          clear hkx hk
          go_wp2_with fail
          refine HKr2.out _ _ ?_
          clear HKr2
          have hil : i < cs.length := HA.out.2.2.1
          obtain ⟨pb, po, rfl, hPB⟩ := HN.out.1.get hil
          obtain ⟨p, hp⟩ : ∃ p, p = cs[i]'hil := ⟨_, rfl⟩
          rw [← hp] at hPB
          have Pb : Hid (PointB w pb (po + i * 9) (pX p) (pY p) (pI p)) := hPB
          obtain ⟨X1, Y1, Z1, o1, k1⟩ := in3_A p
          obtain ⟨X3, Y3, Z3, o3, k3⟩ := plus3_A P Q R X1 Y1 Z1 (gr.mul k A) p hO2 o1
          have K1 : Hid _ := k1
          have K3 : Hid _ := k3
          have HO : Hid (OvrN X3 Y3 Z3 (hoP k (cs.drop i)).1 ∧ i ≤ n) := by
            refine ⟨?_, by have := HA.out.2.2.2; omega⟩
            rw [List.drop_eq_getElem_cons hil]
            have e := HA.out.2.1
            rw [hp, e] at o3
            exact o3
          clear hPB hp k1 k3 o1 o3 hO2 hnl hil
          go_upto_region 14 with fail
          refine wp_region_J 7 0 [?v0h, ?v1h, ?v2h, ?v3h, ?v4h, ?v5h, ?v6h] [some 50, some 51, some 52, some 53, some 54, some 55, some 56] ?Ah (by kernel_rfl) (by kernel_rfl) (by kernel_rfl) rfl ?hAh ?hopsh ?hfinh
          case hAh =>
            simp only [List.set_cons_zero, List.set_cons_succ, List.zip_cons_cons, List.zip_nil_right, fillD, Act.put, List.setIfInBounds_toArray]
            exact rfl
          case hopsh =>
            refine ⟨?_, ?_, ?_, ?_, ?_, ?_, ?_, trivial⟩
            focus (intro _ bq wx hS; refine OpTo.yields rfl ?_; obtain ⟨_, _, _, _, _, _, _, _, _, _, _, _, _, _⟩ := (HC7.out.call hS).2.1.ov; clear hS; go_simp; try with_reducible rfl)
            iterate 3 focus (intro _ bq wx hS; refine OpTo.yields rfl ?_; clear hS; go_simp; try with_reducible rfl)
            focus (intro _ bq wx hS; refine OpTo.yields rfl ?_; obtain ⟨_, _, _, _, _, _, _, _, _, _⟩ := (Pb.out.call HC7.out.1.2.2.1).call hS; clear hS; go_simp; try with_reducible rfl)
            focus (intro _ bq wx hS; refine OpTo.calls rfl ?_ ?_; rotate_left; intro K hK; go_simp; refine (K1.out _).mono ?_; rintro e w' ⟨rfl, hq⟩; exact hK w' hq; exact rfl)
            focus (intro _ bq wx hS; refine OpTo.calls rfl ?_ ?_; rotate_left; intro K hK; go_simp; refine (K3.out _).mono ?_; rintro e w' ⟨rfl, hq⟩; exact hK w' hq; exact rfl)
          case hfinh =>
            intro wx hS
            refine tail_at (o := ?ofh) ?hih ?hwh ?_
            case hih => rw [List.getElem?_toArray]; exact rfl
            case hwh => exact rfl
            obtain ⟨yz, y0, y1, y2, y3, y4, y5, y6, y7, y8, y9, y10, y11, yf⟩ := (HC7.out.call hS).1.2.1.ov
            go_simp
            clear yz y0 y1 y2 y3 y4 y5 y6 y7 y8 y9 y10 y11 yf
            refine tail_end ?_
            have HN9 : Hid (HvA w ((((((((((((wx.setCell ⟨w4.heap.size, 0, none⟩ (.int .u64 (limb (X3) 0 : Nat))).setCell ⟨w4.heap.size, 1, none⟩ (.int .u64 (limb (X3) 1 : Nat))).setCell ⟨w4.heap.size, 2, none⟩ (.int .u64 (limb (X3) 2 : Nat))).setCell ⟨w4.heap.size, 3, none⟩ (.int .u64 (limb (X3) 3 : Nat))).setCell ⟨w4.heap.size, 4, none⟩ (.int .u64 (limb (Y3) 0 : Nat))).setCell ⟨w4.heap.size, 5, none⟩ (.int .u64 (limb (Y3) 1 : Nat))).setCell ⟨w4.heap.size, 6, none⟩ (.int .u64 (limb (Y3) 2 : Nat))).setCell ⟨w4.heap.size, 7, none⟩ (.int .u64 (limb (Y3) 3 : Nat))).setCell ⟨w4.heap.size, 8, none⟩ (.int .u64 (limb (Z3) 0 : Nat))).setCell ⟨w4.heap.size, 9, none⟩ (.int .u64 (limb (Z3) 1 : Nat))).setCell ⟨w4.heap.size, 10, none⟩ (.int .u64 (limb (Z3) 2 : Nat))).setCell ⟨w4.heap.size, 11, none⟩ (.int .u64 (limb (Z3) 3 : Nat))) w4.heap.size X3 Y3 Z3) := (HC7.out.call hS).1.put X3 Y3 Z3
            obtain ⟨wy, hwy⟩ : ∃ wq, wq = ((((((((((((wx.setCell ⟨w4.heap.size, 0, none⟩ (.int .u64 (limb (X3) 0 : Nat))).setCell ⟨w4.heap.size, 1, none⟩ (.int .u64 (limb (X3) 1 : Nat))).setCell ⟨w4.heap.size, 2, none⟩ (.int .u64 (limb (X3) 2 : Nat))).setCell ⟨w4.heap.size, 3, none⟩ (.int .u64 (limb (X3) 3 : Nat))).setCell ⟨w4.heap.size, 4, none⟩ (.int .u64 (limb (Y3) 0 : Nat))).setCell ⟨w4.heap.size, 5, none⟩ (.int .u64 (limb (Y3) 1 : Nat))).setCell ⟨w4.heap.size, 6, none⟩ (.int .u64 (limb (Y3) 2 : Nat))).setCell ⟨w4.heap.size, 7, none⟩ (.int .u64 (limb (Y3) 3 : Nat))).setCell ⟨w4.heap.size, 8, none⟩ (.int .u64 (limb (Z3) 0 : Nat))).setCell ⟨w4.heap.size, 9, none⟩ (.int .u64 (limb (Z3) 1 : Nat))).setCell ⟨w4.heap.size, 10, none⟩ (.int .u64 (limb (Z3) 2 : Nat))).setCell ⟨w4.heap.size, 11, none⟩ (.int .u64 (limb (Z3) 3 : Nat))) := ⟨_, rfl⟩
            rw [← hwy] at HN9 ⊢
            clear hwy hS HC7
            go_wp2_with fail
            go_roundw
            case rel => first | exact ⟨i, X3, Y3, Z3, HO.out.2, by first | rfl | go_num, HO.out.1, HN9.out⟩ | ((repeat apply Exists.intro); exact ⟨⟨i, X3, Y3, Z3, HO.out.2, by first | rfl | go_num, HO.out.1, HN9.out⟩, rfl⟩)
            case measure => simp [Go.RowKit.intOf] <;> omega
end Go.Proofs.YtkdejflgmgljiaaDoor

namespace Go.Proofs.YtkdejflgmgljiaaDoor
open Go Go.RowKit Go.Lib
theorem Bl.cells {w : World} {b : Nat} {vs : List Value} {t : TypeId} (h : Bl w b vs t) (j : Nat) (v : Value) (hv : vs[j]? = some v) : w.cell? ⟨b, j, none⟩ = some v := by
  have h' : w.heap[b]? = some (.cells vs.toArray t) := h
  simpa [World.cell?, h'] using hv
set_option maxRecDepth 100000 in
set_option maxHeartbeats 4000000 in
theorem chk7_err (zs : List (Nat × Nat × Bool)) (n : Nat) (x : Int) (s : Nat) (b : Option Addr) (kc : Nat) (E : Int) (h0 : E ≠ 0) (hV : ∀ w, PntsAt w b zs → Calls Tryd.prog 10 #[.slice b n kc, .int .i64 x] w fun e w' => e = .returned (.tuple #[.agg #[.int .u64 0, .int .u64 0, .int .u64 0, .int .u64 0, .int .u64 0, .int .u64 0, .int .u64 0, .int .u64 0, .bool false], .int .i64 E]) ∧ Below w.heap.size w w') (w : World) (hP : PntsAt w b zs) :
    Calls Tryd.prog 12 #[.slice b n kc, .int .i64 x, .agg #[.int .u64 (limb s 0 : Nat), .int .u64 (limb s 1 : Nat), .int .u64 (limb s 2 : Nat), .int .u64 (limb s 3 : Nat)]] w fun e w' => e = .returned (.int .i64 E) ∧ Below w.heap.size w w' := by
  have KV : Hid _ := hV
  have e1 : (E != 0) = true := by simpa using h0
  have e2 : (E == 0) = false := by simpa using h0
  have e3 : decide (E = 0) = false := decide_eq_false h0
  obtain ⟨W1, hW1⟩ : ∃ W1, W1 = w.alloc (.cells #[.int .u64 (limb s 0 : Nat), .int .u64 (limb s 1 : Nat), .int .u64 (limb s 2 : Nat), .int .u64 (limb s 3 : Nat)] 34) := ⟨_, rfl⟩
  have H1 : Hid (Below w.heap.size w W1 ∧ Bl W1 w.heap.size (numV s) 34 ∧ PntsAt W1 b zs) := by
    have hb : Below w.heap.size w W1 := by
      rw [hW1]
      exact below_alloc0 (Below.refl _ _) _
    refine ⟨hb, ?_, hP.call hb⟩
    rw [hW1]
    exact Bl.new w (numV s) _
  have HW : Hid (W1 = w.alloc (.cells #[.int .u64 (limb s 0 : Nat), .int .u64 (limb s 1 : Nat), .int .u64 (limb s 2 : Nat), .int .u64 (limb s 3 : Nat)] 34)) := hW1
  clear hW1 hP hV 
  go_enter Tryd.func12, Tryd.ntmps12
  go_upto_region 1 with fail
  rw [← HW.out]
  clear HW
  go_wp2_with fail
  refine (KV.out _ H1.out.2.2).mono ?_
  rintro e w2 ⟨rfl, hb2⟩
  have H2 : Hid (Below w.heap.size w w2) := below_call0 H1.out.1 hb2
  clear hb2 H1 KV
  go_wp2_with fail
  go_ret
  exact ⟨rfl, below_alloc0 H2.out _⟩
set_option maxRecDepth 100000 in
set_option maxHeartbeats 4000000 in
theorem chk7_sc (zs : List (Nat × Nat × Bool)) (n : Nat) (x : Int) (s : Nat) (b : Option Addr) (kc : Nat) (V : Pts) (hsR : s < R256) (hs : ¬ s < QQ) (hV : ∀ w, PntsAt w b zs → Calls Tryd.prog 10 #[.slice b n kc, .int .i64 x] w fun e w' => e = .returned (.tuple #[.agg #[.int .u64 (limb (pX V) 0 : Nat), .int .u64 (limb (pX V) 1 : Nat), .int .u64 (limb (pX V) 2 : Nat), .int .u64 (limb (pX V) 3 : Nat), .int .u64 (limb (pY V) 0 : Nat), .int .u64 (limb (pY V) 1 : Nat), .int .u64 (limb (pY V) 2 : Nat), .int .u64 (limb (pY V) 3 : Nat), .bool (pI V)], .int .i64 0]) ∧ Below w.heap.size w w') (w : World) (hP : PntsAt w b zs) :
    Calls Tryd.prog 12 #[.slice b n kc, .int .i64 x, .agg #[.int .u64 (limb s 0 : Nat), .int .u64 (limb s 1 : Nat), .int .u64 (limb s 2 : Nat), .int .u64 (limb s 3 : Nat)]] w fun e w' => e = .returned (.int .i64 20) ∧ Below w.heap.size w w' := by
  have KV : Hid _ := hV
  have KS : Hid _ := scalars2_any
  have KH : Hid (∀ w, Calls Tryd.prog 28 #[.agg #[.int .u64 (limb (QQ) 0 : Nat), .int .u64 (limb (QQ) 1 : Nat), .int .u64 (limb (QQ) 2 : Nat), .int .u64 (limb (QQ) 3 : Nat), .int .u64 (limb (R256 - (QQ)) 0 : Nat), .int .u64 (limb (R256 - (QQ)) 1 : Nat), .int .u64 (limb (R256 - (QQ)) 2 : Nat), .int .u64 (limb (R256 - (QQ)) 3 : Nat)], .agg #[.int .u64 (limb s 0 : Nat), .int .u64 (limb s 1 : Nat), .int .u64 (limb s 2 : Nat), .int .u64 (limb s 3 : Nat)]] w fun e w' => e = .returned (.bool false) ∧ Below w.heap.size w w') := has2_b QQ s false FM_Q.2.1 hsR (decide_eq_false hs)
  obtain ⟨W1, hW1⟩ : ∃ W1, W1 = w.alloc (.cells #[.int .u64 (limb s 0 : Nat), .int .u64 (limb s 1 : Nat), .int .u64 (limb s 2 : Nat), .int .u64 (limb s 3 : Nat)] 34) := ⟨_, rfl⟩
  have H1 : Hid (Below w.heap.size w W1 ∧ Bl W1 w.heap.size (numV s) 34 ∧ PntsAt W1 b zs) := by
    have hb : Below w.heap.size w W1 := by
      rw [hW1]
      exact below_alloc0 (Below.refl _ _) _
    refine ⟨hb, ?_, hP.call hb⟩
    rw [hW1]
    exact Bl.new w (numV s) _
  have HW : Hid (W1 = w.alloc (.cells #[.int .u64 (limb s 0 : Nat), .int .u64 (limb s 1 : Nat), .int .u64 (limb s 2 : Nat), .int .u64 (limb s 3 : Nat)] 34)) := hW1
  clear hW1 hP hV hsR hs
  go_enter Tryd.func12, Tryd.ntmps12
  go_upto_region 1 with fail
  rw [← HW.out]
  clear HW
  go_wp2_with fail
  refine (KV.out _ H1.out.2.2).mono ?_
  rintro e w2 ⟨rfl, hb2⟩
  obtain ⟨A, hA⟩ : ∃ A, A = w2.heap.size := ⟨_, rfl⟩
  obtain ⟨W3, hW3⟩ : ∃ W3, W3 = w2.alloc (.cells #[.int .u64 (limb (pX V) 0 : Nat), .int .u64 (limb (pX V) 1 : Nat), .int .u64 (limb (pX V) 2 : Nat), .int .u64 (limb (pX V) 3 : Nat), .int .u64 (limb (pY V) 0 : Nat), .int .u64 (limb (pY V) 1 : Nat), .int .u64 (limb (pY V) 2 : Nat), .int .u64 (limb (pY V) 3 : Nat), .bool (pI V)] 36) := ⟨_, rfl⟩
  have H3 : Hid (Below w.heap.size w W3 ∧ Bl W3 w.heap.size (numV s) 34 ∧ Bl W3 A (ptsV V) 36) := by
    have hb : Below W1.heap.size W1 W3 := by
      rw [hW3]
      exact below_alloc0 hb2 _
    refine ⟨below_call0 H1.out.1 hb, H1.out.2.1.call hb, ?_⟩
    rw [hW3, hA]
    exact Bl.new w2 (ptsV V) _
  have HW : Hid (W3 = w2.alloc (.cells #[.int .u64 (limb (pX V) 0 : Nat), .int .u64 (limb (pX V) 1 : Nat), .int .u64 (limb (pX V) 2 : Nat), .int .u64 (limb (pX V) 3 : Nat), .int .u64 (limb (pY V) 0 : Nat), .int .u64 (limb (pY V) 1 : Nat), .int .u64 (limb (pY V) 2 : Nat), .int .u64 (limb (pY V) 3 : Nat), .bool (pI V)] 36) ∧ A = w2.heap.size) := ⟨hW3, hA⟩
  clear hW3 hA hb2 H1 KV
  go_upto_region 2 with fail
  rw [← HW.out.1, ← HW.out.2]
  clear HW
  go_upto_region 4 with fail
  refine wp_region_H (fun w' => Below W3.heap.size W3 w') 4 rfl (by kernel_rfl) ?_
  refine wpAnyH_take (i := 1) (oi := ?o1k) (v := ?v1k) ?hi1k (by kernel_rfl) (by kernel_rfl) (by kernel_rfl) ?hQ1k ?hy1k (Below.drew (Below.refl _ _)) ?more1k
  case hi1k => rw [List.getElem?_toArray]; exact rfl
  case hQ1k => exact fun _ _ _ h => h
  case hy1k =>
    refine Or.inl ⟨by rfl, ?_⟩
    intro w' hSw
    have q0 := (H3.out.2.1.call hSw).cells 0 _ rfl
    have q1 := (H3.out.2.1.call hSw).cells 1 _ rfl
    have q2 := (H3.out.2.1.call hSw).cells 2 _ rfl
    have q3 := (H3.out.2.1.call hSw).cells 3 _ rfl
    clear hSw
    go_simp
    try with_reducible rfl
  simp only [Act.put, List.setIfInBounds_toArray, List.set_cons_zero, List.set_cons_succ]
  refine wpAnyH_one (i := 0) (o := ?o0k) (by kernel_rfl) ?hi0k ?hw0k ?st0k
  case hi0k => rw [List.getElem?_toArray]; exact rfl
  case hw0k => exact rfl
  intro K hK
  have HK0k : Hid _ := hK
  clear hK
  go_simp
  refine (KS.out _).mono ?_
  rintro e w4 ⟨rfl, hb4⟩
  have I4 : Hid (Below W3.heap.size W3 w4) := below_call0 (Below.drew (Below.refl _ _)) hb4
  clear hb4 KS
  go_wp2_with fail
  refine HK0k.out _ _ ⟨I4.out, ?_⟩
  clear HK0k K
  try simp only [Act.put, List.setIfInBounds_toArray, List.set_cons_zero, List.set_cons_succ]
  refine wpAnyH_one (i := 2) (o := ?o2k) (by kernel_rfl) ?hi2k ?hw2k ?st2k
  case hi2k => rw [List.getElem?_toArray]; exact rfl
  case hw2k => exact rfl
  intro K hK
  have HK2k : Hid _ := hK
  clear hK
  go_simp
  refine (KH.out _).mono ?_
  rintro e w5 ⟨rfl, hb5⟩
  have I5 : Hid (Below W3.heap.size W3 w5) := below_call0 I4.out hb5
  clear hb5 KH
  go_wp2_with fail
  refine HK2k.out _ _ ⟨I5.out, ?_⟩
  clear HK2k K
  try simp only [Act.put, List.setIfInBounds_toArray, List.set_cons_zero, List.set_cons_succ]
  refine wpAnyH_take (i := 3) (oi := ?o3k) (v := ?v3k) ?hi3k (by kernel_rfl) (by kernel_rfl) (by kernel_rfl) ?hQ3k ?hy3k I5.out ?more3k
  case hi3k => rw [List.getElem?_toArray]; exact rfl
  case hQ3k => exact fun _ _ _ h => h
  case hy3k =>
    refine Or.inl ⟨by rfl, ?_⟩
    intro w' hSw
    clear hSw
    go_simp
    try with_reducible rfl
  simp only [Act.put, List.setIfInBounds_toArray, List.set_cons_zero, List.set_cons_succ]
  refine wpAnyH_done (by kernel_rfl) ?_ _
  have HF : Hid (Below w.heap.size w w5) := below_call0 H3.out.1 I5.out
  clear I4 I5 H3
  go_wp2_with fail
  go_ret
  exact ⟨rfl, HF.out⟩
set_option maxRecDepth 100000 in
set_option maxHeartbeats 4000000 in
theorem chk7_ok (zs : List (Nat × Nat × Bool)) (n : Nat) (x : Int) (s : Nat) (b : Option Addr) (kc : Nat) (V R : Pts) (D : Bool) (E : Int) (hsR : s < R256) (hs : s < QQ) (hR : R = gr.mul s gG) (hD : D = true ↔ R = V) (hE : E = if D then 0 else 70) (hV : ∀ w, PntsAt w b zs → Calls Tryd.prog 10 #[.slice b n kc, .int .i64 x] w fun e w' => e = .returned (.tuple #[.agg #[.int .u64 (limb (pX V) 0 : Nat), .int .u64 (limb (pX V) 1 : Nat), .int .u64 (limb (pX V) 2 : Nat), .int .u64 (limb (pX V) 3 : Nat), .int .u64 (limb (pY V) 0 : Nat), .int .u64 (limb (pY V) 1 : Nat), .int .u64 (limb (pY V) 2 : Nat), .int .u64 (limb (pY V) 3 : Nat), .bool (pI V)], .int .i64 0]) ∧ Below w.heap.size w w') (w : World) (hP : PntsAt w b zs) :
    Calls Tryd.prog 12 #[.slice b n kc, .int .i64 x, .agg #[.int .u64 (limb s 0 : Nat), .int .u64 (limb s 1 : Nat), .int .u64 (limb s 2 : Nat), .int .u64 (limb s 3 : Nat)]] w fun e w' => e = .returned (.int .i64 E) ∧ Below w.heap.size w w' := by
  have KV : Hid _ := hV
  have KS : Hid _ := scalars2_any
  have KH : Hid (∀ w, Calls Tryd.prog 28 #[.agg #[.int .u64 (limb (QQ) 0 : Nat), .int .u64 (limb (QQ) 1 : Nat), .int .u64 (limb (QQ) 2 : Nat), .int .u64 (limb (QQ) 3 : Nat), .int .u64 (limb (R256 - (QQ)) 0 : Nat), .int .u64 (limb (R256 - (QQ)) 1 : Nat), .int .u64 (limb (R256 - (QQ)) 2 : Nat), .int .u64 (limb (R256 - (QQ)) 3 : Nat)], .agg #[.int .u64 (limb s 0 : Nat), .int .u64 (limb s 1 : Nat), .int .u64 (limb s 2 : Nat), .int .u64 (limb s 3 : Nat)]] w fun e w' => e = .returned (.bool true) ∧ Below w.heap.size w w') := has2_b QQ s true FM_Q.2.1 hsR (decide_eq_true hs)
  have KT : Hid (∀ w, Calls Tryd.prog 19 #[.agg #[.int .u64 (limb s 0 : Nat), .int .u64 (limb s 1 : Nat), .int .u64 (limb s 2 : Nat), .int .u64 (limb s 3 : Nat)]] w fun e w' => e = .returned (.agg #[.int .u64 (limb (pX R) 0 : Nat), .int .u64 (limb (pX R) 1 : Nat), .int .u64 (limb (pX R) 2 : Nat), .int .u64 (limb (pX R) 3 : Nat), .int .u64 (limb (pY R) 0 : Nat), .int .u64 (limb (pY R) 1 : Nat), .int .u64 (limb (pY R) 2 : Nat), .int .u64 (limb (pY R) 3 : Nat), .bool (pI R)]) ∧ Below w.heap.size w w') := fun w => times7_A s R hsR hR w
  have HQ : Hid (∀ w : World, (Op.equalIn 10000 36 (.agg #[.int .u64 (limb (pX R) 0 : Nat), .int .u64 (limb (pX R) 1 : Nat), .int .u64 (limb (pX R) 2 : Nat), .int .u64 (limb (pX R) 3 : Nat), .int .u64 (limb (pY R) 0 : Nat), .int .u64 (limb (pY R) 1 : Nat), .int .u64 (limb (pY R) 2 : Nat), .int .u64 (limb (pY R) 3 : Nat), .bool (pI R)]) (.agg #[.int .u64 (limb (pX V) 0 : Nat), .int .u64 (limb (pX V) 1 : Nat), .int .u64 (limb (pX V) 2 : Nat), .int .u64 (limb (pX V) 3 : Nat), .int .u64 (limb (pY V) 0 : Nat), .int .u64 (limb (pY V) 1 : Nat), .int .u64 (limb (pY V) 2 : Nat), .int .u64 (limb (pY V) 3 : Nat), .bool (pI V)])).run Tryd.prog w = .ok D w) := fun w => eqPts R V D hD w
  have HE : Hid (E = if D then 0 else 70) := hE
  obtain ⟨W1, hW1⟩ : ∃ W1, W1 = w.alloc (.cells #[.int .u64 (limb s 0 : Nat), .int .u64 (limb s 1 : Nat), .int .u64 (limb s 2 : Nat), .int .u64 (limb s 3 : Nat)] 34) := ⟨_, rfl⟩
  have H1 : Hid (Below w.heap.size w W1 ∧ Bl W1 w.heap.size (numV s) 34 ∧ PntsAt W1 b zs) := by
    have hb : Below w.heap.size w W1 := by
      rw [hW1]
      exact below_alloc0 (Below.refl _ _) _
    refine ⟨hb, ?_, hP.call hb⟩
    rw [hW1]
    exact Bl.new w (numV s) _
  have HW : Hid (W1 = w.alloc (.cells #[.int .u64 (limb s 0 : Nat), .int .u64 (limb s 1 : Nat), .int .u64 (limb s 2 : Nat), .int .u64 (limb s 3 : Nat)] 34)) := hW1
  clear hW1 hP hV hsR hs hR hD hE
  go_enter Tryd.func12, Tryd.ntmps12
  go_upto_region 1 with fail
  rw [← HW.out]
  clear HW
  go_wp2_with fail
  refine (KV.out _ H1.out.2.2).mono ?_
  rintro e w2 ⟨rfl, hb2⟩
  obtain ⟨A, hA⟩ : ∃ A, A = w2.heap.size := ⟨_, rfl⟩
  obtain ⟨W3, hW3⟩ : ∃ W3, W3 = w2.alloc (.cells #[.int .u64 (limb (pX V) 0 : Nat), .int .u64 (limb (pX V) 1 : Nat), .int .u64 (limb (pX V) 2 : Nat), .int .u64 (limb (pX V) 3 : Nat), .int .u64 (limb (pY V) 0 : Nat), .int .u64 (limb (pY V) 1 : Nat), .int .u64 (limb (pY V) 2 : Nat), .int .u64 (limb (pY V) 3 : Nat), .bool (pI V)] 36) := ⟨_, rfl⟩
  have H3 : Hid (Below w.heap.size w W3 ∧ Bl W3 w.heap.size (numV s) 34 ∧ Bl W3 A (ptsV V) 36) := by
    have hb : Below W1.heap.size W1 W3 := by
      rw [hW3]
      exact below_alloc0 hb2 _
    refine ⟨below_call0 H1.out.1 hb, H1.out.2.1.call hb, ?_⟩
    rw [hW3, hA]
    exact Bl.new w2 (ptsV V) _
  have HW : Hid (W3 = w2.alloc (.cells #[.int .u64 (limb (pX V) 0 : Nat), .int .u64 (limb (pX V) 1 : Nat), .int .u64 (limb (pX V) 2 : Nat), .int .u64 (limb (pX V) 3 : Nat), .int .u64 (limb (pY V) 0 : Nat), .int .u64 (limb (pY V) 1 : Nat), .int .u64 (limb (pY V) 2 : Nat), .int .u64 (limb (pY V) 3 : Nat), .bool (pI V)] 36) ∧ A = w2.heap.size) := ⟨hW3, hA⟩
  clear hW3 hA hb2 H1 KV
  go_upto_region 2 with fail
  rw [← HW.out.1, ← HW.out.2]
  clear HW
  go_upto_region 4 with fail
  refine wp_region_H (fun w' => Below W3.heap.size W3 w') 4 rfl (by kernel_rfl) ?_
  refine wpAnyH_take (i := 1) (oi := ?o1k) (v := ?v1k) ?hi1k (by kernel_rfl) (by kernel_rfl) (by kernel_rfl) ?hQ1k ?hy1k (Below.drew (Below.refl _ _)) ?more1k
  case hi1k => rw [List.getElem?_toArray]; exact rfl
  case hQ1k => exact fun _ _ _ h => h
  case hy1k =>
    refine Or.inl ⟨by rfl, ?_⟩
    intro w' hSw
    have q0 := (H3.out.2.1.call hSw).cells 0 _ rfl
    have q1 := (H3.out.2.1.call hSw).cells 1 _ rfl
    have q2 := (H3.out.2.1.call hSw).cells 2 _ rfl
    have q3 := (H3.out.2.1.call hSw).cells 3 _ rfl
    clear hSw
    go_simp
    try with_reducible rfl
  simp only [Act.put, List.setIfInBounds_toArray, List.set_cons_zero, List.set_cons_succ]
  refine wpAnyH_one (i := 0) (o := ?o0k) (by kernel_rfl) ?hi0k ?hw0k ?st0k
  case hi0k => rw [List.getElem?_toArray]; exact rfl
  case hw0k => exact rfl
  intro K hK
  have HK0k : Hid _ := hK
  clear hK
  go_simp
  refine (KS.out _).mono ?_
  rintro e w4 ⟨rfl, hb4⟩
  have I4 : Hid (Below W3.heap.size W3 w4) := below_call0 (Below.drew (Below.refl _ _)) hb4
  clear hb4 KS
  go_wp2_with fail
  refine HK0k.out _ _ ⟨I4.out, ?_⟩
  clear HK0k K
  try simp only [Act.put, List.setIfInBounds_toArray, List.set_cons_zero, List.set_cons_succ]
  refine wpAnyH_one (i := 2) (o := ?o2k) (by kernel_rfl) ?hi2k ?hw2k ?st2k
  case hi2k => rw [List.getElem?_toArray]; exact rfl
  case hw2k => exact rfl
  intro K hK
  have HK2k : Hid _ := hK
  clear hK
  go_simp
  refine (KH.out _).mono ?_
  rintro e w5 ⟨rfl, hb5⟩
  have I5 : Hid (Below W3.heap.size W3 w5) := below_call0 I4.out hb5
  clear hb5 KH
  go_wp2_with fail
  refine HK2k.out _ _ ⟨I5.out, ?_⟩
  clear HK2k K
  try simp only [Act.put, List.setIfInBounds_toArray, List.set_cons_zero, List.set_cons_succ]
  refine wpAnyH_take (i := 3) (oi := ?o3k) (v := ?v3k) ?hi3k (by kernel_rfl) (by kernel_rfl) (by kernel_rfl) ?hQ3k ?hy3k I5.out ?more3k
  case hi3k => rw [List.getElem?_toArray]; exact rfl
  case hQ3k => exact fun _ _ _ h => h
  case hy3k =>
    refine Or.inl ⟨by rfl, ?_⟩
    intro w' hSw
    clear hSw
    go_simp
    try with_reducible rfl
  simp only [Act.put, List.setIfInBounds_toArray, List.set_cons_zero, List.set_cons_succ]
  refine wpAnyH_done (by kernel_rfl) ?_ _
  have H5 : Hid (Below w.heap.size w w5 ∧ Bl w5 w.heap.size (numV s) 34 ∧ Bl w5 A (ptsV V) 36) := ⟨below_call0 H3.out.1 I5.out, H3.out.2.1.call I5.out, H3.out.2.2.call I5.out⟩
  clear I4 I5 H3
  go_upto_region 6 with fail
  have hq := HQ.out
  refine wp_region_H (fun w' => Below w5.heap.size w5 w') 4 rfl (by kernel_rfl) ?_
  refine wpAnyH_take (i := 0) (oi := ?o0l) (v := ?v0l) ?hi0l (by kernel_rfl) (by kernel_rfl) (by kernel_rfl) ?hQ0l ?hy0l (Below.drew (Below.refl _ _)) ?more0l
  case hi0l => rw [List.getElem?_toArray]; exact rfl
  case hQ0l => exact fun _ _ _ h => h
  case hy0l =>
    refine Or.inl ⟨by rfl, ?_⟩
    intro w' hSw
    have q0 := (H5.out.2.1.call hSw).cells 0 _ rfl
    have q1 := (H5.out.2.1.call hSw).cells 1 _ rfl
    have q2 := (H5.out.2.1.call hSw).cells 2 _ rfl
    have q3 := (H5.out.2.1.call hSw).cells 3 _ rfl
    have f0 := (H5.out.2.2.call hSw).cells 0 _ rfl
    have f1 := (H5.out.2.2.call hSw).cells 1 _ rfl
    have f2 := (H5.out.2.2.call hSw).cells 2 _ rfl
    have f3 := (H5.out.2.2.call hSw).cells 3 _ rfl
    have f4 := (H5.out.2.2.call hSw).cells 4 _ rfl
    have f5 := (H5.out.2.2.call hSw).cells 5 _ rfl
    have f6 := (H5.out.2.2.call hSw).cells 6 _ rfl
    have f7 := (H5.out.2.2.call hSw).cells 7 _ rfl
    have f8 := (H5.out.2.2.call hSw).cells 8 _ rfl
    clear hSw
    go_simp
    try with_reducible rfl
  simp only [Act.put, List.setIfInBounds_toArray, List.set_cons_zero, List.set_cons_succ]
  refine wpAnyH_take (i := 2) (oi := ?o2l) (v := ?v2l) ?hi2l (by kernel_rfl) (by kernel_rfl) (by kernel_rfl) ?hQ2l ?hy2l (Below.drew (Below.refl _ _)) ?more2l
  case hi2l => rw [List.getElem?_toArray]; exact rfl
  case hQ2l => exact fun _ _ _ h => h
  case hy2l =>
    refine Or.inl ⟨by rfl, ?_⟩
    intro w' hSw
    have q0 := (H5.out.2.1.call hSw).cells 0 _ rfl
    have q1 := (H5.out.2.1.call hSw).cells 1 _ rfl
    have q2 := (H5.out.2.1.call hSw).cells 2 _ rfl
    have q3 := (H5.out.2.1.call hSw).cells 3 _ rfl
    have f0 := (H5.out.2.2.call hSw).cells 0 _ rfl
    have f1 := (H5.out.2.2.call hSw).cells 1 _ rfl
    have f2 := (H5.out.2.2.call hSw).cells 2 _ rfl
    have f3 := (H5.out.2.2.call hSw).cells 3 _ rfl
    have f4 := (H5.out.2.2.call hSw).cells 4 _ rfl
    have f5 := (H5.out.2.2.call hSw).cells 5 _ rfl
    have f6 := (H5.out.2.2.call hSw).cells 6 _ rfl
    have f7 := (H5.out.2.2.call hSw).cells 7 _ rfl
    have f8 := (H5.out.2.2.call hSw).cells 8 _ rfl
    clear hSw
    go_simp
    try with_reducible rfl
  simp only [Act.put, List.setIfInBounds_toArray, List.set_cons_zero, List.set_cons_succ]
  refine wpAnyH_one (i := 1) (o := ?o1l) (by kernel_rfl) ?hi1l ?hw1l ?st1l
  case hi1l => rw [List.getElem?_toArray]; exact rfl
  case hw1l => exact rfl
  intro K hK
  have HK1l : Hid _ := hK
  clear hK
  go_simp
  refine (KT.out _).mono ?_
  rintro e w6 ⟨rfl, hb6⟩
  have I6 : Hid (Below w5.heap.size w5 w6) := below_call0 (Below.drew (Below.refl _ _)) hb6
  clear hb6 KT
  go_wp2_with fail
  refine HK1l.out _ _ ⟨I6.out, ?_⟩
  clear HK1l K
  try simp only [Act.put, List.setIfInBounds_toArray, List.set_cons_zero, List.set_cons_succ]
  refine wpAnyH_take (i := 3) (oi := ?o3l) (v := ?v3l) ?hi3l (by kernel_rfl) (by kernel_rfl) (by kernel_rfl) ?hQ3l ?hy3l I6.out ?more3l
  case hi3l => rw [List.getElem?_toArray]; exact rfl
  case hQ3l => exact fun _ _ _ h => h
  case hy3l =>
    refine Or.inl ⟨by rfl, ?_⟩
    intro w' hSw
    clear hSw
    go_simp
    try with_reducible rfl
  simp only [Act.put, List.setIfInBounds_toArray, List.set_cons_zero, List.set_cons_succ]
  refine wpAnyH_done (by kernel_rfl) ?_ _
  have HF : Hid (Below w.heap.size w w6) := below_call0 H5.out.1 I6.out
  clear I6 H5 hq HQ
  cases D
  · obtain rfl : E = 70 := HE.out
    go_wp2_with fail
    go_ret
    exact ⟨rfl, HF.out⟩
  · obtain rfl : E = 0 := HE.out
    go_wp2_with fail
    go_ret
    exact ⟨rfl, HF.out⟩
end Go.Proofs.YtkdejflgmgljiaaDoor

namespace Go.Proofs.YtkdejflgmgljiaaDoor
open Go Go.RowKit Go.Lib
theorem eqP_same (X Y : Nat) (I : Bool) (w : World) : (Op.equalIn 10000 36 (.agg #[.int .u64 (limb X 0 : Nat), .int .u64 (limb X 1 : Nat), .int .u64 (limb X 2 : Nat), .int .u64 (limb X 3 : Nat), .int .u64 (limb Y 0 : Nat), .int .u64 (limb Y 1 : Nat), .int .u64 (limb Y 2 : Nat), .int .u64 (limb Y 3 : Nat), .bool I]) (.agg #[.int .u64 (limb X 0 : Nat), .int .u64 (limb X 1 : Nat), .int .u64 (limb X 2 : Nat), .int .u64 (limb X 3 : Nat), .int .u64 (limb Y 0 : Nat), .int .u64 (limb Y 1 : Nat), .int .u64 (limb Y 2 : Nat), .int .u64 (limb Y 3 : Nat), .bool I])).run Tryd.prog w = .ok true w := by
  rw [run_eqP]
  simp [eq4]
theorem zero_pt : (.agg #[.int .u64 0, .int .u64 0, .int .u64 0, .int .u64 0, .int .u64 0, .int .u64 0, .int .u64 0, .int .u64 0, .bool false] : Value) = .agg #[.int .u64 (limb 0 0 : Nat), .int .u64 (limb 0 1 : Nat), .int .u64 (limb 0 2 : Nat), .int .u64 (limb 0 3 : Nat), .int .u64 (limb 0 0 : Nat), .int .u64 (limb 0 1 : Nat), .int .u64 (limb 0 2 : Nat), .int .u64 (limb 0 3 : Nat), .bool false] := rfl
set_option maxRecDepth 100000 in
set_option maxHeartbeats 4000000 in
theorem feldValues_in (zs : List (Nat × Nat × Bool)) (n : Nat) (x : Int) (s : Nat) (b : Option Addr) (kc : Nat) (X Y : Nat) (I : Bool) (E F : Int)
    (hV : ∀ w, GA w → PntsAt w b zs → Calls Tryd.prog 9 #[.slice b n kc, .int .i64 x] w fun e w' => e = .returned (.tuple #[.agg #[.int .u64 (limb X 0 : Nat), .int .u64 (limb X 1 : Nat), .int .u64 (limb X 2 : Nat), .int .u64 (limb X 3 : Nat), .int .u64 (limb Y 0 : Nat), .int .u64 (limb Y 1 : Nat), .int .u64 (limb Y 2 : Nat), .int .u64 (limb Y 3 : Nat), .bool I], .int .i64 E]) ∧ Below w.heap.size w w')
    (hV7 : ∀ w, PntsAt w b zs → Calls Tryd.prog 10 #[.slice b n kc, .int .i64 x] w fun e w' => e = .returned (.tuple #[.agg #[.int .u64 (limb X 0 : Nat), .int .u64 (limb X 1 : Nat), .int .u64 (limb X 2 : Nat), .int .u64 (limb X 3 : Nat), .int .u64 (limb Y 0 : Nat), .int .u64 (limb Y 1 : Nat), .int .u64 (limb Y 2 : Nat), .int .u64 (limb Y 3 : Nat), .bool I], .int .i64 E]) ∧ Below w.heap.size w w')
    (hC : ∀ w, GA w → PntsAt w b zs → Calls Tryd.prog 11 #[.slice b n kc, .int .i64 x, .agg #[.int .u64 (limb s 0 : Nat), .int .u64 (limb s 1 : Nat), .int .u64 (limb s 2 : Nat), .int .u64 (limb s 3 : Nat)]] w fun e w' => e = .returned (.int .i64 F) ∧ Below w.heap.size w w')
    (hC7 : ∀ w, PntsAt w b zs → Calls Tryd.prog 12 #[.slice b n kc, .int .i64 x, .agg #[.int .u64 (limb s 0 : Nat), .int .u64 (limb s 1 : Nat), .int .u64 (limb s 2 : Nat), .int .u64 (limb s 3 : Nat)]] w fun e w' => e = .returned (.int .i64 F) ∧ Below w.heap.size w w')
    (w : World) (hG : GA w) (hP : PntsAt w b zs) :
    Calls Tryd.prog 4 #[.slice b n kc, .int .i64 x, .agg #[.int .u64 (limb s 0 : Nat), .int .u64 (limb s 1 : Nat), .int .u64 (limb s 2 : Nat), .int .u64 (limb s 3 : Nat)]] w fun e w' => e = .returned (.bool true) ∧ Below w.heap.size w w' := by
  have KV : Hid _ := hV
  have K7 : Hid _ := hV7
  have KC : Hid _ := hC
  have KD : Hid _ := hC7
  have KL : Hid _ := line_ok
  have HQ : Hid (∀ w : World, (Op.equalIn 10000 36 (.agg #[.int .u64 (limb X 0 : Nat), .int .u64 (limb X 1 : Nat), .int .u64 (limb X 2 : Nat), .int .u64 (limb X 3 : Nat), .int .u64 (limb Y 0 : Nat), .int .u64 (limb Y 1 : Nat), .int .u64 (limb Y 2 : Nat), .int .u64 (limb Y 3 : Nat), .bool I]) (.agg #[.int .u64 (limb X 0 : Nat), .int .u64 (limb X 1 : Nat), .int .u64 (limb X 2 : Nat), .int .u64 (limb X 3 : Nat), .int .u64 (limb Y 0 : Nat), .int .u64 (limb Y 1 : Nat), .int .u64 (limb Y 2 : Nat), .int .u64 (limb Y 3 : Nat), .bool I])).run Tryd.prog w = .ok true w) := fun w => eqP_same X Y I w
  have he : (E == E) = true := by simp
  have hf : (F == F) = true := by simp
  obtain ⟨W1, hW1⟩ : ∃ W1, W1 = w.alloc (.cells #[.int .u64 (limb s 0 : Nat), .int .u64 (limb s 1 : Nat), .int .u64 (limb s 2 : Nat), .int .u64 (limb s 3 : Nat)] 34) := ⟨_, rfl⟩
  have H1 : Hid (Below w.heap.size w W1 ∧ Bl W1 w.heap.size (numV s) 34 ∧ GA W1 ∧ PntsAt W1 b zs) := by
    have hb : Below w.heap.size w W1 := by
      rw [hW1]
      exact below_alloc0 (Below.refl _ _) _
    refine ⟨hb, ?_, hG.call hb, hP.call hb⟩
    rw [hW1]
    exact Bl.new w (numV s) _
  have HW : Hid (W1 = w.alloc (.cells #[.int .u64 (limb s 0 : Nat), .int .u64 (limb s 1 : Nat), .int .u64 (limb s 2 : Nat), .int .u64 (limb s 3 : Nat)] 34)) := hW1
  clear hW1 hG hP hV hV7 hC hC7
  go_enter Tryd.func4, Tryd.ntmps4
  go_upto_region 1 with fail
  rw [← HW.out]
  clear HW
  go_wp2_with fail
  refine (KV.out _ H1.out.2.2.1 H1.out.2.2.2).mono ?_
  rintro e w2 ⟨rfl, hb2⟩
  obtain ⟨A, hA⟩ : ∃ A, A = w2.heap.size := ⟨_, rfl⟩
  obtain ⟨W3, hW3⟩ : ∃ W3, W3 = w2.alloc (.cells #[.int .u64 (limb X 0 : Nat), .int .u64 (limb X 1 : Nat), .int .u64 (limb X 2 : Nat), .int .u64 (limb X 3 : Nat), .int .u64 (limb Y 0 : Nat), .int .u64 (limb Y 1 : Nat), .int .u64 (limb Y 2 : Nat), .int .u64 (limb Y 3 : Nat), .bool I] 36) := ⟨_, rfl⟩
  have H3 : Hid (Below w.heap.size w W3 ∧ Bl W3 w.heap.size (numV s) 34 ∧ GA W3 ∧ PntsAt W3 b zs ∧ Bl W3 A (ptL X Y I) 36) := by
    have hb : Below W1.heap.size W1 W3 := by
      rw [hW3]
      exact below_alloc0 hb2 _
    refine ⟨below_call0 H1.out.1 hb, H1.out.2.1.call hb, H1.out.2.2.1.call hb, H1.out.2.2.2.call hb, ?_⟩
    rw [hW3, hA]
    exact Bl.new w2 (ptL X Y I) _
  have HW : Hid (W3 = w2.alloc (.cells #[.int .u64 (limb X 0 : Nat), .int .u64 (limb X 1 : Nat), .int .u64 (limb X 2 : Nat), .int .u64 (limb X 3 : Nat), .int .u64 (limb Y 0 : Nat), .int .u64 (limb Y 1 : Nat), .int .u64 (limb Y 2 : Nat), .int .u64 (limb Y 3 : Nat), .bool I] 36) ∧ A = w2.heap.size) := ⟨hW3, hA⟩
  clear hW3 hA hb2 H1 KV
  go_upto_region 2 with fail
  rw [← HW.out.1, ← HW.out.2]
  clear HW
  go_wp2_with fail
  refine (K7.out _ H3.out.2.2.2.1).mono ?_
  rintro e w4 ⟨rfl, hb4⟩
  obtain ⟨B, hB⟩ : ∃ B, B = w4.heap.size := ⟨_, rfl⟩
  obtain ⟨W5, hW5⟩ : ∃ W5, W5 = w4.alloc (.cells #[.int .u64 (limb X 0 : Nat), .int .u64 (limb X 1 : Nat), .int .u64 (limb X 2 : Nat), .int .u64 (limb X 3 : Nat), .int .u64 (limb Y 0 : Nat), .int .u64 (limb Y 1 : Nat), .int .u64 (limb Y 2 : Nat), .int .u64 (limb Y 3 : Nat), .bool I] 36) := ⟨_, rfl⟩
  have H5 : Hid (Below w.heap.size w W5 ∧ Bl W5 w.heap.size (numV s) 34 ∧ GA W5 ∧ PntsAt W5 b zs ∧ Bl W5 A (ptL X Y I) 36 ∧ Bl W5 B (ptL X Y I) 36) := by
    have hb : Below W3.heap.size W3 W5 := by
      rw [hW5]
      exact below_alloc0 hb4 _
    refine ⟨below_call0 H3.out.1 hb, H3.out.2.1.call hb, H3.out.2.2.1.call hb, H3.out.2.2.2.1.call hb, H3.out.2.2.2.2.call hb, ?_⟩
    rw [hW5, hB]
    exact Bl.new w4 (ptL X Y I) _
  have HW : Hid (W5 = w4.alloc (.cells #[.int .u64 (limb X 0 : Nat), .int .u64 (limb X 1 : Nat), .int .u64 (limb X 2 : Nat), .int .u64 (limb X 3 : Nat), .int .u64 (limb Y 0 : Nat), .int .u64 (limb Y 1 : Nat), .int .u64 (limb Y 2 : Nat), .int .u64 (limb Y 3 : Nat), .bool I] 36) ∧ B = w4.heap.size) := ⟨hW5, hB⟩
  clear hW5 hB hb4 H3 K7
  go_upto_region 3 with fail
  rw [← HW.out.1, ← HW.out.2]
  clear HW
  have hq := HQ.out
  refine wp_region_H (fun w' => Below W5.heap.size W5 w') 23 rfl (by kernel_rfl) ?_
  refine wpAnyH_take (i := 0) (oi := ?o0m) (v := ?v0m) ?hi0m (by kernel_rfl) (by kernel_rfl) (by kernel_rfl) ?hQ0m ?hy0m (Below.drew (Below.refl _ _)) ?more0m
  case hi0m => rw [List.getElem?_toArray]; exact rfl
  case hQ0m => exact fun _ _ _ h => h
  case hy0m =>
    refine Or.inl ⟨by rfl, ?_⟩
    intro w' hSw
    have q0 := (H5.out.2.1.call hSw).cells 0 _ rfl
    have q1 := (H5.out.2.1.call hSw).cells 1 _ rfl
    have q2 := (H5.out.2.1.call hSw).cells 2 _ rfl
    have q3 := (H5.out.2.1.call hSw).cells 3 _ rfl
    have f0 := (H5.out.2.2.2.2.1.call hSw).cells 0 _ rfl
    have f1 := (H5.out.2.2.2.2.1.call hSw).cells 1 _ rfl
    have f2 := (H5.out.2.2.2.2.1.call hSw).cells 2 _ rfl
    have f3 := (H5.out.2.2.2.2.1.call hSw).cells 3 _ rfl
    have f4 := (H5.out.2.2.2.2.1.call hSw).cells 4 _ rfl
    have f5 := (H5.out.2.2.2.2.1.call hSw).cells 5 _ rfl
    have f6 := (H5.out.2.2.2.2.1.call hSw).cells 6 _ rfl
    have f7 := (H5.out.2.2.2.2.1.call hSw).cells 7 _ rfl
    have f8 := (H5.out.2.2.2.2.1.call hSw).cells 8 _ rfl
    have g0 := (H5.out.2.2.2.2.2.call hSw).cells 0 _ rfl
    have g1 := (H5.out.2.2.2.2.2.call hSw).cells 1 _ rfl
    have g2 := (H5.out.2.2.2.2.2.call hSw).cells 2 _ rfl
    have g3 := (H5.out.2.2.2.2.2.call hSw).cells 3 _ rfl
    have g4 := (H5.out.2.2.2.2.2.call hSw).cells 4 _ rfl
    have g5 := (H5.out.2.2.2.2.2.call hSw).cells 5 _ rfl
    have g6 := (H5.out.2.2.2.2.2.call hSw).cells 6 _ rfl
    have g7 := (H5.out.2.2.2.2.2.call hSw).cells 7 _ rfl
    have g8 := (H5.out.2.2.2.2.2.call hSw).cells 8 _ rfl
    clear hSw
    go_simp
    try with_reducible rfl
  simp only [Act.put, List.setIfInBounds_toArray, List.set_cons_zero, List.set_cons_succ]
  refine wpAnyH_take (i := 1) (oi := ?o1m) (v := ?v1m) ?hi1m (by kernel_rfl) (by kernel_rfl) (by kernel_rfl) ?hQ1m ?hy1m (Below.drew (Below.refl _ _)) ?more1m
  case hi1m => rw [List.getElem?_toArray]; exact rfl
  case hQ1m => exact fun _ _ _ h => h
  case hy1m =>
    refine Or.inl ⟨by rfl, ?_⟩
    intro w' hSw
    have q0 := (H5.out.2.1.call hSw).cells 0 _ rfl
    have q1 := (H5.out.2.1.call hSw).cells 1 _ rfl
    have q2 := (H5.out.2.1.call hSw).cells 2 _ rfl
    have q3 := (H5.out.2.1.call hSw).cells 3 _ rfl
    have f0 := (H5.out.2.2.2.2.1.call hSw).cells 0 _ rfl
    have f1 := (H5.out.2.2.2.2.1.call hSw).cells 1 _ rfl
    have f2 := (H5.out.2.2.2.2.1.call hSw).cells 2 _ rfl
    have f3 := (H5.out.2.2.2.2.1.call hSw).cells 3 _ rfl
    have f4 := (H5.out.2.2.2.2.1.call hSw).cells 4 _ rfl
    have f5 := (H5.out.2.2.2.2.1.call hSw).cells 5 _ rfl
    have f6 := (H5.out.2.2.2.2.1.call hSw).cells 6 _ rfl
    have f7 := (H5.out.2.2.2.2.1.call hSw).cells 7 _ rfl
    have f8 := (H5.out.2.2.2.2.1.call hSw).cells 8 _ rfl
    have g0 := (H5.out.2.2.2.2.2.call hSw).cells 0 _ rfl
    have g1 := (H5.out.2.2.2.2.2.call hSw).cells 1 _ rfl
    have g2 := (H5.out.2.2.2.2.2.call hSw).cells 2 _ rfl
    have g3 := (H5.out.2.2.2.2.2.call hSw).cells 3 _ rfl
    have g4 := (H5.out.2.2.2.2.2.call hSw).cells 4 _ rfl
    have g5 := (H5.out.2.2.2.2.2.call hSw).cells 5 _ rfl
    have g6 := (H5.out.2.2.2.2.2.call hSw).cells 6 _ rfl
    have g7 := (H5.out.2.2.2.2.2.call hSw).cells 7 _ rfl
    have g8 := (H5.out.2.2.2.2.2.call hSw).cells 8 _ rfl
    clear hSw
    go_simp
    try with_reducible rfl
  simp only [Act.put, List.setIfInBounds_toArray, List.set_cons_zero, List.set_cons_succ]
  refine wpAnyH_take (i := 2) (oi := ?o2m) (v := ?v2m) ?hi2m (by kernel_rfl) (by kernel_rfl) (by kernel_rfl) ?hQ2m ?hy2m (Below.drew (Below.refl _ _)) ?more2m
  case hi2m => rw [List.getElem?_toArray]; exact rfl
  case hQ2m => exact fun _ _ _ h => h
  case hy2m =>
    refine Or.inl ⟨by rfl, ?_⟩
    intro w' hSw
    clear hSw
    go_simp
    try with_reducible rfl
  simp only [Act.put, List.setIfInBounds_toArray, List.set_cons_zero, List.set_cons_succ]
  refine wpAnyH_take (i := 3) (oi := ?o3m) (v := ?v3m) ?hi3m (by kernel_rfl) (by kernel_rfl) (by kernel_rfl) ?hQ3m ?hy3m (Below.drew (Below.refl _ _)) ?more3m
  case hi3m => rw [List.getElem?_toArray]; exact rfl
  case hQ3m => exact fun _ _ _ h => h
  case hy3m =>
    refine Or.inl ⟨by rfl, ?_⟩
    intro w' hSw
    clear hSw
    go_simp
    try with_reducible rfl
  simp only [Act.put, List.setIfInBounds_toArray, List.set_cons_zero, List.set_cons_succ]
  refine wpAnyH_take (i := 4) (oi := ?o4m) (v := ?v4m) ?hi4m (by kernel_rfl) (by kernel_rfl) (by kernel_rfl) ?hQ4m ?hy4m (Below.drew (Below.refl _ _)) ?more4m
  case hi4m => rw [List.getElem?_toArray]; exact rfl
  case hQ4m => exact fun _ _ _ h => h
  case hy4m =>
    refine Or.inl ⟨by rfl, ?_⟩
    intro w' hSw
    clear hSw
    go_simp
    try with_reducible rfl
  simp only [Act.put, List.setIfInBounds_toArray, List.set_cons_zero, List.set_cons_succ]
  refine wpAnyH_take (i := 5) (oi := ?o5m) (v := ?v5m) ?hi5m (by kernel_rfl) (by kernel_rfl) (by kernel_rfl) ?hQ5m ?hy5m (Below.drew (Below.refl _ _)) ?more5m
  case hi5m => rw [List.getElem?_toArray]; exact rfl
  case hQ5m => exact fun _ _ _ h => h
  case hy5m =>
    refine Or.inl ⟨by rfl, ?_⟩
    intro w' hSw
    clear hSw
    go_simp
    try with_reducible rfl
  simp only [Act.put, List.setIfInBounds_toArray, List.set_cons_zero, List.set_cons_succ]
  refine wpAnyH_take (i := 6) (oi := ?o6m) (v := ?v6m) ?hi6m (by kernel_rfl) (by kernel_rfl) (by kernel_rfl) ?hQ6m ?hy6m (Below.drew (Below.refl _ _)) ?more6m
  case hi6m => rw [List.getElem?_toArray]; exact rfl
  case hQ6m => exact fun _ _ _ h => h
  case hy6m =>
    refine Or.inl ⟨by rfl, ?_⟩
    intro w' hSw
    clear hSw
    go_simp
    try with_reducible rfl
  simp only [Act.put, List.setIfInBounds_toArray, List.set_cons_zero, List.set_cons_succ]
  refine wpAnyH_take (i := 7) (oi := ?o7m) (v := ?v7m) ?hi7m (by kernel_rfl) (by kernel_rfl) (by kernel_rfl) ?hQ7m ?hy7m (Below.drew (Below.refl _ _)) ?more7m
  case hi7m => rw [List.getElem?_toArray]; exact rfl
  case hQ7m => exact fun _ _ _ h => h
  case hy7m =>
    refine Or.inl ⟨by rfl, ?_⟩
    intro w' hSw
    clear hSw
    go_simp
    try with_reducible rfl
  simp only [Act.put, List.setIfInBounds_toArray, List.set_cons_zero, List.set_cons_succ]
  refine wpAnyH_take (i := 8) (oi := ?o8m) (v := ?v8m) ?hi8m (by kernel_rfl) (by kernel_rfl) (by kernel_rfl) ?hQ8m ?hy8m (Below.drew (Below.refl _ _)) ?more8m
  case hi8m => rw [List.getElem?_toArray]; exact rfl
  case hQ8m => exact fun _ _ _ h => h
  case hy8m =>
    refine Or.inl ⟨by rfl, ?_⟩
    intro w' hSw
    clear hSw
    go_simp
    try with_reducible rfl
  simp only [Act.put, List.setIfInBounds_toArray, List.set_cons_zero, List.set_cons_succ]
  refine wpAnyH_take (i := 9) (oi := ?o9m) (v := ?v9m) ?hi9m (by kernel_rfl) (by kernel_rfl) (by kernel_rfl) ?hQ9m ?hy9m (Below.drew (Below.refl _ _)) ?more9m
  case hi9m => rw [List.getElem?_toArray]; exact rfl
  case hQ9m => exact fun _ _ _ h => h
  case hy9m =>
    refine Or.inl ⟨by rfl, ?_⟩
    intro w' hSw
    clear hSw
    go_simp
    try with_reducible rfl
  simp only [Act.put, List.setIfInBounds_toArray, List.set_cons_zero, List.set_cons_succ]
  refine wpAnyH_take (i := 10) (oi := ?o10m) (v := ?v10m) ?hi10m (by kernel_rfl) (by kernel_rfl) (by kernel_rfl) ?hQ10m ?hy10m (Below.drew (Below.refl _ _)) ?more10m
  case hi10m => rw [List.getElem?_toArray]; exact rfl
  case hQ10m => exact fun _ _ _ h => h
  case hy10m =>
    refine Or.inl ⟨by rfl, ?_⟩
    intro w' hSw
    clear hSw
    go_simp
    try with_reducible rfl
  simp only [Act.put, List.setIfInBounds_toArray, List.set_cons_zero, List.set_cons_succ]
  refine wpAnyH_take (i := 11) (oi := ?o11m) (v := ?v11m) ?hi11m (by kernel_rfl) (by kernel_rfl) (by kernel_rfl) ?hQ11m ?hy11m (Below.drew (Below.refl _ _)) ?more11m
  case hi11m => rw [List.getElem?_toArray]; exact rfl
  case hQ11m => exact fun _ _ _ h => h
  case hy11m =>
    refine Or.inl ⟨by rfl, ?_⟩
    intro w' hSw
    have q0 := (H5.out.2.1.call hSw).cells 0 _ rfl
    have q1 := (H5.out.2.1.call hSw).cells 1 _ rfl
    have q2 := (H5.out.2.1.call hSw).cells 2 _ rfl
    have q3 := (H5.out.2.1.call hSw).cells 3 _ rfl
    have f0 := (H5.out.2.2.2.2.1.call hSw).cells 0 _ rfl
    have f1 := (H5.out.2.2.2.2.1.call hSw).cells 1 _ rfl
    have f2 := (H5.out.2.2.2.2.1.call hSw).cells 2 _ rfl
    have f3 := (H5.out.2.2.2.2.1.call hSw).cells 3 _ rfl
    have f4 := (H5.out.2.2.2.2.1.call hSw).cells 4 _ rfl
    have f5 := (H5.out.2.2.2.2.1.call hSw).cells 5 _ rfl
    have f6 := (H5.out.2.2.2.2.1.call hSw).cells 6 _ rfl
    have f7 := (H5.out.2.2.2.2.1.call hSw).cells 7 _ rfl
    have f8 := (H5.out.2.2.2.2.1.call hSw).cells 8 _ rfl
    have g0 := (H5.out.2.2.2.2.2.call hSw).cells 0 _ rfl
    have g1 := (H5.out.2.2.2.2.2.call hSw).cells 1 _ rfl
    have g2 := (H5.out.2.2.2.2.2.call hSw).cells 2 _ rfl
    have g3 := (H5.out.2.2.2.2.2.call hSw).cells 3 _ rfl
    have g4 := (H5.out.2.2.2.2.2.call hSw).cells 4 _ rfl
    have g5 := (H5.out.2.2.2.2.2.call hSw).cells 5 _ rfl
    have g6 := (H5.out.2.2.2.2.2.call hSw).cells 6 _ rfl
    have g7 := (H5.out.2.2.2.2.2.call hSw).cells 7 _ rfl
    have g8 := (H5.out.2.2.2.2.2.call hSw).cells 8 _ rfl
    clear hSw
    go_simp
    try with_reducible rfl
  simp only [Act.put, List.setIfInBounds_toArray, List.set_cons_zero, List.set_cons_succ]
  refine wpAnyH_take (i := 13) (oi := ?o13m) (v := ?v13m) ?hi13m (by kernel_rfl) (by kernel_rfl) (by kernel_rfl) ?hQ13m ?hy13m (Below.drew (Below.refl _ _)) ?more13m
  case hi13m => rw [List.getElem?_toArray]; exact rfl
  case hQ13m => exact fun _ _ _ h => h
  case hy13m =>
    refine Or.inl ⟨by rfl, ?_⟩
    intro w' hSw
    clear hSw
    go_simp
    try with_reducible rfl
  simp only [Act.put, List.setIfInBounds_toArray, List.set_cons_zero, List.set_cons_succ]
  refine wpAnyH_take (i := 14) (oi := ?o14m) (v := ?v14m) ?hi14m (by kernel_rfl) (by kernel_rfl) (by kernel_rfl) ?hQ14m ?hy14m (Below.drew (Below.refl _ _)) ?more14m
  case hi14m => rw [List.getElem?_toArray]; exact rfl
  case hQ14m => exact fun _ _ _ h => h
  case hy14m =>
    refine Or.inl ⟨by rfl, ?_⟩
    intro w' hSw
    clear hSw
    go_simp
    try with_reducible rfl
  simp only [Act.put, List.setIfInBounds_toArray, List.set_cons_zero, List.set_cons_succ]
  refine wpAnyH_take (i := 15) (oi := ?o15m) (v := ?v15m) ?hi15m (by kernel_rfl) (by kernel_rfl) (by kernel_rfl) ?hQ15m ?hy15m (Below.drew (Below.refl _ _)) ?more15m
  case hi15m => rw [List.getElem?_toArray]; exact rfl
  case hQ15m => exact fun _ _ _ h => h
  case hy15m =>
    refine Or.inl ⟨by rfl, ?_⟩
    intro w' hSw
    have q0 := (H5.out.2.1.call hSw).cells 0 _ rfl
    have q1 := (H5.out.2.1.call hSw).cells 1 _ rfl
    have q2 := (H5.out.2.1.call hSw).cells 2 _ rfl
    have q3 := (H5.out.2.1.call hSw).cells 3 _ rfl
    have f0 := (H5.out.2.2.2.2.1.call hSw).cells 0 _ rfl
    have f1 := (H5.out.2.2.2.2.1.call hSw).cells 1 _ rfl
    have f2 := (H5.out.2.2.2.2.1.call hSw).cells 2 _ rfl
    have f3 := (H5.out.2.2.2.2.1.call hSw).cells 3 _ rfl
    have f4 := (H5.out.2.2.2.2.1.call hSw).cells 4 _ rfl
    have f5 := (H5.out.2.2.2.2.1.call hSw).cells 5 _ rfl
    have f6 := (H5.out.2.2.2.2.1.call hSw).cells 6 _ rfl
    have f7 := (H5.out.2.2.2.2.1.call hSw).cells 7 _ rfl
    have f8 := (H5.out.2.2.2.2.1.call hSw).cells 8 _ rfl
    have g0 := (H5.out.2.2.2.2.2.call hSw).cells 0 _ rfl
    have g1 := (H5.out.2.2.2.2.2.call hSw).cells 1 _ rfl
    have g2 := (H5.out.2.2.2.2.2.call hSw).cells 2 _ rfl
    have g3 := (H5.out.2.2.2.2.2.call hSw).cells 3 _ rfl
    have g4 := (H5.out.2.2.2.2.2.call hSw).cells 4 _ rfl
    have g5 := (H5.out.2.2.2.2.2.call hSw).cells 5 _ rfl
    have g6 := (H5.out.2.2.2.2.2.call hSw).cells 6 _ rfl
    have g7 := (H5.out.2.2.2.2.2.call hSw).cells 7 _ rfl
    have g8 := (H5.out.2.2.2.2.2.call hSw).cells 8 _ rfl
    clear hSw
    go_simp
    try with_reducible rfl
  simp only [Act.put, List.setIfInBounds_toArray, List.set_cons_zero, List.set_cons_succ]
  refine wpAnyH_one (i := 12) (o := ?o12m) (by kernel_rfl) ?hi12m ?hw12m ?st12m
  case hi12m => rw [List.getElem?_toArray]; exact rfl
  case hw12m => exact rfl
  intro K hK
  have HK12m : Hid _ := hK
  clear hK
  go_simp
  refine (KC.out _ (H5.out.2.2.1.call (Below.drew (Below.refl _ _))) (H5.out.2.2.2.1.call (Below.drew (Below.refl _ _)))).mono ?_
  rintro e w6 ⟨rfl, hb6⟩
  have I6 : Hid (Below W5.heap.size W5 w6) := below_call0 (Below.drew (Below.refl _ _)) hb6
  clear hb6 KC
  go_wp2_with fail
  refine HK12m.out _ _ ⟨I6.out, ?_⟩
  clear HK12m K
  try simp only [Act.put, List.setIfInBounds_toArray, List.set_cons_zero, List.set_cons_succ]
  refine wpAnyH_one (i := 16) (o := ?o16m) (by kernel_rfl) ?hi16m ?hw16m ?st16m
  case hi16m => rw [List.getElem?_toArray]; exact rfl
  case hw16m => exact rfl
  intro K hK
  have HK16m : Hid _ := hK
  clear hK
  go_simp
  refine (KD.out _ (H5.out.2.2.2.1.call I6.out)).mono ?_
  rintro e w7 ⟨rfl, hb7⟩
  have I7 : Hid (Below W5.heap.size W5 w7) := below_call0 I6.out hb7
  clear hb7 KD
  go_wp2_with fail
  refine HK16m.out _ _ ⟨I7.out, ?_⟩
  clear HK16m K
  try simp only [Act.put, List.setIfInBounds_toArray, List.set_cons_zero, List.set_cons_succ]
  refine wpAnyH_take (i := 17) (oi := ?o17m) (v := ?v17m) ?hi17m (by kernel_rfl) (by kernel_rfl) (by kernel_rfl) ?hQ17m ?hy17m I7.out ?more17m
  case hi17m => rw [List.getElem?_toArray]; exact rfl
  case hQ17m => exact fun _ _ _ h => h
  case hy17m =>
    refine Or.inl ⟨by rfl, ?_⟩
    intro w' hSw
    clear hSw
    go_simp
    try with_reducible rfl
  simp only [Act.put, List.setIfInBounds_toArray, List.set_cons_zero, List.set_cons_succ]
  refine wpAnyH_take (i := 18) (oi := ?o18m) (v := ?v18m) ?hi18m (by kernel_rfl) (by kernel_rfl) (by kernel_rfl) ?hQ18m ?hy18m I7.out ?more18m
  case hi18m => rw [List.getElem?_toArray]; exact rfl
  case hQ18m => exact fun _ _ _ h => h
  case hy18m =>
    refine Or.inl ⟨by rfl, ?_⟩
    intro w' hSw
    clear hSw
    go_simp
    try with_reducible rfl
  simp only [Act.put, List.setIfInBounds_toArray, List.set_cons_zero, List.set_cons_succ]
  refine wpAnyH_take (i := 19) (oi := ?o19m) (v := ?v19m) ?hi19m (by kernel_rfl) (by kernel_rfl) (by kernel_rfl) ?hQ19m ?hy19m I7.out ?more19m
  case hi19m => rw [List.getElem?_toArray]; exact rfl
  case hQ19m => exact fun _ _ _ h => h
  case hy19m =>
    refine Or.inl ⟨by rfl, ?_⟩
    intro w' hSw
    clear hSw
    go_simp
    try with_reducible rfl
  simp only [Act.put, List.setIfInBounds_toArray, List.set_cons_zero, List.set_cons_succ]
  refine wpAnyH_one (i := 20) (o := ?o20m) (by kernel_rfl) ?hi20m ?hw20m ?st20m
  case hi20m => rw [List.getElem?_toArray]; exact rfl
  case hw20m => exact rfl
  intro K hK
  have HK20m : Hid _ := hK
  clear hK
  go_simp
  refine (KL.out _ (H5.out.2.2.1.call I7.out)).mono ?_
  rintro e w8 ⟨rfl, hb8⟩
  have I8 : Hid (Below W5.heap.size W5 w8) := below_call0 I7.out hb8
  clear hb8 KL
  go_wp2_with fail
  refine HK20m.out _ _ ⟨I8.out, ?_⟩
  clear HK20m K
  try simp only [Act.put, List.setIfInBounds_toArray, List.set_cons_zero, List.set_cons_succ]
  refine wpAnyH_take (i := 21) (oi := ?o21m) (v := ?v21m) ?hi21m (by kernel_rfl) (by kernel_rfl) (by kernel_rfl) ?hQ21m ?hy21m I8.out ?more21m
  case hi21m => rw [List.getElem?_toArray]; exact rfl
  case hQ21m => exact fun _ _ _ h => h
  case hy21m =>
    refine Or.inl ⟨by rfl, ?_⟩
    intro w' hSw
    clear hSw
    go_simp
    try with_reducible rfl
  simp only [Act.put, List.setIfInBounds_toArray, List.set_cons_zero, List.set_cons_succ]
  refine wpAnyH_take (i := 22) (oi := ?o22m) (v := ?v22m) ?hi22m (by kernel_rfl) (by kernel_rfl) (by kernel_rfl) ?hQ22m ?hy22m I8.out ?more22m
  case hi22m => rw [List.getElem?_toArray]; exact rfl
  case hQ22m => exact fun _ _ _ h => h
  case hy22m =>
    refine Or.inl ⟨by rfl, ?_⟩
    intro w' hSw
    clear hSw
    go_simp
    try with_reducible rfl
  simp only [Act.put, List.setIfInBounds_toArray, List.set_cons_zero, List.set_cons_succ]
  refine wpAnyH_done (by kernel_rfl) ?_ _
  have HF : Hid (Below w.heap.size w w8) := below_call0 H5.out.1 I8.out
  clear I6 I7 I8 H5 hq HQ
  go_wp2_with fail
  go_ret
  exact ⟨rfl, HF.out⟩
theorem feldValues_any (zs : List (Nat × Nat × Bool)) (n : Nat) (x : Int) (s : Nat) (b : Option Addr) (kc : Nat) (hn : n = zs.length) (hZ : ∀ z ∈ zs, z.1 < R256 ∧ z.2.1 < R256) (hs : s < R256) (w : World) (hG : GA w) (hP : PntsAt w b zs) :
    Calls Tryd.prog 4 #[.slice b n kc, .int .i64 x, .agg #[.int .u64 (limb s 0 : Nat), .int .u64 (limb s 1 : Nat), .int .u64 (limb s 2 : Nat), .int .u64 (limb s 3 : Nat)]] w fun e w' => e = .returned (.bool true) ∧ Below w.heap.size w w' := by
  have bad : ∀ E : Int, E ≠ 0 → (∀ w, GA w → PntsAt w b zs → Calls Tryd.prog 9 #[.slice b n kc, .int .i64 x] w fun e w' => e = .returned (.tuple #[.agg #[.int .u64 0, .int .u64 0, .int .u64 0, .int .u64 0, .int .u64 0, .int .u64 0, .int .u64 0, .int .u64 0, .bool false], .int .i64 E]) ∧ Below w.heap.size w w') → (∀ w, PntsAt w b zs → Calls Tryd.prog 10 #[.slice b n kc, .int .i64 x] w fun e w' => e = .returned (.tuple #[.agg #[.int .u64 0, .int .u64 0, .int .u64 0, .int .u64 0, .int .u64 0, .int .u64 0, .int .u64 0, .int .u64 0, .bool false], .int .i64 E]) ∧ Below w.heap.size w w') → Calls Tryd.prog 4 #[.slice b n kc, .int .i64 x, .agg #[.int .u64 (limb s 0 : Nat), .int .u64 (limb s 1 : Nat), .int .u64 (limb s 2 : Nat), .int .u64 (limb s 3 : Nat)]] w fun e w' => e = .returned (.bool true) ∧ Below w.heap.size w w' := fun E h0 hv h7 =>
    feldValues_in zs n x s b kc 0 0 false E E (fun w h1 h2 => by rw [← zero_pt]; exact hv w h1 h2) (fun w h1 => by rw [← zero_pt]; exact h7 w h1) (fun w h1 h2 => fchk_err zs n x s b kc E h0 hv w h1 h2) (fun w h1 => chk7_err zs n x s b kc E h0 h7 w h1) w hG hP
  by_cases h1 : 1 ≤ n ∧ n ≤ 10
  · by_cases h2 : x < 0
    · exact bad 1 (by decide) (fun w _ _ => fval_a2 n x b kc h1 h2 w) (fun w _ => val7_b3 n x b kc h1 h2 w)
    · by_cases h3 : 10 < x
      · exact bad 1 (by decide) (fun w _ _ => fval_a3 n x b kc h1 h2 h3 w) (fun w _ => val7_b4 n x b kc h1 h2 h3 w)
      · obtain ⟨y, rfl⟩ : ∃ y : Nat, x = (y : Int) := ⟨x.toNat, by omega⟩
        have hy : y ≤ 10 := by omega
        by_cases h4 : allP zs = true
        · obtain ⟨cs, rfl⟩ := allP_ok h4
          have hn' : n = cs.length := by rw [hn, List.length_map]
          obtain ⟨V, hV⟩ : ∃ V, V = vaP y cs := ⟨_, rfl⟩
          have kv : ∀ w, GA w → PntsAt w b (cs.map ptT) → Calls Tryd.prog 9 #[.slice b n kc, .int .i64 (y : Nat)] w fun e w' => e = .returned (.tuple #[.agg #[.int .u64 (limb (pX V) 0 : Nat), .int .u64 (limb (pX V) 1 : Nat), .int .u64 (limb (pX V) 2 : Nat), .int .u64 (limb (pX V) 3 : Nat), .int .u64 (limb (pY V) 0 : Nat), .int .u64 (limb (pY V) 1 : Nat), .int .u64 (limb (pY V) 2 : Nat), .int .u64 (limb (pY V) 3 : Nat), .bool (pI V)], .int .i64 0]) ∧ Below w.heap.size w w' := fun w a1 a2 => fval_ok cs n y b kc V hn' h1 hy hV w a1 a2
          have k7 : ∀ w, PntsAt w b (cs.map ptT) → Calls Tryd.prog 10 #[.slice b n kc, .int .i64 (y : Nat)] w fun e w' => e = .returned (.tuple #[.agg #[.int .u64 (limb (pX V) 0 : Nat), .int .u64 (limb (pX V) 1 : Nat), .int .u64 (limb (pX V) 2 : Nat), .int .u64 (limb (pX V) 3 : Nat), .int .u64 (limb (pY V) 0 : Nat), .int .u64 (limb (pY V) 1 : Nat), .int .u64 (limb (pY V) 2 : Nat), .int .u64 (limb (pY V) 3 : Nat), .bool (pI V)], .int .i64 0]) ∧ Below w.heap.size w w' := fun w a1 => val7_ok cs n y b kc V hn' h1 hy hV w a1
          by_cases h5 : s < QQ
          · obtain ⟨R, hR⟩ : ∃ R, R = gr.mul s gG := ⟨_, rfl⟩
            obtain ⟨D, hD⟩ : ∃ D : Bool, D = true ↔ R = V := by
              rcases Classical.em (R = V) with h | h
              · exact ⟨true, by simp [h]⟩
              · exact ⟨false, by simp [h]⟩
            exact feldValues_in _ n y s b kc (pX V) (pY V) (pI V) 0 (if D then 0 else 70) kv k7 (fun w a1 a2 => fchk_ok cs n y s b kc V R D _ hn' h1 hy h5 hV hR hD rfl w a1 a2) (fun w a1 => chk7_ok _ n y s b kc V R D _ hs h5 hR hD rfl k7 w a1) w hG hP
          · exact feldValues_in _ n y s b kc (pX V) (pY V) (pI V) 0 20 kv k7 (fun w a1 a2 => fchk_sc cs n y s b kc V hn' h1 hy hs h5 hV w a1 a2) (fun w a1 => chk7_sc _ n y s b kc V hs h5 k7 w a1) w hG hP
        · have h5 : allP zs = false := by simpa using h4
          exact bad 30 (by decide) (fun w a1 a2 => fval_cu zs n y b kc hn h1 hy h5 hZ w a1 a2) (fun w a1 => val7_cu zs n y b kc hn h1 hy h5 hZ w a1)
  · by_cases h2 : n < 1
    · exact bad 1 (by decide) (fun w _ _ => fval_a1 n x b kc h1 w) (fun w _ => val7_b1 n x b kc h2 w)
    · exact bad 1 (by decide) (fun w _ _ => fval_a1 n x b kc h1 w) (fun w _ => val7_b2 n x b kc (by omega) w)
end Go.Proofs.YtkdejflgmgljiaaDoor
