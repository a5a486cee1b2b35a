/- Several texts laid together. -/
import Derived.Test.YtkdejflgmgljiaaDoorFtX
import Derived.Test.YtkdejflgmgljiaaDoorRf3T
import Derived.OwnWalk
import Derived.Test.YtkdejflgmgljiaaDoorHeldR
namespace Go.Proofs.YtkdejflgmgljiaaDoor
open Go Go.RowKit Go.Lib
theorem limb_GG : (limb GX 0 : Int) = 6481385041966929816 ∧ (limb GX 1 : Int) = 188021827762530521 ∧ (limb GX 2 : Int) = 6170039885052185351 ∧ (limb GX 3 : Int) = 8772561819708210092 ∧ (limb GY 0 : Int) = 11261198710074299576 ∧ (limb GY 1 : Int) = 18237243440184513561 ∧ (limb GY 2 : Int) = 6747795201694173352 ∧ (limb GY 3 : Int) = 5204712524664259685 := ⟨by kernel_rfl, by kernel_rfl, by kernel_rfl, by kernel_rfl, by kernel_rfl, by kernel_rfl, by kernel_rfl, by kernel_rfl⟩
set_option maxRecDepth 100000 in
set_option maxHeartbeats 4000000 in
theorem G3_lit (w : World) : Calls Tryd.prog 35 #[] w fun e w' => e = .returned (.agg #[.int .u64 6481385041966929816, .int .u64 188021827762530521, .int .u64 6170039885052185351, .int .u64 8772561819708210092, .int .u64 11261198710074299576, .int .u64 18237243440184513561, .int .u64 6747795201694173352, .int .u64 5204712524664259685, .bool false]) ∧ Below w.heap.size w w' := by
  obtain ⟨w0, hw0⟩ : ∃ wq, wq = (w.alloc (.cells #[.int .u64 0, .int .u64 0, .int .u64 0, .int .u64 0, .int .u64 0, .int .u64 0, .int .u64 0, .int .u64 0, .bool false] 36)) := ⟨_, rfl⟩
  have H0 : Hid (OwnC w0 (w.heap.size) [.int .u64 0, .int .u64 0, .int .u64 0, .int .u64 0, .int .u64 0, .int .u64 0, .int .u64 0, .int .u64 0, .bool false] ∧ Below w.heap.size w w0) := by
    rw [hw0]
    exact ⟨(OwnC.new' rfl), below_alloc0 (Below.refl _ _) _⟩
  go_enter Tryd.func35, Tryd.ntmps35
  go_upto_region 1 with fail
  rw [← hw0]
  clear hw0
  have f0 := H0.out.1.2.2 0 _ rfl
  have f1 := H0.out.1.2.2 1 _ rfl
  have f2 := H0.out.1.2.2 2 _ rfl
  have f3 := H0.out.1.2.2 3 _ rfl
  have f4 := H0.out.1.2.2 4 _ rfl
  have f5 := H0.out.1.2.2 5 _ rfl
  have f6 := H0.out.1.2.2 6 _ rfl
  have f7 := H0.out.1.2.2 7 _ rfl
  have f8 := H0.out.1.2.2 8 _ rfl
  have fz := H0.out.1.2.1
  go_wp2_with fail
  clear f0 f1 f2 f3 f4 f5 f6 f7 f8 fz
  obtain ⟨wz, hwz⟩ : ∃ wq, wq = (((((((((w0.setCell ⟨w.heap.size, 0, none⟩ (.int .u64 6481385041966929816)).setCell ⟨w.heap.size, 1, none⟩ (.int .u64 188021827762530521)).setCell ⟨w.heap.size, 2, none⟩ (.int .u64 6170039885052185351)).setCell ⟨w.heap.size, 3, none⟩ (.int .u64 8772561819708210092)).setCell ⟨w.heap.size, 4, none⟩ (.int .u64 11261198710074299576)).setCell ⟨w.heap.size, 5, none⟩ (.int .u64 18237243440184513561)).setCell ⟨w.heap.size, 6, none⟩ (.int .u64 6747795201694173352)).setCell ⟨w.heap.size, 7, none⟩ (.int .u64 5204712524664259685)).setCell ⟨w.heap.size, 8, none⟩ (.bool false)) := ⟨_, rfl⟩
  rw [← hwz]
  have HZ : OwnC wz w.heap.size [.int .u64 6481385041966929816, .int .u64 188021827762530521, .int .u64 6170039885052185351, .int .u64 8772561819708210092, .int .u64 11261198710074299576, .int .u64 18237243440184513561, .int .u64 6747795201694173352, .int .u64 5204712524664259685, .bool false] ∧ Below w.heap.size w wz := by
    rw [hwz]
    exact ⟨OwnC.put [.int .u64 6481385041966929816, .int .u64 188021827762530521, .int .u64 6170039885052185351, .int .u64 8772561819708210092, .int .u64 11261198710074299576, .int .u64 18237243440184513561, .int .u64 6747795201694173352, .int .u64 5204712524664259685, .bool false] H0.out.1 rfl, below_putL (Nat.le_refl _) [.int .u64 6481385041966929816, .int .u64 188021827762530521, .int .u64 6170039885052185351, .int .u64 8772561819708210092, .int .u64 11261198710074299576, .int .u64 18237243440184513561, .int .u64 6747795201694173352, .int .u64 5204712524664259685, .bool false] 0 _ H0.out.2⟩
  clear hwz
  obtain ⟨hO, HB⟩ := HZ
  have r0 := hO.2.2 0 _ rfl
  have r1 := hO.2.2 1 _ rfl
  have r2 := hO.2.2 2 _ rfl
  have r3 := hO.2.2 3 _ rfl
  have r4 := hO.2.2 4 _ rfl
  have r5 := hO.2.2 5 _ rfl
  have r6 := hO.2.2 6 _ rfl
  have r7 := hO.2.2 7 _ rfl
  have r8 := hO.2.2 8 _ rfl
  refine bodyPost_ret (v := .agg #[.int .u64 6481385041966929816, .int .u64 188021827762530521, .int .u64 6170039885052185351, .int .u64 8772561819708210092, .int .u64 11261198710074299576, .int .u64 18237243440184513561, .int .u64 6747795201694173352, .int .u64 5204712524664259685, .bool false]) ?_ rfl ⟨rfl, HB⟩
  simp [results, Tryd.results35, go_sem, r0, r1, r2, r3, r4, r5, r6, r7, r8]
theorem G3_A (w : World) : Calls Tryd.prog 35 #[] w fun e w' => e = .returned (.agg #[.int .u64 (limb (pX gG) 0 : Nat), .int .u64 (limb (pX gG) 1 : Nat), .int .u64 (limb (pX gG) 2 : Nat), .int .u64 (limb (pX gG) 3 : Nat), .int .u64 (limb (pY gG) 0 : Nat), .int .u64 (limb (pY gG) 1 : Nat), .int .u64 (limb (pY gG) 2 : Nat), .int .u64 (limb (pY gG) 3 : Nat), .bool (pI gG)]) ∧ Below w.heap.size w w' := by
  obtain ⟨e0, e1, e2, e3, e4, e5, e6, e7⟩ := limb_GG
  rw [gG_x, gG_y, gG_i, e0, e1, e2, e3, e4, e5, e6, e7]
  exact G3_lit w
set_option maxRecDepth 100000 in
set_option maxHeartbeats 4000000 in
theorem times7_A (k : Nat) (R : Pts) (hk : k < R256) (hR : R = gr.mul k gG) (w : World) :
    Calls Tryd.prog 19 #[.agg #[.int .u64 (limb k 0 : Nat), .int .u64 (limb k 1 : Nat), .int .u64 (limb k 2 : Nat), .int .u64 (limb k 3 : Nat)]] w fun e w' => e = .returned (.agg #[.int .u64 (limb (pX R) 0 : Nat), .int .u64 (limb (pX R) 1 : Nat), .int .u64 (limb (pX R) 2 : Nat), .int .u64 (limb (pX R) 3 : Nat), .int .u64 (limb (pY R) 0 : Nat), .int .u64 (limb (pY R) 1 : Nat), .int .u64 (limb (pY R) 2 : Nat), .int .u64 (limb (pY R) 3 : Nat), .bool (pI R)]) ∧ Below w.heap.size w w' := by
  have K1 : Hid (∀ w, Calls Tryd.prog 35 #[] w fun e w' => e = .returned (.agg #[.int .u64 (limb (pX gG) 0 : Nat), .int .u64 (limb (pX gG) 1 : Nat), .int .u64 (limb (pX gG) 2 : Nat), .int .u64 (limb (pX gG) 3 : Nat), .int .u64 (limb (pY gG) 0 : Nat), .int .u64 (limb (pY gG) 1 : Nat), .int .u64 (limb (pY gG) 2 : Nat), .int .u64 (limb (pY gG) 3 : Nat), .bool (pI gG)]) ∧ Below w.heap.size w w') := G3_A
  obtain ⟨X1, Y1, Z1, o1, q1⟩ := in3_A gG
  have K4 : Hid (∀ w, Calls Tryd.prog 24 #[.agg #[.int .u64 (limb (pX gG) 0 : Nat), .int .u64 (limb (pX gG) 1 : Nat), .int .u64 (limb (pX gG) 2 : Nat), .int .u64 (limb (pX gG) 3 : Nat), .int .u64 (limb (pY gG) 0 : Nat), .int .u64 (limb (pY gG) 1 : Nat), .int .u64 (limb (pY gG) 2 : Nat), .int .u64 (limb (pY gG) 3 : Nat), .bool (pI gG)]] w fun e w' => e = .returned (.agg #[.int .u64 (limb (X1) 0 : Nat), .int .u64 (limb (X1) 1 : Nat), .int .u64 (limb (X1) 2 : Nat), .int .u64 (limb (X1) 3 : Nat), .int .u64 (limb (Y1) 0 : Nat), .int .u64 (limb (Y1) 1 : Nat), .int .u64 (limb (Y1) 2 : Nat), .int .u64 (limb (Y1) 3 : Nat), .int .u64 (limb (Z1) 0 : Nat), .int .u64 (limb (Z1) 1 : Nat), .int .u64 (limb (Z1) 2 : Nat), .int .u64 (limb (Z1) 3 : Nat)]) ∧ Below w.heap.size w w') := q1
  obtain ⟨X2, Y2, Z2, o2, q2⟩ := times3_A k _ _ _ gG hk o1
  have K5 : Hid (∀ w, Calls Tryd.prog 34 #[.agg #[.int .u64 (limb k 0 : Nat), .int .u64 (limb k 1 : Nat), .int .u64 (limb k 2 : Nat), .int .u64 (limb k 3 : Nat)], .agg #[.int .u64 (limb (X1) 0 : Nat), .int .u64 (limb (X1) 1 : Nat), .int .u64 (limb (X1) 2 : Nat), .int .u64 (limb (X1) 3 : Nat), .int .u64 (limb (Y1) 0 : Nat), .int .u64 (limb (Y1) 1 : Nat), .int .u64 (limb (Y1) 2 : Nat), .int .u64 (limb (Y1) 3 : Nat), .int .u64 (limb (Z1) 0 : Nat), .int .u64 (limb (Z1) 1 : Nat), .int .u64 (limb (Z1) 2 : Nat), .int .u64 (limb (Z1) 3 : Nat)]] w fun e w' => e = .returned (.agg #[.int .u64 (limb (X2) 0 : Nat), .int .u64 (limb (X2) 1 : Nat), .int .u64 (limb (X2) 2 : Nat), .int .u64 (limb (X2) 3 : Nat), .int .u64 (limb (Y2) 0 : Nat), .int .u64 (limb (Y2) 1 : Nat), .int .u64 (limb (Y2) 2 : Nat), .int .u64 (limb (Y2) 3 : Nat), .int .u64 (limb (Z2) 0 : Nat), .int .u64 (limb (Z2) 1 : Nat), .int .u64 (limb (Z2) 2 : Nat), .int .u64 (limb (Z2) 3 : Nat)]) ∧ Below w.heap.size w w') := q2
  have K6 : Hid (∀ w, Calls Tryd.prog 26 #[.agg #[.int .u64 (limb (X2) 0 : Nat), .int .u64 (limb (X2) 1 : Nat), .int .u64 (limb (X2) 2 : Nat), .int .u64 (limb (X2) 3 : Nat), .int .u64 (limb (Y2) 0 : Nat), .int .u64 (limb (Y2) 1 : Nat), .int .u64 (limb (Y2) 2 : Nat), .int .u64 (limb (Y2) 3 : Nat), .int .u64 (limb (Z2) 0 : Nat), .int .u64 (limb (Z2) 1 : Nat), .int .u64 (limb (Z2) 2 : Nat), .int .u64 (limb (Z2) 3 : Nat)]] w fun e w' => e = .returned (.agg #[.int .u64 (limb (pX R) 0 : Nat), .int .u64 (limb (pX R) 1 : Nat), .int .u64 (limb (pX R) 2 : Nat), .int .u64 (limb (pX R) 3 : Nat), .int .u64 (limb (pY R) 0 : Nat), .int .u64 (limb (pY R) 1 : Nat), .int .u64 (limb (pY R) 2 : Nat), .int .u64 (limb (pY R) 3 : Nat), .bool (pI R)]) ∧ Below w.heap.size w w') := fun w => by rw [hR]; exact out3_A _ _ _ (gr.mul k gG) o2 w
  obtain ⟨w0, hw0⟩ : ∃ wq, wq = ((w.alloc (.cells #[.int .u64 (limb k 0 : Nat), .int .u64 (limb k 1 : Nat), .int .u64 (limb k 2 : Nat), .int .u64 (limb k 3 : Nat)] 34)).alloc (.cells #[.int .u64 0, .int .u64 0, .int .u64 0, .int .u64 0, .int .u64 0, .int .u64 0, .int .u64 0, .int .u64 0, .bool false] 36)) := ⟨_, rfl⟩
  have H0 : Hid (OwnC w0 (w.heap.size) (numL k)) ∧ Hid (OwnC w0 (w.heap.size + 1) zpL) ∧ Hid (Below w.heap.size w w0) := by
    rw [hw0]
    exact ⟨(OwnC.new' rfl).alloc, (OwnC.new' (by simp only [World.size_alloc])), below_alloc0 (below_alloc0 (Below.refl _ _) _) _⟩
  obtain ⟨P0_0, P1_0, W_0⟩ := H0
  clear o1 q1 o2 q2 hR hk
  go_enter Tryd.func19, Tryd.ntmps19
  go_upto_region 1 with fail
  rw [← hw0]
  clear hw0
  refine wp_region_J 5 0 [?v0r6, ?v1r6, ?v2r6, ?v3r6, ?v4r6] [some 3, some 4, some 5, some 6, some 7] ?Ar6 (by kernel_rfl) (by kernel_rfl) (by kernel_rfl) rfl ?hAr6 ?hopr6 ?hfinr6
  case hAr6 =>
    simp only [List.set_cons_zero, List.set_cons_succ, List.zip_cons_cons, List.zip_nil_right, fillD, Act.put, List.setIfInBounds_toArray]
    exact rfl
  case hopr6 =>
    refine ⟨?_, ?_, ?_, ?_, ?_, trivial⟩
    focus (intro _ bq wx hS; refine OpTo.yields rfl ?_; obtain ⟨_, _, _, _, _, _⟩ := (OwnC.call P0_0.out hS).num; clear hS; go_simp; try with_reducible rfl)
    focus (intro _ bq wx hS; refine OpTo.calls rfl ?_ ?_; rotate_left; intro K hK; go_simp; refine (K1.out _).mono ?_; rintro e w' ⟨rfl, hq⟩; exact hK w' hq; exact rfl)
    focus (intro _ bq wx hS; refine OpTo.calls rfl ?_ ?_; rotate_left; intro K hK; go_simp; refine (K4.out _).mono ?_; rintro e w' ⟨rfl, hq⟩; exact hK w' hq; exact rfl)
    focus (intro _ bq wx hS; refine OpTo.calls rfl ?_ ?_; rotate_left; intro K hK; go_simp; refine (K5.out _).mono ?_; rintro e w' ⟨rfl, hq⟩; exact hK w' hq; exact rfl)
    focus (intro _ bq wx hS; refine OpTo.calls rfl ?_ ?_; rotate_left; intro K hK; go_simp; refine (K6.out _).mono ?_; rintro e w' ⟨rfl, hq⟩; exact hK w' hq; exact rfl)
  case hfinr6 =>
    intro wx hS
    refine tail_at (o := ?ofr6_5) ?hir6_5 ?hwr6_5 ?_
    case hir6_5 => rw [List.getElem?_toArray]; exact rfl
    case hwr6_5 => exact rfl
    obtain ⟨gP2z, gP20, gP21, gP22, gP23, gP24, gP25, gP26, gP27, gP28, gP2f⟩ := (OwnC.call P1_0.out hS).zp
    go_simp
    clear gP2z gP20 gP21 gP22 gP23 gP24 gP25 gP26 gP27 gP28 gP2f
    refine tail_end ?_
    obtain ⟨wz, hwz⟩ : ∃ wq, wq = (((((((((wx.setCell ⟨(w.heap.size + 1), 0, none⟩ (.int .u64 (limb (pX R) 0 : Nat))).setCell ⟨(w.heap.size + 1), 1, none⟩ (.int .u64 (limb (pX R) 1 : Nat))).setCell ⟨(w.heap.size + 1), 2, none⟩ (.int .u64 (limb (pX R) 2 : Nat))).setCell ⟨(w.heap.size + 1), 3, none⟩ (.int .u64 (limb (pX R) 3 : Nat))).setCell ⟨(w.heap.size + 1), 4, none⟩ (.int .u64 (limb (pY R) 0 : Nat))).setCell ⟨(w.heap.size + 1), 5, none⟩ (.int .u64 (limb (pY R) 1 : Nat))).setCell ⟨(w.heap.size + 1), 6, none⟩ (.int .u64 (limb (pY R) 2 : Nat))).setCell ⟨(w.heap.size + 1), 7, none⟩ (.int .u64 (limb (pY R) 3 : Nat))).setCell ⟨(w.heap.size + 1), 8, none⟩ (.bool (pI R))) := ⟨_, rfl⟩
    rw [← hwz]
    have hwy : wz = putL (w.heap.size + 1) 0 (ptL (pX R) (pY R) (pI R)) wx := hwz
    have HZ : OwnC wz (w.heap.size + 1) (ptL (pX R) (pY R) (pI R)) ∧ Below w.heap.size w wz := by
      rw [hwy]
      exact ⟨OwnC.put (ptL (pX R) (pY R) (pI R)) (OwnC.call P1_0.out hS) rfl, below_putL (Nat.le_succ_of_le (Nat.le_refl _)) (ptL (pX R) (pY R) (pI R)) 0 _ (below_call0 W_0.out hS)⟩
    clear hwz hwy
    obtain ⟨hO, HB⟩ := HZ
    obtain ⟨rz, r0, r1, r2, r3, r4, r5, r6, r7, r8, rf⟩ := hO.pt
    rename_i Kz hKz
    refine hKz _ _ ?_
    refine wp_ret ?_
    refine bodyPost_ret (v := .agg #[.int .u64 (limb (pX R) 0 : Nat), .int .u64 (limb (pX R) 1 : Nat), .int .u64 (limb (pX R) 2 : Nat), .int .u64 (limb (pX R) 3 : Nat), .int .u64 (limb (pY R) 0 : Nat), .int .u64 (limb (pY R) 1 : Nat), .int .u64 (limb (pY R) 2 : Nat), .int .u64 (limb (pY R) 3 : Nat), .bool (pI R)]) ?_ rfl ⟨rfl, HB⟩
    simp [results, Tryd.results19, go_sem, r0, r1, r2, r3, r4, r5, r6, r7, r8]
end Go.Proofs.YtkdejflgmgljiaaDoor

namespace Go.Proofs.YtkdejflgmgljiaaDoor
open Go Go.RowKit Go.Lib
theorem infPt : ∃ i z, Tryd.prog.info? 36 = some i ∧ i.zero = some z ∧ i.size = 9 ∧ i.bytes = 72 ∧ z.cells.size = 9 := by
  have h : (Tryd.prog.info? 36).map (fun i => (i.zero, i.size, i.bytes)) = some (some (.agg #[.int .u64 0, .int .u64 0, .int .u64 0, .int .u64 0, .int .u64 0, .int .u64 0, .int .u64 0, .int .u64 0, .bool false]), 9, 72) := by kernel_rfl
  cases e : Tryd.prog.info? 36 with
  | none => rw [e] at h; cases h
  | some i =>
    rw [e] at h
    simp only [Option.map_some, Option.some.injEq, Prod.mk.injEq] at h
    exact ⟨i, _, rfl, h.1, h.2.1, h.2.2, rfl⟩
def cellsG : List Pts → List Value
  | [] => []
  | p :: r => ptsV p ++ cellsG r
theorem cellsG_append : ∀ (l m : List Pts), cellsG (l ++ m) = cellsG l ++ cellsG m
  | [], _ => rfl
  | p :: r, m => by
    show ptsV p ++ cellsG (r ++ m) = (ptsV p ++ cellsG r) ++ cellsG m
    rw [cellsG_append r m, List.append_assoc]
theorem cellsG_get : ∀ (l : List Pts) (j : Nat) (q : Pts) (i : Nat) (v : Value), l[j]? = some q → (ptsV q)[i]? = some v → (cellsG l)[j * 9 + i]? = some v
  | [], j, q, i, v, h, _ => by simp at h
  | x :: l, 0, q, i, v, h, hi => by
    simp at h
    subst h
    have h9 : i < (ptsV x).length := (List.getElem?_eq_some_iff.1 hi).1
    show (ptsV x ++ cellsG l)[0 * 9 + i]? = _
    rw [Nat.zero_mul, Nat.zero_add, List.getElem?_append_left h9]
    exact hi
  | x :: l, j + 1, q, i, v, h, hi => by
    show (ptsV x ++ cellsG l)[(j + 1) * 9 + i]? = _
    rw [List.getElem?_append_right (by show 9 ≤ _; omega)]
    have e2 : (j + 1) * 9 + i - (ptsV x).length = j * 9 + i := by show _ - 9 = _; omega
    rw [e2]
    exact cellsG_get l j q i v (by simpa using h) hi
/-- A list of points that is one's own. -/
def RowG (w : World) (base : Nat) (a : Option Addr) (l : List Pts) (cap : Nat) : Prop := w.ownsRow base 36 9 (.slice a l.length cap) l.length (cellsG l)
theorem RowG.nil (w : World) (base : Nat) : RowG w base none [] 0 := World.ownsRow_nil w base _ 9
theorem RowG.call {w w' : World} {base cap : Nat} {a : Option Addr} {l : List Pts} (h : RowG w base a l cap) (hb : Below w.heap.size w w') : RowG w' base a l cap :=
  World.ownsRow.kept h (row := none) ⟨hb.os, hb.tape, hb.output, hb.size, fun k hk _ => hb.block k hk⟩ (by
    cases e : (Value.slice a l.length cap).ownBlock with
    | none => exact .inl rfl
    | some k => exact .inr (by simp))
theorem RowG.pts {w : World} {base cap : Nat} {a : Option Addr} {l : List Pts} (h : RowG w base a l cap) : PtsAt w a l := by
  intro j n hj
  rcases h.2 with ⟨h1, h2⟩ | ⟨g, cap', cur, h1, h2, h3, h4, h5, h6, h7⟩
  · have : l = [] := List.eq_nil_of_length_eq_zero h2
    subst this
    simp at hj
  · injection h1 with h1 _ h1c
    subst h1
    rw [List.getElem?_map] at hj
    obtain ⟨q, hq, rfl⟩ := Option.map_eq_some_iff.1 hj
    have K : ∀ i v, (ptsV q)[i]? = some v → w.cell? ⟨g, 0 + j * 9 + i, none⟩ = some v := fun i v hv => by
      have := World.ownsRow.cells h (g := g) (by simp [Value.ownBlock]) (j * 9 + i) _ (cellsG_get l j q i v hq hv)
      rw [Addr.add_mid] at this
      rw [← this]
      congr 2
      omega
    exact ⟨g, 0, rfl, (Array.getElem?_eq_some_iff.1 h3).1, K 0 _ rfl, K 1 _ rfl, K 2 _ rfl, K 3 _ rfl, K 4 _ rfl, K 5 _ rfl, K 6 _ rfl, K 7 _ rfl, K 8 _ rfl⟩
theorem wpList_append_RowG (w : World) {ops : Array Oper} {rest : List Oper} {o : Oper} {a : Act} {Q : Exit → Act → World → Prop} (hgd : o.guard = none)
    (sl x : Operand) (hop : o.op = Op.call { callee := Callee.builtin Builtin.append, args := #[sl, x], argTypes := #[23, 23] })
    (base : Nat) (aa : Option Addr) (n cap : Nat) (l : List Pts) (s : Pts) (hs : a.eval sl = .slice aa n cap) (hnn : n = l.length) (h : RowG w base aa l cap) (hB : base ≤ w.heap.size) (hl : l.length ≤ 1000000)
    (b c : Nat) (hx : a.eval x = .slice (some ⟨b, 0, none⟩) 1 c) (hc : Bl w b (ptsV s) 36)
    (hK : ∀ a' m' cap' w', m' = n + 1 → RowG w' base a' (l ++ [s]) cap' → Below base w w' → wpList Tryd.prog ops Q rest (a.put o.dst (.slice a' m' cap')) w') : wpList Tryd.prog ops Q (o :: rest) a w := by
  obtain ⟨i, z, hi, hz, hsize, hby, hzs⟩ := infPt
  subst hnn
  refine wpList_append_own w hgd sl x 23 hop base 36 i z 9 72 Tryd.underlying23 hi hz hsize hby hzs (by decide) (.slice aa l.length cap) l.length (cellsG l) hs h ⟨b, 0, none⟩ 1 c (ptsV s) hx rfl (fun j u hj => ?_) (fun u hu => ?_) (by unfold maxLen; omega) (by omega) hB (fun v' w' ho hg _ => ?_)
  · have h' : w.heap[b]? = some (.cells (ptsV s).toArray 36) := hc
    rw [Addr.add_mid, Nat.zero_add]
    simpa [World.cell?, h'] using hj
  · have : ((ptsV s).all fun u => u.oneCell') = true := rfl
    exact List.all_eq_true.1 this u hu
  · have ho' : w'.ownsRow base 36 9 v' (l ++ [s]).length (cellsG (l ++ [s])) := by
      rw [List.length_append, cellsG_append]
      have e : cellsG [s] = ptsV s := List.append_nil _
      rw [e]; exact ho
    have hv : ∃ a' cap', v' = .slice a' (l ++ [s]).length cap' := by
      rcases ho'.2 with ⟨rfl, h2⟩ | ⟨g, cap', cur, rfl, _⟩
      · exact ⟨none, 0, by rw [h2]⟩
      · exact ⟨_, cap', rfl⟩
    obtain ⟨a', cap', rfl⟩ := hv
    have hb : Below base w w' := (Below.refl base w).grown hg hB (fun k hk => (World.ownsRow.lt h k hk).1)
    have := hK a' (l.length + 1) cap' w' rfl ho' hb
    simpa using this
theorem com7_A1 (n : Nat) (a : Option Addr) (kc : Nat) (h : ¬ (1 ≤ n ∧ n ≤ 10)) (w : World) : Calls Tryd.prog 6 #[.slice a n kc] w fun e w' => e = .returned (.tuple #[.slice none 0 0, .int .i64 1]) ∧ w' = w := by
  by_cases h1 : n < 1
  · have d1 : (n : Int) < 1 := by omega
    clear h h1
    go_enter Tryd.func6, Tryd.ntmps6
    go_wp2_with fail
    refine bodyPost_ret (v := .tuple #[.slice none 0 0, .int .i64 1]) (by simp [results, Tryd.results6]) rfl ⟨rfl, rfl⟩
  · have d1 : ¬ (n : Int) < 1 := by omega
    have d2 : (10 : Int) < (n : Int) := by omega
    clear h h1
    go_enter Tryd.func6, Tryd.ntmps6
    go_wp2_with fail
    refine bodyPost_ret (v := .tuple #[.slice none 0 0, .int .i64 1]) (by simp [results, Tryd.results6]) rfl ⟨rfl, rfl⟩
set_option maxRecDepth 100000 in
set_option maxHeartbeats 4000000 in
theorem com7_A2 (l : List Nat) (n : Nat) (a : Option Addr) (kc : Nat) (hn : n = l.length) (h : 1 ≤ n ∧ n ≤ 10) (hR : ∀ k ∈ l, k < R256) (hQ : allQ l = false) (w : World) (hN : Nums w a l) : Calls Tryd.prog 6 #[.slice a n kc] w fun e w' => e = .returned (.tuple #[.slice none 0 0, .int .i64 20]) ∧ Below w.heap.size w w' := by
  have KS : Hid (∀ w, Nums w a l → Calls Tryd.prog 18 #[.slice a n kc] w fun e w' => e = .returned (.bool false) ∧ Below w.heap.size w w') := fun w hw => by
    have k := scal2_all a l kc (by omega) hR w hw
    rw [hQ, ← hn] at k
    exact k
  have d1 : ¬ (n : Int) < 1 := by omega
  have d2 : ¬ (10 : Int) < (n : Int) := by omega
  have HN : Hid (Nums w a l) := hN
  clear h hn hR hQ hN
  go_enter Tryd.func6, Tryd.ntmps6
  go_wp2_with fail
  refine (KS.out _ HN.out).mono ?_
  rintro e w1 ⟨rfl, hb1⟩
  have H1 : Hid (Below w.heap.size w w1) := hb1
  clear hb1 KS
  go_wp2_with fail
  refine bodyPost_ret (v := .tuple #[.slice none 0 0, .int .i64 20]) (by simp [results, Tryd.results6]) rfl ⟨rfl, H1.out⟩
set_option maxRecDepth 100000 in
set_option maxHeartbeats 4000000 in
theorem com7_A0 (l : List Nat) (n : Nat) (a : Option Addr) (kc : Nat) (hn : n = l.length) (h : 1 ≤ n ∧ n ≤ 10) (hQ : allQ l = true) (w : World) (hN : Nums w a l) : Calls Tryd.prog 6 #[.slice a n kc] w fun e w' => (∃ b d, e = .returned (.tuple #[.slice b n d, .int .i64 0]) ∧ PtsAt w' b (l.map fun k => gr.mul k gG)) ∧ Below w.heap.size w w' := by
  have hQR : ∀ k ∈ l, k < R256 := fun k hk => Nat.lt_trans (allQ_mem hQ hk) FM_Q.2.1
  have KS : Hid (∀ w, Nums w a l → Calls Tryd.prog 18 #[.slice a n kc] w fun e w' => e = .returned (.bool true) ∧ Below w.heap.size w w') := fun w hw => by
    have k := scal2_all a l kc (by omega) hQR w hw
    rw [hQ, ← hn] at k
    exact k
  have KT : Hid (∀ (k : Nat) (R : Pts), k < R256 → R = gr.mul k gG → ∀ w, Calls Tryd.prog 19 #[.agg #[.int .u64 (limb k 0 : Nat), .int .u64 (limb k 1 : Nat), .int .u64 (limb k 2 : Nat), .int .u64 (limb k 3 : Nat)]] w fun e w' => e = .returned (.agg #[.int .u64 (limb (pX R) 0 : Nat), .int .u64 (limb (pX R) 1 : Nat), .int .u64 (limb (pX R) 2 : Nat), .int .u64 (limb (pX R) 3 : Nat), .int .u64 (limb (pY R) 0 : Nat), .int .u64 (limb (pY R) 1 : Nat), .int .u64 (limb (pY R) 2 : Nat), .int .u64 (limb (pY R) 3 : Nat), .bool (pI R)]) ∧ Below w.heap.size w w') := fun k R hk hR w => times7_A k R hk hR w
  have d1 : ¬ (n : Int) < 1 := by omega
  have d2 : ¬ (10 : Int) < (n : Int) := by omega
  have n64 : (n : Int) ≤ 64 := by omega
  have HN : Hid (Nums w a l ∧ n = l.length ∧ n ≤ 10 ∧ ∀ k ∈ l, k < R256) := ⟨hN, hn, h.2, hQR⟩
  clear h hn hQR hQ hN
  go_enter Tryd.func6, Tryd.ntmps6
  go_wp2_with fail
  refine (KS.out _ HN.out.1).mono ?_
  rintro e w1 ⟨rfl, hb1⟩
  have H1 : Hid (Below w.heap.size w w1) := hb1
  clear hb1 KS
  go_wp2_with fail
  rename_i Kr hKr
  have HKr : Hid _ := hKr
  clear hKr
  go_loopw [4, 20] (fun ov iv wr => ∃ (k : Nat) (b : Option Addr) (d m : Nat), k ≤ n ∧ m = k ∧ ov = .slice b m d ∧ iv = .int .i64 (k : Nat) ∧ RowG wr w.heap.size b ((l.take k).map fun k => gr.mul k gG) d ∧ Below w.heap.size w wr) (fun _ iv _ => n - (Go.RowKit.intOf iv).toNat)
  case atStart => exact ⟨0, none, 0, 0, Nat.zero_le _, rfl, rfl, rfl, RowG.nil _ _, H1.out⟩
  case round =>
    obtain ⟨k, b, d, m, hk, hm, rfl, rfl, hO, hB⟩ := hrel
    rename World => wr
    have HC : Hid (RowG wr w.heap.size b ((l.take k).map fun k => gr.mul k gG) d ∧ Below w.heap.size w wr ∧ m = k ∧ k ≤ n) := ⟨hO, hB, hm, hk⟩
    clear hO hB hm hk
    by_cases hlt : k < n
    · clear HKr
      have hlt' : (k : Int) < (n : Int) := Int.ofNat_lt.2 hlt
      have hkl : k < l.length := by rw [← HN.out.2.1]; exact hlt
      obtain ⟨kb, ko, rfl, hNB⟩ := (numsAt_of HN.out.1).get hkl
      obtain ⟨s, hs⟩ : ∃ s, s = l[k]'hkl := ⟨_, rfl⟩
      obtain ⟨R, hR⟩ : ∃ R, R = gr.mul s gG := ⟨_, rfl⟩
      rw [← hs] at hNB
      have K1 : Hid (∀ w, Calls Tryd.prog 19 #[.agg #[.int .u64 (limb s 0 : Nat), .int .u64 (limb s 1 : Nat), .int .u64 (limb s 2 : Nat), .int .u64 (limb s 3 : Nat)]] w fun e w' => e = .returned (.agg #[.int .u64 (limb (pX R) 0 : Nat), .int .u64 (limb (pX R) 1 : Nat), .int .u64 (limb (pX R) 2 : Nat), .int .u64 (limb (pX R) 3 : Nat), .int .u64 (limb (pY R) 0 : Nat), .int .u64 (limb (pY R) 1 : Nat), .int .u64 (limb (pY R) 2 : Nat), .int .u64 (limb (pY R) 3 : Nat), .bool (pI R)]) ∧ Below w.heap.size w w') := KT.out s R (by rw [hs]; exact HN.out.2.2.2 _ (List.getElem_mem hkl)) hR
      have LN : Hid ((loadVar 34 ⟨kb, ko + k * 4, none⟩).run Tryd.prog wr = .ok (.agg #[.int .u64 (limb s 0 : Nat), .int .u64 (limb s 1 : Nat), .int .u64 (limb s 2 : Nat), .int .u64 (limb s 3 : Nat)]) wr) := (hNB.call HC.out.2.1).load
      have HE : Hid (k < n ∧ ((l.take k).map fun k => gr.mul k gG) ++ [R] = ((l.take (k + 1)).map fun k => gr.mul k gG) ∧ ((l.take k).map fun k => gr.mul k gG).length = k) := by
        refine ⟨hlt, ?_, by rw [List.length_map, List.length_take]; omega⟩
        rw [List.take_succ_eq_append_getElem hkl, List.map_append, hR, hs]
        rfl
      clear hs hR hNB hkl KT hlt
      obtain ⟨L, hL⟩ : ∃ L, L = (l.take k).map fun k => gr.mul k gG := ⟨_, rfl⟩
      rw [← hL] at HE HC
      clear hL
      obtain ⟨D, hD⟩ : ∃ D, D = wr.heap.size := ⟨_, rfl⟩
      obtain ⟨W4, hW4⟩ : ∃ W4, W4 = wr.alloc (.cells #[.int .u64 (limb s 0 : Nat), .int .u64 (limb s 1 : Nat), .int .u64 (limb s 2 : Nat), .int .u64 (limb s 3 : Nat)] 34) := ⟨_, rfl⟩
      have H4 : Hid (RowG W4 w.heap.size b L d ∧ Below w.heap.size w W4 ∧ Bl W4 D (numV s) 34) := by
        rw [hW4, hD]
        exact ⟨HC.out.1.call (below_alloc0 (Below.refl _ _) _), below_alloc0 HC.out.2.1 _, Bl.new wr (numV s) _⟩
      have HW4 : Hid (W4 = wr.alloc (.cells #[.int .u64 (limb s 0 : Nat), .int .u64 (limb s 1 : Nat), .int .u64 (limb s 2 : Nat), .int .u64 (limb s 3 : Nat)] 34) ∧ D = wr.heap.size) := ⟨hW4, hD⟩
      clear hW4 hD
      go_upto_region 9 with ((with_reducible refine load_to (b := kb) (k := ko + k * 4) (x := 22) ?_ ?_ ?_ LN.out ?_); rfl; rfl; rfl)
      rw [← HW4.out.1, ← HW4.out.2]
      clear HW4 LN
      have L4 : Hid ((loadVar 34 ⟨D, 0, none⟩).run Tryd.prog W4 = .ok (.agg #[.int .u64 (limb s 0 : Nat), .int .u64 (limb s 1 : Nat), .int .u64 (limb s 2 : Nat), .int .u64 (limb s 3 : Nat)]) W4) := H4.out.2.2.load Tryd.underlying34 rfl (by kernel_rfl)
      go_wp2_with ((with_reducible refine load_to (b := D) (k := 0) (x := 6) ?_ ?_ ?_ L4.out ?_); rfl; rfl; rfl)
      refine (K1.out _).mono ?_
      rintro e w5 ⟨rfl, hb5⟩
      have H6 : Hid (RowG (w5.alloc (.cells #[.int .u64 (limb (pX R) 0 : Nat), .int .u64 (limb (pX R) 1 : Nat), .int .u64 (limb (pX R) 2 : Nat), .int .u64 (limb (pX R) 3 : Nat), .int .u64 (limb (pY R) 0 : Nat), .int .u64 (limb (pY R) 1 : Nat), .int .u64 (limb (pY R) 2 : Nat), .int .u64 (limb (pY R) 3 : Nat), .bool (pI R)] 36)) w.heap.size b L d ∧ Below w.heap.size w (w5.alloc (.cells #[.int .u64 (limb (pX R) 0 : Nat), .int .u64 (limb (pX R) 1 : Nat), .int .u64 (limb (pX R) 2 : Nat), .int .u64 (limb (pX R) 3 : Nat), .int .u64 (limb (pY R) 0 : Nat), .int .u64 (limb (pY R) 1 : Nat), .int .u64 (limb (pY R) 2 : Nat), .int .u64 (limb (pY R) 3 : Nat), .bool (pI R)] 36)) ∧ Bl (w5.alloc (.cells #[.int .u64 (limb (pX R) 0 : Nat), .int .u64 (limb (pX R) 1 : Nat), .int .u64 (limb (pX R) 2 : Nat), .int .u64 (limb (pX R) 3 : Nat), .int .u64 (limb (pY R) 0 : Nat), .int .u64 (limb (pY R) 1 : Nat), .int .u64 (limb (pY R) 2 : Nat), .int .u64 (limb (pY R) 3 : Nat), .bool (pI R)] 36)) w5.heap.size (ptsV R) 36 ∧ m = L.length ∧ L.length ≤ 1000000) :=
        ⟨(H4.out.1.call hb5).call (below_alloc0 (Below.refl _ _) _), below_alloc0 (below_call0 H4.out.2.1 hb5) _, Bl.new w5 (ptsV R) _, by have := HC.out.2.2; have := HE.out.2.2; omega, by have := HC.out.2.2; have := HE.out.2.2; have := HN.out.2.2.1; omega⟩
      clear H4 hb5 L4 K1
      go_wp2_with (at_builtin; refine wpList_append_RowG _ rfl (.tmp 24) (.tmp 27) rfl w.heap.size b m d L R rfl H6.out.2.2.2.1 H6.out.1 H6.out.2.1.size H6.out.2.2.2.2 w5.heap.size 1 rfl H6.out.2.2.1 ?_; intro b7 m7 d7 w7 hm7 hR7 hb7; have H7 : Hid (m7 = m + 1 ∧ RowG w7 w.heap.size b7 (L ++ [R]) d7 ∧ Below w.heap.size w w7) := ⟨hm7, hR7, H6.out.2.1.trans hb7⟩; clear hm7 hR7 hb7 H6)
      go_roundw
      case rel => first | exact ⟨k + 1, b7, d7, m7, HE.out.1, by have := H7.out.1; have := HC.out.2.2.1; omega, rfl, by go_num, by rw [← HE.out.2.1]; exact H7.out.2.1, H7.out.2.2⟩ | ((repeat apply Exists.intro); exact ⟨⟨k + 1, b7, d7, m7, HE.out.1, by have := H7.out.1; have := HC.out.2.2.1; omega, rfl, by go_num, by rw [← HE.out.2.1]; exact H7.out.2.1, H7.out.2.2⟩, rfl⟩)
      case measure => have := HE.out.1; simp [intOf]; omega
    · obtain rfl : k = n := by have := HC.out.2.2.2; omega
      have hnl : ¬ ((k : Int) < (k : Int)) := Int.lt_irrefl _
      clear hlt KT
      go_wp2_with fail
      refine HKr.out _ _ ?_
      clear HKr
      go_wp2_with fail
      obtain rfl : m = k := HC.out.2.2.1
      have ht := HC.out.1.pts
      rw [HN.out.2.1, List.take_length] at ht
      refine bodyPost_ret (v := .tuple #[.slice b m d, .int .i64 0]) (by simp [results, Tryd.results6]) rfl ⟨⟨b, d, rfl, ht⟩, HC.out.2.1⟩
/-- The document's answer: its error is share.At's. -/
theorem com7_any (l : List Nat) (n : Nat) (a : Option Addr) (kc : Nat) (hn : n = l.length) (hR : ∀ k ∈ l, k < R256) (w : World) (hN : Nums w a l) :
    Calls Tryd.prog 6 #[.slice a n kc] w fun e w' => (∃ b c d, e = .returned (.tuple #[.slice b c d, .int .i64 (atE l 0)]) ∧ (atE l 0 = 0 → c = n ∧ PtsAt w' b (l.map fun k => gr.mul k gG)) ∧ (atE l 0 ≠ 0 → c = 0)) ∧ Below w.heap.size w w' := by
  by_cases h1 : 1 ≤ n ∧ n ≤ 10
  · by_cases h2 : allQ l = true
    · have hE : atE l 0 = 0 := by unfold atE; rw [← hn, if_pos h1, if_pos ⟨h2, QQ_pos⟩]
      rw [hE]
      refine (com7_A0 l n a kc hn h1 h2 w hN).mono ?_
      rintro e w' ⟨⟨b, d, he, hp⟩, hb⟩
      exact ⟨⟨b, n, d, he, fun _ => ⟨rfl, hp⟩, fun h => absurd rfl h⟩, hb⟩
    · have hE : atE l 0 = 20 := by unfold atE; rw [← hn, if_pos h1, if_neg (fun h => h2 h.1)]
      rw [hE]
      refine (com7_A2 l n a kc hn h1 hR (by simpa using h2) w hN).mono ?_
      rintro e w' ⟨he, hb⟩
      exact ⟨⟨none, 0, 0, he, (fun h => by cases h), fun _ => rfl⟩, hb⟩
  · have hE : atE l 0 = 1 := by unfold atE; rw [← hn, if_neg h1]
    rw [hE]
    refine (com7_A1 n a kc h1 w).mono ?_
    rintro e w' ⟨he, rfl⟩
    exact ⟨⟨none, 0, 0, he, (fun h => by cases h), fun _ => rfl⟩, Below.refl _ _⟩
end Go.Proofs.YtkdejflgmgljiaaDoor

namespace Go.Proofs.YtkdejflgmgljiaaDoor
open Go Go.RowKit Go.Lib
set_option maxRecDepth 100000 in
set_option maxHeartbeats 4000000 in
theorem points_same (a b : Option Addr) (l : List Pts) (n ca cb : Nat) (hn : n = l.length) (h10 : n ≤ 10) (w : World) (hA : PtsAt w a l) (hB : PtsAt w b l) :
    Calls Tryd.prog 7 #[.slice a n ca, .slice b n cb] w fun e w' => e = .returned (.bool true) ∧ Below w.heap.size w w' := by
  have HL : Hid (n = l.length ∧ n ≤ 10) := ⟨hn, h10⟩
  have n64 : (n : Int) ≤ 64 := by omega
  have HS : Hid (PtsAt w a l ∧ PtsAt w b l) := ⟨hA, hB⟩
  clear hn h10 hA hB
  go_enter Tryd.func7, Tryd.ntmps7
  go_wp2_with fail
  rename_i Kr hKr
  have HKr : Hid _ := hKr
  clear hKr
  go_loopw [8] (fun iv wr => ∃ k : Nat, k ≤ n ∧ iv = .int .i64 (k : Nat) ∧ Below w.heap.size w wr) (fun iv _ => n - (Go.RowKit.intOf iv).toNat)
  case atStart => exact ⟨0, Nat.zero_le _, rfl, Below.refl _ _⟩
  case round =>
    obtain ⟨k, hk, rfl, hB⟩ := hrel
    rename World => wr
    have HB : Hid (Below w.heap.size w wr ∧ k ≤ n) := ⟨hB, hk⟩
    clear hB hk
    by_cases hlt : k < n
    · clear HKr
      have hkl : k < l.length := by rw [← HL.out.1]; exact hlt
      have hlt' : (k : Int) < (n : Int) := Int.ofNat_lt.2 hlt
      have d1 : decide ((n : Int) ≤ (k : Int)) = false := decide_eq_false (by omega)
      have d1' : decide (n ≤ k) = false := decide_eq_false (by omega)
      obtain ⟨p, o, rfl, p1⟩ := HS.out.1.get hkl
      obtain ⟨p', o', rfl, p2⟩ := HS.out.2.get hkl
      obtain ⟨R, hR⟩ : ∃ R, R = l[k]'hkl := ⟨_, rfl⟩
      rw [← hR] at p1 p2
      have HP : Hid (PointB wr p (o + k * 9) (pX R) (pY R) (pI R) ∧ PointB wr p' (o' + k * 9) (pX R) (pY R) (pI R)) := ⟨p1.call HB.out.1, p2.call HB.out.1⟩
      have HQ : Hid (∀ w : World, (Op.equalIn 10000 36 (.agg #[.int .u64 (limb (pX R) 0 : Nat), .int .u64 (limb (pX R) 1 : Nat), .int .u64 (limb (pX R) 2 : Nat), .int .u64 (limb (pX R) 3 : Nat), .int .u64 (limb (pY R) 0 : Nat), .int .u64 (limb (pY R) 1 : Nat), .int .u64 (limb (pY R) 2 : Nat), .int .u64 (limb (pY R) 3 : Nat), .bool (pI R)]) (.agg #[.int .u64 (limb (pX R) 0 : Nat), .int .u64 (limb (pX R) 1 : Nat), .int .u64 (limb (pX R) 2 : Nat), .int .u64 (limb (pX R) 3 : Nat), .int .u64 (limb (pY R) 0 : Nat), .int .u64 (limb (pY R) 1 : Nat), .int .u64 (limb (pY R) 2 : Nat), .int .u64 (limb (pY R) 3 : Nat), .bool (pI R)])).run Tryd.prog w = .ok true w) := fun w => eqPts R R true (by simp) w
      have HI : Hid (k < n) := hlt
      clear p1 p2 hR hkl hlt
      go_upto_region 4 with fail
      have hq := HQ.out
      refine wp_region_H (fun w' => Below wr.heap.size wr w') 15 rfl (by kernel_rfl) ?_
      refine wpAnyH_take (i := 0) (oi := ?o0c) (v := ?v0c) ?hi0c (by kernel_rfl) (by kernel_rfl) (by kernel_rfl) ?hQ0c ?hy0c (Below.drew (Below.refl _ _)) ?more0c
      case hi0c => rw [List.getElem?_toArray]; exact rfl
      case hQ0c => exact fun _ _ _ h => h
      case hy0c =>
        refine Or.inl ⟨by rfl, ?_⟩
        intro w' hSw
        have k1 := HP.out.1.call hSw
        have k2 := HP.out.2.call hSw
        have f0 := k1.x0
        have f1 := k1.x1
        have f2 := k1.x2
        have f3 := k1.x3
        have f4 := k1.y0
        have f5 := k1.y1
        have f6 := k1.y2
        have f7 := k1.y3
        have f8 := k1.i8
        have g0 := k2.x0
        have g1 := k2.x1
        have g2 := k2.x2
        have g3 := k2.x3
        have g4 := k2.y0
        have g5 := k2.y1
        have g6 := k2.y2
        have g7 := k2.y3
        have g8 := k2.i8
        have l1 := k1.lt
        have l2 := k2.lt
        clear k1 k2 hSw
        go_simp
        try with_reducible rfl
      simp only [Act.put, List.setIfInBounds_toArray, List.set_cons_zero, List.set_cons_succ]
      refine wpAnyH_take (i := 1) (oi := ?o1c) (v := ?v1c) ?hi1c (by kernel_rfl) (by kernel_rfl) (by kernel_rfl) ?hQ1c ?hy1c (Below.drew (Below.refl _ _)) ?more1c
      case hi1c => rw [List.getElem?_toArray]; exact rfl
      case hQ1c => exact fun _ _ _ h => h
      case hy1c =>
        refine Or.inl ⟨by rfl, ?_⟩
        intro w' hSw
        have k1 := HP.out.1.call hSw
        have k2 := HP.out.2.call hSw
        have f0 := k1.x0
        have f1 := k1.x1
        have f2 := k1.x2
        have f3 := k1.x3
        have f4 := k1.y0
        have f5 := k1.y1
        have f6 := k1.y2
        have f7 := k1.y3
        have f8 := k1.i8
        have g0 := k2.x0
        have g1 := k2.x1
        have g2 := k2.x2
        have g3 := k2.x3
        have g4 := k2.y0
        have g5 := k2.y1
        have g6 := k2.y2
        have g7 := k2.y3
        have g8 := k2.i8
        have l1 := k1.lt
        have l2 := k2.lt
        clear k1 k2 hSw
        go_simp
        try with_reducible rfl
      simp only [Act.put, List.setIfInBounds_toArray, List.set_cons_zero, List.set_cons_succ]
      refine wpAnyH_take (i := 2) (oi := ?o2c) (v := ?v2c) ?hi2c (by kernel_rfl) (by kernel_rfl) (by kernel_rfl) ?hQ2c ?hy2c (Below.drew (Below.refl _ _)) ?more2c
      case hi2c => rw [List.getElem?_toArray]; exact rfl
      case hQ2c => exact fun _ _ _ h => h
      case hy2c =>
        refine Or.inl ⟨by rfl, ?_⟩
        intro w' hSw
        have k1 := HP.out.1.call hSw
        have k2 := HP.out.2.call hSw
        have f0 := k1.x0
        have f1 := k1.x1
        have f2 := k1.x2
        have f3 := k1.x3
        have f4 := k1.y0
        have f5 := k1.y1
        have f6 := k1.y2
        have f7 := k1.y3
        have f8 := k1.i8
        have g0 := k2.x0
        have g1 := k2.x1
        have g2 := k2.x2
        have g3 := k2.x3
        have g4 := k2.y0
        have g5 := k2.y1
        have g6 := k2.y2
        have g7 := k2.y3
        have g8 := k2.i8
        have l1 := k1.lt
        have l2 := k2.lt
        clear k1 k2 hSw
        go_simp
        try with_reducible rfl
      simp only [Act.put, List.setIfInBounds_toArray, List.set_cons_zero, List.set_cons_succ]
      refine wpAnyH_take (i := 3) (oi := ?o3c) (v := ?v3c) ?hi3c (by kernel_rfl) (by kernel_rfl) (by kernel_rfl) ?hQ3c ?hy3c (Below.drew (Below.refl _ _)) ?more3c
      case hi3c => rw [List.getElem?_toArray]; exact rfl
      case hQ3c => exact fun _ _ _ h => h
      case hy3c =>
        refine Or.inl ⟨by rfl, ?_⟩
        intro w' hSw
        have k1 := HP.out.1.call hSw
        have k2 := HP.out.2.call hSw
        have f0 := k1.x0
        have f1 := k1.x1
        have f2 := k1.x2
        have f3 := k1.x3
        have f4 := k1.y0
        have f5 := k1.y1
        have f6 := k1.y2
        have f7 := k1.y3
        have f8 := k1.i8
        have g0 := k2.x0
        have g1 := k2.x1
        have g2 := k2.x2
        have g3 := k2.x3
        have g4 := k2.y0
        have g5 := k2.y1
        have g6 := k2.y2
        have g7 := k2.y3
        have g8 := k2.i8
        have l1 := k1.lt
        have l2 := k2.lt
        clear k1 k2 hSw
        go_simp
        try with_reducible rfl
      simp only [Act.put, List.setIfInBounds_toArray, List.set_cons_zero, List.set_cons_succ]
      refine wpAnyH_take (i := 4) (oi := ?o4c) (v := ?v4c) ?hi4c (by kernel_rfl) (by kernel_rfl) (by kernel_rfl) ?hQ4c ?hy4c (Below.drew (Below.refl _ _)) ?more4c
      case hi4c => rw [List.getElem?_toArray]; exact rfl
      case hQ4c => exact fun _ _ _ h => h
      case hy4c =>
        refine Or.inl ⟨by rfl, ?_⟩
        intro w' hSw
        have k1 := HP.out.1.call hSw
        have k2 := HP.out.2.call hSw
        have f0 := k1.x0
        have f1 := k1.x1
        have f2 := k1.x2
        have f3 := k1.x3
        have f4 := k1.y0
        have f5 := k1.y1
        have f6 := k1.y2
        have f7 := k1.y3
        have f8 := k1.i8
        have g0 := k2.x0
        have g1 := k2.x1
        have g2 := k2.x2
        have g3 := k2.x3
        have g4 := k2.y0
        have g5 := k2.y1
        have g6 := k2.y2
        have g7 := k2.y3
        have g8 := k2.i8
        have l1 := k1.lt
        have l2 := k2.lt
        clear k1 k2 hSw
        go_simp
        try with_reducible rfl
      simp only [Act.put, List.setIfInBounds_toArray, List.set_cons_zero, List.set_cons_succ]
      refine wpAnyH_take (i := 5) (oi := ?o5c) (v := ?v5c) ?hi5c (by kernel_rfl) (by kernel_rfl) (by kernel_rfl) ?hQ5c ?hy5c (Below.drew (Below.refl _ _)) ?more5c
      case hi5c => rw [List.getElem?_toArray]; exact rfl
      case hQ5c => exact fun _ _ _ h => h
      case hy5c =>
        refine Or.inl ⟨by rfl, ?_⟩
        intro w' hSw
        have k1 := HP.out.1.call hSw
        have k2 := HP.out.2.call hSw
        have f0 := k1.x0
        have f1 := k1.x1
        have f2 := k1.x2
        have f3 := k1.x3
        have f4 := k1.y0
        have f5 := k1.y1
        have f6 := k1.y2
        have f7 := k1.y3
        have f8 := k1.i8
        have g0 := k2.x0
        have g1 := k2.x1
        have g2 := k2.x2
        have g3 := k2.x3
        have g4 := k2.y0
        have g5 := k2.y1
        have g6 := k2.y2
        have g7 := k2.y3
        have g8 := k2.i8
        have l1 := k1.lt
        have l2 := k2.lt
        clear k1 k2 hSw
        go_simp
        try with_reducible rfl
      simp only [Act.put, List.setIfInBounds_toArray, List.set_cons_zero, List.set_cons_succ]
      refine wpAnyH_take (i := 6) (oi := ?o6c) (v := ?v6c) ?hi6c (by kernel_rfl) (by kernel_rfl) (by kernel_rfl) ?hQ6c ?hy6c (Below.drew (Below.refl _ _)) ?more6c
      case hi6c => rw [List.getElem?_toArray]; exact rfl
      case hQ6c => exact fun _ _ _ h => h
      case hy6c =>
        refine Or.inl ⟨by rfl, ?_⟩
        intro w' hSw
        have k1 := HP.out.1.call hSw
        have k2 := HP.out.2.call hSw
        have f0 := k1.x0
        have f1 := k1.x1
        have f2 := k1.x2
        have f3 := k1.x3
        have f4 := k1.y0
        have f5 := k1.y1
        have f6 := k1.y2
        have f7 := k1.y3
        have f8 := k1.i8
        have g0 := k2.x0
        have g1 := k2.x1
        have g2 := k2.x2
        have g3 := k2.x3
        have g4 := k2.y0
        have g5 := k2.y1
        have g6 := k2.y2
        have g7 := k2.y3
        have g8 := k2.i8
        have l1 := k1.lt
        have l2 := k2.lt
        clear k1 k2 hSw
        go_simp
        try with_reducible rfl
      simp only [Act.put, List.setIfInBounds_toArray, List.set_cons_zero, List.set_cons_succ]
      refine wpAnyH_take (i := 7) (oi := ?o7c) (v := ?v7c) ?hi7c (by kernel_rfl) (by kernel_rfl) (by kernel_rfl) ?hQ7c ?hy7c (Below.drew (Below.refl _ _)) ?more7c
      case hi7c => rw [List.getElem?_toArray]; exact rfl
      case hQ7c => exact fun _ _ _ h => h
      case hy7c =>
        refine Or.inl ⟨by rfl, ?_⟩
        intro w' hSw
        have k1 := HP.out.1.call hSw
        have k2 := HP.out.2.call hSw
        have f0 := k1.x0
        have f1 := k1.x1
        have f2 := k1.x2
        have f3 := k1.x3
        have f4 := k1.y0
        have f5 := k1.y1
        have f6 := k1.y2
        have f7 := k1.y3
        have f8 := k1.i8
        have g0 := k2.x0
        have g1 := k2.x1
        have g2 := k2.x2
        have g3 := k2.x3
        have g4 := k2.y0
        have g5 := k2.y1
        have g6 := k2.y2
        have g7 := k2.y3
        have g8 := k2.i8
        have l1 := k1.lt
        have l2 := k2.lt
        clear k1 k2 hSw
        go_simp
        try with_reducible rfl
      simp only [Act.put, List.setIfInBounds_toArray, List.set_cons_zero, List.set_cons_succ]
      refine wpAnyH_take (i := 8) (oi := ?o8c) (v := ?v8c) ?hi8c (by kernel_rfl) (by kernel_rfl) (by kernel_rfl) ?hQ8c ?hy8c (Below.drew (Below.refl _ _)) ?more8c
      case hi8c => rw [List.getElem?_toArray]; exact rfl
      case hQ8c => exact fun _ _ _ h => h
      case hy8c =>
        refine Or.inl ⟨by rfl, ?_⟩
        intro w' hSw
        have k1 := HP.out.1.call hSw
        have k2 := HP.out.2.call hSw
        have f0 := k1.x0
        have f1 := k1.x1
        have f2 := k1.x2
        have f3 := k1.x3
        have f4 := k1.y0
        have f5 := k1.y1
        have f6 := k1.y2
        have f7 := k1.y3
        have f8 := k1.i8
        have g0 := k2.x0
        have g1 := k2.x1
        have g2 := k2.x2
        have g3 := k2.x3
        have g4 := k2.y0
        have g5 := k2.y1
        have g6 := k2.y2
        have g7 := k2.y3
        have g8 := k2.i8
        have l1 := k1.lt
        have l2 := k2.lt
        clear k1 k2 hSw
        go_simp
        try with_reducible rfl
      simp only [Act.put, List.setIfInBounds_toArray, List.set_cons_zero, List.set_cons_succ]
      refine wpAnyH_take (i := 9) (oi := ?o9c) (v := ?v9c) ?hi9c (by kernel_rfl) (by kernel_rfl) (by kernel_rfl) ?hQ9c ?hy9c (Below.drew (Below.refl _ _)) ?more9c
      case hi9c => rw [List.getElem?_toArray]; exact rfl
      case hQ9c => exact fun _ _ _ h => h
      case hy9c =>
        refine Or.inl ⟨by rfl, ?_⟩
        intro w' hSw
        have k1 := HP.out.1.call hSw
        have k2 := HP.out.2.call hSw
        have f0 := k1.x0
        have f1 := k1.x1
        have f2 := k1.x2
        have f3 := k1.x3
        have f4 := k1.y0
        have f5 := k1.y1
        have f6 := k1.y2
        have f7 := k1.y3
        have f8 := k1.i8
        have g0 := k2.x0
        have g1 := k2.x1
        have g2 := k2.x2
        have g3 := k2.x3
        have g4 := k2.y0
        have g5 := k2.y1
        have g6 := k2.y2
        have g7 := k2.y3
        have g8 := k2.i8
        have l1 := k1.lt
        have l2 := k2.lt
        clear k1 k2 hSw
        go_simp
        try with_reducible rfl
      simp only [Act.put, List.setIfInBounds_toArray, List.set_cons_zero, List.set_cons_succ]
      refine wpAnyH_take (i := 10) (oi := ?o10c) (v := ?v10c) ?hi10c (by kernel_rfl) (by kernel_rfl) (by kernel_rfl) ?hQ10c ?hy10c (Below.drew (Below.refl _ _)) ?more10c
      case hi10c => rw [List.getElem?_toArray]; exact rfl
      case hQ10c => exact fun _ _ _ h => h
      case hy10c =>
        refine Or.inl ⟨by rfl, ?_⟩
        intro w' hSw
        have k1 := HP.out.1.call hSw
        have k2 := HP.out.2.call hSw
        have f0 := k1.x0
        have f1 := k1.x1
        have f2 := k1.x2
        have f3 := k1.x3
        have f4 := k1.y0
        have f5 := k1.y1
        have f6 := k1.y2
        have f7 := k1.y3
        have f8 := k1.i8
        have g0 := k2.x0
        have g1 := k2.x1
        have g2 := k2.x2
        have g3 := k2.x3
        have g4 := k2.y0
        have g5 := k2.y1
        have g6 := k2.y2
        have g7 := k2.y3
        have g8 := k2.i8
        have l1 := k1.lt
        have l2 := k2.lt
        clear k1 k2 hSw
        go_simp
        try with_reducible rfl
      simp only [Act.put, List.setIfInBounds_toArray, List.set_cons_zero, List.set_cons_succ]
      refine wpAnyH_take (i := 11) (oi := ?o11c) (v := ?v11c) ?hi11c (by kernel_rfl) (by kernel_rfl) (by kernel_rfl) ?hQ11c ?hy11c (Below.drew (Below.refl _ _)) ?more11c
      case hi11c => rw [List.getElem?_toArray]; exact rfl
      case hQ11c => exact fun _ _ _ h => h
      case hy11c =>
        refine Or.inl ⟨by rfl, ?_⟩
        intro w' hSw
        have k1 := HP.out.1.call hSw
        have k2 := HP.out.2.call hSw
        have f0 := k1.x0
        have f1 := k1.x1
        have f2 := k1.x2
        have f3 := k1.x3
        have f4 := k1.y0
        have f5 := k1.y1
        have f6 := k1.y2
        have f7 := k1.y3
        have f8 := k1.i8
        have g0 := k2.x0
        have g1 := k2.x1
        have g2 := k2.x2
        have g3 := k2.x3
        have g4 := k2.y0
        have g5 := k2.y1
        have g6 := k2.y2
        have g7 := k2.y3
        have g8 := k2.i8
        have l1 := k1.lt
        have l2 := k2.lt
        clear k1 k2 hSw
        go_simp
        try with_reducible rfl
      simp only [Act.put, List.setIfInBounds_toArray, List.set_cons_zero, List.set_cons_succ]
      refine wpAnyH_take (i := 12) (oi := ?o12c) (v := ?v12c) ?hi12c (by kernel_rfl) (by kernel_rfl) (by kernel_rfl) ?hQ12c ?hy12c (Below.drew (Below.refl _ _)) ?more12c
      case hi12c => rw [List.getElem?_toArray]; exact rfl
      case hQ12c => exact fun _ _ _ h => h
      case hy12c =>
        refine Or.inl ⟨by rfl, ?_⟩
        intro w' hSw
        have k1 := HP.out.1.call hSw
        have k2 := HP.out.2.call hSw
        have f0 := k1.x0
        have f1 := k1.x1
        have f2 := k1.x2
        have f3 := k1.x3
        have f4 := k1.y0
        have f5 := k1.y1
        have f6 := k1.y2
        have f7 := k1.y3
        have f8 := k1.i8
        have g0 := k2.x0
        have g1 := k2.x1
        have g2 := k2.x2
        have g3 := k2.x3
        have g4 := k2.y0
        have g5 := k2.y1
        have g6 := k2.y2
        have g7 := k2.y3
        have g8 := k2.i8
        have l1 := k1.lt
        have l2 := k2.lt
        clear k1 k2 hSw
        go_simp
        try with_reducible rfl
      simp only [Act.put, List.setIfInBounds_toArray, List.set_cons_zero, List.set_cons_succ]
      refine wpAnyH_take (i := 13) (oi := ?o13c) (v := ?v13c) ?hi13c (by kernel_rfl) (by kernel_rfl) (by kernel_rfl) ?hQ13c ?hy13c (Below.drew (Below.refl _ _)) ?more13c
      case hi13c => rw [List.getElem?_toArray]; exact rfl
      case hQ13c => exact fun _ _ _ h => h
      case hy13c =>
        refine Or.inl ⟨by rfl, ?_⟩
        intro w' hSw
        have k1 := HP.out.1.call hSw
        have k2 := HP.out.2.call hSw
        have f0 := k1.x0
        have f1 := k1.x1
        have f2 := k1.x2
        have f3 := k1.x3
        have f4 := k1.y0
        have f5 := k1.y1
        have f6 := k1.y2
        have f7 := k1.y3
        have f8 := k1.i8
        have g0 := k2.x0
        have g1 := k2.x1
        have g2 := k2.x2
        have g3 := k2.x3
        have g4 := k2.y0
        have g5 := k2.y1
        have g6 := k2.y2
        have g7 := k2.y3
        have g8 := k2.i8
        have l1 := k1.lt
        have l2 := k2.lt
        clear k1 k2 hSw
        go_simp
        try with_reducible rfl
      simp only [Act.put, List.setIfInBounds_toArray, List.set_cons_zero, List.set_cons_succ]
      refine wpAnyH_take (i := 14) (oi := ?o14c) (v := ?v14c) ?hi14c (by kernel_rfl) (by kernel_rfl) (by kernel_rfl) ?hQ14c ?hy14c (Below.drew (Below.refl _ _)) ?more14c
      case hi14c => rw [List.getElem?_toArray]; exact rfl
      case hQ14c => exact fun _ _ _ h => h
      case hy14c =>
        refine Or.inl ⟨by rfl, ?_⟩
        intro w' hSw
        have k1 := HP.out.1.call hSw
        have k2 := HP.out.2.call hSw
        have f0 := k1.x0
        have f1 := k1.x1
        have f2 := k1.x2
        have f3 := k1.x3
        have f4 := k1.y0
        have f5 := k1.y1
        have f6 := k1.y2
        have f7 := k1.y3
        have f8 := k1.i8
        have g0 := k2.x0
        have g1 := k2.x1
        have g2 := k2.x2
        have g3 := k2.x3
        have g4 := k2.y0
        have g5 := k2.y1
        have g6 := k2.y2
        have g7 := k2.y3
        have g8 := k2.i8
        have l1 := k1.lt
        have l2 := k2.lt
        clear k1 k2 hSw
        go_simp
        try with_reducible rfl
      simp only [Act.put, List.setIfInBounds_toArray, List.set_cons_zero, List.set_cons_succ]
      refine wpAnyH_done (by kernel_rfl) ?_ _
      go_wp2_with fail
      go_roundw
      case rel => first | exact ⟨k + 1, HI.out, by go_num, below_call0 HB.out.1 (Below.drew (Below.refl _ _))⟩ | ((repeat apply Exists.intro); exact ⟨⟨k + 1, HI.out, by go_num, below_call0 HB.out.1 (Below.drew (Below.refl _ _))⟩, rfl⟩)
      case measure => have := HI.out; simp [Go.RowKit.intOf]; omega
    · obtain rfl : k = n := by have := HB.out.2; omega
      have hnl : ¬ ((k : Int) < (k : Int)) := Int.lt_irrefl _
      have hkk : ((k : Int) == (k : Int)) = true := by simp
      clear hlt
      go_wp2_with fail
      refine HKr.out _ _ ?_
      clear HKr
      go_wp2_with fail
      go_ret
      exact ⟨by first | rfl | simp, HB.out.1⟩
end Go.Proofs.YtkdejflgmgljiaaDoor

namespace Go.Proofs.YtkdejflgmgljiaaDoor
open Go Go.RowKit Go.Lib
theorem numsOf {w : World} {a : Option Addr} {l : List Nat} (h : NumsAt w a l) : Nums w a l := fun j n hj => by
  obtain ⟨b, o, h1, h2⟩ := h j n hj
  refine ⟨b, o, h1, fun i hi => ?_, h2.lt⟩
  have : i = 0 ∨ i = 1 ∨ i = 2 ∨ i = 3 := by omega
  rcases this with rfl | rfl | rfl | rfl
  · exact h2.c0
  · exact h2.c1
  · exact h2.c2
  · exact h2.c3
set_option maxRecDepth 100000 in
set_option maxHeartbeats 4000000 in
theorem feldCommits_any (l : List Nat) (a : Option Addr) (c : Nat) (hR : ∀ k ∈ l, k < R256) (w : World) (hG : GA w) (hN : NumsAt w a l) :
    Calls Tryd.prog 3 #[.slice a l.length c] w fun e w' => e = .returned (.bool true) ∧ Below w.heap.size w w' := by
  obtain ⟨E, hE⟩ : ∃ E, E = atE l 0 := ⟨_, rfl⟩
  obtain ⟨n, hn⟩ : ∃ n, n = l.length := ⟨_, rfl⟩
  have hM := numsOf hN
  have KC : Hid (∀ w, GA w → Nums w a l → Calls Tryd.prog 5 #[.slice a n c] w fun e w' => (∃ b c, e = .returned (.tuple #[.slice b c c, .int .i64 E]) ∧ (E = 0 → c = n ∧ PtsAt w' b (l.map fun k => gr.mul k gG)) ∧ (E ≠ 0 → c = 0)) ∧ Below w.heap.size w w') := fun w h1 h2 => by
    rw [hE]
    exact fcom_any l n a c hn hR w h1 h2
  have K7 : Hid (∀ w, Nums w a l → Calls Tryd.prog 6 #[.slice a n c] w fun e w' => (∃ b c d, e = .returned (.tuple #[.slice b c d, .int .i64 E]) ∧ (E = 0 → c = n ∧ PtsAt w' b (l.map fun k => gr.mul k gG)) ∧ (E ≠ 0 → c = 0)) ∧ Below w.heap.size w w') := fun w h2 => by
    rw [hE]
    exact com7_any l n a c hn hR w h2
  have KL : Hid _ := line_ok
  have HE : Hid (E = 0 → n ≤ 10 ∧ n = (l.map fun k => gr.mul k gG).length) := fun h => by
    rw [hE] at h
    refine ⟨?_, by rw [List.length_map]; exact hn⟩
    unfold atE at h
    split at h
    · next h1 => rw [hn]; exact h1.2
    · cases h
  have H0 : Hid (GA w ∧ Nums w a l) := ⟨hG, hM⟩
  have he : (E == E) = true := by simp
  rw [← hn]
  clear hE hn hM hN hG hR
  go_enter Tryd.func3, Tryd.ntmps3
  go_wp2_with fail
  refine (KC.out _ H0.out.1 H0.out.2).mono ?_
  rintro e w1 ⟨⟨b1, c1, rfl, hp1, hq1⟩, hb1⟩
  have H1 : Hid (Below w.heap.size w w1 ∧ (E = 0 → c1 = n ∧ PtsAt w1 b1 (l.map fun k => gr.mul k gG)) ∧ (E ≠ 0 → c1 = 0) ∧ GA w1 ∧ Nums w1 a l) := ⟨hb1, hp1, hq1, H0.out.1.call hb1, H0.out.2.call hb1⟩
  clear hp1 hq1 hb1 KC H0
  go_wp2_with fail
  refine (K7.out _ H1.out.2.2.2.2).mono ?_
  rintro e w2 ⟨⟨b2, c2, d2, rfl, hp2, hq2⟩, hb2⟩
  obtain ⟨L, h1, h2, h3, h4, h5⟩ : ∃ L : List Pts, c1 = L.length ∧ c2 = L.length ∧ L.length ≤ 10 ∧ PtsAt w2 b1 L ∧ PtsAt w2 b2 L := by
    by_cases h0 : E = 0
    · obtain ⟨e1, t1⟩ := H1.out.2.1 h0
      obtain ⟨e2, t2⟩ := hp2 h0
      obtain ⟨e3, e4⟩ := HE.out h0
      exact ⟨_, by rw [e1]; exact e4, by rw [e2]; exact e4, by rw [← e4]; exact e3, t1.call hb2, t2⟩
    · exact ⟨[], H1.out.2.2.1 h0, hq2 h0, Nat.zero_le _, fun j n hj => by simp at hj, fun j n hj => by simp at hj⟩
  have H2 : Hid (Below w.heap.size w w2 ∧ GA w2) := ⟨below_call0 H1.out.1 hb2, H1.out.2.2.2.1.call hb2⟩
  obtain ⟨m, hm⟩ : ∃ m, m = L.length := ⟨_, rfl⟩
  have KP : Hid (Calls Tryd.prog 7 #[.slice b1 m c1, .slice b2 m d2] w2 fun e w' => e = .returned (.bool true) ∧ Below w2.heap.size w2 w') := points_same b1 b2 L m c1 d2 hm (by rw [hm]; exact h3) w2 h4 h5
  obtain rfl : c1 = m := by rw [h1, hm]
  obtain rfl : c2 = c1 := by rw [h2, hm]
  clear h1 h2 h3 h4 h5 hp2 hq2 hb2 H1 K7 hm HE
  go_wp2_with fail
  refine KP.out.mono ?_
  rintro e w3 ⟨rfl, hb3⟩
  have H3 : Hid (Below w.heap.size w w3 ∧ GA w3) := ⟨below_call0 H2.out.1 hb3, H2.out.2.call hb3⟩
  clear hb3 KP H2
  go_wp2_with fail
  refine (KL.out _ H3.out.2).mono ?_
  rintro e w4 ⟨rfl, hb4⟩
  have H4 : Hid (Below w.heap.size w w4) := below_call0 H3.out.1 hb4
  clear hb4 KL H3
  go_wp2_with fail
  go_ret
  exact ⟨rfl, H4.out⟩
end Go.Proofs.YtkdejflgmgljiaaDoor
