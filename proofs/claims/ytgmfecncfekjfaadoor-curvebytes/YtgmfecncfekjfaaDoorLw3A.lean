/- Curve: the generator; the law's g. -/
import Derived.Test.YtgmfecncfekjfaaDoorRf3I
import Derived.Test.YtgmfecncfekjfaaDoorRgA
namespace Go.Proofs.YtgmfecncfekjfaaDoor
open Go Go.RowKit Go.Lib

theorem run_eq49 (x0 x1 x2 x3 y0 y1 y2 y3 : Int) (w : World) : (Op.equalIn 9999 24 (.agg #[.int .u64 x0, .int .u64 x1, .int .u64 x2, .int .u64 x3]) (.agg #[.int .u64 y0, .int .u64 y1, .int .u64 y2, .int .u64 y3])).run Tryd.prog w = .ok (eq4 x0 x1 x2 x3 y0 y1 y2 y3) w := run_eq4' 9997 x0 x1 x2 x3 y0 y1 y2 y3 w
theorem eq4_same (a b c d : Int) : eq4 a b c d a b c d = true := by simp [eq4]
theorem beqB_same (b : Bool) : (b == b) = true := by cases b <;> rfl
theorem ziV : (.agg #[.int .u64 (limb (pX (gr.z)) 0 : Nat), .int .u64 (limb (pX (gr.z)) 1 : Nat), .int .u64 (limb (pX (gr.z)) 2 : Nat), .int .u64 (limb (pX (gr.z)) 3 : Nat), .int .u64 (limb (pY (gr.z)) 0 : Nat), .int .u64 (limb (pY (gr.z)) 1 : Nat), .int .u64 (limb (pY (gr.z)) 2 : Nat), .int .u64 (limb (pY (gr.z)) 3 : Nat), .bool (pI (gr.z))] : Value) = .agg #[.int .u64 0, .int .u64 0, .int .u64 0, .int .u64 0, .int .u64 0, .int .u64 0, .int .u64 0, .int .u64 0, .bool true] := by
  rw [pX_none gr_z_val, pY_none gr_z_val, pI_none gr_z_val, lit0.1, lit0.2.1, lit0.2.2.1, lit0.2.2.2]
/-- The generator's variables. -/
def GG (w : World) : Prop := Num4 w 1 GX ∧ Num4 w 2 GY ∧ 1 < w.heap.size ∧ 2 < w.heap.size
theorem GG.call {w w' : World} (h : GG w) (hb : Below w.heap.size w w') : GG w' :=
  ⟨fun j hj => (hb.cell (p := ⟨1, j, none⟩) h.2.2.1).trans (h.1 j hj), fun j hj => (hb.cell (p := ⟨2, j, none⟩) h.2.2.2).trans (h.2.1 j hj), Nat.lt_of_lt_of_le h.2.2.1 hb.size, Nat.lt_of_lt_of_le h.2.2.2 hb.size⟩
theorem GX_lt : GX < PP := of_decide_eq_true (by kernel_rfl)
theorem GY_lt : GY < PP := of_decide_eq_true (by kernel_rfl)
theorem gG_x : pX gG = GX := pX_of (x := GX) (y := GY) rfl GX_lt
theorem gG_y : pY gG = GY := pY_of (x := GX) (y := GY) rfl GY_lt
theorem gG_i : pI gG = false := pI_some (q := pt GX GY) rfl
def GN (w : World) (x y : Nat) : Prop := Num4 w 1 x ∧ Num4 w 2 y ∧ 1 < w.heap.size ∧ 2 < w.heap.size
theorem GN.call {w w' : World} {x y : Nat} (h : GN w x y) (hb : Below w.heap.size w w') : GN w' x y :=
  ⟨fun j hj => (hb.cell (p := ⟨1, j, none⟩) h.2.2.1).trans (h.1 j hj), fun j hj => (hb.cell (p := ⟨2, j, none⟩) h.2.2.2).trans (h.2.1 j hj), Nat.lt_of_lt_of_le h.2.2.1 hb.size, Nat.lt_of_lt_of_le h.2.2.2 hb.size⟩
set_option maxRecDepth 100000 in
set_option maxHeartbeats 4000000 in
theorem G_num (x y : Nat) (w : World) (h : GN w x y) : Calls Tryd.prog 43 #[] w fun e w' => e = .returned (.agg #[.int .u64 (limb (x) 0 : Nat), .int .u64 (limb (x) 1 : Nat), .int .u64 (limb (x) 2 : Nat), .int .u64 (limb (x) 3 : Nat), .int .u64 (limb (y) 0 : Nat), .int .u64 (limb (y) 1 : Nat), .int .u64 (limb (y) 2 : Nat), .int .u64 (limb (y) 3 : Nat), .bool false]) ∧ Below w.heap.size w w' := by
  obtain ⟨w0, hw0⟩ : ∃ wq, wq = (w.alloc (.cells #[.int .u64 0, .int .u64 0, .int .u64 0, .int .u64 0, .int .u64 0, .int .u64 0, .int .u64 0, .int .u64 0, .bool false] 26)) := ⟨_, rfl⟩
  have H0 : Hid (OwnC w0 (w.heap.size) zpL) ∧ Hid (Below w.heap.size w w0) ∧ Hid (GN w0 x y) := by
    rw [hw0]
    exact ⟨(OwnC.new' rfl), below_alloc0 (Below.refl _ _) _, (h).call (below_alloc0 (Below.refl _ _) _)⟩
  obtain ⟨P0_0, W_0, N_0⟩ := H0
  clear h
  go_enter Tryd.func43, Tryd.ntmps43
  go_upto_region 1 with fail
  rw [← hw0]
  clear hw0
  obtain ⟨fg10, fg11, fg12, fg13⟩ := Num4.facts N_0.out.1
  obtain ⟨fg20, fg21, fg22, fg23⟩ := Num4.facts N_0.out.2.1
  obtain ⟨fP0z, fP00, fP01, fP02, fP03, fP04, fP05, fP06, fP07, fP08, fP0f⟩ := (P0_0.out).zp
  go_wp2_with fail
  clear fg10 fg11 fg12 fg13 fg20 fg21 fg22 fg23 fP0z fP00 fP01 fP02 fP03 fP04 fP05 fP06 fP07 fP08 fP0f
  obtain ⟨wz, hwz⟩ : ∃ wq, wq = (((((((((w0.setCell ⟨w.heap.size, 0, none⟩ (.int .u64 (limb (x) 0 : Nat))).setCell ⟨w.heap.size, 1, none⟩ (.int .u64 (limb (x) 1 : Nat))).setCell ⟨w.heap.size, 2, none⟩ (.int .u64 (limb (x) 2 : Nat))).setCell ⟨w.heap.size, 3, none⟩ (.int .u64 (limb (x) 3 : Nat))).setCell ⟨w.heap.size, 4, none⟩ (.int .u64 (limb (y) 0 : Nat))).setCell ⟨w.heap.size, 5, none⟩ (.int .u64 (limb (y) 1 : Nat))).setCell ⟨w.heap.size, 6, none⟩ (.int .u64 (limb (y) 2 : Nat))).setCell ⟨w.heap.size, 7, none⟩ (.int .u64 (limb (y) 3 : Nat))).setCell ⟨w.heap.size, 8, none⟩ (.bool false)) := ⟨_, rfl⟩
  rw [← hwz]
  have hwy : wz = putL w.heap.size 0 (ptL x y false) w0 := hwz
  have HZ : OwnC wz w.heap.size (ptL x y false) ∧ Below w.heap.size w wz := by
    rw [hwy]
    exact ⟨OwnC.put (ptL x y false) P0_0.out rfl, below_putL (Nat.le_refl _) (ptL x y false) 0 _ W_0.out⟩
  clear hwz hwy
  obtain ⟨hO, HB⟩ := HZ
  obtain ⟨rz, r0, r1, r2, r3, r4, r5, r6, r7, r8, rf⟩ := hO.pt
  refine bodyPost_ret (v := .agg #[.int .u64 (limb (x) 0 : Nat), .int .u64 (limb (x) 1 : Nat), .int .u64 (limb (x) 2 : Nat), .int .u64 (limb (x) 3 : Nat), .int .u64 (limb (y) 0 : Nat), .int .u64 (limb (y) 1 : Nat), .int .u64 (limb (y) 2 : Nat), .int .u64 (limb (y) 3 : Nat), .bool false]) ?_ rfl ⟨rfl, HB⟩
  simp [results, Tryd.results43, go_sem, r0, r1, r2, r3, r4, r5, r6, r7, r8]
theorem G_A (w : World) (h : GG w) : Calls Tryd.prog 43 #[] w fun e w' => e = .returned (.agg #[.int .u64 (limb (pX (gG)) 0 : Nat), .int .u64 (limb (pX (gG)) 1 : Nat), .int .u64 (limb (pX (gG)) 2 : Nat), .int .u64 (limb (pX (gG)) 3 : Nat), .int .u64 (limb (pY (gG)) 0 : Nat), .int .u64 (limb (pY (gG)) 1 : Nat), .int .u64 (limb (pY (gG)) 2 : Nat), .int .u64 (limb (pY (gG)) 3 : Nat), .bool (pI (gG))]) ∧ Below w.heap.size w w' := by
  rw [gG_x, gG_y, gG_i]
  exact G_num GX GY w h
theorem limb_G : (limb GX 0 : Int) = 6481385041966929816 ∧ (limb GX 1 : Int) = 188021827762530521 ∧ (limb GX 2 : Int) = 6170039885052185351 ∧ (limb GX 3 : Int) = 8772561819708210092 ∧ (limb GY 0 : Int) = 11261198710074299576 ∧ (limb GY 1 : Int) = 18237243440184513561 ∧ (limb GY 2 : Int) = 6747795201694173352 ∧ (limb GY 3 : Int) = 5204712524664259685 := ⟨by kernel_rfl, by kernel_rfl, by kernel_rfl, by kernel_rfl, by kernel_rfl, by kernel_rfl, by kernel_rfl, by kernel_rfl⟩
set_option maxRecDepth 100000 in
set_option maxHeartbeats 4000000 in
theorem G3_num (w : World) : Calls Tryd.prog 44 #[] w fun e w' => e = .returned (.agg #[.int .u64 6481385041966929816, .int .u64 188021827762530521, .int .u64 6170039885052185351, .int .u64 8772561819708210092, .int .u64 11261198710074299576, .int .u64 18237243440184513561, .int .u64 6747795201694173352, .int .u64 5204712524664259685, .bool false]) ∧ Below w.heap.size w w' := by
  obtain ⟨w0, hw0⟩ : ∃ wq, wq = (w.alloc (.cells #[.int .u64 0, .int .u64 0, .int .u64 0, .int .u64 0, .int .u64 0, .int .u64 0, .int .u64 0, .int .u64 0, .bool false] 26)) := ⟨_, rfl⟩
  have H0 : Hid (OwnC w0 (w.heap.size) zpL) ∧ Hid (Below w.heap.size w w0) := by
    rw [hw0]
    exact ⟨(OwnC.new' rfl), below_alloc0 (Below.refl _ _) _⟩
  obtain ⟨P0_0, W_0⟩ := H0
  go_enter Tryd.func44, Tryd.ntmps44
  go_upto_region 1 with fail
  rw [← hw0]
  clear hw0
  obtain ⟨fP0z, fP00, fP01, fP02, fP03, fP04, fP05, fP06, fP07, fP08, fP0f⟩ := (P0_0.out).zp
  go_wp2_with fail
  clear fP0z fP00 fP01 fP02 fP03 fP04 fP05 fP06 fP07 fP08 fP0f
  obtain ⟨wz, hwz⟩ : ∃ wq, wq = (((((((((w0.setCell ⟨w.heap.size, 0, none⟩ (.int .u64 6481385041966929816)).setCell ⟨w.heap.size, 1, none⟩ (.int .u64 188021827762530521)).setCell ⟨w.heap.size, 2, none⟩ (.int .u64 6170039885052185351)).setCell ⟨w.heap.size, 3, none⟩ (.int .u64 8772561819708210092)).setCell ⟨w.heap.size, 4, none⟩ (.int .u64 11261198710074299576)).setCell ⟨w.heap.size, 5, none⟩ (.int .u64 18237243440184513561)).setCell ⟨w.heap.size, 6, none⟩ (.int .u64 6747795201694173352)).setCell ⟨w.heap.size, 7, none⟩ (.int .u64 5204712524664259685)).setCell ⟨w.heap.size, 8, none⟩ (.bool false)) := ⟨_, rfl⟩
  rw [← hwz]
  have HZ : OwnC wz w.heap.size [.int .u64 6481385041966929816, .int .u64 188021827762530521, .int .u64 6170039885052185351, .int .u64 8772561819708210092, .int .u64 11261198710074299576, .int .u64 18237243440184513561, .int .u64 6747795201694173352, .int .u64 5204712524664259685, .bool false] ∧ Below w.heap.size w wz := by
    rw [hwz]
    exact ⟨OwnC.put [.int .u64 6481385041966929816, .int .u64 188021827762530521, .int .u64 6170039885052185351, .int .u64 8772561819708210092, .int .u64 11261198710074299576, .int .u64 18237243440184513561, .int .u64 6747795201694173352, .int .u64 5204712524664259685, .bool false] P0_0.out rfl, below_putL (Nat.le_refl _) [.int .u64 6481385041966929816, .int .u64 188021827762530521, .int .u64 6170039885052185351, .int .u64 8772561819708210092, .int .u64 11261198710074299576, .int .u64 18237243440184513561, .int .u64 6747795201694173352, .int .u64 5204712524664259685, .bool false] 0 _ W_0.out⟩
  clear hwz
  obtain ⟨hO, HB⟩ := HZ
  have r0 := hO.2.2 0 _ rfl
  have r1 := hO.2.2 1 _ rfl
  have r2 := hO.2.2 2 _ rfl
  have r3 := hO.2.2 3 _ rfl
  have r4 := hO.2.2 4 _ rfl
  have r5 := hO.2.2 5 _ rfl
  have r6 := hO.2.2 6 _ rfl
  have r7 := hO.2.2 7 _ rfl
  have r8 := hO.2.2 8 _ rfl
  refine bodyPost_ret (v := .agg #[.int .u64 6481385041966929816, .int .u64 188021827762530521, .int .u64 6170039885052185351, .int .u64 8772561819708210092, .int .u64 11261198710074299576, .int .u64 18237243440184513561, .int .u64 6747795201694173352, .int .u64 5204712524664259685, .bool false]) ?_ rfl ⟨rfl, HB⟩
  simp [results, Tryd.results44, go_sem, r0, r1, r2, r3, r4, r5, r6, r7, r8]
theorem G3_A (w : World) : Calls Tryd.prog 44 #[] w fun e w' => e = .returned (.agg #[.int .u64 (limb (pX (gG)) 0 : Nat), .int .u64 (limb (pX (gG)) 1 : Nat), .int .u64 (limb (pX (gG)) 2 : Nat), .int .u64 (limb (pX (gG)) 3 : Nat), .int .u64 (limb (pY (gG)) 0 : Nat), .int .u64 (limb (pY (gG)) 1 : Nat), .int .u64 (limb (pY (gG)) 2 : Nat), .int .u64 (limb (pY (gG)) 3 : Nat), .bool (pI (gG))]) ∧ Below w.heap.size w w' := by
  obtain ⟨l0, l1, l2, l3, l4, l5, l6, l7⟩ := limb_G
  rw [gG_x, gG_y, gG_i, l0, l1, l2, l3, l4, l5, l6, l7]
  exact G3_num w
attribute [local go_sem] run_eqP run_eq49 eq4_same beqB_same
set_option maxRecDepth 100000 in
set_option maxHeartbeats 4000000 in
theorem g3_any (w : World) (hG : GlobP w) (hT : GTH w) (hQ : GG w) : Calls Tryd.prog 15 #[] w fun e w' => e = .returned (.bool true) ∧ Below w.heap.size w w' := by
  have K1 : Hid (∀ w, GG w → Calls Tryd.prog 43 #[] w fun e w' => e = .returned (.agg #[.int .u64 (limb (pX gG) 0 : Nat), .int .u64 (limb (pX gG) 1 : Nat), .int .u64 (limb (pX gG) 2 : Nat), .int .u64 (limb (pX gG) 3 : Nat), .int .u64 (limb (pY gG) 0 : Nat), .int .u64 (limb (pY gG) 1 : Nat), .int .u64 (limb (pY gG) 2 : Nat), .int .u64 (limb (pY gG) 3 : Nat), .bool (pI gG)]) ∧ Below w.heap.size w w') := fun w h => G_A w h
  obtain ⟨p1, ep1⟩ : ∃ uq, uq = gr.neg gG := ⟨_, rfl⟩
  have K2 : Hid (∀ w, GlobP w → Calls Tryd.prog 11 #[.agg #[.int .u64 (limb (pX gG) 0 : Nat), .int .u64 (limb (pX gG) 1 : Nat), .int .u64 (limb (pX gG) 2 : Nat), .int .u64 (limb (pX gG) 3 : Nat), .int .u64 (limb (pY gG) 0 : Nat), .int .u64 (limb (pY gG) 1 : Nat), .int .u64 (limb (pY gG) 2 : Nat), .int .u64 (limb (pY gG) 3 : Nat), .bool (pI gG)]] w fun e w' => e = .returned (.tuple #[.agg #[.int .u64 (limb (pX p1) 0 : Nat), .int .u64 (limb (pX p1) 1 : Nat), .int .u64 (limb (pX p1) 2 : Nat), .int .u64 (limb (pX p1) 3 : Nat), .int .u64 (limb (pY p1) 0 : Nat), .int .u64 (limb (pY p1) 1 : Nat), .int .u64 (limb (pY p1) 2 : Nat), .int .u64 (limb (pY p1) 3 : Nat), .bool (pI p1)], .int .i64 0]) ∧ Below w.heap.size w w') := fun w hG => by have k := Neg_A gG w hG; rw [show gr.neg gG = p1 from ep1.symm] at k; exact k
  have K3 : Hid (∀ w, GlobP w → GTH w → Calls Tryd.prog 9 #[.agg #[.int .u64 (limb (pX gG) 0 : Nat), .int .u64 (limb (pX gG) 1 : Nat), .int .u64 (limb (pX gG) 2 : Nat), .int .u64 (limb (pX gG) 3 : Nat), .int .u64 (limb (pY gG) 0 : Nat), .int .u64 (limb (pY gG) 1 : Nat), .int .u64 (limb (pY gG) 2 : Nat), .int .u64 (limb (pY gG) 3 : Nat), .bool (pI gG)], .agg #[.int .u64 (limb (pX p1) 0 : Nat), .int .u64 (limb (pX p1) 1 : Nat), .int .u64 (limb (pX p1) 2 : Nat), .int .u64 (limb (pX p1) 3 : Nat), .int .u64 (limb (pY p1) 0 : Nat), .int .u64 (limb (pY p1) 1 : Nat), .int .u64 (limb (pY p1) 2 : Nat), .int .u64 (limb (pY p1) 3 : Nat), .bool (pI p1)]] w fun e w' => e = .returned (.tuple #[.agg #[.int .u64 0, .int .u64 0, .int .u64 0, .int .u64 0, .int .u64 0, .int .u64 0, .int .u64 0, .int .u64 0, .bool true], .int .i64 0]) ∧ Below w.heap.size w w') := fun w hG hT => by have k := Add_A gG p1 w hG hT; rw [show gr.add gG p1 = gr.z from by rw [ep1]; exact gr.inv gG, ziV] at k; exact k
  have K4 : Hid (∀ w, Calls Tryd.prog 44 #[] w fun e w' => e = .returned (.agg #[.int .u64 (limb (pX gG) 0 : Nat), .int .u64 (limb (pX gG) 1 : Nat), .int .u64 (limb (pX gG) 2 : Nat), .int .u64 (limb (pX gG) 3 : Nat), .int .u64 (limb (pY gG) 0 : Nat), .int .u64 (limb (pY gG) 1 : Nat), .int .u64 (limb (pY gG) 2 : Nat), .int .u64 (limb (pY gG) 3 : Nat), .bool (pI gG)]) ∧ Below w.heap.size w w') := fun w => G3_A w
  obtain ⟨w0, hw0⟩ : ∃ wq, wq = w := ⟨_, rfl⟩
  have H0 : Hid (Below w.heap.size w w0) ∧ Hid (GlobP w0) ∧ Hid (GTH w0) ∧ Hid (GG w0) := by
    rw [hw0]
    exact ⟨Below.refl _ _, (hG).call (Below.refl _ _), (hT).call (Below.refl _ _), (hQ).call (Below.refl _ _)⟩
  obtain ⟨W_0, G_0, T_0, Q_0⟩ := H0
  clear ep1 hG hT hQ
  go_enter Tryd.func15, Tryd.ntmps15
  go_upto_region 1 with fail
  rw [← hw0]
  clear hw0
  go_upto_region 1 with fail
  go_cut [1, 2] (fun vq1 vq2 wx => ∃ bk1, vq1 = .pointer (some ⟨bk1, 0, none⟩) ∧ vq2 = .int .i64 0 ∧ w0.heap.size ≤ bk1 ∧ OwnC wx bk1 (ptL (pX p1) (pY p1) (pI p1)) ∧ Below w0.heap.size w0 wx)
  case first =>
    go_wp2_with fail
    refine (K1.out _ (Q_0.out)).mono ?_
    rintro e wx0 ⟨rfl, hq0⟩
    go_wp2_with fail
    refine (K2.out _ (G_0.out.call hq0)).mono ?_
    rintro e wx1 ⟨rfl, hq1⟩
    have hS1 : Below w0.heap.size w0 wx1 := below_call0 hq0 hq1
    go_wp2_with fail
    go_meet
    exact ⟨_, rfl, rfl, hS1.size, OwnC.new' rfl, below_alloc0 hS1 _⟩
  case rest =>
    obtain ⟨bk1, rfl, rfl, hle, hO, hB⟩ := hcut
    have W_1 : Hid (Below w.heap.size w wc) := below_call0 W_0.out hB
    have G_1 : Hid (GlobP wc) := G_0.out.call hB
    have T_1 : Hid (GTH wc) := T_0.out.call hB
    have Q_1 : Hid (GG wc) := Q_0.out.call hB
    have V1_1 : Hid (OwnC wc bk1 (ptL (pX p1) (pY p1) (pI p1))) := hO
    clear hB W_0 G_0 T_0 Q_0
    clear hO hle
    generalize wc = w1 at W_1 G_1 T_1 Q_1 V1_1 ⊢
    go_upto_region 2 with fail
    go_cut [3, 4] (fun vq3 vq4 wx => ∃ bk3, vq3 = .pointer (some ⟨bk3, 0, none⟩) ∧ vq4 = .int .i64 0 ∧ w1.heap.size ≤ bk3 ∧ OwnC wx bk3 ziL ∧ Below w1.heap.size w1 wx)
    case first =>
      refine wp_region_K 8 0 6 7 [?v0r2, ?v1r2, ?v2r2, ?v3r2, ?v4r2, ?v5r2, undef, undef] [some 11, some 12, some 13, some 10, some 14, some 15, some 3, none] (fun s w b => OwnC w b (cond s ziL zpL)) ?Ar2 ?oar2 ?osr2 (by kernel_rfl) (by kernel_rfl) (by kernel_rfl) rfl ?hAr2 (fun _ _ _ _ h hb => OwnC.call h hb) ?hopr2 ?hoar2 ?hosr2 (by decide) (by decide) ?hswr2 ?halr2 ?hstr2 ?hfinr2
      case hAr2 =>
        intro bq
        simp only [List.set_cons_zero, List.set_cons_succ, List.zip_cons_cons, List.zip_nil_right, fillD, Act.put, List.setIfInBounds_toArray]
        exact rfl
      case hopr2 =>
        refine ⟨?_, ?_, ?_, ?_, ?_, ?_, fun h => absurd rfl h, fun _ h => absurd rfl h, trivial⟩
        focus (intro _ _ bq wx hS; refine OpTo.calls rfl ?_ ?_; rotate_left; intro K hK; go_simp; refine (K1.out _ (Q_1.out.call hS)).mono ?_; rintro e w' ⟨rfl, hq⟩; exact hK w' hq; exact rfl)
        focus (intro _ _ bq wx hS; refine OpTo.yields rfl ?_; obtain ⟨_, _, _, _, _, _, _, _, _, _, _⟩ := (OwnC.call V1_1.out hS).pt; clear hS; go_simp; try with_reducible rfl)
        focus (intro _ _ bq wx hS; refine OpTo.calls rfl ?_ ?_; rotate_left; intro K hK; go_simp; refine (K3.out _ (G_1.out.call hS) (T_1.out.call hS)).mono ?_; rintro e w' ⟨rfl, hq⟩; exact hK w' hq; exact rfl)
        iterate 3 focus (intro _ _ bq wx hS; refine OpTo.yields rfl ?_; clear hS; go_simp; try with_reducible rfl)
      case hoar2 =>
        rw [List.getElem?_toArray]
        exact rfl
      case halr2 =>
        intro bq wx hS
        refine OpTo.make (ob := ?obr2) (B := fun w b => OwnC w b zpL) hS rfl ?runr2 ?ownr2
        case runr2 =>
          go_simp
          try with_reducible rfl
        case ownr2 => exact OwnC.new' rfl
      case hosr2 =>
        rw [List.getElem?_toArray]
        exact rfl
      case hswr2 => kernel_rfl
      case hstr2 =>
        intro bq wx hS hB hle
        have hB' : OwnC wx bq zpL := hB
        refine OpTo.stores (w1 := putL bq 0 ziL wx) (R := fun w' => OwnC w' bq (cond true ziL zpL) ∧ Below w1.heap.size w1 w') rfl ?_ rfl ⟨OwnC.put ziL hB' rfl, below_putL hle ziL 0 _ hS⟩
        obtain ⟨gz, g0, g1, g2, g3, g4, g5, g6, g7, g8, gf⟩ := OwnC.zp hB'
        first | (left; go_simp; done) | (right; exact ⟨_, by go_simp; rfl⟩) | (left; go_simp; rfl)
      case hfinr2 =>
        intro bq wx hS hB hle
        refine tail_at (o := ?ofr2_8) ?hir2_8 ?hwr2_8 ?_
        case hir2_8 => rw [List.getElem?_toArray]; exact rfl
        case hwr2_8 => exact rfl
        go_simp
        refine tail_end ?_
        go_wp2_with fail
        go_meet
        exact ⟨bq, rfl, rfl, hle, hB, hS⟩
    case rest =>
      obtain ⟨bk3, rfl, rfl, hle, hO, hB⟩ := hcut
      rename_i uf ug uh ui uj uk ul um un uo up uq ur us ut uu uv uw ux uy uz uA uB uC uD uE uF Kq1 hKq1
      clear uf ug uh ui uj uk ul um un uo up uq ur us ut uu uv uw ux uy uz uA uB uC uD uE uF
      have W_2 : Hid (Below w.heap.size w wc) := below_call0 W_1.out hB
      have G_2 : Hid (GlobP wc) := G_1.out.call hB
      have T_2 : Hid (GTH wc) := T_1.out.call hB
      have Q_2 : Hid (GG wc) := Q_1.out.call hB
      have V1_2 : Hid (OwnC wc bk1 (ptL (pX p1) (pY p1) (pI p1))) := OwnC.call V1_1.out hB
      have V3_2 : Hid (OwnC wc bk3 ziL) := hO
      clear hB W_1 G_1 T_1 Q_1 V1_1
      clear hO hle
      generalize wc = w2 at W_2 G_2 T_2 Q_2 V1_2 V3_2 ⊢
      go_wp2_with fail
      refine (K1.out _ (Q_2.out)).mono ?_
      rintro e w3 ⟨rfl, hq⟩
      have W_3 : Hid (Below w.heap.size w w3) := below_call0 W_2.out hq
      have G_3 : Hid (GlobP w3) := G_2.out.call hq
      have T_3 : Hid (GTH w3) := T_2.out.call hq
      have Q_3 : Hid (GG w3) := Q_2.out.call hq
      have V1_3 : Hid (OwnC w3 bk1 (ptL (pX p1) (pY p1) (pI p1))) := OwnC.call V1_2.out hq
      have V3_3 : Hid (OwnC w3 bk3 ziL) := OwnC.call V3_2.out hq
      clear hq W_2 G_2 T_2 Q_2 V1_2 V3_2
      go_wp2_with fail
      refine (K4.out _).mono ?_
      rintro e w4 ⟨rfl, hq⟩
      have W_4 : Hid (Below w.heap.size w w4) := below_call0 W_3.out hq
      have G_4 : Hid (GlobP w4) := G_3.out.call hq
      have T_4 : Hid (GTH w4) := T_3.out.call hq
      have Q_4 : Hid (GG w4) := Q_3.out.call hq
      have V1_4 : Hid (OwnC w4 bk1 (ptL (pX p1) (pY p1) (pI p1))) := OwnC.call V1_3.out hq
      have V3_4 : Hid (OwnC w4 bk3 ziL) := OwnC.call V3_3.out hq
      clear hq W_3 G_3 T_3 Q_3 V1_3 V3_3
      obtain ⟨fV3z, fV30, fV31, fV32, fV33, fV34, fV35, fV36, fV37, fV38, fV3f⟩ := (V3_4.out).zi
      go_wp2_with fail
      go_ret
      exact ⟨rfl, W_4.out⟩
end Go.Proofs.YtgmfecncfekjfaaDoor
