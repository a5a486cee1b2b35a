/- Package signer: the law's one key: serves, New. -/
import Derived.Test.YtgkaeinkplcgnaaGreatDoorSnA
namespace Go.Proofs.YtgkaeinkplcgnaaGreatDoor
open Go Go.RowKit Go.Lib
theorem limb_GG : (limb GX 0 : Int) = 6481385041966929816 ∧ (limb GX 1 : Int) = 188021827762530521 ∧ (limb GX 2 : Int) = 6170039885052185351 ∧ (limb GX 3 : Int) = 8772561819708210092 ∧ (limb GY 0 : Int) = 11261198710074299576 ∧ (limb GY 1 : Int) = 18237243440184513561 ∧ (limb GY 2 : Int) = 6747795201694173352 ∧ (limb GY 3 : Int) = 5204712524664259685 := ⟨by kernel_rfl, by kernel_rfl, by kernel_rfl, by kernel_rfl, by kernel_rfl, by kernel_rfl, by kernel_rfl, by kernel_rfl⟩
theorem chkG (w : World) (hG : GlobP w) : Calls Tryz.prog 77 #[.agg #[.int .u64 6481385041966929816, .int .u64 188021827762530521, .int .u64 6170039885052185351, .int .u64 8772561819708210092, .int .u64 11261198710074299576, .int .u64 18237243440184513561, .int .u64 6747795201694173352, .int .u64 5204712524664259685, .bool false]] w fun e w' => e = .returned (.int .i64 0) ∧ Below w.heap.size w w' := by
  have h := Check_ok GX GY false (of_decide_eq_true (by kernel_rfl)) (of_decide_eq_true (by kernel_rfl)) (by kernel_rfl) w hG
  obtain ⟨e0, e1, e2, e3, e4, e5, e6, e7⟩ := limb_GG
  rw [e0, e1, e2, e3, e4, e5, e6, e7] at h
  exact h
theorem table_1 (w : World) : Calls Tryz.prog 48 #[.int .i64 1, .int .i64 0] w fun e w' => e = .returned (.bool true) ∧ w' = w := by
  go_enter Tryz.func48, Tryz.ntmps48
  go_wp2_with fail
  go_ret
  exact ⟨rfl, rfl⟩
set_option maxRecDepth 100000 in
set_option maxHeartbeats 4000000 in
theorem G3_lit (w : World) : Calls Tryz.prog 16 #[] w fun e w' => e = .returned (.agg #[.int .u64 6481385041966929816, .int .u64 188021827762530521, .int .u64 6170039885052185351, .int .u64 8772561819708210092, .int .u64 11261198710074299576, .int .u64 18237243440184513561, .int .u64 6747795201694173352, .int .u64 5204712524664259685, .bool false]) ∧ Below w.heap.size w w' := by
  obtain ⟨w0, hw0⟩ : ∃ wq, wq = (w.alloc (.cells #[.int .u64 0, .int .u64 0, .int .u64 0, .int .u64 0, .int .u64 0, .int .u64 0, .int .u64 0, .int .u64 0, .bool false] 27)) := ⟨_, rfl⟩
  have H0 : Hid (OwnC w0 (w.heap.size) [.int .u64 0, .int .u64 0, .int .u64 0, .int .u64 0, .int .u64 0, .int .u64 0, .int .u64 0, .int .u64 0, .bool false] ∧ Below w.heap.size w w0) := by
    rw [hw0]
    exact ⟨(OwnC.new' rfl), below_alloc0 (Below.refl _ _) _⟩
  go_enter Tryz.func16, Tryz.ntmps16
  go_upto_region 1 with fail
  rw [← hw0]
  clear hw0
  have f0 := H0.out.1.2.2 0 _ rfl
  have f1 := H0.out.1.2.2 1 _ rfl
  have f2 := H0.out.1.2.2 2 _ rfl
  have f3 := H0.out.1.2.2 3 _ rfl
  have f4 := H0.out.1.2.2 4 _ rfl
  have f5 := H0.out.1.2.2 5 _ rfl
  have f6 := H0.out.1.2.2 6 _ rfl
  have f7 := H0.out.1.2.2 7 _ rfl
  have f8 := H0.out.1.2.2 8 _ rfl
  have fz := H0.out.1.2.1
  go_wp2_with fail
  clear f0 f1 f2 f3 f4 f5 f6 f7 f8 fz
  obtain ⟨wz, hwz⟩ : ∃ wq, wq = (((((((((w0.setCell ⟨w.heap.size, 0, none⟩ (.int .u64 6481385041966929816)).setCell ⟨w.heap.size, 1, none⟩ (.int .u64 188021827762530521)).setCell ⟨w.heap.size, 2, none⟩ (.int .u64 6170039885052185351)).setCell ⟨w.heap.size, 3, none⟩ (.int .u64 8772561819708210092)).setCell ⟨w.heap.size, 4, none⟩ (.int .u64 11261198710074299576)).setCell ⟨w.heap.size, 5, none⟩ (.int .u64 18237243440184513561)).setCell ⟨w.heap.size, 6, none⟩ (.int .u64 6747795201694173352)).setCell ⟨w.heap.size, 7, none⟩ (.int .u64 5204712524664259685)).setCell ⟨w.heap.size, 8, none⟩ (.bool false)) := ⟨_, rfl⟩
  rw [← hwz]
  have HZ : OwnC wz w.heap.size [.int .u64 6481385041966929816, .int .u64 188021827762530521, .int .u64 6170039885052185351, .int .u64 8772561819708210092, .int .u64 11261198710074299576, .int .u64 18237243440184513561, .int .u64 6747795201694173352, .int .u64 5204712524664259685, .bool false] ∧ Below w.heap.size w wz := by
    rw [hwz]
    exact ⟨OwnC.put [.int .u64 6481385041966929816, .int .u64 188021827762530521, .int .u64 6170039885052185351, .int .u64 8772561819708210092, .int .u64 11261198710074299576, .int .u64 18237243440184513561, .int .u64 6747795201694173352, .int .u64 5204712524664259685, .bool false] H0.out.1 rfl, below_putL (Nat.le_refl _) [.int .u64 6481385041966929816, .int .u64 188021827762530521, .int .u64 6170039885052185351, .int .u64 8772561819708210092, .int .u64 11261198710074299576, .int .u64 18237243440184513561, .int .u64 6747795201694173352, .int .u64 5204712524664259685, .bool false] 0 _ H0.out.2⟩
  clear hwz
  obtain ⟨hO, HB⟩ := HZ
  have r0 := hO.2.2 0 _ rfl
  have r1 := hO.2.2 1 _ rfl
  have r2 := hO.2.2 2 _ rfl
  have r3 := hO.2.2 3 _ rfl
  have r4 := hO.2.2 4 _ rfl
  have r5 := hO.2.2 5 _ rfl
  have r6 := hO.2.2 6 _ rfl
  have r7 := hO.2.2 7 _ rfl
  have r8 := hO.2.2 8 _ rfl
  refine bodyPost_ret (v := .agg #[.int .u64 6481385041966929816, .int .u64 188021827762530521, .int .u64 6170039885052185351, .int .u64 8772561819708210092, .int .u64 11261198710074299576, .int .u64 18237243440184513561, .int .u64 6747795201694173352, .int .u64 5204712524664259685, .bool false]) ?_ rfl ⟨rfl, HB⟩
  simp [results, Tryz.results16, go_sem, r0, r1, r2, r3, r4, r5, r6, r7, r8]
set_option maxRecDepth 100000 in
set_option maxHeartbeats 4000000 in
theorem arePoints_1 (b : Nat) (w : World) (hG : GlobP w) (hb : OwnC w b [.int .u64 6481385041966929816, .int .u64 188021827762530521, .int .u64 6170039885052185351, .int .u64 8772561819708210092, .int .u64 11261198710074299576, .int .u64 18237243440184513561, .int .u64 6747795201694173352, .int .u64 5204712524664259685, .bool false]) : Calls Tryz.prog 50 #[.slice (some ⟨b, 0, none⟩) 1 1] w fun e w' => e = .returned (.bool true) ∧ Below w.heap.size w w' := by
  have KC : Hid _ := chkG
  have H0 : Hid (GlobP w ∧ OwnC w b [.int .u64 6481385041966929816, .int .u64 188021827762530521, .int .u64 6170039885052185351, .int .u64 8772561819708210092, .int .u64 11261198710074299576, .int .u64 18237243440184513561, .int .u64 6747795201694173352, .int .u64 5204712524664259685, .bool false]) := ⟨hG, hb⟩
  clear hG hb
  go_enter Tryz.func50, Tryz.ntmps50
  go_wp2_with fail
  rename_i Kr hKr
  have HKr : Hid _ := hKr
  clear hKr
  go_loopw [7] (fun iv wr => ∃ i : Nat, i ≤ 1 ∧ iv = .int .i64 (i : Nat) ∧ Below w.heap.size w wr) (fun iv _ => 1 - (Go.RowKit.intOf iv).toNat)
  case atStart => exact ⟨0, by decide, rfl, Below.refl _ _⟩
  case round =>
    obtain ⟨i, hi, rfl, hB⟩ := hrel
    rename World => wr
    have HB : Hid (Below w.heap.size w wr) := hB
    clear hB
    rcases (show i = 0 ∨ i = 1 by omega) with rfl | rfl
    · clear hi HKr
      have HO : Hid (OwnC wr b [.int .u64 6481385041966929816, .int .u64 188021827762530521, .int .u64 6170039885052185351, .int .u64 8772561819708210092, .int .u64 11261198710074299576, .int .u64 18237243440184513561, .int .u64 6747795201694173352, .int .u64 5204712524664259685, .bool false]) := H0.out.2.call HB.out
      have f0 : wr.cell? ⟨b, 0, none⟩ = some (.int .u64 6481385041966929816) := HO.out.2.2 0 _ rfl
      have f1 : wr.cell? ⟨b, 1, none⟩ = some (.int .u64 188021827762530521) := HO.out.2.2 1 _ rfl
      have f2 : wr.cell? ⟨b, 2, none⟩ = some (.int .u64 6170039885052185351) := HO.out.2.2 2 _ rfl
      have f3 : wr.cell? ⟨b, 3, none⟩ = some (.int .u64 8772561819708210092) := HO.out.2.2 3 _ rfl
      have f4 : wr.cell? ⟨b, 4, none⟩ = some (.int .u64 11261198710074299576) := HO.out.2.2 4 _ rfl
      have f5 : wr.cell? ⟨b, 5, none⟩ = some (.int .u64 18237243440184513561) := HO.out.2.2 5 _ rfl
      have f6 : wr.cell? ⟨b, 6, none⟩ = some (.int .u64 6747795201694173352) := HO.out.2.2 6 _ rfl
      have f7 : wr.cell? ⟨b, 7, none⟩ = some (.int .u64 5204712524664259685) := HO.out.2.2 7 _ rfl
      have f8 : wr.cell? ⟨b, 8, none⟩ = some (.bool false) := HO.out.2.2 8 _ rfl
      obtain ⟨W3, hW3⟩ : ∃ W3, W3 = wr.alloc (.cells #[.int .u64 6481385041966929816, .int .u64 188021827762530521, .int .u64 6170039885052185351, .int .u64 8772561819708210092, .int .u64 11261198710074299576, .int .u64 18237243440184513561, .int .u64 6747795201694173352, .int .u64 5204712524664259685, .bool false] 27) := ⟨_, rfl⟩
      obtain ⟨K, hK⟩ : ∃ K, K = wr.heap.size := ⟨_, rfl⟩
      have HW3 : Hid (W3 = wr.alloc (.cells #[.int .u64 6481385041966929816, .int .u64 188021827762530521, .int .u64 6170039885052185351, .int .u64 8772561819708210092, .int .u64 11261198710074299576, .int .u64 18237243440184513561, .int .u64 6747795201694173352, .int .u64 5204712524664259685, .bool false] 27) ∧ K = wr.heap.size) := ⟨hW3, hK⟩
      have H3 : Hid (OwnC W3 K [.int .u64 6481385041966929816, .int .u64 188021827762530521, .int .u64 6170039885052185351, .int .u64 8772561819708210092, .int .u64 11261198710074299576, .int .u64 18237243440184513561, .int .u64 6747795201694173352, .int .u64 5204712524664259685, .bool false] ∧ Below w.heap.size w W3) := by
        rw [hW3, hK]
        exact ⟨OwnC.new' rfl, below_alloc0 HB.out _⟩
      clear hW3 hK
      go_upto_region 4 with fail
      rw [← HW3.out.1, ← HW3.out.2]
      clear HW3 f0 f1 f2 f3 f4 f5 f6 f7 f8
      have r0 : W3.cell? ⟨K, 0, none⟩ = some (.int .u64 6481385041966929816) := H3.out.1.2.2 0 _ rfl
      have r1 : W3.cell? ⟨K, 1, none⟩ = some (.int .u64 188021827762530521) := H3.out.1.2.2 1 _ rfl
      have r2 : W3.cell? ⟨K, 2, none⟩ = some (.int .u64 6170039885052185351) := H3.out.1.2.2 2 _ rfl
      have r3 : W3.cell? ⟨K, 3, none⟩ = some (.int .u64 8772561819708210092) := H3.out.1.2.2 3 _ rfl
      have r4 : W3.cell? ⟨K, 4, none⟩ = some (.int .u64 11261198710074299576) := H3.out.1.2.2 4 _ rfl
      have r5 : W3.cell? ⟨K, 5, none⟩ = some (.int .u64 18237243440184513561) := H3.out.1.2.2 5 _ rfl
      have r6 : W3.cell? ⟨K, 6, none⟩ = some (.int .u64 6747795201694173352) := H3.out.1.2.2 6 _ rfl
      have r7 : W3.cell? ⟨K, 7, none⟩ = some (.int .u64 5204712524664259685) := H3.out.1.2.2 7 _ rfl
      have r8 : W3.cell? ⟨K, 8, none⟩ = some (.bool false) := H3.out.1.2.2 8 _ rfl
      go_wp2_with fail
      refine (KC.out _ (H0.out.1.call H3.out.2)).mono ?_
      rintro e w4 ⟨rfl, hb4⟩
      have H4 : Hid (Below w.heap.size w w4) := H3.out.2.trans (hb4.mono H3.out.2.size)
      clear hb4
      go_wp2_with fail
      go_roundw
      case rel => exact ⟨1, by decide, rfl, H4.out⟩
      case measure => simp [Go.RowKit.intOf]
    · clear hi
      go_wp2_with fail
      refine HKr.out _ _ ?_
      clear HKr
      go_wp2_with fail
      go_ret
      exact ⟨rfl, HB.out⟩
/-- The law's one key, in a box. -/
structure KB (w : World) (k b : Nat) : Prop where
  key : OwnC w k [.int .i64 1, .int .i64 0, .int .i64 1, .int .u64 1, .int .u64 0, .int .u64 0, .int .u64 0, .int .u64 6481385041966929816, .int .u64 188021827762530521, .int .u64 6170039885052185351, .int .u64 8772561819708210092, .int .u64 11261198710074299576, .int .u64 18237243440184513561, .int .u64 6747795201694173352, .int .u64 5204712524664259685, .bool false, .slice (some ⟨b, 0, none⟩) 1 1, .slice none 0 0]
  grp : OwnC w b [.int .u64 6481385041966929816, .int .u64 188021827762530521, .int .u64 6170039885052185351, .int .u64 8772561819708210092, .int .u64 11261198710074299576, .int .u64 18237243440184513561, .int .u64 6747795201694173352, .int .u64 5204712524664259685, .bool false]
theorem KB.call {w w' : World} {k b : Nat} (h : KB w k b) (hb : Below w.heap.size w w') : KB w' k b := ⟨h.key.call hb, h.grp.call hb⟩
theorem KB.facts {w w' : World} {k b : Nat} (h : KB w k b) (hb : Below w.heap.size w w') : w'.cell? ⟨k, 0, none⟩ = some (.int .i64 1) ∧ w'.cell? ⟨k, 1, none⟩ = some (.int .i64 0) ∧ w'.cell? ⟨k, 2, none⟩ = some (.int .i64 1) ∧ w'.cell? ⟨k, 3, none⟩ = some (.int .u64 1) ∧ w'.cell? ⟨k, 4, none⟩ = some (.int .u64 0) ∧ w'.cell? ⟨k, 5, none⟩ = some (.int .u64 0) ∧ w'.cell? ⟨k, 6, none⟩ = some (.int .u64 0) ∧ w'.cell? ⟨k, 7, none⟩ = some (.int .u64 6481385041966929816) ∧ w'.cell? ⟨k, 8, none⟩ = some (.int .u64 188021827762530521) ∧ w'.cell? ⟨k, 9, none⟩ = some (.int .u64 6170039885052185351) ∧ w'.cell? ⟨k, 10, none⟩ = some (.int .u64 8772561819708210092) ∧ w'.cell? ⟨k, 11, none⟩ = some (.int .u64 11261198710074299576) ∧ w'.cell? ⟨k, 12, none⟩ = some (.int .u64 18237243440184513561) ∧ w'.cell? ⟨k, 13, none⟩ = some (.int .u64 6747795201694173352) ∧ w'.cell? ⟨k, 14, none⟩ = some (.int .u64 5204712524664259685) ∧ w'.cell? ⟨k, 15, none⟩ = some (.bool false) ∧ w'.cell? ⟨k, 16, none⟩ = some (.slice (some ⟨b, 0, none⟩) 1 1) ∧ w'.cell? ⟨k, 17, none⟩ = some (.slice none 0 0) ∧ w'.cell? ⟨b, 0, none⟩ = some (.int .u64 6481385041966929816) ∧ w'.cell? ⟨b, 1, none⟩ = some (.int .u64 188021827762530521) ∧ w'.cell? ⟨b, 2, none⟩ = some (.int .u64 6170039885052185351) ∧ w'.cell? ⟨b, 3, none⟩ = some (.int .u64 8772561819708210092) ∧ w'.cell? ⟨b, 4, none⟩ = some (.int .u64 11261198710074299576) ∧ w'.cell? ⟨b, 5, none⟩ = some (.int .u64 18237243440184513561) ∧ w'.cell? ⟨b, 6, none⟩ = some (.int .u64 6747795201694173352) ∧ w'.cell? ⟨b, 7, none⟩ = some (.int .u64 5204712524664259685) ∧ w'.cell? ⟨b, 8, none⟩ = some (.bool false) := by
  have h1 := (h.key.call hb).2.2
  have h2 := (h.grp.call hb).2.2
  exact ⟨h1 0 _ rfl, h1 1 _ rfl, h1 2 _ rfl, h1 3 _ rfl, h1 4 _ rfl, h1 5 _ rfl, h1 6 _ rfl, h1 7 _ rfl, h1 8 _ rfl, h1 9 _ rfl, h1 10 _ rfl, h1 11 _ rfl, h1 12 _ rfl, h1 13 _ rfl, h1 14 _ rfl, h1 15 _ rfl, h1 16 _ rfl, h1 17 _ rfl, h2 0 _ rfl, h2 1 _ rfl, h2 2 _ rfl, h2 3 _ rfl, h2 4 _ rfl, h2 5 _ rfl, h2 6 _ rfl, h2 7 _ rfl, h2 8 _ rfl⟩
theorem eqGG (w : World) : Sem.run Tryz.prog (binOp .eql 27 (.agg #[.int .u64 6481385041966929816, .int .u64 188021827762530521, .int .u64 6170039885052185351, .int .u64 8772561819708210092, .int .u64 11261198710074299576, .int .u64 18237243440184513561, .int .u64 6747795201694173352, .int .u64 5204712524664259685, .bool false]) (.agg #[.int .u64 6481385041966929816, .int .u64 188021827762530521, .int .u64 6170039885052185351, .int .u64 8772561819708210092, .int .u64 11261198710074299576, .int .u64 18237243440184513561, .int .u64 6747795201694173352, .int .u64 5204712524664259685, .bool false])) w = .ok (.bool true) w := by kernel_rfl
set_option maxRecDepth 100000 in
set_option maxHeartbeats 4000000 in
theorem serves_1 (b : Nat) (w : World) (hP : GlobP w) (hQ : GlobQ w) (hb : OwnC w b [.int .u64 6481385041966929816, .int .u64 188021827762530521, .int .u64 6170039885052185351, .int .u64 8772561819708210092, .int .u64 11261198710074299576, .int .u64 18237243440184513561, .int .u64 6747795201694173352, .int .u64 5204712524664259685, .bool false]) : Calls Tryz.prog 27 #[.agg #[.int .i64 1, .int .i64 0, .int .i64 1, .int .u64 1, .int .u64 0, .int .u64 0, .int .u64 0, .int .u64 6481385041966929816, .int .u64 188021827762530521, .int .u64 6170039885052185351, .int .u64 8772561819708210092, .int .u64 11261198710074299576, .int .u64 18237243440184513561, .int .u64 6747795201694173352, .int .u64 5204712524664259685, .bool false, .slice (some ⟨b, 0, none⟩) 1 1, .slice none 0 0]] w fun e w' => e = .returned (.bool true) ∧ Below w.heap.size w w' := by
  have KT : Hid _ := table_1
  have KS : Hid _ := scalars_any
  have KF : Hid (∀ (g : Nat) (w : World), FieldB w g QQ → Calls Tryz.prog 49 #[.pointer (some ⟨g, 0, none⟩), .agg #[.int .u64 1, .int .u64 0, .int .u64 0, .int .u64 0]] w fun e w' => e = .returned (.int .i64 0) ∧ Below w.heap.size w w') := fun g w hF => by
    have h := check_any g QQ 1 (of_decide_eq_true (by kernel_rfl)) (of_decide_eq_true (by kernel_rfl)) w hF
    have e : chkN QQ 1 = 0 := by kernel_rfl
    rw [e] at h
    have e0 : (limb 1 0 : Int) = 1 := by kernel_rfl
    have e1 : (limb 1 1 : Int) = 0 := by kernel_rfl
    have e2 : (limb 1 2 : Int) = 0 := by kernel_rfl
    have e3 : (limb 1 3 : Int) = 0 := by kernel_rfl
    rw [e0, e1, e2, e3] at h
    exact h
  have KA : Hid _ := arePoints_1 b
  have KE := eqGG
  obtain ⟨w0, hw0⟩ : ∃ wq, wq = w.alloc (.cells #[.int .i64 1, .int .i64 0, .int .i64 1, .int .u64 1, .int .u64 0, .int .u64 0, .int .u64 0, .int .u64 6481385041966929816, .int .u64 188021827762530521, .int .u64 6170039885052185351, .int .u64 8772561819708210092, .int .u64 11261198710074299576, .int .u64 18237243440184513561, .int .u64 6747795201694173352, .int .u64 5204712524664259685, .bool false, .slice (some ⟨b, 0, none⟩) 1 1, .slice none 0 0] 55) := ⟨_, rfl⟩
  obtain ⟨k, hk⟩ : ∃ k, k = w.heap.size := ⟨_, rfl⟩
  have HW : Hid (w0 = w.alloc (.cells #[.int .i64 1, .int .i64 0, .int .i64 1, .int .u64 1, .int .u64 0, .int .u64 0, .int .u64 0, .int .u64 6481385041966929816, .int .u64 188021827762530521, .int .u64 6170039885052185351, .int .u64 8772561819708210092, .int .u64 11261198710074299576, .int .u64 18237243440184513561, .int .u64 6747795201694173352, .int .u64 5204712524664259685, .bool false, .slice (some ⟨b, 0, none⟩) 1 1, .slice none 0 0] 55) ∧ k = w.heap.size) := ⟨hw0, hk⟩
  have hbw : Below w.heap.size w w0 := by rw [hw0]; exact below_alloc0 (Below.refl _ _) _
  have H0 : Hid (GlobP w0 ∧ GlobQ w0 ∧ OwnC w0 b [.int .u64 6481385041966929816, .int .u64 188021827762530521, .int .u64 6170039885052185351, .int .u64 8772561819708210092, .int .u64 11261198710074299576, .int .u64 18237243440184513561, .int .u64 6747795201694173352, .int .u64 5204712524664259685, .bool false] ∧ Below w.heap.size w w0) := ⟨hP.call hbw, hQ.call hbw, hb.call hbw, hbw⟩
  have HK : Hid (KB w0 k b) := by
    rw [hk, hw0]
    exact ⟨OwnC.new' rfl, hb.call (below_alloc0 (Below.refl _ _) _)⟩
  clear hw0 hk hbw hP hQ hb
  go_enter Tryz.func27, Tryz.ntmps27
  go_upto_region 1 with fail
  rw [← HW.out.1, ← HW.out.2]
  clear HW
  refine wp_region_H (fun w' => Below w0.heap.size w0 w') 56 rfl (by kernel_rfl) ?_
  refine wpAnyH_take (i := 0) (oi := ?o0v) (v := ?v0v) ?hi0v (by kernel_rfl) (by kernel_rfl) (by kernel_rfl) ?hQ0v ?hy0v (Below.drew (Below.refl _ _)) ?more0v
  case hi0v => rw [List.getElem?_toArray]; exact rfl
  case hQ0v => exact fun _ _ _ h => h
  case hy0v =>
    refine Or.inl ⟨by rfl, ?_⟩
    intro w' hSw
    obtain ⟨k0, k1, k2, k3, k4, k5, k6, k7, k8, k9, k10, k11, k12, k13, k14, k15, k16, k17, g0, g1, g2, g3, g4, g5, g6, g7, g8⟩ := HK.out.facts hSw
    clear hSw
    go_simp
    try with_reducible rfl
  simp only [Act.put, List.setIfInBounds_toArray, List.set_cons_zero, List.set_cons_succ]
  refine wpAnyH_take (i := 1) (oi := ?o1v) (v := ?v1v) ?hi1v (by kernel_rfl) (by kernel_rfl) (by kernel_rfl) ?hQ1v ?hy1v (Below.drew (Below.refl _ _)) ?more1v
  case hi1v => rw [List.getElem?_toArray]; exact rfl
  case hQ1v => exact fun _ _ _ h => h
  case hy1v =>
    refine Or.inl ⟨by rfl, ?_⟩
    intro w' hSw
    obtain ⟨k0, k1, k2, k3, k4, k5, k6, k7, k8, k9, k10, k11, k12, k13, k14, k15, k16, k17, g0, g1, g2, g3, g4, g5, g6, g7, g8⟩ := HK.out.facts hSw
    clear hSw
    go_simp
    try with_reducible rfl
  simp only [Act.put, List.setIfInBounds_toArray, List.set_cons_zero, List.set_cons_succ]
  refine wpAnyH_take (i := 2) (oi := ?o2v) (v := ?v2v) ?hi2v (by kernel_rfl) (by kernel_rfl) (by kernel_rfl) ?hQ2v ?hy2v (Below.drew (Below.refl _ _)) ?more2v
  case hi2v => rw [List.getElem?_toArray]; exact rfl
  case hQ2v => exact fun _ _ _ h => h
  case hy2v =>
    refine Or.inl ⟨by rfl, ?_⟩
    intro w' hSw
    obtain ⟨k0, k1, k2, k3, k4, k5, k6, k7, k8, k9, k10, k11, k12, k13, k14, k15, k16, k17, g0, g1, g2, g3, g4, g5, g6, g7, g8⟩ := HK.out.facts hSw
    clear hSw
    go_simp
    try with_reducible rfl
  simp only [Act.put, List.setIfInBounds_toArray, List.set_cons_zero, List.set_cons_succ]
  refine wpAnyH_take (i := 3) (oi := ?o3v) (v := ?v3v) ?hi3v (by kernel_rfl) (by kernel_rfl) (by kernel_rfl) ?hQ3v ?hy3v (Below.drew (Below.refl _ _)) ?more3v
  case hi3v => rw [List.getElem?_toArray]; exact rfl
  case hQ3v => exact fun _ _ _ h => h
  case hy3v =>
    refine Or.inl ⟨by rfl, ?_⟩
    intro w' hSw
    obtain ⟨k0, k1, k2, k3, k4, k5, k6, k7, k8, k9, k10, k11, k12, k13, k14, k15, k16, k17, g0, g1, g2, g3, g4, g5, g6, g7, g8⟩ := HK.out.facts hSw
    clear hSw
    go_simp
    try with_reducible rfl
  simp only [Act.put, List.setIfInBounds_toArray, List.set_cons_zero, List.set_cons_succ]
  refine wpAnyH_one (i := 4) (o := ?o4v) (by kernel_rfl) ?hi4v ?hw4v ?st4v
  case hi4v => rw [List.getElem?_toArray]; exact rfl
  case hw4v => exact rfl
  intro K hK
  have HK4v : Hid _ := hK
  clear hK
  go_simp
  refine (KT.out _).mono ?_
  rintro e w1 ⟨rfl, hq⟩
  have I1 : Hid (Below w0.heap.size w0 w1) := by rw [hq]; exact (Below.drew (Below.refl _ _))
  clear hq
  go_wp2_with fail
  refine HK4v.out _ _ ⟨I1.out, ?_⟩
  clear HK4v K
  try simp only [Act.put, List.setIfInBounds_toArray, List.set_cons_zero, List.set_cons_succ]
  refine wpAnyH_take (i := 5) (oi := ?o5v) (v := ?v5v) ?hi5v (by kernel_rfl) (by kernel_rfl) (by kernel_rfl) ?hQ5v ?hy5v I1.out ?more5v
  case hi5v => rw [List.getElem?_toArray]; exact rfl
  case hQ5v => exact fun _ _ _ h => h
  case hy5v =>
    refine Or.inl ⟨by rfl, ?_⟩
    intro w' hSw
    obtain ⟨k0, k1, k2, k3, k4, k5, k6, k7, k8, k9, k10, k11, k12, k13, k14, k15, k16, k17, g0, g1, g2, g3, g4, g5, g6, g7, g8⟩ := HK.out.facts hSw
    clear hSw
    go_simp
    try with_reducible rfl
  simp only [Act.put, List.setIfInBounds_toArray, List.set_cons_zero, List.set_cons_succ]
  refine wpAnyH_take (i := 6) (oi := ?o6v) (v := ?v6v) ?hi6v (by kernel_rfl) (by kernel_rfl) (by kernel_rfl) ?hQ6v ?hy6v I1.out ?more6v
  case hi6v => rw [List.getElem?_toArray]; exact rfl
  case hQ6v => exact fun _ _ _ h => h
  case hy6v =>
    refine Or.inl ⟨by rfl, ?_⟩
    intro w' hSw
    obtain ⟨k0, k1, k2, k3, k4, k5, k6, k7, k8, k9, k10, k11, k12, k13, k14, k15, k16, k17, g0, g1, g2, g3, g4, g5, g6, g7, g8⟩ := HK.out.facts hSw
    clear hSw
    go_simp
    try with_reducible rfl
  simp only [Act.put, List.setIfInBounds_toArray, List.set_cons_zero, List.set_cons_succ]
  refine wpAnyH_take (i := 7) (oi := ?o7v) (v := ?v7v) ?hi7v (by kernel_rfl) (by kernel_rfl) (by kernel_rfl) ?hQ7v ?hy7v I1.out ?more7v
  case hi7v => rw [List.getElem?_toArray]; exact rfl
  case hQ7v => exact fun _ _ _ h => h
  case hy7v =>
    refine Or.inl ⟨by rfl, ?_⟩
    intro w' hSw
    obtain ⟨k0, k1, k2, k3, k4, k5, k6, k7, k8, k9, k10, k11, k12, k13, k14, k15, k16, k17, g0, g1, g2, g3, g4, g5, g6, g7, g8⟩ := HK.out.facts hSw
    clear hSw
    go_simp
    try with_reducible rfl
  simp only [Act.put, List.setIfInBounds_toArray, List.set_cons_zero, List.set_cons_succ]
  refine wpAnyH_take (i := 8) (oi := ?o8v) (v := ?v8v) ?hi8v (by kernel_rfl) (by kernel_rfl) (by kernel_rfl) ?hQ8v ?hy8v I1.out ?more8v
  case hi8v => rw [List.getElem?_toArray]; exact rfl
  case hQ8v => exact fun _ _ _ h => h
  case hy8v =>
    refine Or.inl ⟨by rfl, ?_⟩
    intro w' hSw
    obtain ⟨k0, k1, k2, k3, k4, k5, k6, k7, k8, k9, k10, k11, k12, k13, k14, k15, k16, k17, g0, g1, g2, g3, g4, g5, g6, g7, g8⟩ := HK.out.facts hSw
    clear hSw
    go_simp
    try with_reducible rfl
  simp only [Act.put, List.setIfInBounds_toArray, List.set_cons_zero, List.set_cons_succ]
  refine wpAnyH_take (i := 9) (oi := ?o9v) (v := ?v9v) ?hi9v (by kernel_rfl) (by kernel_rfl) (by kernel_rfl) ?hQ9v ?hy9v I1.out ?more9v
  case hi9v => rw [List.getElem?_toArray]; exact rfl
  case hQ9v => exact fun _ _ _ h => h
  case hy9v =>
    refine Or.inl ⟨by rfl, ?_⟩
    intro w' hSw
    obtain ⟨k0, k1, k2, k3, k4, k5, k6, k7, k8, k9, k10, k11, k12, k13, k14, k15, k16, k17, g0, g1, g2, g3, g4, g5, g6, g7, g8⟩ := HK.out.facts hSw
    clear hSw
    go_simp
    try with_reducible rfl
  simp only [Act.put, List.setIfInBounds_toArray, List.set_cons_zero, List.set_cons_succ]
  refine wpAnyH_take (i := 10) (oi := ?o10v) (v := ?v10v) ?hi10v (by kernel_rfl) (by kernel_rfl) (by kernel_rfl) ?hQ10v ?hy10v I1.out ?more10v
  case hi10v => rw [List.getElem?_toArray]; exact rfl
  case hQ10v => exact fun _ _ _ h => h
  case hy10v =>
    refine Or.inl ⟨by rfl, ?_⟩
    intro w' hSw
    obtain ⟨k0, k1, k2, k3, k4, k5, k6, k7, k8, k9, k10, k11, k12, k13, k14, k15, k16, k17, g0, g1, g2, g3, g4, g5, g6, g7, g8⟩ := HK.out.facts hSw
    clear hSw
    go_simp
    try with_reducible rfl
  simp only [Act.put, List.setIfInBounds_toArray, List.set_cons_zero, List.set_cons_succ]
  refine wpAnyH_take (i := 11) (oi := ?o11v) (v := ?v11v) ?hi11v (by kernel_rfl) (by kernel_rfl) (by kernel_rfl) ?hQ11v ?hy11v I1.out ?more11v
  case hi11v => rw [List.getElem?_toArray]; exact rfl
  case hQ11v => exact fun _ _ _ h => h
  case hy11v =>
    refine Or.inl ⟨by rfl, ?_⟩
    intro w' hSw
    obtain ⟨k0, k1, k2, k3, k4, k5, k6, k7, k8, k9, k10, k11, k12, k13, k14, k15, k16, k17, g0, g1, g2, g3, g4, g5, g6, g7, g8⟩ := HK.out.facts hSw
    clear hSw
    go_simp
    try with_reducible rfl
  simp only [Act.put, List.setIfInBounds_toArray, List.set_cons_zero, List.set_cons_succ]
  refine wpAnyH_take (i := 12) (oi := ?o12v) (v := ?v12v) ?hi12v (by kernel_rfl) (by kernel_rfl) (by kernel_rfl) ?hQ12v ?hy12v I1.out ?more12v
  case hi12v => rw [List.getElem?_toArray]; exact rfl
  case hQ12v => exact fun _ _ _ h => h
  case hy12v =>
    refine Or.inl ⟨by rfl, ?_⟩
    intro w' hSw
    obtain ⟨k0, k1, k2, k3, k4, k5, k6, k7, k8, k9, k10, k11, k12, k13, k14, k15, k16, k17, g0, g1, g2, g3, g4, g5, g6, g7, g8⟩ := HK.out.facts hSw
    clear hSw
    go_simp
    try with_reducible rfl
  simp only [Act.put, List.setIfInBounds_toArray, List.set_cons_zero, List.set_cons_succ]
  refine wpAnyH_take (i := 13) (oi := ?o13v) (v := ?v13v) ?hi13v (by kernel_rfl) (by kernel_rfl) (by kernel_rfl) ?hQ13v ?hy13v I1.out ?more13v
  case hi13v => rw [List.getElem?_toArray]; exact rfl
  case hQ13v => exact fun _ _ _ h => h
  case hy13v =>
    refine Or.inl ⟨by rfl, ?_⟩
    intro w' hSw
    obtain ⟨k0, k1, k2, k3, k4, k5, k6, k7, k8, k9, k10, k11, k12, k13, k14, k15, k16, k17, g0, g1, g2, g3, g4, g5, g6, g7, g8⟩ := HK.out.facts hSw
    clear hSw
    go_simp
    try with_reducible rfl
  simp only [Act.put, List.setIfInBounds_toArray, List.set_cons_zero, List.set_cons_succ]
  refine wpAnyH_take (i := 14) (oi := ?o14v) (v := ?v14v) ?hi14v (by kernel_rfl) (by kernel_rfl) (by kernel_rfl) ?hQ14v ?hy14v I1.out ?more14v
  case hi14v => rw [List.getElem?_toArray]; exact rfl
  case hQ14v => exact fun _ _ _ h => h
  case hy14v =>
    refine Or.inl ⟨by rfl, ?_⟩
    intro w' hSw
    obtain ⟨k0, k1, k2, k3, k4, k5, k6, k7, k8, k9, k10, k11, k12, k13, k14, k15, k16, k17, g0, g1, g2, g3, g4, g5, g6, g7, g8⟩ := HK.out.facts hSw
    clear hSw
    go_simp
    try with_reducible rfl
  simp only [Act.put, List.setIfInBounds_toArray, List.set_cons_zero, List.set_cons_succ]
  refine wpAnyH_take (i := 15) (oi := ?o15v) (v := ?v15v) ?hi15v (by kernel_rfl) (by kernel_rfl) (by kernel_rfl) ?hQ15v ?hy15v I1.out ?more15v
  case hi15v => rw [List.getElem?_toArray]; exact rfl
  case hQ15v => exact fun _ _ _ h => h
  case hy15v =>
    refine Or.inl ⟨by rfl, ?_⟩
    intro w' hSw
    obtain ⟨k0, k1, k2, k3, k4, k5, k6, k7, k8, k9, k10, k11, k12, k13, k14, k15, k16, k17, g0, g1, g2, g3, g4, g5, g6, g7, g8⟩ := HK.out.facts hSw
    clear hSw
    go_simp
    try with_reducible rfl
  simp only [Act.put, List.setIfInBounds_toArray, List.set_cons_zero, List.set_cons_succ]
  refine wpAnyH_take (i := 16) (oi := ?o16v) (v := ?v16v) ?hi16v (by kernel_rfl) (by kernel_rfl) (by kernel_rfl) ?hQ16v ?hy16v I1.out ?more16v
  case hi16v => rw [List.getElem?_toArray]; exact rfl
  case hQ16v => exact fun _ _ _ h => h
  case hy16v =>
    refine Or.inl ⟨by rfl, ?_⟩
    intro w' hSw
    obtain ⟨k0, k1, k2, k3, k4, k5, k6, k7, k8, k9, k10, k11, k12, k13, k14, k15, k16, k17, g0, g1, g2, g3, g4, g5, g6, g7, g8⟩ := HK.out.facts hSw
    clear hSw
    go_simp
    try with_reducible rfl
  simp only [Act.put, List.setIfInBounds_toArray, List.set_cons_zero, List.set_cons_succ]
  refine wpAnyH_take (i := 17) (oi := ?o17v) (v := ?v17v) ?hi17v (by kernel_rfl) (by kernel_rfl) (by kernel_rfl) ?hQ17v ?hy17v I1.out ?more17v
  case hi17v => rw [List.getElem?_toArray]; exact rfl
  case hQ17v => exact fun _ _ _ h => h
  case hy17v =>
    refine Or.inl ⟨by rfl, ?_⟩
    intro w' hSw
    obtain ⟨k0, k1, k2, k3, k4, k5, k6, k7, k8, k9, k10, k11, k12, k13, k14, k15, k16, k17, g0, g1, g2, g3, g4, g5, g6, g7, g8⟩ := HK.out.facts hSw
    clear hSw
    go_simp
    try with_reducible rfl
  simp only [Act.put, List.setIfInBounds_toArray, List.set_cons_zero, List.set_cons_succ]
  refine wpAnyH_take (i := 19) (oi := ?o19v) (v := ?v19v) ?hi19v (by kernel_rfl) (by kernel_rfl) (by kernel_rfl) ?hQ19v ?hy19v I1.out ?more19v
  case hi19v => rw [List.getElem?_toArray]; exact rfl
  case hQ19v => exact fun _ _ _ h => h
  case hy19v =>
    refine Or.inl ⟨by rfl, ?_⟩
    intro w' hSw
    obtain ⟨k0, k1, k2, k3, k4, k5, k6, k7, k8, k9, k10, k11, k12, k13, k14, k15, k16, k17, g0, g1, g2, g3, g4, g5, g6, g7, g8⟩ := HK.out.facts hSw
    clear hSw
    go_simp
    try with_reducible rfl
  simp only [Act.put, List.setIfInBounds_toArray, List.set_cons_zero, List.set_cons_succ]
  refine wpAnyH_take (i := 20) (oi := ?o20v) (v := ?v20v) ?hi20v (by kernel_rfl) (by kernel_rfl) (by kernel_rfl) ?hQ20v ?hy20v I1.out ?more20v
  case hi20v => rw [List.getElem?_toArray]; exact rfl
  case hQ20v => exact fun _ _ _ h => h
  case hy20v =>
    refine Or.inl ⟨by rfl, ?_⟩
    intro w' hSw
    obtain ⟨k0, k1, k2, k3, k4, k5, k6, k7, k8, k9, k10, k11, k12, k13, k14, k15, k16, k17, g0, g1, g2, g3, g4, g5, g6, g7, g8⟩ := HK.out.facts hSw
    clear hSw
    go_simp
    try with_reducible rfl
  simp only [Act.put, List.setIfInBounds_toArray, List.set_cons_zero, List.set_cons_succ]
  refine wpAnyH_one (i := 18) (o := ?o18v) (by kernel_rfl) ?hi18v ?hw18v ?st18v
  case hi18v => rw [List.getElem?_toArray]; exact rfl
  case hw18v => exact rfl
  intro K hK
  have HK18v : Hid _ := hK
  clear hK
  go_simp
  refine (KS.out _ (H0.out.2.1.call I1.out)).mono ?_
  rintro e w2 ⟨sg, rfl, hF2, hq⟩
  have I2 : Hid (Below w0.heap.size w0 w2 ∧ FieldB w2 sg QQ) := ⟨below_call0 I1.out hq, hF2⟩
  clear hq hF2
  go_wp2_with fail
  refine HK18v.out _ _ ⟨I2.out.1, ?_⟩
  clear HK18v K
  try simp only [Act.put, List.setIfInBounds_toArray, List.set_cons_zero, List.set_cons_succ]
  refine wpAnyH_one (i := 21) (o := ?o21v) (by kernel_rfl) ?hi21v ?hw21v ?st21v
  case hi21v => rw [List.getElem?_toArray]; exact rfl
  case hw21v => exact rfl
  intro K hK
  have HK21v : Hid _ := hK
  clear hK
  go_simp
  refine (KF.out _ _ I2.out.2).mono ?_
  rintro e w3 ⟨rfl, hq⟩
  have I3 : Hid (Below w0.heap.size w0 w3) := below_call0 I2.out.1 hq
  clear hq
  go_wp2_with fail
  refine HK21v.out _ _ ⟨I3.out, ?_⟩
  clear HK21v K
  try simp only [Act.put, List.setIfInBounds_toArray, List.set_cons_zero, List.set_cons_succ]
  refine wpAnyH_take (i := 22) (oi := ?o22v) (v := ?v22v) ?hi22v (by kernel_rfl) (by kernel_rfl) (by kernel_rfl) ?hQ22v ?hy22v I3.out ?more22v
  case hi22v => rw [List.getElem?_toArray]; exact rfl
  case hQ22v => exact fun _ _ _ h => h
  case hy22v =>
    refine Or.inl ⟨by rfl, ?_⟩
    intro w' hSw
    obtain ⟨k0, k1, k2, k3, k4, k5, k6, k7, k8, k9, k10, k11, k12, k13, k14, k15, k16, k17, g0, g1, g2, g3, g4, g5, g6, g7, g8⟩ := HK.out.facts hSw
    clear hSw
    go_simp
    try with_reducible rfl
  simp only [Act.put, List.setIfInBounds_toArray, List.set_cons_zero, List.set_cons_succ]
  refine wpAnyH_take (i := 23) (oi := ?o23v) (v := ?v23v) ?hi23v (by kernel_rfl) (by kernel_rfl) (by kernel_rfl) ?hQ23v ?hy23v I3.out ?more23v
  case hi23v => rw [List.getElem?_toArray]; exact rfl
  case hQ23v => exact fun _ _ _ h => h
  case hy23v =>
    refine Or.inl ⟨by rfl, ?_⟩
    intro w' hSw
    obtain ⟨k0, k1, k2, k3, k4, k5, k6, k7, k8, k9, k10, k11, k12, k13, k14, k15, k16, k17, g0, g1, g2, g3, g4, g5, g6, g7, g8⟩ := HK.out.facts hSw
    clear hSw
    go_simp
    try with_reducible rfl
  simp only [Act.put, List.setIfInBounds_toArray, List.set_cons_zero, List.set_cons_succ]
  refine wpAnyH_take (i := 24) (oi := ?o24v) (v := ?v24v) ?hi24v (by kernel_rfl) (by kernel_rfl) (by kernel_rfl) ?hQ24v ?hy24v I3.out ?more24v
  case hi24v => rw [List.getElem?_toArray]; exact rfl
  case hQ24v => exact fun _ _ _ h => h
  case hy24v =>
    refine Or.inl ⟨by rfl, ?_⟩
    intro w' hSw
    obtain ⟨k0, k1, k2, k3, k4, k5, k6, k7, k8, k9, k10, k11, k12, k13, k14, k15, k16, k17, g0, g1, g2, g3, g4, g5, g6, g7, g8⟩ := HK.out.facts hSw
    clear hSw
    go_simp
    try with_reducible rfl
  simp only [Act.put, List.setIfInBounds_toArray, List.set_cons_zero, List.set_cons_succ]
  refine wpAnyH_take (i := 25) (oi := ?o25v) (v := ?v25v) ?hi25v (by kernel_rfl) (by kernel_rfl) (by kernel_rfl) ?hQ25v ?hy25v I3.out ?more25v
  case hi25v => rw [List.getElem?_toArray]; exact rfl
  case hQ25v => exact fun _ _ _ h => h
  case hy25v =>
    refine Or.inl ⟨by rfl, ?_⟩
    intro w' hSw
    obtain ⟨k0, k1, k2, k3, k4, k5, k6, k7, k8, k9, k10, k11, k12, k13, k14, k15, k16, k17, g0, g1, g2, g3, g4, g5, g6, g7, g8⟩ := HK.out.facts hSw
    clear hSw
    go_simp
    try with_reducible rfl
  simp only [Act.put, List.setIfInBounds_toArray, List.set_cons_zero, List.set_cons_succ]
  refine wpAnyH_take (i := 26) (oi := ?o26v) (v := ?v26v) ?hi26v (by kernel_rfl) (by kernel_rfl) (by kernel_rfl) ?hQ26v ?hy26v I3.out ?more26v
  case hi26v => rw [List.getElem?_toArray]; exact rfl
  case hQ26v => exact fun _ _ _ h => h
  case hy26v =>
    refine Or.inl ⟨by rfl, ?_⟩
    intro w' hSw
    obtain ⟨k0, k1, k2, k3, k4, k5, k6, k7, k8, k9, k10, k11, k12, k13, k14, k15, k16, k17, g0, g1, g2, g3, g4, g5, g6, g7, g8⟩ := HK.out.facts hSw
    clear hSw
    go_simp
    try with_reducible rfl
  simp only [Act.put, List.setIfInBounds_toArray, List.set_cons_zero, List.set_cons_succ]
  refine wpAnyH_take (i := 27) (oi := ?o27v) (v := ?v27v) ?hi27v (by kernel_rfl) (by kernel_rfl) (by kernel_rfl) ?hQ27v ?hy27v I3.out ?more27v
  case hi27v => rw [List.getElem?_toArray]; exact rfl
  case hQ27v => exact fun _ _ _ h => h
  case hy27v =>
    refine Or.inl ⟨by rfl, ?_⟩
    intro w' hSw
    obtain ⟨k0, k1, k2, k3, k4, k5, k6, k7, k8, k9, k10, k11, k12, k13, k14, k15, k16, k17, g0, g1, g2, g3, g4, g5, g6, g7, g8⟩ := HK.out.facts hSw
    clear hSw
    go_simp
    try with_reducible rfl
  simp only [Act.put, List.setIfInBounds_toArray, List.set_cons_zero, List.set_cons_succ]
  refine wpAnyH_take (i := 28) (oi := ?o28v) (v := ?v28v) ?hi28v (by kernel_rfl) (by kernel_rfl) (by kernel_rfl) ?hQ28v ?hy28v I3.out ?more28v
  case hi28v => rw [List.getElem?_toArray]; exact rfl
  case hQ28v => exact fun _ _ _ h => h
  case hy28v =>
    refine Or.inl ⟨by rfl, ?_⟩
    intro w' hSw
    obtain ⟨k0, k1, k2, k3, k4, k5, k6, k7, k8, k9, k10, k11, k12, k13, k14, k15, k16, k17, g0, g1, g2, g3, g4, g5, g6, g7, g8⟩ := HK.out.facts hSw
    clear hSw
    go_simp
    try with_reducible rfl
  simp only [Act.put, List.setIfInBounds_toArray, List.set_cons_zero, List.set_cons_succ]
  refine wpAnyH_take (i := 29) (oi := ?o29v) (v := ?v29v) ?hi29v (by kernel_rfl) (by kernel_rfl) (by kernel_rfl) ?hQ29v ?hy29v I3.out ?more29v
  case hi29v => rw [List.getElem?_toArray]; exact rfl
  case hQ29v => exact fun _ _ _ h => h
  case hy29v =>
    refine Or.inl ⟨by rfl, ?_⟩
    intro w' hSw
    obtain ⟨k0, k1, k2, k3, k4, k5, k6, k7, k8, k9, k10, k11, k12, k13, k14, k15, k16, k17, g0, g1, g2, g3, g4, g5, g6, g7, g8⟩ := HK.out.facts hSw
    clear hSw
    go_simp
    try with_reducible rfl
  simp only [Act.put, List.setIfInBounds_toArray, List.set_cons_zero, List.set_cons_succ]
  refine wpAnyH_take (i := 30) (oi := ?o30v) (v := ?v30v) ?hi30v (by kernel_rfl) (by kernel_rfl) (by kernel_rfl) ?hQ30v ?hy30v I3.out ?more30v
  case hi30v => rw [List.getElem?_toArray]; exact rfl
  case hQ30v => exact fun _ _ _ h => h
  case hy30v =>
    refine Or.inl ⟨by rfl, ?_⟩
    intro w' hSw
    obtain ⟨k0, k1, k2, k3, k4, k5, k6, k7, k8, k9, k10, k11, k12, k13, k14, k15, k16, k17, g0, g1, g2, g3, g4, g5, g6, g7, g8⟩ := HK.out.facts hSw
    clear hSw
    go_simp
    try with_reducible rfl
  simp only [Act.put, List.setIfInBounds_toArray, List.set_cons_zero, List.set_cons_succ]
  refine wpAnyH_take (i := 31) (oi := ?o31v) (v := ?v31v) ?hi31v (by kernel_rfl) (by kernel_rfl) (by kernel_rfl) ?hQ31v ?hy31v I3.out ?more31v
  case hi31v => rw [List.getElem?_toArray]; exact rfl
  case hQ31v => exact fun _ _ _ h => h
  case hy31v =>
    refine Or.inl ⟨by rfl, ?_⟩
    intro w' hSw
    obtain ⟨k0, k1, k2, k3, k4, k5, k6, k7, k8, k9, k10, k11, k12, k13, k14, k15, k16, k17, g0, g1, g2, g3, g4, g5, g6, g7, g8⟩ := HK.out.facts hSw
    clear hSw
    go_simp
    try with_reducible rfl
  simp only [Act.put, List.setIfInBounds_toArray, List.set_cons_zero, List.set_cons_succ]
  refine wpAnyH_take (i := 32) (oi := ?o32v) (v := ?v32v) ?hi32v (by kernel_rfl) (by kernel_rfl) (by kernel_rfl) ?hQ32v ?hy32v I3.out ?more32v
  case hi32v => rw [List.getElem?_toArray]; exact rfl
  case hQ32v => exact fun _ _ _ h => h
  case hy32v =>
    refine Or.inl ⟨by rfl, ?_⟩
    intro w' hSw
    obtain ⟨k0, k1, k2, k3, k4, k5, k6, k7, k8, k9, k10, k11, k12, k13, k14, k15, k16, k17, g0, g1, g2, g3, g4, g5, g6, g7, g8⟩ := HK.out.facts hSw
    clear hSw
    go_simp
    try with_reducible rfl
  simp only [Act.put, List.setIfInBounds_toArray, List.set_cons_zero, List.set_cons_succ]
  refine wpAnyH_take (i := 33) (oi := ?o33v) (v := ?v33v) ?hi33v (by kernel_rfl) (by kernel_rfl) (by kernel_rfl) ?hQ33v ?hy33v I3.out ?more33v
  case hi33v => rw [List.getElem?_toArray]; exact rfl
  case hQ33v => exact fun _ _ _ h => h
  case hy33v =>
    refine Or.inl ⟨by rfl, ?_⟩
    intro w' hSw
    obtain ⟨k0, k1, k2, k3, k4, k5, k6, k7, k8, k9, k10, k11, k12, k13, k14, k15, k16, k17, g0, g1, g2, g3, g4, g5, g6, g7, g8⟩ := HK.out.facts hSw
    clear hSw
    go_simp
    try with_reducible rfl
  simp only [Act.put, List.setIfInBounds_toArray, List.set_cons_zero, List.set_cons_succ]
  refine wpAnyH_take (i := 34) (oi := ?o34v) (v := ?v34v) ?hi34v (by kernel_rfl) (by kernel_rfl) (by kernel_rfl) ?hQ34v ?hy34v I3.out ?more34v
  case hi34v => rw [List.getElem?_toArray]; exact rfl
  case hQ34v => exact fun _ _ _ h => h
  case hy34v =>
    refine Or.inl ⟨by rfl, ?_⟩
    intro w' hSw
    obtain ⟨k0, k1, k2, k3, k4, k5, k6, k7, k8, k9, k10, k11, k12, k13, k14, k15, k16, k17, g0, g1, g2, g3, g4, g5, g6, g7, g8⟩ := HK.out.facts hSw
    clear hSw
    go_simp
    try with_reducible rfl
  simp only [Act.put, List.setIfInBounds_toArray, List.set_cons_zero, List.set_cons_succ]
  refine wpAnyH_take (i := 35) (oi := ?o35v) (v := ?v35v) ?hi35v (by kernel_rfl) (by kernel_rfl) (by kernel_rfl) ?hQ35v ?hy35v I3.out ?more35v
  case hi35v => rw [List.getElem?_toArray]; exact rfl
  case hQ35v => exact fun _ _ _ h => h
  case hy35v =>
    refine Or.inl ⟨by rfl, ?_⟩
    intro w' hSw
    obtain ⟨k0, k1, k2, k3, k4, k5, k6, k7, k8, k9, k10, k11, k12, k13, k14, k15, k16, k17, g0, g1, g2, g3, g4, g5, g6, g7, g8⟩ := HK.out.facts hSw
    clear hSw
    go_simp
    try with_reducible rfl
  simp only [Act.put, List.setIfInBounds_toArray, List.set_cons_zero, List.set_cons_succ]
  refine wpAnyH_one (i := 36) (o := ?o36v) (by kernel_rfl) ?hi36v ?hw36v ?st36v
  case hi36v => rw [List.getElem?_toArray]; exact rfl
  case hw36v => exact rfl
  intro K hK
  have HK36v : Hid _ := hK
  clear hK
  go_simp
  refine (KA.out _ (H0.out.1.call I3.out) (H0.out.2.2.1.call I3.out)).mono ?_
  rintro e w4 ⟨rfl, hq⟩
  have I4 : Hid (Below w0.heap.size w0 w4) := below_call0 I3.out hq
  clear hq
  go_wp2_with fail
  refine HK36v.out _ _ ⟨I4.out, ?_⟩
  clear HK36v K
  try simp only [Act.put, List.setIfInBounds_toArray, List.set_cons_zero, List.set_cons_succ]
  refine wpAnyH_take (i := 37) (oi := ?o37v) (v := ?v37v) ?hi37v (by kernel_rfl) (by kernel_rfl) (by kernel_rfl) ?hQ37v ?hy37v I4.out ?more37v
  case hi37v => rw [List.getElem?_toArray]; exact rfl
  case hQ37v => exact fun _ _ _ h => h
  case hy37v =>
    refine Or.inl ⟨by rfl, ?_⟩
    intro w' hSw
    obtain ⟨k0, k1, k2, k3, k4, k5, k6, k7, k8, k9, k10, k11, k12, k13, k14, k15, k16, k17, g0, g1, g2, g3, g4, g5, g6, g7, g8⟩ := HK.out.facts hSw
    clear hSw
    go_simp
    try with_reducible rfl
  simp only [Act.put, List.setIfInBounds_toArray, List.set_cons_zero, List.set_cons_succ]
  refine wpAnyH_take (i := 38) (oi := ?o38v) (v := ?v38v) ?hi38v (by kernel_rfl) (by kernel_rfl) (by kernel_rfl) ?hQ38v ?hy38v I4.out ?more38v
  case hi38v => rw [List.getElem?_toArray]; exact rfl
  case hQ38v => exact fun _ _ _ h => h
  case hy38v =>
    refine Or.inl ⟨by rfl, ?_⟩
    intro w' hSw
    obtain ⟨k0, k1, k2, k3, k4, k5, k6, k7, k8, k9, k10, k11, k12, k13, k14, k15, k16, k17, g0, g1, g2, g3, g4, g5, g6, g7, g8⟩ := HK.out.facts hSw
    clear hSw
    go_simp
    try with_reducible rfl
  simp only [Act.put, List.setIfInBounds_toArray, List.set_cons_zero, List.set_cons_succ]
  refine wpAnyH_take (i := 39) (oi := ?o39v) (v := ?v39v) ?hi39v (by kernel_rfl) (by kernel_rfl) (by kernel_rfl) ?hQ39v ?hy39v I4.out ?more39v
  case hi39v => rw [List.getElem?_toArray]; exact rfl
  case hQ39v => exact fun _ _ _ h => h
  case hy39v =>
    refine Or.inl ⟨by rfl, ?_⟩
    intro w' hSw
    obtain ⟨k0, k1, k2, k3, k4, k5, k6, k7, k8, k9, k10, k11, k12, k13, k14, k15, k16, k17, g0, g1, g2, g3, g4, g5, g6, g7, g8⟩ := HK.out.facts hSw
    clear hSw
    go_simp
    try with_reducible rfl
  simp only [Act.put, List.setIfInBounds_toArray, List.set_cons_zero, List.set_cons_succ]
  refine wpAnyH_take (i := 40) (oi := ?o40v) (v := ?v40v) ?hi40v (by kernel_rfl) (by kernel_rfl) (by kernel_rfl) ?hQ40v ?hy40v I4.out ?more40v
  case hi40v => rw [List.getElem?_toArray]; exact rfl
  case hQ40v => exact fun _ _ _ h => h
  case hy40v =>
    refine Or.inl ⟨by rfl, ?_⟩
    intro w' hSw
    obtain ⟨k0, k1, k2, k3, k4, k5, k6, k7, k8, k9, k10, k11, k12, k13, k14, k15, k16, k17, g0, g1, g2, g3, g4, g5, g6, g7, g8⟩ := HK.out.facts hSw
    clear hSw
    go_simp
    try with_reducible rfl
  simp only [Act.put, List.setIfInBounds_toArray, List.set_cons_zero, List.set_cons_succ]
  refine wpAnyH_take (i := 41) (oi := ?o41v) (v := ?v41v) ?hi41v (by kernel_rfl) (by kernel_rfl) (by kernel_rfl) ?hQ41v ?hy41v I4.out ?more41v
  case hi41v => rw [List.getElem?_toArray]; exact rfl
  case hQ41v => exact fun _ _ _ h => h
  case hy41v =>
    refine Or.inl ⟨by rfl, ?_⟩
    intro w' hSw
    obtain ⟨k0, k1, k2, k3, k4, k5, k6, k7, k8, k9, k10, k11, k12, k13, k14, k15, k16, k17, g0, g1, g2, g3, g4, g5, g6, g7, g8⟩ := HK.out.facts hSw
    clear hSw
    go_simp
    try with_reducible rfl
  simp only [Act.put, List.setIfInBounds_toArray, List.set_cons_zero, List.set_cons_succ]
  refine wpAnyH_take (i := 42) (oi := ?o42v) (v := ?v42v) ?hi42v (by kernel_rfl) (by kernel_rfl) (by kernel_rfl) ?hQ42v ?hy42v I4.out ?more42v
  case hi42v => rw [List.getElem?_toArray]; exact rfl
  case hQ42v => exact fun _ _ _ h => h
  case hy42v =>
    refine Or.inl ⟨by rfl, ?_⟩
    intro w' hSw
    obtain ⟨k0, k1, k2, k3, k4, k5, k6, k7, k8, k9, k10, k11, k12, k13, k14, k15, k16, k17, g0, g1, g2, g3, g4, g5, g6, g7, g8⟩ := HK.out.facts hSw
    clear hSw
    go_simp
    try with_reducible rfl
  simp only [Act.put, List.setIfInBounds_toArray, List.set_cons_zero, List.set_cons_succ]
  refine wpAnyH_take (i := 43) (oi := ?o43v) (v := ?v43v) ?hi43v (by kernel_rfl) (by kernel_rfl) (by kernel_rfl) ?hQ43v ?hy43v I4.out ?more43v
  case hi43v => rw [List.getElem?_toArray]; exact rfl
  case hQ43v => exact fun _ _ _ h => h
  case hy43v =>
    refine Or.inl ⟨by rfl, ?_⟩
    intro w' hSw
    obtain ⟨k0, k1, k2, k3, k4, k5, k6, k7, k8, k9, k10, k11, k12, k13, k14, k15, k16, k17, g0, g1, g2, g3, g4, g5, g6, g7, g8⟩ := HK.out.facts hSw
    clear hSw
    go_simp
    try with_reducible rfl
  simp only [Act.put, List.setIfInBounds_toArray, List.set_cons_zero, List.set_cons_succ]
  refine wpAnyH_take (i := 44) (oi := ?o44v) (v := ?v44v) ?hi44v (by kernel_rfl) (by kernel_rfl) (by kernel_rfl) ?hQ44v ?hy44v I4.out ?more44v
  case hi44v => rw [List.getElem?_toArray]; exact rfl
  case hQ44v => exact fun _ _ _ h => h
  case hy44v =>
    refine Or.inl ⟨by rfl, ?_⟩
    intro w' hSw
    obtain ⟨k0, k1, k2, k3, k4, k5, k6, k7, k8, k9, k10, k11, k12, k13, k14, k15, k16, k17, g0, g1, g2, g3, g4, g5, g6, g7, g8⟩ := HK.out.facts hSw
    clear hSw
    go_simp
    try with_reducible rfl
  simp only [Act.put, List.setIfInBounds_toArray, List.set_cons_zero, List.set_cons_succ]
  refine wpAnyH_take (i := 45) (oi := ?o45v) (v := ?v45v) ?hi45v (by kernel_rfl) (by kernel_rfl) (by kernel_rfl) ?hQ45v ?hy45v I4.out ?more45v
  case hi45v => rw [List.getElem?_toArray]; exact rfl
  case hQ45v => exact fun _ _ _ h => h
  case hy45v =>
    refine Or.inl ⟨by rfl, ?_⟩
    intro w' hSw
    obtain ⟨k0, k1, k2, k3, k4, k5, k6, k7, k8, k9, k10, k11, k12, k13, k14, k15, k16, k17, g0, g1, g2, g3, g4, g5, g6, g7, g8⟩ := HK.out.facts hSw
    clear hSw
    go_simp
    try with_reducible rfl
  simp only [Act.put, List.setIfInBounds_toArray, List.set_cons_zero, List.set_cons_succ]
  refine wpAnyH_take (i := 46) (oi := ?o46v) (v := ?v46v) ?hi46v (by kernel_rfl) (by kernel_rfl) (by kernel_rfl) ?hQ46v ?hy46v I4.out ?more46v
  case hi46v => rw [List.getElem?_toArray]; exact rfl
  case hQ46v => exact fun _ _ _ h => h
  case hy46v =>
    refine Or.inl ⟨by rfl, ?_⟩
    intro w' hSw
    obtain ⟨k0, k1, k2, k3, k4, k5, k6, k7, k8, k9, k10, k11, k12, k13, k14, k15, k16, k17, g0, g1, g2, g3, g4, g5, g6, g7, g8⟩ := HK.out.facts hSw
    clear hSw
    go_simp
    try with_reducible rfl
  simp only [Act.put, List.setIfInBounds_toArray, List.set_cons_zero, List.set_cons_succ]
  refine wpAnyH_take (i := 47) (oi := ?o47v) (v := ?v47v) ?hi47v (by kernel_rfl) (by kernel_rfl) (by kernel_rfl) ?hQ47v ?hy47v I4.out ?more47v
  case hi47v => rw [List.getElem?_toArray]; exact rfl
  case hQ47v => exact fun _ _ _ h => h
  case hy47v =>
    refine Or.inl ⟨by rfl, ?_⟩
    intro w' hSw
    obtain ⟨k0, k1, k2, k3, k4, k5, k6, k7, k8, k9, k10, k11, k12, k13, k14, k15, k16, k17, g0, g1, g2, g3, g4, g5, g6, g7, g8⟩ := HK.out.facts hSw
    clear hSw
    go_simp
    try with_reducible rfl
  simp only [Act.put, List.setIfInBounds_toArray, List.set_cons_zero, List.set_cons_succ]
  refine wpAnyH_take (i := 48) (oi := ?o48v) (v := ?v48v) ?hi48v (by kernel_rfl) (by kernel_rfl) (by kernel_rfl) ?hQ48v ?hy48v I4.out ?more48v
  case hi48v => rw [List.getElem?_toArray]; exact rfl
  case hQ48v => exact fun _ _ _ h => h
  case hy48v =>
    refine Or.inl ⟨by rfl, ?_⟩
    intro w' hSw
    obtain ⟨k0, k1, k2, k3, k4, k5, k6, k7, k8, k9, k10, k11, k12, k13, k14, k15, k16, k17, g0, g1, g2, g3, g4, g5, g6, g7, g8⟩ := HK.out.facts hSw
    clear hSw
    go_simp
    try with_reducible rfl
  simp only [Act.put, List.setIfInBounds_toArray, List.set_cons_zero, List.set_cons_succ]
  refine wpAnyH_take (i := 49) (oi := ?o49v) (v := ?v49v) ?hi49v (by kernel_rfl) (by kernel_rfl) (by kernel_rfl) ?hQ49v ?hy49v I4.out ?more49v
  case hi49v => rw [List.getElem?_toArray]; exact rfl
  case hQ49v => exact fun _ _ _ h => h
  case hy49v =>
    refine Or.inl ⟨by rfl, ?_⟩
    intro w' hSw
    obtain ⟨k0, k1, k2, k3, k4, k5, k6, k7, k8, k9, k10, k11, k12, k13, k14, k15, k16, k17, g0, g1, g2, g3, g4, g5, g6, g7, g8⟩ := HK.out.facts hSw
    clear hSw
    go_simp
    try with_reducible rfl
  simp only [Act.put, List.setIfInBounds_toArray, List.set_cons_zero, List.set_cons_succ]
  refine wpAnyH_take (i := 50) (oi := ?o50v) (v := ?v50v) ?hi50v (by kernel_rfl) (by kernel_rfl) (by kernel_rfl) ?hQ50v ?hy50v I4.out ?more50v
  case hi50v => rw [List.getElem?_toArray]; exact rfl
  case hQ50v => exact fun _ _ _ h => h
  case hy50v =>
    refine Or.inl ⟨by rfl, ?_⟩
    intro w' hSw
    obtain ⟨k0, k1, k2, k3, k4, k5, k6, k7, k8, k9, k10, k11, k12, k13, k14, k15, k16, k17, g0, g1, g2, g3, g4, g5, g6, g7, g8⟩ := HK.out.facts hSw
    clear hSw
    go_simp
    try with_reducible rfl
  simp only [Act.put, List.setIfInBounds_toArray, List.set_cons_zero, List.set_cons_succ]
  refine wpAnyH_take (i := 51) (oi := ?o51v) (v := ?v51v) ?hi51v (by kernel_rfl) (by kernel_rfl) (by kernel_rfl) ?hQ51v ?hy51v I4.out ?more51v
  case hi51v => rw [List.getElem?_toArray]; exact rfl
  case hQ51v => exact fun _ _ _ h => h
  case hy51v =>
    refine Or.inl ⟨by rfl, ?_⟩
    intro w' hSw
    obtain ⟨k0, k1, k2, k3, k4, k5, k6, k7, k8, k9, k10, k11, k12, k13, k14, k15, k16, k17, g0, g1, g2, g3, g4, g5, g6, g7, g8⟩ := HK.out.facts hSw
    clear hSw
    go_simp
    try with_reducible rfl
  simp only [Act.put, List.setIfInBounds_toArray, List.set_cons_zero, List.set_cons_succ]
  refine wpAnyH_take (i := 52) (oi := ?o52v) (v := ?v52v) ?hi52v (by kernel_rfl) (by kernel_rfl) (by kernel_rfl) ?hQ52v ?hy52v I4.out ?more52v
  case hi52v => rw [List.getElem?_toArray]; exact rfl
  case hQ52v => exact fun _ _ _ h => h
  case hy52v =>
    refine Or.inl ⟨by rfl, ?_⟩
    intro w' hSw
    obtain ⟨k0, k1, k2, k3, k4, k5, k6, k7, k8, k9, k10, k11, k12, k13, k14, k15, k16, k17, g0, g1, g2, g3, g4, g5, g6, g7, g8⟩ := HK.out.facts hSw
    clear hSw
    go_simp
    try with_reducible rfl
  simp only [Act.put, List.setIfInBounds_toArray, List.set_cons_zero, List.set_cons_succ]
  refine wpAnyH_take (i := 53) (oi := ?o53v) (v := ?v53v) ?hi53v (by kernel_rfl) (by kernel_rfl) (by kernel_rfl) ?hQ53v ?hy53v I4.out ?more53v
  case hi53v => rw [List.getElem?_toArray]; exact rfl
  case hQ53v => exact fun _ _ _ h => h
  case hy53v =>
    refine Or.inl ⟨by rfl, ?_⟩
    intro w' hSw
    obtain ⟨k0, k1, k2, k3, k4, k5, k6, k7, k8, k9, k10, k11, k12, k13, k14, k15, k16, k17, g0, g1, g2, g3, g4, g5, g6, g7, g8⟩ := HK.out.facts hSw
    clear hSw
    go_simp
    try with_reducible rfl
  simp only [Act.put, List.setIfInBounds_toArray, List.set_cons_zero, List.set_cons_succ]
  refine wpAnyH_take (i := 54) (oi := ?o54v) (v := ?v54v) ?hi54v (by kernel_rfl) (by kernel_rfl) (by kernel_rfl) ?hQ54v ?hy54v I4.out ?more54v
  case hi54v => rw [List.getElem?_toArray]; exact rfl
  case hQ54v => exact fun _ _ _ h => h
  case hy54v =>
    refine Or.inl ⟨by rfl, ?_⟩
    intro w' hSw
    obtain ⟨k0, k1, k2, k3, k4, k5, k6, k7, k8, k9, k10, k11, k12, k13, k14, k15, k16, k17, g0, g1, g2, g3, g4, g5, g6, g7, g8⟩ := HK.out.facts hSw
    clear hSw
    go_simp
    try with_reducible rfl
  simp only [Act.put, List.setIfInBounds_toArray, List.set_cons_zero, List.set_cons_succ]
  refine wpAnyH_take (i := 55) (oi := ?o55v) (v := ?v55v) ?hi55v (by kernel_rfl) (by kernel_rfl) (by kernel_rfl) ?hQ55v ?hy55v I4.out ?more55v
  case hi55v => rw [List.getElem?_toArray]; exact rfl
  case hQ55v => exact fun _ _ _ h => h
  case hy55v =>
    refine Or.inl ⟨by rfl, ?_⟩
    intro w' hSw
    obtain ⟨k0, k1, k2, k3, k4, k5, k6, k7, k8, k9, k10, k11, k12, k13, k14, k15, k16, k17, g0, g1, g2, g3, g4, g5, g6, g7, g8⟩ := HK.out.facts hSw
    clear hSw
    go_simp
    try with_reducible rfl
  simp only [Act.put, List.setIfInBounds_toArray, List.set_cons_zero, List.set_cons_succ]
  refine wpAnyH_done (by kernel_rfl) ?_ _
  go_wp2_with fail
  go_ret
  exact ⟨rfl, H0.out.2.2.2.trans (I4.out.mono H0.out.2.2.2.size)⟩
end Go.Proofs.YtgkaeinkplcgnaaGreatDoor
