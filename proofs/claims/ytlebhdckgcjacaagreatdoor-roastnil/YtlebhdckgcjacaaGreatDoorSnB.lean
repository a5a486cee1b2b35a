/- Package signer: the law's one key: serves, New. -/
import Derived.Test.YtlebhdckgcjacaaGreatDoorSnA
namespace Go.Proofs.YtlebhdckgcjacaaGreatDoor
open Go Go.RowKit Go.Lib
theorem limb_GG : (limb GX 0 : Int) = 6481385041966929816 ∧ (limb GX 1 : Int) = 188021827762530521 ∧ (limb GX 2 : Int) = 6170039885052185351 ∧ (limb GX 3 : Int) = 8772561819708210092 ∧ (limb GY 0 : Int) = 11261198710074299576 ∧ (limb GY 1 : Int) = 18237243440184513561 ∧ (limb GY 2 : Int) = 6747795201694173352 ∧ (limb GY 3 : Int) = 5204712524664259685 := ⟨by kernel_rfl, by kernel_rfl, by kernel_rfl, by kernel_rfl, by kernel_rfl, by kernel_rfl, by kernel_rfl, by kernel_rfl⟩
theorem chkG (w : World) (hG : GlobP w) : Calls Tryz.prog 46 #[.agg #[.int .u64 6481385041966929816, .int .u64 188021827762530521, .int .u64 6170039885052185351, .int .u64 8772561819708210092, .int .u64 11261198710074299576, .int .u64 18237243440184513561, .int .u64 6747795201694173352, .int .u64 5204712524664259685, .bool false]] w fun e w' => e = .returned (.int .i64 0) ∧ Below w.heap.size w w' := by
  have h := Check_ok GX GY false (of_decide_eq_true (by kernel_rfl)) (of_decide_eq_true (by kernel_rfl)) (by kernel_rfl) w hG
  obtain ⟨e0, e1, e2, e3, e4, e5, e6, e7⟩ := limb_GG
  rw [e0, e1, e2, e3, e4, e5, e6, e7] at h
  exact h
theorem table_1 (w : World) : Calls Tryz.prog 45 #[.int .i64 1, .int .i64 0] w fun e w' => e = .returned (.bool true) ∧ w' = w := by
  go_enter Tryz.func45, Tryz.ntmps45
  go_wp2_with fail
  go_ret
  exact ⟨rfl, rfl⟩
set_option maxRecDepth 100000 in
set_option maxHeartbeats 4000000 in
theorem G3_lit (w : World) : Calls Tryz.prog 19 #[] w fun e w' => e = .returned (.agg #[.int .u64 6481385041966929816, .int .u64 188021827762530521, .int .u64 6170039885052185351, .int .u64 8772561819708210092, .int .u64 11261198710074299576, .int .u64 18237243440184513561, .int .u64 6747795201694173352, .int .u64 5204712524664259685, .bool false]) ∧ Below w.heap.size w w' := by
  obtain ⟨w0, hw0⟩ : ∃ wq, wq = (w.alloc (.cells #[.int .u64 0, .int .u64 0, .int .u64 0, .int .u64 0, .int .u64 0, .int .u64 0, .int .u64 0, .int .u64 0, .bool false] 26)) := ⟨_, rfl⟩
  have H0 : Hid (OwnC w0 (w.heap.size) [.int .u64 0, .int .u64 0, .int .u64 0, .int .u64 0, .int .u64 0, .int .u64 0, .int .u64 0, .int .u64 0, .bool false] ∧ Below w.heap.size w w0) := by
    rw [hw0]
    exact ⟨(OwnC.new' rfl), below_alloc0 (Below.refl _ _) _⟩
  go_enter Tryz.func19, Tryz.ntmps19
  go_upto_region 1 with fail
  rw [← hw0]
  clear hw0
  have f0 := H0.out.1.2.2 0 _ rfl
  have f1 := H0.out.1.2.2 1 _ rfl
  have f2 := H0.out.1.2.2 2 _ rfl
  have f3 := H0.out.1.2.2 3 _ rfl
  have f4 := H0.out.1.2.2 4 _ rfl
  have f5 := H0.out.1.2.2 5 _ rfl
  have f6 := H0.out.1.2.2 6 _ rfl
  have f7 := H0.out.1.2.2 7 _ rfl
  have f8 := H0.out.1.2.2 8 _ rfl
  have fz := H0.out.1.2.1
  go_wp2_with fail
  clear f0 f1 f2 f3 f4 f5 f6 f7 f8 fz
  obtain ⟨wz, hwz⟩ : ∃ wq, wq = (((((((((w0.setCell ⟨w.heap.size, 0, none⟩ (.int .u64 6481385041966929816)).setCell ⟨w.heap.size, 1, none⟩ (.int .u64 188021827762530521)).setCell ⟨w.heap.size, 2, none⟩ (.int .u64 6170039885052185351)).setCell ⟨w.heap.size, 3, none⟩ (.int .u64 8772561819708210092)).setCell ⟨w.heap.size, 4, none⟩ (.int .u64 11261198710074299576)).setCell ⟨w.heap.size, 5, none⟩ (.int .u64 18237243440184513561)).setCell ⟨w.heap.size, 6, none⟩ (.int .u64 6747795201694173352)).setCell ⟨w.heap.size, 7, none⟩ (.int .u64 5204712524664259685)).setCell ⟨w.heap.size, 8, none⟩ (.bool false)) := ⟨_, rfl⟩
  rw [← hwz]
  have HZ : OwnC wz w.heap.size [.int .u64 6481385041966929816, .int .u64 188021827762530521, .int .u64 6170039885052185351, .int .u64 8772561819708210092, .int .u64 11261198710074299576, .int .u64 18237243440184513561, .int .u64 6747795201694173352, .int .u64 5204712524664259685, .bool false] ∧ Below w.heap.size w wz := by
    rw [hwz]
    exact ⟨OwnC.put [.int .u64 6481385041966929816, .int .u64 188021827762530521, .int .u64 6170039885052185351, .int .u64 8772561819708210092, .int .u64 11261198710074299576, .int .u64 18237243440184513561, .int .u64 6747795201694173352, .int .u64 5204712524664259685, .bool false] H0.out.1 rfl, below_putL (Nat.le_refl _) [.int .u64 6481385041966929816, .int .u64 188021827762530521, .int .u64 6170039885052185351, .int .u64 8772561819708210092, .int .u64 11261198710074299576, .int .u64 18237243440184513561, .int .u64 6747795201694173352, .int .u64 5204712524664259685, .bool false] 0 _ H0.out.2⟩
  clear hwz
  obtain ⟨hO, HB⟩ := HZ
  have r0 := hO.2.2 0 _ rfl
  have r1 := hO.2.2 1 _ rfl
  have r2 := hO.2.2 2 _ rfl
  have r3 := hO.2.2 3 _ rfl
  have r4 := hO.2.2 4 _ rfl
  have r5 := hO.2.2 5 _ rfl
  have r6 := hO.2.2 6 _ rfl
  have r7 := hO.2.2 7 _ rfl
  have r8 := hO.2.2 8 _ rfl
  refine bodyPost_ret (v := .agg #[.int .u64 6481385041966929816, .int .u64 188021827762530521, .int .u64 6170039885052185351, .int .u64 8772561819708210092, .int .u64 11261198710074299576, .int .u64 18237243440184513561, .int .u64 6747795201694173352, .int .u64 5204712524664259685, .bool false]) ?_ rfl ⟨rfl, HB⟩
  simp [results, Tryz.results19, go_sem, r0, r1, r2, r3, r4, r5, r6, r7, r8]
/-- The law's one key, in a box. -/
structure KB (w : World) (k b : Nat) : Prop where
  key : OwnC w k [.int .i64 1, .int .i64 0, .int .i64 1, .int .u64 1, .int .u64 0, .int .u64 0, .int .u64 0, .int .u64 6481385041966929816, .int .u64 188021827762530521, .int .u64 6170039885052185351, .int .u64 8772561819708210092, .int .u64 11261198710074299576, .int .u64 18237243440184513561, .int .u64 6747795201694173352, .int .u64 5204712524664259685, .bool false, .slice (some ⟨b, 0, none⟩) 1 1, .slice none 0 0]
  grp : OwnC w b [.int .u64 6481385041966929816, .int .u64 188021827762530521, .int .u64 6170039885052185351, .int .u64 8772561819708210092, .int .u64 11261198710074299576, .int .u64 18237243440184513561, .int .u64 6747795201694173352, .int .u64 5204712524664259685, .bool false]
theorem KB.call {w w' : World} {k b : Nat} (h : KB w k b) (hb : Below w.heap.size w w') : KB w' k b := ⟨h.key.call hb, h.grp.call hb⟩
theorem KB.facts {w w' : World} {k b : Nat} (h : KB w k b) (hb : Below w.heap.size w w') : w'.cell? ⟨k, 0, none⟩ = some (.int .i64 1) ∧ w'.cell? ⟨k, 1, none⟩ = some (.int .i64 0) ∧ w'.cell? ⟨k, 2, none⟩ = some (.int .i64 1) ∧ w'.cell? ⟨k, 3, none⟩ = some (.int .u64 1) ∧ w'.cell? ⟨k, 4, none⟩ = some (.int .u64 0) ∧ w'.cell? ⟨k, 5, none⟩ = some (.int .u64 0) ∧ w'.cell? ⟨k, 6, none⟩ = some (.int .u64 0) ∧ w'.cell? ⟨k, 7, none⟩ = some (.int .u64 6481385041966929816) ∧ w'.cell? ⟨k, 8, none⟩ = some (.int .u64 188021827762530521) ∧ w'.cell? ⟨k, 9, none⟩ = some (.int .u64 6170039885052185351) ∧ w'.cell? ⟨k, 10, none⟩ = some (.int .u64 8772561819708210092) ∧ w'.cell? ⟨k, 11, none⟩ = some (.int .u64 11261198710074299576) ∧ w'.cell? ⟨k, 12, none⟩ = some (.int .u64 18237243440184513561) ∧ w'.cell? ⟨k, 13, none⟩ = some (.int .u64 6747795201694173352) ∧ w'.cell? ⟨k, 14, none⟩ = some (.int .u64 5204712524664259685) ∧ w'.cell? ⟨k, 15, none⟩ = some (.bool false) ∧ w'.cell? ⟨k, 16, none⟩ = some (.slice (some ⟨b, 0, none⟩) 1 1) ∧ w'.cell? ⟨k, 17, none⟩ = some (.slice none 0 0) ∧ w'.cell? ⟨b, 0, none⟩ = some (.int .u64 6481385041966929816) ∧ w'.cell? ⟨b, 1, none⟩ = some (.int .u64 188021827762530521) ∧ w'.cell? ⟨b, 2, none⟩ = some (.int .u64 6170039885052185351) ∧ w'.cell? ⟨b, 3, none⟩ = some (.int .u64 8772561819708210092) ∧ w'.cell? ⟨b, 4, none⟩ = some (.int .u64 11261198710074299576) ∧ w'.cell? ⟨b, 5, none⟩ = some (.int .u64 18237243440184513561) ∧ w'.cell? ⟨b, 6, none⟩ = some (.int .u64 6747795201694173352) ∧ w'.cell? ⟨b, 7, none⟩ = some (.int .u64 5204712524664259685) ∧ w'.cell? ⟨b, 8, none⟩ = some (.bool false) := by
  have h1 := (h.key.call hb).2.2
  have h2 := (h.grp.call hb).2.2
  exact ⟨h1 0 _ rfl, h1 1 _ rfl, h1 2 _ rfl, h1 3 _ rfl, h1 4 _ rfl, h1 5 _ rfl, h1 6 _ rfl, h1 7 _ rfl, h1 8 _ rfl, h1 9 _ rfl, h1 10 _ rfl, h1 11 _ rfl, h1 12 _ rfl, h1 13 _ rfl, h1 14 _ rfl, h1 15 _ rfl, h1 16 _ rfl, h1 17 _ rfl, h2 0 _ rfl, h2 1 _ rfl, h2 2 _ rfl, h2 3 _ rfl, h2 4 _ rfl, h2 5 _ rfl, h2 6 _ rfl, h2 7 _ rfl, h2 8 _ rfl⟩
theorem eqGG (w : World) : Sem.run Tryz.prog (binOp .eql 26 (.agg #[.int .u64 6481385041966929816, .int .u64 188021827762530521, .int .u64 6170039885052185351, .int .u64 8772561819708210092, .int .u64 11261198710074299576, .int .u64 18237243440184513561, .int .u64 6747795201694173352, .int .u64 5204712524664259685, .bool false]) (.agg #[.int .u64 6481385041966929816, .int .u64 188021827762530521, .int .u64 6170039885052185351, .int .u64 8772561819708210092, .int .u64 11261198710074299576, .int .u64 18237243440184513561, .int .u64 6747795201694173352, .int .u64 5204712524664259685, .bool false])) w = .ok (.bool true) w := by kernel_rfl
end Go.Proofs.YtlebhdckgcjacaaGreatDoor
