/- Package roast: Begin of a node that is not idle. -/
import Derived.Test.YtlebhdckgcjacaaGreatDoorRnE
import Derived.BigQuiet
import Derived.Deep.QuietTactic
namespace Go.Proofs.YtlebhdckgcjacaaGreatDoor
open Go Go.RowKit Go.Lib
set_option maxRecDepth 100000 in
set_option maxHeartbeats 4000000 in
theorem Begin_ready (r : Nat) (w : World) (hr : r < w.heap.size) (c0 : w.cell? ⟨r, 0, none⟩ = some (.int .i64 4)) (c5 : w.cell? ⟨r, 235, none⟩ = some (.pointer none)) (c24 : w.cell? ⟨r, 24, none⟩ = some (.int .i64 1)) :
    Calls Tryz.prog 4 #[.pointer (some ⟨r, 0, none⟩), .agg #[.int .i64 1, .int .u64 6481385041966929816, .int .u64 188021827762530521, .int .u64 6170039885052185351, .int .u64 8772561819708210092, .int .u64 11261198710074299576, .int .u64 18237243440184513561, .int .u64 6747795201694173352, .int .u64 5204712524664259685, .bool false, .int .u64 6481385041966929816, .int .u64 188021827762530521, .int .u64 6170039885052185351, .int .u64 8772561819708210092, .int .u64 11261198710074299576, .int .u64 18237243440184513561, .int .u64 6747795201694173352, .int .u64 5204712524664259685, .bool false]] w fun e w' => e = .returned (.tuple #[.agg #[.int .i64 0, .slice none 0 0], .bool false, .int .i64 7]) ∧ Below w.heap.size w w' := by
  have KO : Hid _ := isOver_f r
  have KH : Hid _ := has_1 r
  obtain ⟨W2, hW2⟩ : ∃ W2, W2 = (w.alloc (.cells #[.int .i64 1, .int .u64 6481385041966929816, .int .u64 188021827762530521, .int .u64 6170039885052185351, .int .u64 8772561819708210092, .int .u64 11261198710074299576, .int .u64 18237243440184513561, .int .u64 6747795201694173352, .int .u64 5204712524664259685, .bool false, .int .u64 6481385041966929816, .int .u64 188021827762530521, .int .u64 6170039885052185351, .int .u64 8772561819708210092, .int .u64 11261198710074299576, .int .u64 18237243440184513561, .int .u64 6747795201694173352, .int .u64 5204712524664259685, .bool false] 28)).alloc (.cells #[.int .i64 0, .slice none 0 0] 34) := ⟨_, rfl⟩
  have hsz : (w.alloc (.cells #[.int .i64 1, .int .u64 6481385041966929816, .int .u64 188021827762530521, .int .u64 6170039885052185351, .int .u64 8772561819708210092, .int .u64 11261198710074299576, .int .u64 18237243440184513561, .int .u64 6747795201694173352, .int .u64 5204712524664259685, .bool false, .int .u64 6481385041966929816, .int .u64 188021827762530521, .int .u64 6170039885052185351, .int .u64 8772561819708210092, .int .u64 11261198710074299576, .int .u64 18237243440184513561, .int .u64 6747795201694173352, .int .u64 5204712524664259685, .bool false] 28)).heap.size = w.heap.size + 1 := by simp
  have hld : Hid (∀ n, (loadVar 34 ⟨w.heap.size + 1, 0, none⟩).run Tryz.prog (W2.drewN n) = .ok (.agg #[.int .i64 0, .slice none 0 0]) (W2.drewN n)) := fun n => by
    have h := run_loadVar_row (P := Tryz.prog) _ _ _ _ _ _ _ (heap_alloc_last ((w.alloc (.cells #[.int .i64 1, .int .u64 6481385041966929816, .int .u64 188021827762530521, .int .u64 6170039885052185351, .int .u64 8772561819708210092, .int .u64 11261198710074299576, .int .u64 18237243440184513561, .int .u64 6747795201694173352, .int .u64 5204712524664259685, .bool false, .int .u64 6481385041966929816, .int .u64 188021827762530521, .int .u64 6170039885052185351, .int .u64 8772561819708210092, .int .u64 11261198710074299576, .int .u64 18237243440184513561, .int .u64 6747795201694173352, .int .u64 5204712524664259685, .bool false] 28)).drewN n) (.cells #[.int .i64 0, .slice none 0 0] 34)) Tryz.underlying34 rfl (by kernel_rfl)
    rw [World.heap_drewN, hsz] at h
    rw [hW2]
    exact h
  have hst : Hid (∀ n, (storeVar 34 ⟨w.heap.size + 1, 0, none⟩ (.agg #[.int .i64 0, .slice none 0 0])).run Tryz.prog (W2.drewN n) = .ok () (W2.drewN n)) := fun n => by
    have h := run_storeVar_new (P := Tryz.prog) ((w.alloc (.cells #[.int .i64 1, .int .u64 6481385041966929816, .int .u64 188021827762530521, .int .u64 6170039885052185351, .int .u64 8772561819708210092, .int .u64 11261198710074299576, .int .u64 18237243440184513561, .int .u64 6747795201694173352, .int .u64 5204712524664259685, .bool false, .int .u64 6481385041966929816, .int .u64 188021827762530521, .int .u64 6170039885052185351, .int .u64 8772561819708210092, .int .u64 11261198710074299576, .int .u64 18237243440184513561, .int .u64 6747795201694173352, .int .u64 5204712524664259685, .bool false] 28)).drewN n) 34 #[.int .i64 0, .slice none 0 0] #[.int .i64 0, .slice none 0 0] (by kernel_rfl) rfl (by kernel_rfl)
    rw [World.heap_drewN, hsz] at h
    rw [hW2]
    exact h
  have HB : Hid (Below w.heap.size w W2) := by
    rw [hW2]
    exact below_alloc0 (below_alloc0 (Below.refl _ _) _) _
  have p0 : W2.cell? ⟨w.heap.size, 0, none⟩ = some (.int .i64 1) := by
    rw [hW2]
    exact (Below.cell (below_alloc0 (Below.refl _ _) _) (p := ⟨w.heap.size, 0, none⟩) (by simp)).trans (World.cell?_alloc_new ..)
  have d0 : W2.cell? ⟨r, 0, none⟩ = some (.int .i64 4) := (HB.out.cell (p := ⟨r, 0, none⟩) hr).trans c0
  have d5 : W2.cell? ⟨r, 235, none⟩ = some (.pointer none) := (HB.out.cell (p := ⟨r, 235, none⟩) hr).trans c5
  have d24 : W2.cell? ⟨r, 24, none⟩ = some (.int .i64 1) := (HB.out.cell (p := ⟨r, 24, none⟩) hr).trans c24
  clear hsz c0 c5 c24
  have HW : Hid (W2 = (w.alloc (.cells #[.int .i64 1, .int .u64 6481385041966929816, .int .u64 188021827762530521, .int .u64 6170039885052185351, .int .u64 8772561819708210092, .int .u64 11261198710074299576, .int .u64 18237243440184513561, .int .u64 6747795201694173352, .int .u64 5204712524664259685, .bool false, .int .u64 6481385041966929816, .int .u64 188021827762530521, .int .u64 6170039885052185351, .int .u64 8772561819708210092, .int .u64 11261198710074299576, .int .u64 18237243440184513561, .int .u64 6747795201694173352, .int .u64 5204712524664259685, .bool false] 28)).alloc (.cells #[.int .i64 0, .slice none 0 0] 34)) := hW2
  clear hW2
  go_enter Tryz.func4, Tryz.ntmps4
  go_upto_region 1 with fail
  rw [← HW.out]
  clear HW
  go_wp2_with fail
  refine (KO.out _ d0 d5).mono ?_
  rintro e w1 ⟨rfl, h1⟩
  obtain rfl : W2 = w1 := h1.symm
  go_wp2_with fail
  refine (KH.out _ d0).mono ?_
  rintro e w1 ⟨rfl, h1⟩
  obtain rfl : W2 = w1 := h1.symm
  go_wp2_with fail
  go_quiet (fail)
  go_wp2_with ((with_reducible refine store_to (b := w.heap.size + 1) (x := 4) (y := 28) ?_ ?_ ?_ ?_ (hst.out _) ?_); rfl; rfl; rfl; rfl)
  have hl := hld.out
  refine bodyPost_ret (v := .tuple #[.agg #[.int .i64 0, .slice none 0 0], .bool false, .int .i64 7]) ?_ rfl ⟨rfl, below_drewN HB.out _⟩
  simp [results, Tryz.results4, asAddr, hl]
theorem points_any (a : Option Addr) (n c : Nat) (w : World) : Calls Tryz.prog 35 #[.slice a n c] w fun e w' => e = .returned (.func (.func 50) #[] #[.pointer (some ⟨w.heap.size, 0, none⟩)]) ∧ w' = w.alloc (.cells #[.slice a n c] 32) := by
  go_enter Tryz.func35, Tryz.ntmps35
  go_wp2_with fail
  go_ret
  exact ⟨rfl, rfl⟩
end Go.Proofs.YtlebhdckgcjacaaGreatDoor
