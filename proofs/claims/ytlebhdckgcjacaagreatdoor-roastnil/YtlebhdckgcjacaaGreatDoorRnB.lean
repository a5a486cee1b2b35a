/- Package roast: one that is none, Begin, Share and Done. -/
import Derived.Test.YtlebhdckgcjacaaGreatDoorRnA
import Derived.Deep.CutBlock
import Derived.Deep.WholeRow
namespace Go.Proofs.YtlebhdckgcjacaaGreatDoor
open Go Go.RowKit Go.Lib
set_option maxRecDepth 100000 in
set_option maxHeartbeats 4000000 in
theorem Begin_nil (ps : Array Value) (w : World) : Calls Tryz.prog 4 #[.pointer none, .agg ps] w fun e w' => e = .returned (.tuple #[.agg #[.int .i64 0, .slice none 0 0], .bool false, .int .i64 7]) ∧ Below w.heap.size w w' := by
  have KO : Hid _ := isOver_nil
  have hld : (loadVar 34 ⟨w.heap.size + 1, 0, none⟩).run Tryz.prog ((w.alloc (.cells ps 28)).alloc (.cells #[.int .i64 0, .slice none 0 0] 34)) = .ok (.agg #[.int .i64 0, .slice none 0 0]) ((w.alloc (.cells ps 28)).alloc (.cells #[.int .i64 0, .slice none 0 0] 34)) := by
    have h := run_loadVar_row (P := Tryz.prog) _ _ _ _ _ _ _ (heap_alloc_last (w.alloc (.cells ps 28)) (.cells #[.int .i64 0, .slice none 0 0] 34)) Tryz.underlying34 rfl (by kernel_rfl)
    have e : ((w.alloc (.cells ps 28))).heap.size = w.heap.size + 1 := by simp
    rw [e] at h
    exact h
  go_enter Tryz.func4, Tryz.ntmps4
  go_upto_region 1 with fail
  go_wp2_with fail
  refine (KO.out _).mono ?_
  rintro e w1 ⟨rfl, rfl⟩
  go_wp2_with fail
  refine bodyPost_ret (v := .tuple #[.agg #[.int .i64 0, .slice none 0 0], .bool false, .int .i64 7]) ?_ rfl ⟨rfl, below_alloc0 (below_alloc0 (Below.refl _ _) _) _⟩
  simp [results, Tryz.results4, asAddr, hld]
set_option maxRecDepth 100000 in
set_option maxHeartbeats 4000000 in
theorem Share_nil (s n : Int) (zs ps : Array Value) (w : World) : Calls Tryz.prog 5 #[.pointer none, .int .i64 s, .int .i64 n, .agg zs, .agg ps] w fun e w' => e = .returned (.tuple #[.agg #[.int .i64 0, .slice none 0 0], .bool false, .int .i64 7]) ∧ Below w.heap.size w w' := by
  have KO : Hid _ := isOver_nil
  have hld : (loadVar 34 ⟨w.heap.size + 2, 0, none⟩).run Tryz.prog (((w.alloc (.cells zs 24)).alloc (.cells ps 28)).alloc (.cells #[.int .i64 0, .slice none 0 0] 34)) = .ok (.agg #[.int .i64 0, .slice none 0 0]) (((w.alloc (.cells zs 24)).alloc (.cells ps 28)).alloc (.cells #[.int .i64 0, .slice none 0 0] 34)) := by
    have h := run_loadVar_row (P := Tryz.prog) _ _ _ _ _ _ _ (heap_alloc_last ((w.alloc (.cells zs 24)).alloc (.cells ps 28)) (.cells #[.int .i64 0, .slice none 0 0] 34)) Tryz.underlying34 rfl (by kernel_rfl)
    have e : (((w.alloc (.cells zs 24)).alloc (.cells ps 28))).heap.size = w.heap.size + 2 := by simp
    rw [e] at h
    exact h
  go_enter Tryz.func5, Tryz.ntmps5
  go_upto_region 1 with fail
  go_wp2_with fail
  refine (KO.out _).mono ?_
  rintro e w1 ⟨rfl, rfl⟩
  go_wp2_with fail
  refine bodyPost_ret (v := .tuple #[.agg #[.int .i64 0, .slice none 0 0], .bool false, .int .i64 7]) ?_ rfl ⟨rfl, below_alloc0 (below_alloc0 (below_alloc0 (Below.refl _ _) _) _) _⟩
  simp [results, Tryz.results5, asAddr, hld]
set_option maxRecDepth 100000 in
set_option maxHeartbeats 4000000 in
theorem Done_nil (w : World) : Calls Tryz.prog 7 #[.pointer none] w fun e w' => e = .returned (.tuple #[.agg #[.int .u64 0, .int .u64 0, .int .u64 0, .int .u64 0, .int .u64 0, .int .u64 0, .int .u64 0, .int .u64 0, .bool false, .int .u64 0, .int .u64 0, .int .u64 0, .int .u64 0], .bool false]) ∧ Below w.heap.size w w' := by
  have hld : (loadVar 42 ⟨w.heap.size, 0, none⟩).run Tryz.prog (w.alloc (.cells #[.int .u64 0, .int .u64 0, .int .u64 0, .int .u64 0, .int .u64 0, .int .u64 0, .int .u64 0, .int .u64 0, .bool false, .int .u64 0, .int .u64 0, .int .u64 0, .int .u64 0] 42)) = .ok (.agg #[.int .u64 0, .int .u64 0, .int .u64 0, .int .u64 0, .int .u64 0, .int .u64 0, .int .u64 0, .int .u64 0, .bool false, .int .u64 0, .int .u64 0, .int .u64 0, .int .u64 0]) (w.alloc (.cells #[.int .u64 0, .int .u64 0, .int .u64 0, .int .u64 0, .int .u64 0, .int .u64 0, .int .u64 0, .int .u64 0, .bool false, .int .u64 0, .int .u64 0, .int .u64 0, .int .u64 0] 42)) := by
    have h := run_loadVar_row (P := Tryz.prog) _ _ _ _ _ _ _ (heap_alloc_last w (.cells #[.int .u64 0, .int .u64 0, .int .u64 0, .int .u64 0, .int .u64 0, .int .u64 0, .int .u64 0, .int .u64 0, .bool false, .int .u64 0, .int .u64 0, .int .u64 0, .int .u64 0] 42)) Tryz.underlying42 rfl (by kernel_rfl)
    exact h
  go_enter Tryz.func7, Tryz.ntmps7
  go_upto_region 1 with fail
  go_wp2_with fail
  refine bodyPost_ret (v := .tuple #[.agg #[.int .u64 0, .int .u64 0, .int .u64 0, .int .u64 0, .int .u64 0, .int .u64 0, .int .u64 0, .int .u64 0, .bool false, .int .u64 0, .int .u64 0, .int .u64 0, .int .u64 0], .bool false]) ?_ rfl ⟨rfl, below_alloc0 (Below.refl _ _) _⟩
  simp [results, Tryz.results7, asAddr, hld]
end Go.Proofs.YtlebhdckgcjacaaGreatDoor
