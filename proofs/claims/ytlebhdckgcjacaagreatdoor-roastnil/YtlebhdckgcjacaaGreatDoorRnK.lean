/- Package roast: Begin of a node that is idle. -/
import Derived.Test.YtlebhdckgcjacaaGreatDoorRnJ
namespace Go.Proofs.YtlebhdckgcjacaaGreatDoor
open Go Go.RowKit Go.Lib
set_option maxRecDepth 100000 in
set_option maxHeartbeats 4000000 in
theorem Begin_idle (GP : World → Prop) (Gc : ∀ (w w' : World), GP w → Below w.heap.size w w' → GP w') (K0 : ∀ w, GP w → Calls Tryz.prog 46 #[.agg #[.int .u64 6481385041966929816, .int .u64 188021827762530521, .int .u64 6170039885052185351, .int .u64 8772561819708210092, .int .u64 11261198710074299576, .int .u64 18237243440184513561, .int .u64 6747795201694173352, .int .u64 5204712524664259685, .bool false]] w fun e w' => e = .returned (.int .i64 0) ∧ Below w.heap.size w w')
    (r : Nat) (w : World) (hG : GP w) (hR : RO w r 0) :
    Calls Tryz.prog 4 #[.pointer (some ⟨r, 0, none⟩), .agg #[.int .i64 1, .int .u64 6481385041966929816, .int .u64 188021827762530521, .int .u64 6170039885052185351, .int .u64 8772561819708210092, .int .u64 11261198710074299576, .int .u64 18237243440184513561, .int .u64 6747795201694173352, .int .u64 5204712524664259685, .bool false, .int .u64 6481385041966929816, .int .u64 188021827762530521, .int .u64 6170039885052185351, .int .u64 8772561819708210092, .int .u64 11261198710074299576, .int .u64 18237243440184513561, .int .u64 6747795201694173352, .int .u64 5204712524664259685, .bool false]] w fun e w' => e = .returned (.tuple #[.agg #[.int .i64 0, .slice none 0 0], .bool false, .int .i64 0]) ∧ RO w' r 1 ∧ Off (fun k => k = r ∨ w.heap.size ≤ k) w w' := by
  have KO : Hid _ := isOver_f r
  have KH : Hid _ := has_1 r
  have KF : Hid _ := offer_1 GP Gc K0 r
  have HR : Hid (r < w.heap.size) := hR.lt
  obtain ⟨W2, hW2⟩ : ∃ W2, W2 = (w.alloc (.cells #[.int .i64 1, .int .u64 6481385041966929816, .int .u64 188021827762530521, .int .u64 6170039885052185351, .int .u64 8772561819708210092, .int .u64 11261198710074299576, .int .u64 18237243440184513561, .int .u64 6747795201694173352, .int .u64 5204712524664259685, .bool false, .int .u64 6481385041966929816, .int .u64 188021827762530521, .int .u64 6170039885052185351, .int .u64 8772561819708210092, .int .u64 11261198710074299576, .int .u64 18237243440184513561, .int .u64 6747795201694173352, .int .u64 5204712524664259685, .bool false] 28)).alloc (.cells #[.int .i64 0, .slice none 0 0] 34) := ⟨_, rfl⟩
  have hsz : (w.alloc (.cells #[.int .i64 1, .int .u64 6481385041966929816, .int .u64 188021827762530521, .int .u64 6170039885052185351, .int .u64 8772561819708210092, .int .u64 11261198710074299576, .int .u64 18237243440184513561, .int .u64 6747795201694173352, .int .u64 5204712524664259685, .bool false, .int .u64 6481385041966929816, .int .u64 188021827762530521, .int .u64 6170039885052185351, .int .u64 8772561819708210092, .int .u64 11261198710074299576, .int .u64 18237243440184513561, .int .u64 6747795201694173352, .int .u64 5204712524664259685, .bool false] 28)).heap.size = w.heap.size + 1 := by simp
  have HB : Below w.heap.size w W2 := by
    rw [hW2]
    exact below_alloc0 (below_alloc0 (Below.refl _ _) _) _
  have hp2 : W2.heap[w.heap.size]? = some (.cells #[.int .i64 1, .int .u64 6481385041966929816, .int .u64 188021827762530521, .int .u64 6170039885052185351, .int .u64 8772561819708210092, .int .u64 11261198710074299576, .int .u64 18237243440184513561, .int .u64 6747795201694173352, .int .u64 5204712524664259685, .bool false, .int .u64 6481385041966929816, .int .u64 188021827762530521, .int .u64 6170039885052185351, .int .u64 8772561819708210092, .int .u64 11261198710074299576, .int .u64 18237243440184513561, .int .u64 6747795201694173352, .int .u64 5204712524664259685, .bool false] 28) := by
    rw [hW2]
    exact (Below.heap_alloc _ _ _ (by rw [hsz]; omega)).trans (World.alloc_heap_new w _)
  have hs2 : W2.heap[w.heap.size + 1]? = some (.cells #[.int .i64 0, .slice none 0 0] 34) := by
    have h := World.alloc_heap_new (w.alloc (.cells #[.int .i64 1, .int .u64 6481385041966929816, .int .u64 188021827762530521, .int .u64 6170039885052185351, .int .u64 8772561819708210092, .int .u64 11261198710074299576, .int .u64 18237243440184513561, .int .u64 6747795201694173352, .int .u64 5204712524664259685, .bool false, .int .u64 6481385041966929816, .int .u64 188021827762530521, .int .u64 6170039885052185351, .int .u64 8772561819708210092, .int .u64 11261198710074299576, .int .u64 18237243440184513561, .int .u64 6747795201694173352, .int .u64 5204712524664259685, .bool false] 28)) (.cells #[.int .i64 0, .slice none 0 0] 34)
    rw [hsz] at h
    rw [hW2]
    exact h
  have H2 : Hid (Below w.heap.size w W2 ∧ W2.heap[w.heap.size]? = some (.cells #[.int .i64 1, .int .u64 6481385041966929816, .int .u64 188021827762530521, .int .u64 6170039885052185351, .int .u64 8772561819708210092, .int .u64 11261198710074299576, .int .u64 18237243440184513561, .int .u64 6747795201694173352, .int .u64 5204712524664259685, .bool false, .int .u64 6481385041966929816, .int .u64 188021827762530521, .int .u64 6170039885052185351, .int .u64 8772561819708210092, .int .u64 11261198710074299576, .int .u64 18237243440184513561, .int .u64 6747795201694173352, .int .u64 5204712524664259685, .bool false] 28) ∧ W2.heap[w.heap.size + 1]? = some (.cells #[.int .i64 0, .slice none 0 0] 34) ∧ W2.heap.size = w.heap.size + 2 ∧ RO W2 r 0 ∧ GP W2) := ⟨HB, hp2, hs2, by rw [hW2]; simp, hR.call HB, Gc _ _ hG HB⟩
  have HW : Hid (W2 = (w.alloc (.cells #[.int .i64 1, .int .u64 6481385041966929816, .int .u64 188021827762530521, .int .u64 6170039885052185351, .int .u64 8772561819708210092, .int .u64 11261198710074299576, .int .u64 18237243440184513561, .int .u64 6747795201694173352, .int .u64 5204712524664259685, .bool false, .int .u64 6481385041966929816, .int .u64 188021827762530521, .int .u64 6170039885052185351, .int .u64 8772561819708210092, .int .u64 11261198710074299576, .int .u64 18237243440184513561, .int .u64 6747795201694173352, .int .u64 5204712524664259685, .bool false] 28)).alloc (.cells #[.int .i64 0, .slice none 0 0] 34)) := hW2
  have HGc : Hid _ := Gc
  have HL : Hid (∀ n, (loadVar 28 ⟨w.heap.size, 0, none⟩).run Tryz.prog (W2.drewN n) = .ok (.agg #[.int .i64 1, .int .u64 6481385041966929816, .int .u64 188021827762530521, .int .u64 6170039885052185351, .int .u64 8772561819708210092, .int .u64 11261198710074299576, .int .u64 18237243440184513561, .int .u64 6747795201694173352, .int .u64 5204712524664259685, .bool false, .int .u64 6481385041966929816, .int .u64 188021827762530521, .int .u64 6170039885052185351, .int .u64 8772561819708210092, .int .u64 11261198710074299576, .int .u64 18237243440184513561, .int .u64 6747795201694173352, .int .u64 5204712524664259685, .bool false]) (W2.drewN n)) := fun n => run_loadVar_row (P := Tryz.prog) _ _ _ _ _ _ _ (by rw [World.heap_drewN]; exact hp2) Tryz.underlying28 rfl (by kernel_rfl)
  have p0 : W2.cell? ⟨w.heap.size, 0, none⟩ = some (.int .i64 1) := (KpC.of_below (Below.refl _ W2)).cell hp2 _ rfl
  clear hsz HB hp2 hs2 hW2 hG hR K0 Gc
  have d0 := H2.out.2.2.2.2.1.c0
  have d5 := H2.out.2.2.2.2.1.c5
  have d24 : W2.cell? ⟨r, 24, none⟩ = some (.int .i64 0) := H2.out.2.2.2.2.1.st 1 (by decide)
  go_enter Tryz.func4, Tryz.ntmps4
  go_upto_region 1 with fail
  rw [← HW.out]
  clear HW
  go_wp2_with fail
  refine (KO.out _ d0 d5).mono ?_
  rintro e w1 ⟨rfl, h1⟩
  obtain rfl : W2 = w1 := h1.symm
  go_wp2_with fail
  refine (KH.out _ d0).mono ?_
  rintro e w1 ⟨rfl, h1⟩
  obtain rfl : W2 = w1 := h1.symm
  go_wp2_with fail
  go_quiet (fail)
  rename_i nq
  go_wp2_with ((with_reducible refine load_to (b := w.heap.size) (x := 3) ?_ ?_ ?_ (HL.out _) ?_); rfl; rfl; rfl)
  have HD : Hid (Below W2.heap.size W2 (W2.drewN nq)) := below_drewN (Below.refl _ _) nq
  refine (KF.out _ (HGc.out _ _ H2.out.2.2.2.2.2 HD.out) (H2.out.2.2.2.2.1.call HD.out)).mono ?_
  rintro e w5 ⟨rfl, hr5, ho5⟩
  have H5 : Hid (RO w5 r 1 ∧ Off (fun k => k = r ∨ w.heap.size ≤ k) w w5 ∧ w5.heap[w.heap.size + 1]? = some (.cells #[.int .i64 0, .slice none 0 0] 34)) := by
    refine ⟨hr5, ?_, (ho5.block _ ?_).trans ((HD.out.block _ (by rw [H2.out.2.2.2.1]; omega)).trans H2.out.2.2.1)⟩
    · have h1 : Off (fun k => k = r ∨ w.heap.size ≤ k) w (W2.drewN nq) := Off.of_below (below_call0 H2.out.1 HD.out) (fun _ hk => .inr hk)
      exact h1.trans ⟨ho5.os, ho5.tape, ho5.output, ho5.size, fun k hk => ho5.block k (fun h => hk (h.imp id (fun h => Nat.le_trans h1.size h)))⟩
    · rintro (h | h)
      · have := HR.out
        omega
      · have h1 : (W2.drewN nq).heap.size = w.heap.size + 2 := by rw [World.heap_drewN]; exact H2.out.2.2.2.1
        omega
  clear hr5 ho5 H2 HL HD
  have hst : Hid ((storeVar 34 ⟨w.heap.size + 1, 0, none⟩ (.agg #[.int .i64 0, .slice none 0 0])).run Tryz.prog w5 = .ok () w5) := store_same H5.out.2.2
  go_wp2_with ((with_reducible refine store_to (b := w.heap.size + 1) (x := 4) (y := 32) ?_ ?_ ?_ ?_ hst.out ?_); rfl; rfl; rfl; rfl)
  have hld : (loadVar 34 ⟨w.heap.size + 1, 0, none⟩).run Tryz.prog w5 = .ok (.agg #[.int .i64 0, .slice none 0 0]) w5 := run_loadVar_row (P := Tryz.prog) _ _ _ _ _ _ _ H5.out.2.2 Tryz.underlying34 rfl (by kernel_rfl)
  refine bodyPost_ret (v := .tuple #[.agg #[.int .i64 0, .slice none 0 0], .bool false, .int .i64 0]) ?_ rfl ⟨rfl, H5.out.1, H5.out.2.1⟩
  simp [results, Tryz.results4, asAddr, hld]
end Go.Proofs.YtlebhdckgcjacaaGreatDoor
