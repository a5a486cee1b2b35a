/- Package roast: New of the law's key: up to the closure. -/
import Derived.Test.YtlebhdckgcjacaaGreatDoorRnL
namespace Go.Proofs.YtlebhdckgcjacaaGreatDoor
open Go Go.RowKit Go.Lib
theorem roC_at (fv : Value) : (((Tryz.zeroCells58.setIfInBounds 0 (.int .i64 4)).setIfInBounds 1 (.int .i64 1)).setIfInBounds 2 fv)[0]? = some (.int .i64 4) ∧ (((Tryz.zeroCells58.setIfInBounds 0 (.int .i64 4)).setIfInBounds 1 (.int .i64 1)).setIfInBounds 2 fv)[1]? = some (.int .i64 1) ∧ (((Tryz.zeroCells58.setIfInBounds 0 (.int .i64 4)).setIfInBounds 1 (.int .i64 1)).setIfInBounds 2 fv)[234]? = some (.slice none 0 0) ∧ (((Tryz.zeroCells58.setIfInBounds 0 (.int .i64 4)).setIfInBounds 1 (.int .i64 1)).setIfInBounds 2 fv)[235]? = some (.pointer none) ∧ (((Tryz.zeroCells58.setIfInBounds 0 (.int .i64 4)).setIfInBounds 1 (.int .i64 1)).setIfInBounds 2 fv).size = 236 := ⟨by kernel_rfl, by kernel_rfl, by kernel_rfl, by kernel_rfl, by kernel_rfl⟩
theorem roC_st (fv : Value) (i : Nat) (h : i < 11) : (((Tryz.zeroCells58.setIfInBounds 0 (.int .i64 4)).setIfInBounds 1 (.int .i64 1)).setIfInBounds 2 fv)[3 + 21 * i]? = some (.int .i64 0) := by
  rcases (show i = 0 ∨ i = 1 ∨ i = 2 ∨ i = 3 ∨ i = 4 ∨ i = 5 ∨ i = 6 ∨ i = 7 ∨ i = 8 ∨ i = 9 ∨ i = 10 by omega) with rfl | rfl | rfl | rfl | rfl | rfl | rfl | rfl | rfl | rfl | rfl
  all_goals kernel_rfl
theorem ro_of (C : Array Value) (w : World) (e0 : C[0]? = some (.int .i64 4)) (e1 : C[1]? = some (.int .i64 1)) (e2 : C[234]? = some (.slice none 0 0)) (e3 : C[235]? = some (.pointer none)) (es : C.size = 236) (est : ∀ i, i < 11 → C[3 + 21 * i]? = some (.int .i64 0)) : RO (w.alloc (.cells C 58)) w.heap.size 0 := by
  have hb : (w.alloc (.cells C 58)).heap[w.heap.size]? = some (.cells C 58) := heap_alloc_last w _
  have hc : ∀ j, (w.alloc (.cells C 58)).cell? ⟨w.heap.size, j, none⟩ = C[j]? := fun j => by
    simp only [World.cell?, hb]
    rfl
  refine ⟨by simp, (hc 0).trans e0, (hc 1).trans e1, fun i hi => ?_, (hc 234).trans e2, (hc 235).trans e3, fun j hj => ⟨?_, by simp [World.frozen?_alloc_new]⟩⟩
  · rw [hc, est i hi]
    split <;> rfl
  · rw [hc, Array.getElem?_eq_getElem (by omega)]
    rfl
theorem ro_new (w : World) (fv : Value) : RO (w.alloc (.cells (((Tryz.zeroCells58.setIfInBounds 0 (.int .i64 4)).setIfInBounds 1 (.int .i64 1)).setIfInBounds 2 fv) 58)) w.heap.size 0 := by
  obtain ⟨e0, e1, e2, e3, es⟩ := roC_at fv
  exact ro_of _ w e0 e1 e2 e3 es (roC_st fv)
set_option maxRecDepth 100000 in
set_option maxHeartbeats 4000000 in
theorem New_4 (GP : World → Prop) (Gc : ∀ (w w' : World), GP w → Below w.heap.size w w' → GP w') (K0 : ∀ w, GP w → Calls Tryz.prog 46 #[.agg #[.int .u64 6481385041966929816, .int .u64 188021827762530521, .int .u64 6170039885052185351, .int .u64 8772561819708210092, .int .u64 11261198710074299576, .int .u64 18237243440184513561, .int .u64 6747795201694173352, .int .u64 5204712524664259685, .bool false]] w fun e w' => e = .returned (.int .i64 0) ∧ Below w.heap.size w w')
    (b : Nat) (w : World) (hG : GP w) (hb : OwnC w b [.int .u64 6481385041966929816, .int .u64 188021827762530521, .int .u64 6170039885052185351, .int .u64 8772561819708210092, .int .u64 11261198710074299576, .int .u64 18237243440184513561, .int .u64 6747795201694173352, .int .u64 5204712524664259685, .bool false, .int .u64 6481385041966929816, .int .u64 188021827762530521, .int .u64 6170039885052185351, .int .u64 8772561819708210092, .int .u64 11261198710074299576, .int .u64 18237243440184513561, .int .u64 6747795201694173352, .int .u64 5204712524664259685, .bool false]) :
    Calls Tryz.prog 20 #[.int .i64 4, .int .i64 1, .slice (some ⟨b, 0, none⟩) 2 2, .string ⟨#[109]⟩] w fun e w' => ∃ r, e = .returned (.tuple #[.pointer (some ⟨r, 0, none⟩), .int .i64 0]) ∧ RO w' r 0 ∧ w.heap.size ≤ r ∧ Below w.heap.size w w' := by
  have KC : Hid _ := check_2 GP Gc K0 b
  have KL : Hid _ := clone_2 b
  have KS : Hid _ := fun w' : World => clone_any ⟨#[109]⟩ w' (by decide)
  obtain ⟨W2, hW2⟩ : ∃ W2, W2 = (((w.alloc (.cells #[.int .i64 4] 3)).alloc (.cells #[.int .i64 1] 3)).alloc (.cells #[.slice (some ⟨b, 0, none⟩) 2 2] 66)).alloc (.cells #[.string ⟨#[109]⟩] 9) := ⟨_, rfl⟩
  have H2 : Hid (Below w.heap.size w W2 ∧ W2.heap.size = w.heap.size + 4 ∧ W2.heap[w.heap.size]? = some (.cells #[.int .i64 4] 3) ∧ W2.heap[w.heap.size + 1]? = some (.cells #[.int .i64 1] 3) ∧ W2.heap[w.heap.size + 1 + 1]? = some (.cells #[.slice (some ⟨b, 0, none⟩) 2 2] 66) ∧ W2.heap[w.heap.size + 1 + 1 + 1]? = some (.cells #[.string ⟨#[109]⟩] 9)) := by
    rw [hW2]
    refine ⟨below_alloc0 (below_alloc0 (below_alloc0 (below_alloc0 (Below.refl _ _) _) _) _) _, by simp, ?_, ?_, ?_, ?_⟩
    · exact (Boxed.new w 3 (.int .i64 4)).alloc _ |>.alloc _ |>.alloc _
    · have h := (Boxed.new (w.alloc (.cells #[.int .i64 4] 3)) 3 (.int .i64 1)).alloc (.cells #[.slice (some ⟨b, 0, none⟩) 2 2] 66) |>.alloc (.cells #[.string ⟨#[109]⟩] 9)
      rw [World.size_alloc] at h
      exact h
    · have h := (Boxed.new ((w.alloc (.cells #[.int .i64 4] 3)).alloc (.cells #[.int .i64 1] 3)) 66 (.slice (some ⟨b, 0, none⟩) 2 2)).alloc (.cells #[.string ⟨#[109]⟩] 9)
      rw [World.size_alloc, World.size_alloc] at h
      exact h
    · have h := Boxed.new (((w.alloc (.cells #[.int .i64 4] 3)).alloc (.cells #[.int .i64 1] 3)).alloc (.cells #[.slice (some ⟨b, 0, none⟩) 2 2] 66)) 9 (.string ⟨#[109]⟩)
      rw [World.size_alloc, World.size_alloc, World.size_alloc] at h
      exact h
  have HW : Hid (W2 = (((w.alloc (.cells #[.int .i64 4] 3)).alloc (.cells #[.int .i64 1] 3)).alloc (.cells #[.slice (some ⟨b, 0, none⟩) 2 2] 66)).alloc (.cells #[.string ⟨#[109]⟩] 9)) := hW2
  have HG : Hid (GP W2 ∧ OwnC W2 b [.int .u64 6481385041966929816, .int .u64 188021827762530521, .int .u64 6170039885052185351, .int .u64 8772561819708210092, .int .u64 11261198710074299576, .int .u64 18237243440184513561, .int .u64 6747795201694173352, .int .u64 5204712524664259685, .bool false, .int .u64 6481385041966929816, .int .u64 188021827762530521, .int .u64 6170039885052185351, .int .u64 8772561819708210092, .int .u64 11261198710074299576, .int .u64 18237243440184513561, .int .u64 6747795201694173352, .int .u64 5204712524664259685, .bool false]) := ⟨Gc _ _ hG H2.out.1, hb.call H2.out.1⟩
  clear hW2 hG hb K0 Gc
  go_enter Tryz.func20, Tryz.ntmps20
  go_upto_region 1 with fail
  rw [← HW.out]
  clear HW
  have b0 := Boxed.cell H2.out.2.2.1
  have b1 := Boxed.cell H2.out.2.2.2.1
  have b2 := Boxed.cell H2.out.2.2.2.2.1
  have b3 := Boxed.cell H2.out.2.2.2.2.2
  go_wp2_with fail
  refine (KC.out _ HG.out.1 HG.out.2).mono ?_
  rintro e w3 ⟨rfl, hb3⟩
  have H3 : Hid (Below w.heap.size w w3 ∧ w.heap.size + 4 ≤ w3.heap.size ∧ Boxed w3 w.heap.size 3 (.int .i64 4) ∧ Boxed w3 (w.heap.size + 1) 3 (.int .i64 1) ∧ Boxed w3 (w.heap.size + 1 + 1) 66 (.slice (some ⟨b, 0, none⟩) 2 2) ∧ Boxed w3 (w.heap.size + 1 + 1 + 1) 9 (.string ⟨#[109]⟩) ∧ OwnC w3 b [.int .u64 6481385041966929816, .int .u64 188021827762530521, .int .u64 6170039885052185351, .int .u64 8772561819708210092, .int .u64 11261198710074299576, .int .u64 18237243440184513561, .int .u64 6747795201694173352, .int .u64 5204712524664259685, .bool false, .int .u64 6481385041966929816, .int .u64 188021827762530521, .int .u64 6170039885052185351, .int .u64 8772561819708210092, .int .u64 11261198710074299576, .int .u64 18237243440184513561, .int .u64 6747795201694173352, .int .u64 5204712524664259685, .bool false]) := by
    have hs := H2.out.2.1
    exact ⟨below_call0 H2.out.1 hb3, by rw [← hs]; exact hb3.size, (hb3.block _ (by omega)).trans H2.out.2.2.1, (hb3.block _ (by omega)).trans H2.out.2.2.2.1, (hb3.block _ (by omega)).trans H2.out.2.2.2.2.1, (hb3.block _ (by omega)).trans H2.out.2.2.2.2.2, HG.out.2.call hb3⟩
  clear hb3 b0 b1 b2 b3 H2 HG KC
  go_upto_region 4 with fail
  refine wp_region_N (fun w' => Below w3.heap.size w3 w') 4 6 rfl (by kernel_rfl) ?_
  refine wpAnyN_take (i := 0) (oi := ?o0) (v := ?v0) ?hi0 (by kernel_rfl) (by kernel_rfl) (by kernel_rfl) (by kernel_rfl) (by decide) (by kernel_rfl) ?hQ0 ?hy0 (Below.drew (Below.refl _ _)) ?more0
  case hi0 => rw [List.getElem?_toArray]; exact rfl
  case hQ0 => exact fun _ _ _ h => h
  case hy0 =>
    refine Or.inl ⟨by rfl, ?_⟩
    intro w' hSw
    have q2 := Boxed.cell ((hSw.block _ (by have := H3.out.2.1; omega)).trans H3.out.2.2.2.2.1)
    have q3 := Boxed.cell ((hSw.block _ (by have := H3.out.2.1; omega)).trans H3.out.2.2.2.2.2.1)
    clear hSw
    go_simp
    try with_reducible rfl
  simp only [Act.put, List.setIfInBounds_toArray, List.set_cons_zero, List.set_cons_succ]
  refine wpAnyN_takeL (i := 2) (oi := ?o2) (v := ?v2) [3, 4] ?hi2 (by kernel_rfl) (by kernel_rfl) (by kernel_rfl) (by kernel_rfl) (by decide) (by decide) (by kernel_rfl) ?hQ2 ?hy2 (Below.drew (Below.refl _ _)) ?more2
  case hi2 => rw [List.getElem?_toArray]; exact rfl
  case hQ2 => exact fun _ _ _ h => h
  case hy2 =>
    refine Or.inl ⟨by rfl, ?_⟩
    intro w' hSw
    have q2 := Boxed.cell ((hSw.block _ (by have := H3.out.2.1; omega)).trans H3.out.2.2.2.2.1)
    have q3 := Boxed.cell ((hSw.block _ (by have := H3.out.2.1; omega)).trans H3.out.2.2.2.2.2.1)
    clear hSw
    go_simp
    try with_reducible rfl
  simp only [Act.put, List.setIfInBounds_toArray, List.set_cons_zero, List.set_cons_succ]
  refine wpAnyN_one (i := 1) (o := ?o1) (by kernel_rfl) ?hi1 ?hw1 ?st1
  case hi1 => rw [List.getElem?_toArray]; exact rfl
  case hw1 => exact rfl
  intro K hK
  have HK1 : Hid _ := hK
  clear hK
  go_simp
  refine (KL.out _ (H3.out.2.2.2.2.2.2.call (Below.drew (Below.refl _ _)))).mono ?_
  rintro e w4 ⟨⟨g4, c4, rfl⟩, hb4⟩
  have H4 : Hid (Below w3.heap.size w3 w4) := below_call0 (Below.drew (Below.refl _ _)) hb4
  clear hb4 KL
  go_wp2_with fail
  refine HK1.out _ _ ⟨fun _ => H4.out, ?_⟩
  clear HK1 K
  try simp only [Act.put, List.setIfInBounds_toArray, List.set_cons_zero, List.set_cons_succ]
  refine wpAnyN_one (i := 3) (o := ?o3) (by kernel_rfl) ?hi3 ?hw3 ?st3
  case hi3 => rw [List.getElem?_toArray]; exact rfl
  case hw3 => exact rfl
  intro K hK
  have HK3 : Hid _ := hK
  clear hK
  go_simp
  refine (KS.out _).mono ?_
  rintro e w5 ⟨rfl, hb5⟩
  have H5 : Hid (Below w3.heap.size w3 w5) := below_call0 H4.out hb5
  clear hb5 KS
  have b2 := Boxed.cell ((H5.out.block _ (by have := H3.out.2.1; omega)).trans H3.out.2.2.2.2.1)
  have z2 := Boxed.frozen ((H5.out.block _ (by have := H3.out.2.1; omega)).trans H3.out.2.2.2.2.1)
  have b3 := Boxed.cell ((H5.out.block _ (by have := H3.out.2.1; omega)).trans H3.out.2.2.2.2.2.1)
  have z3 := Boxed.frozen ((H5.out.block _ (by have := H3.out.2.1; omega)).trans H3.out.2.2.2.2.2.1)
  go_wp2_with fail
  refine HK3.out _ _ ⟨fun _ => H5.out, ?_⟩
  clear HK3 K
  try simp only [Act.put, List.setIfInBounds_toArray, List.set_cons_zero, List.set_cons_succ]
  refine wpAnyN_one (i := 4) (o := ?o4) (by kernel_rfl) ?hi4 ?hw4 ?st4
  case hi4 => rw [List.getElem?_toArray]; exact rfl
  case hw4 => exact rfl
  intro K hK
  have HK4 : Hid _ := hK
  clear hK
  go_simp
  refine HK4.out _ _ ⟨fun h => absurd h (by decide +kernel), ?_⟩
  clear HK4 K
  try simp only [Act.put, List.setIfInBounds_toArray, List.set_cons_zero, List.set_cons_succ]
  refine wpAnyN_one (i := 5) (o := ?o5) (by kernel_rfl) ?hi5 ?hw5 ?st5
  case hi5 => rw [List.getElem?_toArray]; exact rfl
  case hw5 => exact rfl
  intro K hK
  have HK5 : Hid _ := hK
  clear hK
  go_simp
  refine HK5.out _ _ ⟨fun h => absurd h (by decide +kernel), ?_⟩
  clear HK5 K
  try simp only [Act.put, List.setIfInBounds_toArray, List.set_cons_zero, List.set_cons_succ]
  refine wpAnyN_done (by kernel_rfl) ?_ _
  obtain ⟨W6, hW6⟩ : ∃ W6, W6 = (w5.setCell ⟨w.heap.size + 1 + 1, 0, none⟩ (.slice (some ⟨g4, 0, none⟩) 2 c4)).setCell ⟨w.heap.size + 1 + 1 + 1, 0, none⟩ (.string ⟨#[109]⟩) := ⟨_, rfl⟩
  have H6 : Hid (Below w.heap.size w W6 ∧ Boxed W6 w.heap.size 3 (.int .i64 4) ∧ Boxed W6 (w.heap.size + 1) 3 (.int .i64 1) ∧ w.heap.size + 4 ≤ W6.heap.size) := by
    have hs := H3.out.2.1
    rw [hW6]
    refine ⟨((below_call0 H3.out.1 H5.out).setCell (p := ⟨w.heap.size + 1 + 1, 0, none⟩) (by show w.heap.size ≤ w.heap.size + 1 + 1; omega) _).setCell (p := ⟨w.heap.size + 1 + 1 + 1, 0, none⟩) (by show w.heap.size ≤ w.heap.size + 1 + 1 + 1; omega) _, ?_, ?_, by rw [World.size_setCell, World.size_setCell]; exact Nat.le_trans hs H5.out.size⟩
    · exact (Boxed.other ((H5.out.block _ (by omega)).trans H3.out.2.2.1) (by omega) _).other (by omega) _
    · exact (Boxed.other ((H5.out.block _ (by omega)).trans H3.out.2.2.2.1) (by omega) _).other (by omega) _
  rw [← hW6]
  clear hW6 H3 H4 H5 b2 z2 b3 z3
  have b0 := Boxed.cell H6.out.2.1
  have b1 := Boxed.cell H6.out.2.2.1
  have HN : Hid (∀ fv : Value, RO (W6.alloc (.cells (((Tryz.zeroCells58.setIfInBounds 0 (.int .i64 4)).setIfInBounds 1 (.int .i64 1)).setIfInBounds 2 fv) 58)) W6.heap.size 0) := fun fv => ro_new W6 fv
  go_wp2_with fail
  refine bodyPost_ret (v := .tuple #[.pointer (some ⟨W6.heap.size, 0, none⟩), .int .i64 0]) (by simp [results, Tryz.results20]) rfl ⟨W6.heap.size, rfl, HN.out _, H6.out.1.size, below_alloc0 H6.out.1 _⟩
end Go.Proofs.YtlebhdckgcjacaaGreatDoor
