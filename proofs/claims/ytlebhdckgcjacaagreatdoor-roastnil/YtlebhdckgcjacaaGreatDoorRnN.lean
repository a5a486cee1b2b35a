/- Package wardmotelaw21: begins. -/
import Derived.Test.YtlebhdckgcjacaaGreatDoorRnM
import Derived.Test.YtlebhdckgcjacaaGreatDoorSnB
namespace Go.Proofs.YtlebhdckgcjacaaGreatDoor
open Go Go.RowKit Go.Lib
theorem wpl_bsG {ops : Array Oper} {rest : List Oper} {o : Oper} {a : Act} {w : World} {Q : Exit → Act → World → Prop} {x y : Nat} {cs ds : List Value} (hg : o.guard = none) (ho : o.op = .buildSlice 66 2 #[(0, .tmp x), (1, .tmp y)]) (hx : a.eval (.tmp x) = .agg cs.toArray) (hy : a.eval (.tmp y) = .agg ds.toArray) (hl : cs.length = 9) (hd : ds.length = 9)
    (h : wpList Tryz.prog ops Q rest (a.put o.dst (.slice (some ⟨w.heap.size, 0, none⟩) 2 2)) (w.alloc (.cells (cs ++ ds).toArray 26))) : wpList Tryz.prog ops Q (o :: rest) a w := by
  obtain ⟨i, z, hi, hz, hs, -, -⟩ := infPt
  refine wpList_buildSlice hg 66 26 2 _ ho (cs ++ ds).toArray i z Tryz.underlying66 hi hz (by rw [hs]; omega) (by rw [hs]; omega) ?_ h
  have e1 : (Array.map (fun (x : Nat × Operand) => match x with | (i, x) => (i, a.eval x)) #[(0, Operand.tmp x), (1, Operand.tmp y)]).toList = (([Value.agg cs.toArray, Value.agg ds.toArray].zipIdx 0).map fun x => (x.2, x.1)) := by simp [hx, hy]
  rw [e1, hs]
  rw [Great.fill_whole (by decide : 0 < 9) [Value.agg cs.toArray, Value.agg ds.toArray] _ (by simp [Value.cells, hl, hd]) (by simp)]
  simp [Value.cells]
set_option maxRecDepth 100000 in
set_option maxHeartbeats 4000000 in
theorem begins_any (w : World) (hP : GlobP w) : Calls Tryz.prog 11 #[] w fun e w' => e = .returned (.bool true) ∧ Below w.heap.size w w' := by
  have KG : Hid _ := G3_lit
  have KN : Hid _ := New_4 GlobP (fun _ _ h hb => h.call hb) chkG
  have KB : Hid _ := Begin_idle GlobP (fun _ _ h hb => h.call hb) chkG
  have KR : Hid _ := Begin_ready
  have KS : Hid _ := Sessions_0
  have HP : Hid (GlobP w) := hP
  clear hP
  go_enter Tryz.func11, Tryz.ntmps11
  go_wp2_with fail
  refine (KG.out _).mono ?_
  rintro e w1 ⟨rfl, hb1⟩
  obtain ⟨W2, hW2⟩ : ∃ W2, W2 = w1.alloc (.cells #[.int .u64 6481385041966929816, .int .u64 188021827762530521, .int .u64 6170039885052185351, .int .u64 8772561819708210092, .int .u64 11261198710074299576, .int .u64 18237243440184513561, .int .u64 6747795201694173352, .int .u64 5204712524664259685, .bool false] 26) := ⟨_, rfl⟩
  obtain ⟨A, hA⟩ : ∃ A, A = w1.heap.size := ⟨_, rfl⟩
  have H2 : Hid (Below w.heap.size w W2 ∧ W2.heap[A]? = some (.cells #[.int .u64 6481385041966929816, .int .u64 188021827762530521, .int .u64 6170039885052185351, .int .u64 8772561819708210092, .int .u64 11261198710074299576, .int .u64 18237243440184513561, .int .u64 6747795201694173352, .int .u64 5204712524664259685, .bool false] 26) ∧ A < W2.heap.size ∧ w.heap.size ≤ A) := by
    rw [hW2, hA]
    exact ⟨below_alloc0 hb1 _, heap_alloc_last w1 _, by simp, hb1.size⟩
  have HW : Hid (W2 = w1.alloc (.cells #[.int .u64 6481385041966929816, .int .u64 188021827762530521, .int .u64 6170039885052185351, .int .u64 8772561819708210092, .int .u64 11261198710074299576, .int .u64 18237243440184513561, .int .u64 6747795201694173352, .int .u64 5204712524664259685, .bool false] 26) ∧ A = w1.heap.size) := ⟨hW2, hA⟩
  clear hb1 hW2 hA KG
  go_upto_region 2 with fail
  rw [← HW.out.1, ← HW.out.2]
  clear HW
  have HL : Hid (∀ wx, wx.heap[A]? = some (.cells #[.int .u64 6481385041966929816, .int .u64 188021827762530521, .int .u64 6170039885052185351, .int .u64 8772561819708210092, .int .u64 11261198710074299576, .int .u64 18237243440184513561, .int .u64 6747795201694173352, .int .u64 5204712524664259685, .bool false] 26) → (loadVar 26 ⟨A, 0, none⟩).run Tryz.prog wx = .ok (.agg #[.int .u64 6481385041966929816, .int .u64 188021827762530521, .int .u64 6170039885052185351, .int .u64 8772561819708210092, .int .u64 11261198710074299576, .int .u64 18237243440184513561, .int .u64 6747795201694173352, .int .u64 5204712524664259685, .bool false]) wx) := fun wx hx => run_loadVar_row (P := Tryz.prog) _ _ _ _ _ _ _ hx Tryz.underlying26 rfl (by kernel_rfl)
  go_wp2_with (first | ((with_reducible refine load_to (b := A) (x := 1) ?_ ?_ ?_ (HL.out _ H2.out.2.1) ?_); rfl; rfl; rfl) | ((with_reducible refine wpl_bsG (cs := [.int .u64 6481385041966929816, .int .u64 188021827762530521, .int .u64 6170039885052185351, .int .u64 8772561819708210092, .int .u64 11261198710074299576, .int .u64 18237243440184513561, .int .u64 6747795201694173352, .int .u64 5204712524664259685, .bool false]) (ds := [.int .u64 6481385041966929816, .int .u64 188021827762530521, .int .u64 6170039885052185351, .int .u64 8772561819708210092, .int .u64 11261198710074299576, .int .u64 18237243440184513561, .int .u64 6747795201694173352, .int .u64 5204712524664259685, .bool false]) (x := 12) (y := 13) ?_ ?_ ?_ ?_ ?_ ?_ ?_); rfl; rfl; rfl; rfl; rfl; rfl))
  have HG : Hid (GlobP (W2.alloc (.cells #[.int .u64 6481385041966929816, .int .u64 188021827762530521, .int .u64 6170039885052185351, .int .u64 8772561819708210092, .int .u64 11261198710074299576, .int .u64 18237243440184513561, .int .u64 6747795201694173352, .int .u64 5204712524664259685, .bool false, .int .u64 6481385041966929816, .int .u64 188021827762530521, .int .u64 6170039885052185351, .int .u64 8772561819708210092, .int .u64 11261198710074299576, .int .u64 18237243440184513561, .int .u64 6747795201694173352, .int .u64 5204712524664259685, .bool false] 26)) ∧ OwnC (W2.alloc (.cells #[.int .u64 6481385041966929816, .int .u64 188021827762530521, .int .u64 6170039885052185351, .int .u64 8772561819708210092, .int .u64 11261198710074299576, .int .u64 18237243440184513561, .int .u64 6747795201694173352, .int .u64 5204712524664259685, .bool false, .int .u64 6481385041966929816, .int .u64 188021827762530521, .int .u64 6170039885052185351, .int .u64 8772561819708210092, .int .u64 11261198710074299576, .int .u64 18237243440184513561, .int .u64 6747795201694173352, .int .u64 5204712524664259685, .bool false] 26)) W2.heap.size [.int .u64 6481385041966929816, .int .u64 188021827762530521, .int .u64 6170039885052185351, .int .u64 8772561819708210092, .int .u64 11261198710074299576, .int .u64 18237243440184513561, .int .u64 6747795201694173352, .int .u64 5204712524664259685, .bool false, .int .u64 6481385041966929816, .int .u64 188021827762530521, .int .u64 6170039885052185351, .int .u64 8772561819708210092, .int .u64 11261198710074299576, .int .u64 18237243440184513561, .int .u64 6747795201694173352, .int .u64 5204712524664259685, .bool false]) := ⟨HP.out.call (below_alloc0 H2.out.1 _), OwnC.new' rfl⟩
  refine (KN.out W2.heap.size _ HG.out.1 HG.out.2).mono ?_
  rintro e w3 ⟨r, rfl, hr3, hle3, hb3⟩
  have H3 : Hid (RO w3 r 0 ∧ w.heap.size ≤ r ∧ Below w.heap.size w w3 ∧ w3.heap[A]? = some (.cells #[.int .u64 6481385041966929816, .int .u64 188021827762530521, .int .u64 6170039885052185351, .int .u64 8772561819708210092, .int .u64 11261198710074299576, .int .u64 18237243440184513561, .int .u64 6747795201694173352, .int .u64 5204712524664259685, .bool false] 26) ∧ A < r) := by
    have h1 : Below W2.heap.size W2 w3 := below_call0 (below_alloc0 (Below.refl _ _) _) hb3
    have h2 : W2.heap.size ≤ r := Nat.le_trans (by simp) hle3
    exact ⟨hr3, Nat.le_trans H2.out.1.size h2, below_call0 H2.out.1 h1, (h1.block A H2.out.2.2.1).trans H2.out.2.1, Nat.lt_of_lt_of_le H2.out.2.2.1 h2⟩
  clear hr3 hle3 hb3 HG KN H2
  go_upto_region 5 with fail
  go_wp2_with ((with_reducible refine load_to (b := A) (x := 1) ?_ ?_ ?_ (HL.out _ H3.out.2.2.2.1) ?_); rfl; rfl; rfl)
  refine (KB.out r w3 (HP.out.call H3.out.2.2.1) H3.out.1).mono ?_
  rintro e w4 ⟨rfl, hr4, ho4⟩
  have H4 : Hid (RO w4 r 1 ∧ Below w.heap.size w w4 ∧ w4.heap[A]? = some (.cells #[.int .u64 6481385041966929816, .int .u64 188021827762530521, .int .u64 6170039885052185351, .int .u64 8772561819708210092, .int .u64 11261198710074299576, .int .u64 18237243440184513561, .int .u64 6747795201694173352, .int .u64 5204712524664259685, .bool false] 26)) := by
    have hsz := H3.out.1.lt
    have hA := H3.out.2.2.2.2
    have hw := H3.out.2.1
    refine ⟨hr4, H3.out.2.2.1.trans ⟨ho4.os, ho4.tape, ho4.output, ho4.size, fun k hk => ho4.block k (fun h => by omega)⟩, (ho4.block A (fun h => by omega)).trans H3.out.2.2.2.1⟩
  clear hr4 ho4 KB
  obtain ⟨W5, hW5⟩ : ∃ W5, W5 = w4.alloc (.cells #[.int .i64 0, .slice none 0 0] 34) := ⟨_, rfl⟩
  have H5 : Hid (RO W5 r 1 ∧ Below w.heap.size w W5 ∧ W5.heap[A]? = some (.cells #[.int .u64 6481385041966929816, .int .u64 188021827762530521, .int .u64 6170039885052185351, .int .u64 8772561819708210092, .int .u64 11261198710074299576, .int .u64 18237243440184513561, .int .u64 6747795201694173352, .int .u64 5204712524664259685, .bool false] 26)) := by
    have hb : Below w4.heap.size w4 W5 := by
      rw [hW5]
      exact below_alloc0 (Below.refl _ _) _
    exact ⟨H4.out.1.call hb, below_call0 H4.out.2.1 hb, (hb.block A (Array.getElem?_eq_some_iff.1 H4.out.2.2).1).trans H4.out.2.2⟩
  have HW5 : Hid (W5 = w4.alloc (.cells #[.int .i64 0, .slice none 0 0] 34)) := hW5
  clear hW5 H4
  go_upto_region 6 with fail
  rw [← HW5.out]
  clear HW5
  go_wp2_with ((with_reducible refine load_to (b := A) (x := 1) ?_ ?_ ?_ (HL.out _ H5.out.2.2) ?_); rfl; rfl; rfl)
  refine (KR.out r W5 H5.out.1.lt H5.out.1.c0 H5.out.1.c5 (H5.out.1.st 1 (by decide))).mono ?_
  rintro e w6 ⟨rfl, hb6⟩
  obtain ⟨W7, hW7⟩ : ∃ W7, W7 = w6.alloc (.cells #[.int .i64 0, .slice none 0 0] 34) := ⟨_, rfl⟩
  have H7 : Hid (RO W7 r 1 ∧ Below w.heap.size w W7) := by
    have hb : Below W5.heap.size W5 W7 := by
      rw [hW7]
      exact below_alloc0 hb6 _
    exact ⟨H5.out.1.call hb, below_call0 H5.out.2.1 hb⟩
  have HW7 : Hid (W7 = w6.alloc (.cells #[.int .i64 0, .slice none 0 0] 34)) := hW7
  clear hW7 hb6 H5 KR
  go_upto_region 7 with fail
  rw [← HW7.out]
  clear HW7
  go_wp2_with fail
  refine (KS.out r W7 H7.out.1.c4).mono ?_
  rintro e w8 ⟨rfl, h8⟩
  obtain rfl : W7 = w8 := h8.symm
  go_wp2_with fail
  go_ret
  exact ⟨rfl, H7.out.2⟩
end Go.Proofs.YtlebhdckgcjacaaGreatDoor
