/- Package bind: areNodes of one pair. -/
import Derived.Test.YtlebhdckgcjacaaGreatDoorRnD
import Derived.BigFrame
import Derived.Deep.WholeRow
namespace Go.Proofs.YtlebhdckgcjacaaGreatDoor
open Go Go.RowKit Go.Lib
theorem store_to {ops : Array Oper} {rest : List Oper} {o : Oper} {a : Act} {w w' : World} {Q : Exit → Act → World → Prop} {b x y : Nat} {ty : TypeId} {vs : Array Value} (hgd : o.guard = none) (ho : o.op = .store ty (.tmp x) (.tmp y))
    (hx : a.eval (.tmp x) = .pointer (some ⟨b, 0, none⟩)) (hy : a.eval (.tmp y) = .agg vs) (hs : (storeVar ty ⟨b, 0, none⟩ (.agg vs)).run Tryz.prog w = .ok () w')
    (h : wpList Tryz.prog ops Q rest (a.put o.dst undef) w') : wpList Tryz.prog ops Q (o :: rest) a w :=
  wpList_plain hgd fun _ hK => by
    unfold Oper.wp execOp
    simp only [ho, hx, hy, Instr.storeAt, Instr.sureAddr, Sem.run_bind, Sem.run_pure, Result.andThen_ok, hs]
    exact hK _ _ h
theorem load_to {ops : Array Oper} {rest : List Oper} {o : Oper} {a : Act} {w : World} {Q : Exit → Act → World → Prop} {b x : Nat} {ty : TypeId} {vs : Array Value} (hw : Region.wanted o (yielded ops a.tmps) = true) (ho : o.op = .load ty (.tmp x))
    (hx : a.eval (.tmp x) = .pointer (some ⟨b, 0, none⟩)) (hs : (loadVar ty ⟨b, 0, none⟩).run Tryz.prog w = .ok (.agg vs) w)
    (h : wpList Tryz.prog ops Q rest (a.put o.dst (.agg vs)) w) : wpList Tryz.prog ops Q (o :: rest) a w :=
  BigFrame.wpList_want hw fun _ hK => by
    unfold Oper.wp execOp
    simp only [ho, hx, Instr.loadAt, Instr.sureAddr, Sem.run_bind, Sem.run_pure, Result.andThen_ok, hs]
    exact hK _ _ h
set_option maxRecDepth 100000 in
set_option maxHeartbeats 4000000 in
theorem areNodes_1 (b : Nat) (w : World) (hb : w.heap[b]? = some (.cells #[.int .i64 1, .int .u64 6481385041966929816, .int .u64 188021827762530521, .int .u64 6170039885052185351, .int .u64 8772561819708210092, .int .u64 11261198710074299576, .int .u64 18237243440184513561, .int .u64 6747795201694173352, .int .u64 5204712524664259685, .bool false, .int .u64 6481385041966929816, .int .u64 188021827762530521, .int .u64 6170039885052185351, .int .u64 8772561819708210092, .int .u64 11261198710074299576, .int .u64 18237243440184513561, .int .u64 6747795201694173352, .int .u64 5204712524664259685, .bool false] 28)) (hlt : b < w.heap.size) : Calls Tryz.prog 34 #[.slice (some ⟨b, 0, none⟩) 1 1] w fun e w' => e = .returned (.bool true) ∧ Below w.heap.size w w' := by
  have H0 : Hid (w.heap[b]? = some (.cells #[.int .i64 1, .int .u64 6481385041966929816, .int .u64 188021827762530521, .int .u64 6170039885052185351, .int .u64 8772561819708210092, .int .u64 11261198710074299576, .int .u64 18237243440184513561, .int .u64 6747795201694173352, .int .u64 5204712524664259685, .bool false, .int .u64 6481385041966929816, .int .u64 188021827762530521, .int .u64 6170039885052185351, .int .u64 8772561819708210092, .int .u64 11261198710074299576, .int .u64 18237243440184513561, .int .u64 6747795201694173352, .int .u64 5204712524664259685, .bool false] 28) ∧ b < w.heap.size) := ⟨hb, hlt⟩
  clear hb hlt
  go_enter Tryz.func34, Tryz.ntmps34
  go_wp2_with fail
  rename_i Kr hKr
  have HKr : Hid _ := hKr
  clear hKr
  go_loopw [8, 3] (fun iv jv wr => ∃ i : Nat, i ≤ 1 ∧ iv = .int .i64 (i : Nat) ∧ jv = .int .i64 (i : Nat) ∧ Below w.heap.size w wr) (fun iv _ _ => 1 - (Go.RowKit.intOf iv).toNat)
  case atStart => exact ⟨0, by decide, rfl, rfl, Below.refl _ _⟩
  case round =>
    obtain ⟨i, hi, rfl, rfl, hB⟩ := hrel
    rename World => wr
    have HB : Hid (Below w.heap.size w wr) := hB
    clear hB
    rcases (show i = 0 ∨ i = 1 by omega) with rfl | rfl
    · clear hi HKr
      have HL : Hid ((loadVar 28 ⟨b, 0, none⟩).run Tryz.prog wr = .ok (.agg #[.int .i64 1, .int .u64 6481385041966929816, .int .u64 188021827762530521, .int .u64 6170039885052185351, .int .u64 8772561819708210092, .int .u64 11261198710074299576, .int .u64 18237243440184513561, .int .u64 6747795201694173352, .int .u64 5204712524664259685, .bool false, .int .u64 6481385041966929816, .int .u64 188021827762530521, .int .u64 6170039885052185351, .int .u64 8772561819708210092, .int .u64 11261198710074299576, .int .u64 18237243440184513561, .int .u64 6747795201694173352, .int .u64 5204712524664259685, .bool false]) wr) := run_loadVar_row (P := Tryz.prog) _ _ _ _ _ _ _ ((HB.out.block b H0.out.2).trans H0.out.1) Tryz.underlying28 rfl (by kernel_rfl)
      have HS : Hid ((storeVar 28 ⟨wr.heap.size, 0, none⟩ (.agg #[.int .i64 1, .int .u64 6481385041966929816, .int .u64 188021827762530521, .int .u64 6170039885052185351, .int .u64 8772561819708210092, .int .u64 11261198710074299576, .int .u64 18237243440184513561, .int .u64 6747795201694173352, .int .u64 5204712524664259685, .bool false, .int .u64 6481385041966929816, .int .u64 188021827762530521, .int .u64 6170039885052185351, .int .u64 8772561819708210092, .int .u64 11261198710074299576, .int .u64 18237243440184513561, .int .u64 6747795201694173352, .int .u64 5204712524664259685, .bool false])).run Tryz.prog (wr.alloc (.cells #[.int .i64 0, .int .u64 0, .int .u64 0, .int .u64 0, .int .u64 0, .int .u64 0, .int .u64 0, .int .u64 0, .int .u64 0, .bool false, .int .u64 0, .int .u64 0, .int .u64 0, .int .u64 0, .int .u64 0, .int .u64 0, .int .u64 0, .int .u64 0, .bool false] 28)) = .ok () (wr.alloc (.cells #[.int .i64 1, .int .u64 6481385041966929816, .int .u64 188021827762530521, .int .u64 6170039885052185351, .int .u64 8772561819708210092, .int .u64 11261198710074299576, .int .u64 18237243440184513561, .int .u64 6747795201694173352, .int .u64 5204712524664259685, .bool false, .int .u64 6481385041966929816, .int .u64 188021827762530521, .int .u64 6170039885052185351, .int .u64 8772561819708210092, .int .u64 11261198710074299576, .int .u64 18237243440184513561, .int .u64 6747795201694173352, .int .u64 5204712524664259685, .bool false] 28))) := run_storeVar_new wr 28 #[.int .i64 0, .int .u64 0, .int .u64 0, .int .u64 0, .int .u64 0, .int .u64 0, .int .u64 0, .int .u64 0, .int .u64 0, .bool false, .int .u64 0, .int .u64 0, .int .u64 0, .int .u64 0, .int .u64 0, .int .u64 0, .int .u64 0, .int .u64 0, .bool false] #[.int .i64 1, .int .u64 6481385041966929816, .int .u64 188021827762530521, .int .u64 6170039885052185351, .int .u64 8772561819708210092, .int .u64 11261198710074299576, .int .u64 18237243440184513561, .int .u64 6747795201694173352, .int .u64 5204712524664259685, .bool false, .int .u64 6481385041966929816, .int .u64 188021827762530521, .int .u64 6170039885052185351, .int .u64 8772561819708210092, .int .u64 11261198710074299576, .int .u64 18237243440184513561, .int .u64 6747795201694173352, .int .u64 5204712524664259685, .bool false] (by kernel_rfl) rfl (by kernel_rfl)
      have H3 : Hid (Below w.heap.size w (wr.alloc (.cells #[.int .i64 1, .int .u64 6481385041966929816, .int .u64 188021827762530521, .int .u64 6170039885052185351, .int .u64 8772561819708210092, .int .u64 11261198710074299576, .int .u64 18237243440184513561, .int .u64 6747795201694173352, .int .u64 5204712524664259685, .bool false, .int .u64 6481385041966929816, .int .u64 188021827762530521, .int .u64 6170039885052185351, .int .u64 8772561819708210092, .int .u64 11261198710074299576, .int .u64 18237243440184513561, .int .u64 6747795201694173352, .int .u64 5204712524664259685, .bool false] 28)) ∧ (wr.alloc (.cells #[.int .i64 1, .int .u64 6481385041966929816, .int .u64 188021827762530521, .int .u64 6170039885052185351, .int .u64 8772561819708210092, .int .u64 11261198710074299576, .int .u64 18237243440184513561, .int .u64 6747795201694173352, .int .u64 5204712524664259685, .bool false, .int .u64 6481385041966929816, .int .u64 188021827762530521, .int .u64 6170039885052185351, .int .u64 8772561819708210092, .int .u64 11261198710074299576, .int .u64 18237243440184513561, .int .u64 6747795201694173352, .int .u64 5204712524664259685, .bool false] 28)).cell? ⟨wr.heap.size, 0, none⟩ = some (.int .i64 1)) := ⟨below_alloc0 HB.out _, World.cell?_alloc_new ..⟩
      obtain ⟨W3, hW3⟩ : ∃ W3, W3 = wr.alloc (.cells #[.int .i64 1, .int .u64 6481385041966929816, .int .u64 188021827762530521, .int .u64 6170039885052185351, .int .u64 8772561819708210092, .int .u64 11261198710074299576, .int .u64 18237243440184513561, .int .u64 6747795201694173352, .int .u64 5204712524664259685, .bool false, .int .u64 6481385041966929816, .int .u64 188021827762530521, .int .u64 6170039885052185351, .int .u64 8772561819708210092, .int .u64 11261198710074299576, .int .u64 18237243440184513561, .int .u64 6747795201694173352, .int .u64 5204712524664259685, .bool false] 28) := ⟨_, rfl⟩
      rw [← hW3] at HS H3
      go_upto_region 5 with (first | ((with_reducible refine load_to (b := b) (x := 10) ?_ ?_ ?_ HL.out ?_); rfl; rfl; rfl) | ((with_reducible refine store_to (b := wr.heap.size) (x := 5) (y := 11) ?_ ?_ ?_ ?_ HS.out ?_); rfl; rfl; rfl; rfl))
      clear HL HS hW3
      have r0 : W3.cell? ⟨wr.heap.size, 0, none⟩ = some (.int .i64 1) := H3.out.2
      go_wp2_with fail
      go_roundw
      case rel => exact ⟨1, by decide, rfl, rfl, H3.out.1⟩
      case measure => simp [Go.RowKit.intOf]
    · clear hi
      go_wp2_with fail
      refine HKr.out _ _ ?_
      clear HKr
      go_wp2_with fail
      go_ret
      exact ⟨rfl, HB.out⟩
end Go.Proofs.YtlebhdckgcjacaaGreatDoor
