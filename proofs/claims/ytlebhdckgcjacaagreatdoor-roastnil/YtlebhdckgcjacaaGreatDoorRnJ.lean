/- Package roast: offer of the first pair of a coordinator of the law. -/
import Derived.Test.YtlebhdckgcjacaaGreatDoorRnI
import Derived.Test.YtlebhdckgcjacaaGreatDoorRnG
import Derived.Great.BuildSlice
import Derived.Deep.MidRow
import Derived.Laws.CopyRow
import Derived.Test.YtlebhdckgcjacaaGreatDoorHeldN
namespace Go.Proofs.YtlebhdckgcjacaaGreatDoor
open Go Go.RowKit Go.Lib
/-- A coordinator of the law: s is the state of node 1; nobody else is ready. -/
structure RO (w : World) (r : Nat) (s : Int) : Prop where
  lt : r < w.heap.size
  c0 : w.cell? ⟨r, 0, none⟩ = some (.int .i64 4)
  c1 : w.cell? ⟨r, 1, none⟩ = some (.int .i64 1)
  st : ∀ i : Nat, i < 11 → w.cell? ⟨r, 3 + 21 * i, none⟩ = some (.int .i64 (if i = 1 then s else 0))
  c4 : w.cell? ⟨r, 234, none⟩ = some (.slice none 0 0)
  c5 : w.cell? ⟨r, 235, none⟩ = some (.pointer none)
  th : w.there r 24 21
theorem RO.call {w w' : World} {r : Nat} {s : Int} (h : RO w r s) (hb : Below w.heap.size w w') : RO w' r s := by
  have hc : ∀ j v, w.cell? ⟨r, j, none⟩ = some v → w'.cell? ⟨r, j, none⟩ = some v := fun j v hv => (hb.cell (p := ⟨r, j, none⟩) h.lt).trans hv
  refine ⟨Nat.lt_of_lt_of_le h.lt hb.size, hc _ _ h.c0, hc _ _ h.c1, fun i hi => hc _ _ (h.st i hi), hc _ _ h.c4, hc _ _ h.c5, fun j hj => ?_⟩
  obtain ⟨h1, h2⟩ := h.th j hj
  have e := hb.block r h.lt
  simp only [World.cell?, World.frozen?] at h1 h2 ⊢
  rw [e]
  exact ⟨h1, h2⟩
theorem below_cellsJ {B b : Nat} {a : World} (hb : B ≤ b) : ∀ (vs : List Value) (o : Nat) (w : World), Below B a w → Below B a (w.setCells b o vs)
  | [], _, _, h => h
  | v :: r, o, _, h => below_cellsJ hb r (o + 1) _ (h.setCell (p := ⟨b, o, none⟩) hb v)
def S1L : List Value := [.int .i64 1, .int .i64 1, .int .u64 6481385041966929816, .int .u64 188021827762530521, .int .u64 6170039885052185351, .int .u64 8772561819708210092, .int .u64 11261198710074299576, .int .u64 18237243440184513561, .int .u64 6747795201694173352, .int .u64 5204712524664259685, .bool false, .int .u64 6481385041966929816, .int .u64 188021827762530521, .int .u64 6170039885052185351, .int .u64 8772561819708210092, .int .u64 11261198710074299576, .int .u64 18237243440184513561, .int .u64 6747795201694173352, .int .u64 5204712524664259685, .bool false, .int .i64 0]
theorem RO.put {w : World} {r : Nat} {s : Int} (h : RO w r s) : RO (w.setCells r 24 S1L) r 1 := by
  have hb : Below r w (w.setCells r 24 S1L) := below_cellsJ (Nat.le_refl _) _ _ _ (Below.refl _ _)
  have hc : ∀ j v, (j < 24 ∨ 45 ≤ j) → w.cell? ⟨r, j, none⟩ = some v → (w.setCells r 24 S1L).cell? ⟨r, j, none⟩ = some v := fun j v hj hv => (World.cell?_setCells_out r S1L 24 w ⟨r, j, none⟩ (fun _ _ => hj)).trans hv
  refine ⟨Nat.lt_of_lt_of_le h.lt hb.size, hc _ _ (by omega) h.c0, hc _ _ (by omega) h.c1, fun i hi => ?_, hc _ _ (by omega) h.c4, hc _ _ (by omega) h.c5, fun j hj => ?_⟩
  · by_cases e : i = 1
    · subst e
      exact World.cell?_setCells_in r S1L 24 w (fun j hj => (h.th j hj).1) 0 (by decide)
    · have := h.st i hi
      rw [if_neg e] at this ⊢
      exact hc _ _ (by omega) this
  · exact ⟨by have := World.isSome_setCells r S1L 24 w ⟨r, 24 + j, none⟩ (h.th j hj).1; exact this, by rw [World.frozen?_setCells]; exact (h.th j hj).2⟩
theorem exec_load {o : Oper} {ρ : Operand → Value} {w : World} {b x : Nat} {ty : TypeId} {v : Value} (ho : o.op = .load ty (.tmp x)) (hx : ρ (.tmp x) = .pointer (some ⟨b, 0, none⟩)) (hs : (loadVar ty ⟨b, 0, none⟩).run Tryz.prog w = .ok v w) : (execOp ρ o).run Tryz.prog w = .ok (.value v) w := by
  unfold execOp
  simp only [ho, hx, Instr.loadAt, Instr.sureAddr, Sem.run_bind, Sem.run_pure, Result.andThen_ok, hs]
theorem store_same {w : World} {b : Nat} (h : w.heap[b]? = some (.cells #[.int .i64 0, .slice none 0 0] 34)) : (storeVar 34 ⟨b, 0, none⟩ (.agg #[.int .i64 0, .slice none 0 0])).run Tryz.prog w = .ok () w := by
  rw [run_storeVar_row _ _ 34 34 #[.int .i64 0, .slice none 0 0] #[.int .i64 0, .slice none 0 0] h (by kernel_rfl) rfl (by kernel_rfl), setRow_self w b #[.int .i64 0, .slice none 0 0] _ _ h]
theorem infP : ∃ i z, Tryz.prog.info? 28 = some i ∧ i.zero = some z ∧ z.cells.size = 19 ∧ i.size = 19 := by
  have h : (Tryz.prog.info? 28).map (fun i => (i.zero, i.size)) = some (some (.agg #[.int .i64 0, .int .u64 0, .int .u64 0, .int .u64 0, .int .u64 0, .int .u64 0, .int .u64 0, .int .u64 0, .int .u64 0, .bool false, .int .u64 0, .int .u64 0, .int .u64 0, .int .u64 0, .int .u64 0, .int .u64 0, .int .u64 0, .int .u64 0, .bool false]), 19) := by kernel_rfl
  cases e : Tryz.prog.info? 28 with
  | none => rw [e] at h; cases h
  | some i =>
    rw [e] at h
    simp only [Option.map_some, Option.some.injEq, Prod.mk.injEq] at h
    exact ⟨i, _, rfl, h.1, rfl, h.2⟩
theorem wpl_bsP {ops : Array Oper} {rest : List Oper} {o : Oper} {a : Act} {w : World} {Q : Exit → Act → World → Prop} {x : Nat} {cs : List Value} (hg : o.guard = none) (ho : o.op = .buildSlice 32 1 #[(0, .tmp x)]) (hx : a.eval (.tmp x) = .agg cs.toArray) (hl : cs.length = 19)
    (h : wpList Tryz.prog ops Q rest (a.put o.dst (.slice (some ⟨w.heap.size, 0, none⟩) 1 1)) (w.alloc (.cells cs.toArray 28))) : wpList Tryz.prog ops Q (o :: rest) a w := by
  obtain ⟨i, z, hi, hz, -, hs⟩ := infP
  refine wpList_buildSlice hg 32 28 1 _ ho cs.toArray i z Tryz.underlying32 hi hz (by rw [hs]; omega) (by rw [hs]; omega) ?_ h
  have e1 : (Array.map (fun (x : Nat × Operand) => match x with | (i, x) => (i, a.eval x)) #[(0, Operand.tmp x)]).toList = (([Value.agg cs.toArray].zipIdx 0).map fun x => (x.2, x.1)) := by simp [hx]
  rw [e1, hs]
  rw [Great.fill_whole (by decide : 0 < 19) [Value.agg cs.toArray] _ (by simp [Value.cells, hl]) (by simp)]
  simp [Value.cells]
set_option maxRecDepth 100000 in
set_option maxHeartbeats 4000000 in
theorem offer_1 (GP : World → Prop) (Gc : ∀ (w w' : World), GP w → Below w.heap.size w w' → GP w') (K0 : ∀ w, GP w → Calls Tryz.prog 46 #[.agg #[.int .u64 6481385041966929816, .int .u64 188021827762530521, .int .u64 6170039885052185351, .int .u64 8772561819708210092, .int .u64 11261198710074299576, .int .u64 18237243440184513561, .int .u64 6747795201694173352, .int .u64 5204712524664259685, .bool false]] w fun e w' => e = .returned (.int .i64 0) ∧ Below w.heap.size w w')
    (r : Nat) (w : World) (hG : GP w) (hR : RO w r 0) :
    Calls Tryz.prog 14 #[.pointer (some ⟨r, 0, none⟩), .agg #[.int .i64 1, .int .u64 6481385041966929816, .int .u64 188021827762530521, .int .u64 6170039885052185351, .int .u64 8772561819708210092, .int .u64 11261198710074299576, .int .u64 18237243440184513561, .int .u64 6747795201694173352, .int .u64 5204712524664259685, .bool false, .int .u64 6481385041966929816, .int .u64 188021827762530521, .int .u64 6170039885052185351, .int .u64 8772561819708210092, .int .u64 11261198710074299576, .int .u64 18237243440184513561, .int .u64 6747795201694173352, .int .u64 5204712524664259685, .bool false]] w fun e w' => e = .returned (.tuple #[.agg #[.int .i64 0, .slice none 0 0], .bool false, .int .i64 0]) ∧ RO w' r 1 ∧ Off (fun k => k = r ∨ w.heap.size ≤ k) w w' := by
  have KT : Hid _ := those_1 r
  have HR : Hid (r < w.heap.size) := hR.lt
  obtain ⟨W2, hW2⟩ : ∃ W2, W2 = (w.alloc (.cells #[.int .i64 1, .int .u64 6481385041966929816, .int .u64 188021827762530521, .int .u64 6170039885052185351, .int .u64 8772561819708210092, .int .u64 11261198710074299576, .int .u64 18237243440184513561, .int .u64 6747795201694173352, .int .u64 5204712524664259685, .bool false, .int .u64 6481385041966929816, .int .u64 188021827762530521, .int .u64 6170039885052185351, .int .u64 8772561819708210092, .int .u64 11261198710074299576, .int .u64 18237243440184513561, .int .u64 6747795201694173352, .int .u64 5204712524664259685, .bool false] 28)).alloc (.cells #[.int .i64 0, .slice none 0 0] 34) := ⟨_, rfl⟩
  have hsz : (w.alloc (.cells #[.int .i64 1, .int .u64 6481385041966929816, .int .u64 188021827762530521, .int .u64 6170039885052185351, .int .u64 8772561819708210092, .int .u64 11261198710074299576, .int .u64 18237243440184513561, .int .u64 6747795201694173352, .int .u64 5204712524664259685, .bool false, .int .u64 6481385041966929816, .int .u64 188021827762530521, .int .u64 6170039885052185351, .int .u64 8772561819708210092, .int .u64 11261198710074299576, .int .u64 18237243440184513561, .int .u64 6747795201694173352, .int .u64 5204712524664259685, .bool false] 28)).heap.size = w.heap.size + 1 := by simp
  have HB : Below w.heap.size w W2 := by
    rw [hW2]
    exact below_alloc0 (below_alloc0 (Below.refl _ _) _) _
  have hp2 : W2.heap[w.heap.size]? = some (.cells #[.int .i64 1, .int .u64 6481385041966929816, .int .u64 188021827762530521, .int .u64 6170039885052185351, .int .u64 8772561819708210092, .int .u64 11261198710074299576, .int .u64 18237243440184513561, .int .u64 6747795201694173352, .int .u64 5204712524664259685, .bool false, .int .u64 6481385041966929816, .int .u64 188021827762530521, .int .u64 6170039885052185351, .int .u64 8772561819708210092, .int .u64 11261198710074299576, .int .u64 18237243440184513561, .int .u64 6747795201694173352, .int .u64 5204712524664259685, .bool false] 28) := by
    rw [hW2]
    exact (Below.heap_alloc _ _ _ (by rw [hsz]; omega)).trans (World.alloc_heap_new w _)
  have hs2 : W2.heap[w.heap.size + 1]? = some (.cells #[.int .i64 0, .slice none 0 0] 34) := by
    have h := World.alloc_heap_new (w.alloc (.cells #[.int .i64 1, .int .u64 6481385041966929816, .int .u64 188021827762530521, .int .u64 6170039885052185351, .int .u64 8772561819708210092, .int .u64 11261198710074299576, .int .u64 18237243440184513561, .int .u64 6747795201694173352, .int .u64 5204712524664259685, .bool false, .int .u64 6481385041966929816, .int .u64 188021827762530521, .int .u64 6170039885052185351, .int .u64 8772561819708210092, .int .u64 11261198710074299576, .int .u64 18237243440184513561, .int .u64 6747795201694173352, .int .u64 5204712524664259685, .bool false] 28)) (.cells #[.int .i64 0, .slice none 0 0] 34)
    rw [hsz] at h
    rw [hW2]
    exact h
  have H2 : Hid (Below w.heap.size w W2 ∧ W2.heap[w.heap.size]? = some (.cells #[.int .i64 1, .int .u64 6481385041966929816, .int .u64 188021827762530521, .int .u64 6170039885052185351, .int .u64 8772561819708210092, .int .u64 11261198710074299576, .int .u64 18237243440184513561, .int .u64 6747795201694173352, .int .u64 5204712524664259685, .bool false, .int .u64 6481385041966929816, .int .u64 188021827762530521, .int .u64 6170039885052185351, .int .u64 8772561819708210092, .int .u64 11261198710074299576, .int .u64 18237243440184513561, .int .u64 6747795201694173352, .int .u64 5204712524664259685, .bool false] 28) ∧ W2.heap[w.heap.size + 1]? = some (.cells #[.int .i64 0, .slice none 0 0] 34) ∧ W2.heap.size = w.heap.size + 2 ∧ RO W2 r 0) := ⟨HB, hp2, hs2, by rw [hW2]; simp, hR.call HB⟩
  have HW : Hid (W2 = (w.alloc (.cells #[.int .i64 1, .int .u64 6481385041966929816, .int .u64 188021827762530521, .int .u64 6170039885052185351, .int .u64 8772561819708210092, .int .u64 11261198710074299576, .int .u64 18237243440184513561, .int .u64 6747795201694173352, .int .u64 5204712524664259685, .bool false, .int .u64 6481385041966929816, .int .u64 188021827762530521, .int .u64 6170039885052185351, .int .u64 8772561819708210092, .int .u64 11261198710074299576, .int .u64 18237243440184513561, .int .u64 6747795201694173352, .int .u64 5204712524664259685, .bool false] 28)).alloc (.cells #[.int .i64 0, .slice none 0 0] 34)) := hW2
  have HL : Hid ((loadVar 28 ⟨w.heap.size, 0, none⟩).run Tryz.prog W2 = .ok (.agg #[.int .i64 1, .int .u64 6481385041966929816, .int .u64 188021827762530521, .int .u64 6170039885052185351, .int .u64 8772561819708210092, .int .u64 11261198710074299576, .int .u64 18237243440184513561, .int .u64 6747795201694173352, .int .u64 5204712524664259685, .bool false, .int .u64 6481385041966929816, .int .u64 188021827762530521, .int .u64 6170039885052185351, .int .u64 8772561819708210092, .int .u64 11261198710074299576, .int .u64 18237243440184513561, .int .u64 6747795201694173352, .int .u64 5204712524664259685, .bool false]) W2) := run_loadVar_row (P := Tryz.prog) _ _ _ _ _ _ _ hp2 Tryz.underlying28 rfl (by kernel_rfl)
  have KB : Hid _ := Check_1 GP Gc K0
  have HG : Hid (GP (W2.alloc (.cells #[.int .i64 1, .int .u64 6481385041966929816, .int .u64 188021827762530521, .int .u64 6170039885052185351, .int .u64 8772561819708210092, .int .u64 11261198710074299576, .int .u64 18237243440184513561, .int .u64 6747795201694173352, .int .u64 5204712524664259685, .bool false, .int .u64 6481385041966929816, .int .u64 188021827762530521, .int .u64 6170039885052185351, .int .u64 8772561819708210092, .int .u64 11261198710074299576, .int .u64 18237243440184513561, .int .u64 6747795201694173352, .int .u64 5204712524664259685, .bool false] 28)) ∧ W2.heap.size < (W2.alloc (.cells #[.int .i64 1, .int .u64 6481385041966929816, .int .u64 188021827762530521, .int .u64 6170039885052185351, .int .u64 8772561819708210092, .int .u64 11261198710074299576, .int .u64 18237243440184513561, .int .u64 6747795201694173352, .int .u64 5204712524664259685, .bool false, .int .u64 6481385041966929816, .int .u64 188021827762530521, .int .u64 6170039885052185351, .int .u64 8772561819708210092, .int .u64 11261198710074299576, .int .u64 18237243440184513561, .int .u64 6747795201694173352, .int .u64 5204712524664259685, .bool false] 28)).heap.size) := ⟨Gc _ _ hG (below_alloc0 HB _), by simp⟩
  clear hsz HB hp2 hs2 hW2 hG hR K0
  go_enter Tryz.func14, Tryz.ntmps14
  go_upto_region 1 with fail
  rw [← HW.out]
  clear HW
  go_upto_region 5 with (first | ((with_reducible refine load_to (b := w.heap.size) (x := 3) ?_ ?_ ?_ HL.out ?_); rfl; rfl; rfl) | ((with_reducible refine wpl_bsP (cs := [.int .i64 1, .int .u64 6481385041966929816, .int .u64 188021827762530521, .int .u64 6170039885052185351, .int .u64 8772561819708210092, .int .u64 11261198710074299576, .int .u64 18237243440184513561, .int .u64 6747795201694173352, .int .u64 5204712524664259685, .bool false, .int .u64 6481385041966929816, .int .u64 188021827762530521, .int .u64 6170039885052185351, .int .u64 8772561819708210092, .int .u64 11261198710074299576, .int .u64 18237243440184513561, .int .u64 6747795201694173352, .int .u64 5204712524664259685, .bool false]) (x := 9) ?_ ?_ ?_ ?_ ?_); rfl; rfl; rfl; rfl))
  refine (KB.out _ _ HG.out.1 HG.out.2 (heap_alloc_last W2 _)).mono ?_
  clear KB HL HG
  rintro e w3 ⟨rfl, hb3⟩
  have hb2 : Below W2.heap.size W2 w3 := below_call0 (below_alloc0 (Below.refl _ _) _) hb3
  have HL3 : Hid (∀ wx, Below w3.heap.size w3 wx → (loadVar 28 ⟨w.heap.size, 0, none⟩).run Tryz.prog wx = .ok (.agg #[.int .i64 1, .int .u64 6481385041966929816, .int .u64 188021827762530521, .int .u64 6170039885052185351, .int .u64 8772561819708210092, .int .u64 11261198710074299576, .int .u64 18237243440184513561, .int .u64 6747795201694173352, .int .u64 5204712524664259685, .bool false, .int .u64 6481385041966929816, .int .u64 188021827762530521, .int .u64 6170039885052185351, .int .u64 8772561819708210092, .int .u64 11261198710074299576, .int .u64 18237243440184513561, .int .u64 6747795201694173352, .int .u64 5204712524664259685, .bool false]) wx) := fun wx hx => run_loadVar_row (P := Tryz.prog) _ _ _ _ _ _ _ ((hx.block _ (Nat.lt_of_lt_of_le (by rw [H2.out.2.2.2.1]; omega) hb2.size)).trans ((hb2.block _ (by rw [H2.out.2.2.2.1]; omega)).trans H2.out.2.1)) Tryz.underlying28 rfl (by kernel_rfl)
  have H3 : Hid (Below w.heap.size w w3 ∧ RO w3 r 0 ∧ w3.heap[w.heap.size]? = some (.cells #[.int .i64 1, .int .u64 6481385041966929816, .int .u64 188021827762530521, .int .u64 6170039885052185351, .int .u64 8772561819708210092, .int .u64 11261198710074299576, .int .u64 18237243440184513561, .int .u64 6747795201694173352, .int .u64 5204712524664259685, .bool false, .int .u64 6481385041966929816, .int .u64 188021827762530521, .int .u64 6170039885052185351, .int .u64 8772561819708210092, .int .u64 11261198710074299576, .int .u64 18237243440184513561, .int .u64 6747795201694173352, .int .u64 5204712524664259685, .bool false] 28) ∧ w3.heap[w.heap.size + 1]? = some (.cells #[.int .i64 0, .slice none 0 0] 34) ∧ w.heap.size + 2 ≤ w3.heap.size) := ⟨below_call0 H2.out.1 hb2, H2.out.2.2.2.2.call hb2, (hb2.block _ (by rw [H2.out.2.2.2.1]; omega)).trans H2.out.2.1, (hb2.block _ (by rw [H2.out.2.2.2.1]; omega)).trans H2.out.2.2.1, by rw [← H2.out.2.2.2.1]; exact hb2.size⟩
  clear hb3 hb2 H2
  go_upto_region 5 with fail
  have H5 : Hid (RO (w3.drew.setCells r 24 S1L) r 1 ∧ Off (fun k => k = r ∨ w.heap.size ≤ k) w (w3.drew.setCells r 24 S1L) ∧ (w3.drew.setCells r 24 S1L).heap[w.heap.size + 1]? = some (.cells #[.int .i64 0, .slice none 0 0] 34) ∧ w3.drew.there r 24 21) := by
    have hS : Below w3.heap.size w3 w3.drew := Below.drew (Below.refl _ _)
    have hx1 := H3.out.2.1.call hS
    refine ⟨hx1.put, (Off.of_below (below_call0 H3.out.1 hS) (fun _ hk => .inr hk)).trans ⟨(os_setCells r _ _ _).1, (os_setCells r _ _ _).2.1, (os_setCells r _ _ _).2.2, by rw [size_setCellsB]; exact Nat.le_refl _, fun k hk => heap_setCells r k (fun e => hk (.inl e)) _ _ _⟩, ?_, hx1.th⟩
    rw [heap_setCells r (w.heap.size + 1) (by have := HR.out; omega)]
    exact (hS.block _ (by have := H3.out.2.2.2.2; omega)).trans H3.out.2.2.2.1
  refine wp_region_N (fun w' => Below w3.heap.size w3 w') 8 9 rfl (by kernel_rfl) ?_
  refine wpAnyN_take (i := 0) (oi := ?o0) (v := ?v0) ?hi0 (by kernel_rfl) (by kernel_rfl) (by kernel_rfl) (by kernel_rfl) (by decide) (by kernel_rfl) ?hQ0 ?hy0 (Below.drew (Below.refl _ _)) ?more0
  case hi0 => rw [List.getElem?_toArray]; exact rfl
  case hQ0 => exact fun _ _ _ h => h
  case hy0 =>
    refine Or.inl ⟨by rfl, ?_⟩
    intro w' hSw
    have q0 : w'.cell? ⟨w.heap.size, 0, none⟩ = some (.int .i64 1) := (KpC.of_below hSw).cell H3.out.2.2.1 _ rfl
    clear hSw
    go_simp
    try with_reducible rfl
  simp only [Act.put, List.setIfInBounds_toArray, List.set_cons_zero, List.set_cons_succ]
  refine wpAnyN_take (i := 1) (oi := ?o1) (v := ?v1) ?hi1 (by kernel_rfl) (by kernel_rfl) (by kernel_rfl) (by kernel_rfl) (by decide) (by kernel_rfl) ?hQ1 ?hy1 (Below.drew (Below.refl _ _)) ?more1
  case hi1 => rw [List.getElem?_toArray]; exact rfl
  case hQ1 => exact fun _ _ _ h => h
  case hy1 =>
    refine Or.inl ⟨by rfl, ?_⟩
    intro w' hSw
    have q0 : w'.cell? ⟨w.heap.size, 0, none⟩ = some (.int .i64 1) := (KpC.of_below hSw).cell H3.out.2.2.1 _ rfl
    clear hSw
    go_simp
    try with_reducible rfl
  simp only [Act.put, List.setIfInBounds_toArray, List.set_cons_zero, List.set_cons_succ]
  refine wpAnyN_take (i := 2) (oi := ?o2) (v := ?v2) ?hi2 (by kernel_rfl) (by kernel_rfl) (by kernel_rfl) (by kernel_rfl) (by decide) (by kernel_rfl) ?hQ2 ?hy2 (Below.drew (Below.refl _ _)) ?more2
  case hi2 => rw [List.getElem?_toArray]; exact rfl
  case hQ2 => exact fun _ _ _ h => h
  case hy2 =>
    refine Or.inl ⟨by rfl, ?_⟩
    intro w' hSw
    have q0 : w'.cell? ⟨w.heap.size, 0, none⟩ = some (.int .i64 1) := (KpC.of_below hSw).cell H3.out.2.2.1 _ rfl
    clear hSw
    go_simp
    try with_reducible rfl
  simp only [Act.put, List.setIfInBounds_toArray, List.set_cons_zero, List.set_cons_succ]
  refine wpAnyN_take (i := 3) (oi := ?o3) (v := .agg #[.int .i64 1, .int .u64 6481385041966929816, .int .u64 188021827762530521, .int .u64 6170039885052185351, .int .u64 8772561819708210092, .int .u64 11261198710074299576, .int .u64 18237243440184513561, .int .u64 6747795201694173352, .int .u64 5204712524664259685, .bool false, .int .u64 6481385041966929816, .int .u64 188021827762530521, .int .u64 6170039885052185351, .int .u64 8772561819708210092, .int .u64 11261198710074299576, .int .u64 18237243440184513561, .int .u64 6747795201694173352, .int .u64 5204712524664259685, .bool false]) ?hi3 (by kernel_rfl) (by kernel_rfl) (by kernel_rfl) (by kernel_rfl) (by decide) (by kernel_rfl) ?hQ3 ?hy3 (Below.drew (Below.refl _ _)) ?more3
  case hi3 => rw [List.getElem?_toArray]; exact rfl
  case hQ3 => exact fun _ _ _ h => h
  case hy3 => exact Or.inl ⟨by rfl, fun w' hSw => exec_load (b := w.heap.size) (x := 3) rfl rfl (HL3.out w' hSw)⟩
  simp only [Act.put, List.setIfInBounds_toArray, List.set_cons_zero, List.set_cons_succ]
  refine wpAnyN_take (i := 4) (oi := ?o4) (v := ?v4) ?hi4 (by kernel_rfl) (by kernel_rfl) (by kernel_rfl) (by kernel_rfl) (by decide) (by kernel_rfl) ?hQ4 ?hy4 (Below.drew (Below.refl _ _)) ?more4
  case hi4 => rw [List.getElem?_toArray]; exact rfl
  case hQ4 => exact fun _ _ _ h => h
  case hy4 =>
    refine Or.inl ⟨by rfl, ?_⟩
    intro w' hSw
    have q0 : w'.cell? ⟨w.heap.size, 0, none⟩ = some (.int .i64 1) := (KpC.of_below hSw).cell H3.out.2.2.1 _ rfl
    clear hSw
    go_simp
    try with_reducible rfl
  simp only [Act.put, List.setIfInBounds_toArray, List.set_cons_zero, List.set_cons_succ]
  refine wpAnyN_takeF (i := 5) (oi := ?o5) (v := ?v5) ?hi5 (by kernel_rfl) (by kernel_rfl) (by kernel_rfl) (by decide) ?hQ5 ?hy5 (Below.drew (Below.refl _ _)) ?more5
  case hi5 => rw [List.getElem?_toArray]; exact rfl
  case hQ5 => exact fun _ _ _ h => h
  case hy5 =>
    refine Or.inl ⟨by rfl, ?_⟩
    intro w' hSw
    clear hSw
    go_simp
    try with_reducible rfl
  simp only [Act.put, List.setIfInBounds_toArray, List.set_cons_zero, List.set_cons_succ]
  refine wpAnyN_takeF (i := 6) (oi := ?o6) (v := ?v6) ?hi6 (by kernel_rfl) (by kernel_rfl) (by kernel_rfl) (by decide) ?hQ6 ?hy6 (Below.drew (Below.refl _ _)) ?more6
  case hi6 => rw [List.getElem?_toArray]; exact rfl
  case hQ6 => exact fun _ _ _ h => h
  case hy6 =>
    refine Or.inl ⟨by rfl, ?_⟩
    intro w' hSw
    clear hSw
    go_simp
    try with_reducible rfl
  simp only [Act.put, List.setIfInBounds_toArray, List.set_cons_zero, List.set_cons_succ]
  refine wpAnyN_take (i := 7) (oi := ?o7) (v := ?v7) ?hi7 (by kernel_rfl) (by kernel_rfl) (by kernel_rfl) (by kernel_rfl) (by decide) (by kernel_rfl) ?hQ7 ?hy7 (Below.drew (Below.refl _ _)) ?more7
  case hi7 => rw [List.getElem?_toArray]; exact rfl
  case hQ7 => exact fun _ _ _ h => h
  case hy7 =>
    refine Or.inl ⟨by rfl, ?_⟩
    intro w' hSw
    have q0 : w'.cell? ⟨w.heap.size, 0, none⟩ = some (.int .i64 1) := (KpC.of_below hSw).cell H3.out.2.2.1 _ rfl
    clear hSw
    go_simp
    try with_reducible rfl
  simp only [Act.put, List.setIfInBounds_toArray, List.set_cons_zero, List.set_cons_succ]
  refine wpAnyN_one (i := 8) (o := ?o8) (by kernel_rfl) ?hi8 ?hw8 ?st8
  case hi8 => rw [List.getElem?_toArray]; exact rfl
  case hw8 => exact rfl
  intro K hK
  have HK8 : Hid _ := hK
  clear hK
  refine wp_store_mid 52 (.tmp 30) (.tmp 27) rfl r 24 #[.int .i64 1, .int .i64 1, .int .u64 6481385041966929816, .int .u64 188021827762530521, .int .u64 6170039885052185351, .int .u64 8772561819708210092, .int .u64 11261198710074299576, .int .u64 18237243440184513561, .int .u64 6747795201694173352, .int .u64 5204712524664259685, .bool false, .int .u64 6481385041966929816, .int .u64 188021827762530521, .int .u64 6170039885052185351, .int .u64 8772561819708210092, .int .u64 11261198710074299576, .int .u64 18237243440184513561, .int .u64 6747795201694173352, .int .u64 5204712524664259685, .bool false, .int .i64 0] rfl rfl H5.out.2.2.2 (by kernel_rfl) (by kernel_rfl) ?_
  refine HK8.out _ _ ⟨fun h => absurd h (by decide +kernel), ?_⟩
  clear HK8 K
  simp only [Act.put]
  refine wpAnyN_done (by kernel_rfl) ?_ _
  obtain ⟨W5, hW5⟩ : ∃ W5, W5 = w3.drew.setCells r 24 S1L := ⟨_, rfl⟩
  have HW5 : Hid (W5 = w3.drew.setCells r 24 (Array.toList #[.int .i64 1, .int .i64 1, .int .u64 6481385041966929816, .int .u64 188021827762530521, .int .u64 6170039885052185351, .int .u64 8772561819708210092, .int .u64 11261198710074299576, .int .u64 18237243440184513561, .int .u64 6747795201694173352, .int .u64 5204712524664259685, .bool false, .int .u64 6481385041966929816, .int .u64 188021827762530521, .int .u64 6170039885052185351, .int .u64 8772561819708210092, .int .u64 11261198710074299576, .int .u64 18237243440184513561, .int .u64 6747795201694173352, .int .u64 5204712524664259685, .bool false, .int .i64 0])) := hW5
  rw [← hW5] at H5
  rw [← HW5.out]
  clear HW5 hW5 H3 HL3
  go_wp2_with fail
  refine (KT.out W5 H5.out.1.lt H5.out.1.st).mono ?_
  rintro e w6 ⟨⟨sa, scap, rfl⟩, hb6⟩
  have H6 : Hid (RO w6 r 1 ∧ Off (fun k => k = r ∨ w.heap.size ≤ k) w w6 ∧ w6.heap[w.heap.size + 1]? = some (.cells #[.int .i64 0, .slice none 0 0] 34)) := ⟨H5.out.1.call hb6, H5.out.2.1.trans (Off.of_below hb6 (fun _ hk => .inr (Nat.le_trans H5.out.2.1.size hk))), (hb6.block _ (Array.getElem?_eq_some_iff.1 H5.out.2.2.1).1).trans H5.out.2.2.1⟩
  clear hb6 H5 KT
  have c1 := H6.out.1.c1
  have hst : Hid ((storeVar 34 ⟨w.heap.size + 1, 0, none⟩ (.agg #[.int .i64 0, .slice none 0 0])).run Tryz.prog w6 = .ok () w6) := store_same H6.out.2.2
  go_wp2_with ((with_reducible refine store_to (b := w.heap.size + 1) (x := 4) (y := 40) ?_ ?_ ?_ ?_ hst.out ?_); rfl; rfl; rfl; rfl)
  have hld : (loadVar 34 ⟨w.heap.size + 1, 0, none⟩).run Tryz.prog w6 = .ok (.agg #[.int .i64 0, .slice none 0 0]) w6 := run_loadVar_row (P := Tryz.prog) _ _ _ _ _ _ _ H6.out.2.2 Tryz.underlying34 rfl (by kernel_rfl)
  refine bodyPost_ret (v := .tuple #[.agg #[.int .i64 0, .slice none 0 0], .bool false, .int .i64 0]) ?_ rfl ⟨rfl, H6.out.1, H6.out.2.1⟩
  simp [results, Tryz.results14, asAddr, hld]
end Go.Proofs.YtlebhdckgcjacaaGreatDoor
