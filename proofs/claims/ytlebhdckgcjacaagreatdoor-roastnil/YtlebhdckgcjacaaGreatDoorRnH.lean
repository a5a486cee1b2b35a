/- Package bind: the iterator of one pair's points. -/
import Derived.Test.YtlebhdckgcjacaaGreatDoorRnF
import Derived.RangeFuncNested
import Derived.RangeFuncBound
import Derived.RangeFuncCalls
import Derived.RangeFuncLeaves
import Derived.OwnWalkIn
import Derived.Shelf.Abstract
import Derived.Shelf.RegionOpen
import Derived.WalkKit
import Derived.TacticsInMore
import Derived.LoopNIn
import Derived.LoopIn
import Derived.Sort.CutIn
namespace Go.Proofs.YtlebhdckgcjacaaGreatDoor
open Go Go.RowKit Go.Lib Go.Shelf
attribute [local go_sem] Oper.semAt_some
theorem store_in {F : Fence} {n : Nat} {ops : Array Oper} {rest : List Oper} {o : Oper} {a : Act} {w w' : World} {Q : Exit → Act → World → Prop} {b x y : Nat} {ty : TypeId} {vs : Array Value} (hgd : o.guard = none) (ho : o.op = .store ty (.tmp x) (.tmp y))
    (hx : a.eval (.tmp x) = .pointer (some ⟨b, 0, none⟩)) (hy : a.eval (.tmp y) = .agg vs) (hs : (storeVar ty ⟨b, 0, none⟩ (.agg vs)).run Tryz.prog w = .ok () w')
    (h : wpListIn F n Tryz.prog ops Q rest (a.put o.dst undef) w') : wpListIn F n Tryz.prog ops Q (o :: rest) a w :=
  wpListIn_plain hgd fun _ hK => by
    unfold Oper.wpIn
    refine ⟨?_, ?_⟩
    · simp [Oper.about, ho]
    · rw [Oper.semAt_plain F _ _ (by rw [ho]; intro c hc'; cases hc')]
      unfold execOp
      simp only [ho, hx, hy, Instr.storeAt, Instr.sureAddr, Sem.run_bind, Sem.run_pure, Result.andThen_ok, hs]
      exact hK _ _ h
theorem load_in {F : Fence} {n : Nat} {ops : Array Oper} {rest : List Oper} {o : Oper} {a : Act} {w : World} {Q : Exit → Act → World → Prop} {b x : Nat} {ty : TypeId} {vs : Array Value} (hw : Region.wanted o (yielded ops a.tmps) = true) (ho : o.op = .load ty (.tmp x))
    (hx : a.eval (.tmp x) = .pointer (some ⟨b, 0, none⟩)) (hs : (loadVar ty ⟨b, 0, none⟩).run Tryz.prog w = .ok (.agg vs) w)
    (h : wpListIn F n Tryz.prog ops Q rest (a.put o.dst (.agg vs)) w) : wpListIn F n Tryz.prog ops Q (o :: rest) a w :=
  BigFrame.wpListIn_want hw fun _ hK => by
    unfold Oper.wpIn
    refine ⟨?_, ?_⟩
    · simp [Oper.about, ho]
    · rw [Oper.semAt_plain F _ _ (by rw [ho]; intro c hc'; cases hc')]
      unfold execOp
      simp only [ho, hx, Instr.loadAt, Instr.sureAddr, Sem.run_bind, Sem.run_pure, Result.andThen_ok, hs]
      exact hK _ _ h
/-- Whatever cells lay lie as they lay. -/
def KpC (A B : World) : Prop := A.heap.size ≤ B.heap.size ∧ ∀ (k : Nat) (o : Obj), A.heap[k]? = some o → o.isCells = true → B.heap[k]? = some o
theorem KpC.trans {A B C : World} (h : KpC A B) (k : KpC B C) : KpC A C := ⟨Nat.le_trans h.1 k.1, fun i o hi ho => k.2 i o (h.2 i o hi ho) ho⟩
theorem KpC.put {w : World} (W : World) (l : Nat) (o o' : Obj) (_ : w.heap.size ≤ l) (h : W.heap[l]? = some o) (hc : o.isCells = false) (_ : o.isWalk = false) : KpC W (W.putObj l o') := by
  refine ⟨(grownBy_putObj' W l o').size, fun i u hi hu => ?_⟩
  rw [World.putObj_heap_other (k := i) (by rintro rfl; rw [h] at hi; cases hi; rw [hc] at hu; cases hu)]
  exact hi
theorem KpC.of_below {A B : World} (h : Below A.heap.size A B) : KpC A B := ⟨h.size, fun i _ hi _ => (h.block i (Array.getElem?_eq_some_iff.1 hi).1).trans hi⟩
theorem KpC.cell {A B : World} (h : KpC A B) {b j : Nat} {cs : Array Value} {t : TypeId} (hb : A.heap[b]? = some (.cells cs t)) (v : Value) (hv : cs[j]? = some v) : B.cell? ⟨b, j, none⟩ = some v := by
  have h2 := h.2 b _ hb rfl
  simp [World.cell?, h2, hv]
set_option maxRecDepth 100000 in
set_option maxHeartbeats 4000000 in
theorem points1_stops (F : Fence) (n : Nat) (h6 : F.fn 50) (hro : F.round = none) (hn : 1 ≤ n) (c b : Nat) (w : World) (hlc : c < w.heap.size) (hlb : b < w.heap.size)
    (hc : w.cell? ⟨c, 0, none⟩ = some (.slice (some ⟨b, 0, none⟩) 1 1)) (hb : w.heap[b]? = some (.cells #[.int .i64 1, .int .u64 6481385041966929816, .int .u64 188021827762530521, .int .u64 6170039885052185351, .int .u64 8772561819708210092, .int .u64 11261198710074299576, .int .u64 18237243440184513561, .int .u64 6747795201694173352, .int .u64 5204712524664259685, .bool false, .int .u64 6481385041966929816, .int .u64 188021827762530521, .int .u64 6170039885052185351, .int .u64 8772561819708210092, .int .u64 11261198710074299576, .int .u64 18237243440184513561, .int .u64 6747795201694173352, .int .u64 5204712524664259685, .bool false] 28)) :
    SeqStopsK F n Tryz.prog 50 #[.pointer (some ⟨c, 0, none⟩)] (fun _ : Unit => #[Value.agg #[.int .u64 6481385041966929816, .int .u64 188021827762530521, .int .u64 6170039885052185351, .int .u64 8772561819708210092, .int .u64 11261198710074299576, .int .u64 18237243440184513561, .int .u64 6747795201694173352, .int .u64 5204712524664259685, .bool false]]) KpC (fun ys => ys = [(), ()]) (fun pre => pre <+: [(), ()]) 2 w := by
  intro l J Jx W hW hJ hJx hY h0
  have HJ : Hid (AbidesFrom W.heap.size J) := hJ
  have HY : Hid _ := hY
  have H0 : Hid (W.cell? ⟨c, 0, none⟩ = some (.slice (some ⟨b, 0, none⟩) 1 1) ∧ W.heap[b]? = some (.cells #[.int .i64 1, .int .u64 6481385041966929816, .int .u64 188021827762530521, .int .u64 6170039885052185351, .int .u64 8772561819708210092, .int .u64 11261198710074299576, .int .u64 18237243440184513561, .int .u64 6747795201694173352, .int .u64 5204712524664259685, .bool false, .int .u64 6481385041966929816, .int .u64 188021827762530521, .int .u64 6170039885052185351, .int .u64 8772561819708210092, .int .u64 11261198710074299576, .int .u64 18237243440184513561, .int .u64 6747795201694173352, .int .u64 5204712524664259685, .bool false] 28) ∧ b < W.heap.size) := ⟨(hW.cell (p := ⟨c, 0, none⟩) hlc).trans hc, (hW.block b hlb).trans hb, Nat.lt_of_lt_of_le hlb hW.size⟩
  clear hJ hJx hY hc hb
  refine callsIn_of_wp Tryz.func50 rfl h6 ?_ hro
  simp only [Tryz.ntmps50, List.size_toArray, List.length_cons, List.length_nil, Nat.reduceAdd, Nat.reduceSub, Array.replicate_succ, Array.replicate_zero, List.push_toArray, List.append_toArray, List.nil_append, List.cons_append]
  have c0 := H0.out.1
  gi_wp2
  gi_loopw [7] (fun p wr => ∃ i : Nat, i ≤ 1 ∧ p = .int .i64 (i : Nat) ∧ (if i = 0 then wr = W else J [(), ()] wr)) (fun p wr => 1 - (Go.RowKit.intOf p).toNat)
  case atStart => exact ⟨0, by decide, rfl, rfl⟩
  case round =>
    obtain ⟨i, hi, rfl, hJs⟩ := hrel
    rcases (show i = 0 ∨ i = 1 by omega) with rfl | rfl
    · simp only [if_true] at hJs
      subst hJs
      have HL : Hid ((loadVar 28 ⟨b, 0, none⟩).run Tryz.prog wr = .ok (.agg #[.int .i64 1, .int .u64 6481385041966929816, .int .u64 188021827762530521, .int .u64 6170039885052185351, .int .u64 8772561819708210092, .int .u64 11261198710074299576, .int .u64 18237243440184513561, .int .u64 6747795201694173352, .int .u64 5204712524664259685, .bool false, .int .u64 6481385041966929816, .int .u64 188021827762530521, .int .u64 6170039885052185351, .int .u64 8772561819708210092, .int .u64 11261198710074299576, .int .u64 18237243440184513561, .int .u64 6747795201694173352, .int .u64 5204712524664259685, .bool false]) wr) := run_loadVar_row (P := Tryz.prog) _ _ _ _ _ _ _ H0.out.2.1 Tryz.underlying28 rfl (by kernel_rfl)
      have HS : Hid ((storeVar 28 ⟨wr.heap.size, 0, none⟩ (.agg #[.int .i64 1, .int .u64 6481385041966929816, .int .u64 188021827762530521, .int .u64 6170039885052185351, .int .u64 8772561819708210092, .int .u64 11261198710074299576, .int .u64 18237243440184513561, .int .u64 6747795201694173352, .int .u64 5204712524664259685, .bool false, .int .u64 6481385041966929816, .int .u64 188021827762530521, .int .u64 6170039885052185351, .int .u64 8772561819708210092, .int .u64 11261198710074299576, .int .u64 18237243440184513561, .int .u64 6747795201694173352, .int .u64 5204712524664259685, .bool false])).run Tryz.prog (wr.alloc (.cells #[.int .i64 0, .int .u64 0, .int .u64 0, .int .u64 0, .int .u64 0, .int .u64 0, .int .u64 0, .int .u64 0, .int .u64 0, .bool false, .int .u64 0, .int .u64 0, .int .u64 0, .int .u64 0, .int .u64 0, .int .u64 0, .int .u64 0, .int .u64 0, .bool false] 28)) = .ok () (wr.alloc (.cells #[.int .i64 1, .int .u64 6481385041966929816, .int .u64 188021827762530521, .int .u64 6170039885052185351, .int .u64 8772561819708210092, .int .u64 11261198710074299576, .int .u64 18237243440184513561, .int .u64 6747795201694173352, .int .u64 5204712524664259685, .bool false, .int .u64 6481385041966929816, .int .u64 188021827762530521, .int .u64 6170039885052185351, .int .u64 8772561819708210092, .int .u64 11261198710074299576, .int .u64 18237243440184513561, .int .u64 6747795201694173352, .int .u64 5204712524664259685, .bool false] 28))) := run_storeVar_new wr 28 #[.int .i64 0, .int .u64 0, .int .u64 0, .int .u64 0, .int .u64 0, .int .u64 0, .int .u64 0, .int .u64 0, .int .u64 0, .bool false, .int .u64 0, .int .u64 0, .int .u64 0, .int .u64 0, .int .u64 0, .int .u64 0, .int .u64 0, .int .u64 0, .bool false] #[.int .i64 1, .int .u64 6481385041966929816, .int .u64 188021827762530521, .int .u64 6170039885052185351, .int .u64 8772561819708210092, .int .u64 11261198710074299576, .int .u64 18237243440184513561, .int .u64 6747795201694173352, .int .u64 5204712524664259685, .bool false, .int .u64 6481385041966929816, .int .u64 188021827762530521, .int .u64 6170039885052185351, .int .u64 8772561819708210092, .int .u64 11261198710074299576, .int .u64 18237243440184513561, .int .u64 6747795201694173352, .int .u64 5204712524664259685, .bool false] (by kernel_rfl) rfl (by kernel_rfl)
      have HP : Hid ((wr.alloc (.cells #[.int .i64 1, .int .u64 6481385041966929816, .int .u64 188021827762530521, .int .u64 6170039885052185351, .int .u64 8772561819708210092, .int .u64 11261198710074299576, .int .u64 18237243440184513561, .int .u64 6747795201694173352, .int .u64 5204712524664259685, .bool false, .int .u64 6481385041966929816, .int .u64 188021827762530521, .int .u64 6170039885052185351, .int .u64 8772561819708210092, .int .u64 11261198710074299576, .int .u64 18237243440184513561, .int .u64 6747795201694173352, .int .u64 5204712524664259685, .bool false] 28)).heap[wr.heap.size]? = some (.cells #[.int .i64 1, .int .u64 6481385041966929816, .int .u64 188021827762530521, .int .u64 6170039885052185351, .int .u64 8772561819708210092, .int .u64 11261198710074299576, .int .u64 18237243440184513561, .int .u64 6747795201694173352, .int .u64 5204712524664259685, .bool false, .int .u64 6481385041966929816, .int .u64 188021827762530521, .int .u64 6170039885052185351, .int .u64 8772561819708210092, .int .u64 11261198710074299576, .int .u64 18237243440184513561, .int .u64 6747795201694173352, .int .u64 5204712524664259685, .bool false] 28) ∧ J [] (wr.alloc (.cells #[.int .i64 1, .int .u64 6481385041966929816, .int .u64 188021827762530521, .int .u64 6170039885052185351, .int .u64 8772561819708210092, .int .u64 11261198710074299576, .int .u64 18237243440184513561, .int .u64 6747795201694173352, .int .u64 5204712524664259685, .bool false, .int .u64 6481385041966929816, .int .u64 188021827762530521, .int .u64 6170039885052185351, .int .u64 8772561819708210092, .int .u64 11261198710074299576, .int .u64 18237243440184513561, .int .u64 6747795201694173352, .int .u64 5204712524664259685, .bool false] 28))) := ⟨heap_alloc_last wr _, HJ.out _ _ _ none h0 (World.grownBy_alloc wr _ none) (fun r e => by cases e)⟩
      obtain ⟨W3, hW3⟩ : ∃ W3, W3 = wr.alloc (.cells #[.int .i64 1, .int .u64 6481385041966929816, .int .u64 188021827762530521, .int .u64 6170039885052185351, .int .u64 8772561819708210092, .int .u64 11261198710074299576, .int .u64 18237243440184513561, .int .u64 6747795201694173352, .int .u64 5204712524664259685, .bool false, .int .u64 6481385041966929816, .int .u64 188021827762530521, .int .u64 6170039885052185351, .int .u64 8772561819708210092, .int .u64 11261198710074299576, .int .u64 18237243440184513561, .int .u64 6747795201694173352, .int .u64 5204712524664259685, .bool false] 28) := ⟨_, rfl⟩
      obtain ⟨K, hK⟩ : ∃ K, K = wr.heap.size := ⟨_, rfl⟩
      rw [← hW3] at HS HP
      rw [← hK] at HP
      have HK : Hid (K = wr.heap.size ∧ W3 = wr.alloc (.cells #[.int .i64 1, .int .u64 6481385041966929816, .int .u64 188021827762530521, .int .u64 6170039885052185351, .int .u64 8772561819708210092, .int .u64 11261198710074299576, .int .u64 18237243440184513561, .int .u64 6747795201694173352, .int .u64 5204712524664259685, .bool false, .int .u64 6481385041966929816, .int .u64 188021827762530521, .int .u64 6170039885052185351, .int .u64 8772561819708210092, .int .u64 11261198710074299576, .int .u64 18237243440184513561, .int .u64 6747795201694173352, .int .u64 5204712524664259685, .bool false] 28)) := ⟨hK, hW3⟩
      clear hK hW3 h0 hW
      gi_upto_region 3 with (first | ((with_reducible refine load_in (b := b) (x := 9) ?_ ?_ ?_ HL.out ?_); rfl; rfl; rfl) | ((with_reducible refine store_in (b := wr.heap.size) (x := 4) (y := 10) ?_ ?_ ?_ ?_ HS.out ?_); rfl; rfl; rfl; rfl))
      rw [← HK.out.1]
      clear HL HS HK
      obtain ⟨fn, tmps, assign, body, hy, hR⟩ := HY.out [] () W3 HP.out.2 (by decide)
      have f1 : W3.cell? ⟨K, 1, none⟩ = some (.int .u64 6481385041966929816) := (KpC.of_below (Below.refl _ W3)).cell HP.out.1 _ rfl
      have f2 : W3.cell? ⟨K, 2, none⟩ = some (.int .u64 188021827762530521) := (KpC.of_below (Below.refl _ W3)).cell HP.out.1 _ rfl
      have f3 : W3.cell? ⟨K, 3, none⟩ = some (.int .u64 6170039885052185351) := (KpC.of_below (Below.refl _ W3)).cell HP.out.1 _ rfl
      have f4 : W3.cell? ⟨K, 4, none⟩ = some (.int .u64 8772561819708210092) := (KpC.of_below (Below.refl _ W3)).cell HP.out.1 _ rfl
      have f5 : W3.cell? ⟨K, 5, none⟩ = some (.int .u64 11261198710074299576) := (KpC.of_below (Below.refl _ W3)).cell HP.out.1 _ rfl
      have f6 : W3.cell? ⟨K, 6, none⟩ = some (.int .u64 18237243440184513561) := (KpC.of_below (Below.refl _ W3)).cell HP.out.1 _ rfl
      have f7 : W3.cell? ⟨K, 7, none⟩ = some (.int .u64 6747795201694173352) := (KpC.of_below (Below.refl _ W3)).cell HP.out.1 _ rfl
      have f8 : W3.cell? ⟨K, 8, none⟩ = some (.int .u64 5204712524664259685) := (KpC.of_below (Below.refl _ W3)).cell HP.out.1 _ rfl
      have f9 : W3.cell? ⟨K, 9, none⟩ = some (.bool false) := (KpC.of_below (Below.refl _ W3)).cell HP.out.1 _ rfl
      have f10 : W3.cell? ⟨K, 10, none⟩ = some (.int .u64 6481385041966929816) := (KpC.of_below (Below.refl _ W3)).cell HP.out.1 _ rfl
      have f11 : W3.cell? ⟨K, 11, none⟩ = some (.int .u64 188021827762530521) := (KpC.of_below (Below.refl _ W3)).cell HP.out.1 _ rfl
      have f12 : W3.cell? ⟨K, 12, none⟩ = some (.int .u64 6170039885052185351) := (KpC.of_below (Below.refl _ W3)).cell HP.out.1 _ rfl
      have f13 : W3.cell? ⟨K, 13, none⟩ = some (.int .u64 8772561819708210092) := (KpC.of_below (Below.refl _ W3)).cell HP.out.1 _ rfl
      have f14 : W3.cell? ⟨K, 14, none⟩ = some (.int .u64 11261198710074299576) := (KpC.of_below (Below.refl _ W3)).cell HP.out.1 _ rfl
      have f15 : W3.cell? ⟨K, 15, none⟩ = some (.int .u64 18237243440184513561) := (KpC.of_below (Below.refl _ W3)).cell HP.out.1 _ rfl
      have f16 : W3.cell? ⟨K, 16, none⟩ = some (.int .u64 6747795201694173352) := (KpC.of_below (Below.refl _ W3)).cell HP.out.1 _ rfl
      have f17 : W3.cell? ⟨K, 17, none⟩ = some (.int .u64 5204712524664259685) := (KpC.of_below (Below.refl _ W3)).cell HP.out.1 _ rfl
      have f18 : W3.cell? ⟨K, 18, none⟩ = some (.bool false) := (KpC.of_below (Below.refl _ W3)).cell HP.out.1 _ rfl
      gi_wp2
      refine hR.mono ?_
      clear hR hy
      rintro e W4 (⟨rfl, hJ4, hk4⟩ | ⟨rfl, hJx⟩)
      · have HK4 : Hid (KpC W3 W4) := hk4
        clear hk4 f1 f2 f3 f4 f5 f6 f7 f8 f9 f10 f11 f12 f13 f14 f15 f16 f17 f18
        obtain ⟨fn2, tmps2, assign2, body2, hy2, hR2⟩ := HY.out [()] () W4 hJ4 (by decide)
        have f1 : W4.cell? ⟨K, 1, none⟩ = some (.int .u64 6481385041966929816) := HK4.out.cell HP.out.1 _ rfl
        have f2 : W4.cell? ⟨K, 2, none⟩ = some (.int .u64 188021827762530521) := HK4.out.cell HP.out.1 _ rfl
        have f3 : W4.cell? ⟨K, 3, none⟩ = some (.int .u64 6170039885052185351) := HK4.out.cell HP.out.1 _ rfl
        have f4 : W4.cell? ⟨K, 4, none⟩ = some (.int .u64 8772561819708210092) := HK4.out.cell HP.out.1 _ rfl
        have f5 : W4.cell? ⟨K, 5, none⟩ = some (.int .u64 11261198710074299576) := HK4.out.cell HP.out.1 _ rfl
        have f6 : W4.cell? ⟨K, 6, none⟩ = some (.int .u64 18237243440184513561) := HK4.out.cell HP.out.1 _ rfl
        have f7 : W4.cell? ⟨K, 7, none⟩ = some (.int .u64 6747795201694173352) := HK4.out.cell HP.out.1 _ rfl
        have f8 : W4.cell? ⟨K, 8, none⟩ = some (.int .u64 5204712524664259685) := HK4.out.cell HP.out.1 _ rfl
        have f9 : W4.cell? ⟨K, 9, none⟩ = some (.bool false) := HK4.out.cell HP.out.1 _ rfl
        have f10 : W4.cell? ⟨K, 10, none⟩ = some (.int .u64 6481385041966929816) := HK4.out.cell HP.out.1 _ rfl
        have f11 : W4.cell? ⟨K, 11, none⟩ = some (.int .u64 188021827762530521) := HK4.out.cell HP.out.1 _ rfl
        have f12 : W4.cell? ⟨K, 12, none⟩ = some (.int .u64 6170039885052185351) := HK4.out.cell HP.out.1 _ rfl
        have f13 : W4.cell? ⟨K, 13, none⟩ = some (.int .u64 8772561819708210092) := HK4.out.cell HP.out.1 _ rfl
        have f14 : W4.cell? ⟨K, 14, none⟩ = some (.int .u64 11261198710074299576) := HK4.out.cell HP.out.1 _ rfl
        have f15 : W4.cell? ⟨K, 15, none⟩ = some (.int .u64 18237243440184513561) := HK4.out.cell HP.out.1 _ rfl
        have f16 : W4.cell? ⟨K, 16, none⟩ = some (.int .u64 6747795201694173352) := HK4.out.cell HP.out.1 _ rfl
        have f17 : W4.cell? ⟨K, 17, none⟩ = some (.int .u64 5204712524664259685) := HK4.out.cell HP.out.1 _ rfl
        have f18 : W4.cell? ⟨K, 18, none⟩ = some (.bool false) := HK4.out.cell HP.out.1 _ rfl
        gi_wp2
        refine hR2.mono ?_
        clear hR2 hy2
        rintro e W5 (⟨rfl, hJ5, hk5⟩ | ⟨rfl, hJx⟩)
        · gi_wp2
          go_roundw
          case rel => exact ⟨1, by decide, rfl, by simpa using hJ5⟩
          case measure => simp [Go.RowKit.intOf]
        · gi_wp2
          refine bodyPost_ret (results_none rfl _ _ _) rfl ?_
          exact ⟨⟨_, rfl⟩, .inr ⟨[(), ()], List.prefix_refl _, hJx⟩⟩
      · gi_wp2
        refine ⟨fun _ h => (by cases h), ?_⟩
        gi_wp2
        refine bodyPost_ret (results_none rfl _ _ _) rfl ?_
        exact ⟨⟨_, rfl⟩, .inr ⟨[()], ⟨[()], rfl⟩, hJx⟩⟩
    · simp only [Nat.succ_ne_zero, if_false] at hJs
      gi_wp2
      go_end0
      exact ⟨⟨_, rfl⟩, .inl ⟨_, rfl, hJs⟩⟩
end Go.Proofs.YtlebhdckgcjacaaGreatDoor
