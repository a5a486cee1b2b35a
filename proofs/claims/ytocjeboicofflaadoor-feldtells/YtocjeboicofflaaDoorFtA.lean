/- Package feld: isCount; Commit's closure. -/
import Derived.Test.YtocjeboicofflaaDoorCvSu
import Derived.Test.YtocjeboicofflaaDoorGnA
import Derived.BigFrame
import Derived.Deep.WholeRow
import Derived.Deep.MidRow
import Derived.Laws.CopyRow
namespace Go.Proofs.YtocjeboicofflaaDoor
open Go Go.RowKit Go.Lib
theorem store_to {ops : Array Oper} {rest : List Oper} {o : Oper} {a : Act} {w w' : World} {Q : Exit → Act → World → Prop} {b k x y : Nat} {ty : TypeId} {vs : Array Value} (hgd : o.guard = none) (ho : o.op = .store ty (.tmp x) (.tmp y))
    (hx : a.eval (.tmp x) = .pointer (some ⟨b, k, none⟩)) (hy : a.eval (.tmp y) = .agg vs) (hs : (storeVar ty ⟨b, k, none⟩ (.agg vs)).run Tryd.prog w = .ok () w')
    (h : wpList Tryd.prog ops Q rest (a.put o.dst undef) w') : wpList Tryd.prog ops Q (o :: rest) a w :=
  wpList_plain hgd fun _ hK => by
    unfold Oper.wp execOp
    simp only [ho, hx, hy, Instr.storeAt, Instr.sureAddr, Sem.run_bind, Sem.run_pure, Result.andThen_ok, hs]
    exact hK _ _ h
theorem load_to {ops : Array Oper} {rest : List Oper} {o : Oper} {a : Act} {w : World} {Q : Exit → Act → World → Prop} {b k x : Nat} {ty : TypeId} {vs : Array Value} (hw : Region.wanted o (yielded ops a.tmps) = true) (ho : o.op = .load ty (.tmp x))
    (hx : a.eval (.tmp x) = .pointer (some ⟨b, k, none⟩)) (hs : (loadVar ty ⟨b, k, none⟩).run Tryd.prog w = .ok (.agg vs) w)
    (h : wpList Tryd.prog ops Q rest (a.put o.dst (.agg vs)) w) : wpList Tryd.prog ops Q (o :: rest) a w :=
  BigFrame.wpList_want hw fun _ hK => by
    unfold Oper.wp execOp
    simp only [ho, hx, Instr.loadAt, Instr.sureAddr, Sem.run_bind, Sem.run_pure, Result.andThen_ok, hs]
    exact hK _ _ h
/-- A whole block: what it holds; a store of it, a load of it. -/
def Bl (w : World) (b : Nat) (vs : List Value) (t : TypeId) : Prop := w.heap[b]? = some (.cells vs.toArray t)
theorem Bl.lt {w : World} {b : Nat} {vs : List Value} {t : TypeId} (h : Bl w b vs t) : b < w.heap.size := (Array.getElem?_eq_some_iff.1 h).1
theorem Bl.call {w w' : World} {b : Nat} {vs : List Value} {t : TypeId} (h : Bl w b vs t) (hb : Below w.heap.size w w') : Bl w' b vs t := (hb.block b h.lt).trans h
theorem Bl.new (w : World) (vs : List Value) (t : TypeId) : Bl (w.alloc (.cells vs.toArray t)) w.heap.size vs t := heap_alloc_last w _
theorem Bl.load {w : World} {b : Nat} {vs : List Value} {t : TypeId} {d : TypeDesc} (h : Bl w b vs t) (hu : Tryd.prog.underlying t = some d) (hd : d.isRow = true) (hi : (Tryd.prog.info? t).map (·.size) = some vs.length) : (loadVar t ⟨b, 0, none⟩).run Tryd.prog w = .ok (.agg vs.toArray) w :=
  run_loadVar_mid w b 0 t vs d (fun j v hv => by
    have h' : w.heap[b]? = some (.cells vs.toArray t) := h
    rw [Nat.zero_add]
    simpa [World.cell?, h'] using hv) hu hd hi
/-- What a store of a whole block leaves. -/
def Blp (w : World) (b : Nat) (vs : List Value) (w' : World) : Prop := w' = w.setRow b vs.toArray
theorem Bl.store {w : World} {b : Nat} {vs us : List Value} {t : TypeId} (h : Bl w b vs t) (hi : (Tryd.prog.info? t).map (·.size) = some us.length) (hl : vs.length = us.length) (h1 : us.toArray.all (·.oneCell') = true) :
    (storeVar t ⟨b, 0, none⟩ (.agg us.toArray)).run Tryd.prog w = .ok () (w.setRow b us.toArray) :=
  run_storeVar_row w b t t vs.toArray us.toArray h (by simpa using hi) (by simpa using hl) h1
theorem Bl.put {w : World} {b : Nat} {vs : List Value} {t : TypeId} (h : Bl w b vs t) (us : List Value) : Bl (w.setRow b us.toArray) b us t := setRow_heap w b _ _ t _ h
theorem below_setRow {B b : Nat} {a w : World} (hb : B ≤ b) (us : Array Value) (h : Below B a w) : Below B a (w.setRow b us) :=
  h.trans ⟨rfl, rfl, rfl, by rw [setRow_size]; exact Nat.le_refl _, fun k hk => setRow_other w b k us (by omega)⟩
theorem exec_loadF {o : Oper} {ρ : Operand → Value} {w : World} {b k x : Nat} {ty : TypeId} {v : Value} (ho : o.op = .load ty (.tmp x)) (hx : ρ (.tmp x) = .pointer (some ⟨b, k, none⟩)) (hs : (loadVar ty ⟨b, k, none⟩).run Tryd.prog w = .ok v w) : (execOp ρ o).run Tryd.prog w = .ok (.value v) w := by
  unfold execOp
  simp only [ho, hx, Instr.loadAt, Instr.sureAddr, Sem.run_bind, Sem.run_pure, Result.andThen_ok, hs]
theorem isCount_ok (n : Nat) (h : 1 ≤ n ∧ n ≤ 10) (w : World) : Calls Tryd.prog 29 #[.int .i64 (n : Nat)] w fun e w' => e = .returned (.bool true) ∧ w' = w := by
  have h1 : (1 : Int) ≤ (n : Int) := by omega
  have h2 : (n : Int) ≤ 10 := by omega
  go_enter Tryd.func29, Tryd.ntmps29
  go_wp2_with fail
  go_ret
  exact ⟨rfl, rfl⟩
def ptsV (a : Pts) : List Value := [.int .u64 (limb (pX a) 0 : Nat), .int .u64 (limb (pX a) 1 : Nat), .int .u64 (limb (pX a) 2 : Nat), .int .u64 (limb (pX a) 3 : Nat), .int .u64 (limb (pY a) 0 : Nat), .int .u64 (limb (pY a) 1 : Nat), .int .u64 (limb (pY a) 2 : Nat), .int .u64 (limb (pY a) 3 : Nat), .bool (pI a)]
def numV (k : Nat) : List Value := [.int .u64 (limb k 0 : Nat), .int .u64 (limb k 1 : Nat), .int .u64 (limb k 2 : Nat), .int .u64 (limb k 3 : Nat)]
/-- What the laid variables say. -/
def GA (w : World) : Prop := GlobP w ∧ GlobQ w ∧ GTH w ∧ GG w
theorem GA.call {w w' : World} (h : GA w) (hb : Below w.heap.size w w') : GA w' := ⟨h.1.call hb, h.2.1.call hb, h.2.2.1.call hb, h.2.2.2.call hb⟩
set_option maxRecDepth 100000 in
set_option maxHeartbeats 4000000 in
theorem commit1 (k c : Nat) (R : Pts) (hk : k < QQ) (hR : R = gr.mul k gG) (w : World) (hG : GA w) (hc : Bl w c (ptsV gG) 36) :
    Calls Tryd.prog 26 #[.agg #[.int .u64 (limb k 0 : Nat), .int .u64 (limb k 1 : Nat), .int .u64 (limb k 2 : Nat), .int .u64 (limb k 3 : Nat)], .pointer (some ⟨c, 0, none⟩)] w fun e w' => e = .returned (.tuple #[.agg #[.int .u64 (limb (pX R) 0 : Nat), .int .u64 (limb (pX R) 1 : Nat), .int .u64 (limb (pX R) 2 : Nat), .int .u64 (limb (pX R) 3 : Nat), .int .u64 (limb (pY R) 0 : Nat), .int .u64 (limb (pY R) 1 : Nat), .int .u64 (limb (pY R) 2 : Nat), .int .u64 (limb (pY R) 3 : Nat), .bool (pI R)], .int .i64 0]) ∧ Below w.heap.size w w' := by
  have KM : Hid _ := Mul_ok k gG hk
  obtain ⟨W2, hW2⟩ : ∃ W2, W2 = (w.alloc (.cells #[.int .u64 (limb k 0 : Nat), .int .u64 (limb k 1 : Nat), .int .u64 (limb k 2 : Nat), .int .u64 (limb k 3 : Nat)] 34)).alloc (.cells #[.int .u64 0, .int .u64 0, .int .u64 0, .int .u64 0, .int .u64 0, .int .u64 0, .int .u64 0, .int .u64 0, .bool false] 36) := ⟨_, rfl⟩
  have hsz : (w.alloc (.cells #[.int .u64 (limb k 0 : Nat), .int .u64 (limb k 1 : Nat), .int .u64 (limb k 2 : Nat), .int .u64 (limb k 3 : Nat)] 34)).heap.size = w.heap.size + 1 := by simp
  have HB : Below w.heap.size w W2 := by
    rw [hW2]
    exact below_alloc0 (below_alloc0 (Below.refl _ _) _) _
  have hn : Bl W2 w.heap.size (numV k) 34 := by
    rw [hW2]
    exact (Below.heap_alloc _ _ _ (by rw [hsz]; omega)).trans (heap_alloc_last w _)
  have hp : Bl W2 (w.heap.size + 1) [.int .u64 0, .int .u64 0, .int .u64 0, .int .u64 0, .int .u64 0, .int .u64 0, .int .u64 0, .int .u64 0, .bool false] 36 := by
    have h := heap_alloc_last (w.alloc (.cells #[.int .u64 (limb k 0 : Nat), .int .u64 (limb k 1 : Nat), .int .u64 (limb k 2 : Nat), .int .u64 (limb k 3 : Nat)] 34)) (.cells #[.int .u64 0, .int .u64 0, .int .u64 0, .int .u64 0, .int .u64 0, .int .u64 0, .int .u64 0, .int .u64 0, .bool false] 36)
    rw [hsz] at h
    rw [hW2]
    exact h
  have HW : Hid (W2 = (w.alloc (.cells #[.int .u64 (limb k 0 : Nat), .int .u64 (limb k 1 : Nat), .int .u64 (limb k 2 : Nat), .int .u64 (limb k 3 : Nat)] 34)).alloc (.cells #[.int .u64 0, .int .u64 0, .int .u64 0, .int .u64 0, .int .u64 0, .int .u64 0, .int .u64 0, .int .u64 0, .bool false] 36)) := hW2
  have L1 : Hid ((loadVar 34 ⟨w.heap.size, 0, none⟩).run Tryd.prog W2 = .ok (.agg #[.int .u64 (limb k 0 : Nat), .int .u64 (limb k 1 : Nat), .int .u64 (limb k 2 : Nat), .int .u64 (limb k 3 : Nat)]) W2) := hn.load Tryd.underlying34 rfl (by kernel_rfl)
  have L2 : Hid ((loadVar 36 ⟨c, 0, none⟩).run Tryd.prog W2 = .ok (.agg #[.int .u64 (limb (pX gG) 0 : Nat), .int .u64 (limb (pX gG) 1 : Nat), .int .u64 (limb (pX gG) 2 : Nat), .int .u64 (limb (pX gG) 3 : Nat), .int .u64 (limb (pY gG) 0 : Nat), .int .u64 (limb (pY gG) 1 : Nat), .int .u64 (limb (pY gG) 2 : Nat), .int .u64 (limb (pY gG) 3 : Nat), .bool (pI gG)]) W2) := (hc.call HB).load Tryd.underlying36 rfl (by kernel_rfl)
  have H2 : Hid (GA W2 ∧ Bl W2 (w.heap.size + 1) [.int .u64 0, .int .u64 0, .int .u64 0, .int .u64 0, .int .u64 0, .int .u64 0, .int .u64 0, .int .u64 0, .bool false] 36 ∧ Below w.heap.size w W2 ∧ R = gr.mul k gG) := ⟨hG.call HB, hp, HB, hR⟩
  clear hsz HB hn hp hW2 hG hc hR hk
  go_enter Tryd.func26, Tryd.ntmps26
  go_upto_region 1 with fail
  rw [← HW.out]
  clear HW
  go_wp2_with (first | ((with_reducible refine load_to (b := w.heap.size) (k := 0) (x := 2) ?_ ?_ ?_ L1.out ?_); rfl; rfl; rfl) | ((with_reducible refine load_to (b := c) (k := 0) (x := 1) ?_ ?_ ?_ L2.out ?_); rfl; rfl; rfl))
  refine (KM.out _ H2.out.1.1 H2.out.1.2.1 H2.out.1.2.2.1).mono ?_
  rintro e w3 ⟨rfl, hb3⟩
  rw [← H2.out.2.2.2]
  have H3 : Hid (Bl w3 (w.heap.size + 1) [.int .u64 0, .int .u64 0, .int .u64 0, .int .u64 0, .int .u64 0, .int .u64 0, .int .u64 0, .int .u64 0, .bool false] 36 ∧ Below w.heap.size w w3) := ⟨H2.out.2.1.call hb3, below_call0 H2.out.2.2.1 hb3⟩
  clear hb3 H2 L1 L2 KM
  have HS : Hid ((storeVar 36 ⟨w.heap.size + 1, 0, none⟩ (.agg #[.int .u64 (limb (pX R) 0 : Nat), .int .u64 (limb (pX R) 1 : Nat), .int .u64 (limb (pX R) 2 : Nat), .int .u64 (limb (pX R) 3 : Nat), .int .u64 (limb (pY R) 0 : Nat), .int .u64 (limb (pY R) 1 : Nat), .int .u64 (limb (pY R) 2 : Nat), .int .u64 (limb (pY R) 3 : Nat), .bool (pI R)])).run Tryd.prog w3 = .ok () (w3.setRow (w.heap.size + 1) #[.int .u64 (limb (pX R) 0 : Nat), .int .u64 (limb (pX R) 1 : Nat), .int .u64 (limb (pX R) 2 : Nat), .int .u64 (limb (pX R) 3 : Nat), .int .u64 (limb (pY R) 0 : Nat), .int .u64 (limb (pY R) 1 : Nat), .int .u64 (limb (pY R) 2 : Nat), .int .u64 (limb (pY R) 3 : Nat), .bool (pI R)])) := H3.out.1.store (us := [.int .u64 (limb (pX R) 0 : Nat), .int .u64 (limb (pX R) 1 : Nat), .int .u64 (limb (pX R) 2 : Nat), .int .u64 (limb (pX R) 3 : Nat), .int .u64 (limb (pY R) 0 : Nat), .int .u64 (limb (pY R) 1 : Nat), .int .u64 (limb (pY R) 2 : Nat), .int .u64 (limb (pY R) 3 : Nat), .bool (pI R)]) (by kernel_rfl) rfl (by kernel_rfl)
  go_wp2_with ((with_reducible refine store_to (b := w.heap.size + 1) (k := 0) (x := 3) (y := 8) ?_ ?_ ?_ ?_ HS.out ?_); rfl; rfl; rfl; rfl)
  have hld : (loadVar 36 ⟨w.heap.size + 1, 0, none⟩).run Tryd.prog (w3.setRow (w.heap.size + 1) #[.int .u64 (limb (pX R) 0 : Nat), .int .u64 (limb (pX R) 1 : Nat), .int .u64 (limb (pX R) 2 : Nat), .int .u64 (limb (pX R) 3 : Nat), .int .u64 (limb (pY R) 0 : Nat), .int .u64 (limb (pY R) 1 : Nat), .int .u64 (limb (pY R) 2 : Nat), .int .u64 (limb (pY R) 3 : Nat), .bool (pI R)]) = .ok (.agg #[.int .u64 (limb (pX R) 0 : Nat), .int .u64 (limb (pX R) 1 : Nat), .int .u64 (limb (pX R) 2 : Nat), .int .u64 (limb (pX R) 3 : Nat), .int .u64 (limb (pY R) 0 : Nat), .int .u64 (limb (pY R) 1 : Nat), .int .u64 (limb (pY R) 2 : Nat), .int .u64 (limb (pY R) 3 : Nat), .bool (pI R)]) (w3.setRow (w.heap.size + 1) #[.int .u64 (limb (pX R) 0 : Nat), .int .u64 (limb (pX R) 1 : Nat), .int .u64 (limb (pX R) 2 : Nat), .int .u64 (limb (pX R) 3 : Nat), .int .u64 (limb (pY R) 0 : Nat), .int .u64 (limb (pY R) 1 : Nat), .int .u64 (limb (pY R) 2 : Nat), .int .u64 (limb (pY R) 3 : Nat), .bool (pI R)]) := (H3.out.1.put [.int .u64 (limb (pX R) 0 : Nat), .int .u64 (limb (pX R) 1 : Nat), .int .u64 (limb (pX R) 2 : Nat), .int .u64 (limb (pX R) 3 : Nat), .int .u64 (limb (pY R) 0 : Nat), .int .u64 (limb (pY R) 1 : Nat), .int .u64 (limb (pY R) 2 : Nat), .int .u64 (limb (pY R) 3 : Nat), .bool (pI R)]).load Tryd.underlying36 rfl (by kernel_rfl)
  refine bodyPost_ret (v := .tuple #[.agg #[.int .u64 (limb (pX R) 0 : Nat), .int .u64 (limb (pX R) 1 : Nat), .int .u64 (limb (pX R) 2 : Nat), .int .u64 (limb (pX R) 3 : Nat), .int .u64 (limb (pY R) 0 : Nat), .int .u64 (limb (pY R) 1 : Nat), .int .u64 (limb (pY R) 2 : Nat), .int .u64 (limb (pY R) 3 : Nat), .bool (pI R)], .int .i64 0]) ?_ rfl ⟨rfl, below_setRow (by omega) _ H3.out.2⟩
  simp [results, Tryd.results26, asAddr, hld]
end Go.Proofs.YtocjeboicofflaaDoor
