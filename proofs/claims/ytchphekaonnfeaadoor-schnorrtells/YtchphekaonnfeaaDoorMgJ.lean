/- Several texts laid together. -/
import Derived.Test.YtchphekaonnfeaaDoorPnL
import Derived.Test.YtchphekaonnfeaaDoorMgQ
import Derived.Test.YtchphekaonnfeaaDoorCvSu
import Derived.BigFrame
import Derived.Deep.WholeRow
import Derived.Deep.MidRow
import Derived.Laws.CopyRow
namespace Go.Proofs.YtchphekaonnfeaaDoor
open Go Go.RowKit Go.Lib
/-- The generator's variables. -/
def GG (w : World) : Prop := Num4 w 1 GX ∧ Num4 w 2 GY ∧ 1 < w.heap.size ∧ 2 < w.heap.size
theorem GG.call {w w' : World} (h : GG w) (hb : Below w.heap.size w w') : GG w' :=
  ⟨fun j hj => (hb.cell (p := ⟨1, j, none⟩) h.2.2.1).trans (h.1 j hj), fun j hj => (hb.cell (p := ⟨2, j, none⟩) h.2.2.2).trans (h.2.1 j hj), Nat.lt_of_lt_of_le h.2.2.1 hb.size, Nat.lt_of_lt_of_le h.2.2.2 hb.size⟩
theorem GX_lt : GX < PP := of_decide_eq_true (by kernel_rfl)
theorem GY_lt : GY < PP := of_decide_eq_true (by kernel_rfl)
theorem gG_x : pX gG = GX := pX_of (x := GX) (y := GY) rfl GX_lt
theorem gG_y : pY gG = GY := pY_of (x := GX) (y := GY) rfl GY_lt
theorem gG_i : pI gG = false := pI_some (q := pt GX GY) rfl
def GN (w : World) (x y : Nat) : Prop := Num4 w 1 x ∧ Num4 w 2 y ∧ 1 < w.heap.size ∧ 2 < w.heap.size
theorem GN.call {w w' : World} {x y : Nat} (h : GN w x y) (hb : Below w.heap.size w w') : GN w' x y :=
  ⟨fun j hj => (hb.cell (p := ⟨1, j, none⟩) h.2.2.1).trans (h.1 j hj), fun j hj => (hb.cell (p := ⟨2, j, none⟩) h.2.2.2).trans (h.2.1 j hj), Nat.lt_of_lt_of_le h.2.2.1 hb.size, Nat.lt_of_lt_of_le h.2.2.2 hb.size⟩
set_option maxRecDepth 100000 in
set_option maxHeartbeats 4000000 in
theorem G_num (x y : Nat) (w : World) (h : GN w x y) : Calls Tryd.prog 21 #[] w fun e w' => e = .returned (.agg #[.int .u64 (limb (x) 0 : Nat), .int .u64 (limb (x) 1 : Nat), .int .u64 (limb (x) 2 : Nat), .int .u64 (limb (x) 3 : Nat), .int .u64 (limb (y) 0 : Nat), .int .u64 (limb (y) 1 : Nat), .int .u64 (limb (y) 2 : Nat), .int .u64 (limb (y) 3 : Nat), .bool false]) ∧ Below w.heap.size w w' := by
  obtain ⟨w0, hw0⟩ : ∃ wq, wq = (w.alloc (.cells #[.int .u64 0, .int .u64 0, .int .u64 0, .int .u64 0, .int .u64 0, .int .u64 0, .int .u64 0, .int .u64 0, .bool false] 28)) := ⟨_, rfl⟩
  have H0 : Hid (OwnC w0 (w.heap.size) zpL) ∧ Hid (Below w.heap.size w w0) ∧ Hid (GN w0 x y) := by
    rw [hw0]
    exact ⟨(OwnC.new' rfl), below_alloc0 (Below.refl _ _) _, (h).call (below_alloc0 (Below.refl _ _) _)⟩
  obtain ⟨P0_0, W_0, N_0⟩ := H0
  clear h
  go_enter Tryd.func21, Tryd.ntmps21
  go_upto_region 1 with fail
  rw [← hw0]
  clear hw0
  obtain ⟨fg10, fg11, fg12, fg13⟩ := Num4.facts N_0.out.1
  obtain ⟨fg20, fg21, fg22, fg23⟩ := Num4.facts N_0.out.2.1
  obtain ⟨fP0z, fP00, fP01, fP02, fP03, fP04, fP05, fP06, fP07, fP08, fP0f⟩ := (P0_0.out).zp
  go_wp2_with fail
  clear fg10 fg11 fg12 fg13 fg20 fg21 fg22 fg23 fP0z fP00 fP01 fP02 fP03 fP04 fP05 fP06 fP07 fP08 fP0f
  obtain ⟨wz, hwz⟩ : ∃ wq, wq = (((((((((w0.setCell ⟨w.heap.size, 0, none⟩ (.int .u64 (limb (x) 0 : Nat))).setCell ⟨w.heap.size, 1, none⟩ (.int .u64 (limb (x) 1 : Nat))).setCell ⟨w.heap.size, 2, none⟩ (.int .u64 (limb (x) 2 : Nat))).setCell ⟨w.heap.size, 3, none⟩ (.int .u64 (limb (x) 3 : Nat))).setCell ⟨w.heap.size, 4, none⟩ (.int .u64 (limb (y) 0 : Nat))).setCell ⟨w.heap.size, 5, none⟩ (.int .u64 (limb (y) 1 : Nat))).setCell ⟨w.heap.size, 6, none⟩ (.int .u64 (limb (y) 2 : Nat))).setCell ⟨w.heap.size, 7, none⟩ (.int .u64 (limb (y) 3 : Nat))).setCell ⟨w.heap.size, 8, none⟩ (.bool false)) := ⟨_, rfl⟩
  rw [← hwz]
  have hwy : wz = putL w.heap.size 0 (ptL x y false) w0 := hwz
  have HZ : OwnC wz w.heap.size (ptL x y false) ∧ Below w.heap.size w wz := by
    rw [hwy]
    exact ⟨OwnC.put (ptL x y false) P0_0.out rfl, below_putL (Nat.le_refl _) (ptL x y false) 0 _ W_0.out⟩
  clear hwz hwy
  obtain ⟨hO, HB⟩ := HZ
  obtain ⟨rz, r0, r1, r2, r3, r4, r5, r6, r7, r8, rf⟩ := hO.pt
  refine bodyPost_ret (v := .agg #[.int .u64 (limb (x) 0 : Nat), .int .u64 (limb (x) 1 : Nat), .int .u64 (limb (x) 2 : Nat), .int .u64 (limb (x) 3 : Nat), .int .u64 (limb (y) 0 : Nat), .int .u64 (limb (y) 1 : Nat), .int .u64 (limb (y) 2 : Nat), .int .u64 (limb (y) 3 : Nat), .bool false]) ?_ rfl ⟨rfl, HB⟩
  simp [results, Tryd.results21, go_sem, r0, r1, r2, r3, r4, r5, r6, r7, r8]
theorem G_A (w : World) (h : GG w) : Calls Tryd.prog 21 #[] w fun e w' => e = .returned (.agg #[.int .u64 (limb (pX (gG)) 0 : Nat), .int .u64 (limb (pX (gG)) 1 : Nat), .int .u64 (limb (pX (gG)) 2 : Nat), .int .u64 (limb (pX (gG)) 3 : Nat), .int .u64 (limb (pY (gG)) 0 : Nat), .int .u64 (limb (pY (gG)) 1 : Nat), .int .u64 (limb (pY (gG)) 2 : Nat), .int .u64 (limb (pY (gG)) 3 : Nat), .bool (pI (gG))]) ∧ Below w.heap.size w w' := by
  rw [gG_x, gG_y, gG_i]
  exact G_num GX GY w h
end Go.Proofs.YtchphekaonnfeaaDoor

namespace Go.Proofs.YtchphekaonnfeaaDoor
open Go Go.RowKit Go.Lib
theorem store_to {ops : Array Oper} {rest : List Oper} {o : Oper} {a : Act} {w w' : World} {Q : Exit → Act → World → Prop} {b k x y : Nat} {ty : TypeId} {vs : Array Value} (hgd : o.guard = none) (ho : o.op = .store ty (.tmp x) (.tmp y))
    (hx : a.eval (.tmp x) = .pointer (some ⟨b, k, none⟩)) (hy : a.eval (.tmp y) = .agg vs) (hs : (storeVar ty ⟨b, k, none⟩ (.agg vs)).run Tryd.prog w = .ok () w')
    (h : wpList Tryd.prog ops Q rest (a.put o.dst undef) w') : wpList Tryd.prog ops Q (o :: rest) a w :=
  wpList_plain hgd fun _ hK => by
    unfold Oper.wp execOp
    simp only [ho, hx, hy, Instr.storeAt, Instr.sureAddr, Sem.run_bind, Sem.run_pure, Result.andThen_ok, hs]
    exact hK _ _ h
theorem load_to {ops : Array Oper} {rest : List Oper} {o : Oper} {a : Act} {w : World} {Q : Exit → Act → World → Prop} {b k x : Nat} {ty : TypeId} {vs : Array Value} (hw : Region.wanted o (yielded ops a.tmps) = true) (ho : o.op = .load ty (.tmp x))
    (hx : a.eval (.tmp x) = .pointer (some ⟨b, k, none⟩)) (hs : (loadVar ty ⟨b, k, none⟩).run Tryd.prog w = .ok (.agg vs) w)
    (h : wpList Tryd.prog ops Q rest (a.put o.dst (.agg vs)) w) : wpList Tryd.prog ops Q (o :: rest) a w :=
  BigFrame.wpList_want hw fun _ hK => by
    unfold Oper.wp execOp
    simp only [ho, hx, Instr.loadAt, Instr.sureAddr, Sem.run_bind, Sem.run_pure, Result.andThen_ok, hs]
    exact hK _ _ h
/-- A whole block: what it holds; a store of it, a load of it. -/
def Bl (w : World) (b : Nat) (vs : List Value) (t : TypeId) : Prop := w.heap[b]? = some (.cells vs.toArray t)
theorem Bl.lt {w : World} {b : Nat} {vs : List Value} {t : TypeId} (h : Bl w b vs t) : b < w.heap.size := (Array.getElem?_eq_some_iff.1 h).1
theorem Bl.call {w w' : World} {b : Nat} {vs : List Value} {t : TypeId} (h : Bl w b vs t) (hb : Below w.heap.size w w') : Bl w' b vs t := (hb.block b h.lt).trans h
theorem Bl.new (w : World) (vs : List Value) (t : TypeId) : Bl (w.alloc (.cells vs.toArray t)) w.heap.size vs t := heap_alloc_last w _
theorem Bl.load {w : World} {b : Nat} {vs : List Value} {t : TypeId} {d : TypeDesc} (h : Bl w b vs t) (hu : Tryd.prog.underlying t = some d) (hd : d.isRow = true) (hi : (Tryd.prog.info? t).map (·.size) = some vs.length) : (loadVar t ⟨b, 0, none⟩).run Tryd.prog w = .ok (.agg vs.toArray) w :=
  run_loadVar_mid w b 0 t vs d (fun j v hv => by
    have h' : w.heap[b]? = some (.cells vs.toArray t) := h
    rw [Nat.zero_add]
    simpa [World.cell?, h'] using hv) hu hd hi
theorem Bl.store {w : World} {b : Nat} {vs us : List Value} {t : TypeId} (h : Bl w b vs t) (hi : (Tryd.prog.info? t).map (·.size) = some us.length) (hl : vs.length = us.length) (h1 : us.toArray.all (·.oneCell') = true) :
    (storeVar t ⟨b, 0, none⟩ (.agg us.toArray)).run Tryd.prog w = .ok () (w.setRow b us.toArray) :=
  run_storeVar_row w b t t vs.toArray us.toArray h (by simpa using hi) (by simpa using hl) h1
theorem Bl.put {w : World} {b : Nat} {vs : List Value} {t : TypeId} (h : Bl w b vs t) (us : List Value) : Bl (w.setRow b us.toArray) b us t := setRow_heap w b _ _ t _ h
theorem below_setRow {B b : Nat} {a w : World} (hb : B ≤ b) (us : Array Value) (h : Below B a w) : Below B a (w.setRow b us) :=
  h.trans ⟨rfl, rfl, rfl, by rw [setRow_size]; exact Nat.le_refl _, fun k hk => setRow_other w b k us (by omega)⟩
theorem exec_loadF {o : Oper} {ρ : Operand → Value} {w : World} {b k x : Nat} {ty : TypeId} {v : Value} (ho : o.op = .load ty (.tmp x)) (hx : ρ (.tmp x) = .pointer (some ⟨b, k, none⟩)) (hs : (loadVar ty ⟨b, k, none⟩).run Tryd.prog w = .ok v w) : (execOp ρ o).run Tryd.prog w = .ok (.value v) w := by
  unfold execOp
  simp only [ho, hx, Instr.loadAt, Instr.sureAddr, Sem.run_bind, Sem.run_pure, Result.andThen_ok, hs]
def ptsV (a : Pts) : List Value := [.int .u64 (limb (pX a) 0 : Nat), .int .u64 (limb (pX a) 1 : Nat), .int .u64 (limb (pX a) 2 : Nat), .int .u64 (limb (pX a) 3 : Nat), .int .u64 (limb (pY a) 0 : Nat), .int .u64 (limb (pY a) 1 : Nat), .int .u64 (limb (pY a) 2 : Nat), .int .u64 (limb (pY a) 3 : Nat), .bool (pI a)]
def numV (k : Nat) : List Value := [.int .u64 (limb k 0 : Nat), .int .u64 (limb k 1 : Nat), .int .u64 (limb k 2 : Nat), .int .u64 (limb k 3 : Nat)]
/-- What the laid variables say. -/
def GA (w : World) : Prop := GlobP w ∧ GlobQ w ∧ GTH w ∧ GG w
theorem GA.call {w w' : World} (h : GA w) (hb : Below w.heap.size w w') : GA w' := ⟨h.1.call hb, h.2.1.call hb, h.2.2.1.call hb, h.2.2.2.call hb⟩
end Go.Proofs.YtchphekaonnfeaaDoor
