/- Several texts laid together. -/
import Derived.Test.YtfkpbcionlidaaaDoorCvSu
import Derived.Test.YtfkpbcionlidaaaDoorGnA
import Derived.BigFrame
import Derived.Deep.WholeRow
import Derived.Deep.MidRow
import Derived.Laws.CopyRow
import Derived.Test.YtfkpbcionlidaaaDoorCvCl
import Derived.Test.YtfkpbcionlidaaaDoorMhF
namespace Go.Proofs.YtfkpbcionlidaaaDoor
open Go Go.RowKit Go.Lib
theorem store_to {ops : Array Oper} {rest : List Oper} {o : Oper} {a : Act} {w w' : World} {Q : Exit → Act → World → Prop} {b k x y : Nat} {ty : TypeId} {vs : Array Value} (hgd : o.guard = none) (ho : o.op = .store ty (.tmp x) (.tmp y))
  (hx : a.eval (.tmp x) = .pointer (some ⟨b, k, none⟩)) (hy : a.eval (.tmp y) = .agg vs) (hs : (storeVar ty ⟨b, k, none⟩ (.agg vs)).run Tryd.prog w = .ok () w')
  (h : wpList Tryd.prog ops Q rest (a.put o.dst undef) w') : wpList Tryd.prog ops Q (o :: rest) a w :=
 wpList_plain hgd fun _ hK => by
  unfold Oper.wp execOp
  simp only [ho, hx, hy, Instr.storeAt, Instr.sureAddr, Sem.run_bind, Sem.run_pure, Result.andThen_ok, hs]
  exact hK _ _ h
theorem load_to {ops : Array Oper} {rest : List Oper} {o : Oper} {a : Act} {w : World} {Q : Exit → Act → World → Prop} {b k x : Nat} {ty : TypeId} {vs : Array Value} (hw : Region.wanted o (yielded ops a.tmps) = true) (ho : o.op = .load ty (.tmp x))
  (hx : a.eval (.tmp x) = .pointer (some ⟨b, k, none⟩)) (hs : (loadVar ty ⟨b, k, none⟩).run Tryd.prog w = .ok (.agg vs) w)
  (h : wpList Tryd.prog ops Q rest (a.put o.dst (.agg vs)) w) : wpList Tryd.prog ops Q (o :: rest) a w :=
 BigFrame.wpList_want hw fun _ hK => by
  unfold Oper.wp execOp
  simp only [ho, hx, Instr.loadAt, Instr.sureAddr, Sem.run_bind, Sem.run_pure, Result.andThen_ok, hs]
  exact hK _ _ h
/-- A whole block: what it holds; a store of it, a load of it. -/
def Bl (w : World) (b : Nat) (vs : List Value) (t : TypeId) : Prop := w.heap[b]? = some (.cells vs.toArray t)
theorem Bl.lt {w : World} {b : Nat} {vs : List Value} {t : TypeId} (h : Bl w b vs t) : b < w.heap.size := (Array.getElem?_eq_some_iff.1 h).1
theorem Bl.call {w w' : World} {b : Nat} {vs : List Value} {t : TypeId} (h : Bl w b vs t) (hb : Below w.heap.size w w') : Bl w' b vs t := (hb.block b h.lt).trans h
theorem Bl.new (w : World) (vs : List Value) (t : TypeId) : Bl (w.alloc (.cells vs.toArray t)) w.heap.size vs t := heap_alloc_last w _
theorem Bl.load {w : World} {b : Nat} {vs : List Value} {t : TypeId} {d : TypeDesc} (h : Bl w b vs t) (hu : Tryd.prog.underlying t = some d) (hd : d.isRow = true) (hi : (Tryd.prog.info? t).map (·.size) = some vs.length) : (loadVar t ⟨b, 0, none⟩).run Tryd.prog w = .ok (.agg vs.toArray) w :=
 run_loadVar_mid w b 0 t vs d (fun j v hv => by
  have h' : w.heap[b]? = some (.cells vs.toArray t) := h
  rw [Nat.zero_add]
  simpa [World.cell?, h'] using hv) hu hd hi
theorem Bl.store {w : World} {b : Nat} {vs us : List Value} {t : TypeId} (h : Bl w b vs t) (hi : (Tryd.prog.info? t).map (·.size) = some us.length) (hl : vs.length = us.length) (h1 : us.toArray.all (·.oneCell') = true) :
  (storeVar t ⟨b, 0, none⟩ (.agg us.toArray)).run Tryd.prog w = .ok () (w.setRow b us.toArray) :=
 run_storeVar_row w b t t vs.toArray us.toArray h (by simpa using hi) (by simpa using hl) h1
theorem Bl.put {w : World} {b : Nat} {vs : List Value} {t : TypeId} (h : Bl w b vs t) (us : List Value) : Bl (w.setRow b us.toArray) b us t := setRow_heap w b _ _ t _ h
theorem below_setRow {B b : Nat} {a w : World} (hb : B ≤ b) (us : Array Value) (h : Below B a w) : Below B a (w.setRow b us) :=
 h.trans ⟨rfl, rfl, rfl, by rw [setRow_size]; exact Nat.le_refl _, fun k hk => setRow_other w b k us (by omega)⟩
theorem exec_loadF {o : Oper} {ρ : Operand → Value} {w : World} {b k x : Nat} {ty : TypeId} {v : Value} (ho : o.op = .load ty (.tmp x)) (hx : ρ (.tmp x) = .pointer (some ⟨b, k, none⟩)) (hs : (loadVar ty ⟨b, k, none⟩).run Tryd.prog w = .ok v w) : (execOp ρ o).run Tryd.prog w = .ok (.value v) w := by
 unfold execOp
 simp only [ho, hx, Instr.loadAt, Instr.sureAddr, Sem.run_bind, Sem.run_pure, Result.andThen_ok, hs]
theorem isCount_ok (n : Nat) (h : 1 ≤ n ∧ n ≤ 10) (w : World) : Calls Tryd.prog 34 #[.int .i64 (n : Nat)] w fun e w' => e = .returned (.bool true) ∧ w' = w := by
 have h1 : (1 : Int) ≤ (n : Int) := by omega
 have h2 : (n : Int) ≤ 10 := by omega
 go_enter Tryd.func34, Tryd.ntmps34
 go_wp2_with fail
 go_ret
 exact ⟨rfl, rfl⟩
def ptsV (a : Pts) : List Value := [.int .u64 (limb (pX a) 0 : Nat), .int .u64 (limb (pX a) 1 : Nat), .int .u64 (limb (pX a) 2 : Nat), .int .u64 (limb (pX a) 3 : Nat), .int .u64 (limb (pY a) 0 : Nat), .int .u64 (limb (pY a) 1 : Nat), .int .u64 (limb (pY a) 2 : Nat), .int .u64 (limb (pY a) 3 : Nat), .bool (pI a)]
def numV (k : Nat) : List Value := [.int .u64 (limb k 0 : Nat), .int .u64 (limb k 1 : Nat), .int .u64 (limb k 2 : Nat), .int .u64 (limb k 3 : Nat)]
/-- What the laid variables say. -/
def GA (w : World) : Prop := GlobP w ∧ GlobQ w ∧ GTH w ∧ GG w
theorem GA.call {w w' : World} (h : GA w) (hb : Below w.heap.size w w') : GA w' := ⟨h.1.call hb, h.2.1.call hb, h.2.2.1.call hb, h.2.2.2.call hb⟩
set_option maxRecDepth 100000 in
set_option maxHeartbeats 4000000 in
theorem commit1 (k c : Nat) (R : Pts) (hk : k < QQ) (hR : R = gr.mul k gG) (w : World) (hG : GA w) (hc : Bl w c (ptsV gG) 45) :
  Calls Tryd.prog 31 #[.agg #[.int .u64 (limb k 0 : Nat), .int .u64 (limb k 1 : Nat), .int .u64 (limb k 2 : Nat), .int .u64 (limb k 3 : Nat)], .pointer (some ⟨c, 0, none⟩)] w fun e w' => e = .returned (.tuple #[.agg #[.int .u64 (limb (pX R) 0 : Nat), .int .u64 (limb (pX R) 1 : Nat), .int .u64 (limb (pX R) 2 : Nat), .int .u64 (limb (pX R) 3 : Nat), .int .u64 (limb (pY R) 0 : Nat), .int .u64 (limb (pY R) 1 : Nat), .int .u64 (limb (pY R) 2 : Nat), .int .u64 (limb (pY R) 3 : Nat), .bool (pI R)], .int .i64 0]) ∧ Below w.heap.size w w' := by
 have KM : Hid _ := Mul_ok k gG hk
 obtain ⟨W2, hW2⟩ : ∃ W2, W2 = (w.alloc (.cells #[.int .u64 (limb k 0 : Nat), .int .u64 (limb k 1 : Nat), .int .u64 (limb k 2 : Nat), .int .u64 (limb k 3 : Nat)] 41)).alloc (.cells #[.int .u64 0, .int .u64 0, .int .u64 0, .int .u64 0, .int .u64 0, .int .u64 0, .int .u64 0, .int .u64 0, .bool false] 45) := ⟨_, rfl⟩
 have hsz : (w.alloc (.cells #[.int .u64 (limb k 0 : Nat), .int .u64 (limb k 1 : Nat), .int .u64 (limb k 2 : Nat), .int .u64 (limb k 3 : Nat)] 41)).heap.size = w.heap.size + 1 := by simp
 have HB : Below w.heap.size w W2 := by
  rw [hW2]
  exact below_alloc0 (below_alloc0 (Below.refl _ _) _) _
 have hn : Bl W2 w.heap.size (numV k) 41 := by
  rw [hW2]
  exact (Below.heap_alloc _ _ _ (by rw [hsz]; omega)).trans (heap_alloc_last w _)
 have hp : Bl W2 (w.heap.size + 1) [.int .u64 0, .int .u64 0, .int .u64 0, .int .u64 0, .int .u64 0, .int .u64 0, .int .u64 0, .int .u64 0, .bool false] 45 := by
  have h := heap_alloc_last (w.alloc (.cells #[.int .u64 (limb k 0 : Nat), .int .u64 (limb k 1 : Nat), .int .u64 (limb k 2 : Nat), .int .u64 (limb k 3 : Nat)] 41)) (.cells #[.int .u64 0, .int .u64 0, .int .u64 0, .int .u64 0, .int .u64 0, .int .u64 0, .int .u64 0, .int .u64 0, .bool false] 45)
  rw [hsz] at h
  rw [hW2]
  exact h
 have HW : Hid (W2 = (w.alloc (.cells #[.int .u64 (limb k 0 : Nat), .int .u64 (limb k 1 : Nat), .int .u64 (limb k 2 : Nat), .int .u64 (limb k 3 : Nat)] 41)).alloc (.cells #[.int .u64 0, .int .u64 0, .int .u64 0, .int .u64 0, .int .u64 0, .int .u64 0, .int .u64 0, .int .u64 0, .bool false] 45)) := hW2
 have L1 : Hid ((loadVar 41 ⟨w.heap.size, 0, none⟩).run Tryd.prog W2 = .ok (.agg #[.int .u64 (limb k 0 : Nat), .int .u64 (limb k 1 : Nat), .int .u64 (limb k 2 : Nat), .int .u64 (limb k 3 : Nat)]) W2) := hn.load Tryd.underlying41 rfl (by kernel_rfl)
 have L2 : Hid ((loadVar 45 ⟨c, 0, none⟩).run Tryd.prog W2 = .ok (.agg #[.int .u64 (limb (pX gG) 0 : Nat), .int .u64 (limb (pX gG) 1 : Nat), .int .u64 (limb (pX gG) 2 : Nat), .int .u64 (limb (pX gG) 3 : Nat), .int .u64 (limb (pY gG) 0 : Nat), .int .u64 (limb (pY gG) 1 : Nat), .int .u64 (limb (pY gG) 2 : Nat), .int .u64 (limb (pY gG) 3 : Nat), .bool (pI gG)]) W2) := (hc.call HB).load Tryd.underlying45 rfl (by kernel_rfl)
 have H2 : Hid (GA W2 ∧ Bl W2 (w.heap.size + 1) [.int .u64 0, .int .u64 0, .int .u64 0, .int .u64 0, .int .u64 0, .int .u64 0, .int .u64 0, .int .u64 0, .bool false] 45 ∧ Below w.heap.size w W2 ∧ R = gr.mul k gG) := ⟨hG.call HB, hp, HB, hR⟩
 clear hsz HB hn hp hW2 hG hc hR hk
 go_enter Tryd.func31, Tryd.ntmps31
 go_upto_region 1 with fail
 rw [← HW.out]
 clear HW
 go_wp2_with (first | ((with_reducible refine load_to (b := w.heap.size) (k := 0) (x := 2) ?_ ?_ ?_ L1.out ?_); rfl; rfl; rfl) | ((with_reducible refine load_to (b := c) (k := 0) (x := 1) ?_ ?_ ?_ L2.out ?_); rfl; rfl; rfl))
 refine (KM.out _ H2.out.1.1 H2.out.1.2.1 H2.out.1.2.2.1).mono ?_
 rintro e w3 ⟨rfl, hb3⟩
 rw [← H2.out.2.2.2]
 have H3 : Hid (Bl w3 (w.heap.size + 1) [.int .u64 0, .int .u64 0, .int .u64 0, .int .u64 0, .int .u64 0, .int .u64 0, .int .u64 0, .int .u64 0, .bool false] 45 ∧ Below w.heap.size w w3) := ⟨H2.out.2.1.call hb3, below_call0 H2.out.2.2.1 hb3⟩
 clear hb3 H2 L1 L2 KM
 have HS : Hid ((storeVar 45 ⟨w.heap.size + 1, 0, none⟩ (.agg #[.int .u64 (limb (pX R) 0 : Nat), .int .u64 (limb (pX R) 1 : Nat), .int .u64 (limb (pX R) 2 : Nat), .int .u64 (limb (pX R) 3 : Nat), .int .u64 (limb (pY R) 0 : Nat), .int .u64 (limb (pY R) 1 : Nat), .int .u64 (limb (pY R) 2 : Nat), .int .u64 (limb (pY R) 3 : Nat), .bool (pI R)])).run Tryd.prog w3 = .ok () (w3.setRow (w.heap.size + 1) #[.int .u64 (limb (pX R) 0 : Nat), .int .u64 (limb (pX R) 1 : Nat), .int .u64 (limb (pX R) 2 : Nat), .int .u64 (limb (pX R) 3 : Nat), .int .u64 (limb (pY R) 0 : Nat), .int .u64 (limb (pY R) 1 : Nat), .int .u64 (limb (pY R) 2 : Nat), .int .u64 (limb (pY R) 3 : Nat), .bool (pI R)])) := H3.out.1.store (us := [.int .u64 (limb (pX R) 0 : Nat), .int .u64 (limb (pX R) 1 : Nat), .int .u64 (limb (pX R) 2 : Nat), .int .u64 (limb (pX R) 3 : Nat), .int .u64 (limb (pY R) 0 : Nat), .int .u64 (limb (pY R) 1 : Nat), .int .u64 (limb (pY R) 2 : Nat), .int .u64 (limb (pY R) 3 : Nat), .bool (pI R)]) (by kernel_rfl) rfl (by kernel_rfl)
 go_wp2_with ((with_reducible refine store_to (b := w.heap.size + 1) (k := 0) (x := 3) (y := 8) ?_ ?_ ?_ ?_ HS.out ?_); rfl; rfl; rfl; rfl)
 have hld : (loadVar 45 ⟨w.heap.size + 1, 0, none⟩).run Tryd.prog (w3.setRow (w.heap.size + 1) #[.int .u64 (limb (pX R) 0 : Nat), .int .u64 (limb (pX R) 1 : Nat), .int .u64 (limb (pX R) 2 : Nat), .int .u64 (limb (pX R) 3 : Nat), .int .u64 (limb (pY R) 0 : Nat), .int .u64 (limb (pY R) 1 : Nat), .int .u64 (limb (pY R) 2 : Nat), .int .u64 (limb (pY R) 3 : Nat), .bool (pI R)]) = .ok (.agg #[.int .u64 (limb (pX R) 0 : Nat), .int .u64 (limb (pX R) 1 : Nat), .int .u64 (limb (pX R) 2 : Nat), .int .u64 (limb (pX R) 3 : Nat), .int .u64 (limb (pY R) 0 : Nat), .int .u64 (limb (pY R) 1 : Nat), .int .u64 (limb (pY R) 2 : Nat), .int .u64 (limb (pY R) 3 : Nat), .bool (pI R)]) (w3.setRow (w.heap.size + 1) #[.int .u64 (limb (pX R) 0 : Nat), .int .u64 (limb (pX R) 1 : Nat), .int .u64 (limb (pX R) 2 : Nat), .int .u64 (limb (pX R) 3 : Nat), .int .u64 (limb (pY R) 0 : Nat), .int .u64 (limb (pY R) 1 : Nat), .int .u64 (limb (pY R) 2 : Nat), .int .u64 (limb (pY R) 3 : Nat), .bool (pI R)]) := (H3.out.1.put [.int .u64 (limb (pX R) 0 : Nat), .int .u64 (limb (pX R) 1 : Nat), .int .u64 (limb (pX R) 2 : Nat), .int .u64 (limb (pX R) 3 : Nat), .int .u64 (limb (pY R) 0 : Nat), .int .u64 (limb (pY R) 1 : Nat), .int .u64 (limb (pY R) 2 : Nat), .int .u64 (limb (pY R) 3 : Nat), .bool (pI R)]).load Tryd.underlying45 rfl (by kernel_rfl)
 refine bodyPost_ret (v := .tuple #[.agg #[.int .u64 (limb (pX R) 0 : Nat), .int .u64 (limb (pX R) 1 : Nat), .int .u64 (limb (pX R) 2 : Nat), .int .u64 (limb (pX R) 3 : Nat), .int .u64 (limb (pY R) 0 : Nat), .int .u64 (limb (pY R) 1 : Nat), .int .u64 (limb (pY R) 2 : Nat), .int .u64 (limb (pY R) 3 : Nat), .bool (pI R)], .int .i64 0]) ?_ rfl ⟨rfl, below_setRow (by omega) _ H3.out.2⟩
 simp [results, Tryd.results31, asAddr, hld]
end Go.Proofs.YtfkpbcionlidaaaDoor

namespace Go.Proofs.YtfkpbcionlidaaaDoor
open Go Go.RowKit Go.Lib
theorem setCells_putL (b : Nat) : ∀ (vs : List Value) (o : Nat) (w : World), w.setCells b o vs = putL b o vs w
 | [], _, _ => rfl
 | v :: r, o, w => by
  show (w.setCell ⟨b, o, none⟩ v).setCells b (o + 1) r = _
  rw [setCells_putL b r (o + 1)]
  rfl
theorem TabL.store {w : World} {p n k : Nat} {f : Nat → List Value} {ty : TypeId} (h : TabL w p n k f) {i : Nat} (hi : i < n) (vs : List Value) (hl : vs.length = k) (hs : (Tryd.prog.info? ty).map (·.size) = some vs.length) (h1 : vs.toArray.all (·.oneCell') = true) :
  (storeVar ty ⟨p, i * k, none⟩ (.agg vs.toArray)).run Tryd.prog w = .ok () (putL p (i * k) vs w) := by
 have e := run_storeVar_mid (P := Tryd.prog) w p (i * k) ty vs.toArray (fun j hj => ?_) (by simpa using hs) h1
 ·rw [e, ← setCells_putL]
 ·have hj' : j < (f i).length := by rw [h.2.2.1 i hi, ← hl]; simpa using hj
  exact ⟨by rw [h.2.2.2 i hi j _ (List.getElem?_eq_getElem hj')]; rfl, h.2.1 _⟩
theorem TabL.load {w : World} {p n k : Nat} {f : Nat → List Value} {ty : TypeId} {d : TypeDesc} (h : TabL w p n k f) {i : Nat} (hi : i < n) {vs : List Value} (e : f i = vs) (hu : Tryd.prog.underlying ty = some d) (hd : d.isRow = true) (hs : (Tryd.prog.info? ty).map (·.size) = some vs.length) :
  (loadVar ty ⟨p, i * k, none⟩).run Tryd.prog w = .ok (.agg vs.toArray) w :=
 run_loadVar_mid w p (i * k) ty vs d (fun j v hv => h.2.2.2 i hi j v (by rw [e]; exact hv)) hu hd hs
theorem NumB.load {w : World} {b o k : Nat} (h : NumB w b o k) : (loadVar 41 ⟨b, o, none⟩).run Tryd.prog w = .ok (.agg #[.int .u64 (limb k 0 : Nat), .int .u64 (limb k 1 : Nat), .int .u64 (limb k 2 : Nat), .int .u64 (limb k 3 : Nat)]) w :=
 run_loadVar_mid w b o 41 (numV k) _ (fun j v hv => by
  match j, hv with
  | 0, hv => cases hv; exact h.c0
  | 1, hv => cases hv; exact h.c1
  | 2, hv => cases hv; exact h.c2
  | 3, hv => cases hv; exact h.c3
  | j + 4, hv => simp [numV] at hv) Tryd.underlying41 rfl (by kernel_rfl)
/-- The commitments so far. -/
def fC (l : List Nat) (k j : Nat) : List Value := if j < k then ptsV (gr.mul (l.getD j 0) gG) else zpL
theorem fC_step (l : List Nat) (k j : Nat) : (if j = k then ptsV (gr.mul (l.getD k 0) gG) else fC l k j) = fC l (k + 1) j := by
 unfold fC
 by_cases e : j = k
 ·rw [if_pos e, if_pos (by omega), e]
 ·rw [if_neg e]
  by_cases c : j < k
  ·rw [if_pos c, if_pos (by omega)]
  ·rw [if_neg c, if_neg (by omega)]
theorem fC_pts {w : World} {p : Nat} {l : List Nat} (h : TabL w p l.length 9 (fC l l.length)) : PtsAt w (some ⟨p, 0, none⟩) (l.map fun k => gr.mul k gG) := fun j q hj => by
 have hj' : j < l.length := by
  rcases Nat.lt_or_ge j l.length with h' | h'
  ·exact h'
  ·rw [List.getElem?_eq_none (by simpa using h')] at hj
   cases hj
 have e : q = ptT (gr.mul (l.getD j 0) gG) := by
  rw [List.getElem?_map, List.getElem?_map, List.getElem?_eq_getElem hj'] at hj
  simp only [Option.map_some, Option.some.injEq] at hj
  rw [← hj, List.getD_eq_getElem?_getD, List.getElem?_eq_getElem hj']
  rfl
 refine ⟨p, 0, rfl, ?_⟩
 have t := TabL.pt h hj' (x := pX (gr.mul (l.getD j 0) gG)) (y := pY (gr.mul (l.getD j 0) gG)) (i := pI (gr.mul (l.getD j 0) gG)) (by unfold fC; rw [if_pos hj']; rfl)
 rw [e, Nat.zero_add]
 exact t
set_option maxRecDepth 100000 in
set_option maxHeartbeats 4000000 in
theorem each_ok (l : List Nat) (n : Nat) (a : Option Addr) (kc c : Nat) (hn : n = l.length) (h10 : n ≤ 10) (hl : ∀ k ∈ l, k < QQ) (w : World) (hG : GA w) (hN : NumsAt w a l) (hc : Bl w c (ptsV gG) 45) :
  Calls Tryd.prog 30 #[.slice a n kc, .func (.func 31) #[] #[.pointer (some ⟨c, 0, none⟩)]] w fun e w' => ∃ b, e = .returned (.tuple #[.slice (some ⟨b, 0, none⟩) n n, .int .i64 0]) ∧ PtsAt w' (some ⟨b, 0, none⟩) (l.map fun k => gr.mul k gG) ∧ Below w.heap.size w w' := by
 have KC : Hid (∀ (k : Nat) (R : Pts), k < QQ → R = gr.mul k gG → ∀ w, GA w → Bl w c (ptsV gG) 45 → Calls Tryd.prog 31 #[.agg #[.int .u64 (limb k 0 : Nat), .int .u64 (limb k 1 : Nat), .int .u64 (limb k 2 : Nat), .int .u64 (limb k 3 : Nat)], .pointer (some ⟨c, 0, none⟩)] w fun e w' => e = .returned (.tuple #[.agg #[.int .u64 (limb (pX R) 0 : Nat), .int .u64 (limb (pX R) 1 : Nat), .int .u64 (limb (pX R) 2 : Nat), .int .u64 (limb (pX R) 3 : Nat), .int .u64 (limb (pY R) 0 : Nat), .int .u64 (limb (pY R) 1 : Nat), .int .u64 (limb (pY R) 2 : Nat), .int .u64 (limb (pY R) 3 : Nat), .bool (pI R)], .int .i64 0]) ∧ Below w.heap.size w w') := fun k R hk hR w h1 h2 => commit1 k c R hk hR w h1 h2
 have H0 : Hid (GA w ∧ NumsAt w a l ∧ Bl w c (ptsV gG) 45 ∧ n = l.length ∧ (∀ k ∈ l, k < QQ) ∧ n ≤ 10) := ⟨hG, hN, hc, hn, hl, h10⟩
 have hm : ∀ w, (Instr.makeSlice 24 (.int .i64 (n : Int)) (.int .i64 (n : Int))).run Tryd.prog w = .ok (.slice (some ⟨w.heap.size, 0, none⟩) n n) (w.alloc (.cells (madeCells #[.int .u64 0, .int .u64 0, .int .u64 0, .int .u64 0, .int .u64 0, .int .u64 0, .int .u64 0, .int .u64 0, .bool false] (n * 9)) 45)) := fun w => make_points n (by omega) w
 have HS : Hid (TabL (w.alloc (.cells (madeCells #[.int .u64 0, .int .u64 0, .int .u64 0, .int .u64 0, .int .u64 0, .int .u64 0, .int .u64 0, .int .u64 0, .bool false] (n * 9)) 45)) w.heap.size n 9 (fC l 0) ∧ Below w.heap.size w (w.alloc (.cells (madeCells #[.int .u64 0, .int .u64 0, .int .u64 0, .int .u64 0, .int .u64 0, .int .u64 0, .int .u64 0, .int .u64 0, .bool false] (n * 9)) 45))) := ⟨(TabL.made w zpL n 9 45 rfl (by decide)).congr (fun j _ => by unfold fC; rw [if_neg (by omega)]), below_alloc0 (Below.refl _ _) _⟩
 have n64 : (n : Int) ≤ 64 := by omega
 clear hG hN hc hl h10 hn
 go_enter Tryd.func30, Tryd.ntmps30
 go_wp2_with fail
 clear hm
 rename_i Kr hKr
 have HKr : Hid _ := hKr
 clear hKr
 go_loopw [16] (fun iv wr => ∃ k : Nat, k ≤ n ∧ iv = .int .i64 (k : Nat) ∧ TabL wr w.heap.size n 9 (fC l k) ∧ Below w.heap.size w wr) (fun iv _ => n - (Go.RowKit.intOf iv).toNat)
 case atStart => exact ⟨0, Nat.zero_le _, rfl, HS.out⟩
 case round =>
  clear HS
  obtain ⟨k, hk, rfl, hT, hB⟩ := hrel
  rename World => wr
  have HC : Hid (TabL wr w.heap.size n 9 (fC l k) ∧ Below w.heap.size w wr ∧ k ≤ n) := ⟨hT, hB, hk⟩
  clear hT hB hk
  by_cases hlt : k < n
  ·clear HKr
   have hlt' : (k : Int) < (n : Int) := Int.ofNat_lt.2 hlt
   have hkl : k < l.length := by rw [← H0.out.2.2.2.1]; exact hlt
   obtain ⟨kb, ko, rfl, hNB⟩ := H0.out.2.1.get hkl
   obtain ⟨m, hm⟩ : ∃ m, m = l[k]'hkl := ⟨_, rfl⟩
   obtain ⟨R, hR⟩ : ∃ R, R = gr.mul m gG := ⟨_, rfl⟩
   rw [← hm] at hNB
   have hmQ : m < QQ := by rw [hm]; exact H0.out.2.2.2.2.1 _ (List.getElem_mem hkl)
   have K1 : Hid _ := KC.out m R hmQ hR
   have hgd : l.getD k 0 = m := by rw [List.getD_eq_getElem?_getD, List.getElem?_eq_getElem hkl, hm]; rfl
   have LN : Hid ((loadVar 41 ⟨kb, ko + k * 4, none⟩).run Tryd.prog wr = .ok (.agg #[.int .u64 (limb m 0 : Nat), .int .u64 (limb m 1 : Nat), .int .u64 (limb m 2 : Nat), .int .u64 (limb m 3 : Nat)]) wr) := (hNB.call HC.out.2.1).load
   have HE : Hid (k < n ∧ R = gr.mul (l.getD k 0) gG) := ⟨hlt, by rw [hgd]; exact hR⟩
   clear hm hR hmQ hgd hNB hkl KC
   obtain ⟨D, hD⟩ : ∃ D, D = wr.heap.size := ⟨_, rfl⟩
   obtain ⟨W4, hW4⟩ : ∃ W4, W4 = wr.alloc (.cells #[.int .u64 (limb m 0 : Nat), .int .u64 (limb m 1 : Nat), .int .u64 (limb m 2 : Nat), .int .u64 (limb m 3 : Nat)] 41) := ⟨_, rfl⟩
   have H4 : Hid (TabL W4 w.heap.size n 9 (fC l k) ∧ Below w.heap.size w W4 ∧ Bl W4 D (numV m) 41) := by
    rw [hW4, hD]
    exact ⟨HC.out.1.alloc, below_alloc0 HC.out.2.1 _, Bl.new wr (numV m) _⟩
   have HW4 : Hid (W4 = wr.alloc (.cells #[.int .u64 (limb m 0 : Nat), .int .u64 (limb m 1 : Nat), .int .u64 (limb m 2 : Nat), .int .u64 (limb m 3 : Nat)] 41) ∧ D = wr.heap.size) := ⟨hW4, hD⟩
   clear hW4 hD HC
   go_upto_region 5 with ((with_reducible refine load_to (b := kb) (k := ko + k * 4) (x := 19) ?_ ?_ ?_ LN.out ?_); rfl; rfl; rfl)
   rw [← HW4.out.1, ← HW4.out.2]
   clear HW4 LN
   have L4 : Hid ((loadVar 41 ⟨D, 0, none⟩).run Tryd.prog W4 = .ok (.agg #[.int .u64 (limb m 0 : Nat), .int .u64 (limb m 1 : Nat), .int .u64 (limb m 2 : Nat), .int .u64 (limb m 3 : Nat)]) W4) := H4.out.2.2.load Tryd.underlying41 rfl (by kernel_rfl)
   go_wp2_with ((with_reducible refine load_to (b := D) (k := 0) (x := 8) ?_ ?_ ?_ L4.out ?_); rfl; rfl; rfl)
   refine (K1.out _ (H0.out.1.call H4.out.2.1) (H0.out.2.2.1.call H4.out.2.1)).mono ?_
   rintro e w5 ⟨rfl, hb5⟩
   obtain ⟨E, hE⟩ : ∃ E, E = w5.heap.size := ⟨_, rfl⟩
   obtain ⟨W6, hW6⟩ : ∃ W6, W6 = w5.alloc (.cells #[.int .u64 (limb (pX R) 0 : Nat), .int .u64 (limb (pX R) 1 : Nat), .int .u64 (limb (pX R) 2 : Nat), .int .u64 (limb (pX R) 3 : Nat), .int .u64 (limb (pY R) 0 : Nat), .int .u64 (limb (pY R) 1 : Nat), .int .u64 (limb (pY R) 2 : Nat), .int .u64 (limb (pY R) 3 : Nat), .bool (pI R)] 45) := ⟨_, rfl⟩
   have H6 : Hid (TabL W6 w.heap.size n 9 (fC l k) ∧ Below w.heap.size w W6 ∧ Bl W6 E (ptsV R) 45) := by
    rw [hW6, hE]
    exact ⟨(H4.out.1.call hb5).alloc, below_alloc0 (below_call0 H4.out.2.1 hb5) _, Bl.new w5 (ptsV R) _⟩
   have HW6 : Hid (W6 = w5.alloc (.cells #[.int .u64 (limb (pX R) 0 : Nat), .int .u64 (limb (pX R) 1 : Nat), .int .u64 (limb (pX R) 2 : Nat), .int .u64 (limb (pX R) 3 : Nat), .int .u64 (limb (pY R) 0 : Nat), .int .u64 (limb (pY R) 1 : Nat), .int .u64 (limb (pY R) 2 : Nat), .int .u64 (limb (pY R) 3 : Nat), .bool (pI R)] 45) ∧ E = w5.heap.size) := ⟨hW6, hE⟩
   clear hW6 hE H4 hb5 L4 K1
   go_upto_region 6 with fail
   rw [← HW6.out.1, ← HW6.out.2]
   clear HW6
   have L6 : Hid ((loadVar 45 ⟨E, 0, none⟩).run Tryd.prog W6 = .ok (.agg #[.int .u64 (limb (pX R) 0 : Nat), .int .u64 (limb (pX R) 1 : Nat), .int .u64 (limb (pX R) 2 : Nat), .int .u64 (limb (pX R) 3 : Nat), .int .u64 (limb (pY R) 0 : Nat), .int .u64 (limb (pY R) 1 : Nat), .int .u64 (limb (pY R) 2 : Nat), .int .u64 (limb (pY R) 3 : Nat), .bool (pI R)]) W6) := H6.out.2.2.load Tryd.underlying45 rfl (by kernel_rfl)
   have S6 : Hid ((storeVar 45 ⟨w.heap.size, k * 9, none⟩ (.agg #[.int .u64 (limb (pX R) 0 : Nat), .int .u64 (limb (pX R) 1 : Nat), .int .u64 (limb (pX R) 2 : Nat), .int .u64 (limb (pX R) 3 : Nat), .int .u64 (limb (pY R) 0 : Nat), .int .u64 (limb (pY R) 1 : Nat), .int .u64 (limb (pY R) 2 : Nat), .int .u64 (limb (pY R) 3 : Nat), .bool (pI R)])).run Tryd.prog W6 = .ok () (putL w.heap.size (k * 9) (ptsV R) W6)) := H6.out.1.store HE.out.1 (ptsV R) rfl (by kernel_rfl) (by kernel_rfl)
   go_upto_region 9 with (first | ((with_reducible refine load_to (b := E) (k := 0) (x := 9) ?_ ?_ ?_ L6.out ?_); rfl; rfl; rfl) | ((with_reducible refine store_to (b := w.heap.size) (k := k * 9) (x := 33) (y := 32) ?_ ?_ ?_ ?_ S6.out ?_); rfl; rfl; rfl; rfl))
   have H8 : Hid (TabL (putL w.heap.size (k * 9) (ptsV R) W6) w.heap.size n 9 (fC l (k + 1)) ∧ Below w.heap.size w (putL w.heap.size (k * 9) (ptsV R) W6)) :=
    ⟨(TabL.put k (ptsV R) H6.out.1 HE.out.1 rfl).congr (fun j _ => by rw [HE.out.2]; exact fC_step l k j), below_putL (Nat.le_refl _) _ _ _ H6.out.2.1⟩
   clear L6 S6 H6
   obtain ⟨W8, hW8⟩ : ∃ W8, W8 = putL w.heap.size (k * 9) (ptsV R) W6 := ⟨_, rfl⟩
   rw [← hW8] at H8
   rw [← hW8]
   clear hW8
   go_wp2_with fail
   go_roundw
   case rel => first | exact ⟨k + 1, hlt, by go_num, H8.out⟩ | ((repeat apply Exists.intro); exact ⟨⟨k + 1, hlt, by go_num, H8.out⟩, rfl⟩)
   case measure => simp [intOf]; omega
  ·obtain rfl : k = n := by have := HC.out.2.2; omega
   have hnl : ¬ ((k : Int) < (k : Int)) := Int.lt_irrefl _
   clear hlt KC
   go_wp2_with fail
   refine HKr.out _ _ ?_
   clear HKr
   go_wp2_with fail
   have hf := H0.out.2.2.2.1
   have ht := HC.out.1
   rw [hf] at ht
   refine bodyPost_ret (v := .tuple #[.slice (some ⟨w.heap.size, 0, none⟩) k k, .int .i64 0]) (by simp [results, Tryd.results30]) rfl ⟨w.heap.size, rfl, fC_pts ht, HC.out.2.1⟩
end Go.Proofs.YtfkpbcionlidaaaDoor

namespace Go.Proofs.YtfkpbcionlidaaaDoor
open Go Go.RowKit Go.Lib
theorem numsAt_of {w : World} {a : Option Addr} {l : List Nat} (h : Nums w a l) : NumsAt w a l := fun j n hj => by
 obtain ⟨p, o, h1, h2, h3⟩ := h j n hj
 exact ⟨p, o, h1, h3, h2 0 (by decide), h2 1 (by decide), h2 2 (by decide), h2 3 (by decide)⟩
theorem atNought (l : List Nat) (n : Nat) (a : Option Addr) (kc : Nat) (V : Nat) (E : Int) (hn : n = l.length) (hV : V = atV l 0) (hE : E = atE l 0) (hR : ∀ k ∈ l, k < R256) (w : World) (hG : GlobQ w) (hN : Nums w a l) :
  Calls Tryd.prog 28 #[.slice a n kc, .agg #[.int .u64 0, .int .u64 0, .int .u64 0, .int .u64 0]] w fun e w' => e = .returned (.tuple #[.agg #[.int .u64 (limb V 0 : Nat), .int .u64 (limb V 1 : Nat), .int .u64 (limb V 2 : Nat), .int .u64 (limb V 3 : Nat)], .int .i64 E]) ∧ Below w.heap.size w w' := by
 have h := at_any a l kc 0 hR (by decide) w hG hN
 rw [lit0.1, lit0.2.1, lit0.2.2.1, lit0.2.2.2, ← hV, ← hE, ← hn] at h
 exact h
set_option maxRecDepth 100000 in
set_option maxHeartbeats 4000000 in
theorem fcom_in (l : List Nat) (n : Nat) (a : Option Addr) (kc : Nat) (V : Nat) (E : Int) (hn : n = l.length) (hV : V = atV l 0) (hE : E = atE l 0) (hR : ∀ k ∈ l, k < R256) (hE1 : E = 0 ∨ E = 1 ∨ E = 20) (hok : E = 0 → n ≤ 10 ∧ ∀ k ∈ l, k < QQ) (w : World) (hG : GA w) (hN : Nums w a l) :
  Calls Tryd.prog 11 #[.slice a n kc] w fun e w' => (∃ b c, e = .returned (.tuple #[.slice b c c, .int .i64 E]) ∧ (E = 0 → c = n ∧ PtsAt w' b (l.map fun k => gr.mul k gG)) ∧ (E ≠ 0 → c = 0)) ∧ Below w.heap.size w w' := by
 have KA : Hid _ := atNought l n a kc V E hn hV hE hR
 have KG : Hid _ := G_A
 have KE : Hid _ := each_ok l n a kc
 have H0 : Hid (GA w ∧ Nums w a l ∧ n = l.length ∧ (E = 0 → n ≤ 10 ∧ ∀ k ∈ l, k < QQ)) := ⟨hG, hN, hn, hok⟩
 clear hn hV hE hR hG hN hok
 go_enter Tryd.func11, Tryd.ntmps11
 go_wp2_with fail
 refine (KA.out _ H0.out.1.2.1 H0.out.2.1).mono ?_
 rintro e w1 ⟨rfl, hb1⟩
 obtain ⟨W2, hW2⟩ : ∃ W2, W2 = w1.alloc (.cells #[.int .u64 (limb V 0 : Nat), .int .u64 (limb V 1 : Nat), .int .u64 (limb V 2 : Nat), .int .u64 (limb V 3 : Nat)] 41) := ⟨_, rfl⟩
 have H2 : Hid (Below w.heap.size w W2) := by
  rw [hW2]
  exact below_alloc0 hb1 _
 have HW : Hid (W2 = w1.alloc (.cells #[.int .u64 (limb V 0 : Nat), .int .u64 (limb V 1 : Nat), .int .u64 (limb V 2 : Nat), .int .u64 (limb V 3 : Nat)] 41)) := hW2
 clear hb1 KA hW2
 go_upto_region 2 with fail
 rw [← HW.out]
 clear HW
 rcases hE1 with rfl | rfl | rfl
 ·go_wp2_with fail
  refine (KG.out _ (H0.out.1.call H2.out).2.2.2).mono ?_
  rintro e w3 ⟨rfl, hb3⟩
  obtain ⟨c, hc⟩ : ∃ c, c = w3.heap.size := ⟨_, rfl⟩
  obtain ⟨W4, hW4⟩ : ∃ W4, W4 = w3.alloc (.cells #[.int .u64 (limb (pX gG) 0 : Nat), .int .u64 (limb (pX gG) 1 : Nat), .int .u64 (limb (pX gG) 2 : Nat), .int .u64 (limb (pX gG) 3 : Nat), .int .u64 (limb (pY gG) 0 : Nat), .int .u64 (limb (pY gG) 1 : Nat), .int .u64 (limb (pY gG) 2 : Nat), .int .u64 (limb (pY gG) 3 : Nat), .bool (pI gG)] 45) := ⟨_, rfl⟩
  have H4 : Hid (Below w.heap.size w W4 ∧ Bl W4 c (ptsV gG) 45) := by
   rw [hW4, hc]
   exact ⟨below_alloc0 (below_call0 H2.out hb3) _, Bl.new w3 (ptsV gG) _⟩
  have HW : Hid (W4 = w3.alloc (.cells #[.int .u64 (limb (pX gG) 0 : Nat), .int .u64 (limb (pX gG) 1 : Nat), .int .u64 (limb (pX gG) 2 : Nat), .int .u64 (limb (pX gG) 3 : Nat), .int .u64 (limb (pY gG) 0 : Nat), .int .u64 (limb (pY gG) 1 : Nat), .int .u64 (limb (pY gG) 2 : Nat), .int .u64 (limb (pY gG) 3 : Nat), .bool (pI gG)] 45) ∧ c = w3.heap.size) := ⟨hW4, hc⟩
  clear hW4 hc hb3 H2 KG
  go_upto_region 5 with fail
  rw [← HW.out.1, ← HW.out.2]
  clear HW
  have ho := H0.out.2.2.2 (by simp)
  have KE1 : Hid _ := fun h1 h2 h3 => KE.out c H0.out.2.2.1 ho.1 ho.2 W4 h1 h2 h3
  clear ho
  go_wp2_with fail
  refine (KE1.out (H0.out.1.call H4.out.1) ((numsAt_of H0.out.2.1).call H4.out.1) H4.out.2).mono ?_
  rintro e w5 ⟨b, rfl, hp5, hb5⟩
  have H5 : Hid (PtsAt w5 (some ⟨b, 0, none⟩) (l.map fun k => gr.mul k gG) ∧ Below w.heap.size w w5) := ⟨hp5, below_call0 H4.out.1 hb5⟩
  clear hp5 hb5 H4 KE1 KE
  go_wp2_with fail
  refine bodyPost_ret (v := .tuple #[.slice (some ⟨b, 0, none⟩) n n, .int .i64 0]) (by simp [results, Tryd.results11]) rfl ⟨⟨_, n, rfl, by first | exact ⟨rfl, H5.out.1⟩ | exact ⟨⟨rfl, H5.out.1⟩, fun h => absurd rfl h⟩ | exact ⟨fun _ => ⟨rfl, H5.out.1⟩, fun h => absurd rfl h⟩⟩, H5.out.2⟩
 ·go_wp2_with fail
  refine bodyPost_ret (v := .tuple #[.slice none 0 0, .int .i64 1]) (by simp [results, Tryd.results11]) rfl ⟨⟨none, 0, rfl, (fun h => by cases h), fun _ => rfl⟩, H2.out⟩
 ·go_wp2_with fail
  refine bodyPost_ret (v := .tuple #[.slice none 0 0, .int .i64 20]) (by simp [results, Tryd.results11]) rfl ⟨⟨none, 0, rfl, (fun h => by cases h), fun _ => rfl⟩, H2.out⟩
/-- Commit of any polynomial: its error is share.At's. -/
theorem fcom_any (l : List Nat) (n : Nat) (a : Option Addr) (kc : Nat) (hn : n = l.length) (hR : ∀ k ∈ l, k < R256) (w : World) (hG : GA w) (hN : Nums w a l) :
  Calls Tryd.prog 11 #[.slice a n kc] w fun e w' => (∃ b c, e = .returned (.tuple #[.slice b c c, .int .i64 (atE l 0)]) ∧ (atE l 0 = 0 → c = n ∧ PtsAt w' b (l.map fun k => gr.mul k gG)) ∧ (atE l 0 ≠ 0 → c = 0)) ∧ Below w.heap.size w w' := by
 refine fcom_in l n a kc _ _ hn rfl rfl hR ?_ (fun h => ?_) w hG hN
 ·unfold atE
  split
  ·split
   ·exact .inl rfl
   ·exact .inr (.inr rfl)
  ·exact .inr (.inl rfl)
 ·unfold atE at h
  split at h
  ·next h1 =>
   split at h
   ·next h2 => exact ⟨by omega, fun k hk => allQ_mem h2.1 hk⟩
   ·cases h
  ·cases h
end Go.Proofs.YtfkpbcionlidaaaDoor

namespace Go.Proofs.YtfkpbcionlidaaaDoor
open Go Go.RowKit Go.Lib
theorem infoNumF : ∃ i, Tryd.prog.info? 41 = some i ∧ i.zero = some (.agg #[.int .u64 0, .int .u64 0, .int .u64 0, .int .u64 0]) ∧ i.size = 4 ∧ i.bytes = 32 := by
 have h : (Tryd.prog.info? 41).map (fun i => (i.zero, i.size, i.bytes)) = some (some (.agg #[.int .u64 0, .int .u64 0, .int .u64 0, .int .u64 0]), 4, 32) := by kernel_rfl
 cases e : Tryd.prog.info? 41 with
 | none => rw [e] at h; cases h
 | some i =>
  rw [e] at h
  simp only [Option.map_some, Option.some.injEq, Prod.mk.injEq] at h
  exact ⟨i, rfl, h.1, h.2.1, h.2.2⟩
theorem make_nums (n : Nat) (hn : n ≤ 1000000) (w : World) : (Instr.makeSlice 32 (.int .i64 (n : Int)) (.int .i64 (n : Int))).run Tryd.prog w = .ok (.slice (some ⟨w.heap.size, 0, none⟩) n n) (w.alloc (.cells (madeCells #[.int .u64 0, .int .u64 0, .int .u64 0, .int .u64 0] (n * 4)) 41)) := by
 obtain ⟨i, hi, hz, hsize, hby⟩ := infoNumF
 have h := run_make (P := Tryd.prog) w 32 41 i _ Tryd.underlying32 hi hz .i64 .i64 (n : Int) (n : Int) (by omega) (Int.le_refl _) (by rw [hby]; omega) (by omega)
 rw [hsize] at h
 simp only [Int.toNat_natCast] at h
 exact h
/-- The powers so far. -/
def fX (x i j : Nat) : List Value := if j < i then numV (x ^ j % QQ) else [.int .u64 0, .int .u64 0, .int .u64 0, .int .u64 0]
theorem fX_step (x i j : Nat) : (if j = i then numV (x ^ i % QQ) else fX x i j) = fX x (i + 1) j := by
 unfold fX
 by_cases e : j = i
 ·rw [if_pos e, if_pos (by omega), e]
 ·rw [if_neg e]
  by_cases c : j < i
  ·rw [if_pos c, if_pos (by omega)]
  ·rw [if_neg c, if_neg (by omega)]
theorem fX_at {x i j : Nat} (h : j < i) : fX x i j = numV (x ^ j % QQ) := if_pos h
theorem fX_nums {w : World} {p n x : Nat} (h : TabL w p n 4 (fX x n)) : NumsAt w (some ⟨p, 0, none⟩) ((List.range n).map fun i => x ^ i % QQ) := fun j m hj => by
 have hj' : j < n := by
  rcases Nat.lt_or_ge j n with h' | h'
  ·exact h'
  ·rw [List.getElem?_eq_none (by simpa using h')] at hj
   cases hj
 have e : m = x ^ j % QQ := by
  rw [List.getElem?_map, List.getElem?_eq_getElem (by simpa using hj')] at hj
  simpa using hj.symm
 have t := fun c v (hv : (numV m)[c]? = some v) => h.2.2.2 j hj' c v (by rw [fX_at hj', ← e]; exact hv)
 refine ⟨p, 0, rfl, h.1, ?_, ?_, ?_, ?_⟩
 all_goals rw [Nat.zero_add]
 ·exact t 0 _ rfl
 ·exact t 1 _ rfl
 ·exact t 2 _ rfl
 ·exact t 3 _ rfl
theorem FieldB.putsF {g m p : Nat} (hne : p ≠ g) : ∀ (vs : List Value) (j : Nat) (W : World), FieldB W g m → FieldB (putL p j vs W) g m
 | [], _, _, h => h
 | _ :: r, j, _, h => FieldB.putsF hne r (j + 1) _ (h.set hne)
theorem one_Q : 1 % QQ = 1 := by kernel_rfl
theorem pow_step (x i : Nat) (h : 1 ≤ i) : x ^ (i - 1) % QQ * x % QQ = x ^ i % QQ := by
 obtain ⟨j, rfl⟩ : ∃ j, i = j + 1 := ⟨i - 1, by omega⟩
 rw [Nat.add_sub_cancel, Nat.pow_succ, Nat.mod_mul_mod]
theorem one_V (x : Nat) : numV (x ^ 0 % QQ) = [.int .u64 1, .int .u64 0, .int .u64 0, .int .u64 0] := by
 obtain ⟨e0, e1, e2, e3⟩ := limb_small 1 (of_decide_eq_true (by kernel_rfl))
 unfold numV
 rw [Nat.pow_zero, one_Q, e0, e1, e2, e3]
 rfl
theorem pow_lt (x j : Nat) : x ^ j % QQ < QQ := Nat.mod_lt _ (of_decide_eq_true (by kernel_rfl))
set_option maxRecDepth 100000 in
set_option maxHeartbeats 4000000 in
theorem powers_ok (x n : Nat) (hx : x ≤ 10) (hn : 1 ≤ n ∧ n ≤ 10) (w : World) (hQ : GlobQ w) :
  Calls Tryd.prog 52 #[.int .i64 (x : Nat), .int .i64 (n : Nat)] w fun e w' => ∃ b, e = .returned (.slice (some ⟨b, 0, none⟩) n n) ∧ NumsAt w' (some ⟨b, 0, none⟩) ((List.range n).map fun i => x ^ i % QQ) ∧ Below w.heap.size w w' := by
 have KS : Hid _ := scalars_any
 have KM : Hid (∀ (g p : Nat) (w : World), p < QQ → FieldB w g QQ → Calls Tryd.prog 70 #[.pointer (some ⟨g, 0, none⟩), .agg #[.int .u64 (limb p 0 : Nat), .int .u64 (limb p 1 : Nat), .int .u64 (limb p 2 : Nat), .int .u64 (limb p 3 : Nat)], .agg #[.int .u64 (x : Nat), .int .u64 0, .int .u64 0, .int .u64 0]] w fun e w' => ∃ r, r = p * x % QQ ∧ e = .returned (.tuple #[.agg #[.int .u64 (limb r 0 : Nat), .int .u64 (limb r 1 : Nat), .int .u64 (limb r 2 : Nat), .int .u64 (limb r 3 : Nat)], .int .i64 0]) ∧ Below w.heap.size w w') := fun g p w hp h => by
  have k := fmul_in g QQ p x FM_Q hp (Nat.lt_of_le_of_lt hx (of_decide_eq_true (by kernel_rfl))) w h
  obtain ⟨e0, e1, e2, e3⟩ := limb_small x (Nat.lt_of_le_of_lt hx (of_decide_eq_true (by kernel_rfl)))
  rw [e0, e1, e2, e3] at k
  refine k.mono ?_
  rintro e w' ⟨he, hb⟩
  exact ⟨_, rfl, he, hb⟩
 have hx1 : (0 : Int) ≤ (x : Int) := by omega
 have hx2 : (x : Int) ≤ 10 := by omega
 have hn1 : (1 : Int) ≤ (n : Int) := by omega
 have hn2 : (n : Int) ≤ 10 := by omega
 have hm : ∀ w, (Instr.makeSlice 32 (.int .i64 (n : Int)) (.int .i64 (n : Int))).run Tryd.prog w = .ok (.slice (some ⟨w.heap.size, 0, none⟩) n n) (w.alloc (.cells (madeCells #[.int .u64 0, .int .u64 0, .int .u64 0, .int .u64 0] (n * 4)) 41)) := fun w => make_nums n (by omega) w
 have H0 : Hid (GlobQ w ∧ x ≤ 10 ∧ 1 ≤ n ∧ n ≤ 10) := ⟨hQ, hx, hn⟩
 clear hQ hx hn
 go_enter Tryd.func52, Tryd.ntmps52
 go_wp2_with fail
 refine (KS.out _ H0.out.1).mono ?_
 rintro e w1 ⟨g, rfl, hF1, hb1⟩
 obtain ⟨B, hB⟩ : ∃ B, B = w1.heap.size := ⟨_, rfl⟩
 obtain ⟨W2, hW2⟩ : ∃ W2, W2 = w1.alloc (.cells (madeCells #[.int .u64 0, .int .u64 0, .int .u64 0, .int .u64 0] (n * 4)) 41) := ⟨_, rfl⟩
 have H2 : Hid (TabL W2 B n 4 (fX x 0) ∧ Below w.heap.size w W2 ∧ FieldB W2 g QQ ∧ w.heap.size ≤ B ∧ g ≠ B) := by
  rw [hW2, hB]
  refine ⟨(TabL.made w1 [.int .u64 0, .int .u64 0, .int .u64 0, .int .u64 0] n 4 41 rfl (by decide)).congr (fun j _ => by unfold fX; rw [if_neg (by omega)]), below_alloc0 hb1 _, hF1.call (below_alloc0 (Below.refl _ _) _), hb1.size, ?_⟩
  have := hF1.2.2
  omega
 have HW : Hid (W2 = w1.alloc (.cells (madeCells #[.int .u64 0, .int .u64 0, .int .u64 0, .int .u64 0] (n * 4)) 41) ∧ B = w1.heap.size) := ⟨hW2, hB⟩
 clear hW2 hB hF1 hb1 KS
 go_upto_region 3 with fail
 rw [← HW.out.1, ← HW.out.2]
 clear HW hm
 have S2 : Hid ((storeVar 41 ⟨B, 0, none⟩ (.agg #[.int .u64 1, .int .u64 0, .int .u64 0, .int .u64 0])).run Tryd.prog W2 = .ok () (putL B (0 * 4) [.int .u64 1, .int .u64 0, .int .u64 0, .int .u64 0] W2)) := H2.out.1.store (i := 0) H0.out.2.2.1 [.int .u64 1, .int .u64 0, .int .u64 0, .int .u64 0] rfl (by kernel_rfl) (by kernel_rfl)
 go_upto_region 4 with ((with_reducible refine store_to (b := B) (k := 0) (x := 13) (y := 12) ?_ ?_ ?_ ?_ S2.out ?_); rfl; rfl; rfl; rfl)
 obtain ⟨W3, hW3⟩ : ∃ W3, W3 = putL B (0 * 4) [.int .u64 1, .int .u64 0, .int .u64 0, .int .u64 0] W2 := ⟨_, rfl⟩
 rw [← hW3]
 have H3 : Hid (TabL W3 B n 4 (fX x 1) ∧ Below w.heap.size w W3 ∧ FieldB W3 g QQ ∧ w.heap.size ≤ B ∧ g ≠ B) := by
  rw [hW3]
  refine ⟨(TabL.put 0 _ H2.out.1 H0.out.2.2.1 rfl).congr (fun j _ => ?_), below_putL H2.out.2.2.2.1 _ _ _ H2.out.2.1, FieldB.putsF H2.out.2.2.2.2.symm _ _ _ H2.out.2.2.1, H2.out.2.2.2⟩
  rw [← one_V x]
  exact fX_step x 0 j
 clear hW3 S2 H2
 go_wp2_with fail
 rename_i Kr hKr
 have HKr : Hid _ := hKr
 clear hKr
 go_loopw [7] (fun iv wr => ∃ j : Nat, j + 1 ≤ n ∧ iv = .int .i64 ((j : Int) + 1) ∧ TabL wr B n 4 (fX x (j + 1)) ∧ Below w.heap.size w wr ∧ FieldB wr g QQ) (fun iv _ => n - (Go.RowKit.intOf iv).toNat)
 case atStart => exact ⟨0, H0.out.2.2.1, rfl, H3.out.1, H3.out.2.1, H3.out.2.2.1⟩
 case round =>
  obtain ⟨j, hj, rfl, hT, hB, hF⟩ := hrel
  rename World => wr
  have HC : Hid (TabL wr B n 4 (fX x (j + 1)) ∧ Below w.heap.size w wr ∧ FieldB wr g QQ ∧ j + 1 ≤ n) := ⟨hT, hB, hF, hj⟩
  clear hT hB hF hj
  by_cases hlt : j + 1 < n
  ·clear HKr
   have hlt' : (j : Int) + 1 < (n : Int) := by omega
   have hj0 : (0 : Int) ≤ (j : Int) := by omega
   go_upto_region 7 with fail
   have LJ : Hid ((loadVar 41 ⟨B, j * 4, none⟩).run Tryd.prog wr = .ok (.agg #[.int .u64 (limb (x ^ j % QQ) 0 : Nat), .int .u64 (limb (x ^ j % QQ) 1 : Nat), .int .u64 (limb (x ^ j % QQ) 2 : Nat), .int .u64 (limb (x ^ j % QQ) 3 : Nat)]) wr) := HC.out.1.load (i := j) (by omega) (fX_at (by omega)) Tryd.underlying41 rfl (by kernel_rfl)
   go_wp2_with ((with_reducible refine load_to (b := B) (k := j * 4) (x := 26) ?_ ?_ ?_ LJ.out ?_); rfl; rfl; rfl)
   refine (KM.out g (x ^ j % QQ) wr (pow_lt x j) HC.out.2.2.1).mono ?_
   rintro e w5 ⟨r, hr, rfl, hb5⟩
   have H5 : Hid (TabL w5 B n 4 (fX x (j + 1)) ∧ Below w.heap.size w w5 ∧ FieldB w5 g QQ ∧ r = x ^ (j + 1) % QQ) := ⟨HC.out.1.call hb5, below_call0 HC.out.2.1 hb5, HC.out.2.2.1.call hb5, by rw [hr]; exact pow_step x (j + 1) (by omega)⟩
   clear hb5 hr HC LJ
   have S5 : Hid ((storeVar 41 ⟨B, (j + 1) * 4, none⟩ (.agg #[.int .u64 (limb r 0 : Nat), .int .u64 (limb r 1 : Nat), .int .u64 (limb r 2 : Nat), .int .u64 (limb r 3 : Nat)])).run Tryd.prog w5 = .ok () (putL B ((j + 1) * 4) (numV r) w5)) := H5.out.1.store (i := j + 1) hlt (numV r) rfl (by kernel_rfl) (by kernel_rfl)
   go_upto_region 6 with ((with_reducible refine store_to (b := B) (k := (j + 1) * 4) (x := 34) (y := 32) ?_ ?_ ?_ ?_ S5.out ?_); rfl; rfl; rfl; rfl)
   obtain ⟨W6, hW6⟩ : ∃ W6, W6 = putL B ((j + 1) * 4) (numV r) w5 := ⟨_, rfl⟩
   rw [← hW6]
   have H6 : Hid (TabL W6 B n 4 (fX x (j + 1 + 1)) ∧ Below w.heap.size w W6 ∧ FieldB W6 g QQ) := by
    rw [hW6]
    refine ⟨(TabL.put (j + 1) _ H5.out.1 hlt rfl).congr (fun i _ => ?_), below_putL H3.out.2.2.2.1 _ _ _ H5.out.2.1, FieldB.putsF H3.out.2.2.2.2.symm _ _ _ H5.out.2.2.1⟩
    rw [H5.out.2.2.2]
    exact fX_step x (j + 1) i
   clear hW6 S5 H5
   go_wp2_with fail
   go_roundw
   case rel => first | exact ⟨j + 1, by omega, by go_num, H6.out⟩ | ((repeat apply Exists.intro); exact ⟨⟨j + 1, by omega, by go_num, H6.out⟩, rfl⟩)
   case measure => simp [intOf]; omega
  ·obtain rfl : n = j + 1 := by have := HC.out.2.2.2; omega
   have hnl : ¬ ((j : Int) + 1 < ((j + 1 : Nat) : Int)) := by omega
   clear hlt KM
   go_wp2_with fail
   refine HKr.out _ _ ?_
   clear HKr
   go_wp2_with fail
   refine bodyPost_ret (v := .slice (some ⟨B, 0, none⟩) (j + 1) (j + 1)) (by simp [results, Tryd.results52]) rfl ⟨B, rfl, fX_nums HC.out.1, HC.out.2.1⟩
end Go.Proofs.YtfkpbcionlidaaaDoor

namespace Go.Proofs.YtfkpbcionlidaaaDoor
open Go Go.RowKit Go.Lib
theorem eqPts (a b : Pts) (D : Bool) (hD : D = true ↔ a = b) (w : World) : (Op.equalIn 10000 45 (.agg #[.int .u64 (limb (pX a) 0 : Nat), .int .u64 (limb (pX a) 1 : Nat), .int .u64 (limb (pX a) 2 : Nat), .int .u64 (limb (pX a) 3 : Nat), .int .u64 (limb (pY a) 0 : Nat), .int .u64 (limb (pY a) 1 : Nat), .int .u64 (limb (pY a) 2 : Nat), .int .u64 (limb (pY a) 3 : Nat), .bool (pI a)]) (.agg #[.int .u64 (limb (pX b) 0 : Nat), .int .u64 (limb (pX b) 1 : Nat), .int .u64 (limb (pX b) 2 : Nat), .int .u64 (limb (pX b) 3 : Nat), .int .u64 (limb (pY b) 0 : Nat), .int .u64 (limb (pY b) 1 : Nat), .int .u64 (limb (pY b) 2 : Nat), .int .u64 (limb (pY b) 3 : Nat), .bool (pI b)])).run Tryd.prog w = .ok D w := by
 rw [run_eqP, eq4_num _ _ (Nat.lt_trans (pX_lt a) (of_decide_eq_true (by kernel_rfl))) (Nat.lt_trans (pX_lt b) (of_decide_eq_true (by kernel_rfl))), eq4_num _ _ (Nat.lt_trans (pY_lt a) (of_decide_eq_true (by kernel_rfl))) (Nat.lt_trans (pY_lt b) (of_decide_eq_true (by kernel_rfl)))]
 by_cases h : a = b
 ·rw [hD.2 h]
  subst h
  simp
 ·have hf : D = false := by
   cases D
   ·rfl
   ·exact absurd (hD.1 rfl) h
  rw [hf]
  by_cases h1 : pX a = pX b
  ·by_cases h2 : pY a = pY b
   ·by_cases h3 : pI a = pI b
    ·exact absurd (pts_inj h1 h2 h3) h
    ·simp [h1, h2, h3]
   ·simp [h2]
  ·simp [h1]
/-- What a node's commitments tell. -/
def vaP (x : Nat) (cs : List Pts) : Pts := gr.tot gr.mul (List.zip ((List.range cs.length).map fun i => x ^ i % QQ) cs)
set_option maxRecDepth 100000 in
set_option maxHeartbeats 4000000 in
theorem fval_ok (cs : List Pts) (n x : Nat) (b : Option Addr) (kc : Nat) (V : Pts) (hn : n = cs.length) (h1 : 1 ≤ n ∧ n ≤ 10) (hx : x ≤ 10) (hV : V = vaP x cs) (w : World) (hG : GA w) (hP : PtsAt w b cs) :
  Calls Tryd.prog 33 #[.slice b n kc, .int .i64 (x : Nat)] w fun e w' => e = .returned (.tuple #[.agg #[.int .u64 (limb (pX V) 0 : Nat), .int .u64 (limb (pX V) 1 : Nat), .int .u64 (limb (pX V) 2 : Nat), .int .u64 (limb (pX V) 3 : Nat), .int .u64 (limb (pY V) 0 : Nat), .int .u64 (limb (pY V) 1 : Nat), .int .u64 (limb (pY V) 2 : Nat), .int .u64 (limb (pY V) 3 : Nat), .bool (pI V)], .int .i64 0]) ∧ Below w.heap.size w w' := by
 have KI : Hid _ := isCount_ok n h1
 have KP : Hid _ := powers_ok x n hx h1
 have KS : Hid (∀ (k : Nat) (w : World), GA w → NumsAt w (some ⟨k, 0, none⟩) ((List.range n).map fun i => x ^ i % QQ) → PtsAt w b cs → Calls Tryd.prog 37 #[.slice (some ⟨k, 0, none⟩) n n, .slice b n kc] w fun e w' => e = .returned (.tuple #[.agg #[.int .u64 (limb (pX V) 0 : Nat), .int .u64 (limb (pX V) 1 : Nat), .int .u64 (limb (pX V) 2 : Nat), .int .u64 (limb (pX V) 3 : Nat), .int .u64 (limb (pY V) 0 : Nat), .int .u64 (limb (pY V) 1 : Nat), .int .u64 (limb (pY V) 2 : Nat), .int .u64 (limb (pY V) 3 : Nat), .bool (pI V)], .int .i64 0]) ∧ Below w.heap.size w w') := fun k w h2 h3 h4 => by
  have hl1 : ((List.range n).map fun i => x ^ i % QQ).length = cs.length := by rw [List.length_map, List.length_range, hn]
  have s := Sum_ok n (some ⟨k, 0, none⟩) b n kc (List.zip ((List.range n).map fun i => x ^ i % QQ) cs) (by rw [List.length_zip, hl1, Nat.min_self, hn]) (by omega) (fun z hz => by
   have := (List.of_mem_zip hz).1
   rw [List.mem_map] at this
   obtain ⟨i, _, hi⟩ := this
   rw [← hi]
   exact pow_lt x i) w h2.1 h2.2.1 h2.2.2.1 (by rw [List.map_fst_zip (by omega)]; exact h3) (by rw [List.map_snd_zip (by omega)]; exact h4)
  rw [hV]
  unfold vaP
  rw [← hn]
  exact s
 have hx1 : (0 : Int) ≤ (x : Int) := by omega
 have hx2 : (x : Int) ≤ 10 := by omega
 have hx3 : ¬ ((x : Int) < 0) := by omega
 have hx4 : ¬ ((10 : Int) < (x : Int)) := by omega
 obtain ⟨W2, hW2⟩ : ∃ W2, W2 = w.alloc (.cells #[.int .u64 0, .int .u64 0, .int .u64 0, .int .u64 0, .int .u64 0, .int .u64 0, .int .u64 0, .int .u64 0, .bool false] 45) := ⟨_, rfl⟩
 have H2 : Hid (Below w.heap.size w W2 ∧ Bl W2 w.heap.size [.int .u64 0, .int .u64 0, .int .u64 0, .int .u64 0, .int .u64 0, .int .u64 0, .int .u64 0, .int .u64 0, .bool false] 45 ∧ GA W2 ∧ PtsAt W2 b cs) := by
  have hb : Below w.heap.size w W2 := by
   rw [hW2]
   exact below_alloc0 (Below.refl _ _) _
  refine ⟨hb, ?_, hG.call hb, hP.call hb⟩
  rw [hW2]
  exact Bl.new w [.int .u64 0, .int .u64 0, .int .u64 0, .int .u64 0, .int .u64 0, .int .u64 0, .int .u64 0, .int .u64 0, .bool false] _
 have HW : Hid (W2 = w.alloc (.cells #[.int .u64 0, .int .u64 0, .int .u64 0, .int .u64 0, .int .u64 0, .int .u64 0, .int .u64 0, .int .u64 0, .bool false] 45)) := hW2
 clear hn h1 hx hV hG hP hW2
 go_enter Tryd.func33, Tryd.ntmps33
 go_upto_region 1 with fail
 rw [← HW.out]
 clear HW
 go_wp2_with fail
 refine (KI.out _).mono ?_
 rintro e w1 ⟨rfl, h1⟩
 obtain rfl : W2 = w1 := h1.symm
 go_wp2_with fail
 refine (KP.out _ H2.out.2.2.1.2.1).mono ?_
 rintro e w3 ⟨k, rfl, hN3, hb3⟩
 have H3 : Hid (Below w.heap.size w w3 ∧ Bl w3 w.heap.size [.int .u64 0, .int .u64 0, .int .u64 0, .int .u64 0, .int .u64 0, .int .u64 0, .int .u64 0, .int .u64 0, .bool false] 45 ∧ GA w3 ∧ PtsAt w3 b cs ∧ NumsAt w3 (some ⟨k, 0, none⟩) ((List.range n).map fun i => x ^ i % QQ)) := ⟨below_call0 H2.out.1 hb3, H2.out.2.1.call hb3, H2.out.2.2.1.call hb3, H2.out.2.2.2.call hb3, hN3⟩
 clear hN3 hb3 H2 KI KP
 go_wp2_with fail
 refine (KS.out k _ H3.out.2.2.1 H3.out.2.2.2.2 H3.out.2.2.2.1).mono ?_
 rintro e w4 ⟨rfl, hb4⟩
 have H4 : Hid (Below w.heap.size w w4 ∧ Bl w4 w.heap.size [.int .u64 0, .int .u64 0, .int .u64 0, .int .u64 0, .int .u64 0, .int .u64 0, .int .u64 0, .int .u64 0, .bool false] 45) := ⟨below_call0 H3.out.1 hb4, H3.out.2.1.call hb4⟩
 clear hb4 H3 KS
 have HS : Hid ((storeVar 45 ⟨w.heap.size, 0, none⟩ (.agg #[.int .u64 (limb (pX V) 0 : Nat), .int .u64 (limb (pX V) 1 : Nat), .int .u64 (limb (pX V) 2 : Nat), .int .u64 (limb (pX V) 3 : Nat), .int .u64 (limb (pY V) 0 : Nat), .int .u64 (limb (pY V) 1 : Nat), .int .u64 (limb (pY V) 2 : Nat), .int .u64 (limb (pY V) 3 : Nat), .bool (pI V)])).run Tryd.prog w4 = .ok () (w4.setRow w.heap.size #[.int .u64 (limb (pX V) 0 : Nat), .int .u64 (limb (pX V) 1 : Nat), .int .u64 (limb (pX V) 2 : Nat), .int .u64 (limb (pX V) 3 : Nat), .int .u64 (limb (pY V) 0 : Nat), .int .u64 (limb (pY V) 1 : Nat), .int .u64 (limb (pY V) 2 : Nat), .int .u64 (limb (pY V) 3 : Nat), .bool (pI V)])) := H4.out.2.store (us := [.int .u64 (limb (pX V) 0 : Nat), .int .u64 (limb (pX V) 1 : Nat), .int .u64 (limb (pX V) 2 : Nat), .int .u64 (limb (pX V) 3 : Nat), .int .u64 (limb (pY V) 0 : Nat), .int .u64 (limb (pY V) 1 : Nat), .int .u64 (limb (pY V) 2 : Nat), .int .u64 (limb (pY V) 3 : Nat), .bool (pI V)]) (by kernel_rfl) rfl (by kernel_rfl)
 go_wp2_with ((with_reducible refine store_to (b := w.heap.size) (k := 0) (x := 4) (y := 25) ?_ ?_ ?_ ?_ HS.out ?_); rfl; rfl; rfl; rfl)
 have hld : (loadVar 45 ⟨w.heap.size, 0, none⟩).run Tryd.prog (w4.setRow w.heap.size #[.int .u64 (limb (pX V) 0 : Nat), .int .u64 (limb (pX V) 1 : Nat), .int .u64 (limb (pX V) 2 : Nat), .int .u64 (limb (pX V) 3 : Nat), .int .u64 (limb (pY V) 0 : Nat), .int .u64 (limb (pY V) 1 : Nat), .int .u64 (limb (pY V) 2 : Nat), .int .u64 (limb (pY V) 3 : Nat), .bool (pI V)]) = .ok (.agg #[.int .u64 (limb (pX V) 0 : Nat), .int .u64 (limb (pX V) 1 : Nat), .int .u64 (limb (pX V) 2 : Nat), .int .u64 (limb (pX V) 3 : Nat), .int .u64 (limb (pY V) 0 : Nat), .int .u64 (limb (pY V) 1 : Nat), .int .u64 (limb (pY V) 2 : Nat), .int .u64 (limb (pY V) 3 : Nat), .bool (pI V)]) (w4.setRow w.heap.size #[.int .u64 (limb (pX V) 0 : Nat), .int .u64 (limb (pX V) 1 : Nat), .int .u64 (limb (pX V) 2 : Nat), .int .u64 (limb (pX V) 3 : Nat), .int .u64 (limb (pY V) 0 : Nat), .int .u64 (limb (pY V) 1 : Nat), .int .u64 (limb (pY V) 2 : Nat), .int .u64 (limb (pY V) 3 : Nat), .bool (pI V)]) := (H4.out.2.put [.int .u64 (limb (pX V) 0 : Nat), .int .u64 (limb (pX V) 1 : Nat), .int .u64 (limb (pX V) 2 : Nat), .int .u64 (limb (pX V) 3 : Nat), .int .u64 (limb (pY V) 0 : Nat), .int .u64 (limb (pY V) 1 : Nat), .int .u64 (limb (pY V) 2 : Nat), .int .u64 (limb (pY V) 3 : Nat), .bool (pI V)]).load Tryd.underlying45 rfl (by kernel_rfl)
 refine bodyPost_ret (v := .tuple #[.agg #[.int .u64 (limb (pX V) 0 : Nat), .int .u64 (limb (pX V) 1 : Nat), .int .u64 (limb (pX V) 2 : Nat), .int .u64 (limb (pX V) 3 : Nat), .int .u64 (limb (pY V) 0 : Nat), .int .u64 (limb (pY V) 1 : Nat), .int .u64 (limb (pY V) 2 : Nat), .int .u64 (limb (pY V) 3 : Nat), .bool (pI V)], .int .i64 0]) ?_ rfl ⟨rfl, below_setRow (Nat.le_refl _) _ H4.out.1⟩
 simp [results, Tryd.results33, asAddr, hld]
set_option maxRecDepth 100000 in
set_option maxHeartbeats 4000000 in
theorem fchk_ok (cs : List Pts) (n x s : Nat) (b : Option Addr) (kc : Nat) (V R : Pts) (D : Bool) (E : Int) (hn : n = cs.length) (h1 : 1 ≤ n ∧ n ≤ 10) (hx : x ≤ 10) (hs : s < QQ) (hV : V = vaP x cs) (hR : R = gr.mul s gG) (hD : D = true ↔ R = V) (hE : E = if D then 0 else 70) (w : World) (hG : GA w) (hP : PtsAt w b cs) :
  Calls Tryd.prog 12 #[.slice b n kc, .int .i64 (x : Nat), .agg #[.int .u64 (limb s 0 : Nat), .int .u64 (limb s 1 : Nat), .int .u64 (limb s 2 : Nat), .int .u64 (limb s 3 : Nat)]] w fun e w' => e = .returned (.int .i64 E) ∧ Below w.heap.size w w' := by
 have KV : Hid (∀ w, GA w → PtsAt w b cs → Calls Tryd.prog 33 #[.slice b n kc, .int .i64 (x : Nat)] w fun e w' => e = .returned (.tuple #[.agg #[.int .u64 (limb (pX V) 0 : Nat), .int .u64 (limb (pX V) 1 : Nat), .int .u64 (limb (pX V) 2 : Nat), .int .u64 (limb (pX V) 3 : Nat), .int .u64 (limb (pY V) 0 : Nat), .int .u64 (limb (pY V) 1 : Nat), .int .u64 (limb (pY V) 2 : Nat), .int .u64 (limb (pY V) 3 : Nat), .bool (pI V)], .int .i64 0]) ∧ Below w.heap.size w w') := fun w h2 h3 => fval_ok cs n x b kc V hn h1 hx hV w h2 h3
 have KG : Hid _ := G_A
 have KM : Hid (∀ w, GA w → Calls Tryd.prog 32 #[.agg #[.int .u64 (limb s 0 : Nat), .int .u64 (limb s 1 : Nat), .int .u64 (limb s 2 : Nat), .int .u64 (limb s 3 : Nat)], .agg #[.int .u64 (limb (pX gG) 0 : Nat), .int .u64 (limb (pX gG) 1 : Nat), .int .u64 (limb (pX gG) 2 : Nat), .int .u64 (limb (pX gG) 3 : Nat), .int .u64 (limb (pY gG) 0 : Nat), .int .u64 (limb (pY gG) 1 : Nat), .int .u64 (limb (pY gG) 2 : Nat), .int .u64 (limb (pY gG) 3 : Nat), .bool (pI gG)]] w fun e w' => e = .returned (.tuple #[.agg #[.int .u64 (limb (pX R) 0 : Nat), .int .u64 (limb (pX R) 1 : Nat), .int .u64 (limb (pX R) 2 : Nat), .int .u64 (limb (pX R) 3 : Nat), .int .u64 (limb (pY R) 0 : Nat), .int .u64 (limb (pY R) 1 : Nat), .int .u64 (limb (pY R) 2 : Nat), .int .u64 (limb (pY R) 3 : Nat), .bool (pI R)], .int .i64 0]) ∧ Below w.heap.size w w') := fun w h => by
  rw [hR]
  exact Mul_ok s gG hs w h.1 h.2.1 h.2.2.1
 have HQ : Hid (∀ w : World, (Op.equalIn 10000 45 (.agg #[.int .u64 (limb (pX R) 0 : Nat), .int .u64 (limb (pX R) 1 : Nat), .int .u64 (limb (pX R) 2 : Nat), .int .u64 (limb (pX R) 3 : Nat), .int .u64 (limb (pY R) 0 : Nat), .int .u64 (limb (pY R) 1 : Nat), .int .u64 (limb (pY R) 2 : Nat), .int .u64 (limb (pY R) 3 : Nat), .bool (pI R)]) (.agg #[.int .u64 (limb (pX V) 0 : Nat), .int .u64 (limb (pX V) 1 : Nat), .int .u64 (limb (pX V) 2 : Nat), .int .u64 (limb (pX V) 3 : Nat), .int .u64 (limb (pY V) 0 : Nat), .int .u64 (limb (pY V) 1 : Nat), .int .u64 (limb (pY V) 2 : Nat), .int .u64 (limb (pY V) 3 : Nat), .bool (pI V)])).run Tryd.prog w = .ok D w) := fun w => eqPts R V D hD w
 obtain ⟨W1, hW1⟩ : ∃ W1, W1 = w.alloc (.cells #[.int .u64 (limb s 0 : Nat), .int .u64 (limb s 1 : Nat), .int .u64 (limb s 2 : Nat), .int .u64 (limb s 3 : Nat)] 41) := ⟨_, rfl⟩
 have H1 : Hid (Below w.heap.size w W1 ∧ Bl W1 w.heap.size (numV s) 41 ∧ GA W1 ∧ PtsAt W1 b cs) := by
  have hb : Below w.heap.size w W1 := by
   rw [hW1]
   exact below_alloc0 (Below.refl _ _) _
  refine ⟨hb, ?_, hG.call hb, hP.call hb⟩
  rw [hW1]
  exact Bl.new w (numV s) _
 have HW : Hid (W1 = w.alloc (.cells #[.int .u64 (limb s 0 : Nat), .int .u64 (limb s 1 : Nat), .int .u64 (limb s 2 : Nat), .int .u64 (limb s 3 : Nat)] 41)) := hW1
 have HE : Hid (E = if D then 0 else 70) := hE
 clear hn h1 hx hs hV hR hD hG hP hW1 hE
 go_enter Tryd.func12, Tryd.ntmps12
 go_upto_region 1 with fail
 rw [← HW.out]
 clear HW
 go_wp2_with fail
 refine (KV.out _ H1.out.2.2.1 H1.out.2.2.2).mono ?_
 rintro e w2 ⟨rfl, hb2⟩
 obtain ⟨A, hA⟩ : ∃ A, A = w2.heap.size := ⟨_, rfl⟩
 obtain ⟨W3, hW3⟩ : ∃ W3, W3 = w2.alloc (.cells #[.int .u64 (limb (pX V) 0 : Nat), .int .u64 (limb (pX V) 1 : Nat), .int .u64 (limb (pX V) 2 : Nat), .int .u64 (limb (pX V) 3 : Nat), .int .u64 (limb (pY V) 0 : Nat), .int .u64 (limb (pY V) 1 : Nat), .int .u64 (limb (pY V) 2 : Nat), .int .u64 (limb (pY V) 3 : Nat), .bool (pI V)] 45) := ⟨_, rfl⟩
 have H3 : Hid (Below w.heap.size w W3 ∧ Bl W3 w.heap.size (numV s) 41 ∧ GA W3 ∧ Bl W3 A (ptsV V) 45) := by
  have hb : Below W1.heap.size W1 W3 := by
   rw [hW3]
   exact below_alloc0 hb2 _
  refine ⟨below_call0 H1.out.1 hb, H1.out.2.1.call hb, H1.out.2.2.1.call hb, ?_⟩
  rw [hW3, hA]
  exact Bl.new w2 (ptsV V) _
 have HW : Hid (W3 = w2.alloc (.cells #[.int .u64 (limb (pX V) 0 : Nat), .int .u64 (limb (pX V) 1 : Nat), .int .u64 (limb (pX V) 2 : Nat), .int .u64 (limb (pX V) 3 : Nat), .int .u64 (limb (pY V) 0 : Nat), .int .u64 (limb (pY V) 1 : Nat), .int .u64 (limb (pY V) 2 : Nat), .int .u64 (limb (pY V) 3 : Nat), .bool (pI V)] 45) ∧ A = w2.heap.size) := ⟨hW3, hA⟩
 clear hW3 hA hb2 H1 KV
 go_upto_region 2 with fail
 rw [← HW.out.1, ← HW.out.2]
 clear HW
 go_upto_region 4 with fail
 refine wp_region_K 8 0 6 7 [.agg #[.int .u64 (limb s 0 : Nat), .int .u64 (limb s 1 : Nat), .int .u64 (limb s 2 : Nat), .int .u64 (limb s 3 : Nat)], ?v1r2, ?v2r2, ?v3r2, ?v4r2, ?v5r2, undef, undef] [some 20, some 21, some 22, some 19, some 23, some 24, some 9, none] (fun s w b => OwnC w b (cond s (ptsV R) zpL)) ?Ar2 ?oar2 ?osr2 (by kernel_rfl) (by kernel_rfl) (by kernel_rfl) rfl ?hAr2 (fun _ _ _ _ h hb => OwnC.call h hb) ?hopr2 ?hoar2 ?hosr2 (by decide) (by decide) ?hswr2 ?halr2 ?hstr2 ?hfinr2
 case hAr2 =>
  intro bq
  simp only [List.set_cons_zero, List.set_cons_succ, List.zip_cons_cons, List.zip_nil_right, fillD, Act.put, List.setIfInBounds_toArray]
  exact rfl
 case hopr2 =>
  refine ⟨?_, ?_, ?_, ?_, ?_, ?_, fun h => absurd rfl h, fun _ h => absurd rfl h, trivial⟩
  focus (intro _ _ bq wx hS; refine OpTo.yields rfl ?_; exact exec_loadF (b := w.heap.size) (x := 5) rfl rfl ((H3.out.2.1.call hS).load Tryd.underlying41 rfl (by kernel_rfl)))
  focus (intro _ _ bq wx hS; refine OpTo.calls rfl ?_ ?_; rotate_left; intro K hK; go_simp; refine (KG.out _ (H3.out.2.2.1.call hS).2.2.2).mono ?_; rintro e w' ⟨rfl, hq⟩; exact hK w' hq; exact rfl)
  focus (intro _ _ bq wx hS; refine OpTo.calls rfl ?_ ?_; rotate_left; intro K hK; go_simp; refine (KM.out _ (H3.out.2.2.1.call hS)).mono ?_; rintro e w' ⟨rfl, hq⟩; exact hK w' hq; exact rfl)
  iterate 3 focus (intro _ _ bq wx hS; refine OpTo.yields rfl ?_; clear hS; go_simp; try with_reducible rfl)
 case hoar2 =>
  rw [List.getElem?_toArray]
  exact rfl
 case halr2 =>
  intro bq wx hS
  refine OpTo.make (ob := ?obr2) (B := fun w b => OwnC w b zpL) hS rfl ?runr2 ?ownr2
  case runr2 =>
   go_simp
   try with_reducible rfl
  case ownr2 => exact OwnC.new' rfl
 case hosr2 =>
  rw [List.getElem?_toArray]
  exact rfl
 case hswr2 => kernel_rfl
 case hstr2 =>
  intro bq wx hS hB hle
  have hB' : OwnC wx bq zpL := hB
  refine OpTo.stores (w1 := putL bq 0 (ptsV R) wx) (R := fun w' => OwnC w' bq (cond true (ptsV R) zpL) ∧ Below W3.heap.size W3 w') rfl ?_ rfl ⟨OwnC.put (ptsV R) hB' rfl, below_putL hle (ptsV R) 0 _ hS⟩
  obtain ⟨gz, g0, g1, g2, g3, g4, g5, g6, g7, g8, gf⟩ := OwnC.zp hB'
  first | (left; go_simp; done) | (right; exact ⟨_, by go_simp; rfl⟩) | (left; go_simp; rfl)
 case hfinr2 =>
  intro bq wx hS hB hle
  refine tail_at (o := ?ofr2_8) ?hir2_8 ?hwr2_8 ?_
  case hir2_8 => rw [List.getElem?_toArray]; exact rfl
  case hwr2_8 => exact rfl
  go_simp
  refine tail_end ?_
  have L1 : Hid ((loadVar 45 ⟨bq, 0, none⟩).run Tryd.prog wx = .ok (.agg #[.int .u64 (limb (pX R) 0 : Nat), .int .u64 (limb (pX R) 1 : Nat), .int .u64 (limb (pX R) 2 : Nat), .int .u64 (limb (pX R) 3 : Nat), .int .u64 (limb (pY R) 0 : Nat), .int .u64 (limb (pY R) 1 : Nat), .int .u64 (limb (pY R) 2 : Nat), .int .u64 (limb (pY R) 3 : Nat), .bool (pI R)]) wx) := run_loadVar_mid wx bq 0 45 (ptsV R) _ (fun j v hv => by rw [Nat.zero_add]; exact hB.2.2 j v hv) Tryd.underlying45 rfl (by kernel_rfl)
  have L2 : Hid ((loadVar 45 ⟨A, 0, none⟩).run Tryd.prog wx = .ok (.agg #[.int .u64 (limb (pX V) 0 : Nat), .int .u64 (limb (pX V) 1 : Nat), .int .u64 (limb (pX V) 2 : Nat), .int .u64 (limb (pX V) 3 : Nat), .int .u64 (limb (pY V) 0 : Nat), .int .u64 (limb (pY V) 1 : Nat), .int .u64 (limb (pY V) 2 : Nat), .int .u64 (limb (pY V) 3 : Nat), .bool (pI V)]) wx) := (H3.out.2.2.2.call hS).load Tryd.underlying45 rfl (by kernel_rfl)
  have HF : Hid (Below w.heap.size w wx) := below_call0 H3.out.1 hS
  clear hB hS hle H3 KG KM
  go_upto_region 7 with fail
  have hq := HQ.out
  cases D
  ·obtain rfl : E = 70 := HE.out
   go_wp2_with (first | ((with_reducible refine load_to (b := bq) (k := 0) (x := 9) ?_ ?_ ?_ L1.out ?_); rfl; rfl; rfl) | ((with_reducible refine load_to (b := A) (k := 0) (x := 7) ?_ ?_ ?_ L2.out ?_); rfl; rfl; rfl))
   go_ret
   exact ⟨rfl, HF.out⟩
  ·obtain rfl : E = 0 := HE.out
   go_wp2_with (first | ((with_reducible refine load_to (b := bq) (k := 0) (x := 9) ?_ ?_ ?_ L1.out ?_); rfl; rfl; rfl) | ((with_reducible refine load_to (b := A) (k := 0) (x := 7) ?_ ?_ ?_ L2.out ?_); rfl; rfl; rfl))
   go_ret
   exact ⟨rfl, HF.out⟩
end Go.Proofs.YtfkpbcionlidaaaDoor

namespace Go.Proofs.YtfkpbcionlidaaaDoor
open Go Go.RowKit Go.Lib
theorem fmod (n : Nat) (p : Pts) : gr.mul (n % QQ) p = gr.mul n p := by
 have e : n = n / QQ * QQ + n % QQ := by
  rw [Nat.mul_comm]
  exact (Nat.div_add_mod n QQ).symm
 have h : gr.mul n p = gr.mul (n / QQ * QQ + n % QQ) p := by rw [← e]
 rw [h, gr.mul_add, gr.mul_mul, order_any, gr.mul_z, gr.zero']
theorem fmul_modr (a b : Nat) (p : Pts) : gr.mul (a * (b % QQ)) p = gr.mul (a * b) p := by rw [gr.mul_mul, fmod, ← gr.mul_mul]
theorem tot_pow (x : Nat) : ∀ (l : List Nat) (e : Nat), gr.tot gr.mul (List.zip ((List.range l.length).map fun i => x ^ (e + i) % QQ) (l.map fun k => gr.mul k gG)) = gr.mul (x ^ e * hoN QQ x l) gG
 | [], _ => rfl
 | c :: r, e => by
  have ih := tot_pow x r (e + 1)
  have eq : (List.range r.length).map ((fun i => x ^ (e + i) % QQ) ∘ Nat.succ) = (List.range r.length).map fun i => x ^ (e + 1 + i) % QQ := List.map_congr_left fun i _ => by
   show x ^ (e + (i + 1)) % QQ = _
   rw [show e + (i + 1) = e + 1 + i by omega]
  rw [List.length_cons, List.range_succ_eq_map, List.map_cons, List.map_map, List.map_cons, List.zip_cons_cons]
  show gr.add (gr.mul (x ^ (e + 0) % QQ) (gr.mul c gG)) (gr.tot gr.mul _) = _
  rw [eq, ih, Nat.add_zero, fmod, ← gr.mul_mul, ← gr.mul_add]
  have h1 : gr.mul (x ^ e * hoN QQ x (c :: r)) gG = gr.mul (x ^ e * (hoN QQ x r * x) + x ^ e * c) gG := by
   show gr.mul (x ^ e * ((hoN QQ x r * x % QQ + c) % QQ)) gG = _
   rw [fmul_modr, Nat.mul_add, gr.mul_add, fmul_modr, ← gr.mul_add]
  rw [h1]
  congr 1
  rw [Nat.pow_succ, Nat.add_comm, Nat.mul_assoc, Nat.mul_comm x]
theorem vaP_ok (x : Nat) (l : List Nat) : vaP x (l.map fun k => gr.mul k gG) = gr.mul (hoN QQ x l) gG := by
 have h := tot_pow x l 0
 simp only [Nat.zero_add, Nat.pow_zero, Nat.one_mul] at h
 unfold vaP
 rw [List.length_map]
 exact h
theorem gG_inj {i j : Nat} (hi : i < QQ) (hj : j < QQ) : gr.mul i gG = gr.mul j gG ↔ i = j :=
 ⟨fun h => gr.inj gG QQ prime_Q.2 G_order gG_ne hi hj h, fun h => by rw [h]⟩
theorem nums_two (W : World) (x y : Nat) (t : TypeId) (hx : x < M64) (hy : y < M64) : Nums (W.alloc (.cells #[.int .u64 (x : Int), .int .u64 0, .int .u64 0, .int .u64 0, .int .u64 (y : Int), .int .u64 0, .int .u64 0, .int .u64 0] t)) (some ⟨W.heap.size, 0, none⟩) [x, y] := by
 obtain ⟨x0, x1, x2, x3⟩ := limb_small x hx
 obtain ⟨y0, y1, y2, y3⟩ := limb_small y hy
 intro j n hj
 match j, hj with
 | 0, hj =>
  simp at hj
  subst hj
  refine ⟨W.heap.size, 0, rfl, fun i hi => ?_, by simp⟩
  have : i = 0 ∨ i = 1 ∨ i = 2 ∨ i = 3 := by omega
  rcases this with rfl | rfl | rfl | rfl <;> simp [go_sem, x0, x1, x2, x3]
 | 1, hj =>
  simp at hj
  subst hj
  refine ⟨W.heap.size, 0, rfl, fun i hi => ?_, by simp⟩
  have : i = 0 ∨ i = 1 ∨ i = 2 ∨ i = 3 := by omega
  rcases this with rfl | rfl | rfl | rfl <;> simp [go_sem, y0, y1, y2, y3]
 | j + 2, hj => simp at hj
theorem line_at : atE [5, 3] 0 = 0 := by kernel_rfl
theorem line_ho : hoN QQ 2 [5, 3] = 11 := by kernel_rfl
/-- A share against commitments of a polynomial. -/
theorem fchk_poly (l : List Nat) (n x s : Nat) (b : Option Addr) (kc : Nat) (E : Int) (hn : n = l.length) (h1 : 1 ≤ n ∧ n ≤ 10) (hx : x ≤ 10) (hs : s < QQ) (hE : E = if s = hoN QQ x l then 0 else 70) (w : World) (hG : GA w) (hP : PtsAt w b (l.map fun k => gr.mul k gG)) :
  Calls Tryd.prog 12 #[.slice b n kc, .int .i64 (x : Nat), .agg #[.int .u64 (limb s 0 : Nat), .int .u64 (limb s 1 : Nat), .int .u64 (limb s 2 : Nat), .int .u64 (limb s 3 : Nat)]] w fun e w' => e = .returned (.int .i64 E) ∧ Below w.heap.size w w' :=
 fchk_ok (l.map fun k => gr.mul k gG) n x s b kc (gr.mul (hoN QQ x l) gG) (gr.mul s gG) (decide (s = hoN QQ x l)) E (by rw [List.length_map]; exact hn) h1 hx hs (vaP_ok x l).symm rfl
  (by rw [gG_inj hs (hoN_lt QQ x (of_decide_eq_true (by kernel_rfl)) l)]; simp) (by rw [hE]; by_cases h : s = hoN QQ x l <;> simp [h]) w hG hP
theorem lit_num (k : Nat) (h : k < M64) : (.agg #[.int .u64 (limb k 0 : Nat), .int .u64 (limb k 1 : Nat), .int .u64 (limb k 2 : Nat), .int .u64 (limb k 3 : Nat)] : Value) = .agg #[.int .u64 (k : Nat), .int .u64 0, .int .u64 0, .int .u64 0] := by
 obtain ⟨e0, e1, e2, e3⟩ := limb_small k h
 rw [e0, e1, e2, e3]
 rfl
set_option maxRecDepth 100000 in
set_option maxHeartbeats 4000000 in
theorem line_ok (w : World) (hG : GA w) : Calls Tryd.prog 5 #[] w fun e w' => e = .returned (.bool true) ∧ Below w.heap.size w w' := by
 have KC : Hid (∀ (a : Option Addr) (w : World), GA w → Nums w a [5, 3] → Calls Tryd.prog 11 #[.slice a 2 2] w fun e w' => (∃ b, e = .returned (.tuple #[.slice b 2 2, .int .i64 0]) ∧ PtsAt w' b ([5, 3].map fun k => gr.mul k gG)) ∧ Below w.heap.size w w') := fun a w h1 h2 => by
  have h := fcom_any [5, 3] 2 a 2 rfl (by decide) w h1 h2
  refine h.mono ?_
  rintro e w' ⟨⟨b, c, he, hp, -⟩, hb⟩
  obtain ⟨rfl, hp2⟩ := hp line_at
  rw [line_at] at he
  exact ⟨⟨b, he, hp2⟩, hb⟩
 have K1 : Hid (∀ (b : Option Addr) (w : World), GA w → PtsAt w b ([5, 3].map fun k => gr.mul k gG) → Calls Tryd.prog 12 #[.slice b 2 2, .int .i64 2, .agg #[.int .u64 11, .int .u64 0, .int .u64 0, .int .u64 0]] w fun e w' => e = .returned (.int .i64 0) ∧ Below w.heap.size w w') := fun b w h1 h2 => by
  have h := fchk_poly [5, 3] 2 2 11 b 2 0 rfl (by decide) (by decide) (of_decide_eq_true (by kernel_rfl)) (by rw [line_ho]; rfl) w h1 h2
  rw [lit_num 11 (by decide)] at h
  exact h
 have K2 : Hid (∀ (b : Option Addr) (w : World), GA w → PtsAt w b ([5, 3].map fun k => gr.mul k gG) → Calls Tryd.prog 12 #[.slice b 2 2, .int .i64 2, .agg #[.int .u64 12, .int .u64 0, .int .u64 0, .int .u64 0]] w fun e w' => e = .returned (.int .i64 70) ∧ Below w.heap.size w w') := fun b w h1 h2 => by
  have h := fchk_poly [5, 3] 2 2 12 b 2 70 rfl (by decide) (by decide) (of_decide_eq_true (by kernel_rfl)) (by rw [line_ho]; rfl) w h1 h2
  rw [lit_num 12 (by decide)] at h
  exact h
 have H0 : Hid (GA w) := hG
 clear hG
 go_enter Tryd.func5, Tryd.ntmps5
 go_wp2_with fail
 refine (KC.out _ _ (H0.out.call (below_alloc0 (Below.refl _ _) _)) (nums_two w 5 3 41 (by decide) (by decide))).mono ?_
 rintro e w1 ⟨⟨b, rfl, hp⟩, hb1⟩
 have H1 : Hid (Below w.heap.size w w1 ∧ PtsAt w1 b ([5, 3].map fun k => gr.mul k gG)) := ⟨below_call0 (below_alloc0 (Below.refl _ _) _) hb1, hp⟩
 clear hb1 hp KC
 go_wp2_with fail
 refine (K1.out _ _ (H0.out.call H1.out.1) H1.out.2).mono ?_
 rintro e w2 ⟨rfl, hb2⟩
 have H2 : Hid (Below w.heap.size w w2 ∧ PtsAt w2 b ([5, 3].map fun k => gr.mul k gG)) := ⟨below_call0 H1.out.1 hb2, H1.out.2.call hb2⟩
 clear hb2 H1 K1
 go_wp2_with fail
 refine (K2.out _ _ (H0.out.call H2.out.1) H2.out.2).mono ?_
 rintro e w3 ⟨rfl, hb3⟩
 have H3 : Hid (Below w.heap.size w w3) := below_call0 H2.out.1 hb3
 clear hb3 H2 K2
 go_wp2_with fail
 go_ret
 exact ⟨rfl, H3.out⟩
end Go.Proofs.YtfkpbcionlidaaaDoor
