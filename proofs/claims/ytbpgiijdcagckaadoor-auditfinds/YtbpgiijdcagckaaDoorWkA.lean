/- A walk's laws: blocks of one's own; drawn regions by what each operation owns. -/
import Derived.Test.YtbpgiijdcagckaaDoorRgM
import Derived.Test.YtbpgiijdcagckaaDoorHeldR
import Derived.BigFrame
import Derived.Deep.WholeRow
import Derived.Deep.MidRow
namespace Go.Proofs.YtbpgiijdcagckaaDoor
open Go Go.RowKit
theorem store_tk {ops : Array Oper} {rest : List Oper} {o : Oper} {a : Act} {w w' : World} {Q : Exit → Act → World → Prop} {b k x y : Nat} {ty : TypeId} {vs : Array Value} (hgd : o.guard = none) (ho : o.op = .store ty (.tmp x) (.tmp y))
    (hx : a.eval (.tmp x) = .pointer (some ⟨b, k, none⟩)) (hy : a.eval (.tmp y) = .agg vs) (hs : (storeVar ty ⟨b, k, none⟩ (.agg vs)).run Tryd.prog w = .ok () w')
    (h : wpList Tryd.prog ops Q rest (a.put o.dst undef) w') : wpList Tryd.prog ops Q (o :: rest) a w :=
  wpList_plain hgd fun _ hK => by
    unfold Oper.wp execOp
    simp only [ho, hx, hy, Instr.storeAt, Instr.sureAddr, Sem.run_bind, Sem.run_pure, Result.andThen_ok, hs]
    exact hK _ _ h
theorem load_tk {ops : Array Oper} {rest : List Oper} {o : Oper} {a : Act} {w : World} {Q : Exit → Act → World → Prop} {b k x : Nat} {ty : TypeId} {vs : Array Value} (hw : Region.wanted o (yielded ops a.tmps) = true) (ho : o.op = .load ty (.tmp x))
    (hx : a.eval (.tmp x) = .pointer (some ⟨b, k, none⟩)) (hs : (loadVar ty ⟨b, k, none⟩).run Tryd.prog w = .ok (.agg vs) w)
    (h : wpList Tryd.prog ops Q rest (a.put o.dst (.agg vs)) w) : wpList Tryd.prog ops Q (o :: rest) a w :=
  BigFrame.wpList_want hw fun _ hK => by
    unfold Oper.wp execOp
    simp only [ho, hx, Instr.loadAt, Instr.sureAddr, Sem.run_bind, Sem.run_pure, Result.andThen_ok, hs]
    exact hK _ _ h
/-- A block from B on: its cells. -/
def Bk (B : Nat) (w : World) (b : Nat) (vs : List Value) (t : TypeId) : Prop := B ≤ b ∧ w.heap[b]? = some (.cells vs.toArray t)
theorem Bk.lt {B b : Nat} {w : World} {vs : List Value} {t : TypeId} (h : Bk B w b vs t) : b < w.heap.size := (Array.getElem?_eq_some_iff.1 h.2).1
theorem Bk.call {B b : Nat} {w w' : World} {vs : List Value} {t : TypeId} (h : Bk B w b vs t) (hb : Below w.heap.size w w') : Bk B w' b vs t := ⟨h.1, (hb.block b h.lt).trans h.2⟩
theorem Bk.cell {B b : Nat} {w : World} {vs : List Value} {t : TypeId} (h : Bk B w b vs t) (j : Nat) (v : Value) (hv : vs[j]? = some v) : w.cell? ⟨b, j, none⟩ = some v := by
  have h' := h.2
  simpa [World.cell?, h'] using hv
theorem Bk.load {B b : Nat} {w : World} {vs : List Value} {t ty : TypeId} {d : TypeDesc} (h : Bk B w b vs t) (k : Nat) (us : List Value) (hs : (vs.drop k).take us.length = us) (hu : Tryd.prog.underlying ty = some d) (hd : d.isRow = true) (hi : (Tryd.prog.info? ty).map (·.size) = some us.length) : (loadVar ty ⟨b, k, none⟩).run Tryd.prog w = .ok (.agg us.toArray) w :=
  run_loadVar_mid w b k ty us d (fun j v hv => by
    have h' := h.2
    have hj : j < us.length := (List.getElem?_eq_some_iff.1 hv).1
    have e : vs[k + j]? = some v := by
      rw [← hs, List.getElem?_take] at hv
      rw [if_pos hj, List.getElem?_drop] at hv
      exact hv
    simpa [World.cell?, h'] using e) hu hd hi
theorem Bk.mk0 (w : World) (vs : List Value) (t : TypeId) : Bk w.heap.size (w.alloc (.cells vs.toArray t)) w.heap.size vs t := ⟨Nat.le_refl _, heap_alloc_last w _⟩
theorem below_setRowK {B b : Nat} {a w : World} (hb : B ≤ b) (us : Array Value) (h : Below B a w) : Below B a (w.setRow b us) :=
  h.trans ⟨rfl, rfl, rfl, by rw [setRow_size]; exact Nat.le_refl _, fun k hk => setRow_other w b k us (by omega)⟩
/-- What is made and laid at once. -/
theorem Bk.fresh {B : Nat} {w0 w : World} (hB : Below B w0 w) (hs : B ≤ w0.heap.size) (zero : Array Value) (vs : List Value) (t : TypeId) (hi : (Tryd.prog.info? t).map (·.size) = some vs.length) (hl : zero.size = vs.length) (h1 : vs.toArray.all (·.oneCell') = true) :
    ∃ W A, A = w.heap.size ∧ (storeVar t ⟨A, 0, none⟩ (.agg vs.toArray)).run Tryd.prog (w.alloc (.cells zero t)) = .ok () W ∧ Below w.heap.size w W ∧ Bk B W A vs t := by
  refine ⟨(w.alloc (.cells zero t)).setRow w.heap.size vs.toArray, w.heap.size, rfl, ?_, below_setRowK (Nat.le_refl _) _ (below_alloc0 (Below.refl _ _) _), Nat.le_trans hs hB.size, ?_⟩
  · exact run_storeVar_row _ _ t t zero vs.toArray (heap_alloc_last w _) (by simpa using hi) (by simpa using hl) h1
  · exact setRow_heap _ _ zero _ t _ (heap_alloc_last w _)
/-- A store of a whole block. -/
theorem Bk.put {B b : Nat} {w0 w : World} {us : List Value} {t : TypeId} (h : Bk B w b us t) (hB : Below B w0 w) (vs : List Value) (hi : (Tryd.prog.info? t).map (·.size) = some vs.length) (hl : us.length = vs.length) (h1 : vs.toArray.all (·.oneCell') = true) :
    ∃ W, (storeVar t ⟨b, 0, none⟩ (.agg vs.toArray)).run Tryd.prog w = .ok () W ∧ Below B w0 W ∧ Bk B W b vs t :=
  ⟨w.setRow b vs.toArray, run_storeVar_row w b t t us.toArray vs.toArray h.2 (by simpa using hi) (by simpa using hl) h1, below_setRowK h.1 _ hB, h.1, setRow_heap w b us.toArray _ t _ h.2⟩
/-- .. beside a block that lies ahead of it. -/
theorem Bk.putB {B b : Nat} {w0 w : World} {us : List Value} {t : TypeId} (h : Bk B w b us t) (hB : Below B w0 w) (vs : List Value) (hi : (Tryd.prog.info? t).map (·.size) = some vs.length) (hl : us.length = vs.length) (h1 : vs.toArray.all (·.oneCell') = true) :
    ∃ W, (storeVar t ⟨b, 0, none⟩ (.agg vs.toArray)).run Tryd.prog w = .ok () W ∧ Below B w0 W ∧ Bk B W b vs t ∧ ∀ k, k ≠ b → W.heap[k]? = w.heap[k]? :=
  ⟨w.setRow b vs.toArray, run_storeVar_row w b t t us.toArray vs.toArray h.2 (by simpa using hi) (by simpa using hl) h1, below_setRowK h.1 _ hB, ⟨h.1, setRow_heap w b us.toArray _ t _ h.2⟩, fun k hk => setRow_other w b k _ hk⟩
def setLK : List Value → Nat → List Value → List Value
  | vs, _, [] => vs
  | vs, o, v :: r => setLK (vs.set o v) (o + 1) r
theorem heap_setCellK {w : World} {b o : Nat} {vs : List Value} {t : TypeId} (h : w.heap[b]? = some (.cells vs.toArray t)) (v : Value) : (w.setCell ⟨b, o, none⟩ v).heap[b]? = some (.cells (vs.set o v).toArray t) := by
  simp [World.setCell, Array.getElem?_modify, h]
theorem heap_setCellsK {b : Nat} {t : TypeId} : ∀ (us : List Value) (o : Nat) (vs : List Value) (w : World), w.heap[b]? = some (.cells vs.toArray t) → (w.setCells b o us).heap[b]? = some (.cells (setLK vs o us).toArray t)
  | [], _, _, _, h => h
  | v :: r, o, vs, w, h => heap_setCellsK r (o + 1) (vs.set o v) (w.setCell ⟨b, o, none⟩ v) (heap_setCellK h v)
theorem other_setCellsK {b j : Nat} (hj : j ≠ b) : ∀ (us : List Value) (o : Nat) (w : World), (w.setCells b o us).heap[j]? = w.heap[j]?
  | [], _, _ => rfl
  | v :: r, o, w => (other_setCellsK hj r (o + 1) (w.setCell ⟨b, o, none⟩ v)).trans (by
    simp only [World.setCell, Array.getElem?_modify]
    rw [if_neg (Ne.symm hj)])
theorem below_cellsW {B b : Nat} {a : World} (hb : B ≤ b) : ∀ (vs : List Value) (o : Nat) (w : World), Below B a w → Below B a (w.setCells b o vs)
  | [], _, _, h => h
  | v :: r, o, _, h => below_cellsW hb r (o + 1) _ (h.setCell (p := ⟨b, o, none⟩) hb v)
/-- A store of a part. -/
theorem Bk.putAt {B b : Nat} {w0 w : World} {vs : List Value} {t ty : TypeId} (h : Bk B w b vs t) (hB : Below B w0 w) (k : Nat) (us new : List Value) (hl : k + us.length ≤ vs.length) (hi : (Tryd.prog.info? ty).map (·.size) = some us.length) (h1 : us.toArray.all (·.oneCell') = true) (hn : setLK vs k us = new) :
    ∃ W, (storeVar ty ⟨b, k, none⟩ (.agg us.toArray)).run Tryd.prog w = .ok () W ∧ Below B w0 W ∧ Bk B W b new t ∧ ∀ j, j ≠ b → W.heap[j]? = w.heap[j]? := by
  subst hn
  refine ⟨w.setCells b k us, ?_, below_cellsW h.1 _ _ _ hB, ⟨h.1, heap_setCellsK us k vs w h.2⟩, fun j hj => other_setCellsK hj us k w⟩
  exact run_storeVar_mid w b k ty us.toArray (fun j hj => by
    have hj' : j < us.length := by simpa using hj
    have hlt : k + j < vs.length := by omega
    have c : w.cell? ⟨b, k + j, none⟩ = some (vs[k + j]'hlt) := h.cell (k + j) _ (List.getElem?_eq_getElem hlt)
    have h' := h.2
    exact ⟨by rw [c]; rfl, by simp [World.frozen?, h']⟩) (by simpa using hi) h1
theorem Bk.beside {B b b' : Nat} {w W : World} {vs : List Value} {t : TypeId} (h : Bk B w b' vs t) (hne : b' ≠ b) (ho : ∀ j, j ≠ b → W.heap[j]? = w.heap[j]?) : Bk B W b' vs t := ⟨h.1, (ho b' hne).trans h.2⟩
theorem exec_loadK {o : Oper} {ρ : Operand → Value} {w : World} {b k x : Nat} {ty : TypeId} {v : Value} (ho : o.op = .load ty (.tmp x)) (hx : ρ (.tmp x) = .pointer (some ⟨b, k, none⟩)) (hs : (loadVar ty ⟨b, k, none⟩).run Tryd.prog w = .ok v w) : (execOp ρ o).run Tryd.prog w = .ok (.value v) w := by
  unfold execOp
  simp only [ho, hx, Instr.loadAt, Instr.sureAddr, Sem.run_bind, Sem.run_pure, Result.andThen_ok, hs]
theorem exec_storeK {o : Oper} {ρ : Operand → Value} {w w' : World} {b k x y : Nat} {ty : TypeId} {vs : Array Value} (ho : o.op = .store ty (.tmp x) (.tmp y)) (hx : ρ (.tmp x) = .pointer (some ⟨b, k, none⟩)) (hy : ρ (.tmp y) = .agg vs) (hs : (storeVar ty ⟨b, k, none⟩ (.agg vs)).run Tryd.prog w = .ok () w') :
    (execOp ρ o).run Tryd.prog w = .ok .skip w' ∨ ∃ u, (execOp ρ o).run Tryd.prog w = .ok (.value u) w' := by
  have e : (execOp ρ o).run Tryd.prog w = .ok .skip w' := by
    unfold execOp
    simp only [ho, hx, hy, Instr.storeAt, Instr.sureAddr, Sem.run_bind, Sem.run_pure, Result.andThen_ok, hs]
  exact Or.inl e
theorem act_storeK {op : Oper} {a : Act} {w w' : World} {K : Act → World → Prop} {Q : Exit → Act → World → Prop} {b k x y : Nat} {ty : TypeId} {vs : Array Value} (ho : op.op = .store ty (.tmp x) (.tmp y))
    (hx : a.eval (.tmp x) = .pointer (some ⟨b, k, none⟩)) (hy : a.eval (.tmp y) = .agg vs) (hs : (storeVar ty ⟨b, k, none⟩ (.agg vs)).run Tryd.prog w = .ok () w') (h : K (a.put op.dst undef) w') : op.wp Tryd.prog a w K Q := by
  unfold Oper.wp execOp
  simp only [ho, hx, hy, Instr.storeAt, Instr.sureAddr, Sem.run_bind, Sem.run_pure, Result.andThen_ok, hs]
  exact h
theorem build_tk {ops : Array Oper} {rest : List Oper} {o : Oper} {a : Act} {w : World} {Q : Exit → Act → World → Prop} {ty : TypeId} {parts : Array (Nat × Operand)} {ps : Array (Nat × Value)} {vs : Array Value} (hw : Region.wanted o (yielded ops a.tmps) = true) (ho : o.op = .build ty parts) (hp : (parts.map fun (i, x) => (i, a.eval x)) = ps)
    (hs : (Instr.build ty ps).run Tryd.prog w = .ok (.agg vs) w) (h : wpList Tryd.prog ops Q rest (a.put o.dst (.agg vs)) w) : wpList Tryd.prog ops Q (o :: rest) a w :=
  BigFrame.wpList_want hw fun _ hK => by
    unfold Oper.wp execOp
    simp only [ho, hp, Sem.run_bind, Sem.run_pure, Result.andThen_ok, hs]
    exact hK _ _ h
theorem exec_buildK {o : Oper} {ρ : Operand → Value} {w : World} {ty : TypeId} {parts : Array (Nat × Operand)} {ps : Array (Nat × Value)} {v : Value} (ho : o.op = .build ty parts) (hp : (parts.map fun (i, x) => (i, ρ x)) = ps) (hs : (Instr.build ty ps).run Tryd.prog w = .ok v w) : (execOp ρ o).run Tryd.prog w = .ok (.value v) w := by
  unfold execOp
  simp only [ho, hp, Sem.run_bind, Sem.run_pure, Result.andThen_ok, hs]
theorem index_tk {ops : Array Oper} {rest : List Oper} {o : Oper} {a : Act} {w : World} {Q : Exit → Act → World → Prop} {ty : TypeId} {x i : Operand} {xv iv v : Value} (hw : Region.wanted o (yielded ops a.tmps) = true) (ho : o.op = .index ty x i) (hx : a.eval x = xv) (hi : a.eval i = iv)
    (hs : (Instr.index ty xv iv).run Tryd.prog w = .ok v w) (h : wpList Tryd.prog ops Q rest (a.put o.dst v) w) : wpList Tryd.prog ops Q (o :: rest) a w :=
  BigFrame.wpList_want hw fun _ hK => by
    unfold Oper.wp execOp
    simp only [ho, hx, hi, Sem.run_bind, Sem.run_pure, Result.andThen_ok, hs]
    exact hK _ _ h
theorem look_tk {ops : Array Oper} {rest : List Oper} {o : Oper} {a : Act} {w : World} {Q : Exit → Act → World → Prop} {ty : TypeId} {x i : Operand} {xv iv v : Value} {ok : Bool} (hw : Region.wanted o (yielded ops a.tmps) = true) (ho : o.op = .lookup ty x i ok) (hx : a.eval x = xv) (hi : a.eval i = iv)
    (hs : (Instr.lookup ty xv iv ok).run Tryd.prog w = .ok v w) (h : wpList Tryd.prog ops Q rest (a.put o.dst v) w) : wpList Tryd.prog ops Q (o :: rest) a w :=
  BigFrame.wpList_want hw fun _ hK => by
    unfold Oper.wp execOp
    simp only [ho, hx, hi, Sem.run_bind, Sem.run_pure, Result.andThen_ok, hs]
    exact hK _ _ h
theorem upd_tk {ops : Array Oper} {rest : List Oper} {o : Oper} {a : Act} {w w' : World} {Q : Exit → Act → World → Prop} {ty : TypeId} {m i x : Operand} {mv iv xv : Value} (hgd : o.guard = none) (ho : o.op = .mapUpdate ty m i x) (hm : a.eval m = mv) (hi : a.eval i = iv) (hx : a.eval x = xv)
    (hs : (Instr.mapUpdate ty mv iv xv).run Tryd.prog w = .ok () w') (h : wpList Tryd.prog ops Q rest (a.put o.dst undef) w') : wpList Tryd.prog ops Q (o :: rest) a w :=
  wpList_plain hgd fun _ hK => by
    unfold Oper.wp execOp
    simp only [ho, hm, hi, hx, Sem.run_bind, Sem.run_pure, Result.andThen_ok, hs]
    exact hK _ _ h
/-! ### What operations own -/
def OwL (L : List (Bool → Value → World → Prop)) (s : Bool) (i : Nat) (y : Value) (w : World) : Prop :=
  match L[i]? with
  | some f => f s y w
  | none => True
def Pers (f : Bool → Value → World → Prop) : Prop := ∀ s y w w', f s y w → Below w.heap.size w w' → f s y w'
theorem OwL.call {L : List (Bool → Value → World → Prop)} (h : ∀ f ∈ L, Pers f) (s : Bool) (i : Nat) (y : Value) (w w' : World) (ho : OwL L s i y w) (hb : Below w.heap.size w w') : OwL L s i y w' := by
  unfold OwL at ho ⊢
  cases hL : L[i]? with
  | none => trivial
  | some f =>
    rw [hL] at ho
    exact h f (List.mem_of_getElem? hL) s y w w' ho hb
theorem pers_nil : ∀ f ∈ ([] : List (Bool → Value → World → Prop)), Pers f := fun _ h => absurd h (by simp)
theorem pers_cons {f : Bool → Value → World → Prop} {L : List (Bool → Value → World → Prop)} (h : Pers f) (hL : ∀ g ∈ L, Pers g) : ∀ g ∈ f :: L, Pers g := fun g hg => by
  rcases List.mem_cons.1 hg with rfl | hg
  · exact h
  · exact hL g hg
def isV (v : Value) : Bool → Value → World → Prop := fun _ y _ => y = v
def isT : Bool → Value → World → Prop := fun _ _ _ => True
def isX (p : Value → World → Prop) : Bool → Value → World → Prop := fun s y w => s = false → p y w
def isB (Z : Nat) (zero vs : List Value) (t : TypeId) : Bool → Value → World → Prop := fun s y w => ∃ b, y = .pointer (some ⟨b, 0, none⟩) ∧ Z ≤ b ∧ w.heap[b]? = some (.cells (cond s vs zero).toArray t)
theorem pers_V (v : Value) : Pers (isV v) := fun _ _ _ _ h _ => h
theorem pers_T : Pers isT := fun _ _ _ _ _ _ => trivial
theorem pers_X {p : Value → World → Prop} (h : ∀ y w w', p y w → Below w.heap.size w w' → p y w') : Pers (isX p) := fun _ _ _ _ ho hb hs => h _ _ _ (ho hs) hb
theorem pers_B (Z : Nat) (zero vs : List Value) (t : TypeId) : Pers (isB Z zero vs t) := fun _ _ _ _ ⟨b, e, hz, hB⟩ hb => ⟨b, e, hz, (hb.block b (Array.getElem?_eq_some_iff.1 hB).1).trans hB⟩
/-- A drawn region whose operations up to the n-th one store nothing. -/
theorem wp_region_P {P : Program} {ops : Array Oper} {Q : Exit → Act → World → Prop} {id : Nat} {a : Act} {w : World} (n t : Nat) (own : Nat → Value → World → Prop) (D : List (Option Tmp)) (L : List Nat) (A : (Nat → Value) → Act) (hm : P.follows .mixedOrders = true) (hr : rgB ops n t a.tmps.size = true)
    (hD : (List.range n).map (dstOf ops) = D) (hL : List.range n = L)
    (hA : ∀ v, fillD (List.zip D (L.map v)) a = A v)
    (hpers : ∀ i y w w', own i y w → Below w.heap.size w w' → own i y w')
    (hop : EachOp (fun i o => i < n → ∀ v wx, Below w.heap.size w wx → (∀ j, waits o j = true → own j (v j) wx) → OpTo P ops o (A v) wx (fun x w' => ∃ y, x = ov o y ∧ own i y w' ∧ Below wx.heap.size wx w')) 0 ops.toList)
    (hfin : ∀ v wx, Below w.heap.size w wx → (∀ j, j < n → own j (v j) wx) → wpTail P ops Q (t + 1) n (A v) wx) : (Code.region id ops true).wp P Q a w := by
  refine wp_region_M n t (fun l v wx => Below w.heap.size w wx ∧ ∀ j, l j = true → own j (v j) wx) D L A hm hr hD hL hA (fun v => And.intro (Below.drew (Below.refl _ _)) (fun j h => absurd h Bool.false_ne_true)) (EachOp.imp (fun i o _ hq => ?_) hop) (fun v wx hI => hfin v wx hI.1 fun j hj => hI.2 j (decide_eq_true hj))
  rw [Nat.zero_add] at hq ⊢
  intro hi l v wx hd hli hI
  refine (hq hi v wx hI.1 (fun j hj => hI.2 j (hd j hj))).imp fun x w' hx => ?_
  obtain ⟨y, h0, h1, h2⟩ := hx
  refine ⟨y, h0, hI.1.trans (h2.mono hI.1.size), fun j hj => ?_⟩
  by_cases hji : j = i
  · subst hji
    rw [updV_same]
    exact h1
  · rw [updV_other hji]
    rw [upd_other hji] at hj
    exact hpers _ _ _ _ (hI.2 j hj) h2
def nuV (k : Nat) : List Value := [.int .u64 (limb k 0 : Nat), .int .u64 (limb k 1 : Nat), .int .u64 (limb k 2 : Nat), .int .u64 (limb k 3 : Nat)]
end Go.Proofs.YtbpgiijdcagckaaDoor
