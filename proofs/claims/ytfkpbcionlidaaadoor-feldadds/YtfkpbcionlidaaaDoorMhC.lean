/- Several texts laid together. -/
import Derived.Test.YtfkpbcionlidaaaDoorMhB
import Derived.Laws.AppendOwn
import Derived.Laws.OwnMore
import Derived.Laws.MakeOwn
import Derived.Test.YtfkpbcionlidaaaDoorHeldN
namespace Go.Proofs.YtfkpbcionlidaaaDoor
open Go Go.RowKit Go.Lib

def IntsAt (w : World) (a : Option Addr) (l : List Int) : Prop :=
  ∀ j n, l[j]? = some n → ∃ p o, a = some ⟨p, o, none⟩ ∧ w.cell? ⟨p, o + j, none⟩ = some (.int .i64 n) ∧ p < w.heap.size
theorem IntsAt.call {w w' : World} {a : Option Addr} {l : List Int} (h : IntsAt w a l) (hb : Below w.heap.size w w') : IntsAt w' a l := fun j s hj => by
  obtain ⟨p, o, h1, h2, h3⟩ := h j s hj
  exact ⟨p, o, h1, (hb.cell (p := ⟨p, o + j, none⟩) h3).trans h2, Nat.lt_of_lt_of_le h3 hb.size⟩
theorem IntsAt.get {w : World} {a : Option Addr} {l : List Int} (h : IntsAt w a l) {k : Nat} (hk : k < l.length) : ∃ p o, a = some ⟨p, o, none⟩ ∧ w.cell? ⟨p, o + k, none⟩ = some (.int .i64 (l[k]'hk)) ∧ p < w.heap.size :=
  h k _ (List.getElem?_eq_getElem hk)
theorem IntsAt.drew {w : World} {a : Option Addr} {l : List Int} (h : IntsAt w a l) : IntsAt w.drew a l := h
theorem IntsAt.alloc {w : World} {a : Option Addr} {l : List Int} {o : Obj} (h : IntsAt w a l) : IntsAt (w.alloc o) a l := h.call ((Below.refl _ _).alloc (Nat.le_refl _) o)

/-- Nodes' numbers, no two the same. -/
def NodesP (l : List Int) : Prop := (∀ z ∈ l, 1 ≤ z ∧ z ≤ 10) ∧ l.Nodup
instance (l : List Int) : Decidable (NodesP l) := inferInstanceAs (Decidable (_ ∧ _))
def nodesOk (l : List Int) : Bool := decide (NodesP l ∧ 0 < l.length)
theorem NodesP.nil : NodesP [] := ⟨fun _ h => (List.not_mem_nil h).elim, List.nodup_nil⟩
theorem NodesP.step {l : List Int} {k : Nat} (hk : k < l.length) (h : NodesP (l.take k)) (h1 : 1 ≤ (l[k]'hk) ∧ (l[k]'hk) ≤ 10) (h2 : (l[k]'hk) ∉ l.take k) : NodesP (l.take (k + 1)) := by
  rw [List.take_succ_eq_append_getElem hk]
  refine ⟨fun z hz => ?_, ?_⟩
  · rcases List.mem_append.1 hz with c | c
    · exact h.1 z c
    · rw [List.mem_singleton.1 c]; exact h1
  · rw [List.nodup_append]
    refine ⟨h.2, by simp, fun a ha b hb => ?_⟩
    rw [List.mem_singleton.1 hb]
    exact fun c => h2 (c ▸ ha)
theorem nodes_bad {l : List Int} {k : Nat} (hk : k < l.length) (h : ¬ (1 ≤ (l[k]'hk) ∧ (l[k]'hk) ≤ 10)) : nodesOk l = false := decide_eq_false fun c => h (c.1.1 _ (List.getElem_mem hk))
theorem nodes_twice {l : List Int} {k : Nat} (hk : k < l.length) (h : (l[k]'hk) ∈ l.take k) : nodesOk l = false := decide_eq_false fun c => by
  have h1 := c.1.2
  rw [← List.take_append_drop k l, List.nodup_append] at h1
  exact h1.2.2 _ h _ (by rw [List.drop_eq_getElem_cons hk]; exact List.mem_cons_self) rfl
theorem nodes_all {l : List Int} {k : Nat} (hk : k = l.length) (h : NodesP (l.take k)) : nodesOk l = decide (0 < k) := by
  rw [List.take_of_length_le (by omega)] at h
  unfold nodesOk
  refine decide_eq_decide.2 ⟨fun c => by have := c.2; omega, fun c => ⟨h, by omega⟩⟩

/-- Which numbers were seen. -/
def Seen (w : World) (b : Nat) (l : List Int) : Prop := (∀ v : Nat, v < 11 → w.cell? ⟨b, v, none⟩ = some (.bool (decide ((v : Int) ∈ l)))) ∧ (∀ v : Nat, w.frozen? ⟨b, v, none⟩ = false) ∧ b < w.heap.size
theorem Seen.put {w : World} {b : Nat} {l : List Int} (h : Seen w b l) (m : Nat) (hm : m < 11) : Seen (w.setCell ⟨b, m, none⟩ (.bool true)) b (l ++ [(m : Int)]) := by
  refine ⟨fun v hv => ?_, fun v => by rw [World.frozen?_setCell]; exact h.2.1 v, by rw [World.size_setCell]; exact h.2.2⟩
  by_cases e : v = m
  · subst e
    rw [World.cell?_setCell_same _ _ _ (h.1 v hv)]
    simp
  · rw [World.cell?_setCell_other _ _ _ _ (by intro c; injection c with _ c2 _; exact e c2.symm), h.1 v hv]
    simp [show ¬ ((v : Int) = (m : Int)) by omega]
theorem Seen.new (w : World) (t : TypeId) : Seen (w.alloc (.cells #[.bool false, .bool false, .bool false, .bool false, .bool false, .bool false, .bool false, .bool false, .bool false, .bool false, .bool false] t)) w.heap.size [] := by
  refine ⟨fun v hv => ?_, fun v => by simp, by simp⟩
  rw [World.cell?_alloc_new]
  have : v = 0 ∨ v = 1 ∨ v = 2 ∨ v = 3 ∨ v = 4 ∨ v = 5 ∨ v = 6 ∨ v = 7 ∨ v = 8 ∨ v = 9 ∨ v = 10 := by omega
  rcases this with rfl | rfl | rfl | rfl | rfl | rfl | rfl | rfl | rfl | rfl | rfl <;> simp
theorem not_in_take {l : List Int} {k : Nat} {z : Int} (hk : k ≤ l.length) (h : ∀ i (hi : i < l.length), i < k → (l[i]'hi) ≠ z) : z ∉ l.take k := fun c => by
  obtain ⟨i, hi, e⟩ := List.getElem_of_mem c
  rw [List.length_take] at hi
  rw [List.getElem_take] at e
  exact h i (by omega) (by omega) e
end Go.Proofs.YtfkpbcionlidaaaDoor

namespace Go.Proofs.YtfkpbcionlidaaaDoor
open Go Go.RowKit Go.Lib

def four (n : Nat) : List Value := [.int .u64 (limb n 0 : Nat), .int .u64 (limb n 1 : Nat), .int .u64 (limb n 2 : Nat), .int .u64 (limb n 3 : Nat)]
def cellsN (l : List Nat) : List Value := l.flatMap four
theorem cellsN_length : ∀ l : List Nat, (cellsN l).length = l.length * 4
  | [] => rfl
  | n :: l => by
    have h := cellsN_length l
    have e : cellsN (n :: l) = four n ++ cellsN l := rfl
    rw [e, List.length_append, h, List.length_cons]
    show 4 + _ = _
    omega
theorem cellsN_append (l m : List Nat) : cellsN (l ++ m) = cellsN l ++ cellsN m := List.flatMap_append
theorem four_get (n i : Nat) (hi : i < 4) : (four n)[i]? = some (.int .u64 (limb n i : Nat)) := by
  have : i = 0 ∨ i = 1 ∨ i = 2 ∨ i = 3 := by omega
  rcases this with rfl | rfl | rfl | rfl <;> rfl
theorem cellsN_get : ∀ (l : List Nat) (j n i : Nat), l[j]? = some n → i < 4 → (cellsN l)[j * 4 + i]? = some (.int .u64 (limb n i : Nat))
  | [], j, n, i, h, _ => by simp at h
  | x :: l, 0, n, i, h, hi => by
    simp at h
    subst h
    have e : cellsN (x :: l) = four x ++ cellsN l := rfl
    rw [e, List.getElem?_append_left (by show _ < 4; omega), Nat.zero_mul, Nat.zero_add]
    exact four_get x i hi
  | x :: l, j + 1, n, i, h, hi => by
    have e : cellsN (x :: l) = four x ++ cellsN l := rfl
    rw [e, List.getElem?_append_right (by show 4 ≤ _; omega)]
    have e2 : (j + 1) * 4 + i - (four x).length = j * 4 + i := by show _ - 4 = _; omega
    rw [e2]
    exact cellsN_get l j n i (by simpa using h) hi
theorem infoNum : ∃ i, Tryd.prog.info? 41 = some i ∧ i.zero = some (.agg #[.int .u64 0, .int .u64 0, .int .u64 0, .int .u64 0]) ∧ i.size = 4 ∧ i.bytes = 32 := by
  have h : (Tryd.prog.info? 41).map (fun i => (i.zero, i.size, i.bytes)) = some (some (.agg #[.int .u64 0, .int .u64 0, .int .u64 0, .int .u64 0]), 4, 32) := by kernel_rfl
  cases e : Tryd.prog.info? 41 with
  | none => rw [e] at h; cases h
  | some i =>
    rw [e] at h
    simp only [Option.map_some, Option.some.injEq, Prod.mk.injEq] at h
    exact ⟨i, rfl, h.1, h.2.1, h.2.2⟩
def RowN (w : World) (base : Nat) (a : Option Addr) (l : List Nat) (cap : Nat) : Prop := w.ownsRow base 41 4 (.slice a l.length cap) l.length (cellsN l)
theorem RowN.nil (w : World) (base : Nat) : RowN w base none [] 0 := World.ownsRow_nil w base _ 4
theorem grown_of_belowN {w w' : World} (h : Below w.heap.size w w') : w.grownBy w' none := ⟨h.os, h.tape, h.output, h.size, fun k hk _ => h.block k hk⟩
theorem RowN.call {w w' : World} {base cap : Nat} {a : Option Addr} {l : List Nat} (h : RowN w base a l cap) (hb : Below w.heap.size w w') : RowN w' base a l cap :=
  World.ownsRow.kept h (grown_of_belowN hb) (by
    cases e : (Value.slice a l.length cap).ownBlock with
    | none => exact .inl rfl
    | some k => exact .inr (by simp))
theorem RowN.drew {w : World} {base cap : Nat} {a : Option Addr} {l : List Nat} (h : RowN w base a l cap) : RowN w.drew base a l cap := h
theorem RowN.alloc {w : World} {base cap : Nat} {a : Option Addr} {l : List Nat} {o : Obj} (h : RowN w base a l cap) : RowN (w.alloc o) base a l cap := h.call ((Below.refl _ _).alloc (Nat.le_refl _) o)
theorem RowN.nums {w : World} {base cap : Nat} {a : Option Addr} {l : List Nat} (h : RowN w base a l cap) : Nums w a l := by
  intro j n hj
  rcases h.2 with ⟨h1, h2⟩ | ⟨g, cap', cur, h1, h2, h3, h4, h5, h6, h7⟩
  · have : l = [] := List.eq_nil_of_length_eq_zero h2
    subst this
    simp at hj
  · injection h1 with h1 _ h1c
    subst h1
    refine ⟨g, 0, rfl, fun i hi => ?_, (Array.getElem?_eq_some_iff.1 h3).1⟩
    have := World.ownsRow.cells h (g := g) (by simp [Value.ownBlock]) (j * 4 + i) _ (cellsN_get l j n i hj hi)
    rw [Addr.add_lit] at this
    rw [← this]
    congr 1
    simp
section
variable (w : World)
theorem owp_append_RowN {o : Oper} {a : Act} {K : Act → World → Prop} {Q : Exit → Act → World → Prop}
    (sl x : Operand) (hop : o.op = Op.call { callee := Callee.builtin Builtin.append, args := #[sl, x], argTypes := #[32, 32] })
    (base : Nat) (aa : Option Addr) (n cap : Nat) (l : List Nat) (s : Nat) (hs : a.eval sl = .slice aa n cap) (hnn : n = l.length) (h : RowN w base aa l cap) (hB : base ≤ w.heap.size) (hl : l.length ≤ 1000000)
    (b c : Nat) (hx : a.eval x = .slice (some ⟨b, 0, none⟩) 1 c) (hc : Num4 w b s)
    (hK : ∀ a' m' cap' w', m' = n + 1 → RowN w' base a' (l ++ [s]) cap' → Below base w w' → K (a.put o.dst (.slice a' m' cap')) w') : Oper.wp Tryd.prog o a w K Q := by
  obtain ⟨i, hi, hz, hsize, hby⟩ := infoNum
  subst hnn
  obtain ⟨v', w', hr, ho, hg, _⟩ := run_append_own (P := Tryd.prog) w base 32 o.type 41 i _ 4 32 Tryd.underlying32 hi hz hsize hby rfl (by decide) (.slice aa l.length cap) l.length (cellsN l) h ⟨b, 0, none⟩ 1 c (four s) rfl
    (fun j u hj => by
      have hj4 : j < 4 := (List.getElem?_eq_some_iff.1 hj).1
      rw [four_get s j hj4] at hj
      rw [Addr.add_lit, Nat.zero_add, hc j hj4]
      exact hj) (fun u hu => by
        simp [four] at hu
        rcases hu with rfl | rfl | rfl | rfl <;> rfl) (by unfold maxLen; omega) (by omega) hB
  have ho' : w'.ownsRow base 41 4 v' (l ++ [s]).length (cellsN (l ++ [s])) := by
    rw [List.length_append, cellsN_append]
    have e : cellsN [s] = four s := by simp [cellsN]
    rw [e]; exact ho
  have hv : ∃ a' cap', v' = .slice a' (l ++ [s]).length cap' := by
    rcases ho'.2 with ⟨rfl, h2⟩ | ⟨g, cap', cur, rfl, _⟩
    · exact ⟨none, 0, by rw [h2]⟩
    · exact ⟨_, cap', rfl⟩
  obtain ⟨a', cap', rfl⟩ := hv
  have hb : Below base w w' := (Below.refl base w).grown hg hB (fun k hk => (World.ownsRow.lt h k hk).1)
  unfold Oper.wp
  simp [execOp, hop, resolve, invoke, builtin, hs, hx, hr, Result.andThen]
  have := hK a' (l.length + 1) cap' w' rfl ho' hb
  exact this
theorem wpList_append_RowN {ops : Array Oper} {rest : List Oper} {o : Oper} {a : Act} {Q : Exit → Act → World → Prop} (hgd : o.guard = none)
    (sl x : Operand) (hop : o.op = Op.call { callee := Callee.builtin Builtin.append, args := #[sl, x], argTypes := #[32, 32] })
    (base : Nat) (aa : Option Addr) (n cap : Nat) (l : List Nat) (s : Nat) (hs : a.eval sl = .slice aa n cap) (hnn : n = l.length) (h : RowN w base aa l cap) (hB : base ≤ w.heap.size) (hl : l.length ≤ 1000000)
    (b c : Nat) (hx : a.eval x = .slice (some ⟨b, 0, none⟩) 1 c) (hc : Num4 w b s)
    (hK : ∀ a' m' cap' w', m' = n + 1 → RowN w' base a' (l ++ [s]) cap' → Below base w w' → wpList Tryd.prog ops Q rest (a.put o.dst (.slice a' m' cap')) w') : wpList Tryd.prog ops Q (o :: rest) a w := by
  refine wpList_plain hgd fun K hK' => ?_
  exact owp_append_RowN w sl x hop base aa n cap l s hs hnn h hB hl b c hx hc (fun a' m' cap' w' h1 h2 h3 => hK' _ _ (hK a' m' cap' w' h1 h2 h3))
end
/-- n numbers in one block, from its beginning on. -/
def TabN (w : World) (p n : Nat) (f : Nat → Nat) : Prop := (∀ j, j < n → ∀ c, c < 4 → w.cell? ⟨p, j * 4 + c, none⟩ = some (.int .u64 (limb (f j) c : Nat))) ∧ (∀ o, w.frozen? ⟨p, o, none⟩ = false) ∧ p < w.heap.size
theorem TabN.call {W w1 : World} {p n : Nat} {f : Nat → Nat} (h : TabN W p n f) (hb : Below W.heap.size W w1) : TabN w1 p n f :=
  ⟨fun j hj c hc => (hb.cell (p := ⟨p, j * 4 + c, none⟩) h.2.2).trans (h.1 j hj c hc), fun o => (hb.frozen (p := ⟨p, o, none⟩) h.2.2).trans (h.2.1 o), Nat.lt_of_lt_of_le h.2.2 hb.size⟩
theorem TabN.at {w : World} {p n : Nat} {f : Nat → Nat} (h : TabN w p n f) (k : Nat) (hk : k < n) : (w.cell? ⟨p, k * 4, none⟩ = some (.int .u64 (limb (f k) 0 : Nat)) ∧ w.cell? ⟨p, k * 4 + 1, none⟩ = some (.int .u64 (limb (f k) 1 : Nat)) ∧ w.cell? ⟨p, k * 4 + 2, none⟩ = some (.int .u64 (limb (f k) 2 : Nat)) ∧ w.cell? ⟨p, k * 4 + 3, none⟩ = some (.int .u64 (limb (f k) 3 : Nat))) ∧ (w.frozen? ⟨p, k * 4, none⟩ = false ∧ w.frozen? ⟨p, k * 4 + 1, none⟩ = false ∧ w.frozen? ⟨p, k * 4 + 2, none⟩ = false ∧ w.frozen? ⟨p, k * 4 + 3, none⟩ = false) :=
  ⟨⟨h.1 k hk 0 (by omega), h.1 k hk 1 (by omega), h.1 k hk 2 (by omega), h.1 k hk 3 (by omega)⟩, h.2.1 _, h.2.1 _, h.2.1 _, h.2.1 _⟩
theorem TabN.put {W : World} {p n : Nat} {f : Nat → Nat} (h : TabN W p n f) (k x : Nat) (_hk : k < n) : TabN ((((W.setCell ⟨p, k * 4, none⟩ (.int .u64 (limb x 0 : Nat))).setCell ⟨p, k * 4 + 1, none⟩ (.int .u64 (limb x 1 : Nat))).setCell ⟨p, k * 4 + 2, none⟩ (.int .u64 (limb x 2 : Nat))).setCell ⟨p, k * 4 + 3, none⟩ (.int .u64 (limb x 3 : Nat))) p n (fun j => if j = k then x else f j) := by
  have fr : ∀ (W : World) (a : Addr) (v : Value) (o : Nat), (W.setCell a v).frozen? ⟨p, o, none⟩ = W.frozen? ⟨p, o, none⟩ := fun _ _ _ _ => World.frozen?_setCell _ _ _ _
  have other : ∀ (W : World) (x y : Nat) (v : Value), x ≠ y → (W.setCell ⟨p, x, none⟩ v).cell? ⟨p, y, none⟩ = W.cell? ⟨p, y, none⟩ := fun W x y v h => World.cell?_setCell_other _ _ _ _ (by intro q; injection q with _ q2 _; exact h q2)
  have same : ∀ (W : World) (x : Nat) (v u : Value), W.cell? ⟨p, x, none⟩ = some u → (W.setCell ⟨p, x, none⟩ v).cell? ⟨p, x, none⟩ = some v := fun W x v u h => World.cell?_setCell_same _ _ _ h
  refine ⟨fun j hj c hc => ?_, fun o => by rw [fr, fr, fr, fr]; exact h.2.1 o, by rw [World.size_setCell, World.size_setCell, World.size_setCell, World.size_setCell]; exact h.2.2⟩
  by_cases e : j = k
  · subst e
    show _ = some (Value.int .u64 ((limb (if j = j then x else f j) c : Nat) : Int))
    rw [if_pos rfl]
    have : c = 0 ∨ c = 1 ∨ c = 2 ∨ c = 3 := by omega
    rcases this with rfl | rfl | rfl | rfl
    · rw [other _ _ _ _ (by omega), other _ _ _ _ (by omega), other _ _ _ _ (by omega)]
      exact same _ _ _ _ (h.1 j hj 0 (by omega))
    · rw [other _ _ _ _ (by omega), other _ _ _ _ (by omega)]
      exact same _ _ _ _ ((other _ _ _ _ (by omega)).trans (h.1 j hj 1 (by omega)))
    · rw [other _ _ _ _ (by omega)]
      exact same _ _ _ _ ((other _ _ _ _ (by omega)).trans ((other _ _ _ _ (by omega)).trans (h.1 j hj 2 (by omega))))
    · exact same _ _ _ _ ((other _ _ _ _ (by omega)).trans ((other _ _ _ _ (by omega)).trans ((other _ _ _ _ (by omega)).trans (h.1 j hj 3 (by omega)))))
  · show _ = some (Value.int .u64 ((limb (if j = k then x else f j) c : Nat) : Int))
    rw [if_neg e, other _ _ _ _ (by omega), other _ _ _ _ (by omega), other _ _ _ _ (by omega), other _ _ _ _ (by omega)]
    exact h.1 j hj c hc
theorem TabN.nums {w : World} {p : Nat} {l : List Nat} {f : Nat → Nat} (h : TabN w p l.length f) (hf : ∀ j (hj : j < l.length), f j = (l[j]'hj)) : Nums w (some ⟨p, 0, none⟩) l := by
  intro j n hj
  obtain ⟨hl, e⟩ := List.getElem?_eq_some_iff.1 hj
  refine ⟨p, 0, rfl, fun i hi => ?_, h.2.2⟩
  have := h.1 j hl i hi
  rw [hf j hl, e] at this
  rw [Nat.zero_add]
  exact this
def madeN (n : Nat) : Array Value := madeCells #[.int .u64 0, .int .u64 0, .int .u64 0, .int .u64 0] (n * 4)
theorem madeN_get (n k : Nat) (h : k < n * 4) : (madeN n)[k]? = some (.int .u64 0) := by
  unfold madeN madeCells
  have hk : k < (Array.range (n * 4)).size := by simpa using h
  rw [Array.getElem?_map, Array.getElem?_eq_getElem hk, Option.map_some, Array.getElem_range]
  show some (#[Value.int .u64 0, Value.int .u64 0, Value.int .u64 0, Value.int .u64 0][k % 4]!) = _
  have : k % 4 = 0 ∨ k % 4 = 1 ∨ k % 4 = 2 ∨ k % 4 = 3 := by omega
  rcases this with e | e | e | e <;> rw [e] <;> rfl
theorem TabN.made (w : World) (n : Nat) (t : TypeId) : TabN (w.alloc (.cells (madeN n) t)) w.heap.size n (fun _ => 0) := by
  refine ⟨fun j hj c hc => ?_, fun o => by simp, by simp⟩
  rw [World.cell?_alloc_new, madeN_get n _ (by omega)]
  show _ = some (Value.int .u64 ((limb 0 c : Nat) : Int))
  rw [limb_nought]
  rfl
theorem make_run (n : Nat) (hn : n ≤ 1000000) (w : World) : (Instr.makeSlice 32 (.int .i64 (n : Int)) (.int .i64 (n : Int))).run Tryd.prog w = .ok (.slice (some ⟨w.heap.size, 0, none⟩) n n) (w.alloc (.cells (madeN n) 41)) := by
  obtain ⟨i, hi, hz, hsize, hby⟩ := infoNum
  have h := run_make (P := Tryd.prog) w 32 41 i _ Tryd.underlying32 hi hz .i64 .i64 (n : Int) (n : Int) (by omega) (Int.le_refl _) (by rw [hby]; omega) (by omega)
  rw [hsize] at h
  simp only [Int.toNat_natCast] at h
  exact h
theorem owp_make {o : Oper} {a : Act} {K : Act → World → Prop} {Q : Exit → Act → World → Prop} (sl : Operand) (hop : o.op = Op.makeSlice 32 sl sl) (n : Nat) (hn : n ≤ 1000000) (hs : a.eval sl = .int .i64 (n : Int)) (w : World)
    (hK : K (a.put o.dst (.slice (some ⟨w.heap.size, 0, none⟩) n n)) (w.alloc (.cells (madeN n) 41))) : Oper.wp Tryd.prog o a w K Q := by
  have hr := make_run n hn w
  unfold Oper.wp
  simp [execOp, hop, hs, hr, Result.andThen]
  exact hK
end Go.Proofs.YtfkpbcionlidaaaDoor

namespace Go.Proofs.YtfkpbcionlidaaaDoor
open Go

section
variable {P : Program} {ops : Array Oper} {Q : Exit → Act → World → Prop} {md : Region.Mode} {S : World → Prop} {n : Nat}
theorem wpAnyN_two {i j : Nat} {o p : Oper} {fuel : Nat} {listed : Array Bool} {a : Act} {w : World} (hr : Region.ready md ops listed = [i, j]) (ho : ops[i]? = some o) (hp : ops[j]? = some p)
    (hw : Region.wanted o (yielded ops a.tmps) = true) (hv : Region.wanted p (yielded ops a.tmps) = true)
    (h : ∀ K : Act → World → Prop, (∀ a' w', ((listed.setIfInBounds i true).getD n true = false → S w') ∧ wpAnyN P md ops Q S n fuel (listed.setIfInBounds i true) a' w' → K a' w') → Oper.wp P o a w K Q)
    (g : ∀ K : Act → World → Prop, (∀ a' w', ((listed.setIfInBounds j true).getD n true = false → S w') ∧ wpAnyN P md ops Q S n fuel (listed.setIfInBounds j true) a' w' → K a' w') → Oper.wp P p a w K Q) : wpAnyN P md ops Q S n (fuel + 1) listed a w := by
  refine ⟨fun h0 => (by rw [hr] at h0; cases h0), fun k hk => ?_⟩
  rw [hr] at hk
  have : k = i ∨ k = j := by simpa using hk
  rcases this with rfl | rfl
  · unfold wpOp
    simp only [ho, hw, if_true]
    exact .inl (h _ (fun _ _ x => x))
  · unfold wpOp
    simp only [hp, hv, if_true]
    exact .inl (g _ (fun _ _ x => x))
end
end Go.Proofs.YtfkpbcionlidaaaDoor
