/- Rows of numbers that a call makes and fills place by place; making slices. -/
import Derived.Test.YtienklnigigepaaGreatDoorLbA
import Derived.Laws.AppendOwn
import Derived.Laws.OwnMore
import Derived.Laws.MakeOwn
namespace Go.Proofs.YtienklnigigepaaGreatDoor
open Go Go.RowKit Go.Lib
theorem infoNum : ∃ i, Tryz.prog.info? 26 = some i ∧ i.zero = some (.agg #[.int .u64 0, .int .u64 0, .int .u64 0, .int .u64 0]) ∧ i.size = 4 ∧ i.bytes = 32 := by
  have h : (Tryz.prog.info? 26).map (fun i => (i.zero, i.size, i.bytes)) = some (some (.agg #[.int .u64 0, .int .u64 0, .int .u64 0, .int .u64 0]), 4, 32) := by kernel_rfl
  cases e : Tryz.prog.info? 26 with
  | none => rw [e] at h; cases h
  | some i =>
    rw [e] at h
    simp only [Option.map_some, Option.some.injEq, Prod.mk.injEq] at h
    exact ⟨i, rfl, h.1, h.2.1, h.2.2⟩
def TabN (w : World) (p n : Nat) (f : Nat → Nat) : Prop := (∀ j, j < n → ∀ c, c < 4 → w.cell? ⟨p, j * 4 + c, none⟩ = some (.int .u64 (limb (f j) c : Nat))) ∧ (∀ o, w.frozen? ⟨p, o, none⟩ = false) ∧ p < w.heap.size
theorem TabN.call {W w1 : World} {p n : Nat} {f : Nat → Nat} (h : TabN W p n f) (hb : Below W.heap.size W w1) : TabN w1 p n f :=
  ⟨fun j hj c hc => (hb.cell (p := ⟨p, j * 4 + c, none⟩) h.2.2).trans (h.1 j hj c hc), fun o => (hb.frozen (p := ⟨p, o, none⟩) h.2.2).trans (h.2.1 o), Nat.lt_of_lt_of_le h.2.2 hb.size⟩
theorem TabN.at {w : World} {p n : Nat} {f : Nat → Nat} (h : TabN w p n f) (k : Nat) (hk : k < n) : (w.cell? ⟨p, k * 4, none⟩ = some (.int .u64 (limb (f k) 0 : Nat)) ∧ w.cell? ⟨p, k * 4 + 1, none⟩ = some (.int .u64 (limb (f k) 1 : Nat)) ∧ w.cell? ⟨p, k * 4 + 2, none⟩ = some (.int .u64 (limb (f k) 2 : Nat)) ∧ w.cell? ⟨p, k * 4 + 3, none⟩ = some (.int .u64 (limb (f k) 3 : Nat))) ∧ (w.frozen? ⟨p, k * 4, none⟩ = false ∧ w.frozen? ⟨p, k * 4 + 1, none⟩ = false ∧ w.frozen? ⟨p, k * 4 + 2, none⟩ = false ∧ w.frozen? ⟨p, k * 4 + 3, none⟩ = false) :=
  ⟨⟨h.1 k hk 0 (by omega), h.1 k hk 1 (by omega), h.1 k hk 2 (by omega), h.1 k hk 3 (by omega)⟩, h.2.1 _, h.2.1 _, h.2.1 _, h.2.1 _⟩
theorem TabN.put {W : World} {p n : Nat} {f : Nat → Nat} (h : TabN W p n f) (k x : Nat) (_hk : k < n) : TabN ((((W.setCell ⟨p, k * 4, none⟩ (.int .u64 (limb x 0 : Nat))).setCell ⟨p, k * 4 + 1, none⟩ (.int .u64 (limb x 1 : Nat))).setCell ⟨p, k * 4 + 2, none⟩ (.int .u64 (limb x 2 : Nat))).setCell ⟨p, k * 4 + 3, none⟩ (.int .u64 (limb x 3 : Nat))) p n (fun j => if j = k then x else f j) := by
  have fr : ∀ (W : World) (a : Addr) (v : Value) (o : Nat), (W.setCell a v).frozen? ⟨p, o, none⟩ = W.frozen? ⟨p, o, none⟩ := fun _ _ _ _ => World.frozen?_setCell _ _ _ _
  have other : ∀ (W : World) (x y : Nat) (v : Value), x ≠ y → (W.setCell ⟨p, x, none⟩ v).cell? ⟨p, y, none⟩ = W.cell? ⟨p, y, none⟩ := fun W x y v h => World.cell?_setCell_other _ _ _ _ (by intro q; injection q with _ q2 _; exact h q2)
  have same : ∀ (W : World) (x : Nat) (v u : Value), W.cell? ⟨p, x, none⟩ = some u → (W.setCell ⟨p, x, none⟩ v).cell? ⟨p, x, none⟩ = some v := fun W x v u h => World.cell?_setCell_same _ _ _ h
  refine ⟨fun j hj c hc => ?_, fun o => by rw [fr, fr, fr, fr]; exact h.2.1 o, by rw [World.size_setCell, World.size_setCell, World.size_setCell, World.size_setCell]; exact h.2.2⟩
  by_cases e : j = k
  · subst e
    show _ = some (Value.int .u64 ((limb (if j = j then x else f j) c : Nat) : Int))
    rw [if_pos rfl]
    have : c = 0 ∨ c = 1 ∨ c = 2 ∨ c = 3 := by omega
    rcases this with rfl | rfl | rfl | rfl
    · rw [other _ _ _ _ (by omega), other _ _ _ _ (by omega), other _ _ _ _ (by omega)]
      exact same _ _ _ _ (h.1 j hj 0 (by omega))
    · rw [other _ _ _ _ (by omega), other _ _ _ _ (by omega)]
      exact same _ _ _ _ ((other _ _ _ _ (by omega)).trans (h.1 j hj 1 (by omega)))
    · rw [other _ _ _ _ (by omega)]
      exact same _ _ _ _ ((other _ _ _ _ (by omega)).trans ((other _ _ _ _ (by omega)).trans (h.1 j hj 2 (by omega))))
    · exact same _ _ _ _ ((other _ _ _ _ (by omega)).trans ((other _ _ _ _ (by omega)).trans ((other _ _ _ _ (by omega)).trans (h.1 j hj 3 (by omega)))))
  · show _ = some (Value.int .u64 ((limb (if j = k then x else f j) c : Nat) : Int))
    rw [if_neg e, other _ _ _ _ (by omega), other _ _ _ _ (by omega), other _ _ _ _ (by omega), other _ _ _ _ (by omega)]
    exact h.1 j hj c hc
def madeN (n : Nat) : Array Value := madeCells #[.int .u64 0, .int .u64 0, .int .u64 0, .int .u64 0] (n * 4)
theorem madeN_get (n k : Nat) (h : k < n * 4) : (madeN n)[k]? = some (.int .u64 0) := by
  unfold madeN madeCells
  have hk : k < (Array.range (n * 4)).size := by simpa using h
  rw [Array.getElem?_map, Array.getElem?_eq_getElem hk, Option.map_some, Array.getElem_range]
  show some (#[Value.int .u64 0, Value.int .u64 0, Value.int .u64 0, Value.int .u64 0][k % 4]!) = _
  have : k % 4 = 0 ∨ k % 4 = 1 ∨ k % 4 = 2 ∨ k % 4 = 3 := by omega
  rcases this with e | e | e | e <;> rw [e] <;> rfl
theorem TabN.made (w : World) (n : Nat) (t : TypeId) : TabN (w.alloc (.cells (madeN n) t)) w.heap.size n (fun _ => 0) := by
  refine ⟨fun j hj c hc => ?_, fun o => by simp, by simp⟩
  rw [World.cell?_alloc_new, madeN_get n _ (by omega)]
  show _ = some (Value.int .u64 ((limb 0 c : Nat) : Int))
  rw [limb_nought]
  rfl
theorem make_run (n : Nat) (hn : n ≤ 1000000) (w : World) : (Instr.makeSlice 41 (.int .i64 (n : Int)) (.int .i64 (n : Int))).run Tryz.prog w = .ok (.slice (some ⟨w.heap.size, 0, none⟩) n n) (w.alloc (.cells (madeN n) 26)) := by
  obtain ⟨i, hi, hz, hsize, hby⟩ := infoNum
  have h := run_make (P := Tryz.prog) w 41 26 i _ Tryz.underlying41 hi hz .i64 .i64 (n : Int) (n : Int) (by omega) (Int.le_refl _) (by rw [hby]; omega) (by omega)
  rw [hsize] at h
  simp only [Int.toNat_natCast] at h
  exact h
theorem owp_makeX {o : Oper} {a : Act} {K : Act → World → Prop} {Q : Exit → Act → World → Prop} {ty : TypeId} {r : Value} {w w' : World} (v : Value) (sl : Operand) (hop : o.op = Op.makeSlice ty sl sl) (hs : a.eval sl = v) (hr : (Instr.makeSlice ty v v).run Tryz.prog w = .ok r w') (hK : K (a.put o.dst r) w') : Oper.wp Tryz.prog o a w K Q := by
  unfold Oper.wp
  simp [execOp, hop, hs, hr, Result.andThen]
  exact hK
end Go.Proofs.YtienklnigigepaaGreatDoor
