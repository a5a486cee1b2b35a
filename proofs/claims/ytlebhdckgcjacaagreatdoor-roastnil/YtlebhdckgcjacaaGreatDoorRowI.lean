/- Numbers that a call owns: a slice of ints whose array is the call's own, and append onto it. -/
import Derived.Test.YtlebhdckgcjacaaGreatDoorPiA
namespace Go.Proofs.YtlebhdckgcjacaaGreatDoor
open Go Go.RowKit Go.Lib

theorem infoInt : ∃ i, Tryz.prog.info? 3 = some i ∧ i.zero = some (.int .i64 0) ∧ i.size = 1 ∧ i.bytes = 8 := by
  have h : (Tryz.prog.info? 3).map (fun i => (i.zero, i.size, i.bytes)) = some (some (.int .i64 0), 1, 8) := by kernel_rfl
  cases e : Tryz.prog.info? 3 with
  | none => rw [e] at h; cases h
  | some i =>
    rw [e] at h
    simp only [Option.map_some, Option.some.injEq, Prod.mk.injEq] at h
    exact ⟨i, rfl, h.1, h.2.1, h.2.2⟩
def RowI (w : World) (base : Nat) (a : Option Addr) (l : List Int) (cap : Nat) : Prop := w.ownsRow base 3 1 (.slice a l.length cap) l.length (l.map (Value.int .i64))
theorem RowI.nil (w : World) (base : Nat) : RowI w base none [] 0 := World.ownsRow_nil w base _ 1
theorem grown_of_belowI {w w' : World} (h : Below w.heap.size w w') : w.grownBy w' none := ⟨h.os, h.tape, h.output, h.size, fun k hk _ => h.block k hk⟩
theorem RowI.call {w w' : World} {base cap : Nat} {a : Option Addr} {l : List Int} (h : RowI w base a l cap) (hb : Below w.heap.size w w') : RowI w' base a l cap :=
  World.ownsRow.kept h (grown_of_belowI hb) (by
    cases e : (Value.slice a l.length cap).ownBlock with
    | none => exact .inl rfl
    | some k => exact .inr (by simp))
theorem RowI.drew {w : World} {base cap : Nat} {a : Option Addr} {l : List Int} (h : RowI w base a l cap) : RowI w.drew base a l cap := h
theorem RowI.ints {w : World} {base cap : Nat} {a : Option Addr} {l : List Int} (h : RowI w base a l cap) : IntsAt w a l := by
  intro j s hj
  have hu : (l.map (Value.int .i64))[j]? = some (.int .i64 s) := by rw [List.getElem?_map, hj]; rfl
  rcases h.2 with ⟨h1, h2⟩ | ⟨g, cap', cur, h1, h2, h3, h4, h5, h6, h7⟩
  · have : l = [] := List.eq_nil_of_length_eq_zero h2
    subst this
    simp at hj
  · injection h1 with h1 _ h1c
    subst h1
    refine ⟨g, 0, rfl, ?_, (Array.getElem?_eq_some_iff.1 h3).1⟩
    have := World.ownsRow.cells h (g := g) (by simp [Value.ownBlock]) j (.int .i64 s) hu
    rwa [Addr.add_lit] at this
section
variable (w : World)
theorem owp_append_RowI {o : Oper} {a : Act} {K : Act → World → Prop} {Q : Exit → Act → World → Prop}
    (sl x : Operand) (hop : o.op = Op.call { callee := Callee.builtin Builtin.append, args := #[sl, x], argTypes := #[45, 45] })
    (base : Nat) (aa : Option Addr) (n cap : Nat) (l : List Int) (s : Int) (hs : a.eval sl = .slice aa n cap) (hnn : n = l.length) (h : RowI w base aa l cap) (hB : base ≤ w.heap.size) (hl : l.length ≤ 1000000)
    (ad : Addr) (c : Nat) (hx : a.eval x = .slice (some ad) 1 c) (hc : w.cell? ad = some (.int .i64 s))
    (hK : ∀ a' m' cap' w', m' = n + 1 → RowI w' base a' (l ++ [s]) cap' → Below base w w' → K (a.put o.dst (.slice a' m' cap')) w') : Oper.wp Tryz.prog o a w K Q := by
  obtain ⟨i, hi, hz, hsize, hby⟩ := infoInt
  subst hnn
  have had : ad.add 0 = ad := by unfold Addr.add; split <;> simp_all
  obtain ⟨v', w', hr, ho, hg, _⟩ := run_append_own (P := Tryz.prog) w base 45 o.type 3 i (.int .i64 0) 1 8 Tryz.underlying45 hi hz hsize hby rfl (by decide) (.slice aa l.length cap) l.length (l.map (Value.int .i64)) h ad 1 c [.int .i64 s] rfl
    (fun j u hj => by
      match j, hj with
      | 0, hj => simp at hj; subst hj; rw [had]; exact hc
      | j + 1, hj => simp at hj) (fun u hu => by simp at hu; subst hu; rfl) (by unfold maxLen; omega) (by omega) hB
  have ho' : w'.ownsRow base 3 1 v' (l ++ [s]).length ((l ++ [s]).map (Value.int .i64)) := by
    rw [List.length_append, List.map_append]; exact ho
  have hv : ∃ a' cap', v' = .slice a' (l ++ [s]).length cap' := by
    rcases ho'.2 with ⟨rfl, h2⟩ | ⟨g, cap', cur, rfl, _⟩
    · exact ⟨none, 0, by rw [h2]⟩
    · exact ⟨_, cap', rfl⟩
  obtain ⟨a', cap', rfl⟩ := hv
  have hb : Below base w w' := (Below.refl base w).grown hg hB (fun k hk => (World.ownsRow.lt h k hk).1)
  unfold Oper.wp
  simp [execOp, hop, resolve, invoke, builtin, hs, hx, hr, Result.andThen]
  have := hK a' (l.length + 1) cap' w' rfl ho' hb
  exact this
theorem wpList_append_RowI {ops : Array Oper} {rest : List Oper} {o : Oper} {a : Act} {Q : Exit → Act → World → Prop} (hgd : o.guard = none)
    (sl x : Operand) (hop : o.op = Op.call { callee := Callee.builtin Builtin.append, args := #[sl, x], argTypes := #[45, 45] })
    (base : Nat) (aa : Option Addr) (n cap : Nat) (l : List Int) (s : Int) (hs : a.eval sl = .slice aa n cap) (hnn : n = l.length) (h : RowI w base aa l cap) (hB : base ≤ w.heap.size) (hl : l.length ≤ 1000000)
    (ad : Addr) (c : Nat) (hx : a.eval x = .slice (some ad) 1 c) (hc : w.cell? ad = some (.int .i64 s))
    (hK : ∀ a' m' cap' w', m' = n + 1 → RowI w' base a' (l ++ [s]) cap' → Below base w w' → wpList Tryz.prog ops Q rest (a.put o.dst (.slice a' m' cap')) w') : wpList Tryz.prog ops Q (o :: rest) a w := by
  refine wpList_plain hgd fun K hK' => ?_
  exact owp_append_RowI w sl x hop base aa n cap l s hs hnn h hB hl ad c hx hc (fun a' m' cap' w' h1 h2 h3 => hK' _ _ (hK a' m' cap' w' h1 h2 h3))
end
end Go.Proofs.YtlebhdckgcjacaaGreatDoor
