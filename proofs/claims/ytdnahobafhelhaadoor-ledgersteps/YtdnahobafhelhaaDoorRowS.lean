/- Texts that a call owns: a slice of strings whose array is the call's own, and append onto it. -/
import Derived.Test.YtdnahobafhelhaaDoorPcA
namespace Go.Proofs.YtdnahobafhelhaaDoor
open Go Go.RowKit Go.Lib

theorem infoStr : ∃ i, Tryd.prog.info? 9 = some i ∧ i.zero = some (.string ⟨#[]⟩) ∧ i.size = 1 ∧ i.bytes = 16 := by
  have h : (Tryd.prog.info? 9).map (fun i => (i.zero, i.size, i.bytes)) = some (some (.string ⟨#[]⟩), 1, 16) := by kernel_rfl
  cases e : Tryd.prog.info? 9 with
  | none => rw [e] at h; cases h
  | some i =>
    rw [e] at h
    simp only [Option.map_some, Option.some.injEq, Prod.mk.injEq] at h
    exact ⟨i, rfl, h.1, h.2.1, h.2.2⟩
def RowS (w : World) (base : Nat) (a : Option Addr) (l : List ByteArray) (cap : Nat) : Prop := w.ownsRow base 9 1 (.slice a l.length cap) l.length (l.map Value.string)
theorem RowS.nil (w : World) (base : Nat) : RowS w base none [] 0 := World.ownsRow_nil w base _ 1
theorem grown_of_below {w w' : World} (h : Below w.heap.size w w') : w.grownBy w' none := ⟨h.os, h.tape, h.output, h.size, fun k hk _ => h.block k hk⟩
theorem RowS.call {w w' : World} {base cap : Nat} {a : Option Addr} {l : List ByteArray} (h : RowS w base a l cap) (hb : Below w.heap.size w w') : RowS w' base a l cap :=
  World.ownsRow.kept h (grown_of_below hb) (by
    cases e : (Value.slice a l.length cap).ownBlock with
    | none => exact .inl rfl
    | some k => exact .inr (by simp))
theorem RowS.drew {w : World} {base cap : Nat} {a : Option Addr} {l : List ByteArray} (h : RowS w base a l cap) : RowS w.drew base a l cap := h
theorem RowS.strs {w : World} {base cap : Nat} {a : Option Addr} {l : List ByteArray} (h : RowS w base a l cap) : Strs w a l := by
  intro j s hj
  have hu : (l.map Value.string)[j]? = some (.string s) := by rw [List.getElem?_map, hj]; rfl
  rcases h.2 with ⟨h1, h2⟩ | ⟨g, cap', cur, h1, h2, h3, h4, h5, h6, h7⟩
  · have : l = [] := List.eq_nil_of_length_eq_zero h2
    subst this
    simp at hj
  · injection h1 with h1 _ h1c
    subst h1
    refine ⟨g, 0, rfl, ?_, (Array.getElem?_eq_some_iff.1 h3).1⟩
    have := World.ownsRow.cells h (g := g) (by simp [Value.ownBlock]) j (.string s) hu
    rwa [Addr.add_lit] at this
section
variable (w : World)
theorem owp_append_RowS {o : Oper} {a : Act} {K : Act → World → Prop} {Q : Exit → Act → World → Prop}
    (sl x : Operand) (hop : o.op = Op.call { callee := Callee.builtin Builtin.append, args := #[sl, x], argTypes := #[23, 23] })
    (base : Nat) (aa : Option Addr) (n cap : Nat) (l : List ByteArray) (s : ByteArray) (hs : a.eval sl = .slice aa n cap) (hnn : n = l.length) (h : RowS w base aa l cap) (hB : base ≤ w.heap.size) (hl : l.length ≤ 1000000)
    (ad : Addr) (c : Nat) (hx : a.eval x = .slice (some ad) 1 c) (hc : w.cell? ad = some (.string s))
    (hK : ∀ a' m' cap' w', m' = n + 1 → RowS w' base a' (l ++ [s]) cap' → Below base w w' → K (a.put o.dst (.slice a' m' cap')) w') : Oper.wp Tryd.prog o a w K Q := by
  obtain ⟨i, hi, hz, hsize, hby⟩ := infoStr
  subst hnn
  have had : ad.add 0 = ad := by unfold Addr.add; split <;> simp_all
  obtain ⟨v', w', hr, ho, hg, _⟩ := run_append_own (P := Tryd.prog) w base 23 o.type 9 i (.string ⟨#[]⟩) 1 16 Tryd.underlying23 hi hz hsize hby rfl (by decide) (.slice aa l.length cap) l.length (l.map Value.string) h ad 1 c [.string s] rfl
    (fun j u hj => by
      match j, hj with
      | 0, hj => simp at hj; subst hj; rw [had]; exact hc
      | j + 1, hj => simp at hj) (fun u hu => by simp at hu; subst hu; rfl) (by unfold maxLen; omega) (by omega) hB
  have ho' : w'.ownsRow base 9 1 v' (l ++ [s]).length ((l ++ [s]).map Value.string) := by
    rw [List.length_append, List.map_append]; exact ho
  have hv : ∃ a' cap', v' = .slice a' (l ++ [s]).length cap' := by
    rcases ho'.2 with ⟨rfl, h2⟩ | ⟨g, cap', cur, rfl, _⟩
    · exact ⟨none, 0, by rw [h2]⟩
    · exact ⟨_, cap', rfl⟩
  obtain ⟨a', cap', rfl⟩ := hv
  have hb : Below base w w' := (Below.refl base w).grown hg hB (fun k hk => (World.ownsRow.lt h k hk).1)
  unfold Oper.wp
  simp [execOp, hop, resolve, invoke, builtin, hs, hx, hr, Result.andThen]
  have := hK a' (l.length + 1) cap' w' rfl ho' hb
  exact this
theorem wpList_append_RowS {ops : Array Oper} {rest : List Oper} {o : Oper} {a : Act} {Q : Exit → Act → World → Prop} (hgd : o.guard = none)
    (sl x : Operand) (hop : o.op = Op.call { callee := Callee.builtin Builtin.append, args := #[sl, x], argTypes := #[23, 23] })
    (base : Nat) (aa : Option Addr) (n cap : Nat) (l : List ByteArray) (s : ByteArray) (hs : a.eval sl = .slice aa n cap) (hnn : n = l.length) (h : RowS w base aa l cap) (hB : base ≤ w.heap.size) (hl : l.length ≤ 1000000)
    (ad : Addr) (c : Nat) (hx : a.eval x = .slice (some ad) 1 c) (hc : w.cell? ad = some (.string s))
    (hK : ∀ a' m' cap' w', m' = n + 1 → RowS w' base a' (l ++ [s]) cap' → Below base w w' → wpList Tryd.prog ops Q rest (a.put o.dst (.slice a' m' cap')) w') : wpList Tryd.prog ops Q (o :: rest) a w := by
  refine wpList_plain hgd fun K hK' => ?_
  exact owp_append_RowS w sl x hop base aa n cap l s hs hnn h hB hl ad c hx hc (fun a' m' cap' w' h1 h2 h3 => hK' _ _ (hK a' m' cap' w' h1 h2 h3))
end
end Go.Proofs.YtdnahobafhelhaaDoor
