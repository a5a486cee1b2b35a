/- Blocks are coloured by their owners: what one owner does leaves the others' blocks alone; slices whose arrays are of a colour. -/
import Derived.Test.YtolhkpgpcbebiaaRowV
namespace Go.Proofs.Ytolhkpgpcbebiaa
open Go Go.RowKit Go.Lib

/-- The blocks that were made from w to w' are the owner's. -/
def paint (c : Nat → Nat) (w w' : World) (i : Nat) : Nat → Nat := fun k => if w.heap.size ≤ k ∧ k < w'.heap.size then i else c k
theorem paint_old {c : Nat → Nat} {w w' : World} {i k : Nat} (h : k < w.heap.size) : paint c w w' i k = c k := if_neg (fun q => absurd q.1 (Nat.not_le_of_lt h))
theorem paint_new {c : Nat → Nat} {w w' : World} {i k : Nat} (h : w.heap.size ≤ k) (h2 : k < w'.heap.size) : paint c w w' i k = i := if_pos ⟨h, h2⟩
/-- All is as it was but for the blocks of colours i and j, and new ones. -/
def Chg (w : World) (c : Nat → Nat) (i j : Nat) (w' : World) : Prop := Off (fun k => c k = i ∨ c k = j ∨ w.heap.size ≤ k) w w'
theorem Chg.of_below {w w' : World} {c : Nat → Nat} {i j : Nat} (h : Below w.heap.size w w') : Chg w c i j w' := Off.of_below h (fun _ hk => .inr (.inr hk))
theorem Chg.block {w w' : World} {c : Nat → Nat} {i j k : Nat} (h : Chg w c i j w') (hk : k < w.heap.size) (hi : c k ≠ i) (hj : c k ≠ j) : w'.heap[k]? = w.heap[k]? :=
  Off.block h k (fun q => q.elim hi (fun q => q.elim hj (fun q => absurd q (Nat.not_le_of_lt hk))))
theorem Chg.cell {w w' : World} {c : Nat → Nat} {i j b o : Nat} (h : Chg w c i j w') (hk : b < w.heap.size) (hi : c b ≠ i) (hj : c b ≠ j) : w'.cell? ⟨b, o, none⟩ = w.cell? ⟨b, o, none⟩ := World.cell?_of_block (w := w) (a := ⟨b, o, none⟩) (h.block hk hi hj)
theorem Chg.under {w w' : World} {c : Nat → Nat} {i j B : Nat} (h : Chg w c i j w') (hB : ∀ k, k < B → k < w.heap.size ∧ c k = 0) (hi : i ≠ 0) (hj : j ≠ 0) : Below B w w' :=
  ⟨Off.os h, Off.tape h, Off.output h, Off.size h, fun k hk => h.block (hB k hk).1 (fun q => hi (q.symm.trans (hB k hk).2)) (fun q => hj (q.symm.trans (hB k hk).2))⟩
theorem zero_paint {w wr w' : World} {c : Nat → Nat} {i : Nat} (h : ∀ k, k < w.heap.size → k < wr.heap.size ∧ c k = 0) (hz : wr.heap.size ≤ w'.heap.size) : ∀ k, k < w.heap.size → k < w'.heap.size ∧ paint c wr w' i k = 0 :=
  fun k hk => ⟨Nat.lt_of_lt_of_le (h k hk).1 hz, by rw [paint_old (h k hk).1]; exact (h k hk).2⟩
/-- A slice whose array is of colour i. -/
def Row (w : World) (c : Nat → Nat) (i : Nat) (a : Option Addr) (vs : List Value) (cap : Nat) : Prop := RowV w (fun k => c k = i ∨ w.heap.size ≤ k) a vs cap
theorem Row.keep {w w' : World} {c : Nat → Nat} {i a b cap : Nat} (x : Nat) {p : Option Addr} {vs : List Value} (h : Row w c i p vs cap) (hb : Chg w c a b w') (h1 : i ≠ a) (h2 : i ≠ b) : Row w' (paint c w w' x) i p vs cap := by
  rcases h with h | ⟨bb, o, h5, h6, h7, h8⟩
  · exact .inl h
  · have hcb : c bb = i := h6.resolve_right (Nat.not_le_of_lt h7)
    have hR : RowV w (fun k => k = bb) p vs cap := .inr ⟨bb, o, h5, rfl, h7, h8⟩
    exact (hR.kept (Off.size hb) (fun k hk hz => by subst hk; exact hb.block hz (by rw [hcb]; exact h1) (by rw [hcb]; exact h2))).mono (fun k _ hk => by subst hk; left; rw [paint_old h7]; exact hcb)
theorem Row.done {w w' : World} {c : Nat → Nat} {i cap : Nat} {p : Option Addr} {vs : List Value} (h : RowV w' (fun k => c k = i ∨ w.heap.size ≤ k) p vs cap) (_hb : Off (fun k => c k = i ∨ w.heap.size ≤ k) w w') : Row w' (paint c w w' i) i p vs cap :=
  h.mono (fun k hk hF => by
    left
    by_cases q : k < w.heap.size
    · rw [paint_old q]; exact hF.resolve_right (Nat.not_le_of_lt q)
    · exact paint_new (Nat.le_of_not_lt q) hk)
theorem Row.chg {w w' : World} {c : Nat → Nat} {i : Nat} (hb : Off (fun k => c k = i ∨ w.heap.size ≤ k) w w') : Chg w c i i w' :=
  ⟨hb.os, hb.tape, hb.output, hb.size, fun k hk => hb.block k (fun q => hk (q.elim .inl (fun q => .inr (.inr q))))⟩
theorem set_get {α : Type} {l : List α} {i j : Nat} {a x : α} (h : (l.set i a)[j]? = some x) : (i = j ∧ x = a ∧ i < l.length) ∨ (i ≠ j ∧ l[j]? = some x) := by
  rw [List.getElem?_set] at h
  split at h
  · next q =>
    split at h
    · next q2 => exact .inl ⟨q, (Option.some.inj h).symm, q2⟩
    · cases h
  · next q => exact .inr ⟨q, h⟩
theorem set_get_ne {α : Type} {l : List α} {i j : Nat} {a : α} (h : i ≠ j) : (l.set i a)[j]? = l[j]? := by rw [List.getElem?_set, if_neg h]
theorem set_get_eq {α : Type} {l : List α} {i : Nat} {a : α} (h : i < l.length) : (l.set i a)[i]? = some a := by rw [List.getElem?_set, if_pos rfl, if_pos h]
theorem Row.at {w : World} {c : Nat → Nat} {i cap j : Nat} {a : Option Addr} {vs : List Value} {u : Value} (h : Row w c i a vs cap) (hj : vs[j]? = some u) : ∃ tb to, a = some ⟨tb, to, none⟩ ∧ w.cell? ⟨tb, to + j, none⟩ = some u ∧ tb < w.heap.size ∧ c tb = i ∧ ∀ o, w.frozen? ⟨tb, o, none⟩ = false := by
  rcases h with ⟨_, rfl, _⟩ | ⟨b, o, h1, h2, h3, h4, h5, h6, h7, h8⟩
  · simp at hj
  · exact ⟨b, o, h1, h6 j u hj, h3, h2.resolve_right (Nat.not_le_of_lt h3), h8⟩
theorem paint_same {c : Nat → Nat} {w w' : World} {x : Nat} (h : w'.heap.size = w.heap.size) : paint c w w' x = c := by
  funext k
  unfold paint
  rw [if_neg (by omega)]
theorem Chg.set {w : World} {c : Nat → Nat} {t tb o : Nat} {v : Value} (h : c tb = t) : Chg w c t t (w.setCell ⟨tb, o, none⟩ v) :=
  ⟨rfl, rfl, rfl, by rw [World.size_setCell]; exact Nat.le_refl _, fun k hk => Below.heap_setCell w ⟨tb, o, none⟩ v k (fun (q : k = tb) => hk (.inl (by rw [q]; exact h)))⟩
theorem RowV.put {w : World} {F : Nat → Prop} {b o cap j : Nat} {vs : List Value} {v u : Value} (h : RowV w F (some ⟨b, o, none⟩) vs cap) (hj : vs[j]? = some u) : RowV (w.setCell ⟨b, o + j, none⟩ v) F (some ⟨b, o, none⟩) (vs.set j v) cap := by
  rcases h with ⟨h, _⟩ | ⟨b', o', h1, h2, h3, h4, h5, h6, h7, h8⟩
  · cases h
  · cases h1
    have hlt : j < vs.length := (List.getElem?_eq_some_iff.1 hj).1
    refine .inr ⟨b, o, rfl, h2, by rw [World.size_setCell]; exact h3, by rw [List.length_set]; exact h4, h5, fun i y hy => ?_, fun i hi => ?_, fun i => by rw [World.frozen?_setCell]; exact h8 i⟩
    · rcases set_get hy with ⟨rfl, rfl, _⟩ | ⟨q, hy'⟩
      · exact World.cell?_setCell_same _ _ _ (h6 j u hj)
      · rw [World.cell?_setCell_other _ _ _ _ (by intro k; injection k with _ k2 _; omega)]; exact h6 i y hy'
    · by_cases q : i = j
      · subst q; rw [World.cell?_setCell_same _ _ _ (h6 i u hj)]; rfl
      · rw [World.cell?_setCell_other _ _ _ _ (by intro k; injection k with _ k2 _; omega)]; exact h7 i hi
end Go.Proofs.Ytolhkpgpcbebiaa
