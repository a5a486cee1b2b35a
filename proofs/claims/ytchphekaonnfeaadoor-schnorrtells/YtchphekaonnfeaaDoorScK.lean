/- The statement SchnorrHolds' walk. -/
import Derived.Test.YtchphekaonnfeaaDoorScJ
import Derived.Test.YtchphekaonnfeaaDoorMgF
namespace Go.Proofs.YtchphekaonnfeaaDoor
open Go Go.RowKit Go.Lib
theorem Bl.setCell {w : World} {b o : Nat} {vs : List Value} {t : TypeId} (h : Bl w b vs t) (v : Value) : Bl (w.setCell ⟨b, o, none⟩ v) b (vs.set o v) t := by
  have h' : w.heap[b]? = some (.cells vs.toArray t) := h
  show (w.setCell ⟨b, o, none⟩ v).heap[b]? = some (.cells (vs.set o v).toArray t)
  simp [World.setCell, Array.getElem?_modify, h']
def setL : List Value → Nat → List Value → List Value
  | vs, _, [] => vs
  | vs, o, v :: r => setL (vs.set o v) (o + 1) r
theorem Bl.setCells {b : Nat} {t : TypeId} : ∀ (us : List Value) (o : Nat) (vs : List Value) (w : World), Bl w b vs t → Bl (w.setCells b o us) b (setL vs o us) t
  | [], _, _, _, h => h
  | v :: r, o, vs, w, h => Bl.setCells r (o + 1) (vs.set o v) (w.setCell ⟨b, o, none⟩ v) (h.setCell v)
theorem Bl.storeAt {w : World} {b : Nat} {vs : List Value} {t ty : TypeId} (h : Bl w b vs t) (k : Nat) (us : List Value) (hl : k + us.length ≤ vs.length) (hi : (Tryd.prog.info? ty).map (·.size) = some us.length) (h1 : us.toArray.all (·.oneCell') = true) : (storeVar ty ⟨b, k, none⟩ (.agg us.toArray)).run Tryd.prog w = .ok () (w.setCells b k us) :=
  run_storeVar_mid w b k ty us.toArray (fun j hj => by
    have hj' : j < us.length := by simpa using hj
    have hlt : k + j < vs.length := by omega
    have c : w.cell? ⟨b, k + j, none⟩ = some (vs[k + j]'hlt) := h.cells (k + j) _ (List.getElem?_eq_getElem hlt)
    have h' : w.heap[b]? = some (.cells vs.toArray t) := h
    exact ⟨by rw [c]; rfl, by simp [World.frozen?, h']⟩) (by simpa using hi) h1
end Go.Proofs.YtchphekaonnfeaaDoor
