/- Package parcel: which kinds are kinds, which items fit; a record's bytes. -/
import Derived.Test.YtdnahobafhelhaaDoorRowB
import Derived.Test.YtdnahobafhelhaaDoorMgA
namespace Go.Proofs.YtdnahobafhelhaaDoor
open Go Go.RowKit Go.Lib

theorem infoA8 : (Tryd.prog.info? 5).map (fun i => (i.zero, i.size, i.bytes)) = some (some (.int .u8 0), 1, 1) := by kernel_rfl
theorem infoU8' : ∃ i, Tryd.prog.info? 5 = some i ∧ i.zero = some (.int .u8 0) ∧ i.size = 1 ∧ i.bytes = 1 := by
  have h := infoA8
  cases e : Tryd.prog.info? 5 with
  | none => rw [e] at h; cases h
  | some i =>
    rw [e] at h
    simp only [Option.map_some, Option.some.injEq, Prod.mk.injEq] at h
    exact ⟨i, rfl, h.1, h.2.1, h.2.2⟩
/-- Texts that lie behind an address. -/
def Strs (w : World) (a : Option Addr) (l : List ByteArray) : Prop :=
  ∀ j s, l[j]? = some s → ∃ p o, a = some ⟨p, o, none⟩ ∧ w.cell? ⟨p, o + j, none⟩ = some (.string s) ∧ p < w.heap.size
theorem Strs.call {w w' : World} {a : Option Addr} {l : List ByteArray} (h : Strs w a l) (hb : Below w.heap.size w w') : Strs w' a l := fun j s hj => by
  obtain ⟨p, o, h1, h2, h3⟩ := h j s hj
  exact ⟨p, o, h1, (hb.cell (p := ⟨p, o + j, none⟩) h3).trans h2, Nat.lt_of_lt_of_le h3 hb.size⟩
theorem Strs.get {w : World} {a : Option Addr} {l : List ByteArray} (h : Strs w a l) {k : Nat} (hk : k < l.length) : ∃ p o, a = some ⟨p, o, none⟩ ∧ w.cell? ⟨p, o + k, none⟩ = some (.string (l[k]'hk)) ∧ p < w.heap.size :=
  h k _ (List.getElem?_eq_getElem hk)

theorem ret_bool {a b : Bool} (h : a = b) : Ending.returned (.bool a) = .returned (.bool b) := by rw [h]
end Go.Proofs.YtdnahobafhelhaaDoor
