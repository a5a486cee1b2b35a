/- Slices of records among the arguments: what is read of each is told by one that opens an element. -/
import Derived.Test.YtbpgiijdcagckaaDoorOpnTd
import Derived.Test.YtbpgiijdcagckaaDoorSliceK
namespace Go.Proofs.YtbpgiijdcagckaaDoor
open Go Go.ChangeShapes Go.WideShapes Go.ChangeAt Go.RowKit
theorem add_plainK (b o j : Nat) : (⟨b, o, none⟩ : Addr).add j = ⟨b, o + j, none⟩ := by unfold Addr.add; split <;> simp_all
theorem wf_boundsK {n : Int} (h : (Lit.int .i64 n).wf = true) : -9223372036854775808 ≤ n ∧ n ≤ 9223372036854775807 := by
  simp [Lit.wf, IntKind.min, IntKind.max, IntKind.signed, IntKind.bits] at h
  omega
set_option maxRecDepth 100000 in
theorem open_rowsK {H : Type} {enc : TypeId × Value → H} {W : World} {base : Nat} {v : Value} {d : DataW H} {p : List MemPlace} {ty e : TypeId} {k : Nat} {E : Td → List Value} {Pp : Td → Prop}
    (hu : Tryd.prog.underlying ty = some (.slice e)) (cz : Tryd.prog.cellsOf e = k) (k0 : 0 < k) (hE : ∀ t, (E t).length = k)
    (hdec : ∀ {fuel l x}, DataW.trod enc Tryd.prog W 0 (fun _ => true) true fuel e l = some x → l.length = k → ∃ t, l = E t ∧ Pp t)
    (hv : Value.okWide Tryd.prog W .any base ty v) (h : DataW.Trod enc Tryd.prog W 0 (fun _ => true) true ty v d p) :
    ∃ (a : Option Addr) (len cap : Nat) (ts : Nat → Td), v = .slice a len cap ∧ (∀ j, j < len → ∃ b o, a = some ⟨b, o, none⟩ ∧ W.rangeAt b (o + j * k) (E (ts j)) ∧ b < W.heap.size) ∧ ∀ j, j < len → Pp (ts j) := by
  obtain ⟨a0, len, cap, rfl⟩ := okWide_slice hu hv
  obtain ⟨fuel, hf⟩ := h
  rcases DataW.trod_slice hu hf with ⟨hcs, hx⟩ | ⟨a, len', cap', elems, rest, n, _, hcs, hx, hb, hl, hm, hlen, hel, _⟩
  · simp [Value.cells] at hcs
    obtain ⟨rfl, rfl, rfl⟩ := hcs
    exact ⟨none, 0, 0, fun _ => ⟨0, 0, 0, false, 0, 0, false, 0, 0, 0, 0⟩, rfl, fun j hj => absurd hj (by omega), fun j hj => absurd hj (by omega)⟩
  · simp [Value.cells] at hcs
    obtain ⟨rfl, rfl, rfl⟩ := hcs
    simp only [Prod.mk.injEq] at hx
    obtain ⟨rfl, rfl⟩ := hx
    have key : ∀ j, j < len → ∃ t : Td, (∀ c u, (E t)[c]? = some u → W.cell? (a.add (j * k) |>.add c) = some u) ∧ Pp t := by
      intro j hj
      have hj' : j < elems.length := by omega
      have h1 := hel j hj
      rw [cz, List.getElem?_eq_getElem hj', Option.bind_eq_some_iff] at h1
      obtain ⟨l, hl1, hl2⟩ := h1
      obtain ⟨g1, g2⟩ := cells?_get hl1
      obtain ⟨t, e1, e2⟩ := hdec hl2 g1
      refine ⟨t, fun c u hu => ?_, e2⟩
      rw [← e1] at hu
      have hc : c < k := by
        have := (List.getElem?_eq_some_iff.1 hu).1
        omega
      rw [g2 c hc]
      exact hu
    have ex : ∃ ts : Nat → Td, ∀ j, j < len → (∀ c u, (E (ts j))[c]? = some u → W.cell? (a.add (j * k) |>.add c) = some u) ∧ Pp (ts j) :=
      ⟨fun j => if hj : j < len then Classical.choose (key j hj) else ⟨0, 0, 0, false, 0, 0, false, 0, 0, 0, 0⟩, fun j hj => by
        simp only [dif_pos hj]
        exact Classical.choose_spec (key j hj)⟩
    obtain ⟨ts, hts⟩ := ex
    have first : ∀ j, ∃ u, (E (ts j))[0]? = some u := fun j => ⟨(E (ts j))[0]'(by rw [hE]; exact k0), List.getElem?_eq_getElem _⟩
    refine ⟨some a, len, cap, ts, rfl, fun j hj => ?_, fun j hj => (hts j hj).2⟩
    obtain ⟨b, off, spot⟩ := a
    have hspot : spot = none := by
      obtain ⟨u, hu⟩ := first 0
      simpa [Addr.add] using World.cell?_spot ((hts 0 (by omega)).1 0 u hu)
    subst hspot
    have q0 : ∀ c u, (E (ts j))[c]? = some u → W.cell? ⟨b, off + j * k + c, none⟩ = some u := fun c u hu => by
      have := (hts j hj).1 c u hu
      rwa [add_plainK, add_plainK] at this
    obtain ⟨u, hu⟩ := first j
    exact ⟨b, off, rfl, q0, cell_in (q0 0 u hu)⟩
set_option maxRecDepth 100000 in
theorem trod_prW {H : Type} {enc : TypeId × Value → H} {W : World} {base fuel : Nat} {spare : Nat → Bool} {held : Bool} {c0 c1 c2 c3 c4 c5 c6 c7 c8 c9 c10 c11 c12 c13 c14 c15 c16 c17 c18 : Value} {x : DataW H × List MemPlace}
    (hf : DataW.trod enc Tryd.prog W base spare held fuel 31 [c0, c1, c2, c3, c4, c5, c6, c7, c8, c9, c10, c11, c12, c13, c14, c15, c16, c17, c18] = some x) :
    ∃ v0 : Int, c0 = .int .i64 v0 ∧ -9223372036854775808 ≤ v0 ∧ v0 ≤ 9223372036854775807 := by
  obtain ⟨xs, m, _, hx, _, hl, hall⟩ := DataW.trod_struct Tryd.underlying31 hf
  have i0 := hall 0 _ rfl
  match xs, hl with
  | [y0, y1, y2], _ =>
    simp [cellsIntK] at i0
    obtain ⟨v0, e0, rfl, w⟩ := DataW.trod_int Tryd.underlying3 i0
    simp at e0
    exact ⟨v0, e0, wf_boundsK w⟩
end Go.Proofs.YtbpgiijdcagckaaDoor
