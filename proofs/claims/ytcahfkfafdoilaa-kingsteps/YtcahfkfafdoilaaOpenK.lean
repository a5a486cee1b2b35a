/- Slices of ints inside structs and slices among the arguments. -/
import Derived.Test.YtcahfkfafdoilaaOpenI
namespace Go.Proofs.Ytcahfkfafdoilaa
open Go Go.ChangeShapes Go.WideShapes Go.ChangeAt Go.RowKit

theorem open_ints_core {H : Type} {enc : TypeId × Value → H} {W : World} {fuel : Nat} {cs : List Value} {y : DataW H × List MemPlace}
    (hf : DataW.trod enc Try.prog W 0 (fun _ => true) true fuel 33 cs = some y) :
    ∃ (a : Option Addr) (cap : Nat) (l : List Int), cs = [.slice a l.length cap] ∧ IntsAt W a l := by
  rcases open_ints Try.underlying33 Try.underlying3 (by kernel_rfl) hf with ⟨hcs, hx⟩ | ⟨a, len, cap, zs, hcs, _, hl, hm, hzz, hx, hcell, hws⟩
  · exact ⟨none, 0, [], hcs, fun j s hj => by simp at hj⟩
  · simp only [if_true] at hzz
    have hlen : (zs.take len).length = len := by rw [List.length_take]; omega
    refine ⟨some a, cap, zs.take len, by rw [hlen]; exact hcs, fun i s hi => ?_⟩
    have hil : i < len := by
      have := (List.getElem?_eq_some_iff.1 hi).1
      omega
    rw [List.getElem?_take_of_lt hil] at hi
    have hc := hcell i (by omega)
    rw [List.getD_eq_getElem?_getD, hi] at hc
    obtain ⟨b, off, spot⟩ := a
    have hspot : spot = none := by simpa [Addr.add] using World.cell?_spot (hcell 0 (by omega))
    subst hspot
    rw [add_plainI] at hc
    exact ⟨b, off, rfl, hc, cell_in hc⟩
theorem open_ints1 {H : Type} {enc : TypeId × Value → H} {W : World} {fuel : Nat} {v : Value} {y : DataW H × List MemPlace}
    (hf : DataW.trod enc Try.prog W 0 (fun _ => true) true fuel 33 [v] = some y) :
    ∃ (a : Option Addr) (cap : Nat) (l : List Int), v = .slice a l.length cap ∧ IntsAt W a l := by
  obtain ⟨a, cap, l, h, hI⟩ := open_ints_core hf
  exact ⟨a, cap, l, by simpa using h, hI⟩
/-- Rows of ints. -/
def IRows (w : World) (a : Option Addr) (L : List (List Int)) : Prop := ∀ (i : Nat) (row : List Int), L[i]? = some row → ∃ b o ra rc, a = some ⟨b, o, none⟩ ∧ w.cell? ⟨b, o + i, none⟩ = some (.slice ra row.length rc) ∧ IntsAt w ra row ∧ b < w.heap.size
theorem list_ofI {P : Nat → List Int → Prop} : ∀ len : Nat, (∀ i, i < len → ∃ n, P i n) → ∃ l : List (List Int), l.length = len ∧ ∀ i n, l[i]? = some n → P i n
  | 0, _ => ⟨[], rfl, fun i n h => by simp at h⟩
  | len + 1, h => by
    obtain ⟨l, hl, hp⟩ := list_ofI len (fun i hi => h i (by omega))
    obtain ⟨x, hx⟩ := h len (by omega)
    refine ⟨l ++ [x], by simp [hl], fun i n hi => ?_⟩
    rcases Nat.lt_or_ge i l.length with c | c
    · rw [List.getElem?_append_left c] at hi; exact hp i n hi
    · rw [List.getElem?_append_right c] at hi
      have e : i - l.length = 0 := by
        have := (List.getElem?_eq_some_iff.1 hi).1
        simp at this
        omega
      rw [e] at hi
      simp at hi
      subst hi
      obtain rfl : i = len := by omega
      exact hx
set_option maxRecDepth 100000 in
theorem open_intss {H : Type} {enc : TypeId × Value → H} {W : World} {base : Nat} {v : Value} {d : DataW H} {p : List MemPlace}
    (hv : Value.okWide Try.prog W .any base 24 v) (h : DataW.Trod enc Try.prog W 0 (fun _ => true) true 24 v d p) :
    ∃ (a : Option Addr) (cap : Nat) (L : List (List Int)), v = .slice a L.length cap ∧ IRows W a L := by
  obtain ⟨a0, len, cap, rfl⟩ := okWide_slice Try.underlying24 hv
  obtain ⟨fuel, hf⟩ := h
  have c1 : Try.prog.cellsOf 33 = 1 := by kernel_rfl
  rcases DataW.trod_slice Try.underlying24 hf with ⟨hcs, hx⟩ | ⟨a, len', cap', elems, rest, m0, _, hcs, hx, hbs, hl, hm, hlen, hel, _⟩
  · simp [Value.cells] at hcs
    obtain ⟨rfl, rfl, rfl⟩ := hcs
    exact ⟨none, 0, [], rfl, fun j s hj => by simp at hj⟩
  · simp [Value.cells] at hcs
    obtain ⟨rfl, rfl, rfl⟩ := hcs
    have key : ∀ i, i < len → ∃ row : List Int, ∃ ra rc, W.cell? (a.add (i * 1)) = some (.slice ra row.length rc) ∧ IntsAt W ra row := by
      intro i hi
      have hi' : i < elems.length := by omega
      have h1 := hel i hi
      rw [c1, List.getElem?_eq_getElem hi', Option.bind_eq_some_iff] at h1
      obtain ⟨l, hl1, hl2⟩ := h1
      obtain ⟨g1, g2⟩ := cells?_get hl1
      obtain ⟨ra, rc, row, e1, e3⟩ := open_ints_core hl2
      have h0 := g2 0 (by omega)
      rw [e1] at h0
      have had : ∀ b : Addr, b.add 0 = b := fun b => by unfold Addr.add; split <;> simp_all
      rw [had] at h0
      exact ⟨row, ra, rc, by rw [h0]; rfl, e3⟩
    obtain ⟨L, hll, hp⟩ := list_ofI len key
    refine ⟨some a, cap, L, by rw [hll], fun i row hi => ?_⟩
    have hil : i < len := by
      have := (List.getElem?_eq_some_iff.1 hi).1
      omega
    obtain ⟨ra, rc, hc, hn⟩ := hp i row hi
    obtain ⟨b, off, spot⟩ := a
    have hspot : spot = none := by
      obtain ⟨_, _, h0, _⟩ := hp 0 (L[0]'(by omega)) (List.getElem?_eq_getElem (by omega))
      have := World.cell?_spot h0
      simpa [Addr.add] using this
    subst hspot
    rw [add_plainI, Nat.mul_one] at hc
    exact ⟨b, off, ra, rc, rfl, hc, hn, cell_in hc⟩
end Go.Proofs.Ytcahfkfafdoilaa
