/- Slices of strings, and of ints, among the arguments. -/
import Derived.Test.YtdfadinpeeigkaaDoorPcA
import Derived.Test.YtdfadinpeeigkaaDoorGlobS
import Derived.Test.YtdfadinpeeigkaaDoorSliceK
import Derived.SliceStrings
namespace Go.Proofs.YtdfadinpeeigkaaDoor
open Go Go.ChangeShapes Go.WideShapes Go.ChangeAt Go.RowKit

theorem add_plain (b o j : Nat) : (⟨b, o, none⟩ : Addr).add j = ⟨b, o + j, none⟩ := by unfold Addr.add; split <;> simp_all
theorem open_strs {H : Type} {enc : TypeId × Value → H} {W : World} {base : Nat} {v : Value} {d : DataW H} {p : List MemPlace} {ts : List TypeId} {ds : List (DataW H)} {j : Nat}
    (hv : Value.okWide Tryd.prog W .any base 22 v) (h : DataW.Trod enc Tryd.prog W 0 (fun _ => true) true 22 v d p)
    (hsz : (DataW.weightsEach Tryd.prog ts ds).all (· ≤ reachBytes) = true) (ht : ts[j]? = some 22) (hd : ds[j]? = some d) :
    ∃ (a : Option Addr) (cap : Nat) (l : List ByteArray), v = .slice a l.length cap ∧ Strs W a l ∧ (∀ s ∈ l, s.size < 140737488351233) ∧ l.length ≤ 8796093022208 := by
  obtain ⟨a0, len, cap, rfl⟩ := okWide_slice Tryd.underlying22 hv
  obtain ⟨fuel, hf⟩ := h
  have hb : Tryd.prog.bytesOf 9 = 16 := by kernel_rfl
  rcases open_strings Tryd.underlying22 Tryd.underlying9 (by kernel_rfl) hf with ⟨hcs, hx⟩ | ⟨a, len', cap', ss, hcs, _, hl, hm, hzz, hx, hcell, hws⟩
  · simp [Value.cells] at hcs
    obtain ⟨rfl, rfl, rfl⟩ := hcs
    exact ⟨none, 0, [], rfl, fun j s hj => by simp at hj, fun s hs => by simp at hs, by decide⟩
  · simp [Value.cells] at hcs
    obtain ⟨rfl, rfl, rfl⟩ := hcs
    simp only [Prod.mk.injEq] at hx
    obtain ⟨rfl, rfl⟩ := hx
    simp only [if_true] at hzz
    have hlen : (ss.take len).length = len := by rw [List.length_take]; omega
    refine ⟨some a, cap, ss.take len, by rw [hlen], fun i s hi => ?_, fun s hs => ?_, ?_⟩
    · have hil : i < len := by
        have := (List.getElem?_eq_some_iff.1 hi).1
        omega
      rw [List.getElem?_take_of_lt hil] at hi
      have hc := hcell i (by omega)
      rw [List.getD_eq_getElem?_getD, hi] at hc
      obtain ⟨b, off, spot⟩ := a
      have hspot : spot = none := by simpa [Addr.add] using World.cell?_spot (hcell 0 (by omega))
      subst hspot
      rw [add_plain] at hc
      exact ⟨b, off, rfl, hc, cell_in hc⟩
    · have hmem : DataW.lit (.string s.data.toList) ∈ strs (H := H) (ss.take len) := List.mem_map.2 ⟨s, hs, rfl⟩
      have h := sized_in hsz (j := j) (t := 22) (e := 9) (k := s.data.toList.length) ht hd Tryd.underlying22 hmem (by simp [DataW.weights])
      have e : s.data.toList.length = s.size := (Lib.size_eq s).symm
      rw [e] at h
      exact Nat.lt_succ_of_le h
    · have h := sized_slice hsz (j := j) (t := 22) (e := 9) ht hd Tryd.underlying22
      rw [hb] at h
      have e : (strs (H := H) (ss.take len)).length = len := by rw [strs, List.length_map]; exact hlen
      have h' : ((strs (H := H) (ss.take len)).length + (strs (H := H) (ss.drop len)).length) * 16 ≤ 140737488351232 := h
      rw [hlen]
      omega
end Go.Proofs.YtdfadinpeeigkaaDoor
