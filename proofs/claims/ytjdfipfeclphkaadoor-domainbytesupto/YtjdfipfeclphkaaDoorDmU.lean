/- Arguments of a bulk that is bounded: texts, and slices of texts. -/
import Derived.Test.YtjdfipfeclphkaaDoorMgC
import Derived.Test.YtjdfipfeclphkaaDoorMgE
import Derived.SizedLaws
import Derived.SliceStrings
import Derived.Lib.SmallJoins
import Derived.Carry
namespace Go.Proofs.YtjdfipfeclphkaaDoor
open Go Go.ChangeShapes Go.WideShapes Go.ChangeAt Go.RowKit

theorem add_plain (b o j : Nat) : (⟨b, o, none⟩ : Addr).add j = ⟨b, o + j, none⟩ := by unfold Addr.add; split <;> simp_all
theorem cell_in {w : World} {a : Addr} {v : Value} (h : w.cell? a = some v) : a.block < w.heap.size := by
  rcases Nat.lt_or_ge a.block w.heap.size with c | c
  · exact c
  · simp [World.cell?, Array.getElem?_eq_none c] at h
theorem bulk_str {H : Type} (s : ByteArray) : Rows.uptoBulk (DataW.lit (H := H) (.string s.data.toList)) = s.size + 1 := by
  simp only [Rows.uptoBulk]
  rw [ba_len]
theorem bulk_strs {H : Type} (l : List ByteArray) : Rows.uptoBulkAll (strs (H := H) l) = bytesN l + l.length := by
  induction l with
  | nil => simp [strs, Rows.uptoBulkAll, bytesN]
  | cons s r ih =>
    have e : strs (H := H) (s :: r) = DataW.lit (.string s.data.toList) :: strs r := rfl
    rw [e]
    simp only [Rows.uptoBulkAll]
    rw [bulk_str, ih]
    simp only [bytesN, List.length_cons]
    omega
theorem open_strsU {H : Type} {enc : TypeId × Value → H} {W : World} {v : Value} {y : DataW H × List MemPlace} {fuel : Nat}
    (hf : DataW.trod enc Tryd.prog W 0 (fun _ => true) true fuel 22 [v] = some y) :
    ∃ (a : Option Addr) (cap : Nat) (l : List ByteArray), v = .slice a l.length cap ∧ Strs W a l ∧ bytesN l + l.length ≤ Rows.uptoBulk y.1 := by
  rcases open_strings Tryd.underlying22 Tryd.underlying9 (by kernel_rfl) hf with ⟨hcs, hx⟩ | ⟨a, len, cap, ss, hcs, _, hl, hm, hzz, hx, hcell, hws⟩
  · obtain rfl : v = .slice none 0 0 := by simpa using hcs
    exact ⟨none, 0, [], rfl, fun j s hj => by simp at hj, by simp [bytesN]⟩
  · obtain rfl : v = .slice (some a) len cap := by simpa using hcs
    simp only [if_true] at hzz
    have hlen : (ss.take len).length = len := by rw [List.length_take]; omega
    refine ⟨some a, cap, ss.take len, by rw [hlen], fun i s hi => ?_, ?_⟩
    · have hil : i < len := by
        have := (List.getElem?_eq_some_iff.1 hi).1
        omega
      rw [List.getElem?_take_of_lt hil] at hi
      have hc := hcell i (by omega)
      rw [List.getD_eq_getElem?_getD, hi] at hc
      obtain ⟨b, off, spot⟩ := a
      have hspot : spot = none := by simpa [Addr.add] using World.cell?_spot (hcell 0 (by omega))
      subst hspot
      rw [add_plain] at hc
      exact ⟨b, off, rfl, hc, cell_in hc⟩
    · rw [hx]
      simp only [Rows.uptoBulk]
      rw [bulk_strs]
      omega
set_option maxRecDepth 100000 in
theorem glob_ofA {W : World} (h : laidMetH Tryd.prog Rows.domainApartUptoRow.laid W) : GlobD W ∧ 2 < W.heap.size := by
  rw [MakeChecks.laidMetH_plain _ _ _ (by kernel_rfl)] at h
  obtain ⟨ps, ⟨g0, t0, cs0, f0, p0, q0, hg0, ht0, hv0, hd0, ⟨g1, t1, cs1, f1, p1, q1, hg1, ht1, hv1, hd1, _, _⟩, _⟩, _, _⟩ := h
  have e0 : some g0 = some 0 := hg0.symm.trans (by kernel_rfl)
  have e1 : some g1 = some 2 := hg1.symm.trans (by kernel_rfl)
  cases e0
  cases e1
  have u0 : some t0 = some 82 := ht0.symm.trans (by kernel_rfl)
  have u1 : some t1 = some 100 := ht1.symm.trans (by kernel_rfl)
  cases u0
  cases u1
  have c0 : ∀ j, j < 8 → W.cell? ⟨0, j, none⟩ = some (.int .u32 (squareL.getD j 0 : Nat)) := fun j hj => laid_u32 squareL rfl Tryd.underlying82 hg0 hv0 hd0 j hj
  have c1 : ∀ j, j < 64 → W.cell? ⟨2, j, none⟩ = some (.int .u32 (cubeL.getD j 0 : Nat)) := fun j hj => laid_u32 cubeL rfl Tryd.underlying100 hg1 hv1 hd1 j hj
  have s0 := size_of_cell (c0 0 (by omega))
  have s1 := size_of_cell (c1 0 (by omega))
  exact ⟨⟨fun j hj => by rw [c0 j hj, square_get j hj], s0, c1, s1⟩, s1⟩
end Go.Proofs.YtjdfipfeclphkaaDoor
