/- Slices of strings inside structs among the arguments. -/
import Derived.Test.YtdfadinpeeigkaaOpenS
namespace Go.Proofs.Ytdfadinpeeigkaa
open Go Go.ChangeShapes Go.WideShapes Go.ChangeAt Go.RowKit

theorem sized_agg {H : Type} {P : Program} {ts : List TypeId} {ds : List (DataW H)} (h : (DataW.weightsEach P ts ds).all (· ≤ reachBytes) = true) {j : Nat} {t : TypeId} {fs : Array Field} {parts : List (DataW H)}
    (ht : ts[j]? = some t) (hd : ds[j]? = some (.agg parts)) (hu : P.underlying t = some (.struct fs)) : (DataW.weightsEach P (fs.toList.map (·.type)) parts).all (· ≤ reachBytes) = true := by
  refine List.all_eq_true.2 fun n hn => ?_
  refine List.all_eq_true.1 h n (DataW.weights_mem_each ht hd n ?_)
  simp only [DataW.weights, hu]
  exact hn
theorem open_strs1 {H : Type} {enc : TypeId × Value → H} {W : World} {v : Value} {y : DataW H × List MemPlace} {fuel : Nat} {ts : List TypeId} {ds : List (DataW H)} {j : Nat}
    (hf : DataW.trod enc Try.prog W 0 (fun _ => true) true fuel 22 [v] = some y)
    (hsz : (DataW.weightsEach Try.prog ts ds).all (· ≤ reachBytes) = true) (ht : ts[j]? = some 22) (hd : ds[j]? = some y.1) :
    ∃ (a : Option Addr) (cap : Nat) (l : List ByteArray), v = .slice a l.length cap ∧ Strs W a l ∧ (∀ s ∈ l, s.size < 140737488351233) ∧ l.length ≤ 8796093022208 := by
  have hb : Try.prog.bytesOf 9 = 16 := by kernel_rfl
  rcases open_strings Try.underlying22 Try.underlying9 (by kernel_rfl) hf with ⟨hcs, hx⟩ | ⟨a, len, cap, ss, hcs, _, hl, hm, hzz, hx, hcell, hws⟩
  · obtain rfl : v = .slice none 0 0 := by simpa using hcs
    exact ⟨none, 0, [], rfl, fun j s hj => by simp at hj, fun s hs => by simp at hs, by decide⟩
  · obtain rfl : v = .slice (some a) len cap := by simpa using hcs
    subst hx
    simp only [if_true] at hzz
    have hlen : (ss.take len).length = len := by rw [List.length_take]; omega
    refine ⟨some a, cap, ss.take len, by rw [hlen], fun i s hi => ?_, fun s hs => ?_, ?_⟩
    · have hil : i < len := by
        have := (List.getElem?_eq_some_iff.1 hi).1
        omega
      rw [List.getElem?_take_of_lt hil] at hi
      have hc := hcell i (by omega)
      rw [List.getD_eq_getElem?_getD, hi] at hc
      obtain ⟨b, off, spot⟩ := a
      have hspot : spot = none := by simpa [Addr.add] using World.cell?_spot (hcell 0 (by omega))
      subst hspot
      rw [add_plain] at hc
      exact ⟨b, off, rfl, hc, cell_in hc⟩
    · have hmem : DataW.lit (.string s.data.toList) ∈ strs (H := H) (ss.take len) := List.mem_map.2 ⟨s, hs, rfl⟩
      have h := sized_in hsz (j := j) (t := 22) (e := 9) (k := s.data.toList.length) ht hd Try.underlying22 hmem (by simp [DataW.weights])
      have e : s.data.toList.length = s.size := (Lib.size_eq s).symm
      rw [e] at h
      exact Nat.lt_succ_of_le h
    · have h := sized_slice hsz (j := j) (t := 22) (e := 9) ht hd Try.underlying22
      rw [hb] at h
      have e : (strs (H := H) (ss.take len)).length = len := by rw [strs, List.length_map]; exact hlen
      have h' : ((strs (H := H) (ss.take len)).length + (strs (H := H) (ss.drop len)).length) * 16 ≤ 140737488351232 := h
      rw [hlen]
      omega
end Go.Proofs.Ytdfadinpeeigkaa
