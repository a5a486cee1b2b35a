/- The reference's Read. -/
import Derived.Test.YtdnahobafhelhaaDoorLgS
namespace Go.Proofs.YtdnahobafhelhaaDoor
open Go Go.RowKit Go.Lib

theorem ext_ext (b : ByteArray) (p i j : Nat) : (b.extract p b.size).extract i j = b.extract (p + i) (p + j) := by
  refine ba_ext ?_
  rw [ba_extract, ba_extract, ba_extract, List.take_of_length_le (l := b.data.toList.drop p) (by rw [List.length_drop, ba_len]; exact Nat.le_refl _), List.drop_drop, show p + j - (p + i) = j - i by omega]
theorem ext_size (b : ByteArray) (p : Nat) : (b.extract p b.size).size = b.size - p := by rw [ByteArray.size_extract]; omega
theorem ext_get (b : ByteArray) (p i : Nat) (h : i < (b.extract p b.size).size) (h2 : p + i < b.size) : (b.extract p b.size)[i] = b[p + i] := by
  have e := ba_extract b p b.size
  have h3 : i < (b.extract p b.size).data.toList.length := by rw [ba_len]; exact h
  have h4 : (b.extract p b.size).data.toList[i] = b.data.toList[p + i]'(by rw [ba_len]; exact h2) := by
    simp only [e, List.getElem_take, List.getElem_drop]
  exact h4
theorem firstS_at (k p m : Nat) (b : ByteArray) (h : p + 6 ≤ b.size) (hm : m = b[p].toNat * 256 + b[p + 1].toNat) :
    firstS k (b.extract p b.size) = if 9000 < m ∨ b.size < p + m + 6 then none else if (b.extract (p + 2 + m) (p + 6 + m)).toList == (sealS k (b.extract (p + 2) (p + 2 + m))).toList then some (b.extract (p + 2) (p + 2 + m)) else none := by
  have hz := ext_size b p
  have h1 : 1 < (b.extract p b.size).size := by omega
  have hh : headN (b.extract p b.size) h1 = m := by
    unfold headN
    rw [ext_get b p 0 (by omega) (by omega), ext_get b p 1 (by omega) (by omega), hm]
    rfl
  unfold firstS
  rw [dif_pos h1, hh, ext_ext, ext_ext, hz, Nat.add_assoc p 2 m, show p + (6 + m) = p + 6 + m by omega]
  by_cases q : 9000 < m ∨ b.size < p + m + 6
  · rw [if_pos q, if_pos (by omega)]
  · rw [if_neg q, if_neg (by omega)]
theorem Told.none {k : Nat} {b : ByteArray} {xs : List ByteArray} (h : Told k b xs) (hf : firstS k b = none) : xs = [] := by
  cases h with
  | done _ => rfl
  | more h' _ => rw [hf] at h'; cases h'
theorem Told.some {k : Nat} {b r : ByteArray} {xs : List ByteArray} (h : Told k b xs) (hf : firstS k b = some r) : ∃ ys, xs = r :: ys ∧ Told (k + 1) (b.extract (r.size + 6) b.size) ys := by
  cases h with
  | done h' => rw [hf] at h'; cases h'
  | more h' t => rw [hf] at h'; cases h'; exact ⟨_, rfl, t⟩
theorem firstS_short (k : Nat) (b : ByteArray) (h : b.size < 6) : firstS k b = none := by
  unfold firstS
  split
  · rw [if_pos (by omega)]
  · rfl
/-- What the reference's Read has behind so many records: the answer's place in block A, t in block A + 1, the records' array a block from A + 2 on. -/
def RfI (w : World) (A : Nat) (b : ByteArray) (xs pre rest : List ByteArray) (a : Option Addr) (cap : Nat) (W : World) : Prop :=
  xs = pre ++ rest ∧ Told pre.length (b.extract (sizesN pre) b.size) rest ∧ sizesN pre ≤ b.size ∧ W.cell? ⟨A + 1, 0, none⟩ = some (.slice a pre.length cap) ∧ W.cell? ⟨A + 1, 1, none⟩ = some (.int .i64 (sizesN pre : Nat)) ∧ (∀ o, W.frozen? ⟨A + 1, o, none⟩ = false) ∧ A + 1 < W.heap.size ∧ RowV W (From (A + 2)) a (pre.map Value.string) cap ∧ Below w.heap.size w W ∧ (∀ j, j < 2 → (W.cell? ⟨A, j, none⟩).isSome = true) ∧ (∀ o, W.frozen? ⟨A, o, none⟩ = false)
theorem RfI.call {w : World} {A : Nat} {b : ByteArray} {xs pre rest : List ByteArray} {a : Option Addr} {cap : Nat} {W W' : World} (h : RfI w A b xs pre rest a cap W) (hb : Below W.heap.size W W') : RfI w A b xs pre rest a cap W' := by
  obtain ⟨h1, h2, h3, h4, h5, h6, h7, h8, h9, h10, h11⟩ := h
  exact ⟨h1, h2, h3, (hb.cell (p := ⟨A + 1, 0, none⟩) h7).trans h4, (hb.cell (p := ⟨A + 1, 1, none⟩) h7).trans h5, fun o => (hb.frozen (p := ⟨A + 1, o, none⟩) h7).trans (h6 o), Nat.lt_of_lt_of_le h7 hb.size, RowV.call h8 hb, h9.trans (hb.mono h9.size), fun j hj => by rw [hb.cell (p := ⟨A, j, none⟩) (Nat.lt_of_succ_lt h7)]; exact h10 j hj, fun o => (hb.frozen (p := ⟨A, o, none⟩) (Nat.lt_of_succ_lt h7)).trans (h11 o)⟩
def atN (w : World) (c : Nat) : Nat := match w.cell? ⟨c, 1, none⟩ with | some (.int _ n) => n.toNat | _ => 0
end Go.Proofs.YtdnahobafhelhaaDoor
