/- The laws ParcelBack and ParcelApart: the walks. -/
import Derived.Test.YtadcjdffjhiniaaPcW
import Derived.Test.YtadcjdffjhiniaaPcL
namespace Go.Proofs.Ytadcjdffjhiniaa
open Go Go.RowKit Go.Lib

theorem ba_whole (a : ByteArray) : a.extract 0 a.size = a := by
  apply ba_ext
  rw [ba_extract, Nat.sub_zero, List.drop_zero, ← ba_len]
  exact List.take_of_length_le (Nat.le_refl _)
theorem pkE_zero {k : Int} {l : List ByteArray} (h : pkE k l = 0) : ∃ m : Nat, k = (m : Nat) ∧ kindB (m : Nat) = true ∧ fitB l = true ∧ pkS k l = ofL (packL m l) := by
  unfold pkE at h
  rcases Bool.eq_false_or_eq_true (kindB k) with hk | hk
  · rcases Bool.eq_false_or_eq_true (fitB l) with hf | hf
    · have hk' : 1 ≤ k ∧ k ≤ 63 := of_decide_eq_true hk
      obtain ⟨m, rfl⟩ : ∃ m : Nat, k = (m : Nat) := ⟨k.toNat, by omega⟩
      exact ⟨m, rfl, hk, hf, (pk_yes hk hf).1⟩
    · rw [hk, hf] at h; exact absurd h (by decide)
  · rw [hk] at h; exact absurd (show (1 : Int) = 0 from h) (by decide)
/-- What was packed, unpacked: the contract. -/
theorem unpack_packed {k : Int} {l : List ByteArray} (h : pkE k l = 0) (w : World) : Calls Try.prog 37 #[.string (pkS k l)] w fun e w' => ∃ a cap, e = .returned (.tuple #[.int .i64 k, .slice a l.length cap, .int .i64 0]) ∧ Strs w' a l ∧ Below w.heap.size w w' := by
  obtain ⟨m, rfl, hk, hf, e⟩ := pkE_zero h
  rw [e]
  obtain ⟨g1, g2, g3⟩ := up_pack hk hf
  have hz : (ofL (packL m l)).size < 140737488351233 := by
    unfold fitB at hf
    simp only [Bool.and_eq_true, decide_eq_true_eq] at hf
    rw [ofL_size]
    unfold packL
    simp only [List.length_cons, itemsL_length]
    omega
  have := unpack_any (ofL (packL m l)) hz w
  unfold upPost at this
  rw [ofL_data, g1, g2, g3] at this
  exact this
/-- What was unpacked, packed: the contract. -/
theorem pack_unpacked {s : ByteArray} (h : upE s.data.toList = 0) (a : Option Addr) (cap : Nat) (w : World) (hS : Strs w a (upL s.data.toList)) : Calls Try.prog 40 #[.int .i64 (upK s.data.toList), .slice a (upL s.data.toList).length cap] w fun e w' => e = .returned (.tuple #[.string s, .int .i64 0]) ∧ Below w.heap.size w w' := by
  obtain ⟨g1, g2, g3⟩ := pack_up h
  have hz : ∀ t ∈ upL s.data.toList, t.size < 140737488351233 := fun t ht => by
    unfold fitB at g2
    simp only [Bool.and_eq_true, decide_eq_true_eq] at g2
    have := List.all_eq_true.1 g2.1.2 t ht
    have : t.size ≤ 8000 := by simpa using this
    omega
  have := pack_any (upK s.data.toList) a (upL s.data.toList) cap w hS hz
  have e1 : pkS (upK s.data.toList) (upL s.data.toList) = s := by
    unfold pkS; rw [g1, g2, g3]; exact ofL_of s
  have e2 : pkE (upK s.data.toList) (upL s.data.toList) = 0 := by
    unfold pkE; rw [g1, g2]; rfl
  rw [e1, e2] at this
  exact this
theorem pkS_size (k : Int) (l : List ByteArray) (h : pkE k l = 0) : (pkS k l).size ≤ 20000 := by
  obtain ⟨m, rfl, hk, hf, e⟩ := pkE_zero h
  unfold fitB at hf
  simp only [Bool.and_eq_true, decide_eq_true_eq] at hf
  rw [e, ofL_size]
  unfold packL
  simp only [List.length_cons, itemsL_length]
  omega
theorem pkS_prefix {k : Int} {l m : List ByteArray} (h : pkE k l = 0) (h2 : pkE k m = 0) (c : (pkS k m).extract 0 (pkS k l).size = pkS k l) : l = m := by
  obtain ⟨j, rfl, hk, hf, e⟩ := pkE_zero h
  obtain ⟨j', hj, _, hf2, e2⟩ := pkE_zero h2
  obtain rfl : j = j' := by omega
  rw [e, e2] at c
  have c' := congrArg (fun (b : ByteArray) => b.data.toList) c
  simp only [ba_extract, ofL_data, Nat.sub_zero, List.drop_zero, ofL_size] at c'
  refine pack_prefix (k := j) hf hf2 ((packL j m).drop (packL j l).length) ?_
  conv => rhs; lhs; rw [← c']
  exact (List.take_append_drop _ _).symm
theorem pkS_inj {k : Int} {l m : List ByteArray} (h : pkE k l = 0) (h2 : pkE k m = 0) (c : pkS k l = pkS k m) : l = m := by
  refine pkS_prefix h h2 ?_
  rw [c]
  exact ba_whole _
end Go.Proofs.Ytadcjdffjhiniaa
