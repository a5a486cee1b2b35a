/- A number's 32 bytes as a text: its length, its bytes, and the text that a number's bytes are. -/
import Derived.Test.YtdfdfkhilolnmaaDoorBytesR
import Derived.Test.YtdfdfkhilolnmaaDoorFromR
namespace Go.Proofs.YtdfdfkhilolnmaaDoor
open Go.RowKit

theorem text_size (a : Nat) : (⟨(bytesL a 32).toArray⟩ : ByteArray).size = 32 := by
  show (bytesL a 32).toArray.size = 32
  simp [bytesL_length]
theorem text_byte (a j : Nat) (hj : j < 32) : sbyte ⟨(bytesL a 32).toArray⟩ j = byteN a j := by
  have h : j < (⟨(bytesL a 32).toArray⟩ : ByteArray).size := by rw [text_size]; exact hj
  rw [← sbyte_eq _ _ h]
  have g := bytesL_get a 32 j (by rw [bytesL_length]; exact hj)
  have e : (⟨(bytesL a 32).toArray⟩ : ByteArray)[j]'h = (bytesL a 32)[j]'(by rw [bytesL_length]; exact hj) := by
    show (bytesL a 32).toArray[j] = _
    simp
  rw [e]
  omega
theorem text_back (s : ByteArray) (hs : s.size = 32) : (⟨(bytesL (numB (sbyte s)) 32).toArray⟩ : ByteArray) = s := by
  have hl : s.data.size = 32 := hs
  apply ByteArray.ext
  apply Array.ext
  · show (bytesL _ 32).toArray.size = _
    simp [bytesL_length, hl]
  · intro j h1 h2
    have hj : j < 32 := by omega
    have e := byteN_numB (sbyte s) (sbyte_lt s) j hj
    have e2 : (s.data[j]'h2).toNat = sbyte s j := sbyte_eq s j (by show j < s.data.size; exact h2)
    apply UInt8.toNat_inj.1
    rw [e2, ← e]
    have g := bytesL_get (numB (sbyte s)) 32 j (by rw [bytesL_length]; exact hj)
    show ((bytesL (numB (sbyte s)) 32).toArray[j]'h1).toNat = _
    rw [List.getElem_toArray]
    omega
end Go.Proofs.YtdfdfkhilolnmaaDoor
