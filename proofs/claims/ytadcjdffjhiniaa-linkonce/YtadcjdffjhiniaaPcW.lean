/- What every statement of layer 9 asks besides: a record of two items; the law ParcelPacks. -/
import Derived.Test.YtadcjdffjhiniaaPcV
import Derived.Test.YtadcjdffjhiniaaPcS
namespace Go.Proofs.Ytadcjdffjhiniaa
open Go Go.RowKit Go.Lib

theorem Strs.pair (s t : ByteArray) (w : World) (y : TypeId) : Strs (w.alloc (.cells #[.string s, .string t] y)) (some ⟨w.heap.size, 0, none⟩) [s, t] := by
  intro j u hj
  match j, hj with
  | 0, hj => simp at hj; subst hj; exact ⟨_, _, rfl, by simp [go_sem], by simp⟩
  | 1, hj => simp at hj; subst hj; exact ⟨_, _, rfl, by simp [go_sem], by simp⟩
  | j + 2, hj => simp at hj
def abL : List ByteArray := [⟨#[97, 98]⟩, ⟨#[]⟩]
def abS : ByteArray := ⟨#[3, 2, 0, 2, 97, 98, 0, 0]⟩
set_option maxRecDepth 100000 in
theorem ab_pack : pkS 3 abL = abS ∧ pkE 3 abL = 0 := ⟨by kernel_rfl, by kernel_rfl⟩
set_option maxRecDepth 100000 in
theorem ab_unpack : upK abS.data.toList = 3 ∧ upL abS.data.toList = abL ∧ upE abS.data.toList = 0 := ⟨by kernel_rfl, by kernel_rfl, by kernel_rfl⟩
end Go.Proofs.Ytadcjdffjhiniaa
