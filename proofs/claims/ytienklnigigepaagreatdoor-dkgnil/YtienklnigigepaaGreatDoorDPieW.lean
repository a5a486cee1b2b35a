/- The law DigestPieces: in how many pieces a text is written says nothing. -/
import Derived.Test.YtienklnigigepaaGreatDoorDPieC
namespace Go.Proofs.YtienklnigigepaaGreatDoor
open Go.RowKit

theorem sb_append (a t : ByteArray) (j : Nat) : sb (a ++ t) j = if j < a.size then sb a j else sb t (j - a.size) := by
  have l : a.data.toList.length = a.size := (Lib.size_eq a).symm
  unfold sb
  have e : (a ++ t).data.toList = a.data.toList ++ t.data.toList := by simp [ByteArray.data_append]
  rw [e, List.map_append, List.getD_eq_getElem?_getD, List.getElem?_append, List.length_map, l]
  by_cases c : j < a.size
  · rw [if_pos c, if_pos c, ← List.getD_eq_getElem?_getD]
  · rw [if_neg c, if_neg c, ← List.getD_eq_getElem?_getD]
theorem padT_append (a t : ByteArray) : (∀ j, j < a.size → padT a j = padT (a ++ t) j) ∧ ∀ j, j < t.size → sb t j = padT (a ++ t) (a.size + j) := by
  have hz : (a ++ t).size = a.size + t.size := ByteArray.size_append
  refine ⟨fun j hj => ?_, fun j hj => ?_⟩
  · unfold padT
    rw [if_pos hj, if_pos (by omega), sb_append, if_pos hj]
  · unfold padT
    rw [if_pos (by omega), sb_append, if_neg (by omega), Nat.add_sub_cancel_left]
/-- A piece more. -/
theorem piece_any (g : Nat) (a t : ByteArray) (hs : a.size + t.size < 1152921504606846976) (w : World) (hH : HashT w g (padT a) a.size) (hC : Cube w) (hg : 5 < g) :
    Calls Tryz.prog 127 #[.pointer (some ⟨g, 0, none⟩), .string t] w fun e w' => e = .returned (.int .i64 0) ∧ HashT w' g (padT (a ++ t)) (a ++ t).size ∧ Cube w' ∧ Below g w w' := by
  have hz : (a ++ t).size = a.size + t.size := ByteArray.size_append
  have h := padT_append a t
  rw [hz]
  exact write_any g (padT (a ++ t)) (padT_lt _) a.size (a.size + t.size) t h.2 rfl (by omega) w (hH.text h.1) hC hg
end Go.Proofs.YtienklnigigepaaGreatDoor
