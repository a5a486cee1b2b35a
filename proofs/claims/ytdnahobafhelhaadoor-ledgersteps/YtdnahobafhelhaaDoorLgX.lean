/- Package ledger: a record that is written is told; the reference's Seal and Written. -/
import Derived.Test.YtdnahobafhelhaaDoorLgW
import Derived.Test.YtdnahobafhelhaaDoorPcR
import Derived.Test.YtdnahobafhelhaaDoorPcV
import Derived.Test.YtdnahobafhelhaaDoorRef4Y
namespace Go.Proofs.YtdnahobafhelhaaDoor
open Go Go.RowKit Go.Lib

theorem recS_data (n : Nat) (s t : ByteArray) : (recS n s ++ t).data.toList = UInt8.ofNat (s.size / 256) :: UInt8.ofNat s.size :: (s.data.toList ++ ((sealS n s).data.toList ++ t.data.toList)) := by
  unfold recS
  rw [ba_append, ba_append, ba_append, ofL_data, numL2]
  simp
theorem l0_get (l : List UInt8) (a b : UInt8) (r : List UInt8) (h : 0 < l.length) (e : l = a :: b :: r) : l[0] = a := by subst e; rfl
theorem l1_get (l : List UInt8) (a b : UInt8) (r : List UInt8) (h : 1 < l.length) (e : l = a :: b :: r) : l[1] = b := by subst e; rfl
theorem recS_size' (n : Nat) (s t : ByteArray) : (recS n s ++ t).size = s.size + 6 + t.size := by rw [ByteArray.size_append, recS_size]
theorem recS_head (n : Nat) (s t : ByteArray) (hs : s.size ≤ 9000) (h : 1 < (recS n s ++ t).size) : headN (recS n s ++ t) h = s.size := by
  unfold headN
  have hd := recS_data n s t
  have e0 : (recS n s ++ t)[0] = UInt8.ofNat (s.size / 256) := l0_get (recS n s ++ t).data.toList _ _ _ (by rw [hd]; simp) hd
  have e1 : (recS n s ++ t)[1] = UInt8.ofNat s.size := l1_get (recS n s ++ t).data.toList _ _ _ (by rw [hd]; simp) hd
  rw [e0, e1]
  simp
  omega
theorem firstS_recS (n : Nat) (s t : ByteArray) (hs : s.size ≤ 9000) : firstS n (recS n s ++ t) = some s := by
  have hz := recS_size' n s t
  have h1 : 1 < (recS n s ++ t).size := by omega
  have e : (recS n s ++ t).extract 2 (2 + s.size) = s := by
    refine ba_ext ?_
    rw [ba_extract, recS_data, Nat.add_sub_cancel_left, List.drop_succ_cons, List.drop_succ_cons, List.drop_zero, List.take_append_of_le_length (by rw [ba_len]; exact Nat.le_refl _), List.take_of_length_le (by rw [ba_len]; exact Nat.le_refl _)]
  have e2 : (recS n s ++ t).extract (2 + s.size) (6 + s.size) = sealS n s := by
    refine ba_ext ?_
    rw [ba_extract, recS_data, show 6 + s.size - (2 + s.size) = 4 by omega, show 2 + s.size = s.size + 1 + 1 by omega, List.drop_succ_cons, List.drop_succ_cons, List.drop_append_of_le_length (by rw [ba_len]; exact Nat.le_refl _), List.drop_of_length_le (by rw [ba_len]; exact Nat.le_refl _), List.nil_append, List.take_append_of_le_length (by rw [ba_len, sealS_size]; exact Nat.le_refl _), List.take_of_length_le (by rw [ba_len, sealS_size]; exact Nat.le_refl _)]
  unfold firstS
  rw [dif_pos h1, recS_head n s t hs, if_neg (by omega), e, e2]
  simp
theorem recS_rest (n : Nat) (s t : ByteArray) : (recS n s ++ t).extract (s.size + 6) (recS n s ++ t).size = t := by
  refine ba_ext ?_
  rw [ba_extract, ba_append, recS_size', List.drop_append_of_le_length (by rw [ba_len, recS_size]; exact Nat.le_refl _), List.drop_of_length_le (by rw [ba_len, recS_size]; exact Nat.le_refl _), List.nil_append, List.take_of_length_le (by rw [ba_len]; omega)]
theorem told_recS (k : Nat) (s t : ByteArray) (xs : List ByteArray) (hs : s.size ≤ 9000) (h : Told (k + 1) t xs) : Told k (recS k s ++ t) (s :: xs) :=
  .more (firstS_recS k s t hs) (by rw [recS_rest]; exact h)
theorem told_empty (k : Nat) : Told k ByteArray.empty [] := .done (by unfold firstS; rw [dif_neg (by decide)])
theorem told_one (s : ByteArray) (hs : s.size ≤ 9000) : Told 0 (recS 0 s) [s] := by
  have h := told_recS 0 s ByteArray.empty [] hs (told_empty 1)
  rwa [show recS 0 s ++ ByteArray.empty = recS 0 s from ba_ext (by rw [ba_append]; simp)] at h

set_option maxRecDepth 20000 in
set_option maxHeartbeats 2000000 in
theorem seal11_any (n : Nat) (s : ByteArray) (hn : n < 9223372036854775808) (hs : s.size ≤ 1099511627776) (w : World) :
    Calls Tryd.prog 27 #[.int .i64 (n : Nat), .string s] w fun e w' => e = .returned (.string (sealS n s)) ∧ Below w.heap.size w w' := by
  have hz : (ofL (numL n 8) ++ s).size = 8 + s.size := by rw [ByteArray.size_append, ofL_size, numL_length]
  have K1 : Hid _ := fun (w : World) => sum4_any (ofL (numL n 8) ++ s) (by omega) w
  have K2 : Hid _ := fun (w : World) => number_any n 8 hn (by omega) w
  have HS : Hid (sealS n s = (shaS (ofL (numL n 8) ++ s)).extract 0 4) := rfl
  have h32 : (shaS (ofL (numL n 8) ++ s)).size = 32 := shaS_size' _
  have z8 : (ofL (numL n 8)).size = 8 := by rw [ofL_size, numL_length]
  clear hz
  generalize ofL (numL n 8) = q at *
  go_enter Tryd.func27, Tryd.ntmps27
  go_wp2_with fail
  refine Calls.mono (K2.out _) ?_
  rintro e w1 ⟨rfl, hb1⟩
  have HB1 : Hid (Below w.heap.size w w1) := hb1
  clear hb1
  go_wp2_with fail
  refine Calls.mono (K1.out _) ?_
  rintro e w2 ⟨rfl, hb2⟩
  have HB2 : Hid (Below w.heap.size w w2) := below_call0 HB1.out hb2
  clear hb2
  generalize shaS (q ++ s) = y at *
  go_wp2_with fail
  go_ret
  exact ⟨by rw [HS.out]; rfl, HB2.out⟩
set_option maxRecDepth 20000 in
set_option maxHeartbeats 2000000 in
theorem written_any (n : Nat) (s : ByteArray) (hn : n < 9223372036854775808) (hs : s.size ≤ 1099511627776) (w : World) :
    Calls Tryd.prog 19 #[.int .i64 (n : Nat), .string s] w fun e w' => e = .returned (.string (recS n s)) ∧ Below w.heap.size w w' := by
  have K1 : Hid _ := fun (w : World) => seal11_any n s hn hs w
  have K2 : Hid _ := fun (w : World) => number_any s.size 2 (by omega) (by omega) w
  have HS : Hid (recS n s = ofL (numL s.size 2) ++ s ++ sealS n s) := rfl
  have z4 : (sealS n s).size = 4 := sealS_size _ _
  have z2 : (ofL (numL s.size 2)).size = 2 := by rw [ofL_size, numL_length]
  generalize ofL (numL s.size 2) = q at *
  generalize sealS n s = y at *
  go_enter Tryd.func19, Tryd.ntmps19
  go_wp2_with fail
  refine Calls.mono (K2.out _) ?_
  rintro e w1 ⟨rfl, hb1⟩
  have HB1 : Hid (Below w.heap.size w w1) := hb1
  clear hb1
  go_wp2_with fail
  refine Calls.mono (K1.out _) ?_
  rintro e w2 ⟨rfl, hb2⟩
  have HB2 : Hid (Below w.heap.size w w2) := below_call0 HB1.out hb2
  clear hb2
  go_wp2_with fail
  go_ret
  exact ⟨by rw [HS.out]; rfl, HB2.out⟩
end Go.Proofs.YtdnahobafhelhaaDoor
