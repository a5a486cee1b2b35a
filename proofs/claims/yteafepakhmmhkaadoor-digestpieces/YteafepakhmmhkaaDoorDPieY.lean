/- The law DigestPieces: no list, and a list that is too long. -/
import Derived.Test.YteafepakhmmhkaaDoorDPieX
namespace Go.Proofs.YteafepakhmmhkaaDoor
open Go.RowKit
set_option maxRecDepth 100000 in
set_option maxHeartbeats 2000000 in
theorem digestPieces_nil (w : World) (hG : GlobD w) (hz : 1 < w.heap.size) : Calls Tryd.prog 4 #[.slice none 0 0] w fun e w' => e = .returned (.bool true) ∧ Below w.heap.size w w' := by
  have HG : Hid (GlobD w ∧ 1 < w.heap.size) := ⟨hG, hz⟩
  have K1 : Hid _ := fun (w : World) (h : GlobD w) => new_any w h (padT ByteArray.empty)
  clear hG hz
  go_enter Tryd.func4, Tryd.ntmps4
  go_wp2_with fail
  refine (K1.out _ HG.out.1).mono ?_
  rintro e w1 ⟨rfl, hH1, hB1⟩
  have H1 : Hid (HashT w1 w.heap.size (padT ByteArray.empty) ByteArray.empty.size ∧ Cube w1 ∧ Below w.heap.size w w1) := ⟨hH1, HG.out.1.2.2.call hB1, hB1⟩
  clear hH1 hB1 K1
  go_wp2_with fail
  rename_i Kr hKr
  have HKr : Hid _ := hKr
  clear hKr
  go_loopw [4, 22] (fun av iv wr => ∃ (k : Nat) (a : ByteArray), k ≤ 0 ∧ av = .string a ∧ iv = .int .i64 (k : Nat) ∧ a.size ≤ 20000 ∧ HashT wr w.heap.size (padT a) a.size ∧ Cube wr ∧ Below w.heap.size w wr)
    (fun _ iv _ => 0 - (intOf iv).toNat)
  case atStart => exact ⟨0, ByteArray.empty, Nat.zero_le _, rfl, rfl, by decide, H1.out.1, H1.out.2.1, H1.out.2.2⟩
  case round =>
    obtain ⟨k, a, hk, rfl, rfl, hsz, hH, hC, hB⟩ := hrel
    rename World => wr
    clear H1
    have H2 : Hid (HashT wr w.heap.size (padT a) a.size ∧ Cube wr ∧ Below w.heap.size w wr ∧ a.size ≤ 20000) := ⟨hH, hC, hB, hsz⟩
    clear hH hC hB hsz
    by_cases hlt : k < 0
    · exact absurd hlt (Nat.not_lt_zero _)
    · obtain rfl : k = 0 := Nat.le_antisymm hk (Nat.le_of_not_lt hlt)
      have K2 : Hid _ := fun (w' : World) (h : HashT w' w.heap.size (padT a) a.size) (hC : Cube w') (hz : 1 < w'.heap.size) => hsum_any w.heap.size a (Nat.lt_of_le_of_lt H2.out.2.2.2 (by decide)) w' h hC hz
      have K3 : Hid _ := fun (w' : World) (hG : GlobD w') (hz : 1 < w'.heap.size) => sum_any a (Nat.lt_of_le_of_lt H2.out.2.2.2 (by decide)) w' hG hz
      obtain ⟨R, hR⟩ : ∃ R, R = shaS a := ⟨_, rfl⟩
      rw [← hR] at K2 K3
      have tb : (R.toList == R.toList) = true := by simp only [BEq.rfl]
      clear hR hlt hk
      go_wp2_with fail
      refine HKr.out _ _ ?_
      clear HKr
      go_wp2_with fail
      refine (K2.out _ H2.out.1 H2.out.2.1 (Nat.lt_of_lt_of_le HG.out.2 H2.out.2.2.1.size)).mono ?_
      rintro e w3 ⟨rfl, hb3⟩
      have H3 : Hid (Below w.heap.size w w3) := below_call0' H2.out.2.2.1 hb3
      clear hb3 H2 K2
      go_wp2_with fail
      refine (K3.out _ (HG.out.1.call H3.out) (Nat.lt_of_lt_of_le HG.out.2 H3.out.size)).mono ?_
      rintro e w4 ⟨rfl, hb4⟩
      have H4 : Hid (Below w.heap.size w w4) := below_call0' H3.out hb4
      clear hb4 H3 K3
      go_wp2_with fail
      refine (abc_any _ (HG.out.1.call H4.out) (Nat.lt_of_lt_of_le HG.out.2 H4.out.size)).mono ?_
      rintro e w5 ⟨rfl, hb5⟩
      have H5 : Hid (Below w.heap.size w w5) := below_call0' H4.out hb5
      clear hb5 H4
      go_wp2_with fail
      go_ret
      exact ⟨rfl, H5.out⟩
set_option maxRecDepth 100000 in
set_option maxHeartbeats 2000000 in
theorem digestPieces_long (p o n cap : Nat) (hn : 100 < n) (w : World) (hG : GlobD w) (hz : 1 < w.heap.size) : Calls Tryd.prog 4 #[.slice (some ⟨p, o, none⟩) n cap] w fun e w' => e = .returned (.bool true) ∧ Below w.heap.size w w' := by
  have HG : Hid (GlobD w ∧ 1 < w.heap.size) := ⟨hG, hz⟩
  have K1 : Hid _ := fun (w : World) (h : GlobD w) => new_any w h (padT ByteArray.empty)
  have n1 : (100 : Int) < (n : Int) := by omega
  clear hG hz
  go_enter Tryd.func4, Tryd.ntmps4
  go_wp2_with fail
  refine (K1.out _ HG.out.1).mono ?_
  rintro e w1 ⟨rfl, hH1, hB1⟩
  have H1 : Hid (Below w.heap.size w w1) := hB1
  clear hH1 hB1 K1
  go_wp2_with fail
  refine (abc_any _ (HG.out.1.call H1.out) (Nat.lt_of_lt_of_le HG.out.2 H1.out.size)).mono ?_
  rintro e w5 ⟨rfl, hb5⟩
  have H5 : Hid (Below w.heap.size w w5) := below_call0' H1.out hb5
  clear hb5 H1
  go_wp2_with fail
  go_ret
  exact ⟨rfl, H5.out⟩
end Go.Proofs.YteafepakhmmhkaaDoor
