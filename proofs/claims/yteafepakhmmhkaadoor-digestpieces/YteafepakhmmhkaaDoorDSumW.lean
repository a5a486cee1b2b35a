/- The law DigestSums: the code's sum is the reference's. -/
import Derived.Test.YteafepakhmmhkaaDoorDNilW
import Derived.Test.YteafepakhmmhkaaDoorRef4Y
namespace Go.Proofs.YteafepakhmmhkaaDoor
open Go.RowKit

set_option maxRecDepth 100000 in
set_option maxHeartbeats 1000000 in
theorem digestSums_any (s : ByteArray) (hs : s.size < 140737488351233) (w : World) (hG : GlobD w) (hz : 1 < w.heap.size) : Calls Tryd.prog 3 #[.string s] w fun e w' => e = .returned (.bool true) ∧ Below w.heap.size w w' := by
  have HG : Hid (GlobD w ∧ 1 < w.heap.size) := ⟨hG, hz⟩
  have K1 : Hid _ := fun (w : World) (h : GlobD w) (hz : 1 < w.heap.size) => sum_any s (Nat.lt_trans hs (by decide)) w h hz
  have K2 : Hid _ := fun (w : World) => sum4_any s hs w
  obtain ⟨R, hR⟩ : ∃ R, R = shaS s := ⟨_, rfl⟩
  rw [← hR] at K1 K2
  have tb : (R.toList == R.toList) = true := by simp only [BEq.rfl]
  clear hG hz hR hs
  go_enter Tryd.func3, Tryd.ntmps3
  go_wp2_with fail
  refine (K1.out _ HG.out.1 HG.out.2).mono ?_
  rintro e w1 ⟨rfl, hb1⟩
  have H1 : Hid (Below w.heap.size w w1) := hb1
  clear hb1
  go_wp2_with fail
  refine (K2.out _).mono ?_
  rintro e w2 ⟨rfl, hb2⟩
  have H2 : Hid (Below w.heap.size w w2) := below_call0' H1.out hb2
  clear hb2 H1
  go_wp2_with fail
  refine (abc_any _ (HG.out.1.call H2.out) (Nat.lt_of_lt_of_le HG.out.2 H2.out.size)).mono ?_
  rintro e w3 ⟨rfl, hb3⟩
  have H3 : Hid (Below w.heap.size w w3) := below_call0' H2.out hb3
  clear hb3 H2
  go_wp2_with fail
  go_ret
  exact ⟨rfl, H3.out⟩
end Go.Proofs.YteafepakhmmhkaaDoor
