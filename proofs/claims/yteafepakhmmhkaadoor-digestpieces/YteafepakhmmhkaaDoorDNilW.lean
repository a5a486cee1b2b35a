/- What every statement of layer 4 asks besides: the sum of three letters; and what a nil hash answers. -/
import Derived.Test.YteafepakhmmhkaaDoorShaF
namespace Go.Proofs.YteafepakhmmhkaaDoor
open Go.RowKit

def abcS : ByteArray := ⟨#[97, 98, 99]⟩
def abcR : ByteArray := ⟨#[186, 120, 22, 191, 143, 1, 207, 234, 65, 65, 64, 222, 93, 174, 34, 35, 176, 3, 97, 163, 150, 23, 122, 156, 180, 16, 255, 97, 242, 0, 21, 173]⟩
set_option maxRecDepth 100000 in
theorem abc_sum : shaS abcS = abcR := by kernel_rfl
set_option maxRecDepth 100000 in
set_option maxHeartbeats 1000000 in
theorem abc_any (w : World) (hG : GlobD w) (hz : 1 < w.heap.size) : Calls Tryd.prog 9 #[] w fun e w' => e = .returned (.bool true) ∧ Below w.heap.size w w' := by
  have k : ∀ w, GlobD w → 1 < w.heap.size → Calls Tryd.prog 7 #[.string ⟨#[97, 98, 99]⟩] w fun e w' => e = .returned (.string ⟨#[186, 120, 22, 191, 143, 1, 207, 234, 65, 65, 64, 222, 93, 174, 34, 35, 176, 3, 97, 163, 150, 23, 122, 156, 180, 16, 255, 97, 242, 0, 21, 173]⟩) ∧ Below w.heap.size w w' := fun w hG hz => by
    have h := sum_any abcS (by decide) w hG hz
    rw [abc_sum] at h
    exact h
  have K : Hid _ := k
  have HG : Hid (GlobD w ∧ 1 < w.heap.size) := ⟨hG, hz⟩
  have tb : ((⟨#[186, 120, 22, 191, 143, 1, 207, 234, 65, 65, 64, 222, 93, 174, 34, 35, 176, 3, 97, 163, 150, 23, 122, 156, 180, 16, 255, 97, 242, 0, 21, 173]⟩ : ByteArray).toList == (⟨#[186, 120, 22, 191, 143, 1, 207, 234, 65, 65, 64, 222, 93, 174, 34, 35, 176, 3, 97, 163, 150, 23, 122, 156, 180, 16, 255, 97, 242, 0, 21, 173]⟩ : ByteArray).toList) = true := by simp only [BEq.rfl]
  clear k hG hz
  go_enter Tryd.func9, Tryd.ntmps9
  go_wp2_with fail
  refine (K.out _ HG.out.1 HG.out.2).mono ?_
  rintro e w1 ⟨rfl, hb1⟩
  have H1 : Hid (Below w.heap.size w w1) := hb1
  clear hb1 K HG
  go_wp2_with fail
  go_ret
  exact ⟨rfl, H1.out⟩
theorem hsum_nil (w : World) : Calls Tryd.prog 12 #[.pointer none] w fun e w' => e = .returned (.string ByteArray.empty) ∧ Below w.heap.size w w' := by
  go_enter Tryd.func12, Tryd.ntmps12
  go_wp2
  go_ret
  exact ⟨rfl, by first | exact Below.refl _ _ | exact below_alloc0' (Below.refl _ _) _⟩
theorem hlen_nil (w : World) : Calls Tryd.prog 13 #[.pointer none] w fun e w' => e = .returned (.int .i64 0) ∧ Below w.heap.size w w' := by
  go_enter Tryd.func13, Tryd.ntmps13
  go_wp2
  go_ret
  exact ⟨rfl, Below.refl _ _⟩
set_option maxHeartbeats 1000000 in
theorem digestNil_any (s : ByteArray) (w : World) (hG : GlobD w) (hz : 1 < w.heap.size) : Calls Tryd.prog 6 #[.string s] w fun e w' => e = .returned (.bool true) ∧ Below w.heap.size w w' := by
  have HG : Hid (GlobD w ∧ 1 < w.heap.size) := ⟨hG, hz⟩
  have tb : (ByteArray.empty.toList == ByteArray.empty.toList) = true := by simp
  clear hG hz
  go_enter Tryd.func6, Tryd.ntmps6
  go_wp2_with fail
  refine (write_nil s _).mono ?_
  rintro e w1 ⟨rfl, hb1⟩
  have H1 : Hid (Below w.heap.size w w1) := hb1
  clear hb1
  go_wp2_with fail
  refine (hsum_nil _).mono ?_
  rintro e w2 ⟨rfl, hb2⟩
  have H2 : Hid (Below w.heap.size w w2) := below_call0' H1.out hb2
  clear hb2 H1
  go_wp2_with fail
  refine (hlen_nil _).mono ?_
  rintro e w3 ⟨rfl, hb3⟩
  have H3 : Hid (Below w.heap.size w w3) := below_call0' H2.out hb3
  clear hb3 H2
  go_wp2_with fail
  refine (abc_any _ (HG.out.1.call H3.out) (Nat.lt_of_lt_of_le HG.out.2 H3.out.size)).mono ?_
  rintro e w4 ⟨rfl, hb4⟩
  have H4 : Hid (Below w.heap.size w w4) := below_call0' H3.out hb4
  clear hb4 H3
  go_wp2_with fail
  go_ret
  exact ⟨rfl, H4.out⟩
end Go.Proofs.YteafepakhmmhkaaDoor
