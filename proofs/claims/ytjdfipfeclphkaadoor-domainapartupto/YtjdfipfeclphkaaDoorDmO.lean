/- What every statement of layer 5 asks besides: the bytes of a tag and a part. -/
import Derived.Test.YtjdfipfeclphkaaDoorDmC
namespace Go.Proofs.YtjdfipfeclphkaaDoor
open Go Go.RowKit Go.Lib

theorem shaS_32 (s : ByteArray) : (shaS s).size = 32 := by unfold shaS sumS; rw [strOf_size, hfL_length]
theorem one_hash : hashB ⟨#[116]⟩ [⟨#[97]⟩] = ⟨#[1, 116, 0, 0, 0, 1, 97]⟩ := by kernel_rfl
theorem one_strs (w : World) (T : TypeId) : Strs (w.alloc (.cells #[.string ⟨#[97]⟩] T)) (some ⟨w.heap.size, 0, none⟩) [⟨#[97]⟩] := fun j s hj => by
  match j, hj with
  | 0, hj => simp at hj; subst hj; exact ⟨_, _, rfl, by simp [go_sem], by simp⟩
  | j + 1, hj => simp at hj
set_option maxRecDepth 100000 in
set_option maxHeartbeats 1000000 in
theorem one_any (w : World) (hG : GlobD w) (hz : 2 < w.heap.size) :
    Calls Tryd.prog 7 #[] w fun e w' => e = .returned (.bool true) ∧ Below w.heap.size w w' := by
  have K1 : Hid _ := fun (w : World) (hG : GlobD w) (hz : 2 < w.heap.size) => bytes5_in ⟨#[116]⟩ (some ⟨w.heap.size, 0, none⟩) [⟨#[97]⟩] 1 (by decide) (by rw [one_hash]; decide) (w.alloc (.cells #[.string ⟨#[97]⟩] 9)) (one_strs w _) (hG.call (below_alloc0' (Below.refl _ _) _)) (Nat.lt_of_lt_of_le hz (below_alloc0' (Below.refl w.heap.size w) _).size)
  have K2 : Hid _ := fun (w : World) (h : GlobD w) (hz : 2 < w.heap.size) => sum_any ⟨#[1, 116, 0, 0, 0, 1, 97]⟩ (by decide) w h hz
  rw [one_hash] at K1
  obtain ⟨R, hR⟩ : ∃ R, R = shaS ⟨#[1, 116, 0, 0, 0, 1, 97]⟩ := ⟨_, rfl⟩
  rw [← hR] at K1 K2
  have sR : R.size = 32 := by rw [hR]; exact shaS_32 _
  have tb : (R.toList == R.toList) = true := by simp only [BEq.rfl]
  have HG : Hid (GlobD w ∧ 2 < w.heap.size) := ⟨hG, hz⟩
  clear hG hz hR
  go_enter Tryd.func7, Tryd.ntmps7
  go_wp2_with fail
  refine (K1.out w HG.out.1 HG.out.2).mono ?_
  rintro e w1 ⟨rfl, hb1⟩
  have H1 : Hid (Below w.heap.size w w1) := below_call0' (below_alloc0' (Below.refl _ _) _) hb1
  clear hb1 K1
  go_wp2_with fail
  refine (K2.out _ (HG.out.1.call H1.out) (Nat.lt_of_lt_of_le HG.out.2 H1.out.size)).mono ?_
  rintro e w2 ⟨rfl, hb2⟩
  have H2 : Hid (Below w.heap.size w w2) := below_call0' H1.out hb2
  clear hb2 H1
  go_wp2_with fail
  go_ret
  exact ⟨rfl, H2.out⟩
end Go.Proofs.YtjdfipfeclphkaaDoor
