/- The law DigestLengths: texts of bytes 0. -/
import Derived.Test.YteafepakhmmhkaaDoorDSumW
namespace Go.Proofs.YteafepakhmmhkaaDoor
open Go.RowKit

def zeroS (n : Nat) : ByteArray := ⟨(List.replicate n (0 : UInt8)).toArray⟩
theorem zeroS_size (n : Nat) : (zeroS n).size = n := by simp [zeroS, ByteArray.size]
theorem shaS_size (s : ByteArray) : (shaS s).size = 32 := by unfold shaS sumS; rw [strOf_size, hfL_length]
theorem text_zeros (w : World) (g n cap : Nat) (h : RowK .u8 w g n (fun _ => 0)) : (convert 33 9 (.slice (some ⟨g, 0, none⟩) n cap)).run Tryd.prog w = .ok (.string (zeroS n)) w := by
  have e1 : (List.replicate n (0 : UInt8)).length = n := List.length_replicate
  have g2 := run_convert_bytes_back (P := Tryd.prog) w 33 9 5 ⟨g, 0, none⟩ cap (List.replicate n (0 : UInt8)) Tryd.underlying33 Tryd.underlying5 Tryd.underlying9 (fun j hj => by
    have hj' := hj
    rw [e1] at hj'
    have e2 : (Addr.add ⟨g, 0, none⟩ j) = ⟨g, j, none⟩ := by
      simp only [Addr.add]
      split
      · rename_i h0; have : j = 0 := by simpa using h0
        subst this; rfl
      · simp
    rw [e2, h.1 j hj', List.getElem_replicate]
    rfl)
  rw [e1] at g2
  exact g2
set_option maxRecDepth 100000 in
set_option maxHeartbeats 2000000 in
theorem digestLengths_in (a b : Nat) (ha : a ≤ 300) (hb : b ≤ 300) (w : World) (hG : GlobD w) (hz : 1 < w.heap.size) : Calls Tryd.prog 5 #[.int .i64 (a : Nat), .int .i64 (b : Nat)] w fun e w' => e = .returned (.bool true) ∧ Below w.heap.size w w' := by
  have HG : Hid (GlobD w ∧ 1 < w.heap.size) := ⟨hG, hz⟩
  have n1 : ¬ ((a : Int) < 0) := by omega
  have n2 : ¬ ((b : Int) < 0) := by omega
  have n3 : ¬ ((300 : Int) < (a : Int)) := by omega
  have n4 : ¬ ((300 : Int) < (b : Int)) := by omega
  have K1 : Hid _ := fun (w : World) (h : GlobD w) (hz : 1 < w.heap.size) => sum_any (zeroS a) (by rw [zeroS_size]; omega) w h hz
  have K2 : Hid _ := fun (w : World) (h : GlobD w) (hz : 1 < w.heap.size) => sum_any (zeroS b) (by rw [zeroS_size]; omega) w h hz
  have K3 : Hid _ := fun (w : World) => sum4_any (zeroS a) (by rw [zeroS_size]; omega) w
  have m1 := fun w => make_u8 a (by omega) w
  have m2 := fun w => make_u8 b (by omega) w
  have v1 := fun w : World => text_zeros (w.alloc (.cells (madeCells #[.int .u8 0] a) 5)) w.heap.size a a (RowK.made .u8 w a _)
  have v2 := fun w : World => text_zeros (w.alloc (.cells (madeCells #[.int .u8 0] b) 5)) w.heap.size b b (RowK.made .u8 w b _)
  obtain ⟨A, hA⟩ : ∃ R, R = shaS (zeroS a) := ⟨_, rfl⟩
  obtain ⟨B, hB⟩ : ∃ R, R = shaS (zeroS b) := ⟨_, rfl⟩
  rw [← hA] at K1 K3
  rw [← hB] at K2
  have sA : A.size = 32 := by rw [hA]; exact shaS_size _
  have sB : B.size = 32 := by rw [hB]; exact shaS_size _
  have tb : (A.toList == A.toList) = true := by simp only [BEq.rfl]
  have HAB : Hid (a = b → A = B) := fun e => by rw [hA, hB, e]
  clear hG hz hA hB ha hb
  go_enter Tryd.func5, Tryd.ntmps5
  go_wp2_with fail
  refine (K1.out _ (HG.out.1.call (below_alloc0' (Below.refl _ _) _)) (Nat.lt_of_lt_of_le HG.out.2 (below_alloc0' (Below.refl w.heap.size w) _).size)).mono ?_
  rintro e w1 ⟨rfl, hb1⟩
  have H1 : Hid (Below w.heap.size w w1) := below_call0' (below_alloc0' (Below.refl _ _) _) hb1
  clear hb1
  go_wp2_with fail
  refine (K2.out _ (HG.out.1.call (below_alloc0' H1.out _)) (Nat.lt_of_lt_of_le HG.out.2 (below_alloc0' H1.out _).size)).mono ?_
  rintro e w2 ⟨rfl, hb2⟩
  have H2 : Hid (Below w.heap.size w w2) := below_call0' (below_alloc0' H1.out _) hb2
  clear hb2 H1
  go_wp2_with fail
  refine (K3.out _).mono ?_
  rintro e w3 ⟨rfl, hb3⟩
  have H3 : Hid (Below w.heap.size w w3) := below_call0' (below_alloc0' H2.out _) hb3
  clear hb3 H2
  by_cases hab : a = b
  · have hAB := HAB.out hab
    subst hab
    subst hAB
    go_wp2_with fail
    refine (abc_any _ (HG.out.1.call H3.out) (Nat.lt_of_lt_of_le HG.out.2 H3.out.size)).mono ?_
    rintro e w4 ⟨rfl, hb4⟩
    have H4 : Hid (Below w.heap.size w w4) := below_call0' H3.out hb4
    clear hb4 H3
    go_wp2_with fail
    go_ret
    exact ⟨rfl, H4.out⟩
  · have hab' : ¬ ((a : Int) = (b : Int)) := by omega
    have hab2 : ((a : Int) == (b : Int)) = false := beq_eq_false_iff_ne.2 hab'
    go_wp2_with fail
    refine (abc_any _ (HG.out.1.call H3.out) (Nat.lt_of_lt_of_le HG.out.2 H3.out.size)).mono ?_
    rintro e w4 ⟨rfl, hb4⟩
    have H4 : Hid (Below w.heap.size w w4) := below_call0' H3.out hb4
    clear hb4 H3
    go_wp2_with fail
    go_ret
    exact ⟨rfl, H4.out⟩
set_option maxRecDepth 100000 in
set_option maxHeartbeats 2000000 in
theorem digestLengths_any (x y : Int) (w : World) (hG : GlobD w) (hz : 1 < w.heap.size) : Calls Tryd.prog 5 #[.int .i64 x, .int .i64 y] w fun e w' => e = .returned (.bool true) ∧ Below w.heap.size w w' := by
  by_cases c1 : x < 0
  · go_enter Tryd.func5, Tryd.ntmps5
    go_wp2_with fail
    refine (abc_any _ hG hz).mono ?_
    rintro e w4 ⟨rfl, hb4⟩
    go_wp2_with fail
    go_ret
    exact ⟨rfl, hb4⟩
  by_cases c2 : y < 0
  · go_enter Tryd.func5, Tryd.ntmps5
    go_wp2_with fail
    refine (abc_any _ hG hz).mono ?_
    rintro e w4 ⟨rfl, hb4⟩
    go_wp2_with fail
    go_ret
    exact ⟨rfl, hb4⟩
  by_cases c3 : 300 < x
  · go_enter Tryd.func5, Tryd.ntmps5
    go_wp2_with fail
    refine (abc_any _ hG hz).mono ?_
    rintro e w4 ⟨rfl, hb4⟩
    go_wp2_with fail
    go_ret
    exact ⟨rfl, hb4⟩
  by_cases c4 : 300 < y
  · go_enter Tryd.func5, Tryd.ntmps5
    go_wp2_with fail
    refine (abc_any _ hG hz).mono ?_
    rintro e w4 ⟨rfl, hb4⟩
    go_wp2_with fail
    go_ret
    exact ⟨rfl, hb4⟩
  obtain ⟨a, rfl⟩ : ∃ a : Nat, x = (a : Nat) := ⟨x.toNat, by omega⟩
  obtain ⟨b, rfl⟩ : ∃ b : Nat, y = (b : Nat) := ⟨y.toNat, by omega⟩
  exact digestLengths_in a b (by omega) (by omega) w hG hz
end Go.Proofs.YteafepakhmmhkaaDoor
