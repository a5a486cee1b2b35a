/- Package audit's reference: Leak. -/
import Derived.Test.YtbpgiijdcagckaaDoorAuD
import Derived.Test.YtbpgiijdcagckaaDoorRef2M
import Derived.Test.YtbpgiijdcagckaaDoorRef2F
namespace Go.Proofs.YtbpgiijdcagckaaDoor
open Go Go.RowKit Go.Lib
def fvV : List Value := [.int .u64 (limb QQ 0 : Nat), .int .u64 (limb QQ 1 : Nat), .int .u64 (limb QQ 2 : Nat), .int .u64 (limb QQ 3 : Nat), .int .u64 (limb (R256 - QQ) 0 : Nat), .int .u64 (limb (R256 - QQ) 1 : Nat), .int .u64 (limb (R256 - QQ) 2 : Nat), .int .u64 (limb (R256 - QQ) 3 : Nat)]
set_option maxRecDepth 100000 in
set_option maxHeartbeats 400000 in
theorem scal_any (t : Td) (hR : t.R) (w : World) : Calls Tryd.prog 17 #[.agg (tdV t).toArray] w fun e w' => e = .returned (.bool t.ok) ∧ Below w.heap.size w w' := by
  obtain ⟨o0, ho0⟩ : ∃ o, o = decide (t.f < QQ) := ⟨_, rfl⟩
  obtain ⟨o1, ho1⟩ : ∃ o, o = decide (t.w < QQ) := ⟨_, rfl⟩
  obtain ⟨o2, ho2⟩ : ∃ o, o = decide (t.c < QQ) := ⟨_, rfl⟩
  obtain ⟨o3, ho3⟩ : ∃ o, o = decide (t.z < QQ) := ⟨_, rfl⟩
  have KS : Hid (∀ w, Calls Tryd.prog 18 #[] w fun e w' => e = .returned (.agg fvV.toArray) ∧ Below w.heap.size w w') := fun w => scalars2_any w
  have K0 : Hid (∀ w, Calls Tryd.prog 27 #[.agg fvV.toArray, .agg (nuV t.f).toArray] w fun e w' => e = .returned (.bool o0) ∧ Below w.heap.size w w') := fun w => by
    rw [ho0]
    exact has2_any QQ t.f FM_Q.2.1 hR.1 w
  have K1 : Hid (∀ w, Calls Tryd.prog 27 #[.agg fvV.toArray, .agg (nuV t.w).toArray] w fun e w' => e = .returned (.bool o1) ∧ Below w.heap.size w w') := fun w => by
    rw [ho1]
    exact has2_any QQ t.w FM_Q.2.1 hR.2.1 w
  have K2 : Hid (∀ w, Calls Tryd.prog 27 #[.agg fvV.toArray, .agg (nuV t.c).toArray] w fun e w' => e = .returned (.bool o2) ∧ Below w.heap.size w w') := fun w => by
    rw [ho2]
    exact has2_any QQ t.c FM_Q.2.1 hR.2.2.1 w
  have K3 : Hid (∀ w, Calls Tryd.prog 27 #[.agg fvV.toArray, .agg (nuV t.z).toArray] w fun e w' => e = .returned (.bool o3) ∧ Below w.heap.size w w') := fun w => by
    rw [ho3]
    exact has2_any QQ t.z FM_Q.2.1 hR.2.2.2 w
  have HE : Hid (t.ok = (o0 && o1 && o2 && o3)) := by
    rw [ho0, ho1, ho2, ho3]
    exact rfl
  clear hR ho0 ho1 ho2 ho3
  obtain ⟨N, hN⟩ : ∃ N, N = w.heap.size := ⟨_, rfl⟩
  obtain ⟨W0, hW0⟩ : ∃ W, W = w.alloc (.cells (tdV t).toArray 51) := ⟨_, rfl⟩
  have H0 : Hid (Below w.heap.size w W0 ∧ Bk w.heap.size W0 N (tdV t) 51) := by
    have hb : Below w.heap.size w W0 := by
      rw [hW0]
      exact below_alloc0 (Below.refl _ _) _
    have e0 := Bk.mk0 (w) (tdV t) 51
    have a0 : Below (w).heap.size (w) (w.alloc (.cells (tdV t).toArray 51)) := below_alloc0 (Below.refl _ _) _
    refine ⟨hb, ⟨?_, ?_⟩⟩
    · exact Nat.le_of_eq hN.symm
    · rw [hW0, hN]
      exact e0.2
  have HW : Hid (W0 = w.alloc (.cells (tdV t).toArray 51) ∧ N = w.heap.size) := ⟨hW0, hN⟩
  clear hW0 hN 
  go_enter Tryd.func17, Tryd.ntmps17
  go_upto_region 1 with fail
  rw [← HW.out.1, ← HW.out.2]
  clear HW
  go_wp2_with fail
  refine (KS.out _).mono ?_
  rintro e w1 ⟨rfl, hb1⟩
  have H1 : Hid (Below w.heap.size w w1 ∧ Bk w.heap.size w1 N (tdV t) 51) := ⟨below_call0 H0.out.1 hb1, H0.out.2.call hb1⟩
  clear hb1 H0
  obtain ⟨W2, A2, hA, hS, hb, hB⟩ := Bk.fresh H1.out.1 (Nat.le_refl _) #[.int .u64 0, .int .u64 0, .int .u64 0, .int .u64 0, .int .u64 0, .int .u64 0, .int .u64 0, .int .u64 0] (fvV) 69 (by kernel_rfl) rfl (by kernel_rfl)
  have HA : Hid (A2 = w1.heap.size) := hA
  have HS : Hid _ := hS
  have HB : Hid (Below w1.heap.size w1 W2 ∧ Bk w.heap.size W2 A2 (fvV) 69) := ⟨hb, hB⟩
  clear hA hS hb hB
  go_upto_region 2 with (first | ((rw [← HA.out]); ((with_reducible refine store_tk (b := A2) (k := 0) (x := 3) (y := 4) ?_ ?_ ?_ ?_ HS.out ?_); rfl; rfl; rfl; rfl)) | ((with_reducible refine store_tk (b := A2) (k := 0) (x := 3) (y := 4) ?_ ?_ ?_ ?_ HS.out ?_); rfl; rfl; rfl; rfl))
  have H2 : Hid (Below w.heap.size w W2 ∧ Bk w.heap.size W2 N (tdV t) 51 ∧ Bk w.heap.size W2 A2 (fvV) 69) := ⟨below_call0 H1.out.1 HB.out.1, H1.out.2.call HB.out.1, HB.out.2⟩
  clear HA HS HB H1
  have L1 : Hid ((loadVar 69 ⟨A2, 0, none⟩).run Tryd.prog W2 = .ok (.agg (fvV).toArray) W2) := H2.out.2.2.load 0 (fvV) (by rfl) Tryd.underlying69 rfl (by kernel_rfl)
  have L2 : Hid ((loadVar 27 ⟨N, 19, none⟩).run Tryd.prog W2 = .ok (.agg (nuV t.f).toArray) W2) := H2.out.2.1.load 19 (nuV t.f) (by rfl) Tryd.underlying27 rfl (by kernel_rfl)
  go_wp2_with (first | ((with_reducible refine load_tk (b := A2) (k := 0) (x := 3) ?_ ?_ ?_ L1.out ?_); rfl; rfl; rfl) | ((with_reducible refine load_tk (b := N) (k := 19) (x := 6) ?_ ?_ ?_ L2.out ?_); rfl; rfl; rfl))
  refine (K0.out _).mono ?_
  rintro e w3 ⟨rfl, hb3⟩
  have H3 : Hid (Below w.heap.size w w3 ∧ Bk w.heap.size w3 N (tdV t) 51 ∧ Bk w.heap.size w3 A2 (fvV) 69) := ⟨below_call0 H2.out.1 hb3, H2.out.2.1.call hb3, H2.out.2.2.call hb3⟩
  clear hb3 L1 L2 H2
  cases o0
  · go_wp2_with fail
    go_ret
    exact ⟨by rw [HE.out]; simp, H3.out.1⟩
  · have L3 : Hid ((loadVar 69 ⟨A2, 0, none⟩).run Tryd.prog w3 = .ok (.agg (fvV).toArray) w3) := H3.out.2.2.load 0 (fvV) (by rfl) Tryd.underlying69 rfl (by kernel_rfl)
    have L4 : Hid ((loadVar 27 ⟨N, 23, none⟩).run Tryd.prog w3 = .ok (.agg (nuV t.w).toArray) w3) := H3.out.2.1.load 23 (nuV t.w) (by rfl) Tryd.underlying27 rfl (by kernel_rfl)
    go_wp2_with (first | ((with_reducible refine load_tk (b := A2) (k := 0) (x := 3) ?_ ?_ ?_ L3.out ?_); rfl; rfl; rfl) | ((with_reducible refine load_tk (b := N) (k := 23) (x := 11) ?_ ?_ ?_ L4.out ?_); rfl; rfl; rfl))
    refine (K1.out _).mono ?_
    rintro e w4 ⟨rfl, hb4⟩
    have H4 : Hid (Below w.heap.size w w4 ∧ Bk w.heap.size w4 N (tdV t) 51 ∧ Bk w.heap.size w4 A2 (fvV) 69) := ⟨below_call0 H3.out.1 hb4, H3.out.2.1.call hb4, H3.out.2.2.call hb4⟩
    clear hb4 L3 L4 H3
    cases o1
    · go_wp2_with fail
      go_ret
      exact ⟨by rw [HE.out]; simp, H4.out.1⟩
    · have L5 : Hid ((loadVar 69 ⟨A2, 0, none⟩).run Tryd.prog w4 = .ok (.agg (fvV).toArray) w4) := H4.out.2.2.load 0 (fvV) (by rfl) Tryd.underlying69 rfl (by kernel_rfl)
      have L6 : Hid ((loadVar 27 ⟨N, 27, none⟩).run Tryd.prog w4 = .ok (.agg (nuV t.c).toArray) w4) := H4.out.2.1.load 27 (nuV t.c) (by rfl) Tryd.underlying27 rfl (by kernel_rfl)
      go_wp2_with (first | ((with_reducible refine load_tk (b := A2) (k := 0) (x := 3) ?_ ?_ ?_ L5.out ?_); rfl; rfl; rfl) | ((with_reducible refine load_tk (b := N) (k := 27) (x := 17) ?_ ?_ ?_ L6.out ?_); rfl; rfl; rfl))
      refine (K2.out _).mono ?_
      rintro e w5 ⟨rfl, hb5⟩
      have H5 : Hid (Below w.heap.size w w5 ∧ Bk w.heap.size w5 N (tdV t) 51 ∧ Bk w.heap.size w5 A2 (fvV) 69) := ⟨below_call0 H4.out.1 hb5, H4.out.2.1.call hb5, H4.out.2.2.call hb5⟩
      clear hb5 L5 L6 H4
      cases o2
      · go_wp2_with fail
        go_ret
        exact ⟨by rw [HE.out]; simp, H5.out.1⟩
      · have L7 : Hid ((loadVar 69 ⟨A2, 0, none⟩).run Tryd.prog w5 = .ok (.agg (fvV).toArray) w5) := H5.out.2.2.load 0 (fvV) (by rfl) Tryd.underlying69 rfl (by kernel_rfl)
        have L8 : Hid ((loadVar 27 ⟨N, 31, none⟩).run Tryd.prog w5 = .ok (.agg (nuV t.z).toArray) w5) := H5.out.2.1.load 31 (nuV t.z) (by rfl) Tryd.underlying27 rfl (by kernel_rfl)
        go_wp2_with (first | ((with_reducible refine load_tk (b := A2) (k := 0) (x := 3) ?_ ?_ ?_ L7.out ?_); rfl; rfl; rfl) | ((with_reducible refine load_tk (b := N) (k := 31) (x := 23) ?_ ?_ ?_ L8.out ?_); rfl; rfl; rfl))
        refine (K3.out _).mono ?_
        rintro e w6 ⟨rfl, hb6⟩
        have H6 : Hid (Below w.heap.size w w6 ∧ Bk w.heap.size w6 N (tdV t) 51 ∧ Bk w.heap.size w6 A2 (fvV) 69) := ⟨below_call0 H5.out.1 hb6, H5.out.2.1.call hb6, H5.out.2.2.call hb6⟩
        clear hb6 L7 L8 H5
        go_wp2_with fail
        go_ret
        exact ⟨by rw [HE.out]; simp, H6.out.1⟩
end Go.Proofs.YtbpgiijdcagckaaDoor
