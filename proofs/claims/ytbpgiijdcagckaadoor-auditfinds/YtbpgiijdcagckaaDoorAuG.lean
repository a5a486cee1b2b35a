/- The statement AuditLeaks' walk. -/
import Derived.Test.YtbpgiijdcagckaaDoorAuF
namespace Go.Proofs.YtbpgiijdcagckaaDoor
open Go Go.RowKit Go.Lib
theorem inv_modK (d : Nat) (hd : d < QQ) (h0 : d ≠ 0) : d * (d ^ (QQ - 2) % QQ) % QQ = 1 := by
  have hn : ¬ QQ ∣ d := fun h => absurd (Nat.le_of_dvd (Nat.pos_of_ne_zero h0) h) (by omega)
  have f := fermat1 prime_Q d hn
  have e : QQ - 1 = (QQ - 2) + 1 := by
    have : 2 ≤ QQ := of_decide_eq_true (by kernel_rfl)
    omega
  rw [e, Nat.pow_succ] at f
  rw [Nat.mul_mod_mod, Nat.mul_comm]
  exact f
theorem tell_xK (x d : Nat) (hx : x < QQ) (hd : d < QQ) (h0 : d ≠ 0) : d * x % QQ * (d ^ (QQ - 2) % QQ) % QQ = x := by
  rw [Nat.mod_mul_mod, Nat.mul_comm d x, Nat.mul_assoc, Nat.mul_mod, inv_modK d hd h0, Nat.mul_one, Nat.mod_mod, Nat.mod_eq_of_lt hx]
def tA : Td := ⟨0, 0, 0, false, 0, 0, false, 0, 5, 1, 11⟩
def tB : Td := ⟨0, 0, 0, false, 0, 0, false, 0, 3, 1, 7⟩
theorem tA_R : tA.R := ⟨by decide, by decide, by decide, by decide⟩
theorem tB_R : tB.R := ⟨by decide, by decide, by decide, by decide⟩
theorem ltQ_smallK (k : Nat) (h : k < 100) : k < QQ := Nat.lt_trans h (of_decide_eq_true (by kernel_rfl))
theorem tm_A : tmN tA = 5 := by
  unfold tmN
  exact Nat.mod_eq_of_lt (ltQ_smallK 5 (by decide))
theorem tm_B : tmN tB = 3 := by
  unfold tmN
  exact Nat.mod_eq_of_lt (ltQ_smallK 3 (by decide))
theorem ok_A : tA.ok = true := by
  unfold Td.ok
  rw [decide_eq_true (show tA.f < QQ from ltQ_smallK 0 (by decide)), decide_eq_true (show tA.w < QQ from ltQ_smallK 5 (by decide)), decide_eq_true (show tA.c < QQ from ltQ_smallK 1 (by decide)), decide_eq_true (show tA.z < QQ from ltQ_smallK 11 (by decide))]
  rfl
theorem ok_B : tB.ok = true := by
  unfold Td.ok
  rw [decide_eq_true (show tB.f < QQ from ltQ_smallK 0 (by decide)), decide_eq_true (show tB.w < QQ from ltQ_smallK 3 (by decide)), decide_eq_true (show tB.c < QQ from ltQ_smallK 1 (by decide)), decide_eq_true (show tB.z < QQ from ltQ_smallK 7 (by decide))]
  rfl
theorem no_AB : eqNo tA tB = true := by kernel_rfl
theorem sub_small (a b : Nat) (h : b ≤ a) (ha : a < QQ) : subM QQ a b = a - b := by
  show (a + QQ - b) % QQ = a - b
  rw [show a + QQ - b = (a - b) + QQ by omega, Nat.add_mod_right]
  exact Nat.mod_eq_of_lt (by omega)
theorem tell_gen (x d m : Nat) (hx : x < QQ) (hd : d < QQ) (h0 : d ≠ 0) (hm : m = d * x % QQ) : m * (d ^ (QQ - 2) % QQ) % QQ = x := by
  rw [hm]
  exact tell_xK x d hx hd h0
theorem d_AB : subM QQ (tmN tA) (tmN tB) = 2 := by rw [tm_A, tm_B, sub_small 5 3 (by decide) (ltQ_smallK 5 (by decide))]
theorem m_AB (d : Nat) (hd : d = 2) : subM QQ tA.z tB.z = d * 2 % QQ := by
  rw [hd, show subM QQ tA.z tB.z = 4 from sub_small 11 7 (by decide) (ltQ_smallK 11 (by decide))]
  exact (Nat.mod_eq_of_lt (ltQ_smallK 4 (by decide))).symm
theorem lk_AB : lkE tA tB = 0 ∧ lkN tA tB = 2 := by
  have h := lk_0 ok_A ok_B no_AB (by rw [tm_A, tm_B]; decide)
  exact ⟨h.1, h.2.trans (tell_gen 2 _ _ (ltQ_smallK 2 (by decide)) (subM_ltK _ _ _ QQ_posK) (by rw [d_AB]; decide) (m_AB _ d_AB))⟩
theorem lk_AA : lkE tA tA = 1 ∧ lkN tA tA = 0 := lk_1 ok_A ok_A (by rw [decide_eq_true rfl, Bool.or_true])
set_option maxRecDepth 100000 in
set_option maxHeartbeats 400000 in
theorem two_ok (w : World) (hG : GlobQ w) : Calls Tryd.prog 5 #[] w fun e w' => e = .returned (.bool true) ∧ Below w.heap.size w w' := by
  have K1 : Hid (∀ w, GlobQ w → Calls Tryd.prog 14 #[.agg (tdV tA).toArray, .agg (tdV tB).toArray] w fun e w' => e = .returned (.tuple #[.agg (nuV 2).toArray, .int .i64 0]) ∧ Below w.heap.size w w') := fun w h => leak_any tA tB 2 0 tA_R tB_R lk_AB.1.symm lk_AB.2.symm w h
  have K2 : Hid (∀ w, GlobQ w → Calls Tryd.prog 14 #[.agg (tdV tA).toArray, .agg (tdV tA).toArray] w fun e w' => e = .returned (.tuple #[.agg (nuV 0).toArray, .int .i64 1]) ∧ Below w.heap.size w w') := fun w h => leak_any tA tA 0 1 tA_R tA_R lk_AA.1.symm lk_AA.2.symm w h
  have H0 : Hid (Below w.heap.size w w ∧ GlobQ w) := ⟨Below.refl _ _, hG⟩
  clear hG
  go_enter Tryd.func5, Tryd.ntmps5
  go_upto_region 1 with fail
  have Q1 : Hid (∀ w, (Instr.build 27 #[(0, .int .u64 5)]).run Tryd.prog w = .ok (.agg (nuV 5).toArray) w) := fun _ => by kernel_rfl
  have Q2 : Hid (∀ w, (Instr.build 27 #[(0, .int .u64 1)]).run Tryd.prog w = .ok (.agg (nuV 1).toArray) w) := fun _ => by kernel_rfl
  have Q3 : Hid (∀ w, (Instr.build 27 #[(0, .int .u64 11)]).run Tryd.prog w = .ok (.agg (nuV 11).toArray) w) := fun _ => by kernel_rfl
  have Q4 : Hid (∀ w, (Instr.build 54 #[(2, .agg (nuV 5).toArray), (3, .agg (nuV 1).toArray), (4, .agg (nuV 11).toArray)]).run Tryd.prog w = .ok (.agg (tdV tA).toArray) w) := fun _ => by kernel_rfl
  obtain ⟨W1, A1, hA, hS, hb, hB⟩ := Bk.fresh H0.out.1 (Nat.le_refl _) #[.int .i64 0, .int .u64 0, .int .u64 0, .int .u64 0, .int .u64 0, .int .u64 0, .int .u64 0, .int .u64 0, .int .u64 0, .bool false, .int .u64 0, .int .u64 0, .int .u64 0, .int .u64 0, .int .u64 0, .int .u64 0, .int .u64 0, .int .u64 0, .bool false, .int .u64 0, .int .u64 0, .int .u64 0, .int .u64 0, .int .u64 0, .int .u64 0, .int .u64 0, .int .u64 0, .int .u64 0, .int .u64 0, .int .u64 0, .int .u64 0, .int .u64 0, .int .u64 0, .int .u64 0, .int .u64 0] (tdV tA) 54 (by kernel_rfl) rfl (by kernel_rfl)
  have HA : Hid (A1 = w.heap.size) := hA
  have HS : Hid _ := hS
  have HB : Hid (Below w.heap.size w W1 ∧ Bk w.heap.size W1 A1 (tdV tA) 54) := ⟨hb, hB⟩
  clear hA hS hb hB
  go_upto_region 2 with (first | ((with_reducible refine build_tk (ty := 27) (parts := #[(0, .const (Value.int .u64 5))]) (ps := #[(0, .int .u64 5)]) (vs := (nuV 5).toArray) ?_ ?_ ?_ (Q1.out _) ?_); rfl; rfl; (simp only [List.map_toArray, List.map_cons, List.map_nil]; rfl)) | ((with_reducible refine build_tk (ty := 27) (parts := #[(0, .const (Value.int .u64 1))]) (ps := #[(0, .int .u64 1)]) (vs := (nuV 1).toArray) ?_ ?_ ?_ (Q2.out _) ?_); rfl; rfl; (simp only [List.map_toArray, List.map_cons, List.map_nil]; rfl)) | ((with_reducible refine build_tk (ty := 27) (parts := #[(0, .const (Value.int .u64 11))]) (ps := #[(0, .int .u64 11)]) (vs := (nuV 11).toArray) ?_ ?_ ?_ (Q3.out _) ?_); rfl; rfl; (simp only [List.map_toArray, List.map_cons, List.map_nil]; rfl)) | ((with_reducible refine build_tk (ty := 54) (parts := #[(2, .tmp 7), (3, .tmp 8), (4, .tmp 9)]) (ps := #[(2, .agg (nuV 5).toArray), (3, .agg (nuV 1).toArray), (4, .agg (nuV 11).toArray)]) (vs := (tdV tA).toArray) ?_ ?_ ?_ (Q4.out _) ?_); rfl; rfl; (simp only [List.map_toArray, List.map_cons, List.map_nil]; rfl)) | ((rw [← HA.out]); ((with_reducible refine store_tk (b := A1) (k := 0) (x := 1) (y := 10) ?_ ?_ ?_ ?_ HS.out ?_); rfl; rfl; rfl; rfl)) | ((with_reducible refine store_tk (b := A1) (k := 0) (x := 1) (y := 10) ?_ ?_ ?_ ?_ HS.out ?_); rfl; rfl; rfl; rfl))
  have H1 : Hid (Below w.heap.size w W1 ∧ GlobQ W1 ∧ Bk w.heap.size W1 A1 (tdV tA) 54) := ⟨below_call0 H0.out.1 HB.out.1, H0.out.2.call HB.out.1, HB.out.2⟩
  clear HA HS HB Q1 Q2 Q3 Q4 H0
  have Q5 : Hid (∀ w, (Instr.build 27 #[(0, .int .u64 3)]).run Tryd.prog w = .ok (.agg (nuV 3).toArray) w) := fun _ => by kernel_rfl
  have Q6 : Hid (∀ w, (Instr.build 27 #[(0, .int .u64 1)]).run Tryd.prog w = .ok (.agg (nuV 1).toArray) w) := fun _ => by kernel_rfl
  have Q7 : Hid (∀ w, (Instr.build 27 #[(0, .int .u64 7)]).run Tryd.prog w = .ok (.agg (nuV 7).toArray) w) := fun _ => by kernel_rfl
  have Q8 : Hid (∀ w, (Instr.build 54 #[(2, .agg (nuV 3).toArray), (3, .agg (nuV 1).toArray), (4, .agg (nuV 7).toArray)]).run Tryd.prog w = .ok (.agg (tdV tB).toArray) w) := fun _ => by kernel_rfl
  obtain ⟨W2, A2, hA, hS, hb, hB⟩ := Bk.fresh H1.out.1 (Nat.le_refl _) #[.int .i64 0, .int .u64 0, .int .u64 0, .int .u64 0, .int .u64 0, .int .u64 0, .int .u64 0, .int .u64 0, .int .u64 0, .bool false, .int .u64 0, .int .u64 0, .int .u64 0, .int .u64 0, .int .u64 0, .int .u64 0, .int .u64 0, .int .u64 0, .bool false, .int .u64 0, .int .u64 0, .int .u64 0, .int .u64 0, .int .u64 0, .int .u64 0, .int .u64 0, .int .u64 0, .int .u64 0, .int .u64 0, .int .u64 0, .int .u64 0, .int .u64 0, .int .u64 0, .int .u64 0, .int .u64 0] (tdV tB) 54 (by kernel_rfl) rfl (by kernel_rfl)
  have HA : Hid (A2 = W1.heap.size) := hA
  have HS : Hid _ := hS
  have HB : Hid (Below W1.heap.size W1 W2 ∧ Bk w.heap.size W2 A2 (tdV tB) 54) := ⟨hb, hB⟩
  clear hA hS hb hB
  go_upto_region 3 with (first | ((with_reducible refine build_tk (ty := 27) (parts := #[(0, .const (Value.int .u64 3))]) (ps := #[(0, .int .u64 3)]) (vs := (nuV 3).toArray) ?_ ?_ ?_ (Q5.out _) ?_); rfl; rfl; (simp only [List.map_toArray, List.map_cons, List.map_nil]; rfl)) | ((with_reducible refine build_tk (ty := 27) (parts := #[(0, .const (Value.int .u64 1))]) (ps := #[(0, .int .u64 1)]) (vs := (nuV 1).toArray) ?_ ?_ ?_ (Q6.out _) ?_); rfl; rfl; (simp only [List.map_toArray, List.map_cons, List.map_nil]; rfl)) | ((with_reducible refine build_tk (ty := 27) (parts := #[(0, .const (Value.int .u64 7))]) (ps := #[(0, .int .u64 7)]) (vs := (nuV 7).toArray) ?_ ?_ ?_ (Q7.out _) ?_); rfl; rfl; (simp only [List.map_toArray, List.map_cons, List.map_nil]; rfl)) | ((with_reducible refine build_tk (ty := 54) (parts := #[(2, .tmp 11), (3, .tmp 12), (4, .tmp 13)]) (ps := #[(2, .agg (nuV 3).toArray), (3, .agg (nuV 1).toArray), (4, .agg (nuV 7).toArray)]) (vs := (tdV tB).toArray) ?_ ?_ ?_ (Q8.out _) ?_); rfl; rfl; (simp only [List.map_toArray, List.map_cons, List.map_nil]; rfl)) | ((rw [← HA.out]); ((with_reducible refine store_tk (b := A2) (k := 0) (x := 2) (y := 14) ?_ ?_ ?_ ?_ HS.out ?_); rfl; rfl; rfl; rfl)) | ((with_reducible refine store_tk (b := A2) (k := 0) (x := 2) (y := 14) ?_ ?_ ?_ ?_ HS.out ?_); rfl; rfl; rfl; rfl))
  have H2 : Hid (Below w.heap.size w W2 ∧ GlobQ W2 ∧ Bk w.heap.size W2 A1 (tdV tA) 54 ∧ Bk w.heap.size W2 A2 (tdV tB) 54) := ⟨below_call0 H1.out.1 HB.out.1, H1.out.2.1.call HB.out.1, H1.out.2.2.call HB.out.1, HB.out.2⟩
  clear HA HS HB Q5 Q6 Q7 Q8 H1
  have L9 : Hid ((loadVar 54 ⟨A1, 0, none⟩).run Tryd.prog W2 = .ok (.agg (tdV tA).toArray) W2) := H2.out.2.2.1.load 0 (tdV tA) (by rfl) Tryd.underlying54 rfl (by kernel_rfl)
  have L10 : Hid ((loadVar 54 ⟨A2, 0, none⟩).run Tryd.prog W2 = .ok (.agg (tdV tB).toArray) W2) := H2.out.2.2.2.load 0 (tdV tB) (by rfl) Tryd.underlying54 rfl (by kernel_rfl)
  go_wp2_with (first | ((with_reducible refine load_tk (b := A1) (k := 0) (x := 1) ?_ ?_ ?_ L9.out ?_); rfl; rfl; rfl) | ((with_reducible refine load_tk (b := A2) (k := 0) (x := 2) ?_ ?_ ?_ L10.out ?_); rfl; rfl; rfl))
  refine (K1.out _ H2.out.2.1).mono ?_
  rintro e w3 ⟨rfl, hb3⟩
  have H3 : Hid (Below w.heap.size w w3 ∧ GlobQ w3 ∧ Bk w.heap.size w3 A1 (tdV tA) 54 ∧ Bk w.heap.size w3 A2 (tdV tB) 54) := ⟨below_call0 H2.out.1 hb3, H2.out.2.1.call hb3, H2.out.2.2.1.call hb3, H2.out.2.2.2.call hb3⟩
  clear hb3 L9 L10 H2
  obtain ⟨W4, A4, hA, hS, hb, hB⟩ := Bk.fresh H3.out.1 (Nat.le_refl _) #[.int .u64 0, .int .u64 0, .int .u64 0, .int .u64 0] (nuV 2) 27 (by kernel_rfl) rfl (by kernel_rfl)
  have HA : Hid (A4 = w3.heap.size) := hA
  have HS : Hid _ := hS
  have HB : Hid (Below w3.heap.size w3 W4 ∧ Bk w.heap.size W4 A4 (nuV 2) 27) := ⟨hb, hB⟩
  clear hA hS hb hB
  go_upto_region 4 with (first | ((rw [← HA.out]); ((with_reducible refine store_tk (b := A4) (k := 0) (x := 3) (y := 19) ?_ ?_ ?_ ?_ HS.out ?_); rfl; rfl; rfl; rfl)) | ((with_reducible refine store_tk (b := A4) (k := 0) (x := 3) (y := 19) ?_ ?_ ?_ ?_ HS.out ?_); rfl; rfl; rfl; rfl))
  have H4 : Hid (Below w.heap.size w W4 ∧ GlobQ W4 ∧ Bk w.heap.size W4 A1 (tdV tA) 54 ∧ Bk w.heap.size W4 A2 (tdV tB) 54 ∧ Bk w.heap.size W4 A4 (nuV 2) 27) := ⟨below_call0 H3.out.1 HB.out.1, H3.out.2.1.call HB.out.1, H3.out.2.2.1.call HB.out.1, H3.out.2.2.2.call HB.out.1, HB.out.2⟩
  clear HA HS HB H3
  have L11 : Hid ((loadVar 54 ⟨A1, 0, none⟩).run Tryd.prog W4 = .ok (.agg (tdV tA).toArray) W4) := H4.out.2.2.1.load 0 (tdV tA) (by rfl) Tryd.underlying54 rfl (by kernel_rfl)
  have L12 : Hid ((loadVar 54 ⟨A1, 0, none⟩).run Tryd.prog W4 = .ok (.agg (tdV tA).toArray) W4) := H4.out.2.2.1.load 0 (tdV tA) (by rfl) Tryd.underlying54 rfl (by kernel_rfl)
  go_wp2_with (first | ((with_reducible refine load_tk (b := A1) (k := 0) (x := 1) ?_ ?_ ?_ L11.out ?_); rfl; rfl; rfl) | ((with_reducible refine load_tk (b := A1) (k := 0) (x := 1) ?_ ?_ ?_ L12.out ?_); rfl; rfl; rfl))
  refine (K2.out _ H4.out.2.1).mono ?_
  rintro e w5 ⟨rfl, hb5⟩
  have H5 : Hid (Below w.heap.size w w5 ∧ GlobQ w5 ∧ Bk w.heap.size w5 A1 (tdV tA) 54 ∧ Bk w.heap.size w5 A2 (tdV tB) 54 ∧ Bk w.heap.size w5 A4 (nuV 2) 27) := ⟨below_call0 H4.out.1 hb5, H4.out.2.1.call hb5, H4.out.2.2.1.call hb5, H4.out.2.2.2.1.call hb5, H4.out.2.2.2.2.call hb5⟩
  clear hb5 L11 L12 H4
  obtain ⟨W6, A6, hA, hS, hb, hB⟩ := Bk.fresh H5.out.1 (Nat.le_refl _) #[.int .u64 0, .int .u64 0, .int .u64 0, .int .u64 0] (nuV 0) 27 (by kernel_rfl) rfl (by kernel_rfl)
  have HA : Hid (A6 = w5.heap.size) := hA
  have HS : Hid _ := hS
  have HB : Hid (Below w5.heap.size w5 W6 ∧ Bk w.heap.size W6 A6 (nuV 0) 27) := ⟨hb, hB⟩
  clear hA hS hb hB
  go_upto_region 5 with (first | ((rw [← HA.out]); ((with_reducible refine store_tk (b := A6) (k := 0) (x := 5) (y := 25) ?_ ?_ ?_ ?_ HS.out ?_); rfl; rfl; rfl; rfl)) | ((with_reducible refine store_tk (b := A6) (k := 0) (x := 5) (y := 25) ?_ ?_ ?_ ?_ HS.out ?_); rfl; rfl; rfl; rfl))
  have H6 : Hid (Below w.heap.size w W6 ∧ GlobQ W6 ∧ Bk w.heap.size W6 A1 (tdV tA) 54 ∧ Bk w.heap.size W6 A2 (tdV tB) 54 ∧ Bk w.heap.size W6 A4 (nuV 2) 27 ∧ Bk w.heap.size W6 A6 (nuV 0) 27) := ⟨below_call0 H5.out.1 HB.out.1, H5.out.2.1.call HB.out.1, H5.out.2.2.1.call HB.out.1, H5.out.2.2.2.1.call HB.out.1, H5.out.2.2.2.2.call HB.out.1, HB.out.2⟩
  clear HA HS HB H5
  have hq : ∀ w : World, (Op.equalIn 10000 27 (.agg (nuV 2).toArray) (.agg (nuV 2).toArray)).run Tryd.prog w = .ok true w := fun w => by
    rw [run_num0, eqn_self]
  have L13 : Hid ((loadVar 27 ⟨A4, 0, none⟩).run Tryd.prog W6 = .ok (.agg (nuV 2).toArray) W6) := H6.out.2.2.2.2.1.load 0 (nuV 2) (by rfl) Tryd.underlying27 rfl (by kernel_rfl)
  have Q14 : Hid (∀ w, (Instr.build 27 #[(0, .int .u64 2)]).run Tryd.prog w = .ok (.agg (nuV 2).toArray) w) := fun _ => by kernel_rfl
  go_wp2_with (first | ((with_reducible refine load_tk (b := A4) (k := 0) (x := 3) ?_ ?_ ?_ L13.out ?_); rfl; rfl; rfl) | ((with_reducible refine build_tk (ty := 27) (parts := #[(0, .const (Value.int .u64 2))]) (ps := #[(0, .int .u64 2)]) (vs := (nuV 2).toArray) ?_ ?_ ?_ (Q14.out _) ?_); rfl; rfl; (simp only [List.map_toArray, List.map_cons, List.map_nil]; rfl)))
  clear L13 Q14
  go_ret
  exact ⟨rfl, H6.out.1⟩
end Go.Proofs.YtbpgiijdcagckaaDoor
