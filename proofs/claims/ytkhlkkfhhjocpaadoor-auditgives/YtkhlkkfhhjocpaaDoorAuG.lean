/- The statement AuditLeaks' walk. -/
import Derived.Test.YtkhlkkfhhjocpaaDoorAuF
namespace Go.Proofs.YtkhlkkfhhjocpaaDoor
open Go Go.RowKit Go.Lib
theorem inv_modK (d : Nat) (hd : d < QQ) (h0 : d ≠ 0) : d * (d ^ (QQ - 2) % QQ) % QQ = 1 := by
  have hn : ¬ QQ ∣ d := fun h => absurd (Nat.le_of_dvd (Nat.pos_of_ne_zero h0) h) (by omega)
  have f := fermat1 prime_Q d hn
  have e : QQ - 1 = (QQ - 2) + 1 := by
    have : 2 ≤ QQ := of_decide_eq_true (by kernel_rfl)
    omega
  rw [e, Nat.pow_succ] at f
  rw [Nat.mul_mod_mod, Nat.mul_comm]
  exact f
theorem tell_xK (x d : Nat) (hx : x < QQ) (hd : d < QQ) (h0 : d ≠ 0) : d * x % QQ * (d ^ (QQ - 2) % QQ) % QQ = x := by
  rw [Nat.mod_mul_mod, Nat.mul_comm d x, Nat.mul_assoc, Nat.mul_mod, inv_modK d hd h0, Nat.mul_one, Nat.mod_mod, Nat.mod_eq_of_lt hx]
def tA : Td := ⟨0, 0, 0, false, 0, 0, false, 0, 5, 1, 11⟩
def tB : Td := ⟨0, 0, 0, false, 0, 0, false, 0, 3, 1, 7⟩
theorem tA_R : tA.R := ⟨by decide, by decide, by decide, by decide⟩
theorem tB_R : tB.R := ⟨by decide, by decide, by decide, by decide⟩
theorem ltQ_smallK (k : Nat) (h : k < 100) : k < QQ := Nat.lt_trans h (of_decide_eq_true (by kernel_rfl))
theorem tm_A : tmN tA = 5 := by
  unfold tmN
  exact Nat.mod_eq_of_lt (ltQ_smallK 5 (by decide))
theorem tm_B : tmN tB = 3 := by
  unfold tmN
  exact Nat.mod_eq_of_lt (ltQ_smallK 3 (by decide))
theorem ok_A : tA.ok = true := by
  unfold Td.ok
  rw [decide_eq_true (show tA.f < QQ from ltQ_smallK 0 (by decide)), decide_eq_true (show tA.w < QQ from ltQ_smallK 5 (by decide)), decide_eq_true (show tA.c < QQ from ltQ_smallK 1 (by decide)), decide_eq_true (show tA.z < QQ from ltQ_smallK 11 (by decide))]
  rfl
theorem ok_B : tB.ok = true := by
  unfold Td.ok
  rw [decide_eq_true (show tB.f < QQ from ltQ_smallK 0 (by decide)), decide_eq_true (show tB.w < QQ from ltQ_smallK 3 (by decide)), decide_eq_true (show tB.c < QQ from ltQ_smallK 1 (by decide)), decide_eq_true (show tB.z < QQ from ltQ_smallK 7 (by decide))]
  rfl
theorem no_AB : eqNo tA tB = true := by kernel_rfl
theorem sub_small (a b : Nat) (h : b ≤ a) (ha : a < QQ) : subM QQ a b = a - b := by
  show (a + QQ - b) % QQ = a - b
  rw [show a + QQ - b = (a - b) + QQ by omega, Nat.add_mod_right]
  exact Nat.mod_eq_of_lt (by omega)
theorem tell_gen (x d m : Nat) (hx : x < QQ) (hd : d < QQ) (h0 : d ≠ 0) (hm : m = d * x % QQ) : m * (d ^ (QQ - 2) % QQ) % QQ = x := by
  rw [hm]
  exact tell_xK x d hx hd h0
theorem d_AB : subM QQ (tmN tA) (tmN tB) = 2 := by rw [tm_A, tm_B, sub_small 5 3 (by decide) (ltQ_smallK 5 (by decide))]
theorem m_AB (d : Nat) (hd : d = 2) : subM QQ tA.z tB.z = d * 2 % QQ := by
  rw [hd, show subM QQ tA.z tB.z = 4 from sub_small 11 7 (by decide) (ltQ_smallK 11 (by decide))]
  exact (Nat.mod_eq_of_lt (ltQ_smallK 4 (by decide))).symm
theorem lk_AB : lkE tA tB = 0 ∧ lkN tA tB = 2 := by
  have h := lk_0 ok_A ok_B no_AB (by rw [tm_A, tm_B]; decide)
  exact ⟨h.1, h.2.trans (tell_gen 2 _ _ (ltQ_smallK 2 (by decide)) (subM_ltK _ _ _ QQ_posK) (by rw [d_AB]; decide) (m_AB _ d_AB))⟩
theorem lk_AA : lkE tA tA = 1 ∧ lkN tA tA = 0 := lk_1 ok_A ok_A (by rw [decide_eq_true rfl, Bool.or_true])
set_option maxRecDepth 100000 in
set_option maxHeartbeats 400000 in
theorem two_ok (w : World) (hG : GlobQ w) : Calls Tryd.prog 8 #[] w fun e w' => e = .returned (.bool true) ∧ Below w.heap.size w w' := by
  have K1 : Hid (∀ w, GlobQ w → Calls Tryd.prog 5 #[.agg (tdV tA).toArray, .agg (tdV tB).toArray] w fun e w' => e = .returned (.tuple #[.agg (nuV 2).toArray, .int .i64 0]) ∧ Below w.heap.size w w') := fun w h => leak_any tA tB 2 0 tA_R tB_R lk_AB.1.symm lk_AB.2.symm w h
  have K2 : Hid (∀ w, GlobQ w → Calls Tryd.prog 5 #[.agg (tdV tA).toArray, .agg (tdV tA).toArray] w fun e w' => e = .returned (.tuple #[.agg (nuV 0).toArray, .int .i64 1]) ∧ Below w.heap.size w w') := fun w h => leak_any tA tA 0 1 tA_R tA_R lk_AA.1.symm lk_AA.2.symm w h
  have H0 : Hid (Below w.heap.size w w ∧ GlobQ w) := ⟨Below.refl _ _, hG⟩
  clear hG
  go_enter Tryd.func8, Tryd.ntmps8
  go_upto_region 1 with fail
  have Q1 : Hid (∀ w, (Instr.build 24 #[(0, .int .u64 5)]).run Tryd.prog w = .ok (.agg (nuV 5).toArray) w) := fun _ => by kernel_rfl
  have Q2 : Hid (∀ w, (Instr.build 24 #[(0, .int .u64 1)]).run Tryd.prog w = .ok (.agg (nuV 1).toArray) w) := fun _ => by kernel_rfl
  have Q3 : Hid (∀ w, (Instr.build 24 #[(0, .int .u64 11)]).run Tryd.prog w = .ok (.agg (nuV 11).toArray) w) := fun _ => by kernel_rfl
  have Q4 : Hid (∀ w, (Instr.build 30 #[(2, .agg (nuV 5).toArray), (3, .agg (nuV 1).toArray), (4, .agg (nuV 11).toArray)]).run Tryd.prog w = .ok (.agg (tdV tA).toArray) w) := fun _ => by kernel_rfl
  obtain ⟨W1, A1, hA, hS, hb, hB⟩ := Bk.fresh H0.out.1 (Nat.le_refl _) #[.int .i64 0, .int .u64 0, .int .u64 0, .int .u64 0, .int .u64 0, .int .u64 0, .int .u64 0, .int .u64 0, .int .u64 0, .bool false, .int .u64 0, .int .u64 0, .int .u64 0, .int .u64 0, .int .u64 0, .int .u64 0, .int .u64 0, .int .u64 0, .bool false, .int .u64 0, .int .u64 0, .int .u64 0, .int .u64 0, .int .u64 0, .int .u64 0, .int .u64 0, .int .u64 0, .int .u64 0, .int .u64 0, .int .u64 0, .int .u64 0, .int .u64 0, .int .u64 0, .int .u64 0, .int .u64 0] (tdV tA) 30 (by kernel_rfl) rfl (by kernel_rfl)
  have HA : Hid (A1 = w.heap.size) := hA
  have HS : Hid _ := hS
  have HB : Hid (Below w.heap.size w W1 ∧ Bk w.heap.size W1 A1 (tdV tA) 30) := ⟨hb, hB⟩
  clear hA hS hb hB
  go_upto_region 2 with (first | ((with_reducible refine build_tk (ty := 24) (parts := #[(0, .const (Value.int .u64 5))]) (ps := #[(0, .int .u64 5)]) (vs := (nuV 5).toArray) ?_ ?_ ?_ (Q1.out _) ?_); rfl; rfl; (simp only [List.map_toArray, List.map_cons, List.map_nil]; rfl)) | ((with_reducible refine build_tk (ty := 24) (parts := #[(0, .const (Value.int .u64 1))]) (ps := #[(0, .int .u64 1)]) (vs := (nuV 1).toArray) ?_ ?_ ?_ (Q2.out _) ?_); rfl; rfl; (simp only [List.map_toArray, List.map_cons, List.map_nil]; rfl)) | ((with_reducible refine build_tk (ty := 24) (parts := #[(0, .const (Value.int .u64 11))]) (ps := #[(0, .int .u64 11)]) (vs := (nuV 11).toArray) ?_ ?_ ?_ (Q3.out _) ?_); rfl; rfl; (simp only [List.map_toArray, List.map_cons, List.map_nil]; rfl)) | ((with_reducible refine build_tk (ty := 30) (parts := #[(2, .tmp 7), (3, .tmp 8), (4, .tmp 9)]) (ps := #[(2, .agg (nuV 5).toArray), (3, .agg (nuV 1).toArray), (4, .agg (nuV 11).toArray)]) (vs := (tdV tA).toArray) ?_ ?_ ?_ (Q4.out _) ?_); rfl; rfl; (simp only [List.map_toArray, List.map_cons, List.map_nil]; rfl)) | ((rw [← HA.out]); ((with_reducible refine store_tk (b := A1) (k := 0) (x := 1) (y := 10) ?_ ?_ ?_ ?_ HS.out ?_); rfl; rfl; rfl; rfl)) | ((with_reducible refine store_tk (b := A1) (k := 0) (x := 1) (y := 10) ?_ ?_ ?_ ?_ HS.out ?_); rfl; rfl; rfl; rfl))
  have H1 : Hid (Below w.heap.size w W1 ∧ GlobQ W1 ∧ Bk w.heap.size W1 A1 (tdV tA) 30) := ⟨below_call0 H0.out.1 HB.out.1, H0.out.2.call HB.out.1, HB.out.2⟩
  clear HA HS HB Q1 Q2 Q3 Q4 H0
  have Q5 : Hid (∀ w, (Instr.build 24 #[(0, .int .u64 3)]).run Tryd.prog w = .ok (.agg (nuV 3).toArray) w) := fun _ => by kernel_rfl
  have Q6 : Hid (∀ w, (Instr.build 24 #[(0, .int .u64 1)]).run Tryd.prog w = .ok (.agg (nuV 1).toArray) w) := fun _ => by kernel_rfl
  have Q7 : Hid (∀ w, (Instr.build 24 #[(0, .int .u64 7)]).run Tryd.prog w = .ok (.agg (nuV 7).toArray) w) := fun _ => by kernel_rfl
  have Q8 : Hid (∀ w, (Instr.build 30 #[(2, .agg (nuV 3).toArray), (3, .agg (nuV 1).toArray), (4, .agg (nuV 7).toArray)]).run Tryd.prog w = .ok (.agg (tdV tB).toArray) w) := fun _ => by kernel_rfl
  obtain ⟨W2, A2, hA, hS, hb, hB⟩ := Bk.fresh H1.out.1 (Nat.le_refl _) #[.int .i64 0, .int .u64 0, .int .u64 0, .int .u64 0, .int .u64 0, .int .u64 0, .int .u64 0, .int .u64 0, .int .u64 0, .bool false, .int .u64 0, .int .u64 0, .int .u64 0, .int .u64 0, .int .u64 0, .int .u64 0, .int .u64 0, .int .u64 0, .bool false, .int .u64 0, .int .u64 0, .int .u64 0, .int .u64 0, .int .u64 0, .int .u64 0, .int .u64 0, .int .u64 0, .int .u64 0, .int .u64 0, .int .u64 0, .int .u64 0, .int .u64 0, .int .u64 0, .int .u64 0, .int .u64 0] (tdV tB) 30 (by kernel_rfl) rfl (by kernel_rfl)
  have HA : Hid (A2 = W1.heap.size) := hA
  have HS : Hid _ := hS
  have HB : Hid (Below W1.heap.size W1 W2 ∧ Bk w.heap.size W2 A2 (tdV tB) 30) := ⟨hb, hB⟩
  clear hA hS hb hB
  go_upto_region 3 with (first | ((with_reducible refine build_tk (ty := 24) (parts := #[(0, .const (Value.int .u64 3))]) (ps := #[(0, .int .u64 3)]) (vs := (nuV 3).toArray) ?_ ?_ ?_ (Q5.out _) ?_); rfl; rfl; (simp only [List.map_toArray, List.map_cons, List.map_nil]; rfl)) | ((with_reducible refine build_tk (ty := 24) (parts := #[(0, .const (Value.int .u64 1))]) (ps := #[(0, .int .u64 1)]) (vs := (nuV 1).toArray) ?_ ?_ ?_ (Q6.out _) ?_); rfl; rfl; (simp only [List.map_toArray, List.map_cons, List.map_nil]; rfl)) | ((with_reducible refine build_tk (ty := 24) (parts := #[(0, .const (Value.int .u64 7))]) (ps := #[(0, .int .u64 7)]) (vs := (nuV 7).toArray) ?_ ?_ ?_ (Q7.out _) ?_); rfl; rfl; (simp only [List.map_toArray, List.map_cons, List.map_nil]; rfl)) | ((with_reducible refine build_tk (ty := 30) (parts := #[(2, .tmp 11), (3, .tmp 12), (4, .tmp 13)]) (ps := #[(2, .agg (nuV 3).toArray), (3, .agg (nuV 1).toArray), (4, .agg (nuV 7).toArray)]) (vs := (tdV tB).toArray) ?_ ?_ ?_ (Q8.out _) ?_); rfl; rfl; (simp only [List.map_toArray, List.map_cons, List.map_nil]; rfl)) | ((rw [← HA.out]); ((with_reducible refine store_tk (b := A2) (k := 0) (x := 2) (y := 14) ?_ ?_ ?_ ?_ HS.out ?_); rfl; rfl; rfl; rfl)) | ((with_reducible refine store_tk (b := A2) (k := 0) (x := 2) (y := 14) ?_ ?_ ?_ ?_ HS.out ?_); rfl; rfl; rfl; rfl))
  have H2 : Hid (Below w.heap.size w W2 ∧ GlobQ W2 ∧ Bk w.heap.size W2 A1 (tdV tA) 30 ∧ Bk w.heap.size W2 A2 (tdV tB) 30) := ⟨below_call0 H1.out.1 HB.out.1, H1.out.2.1.call HB.out.1, H1.out.2.2.call HB.out.1, HB.out.2⟩
  clear HA HS HB Q5 Q6 Q7 Q8 H1
  have L9 : Hid ((loadVar 30 ⟨A1, 0, none⟩).run Tryd.prog W2 = .ok (.agg (tdV tA).toArray) W2) := H2.out.2.2.1.load 0 (tdV tA) (by rfl) Tryd.underlying30 rfl (by kernel_rfl)
  have L10 : Hid ((loadVar 30 ⟨A2, 0, none⟩).run Tryd.prog W2 = .ok (.agg (tdV tB).toArray) W2) := H2.out.2.2.2.load 0 (tdV tB) (by rfl) Tryd.underlying30 rfl (by kernel_rfl)
  go_wp2_with (first | ((with_reducible refine load_tk (b := A1) (k := 0) (x := 1) ?_ ?_ ?_ L9.out ?_); rfl; rfl; rfl) | ((with_reducible refine load_tk (b := A2) (k := 0) (x := 2) ?_ ?_ ?_ L10.out ?_); rfl; rfl; rfl))
  refine (K1.out _ H2.out.2.1).mono ?_
  rintro e w3 ⟨rfl, hb3⟩
  have H3 : Hid (Below w.heap.size w w3 ∧ GlobQ w3 ∧ Bk w.heap.size w3 A1 (tdV tA) 30 ∧ Bk w.heap.size w3 A2 (tdV tB) 30) := ⟨below_call0 H2.out.1 hb3, H2.out.2.1.call hb3, H2.out.2.2.1.call hb3, H2.out.2.2.2.call hb3⟩
  clear hb3 L9 L10 H2
  obtain ⟨W4, A4, hA, hS, hb, hB⟩ := Bk.fresh H3.out.1 (Nat.le_refl _) #[.int .u64 0, .int .u64 0, .int .u64 0, .int .u64 0] (nuV 2) 24 (by kernel_rfl) rfl (by kernel_rfl)
  have HA : Hid (A4 = w3.heap.size) := hA
  have HS : Hid _ := hS
  have HB : Hid (Below w3.heap.size w3 W4 ∧ Bk w.heap.size W4 A4 (nuV 2) 24) := ⟨hb, hB⟩
  clear hA hS hb hB
  go_upto_region 4 with (first | ((rw [← HA.out]); ((with_reducible refine store_tk (b := A4) (k := 0) (x := 3) (y := 19) ?_ ?_ ?_ ?_ HS.out ?_); rfl; rfl; rfl; rfl)) | ((with_reducible refine store_tk (b := A4) (k := 0) (x := 3) (y := 19) ?_ ?_ ?_ ?_ HS.out ?_); rfl; rfl; rfl; rfl))
  have H4 : Hid (Below w.heap.size w W4 ∧ GlobQ W4 ∧ Bk w.heap.size W4 A1 (tdV tA) 30 ∧ Bk w.heap.size W4 A2 (tdV tB) 30 ∧ Bk w.heap.size W4 A4 (nuV 2) 24) := ⟨below_call0 H3.out.1 HB.out.1, H3.out.2.1.call HB.out.1, H3.out.2.2.1.call HB.out.1, H3.out.2.2.2.call HB.out.1, HB.out.2⟩
  clear HA HS HB H3
  have L11 : Hid ((loadVar 30 ⟨A1, 0, none⟩).run Tryd.prog W4 = .ok (.agg (tdV tA).toArray) W4) := H4.out.2.2.1.load 0 (tdV tA) (by rfl) Tryd.underlying30 rfl (by kernel_rfl)
  have L12 : Hid ((loadVar 30 ⟨A1, 0, none⟩).run Tryd.prog W4 = .ok (.agg (tdV tA).toArray) W4) := H4.out.2.2.1.load 0 (tdV tA) (by rfl) Tryd.underlying30 rfl (by kernel_rfl)
  go_wp2_with (first | ((with_reducible refine load_tk (b := A1) (k := 0) (x := 1) ?_ ?_ ?_ L11.out ?_); rfl; rfl; rfl) | ((with_reducible refine load_tk (b := A1) (k := 0) (x := 1) ?_ ?_ ?_ L12.out ?_); rfl; rfl; rfl))
  refine (K2.out _ H4.out.2.1).mono ?_
  rintro e w5 ⟨rfl, hb5⟩
  have H5 : Hid (Below w.heap.size w w5 ∧ GlobQ w5 ∧ Bk w.heap.size w5 A1 (tdV tA) 30 ∧ Bk w.heap.size w5 A2 (tdV tB) 30 ∧ Bk w.heap.size w5 A4 (nuV 2) 24) := ⟨below_call0 H4.out.1 hb5, H4.out.2.1.call hb5, H4.out.2.2.1.call hb5, H4.out.2.2.2.1.call hb5, H4.out.2.2.2.2.call hb5⟩
  clear hb5 L11 L12 H4
  obtain ⟨W6, A6, hA, hS, hb, hB⟩ := Bk.fresh H5.out.1 (Nat.le_refl _) #[.int .u64 0, .int .u64 0, .int .u64 0, .int .u64 0] (nuV 0) 24 (by kernel_rfl) rfl (by kernel_rfl)
  have HA : Hid (A6 = w5.heap.size) := hA
  have HS : Hid _ := hS
  have HB : Hid (Below w5.heap.size w5 W6 ∧ Bk w.heap.size W6 A6 (nuV 0) 24) := ⟨hb, hB⟩
  clear hA hS hb hB
  go_upto_region 5 with (first | ((rw [← HA.out]); ((with_reducible refine store_tk (b := A6) (k := 0) (x := 5) (y := 25) ?_ ?_ ?_ ?_ HS.out ?_); rfl; rfl; rfl; rfl)) | ((with_reducible refine store_tk (b := A6) (k := 0) (x := 5) (y := 25) ?_ ?_ ?_ ?_ HS.out ?_); rfl; rfl; rfl; rfl))
  have H6 : Hid (Below w.heap.size w W6 ∧ GlobQ W6 ∧ Bk w.heap.size W6 A1 (tdV tA) 30 ∧ Bk w.heap.size W6 A2 (tdV tB) 30 ∧ Bk w.heap.size W6 A4 (nuV 2) 24 ∧ Bk w.heap.size W6 A6 (nuV 0) 24) := ⟨below_call0 H5.out.1 HB.out.1, H5.out.2.1.call HB.out.1, H5.out.2.2.1.call HB.out.1, H5.out.2.2.2.1.call HB.out.1, H5.out.2.2.2.2.call HB.out.1, HB.out.2⟩
  clear HA HS HB H5
  have hq : ∀ w : World, (Op.equalIn 10000 24 (.agg (nuV 2).toArray) (.agg (nuV 2).toArray)).run Tryd.prog w = .ok true w := fun w => by
    rw [run_num0, eqn_self]
  have L13 : Hid ((loadVar 24 ⟨A4, 0, none⟩).run Tryd.prog W6 = .ok (.agg (nuV 2).toArray) W6) := H6.out.2.2.2.2.1.load 0 (nuV 2) (by rfl) Tryd.underlying24 rfl (by kernel_rfl)
  have Q14 : Hid (∀ w, (Instr.build 24 #[(0, .int .u64 2)]).run Tryd.prog w = .ok (.agg (nuV 2).toArray) w) := fun _ => by kernel_rfl
  go_wp2_with (first | ((with_reducible refine load_tk (b := A4) (k := 0) (x := 3) ?_ ?_ ?_ L13.out ?_); rfl; rfl; rfl) | ((with_reducible refine build_tk (ty := 24) (parts := #[(0, .const (Value.int .u64 2))]) (ps := #[(0, .int .u64 2)]) (vs := (nuV 2).toArray) ?_ ?_ ?_ (Q14.out _) ?_); rfl; rfl; (simp only [List.map_toArray, List.map_cons, List.map_nil]; rfl)))
  clear L13 Q14
  go_ret
  exact ⟨rfl, H6.out.1⟩
set_option maxRecDepth 100000 in
set_option maxHeartbeats 400000 in
theorem leaks_any (a b : Td) (hRa : a.R) (hRb : b.R) (w : World) (hG : GlobQ w) : Calls Tryd.prog 3 #[.agg (tdV a).toArray, .agg (tdV b).toArray] w fun e w' => e = .returned (.bool true) ∧ Below w.heap.size w w' := by
  obtain ⟨r, hr⟩ : ∃ r, r = lkN a b := ⟨_, rfl⟩
  obtain ⟨E, hE⟩ : ∃ e, e = lkE a b := ⟨_, rfl⟩
  have K1 : Hid (∀ w, GlobQ w → Calls Tryd.prog 5 #[.agg (tdV a).toArray, .agg (tdV b).toArray] w fun e w' => e = .returned (.tuple #[.agg (nuV r).toArray, .int .i64 E]) ∧ Below w.heap.size w w') := fun w h => leak_any a b r E hRa hRb hE hr w h
  have K2 : Hid (∀ w, Calls Tryd.prog 6 #[.agg (tdV a).toArray, .agg (tdV b).toArray] w fun e w' => e = .returned (.tuple #[.agg (nuV r).toArray, .int .i64 E]) ∧ Below w.heap.size w w') := fun w => rleak_any a b r E hRa hRb hE hr w
  have KA : Hid (∀ w, Calls Tryd.prog 7 #[.agg (tdV a).toArray] w fun e w' => e = .returned (.agg (tdV a).toArray) ∧ Below w.heap.size w w') := fun w => told_any a w
  have KB : Hid (∀ w, Calls Tryd.prog 7 #[.agg (tdV b).toArray] w fun e w' => e = .returned (.agg (tdV b).toArray) ∧ Below w.heap.size w w') := fun w => told_any b w
  have K3 : Hid _ := two_ok
  obtain ⟨N, hN⟩ : ∃ N, N = w.heap.size := ⟨_, rfl⟩
  obtain ⟨W0, hW0⟩ : ∃ W, W = (w.alloc (.cells (tdV a).toArray 30)).alloc (.cells (tdV b).toArray 30) := ⟨_, rfl⟩
  have H0 : Hid (Below w.heap.size w W0 ∧ Bk w.heap.size W0 N (tdV a) 30 ∧ Bk w.heap.size W0 (N + 1) (tdV b) 30 ∧ GlobQ W0) := by
    have hb : Below w.heap.size w W0 := by
      rw [hW0]
      exact below_alloc0 (below_alloc0 (Below.refl _ _) _) _
    have e0 := Bk.mk0 (w) (tdV a) 30
    have a0 : Below (w).heap.size (w) (w.alloc (.cells (tdV a).toArray 30)) := below_alloc0 (Below.refl _ _) _
    have e1 := Bk.mk0 (w.alloc (.cells (tdV a).toArray 30)) (tdV b) 30
    have a1 : Below (w.alloc (.cells (tdV a).toArray 30)).heap.size (w.alloc (.cells (tdV a).toArray 30)) ((w.alloc (.cells (tdV a).toArray 30)).alloc (.cells (tdV b).toArray 30)) := below_alloc0 (Below.refl _ _) _
    simp only [World.size_alloc] at e1
    refine ⟨hb, ⟨?_, ?_⟩, ⟨?_, ?_⟩, hG.call hb⟩
    · exact Nat.le_of_eq hN.symm
    · rw [hW0, hN]
      exact (e0.call a1).2
    · rw [hN]
      omega
    · rw [hW0, hN]
      exact e1.2
  have HW : Hid (W0 = (w.alloc (.cells (tdV a).toArray 30)).alloc (.cells (tdV b).toArray 30) ∧ N = w.heap.size) := ⟨hW0, hN⟩
  clear hW0 hN hG hRa hRb hE hr
  go_enter Tryd.func3, Tryd.ntmps3
  go_upto_region 1 with fail
  rw [← HW.out.1, ← HW.out.2]
  clear HW
  have L1 : Hid ((loadVar 30 ⟨N, 0, none⟩).run Tryd.prog W0 = .ok (.agg (tdV a).toArray) W0) := H0.out.2.1.load 0 (tdV a) (by rfl) Tryd.underlying30 rfl (by kernel_rfl)
  have L2 : Hid ((loadVar 30 ⟨(N + 1), 0, none⟩).run Tryd.prog W0 = .ok (.agg (tdV b).toArray) W0) := H0.out.2.2.1.load 0 (tdV b) (by rfl) Tryd.underlying30 rfl (by kernel_rfl)
  go_wp2_with (first | ((with_reducible refine load_tk (b := N) (k := 0) (x := 2) ?_ ?_ ?_ L1.out ?_); rfl; rfl; rfl) | ((with_reducible refine load_tk (b := (N + 1)) (k := 0) (x := 3) ?_ ?_ ?_ L2.out ?_); rfl; rfl; rfl))
  refine (K1.out _ H0.out.2.2.2).mono ?_
  rintro e w1 ⟨rfl, hb1⟩
  have H1 : Hid (Below w.heap.size w w1 ∧ Bk w.heap.size w1 N (tdV a) 30 ∧ Bk w.heap.size w1 (N + 1) (tdV b) 30 ∧ GlobQ w1) := ⟨below_call0 H0.out.1 hb1, H0.out.2.1.call hb1, H0.out.2.2.1.call hb1, H0.out.2.2.2.call hb1⟩
  clear hb1 L1 L2 H0
  obtain ⟨W2, A2, hA, hS, hb, hB⟩ := Bk.fresh H1.out.1 (Nat.le_refl _) #[.int .u64 0, .int .u64 0, .int .u64 0, .int .u64 0] (nuV r) 24 (by kernel_rfl) rfl (by kernel_rfl)
  have HA : Hid (A2 = w1.heap.size) := hA
  have HS : Hid _ := hS
  have HB : Hid (Below w1.heap.size w1 W2 ∧ Bk w.heap.size W2 A2 (nuV r) 24) := ⟨hb, hB⟩
  clear hA hS hb hB
  go_upto_region 2 with (first | ((rw [← HA.out]); ((with_reducible refine store_tk (b := A2) (k := 0) (x := 5) (y := 13) ?_ ?_ ?_ ?_ HS.out ?_); rfl; rfl; rfl; rfl)) | ((with_reducible refine store_tk (b := A2) (k := 0) (x := 5) (y := 13) ?_ ?_ ?_ ?_ HS.out ?_); rfl; rfl; rfl; rfl))
  have H2 : Hid (Below w.heap.size w W2 ∧ Bk w.heap.size W2 N (tdV a) 30 ∧ Bk w.heap.size W2 (N + 1) (tdV b) 30 ∧ GlobQ W2 ∧ Bk w.heap.size W2 A2 (nuV r) 24) := ⟨below_call0 H1.out.1 HB.out.1, H1.out.2.1.call HB.out.1, H1.out.2.2.1.call HB.out.1, H1.out.2.2.2.call HB.out.1, HB.out.2⟩
  clear HA HS HB H1
  refine wp_region_S 10 0 9 (OwL [isV (.agg (tdV a).toArray), isV (.agg (tdV a).toArray), isV (.agg (tdV b).toArray), isV (.agg (tdV b).toArray), isV (.tuple #[.agg (nuV r).toArray, .int .i64 E]), isV (.tuple #[.agg (nuV r).toArray, .int .i64 E]), isV (.agg (nuV r).toArray), isV (.int .i64 E), isB (W2.heap.size) [.int .u64 0, .int .u64 0, .int .u64 0, .int .u64 0] (nuV r) 24, isT]) [some 16, some 17, some 18, some 19, some 20, some 15, some 21, some 22, some 7, none] [0, 1, 2, 3, 4, 5, 6, 7, 8, 9] ?Ag2_10 ?osg2_10 (by kernel_rfl) (by kernel_rfl) (by kernel_rfl) (by kernel_rfl) ?hosg2_10 (by decide) ?hAg2_10 (OwL.call (pers_cons (pers_V _) (pers_cons (pers_V _) (pers_cons (pers_V _) (pers_cons (pers_V _) (pers_cons (pers_V _) (pers_cons (pers_V _) (pers_cons (pers_V _) (pers_cons (pers_V _) (pers_cons (pers_B _ _ _ _) (pers_cons (pers_T) (pers_nil)))))))))))) ?hopg2_10 ?hstg2_10 ?hfing2_10
  case hosg2_10 =>
    rw [List.getElem?_toArray]
    exact rfl
  case hAg2_10 =>
    intro v
    simp only [List.map_cons, List.map_nil, List.zip_cons_cons, List.zip_nil_right, fillD, Act.put, List.setIfInBounds_toArray, List.set_cons_zero, List.set_cons_succ]
    exact rfl
  case hopg2_10 =>
    refine ⟨?_, ?_, ?_, ?_, ?_, ?_, ?_, ?_, ?_, fun _ h => absurd rfl h, fun h => absurd h (by decide), trivial⟩
    focus (intro _ _ s v wx hs hS hd; exact OpTo.does rfl (exec_loadK (b := N) (k := 0) (x := 2) rfl (rfl) ((H2.out.2.1.call hS).load 0 (tdV a) (by rfl) Tryd.underlying30 rfl (by kernel_rfl))) rfl (Below.refl _ _))
    focus (intro _ _ s v wx hs hS hd; obtain rfl := hs (by kernel_rfl); refine OpTo.asks rfl (fun _ => rfl) (fun K hK => ?_); have d0 : v 0 = .agg (tdV a).toArray := hd 0 (by kernel_rfl); simp only [d0] at hK ⊢; go_simp; refine (KA.out _).mono ?_; rintro e w' ⟨rfl, hq⟩; exact hK _ w' (rfl) hq)
    focus (intro _ _ s v wx hs hS hd; exact OpTo.does rfl (exec_loadK (b := (N + 1)) (k := 0) (x := 3) rfl (rfl) ((H2.out.2.2.1.call hS).load 0 (tdV b) (by rfl) Tryd.underlying30 rfl (by kernel_rfl))) rfl (Below.refl _ _))
    focus (intro _ _ s v wx hs hS hd; obtain rfl := hs (by kernel_rfl); refine OpTo.asks rfl (fun _ => rfl) (fun K hK => ?_); have d2 : v 2 = .agg (tdV b).toArray := hd 2 (by kernel_rfl); simp only [d2] at hK ⊢; go_simp; refine (KB.out _).mono ?_; rintro e w' ⟨rfl, hq⟩; exact hK _ w' (rfl) hq)
    focus (intro _ _ s v wx hs hS hd; obtain rfl := hs (by kernel_rfl); refine OpTo.asks rfl (fun _ => rfl) (fun K hK => ?_); have d1 : v 1 = .agg (tdV a).toArray := hd 1 (by kernel_rfl); have d3 : v 3 = .agg (tdV b).toArray := hd 3 (by kernel_rfl); simp only [d1, d3] at hK ⊢; go_simp; refine (K2.out _).mono ?_; rintro e w' ⟨rfl, hq⟩; exact hK _ w' (rfl) hq)
    focus (intro _ _ s v wx hs hS hd; refine OpTo.does rfl ?_ rfl (Below.refl _ _); have d4 : v 4 = .tuple #[.agg (nuV r).toArray, .int .i64 E] := hd 4 (by kernel_rfl); simp only [d4]; clear hd hs hS; go_simp; try with_reducible rfl)
    focus (intro _ _ s v wx hs hS hd; refine OpTo.does rfl ?_ rfl (Below.refl _ _); have d5 : v 5 = .tuple #[.agg (nuV r).toArray, .int .i64 E] := hd 5 (by kernel_rfl); simp only [d5]; clear hd hs hS; go_simp; try with_reducible rfl)
    focus (intro _ _ s v wx hs hS hd; refine OpTo.does rfl ?_ rfl (Below.refl _ _); have d5 : v 5 = .tuple #[.agg (nuV r).toArray, .int .i64 E] := hd 5 (by kernel_rfl); simp only [d5]; clear hd hs hS; go_simp; try with_reducible rfl)
    focus (intro _ _ s v wx hs hS hd; refine OpTo.does (y := .pointer (some ⟨wx.heap.size, 0, none⟩)) (w1 := wx.alloc (.cells ([.int .u64 0, .int .u64 0, .int .u64 0, .int .u64 0] : List Value).toArray 24)) rfl ?_ ⟨_, rfl, hS.size, ?_⟩ (below_alloc0 (Below.refl _ _) _); (focus (go_simp; try rfl)); (rw [hs (by kernel_rfl)]; exact heap_alloc_last wx _))
  case hstg2_10 =>
    intro v wx hS hd
    have dy : v 6 = .agg (nuV r).toArray := hd 6 (by kernel_rfl)
    obtain ⟨b, e0, hz, hB⟩ := hd 8 (by kernel_rfl)
    refine OpTo.imp (OpTo.stores (w1 := wx.setRow b (nuV r).toArray) (v := undef) (R := fun w' => w' = wx.setRow b (nuV r).toArray) rfl (exec_storeK (b := b) (x := 7) (y := 21) rfl (by exact e0) (by exact dy) (run_storeVar_row wx b 24 24 _ (nuV r).toArray hB (by kernel_rfl) rfl (by kernel_rfl))) rfl rfl) ?_
    rintro x w' ⟨hx, rfl⟩
    refine ⟨undef, hx, trivial, below_setRowK hz _ hS, fun j hj => ?_⟩
    match j, hj with
    | 0, h => exact h
    | 1, h => exact h
    | 2, h => exact h
    | 3, h => exact h
    | 4, h => exact h
    | 5, h => exact h
    | 6, h => exact h
    | 7, h => exact h
    | 8, _ => exact ⟨b, e0, hz, setRow_heap wx b _ _ _ _ hB⟩
    | 9, h => exact h
    | _ + 10, _ => exact trivial
  intro v w3 hS hd
  have d7 : v 7 = .int .i64 E := hd 7 (by decide)
  obtain ⟨A3, e0, hz, hB⟩ := hd 8 (by decide)
  simp only [d7, e0]
  refine tail_at (o := ?otg2_1010) ?hitg2_1010 ?hwtg2_1010 ?_
  case hitg2_1010 => rw [List.getElem?_toArray]; exact rfl
  case hwtg2_1010 => exact rfl
  go_simp
  refine tail_end ?_
  have H3 : Hid (Below w.heap.size w w3 ∧ Bk w.heap.size w3 N (tdV a) 30 ∧ Bk w.heap.size w3 (N + 1) (tdV b) 30 ∧ GlobQ w3 ∧ Bk w.heap.size w3 A2 (nuV r) 24 ∧ Bk w.heap.size w3 A3 (nuV r) 24) := ⟨below_call0 H2.out.1 hS, H2.out.2.1.call hS, H2.out.2.2.1.call hS, H2.out.2.2.2.1.call hS, H2.out.2.2.2.2.call hS, ⟨Nat.le_trans H2.out.1.size hz, hB⟩⟩
  clear hS hd hB hz d7 e0 H2
  go_upto_region 3 with fail
  have hq : ∀ w : World, (Op.equalIn 10000 24 (.agg (nuV r).toArray) (.agg (nuV r).toArray)).run Tryd.prog w = .ok true w := fun w => by
    rw [run_num0, eqn_self]
  have L3 : Hid ((loadVar 24 ⟨A2, 0, none⟩).run Tryd.prog w3 = .ok (.agg (nuV r).toArray) w3) := H3.out.2.2.2.2.1.load 0 (nuV r) (by rfl) Tryd.underlying24 rfl (by kernel_rfl)
  have L4 : Hid ((loadVar 24 ⟨A3, 0, none⟩).run Tryd.prog w3 = .ok (.agg (nuV r).toArray) w3) := H3.out.2.2.2.2.2.load 0 (nuV r) (by rfl) Tryd.underlying24 rfl (by kernel_rfl)
  go_wp2_with (first | ((with_reducible refine load_tk (b := A2) (k := 0) (x := 5) ?_ ?_ ?_ L3.out ?_); rfl; rfl; rfl) | ((with_reducible refine load_tk (b := A3) (k := 0) (x := 7) ?_ ?_ ?_ L4.out ?_); rfl; rfl; rfl))
  refine (K3.out _ H3.out.2.2.2.1).mono ?_
  rintro e w4 ⟨rfl, hb4⟩
  have H4 : Hid (Below w.heap.size w w4 ∧ Bk w.heap.size w4 N (tdV a) 30 ∧ Bk w.heap.size w4 (N + 1) (tdV b) 30 ∧ GlobQ w4 ∧ Bk w.heap.size w4 A2 (nuV r) 24 ∧ Bk w.heap.size w4 A3 (nuV r) 24) := ⟨below_call0 H3.out.1 hb4, H3.out.2.1.call hb4, H3.out.2.2.1.call hb4, H3.out.2.2.2.1.call hb4, H3.out.2.2.2.2.1.call hb4, H3.out.2.2.2.2.2.call hb4⟩
  clear hb4 L3 L4 H3
  go_wp2_with fail
  go_ret
  exact ⟨rfl, H4.out.1⟩
end Go.Proofs.YtkhlkkfhhjocpaaDoor
