/- Package audit: are all its numbers scalars? -/
import Derived.Test.YtbpgiijdcagckaaDoorAuA
import Derived.Deep.Cut
namespace Go.Proofs.YtbpgiijdcagckaaDoor
open Go Go.RowKit Go.Lib
def qdV (t : Td) : List Value := [.int .u64 (limb t.f 0 : Nat), .int .u64 (limb t.f 1 : Nat), .int .u64 (limb t.f 2 : Nat), .int .u64 (limb t.f 3 : Nat), .int .u64 (limb t.w 0 : Nat), .int .u64 (limb t.w 1 : Nat), .int .u64 (limb t.w 2 : Nat), .int .u64 (limb t.w 3 : Nat), .int .u64 (limb t.c 0 : Nat), .int .u64 (limb t.c 1 : Nat), .int .u64 (limb t.c 2 : Nat), .int .u64 (limb t.c 3 : Nat), .int .u64 (limb t.z 0 : Nat), .int .u64 (limb t.z 1 : Nat), .int .u64 (limb t.z 2 : Nat), .int .u64 (limb t.z 3 : Nat)]
/-- One of its numbers is a scalar. -/
def okAt (t : Td) : Nat → Bool
  | 0 => decide (t.f < QQ)
  | 1 => decide (t.w < QQ)
  | 2 => decide (t.c < QQ)
  | 3 => decide (t.z < QQ)
  | _ => true
theorem ok_all (t : Td) (h : ∀ j, j < 4 → okAt t j = true) : t.ok = true := by
  have a := h 0 (by decide)
  have b := h 1 (by decide)
  have c := h 2 (by decide)
  have d := h 3 (by decide)
  simp only [okAt] at a b c d
  simp only [Td.ok, a, b, c, d, Bool.and_self]
theorem ok_none (t : Td) (j : Nat) (hj : j < 4) (h : okAt t j = false) : t.ok = false := by
  match j, hj with
  | 0, _ => simp only [okAt] at h; simp only [Td.ok, h, Bool.false_and]
  | 1, _ => simp only [okAt] at h; simp only [Td.ok, h, Bool.false_and, Bool.and_false]
  | 2, _ => simp only [okAt] at h; simp only [Td.ok, h, Bool.false_and, Bool.and_false]
  | 3, _ => simp only [okAt] at h; simp only [Td.ok, h, Bool.and_false]
set_option maxRecDepth 100000 in
set_option maxHeartbeats 400000 in
theorem isOf_any (t : Td) (hR : t.R) (w : World) (hG : GlobQ w) : Calls Tryd.prog 15 #[.agg (tdV t).toArray] w fun e w' => e = .returned (.bool t.ok) ∧ Below w.heap.size w w' := by
  have KS : Hid _ := scalars_any
  have HR : Hid (t.f < R256 ∧ t.w < R256 ∧ t.c < R256 ∧ t.z < R256) := hR
  obtain ⟨N, hN⟩ : ∃ N, N = w.heap.size := ⟨_, rfl⟩
  obtain ⟨W0, hW0⟩ : ∃ W, W = w.alloc (.cells (tdV t).toArray 54) := ⟨_, rfl⟩
  have H0 : Hid (Below w.heap.size w W0 ∧ Bk w.heap.size W0 N (tdV t) 54 ∧ GlobQ W0) := by
    have hb : Below w.heap.size w W0 := by
      rw [hW0]
      exact below_alloc0 (Below.refl _ _) _
    have e0 := Bk.mk0 (w) (tdV t) 54
    have a0 : Below (w).heap.size (w) (w.alloc (.cells (tdV t).toArray 54)) := below_alloc0 (Below.refl _ _) _
    refine ⟨hb, ⟨?_, ?_⟩, hG.call hb⟩
    · exact Nat.le_of_eq hN.symm
    · rw [hW0, hN]
      exact e0.2
  have HW : Hid (W0 = w.alloc (.cells (tdV t).toArray 54) ∧ N = w.heap.size) := ⟨hW0, hN⟩
  clear hW0 hN hG hR
  go_enter Tryd.func15, Tryd.ntmps15
  go_upto_region 1 with fail
  rw [← HW.out.1, ← HW.out.2]
  clear HW
  go_wp2_with fail
  refine (KS.out _ H0.out.2.2).mono ?_
  rintro e w1 ⟨g, rfl, hF, hb1⟩
  have H1 : Hid (Below w.heap.size w w1 ∧ Bk w.heap.size w1 N (tdV t) 54 ∧ GlobQ w1 ∧ FieldB w1 g QQ) := ⟨below_call0 H0.out.1 hb1, H0.out.2.1.call hb1, H0.out.2.2.call hb1, hF⟩
  clear hb1 H0 hF
  go_upto_region 2 with fail
  have L1 : Hid ((loadVar 27 ⟨N, 19, none⟩).run Tryd.prog w1 = .ok (.agg (nuV t.f).toArray) w1) := H1.out.2.1.load 19 (nuV t.f) (by rfl) Tryd.underlying27 rfl (by kernel_rfl)
  have L2 : Hid ((loadVar 27 ⟨N, 23, none⟩).run Tryd.prog w1 = .ok (.agg (nuV t.w).toArray) w1) := H1.out.2.1.load 23 (nuV t.w) (by rfl) Tryd.underlying27 rfl (by kernel_rfl)
  have L3 : Hid ((loadVar 27 ⟨N, 27, none⟩).run Tryd.prog w1 = .ok (.agg (nuV t.c).toArray) w1) := H1.out.2.1.load 27 (nuV t.c) (by rfl) Tryd.underlying27 rfl (by kernel_rfl)
  have L4 : Hid ((loadVar 27 ⟨N, 31, none⟩).run Tryd.prog w1 = .ok (.agg (nuV t.z).toArray) w1) := H1.out.2.1.load 31 (nuV t.z) (by rfl) Tryd.underlying27 rfl (by kernel_rfl)
  have Q5 : Hid (∀ w, (Instr.build 78 #[(0, .agg (nuV t.f).toArray), (1, .agg (nuV t.w).toArray), (2, .agg (nuV t.c).toArray), (3, .agg (nuV t.z).toArray)]).run Tryd.prog w = .ok (.agg (qdV t).toArray) w) := fun _ => by kernel_rfl
  go_wp2_with (first | ((with_reducible refine load_tk (b := N) (k := 19) (x := 7) ?_ ?_ ?_ L1.out ?_); rfl; rfl; rfl) | ((with_reducible refine load_tk (b := N) (k := 23) (x := 9) ?_ ?_ ?_ L2.out ?_); rfl; rfl; rfl) | ((with_reducible refine load_tk (b := N) (k := 27) (x := 11) ?_ ?_ ?_ L3.out ?_); rfl; rfl; rfl) | ((with_reducible refine load_tk (b := N) (k := 31) (x := 13) ?_ ?_ ?_ L4.out ?_); rfl; rfl; rfl) | ((with_reducible refine build_tk (ty := 78) (parts := #[(0, .tmp 8), (1, .tmp 10), (2, .tmp 12), (3, .tmp 14)]) (ps := #[(0, .agg (nuV t.f).toArray), (1, .agg (nuV t.w).toArray), (2, .agg (nuV t.c).toArray), (3, .agg (nuV t.z).toArray)]) (vs := (qdV t).toArray) ?_ ?_ ?_ (Q5.out _) ?_); rfl; rfl; (simp only [List.map_toArray, List.map_cons, List.map_nil]; rfl)))
  clear L1 L2 L3 L4 Q5
  rename_i Kr hKr
  have HKr : Hid _ := hKr
  clear hKr
  go_loopw [16] (fun iv wr => ∃ k : Nat, k ≤ 4 ∧ iv = .int .i64 (k : Nat) ∧ (∀ j, j < k → okAt t j = true) ∧ Below w1.heap.size w1 wr) (fun iv _ => 4 - (Go.RowKit.intOf iv).toNat)
  case atStart => exact ⟨0, Nat.zero_le _, rfl, fun i h => absurd h (Nat.not_lt_zero _), Below.refl _ _⟩
  case round =>
    obtain ⟨k, hk, rfl, hz, hB⟩ := hrel
    rename World => wr
    have HC : Hid ((∀ j, j < k → okAt t j = true) ∧ Below w1.heap.size w1 wr ∧ k ≤ 4) := ⟨hz, hB, hk⟩
    clear hz hB hk
    by_cases hlt : k < 4
    · clear HKr
      have hk4 : k = 0 ∨ k = 1 ∨ k = 2 ∨ k = 3 := by omega
      rcases hk4 with rfl | rfl | rfl | rfl
      · have HD : Hid (Below w1.heap.size w1 wr ∧ FieldB wr g QQ) := ⟨HC.out.2.1, FieldB.call H1.out.2.2.2 HC.out.2.1⟩
        have HI : Hid (∀ w, (Instr.index 78 (.agg (qdV t).toArray) (.int .i64 (0 : Nat))).run Tryd.prog w = .ok (.agg (nuV t.f).toArray) w) := fun _ => by kernel_rfl
        go_upto_region 4 with fail
        obtain ⟨W11, A11, hA, hS, hb, hB⟩ := Bk.fresh (w0 := w1) HD.out.1 (Nat.le_refl _) #[.int .u64 0, .int .u64 0, .int .u64 0, .int .u64 0] (nuV t.f) 27 (by kernel_rfl) rfl (by kernel_rfl)
        have HA : Hid (A11 = wr.heap.size) := hA
        have HS : Hid _ := hS
        have HB : Hid (Below wr.heap.size wr W11 ∧ Bk w1.heap.size W11 A11 (nuV t.f) 27) := ⟨hb, hB⟩
        clear hA hS hb hB
        go_upto_region 5 with (first | ((with_reducible refine index_tk (ty := 78) (x := .tmp 15) (i := .tmp 16) (xv := .agg (qdV t).toArray) (iv := .int .i64 (0 : Nat)) (v := .agg (nuV t.f).toArray) ?_ ?_ ?_ ?_ (HI.out _) ?_); rfl; rfl; rfl; rfl) | ((rw [← HA.out]); ((with_reducible refine store_tk (b := A11) (k := 0) (x := 5) (y := 18) ?_ ?_ ?_ ?_ HS.out ?_); rfl; rfl; rfl; rfl)) | ((with_reducible refine store_tk (b := A11) (k := 0) (x := 5) (y := 18) ?_ ?_ ?_ ?_ HS.out ?_); rfl; rfl; rfl; rfl))
        have H11 : Hid (Below w1.heap.size w1 W11 ∧ FieldB W11 g QQ ∧ Bk w1.heap.size W11 A11 (nuV t.f) 27) := ⟨below_call0 HD.out.1 HB.out.1, FieldB.call HD.out.2 HB.out.1, HB.out.2⟩
        clear HA HS HB HD
        clear HI
        have LL : Hid ((loadVar 27 ⟨A11, 0, none⟩).run Tryd.prog W11 = .ok (.agg (nuV t.f).toArray) W11) := H11.out.2.2.load 0 (nuV t.f) (by rfl) Tryd.underlying27 rfl (by kernel_rfl)
        go_wp2_with ((with_reducible refine load_tk (b := A11) (k := 0) (x := 5) ?_ ?_ ?_ LL.out ?_); rfl; rfl; rfl)
        by_cases c : t.f < QQ
        · have hE : okAt t 0 = true := decide_eq_true c
          refine (check_in g QQ t.f (HR.out.1) FM_Q.2.1 c _ (H11.out.2.1)).mono ?_
          rintro e wz ⟨rfl, hbz⟩
          have HZ : Hid (Below w1.heap.size w1 wz ∧ ∀ j, j < 0 + 1 → okAt t j = true) := ⟨below_call0 H11.out.1 hbz, fun i hi => by
            by_cases d : i < 0
            · exact HC.out.1 i d
            · obtain rfl : i = 0 := by omega
              exact hE⟩
          clear hbz hE c LL
          go_wp2_with fail
          go_roundw
          case rel => first | exact ⟨0 + 1, by decide, by go_num, HZ.out.2, HZ.out.1⟩ | ((repeat apply Exists.intro); exact ⟨⟨0 + 1, by decide, by go_num, HZ.out.2, HZ.out.1⟩, rfl⟩)
          case measure => simp [Go.RowKit.intOf]
        · have hE : t.ok = false := ok_none t 0 (by decide) (decide_eq_false c)
          refine (check_no g QQ t.f (HR.out.1) FM_Q.2.1 c _ (H11.out.2.1)).mono ?_
          rintro e wz ⟨rfl, hbz⟩
          have HZ : Hid (Below w.heap.size w wz) := below_call0 H1.out.1 (below_call0 H11.out.1 hbz)
          clear hbz c LL
          go_wp2_with fail
          go_ret
          exact ⟨by rw [hE]; rfl, HZ.out⟩
      · have HD : Hid (Below w1.heap.size w1 wr ∧ FieldB wr g QQ) := ⟨HC.out.2.1, FieldB.call H1.out.2.2.2 HC.out.2.1⟩
        have HI : Hid (∀ w, (Instr.index 78 (.agg (qdV t).toArray) (.int .i64 (1 : Nat))).run Tryd.prog w = .ok (.agg (nuV t.w).toArray) w) := fun _ => by kernel_rfl
        go_upto_region 4 with fail
        obtain ⟨W21, A21, hA, hS, hb, hB⟩ := Bk.fresh (w0 := w1) HD.out.1 (Nat.le_refl _) #[.int .u64 0, .int .u64 0, .int .u64 0, .int .u64 0] (nuV t.w) 27 (by kernel_rfl) rfl (by kernel_rfl)
        have HA : Hid (A21 = wr.heap.size) := hA
        have HS : Hid _ := hS
        have HB : Hid (Below wr.heap.size wr W21 ∧ Bk w1.heap.size W21 A21 (nuV t.w) 27) := ⟨hb, hB⟩
        clear hA hS hb hB
        go_upto_region 5 with (first | ((with_reducible refine index_tk (ty := 78) (x := .tmp 15) (i := .tmp 16) (xv := .agg (qdV t).toArray) (iv := .int .i64 (1 : Nat)) (v := .agg (nuV t.w).toArray) ?_ ?_ ?_ ?_ (HI.out _) ?_); rfl; rfl; rfl; rfl) | ((rw [← HA.out]); ((with_reducible refine store_tk (b := A21) (k := 0) (x := 5) (y := 18) ?_ ?_ ?_ ?_ HS.out ?_); rfl; rfl; rfl; rfl)) | ((with_reducible refine store_tk (b := A21) (k := 0) (x := 5) (y := 18) ?_ ?_ ?_ ?_ HS.out ?_); rfl; rfl; rfl; rfl))
        have H21 : Hid (Below w1.heap.size w1 W21 ∧ FieldB W21 g QQ ∧ Bk w1.heap.size W21 A21 (nuV t.w) 27) := ⟨below_call0 HD.out.1 HB.out.1, FieldB.call HD.out.2 HB.out.1, HB.out.2⟩
        clear HA HS HB HD
        clear HI
        have LL : Hid ((loadVar 27 ⟨A21, 0, none⟩).run Tryd.prog W21 = .ok (.agg (nuV t.w).toArray) W21) := H21.out.2.2.load 0 (nuV t.w) (by rfl) Tryd.underlying27 rfl (by kernel_rfl)
        go_wp2_with ((with_reducible refine load_tk (b := A21) (k := 0) (x := 5) ?_ ?_ ?_ LL.out ?_); rfl; rfl; rfl)
        by_cases c : t.w < QQ
        · have hE : okAt t 1 = true := decide_eq_true c
          refine (check_in g QQ t.w (HR.out.2.1) FM_Q.2.1 c _ (H21.out.2.1)).mono ?_
          rintro e wz ⟨rfl, hbz⟩
          have HZ : Hid (Below w1.heap.size w1 wz ∧ ∀ j, j < 1 + 1 → okAt t j = true) := ⟨below_call0 H21.out.1 hbz, fun i hi => by
            by_cases d : i < 1
            · exact HC.out.1 i d
            · obtain rfl : i = 1 := by omega
              exact hE⟩
          clear hbz hE c LL
          go_wp2_with fail
          go_roundw
          case rel => first | exact ⟨1 + 1, by decide, by go_num, HZ.out.2, HZ.out.1⟩ | ((repeat apply Exists.intro); exact ⟨⟨1 + 1, by decide, by go_num, HZ.out.2, HZ.out.1⟩, rfl⟩)
          case measure => simp [Go.RowKit.intOf]
        · have hE : t.ok = false := ok_none t 1 (by decide) (decide_eq_false c)
          refine (check_no g QQ t.w (HR.out.2.1) FM_Q.2.1 c _ (H21.out.2.1)).mono ?_
          rintro e wz ⟨rfl, hbz⟩
          have HZ : Hid (Below w.heap.size w wz) := below_call0 H1.out.1 (below_call0 H21.out.1 hbz)
          clear hbz c LL
          go_wp2_with fail
          go_ret
          exact ⟨by rw [hE]; rfl, HZ.out⟩
      · have HD : Hid (Below w1.heap.size w1 wr ∧ FieldB wr g QQ) := ⟨HC.out.2.1, FieldB.call H1.out.2.2.2 HC.out.2.1⟩
        have HI : Hid (∀ w, (Instr.index 78 (.agg (qdV t).toArray) (.int .i64 (2 : Nat))).run Tryd.prog w = .ok (.agg (nuV t.c).toArray) w) := fun _ => by kernel_rfl
        go_upto_region 4 with fail
        obtain ⟨W31, A31, hA, hS, hb, hB⟩ := Bk.fresh (w0 := w1) HD.out.1 (Nat.le_refl _) #[.int .u64 0, .int .u64 0, .int .u64 0, .int .u64 0] (nuV t.c) 27 (by kernel_rfl) rfl (by kernel_rfl)
        have HA : Hid (A31 = wr.heap.size) := hA
        have HS : Hid _ := hS
        have HB : Hid (Below wr.heap.size wr W31 ∧ Bk w1.heap.size W31 A31 (nuV t.c) 27) := ⟨hb, hB⟩
        clear hA hS hb hB
        go_upto_region 5 with (first | ((with_reducible refine index_tk (ty := 78) (x := .tmp 15) (i := .tmp 16) (xv := .agg (qdV t).toArray) (iv := .int .i64 (2 : Nat)) (v := .agg (nuV t.c).toArray) ?_ ?_ ?_ ?_ (HI.out _) ?_); rfl; rfl; rfl; rfl) | ((rw [← HA.out]); ((with_reducible refine store_tk (b := A31) (k := 0) (x := 5) (y := 18) ?_ ?_ ?_ ?_ HS.out ?_); rfl; rfl; rfl; rfl)) | ((with_reducible refine store_tk (b := A31) (k := 0) (x := 5) (y := 18) ?_ ?_ ?_ ?_ HS.out ?_); rfl; rfl; rfl; rfl))
        have H31 : Hid (Below w1.heap.size w1 W31 ∧ FieldB W31 g QQ ∧ Bk w1.heap.size W31 A31 (nuV t.c) 27) := ⟨below_call0 HD.out.1 HB.out.1, FieldB.call HD.out.2 HB.out.1, HB.out.2⟩
        clear HA HS HB HD
        clear HI
        have LL : Hid ((loadVar 27 ⟨A31, 0, none⟩).run Tryd.prog W31 = .ok (.agg (nuV t.c).toArray) W31) := H31.out.2.2.load 0 (nuV t.c) (by rfl) Tryd.underlying27 rfl (by kernel_rfl)
        go_wp2_with ((with_reducible refine load_tk (b := A31) (k := 0) (x := 5) ?_ ?_ ?_ LL.out ?_); rfl; rfl; rfl)
        by_cases c : t.c < QQ
        · have hE : okAt t 2 = true := decide_eq_true c
          refine (check_in g QQ t.c (HR.out.2.2.1) FM_Q.2.1 c _ (H31.out.2.1)).mono ?_
          rintro e wz ⟨rfl, hbz⟩
          have HZ : Hid (Below w1.heap.size w1 wz ∧ ∀ j, j < 2 + 1 → okAt t j = true) := ⟨below_call0 H31.out.1 hbz, fun i hi => by
            by_cases d : i < 2
            · exact HC.out.1 i d
            · obtain rfl : i = 2 := by omega
              exact hE⟩
          clear hbz hE c LL
          go_wp2_with fail
          go_roundw
          case rel => first | exact ⟨2 + 1, by decide, by go_num, HZ.out.2, HZ.out.1⟩ | ((repeat apply Exists.intro); exact ⟨⟨2 + 1, by decide, by go_num, HZ.out.2, HZ.out.1⟩, rfl⟩)
          case measure => simp [Go.RowKit.intOf]
        · have hE : t.ok = false := ok_none t 2 (by decide) (decide_eq_false c)
          refine (check_no g QQ t.c (HR.out.2.2.1) FM_Q.2.1 c _ (H31.out.2.1)).mono ?_
          rintro e wz ⟨rfl, hbz⟩
          have HZ : Hid (Below w.heap.size w wz) := below_call0 H1.out.1 (below_call0 H31.out.1 hbz)
          clear hbz c LL
          go_wp2_with fail
          go_ret
          exact ⟨by rw [hE]; rfl, HZ.out⟩
      · have HD : Hid (Below w1.heap.size w1 wr ∧ FieldB wr g QQ) := ⟨HC.out.2.1, FieldB.call H1.out.2.2.2 HC.out.2.1⟩
        have HI : Hid (∀ w, (Instr.index 78 (.agg (qdV t).toArray) (.int .i64 (3 : Nat))).run Tryd.prog w = .ok (.agg (nuV t.z).toArray) w) := fun _ => by kernel_rfl
        go_upto_region 4 with fail
        obtain ⟨W41, A41, hA, hS, hb, hB⟩ := Bk.fresh (w0 := w1) HD.out.1 (Nat.le_refl _) #[.int .u64 0, .int .u64 0, .int .u64 0, .int .u64 0] (nuV t.z) 27 (by kernel_rfl) rfl (by kernel_rfl)
        have HA : Hid (A41 = wr.heap.size) := hA
        have HS : Hid _ := hS
        have HB : Hid (Below wr.heap.size wr W41 ∧ Bk w1.heap.size W41 A41 (nuV t.z) 27) := ⟨hb, hB⟩
        clear hA hS hb hB
        go_upto_region 5 with (first | ((with_reducible refine index_tk (ty := 78) (x := .tmp 15) (i := .tmp 16) (xv := .agg (qdV t).toArray) (iv := .int .i64 (3 : Nat)) (v := .agg (nuV t.z).toArray) ?_ ?_ ?_ ?_ (HI.out _) ?_); rfl; rfl; rfl; rfl) | ((rw [← HA.out]); ((with_reducible refine store_tk (b := A41) (k := 0) (x := 5) (y := 18) ?_ ?_ ?_ ?_ HS.out ?_); rfl; rfl; rfl; rfl)) | ((with_reducible refine store_tk (b := A41) (k := 0) (x := 5) (y := 18) ?_ ?_ ?_ ?_ HS.out ?_); rfl; rfl; rfl; rfl))
        have H41 : Hid (Below w1.heap.size w1 W41 ∧ FieldB W41 g QQ ∧ Bk w1.heap.size W41 A41 (nuV t.z) 27) := ⟨below_call0 HD.out.1 HB.out.1, FieldB.call HD.out.2 HB.out.1, HB.out.2⟩
        clear HA HS HB HD
        clear HI
        have LL : Hid ((loadVar 27 ⟨A41, 0, none⟩).run Tryd.prog W41 = .ok (.agg (nuV t.z).toArray) W41) := H41.out.2.2.load 0 (nuV t.z) (by rfl) Tryd.underlying27 rfl (by kernel_rfl)
        go_wp2_with ((with_reducible refine load_tk (b := A41) (k := 0) (x := 5) ?_ ?_ ?_ LL.out ?_); rfl; rfl; rfl)
        by_cases c : t.z < QQ
        · have hE : okAt t 3 = true := decide_eq_true c
          refine (check_in g QQ t.z (HR.out.2.2.2) FM_Q.2.1 c _ (H41.out.2.1)).mono ?_
          rintro e wz ⟨rfl, hbz⟩
          have HZ : Hid (Below w1.heap.size w1 wz ∧ ∀ j, j < 3 + 1 → okAt t j = true) := ⟨below_call0 H41.out.1 hbz, fun i hi => by
            by_cases d : i < 3
            · exact HC.out.1 i d
            · obtain rfl : i = 3 := by omega
              exact hE⟩
          clear hbz hE c LL
          go_wp2_with fail
          go_roundw
          case rel => first | exact ⟨3 + 1, by decide, by go_num, HZ.out.2, HZ.out.1⟩ | ((repeat apply Exists.intro); exact ⟨⟨3 + 1, by decide, by go_num, HZ.out.2, HZ.out.1⟩, rfl⟩)
          case measure => simp [Go.RowKit.intOf]
        · have hE : t.ok = false := ok_none t 3 (by decide) (decide_eq_false c)
          refine (check_no g QQ t.z (HR.out.2.2.2) FM_Q.2.1 c _ (H41.out.2.1)).mono ?_
          rintro e wz ⟨rfl, hbz⟩
          have HZ : Hid (Below w.heap.size w wz) := below_call0 H1.out.1 (below_call0 H41.out.1 hbz)
          clear hbz c LL
          go_wp2_with fail
          go_ret
          exact ⟨by rw [hE]; rfl, HZ.out⟩
    · obtain rfl : k = 4 := by have := HC.out.2.2; omega
      have hE : t.ok = true := ok_all t HC.out.1
      clear hlt
      go_wp2_with fail
      refine HKr.out _ _ ?_
      clear HKr
      go_wp2_with fail
      go_ret
      exact ⟨by rw [hE]; rfl, below_call0 H1.out.1 HC.out.2.1⟩
end Go.Proofs.YtbpgiijdcagckaaDoor
