/- Package audit's reference: Leak. -/
import Derived.Test.YtbpgiijdcagckaaDoorAuE
namespace Go.Proofs.YtbpgiijdcagckaaDoor
open Go Go.RowKit Go.Lib
set_option maxRecDepth 100000 in
set_option maxHeartbeats 400000 in
theorem rleak_any (a b : Td) (r : Nat) (E : Int) (hRa : a.R) (hRb : b.R) (hE : E = lkE a b) (hr : r = lkN a b) (w : World) : Calls Tryd.prog 12 #[.agg (tdV a).toArray, .agg (tdV b).toArray] w fun e w' => e = .returned (.tuple #[.agg (nuV r).toArray, .int .i64 E]) ∧ Below w.heap.size w w' := by
  obtain ⟨oa, hoa⟩ : ∃ o, o = a.ok := ⟨_, rfl⟩
  obtain ⟨ob, hob⟩ : ∃ o, o = b.ok := ⟨_, rfl⟩
  obtain ⟨D1, hD1⟩ : ∃ o, o = eqPr a b := ⟨_, rfl⟩
  obtain ⟨D2, hD2⟩ : ∃ o, o = eqn a.f b.f := ⟨_, rfl⟩
  obtain ⟨d, hd⟩ : ∃ o, o = subM QQ (tmN a) (tmN b) := ⟨_, rfl⟩
  obtain ⟨D3, hD3⟩ : ∃ o, o = decide (d = 0) := ⟨_, rfl⟩
  have hdq : d < QQ := by rw [hd]; exact subM_ltK _ _ _ QQ_posK
  have KA : Hid (∀ w, Calls Tryd.prog 17 #[.agg (tdV a).toArray] w fun e w' => e = .returned (.bool oa) ∧ Below w.heap.size w w') := fun w => by
    rw [hoa]
    exact scal_any a hRa w
  have KB : Hid (∀ w, Calls Tryd.prog 17 #[.agg (tdV b).toArray] w fun e w' => e = .returned (.bool ob) ∧ Below w.heap.size w w') := fun w => by
    rw [hob]
    exact scal_any b hRb w
  have KS : Hid (∀ w, Calls Tryd.prog 18 #[] w fun e w' => e = .returned (.agg fvV.toArray) ∧ Below w.heap.size w w') := fun w => scalars2_any w
  have KT : Hid (∀ w, Calls Tryd.prog 20 #[.agg fvV.toArray, .agg (nuV a.w).toArray, .agg (nuV a.c).toArray] w fun e w' => e = .returned (.agg (nuV (tmN a)).toArray) ∧ Below w.heap.size w w') := fun w => mul2_any QQ a.w a.c FM_Q FS_Q hRa.2.1 hRa.2.2.1 w
  have KU : Hid (∀ w, Calls Tryd.prog 20 #[.agg fvV.toArray, .agg (nuV b.w).toArray, .agg (nuV b.c).toArray] w fun e w' => e = .returned (.agg (nuV (tmN b)).toArray) ∧ Below w.heap.size w w') := fun w => mul2_any QQ b.w b.c FM_Q FS_Q hRb.2.1 hRb.2.2.1 w
  have KD : Hid (∀ w, Calls Tryd.prog 19 #[.agg fvV.toArray, .agg (nuV (tmN a)).toArray, .agg (nuV (tmN b)).toArray] w fun e w' => e = .returned (.agg (nuV d).toArray) ∧ Below w.heap.size w w') := fun w => by
    rw [hd]
    exact sub2_any QQ (tmN a) (tmN b) FM_Q.2.1 (tmN_lt a) (tmN_lt b) w
  have KZ : Hid (∀ w, Calls Tryd.prog 21 #[.agg (nuV d).toArray] w fun e w' => e = .returned (.bool D3) ∧ Below w.heap.size w w') := fun w => by
    rw [hD3]
    exact zero2_any d (QQ_RK hdq) w
  have HQ : Hid (∀ w : World, (Op.equalIn 10000 34 (.agg (prV a).toArray) (.agg (prV b).toArray)).run Tryd.prog w = .ok D1 w) := fun w => by
    rw [hD1]
    exact run_pr0 a b w
  have HR : Hid (∀ w : World, (Op.equalIn 10000 27 (.agg (nuV a.f).toArray) (.agg (nuV b.f).toArray)).run Tryd.prog w = .ok D2 w) := fun w => by
    rw [hD2]
    exact run_num0 a.f b.f w
  have hno : eqNo a b = (D1 && D2) := by
    rw [hD1, hD2]
    rfl
  have hz : D3 = decide (tmN a = tmN b) := by
    rw [hD3]
    by_cases c : tmN a = tmN b
    · have e : d = 0 := by
        rw [hd, c]
        show (tmN b + QQ - tmN b) % QQ = 0
        rw [Nat.add_sub_cancel_left, Nat.mod_self]
      rw [decide_eq_true e, decide_eq_true c]
    · have e : d ≠ 0 := by
        rw [hd]
        exact sub_ne (tmN_lt a) (tmN_lt b) c
      rw [decide_eq_false e, decide_eq_false c]
  have HE : Hid (E = lkE a b ∧ r = lkN a b ∧ oa = a.ok ∧ ob = b.ok ∧ eqNo a b = (D1 && D2) ∧ D3 = decide (tmN a = tmN b) ∧ d = subM QQ (tmN a) (tmN b) ∧ d < QQ) := ⟨hE, hr, hoa, hob, hno, hz, hd, hdq⟩
  clear hE hr hoa hob hD1 hD2 hD3 hd hRa hRb hno hz hdq
  obtain ⟨N, hN⟩ : ∃ N, N = w.heap.size := ⟨_, rfl⟩
  obtain ⟨W0, hW0⟩ : ∃ W, W = ((w.alloc (.cells (tdV a).toArray 51)).alloc (.cells (tdV b).toArray 51)).alloc (.cells #[.int .u64 0, .int .u64 0, .int .u64 0, .int .u64 0] 27) := ⟨_, rfl⟩
  have H0 : Hid (Below w.heap.size w W0 ∧ Bk w.heap.size W0 N (tdV a) 51 ∧ Bk w.heap.size W0 (N + 1) (tdV b) 51 ∧ Bk w.heap.size W0 (N + 1 + 1) [.int .u64 0, .int .u64 0, .int .u64 0, .int .u64 0] 27) := by
    have hb : Below w.heap.size w W0 := by
      rw [hW0]
      exact below_alloc0 (below_alloc0 (below_alloc0 (Below.refl _ _) _) _) _
    have e0 := Bk.mk0 (w) (tdV a) 51
    have a0 : Below (w).heap.size (w) (w.alloc (.cells (tdV a).toArray 51)) := below_alloc0 (Below.refl _ _) _
    have e1 := Bk.mk0 (w.alloc (.cells (tdV a).toArray 51)) (tdV b) 51
    have a1 : Below (w.alloc (.cells (tdV a).toArray 51)).heap.size (w.alloc (.cells (tdV a).toArray 51)) ((w.alloc (.cells (tdV a).toArray 51)).alloc (.cells (tdV b).toArray 51)) := below_alloc0 (Below.refl _ _) _
    simp only [World.size_alloc] at e1
    have e2 := Bk.mk0 ((w.alloc (.cells (tdV a).toArray 51)).alloc (.cells (tdV b).toArray 51)) [.int .u64 0, .int .u64 0, .int .u64 0, .int .u64 0] 27
    have a2 : Below ((w.alloc (.cells (tdV a).toArray 51)).alloc (.cells (tdV b).toArray 51)).heap.size ((w.alloc (.cells (tdV a).toArray 51)).alloc (.cells (tdV b).toArray 51)) (((w.alloc (.cells (tdV a).toArray 51)).alloc (.cells (tdV b).toArray 51)).alloc (.cells #[.int .u64 0, .int .u64 0, .int .u64 0, .int .u64 0] 27)) := below_alloc0 (Below.refl _ _) _
    simp only [World.size_alloc] at e2
    refine ⟨hb, ⟨?_, ?_⟩, ⟨?_, ?_⟩, ⟨?_, ?_⟩⟩
    · exact Nat.le_of_eq hN.symm
    · rw [hW0, hN]
      exact ((e0.call a1).call a2).2
    · rw [hN]
      omega
    · rw [hW0, hN]
      exact (e1.call a2).2
    · rw [hN]
      omega
    · rw [hW0, hN]
      exact e2.2
  have HW : Hid (W0 = ((w.alloc (.cells (tdV a).toArray 51)).alloc (.cells (tdV b).toArray 51)).alloc (.cells #[.int .u64 0, .int .u64 0, .int .u64 0, .int .u64 0] 27) ∧ N = w.heap.size) := ⟨hW0, hN⟩
  clear hW0 hN 
  go_enter Tryd.func12, Tryd.ntmps12
  go_upto_region 1 with fail
  rw [← HW.out.1, ← HW.out.2]
  clear HW
  have L1 : Hid ((loadVar 51 ⟨N, 0, none⟩).run Tryd.prog W0 = .ok (.agg (tdV a).toArray) W0) := H0.out.2.1.load 0 (tdV a) (by rfl) Tryd.underlying51 rfl (by kernel_rfl)
  go_wp2_with ((with_reducible refine load_tk (b := N) (k := 0) (x := 2) ?_ ?_ ?_ L1.out ?_); rfl; rfl; rfl)
  refine (KA.out _).mono ?_
  rintro e w1 ⟨rfl, hb1⟩
  have H1 : Hid (Below w.heap.size w w1 ∧ Bk w.heap.size w1 N (tdV a) 51 ∧ Bk w.heap.size w1 (N + 1) (tdV b) 51 ∧ Bk w.heap.size w1 (N + 1 + 1) [.int .u64 0, .int .u64 0, .int .u64 0, .int .u64 0] 27) := ⟨below_call0 H0.out.1 hb1, H0.out.2.1.call hb1, H0.out.2.2.1.call hb1, H0.out.2.2.2.call hb1⟩
  clear hb1 L1 H0
  cases oa
  · go_upto_region 2 with fail
    obtain ⟨rfl, rfl⟩ : E = 20 ∧ r = 0 := by
      have h := (lk_20 (a := a) (b := b) (by rw [← HE.out.2.2.1]; rfl))
      exact ⟨HE.out.1.trans h.1, HE.out.2.1.trans h.2⟩
    clear HE
    have Q2 : Hid (∀ w, (Instr.build 27 #[]).run Tryd.prog w = .ok (.agg (nuV 0).toArray) w) := fun _ => by kernel_rfl
    obtain ⟨W2, hS, hb, hB⟩ := H1.out.2.2.2.put H1.out.1 (nuV 0) (by kernel_rfl) rfl (by kernel_rfl)
    have HS : Hid _ := hS
    have HB : Hid (Below w.heap.size w W2 ∧ Bk w.heap.size W2 (N + 1 + 1) (nuV 0) 27) := ⟨hb, hB⟩
    clear hS hb hB
    go_wp2_with (first | ((with_reducible refine build_tk (ty := 27) (parts := #[]) (ps := #[]) (vs := (nuV 0).toArray) ?_ ?_ ?_ (Q2.out _) ?_); rfl; rfl; (simp only [List.map_toArray, List.map_nil]; rfl)) | ((with_reducible refine store_tk (b := (N + 1 + 1)) (k := 0) (x := 4) (y := 16) ?_ ?_ ?_ ?_ HS.out ?_); rfl; rfl; rfl; rfl))
    have H2 : Hid (Below w.heap.size w W2 ∧ Bk w.heap.size W2 (N + 1 + 1) (nuV 0) 27) := ⟨HB.out.1, HB.out.2⟩
    clear HS HB Q2 H1
    have hld0 : (loadVar 27 ⟨(N + 1 + 1), 0, none⟩).run Tryd.prog W2 = .ok (.agg (nuV 0).toArray) W2 := H2.out.2.load 0 (nuV 0) (by rfl) Tryd.underlying27 rfl (by kernel_rfl)
    refine bodyPost_ret (v := .tuple #[.agg (nuV 0).toArray, .int .i64 20]) ?_ rfl ⟨rfl, H2.out.1⟩
    simp [results, Tryd.results12, asAddr, hld0]
  · have L2 : Hid ((loadVar 51 ⟨(N + 1), 0, none⟩).run Tryd.prog w1 = .ok (.agg (tdV b).toArray) w1) := H1.out.2.2.1.load 0 (tdV b) (by rfl) Tryd.underlying51 rfl (by kernel_rfl)
    go_wp2_with ((with_reducible refine load_tk (b := (N + 1)) (k := 0) (x := 3) ?_ ?_ ?_ L2.out ?_); rfl; rfl; rfl)
    refine (KB.out _).mono ?_
    rintro e w2 ⟨rfl, hb2⟩
    have H2 : Hid (Below w.heap.size w w2 ∧ Bk w.heap.size w2 N (tdV a) 51 ∧ Bk w.heap.size w2 (N + 1) (tdV b) 51 ∧ Bk w.heap.size w2 (N + 1 + 1) [.int .u64 0, .int .u64 0, .int .u64 0, .int .u64 0] 27) := ⟨below_call0 H1.out.1 hb2, H1.out.2.1.call hb2, H1.out.2.2.1.call hb2, H1.out.2.2.2.call hb2⟩
    clear hb2 L2 H1
    cases ob
    · go_upto_region 2 with fail
      obtain ⟨rfl, rfl⟩ : E = 20 ∧ r = 0 := by
        have h := (lk_20 (a := a) (b := b) (by rw [← HE.out.2.2.2.1, Bool.and_false]))
        exact ⟨HE.out.1.trans h.1, HE.out.2.1.trans h.2⟩
      clear HE
      have Q3 : Hid (∀ w, (Instr.build 27 #[]).run Tryd.prog w = .ok (.agg (nuV 0).toArray) w) := fun _ => by kernel_rfl
      obtain ⟨W3, hS, hb, hB⟩ := H2.out.2.2.2.put H2.out.1 (nuV 0) (by kernel_rfl) rfl (by kernel_rfl)
      have HS : Hid _ := hS
      have HB : Hid (Below w.heap.size w W3 ∧ Bk w.heap.size W3 (N + 1 + 1) (nuV 0) 27) := ⟨hb, hB⟩
      clear hS hb hB
      go_wp2_with (first | ((with_reducible refine build_tk (ty := 27) (parts := #[]) (ps := #[]) (vs := (nuV 0).toArray) ?_ ?_ ?_ (Q3.out _) ?_); rfl; rfl; (simp only [List.map_toArray, List.map_nil]; rfl)) | ((with_reducible refine store_tk (b := (N + 1 + 1)) (k := 0) (x := 4) (y := 16) ?_ ?_ ?_ ?_ HS.out ?_); rfl; rfl; rfl; rfl))
      have H3 : Hid (Below w.heap.size w W3 ∧ Bk w.heap.size W3 (N + 1 + 1) (nuV 0) 27) := ⟨HB.out.1, HB.out.2⟩
      clear HS HB Q3 H2
      have hld0 : (loadVar 27 ⟨(N + 1 + 1), 0, none⟩).run Tryd.prog W3 = .ok (.agg (nuV 0).toArray) W3 := H3.out.2.load 0 (nuV 0) (by rfl) Tryd.underlying27 rfl (by kernel_rfl)
      refine bodyPost_ret (v := .tuple #[.agg (nuV 0).toArray, .int .i64 20]) ?_ rfl ⟨rfl, H3.out.1⟩
      simp [results, Tryd.results12, asAddr, hld0]
    · go_upto_region 3 with fail
      go_wp2_with fail
      refine (KS.out _).mono ?_
      rintro e w3 ⟨rfl, hb3⟩
      have H3 : Hid (Below w.heap.size w w3 ∧ Bk w.heap.size w3 N (tdV a) 51 ∧ Bk w.heap.size w3 (N + 1) (tdV b) 51 ∧ Bk w.heap.size w3 (N + 1 + 1) [.int .u64 0, .int .u64 0, .int .u64 0, .int .u64 0] 27) := ⟨below_call0 H2.out.1 hb3, H2.out.2.1.call hb3, H2.out.2.2.1.call hb3, H2.out.2.2.2.call hb3⟩
      clear hb3 H2
      obtain ⟨W4, A4, hA, hS, hb, hB⟩ := Bk.fresh H3.out.1 (Nat.le_refl _) #[.int .u64 0, .int .u64 0, .int .u64 0, .int .u64 0, .int .u64 0, .int .u64 0, .int .u64 0, .int .u64 0] (fvV) 69 (by kernel_rfl) rfl (by kernel_rfl)
      have HA : Hid (A4 = w3.heap.size) := hA
      have HS : Hid _ := hS
      have HB : Hid (Below w3.heap.size w3 W4 ∧ Bk w.heap.size W4 A4 (fvV) 69) := ⟨hb, hB⟩
      clear hA hS hb hB
      go_upto_region 4 with (first | ((rw [← HA.out]); ((with_reducible refine store_tk (b := A4) (k := 0) (x := 6) (y := 17) ?_ ?_ ?_ ?_ HS.out ?_); rfl; rfl; rfl; rfl)) | ((with_reducible refine store_tk (b := A4) (k := 0) (x := 6) (y := 17) ?_ ?_ ?_ ?_ HS.out ?_); rfl; rfl; rfl; rfl))
      have H4 : Hid (Below w.heap.size w W4 ∧ Bk w.heap.size W4 N (tdV a) 51 ∧ Bk w.heap.size W4 (N + 1) (tdV b) 51 ∧ Bk w.heap.size W4 (N + 1 + 1) [.int .u64 0, .int .u64 0, .int .u64 0, .int .u64 0] 27 ∧ Bk w.heap.size W4 A4 (fvV) 69) := ⟨below_call0 H3.out.1 HB.out.1, H3.out.2.1.call HB.out.1, H3.out.2.2.1.call HB.out.1, H3.out.2.2.2.call HB.out.1, HB.out.2⟩
      clear HA HS HB H3
      refine wp_region_P 15 0 (OwL [isV (.agg (fvV).toArray), isV (.agg (fvV).toArray), isV (.pointer (some ⟨N, 23, none⟩)), isV (.agg (nuV a.w).toArray), isV (.pointer (some ⟨N, 27, none⟩)), isV (.agg (nuV a.c).toArray), isV (.agg (nuV (tmN a)).toArray), isV (.agg (fvV).toArray), isV (.pointer (some ⟨(N + 1), 23, none⟩)), isV (.agg (nuV b.w).toArray), isV (.pointer (some ⟨(N + 1), 27, none⟩)), isV (.agg (nuV b.c).toArray), isV (.agg (nuV (tmN b)).toArray), isV (.agg (nuV d).toArray), isB (W4.heap.size) [.int .u64 0, .int .u64 0, .int .u64 0, .int .u64 0] [.int .u64 0, .int .u64 0, .int .u64 0, .int .u64 0] 27] false) [some 18, some 19, some 20, some 21, some 22, some 23, some 24, some 25, some 26, some 27, some 28, some 29, some 30, some 31, some 7] [0, 1, 2, 3, 4, 5, 6, 7, 8, 9, 10, 11, 12, 13, 14] ?Ag4_8 (by kernel_rfl) (by kernel_rfl) (by kernel_rfl) (by decide) ?hAg4_8 (OwL.call (pers_cons (pers_V _) (pers_cons (pers_V _) (pers_cons (pers_V _) (pers_cons (pers_V _) (pers_cons (pers_V _) (pers_cons (pers_V _) (pers_cons (pers_V _) (pers_cons (pers_V _) (pers_cons (pers_V _) (pers_cons (pers_V _) (pers_cons (pers_V _) (pers_cons (pers_V _) (pers_cons (pers_V _) (pers_cons (pers_V _) (pers_cons (pers_B _ _ _ _) (pers_nil)))))))))))))))) false) ?hopg4_8 ?hfing4_8
      case hAg4_8 =>
        intro v
        simp only [List.map_cons, List.map_nil, List.zip_cons_cons, List.zip_nil_right, fillD, Act.put, List.setIfInBounds_toArray, List.set_cons_zero, List.set_cons_succ]
        exact rfl
      case hopg4_8 =>
        refine ⟨?_, ?_, ?_, ?_, ?_, ?_, ?_, ?_, ?_, ?_, ?_, ?_, ?_, ?_, ?_, fun h => absurd h (by decide), trivial⟩
        focus (intro _ v wx hS hd; exact OpTo.does rfl (exec_loadK (b := A4) (k := 0) (x := 6) rfl (rfl) ((H4.out.2.2.2.2.call hS).load 0 (fvV) (by rfl) Tryd.underlying69 rfl (by kernel_rfl))) rfl (Below.refl _ _))
        focus (intro _ v wx hS hd; exact OpTo.does rfl (exec_loadK (b := A4) (k := 0) (x := 6) rfl (rfl) ((H4.out.2.2.2.2.call hS).load 0 (fvV) (by rfl) Tryd.underlying69 rfl (by kernel_rfl))) rfl (Below.refl _ _))
        focus (intro _ v wx hS hd; refine OpTo.does rfl ?_ rfl (Below.refl _ _); clear hd hS; go_simp; try with_reducible rfl)
        focus (intro _ v wx hS hd; exact OpTo.does rfl (exec_loadK (b := N) (k := 23) (x := 20) rfl (hd 2 (by kernel_rfl)) ((H4.out.2.1.call hS).load 23 (nuV a.w) (by rfl) Tryd.underlying27 rfl (by kernel_rfl))) rfl (Below.refl _ _))
        focus (intro _ v wx hS hd; refine OpTo.does rfl ?_ rfl (Below.refl _ _); clear hd hS; go_simp; try with_reducible rfl)
        focus (intro _ v wx hS hd; exact OpTo.does rfl (exec_loadK (b := N) (k := 27) (x := 22) rfl (hd 4 (by kernel_rfl)) ((H4.out.2.1.call hS).load 27 (nuV a.c) (by rfl) Tryd.underlying27 rfl (by kernel_rfl))) rfl (Below.refl _ _))
        focus (intro _ v wx hS hd; refine OpTo.asks rfl (fun _ => rfl) (fun K hK => ?_); have d1 : v 1 = .agg (fvV).toArray := hd 1 (by kernel_rfl); have d3 : v 3 = .agg (nuV a.w).toArray := hd 3 (by kernel_rfl); have d5 : v 5 = .agg (nuV a.c).toArray := hd 5 (by kernel_rfl); simp only [d1, d3, d5] at hK ⊢; go_simp; refine (KT.out _).mono ?_; rintro e w' ⟨rfl, hq⟩; exact hK _ w' (rfl) hq)
        focus (intro _ v wx hS hd; exact OpTo.does rfl (exec_loadK (b := A4) (k := 0) (x := 6) rfl (rfl) ((H4.out.2.2.2.2.call hS).load 0 (fvV) (by rfl) Tryd.underlying69 rfl (by kernel_rfl))) rfl (Below.refl _ _))
        focus (intro _ v wx hS hd; refine OpTo.does rfl ?_ rfl (Below.refl _ _); clear hd hS; go_simp; try with_reducible rfl)
        focus (intro _ v wx hS hd; exact OpTo.does rfl (exec_loadK (b := (N + 1)) (k := 23) (x := 26) rfl (hd 8 (by kernel_rfl)) ((H4.out.2.2.1.call hS).load 23 (nuV b.w) (by rfl) Tryd.underlying27 rfl (by kernel_rfl))) rfl (Below.refl _ _))
        focus (intro _ v wx hS hd; refine OpTo.does rfl ?_ rfl (Below.refl _ _); clear hd hS; go_simp; try with_reducible rfl)
        focus (intro _ v wx hS hd; exact OpTo.does rfl (exec_loadK (b := (N + 1)) (k := 27) (x := 28) rfl (hd 10 (by kernel_rfl)) ((H4.out.2.2.1.call hS).load 27 (nuV b.c) (by rfl) Tryd.underlying27 rfl (by kernel_rfl))) rfl (Below.refl _ _))
        focus (intro _ v wx hS hd; refine OpTo.asks rfl (fun _ => rfl) (fun K hK => ?_); have d7 : v 7 = .agg (fvV).toArray := hd 7 (by kernel_rfl); have d9 : v 9 = .agg (nuV b.w).toArray := hd 9 (by kernel_rfl); have d11 : v 11 = .agg (nuV b.c).toArray := hd 11 (by kernel_rfl); simp only [d7, d9, d11] at hK ⊢; go_simp; refine (KU.out _).mono ?_; rintro e w' ⟨rfl, hq⟩; exact hK _ w' (rfl) hq)
        focus (intro _ v wx hS hd; refine OpTo.asks rfl (fun _ => rfl) (fun K hK => ?_); have d0 : v 0 = .agg (fvV).toArray := hd 0 (by kernel_rfl); have d6 : v 6 = .agg (nuV (tmN a)).toArray := hd 6 (by kernel_rfl); have d12 : v 12 = .agg (nuV (tmN b)).toArray := hd 12 (by kernel_rfl); simp only [d0, d6, d12] at hK ⊢; go_simp; refine (KD.out _).mono ?_; rintro e w' ⟨rfl, hq⟩; exact hK _ w' (rfl) hq)
        focus (intro _ v wx hS hd; refine OpTo.does (y := .pointer (some ⟨wx.heap.size, 0, none⟩)) (w1 := wx.alloc (.cells ([.int .u64 0, .int .u64 0, .int .u64 0, .int .u64 0] : List Value).toArray 27)) rfl ?_ ⟨_, rfl, hS.size, heap_alloc_last wx _⟩ (below_alloc0 (Below.refl _ _) _); (focus (go_simp; try rfl)))
      intro v w5 hS hd
      have d13 : v 13 = .agg (nuV d).toArray := hd 13 (by decide)
      obtain ⟨A5, e0, hz, hB⟩ := hd 14 (by decide)
      simp only [d13, e0]
      obtain ⟨W6, hW2⟩ : ∃ W, W = w5.setRow A5 (nuV d).toArray := ⟨_, rfl⟩
      have hT : (storeVar 27 ⟨A5, 0, none⟩ (.agg (nuV d).toArray)).run Tryd.prog w5 = .ok () W6 := by
        rw [hW2]
        exact run_storeVar_row w5 A5 27 27 _ (nuV d).toArray hB (by kernel_rfl) rfl (by kernel_rfl)
      have hb2 : Below W4.heap.size W4 W6 := by
        rw [hW2]
        exact below_setRowK hz _ hS
      have hB2 : Bk w.heap.size W6 A5 (nuV d) 27 := ⟨Nat.le_trans H4.out.1.size hz, by
        rw [hW2]
        exact setRow_heap _ _ _ _ _ _ hB⟩
      clear hW2
      refine tail_at (o := ?ozg4_8) ?hizg4_8 ?hwzg4_8 ?_
      case hizg4_8 => rw [List.getElem?_toArray]; exact rfl
      case hwzg4_8 => exact rfl
      refine act_storeK (b := A5) (k := 0) (x := 7) (y := 31) rfl rfl rfl hT ?_
      try simp only [Act.put]
      refine tail_end ?_
      have H5 : Hid (Below w.heap.size w W6 ∧ Bk w.heap.size W6 N (tdV a) 51 ∧ Bk w.heap.size W6 (N + 1) (tdV b) 51 ∧ Bk w.heap.size W6 (N + 1 + 1) [.int .u64 0, .int .u64 0, .int .u64 0, .int .u64 0] 27 ∧ Bk w.heap.size W6 A4 (fvV) 69 ∧ Bk w.heap.size W6 A5 (nuV d) 27) := ⟨below_call0 H4.out.1 hb2, H4.out.2.1.call hb2, H4.out.2.2.1.call hb2, H4.out.2.2.2.1.call hb2, H4.out.2.2.2.2.call hb2, hB2⟩
      clear hS hd hT hb2 hB2 hz hB d13 e0 H4
      go_upto_region 5 with fail
      have hq := HQ.out
      have hr := HR.out
      cases D1
      · have L3 : Hid ((loadVar 34 ⟨N, 0, none⟩).run Tryd.prog W6 = .ok (.agg (prV a).toArray) W6) := H5.out.2.1.load 0 (prV a) (by rfl) Tryd.underlying34 rfl (by kernel_rfl)
        have L4 : Hid ((loadVar 34 ⟨(N + 1), 0, none⟩).run Tryd.prog W6 = .ok (.agg (prV b).toArray) W6) := H5.out.2.2.1.load 0 (prV b) (by rfl) Tryd.underlying34 rfl (by kernel_rfl)
        have L5 : Hid ((loadVar 27 ⟨N, 19, none⟩).run Tryd.prog W6 = .ok (.agg (nuV a.f).toArray) W6) := H5.out.2.1.load 19 (nuV a.f) (by rfl) Tryd.underlying27 rfl (by kernel_rfl)
        have L6 : Hid ((loadVar 27 ⟨(N + 1), 19, none⟩).run Tryd.prog W6 = .ok (.agg (nuV b.f).toArray) W6) := H5.out.2.2.1.load 19 (nuV b.f) (by rfl) Tryd.underlying27 rfl (by kernel_rfl)
        go_upto_region 6 with (first | ((with_reducible refine load_tk (b := N) (k := 0) (x := 32) ?_ ?_ ?_ L3.out ?_); rfl; rfl; rfl) | ((with_reducible refine load_tk (b := (N + 1)) (k := 0) (x := 34) ?_ ?_ ?_ L4.out ?_); rfl; rfl; rfl) | ((with_reducible refine load_tk (b := N) (k := 19) (x := 38) ?_ ?_ ?_ L5.out ?_); rfl; rfl; rfl) | ((with_reducible refine load_tk (b := (N + 1)) (k := 19) (x := 40) ?_ ?_ ?_ L6.out ?_); rfl; rfl; rfl))
        clear L3 L4 L5 L6
        clear hq hr
        obtain ⟨rfl, rfl⟩ : E = 1 ∧ r = 0 := by
          have h := (lk_1 (a := a) (b := b) HE.out.2.2.1.symm HE.out.2.2.2.1.symm (by rw [HE.out.2.2.2.2.1]; rfl))
          exact ⟨HE.out.1.trans h.1, HE.out.2.1.trans h.2⟩
        clear HE
        have Q7 : Hid (∀ w, (Instr.build 27 #[]).run Tryd.prog w = .ok (.agg (nuV 0).toArray) w) := fun _ => by kernel_rfl
        obtain ⟨W7, hS, hb, hB⟩ := H5.out.2.2.2.1.put H5.out.1 (nuV 0) (by kernel_rfl) rfl (by kernel_rfl)
        have HS : Hid _ := hS
        have HB : Hid (Below w.heap.size w W7 ∧ Bk w.heap.size W7 (N + 1 + 1) (nuV 0) 27) := ⟨hb, hB⟩
        clear hS hb hB
        go_wp2_with (first | ((with_reducible refine build_tk (ty := 27) (parts := #[]) (ps := #[]) (vs := (nuV 0).toArray) ?_ ?_ ?_ (Q7.out _) ?_); rfl; rfl; (simp only [List.map_toArray, List.map_nil]; rfl)) | ((with_reducible refine store_tk (b := (N + 1 + 1)) (k := 0) (x := 4) (y := 48) ?_ ?_ ?_ ?_ HS.out ?_); rfl; rfl; rfl; rfl))
        have H6 : Hid (Below w.heap.size w W7 ∧ Bk w.heap.size W7 (N + 1 + 1) (nuV 0) 27) := ⟨HB.out.1, HB.out.2⟩
        clear HS HB Q7 H5
        have hld0 : (loadVar 27 ⟨(N + 1 + 1), 0, none⟩).run Tryd.prog W7 = .ok (.agg (nuV 0).toArray) W7 := H6.out.2.load 0 (nuV 0) (by rfl) Tryd.underlying27 rfl (by kernel_rfl)
        refine bodyPost_ret (v := .tuple #[.agg (nuV 0).toArray, .int .i64 1]) ?_ rfl ⟨rfl, H6.out.1⟩
        simp [results, Tryd.results12, asAddr, hld0]
      · cases D2
        · have L3 : Hid ((loadVar 34 ⟨N, 0, none⟩).run Tryd.prog W6 = .ok (.agg (prV a).toArray) W6) := H5.out.2.1.load 0 (prV a) (by rfl) Tryd.underlying34 rfl (by kernel_rfl)
          have L4 : Hid ((loadVar 34 ⟨(N + 1), 0, none⟩).run Tryd.prog W6 = .ok (.agg (prV b).toArray) W6) := H5.out.2.2.1.load 0 (prV b) (by rfl) Tryd.underlying34 rfl (by kernel_rfl)
          have L5 : Hid ((loadVar 27 ⟨N, 19, none⟩).run Tryd.prog W6 = .ok (.agg (nuV a.f).toArray) W6) := H5.out.2.1.load 19 (nuV a.f) (by rfl) Tryd.underlying27 rfl (by kernel_rfl)
          have L6 : Hid ((loadVar 27 ⟨(N + 1), 19, none⟩).run Tryd.prog W6 = .ok (.agg (nuV b.f).toArray) W6) := H5.out.2.2.1.load 19 (nuV b.f) (by rfl) Tryd.underlying27 rfl (by kernel_rfl)
          go_upto_region 6 with (first | ((with_reducible refine load_tk (b := N) (k := 0) (x := 32) ?_ ?_ ?_ L3.out ?_); rfl; rfl; rfl) | ((with_reducible refine load_tk (b := (N + 1)) (k := 0) (x := 34) ?_ ?_ ?_ L4.out ?_); rfl; rfl; rfl) | ((with_reducible refine load_tk (b := N) (k := 19) (x := 38) ?_ ?_ ?_ L5.out ?_); rfl; rfl; rfl) | ((with_reducible refine load_tk (b := (N + 1)) (k := 19) (x := 40) ?_ ?_ ?_ L6.out ?_); rfl; rfl; rfl))
          clear L3 L4 L5 L6
          clear hq hr
          obtain ⟨rfl, rfl⟩ : E = 1 ∧ r = 0 := by
            have h := (lk_1 (a := a) (b := b) HE.out.2.2.1.symm HE.out.2.2.2.1.symm (by rw [HE.out.2.2.2.2.1]; rfl))
            exact ⟨HE.out.1.trans h.1, HE.out.2.1.trans h.2⟩
          clear HE
          have Q7 : Hid (∀ w, (Instr.build 27 #[]).run Tryd.prog w = .ok (.agg (nuV 0).toArray) w) := fun _ => by kernel_rfl
          obtain ⟨W7, hS, hb, hB⟩ := H5.out.2.2.2.1.put H5.out.1 (nuV 0) (by kernel_rfl) rfl (by kernel_rfl)
          have HS : Hid _ := hS
          have HB : Hid (Below w.heap.size w W7 ∧ Bk w.heap.size W7 (N + 1 + 1) (nuV 0) 27) := ⟨hb, hB⟩
          clear hS hb hB
          go_wp2_with (first | ((with_reducible refine build_tk (ty := 27) (parts := #[]) (ps := #[]) (vs := (nuV 0).toArray) ?_ ?_ ?_ (Q7.out _) ?_); rfl; rfl; (simp only [List.map_toArray, List.map_nil]; rfl)) | ((with_reducible refine store_tk (b := (N + 1 + 1)) (k := 0) (x := 4) (y := 48) ?_ ?_ ?_ ?_ HS.out ?_); rfl; rfl; rfl; rfl))
          have H6 : Hid (Below w.heap.size w W7 ∧ Bk w.heap.size W7 (N + 1 + 1) (nuV 0) 27) := ⟨HB.out.1, HB.out.2⟩
          clear HS HB Q7 H5
          have hld0 : (loadVar 27 ⟨(N + 1 + 1), 0, none⟩).run Tryd.prog W7 = .ok (.agg (nuV 0).toArray) W7 := H6.out.2.load 0 (nuV 0) (by rfl) Tryd.underlying27 rfl (by kernel_rfl)
          refine bodyPost_ret (v := .tuple #[.agg (nuV 0).toArray, .int .i64 1]) ?_ rfl ⟨rfl, H6.out.1⟩
          simp [results, Tryd.results12, asAddr, hld0]
        · have L3 : Hid ((loadVar 34 ⟨N, 0, none⟩).run Tryd.prog W6 = .ok (.agg (prV a).toArray) W6) := H5.out.2.1.load 0 (prV a) (by rfl) Tryd.underlying34 rfl (by kernel_rfl)
          have L4 : Hid ((loadVar 34 ⟨(N + 1), 0, none⟩).run Tryd.prog W6 = .ok (.agg (prV b).toArray) W6) := H5.out.2.2.1.load 0 (prV b) (by rfl) Tryd.underlying34 rfl (by kernel_rfl)
          have L5 : Hid ((loadVar 27 ⟨N, 19, none⟩).run Tryd.prog W6 = .ok (.agg (nuV a.f).toArray) W6) := H5.out.2.1.load 19 (nuV a.f) (by rfl) Tryd.underlying27 rfl (by kernel_rfl)
          have L6 : Hid ((loadVar 27 ⟨(N + 1), 19, none⟩).run Tryd.prog W6 = .ok (.agg (nuV b.f).toArray) W6) := H5.out.2.2.1.load 19 (nuV b.f) (by rfl) Tryd.underlying27 rfl (by kernel_rfl)
          have L7 : Hid ((loadVar 27 ⟨A5, 0, none⟩).run Tryd.prog W6 = .ok (.agg (nuV d).toArray) W6) := H5.out.2.2.2.2.2.load 0 (nuV d) (by rfl) Tryd.underlying27 rfl (by kernel_rfl)
          go_wp2_with (first | ((with_reducible refine load_tk (b := N) (k := 0) (x := 32) ?_ ?_ ?_ L3.out ?_); rfl; rfl; rfl) | ((with_reducible refine load_tk (b := (N + 1)) (k := 0) (x := 34) ?_ ?_ ?_ L4.out ?_); rfl; rfl; rfl) | ((with_reducible refine load_tk (b := N) (k := 19) (x := 38) ?_ ?_ ?_ L5.out ?_); rfl; rfl; rfl) | ((with_reducible refine load_tk (b := (N + 1)) (k := 19) (x := 40) ?_ ?_ ?_ L6.out ?_); rfl; rfl; rfl) | ((with_reducible refine load_tk (b := A5) (k := 0) (x := 7) ?_ ?_ ?_ L7.out ?_); rfl; rfl; rfl))
          refine (KZ.out _).mono ?_
          rintro e w7 ⟨rfl, hb7⟩
          have H6 : Hid (Below w.heap.size w w7 ∧ Bk w.heap.size w7 N (tdV a) 51 ∧ Bk w.heap.size w7 (N + 1) (tdV b) 51 ∧ Bk w.heap.size w7 (N + 1 + 1) [.int .u64 0, .int .u64 0, .int .u64 0, .int .u64 0] 27 ∧ Bk w.heap.size w7 A4 (fvV) 69 ∧ Bk w.heap.size w7 A5 (nuV d) 27) := ⟨below_call0 H5.out.1 hb7, H5.out.2.1.call hb7, H5.out.2.2.1.call hb7, H5.out.2.2.2.1.call hb7, H5.out.2.2.2.2.1.call hb7, H5.out.2.2.2.2.2.call hb7⟩
          clear hb7 L3 L4 L5 L6 L7 H5
          clear hq hr
          cases D3
          · go_upto_region 7 with fail
            have hne : tmN a ≠ tmN b := of_decide_eq_false HE.out.2.2.2.2.2.1.symm
            have hl := lk_0 (a := a) (b := b) HE.out.2.2.1.symm HE.out.2.2.2.1.symm (by rw [HE.out.2.2.2.2.1]; rfl) hne
            obtain rfl : E = 0 := HE.out.1.trans hl.1
            obtain ⟨p, hp⟩ : ∃ p, p = subM QQ a.z b.z := ⟨_, rfl⟩
            obtain ⟨i, hi⟩ : ∃ i, i = d ^ (QQ - 2) % QQ := ⟨_, rfl⟩
            have oka := ok_lt HE.out.2.2.1.symm
            have okb := ok_lt HE.out.2.2.2.1.symm
            have hpr : p < R256 := by rw [hp]; exact QQ_RK (subM_ltK _ _ _ QQ_posK)
            have hir : i < R256 := by rw [hi]; exact QQ_RK (Nat.mod_lt _ QQ_posK)
            have KP : Hid (∀ w, Calls Tryd.prog 19 #[.agg fvV.toArray, .agg (nuV a.z).toArray, .agg (nuV b.z).toArray] w fun e w' => e = .returned (.agg (nuV p).toArray) ∧ Below w.heap.size w w') := fun w => by
              rw [hp]
              exact sub2_any QQ a.z b.z FM_Q.2.1 oka.2.2.2 okb.2.2.2 w
            have KI : Hid (∀ w, Calls Tryd.prog 22 #[.agg fvV.toArray, .agg (nuV d).toArray] w fun e w' => e = .returned (.agg (nuV i).toArray) ∧ Below w.heap.size w w') := fun w => by
              rw [hi]
              exact inv2_any QQ d FM_Q FS_Q (QQ_RK HE.out.2.2.2.2.2.2.2) w
            have hrr : r = p * i % QQ := by rw [HE.out.2.1, hl.2, hp, hi, HE.out.2.2.2.2.2.2.1]
            have KM : Hid (∀ w, Calls Tryd.prog 20 #[.agg fvV.toArray, .agg (nuV p).toArray, .agg (nuV i).toArray] w fun e w' => e = .returned (.agg (nuV r).toArray) ∧ Below w.heap.size w w') := fun w => by
              rw [hrr]
              exact mul2_any QQ p i FM_Q FS_Q hpr hir w
            clear hrr hpr hir oka okb hi hp hl hne HE
            refine wp_region_P 11 1 (OwL [isV (.agg (fvV).toArray), isV (.agg (fvV).toArray), isV (.pointer (some ⟨N, 31, none⟩)), isV (.agg (nuV a.z).toArray), isV (.pointer (some ⟨(N + 1), 31, none⟩)), isV (.agg (nuV b.z).toArray), isV (.agg (nuV p).toArray), isV (.agg (fvV).toArray), isV (.agg (nuV d).toArray), isV (.agg (nuV i).toArray), isV (.agg (nuV r).toArray)] false) [some 49, some 50, some 51, some 52, some 53, some 54, some 55, some 56, some 57, some 58, some 59] [0, 1, 2, 3, 4, 5, 6, 7, 8, 9, 10] ?Ag7_9 (by kernel_rfl) (by kernel_rfl) (by kernel_rfl) (by decide) ?hAg7_9 (OwL.call (pers_cons (pers_V _) (pers_cons (pers_V _) (pers_cons (pers_V _) (pers_cons (pers_V _) (pers_cons (pers_V _) (pers_cons (pers_V _) (pers_cons (pers_V _) (pers_cons (pers_V _) (pers_cons (pers_V _) (pers_cons (pers_V _) (pers_cons (pers_V _) (pers_nil)))))))))))) false) ?hopg7_9 ?hfing7_9
            case hAg7_9 =>
              intro v
              simp only [List.map_cons, List.map_nil, List.zip_cons_cons, List.zip_nil_right, fillD, Act.put, List.setIfInBounds_toArray, List.set_cons_zero, List.set_cons_succ]
              exact rfl
            case hopg7_9 =>
              refine ⟨?_, ?_, ?_, ?_, ?_, ?_, ?_, ?_, ?_, ?_, ?_, fun h => absurd h (by decide), fun h => absurd h (by decide), trivial⟩
              focus (intro _ v wx hS hd; exact OpTo.does rfl (exec_loadK (b := A4) (k := 0) (x := 6) rfl (rfl) ((H6.out.2.2.2.2.1.call hS).load 0 (fvV) (by rfl) Tryd.underlying69 rfl (by kernel_rfl))) rfl (Below.refl _ _))
              focus (intro _ v wx hS hd; exact OpTo.does rfl (exec_loadK (b := A4) (k := 0) (x := 6) rfl (rfl) ((H6.out.2.2.2.2.1.call hS).load 0 (fvV) (by rfl) Tryd.underlying69 rfl (by kernel_rfl))) rfl (Below.refl _ _))
              focus (intro _ v wx hS hd; refine OpTo.does rfl ?_ rfl (Below.refl _ _); clear hd hS; go_simp; try with_reducible rfl)
              focus (intro _ v wx hS hd; exact OpTo.does rfl (exec_loadK (b := N) (k := 31) (x := 51) rfl (hd 2 (by kernel_rfl)) ((H6.out.2.1.call hS).load 31 (nuV a.z) (by rfl) Tryd.underlying27 rfl (by kernel_rfl))) rfl (Below.refl _ _))
              focus (intro _ v wx hS hd; refine OpTo.does rfl ?_ rfl (Below.refl _ _); clear hd hS; go_simp; try with_reducible rfl)
              focus (intro _ v wx hS hd; exact OpTo.does rfl (exec_loadK (b := (N + 1)) (k := 31) (x := 53) rfl (hd 4 (by kernel_rfl)) ((H6.out.2.2.1.call hS).load 31 (nuV b.z) (by rfl) Tryd.underlying27 rfl (by kernel_rfl))) rfl (Below.refl _ _))
              focus (intro _ v wx hS hd; refine OpTo.asks rfl (fun _ => rfl) (fun K hK => ?_); have d1 : v 1 = .agg (fvV).toArray := hd 1 (by kernel_rfl); have d3 : v 3 = .agg (nuV a.z).toArray := hd 3 (by kernel_rfl); have d5 : v 5 = .agg (nuV b.z).toArray := hd 5 (by kernel_rfl); simp only [d1, d3, d5] at hK ⊢; go_simp; refine (KP.out _).mono ?_; rintro e w' ⟨rfl, hq⟩; exact hK _ w' (rfl) hq)
              focus (intro _ v wx hS hd; exact OpTo.does rfl (exec_loadK (b := A4) (k := 0) (x := 6) rfl (rfl) ((H6.out.2.2.2.2.1.call hS).load 0 (fvV) (by rfl) Tryd.underlying69 rfl (by kernel_rfl))) rfl (Below.refl _ _))
              focus (intro _ v wx hS hd; exact OpTo.does rfl (exec_loadK (b := A5) (k := 0) (x := 7) rfl (rfl) ((H6.out.2.2.2.2.2.call hS).load 0 (nuV d) (by rfl) Tryd.underlying27 rfl (by kernel_rfl))) rfl (Below.refl _ _))
              focus (intro _ v wx hS hd; refine OpTo.asks rfl (fun _ => rfl) (fun K hK => ?_); have d7 : v 7 = .agg (fvV).toArray := hd 7 (by kernel_rfl); have d8 : v 8 = .agg (nuV d).toArray := hd 8 (by kernel_rfl); simp only [d7, d8] at hK ⊢; go_simp; refine (KI.out _).mono ?_; rintro e w' ⟨rfl, hq⟩; exact hK _ w' (rfl) hq)
              focus (intro _ v wx hS hd; refine OpTo.asks rfl (fun _ => rfl) (fun K hK => ?_); have d0 : v 0 = .agg (fvV).toArray := hd 0 (by kernel_rfl); have d6 : v 6 = .agg (nuV p).toArray := hd 6 (by kernel_rfl); have d9 : v 9 = .agg (nuV i).toArray := hd 9 (by kernel_rfl); simp only [d0, d6, d9] at hK ⊢; go_simp; refine (KM.out _).mono ?_; rintro e w' ⟨rfl, hq⟩; exact hK _ w' (rfl) hq)
            intro v w8 hS hd
            have d10 : v 10 = .agg (nuV r).toArray := hd 10 (by decide)
            simp only [d10]
            obtain ⟨W9, hT, hb2, hB2⟩ := Bk.put (H6.out.2.2.2.1.call hS) (below_call0 H6.out.1 hS) (nuV r) (by kernel_rfl) rfl (by kernel_rfl)
            refine tail_at (o := ?ozg7_9) ?hizg7_9 ?hwzg7_9 ?_
            case hizg7_9 => rw [List.getElem?_toArray]; exact rfl
            case hwzg7_9 => exact rfl
            refine act_storeK (b := (N + 1 + 1)) (k := 0) (x := 4) (y := 59) rfl rfl rfl hT ?_
            try simp only [Act.put]
            refine tail_at (o := ?otg7_912) ?hitg7_912 ?hwtg7_912 ?_
            case hitg7_912 => rw [List.getElem?_toArray]; exact rfl
            case hwtg7_912 => exact rfl
            go_simp
            refine tail_end ?_
            have H7 : Hid (Below w.heap.size w W9 ∧ Bk w.heap.size W9 (N + 1 + 1) (nuV r) 27) := ⟨hb2, hB2⟩
            clear hS hd hT hb2 hB2 d10 H6
            go_wp2_with fail
            have hld0 : (loadVar 27 ⟨(N + 1 + 1), 0, none⟩).run Tryd.prog W9 = .ok (.agg (nuV r).toArray) W9 := H7.out.2.load 0 (nuV r) (by rfl) Tryd.underlying27 rfl (by kernel_rfl)
            refine bodyPost_ret (v := .tuple #[.agg (nuV r).toArray, .int .i64 0]) ?_ rfl ⟨rfl, H7.out.1⟩
            simp [results, Tryd.results12, asAddr, hld0]
          · go_upto_region 6 with fail
            obtain ⟨rfl, rfl⟩ : E = 1 ∧ r = 0 := by
              have h := (lk_1 (a := a) (b := b) HE.out.2.2.1.symm HE.out.2.2.2.1.symm (by rw [← HE.out.2.2.2.2.2.1, Bool.or_true]))
              exact ⟨HE.out.1.trans h.1, HE.out.2.1.trans h.2⟩
            clear HE
            have Q8 : Hid (∀ w, (Instr.build 27 #[]).run Tryd.prog w = .ok (.agg (nuV 0).toArray) w) := fun _ => by kernel_rfl
            obtain ⟨W8, hS, hb, hB⟩ := H6.out.2.2.2.1.put H6.out.1 (nuV 0) (by kernel_rfl) rfl (by kernel_rfl)
            have HS : Hid _ := hS
            have HB : Hid (Below w.heap.size w W8 ∧ Bk w.heap.size W8 (N + 1 + 1) (nuV 0) 27) := ⟨hb, hB⟩
            clear hS hb hB
            go_wp2_with (first | ((with_reducible refine build_tk (ty := 27) (parts := #[]) (ps := #[]) (vs := (nuV 0).toArray) ?_ ?_ ?_ (Q8.out _) ?_); rfl; rfl; (simp only [List.map_toArray, List.map_nil]; rfl)) | ((with_reducible refine store_tk (b := (N + 1 + 1)) (k := 0) (x := 4) (y := 48) ?_ ?_ ?_ ?_ HS.out ?_); rfl; rfl; rfl; rfl))
            have H7 : Hid (Below w.heap.size w W8 ∧ Bk w.heap.size W8 (N + 1 + 1) (nuV 0) 27) := ⟨HB.out.1, HB.out.2⟩
            clear HS HB Q8 H6
            have hld0 : (loadVar 27 ⟨(N + 1 + 1), 0, none⟩).run Tryd.prog W8 = .ok (.agg (nuV 0).toArray) W8 := H7.out.2.load 0 (nuV 0) (by rfl) Tryd.underlying27 rfl (by kernel_rfl)
            refine bodyPost_ret (v := .tuple #[.agg (nuV 0).toArray, .int .i64 1]) ?_ rfl ⟨rfl, H7.out.1⟩
            simp [results, Tryd.results12, asAddr, hld0]
end Go.Proofs.YtbpgiijdcagckaaDoor
