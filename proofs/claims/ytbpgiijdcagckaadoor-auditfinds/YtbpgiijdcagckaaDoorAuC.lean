/- Package audit: Leak. -/
import Derived.Test.YtbpgiijdcagckaaDoorAuB
import Derived.Test.YtbpgiijdcagckaaDoorAuQ
namespace Go.Proofs.YtbpgiijdcagckaaDoor
open Go Go.RowKit Go.Lib
def tmN (t : Td) : Nat := t.w * t.c % QQ
/-- What Leak tells: the error, the share of the key. -/
def lkE (a b : Td) : Int := if (a.ok && b.ok) = true then (if (!eqNo a b || decide (tmN a = tmN b)) = true then 1 else 0) else 20
def lkN (a b : Td) : Nat := if lkE a b = 0 then subM QQ a.z b.z * (subM QQ (tmN a) (tmN b) ^ (QQ - 2) % QQ) % QQ else 0
theorem tmN_lt (t : Td) : tmN t < QQ := Nat.mod_lt _ QQ_posK
theorem lk_20 {a b : Td} (h : (a.ok && b.ok) = false) : lkE a b = 20 ∧ lkN a b = 0 := by
  have e : lkE a b = 20 := by
    unfold lkE
    rw [h]
    rfl
  exact ⟨e, by unfold lkN; rw [e]; exact if_neg (by decide)⟩
theorem lk_1 {a b : Td} (h1 : a.ok = true) (h2 : b.ok = true) (h : (!eqNo a b || decide (tmN a = tmN b)) = true) : lkE a b = 1 ∧ lkN a b = 0 := by
  have e : lkE a b = 1 := by
    unfold lkE
    rw [h1, h2, h]
    rfl
  exact ⟨e, by unfold lkN; rw [e]; exact if_neg (by decide)⟩
theorem lk_0 {a b : Td} (h1 : a.ok = true) (h2 : b.ok = true) (h3 : eqNo a b = true) (h4 : tmN a ≠ tmN b) : lkE a b = 0 ∧ lkN a b = subM QQ a.z b.z * (subM QQ (tmN a) (tmN b) ^ (QQ - 2) % QQ) % QQ := by
  have e : lkE a b = 0 := by
    unfold lkE
    rw [h1, h2, h3, decide_eq_false h4]
    rfl
  exact ⟨e, by unfold lkN; rw [e]; exact if_pos rfl⟩
theorem ok_lt {t : Td} (h : t.ok = true) : t.f < QQ ∧ t.w < QQ ∧ t.c < QQ ∧ t.z < QQ := by
  unfold Td.ok at h
  simp only [Bool.and_eq_true, decide_eq_true_eq] at h
  exact ⟨h.1.1.1, h.1.1.2, h.1.2, h.2⟩
theorem sub_add_mod (q a b : Nat) (ha : a < q) (hb : b < q) : (subM q a b + b) % q = a := by
  have h : subM q a b = (a + q - b) % q := rfl
  rw [h, Nat.mod_add_mod, show a + q - b + b = a + q by omega, Nat.add_mod_right, Nat.mod_eq_of_lt ha]
theorem sub_ne {q x y : Nat} (hx : x < q) (hy : y < q) (h : x ≠ y) : subM q x y ≠ 0 := fun e => by
  have k := sub_add_mod q x y hx hy
  rw [e, Nat.zero_add, Nat.mod_eq_of_lt hy] at k
  exact h k.symm
set_option maxRecDepth 100000 in
set_option maxHeartbeats 400000 in
theorem leak_any (a b : Td) (r : Nat) (E : Int) (hRa : a.R) (hRb : b.R) (hE : E = lkE a b) (hr : r = lkN a b) (w : World) (hG : GlobQ w) : Calls Tryd.prog 14 #[.agg (tdV a).toArray, .agg (tdV b).toArray] w fun e w' => e = .returned (.tuple #[.agg (nuV r).toArray, .int .i64 E]) ∧ Below w.heap.size w w' := by
  obtain ⟨oa, hoa⟩ : ∃ o, o = a.ok := ⟨_, rfl⟩
  obtain ⟨ob, hob⟩ : ∃ o, o = b.ok := ⟨_, rfl⟩
  obtain ⟨D, hD⟩ : ∃ o, o = eqNo a b := ⟨_, rfl⟩
  obtain ⟨D2, hD2⟩ : ∃ o, o = decide (tmN a = tmN b) := ⟨_, rfl⟩
  have KA : Hid (∀ w, GlobQ w → Calls Tryd.prog 15 #[.agg (tdV a).toArray] w fun e w' => e = .returned (.bool oa) ∧ Below w.heap.size w w') := fun w h => by
    rw [hoa]
    exact isOf_any a hRa w h
  have KB : Hid (∀ w, GlobQ w → Calls Tryd.prog 15 #[.agg (tdV b).toArray] w fun e w' => e = .returned (.bool ob) ∧ Below w.heap.size w w') := fun w h => by
    rw [hob]
    exact isOf_any b hRb w h
  have KM : Hid (∀ w, Calls Tryd.prog 16 #[.agg (tdV a).toArray] w fun e w' => e = .returned (.agg (noV a).toArray) ∧ Below w.heap.size w w') := fun w => nonce_any a w
  have KN : Hid (∀ w, Calls Tryd.prog 16 #[.agg (tdV b).toArray] w fun e w' => e = .returned (.agg (noV b).toArray) ∧ Below w.heap.size w w') := fun w => nonce_any b w
  have HQ : Hid (∀ w : World, (Op.equalIn 10000 65 (.agg (noV a).toArray) (.agg (noV b).toArray)).run Tryd.prog w = .ok D w) := fun w => by
    rw [hD]
    exact run_no0 a b w
  have HR : Hid (∀ w : World, (Op.equalIn 10000 27 (.agg (nuV (tmN a)).toArray) (.agg (nuV (tmN b)).toArray)).run Tryd.prog w = .ok D2 w) := fun w => by
    rw [hD2, run_num0, eqn_iff (QQ_RK (tmN_lt a)) (QQ_RK (tmN_lt b))]
  have HE : Hid (E = lkE a b ∧ r = lkN a b ∧ oa = a.ok ∧ ob = b.ok ∧ D = eqNo a b ∧ D2 = decide (tmN a = tmN b)) := ⟨hE, hr, hoa, hob, hD, hD2⟩
  clear hE hr hoa hob hD hD2 hRa hRb
  obtain ⟨N, hN⟩ : ∃ N, N = w.heap.size := ⟨_, rfl⟩
  obtain ⟨W0, hW0⟩ : ∃ W, W = ((w.alloc (.cells (tdV a).toArray 54)).alloc (.cells (tdV b).toArray 54)).alloc (.cells #[.int .u64 0, .int .u64 0, .int .u64 0, .int .u64 0] 27) := ⟨_, rfl⟩
  have H0 : Hid (Below w.heap.size w W0 ∧ Bk w.heap.size W0 N (tdV a) 54 ∧ Bk w.heap.size W0 (N + 1) (tdV b) 54 ∧ Bk w.heap.size W0 (N + 1 + 1) [.int .u64 0, .int .u64 0, .int .u64 0, .int .u64 0] 27 ∧ GlobQ W0) := by
    have hb : Below w.heap.size w W0 := by
      rw [hW0]
      exact below_alloc0 (below_alloc0 (below_alloc0 (Below.refl _ _) _) _) _
    have e0 := Bk.mk0 (w) (tdV a) 54
    have a0 : Below (w).heap.size (w) (w.alloc (.cells (tdV a).toArray 54)) := below_alloc0 (Below.refl _ _) _
    have e1 := Bk.mk0 (w.alloc (.cells (tdV a).toArray 54)) (tdV b) 54
    have a1 : Below (w.alloc (.cells (tdV a).toArray 54)).heap.size (w.alloc (.cells (tdV a).toArray 54)) ((w.alloc (.cells (tdV a).toArray 54)).alloc (.cells (tdV b).toArray 54)) := below_alloc0 (Below.refl _ _) _
    simp only [World.size_alloc] at e1
    have e2 := Bk.mk0 ((w.alloc (.cells (tdV a).toArray 54)).alloc (.cells (tdV b).toArray 54)) [.int .u64 0, .int .u64 0, .int .u64 0, .int .u64 0] 27
    have a2 : Below ((w.alloc (.cells (tdV a).toArray 54)).alloc (.cells (tdV b).toArray 54)).heap.size ((w.alloc (.cells (tdV a).toArray 54)).alloc (.cells (tdV b).toArray 54)) (((w.alloc (.cells (tdV a).toArray 54)).alloc (.cells (tdV b).toArray 54)).alloc (.cells #[.int .u64 0, .int .u64 0, .int .u64 0, .int .u64 0] 27)) := below_alloc0 (Below.refl _ _) _
    simp only [World.size_alloc] at e2
    refine ⟨hb, ⟨?_, ?_⟩, ⟨?_, ?_⟩, ⟨?_, ?_⟩, hG.call hb⟩
    · exact Nat.le_of_eq hN.symm
    · rw [hW0, hN]
      exact ((e0.call a1).call a2).2
    · rw [hN]
      omega
    · rw [hW0, hN]
      exact (e1.call a2).2
    · rw [hN]
      omega
    · rw [hW0, hN]
      exact e2.2
  have HW : Hid (W0 = ((w.alloc (.cells (tdV a).toArray 54)).alloc (.cells (tdV b).toArray 54)).alloc (.cells #[.int .u64 0, .int .u64 0, .int .u64 0, .int .u64 0] 27) ∧ N = w.heap.size) := ⟨hW0, hN⟩
  clear hW0 hN hG
  go_enter Tryd.func14, Tryd.ntmps14
  go_upto_region 1 with fail
  rw [← HW.out.1, ← HW.out.2]
  clear HW
  cases oa
  · have L1 : Hid ((loadVar 54 ⟨N, 0, none⟩).run Tryd.prog W0 = .ok (.agg (tdV a).toArray) W0) := H0.out.2.1.load 0 (tdV a) (by rfl) Tryd.underlying54 rfl (by kernel_rfl)
    go_wp2_with ((with_reducible refine load_tk (b := N) (k := 0) (x := 2) ?_ ?_ ?_ L1.out ?_); rfl; rfl; rfl)
    refine (KA.out _ H0.out.2.2.2.2).mono ?_
    rintro e w1 ⟨rfl, hb1⟩
    have H1 : Hid (Below w.heap.size w w1 ∧ Bk w.heap.size w1 N (tdV a) 54 ∧ Bk w.heap.size w1 (N + 1) (tdV b) 54 ∧ Bk w.heap.size w1 (N + 1 + 1) [.int .u64 0, .int .u64 0, .int .u64 0, .int .u64 0] 27 ∧ GlobQ w1) := ⟨below_call0 H0.out.1 hb1, H0.out.2.1.call hb1, H0.out.2.2.1.call hb1, H0.out.2.2.2.1.call hb1, H0.out.2.2.2.2.call hb1⟩
    clear hb1 L1 H0
    go_upto_region 3 with fail
    obtain ⟨rfl, rfl⟩ : E = 20 ∧ r = 0 := by
      have h := (lk_20 (a := a) (b := b) (by rw [← HE.out.2.2.1]; rfl))
      exact ⟨HE.out.1.trans h.1, HE.out.2.1.trans h.2⟩
    clear HE
    have Q2 : Hid (∀ w, (Instr.build 27 #[]).run Tryd.prog w = .ok (.agg (nuV 0).toArray) w) := fun _ => by kernel_rfl
    obtain ⟨W2, hS, hb, hB⟩ := H1.out.2.2.2.1.put H1.out.1 (nuV 0) (by kernel_rfl) rfl (by kernel_rfl)
    have HS : Hid _ := hS
    have HB : Hid (Below w.heap.size w W2 ∧ Bk w.heap.size W2 (N + 1 + 1) (nuV 0) 27) := ⟨hb, hB⟩
    clear hS hb hB
    go_wp2_with (first | ((with_reducible refine build_tk (ty := 27) (parts := #[]) (ps := #[]) (vs := (nuV 0).toArray) ?_ ?_ ?_ (Q2.out _) ?_); rfl; rfl; (simp only [List.map_toArray, List.map_nil]; rfl)) | ((with_reducible refine store_tk (b := (N + 1 + 1)) (k := 0) (x := 4) (y := 13) ?_ ?_ ?_ ?_ HS.out ?_); rfl; rfl; rfl; rfl))
    have H2 : Hid (Below w.heap.size w W2 ∧ Bk w.heap.size W2 (N + 1 + 1) (nuV 0) 27) := ⟨HB.out.1, HB.out.2⟩
    clear HS HB Q2 H1
    have hld0 : (loadVar 27 ⟨(N + 1 + 1), 0, none⟩).run Tryd.prog W2 = .ok (.agg (nuV 0).toArray) W2 := H2.out.2.load 0 (nuV 0) (by rfl) Tryd.underlying27 rfl (by kernel_rfl)
    refine bodyPost_ret (v := .tuple #[.agg (nuV 0).toArray, .int .i64 20]) ?_ rfl ⟨rfl, H2.out.1⟩
    simp [results, Tryd.results14, asAddr, hld0]
  · have L1 : Hid ((loadVar 54 ⟨N, 0, none⟩).run Tryd.prog W0 = .ok (.agg (tdV a).toArray) W0) := H0.out.2.1.load 0 (tdV a) (by rfl) Tryd.underlying54 rfl (by kernel_rfl)
    go_wp2_with ((with_reducible refine load_tk (b := N) (k := 0) (x := 2) ?_ ?_ ?_ L1.out ?_); rfl; rfl; rfl)
    refine (KA.out _ H0.out.2.2.2.2).mono ?_
    rintro e w1 ⟨rfl, hb1⟩
    have H1 : Hid (Below w.heap.size w w1 ∧ Bk w.heap.size w1 N (tdV a) 54 ∧ Bk w.heap.size w1 (N + 1) (tdV b) 54 ∧ Bk w.heap.size w1 (N + 1 + 1) [.int .u64 0, .int .u64 0, .int .u64 0, .int .u64 0] 27 ∧ GlobQ w1) := ⟨below_call0 H0.out.1 hb1, H0.out.2.1.call hb1, H0.out.2.2.1.call hb1, H0.out.2.2.2.1.call hb1, H0.out.2.2.2.2.call hb1⟩
    clear hb1 L1 H0
    go_upto_region 2 with fail
    cases ob
    · have L2 : Hid ((loadVar 54 ⟨(N + 1), 0, none⟩).run Tryd.prog w1 = .ok (.agg (tdV b).toArray) w1) := H1.out.2.2.1.load 0 (tdV b) (by rfl) Tryd.underlying54 rfl (by kernel_rfl)
      go_wp2_with ((with_reducible refine load_tk (b := (N + 1)) (k := 0) (x := 3) ?_ ?_ ?_ L2.out ?_); rfl; rfl; rfl)
      refine (KB.out _ H1.out.2.2.2.2).mono ?_
      rintro e w2 ⟨rfl, hb2⟩
      have H2 : Hid (Below w.heap.size w w2 ∧ Bk w.heap.size w2 N (tdV a) 54 ∧ Bk w.heap.size w2 (N + 1) (tdV b) 54 ∧ Bk w.heap.size w2 (N + 1 + 1) [.int .u64 0, .int .u64 0, .int .u64 0, .int .u64 0] 27 ∧ GlobQ w2) := ⟨below_call0 H1.out.1 hb2, H1.out.2.1.call hb2, H1.out.2.2.1.call hb2, H1.out.2.2.2.1.call hb2, H1.out.2.2.2.2.call hb2⟩
      clear hb2 L2 H1
      go_upto_region 3 with fail
      obtain ⟨rfl, rfl⟩ : E = 20 ∧ r = 0 := by
        have h := (lk_20 (a := a) (b := b) (by rw [← HE.out.2.2.2.1, Bool.and_false]))
        exact ⟨HE.out.1.trans h.1, HE.out.2.1.trans h.2⟩
      clear HE
      have Q3 : Hid (∀ w, (Instr.build 27 #[]).run Tryd.prog w = .ok (.agg (nuV 0).toArray) w) := fun _ => by kernel_rfl
      obtain ⟨W3, hS, hb, hB⟩ := H2.out.2.2.2.1.put H2.out.1 (nuV 0) (by kernel_rfl) rfl (by kernel_rfl)
      have HS : Hid _ := hS
      have HB : Hid (Below w.heap.size w W3 ∧ Bk w.heap.size W3 (N + 1 + 1) (nuV 0) 27) := ⟨hb, hB⟩
      clear hS hb hB
      go_wp2_with (first | ((with_reducible refine build_tk (ty := 27) (parts := #[]) (ps := #[]) (vs := (nuV 0).toArray) ?_ ?_ ?_ (Q3.out _) ?_); rfl; rfl; (simp only [List.map_toArray, List.map_nil]; rfl)) | ((with_reducible refine store_tk (b := (N + 1 + 1)) (k := 0) (x := 4) (y := 13) ?_ ?_ ?_ ?_ HS.out ?_); rfl; rfl; rfl; rfl))
      have H3 : Hid (Below w.heap.size w W3 ∧ Bk w.heap.size W3 (N + 1 + 1) (nuV 0) 27) := ⟨HB.out.1, HB.out.2⟩
      clear HS HB Q3 H2
      have hld0 : (loadVar 27 ⟨(N + 1 + 1), 0, none⟩).run Tryd.prog W3 = .ok (.agg (nuV 0).toArray) W3 := H3.out.2.load 0 (nuV 0) (by rfl) Tryd.underlying27 rfl (by kernel_rfl)
      refine bodyPost_ret (v := .tuple #[.agg (nuV 0).toArray, .int .i64 20]) ?_ rfl ⟨rfl, H3.out.1⟩
      simp [results, Tryd.results14, asAddr, hld0]
    · have L2 : Hid ((loadVar 54 ⟨(N + 1), 0, none⟩).run Tryd.prog w1 = .ok (.agg (tdV b).toArray) w1) := H1.out.2.2.1.load 0 (tdV b) (by rfl) Tryd.underlying54 rfl (by kernel_rfl)
      go_wp2_with ((with_reducible refine load_tk (b := (N + 1)) (k := 0) (x := 3) ?_ ?_ ?_ L2.out ?_); rfl; rfl; rfl)
      refine (KB.out _ H1.out.2.2.2.2).mono ?_
      rintro e w2 ⟨rfl, hb2⟩
      have H2 : Hid (Below w.heap.size w w2 ∧ Bk w.heap.size w2 N (tdV a) 54 ∧ Bk w.heap.size w2 (N + 1) (tdV b) 54 ∧ Bk w.heap.size w2 (N + 1 + 1) [.int .u64 0, .int .u64 0, .int .u64 0, .int .u64 0] 27 ∧ GlobQ w2) := ⟨below_call0 H1.out.1 hb2, H1.out.2.1.call hb2, H1.out.2.2.1.call hb2, H1.out.2.2.2.1.call hb2, H1.out.2.2.2.2.call hb2⟩
      clear hb2 L2 H1
      go_upto_region 4 with fail
      have oka := ok_lt HE.out.2.2.1.symm
      have okb := ok_lt HE.out.2.2.2.1.symm
      have KT : Hid (∀ w, GlobQ w → Calls Tryd.prog 23 #[.agg (tdV a).toArray] w fun e w' => e = .returned (.agg (nuV (tmN a)).toArray) ∧ Below w.heap.size w w') := fun w h => times_ok a (tmN a) oka.2.1 oka.2.2.1 rfl w h
      have KU : Hid (∀ w, GlobQ w → Calls Tryd.prog 23 #[.agg (tdV b).toArray] w fun e w' => e = .returned (.agg (nuV (tmN b)).toArray) ∧ Below w.heap.size w w') := fun w h => times_ok b (tmN b) okb.2.1 okb.2.2.1 rfl w h
      have HO : Hid ((a.f < QQ ∧ a.w < QQ ∧ a.c < QQ ∧ a.z < QQ) ∧ (b.f < QQ ∧ b.w < QQ ∧ b.c < QQ ∧ b.z < QQ)) := ⟨oka, okb⟩
      clear oka okb
      cases D
      · refine wp_region_H (fun w' => Below w2.heap.size w2 w') 6 rfl (by kernel_rfl) ?_
        refine wpAnyH_take (i := 0) (oi := ?o0n4_3) (v := .agg (tdV a).toArray) ?hi0n4_3 (by kernel_rfl) (by kernel_rfl) (by kernel_rfl) ?hQ0n4_3 ?hy0n4_3 (Below.drew (Below.refl _ _)) ?more0n4_3
        case hi0n4_3 => rw [List.getElem?_toArray]; exact rfl
        case hQ0n4_3 => exact fun _ _ _ h => h
        case hy0n4_3 =>
          refine Or.inl ⟨by rfl, ?_⟩
          intro w' hSw
          exact exec_loadK (b := N) (k := 0) (x := 2) rfl rfl ((H2.out.2.1.call hSw).load 0 (tdV a) (by rfl) Tryd.underlying54 rfl (by kernel_rfl))
        simp only [Act.put, List.setIfInBounds_toArray, List.set_cons_zero, List.set_cons_succ]
        refine wpAnyH_take (i := 2) (oi := ?o2n4_3) (v := .agg (tdV b).toArray) ?hi2n4_3 (by kernel_rfl) (by kernel_rfl) (by kernel_rfl) ?hQ2n4_3 ?hy2n4_3 (Below.drew (Below.refl _ _)) ?more2n4_3
        case hi2n4_3 => rw [List.getElem?_toArray]; exact rfl
        case hQ2n4_3 => exact fun _ _ _ h => h
        case hy2n4_3 =>
          refine Or.inl ⟨by rfl, ?_⟩
          intro w' hSw
          exact exec_loadK (b := (N + 1)) (k := 0) (x := 3) rfl rfl ((H2.out.2.2.1.call hSw).load 0 (tdV b) (by rfl) Tryd.underlying54 rfl (by kernel_rfl))
        simp only [Act.put, List.setIfInBounds_toArray, List.set_cons_zero, List.set_cons_succ]
        refine wpAnyH_one (i := 1) (o := ?o1n4_3) (by kernel_rfl) ?hi1n4_3 ?hw1n4_3 ?st1n4_3
        case hi1n4_3 => rw [List.getElem?_toArray]; exact rfl
        case hw1n4_3 => exact rfl
        intro K hK
        have HK1n4_3 : Hid _ := hK
        clear hK
        go_simp
        refine (KM.out _).mono ?_
        rintro e w3 ⟨rfl, hb3⟩
        have I3 : Hid (Below w2.heap.size w2 w3) := below_call0 (Below.drew (Below.refl _ _)) hb3
        clear hb3
        go_wp2_with fail
        refine HK1n4_3.out _ _ ⟨I3.out, ?_⟩
        clear HK1n4_3 K
        try simp only [Act.put, List.setIfInBounds_toArray, List.set_cons_zero, List.set_cons_succ]
        refine wpAnyH_one (i := 3) (o := ?o3n4_3) (by kernel_rfl) ?hi3n4_3 ?hw3n4_3 ?st3n4_3
        case hi3n4_3 => rw [List.getElem?_toArray]; exact rfl
        case hw3n4_3 => exact rfl
        intro K hK
        have HK3n4_3 : Hid _ := hK
        clear hK
        go_simp
        refine (KN.out _).mono ?_
        rintro e w4 ⟨rfl, hb4⟩
        have I4 : Hid (Below w2.heap.size w2 w4) := below_call0 I3.out hb4
        clear hb4
        go_wp2_with fail
        refine HK3n4_3.out _ _ ⟨I4.out, ?_⟩
        clear HK3n4_3 K
        try simp only [Act.put, List.setIfInBounds_toArray, List.set_cons_zero, List.set_cons_succ]
        refine wpAnyH_take (i := 4) (oi := ?o4n4_3) (v := ?v4n4_3) ?hi4n4_3 (by kernel_rfl) (by kernel_rfl) (by kernel_rfl) ?hQ4n4_3 ?hy4n4_3 I4.out ?more4n4_3
        case hi4n4_3 => rw [List.getElem?_toArray]; exact rfl
        case hQ4n4_3 => exact fun _ _ _ h => h
        case hy4n4_3 =>
          refine Or.inl ⟨by rfl, ?_⟩
          intro w' hSw
          clear hSw
          have hq := HQ.out
          go_simp
          try with_reducible rfl
        simp only [Act.put, List.setIfInBounds_toArray, List.set_cons_zero, List.set_cons_succ]
        refine wpAnyH_take (i := 5) (oi := ?o5n4_3) (v := ?v5n4_3) ?hi5n4_3 (by kernel_rfl) (by kernel_rfl) (by kernel_rfl) ?hQ5n4_3 ?hy5n4_3 I4.out ?more5n4_3
        case hi5n4_3 => rw [List.getElem?_toArray]; exact rfl
        case hQ5n4_3 => exact fun _ _ _ h => h
        case hy5n4_3 =>
          refine Or.inl ⟨by rfl, ?_⟩
          intro w' hSw
          clear hSw
          go_simp
          try with_reducible rfl
        simp only [Act.put, List.setIfInBounds_toArray, List.set_cons_zero, List.set_cons_succ]
        refine wpAnyH_done (by kernel_rfl) ?_ _
        have H3 : Hid (Below w.heap.size w w4 ∧ Bk w.heap.size w4 N (tdV a) 54 ∧ Bk w.heap.size w4 (N + 1) (tdV b) 54 ∧ Bk w.heap.size w4 (N + 1 + 1) [.int .u64 0, .int .u64 0, .int .u64 0, .int .u64 0] 27 ∧ GlobQ w4) := ⟨below_call0 H2.out.1 I4.out, H2.out.2.1.call I4.out, H2.out.2.2.1.call I4.out, H2.out.2.2.2.1.call I4.out, H2.out.2.2.2.2.call I4.out⟩
        clear I3 I4 H2
        go_upto_region 6 with fail
        obtain ⟨rfl, rfl⟩ : E = 1 ∧ r = 0 := by
          have h := (lk_1 (a := a) (b := b) HE.out.2.2.1.symm HE.out.2.2.2.1.symm (by rw [← HE.out.2.2.2.2.1]; rfl))
          exact ⟨HE.out.1.trans h.1, HE.out.2.1.trans h.2⟩
        clear HE
        have Q3 : Hid (∀ w, (Instr.build 27 #[]).run Tryd.prog w = .ok (.agg (nuV 0).toArray) w) := fun _ => by kernel_rfl
        obtain ⟨W5, hS, hb, hB⟩ := H3.out.2.2.2.1.put H3.out.1 (nuV 0) (by kernel_rfl) rfl (by kernel_rfl)
        have HS : Hid _ := hS
        have HB : Hid (Below w.heap.size w W5 ∧ Bk w.heap.size W5 (N + 1 + 1) (nuV 0) 27) := ⟨hb, hB⟩
        clear hS hb hB
        go_wp2_with (first | ((with_reducible refine build_tk (ty := 27) (parts := #[]) (ps := #[]) (vs := (nuV 0).toArray) ?_ ?_ ?_ (Q3.out _) ?_); rfl; rfl; (simp only [List.map_toArray, List.map_nil]; rfl)) | ((with_reducible refine store_tk (b := (N + 1 + 1)) (k := 0) (x := 4) (y := 25) ?_ ?_ ?_ ?_ HS.out ?_); rfl; rfl; rfl; rfl))
        have H4 : Hid (Below w.heap.size w W5 ∧ Bk w.heap.size W5 (N + 1 + 1) (nuV 0) 27) := ⟨HB.out.1, HB.out.2⟩
        clear HS HB Q3 H3
        have hld0 : (loadVar 27 ⟨(N + 1 + 1), 0, none⟩).run Tryd.prog W5 = .ok (.agg (nuV 0).toArray) W5 := H4.out.2.load 0 (nuV 0) (by rfl) Tryd.underlying27 rfl (by kernel_rfl)
        refine bodyPost_ret (v := .tuple #[.agg (nuV 0).toArray, .int .i64 1]) ?_ rfl ⟨rfl, H4.out.1⟩
        simp [results, Tryd.results14, asAddr, hld0]
      · refine wp_region_H (fun w' => Below w2.heap.size w2 w') 6 rfl (by kernel_rfl) ?_
        refine wpAnyH_take (i := 0) (oi := ?o0n4_4) (v := .agg (tdV a).toArray) ?hi0n4_4 (by kernel_rfl) (by kernel_rfl) (by kernel_rfl) ?hQ0n4_4 ?hy0n4_4 (Below.drew (Below.refl _ _)) ?more0n4_4
        case hi0n4_4 => rw [List.getElem?_toArray]; exact rfl
        case hQ0n4_4 => exact fun _ _ _ h => h
        case hy0n4_4 =>
          refine Or.inl ⟨by rfl, ?_⟩
          intro w' hSw
          exact exec_loadK (b := N) (k := 0) (x := 2) rfl rfl ((H2.out.2.1.call hSw).load 0 (tdV a) (by rfl) Tryd.underlying54 rfl (by kernel_rfl))
        simp only [Act.put, List.setIfInBounds_toArray, List.set_cons_zero, List.set_cons_succ]
        refine wpAnyH_take (i := 2) (oi := ?o2n4_4) (v := .agg (tdV b).toArray) ?hi2n4_4 (by kernel_rfl) (by kernel_rfl) (by kernel_rfl) ?hQ2n4_4 ?hy2n4_4 (Below.drew (Below.refl _ _)) ?more2n4_4
        case hi2n4_4 => rw [List.getElem?_toArray]; exact rfl
        case hQ2n4_4 => exact fun _ _ _ h => h
        case hy2n4_4 =>
          refine Or.inl ⟨by rfl, ?_⟩
          intro w' hSw
          exact exec_loadK (b := (N + 1)) (k := 0) (x := 3) rfl rfl ((H2.out.2.2.1.call hSw).load 0 (tdV b) (by rfl) Tryd.underlying54 rfl (by kernel_rfl))
        simp only [Act.put, List.setIfInBounds_toArray, List.set_cons_zero, List.set_cons_succ]
        refine wpAnyH_one (i := 1) (o := ?o1n4_4) (by kernel_rfl) ?hi1n4_4 ?hw1n4_4 ?st1n4_4
        case hi1n4_4 => rw [List.getElem?_toArray]; exact rfl
        case hw1n4_4 => exact rfl
        intro K hK
        have HK1n4_4 : Hid _ := hK
        clear hK
        go_simp
        refine (KM.out _).mono ?_
        rintro e w3 ⟨rfl, hb3⟩
        have I3 : Hid (Below w2.heap.size w2 w3) := below_call0 (Below.drew (Below.refl _ _)) hb3
        clear hb3
        go_wp2_with fail
        refine HK1n4_4.out _ _ ⟨I3.out, ?_⟩
        clear HK1n4_4 K
        try simp only [Act.put, List.setIfInBounds_toArray, List.set_cons_zero, List.set_cons_succ]
        refine wpAnyH_one (i := 3) (o := ?o3n4_4) (by kernel_rfl) ?hi3n4_4 ?hw3n4_4 ?st3n4_4
        case hi3n4_4 => rw [List.getElem?_toArray]; exact rfl
        case hw3n4_4 => exact rfl
        intro K hK
        have HK3n4_4 : Hid _ := hK
        clear hK
        go_simp
        refine (KN.out _).mono ?_
        rintro e w4 ⟨rfl, hb4⟩
        have I4 : Hid (Below w2.heap.size w2 w4) := below_call0 I3.out hb4
        clear hb4
        go_wp2_with fail
        refine HK3n4_4.out _ _ ⟨I4.out, ?_⟩
        clear HK3n4_4 K
        try simp only [Act.put, List.setIfInBounds_toArray, List.set_cons_zero, List.set_cons_succ]
        refine wpAnyH_take (i := 4) (oi := ?o4n4_4) (v := ?v4n4_4) ?hi4n4_4 (by kernel_rfl) (by kernel_rfl) (by kernel_rfl) ?hQ4n4_4 ?hy4n4_4 I4.out ?more4n4_4
        case hi4n4_4 => rw [List.getElem?_toArray]; exact rfl
        case hQ4n4_4 => exact fun _ _ _ h => h
        case hy4n4_4 =>
          refine Or.inl ⟨by rfl, ?_⟩
          intro w' hSw
          clear hSw
          have hq := HQ.out
          go_simp
          try with_reducible rfl
        simp only [Act.put, List.setIfInBounds_toArray, List.set_cons_zero, List.set_cons_succ]
        refine wpAnyH_take (i := 5) (oi := ?o5n4_4) (v := ?v5n4_4) ?hi5n4_4 (by kernel_rfl) (by kernel_rfl) (by kernel_rfl) ?hQ5n4_4 ?hy5n4_4 I4.out ?more5n4_4
        case hi5n4_4 => rw [List.getElem?_toArray]; exact rfl
        case hQ5n4_4 => exact fun _ _ _ h => h
        case hy5n4_4 =>
          refine Or.inl ⟨by rfl, ?_⟩
          intro w' hSw
          clear hSw
          go_simp
          try with_reducible rfl
        simp only [Act.put, List.setIfInBounds_toArray, List.set_cons_zero, List.set_cons_succ]
        refine wpAnyH_done (by kernel_rfl) ?_ _
        have H3 : Hid (Below w.heap.size w w4 ∧ Bk w.heap.size w4 N (tdV a) 54 ∧ Bk w.heap.size w4 (N + 1) (tdV b) 54 ∧ Bk w.heap.size w4 (N + 1 + 1) [.int .u64 0, .int .u64 0, .int .u64 0, .int .u64 0] 27 ∧ GlobQ w4) := ⟨below_call0 H2.out.1 I4.out, H2.out.2.1.call I4.out, H2.out.2.2.1.call I4.out, H2.out.2.2.2.1.call I4.out, H2.out.2.2.2.2.call I4.out⟩
        clear I3 I4 H2
        go_upto_region 5 with fail
        cases D2
        · refine wp_region_H (fun w' => Below w4.heap.size w4 w') 6 rfl (by kernel_rfl) ?_
          refine wpAnyH_take (i := 0) (oi := ?o0n5_5) (v := .agg (tdV a).toArray) ?hi0n5_5 (by kernel_rfl) (by kernel_rfl) (by kernel_rfl) ?hQ0n5_5 ?hy0n5_5 (Below.drew (Below.refl _ _)) ?more0n5_5
          case hi0n5_5 => rw [List.getElem?_toArray]; exact rfl
          case hQ0n5_5 => exact fun _ _ _ h => h
          case hy0n5_5 =>
            refine Or.inl ⟨by rfl, ?_⟩
            intro w' hSw
            exact exec_loadK (b := N) (k := 0) (x := 2) rfl rfl ((H3.out.2.1.call hSw).load 0 (tdV a) (by rfl) Tryd.underlying54 rfl (by kernel_rfl))
          simp only [Act.put, List.setIfInBounds_toArray, List.set_cons_zero, List.set_cons_succ]
          refine wpAnyH_take (i := 2) (oi := ?o2n5_5) (v := .agg (tdV b).toArray) ?hi2n5_5 (by kernel_rfl) (by kernel_rfl) (by kernel_rfl) ?hQ2n5_5 ?hy2n5_5 (Below.drew (Below.refl _ _)) ?more2n5_5
          case hi2n5_5 => rw [List.getElem?_toArray]; exact rfl
          case hQ2n5_5 => exact fun _ _ _ h => h
          case hy2n5_5 =>
            refine Or.inl ⟨by rfl, ?_⟩
            intro w' hSw
            exact exec_loadK (b := (N + 1)) (k := 0) (x := 3) rfl rfl ((H3.out.2.2.1.call hSw).load 0 (tdV b) (by rfl) Tryd.underlying54 rfl (by kernel_rfl))
          simp only [Act.put, List.setIfInBounds_toArray, List.set_cons_zero, List.set_cons_succ]
          refine wpAnyH_one (i := 1) (o := ?o1n5_5) (by kernel_rfl) ?hi1n5_5 ?hw1n5_5 ?st1n5_5
          case hi1n5_5 => rw [List.getElem?_toArray]; exact rfl
          case hw1n5_5 => exact rfl
          intro K hK
          have HK1n5_5 : Hid _ := hK
          clear hK
          go_simp
          refine (KT.out _ (H3.out.2.2.2.2.call (Below.drew (Below.refl _ _)))).mono ?_
          rintro e w5 ⟨rfl, hb5⟩
          have I5 : Hid (Below w4.heap.size w4 w5) := below_call0 (Below.drew (Below.refl _ _)) hb5
          clear hb5
          go_wp2_with fail
          refine HK1n5_5.out _ _ ⟨I5.out, ?_⟩
          clear HK1n5_5 K
          try simp only [Act.put, List.setIfInBounds_toArray, List.set_cons_zero, List.set_cons_succ]
          refine wpAnyH_one (i := 3) (o := ?o3n5_5) (by kernel_rfl) ?hi3n5_5 ?hw3n5_5 ?st3n5_5
          case hi3n5_5 => rw [List.getElem?_toArray]; exact rfl
          case hw3n5_5 => exact rfl
          intro K hK
          have HK3n5_5 : Hid _ := hK
          clear hK
          go_simp
          refine (KU.out _ (H3.out.2.2.2.2.call I5.out)).mono ?_
          rintro e w6 ⟨rfl, hb6⟩
          have I6 : Hid (Below w4.heap.size w4 w6) := below_call0 I5.out hb6
          clear hb6
          go_wp2_with fail
          refine HK3n5_5.out _ _ ⟨I6.out, ?_⟩
          clear HK3n5_5 K
          try simp only [Act.put, List.setIfInBounds_toArray, List.set_cons_zero, List.set_cons_succ]
          refine wpAnyH_take (i := 4) (oi := ?o4n5_5) (v := ?v4n5_5) ?hi4n5_5 (by kernel_rfl) (by kernel_rfl) (by kernel_rfl) ?hQ4n5_5 ?hy4n5_5 I6.out ?more4n5_5
          case hi4n5_5 => rw [List.getElem?_toArray]; exact rfl
          case hQ4n5_5 => exact fun _ _ _ h => h
          case hy4n5_5 =>
            refine Or.inl ⟨by rfl, ?_⟩
            intro w' hSw
            clear hSw
            have hq := HR.out
            go_simp
            try with_reducible rfl
          simp only [Act.put, List.setIfInBounds_toArray, List.set_cons_zero, List.set_cons_succ]
          refine wpAnyH_take (i := 5) (oi := ?o5n5_5) (v := ?v5n5_5) ?hi5n5_5 (by kernel_rfl) (by kernel_rfl) (by kernel_rfl) ?hQ5n5_5 ?hy5n5_5 I6.out ?more5n5_5
          case hi5n5_5 => rw [List.getElem?_toArray]; exact rfl
          case hQ5n5_5 => exact fun _ _ _ h => h
          case hy5n5_5 =>
            refine Or.inl ⟨by rfl, ?_⟩
            intro w' hSw
            clear hSw
            go_simp
            try with_reducible rfl
          simp only [Act.put, List.setIfInBounds_toArray, List.set_cons_zero, List.set_cons_succ]
          refine wpAnyH_done (by kernel_rfl) ?_ _
          have H4 : Hid (Below w.heap.size w w6 ∧ Bk w.heap.size w6 N (tdV a) 54 ∧ Bk w.heap.size w6 (N + 1) (tdV b) 54 ∧ Bk w.heap.size w6 (N + 1 + 1) [.int .u64 0, .int .u64 0, .int .u64 0, .int .u64 0] 27 ∧ GlobQ w6) := ⟨below_call0 H3.out.1 I6.out, H3.out.2.1.call I6.out, H3.out.2.2.1.call I6.out, H3.out.2.2.2.1.call I6.out, H3.out.2.2.2.2.call I6.out⟩
          clear I5 I6 H3
          go_upto_region 7 with fail
          have hne : tmN a ≠ tmN b := of_decide_eq_false HE.out.2.2.2.2.2.symm
          obtain rfl : E = 0 := HE.out.1.trans (lk_0 HE.out.2.2.1.symm HE.out.2.2.2.1.symm HE.out.2.2.2.2.1.symm hne).1
          have KX : Hid (∀ w, GlobQ w → Calls Tryd.prog 24 #[.agg (tdV a).toArray, .agg (tdV b).toArray] w fun e w' => e = .returned (.agg (nuV r).toArray) ∧ Below w.heap.size w w') := fun w h => secret_ok a b (tmN a) (tmN b) _ _ _ r HO.out.1.2.1 HO.out.1.2.2.1 HO.out.1.2.2.2 HO.out.2.2.1 HO.out.2.2.2.1 HO.out.2.2.2.2 rfl rfl rfl rfl (sub_ne (tmN_lt a) (tmN_lt b) hne) rfl (HE.out.2.1.trans (lk_0 HE.out.2.2.1.symm HE.out.2.2.2.1.symm HE.out.2.2.2.2.1.symm hne).2) w h
          clear HE HO hne
          have L3 : Hid ((loadVar 54 ⟨N, 0, none⟩).run Tryd.prog w6 = .ok (.agg (tdV a).toArray) w6) := H4.out.2.1.load 0 (tdV a) (by rfl) Tryd.underlying54 rfl (by kernel_rfl)
          have L4 : Hid ((loadVar 54 ⟨(N + 1), 0, none⟩).run Tryd.prog w6 = .ok (.agg (tdV b).toArray) w6) := H4.out.2.2.1.load 0 (tdV b) (by rfl) Tryd.underlying54 rfl (by kernel_rfl)
          go_wp2_with (first | ((with_reducible refine load_tk (b := N) (k := 0) (x := 2) ?_ ?_ ?_ L3.out ?_); rfl; rfl; rfl) | ((with_reducible refine load_tk (b := (N + 1)) (k := 0) (x := 3) ?_ ?_ ?_ L4.out ?_); rfl; rfl; rfl))
          refine (KX.out _ H4.out.2.2.2.2).mono ?_
          rintro e w7 ⟨rfl, hb7⟩
          have H5 : Hid (Below w.heap.size w w7 ∧ Bk w.heap.size w7 N (tdV a) 54 ∧ Bk w.heap.size w7 (N + 1) (tdV b) 54 ∧ Bk w.heap.size w7 (N + 1 + 1) [.int .u64 0, .int .u64 0, .int .u64 0, .int .u64 0] 27 ∧ GlobQ w7) := ⟨below_call0 H4.out.1 hb7, H4.out.2.1.call hb7, H4.out.2.2.1.call hb7, H4.out.2.2.2.1.call hb7, H4.out.2.2.2.2.call hb7⟩
          clear hb7 L3 L4 H4
          obtain ⟨W8, hS, hb, hB⟩ := H5.out.2.2.2.1.put H5.out.1 (nuV r) (by kernel_rfl) rfl (by kernel_rfl)
          have HS : Hid _ := hS
          have HB : Hid (Below w.heap.size w W8 ∧ Bk w.heap.size W8 (N + 1 + 1) (nuV r) 27) := ⟨hb, hB⟩
          clear hS hb hB
          go_wp2_with ((with_reducible refine store_tk (b := (N + 1 + 1)) (k := 0) (x := 4) (y := 28) ?_ ?_ ?_ ?_ HS.out ?_); rfl; rfl; rfl; rfl)
          have H6 : Hid (Below w.heap.size w W8 ∧ Bk w.heap.size W8 (N + 1 + 1) (nuV r) 27) := ⟨HB.out.1, HB.out.2⟩
          clear HS HB H5
          have hld0 : (loadVar 27 ⟨(N + 1 + 1), 0, none⟩).run Tryd.prog W8 = .ok (.agg (nuV r).toArray) W8 := H6.out.2.load 0 (nuV r) (by rfl) Tryd.underlying27 rfl (by kernel_rfl)
          refine bodyPost_ret (v := .tuple #[.agg (nuV r).toArray, .int .i64 0]) ?_ rfl ⟨rfl, H6.out.1⟩
          simp [results, Tryd.results14, asAddr, hld0]
        · refine wp_region_H (fun w' => Below w4.heap.size w4 w') 6 rfl (by kernel_rfl) ?_
          refine wpAnyH_take (i := 0) (oi := ?o0n5_6) (v := .agg (tdV a).toArray) ?hi0n5_6 (by kernel_rfl) (by kernel_rfl) (by kernel_rfl) ?hQ0n5_6 ?hy0n5_6 (Below.drew (Below.refl _ _)) ?more0n5_6
          case hi0n5_6 => rw [List.getElem?_toArray]; exact rfl
          case hQ0n5_6 => exact fun _ _ _ h => h
          case hy0n5_6 =>
            refine Or.inl ⟨by rfl, ?_⟩
            intro w' hSw
            exact exec_loadK (b := N) (k := 0) (x := 2) rfl rfl ((H3.out.2.1.call hSw).load 0 (tdV a) (by rfl) Tryd.underlying54 rfl (by kernel_rfl))
          simp only [Act.put, List.setIfInBounds_toArray, List.set_cons_zero, List.set_cons_succ]
          refine wpAnyH_take (i := 2) (oi := ?o2n5_6) (v := .agg (tdV b).toArray) ?hi2n5_6 (by kernel_rfl) (by kernel_rfl) (by kernel_rfl) ?hQ2n5_6 ?hy2n5_6 (Below.drew (Below.refl _ _)) ?more2n5_6
          case hi2n5_6 => rw [List.getElem?_toArray]; exact rfl
          case hQ2n5_6 => exact fun _ _ _ h => h
          case hy2n5_6 =>
            refine Or.inl ⟨by rfl, ?_⟩
            intro w' hSw
            exact exec_loadK (b := (N + 1)) (k := 0) (x := 3) rfl rfl ((H3.out.2.2.1.call hSw).load 0 (tdV b) (by rfl) Tryd.underlying54 rfl (by kernel_rfl))
          simp only [Act.put, List.setIfInBounds_toArray, List.set_cons_zero, List.set_cons_succ]
          refine wpAnyH_one (i := 1) (o := ?o1n5_6) (by kernel_rfl) ?hi1n5_6 ?hw1n5_6 ?st1n5_6
          case hi1n5_6 => rw [List.getElem?_toArray]; exact rfl
          case hw1n5_6 => exact rfl
          intro K hK
          have HK1n5_6 : Hid _ := hK
          clear hK
          go_simp
          refine (KT.out _ (H3.out.2.2.2.2.call (Below.drew (Below.refl _ _)))).mono ?_
          rintro e w5 ⟨rfl, hb5⟩
          have I5 : Hid (Below w4.heap.size w4 w5) := below_call0 (Below.drew (Below.refl _ _)) hb5
          clear hb5
          go_wp2_with fail
          refine HK1n5_6.out _ _ ⟨I5.out, ?_⟩
          clear HK1n5_6 K
          try simp only [Act.put, List.setIfInBounds_toArray, List.set_cons_zero, List.set_cons_succ]
          refine wpAnyH_one (i := 3) (o := ?o3n5_6) (by kernel_rfl) ?hi3n5_6 ?hw3n5_6 ?st3n5_6
          case hi3n5_6 => rw [List.getElem?_toArray]; exact rfl
          case hw3n5_6 => exact rfl
          intro K hK
          have HK3n5_6 : Hid _ := hK
          clear hK
          go_simp
          refine (KU.out _ (H3.out.2.2.2.2.call I5.out)).mono ?_
          rintro e w6 ⟨rfl, hb6⟩
          have I6 : Hid (Below w4.heap.size w4 w6) := below_call0 I5.out hb6
          clear hb6
          go_wp2_with fail
          refine HK3n5_6.out _ _ ⟨I6.out, ?_⟩
          clear HK3n5_6 K
          try simp only [Act.put, List.setIfInBounds_toArray, List.set_cons_zero, List.set_cons_succ]
          refine wpAnyH_take (i := 4) (oi := ?o4n5_6) (v := ?v4n5_6) ?hi4n5_6 (by kernel_rfl) (by kernel_rfl) (by kernel_rfl) ?hQ4n5_6 ?hy4n5_6 I6.out ?more4n5_6
          case hi4n5_6 => rw [List.getElem?_toArray]; exact rfl
          case hQ4n5_6 => exact fun _ _ _ h => h
          case hy4n5_6 =>
            refine Or.inl ⟨by rfl, ?_⟩
            intro w' hSw
            clear hSw
            have hq := HR.out
            go_simp
            try with_reducible rfl
          simp only [Act.put, List.setIfInBounds_toArray, List.set_cons_zero, List.set_cons_succ]
          refine wpAnyH_take (i := 5) (oi := ?o5n5_6) (v := ?v5n5_6) ?hi5n5_6 (by kernel_rfl) (by kernel_rfl) (by kernel_rfl) ?hQ5n5_6 ?hy5n5_6 I6.out ?more5n5_6
          case hi5n5_6 => rw [List.getElem?_toArray]; exact rfl
          case hQ5n5_6 => exact fun _ _ _ h => h
          case hy5n5_6 =>
            refine Or.inl ⟨by rfl, ?_⟩
            intro w' hSw
            clear hSw
            go_simp
            try with_reducible rfl
          simp only [Act.put, List.setIfInBounds_toArray, List.set_cons_zero, List.set_cons_succ]
          refine wpAnyH_done (by kernel_rfl) ?_ _
          have H4 : Hid (Below w.heap.size w w6 ∧ Bk w.heap.size w6 N (tdV a) 54 ∧ Bk w.heap.size w6 (N + 1) (tdV b) 54 ∧ Bk w.heap.size w6 (N + 1 + 1) [.int .u64 0, .int .u64 0, .int .u64 0, .int .u64 0] 27 ∧ GlobQ w6) := ⟨below_call0 H3.out.1 I6.out, H3.out.2.1.call I6.out, H3.out.2.2.1.call I6.out, H3.out.2.2.2.1.call I6.out, H3.out.2.2.2.2.call I6.out⟩
          clear I5 I6 H3
          go_upto_region 6 with fail
          obtain ⟨rfl, rfl⟩ : E = 1 ∧ r = 0 := by
            have h := (lk_1 (a := a) (b := b) HE.out.2.2.1.symm HE.out.2.2.2.1.symm (by rw [← HE.out.2.2.2.2.2, Bool.or_true]))
            exact ⟨HE.out.1.trans h.1, HE.out.2.1.trans h.2⟩
          clear HE
          have Q3 : Hid (∀ w, (Instr.build 27 #[]).run Tryd.prog w = .ok (.agg (nuV 0).toArray) w) := fun _ => by kernel_rfl
          obtain ⟨W7, hS, hb, hB⟩ := H4.out.2.2.2.1.put H4.out.1 (nuV 0) (by kernel_rfl) rfl (by kernel_rfl)
          have HS : Hid _ := hS
          have HB : Hid (Below w.heap.size w W7 ∧ Bk w.heap.size W7 (N + 1 + 1) (nuV 0) 27) := ⟨hb, hB⟩
          clear hS hb hB
          go_wp2_with (first | ((with_reducible refine build_tk (ty := 27) (parts := #[]) (ps := #[]) (vs := (nuV 0).toArray) ?_ ?_ ?_ (Q3.out _) ?_); rfl; rfl; (simp only [List.map_toArray, List.map_nil]; rfl)) | ((with_reducible refine store_tk (b := (N + 1 + 1)) (k := 0) (x := 4) (y := 25) ?_ ?_ ?_ ?_ HS.out ?_); rfl; rfl; rfl; rfl))
          have H5 : Hid (Below w.heap.size w W7 ∧ Bk w.heap.size W7 (N + 1 + 1) (nuV 0) 27) := ⟨HB.out.1, HB.out.2⟩
          clear HS HB Q3 H4
          have hld0 : (loadVar 27 ⟨(N + 1 + 1), 0, none⟩).run Tryd.prog W7 = .ok (.agg (nuV 0).toArray) W7 := H5.out.2.load 0 (nuV 0) (by rfl) Tryd.underlying27 rfl (by kernel_rfl)
          refine bodyPost_ret (v := .tuple #[.agg (nuV 0).toArray, .int .i64 1]) ?_ rfl ⟨rfl, H5.out.1⟩
          simp [results, Tryd.results14, asAddr, hld0]
end Go.Proofs.YtbpgiijdcagckaaDoor
