/- The reference's curve: which points are points; a point with a denominator, and without. -/
import Derived.Test.YtgmfecncfekjfaaDoorRf3A
namespace Go.Proofs.YtgmfecncfekjfaaDoor
open Go Go.RowKit Go.Lib
attribute [local go_sem] run_eq4

set_option maxRecDepth 100000 in
set_option maxHeartbeats 4000000 in
theorem is3_i0 (x y : Nat) (hX : x < R256) (hY : y < R256) (hx : x = 0) (hy : y = 0) (w : World) :
    Calls Tryd.prog 12 #[.agg #[.int .u64 (limb (x) 0 : Nat), .int .u64 (limb (x) 1 : Nat), .int .u64 (limb (x) 2 : Nat), .int .u64 (limb (x) 3 : Nat), .int .u64 (limb (y) 0 : Nat), .int .u64 (limb (y) 1 : Nat), .int .u64 (limb (y) 2 : Nat), .int .u64 (limb (y) 3 : Nat), .bool true]] w fun e w' => e = .returned (.bool true) ∧ Below w.heap.size w w' := by
  have K1 : Hid (rfZ x true) := rfZ_of hX (decide_eq_true hx)
  have K2 : Hid (rfZ y true) := rfZ_of hY (decide_eq_true hy)
  obtain ⟨w0, hw0⟩ : ∃ wq, wq = (w.alloc (.cells #[.int .u64 (limb (x) 0 : Nat), .int .u64 (limb (x) 1 : Nat), .int .u64 (limb (x) 2 : Nat), .int .u64 (limb (x) 3 : Nat), .int .u64 (limb (y) 0 : Nat), .int .u64 (limb (y) 1 : Nat), .int .u64 (limb (y) 2 : Nat), .int .u64 (limb (y) 3 : Nat), .bool true] 26)) := ⟨_, rfl⟩
  have H0 : Hid (OwnC w0 (w.heap.size) (ptL x y true)) ∧ Hid (Below w.heap.size w w0) := by
    rw [hw0]
    exact ⟨(OwnC.new' rfl), below_alloc0 (Below.refl _ _) _⟩
  obtain ⟨P0_0, W_0⟩ := H0
  clear hX hY hx hy
  go_enter Tryd.func12, Tryd.ntmps12
  go_upto_region 1 with fail
  rw [← hw0]
  clear hw0
  obtain ⟨iP0z, iP00, iP01, iP02, iP03, iP04, iP05, iP06, iP07, iP08, iP0f⟩ := (P0_0.out).pt
  go_upto_region 2 with fail
  clear iP0z iP00 iP01 iP02 iP03 iP04 iP05 iP06 iP07 iP08 iP0f
  obtain ⟨fP0z, fP00, fP01, fP02, fP03, fP04, fP05, fP06, fP07, fP08, fP0f⟩ := (P0_0.out).pt
  go_wp2_with fail
  clear fP0z fP00 fP01 fP02 fP03 fP04 fP05 fP06 fP07 fP08 fP0f
  refine (K1.out _).mono ?_
  rintro e w1 ⟨rfl, hq⟩
  have P0_1 : Hid (OwnC w1 (w.heap.size) (ptL x y true)) := OwnC.call P0_0.out hq
  have W_1 : Hid (Below w.heap.size w w1) := below_call0 W_0.out hq
  clear hq P0_0 W_0
  obtain ⟨fP0z, fP00, fP01, fP02, fP03, fP04, fP05, fP06, fP07, fP08, fP0f⟩ := (P0_1.out).pt
  go_wp2_with fail
  clear fP0z fP00 fP01 fP02 fP03 fP04 fP05 fP06 fP07 fP08 fP0f
  refine (K2.out _).mono ?_
  rintro e w2 ⟨rfl, hq⟩
  have P0_2 : Hid (OwnC w2 (w.heap.size) (ptL x y true)) := OwnC.call P0_1.out hq
  have W_2 : Hid (Below w.heap.size w w2) := below_call0 W_1.out hq
  clear hq P0_1 W_1
  go_wp2_with fail
  go_ret
  exact ⟨rfl, W_2.out⟩
set_option maxRecDepth 100000 in
set_option maxHeartbeats 4000000 in
theorem is3_ix (x y : Nat) (hX : x < R256) (_hY : y < R256) (hx : x ≠ 0) (w : World) :
    Calls Tryd.prog 12 #[.agg #[.int .u64 (limb (x) 0 : Nat), .int .u64 (limb (x) 1 : Nat), .int .u64 (limb (x) 2 : Nat), .int .u64 (limb (x) 3 : Nat), .int .u64 (limb (y) 0 : Nat), .int .u64 (limb (y) 1 : Nat), .int .u64 (limb (y) 2 : Nat), .int .u64 (limb (y) 3 : Nat), .bool true]] w fun e w' => e = .returned (.bool false) ∧ Below w.heap.size w w' := by
  have K1 : Hid (rfZ x false) := rfZ_of hX (decide_eq_false hx)
  obtain ⟨w0, hw0⟩ : ∃ wq, wq = (w.alloc (.cells #[.int .u64 (limb (x) 0 : Nat), .int .u64 (limb (x) 1 : Nat), .int .u64 (limb (x) 2 : Nat), .int .u64 (limb (x) 3 : Nat), .int .u64 (limb (y) 0 : Nat), .int .u64 (limb (y) 1 : Nat), .int .u64 (limb (y) 2 : Nat), .int .u64 (limb (y) 3 : Nat), .bool true] 26)) := ⟨_, rfl⟩
  have H0 : Hid (OwnC w0 (w.heap.size) (ptL x y true)) ∧ Hid (Below w.heap.size w w0) := by
    rw [hw0]
    exact ⟨(OwnC.new' rfl), below_alloc0 (Below.refl _ _) _⟩
  obtain ⟨P0_0, W_0⟩ := H0
  clear hX hx
  go_enter Tryd.func12, Tryd.ntmps12
  go_upto_region 1 with fail
  rw [← hw0]
  clear hw0
  obtain ⟨iP0z, iP00, iP01, iP02, iP03, iP04, iP05, iP06, iP07, iP08, iP0f⟩ := (P0_0.out).pt
  go_upto_region 2 with fail
  clear iP0z iP00 iP01 iP02 iP03 iP04 iP05 iP06 iP07 iP08 iP0f
  obtain ⟨fP0z, fP00, fP01, fP02, fP03, fP04, fP05, fP06, fP07, fP08, fP0f⟩ := (P0_0.out).pt
  go_wp2_with fail
  clear fP0z fP00 fP01 fP02 fP03 fP04 fP05 fP06 fP07 fP08 fP0f
  refine (K1.out _).mono ?_
  rintro e w1 ⟨rfl, hq⟩
  have P0_1 : Hid (OwnC w1 (w.heap.size) (ptL x y true)) := OwnC.call P0_0.out hq
  have W_1 : Hid (Below w.heap.size w w1) := below_call0 W_0.out hq
  clear hq P0_0 W_0
  go_wp2_with fail
  go_ret
  exact ⟨rfl, W_1.out⟩
set_option maxRecDepth 100000 in
set_option maxHeartbeats 4000000 in
theorem is3_iy (x y : Nat) (hX : x < R256) (hY : y < R256) (hx : x = 0) (hy : y ≠ 0) (w : World) :
    Calls Tryd.prog 12 #[.agg #[.int .u64 (limb (x) 0 : Nat), .int .u64 (limb (x) 1 : Nat), .int .u64 (limb (x) 2 : Nat), .int .u64 (limb (x) 3 : Nat), .int .u64 (limb (y) 0 : Nat), .int .u64 (limb (y) 1 : Nat), .int .u64 (limb (y) 2 : Nat), .int .u64 (limb (y) 3 : Nat), .bool true]] w fun e w' => e = .returned (.bool false) ∧ Below w.heap.size w w' := by
  have K1 : Hid (rfZ x true) := rfZ_of hX (decide_eq_true hx)
  have K2 : Hid (rfZ y false) := rfZ_of hY (decide_eq_false hy)
  obtain ⟨w0, hw0⟩ : ∃ wq, wq = (w.alloc (.cells #[.int .u64 (limb (x) 0 : Nat), .int .u64 (limb (x) 1 : Nat), .int .u64 (limb (x) 2 : Nat), .int .u64 (limb (x) 3 : Nat), .int .u64 (limb (y) 0 : Nat), .int .u64 (limb (y) 1 : Nat), .int .u64 (limb (y) 2 : Nat), .int .u64 (limb (y) 3 : Nat), .bool true] 26)) := ⟨_, rfl⟩
  have H0 : Hid (OwnC w0 (w.heap.size) (ptL x y true)) ∧ Hid (Below w.heap.size w w0) := by
    rw [hw0]
    exact ⟨(OwnC.new' rfl), below_alloc0 (Below.refl _ _) _⟩
  obtain ⟨P0_0, W_0⟩ := H0
  clear hX hY hx hy
  go_enter Tryd.func12, Tryd.ntmps12
  go_upto_region 1 with fail
  rw [← hw0]
  clear hw0
  obtain ⟨iP0z, iP00, iP01, iP02, iP03, iP04, iP05, iP06, iP07, iP08, iP0f⟩ := (P0_0.out).pt
  go_upto_region 2 with fail
  clear iP0z iP00 iP01 iP02 iP03 iP04 iP05 iP06 iP07 iP08 iP0f
  obtain ⟨fP0z, fP00, fP01, fP02, fP03, fP04, fP05, fP06, fP07, fP08, fP0f⟩ := (P0_0.out).pt
  go_wp2_with fail
  clear fP0z fP00 fP01 fP02 fP03 fP04 fP05 fP06 fP07 fP08 fP0f
  refine (K1.out _).mono ?_
  rintro e w1 ⟨rfl, hq⟩
  have P0_1 : Hid (OwnC w1 (w.heap.size) (ptL x y true)) := OwnC.call P0_0.out hq
  have W_1 : Hid (Below w.heap.size w w1) := below_call0 W_0.out hq
  clear hq P0_0 W_0
  obtain ⟨fP0z, fP00, fP01, fP02, fP03, fP04, fP05, fP06, fP07, fP08, fP0f⟩ := (P0_1.out).pt
  go_wp2_with fail
  clear fP0z fP00 fP01 fP02 fP03 fP04 fP05 fP06 fP07 fP08 fP0f
  refine (K2.out _).mono ?_
  rintro e w2 ⟨rfl, hq⟩
  have P0_2 : Hid (OwnC w2 (w.heap.size) (ptL x y true)) := OwnC.call P0_1.out hq
  have W_2 : Hid (Below w.heap.size w w2) := below_call0 W_1.out hq
  clear hq P0_1 W_1
  go_wp2_with fail
  go_ret
  exact ⟨rfl, W_2.out⟩
set_option maxRecDepth 100000 in
set_option maxHeartbeats 4000000 in
theorem is3_x (x y : Nat) (hX : x < R256) (_hY : y < R256) (hx : ¬ x < PP) (w : World) :
    Calls Tryd.prog 12 #[.agg #[.int .u64 (limb (x) 0 : Nat), .int .u64 (limb (x) 1 : Nat), .int .u64 (limb (x) 2 : Nat), .int .u64 (limb (x) 3 : Nat), .int .u64 (limb (y) 0 : Nat), .int .u64 (limb (y) 1 : Nat), .int .u64 (limb (y) 2 : Nat), .int .u64 (limb (y) 3 : Nat), .bool false]] w fun e w' => e = .returned (.bool false) ∧ Below w.heap.size w w' := by
  have K1 : Hid (∀ w, Calls Tryd.prog 38 #[] w fun e w' => e = .returned (.agg #[.int .u64 (limb (PP) 0 : Nat), .int .u64 (limb (PP) 1 : Nat), .int .u64 (limb (PP) 2 : Nat), .int .u64 (limb (PP) 3 : Nat), .int .u64 (limb (R256 - (PP)) 0 : Nat), .int .u64 (limb (R256 - (PP)) 1 : Nat), .int .u64 (limb (R256 - (PP)) 2 : Nat), .int .u64 (limb (R256 - (PP)) 3 : Nat)]) ∧ Below w.heap.size w w') := fun w => base2_any w
  have K2 : Hid (∀ w, Calls Tryd.prog 39 #[.agg #[.int .u64 (limb (PP) 0 : Nat), .int .u64 (limb (PP) 1 : Nat), .int .u64 (limb (PP) 2 : Nat), .int .u64 (limb (PP) 3 : Nat), .int .u64 (limb (R256 - (PP)) 0 : Nat), .int .u64 (limb (R256 - (PP)) 1 : Nat), .int .u64 (limb (R256 - (PP)) 2 : Nat), .int .u64 (limb (R256 - (PP)) 3 : Nat)], .agg #[.int .u64 (limb (x) 0 : Nat), .int .u64 (limb (x) 1 : Nat), .int .u64 (limb (x) 2 : Nat), .int .u64 (limb (x) 3 : Nat)]] w fun e w' => e = .returned (.bool false) ∧ Below w.heap.size w w') := fun w => has2_b PP x false FM_P.2.1 hX (decide_eq_false hx) w
  obtain ⟨w0, hw0⟩ : ∃ wq, wq = (w.alloc (.cells #[.int .u64 (limb (x) 0 : Nat), .int .u64 (limb (x) 1 : Nat), .int .u64 (limb (x) 2 : Nat), .int .u64 (limb (x) 3 : Nat), .int .u64 (limb (y) 0 : Nat), .int .u64 (limb (y) 1 : Nat), .int .u64 (limb (y) 2 : Nat), .int .u64 (limb (y) 3 : Nat), .bool false] 26)) := ⟨_, rfl⟩
  have H0 : Hid (OwnC w0 (w.heap.size) (ptL x y false)) ∧ Hid (Below w.heap.size w w0) := by
    rw [hw0]
    exact ⟨(OwnC.new' rfl), below_alloc0 (Below.refl _ _) _⟩
  obtain ⟨P0_0, W_0⟩ := H0
  clear hX hx
  go_enter Tryd.func12, Tryd.ntmps12
  go_upto_region 1 with fail
  rw [← hw0]
  clear hw0
  obtain ⟨iP0z, iP00, iP01, iP02, iP03, iP04, iP05, iP06, iP07, iP08, iP0f⟩ := (P0_0.out).pt
  go_upto_region 3 with fail
  clear iP0z iP00 iP01 iP02 iP03 iP04 iP05 iP06 iP07 iP08 iP0f
  go_upto_region 3 with fail
  go_cut [3] (fun vq3 wx => ∃ bk3, vq3 = .pointer (some ⟨bk3, 0, none⟩) ∧ w0.heap.size ≤ bk3 ∧ OwnC wx bk3 (fvL PP) ∧ Below w0.heap.size w0 wx)
  case first =>
    go_wp2_with fail
    refine (K1.out _).mono ?_
    rintro e wx0 ⟨rfl, hq0⟩
    go_wp2_with fail
    go_meet
    exact ⟨_, rfl, hq0.size, OwnC.new' rfl, below_alloc0 hq0 _⟩
  case rest =>
    obtain ⟨bk3, rfl, hle, hO, hB⟩ := hcut
    have P0_1 : Hid (OwnC wc (w.heap.size) (ptL x y false)) := OwnC.call P0_0.out hB
    have W_1 : Hid (Below w.heap.size w wc) := below_call0 W_0.out hB
    have V3_1 : Hid (OwnC wc bk3 (fvL PP)) := hO
    clear hB P0_0 W_0
    clear hO hle
    generalize wc = w1 at P0_1 W_1 V3_1 ⊢
    go_upto_region 4 with fail
    refine wp_region_J 22 0 [?v0r4, ?v1r4, ?v2r4, ?v3r4, ?v4r4, ?v5r4, ?v6r4, ?v7r4, ?v8r4, ?v9r4, ?v10r4, ?v11r4, ?v12r4, ?v13r4, ?v14r4, ?v15r4, ?v16r4, ?v17r4, ?v18r4, ?v19r4, ?v20r4, ?v21r4] [some 15, some 16, some 17, some 18, some 19, some 20, some 21, some 22, some 23, some 24, some 25, some 26, some 27, some 28, some 29, some 30, some 31, some 32, some 33, some 34, some 35, some 36] ?Ar4 (by kernel_rfl) (by kernel_rfl) (by kernel_rfl) rfl ?hAr4 ?hopr4 ?hfinr4
    case hAr4 =>
      simp only [List.set_cons_zero, List.set_cons_succ, List.zip_cons_cons, List.zip_nil_right, fillD, Act.put, List.setIfInBounds_toArray]
      exact rfl
    case hopr4 =>
      refine ⟨?_, ?_, ?_, ?_, ?_, ?_, ?_, ?_, ?_, ?_, ?_, ?_, ?_, ?_, ?_, ?_, ?_, ?_, ?_, ?_, ?_, ?_, trivial⟩
      focus (intro _ bq wx hS; refine OpTo.yields rfl ?_; obtain ⟨_, _, _, _, _, _, _, _, _, _⟩ := (OwnC.call V3_1.out hS).fv; clear hS; go_simp; try with_reducible rfl)
      focus (intro _ bq wx hS; refine OpTo.yields rfl ?_; clear hS; go_simp; try with_reducible rfl)
      focus (intro _ bq wx hS; refine OpTo.yields rfl ?_; obtain ⟨_, _, _, _, _, _, _, _, _, _, _⟩ := (OwnC.call P0_1.out hS).pt; clear hS; go_simp; try with_reducible rfl)
      focus (intro _ bq wx hS; refine OpTo.calls rfl ?_ ?_; rotate_left; intro K hK; go_simp; refine (K2.out _).mono ?_; rintro e w' ⟨rfl, hq⟩; exact hK w' hq; exact rfl)
      focus (intro _ bq wx hS; refine OpTo.yields rfl ?_; clear hS; go_simp; try with_reducible rfl)
      iterate 4 focus (intro _ bq wx hS; refine OpTo.no ?_; exact rfl)
      iterate 2 focus (intro _ bq wx hS; refine OpTo.yields rfl ?_; clear hS; go_simp; try with_reducible rfl)
      iterate 10 focus (intro _ bq wx hS; refine OpTo.no ?_; exact rfl)
      focus (intro _ bq wx hS; refine OpTo.yields rfl ?_; clear hS; go_simp; try with_reducible rfl)
    case hfinr4 =>
      intro wx hS
      refine tail_at (o := ?ofr4_22) ?hir4_22 ?hwr4_22 ?_
      case hir4_22 => rw [List.getElem?_toArray]; exact rfl
      case hwr4_22 => exact rfl
      go_simp
      refine tail_end ?_
      go_wp2_with fail
      go_ret
      exact ⟨rfl, below_call0 W_1.out hS⟩
set_option maxRecDepth 100000 in
set_option maxHeartbeats 4000000 in
theorem is3_y (x y : Nat) (hX : x < R256) (hY : y < R256) (hx : x < PP) (hy : ¬ y < PP) (w : World) :
    Calls Tryd.prog 12 #[.agg #[.int .u64 (limb (x) 0 : Nat), .int .u64 (limb (x) 1 : Nat), .int .u64 (limb (x) 2 : Nat), .int .u64 (limb (x) 3 : Nat), .int .u64 (limb (y) 0 : Nat), .int .u64 (limb (y) 1 : Nat), .int .u64 (limb (y) 2 : Nat), .int .u64 (limb (y) 3 : Nat), .bool false]] w fun e w' => e = .returned (.bool false) ∧ Below w.heap.size w w' := by
  have K1 : Hid (∀ w, Calls Tryd.prog 38 #[] w fun e w' => e = .returned (.agg #[.int .u64 (limb (PP) 0 : Nat), .int .u64 (limb (PP) 1 : Nat), .int .u64 (limb (PP) 2 : Nat), .int .u64 (limb (PP) 3 : Nat), .int .u64 (limb (R256 - (PP)) 0 : Nat), .int .u64 (limb (R256 - (PP)) 1 : Nat), .int .u64 (limb (R256 - (PP)) 2 : Nat), .int .u64 (limb (R256 - (PP)) 3 : Nat)]) ∧ Below w.heap.size w w') := fun w => base2_any w
  have K2 : Hid (∀ w, Calls Tryd.prog 39 #[.agg #[.int .u64 (limb (PP) 0 : Nat), .int .u64 (limb (PP) 1 : Nat), .int .u64 (limb (PP) 2 : Nat), .int .u64 (limb (PP) 3 : Nat), .int .u64 (limb (R256 - (PP)) 0 : Nat), .int .u64 (limb (R256 - (PP)) 1 : Nat), .int .u64 (limb (R256 - (PP)) 2 : Nat), .int .u64 (limb (R256 - (PP)) 3 : Nat)], .agg #[.int .u64 (limb (x) 0 : Nat), .int .u64 (limb (x) 1 : Nat), .int .u64 (limb (x) 2 : Nat), .int .u64 (limb (x) 3 : Nat)]] w fun e w' => e = .returned (.bool true) ∧ Below w.heap.size w w') := fun w => has2_b PP x true FM_P.2.1 hX (decide_eq_true hx) w
  have K3 : Hid (∀ w, Calls Tryd.prog 39 #[.agg #[.int .u64 (limb (PP) 0 : Nat), .int .u64 (limb (PP) 1 : Nat), .int .u64 (limb (PP) 2 : Nat), .int .u64 (limb (PP) 3 : Nat), .int .u64 (limb (R256 - (PP)) 0 : Nat), .int .u64 (limb (R256 - (PP)) 1 : Nat), .int .u64 (limb (R256 - (PP)) 2 : Nat), .int .u64 (limb (R256 - (PP)) 3 : Nat)], .agg #[.int .u64 (limb (y) 0 : Nat), .int .u64 (limb (y) 1 : Nat), .int .u64 (limb (y) 2 : Nat), .int .u64 (limb (y) 3 : Nat)]] w fun e w' => e = .returned (.bool false) ∧ Below w.heap.size w w') := fun w => has2_b PP y false FM_P.2.1 hY (decide_eq_false hy) w
  obtain ⟨w0, hw0⟩ : ∃ wq, wq = (w.alloc (.cells #[.int .u64 (limb (x) 0 : Nat), .int .u64 (limb (x) 1 : Nat), .int .u64 (limb (x) 2 : Nat), .int .u64 (limb (x) 3 : Nat), .int .u64 (limb (y) 0 : Nat), .int .u64 (limb (y) 1 : Nat), .int .u64 (limb (y) 2 : Nat), .int .u64 (limb (y) 3 : Nat), .bool false] 26)) := ⟨_, rfl⟩
  have H0 : Hid (OwnC w0 (w.heap.size) (ptL x y false)) ∧ Hid (Below w.heap.size w w0) := by
    rw [hw0]
    exact ⟨(OwnC.new' rfl), below_alloc0 (Below.refl _ _) _⟩
  obtain ⟨P0_0, W_0⟩ := H0
  clear hX hY hx hy
  go_enter Tryd.func12, Tryd.ntmps12
  go_upto_region 1 with fail
  rw [← hw0]
  clear hw0
  obtain ⟨iP0z, iP00, iP01, iP02, iP03, iP04, iP05, iP06, iP07, iP08, iP0f⟩ := (P0_0.out).pt
  go_upto_region 3 with fail
  clear iP0z iP00 iP01 iP02 iP03 iP04 iP05 iP06 iP07 iP08 iP0f
  go_upto_region 3 with fail
  go_cut [3] (fun vq3 wx => ∃ bk3, vq3 = .pointer (some ⟨bk3, 0, none⟩) ∧ w0.heap.size ≤ bk3 ∧ OwnC wx bk3 (fvL PP) ∧ Below w0.heap.size w0 wx)
  case first =>
    go_wp2_with fail
    refine (K1.out _).mono ?_
    rintro e wx0 ⟨rfl, hq0⟩
    go_wp2_with fail
    go_meet
    exact ⟨_, rfl, hq0.size, OwnC.new' rfl, below_alloc0 hq0 _⟩
  case rest =>
    obtain ⟨bk3, rfl, hle, hO, hB⟩ := hcut
    have P0_1 : Hid (OwnC wc (w.heap.size) (ptL x y false)) := OwnC.call P0_0.out hB
    have W_1 : Hid (Below w.heap.size w wc) := below_call0 W_0.out hB
    have V3_1 : Hid (OwnC wc bk3 (fvL PP)) := hO
    clear hB P0_0 W_0
    clear hO hle
    generalize wc = w1 at P0_1 W_1 V3_1 ⊢
    go_upto_region 4 with fail
    refine wp_region_J 22 0 [?v0r4, ?v1r4, ?v2r4, ?v3r4, ?v4r4, ?v5r4, ?v6r4, ?v7r4, ?v8r4, ?v9r4, ?v10r4, ?v11r4, ?v12r4, ?v13r4, ?v14r4, ?v15r4, ?v16r4, ?v17r4, ?v18r4, ?v19r4, ?v20r4, ?v21r4] [some 15, some 16, some 17, some 18, some 19, some 20, some 21, some 22, some 23, some 24, some 25, some 26, some 27, some 28, some 29, some 30, some 31, some 32, some 33, some 34, some 35, some 36] ?Ar4 (by kernel_rfl) (by kernel_rfl) (by kernel_rfl) rfl ?hAr4 ?hopr4 ?hfinr4
    case hAr4 =>
      simp only [List.set_cons_zero, List.set_cons_succ, List.zip_cons_cons, List.zip_nil_right, fillD, Act.put, List.setIfInBounds_toArray]
      exact rfl
    case hopr4 =>
      refine ⟨?_, ?_, ?_, ?_, ?_, ?_, ?_, ?_, ?_, ?_, ?_, ?_, ?_, ?_, ?_, ?_, ?_, ?_, ?_, ?_, ?_, ?_, trivial⟩
      focus (intro _ bq wx hS; refine OpTo.yields rfl ?_; obtain ⟨_, _, _, _, _, _, _, _, _, _⟩ := (OwnC.call V3_1.out hS).fv; clear hS; go_simp; try with_reducible rfl)
      focus (intro _ bq wx hS; refine OpTo.yields rfl ?_; clear hS; go_simp; try with_reducible rfl)
      focus (intro _ bq wx hS; refine OpTo.yields rfl ?_; obtain ⟨_, _, _, _, _, _, _, _, _, _, _⟩ := (OwnC.call P0_1.out hS).pt; clear hS; go_simp; try with_reducible rfl)
      focus (intro _ bq wx hS; refine OpTo.calls rfl ?_ ?_; rotate_left; intro K hK; go_simp; refine (K2.out _).mono ?_; rintro e w' ⟨rfl, hq⟩; exact hK w' hq; exact rfl)
      focus (intro _ bq wx hS; refine OpTo.yields rfl ?_; clear hS; go_simp; try with_reducible rfl)
      focus (intro _ bq wx hS; refine OpTo.yields rfl ?_; obtain ⟨_, _, _, _, _, _, _, _, _, _⟩ := (OwnC.call V3_1.out hS).fv; clear hS; go_simp; try with_reducible rfl)
      focus (intro _ bq wx hS; refine OpTo.yields rfl ?_; clear hS; go_simp; try with_reducible rfl)
      focus (intro _ bq wx hS; refine OpTo.yields rfl ?_; obtain ⟨_, _, _, _, _, _, _, _, _, _, _⟩ := (OwnC.call P0_1.out hS).pt; clear hS; go_simp; try with_reducible rfl)
      focus (intro _ bq wx hS; refine OpTo.calls rfl ?_ ?_; rotate_left; intro K hK; go_simp; refine (K3.out _).mono ?_; rintro e w' ⟨rfl, hq⟩; exact hK w' hq; exact rfl)
      iterate 2 focus (intro _ bq wx hS; refine OpTo.yields rfl ?_; clear hS; go_simp; try with_reducible rfl)
      iterate 10 focus (intro _ bq wx hS; refine OpTo.no ?_; exact rfl)
      focus (intro _ bq wx hS; refine OpTo.yields rfl ?_; clear hS; go_simp; try with_reducible rfl)
    case hfinr4 =>
      intro wx hS
      refine tail_at (o := ?ofr4_22) ?hir4_22 ?hwr4_22 ?_
      case hir4_22 => rw [List.getElem?_toArray]; exact rfl
      case hwr4_22 => exact rfl
      go_simp
      refine tail_end ?_
      go_wp2_with fail
      go_ret
      exact ⟨rfl, below_call0 W_1.out hS⟩
set_option maxRecDepth 100000 in
set_option maxHeartbeats 4000000 in
theorem is3_on (x y : Nat) (hX : x < R256) (hY : y < R256) (hx : x < PP) (hy : y < PP) (hc : mM y y = sqM x) (w : World) :
    Calls Tryd.prog 12 #[.agg #[.int .u64 (limb (x) 0 : Nat), .int .u64 (limb (x) 1 : Nat), .int .u64 (limb (x) 2 : Nat), .int .u64 (limb (x) 3 : Nat), .int .u64 (limb (y) 0 : Nat), .int .u64 (limb (y) 1 : Nat), .int .u64 (limb (y) 2 : Nat), .int .u64 (limb (y) 3 : Nat), .bool false]] w fun e w' => e = .returned (.bool true) ∧ Below w.heap.size w w' := by
  have K1 : Hid (∀ w, Calls Tryd.prog 38 #[] w fun e w' => e = .returned (.agg #[.int .u64 (limb (PP) 0 : Nat), .int .u64 (limb (PP) 1 : Nat), .int .u64 (limb (PP) 2 : Nat), .int .u64 (limb (PP) 3 : Nat), .int .u64 (limb (R256 - (PP)) 0 : Nat), .int .u64 (limb (R256 - (PP)) 1 : Nat), .int .u64 (limb (R256 - (PP)) 2 : Nat), .int .u64 (limb (R256 - (PP)) 3 : Nat)]) ∧ Below w.heap.size w w') := fun w => base2_any w
  have K2 : Hid (∀ w, Calls Tryd.prog 39 #[.agg #[.int .u64 (limb (PP) 0 : Nat), .int .u64 (limb (PP) 1 : Nat), .int .u64 (limb (PP) 2 : Nat), .int .u64 (limb (PP) 3 : Nat), .int .u64 (limb (R256 - (PP)) 0 : Nat), .int .u64 (limb (R256 - (PP)) 1 : Nat), .int .u64 (limb (R256 - (PP)) 2 : Nat), .int .u64 (limb (R256 - (PP)) 3 : Nat)], .agg #[.int .u64 (limb (x) 0 : Nat), .int .u64 (limb (x) 1 : Nat), .int .u64 (limb (x) 2 : Nat), .int .u64 (limb (x) 3 : Nat)]] w fun e w' => e = .returned (.bool true) ∧ Below w.heap.size w w') := fun w => has2_b PP x true FM_P.2.1 hX (decide_eq_true hx) w
  have K3 : Hid (∀ w, Calls Tryd.prog 39 #[.agg #[.int .u64 (limb (PP) 0 : Nat), .int .u64 (limb (PP) 1 : Nat), .int .u64 (limb (PP) 2 : Nat), .int .u64 (limb (PP) 3 : Nat), .int .u64 (limb (R256 - (PP)) 0 : Nat), .int .u64 (limb (R256 - (PP)) 1 : Nat), .int .u64 (limb (R256 - (PP)) 2 : Nat), .int .u64 (limb (R256 - (PP)) 3 : Nat)], .agg #[.int .u64 (limb (y) 0 : Nat), .int .u64 (limb (y) 1 : Nat), .int .u64 (limb (y) 2 : Nat), .int .u64 (limb (y) 3 : Nat)]] w fun e w' => e = .returned (.bool true) ∧ Below w.heap.size w w') := fun w => has2_b PP y true FM_P.2.1 hY (decide_eq_true hy) w
  obtain ⟨c1, ec1⟩ : ∃ uq, uq = mM y y := ⟨_, rfl⟩
  have lc1 : c1 < PP := by rw [ec1]; exact mM_lt _ _
  have K4 : Hid (rfM y y c1) := rfM_of hy hy ec1
  obtain ⟨c2, ec2⟩ : ∃ uq, uq = sqM x := ⟨_, rfl⟩
  have lc2 : c2 < PP := by rw [ec2]; exact sqM_lt _
  have K5 : Hid (∀ w, Calls Tryd.prog 41 #[.agg #[.int .u64 (limb (x) 0 : Nat), .int .u64 (limb (x) 1 : Nat), .int .u64 (limb (x) 2 : Nat), .int .u64 (limb (x) 3 : Nat)]] w fun e w' => e = .returned (.agg #[.int .u64 (limb (c2) 0 : Nat), .int .u64 (limb (c2) 1 : Nat), .int .u64 (limb (c2) 2 : Nat), .int .u64 (limb (c2) 3 : Nat)]) ∧ Below w.heap.size w w') := fun w => cubic3_any x c2 hx ec2 w
  rw [← ec1, ← ec2] at hc
  have he : eq4 (limb c1 0 : Nat) (limb c1 1 : Nat) (limb c1 2 : Nat) (limb c1 3 : Nat) (limb c2 0 : Nat) (limb c2 1 : Nat) (limb c2 2 : Nat) (limb c2 3 : Nat) = true := by
    rw [eq4_num c1 c2 (lt_R lc1) (lt_R lc2)]; exact decide_eq_true hc
  obtain ⟨w0, hw0⟩ : ∃ wq, wq = (w.alloc (.cells #[.int .u64 (limb (x) 0 : Nat), .int .u64 (limb (x) 1 : Nat), .int .u64 (limb (x) 2 : Nat), .int .u64 (limb (x) 3 : Nat), .int .u64 (limb (y) 0 : Nat), .int .u64 (limb (y) 1 : Nat), .int .u64 (limb (y) 2 : Nat), .int .u64 (limb (y) 3 : Nat), .bool false] 26)) := ⟨_, rfl⟩
  have H0 : Hid (OwnC w0 (w.heap.size) (ptL x y false)) ∧ Hid (Below w.heap.size w w0) := by
    rw [hw0]
    exact ⟨(OwnC.new' rfl), below_alloc0 (Below.refl _ _) _⟩
  obtain ⟨P0_0, W_0⟩ := H0
  clear ec1 lc1 ec2 lc2 hX hY hx hy hc
  go_enter Tryd.func12, Tryd.ntmps12
  go_upto_region 1 with fail
  rw [← hw0]
  clear hw0
  obtain ⟨iP0z, iP00, iP01, iP02, iP03, iP04, iP05, iP06, iP07, iP08, iP0f⟩ := (P0_0.out).pt
  go_upto_region 3 with fail
  clear iP0z iP00 iP01 iP02 iP03 iP04 iP05 iP06 iP07 iP08 iP0f
  go_upto_region 3 with fail
  go_cut [3] (fun vq3 wx => ∃ bk3, vq3 = .pointer (some ⟨bk3, 0, none⟩) ∧ w0.heap.size ≤ bk3 ∧ OwnC wx bk3 (fvL PP) ∧ Below w0.heap.size w0 wx)
  case first =>
    go_wp2_with fail
    refine (K1.out _).mono ?_
    rintro e wx0 ⟨rfl, hq0⟩
    go_wp2_with fail
    go_meet
    exact ⟨_, rfl, hq0.size, OwnC.new' rfl, below_alloc0 hq0 _⟩
  case rest =>
    obtain ⟨bk3, rfl, hle, hO, hB⟩ := hcut
    have P0_1 : Hid (OwnC wc (w.heap.size) (ptL x y false)) := OwnC.call P0_0.out hB
    have W_1 : Hid (Below w.heap.size w wc) := below_call0 W_0.out hB
    have V3_1 : Hid (OwnC wc bk3 (fvL PP)) := hO
    clear hB P0_0 W_0
    clear hO hle
    generalize wc = w1 at P0_1 W_1 V3_1 ⊢
    go_upto_region 4 with fail
    refine wp_region_J 22 0 [?v0r4, ?v1r4, ?v2r4, ?v3r4, ?v4r4, ?v5r4, ?v6r4, ?v7r4, ?v8r4, ?v9r4, ?v10r4, ?v11r4, ?v12r4, ?v13r4, ?v14r4, ?v15r4, ?v16r4, ?v17r4, ?v18r4, ?v19r4, ?v20r4, ?v21r4] [some 15, some 16, some 17, some 18, some 19, some 20, some 21, some 22, some 23, some 24, some 25, some 26, some 27, some 28, some 29, some 30, some 31, some 32, some 33, some 34, some 35, some 36] ?Ar4 (by kernel_rfl) (by kernel_rfl) (by kernel_rfl) rfl ?hAr4 ?hopr4 ?hfinr4
    case hAr4 =>
      simp only [List.set_cons_zero, List.set_cons_succ, List.zip_cons_cons, List.zip_nil_right, fillD, Act.put, List.setIfInBounds_toArray]
      exact rfl
    case hopr4 =>
      refine ⟨?_, ?_, ?_, ?_, ?_, ?_, ?_, ?_, ?_, ?_, ?_, ?_, ?_, ?_, ?_, ?_, ?_, ?_, ?_, ?_, ?_, ?_, trivial⟩
      focus (intro _ bq wx hS; refine OpTo.yields rfl ?_; obtain ⟨_, _, _, _, _, _, _, _, _, _⟩ := (OwnC.call V3_1.out hS).fv; clear hS; go_simp; try with_reducible rfl)
      focus (intro _ bq wx hS; refine OpTo.yields rfl ?_; clear hS; go_simp; try with_reducible rfl)
      focus (intro _ bq wx hS; refine OpTo.yields rfl ?_; obtain ⟨_, _, _, _, _, _, _, _, _, _, _⟩ := (OwnC.call P0_1.out hS).pt; clear hS; go_simp; try with_reducible rfl)
      focus (intro _ bq wx hS; refine OpTo.calls rfl ?_ ?_; rotate_left; intro K hK; go_simp; refine (K2.out _).mono ?_; rintro e w' ⟨rfl, hq⟩; exact hK w' hq; exact rfl)
      focus (intro _ bq wx hS; refine OpTo.yields rfl ?_; clear hS; go_simp; try with_reducible rfl)
      focus (intro _ bq wx hS; refine OpTo.yields rfl ?_; obtain ⟨_, _, _, _, _, _, _, _, _, _⟩ := (OwnC.call V3_1.out hS).fv; clear hS; go_simp; try with_reducible rfl)
      focus (intro _ bq wx hS; refine OpTo.yields rfl ?_; clear hS; go_simp; try with_reducible rfl)
      focus (intro _ bq wx hS; refine OpTo.yields rfl ?_; obtain ⟨_, _, _, _, _, _, _, _, _, _, _⟩ := (OwnC.call P0_1.out hS).pt; clear hS; go_simp; try with_reducible rfl)
      focus (intro _ bq wx hS; refine OpTo.calls rfl ?_ ?_; rotate_left; intro K hK; go_simp; refine (K3.out _).mono ?_; rintro e w' ⟨rfl, hq⟩; exact hK w' hq; exact rfl)
      iterate 2 focus (intro _ bq wx hS; refine OpTo.yields rfl ?_; clear hS; go_simp; try with_reducible rfl)
      focus (intro _ bq wx hS; refine OpTo.yields rfl ?_; obtain ⟨_, _, _, _, _, _, _, _, _, _⟩ := (OwnC.call V3_1.out hS).fv; clear hS; go_simp; try with_reducible rfl)
      focus (intro _ bq wx hS; refine OpTo.yields rfl ?_; clear hS; go_simp; try with_reducible rfl)
      focus (intro _ bq wx hS; refine OpTo.yields rfl ?_; obtain ⟨_, _, _, _, _, _, _, _, _, _, _⟩ := (OwnC.call P0_1.out hS).pt; clear hS; go_simp; try with_reducible rfl)
      focus (intro _ bq wx hS; refine OpTo.yields rfl ?_; clear hS; go_simp; try with_reducible rfl)
      focus (intro _ bq wx hS; refine OpTo.yields rfl ?_; obtain ⟨_, _, _, _, _, _, _, _, _, _, _⟩ := (OwnC.call P0_1.out hS).pt; clear hS; go_simp; try with_reducible rfl)
      focus (intro _ bq wx hS; refine OpTo.calls rfl ?_ ?_; rotate_left; intro K hK; go_simp; refine (K4.out _).mono ?_; rintro e w' ⟨rfl, hq⟩; exact hK w' hq; exact rfl)
      focus (intro _ bq wx hS; refine OpTo.yields rfl ?_; clear hS; go_simp; try with_reducible rfl)
      focus (intro _ bq wx hS; refine OpTo.yields rfl ?_; obtain ⟨_, _, _, _, _, _, _, _, _, _, _⟩ := (OwnC.call P0_1.out hS).pt; clear hS; go_simp; try with_reducible rfl)
      focus (intro _ bq wx hS; refine OpTo.calls rfl ?_ ?_; rotate_left; intro K hK; go_simp; refine (K5.out _).mono ?_; rintro e w' ⟨rfl, hq⟩; exact hK w' hq; exact rfl)
      iterate 2 focus (intro _ bq wx hS; refine OpTo.yields rfl ?_; clear hS; go_simp; try with_reducible rfl)
    case hfinr4 =>
      intro wx hS
      refine tail_at (o := ?ofr4_22) ?hir4_22 ?hwr4_22 ?_
      case hir4_22 => rw [List.getElem?_toArray]; exact rfl
      case hwr4_22 => exact rfl
      go_simp
      refine tail_end ?_
      go_wp2_with fail
      go_ret
      exact ⟨rfl, below_call0 W_1.out hS⟩
set_option maxRecDepth 100000 in
set_option maxHeartbeats 4000000 in
theorem is3_off (x y : Nat) (hX : x < R256) (hY : y < R256) (hx : x < PP) (hy : y < PP) (hc : mM y y ≠ sqM x) (w : World) :
    Calls Tryd.prog 12 #[.agg #[.int .u64 (limb (x) 0 : Nat), .int .u64 (limb (x) 1 : Nat), .int .u64 (limb (x) 2 : Nat), .int .u64 (limb (x) 3 : Nat), .int .u64 (limb (y) 0 : Nat), .int .u64 (limb (y) 1 : Nat), .int .u64 (limb (y) 2 : Nat), .int .u64 (limb (y) 3 : Nat), .bool false]] w fun e w' => e = .returned (.bool false) ∧ Below w.heap.size w w' := by
  have K1 : Hid (∀ w, Calls Tryd.prog 38 #[] w fun e w' => e = .returned (.agg #[.int .u64 (limb (PP) 0 : Nat), .int .u64 (limb (PP) 1 : Nat), .int .u64 (limb (PP) 2 : Nat), .int .u64 (limb (PP) 3 : Nat), .int .u64 (limb (R256 - (PP)) 0 : Nat), .int .u64 (limb (R256 - (PP)) 1 : Nat), .int .u64 (limb (R256 - (PP)) 2 : Nat), .int .u64 (limb (R256 - (PP)) 3 : Nat)]) ∧ Below w.heap.size w w') := fun w => base2_any w
  have K2 : Hid (∀ w, Calls Tryd.prog 39 #[.agg #[.int .u64 (limb (PP) 0 : Nat), .int .u64 (limb (PP) 1 : Nat), .int .u64 (limb (PP) 2 : Nat), .int .u64 (limb (PP) 3 : Nat), .int .u64 (limb (R256 - (PP)) 0 : Nat), .int .u64 (limb (R256 - (PP)) 1 : Nat), .int .u64 (limb (R256 - (PP)) 2 : Nat), .int .u64 (limb (R256 - (PP)) 3 : Nat)], .agg #[.int .u64 (limb (x) 0 : Nat), .int .u64 (limb (x) 1 : Nat), .int .u64 (limb (x) 2 : Nat), .int .u64 (limb (x) 3 : Nat)]] w fun e w' => e = .returned (.bool true) ∧ Below w.heap.size w w') := fun w => has2_b PP x true FM_P.2.1 hX (decide_eq_true hx) w
  have K3 : Hid (∀ w, Calls Tryd.prog 39 #[.agg #[.int .u64 (limb (PP) 0 : Nat), .int .u64 (limb (PP) 1 : Nat), .int .u64 (limb (PP) 2 : Nat), .int .u64 (limb (PP) 3 : Nat), .int .u64 (limb (R256 - (PP)) 0 : Nat), .int .u64 (limb (R256 - (PP)) 1 : Nat), .int .u64 (limb (R256 - (PP)) 2 : Nat), .int .u64 (limb (R256 - (PP)) 3 : Nat)], .agg #[.int .u64 (limb (y) 0 : Nat), .int .u64 (limb (y) 1 : Nat), .int .u64 (limb (y) 2 : Nat), .int .u64 (limb (y) 3 : Nat)]] w fun e w' => e = .returned (.bool true) ∧ Below w.heap.size w w') := fun w => has2_b PP y true FM_P.2.1 hY (decide_eq_true hy) w
  obtain ⟨c1, ec1⟩ : ∃ uq, uq = mM y y := ⟨_, rfl⟩
  have lc1 : c1 < PP := by rw [ec1]; exact mM_lt _ _
  have K4 : Hid (rfM y y c1) := rfM_of hy hy ec1
  obtain ⟨c2, ec2⟩ : ∃ uq, uq = sqM x := ⟨_, rfl⟩
  have lc2 : c2 < PP := by rw [ec2]; exact sqM_lt _
  have K5 : Hid (∀ w, Calls Tryd.prog 41 #[.agg #[.int .u64 (limb (x) 0 : Nat), .int .u64 (limb (x) 1 : Nat), .int .u64 (limb (x) 2 : Nat), .int .u64 (limb (x) 3 : Nat)]] w fun e w' => e = .returned (.agg #[.int .u64 (limb (c2) 0 : Nat), .int .u64 (limb (c2) 1 : Nat), .int .u64 (limb (c2) 2 : Nat), .int .u64 (limb (c2) 3 : Nat)]) ∧ Below w.heap.size w w') := fun w => cubic3_any x c2 hx ec2 w
  rw [← ec1, ← ec2] at hc
  have he : eq4 (limb c1 0 : Nat) (limb c1 1 : Nat) (limb c1 2 : Nat) (limb c1 3 : Nat) (limb c2 0 : Nat) (limb c2 1 : Nat) (limb c2 2 : Nat) (limb c2 3 : Nat) = false := by
    rw [eq4_num c1 c2 (lt_R lc1) (lt_R lc2)]; exact decide_eq_false hc
  obtain ⟨w0, hw0⟩ : ∃ wq, wq = (w.alloc (.cells #[.int .u64 (limb (x) 0 : Nat), .int .u64 (limb (x) 1 : Nat), .int .u64 (limb (x) 2 : Nat), .int .u64 (limb (x) 3 : Nat), .int .u64 (limb (y) 0 : Nat), .int .u64 (limb (y) 1 : Nat), .int .u64 (limb (y) 2 : Nat), .int .u64 (limb (y) 3 : Nat), .bool false] 26)) := ⟨_, rfl⟩
  have H0 : Hid (OwnC w0 (w.heap.size) (ptL x y false)) ∧ Hid (Below w.heap.size w w0) := by
    rw [hw0]
    exact ⟨(OwnC.new' rfl), below_alloc0 (Below.refl _ _) _⟩
  obtain ⟨P0_0, W_0⟩ := H0
  clear ec1 lc1 ec2 lc2 hX hY hx hy hc
  go_enter Tryd.func12, Tryd.ntmps12
  go_upto_region 1 with fail
  rw [← hw0]
  clear hw0
  obtain ⟨iP0z, iP00, iP01, iP02, iP03, iP04, iP05, iP06, iP07, iP08, iP0f⟩ := (P0_0.out).pt
  go_upto_region 3 with fail
  clear iP0z iP00 iP01 iP02 iP03 iP04 iP05 iP06 iP07 iP08 iP0f
  go_upto_region 3 with fail
  go_cut [3] (fun vq3 wx => ∃ bk3, vq3 = .pointer (some ⟨bk3, 0, none⟩) ∧ w0.heap.size ≤ bk3 ∧ OwnC wx bk3 (fvL PP) ∧ Below w0.heap.size w0 wx)
  case first =>
    go_wp2_with fail
    refine (K1.out _).mono ?_
    rintro e wx0 ⟨rfl, hq0⟩
    go_wp2_with fail
    go_meet
    exact ⟨_, rfl, hq0.size, OwnC.new' rfl, below_alloc0 hq0 _⟩
  case rest =>
    obtain ⟨bk3, rfl, hle, hO, hB⟩ := hcut
    have P0_1 : Hid (OwnC wc (w.heap.size) (ptL x y false)) := OwnC.call P0_0.out hB
    have W_1 : Hid (Below w.heap.size w wc) := below_call0 W_0.out hB
    have V3_1 : Hid (OwnC wc bk3 (fvL PP)) := hO
    clear hB P0_0 W_0
    clear hO hle
    generalize wc = w1 at P0_1 W_1 V3_1 ⊢
    go_upto_region 4 with fail
    refine wp_region_J 22 0 [?v0r4, ?v1r4, ?v2r4, ?v3r4, ?v4r4, ?v5r4, ?v6r4, ?v7r4, ?v8r4, ?v9r4, ?v10r4, ?v11r4, ?v12r4, ?v13r4, ?v14r4, ?v15r4, ?v16r4, ?v17r4, ?v18r4, ?v19r4, ?v20r4, ?v21r4] [some 15, some 16, some 17, some 18, some 19, some 20, some 21, some 22, some 23, some 24, some 25, some 26, some 27, some 28, some 29, some 30, some 31, some 32, some 33, some 34, some 35, some 36] ?Ar4 (by kernel_rfl) (by kernel_rfl) (by kernel_rfl) rfl ?hAr4 ?hopr4 ?hfinr4
    case hAr4 =>
      simp only [List.set_cons_zero, List.set_cons_succ, List.zip_cons_cons, List.zip_nil_right, fillD, Act.put, List.setIfInBounds_toArray]
      exact rfl
    case hopr4 =>
      refine ⟨?_, ?_, ?_, ?_, ?_, ?_, ?_, ?_, ?_, ?_, ?_, ?_, ?_, ?_, ?_, ?_, ?_, ?_, ?_, ?_, ?_, ?_, trivial⟩
      focus (intro _ bq wx hS; refine OpTo.yields rfl ?_; obtain ⟨_, _, _, _, _, _, _, _, _, _⟩ := (OwnC.call V3_1.out hS).fv; clear hS; go_simp; try with_reducible rfl)
      focus (intro _ bq wx hS; refine OpTo.yields rfl ?_; clear hS; go_simp; try with_reducible rfl)
      focus (intro _ bq wx hS; refine OpTo.yields rfl ?_; obtain ⟨_, _, _, _, _, _, _, _, _, _, _⟩ := (OwnC.call P0_1.out hS).pt; clear hS; go_simp; try with_reducible rfl)
      focus (intro _ bq wx hS; refine OpTo.calls rfl ?_ ?_; rotate_left; intro K hK; go_simp; refine (K2.out _).mono ?_; rintro e w' ⟨rfl, hq⟩; exact hK w' hq; exact rfl)
      focus (intro _ bq wx hS; refine OpTo.yields rfl ?_; clear hS; go_simp; try with_reducible rfl)
      focus (intro _ bq wx hS; refine OpTo.yields rfl ?_; obtain ⟨_, _, _, _, _, _, _, _, _, _⟩ := (OwnC.call V3_1.out hS).fv; clear hS; go_simp; try with_reducible rfl)
      focus (intro _ bq wx hS; refine OpTo.yields rfl ?_; clear hS; go_simp; try with_reducible rfl)
      focus (intro _ bq wx hS; refine OpTo.yields rfl ?_; obtain ⟨_, _, _, _, _, _, _, _, _, _, _⟩ := (OwnC.call P0_1.out hS).pt; clear hS; go_simp; try with_reducible rfl)
      focus (intro _ bq wx hS; refine OpTo.calls rfl ?_ ?_; rotate_left; intro K hK; go_simp; refine (K3.out _).mono ?_; rintro e w' ⟨rfl, hq⟩; exact hK w' hq; exact rfl)
      iterate 2 focus (intro _ bq wx hS; refine OpTo.yields rfl ?_; clear hS; go_simp; try with_reducible rfl)
      focus (intro _ bq wx hS; refine OpTo.yields rfl ?_; obtain ⟨_, _, _, _, _, _, _, _, _, _⟩ := (OwnC.call V3_1.out hS).fv; clear hS; go_simp; try with_reducible rfl)
      focus (intro _ bq wx hS; refine OpTo.yields rfl ?_; clear hS; go_simp; try with_reducible rfl)
      focus (intro _ bq wx hS; refine OpTo.yields rfl ?_; obtain ⟨_, _, _, _, _, _, _, _, _, _, _⟩ := (OwnC.call P0_1.out hS).pt; clear hS; go_simp; try with_reducible rfl)
      focus (intro _ bq wx hS; refine OpTo.yields rfl ?_; clear hS; go_simp; try with_reducible rfl)
      focus (intro _ bq wx hS; refine OpTo.yields rfl ?_; obtain ⟨_, _, _, _, _, _, _, _, _, _, _⟩ := (OwnC.call P0_1.out hS).pt; clear hS; go_simp; try with_reducible rfl)
      focus (intro _ bq wx hS; refine OpTo.calls rfl ?_ ?_; rotate_left; intro K hK; go_simp; refine (K4.out _).mono ?_; rintro e w' ⟨rfl, hq⟩; exact hK w' hq; exact rfl)
      focus (intro _ bq wx hS; refine OpTo.yields rfl ?_; clear hS; go_simp; try with_reducible rfl)
      focus (intro _ bq wx hS; refine OpTo.yields rfl ?_; obtain ⟨_, _, _, _, _, _, _, _, _, _, _⟩ := (OwnC.call P0_1.out hS).pt; clear hS; go_simp; try with_reducible rfl)
      focus (intro _ bq wx hS; refine OpTo.calls rfl ?_ ?_; rotate_left; intro K hK; go_simp; refine (K5.out _).mono ?_; rintro e w' ⟨rfl, hq⟩; exact hK w' hq; exact rfl)
      iterate 2 focus (intro _ bq wx hS; refine OpTo.yields rfl ?_; clear hS; go_simp; try with_reducible rfl)
    case hfinr4 =>
      intro wx hS
      refine tail_at (o := ?ofr4_22) ?hir4_22 ?hwr4_22 ?_
      case hir4_22 => rw [List.getElem?_toArray]; exact rfl
      case hwr4_22 => exact rfl
      go_simp
      refine tail_end ?_
      go_wp2_with fail
      go_ret
      exact ⟨rfl, below_call0 W_1.out hS⟩
theorem is3_any (x y : Nat) (i : Bool) (hX : x < R256) (hY : y < R256) (w : World) :
    Calls Tryd.prog 12 #[.agg #[.int .u64 (limb (x) 0 : Nat), .int .u64 (limb (x) 1 : Nat), .int .u64 (limb (x) 2 : Nat), .int .u64 (limb (x) 3 : Nat), .int .u64 (limb (y) 0 : Nat), .int .u64 (limb (y) 1 : Nat), .int .u64 (limb (y) 2 : Nat), .int .u64 (limb (y) 3 : Nat), .bool (i)]] w fun e w' => e = .returned (.bool (ptOk x y i)) ∧ Below w.heap.size w w' := by
  cases i with
  | true =>
    have e : ptOk x y true = decide (x = 0 ∧ y = 0) := rfl
    rw [e]
    by_cases hx : x = 0
    · by_cases hy : y = 0
      · rw [decide_eq_true ⟨hx, hy⟩]; exact is3_i0 x y hX hY hx hy w
      · rw [decide_eq_false (fun c => hy c.2)]; exact is3_iy x y hX hY hx hy w
    · rw [decide_eq_false (fun c => hx c.1)]; exact is3_ix x y hX hY hx w
  | false =>
    have e : ptOk x y false = decide (x < PP ∧ y < PP ∧ mM y y = sqM x) := rfl
    rw [e]
    by_cases hx : x < PP
    · by_cases hy : y < PP
      · by_cases hc : mM y y = sqM x
        · rw [decide_eq_true ⟨hx, hy, hc⟩]; exact is3_on x y hX hY hx hy hc w
        · rw [decide_eq_false (fun c => hc c.2.2)]; exact is3_off x y hX hY hx hy hc w
      · rw [decide_eq_false (fun c => hy c.2.1)]; exact is3_y x y hX hY hx hy w
    · rw [decide_eq_false (fun c => hx c.1)]; exact is3_x x y hX hY hx w
end Go.Proofs.YtgmfecncfekjfaaDoor
