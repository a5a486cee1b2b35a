/- The reference's curve: which points are points; a point with a denominator, and without. -/
import Derived.Test.YtfkpbcionlidaaaDoorRf3A
namespace Go.Proofs.YtfkpbcionlidaaaDoor
open Go Go.RowKit Go.Lib
attribute [local go_sem] run_eq4

set_option maxRecDepth 100000 in
set_option maxHeartbeats 4000000 in
theorem is3_i0 (x y : Nat) (hX : x < R256) (hY : y < R256) (hx : x = 0) (hy : y = 0) (w : World) :
  Calls Tryd.prog 38 #[.agg #[.int .u64 (limb (x) 0 : Nat), .int .u64 (limb (x) 1 : Nat), .int .u64 (limb (x) 2 : Nat), .int .u64 (limb (x) 3 : Nat), .int .u64 (limb (y) 0 : Nat), .int .u64 (limb (y) 1 : Nat), .int .u64 (limb (y) 2 : Nat), .int .u64 (limb (y) 3 : Nat), .bool true]] w fun e w' => e = .returned (.bool true) ∧ Below w.heap.size w w' := by
 have K1 : Hid (rfZ x true) := rfZ_of hX (decide_eq_true hx)
 have K2 : Hid (rfZ y true) := rfZ_of hY (decide_eq_true hy)
 obtain ⟨w0, hw0⟩ : ∃ wq, wq = (w.alloc (.cells #[.int .u64 (limb (x) 0 : Nat), .int .u64 (limb (x) 1 : Nat), .int .u64 (limb (x) 2 : Nat), .int .u64 (limb (x) 3 : Nat), .int .u64 (limb (y) 0 : Nat), .int .u64 (limb (y) 1 : Nat), .int .u64 (limb (y) 2 : Nat), .int .u64 (limb (y) 3 : Nat), .bool true] 45)) := ⟨_, rfl⟩
 have H0 : Hid (OwnC w0 (w.heap.size) (ptL x y true)) ∧ Hid (Below w.heap.size w w0) := by
  rw [hw0]
  exact ⟨(OwnC.new' rfl), below_alloc0 (Below.refl _ _) _⟩
 obtain ⟨P0_0, W_0⟩ := H0
 clear hX hY hx hy
 go_enter Tryd.func38, Tryd.ntmps38
 go_upto_region 1 with fail
 rw [← hw0]
 clear hw0
 obtain ⟨iP0z, iP00, iP01, iP02, iP03, iP04, iP05, iP06, iP07, iP08, iP0f⟩ := (P0_0.out).pt
 go_upto_region 2 with fail
 clear iP0z iP00 iP01 iP02 iP03 iP04 iP05 iP06 iP07 iP08 iP0f
 obtain ⟨fP0z, fP00, fP01, fP02, fP03, fP04, fP05, fP06, fP07, fP08, fP0f⟩ := (P0_0.out).pt
 go_wp2_with fail
 clear fP0z fP00 fP01 fP02 fP03 fP04 fP05 fP06 fP07 fP08 fP0f
 refine (K1.out _).mono ?_
 rintro e w1 ⟨rfl, hq⟩
 have P0_1 : Hid (OwnC w1 (w.heap.size) (ptL x y true)) := OwnC.call P0_0.out hq
 have W_1 : Hid (Below w.heap.size w w1) := below_call0 W_0.out hq
 clear hq P0_0 W_0
 obtain ⟨fP0z, fP00, fP01, fP02, fP03, fP04, fP05, fP06, fP07, fP08, fP0f⟩ := (P0_1.out).pt
 go_wp2_with fail
 clear fP0z fP00 fP01 fP02 fP03 fP04 fP05 fP06 fP07 fP08 fP0f
 refine (K2.out _).mono ?_
 rintro e w2 ⟨rfl, hq⟩
 have P0_2 : Hid (OwnC w2 (w.heap.size) (ptL x y true)) := OwnC.call P0_1.out hq
 have W_2 : Hid (Below w.heap.size w w2) := below_call0 W_1.out hq
 clear hq P0_1 W_1
 go_wp2_with fail
 go_ret
 exact ⟨rfl, W_2.out⟩
set_option maxRecDepth 100000 in
set_option maxHeartbeats 4000000 in
theorem is3_ix (x y : Nat) (hX : x < R256) (_hY : y < R256) (hx : x ≠ 0) (w : World) :
  Calls Tryd.prog 38 #[.agg #[.int .u64 (limb (x) 0 : Nat), .int .u64 (limb (x) 1 : Nat), .int .u64 (limb (x) 2 : Nat), .int .u64 (limb (x) 3 : Nat), .int .u64 (limb (y) 0 : Nat), .int .u64 (limb (y) 1 : Nat), .int .u64 (limb (y) 2 : Nat), .int .u64 (limb (y) 3 : Nat), .bool true]] w fun e w' => e = .returned (.bool false) ∧ Below w.heap.size w w' := by
 have K1 : Hid (rfZ x false) := rfZ_of hX (decide_eq_false hx)
 obtain ⟨w0, hw0⟩ : ∃ wq, wq = (w.alloc (.cells #[.int .u64 (limb (x) 0 : Nat), .int .u64 (limb (x) 1 : Nat), .int .u64 (limb (x) 2 : Nat), .int .u64 (limb (x) 3 : Nat), .int .u64 (limb (y) 0 : Nat), .int .u64 (limb (y) 1 : Nat), .int .u64 (limb (y) 2 : Nat), .int .u64 (limb (y) 3 : Nat), .bool true] 45)) := ⟨_, rfl⟩
 have H0 : Hid (OwnC w0 (w.heap.size) (ptL x y true)) ∧ Hid (Below w.heap.size w w0) := by
  rw [hw0]
  exact ⟨(OwnC.new' rfl), below_alloc0 (Below.refl _ _) _⟩
 obtain ⟨P0_0, W_0⟩ := H0
 clear hX hx
 go_enter Tryd.func38, Tryd.ntmps38
 go_upto_region 1 with fail
 rw [← hw0]
 clear hw0
 obtain ⟨iP0z, iP00, iP01, iP02, iP03, iP04, iP05, iP06, iP07, iP08, iP0f⟩ := (P0_0.out).pt
 go_upto_region 2 with fail
 clear iP0z iP00 iP01 iP02 iP03 iP04 iP05 iP06 iP07 iP08 iP0f
 obtain ⟨fP0z, fP00, fP01, fP02, fP03, fP04, fP05, fP06, fP07, fP08, fP0f⟩ := (P0_0.out).pt
 go_wp2_with fail
 clear fP0z fP00 fP01 fP02 fP03 fP04 fP05 fP06 fP07 fP08 fP0f
 refine (K1.out _).mono ?_
 rintro e w1 ⟨rfl, hq⟩
 have P0_1 : Hid (OwnC w1 (w.heap.size) (ptL x y true)) := OwnC.call P0_0.out hq
 have W_1 : Hid (Below w.heap.size w w1) := below_call0 W_0.out hq
 clear hq P0_0 W_0
 go_wp2_with fail
 go_ret
 exact ⟨rfl, W_1.out⟩
set_option maxRecDepth 100000 in
set_option maxHeartbeats 4000000 in
theorem is3_iy (x y : Nat) (hX : x < R256) (hY : y < R256) (hx : x = 0) (hy : y ≠ 0) (w : World) :
  Calls Tryd.prog 38 #[.agg #[.int .u64 (limb (x) 0 : Nat), .int .u64 (limb (x) 1 : Nat), .int .u64 (limb (x) 2 : Nat), .int .u64 (limb (x) 3 : Nat), .int .u64 (limb (y) 0 : Nat), .int .u64 (limb (y) 1 : Nat), .int .u64 (limb (y) 2 : Nat), .int .u64 (limb (y) 3 : Nat), .bool true]] w fun e w' => e = .returned (.bool false) ∧ Below w.heap.size w w' := by
 have K1 : Hid (rfZ x true) := rfZ_of hX (decide_eq_true hx)
 have K2 : Hid (rfZ y false) := rfZ_of hY (decide_eq_false hy)
 obtain ⟨w0, hw0⟩ : ∃ wq, wq = (w.alloc (.cells #[.int .u64 (limb (x) 0 : Nat), .int .u64 (limb (x) 1 : Nat), .int .u64 (limb (x) 2 : Nat), .int .u64 (limb (x) 3 : Nat), .int .u64 (limb (y) 0 : Nat), .int .u64 (limb (y) 1 : Nat), .int .u64 (limb (y) 2 : Nat), .int .u64 (limb (y) 3 : Nat), .bool true] 45)) := ⟨_, rfl⟩
 have H0 : Hid (OwnC w0 (w.heap.size) (ptL x y true)) ∧ Hid (Below w.heap.size w w0) := by
  rw [hw0]
  exact ⟨(OwnC.new' rfl), below_alloc0 (Below.refl _ _) _⟩
 obtain ⟨P0_0, W_0⟩ := H0
 clear hX hY hx hy
 go_enter Tryd.func38, Tryd.ntmps38
 go_upto_region 1 with fail
 rw [← hw0]
 clear hw0
 obtain ⟨iP0z, iP00, iP01, iP02, iP03, iP04, iP05, iP06, iP07, iP08, iP0f⟩ := (P0_0.out).pt
 go_upto_region 2 with fail
 clear iP0z iP00 iP01 iP02 iP03 iP04 iP05 iP06 iP07 iP08 iP0f
 obtain ⟨fP0z, fP00, fP01, fP02, fP03, fP04, fP05, fP06, fP07, fP08, fP0f⟩ := (P0_0.out).pt
 go_wp2_with fail
 clear fP0z fP00 fP01 fP02 fP03 fP04 fP05 fP06 fP07 fP08 fP0f
 refine (K1.out _).mono ?_
 rintro e w1 ⟨rfl, hq⟩
 have P0_1 : Hid (OwnC w1 (w.heap.size) (ptL x y true)) := OwnC.call P0_0.out hq
 have W_1 : Hid (Below w.heap.size w w1) := below_call0 W_0.out hq
 clear hq P0_0 W_0
 obtain ⟨fP0z, fP00, fP01, fP02, fP03, fP04, fP05, fP06, fP07, fP08, fP0f⟩ := (P0_1.out).pt
 go_wp2_with fail
 clear fP0z fP00 fP01 fP02 fP03 fP04 fP05 fP06 fP07 fP08 fP0f
 refine (K2.out _).mono ?_
 rintro e w2 ⟨rfl, hq⟩
 have P0_2 : Hid (OwnC w2 (w.heap.size) (ptL x y true)) := OwnC.call P0_1.out hq
 have W_2 : Hid (Below w.heap.size w w2) := below_call0 W_1.out hq
 clear hq P0_1 W_1
 go_wp2_with fail
 go_ret
 exact ⟨rfl, W_2.out⟩
set_option maxRecDepth 100000 in
set_option maxHeartbeats 4000000 in
theorem is3_x (x y : Nat) (hX : x < R256) (_hY : y < R256) (hx : ¬ x < PP) (w : World) :
  Calls Tryd.prog 38 #[.agg #[.int .u64 (limb (x) 0 : Nat), .int .u64 (limb (x) 1 : Nat), .int .u64 (limb (x) 2 : Nat), .int .u64 (limb (x) 3 : Nat), .int .u64 (limb (y) 0 : Nat), .int .u64 (limb (y) 1 : Nat), .int .u64 (limb (y) 2 : Nat), .int .u64 (limb (y) 3 : Nat), .bool false]] w fun e w' => e = .returned (.bool false) ∧ Below w.heap.size w w' := by
 have K1 : Hid (∀ w, Calls Tryd.prog 40 #[] w fun e w' => e = .returned (.agg #[.int .u64 (limb (PP) 0 : Nat), .int .u64 (limb (PP) 1 : Nat), .int .u64 (limb (PP) 2 : Nat), .int .u64 (limb (PP) 3 : Nat), .int .u64 (limb (R256 - (PP)) 0 : Nat), .int .u64 (limb (R256 - (PP)) 1 : Nat), .int .u64 (limb (R256 - (PP)) 2 : Nat), .int .u64 (limb (R256 - (PP)) 3 : Nat)]) ∧ Below w.heap.size w w') := fun w => base2_any w
 have K2 : Hid (∀ w, Calls Tryd.prog 27 #[.agg #[.int .u64 (limb (PP) 0 : Nat), .int .u64 (limb (PP) 1 : Nat), .int .u64 (limb (PP) 2 : Nat), .int .u64 (limb (PP) 3 : Nat), .int .u64 (limb (R256 - (PP)) 0 : Nat), .int .u64 (limb (R256 - (PP)) 1 : Nat), .int .u64 (limb (R256 - (PP)) 2 : Nat), .int .u64 (limb (R256 - (PP)) 3 : Nat)], .agg #[.int .u64 (limb (x) 0 : Nat), .int .u64 (limb (x) 1 : Nat), .int .u64 (limb (x) 2 : Nat), .int .u64 (limb (x) 3 : Nat)]] w fun e w' => e = .returned (.bool false) ∧ Below w.heap.size w w') := fun w => has2_b PP x false FM_P.2.1 hX (decide_eq_false hx) w
 obtain ⟨w0, hw0⟩ : ∃ wq, wq = (w.alloc (.cells #[.int .u64 (limb (x) 0 : Nat), .int .u64 (limb (x) 1 : Nat), .int .u64 (limb (x) 2 : Nat), .int .u64 (limb (x) 3 : Nat), .int .u64 (limb (y) 0 : Nat), .int .u64 (limb (y) 1 : Nat), .int .u64 (limb (y) 2 : Nat), .int .u64 (limb (y) 3 : Nat), .bool false] 45)) := ⟨_, rfl⟩
 have H0 : Hid (OwnC w0 (w.heap.size) (ptL x y false)) ∧ Hid (Below w.heap.size w w0) := by
  rw [hw0]
  exact ⟨(OwnC.new' rfl), below_alloc0 (Below.refl _ _) _⟩
 obtain ⟨P0_0, W_0⟩ := H0
 clear hX hx
 go_enter Tryd.func38, Tryd.ntmps38
 go_upto_region 1 with fail
 rw [← hw0]
 clear hw0
 obtain ⟨iP0z, iP00, iP01, iP02, iP03, iP04, iP05, iP06, iP07, iP08, iP0f⟩ := (P0_0.out).pt
 go_upto_region 3 with fail
 clear iP0z iP00 iP01 iP02 iP03 iP04 iP05 iP06 iP07 iP08 iP0f
 go_upto_region 3 with fail
 go_cut [3] (fun vq3 wx => ∃ bk3, vq3 = .pointer (some ⟨bk3, 0, none⟩) ∧ w0.heap.size ≤ bk3 ∧ OwnC wx bk3 (fvL PP) ∧ Below w0.heap.size w0 wx)
 case first =>
  go_wp2_with fail
  refine (K1.out _).mono ?_
  rintro e wx0 ⟨rfl, hq0⟩
  go_wp2_with fail
  go_meet
  exact ⟨_, rfl, hq0.size, OwnC.new' rfl, below_alloc0 hq0 _⟩
 case rest =>
  obtain ⟨bk3, rfl, hle, hO, hB⟩ := hcut
  have P0_1 : Hid (OwnC wc (w.heap.size) (ptL x y false)) := OwnC.call P0_0.out hB
  have W_1 : Hid (Below w.heap.size w wc) := below_call0 W_0.out hB
  have V3_1 : Hid (OwnC wc bk3 (fvL PP)) := hO
  clear hB P0_0 W_0
  clear hO hle
  generalize wc = w1 at P0_1 W_1 V3_1 ⊢
  go_upto_region 4 with fail
  refine wp_region_J 22 0 [?v0r4, ?v1r4, ?v2r4, ?v3r4, ?v4r4, ?v5r4, ?v6r4, ?v7r4, ?v8r4, ?v9r4, ?v10r4, ?v11r4, ?v12r4, ?v13r4, ?v14r4, ?v15r4, ?v16r4, ?v17r4, ?v18r4, ?v19r4, ?v20r4, ?v21r4] [some 15, some 16, some 17, some 18, some 19, some 20, some 21, some 22, some 23, some 24, some 25, some 26, some 27, some 28, some 29, some 30, some 31, some 32, some 33, some 34, some 35, some 36] ?Ar4 (by kernel_rfl) (by kernel_rfl) (by kernel_rfl) rfl ?hAr4 ?hopr4 ?hfinr4
  case hAr4 =>
   simp only [List.set_cons_zero, List.set_cons_succ, List.zip_cons_cons, List.zip_nil_right, fillD, Act.put, List.setIfInBounds_toArray]
   exact rfl
  case hopr4 =>
   refine ⟨?_, ?_, ?_, ?_, ?_, ?_, ?_, ?_, ?_, ?_, ?_, ?_, ?_, ?_, ?_, ?_, ?_, ?_, ?_, ?_, ?_, ?_, trivial⟩
   focus (intro _ bq wx hS; refine OpTo.yields rfl ?_; obtain ⟨_, _, _, _, _, _, _, _, _, _⟩ := (OwnC.call V3_1.out hS).fv; clear hS; go_simp; try with_reducible rfl)
   focus (intro _ bq wx hS; refine OpTo.yields rfl ?_; clear hS; go_simp; try with_reducible rfl)
   focus (intro _ bq wx hS; refine OpTo.yields rfl ?_; obtain ⟨_, _, _, _, _, _, _, _, _, _, _⟩ := (OwnC.call P0_1.out hS).pt; clear hS; go_simp; try with_reducible rfl)
   focus (intro _ bq wx hS; refine OpTo.calls rfl ?_ ?_; rotate_left; intro K hK; go_simp; refine (K2.out _).mono ?_; rintro e w' ⟨rfl, hq⟩; exact hK w' hq; exact rfl)
   focus (intro _ bq wx hS; refine OpTo.yields rfl ?_; clear hS; go_simp; try with_reducible rfl)
   iterate 4 focus (intro _ bq wx hS; refine OpTo.no ?_; exact rfl)
   iterate 2 focus (intro _ bq wx hS; refine OpTo.yields rfl ?_; clear hS; go_simp; try with_reducible rfl)
   iterate 10 focus (intro _ bq wx hS; refine OpTo.no ?_; exact rfl)
   focus (intro _ bq wx hS; refine OpTo.yields rfl ?_; clear hS; go_simp; try with_reducible rfl)
  case hfinr4 =>
   intro wx hS
   refine tail_at (o := ?ofr4_22) ?hir4_22 ?hwr4_22 ?_
   case hir4_22 => rw [List.getElem?_toArray]; exact rfl
   case hwr4_22 => exact rfl
   go_simp
   refine tail_end ?_
   go_wp2_with fail
   go_ret
   exact ⟨rfl, below_call0 W_1.out hS⟩
set_option maxRecDepth 100000 in
set_option maxHeartbeats 4000000 in
theorem is3_y (x y : Nat) (hX : x < R256) (hY : y < R256) (hx : x < PP) (hy : ¬ y < PP) (w : World) :
  Calls Tryd.prog 38 #[.agg #[.int .u64 (limb (x) 0 : Nat), .int .u64 (limb (x) 1 : Nat), .int .u64 (limb (x) 2 : Nat), .int .u64 (limb (x) 3 : Nat), .int .u64 (limb (y) 0 : Nat), .int .u64 (limb (y) 1 : Nat), .int .u64 (limb (y) 2 : Nat), .int .u64 (limb (y) 3 : Nat), .bool false]] w fun e w' => e = .returned (.bool false) ∧ Below w.heap.size w w' := by
 have K1 : Hid (∀ w, Calls Tryd.prog 40 #[] w fun e w' => e = .returned (.agg #[.int .u64 (limb (PP) 0 : Nat), .int .u64 (limb (PP) 1 : Nat), .int .u64 (limb (PP) 2 : Nat), .int .u64 (limb (PP) 3 : Nat), .int .u64 (limb (R256 - (PP)) 0 : Nat), .int .u64 (limb (R256 - (PP)) 1 : Nat), .int .u64 (limb (R256 - (PP)) 2 : Nat), .int .u64 (limb (R256 - (PP)) 3 : Nat)]) ∧ Below w.heap.size w w') := fun w => base2_any w
 have K2 : Hid (∀ w, Calls Tryd.prog 27 #[.agg #[.int .u64 (limb (PP) 0 : Nat), .int .u64 (limb (PP) 1 : Nat), .int .u64 (limb (PP) 2 : Nat), .int .u64 (limb (PP) 3 : Nat), .int .u64 (limb (R256 - (PP)) 0 : Nat), .int .u64 (limb (R256 - (PP)) 1 : Nat), .int .u64 (limb (R256 - (PP)) 2 : Nat), .int .u64 (limb (R256 - (PP)) 3 : Nat)], .agg #[.int .u64 (limb (x) 0 : Nat), .int .u64 (limb (x) 1 : Nat), .int .u64 (limb (x) 2 : Nat), .int .u64 (limb (x) 3 : Nat)]] w fun e w' => e = .returned (.bool true) ∧ Below w.heap.size w w') := fun w => has2_b PP x true FM_P.2.1 hX (decide_eq_true hx) w
 have K3 : Hid (∀ w, Calls Tryd.prog 27 #[.agg #[.int .u64 (limb (PP) 0 : Nat), .int .u64 (limb (PP) 1 : Nat), .int .u64 (limb (PP) 2 : Nat), .int .u64 (limb (PP) 3 : Nat), .int .u64 (limb (R256 - (PP)) 0 : Nat), .int .u64 (limb (R256 - (PP)) 1 : Nat), .int .u64 (limb (R256 - (PP)) 2 : Nat), .int .u64 (limb (R256 - (PP)) 3 : Nat)], .agg #[.int .u64 (limb (y) 0 : Nat), .int .u64 (limb (y) 1 : Nat), .int .u64 (limb (y) 2 : Nat), .int .u64 (limb (y) 3 : Nat)]] w fun e w' => e = .returned (.bool false) ∧ Below w.heap.size w w') := fun w => has2_b PP y false FM_P.2.1 hY (decide_eq_false hy) w
 obtain ⟨w0, hw0⟩ : ∃ wq, wq = (w.alloc (.cells #[.int .u64 (limb (x) 0 : Nat), .int .u64 (limb (x) 1 : Nat), .int .u64 (limb (x) 2 : Nat), .int .u64 (limb (x) 3 : Nat), .int .u64 (limb (y) 0 : Nat), .int .u64 (limb (y) 1 : Nat), .int .u64 (limb (y) 2 : Nat), .int .u64 (limb (y) 3 : Nat), .bool false] 45)) := ⟨_, rfl⟩
 have H0 : Hid (OwnC w0 (w.heap.size) (ptL x y false)) ∧ Hid (Below w.heap.size w w0) := by
  rw [hw0]
  exact ⟨(OwnC.new' rfl), below_alloc0 (Below.refl _ _) _⟩
 obtain ⟨P0_0, W_0⟩ := H0
 clear hX hY hx hy
 go_enter Tryd.func38, Tryd.ntmps38
 go_upto_region 1 with fail
 rw [← hw0]
 clear hw0
 obtain ⟨iP0z, iP00, iP01, iP02, iP03, iP04, iP05, iP06, iP07, iP08, iP0f⟩ := (P0_0.out).pt
 go_upto_region 3 with fail
 clear iP0z iP00 iP01 iP02 iP03 iP04 iP05 iP06 iP07 iP08 iP0f
 go_upto_region 3 with fail
 go_cut [3] (fun vq3 wx => ∃ bk3, vq3 = .pointer (some ⟨bk3, 0, none⟩) ∧ w0.heap.size ≤ bk3 ∧ OwnC wx bk3 (fvL PP) ∧ Below w0.heap.size w0 wx)
 case first =>
  go_wp2_with fail
  refine (K1.out _).mono ?_
  rintro e wx0 ⟨rfl, hq0⟩
  go_wp2_with fail
  go_meet
  exact ⟨_, rfl, hq0.size, OwnC.new' rfl, below_alloc0 hq0 _⟩
 case rest =>
  obtain ⟨bk3, rfl, hle, hO, hB⟩ := hcut
  have P0_1 : Hid (OwnC wc (w.heap.size) (ptL x y false)) := OwnC.call P0_0.out hB
  have W_1 : Hid (Below w.heap.size w wc) := below_call0 W_0.out hB
  have V3_1 : Hid (OwnC wc bk3 (fvL PP)) := hO
  clear hB P0_0 W_0
  clear hO hle
  generalize wc = w1 at P0_1 W_1 V3_1 ⊢
  go_upto_region 4 with fail
  refine wp_region_J 22 0 [?v0r4, ?v1r4, ?v2r4, ?v3r4, ?v4r4, ?v5r4, ?v6r4, ?v7r4, ?v8r4, ?v9r4, ?v10r4, ?v11r4, ?v12r4, ?v13r4, ?v14r4, ?v15r4, ?v16r4, ?v17r4, ?v18r4, ?v19r4, ?v20r4, ?v21r4] [some 15, some 16, some 17, some 18, some 19, some 20, some 21, some 22, some 23, some 24, some 25, some 26, some 27, some 28, some 29, some 30, some 31, some 32, some 33, some 34, some 35, some 36] ?Ar4 (by kernel_rfl) (by kernel_rfl) (by kernel_rfl) rfl ?hAr4 ?hopr4 ?hfinr4
  case hAr4 =>
   simp only [List.set_cons_zero, List.set_cons_succ, List.zip_cons_cons, List.zip_nil_right, fillD, Act.put, List.setIfInBounds_toArray]
   exact rfl
  case hopr4 =>
   refine ⟨?_, ?_, ?_, ?_, ?_, ?_, ?_, ?_, ?_, ?_, ?_, ?_, ?_, ?_, ?_, ?_, ?_, ?_, ?_, ?_, ?_, ?_, trivial⟩
   focus (intro _ bq wx hS; refine OpTo.yields rfl ?_; obtain ⟨_, _, _, _, _, _, _, _, _, _⟩ := (OwnC.call V3_1.out hS).fv; clear hS; go_simp; try with_reducible rfl)
   focus (intro _ bq wx hS; refine OpTo.yields rfl ?_; clear hS; go_simp; try with_reducible rfl)
   focus (intro _ bq wx hS; refine OpTo.yields rfl ?_; obtain ⟨_, _, _, _, _, _, _, _, _, _, _⟩ := (OwnC.call P0_1.out hS).pt; clear hS; go_simp; try with_reducible rfl)
   focus (intro _ bq wx hS; refine OpTo.calls rfl ?_ ?_; rotate_left; intro K hK; go_simp; refine (K2.out _).mono ?_; rintro e w' ⟨rfl, hq⟩; exact hK w' hq; exact rfl)
   focus (intro _ bq wx hS; refine OpTo.yields rfl ?_; clear hS; go_simp; try with_reducible rfl)
   focus (intro _ bq wx hS; refine OpTo.yields rfl ?_; obtain ⟨_, _, _, _, _, _, _, _, _, _⟩ := (OwnC.call V3_1.out hS).fv; clear hS; go_simp; try with_reducible rfl)
   focus (intro _ bq wx hS; refine OpTo.yields rfl ?_; clear hS; go_simp; try with_reducible rfl)
   focus (intro _ bq wx hS; refine OpTo.yields rfl ?_; obtain ⟨_, _, _, _, _, _, _, _, _, _, _⟩ := (OwnC.call P0_1.out hS).pt; clear hS; go_simp; try with_reducible rfl)
   focus (intro _ bq wx hS; refine OpTo.calls rfl ?_ ?_; rotate_left; intro K hK; go_simp; refine (K3.out _).mono ?_; rintro e w' ⟨rfl, hq⟩; exact hK w' hq; exact rfl)
   iterate 2 focus (intro _ bq wx hS; refine OpTo.yields rfl ?_; clear hS; go_simp; try with_reducible rfl)
   iterate 10 focus (intro _ bq wx hS; refine OpTo.no ?_; exact rfl)
   focus (intro _ bq wx hS; refine OpTo.yields rfl ?_; clear hS; go_simp; try with_reducible rfl)
  case hfinr4 =>
   intro wx hS
   refine tail_at (o := ?ofr4_22) ?hir4_22 ?hwr4_22 ?_
   case hir4_22 => rw [List.getElem?_toArray]; exact rfl
   case hwr4_22 => exact rfl
   go_simp
   refine tail_end ?_
   go_wp2_with fail
   go_ret
   exact ⟨rfl, below_call0 W_1.out hS⟩
set_option maxRecDepth 100000 in
set_option maxHeartbeats 4000000 in
theorem is3_on (x y : Nat) (hX : x < R256) (hY : y < R256) (hx : x < PP) (hy : y < PP) (hc : mM y y = sqM x) (w : World) :
  Calls Tryd.prog 38 #[.agg #[.int .u64 (limb (x) 0 : Nat), .int .u64 (limb (x) 1 : Nat), .int .u64 (limb (x) 2 : Nat), .int .u64 (limb (x) 3 : Nat), .int .u64 (limb (y) 0 : Nat), .int .u64 (limb (y) 1 : Nat), .int .u64 (limb (y) 2 : Nat), .int .u64 (limb (y) 3 : Nat), .bool false]] w fun e w' => e = .returned (.bool true) ∧ Below w.heap.size w w' := by
 have K1 : Hid (∀ w, Calls Tryd.prog 40 #[] w fun e w' => e = .returned (.agg #[.int .u64 (limb (PP) 0 : Nat), .int .u64 (limb (PP) 1 : Nat), .int .u64 (limb (PP) 2 : Nat), .int .u64 (limb (PP) 3 : Nat), .int .u64 (limb (R256 - (PP)) 0 : Nat), .int .u64 (limb (R256 - (PP)) 1 : Nat), .int .u64 (limb (R256 - (PP)) 2 : Nat), .int .u64 (limb (R256 - (PP)) 3 : Nat)]) ∧ Below w.heap.size w w') := fun w => base2_any w
 have K2 : Hid (∀ w, Calls Tryd.prog 27 #[.agg #[.int .u64 (limb (PP) 0 : Nat), .int .u64 (limb (PP) 1 : Nat), .int .u64 (limb (PP) 2 : Nat), .int .u64 (limb (PP) 3 : Nat), .int .u64 (limb (R256 - (PP)) 0 : Nat), .int .u64 (limb (R256 - (PP)) 1 : Nat), .int .u64 (limb (R256 - (PP)) 2 : Nat), .int .u64 (limb (R256 - (PP)) 3 : Nat)], .agg #[.int .u64 (limb (x) 0 : Nat), .int .u64 (limb (x) 1 : Nat), .int .u64 (limb (x) 2 : Nat), .int .u64 (limb (x) 3 : Nat)]] w fun e w' => e = .returned (.bool true) ∧ Below w.heap.size w w') := fun w => has2_b PP x true FM_P.2.1 hX (decide_eq_true hx) w
 have K3 : Hid (∀ w, Calls Tryd.prog 27 #[.agg #[.int .u64 (limb (PP) 0 : Nat), .int .u64 (limb (PP) 1 : Nat), .int .u64 (limb (PP) 2 : Nat), .int .u64 (limb (PP) 3 : Nat), .int .u64 (limb (R256 - (PP)) 0 : Nat), .int .u64 (limb (R256 - (PP)) 1 : Nat), .int .u64 (limb (R256 - (PP)) 2 : Nat), .int .u64 (limb (R256 - (PP)) 3 : Nat)], .agg #[.int .u64 (limb (y) 0 : Nat), .int .u64 (limb (y) 1 : Nat), .int .u64 (limb (y) 2 : Nat), .int .u64 (limb (y) 3 : Nat)]] w fun e w' => e = .returned (.bool true) ∧ Below w.heap.size w w') := fun w => has2_b PP y true FM_P.2.1 hY (decide_eq_true hy) w
 obtain ⟨c1, ec1⟩ : ∃ uq, uq = mM y y := ⟨_, rfl⟩
 have lc1 : c1 < PP := by rw [ec1]; exact mM_lt _ _
 have K4 : Hid (rfM y y c1) := rfM_of hy hy ec1
 obtain ⟨c2, ec2⟩ : ∃ uq, uq = sqM x := ⟨_, rfl⟩
 have lc2 : c2 < PP := by rw [ec2]; exact sqM_lt _
 have K5 : Hid (∀ w, Calls Tryd.prog 60 #[.agg #[.int .u64 (limb (x) 0 : Nat), .int .u64 (limb (x) 1 : Nat), .int .u64 (limb (x) 2 : Nat), .int .u64 (limb (x) 3 : Nat)]] w fun e w' => e = .returned (.agg #[.int .u64 (limb (c2) 0 : Nat), .int .u64 (limb (c2) 1 : Nat), .int .u64 (limb (c2) 2 : Nat), .int .u64 (limb (c2) 3 : Nat)]) ∧ Below w.heap.size w w') := fun w => cubic3_any x c2 hx ec2 w
 rw [← ec1, ← ec2] at hc
 have he : eq4 (limb c1 0 : Nat) (limb c1 1 : Nat) (limb c1 2 : Nat) (limb c1 3 : Nat) (limb c2 0 : Nat) (limb c2 1 : Nat) (limb c2 2 : Nat) (limb c2 3 : Nat) = true := by
  rw [eq4_num c1 c2 (lt_R lc1) (lt_R lc2)]; exact decide_eq_true hc
 obtain ⟨w0, hw0⟩ : ∃ wq, wq = (w.alloc (.cells #[.int .u64 (limb (x) 0 : Nat), .int .u64 (limb (x) 1 : Nat), .int .u64 (limb (x) 2 : Nat), .int .u64 (limb (x) 3 : Nat), .int .u64 (limb (y) 0 : Nat), .int .u64 (limb (y) 1 : Nat), .int .u64 (limb (y) 2 : Nat), .int .u64 (limb (y) 3 : Nat), .bool false] 45)) := ⟨_, rfl⟩
 have H0 : Hid (OwnC w0 (w.heap.size) (ptL x y false)) ∧ Hid (Below w.heap.size w w0) := by
  rw [hw0]
  exact ⟨(OwnC.new' rfl), below_alloc0 (Below.refl _ _) _⟩
 obtain ⟨P0_0, W_0⟩ := H0
 clear ec1 lc1 ec2 lc2 hX hY hx hy hc
 go_enter Tryd.func38, Tryd.ntmps38
 go_upto_region 1 with fail
 rw [← hw0]
 clear hw0
 obtain ⟨iP0z, iP00, iP01, iP02, iP03, iP04, iP05, iP06, iP07, iP08, iP0f⟩ := (P0_0.out).pt
 go_upto_region 3 with fail
 clear iP0z iP00 iP01 iP02 iP03 iP04 iP05 iP06 iP07 iP08 iP0f
 go_upto_region 3 with fail
 go_cut [3] (fun vq3 wx => ∃ bk3, vq3 = .pointer (some ⟨bk3, 0, none⟩) ∧ w0.heap.size ≤ bk3 ∧ OwnC wx bk3 (fvL PP) ∧ Below w0.heap.size w0 wx)
 case first =>
  go_wp2_with fail
  refine (K1.out _).mono ?_
  rintro e wx0 ⟨rfl, hq0⟩
  go_wp2_with fail
  go_meet
  exact ⟨_, rfl, hq0.size, OwnC.new' rfl, below_alloc0 hq0 _⟩
 case rest =>
  obtain ⟨bk3, rfl, hle, hO, hB⟩ := hcut
  have P0_1 : Hid (OwnC wc (w.heap.size) (ptL x y false)) := OwnC.call P0_0.out hB
  have W_1 : Hid (Below w.heap.size w wc) := below_call0 W_0.out hB
  have V3_1 : Hid (OwnC wc bk3 (fvL PP)) := hO
  clear hB P0_0 W_0
  clear hO hle
  generalize wc = w1 at P0_1 W_1 V3_1 ⊢
  go_upto_region 4 with fail
  refine wp_region_J 22 0 [?v0r4, ?v1r4, ?v2r4, ?v3r4, ?v4r4, ?v5r4, ?v6r4, ?v7r4, ?v8r4, ?v9r4, ?v10r4, ?v11r4, ?v12r4, ?v13r4, ?v14r4, ?v15r4, ?v16r4, ?v17r4, ?v18r4, ?v19r4, ?v20r4, ?v21r4] [some 15, some 16, some 17, some 18, some 19, some 20, some 21, some 22, some 23, some 24, some 25, some 26, some 27, some 28, some 29, some 30, some 31, some 32, some 33, some 34, some 35, some 36] ?Ar4 (by kernel_rfl) (by kernel_rfl) (by kernel_rfl) rfl ?hAr4 ?hopr4 ?hfinr4
  case hAr4 =>
   simp only [List.set_cons_zero, List.set_cons_succ, List.zip_cons_cons, List.zip_nil_right, fillD, Act.put, List.setIfInBounds_toArray]
   exact rfl
  case hopr4 =>
   refine ⟨?_, ?_, ?_, ?_, ?_, ?_, ?_, ?_, ?_, ?_, ?_, ?_, ?_, ?_, ?_, ?_, ?_, ?_, ?_, ?_, ?_, ?_, trivial⟩
   focus (intro _ bq wx hS; refine OpTo.yields rfl ?_; obtain ⟨_, _, _, _, _, _, _, _, _, _⟩ := (OwnC.call V3_1.out hS).fv; clear hS; go_simp; try with_reducible rfl)
   focus (intro _ bq wx hS; refine OpTo.yields rfl ?_; clear hS; go_simp; try with_reducible rfl)
   focus (intro _ bq wx hS; refine OpTo.yields rfl ?_; obtain ⟨_, _, _, _, _, _, _, _, _, _, _⟩ := (OwnC.call P0_1.out hS).pt; clear hS; go_simp; try with_reducible rfl)
   focus (intro _ bq wx hS; refine OpTo.calls rfl ?_ ?_; rotate_left; intro K hK; go_simp; refine (K2.out _).mono ?_; rintro e w' ⟨rfl, hq⟩; exact hK w' hq; exact rfl)
   focus (intro _ bq wx hS; refine OpTo.yields rfl ?_; clear hS; go_simp; try with_reducible rfl)
   focus (intro _ bq wx hS; refine OpTo.yields rfl ?_; obtain ⟨_, _, _, _, _, _, _, _, _, _⟩ := (OwnC.call V3_1.out hS).fv; clear hS; go_simp; try with_reducible rfl)
   focus (intro _ bq wx hS; refine OpTo.yields rfl ?_; clear hS; go_simp; try with_reducible rfl)
   focus (intro _ bq wx hS; refine OpTo.yields rfl ?_; obtain ⟨_, _, _, _, _, _, _, _, _, _, _⟩ := (OwnC.call P0_1.out hS).pt; clear hS; go_simp; try with_reducible rfl)
   focus (intro _ bq wx hS; refine OpTo.calls rfl ?_ ?_; rotate_left; intro K hK; go_simp; refine (K3.out _).mono ?_; rintro e w' ⟨rfl, hq⟩; exact hK w' hq; exact rfl)
   iterate 2 focus (intro _ bq wx hS; refine OpTo.yields rfl ?_; clear hS; go_simp; try with_reducible rfl)
   focus (intro _ bq wx hS; refine OpTo.yields rfl ?_; obtain ⟨_, _, _, _, _, _, _, _, _, _⟩ := (OwnC.call V3_1.out hS).fv; clear hS; go_simp; try with_reducible rfl)
   focus (intro _ bq wx hS; refine OpTo.yields rfl ?_; clear hS; go_simp; try with_reducible rfl)
   focus (intro _ bq wx hS; refine OpTo.yields rfl ?_; obtain ⟨_, _, _, _, _, _, _, _, _, _, _⟩ := (OwnC.call P0_1.out hS).pt; clear hS; go_simp; try with_reducible rfl)
   focus (intro _ bq wx hS; refine OpTo.yields rfl ?_; clear hS; go_simp; try with_reducible rfl)
   focus (intro _ bq wx hS; refine OpTo.yields rfl ?_; obtain ⟨_, _, _, _, _, _, _, _, _, _, _⟩ := (OwnC.call P0_1.out hS).pt; clear hS; go_simp; try with_reducible rfl)
   focus (intro _ bq wx hS; refine OpTo.calls rfl ?_ ?_; rotate_left; intro K hK; go_simp; refine (K4.out _).mono ?_; rintro e w' ⟨rfl, hq⟩; exact hK w' hq; exact rfl)
   focus (intro _ bq wx hS; refine OpTo.yields rfl ?_; clear hS; go_simp; try with_reducible rfl)
   focus (intro _ bq wx hS; refine OpTo.yields rfl ?_; obtain ⟨_, _, _, _, _, _, _, _, _, _, _⟩ := (OwnC.call P0_1.out hS).pt; clear hS; go_simp; try with_reducible rfl)
   focus (intro _ bq wx hS; refine OpTo.calls rfl ?_ ?_; rotate_left; intro K hK; go_simp; refine (K5.out _).mono ?_; rintro e w' ⟨rfl, hq⟩; exact hK w' hq; exact rfl)
   iterate 2 focus (intro _ bq wx hS; refine OpTo.yields rfl ?_; clear hS; go_simp; try with_reducible rfl)
  case hfinr4 =>
   intro wx hS
   refine tail_at (o := ?ofr4_22) ?hir4_22 ?hwr4_22 ?_
   case hir4_22 => rw [List.getElem?_toArray]; exact rfl
   case hwr4_22 => exact rfl
   go_simp
   refine tail_end ?_
   go_wp2_with fail
   go_ret
   exact ⟨rfl, below_call0 W_1.out hS⟩
set_option maxRecDepth 100000 in
set_option maxHeartbeats 4000000 in
theorem is3_off (x y : Nat) (hX : x < R256) (hY : y < R256) (hx : x < PP) (hy : y < PP) (hc : mM y y ≠ sqM x) (w : World) :
  Calls Tryd.prog 38 #[.agg #[.int .u64 (limb (x) 0 : Nat), .int .u64 (limb (x) 1 : Nat), .int .u64 (limb (x) 2 : Nat), .int .u64 (limb (x) 3 : Nat), .int .u64 (limb (y) 0 : Nat), .int .u64 (limb (y) 1 : Nat), .int .u64 (limb (y) 2 : Nat), .int .u64 (limb (y) 3 : Nat), .bool false]] w fun e w' => e = .returned (.bool false) ∧ Below w.heap.size w w' := by
 have K1 : Hid (∀ w, Calls Tryd.prog 40 #[] w fun e w' => e = .returned (.agg #[.int .u64 (limb (PP) 0 : Nat), .int .u64 (limb (PP) 1 : Nat), .int .u64 (limb (PP) 2 : Nat), .int .u64 (limb (PP) 3 : Nat), .int .u64 (limb (R256 - (PP)) 0 : Nat), .int .u64 (limb (R256 - (PP)) 1 : Nat), .int .u64 (limb (R256 - (PP)) 2 : Nat), .int .u64 (limb (R256 - (PP)) 3 : Nat)]) ∧ Below w.heap.size w w') := fun w => base2_any w
 have K2 : Hid (∀ w, Calls Tryd.prog 27 #[.agg #[.int .u64 (limb (PP) 0 : Nat), .int .u64 (limb (PP) 1 : Nat), .int .u64 (limb (PP) 2 : Nat), .int .u64 (limb (PP) 3 : Nat), .int .u64 (limb (R256 - (PP)) 0 : Nat), .int .u64 (limb (R256 - (PP)) 1 : Nat), .int .u64 (limb (R256 - (PP)) 2 : Nat), .int .u64 (limb (R256 - (PP)) 3 : Nat)], .agg #[.int .u64 (limb (x) 0 : Nat), .int .u64 (limb (x) 1 : Nat), .int .u64 (limb (x) 2 : Nat), .int .u64 (limb (x) 3 : Nat)]] w fun e w' => e = .returned (.bool true) ∧ Below w.heap.size w w') := fun w => has2_b PP x true FM_P.2.1 hX (decide_eq_true hx) w
 have K3 : Hid (∀ w, Calls Tryd.prog 27 #[.agg #[.int .u64 (limb (PP) 0 : Nat), .int .u64 (limb (PP) 1 : Nat), .int .u64 (limb (PP) 2 : Nat), .int .u64 (limb (PP) 3 : Nat), .int .u64 (limb (R256 - (PP)) 0 : Nat), .int .u64 (limb (R256 - (PP)) 1 : Nat), .int .u64 (limb (R256 - (PP)) 2 : Nat), .int .u64 (limb (R256 - (PP)) 3 : Nat)], .agg #[.int .u64 (limb (y) 0 : Nat), .int .u64 (limb (y) 1 : Nat), .int .u64 (limb (y) 2 : Nat), .int .u64 (limb (y) 3 : Nat)]] w fun e w' => e = .returned (.bool true) ∧ Below w.heap.size w w') := fun w => has2_b PP y true FM_P.2.1 hY (decide_eq_true hy) w
 obtain ⟨c1, ec1⟩ : ∃ uq, uq = mM y y := ⟨_, rfl⟩
 have lc1 : c1 < PP := by rw [ec1]; exact mM_lt _ _
 have K4 : Hid (rfM y y c1) := rfM_of hy hy ec1
 obtain ⟨c2, ec2⟩ : ∃ uq, uq = sqM x := ⟨_, rfl⟩
 have lc2 : c2 < PP := by rw [ec2]; exact sqM_lt _
 have K5 : Hid (∀ w, Calls Tryd.prog 60 #[.agg #[.int .u64 (limb (x) 0 : Nat), .int .u64 (limb (x) 1 : Nat), .int .u64 (limb (x) 2 : Nat), .int .u64 (limb (x) 3 : Nat)]] w fun e w' => e = .returned (.agg #[.int .u64 (limb (c2) 0 : Nat), .int .u64 (limb (c2) 1 : Nat), .int .u64 (limb (c2) 2 : Nat), .int .u64 (limb (c2) 3 : Nat)]) ∧ Below w.heap.size w w') := fun w => cubic3_any x c2 hx ec2 w
 rw [← ec1, ← ec2] at hc
 have he : eq4 (limb c1 0 : Nat) (limb c1 1 : Nat) (limb c1 2 : Nat) (limb c1 3 : Nat) (limb c2 0 : Nat) (limb c2 1 : Nat) (limb c2 2 : Nat) (limb c2 3 : Nat) = false := by
  rw [eq4_num c1 c2 (lt_R lc1) (lt_R lc2)]; exact decide_eq_false hc
 obtain ⟨w0, hw0⟩ : ∃ wq, wq = (w.alloc (.cells #[.int .u64 (limb (x) 0 : Nat), .int .u64 (limb (x) 1 : Nat), .int .u64 (limb (x) 2 : Nat), .int .u64 (limb (x) 3 : Nat), .int .u64 (limb (y) 0 : Nat), .int .u64 (limb (y) 1 : Nat), .int .u64 (limb (y) 2 : Nat), .int .u64 (limb (y) 3 : Nat), .bool false] 45)) := ⟨_, rfl⟩
 have H0 : Hid (OwnC w0 (w.heap.size) (ptL x y false)) ∧ Hid (Below w.heap.size w w0) := by
  rw [hw0]
  exact ⟨(OwnC.new' rfl), below_alloc0 (Below.refl _ _) _⟩
 obtain ⟨P0_0, W_0⟩ := H0
 clear ec1 lc1 ec2 lc2 hX hY hx hy hc
 go_enter Tryd.func38, Tryd.ntmps38
 go_upto_region 1 with fail
 rw [← hw0]
 clear hw0
 obtain ⟨iP0z, iP00, iP01, iP02, iP03, iP04, iP05, iP06, iP07, iP08, iP0f⟩ := (P0_0.out).pt
 go_upto_region 3 with fail
 clear iP0z iP00 iP01 iP02 iP03 iP04 iP05 iP06 iP07 iP08 iP0f
 go_upto_region 3 with fail
 go_cut [3] (fun vq3 wx => ∃ bk3, vq3 = .pointer (some ⟨bk3, 0, none⟩) ∧ w0.heap.size ≤ bk3 ∧ OwnC wx bk3 (fvL PP) ∧ Below w0.heap.size w0 wx)
 case first =>
  go_wp2_with fail
  refine (K1.out _).mono ?_
  rintro e wx0 ⟨rfl, hq0⟩
  go_wp2_with fail
  go_meet
  exact ⟨_, rfl, hq0.size, OwnC.new' rfl, below_alloc0 hq0 _⟩
 case rest =>
  obtain ⟨bk3, rfl, hle, hO, hB⟩ := hcut
  have P0_1 : Hid (OwnC wc (w.heap.size) (ptL x y false)) := OwnC.call P0_0.out hB
  have W_1 : Hid (Below w.heap.size w wc) := below_call0 W_0.out hB
  have V3_1 : Hid (OwnC wc bk3 (fvL PP)) := hO
  clear hB P0_0 W_0
  clear hO hle
  generalize wc = w1 at P0_1 W_1 V3_1 ⊢
  go_upto_region 4 with fail
  refine wp_region_J 22 0 [?v0r4, ?v1r4, ?v2r4, ?v3r4, ?v4r4, ?v5r4, ?v6r4, ?v7r4, ?v8r4, ?v9r4, ?v10r4, ?v11r4, ?v12r4, ?v13r4, ?v14r4, ?v15r4, ?v16r4, ?v17r4, ?v18r4, ?v19r4, ?v20r4, ?v21r4] [some 15, some 16, some 17, some 18, some 19, some 20, some 21, some 22, some 23, some 24, some 25, some 26, some 27, some 28, some 29, some 30, some 31, some 32, some 33, some 34, some 35, some 36] ?Ar4 (by kernel_rfl) (by kernel_rfl) (by kernel_rfl) rfl ?hAr4 ?hopr4 ?hfinr4
  case hAr4 =>
   simp only [List.set_cons_zero, List.set_cons_succ, List.zip_cons_cons, List.zip_nil_right, fillD, Act.put, List.setIfInBounds_toArray]
   exact rfl
  case hopr4 =>
   refine ⟨?_, ?_, ?_, ?_, ?_, ?_, ?_, ?_, ?_, ?_, ?_, ?_, ?_, ?_, ?_, ?_, ?_, ?_, ?_, ?_, ?_, ?_, trivial⟩
   focus (intro _ bq wx hS; refine OpTo.yields rfl ?_; obtain ⟨_, _, _, _, _, _, _, _, _, _⟩ := (OwnC.call V3_1.out hS).fv; clear hS; go_simp; try with_reducible rfl)
   focus (intro _ bq wx hS; refine OpTo.yields rfl ?_; clear hS; go_simp; try with_reducible rfl)
   focus (intro _ bq wx hS; refine OpTo.yields rfl ?_; obtain ⟨_, _, _, _, _, _, _, _, _, _, _⟩ := (OwnC.call P0_1.out hS).pt; clear hS; go_simp; try with_reducible rfl)
   focus (intro _ bq wx hS; refine OpTo.calls rfl ?_ ?_; rotate_left; intro K hK; go_simp; refine (K2.out _).mono ?_; rintro e w' ⟨rfl, hq⟩; exact hK w' hq; exact rfl)
   focus (intro _ bq wx hS; refine OpTo.yields rfl ?_; clear hS; go_simp; try with_reducible rfl)
   focus (intro _ bq wx hS; refine OpTo.yields rfl ?_; obtain ⟨_, _, _, _, _, _, _, _, _, _⟩ := (OwnC.call V3_1.out hS).fv; clear hS; go_simp; try with_reducible rfl)
   focus (intro _ bq wx hS; refine OpTo.yields rfl ?_; clear hS; go_simp; try with_reducible rfl)
   focus (intro _ bq wx hS; refine OpTo.yields rfl ?_; obtain ⟨_, _, _, _, _, _, _, _, _, _, _⟩ := (OwnC.call P0_1.out hS).pt; clear hS; go_simp; try with_reducible rfl)
   focus (intro _ bq wx hS; refine OpTo.calls rfl ?_ ?_; rotate_left; intro K hK; go_simp; refine (K3.out _).mono ?_; rintro e w' ⟨rfl, hq⟩; exact hK w' hq; exact rfl)
   iterate 2 focus (intro _ bq wx hS; refine OpTo.yields rfl ?_; clear hS; go_simp; try with_reducible rfl)
   focus (intro _ bq wx hS; refine OpTo.yields rfl ?_; obtain ⟨_, _, _, _, _, _, _, _, _, _⟩ := (OwnC.call V3_1.out hS).fv; clear hS; go_simp; try with_reducible rfl)
   focus (intro _ bq wx hS; refine OpTo.yields rfl ?_; clear hS; go_simp; try with_reducible rfl)
   focus (intro _ bq wx hS; refine OpTo.yields rfl ?_; obtain ⟨_, _, _, _, _, _, _, _, _, _, _⟩ := (OwnC.call P0_1.out hS).pt; clear hS; go_simp; try with_reducible rfl)
   focus (intro _ bq wx hS; refine OpTo.yields rfl ?_; clear hS; go_simp; try with_reducible rfl)
   focus (intro _ bq wx hS; refine OpTo.yields rfl ?_; obtain ⟨_, _, _, _, _, _, _, _, _, _, _⟩ := (OwnC.call P0_1.out hS).pt; clear hS; go_simp; try with_reducible rfl)
   focus (intro _ bq wx hS; refine OpTo.calls rfl ?_ ?_; rotate_left; intro K hK; go_simp; refine (K4.out _).mono ?_; rintro e w' ⟨rfl, hq⟩; exact hK w' hq; exact rfl)
   focus (intro _ bq wx hS; refine OpTo.yields rfl ?_; clear hS; go_simp; try with_reducible rfl)
   focus (intro _ bq wx hS; refine OpTo.yields rfl ?_; obtain ⟨_, _, _, _, _, _, _, _, _, _, _⟩ := (OwnC.call P0_1.out hS).pt; clear hS; go_simp; try with_reducible rfl)
   focus (intro _ bq wx hS; refine OpTo.calls rfl ?_ ?_; rotate_left; intro K hK; go_simp; refine (K5.out _).mono ?_; rintro e w' ⟨rfl, hq⟩; exact hK w' hq; exact rfl)
   iterate 2 focus (intro _ bq wx hS; refine OpTo.yields rfl ?_; clear hS; go_simp; try with_reducible rfl)
  case hfinr4 =>
   intro wx hS
   refine tail_at (o := ?ofr4_22) ?hir4_22 ?hwr4_22 ?_
   case hir4_22 => rw [List.getElem?_toArray]; exact rfl
   case hwr4_22 => exact rfl
   go_simp
   refine tail_end ?_
   go_wp2_with fail
   go_ret
   exact ⟨rfl, below_call0 W_1.out hS⟩
theorem is3_any (x y : Nat) (i : Bool) (hX : x < R256) (hY : y < R256) (w : World) :
  Calls Tryd.prog 38 #[.agg #[.int .u64 (limb (x) 0 : Nat), .int .u64 (limb (x) 1 : Nat), .int .u64 (limb (x) 2 : Nat), .int .u64 (limb (x) 3 : Nat), .int .u64 (limb (y) 0 : Nat), .int .u64 (limb (y) 1 : Nat), .int .u64 (limb (y) 2 : Nat), .int .u64 (limb (y) 3 : Nat), .bool (i)]] w fun e w' => e = .returned (.bool (ptOk x y i)) ∧ Below w.heap.size w w' := by
 cases i with
 | true =>
  have e : ptOk x y true = decide (x = 0 ∧ y = 0) := rfl
  rw [e]
  by_cases hx : x = 0
  ·by_cases hy : y = 0
   ·rw [decide_eq_true ⟨hx, hy⟩]; exact is3_i0 x y hX hY hx hy w
   ·rw [decide_eq_false (fun c => hy c.2)]; exact is3_iy x y hX hY hx hy w
  ·rw [decide_eq_false (fun c => hx c.1)]; exact is3_ix x y hX hY hx w
 | false =>
  have e : ptOk x y false = decide (x < PP ∧ y < PP ∧ mM y y = sqM x) := rfl
  rw [e]
  by_cases hx : x < PP
  ·by_cases hy : y < PP
   ·by_cases hc : mM y y = sqM x
    ·rw [decide_eq_true ⟨hx, hy, hc⟩]; exact is3_on x y hX hY hx hy hc w
    ·rw [decide_eq_false (fun c => hc c.2.2)]; exact is3_off x y hX hY hx hy hc w
   ·rw [decide_eq_false (fun c => hy c.2.1)]; exact is3_y x y hX hY hx hy w
  ·rw [decide_eq_false (fun c => hx c.1)]; exact is3_x x y hX hY hx w
set_option maxRecDepth 100000 in
set_option maxHeartbeats 4000000 in
theorem in3_inf (x y : Nat) (w : World) :
  Calls Tryd.prog 19 #[.agg #[.int .u64 (limb (x) 0 : Nat), .int .u64 (limb (x) 1 : Nat), .int .u64 (limb (x) 2 : Nat), .int .u64 (limb (x) 3 : Nat), .int .u64 (limb (y) 0 : Nat), .int .u64 (limb (y) 1 : Nat), .int .u64 (limb (y) 2 : Nat), .int .u64 (limb (y) 3 : Nat), .bool true]] w fun e w' => e = .returned (.agg #[.int .u64 0, .int .u64 0, .int .u64 0, .int .u64 0, .int .u64 1, .int .u64 0, .int .u64 0, .int .u64 0, .int .u64 0, .int .u64 0, .int .u64 0, .int .u64 0]) ∧ Below w.heap.size w w' := by
 obtain ⟨w0, hw0⟩ : ∃ wq, wq = ((w.alloc (.cells #[.int .u64 (limb (x) 0 : Nat), .int .u64 (limb (x) 1 : Nat), .int .u64 (limb (x) 2 : Nat), .int .u64 (limb (x) 3 : Nat), .int .u64 (limb (y) 0 : Nat), .int .u64 (limb (y) 1 : Nat), .int .u64 (limb (y) 2 : Nat), .int .u64 (limb (y) 3 : Nat), .bool true] 45)).alloc (.cells #[.int .u64 0, .int .u64 0, .int .u64 0, .int .u64 0, .int .u64 0, .int .u64 0, .int .u64 0, .int .u64 0, .int .u64 0, .int .u64 0, .int .u64 0, .int .u64 0] 53)) := ⟨_, rfl⟩
 have H0 : Hid (OwnC w0 (w.heap.size) (ptL x y true)) ∧ Hid (OwnC w0 (w.heap.size + 1) z12L) ∧ Hid (Below w.heap.size w w0) := by
  rw [hw0]
  exact ⟨(OwnC.new' rfl).alloc, (OwnC.new' (by simp only [World.size_alloc])), below_alloc0 (below_alloc0 (Below.refl _ _) _) _⟩
 obtain ⟨P0_0, P1_0, W_0⟩ := H0
 go_enter Tryd.func19, Tryd.ntmps19
 go_upto_region 1 with fail
 rw [← hw0]
 clear hw0
 obtain ⟨iP0z, iP00, iP01, iP02, iP03, iP04, iP05, iP06, iP07, iP08, iP0f⟩ := (P0_0.out).pt
 go_upto_region 2 with fail
 clear iP0z iP00 iP01 iP02 iP03 iP04 iP05 iP06 iP07 iP08 iP0f
 obtain ⟨fP1z, fP10, fP11, fP12, fP13, fP14, fP15, fP16, fP17, fP18, fP19, fP110, fP111, fP1f⟩ := (P1_0.out).z12
 go_wp2_with fail
 clear fP1z fP10 fP11 fP12 fP13 fP14 fP15 fP16 fP17 fP18 fP19 fP110 fP111 fP1f
 obtain ⟨wz, hwz⟩ : ∃ wq, wq = ((((((((((((w0.setCell ⟨(w.heap.size + 1), 0, none⟩ (.int .u64 0)).setCell ⟨(w.heap.size + 1), 1, none⟩ (.int .u64 0)).setCell ⟨(w.heap.size + 1), 2, none⟩ (.int .u64 0)).setCell ⟨(w.heap.size + 1), 3, none⟩ (.int .u64 0)).setCell ⟨(w.heap.size + 1), 4, none⟩ (.int .u64 1)).setCell ⟨(w.heap.size + 1), 5, none⟩ (.int .u64 0)).setCell ⟨(w.heap.size + 1), 6, none⟩ (.int .u64 0)).setCell ⟨(w.heap.size + 1), 7, none⟩ (.int .u64 0)).setCell ⟨(w.heap.size + 1), 8, none⟩ (.int .u64 0)).setCell ⟨(w.heap.size + 1), 9, none⟩ (.int .u64 0)).setCell ⟨(w.heap.size + 1), 10, none⟩ (.int .u64 0)).setCell ⟨(w.heap.size + 1), 11, none⟩ (.int .u64 0)) := ⟨_, rfl⟩
 rw [← hwz]
 have hwy : wz = putL (w.heap.size + 1) 0 (ovL 0 1 0) w0 := by
  rw [hwz]
  simp only [putL, ovL, lit0.1, lit0.2.1, lit0.2.2.1, lit0.2.2.2, lit1.1, lit1.2.1, lit1.2.2.1, lit1.2.2.2]
 have HZ : OwnC wz (w.heap.size + 1) (ovL 0 1 0) ∧ Below w.heap.size w wz := by
  rw [hwy]
  exact ⟨OwnC.put (ovL 0 1 0) P1_0.out rfl, below_putL (Nat.le_succ_of_le (Nat.le_refl _)) (ovL 0 1 0) 0 _ W_0.out⟩
 clear hwz hwy
 obtain ⟨hO, HB⟩ := HZ
 obtain ⟨rz, r0, r1, r2, r3, r4, r5, r6, r7, r8, r9, r10, r11, rf⟩ := hO.ov
 try rw [lit0.1] at r0
 try rw [lit0.2.1] at r1
 try rw [lit0.2.2.1] at r2
 try rw [lit0.2.2.2] at r3
 try rw [lit1.1] at r4
 try rw [lit1.2.1] at r5
 try rw [lit1.2.2.1] at r6
 try rw [lit1.2.2.2] at r7
 try rw [lit0.1] at r8
 try rw [lit0.2.1] at r9
 try rw [lit0.2.2.1] at r10
 try rw [lit0.2.2.2] at r11
 refine bodyPost_ret (v := .agg #[.int .u64 0, .int .u64 0, .int .u64 0, .int .u64 0, .int .u64 1, .int .u64 0, .int .u64 0, .int .u64 0, .int .u64 0, .int .u64 0, .int .u64 0, .int .u64 0]) ?_ rfl ⟨rfl, HB⟩
 simp [results, Tryd.results19, go_sem, r0, r1, r2, r3, r4, r5, r6, r7, r8, r9, r10, r11]
set_option maxRecDepth 100000 in
set_option maxHeartbeats 4000000 in
theorem in3_fin (x y : Nat) (w : World) :
  Calls Tryd.prog 19 #[.agg #[.int .u64 (limb (x) 0 : Nat), .int .u64 (limb (x) 1 : Nat), .int .u64 (limb (x) 2 : Nat), .int .u64 (limb (x) 3 : Nat), .int .u64 (limb (y) 0 : Nat), .int .u64 (limb (y) 1 : Nat), .int .u64 (limb (y) 2 : Nat), .int .u64 (limb (y) 3 : Nat), .bool false]] w fun e w' => e = .returned (.agg #[.int .u64 (limb (x) 0 : Nat), .int .u64 (limb (x) 1 : Nat), .int .u64 (limb (x) 2 : Nat), .int .u64 (limb (x) 3 : Nat), .int .u64 (limb (y) 0 : Nat), .int .u64 (limb (y) 1 : Nat), .int .u64 (limb (y) 2 : Nat), .int .u64 (limb (y) 3 : Nat), .int .u64 1, .int .u64 0, .int .u64 0, .int .u64 0]) ∧ Below w.heap.size w w' := by
 obtain ⟨w0, hw0⟩ : ∃ wq, wq = ((w.alloc (.cells #[.int .u64 (limb (x) 0 : Nat), .int .u64 (limb (x) 1 : Nat), .int .u64 (limb (x) 2 : Nat), .int .u64 (limb (x) 3 : Nat), .int .u64 (limb (y) 0 : Nat), .int .u64 (limb (y) 1 : Nat), .int .u64 (limb (y) 2 : Nat), .int .u64 (limb (y) 3 : Nat), .bool false] 45)).alloc (.cells #[.int .u64 0, .int .u64 0, .int .u64 0, .int .u64 0, .int .u64 0, .int .u64 0, .int .u64 0, .int .u64 0, .int .u64 0, .int .u64 0, .int .u64 0, .int .u64 0] 53)) := ⟨_, rfl⟩
 have H0 : Hid (OwnC w0 (w.heap.size) (ptL x y false)) ∧ Hid (OwnC w0 (w.heap.size + 1) z12L) ∧ Hid (Below w.heap.size w w0) := by
  rw [hw0]
  exact ⟨(OwnC.new' rfl).alloc, (OwnC.new' (by simp only [World.size_alloc])), below_alloc0 (below_alloc0 (Below.refl _ _) _) _⟩
 obtain ⟨P0_0, P1_0, W_0⟩ := H0
 go_enter Tryd.func19, Tryd.ntmps19
 go_upto_region 1 with fail
 rw [← hw0]
 clear hw0
 obtain ⟨iP0z, iP00, iP01, iP02, iP03, iP04, iP05, iP06, iP07, iP08, iP0f⟩ := (P0_0.out).pt
 go_upto_region 3 with fail
 clear iP0z iP00 iP01 iP02 iP03 iP04 iP05 iP06 iP07 iP08 iP0f
 obtain ⟨fP0z, fP00, fP01, fP02, fP03, fP04, fP05, fP06, fP07, fP08, fP0f⟩ := (P0_0.out).pt
 obtain ⟨fP1z, fP10, fP11, fP12, fP13, fP14, fP15, fP16, fP17, fP18, fP19, fP110, fP111, fP1f⟩ := (P1_0.out).z12
 go_wp2_with fail
 clear fP0z fP00 fP01 fP02 fP03 fP04 fP05 fP06 fP07 fP08 fP0f fP1z fP10 fP11 fP12 fP13 fP14 fP15 fP16 fP17 fP18 fP19 fP110 fP111 fP1f
 obtain ⟨wz, hwz⟩ : ∃ wq, wq = ((((((((((((w0.setCell ⟨(w.heap.size + 1), 0, none⟩ (.int .u64 (limb (x) 0 : Nat))).setCell ⟨(w.heap.size + 1), 1, none⟩ (.int .u64 (limb (x) 1 : Nat))).setCell ⟨(w.heap.size + 1), 2, none⟩ (.int .u64 (limb (x) 2 : Nat))).setCell ⟨(w.heap.size + 1), 3, none⟩ (.int .u64 (limb (x) 3 : Nat))).setCell ⟨(w.heap.size + 1), 4, none⟩ (.int .u64 (limb (y) 0 : Nat))).setCell ⟨(w.heap.size + 1), 5, none⟩ (.int .u64 (limb (y) 1 : Nat))).setCell ⟨(w.heap.size + 1), 6, none⟩ (.int .u64 (limb (y) 2 : Nat))).setCell ⟨(w.heap.size + 1), 7, none⟩ (.int .u64 (limb (y) 3 : Nat))).setCell ⟨(w.heap.size + 1), 8, none⟩ (.int .u64 1)).setCell ⟨(w.heap.size + 1), 9, none⟩ (.int .u64 0)).setCell ⟨(w.heap.size + 1), 10, none⟩ (.int .u64 0)).setCell ⟨(w.heap.size + 1), 11, none⟩ (.int .u64 0)) := ⟨_, rfl⟩
 rw [← hwz]
 have hwy : wz = putL (w.heap.size + 1) 0 (ovL x y 1) w0 := by
  rw [hwz]
  simp only [putL, ovL, lit1.1, lit1.2.1, lit1.2.2.1, lit1.2.2.2]
 have HZ : OwnC wz (w.heap.size + 1) (ovL x y 1) ∧ Below w.heap.size w wz := by
  rw [hwy]
  exact ⟨OwnC.put (ovL x y 1) P1_0.out rfl, below_putL (Nat.le_succ_of_le (Nat.le_refl _)) (ovL x y 1) 0 _ W_0.out⟩
 clear hwz hwy
 obtain ⟨hO, HB⟩ := HZ
 obtain ⟨rz, r0, r1, r2, r3, r4, r5, r6, r7, r8, r9, r10, r11, rf⟩ := hO.ov
 try rw [lit1.1] at r8
 try rw [lit1.2.1] at r9
 try rw [lit1.2.2.1] at r10
 try rw [lit1.2.2.2] at r11
 refine bodyPost_ret (v := .agg #[.int .u64 (limb (x) 0 : Nat), .int .u64 (limb (x) 1 : Nat), .int .u64 (limb (x) 2 : Nat), .int .u64 (limb (x) 3 : Nat), .int .u64 (limb (y) 0 : Nat), .int .u64 (limb (y) 1 : Nat), .int .u64 (limb (y) 2 : Nat), .int .u64 (limb (y) 3 : Nat), .int .u64 1, .int .u64 0, .int .u64 0, .int .u64 0]) ?_ rfl ⟨rfl, HB⟩
 simp [results, Tryd.results19, go_sem, r0, r1, r2, r3, r4, r5, r6, r7, r8, r9, r10, r11]
set_option maxRecDepth 100000 in
set_option maxHeartbeats 4000000 in
theorem out3_inf (x y z : Nat) (hzl : z < PP) (hz : z = 0) (w : World) :
  Calls Tryd.prog 21 #[.agg #[.int .u64 (limb (x) 0 : Nat), .int .u64 (limb (x) 1 : Nat), .int .u64 (limb (x) 2 : Nat), .int .u64 (limb (x) 3 : Nat), .int .u64 (limb (y) 0 : Nat), .int .u64 (limb (y) 1 : Nat), .int .u64 (limb (y) 2 : Nat), .int .u64 (limb (y) 3 : Nat), .int .u64 (limb (z) 0 : Nat), .int .u64 (limb (z) 1 : Nat), .int .u64 (limb (z) 2 : Nat), .int .u64 (limb (z) 3 : Nat)]] w fun e w' => e = .returned (.agg #[.int .u64 0, .int .u64 0, .int .u64 0, .int .u64 0, .int .u64 0, .int .u64 0, .int .u64 0, .int .u64 0, .bool true]) ∧ Below w.heap.size w w' := by
 have K1 : Hid (rfZ z true) := rfZ_of (lt_R hzl) (decide_eq_true hz)
 obtain ⟨w0, hw0⟩ : ∃ wq, wq = ((w.alloc (.cells #[.int .u64 (limb (x) 0 : Nat), .int .u64 (limb (x) 1 : Nat), .int .u64 (limb (x) 2 : Nat), .int .u64 (limb (x) 3 : Nat), .int .u64 (limb (y) 0 : Nat), .int .u64 (limb (y) 1 : Nat), .int .u64 (limb (y) 2 : Nat), .int .u64 (limb (y) 3 : Nat), .int .u64 (limb (z) 0 : Nat), .int .u64 (limb (z) 1 : Nat), .int .u64 (limb (z) 2 : Nat), .int .u64 (limb (z) 3 : Nat)] 53)).alloc (.cells #[.int .u64 0, .int .u64 0, .int .u64 0, .int .u64 0, .int .u64 0, .int .u64 0, .int .u64 0, .int .u64 0, .bool false] 45)) := ⟨_, rfl⟩
 have H0 : Hid (OwnC w0 (w.heap.size) (ovL x y z)) ∧ Hid (OwnC w0 (w.heap.size + 1) zpL) ∧ Hid (Below w.heap.size w w0) := by
  rw [hw0]
  exact ⟨(OwnC.new' rfl).alloc, (OwnC.new' (by simp only [World.size_alloc])), below_alloc0 (below_alloc0 (Below.refl _ _) _) _⟩
 obtain ⟨P0_0, P1_0, W_0⟩ := H0
 clear hzl hz
 go_enter Tryd.func21, Tryd.ntmps21
 go_upto_region 1 with fail
 rw [← hw0]
 clear hw0
 obtain ⟨fP0z, fP00, fP01, fP02, fP03, fP04, fP05, fP06, fP07, fP08, fP09, fP010, fP011, fP0f⟩ := (P0_0.out).ov
 go_wp2_with fail
 clear fP0z fP00 fP01 fP02 fP03 fP04 fP05 fP06 fP07 fP08 fP09 fP010 fP011 fP0f
 refine (K1.out _).mono ?_
 rintro e w1 ⟨rfl, hq⟩
 have P0_1 : Hid (OwnC w1 (w.heap.size) (ovL x y z)) := OwnC.call P0_0.out hq
 have P1_1 : Hid (OwnC w1 (w.heap.size + 1) zpL) := OwnC.call P1_0.out hq
 have W_1 : Hid (Below w.heap.size w w1) := below_call0 W_0.out hq
 clear hq P0_0 P1_0 W_0
 obtain ⟨fP1z, fP10, fP11, fP12, fP13, fP14, fP15, fP16, fP17, fP18, fP1f⟩ := (P1_1.out).zp
 go_wp2_with fail
 clear fP1z fP10 fP11 fP12 fP13 fP14 fP15 fP16 fP17 fP18 fP1f
 obtain ⟨wz, hwz⟩ : ∃ wq, wq = (((((((((w1.setCell ⟨(w.heap.size + 1), 0, none⟩ (.int .u64 0)).setCell ⟨(w.heap.size + 1), 1, none⟩ (.int .u64 0)).setCell ⟨(w.heap.size + 1), 2, none⟩ (.int .u64 0)).setCell ⟨(w.heap.size + 1), 3, none⟩ (.int .u64 0)).setCell ⟨(w.heap.size + 1), 4, none⟩ (.int .u64 0)).setCell ⟨(w.heap.size + 1), 5, none⟩ (.int .u64 0)).setCell ⟨(w.heap.size + 1), 6, none⟩ (.int .u64 0)).setCell ⟨(w.heap.size + 1), 7, none⟩ (.int .u64 0)).setCell ⟨(w.heap.size + 1), 8, none⟩ (.bool true)) := ⟨_, rfl⟩
 rw [← hwz]
 have hwy : wz = putL (w.heap.size + 1) 0 ziL w1 := hwz
 have HZ : OwnC wz (w.heap.size + 1) ziL ∧ Below w.heap.size w wz := by
  rw [hwy]
  exact ⟨OwnC.put ziL P1_1.out rfl, below_putL (Nat.le_succ_of_le (Nat.le_refl _)) ziL 0 _ W_1.out⟩
 clear hwz hwy
 obtain ⟨hO, HB⟩ := HZ
 obtain ⟨rz, r0, r1, r2, r3, r4, r5, r6, r7, r8, rf⟩ := hO.zi
 refine bodyPost_ret (v := .agg #[.int .u64 0, .int .u64 0, .int .u64 0, .int .u64 0, .int .u64 0, .int .u64 0, .int .u64 0, .int .u64 0, .bool true]) ?_ rfl ⟨rfl, HB⟩
 simp [results, Tryd.results21, go_sem, r0, r1, r2, r3, r4, r5, r6, r7, r8]
set_option maxRecDepth 100000 in
set_option maxHeartbeats 4000000 in
theorem out3_fin (x y z i U V : Nat) (hx : x < PP) (hy : y < PP) (hzl : z < PP) (hz : z ≠ 0) (hi : i = z ^ (PP - 2) % PP) (hU : U = mM x i) (hV : V = mM y i) (w : World) :
  Calls Tryd.prog 21 #[.agg #[.int .u64 (limb (x) 0 : Nat), .int .u64 (limb (x) 1 : Nat), .int .u64 (limb (x) 2 : Nat), .int .u64 (limb (x) 3 : Nat), .int .u64 (limb (y) 0 : Nat), .int .u64 (limb (y) 1 : Nat), .int .u64 (limb (y) 2 : Nat), .int .u64 (limb (y) 3 : Nat), .int .u64 (limb (z) 0 : Nat), .int .u64 (limb (z) 1 : Nat), .int .u64 (limb (z) 2 : Nat), .int .u64 (limb (z) 3 : Nat)]] w fun e w' => e = .returned (.agg #[.int .u64 (limb (U) 0 : Nat), .int .u64 (limb (U) 1 : Nat), .int .u64 (limb (U) 2 : Nat), .int .u64 (limb (U) 3 : Nat), .int .u64 (limb (V) 0 : Nat), .int .u64 (limb (V) 1 : Nat), .int .u64 (limb (V) 2 : Nat), .int .u64 (limb (V) 3 : Nat), .bool false]) ∧ Below w.heap.size w w' := by
 have K1 : Hid (rfZ z false) := rfZ_of (lt_R hzl) (decide_eq_false hz)
 have K2 : Hid (∀ w, Calls Tryd.prog 40 #[] w fun e w' => e = .returned (.agg #[.int .u64 (limb (PP) 0 : Nat), .int .u64 (limb (PP) 1 : Nat), .int .u64 (limb (PP) 2 : Nat), .int .u64 (limb (PP) 3 : Nat), .int .u64 (limb (R256 - (PP)) 0 : Nat), .int .u64 (limb (R256 - (PP)) 1 : Nat), .int .u64 (limb (R256 - (PP)) 2 : Nat), .int .u64 (limb (R256 - (PP)) 3 : Nat)]) ∧ Below w.heap.size w w') := fun w => base2_any w
 have li : i < PP := by rw [hi]; exact Nat.mod_lt _ PPpos
 have K3 : Hid (∀ w, Calls Tryd.prog 45 #[.agg #[.int .u64 (limb (PP) 0 : Nat), .int .u64 (limb (PP) 1 : Nat), .int .u64 (limb (PP) 2 : Nat), .int .u64 (limb (PP) 3 : Nat), .int .u64 (limb (R256 - (PP)) 0 : Nat), .int .u64 (limb (R256 - (PP)) 1 : Nat), .int .u64 (limb (R256 - (PP)) 2 : Nat), .int .u64 (limb (R256 - (PP)) 3 : Nat)], .agg #[.int .u64 (limb (z) 0 : Nat), .int .u64 (limb (z) 1 : Nat), .int .u64 (limb (z) 2 : Nat), .int .u64 (limb (z) 3 : Nat)]] w fun e w' => e = .returned (.agg #[.int .u64 (limb (i) 0 : Nat), .int .u64 (limb (i) 1 : Nat), .int .u64 (limb (i) 2 : Nat), .int .u64 (limb (i) 3 : Nat)]) ∧ Below w.heap.size w w') := fun w => by have k := inv2_any PP z FM_P FS_P (lt_R hzl) w; rw [show z ^ (PP - 2) % PP = i from hi.symm] at k; exact k
 have lU : U < PP := by rw [hU]; exact mM_lt _ _
 have K4 : Hid (rfM x i U) := rfM_of hx li hU
 have lV : V < PP := by rw [hV]; exact mM_lt _ _
 have K5 : Hid (rfM y i V) := rfM_of hy li hV
 obtain ⟨w0, hw0⟩ : ∃ wq, wq = ((w.alloc (.cells #[.int .u64 (limb (x) 0 : Nat), .int .u64 (limb (x) 1 : Nat), .int .u64 (limb (x) 2 : Nat), .int .u64 (limb (x) 3 : Nat), .int .u64 (limb (y) 0 : Nat), .int .u64 (limb (y) 1 : Nat), .int .u64 (limb (y) 2 : Nat), .int .u64 (limb (y) 3 : Nat), .int .u64 (limb (z) 0 : Nat), .int .u64 (limb (z) 1 : Nat), .int .u64 (limb (z) 2 : Nat), .int .u64 (limb (z) 3 : Nat)] 53)).alloc (.cells #[.int .u64 0, .int .u64 0, .int .u64 0, .int .u64 0, .int .u64 0, .int .u64 0, .int .u64 0, .int .u64 0, .bool false] 45)) := ⟨_, rfl⟩
 have H0 : Hid (OwnC w0 (w.heap.size) (ovL x y z)) ∧ Hid (OwnC w0 (w.heap.size + 1) zpL) ∧ Hid (Below w.heap.size w w0) := by
  rw [hw0]
  exact ⟨(OwnC.new' rfl).alloc, (OwnC.new' (by simp only [World.size_alloc])), below_alloc0 (below_alloc0 (Below.refl _ _) _) _⟩
 obtain ⟨P0_0, P1_0, W_0⟩ := H0
 clear hi li hU lU hV lV hx hy hzl hz
 go_enter Tryd.func21, Tryd.ntmps21
 go_upto_region 1 with fail
 rw [← hw0]
 clear hw0
 obtain ⟨fP0z, fP00, fP01, fP02, fP03, fP04, fP05, fP06, fP07, fP08, fP09, fP010, fP011, fP0f⟩ := (P0_0.out).ov
 go_wp2_with fail
 clear fP0z fP00 fP01 fP02 fP03 fP04 fP05 fP06 fP07 fP08 fP09 fP010 fP011 fP0f
 refine (K1.out _).mono ?_
 rintro e w1 ⟨rfl, hq⟩
 have P0_1 : Hid (OwnC w1 (w.heap.size) (ovL x y z)) := OwnC.call P0_0.out hq
 have P1_1 : Hid (OwnC w1 (w.heap.size + 1) zpL) := OwnC.call P1_0.out hq
 have W_1 : Hid (Below w.heap.size w w1) := below_call0 W_0.out hq
 clear hq P0_0 P1_0 W_0
 go_upto_region 3 with fail
 go_upto_region 3 with fail
 go_cut [3] (fun vq3 wx => ∃ bk3, vq3 = .pointer (some ⟨bk3, 0, none⟩) ∧ w1.heap.size ≤ bk3 ∧ OwnC wx bk3 (fvL PP) ∧ Below w1.heap.size w1 wx)
 case first =>
  go_wp2_with fail
  refine (K2.out _).mono ?_
  rintro e wx0 ⟨rfl, hq0⟩
  go_wp2_with fail
  go_meet
  exact ⟨_, rfl, hq0.size, OwnC.new' rfl, below_alloc0 hq0 _⟩
 case rest =>
  obtain ⟨bk3, rfl, hle, hO, hB⟩ := hcut
  have P0_2 : Hid (OwnC wc (w.heap.size) (ovL x y z)) := OwnC.call P0_1.out hB
  have P1_2 : Hid (OwnC wc (w.heap.size + 1) zpL) := OwnC.call P1_1.out hB
  have W_2 : Hid (Below w.heap.size w wc) := below_call0 W_1.out hB
  have V3_2 : Hid (OwnC wc bk3 (fvL PP)) := hO
  clear hB P0_1 P1_1 W_1
  clear hO hle
  generalize wc = w2 at P0_2 P1_2 W_2 V3_2 ⊢
  go_upto_region 4 with fail
  go_cut [4] (fun vq4 wx => ∃ bk4, vq4 = .pointer (some ⟨bk4, 0, none⟩) ∧ w2.heap.size ≤ bk4 ∧ OwnC wx bk4 (numL i) ∧ Below w2.heap.size w2 wx)
  case first =>
   obtain ⟨fP0z, fP00, fP01, fP02, fP03, fP04, fP05, fP06, fP07, fP08, fP09, fP010, fP011, fP0f⟩ := (P0_2.out).ov
   obtain ⟨fV3z, fV30, fV31, fV32, fV33, fV34, fV35, fV36, fV37, fV3f⟩ := (V3_2.out).fv
   go_wp2_with fail
   clear fP0z fP00 fP01 fP02 fP03 fP04 fP05 fP06 fP07 fP08 fP09 fP010 fP011 fP0f fV3z fV30 fV31 fV32 fV33 fV34 fV35 fV36 fV37 fV3f
   refine (K3.out _).mono ?_
   rintro e wx0 ⟨rfl, hq0⟩
   go_wp2_with fail
   go_meet
   exact ⟨_, rfl, hq0.size, OwnC.new' rfl, below_alloc0 hq0 _⟩
  case rest =>
   obtain ⟨bk4, rfl, hle, hO, hB⟩ := hcut
   rename_i uf ug uh ui uj uk ul um un uo up uq ur us ut uu uv uw ux uy Kq2 hKq2
   clear uf ug uh ui uj uk ul um un uo up uq ur us ut uu uv uw ux uy
   have P0_3 : Hid (OwnC wc (w.heap.size) (ovL x y z)) := OwnC.call P0_2.out hB
   have P1_3 : Hid (OwnC wc (w.heap.size + 1) zpL) := OwnC.call P1_2.out hB
   have W_3 : Hid (Below w.heap.size w wc) := below_call0 W_2.out hB
   have V3_3 : Hid (OwnC wc bk3 (fvL PP)) := OwnC.call V3_2.out hB
   have V4_3 : Hid (OwnC wc bk4 (numL i)) := hO
   clear hB P0_2 P1_2 W_2 V3_2
   clear hO hle
   generalize wc = w3 at P0_3 P1_3 W_3 V3_3 V4_3 ⊢
   go_upto_region 5 with fail
   refine wp_region_J 11 0 [?v0r5, ?v1r5, ?v2r5, ?v3r5, ?v4r5, ?v5r5, ?v6r5, ?v7r5, ?v8r5, ?v9r5, ?v10r5] [some 14, some 15, some 16, some 17, some 18, some 19, some 20, some 21, some 22, some 23, some 24] ?Ar5 (by kernel_rfl) (by kernel_rfl) (by kernel_rfl) rfl ?hAr5 ?hopr5 ?hfinr5
   case hAr5 =>
    simp only [List.set_cons_zero, List.set_cons_succ, List.zip_cons_cons, List.zip_nil_right, fillD, Act.put, List.setIfInBounds_toArray]
    exact rfl
   case hopr5 =>
    refine ⟨?_, ?_, ?_, ?_, ?_, ?_, ?_, ?_, ?_, ?_, ?_, trivial⟩
    focus (intro _ bq wx hS; refine OpTo.yields rfl ?_; obtain ⟨_, _, _, _, _, _, _, _, _, _⟩ := (OwnC.call V3_3.out hS).fv; clear hS; go_simp; try with_reducible rfl)
    focus (intro _ bq wx hS; refine OpTo.yields rfl ?_; clear hS; go_simp; try with_reducible rfl)
    focus (intro _ bq wx hS; refine OpTo.yields rfl ?_; obtain ⟨_, _, _, _, _, _, _, _, _, _, _, _, _, _⟩ := (OwnC.call P0_3.out hS).ov; clear hS; go_simp; try with_reducible rfl)
    focus (intro _ bq wx hS; refine OpTo.yields rfl ?_; obtain ⟨_, _, _, _, _, _⟩ := (OwnC.call V4_3.out hS).num; clear hS; go_simp; try with_reducible rfl)
    focus (intro _ bq wx hS; refine OpTo.calls rfl ?_ ?_; rotate_left; intro K hK; go_simp; refine (K4.out _).mono ?_; rintro e w' ⟨rfl, hq⟩; exact hK w' hq; exact rfl)
    focus (intro _ bq wx hS; refine OpTo.yields rfl ?_; obtain ⟨_, _, _, _, _, _, _, _, _, _⟩ := (OwnC.call V3_3.out hS).fv; clear hS; go_simp; try with_reducible rfl)
    focus (intro _ bq wx hS; refine OpTo.yields rfl ?_; clear hS; go_simp; try with_reducible rfl)
    focus (intro _ bq wx hS; refine OpTo.yields rfl ?_; obtain ⟨_, _, _, _, _, _, _, _, _, _, _, _, _, _⟩ := (OwnC.call P0_3.out hS).ov; clear hS; go_simp; try with_reducible rfl)
    focus (intro _ bq wx hS; refine OpTo.yields rfl ?_; obtain ⟨_, _, _, _, _, _⟩ := (OwnC.call V4_3.out hS).num; clear hS; go_simp; try with_reducible rfl)
    focus (intro _ bq wx hS; refine OpTo.calls rfl ?_ ?_; rotate_left; intro K hK; go_simp; refine (K5.out _).mono ?_; rintro e w' ⟨rfl, hq⟩; exact hK w' hq; exact rfl)
    focus (intro _ bq wx hS; refine OpTo.yields rfl ?_; clear hS; go_simp; try with_reducible rfl)
   case hfinr5 =>
    intro wx hS
    refine tail_at (o := ?ofr5_11) ?hir5_11 ?hwr5_11 ?_
    case hir5_11 => rw [List.getElem?_toArray]; exact rfl
    case hwr5_11 => exact rfl
    obtain ⟨gP1z, gP10, gP11, gP12, gP13, gP14, gP15, gP16, gP17, gP18, gP1f⟩ := (OwnC.call P1_3.out hS).zp
    go_simp
    clear gP1z gP10 gP11 gP12 gP13 gP14 gP15 gP16 gP17 gP18 gP1f
    refine tail_end ?_
    obtain ⟨wz, hwz⟩ : ∃ wq, wq = (((((((((wx.setCell ⟨(w.heap.size + 1), 0, none⟩ (.int .u64 (limb (U) 0 : Nat))).setCell ⟨(w.heap.size + 1), 1, none⟩ (.int .u64 (limb (U) 1 : Nat))).setCell ⟨(w.heap.size + 1), 2, none⟩ (.int .u64 (limb (U) 2 : Nat))).setCell ⟨(w.heap.size + 1), 3, none⟩ (.int .u64 (limb (U) 3 : Nat))).setCell ⟨(w.heap.size + 1), 4, none⟩ (.int .u64 (limb (V) 0 : Nat))).setCell ⟨(w.heap.size + 1), 5, none⟩ (.int .u64 (limb (V) 1 : Nat))).setCell ⟨(w.heap.size + 1), 6, none⟩ (.int .u64 (limb (V) 2 : Nat))).setCell ⟨(w.heap.size + 1), 7, none⟩ (.int .u64 (limb (V) 3 : Nat))).setCell ⟨(w.heap.size + 1), 8, none⟩ (.bool false)) := ⟨_, rfl⟩
    rw [← hwz]
    have hwy : wz = putL (w.heap.size + 1) 0 (ptL U V false) wx := hwz
    have HZ : OwnC wz (w.heap.size + 1) (ptL U V false) ∧ Below w.heap.size w wz := by
     rw [hwy]
     exact ⟨OwnC.put (ptL U V false) (OwnC.call P1_3.out hS) rfl, below_putL (Nat.le_succ_of_le (Nat.le_refl _)) (ptL U V false) 0 _ (below_call0 W_3.out hS)⟩
    clear hwz hwy
    obtain ⟨hO, HB⟩ := HZ
    obtain ⟨rz, r0, r1, r2, r3, r4, r5, r6, r7, r8, rf⟩ := hO.pt
    rename_i Kz hKz
    refine hKz _ _ ?_
    refine wp_ret ?_
    refine bodyPost_ret (v := .agg #[.int .u64 (limb (U) 0 : Nat), .int .u64 (limb (U) 1 : Nat), .int .u64 (limb (U) 2 : Nat), .int .u64 (limb (U) 3 : Nat), .int .u64 (limb (V) 0 : Nat), .int .u64 (limb (V) 1 : Nat), .int .u64 (limb (V) 2 : Nat), .int .u64 (limb (V) 3 : Nat), .bool false]) ?_ rfl ⟨rfl, HB⟩
    simp [results, Tryd.results21, go_sem, r0, r1, r2, r3, r4, r5, r6, r7, r8]
end Go.Proofs.YtfkpbcionlidaaaDoor
