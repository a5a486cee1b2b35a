/- The reference's curve: X^3 + 7. -/
import Derived.Test.YtfkpbcionlidaaaDoorRf3K
import Derived.Test.YtfkpbcionlidaaaDoorRgA
import Derived.Test.YtfkpbcionlidaaaDoorRef2I
import Derived.Deep.DeepCutAuto
namespace Go.Proofs.YtfkpbcionlidaaaDoor
open Go Go.RowKit Go.Lib

set_option maxRecDepth 100000 in
set_option maxHeartbeats 2000000 in
theorem cubic3_any (x s : Nat) (hx : x < PP) (hs : s = sqM x) (w : World) :
  Calls Tryd.prog 60 #[.agg #[.int .u64 (limb (x) 0 : Nat), .int .u64 (limb (x) 1 : Nat), .int .u64 (limb (x) 2 : Nat), .int .u64 (limb (x) 3 : Nat)]] w fun e w' => e = .returned (.agg #[.int .u64 (limb (s) 0 : Nat), .int .u64 (limb (s) 1 : Nat), .int .u64 (limb (s) 2 : Nat), .int .u64 (limb (s) 3 : Nat)]) ∧ Below w.heap.size w w' := by
 unfold sqM at hs
 have K1 : Hid (∀ w, Calls Tryd.prog 40 #[] w fun e w' => e = .returned (.agg #[.int .u64 (limb (PP) 0 : Nat), .int .u64 (limb (PP) 1 : Nat), .int .u64 (limb (PP) 2 : Nat), .int .u64 (limb (PP) 3 : Nat), .int .u64 (limb (R256 - (PP)) 0 : Nat), .int .u64 (limb (R256 - (PP)) 1 : Nat), .int .u64 (limb (R256 - (PP)) 2 : Nat), .int .u64 (limb (R256 - (PP)) 3 : Nat)]) ∧ Below w.heap.size w w') := fun w => base2_any w
 obtain ⟨c1, ec1⟩ : ∃ uq, uq = mM x x := ⟨_, rfl⟩
 have lc1 : c1 < PP := by rw [ec1]; exact mM_lt _ _
 have K2 : Hid (rfM x x c1) := rfM_of hx hx ec1
 obtain ⟨c2, ec2⟩ : ∃ uq, uq = mM c1 x := ⟨_, rfl⟩
 have lc2 : c2 < PP := by rw [ec2]; exact mM_lt _ _
 have K3 : Hid (rfM c1 x c2) := rfM_of lc1 hx ec2
 rw [← ec1, ← ec2] at hs
 have ls : s < PP := by rw [hs]; exact aM_lt _ _
 have K4 : Hid (∀ w, Calls Tryd.prog 44 #[.agg #[.int .u64 (limb (PP) 0 : Nat), .int .u64 (limb (PP) 1 : Nat), .int .u64 (limb (PP) 2 : Nat), .int .u64 (limb (PP) 3 : Nat), .int .u64 (limb (R256 - (PP)) 0 : Nat), .int .u64 (limb (R256 - (PP)) 1 : Nat), .int .u64 (limb (R256 - (PP)) 2 : Nat), .int .u64 (limb (R256 - (PP)) 3 : Nat)], .agg #[.int .u64 (limb (c2) 0 : Nat), .int .u64 (limb (c2) 1 : Nat), .int .u64 (limb (c2) 2 : Nat), .int .u64 (limb (c2) 3 : Nat)], .agg #[.int .u64 7, .int .u64 0, .int .u64 0, .int .u64 0]] w fun e w' => e = .returned (.agg #[.int .u64 (limb (s) 0 : Nat), .int .u64 (limb (s) 1 : Nat), .int .u64 (limb (s) 2 : Nat), .int .u64 (limb (s) 3 : Nat)]) ∧ Below w.heap.size w w') := fun w => by have k := add2_any PP c2 7 FM_P.2.1 lc2 lt7 w; rw [show (c2 + 7) % PP = s from hs.symm] at k; rw [lit7.1, lit7.2.1, lit7.2.2.1, lit7.2.2.2] at k; exact k
 obtain ⟨w0, hw0⟩ : ∃ wq, wq = ((w.alloc (.cells #[.int .u64 (limb (x) 0 : Nat), .int .u64 (limb (x) 1 : Nat), .int .u64 (limb (x) 2 : Nat), .int .u64 (limb (x) 3 : Nat)] 41)).alloc (.cells #[.int .u64 0, .int .u64 0, .int .u64 0, .int .u64 0] 41)) := ⟨_, rfl⟩
 have H0 : Hid (OwnC w0 (w.heap.size) (numL x)) ∧ Hid (OwnC w0 (w.heap.size + 1) z4L) ∧ Hid (Below w.heap.size w w0) := by
  rw [hw0]
  exact ⟨(OwnC.new' rfl).alloc, (OwnC.new' (by simp only [World.size_alloc])), below_alloc0 (below_alloc0 (Below.refl _ _) _) _⟩
 obtain ⟨P0_0, P1_0, W_0⟩ := H0
 clear ec1 lc1 ec2 lc2 hs ls hx
 go_enter Tryd.func60, Tryd.ntmps60
 go_upto_region 1 with fail
 rw [← hw0]
 clear hw0
 go_upto_region 1 with fail
 go_cut [3] (fun vq3 wx => ∃ bk3, vq3 = .pointer (some ⟨bk3, 0, none⟩) ∧ w0.heap.size ≤ bk3 ∧ OwnC wx bk3 (fvL PP) ∧ Below w0.heap.size w0 wx)
 case first =>
  go_wp2_with fail
  refine (K1.out _).mono ?_
  rintro e wx0 ⟨rfl, hq0⟩
  go_wp2_with fail
  go_meet
  exact ⟨_, rfl, hq0.size, OwnC.new' rfl, below_alloc0 hq0 _⟩
 case rest =>
  obtain ⟨bk3, rfl, hle, hO, hB⟩ := hcut
  have P0_1 : Hid (OwnC wc (w.heap.size) (numL x)) := OwnC.call P0_0.out hB
  have P1_1 : Hid (OwnC wc (w.heap.size + 1) z4L) := OwnC.call P1_0.out hB
  have W_1 : Hid (Below w.heap.size w wc) := below_call0 W_0.out hB
  have V3_1 : Hid (OwnC wc bk3 (fvL PP)) := hO
  clear hB P0_0 P1_0 W_0
  clear hO hle
  generalize wc = w1 at P0_1 P1_1 W_1 V3_1 ⊢
  go_upto_region 2 with fail
  refine wp_region_J 10 0 [?v0r2, ?v1r2, ?v2r2, ?v3r2, ?v4r2, ?v5r2, ?v6r2, ?v7r2, ?v8r2, ?v9r2] [some 5, some 6, some 7, some 8, some 9, some 10, some 11, some 12, some 13, some 14] ?Ar2 (by kernel_rfl) (by kernel_rfl) (by kernel_rfl) rfl ?hAr2 ?hopr2 ?hfinr2
  case hAr2 =>
   simp only [List.set_cons_zero, List.set_cons_succ, List.zip_cons_cons, List.zip_nil_right, fillD, Act.put, List.setIfInBounds_toArray]
   exact rfl
  case hopr2 =>
   refine ⟨?_, ?_, ?_, ?_, ?_, ?_, ?_, ?_, ?_, ?_, trivial⟩
   iterate 3 focus (intro _ bq wx hS; refine OpTo.yields rfl ?_; obtain ⟨_, _, _, _, _, _, _, _, _, _⟩ := (OwnC.call V3_1.out hS).fv; clear hS; go_simp; try with_reducible rfl)
   iterate 2 focus (intro _ bq wx hS; refine OpTo.yields rfl ?_; obtain ⟨_, _, _, _, _, _⟩ := (OwnC.call P0_1.out hS).num; clear hS; go_simp; try with_reducible rfl)
   focus (intro _ bq wx hS; refine OpTo.calls rfl ?_ ?_; rotate_left; intro K hK; go_simp; refine (K2.out _).mono ?_; rintro e w' ⟨rfl, hq⟩; exact hK w' hq; exact rfl)
   focus (intro _ bq wx hS; refine OpTo.yields rfl ?_; obtain ⟨_, _, _, _, _, _⟩ := (OwnC.call P0_1.out hS).num; clear hS; go_simp; try with_reducible rfl)
   focus (intro _ bq wx hS; refine OpTo.calls rfl ?_ ?_; rotate_left; intro K hK; go_simp; refine (K3.out _).mono ?_; rintro e w' ⟨rfl, hq⟩; exact hK w' hq; exact rfl)
   focus (intro _ bq wx hS; refine OpTo.yields rfl ?_; clear hS; go_simp; try with_reducible rfl)
   focus (intro _ bq wx hS; refine OpTo.calls rfl ?_ ?_; rotate_left; intro K hK; go_simp; refine (K4.out _).mono ?_; rintro e w' ⟨rfl, hq⟩; exact hK w' hq; exact rfl)
  case hfinr2 =>
   intro wx hS
   refine tail_at (o := ?ofr2_10) ?hir2_10 ?hwr2_10 ?_
   case hir2_10 => rw [List.getElem?_toArray]; exact rfl
   case hwr2_10 => exact rfl
   obtain ⟨gP1z, gP10, gP11, gP12, gP13, gP1f⟩ := (OwnC.call P1_1.out hS).z4
   go_simp
   clear gP1z gP10 gP11 gP12 gP13 gP1f
   refine tail_end ?_
   obtain ⟨wz, hwz⟩ : ∃ wq, wq = ((((wx.setCell ⟨(w.heap.size + 1), 0, none⟩ (.int .u64 (limb (s) 0 : Nat))).setCell ⟨(w.heap.size + 1), 1, none⟩ (.int .u64 (limb (s) 1 : Nat))).setCell ⟨(w.heap.size + 1), 2, none⟩ (.int .u64 (limb (s) 2 : Nat))).setCell ⟨(w.heap.size + 1), 3, none⟩ (.int .u64 (limb (s) 3 : Nat))) := ⟨_, rfl⟩
   rw [← hwz]
   have hwy : wz = putL (w.heap.size + 1) 0 (numL s) wx := hwz
   have HZ : OwnC wz (w.heap.size + 1) (numL s) ∧ Below w.heap.size w wz := by
    rw [hwy]
    exact ⟨OwnC.put (numL s) (OwnC.call P1_1.out hS) rfl, below_putL (Nat.le_succ_of_le (Nat.le_refl _)) (numL s) 0 _ (below_call0 W_1.out hS)⟩
   clear hwz hwy
   obtain ⟨hO, HB⟩ := HZ
   obtain ⟨rz, r0, r1, r2, r3, rf⟩ := hO.num
   rename_i Kz hKz
   refine hKz _ _ ?_
   refine wp_ret ?_
   refine bodyPost_ret (v := .agg #[.int .u64 (limb (s) 0 : Nat), .int .u64 (limb (s) 1 : Nat), .int .u64 (limb (s) 2 : Nat), .int .u64 (limb (s) 3 : Nat)]) ?_ rfl ⟨rfl, HB⟩
   simp [results, Tryd.results60, go_sem, r0, r1, r2, r3]
end Go.Proofs.YtfkpbcionlidaaaDoor
