/- The reference's curve: sums, doublings, points with a denominator as elements of the group. -/
import Derived.Test.YtfkpbcionlidaaaDoorRf3D
import Derived.Test.YtfkpbcionlidaaaDoorRf3I
import Derived.Test.YtfkpbcionlidaaaDoorCmA
namespace Go.Proofs.YtfkpbcionlidaaaDoor
open Go Go.RowKit Go.Lib

theorem ovr_y0 {x y z : Nat} {a : Pts} (h : OvrN x y z a.1) (hz : z ≠ 0) : y ≠ 0 := ovrN_y h a.2 hz
theorem inf3 : (.agg #[.int .u64 0, .int .u64 0, .int .u64 0, .int .u64 0, .int .u64 1, .int .u64 0, .int .u64 0, .int .u64 0, .int .u64 0, .int .u64 0, .int .u64 0, .int .u64 0] : Value) = .agg #[.int .u64 (limb (0) 0 : Nat), .int .u64 (limb (0) 1 : Nat), .int .u64 (limb (0) 2 : Nat), .int .u64 (limb (0) 3 : Nat), .int .u64 (limb (1) 0 : Nat), .int .u64 (limb (1) 1 : Nat), .int .u64 (limb (1) 2 : Nat), .int .u64 (limb (1) 3 : Nat), .int .u64 (limb (0) 0 : Nat), .int .u64 (limb (0) 1 : Nat), .int .u64 (limb (0) 2 : Nat), .int .u64 (limb (0) 3 : Nat)] := by
 rw [lit0.1, lit0.2.1, lit0.2.2.1, lit0.2.2.2, lit1.1, lit1.2.1, lit1.2.2.1, lit1.2.2.2]
theorem twice3_A (x y z : Nat) (a : Pts) (h : OvrN x y z a.1) : ∃ X Y Z, OvrN X Y Z (gr.add a a).1 ∧ ∀ w, Calls Tryd.prog 43 #[.agg #[.int .u64 (limb (x) 0 : Nat), .int .u64 (limb (x) 1 : Nat), .int .u64 (limb (x) 2 : Nat), .int .u64 (limb (x) 3 : Nat), .int .u64 (limb (y) 0 : Nat), .int .u64 (limb (y) 1 : Nat), .int .u64 (limb (y) 2 : Nat), .int .u64 (limb (y) 3 : Nat), .int .u64 (limb (z) 0 : Nat), .int .u64 (limb (z) 1 : Nat), .int .u64 (limb (z) 2 : Nat), .int .u64 (limb (z) 3 : Nat)]] w fun e w' => e = .returned (.agg #[.int .u64 (limb (X) 0 : Nat), .int .u64 (limb (X) 1 : Nat), .int .u64 (limb (X) 2 : Nat), .int .u64 (limb (X) 3 : Nat), .int .u64 (limb (Y) 0 : Nat), .int .u64 (limb (Y) 1 : Nat), .int .u64 (limb (Y) 2 : Nat), .int .u64 (limb (Y) 3 : Nat), .int .u64 (limb (Z) 0 : Nat), .int .u64 (limb (Z) 1 : Nat), .int .u64 (limb (Z) 2 : Nat), .int .u64 (limb (Z) 3 : Nat)]) ∧ Below w.heap.size w w' := by
 by_cases hz : z = 0
 ·have ha : a = gr.z := by
   rw [hz] at h
   exact pts_z (ovrN_zero h)
  refine ⟨0, 1, 0, ?_, fun w => ?_⟩
  ·rw [ha, gr.zero]; exact ovrN_none
  ·rw [← inf3]; exact twice3_z x y z h.lz hz w
 ·refine ⟨_, _, _, ?_, fun w => twice3_fin x y z _ _ _ _ _ _ _ _ _ _ _ _ _ _ _ h.lx h.ly h.lz hz (ovr_y0 h hz) rfl rfl rfl rfl rfl rfl rfl rfl rfl rfl rfl rfl rfl rfl rfl w⟩
  rw [gr_add_val]
  exact ovrN_twice h a.2 hz rfl rfl rfl rfl rfl rfl rfl rfl rfl rfl rfl rfl
theorem plus3_A (x1 y1 z1 x2 y2 z2 : Nat) (a b : Pts) (h1 : OvrN x1 y1 z1 a.1) (h2 : OvrN x2 y2 z2 b.1) : ∃ X Y Z, OvrN X Y Z (gr.add a b).1 ∧ ∀ w, Calls Tryd.prog 20 #[.agg #[.int .u64 (limb (x1) 0 : Nat), .int .u64 (limb (x1) 1 : Nat), .int .u64 (limb (x1) 2 : Nat), .int .u64 (limb (x1) 3 : Nat), .int .u64 (limb (y1) 0 : Nat), .int .u64 (limb (y1) 1 : Nat), .int .u64 (limb (y1) 2 : Nat), .int .u64 (limb (y1) 3 : Nat), .int .u64 (limb (z1) 0 : Nat), .int .u64 (limb (z1) 1 : Nat), .int .u64 (limb (z1) 2 : Nat), .int .u64 (limb (z1) 3 : Nat)], .agg #[.int .u64 (limb (x2) 0 : Nat), .int .u64 (limb (x2) 1 : Nat), .int .u64 (limb (x2) 2 : Nat), .int .u64 (limb (x2) 3 : Nat), .int .u64 (limb (y2) 0 : Nat), .int .u64 (limb (y2) 1 : Nat), .int .u64 (limb (y2) 2 : Nat), .int .u64 (limb (y2) 3 : Nat), .int .u64 (limb (z2) 0 : Nat), .int .u64 (limb (z2) 1 : Nat), .int .u64 (limb (z2) 2 : Nat), .int .u64 (limb (z2) 3 : Nat)]] w fun e w' => e = .returned (.agg #[.int .u64 (limb (X) 0 : Nat), .int .u64 (limb (X) 1 : Nat), .int .u64 (limb (X) 2 : Nat), .int .u64 (limb (X) 3 : Nat), .int .u64 (limb (Y) 0 : Nat), .int .u64 (limb (Y) 1 : Nat), .int .u64 (limb (Y) 2 : Nat), .int .u64 (limb (Y) 3 : Nat), .int .u64 (limb (Z) 0 : Nat), .int .u64 (limb (Z) 1 : Nat), .int .u64 (limb (Z) 2 : Nat), .int .u64 (limb (Z) 3 : Nat)]) ∧ Below w.heap.size w w' := by
 by_cases hz1 : z1 = 0
 ·have ha : a = gr.z := by
   rw [hz1] at h1
   exact pts_z (ovrN_zero h1)
  refine ⟨x2, y2, z2, ?_, fun w => plus3_l x1 y1 z1 x2 y2 z2 h1.lz hz1 w⟩
  rw [ha, gr_zl]
  exact h2
 ·by_cases hz2 : z2 = 0
  ·have hb : b = gr.z := by
    rw [hz2] at h2
    exact pts_z (ovrN_zero h2)
   refine ⟨x1, y1, z1, ?_, fun w => plus3_r x1 y1 z1 x2 y2 z2 h1.lz h2.lz hz1 hz2 w⟩
   rw [hb, gr.zero]
   exact h1
  ·by_cases hv : sM (mM x2 z1) (mM x1 z2) = 0
   ·have hm := ovrN_same h1 h2 a.2 b.2 hz1 hz2 rfl rfl hv
    by_cases hu : sM (mM y2 z1) (mM y1 z2) = 0
    ·obtain ⟨X, Y, Z, hO, hT⟩ := twice3_A x1 y1 z1 a h1
     have e : a = b := Subtype.ext (hm.1 hu)
     refine ⟨X, Y, Z, ?_, fun w => plus3_same x1 y1 z1 x2 y2 z2 _ _ X Y Z h1.lx h1.ly h1.lz h2.lx h2.ly h2.lz hz1 hz2 rfl rfl hv hu hT w⟩
     rw [← e]
     exact hO
    ·refine ⟨0, 1, 0, ?_, fun w => ?_⟩
     ·rw [gr_add_val, hm.2 hu]; exact ovrN_none
     ·rw [← inf3]; exact plus3_opp x1 y1 z1 x2 y2 z2 _ _ h1.lx h1.ly h1.lz h2.lx h2.ly h2.lz hz1 hz2 rfl rfl hv hu w
   ·refine ⟨_, _, _, ?_, fun w => plus3_fin x1 y1 z1 x2 y2 z2 _ _ _ _ _ _ _ _ _ _ h1.lx h1.ly h1.lz h2.lx h2.ly h2.lz hz1 hz2 rfl rfl hv rfl rfl rfl rfl rfl rfl rfl rfl w⟩
    rw [gr_add_val]
    exact ovrN_plus h1 h2 a.2 b.2 hz1 hz2 rfl rfl hv rfl rfl rfl rfl rfl
theorem in3_A (a : Pts) : ∃ X Y Z, OvrN X Y Z a.1 ∧ ∀ w, Calls Tryd.prog 19 #[.agg #[.int .u64 (limb (pX (a)) 0 : Nat), .int .u64 (limb (pX (a)) 1 : Nat), .int .u64 (limb (pX (a)) 2 : Nat), .int .u64 (limb (pX (a)) 3 : Nat), .int .u64 (limb (pY (a)) 0 : Nat), .int .u64 (limb (pY (a)) 1 : Nat), .int .u64 (limb (pY (a)) 2 : Nat), .int .u64 (limb (pY (a)) 3 : Nat), .bool (pI (a))]] w fun e w' => e = .returned (.agg #[.int .u64 (limb (X) 0 : Nat), .int .u64 (limb (X) 1 : Nat), .int .u64 (limb (X) 2 : Nat), .int .u64 (limb (X) 3 : Nat), .int .u64 (limb (Y) 0 : Nat), .int .u64 (limb (Y) 1 : Nat), .int .u64 (limb (Y) 2 : Nat), .int .u64 (limb (Y) 3 : Nat), .int .u64 (limb (Z) 0 : Nat), .int .u64 (limb (Z) 1 : Nat), .int .u64 (limb (Z) 2 : Nat), .int .u64 (limb (Z) 3 : Nat)]) ∧ Below w.heap.size w w' := by
 rcases ha : a.1 with _ | q
 ·refine ⟨0, 1, 0, ovrN_none, fun w => ?_⟩
  rw [← inf3, pI_none ha]
  exact in3_inf _ _ w
 ·have e := pts_fin ha
  rw [ha] at e
  refine ⟨pX a, pY a, 1, ?_, fun w => ?_⟩
  ·rw [e]; exact ovrN_at (pX_lt a) (pY_lt a)
  ·rw [lit1.1, lit1.2.1, lit1.2.2.1, lit1.2.2.2, pI_some ha]
   exact in3_fin _ _ w
theorem out3_A (x y z : Nat) (a : Pts) (h : OvrN x y z a.1) (w : World) : Calls Tryd.prog 21 #[.agg #[.int .u64 (limb (x) 0 : Nat), .int .u64 (limb (x) 1 : Nat), .int .u64 (limb (x) 2 : Nat), .int .u64 (limb (x) 3 : Nat), .int .u64 (limb (y) 0 : Nat), .int .u64 (limb (y) 1 : Nat), .int .u64 (limb (y) 2 : Nat), .int .u64 (limb (y) 3 : Nat), .int .u64 (limb (z) 0 : Nat), .int .u64 (limb (z) 1 : Nat), .int .u64 (limb (z) 2 : Nat), .int .u64 (limb (z) 3 : Nat)]] w fun e w' => e = .returned (.agg #[.int .u64 (limb (pX (a)) 0 : Nat), .int .u64 (limb (pX (a)) 1 : Nat), .int .u64 (limb (pX (a)) 2 : Nat), .int .u64 (limb (pX (a)) 3 : Nat), .int .u64 (limb (pY (a)) 0 : Nat), .int .u64 (limb (pY (a)) 1 : Nat), .int .u64 (limb (pY (a)) 2 : Nat), .int .u64 (limb (pY (a)) 3 : Nat), .bool (pI (a))]) ∧ Below w.heap.size w w' := by
 by_cases hz : z = 0
 ·have ha : a.1 = none := by
   rw [hz] at h
   exact ovrN_zero h
  rw [pX_none ha, pY_none ha, pI_none ha, lit0.1, lit0.2.1, lit0.2.2.1, lit0.2.2.2]
  exact out3_inf x y z h.lz hz w
 ·have k := ovrN_point h hz rfl
  rw [pX_of k (mM_lt _ _), pY_of k (mM_lt _ _), pI_some k]
  exact out3_fin x y z _ _ _ h.lx h.ly h.lz hz rfl rfl rfl w
end Go.Proofs.YtfkpbcionlidaaaDoor
