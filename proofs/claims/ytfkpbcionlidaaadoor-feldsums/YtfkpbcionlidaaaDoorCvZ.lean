/- Package curve: points and spots as elements of the group of the curve's points. -/
import Derived.Test.YtfkpbcionlidaaaDoorCmD
import Derived.Test.YtfkpbcionlidaaaDoorCvO
import Derived.Test.YtfkpbcionlidaaaDoorCvN
import Derived.Test.YtfkpbcionlidaaaDoorCmA
namespace Go.Proofs.YtfkpbcionlidaaaDoor
open Go Go.RowKit Go.Lib

theorem lt_R {x : Nat} (h : x < PP) : x < R256 := Nat.lt_trans h FM_P.2.1
/-- A point's coordinates, and whether it is the one at infinity. -/
def pX (a : Pts) : Nat := match a.1 with | none => 0 | some q => q.1.val
def pY (a : Pts) : Nat := match a.1 with | none => 0 | some q => q.2.val
def pI (a : Pts) : Bool := match a.1 with | none => true | some _ => false
theorem toF_back (q : FP) : toF q.val = q := Fin.ext (by rw [toF_val]; exact Nat.mod_eq_of_lt (val_lt q))
theorem pt_back (q : FP × FP) : pt q.1.val q.2.val = q := by unfold pt; rw [toF_back, toF_back]
theorem toF_low {x : Nat} (h : x < PP) : (toF x).val = x := by rw [toF_val]; exact Nat.mod_eq_of_lt h
theorem pX_lt (a : Pts) : pX a < PP := by
 unfold pX
 split
 ·exact PPpos
 ·exact val_lt _
theorem pY_lt (a : Pts) : pY a < PP := by
 unfold pY
 split
 ·exact PPpos
 ·exact val_lt _
theorem pX_none {a : Pts} (h : a.1 = none) : pX a = 0 := by unfold pX; rw [h]
theorem pY_none {a : Pts} (h : a.1 = none) : pY a = 0 := by unfold pY; rw [h]
theorem pI_none {a : Pts} (h : a.1 = none) : pI a = true := by unfold pI; rw [h]
theorem pX_some {a : Pts} {q : FP × FP} (h : a.1 = some q) : pX a = q.1.val := by unfold pX; rw [h]
theorem pY_some {a : Pts} {q : FP × FP} (h : a.1 = some q) : pY a = q.2.val := by unfold pY; rw [h]
theorem pI_some {a : Pts} {q : FP × FP} (h : a.1 = some q) : pI a = false := by unfold pI; rw [h]
theorem pX_of {a : Pts} {x y : Nat} (h : a.1 = some (pt x y)) (hx : x < PP) : pX a = x := (pX_some h).trans (toF_low hx)
theorem pY_of {a : Pts} {x y : Nat} (h : a.1 = some (pt x y)) (hy : y < PP) : pY a = y := (pY_some h).trans (toF_low hy)
theorem pts_z {a : Pts} (h : a.1 = none) : a = gr.z := Subtype.ext h
theorem pts_fin {a : Pts} {q : FP × FP} (h : a.1 = some q) : a.1 = some (pt (pX a) (pY a)) := by
 rw [pX_some h, pY_some h, pt_back]; exact h
theorem gr_add_val (a b : Pts) : (gr.add a b).1 = secp.add a.1 b.1 := rfl
theorem gr_z_val : gr.z.1 = none := rfl
theorem on_some {a : Pts} {q : FP × FP} (h : a.1 = some q) : secp.On q := by
 have k := a.2
 rw [h] at k
 exact k
theorem pts_ok (a : Pts) : ptOk (pX a) (pY a) (pI a) = true := by
 rcases ha : a.1 with _ | q
 ·rw [pX_none ha, pY_none ha, pI_none ha]; exact decide_eq_true (show (0 : Nat) = 0 ∧ (0 : Nat) = 0 from ⟨rfl, rfl⟩)
 ·have k := on_some (pts_fin ha)
  rw [pI_some ha]
  have e := on_iff.1 k
  refine decide_eq_true ⟨pX_lt a, pY_lt a, ?_⟩
  unfold sqM
  exact e
theorem pts_of {x y : Nat} {i : Bool} (h : ptOk x y i = true) : ∃ a : Pts, x = pX a ∧ y = pY a ∧ i = pI a := by
 cases i with
 | true =>
  have k := of_decide_eq_true (show decide (x = 0 ∧ y = 0) = true from h)
  exact ⟨gr.z, k.1.trans (pX_none gr_z_val).symm, k.2.trans (pY_none gr_z_val).symm, (pI_none gr_z_val).symm⟩
 | false =>
  have k := of_decide_eq_true (show decide (x < PP ∧ y < PP ∧ mM y y = sqM x) = true from h)
  have e := k.2.2
  unfold sqM at e
  refine ⟨⟨some (pt x y), on_iff.2 e⟩, ?_, ?_, ?_⟩
  ·exact (pX_of (x := x) (y := y) rfl k.1).symm
  ·exact (pY_of (x := x) (y := y) rfl k.2.1).symm
  ·exact (pI_some (q := pt x y) rfl).symm
theorem pts_inj {a b : Pts} (hx : pX a = pX b) (hy : pY a = pY b) (hi : pI a = pI b) : a = b := by
 rcases ha : a.1 with _ | q
 ·rcases hb : b.1 with _ | r
  ·exact Subtype.ext (ha.trans hb.symm)
  ·rw [pI_none ha, pI_some hb] at hi; cases hi
 ·rcases hb : b.1 with _ | r
  ·rw [pI_some ha, pI_none hb] at hi; cases hi
  ·exact Subtype.ext ((pts_fin ha).trans (by rw [hx, hy]; exact (pts_fin hb).symm))
theorem gr_zl (a : Pts) : gr.add gr.z a = a := (gr.comm _ _).trans (gr.zero a)
/-- A spot where a point of the group is. -/
def SpotA (w : World) (s g : Nat) (a : Pts) : Prop := ∃ x y z, SpotB w s g x y z ∧ SpotN x y z a.1
theorem SpotA.call {w w' : World} {s g : Nat} {a : Pts} (h : SpotA w s g a) (hb : Below w.heap.size w w') : SpotA w' s g a := by
 obtain ⟨x, y, z, h1, h2⟩ := h
 exact ⟨x, y, z, h1.call hb, h2⟩
theorem SpotA.lt {w : World} {s g : Nat} {a : Pts} (h : SpotA w s g a) : s < w.heap.size := by
 obtain ⟨x, y, z, h1, h2⟩ := h
 exact h1.lt
theorem sdouble_A (s g : Nat) (a : Pts) (w : World) (hM : FieldB w g PP) (hS : SpotA w s g a) (hT : GTH w) (hg : s ≠ g) :
  Calls Tryd.prog 58 #[.pointer (some ⟨s, 0, none⟩)] w fun e w' => e = .returned (.tuple #[]) ∧ SpotA w' s g (gr.add a a) ∧ ButC s w w' := by
 obtain ⟨x, y, z, hB, hN⟩ := hS
 by_cases h0 : z = 0
 ·subst h0
  have ha : a = gr.z := pts_z (spotN_zero hN)
  refine (sdouble_zero s g x y w hB).mono ?_
  rintro e w' ⟨rfl, rfl⟩
  refine ⟨rfl, ⟨x, y, 0, hB, ?_⟩, ButC.of (Below.refl _ _)⟩
  rw [ha] at hN ⊢
  rw [gr.zero]
  exact hN
 ·refine (sdouble_fin s g x y z _ _ _ _ hN.lx hN.ly hN.lz h0 rfl rfl rfl rfl w hM hB hT hg).mono ?_
  rintro e w' ⟨rfl, hB', hb⟩
  exact ⟨rfl, ⟨_, _, _, hB', by rw [gr_add_val]; exact spotN_double hN a.2 h0 rfl rfl rfl rfl⟩, hb⟩
theorem smeet_dbl (s g x y z X Y Z U : Nat) (hU : U = 0) (kd : ∀ w, FieldB w g PP → SpotB w s g x y z → GTH w → Calls Tryd.prog 58 #[.pointer (some ⟨s, 0, none⟩)] w fun e w' => e = .returned (.tuple #[]) ∧ SpotB w' s g X Y Z ∧ ButC s w w') (w : World) (hM : FieldB w g PP) (hS : SpotB w s g x y z) (hT : GTH w) :
  Calls Tryd.prog 83 #[.pointer (some ⟨s, 0, none⟩), .agg #[.int .u64 (limb (U) 0 : Nat), .int .u64 (limb (U) 1 : Nat), .int .u64 (limb (U) 2 : Nat), .int .u64 (limb (U) 3 : Nat)]] w fun e w' => e = .returned (.tuple #[]) ∧ SpotB w' s g X Y Z ∧ ButC s w w' := by
 have k := smeet_same s g x y z X Y Z kd w hM hS hT
 rw [hU, lit0.1, lit0.2.1, lit0.2.2.1, lit0.2.2.2]
 exact k
theorem sadd_A (s g b o : Nat) (a p : Pts) (w : World) (hM : FieldB w g PP) (hS : SpotA w s g a) (hP : PointB w b o (pX p) (pY p) (pI p)) (hT : GTH w) (hg : s ≠ g) :
  Calls Tryd.prog 59 #[.pointer (some ⟨s, 0, none⟩), .pointer (some ⟨b, o, none⟩)] w fun e w' => e = .returned (.tuple #[]) ∧ SpotA w' s g (gr.add a p) ∧ ButC s w w' := by
 obtain ⟨x, y, z, hB, hN⟩ := hS
 rcases hp : p.1 with _ | q
 ·rw [pI_none hp] at hP
  have hz : p = gr.z := pts_z hp
  refine (sadd_inf s b o _ _ w hP).mono ?_
  rintro e w' ⟨rfl, rfl⟩
  refine ⟨rfl, ⟨x, y, z, hB, ?_⟩, ButC.of (Below.refl _ _)⟩
  rw [hz, gr.zero]
  exact hN
 ·rw [pI_some hp] at hP
  have hq := pts_fin hp
  have on := on_some hq
  have lx := pX_lt p
  have ly := pY_lt p
  have hv : (gr.add a p).1 = secp.add a.1 (some (pt (pX p) (pY p))) := by rw [gr_add_val, hq]
  by_cases h0 : z = 0
  ·subst h0
   have ha : a = gr.z := pts_z (spotN_zero hN)
   refine (sadd_zero s g x y b o _ _ w hB hP).mono ?_
   rintro e w' ⟨rfl, hB', hb⟩
   refine ⟨rfl, ⟨_, _, _, hB', ?_⟩, hb⟩
   rw [ha, gr_zl, hq]
   exact spotN_at lx ly
  ·by_cases hA : sM (mM (pX p) (mM z z)) x = 0
   ·have hm := spotN_meet hN a.2 h0 on rfl rfl rfl hA
    by_cases hU : sM (mM (pY p) (mM (mM z z) z)) y = 0
    ·have e := hm.1 hU
     refine (sadd_meet s g x y z b o (pX p) (pY p) _ _ _ _ _ _ hN.lx hN.ly hN.lz lx ly h0 rfl rfl rfl hA (fun w h1 h2 h3 => smeet_dbl s g x y z _ _ _ _ hU (fun w h1 h2 h3 => sdouble_fin s g x y z _ _ _ _ hN.lx hN.ly hN.lz h0 rfl rfl rfl rfl w h1 h2 h3 hg) w h1 h2 h3) w hM hB hP hg hT).mono ?_
     rintro e w' ⟨rfl, hB', hb⟩
     refine ⟨rfl, ⟨_, _, _, hB', ?_⟩, hb⟩
     have k := spotN_double hN a.2 h0 rfl rfl rfl rfl
     rw [hv, ← e]
     exact k
    ·have e := hm.2 hU
     refine (sadd_meet s g x y z b o (pX p) (pY p) _ _ _ _ _ _ hN.lx hN.ly hN.lz lx ly h0 rfl rfl rfl hA (fun w h1 h2 h3 => smeet_other s g x y z _ (sM_lt _ _) hU w h2) w hM hB hP hg hT).mono ?_
     rintro e' w' ⟨rfl, hB', hb⟩
     refine ⟨rfl, ⟨_, _, _, hB', ?_⟩, hb⟩
     rw [hv, e]
     exact ⟨hN.lx, hN.ly, PPpos, by rw [toF_0]; exact spot_none _ _⟩
   ·refine (sadd_fin s g x y z b o (pX p) (pY p) _ _ _ _ _ _ _ hN.lx hN.ly hN.lz lx ly h0 rfl rfl rfl hA rfl rfl rfl rfl w hM hB hP hg).mono ?_
    rintro e w' ⟨rfl, hB', hb⟩
    refine ⟨rfl, ⟨_, _, _, hB', ?_⟩, hb⟩
    rw [hv]
    exact spotN_add hN a.2 h0 on rfl rfl rfl hA rfl rfl rfl rfl
theorem spoint_A (s g : Nat) (a : Pts) (w : World) (hM : FieldB w g PP) (hS : SpotA w s g a) :
  Calls Tryd.prog 79 #[.pointer (some ⟨s, 0, none⟩)] w fun e w' => e = .returned (.agg #[.int .u64 (limb (pX (a)) 0 : Nat), .int .u64 (limb (pX (a)) 1 : Nat), .int .u64 (limb (pX (a)) 2 : Nat), .int .u64 (limb (pX (a)) 3 : Nat), .int .u64 (limb (pY (a)) 0 : Nat), .int .u64 (limb (pY (a)) 1 : Nat), .int .u64 (limb (pY (a)) 2 : Nat), .int .u64 (limb (pY (a)) 3 : Nat), .bool (pI (a))]) ∧ Below w.heap.size w w' := by
 obtain ⟨x, y, z, hB, hN⟩ := hS
 by_cases h0 : z = 0
 ·subst h0
  have ha := spotN_zero hN
  rw [pX_none ha, pY_none ha, pI_none ha, lit0.1, lit0.2.1, lit0.2.2.1, lit0.2.2.2]
  exact spoint_zero s g x y w hB
 ·have k := spotN_point hN h0 rfl rfl
  rw [pX_of k (mM_lt _ _), pY_of k (mM_lt _ _), pI_some k]
  exact spoint_fin s g x y z _ _ hN.lx hN.ly hN.lz h0 rfl rfl w hM hB
theorem sM_neg (y : Nat) (hy : y < PP) : toF (sM 0 y) = - toF y := by
 rw [toF_sM hy, toF_0]
 grind
theorem pts_neg (a : Pts) : pX (gr.neg a) = pX a ∧ pY (gr.neg a) = sM 0 (pY a) ∧ pI (gr.neg a) = pI a := by
 rcases ha : a.1 with _ | q
 ·have e : (gr.neg a).1 = none := by show negO a.1 = none; rw [ha]; rfl
  rw [pX_none e, pY_none e, pI_none e, pX_none ha, pY_none ha, pI_none ha]
  exact ⟨rfl, by kernel_rfl, rfl⟩
 ·have f := pts_fin ha
  have e : (gr.neg a).1 = some (pt (pX a) (sM 0 (pY a))) := by
   show negO a.1 = _
   rw [f]
   show some (_, _) = some (_, _)
   rw [sM_neg _ (pY_lt a)]
   rfl
  exact ⟨pX_of e (pX_lt a), pY_of e (sM_lt _ _), (pI_some e).trans (pI_some ha).symm⟩
theorem pneg_A (g : Nat) (a : Pts) (w : World) (hM : FieldB w g PP) :
  Calls Tryd.prog 77 #[.agg #[.pointer (some ⟨g, 0, none⟩)], .agg #[.int .u64 (limb (pX (a)) 0 : Nat), .int .u64 (limb (pX (a)) 1 : Nat), .int .u64 (limb (pX (a)) 2 : Nat), .int .u64 (limb (pX (a)) 3 : Nat), .int .u64 (limb (pY (a)) 0 : Nat), .int .u64 (limb (pY (a)) 1 : Nat), .int .u64 (limb (pY (a)) 2 : Nat), .int .u64 (limb (pY (a)) 3 : Nat), .bool (pI (a))]] w fun e w' => e = .returned (.agg #[.int .u64 (limb (pX (gr.neg a)) 0 : Nat), .int .u64 (limb (pX (gr.neg a)) 1 : Nat), .int .u64 (limb (pX (gr.neg a)) 2 : Nat), .int .u64 (limb (pX (gr.neg a)) 3 : Nat), .int .u64 (limb (pY (gr.neg a)) 0 : Nat), .int .u64 (limb (pY (gr.neg a)) 1 : Nat), .int .u64 (limb (pY (gr.neg a)) 2 : Nat), .int .u64 (limb (pY (gr.neg a)) 3 : Nat), .bool (pI (gr.neg a))]) ∧ Below w.heap.size w w' := by
 have k := pneg_any g (pX a) (pY a) (pI a) (pY_lt a) w hM
 rw [(pts_neg a).1, (pts_neg a).2.1, (pts_neg a).2.2]
 exact k
end Go.Proofs.YtfkpbcionlidaaaDoor
