/- Package curve: a spot and a point of the same X are added. -/
import Derived.Test.YtgmfecncfekjfaaDoorCvM
namespace Go.Proofs.YtgmfecncfekjfaaDoor
open Go Go.RowKit Go.Lib
attribute [local go_sem] run_eq4

set_option maxRecDepth 100000 in
set_option maxHeartbeats 4000000 in
theorem sadd_meet (s g x y z b o px py sq A U X Y Z : Nat) (hx : x < PP) (hy : y < PP) (hz : z < PP) (hpx : px < PP) (hpy : py < PP) (h0 : z ≠ 0) (hsq : sq = mM z z) (hA : A = sM (mM px sq) x) (hU : U = sM (mM py (mM sq z)) y) (hA0 : A = 0) (km : ∀ w, FieldB w g PP → SpotB w s g x y z → GTH w → Calls Tryd.prog 65 #[.pointer (some ⟨s, 0, none⟩), .agg #[.int .u64 (limb (U) 0 : Nat), .int .u64 (limb (U) 1 : Nat), .int .u64 (limb (U) 2 : Nat), .int .u64 (limb (U) 3 : Nat)]] w fun e w' => e = .returned (.tuple #[]) ∧ SpotB w' s g X Y Z ∧ ButC s w w') (w : World) (hM : FieldB w g PP) (hS : SpotB w s g x y z) (hP : PointB w b o px py false) (hg : s ≠ g) (hT : GTH w) :
  Calls Tryd.prog 31 #[.pointer (some ⟨s, 0, none⟩), .pointer (some ⟨b, o, none⟩)] w fun e w' => e = .returned (.tuple #[]) ∧ SpotB w' s g X Y Z ∧ ButC s w w' := by
 have lsq : sq < PP := by rw [hsq]; exact mM_lt _ _
 have lA : A < PP := by rw [hA]; exact sM_lt _ _
 have lU : U < PP := by rw [hU]; exact sM_lt _ _
 obtain ⟨c1, ec1⟩ : ∃ u, u = mM px sq := ⟨_, rfl⟩
 have lc1 : c1 < PP := by rw [ec1]; exact mM_lt _ _
 obtain ⟨c2, ec2⟩ : ∃ u, u = mM sq z := ⟨_, rfl⟩
 have lc2 : c2 < PP := by rw [ec2]; exact mM_lt _ _
 obtain ⟨c3, ec3⟩ : ∃ u, u = mM py c2 := ⟨_, rfl⟩
 have lc3 : c3 < PP := by rw [ec3]; exact mM_lt _ _
 rw [← ec1] at hA
 rw [← ec2, ← ec3] at hU
 have K1 : Hid (∀ w, FieldB w g PP → Calls Tryd.prog 62 #[.agg #[.pointer (some ⟨g, 0, none⟩)], .agg #[.int .u64 (limb (z) 0 : Nat), .int .u64 (limb (z) 1 : Nat), .int .u64 (limb (z) 2 : Nat), .int .u64 (limb (z) 3 : Nat)], .agg #[.int .u64 (limb (z) 0 : Nat), .int .u64 (limb (z) 1 : Nat), .int .u64 (limb (z) 2 : Nat), .int .u64 (limb (z) 3 : Nat)]] w fun e w' => e = .returned (.agg #[.int .u64 (limb (sq) 0 : Nat), .int .u64 (limb (sq) 1 : Nat), .int .u64 (limb (sq) 2 : Nat), .int .u64 (limb (sq) 3 : Nat)]) ∧ Below w.heap.size w w') := fun w h => by have k := ptimes_any g z z hz hz w h; rw [← hsq] at k; exact k
 have K2 : Hid (∀ w, FieldB w g PP → Calls Tryd.prog 62 #[.agg #[.pointer (some ⟨g, 0, none⟩)], .agg #[.int .u64 (limb (px) 0 : Nat), .int .u64 (limb (px) 1 : Nat), .int .u64 (limb (px) 2 : Nat), .int .u64 (limb (px) 3 : Nat)], .agg #[.int .u64 (limb (sq) 0 : Nat), .int .u64 (limb (sq) 1 : Nat), .int .u64 (limb (sq) 2 : Nat), .int .u64 (limb (sq) 3 : Nat)]] w fun e w' => e = .returned (.agg #[.int .u64 (limb (c1) 0 : Nat), .int .u64 (limb (c1) 1 : Nat), .int .u64 (limb (c1) 2 : Nat), .int .u64 (limb (c1) 3 : Nat)]) ∧ Below w.heap.size w w') := fun w h => by have k := ptimes_any g px sq hpx lsq w h; rw [← ec1] at k; exact k
 have K3 : Hid (∀ w, FieldB w g PP → Calls Tryd.prog 64 #[.agg #[.pointer (some ⟨g, 0, none⟩)], .agg #[.int .u64 (limb (c1) 0 : Nat), .int .u64 (limb (c1) 1 : Nat), .int .u64 (limb (c1) 2 : Nat), .int .u64 (limb (c1) 3 : Nat)], .agg #[.int .u64 (limb (x) 0 : Nat), .int .u64 (limb (x) 1 : Nat), .int .u64 (limb (x) 2 : Nat), .int .u64 (limb (x) 3 : Nat)]] w fun e w' => e = .returned (.agg #[.int .u64 (limb (A) 0 : Nat), .int .u64 (limb (A) 1 : Nat), .int .u64 (limb (A) 2 : Nat), .int .u64 (limb (A) 3 : Nat)]) ∧ Below w.heap.size w w') := fun w h => by have k := pminus_any g c1 x lc1 hx w h; rw [← hA] at k; exact k
 have K4 : Hid (∀ w, FieldB w g PP → Calls Tryd.prog 62 #[.agg #[.pointer (some ⟨g, 0, none⟩)], .agg #[.int .u64 (limb (sq) 0 : Nat), .int .u64 (limb (sq) 1 : Nat), .int .u64 (limb (sq) 2 : Nat), .int .u64 (limb (sq) 3 : Nat)], .agg #[.int .u64 (limb (z) 0 : Nat), .int .u64 (limb (z) 1 : Nat), .int .u64 (limb (z) 2 : Nat), .int .u64 (limb (z) 3 : Nat)]] w fun e w' => e = .returned (.agg #[.int .u64 (limb (c2) 0 : Nat), .int .u64 (limb (c2) 1 : Nat), .int .u64 (limb (c2) 2 : Nat), .int .u64 (limb (c2) 3 : Nat)]) ∧ Below w.heap.size w w') := fun w h => by have k := ptimes_any g sq z lsq hz w h; rw [← ec2] at k; exact k
 have K5 : Hid (∀ w, FieldB w g PP → Calls Tryd.prog 62 #[.agg #[.pointer (some ⟨g, 0, none⟩)], .agg #[.int .u64 (limb (py) 0 : Nat), .int .u64 (limb (py) 1 : Nat), .int .u64 (limb (py) 2 : Nat), .int .u64 (limb (py) 3 : Nat)], .agg #[.int .u64 (limb (c2) 0 : Nat), .int .u64 (limb (c2) 1 : Nat), .int .u64 (limb (c2) 2 : Nat), .int .u64 (limb (c2) 3 : Nat)]] w fun e w' => e = .returned (.agg #[.int .u64 (limb (c3) 0 : Nat), .int .u64 (limb (c3) 1 : Nat), .int .u64 (limb (c3) 2 : Nat), .int .u64 (limb (c3) 3 : Nat)]) ∧ Below w.heap.size w w') := fun w h => by have k := ptimes_any g py c2 hpy lc2 w h; rw [← ec3] at k; exact k
 have K6 : Hid (∀ w, FieldB w g PP → Calls Tryd.prog 64 #[.agg #[.pointer (some ⟨g, 0, none⟩)], .agg #[.int .u64 (limb (c3) 0 : Nat), .int .u64 (limb (c3) 1 : Nat), .int .u64 (limb (c3) 2 : Nat), .int .u64 (limb (c3) 3 : Nat)], .agg #[.int .u64 (limb (y) 0 : Nat), .int .u64 (limb (y) 1 : Nat), .int .u64 (limb (y) 2 : Nat), .int .u64 (limb (y) 3 : Nat)]] w fun e w' => e = .returned (.agg #[.int .u64 (limb (U) 0 : Nat), .int .u64 (limb (U) 1 : Nat), .int .u64 (limb (U) 2 : Nat), .int .u64 (limb (U) 3 : Nat)]) ∧ Below w.heap.size w w') := fun w h => by have k := pminus_any g c3 y lc3 hy w h; rw [← hU] at k; exact k
 have KM : Hid _ := km
 have e0 : eq4 (limb z 0 : Nat) (limb z 1 : Nat) (limb z 2 : Nat) (limb z 3 : Nat) 0 0 0 0 = false := by
  rw [eq4_zeroC z (Nat.lt_trans hz FM_P.2.1)]; exact decide_eq_false h0
 have e1 : eq4 (limb A 0 : Nat) (limb A 1 : Nat) (limb A 2 : Nat) (limb A 3 : Nat) 0 0 0 0 = true := by
  rw [eq4_zeroC A (Nat.lt_trans lA FM_P.2.1)]; exact decide_eq_true hA0
 have HZ : Hid (s ≠ g ∧ s < w.heap.size) := ⟨hg, hS.lt⟩
 have F0 : Hid (FieldB w g PP) := hM
 have S0 : Hid (SpotB w s g x y z) := hS
 have P0 : Hid (PointB w b o px py false) := hP
 have W0 : Hid (Below w.heap.size w w) := Below.refl _ _
 have T0 : Hid (GTH w) := hT
 obtain ⟨pz, p0, p1, p2, p3, p4, p5, p6, p7, p8⟩ := hP
 obtain ⟨sz, sg, sx0, sx1, sx2, sx3, sy0, sy1, sy2, sy3, sz0, sz1, sz2, sz3, sf⟩ := hS
 clear hM hT hg hx hy hz hpx hpy h0 hsq hA hU hA0 km lsq lA lU ec1 lc1 ec2 lc2 ec3 lc3
 go_enter Tryd.func31, Tryd.ntmps31
 go_upto_region 3 with fail
 clear sz sg sx0 sx1 sx2 sx3 sy0 sy1 sy2 sy3 sz0 sz1 sz2 sz3 sf pz p0 p1 p2 p3 p4 p5 p6 p7 p8 e0
 go_upto_region 3 with fail
 go_cut [4] (fun v wx => ∃ b4, v = .pointer (some ⟨b4, 0, none⟩) ∧ w.heap.size ≤ b4 ∧ Own4 wx b4 sq ∧ Below w.heap.size w wx)
 case first =>
  refine wp_region_N (fun w' => Below w.heap.size w w') 14 15 rfl (by kernel_rfl) ?_
  refine wpAnyN_take (i := 0) (oi := ?o0r3) (v := ?v0r3) ?hi0r3 (by kernel_rfl) (by kernel_rfl) (by kernel_rfl) (by kernel_rfl) (by decide) (by kernel_rfl) ?hQ0r3 ?hy0r3 (Below.drew (Below.refl _ _)) ?more0r3
  case hi0r3 => rw [List.getElem?_toArray]; exact rfl
  case hQ0r3 => exact fun _ _ _ h => h
  case hy0r3 =>
   refine Or.inl ⟨by rfl, ?_⟩
   intro w' hSw
   obtain ⟨sz, sg, sx0, sx1, sx2, sx3, sy0, sy1, sy2, sy3, sz0, sz1, sz2, sz3, sf⟩ := S0.out.call hSw
   clear hSw
   go_simp
   try with_reducible rfl
  simp only [Act.put, List.setIfInBounds_toArray, List.set_cons_zero, List.set_cons_succ]
  refine wpAnyN_take (i := 1) (oi := ?o1r3) (v := ?v1r3) ?hi1r3 (by kernel_rfl) (by kernel_rfl) (by kernel_rfl) (by kernel_rfl) (by decide) (by kernel_rfl) ?hQ1r3 ?hy1r3 (Below.drew (Below.refl _ _)) ?more1r3
  case hi1r3 => rw [List.getElem?_toArray]; exact rfl
  case hQ1r3 => exact fun _ _ _ h => h
  case hy1r3 =>
   refine Or.inl ⟨by rfl, ?_⟩
   intro w' hSw
   obtain ⟨sz, sg, sx0, sx1, sx2, sx3, sy0, sy1, sy2, sy3, sz0, sz1, sz2, sz3, sf⟩ := S0.out.call hSw
   clear hSw
   go_simp
   try with_reducible rfl
  simp only [Act.put, List.setIfInBounds_toArray, List.set_cons_zero, List.set_cons_succ]
  refine wpAnyN_take (i := 2) (oi := ?o2r3) (v := ?v2r3) ?hi2r3 (by kernel_rfl) (by kernel_rfl) (by kernel_rfl) (by kernel_rfl) (by decide) (by kernel_rfl) ?hQ2r3 ?hy2r3 (Below.drew (Below.refl _ _)) ?more2r3
  case hi2r3 => rw [List.getElem?_toArray]; exact rfl
  case hQ2r3 => exact fun _ _ _ h => h
  case hy2r3 =>
   refine Or.inl ⟨by rfl, ?_⟩
   intro w' hSw
   obtain ⟨sz, sg, sx0, sx1, sx2, sx3, sy0, sy1, sy2, sy3, sz0, sz1, sz2, sz3, sf⟩ := S0.out.call hSw
   clear hSw
   go_simp
   try with_reducible rfl
  simp only [Act.put, List.setIfInBounds_toArray, List.set_cons_zero, List.set_cons_succ]
  refine wpAnyN_take (i := 3) (oi := ?o3r3) (v := ?v3r3) ?hi3r3 (by kernel_rfl) (by kernel_rfl) (by kernel_rfl) (by kernel_rfl) (by decide) (by kernel_rfl) ?hQ3r3 ?hy3r3 (Below.drew (Below.refl _ _)) ?more3r3
  case hi3r3 => rw [List.getElem?_toArray]; exact rfl
  case hQ3r3 => exact fun _ _ _ h => h
  case hy3r3 =>
   refine Or.inl ⟨by rfl, ?_⟩
   intro w' hSw
   obtain ⟨sz, sg, sx0, sx1, sx2, sx3, sy0, sy1, sy2, sy3, sz0, sz1, sz2, sz3, sf⟩ := S0.out.call hSw
   clear hSw
   go_simp
   try with_reducible rfl
  simp only [Act.put, List.setIfInBounds_toArray, List.set_cons_zero, List.set_cons_succ]
  refine wpAnyN_take (i := 4) (oi := ?o4r3) (v := ?v4r3) ?hi4r3 (by kernel_rfl) (by kernel_rfl) (by kernel_rfl) (by kernel_rfl) (by decide) (by kernel_rfl) ?hQ4r3 ?hy4r3 (Below.drew (Below.refl _ _)) ?more4r3
  case hi4r3 => rw [List.getElem?_toArray]; exact rfl
  case hQ4r3 => exact fun _ _ _ h => h
  case hy4r3 =>
   refine Or.inl ⟨by rfl, ?_⟩
   intro w' hSw
   obtain ⟨sz, sg, sx0, sx1, sx2, sx3, sy0, sy1, sy2, sy3, sz0, sz1, sz2, sz3, sf⟩ := S0.out.call hSw
   clear hSw
   go_simp
   try with_reducible rfl
  simp only [Act.put, List.setIfInBounds_toArray, List.set_cons_zero, List.set_cons_succ]
  refine wpAnyN_take (i := 5) (oi := ?o5r3) (v := ?v5r3) ?hi5r3 (by kernel_rfl) (by kernel_rfl) (by kernel_rfl) (by kernel_rfl) (by decide) (by kernel_rfl) ?hQ5r3 ?hy5r3 (Below.drew (Below.refl _ _)) ?more5r3
  case hi5r3 => rw [List.getElem?_toArray]; exact rfl
  case hQ5r3 => exact fun _ _ _ h => h
  case hy5r3 =>
   refine Or.inl ⟨by rfl, ?_⟩
   intro w' hSw
   obtain ⟨sz, sg, sx0, sx1, sx2, sx3, sy0, sy1, sy2, sy3, sz0, sz1, sz2, sz3, sf⟩ := S0.out.call hSw
   clear hSw
   go_simp
   try with_reducible rfl
  simp only [Act.put, List.setIfInBounds_toArray, List.set_cons_zero, List.set_cons_succ]
  refine wpAnyN_take (i := 6) (oi := ?o6r3) (v := ?v6r3) ?hi6r3 (by kernel_rfl) (by kernel_rfl) (by kernel_rfl) (by kernel_rfl) (by decide) (by kernel_rfl) ?hQ6r3 ?hy6r3 (Below.drew (Below.refl _ _)) ?more6r3
  case hi6r3 => rw [List.getElem?_toArray]; exact rfl
  case hQ6r3 => exact fun _ _ _ h => h
  case hy6r3 =>
   refine Or.inl ⟨by rfl, ?_⟩
   intro w' hSw
   obtain ⟨sz, sg, sx0, sx1, sx2, sx3, sy0, sy1, sy2, sy3, sz0, sz1, sz2, sz3, sf⟩ := S0.out.call hSw
   clear hSw
   go_simp
   try with_reducible rfl
  simp only [Act.put, List.setIfInBounds_toArray, List.set_cons_zero, List.set_cons_succ]
  refine wpAnyN_take (i := 7) (oi := ?o7r3) (v := ?v7r3) ?hi7r3 (by kernel_rfl) (by kernel_rfl) (by kernel_rfl) (by kernel_rfl) (by decide) (by kernel_rfl) ?hQ7r3 ?hy7r3 (Below.drew (Below.refl _ _)) ?more7r3
  case hi7r3 => rw [List.getElem?_toArray]; exact rfl
  case hQ7r3 => exact fun _ _ _ h => h
  case hy7r3 =>
   refine Or.inl ⟨by rfl, ?_⟩
   intro w' hSw
   obtain ⟨sz, sg, sx0, sx1, sx2, sx3, sy0, sy1, sy2, sy3, sz0, sz1, sz2, sz3, sf⟩ := S0.out.call hSw
   clear hSw
   go_simp
   try with_reducible rfl
  simp only [Act.put, List.setIfInBounds_toArray, List.set_cons_zero, List.set_cons_succ]
  refine wpAnyN_take (i := 8) (oi := ?o8r3) (v := ?v8r3) ?hi8r3 (by kernel_rfl) (by kernel_rfl) (by kernel_rfl) (by kernel_rfl) (by decide) (by kernel_rfl) ?hQ8r3 ?hy8r3 (Below.drew (Below.refl _ _)) ?more8r3
  case hi8r3 => rw [List.getElem?_toArray]; exact rfl
  case hQ8r3 => exact fun _ _ _ h => h
  case hy8r3 =>
   refine Or.inl ⟨by rfl, ?_⟩
   intro w' hSw
   obtain ⟨sz, sg, sx0, sx1, sx2, sx3, sy0, sy1, sy2, sy3, sz0, sz1, sz2, sz3, sf⟩ := S0.out.call hSw
   clear hSw
   go_simp
   try with_reducible rfl
  simp only [Act.put, List.setIfInBounds_toArray, List.set_cons_zero, List.set_cons_succ]
  refine wpAnyN_take (i := 9) (oi := ?o9r3) (v := ?v9r3) ?hi9r3 (by kernel_rfl) (by kernel_rfl) (by kernel_rfl) (by kernel_rfl) (by decide) (by kernel_rfl) ?hQ9r3 ?hy9r3 (Below.drew (Below.refl _ _)) ?more9r3
  case hi9r3 => rw [List.getElem?_toArray]; exact rfl
  case hQ9r3 => exact fun _ _ _ h => h
  case hy9r3 =>
   refine Or.inl ⟨by rfl, ?_⟩
   intro w' hSw
   obtain ⟨sz, sg, sx0, sx1, sx2, sx3, sy0, sy1, sy2, sy3, sz0, sz1, sz2, sz3, sf⟩ := S0.out.call hSw
   clear hSw
   go_simp
   try with_reducible rfl
  simp only [Act.put, List.setIfInBounds_toArray, List.set_cons_zero, List.set_cons_succ]
  refine wpAnyN_take (i := 10) (oi := ?o10r3) (v := ?v10r3) ?hi10r3 (by kernel_rfl) (by kernel_rfl) (by kernel_rfl) (by kernel_rfl) (by decide) (by kernel_rfl) ?hQ10r3 ?hy10r3 (Below.drew (Below.refl _ _)) ?more10r3
  case hi10r3 => rw [List.getElem?_toArray]; exact rfl
  case hQ10r3 => exact fun _ _ _ h => h
  case hy10r3 =>
   refine Or.inl ⟨by rfl, ?_⟩
   intro w' hSw
   obtain ⟨sz, sg, sx0, sx1, sx2, sx3, sy0, sy1, sy2, sy3, sz0, sz1, sz2, sz3, sf⟩ := S0.out.call hSw
   clear hSw
   go_simp
   try with_reducible rfl
  simp only [Act.put, List.setIfInBounds_toArray, List.set_cons_zero, List.set_cons_succ]
  refine wpAnyN_take (i := 11) (oi := ?o11r3) (v := ?v11r3) ?hi11r3 (by kernel_rfl) (by kernel_rfl) (by kernel_rfl) (by kernel_rfl) (by decide) (by kernel_rfl) ?hQ11r3 ?hy11r3 (Below.drew (Below.refl _ _)) ?more11r3
  case hi11r3 => rw [List.getElem?_toArray]; exact rfl
  case hQ11r3 => exact fun _ _ _ h => h
  case hy11r3 =>
   refine Or.inl ⟨by rfl, ?_⟩
   intro w' hSw
   obtain ⟨sz, sg, sx0, sx1, sx2, sx3, sy0, sy1, sy2, sy3, sz0, sz1, sz2, sz3, sf⟩ := S0.out.call hSw
   clear hSw
   go_simp
   try with_reducible rfl
  simp only [Act.put, List.setIfInBounds_toArray, List.set_cons_zero, List.set_cons_succ]
  refine wpAnyN_two (i := 12) (j := 13) (o := ?o12r3x1) (p := ?o13r3x1) (by kernel_rfl) ?hi12r3x1 ?hi13r3x1 ?hw12r3x1 ?hw13r3x1 ?st12r3x1 ?st13r3x1
  case hi12r3x1 => rw [List.getElem?_toArray]; exact rfl
  case hw12r3x1 => exact rfl
  case hi13r3x1 => rw [List.getElem?_toArray]; exact rfl
  case hw13r3x1 => exact rfl
  case st12r3x1 =>
   intro K hK
   have HK12r3y2 : Hid _ := hK
   clear hK
   go_simp
   refine (K1.out _ (F0.out.call (Below.drew (Below.refl _ _)))).mono ?_
   rintro e w12r3y2 ⟨rfl, hq⟩
   have H12r3y2 : Hid (Below w.heap.size w w12r3y2) := below_call0 (Below.drew (Below.refl _ _)) hq
   clear hq
   go_wp2_with fail
   refine HK12r3y2.out _ _ ⟨fun _ => H12r3y2.out, ?_⟩
   clear HK12r3y2 K
   try simp only [Act.put, List.setIfInBounds_toArray, List.set_cons_zero, List.set_cons_succ]
   refine wpAnyN_one (i := 13) (o := ?o13r3y2) (by kernel_rfl) ?hi13r3y2 ?hw13r3y2 ?st13r3y2
   case hi13r3y2 => rw [List.getElem?_toArray]; exact rfl
   case hw13r3y2 => exact rfl
   intro K hK
   have HK13r3y2 : Hid _ := hK
   clear hK
   go_simp
   refine HK13r3y2.out _ _ ⟨fun _ => (below_alloc0 H12r3y2.out _), ?_⟩
   clear HK13r3y2 K
   try simp only [Act.put, List.setIfInBounds_toArray, List.set_cons_zero, List.set_cons_succ]
   refine wpAnyN_one (i := 14) (o := ?o14r3y2) (by kernel_rfl) ?hi14r3y2 ?hw14r3y2 ?st14r3y2
   case hi14r3y2 => rw [List.getElem?_toArray]; exact rfl
   case hw14r3y2 => exact rfl
   intro K hK
   have HK14r3y2 : Hid _ := hK
   clear hK
   obtain ⟨⟨o0, o1, o2, o3⟩, ⟨f0, f1, f2, f3⟩, oz⟩ := Pend.facts (Pend.newC (W := w12r3y2) (t := 24) rfl)
   try simp only [World.size_alloc] at o0 o1 o2 o3 f0 f1 f2 f3 oz
   go_simp
   refine HK14r3y2.out _ _ ⟨fun h => absurd h (by decide +kernel), ?_⟩
   clear HK14r3y2 K
   try simp only [Act.put, List.setIfInBounds_toArray, List.set_cons_zero, List.set_cons_succ]
   refine wpAnyN_done (by kernel_rfl) ?_ _
   obtain ⟨wSr3y2, hwS⟩ : ∃ y, y = w12r3y2.alloc (.cells #[.int .u64 (limb sq 0 : Nat), .int .u64 (limb sq 1 : Nat), .int .u64 (limb sq 2 : Nat), .int .u64 (limb sq 3 : Nat)] 24) := ⟨_, rfl⟩
   have HSr3y2 : Hid (Own4 wSr3y2 (w12r3y2.heap.size) sq ∧ Below w.heap.size w wSr3y2) := by rw [hwS]; exact ⟨Own4.new' rfl, below_alloc0 H12r3y2.out _⟩
   rw [← hwS]
   clear hwS o0 o1 o2 o3 f0 f1 f2 f3 oz
   go_wp2_with fail
   go_meet
   exact ⟨_, rfl, (Below.size H12r3y2.out), HSr3y2.out.1, HSr3y2.out.2⟩
  case st13r3x1 =>
   intro K hK
   have HK13r3y3 : Hid _ := hK
   clear hK
   go_simp
   refine HK13r3y3.out _ _ ⟨fun _ => (below_alloc0 (Below.drew (Below.refl _ _)) _), ?_⟩
   clear HK13r3y3 K
   try simp only [Act.put, List.setIfInBounds_toArray, List.set_cons_zero, List.set_cons_succ]
   refine wpAnyN_one (i := 12) (o := ?o12r3y3) (by kernel_rfl) ?hi12r3y3 ?hw12r3y3 ?st12r3y3
   case hi12r3y3 => rw [List.getElem?_toArray]; exact rfl
   case hw12r3y3 => exact rfl
   intro K hK
   have HK12r3y3 : Hid _ := hK
   clear hK
   go_simp
   refine (K1.out _ (F0.out.call (below_alloc0 (Below.drew (Below.refl _ _)) _))).mono ?_
   rintro e w12r3y3 ⟨rfl, hq⟩
   have H12r3y3 : Hid (Below w.heap.size w w12r3y3) := below_call0 (below_alloc0 (Below.drew (Below.refl _ _)) _) hq
   have P12r3y3 : Hid (Pend w12r3y3 (w.heap.size)) := Pend.call (Pend.newC (W := w.drew) (t := 24) rfl) hq
   clear hq
   go_wp2_with fail
   refine HK12r3y3.out _ _ ⟨fun _ => H12r3y3.out, ?_⟩
   clear HK12r3y3 K
   try simp only [Act.put, List.setIfInBounds_toArray, List.set_cons_zero, List.set_cons_succ]
   refine wpAnyN_one (i := 14) (o := ?o14r3y3) (by kernel_rfl) ?hi14r3y3 ?hw14r3y3 ?st14r3y3
   case hi14r3y3 => rw [List.getElem?_toArray]; exact rfl
   case hw14r3y3 => exact rfl
   intro K hK
   have HK14r3y3 : Hid _ := hK
   clear hK
   obtain ⟨⟨o0, o1, o2, o3⟩, ⟨f0, f1, f2, f3⟩, oz⟩ := Pend.facts P12r3y3.out
   try simp only [World.size_alloc] at o0 o1 o2 o3 f0 f1 f2 f3 oz
   go_simp
   refine HK14r3y3.out _ _ ⟨fun h => absurd h (by decide +kernel), ?_⟩
   clear HK14r3y3 K
   try simp only [Act.put, List.setIfInBounds_toArray, List.set_cons_zero, List.set_cons_succ]
   refine wpAnyN_done (by kernel_rfl) ?_ _
   obtain ⟨wSr3y3, hwS⟩ : ∃ y, y = ((((w12r3y3.setCell ⟨w.heap.size, 0, none⟩ (.int .u64 (limb sq 0 : Nat))).setCell ⟨w.heap.size, 1, none⟩ (.int .u64 (limb sq 1 : Nat))).setCell ⟨w.heap.size, 2, none⟩ (.int .u64 (limb sq 2 : Nat))).setCell ⟨w.heap.size, 3, none⟩ (.int .u64 (limb sq 3 : Nat))) := ⟨_, rfl⟩
   have HSr3y3 : Hid (Own4 wSr3y3 (w.heap.size) sq ∧ Below w.heap.size w wSr3y3) := by rw [hwS]; exact ⟨Pend.own P12r3y3.out, Below.setCell (Below.setCell (Below.setCell (Below.setCell H12r3y3.out (Nat.le_refl _) _) (Nat.le_refl _) _) (Nat.le_refl _) _) (Nat.le_refl _) _⟩
   rw [← hwS]
   clear hwS o0 o1 o2 o3 f0 f1 f2 f3 oz
   go_wp2_with fail
   go_meet
   exact ⟨_, rfl, (Nat.le_refl _), HSr3y3.out.1, HSr3y3.out.2⟩
 case rest =>
  obtain ⟨b4, rfl, hle, hO, hB⟩ := hcut
  have F1 : Hid (FieldB wc g PP) := F0.out.call hB
  have S1 : Hid (SpotB wc s g x y z) := S0.out.call hB
  have P1 : Hid (PointB wc b o px py false) := P0.out.call hB
  have W1 : Hid (Below w.heap.size w wc) := below_call0 W0.out hB
  have T1 : Hid (GTH wc) := T0.out.call hB
  have NE4 : Hid (s ≠ b4) := Nat.ne_of_lt (Nat.lt_of_lt_of_le HZ.out.2 (Nat.le_trans W0.out.size hle))
  have O41 : Hid (Own4 wc b4 sq) := hO
  clear hO hB hle F0 S0 P0 W0 T0
  generalize wc = w1 at F1 S1 P1 W1 T1 O41 ⊢
  go_upto_region 4 with fail
  go_cut [5] (fun v wx => ∃ b5, v = .pointer (some ⟨b5, 0, none⟩) ∧ w1.heap.size ≤ b5 ∧ Own4 wx b5 A ∧ Below w1.heap.size w1 wx)
  case first =>
   refine wp_region_N (fun w' => Below w1.heap.size w1 w') 20 21 rfl (by kernel_rfl) ?_
   refine wpAnyN_take (i := 0) (oi := ?o0r4) (v := ?v0r4) ?hi0r4 (by kernel_rfl) (by kernel_rfl) (by kernel_rfl) (by kernel_rfl) (by decide) (by kernel_rfl) ?hQ0r4 ?hy0r4 (Below.drew (Below.refl _ _)) ?more0r4
   case hi0r4 => rw [List.getElem?_toArray]; exact rfl
   case hQ0r4 => exact fun _ _ _ h => h
   case hy0r4 =>
    refine Or.inl ⟨by rfl, ?_⟩
    intro w' hSw
    obtain ⟨sz, sg, sx0, sx1, sx2, sx3, sy0, sy1, sy2, sy3, sz0, sz1, sz2, sz3, sf⟩ := S1.out.call hSw
    obtain ⟨pz, p0, p1, p2, p3, p4, p5, p6, p7, p8⟩ := P1.out.call hSw
    obtain ⟨⟨o40, o41, o42, o43⟩, -, o4z⟩ := (Own4.call (O41.out) hSw).facts
    clear hSw
    go_simp
    try with_reducible rfl
   simp only [Act.put, List.setIfInBounds_toArray, List.set_cons_zero, List.set_cons_succ]
   refine wpAnyN_take (i := 1) (oi := ?o1r4) (v := ?v1r4) ?hi1r4 (by kernel_rfl) (by kernel_rfl) (by kernel_rfl) (by kernel_rfl) (by decide) (by kernel_rfl) ?hQ1r4 ?hy1r4 (Below.drew (Below.refl _ _)) ?more1r4
   case hi1r4 => rw [List.getElem?_toArray]; exact rfl
   case hQ1r4 => exact fun _ _ _ h => h
   case hy1r4 =>
    refine Or.inl ⟨by rfl, ?_⟩
    intro w' hSw
    obtain ⟨sz, sg, sx0, sx1, sx2, sx3, sy0, sy1, sy2, sy3, sz0, sz1, sz2, sz3, sf⟩ := S1.out.call hSw
    obtain ⟨pz, p0, p1, p2, p3, p4, p5, p6, p7, p8⟩ := P1.out.call hSw
    obtain ⟨⟨o40, o41, o42, o43⟩, -, o4z⟩ := (Own4.call (O41.out) hSw).facts
    clear hSw
    go_simp
    try with_reducible rfl
   simp only [Act.put, List.setIfInBounds_toArray, List.set_cons_zero, List.set_cons_succ]
   refine wpAnyN_take (i := 2) (oi := ?o2r4) (v := ?v2r4) ?hi2r4 (by kernel_rfl) (by kernel_rfl) (by kernel_rfl) (by kernel_rfl) (by decide) (by kernel_rfl) ?hQ2r4 ?hy2r4 (Below.drew (Below.refl _ _)) ?more2r4
   case hi2r4 => rw [List.getElem?_toArray]; exact rfl
   case hQ2r4 => exact fun _ _ _ h => h
   case hy2r4 =>
    refine Or.inl ⟨by rfl, ?_⟩
    intro w' hSw
    obtain ⟨sz, sg, sx0, sx1, sx2, sx3, sy0, sy1, sy2, sy3, sz0, sz1, sz2, sz3, sf⟩ := S1.out.call hSw
    obtain ⟨pz, p0, p1, p2, p3, p4, p5, p6, p7, p8⟩ := P1.out.call hSw
    obtain ⟨⟨o40, o41, o42, o43⟩, -, o4z⟩ := (Own4.call (O41.out) hSw).facts
    clear hSw
    go_simp
    try with_reducible rfl
   simp only [Act.put, List.setIfInBounds_toArray, List.set_cons_zero, List.set_cons_succ]
   refine wpAnyN_take (i := 3) (oi := ?o3r4) (v := ?v3r4) ?hi3r4 (by kernel_rfl) (by kernel_rfl) (by kernel_rfl) (by kernel_rfl) (by decide) (by kernel_rfl) ?hQ3r4 ?hy3r4 (Below.drew (Below.refl _ _)) ?more3r4
   case hi3r4 => rw [List.getElem?_toArray]; exact rfl
   case hQ3r4 => exact fun _ _ _ h => h
   case hy3r4 =>
    refine Or.inl ⟨by rfl, ?_⟩
    intro w' hSw
    obtain ⟨sz, sg, sx0, sx1, sx2, sx3, sy0, sy1, sy2, sy3, sz0, sz1, sz2, sz3, sf⟩ := S1.out.call hSw
    obtain ⟨pz, p0, p1, p2, p3, p4, p5, p6, p7, p8⟩ := P1.out.call hSw
    obtain ⟨⟨o40, o41, o42, o43⟩, -, o4z⟩ := (Own4.call (O41.out) hSw).facts
    clear hSw
    go_simp
    try with_reducible rfl
   simp only [Act.put, List.setIfInBounds_toArray, List.set_cons_zero, List.set_cons_succ]
   refine wpAnyN_take (i := 4) (oi := ?o4r4) (v := ?v4r4) ?hi4r4 (by kernel_rfl) (by kernel_rfl) (by kernel_rfl) (by kernel_rfl) (by decide) (by kernel_rfl) ?hQ4r4 ?hy4r4 (Below.drew (Below.refl _ _)) ?more4r4
   case hi4r4 => rw [List.getElem?_toArray]; exact rfl
   case hQ4r4 => exact fun _ _ _ h => h
   case hy4r4 =>
    refine Or.inl ⟨by rfl, ?_⟩
    intro w' hSw
    obtain ⟨sz, sg, sx0, sx1, sx2, sx3, sy0, sy1, sy2, sy3, sz0, sz1, sz2, sz3, sf⟩ := S1.out.call hSw
    obtain ⟨pz, p0, p1, p2, p3, p4, p5, p6, p7, p8⟩ := P1.out.call hSw
    obtain ⟨⟨o40, o41, o42, o43⟩, -, o4z⟩ := (Own4.call (O41.out) hSw).facts
    clear hSw
    go_simp
    try with_reducible rfl
   simp only [Act.put, List.setIfInBounds_toArray, List.set_cons_zero, List.set_cons_succ]
   refine wpAnyN_take (i := 5) (oi := ?o5r4) (v := ?v5r4) ?hi5r4 (by kernel_rfl) (by kernel_rfl) (by kernel_rfl) (by kernel_rfl) (by decide) (by kernel_rfl) ?hQ5r4 ?hy5r4 (Below.drew (Below.refl _ _)) ?more5r4
   case hi5r4 => rw [List.getElem?_toArray]; exact rfl
   case hQ5r4 => exact fun _ _ _ h => h
   case hy5r4 =>
    refine Or.inl ⟨by rfl, ?_⟩
    intro w' hSw
    obtain ⟨sz, sg, sx0, sx1, sx2, sx3, sy0, sy1, sy2, sy3, sz0, sz1, sz2, sz3, sf⟩ := S1.out.call hSw
    obtain ⟨pz, p0, p1, p2, p3, p4, p5, p6, p7, p8⟩ := P1.out.call hSw
    obtain ⟨⟨o40, o41, o42, o43⟩, -, o4z⟩ := (Own4.call (O41.out) hSw).facts
    clear hSw
    go_simp
    try with_reducible rfl
   simp only [Act.put, List.setIfInBounds_toArray, List.set_cons_zero, List.set_cons_succ]
   refine wpAnyN_take (i := 6) (oi := ?o6r4) (v := ?v6r4) ?hi6r4 (by kernel_rfl) (by kernel_rfl) (by kernel_rfl) (by kernel_rfl) (by decide) (by kernel_rfl) ?hQ6r4 ?hy6r4 (Below.drew (Below.refl _ _)) ?more6r4
   case hi6r4 => rw [List.getElem?_toArray]; exact rfl
   case hQ6r4 => exact fun _ _ _ h => h
   case hy6r4 =>
    refine Or.inl ⟨by rfl, ?_⟩
    intro w' hSw
    obtain ⟨sz, sg, sx0, sx1, sx2, sx3, sy0, sy1, sy2, sy3, sz0, sz1, sz2, sz3, sf⟩ := S1.out.call hSw
    obtain ⟨pz, p0, p1, p2, p3, p4, p5, p6, p7, p8⟩ := P1.out.call hSw
    obtain ⟨⟨o40, o41, o42, o43⟩, -, o4z⟩ := (Own4.call (O41.out) hSw).facts
    clear hSw
    go_simp
    try with_reducible rfl
   simp only [Act.put, List.setIfInBounds_toArray, List.set_cons_zero, List.set_cons_succ]
   refine wpAnyN_take (i := 7) (oi := ?o7r4) (v := ?v7r4) ?hi7r4 (by kernel_rfl) (by kernel_rfl) (by kernel_rfl) (by kernel_rfl) (by decide) (by kernel_rfl) ?hQ7r4 ?hy7r4 (Below.drew (Below.refl _ _)) ?more7r4
   case hi7r4 => rw [List.getElem?_toArray]; exact rfl
   case hQ7r4 => exact fun _ _ _ h => h
   case hy7r4 =>
    refine Or.inl ⟨by rfl, ?_⟩
    intro w' hSw
    obtain ⟨sz, sg, sx0, sx1, sx2, sx3, sy0, sy1, sy2, sy3, sz0, sz1, sz2, sz3, sf⟩ := S1.out.call hSw
    obtain ⟨pz, p0, p1, p2, p3, p4, p5, p6, p7, p8⟩ := P1.out.call hSw
    obtain ⟨⟨o40, o41, o42, o43⟩, -, o4z⟩ := (Own4.call (O41.out) hSw).facts
    clear hSw
    go_simp
    try with_reducible rfl
   simp only [Act.put, List.setIfInBounds_toArray, List.set_cons_zero, List.set_cons_succ]
   refine wpAnyN_take (i := 8) (oi := ?o8r4) (v := ?v8r4) ?hi8r4 (by kernel_rfl) (by kernel_rfl) (by kernel_rfl) (by kernel_rfl) (by decide) (by kernel_rfl) ?hQ8r4 ?hy8r4 (Below.drew (Below.refl _ _)) ?more8r4
   case hi8r4 => rw [List.getElem?_toArray]; exact rfl
   case hQ8r4 => exact fun _ _ _ h => h
   case hy8r4 =>
    refine Or.inl ⟨by rfl, ?_⟩
    intro w' hSw
    obtain ⟨sz, sg, sx0, sx1, sx2, sx3, sy0, sy1, sy2, sy3, sz0, sz1, sz2, sz3, sf⟩ := S1.out.call hSw
    obtain ⟨pz, p0, p1, p2, p3, p4, p5, p6, p7, p8⟩ := P1.out.call hSw
    obtain ⟨⟨o40, o41, o42, o43⟩, -, o4z⟩ := (Own4.call (O41.out) hSw).facts
    clear hSw
    go_simp
    try with_reducible rfl
   simp only [Act.put, List.setIfInBounds_toArray, List.set_cons_zero, List.set_cons_succ]
   refine wpAnyN_take (i := 9) (oi := ?o9r4) (v := ?v9r4) ?hi9r4 (by kernel_rfl) (by kernel_rfl) (by kernel_rfl) (by kernel_rfl) (by decide) (by kernel_rfl) ?hQ9r4 ?hy9r4 (Below.drew (Below.refl _ _)) ?more9r4
   case hi9r4 => rw [List.getElem?_toArray]; exact rfl
   case hQ9r4 => exact fun _ _ _ h => h
   case hy9r4 =>
    refine Or.inl ⟨by rfl, ?_⟩
    intro w' hSw
    obtain ⟨sz, sg, sx0, sx1, sx2, sx3, sy0, sy1, sy2, sy3, sz0, sz1, sz2, sz3, sf⟩ := S1.out.call hSw
    obtain ⟨pz, p0, p1, p2, p3, p4, p5, p6, p7, p8⟩ := P1.out.call hSw
    obtain ⟨⟨o40, o41, o42, o43⟩, -, o4z⟩ := (Own4.call (O41.out) hSw).facts
    clear hSw
    go_simp
    try with_reducible rfl
   simp only [Act.put, List.setIfInBounds_toArray, List.set_cons_zero, List.set_cons_succ]
   refine wpAnyN_take (i := 10) (oi := ?o10r4) (v := ?v10r4) ?hi10r4 (by kernel_rfl) (by kernel_rfl) (by kernel_rfl) (by kernel_rfl) (by decide) (by kernel_rfl) ?hQ10r4 ?hy10r4 (Below.drew (Below.refl _ _)) ?more10r4
   case hi10r4 => rw [List.getElem?_toArray]; exact rfl
   case hQ10r4 => exact fun _ _ _ h => h
   case hy10r4 =>
    refine Or.inl ⟨by rfl, ?_⟩
    intro w' hSw
    obtain ⟨sz, sg, sx0, sx1, sx2, sx3, sy0, sy1, sy2, sy3, sz0, sz1, sz2, sz3, sf⟩ := S1.out.call hSw
    obtain ⟨pz, p0, p1, p2, p3, p4, p5, p6, p7, p8⟩ := P1.out.call hSw
    obtain ⟨⟨o40, o41, o42, o43⟩, -, o4z⟩ := (Own4.call (O41.out) hSw).facts
    clear hSw
    go_simp
    try with_reducible rfl
   simp only [Act.put, List.setIfInBounds_toArray, List.set_cons_zero, List.set_cons_succ]
   refine wpAnyN_take (i := 11) (oi := ?o11r4) (v := ?v11r4) ?hi11r4 (by kernel_rfl) (by kernel_rfl) (by kernel_rfl) (by kernel_rfl) (by decide) (by kernel_rfl) ?hQ11r4 ?hy11r4 (Below.drew (Below.refl _ _)) ?more11r4
   case hi11r4 => rw [List.getElem?_toArray]; exact rfl
   case hQ11r4 => exact fun _ _ _ h => h
   case hy11r4 =>
    refine Or.inl ⟨by rfl, ?_⟩
    intro w' hSw
    obtain ⟨sz, sg, sx0, sx1, sx2, sx3, sy0, sy1, sy2, sy3, sz0, sz1, sz2, sz3, sf⟩ := S1.out.call hSw
    obtain ⟨pz, p0, p1, p2, p3, p4, p5, p6, p7, p8⟩ := P1.out.call hSw
    obtain ⟨⟨o40, o41, o42, o43⟩, -, o4z⟩ := (Own4.call (O41.out) hSw).facts
    clear hSw
    go_simp
    try with_reducible rfl
   simp only [Act.put, List.setIfInBounds_toArray, List.set_cons_zero, List.set_cons_succ]
   refine wpAnyN_take (i := 12) (oi := ?o12r4) (v := ?v12r4) ?hi12r4 (by kernel_rfl) (by kernel_rfl) (by kernel_rfl) (by kernel_rfl) (by decide) (by kernel_rfl) ?hQ12r4 ?hy12r4 (Below.drew (Below.refl _ _)) ?more12r4
   case hi12r4 => rw [List.getElem?_toArray]; exact rfl
   case hQ12r4 => exact fun _ _ _ h => h
   case hy12r4 =>
    refine Or.inl ⟨by rfl, ?_⟩
    intro w' hSw
    obtain ⟨sz, sg, sx0, sx1, sx2, sx3, sy0, sy1, sy2, sy3, sz0, sz1, sz2, sz3, sf⟩ := S1.out.call hSw
    obtain ⟨pz, p0, p1, p2, p3, p4, p5, p6, p7, p8⟩ := P1.out.call hSw
    obtain ⟨⟨o40, o41, o42, o43⟩, -, o4z⟩ := (Own4.call (O41.out) hSw).facts
    clear hSw
    go_simp
    try with_reducible rfl
   simp only [Act.put, List.setIfInBounds_toArray, List.set_cons_zero, List.set_cons_succ]
   refine wpAnyN_take (i := 14) (oi := ?o14r4) (v := ?v14r4) ?hi14r4 (by kernel_rfl) (by kernel_rfl) (by kernel_rfl) (by kernel_rfl) (by decide) (by kernel_rfl) ?hQ14r4 ?hy14r4 (Below.drew (Below.refl _ _)) ?more14r4
   case hi14r4 => rw [List.getElem?_toArray]; exact rfl
   case hQ14r4 => exact fun _ _ _ h => h
   case hy14r4 =>
    refine Or.inl ⟨by rfl, ?_⟩
    intro w' hSw
    obtain ⟨sz, sg, sx0, sx1, sx2, sx3, sy0, sy1, sy2, sy3, sz0, sz1, sz2, sz3, sf⟩ := S1.out.call hSw
    obtain ⟨pz, p0, p1, p2, p3, p4, p5, p6, p7, p8⟩ := P1.out.call hSw
    obtain ⟨⟨o40, o41, o42, o43⟩, -, o4z⟩ := (Own4.call (O41.out) hSw).facts
    clear hSw
    go_simp
    try with_reducible rfl
   simp only [Act.put, List.setIfInBounds_toArray, List.set_cons_zero, List.set_cons_succ]
   refine wpAnyN_take (i := 15) (oi := ?o15r4) (v := ?v15r4) ?hi15r4 (by kernel_rfl) (by kernel_rfl) (by kernel_rfl) (by kernel_rfl) (by decide) (by kernel_rfl) ?hQ15r4 ?hy15r4 (Below.drew (Below.refl _ _)) ?more15r4
   case hi15r4 => rw [List.getElem?_toArray]; exact rfl
   case hQ15r4 => exact fun _ _ _ h => h
   case hy15r4 =>
    refine Or.inl ⟨by rfl, ?_⟩
    intro w' hSw
    obtain ⟨sz, sg, sx0, sx1, sx2, sx3, sy0, sy1, sy2, sy3, sz0, sz1, sz2, sz3, sf⟩ := S1.out.call hSw
    obtain ⟨pz, p0, p1, p2, p3, p4, p5, p6, p7, p8⟩ := P1.out.call hSw
    obtain ⟨⟨o40, o41, o42, o43⟩, -, o4z⟩ := (Own4.call (O41.out) hSw).facts
    clear hSw
    go_simp
    try with_reducible rfl
   simp only [Act.put, List.setIfInBounds_toArray, List.set_cons_zero, List.set_cons_succ]
   refine wpAnyN_take (i := 16) (oi := ?o16r4) (v := ?v16r4) ?hi16r4 (by kernel_rfl) (by kernel_rfl) (by kernel_rfl) (by kernel_rfl) (by decide) (by kernel_rfl) ?hQ16r4 ?hy16r4 (Below.drew (Below.refl _ _)) ?more16r4
   case hi16r4 => rw [List.getElem?_toArray]; exact rfl
   case hQ16r4 => exact fun _ _ _ h => h
   case hy16r4 =>
    refine Or.inl ⟨by rfl, ?_⟩
    intro w' hSw
    obtain ⟨sz, sg, sx0, sx1, sx2, sx3, sy0, sy1, sy2, sy3, sz0, sz1, sz2, sz3, sf⟩ := S1.out.call hSw
    obtain ⟨pz, p0, p1, p2, p3, p4, p5, p6, p7, p8⟩ := P1.out.call hSw
    obtain ⟨⟨o40, o41, o42, o43⟩, -, o4z⟩ := (Own4.call (O41.out) hSw).facts
    clear hSw
    go_simp
    try with_reducible rfl
   simp only [Act.put, List.setIfInBounds_toArray, List.set_cons_zero, List.set_cons_succ]
   refine wpAnyN_take (i := 17) (oi := ?o17r4) (v := ?v17r4) ?hi17r4 (by kernel_rfl) (by kernel_rfl) (by kernel_rfl) (by kernel_rfl) (by decide) (by kernel_rfl) ?hQ17r4 ?hy17r4 (Below.drew (Below.refl _ _)) ?more17r4
   case hi17r4 => rw [List.getElem?_toArray]; exact rfl
   case hQ17r4 => exact fun _ _ _ h => h
   case hy17r4 =>
    refine Or.inl ⟨by rfl, ?_⟩
    intro w' hSw
    obtain ⟨sz, sg, sx0, sx1, sx2, sx3, sy0, sy1, sy2, sy3, sz0, sz1, sz2, sz3, sf⟩ := S1.out.call hSw
    obtain ⟨pz, p0, p1, p2, p3, p4, p5, p6, p7, p8⟩ := P1.out.call hSw
    obtain ⟨⟨o40, o41, o42, o43⟩, -, o4z⟩ := (Own4.call (O41.out) hSw).facts
    clear hSw
    go_simp
    try with_reducible rfl
   simp only [Act.put, List.setIfInBounds_toArray, List.set_cons_zero, List.set_cons_succ]
   refine wpAnyN_two (i := 13) (j := 19) (o := ?o13r4x1) (p := ?o19r4x1) (by kernel_rfl) ?hi13r4x1 ?hi19r4x1 ?hw13r4x1 ?hw19r4x1 ?st13r4x1 ?st19r4x1
   case hi13r4x1 => rw [List.getElem?_toArray]; exact rfl
   case hw13r4x1 => exact rfl
   case hi19r4x1 => rw [List.getElem?_toArray]; exact rfl
   case hw19r4x1 => exact rfl
   case st13r4x1 =>
    intro K hK
    have HK13r4y2 : Hid _ := hK
    clear hK
    go_simp
    refine (K2.out _ (F1.out.call (Below.drew (Below.refl _ _)))).mono ?_
    rintro e w13r4y2 ⟨rfl, hq⟩
    have H13r4y2 : Hid (Below w1.heap.size w1 w13r4y2) := below_call0 (Below.drew (Below.refl _ _)) hq
    clear hq
    go_wp2_with fail
    refine HK13r4y2.out _ _ ⟨fun _ => H13r4y2.out, ?_⟩
    clear HK13r4y2 K
    try simp only [Act.put, List.setIfInBounds_toArray, List.set_cons_zero, List.set_cons_succ]
    refine wpAnyN_two (i := 18) (j := 19) (o := ?o18r4y2x3) (p := ?o19r4y2x3) (by kernel_rfl) ?hi18r4y2x3 ?hi19r4y2x3 ?hw18r4y2x3 ?hw19r4y2x3 ?st18r4y2x3 ?st19r4y2x3
    case hi18r4y2x3 => rw [List.getElem?_toArray]; exact rfl
    case hw18r4y2x3 => exact rfl
    case hi19r4y2x3 => rw [List.getElem?_toArray]; exact rfl
    case hw19r4y2x3 => exact rfl
    case st18r4y2x3 =>
     intro K hK
     have HK18r4y4 : Hid _ := hK
     clear hK
     go_simp
     refine (K3.out _ (F1.out.call H13r4y2.out)).mono ?_
     rintro e w18r4y4 ⟨rfl, hq⟩
     have H18r4y4 : Hid (Below w1.heap.size w1 w18r4y4) := below_call0 H13r4y2.out hq
     clear hq
     go_wp2_with fail
     refine HK18r4y4.out _ _ ⟨fun _ => H18r4y4.out, ?_⟩
     clear HK18r4y4 K
     try simp only [Act.put, List.setIfInBounds_toArray, List.set_cons_zero, List.set_cons_succ]
     refine wpAnyN_one (i := 19) (o := ?o19r4y4) (by kernel_rfl) ?hi19r4y4 ?hw19r4y4 ?st19r4y4
     case hi19r4y4 => rw [List.getElem?_toArray]; exact rfl
     case hw19r4y4 => exact rfl
     intro K hK
     have HK19r4y4 : Hid _ := hK
     clear hK
     go_simp
     refine HK19r4y4.out _ _ ⟨fun _ => (below_alloc0 H18r4y4.out _), ?_⟩
     clear HK19r4y4 K
     try simp only [Act.put, List.setIfInBounds_toArray, List.set_cons_zero, List.set_cons_succ]
     refine wpAnyN_one (i := 20) (o := ?o20r4y4) (by kernel_rfl) ?hi20r4y4 ?hw20r4y4 ?st20r4y4
     case hi20r4y4 => rw [List.getElem?_toArray]; exact rfl
     case hw20r4y4 => exact rfl
     intro K hK
     have HK20r4y4 : Hid _ := hK
     clear hK
     obtain ⟨⟨o0, o1, o2, o3⟩, ⟨f0, f1, f2, f3⟩, oz⟩ := Pend.facts (Pend.newC (W := w18r4y4) (t := 24) rfl)
     try simp only [World.size_alloc] at o0 o1 o2 o3 f0 f1 f2 f3 oz
     go_simp
     refine HK20r4y4.out _ _ ⟨fun h => absurd h (by decide +kernel), ?_⟩
     clear HK20r4y4 K
     try simp only [Act.put, List.setIfInBounds_toArray, List.set_cons_zero, List.set_cons_succ]
     refine wpAnyN_done (by kernel_rfl) ?_ _
     obtain ⟨wSr4y4, hwS⟩ : ∃ y, y = w18r4y4.alloc (.cells #[.int .u64 (limb A 0 : Nat), .int .u64 (limb A 1 : Nat), .int .u64 (limb A 2 : Nat), .int .u64 (limb A 3 : Nat)] 24) := ⟨_, rfl⟩
     have HSr4y4 : Hid (Own4 wSr4y4 (w18r4y4.heap.size) A ∧ Below w1.heap.size w1 wSr4y4) := by rw [hwS]; exact ⟨Own4.new' rfl, below_alloc0 H18r4y4.out _⟩
     rw [← hwS]
     clear hwS o0 o1 o2 o3 f0 f1 f2 f3 oz
     go_wp2_with fail
     go_meet
     exact ⟨_, rfl, (Below.size H18r4y4.out), HSr4y4.out.1, HSr4y4.out.2⟩
    case st19r4y2x3 =>
     intro K hK
     have HK19r4y5 : Hid _ := hK
     clear hK
     go_simp
     refine HK19r4y5.out _ _ ⟨fun _ => (below_alloc0 H13r4y2.out _), ?_⟩
     clear HK19r4y5 K
     try simp only [Act.put, List.setIfInBounds_toArray, List.set_cons_zero, List.set_cons_succ]
     refine wpAnyN_one (i := 18) (o := ?o18r4y5) (by kernel_rfl) ?hi18r4y5 ?hw18r4y5 ?st18r4y5
     case hi18r4y5 => rw [List.getElem?_toArray]; exact rfl
     case hw18r4y5 => exact rfl
     intro K hK
     have HK18r4y5 : Hid _ := hK
     clear hK
     go_simp
     refine (K3.out _ (F1.out.call (below_alloc0 H13r4y2.out _))).mono ?_
     rintro e w18r4y5 ⟨rfl, hq⟩
     have H18r4y5 : Hid (Below w1.heap.size w1 w18r4y5) := below_call0 (below_alloc0 H13r4y2.out _) hq
     have P18r4y5 : Hid (Pend w18r4y5 (w13r4y2.heap.size)) := Pend.call (Pend.newC (W := w13r4y2) (t := 24) rfl) hq
     clear hq
     go_wp2_with fail
     refine HK18r4y5.out _ _ ⟨fun _ => H18r4y5.out, ?_⟩
     clear HK18r4y5 K
     try simp only [Act.put, List.setIfInBounds_toArray, List.set_cons_zero, List.set_cons_succ]
     refine wpAnyN_one (i := 20) (o := ?o20r4y5) (by kernel_rfl) ?hi20r4y5 ?hw20r4y5 ?st20r4y5
     case hi20r4y5 => rw [List.getElem?_toArray]; exact rfl
     case hw20r4y5 => exact rfl
     intro K hK
     have HK20r4y5 : Hid _ := hK
     clear hK
     obtain ⟨⟨o0, o1, o2, o3⟩, ⟨f0, f1, f2, f3⟩, oz⟩ := Pend.facts P18r4y5.out
     try simp only [World.size_alloc] at o0 o1 o2 o3 f0 f1 f2 f3 oz
     go_simp
     refine HK20r4y5.out _ _ ⟨fun h => absurd h (by decide +kernel), ?_⟩
     clear HK20r4y5 K
     try simp only [Act.put, List.setIfInBounds_toArray, List.set_cons_zero, List.set_cons_succ]
     refine wpAnyN_done (by kernel_rfl) ?_ _
     obtain ⟨wSr4y5, hwS⟩ : ∃ y, y = ((((w18r4y5.setCell ⟨w13r4y2.heap.size, 0, none⟩ (.int .u64 (limb A 0 : Nat))).setCell ⟨w13r4y2.heap.size, 1, none⟩ (.int .u64 (limb A 1 : Nat))).setCell ⟨w13r4y2.heap.size, 2, none⟩ (.int .u64 (limb A 2 : Nat))).setCell ⟨w13r4y2.heap.size, 3, none⟩ (.int .u64 (limb A 3 : Nat))) := ⟨_, rfl⟩
     have HSr4y5 : Hid (Own4 wSr4y5 (w13r4y2.heap.size) A ∧ Below w1.heap.size w1 wSr4y5) := by rw [hwS]; exact ⟨Pend.own P18r4y5.out, Below.setCell (Below.setCell (Below.setCell (Below.setCell H18r4y5.out (Below.size H13r4y2.out) _) (Below.size H13r4y2.out) _) (Below.size H13r4y2.out) _) (Below.size H13r4y2.out) _⟩
     rw [← hwS]
     clear hwS o0 o1 o2 o3 f0 f1 f2 f3 oz
     go_wp2_with fail
     go_meet
     exact ⟨_, rfl, (Below.size H13r4y2.out), HSr4y5.out.1, HSr4y5.out.2⟩
   case st19r4x1 =>
    intro K hK
    have HK19r4y6 : Hid _ := hK
    clear hK
    go_simp
    refine HK19r4y6.out _ _ ⟨fun _ => (below_alloc0 (Below.drew (Below.refl _ _)) _), ?_⟩
    clear HK19r4y6 K
    try simp only [Act.put, List.setIfInBounds_toArray, List.set_cons_zero, List.set_cons_succ]
    refine wpAnyN_one (i := 13) (o := ?o13r4y6) (by kernel_rfl) ?hi13r4y6 ?hw13r4y6 ?st13r4y6
    case hi13r4y6 => rw [List.getElem?_toArray]; exact rfl
    case hw13r4y6 => exact rfl
    intro K hK
    have HK13r4y6 : Hid _ := hK
    clear hK
    go_simp
    refine (K2.out _ (F1.out.call (below_alloc0 (Below.drew (Below.refl _ _)) _))).mono ?_
    rintro e w13r4y6 ⟨rfl, hq⟩
    have H13r4y6 : Hid (Below w1.heap.size w1 w13r4y6) := below_call0 (below_alloc0 (Below.drew (Below.refl _ _)) _) hq
    have P13r4y6 : Hid (Pend w13r4y6 (w1.heap.size)) := Pend.call (Pend.newC (W := w1.drew) (t := 24) rfl) hq
    clear hq
    go_wp2_with fail
    refine HK13r4y6.out _ _ ⟨fun _ => H13r4y6.out, ?_⟩
    clear HK13r4y6 K
    try simp only [Act.put, List.setIfInBounds_toArray, List.set_cons_zero, List.set_cons_succ]
    refine wpAnyN_one (i := 18) (o := ?o18r4y6) (by kernel_rfl) ?hi18r4y6 ?hw18r4y6 ?st18r4y6
    case hi18r4y6 => rw [List.getElem?_toArray]; exact rfl
    case hw18r4y6 => exact rfl
    intro K hK
    have HK18r4y6 : Hid _ := hK
    clear hK
    go_simp
    refine (K3.out _ (F1.out.call H13r4y6.out)).mono ?_
    rintro e w18r4y6 ⟨rfl, hq⟩
    have H18r4y6 : Hid (Below w1.heap.size w1 w18r4y6) := below_call0 H13r4y6.out hq
    have P18r4y6 : Hid (Pend w18r4y6 (w1.heap.size)) := Pend.call P13r4y6.out hq
    clear hq
    go_wp2_with fail
    refine HK18r4y6.out _ _ ⟨fun _ => H18r4y6.out, ?_⟩
    clear HK18r4y6 K
    try simp only [Act.put, List.setIfInBounds_toArray, List.set_cons_zero, List.set_cons_succ]
    refine wpAnyN_one (i := 20) (o := ?o20r4y6) (by kernel_rfl) ?hi20r4y6 ?hw20r4y6 ?st20r4y6
    case hi20r4y6 => rw [List.getElem?_toArray]; exact rfl
    case hw20r4y6 => exact rfl
    intro K hK
    have HK20r4y6 : Hid _ := hK
    clear hK
    obtain ⟨⟨o0, o1, o2, o3⟩, ⟨f0, f1, f2, f3⟩, oz⟩ := Pend.facts P18r4y6.out
    try simp only [World.size_alloc] at o0 o1 o2 o3 f0 f1 f2 f3 oz
    go_simp
    refine HK20r4y6.out _ _ ⟨fun h => absurd h (by decide +kernel), ?_⟩
    clear HK20r4y6 K
    try simp only [Act.put, List.setIfInBounds_toArray, List.set_cons_zero, List.set_cons_succ]
    refine wpAnyN_done (by kernel_rfl) ?_ _
    obtain ⟨wSr4y6, hwS⟩ : ∃ y, y = ((((w18r4y6.setCell ⟨w1.heap.size, 0, none⟩ (.int .u64 (limb A 0 : Nat))).setCell ⟨w1.heap.size, 1, none⟩ (.int .u64 (limb A 1 : Nat))).setCell ⟨w1.heap.size, 2, none⟩ (.int .u64 (limb A 2 : Nat))).setCell ⟨w1.heap.size, 3, none⟩ (.int .u64 (limb A 3 : Nat))) := ⟨_, rfl⟩
    have HSr4y6 : Hid (Own4 wSr4y6 (w1.heap.size) A ∧ Below w1.heap.size w1 wSr4y6) := by rw [hwS]; exact ⟨Pend.own P18r4y6.out, Below.setCell (Below.setCell (Below.setCell (Below.setCell H18r4y6.out (Nat.le_refl _) _) (Nat.le_refl _) _) (Nat.le_refl _) _) (Nat.le_refl _) _⟩
    rw [← hwS]
    clear hwS o0 o1 o2 o3 f0 f1 f2 f3 oz
    go_wp2_with fail
    go_meet
    exact ⟨_, rfl, (Nat.le_refl _), HSr4y6.out.1, HSr4y6.out.2⟩
  case rest =>
   obtain ⟨b5, rfl, hle, hO, hB⟩ := hcut
   have F2 : Hid (FieldB wc g PP) := F1.out.call hB
   have S2 : Hid (SpotB wc s g x y z) := S1.out.call hB
   have P2 : Hid (PointB wc b o px py false) := P1.out.call hB
   have W2 : Hid (Below w.heap.size w wc) := below_call0 W1.out hB
   have T2 : Hid (GTH wc) := T1.out.call hB
   have O42 : Hid (Own4 wc b4 sq) := O41.out.call hB
   have NE5 : Hid (s ≠ b5) := Nat.ne_of_lt (Nat.lt_of_lt_of_le HZ.out.2 (Nat.le_trans W1.out.size hle))
   have O52 : Hid (Own4 wc b5 A) := hO
   clear hO hB hle F1 S1 P1 W1 T1 O41
   generalize wc = w2 at F2 S2 P2 W2 T2 O42 O52 ⊢
   go_upto_region 5 with fail
   go_cut [6] (fun v wx => ∃ b6, v = .pointer (some ⟨b6, 0, none⟩) ∧ w2.heap.size ≤ b6 ∧ Own4 wx b6 U ∧ Below w2.heap.size w2 wx)
   case first =>
    refine wp_region_N (fun w' => Below w2.heap.size w2 w') 29 30 rfl (by kernel_rfl) ?_
    refine wpAnyN_take (i := 0) (oi := ?o0r5) (v := ?v0r5) ?hi0r5 (by kernel_rfl) (by kernel_rfl) (by kernel_rfl) (by kernel_rfl) (by decide) (by kernel_rfl) ?hQ0r5 ?hy0r5 (Below.drew (Below.refl _ _)) ?more0r5
    case hi0r5 => rw [List.getElem?_toArray]; exact rfl
    case hQ0r5 => exact fun _ _ _ h => h
    case hy0r5 =>
     refine Or.inl ⟨by rfl, ?_⟩
     intro w' hSw
     obtain ⟨sz, sg, sx0, sx1, sx2, sx3, sy0, sy1, sy2, sy3, sz0, sz1, sz2, sz3, sf⟩ := S2.out.call hSw
     obtain ⟨pz, p0, p1, p2, p3, p4, p5, p6, p7, p8⟩ := P2.out.call hSw
     obtain ⟨⟨o40, o41, o42, o43⟩, -, o4z⟩ := (Own4.call (O42.out) hSw).facts
     clear hSw
     go_simp
     try with_reducible rfl
    simp only [Act.put, List.setIfInBounds_toArray, List.set_cons_zero, List.set_cons_succ]
    refine wpAnyN_take (i := 1) (oi := ?o1r5) (v := ?v1r5) ?hi1r5 (by kernel_rfl) (by kernel_rfl) (by kernel_rfl) (by kernel_rfl) (by decide) (by kernel_rfl) ?hQ1r5 ?hy1r5 (Below.drew (Below.refl _ _)) ?more1r5
    case hi1r5 => rw [List.getElem?_toArray]; exact rfl
    case hQ1r5 => exact fun _ _ _ h => h
    case hy1r5 =>
     refine Or.inl ⟨by rfl, ?_⟩
     intro w' hSw
     obtain ⟨sz, sg, sx0, sx1, sx2, sx3, sy0, sy1, sy2, sy3, sz0, sz1, sz2, sz3, sf⟩ := S2.out.call hSw
     obtain ⟨pz, p0, p1, p2, p3, p4, p5, p6, p7, p8⟩ := P2.out.call hSw
     obtain ⟨⟨o40, o41, o42, o43⟩, -, o4z⟩ := (Own4.call (O42.out) hSw).facts
     clear hSw
     go_simp
     try with_reducible rfl
    simp only [Act.put, List.setIfInBounds_toArray, List.set_cons_zero, List.set_cons_succ]
    refine wpAnyN_take (i := 2) (oi := ?o2r5) (v := ?v2r5) ?hi2r5 (by kernel_rfl) (by kernel_rfl) (by kernel_rfl) (by kernel_rfl) (by decide) (by kernel_rfl) ?hQ2r5 ?hy2r5 (Below.drew (Below.refl _ _)) ?more2r5
    case hi2r5 => rw [List.getElem?_toArray]; exact rfl
    case hQ2r5 => exact fun _ _ _ h => h
    case hy2r5 =>
     refine Or.inl ⟨by rfl, ?_⟩
     intro w' hSw
     obtain ⟨sz, sg, sx0, sx1, sx2, sx3, sy0, sy1, sy2, sy3, sz0, sz1, sz2, sz3, sf⟩ := S2.out.call hSw
     obtain ⟨pz, p0, p1, p2, p3, p4, p5, p6, p7, p8⟩ := P2.out.call hSw
     obtain ⟨⟨o40, o41, o42, o43⟩, -, o4z⟩ := (Own4.call (O42.out) hSw).facts
     clear hSw
     go_simp
     try with_reducible rfl
    simp only [Act.put, List.setIfInBounds_toArray, List.set_cons_zero, List.set_cons_succ]
    refine wpAnyN_take (i := 3) (oi := ?o3r5) (v := ?v3r5) ?hi3r5 (by kernel_rfl) (by kernel_rfl) (by kernel_rfl) (by kernel_rfl) (by decide) (by kernel_rfl) ?hQ3r5 ?hy3r5 (Below.drew (Below.refl _ _)) ?more3r5
    case hi3r5 => rw [List.getElem?_toArray]; exact rfl
    case hQ3r5 => exact fun _ _ _ h => h
    case hy3r5 =>
     refine Or.inl ⟨by rfl, ?_⟩
     intro w' hSw
     obtain ⟨sz, sg, sx0, sx1, sx2, sx3, sy0, sy1, sy2, sy3, sz0, sz1, sz2, sz3, sf⟩ := S2.out.call hSw
     obtain ⟨pz, p0, p1, p2, p3, p4, p5, p6, p7, p8⟩ := P2.out.call hSw
     obtain ⟨⟨o40, o41, o42, o43⟩, -, o4z⟩ := (Own4.call (O42.out) hSw).facts
     clear hSw
     go_simp
     try with_reducible rfl
    simp only [Act.put, List.setIfInBounds_toArray, List.set_cons_zero, List.set_cons_succ]
    refine wpAnyN_take (i := 4) (oi := ?o4r5) (v := ?v4r5) ?hi4r5 (by kernel_rfl) (by kernel_rfl) (by kernel_rfl) (by kernel_rfl) (by decide) (by kernel_rfl) ?hQ4r5 ?hy4r5 (Below.drew (Below.refl _ _)) ?more4r5
    case hi4r5 => rw [List.getElem?_toArray]; exact rfl
    case hQ4r5 => exact fun _ _ _ h => h
    case hy4r5 =>
     refine Or.inl ⟨by rfl, ?_⟩
     intro w' hSw
     obtain ⟨sz, sg, sx0, sx1, sx2, sx3, sy0, sy1, sy2, sy3, sz0, sz1, sz2, sz3, sf⟩ := S2.out.call hSw
     obtain ⟨pz, p0, p1, p2, p3, p4, p5, p6, p7, p8⟩ := P2.out.call hSw
     obtain ⟨⟨o40, o41, o42, o43⟩, -, o4z⟩ := (Own4.call (O42.out) hSw).facts
     clear hSw
     go_simp
     try with_reducible rfl
    simp only [Act.put, List.setIfInBounds_toArray, List.set_cons_zero, List.set_cons_succ]
    refine wpAnyN_take (i := 5) (oi := ?o5r5) (v := ?v5r5) ?hi5r5 (by kernel_rfl) (by kernel_rfl) (by kernel_rfl) (by kernel_rfl) (by decide) (by kernel_rfl) ?hQ5r5 ?hy5r5 (Below.drew (Below.refl _ _)) ?more5r5
    case hi5r5 => rw [List.getElem?_toArray]; exact rfl
    case hQ5r5 => exact fun _ _ _ h => h
    case hy5r5 =>
     refine Or.inl ⟨by rfl, ?_⟩
     intro w' hSw
     obtain ⟨sz, sg, sx0, sx1, sx2, sx3, sy0, sy1, sy2, sy3, sz0, sz1, sz2, sz3, sf⟩ := S2.out.call hSw
     obtain ⟨pz, p0, p1, p2, p3, p4, p5, p6, p7, p8⟩ := P2.out.call hSw
     obtain ⟨⟨o40, o41, o42, o43⟩, -, o4z⟩ := (Own4.call (O42.out) hSw).facts
     clear hSw
     go_simp
     try with_reducible rfl
    simp only [Act.put, List.setIfInBounds_toArray, List.set_cons_zero, List.set_cons_succ]
    refine wpAnyN_take (i := 6) (oi := ?o6r5) (v := ?v6r5) ?hi6r5 (by kernel_rfl) (by kernel_rfl) (by kernel_rfl) (by kernel_rfl) (by decide) (by kernel_rfl) ?hQ6r5 ?hy6r5 (Below.drew (Below.refl _ _)) ?more6r5
    case hi6r5 => rw [List.getElem?_toArray]; exact rfl
    case hQ6r5 => exact fun _ _ _ h => h
    case hy6r5 =>
     refine Or.inl ⟨by rfl, ?_⟩
     intro w' hSw
     obtain ⟨sz, sg, sx0, sx1, sx2, sx3, sy0, sy1, sy2, sy3, sz0, sz1, sz2, sz3, sf⟩ := S2.out.call hSw
     obtain ⟨pz, p0, p1, p2, p3, p4, p5, p6, p7, p8⟩ := P2.out.call hSw
     obtain ⟨⟨o40, o41, o42, o43⟩, -, o4z⟩ := (Own4.call (O42.out) hSw).facts
     clear hSw
     go_simp
     try with_reducible rfl
    simp only [Act.put, List.setIfInBounds_toArray, List.set_cons_zero, List.set_cons_succ]
    refine wpAnyN_take (i := 7) (oi := ?o7r5) (v := ?v7r5) ?hi7r5 (by kernel_rfl) (by kernel_rfl) (by kernel_rfl) (by kernel_rfl) (by decide) (by kernel_rfl) ?hQ7r5 ?hy7r5 (Below.drew (Below.refl _ _)) ?more7r5
    case hi7r5 => rw [List.getElem?_toArray]; exact rfl
    case hQ7r5 => exact fun _ _ _ h => h
    case hy7r5 =>
     refine Or.inl ⟨by rfl, ?_⟩
     intro w' hSw
     obtain ⟨sz, sg, sx0, sx1, sx2, sx3, sy0, sy1, sy2, sy3, sz0, sz1, sz2, sz3, sf⟩ := S2.out.call hSw
     obtain ⟨pz, p0, p1, p2, p3, p4, p5, p6, p7, p8⟩ := P2.out.call hSw
     obtain ⟨⟨o40, o41, o42, o43⟩, -, o4z⟩ := (Own4.call (O42.out) hSw).facts
     clear hSw
     go_simp
     try with_reducible rfl
    simp only [Act.put, List.setIfInBounds_toArray, List.set_cons_zero, List.set_cons_succ]
    refine wpAnyN_take (i := 8) (oi := ?o8r5) (v := ?v8r5) ?hi8r5 (by kernel_rfl) (by kernel_rfl) (by kernel_rfl) (by kernel_rfl) (by decide) (by kernel_rfl) ?hQ8r5 ?hy8r5 (Below.drew (Below.refl _ _)) ?more8r5
    case hi8r5 => rw [List.getElem?_toArray]; exact rfl
    case hQ8r5 => exact fun _ _ _ h => h
    case hy8r5 =>
     refine Or.inl ⟨by rfl, ?_⟩
     intro w' hSw
     obtain ⟨sz, sg, sx0, sx1, sx2, sx3, sy0, sy1, sy2, sy3, sz0, sz1, sz2, sz3, sf⟩ := S2.out.call hSw
     obtain ⟨pz, p0, p1, p2, p3, p4, p5, p6, p7, p8⟩ := P2.out.call hSw
     obtain ⟨⟨o40, o41, o42, o43⟩, -, o4z⟩ := (Own4.call (O42.out) hSw).facts
     clear hSw
     go_simp
     try with_reducible rfl
    simp only [Act.put, List.setIfInBounds_toArray, List.set_cons_zero, List.set_cons_succ]
    refine wpAnyN_take (i := 9) (oi := ?o9r5) (v := ?v9r5) ?hi9r5 (by kernel_rfl) (by kernel_rfl) (by kernel_rfl) (by kernel_rfl) (by decide) (by kernel_rfl) ?hQ9r5 ?hy9r5 (Below.drew (Below.refl _ _)) ?more9r5
    case hi9r5 => rw [List.getElem?_toArray]; exact rfl
    case hQ9r5 => exact fun _ _ _ h => h
    case hy9r5 =>
     refine Or.inl ⟨by rfl, ?_⟩
     intro w' hSw
     obtain ⟨sz, sg, sx0, sx1, sx2, sx3, sy0, sy1, sy2, sy3, sz0, sz1, sz2, sz3, sf⟩ := S2.out.call hSw
     obtain ⟨pz, p0, p1, p2, p3, p4, p5, p6, p7, p8⟩ := P2.out.call hSw
     obtain ⟨⟨o40, o41, o42, o43⟩, -, o4z⟩ := (Own4.call (O42.out) hSw).facts
     clear hSw
     go_simp
     try with_reducible rfl
    simp only [Act.put, List.setIfInBounds_toArray, List.set_cons_zero, List.set_cons_succ]
    refine wpAnyN_take (i := 10) (oi := ?o10r5) (v := ?v10r5) ?hi10r5 (by kernel_rfl) (by kernel_rfl) (by kernel_rfl) (by kernel_rfl) (by decide) (by kernel_rfl) ?hQ10r5 ?hy10r5 (Below.drew (Below.refl _ _)) ?more10r5
    case hi10r5 => rw [List.getElem?_toArray]; exact rfl
    case hQ10r5 => exact fun _ _ _ h => h
    case hy10r5 =>
     refine Or.inl ⟨by rfl, ?_⟩
     intro w' hSw
     obtain ⟨sz, sg, sx0, sx1, sx2, sx3, sy0, sy1, sy2, sy3, sz0, sz1, sz2, sz3, sf⟩ := S2.out.call hSw
     obtain ⟨pz, p0, p1, p2, p3, p4, p5, p6, p7, p8⟩ := P2.out.call hSw
     obtain ⟨⟨o40, o41, o42, o43⟩, -, o4z⟩ := (Own4.call (O42.out) hSw).facts
     clear hSw
     go_simp
     try with_reducible rfl
    simp only [Act.put, List.setIfInBounds_toArray, List.set_cons_zero, List.set_cons_succ]
    refine wpAnyN_take (i := 11) (oi := ?o11r5) (v := ?v11r5) ?hi11r5 (by kernel_rfl) (by kernel_rfl) (by kernel_rfl) (by kernel_rfl) (by decide) (by kernel_rfl) ?hQ11r5 ?hy11r5 (Below.drew (Below.refl _ _)) ?more11r5
    case hi11r5 => rw [List.getElem?_toArray]; exact rfl
    case hQ11r5 => exact fun _ _ _ h => h
    case hy11r5 =>
     refine Or.inl ⟨by rfl, ?_⟩
     intro w' hSw
     obtain ⟨sz, sg, sx0, sx1, sx2, sx3, sy0, sy1, sy2, sy3, sz0, sz1, sz2, sz3, sf⟩ := S2.out.call hSw
     obtain ⟨pz, p0, p1, p2, p3, p4, p5, p6, p7, p8⟩ := P2.out.call hSw
     obtain ⟨⟨o40, o41, o42, o43⟩, -, o4z⟩ := (Own4.call (O42.out) hSw).facts
     clear hSw
     go_simp
     try with_reducible rfl
    simp only [Act.put, List.setIfInBounds_toArray, List.set_cons_zero, List.set_cons_succ]
    refine wpAnyN_take (i := 12) (oi := ?o12r5) (v := ?v12r5) ?hi12r5 (by kernel_rfl) (by kernel_rfl) (by kernel_rfl) (by kernel_rfl) (by decide) (by kernel_rfl) ?hQ12r5 ?hy12r5 (Below.drew (Below.refl _ _)) ?more12r5
    case hi12r5 => rw [List.getElem?_toArray]; exact rfl
    case hQ12r5 => exact fun _ _ _ h => h
    case hy12r5 =>
     refine Or.inl ⟨by rfl, ?_⟩
     intro w' hSw
     obtain ⟨sz, sg, sx0, sx1, sx2, sx3, sy0, sy1, sy2, sy3, sz0, sz1, sz2, sz3, sf⟩ := S2.out.call hSw
     obtain ⟨pz, p0, p1, p2, p3, p4, p5, p6, p7, p8⟩ := P2.out.call hSw
     obtain ⟨⟨o40, o41, o42, o43⟩, -, o4z⟩ := (Own4.call (O42.out) hSw).facts
     clear hSw
     go_simp
     try with_reducible rfl
    simp only [Act.put, List.setIfInBounds_toArray, List.set_cons_zero, List.set_cons_succ]
    refine wpAnyN_take (i := 13) (oi := ?o13r5) (v := ?v13r5) ?hi13r5 (by kernel_rfl) (by kernel_rfl) (by kernel_rfl) (by kernel_rfl) (by decide) (by kernel_rfl) ?hQ13r5 ?hy13r5 (Below.drew (Below.refl _ _)) ?more13r5
    case hi13r5 => rw [List.getElem?_toArray]; exact rfl
    case hQ13r5 => exact fun _ _ _ h => h
    case hy13r5 =>
     refine Or.inl ⟨by rfl, ?_⟩
     intro w' hSw
     obtain ⟨sz, sg, sx0, sx1, sx2, sx3, sy0, sy1, sy2, sy3, sz0, sz1, sz2, sz3, sf⟩ := S2.out.call hSw
     obtain ⟨pz, p0, p1, p2, p3, p4, p5, p6, p7, p8⟩ := P2.out.call hSw
     obtain ⟨⟨o40, o41, o42, o43⟩, -, o4z⟩ := (Own4.call (O42.out) hSw).facts
     clear hSw
     go_simp
     try with_reducible rfl
    simp only [Act.put, List.setIfInBounds_toArray, List.set_cons_zero, List.set_cons_succ]
    refine wpAnyN_take (i := 14) (oi := ?o14r5) (v := ?v14r5) ?hi14r5 (by kernel_rfl) (by kernel_rfl) (by kernel_rfl) (by kernel_rfl) (by decide) (by kernel_rfl) ?hQ14r5 ?hy14r5 (Below.drew (Below.refl _ _)) ?more14r5
    case hi14r5 => rw [List.getElem?_toArray]; exact rfl
    case hQ14r5 => exact fun _ _ _ h => h
    case hy14r5 =>
     refine Or.inl ⟨by rfl, ?_⟩
     intro w' hSw
     obtain ⟨sz, sg, sx0, sx1, sx2, sx3, sy0, sy1, sy2, sy3, sz0, sz1, sz2, sz3, sf⟩ := S2.out.call hSw
     obtain ⟨pz, p0, p1, p2, p3, p4, p5, p6, p7, p8⟩ := P2.out.call hSw
     obtain ⟨⟨o40, o41, o42, o43⟩, -, o4z⟩ := (Own4.call (O42.out) hSw).facts
     clear hSw
     go_simp
     try with_reducible rfl
    simp only [Act.put, List.setIfInBounds_toArray, List.set_cons_zero, List.set_cons_succ]
    refine wpAnyN_take (i := 15) (oi := ?o15r5) (v := ?v15r5) ?hi15r5 (by kernel_rfl) (by kernel_rfl) (by kernel_rfl) (by kernel_rfl) (by decide) (by kernel_rfl) ?hQ15r5 ?hy15r5 (Below.drew (Below.refl _ _)) ?more15r5
    case hi15r5 => rw [List.getElem?_toArray]; exact rfl
    case hQ15r5 => exact fun _ _ _ h => h
    case hy15r5 =>
     refine Or.inl ⟨by rfl, ?_⟩
     intro w' hSw
     obtain ⟨sz, sg, sx0, sx1, sx2, sx3, sy0, sy1, sy2, sy3, sz0, sz1, sz2, sz3, sf⟩ := S2.out.call hSw
     obtain ⟨pz, p0, p1, p2, p3, p4, p5, p6, p7, p8⟩ := P2.out.call hSw
     obtain ⟨⟨o40, o41, o42, o43⟩, -, o4z⟩ := (Own4.call (O42.out) hSw).facts
     clear hSw
     go_simp
     try with_reducible rfl
    simp only [Act.put, List.setIfInBounds_toArray, List.set_cons_zero, List.set_cons_succ]
    refine wpAnyN_take (i := 16) (oi := ?o16r5) (v := ?v16r5) ?hi16r5 (by kernel_rfl) (by kernel_rfl) (by kernel_rfl) (by kernel_rfl) (by decide) (by kernel_rfl) ?hQ16r5 ?hy16r5 (Below.drew (Below.refl _ _)) ?more16r5
    case hi16r5 => rw [List.getElem?_toArray]; exact rfl
    case hQ16r5 => exact fun _ _ _ h => h
    case hy16r5 =>
     refine Or.inl ⟨by rfl, ?_⟩
     intro w' hSw
     obtain ⟨sz, sg, sx0, sx1, sx2, sx3, sy0, sy1, sy2, sy3, sz0, sz1, sz2, sz3, sf⟩ := S2.out.call hSw
     obtain ⟨pz, p0, p1, p2, p3, p4, p5, p6, p7, p8⟩ := P2.out.call hSw
     obtain ⟨⟨o40, o41, o42, o43⟩, -, o4z⟩ := (Own4.call (O42.out) hSw).facts
     clear hSw
     go_simp
     try with_reducible rfl
    simp only [Act.put, List.setIfInBounds_toArray, List.set_cons_zero, List.set_cons_succ]
    refine wpAnyN_take (i := 17) (oi := ?o17r5) (v := ?v17r5) ?hi17r5 (by kernel_rfl) (by kernel_rfl) (by kernel_rfl) (by kernel_rfl) (by decide) (by kernel_rfl) ?hQ17r5 ?hy17r5 (Below.drew (Below.refl _ _)) ?more17r5
    case hi17r5 => rw [List.getElem?_toArray]; exact rfl
    case hQ17r5 => exact fun _ _ _ h => h
    case hy17r5 =>
     refine Or.inl ⟨by rfl, ?_⟩
     intro w' hSw
     obtain ⟨sz, sg, sx0, sx1, sx2, sx3, sy0, sy1, sy2, sy3, sz0, sz1, sz2, sz3, sf⟩ := S2.out.call hSw
     obtain ⟨pz, p0, p1, p2, p3, p4, p5, p6, p7, p8⟩ := P2.out.call hSw
     obtain ⟨⟨o40, o41, o42, o43⟩, -, o4z⟩ := (Own4.call (O42.out) hSw).facts
     clear hSw
     go_simp
     try with_reducible rfl
    simp only [Act.put, List.setIfInBounds_toArray, List.set_cons_zero, List.set_cons_succ]
    refine wpAnyN_take (i := 18) (oi := ?o18r5) (v := ?v18r5) ?hi18r5 (by kernel_rfl) (by kernel_rfl) (by kernel_rfl) (by kernel_rfl) (by decide) (by kernel_rfl) ?hQ18r5 ?hy18r5 (Below.drew (Below.refl _ _)) ?more18r5
    case hi18r5 => rw [List.getElem?_toArray]; exact rfl
    case hQ18r5 => exact fun _ _ _ h => h
    case hy18r5 =>
     refine Or.inl ⟨by rfl, ?_⟩
     intro w' hSw
     obtain ⟨sz, sg, sx0, sx1, sx2, sx3, sy0, sy1, sy2, sy3, sz0, sz1, sz2, sz3, sf⟩ := S2.out.call hSw
     obtain ⟨pz, p0, p1, p2, p3, p4, p5, p6, p7, p8⟩ := P2.out.call hSw
     obtain ⟨⟨o40, o41, o42, o43⟩, -, o4z⟩ := (Own4.call (O42.out) hSw).facts
     clear hSw
     go_simp
     try with_reducible rfl
    simp only [Act.put, List.setIfInBounds_toArray, List.set_cons_zero, List.set_cons_succ]
    refine wpAnyN_take (i := 19) (oi := ?o19r5) (v := ?v19r5) ?hi19r5 (by kernel_rfl) (by kernel_rfl) (by kernel_rfl) (by kernel_rfl) (by decide) (by kernel_rfl) ?hQ19r5 ?hy19r5 (Below.drew (Below.refl _ _)) ?more19r5
    case hi19r5 => rw [List.getElem?_toArray]; exact rfl
    case hQ19r5 => exact fun _ _ _ h => h
    case hy19r5 =>
     refine Or.inl ⟨by rfl, ?_⟩
     intro w' hSw
     obtain ⟨sz, sg, sx0, sx1, sx2, sx3, sy0, sy1, sy2, sy3, sz0, sz1, sz2, sz3, sf⟩ := S2.out.call hSw
     obtain ⟨pz, p0, p1, p2, p3, p4, p5, p6, p7, p8⟩ := P2.out.call hSw
     obtain ⟨⟨o40, o41, o42, o43⟩, -, o4z⟩ := (Own4.call (O42.out) hSw).facts
     clear hSw
     go_simp
     try with_reducible rfl
    simp only [Act.put, List.setIfInBounds_toArray, List.set_cons_zero, List.set_cons_succ]
    refine wpAnyN_take (i := 20) (oi := ?o20r5) (v := ?v20r5) ?hi20r5 (by kernel_rfl) (by kernel_rfl) (by kernel_rfl) (by kernel_rfl) (by decide) (by kernel_rfl) ?hQ20r5 ?hy20r5 (Below.drew (Below.refl _ _)) ?more20r5
    case hi20r5 => rw [List.getElem?_toArray]; exact rfl
    case hQ20r5 => exact fun _ _ _ h => h
    case hy20r5 =>
     refine Or.inl ⟨by rfl, ?_⟩
     intro w' hSw
     obtain ⟨sz, sg, sx0, sx1, sx2, sx3, sy0, sy1, sy2, sy3, sz0, sz1, sz2, sz3, sf⟩ := S2.out.call hSw
     obtain ⟨pz, p0, p1, p2, p3, p4, p5, p6, p7, p8⟩ := P2.out.call hSw
     obtain ⟨⟨o40, o41, o42, o43⟩, -, o4z⟩ := (Own4.call (O42.out) hSw).facts
     clear hSw
     go_simp
     try with_reducible rfl
    simp only [Act.put, List.setIfInBounds_toArray, List.set_cons_zero, List.set_cons_succ]
    refine wpAnyN_take (i := 23) (oi := ?o23r5) (v := ?v23r5) ?hi23r5 (by kernel_rfl) (by kernel_rfl) (by kernel_rfl) (by kernel_rfl) (by decide) (by kernel_rfl) ?hQ23r5 ?hy23r5 (Below.drew (Below.refl _ _)) ?more23r5
    case hi23r5 => rw [List.getElem?_toArray]; exact rfl
    case hQ23r5 => exact fun _ _ _ h => h
    case hy23r5 =>
     refine Or.inl ⟨by rfl, ?_⟩
     intro w' hSw
     obtain ⟨sz, sg, sx0, sx1, sx2, sx3, sy0, sy1, sy2, sy3, sz0, sz1, sz2, sz3, sf⟩ := S2.out.call hSw
     obtain ⟨pz, p0, p1, p2, p3, p4, p5, p6, p7, p8⟩ := P2.out.call hSw
     obtain ⟨⟨o40, o41, o42, o43⟩, -, o4z⟩ := (Own4.call (O42.out) hSw).facts
     clear hSw
     go_simp
     try with_reducible rfl
    simp only [Act.put, List.setIfInBounds_toArray, List.set_cons_zero, List.set_cons_succ]
    refine wpAnyN_take (i := 24) (oi := ?o24r5) (v := ?v24r5) ?hi24r5 (by kernel_rfl) (by kernel_rfl) (by kernel_rfl) (by kernel_rfl) (by decide) (by kernel_rfl) ?hQ24r5 ?hy24r5 (Below.drew (Below.refl _ _)) ?more24r5
    case hi24r5 => rw [List.getElem?_toArray]; exact rfl
    case hQ24r5 => exact fun _ _ _ h => h
    case hy24r5 =>
     refine Or.inl ⟨by rfl, ?_⟩
     intro w' hSw
     obtain ⟨sz, sg, sx0, sx1, sx2, sx3, sy0, sy1, sy2, sy3, sz0, sz1, sz2, sz3, sf⟩ := S2.out.call hSw
     obtain ⟨pz, p0, p1, p2, p3, p4, p5, p6, p7, p8⟩ := P2.out.call hSw
     obtain ⟨⟨o40, o41, o42, o43⟩, -, o4z⟩ := (Own4.call (O42.out) hSw).facts
     clear hSw
     go_simp
     try with_reducible rfl
    simp only [Act.put, List.setIfInBounds_toArray, List.set_cons_zero, List.set_cons_succ]
    refine wpAnyN_take (i := 25) (oi := ?o25r5) (v := ?v25r5) ?hi25r5 (by kernel_rfl) (by kernel_rfl) (by kernel_rfl) (by kernel_rfl) (by decide) (by kernel_rfl) ?hQ25r5 ?hy25r5 (Below.drew (Below.refl _ _)) ?more25r5
    case hi25r5 => rw [List.getElem?_toArray]; exact rfl
    case hQ25r5 => exact fun _ _ _ h => h
    case hy25r5 =>
     refine Or.inl ⟨by rfl, ?_⟩
     intro w' hSw
     obtain ⟨sz, sg, sx0, sx1, sx2, sx3, sy0, sy1, sy2, sy3, sz0, sz1, sz2, sz3, sf⟩ := S2.out.call hSw
     obtain ⟨pz, p0, p1, p2, p3, p4, p5, p6, p7, p8⟩ := P2.out.call hSw
     obtain ⟨⟨o40, o41, o42, o43⟩, -, o4z⟩ := (Own4.call (O42.out) hSw).facts
     clear hSw
     go_simp
     try with_reducible rfl
    simp only [Act.put, List.setIfInBounds_toArray, List.set_cons_zero, List.set_cons_succ]
    refine wpAnyN_take (i := 26) (oi := ?o26r5) (v := ?v26r5) ?hi26r5 (by kernel_rfl) (by kernel_rfl) (by kernel_rfl) (by kernel_rfl) (by decide) (by kernel_rfl) ?hQ26r5 ?hy26r5 (Below.drew (Below.refl _ _)) ?more26r5
    case hi26r5 => rw [List.getElem?_toArray]; exact rfl
    case hQ26r5 => exact fun _ _ _ h => h
    case hy26r5 =>
     refine Or.inl ⟨by rfl, ?_⟩
     intro w' hSw
     obtain ⟨sz, sg, sx0, sx1, sx2, sx3, sy0, sy1, sy2, sy3, sz0, sz1, sz2, sz3, sf⟩ := S2.out.call hSw
     obtain ⟨pz, p0, p1, p2, p3, p4, p5, p6, p7, p8⟩ := P2.out.call hSw
     obtain ⟨⟨o40, o41, o42, o43⟩, -, o4z⟩ := (Own4.call (O42.out) hSw).facts
     clear hSw
     go_simp
     try with_reducible rfl
    simp only [Act.put, List.setIfInBounds_toArray, List.set_cons_zero, List.set_cons_succ]
    refine wpAnyN_two (i := 21) (j := 28) (o := ?o21r5x1) (p := ?o28r5x1) (by kernel_rfl) ?hi21r5x1 ?hi28r5x1 ?hw21r5x1 ?hw28r5x1 ?st21r5x1 ?st28r5x1
    case hi21r5x1 => rw [List.getElem?_toArray]; exact rfl
    case hw21r5x1 => exact rfl
    case hi28r5x1 => rw [List.getElem?_toArray]; exact rfl
    case hw28r5x1 => exact rfl
    case st21r5x1 =>
     intro K hK
     have HK21r5y2 : Hid _ := hK
     clear hK
     go_simp
     refine (K4.out _ (F2.out.call (Below.drew (Below.refl _ _)))).mono ?_
     rintro e w21r5y2 ⟨rfl, hq⟩
     have H21r5y2 : Hid (Below w2.heap.size w2 w21r5y2) := below_call0 (Below.drew (Below.refl _ _)) hq
     clear hq
     go_wp2_with fail
     refine HK21r5y2.out _ _ ⟨fun _ => H21r5y2.out, ?_⟩
     clear HK21r5y2 K
     try simp only [Act.put, List.setIfInBounds_toArray, List.set_cons_zero, List.set_cons_succ]
     refine wpAnyN_two (i := 22) (j := 28) (o := ?o22r5y2x3) (p := ?o28r5y2x3) (by kernel_rfl) ?hi22r5y2x3 ?hi28r5y2x3 ?hw22r5y2x3 ?hw28r5y2x3 ?st22r5y2x3 ?st28r5y2x3
     case hi22r5y2x3 => rw [List.getElem?_toArray]; exact rfl
     case hw22r5y2x3 => exact rfl
     case hi28r5y2x3 => rw [List.getElem?_toArray]; exact rfl
     case hw28r5y2x3 => exact rfl
     case st22r5y2x3 =>
      intro K hK
      have HK22r5y4 : Hid _ := hK
      clear hK
      go_simp
      refine (K5.out _ (F2.out.call H21r5y2.out)).mono ?_
      rintro e w22r5y4 ⟨rfl, hq⟩
      have H22r5y4 : Hid (Below w2.heap.size w2 w22r5y4) := below_call0 H21r5y2.out hq
      clear hq
      go_wp2_with fail
      refine HK22r5y4.out _ _ ⟨fun _ => H22r5y4.out, ?_⟩
      clear HK22r5y4 K
      try simp only [Act.put, List.setIfInBounds_toArray, List.set_cons_zero, List.set_cons_succ]
      refine wpAnyN_two (i := 27) (j := 28) (o := ?o27r5y4x5) (p := ?o28r5y4x5) (by kernel_rfl) ?hi27r5y4x5 ?hi28r5y4x5 ?hw27r5y4x5 ?hw28r5y4x5 ?st27r5y4x5 ?st28r5y4x5
      case hi27r5y4x5 => rw [List.getElem?_toArray]; exact rfl
      case hw27r5y4x5 => exact rfl
      case hi28r5y4x5 => rw [List.getElem?_toArray]; exact rfl
      case hw28r5y4x5 => exact rfl
      case st27r5y4x5 =>
       intro K hK
       have HK27r5y6 : Hid _ := hK
       clear hK
       go_simp
       refine (K6.out _ (F2.out.call H22r5y4.out)).mono ?_
       rintro e w27r5y6 ⟨rfl, hq⟩
       have H27r5y6 : Hid (Below w2.heap.size w2 w27r5y6) := below_call0 H22r5y4.out hq
       clear hq
       go_wp2_with fail
       refine HK27r5y6.out _ _ ⟨fun _ => H27r5y6.out, ?_⟩
       clear HK27r5y6 K
       try simp only [Act.put, List.setIfInBounds_toArray, List.set_cons_zero, List.set_cons_succ]
       refine wpAnyN_one (i := 28) (o := ?o28r5y6) (by kernel_rfl) ?hi28r5y6 ?hw28r5y6 ?st28r5y6
       case hi28r5y6 => rw [List.getElem?_toArray]; exact rfl
       case hw28r5y6 => exact rfl
       intro K hK
       have HK28r5y6 : Hid _ := hK
       clear hK
       go_simp
       refine HK28r5y6.out _ _ ⟨fun _ => (below_alloc0 H27r5y6.out _), ?_⟩
       clear HK28r5y6 K
       try simp only [Act.put, List.setIfInBounds_toArray, List.set_cons_zero, List.set_cons_succ]
       refine wpAnyN_one (i := 29) (o := ?o29r5y6) (by kernel_rfl) ?hi29r5y6 ?hw29r5y6 ?st29r5y6
       case hi29r5y6 => rw [List.getElem?_toArray]; exact rfl
       case hw29r5y6 => exact rfl
       intro K hK
       have HK29r5y6 : Hid _ := hK
       clear hK
       obtain ⟨⟨o0, o1, o2, o3⟩, ⟨f0, f1, f2, f3⟩, oz⟩ := Pend.facts (Pend.newC (W := w27r5y6) (t := 24) rfl)
       try simp only [World.size_alloc] at o0 o1 o2 o3 f0 f1 f2 f3 oz
       go_simp
       refine HK29r5y6.out _ _ ⟨fun h => absurd h (by decide +kernel), ?_⟩
       clear HK29r5y6 K
       try simp only [Act.put, List.setIfInBounds_toArray, List.set_cons_zero, List.set_cons_succ]
       refine wpAnyN_done (by kernel_rfl) ?_ _
       obtain ⟨wSr5y6, hwS⟩ : ∃ y, y = w27r5y6.alloc (.cells #[.int .u64 (limb U 0 : Nat), .int .u64 (limb U 1 : Nat), .int .u64 (limb U 2 : Nat), .int .u64 (limb U 3 : Nat)] 24) := ⟨_, rfl⟩
       have HSr5y6 : Hid (Own4 wSr5y6 (w27r5y6.heap.size) U ∧ Below w2.heap.size w2 wSr5y6) := by rw [hwS]; exact ⟨Own4.new' rfl, below_alloc0 H27r5y6.out _⟩
       rw [← hwS]
       clear hwS o0 o1 o2 o3 f0 f1 f2 f3 oz
       go_wp2_with fail
       go_meet
       exact ⟨_, rfl, (Below.size H27r5y6.out), HSr5y6.out.1, HSr5y6.out.2⟩
      case st28r5y4x5 =>
       intro K hK
       have HK28r5y7 : Hid _ := hK
       clear hK
       go_simp
       refine HK28r5y7.out _ _ ⟨fun _ => (below_alloc0 H22r5y4.out _), ?_⟩
       clear HK28r5y7 K
       try simp only [Act.put, List.setIfInBounds_toArray, List.set_cons_zero, List.set_cons_succ]
       refine wpAnyN_one (i := 27) (o := ?o27r5y7) (by kernel_rfl) ?hi27r5y7 ?hw27r5y7 ?st27r5y7
       case hi27r5y7 => rw [List.getElem?_toArray]; exact rfl
       case hw27r5y7 => exact rfl
       intro K hK
       have HK27r5y7 : Hid _ := hK
       clear hK
       go_simp
       refine (K6.out _ (F2.out.call (below_alloc0 H22r5y4.out _))).mono ?_
       rintro e w27r5y7 ⟨rfl, hq⟩
       have H27r5y7 : Hid (Below w2.heap.size w2 w27r5y7) := below_call0 (below_alloc0 H22r5y4.out _) hq
       have P27r5y7 : Hid (Pend w27r5y7 (w22r5y4.heap.size)) := Pend.call (Pend.newC (W := w22r5y4) (t := 24) rfl) hq
       clear hq
       go_wp2_with fail
       refine HK27r5y7.out _ _ ⟨fun _ => H27r5y7.out, ?_⟩
       clear HK27r5y7 K
       try simp only [Act.put, List.setIfInBounds_toArray, List.set_cons_zero, List.set_cons_succ]
       refine wpAnyN_one (i := 29) (o := ?o29r5y7) (by kernel_rfl) ?hi29r5y7 ?hw29r5y7 ?st29r5y7
       case hi29r5y7 => rw [List.getElem?_toArray]; exact rfl
       case hw29r5y7 => exact rfl
       intro K hK
       have HK29r5y7 : Hid _ := hK
       clear hK
       obtain ⟨⟨o0, o1, o2, o3⟩, ⟨f0, f1, f2, f3⟩, oz⟩ := Pend.facts P27r5y7.out
       try simp only [World.size_alloc] at o0 o1 o2 o3 f0 f1 f2 f3 oz
       go_simp
       refine HK29r5y7.out _ _ ⟨fun h => absurd h (by decide +kernel), ?_⟩
       clear HK29r5y7 K
       try simp only [Act.put, List.setIfInBounds_toArray, List.set_cons_zero, List.set_cons_succ]
       refine wpAnyN_done (by kernel_rfl) ?_ _
       obtain ⟨wSr5y7, hwS⟩ : ∃ y, y = ((((w27r5y7.setCell ⟨w22r5y4.heap.size, 0, none⟩ (.int .u64 (limb U 0 : Nat))).setCell ⟨w22r5y4.heap.size, 1, none⟩ (.int .u64 (limb U 1 : Nat))).setCell ⟨w22r5y4.heap.size, 2, none⟩ (.int .u64 (limb U 2 : Nat))).setCell ⟨w22r5y4.heap.size, 3, none⟩ (.int .u64 (limb U 3 : Nat))) := ⟨_, rfl⟩
       have HSr5y7 : Hid (Own4 wSr5y7 (w22r5y4.heap.size) U ∧ Below w2.heap.size w2 wSr5y7) := by rw [hwS]; exact ⟨Pend.own P27r5y7.out, Below.setCell (Below.setCell (Below.setCell (Below.setCell H27r5y7.out (Below.size H22r5y4.out) _) (Below.size H22r5y4.out) _) (Below.size H22r5y4.out) _) (Below.size H22r5y4.out) _⟩
       rw [← hwS]
       clear hwS o0 o1 o2 o3 f0 f1 f2 f3 oz
       go_wp2_with fail
       go_meet
       exact ⟨_, rfl, (Below.size H22r5y4.out), HSr5y7.out.1, HSr5y7.out.2⟩
     case st28r5y2x3 =>
      intro K hK
      have HK28r5y8 : Hid _ := hK
      clear hK
      go_simp
      refine HK28r5y8.out _ _ ⟨fun _ => (below_alloc0 H21r5y2.out _), ?_⟩
      clear HK28r5y8 K
      try simp only [Act.put, List.setIfInBounds_toArray, List.set_cons_zero, List.set_cons_succ]
      refine wpAnyN_one (i := 22) (o := ?o22r5y8) (by kernel_rfl) ?hi22r5y8 ?hw22r5y8 ?st22r5y8
      case hi22r5y8 => rw [List.getElem?_toArray]; exact rfl
      case hw22r5y8 => exact rfl
      intro K hK
      have HK22r5y8 : Hid _ := hK
      clear hK
      go_simp
      refine (K5.out _ (F2.out.call (below_alloc0 H21r5y2.out _))).mono ?_
      rintro e w22r5y8 ⟨rfl, hq⟩
      have H22r5y8 : Hid (Below w2.heap.size w2 w22r5y8) := below_call0 (below_alloc0 H21r5y2.out _) hq
      have P22r5y8 : Hid (Pend w22r5y8 (w21r5y2.heap.size)) := Pend.call (Pend.newC (W := w21r5y2) (t := 24) rfl) hq
      clear hq
      go_wp2_with fail
      refine HK22r5y8.out _ _ ⟨fun _ => H22r5y8.out, ?_⟩
      clear HK22r5y8 K
      try simp only [Act.put, List.setIfInBounds_toArray, List.set_cons_zero, List.set_cons_succ]
      refine wpAnyN_one (i := 27) (o := ?o27r5y8) (by kernel_rfl) ?hi27r5y8 ?hw27r5y8 ?st27r5y8
      case hi27r5y8 => rw [List.getElem?_toArray]; exact rfl
      case hw27r5y8 => exact rfl
      intro K hK
      have HK27r5y8 : Hid _ := hK
      clear hK
      go_simp
      refine (K6.out _ (F2.out.call H22r5y8.out)).mono ?_
      rintro e w27r5y8 ⟨rfl, hq⟩
      have H27r5y8 : Hid (Below w2.heap.size w2 w27r5y8) := below_call0 H22r5y8.out hq
      have P27r5y8 : Hid (Pend w27r5y8 (w21r5y2.heap.size)) := Pend.call P22r5y8.out hq
      clear hq
      go_wp2_with fail
      refine HK27r5y8.out _ _ ⟨fun _ => H27r5y8.out, ?_⟩
      clear HK27r5y8 K
      try simp only [Act.put, List.setIfInBounds_toArray, List.set_cons_zero, List.set_cons_succ]
      refine wpAnyN_one (i := 29) (o := ?o29r5y8) (by kernel_rfl) ?hi29r5y8 ?hw29r5y8 ?st29r5y8
      case hi29r5y8 => rw [List.getElem?_toArray]; exact rfl
      case hw29r5y8 => exact rfl
      intro K hK
      have HK29r5y8 : Hid _ := hK
      clear hK
      obtain ⟨⟨o0, o1, o2, o3⟩, ⟨f0, f1, f2, f3⟩, oz⟩ := Pend.facts P27r5y8.out
      try simp only [World.size_alloc] at o0 o1 o2 o3 f0 f1 f2 f3 oz
      go_simp
      refine HK29r5y8.out _ _ ⟨fun h => absurd h (by decide +kernel), ?_⟩
      clear HK29r5y8 K
      try simp only [Act.put, List.setIfInBounds_toArray, List.set_cons_zero, List.set_cons_succ]
      refine wpAnyN_done (by kernel_rfl) ?_ _
      obtain ⟨wSr5y8, hwS⟩ : ∃ y, y = ((((w27r5y8.setCell ⟨w21r5y2.heap.size, 0, none⟩ (.int .u64 (limb U 0 : Nat))).setCell ⟨w21r5y2.heap.size, 1, none⟩ (.int .u64 (limb U 1 : Nat))).setCell ⟨w21r5y2.heap.size, 2, none⟩ (.int .u64 (limb U 2 : Nat))).setCell ⟨w21r5y2.heap.size, 3, none⟩ (.int .u64 (limb U 3 : Nat))) := ⟨_, rfl⟩
      have HSr5y8 : Hid (Own4 wSr5y8 (w21r5y2.heap.size) U ∧ Below w2.heap.size w2 wSr5y8) := by rw [hwS]; exact ⟨Pend.own P27r5y8.out, Below.setCell (Below.setCell (Below.setCell (Below.setCell H27r5y8.out (Below.size H21r5y2.out) _) (Below.size H21r5y2.out) _) (Below.size H21r5y2.out) _) (Below.size H21r5y2.out) _⟩
      rw [← hwS]
      clear hwS o0 o1 o2 o3 f0 f1 f2 f3 oz
      go_wp2_with fail
      go_meet
      exact ⟨_, rfl, (Below.size H21r5y2.out), HSr5y8.out.1, HSr5y8.out.2⟩
    case st28r5x1 =>
     intro K hK
     have HK28r5y9 : Hid _ := hK
     clear hK
     go_simp
     refine HK28r5y9.out _ _ ⟨fun _ => (below_alloc0 (Below.drew (Below.refl _ _)) _), ?_⟩
     clear HK28r5y9 K
     try simp only [Act.put, List.setIfInBounds_toArray, List.set_cons_zero, List.set_cons_succ]
     refine wpAnyN_one (i := 21) (o := ?o21r5y9) (by kernel_rfl) ?hi21r5y9 ?hw21r5y9 ?st21r5y9
     case hi21r5y9 => rw [List.getElem?_toArray]; exact rfl
     case hw21r5y9 => exact rfl
     intro K hK
     have HK21r5y9 : Hid _ := hK
     clear hK
     go_simp
     refine (K4.out _ (F2.out.call (below_alloc0 (Below.drew (Below.refl _ _)) _))).mono ?_
     rintro e w21r5y9 ⟨rfl, hq⟩
     have H21r5y9 : Hid (Below w2.heap.size w2 w21r5y9) := below_call0 (below_alloc0 (Below.drew (Below.refl _ _)) _) hq
     have P21r5y9 : Hid (Pend w21r5y9 (w2.heap.size)) := Pend.call (Pend.newC (W := w2.drew) (t := 24) rfl) hq
     clear hq
     go_wp2_with fail
     refine HK21r5y9.out _ _ ⟨fun _ => H21r5y9.out, ?_⟩
     clear HK21r5y9 K
     try simp only [Act.put, List.setIfInBounds_toArray, List.set_cons_zero, List.set_cons_succ]
     refine wpAnyN_one (i := 22) (o := ?o22r5y9) (by kernel_rfl) ?hi22r5y9 ?hw22r5y9 ?st22r5y9
     case hi22r5y9 => rw [List.getElem?_toArray]; exact rfl
     case hw22r5y9 => exact rfl
     intro K hK
     have HK22r5y9 : Hid _ := hK
     clear hK
     go_simp
     refine (K5.out _ (F2.out.call H21r5y9.out)).mono ?_
     rintro e w22r5y9 ⟨rfl, hq⟩
     have H22r5y9 : Hid (Below w2.heap.size w2 w22r5y9) := below_call0 H21r5y9.out hq
     have P22r5y9 : Hid (Pend w22r5y9 (w2.heap.size)) := Pend.call P21r5y9.out hq
     clear hq
     go_wp2_with fail
     refine HK22r5y9.out _ _ ⟨fun _ => H22r5y9.out, ?_⟩
     clear HK22r5y9 K
     try simp only [Act.put, List.setIfInBounds_toArray, List.set_cons_zero, List.set_cons_succ]
     refine wpAnyN_one (i := 27) (o := ?o27r5y9) (by kernel_rfl) ?hi27r5y9 ?hw27r5y9 ?st27r5y9
     case hi27r5y9 => rw [List.getElem?_toArray]; exact rfl
     case hw27r5y9 => exact rfl
     intro K hK
     have HK27r5y9 : Hid _ := hK
     clear hK
     go_simp
     refine (K6.out _ (F2.out.call H22r5y9.out)).mono ?_
     rintro e w27r5y9 ⟨rfl, hq⟩
     have H27r5y9 : Hid (Below w2.heap.size w2 w27r5y9) := below_call0 H22r5y9.out hq
     have P27r5y9 : Hid (Pend w27r5y9 (w2.heap.size)) := Pend.call P22r5y9.out hq
     clear hq
     go_wp2_with fail
     refine HK27r5y9.out _ _ ⟨fun _ => H27r5y9.out, ?_⟩
     clear HK27r5y9 K
     try simp only [Act.put, List.setIfInBounds_toArray, List.set_cons_zero, List.set_cons_succ]
     refine wpAnyN_one (i := 29) (o := ?o29r5y9) (by kernel_rfl) ?hi29r5y9 ?hw29r5y9 ?st29r5y9
     case hi29r5y9 => rw [List.getElem?_toArray]; exact rfl
     case hw29r5y9 => exact rfl
     intro K hK
     have HK29r5y9 : Hid _ := hK
     clear hK
     obtain ⟨⟨o0, o1, o2, o3⟩, ⟨f0, f1, f2, f3⟩, oz⟩ := Pend.facts P27r5y9.out
     try simp only [World.size_alloc] at o0 o1 o2 o3 f0 f1 f2 f3 oz
     go_simp
     refine HK29r5y9.out _ _ ⟨fun h => absurd h (by decide +kernel), ?_⟩
     clear HK29r5y9 K
     try simp only [Act.put, List.setIfInBounds_toArray, List.set_cons_zero, List.set_cons_succ]
     refine wpAnyN_done (by kernel_rfl) ?_ _
     obtain ⟨wSr5y9, hwS⟩ : ∃ y, y = ((((w27r5y9.setCell ⟨w2.heap.size, 0, none⟩ (.int .u64 (limb U 0 : Nat))).setCell ⟨w2.heap.size, 1, none⟩ (.int .u64 (limb U 1 : Nat))).setCell ⟨w2.heap.size, 2, none⟩ (.int .u64 (limb U 2 : Nat))).setCell ⟨w2.heap.size, 3, none⟩ (.int .u64 (limb U 3 : Nat))) := ⟨_, rfl⟩
     have HSr5y9 : Hid (Own4 wSr5y9 (w2.heap.size) U ∧ Below w2.heap.size w2 wSr5y9) := by rw [hwS]; exact ⟨Pend.own P27r5y9.out, Below.setCell (Below.setCell (Below.setCell (Below.setCell H27r5y9.out (Nat.le_refl _) _) (Nat.le_refl _) _) (Nat.le_refl _) _) (Nat.le_refl _) _⟩
     rw [← hwS]
     clear hwS o0 o1 o2 o3 f0 f1 f2 f3 oz
     go_wp2_with fail
     go_meet
     exact ⟨_, rfl, (Nat.le_refl _), HSr5y9.out.1, HSr5y9.out.2⟩
   case rest =>
    obtain ⟨b6, rfl, hle, hO, hB⟩ := hcut
    have F3 : Hid (FieldB wc g PP) := F2.out.call hB
    have S3 : Hid (SpotB wc s g x y z) := S2.out.call hB
    have P3 : Hid (PointB wc b o px py false) := P2.out.call hB
    have W3 : Hid (Below w.heap.size w wc) := below_call0 W2.out hB
    have T3 : Hid (GTH wc) := T2.out.call hB
    have O43 : Hid (Own4 wc b4 sq) := O42.out.call hB
    have O53 : Hid (Own4 wc b5 A) := O52.out.call hB
    have NE6 : Hid (s ≠ b6) := Nat.ne_of_lt (Nat.lt_of_lt_of_le HZ.out.2 (Nat.le_trans W2.out.size hle))
    have O63 : Hid (Own4 wc b6 U) := hO
    clear hO hB hle F2 S2 P2 W2 T2 O42 O52
    clear P3 O43
    generalize wc = w3 at F3 S3 W3 T3 O53 O63 ⊢
    obtain ⟨⟨a0, a1, a2, a3⟩, -, az⟩ := (O53.out).facts
    obtain ⟨⟨u0, u1, u2, u3⟩, -, uz⟩ := (O63.out).facts
    go_wp2_with fail
    clear a0 a1 a2 a3 az u0 u1 u2 u3 uz
    refine (KM.out _ F3.out S3.out T3.out).mono ?_
    rintro e wz ⟨rfl, hs, hb⟩
    have H9 : Hid (SpotB wz s g X Y Z ∧ ButC s w wz) := ⟨hs, (ButC.of W3.out).trans hb⟩
    clear hs hb
    go_wp2_with fail
    first | exact bodyPost_ret (results_none rfl _ _ _) rfl ⟨rfl, H9.out⟩ | exact bodyPost_end (results_none rfl _ _ _) rfl ⟨rfl, H9.out⟩
end Go.Proofs.YtgmfecncfekjfaaDoor
