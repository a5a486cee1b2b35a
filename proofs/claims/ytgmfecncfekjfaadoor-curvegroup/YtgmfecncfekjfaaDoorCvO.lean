/- Package curve: a spot and a point of another X are added. -/
import Derived.Test.YtgmfecncfekjfaaDoorCvM
namespace Go.Proofs.YtgmfecncfekjfaaDoor
open Go Go.RowKit Go.Lib
attribute [local go_sem] run_eq4

set_option maxRecDepth 100000 in
set_option maxHeartbeats 4000000 in
theorem sadd_fin (s g x y z b o px py sq A U a2 a3 mid X : Nat) (hx : x < PP) (hy : y < PP) (hz : z < PP) (hpx : px < PP) (hpy : py < PP) (h0 : z ≠ 0) (hsq : sq = mM z z) (hA : A = sM (mM px sq) x) (hU : U = sM (mM py (mM sq z)) y) (hA0 : A ≠ 0) (h2 : a2 = mM A A) (h3 : a3 = mM a2 A) (hmid : mid = mM x a2) (hX : X = sM (sM (mM U U) a3) (aM mid mid)) (w : World) (hM : FieldB w g PP) (hS : SpotB w s g x y z) (hP : PointB w b o px py false) (hg : s ≠ g) :
  Calls Tryd.prog 31 #[.pointer (some ⟨s, 0, none⟩), .pointer (some ⟨b, o, none⟩)] w fun e w' => e = .returned (.tuple #[]) ∧ SpotB w' s g X (sM (mM U (sM mid X)) (mM y a3)) (mM z A) ∧ ButC s w w' := by
 have lsq : sq < PP := by rw [hsq]; exact mM_lt _ _
 have lA : A < PP := by rw [hA]; exact sM_lt _ _
 have lU : U < PP := by rw [hU]; exact sM_lt _ _
 obtain ⟨c1, ec1⟩ : ∃ u, u = mM px sq := ⟨_, rfl⟩
 have lc1 : c1 < PP := by rw [ec1]; exact mM_lt _ _
 obtain ⟨c2, ec2⟩ : ∃ u, u = mM sq z := ⟨_, rfl⟩
 have lc2 : c2 < PP := by rw [ec2]; exact mM_lt _ _
 obtain ⟨c3, ec3⟩ : ∃ u, u = mM py c2 := ⟨_, rfl⟩
 have lc3 : c3 < PP := by rw [ec3]; exact mM_lt _ _
 rw [← ec1] at hA
 rw [← ec2, ← ec3] at hU
 have la2 : a2 < PP := by rw [h2]; exact mM_lt _ _
 have la3 : a3 < PP := by rw [h3]; exact mM_lt _ _
 have lmid : mid < PP := by rw [hmid]; exact mM_lt _ _
 have lX : X < PP := by rw [hX]; exact sM_lt _ _
 obtain ⟨Z, eZ⟩ : ∃ u, u = mM z A := ⟨_, rfl⟩
 have lZ : Z < PP := by rw [eZ]; exact mM_lt _ _
 obtain ⟨c4, ec4⟩ : ∃ u, u = mM U U := ⟨_, rfl⟩
 have lc4 : c4 < PP := by rw [ec4]; exact mM_lt _ _
 obtain ⟨c5, ec5⟩ : ∃ u, u = sM c4 a3 := ⟨_, rfl⟩
 have lc5 : c5 < PP := by rw [ec5]; exact sM_lt _ _
 obtain ⟨c6, ec6⟩ : ∃ u, u = aM mid mid := ⟨_, rfl⟩
 have lc6 : c6 < PP := by rw [ec6]; exact aM_lt _ _
 obtain ⟨c7, ec7⟩ : ∃ u, u = sM mid X := ⟨_, rfl⟩
 have lc7 : c7 < PP := by rw [ec7]; exact sM_lt _ _
 obtain ⟨c8, ec8⟩ : ∃ u, u = mM U c7 := ⟨_, rfl⟩
 have lc8 : c8 < PP := by rw [ec8]; exact mM_lt _ _
 obtain ⟨c9, ec9⟩ : ∃ u, u = mM y a3 := ⟨_, rfl⟩
 have lc9 : c9 < PP := by rw [ec9]; exact mM_lt _ _
 obtain ⟨Y, eY⟩ : ∃ u, u = sM c8 c9 := ⟨_, rfl⟩
 have lY : Y < PP := by rw [eY]; exact sM_lt _ _
 rw [← ec4, ← ec5, ← ec6] at hX
 rw [← eZ, ← ec7, ← ec8, ← ec9, ← eY]
 have K1 : Hid (∀ w, FieldB w g PP → Calls Tryd.prog 62 #[.agg #[.pointer (some ⟨g, 0, none⟩)], .agg #[.int .u64 (limb (z) 0 : Nat), .int .u64 (limb (z) 1 : Nat), .int .u64 (limb (z) 2 : Nat), .int .u64 (limb (z) 3 : Nat)], .agg #[.int .u64 (limb (z) 0 : Nat), .int .u64 (limb (z) 1 : Nat), .int .u64 (limb (z) 2 : Nat), .int .u64 (limb (z) 3 : Nat)]] w fun e w' => e = .returned (.agg #[.int .u64 (limb (sq) 0 : Nat), .int .u64 (limb (sq) 1 : Nat), .int .u64 (limb (sq) 2 : Nat), .int .u64 (limb (sq) 3 : Nat)]) ∧ Below w.heap.size w w') := fun w h => by have k := ptimes_any g z z hz hz w h; rw [← hsq] at k; exact k
 have K2 : Hid (∀ w, FieldB w g PP → Calls Tryd.prog 62 #[.agg #[.pointer (some ⟨g, 0, none⟩)], .agg #[.int .u64 (limb (px) 0 : Nat), .int .u64 (limb (px) 1 : Nat), .int .u64 (limb (px) 2 : Nat), .int .u64 (limb (px) 3 : Nat)], .agg #[.int .u64 (limb (sq) 0 : Nat), .int .u64 (limb (sq) 1 : Nat), .int .u64 (limb (sq) 2 : Nat), .int .u64 (limb (sq) 3 : Nat)]] w fun e w' => e = .returned (.agg #[.int .u64 (limb (c1) 0 : Nat), .int .u64 (limb (c1) 1 : Nat), .int .u64 (limb (c1) 2 : Nat), .int .u64 (limb (c1) 3 : Nat)]) ∧ Below w.heap.size w w') := fun w h => by have k := ptimes_any g px sq hpx lsq w h; rw [← ec1] at k; exact k
 have K3 : Hid (∀ w, FieldB w g PP → Calls Tryd.prog 64 #[.agg #[.pointer (some ⟨g, 0, none⟩)], .agg #[.int .u64 (limb (c1) 0 : Nat), .int .u64 (limb (c1) 1 : Nat), .int .u64 (limb (c1) 2 : Nat), .int .u64 (limb (c1) 3 : Nat)], .agg #[.int .u64 (limb (x) 0 : Nat), .int .u64 (limb (x) 1 : Nat), .int .u64 (limb (x) 2 : Nat), .int .u64 (limb (x) 3 : Nat)]] w fun e w' => e = .returned (.agg #[.int .u64 (limb (A) 0 : Nat), .int .u64 (limb (A) 1 : Nat), .int .u64 (limb (A) 2 : Nat), .int .u64 (limb (A) 3 : Nat)]) ∧ Below w.heap.size w w') := fun w h => by have k := pminus_any g c1 x lc1 hx w h; rw [← hA] at k; exact k
 have K4 : Hid (∀ w, FieldB w g PP → Calls Tryd.prog 62 #[.agg #[.pointer (some ⟨g, 0, none⟩)], .agg #[.int .u64 (limb (sq) 0 : Nat), .int .u64 (limb (sq) 1 : Nat), .int .u64 (limb (sq) 2 : Nat), .int .u64 (limb (sq) 3 : Nat)], .agg #[.int .u64 (limb (z) 0 : Nat), .int .u64 (limb (z) 1 : Nat), .int .u64 (limb (z) 2 : Nat), .int .u64 (limb (z) 3 : Nat)]] w fun e w' => e = .returned (.agg #[.int .u64 (limb (c2) 0 : Nat), .int .u64 (limb (c2) 1 : Nat), .int .u64 (limb (c2) 2 : Nat), .int .u64 (limb (c2) 3 : Nat)]) ∧ Below w.heap.size w w') := fun w h => by have k := ptimes_any g sq z lsq hz w h; rw [← ec2] at k; exact k
 have K5 : Hid (∀ w, FieldB w g PP → Calls Tryd.prog 62 #[.agg #[.pointer (some ⟨g, 0, none⟩)], .agg #[.int .u64 (limb (py) 0 : Nat), .int .u64 (limb (py) 1 : Nat), .int .u64 (limb (py) 2 : Nat), .int .u64 (limb (py) 3 : Nat)], .agg #[.int .u64 (limb (c2) 0 : Nat), .int .u64 (limb (c2) 1 : Nat), .int .u64 (limb (c2) 2 : Nat), .int .u64 (limb (c2) 3 : Nat)]] w fun e w' => e = .returned (.agg #[.int .u64 (limb (c3) 0 : Nat), .int .u64 (limb (c3) 1 : Nat), .int .u64 (limb (c3) 2 : Nat), .int .u64 (limb (c3) 3 : Nat)]) ∧ Below w.heap.size w w') := fun w h => by have k := ptimes_any g py c2 hpy lc2 w h; rw [← ec3] at k; exact k
 have K6 : Hid (∀ w, FieldB w g PP → Calls Tryd.prog 64 #[.agg #[.pointer (some ⟨g, 0, none⟩)], .agg #[.int .u64 (limb (c3) 0 : Nat), .int .u64 (limb (c3) 1 : Nat), .int .u64 (limb (c3) 2 : Nat), .int .u64 (limb (c3) 3 : Nat)], .agg #[.int .u64 (limb (y) 0 : Nat), .int .u64 (limb (y) 1 : Nat), .int .u64 (limb (y) 2 : Nat), .int .u64 (limb (y) 3 : Nat)]] w fun e w' => e = .returned (.agg #[.int .u64 (limb (U) 0 : Nat), .int .u64 (limb (U) 1 : Nat), .int .u64 (limb (U) 2 : Nat), .int .u64 (limb (U) 3 : Nat)]) ∧ Below w.heap.size w w') := fun w h => by have k := pminus_any g c3 y lc3 hy w h; rw [← hU] at k; exact k
 have K7 : Hid (∀ w, FieldB w g PP → Calls Tryd.prog 62 #[.agg #[.pointer (some ⟨g, 0, none⟩)], .agg #[.int .u64 (limb (A) 0 : Nat), .int .u64 (limb (A) 1 : Nat), .int .u64 (limb (A) 2 : Nat), .int .u64 (limb (A) 3 : Nat)], .agg #[.int .u64 (limb (A) 0 : Nat), .int .u64 (limb (A) 1 : Nat), .int .u64 (limb (A) 2 : Nat), .int .u64 (limb (A) 3 : Nat)]] w fun e w' => e = .returned (.agg #[.int .u64 (limb (a2) 0 : Nat), .int .u64 (limb (a2) 1 : Nat), .int .u64 (limb (a2) 2 : Nat), .int .u64 (limb (a2) 3 : Nat)]) ∧ Below w.heap.size w w') := fun w h => by have k := ptimes_any g A A lA lA w h; rw [← h2] at k; exact k
 have K8 : Hid (∀ w, FieldB w g PP → Calls Tryd.prog 62 #[.agg #[.pointer (some ⟨g, 0, none⟩)], .agg #[.int .u64 (limb (a2) 0 : Nat), .int .u64 (limb (a2) 1 : Nat), .int .u64 (limb (a2) 2 : Nat), .int .u64 (limb (a2) 3 : Nat)], .agg #[.int .u64 (limb (A) 0 : Nat), .int .u64 (limb (A) 1 : Nat), .int .u64 (limb (A) 2 : Nat), .int .u64 (limb (A) 3 : Nat)]] w fun e w' => e = .returned (.agg #[.int .u64 (limb (a3) 0 : Nat), .int .u64 (limb (a3) 1 : Nat), .int .u64 (limb (a3) 2 : Nat), .int .u64 (limb (a3) 3 : Nat)]) ∧ Below w.heap.size w w') := fun w h => by have k := ptimes_any g a2 A la2 lA w h; rw [← h3] at k; exact k
 have K9 : Hid (∀ w, FieldB w g PP → Calls Tryd.prog 62 #[.agg #[.pointer (some ⟨g, 0, none⟩)], .agg #[.int .u64 (limb (x) 0 : Nat), .int .u64 (limb (x) 1 : Nat), .int .u64 (limb (x) 2 : Nat), .int .u64 (limb (x) 3 : Nat)], .agg #[.int .u64 (limb (a2) 0 : Nat), .int .u64 (limb (a2) 1 : Nat), .int .u64 (limb (a2) 2 : Nat), .int .u64 (limb (a2) 3 : Nat)]] w fun e w' => e = .returned (.agg #[.int .u64 (limb (mid) 0 : Nat), .int .u64 (limb (mid) 1 : Nat), .int .u64 (limb (mid) 2 : Nat), .int .u64 (limb (mid) 3 : Nat)]) ∧ Below w.heap.size w w') := fun w h => by have k := ptimes_any g x a2 hx la2 w h; rw [← hmid] at k; exact k
 have K10 : Hid (∀ w, FieldB w g PP → Calls Tryd.prog 62 #[.agg #[.pointer (some ⟨g, 0, none⟩)], .agg #[.int .u64 (limb (z) 0 : Nat), .int .u64 (limb (z) 1 : Nat), .int .u64 (limb (z) 2 : Nat), .int .u64 (limb (z) 3 : Nat)], .agg #[.int .u64 (limb (A) 0 : Nat), .int .u64 (limb (A) 1 : Nat), .int .u64 (limb (A) 2 : Nat), .int .u64 (limb (A) 3 : Nat)]] w fun e w' => e = .returned (.agg #[.int .u64 (limb (Z) 0 : Nat), .int .u64 (limb (Z) 1 : Nat), .int .u64 (limb (Z) 2 : Nat), .int .u64 (limb (Z) 3 : Nat)]) ∧ Below w.heap.size w w') := fun w h => by have k := ptimes_any g z A hz lA w h; rw [← eZ] at k; exact k
 have K11 : Hid (∀ w, FieldB w g PP → Calls Tryd.prog 62 #[.agg #[.pointer (some ⟨g, 0, none⟩)], .agg #[.int .u64 (limb (U) 0 : Nat), .int .u64 (limb (U) 1 : Nat), .int .u64 (limb (U) 2 : Nat), .int .u64 (limb (U) 3 : Nat)], .agg #[.int .u64 (limb (U) 0 : Nat), .int .u64 (limb (U) 1 : Nat), .int .u64 (limb (U) 2 : Nat), .int .u64 (limb (U) 3 : Nat)]] w fun e w' => e = .returned (.agg #[.int .u64 (limb (c4) 0 : Nat), .int .u64 (limb (c4) 1 : Nat), .int .u64 (limb (c4) 2 : Nat), .int .u64 (limb (c4) 3 : Nat)]) ∧ Below w.heap.size w w') := fun w h => by have k := ptimes_any g U U lU lU w h; rw [← ec4] at k; exact k
 have K12 : Hid (∀ w, FieldB w g PP → Calls Tryd.prog 64 #[.agg #[.pointer (some ⟨g, 0, none⟩)], .agg #[.int .u64 (limb (c4) 0 : Nat), .int .u64 (limb (c4) 1 : Nat), .int .u64 (limb (c4) 2 : Nat), .int .u64 (limb (c4) 3 : Nat)], .agg #[.int .u64 (limb (a3) 0 : Nat), .int .u64 (limb (a3) 1 : Nat), .int .u64 (limb (a3) 2 : Nat), .int .u64 (limb (a3) 3 : Nat)]] w fun e w' => e = .returned (.agg #[.int .u64 (limb (c5) 0 : Nat), .int .u64 (limb (c5) 1 : Nat), .int .u64 (limb (c5) 2 : Nat), .int .u64 (limb (c5) 3 : Nat)]) ∧ Below w.heap.size w w') := fun w h => by have k := pminus_any g c4 a3 lc4 la3 w h; rw [← ec5] at k; exact k
 have K13 : Hid (∀ w, FieldB w g PP → Calls Tryd.prog 66 #[.agg #[.pointer (some ⟨g, 0, none⟩)], .agg #[.int .u64 (limb (mid) 0 : Nat), .int .u64 (limb (mid) 1 : Nat), .int .u64 (limb (mid) 2 : Nat), .int .u64 (limb (mid) 3 : Nat)], .agg #[.int .u64 (limb (mid) 0 : Nat), .int .u64 (limb (mid) 1 : Nat), .int .u64 (limb (mid) 2 : Nat), .int .u64 (limb (mid) 3 : Nat)]] w fun e w' => e = .returned (.agg #[.int .u64 (limb (c6) 0 : Nat), .int .u64 (limb (c6) 1 : Nat), .int .u64 (limb (c6) 2 : Nat), .int .u64 (limb (c6) 3 : Nat)]) ∧ Below w.heap.size w w') := fun w h => by have k := pplus_any g mid mid lmid lmid w h; rw [← ec6] at k; exact k
 have K14 : Hid (∀ w, FieldB w g PP → Calls Tryd.prog 64 #[.agg #[.pointer (some ⟨g, 0, none⟩)], .agg #[.int .u64 (limb (c5) 0 : Nat), .int .u64 (limb (c5) 1 : Nat), .int .u64 (limb (c5) 2 : Nat), .int .u64 (limb (c5) 3 : Nat)], .agg #[.int .u64 (limb (c6) 0 : Nat), .int .u64 (limb (c6) 1 : Nat), .int .u64 (limb (c6) 2 : Nat), .int .u64 (limb (c6) 3 : Nat)]] w fun e w' => e = .returned (.agg #[.int .u64 (limb (X) 0 : Nat), .int .u64 (limb (X) 1 : Nat), .int .u64 (limb (X) 2 : Nat), .int .u64 (limb (X) 3 : Nat)]) ∧ Below w.heap.size w w') := fun w h => by have k := pminus_any g c5 c6 lc5 lc6 w h; rw [← hX] at k; exact k
 have K15 : Hid (∀ w, FieldB w g PP → Calls Tryd.prog 64 #[.agg #[.pointer (some ⟨g, 0, none⟩)], .agg #[.int .u64 (limb (mid) 0 : Nat), .int .u64 (limb (mid) 1 : Nat), .int .u64 (limb (mid) 2 : Nat), .int .u64 (limb (mid) 3 : Nat)], .agg #[.int .u64 (limb (X) 0 : Nat), .int .u64 (limb (X) 1 : Nat), .int .u64 (limb (X) 2 : Nat), .int .u64 (limb (X) 3 : Nat)]] w fun e w' => e = .returned (.agg #[.int .u64 (limb (c7) 0 : Nat), .int .u64 (limb (c7) 1 : Nat), .int .u64 (limb (c7) 2 : Nat), .int .u64 (limb (c7) 3 : Nat)]) ∧ Below w.heap.size w w') := fun w h => by have k := pminus_any g mid X lmid lX w h; rw [← ec7] at k; exact k
 have K16 : Hid (∀ w, FieldB w g PP → Calls Tryd.prog 62 #[.agg #[.pointer (some ⟨g, 0, none⟩)], .agg #[.int .u64 (limb (U) 0 : Nat), .int .u64 (limb (U) 1 : Nat), .int .u64 (limb (U) 2 : Nat), .int .u64 (limb (U) 3 : Nat)], .agg #[.int .u64 (limb (c7) 0 : Nat), .int .u64 (limb (c7) 1 : Nat), .int .u64 (limb (c7) 2 : Nat), .int .u64 (limb (c7) 3 : Nat)]] w fun e w' => e = .returned (.agg #[.int .u64 (limb (c8) 0 : Nat), .int .u64 (limb (c8) 1 : Nat), .int .u64 (limb (c8) 2 : Nat), .int .u64 (limb (c8) 3 : Nat)]) ∧ Below w.heap.size w w') := fun w h => by have k := ptimes_any g U c7 lU lc7 w h; rw [← ec8] at k; exact k
 have K17 : Hid (∀ w, FieldB w g PP → Calls Tryd.prog 62 #[.agg #[.pointer (some ⟨g, 0, none⟩)], .agg #[.int .u64 (limb (y) 0 : Nat), .int .u64 (limb (y) 1 : Nat), .int .u64 (limb (y) 2 : Nat), .int .u64 (limb (y) 3 : Nat)], .agg #[.int .u64 (limb (a3) 0 : Nat), .int .u64 (limb (a3) 1 : Nat), .int .u64 (limb (a3) 2 : Nat), .int .u64 (limb (a3) 3 : Nat)]] w fun e w' => e = .returned (.agg #[.int .u64 (limb (c9) 0 : Nat), .int .u64 (limb (c9) 1 : Nat), .int .u64 (limb (c9) 2 : Nat), .int .u64 (limb (c9) 3 : Nat)]) ∧ Below w.heap.size w w') := fun w h => by have k := ptimes_any g y a3 hy la3 w h; rw [← ec9] at k; exact k
 have K18 : Hid (∀ w, FieldB w g PP → Calls Tryd.prog 64 #[.agg #[.pointer (some ⟨g, 0, none⟩)], .agg #[.int .u64 (limb (c8) 0 : Nat), .int .u64 (limb (c8) 1 : Nat), .int .u64 (limb (c8) 2 : Nat), .int .u64 (limb (c8) 3 : Nat)], .agg #[.int .u64 (limb (c9) 0 : Nat), .int .u64 (limb (c9) 1 : Nat), .int .u64 (limb (c9) 2 : Nat), .int .u64 (limb (c9) 3 : Nat)]] w fun e w' => e = .returned (.agg #[.int .u64 (limb (Y) 0 : Nat), .int .u64 (limb (Y) 1 : Nat), .int .u64 (limb (Y) 2 : Nat), .int .u64 (limb (Y) 3 : Nat)]) ∧ Below w.heap.size w w') := fun w h => by have k := pminus_any g c8 c9 lc8 lc9 w h; rw [← eY] at k; exact k
 have e0 : eq4 (limb z 0 : Nat) (limb z 1 : Nat) (limb z 2 : Nat) (limb z 3 : Nat) 0 0 0 0 = false := by
  rw [eq4_zeroC z (Nat.lt_trans hz FM_P.2.1)]; exact decide_eq_false h0
 have e1 : eq4 (limb A 0 : Nat) (limb A 1 : Nat) (limb A 2 : Nat) (limb A 3 : Nat) 0 0 0 0 = false := by
  rw [eq4_zeroC A (Nat.lt_trans lA FM_P.2.1)]; exact decide_eq_false hA0
 have HZ : Hid (s ≠ g ∧ s < w.heap.size) := ⟨hg, hS.lt⟩
 have F0 : Hid (FieldB w g PP) := hM
 have S0 : Hid (SpotB w s g x y z) := hS
 have P0 : Hid (PointB w b o px py false) := hP
 have W0 : Hid (Below w.heap.size w w) := Below.refl _ _
 obtain ⟨pz, p0, p1, p2, p3, p4, p5, p6, p7, p8⟩ := hP
 obtain ⟨sz, sg, sx0, sx1, sx2, sx3, sy0, sy1, sy2, sy3, sz0, sz1, sz2, sz3, sf⟩ := hS
 clear hM hg hx hy hz hpx hpy h0 hsq hA hU hA0 h2 h3 hmid hX lsq lA lU ec1 lc1 ec2 lc2 ec3 lc3 la2 la3 lmid lX eZ lZ ec4 lc4 ec5 lc5 ec6 lc6 ec7 lc7 ec8 lc8 ec9 lc9 eY lY
 go_enter Tryd.func31, Tryd.ntmps31
 go_upto_region 3 with fail
 clear sz sg sx0 sx1 sx2 sx3 sy0 sy1 sy2 sy3 sz0 sz1 sz2 sz3 sf pz p0 p1 p2 p3 p4 p5 p6 p7 p8 e0
 go_upto_region 3 with fail
 go_cut [4] (fun v wx => ∃ b4, v = .pointer (some ⟨b4, 0, none⟩) ∧ w.heap.size ≤ b4 ∧ Own4 wx b4 sq ∧ Below w.heap.size w wx)
 case first =>
  as_aux_lemma =>
   refine wp_region_N (fun w' => Below w.heap.size w w') 14 15 rfl (by kernel_rfl) ?_
   refine wpAnyN_take (i := 0) (oi := ?o0r3) (v := ?v0r3) ?hi0r3 (by kernel_rfl) (by kernel_rfl) (by kernel_rfl) (by kernel_rfl) (by decide) (by kernel_rfl) ?hQ0r3 ?hy0r3 (Below.drew (Below.refl _ _)) ?more0r3
   case hi0r3 => rw [List.getElem?_toArray]; exact rfl
   case hQ0r3 => exact fun _ _ _ h => h
   case hy0r3 =>
    refine Or.inl ⟨by rfl, ?_⟩
    intro w' hSw
    obtain ⟨sz, sg, sx0, sx1, sx2, sx3, sy0, sy1, sy2, sy3, sz0, sz1, sz2, sz3, sf⟩ := S0.out.call hSw
    clear hSw
    go_simp
    try with_reducible rfl
   simp only [Act.put, List.setIfInBounds_toArray, List.set_cons_zero, List.set_cons_succ]
   refine wpAnyN_take (i := 1) (oi := ?o1r3) (v := ?v1r3) ?hi1r3 (by kernel_rfl) (by kernel_rfl) (by kernel_rfl) (by kernel_rfl) (by decide) (by kernel_rfl) ?hQ1r3 ?hy1r3 (Below.drew (Below.refl _ _)) ?more1r3
   case hi1r3 => rw [List.getElem?_toArray]; exact rfl
   case hQ1r3 => exact fun _ _ _ h => h
   case hy1r3 =>
    refine Or.inl ⟨by rfl, ?_⟩
    intro w' hSw
    obtain ⟨sz, sg, sx0, sx1, sx2, sx3, sy0, sy1, sy2, sy3, sz0, sz1, sz2, sz3, sf⟩ := S0.out.call hSw
    clear hSw
    go_simp
    try with_reducible rfl
   simp only [Act.put, List.setIfInBounds_toArray, List.set_cons_zero, List.set_cons_succ]
   refine wpAnyN_take (i := 2) (oi := ?o2r3) (v := ?v2r3) ?hi2r3 (by kernel_rfl) (by kernel_rfl) (by kernel_rfl) (by kernel_rfl) (by decide) (by kernel_rfl) ?hQ2r3 ?hy2r3 (Below.drew (Below.refl _ _)) ?more2r3
   case hi2r3 => rw [List.getElem?_toArray]; exact rfl
   case hQ2r3 => exact fun _ _ _ h => h
   case hy2r3 =>
    refine Or.inl ⟨by rfl, ?_⟩
    intro w' hSw
    obtain ⟨sz, sg, sx0, sx1, sx2, sx3, sy0, sy1, sy2, sy3, sz0, sz1, sz2, sz3, sf⟩ := S0.out.call hSw
    clear hSw
    go_simp
    try with_reducible rfl
   simp only [Act.put, List.setIfInBounds_toArray, List.set_cons_zero, List.set_cons_succ]
   refine wpAnyN_take (i := 3) (oi := ?o3r3) (v := ?v3r3) ?hi3r3 (by kernel_rfl) (by kernel_rfl) (by kernel_rfl) (by kernel_rfl) (by decide) (by kernel_rfl) ?hQ3r3 ?hy3r3 (Below.drew (Below.refl _ _)) ?more3r3
   case hi3r3 => rw [List.getElem?_toArray]; exact rfl
   case hQ3r3 => exact fun _ _ _ h => h
   case hy3r3 =>
    refine Or.inl ⟨by rfl, ?_⟩
    intro w' hSw
    obtain ⟨sz, sg, sx0, sx1, sx2, sx3, sy0, sy1, sy2, sy3, sz0, sz1, sz2, sz3, sf⟩ := S0.out.call hSw
    clear hSw
    go_simp
    try with_reducible rfl
   simp only [Act.put, List.setIfInBounds_toArray, List.set_cons_zero, List.set_cons_succ]
   refine wpAnyN_take (i := 4) (oi := ?o4r3) (v := ?v4r3) ?hi4r3 (by kernel_rfl) (by kernel_rfl) (by kernel_rfl) (by kernel_rfl) (by decide) (by kernel_rfl) ?hQ4r3 ?hy4r3 (Below.drew (Below.refl _ _)) ?more4r3
   case hi4r3 => rw [List.getElem?_toArray]; exact rfl
   case hQ4r3 => exact fun _ _ _ h => h
   case hy4r3 =>
    refine Or.inl ⟨by rfl, ?_⟩
    intro w' hSw
    obtain ⟨sz, sg, sx0, sx1, sx2, sx3, sy0, sy1, sy2, sy3, sz0, sz1, sz2, sz3, sf⟩ := S0.out.call hSw
    clear hSw
    go_simp
    try with_reducible rfl
   simp only [Act.put, List.setIfInBounds_toArray, List.set_cons_zero, List.set_cons_succ]
   refine wpAnyN_take (i := 5) (oi := ?o5r3) (v := ?v5r3) ?hi5r3 (by kernel_rfl) (by kernel_rfl) (by kernel_rfl) (by kernel_rfl) (by decide) (by kernel_rfl) ?hQ5r3 ?hy5r3 (Below.drew (Below.refl _ _)) ?more5r3
   case hi5r3 => rw [List.getElem?_toArray]; exact rfl
   case hQ5r3 => exact fun _ _ _ h => h
   case hy5r3 =>
    refine Or.inl ⟨by rfl, ?_⟩
    intro w' hSw
    obtain ⟨sz, sg, sx0, sx1, sx2, sx3, sy0, sy1, sy2, sy3, sz0, sz1, sz2, sz3, sf⟩ := S0.out.call hSw
    clear hSw
    go_simp
    try with_reducible rfl
   simp only [Act.put, List.setIfInBounds_toArray, List.set_cons_zero, List.set_cons_succ]
   refine wpAnyN_take (i := 6) (oi := ?o6r3) (v := ?v6r3) ?hi6r3 (by kernel_rfl) (by kernel_rfl) (by kernel_rfl) (by kernel_rfl) (by decide) (by kernel_rfl) ?hQ6r3 ?hy6r3 (Below.drew (Below.refl _ _)) ?more6r3
   case hi6r3 => rw [List.getElem?_toArray]; exact rfl
   case hQ6r3 => exact fun _ _ _ h => h
   case hy6r3 =>
    refine Or.inl ⟨by rfl, ?_⟩
    intro w' hSw
    obtain ⟨sz, sg, sx0, sx1, sx2, sx3, sy0, sy1, sy2, sy3, sz0, sz1, sz2, sz3, sf⟩ := S0.out.call hSw
    clear hSw
    go_simp
    try with_reducible rfl
   simp only [Act.put, List.setIfInBounds_toArray, List.set_cons_zero, List.set_cons_succ]
   refine wpAnyN_take (i := 7) (oi := ?o7r3) (v := ?v7r3) ?hi7r3 (by kernel_rfl) (by kernel_rfl) (by kernel_rfl) (by kernel_rfl) (by decide) (by kernel_rfl) ?hQ7r3 ?hy7r3 (Below.drew (Below.refl _ _)) ?more7r3
   case hi7r3 => rw [List.getElem?_toArray]; exact rfl
   case hQ7r3 => exact fun _ _ _ h => h
   case hy7r3 =>
    refine Or.inl ⟨by rfl, ?_⟩
    intro w' hSw
    obtain ⟨sz, sg, sx0, sx1, sx2, sx3, sy0, sy1, sy2, sy3, sz0, sz1, sz2, sz3, sf⟩ := S0.out.call hSw
    clear hSw
    go_simp
    try with_reducible rfl
   simp only [Act.put, List.setIfInBounds_toArray, List.set_cons_zero, List.set_cons_succ]
   refine wpAnyN_take (i := 8) (oi := ?o8r3) (v := ?v8r3) ?hi8r3 (by kernel_rfl) (by kernel_rfl) (by kernel_rfl) (by kernel_rfl) (by decide) (by kernel_rfl) ?hQ8r3 ?hy8r3 (Below.drew (Below.refl _ _)) ?more8r3
   case hi8r3 => rw [List.getElem?_toArray]; exact rfl
   case hQ8r3 => exact fun _ _ _ h => h
   case hy8r3 =>
    refine Or.inl ⟨by rfl, ?_⟩
    intro w' hSw
    obtain ⟨sz, sg, sx0, sx1, sx2, sx3, sy0, sy1, sy2, sy3, sz0, sz1, sz2, sz3, sf⟩ := S0.out.call hSw
    clear hSw
    go_simp
    try with_reducible rfl
   simp only [Act.put, List.setIfInBounds_toArray, List.set_cons_zero, List.set_cons_succ]
   refine wpAnyN_take (i := 9) (oi := ?o9r3) (v := ?v9r3) ?hi9r3 (by kernel_rfl) (by kernel_rfl) (by kernel_rfl) (by kernel_rfl) (by decide) (by kernel_rfl) ?hQ9r3 ?hy9r3 (Below.drew (Below.refl _ _)) ?more9r3
   case hi9r3 => rw [List.getElem?_toArray]; exact rfl
   case hQ9r3 => exact fun _ _ _ h => h
   case hy9r3 =>
    refine Or.inl ⟨by rfl, ?_⟩
    intro w' hSw
    obtain ⟨sz, sg, sx0, sx1, sx2, sx3, sy0, sy1, sy2, sy3, sz0, sz1, sz2, sz3, sf⟩ := S0.out.call hSw
    clear hSw
    go_simp
    try with_reducible rfl
   simp only [Act.put, List.setIfInBounds_toArray, List.set_cons_zero, List.set_cons_succ]
   refine wpAnyN_take (i := 10) (oi := ?o10r3) (v := ?v10r3) ?hi10r3 (by kernel_rfl) (by kernel_rfl) (by kernel_rfl) (by kernel_rfl) (by decide) (by kernel_rfl) ?hQ10r3 ?hy10r3 (Below.drew (Below.refl _ _)) ?more10r3
   case hi10r3 => rw [List.getElem?_toArray]; exact rfl
   case hQ10r3 => exact fun _ _ _ h => h
   case hy10r3 =>
    refine Or.inl ⟨by rfl, ?_⟩
    intro w' hSw
    obtain ⟨sz, sg, sx0, sx1, sx2, sx3, sy0, sy1, sy2, sy3, sz0, sz1, sz2, sz3, sf⟩ := S0.out.call hSw
    clear hSw
    go_simp
    try with_reducible rfl
   simp only [Act.put, List.setIfInBounds_toArray, List.set_cons_zero, List.set_cons_succ]
   refine wpAnyN_take (i := 11) (oi := ?o11r3) (v := ?v11r3) ?hi11r3 (by kernel_rfl) (by kernel_rfl) (by kernel_rfl) (by kernel_rfl) (by decide) (by kernel_rfl) ?hQ11r3 ?hy11r3 (Below.drew (Below.refl _ _)) ?more11r3
   case hi11r3 => rw [List.getElem?_toArray]; exact rfl
   case hQ11r3 => exact fun _ _ _ h => h
   case hy11r3 =>
    refine Or.inl ⟨by rfl, ?_⟩
    intro w' hSw
    obtain ⟨sz, sg, sx0, sx1, sx2, sx3, sy0, sy1, sy2, sy3, sz0, sz1, sz2, sz3, sf⟩ := S0.out.call hSw
    clear hSw
    go_simp
    try with_reducible rfl
   simp only [Act.put, List.setIfInBounds_toArray, List.set_cons_zero, List.set_cons_succ]
   refine wpAnyN_two (i := 12) (j := 13) (o := ?o12r3x1) (p := ?o13r3x1) (by kernel_rfl) ?hi12r3x1 ?hi13r3x1 ?hw12r3x1 ?hw13r3x1 ?st12r3x1 ?st13r3x1
   case hi12r3x1 => rw [List.getElem?_toArray]; exact rfl
   case hw12r3x1 => exact rfl
   case hi13r3x1 => rw [List.getElem?_toArray]; exact rfl
   case hw13r3x1 => exact rfl
   case st12r3x1 =>
    intro K hK
    have HK12r3y2 : Hid _ := hK
    clear hK
    go_simp
    refine (K1.out _ (F0.out.call (Below.drew (Below.refl _ _)))).mono ?_
    rintro e w12r3y2 ⟨rfl, hq⟩
    have H12r3y2 : Hid (Below w.heap.size w w12r3y2) := below_call0 (Below.drew (Below.refl _ _)) hq
    clear hq
    go_wp2_with fail
    refine HK12r3y2.out _ _ ⟨fun _ => H12r3y2.out, ?_⟩
    clear HK12r3y2 K
    try simp only [Act.put, List.setIfInBounds_toArray, List.set_cons_zero, List.set_cons_succ]
    refine wpAnyN_one (i := 13) (o := ?o13r3y2) (by kernel_rfl) ?hi13r3y2 ?hw13r3y2 ?st13r3y2
    case hi13r3y2 => rw [List.getElem?_toArray]; exact rfl
    case hw13r3y2 => exact rfl
    intro K hK
    have HK13r3y2 : Hid _ := hK
    clear hK
    go_simp
    refine HK13r3y2.out _ _ ⟨fun _ => (below_alloc0 H12r3y2.out _), ?_⟩
    clear HK13r3y2 K
    try simp only [Act.put, List.setIfInBounds_toArray, List.set_cons_zero, List.set_cons_succ]
    refine wpAnyN_one (i := 14) (o := ?o14r3y2) (by kernel_rfl) ?hi14r3y2 ?hw14r3y2 ?st14r3y2
    case hi14r3y2 => rw [List.getElem?_toArray]; exact rfl
    case hw14r3y2 => exact rfl
    intro K hK
    have HK14r3y2 : Hid _ := hK
    clear hK
    obtain ⟨⟨o0, o1, o2, o3⟩, ⟨f0, f1, f2, f3⟩, oz⟩ := Pend.facts (Pend.newC (W := w12r3y2) (t := 24) rfl)
    try simp only [World.size_alloc] at o0 o1 o2 o3 f0 f1 f2 f3 oz
    go_simp
    refine HK14r3y2.out _ _ ⟨fun h => absurd h (by decide +kernel), ?_⟩
    clear HK14r3y2 K
    try simp only [Act.put, List.setIfInBounds_toArray, List.set_cons_zero, List.set_cons_succ]
    refine wpAnyN_done (by kernel_rfl) ?_ _
    obtain ⟨wSr3y2, hwS⟩ : ∃ y, y = w12r3y2.alloc (.cells #[.int .u64 (limb sq 0 : Nat), .int .u64 (limb sq 1 : Nat), .int .u64 (limb sq 2 : Nat), .int .u64 (limb sq 3 : Nat)] 24) := ⟨_, rfl⟩
    have HSr3y2 : Hid (Own4 wSr3y2 (w12r3y2.heap.size) sq ∧ Below w.heap.size w wSr3y2) := by rw [hwS]; exact ⟨Own4.new' rfl, below_alloc0 H12r3y2.out _⟩
    rw [← hwS]
    clear hwS o0 o1 o2 o3 f0 f1 f2 f3 oz
    go_wp2_with fail
    go_meet
    exact ⟨_, rfl, (Below.size H12r3y2.out), HSr3y2.out.1, HSr3y2.out.2⟩
   case st13r3x1 =>
    intro K hK
    have HK13r3y3 : Hid _ := hK
    clear hK
    go_simp
    refine HK13r3y3.out _ _ ⟨fun _ => (below_alloc0 (Below.drew (Below.refl _ _)) _), ?_⟩
    clear HK13r3y3 K
    try simp only [Act.put, List.setIfInBounds_toArray, List.set_cons_zero, List.set_cons_succ]
    refine wpAnyN_one (i := 12) (o := ?o12r3y3) (by kernel_rfl) ?hi12r3y3 ?hw12r3y3 ?st12r3y3
    case hi12r3y3 => rw [List.getElem?_toArray]; exact rfl
    case hw12r3y3 => exact rfl
    intro K hK
    have HK12r3y3 : Hid _ := hK
    clear hK
    go_simp
    refine (K1.out _ (F0.out.call (below_alloc0 (Below.drew (Below.refl _ _)) _))).mono ?_
    rintro e w12r3y3 ⟨rfl, hq⟩
    have H12r3y3 : Hid (Below w.heap.size w w12r3y3) := below_call0 (below_alloc0 (Below.drew (Below.refl _ _)) _) hq
    have P12r3y3 : Hid (Pend w12r3y3 (w.heap.size)) := Pend.call (Pend.newC (W := w.drew) (t := 24) rfl) hq
    clear hq
    go_wp2_with fail
    refine HK12r3y3.out _ _ ⟨fun _ => H12r3y3.out, ?_⟩
    clear HK12r3y3 K
    try simp only [Act.put, List.setIfInBounds_toArray, List.set_cons_zero, List.set_cons_succ]
    refine wpAnyN_one (i := 14) (o := ?o14r3y3) (by kernel_rfl) ?hi14r3y3 ?hw14r3y3 ?st14r3y3
    case hi14r3y3 => rw [List.getElem?_toArray]; exact rfl
    case hw14r3y3 => exact rfl
    intro K hK
    have HK14r3y3 : Hid _ := hK
    clear hK
    obtain ⟨⟨o0, o1, o2, o3⟩, ⟨f0, f1, f2, f3⟩, oz⟩ := Pend.facts P12r3y3.out
    try simp only [World.size_alloc] at o0 o1 o2 o3 f0 f1 f2 f3 oz
    go_simp
    refine HK14r3y3.out _ _ ⟨fun h => absurd h (by decide +kernel), ?_⟩
    clear HK14r3y3 K
    try simp only [Act.put, List.setIfInBounds_toArray, List.set_cons_zero, List.set_cons_succ]
    refine wpAnyN_done (by kernel_rfl) ?_ _
    obtain ⟨wSr3y3, hwS⟩ : ∃ y, y = ((((w12r3y3.setCell ⟨w.heap.size, 0, none⟩ (.int .u64 (limb sq 0 : Nat))).setCell ⟨w.heap.size, 1, none⟩ (.int .u64 (limb sq 1 : Nat))).setCell ⟨w.heap.size, 2, none⟩ (.int .u64 (limb sq 2 : Nat))).setCell ⟨w.heap.size, 3, none⟩ (.int .u64 (limb sq 3 : Nat))) := ⟨_, rfl⟩
    have HSr3y3 : Hid (Own4 wSr3y3 (w.heap.size) sq ∧ Below w.heap.size w wSr3y3) := by rw [hwS]; exact ⟨Pend.own P12r3y3.out, Below.setCell (Below.setCell (Below.setCell (Below.setCell H12r3y3.out (Nat.le_refl _) _) (Nat.le_refl _) _) (Nat.le_refl _) _) (Nat.le_refl _) _⟩
    rw [← hwS]
    clear hwS o0 o1 o2 o3 f0 f1 f2 f3 oz
    go_wp2_with fail
    go_meet
    exact ⟨_, rfl, (Nat.le_refl _), HSr3y3.out.1, HSr3y3.out.2⟩
 case rest =>
  obtain ⟨b4, rfl, hle, hO, hB⟩ := hcut
  have F1 : Hid (FieldB wc g PP) := F0.out.call hB
  have S1 : Hid (SpotB wc s g x y z) := S0.out.call hB
  have P1 : Hid (PointB wc b o px py false) := P0.out.call hB
  have W1 : Hid (Below w.heap.size w wc) := below_call0 W0.out hB
  have NE4 : Hid (s ≠ b4) := Nat.ne_of_lt (Nat.lt_of_lt_of_le HZ.out.2 (Nat.le_trans W0.out.size hle))
  have O41 : Hid (Own4 wc b4 sq) := hO
  clear hO hB hle F0 S0 P0 W0
  generalize wc = w1 at F1 S1 P1 W1 O41 ⊢
  go_upto_region 4 with fail
  go_cut [5] (fun v wx => ∃ b5, v = .pointer (some ⟨b5, 0, none⟩) ∧ w1.heap.size ≤ b5 ∧ Own4 wx b5 A ∧ Below w1.heap.size w1 wx)
  case first =>
   as_aux_lemma =>
    refine wp_region_N (fun w' => Below w1.heap.size w1 w') 20 21 rfl (by kernel_rfl) ?_
    refine wpAnyN_take (i := 0) (oi := ?o0r4) (v := ?v0r4) ?hi0r4 (by kernel_rfl) (by kernel_rfl) (by kernel_rfl) (by kernel_rfl) (by decide) (by kernel_rfl) ?hQ0r4 ?hy0r4 (Below.drew (Below.refl _ _)) ?more0r4
    case hi0r4 => rw [List.getElem?_toArray]; exact rfl
    case hQ0r4 => exact fun _ _ _ h => h
    case hy0r4 =>
     refine Or.inl ⟨by rfl, ?_⟩
     intro w' hSw
     obtain ⟨sz, sg, sx0, sx1, sx2, sx3, sy0, sy1, sy2, sy3, sz0, sz1, sz2, sz3, sf⟩ := S1.out.call hSw
     obtain ⟨pz, p0, p1, p2, p3, p4, p5, p6, p7, p8⟩ := P1.out.call hSw
     obtain ⟨⟨o40, o41, o42, o43⟩, -, o4z⟩ := (Own4.call (O41.out) hSw).facts
     clear hSw
     go_simp
     try with_reducible rfl
    simp only [Act.put, List.setIfInBounds_toArray, List.set_cons_zero, List.set_cons_succ]
    refine wpAnyN_take (i := 1) (oi := ?o1r4) (v := ?v1r4) ?hi1r4 (by kernel_rfl) (by kernel_rfl) (by kernel_rfl) (by kernel_rfl) (by decide) (by kernel_rfl) ?hQ1r4 ?hy1r4 (Below.drew (Below.refl _ _)) ?more1r4
    case hi1r4 => rw [List.getElem?_toArray]; exact rfl
    case hQ1r4 => exact fun _ _ _ h => h
    case hy1r4 =>
     refine Or.inl ⟨by rfl, ?_⟩
     intro w' hSw
     obtain ⟨sz, sg, sx0, sx1, sx2, sx3, sy0, sy1, sy2, sy3, sz0, sz1, sz2, sz3, sf⟩ := S1.out.call hSw
     obtain ⟨pz, p0, p1, p2, p3, p4, p5, p6, p7, p8⟩ := P1.out.call hSw
     obtain ⟨⟨o40, o41, o42, o43⟩, -, o4z⟩ := (Own4.call (O41.out) hSw).facts
     clear hSw
     go_simp
     try with_reducible rfl
    simp only [Act.put, List.setIfInBounds_toArray, List.set_cons_zero, List.set_cons_succ]
    refine wpAnyN_take (i := 2) (oi := ?o2r4) (v := ?v2r4) ?hi2r4 (by kernel_rfl) (by kernel_rfl) (by kernel_rfl) (by kernel_rfl) (by decide) (by kernel_rfl) ?hQ2r4 ?hy2r4 (Below.drew (Below.refl _ _)) ?more2r4
    case hi2r4 => rw [List.getElem?_toArray]; exact rfl
    case hQ2r4 => exact fun _ _ _ h => h
    case hy2r4 =>
     refine Or.inl ⟨by rfl, ?_⟩
     intro w' hSw
     obtain ⟨sz, sg, sx0, sx1, sx2, sx3, sy0, sy1, sy2, sy3, sz0, sz1, sz2, sz3, sf⟩ := S1.out.call hSw
     obtain ⟨pz, p0, p1, p2, p3, p4, p5, p6, p7, p8⟩ := P1.out.call hSw
     obtain ⟨⟨o40, o41, o42, o43⟩, -, o4z⟩ := (Own4.call (O41.out) hSw).facts
     clear hSw
     go_simp
     try with_reducible rfl
    simp only [Act.put, List.setIfInBounds_toArray, List.set_cons_zero, List.set_cons_succ]
    refine wpAnyN_take (i := 3) (oi := ?o3r4) (v := ?v3r4) ?hi3r4 (by kernel_rfl) (by kernel_rfl) (by kernel_rfl) (by kernel_rfl) (by decide) (by kernel_rfl) ?hQ3r4 ?hy3r4 (Below.drew (Below.refl _ _)) ?more3r4
    case hi3r4 => rw [List.getElem?_toArray]; exact rfl
    case hQ3r4 => exact fun _ _ _ h => h
    case hy3r4 =>
     refine Or.inl ⟨by rfl, ?_⟩
     intro w' hSw
     obtain ⟨sz, sg, sx0, sx1, sx2, sx3, sy0, sy1, sy2, sy3, sz0, sz1, sz2, sz3, sf⟩ := S1.out.call hSw
     obtain ⟨pz, p0, p1, p2, p3, p4, p5, p6, p7, p8⟩ := P1.out.call hSw
     obtain ⟨⟨o40, o41, o42, o43⟩, -, o4z⟩ := (Own4.call (O41.out) hSw).facts
     clear hSw
     go_simp
     try with_reducible rfl
    simp only [Act.put, List.setIfInBounds_toArray, List.set_cons_zero, List.set_cons_succ]
    refine wpAnyN_take (i := 4) (oi := ?o4r4) (v := ?v4r4) ?hi4r4 (by kernel_rfl) (by kernel_rfl) (by kernel_rfl) (by kernel_rfl) (by decide) (by kernel_rfl) ?hQ4r4 ?hy4r4 (Below.drew (Below.refl _ _)) ?more4r4
    case hi4r4 => rw [List.getElem?_toArray]; exact rfl
    case hQ4r4 => exact fun _ _ _ h => h
    case hy4r4 =>
     refine Or.inl ⟨by rfl, ?_⟩
     intro w' hSw
     obtain ⟨sz, sg, sx0, sx1, sx2, sx3, sy0, sy1, sy2, sy3, sz0, sz1, sz2, sz3, sf⟩ := S1.out.call hSw
     obtain ⟨pz, p0, p1, p2, p3, p4, p5, p6, p7, p8⟩ := P1.out.call hSw
     obtain ⟨⟨o40, o41, o42, o43⟩, -, o4z⟩ := (Own4.call (O41.out) hSw).facts
     clear hSw
     go_simp
     try with_reducible rfl
    simp only [Act.put, List.setIfInBounds_toArray, List.set_cons_zero, List.set_cons_succ]
    refine wpAnyN_take (i := 5) (oi := ?o5r4) (v := ?v5r4) ?hi5r4 (by kernel_rfl) (by kernel_rfl) (by kernel_rfl) (by kernel_rfl) (by decide) (by kernel_rfl) ?hQ5r4 ?hy5r4 (Below.drew (Below.refl _ _)) ?more5r4
    case hi5r4 => rw [List.getElem?_toArray]; exact rfl
    case hQ5r4 => exact fun _ _ _ h => h
    case hy5r4 =>
     refine Or.inl ⟨by rfl, ?_⟩
     intro w' hSw
     obtain ⟨sz, sg, sx0, sx1, sx2, sx3, sy0, sy1, sy2, sy3, sz0, sz1, sz2, sz3, sf⟩ := S1.out.call hSw
     obtain ⟨pz, p0, p1, p2, p3, p4, p5, p6, p7, p8⟩ := P1.out.call hSw
     obtain ⟨⟨o40, o41, o42, o43⟩, -, o4z⟩ := (Own4.call (O41.out) hSw).facts
     clear hSw
     go_simp
     try with_reducible rfl
    simp only [Act.put, List.setIfInBounds_toArray, List.set_cons_zero, List.set_cons_succ]
    refine wpAnyN_take (i := 6) (oi := ?o6r4) (v := ?v6r4) ?hi6r4 (by kernel_rfl) (by kernel_rfl) (by kernel_rfl) (by kernel_rfl) (by decide) (by kernel_rfl) ?hQ6r4 ?hy6r4 (Below.drew (Below.refl _ _)) ?more6r4
    case hi6r4 => rw [List.getElem?_toArray]; exact rfl
    case hQ6r4 => exact fun _ _ _ h => h
    case hy6r4 =>
     refine Or.inl ⟨by rfl, ?_⟩
     intro w' hSw
     obtain ⟨sz, sg, sx0, sx1, sx2, sx3, sy0, sy1, sy2, sy3, sz0, sz1, sz2, sz3, sf⟩ := S1.out.call hSw
     obtain ⟨pz, p0, p1, p2, p3, p4, p5, p6, p7, p8⟩ := P1.out.call hSw
     obtain ⟨⟨o40, o41, o42, o43⟩, -, o4z⟩ := (Own4.call (O41.out) hSw).facts
     clear hSw
     go_simp
     try with_reducible rfl
    simp only [Act.put, List.setIfInBounds_toArray, List.set_cons_zero, List.set_cons_succ]
    refine wpAnyN_take (i := 7) (oi := ?o7r4) (v := ?v7r4) ?hi7r4 (by kernel_rfl) (by kernel_rfl) (by kernel_rfl) (by kernel_rfl) (by decide) (by kernel_rfl) ?hQ7r4 ?hy7r4 (Below.drew (Below.refl _ _)) ?more7r4
    case hi7r4 => rw [List.getElem?_toArray]; exact rfl
    case hQ7r4 => exact fun _ _ _ h => h
    case hy7r4 =>
     refine Or.inl ⟨by rfl, ?_⟩
     intro w' hSw
     obtain ⟨sz, sg, sx0, sx1, sx2, sx3, sy0, sy1, sy2, sy3, sz0, sz1, sz2, sz3, sf⟩ := S1.out.call hSw
     obtain ⟨pz, p0, p1, p2, p3, p4, p5, p6, p7, p8⟩ := P1.out.call hSw
     obtain ⟨⟨o40, o41, o42, o43⟩, -, o4z⟩ := (Own4.call (O41.out) hSw).facts
     clear hSw
     go_simp
     try with_reducible rfl
    simp only [Act.put, List.setIfInBounds_toArray, List.set_cons_zero, List.set_cons_succ]
    refine wpAnyN_take (i := 8) (oi := ?o8r4) (v := ?v8r4) ?hi8r4 (by kernel_rfl) (by kernel_rfl) (by kernel_rfl) (by kernel_rfl) (by decide) (by kernel_rfl) ?hQ8r4 ?hy8r4 (Below.drew (Below.refl _ _)) ?more8r4
    case hi8r4 => rw [List.getElem?_toArray]; exact rfl
    case hQ8r4 => exact fun _ _ _ h => h
    case hy8r4 =>
     refine Or.inl ⟨by rfl, ?_⟩
     intro w' hSw
     obtain ⟨sz, sg, sx0, sx1, sx2, sx3, sy0, sy1, sy2, sy3, sz0, sz1, sz2, sz3, sf⟩ := S1.out.call hSw
     obtain ⟨pz, p0, p1, p2, p3, p4, p5, p6, p7, p8⟩ := P1.out.call hSw
     obtain ⟨⟨o40, o41, o42, o43⟩, -, o4z⟩ := (Own4.call (O41.out) hSw).facts
     clear hSw
     go_simp
     try with_reducible rfl
    simp only [Act.put, List.setIfInBounds_toArray, List.set_cons_zero, List.set_cons_succ]
    refine wpAnyN_take (i := 9) (oi := ?o9r4) (v := ?v9r4) ?hi9r4 (by kernel_rfl) (by kernel_rfl) (by kernel_rfl) (by kernel_rfl) (by decide) (by kernel_rfl) ?hQ9r4 ?hy9r4 (Below.drew (Below.refl _ _)) ?more9r4
    case hi9r4 => rw [List.getElem?_toArray]; exact rfl
    case hQ9r4 => exact fun _ _ _ h => h
    case hy9r4 =>
     refine Or.inl ⟨by rfl, ?_⟩
     intro w' hSw
     obtain ⟨sz, sg, sx0, sx1, sx2, sx3, sy0, sy1, sy2, sy3, sz0, sz1, sz2, sz3, sf⟩ := S1.out.call hSw
     obtain ⟨pz, p0, p1, p2, p3, p4, p5, p6, p7, p8⟩ := P1.out.call hSw
     obtain ⟨⟨o40, o41, o42, o43⟩, -, o4z⟩ := (Own4.call (O41.out) hSw).facts
     clear hSw
     go_simp
     try with_reducible rfl
    simp only [Act.put, List.setIfInBounds_toArray, List.set_cons_zero, List.set_cons_succ]
    refine wpAnyN_take (i := 10) (oi := ?o10r4) (v := ?v10r4) ?hi10r4 (by kernel_rfl) (by kernel_rfl) (by kernel_rfl) (by kernel_rfl) (by decide) (by kernel_rfl) ?hQ10r4 ?hy10r4 (Below.drew (Below.refl _ _)) ?more10r4
    case hi10r4 => rw [List.getElem?_toArray]; exact rfl
    case hQ10r4 => exact fun _ _ _ h => h
    case hy10r4 =>
     refine Or.inl ⟨by rfl, ?_⟩
     intro w' hSw
     obtain ⟨sz, sg, sx0, sx1, sx2, sx3, sy0, sy1, sy2, sy3, sz0, sz1, sz2, sz3, sf⟩ := S1.out.call hSw
     obtain ⟨pz, p0, p1, p2, p3, p4, p5, p6, p7, p8⟩ := P1.out.call hSw
     obtain ⟨⟨o40, o41, o42, o43⟩, -, o4z⟩ := (Own4.call (O41.out) hSw).facts
     clear hSw
     go_simp
     try with_reducible rfl
    simp only [Act.put, List.setIfInBounds_toArray, List.set_cons_zero, List.set_cons_succ]
    refine wpAnyN_take (i := 11) (oi := ?o11r4) (v := ?v11r4) ?hi11r4 (by kernel_rfl) (by kernel_rfl) (by kernel_rfl) (by kernel_rfl) (by decide) (by kernel_rfl) ?hQ11r4 ?hy11r4 (Below.drew (Below.refl _ _)) ?more11r4
    case hi11r4 => rw [List.getElem?_toArray]; exact rfl
    case hQ11r4 => exact fun _ _ _ h => h
    case hy11r4 =>
     refine Or.inl ⟨by rfl, ?_⟩
     intro w' hSw
     obtain ⟨sz, sg, sx0, sx1, sx2, sx3, sy0, sy1, sy2, sy3, sz0, sz1, sz2, sz3, sf⟩ := S1.out.call hSw
     obtain ⟨pz, p0, p1, p2, p3, p4, p5, p6, p7, p8⟩ := P1.out.call hSw
     obtain ⟨⟨o40, o41, o42, o43⟩, -, o4z⟩ := (Own4.call (O41.out) hSw).facts
     clear hSw
     go_simp
     try with_reducible rfl
    simp only [Act.put, List.setIfInBounds_toArray, List.set_cons_zero, List.set_cons_succ]
    refine wpAnyN_take (i := 12) (oi := ?o12r4) (v := ?v12r4) ?hi12r4 (by kernel_rfl) (by kernel_rfl) (by kernel_rfl) (by kernel_rfl) (by decide) (by kernel_rfl) ?hQ12r4 ?hy12r4 (Below.drew (Below.refl _ _)) ?more12r4
    case hi12r4 => rw [List.getElem?_toArray]; exact rfl
    case hQ12r4 => exact fun _ _ _ h => h
    case hy12r4 =>
     refine Or.inl ⟨by rfl, ?_⟩
     intro w' hSw
     obtain ⟨sz, sg, sx0, sx1, sx2, sx3, sy0, sy1, sy2, sy3, sz0, sz1, sz2, sz3, sf⟩ := S1.out.call hSw
     obtain ⟨pz, p0, p1, p2, p3, p4, p5, p6, p7, p8⟩ := P1.out.call hSw
     obtain ⟨⟨o40, o41, o42, o43⟩, -, o4z⟩ := (Own4.call (O41.out) hSw).facts
     clear hSw
     go_simp
     try with_reducible rfl
    simp only [Act.put, List.setIfInBounds_toArray, List.set_cons_zero, List.set_cons_succ]
    refine wpAnyN_take (i := 14) (oi := ?o14r4) (v := ?v14r4) ?hi14r4 (by kernel_rfl) (by kernel_rfl) (by kernel_rfl) (by kernel_rfl) (by decide) (by kernel_rfl) ?hQ14r4 ?hy14r4 (Below.drew (Below.refl _ _)) ?more14r4
    case hi14r4 => rw [List.getElem?_toArray]; exact rfl
    case hQ14r4 => exact fun _ _ _ h => h
    case hy14r4 =>
     refine Or.inl ⟨by rfl, ?_⟩
     intro w' hSw
     obtain ⟨sz, sg, sx0, sx1, sx2, sx3, sy0, sy1, sy2, sy3, sz0, sz1, sz2, sz3, sf⟩ := S1.out.call hSw
     obtain ⟨pz, p0, p1, p2, p3, p4, p5, p6, p7, p8⟩ := P1.out.call hSw
     obtain ⟨⟨o40, o41, o42, o43⟩, -, o4z⟩ := (Own4.call (O41.out) hSw).facts
     clear hSw
     go_simp
     try with_reducible rfl
    simp only [Act.put, List.setIfInBounds_toArray, List.set_cons_zero, List.set_cons_succ]
    refine wpAnyN_take (i := 15) (oi := ?o15r4) (v := ?v15r4) ?hi15r4 (by kernel_rfl) (by kernel_rfl) (by kernel_rfl) (by kernel_rfl) (by decide) (by kernel_rfl) ?hQ15r4 ?hy15r4 (Below.drew (Below.refl _ _)) ?more15r4
    case hi15r4 => rw [List.getElem?_toArray]; exact rfl
    case hQ15r4 => exact fun _ _ _ h => h
    case hy15r4 =>
     refine Or.inl ⟨by rfl, ?_⟩
     intro w' hSw
     obtain ⟨sz, sg, sx0, sx1, sx2, sx3, sy0, sy1, sy2, sy3, sz0, sz1, sz2, sz3, sf⟩ := S1.out.call hSw
     obtain ⟨pz, p0, p1, p2, p3, p4, p5, p6, p7, p8⟩ := P1.out.call hSw
     obtain ⟨⟨o40, o41, o42, o43⟩, -, o4z⟩ := (Own4.call (O41.out) hSw).facts
     clear hSw
     go_simp
     try with_reducible rfl
    simp only [Act.put, List.setIfInBounds_toArray, List.set_cons_zero, List.set_cons_succ]
    refine wpAnyN_take (i := 16) (oi := ?o16r4) (v := ?v16r4) ?hi16r4 (by kernel_rfl) (by kernel_rfl) (by kernel_rfl) (by kernel_rfl) (by decide) (by kernel_rfl) ?hQ16r4 ?hy16r4 (Below.drew (Below.refl _ _)) ?more16r4
    case hi16r4 => rw [List.getElem?_toArray]; exact rfl
    case hQ16r4 => exact fun _ _ _ h => h
    case hy16r4 =>
     refine Or.inl ⟨by rfl, ?_⟩
     intro w' hSw
     obtain ⟨sz, sg, sx0, sx1, sx2, sx3, sy0, sy1, sy2, sy3, sz0, sz1, sz2, sz3, sf⟩ := S1.out.call hSw
     obtain ⟨pz, p0, p1, p2, p3, p4, p5, p6, p7, p8⟩ := P1.out.call hSw
     obtain ⟨⟨o40, o41, o42, o43⟩, -, o4z⟩ := (Own4.call (O41.out) hSw).facts
     clear hSw
     go_simp
     try with_reducible rfl
    simp only [Act.put, List.setIfInBounds_toArray, List.set_cons_zero, List.set_cons_succ]
    refine wpAnyN_take (i := 17) (oi := ?o17r4) (v := ?v17r4) ?hi17r4 (by kernel_rfl) (by kernel_rfl) (by kernel_rfl) (by kernel_rfl) (by decide) (by kernel_rfl) ?hQ17r4 ?hy17r4 (Below.drew (Below.refl _ _)) ?more17r4
    case hi17r4 => rw [List.getElem?_toArray]; exact rfl
    case hQ17r4 => exact fun _ _ _ h => h
    case hy17r4 =>
     refine Or.inl ⟨by rfl, ?_⟩
     intro w' hSw
     obtain ⟨sz, sg, sx0, sx1, sx2, sx3, sy0, sy1, sy2, sy3, sz0, sz1, sz2, sz3, sf⟩ := S1.out.call hSw
     obtain ⟨pz, p0, p1, p2, p3, p4, p5, p6, p7, p8⟩ := P1.out.call hSw
     obtain ⟨⟨o40, o41, o42, o43⟩, -, o4z⟩ := (Own4.call (O41.out) hSw).facts
     clear hSw
     go_simp
     try with_reducible rfl
    simp only [Act.put, List.setIfInBounds_toArray, List.set_cons_zero, List.set_cons_succ]
    refine wpAnyN_two (i := 13) (j := 19) (o := ?o13r4x1) (p := ?o19r4x1) (by kernel_rfl) ?hi13r4x1 ?hi19r4x1 ?hw13r4x1 ?hw19r4x1 ?st13r4x1 ?st19r4x1
    case hi13r4x1 => rw [List.getElem?_toArray]; exact rfl
    case hw13r4x1 => exact rfl
    case hi19r4x1 => rw [List.getElem?_toArray]; exact rfl
    case hw19r4x1 => exact rfl
    case st13r4x1 =>
     intro K hK
     have HK13r4y2 : Hid _ := hK
     clear hK
     go_simp
     refine (K2.out _ (F1.out.call (Below.drew (Below.refl _ _)))).mono ?_
     rintro e w13r4y2 ⟨rfl, hq⟩
     have H13r4y2 : Hid (Below w1.heap.size w1 w13r4y2) := below_call0 (Below.drew (Below.refl _ _)) hq
     clear hq
     go_wp2_with fail
     refine HK13r4y2.out _ _ ⟨fun _ => H13r4y2.out, ?_⟩
     clear HK13r4y2 K
     try simp only [Act.put, List.setIfInBounds_toArray, List.set_cons_zero, List.set_cons_succ]
     refine wpAnyN_two (i := 18) (j := 19) (o := ?o18r4y2x3) (p := ?o19r4y2x3) (by kernel_rfl) ?hi18r4y2x3 ?hi19r4y2x3 ?hw18r4y2x3 ?hw19r4y2x3 ?st18r4y2x3 ?st19r4y2x3
     case hi18r4y2x3 => rw [List.getElem?_toArray]; exact rfl
     case hw18r4y2x3 => exact rfl
     case hi19r4y2x3 => rw [List.getElem?_toArray]; exact rfl
     case hw19r4y2x3 => exact rfl
     case st18r4y2x3 =>
      intro K hK
      have HK18r4y4 : Hid _ := hK
      clear hK
      go_simp
      refine (K3.out _ (F1.out.call H13r4y2.out)).mono ?_
      rintro e w18r4y4 ⟨rfl, hq⟩
      have H18r4y4 : Hid (Below w1.heap.size w1 w18r4y4) := below_call0 H13r4y2.out hq
      clear hq
      go_wp2_with fail
      refine HK18r4y4.out _ _ ⟨fun _ => H18r4y4.out, ?_⟩
      clear HK18r4y4 K
      try simp only [Act.put, List.setIfInBounds_toArray, List.set_cons_zero, List.set_cons_succ]
      refine wpAnyN_one (i := 19) (o := ?o19r4y4) (by kernel_rfl) ?hi19r4y4 ?hw19r4y4 ?st19r4y4
      case hi19r4y4 => rw [List.getElem?_toArray]; exact rfl
      case hw19r4y4 => exact rfl
      intro K hK
      have HK19r4y4 : Hid _ := hK
      clear hK
      go_simp
      refine HK19r4y4.out _ _ ⟨fun _ => (below_alloc0 H18r4y4.out _), ?_⟩
      clear HK19r4y4 K
      try simp only [Act.put, List.setIfInBounds_toArray, List.set_cons_zero, List.set_cons_succ]
      refine wpAnyN_one (i := 20) (o := ?o20r4y4) (by kernel_rfl) ?hi20r4y4 ?hw20r4y4 ?st20r4y4
      case hi20r4y4 => rw [List.getElem?_toArray]; exact rfl
      case hw20r4y4 => exact rfl
      intro K hK
      have HK20r4y4 : Hid _ := hK
      clear hK
      obtain ⟨⟨o0, o1, o2, o3⟩, ⟨f0, f1, f2, f3⟩, oz⟩ := Pend.facts (Pend.newC (W := w18r4y4) (t := 24) rfl)
      try simp only [World.size_alloc] at o0 o1 o2 o3 f0 f1 f2 f3 oz
      go_simp
      refine HK20r4y4.out _ _ ⟨fun h => absurd h (by decide +kernel), ?_⟩
      clear HK20r4y4 K
      try simp only [Act.put, List.setIfInBounds_toArray, List.set_cons_zero, List.set_cons_succ]
      refine wpAnyN_done (by kernel_rfl) ?_ _
      obtain ⟨wSr4y4, hwS⟩ : ∃ y, y = w18r4y4.alloc (.cells #[.int .u64 (limb A 0 : Nat), .int .u64 (limb A 1 : Nat), .int .u64 (limb A 2 : Nat), .int .u64 (limb A 3 : Nat)] 24) := ⟨_, rfl⟩
      have HSr4y4 : Hid (Own4 wSr4y4 (w18r4y4.heap.size) A ∧ Below w1.heap.size w1 wSr4y4) := by rw [hwS]; exact ⟨Own4.new' rfl, below_alloc0 H18r4y4.out _⟩
      rw [← hwS]
      clear hwS o0 o1 o2 o3 f0 f1 f2 f3 oz
      go_wp2_with fail
      go_meet
      exact ⟨_, rfl, (Below.size H18r4y4.out), HSr4y4.out.1, HSr4y4.out.2⟩
     case st19r4y2x3 =>
      intro K hK
      have HK19r4y5 : Hid _ := hK
      clear hK
      go_simp
      refine HK19r4y5.out _ _ ⟨fun _ => (below_alloc0 H13r4y2.out _), ?_⟩
      clear HK19r4y5 K
      try simp only [Act.put, List.setIfInBounds_toArray, List.set_cons_zero, List.set_cons_succ]
      refine wpAnyN_one (i := 18) (o := ?o18r4y5) (by kernel_rfl) ?hi18r4y5 ?hw18r4y5 ?st18r4y5
      case hi18r4y5 => rw [List.getElem?_toArray]; exact rfl
      case hw18r4y5 => exact rfl
      intro K hK
      have HK18r4y5 : Hid _ := hK
      clear hK
      go_simp
      refine (K3.out _ (F1.out.call (below_alloc0 H13r4y2.out _))).mono ?_
      rintro e w18r4y5 ⟨rfl, hq⟩
      have H18r4y5 : Hid (Below w1.heap.size w1 w18r4y5) := below_call0 (below_alloc0 H13r4y2.out _) hq
      have P18r4y5 : Hid (Pend w18r4y5 (w13r4y2.heap.size)) := Pend.call (Pend.newC (W := w13r4y2) (t := 24) rfl) hq
      clear hq
      go_wp2_with fail
      refine HK18r4y5.out _ _ ⟨fun _ => H18r4y5.out, ?_⟩
      clear HK18r4y5 K
      try simp only [Act.put, List.setIfInBounds_toArray, List.set_cons_zero, List.set_cons_succ]
      refine wpAnyN_one (i := 20) (o := ?o20r4y5) (by kernel_rfl) ?hi20r4y5 ?hw20r4y5 ?st20r4y5
      case hi20r4y5 => rw [List.getElem?_toArray]; exact rfl
      case hw20r4y5 => exact rfl
      intro K hK
      have HK20r4y5 : Hid _ := hK
      clear hK
      obtain ⟨⟨o0, o1, o2, o3⟩, ⟨f0, f1, f2, f3⟩, oz⟩ := Pend.facts P18r4y5.out
      try simp only [World.size_alloc] at o0 o1 o2 o3 f0 f1 f2 f3 oz
      go_simp
      refine HK20r4y5.out _ _ ⟨fun h => absurd h (by decide +kernel), ?_⟩
      clear HK20r4y5 K
      try simp only [Act.put, List.setIfInBounds_toArray, List.set_cons_zero, List.set_cons_succ]
      refine wpAnyN_done (by kernel_rfl) ?_ _
      obtain ⟨wSr4y5, hwS⟩ : ∃ y, y = ((((w18r4y5.setCell ⟨w13r4y2.heap.size, 0, none⟩ (.int .u64 (limb A 0 : Nat))).setCell ⟨w13r4y2.heap.size, 1, none⟩ (.int .u64 (limb A 1 : Nat))).setCell ⟨w13r4y2.heap.size, 2, none⟩ (.int .u64 (limb A 2 : Nat))).setCell ⟨w13r4y2.heap.size, 3, none⟩ (.int .u64 (limb A 3 : Nat))) := ⟨_, rfl⟩
      have HSr4y5 : Hid (Own4 wSr4y5 (w13r4y2.heap.size) A ∧ Below w1.heap.size w1 wSr4y5) := by rw [hwS]; exact ⟨Pend.own P18r4y5.out, Below.setCell (Below.setCell (Below.setCell (Below.setCell H18r4y5.out (Below.size H13r4y2.out) _) (Below.size H13r4y2.out) _) (Below.size H13r4y2.out) _) (Below.size H13r4y2.out) _⟩
      rw [← hwS]
      clear hwS o0 o1 o2 o3 f0 f1 f2 f3 oz
      go_wp2_with fail
      go_meet
      exact ⟨_, rfl, (Below.size H13r4y2.out), HSr4y5.out.1, HSr4y5.out.2⟩
    case st19r4x1 =>
     intro K hK
     have HK19r4y6 : Hid _ := hK
     clear hK
     go_simp
     refine HK19r4y6.out _ _ ⟨fun _ => (below_alloc0 (Below.drew (Below.refl _ _)) _), ?_⟩
     clear HK19r4y6 K
     try simp only [Act.put, List.setIfInBounds_toArray, List.set_cons_zero, List.set_cons_succ]
     refine wpAnyN_one (i := 13) (o := ?o13r4y6) (by kernel_rfl) ?hi13r4y6 ?hw13r4y6 ?st13r4y6
     case hi13r4y6 => rw [List.getElem?_toArray]; exact rfl
     case hw13r4y6 => exact rfl
     intro K hK
     have HK13r4y6 : Hid _ := hK
     clear hK
     go_simp
     refine (K2.out _ (F1.out.call (below_alloc0 (Below.drew (Below.refl _ _)) _))).mono ?_
     rintro e w13r4y6 ⟨rfl, hq⟩
     have H13r4y6 : Hid (Below w1.heap.size w1 w13r4y6) := below_call0 (below_alloc0 (Below.drew (Below.refl _ _)) _) hq
     have P13r4y6 : Hid (Pend w13r4y6 (w1.heap.size)) := Pend.call (Pend.newC (W := w1.drew) (t := 24) rfl) hq
     clear hq
     go_wp2_with fail
     refine HK13r4y6.out _ _ ⟨fun _ => H13r4y6.out, ?_⟩
     clear HK13r4y6 K
     try simp only [Act.put, List.setIfInBounds_toArray, List.set_cons_zero, List.set_cons_succ]
     refine wpAnyN_one (i := 18) (o := ?o18r4y6) (by kernel_rfl) ?hi18r4y6 ?hw18r4y6 ?st18r4y6
     case hi18r4y6 => rw [List.getElem?_toArray]; exact rfl
     case hw18r4y6 => exact rfl
     intro K hK
     have HK18r4y6 : Hid _ := hK
     clear hK
     go_simp
     refine (K3.out _ (F1.out.call H13r4y6.out)).mono ?_
     rintro e w18r4y6 ⟨rfl, hq⟩
     have H18r4y6 : Hid (Below w1.heap.size w1 w18r4y6) := below_call0 H13r4y6.out hq
     have P18r4y6 : Hid (Pend w18r4y6 (w1.heap.size)) := Pend.call P13r4y6.out hq
     clear hq
     go_wp2_with fail
     refine HK18r4y6.out _ _ ⟨fun _ => H18r4y6.out, ?_⟩
     clear HK18r4y6 K
     try simp only [Act.put, List.setIfInBounds_toArray, List.set_cons_zero, List.set_cons_succ]
     refine wpAnyN_one (i := 20) (o := ?o20r4y6) (by kernel_rfl) ?hi20r4y6 ?hw20r4y6 ?st20r4y6
     case hi20r4y6 => rw [List.getElem?_toArray]; exact rfl
     case hw20r4y6 => exact rfl
     intro K hK
     have HK20r4y6 : Hid _ := hK
     clear hK
     obtain ⟨⟨o0, o1, o2, o3⟩, ⟨f0, f1, f2, f3⟩, oz⟩ := Pend.facts P18r4y6.out
     try simp only [World.size_alloc] at o0 o1 o2 o3 f0 f1 f2 f3 oz
     go_simp
     refine HK20r4y6.out _ _ ⟨fun h => absurd h (by decide +kernel), ?_⟩
     clear HK20r4y6 K
     try simp only [Act.put, List.setIfInBounds_toArray, List.set_cons_zero, List.set_cons_succ]
     refine wpAnyN_done (by kernel_rfl) ?_ _
     obtain ⟨wSr4y6, hwS⟩ : ∃ y, y = ((((w18r4y6.setCell ⟨w1.heap.size, 0, none⟩ (.int .u64 (limb A 0 : Nat))).setCell ⟨w1.heap.size, 1, none⟩ (.int .u64 (limb A 1 : Nat))).setCell ⟨w1.heap.size, 2, none⟩ (.int .u64 (limb A 2 : Nat))).setCell ⟨w1.heap.size, 3, none⟩ (.int .u64 (limb A 3 : Nat))) := ⟨_, rfl⟩
     have HSr4y6 : Hid (Own4 wSr4y6 (w1.heap.size) A ∧ Below w1.heap.size w1 wSr4y6) := by rw [hwS]; exact ⟨Pend.own P18r4y6.out, Below.setCell (Below.setCell (Below.setCell (Below.setCell H18r4y6.out (Nat.le_refl _) _) (Nat.le_refl _) _) (Nat.le_refl _) _) (Nat.le_refl _) _⟩
     rw [← hwS]
     clear hwS o0 o1 o2 o3 f0 f1 f2 f3 oz
     go_wp2_with fail
     go_meet
     exact ⟨_, rfl, (Nat.le_refl _), HSr4y6.out.1, HSr4y6.out.2⟩
  case rest =>
   obtain ⟨b5, rfl, hle, hO, hB⟩ := hcut
   have F2 : Hid (FieldB wc g PP) := F1.out.call hB
   have S2 : Hid (SpotB wc s g x y z) := S1.out.call hB
   have P2 : Hid (PointB wc b o px py false) := P1.out.call hB
   have W2 : Hid (Below w.heap.size w wc) := below_call0 W1.out hB
   have O42 : Hid (Own4 wc b4 sq) := O41.out.call hB
   have NE5 : Hid (s ≠ b5) := Nat.ne_of_lt (Nat.lt_of_lt_of_le HZ.out.2 (Nat.le_trans W1.out.size hle))
   have O52 : Hid (Own4 wc b5 A) := hO
   clear hO hB hle F1 S1 P1 W1 O41
   generalize wc = w2 at F2 S2 P2 W2 O42 O52 ⊢
   go_upto_region 5 with fail
   go_cut [6] (fun v wx => ∃ b6, v = .pointer (some ⟨b6, 0, none⟩) ∧ w2.heap.size ≤ b6 ∧ Own4 wx b6 U ∧ Below w2.heap.size w2 wx)
   case first =>
    as_aux_lemma =>
     refine wp_region_N (fun w' => Below w2.heap.size w2 w') 29 30 rfl (by kernel_rfl) ?_
     refine wpAnyN_take (i := 0) (oi := ?o0r5) (v := ?v0r5) ?hi0r5 (by kernel_rfl) (by kernel_rfl) (by kernel_rfl) (by kernel_rfl) (by decide) (by kernel_rfl) ?hQ0r5 ?hy0r5 (Below.drew (Below.refl _ _)) ?more0r5
     case hi0r5 => rw [List.getElem?_toArray]; exact rfl
     case hQ0r5 => exact fun _ _ _ h => h
     case hy0r5 =>
      refine Or.inl ⟨by rfl, ?_⟩
      intro w' hSw
      obtain ⟨sz, sg, sx0, sx1, sx2, sx3, sy0, sy1, sy2, sy3, sz0, sz1, sz2, sz3, sf⟩ := S2.out.call hSw
      obtain ⟨pz, p0, p1, p2, p3, p4, p5, p6, p7, p8⟩ := P2.out.call hSw
      obtain ⟨⟨o40, o41, o42, o43⟩, -, o4z⟩ := (Own4.call (O42.out) hSw).facts
      clear hSw
      go_simp
      try with_reducible rfl
     simp only [Act.put, List.setIfInBounds_toArray, List.set_cons_zero, List.set_cons_succ]
     refine wpAnyN_take (i := 1) (oi := ?o1r5) (v := ?v1r5) ?hi1r5 (by kernel_rfl) (by kernel_rfl) (by kernel_rfl) (by kernel_rfl) (by decide) (by kernel_rfl) ?hQ1r5 ?hy1r5 (Below.drew (Below.refl _ _)) ?more1r5
     case hi1r5 => rw [List.getElem?_toArray]; exact rfl
     case hQ1r5 => exact fun _ _ _ h => h
     case hy1r5 =>
      refine Or.inl ⟨by rfl, ?_⟩
      intro w' hSw
      obtain ⟨sz, sg, sx0, sx1, sx2, sx3, sy0, sy1, sy2, sy3, sz0, sz1, sz2, sz3, sf⟩ := S2.out.call hSw
      obtain ⟨pz, p0, p1, p2, p3, p4, p5, p6, p7, p8⟩ := P2.out.call hSw
      obtain ⟨⟨o40, o41, o42, o43⟩, -, o4z⟩ := (Own4.call (O42.out) hSw).facts
      clear hSw
      go_simp
      try with_reducible rfl
     simp only [Act.put, List.setIfInBounds_toArray, List.set_cons_zero, List.set_cons_succ]
     refine wpAnyN_take (i := 2) (oi := ?o2r5) (v := ?v2r5) ?hi2r5 (by kernel_rfl) (by kernel_rfl) (by kernel_rfl) (by kernel_rfl) (by decide) (by kernel_rfl) ?hQ2r5 ?hy2r5 (Below.drew (Below.refl _ _)) ?more2r5
     case hi2r5 => rw [List.getElem?_toArray]; exact rfl
     case hQ2r5 => exact fun _ _ _ h => h
     case hy2r5 =>
      refine Or.inl ⟨by rfl, ?_⟩
      intro w' hSw
      obtain ⟨sz, sg, sx0, sx1, sx2, sx3, sy0, sy1, sy2, sy3, sz0, sz1, sz2, sz3, sf⟩ := S2.out.call hSw
      obtain ⟨pz, p0, p1, p2, p3, p4, p5, p6, p7, p8⟩ := P2.out.call hSw
      obtain ⟨⟨o40, o41, o42, o43⟩, -, o4z⟩ := (Own4.call (O42.out) hSw).facts
      clear hSw
      go_simp
      try with_reducible rfl
     simp only [Act.put, List.setIfInBounds_toArray, List.set_cons_zero, List.set_cons_succ]
     refine wpAnyN_take (i := 3) (oi := ?o3r5) (v := ?v3r5) ?hi3r5 (by kernel_rfl) (by kernel_rfl) (by kernel_rfl) (by kernel_rfl) (by decide) (by kernel_rfl) ?hQ3r5 ?hy3r5 (Below.drew (Below.refl _ _)) ?more3r5
     case hi3r5 => rw [List.getElem?_toArray]; exact rfl
     case hQ3r5 => exact fun _ _ _ h => h
     case hy3r5 =>
      refine Or.inl ⟨by rfl, ?_⟩
      intro w' hSw
      obtain ⟨sz, sg, sx0, sx1, sx2, sx3, sy0, sy1, sy2, sy3, sz0, sz1, sz2, sz3, sf⟩ := S2.out.call hSw
      obtain ⟨pz, p0, p1, p2, p3, p4, p5, p6, p7, p8⟩ := P2.out.call hSw
      obtain ⟨⟨o40, o41, o42, o43⟩, -, o4z⟩ := (Own4.call (O42.out) hSw).facts
      clear hSw
      go_simp
      try with_reducible rfl
     simp only [Act.put, List.setIfInBounds_toArray, List.set_cons_zero, List.set_cons_succ]
     refine wpAnyN_take (i := 4) (oi := ?o4r5) (v := ?v4r5) ?hi4r5 (by kernel_rfl) (by kernel_rfl) (by kernel_rfl) (by kernel_rfl) (by decide) (by kernel_rfl) ?hQ4r5 ?hy4r5 (Below.drew (Below.refl _ _)) ?more4r5
     case hi4r5 => rw [List.getElem?_toArray]; exact rfl
     case hQ4r5 => exact fun _ _ _ h => h
     case hy4r5 =>
      refine Or.inl ⟨by rfl, ?_⟩
      intro w' hSw
      obtain ⟨sz, sg, sx0, sx1, sx2, sx3, sy0, sy1, sy2, sy3, sz0, sz1, sz2, sz3, sf⟩ := S2.out.call hSw
      obtain ⟨pz, p0, p1, p2, p3, p4, p5, p6, p7, p8⟩ := P2.out.call hSw
      obtain ⟨⟨o40, o41, o42, o43⟩, -, o4z⟩ := (Own4.call (O42.out) hSw).facts
      clear hSw
      go_simp
      try with_reducible rfl
     simp only [Act.put, List.setIfInBounds_toArray, List.set_cons_zero, List.set_cons_succ]
     refine wpAnyN_take (i := 5) (oi := ?o5r5) (v := ?v5r5) ?hi5r5 (by kernel_rfl) (by kernel_rfl) (by kernel_rfl) (by kernel_rfl) (by decide) (by kernel_rfl) ?hQ5r5 ?hy5r5 (Below.drew (Below.refl _ _)) ?more5r5
     case hi5r5 => rw [List.getElem?_toArray]; exact rfl
     case hQ5r5 => exact fun _ _ _ h => h
     case hy5r5 =>
      refine Or.inl ⟨by rfl, ?_⟩
      intro w' hSw
      obtain ⟨sz, sg, sx0, sx1, sx2, sx3, sy0, sy1, sy2, sy3, sz0, sz1, sz2, sz3, sf⟩ := S2.out.call hSw
      obtain ⟨pz, p0, p1, p2, p3, p4, p5, p6, p7, p8⟩ := P2.out.call hSw
      obtain ⟨⟨o40, o41, o42, o43⟩, -, o4z⟩ := (Own4.call (O42.out) hSw).facts
      clear hSw
      go_simp
      try with_reducible rfl
     simp only [Act.put, List.setIfInBounds_toArray, List.set_cons_zero, List.set_cons_succ]
     refine wpAnyN_take (i := 6) (oi := ?o6r5) (v := ?v6r5) ?hi6r5 (by kernel_rfl) (by kernel_rfl) (by kernel_rfl) (by kernel_rfl) (by decide) (by kernel_rfl) ?hQ6r5 ?hy6r5 (Below.drew (Below.refl _ _)) ?more6r5
     case hi6r5 => rw [List.getElem?_toArray]; exact rfl
     case hQ6r5 => exact fun _ _ _ h => h
     case hy6r5 =>
      refine Or.inl ⟨by rfl, ?_⟩
      intro w' hSw
      obtain ⟨sz, sg, sx0, sx1, sx2, sx3, sy0, sy1, sy2, sy3, sz0, sz1, sz2, sz3, sf⟩ := S2.out.call hSw
      obtain ⟨pz, p0, p1, p2, p3, p4, p5, p6, p7, p8⟩ := P2.out.call hSw
      obtain ⟨⟨o40, o41, o42, o43⟩, -, o4z⟩ := (Own4.call (O42.out) hSw).facts
      clear hSw
      go_simp
      try with_reducible rfl
     simp only [Act.put, List.setIfInBounds_toArray, List.set_cons_zero, List.set_cons_succ]
     refine wpAnyN_take (i := 7) (oi := ?o7r5) (v := ?v7r5) ?hi7r5 (by kernel_rfl) (by kernel_rfl) (by kernel_rfl) (by kernel_rfl) (by decide) (by kernel_rfl) ?hQ7r5 ?hy7r5 (Below.drew (Below.refl _ _)) ?more7r5
     case hi7r5 => rw [List.getElem?_toArray]; exact rfl
     case hQ7r5 => exact fun _ _ _ h => h
     case hy7r5 =>
      refine Or.inl ⟨by rfl, ?_⟩
      intro w' hSw
      obtain ⟨sz, sg, sx0, sx1, sx2, sx3, sy0, sy1, sy2, sy3, sz0, sz1, sz2, sz3, sf⟩ := S2.out.call hSw
      obtain ⟨pz, p0, p1, p2, p3, p4, p5, p6, p7, p8⟩ := P2.out.call hSw
      obtain ⟨⟨o40, o41, o42, o43⟩, -, o4z⟩ := (Own4.call (O42.out) hSw).facts
      clear hSw
      go_simp
      try with_reducible rfl
     simp only [Act.put, List.setIfInBounds_toArray, List.set_cons_zero, List.set_cons_succ]
     refine wpAnyN_take (i := 8) (oi := ?o8r5) (v := ?v8r5) ?hi8r5 (by kernel_rfl) (by kernel_rfl) (by kernel_rfl) (by kernel_rfl) (by decide) (by kernel_rfl) ?hQ8r5 ?hy8r5 (Below.drew (Below.refl _ _)) ?more8r5
     case hi8r5 => rw [List.getElem?_toArray]; exact rfl
     case hQ8r5 => exact fun _ _ _ h => h
     case hy8r5 =>
      refine Or.inl ⟨by rfl, ?_⟩
      intro w' hSw
      obtain ⟨sz, sg, sx0, sx1, sx2, sx3, sy0, sy1, sy2, sy3, sz0, sz1, sz2, sz3, sf⟩ := S2.out.call hSw
      obtain ⟨pz, p0, p1, p2, p3, p4, p5, p6, p7, p8⟩ := P2.out.call hSw
      obtain ⟨⟨o40, o41, o42, o43⟩, -, o4z⟩ := (Own4.call (O42.out) hSw).facts
      clear hSw
      go_simp
      try with_reducible rfl
     simp only [Act.put, List.setIfInBounds_toArray, List.set_cons_zero, List.set_cons_succ]
     refine wpAnyN_take (i := 9) (oi := ?o9r5) (v := ?v9r5) ?hi9r5 (by kernel_rfl) (by kernel_rfl) (by kernel_rfl) (by kernel_rfl) (by decide) (by kernel_rfl) ?hQ9r5 ?hy9r5 (Below.drew (Below.refl _ _)) ?more9r5
     case hi9r5 => rw [List.getElem?_toArray]; exact rfl
     case hQ9r5 => exact fun _ _ _ h => h
     case hy9r5 =>
      refine Or.inl ⟨by rfl, ?_⟩
      intro w' hSw
      obtain ⟨sz, sg, sx0, sx1, sx2, sx3, sy0, sy1, sy2, sy3, sz0, sz1, sz2, sz3, sf⟩ := S2.out.call hSw
      obtain ⟨pz, p0, p1, p2, p3, p4, p5, p6, p7, p8⟩ := P2.out.call hSw
      obtain ⟨⟨o40, o41, o42, o43⟩, -, o4z⟩ := (Own4.call (O42.out) hSw).facts
      clear hSw
      go_simp
      try with_reducible rfl
     simp only [Act.put, List.setIfInBounds_toArray, List.set_cons_zero, List.set_cons_succ]
     refine wpAnyN_take (i := 10) (oi := ?o10r5) (v := ?v10r5) ?hi10r5 (by kernel_rfl) (by kernel_rfl) (by kernel_rfl) (by kernel_rfl) (by decide) (by kernel_rfl) ?hQ10r5 ?hy10r5 (Below.drew (Below.refl _ _)) ?more10r5
     case hi10r5 => rw [List.getElem?_toArray]; exact rfl
     case hQ10r5 => exact fun _ _ _ h => h
     case hy10r5 =>
      refine Or.inl ⟨by rfl, ?_⟩
      intro w' hSw
      obtain ⟨sz, sg, sx0, sx1, sx2, sx3, sy0, sy1, sy2, sy3, sz0, sz1, sz2, sz3, sf⟩ := S2.out.call hSw
      obtain ⟨pz, p0, p1, p2, p3, p4, p5, p6, p7, p8⟩ := P2.out.call hSw
      obtain ⟨⟨o40, o41, o42, o43⟩, -, o4z⟩ := (Own4.call (O42.out) hSw).facts
      clear hSw
      go_simp
      try with_reducible rfl
     simp only [Act.put, List.setIfInBounds_toArray, List.set_cons_zero, List.set_cons_succ]
     refine wpAnyN_take (i := 11) (oi := ?o11r5) (v := ?v11r5) ?hi11r5 (by kernel_rfl) (by kernel_rfl) (by kernel_rfl) (by kernel_rfl) (by decide) (by kernel_rfl) ?hQ11r5 ?hy11r5 (Below.drew (Below.refl _ _)) ?more11r5
     case hi11r5 => rw [List.getElem?_toArray]; exact rfl
     case hQ11r5 => exact fun _ _ _ h => h
     case hy11r5 =>
      refine Or.inl ⟨by rfl, ?_⟩
      intro w' hSw
      obtain ⟨sz, sg, sx0, sx1, sx2, sx3, sy0, sy1, sy2, sy3, sz0, sz1, sz2, sz3, sf⟩ := S2.out.call hSw
      obtain ⟨pz, p0, p1, p2, p3, p4, p5, p6, p7, p8⟩ := P2.out.call hSw
      obtain ⟨⟨o40, o41, o42, o43⟩, -, o4z⟩ := (Own4.call (O42.out) hSw).facts
      clear hSw
      go_simp
      try with_reducible rfl
     simp only [Act.put, List.setIfInBounds_toArray, List.set_cons_zero, List.set_cons_succ]
     refine wpAnyN_take (i := 12) (oi := ?o12r5) (v := ?v12r5) ?hi12r5 (by kernel_rfl) (by kernel_rfl) (by kernel_rfl) (by kernel_rfl) (by decide) (by kernel_rfl) ?hQ12r5 ?hy12r5 (Below.drew (Below.refl _ _)) ?more12r5
     case hi12r5 => rw [List.getElem?_toArray]; exact rfl
     case hQ12r5 => exact fun _ _ _ h => h
     case hy12r5 =>
      refine Or.inl ⟨by rfl, ?_⟩
      intro w' hSw
      obtain ⟨sz, sg, sx0, sx1, sx2, sx3, sy0, sy1, sy2, sy3, sz0, sz1, sz2, sz3, sf⟩ := S2.out.call hSw
      obtain ⟨pz, p0, p1, p2, p3, p4, p5, p6, p7, p8⟩ := P2.out.call hSw
      obtain ⟨⟨o40, o41, o42, o43⟩, -, o4z⟩ := (Own4.call (O42.out) hSw).facts
      clear hSw
      go_simp
      try with_reducible rfl
     simp only [Act.put, List.setIfInBounds_toArray, List.set_cons_zero, List.set_cons_succ]
     refine wpAnyN_take (i := 13) (oi := ?o13r5) (v := ?v13r5) ?hi13r5 (by kernel_rfl) (by kernel_rfl) (by kernel_rfl) (by kernel_rfl) (by decide) (by kernel_rfl) ?hQ13r5 ?hy13r5 (Below.drew (Below.refl _ _)) ?more13r5
     case hi13r5 => rw [List.getElem?_toArray]; exact rfl
     case hQ13r5 => exact fun _ _ _ h => h
     case hy13r5 =>
      refine Or.inl ⟨by rfl, ?_⟩
      intro w' hSw
      obtain ⟨sz, sg, sx0, sx1, sx2, sx3, sy0, sy1, sy2, sy3, sz0, sz1, sz2, sz3, sf⟩ := S2.out.call hSw
      obtain ⟨pz, p0, p1, p2, p3, p4, p5, p6, p7, p8⟩ := P2.out.call hSw
      obtain ⟨⟨o40, o41, o42, o43⟩, -, o4z⟩ := (Own4.call (O42.out) hSw).facts
      clear hSw
      go_simp
      try with_reducible rfl
     simp only [Act.put, List.setIfInBounds_toArray, List.set_cons_zero, List.set_cons_succ]
     refine wpAnyN_take (i := 14) (oi := ?o14r5) (v := ?v14r5) ?hi14r5 (by kernel_rfl) (by kernel_rfl) (by kernel_rfl) (by kernel_rfl) (by decide) (by kernel_rfl) ?hQ14r5 ?hy14r5 (Below.drew (Below.refl _ _)) ?more14r5
     case hi14r5 => rw [List.getElem?_toArray]; exact rfl
     case hQ14r5 => exact fun _ _ _ h => h
     case hy14r5 =>
      refine Or.inl ⟨by rfl, ?_⟩
      intro w' hSw
      obtain ⟨sz, sg, sx0, sx1, sx2, sx3, sy0, sy1, sy2, sy3, sz0, sz1, sz2, sz3, sf⟩ := S2.out.call hSw
      obtain ⟨pz, p0, p1, p2, p3, p4, p5, p6, p7, p8⟩ := P2.out.call hSw
      obtain ⟨⟨o40, o41, o42, o43⟩, -, o4z⟩ := (Own4.call (O42.out) hSw).facts
      clear hSw
      go_simp
      try with_reducible rfl
     simp only [Act.put, List.setIfInBounds_toArray, List.set_cons_zero, List.set_cons_succ]
     refine wpAnyN_take (i := 15) (oi := ?o15r5) (v := ?v15r5) ?hi15r5 (by kernel_rfl) (by kernel_rfl) (by kernel_rfl) (by kernel_rfl) (by decide) (by kernel_rfl) ?hQ15r5 ?hy15r5 (Below.drew (Below.refl _ _)) ?more15r5
     case hi15r5 => rw [List.getElem?_toArray]; exact rfl
     case hQ15r5 => exact fun _ _ _ h => h
     case hy15r5 =>
      refine Or.inl ⟨by rfl, ?_⟩
      intro w' hSw
      obtain ⟨sz, sg, sx0, sx1, sx2, sx3, sy0, sy1, sy2, sy3, sz0, sz1, sz2, sz3, sf⟩ := S2.out.call hSw
      obtain ⟨pz, p0, p1, p2, p3, p4, p5, p6, p7, p8⟩ := P2.out.call hSw
      obtain ⟨⟨o40, o41, o42, o43⟩, -, o4z⟩ := (Own4.call (O42.out) hSw).facts
      clear hSw
      go_simp
      try with_reducible rfl
     simp only [Act.put, List.setIfInBounds_toArray, List.set_cons_zero, List.set_cons_succ]
     refine wpAnyN_take (i := 16) (oi := ?o16r5) (v := ?v16r5) ?hi16r5 (by kernel_rfl) (by kernel_rfl) (by kernel_rfl) (by kernel_rfl) (by decide) (by kernel_rfl) ?hQ16r5 ?hy16r5 (Below.drew (Below.refl _ _)) ?more16r5
     case hi16r5 => rw [List.getElem?_toArray]; exact rfl
     case hQ16r5 => exact fun _ _ _ h => h
     case hy16r5 =>
      refine Or.inl ⟨by rfl, ?_⟩
      intro w' hSw
      obtain ⟨sz, sg, sx0, sx1, sx2, sx3, sy0, sy1, sy2, sy3, sz0, sz1, sz2, sz3, sf⟩ := S2.out.call hSw
      obtain ⟨pz, p0, p1, p2, p3, p4, p5, p6, p7, p8⟩ := P2.out.call hSw
      obtain ⟨⟨o40, o41, o42, o43⟩, -, o4z⟩ := (Own4.call (O42.out) hSw).facts
      clear hSw
      go_simp
      try with_reducible rfl
     simp only [Act.put, List.setIfInBounds_toArray, List.set_cons_zero, List.set_cons_succ]
     refine wpAnyN_take (i := 17) (oi := ?o17r5) (v := ?v17r5) ?hi17r5 (by kernel_rfl) (by kernel_rfl) (by kernel_rfl) (by kernel_rfl) (by decide) (by kernel_rfl) ?hQ17r5 ?hy17r5 (Below.drew (Below.refl _ _)) ?more17r5
     case hi17r5 => rw [List.getElem?_toArray]; exact rfl
     case hQ17r5 => exact fun _ _ _ h => h
     case hy17r5 =>
      refine Or.inl ⟨by rfl, ?_⟩
      intro w' hSw
      obtain ⟨sz, sg, sx0, sx1, sx2, sx3, sy0, sy1, sy2, sy3, sz0, sz1, sz2, sz3, sf⟩ := S2.out.call hSw
      obtain ⟨pz, p0, p1, p2, p3, p4, p5, p6, p7, p8⟩ := P2.out.call hSw
      obtain ⟨⟨o40, o41, o42, o43⟩, -, o4z⟩ := (Own4.call (O42.out) hSw).facts
      clear hSw
      go_simp
      try with_reducible rfl
     simp only [Act.put, List.setIfInBounds_toArray, List.set_cons_zero, List.set_cons_succ]
     refine wpAnyN_take (i := 18) (oi := ?o18r5) (v := ?v18r5) ?hi18r5 (by kernel_rfl) (by kernel_rfl) (by kernel_rfl) (by kernel_rfl) (by decide) (by kernel_rfl) ?hQ18r5 ?hy18r5 (Below.drew (Below.refl _ _)) ?more18r5
     case hi18r5 => rw [List.getElem?_toArray]; exact rfl
     case hQ18r5 => exact fun _ _ _ h => h
     case hy18r5 =>
      refine Or.inl ⟨by rfl, ?_⟩
      intro w' hSw
      obtain ⟨sz, sg, sx0, sx1, sx2, sx3, sy0, sy1, sy2, sy3, sz0, sz1, sz2, sz3, sf⟩ := S2.out.call hSw
      obtain ⟨pz, p0, p1, p2, p3, p4, p5, p6, p7, p8⟩ := P2.out.call hSw
      obtain ⟨⟨o40, o41, o42, o43⟩, -, o4z⟩ := (Own4.call (O42.out) hSw).facts
      clear hSw
      go_simp
      try with_reducible rfl
     simp only [Act.put, List.setIfInBounds_toArray, List.set_cons_zero, List.set_cons_succ]
     refine wpAnyN_take (i := 19) (oi := ?o19r5) (v := ?v19r5) ?hi19r5 (by kernel_rfl) (by kernel_rfl) (by kernel_rfl) (by kernel_rfl) (by decide) (by kernel_rfl) ?hQ19r5 ?hy19r5 (Below.drew (Below.refl _ _)) ?more19r5
     case hi19r5 => rw [List.getElem?_toArray]; exact rfl
     case hQ19r5 => exact fun _ _ _ h => h
     case hy19r5 =>
      refine Or.inl ⟨by rfl, ?_⟩
      intro w' hSw
      obtain ⟨sz, sg, sx0, sx1, sx2, sx3, sy0, sy1, sy2, sy3, sz0, sz1, sz2, sz3, sf⟩ := S2.out.call hSw
      obtain ⟨pz, p0, p1, p2, p3, p4, p5, p6, p7, p8⟩ := P2.out.call hSw
      obtain ⟨⟨o40, o41, o42, o43⟩, -, o4z⟩ := (Own4.call (O42.out) hSw).facts
      clear hSw
      go_simp
      try with_reducible rfl
     simp only [Act.put, List.setIfInBounds_toArray, List.set_cons_zero, List.set_cons_succ]
     refine wpAnyN_take (i := 20) (oi := ?o20r5) (v := ?v20r5) ?hi20r5 (by kernel_rfl) (by kernel_rfl) (by kernel_rfl) (by kernel_rfl) (by decide) (by kernel_rfl) ?hQ20r5 ?hy20r5 (Below.drew (Below.refl _ _)) ?more20r5
     case hi20r5 => rw [List.getElem?_toArray]; exact rfl
     case hQ20r5 => exact fun _ _ _ h => h
     case hy20r5 =>
      refine Or.inl ⟨by rfl, ?_⟩
      intro w' hSw
      obtain ⟨sz, sg, sx0, sx1, sx2, sx3, sy0, sy1, sy2, sy3, sz0, sz1, sz2, sz3, sf⟩ := S2.out.call hSw
      obtain ⟨pz, p0, p1, p2, p3, p4, p5, p6, p7, p8⟩ := P2.out.call hSw
      obtain ⟨⟨o40, o41, o42, o43⟩, -, o4z⟩ := (Own4.call (O42.out) hSw).facts
      clear hSw
      go_simp
      try with_reducible rfl
     simp only [Act.put, List.setIfInBounds_toArray, List.set_cons_zero, List.set_cons_succ]
     refine wpAnyN_take (i := 23) (oi := ?o23r5) (v := ?v23r5) ?hi23r5 (by kernel_rfl) (by kernel_rfl) (by kernel_rfl) (by kernel_rfl) (by decide) (by kernel_rfl) ?hQ23r5 ?hy23r5 (Below.drew (Below.refl _ _)) ?more23r5
     case hi23r5 => rw [List.getElem?_toArray]; exact rfl
     case hQ23r5 => exact fun _ _ _ h => h
     case hy23r5 =>
      refine Or.inl ⟨by rfl, ?_⟩
      intro w' hSw
      obtain ⟨sz, sg, sx0, sx1, sx2, sx3, sy0, sy1, sy2, sy3, sz0, sz1, sz2, sz3, sf⟩ := S2.out.call hSw
      obtain ⟨pz, p0, p1, p2, p3, p4, p5, p6, p7, p8⟩ := P2.out.call hSw
      obtain ⟨⟨o40, o41, o42, o43⟩, -, o4z⟩ := (Own4.call (O42.out) hSw).facts
      clear hSw
      go_simp
      try with_reducible rfl
     simp only [Act.put, List.setIfInBounds_toArray, List.set_cons_zero, List.set_cons_succ]
     refine wpAnyN_take (i := 24) (oi := ?o24r5) (v := ?v24r5) ?hi24r5 (by kernel_rfl) (by kernel_rfl) (by kernel_rfl) (by kernel_rfl) (by decide) (by kernel_rfl) ?hQ24r5 ?hy24r5 (Below.drew (Below.refl _ _)) ?more24r5
     case hi24r5 => rw [List.getElem?_toArray]; exact rfl
     case hQ24r5 => exact fun _ _ _ h => h
     case hy24r5 =>
      refine Or.inl ⟨by rfl, ?_⟩
      intro w' hSw
      obtain ⟨sz, sg, sx0, sx1, sx2, sx3, sy0, sy1, sy2, sy3, sz0, sz1, sz2, sz3, sf⟩ := S2.out.call hSw
      obtain ⟨pz, p0, p1, p2, p3, p4, p5, p6, p7, p8⟩ := P2.out.call hSw
      obtain ⟨⟨o40, o41, o42, o43⟩, -, o4z⟩ := (Own4.call (O42.out) hSw).facts
      clear hSw
      go_simp
      try with_reducible rfl
     simp only [Act.put, List.setIfInBounds_toArray, List.set_cons_zero, List.set_cons_succ]
     refine wpAnyN_take (i := 25) (oi := ?o25r5) (v := ?v25r5) ?hi25r5 (by kernel_rfl) (by kernel_rfl) (by kernel_rfl) (by kernel_rfl) (by decide) (by kernel_rfl) ?hQ25r5 ?hy25r5 (Below.drew (Below.refl _ _)) ?more25r5
     case hi25r5 => rw [List.getElem?_toArray]; exact rfl
     case hQ25r5 => exact fun _ _ _ h => h
     case hy25r5 =>
      refine Or.inl ⟨by rfl, ?_⟩
      intro w' hSw
      obtain ⟨sz, sg, sx0, sx1, sx2, sx3, sy0, sy1, sy2, sy3, sz0, sz1, sz2, sz3, sf⟩ := S2.out.call hSw
      obtain ⟨pz, p0, p1, p2, p3, p4, p5, p6, p7, p8⟩ := P2.out.call hSw
      obtain ⟨⟨o40, o41, o42, o43⟩, -, o4z⟩ := (Own4.call (O42.out) hSw).facts
      clear hSw
      go_simp
      try with_reducible rfl
     simp only [Act.put, List.setIfInBounds_toArray, List.set_cons_zero, List.set_cons_succ]
     refine wpAnyN_take (i := 26) (oi := ?o26r5) (v := ?v26r5) ?hi26r5 (by kernel_rfl) (by kernel_rfl) (by kernel_rfl) (by kernel_rfl) (by decide) (by kernel_rfl) ?hQ26r5 ?hy26r5 (Below.drew (Below.refl _ _)) ?more26r5
     case hi26r5 => rw [List.getElem?_toArray]; exact rfl
     case hQ26r5 => exact fun _ _ _ h => h
     case hy26r5 =>
      refine Or.inl ⟨by rfl, ?_⟩
      intro w' hSw
      obtain ⟨sz, sg, sx0, sx1, sx2, sx3, sy0, sy1, sy2, sy3, sz0, sz1, sz2, sz3, sf⟩ := S2.out.call hSw
      obtain ⟨pz, p0, p1, p2, p3, p4, p5, p6, p7, p8⟩ := P2.out.call hSw
      obtain ⟨⟨o40, o41, o42, o43⟩, -, o4z⟩ := (Own4.call (O42.out) hSw).facts
      clear hSw
      go_simp
      try with_reducible rfl
     simp only [Act.put, List.setIfInBounds_toArray, List.set_cons_zero, List.set_cons_succ]
     refine wpAnyN_two (i := 21) (j := 28) (o := ?o21r5x1) (p := ?o28r5x1) (by kernel_rfl) ?hi21r5x1 ?hi28r5x1 ?hw21r5x1 ?hw28r5x1 ?st21r5x1 ?st28r5x1
     case hi21r5x1 => rw [List.getElem?_toArray]; exact rfl
     case hw21r5x1 => exact rfl
     case hi28r5x1 => rw [List.getElem?_toArray]; exact rfl
     case hw28r5x1 => exact rfl
     case st21r5x1 =>
      intro K hK
      have HK21r5y2 : Hid _ := hK
      clear hK
      go_simp
      refine (K4.out _ (F2.out.call (Below.drew (Below.refl _ _)))).mono ?_
      rintro e w21r5y2 ⟨rfl, hq⟩
      have H21r5y2 : Hid (Below w2.heap.size w2 w21r5y2) := below_call0 (Below.drew (Below.refl _ _)) hq
      clear hq
      go_wp2_with fail
      refine HK21r5y2.out _ _ ⟨fun _ => H21r5y2.out, ?_⟩
      clear HK21r5y2 K
      try simp only [Act.put, List.setIfInBounds_toArray, List.set_cons_zero, List.set_cons_succ]
      refine wpAnyN_two (i := 22) (j := 28) (o := ?o22r5y2x3) (p := ?o28r5y2x3) (by kernel_rfl) ?hi22r5y2x3 ?hi28r5y2x3 ?hw22r5y2x3 ?hw28r5y2x3 ?st22r5y2x3 ?st28r5y2x3
      case hi22r5y2x3 => rw [List.getElem?_toArray]; exact rfl
      case hw22r5y2x3 => exact rfl
      case hi28r5y2x3 => rw [List.getElem?_toArray]; exact rfl
      case hw28r5y2x3 => exact rfl
      case st22r5y2x3 =>
       intro K hK
       have HK22r5y4 : Hid _ := hK
       clear hK
       go_simp
       refine (K5.out _ (F2.out.call H21r5y2.out)).mono ?_
       rintro e w22r5y4 ⟨rfl, hq⟩
       have H22r5y4 : Hid (Below w2.heap.size w2 w22r5y4) := below_call0 H21r5y2.out hq
       clear hq
       go_wp2_with fail
       refine HK22r5y4.out _ _ ⟨fun _ => H22r5y4.out, ?_⟩
       clear HK22r5y4 K
       try simp only [Act.put, List.setIfInBounds_toArray, List.set_cons_zero, List.set_cons_succ]
       refine wpAnyN_two (i := 27) (j := 28) (o := ?o27r5y4x5) (p := ?o28r5y4x5) (by kernel_rfl) ?hi27r5y4x5 ?hi28r5y4x5 ?hw27r5y4x5 ?hw28r5y4x5 ?st27r5y4x5 ?st28r5y4x5
       case hi27r5y4x5 => rw [List.getElem?_toArray]; exact rfl
       case hw27r5y4x5 => exact rfl
       case hi28r5y4x5 => rw [List.getElem?_toArray]; exact rfl
       case hw28r5y4x5 => exact rfl
       case st27r5y4x5 =>
        intro K hK
        have HK27r5y6 : Hid _ := hK
        clear hK
        go_simp
        refine (K6.out _ (F2.out.call H22r5y4.out)).mono ?_
        rintro e w27r5y6 ⟨rfl, hq⟩
        have H27r5y6 : Hid (Below w2.heap.size w2 w27r5y6) := below_call0 H22r5y4.out hq
        clear hq
        go_wp2_with fail
        refine HK27r5y6.out _ _ ⟨fun _ => H27r5y6.out, ?_⟩
        clear HK27r5y6 K
        try simp only [Act.put, List.setIfInBounds_toArray, List.set_cons_zero, List.set_cons_succ]
        refine wpAnyN_one (i := 28) (o := ?o28r5y6) (by kernel_rfl) ?hi28r5y6 ?hw28r5y6 ?st28r5y6
        case hi28r5y6 => rw [List.getElem?_toArray]; exact rfl
        case hw28r5y6 => exact rfl
        intro K hK
        have HK28r5y6 : Hid _ := hK
        clear hK
        go_simp
        refine HK28r5y6.out _ _ ⟨fun _ => (below_alloc0 H27r5y6.out _), ?_⟩
        clear HK28r5y6 K
        try simp only [Act.put, List.setIfInBounds_toArray, List.set_cons_zero, List.set_cons_succ]
        refine wpAnyN_one (i := 29) (o := ?o29r5y6) (by kernel_rfl) ?hi29r5y6 ?hw29r5y6 ?st29r5y6
        case hi29r5y6 => rw [List.getElem?_toArray]; exact rfl
        case hw29r5y6 => exact rfl
        intro K hK
        have HK29r5y6 : Hid _ := hK
        clear hK
        obtain ⟨⟨o0, o1, o2, o3⟩, ⟨f0, f1, f2, f3⟩, oz⟩ := Pend.facts (Pend.newC (W := w27r5y6) (t := 24) rfl)
        try simp only [World.size_alloc] at o0 o1 o2 o3 f0 f1 f2 f3 oz
        go_simp
        refine HK29r5y6.out _ _ ⟨fun h => absurd h (by decide +kernel), ?_⟩
        clear HK29r5y6 K
        try simp only [Act.put, List.setIfInBounds_toArray, List.set_cons_zero, List.set_cons_succ]
        refine wpAnyN_done (by kernel_rfl) ?_ _
        obtain ⟨wSr5y6, hwS⟩ : ∃ y, y = w27r5y6.alloc (.cells #[.int .u64 (limb U 0 : Nat), .int .u64 (limb U 1 : Nat), .int .u64 (limb U 2 : Nat), .int .u64 (limb U 3 : Nat)] 24) := ⟨_, rfl⟩
        have HSr5y6 : Hid (Own4 wSr5y6 (w27r5y6.heap.size) U ∧ Below w2.heap.size w2 wSr5y6) := by rw [hwS]; exact ⟨Own4.new' rfl, below_alloc0 H27r5y6.out _⟩
        rw [← hwS]
        clear hwS o0 o1 o2 o3 f0 f1 f2 f3 oz
        go_wp2_with fail
        go_meet
        exact ⟨_, rfl, (Below.size H27r5y6.out), HSr5y6.out.1, HSr5y6.out.2⟩
       case st28r5y4x5 =>
        intro K hK
        have HK28r5y7 : Hid _ := hK
        clear hK
        go_simp
        refine HK28r5y7.out _ _ ⟨fun _ => (below_alloc0 H22r5y4.out _), ?_⟩
        clear HK28r5y7 K
        try simp only [Act.put, List.setIfInBounds_toArray, List.set_cons_zero, List.set_cons_succ]
        refine wpAnyN_one (i := 27) (o := ?o27r5y7) (by kernel_rfl) ?hi27r5y7 ?hw27r5y7 ?st27r5y7
        case hi27r5y7 => rw [List.getElem?_toArray]; exact rfl
        case hw27r5y7 => exact rfl
        intro K hK
        have HK27r5y7 : Hid _ := hK
        clear hK
        go_simp
        refine (K6.out _ (F2.out.call (below_alloc0 H22r5y4.out _))).mono ?_
        rintro e w27r5y7 ⟨rfl, hq⟩
        have H27r5y7 : Hid (Below w2.heap.size w2 w27r5y7) := below_call0 (below_alloc0 H22r5y4.out _) hq
        have P27r5y7 : Hid (Pend w27r5y7 (w22r5y4.heap.size)) := Pend.call (Pend.newC (W := w22r5y4) (t := 24) rfl) hq
        clear hq
        go_wp2_with fail
        refine HK27r5y7.out _ _ ⟨fun _ => H27r5y7.out, ?_⟩
        clear HK27r5y7 K
        try simp only [Act.put, List.setIfInBounds_toArray, List.set_cons_zero, List.set_cons_succ]
        refine wpAnyN_one (i := 29) (o := ?o29r5y7) (by kernel_rfl) ?hi29r5y7 ?hw29r5y7 ?st29r5y7
        case hi29r5y7 => rw [List.getElem?_toArray]; exact rfl
        case hw29r5y7 => exact rfl
        intro K hK
        have HK29r5y7 : Hid _ := hK
        clear hK
        obtain ⟨⟨o0, o1, o2, o3⟩, ⟨f0, f1, f2, f3⟩, oz⟩ := Pend.facts P27r5y7.out
        try simp only [World.size_alloc] at o0 o1 o2 o3 f0 f1 f2 f3 oz
        go_simp
        refine HK29r5y7.out _ _ ⟨fun h => absurd h (by decide +kernel), ?_⟩
        clear HK29r5y7 K
        try simp only [Act.put, List.setIfInBounds_toArray, List.set_cons_zero, List.set_cons_succ]
        refine wpAnyN_done (by kernel_rfl) ?_ _
        obtain ⟨wSr5y7, hwS⟩ : ∃ y, y = ((((w27r5y7.setCell ⟨w22r5y4.heap.size, 0, none⟩ (.int .u64 (limb U 0 : Nat))).setCell ⟨w22r5y4.heap.size, 1, none⟩ (.int .u64 (limb U 1 : Nat))).setCell ⟨w22r5y4.heap.size, 2, none⟩ (.int .u64 (limb U 2 : Nat))).setCell ⟨w22r5y4.heap.size, 3, none⟩ (.int .u64 (limb U 3 : Nat))) := ⟨_, rfl⟩
        have HSr5y7 : Hid (Own4 wSr5y7 (w22r5y4.heap.size) U ∧ Below w2.heap.size w2 wSr5y7) := by rw [hwS]; exact ⟨Pend.own P27r5y7.out, Below.setCell (Below.setCell (Below.setCell (Below.setCell H27r5y7.out (Below.size H22r5y4.out) _) (Below.size H22r5y4.out) _) (Below.size H22r5y4.out) _) (Below.size H22r5y4.out) _⟩
        rw [← hwS]
        clear hwS o0 o1 o2 o3 f0 f1 f2 f3 oz
        go_wp2_with fail
        go_meet
        exact ⟨_, rfl, (Below.size H22r5y4.out), HSr5y7.out.1, HSr5y7.out.2⟩
      case st28r5y2x3 =>
       intro K hK
       have HK28r5y8 : Hid _ := hK
       clear hK
       go_simp
       refine HK28r5y8.out _ _ ⟨fun _ => (below_alloc0 H21r5y2.out _), ?_⟩
       clear HK28r5y8 K
       try simp only [Act.put, List.setIfInBounds_toArray, List.set_cons_zero, List.set_cons_succ]
       refine wpAnyN_one (i := 22) (o := ?o22r5y8) (by kernel_rfl) ?hi22r5y8 ?hw22r5y8 ?st22r5y8
       case hi22r5y8 => rw [List.getElem?_toArray]; exact rfl
       case hw22r5y8 => exact rfl
       intro K hK
       have HK22r5y8 : Hid _ := hK
       clear hK
       go_simp
       refine (K5.out _ (F2.out.call (below_alloc0 H21r5y2.out _))).mono ?_
       rintro e w22r5y8 ⟨rfl, hq⟩
       have H22r5y8 : Hid (Below w2.heap.size w2 w22r5y8) := below_call0 (below_alloc0 H21r5y2.out _) hq
       have P22r5y8 : Hid (Pend w22r5y8 (w21r5y2.heap.size)) := Pend.call (Pend.newC (W := w21r5y2) (t := 24) rfl) hq
       clear hq
       go_wp2_with fail
       refine HK22r5y8.out _ _ ⟨fun _ => H22r5y8.out, ?_⟩
       clear HK22r5y8 K
       try simp only [Act.put, List.setIfInBounds_toArray, List.set_cons_zero, List.set_cons_succ]
       refine wpAnyN_one (i := 27) (o := ?o27r5y8) (by kernel_rfl) ?hi27r5y8 ?hw27r5y8 ?st27r5y8
       case hi27r5y8 => rw [List.getElem?_toArray]; exact rfl
       case hw27r5y8 => exact rfl
       intro K hK
       have HK27r5y8 : Hid _ := hK
       clear hK
       go_simp
       refine (K6.out _ (F2.out.call H22r5y8.out)).mono ?_
       rintro e w27r5y8 ⟨rfl, hq⟩
       have H27r5y8 : Hid (Below w2.heap.size w2 w27r5y8) := below_call0 H22r5y8.out hq
       have P27r5y8 : Hid (Pend w27r5y8 (w21r5y2.heap.size)) := Pend.call P22r5y8.out hq
       clear hq
       go_wp2_with fail
       refine HK27r5y8.out _ _ ⟨fun _ => H27r5y8.out, ?_⟩
       clear HK27r5y8 K
       try simp only [Act.put, List.setIfInBounds_toArray, List.set_cons_zero, List.set_cons_succ]
       refine wpAnyN_one (i := 29) (o := ?o29r5y8) (by kernel_rfl) ?hi29r5y8 ?hw29r5y8 ?st29r5y8
       case hi29r5y8 => rw [List.getElem?_toArray]; exact rfl
       case hw29r5y8 => exact rfl
       intro K hK
       have HK29r5y8 : Hid _ := hK
       clear hK
       obtain ⟨⟨o0, o1, o2, o3⟩, ⟨f0, f1, f2, f3⟩, oz⟩ := Pend.facts P27r5y8.out
       try simp only [World.size_alloc] at o0 o1 o2 o3 f0 f1 f2 f3 oz
       go_simp
       refine HK29r5y8.out _ _ ⟨fun h => absurd h (by decide +kernel), ?_⟩
       clear HK29r5y8 K
       try simp only [Act.put, List.setIfInBounds_toArray, List.set_cons_zero, List.set_cons_succ]
       refine wpAnyN_done (by kernel_rfl) ?_ _
       obtain ⟨wSr5y8, hwS⟩ : ∃ y, y = ((((w27r5y8.setCell ⟨w21r5y2.heap.size, 0, none⟩ (.int .u64 (limb U 0 : Nat))).setCell ⟨w21r5y2.heap.size, 1, none⟩ (.int .u64 (limb U 1 : Nat))).setCell ⟨w21r5y2.heap.size, 2, none⟩ (.int .u64 (limb U 2 : Nat))).setCell ⟨w21r5y2.heap.size, 3, none⟩ (.int .u64 (limb U 3 : Nat))) := ⟨_, rfl⟩
       have HSr5y8 : Hid (Own4 wSr5y8 (w21r5y2.heap.size) U ∧ Below w2.heap.size w2 wSr5y8) := by rw [hwS]; exact ⟨Pend.own P27r5y8.out, Below.setCell (Below.setCell (Below.setCell (Below.setCell H27r5y8.out (Below.size H21r5y2.out) _) (Below.size H21r5y2.out) _) (Below.size H21r5y2.out) _) (Below.size H21r5y2.out) _⟩
       rw [← hwS]
       clear hwS o0 o1 o2 o3 f0 f1 f2 f3 oz
       go_wp2_with fail
       go_meet
       exact ⟨_, rfl, (Below.size H21r5y2.out), HSr5y8.out.1, HSr5y8.out.2⟩
     case st28r5x1 =>
      intro K hK
      have HK28r5y9 : Hid _ := hK
      clear hK
      go_simp
      refine HK28r5y9.out _ _ ⟨fun _ => (below_alloc0 (Below.drew (Below.refl _ _)) _), ?_⟩
      clear HK28r5y9 K
      try simp only [Act.put, List.setIfInBounds_toArray, List.set_cons_zero, List.set_cons_succ]
      refine wpAnyN_one (i := 21) (o := ?o21r5y9) (by kernel_rfl) ?hi21r5y9 ?hw21r5y9 ?st21r5y9
      case hi21r5y9 => rw [List.getElem?_toArray]; exact rfl
      case hw21r5y9 => exact rfl
      intro K hK
      have HK21r5y9 : Hid _ := hK
      clear hK
      go_simp
      refine (K4.out _ (F2.out.call (below_alloc0 (Below.drew (Below.refl _ _)) _))).mono ?_
      rintro e w21r5y9 ⟨rfl, hq⟩
      have H21r5y9 : Hid (Below w2.heap.size w2 w21r5y9) := below_call0 (below_alloc0 (Below.drew (Below.refl _ _)) _) hq
      have P21r5y9 : Hid (Pend w21r5y9 (w2.heap.size)) := Pend.call (Pend.newC (W := w2.drew) (t := 24) rfl) hq
      clear hq
      go_wp2_with fail
      refine HK21r5y9.out _ _ ⟨fun _ => H21r5y9.out, ?_⟩
      clear HK21r5y9 K
      try simp only [Act.put, List.setIfInBounds_toArray, List.set_cons_zero, List.set_cons_succ]
      refine wpAnyN_one (i := 22) (o := ?o22r5y9) (by kernel_rfl) ?hi22r5y9 ?hw22r5y9 ?st22r5y9
      case hi22r5y9 => rw [List.getElem?_toArray]; exact rfl
      case hw22r5y9 => exact rfl
      intro K hK
      have HK22r5y9 : Hid _ := hK
      clear hK
      go_simp
      refine (K5.out _ (F2.out.call H21r5y9.out)).mono ?_
      rintro e w22r5y9 ⟨rfl, hq⟩
      have H22r5y9 : Hid (Below w2.heap.size w2 w22r5y9) := below_call0 H21r5y9.out hq
      have P22r5y9 : Hid (Pend w22r5y9 (w2.heap.size)) := Pend.call P21r5y9.out hq
      clear hq
      go_wp2_with fail
      refine HK22r5y9.out _ _ ⟨fun _ => H22r5y9.out, ?_⟩
      clear HK22r5y9 K
      try simp only [Act.put, List.setIfInBounds_toArray, List.set_cons_zero, List.set_cons_succ]
      refine wpAnyN_one (i := 27) (o := ?o27r5y9) (by kernel_rfl) ?hi27r5y9 ?hw27r5y9 ?st27r5y9
      case hi27r5y9 => rw [List.getElem?_toArray]; exact rfl
      case hw27r5y9 => exact rfl
      intro K hK
      have HK27r5y9 : Hid _ := hK
      clear hK
      go_simp
      refine (K6.out _ (F2.out.call H22r5y9.out)).mono ?_
      rintro e w27r5y9 ⟨rfl, hq⟩
      have H27r5y9 : Hid (Below w2.heap.size w2 w27r5y9) := below_call0 H22r5y9.out hq
      have P27r5y9 : Hid (Pend w27r5y9 (w2.heap.size)) := Pend.call P22r5y9.out hq
      clear hq
      go_wp2_with fail
      refine HK27r5y9.out _ _ ⟨fun _ => H27r5y9.out, ?_⟩
      clear HK27r5y9 K
      try simp only [Act.put, List.setIfInBounds_toArray, List.set_cons_zero, List.set_cons_succ]
      refine wpAnyN_one (i := 29) (o := ?o29r5y9) (by kernel_rfl) ?hi29r5y9 ?hw29r5y9 ?st29r5y9
      case hi29r5y9 => rw [List.getElem?_toArray]; exact rfl
      case hw29r5y9 => exact rfl
      intro K hK
      have HK29r5y9 : Hid _ := hK
      clear hK
      obtain ⟨⟨o0, o1, o2, o3⟩, ⟨f0, f1, f2, f3⟩, oz⟩ := Pend.facts P27r5y9.out
      try simp only [World.size_alloc] at o0 o1 o2 o3 f0 f1 f2 f3 oz
      go_simp
      refine HK29r5y9.out _ _ ⟨fun h => absurd h (by decide +kernel), ?_⟩
      clear HK29r5y9 K
      try simp only [Act.put, List.setIfInBounds_toArray, List.set_cons_zero, List.set_cons_succ]
      refine wpAnyN_done (by kernel_rfl) ?_ _
      obtain ⟨wSr5y9, hwS⟩ : ∃ y, y = ((((w27r5y9.setCell ⟨w2.heap.size, 0, none⟩ (.int .u64 (limb U 0 : Nat))).setCell ⟨w2.heap.size, 1, none⟩ (.int .u64 (limb U 1 : Nat))).setCell ⟨w2.heap.size, 2, none⟩ (.int .u64 (limb U 2 : Nat))).setCell ⟨w2.heap.size, 3, none⟩ (.int .u64 (limb U 3 : Nat))) := ⟨_, rfl⟩
      have HSr5y9 : Hid (Own4 wSr5y9 (w2.heap.size) U ∧ Below w2.heap.size w2 wSr5y9) := by rw [hwS]; exact ⟨Pend.own P27r5y9.out, Below.setCell (Below.setCell (Below.setCell (Below.setCell H27r5y9.out (Nat.le_refl _) _) (Nat.le_refl _) _) (Nat.le_refl _) _) (Nat.le_refl _) _⟩
      rw [← hwS]
      clear hwS o0 o1 o2 o3 f0 f1 f2 f3 oz
      go_wp2_with fail
      go_meet
      exact ⟨_, rfl, (Nat.le_refl _), HSr5y9.out.1, HSr5y9.out.2⟩
   case rest =>
    obtain ⟨b6, rfl, hle, hO, hB⟩ := hcut
    have F3 : Hid (FieldB wc g PP) := F2.out.call hB
    have S3 : Hid (SpotB wc s g x y z) := S2.out.call hB
    have P3 : Hid (PointB wc b o px py false) := P2.out.call hB
    have W3 : Hid (Below w.heap.size w wc) := below_call0 W2.out hB
    have O43 : Hid (Own4 wc b4 sq) := O42.out.call hB
    have O53 : Hid (Own4 wc b5 A) := O52.out.call hB
    have NE6 : Hid (s ≠ b6) := Nat.ne_of_lt (Nat.lt_of_lt_of_le HZ.out.2 (Nat.le_trans W2.out.size hle))
    have O63 : Hid (Own4 wc b6 U) := hO
    clear hO hB hle F2 S2 P2 W2 O42 O52
    clear P3 O43
    generalize wc = w3 at F3 S3 W3 O53 O63 ⊢
    obtain ⟨⟨t0, t1, t2, t3⟩, -, tz⟩ := (O53.out).facts
    go_upto_region 8 with fail
    clear t0 t1 t2 t3 tz e1
    go_upto_region 8 with fail
    go_cut [7] (fun v wx => ∃ b7, v = .pointer (some ⟨b7, 0, none⟩) ∧ w3.heap.size ≤ b7 ∧ Own4 wx b7 a2 ∧ Below w3.heap.size w3 wx)
    case first =>
     as_aux_lemma =>
      refine wp_region_N (fun w' => Below w3.heap.size w3 w') 8 9 rfl (by kernel_rfl) ?_
      refine wpAnyN_take (i := 0) (oi := ?o0r8) (v := ?v0r8) ?hi0r8 (by kernel_rfl) (by kernel_rfl) (by kernel_rfl) (by kernel_rfl) (by decide) (by kernel_rfl) ?hQ0r8 ?hy0r8 (Below.drew (Below.refl _ _)) ?more0r8
      case hi0r8 => rw [List.getElem?_toArray]; exact rfl
      case hQ0r8 => exact fun _ _ _ h => h
      case hy0r8 =>
       refine Or.inl ⟨by rfl, ?_⟩
       intro w' hSw
       obtain ⟨sz, sg, sx0, sx1, sx2, sx3, sy0, sy1, sy2, sy3, sz0, sz1, sz2, sz3, sf⟩ := S3.out.call hSw
       obtain ⟨⟨o50, o51, o52, o53⟩, -, o5z⟩ := (Own4.call (O53.out) hSw).facts
       clear hSw
       go_simp
       try with_reducible rfl
      simp only [Act.put, List.setIfInBounds_toArray, List.set_cons_zero, List.set_cons_succ]
      refine wpAnyN_take (i := 1) (oi := ?o1r8) (v := ?v1r8) ?hi1r8 (by kernel_rfl) (by kernel_rfl) (by kernel_rfl) (by kernel_rfl) (by decide) (by kernel_rfl) ?hQ1r8 ?hy1r8 (Below.drew (Below.refl _ _)) ?more1r8
      case hi1r8 => rw [List.getElem?_toArray]; exact rfl
      case hQ1r8 => exact fun _ _ _ h => h
      case hy1r8 =>
       refine Or.inl ⟨by rfl, ?_⟩
       intro w' hSw
       obtain ⟨sz, sg, sx0, sx1, sx2, sx3, sy0, sy1, sy2, sy3, sz0, sz1, sz2, sz3, sf⟩ := S3.out.call hSw
       obtain ⟨⟨o50, o51, o52, o53⟩, -, o5z⟩ := (Own4.call (O53.out) hSw).facts
       clear hSw
       go_simp
       try with_reducible rfl
      simp only [Act.put, List.setIfInBounds_toArray, List.set_cons_zero, List.set_cons_succ]
      refine wpAnyN_take (i := 2) (oi := ?o2r8) (v := ?v2r8) ?hi2r8 (by kernel_rfl) (by kernel_rfl) (by kernel_rfl) (by kernel_rfl) (by decide) (by kernel_rfl) ?hQ2r8 ?hy2r8 (Below.drew (Below.refl _ _)) ?more2r8
      case hi2r8 => rw [List.getElem?_toArray]; exact rfl
      case hQ2r8 => exact fun _ _ _ h => h
      case hy2r8 =>
       refine Or.inl ⟨by rfl, ?_⟩
       intro w' hSw
       obtain ⟨sz, sg, sx0, sx1, sx2, sx3, sy0, sy1, sy2, sy3, sz0, sz1, sz2, sz3, sf⟩ := S3.out.call hSw
       obtain ⟨⟨o50, o51, o52, o53⟩, -, o5z⟩ := (Own4.call (O53.out) hSw).facts
       clear hSw
       go_simp
       try with_reducible rfl
      simp only [Act.put, List.setIfInBounds_toArray, List.set_cons_zero, List.set_cons_succ]
      refine wpAnyN_take (i := 3) (oi := ?o3r8) (v := ?v3r8) ?hi3r8 (by kernel_rfl) (by kernel_rfl) (by kernel_rfl) (by kernel_rfl) (by decide) (by kernel_rfl) ?hQ3r8 ?hy3r8 (Below.drew (Below.refl _ _)) ?more3r8
      case hi3r8 => rw [List.getElem?_toArray]; exact rfl
      case hQ3r8 => exact fun _ _ _ h => h
      case hy3r8 =>
       refine Or.inl ⟨by rfl, ?_⟩
       intro w' hSw
       obtain ⟨sz, sg, sx0, sx1, sx2, sx3, sy0, sy1, sy2, sy3, sz0, sz1, sz2, sz3, sf⟩ := S3.out.call hSw
       obtain ⟨⟨o50, o51, o52, o53⟩, -, o5z⟩ := (Own4.call (O53.out) hSw).facts
       clear hSw
       go_simp
       try with_reducible rfl
      simp only [Act.put, List.setIfInBounds_toArray, List.set_cons_zero, List.set_cons_succ]
      refine wpAnyN_take (i := 4) (oi := ?o4r8) (v := ?v4r8) ?hi4r8 (by kernel_rfl) (by kernel_rfl) (by kernel_rfl) (by kernel_rfl) (by decide) (by kernel_rfl) ?hQ4r8 ?hy4r8 (Below.drew (Below.refl _ _)) ?more4r8
      case hi4r8 => rw [List.getElem?_toArray]; exact rfl
      case hQ4r8 => exact fun _ _ _ h => h
      case hy4r8 =>
       refine Or.inl ⟨by rfl, ?_⟩
       intro w' hSw
       obtain ⟨sz, sg, sx0, sx1, sx2, sx3, sy0, sy1, sy2, sy3, sz0, sz1, sz2, sz3, sf⟩ := S3.out.call hSw
       obtain ⟨⟨o50, o51, o52, o53⟩, -, o5z⟩ := (Own4.call (O53.out) hSw).facts
       clear hSw
       go_simp
       try with_reducible rfl
      simp only [Act.put, List.setIfInBounds_toArray, List.set_cons_zero, List.set_cons_succ]
      refine wpAnyN_take (i := 5) (oi := ?o5r8) (v := ?v5r8) ?hi5r8 (by kernel_rfl) (by kernel_rfl) (by kernel_rfl) (by kernel_rfl) (by decide) (by kernel_rfl) ?hQ5r8 ?hy5r8 (Below.drew (Below.refl _ _)) ?more5r8
      case hi5r8 => rw [List.getElem?_toArray]; exact rfl
      case hQ5r8 => exact fun _ _ _ h => h
      case hy5r8 =>
       refine Or.inl ⟨by rfl, ?_⟩
       intro w' hSw
       obtain ⟨sz, sg, sx0, sx1, sx2, sx3, sy0, sy1, sy2, sy3, sz0, sz1, sz2, sz3, sf⟩ := S3.out.call hSw
       obtain ⟨⟨o50, o51, o52, o53⟩, -, o5z⟩ := (Own4.call (O53.out) hSw).facts
       clear hSw
       go_simp
       try with_reducible rfl
      simp only [Act.put, List.setIfInBounds_toArray, List.set_cons_zero, List.set_cons_succ]
      refine wpAnyN_two (i := 6) (j := 7) (o := ?o6r8x1) (p := ?o7r8x1) (by kernel_rfl) ?hi6r8x1 ?hi7r8x1 ?hw6r8x1 ?hw7r8x1 ?st6r8x1 ?st7r8x1
      case hi6r8x1 => rw [List.getElem?_toArray]; exact rfl
      case hw6r8x1 => exact rfl
      case hi7r8x1 => rw [List.getElem?_toArray]; exact rfl
      case hw7r8x1 => exact rfl
      case st6r8x1 =>
       intro K hK
       have HK6r8y2 : Hid _ := hK
       clear hK
       go_simp
       refine (K7.out _ (F3.out.call (Below.drew (Below.refl _ _)))).mono ?_
       rintro e w6r8y2 ⟨rfl, hq⟩
       have H6r8y2 : Hid (Below w3.heap.size w3 w6r8y2) := below_call0 (Below.drew (Below.refl _ _)) hq
       clear hq
       go_wp2_with fail
       refine HK6r8y2.out _ _ ⟨fun _ => H6r8y2.out, ?_⟩
       clear HK6r8y2 K
       try simp only [Act.put, List.setIfInBounds_toArray, List.set_cons_zero, List.set_cons_succ]
       refine wpAnyN_one (i := 7) (o := ?o7r8y2) (by kernel_rfl) ?hi7r8y2 ?hw7r8y2 ?st7r8y2
       case hi7r8y2 => rw [List.getElem?_toArray]; exact rfl
       case hw7r8y2 => exact rfl
       intro K hK
       have HK7r8y2 : Hid _ := hK
       clear hK
       go_simp
       refine HK7r8y2.out _ _ ⟨fun _ => (below_alloc0 H6r8y2.out _), ?_⟩
       clear HK7r8y2 K
       try simp only [Act.put, List.setIfInBounds_toArray, List.set_cons_zero, List.set_cons_succ]
       refine wpAnyN_one (i := 8) (o := ?o8r8y2) (by kernel_rfl) ?hi8r8y2 ?hw8r8y2 ?st8r8y2
       case hi8r8y2 => rw [List.getElem?_toArray]; exact rfl
       case hw8r8y2 => exact rfl
       intro K hK
       have HK8r8y2 : Hid _ := hK
       clear hK
       obtain ⟨⟨o0, o1, o2, o3⟩, ⟨f0, f1, f2, f3⟩, oz⟩ := Pend.facts (Pend.newC (W := w6r8y2) (t := 24) rfl)
       try simp only [World.size_alloc] at o0 o1 o2 o3 f0 f1 f2 f3 oz
       go_simp
       refine HK8r8y2.out _ _ ⟨fun h => absurd h (by decide +kernel), ?_⟩
       clear HK8r8y2 K
       try simp only [Act.put, List.setIfInBounds_toArray, List.set_cons_zero, List.set_cons_succ]
       refine wpAnyN_done (by kernel_rfl) ?_ _
       obtain ⟨wSr8y2, hwS⟩ : ∃ y, y = w6r8y2.alloc (.cells #[.int .u64 (limb a2 0 : Nat), .int .u64 (limb a2 1 : Nat), .int .u64 (limb a2 2 : Nat), .int .u64 (limb a2 3 : Nat)] 24) := ⟨_, rfl⟩
       have HSr8y2 : Hid (Own4 wSr8y2 (w6r8y2.heap.size) a2 ∧ Below w3.heap.size w3 wSr8y2) := by rw [hwS]; exact ⟨Own4.new' rfl, below_alloc0 H6r8y2.out _⟩
       rw [← hwS]
       clear hwS o0 o1 o2 o3 f0 f1 f2 f3 oz
       go_wp2_with fail
       go_meet
       exact ⟨_, rfl, (Below.size H6r8y2.out), HSr8y2.out.1, HSr8y2.out.2⟩
      case st7r8x1 =>
       intro K hK
       have HK7r8y3 : Hid _ := hK
       clear hK
       go_simp
       refine HK7r8y3.out _ _ ⟨fun _ => (below_alloc0 (Below.drew (Below.refl _ _)) _), ?_⟩
       clear HK7r8y3 K
       try simp only [Act.put, List.setIfInBounds_toArray, List.set_cons_zero, List.set_cons_succ]
       refine wpAnyN_one (i := 6) (o := ?o6r8y3) (by kernel_rfl) ?hi6r8y3 ?hw6r8y3 ?st6r8y3
       case hi6r8y3 => rw [List.getElem?_toArray]; exact rfl
       case hw6r8y3 => exact rfl
       intro K hK
       have HK6r8y3 : Hid _ := hK
       clear hK
       go_simp
       refine (K7.out _ (F3.out.call (below_alloc0 (Below.drew (Below.refl _ _)) _))).mono ?_
       rintro e w6r8y3 ⟨rfl, hq⟩
       have H6r8y3 : Hid (Below w3.heap.size w3 w6r8y3) := below_call0 (below_alloc0 (Below.drew (Below.refl _ _)) _) hq
       have P6r8y3 : Hid (Pend w6r8y3 (w3.heap.size)) := Pend.call (Pend.newC (W := w3.drew) (t := 24) rfl) hq
       clear hq
       go_wp2_with fail
       refine HK6r8y3.out _ _ ⟨fun _ => H6r8y3.out, ?_⟩
       clear HK6r8y3 K
       try simp only [Act.put, List.setIfInBounds_toArray, List.set_cons_zero, List.set_cons_succ]
       refine wpAnyN_one (i := 8) (o := ?o8r8y3) (by kernel_rfl) ?hi8r8y3 ?hw8r8y3 ?st8r8y3
       case hi8r8y3 => rw [List.getElem?_toArray]; exact rfl
       case hw8r8y3 => exact rfl
       intro K hK
       have HK8r8y3 : Hid _ := hK
       clear hK
       obtain ⟨⟨o0, o1, o2, o3⟩, ⟨f0, f1, f2, f3⟩, oz⟩ := Pend.facts P6r8y3.out
       try simp only [World.size_alloc] at o0 o1 o2 o3 f0 f1 f2 f3 oz
       go_simp
       refine HK8r8y3.out _ _ ⟨fun h => absurd h (by decide +kernel), ?_⟩
       clear HK8r8y3 K
       try simp only [Act.put, List.setIfInBounds_toArray, List.set_cons_zero, List.set_cons_succ]
       refine wpAnyN_done (by kernel_rfl) ?_ _
       obtain ⟨wSr8y3, hwS⟩ : ∃ y, y = ((((w6r8y3.setCell ⟨w3.heap.size, 0, none⟩ (.int .u64 (limb a2 0 : Nat))).setCell ⟨w3.heap.size, 1, none⟩ (.int .u64 (limb a2 1 : Nat))).setCell ⟨w3.heap.size, 2, none⟩ (.int .u64 (limb a2 2 : Nat))).setCell ⟨w3.heap.size, 3, none⟩ (.int .u64 (limb a2 3 : Nat))) := ⟨_, rfl⟩
       have HSr8y3 : Hid (Own4 wSr8y3 (w3.heap.size) a2 ∧ Below w3.heap.size w3 wSr8y3) := by rw [hwS]; exact ⟨Pend.own P6r8y3.out, Below.setCell (Below.setCell (Below.setCell (Below.setCell H6r8y3.out (Nat.le_refl _) _) (Nat.le_refl _) _) (Nat.le_refl _) _) (Nat.le_refl _) _⟩
       rw [← hwS]
       clear hwS o0 o1 o2 o3 f0 f1 f2 f3 oz
       go_wp2_with fail
       go_meet
       exact ⟨_, rfl, (Nat.le_refl _), HSr8y3.out.1, HSr8y3.out.2⟩
    case rest =>
     obtain ⟨b7, rfl, hle, hO, hB⟩ := hcut
     have F4 : Hid (FieldB wc g PP) := F3.out.call hB
     have S4 : Hid (SpotB wc s g x y z) := S3.out.call hB
     have W4 : Hid (Below w.heap.size w wc) := below_call0 W3.out hB
     have O54 : Hid (Own4 wc b5 A) := O53.out.call hB
     have O64 : Hid (Own4 wc b6 U) := O63.out.call hB
     have NE7 : Hid (s ≠ b7) := Nat.ne_of_lt (Nat.lt_of_lt_of_le HZ.out.2 (Nat.le_trans W3.out.size hle))
     have O74 : Hid (Own4 wc b7 a2) := hO
     clear hO hB hle F3 S3 W3 O53 O63
     generalize wc = w4 at F4 S4 W4 O54 O64 O74 ⊢
     go_upto_region 9 with fail
     go_cut [8] (fun v wx => ∃ b8, v = .pointer (some ⟨b8, 0, none⟩) ∧ w4.heap.size ≤ b8 ∧ Own4 wx b8 a3 ∧ Below w4.heap.size w4 wx)
     case first =>
      as_aux_lemma =>
       refine wp_region_N (fun w' => Below w4.heap.size w4 w') 8 9 rfl (by kernel_rfl) ?_
       refine wpAnyN_take (i := 0) (oi := ?o0r9) (v := ?v0r9) ?hi0r9 (by kernel_rfl) (by kernel_rfl) (by kernel_rfl) (by kernel_rfl) (by decide) (by kernel_rfl) ?hQ0r9 ?hy0r9 (Below.drew (Below.refl _ _)) ?more0r9
       case hi0r9 => rw [List.getElem?_toArray]; exact rfl
       case hQ0r9 => exact fun _ _ _ h => h
       case hy0r9 =>
        refine Or.inl ⟨by rfl, ?_⟩
        intro w' hSw
        obtain ⟨sz, sg, sx0, sx1, sx2, sx3, sy0, sy1, sy2, sy3, sz0, sz1, sz2, sz3, sf⟩ := S4.out.call hSw
        obtain ⟨⟨o50, o51, o52, o53⟩, -, o5z⟩ := (Own4.call (O54.out) hSw).facts
        obtain ⟨⟨o70, o71, o72, o73⟩, -, o7z⟩ := (Own4.call (O74.out) hSw).facts
        clear hSw
        go_simp
        try with_reducible rfl
       simp only [Act.put, List.setIfInBounds_toArray, List.set_cons_zero, List.set_cons_succ]
       refine wpAnyN_take (i := 1) (oi := ?o1r9) (v := ?v1r9) ?hi1r9 (by kernel_rfl) (by kernel_rfl) (by kernel_rfl) (by kernel_rfl) (by decide) (by kernel_rfl) ?hQ1r9 ?hy1r9 (Below.drew (Below.refl _ _)) ?more1r9
       case hi1r9 => rw [List.getElem?_toArray]; exact rfl
       case hQ1r9 => exact fun _ _ _ h => h
       case hy1r9 =>
        refine Or.inl ⟨by rfl, ?_⟩
        intro w' hSw
        obtain ⟨sz, sg, sx0, sx1, sx2, sx3, sy0, sy1, sy2, sy3, sz0, sz1, sz2, sz3, sf⟩ := S4.out.call hSw
        obtain ⟨⟨o50, o51, o52, o53⟩, -, o5z⟩ := (Own4.call (O54.out) hSw).facts
        obtain ⟨⟨o70, o71, o72, o73⟩, -, o7z⟩ := (Own4.call (O74.out) hSw).facts
        clear hSw
        go_simp
        try with_reducible rfl
       simp only [Act.put, List.setIfInBounds_toArray, List.set_cons_zero, List.set_cons_succ]
       refine wpAnyN_take (i := 2) (oi := ?o2r9) (v := ?v2r9) ?hi2r9 (by kernel_rfl) (by kernel_rfl) (by kernel_rfl) (by kernel_rfl) (by decide) (by kernel_rfl) ?hQ2r9 ?hy2r9 (Below.drew (Below.refl _ _)) ?more2r9
       case hi2r9 => rw [List.getElem?_toArray]; exact rfl
       case hQ2r9 => exact fun _ _ _ h => h
       case hy2r9 =>
        refine Or.inl ⟨by rfl, ?_⟩
        intro w' hSw
        obtain ⟨sz, sg, sx0, sx1, sx2, sx3, sy0, sy1, sy2, sy3, sz0, sz1, sz2, sz3, sf⟩ := S4.out.call hSw
        obtain ⟨⟨o50, o51, o52, o53⟩, -, o5z⟩ := (Own4.call (O54.out) hSw).facts
        obtain ⟨⟨o70, o71, o72, o73⟩, -, o7z⟩ := (Own4.call (O74.out) hSw).facts
        clear hSw
        go_simp
        try with_reducible rfl
       simp only [Act.put, List.setIfInBounds_toArray, List.set_cons_zero, List.set_cons_succ]
       refine wpAnyN_take (i := 3) (oi := ?o3r9) (v := ?v3r9) ?hi3r9 (by kernel_rfl) (by kernel_rfl) (by kernel_rfl) (by kernel_rfl) (by decide) (by kernel_rfl) ?hQ3r9 ?hy3r9 (Below.drew (Below.refl _ _)) ?more3r9
       case hi3r9 => rw [List.getElem?_toArray]; exact rfl
       case hQ3r9 => exact fun _ _ _ h => h
       case hy3r9 =>
        refine Or.inl ⟨by rfl, ?_⟩
        intro w' hSw
        obtain ⟨sz, sg, sx0, sx1, sx2, sx3, sy0, sy1, sy2, sy3, sz0, sz1, sz2, sz3, sf⟩ := S4.out.call hSw
        obtain ⟨⟨o50, o51, o52, o53⟩, -, o5z⟩ := (Own4.call (O54.out) hSw).facts
        obtain ⟨⟨o70, o71, o72, o73⟩, -, o7z⟩ := (Own4.call (O74.out) hSw).facts
        clear hSw
        go_simp
        try with_reducible rfl
       simp only [Act.put, List.setIfInBounds_toArray, List.set_cons_zero, List.set_cons_succ]
       refine wpAnyN_take (i := 4) (oi := ?o4r9) (v := ?v4r9) ?hi4r9 (by kernel_rfl) (by kernel_rfl) (by kernel_rfl) (by kernel_rfl) (by decide) (by kernel_rfl) ?hQ4r9 ?hy4r9 (Below.drew (Below.refl _ _)) ?more4r9
       case hi4r9 => rw [List.getElem?_toArray]; exact rfl
       case hQ4r9 => exact fun _ _ _ h => h
       case hy4r9 =>
        refine Or.inl ⟨by rfl, ?_⟩
        intro w' hSw
        obtain ⟨sz, sg, sx0, sx1, sx2, sx3, sy0, sy1, sy2, sy3, sz0, sz1, sz2, sz3, sf⟩ := S4.out.call hSw
        obtain ⟨⟨o50, o51, o52, o53⟩, -, o5z⟩ := (Own4.call (O54.out) hSw).facts
        obtain ⟨⟨o70, o71, o72, o73⟩, -, o7z⟩ := (Own4.call (O74.out) hSw).facts
        clear hSw
        go_simp
        try with_reducible rfl
       simp only [Act.put, List.setIfInBounds_toArray, List.set_cons_zero, List.set_cons_succ]
       refine wpAnyN_take (i := 5) (oi := ?o5r9) (v := ?v5r9) ?hi5r9 (by kernel_rfl) (by kernel_rfl) (by kernel_rfl) (by kernel_rfl) (by decide) (by kernel_rfl) ?hQ5r9 ?hy5r9 (Below.drew (Below.refl _ _)) ?more5r9
       case hi5r9 => rw [List.getElem?_toArray]; exact rfl
       case hQ5r9 => exact fun _ _ _ h => h
       case hy5r9 =>
        refine Or.inl ⟨by rfl, ?_⟩
        intro w' hSw
        obtain ⟨sz, sg, sx0, sx1, sx2, sx3, sy0, sy1, sy2, sy3, sz0, sz1, sz2, sz3, sf⟩ := S4.out.call hSw
        obtain ⟨⟨o50, o51, o52, o53⟩, -, o5z⟩ := (Own4.call (O54.out) hSw).facts
        obtain ⟨⟨o70, o71, o72, o73⟩, -, o7z⟩ := (Own4.call (O74.out) hSw).facts
        clear hSw
        go_simp
        try with_reducible rfl
       simp only [Act.put, List.setIfInBounds_toArray, List.set_cons_zero, List.set_cons_succ]
       refine wpAnyN_two (i := 6) (j := 7) (o := ?o6r9x1) (p := ?o7r9x1) (by kernel_rfl) ?hi6r9x1 ?hi7r9x1 ?hw6r9x1 ?hw7r9x1 ?st6r9x1 ?st7r9x1
       case hi6r9x1 => rw [List.getElem?_toArray]; exact rfl
       case hw6r9x1 => exact rfl
       case hi7r9x1 => rw [List.getElem?_toArray]; exact rfl
       case hw7r9x1 => exact rfl
       case st6r9x1 =>
        intro K hK
        have HK6r9y2 : Hid _ := hK
        clear hK
        go_simp
        refine (K8.out _ (F4.out.call (Below.drew (Below.refl _ _)))).mono ?_
        rintro e w6r9y2 ⟨rfl, hq⟩
        have H6r9y2 : Hid (Below w4.heap.size w4 w6r9y2) := below_call0 (Below.drew (Below.refl _ _)) hq
        clear hq
        go_wp2_with fail
        refine HK6r9y2.out _ _ ⟨fun _ => H6r9y2.out, ?_⟩
        clear HK6r9y2 K
        try simp only [Act.put, List.setIfInBounds_toArray, List.set_cons_zero, List.set_cons_succ]
        refine wpAnyN_one (i := 7) (o := ?o7r9y2) (by kernel_rfl) ?hi7r9y2 ?hw7r9y2 ?st7r9y2
        case hi7r9y2 => rw [List.getElem?_toArray]; exact rfl
        case hw7r9y2 => exact rfl
        intro K hK
        have HK7r9y2 : Hid _ := hK
        clear hK
        go_simp
        refine HK7r9y2.out _ _ ⟨fun _ => (below_alloc0 H6r9y2.out _), ?_⟩
        clear HK7r9y2 K
        try simp only [Act.put, List.setIfInBounds_toArray, List.set_cons_zero, List.set_cons_succ]
        refine wpAnyN_one (i := 8) (o := ?o8r9y2) (by kernel_rfl) ?hi8r9y2 ?hw8r9y2 ?st8r9y2
        case hi8r9y2 => rw [List.getElem?_toArray]; exact rfl
        case hw8r9y2 => exact rfl
        intro K hK
        have HK8r9y2 : Hid _ := hK
        clear hK
        obtain ⟨⟨o0, o1, o2, o3⟩, ⟨f0, f1, f2, f3⟩, oz⟩ := Pend.facts (Pend.newC (W := w6r9y2) (t := 24) rfl)
        try simp only [World.size_alloc] at o0 o1 o2 o3 f0 f1 f2 f3 oz
        go_simp
        refine HK8r9y2.out _ _ ⟨fun h => absurd h (by decide +kernel), ?_⟩
        clear HK8r9y2 K
        try simp only [Act.put, List.setIfInBounds_toArray, List.set_cons_zero, List.set_cons_succ]
        refine wpAnyN_done (by kernel_rfl) ?_ _
        obtain ⟨wSr9y2, hwS⟩ : ∃ y, y = w6r9y2.alloc (.cells #[.int .u64 (limb a3 0 : Nat), .int .u64 (limb a3 1 : Nat), .int .u64 (limb a3 2 : Nat), .int .u64 (limb a3 3 : Nat)] 24) := ⟨_, rfl⟩
        have HSr9y2 : Hid (Own4 wSr9y2 (w6r9y2.heap.size) a3 ∧ Below w4.heap.size w4 wSr9y2) := by rw [hwS]; exact ⟨Own4.new' rfl, below_alloc0 H6r9y2.out _⟩
        rw [← hwS]
        clear hwS o0 o1 o2 o3 f0 f1 f2 f3 oz
        go_wp2_with fail
        go_meet
        exact ⟨_, rfl, (Below.size H6r9y2.out), HSr9y2.out.1, HSr9y2.out.2⟩
       case st7r9x1 =>
        intro K hK
        have HK7r9y3 : Hid _ := hK
        clear hK
        go_simp
        refine HK7r9y3.out _ _ ⟨fun _ => (below_alloc0 (Below.drew (Below.refl _ _)) _), ?_⟩
        clear HK7r9y3 K
        try simp only [Act.put, List.setIfInBounds_toArray, List.set_cons_zero, List.set_cons_succ]
        refine wpAnyN_one (i := 6) (o := ?o6r9y3) (by kernel_rfl) ?hi6r9y3 ?hw6r9y3 ?st6r9y3
        case hi6r9y3 => rw [List.getElem?_toArray]; exact rfl
        case hw6r9y3 => exact rfl
        intro K hK
        have HK6r9y3 : Hid _ := hK
        clear hK
        go_simp
        refine (K8.out _ (F4.out.call (below_alloc0 (Below.drew (Below.refl _ _)) _))).mono ?_
        rintro e w6r9y3 ⟨rfl, hq⟩
        have H6r9y3 : Hid (Below w4.heap.size w4 w6r9y3) := below_call0 (below_alloc0 (Below.drew (Below.refl _ _)) _) hq
        have P6r9y3 : Hid (Pend w6r9y3 (w4.heap.size)) := Pend.call (Pend.newC (W := w4.drew) (t := 24) rfl) hq
        clear hq
        go_wp2_with fail
        refine HK6r9y3.out _ _ ⟨fun _ => H6r9y3.out, ?_⟩
        clear HK6r9y3 K
        try simp only [Act.put, List.setIfInBounds_toArray, List.set_cons_zero, List.set_cons_succ]
        refine wpAnyN_one (i := 8) (o := ?o8r9y3) (by kernel_rfl) ?hi8r9y3 ?hw8r9y3 ?st8r9y3
        case hi8r9y3 => rw [List.getElem?_toArray]; exact rfl
        case hw8r9y3 => exact rfl
        intro K hK
        have HK8r9y3 : Hid _ := hK
        clear hK
        obtain ⟨⟨o0, o1, o2, o3⟩, ⟨f0, f1, f2, f3⟩, oz⟩ := Pend.facts P6r9y3.out
        try simp only [World.size_alloc] at o0 o1 o2 o3 f0 f1 f2 f3 oz
        go_simp
        refine HK8r9y3.out _ _ ⟨fun h => absurd h (by decide +kernel), ?_⟩
        clear HK8r9y3 K
        try simp only [Act.put, List.setIfInBounds_toArray, List.set_cons_zero, List.set_cons_succ]
        refine wpAnyN_done (by kernel_rfl) ?_ _
        obtain ⟨wSr9y3, hwS⟩ : ∃ y, y = ((((w6r9y3.setCell ⟨w4.heap.size, 0, none⟩ (.int .u64 (limb a3 0 : Nat))).setCell ⟨w4.heap.size, 1, none⟩ (.int .u64 (limb a3 1 : Nat))).setCell ⟨w4.heap.size, 2, none⟩ (.int .u64 (limb a3 2 : Nat))).setCell ⟨w4.heap.size, 3, none⟩ (.int .u64 (limb a3 3 : Nat))) := ⟨_, rfl⟩
        have HSr9y3 : Hid (Own4 wSr9y3 (w4.heap.size) a3 ∧ Below w4.heap.size w4 wSr9y3) := by rw [hwS]; exact ⟨Pend.own P6r9y3.out, Below.setCell (Below.setCell (Below.setCell (Below.setCell H6r9y3.out (Nat.le_refl _) _) (Nat.le_refl _) _) (Nat.le_refl _) _) (Nat.le_refl _) _⟩
        rw [← hwS]
        clear hwS o0 o1 o2 o3 f0 f1 f2 f3 oz
        go_wp2_with fail
        go_meet
        exact ⟨_, rfl, (Nat.le_refl _), HSr9y3.out.1, HSr9y3.out.2⟩
     case rest =>
      obtain ⟨b8, rfl, hle, hO, hB⟩ := hcut
      have F5 : Hid (FieldB wc g PP) := F4.out.call hB
      have S5 : Hid (SpotB wc s g x y z) := S4.out.call hB
      have W5 : Hid (Below w.heap.size w wc) := below_call0 W4.out hB
      have O55 : Hid (Own4 wc b5 A) := O54.out.call hB
      have O65 : Hid (Own4 wc b6 U) := O64.out.call hB
      have O75 : Hid (Own4 wc b7 a2) := O74.out.call hB
      have NE8 : Hid (s ≠ b8) := Nat.ne_of_lt (Nat.lt_of_lt_of_le HZ.out.2 (Nat.le_trans W4.out.size hle))
      have O85 : Hid (Own4 wc b8 a3) := hO
      clear hO hB hle F4 S4 W4 O54 O64 O74
      generalize wc = w5 at F5 S5 W5 O55 O65 O75 O85 ⊢
      go_upto_region 10 with fail
      go_cut [9] (fun v wx => ∃ b9, v = .pointer (some ⟨b9, 0, none⟩) ∧ w5.heap.size ≤ b9 ∧ Own4 wx b9 mid ∧ Below w5.heap.size w5 wx)
      case first =>
       as_aux_lemma =>
        refine wp_region_N (fun w' => Below w5.heap.size w5 w') 11 12 rfl (by kernel_rfl) ?_
        refine wpAnyN_take (i := 0) (oi := ?o0r10) (v := ?v0r10) ?hi0r10 (by kernel_rfl) (by kernel_rfl) (by kernel_rfl) (by kernel_rfl) (by decide) (by kernel_rfl) ?hQ0r10 ?hy0r10 (Below.drew (Below.refl _ _)) ?more0r10
        case hi0r10 => rw [List.getElem?_toArray]; exact rfl
        case hQ0r10 => exact fun _ _ _ h => h
        case hy0r10 =>
         refine Or.inl ⟨by rfl, ?_⟩
         intro w' hSw
         obtain ⟨sz, sg, sx0, sx1, sx2, sx3, sy0, sy1, sy2, sy3, sz0, sz1, sz2, sz3, sf⟩ := S5.out.call hSw
         obtain ⟨⟨o70, o71, o72, o73⟩, -, o7z⟩ := (Own4.call (O75.out) hSw).facts
         clear hSw
         go_simp
         try with_reducible rfl
        simp only [Act.put, List.setIfInBounds_toArray, List.set_cons_zero, List.set_cons_succ]
        refine wpAnyN_take (i := 1) (oi := ?o1r10) (v := ?v1r10) ?hi1r10 (by kernel_rfl) (by kernel_rfl) (by kernel_rfl) (by kernel_rfl) (by decide) (by kernel_rfl) ?hQ1r10 ?hy1r10 (Below.drew (Below.refl _ _)) ?more1r10
        case hi1r10 => rw [List.getElem?_toArray]; exact rfl
        case hQ1r10 => exact fun _ _ _ h => h
        case hy1r10 =>
         refine Or.inl ⟨by rfl, ?_⟩
         intro w' hSw
         obtain ⟨sz, sg, sx0, sx1, sx2, sx3, sy0, sy1, sy2, sy3, sz0, sz1, sz2, sz3, sf⟩ := S5.out.call hSw
         obtain ⟨⟨o70, o71, o72, o73⟩, -, o7z⟩ := (Own4.call (O75.out) hSw).facts
         clear hSw
         go_simp
         try with_reducible rfl
        simp only [Act.put, List.setIfInBounds_toArray, List.set_cons_zero, List.set_cons_succ]
        refine wpAnyN_take (i := 2) (oi := ?o2r10) (v := ?v2r10) ?hi2r10 (by kernel_rfl) (by kernel_rfl) (by kernel_rfl) (by kernel_rfl) (by decide) (by kernel_rfl) ?hQ2r10 ?hy2r10 (Below.drew (Below.refl _ _)) ?more2r10
        case hi2r10 => rw [List.getElem?_toArray]; exact rfl
        case hQ2r10 => exact fun _ _ _ h => h
        case hy2r10 =>
         refine Or.inl ⟨by rfl, ?_⟩
         intro w' hSw
         obtain ⟨sz, sg, sx0, sx1, sx2, sx3, sy0, sy1, sy2, sy3, sz0, sz1, sz2, sz3, sf⟩ := S5.out.call hSw
         obtain ⟨⟨o70, o71, o72, o73⟩, -, o7z⟩ := (Own4.call (O75.out) hSw).facts
         clear hSw
         go_simp
         try with_reducible rfl
        simp only [Act.put, List.setIfInBounds_toArray, List.set_cons_zero, List.set_cons_succ]
        refine wpAnyN_take (i := 3) (oi := ?o3r10) (v := ?v3r10) ?hi3r10 (by kernel_rfl) (by kernel_rfl) (by kernel_rfl) (by kernel_rfl) (by decide) (by kernel_rfl) ?hQ3r10 ?hy3r10 (Below.drew (Below.refl _ _)) ?more3r10
        case hi3r10 => rw [List.getElem?_toArray]; exact rfl
        case hQ3r10 => exact fun _ _ _ h => h
        case hy3r10 =>
         refine Or.inl ⟨by rfl, ?_⟩
         intro w' hSw
         obtain ⟨sz, sg, sx0, sx1, sx2, sx3, sy0, sy1, sy2, sy3, sz0, sz1, sz2, sz3, sf⟩ := S5.out.call hSw
         obtain ⟨⟨o70, o71, o72, o73⟩, -, o7z⟩ := (Own4.call (O75.out) hSw).facts
         clear hSw
         go_simp
         try with_reducible rfl
        simp only [Act.put, List.setIfInBounds_toArray, List.set_cons_zero, List.set_cons_succ]
        refine wpAnyN_take (i := 4) (oi := ?o4r10) (v := ?v4r10) ?hi4r10 (by kernel_rfl) (by kernel_rfl) (by kernel_rfl) (by kernel_rfl) (by decide) (by kernel_rfl) ?hQ4r10 ?hy4r10 (Below.drew (Below.refl _ _)) ?more4r10
        case hi4r10 => rw [List.getElem?_toArray]; exact rfl
        case hQ4r10 => exact fun _ _ _ h => h
        case hy4r10 =>
         refine Or.inl ⟨by rfl, ?_⟩
         intro w' hSw
         obtain ⟨sz, sg, sx0, sx1, sx2, sx3, sy0, sy1, sy2, sy3, sz0, sz1, sz2, sz3, sf⟩ := S5.out.call hSw
         obtain ⟨⟨o70, o71, o72, o73⟩, -, o7z⟩ := (Own4.call (O75.out) hSw).facts
         clear hSw
         go_simp
         try with_reducible rfl
        simp only [Act.put, List.setIfInBounds_toArray, List.set_cons_zero, List.set_cons_succ]
        refine wpAnyN_take (i := 5) (oi := ?o5r10) (v := ?v5r10) ?hi5r10 (by kernel_rfl) (by kernel_rfl) (by kernel_rfl) (by kernel_rfl) (by decide) (by kernel_rfl) ?hQ5r10 ?hy5r10 (Below.drew (Below.refl _ _)) ?more5r10
        case hi5r10 => rw [List.getElem?_toArray]; exact rfl
        case hQ5r10 => exact fun _ _ _ h => h
        case hy5r10 =>
         refine Or.inl ⟨by rfl, ?_⟩
         intro w' hSw
         obtain ⟨sz, sg, sx0, sx1, sx2, sx3, sy0, sy1, sy2, sy3, sz0, sz1, sz2, sz3, sf⟩ := S5.out.call hSw
         obtain ⟨⟨o70, o71, o72, o73⟩, -, o7z⟩ := (Own4.call (O75.out) hSw).facts
         clear hSw
         go_simp
         try with_reducible rfl
        simp only [Act.put, List.setIfInBounds_toArray, List.set_cons_zero, List.set_cons_succ]
        refine wpAnyN_take (i := 6) (oi := ?o6r10) (v := ?v6r10) ?hi6r10 (by kernel_rfl) (by kernel_rfl) (by kernel_rfl) (by kernel_rfl) (by decide) (by kernel_rfl) ?hQ6r10 ?hy6r10 (Below.drew (Below.refl _ _)) ?more6r10
        case hi6r10 => rw [List.getElem?_toArray]; exact rfl
        case hQ6r10 => exact fun _ _ _ h => h
        case hy6r10 =>
         refine Or.inl ⟨by rfl, ?_⟩
         intro w' hSw
         obtain ⟨sz, sg, sx0, sx1, sx2, sx3, sy0, sy1, sy2, sy3, sz0, sz1, sz2, sz3, sf⟩ := S5.out.call hSw
         obtain ⟨⟨o70, o71, o72, o73⟩, -, o7z⟩ := (Own4.call (O75.out) hSw).facts
         clear hSw
         go_simp
         try with_reducible rfl
        simp only [Act.put, List.setIfInBounds_toArray, List.set_cons_zero, List.set_cons_succ]
        refine wpAnyN_take (i := 7) (oi := ?o7r10) (v := ?v7r10) ?hi7r10 (by kernel_rfl) (by kernel_rfl) (by kernel_rfl) (by kernel_rfl) (by decide) (by kernel_rfl) ?hQ7r10 ?hy7r10 (Below.drew (Below.refl _ _)) ?more7r10
        case hi7r10 => rw [List.getElem?_toArray]; exact rfl
        case hQ7r10 => exact fun _ _ _ h => h
        case hy7r10 =>
         refine Or.inl ⟨by rfl, ?_⟩
         intro w' hSw
         obtain ⟨sz, sg, sx0, sx1, sx2, sx3, sy0, sy1, sy2, sy3, sz0, sz1, sz2, sz3, sf⟩ := S5.out.call hSw
         obtain ⟨⟨o70, o71, o72, o73⟩, -, o7z⟩ := (Own4.call (O75.out) hSw).facts
         clear hSw
         go_simp
         try with_reducible rfl
        simp only [Act.put, List.setIfInBounds_toArray, List.set_cons_zero, List.set_cons_succ]
        refine wpAnyN_take (i := 8) (oi := ?o8r10) (v := ?v8r10) ?hi8r10 (by kernel_rfl) (by kernel_rfl) (by kernel_rfl) (by kernel_rfl) (by decide) (by kernel_rfl) ?hQ8r10 ?hy8r10 (Below.drew (Below.refl _ _)) ?more8r10
        case hi8r10 => rw [List.getElem?_toArray]; exact rfl
        case hQ8r10 => exact fun _ _ _ h => h
        case hy8r10 =>
         refine Or.inl ⟨by rfl, ?_⟩
         intro w' hSw
         obtain ⟨sz, sg, sx0, sx1, sx2, sx3, sy0, sy1, sy2, sy3, sz0, sz1, sz2, sz3, sf⟩ := S5.out.call hSw
         obtain ⟨⟨o70, o71, o72, o73⟩, -, o7z⟩ := (Own4.call (O75.out) hSw).facts
         clear hSw
         go_simp
         try with_reducible rfl
        simp only [Act.put, List.setIfInBounds_toArray, List.set_cons_zero, List.set_cons_succ]
        refine wpAnyN_two (i := 9) (j := 10) (o := ?o9r10x1) (p := ?o10r10x1) (by kernel_rfl) ?hi9r10x1 ?hi10r10x1 ?hw9r10x1 ?hw10r10x1 ?st9r10x1 ?st10r10x1
        case hi9r10x1 => rw [List.getElem?_toArray]; exact rfl
        case hw9r10x1 => exact rfl
        case hi10r10x1 => rw [List.getElem?_toArray]; exact rfl
        case hw10r10x1 => exact rfl
        case st9r10x1 =>
         intro K hK
         have HK9r10y2 : Hid _ := hK
         clear hK
         go_simp
         refine (K9.out _ (F5.out.call (Below.drew (Below.refl _ _)))).mono ?_
         rintro e w9r10y2 ⟨rfl, hq⟩
         have H9r10y2 : Hid (Below w5.heap.size w5 w9r10y2) := below_call0 (Below.drew (Below.refl _ _)) hq
         clear hq
         go_wp2_with fail
         refine HK9r10y2.out _ _ ⟨fun _ => H9r10y2.out, ?_⟩
         clear HK9r10y2 K
         try simp only [Act.put, List.setIfInBounds_toArray, List.set_cons_zero, List.set_cons_succ]
         refine wpAnyN_one (i := 10) (o := ?o10r10y2) (by kernel_rfl) ?hi10r10y2 ?hw10r10y2 ?st10r10y2
         case hi10r10y2 => rw [List.getElem?_toArray]; exact rfl
         case hw10r10y2 => exact rfl
         intro K hK
         have HK10r10y2 : Hid _ := hK
         clear hK
         go_simp
         refine HK10r10y2.out _ _ ⟨fun _ => (below_alloc0 H9r10y2.out _), ?_⟩
         clear HK10r10y2 K
         try simp only [Act.put, List.setIfInBounds_toArray, List.set_cons_zero, List.set_cons_succ]
         refine wpAnyN_one (i := 11) (o := ?o11r10y2) (by kernel_rfl) ?hi11r10y2 ?hw11r10y2 ?st11r10y2
         case hi11r10y2 => rw [List.getElem?_toArray]; exact rfl
         case hw11r10y2 => exact rfl
         intro K hK
         have HK11r10y2 : Hid _ := hK
         clear hK
         obtain ⟨⟨o0, o1, o2, o3⟩, ⟨f0, f1, f2, f3⟩, oz⟩ := Pend.facts (Pend.newC (W := w9r10y2) (t := 24) rfl)
         try simp only [World.size_alloc] at o0 o1 o2 o3 f0 f1 f2 f3 oz
         go_simp
         refine HK11r10y2.out _ _ ⟨fun h => absurd h (by decide +kernel), ?_⟩
         clear HK11r10y2 K
         try simp only [Act.put, List.setIfInBounds_toArray, List.set_cons_zero, List.set_cons_succ]
         refine wpAnyN_done (by kernel_rfl) ?_ _
         obtain ⟨wSr10y2, hwS⟩ : ∃ y, y = w9r10y2.alloc (.cells #[.int .u64 (limb mid 0 : Nat), .int .u64 (limb mid 1 : Nat), .int .u64 (limb mid 2 : Nat), .int .u64 (limb mid 3 : Nat)] 24) := ⟨_, rfl⟩
         have HSr10y2 : Hid (Own4 wSr10y2 (w9r10y2.heap.size) mid ∧ Below w5.heap.size w5 wSr10y2) := by rw [hwS]; exact ⟨Own4.new' rfl, below_alloc0 H9r10y2.out _⟩
         rw [← hwS]
         clear hwS o0 o1 o2 o3 f0 f1 f2 f3 oz
         go_wp2_with fail
         go_meet
         exact ⟨_, rfl, (Below.size H9r10y2.out), HSr10y2.out.1, HSr10y2.out.2⟩
        case st10r10x1 =>
         intro K hK
         have HK10r10y3 : Hid _ := hK
         clear hK
         go_simp
         refine HK10r10y3.out _ _ ⟨fun _ => (below_alloc0 (Below.drew (Below.refl _ _)) _), ?_⟩
         clear HK10r10y3 K
         try simp only [Act.put, List.setIfInBounds_toArray, List.set_cons_zero, List.set_cons_succ]
         refine wpAnyN_one (i := 9) (o := ?o9r10y3) (by kernel_rfl) ?hi9r10y3 ?hw9r10y3 ?st9r10y3
         case hi9r10y3 => rw [List.getElem?_toArray]; exact rfl
         case hw9r10y3 => exact rfl
         intro K hK
         have HK9r10y3 : Hid _ := hK
         clear hK
         go_simp
         refine (K9.out _ (F5.out.call (below_alloc0 (Below.drew (Below.refl _ _)) _))).mono ?_
         rintro e w9r10y3 ⟨rfl, hq⟩
         have H9r10y3 : Hid (Below w5.heap.size w5 w9r10y3) := below_call0 (below_alloc0 (Below.drew (Below.refl _ _)) _) hq
         have P9r10y3 : Hid (Pend w9r10y3 (w5.heap.size)) := Pend.call (Pend.newC (W := w5.drew) (t := 24) rfl) hq
         clear hq
         go_wp2_with fail
         refine HK9r10y3.out _ _ ⟨fun _ => H9r10y3.out, ?_⟩
         clear HK9r10y3 K
         try simp only [Act.put, List.setIfInBounds_toArray, List.set_cons_zero, List.set_cons_succ]
         refine wpAnyN_one (i := 11) (o := ?o11r10y3) (by kernel_rfl) ?hi11r10y3 ?hw11r10y3 ?st11r10y3
         case hi11r10y3 => rw [List.getElem?_toArray]; exact rfl
         case hw11r10y3 => exact rfl
         intro K hK
         have HK11r10y3 : Hid _ := hK
         clear hK
         obtain ⟨⟨o0, o1, o2, o3⟩, ⟨f0, f1, f2, f3⟩, oz⟩ := Pend.facts P9r10y3.out
         try simp only [World.size_alloc] at o0 o1 o2 o3 f0 f1 f2 f3 oz
         go_simp
         refine HK11r10y3.out _ _ ⟨fun h => absurd h (by decide +kernel), ?_⟩
         clear HK11r10y3 K
         try simp only [Act.put, List.setIfInBounds_toArray, List.set_cons_zero, List.set_cons_succ]
         refine wpAnyN_done (by kernel_rfl) ?_ _
         obtain ⟨wSr10y3, hwS⟩ : ∃ y, y = ((((w9r10y3.setCell ⟨w5.heap.size, 0, none⟩ (.int .u64 (limb mid 0 : Nat))).setCell ⟨w5.heap.size, 1, none⟩ (.int .u64 (limb mid 1 : Nat))).setCell ⟨w5.heap.size, 2, none⟩ (.int .u64 (limb mid 2 : Nat))).setCell ⟨w5.heap.size, 3, none⟩ (.int .u64 (limb mid 3 : Nat))) := ⟨_, rfl⟩
         have HSr10y3 : Hid (Own4 wSr10y3 (w5.heap.size) mid ∧ Below w5.heap.size w5 wSr10y3) := by rw [hwS]; exact ⟨Pend.own P9r10y3.out, Below.setCell (Below.setCell (Below.setCell (Below.setCell H9r10y3.out (Nat.le_refl _) _) (Nat.le_refl _) _) (Nat.le_refl _) _) (Nat.le_refl _) _⟩
         rw [← hwS]
         clear hwS o0 o1 o2 o3 f0 f1 f2 f3 oz
         go_wp2_with fail
         go_meet
         exact ⟨_, rfl, (Nat.le_refl _), HSr10y3.out.1, HSr10y3.out.2⟩
      case rest =>
       obtain ⟨b9, rfl, hle, hO, hB⟩ := hcut
       have F6 : Hid (FieldB wc g PP) := F5.out.call hB
       have S6 : Hid (SpotB wc s g x y z) := S5.out.call hB
       have W6 : Hid (Below w.heap.size w wc) := below_call0 W5.out hB
       have O56 : Hid (Own4 wc b5 A) := O55.out.call hB
       have O66 : Hid (Own4 wc b6 U) := O65.out.call hB
       have O76 : Hid (Own4 wc b7 a2) := O75.out.call hB
       have O86 : Hid (Own4 wc b8 a3) := O85.out.call hB
       have NE9 : Hid (s ≠ b9) := Nat.ne_of_lt (Nat.lt_of_lt_of_le HZ.out.2 (Nat.le_trans W5.out.size hle))
       have O96 : Hid (Own4 wc b9 mid) := hO
       clear hO hB hle F5 S5 W5 O55 O65 O75 O85
       clear O76
       generalize wc = w6 at F6 S6 W6 O56 O66 O86 O96 ⊢
       have B6 : Hid (ButC s w w6) := ButC.of W6.out
       clear W6
       have W6 := B6
       clear B6
       go_wp2_with fail
       refine wp_region_N (fun w' => Below w6.heap.size w6 w') 13 14 rfl (by kernel_rfl) ?_
       refine wpAnyN_takeF (i := 0) (oi := ?o0_p) (v := ?v0_p) ?hi0_p (by kernel_rfl) (by kernel_rfl) (by kernel_rfl) (by decide) ?hQ0_p ?hy0_p (Below.drew (Below.refl _ _)) ?more0_p
       case hi0_p => rw [List.getElem?_toArray]; exact rfl
       case hQ0_p => exact fun _ _ _ h => h
       case hy0_p =>
        refine Or.inl ⟨by rfl, ?_⟩
        intro w' hSw
        clear hSw
        go_simp
        try with_reducible rfl
       simp only [Act.put, List.setIfInBounds_toArray, List.set_cons_zero, List.set_cons_succ]
       refine wpAnyN_takeF (i := 1) (oi := ?o1_p) (v := ?v1_p) ?hi1_p (by kernel_rfl) (by kernel_rfl) (by kernel_rfl) (by decide) ?hQ1_p ?hy1_p (Below.drew (Below.refl _ _)) ?more1_p
       case hi1_p => rw [List.getElem?_toArray]; exact rfl
       case hQ1_p => exact fun _ _ _ h => h
       case hy1_p =>
        refine Or.inl ⟨by rfl, ?_⟩
        intro w' hSw
        clear hSw
        go_simp
        try with_reducible rfl
       simp only [Act.put, List.setIfInBounds_toArray, List.set_cons_zero, List.set_cons_succ]
       refine wpAnyN_takeF (i := 2) (oi := ?o2_p) (v := ?v2_p) ?hi2_p (by kernel_rfl) (by kernel_rfl) (by kernel_rfl) (by decide) ?hQ2_p ?hy2_p (Below.drew (Below.refl _ _)) ?more2_p
       case hi2_p => rw [List.getElem?_toArray]; exact rfl
       case hQ2_p => exact fun _ _ _ h => h
       case hy2_p =>
        refine Or.inl ⟨by rfl, ?_⟩
        intro w' hSw
        clear hSw
        go_simp
        try with_reducible rfl
       simp only [Act.put, List.setIfInBounds_toArray, List.set_cons_zero, List.set_cons_succ]
       refine wpAnyN_takeF (i := 3) (oi := ?o3_p) (v := ?v3_p) ?hi3_p (by kernel_rfl) (by kernel_rfl) (by kernel_rfl) (by decide) ?hQ3_p ?hy3_p (Below.drew (Below.refl _ _)) ?more3_p
       case hi3_p => rw [List.getElem?_toArray]; exact rfl
       case hQ3_p => exact fun _ _ _ h => h
       case hy3_p =>
        refine Or.inl ⟨by rfl, ?_⟩
        intro w' hSw
        clear hSw
        go_simp
        try with_reducible rfl
       simp only [Act.put, List.setIfInBounds_toArray, List.set_cons_zero, List.set_cons_succ]
       refine wpAnyN_take (i := 4) (oi := ?o4_p) (v := ?v4_p) ?hi4_p (by kernel_rfl) (by kernel_rfl) (by kernel_rfl) (by kernel_rfl) (by decide) (by kernel_rfl) ?hQ4_p ?hy4_p (Below.drew (Below.refl _ _)) ?more4_p
       case hi4_p => rw [List.getElem?_toArray]; exact rfl
       case hQ4_p => exact fun _ _ _ h => h
       case hy4_p =>
        refine Or.inl ⟨by rfl, ?_⟩
        intro w' hSw
        obtain ⟨sz, sg, sx0, sx1, sx2, sx3, sy0, sy1, sy2, sy3, sz0, sz1, sz2, sz3, sf⟩ := S6.out.call hSw
        obtain ⟨⟨o50, o51, o52, o53⟩, -, o5z⟩ := (Own4.call (O56.out) hSw).facts
        clear hSw
        go_simp
        try with_reducible rfl
       simp only [Act.put, List.setIfInBounds_toArray, List.set_cons_zero, List.set_cons_succ]
       refine wpAnyN_takeF (i := 5) (oi := ?o5_p) (v := ?v5_p) ?hi5_p (by kernel_rfl) (by kernel_rfl) (by kernel_rfl) (by decide) ?hQ5_p ?hy5_p (Below.drew (Below.refl _ _)) ?more5_p
       case hi5_p => rw [List.getElem?_toArray]; exact rfl
       case hQ5_p => exact fun _ _ _ h => h
       case hy5_p =>
        refine Or.inl ⟨by rfl, ?_⟩
        intro w' hSw
        clear hSw
        go_simp
        try with_reducible rfl
       simp only [Act.put, List.setIfInBounds_toArray, List.set_cons_zero, List.set_cons_succ]
       refine wpAnyN_takeF (i := 6) (oi := ?o6_p) (v := ?v6_p) ?hi6_p (by kernel_rfl) (by kernel_rfl) (by kernel_rfl) (by decide) ?hQ6_p ?hy6_p (Below.drew (Below.refl _ _)) ?more6_p
       case hi6_p => rw [List.getElem?_toArray]; exact rfl
       case hQ6_p => exact fun _ _ _ h => h
       case hy6_p =>
        refine Or.inl ⟨by rfl, ?_⟩
        intro w' hSw
        clear hSw
        go_simp
        try with_reducible rfl
       simp only [Act.put, List.setIfInBounds_toArray, List.set_cons_zero, List.set_cons_succ]
       refine wpAnyN_takeF (i := 7) (oi := ?o7_p) (v := ?v7_p) ?hi7_p (by kernel_rfl) (by kernel_rfl) (by kernel_rfl) (by decide) ?hQ7_p ?hy7_p (Below.drew (Below.refl _ _)) ?more7_p
       case hi7_p => rw [List.getElem?_toArray]; exact rfl
       case hQ7_p => exact fun _ _ _ h => h
       case hy7_p =>
        refine Or.inl ⟨by rfl, ?_⟩
        intro w' hSw
        clear hSw
        go_simp
        try with_reducible rfl
       simp only [Act.put, List.setIfInBounds_toArray, List.set_cons_zero, List.set_cons_succ]
       refine wpAnyN_take (i := 8) (oi := ?o8_p) (v := ?v8_p) ?hi8_p (by kernel_rfl) (by kernel_rfl) (by kernel_rfl) (by kernel_rfl) (by decide) (by kernel_rfl) ?hQ8_p ?hy8_p (Below.drew (Below.refl _ _)) ?more8_p
       case hi8_p => rw [List.getElem?_toArray]; exact rfl
       case hQ8_p => exact fun _ _ _ h => h
       case hy8_p =>
        refine Or.inl ⟨by rfl, ?_⟩
        intro w' hSw
        obtain ⟨sz, sg, sx0, sx1, sx2, sx3, sy0, sy1, sy2, sy3, sz0, sz1, sz2, sz3, sf⟩ := S6.out.call hSw
        obtain ⟨⟨o50, o51, o52, o53⟩, -, o5z⟩ := (Own4.call (O56.out) hSw).facts
        clear hSw
        go_simp
        try with_reducible rfl
       simp only [Act.put, List.setIfInBounds_toArray, List.set_cons_zero, List.set_cons_succ]
       refine wpAnyN_take (i := 9) (oi := ?o9_p) (v := ?v9_p) ?hi9_p (by kernel_rfl) (by kernel_rfl) (by kernel_rfl) (by kernel_rfl) (by decide) (by kernel_rfl) ?hQ9_p ?hy9_p (Below.drew (Below.refl _ _)) ?more9_p
       case hi9_p => rw [List.getElem?_toArray]; exact rfl
       case hQ9_p => exact fun _ _ _ h => h
       case hy9_p =>
        refine Or.inl ⟨by rfl, ?_⟩
        intro w' hSw
        obtain ⟨sz, sg, sx0, sx1, sx2, sx3, sy0, sy1, sy2, sy3, sz0, sz1, sz2, sz3, sf⟩ := S6.out.call hSw
        obtain ⟨⟨o50, o51, o52, o53⟩, -, o5z⟩ := (Own4.call (O56.out) hSw).facts
        clear hSw
        go_simp
        try with_reducible rfl
       simp only [Act.put, List.setIfInBounds_toArray, List.set_cons_zero, List.set_cons_succ]
       refine wpAnyN_one (i := 10) (o := ?o10_p) (by kernel_rfl) ?hi10_p ?hw10_p ?st10_p
       case hi10_p => rw [List.getElem?_toArray]; exact rfl
       case hw10_p => exact rfl
       intro K hK
       have HK10 : Hid _ := hK
       clear hK
       go_simp
       refine (K10.out _ (F6.out.call (Below.drew (Below.refl _ _)))).mono ?_
       rintro e up0 ⟨rfl, hq⟩
       have Iup0 : Hid (Below w6.heap.size w6 up0) := below_call0 (Below.drew (Below.refl _ _)) hq
       clear hq
       obtain ⟨sz, sg, sx0, sx1, sx2, sx3, sy0, sy1, sy2, sy3, sz0, sz1, sz2, sz3, sf⟩ := S6.out.call Iup0.out
       go_wp2_with fail
       refine HK10.out _ _ ⟨fun _ => Iup0.out, ?_⟩
       clear HK10 K
       try simp only [Act.put, List.setIfInBounds_toArray, List.set_cons_zero, List.set_cons_succ]
       refine wpAnyN_takeF (i := 11) (oi := ?o11_p) (v := ?v11_p) ?hi11_p (by kernel_rfl) (by kernel_rfl) (by kernel_rfl) (by decide) ?hQ11_p ?hy11_p Iup0.out ?more11_p
       case hi11_p => rw [List.getElem?_toArray]; exact rfl
       case hQ11_p => exact fun _ _ _ h => h
       case hy11_p =>
        refine Or.inl ⟨by rfl, ?_⟩
        intro w' hSw
        clear hSw
        go_simp
        try with_reducible rfl
       simp only [Act.put, List.setIfInBounds_toArray, List.set_cons_zero, List.set_cons_succ]
       refine wpAnyN_takeF (i := 12) (oi := ?o12_p) (v := ?v12_p) ?hi12_p (by kernel_rfl) (by kernel_rfl) (by kernel_rfl) (by decide) ?hQ12_p ?hy12_p Iup0.out ?more12_p
       case hi12_p => rw [List.getElem?_toArray]; exact rfl
       case hQ12_p => exact fun _ _ _ h => h
       case hy12_p =>
        refine Or.inl ⟨by rfl, ?_⟩
        intro w' hSw
        clear hSw
        go_simp
        try with_reducible rfl
       simp only [Act.put, List.setIfInBounds_toArray, List.set_cons_zero, List.set_cons_succ]
       refine wpAnyN_one (i := 13) (o := ?o13_p) (by kernel_rfl) ?hi13_p ?hw13_p ?st13_p
       case hi13_p => rw [List.getElem?_toArray]; exact rfl
       case hw13_p => exact rfl
       intro K hK
       have HK13 : Hid _ := hK
       clear hK
       go_simp
       refine HK13.out _ _ ⟨fun h => absurd h (by decide +kernel), ?_⟩
       clear HK13 K
       try simp only [Act.put, List.setIfInBounds_toArray, List.set_cons_zero, List.set_cons_succ]
       refine wpAnyN_done (by kernel_rfl) ?_ _
       go_wp2_with fail
       clear sz sg sx0 sx1 sx2 sx3 sy0 sy1 sy2 sy3 sz0 sz1 sz2 sz3 sf
       obtain ⟨w7, hw⟩ : ∃ u, u = ((((up0.setCell ⟨s, 9, none⟩ (.int .u64 (limb Z 0 : Nat))).setCell ⟨s, 10, none⟩ (.int .u64 (limb Z 1 : Nat))).setCell ⟨s, 11, none⟩ (.int .u64 (limb Z 2 : Nat))).setCell ⟨s, 12, none⟩ (.int .u64 (limb Z 3 : Nat))) := ⟨_, rfl⟩
       rw [← hw]
       have F7 : Hid (FieldB w7 g PP) := by rw [hw]; exact (F6.out.call Iup0.out).put4s HZ.out.1
       have S7 : Hid (SpotB w7 s g x y Z) := by rw [hw]; exact (S6.out.call Iup0.out).setz
       have W7 : Hid (ButC s w w7) := by rw [hw]; exact (W6.out.call Iup0.out).put4s
       have O57 : Hid (Own4 w7 b5 A) := by rw [hw]; exact (O56.out.call Iup0.out).put4s NE5.out
       have O67 : Hid (Own4 w7 b6 U) := by rw [hw]; exact (O66.out.call Iup0.out).put4s NE6.out
       have O87 : Hid (Own4 w7 b8 a3) := by rw [hw]; exact (O86.out.call Iup0.out).put4s NE8.out
       have O97 : Hid (Own4 w7 b9 mid) := by rw [hw]; exact (O96.out.call Iup0.out).put4s NE9.out
       clear hw F6 S6 W6 O56 O66 O86 O96 Iup0
       refine wp_region_N (fun w' => Below w7.heap.size w7 w') 28 29 rfl (by kernel_rfl) ?_
       refine wpAnyN_takeF (i := 0) (oi := ?o0_q) (v := ?v0_q) ?hi0_q (by kernel_rfl) (by kernel_rfl) (by kernel_rfl) (by decide) ?hQ0_q ?hy0_q (Below.drew (Below.refl _ _)) ?more0_q
       case hi0_q => rw [List.getElem?_toArray]; exact rfl
       case hQ0_q => exact fun _ _ _ h => h
       case hy0_q =>
        refine Or.inl ⟨by rfl, ?_⟩
        intro w' hSw
        clear hSw
        go_simp
        try with_reducible rfl
       simp only [Act.put, List.setIfInBounds_toArray, List.set_cons_zero, List.set_cons_succ]
       refine wpAnyN_takeF (i := 1) (oi := ?o1_q) (v := ?v1_q) ?hi1_q (by kernel_rfl) (by kernel_rfl) (by kernel_rfl) (by decide) ?hQ1_q ?hy1_q (Below.drew (Below.refl _ _)) ?more1_q
       case hi1_q => rw [List.getElem?_toArray]; exact rfl
       case hQ1_q => exact fun _ _ _ h => h
       case hy1_q =>
        refine Or.inl ⟨by rfl, ?_⟩
        intro w' hSw
        clear hSw
        go_simp
        try with_reducible rfl
       simp only [Act.put, List.setIfInBounds_toArray, List.set_cons_zero, List.set_cons_succ]
       refine wpAnyN_takeF (i := 2) (oi := ?o2_q) (v := ?v2_q) ?hi2_q (by kernel_rfl) (by kernel_rfl) (by kernel_rfl) (by decide) ?hQ2_q ?hy2_q (Below.drew (Below.refl _ _)) ?more2_q
       case hi2_q => rw [List.getElem?_toArray]; exact rfl
       case hQ2_q => exact fun _ _ _ h => h
       case hy2_q =>
        refine Or.inl ⟨by rfl, ?_⟩
        intro w' hSw
        clear hSw
        go_simp
        try with_reducible rfl
       simp only [Act.put, List.setIfInBounds_toArray, List.set_cons_zero, List.set_cons_succ]
       refine wpAnyN_takeF (i := 3) (oi := ?o3_q) (v := ?v3_q) ?hi3_q (by kernel_rfl) (by kernel_rfl) (by kernel_rfl) (by decide) ?hQ3_q ?hy3_q (Below.drew (Below.refl _ _)) ?more3_q
       case hi3_q => rw [List.getElem?_toArray]; exact rfl
       case hQ3_q => exact fun _ _ _ h => h
       case hy3_q =>
        refine Or.inl ⟨by rfl, ?_⟩
        intro w' hSw
        clear hSw
        go_simp
        try with_reducible rfl
       simp only [Act.put, List.setIfInBounds_toArray, List.set_cons_zero, List.set_cons_succ]
       refine wpAnyN_take (i := 4) (oi := ?o4_q) (v := ?v4_q) ?hi4_q (by kernel_rfl) (by kernel_rfl) (by kernel_rfl) (by kernel_rfl) (by decide) (by kernel_rfl) ?hQ4_q ?hy4_q (Below.drew (Below.refl _ _)) ?more4_q
       case hi4_q => rw [List.getElem?_toArray]; exact rfl
       case hQ4_q => exact fun _ _ _ h => h
       case hy4_q =>
        refine Or.inl ⟨by rfl, ?_⟩
        intro w' hSw
        obtain ⟨sz, sg, sx0, sx1, sx2, sx3, sy0, sy1, sy2, sy3, sz0, sz1, sz2, sz3, sf⟩ := S7.out.call hSw
        obtain ⟨⟨o60, o61, o62, o63⟩, -, o6z⟩ := (Own4.call (O67.out) hSw).facts
        obtain ⟨⟨o80, o81, o82, o83⟩, -, o8z⟩ := (Own4.call (O87.out) hSw).facts
        obtain ⟨⟨o90, o91, o92, o93⟩, -, o9z⟩ := (Own4.call (O97.out) hSw).facts
        clear hSw
        go_simp
        try with_reducible rfl
       simp only [Act.put, List.setIfInBounds_toArray, List.set_cons_zero, List.set_cons_succ]
       refine wpAnyN_takeF (i := 5) (oi := ?o5_q) (v := ?v5_q) ?hi5_q (by kernel_rfl) (by kernel_rfl) (by kernel_rfl) (by decide) ?hQ5_q ?hy5_q (Below.drew (Below.refl _ _)) ?more5_q
       case hi5_q => rw [List.getElem?_toArray]; exact rfl
       case hQ5_q => exact fun _ _ _ h => h
       case hy5_q =>
        refine Or.inl ⟨by rfl, ?_⟩
        intro w' hSw
        clear hSw
        go_simp
        try with_reducible rfl
       simp only [Act.put, List.setIfInBounds_toArray, List.set_cons_zero, List.set_cons_succ]
       refine wpAnyN_takeF (i := 6) (oi := ?o6_q) (v := ?v6_q) ?hi6_q (by kernel_rfl) (by kernel_rfl) (by kernel_rfl) (by decide) ?hQ6_q ?hy6_q (Below.drew (Below.refl _ _)) ?more6_q
       case hi6_q => rw [List.getElem?_toArray]; exact rfl
       case hQ6_q => exact fun _ _ _ h => h
       case hy6_q =>
        refine Or.inl ⟨by rfl, ?_⟩
        intro w' hSw
        clear hSw
        go_simp
        try with_reducible rfl
       simp only [Act.put, List.setIfInBounds_toArray, List.set_cons_zero, List.set_cons_succ]
       refine wpAnyN_takeF (i := 7) (oi := ?o7_q) (v := ?v7_q) ?hi7_q (by kernel_rfl) (by kernel_rfl) (by kernel_rfl) (by decide) ?hQ7_q ?hy7_q (Below.drew (Below.refl _ _)) ?more7_q
       case hi7_q => rw [List.getElem?_toArray]; exact rfl
       case hQ7_q => exact fun _ _ _ h => h
       case hy7_q =>
        refine Or.inl ⟨by rfl, ?_⟩
        intro w' hSw
        clear hSw
        go_simp
        try with_reducible rfl
       simp only [Act.put, List.setIfInBounds_toArray, List.set_cons_zero, List.set_cons_succ]
       refine wpAnyN_take (i := 8) (oi := ?o8_q) (v := ?v8_q) ?hi8_q (by kernel_rfl) (by kernel_rfl) (by kernel_rfl) (by kernel_rfl) (by decide) (by kernel_rfl) ?hQ8_q ?hy8_q (Below.drew (Below.refl _ _)) ?more8_q
       case hi8_q => rw [List.getElem?_toArray]; exact rfl
       case hQ8_q => exact fun _ _ _ h => h
       case hy8_q =>
        refine Or.inl ⟨by rfl, ?_⟩
        intro w' hSw
        obtain ⟨sz, sg, sx0, sx1, sx2, sx3, sy0, sy1, sy2, sy3, sz0, sz1, sz2, sz3, sf⟩ := S7.out.call hSw
        obtain ⟨⟨o60, o61, o62, o63⟩, -, o6z⟩ := (Own4.call (O67.out) hSw).facts
        obtain ⟨⟨o80, o81, o82, o83⟩, -, o8z⟩ := (Own4.call (O87.out) hSw).facts
        obtain ⟨⟨o90, o91, o92, o93⟩, -, o9z⟩ := (Own4.call (O97.out) hSw).facts
        clear hSw
        go_simp
        try with_reducible rfl
       simp only [Act.put, List.setIfInBounds_toArray, List.set_cons_zero, List.set_cons_succ]
       refine wpAnyN_takeF (i := 9) (oi := ?o9_q) (v := ?v9_q) ?hi9_q (by kernel_rfl) (by kernel_rfl) (by kernel_rfl) (by decide) ?hQ9_q ?hy9_q (Below.drew (Below.refl _ _)) ?more9_q
       case hi9_q => rw [List.getElem?_toArray]; exact rfl
       case hQ9_q => exact fun _ _ _ h => h
       case hy9_q =>
        refine Or.inl ⟨by rfl, ?_⟩
        intro w' hSw
        clear hSw
        go_simp
        try with_reducible rfl
       simp only [Act.put, List.setIfInBounds_toArray, List.set_cons_zero, List.set_cons_succ]
       refine wpAnyN_takeF (i := 10) (oi := ?o10_q) (v := ?v10_q) ?hi10_q (by kernel_rfl) (by kernel_rfl) (by kernel_rfl) (by decide) ?hQ10_q ?hy10_q (Below.drew (Below.refl _ _)) ?more10_q
       case hi10_q => rw [List.getElem?_toArray]; exact rfl
       case hQ10_q => exact fun _ _ _ h => h
       case hy10_q =>
        refine Or.inl ⟨by rfl, ?_⟩
        intro w' hSw
        clear hSw
        go_simp
        try with_reducible rfl
       simp only [Act.put, List.setIfInBounds_toArray, List.set_cons_zero, List.set_cons_succ]
       refine wpAnyN_takeF (i := 11) (oi := ?o11_q) (v := ?v11_q) ?hi11_q (by kernel_rfl) (by kernel_rfl) (by kernel_rfl) (by decide) ?hQ11_q ?hy11_q (Below.drew (Below.refl _ _)) ?more11_q
       case hi11_q => rw [List.getElem?_toArray]; exact rfl
       case hQ11_q => exact fun _ _ _ h => h
       case hy11_q =>
        refine Or.inl ⟨by rfl, ?_⟩
        intro w' hSw
        clear hSw
        go_simp
        try with_reducible rfl
       simp only [Act.put, List.setIfInBounds_toArray, List.set_cons_zero, List.set_cons_succ]
       refine wpAnyN_take (i := 12) (oi := ?o12_q) (v := ?v12_q) ?hi12_q (by kernel_rfl) (by kernel_rfl) (by kernel_rfl) (by kernel_rfl) (by decide) (by kernel_rfl) ?hQ12_q ?hy12_q (Below.drew (Below.refl _ _)) ?more12_q
       case hi12_q => rw [List.getElem?_toArray]; exact rfl
       case hQ12_q => exact fun _ _ _ h => h
       case hy12_q =>
        refine Or.inl ⟨by rfl, ?_⟩
        intro w' hSw
        obtain ⟨sz, sg, sx0, sx1, sx2, sx3, sy0, sy1, sy2, sy3, sz0, sz1, sz2, sz3, sf⟩ := S7.out.call hSw
        obtain ⟨⟨o60, o61, o62, o63⟩, -, o6z⟩ := (Own4.call (O67.out) hSw).facts
        obtain ⟨⟨o80, o81, o82, o83⟩, -, o8z⟩ := (Own4.call (O87.out) hSw).facts
        obtain ⟨⟨o90, o91, o92, o93⟩, -, o9z⟩ := (Own4.call (O97.out) hSw).facts
        clear hSw
        go_simp
        try with_reducible rfl
       simp only [Act.put, List.setIfInBounds_toArray, List.set_cons_zero, List.set_cons_succ]
       refine wpAnyN_take (i := 13) (oi := ?o13_q) (v := ?v13_q) ?hi13_q (by kernel_rfl) (by kernel_rfl) (by kernel_rfl) (by kernel_rfl) (by decide) (by kernel_rfl) ?hQ13_q ?hy13_q (Below.drew (Below.refl _ _)) ?more13_q
       case hi13_q => rw [List.getElem?_toArray]; exact rfl
       case hQ13_q => exact fun _ _ _ h => h
       case hy13_q =>
        refine Or.inl ⟨by rfl, ?_⟩
        intro w' hSw
        obtain ⟨sz, sg, sx0, sx1, sx2, sx3, sy0, sy1, sy2, sy3, sz0, sz1, sz2, sz3, sf⟩ := S7.out.call hSw
        obtain ⟨⟨o60, o61, o62, o63⟩, -, o6z⟩ := (Own4.call (O67.out) hSw).facts
        obtain ⟨⟨o80, o81, o82, o83⟩, -, o8z⟩ := (Own4.call (O87.out) hSw).facts
        obtain ⟨⟨o90, o91, o92, o93⟩, -, o9z⟩ := (Own4.call (O97.out) hSw).facts
        clear hSw
        go_simp
        try with_reducible rfl
       simp only [Act.put, List.setIfInBounds_toArray, List.set_cons_zero, List.set_cons_succ]
       refine wpAnyN_take (i := 14) (oi := ?o14_q) (v := ?v14_q) ?hi14_q (by kernel_rfl) (by kernel_rfl) (by kernel_rfl) (by kernel_rfl) (by decide) (by kernel_rfl) ?hQ14_q ?hy14_q (Below.drew (Below.refl _ _)) ?more14_q
       case hi14_q => rw [List.getElem?_toArray]; exact rfl
       case hQ14_q => exact fun _ _ _ h => h
       case hy14_q =>
        refine Or.inl ⟨by rfl, ?_⟩
        intro w' hSw
        obtain ⟨sz, sg, sx0, sx1, sx2, sx3, sy0, sy1, sy2, sy3, sz0, sz1, sz2, sz3, sf⟩ := S7.out.call hSw
        obtain ⟨⟨o60, o61, o62, o63⟩, -, o6z⟩ := (Own4.call (O67.out) hSw).facts
        obtain ⟨⟨o80, o81, o82, o83⟩, -, o8z⟩ := (Own4.call (O87.out) hSw).facts
        obtain ⟨⟨o90, o91, o92, o93⟩, -, o9z⟩ := (Own4.call (O97.out) hSw).facts
        clear hSw
        go_simp
        try with_reducible rfl
       simp only [Act.put, List.setIfInBounds_toArray, List.set_cons_zero, List.set_cons_succ]
       refine wpAnyN_take (i := 16) (oi := ?o16_q) (v := ?v16_q) ?hi16_q (by kernel_rfl) (by kernel_rfl) (by kernel_rfl) (by kernel_rfl) (by decide) (by kernel_rfl) ?hQ16_q ?hy16_q (Below.drew (Below.refl _ _)) ?more16_q
       case hi16_q => rw [List.getElem?_toArray]; exact rfl
       case hQ16_q => exact fun _ _ _ h => h
       case hy16_q =>
        refine Or.inl ⟨by rfl, ?_⟩
        intro w' hSw
        obtain ⟨sz, sg, sx0, sx1, sx2, sx3, sy0, sy1, sy2, sy3, sz0, sz1, sz2, sz3, sf⟩ := S7.out.call hSw
        obtain ⟨⟨o60, o61, o62, o63⟩, -, o6z⟩ := (Own4.call (O67.out) hSw).facts
        obtain ⟨⟨o80, o81, o82, o83⟩, -, o8z⟩ := (Own4.call (O87.out) hSw).facts
        obtain ⟨⟨o90, o91, o92, o93⟩, -, o9z⟩ := (Own4.call (O97.out) hSw).facts
        clear hSw
        go_simp
        try with_reducible rfl
       simp only [Act.put, List.setIfInBounds_toArray, List.set_cons_zero, List.set_cons_succ]
       refine wpAnyN_takeF (i := 18) (oi := ?o18_q) (v := ?v18_q) ?hi18_q (by kernel_rfl) (by kernel_rfl) (by kernel_rfl) (by decide) ?hQ18_q ?hy18_q (Below.drew (Below.refl _ _)) ?more18_q
       case hi18_q => rw [List.getElem?_toArray]; exact rfl
       case hQ18_q => exact fun _ _ _ h => h
       case hy18_q =>
        refine Or.inl ⟨by rfl, ?_⟩
        intro w' hSw
        clear hSw
        go_simp
        try with_reducible rfl
       simp only [Act.put, List.setIfInBounds_toArray, List.set_cons_zero, List.set_cons_succ]
       refine wpAnyN_takeF (i := 19) (oi := ?o19_q) (v := ?v19_q) ?hi19_q (by kernel_rfl) (by kernel_rfl) (by kernel_rfl) (by decide) ?hQ19_q ?hy19_q (Below.drew (Below.refl _ _)) ?more19_q
       case hi19_q => rw [List.getElem?_toArray]; exact rfl
       case hQ19_q => exact fun _ _ _ h => h
       case hy19_q =>
        refine Or.inl ⟨by rfl, ?_⟩
        intro w' hSw
        clear hSw
        go_simp
        try with_reducible rfl
       simp only [Act.put, List.setIfInBounds_toArray, List.set_cons_zero, List.set_cons_succ]
       refine wpAnyN_takeF (i := 20) (oi := ?o20_q) (v := ?v20_q) ?hi20_q (by kernel_rfl) (by kernel_rfl) (by kernel_rfl) (by decide) ?hQ20_q ?hy20_q (Below.drew (Below.refl _ _)) ?more20_q
       case hi20_q => rw [List.getElem?_toArray]; exact rfl
       case hQ20_q => exact fun _ _ _ h => h
       case hy20_q =>
        refine Or.inl ⟨by rfl, ?_⟩
        intro w' hSw
        clear hSw
        go_simp
        try with_reducible rfl
       simp only [Act.put, List.setIfInBounds_toArray, List.set_cons_zero, List.set_cons_succ]
       refine wpAnyN_take (i := 21) (oi := ?o21_q) (v := ?v21_q) ?hi21_q (by kernel_rfl) (by kernel_rfl) (by kernel_rfl) (by kernel_rfl) (by decide) (by kernel_rfl) ?hQ21_q ?hy21_q (Below.drew (Below.refl _ _)) ?more21_q
       case hi21_q => rw [List.getElem?_toArray]; exact rfl
       case hQ21_q => exact fun _ _ _ h => h
       case hy21_q =>
        refine Or.inl ⟨by rfl, ?_⟩
        intro w' hSw
        obtain ⟨sz, sg, sx0, sx1, sx2, sx3, sy0, sy1, sy2, sy3, sz0, sz1, sz2, sz3, sf⟩ := S7.out.call hSw
        obtain ⟨⟨o60, o61, o62, o63⟩, -, o6z⟩ := (Own4.call (O67.out) hSw).facts
        obtain ⟨⟨o80, o81, o82, o83⟩, -, o8z⟩ := (Own4.call (O87.out) hSw).facts
        obtain ⟨⟨o90, o91, o92, o93⟩, -, o9z⟩ := (Own4.call (O97.out) hSw).facts
        clear hSw
        go_simp
        try with_reducible rfl
       simp only [Act.put, List.setIfInBounds_toArray, List.set_cons_zero, List.set_cons_succ]
       refine wpAnyN_take (i := 22) (oi := ?o22_q) (v := ?v22_q) ?hi22_q (by kernel_rfl) (by kernel_rfl) (by kernel_rfl) (by kernel_rfl) (by decide) (by kernel_rfl) ?hQ22_q ?hy22_q (Below.drew (Below.refl _ _)) ?more22_q
       case hi22_q => rw [List.getElem?_toArray]; exact rfl
       case hQ22_q => exact fun _ _ _ h => h
       case hy22_q =>
        refine Or.inl ⟨by rfl, ?_⟩
        intro w' hSw
        obtain ⟨sz, sg, sx0, sx1, sx2, sx3, sy0, sy1, sy2, sy3, sz0, sz1, sz2, sz3, sf⟩ := S7.out.call hSw
        obtain ⟨⟨o60, o61, o62, o63⟩, -, o6z⟩ := (Own4.call (O67.out) hSw).facts
        obtain ⟨⟨o80, o81, o82, o83⟩, -, o8z⟩ := (Own4.call (O87.out) hSw).facts
        obtain ⟨⟨o90, o91, o92, o93⟩, -, o9z⟩ := (Own4.call (O97.out) hSw).facts
        clear hSw
        go_simp
        try with_reducible rfl
       simp only [Act.put, List.setIfInBounds_toArray, List.set_cons_zero, List.set_cons_succ]
       refine wpAnyN_take (i := 23) (oi := ?o23_q) (v := ?v23_q) ?hi23_q (by kernel_rfl) (by kernel_rfl) (by kernel_rfl) (by kernel_rfl) (by decide) (by kernel_rfl) ?hQ23_q ?hy23_q (Below.drew (Below.refl _ _)) ?more23_q
       case hi23_q => rw [List.getElem?_toArray]; exact rfl
       case hQ23_q => exact fun _ _ _ h => h
       case hy23_q =>
        refine Or.inl ⟨by rfl, ?_⟩
        intro w' hSw
        obtain ⟨sz, sg, sx0, sx1, sx2, sx3, sy0, sy1, sy2, sy3, sz0, sz1, sz2, sz3, sf⟩ := S7.out.call hSw
        obtain ⟨⟨o60, o61, o62, o63⟩, -, o6z⟩ := (Own4.call (O67.out) hSw).facts
        obtain ⟨⟨o80, o81, o82, o83⟩, -, o8z⟩ := (Own4.call (O87.out) hSw).facts
        obtain ⟨⟨o90, o91, o92, o93⟩, -, o9z⟩ := (Own4.call (O97.out) hSw).facts
        clear hSw
        go_simp
        try with_reducible rfl
       simp only [Act.put, List.setIfInBounds_toArray, List.set_cons_zero, List.set_cons_succ]
       refine wpAnyN_one (i := 15) (o := ?o15_q) (by kernel_rfl) ?hi15_q ?hw15_q ?st15_q
       case hi15_q => rw [List.getElem?_toArray]; exact rfl
       case hw15_q => exact rfl
       intro K hK
       have HK15 : Hid _ := hK
       clear hK
       go_simp
       refine (K11.out _ (F7.out.call (Below.drew (Below.refl _ _)))).mono ?_
       rintro e uq0 ⟨rfl, hq⟩
       have Iuq0 : Hid (Below w7.heap.size w7 uq0) := below_call0 (Below.drew (Below.refl _ _)) hq
       clear hq
       go_wp2_with fail
       refine HK15.out _ _ ⟨fun _ => Iuq0.out, ?_⟩
       clear HK15 K
       try simp only [Act.put, List.setIfInBounds_toArray, List.set_cons_zero, List.set_cons_succ]
       refine wpAnyN_one (i := 17) (o := ?o17_q) (by kernel_rfl) ?hi17_q ?hw17_q ?st17_q
       case hi17_q => rw [List.getElem?_toArray]; exact rfl
       case hw17_q => exact rfl
       intro K hK
       have HK17 : Hid _ := hK
       clear hK
       go_simp
       refine (K12.out _ (F7.out.call Iuq0.out)).mono ?_
       rintro e uq1 ⟨rfl, hq⟩
       have Iuq1 : Hid (Below w7.heap.size w7 uq1) := below_call0 Iuq0.out hq
       clear hq
       go_wp2_with fail
       refine HK17.out _ _ ⟨fun _ => Iuq1.out, ?_⟩
       clear HK17 K
       try simp only [Act.put, List.setIfInBounds_toArray, List.set_cons_zero, List.set_cons_succ]
       refine wpAnyN_one (i := 24) (o := ?o24_q) (by kernel_rfl) ?hi24_q ?hw24_q ?st24_q
       case hi24_q => rw [List.getElem?_toArray]; exact rfl
       case hw24_q => exact rfl
       intro K hK
       have HK24 : Hid _ := hK
       clear hK
       go_simp
       refine (K13.out _ (F7.out.call Iuq1.out)).mono ?_
       rintro e uq2 ⟨rfl, hq⟩
       have Iuq2 : Hid (Below w7.heap.size w7 uq2) := below_call0 Iuq1.out hq
       clear hq
       go_wp2_with fail
       refine HK24.out _ _ ⟨fun _ => Iuq2.out, ?_⟩
       clear HK24 K
       try simp only [Act.put, List.setIfInBounds_toArray, List.set_cons_zero, List.set_cons_succ]
       refine wpAnyN_one (i := 25) (o := ?o25_q) (by kernel_rfl) ?hi25_q ?hw25_q ?st25_q
       case hi25_q => rw [List.getElem?_toArray]; exact rfl
       case hw25_q => exact rfl
       intro K hK
       have HK25 : Hid _ := hK
       clear hK
       go_simp
       refine (K14.out _ (F7.out.call Iuq2.out)).mono ?_
       rintro e uq3 ⟨rfl, hq⟩
       have Iuq3 : Hid (Below w7.heap.size w7 uq3) := below_call0 Iuq2.out hq
       clear hq
       obtain ⟨sz, sg, sx0, sx1, sx2, sx3, sy0, sy1, sy2, sy3, sz0, sz1, sz2, sz3, sf⟩ := S7.out.call Iuq3.out
       go_wp2_with fail
       refine HK25.out _ _ ⟨fun _ => Iuq3.out, ?_⟩
       clear HK25 K
       try simp only [Act.put, List.setIfInBounds_toArray, List.set_cons_zero, List.set_cons_succ]
       refine wpAnyN_takeF (i := 26) (oi := ?o26_q) (v := ?v26_q) ?hi26_q (by kernel_rfl) (by kernel_rfl) (by kernel_rfl) (by decide) ?hQ26_q ?hy26_q Iuq3.out ?more26_q
       case hi26_q => rw [List.getElem?_toArray]; exact rfl
       case hQ26_q => exact fun _ _ _ h => h
       case hy26_q =>
        refine Or.inl ⟨by rfl, ?_⟩
        intro w' hSw
        clear hSw
        go_simp
        try with_reducible rfl
       simp only [Act.put, List.setIfInBounds_toArray, List.set_cons_zero, List.set_cons_succ]
       refine wpAnyN_takeF (i := 27) (oi := ?o27_q) (v := ?v27_q) ?hi27_q (by kernel_rfl) (by kernel_rfl) (by kernel_rfl) (by decide) ?hQ27_q ?hy27_q Iuq3.out ?more27_q
       case hi27_q => rw [List.getElem?_toArray]; exact rfl
       case hQ27_q => exact fun _ _ _ h => h
       case hy27_q =>
        refine Or.inl ⟨by rfl, ?_⟩
        intro w' hSw
        clear hSw
        go_simp
        try with_reducible rfl
       simp only [Act.put, List.setIfInBounds_toArray, List.set_cons_zero, List.set_cons_succ]
       refine wpAnyN_one (i := 28) (o := ?o28_q) (by kernel_rfl) ?hi28_q ?hw28_q ?st28_q
       case hi28_q => rw [List.getElem?_toArray]; exact rfl
       case hw28_q => exact rfl
       intro K hK
       have HK28 : Hid _ := hK
       clear hK
       go_simp
       refine HK28.out _ _ ⟨fun h => absurd h (by decide +kernel), ?_⟩
       clear HK28 K
       try simp only [Act.put, List.setIfInBounds_toArray, List.set_cons_zero, List.set_cons_succ]
       refine wpAnyN_done (by kernel_rfl) ?_ _
       go_wp2_with fail
       clear sz sg sx0 sx1 sx2 sx3 sy0 sy1 sy2 sy3 sz0 sz1 sz2 sz3 sf
       obtain ⟨w8, hw⟩ : ∃ u, u = ((((uq3.setCell ⟨s, 1, none⟩ (.int .u64 (limb X 0 : Nat))).setCell ⟨s, 2, none⟩ (.int .u64 (limb X 1 : Nat))).setCell ⟨s, 3, none⟩ (.int .u64 (limb X 2 : Nat))).setCell ⟨s, 4, none⟩ (.int .u64 (limb X 3 : Nat))) := ⟨_, rfl⟩
       rw [← hw]
       have F8 : Hid (FieldB w8 g PP) := by rw [hw]; exact (F7.out.call Iuq3.out).put4s HZ.out.1
       have S8 : Hid (SpotB w8 s g X y Z) := by rw [hw]; exact (S7.out.call Iuq3.out).setx
       have W8 : Hid (ButC s w w8) := by rw [hw]; exact (W7.out.call Iuq3.out).put4s
       have O58 : Hid (Own4 w8 b5 A) := by rw [hw]; exact (O57.out.call Iuq3.out).put4s NE5.out
       have O68 : Hid (Own4 w8 b6 U) := by rw [hw]; exact (O67.out.call Iuq3.out).put4s NE6.out
       have O88 : Hid (Own4 w8 b8 a3) := by rw [hw]; exact (O87.out.call Iuq3.out).put4s NE8.out
       have O98 : Hid (Own4 w8 b9 mid) := by rw [hw]; exact (O97.out.call Iuq3.out).put4s NE9.out
       clear hw F7 S7 W7 O57 O67 O87 O97 Iuq0 Iuq1 Iuq2 Iuq3
       refine wp_region_N (fun w' => Below w8.heap.size w8 w') 34 35 rfl (by kernel_rfl) ?_
       refine wpAnyN_takeF (i := 0) (oi := ?o0_r) (v := ?v0_r) ?hi0_r (by kernel_rfl) (by kernel_rfl) (by kernel_rfl) (by decide) ?hQ0_r ?hy0_r (Below.drew (Below.refl _ _)) ?more0_r
       case hi0_r => rw [List.getElem?_toArray]; exact rfl
       case hQ0_r => exact fun _ _ _ h => h
       case hy0_r =>
        refine Or.inl ⟨by rfl, ?_⟩
        intro w' hSw
        clear hSw
        go_simp
        try with_reducible rfl
       simp only [Act.put, List.setIfInBounds_toArray, List.set_cons_zero, List.set_cons_succ]
       refine wpAnyN_takeF (i := 1) (oi := ?o1_r) (v := ?v1_r) ?hi1_r (by kernel_rfl) (by kernel_rfl) (by kernel_rfl) (by decide) ?hQ1_r ?hy1_r (Below.drew (Below.refl _ _)) ?more1_r
       case hi1_r => rw [List.getElem?_toArray]; exact rfl
       case hQ1_r => exact fun _ _ _ h => h
       case hy1_r =>
        refine Or.inl ⟨by rfl, ?_⟩
        intro w' hSw
        clear hSw
        go_simp
        try with_reducible rfl
       simp only [Act.put, List.setIfInBounds_toArray, List.set_cons_zero, List.set_cons_succ]
       refine wpAnyN_takeF (i := 2) (oi := ?o2_r) (v := ?v2_r) ?hi2_r (by kernel_rfl) (by kernel_rfl) (by kernel_rfl) (by decide) ?hQ2_r ?hy2_r (Below.drew (Below.refl _ _)) ?more2_r
       case hi2_r => rw [List.getElem?_toArray]; exact rfl
       case hQ2_r => exact fun _ _ _ h => h
       case hy2_r =>
        refine Or.inl ⟨by rfl, ?_⟩
        intro w' hSw
        clear hSw
        go_simp
        try with_reducible rfl
       simp only [Act.put, List.setIfInBounds_toArray, List.set_cons_zero, List.set_cons_succ]
       refine wpAnyN_takeF (i := 3) (oi := ?o3_r) (v := ?v3_r) ?hi3_r (by kernel_rfl) (by kernel_rfl) (by kernel_rfl) (by decide) ?hQ3_r ?hy3_r (Below.drew (Below.refl _ _)) ?more3_r
       case hi3_r => rw [List.getElem?_toArray]; exact rfl
       case hQ3_r => exact fun _ _ _ h => h
       case hy3_r =>
        refine Or.inl ⟨by rfl, ?_⟩
        intro w' hSw
        clear hSw
        go_simp
        try with_reducible rfl
       simp only [Act.put, List.setIfInBounds_toArray, List.set_cons_zero, List.set_cons_succ]
       refine wpAnyN_take (i := 4) (oi := ?o4_r) (v := ?v4_r) ?hi4_r (by kernel_rfl) (by kernel_rfl) (by kernel_rfl) (by kernel_rfl) (by decide) (by kernel_rfl) ?hQ4_r ?hy4_r (Below.drew (Below.refl _ _)) ?more4_r
       case hi4_r => rw [List.getElem?_toArray]; exact rfl
       case hQ4_r => exact fun _ _ _ h => h
       case hy4_r =>
        refine Or.inl ⟨by rfl, ?_⟩
        intro w' hSw
        obtain ⟨sz, sg, sx0, sx1, sx2, sx3, sy0, sy1, sy2, sy3, sz0, sz1, sz2, sz3, sf⟩ := S8.out.call hSw
        obtain ⟨⟨o60, o61, o62, o63⟩, -, o6z⟩ := (Own4.call (O68.out) hSw).facts
        obtain ⟨⟨o80, o81, o82, o83⟩, -, o8z⟩ := (Own4.call (O88.out) hSw).facts
        obtain ⟨⟨o90, o91, o92, o93⟩, -, o9z⟩ := (Own4.call (O98.out) hSw).facts
        clear hSw
        go_simp
        try with_reducible rfl
       simp only [Act.put, List.setIfInBounds_toArray, List.set_cons_zero, List.set_cons_succ]
       refine wpAnyN_takeF (i := 5) (oi := ?o5_r) (v := ?v5_r) ?hi5_r (by kernel_rfl) (by kernel_rfl) (by kernel_rfl) (by decide) ?hQ5_r ?hy5_r (Below.drew (Below.refl _ _)) ?more5_r
       case hi5_r => rw [List.getElem?_toArray]; exact rfl
       case hQ5_r => exact fun _ _ _ h => h
       case hy5_r =>
        refine Or.inl ⟨by rfl, ?_⟩
        intro w' hSw
        clear hSw
        go_simp
        try with_reducible rfl
       simp only [Act.put, List.setIfInBounds_toArray, List.set_cons_zero, List.set_cons_succ]
       refine wpAnyN_takeF (i := 6) (oi := ?o6_r) (v := ?v6_r) ?hi6_r (by kernel_rfl) (by kernel_rfl) (by kernel_rfl) (by decide) ?hQ6_r ?hy6_r (Below.drew (Below.refl _ _)) ?more6_r
       case hi6_r => rw [List.getElem?_toArray]; exact rfl
       case hQ6_r => exact fun _ _ _ h => h
       case hy6_r =>
        refine Or.inl ⟨by rfl, ?_⟩
        intro w' hSw
        clear hSw
        go_simp
        try with_reducible rfl
       simp only [Act.put, List.setIfInBounds_toArray, List.set_cons_zero, List.set_cons_succ]
       refine wpAnyN_takeF (i := 7) (oi := ?o7_r) (v := ?v7_r) ?hi7_r (by kernel_rfl) (by kernel_rfl) (by kernel_rfl) (by decide) ?hQ7_r ?hy7_r (Below.drew (Below.refl _ _)) ?more7_r
       case hi7_r => rw [List.getElem?_toArray]; exact rfl
       case hQ7_r => exact fun _ _ _ h => h
       case hy7_r =>
        refine Or.inl ⟨by rfl, ?_⟩
        intro w' hSw
        clear hSw
        go_simp
        try with_reducible rfl
       simp only [Act.put, List.setIfInBounds_toArray, List.set_cons_zero, List.set_cons_succ]
       refine wpAnyN_take (i := 8) (oi := ?o8_r) (v := ?v8_r) ?hi8_r (by kernel_rfl) (by kernel_rfl) (by kernel_rfl) (by kernel_rfl) (by decide) (by kernel_rfl) ?hQ8_r ?hy8_r (Below.drew (Below.refl _ _)) ?more8_r
       case hi8_r => rw [List.getElem?_toArray]; exact rfl
       case hQ8_r => exact fun _ _ _ h => h
       case hy8_r =>
        refine Or.inl ⟨by rfl, ?_⟩
        intro w' hSw
        obtain ⟨sz, sg, sx0, sx1, sx2, sx3, sy0, sy1, sy2, sy3, sz0, sz1, sz2, sz3, sf⟩ := S8.out.call hSw
        obtain ⟨⟨o60, o61, o62, o63⟩, -, o6z⟩ := (Own4.call (O68.out) hSw).facts
        obtain ⟨⟨o80, o81, o82, o83⟩, -, o8z⟩ := (Own4.call (O88.out) hSw).facts
        obtain ⟨⟨o90, o91, o92, o93⟩, -, o9z⟩ := (Own4.call (O98.out) hSw).facts
        clear hSw
        go_simp
        try with_reducible rfl
       simp only [Act.put, List.setIfInBounds_toArray, List.set_cons_zero, List.set_cons_succ]
       refine wpAnyN_take (i := 9) (oi := ?o9_r) (v := ?v9_r) ?hi9_r (by kernel_rfl) (by kernel_rfl) (by kernel_rfl) (by kernel_rfl) (by decide) (by kernel_rfl) ?hQ9_r ?hy9_r (Below.drew (Below.refl _ _)) ?more9_r
       case hi9_r => rw [List.getElem?_toArray]; exact rfl
       case hQ9_r => exact fun _ _ _ h => h
       case hy9_r =>
        refine Or.inl ⟨by rfl, ?_⟩
        intro w' hSw
        obtain ⟨sz, sg, sx0, sx1, sx2, sx3, sy0, sy1, sy2, sy3, sz0, sz1, sz2, sz3, sf⟩ := S8.out.call hSw
        obtain ⟨⟨o60, o61, o62, o63⟩, -, o6z⟩ := (Own4.call (O68.out) hSw).facts
        obtain ⟨⟨o80, o81, o82, o83⟩, -, o8z⟩ := (Own4.call (O88.out) hSw).facts
        obtain ⟨⟨o90, o91, o92, o93⟩, -, o9z⟩ := (Own4.call (O98.out) hSw).facts
        clear hSw
        go_simp
        try with_reducible rfl
       simp only [Act.put, List.setIfInBounds_toArray, List.set_cons_zero, List.set_cons_succ]
       refine wpAnyN_takeF (i := 10) (oi := ?o10_r) (v := ?v10_r) ?hi10_r (by kernel_rfl) (by kernel_rfl) (by kernel_rfl) (by decide) ?hQ10_r ?hy10_r (Below.drew (Below.refl _ _)) ?more10_r
       case hi10_r => rw [List.getElem?_toArray]; exact rfl
       case hQ10_r => exact fun _ _ _ h => h
       case hy10_r =>
        refine Or.inl ⟨by rfl, ?_⟩
        intro w' hSw
        clear hSw
        go_simp
        try with_reducible rfl
       simp only [Act.put, List.setIfInBounds_toArray, List.set_cons_zero, List.set_cons_succ]
       refine wpAnyN_takeF (i := 11) (oi := ?o11_r) (v := ?v11_r) ?hi11_r (by kernel_rfl) (by kernel_rfl) (by kernel_rfl) (by decide) ?hQ11_r ?hy11_r (Below.drew (Below.refl _ _)) ?more11_r
       case hi11_r => rw [List.getElem?_toArray]; exact rfl
       case hQ11_r => exact fun _ _ _ h => h
       case hy11_r =>
        refine Or.inl ⟨by rfl, ?_⟩
        intro w' hSw
        clear hSw
        go_simp
        try with_reducible rfl
       simp only [Act.put, List.setIfInBounds_toArray, List.set_cons_zero, List.set_cons_succ]
       refine wpAnyN_takeF (i := 12) (oi := ?o12_r) (v := ?v12_r) ?hi12_r (by kernel_rfl) (by kernel_rfl) (by kernel_rfl) (by decide) ?hQ12_r ?hy12_r (Below.drew (Below.refl _ _)) ?more12_r
       case hi12_r => rw [List.getElem?_toArray]; exact rfl
       case hQ12_r => exact fun _ _ _ h => h
       case hy12_r =>
        refine Or.inl ⟨by rfl, ?_⟩
        intro w' hSw
        clear hSw
        go_simp
        try with_reducible rfl
       simp only [Act.put, List.setIfInBounds_toArray, List.set_cons_zero, List.set_cons_succ]
       refine wpAnyN_take (i := 13) (oi := ?o13_r) (v := ?v13_r) ?hi13_r (by kernel_rfl) (by kernel_rfl) (by kernel_rfl) (by kernel_rfl) (by decide) (by kernel_rfl) ?hQ13_r ?hy13_r (Below.drew (Below.refl _ _)) ?more13_r
       case hi13_r => rw [List.getElem?_toArray]; exact rfl
       case hQ13_r => exact fun _ _ _ h => h
       case hy13_r =>
        refine Or.inl ⟨by rfl, ?_⟩
        intro w' hSw
        obtain ⟨sz, sg, sx0, sx1, sx2, sx3, sy0, sy1, sy2, sy3, sz0, sz1, sz2, sz3, sf⟩ := S8.out.call hSw
        obtain ⟨⟨o60, o61, o62, o63⟩, -, o6z⟩ := (Own4.call (O68.out) hSw).facts
        obtain ⟨⟨o80, o81, o82, o83⟩, -, o8z⟩ := (Own4.call (O88.out) hSw).facts
        obtain ⟨⟨o90, o91, o92, o93⟩, -, o9z⟩ := (Own4.call (O98.out) hSw).facts
        clear hSw
        go_simp
        try with_reducible rfl
       simp only [Act.put, List.setIfInBounds_toArray, List.set_cons_zero, List.set_cons_succ]
       refine wpAnyN_take (i := 14) (oi := ?o14_r) (v := ?v14_r) ?hi14_r (by kernel_rfl) (by kernel_rfl) (by kernel_rfl) (by kernel_rfl) (by decide) (by kernel_rfl) ?hQ14_r ?hy14_r (Below.drew (Below.refl _ _)) ?more14_r
       case hi14_r => rw [List.getElem?_toArray]; exact rfl
       case hQ14_r => exact fun _ _ _ h => h
       case hy14_r =>
        refine Or.inl ⟨by rfl, ?_⟩
        intro w' hSw
        obtain ⟨sz, sg, sx0, sx1, sx2, sx3, sy0, sy1, sy2, sy3, sz0, sz1, sz2, sz3, sf⟩ := S8.out.call hSw
        obtain ⟨⟨o60, o61, o62, o63⟩, -, o6z⟩ := (Own4.call (O68.out) hSw).facts
        obtain ⟨⟨o80, o81, o82, o83⟩, -, o8z⟩ := (Own4.call (O88.out) hSw).facts
        obtain ⟨⟨o90, o91, o92, o93⟩, -, o9z⟩ := (Own4.call (O98.out) hSw).facts
        clear hSw
        go_simp
        try with_reducible rfl
       simp only [Act.put, List.setIfInBounds_toArray, List.set_cons_zero, List.set_cons_succ]
       refine wpAnyN_takeF (i := 15) (oi := ?o15_r) (v := ?v15_r) ?hi15_r (by kernel_rfl) (by kernel_rfl) (by kernel_rfl) (by decide) ?hQ15_r ?hy15_r (Below.drew (Below.refl _ _)) ?more15_r
       case hi15_r => rw [List.getElem?_toArray]; exact rfl
       case hQ15_r => exact fun _ _ _ h => h
       case hy15_r =>
        refine Or.inl ⟨by rfl, ?_⟩
        intro w' hSw
        clear hSw
        go_simp
        try with_reducible rfl
       simp only [Act.put, List.setIfInBounds_toArray, List.set_cons_zero, List.set_cons_succ]
       refine wpAnyN_takeF (i := 16) (oi := ?o16_r) (v := ?v16_r) ?hi16_r (by kernel_rfl) (by kernel_rfl) (by kernel_rfl) (by decide) ?hQ16_r ?hy16_r (Below.drew (Below.refl _ _)) ?more16_r
       case hi16_r => rw [List.getElem?_toArray]; exact rfl
       case hQ16_r => exact fun _ _ _ h => h
       case hy16_r =>
        refine Or.inl ⟨by rfl, ?_⟩
        intro w' hSw
        clear hSw
        go_simp
        try with_reducible rfl
       simp only [Act.put, List.setIfInBounds_toArray, List.set_cons_zero, List.set_cons_succ]
       refine wpAnyN_takeF (i := 17) (oi := ?o17_r) (v := ?v17_r) ?hi17_r (by kernel_rfl) (by kernel_rfl) (by kernel_rfl) (by decide) ?hQ17_r ?hy17_r (Below.drew (Below.refl _ _)) ?more17_r
       case hi17_r => rw [List.getElem?_toArray]; exact rfl
       case hQ17_r => exact fun _ _ _ h => h
       case hy17_r =>
        refine Or.inl ⟨by rfl, ?_⟩
        intro w' hSw
        clear hSw
        go_simp
        try with_reducible rfl
       simp only [Act.put, List.setIfInBounds_toArray, List.set_cons_zero, List.set_cons_succ]
       refine wpAnyN_take (i := 18) (oi := ?o18_r) (v := ?v18_r) ?hi18_r (by kernel_rfl) (by kernel_rfl) (by kernel_rfl) (by kernel_rfl) (by decide) (by kernel_rfl) ?hQ18_r ?hy18_r (Below.drew (Below.refl _ _)) ?more18_r
       case hi18_r => rw [List.getElem?_toArray]; exact rfl
       case hQ18_r => exact fun _ _ _ h => h
       case hy18_r =>
        refine Or.inl ⟨by rfl, ?_⟩
        intro w' hSw
        obtain ⟨sz, sg, sx0, sx1, sx2, sx3, sy0, sy1, sy2, sy3, sz0, sz1, sz2, sz3, sf⟩ := S8.out.call hSw
        obtain ⟨⟨o60, o61, o62, o63⟩, -, o6z⟩ := (Own4.call (O68.out) hSw).facts
        obtain ⟨⟨o80, o81, o82, o83⟩, -, o8z⟩ := (Own4.call (O88.out) hSw).facts
        obtain ⟨⟨o90, o91, o92, o93⟩, -, o9z⟩ := (Own4.call (O98.out) hSw).facts
        clear hSw
        go_simp
        try with_reducible rfl
       simp only [Act.put, List.setIfInBounds_toArray, List.set_cons_zero, List.set_cons_succ]
       refine wpAnyN_takeF (i := 21) (oi := ?o21_r) (v := ?v21_r) ?hi21_r (by kernel_rfl) (by kernel_rfl) (by kernel_rfl) (by decide) ?hQ21_r ?hy21_r (Below.drew (Below.refl _ _)) ?more21_r
       case hi21_r => rw [List.getElem?_toArray]; exact rfl
       case hQ21_r => exact fun _ _ _ h => h
       case hy21_r =>
        refine Or.inl ⟨by rfl, ?_⟩
        intro w' hSw
        clear hSw
        go_simp
        try with_reducible rfl
       simp only [Act.put, List.setIfInBounds_toArray, List.set_cons_zero, List.set_cons_succ]
       refine wpAnyN_takeF (i := 22) (oi := ?o22_r) (v := ?v22_r) ?hi22_r (by kernel_rfl) (by kernel_rfl) (by kernel_rfl) (by decide) ?hQ22_r ?hy22_r (Below.drew (Below.refl _ _)) ?more22_r
       case hi22_r => rw [List.getElem?_toArray]; exact rfl
       case hQ22_r => exact fun _ _ _ h => h
       case hy22_r =>
        refine Or.inl ⟨by rfl, ?_⟩
        intro w' hSw
        clear hSw
        go_simp
        try with_reducible rfl
       simp only [Act.put, List.setIfInBounds_toArray, List.set_cons_zero, List.set_cons_succ]
       refine wpAnyN_takeF (i := 23) (oi := ?o23_r) (v := ?v23_r) ?hi23_r (by kernel_rfl) (by kernel_rfl) (by kernel_rfl) (by decide) ?hQ23_r ?hy23_r (Below.drew (Below.refl _ _)) ?more23_r
       case hi23_r => rw [List.getElem?_toArray]; exact rfl
       case hQ23_r => exact fun _ _ _ h => h
       case hy23_r =>
        refine Or.inl ⟨by rfl, ?_⟩
        intro w' hSw
        clear hSw
        go_simp
        try with_reducible rfl
       simp only [Act.put, List.setIfInBounds_toArray, List.set_cons_zero, List.set_cons_succ]
       refine wpAnyN_take (i := 24) (oi := ?o24_r) (v := ?v24_r) ?hi24_r (by kernel_rfl) (by kernel_rfl) (by kernel_rfl) (by kernel_rfl) (by decide) (by kernel_rfl) ?hQ24_r ?hy24_r (Below.drew (Below.refl _ _)) ?more24_r
       case hi24_r => rw [List.getElem?_toArray]; exact rfl
       case hQ24_r => exact fun _ _ _ h => h
       case hy24_r =>
        refine Or.inl ⟨by rfl, ?_⟩
        intro w' hSw
        obtain ⟨sz, sg, sx0, sx1, sx2, sx3, sy0, sy1, sy2, sy3, sz0, sz1, sz2, sz3, sf⟩ := S8.out.call hSw
        obtain ⟨⟨o60, o61, o62, o63⟩, -, o6z⟩ := (Own4.call (O68.out) hSw).facts
        obtain ⟨⟨o80, o81, o82, o83⟩, -, o8z⟩ := (Own4.call (O88.out) hSw).facts
        obtain ⟨⟨o90, o91, o92, o93⟩, -, o9z⟩ := (Own4.call (O98.out) hSw).facts
        clear hSw
        go_simp
        try with_reducible rfl
       simp only [Act.put, List.setIfInBounds_toArray, List.set_cons_zero, List.set_cons_succ]
       refine wpAnyN_takeF (i := 25) (oi := ?o25_r) (v := ?v25_r) ?hi25_r (by kernel_rfl) (by kernel_rfl) (by kernel_rfl) (by decide) ?hQ25_r ?hy25_r (Below.drew (Below.refl _ _)) ?more25_r
       case hi25_r => rw [List.getElem?_toArray]; exact rfl
       case hQ25_r => exact fun _ _ _ h => h
       case hy25_r =>
        refine Or.inl ⟨by rfl, ?_⟩
        intro w' hSw
        clear hSw
        go_simp
        try with_reducible rfl
       simp only [Act.put, List.setIfInBounds_toArray, List.set_cons_zero, List.set_cons_succ]
       refine wpAnyN_takeF (i := 26) (oi := ?o26_r) (v := ?v26_r) ?hi26_r (by kernel_rfl) (by kernel_rfl) (by kernel_rfl) (by decide) ?hQ26_r ?hy26_r (Below.drew (Below.refl _ _)) ?more26_r
       case hi26_r => rw [List.getElem?_toArray]; exact rfl
       case hQ26_r => exact fun _ _ _ h => h
       case hy26_r =>
        refine Or.inl ⟨by rfl, ?_⟩
        intro w' hSw
        clear hSw
        go_simp
        try with_reducible rfl
       simp only [Act.put, List.setIfInBounds_toArray, List.set_cons_zero, List.set_cons_succ]
       refine wpAnyN_takeF (i := 27) (oi := ?o27_r) (v := ?v27_r) ?hi27_r (by kernel_rfl) (by kernel_rfl) (by kernel_rfl) (by decide) ?hQ27_r ?hy27_r (Below.drew (Below.refl _ _)) ?more27_r
       case hi27_r => rw [List.getElem?_toArray]; exact rfl
       case hQ27_r => exact fun _ _ _ h => h
       case hy27_r =>
        refine Or.inl ⟨by rfl, ?_⟩
        intro w' hSw
        clear hSw
        go_simp
        try with_reducible rfl
       simp only [Act.put, List.setIfInBounds_toArray, List.set_cons_zero, List.set_cons_succ]
       refine wpAnyN_take (i := 28) (oi := ?o28_r) (v := ?v28_r) ?hi28_r (by kernel_rfl) (by kernel_rfl) (by kernel_rfl) (by kernel_rfl) (by decide) (by kernel_rfl) ?hQ28_r ?hy28_r (Below.drew (Below.refl _ _)) ?more28_r
       case hi28_r => rw [List.getElem?_toArray]; exact rfl
       case hQ28_r => exact fun _ _ _ h => h
       case hy28_r =>
        refine Or.inl ⟨by rfl, ?_⟩
        intro w' hSw
        obtain ⟨sz, sg, sx0, sx1, sx2, sx3, sy0, sy1, sy2, sy3, sz0, sz1, sz2, sz3, sf⟩ := S8.out.call hSw
        obtain ⟨⟨o60, o61, o62, o63⟩, -, o6z⟩ := (Own4.call (O68.out) hSw).facts
        obtain ⟨⟨o80, o81, o82, o83⟩, -, o8z⟩ := (Own4.call (O88.out) hSw).facts
        obtain ⟨⟨o90, o91, o92, o93⟩, -, o9z⟩ := (Own4.call (O98.out) hSw).facts
        clear hSw
        go_simp
        try with_reducible rfl
       simp only [Act.put, List.setIfInBounds_toArray, List.set_cons_zero, List.set_cons_succ]
       refine wpAnyN_take (i := 29) (oi := ?o29_r) (v := ?v29_r) ?hi29_r (by kernel_rfl) (by kernel_rfl) (by kernel_rfl) (by kernel_rfl) (by decide) (by kernel_rfl) ?hQ29_r ?hy29_r (Below.drew (Below.refl _ _)) ?more29_r
       case hi29_r => rw [List.getElem?_toArray]; exact rfl
       case hQ29_r => exact fun _ _ _ h => h
       case hy29_r =>
        refine Or.inl ⟨by rfl, ?_⟩
        intro w' hSw
        obtain ⟨sz, sg, sx0, sx1, sx2, sx3, sy0, sy1, sy2, sy3, sz0, sz1, sz2, sz3, sf⟩ := S8.out.call hSw
        obtain ⟨⟨o60, o61, o62, o63⟩, -, o6z⟩ := (Own4.call (O68.out) hSw).facts
        obtain ⟨⟨o80, o81, o82, o83⟩, -, o8z⟩ := (Own4.call (O88.out) hSw).facts
        obtain ⟨⟨o90, o91, o92, o93⟩, -, o9z⟩ := (Own4.call (O98.out) hSw).facts
        clear hSw
        go_simp
        try with_reducible rfl
       simp only [Act.put, List.setIfInBounds_toArray, List.set_cons_zero, List.set_cons_succ]
       refine wpAnyN_one (i := 19) (o := ?o19_r) (by kernel_rfl) ?hi19_r ?hw19_r ?st19_r
       case hi19_r => rw [List.getElem?_toArray]; exact rfl
       case hw19_r => exact rfl
       intro K hK
       have HK19 : Hid _ := hK
       clear hK
       go_simp
       refine (K15.out _ (F8.out.call (Below.drew (Below.refl _ _)))).mono ?_
       rintro e ur0 ⟨rfl, hq⟩
       have Iur0 : Hid (Below w8.heap.size w8 ur0) := below_call0 (Below.drew (Below.refl _ _)) hq
       clear hq
       go_wp2_with fail
       refine HK19.out _ _ ⟨fun _ => Iur0.out, ?_⟩
       clear HK19 K
       try simp only [Act.put, List.setIfInBounds_toArray, List.set_cons_zero, List.set_cons_succ]
       refine wpAnyN_one (i := 20) (o := ?o20_r) (by kernel_rfl) ?hi20_r ?hw20_r ?st20_r
       case hi20_r => rw [List.getElem?_toArray]; exact rfl
       case hw20_r => exact rfl
       intro K hK
       have HK20 : Hid _ := hK
       clear hK
       go_simp
       refine (K16.out _ (F8.out.call Iur0.out)).mono ?_
       rintro e ur1 ⟨rfl, hq⟩
       have Iur1 : Hid (Below w8.heap.size w8 ur1) := below_call0 Iur0.out hq
       clear hq
       go_wp2_with fail
       refine HK20.out _ _ ⟨fun _ => Iur1.out, ?_⟩
       clear HK20 K
       try simp only [Act.put, List.setIfInBounds_toArray, List.set_cons_zero, List.set_cons_succ]
       refine wpAnyN_one (i := 30) (o := ?o30_r) (by kernel_rfl) ?hi30_r ?hw30_r ?st30_r
       case hi30_r => rw [List.getElem?_toArray]; exact rfl
       case hw30_r => exact rfl
       intro K hK
       have HK30 : Hid _ := hK
       clear hK
       go_simp
       refine (K17.out _ (F8.out.call Iur1.out)).mono ?_
       rintro e ur2 ⟨rfl, hq⟩
       have Iur2 : Hid (Below w8.heap.size w8 ur2) := below_call0 Iur1.out hq
       clear hq
       go_wp2_with fail
       refine HK30.out _ _ ⟨fun _ => Iur2.out, ?_⟩
       clear HK30 K
       try simp only [Act.put, List.setIfInBounds_toArray, List.set_cons_zero, List.set_cons_succ]
       refine wpAnyN_one (i := 31) (o := ?o31_r) (by kernel_rfl) ?hi31_r ?hw31_r ?st31_r
       case hi31_r => rw [List.getElem?_toArray]; exact rfl
       case hw31_r => exact rfl
       intro K hK
       have HK31 : Hid _ := hK
       clear hK
       go_simp
       refine (K18.out _ (F8.out.call Iur2.out)).mono ?_
       rintro e ur3 ⟨rfl, hq⟩
       have Iur3 : Hid (Below w8.heap.size w8 ur3) := below_call0 Iur2.out hq
       clear hq
       obtain ⟨sz, sg, sx0, sx1, sx2, sx3, sy0, sy1, sy2, sy3, sz0, sz1, sz2, sz3, sf⟩ := S8.out.call Iur3.out
       go_wp2_with fail
       refine HK31.out _ _ ⟨fun _ => Iur3.out, ?_⟩
       clear HK31 K
       try simp only [Act.put, List.setIfInBounds_toArray, List.set_cons_zero, List.set_cons_succ]
       refine wpAnyN_takeF (i := 32) (oi := ?o32_r) (v := ?v32_r) ?hi32_r (by kernel_rfl) (by kernel_rfl) (by kernel_rfl) (by decide) ?hQ32_r ?hy32_r Iur3.out ?more32_r
       case hi32_r => rw [List.getElem?_toArray]; exact rfl
       case hQ32_r => exact fun _ _ _ h => h
       case hy32_r =>
        refine Or.inl ⟨by rfl, ?_⟩
        intro w' hSw
        clear hSw
        go_simp
        try with_reducible rfl
       simp only [Act.put, List.setIfInBounds_toArray, List.set_cons_zero, List.set_cons_succ]
       refine wpAnyN_takeF (i := 33) (oi := ?o33_r) (v := ?v33_r) ?hi33_r (by kernel_rfl) (by kernel_rfl) (by kernel_rfl) (by decide) ?hQ33_r ?hy33_r Iur3.out ?more33_r
       case hi33_r => rw [List.getElem?_toArray]; exact rfl
       case hQ33_r => exact fun _ _ _ h => h
       case hy33_r =>
        refine Or.inl ⟨by rfl, ?_⟩
        intro w' hSw
        clear hSw
        go_simp
        try with_reducible rfl
       simp only [Act.put, List.setIfInBounds_toArray, List.set_cons_zero, List.set_cons_succ]
       refine wpAnyN_one (i := 34) (o := ?o34_r) (by kernel_rfl) ?hi34_r ?hw34_r ?st34_r
       case hi34_r => rw [List.getElem?_toArray]; exact rfl
       case hw34_r => exact rfl
       intro K hK
       have HK34 : Hid _ := hK
       clear hK
       go_simp
       refine HK34.out _ _ ⟨fun h => absurd h (by decide +kernel), ?_⟩
       clear HK34 K
       try simp only [Act.put, List.setIfInBounds_toArray, List.set_cons_zero, List.set_cons_succ]
       refine wpAnyN_done (by kernel_rfl) ?_ _
       go_wp2_with fail
       clear sz sg sx0 sx1 sx2 sx3 sy0 sy1 sy2 sy3 sz0 sz1 sz2 sz3 sf
       obtain ⟨w9, hw⟩ : ∃ u, u = ((((ur3.setCell ⟨s, 5, none⟩ (.int .u64 (limb Y 0 : Nat))).setCell ⟨s, 6, none⟩ (.int .u64 (limb Y 1 : Nat))).setCell ⟨s, 7, none⟩ (.int .u64 (limb Y 2 : Nat))).setCell ⟨s, 8, none⟩ (.int .u64 (limb Y 3 : Nat))) := ⟨_, rfl⟩
       rw [← hw]
       have F9 : Hid (FieldB w9 g PP) := by rw [hw]; exact (F8.out.call Iur3.out).put4s HZ.out.1
       have S9 : Hid (SpotB w9 s g X Y Z) := by rw [hw]; exact (S8.out.call Iur3.out).sety
       have W9 : Hid (ButC s w w9) := by rw [hw]; exact (W8.out.call Iur3.out).put4s
       have O59 : Hid (Own4 w9 b5 A) := by rw [hw]; exact (O58.out.call Iur3.out).put4s NE5.out
       have O69 : Hid (Own4 w9 b6 U) := by rw [hw]; exact (O68.out.call Iur3.out).put4s NE6.out
       have O89 : Hid (Own4 w9 b8 a3) := by rw [hw]; exact (O88.out.call Iur3.out).put4s NE8.out
       have O99 : Hid (Own4 w9 b9 mid) := by rw [hw]; exact (O98.out.call Iur3.out).put4s NE9.out
       clear hw F8 S8 W8 O58 O68 O88 O98 Iur0 Iur1 Iur2 Iur3
       refine bodyPost_end (results_none rfl _ _ _) rfl ⟨rfl, S9.out, W9.out⟩
end Go.Proofs.YtgmfecncfekjfaaDoor
