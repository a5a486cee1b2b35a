/- Package curve: a spot and a point of another X are added. -/
import Derived.Test.YtchphekaonnfeaaDoorMgP
namespace Go.Proofs.YtchphekaonnfeaaDoor
open Go Go.RowKit Go.Lib
attribute [local go_sem] run_eq4

set_option maxRecDepth 100000 in
set_option maxHeartbeats 4000000 in
theorem sadd_fin (s g x y z b o px py sq A U a2 a3 mid X : Nat) (hx : x < PP) (hy : y < PP) (hz : z < PP) (hpx : px < PP) (hpy : py < PP) (h0 : z ≠ 0) (hsq : sq = mM z z) (hA : A = sM (mM px sq) x) (hU : U = sM (mM py (mM sq z)) y) (hA0 : A ≠ 0) (h2 : a2 = mM A A) (h3 : a3 = mM a2 A) (hmid : mid = mM x a2) (hX : X = sM (sM (mM U U) a3) (aM mid mid)) (w : World) (hM : FieldB w g PP) (hS : SpotB w s g x y z) (hP : PointB w b o px py false) (hg : s ≠ g) :
  Calls Tryd.prog 51 #[.pointer (some ⟨s, 0, none⟩), .pointer (some ⟨b, o, none⟩)] w fun e w' => e = .returned (.tuple #[]) ∧ SpotB w' s g X (sM (mM U (sM mid X)) (mM y a3)) (mM z A) ∧ ButC s w w' := by
 have lsq : sq < PP := by rw [hsq]; exact mM_lt _ _
 have lA : A < PP := by rw [hA]; exact sM_lt _ _
 have lU : U < PP := by rw [hU]; exact sM_lt _ _
 obtain ⟨c1, ec1⟩ : ∃ u, u = mM px sq := ⟨_, rfl⟩
 have lc1 : c1 < PP := by rw [ec1]; exact mM_lt _ _
 obtain ⟨c2, ec2⟩ : ∃ u, u = mM sq z := ⟨_, rfl⟩
 have lc2 : c2 < PP := by rw [ec2]; exact mM_lt _ _
 obtain ⟨c3, ec3⟩ : ∃ u, u = mM py c2 := ⟨_, rfl⟩
 have lc3 : c3 < PP := by rw [ec3]; exact mM_lt _ _
 rw [← ec1] at hA
 rw [← ec2, ← ec3] at hU
 have la2 : a2 < PP := by rw [h2]; exact mM_lt _ _
 have la3 : a3 < PP := by rw [h3]; exact mM_lt _ _
 have lmid : mid < PP := by rw [hmid]; exact mM_lt _ _
 have lX : X < PP := by rw [hX]; exact sM_lt _ _
 obtain ⟨Z, eZ⟩ : ∃ u, u = mM z A := ⟨_, rfl⟩
 have lZ : Z < PP := by rw [eZ]; exact mM_lt _ _
 obtain ⟨c4, ec4⟩ : ∃ u, u = mM U U := ⟨_, rfl⟩
 have lc4 : c4 < PP := by rw [ec4]; exact mM_lt _ _
 obtain ⟨c5, ec5⟩ : ∃ u, u = sM c4 a3 := ⟨_, rfl⟩
 have lc5 : c5 < PP := by rw [ec5]; exact sM_lt _ _
 obtain ⟨c6, ec6⟩ : ∃ u, u = aM mid mid := ⟨_, rfl⟩
 have lc6 : c6 < PP := by rw [ec6]; exact aM_lt _ _
 obtain ⟨c7, ec7⟩ : ∃ u, u = sM mid X := ⟨_, rfl⟩
 have lc7 : c7 < PP := by rw [ec7]; exact sM_lt _ _
 obtain ⟨c8, ec8⟩ : ∃ u, u = mM U c7 := ⟨_, rfl⟩
 have lc8 : c8 < PP := by rw [ec8]; exact mM_lt _ _
 obtain ⟨c9, ec9⟩ : ∃ u, u = mM y a3 := ⟨_, rfl⟩
 have lc9 : c9 < PP := by rw [ec9]; exact mM_lt _ _
 obtain ⟨Y, eY⟩ : ∃ u, u = sM c8 c9 := ⟨_, rfl⟩
 have lY : Y < PP := by rw [eY]; exact sM_lt _ _
 rw [← ec4, ← ec5, ← ec6] at hX
 rw [← eZ, ← ec7, ← ec8, ← ec9, ← eY]
 have K1 : Hid (pTm g z z sq) := pTm_of hz hz hsq
 have K2 : Hid (pTm g px sq c1) := pTm_of hpx lsq ec1
 have K3 : Hid (pMi g c1 x A) := pMi_of lc1 hx hA
 have K4 : Hid (pTm g sq z c2) := pTm_of lsq hz ec2
 have K5 : Hid (pTm g py c2 c3) := pTm_of hpy lc2 ec3
 have K6 : Hid (pMi g c3 y U) := pMi_of lc3 hy hU
 have K7 : Hid (pTm g A A a2) := pTm_of lA lA h2
 have K8 : Hid (pTm g a2 A a3) := pTm_of la2 lA h3
 have K9 : Hid (pTm g x a2 mid) := pTm_of hx la2 hmid
 have K10 : Hid (pTm g z A Z) := pTm_of hz lA eZ
 have K11 : Hid (pTm g U U c4) := pTm_of lU lU ec4
 have K12 : Hid (pMi g c4 a3 c5) := pMi_of lc4 la3 ec5
 have K13 : Hid (pPl g mid mid c6) := pPl_of lmid lmid ec6
 have K14 : Hid (pMi g c5 c6 X) := pMi_of lc5 lc6 hX
 have K15 : Hid (pMi g mid X c7) := pMi_of lmid lX ec7
 have K16 : Hid (pTm g U c7 c8) := pTm_of lU lc7 ec8
 have K17 : Hid (pTm g y a3 c9) := pTm_of hy la3 ec9
 have K18 : Hid (pMi g c8 c9 Y) := pMi_of lc8 lc9 eY
 have e0 : eq4 (limb z 0 : Nat) (limb z 1 : Nat) (limb z 2 : Nat) (limb z 3 : Nat) 0 0 0 0 = false := by
  rw [eq4_zeroC z (Nat.lt_trans hz FM_P.2.1)]; exact decide_eq_false h0
 have e1 : eq4 (limb A 0 : Nat) (limb A 1 : Nat) (limb A 2 : Nat) (limb A 3 : Nat) 0 0 0 0 = false := by
  rw [eq4_zeroC A (Nat.lt_trans lA FM_P.2.1)]; exact decide_eq_false hA0
 have HZ : Hid (s ≠ g ∧ s < w.heap.size) := ⟨hg, hS.lt⟩
 have F0 : Hid (FieldB w g PP) := hM
 have S0 : Hid (SpotB w s g x y z) := hS
 have P0 : Hid (PointB w b o px py false) := hP
 have W0 : Hid (Below w.heap.size w w) := Below.refl _ _
 obtain ⟨pz, p0, p1, p2, p3, p4, p5, p6, p7, p8⟩ := hP
 obtain ⟨sz, sg, sx0, sx1, sx2, sx3, sy0, sy1, sy2, sy3, sz0, sz1, sz2, sz3, sf⟩ := hS
 clear hM hg hx hy hz hpx hpy h0 hsq hA hU hA0 h2 h3 hmid hX lsq lA lU ec1 lc1 ec2 lc2 ec3 lc3 la2 la3 lmid lX eZ lZ ec4 lc4 ec5 lc5 ec6 lc6 ec7 lc7 ec8 lc8 ec9 lc9 eY lY
 go_enter Tryd.func51, Tryd.ntmps51
 go_upto_region 3 with fail
 clear sz sg sx0 sx1 sx2 sx3 sy0 sy1 sy2 sy3 sz0 sz1 sz2 sz3 sf pz p0 p1 p2 p3 p4 p5 p6 p7 p8 e0
 go_upto_region 3 with fail
 go_cut [4] (fun v wx => ∃ b4, v = .pointer (some ⟨b4, 0, none⟩) ∧ w.heap.size ≤ b4 ∧ Own4 wx b4 sq ∧ Below w.heap.size w wx)
 case first =>
  refine wp_region_I 14 0 13 [?v0r3, ?v1r3, ?v2r3, ?v3r3, ?v4r3, ?v5r3, ?v6r3, ?v7r3, ?v8r3, ?v9r3, ?v10r3, ?v11r3, ?v12r3, undef] [some 28, some 29, some 30, some 31, some 32, some 33, some 34, some 35, some 36, some 37, some 38, some 39, some 40, some 4] (fun w b => OwnC w b z4L) ?Ar3 ?oar3 (by kernel_rfl) (by kernel_rfl) (by kernel_rfl) rfl ?hAr3 (fun _ _ _ h hb => h.call hb) ?hopr3 ?hoar3 (by decide) ?halr3 ?hfinr3
  case hAr3 =>
   intro bq
   simp only [List.set_cons_zero, List.set_cons_succ, List.zip_cons_cons, List.zip_nil_right, fillD, Act.put, List.setIfInBounds_toArray]
   exact rfl
  case hopr3 =>
   refine ⟨?_, ?_, ?_, ?_, ?_, ?_, ?_, ?_, ?_, ?_, ?_, ?_, ?_, fun h => absurd rfl h, trivial⟩
   iterate 3 focus (intro _ bq wx hS; refine OpTo.yields rfl ?_; clear hS; go_simp; try with_reducible rfl)
   focus (intro _ bq wx hS; refine OpTo.yields rfl ?_; obtain ⟨_, _, _, _, _, _, _, _, _, _, _, _, _, _, _⟩ := S0.out.call hS; clear hS; go_simp; try with_reducible rfl)
   iterate 3 focus (intro _ bq wx hS; refine OpTo.yields rfl ?_; clear hS; go_simp; try with_reducible rfl)
   focus (intro _ bq wx hS; refine OpTo.yields rfl ?_; obtain ⟨_, _, _, _, _, _, _, _, _, _, _, _, _, _, _⟩ := S0.out.call hS; clear hS; go_simp; try with_reducible rfl)
   iterate 3 focus (intro _ bq wx hS; refine OpTo.yields rfl ?_; clear hS; go_simp; try with_reducible rfl)
   focus (intro _ bq wx hS; refine OpTo.yields rfl ?_; obtain ⟨_, _, _, _, _, _, _, _, _, _, _, _, _, _, _⟩ := S0.out.call hS; clear hS; go_simp; try with_reducible rfl)
   focus (intro _ bq wx hS; refine OpTo.calls rfl ?_ ?_; rotate_left; intro K hK; go_simp; refine (K1.out _ (F0.out.call hS)).mono ?_; rintro e w' ⟨rfl, hq⟩; exact hK w' hq; exact rfl)
  case hoar3 =>
   rw [List.getElem?_toArray]
   exact rfl
  case halr3 =>
   intro bq wx hS
   refine OpTo.make (ob := ?obr3) (B := fun w b => OwnC w b z4L) hS rfl ?runr3 ?ownr3
   case runr3 =>
    go_simp
    try with_reducible rfl
   case ownr3 => exact OwnC.new' rfl
  case hfinr3 =>
   intro bq wx hS hB hle
   refine tail_at (o := ?ofr3_14) ?hir3_14 ?hwr3_14 ?_
   case hir3_14 => rw [List.getElem?_toArray]; exact rfl
   case hwr3_14 => exact rfl
   obtain ⟨gz, g0, g1, g2, g3, gf⟩ := hB.z4
   go_simp
   clear gz g0 g1 g2 g3 gf
   refine tail_end ?_
   go_wp2_with fail
   go_meet
   exact ⟨bq, rfl, hle, (OwnC.put (numL sq) hB rfl).own4, below_putL hle (numL sq) 0 _ hS⟩
 case rest =>
  obtain ⟨b4, rfl, hle, hO, hB⟩ := hcut
  have F1 : Hid (FieldB wc g PP) := F0.out.call hB
  have S1 : Hid (SpotB wc s g x y z) := S0.out.call hB
  have P1 : Hid (PointB wc b o px py false) := P0.out.call hB
  have W1 : Hid (Below w.heap.size w wc) := below_call0 W0.out hB
  have NE4 : Hid (s ≠ b4) := Nat.ne_of_lt (Nat.lt_of_lt_of_le HZ.out.2 (Nat.le_trans W0.out.size hle))
  have O41 : Hid (Own4 wc b4 sq) := hO
  clear hO hB hle F0 S0 P0 W0
  generalize wc = w1 at F1 S1 P1 W1 O41 ⊢
  go_upto_region 4 with fail
  go_cut [5] (fun v wx => ∃ b5, v = .pointer (some ⟨b5, 0, none⟩) ∧ w1.heap.size ≤ b5 ∧ Own4 wx b5 A ∧ Below w1.heap.size w1 wx)
  case first =>
   refine wp_region_I 20 0 19 [?v0r4, ?v1r4, ?v2r4, ?v3r4, ?v4r4, ?v5r4, ?v6r4, ?v7r4, ?v8r4, ?v9r4, ?v10r4, ?v11r4, ?v12r4, ?v13r4, ?v14r4, ?v15r4, ?v16r4, ?v17r4, ?v18r4, undef] [some 41, some 42, some 43, some 44, some 45, some 46, some 47, some 48, some 49, some 50, some 51, some 52, some 53, some 54, some 55, some 56, some 57, some 58, some 59, some 5] (fun w b => OwnC w b z4L) ?Ar4 ?oar4 (by kernel_rfl) (by kernel_rfl) (by kernel_rfl) rfl ?hAr4 (fun _ _ _ h hb => h.call hb) ?hopr4 ?hoar4 (by decide) ?halr4 ?hfinr4
   case hAr4 =>
    intro bq
    simp only [List.set_cons_zero, List.set_cons_succ, List.zip_cons_cons, List.zip_nil_right, fillD, Act.put, List.setIfInBounds_toArray]
    exact rfl
   case hopr4 =>
    refine ⟨?_, ?_, ?_, ?_, ?_, ?_, ?_, ?_, ?_, ?_, ?_, ?_, ?_, ?_, ?_, ?_, ?_, ?_, ?_, fun h => absurd rfl h, trivial⟩
    iterate 3 focus (intro _ bq wx hS; refine OpTo.yields rfl ?_; clear hS; go_simp; try with_reducible rfl)
    focus (intro _ bq wx hS; refine OpTo.yields rfl ?_; obtain ⟨_, _, _, _, _, _, _, _, _, _, _, _, _, _, _⟩ := S1.out.call hS; clear hS; go_simp; try with_reducible rfl)
    iterate 3 focus (intro _ bq wx hS; refine OpTo.yields rfl ?_; clear hS; go_simp; try with_reducible rfl)
    focus (intro _ bq wx hS; refine OpTo.yields rfl ?_; obtain ⟨_, _, _, _, _, _, _, _, _, _, _, _, _, _, _⟩ := S1.out.call hS; clear hS; go_simp; try with_reducible rfl)
    iterate 3 focus (intro _ bq wx hS; refine OpTo.yields rfl ?_; clear hS; go_simp; try with_reducible rfl)
    focus (intro _ bq wx hS; refine OpTo.yields rfl ?_; obtain ⟨_, _, _, _, _, _, _, _, _, _⟩ := P1.out.call hS; clear hS; go_simp; try with_reducible rfl)
    focus (intro _ bq wx hS; refine OpTo.yields rfl ?_; obtain ⟨⟨_, _, _, _⟩, -, _⟩ := (Own4.call O41.out hS).facts; clear hS; go_simp; try with_reducible rfl)
    focus (intro _ bq wx hS; refine OpTo.calls rfl ?_ ?_; rotate_left; intro K hK; go_simp; refine (K2.out _ (F1.out.call hS)).mono ?_; rintro e w' ⟨rfl, hq⟩; exact hK w' hq; exact rfl)
    iterate 3 focus (intro _ bq wx hS; refine OpTo.yields rfl ?_; clear hS; go_simp; try with_reducible rfl)
    focus (intro _ bq wx hS; refine OpTo.yields rfl ?_; obtain ⟨_, _, _, _, _, _, _, _, _, _, _, _, _, _, _⟩ := S1.out.call hS; clear hS; go_simp; try with_reducible rfl)
    focus (intro _ bq wx hS; refine OpTo.calls rfl ?_ ?_; rotate_left; intro K hK; go_simp; refine (K3.out _ (F1.out.call hS)).mono ?_; rintro e w' ⟨rfl, hq⟩; exact hK w' hq; exact rfl)
   case hoar4 =>
    rw [List.getElem?_toArray]
    exact rfl
   case halr4 =>
    intro bq wx hS
    refine OpTo.make (ob := ?obr4) (B := fun w b => OwnC w b z4L) hS rfl ?runr4 ?ownr4
    case runr4 =>
     go_simp
     try with_reducible rfl
    case ownr4 => exact OwnC.new' rfl
   case hfinr4 =>
    intro bq wx hS hB hle
    refine tail_at (o := ?ofr4_20) ?hir4_20 ?hwr4_20 ?_
    case hir4_20 => rw [List.getElem?_toArray]; exact rfl
    case hwr4_20 => exact rfl
    obtain ⟨gz, g0, g1, g2, g3, gf⟩ := hB.z4
    go_simp
    clear gz g0 g1 g2 g3 gf
    refine tail_end ?_
    go_wp2_with fail
    go_meet
    exact ⟨bq, rfl, hle, (OwnC.put (numL A) hB rfl).own4, below_putL hle (numL A) 0 _ hS⟩
  case rest =>
   obtain ⟨b5, rfl, hle, hO, hB⟩ := hcut
   have F2 : Hid (FieldB wc g PP) := F1.out.call hB
   have S2 : Hid (SpotB wc s g x y z) := S1.out.call hB
   have P2 : Hid (PointB wc b o px py false) := P1.out.call hB
   have W2 : Hid (Below w.heap.size w wc) := below_call0 W1.out hB
   have O42 : Hid (Own4 wc b4 sq) := O41.out.call hB
   have NE5 : Hid (s ≠ b5) := Nat.ne_of_lt (Nat.lt_of_lt_of_le HZ.out.2 (Nat.le_trans W1.out.size hle))
   have O52 : Hid (Own4 wc b5 A) := hO
   clear hO hB hle F1 S1 P1 W1 O41
   generalize wc = w2 at F2 S2 P2 W2 O42 O52 ⊢
   go_upto_region 5 with fail
   go_cut [6] (fun v wx => ∃ b6, v = .pointer (some ⟨b6, 0, none⟩) ∧ w2.heap.size ≤ b6 ∧ Own4 wx b6 U ∧ Below w2.heap.size w2 wx)
   case first =>
    refine wp_region_I 29 0 28 [?v0r5, ?v1r5, ?v2r5, ?v3r5, ?v4r5, ?v5r5, ?v6r5, ?v7r5, ?v8r5, ?v9r5, ?v10r5, ?v11r5, ?v12r5, ?v13r5, ?v14r5, ?v15r5, ?v16r5, ?v17r5, ?v18r5, ?v19r5, ?v20r5, ?v21r5, ?v22r5, ?v23r5, ?v24r5, ?v25r5, ?v26r5, ?v27r5, undef] [some 60, some 61, some 62, some 63, some 64, some 65, some 66, some 67, some 68, some 69, some 70, some 71, some 72, some 73, some 74, some 75, some 76, some 77, some 78, some 79, some 80, some 81, some 82, some 83, some 84, some 85, some 86, some 87, some 6] (fun w b => OwnC w b z4L) ?Ar5 ?oar5 (by kernel_rfl) (by kernel_rfl) (by kernel_rfl) rfl ?hAr5 (fun _ _ _ h hb => h.call hb) ?hopr5 ?hoar5 (by decide) ?halr5 ?hfinr5
    case hAr5 =>
     intro bq
     simp only [List.set_cons_zero, List.set_cons_succ, List.zip_cons_cons, List.zip_nil_right, fillD, Act.put, List.setIfInBounds_toArray]
     exact rfl
    case hopr5 =>
     refine ⟨?_, ?_, ?_, ?_, ?_, ?_, ?_, ?_, ?_, ?_, ?_, ?_, ?_, ?_, ?_, ?_, ?_, ?_, ?_, ?_, ?_, ?_, ?_, ?_, ?_, ?_, ?_, ?_, fun h => absurd rfl h, trivial⟩
     iterate 3 focus (intro _ bq wx hS; refine OpTo.yields rfl ?_; clear hS; go_simp; try with_reducible rfl)
     focus (intro _ bq wx hS; refine OpTo.yields rfl ?_; obtain ⟨_, _, _, _, _, _, _, _, _, _, _, _, _, _, _⟩ := S2.out.call hS; clear hS; go_simp; try with_reducible rfl)
     iterate 3 focus (intro _ bq wx hS; refine OpTo.yields rfl ?_; clear hS; go_simp; try with_reducible rfl)
     focus (intro _ bq wx hS; refine OpTo.yields rfl ?_; obtain ⟨_, _, _, _, _, _, _, _, _, _, _, _, _, _, _⟩ := S2.out.call hS; clear hS; go_simp; try with_reducible rfl)
     iterate 3 focus (intro _ bq wx hS; refine OpTo.yields rfl ?_; clear hS; go_simp; try with_reducible rfl)
     focus (intro _ bq wx hS; refine OpTo.yields rfl ?_; obtain ⟨_, _, _, _, _, _, _, _, _, _⟩ := P2.out.call hS; clear hS; go_simp; try with_reducible rfl)
     iterate 3 focus (intro _ bq wx hS; refine OpTo.yields rfl ?_; clear hS; go_simp; try with_reducible rfl)
     focus (intro _ bq wx hS; refine OpTo.yields rfl ?_; obtain ⟨_, _, _, _, _, _, _, _, _, _, _, _, _, _, _⟩ := S2.out.call hS; clear hS; go_simp; try with_reducible rfl)
     focus (intro _ bq wx hS; refine OpTo.yields rfl ?_; obtain ⟨⟨_, _, _, _⟩, -, _⟩ := (Own4.call O42.out hS).facts; clear hS; go_simp; try with_reducible rfl)
     iterate 3 focus (intro _ bq wx hS; refine OpTo.yields rfl ?_; clear hS; go_simp; try with_reducible rfl)
     focus (intro _ bq wx hS; refine OpTo.yields rfl ?_; obtain ⟨_, _, _, _, _, _, _, _, _, _, _, _, _, _, _⟩ := S2.out.call hS; clear hS; go_simp; try with_reducible rfl)
     focus (intro _ bq wx hS; refine OpTo.calls rfl ?_ ?_; rotate_left; intro K hK; go_simp; refine (K4.out _ (F2.out.call hS)).mono ?_; rintro e w' ⟨rfl, hq⟩; exact hK w' hq; exact rfl)
     focus (intro _ bq wx hS; refine OpTo.calls rfl ?_ ?_; rotate_left; intro K hK; go_simp; refine (K5.out _ (F2.out.call hS)).mono ?_; rintro e w' ⟨rfl, hq⟩; exact hK w' hq; exact rfl)
     iterate 3 focus (intro _ bq wx hS; refine OpTo.yields rfl ?_; clear hS; go_simp; try with_reducible rfl)
     focus (intro _ bq wx hS; refine OpTo.yields rfl ?_; obtain ⟨_, _, _, _, _, _, _, _, _, _, _, _, _, _, _⟩ := S2.out.call hS; clear hS; go_simp; try with_reducible rfl)
     focus (intro _ bq wx hS; refine OpTo.calls rfl ?_ ?_; rotate_left; intro K hK; go_simp; refine (K6.out _ (F2.out.call hS)).mono ?_; rintro e w' ⟨rfl, hq⟩; exact hK w' hq; exact rfl)
    case hoar5 =>
     rw [List.getElem?_toArray]
     exact rfl
    case halr5 =>
     intro bq wx hS
     refine OpTo.make (ob := ?obr5) (B := fun w b => OwnC w b z4L) hS rfl ?runr5 ?ownr5
     case runr5 =>
      go_simp
      try with_reducible rfl
     case ownr5 => exact OwnC.new' rfl
    case hfinr5 =>
     intro bq wx hS hB hle
     refine tail_at (o := ?ofr5_29) ?hir5_29 ?hwr5_29 ?_
     case hir5_29 => rw [List.getElem?_toArray]; exact rfl
     case hwr5_29 => exact rfl
     obtain ⟨gz, g0, g1, g2, g3, gf⟩ := hB.z4
     go_simp
     clear gz g0 g1 g2 g3 gf
     refine tail_end ?_
     go_wp2_with fail
     go_meet
     exact ⟨bq, rfl, hle, (OwnC.put (numL U) hB rfl).own4, below_putL hle (numL U) 0 _ hS⟩
   case rest =>
    obtain ⟨b6, rfl, hle, hO, hB⟩ := hcut
    have F3 : Hid (FieldB wc g PP) := F2.out.call hB
    have S3 : Hid (SpotB wc s g x y z) := S2.out.call hB
    have P3 : Hid (PointB wc b o px py false) := P2.out.call hB
    have W3 : Hid (Below w.heap.size w wc) := below_call0 W2.out hB
    have O43 : Hid (Own4 wc b4 sq) := O42.out.call hB
    have O53 : Hid (Own4 wc b5 A) := O52.out.call hB
    have NE6 : Hid (s ≠ b6) := Nat.ne_of_lt (Nat.lt_of_lt_of_le HZ.out.2 (Nat.le_trans W2.out.size hle))
    have O63 : Hid (Own4 wc b6 U) := hO
    clear hO hB hle F2 S2 P2 W2 O42 O52
    clear P3 O43
    generalize wc = w3 at F3 S3 W3 O53 O63 ⊢
    obtain ⟨⟨t0, t1, t2, t3⟩, -, tz⟩ := (O53.out).facts
    go_upto_region 8 with fail
    clear t0 t1 t2 t3 tz e1
    go_upto_region 8 with fail
    go_cut [7] (fun v wx => ∃ b7, v = .pointer (some ⟨b7, 0, none⟩) ∧ w3.heap.size ≤ b7 ∧ Own4 wx b7 a2 ∧ Below w3.heap.size w3 wx)
    case first =>
     refine wp_region_I 8 0 7 [?v0r8, ?v1r8, ?v2r8, ?v3r8, ?v4r8, ?v5r8, ?v6r8, undef] [some 94, some 95, some 96, some 97, some 98, some 99, some 100, some 7] (fun w b => OwnC w b z4L) ?Ar8 ?oar8 (by kernel_rfl) (by kernel_rfl) (by kernel_rfl) rfl ?hAr8 (fun _ _ _ h hb => h.call hb) ?hopr8 ?hoar8 (by decide) ?halr8 ?hfinr8
     case hAr8 =>
      intro bq
      simp only [List.set_cons_zero, List.set_cons_succ, List.zip_cons_cons, List.zip_nil_right, fillD, Act.put, List.setIfInBounds_toArray]
      exact rfl
     case hopr8 =>
      refine ⟨?_, ?_, ?_, ?_, ?_, ?_, ?_, fun h => absurd rfl h, trivial⟩
      iterate 3 focus (intro _ bq wx hS; refine OpTo.yields rfl ?_; clear hS; go_simp; try with_reducible rfl)
      focus (intro _ bq wx hS; refine OpTo.yields rfl ?_; obtain ⟨_, _, _, _, _, _, _, _, _, _, _, _, _, _, _⟩ := S3.out.call hS; clear hS; go_simp; try with_reducible rfl)
      iterate 2 focus (intro _ bq wx hS; refine OpTo.yields rfl ?_; obtain ⟨⟨_, _, _, _⟩, -, _⟩ := (Own4.call O53.out hS).facts; clear hS; go_simp; try with_reducible rfl)
      focus (intro _ bq wx hS; refine OpTo.calls rfl ?_ ?_; rotate_left; intro K hK; go_simp; refine (K7.out _ (F3.out.call hS)).mono ?_; rintro e w' ⟨rfl, hq⟩; exact hK w' hq; exact rfl)
     case hoar8 =>
      rw [List.getElem?_toArray]
      exact rfl
     case halr8 =>
      intro bq wx hS
      refine OpTo.make (ob := ?obr8) (B := fun w b => OwnC w b z4L) hS rfl ?runr8 ?ownr8
      case runr8 =>
       go_simp
       try with_reducible rfl
      case ownr8 => exact OwnC.new' rfl
     case hfinr8 =>
      intro bq wx hS hB hle
      refine tail_at (o := ?ofr8_8) ?hir8_8 ?hwr8_8 ?_
      case hir8_8 => rw [List.getElem?_toArray]; exact rfl
      case hwr8_8 => exact rfl
      obtain ⟨gz, g0, g1, g2, g3, gf⟩ := hB.z4
      go_simp
      clear gz g0 g1 g2 g3 gf
      refine tail_end ?_
      go_wp2_with fail
      go_meet
      exact ⟨bq, rfl, hle, (OwnC.put (numL a2) hB rfl).own4, below_putL hle (numL a2) 0 _ hS⟩
    case rest =>
     obtain ⟨b7, rfl, hle, hO, hB⟩ := hcut
     have F4 : Hid (FieldB wc g PP) := F3.out.call hB
     have S4 : Hid (SpotB wc s g x y z) := S3.out.call hB
     have W4 : Hid (Below w.heap.size w wc) := below_call0 W3.out hB
     have O54 : Hid (Own4 wc b5 A) := O53.out.call hB
     have O64 : Hid (Own4 wc b6 U) := O63.out.call hB
     have NE7 : Hid (s ≠ b7) := Nat.ne_of_lt (Nat.lt_of_lt_of_le HZ.out.2 (Nat.le_trans W3.out.size hle))
     have O74 : Hid (Own4 wc b7 a2) := hO
     clear hO hB hle F3 S3 W3 O53 O63
     generalize wc = w4 at F4 S4 W4 O54 O64 O74 ⊢
     go_upto_region 9 with fail
     go_cut [8] (fun v wx => ∃ b8, v = .pointer (some ⟨b8, 0, none⟩) ∧ w4.heap.size ≤ b8 ∧ Own4 wx b8 a3 ∧ Below w4.heap.size w4 wx)
     case first =>
      refine wp_region_I 8 0 7 [?v0r9, ?v1r9, ?v2r9, ?v3r9, ?v4r9, ?v5r9, ?v6r9, undef] [some 101, some 102, some 103, some 104, some 105, some 106, some 107, some 8] (fun w b => OwnC w b z4L) ?Ar9 ?oar9 (by kernel_rfl) (by kernel_rfl) (by kernel_rfl) rfl ?hAr9 (fun _ _ _ h hb => h.call hb) ?hopr9 ?hoar9 (by decide) ?halr9 ?hfinr9
      case hAr9 =>
       intro bq
       simp only [List.set_cons_zero, List.set_cons_succ, List.zip_cons_cons, List.zip_nil_right, fillD, Act.put, List.setIfInBounds_toArray]
       exact rfl
      case hopr9 =>
       refine ⟨?_, ?_, ?_, ?_, ?_, ?_, ?_, fun h => absurd rfl h, trivial⟩
       iterate 3 focus (intro _ bq wx hS; refine OpTo.yields rfl ?_; clear hS; go_simp; try with_reducible rfl)
       focus (intro _ bq wx hS; refine OpTo.yields rfl ?_; obtain ⟨_, _, _, _, _, _, _, _, _, _, _, _, _, _, _⟩ := S4.out.call hS; clear hS; go_simp; try with_reducible rfl)
       focus (intro _ bq wx hS; refine OpTo.yields rfl ?_; obtain ⟨⟨_, _, _, _⟩, -, _⟩ := (Own4.call O74.out hS).facts; clear hS; go_simp; try with_reducible rfl)
       focus (intro _ bq wx hS; refine OpTo.yields rfl ?_; obtain ⟨⟨_, _, _, _⟩, -, _⟩ := (Own4.call O54.out hS).facts; clear hS; go_simp; try with_reducible rfl)
       focus (intro _ bq wx hS; refine OpTo.calls rfl ?_ ?_; rotate_left; intro K hK; go_simp; refine (K8.out _ (F4.out.call hS)).mono ?_; rintro e w' ⟨rfl, hq⟩; exact hK w' hq; exact rfl)
      case hoar9 =>
       rw [List.getElem?_toArray]
       exact rfl
      case halr9 =>
       intro bq wx hS
       refine OpTo.make (ob := ?obr9) (B := fun w b => OwnC w b z4L) hS rfl ?runr9 ?ownr9
       case runr9 =>
        go_simp
        try with_reducible rfl
       case ownr9 => exact OwnC.new' rfl
      case hfinr9 =>
       intro bq wx hS hB hle
       refine tail_at (o := ?ofr9_8) ?hir9_8 ?hwr9_8 ?_
       case hir9_8 => rw [List.getElem?_toArray]; exact rfl
       case hwr9_8 => exact rfl
       obtain ⟨gz, g0, g1, g2, g3, gf⟩ := hB.z4
       go_simp
       clear gz g0 g1 g2 g3 gf
       refine tail_end ?_
       go_wp2_with fail
       go_meet
       exact ⟨bq, rfl, hle, (OwnC.put (numL a3) hB rfl).own4, below_putL hle (numL a3) 0 _ hS⟩
     case rest =>
      obtain ⟨b8, rfl, hle, hO, hB⟩ := hcut
      have F5 : Hid (FieldB wc g PP) := F4.out.call hB
      have S5 : Hid (SpotB wc s g x y z) := S4.out.call hB
      have W5 : Hid (Below w.heap.size w wc) := below_call0 W4.out hB
      have O55 : Hid (Own4 wc b5 A) := O54.out.call hB
      have O65 : Hid (Own4 wc b6 U) := O64.out.call hB
      have O75 : Hid (Own4 wc b7 a2) := O74.out.call hB
      have NE8 : Hid (s ≠ b8) := Nat.ne_of_lt (Nat.lt_of_lt_of_le HZ.out.2 (Nat.le_trans W4.out.size hle))
      have O85 : Hid (Own4 wc b8 a3) := hO
      clear hO hB hle F4 S4 W4 O54 O64 O74
      generalize wc = w5 at F5 S5 W5 O55 O65 O75 O85 ⊢
      go_upto_region 10 with fail
      go_cut [9] (fun v wx => ∃ b9, v = .pointer (some ⟨b9, 0, none⟩) ∧ w5.heap.size ≤ b9 ∧ Own4 wx b9 mid ∧ Below w5.heap.size w5 wx)
      case first =>
       refine wp_region_I 11 0 10 [?v0r10, ?v1r10, ?v2r10, ?v3r10, ?v4r10, ?v5r10, ?v6r10, ?v7r10, ?v8r10, ?v9r10, undef] [some 108, some 109, some 110, some 111, some 112, some 113, some 114, some 115, some 116, some 117, some 9] (fun w b => OwnC w b z4L) ?Ar10 ?oar10 (by kernel_rfl) (by kernel_rfl) (by kernel_rfl) rfl ?hAr10 (fun _ _ _ h hb => h.call hb) ?hopr10 ?hoar10 (by decide) ?halr10 ?hfinr10
       case hAr10 =>
        intro bq
        simp only [List.set_cons_zero, List.set_cons_succ, List.zip_cons_cons, List.zip_nil_right, fillD, Act.put, List.setIfInBounds_toArray]
        exact rfl
       case hopr10 =>
        refine ⟨?_, ?_, ?_, ?_, ?_, ?_, ?_, ?_, ?_, ?_, fun h => absurd rfl h, trivial⟩
        iterate 3 focus (intro _ bq wx hS; refine OpTo.yields rfl ?_; clear hS; go_simp; try with_reducible rfl)
        focus (intro _ bq wx hS; refine OpTo.yields rfl ?_; obtain ⟨_, _, _, _, _, _, _, _, _, _, _, _, _, _, _⟩ := S5.out.call hS; clear hS; go_simp; try with_reducible rfl)
        iterate 3 focus (intro _ bq wx hS; refine OpTo.yields rfl ?_; clear hS; go_simp; try with_reducible rfl)
        focus (intro _ bq wx hS; refine OpTo.yields rfl ?_; obtain ⟨_, _, _, _, _, _, _, _, _, _, _, _, _, _, _⟩ := S5.out.call hS; clear hS; go_simp; try with_reducible rfl)
        focus (intro _ bq wx hS; refine OpTo.yields rfl ?_; obtain ⟨⟨_, _, _, _⟩, -, _⟩ := (Own4.call O75.out hS).facts; clear hS; go_simp; try with_reducible rfl)
        focus (intro _ bq wx hS; refine OpTo.calls rfl ?_ ?_; rotate_left; intro K hK; go_simp; refine (K9.out _ (F5.out.call hS)).mono ?_; rintro e w' ⟨rfl, hq⟩; exact hK w' hq; exact rfl)
       case hoar10 =>
        rw [List.getElem?_toArray]
        exact rfl
       case halr10 =>
        intro bq wx hS
        refine OpTo.make (ob := ?obr10) (B := fun w b => OwnC w b z4L) hS rfl ?runr10 ?ownr10
        case runr10 =>
         go_simp
         try with_reducible rfl
        case ownr10 => exact OwnC.new' rfl
       case hfinr10 =>
        intro bq wx hS hB hle
        refine tail_at (o := ?ofr10_11) ?hir10_11 ?hwr10_11 ?_
        case hir10_11 => rw [List.getElem?_toArray]; exact rfl
        case hwr10_11 => exact rfl
        obtain ⟨gz, g0, g1, g2, g3, gf⟩ := hB.z4
        go_simp
        clear gz g0 g1 g2 g3 gf
        refine tail_end ?_
        go_wp2_with fail
        go_meet
        exact ⟨bq, rfl, hle, (OwnC.put (numL mid) hB rfl).own4, below_putL hle (numL mid) 0 _ hS⟩
      case rest =>
       obtain ⟨b9, rfl, hle, hO, hB⟩ := hcut
       have F6 : Hid (FieldB wc g PP) := F5.out.call hB
       have S6 : Hid (SpotB wc s g x y z) := S5.out.call hB
       have W6 : Hid (Below w.heap.size w wc) := below_call0 W5.out hB
       have O56 : Hid (Own4 wc b5 A) := O55.out.call hB
       have O66 : Hid (Own4 wc b6 U) := O65.out.call hB
       have O76 : Hid (Own4 wc b7 a2) := O75.out.call hB
       have O86 : Hid (Own4 wc b8 a3) := O85.out.call hB
       have NE9 : Hid (s ≠ b9) := Nat.ne_of_lt (Nat.lt_of_lt_of_le HZ.out.2 (Nat.le_trans W5.out.size hle))
       have O96 : Hid (Own4 wc b9 mid) := hO
       clear hO hB hle F5 S5 W5 O55 O65 O75 O85
       clear O76
       generalize wc = w6 at F6 S6 W6 O56 O66 O86 O96 ⊢
       have B6 : Hid (ButC s w w6) := ButC.of W6.out
       clear W6
       have W6 := B6
       clear B6
       go_upto_region 11 with fail
       refine wp_region_J 11 2 [?v0r11, ?v1r11, ?v2r11, ?v3r11, ?v4r11, ?v5r11, ?v6r11, ?v7r11, ?v8r11, ?v9r11, ?v10r11] [some 118, some 119, some 120, some 121, some 122, some 123, some 124, some 125, some 126, some 127, some 128] ?Ar11 (by kernel_rfl) (by kernel_rfl) (by kernel_rfl) rfl ?hAr11 ?hopr11 ?hfinr11
       case hAr11 =>
        simp only [List.set_cons_zero, List.set_cons_succ, List.zip_cons_cons, List.zip_nil_right, fillD, Act.put, List.setIfInBounds_toArray]
        exact rfl
       case hopr11 =>
        refine ⟨?_, ?_, ?_, ?_, ?_, ?_, ?_, ?_, ?_, ?_, ?_, trivial⟩
        iterate 4 focus (intro _ bq wx hS; refine OpTo.yields rfl ?_; clear hS; go_simp; try with_reducible rfl)
        focus (intro _ bq wx hS; refine OpTo.yields rfl ?_; obtain ⟨_, _, _, _, _, _, _, _, _, _, _, _, _, _, _⟩ := S6.out.call hS; clear hS; go_simp; try with_reducible rfl)
        iterate 3 focus (intro _ bq wx hS; refine OpTo.yields rfl ?_; clear hS; go_simp; try with_reducible rfl)
        focus (intro _ bq wx hS; refine OpTo.yields rfl ?_; obtain ⟨_, _, _, _, _, _, _, _, _, _, _, _, _, _, _⟩ := S6.out.call hS; clear hS; go_simp; try with_reducible rfl)
        focus (intro _ bq wx hS; refine OpTo.yields rfl ?_; obtain ⟨⟨_, _, _, _⟩, -, _⟩ := (Own4.call O56.out hS).facts; clear hS; go_simp; try with_reducible rfl)
        focus (intro _ bq wx hS; refine OpTo.calls rfl ?_ ?_; rotate_left; intro K hK; go_simp; refine (K10.out _ (F6.out.call hS)).mono ?_; rintro e w' ⟨rfl, hq⟩; exact hK w' hq; exact rfl)
       case hfinr11 =>
        intro wx hS
        refine tail_at (o := ?ofr11_11) ?hir11_11 ?hwr11_11 ?_
        case hir11_11 => rw [List.getElem?_toArray]; exact rfl
        case hwr11_11 => exact rfl
        go_simp
        refine tail_at (o := ?ofr11_12) ?hir11_12 ?hwr11_12 ?_
        case hir11_12 => rw [List.getElem?_toArray]; exact rfl
        case hwr11_12 => exact rfl
        go_simp
        refine tail_at (o := ?ofr11_13) ?hir11_13 ?hwr11_13 ?_
        case hir11_13 => rw [List.getElem?_toArray]; exact rfl
        case hwr11_13 => exact rfl
        obtain ⟨sz, sg, sx0, sx1, sx2, sx3, sy0, sy1, sy2, sy3, sz0, sz1, sz2, sz3, sf⟩ := S6.out.call hS
        go_simp
        clear sz sg sx0 sx1 sx2 sx3 sy0 sy1 sy2 sy3 sz0 sz1 sz2 sz3 sf
        refine tail_end ?_
        obtain ⟨w7, hw⟩ : ∃ u, u = ((((wx.setCell ⟨s, 9, none⟩ (.int .u64 (limb Z 0 : Nat))).setCell ⟨s, 10, none⟩ (.int .u64 (limb Z 1 : Nat))).setCell ⟨s, 11, none⟩ (.int .u64 (limb Z 2 : Nat))).setCell ⟨s, 12, none⟩ (.int .u64 (limb Z 3 : Nat))) := ⟨_, rfl⟩
        rw [← hw]
        have F7 : Hid (FieldB w7 g PP) := by rw [hw]; exact (F6.out.call hS).put4s HZ.out.1
        have S7 : Hid (SpotB w7 s g x y Z) := by rw [hw]; exact (S6.out.call hS).setz
        have W7 : Hid (ButC s w w7) := by rw [hw]; exact (W6.out.call hS).put4s
        have O57 : Hid (Own4 w7 b5 A) := by rw [hw]; exact (O56.out.call hS).put4s NE5.out
        have O67 : Hid (Own4 w7 b6 U) := by rw [hw]; exact (O66.out.call hS).put4s NE6.out
        have O87 : Hid (Own4 w7 b8 a3) := by rw [hw]; exact (O86.out.call hS).put4s NE8.out
        have O97 : Hid (Own4 w7 b9 mid) := by rw [hw]; exact (O96.out.call hS).put4s NE9.out
        clear hw hS F6 S6 W6 O56 O66 O86 O96
        go_upto_region 12 with fail
        refine wp_region_J 26 2 [?v0r12, ?v1r12, ?v2r12, ?v3r12, ?v4r12, ?v5r12, ?v6r12, ?v7r12, ?v8r12, ?v9r12, ?v10r12, ?v11r12, ?v12r12, ?v13r12, ?v14r12, ?v15r12, ?v16r12, ?v17r12, ?v18r12, ?v19r12, ?v20r12, ?v21r12, ?v22r12, ?v23r12, ?v24r12, ?v25r12] [some 131, some 132, some 133, some 134, some 135, some 136, some 137, some 138, some 139, some 140, some 141, some 142, some 143, some 144, some 145, some 146, some 147, some 148, some 149, some 150, some 151, some 152, some 153, some 154, some 155, some 156] ?Ar12 (by kernel_rfl) (by kernel_rfl) (by kernel_rfl) rfl ?hAr12 ?hopr12 ?hfinr12
        case hAr12 =>
         simp only [List.set_cons_zero, List.set_cons_succ, List.zip_cons_cons, List.zip_nil_right, fillD, Act.put, List.setIfInBounds_toArray]
         exact rfl
        case hopr12 =>
         refine ⟨?_, ?_, ?_, ?_, ?_, ?_, ?_, ?_, ?_, ?_, ?_, ?_, ?_, ?_, ?_, ?_, ?_, ?_, ?_, ?_, ?_, ?_, ?_, ?_, ?_, ?_, trivial⟩
         iterate 4 focus (intro _ bq wx hS; refine OpTo.yields rfl ?_; clear hS; go_simp; try with_reducible rfl)
         focus (intro _ bq wx hS; refine OpTo.yields rfl ?_; obtain ⟨_, _, _, _, _, _, _, _, _, _, _, _, _, _, _⟩ := S7.out.call hS; clear hS; go_simp; try with_reducible rfl)
         iterate 3 focus (intro _ bq wx hS; refine OpTo.yields rfl ?_; clear hS; go_simp; try with_reducible rfl)
         focus (intro _ bq wx hS; refine OpTo.yields rfl ?_; obtain ⟨_, _, _, _, _, _, _, _, _, _, _, _, _, _, _⟩ := S7.out.call hS; clear hS; go_simp; try with_reducible rfl)
         iterate 3 focus (intro _ bq wx hS; refine OpTo.yields rfl ?_; clear hS; go_simp; try with_reducible rfl)
         focus (intro _ bq wx hS; refine OpTo.yields rfl ?_; obtain ⟨_, _, _, _, _, _, _, _, _, _, _, _, _, _, _⟩ := S7.out.call hS; clear hS; go_simp; try with_reducible rfl)
         iterate 2 focus (intro _ bq wx hS; refine OpTo.yields rfl ?_; obtain ⟨⟨_, _, _, _⟩, -, _⟩ := (Own4.call O67.out hS).facts; clear hS; go_simp; try with_reducible rfl)
         focus (intro _ bq wx hS; refine OpTo.calls rfl ?_ ?_; rotate_left; intro K hK; go_simp; refine (K11.out _ (F7.out.call hS)).mono ?_; rintro e w' ⟨rfl, hq⟩; exact hK w' hq; exact rfl)
         focus (intro _ bq wx hS; refine OpTo.yields rfl ?_; obtain ⟨⟨_, _, _, _⟩, -, _⟩ := (Own4.call O87.out hS).facts; clear hS; go_simp; try with_reducible rfl)
         focus (intro _ bq wx hS; refine OpTo.calls rfl ?_ ?_; rotate_left; intro K hK; go_simp; refine (K12.out _ (F7.out.call hS)).mono ?_; rintro e w' ⟨rfl, hq⟩; exact hK w' hq; exact rfl)
         iterate 3 focus (intro _ bq wx hS; refine OpTo.yields rfl ?_; clear hS; go_simp; try with_reducible rfl)
         focus (intro _ bq wx hS; refine OpTo.yields rfl ?_; obtain ⟨_, _, _, _, _, _, _, _, _, _, _, _, _, _, _⟩ := S7.out.call hS; clear hS; go_simp; try with_reducible rfl)
         iterate 2 focus (intro _ bq wx hS; refine OpTo.yields rfl ?_; obtain ⟨⟨_, _, _, _⟩, -, _⟩ := (Own4.call O97.out hS).facts; clear hS; go_simp; try with_reducible rfl)
         focus (intro _ bq wx hS; refine OpTo.calls rfl ?_ ?_; rotate_left; intro K hK; go_simp; refine (K13.out _ (F7.out.call hS)).mono ?_; rintro e w' ⟨rfl, hq⟩; exact hK w' hq; exact rfl)
         focus (intro _ bq wx hS; refine OpTo.calls rfl ?_ ?_; rotate_left; intro K hK; go_simp; refine (K14.out _ (F7.out.call hS)).mono ?_; rintro e w' ⟨rfl, hq⟩; exact hK w' hq; exact rfl)
        case hfinr12 =>
         intro wx hS
         refine tail_at (o := ?ofr12_26) ?hir12_26 ?hwr12_26 ?_
         case hir12_26 => rw [List.getElem?_toArray]; exact rfl
         case hwr12_26 => exact rfl
         go_simp
         refine tail_at (o := ?ofr12_27) ?hir12_27 ?hwr12_27 ?_
         case hir12_27 => rw [List.getElem?_toArray]; exact rfl
         case hwr12_27 => exact rfl
         go_simp
         refine tail_at (o := ?ofr12_28) ?hir12_28 ?hwr12_28 ?_
         case hir12_28 => rw [List.getElem?_toArray]; exact rfl
         case hwr12_28 => exact rfl
         obtain ⟨sz, sg, sx0, sx1, sx2, sx3, sy0, sy1, sy2, sy3, sz0, sz1, sz2, sz3, sf⟩ := S7.out.call hS
         go_simp
         clear sz sg sx0 sx1 sx2 sx3 sy0 sy1 sy2 sy3 sz0 sz1 sz2 sz3 sf
         refine tail_end ?_
         obtain ⟨w8, hw⟩ : ∃ u, u = ((((wx.setCell ⟨s, 1, none⟩ (.int .u64 (limb X 0 : Nat))).setCell ⟨s, 2, none⟩ (.int .u64 (limb X 1 : Nat))).setCell ⟨s, 3, none⟩ (.int .u64 (limb X 2 : Nat))).setCell ⟨s, 4, none⟩ (.int .u64 (limb X 3 : Nat))) := ⟨_, rfl⟩
         rw [← hw]
         have F8 : Hid (FieldB w8 g PP) := by rw [hw]; exact (F7.out.call hS).put4s HZ.out.1
         have S8 : Hid (SpotB w8 s g X y Z) := by rw [hw]; exact (S7.out.call hS).setx
         have W8 : Hid (ButC s w w8) := by rw [hw]; exact (W7.out.call hS).put4s
         have O58 : Hid (Own4 w8 b5 A) := by rw [hw]; exact (O57.out.call hS).put4s NE5.out
         have O68 : Hid (Own4 w8 b6 U) := by rw [hw]; exact (O67.out.call hS).put4s NE6.out
         have O88 : Hid (Own4 w8 b8 a3) := by rw [hw]; exact (O87.out.call hS).put4s NE8.out
         have O98 : Hid (Own4 w8 b9 mid) := by rw [hw]; exact (O97.out.call hS).put4s NE9.out
         clear hw hS F7 S7 W7 O57 O67 O87 O97
         go_upto_region 13 with fail
         refine wp_region_J 32 2 [?v0r13, ?v1r13, ?v2r13, ?v3r13, ?v4r13, ?v5r13, ?v6r13, ?v7r13, ?v8r13, ?v9r13, ?v10r13, ?v11r13, ?v12r13, ?v13r13, ?v14r13, ?v15r13, ?v16r13, ?v17r13, ?v18r13, ?v19r13, ?v20r13, ?v21r13, ?v22r13, ?v23r13, ?v24r13, ?v25r13, ?v26r13, ?v27r13, ?v28r13, ?v29r13, ?v30r13, ?v31r13] [some 159, some 160, some 161, some 162, some 163, some 164, some 165, some 166, some 167, some 168, some 169, some 170, some 171, some 172, some 173, some 174, some 175, some 176, some 177, some 178, some 179, some 180, some 181, some 182, some 183, some 184, some 185, some 186, some 187, some 188, some 189, some 190] ?Ar13 (by kernel_rfl) (by kernel_rfl) (by kernel_rfl) rfl ?hAr13 ?hopr13 ?hfinr13
         case hAr13 =>
          simp only [List.set_cons_zero, List.set_cons_succ, List.zip_cons_cons, List.zip_nil_right, fillD, Act.put, List.setIfInBounds_toArray]
          exact rfl
         case hopr13 =>
          refine ⟨?_, ?_, ?_, ?_, ?_, ?_, ?_, ?_, ?_, ?_, ?_, ?_, ?_, ?_, ?_, ?_, ?_, ?_, ?_, ?_, ?_, ?_, ?_, ?_, ?_, ?_, ?_, ?_, ?_, ?_, ?_, ?_, trivial⟩
          iterate 4 focus (intro _ bq wx hS; refine OpTo.yields rfl ?_; clear hS; go_simp; try with_reducible rfl)
          focus (intro _ bq wx hS; refine OpTo.yields rfl ?_; obtain ⟨_, _, _, _, _, _, _, _, _, _, _, _, _, _, _⟩ := S8.out.call hS; clear hS; go_simp; try with_reducible rfl)
          iterate 3 focus (intro _ bq wx hS; refine OpTo.yields rfl ?_; clear hS; go_simp; try with_reducible rfl)
          focus (intro _ bq wx hS; refine OpTo.yields rfl ?_; obtain ⟨_, _, _, _, _, _, _, _, _, _, _, _, _, _, _⟩ := S8.out.call hS; clear hS; go_simp; try with_reducible rfl)
          focus (intro _ bq wx hS; refine OpTo.yields rfl ?_; obtain ⟨⟨_, _, _, _⟩, -, _⟩ := (Own4.call O68.out hS).facts; clear hS; go_simp; try with_reducible rfl)
          iterate 3 focus (intro _ bq wx hS; refine OpTo.yields rfl ?_; clear hS; go_simp; try with_reducible rfl)
          focus (intro _ bq wx hS; refine OpTo.yields rfl ?_; obtain ⟨_, _, _, _, _, _, _, _, _, _, _, _, _, _, _⟩ := S8.out.call hS; clear hS; go_simp; try with_reducible rfl)
          focus (intro _ bq wx hS; refine OpTo.yields rfl ?_; obtain ⟨⟨_, _, _, _⟩, -, _⟩ := (Own4.call O98.out hS).facts; clear hS; go_simp; try with_reducible rfl)
          iterate 3 focus (intro _ bq wx hS; refine OpTo.yields rfl ?_; clear hS; go_simp; try with_reducible rfl)
          focus (intro _ bq wx hS; refine OpTo.yields rfl ?_; obtain ⟨_, _, _, _, _, _, _, _, _, _, _, _, _, _, _⟩ := S8.out.call hS; clear hS; go_simp; try with_reducible rfl)
          focus (intro _ bq wx hS; refine OpTo.calls rfl ?_ ?_; rotate_left; intro K hK; go_simp; refine (K15.out _ (F8.out.call hS)).mono ?_; rintro e w' ⟨rfl, hq⟩; exact hK w' hq; exact rfl)
          focus (intro _ bq wx hS; refine OpTo.calls rfl ?_ ?_; rotate_left; intro K hK; go_simp; refine (K16.out _ (F8.out.call hS)).mono ?_; rintro e w' ⟨rfl, hq⟩; exact hK w' hq; exact rfl)
          iterate 3 focus (intro _ bq wx hS; refine OpTo.yields rfl ?_; clear hS; go_simp; try with_reducible rfl)
          focus (intro _ bq wx hS; refine OpTo.yields rfl ?_; obtain ⟨_, _, _, _, _, _, _, _, _, _, _, _, _, _, _⟩ := S8.out.call hS; clear hS; go_simp; try with_reducible rfl)
          iterate 3 focus (intro _ bq wx hS; refine OpTo.yields rfl ?_; clear hS; go_simp; try with_reducible rfl)
          focus (intro _ bq wx hS; refine OpTo.yields rfl ?_; obtain ⟨_, _, _, _, _, _, _, _, _, _, _, _, _, _, _⟩ := S8.out.call hS; clear hS; go_simp; try with_reducible rfl)
          focus (intro _ bq wx hS; refine OpTo.yields rfl ?_; obtain ⟨⟨_, _, _, _⟩, -, _⟩ := (Own4.call O88.out hS).facts; clear hS; go_simp; try with_reducible rfl)
          focus (intro _ bq wx hS; refine OpTo.calls rfl ?_ ?_; rotate_left; intro K hK; go_simp; refine (K17.out _ (F8.out.call hS)).mono ?_; rintro e w' ⟨rfl, hq⟩; exact hK w' hq; exact rfl)
          focus (intro _ bq wx hS; refine OpTo.calls rfl ?_ ?_; rotate_left; intro K hK; go_simp; refine (K18.out _ (F8.out.call hS)).mono ?_; rintro e w' ⟨rfl, hq⟩; exact hK w' hq; exact rfl)
         case hfinr13 =>
          intro wx hS
          refine tail_at (o := ?ofr13_32) ?hir13_32 ?hwr13_32 ?_
          case hir13_32 => rw [List.getElem?_toArray]; exact rfl
          case hwr13_32 => exact rfl
          go_simp
          refine tail_at (o := ?ofr13_33) ?hir13_33 ?hwr13_33 ?_
          case hir13_33 => rw [List.getElem?_toArray]; exact rfl
          case hwr13_33 => exact rfl
          go_simp
          refine tail_at (o := ?ofr13_34) ?hir13_34 ?hwr13_34 ?_
          case hir13_34 => rw [List.getElem?_toArray]; exact rfl
          case hwr13_34 => exact rfl
          obtain ⟨sz, sg, sx0, sx1, sx2, sx3, sy0, sy1, sy2, sy3, sz0, sz1, sz2, sz3, sf⟩ := S8.out.call hS
          go_simp
          clear sz sg sx0 sx1 sx2 sx3 sy0 sy1 sy2 sy3 sz0 sz1 sz2 sz3 sf
          refine tail_end ?_
          obtain ⟨w9, hw⟩ : ∃ u, u = ((((wx.setCell ⟨s, 5, none⟩ (.int .u64 (limb Y 0 : Nat))).setCell ⟨s, 6, none⟩ (.int .u64 (limb Y 1 : Nat))).setCell ⟨s, 7, none⟩ (.int .u64 (limb Y 2 : Nat))).setCell ⟨s, 8, none⟩ (.int .u64 (limb Y 3 : Nat))) := ⟨_, rfl⟩
          rw [← hw]
          have F9 : Hid (FieldB w9 g PP) := by rw [hw]; exact (F8.out.call hS).put4s HZ.out.1
          have S9 : Hid (SpotB w9 s g X Y Z) := by rw [hw]; exact (S8.out.call hS).sety
          have W9 : Hid (ButC s w w9) := by rw [hw]; exact (W8.out.call hS).put4s
          have O59 : Hid (Own4 w9 b5 A) := by rw [hw]; exact (O58.out.call hS).put4s NE5.out
          have O69 : Hid (Own4 w9 b6 U) := by rw [hw]; exact (O68.out.call hS).put4s NE6.out
          have O89 : Hid (Own4 w9 b8 a3) := by rw [hw]; exact (O88.out.call hS).put4s NE8.out
          have O99 : Hid (Own4 w9 b9 mid) := by rw [hw]; exact (O98.out.call hS).put4s NE9.out
          clear hw hS F8 S8 W8 O58 O68 O88 O98
          go_wp2_with fail
          first | exact bodyPost_end (results_none rfl _ _ _) rfl ⟨rfl, S9.out, W9.out⟩ | exact bodyPost_ret (results_none rfl _ _ _) rfl ⟨rfl, S9.out, W9.out⟩
end Go.Proofs.YtchphekaonnfeaaDoor
