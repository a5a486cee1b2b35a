/- Several texts laid together. -/
import Derived.Test.YtchphekaonnfeaaDoorMgP
import Derived.Test.YtchphekaonnfeaaDoorCvO
import Derived.Test.YtchphekaonnfeaaDoorCmA
namespace Go.Proofs.YtchphekaonnfeaaDoor
open Go Go.RowKit Go.Lib
attribute [local go_sem] run_eq4

set_option maxRecDepth 100000 in
set_option maxHeartbeats 4000000 in
theorem sadd_meet (s g x y z b o px py sq A U X Y Z : Nat) (hx : x < PP) (hy : y < PP) (hz : z < PP) (hpx : px < PP) (hpy : py < PP) (h0 : z ≠ 0) (hsq : sq = mM z z) (hA : A = sM (mM px sq) x) (hU : U = sM (mM py (mM sq z)) y) (hA0 : A = 0) (km : ∀ w, FieldB w g PP → SpotB w s g x y z → GTH w → Calls Tryd.prog 69 #[.pointer (some ⟨s, 0, none⟩), .agg #[.int .u64 (limb (U) 0 : Nat), .int .u64 (limb (U) 1 : Nat), .int .u64 (limb (U) 2 : Nat), .int .u64 (limb (U) 3 : Nat)]] w fun e w' => e = .returned (.tuple #[]) ∧ SpotB w' s g X Y Z ∧ ButC s w w') (w : World) (hM : FieldB w g PP) (hS : SpotB w s g x y z) (hP : PointB w b o px py false) (hg : s ≠ g) (hT : GTH w) :
    Calls Tryd.prog 51 #[.pointer (some ⟨s, 0, none⟩), .pointer (some ⟨b, o, none⟩)] w fun e w' => e = .returned (.tuple #[]) ∧ SpotB w' s g X Y Z ∧ ButC s w w' := by
  have lsq : sq < PP := by rw [hsq]; exact mM_lt _ _
  have lA : A < PP := by rw [hA]; exact sM_lt _ _
  have lU : U < PP := by rw [hU]; exact sM_lt _ _
  obtain ⟨c1, ec1⟩ : ∃ u, u = mM px sq := ⟨_, rfl⟩
  have lc1 : c1 < PP := by rw [ec1]; exact mM_lt _ _
  obtain ⟨c2, ec2⟩ : ∃ u, u = mM sq z := ⟨_, rfl⟩
  have lc2 : c2 < PP := by rw [ec2]; exact mM_lt _ _
  obtain ⟨c3, ec3⟩ : ∃ u, u = mM py c2 := ⟨_, rfl⟩
  have lc3 : c3 < PP := by rw [ec3]; exact mM_lt _ _
  rw [← ec1] at hA
  rw [← ec2, ← ec3] at hU
  have K1 : Hid (pTm g z z sq) := pTm_of hz hz hsq
  have K2 : Hid (pTm g px sq c1) := pTm_of hpx lsq ec1
  have K3 : Hid (pMi g c1 x A) := pMi_of lc1 hx hA
  have K4 : Hid (pTm g sq z c2) := pTm_of lsq hz ec2
  have K5 : Hid (pTm g py c2 c3) := pTm_of hpy lc2 ec3
  have K6 : Hid (pMi g c3 y U) := pMi_of lc3 hy hU
  have KM : Hid _ := km
  have e0 : eq4 (limb z 0 : Nat) (limb z 1 : Nat) (limb z 2 : Nat) (limb z 3 : Nat) 0 0 0 0 = false := by
    rw [eq4_zeroC z (Nat.lt_trans hz FM_P.2.1)]; exact decide_eq_false h0
  have e1 : eq4 (limb A 0 : Nat) (limb A 1 : Nat) (limb A 2 : Nat) (limb A 3 : Nat) 0 0 0 0 = true := by
    rw [eq4_zeroC A (Nat.lt_trans lA FM_P.2.1)]; exact decide_eq_true hA0
  have HZ : Hid (s ≠ g ∧ s < w.heap.size) := ⟨hg, hS.lt⟩
  have F0 : Hid (FieldB w g PP) := hM
  have S0 : Hid (SpotB w s g x y z) := hS
  have P0 : Hid (PointB w b o px py false) := hP
  have W0 : Hid (Below w.heap.size w w) := Below.refl _ _
  have T0 : Hid (GTH w) := hT
  obtain ⟨pz, p0, p1, p2, p3, p4, p5, p6, p7, p8⟩ := hP
  obtain ⟨sz, sg, sx0, sx1, sx2, sx3, sy0, sy1, sy2, sy3, sz0, sz1, sz2, sz3, sf⟩ := hS
  clear hM hT hg hx hy hz hpx hpy h0 hsq hA hU hA0 km lsq lA lU ec1 lc1 ec2 lc2 ec3 lc3
  go_enter Tryd.func51, Tryd.ntmps51
  go_upto_region 3 with fail
  clear sz sg sx0 sx1 sx2 sx3 sy0 sy1 sy2 sy3 sz0 sz1 sz2 sz3 sf pz p0 p1 p2 p3 p4 p5 p6 p7 p8 e0
  go_upto_region 3 with fail
  go_cut [4] (fun v wx => ∃ b4, v = .pointer (some ⟨b4, 0, none⟩) ∧ w.heap.size ≤ b4 ∧ Own4 wx b4 sq ∧ Below w.heap.size w wx)
  case first =>
    refine wp_region_I 14 0 13 [?v0r3, ?v1r3, ?v2r3, ?v3r3, ?v4r3, ?v5r3, ?v6r3, ?v7r3, ?v8r3, ?v9r3, ?v10r3, ?v11r3, ?v12r3, undef] [some 28, some 29, some 30, some 31, some 32, some 33, some 34, some 35, some 36, some 37, some 38, some 39, some 40, some 4] (fun w b => OwnC w b z4L) ?Ar3 ?oar3 (by kernel_rfl) (by kernel_rfl) (by kernel_rfl) rfl ?hAr3 (fun _ _ _ h hb => h.call hb) ?hopr3 ?hoar3 (by decide) ?halr3 ?hfinr3
    case hAr3 =>
      intro bq
      simp only [List.set_cons_zero, List.set_cons_succ, List.zip_cons_cons, List.zip_nil_right, fillD, Act.put, List.setIfInBounds_toArray]
      exact rfl
    case hopr3 =>
      refine ⟨?_, ?_, ?_, ?_, ?_, ?_, ?_, ?_, ?_, ?_, ?_, ?_, ?_, fun h => absurd rfl h, trivial⟩
      iterate 3 focus (intro _ bq wx hS; refine OpTo.yields rfl ?_; clear hS; go_simp; try with_reducible rfl)
      focus (intro _ bq wx hS; refine OpTo.yields rfl ?_; obtain ⟨_, _, _, _, _, _, _, _, _, _, _, _, _, _, _⟩ := S0.out.call hS; clear hS; go_simp; try with_reducible rfl)
      iterate 3 focus (intro _ bq wx hS; refine OpTo.yields rfl ?_; clear hS; go_simp; try with_reducible rfl)
      focus (intro _ bq wx hS; refine OpTo.yields rfl ?_; obtain ⟨_, _, _, _, _, _, _, _, _, _, _, _, _, _, _⟩ := S0.out.call hS; clear hS; go_simp; try with_reducible rfl)
      iterate 3 focus (intro _ bq wx hS; refine OpTo.yields rfl ?_; clear hS; go_simp; try with_reducible rfl)
      focus (intro _ bq wx hS; refine OpTo.yields rfl ?_; obtain ⟨_, _, _, _, _, _, _, _, _, _, _, _, _, _, _⟩ := S0.out.call hS; clear hS; go_simp; try with_reducible rfl)
      focus (intro _ bq wx hS; refine OpTo.calls rfl ?_ ?_; rotate_left; intro K hK; go_simp; refine (K1.out _ (F0.out.call hS)).mono ?_; rintro e w' ⟨rfl, hq⟩; exact hK w' hq; exact rfl)
    case hoar3 =>
      rw [List.getElem?_toArray]
      exact rfl
    case halr3 =>
      intro bq wx hS
      refine OpTo.make (ob := ?obr3) (B := fun w b => OwnC w b z4L) hS rfl ?runr3 ?ownr3
      case runr3 =>
        go_simp
        try with_reducible rfl
      case ownr3 => exact OwnC.new' rfl
    case hfinr3 =>
      intro bq wx hS hB hle
      refine tail_at (o := ?ofr3_14) ?hir3_14 ?hwr3_14 ?_
      case hir3_14 => rw [List.getElem?_toArray]; exact rfl
      case hwr3_14 => exact rfl
      obtain ⟨gz, g0, g1, g2, g3, gf⟩ := hB.z4
      go_simp
      clear gz g0 g1 g2 g3 gf
      refine tail_end ?_
      go_wp2_with fail
      go_meet
      exact ⟨bq, rfl, hle, (OwnC.put (numL sq) hB rfl).own4, below_putL hle (numL sq) 0 _ hS⟩
  case rest =>
    obtain ⟨b4, rfl, hle, hO, hB⟩ := hcut
    have F1 : Hid (FieldB wc g PP) := F0.out.call hB
    have S1 : Hid (SpotB wc s g x y z) := S0.out.call hB
    have P1 : Hid (PointB wc b o px py false) := P0.out.call hB
    have W1 : Hid (Below w.heap.size w wc) := below_call0 W0.out hB
    have T1 : Hid (GTH wc) := T0.out.call hB
    have NE4 : Hid (s ≠ b4) := Nat.ne_of_lt (Nat.lt_of_lt_of_le HZ.out.2 (Nat.le_trans W0.out.size hle))
    have O41 : Hid (Own4 wc b4 sq) := hO
    clear hO hB hle F0 S0 P0 W0 T0
    generalize wc = w1 at F1 S1 P1 W1 T1 O41 ⊢
    go_upto_region 4 with fail
    go_cut [5] (fun v wx => ∃ b5, v = .pointer (some ⟨b5, 0, none⟩) ∧ w1.heap.size ≤ b5 ∧ Own4 wx b5 A ∧ Below w1.heap.size w1 wx)
    case first =>
      refine wp_region_I 20 0 19 [?v0r4, ?v1r4, ?v2r4, ?v3r4, ?v4r4, ?v5r4, ?v6r4, ?v7r4, ?v8r4, ?v9r4, ?v10r4, ?v11r4, ?v12r4, ?v13r4, ?v14r4, ?v15r4, ?v16r4, ?v17r4, ?v18r4, undef] [some 41, some 42, some 43, some 44, some 45, some 46, some 47, some 48, some 49, some 50, some 51, some 52, some 53, some 54, some 55, some 56, some 57, some 58, some 59, some 5] (fun w b => OwnC w b z4L) ?Ar4 ?oar4 (by kernel_rfl) (by kernel_rfl) (by kernel_rfl) rfl ?hAr4 (fun _ _ _ h hb => h.call hb) ?hopr4 ?hoar4 (by decide) ?halr4 ?hfinr4
      case hAr4 =>
        intro bq
        simp only [List.set_cons_zero, List.set_cons_succ, List.zip_cons_cons, List.zip_nil_right, fillD, Act.put, List.setIfInBounds_toArray]
        exact rfl
      case hopr4 =>
        refine ⟨?_, ?_, ?_, ?_, ?_, ?_, ?_, ?_, ?_, ?_, ?_, ?_, ?_, ?_, ?_, ?_, ?_, ?_, ?_, fun h => absurd rfl h, trivial⟩
        iterate 3 focus (intro _ bq wx hS; refine OpTo.yields rfl ?_; clear hS; go_simp; try with_reducible rfl)
        focus (intro _ bq wx hS; refine OpTo.yields rfl ?_; obtain ⟨_, _, _, _, _, _, _, _, _, _, _, _, _, _, _⟩ := S1.out.call hS; clear hS; go_simp; try with_reducible rfl)
        iterate 3 focus (intro _ bq wx hS; refine OpTo.yields rfl ?_; clear hS; go_simp; try with_reducible rfl)
        focus (intro _ bq wx hS; refine OpTo.yields rfl ?_; obtain ⟨_, _, _, _, _, _, _, _, _, _, _, _, _, _, _⟩ := S1.out.call hS; clear hS; go_simp; try with_reducible rfl)
        iterate 3 focus (intro _ bq wx hS; refine OpTo.yields rfl ?_; clear hS; go_simp; try with_reducible rfl)
        focus (intro _ bq wx hS; refine OpTo.yields rfl ?_; obtain ⟨_, _, _, _, _, _, _, _, _, _⟩ := P1.out.call hS; clear hS; go_simp; try with_reducible rfl)
        focus (intro _ bq wx hS; refine OpTo.yields rfl ?_; obtain ⟨⟨_, _, _, _⟩, -, _⟩ := (Own4.call O41.out hS).facts; clear hS; go_simp; try with_reducible rfl)
        focus (intro _ bq wx hS; refine OpTo.calls rfl ?_ ?_; rotate_left; intro K hK; go_simp; refine (K2.out _ (F1.out.call hS)).mono ?_; rintro e w' ⟨rfl, hq⟩; exact hK w' hq; exact rfl)
        iterate 3 focus (intro _ bq wx hS; refine OpTo.yields rfl ?_; clear hS; go_simp; try with_reducible rfl)
        focus (intro _ bq wx hS; refine OpTo.yields rfl ?_; obtain ⟨_, _, _, _, _, _, _, _, _, _, _, _, _, _, _⟩ := S1.out.call hS; clear hS; go_simp; try with_reducible rfl)
        focus (intro _ bq wx hS; refine OpTo.calls rfl ?_ ?_; rotate_left; intro K hK; go_simp; refine (K3.out _ (F1.out.call hS)).mono ?_; rintro e w' ⟨rfl, hq⟩; exact hK w' hq; exact rfl)
      case hoar4 =>
        rw [List.getElem?_toArray]
        exact rfl
      case halr4 =>
        intro bq wx hS
        refine OpTo.make (ob := ?obr4) (B := fun w b => OwnC w b z4L) hS rfl ?runr4 ?ownr4
        case runr4 =>
          go_simp
          try with_reducible rfl
        case ownr4 => exact OwnC.new' rfl
      case hfinr4 =>
        intro bq wx hS hB hle
        refine tail_at (o := ?ofr4_20) ?hir4_20 ?hwr4_20 ?_
        case hir4_20 => rw [List.getElem?_toArray]; exact rfl
        case hwr4_20 => exact rfl
        obtain ⟨gz, g0, g1, g2, g3, gf⟩ := hB.z4
        go_simp
        clear gz g0 g1 g2 g3 gf
        refine tail_end ?_
        go_wp2_with fail
        go_meet
        exact ⟨bq, rfl, hle, (OwnC.put (numL A) hB rfl).own4, below_putL hle (numL A) 0 _ hS⟩
    case rest =>
      obtain ⟨b5, rfl, hle, hO, hB⟩ := hcut
      have F2 : Hid (FieldB wc g PP) := F1.out.call hB
      have S2 : Hid (SpotB wc s g x y z) := S1.out.call hB
      have P2 : Hid (PointB wc b o px py false) := P1.out.call hB
      have W2 : Hid (Below w.heap.size w wc) := below_call0 W1.out hB
      have T2 : Hid (GTH wc) := T1.out.call hB
      have O42 : Hid (Own4 wc b4 sq) := O41.out.call hB
      have NE5 : Hid (s ≠ b5) := Nat.ne_of_lt (Nat.lt_of_lt_of_le HZ.out.2 (Nat.le_trans W1.out.size hle))
      have O52 : Hid (Own4 wc b5 A) := hO
      clear hO hB hle F1 S1 P1 W1 T1 O41
      generalize wc = w2 at F2 S2 P2 W2 T2 O42 O52 ⊢
      go_upto_region 5 with fail
      go_cut [6] (fun v wx => ∃ b6, v = .pointer (some ⟨b6, 0, none⟩) ∧ w2.heap.size ≤ b6 ∧ Own4 wx b6 U ∧ Below w2.heap.size w2 wx)
      case first =>
        refine wp_region_I 29 0 28 [?v0r5, ?v1r5, ?v2r5, ?v3r5, ?v4r5, ?v5r5, ?v6r5, ?v7r5, ?v8r5, ?v9r5, ?v10r5, ?v11r5, ?v12r5, ?v13r5, ?v14r5, ?v15r5, ?v16r5, ?v17r5, ?v18r5, ?v19r5, ?v20r5, ?v21r5, ?v22r5, ?v23r5, ?v24r5, ?v25r5, ?v26r5, ?v27r5, undef] [some 60, some 61, some 62, some 63, some 64, some 65, some 66, some 67, some 68, some 69, some 70, some 71, some 72, some 73, some 74, some 75, some 76, some 77, some 78, some 79, some 80, some 81, some 82, some 83, some 84, some 85, some 86, some 87, some 6] (fun w b => OwnC w b z4L) ?Ar5 ?oar5 (by kernel_rfl) (by kernel_rfl) (by kernel_rfl) rfl ?hAr5 (fun _ _ _ h hb => h.call hb) ?hopr5 ?hoar5 (by decide) ?halr5 ?hfinr5
        case hAr5 =>
          intro bq
          simp only [List.set_cons_zero, List.set_cons_succ, List.zip_cons_cons, List.zip_nil_right, fillD, Act.put, List.setIfInBounds_toArray]
          exact rfl
        case hopr5 =>
          refine ⟨?_, ?_, ?_, ?_, ?_, ?_, ?_, ?_, ?_, ?_, ?_, ?_, ?_, ?_, ?_, ?_, ?_, ?_, ?_, ?_, ?_, ?_, ?_, ?_, ?_, ?_, ?_, ?_, fun h => absurd rfl h, trivial⟩
          iterate 3 focus (intro _ bq wx hS; refine OpTo.yields rfl ?_; clear hS; go_simp; try with_reducible rfl)
          focus (intro _ bq wx hS; refine OpTo.yields rfl ?_; obtain ⟨_, _, _, _, _, _, _, _, _, _, _, _, _, _, _⟩ := S2.out.call hS; clear hS; go_simp; try with_reducible rfl)
          iterate 3 focus (intro _ bq wx hS; refine OpTo.yields rfl ?_; clear hS; go_simp; try with_reducible rfl)
          focus (intro _ bq wx hS; refine OpTo.yields rfl ?_; obtain ⟨_, _, _, _, _, _, _, _, _, _, _, _, _, _, _⟩ := S2.out.call hS; clear hS; go_simp; try with_reducible rfl)
          iterate 3 focus (intro _ bq wx hS; refine OpTo.yields rfl ?_; clear hS; go_simp; try with_reducible rfl)
          focus (intro _ bq wx hS; refine OpTo.yields rfl ?_; obtain ⟨_, _, _, _, _, _, _, _, _, _⟩ := P2.out.call hS; clear hS; go_simp; try with_reducible rfl)
          iterate 3 focus (intro _ bq wx hS; refine OpTo.yields rfl ?_; clear hS; go_simp; try with_reducible rfl)
          focus (intro _ bq wx hS; refine OpTo.yields rfl ?_; obtain ⟨_, _, _, _, _, _, _, _, _, _, _, _, _, _, _⟩ := S2.out.call hS; clear hS; go_simp; try with_reducible rfl)
          focus (intro _ bq wx hS; refine OpTo.yields rfl ?_; obtain ⟨⟨_, _, _, _⟩, -, _⟩ := (Own4.call O42.out hS).facts; clear hS; go_simp; try with_reducible rfl)
          iterate 3 focus (intro _ bq wx hS; refine OpTo.yields rfl ?_; clear hS; go_simp; try with_reducible rfl)
          focus (intro _ bq wx hS; refine OpTo.yields rfl ?_; obtain ⟨_, _, _, _, _, _, _, _, _, _, _, _, _, _, _⟩ := S2.out.call hS; clear hS; go_simp; try with_reducible rfl)
          focus (intro _ bq wx hS; refine OpTo.calls rfl ?_ ?_; rotate_left; intro K hK; go_simp; refine (K4.out _ (F2.out.call hS)).mono ?_; rintro e w' ⟨rfl, hq⟩; exact hK w' hq; exact rfl)
          focus (intro _ bq wx hS; refine OpTo.calls rfl ?_ ?_; rotate_left; intro K hK; go_simp; refine (K5.out _ (F2.out.call hS)).mono ?_; rintro e w' ⟨rfl, hq⟩; exact hK w' hq; exact rfl)
          iterate 3 focus (intro _ bq wx hS; refine OpTo.yields rfl ?_; clear hS; go_simp; try with_reducible rfl)
          focus (intro _ bq wx hS; refine OpTo.yields rfl ?_; obtain ⟨_, _, _, _, _, _, _, _, _, _, _, _, _, _, _⟩ := S2.out.call hS; clear hS; go_simp; try with_reducible rfl)
          focus (intro _ bq wx hS; refine OpTo.calls rfl ?_ ?_; rotate_left; intro K hK; go_simp; refine (K6.out _ (F2.out.call hS)).mono ?_; rintro e w' ⟨rfl, hq⟩; exact hK w' hq; exact rfl)
        case hoar5 =>
          rw [List.getElem?_toArray]
          exact rfl
        case halr5 =>
          intro bq wx hS
          refine OpTo.make (ob := ?obr5) (B := fun w b => OwnC w b z4L) hS rfl ?runr5 ?ownr5
          case runr5 =>
            go_simp
            try with_reducible rfl
          case ownr5 => exact OwnC.new' rfl
        case hfinr5 =>
          intro bq wx hS hB hle
          refine tail_at (o := ?ofr5_29) ?hir5_29 ?hwr5_29 ?_
          case hir5_29 => rw [List.getElem?_toArray]; exact rfl
          case hwr5_29 => exact rfl
          obtain ⟨gz, g0, g1, g2, g3, gf⟩ := hB.z4
          go_simp
          clear gz g0 g1 g2 g3 gf
          refine tail_end ?_
          go_wp2_with fail
          go_meet
          exact ⟨bq, rfl, hle, (OwnC.put (numL U) hB rfl).own4, below_putL hle (numL U) 0 _ hS⟩
      case rest =>
        obtain ⟨b6, rfl, hle, hO, hB⟩ := hcut
        have F3 : Hid (FieldB wc g PP) := F2.out.call hB
        have S3 : Hid (SpotB wc s g x y z) := S2.out.call hB
        have P3 : Hid (PointB wc b o px py false) := P2.out.call hB
        have W3 : Hid (Below w.heap.size w wc) := below_call0 W2.out hB
        have T3 : Hid (GTH wc) := T2.out.call hB
        have O43 : Hid (Own4 wc b4 sq) := O42.out.call hB
        have O53 : Hid (Own4 wc b5 A) := O52.out.call hB
        have NE6 : Hid (s ≠ b6) := Nat.ne_of_lt (Nat.lt_of_lt_of_le HZ.out.2 (Nat.le_trans W2.out.size hle))
        have O63 : Hid (Own4 wc b6 U) := hO
        clear hO hB hle F2 S2 P2 W2 T2 O42 O52
        clear P3 O43
        generalize wc = w3 at F3 S3 W3 T3 O53 O63 ⊢
        obtain ⟨⟨a0, a1, a2, a3⟩, -, az⟩ := (O53.out).facts
        obtain ⟨⟨u0, u1, u2, u3⟩, -, uz⟩ := (O63.out).facts
        go_wp2_with fail
        clear a0 a1 a2 a3 az u0 u1 u2 u3 uz
        refine (KM.out _ F3.out S3.out T3.out).mono ?_
        rintro e wz ⟨rfl, hs, hb⟩
        have H9 : Hid (SpotB wz s g X Y Z ∧ ButC s w wz) := ⟨hs, (ButC.of W3.out).trans hb⟩
        clear hs hb
        go_wp2_with fail
        first | exact bodyPost_ret (results_none rfl _ _ _) rfl ⟨rfl, H9.out⟩ | exact bodyPost_end (results_none rfl _ _ _) rfl ⟨rfl, H9.out⟩
end Go.Proofs.YtchphekaonnfeaaDoor

namespace Go.Proofs.YtchphekaonnfeaaDoor
open Go Go.RowKit Go.Lib

theorem lt_R {x : Nat} (h : x < PP) : x < R256 := Nat.lt_trans h FM_P.2.1
/-- A point's coordinates, and whether it is the one at infinity. -/
def pX (a : Pts) : Nat := match a.1 with | none => 0 | some q => q.1.val
def pY (a : Pts) : Nat := match a.1 with | none => 0 | some q => q.2.val
def pI (a : Pts) : Bool := match a.1 with | none => true | some _ => false
theorem toF_back (q : FP) : toF q.val = q := Fin.ext (by rw [toF_val]; exact Nat.mod_eq_of_lt (val_lt q))
theorem pt_back (q : FP × FP) : pt q.1.val q.2.val = q := by unfold pt; rw [toF_back, toF_back]
theorem toF_low {x : Nat} (h : x < PP) : (toF x).val = x := by rw [toF_val]; exact Nat.mod_eq_of_lt h
theorem pX_lt (a : Pts) : pX a < PP := by
  unfold pX
  split
  · exact PPpos
  · exact val_lt _
theorem pY_lt (a : Pts) : pY a < PP := by
  unfold pY
  split
  · exact PPpos
  · exact val_lt _
theorem pX_none {a : Pts} (h : a.1 = none) : pX a = 0 := by unfold pX; rw [h]
theorem pY_none {a : Pts} (h : a.1 = none) : pY a = 0 := by unfold pY; rw [h]
theorem pI_none {a : Pts} (h : a.1 = none) : pI a = true := by unfold pI; rw [h]
theorem pX_some {a : Pts} {q : FP × FP} (h : a.1 = some q) : pX a = q.1.val := by unfold pX; rw [h]
theorem pY_some {a : Pts} {q : FP × FP} (h : a.1 = some q) : pY a = q.2.val := by unfold pY; rw [h]
theorem pI_some {a : Pts} {q : FP × FP} (h : a.1 = some q) : pI a = false := by unfold pI; rw [h]
theorem pX_of {a : Pts} {x y : Nat} (h : a.1 = some (pt x y)) (hx : x < PP) : pX a = x := (pX_some h).trans (toF_low hx)
theorem pY_of {a : Pts} {x y : Nat} (h : a.1 = some (pt x y)) (hy : y < PP) : pY a = y := (pY_some h).trans (toF_low hy)
theorem pts_z {a : Pts} (h : a.1 = none) : a = gr.z := Subtype.ext h
theorem pts_fin {a : Pts} {q : FP × FP} (h : a.1 = some q) : a.1 = some (pt (pX a) (pY a)) := by
  rw [pX_some h, pY_some h, pt_back]; exact h
theorem gr_add_val (a b : Pts) : (gr.add a b).1 = secp.add a.1 b.1 := rfl
theorem on_some {a : Pts} {q : FP × FP} (h : a.1 = some q) : secp.On q := by
  have k := a.2
  rw [h] at k
  exact k
theorem pts_ok (a : Pts) : ptOk (pX a) (pY a) (pI a) = true := by
  rcases ha : a.1 with _ | q
  · rw [pX_none ha, pY_none ha, pI_none ha]; exact decide_eq_true (show (0 : Nat) = 0 ∧ (0 : Nat) = 0 from ⟨rfl, rfl⟩)
  · have k := on_some (pts_fin ha)
    rw [pI_some ha]
    have e := on_iff.1 k
    refine decide_eq_true ⟨pX_lt a, pY_lt a, ?_⟩
    unfold sqM
    exact e
theorem pts_inj {a b : Pts} (hx : pX a = pX b) (hy : pY a = pY b) (hi : pI a = pI b) : a = b := by
  rcases ha : a.1 with _ | q
  · rcases hb : b.1 with _ | r
    · exact Subtype.ext (ha.trans hb.symm)
    · rw [pI_none ha, pI_some hb] at hi; cases hi
  · rcases hb : b.1 with _ | r
    · rw [pI_some ha, pI_none hb] at hi; cases hi
    · exact Subtype.ext ((pts_fin ha).trans (by rw [hx, hy]; exact (pts_fin hb).symm))
theorem gr_zl (a : Pts) : gr.add gr.z a = a := (gr.comm _ _).trans (gr.zero a)
/-- A spot where a point of the group is. -/
def SpotA (w : World) (s g : Nat) (a : Pts) : Prop := ∃ x y z, SpotB w s g x y z ∧ SpotN x y z a.1
theorem SpotA.call {w w' : World} {s g : Nat} {a : Pts} (h : SpotA w s g a) (hb : Below w.heap.size w w') : SpotA w' s g a := by
  obtain ⟨x, y, z, h1, h2⟩ := h
  exact ⟨x, y, z, h1.call hb, h2⟩
theorem SpotA.lt {w : World} {s g : Nat} {a : Pts} (h : SpotA w s g a) : s < w.heap.size := by
  obtain ⟨x, y, z, h1, h2⟩ := h
  exact h1.lt
theorem sdouble_A (s g : Nat) (a : Pts) (w : World) (hM : FieldB w g PP) (hS : SpotA w s g a) (hT : GTH w) (hg : s ≠ g) :
    Calls Tryd.prog 50 #[.pointer (some ⟨s, 0, none⟩)] w fun e w' => e = .returned (.tuple #[]) ∧ SpotA w' s g (gr.add a a) ∧ ButC s w w' := by
  obtain ⟨x, y, z, hB, hN⟩ := hS
  by_cases h0 : z = 0
  · subst h0
    have ha : a = gr.z := pts_z (spotN_zero hN)
    refine (sdouble_zero s g x y w hB).mono ?_
    rintro e w' ⟨rfl, rfl⟩
    refine ⟨rfl, ⟨x, y, 0, hB, ?_⟩, ButC.of (Below.refl _ _)⟩
    rw [ha] at hN ⊢
    rw [gr.zero]
    exact hN
  · refine (sdouble_fin s g x y z _ _ _ _ hN.lx hN.ly hN.lz h0 rfl rfl rfl rfl w hM hB hT hg).mono ?_
    rintro e w' ⟨rfl, hB', hb⟩
    exact ⟨rfl, ⟨_, _, _, hB', by rw [gr_add_val]; exact spotN_double hN a.2 h0 rfl rfl rfl rfl⟩, hb⟩
theorem smeet_dbl (s g x y z X Y Z U : Nat) (hU : U = 0) (kd : ∀ w, FieldB w g PP → SpotB w s g x y z → GTH w → Calls Tryd.prog 50 #[.pointer (some ⟨s, 0, none⟩)] w fun e w' => e = .returned (.tuple #[]) ∧ SpotB w' s g X Y Z ∧ ButC s w w') (w : World) (hM : FieldB w g PP) (hS : SpotB w s g x y z) (hT : GTH w) :
    Calls Tryd.prog 69 #[.pointer (some ⟨s, 0, none⟩), .agg #[.int .u64 (limb (U) 0 : Nat), .int .u64 (limb (U) 1 : Nat), .int .u64 (limb (U) 2 : Nat), .int .u64 (limb (U) 3 : Nat)]] w fun e w' => e = .returned (.tuple #[]) ∧ SpotB w' s g X Y Z ∧ ButC s w w' := by
  have k := smeet_same s g x y z X Y Z kd w hM hS hT
  rw [hU, lit0.1, lit0.2.1, lit0.2.2.1, lit0.2.2.2]
  exact k
theorem sadd_A (s g b o : Nat) (a p : Pts) (w : World) (hM : FieldB w g PP) (hS : SpotA w s g a) (hP : PointB w b o (pX p) (pY p) (pI p)) (hT : GTH w) (hg : s ≠ g) :
    Calls Tryd.prog 51 #[.pointer (some ⟨s, 0, none⟩), .pointer (some ⟨b, o, none⟩)] w fun e w' => e = .returned (.tuple #[]) ∧ SpotA w' s g (gr.add a p) ∧ ButC s w w' := by
  obtain ⟨x, y, z, hB, hN⟩ := hS
  rcases hp : p.1 with _ | q
  · rw [pI_none hp] at hP
    have hz : p = gr.z := pts_z hp
    refine (sadd_inf s b o _ _ w hP).mono ?_
    rintro e w' ⟨rfl, rfl⟩
    refine ⟨rfl, ⟨x, y, z, hB, ?_⟩, ButC.of (Below.refl _ _)⟩
    rw [hz, gr.zero]
    exact hN
  · rw [pI_some hp] at hP
    have hq := pts_fin hp
    have on := on_some hq
    have lx := pX_lt p
    have ly := pY_lt p
    have hv : (gr.add a p).1 = secp.add a.1 (some (pt (pX p) (pY p))) := by rw [gr_add_val, hq]
    by_cases h0 : z = 0
    · subst h0
      have ha : a = gr.z := pts_z (spotN_zero hN)
      refine (sadd_zero s g x y b o _ _ w hB hP).mono ?_
      rintro e w' ⟨rfl, hB', hb⟩
      refine ⟨rfl, ⟨_, _, _, hB', ?_⟩, hb⟩
      rw [ha, gr_zl, hq]
      exact spotN_at lx ly
    · by_cases hA : sM (mM (pX p) (mM z z)) x = 0
      · have hm := spotN_meet hN a.2 h0 on rfl rfl rfl hA
        by_cases hU : sM (mM (pY p) (mM (mM z z) z)) y = 0
        · have e := hm.1 hU
          refine (sadd_meet s g x y z b o (pX p) (pY p) _ _ _ _ _ _ hN.lx hN.ly hN.lz lx ly h0 rfl rfl rfl hA (fun w h1 h2 h3 => smeet_dbl s g x y z _ _ _ _ hU (fun w h1 h2 h3 => sdouble_fin s g x y z _ _ _ _ hN.lx hN.ly hN.lz h0 rfl rfl rfl rfl w h1 h2 h3 hg) w h1 h2 h3) w hM hB hP hg hT).mono ?_
          rintro e w' ⟨rfl, hB', hb⟩
          refine ⟨rfl, ⟨_, _, _, hB', ?_⟩, hb⟩
          have k := spotN_double hN a.2 h0 rfl rfl rfl rfl
          rw [hv, ← e]
          exact k
        · have e := hm.2 hU
          refine (sadd_meet s g x y z b o (pX p) (pY p) _ _ _ _ _ _ hN.lx hN.ly hN.lz lx ly h0 rfl rfl rfl hA (fun w h1 h2 h3 => smeet_other s g x y z _ (sM_lt _ _) hU w h2) w hM hB hP hg hT).mono ?_
          rintro e' w' ⟨rfl, hB', hb⟩
          refine ⟨rfl, ⟨_, _, _, hB', ?_⟩, hb⟩
          rw [hv, e]
          exact ⟨hN.lx, hN.ly, PPpos, by rw [toF_0]; exact spot_none _ _⟩
      · refine (sadd_fin s g x y z b o (pX p) (pY p) _ _ _ _ _ _ _ hN.lx hN.ly hN.lz lx ly h0 rfl rfl rfl hA rfl rfl rfl rfl w hM hB hP hg).mono ?_
        rintro e w' ⟨rfl, hB', hb⟩
        refine ⟨rfl, ⟨_, _, _, hB', ?_⟩, hb⟩
        rw [hv]
        exact spotN_add hN a.2 h0 on rfl rfl rfl hA rfl rfl rfl rfl
theorem spoint_A (s g : Nat) (a : Pts) (w : World) (hM : FieldB w g PP) (hS : SpotA w s g a) :
    Calls Tryd.prog 65 #[.pointer (some ⟨s, 0, none⟩)] w fun e w' => e = .returned (.agg #[.int .u64 (limb (pX (a)) 0 : Nat), .int .u64 (limb (pX (a)) 1 : Nat), .int .u64 (limb (pX (a)) 2 : Nat), .int .u64 (limb (pX (a)) 3 : Nat), .int .u64 (limb (pY (a)) 0 : Nat), .int .u64 (limb (pY (a)) 1 : Nat), .int .u64 (limb (pY (a)) 2 : Nat), .int .u64 (limb (pY (a)) 3 : Nat), .bool (pI (a))]) ∧ Below w.heap.size w w' := by
  obtain ⟨x, y, z, hB, hN⟩ := hS
  by_cases h0 : z = 0
  · subst h0
    have ha := spotN_zero hN
    rw [pX_none ha, pY_none ha, pI_none ha, lit0.1, lit0.2.1, lit0.2.2.1, lit0.2.2.2]
    exact spoint_zero s g x y w hB
  · have k := spotN_point hN h0 rfl rfl
    rw [pX_of k (mM_lt _ _), pY_of k (mM_lt _ _), pI_some k]
    exact spoint_fin s g x y z _ _ hN.lx hN.ly hN.lz h0 rfl rfl w hM hB
theorem sM_neg (y : Nat) (hy : y < PP) : toF (sM 0 y) = - toF y := by
  rw [toF_sM hy, toF_0]
  grind
theorem pts_neg (a : Pts) : pX (gr.neg a) = pX a ∧ pY (gr.neg a) = sM 0 (pY a) ∧ pI (gr.neg a) = pI a := by
  rcases ha : a.1 with _ | q
  · have e : (gr.neg a).1 = none := by show negO a.1 = none; rw [ha]; rfl
    rw [pX_none e, pY_none e, pI_none e, pX_none ha, pY_none ha, pI_none ha]
    exact ⟨rfl, by kernel_rfl, rfl⟩
  · have f := pts_fin ha
    have e : (gr.neg a).1 = some (pt (pX a) (sM 0 (pY a))) := by
      show negO a.1 = _
      rw [f]
      show some (_, _) = some (_, _)
      rw [sM_neg _ (pY_lt a)]
      rfl
    exact ⟨pX_of e (pX_lt a), pY_of e (sM_lt _ _), (pI_some e).trans (pI_some ha).symm⟩
theorem pneg_A (g : Nat) (a : Pts) (w : World) (hM : FieldB w g PP) :
    Calls Tryd.prog 64 #[.agg #[.pointer (some ⟨g, 0, none⟩)], .agg #[.int .u64 (limb (pX (a)) 0 : Nat), .int .u64 (limb (pX (a)) 1 : Nat), .int .u64 (limb (pX (a)) 2 : Nat), .int .u64 (limb (pX (a)) 3 : Nat), .int .u64 (limb (pY (a)) 0 : Nat), .int .u64 (limb (pY (a)) 1 : Nat), .int .u64 (limb (pY (a)) 2 : Nat), .int .u64 (limb (pY (a)) 3 : Nat), .bool (pI (a))]] w fun e w' => e = .returned (.agg #[.int .u64 (limb (pX (gr.neg a)) 0 : Nat), .int .u64 (limb (pX (gr.neg a)) 1 : Nat), .int .u64 (limb (pX (gr.neg a)) 2 : Nat), .int .u64 (limb (pX (gr.neg a)) 3 : Nat), .int .u64 (limb (pY (gr.neg a)) 0 : Nat), .int .u64 (limb (pY (gr.neg a)) 1 : Nat), .int .u64 (limb (pY (gr.neg a)) 2 : Nat), .int .u64 (limb (pY (gr.neg a)) 3 : Nat), .bool (pI (gr.neg a))]) ∧ Below w.heap.size w w' := by
  have k := pneg_any g (pX a) (pY a) (pI a) (pY_lt a) w hM
  rw [(pts_neg a).1, (pts_neg a).2.1, (pts_neg a).2.2]
  exact k
end Go.Proofs.YtchphekaonnfeaaDoor
