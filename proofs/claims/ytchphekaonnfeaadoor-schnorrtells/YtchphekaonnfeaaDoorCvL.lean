/- Package curve: a spot doubled. -/
import Derived.Test.YtchphekaonnfeaaDoorCvJ
namespace Go.Proofs.YtchphekaonnfeaaDoor
open Go Go.RowKit Go.Lib
attribute [local go_sem] run_eq4

/-- Only the block s and new ones may be other. -/
structure ButC (s : Nat) (w w' : World) : Prop where
  os : w'.os = w.os
  tape : w'.tape = w.tape
  output : w'.output = w.output
  size : w.heap.size ≤ w'.heap.size
  block : ∀ k, k < w.heap.size → k ≠ s → w'.heap[k]? = w.heap[k]?
theorem ButC.of {s : Nat} {w w' : World} (h : Below w.heap.size w w') : ButC s w w' := ⟨h.os, h.tape, h.output, h.size, fun k hk _ => h.block k hk⟩
theorem ButC.call {s : Nat} {w w1 w2 : World} (h : ButC s w w1) (hb : Below w1.heap.size w1 w2) : ButC s w w2 :=
  ⟨hb.os.trans h.os, hb.tape.trans h.tape, hb.output.trans h.output, Nat.le_trans h.size hb.size, fun k hk hg => (hb.block k (Nat.lt_of_lt_of_le hk h.size)).trans (h.block k hk hg)⟩
theorem ButC.trans {s : Nat} {w w1 w2 : World} (h : ButC s w w1) (hb : ButC s w1 w2) : ButC s w w2 :=
  ⟨hb.os.trans h.os, hb.tape.trans h.tape, hb.output.trans h.output, Nat.le_trans h.size hb.size, fun k hk hg => (hb.block k (Nat.lt_of_lt_of_le hk h.size) hg).trans (h.block k hk hg)⟩
theorem ButC.set {s o : Nat} {w w1 : World} {v : Value} (h : ButC s w w1) : ButC s w (w1.setCell ⟨s, o, none⟩ v) :=
  ⟨h.os, h.tape, h.output, by rw [World.size_setCell]; exact h.size, fun k hk hg => (Below.heap_setCell w1 ⟨s, o, none⟩ v k hg).trans (h.block k hk hg)⟩
theorem ButC.cell {s : Nat} {w w' : World} (h : ButC s w w') {p : Addr} (hp : p.block < w.heap.size) (hg : p.block ≠ s) : w'.cell? p = w.cell? p := World.cell?_of_block (w := w) (h.block p.block hp hg)
theorem ButC.frozen {s : Nat} {w w' : World} (h : ButC s w w') {p : Addr} (hp : p.block < w.heap.size) (hg : p.block ≠ s) : w'.frozen? p = w.frozen? p := World.frozen?_of_block (w := w) (h.block p.block hp hg)
theorem ButC.below {s C : Nat} {w w' : World} (h : ButC s w w') (hC : C ≤ w.heap.size) (hg : C ≤ s) : Below C w w' := ⟨h.os, h.tape, h.output, h.size, fun k hk => h.block k (Nat.lt_of_lt_of_le hk hC) (by omega)⟩
theorem ButC.field {s g m : Nat} {w w' : World} (h : ButC s w w') (hF : FieldB w g m) (hg : g ≠ s) : FieldB w' g m :=
  ⟨fun j hj => (h.cell (p := ⟨g, j, none⟩) hF.2.2 hg).trans (hF.1 j hj), fun j hj => (h.cell (p := ⟨g, j + 4, none⟩) hF.2.2 hg).trans (hF.2.1 j hj), Nat.lt_of_lt_of_le hF.2.2 h.size⟩
theorem ButC.num4 {s b n : Nat} {w w' : World} (h : ButC s w w') (hN : Num4 w b n) (hb : b < w.heap.size) (hg : b ≠ s) : Num4 w' b n := fun j hj => (h.cell (p := ⟨b, j, none⟩) hb hg).trans (hN j hj)
theorem Own4.put4s {W : World} {p n s : Nat} {a b c d : Nat} {u v x y : Value} (h : Own4 W p n) (hne : s ≠ p) : Own4 ((((W.setCell ⟨s, a, none⟩ u).setCell ⟨s, b, none⟩ v).setCell ⟨s, c, none⟩ x).setCell ⟨s, d, none⟩ y) p n := (((h.set (a := ⟨s, a, none⟩) hne).set (a := ⟨s, b, none⟩) hne).set (a := ⟨s, c, none⟩) hne).set (a := ⟨s, d, none⟩) hne
theorem FieldB.put4s {W : World} {g m s : Nat} {a b c d : Nat} {u v x y : Value} (h : FieldB W g m) (hne : s ≠ g) : FieldB ((((W.setCell ⟨s, a, none⟩ u).setCell ⟨s, b, none⟩ v).setCell ⟨s, c, none⟩ x).setCell ⟨s, d, none⟩ y) g m := (((h.set (a := ⟨s, a, none⟩) hne).set (a := ⟨s, b, none⟩) hne).set (a := ⟨s, c, none⟩) hne).set (a := ⟨s, d, none⟩) hne
theorem ButC.put4s {w W : World} {s : Nat} {a b c d : Nat} {u v x y : Value} (h : ButC s w W) : ButC s w ((((W.setCell ⟨s, a, none⟩ u).setCell ⟨s, b, none⟩ v).setCell ⟨s, c, none⟩ x).setCell ⟨s, d, none⟩ y) := h.set.set.set.set
/-- The variable threeHalves. -/
def GTH (w : World) : Prop := Num4 w 3 TH ∧ 3 < w.heap.size
theorem GTH.call {w w' : World} (h : GTH w) (hb : Below w.heap.size w w') : GTH w' := ⟨fun j hj => (hb.cell (p := ⟨3, j, none⟩) h.2).trans (h.1 j hj), Nat.lt_of_lt_of_le h.2 hb.size⟩
theorem GTH.but {s : Nat} {w w' : World} (h : GTH w) (hb : ButC s w w') (hs : 3 ≠ s) : GTH w' := ⟨hb.num4 h.1 h.2 hs, Nat.lt_of_lt_of_le h.2 hb.size⟩
theorem TH_lt : TH < PP := of_decide_eq_true (by kernel_rfl)
/-- The same, by a letter. -/
def GTN (w : World) (T : Nat) : Prop := Num4 w 3 T ∧ 3 < w.heap.size
theorem GTN.call {w w' : World} {T : Nat} (h : GTN w T) (hb : Below w.heap.size w w') : GTN w' T := ⟨fun j hj => (hb.cell (p := ⟨3, j, none⟩) h.2).trans (h.1 j hj), Nat.lt_of_lt_of_le h.2 hb.size⟩
set_option maxRecDepth 100000 in
set_option maxHeartbeats 2000000 in
theorem sdouble_zero (s g x y : Nat) (w : World) (hS : SpotB w s g x y 0) :
    Calls Tryd.prog 50 #[.pointer (some ⟨s, 0, none⟩)] w fun e w' => e = .returned (.tuple #[]) ∧ w' = w := by
  obtain ⟨sz, sg, sx0, sx1, sx2, sx3, sy0, sy1, sy2, sy3, sz0, sz1, sz2, sz3, sf⟩ := hS
  rw [lit0.1] at sz0
  rw [lit0.2.1] at sz1
  rw [lit0.2.2.1] at sz2
  rw [lit0.2.2.2] at sz3
  have e0 : eq4 0 0 0 0 0 0 0 0 = true := rfl
  go_enter Tryd.func50, Tryd.ntmps50
  go_wp2_with fail
  first | (go_ret; exact ⟨rfl, rfl⟩) | (go_end0; exact ⟨rfl, rfl⟩) | exact bodyPost_end (results_none rfl _ _ _) rfl ⟨rfl, rfl⟩ | exact bodyPost_ret (results_none rfl _ _ _) rfl ⟨rfl, rfl⟩
set_option maxRecDepth 100000 in
set_option maxHeartbeats 4000000 in
theorem sdouble_fin (s g x y z sl sq mid X : Nat) (hx : x < PP) (hy : y < PP) (hz : z < PP) (h0 : z ≠ 0) (hsl : sl = mM (mM x x) TH) (hsq : sq = mM y y) (hmid : mid = mM x sq) (hX : X = sM (mM sl sl) (aM mid mid)) (w : World) (hM : FieldB w g PP) (hS : SpotB w s g x y z) (hT : GTH w) (hg : s ≠ g) :
    Calls Tryd.prog 50 #[.pointer (some ⟨s, 0, none⟩)] w fun e w' => e = .returned (.tuple #[]) ∧ SpotB w' s g X (sM (mM sl (sM mid X)) (mM sq sq)) (mM y z) ∧ ButC s w w' := by
  have lsl : sl < PP := by rw [hsl]; exact mM_lt _ _
  have lsq : sq < PP := by rw [hsq]; exact mM_lt _ _
  have lmid : mid < PP := by rw [hmid]; exact mM_lt _ _
  have lX : X < PP := by rw [hX]; exact sM_lt _ _
  obtain ⟨a, ea⟩ : ∃ u, u = mM x x := ⟨_, rfl⟩
  have la : a < PP := by rw [ea]; exact mM_lt _ _
  obtain ⟨Z, eZ⟩ : ∃ u, u = mM y z := ⟨_, rfl⟩
  have lZ : Z < PP := by rw [eZ]; exact mM_lt _ _
  obtain ⟨b, eb⟩ : ∃ u, u = mM sl sl := ⟨_, rfl⟩
  have lb : b < PP := by rw [eb]; exact mM_lt _ _
  obtain ⟨c, ec⟩ : ∃ u, u = aM mid mid := ⟨_, rfl⟩
  have lc : c < PP := by rw [ec]; exact aM_lt _ _
  obtain ⟨d, ed⟩ : ∃ u, u = sM mid X := ⟨_, rfl⟩
  have ld : d < PP := by rw [ed]; exact sM_lt _ _
  obtain ⟨E, eE⟩ : ∃ u, u = mM sl d := ⟨_, rfl⟩
  have lE : E < PP := by rw [eE]; exact mM_lt _ _
  obtain ⟨f, ef⟩ : ∃ u, u = mM sq sq := ⟨_, rfl⟩
  have lf : f < PP := by rw [ef]; exact mM_lt _ _
  obtain ⟨Y, eY⟩ : ∃ u, u = sM E f := ⟨_, rfl⟩
  have lY : Y < PP := by rw [eY]; exact sM_lt _ _
  have eTH : ∃ T, T = TH := ⟨_, rfl⟩
  obtain ⟨T, eT⟩ := eTH
  have lT : T < PP := by rw [eT]; exact TH_lt
  rw [← ea, ← eT] at hsl
  rw [← eb, ← ec] at hX
  rw [← eZ, ← ed, ← eE, ← ef, ← eY]
  have K1 : Hid (pTm g x x a) := pTm_of hx hx ea
  have K2 : Hid (pTm g a T sl) := pTm_of la lT hsl
  have K3 : Hid (pTm g y y sq) := pTm_of hy hy hsq
  have K4 : Hid (pTm g x sq mid) := pTm_of hx lsq hmid
  have K5 : Hid (pTm g y z Z) := pTm_of hy hz eZ
  have K6 : Hid (pTm g sl sl b) := pTm_of lsl lsl eb
  have K7 : Hid (pPl g mid mid c) := pPl_of lmid lmid ec
  have K8 : Hid (pMi g b c X) := pMi_of lb lc hX
  have K9 : Hid (pMi g mid X d) := pMi_of lmid lX ed
  have K10 : Hid (pTm g sl d E) := pTm_of lsl ld eE
  have K11 : Hid (pTm g sq sq f) := pTm_of lsq lsq ef
  have K12 : Hid (pMi g E f Y) := pMi_of lE lf eY
  have e0 : eq4 (limb z 0 : Nat) (limb z 1 : Nat) (limb z 2 : Nat) (limb z 3 : Nat) 0 0 0 0 = false := by
    rw [eq4_zeroC z (Nat.lt_trans hz FM_P.2.1)]; exact decide_eq_false h0
  have HZ : Hid (s ≠ g ∧ s < w.heap.size) := ⟨hg, hS.lt⟩
  have F0 : Hid (FieldB w g PP) := hM
  have S0 : Hid (SpotB w s g x y z) := hS
  have T0 : Hid (GTN w T) := by
    show GTN w T
    rw [eT]
    exact hT
  have W0 : Hid (Below w.heap.size w w) := Below.refl _ _
  obtain ⟨sz, sg, sx0, sx1, sx2, sx3, sy0, sy1, sy2, sy3, sz0, sz1, sz2, sz3, sf⟩ := hS
  clear hM hT hg hx hy hz h0 hsl hsq hmid hX lsl lsq lmid lX ea la eZ lZ eb lb ec lc ed ld eE lE ef lf eY lY eT lT
  go_enter Tryd.func50, Tryd.ntmps50
  go_upto_region 1 with fail
  clear sz sg sx0 sx1 sx2 sx3 sy0 sy1 sy2 sy3 sz0 sz1 sz2 sz3 sf e0
  go_upto_region 1 with fail
  go_cut [2] (fun v wx => ∃ b2, v = .pointer (some ⟨b2, 0, none⟩) ∧ w.heap.size ≤ b2 ∧ Own4 wx b2 sl ∧ Below w.heap.size w wx)
  case first =>
    refine wp_region_I 20 0 19 [?v0r1, ?v1r1, ?v2r1, ?v3r1, ?v4r1, ?v5r1, ?v6r1, ?v7r1, ?v8r1, ?v9r1, ?v10r1, ?v11r1, ?v12r1, ?v13r1, ?v14r1, ?v15r1, ?v16r1, ?v17r1, ?v18r1, undef] [some 11, some 12, some 13, some 14, some 15, some 16, some 17, some 18, some 19, some 20, some 21, some 22, some 23, some 24, some 25, some 26, some 27, some 28, some 29, some 2] (fun w b => OwnC w b z4L) ?Ar1 ?oar1 (by kernel_rfl) (by kernel_rfl) (by kernel_rfl) rfl ?hAr1 (fun _ _ _ h hb => h.call hb) ?hopr1 ?hoar1 (by decide) ?halr1 ?hfinr1
    case hAr1 =>
      intro bq
      simp only [List.set_cons_zero, List.set_cons_succ, List.zip_cons_cons, List.zip_nil_right, fillD, Act.put, List.setIfInBounds_toArray]
      exact rfl
    case hopr1 =>
      refine ⟨?_, ?_, ?_, ?_, ?_, ?_, ?_, ?_, ?_, ?_, ?_, ?_, ?_, ?_, ?_, ?_, ?_, ?_, ?_, fun h => absurd rfl h, trivial⟩
      iterate 3 focus (intro _ bq wx hS; refine OpTo.yields rfl ?_; clear hS; go_simp; try with_reducible rfl)
      focus (intro _ bq wx hS; refine OpTo.yields rfl ?_; obtain ⟨_, _, _, _, _, _, _, _, _, _, _, _, _, _, _⟩ := S0.out.call hS; clear hS; go_simp; try with_reducible rfl)
      iterate 3 focus (intro _ bq wx hS; refine OpTo.yields rfl ?_; clear hS; go_simp; try with_reducible rfl)
      focus (intro _ bq wx hS; refine OpTo.yields rfl ?_; obtain ⟨_, _, _, _, _, _, _, _, _, _, _, _, _, _, _⟩ := S0.out.call hS; clear hS; go_simp; try with_reducible rfl)
      iterate 3 focus (intro _ bq wx hS; refine OpTo.yields rfl ?_; clear hS; go_simp; try with_reducible rfl)
      focus (intro _ bq wx hS; refine OpTo.yields rfl ?_; obtain ⟨_, _, _, _, _, _, _, _, _, _, _, _, _, _, _⟩ := S0.out.call hS; clear hS; go_simp; try with_reducible rfl)
      iterate 3 focus (intro _ bq wx hS; refine OpTo.yields rfl ?_; clear hS; go_simp; try with_reducible rfl)
      focus (intro _ bq wx hS; refine OpTo.yields rfl ?_; obtain ⟨_, _, _, _, _, _, _, _, _, _, _, _, _, _, _⟩ := S0.out.call hS; clear hS; go_simp; try with_reducible rfl)
      focus (intro _ bq wx hS; refine OpTo.calls rfl ?_ ?_; rotate_left; intro K hK; go_simp; refine (K1.out _ (F0.out.call hS)).mono ?_; rintro e w' ⟨rfl, hq⟩; exact hK w' hq; exact rfl)
      focus (intro _ bq wx hS; refine OpTo.yields rfl ?_; obtain ⟨_, _, _, _⟩ := Num4.facts (T0.out.call hS).1; clear hS; go_simp; try with_reducible rfl)
      focus (intro _ bq wx hS; refine OpTo.calls rfl ?_ ?_; rotate_left; intro K hK; go_simp; refine (K2.out _ (F0.out.call hS)).mono ?_; rintro e w' ⟨rfl, hq⟩; exact hK w' hq; exact rfl)
    case hoar1 =>
      rw [List.getElem?_toArray]
      exact rfl
    case halr1 =>
      intro bq wx hS
      refine OpTo.make (ob := ?obr1) (B := fun w b => OwnC w b z4L) hS rfl ?runr1 ?ownr1
      case runr1 =>
        go_simp
        try with_reducible rfl
      case ownr1 => exact OwnC.new' rfl
    case hfinr1 =>
      intro bq wx hS hB hle
      refine tail_at (o := ?ofr1_20) ?hir1_20 ?hwr1_20 ?_
      case hir1_20 => rw [List.getElem?_toArray]; exact rfl
      case hwr1_20 => exact rfl
      obtain ⟨gz, g0, g1, g2, g3, gf⟩ := hB.z4
      go_simp
      clear gz g0 g1 g2 g3 gf
      refine tail_end ?_
      go_wp2_with fail
      go_meet
      exact ⟨bq, rfl, hle, (OwnC.put (numL sl) hB rfl).own4, below_putL hle (numL sl) 0 _ hS⟩
  case rest =>
    obtain ⟨b2, rfl, hle, hO, hB⟩ := hcut
    have F1 : Hid (FieldB wc g PP) := F0.out.call hB
    have S1 : Hid (SpotB wc s g x y z) := S0.out.call hB
    have T1 : Hid (GTN wc T) := T0.out.call hB
    have W1 : Hid (Below w.heap.size w wc) := below_call0 W0.out hB
    have NE2 : Hid (s ≠ b2) := Nat.ne_of_lt (Nat.lt_of_lt_of_le HZ.out.2 (Nat.le_trans W0.out.size hle))
    have O21 : Hid (Own4 wc b2 sl) := hO
    clear hO hB hle F0 S0 T0 W0
    clear T1
    generalize wc = w1 at F1 S1 W1 O21 ⊢
    go_upto_region 2 with fail
    go_cut [3] (fun v wx => ∃ b3, v = .pointer (some ⟨b3, 0, none⟩) ∧ w1.heap.size ≤ b3 ∧ Own4 wx b3 sq ∧ Below w1.heap.size w1 wx)
    case first =>
      refine wp_region_I 14 0 13 [?v0r2, ?v1r2, ?v2r2, ?v3r2, ?v4r2, ?v5r2, ?v6r2, ?v7r2, ?v8r2, ?v9r2, ?v10r2, ?v11r2, ?v12r2, undef] [some 30, some 31, some 32, some 33, some 34, some 35, some 36, some 37, some 38, some 39, some 40, some 41, some 42, some 3] (fun w b => OwnC w b z4L) ?Ar2 ?oar2 (by kernel_rfl) (by kernel_rfl) (by kernel_rfl) rfl ?hAr2 (fun _ _ _ h hb => h.call hb) ?hopr2 ?hoar2 (by decide) ?halr2 ?hfinr2
      case hAr2 =>
        intro bq
        simp only [List.set_cons_zero, List.set_cons_succ, List.zip_cons_cons, List.zip_nil_right, fillD, Act.put, List.setIfInBounds_toArray]
        exact rfl
      case hopr2 =>
        refine ⟨?_, ?_, ?_, ?_, ?_, ?_, ?_, ?_, ?_, ?_, ?_, ?_, ?_, fun h => absurd rfl h, trivial⟩
        iterate 3 focus (intro _ bq wx hS; refine OpTo.yields rfl ?_; clear hS; go_simp; try with_reducible rfl)
        focus (intro _ bq wx hS; refine OpTo.yields rfl ?_; obtain ⟨_, _, _, _, _, _, _, _, _, _, _, _, _, _, _⟩ := S1.out.call hS; clear hS; go_simp; try with_reducible rfl)
        iterate 3 focus (intro _ bq wx hS; refine OpTo.yields rfl ?_; clear hS; go_simp; try with_reducible rfl)
        focus (intro _ bq wx hS; refine OpTo.yields rfl ?_; obtain ⟨_, _, _, _, _, _, _, _, _, _, _, _, _, _, _⟩ := S1.out.call hS; clear hS; go_simp; try with_reducible rfl)
        iterate 3 focus (intro _ bq wx hS; refine OpTo.yields rfl ?_; clear hS; go_simp; try with_reducible rfl)
        focus (intro _ bq wx hS; refine OpTo.yields rfl ?_; obtain ⟨_, _, _, _, _, _, _, _, _, _, _, _, _, _, _⟩ := S1.out.call hS; clear hS; go_simp; try with_reducible rfl)
        focus (intro _ bq wx hS; refine OpTo.calls rfl ?_ ?_; rotate_left; intro K hK; go_simp; refine (K3.out _ (F1.out.call hS)).mono ?_; rintro e w' ⟨rfl, hq⟩; exact hK w' hq; exact rfl)
      case hoar2 =>
        rw [List.getElem?_toArray]
        exact rfl
      case halr2 =>
        intro bq wx hS
        refine OpTo.make (ob := ?obr2) (B := fun w b => OwnC w b z4L) hS rfl ?runr2 ?ownr2
        case runr2 =>
          go_simp
          try with_reducible rfl
        case ownr2 => exact OwnC.new' rfl
      case hfinr2 =>
        intro bq wx hS hB hle
        refine tail_at (o := ?ofr2_14) ?hir2_14 ?hwr2_14 ?_
        case hir2_14 => rw [List.getElem?_toArray]; exact rfl
        case hwr2_14 => exact rfl
        obtain ⟨gz, g0, g1, g2, g3, gf⟩ := hB.z4
        go_simp
        clear gz g0 g1 g2 g3 gf
        refine tail_end ?_
        go_wp2_with fail
        go_meet
        exact ⟨bq, rfl, hle, (OwnC.put (numL sq) hB rfl).own4, below_putL hle (numL sq) 0 _ hS⟩
    case rest =>
      obtain ⟨b3, rfl, hle, hO, hB⟩ := hcut
      have F2 : Hid (FieldB wc g PP) := F1.out.call hB
      have S2 : Hid (SpotB wc s g x y z) := S1.out.call hB
      have W2 : Hid (Below w.heap.size w wc) := below_call0 W1.out hB
      have O22 : Hid (Own4 wc b2 sl) := O21.out.call hB
      have NE3 : Hid (s ≠ b3) := Nat.ne_of_lt (Nat.lt_of_lt_of_le HZ.out.2 (Nat.le_trans W1.out.size hle))
      have O32 : Hid (Own4 wc b3 sq) := hO
      clear hO hB hle F1 S1 W1 O21
      generalize wc = w2 at F2 S2 W2 O22 O32 ⊢
      go_upto_region 3 with fail
      go_cut [4] (fun v wx => ∃ b4, v = .pointer (some ⟨b4, 0, none⟩) ∧ w2.heap.size ≤ b4 ∧ Own4 wx b4 mid ∧ Below w2.heap.size w2 wx)
      case first =>
        refine wp_region_I 11 0 10 [?v0r3, ?v1r3, ?v2r3, ?v3r3, ?v4r3, ?v5r3, ?v6r3, ?v7r3, ?v8r3, ?v9r3, undef] [some 43, some 44, some 45, some 46, some 47, some 48, some 49, some 50, some 51, some 52, some 4] (fun w b => OwnC w b z4L) ?Ar3 ?oar3 (by kernel_rfl) (by kernel_rfl) (by kernel_rfl) rfl ?hAr3 (fun _ _ _ h hb => h.call hb) ?hopr3 ?hoar3 (by decide) ?halr3 ?hfinr3
        case hAr3 =>
          intro bq
          simp only [List.set_cons_zero, List.set_cons_succ, List.zip_cons_cons, List.zip_nil_right, fillD, Act.put, List.setIfInBounds_toArray]
          exact rfl
        case hopr3 =>
          refine ⟨?_, ?_, ?_, ?_, ?_, ?_, ?_, ?_, ?_, ?_, fun h => absurd rfl h, trivial⟩
          iterate 3 focus (intro _ bq wx hS; refine OpTo.yields rfl ?_; clear hS; go_simp; try with_reducible rfl)
          focus (intro _ bq wx hS; refine OpTo.yields rfl ?_; obtain ⟨_, _, _, _, _, _, _, _, _, _, _, _, _, _, _⟩ := S2.out.call hS; clear hS; go_simp; try with_reducible rfl)
          iterate 3 focus (intro _ bq wx hS; refine OpTo.yields rfl ?_; clear hS; go_simp; try with_reducible rfl)
          focus (intro _ bq wx hS; refine OpTo.yields rfl ?_; obtain ⟨_, _, _, _, _, _, _, _, _, _, _, _, _, _, _⟩ := S2.out.call hS; clear hS; go_simp; try with_reducible rfl)
          focus (intro _ bq wx hS; refine OpTo.yields rfl ?_; obtain ⟨⟨_, _, _, _⟩, -, _⟩ := (Own4.call O32.out hS).facts; clear hS; go_simp; try with_reducible rfl)
          focus (intro _ bq wx hS; refine OpTo.calls rfl ?_ ?_; rotate_left; intro K hK; go_simp; refine (K4.out _ (F2.out.call hS)).mono ?_; rintro e w' ⟨rfl, hq⟩; exact hK w' hq; exact rfl)
        case hoar3 =>
          rw [List.getElem?_toArray]
          exact rfl
        case halr3 =>
          intro bq wx hS
          refine OpTo.make (ob := ?obr3) (B := fun w b => OwnC w b z4L) hS rfl ?runr3 ?ownr3
          case runr3 =>
            go_simp
            try with_reducible rfl
          case ownr3 => exact OwnC.new' rfl
        case hfinr3 =>
          intro bq wx hS hB hle
          refine tail_at (o := ?ofr3_11) ?hir3_11 ?hwr3_11 ?_
          case hir3_11 => rw [List.getElem?_toArray]; exact rfl
          case hwr3_11 => exact rfl
          obtain ⟨gz, g0, g1, g2, g3, gf⟩ := hB.z4
          go_simp
          clear gz g0 g1 g2 g3 gf
          refine tail_end ?_
          go_wp2_with fail
          go_meet
          exact ⟨bq, rfl, hle, (OwnC.put (numL mid) hB rfl).own4, below_putL hle (numL mid) 0 _ hS⟩
      case rest =>
        obtain ⟨b4, rfl, hle, hO, hB⟩ := hcut
        have F3 : Hid (FieldB wc g PP) := F2.out.call hB
        have S3 : Hid (SpotB wc s g x y z) := S2.out.call hB
        have W3 : Hid (Below w.heap.size w wc) := below_call0 W2.out hB
        have O23 : Hid (Own4 wc b2 sl) := O22.out.call hB
        have O33 : Hid (Own4 wc b3 sq) := O32.out.call hB
        have NE4 : Hid (s ≠ b4) := Nat.ne_of_lt (Nat.lt_of_lt_of_le HZ.out.2 (Nat.le_trans W2.out.size hle))
        have O43 : Hid (Own4 wc b4 mid) := hO
        clear hO hB hle F2 S2 W2 O22 O32
        generalize wc = w3 at F3 S3 W3 O23 O33 O43 ⊢
        have B3 : Hid (ButC s w w3) := ButC.of W3.out
        clear W3
        have W3 := B3
        clear B3
        go_upto_region 4 with fail
        refine wp_region_J 14 2 [?v0r4, ?v1r4, ?v2r4, ?v3r4, ?v4r4, ?v5r4, ?v6r4, ?v7r4, ?v8r4, ?v9r4, ?v10r4, ?v11r4, ?v12r4, ?v13r4] [some 53, some 54, some 55, some 56, some 57, some 58, some 59, some 60, some 61, some 62, some 63, some 64, some 65, some 66] ?Ar4 (by kernel_rfl) (by kernel_rfl) (by kernel_rfl) rfl ?hAr4 ?hopr4 ?hfinr4
        case hAr4 =>
          simp only [List.set_cons_zero, List.set_cons_succ, List.zip_cons_cons, List.zip_nil_right, fillD, Act.put, List.setIfInBounds_toArray]
          exact rfl
        case hopr4 =>
          refine ⟨?_, ?_, ?_, ?_, ?_, ?_, ?_, ?_, ?_, ?_, ?_, ?_, ?_, ?_, trivial⟩
          iterate 4 focus (intro _ bq wx hS; refine OpTo.yields rfl ?_; clear hS; go_simp; try with_reducible rfl)
          focus (intro _ bq wx hS; refine OpTo.yields rfl ?_; obtain ⟨_, _, _, _, _, _, _, _, _, _, _, _, _, _, _⟩ := S3.out.call hS; clear hS; go_simp; try with_reducible rfl)
          iterate 3 focus (intro _ bq wx hS; refine OpTo.yields rfl ?_; clear hS; go_simp; try with_reducible rfl)
          focus (intro _ bq wx hS; refine OpTo.yields rfl ?_; obtain ⟨_, _, _, _, _, _, _, _, _, _, _, _, _, _, _⟩ := S3.out.call hS; clear hS; go_simp; try with_reducible rfl)
          iterate 3 focus (intro _ bq wx hS; refine OpTo.yields rfl ?_; clear hS; go_simp; try with_reducible rfl)
          focus (intro _ bq wx hS; refine OpTo.yields rfl ?_; obtain ⟨_, _, _, _, _, _, _, _, _, _, _, _, _, _, _⟩ := S3.out.call hS; clear hS; go_simp; try with_reducible rfl)
          focus (intro _ bq wx hS; refine OpTo.calls rfl ?_ ?_; rotate_left; intro K hK; go_simp; refine (K5.out _ (F3.out.call hS)).mono ?_; rintro e w' ⟨rfl, hq⟩; exact hK w' hq; exact rfl)
        case hfinr4 =>
          intro wx hS
          refine tail_at (o := ?ofr4_14) ?hir4_14 ?hwr4_14 ?_
          case hir4_14 => rw [List.getElem?_toArray]; exact rfl
          case hwr4_14 => exact rfl
          go_simp
          refine tail_at (o := ?ofr4_15) ?hir4_15 ?hwr4_15 ?_
          case hir4_15 => rw [List.getElem?_toArray]; exact rfl
          case hwr4_15 => exact rfl
          go_simp
          refine tail_at (o := ?ofr4_16) ?hir4_16 ?hwr4_16 ?_
          case hir4_16 => rw [List.getElem?_toArray]; exact rfl
          case hwr4_16 => exact rfl
          obtain ⟨sz, sg, sx0, sx1, sx2, sx3, sy0, sy1, sy2, sy3, sz0, sz1, sz2, sz3, sf⟩ := S3.out.call hS
          go_simp
          clear sz sg sx0 sx1 sx2 sx3 sy0 sy1 sy2 sy3 sz0 sz1 sz2 sz3 sf
          refine tail_end ?_
          obtain ⟨w4, hw⟩ : ∃ u, u = ((((wx.setCell ⟨s, 9, none⟩ (.int .u64 (limb Z 0 : Nat))).setCell ⟨s, 10, none⟩ (.int .u64 (limb Z 1 : Nat))).setCell ⟨s, 11, none⟩ (.int .u64 (limb Z 2 : Nat))).setCell ⟨s, 12, none⟩ (.int .u64 (limb Z 3 : Nat))) := ⟨_, rfl⟩
          rw [← hw]
          have F4 : Hid (FieldB w4 g PP) := by rw [hw]; exact (F3.out.call hS).put4s HZ.out.1
          have S4 : Hid (SpotB w4 s g x y Z) := by rw [hw]; exact (S3.out.call hS).setz
          have W4 : Hid (ButC s w w4) := by rw [hw]; exact (W3.out.call hS).put4s
          have O24 : Hid (Own4 w4 b2 sl) := by rw [hw]; exact (O23.out.call hS).put4s NE2.out
          have O34 : Hid (Own4 w4 b3 sq) := by rw [hw]; exact (O33.out.call hS).put4s NE3.out
          have O44 : Hid (Own4 w4 b4 mid) := by rw [hw]; exact (O43.out.call hS).put4s NE4.out
          clear hw hS F3 S3 W3 O23 O33 O43
          go_upto_region 5 with fail
          refine wp_region_J 20 2 [?v0r5, ?v1r5, ?v2r5, ?v3r5, ?v4r5, ?v5r5, ?v6r5, ?v7r5, ?v8r5, ?v9r5, ?v10r5, ?v11r5, ?v12r5, ?v13r5, ?v14r5, ?v15r5, ?v16r5, ?v17r5, ?v18r5, ?v19r5] [some 69, some 70, some 71, some 72, some 73, some 74, some 75, some 76, some 77, some 78, some 79, some 80, some 81, some 82, some 83, some 84, some 85, some 86, some 87, some 88] ?Ar5 (by kernel_rfl) (by kernel_rfl) (by kernel_rfl) rfl ?hAr5 ?hopr5 ?hfinr5
          case hAr5 =>
            simp only [List.set_cons_zero, List.set_cons_succ, List.zip_cons_cons, List.zip_nil_right, fillD, Act.put, List.setIfInBounds_toArray]
            exact rfl
          case hopr5 =>
            refine ⟨?_, ?_, ?_, ?_, ?_, ?_, ?_, ?_, ?_, ?_, ?_, ?_, ?_, ?_, ?_, ?_, ?_, ?_, ?_, ?_, trivial⟩
            iterate 4 focus (intro _ bq wx hS; refine OpTo.yields rfl ?_; clear hS; go_simp; try with_reducible rfl)
            focus (intro _ bq wx hS; refine OpTo.yields rfl ?_; obtain ⟨_, _, _, _, _, _, _, _, _, _, _, _, _, _, _⟩ := S4.out.call hS; clear hS; go_simp; try with_reducible rfl)
            iterate 3 focus (intro _ bq wx hS; refine OpTo.yields rfl ?_; clear hS; go_simp; try with_reducible rfl)
            focus (intro _ bq wx hS; refine OpTo.yields rfl ?_; obtain ⟨_, _, _, _, _, _, _, _, _, _, _, _, _, _, _⟩ := S4.out.call hS; clear hS; go_simp; try with_reducible rfl)
            iterate 2 focus (intro _ bq wx hS; refine OpTo.yields rfl ?_; obtain ⟨⟨_, _, _, _⟩, -, _⟩ := (Own4.call O24.out hS).facts; clear hS; go_simp; try with_reducible rfl)
            focus (intro _ bq wx hS; refine OpTo.calls rfl ?_ ?_; rotate_left; intro K hK; go_simp; refine (K6.out _ (F4.out.call hS)).mono ?_; rintro e w' ⟨rfl, hq⟩; exact hK w' hq; exact rfl)
            iterate 3 focus (intro _ bq wx hS; refine OpTo.yields rfl ?_; clear hS; go_simp; try with_reducible rfl)
            focus (intro _ bq wx hS; refine OpTo.yields rfl ?_; obtain ⟨_, _, _, _, _, _, _, _, _, _, _, _, _, _, _⟩ := S4.out.call hS; clear hS; go_simp; try with_reducible rfl)
            iterate 2 focus (intro _ bq wx hS; refine OpTo.yields rfl ?_; obtain ⟨⟨_, _, _, _⟩, -, _⟩ := (Own4.call O44.out hS).facts; clear hS; go_simp; try with_reducible rfl)
            focus (intro _ bq wx hS; refine OpTo.calls rfl ?_ ?_; rotate_left; intro K hK; go_simp; refine (K7.out _ (F4.out.call hS)).mono ?_; rintro e w' ⟨rfl, hq⟩; exact hK w' hq; exact rfl)
            focus (intro _ bq wx hS; refine OpTo.calls rfl ?_ ?_; rotate_left; intro K hK; go_simp; refine (K8.out _ (F4.out.call hS)).mono ?_; rintro e w' ⟨rfl, hq⟩; exact hK w' hq; exact rfl)
          case hfinr5 =>
            intro wx hS
            refine tail_at (o := ?ofr5_20) ?hir5_20 ?hwr5_20 ?_
            case hir5_20 => rw [List.getElem?_toArray]; exact rfl
            case hwr5_20 => exact rfl
            go_simp
            refine tail_at (o := ?ofr5_21) ?hir5_21 ?hwr5_21 ?_
            case hir5_21 => rw [List.getElem?_toArray]; exact rfl
            case hwr5_21 => exact rfl
            go_simp
            refine tail_at (o := ?ofr5_22) ?hir5_22 ?hwr5_22 ?_
            case hir5_22 => rw [List.getElem?_toArray]; exact rfl
            case hwr5_22 => exact rfl
            obtain ⟨sz, sg, sx0, sx1, sx2, sx3, sy0, sy1, sy2, sy3, sz0, sz1, sz2, sz3, sf⟩ := S4.out.call hS
            go_simp
            clear sz sg sx0 sx1 sx2 sx3 sy0 sy1 sy2 sy3 sz0 sz1 sz2 sz3 sf
            refine tail_end ?_
            obtain ⟨w5, hw⟩ : ∃ u, u = ((((wx.setCell ⟨s, 1, none⟩ (.int .u64 (limb X 0 : Nat))).setCell ⟨s, 2, none⟩ (.int .u64 (limb X 1 : Nat))).setCell ⟨s, 3, none⟩ (.int .u64 (limb X 2 : Nat))).setCell ⟨s, 4, none⟩ (.int .u64 (limb X 3 : Nat))) := ⟨_, rfl⟩
            rw [← hw]
            have F5 : Hid (FieldB w5 g PP) := by rw [hw]; exact (F4.out.call hS).put4s HZ.out.1
            have S5 : Hid (SpotB w5 s g X y Z) := by rw [hw]; exact (S4.out.call hS).setx
            have W5 : Hid (ButC s w w5) := by rw [hw]; exact (W4.out.call hS).put4s
            have O25 : Hid (Own4 w5 b2 sl) := by rw [hw]; exact (O24.out.call hS).put4s NE2.out
            have O35 : Hid (Own4 w5 b3 sq) := by rw [hw]; exact (O34.out.call hS).put4s NE3.out
            have O45 : Hid (Own4 w5 b4 mid) := by rw [hw]; exact (O44.out.call hS).put4s NE4.out
            clear hw hS F4 S4 W4 O24 O34 O44
            go_upto_region 6 with fail
            refine wp_region_J 29 2 [?v0r6, ?v1r6, ?v2r6, ?v3r6, ?v4r6, ?v5r6, ?v6r6, ?v7r6, ?v8r6, ?v9r6, ?v10r6, ?v11r6, ?v12r6, ?v13r6, ?v14r6, ?v15r6, ?v16r6, ?v17r6, ?v18r6, ?v19r6, ?v20r6, ?v21r6, ?v22r6, ?v23r6, ?v24r6, ?v25r6, ?v26r6, ?v27r6, ?v28r6] [some 91, some 92, some 93, some 94, some 95, some 96, some 97, some 98, some 99, some 100, some 101, some 102, some 103, some 104, some 105, some 106, some 107, some 108, some 109, some 110, some 111, some 112, some 113, some 114, some 115, some 116, some 117, some 118, some 119] ?Ar6 (by kernel_rfl) (by kernel_rfl) (by kernel_rfl) rfl ?hAr6 ?hopr6 ?hfinr6
            case hAr6 =>
              simp only [List.set_cons_zero, List.set_cons_succ, List.zip_cons_cons, List.zip_nil_right, fillD, Act.put, List.setIfInBounds_toArray]
              exact rfl
            case hopr6 =>
              refine ⟨?_, ?_, ?_, ?_, ?_, ?_, ?_, ?_, ?_, ?_, ?_, ?_, ?_, ?_, ?_, ?_, ?_, ?_, ?_, ?_, ?_, ?_, ?_, ?_, ?_, ?_, ?_, ?_, ?_, trivial⟩
              iterate 4 focus (intro _ bq wx hS; refine OpTo.yields rfl ?_; clear hS; go_simp; try with_reducible rfl)
              focus (intro _ bq wx hS; refine OpTo.yields rfl ?_; obtain ⟨_, _, _, _, _, _, _, _, _, _, _, _, _, _, _⟩ := S5.out.call hS; clear hS; go_simp; try with_reducible rfl)
              iterate 3 focus (intro _ bq wx hS; refine OpTo.yields rfl ?_; clear hS; go_simp; try with_reducible rfl)
              focus (intro _ bq wx hS; refine OpTo.yields rfl ?_; obtain ⟨_, _, _, _, _, _, _, _, _, _, _, _, _, _, _⟩ := S5.out.call hS; clear hS; go_simp; try with_reducible rfl)
              focus (intro _ bq wx hS; refine OpTo.yields rfl ?_; obtain ⟨⟨_, _, _, _⟩, -, _⟩ := (Own4.call O25.out hS).facts; clear hS; go_simp; try with_reducible rfl)
              iterate 3 focus (intro _ bq wx hS; refine OpTo.yields rfl ?_; clear hS; go_simp; try with_reducible rfl)
              focus (intro _ bq wx hS; refine OpTo.yields rfl ?_; obtain ⟨_, _, _, _, _, _, _, _, _, _, _, _, _, _, _⟩ := S5.out.call hS; clear hS; go_simp; try with_reducible rfl)
              focus (intro _ bq wx hS; refine OpTo.yields rfl ?_; obtain ⟨⟨_, _, _, _⟩, -, _⟩ := (Own4.call O45.out hS).facts; clear hS; go_simp; try with_reducible rfl)
              iterate 3 focus (intro _ bq wx hS; refine OpTo.yields rfl ?_; clear hS; go_simp; try with_reducible rfl)
              focus (intro _ bq wx hS; refine OpTo.yields rfl ?_; obtain ⟨_, _, _, _, _, _, _, _, _, _, _, _, _, _, _⟩ := S5.out.call hS; clear hS; go_simp; try with_reducible rfl)
              focus (intro _ bq wx hS; refine OpTo.calls rfl ?_ ?_; rotate_left; intro K hK; go_simp; refine (K9.out _ (F5.out.call hS)).mono ?_; rintro e w' ⟨rfl, hq⟩; exact hK w' hq; exact rfl)
              focus (intro _ bq wx hS; refine OpTo.calls rfl ?_ ?_; rotate_left; intro K hK; go_simp; refine (K10.out _ (F5.out.call hS)).mono ?_; rintro e w' ⟨rfl, hq⟩; exact hK w' hq; exact rfl)
              iterate 3 focus (intro _ bq wx hS; refine OpTo.yields rfl ?_; clear hS; go_simp; try with_reducible rfl)
              focus (intro _ bq wx hS; refine OpTo.yields rfl ?_; obtain ⟨_, _, _, _, _, _, _, _, _, _, _, _, _, _, _⟩ := S5.out.call hS; clear hS; go_simp; try with_reducible rfl)
              iterate 2 focus (intro _ bq wx hS; refine OpTo.yields rfl ?_; obtain ⟨⟨_, _, _, _⟩, -, _⟩ := (Own4.call O35.out hS).facts; clear hS; go_simp; try with_reducible rfl)
              focus (intro _ bq wx hS; refine OpTo.calls rfl ?_ ?_; rotate_left; intro K hK; go_simp; refine (K11.out _ (F5.out.call hS)).mono ?_; rintro e w' ⟨rfl, hq⟩; exact hK w' hq; exact rfl)
              focus (intro _ bq wx hS; refine OpTo.calls rfl ?_ ?_; rotate_left; intro K hK; go_simp; refine (K12.out _ (F5.out.call hS)).mono ?_; rintro e w' ⟨rfl, hq⟩; exact hK w' hq; exact rfl)
            case hfinr6 =>
              intro wx hS
              refine tail_at (o := ?ofr6_29) ?hir6_29 ?hwr6_29 ?_
              case hir6_29 => rw [List.getElem?_toArray]; exact rfl
              case hwr6_29 => exact rfl
              go_simp
              refine tail_at (o := ?ofr6_30) ?hir6_30 ?hwr6_30 ?_
              case hir6_30 => rw [List.getElem?_toArray]; exact rfl
              case hwr6_30 => exact rfl
              go_simp
              refine tail_at (o := ?ofr6_31) ?hir6_31 ?hwr6_31 ?_
              case hir6_31 => rw [List.getElem?_toArray]; exact rfl
              case hwr6_31 => exact rfl
              obtain ⟨sz, sg, sx0, sx1, sx2, sx3, sy0, sy1, sy2, sy3, sz0, sz1, sz2, sz3, sf⟩ := S5.out.call hS
              go_simp
              clear sz sg sx0 sx1 sx2 sx3 sy0 sy1 sy2 sy3 sz0 sz1 sz2 sz3 sf
              refine tail_end ?_
              obtain ⟨w6, hw⟩ : ∃ u, u = ((((wx.setCell ⟨s, 5, none⟩ (.int .u64 (limb Y 0 : Nat))).setCell ⟨s, 6, none⟩ (.int .u64 (limb Y 1 : Nat))).setCell ⟨s, 7, none⟩ (.int .u64 (limb Y 2 : Nat))).setCell ⟨s, 8, none⟩ (.int .u64 (limb Y 3 : Nat))) := ⟨_, rfl⟩
              rw [← hw]
              have F6 : Hid (FieldB w6 g PP) := by rw [hw]; exact (F5.out.call hS).put4s HZ.out.1
              have S6 : Hid (SpotB w6 s g X Y Z) := by rw [hw]; exact (S5.out.call hS).sety
              have W6 : Hid (ButC s w w6) := by rw [hw]; exact (W5.out.call hS).put4s
              have O26 : Hid (Own4 w6 b2 sl) := by rw [hw]; exact (O25.out.call hS).put4s NE2.out
              have O36 : Hid (Own4 w6 b3 sq) := by rw [hw]; exact (O35.out.call hS).put4s NE3.out
              have O46 : Hid (Own4 w6 b4 mid) := by rw [hw]; exact (O45.out.call hS).put4s NE4.out
              clear hw hS F5 S5 W5 O25 O35 O45
              go_wp2_with fail
              first | exact bodyPost_end (results_none rfl _ _ _) rfl ⟨rfl, S6.out, W6.out⟩ | exact bodyPost_ret (results_none rfl _ _ _) rfl ⟨rfl, S6.out, W6.out⟩
end Go.Proofs.YtchphekaonnfeaaDoor
