/- Package curve: the point where a spot is. -/
import Derived.Test.YtchphekaonnfeaaDoorCvF
import Derived.Test.YtchphekaonnfeaaDoorRgA
import Derived.Deep.DeepCutAuto
namespace Go.Proofs.YtchphekaonnfeaaDoor
open Go Go.RowKit Go.Lib
attribute [local go_sem] run_eq4

set_option maxRecDepth 100000 in
set_option maxHeartbeats 2000000 in
theorem spoint_zero (s g x y : Nat) (w : World) (hS : SpotB w s g x y 0) :
    Calls Tryd.prog 65 #[.pointer (some ⟨s, 0, none⟩)] w fun e w' => e = .returned (.agg #[.int .u64 0, .int .u64 0, .int .u64 0, .int .u64 0, .int .u64 0, .int .u64 0, .int .u64 0, .int .u64 0, .bool true]) ∧ Below w.heap.size w w' := by
  obtain ⟨w0, hw0⟩ : ∃ z, z = (w.alloc (.cells #[.int .u64 0, .int .u64 0, .int .u64 0, .int .u64 0, .int .u64 0, .int .u64 0, .int .u64 0, .int .u64 0, .bool false] 28)) := ⟨_, rfl⟩
  have H0 : Hid (SpotB w0 s g x y 0 ∧ PtZ w0 w.heap.size ∧ Below w.heap.size w w0) := by
    rw [hw0]
    exact ⟨hS.alloc, PtZ.new _ rfl, below_alloc0 (Below.refl _ _) _⟩
  clear hS
  go_enter Tryd.func65, Tryd.ntmps65
  go_upto_region 1 with fail
  rw [← hw0]
  clear hw0
  obtain ⟨sz, sg, sx0, sx1, sx2, sx3, sy0, sy1, sy2, sy3, sz0, sz1, sz2, sz3, sf⟩ := H0.out.1
  rw [lit0.1] at sz0
  rw [lit0.2.1] at sz1
  rw [lit0.2.2.1] at sz2
  rw [lit0.2.2.2] at sz3
  have e0 : eq4 0 0 0 0 0 0 0 0 = true := rfl
  obtain ⟨rz, r0, r1, r2, r3, r4, r5, r6, r7, r8, fr⟩ := H0.out.2.1
  go_wp2_with fail
  clear sz sg sx0 sx1 sx2 sx3 sy0 sy1 sy2 sy3 sz0 sz1 sz2 sz3 sf rz r0 r1 r2 r3 r4 r5 r6 r7 r8 fr
  obtain ⟨w3, hw3⟩ : ∃ z, z = (((((((((w0.setCell ⟨w.heap.size, 0, none⟩ (.int .u64 (limb 0 0 : Nat))).setCell ⟨w.heap.size, 1, none⟩ (.int .u64 (limb 0 1 : Nat))).setCell ⟨w.heap.size, 2, none⟩ (.int .u64 (limb 0 2 : Nat))).setCell ⟨w.heap.size, 3, none⟩ (.int .u64 (limb 0 3 : Nat))).setCell ⟨w.heap.size, 4, none⟩ (.int .u64 (limb 0 0 : Nat))).setCell ⟨w.heap.size, 5, none⟩ (.int .u64 (limb 0 1 : Nat))).setCell ⟨w.heap.size, 6, none⟩ (.int .u64 (limb 0 2 : Nat))).setCell ⟨w.heap.size, 7, none⟩ (.int .u64 (limb 0 3 : Nat))).setCell ⟨w.heap.size, 8, none⟩ (.bool true)) := ⟨_, rfl⟩
  have H3 : PointO w3 w.heap.size 0 0 true ∧ Below w.heap.size w w3 := by
    rw [hw3]
    exact ⟨H0.out.2.1.put, below_put9 H0.out.2.2 (Nat.le_refl _)⟩
  rw [lit0.1, lit0.2.1, lit0.2.2.1, lit0.2.2.2] at hw3
  rw [← hw3]
  clear hw3
  obtain ⟨⟨rz, r0, r1, r2, r3, r4, r5, r6, r7, r8, fr⟩, hB⟩ := H3
  refine bodyPost_ret (v := .agg #[.int .u64 0, .int .u64 0, .int .u64 0, .int .u64 0, .int .u64 0, .int .u64 0, .int .u64 0, .int .u64 0, .bool true]) ?_ rfl ⟨rfl, hB⟩
  simp [results, Tryd.results65, go_sem, r0, r1, r2, r3, r4, r5, r6, r7, r8, lit0.1, lit0.2.1, lit0.2.2.1, lit0.2.2.2]
set_option maxRecDepth 100000 in
set_option maxHeartbeats 4000000 in
theorem spoint_fin (s g x y z i q : Nat) (hx : x < PP) (hy : y < PP) (hz : z < PP) (h0 : z ≠ 0) (hi : i = z ^ (PP - 2) % PP) (hq : q = mM i i) (w : World) (hM : FieldB w g PP) (hS : SpotB w s g x y z) :
    Calls Tryd.prog 65 #[.pointer (some ⟨s, 0, none⟩)] w fun e w' => e = .returned (.agg #[.int .u64 (limb (mM x q) 0 : Nat), .int .u64 (limb (mM x q) 1 : Nat), .int .u64 (limb (mM x q) 2 : Nat), .int .u64 (limb (mM x q) 3 : Nat), .int .u64 (limb (mM y (mM q i)) 0 : Nat), .int .u64 (limb (mM y (mM q i)) 1 : Nat), .int .u64 (limb (mM y (mM q i)) 2 : Nat), .int .u64 (limb (mM y (mM q i)) 3 : Nat), .bool false]) ∧ Below w.heap.size w w' := by
  have li : i < PP := by rw [hi]; exact Nat.mod_lt _ PPpos
  have lq : q < PP := by rw [hq]; exact mM_lt _ _
  obtain ⟨t, et⟩ : ∃ u, u = mM q i := ⟨_, rfl⟩
  have lt : t < PP := by rw [et]; exact mM_lt _ _
  obtain ⟨X, eX⟩ : ∃ u, u = mM x q := ⟨_, rfl⟩
  have lX : X < PP := by rw [eX]; exact mM_lt _ _
  obtain ⟨Y, eY⟩ : ∃ u, u = mM y t := ⟨_, rfl⟩
  have lY : Y < PP := by rw [eY]; exact mM_lt _ _
  have K1 : Hid (∀ w, FieldB w g PP → Calls Tryd.prog 14 #[.pointer (some ⟨g, 0, none⟩), .agg #[.int .u64 (limb (z) 0 : Nat), .int .u64 (limb (z) 1 : Nat), .int .u64 (limb (z) 2 : Nat), .int .u64 (limb (z) 3 : Nat)]] w fun e w' => e = .returned (.tuple #[.agg #[.int .u64 (limb (i) 0 : Nat), .int .u64 (limb (i) 1 : Nat), .int .u64 (limb (i) 2 : Nat), .int .u64 (limb (i) 3 : Nat)], .int .i64 0]) ∧ Below w.heap.size w w') := fun w h => finv_in g PP z i FM_P hz h0 hi w h
  have K2 : Hid (pTm g i i q) := pTm_of li li hq
  have K3 : Hid (pTm g x q X) := pTm_of hx lq eX
  have K4 : Hid (pTm g q i t) := pTm_of lq li et
  have K5 : Hid (pTm g y t Y) := pTm_of hy lt eY
  have e0 : eq4 (limb z 0 : Nat) (limb z 1 : Nat) (limb z 2 : Nat) (limb z 3 : Nat) 0 0 0 0 = false := by
    rw [eq4_zeroC z (Nat.lt_trans hz FM_P.2.1)]; exact decide_eq_false h0
  rw [← et, ← eY, ← eX]
  obtain ⟨w0, hw0⟩ : ∃ z, z = (w.alloc (.cells #[.int .u64 0, .int .u64 0, .int .u64 0, .int .u64 0, .int .u64 0, .int .u64 0, .int .u64 0, .int .u64 0, .bool false] 28)) := ⟨_, rfl⟩
  have F0 : Hid (FieldB w0 g PP) := by rw [hw0]; exact hM.alloc
  have S0 : Hid (SpotB w0 s g x y z) := by rw [hw0]; exact hS.alloc
  have R0 : Hid (PtZ w0 w.heap.size) := by rw [hw0]; exact PtZ.new _ rfl
  have W0 : Hid (Below w.heap.size w w0) := by rw [hw0]; exact below_alloc0 (Below.refl _ _) _
  clear hS hM hx hy hz h0 hi hq li lq lt et eX eY lX lY
  go_enter Tryd.func65, Tryd.ntmps65
  go_upto_region 1 with fail
  rw [← hw0]
  clear hw0
  obtain ⟨sz, sg, sx0, sx1, sx2, sx3, sy0, sy1, sy2, sy3, sz0, sz1, sz2, sz3, sf⟩ := S0.out
  go_upto_region 3 with fail
  clear sz sg sx0 sx1 sx2 sx3 sy0 sy1 sy2 sy3 sz0 sz1 sz2 sz3 sf e0
  go_upto_region 3 with fail
  go_cut [3, 4] (fun v v2 wx => ∃ b3, v = .pointer (some ⟨b3, 0, none⟩) ∧ v2 = .int .i64 0 ∧ w0.heap.size ≤ b3 ∧ Own4 wx b3 i ∧ Below w0.heap.size w0 wx)
  case first =>
    refine wp_region_K 15 0 13 14 [?v0r3, ?v1r3, ?v2r3, ?v3r3, ?v4r3, ?v5r3, ?v6r3, ?v7r3, ?v8r3, ?v9r3, ?v10r3, ?v11r3, ?v12r3, undef, undef] [some 14, some 15, some 16, some 17, some 18, some 19, some 20, some 21, some 22, some 23, some 13, some 24, some 25, some 3, none] (fun s w b => OwnC w b (cond s (numL i) z4L)) ?Ar3 ?oar3 ?osr3 (by kernel_rfl) (by kernel_rfl) (by kernel_rfl) rfl ?hAr3 (fun _ _ _ _ h hb => OwnC.call h hb) ?hopr3 ?hoar3 ?hosr3 (by decide) (by decide) ?hswr3 ?halr3 ?hstr3 ?hfinr3
    case hAr3 =>
      intro bq
      simp only [List.set_cons_zero, List.set_cons_succ, List.zip_cons_cons, List.zip_nil_right, fillD, Act.put, List.setIfInBounds_toArray]
      exact rfl
    case hopr3 =>
      refine ⟨?_, ?_, ?_, ?_, ?_, ?_, ?_, ?_, ?_, ?_, ?_, ?_, ?_, fun h => absurd rfl h, fun _ h => absurd rfl h, trivial⟩
      iterate 4 focus (intro _ _ bq wx hS; refine OpTo.yields rfl ?_; clear hS; go_simp; try with_reducible rfl)
      focus (intro _ _ bq wx hS; refine OpTo.yields rfl ?_; obtain ⟨_, _, _, _, _, _, _, _, _, _, _, _, _, _, _⟩ := S0.out.call hS; clear hS; go_simp; try with_reducible rfl)
      iterate 3 focus (intro _ _ bq wx hS; refine OpTo.yields rfl ?_; clear hS; go_simp; try with_reducible rfl)
      focus (intro _ _ bq wx hS; refine OpTo.yields rfl ?_; obtain ⟨_, _, _, _, _, _, _, _, _, _, _, _, _, _, _⟩ := S0.out.call hS; clear hS; go_simp; try with_reducible rfl)
      focus (intro _ _ bq wx hS; refine OpTo.calls rfl ?_ ?_; rotate_left; intro K hK; go_simp; refine (K1.out _ (F0.out.call hS)).mono ?_; rintro e w' ⟨rfl, hq⟩; exact hK w' hq; exact rfl)
      iterate 3 focus (intro _ _ bq wx hS; refine OpTo.yields rfl ?_; clear hS; go_simp; try with_reducible rfl)
    case hoar3 =>
      rw [List.getElem?_toArray]
      exact rfl
    case halr3 =>
      intro bq wx hS
      refine OpTo.make (ob := ?obr3) (B := fun w b => OwnC w b z4L) hS rfl ?runr3 ?ownr3
      case runr3 =>
        go_simp
        try with_reducible rfl
      case ownr3 => exact OwnC.new' rfl
    case hosr3 =>
      rw [List.getElem?_toArray]
      exact rfl
    case hswr3 => kernel_rfl
    case hstr3 =>
      intro bq wx hS hB hle
      have hB' : OwnC wx bq z4L := hB
      refine OpTo.stores (w1 := putL bq 0 (numL i) wx) (R := fun w' => OwnC w' bq (cond true (numL i) z4L) ∧ Below w0.heap.size w0 w') rfl ?_ rfl ⟨OwnC.put (numL i) hB' rfl, below_putL hle (numL i) 0 _ hS⟩
      obtain ⟨gz, g0, g1, g2, g3, gf⟩ := OwnC.z4 hB'
      first | (left; go_simp; done) | (right; exact ⟨_, by go_simp; rfl⟩) | (left; go_simp; rfl)
    case hfinr3 =>
      intro bq wx hS hB hle
      refine tail_at (o := ?ofr3_15) ?hir3_15 ?hwr3_15 ?_
      case hir3_15 => rw [List.getElem?_toArray]; exact rfl
      case hwr3_15 => exact rfl
      go_simp
      refine tail_end ?_
      go_wp2_with fail
      go_meet
      exact ⟨bq, rfl, rfl, hle, OwnC.own4 hB, hS⟩
  case rest =>
    obtain ⟨b3, rfl, rfl, hle, hO, hB⟩ := hcut
    have F1 : Hid (FieldB wc g PP) := F0.out.call hB
    have S1 : Hid (SpotB wc s g x y z) := S0.out.call hB
    have R1 : Hid (PtZ wc w.heap.size) := R0.out.call hB
    have W1 : Hid (Below w.heap.size w wc) := below_call0 W0.out hB
    have O31 : Hid (Own4 wc b3 i) := hO
    clear hO hB hle F0 S0 R0 W0
    generalize wc = w1 at F1 S1 R1 W1 O31 ⊢
    go_upto_region 4 with fail
    go_cut [5] (fun v wx => ∃ b5, v = .pointer (some ⟨b5, 0, none⟩) ∧ w1.heap.size ≤ b5 ∧ Own4 wx b5 q ∧ Below w1.heap.size w1 wx)
    case first =>
      refine wp_region_I 8 0 7 [?v0r4, ?v1r4, ?v2r4, ?v3r4, ?v4r4, ?v5r4, ?v6r4, undef] [some 26, some 27, some 28, some 29, some 30, some 31, some 32, some 5] (fun w b => OwnC w b z4L) ?Ar4 ?oar4 (by kernel_rfl) (by kernel_rfl) (by kernel_rfl) rfl ?hAr4 (fun _ _ _ h hb => h.call hb) ?hopr4 ?hoar4 (by decide) ?halr4 ?hfinr4
      case hAr4 =>
        intro bq
        simp only [List.set_cons_zero, List.set_cons_succ, List.zip_cons_cons, List.zip_nil_right, fillD, Act.put, List.setIfInBounds_toArray]
        exact rfl
      case hopr4 =>
        refine ⟨?_, ?_, ?_, ?_, ?_, ?_, ?_, fun h => absurd rfl h, trivial⟩
        iterate 3 focus (intro _ bq wx hS; refine OpTo.yields rfl ?_; clear hS; go_simp; try with_reducible rfl)
        focus (intro _ bq wx hS; refine OpTo.yields rfl ?_; obtain ⟨_, _, _, _, _, _, _, _, _, _, _, _, _, _, _⟩ := S1.out.call hS; clear hS; go_simp; try with_reducible rfl)
        iterate 2 focus (intro _ bq wx hS; refine OpTo.yields rfl ?_; obtain ⟨⟨_, _, _, _⟩, -, _⟩ := (Own4.call O31.out hS).facts; clear hS; go_simp; try with_reducible rfl)
        focus (intro _ bq wx hS; refine OpTo.calls rfl ?_ ?_; rotate_left; intro K hK; go_simp; refine (K2.out _ (F1.out.call hS)).mono ?_; rintro e w' ⟨rfl, hq⟩; exact hK w' hq; exact rfl)
      case hoar4 =>
        rw [List.getElem?_toArray]
        exact rfl
      case halr4 =>
        intro bq wx hS
        refine OpTo.make (ob := ?obr4) (B := fun w b => OwnC w b z4L) hS rfl ?runr4 ?ownr4
        case runr4 =>
          go_simp
          try with_reducible rfl
        case ownr4 => exact OwnC.new' rfl
      case hfinr4 =>
        intro bq wx hS hB hle
        refine tail_at (o := ?ofr4_8) ?hir4_8 ?hwr4_8 ?_
        case hir4_8 => rw [List.getElem?_toArray]; exact rfl
        case hwr4_8 => exact rfl
        obtain ⟨gz, g0, g1, g2, g3, gf⟩ := hB.z4
        go_simp
        clear gz g0 g1 g2 g3 gf
        refine tail_end ?_
        go_wp2_with fail
        go_meet
        exact ⟨bq, rfl, hle, (OwnC.put (numL q) hB rfl).own4, below_putL hle (numL q) 0 _ hS⟩
    case rest =>
      obtain ⟨b5, rfl, hle, hO, hB⟩ := hcut
      have F2 : Hid (FieldB wc g PP) := F1.out.call hB
      have S2 : Hid (SpotB wc s g x y z) := S1.out.call hB
      have R2 : Hid (PtZ wc w.heap.size) := R1.out.call hB
      have W2 : Hid (Below w.heap.size w wc) := below_call0 W1.out hB
      have O32 : Hid (Own4 wc b3 i) := O31.out.call hB
      have O52 : Hid (Own4 wc b5 q) := hO
      clear hO hB hle F1 S1 R1 W1 O31
      generalize wc = w2 at F2 S2 R2 W2 O32 O52 ⊢
      go_upto_region 5 with fail
      refine wp_region_J 27 0 [?v0r5, ?v1r5, ?v2r5, ?v3r5, ?v4r5, ?v5r5, ?v6r5, ?v7r5, ?v8r5, ?v9r5, ?v10r5, ?v11r5, ?v12r5, ?v13r5, ?v14r5, ?v15r5, ?v16r5, ?v17r5, ?v18r5, ?v19r5, ?v20r5, ?v21r5, ?v22r5, ?v23r5, ?v24r5, ?v25r5, ?v26r5] [some 33, some 34, some 35, some 36, some 37, some 38, some 39, some 40, some 41, some 42, some 43, some 44, some 45, some 46, some 47, some 48, some 49, some 50, some 51, some 52, some 53, some 54, some 55, some 56, some 57, some 58, some 59] ?Ar5 (by kernel_rfl) (by kernel_rfl) (by kernel_rfl) rfl ?hAr5 ?hopr5 ?hfinr5
      case hAr5 =>
        simp only [List.set_cons_zero, List.set_cons_succ, List.zip_cons_cons, List.zip_nil_right, fillD, Act.put, List.setIfInBounds_toArray]
        exact rfl
      case hopr5 =>
        refine ⟨?_, ?_, ?_, ?_, ?_, ?_, ?_, ?_, ?_, ?_, ?_, ?_, ?_, ?_, ?_, ?_, ?_, ?_, ?_, ?_, ?_, ?_, ?_, ?_, ?_, ?_, ?_, trivial⟩
        iterate 3 focus (intro _ bq wx hS; refine OpTo.yields rfl ?_; clear hS; go_simp; try with_reducible rfl)
        focus (intro _ bq wx hS; refine OpTo.yields rfl ?_; obtain ⟨_, _, _, _, _, _, _, _, _, _, _, _, _, _, _⟩ := S2.out.call hS; clear hS; go_simp; try with_reducible rfl)
        iterate 3 focus (intro _ bq wx hS; refine OpTo.yields rfl ?_; clear hS; go_simp; try with_reducible rfl)
        focus (intro _ bq wx hS; refine OpTo.yields rfl ?_; obtain ⟨_, _, _, _, _, _, _, _, _, _, _, _, _, _, _⟩ := S2.out.call hS; clear hS; go_simp; try with_reducible rfl)
        focus (intro _ bq wx hS; refine OpTo.yields rfl ?_; obtain ⟨⟨_, _, _, _⟩, -, _⟩ := (Own4.call O52.out hS).facts; clear hS; go_simp; try with_reducible rfl)
        focus (intro _ bq wx hS; refine OpTo.calls rfl ?_ ?_; rotate_left; intro K hK; go_simp; refine (K3.out _ (F2.out.call hS)).mono ?_; rintro e w' ⟨rfl, hq⟩; exact hK w' hq; exact rfl)
        iterate 3 focus (intro _ bq wx hS; refine OpTo.yields rfl ?_; clear hS; go_simp; try with_reducible rfl)
        focus (intro _ bq wx hS; refine OpTo.yields rfl ?_; obtain ⟨_, _, _, _, _, _, _, _, _, _, _, _, _, _, _⟩ := S2.out.call hS; clear hS; go_simp; try with_reducible rfl)
        iterate 3 focus (intro _ bq wx hS; refine OpTo.yields rfl ?_; clear hS; go_simp; try with_reducible rfl)
        focus (intro _ bq wx hS; refine OpTo.yields rfl ?_; obtain ⟨_, _, _, _, _, _, _, _, _, _, _, _, _, _, _⟩ := S2.out.call hS; clear hS; go_simp; try with_reducible rfl)
        iterate 3 focus (intro _ bq wx hS; refine OpTo.yields rfl ?_; clear hS; go_simp; try with_reducible rfl)
        focus (intro _ bq wx hS; refine OpTo.yields rfl ?_; obtain ⟨_, _, _, _, _, _, _, _, _, _, _, _, _, _, _⟩ := S2.out.call hS; clear hS; go_simp; try with_reducible rfl)
        focus (intro _ bq wx hS; refine OpTo.yields rfl ?_; obtain ⟨⟨_, _, _, _⟩, -, _⟩ := (Own4.call O52.out hS).facts; clear hS; go_simp; try with_reducible rfl)
        focus (intro _ bq wx hS; refine OpTo.yields rfl ?_; obtain ⟨⟨_, _, _, _⟩, -, _⟩ := (Own4.call O32.out hS).facts; clear hS; go_simp; try with_reducible rfl)
        focus (intro _ bq wx hS; refine OpTo.calls rfl ?_ ?_; rotate_left; intro K hK; go_simp; refine (K4.out _ (F2.out.call hS)).mono ?_; rintro e w' ⟨rfl, hq⟩; exact hK w' hq; exact rfl)
        focus (intro _ bq wx hS; refine OpTo.calls rfl ?_ ?_; rotate_left; intro K hK; go_simp; refine (K5.out _ (F2.out.call hS)).mono ?_; rintro e w' ⟨rfl, hq⟩; exact hK w' hq; exact rfl)
        focus (intro _ bq wx hS; refine OpTo.yields rfl ?_; clear hS; go_simp; try with_reducible rfl)
      case hfinr5 =>
        intro wx hS
        refine tail_at (o := ?ofr5_27) ?hir5_27 ?hwr5_27 ?_
        case hir5_27 => rw [List.getElem?_toArray]; exact rfl
        case hwr5_27 => exact rfl
        obtain ⟨rz, r0, r1, r2, r3, r4, r5, r6, r7, r8, fr⟩ := R2.out.call hS
        go_simp
        clear rz r0 r1 r2 r3 r4 r5 r6 r7 r8 fr
        refine tail_end ?_
        obtain ⟨w6, hw6⟩ : ∃ z, z = (((((((((wx.setCell ⟨w.heap.size, 0, none⟩ (.int .u64 (limb X 0 : Nat))).setCell ⟨w.heap.size, 1, none⟩ (.int .u64 (limb X 1 : Nat))).setCell ⟨w.heap.size, 2, none⟩ (.int .u64 (limb X 2 : Nat))).setCell ⟨w.heap.size, 3, none⟩ (.int .u64 (limb X 3 : Nat))).setCell ⟨w.heap.size, 4, none⟩ (.int .u64 (limb Y 0 : Nat))).setCell ⟨w.heap.size, 5, none⟩ (.int .u64 (limb Y 1 : Nat))).setCell ⟨w.heap.size, 6, none⟩ (.int .u64 (limb Y 2 : Nat))).setCell ⟨w.heap.size, 7, none⟩ (.int .u64 (limb Y 3 : Nat))).setCell ⟨w.heap.size, 8, none⟩ (.bool false)) := ⟨_, rfl⟩
        rw [← hw6]
        have H6 : PointO w6 w.heap.size X Y false ∧ Below w.heap.size w w6 := by
          rw [hw6]
          exact ⟨(R2.out.call hS).put, below_put9 (below_call0 W2.out hS) (Nat.le_refl _)⟩
        clear hw6 hS
        obtain ⟨⟨rz, r0, r1, r2, r3, r4, r5, r6, r7, r8, fr⟩, hB⟩ := H6
        go_wp2_with fail
        refine bodyPost_ret (v := .agg #[.int .u64 (limb (X) 0 : Nat), .int .u64 (limb (X) 1 : Nat), .int .u64 (limb (X) 2 : Nat), .int .u64 (limb (X) 3 : Nat), .int .u64 (limb (Y) 0 : Nat), .int .u64 (limb (Y) 1 : Nat), .int .u64 (limb (Y) 2 : Nat), .int .u64 (limb (Y) 3 : Nat), .bool false]) ?_ rfl ⟨rfl, hB⟩
        simp [results, Tryd.results65, go_sem, r0, r1, r2, r3, r4, r5, r6, r7, r8]
end Go.Proofs.YtchphekaonnfeaaDoor
