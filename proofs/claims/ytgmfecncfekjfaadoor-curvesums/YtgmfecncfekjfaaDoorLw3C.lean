/- Curve: which points are points, each sum, each negative: the law's walk. -/
import Derived.Test.YtgmfecncfekjfaaDoorLw3A
import Derived.Test.YtgmfecncfekjfaaDoorRf3U
namespace Go.Proofs.YtgmfecncfekjfaaDoor
open Go Go.RowKit Go.Lib
attribute [local go_sem] run_eqP run_eq49 eq4_same beqB_same

set_option maxRecDepth 100000 in
set_option maxHeartbeats 4000000 in
theorem sums_ok (a b : Pts) (w : World) (hG : GlobP w) (hT : GTH w) (hQ : GG w) : Calls Tryd.prog 3 #[.agg #[.int .u64 (limb (pX a) 0 : Nat), .int .u64 (limb (pX a) 1 : Nat), .int .u64 (limb (pX a) 2 : Nat), .int .u64 (limb (pX a) 3 : Nat), .int .u64 (limb (pY a) 0 : Nat), .int .u64 (limb (pY a) 1 : Nat), .int .u64 (limb (pY a) 2 : Nat), .int .u64 (limb (pY a) 3 : Nat), .bool (pI a)], .agg #[.int .u64 (limb (pX b) 0 : Nat), .int .u64 (limb (pX b) 1 : Nat), .int .u64 (limb (pX b) 2 : Nat), .int .u64 (limb (pX b) 3 : Nat), .int .u64 (limb (pY b) 0 : Nat), .int .u64 (limb (pY b) 1 : Nat), .int .u64 (limb (pY b) 2 : Nat), .int .u64 (limb (pY b) 3 : Nat), .bool (pI b)]] w fun e w' => e = .returned (.bool true) ∧ Below w.heap.size w w' := by
 obtain ⟨p1, ep1⟩ : ∃ uq, uq = gr.add a b := ⟨_, rfl⟩
 have K1 : Hid (∀ w, GlobP w → GTH w → Calls Tryd.prog 9 #[.agg #[.int .u64 (limb (pX a) 0 : Nat), .int .u64 (limb (pX a) 1 : Nat), .int .u64 (limb (pX a) 2 : Nat), .int .u64 (limb (pX a) 3 : Nat), .int .u64 (limb (pY a) 0 : Nat), .int .u64 (limb (pY a) 1 : Nat), .int .u64 (limb (pY a) 2 : Nat), .int .u64 (limb (pY a) 3 : Nat), .bool (pI a)], .agg #[.int .u64 (limb (pX b) 0 : Nat), .int .u64 (limb (pX b) 1 : Nat), .int .u64 (limb (pX b) 2 : Nat), .int .u64 (limb (pX b) 3 : Nat), .int .u64 (limb (pY b) 0 : Nat), .int .u64 (limb (pY b) 1 : Nat), .int .u64 (limb (pY b) 2 : Nat), .int .u64 (limb (pY b) 3 : Nat), .bool (pI b)]] w fun e w' => e = .returned (.tuple #[.agg #[.int .u64 (limb (pX p1) 0 : Nat), .int .u64 (limb (pX p1) 1 : Nat), .int .u64 (limb (pX p1) 2 : Nat), .int .u64 (limb (pX p1) 3 : Nat), .int .u64 (limb (pY p1) 0 : Nat), .int .u64 (limb (pY p1) 1 : Nat), .int .u64 (limb (pY p1) 2 : Nat), .int .u64 (limb (pY p1) 3 : Nat), .bool (pI p1)], .int .i64 0]) ∧ Below w.heap.size w w') := fun w hG hT => by have k := Add_A a b w hG hT; rw [show gr.add a b = p1 from ep1.symm] at k; exact k
 have K2 : Hid (∀ w, Calls Tryd.prog 10 #[.agg #[.int .u64 (limb (pX a) 0 : Nat), .int .u64 (limb (pX a) 1 : Nat), .int .u64 (limb (pX a) 2 : Nat), .int .u64 (limb (pX a) 3 : Nat), .int .u64 (limb (pY a) 0 : Nat), .int .u64 (limb (pY a) 1 : Nat), .int .u64 (limb (pY a) 2 : Nat), .int .u64 (limb (pY a) 3 : Nat), .bool (pI a)], .agg #[.int .u64 (limb (pX b) 0 : Nat), .int .u64 (limb (pX b) 1 : Nat), .int .u64 (limb (pX b) 2 : Nat), .int .u64 (limb (pX b) 3 : Nat), .int .u64 (limb (pY b) 0 : Nat), .int .u64 (limb (pY b) 1 : Nat), .int .u64 (limb (pY b) 2 : Nat), .int .u64 (limb (pY b) 3 : Nat), .bool (pI b)]] w fun e w' => e = .returned (.tuple #[.agg #[.int .u64 (limb (pX p1) 0 : Nat), .int .u64 (limb (pX p1) 1 : Nat), .int .u64 (limb (pX p1) 2 : Nat), .int .u64 (limb (pX p1) 3 : Nat), .int .u64 (limb (pY p1) 0 : Nat), .int .u64 (limb (pY p1) 1 : Nat), .int .u64 (limb (pY p1) 2 : Nat), .int .u64 (limb (pY p1) 3 : Nat), .bool (pI p1)], .int .i64 0]) ∧ Below w.heap.size w w') := fun w => by have k := add3_A a b w; rw [show gr.add a b = p1 from ep1.symm] at k; exact k
 obtain ⟨p2, ep2⟩ : ∃ uq, uq = gr.neg a := ⟨_, rfl⟩
 have K3 : Hid (∀ w, GlobP w → Calls Tryd.prog 11 #[.agg #[.int .u64 (limb (pX a) 0 : Nat), .int .u64 (limb (pX a) 1 : Nat), .int .u64 (limb (pX a) 2 : Nat), .int .u64 (limb (pX a) 3 : Nat), .int .u64 (limb (pY a) 0 : Nat), .int .u64 (limb (pY a) 1 : Nat), .int .u64 (limb (pY a) 2 : Nat), .int .u64 (limb (pY a) 3 : Nat), .bool (pI a)]] w fun e w' => e = .returned (.tuple #[.agg #[.int .u64 (limb (pX p2) 0 : Nat), .int .u64 (limb (pX p2) 1 : Nat), .int .u64 (limb (pX p2) 2 : Nat), .int .u64 (limb (pX p2) 3 : Nat), .int .u64 (limb (pY p2) 0 : Nat), .int .u64 (limb (pY p2) 1 : Nat), .int .u64 (limb (pY p2) 2 : Nat), .int .u64 (limb (pY p2) 3 : Nat), .bool (pI p2)], .int .i64 0]) ∧ Below w.heap.size w w') := fun w hG => by have k := Neg_A a w hG; rw [show gr.neg a = p2 from ep2.symm] at k; exact k
 have K4 : Hid (∀ w, Calls Tryd.prog 12 #[.agg #[.int .u64 (limb (pX a) 0 : Nat), .int .u64 (limb (pX a) 1 : Nat), .int .u64 (limb (pX a) 2 : Nat), .int .u64 (limb (pX a) 3 : Nat), .int .u64 (limb (pY a) 0 : Nat), .int .u64 (limb (pY a) 1 : Nat), .int .u64 (limb (pY a) 2 : Nat), .int .u64 (limb (pY a) 3 : Nat), .bool (pI a)]] w fun e w' => e = .returned (.bool true) ∧ Below w.heap.size w w') := fun w => by have k := is3_A a w; exact k
 have K5 : Hid (∀ w, GlobP w → Calls Tryd.prog 13 #[.agg #[.int .u64 (limb (pX a) 0 : Nat), .int .u64 (limb (pX a) 1 : Nat), .int .u64 (limb (pX a) 2 : Nat), .int .u64 (limb (pX a) 3 : Nat), .int .u64 (limb (pY a) 0 : Nat), .int .u64 (limb (pY a) 1 : Nat), .int .u64 (limb (pY a) 2 : Nat), .int .u64 (limb (pY a) 3 : Nat), .bool (pI a)]] w fun e w' => e = .returned (.int .i64 0) ∧ Below w.heap.size w w') := fun w h => Check_ok (pX a) (pY a) (pI a) (lt_R (pX_lt a)) (lt_R (pY_lt a)) (pts_ok a) w h
 have K6 : Hid (∀ w, Calls Tryd.prog 14 #[.agg #[.int .u64 (limb (pX a) 0 : Nat), .int .u64 (limb (pX a) 1 : Nat), .int .u64 (limb (pX a) 2 : Nat), .int .u64 (limb (pX a) 3 : Nat), .int .u64 (limb (pY a) 0 : Nat), .int .u64 (limb (pY a) 1 : Nat), .int .u64 (limb (pY a) 2 : Nat), .int .u64 (limb (pY a) 3 : Nat), .bool (pI a)]] w fun e w' => e = .returned (.agg #[.int .u64 (limb (pX p2) 0 : Nat), .int .u64 (limb (pX p2) 1 : Nat), .int .u64 (limb (pX p2) 2 : Nat), .int .u64 (limb (pX p2) 3 : Nat), .int .u64 (limb (pY p2) 0 : Nat), .int .u64 (limb (pY p2) 1 : Nat), .int .u64 (limb (pY p2) 2 : Nat), .int .u64 (limb (pY p2) 3 : Nat), .bool (pI p2)]) ∧ Below w.heap.size w w') := fun w => by have k := neg3_A a w; rw [show gr.neg a = p2 from ep2.symm] at k; exact k
 have K7 : Hid (∀ w, GlobP w → GTH w → GG w → Calls Tryd.prog 15 #[] w fun e w' => e = .returned (.bool true) ∧ Below w.heap.size w w') := fun w h1 h2 h3 => g3_any w h1 h2 h3
 obtain ⟨w0, hw0⟩ : ∃ wq, wq = ((w.alloc (.cells #[.int .u64 (limb (pX a) 0 : Nat), .int .u64 (limb (pX a) 1 : Nat), .int .u64 (limb (pX a) 2 : Nat), .int .u64 (limb (pX a) 3 : Nat), .int .u64 (limb (pY a) 0 : Nat), .int .u64 (limb (pY a) 1 : Nat), .int .u64 (limb (pY a) 2 : Nat), .int .u64 (limb (pY a) 3 : Nat), .bool (pI a)] 26)).alloc (.cells #[.int .u64 (limb (pX b) 0 : Nat), .int .u64 (limb (pX b) 1 : Nat), .int .u64 (limb (pX b) 2 : Nat), .int .u64 (limb (pX b) 3 : Nat), .int .u64 (limb (pY b) 0 : Nat), .int .u64 (limb (pY b) 1 : Nat), .int .u64 (limb (pY b) 2 : Nat), .int .u64 (limb (pY b) 3 : Nat), .bool (pI b)] 26)) := ⟨_, rfl⟩
 have H0 : Hid (OwnC w0 (w.heap.size) (ptL (pX a) (pY a) (pI a))) ∧ Hid (OwnC w0 (w.heap.size + 1) (ptL (pX b) (pY b) (pI b))) ∧ Hid (Below w.heap.size w w0) ∧ Hid (GlobP w0) ∧ Hid (GTH w0) ∧ Hid (GG w0) := by
  rw [hw0]
  exact ⟨(OwnC.new' rfl).alloc, (OwnC.new' (by simp only [World.size_alloc])), below_alloc0 (below_alloc0 (Below.refl _ _) _) _, (hG).call (below_alloc0 (below_alloc0 (Below.refl _ _) _) _), (hT).call (below_alloc0 (below_alloc0 (Below.refl _ _) _) _), (hQ).call (below_alloc0 (below_alloc0 (Below.refl _ _) _) _)⟩
 obtain ⟨P0_0, P1_0, W_0, G_0, T_0, Q_0⟩ := H0
 clear ep1 ep2 hG hT hQ
 go_enter Tryd.func3, Tryd.ntmps3
 go_upto_region 1 with fail
 rw [← hw0]
 clear hw0
 go_upto_region 1 with fail
 go_cut [5, 6] (fun vq5 vq6 wx => ∃ bk5, vq5 = .pointer (some ⟨bk5, 0, none⟩) ∧ vq6 = .int .i64 0 ∧ w0.heap.size ≤ bk5 ∧ OwnC wx bk5 (ptL (pX p1) (pY p1) (pI p1)) ∧ Below w0.heap.size w0 wx)
 case first =>
  obtain ⟨fP0z, fP00, fP01, fP02, fP03, fP04, fP05, fP06, fP07, fP08, fP0f⟩ := (P0_0.out).pt
  obtain ⟨fP1z, fP10, fP11, fP12, fP13, fP14, fP15, fP16, fP17, fP18, fP1f⟩ := (P1_0.out).pt
  go_wp2_with fail
  clear fP0z fP00 fP01 fP02 fP03 fP04 fP05 fP06 fP07 fP08 fP0f fP1z fP10 fP11 fP12 fP13 fP14 fP15 fP16 fP17 fP18 fP1f
  refine (K1.out _ (G_0.out) (T_0.out)).mono ?_
  rintro e wx0 ⟨rfl, hq0⟩
  go_wp2_with fail
  go_meet
  exact ⟨_, rfl, rfl, hq0.size, OwnC.new' rfl, below_alloc0 hq0 _⟩
 case rest =>
  obtain ⟨bk5, rfl, rfl, hle, hO, hB⟩ := hcut
  have P0_1 : Hid (OwnC wc (w.heap.size) (ptL (pX a) (pY a) (pI a))) := OwnC.call P0_0.out hB
  have P1_1 : Hid (OwnC wc (w.heap.size + 1) (ptL (pX b) (pY b) (pI b))) := OwnC.call P1_0.out hB
  have W_1 : Hid (Below w.heap.size w wc) := below_call0 W_0.out hB
  have G_1 : Hid (GlobP wc) := G_0.out.call hB
  have T_1 : Hid (GTH wc) := T_0.out.call hB
  have Q_1 : Hid (GG wc) := Q_0.out.call hB
  have V5_1 : Hid (OwnC wc bk5 (ptL (pX p1) (pY p1) (pI p1))) := hO
  clear hB P0_0 P1_0 W_0 G_0 T_0 Q_0
  clear hO hle
  generalize wc = w1 at P0_1 P1_1 W_1 G_1 T_1 Q_1 V5_1 ⊢
  go_upto_region 2 with fail
  go_cut [7, 8] (fun vq7 vq8 wx => ∃ bk7, vq7 = .pointer (some ⟨bk7, 0, none⟩) ∧ vq8 = .int .i64 0 ∧ w1.heap.size ≤ bk7 ∧ OwnC wx bk7 (ptL (pX p1) (pY p1) (pI p1)) ∧ Below w1.heap.size w1 wx)
  case first =>
   obtain ⟨fP0z, fP00, fP01, fP02, fP03, fP04, fP05, fP06, fP07, fP08, fP0f⟩ := (P0_1.out).pt
   obtain ⟨fP1z, fP10, fP11, fP12, fP13, fP14, fP15, fP16, fP17, fP18, fP1f⟩ := (P1_1.out).pt
   go_wp2_with fail
   clear fP0z fP00 fP01 fP02 fP03 fP04 fP05 fP06 fP07 fP08 fP0f fP1z fP10 fP11 fP12 fP13 fP14 fP15 fP16 fP17 fP18 fP1f
   refine (K2.out _).mono ?_
   rintro e wx0 ⟨rfl, hq0⟩
   go_wp2_with fail
   go_meet
   exact ⟨_, rfl, rfl, hq0.size, OwnC.new' rfl, below_alloc0 hq0 _⟩
  case rest =>
   obtain ⟨bk7, rfl, rfl, hle, hO, hB⟩ := hcut
   rename_i um un uo up uq ur us ut uu uv uw ux uy uz uA uB uC uD uE uF uG uH uI uJ uK uL uM uN uO uP uQ uR uS uT uU uV uW uX uY uZ va vb vc vd ve vf vg vh vi vj vk vl vm vn vo vp vq vr vs vt vu vv vw Kq1 hKq1
   clear um un uo up uq ur us ut uu uv uw ux uy uz uA uB uC uD uE uF uG uH uI uJ uK uL uM uN uO uP uQ uR uS uT uU uV uW uX uY uZ va vb vc vd ve vf vg vh vi vj vk vl vm vn vo vp vq vr vs vt vu vv vw
   have P0_2 : Hid (OwnC wc (w.heap.size) (ptL (pX a) (pY a) (pI a))) := OwnC.call P0_1.out hB
   have P1_2 : Hid (OwnC wc (w.heap.size + 1) (ptL (pX b) (pY b) (pI b))) := OwnC.call P1_1.out hB
   have W_2 : Hid (Below w.heap.size w wc) := below_call0 W_1.out hB
   have G_2 : Hid (GlobP wc) := G_1.out.call hB
   have T_2 : Hid (GTH wc) := T_1.out.call hB
   have Q_2 : Hid (GG wc) := Q_1.out.call hB
   have V5_2 : Hid (OwnC wc bk5 (ptL (pX p1) (pY p1) (pI p1))) := OwnC.call V5_1.out hB
   have V7_2 : Hid (OwnC wc bk7 (ptL (pX p1) (pY p1) (pI p1))) := hO
   clear hB P0_1 P1_1 W_1 G_1 T_1 Q_1 V5_1
   clear hO hle
   generalize wc = w2 at P0_2 P1_2 W_2 G_2 T_2 Q_2 V5_2 V7_2 ⊢
   go_upto_region 3 with fail
   go_cut [9, 10] (fun vq9 vq10 wx => ∃ bk9, vq9 = .pointer (some ⟨bk9, 0, none⟩) ∧ vq10 = .int .i64 0 ∧ w2.heap.size ≤ bk9 ∧ OwnC wx bk9 (ptL (pX p2) (pY p2) (pI p2)) ∧ Below w2.heap.size w2 wx)
   case first =>
    obtain ⟨fP0z, fP00, fP01, fP02, fP03, fP04, fP05, fP06, fP07, fP08, fP0f⟩ := (P0_2.out).pt
    go_wp2_with fail
    clear fP0z fP00 fP01 fP02 fP03 fP04 fP05 fP06 fP07 fP08 fP0f
    refine (K3.out _ (G_2.out)).mono ?_
    rintro e wx0 ⟨rfl, hq0⟩
    go_wp2_with fail
    go_meet
    exact ⟨_, rfl, rfl, hq0.size, OwnC.new' rfl, below_alloc0 hq0 _⟩
   case rest =>
    obtain ⟨bk9, rfl, rfl, hle, hO, hB⟩ := hcut
    rename_i um un uo up uq ur us ut uu uv uw ux uy uz uA uB uC uD uE uF uG uH uI uJ uK uL uM uN uO uP uQ uR uS uT uU uV uW uX uY uZ va vb vc vd ve vf vg vh vi vj vk vl vm vn vo vp vq vr vs vt vu vv vw Kq2 hKq2
    clear um un uo up uq ur us ut uu uv uw ux uy uz uA uB uC uD uE uF uG uH uI uJ uK uL uM uN uO uP uQ uR uS uT uU uV uW uX uY uZ va vb vc vd ve vf vg vh vi vj vk vl vm vn vo vp vq vr vs vt vu vv vw
    have P0_3 : Hid (OwnC wc (w.heap.size) (ptL (pX a) (pY a) (pI a))) := OwnC.call P0_2.out hB
    have P1_3 : Hid (OwnC wc (w.heap.size + 1) (ptL (pX b) (pY b) (pI b))) := OwnC.call P1_2.out hB
    have W_3 : Hid (Below w.heap.size w wc) := below_call0 W_2.out hB
    have G_3 : Hid (GlobP wc) := G_2.out.call hB
    have T_3 : Hid (GTH wc) := T_2.out.call hB
    have Q_3 : Hid (GG wc) := Q_2.out.call hB
    have V5_3 : Hid (OwnC wc bk5 (ptL (pX p1) (pY p1) (pI p1))) := OwnC.call V5_2.out hB
    have V7_3 : Hid (OwnC wc bk7 (ptL (pX p1) (pY p1) (pI p1))) := OwnC.call V7_2.out hB
    have V9_3 : Hid (OwnC wc bk9 (ptL (pX p2) (pY p2) (pI p2))) := hO
    clear hB P0_2 P1_2 W_2 G_2 T_2 Q_2 V5_2 V7_2
    clear hO hle
    generalize wc = w3 at P0_3 P1_3 W_3 G_3 T_3 Q_3 V5_3 V7_3 V9_3 ⊢
    obtain ⟨fP0z, fP00, fP01, fP02, fP03, fP04, fP05, fP06, fP07, fP08, fP0f⟩ := (P0_3.out).pt
    go_wp2_with fail
    clear fP0z fP00 fP01 fP02 fP03 fP04 fP05 fP06 fP07 fP08 fP0f
    refine (K4.out _).mono ?_
    rintro e w4 ⟨rfl, hq⟩
    have P0_4 : Hid (OwnC w4 (w.heap.size) (ptL (pX a) (pY a) (pI a))) := OwnC.call P0_3.out hq
    have P1_4 : Hid (OwnC w4 (w.heap.size + 1) (ptL (pX b) (pY b) (pI b))) := OwnC.call P1_3.out hq
    have W_4 : Hid (Below w.heap.size w w4) := below_call0 W_3.out hq
    have G_4 : Hid (GlobP w4) := G_3.out.call hq
    have T_4 : Hid (GTH w4) := T_3.out.call hq
    have Q_4 : Hid (GG w4) := Q_3.out.call hq
    have V5_4 : Hid (OwnC w4 bk5 (ptL (pX p1) (pY p1) (pI p1))) := OwnC.call V5_3.out hq
    have V7_4 : Hid (OwnC w4 bk7 (ptL (pX p1) (pY p1) (pI p1))) := OwnC.call V7_3.out hq
    have V9_4 : Hid (OwnC w4 bk9 (ptL (pX p2) (pY p2) (pI p2))) := OwnC.call V9_3.out hq
    clear hq P0_3 P1_3 W_3 G_3 T_3 Q_3 V5_3 V7_3 V9_3
    go_upto_region 5 with fail
    obtain ⟨fP0z, fP00, fP01, fP02, fP03, fP04, fP05, fP06, fP07, fP08, fP0f⟩ := (P0_4.out).pt
    obtain ⟨fV5z, fV50, fV51, fV52, fV53, fV54, fV55, fV56, fV57, fV58, fV5f⟩ := (V5_4.out).pt
    obtain ⟨fV7z, fV70, fV71, fV72, fV73, fV74, fV75, fV76, fV77, fV78, fV7f⟩ := (V7_4.out).pt
    go_wp2_with fail
    clear fP0z fP00 fP01 fP02 fP03 fP04 fP05 fP06 fP07 fP08 fP0f fV5z fV50 fV51 fV52 fV53 fV54 fV55 fV56 fV57 fV58 fV5f fV7z fV70 fV71 fV72 fV73 fV74 fV75 fV76 fV77 fV78 fV7f
    refine (K5.out _ (G_4.out)).mono ?_
    rintro e w5 ⟨rfl, hq⟩
    have P0_5 : Hid (OwnC w5 (w.heap.size) (ptL (pX a) (pY a) (pI a))) := OwnC.call P0_4.out hq
    have P1_5 : Hid (OwnC w5 (w.heap.size + 1) (ptL (pX b) (pY b) (pI b))) := OwnC.call P1_4.out hq
    have W_5 : Hid (Below w.heap.size w w5) := below_call0 W_4.out hq
    have G_5 : Hid (GlobP w5) := G_4.out.call hq
    have T_5 : Hid (GTH w5) := T_4.out.call hq
    have Q_5 : Hid (GG w5) := Q_4.out.call hq
    have V5_5 : Hid (OwnC w5 bk5 (ptL (pX p1) (pY p1) (pI p1))) := OwnC.call V5_4.out hq
    have V7_5 : Hid (OwnC w5 bk7 (ptL (pX p1) (pY p1) (pI p1))) := OwnC.call V7_4.out hq
    have V9_5 : Hid (OwnC w5 bk9 (ptL (pX p2) (pY p2) (pI p2))) := OwnC.call V9_4.out hq
    clear hq P0_4 P1_4 W_4 G_4 T_4 Q_4 V5_4 V7_4 V9_4
    go_upto_region 7 with fail
    go_upto_region 7 with fail
    refine wp_region_J 23 0 [?v0r7, ?v1r7, ?v2r7, ?v3r7, ?v4r7, ?v5r7, ?v6r7, ?v7r7, ?v8r7, ?v9r7, ?v10r7, ?v11r7, ?v12r7, ?v13r7, ?v14r7, ?v15r7, ?v16r7, ?v17r7, ?v18r7, ?v19r7, ?v20r7, ?v21r7, ?v22r7] [some 52, some 53, some 54, some 55, some 56, some 57, some 58, some 59, some 60, some 61, some 62, some 63, some 64, some 65, some 66, some 67, some 68, some 69, some 70, some 71, some 72, some 73, some 74] ?Ar7 (by kernel_rfl) (by kernel_rfl) (by kernel_rfl) rfl ?hAr7 ?hopr7 ?hfinr7
    case hAr7 =>
     simp only [List.set_cons_zero, List.set_cons_succ, List.zip_cons_cons, List.zip_nil_right, fillD, Act.put, List.setIfInBounds_toArray]
     exact rfl
    case hopr7 =>
     refine ⟨?_, ?_, ?_, ?_, ?_, ?_, ?_, ?_, ?_, ?_, ?_, ?_, ?_, ?_, ?_, ?_, ?_, ?_, ?_, ?_, ?_, ?_, ?_, trivial⟩
     iterate 2 focus (intro _ bq wx hS; refine OpTo.yields rfl ?_; clear hS; go_simp; try with_reducible rfl)
     focus (intro _ bq wx hS; refine OpTo.yields rfl ?_; obtain ⟨_, _, _, _, _, _, _, _, _, _, _⟩ := (OwnC.call V9_5.out hS).pt; clear hS; go_simp; try with_reducible rfl)
     focus (intro _ bq wx hS; refine OpTo.yields rfl ?_; obtain ⟨_, _, _, _, _, _, _, _, _, _, _⟩ := (OwnC.call P0_5.out hS).pt; clear hS; go_simp; try with_reducible rfl)
     focus (intro _ bq wx hS; refine OpTo.calls rfl ?_ ?_; rotate_left; intro K hK; go_simp; refine (K6.out _).mono ?_; rintro e w' ⟨rfl, hq⟩; exact hK w' hq; exact rfl)
     iterate 3 focus (intro _ bq wx hS; refine OpTo.yields rfl ?_; clear hS; go_simp; try with_reducible rfl)
     iterate 11 focus (intro _ bq wx hS; refine OpTo.no ?_; exact rfl)
     iterate 2 focus (intro _ bq wx hS; refine OpTo.yields rfl ?_; clear hS; go_simp; try with_reducible rfl)
     focus (intro _ bq wx hS; refine OpTo.calls rfl ?_ ?_; rotate_left; intro K hK; go_simp; refine (K7.out _ (G_5.out.call hS) (T_5.out.call hS) (Q_5.out.call hS)).mono ?_; rintro e w' ⟨rfl, hq⟩; exact hK w' hq; exact rfl)
     focus (intro _ bq wx hS; refine OpTo.yields rfl ?_; clear hS; go_simp; try with_reducible rfl)
    case hfinr7 =>
     intro wx hS
     refine tail_at (o := ?ofr7_23) ?hir7_23 ?hwr7_23 ?_
     case hir7_23 => rw [List.getElem?_toArray]; exact rfl
     case hwr7_23 => exact rfl
     go_simp
     refine tail_end ?_
     go_wp2_with fail
     go_ret
     exact ⟨rfl, below_call0 W_5.out hS⟩
set_option maxRecDepth 100000 in
set_option maxHeartbeats 4000000 in
theorem sums_bad2 (a : Pts) (u v : Nat) (j : Bool) (hU : u < R256) (hV : v < R256) (hk : ptOk u v j = false) (w : World) (hG : GlobP w) (hT : GTH w) (hQ : GG w) : Calls Tryd.prog 3 #[.agg #[.int .u64 (limb (pX a) 0 : Nat), .int .u64 (limb (pX a) 1 : Nat), .int .u64 (limb (pX a) 2 : Nat), .int .u64 (limb (pX a) 3 : Nat), .int .u64 (limb (pY a) 0 : Nat), .int .u64 (limb (pY a) 1 : Nat), .int .u64 (limb (pY a) 2 : Nat), .int .u64 (limb (pY a) 3 : Nat), .bool (pI a)], .agg #[.int .u64 (limb (u) 0 : Nat), .int .u64 (limb (u) 1 : Nat), .int .u64 (limb (u) 2 : Nat), .int .u64 (limb (u) 3 : Nat), .int .u64 (limb (v) 0 : Nat), .int .u64 (limb (v) 1 : Nat), .int .u64 (limb (v) 2 : Nat), .int .u64 (limb (v) 3 : Nat), .bool j]] w fun e w' => e = .returned (.bool true) ∧ Below w.heap.size w w' := by
 have K1 : Hid (∀ w, GlobP w → Calls Tryd.prog 9 #[.agg #[.int .u64 (limb (pX a) 0 : Nat), .int .u64 (limb (pX a) 1 : Nat), .int .u64 (limb (pX a) 2 : Nat), .int .u64 (limb (pX a) 3 : Nat), .int .u64 (limb (pY a) 0 : Nat), .int .u64 (limb (pY a) 1 : Nat), .int .u64 (limb (pY a) 2 : Nat), .int .u64 (limb (pY a) 3 : Nat), .bool (pI a)], .agg #[.int .u64 (limb (u) 0 : Nat), .int .u64 (limb (u) 1 : Nat), .int .u64 (limb (u) 2 : Nat), .int .u64 (limb (u) 3 : Nat), .int .u64 (limb (v) 0 : Nat), .int .u64 (limb (v) 1 : Nat), .int .u64 (limb (v) 2 : Nat), .int .u64 (limb (v) 3 : Nat), .bool j]] w fun e w' => e = .returned (.tuple #[.agg #[.int .u64 0, .int .u64 0, .int .u64 0, .int .u64 0, .int .u64 0, .int .u64 0, .int .u64 0, .int .u64 0, .bool false], .int .i64 30]) ∧ Below w.heap.size w w') := fun w h => Add_bad2 (pX a) (pY a) u v (pI a) j (lt_R (pX_lt a)) (lt_R (pY_lt a)) hU hV (pts_ok a) hk w h
 have K2 : Hid (∀ w, Calls Tryd.prog 10 #[.agg #[.int .u64 (limb (pX a) 0 : Nat), .int .u64 (limb (pX a) 1 : Nat), .int .u64 (limb (pX a) 2 : Nat), .int .u64 (limb (pX a) 3 : Nat), .int .u64 (limb (pY a) 0 : Nat), .int .u64 (limb (pY a) 1 : Nat), .int .u64 (limb (pY a) 2 : Nat), .int .u64 (limb (pY a) 3 : Nat), .bool (pI a)], .agg #[.int .u64 (limb (u) 0 : Nat), .int .u64 (limb (u) 1 : Nat), .int .u64 (limb (u) 2 : Nat), .int .u64 (limb (u) 3 : Nat), .int .u64 (limb (v) 0 : Nat), .int .u64 (limb (v) 1 : Nat), .int .u64 (limb (v) 2 : Nat), .int .u64 (limb (v) 3 : Nat), .bool j]] w fun e w' => e = .returned (.tuple #[.agg #[.int .u64 0, .int .u64 0, .int .u64 0, .int .u64 0, .int .u64 0, .int .u64 0, .int .u64 0, .int .u64 0, .bool false], .int .i64 30]) ∧ Below w.heap.size w w') := fun w => add3_bad2 a u v j hU hV hk w
 obtain ⟨p1, ep1⟩ : ∃ uq, uq = gr.neg a := ⟨_, rfl⟩
 have K3 : Hid (∀ w, GlobP w → Calls Tryd.prog 11 #[.agg #[.int .u64 (limb (pX a) 0 : Nat), .int .u64 (limb (pX a) 1 : Nat), .int .u64 (limb (pX a) 2 : Nat), .int .u64 (limb (pX a) 3 : Nat), .int .u64 (limb (pY a) 0 : Nat), .int .u64 (limb (pY a) 1 : Nat), .int .u64 (limb (pY a) 2 : Nat), .int .u64 (limb (pY a) 3 : Nat), .bool (pI a)]] w fun e w' => e = .returned (.tuple #[.agg #[.int .u64 (limb (pX p1) 0 : Nat), .int .u64 (limb (pX p1) 1 : Nat), .int .u64 (limb (pX p1) 2 : Nat), .int .u64 (limb (pX p1) 3 : Nat), .int .u64 (limb (pY p1) 0 : Nat), .int .u64 (limb (pY p1) 1 : Nat), .int .u64 (limb (pY p1) 2 : Nat), .int .u64 (limb (pY p1) 3 : Nat), .bool (pI p1)], .int .i64 0]) ∧ Below w.heap.size w w') := fun w hG => by have k := Neg_A a w hG; rw [show gr.neg a = p1 from ep1.symm] at k; exact k
 have K4 : Hid (∀ w, Calls Tryd.prog 12 #[.agg #[.int .u64 (limb (pX a) 0 : Nat), .int .u64 (limb (pX a) 1 : Nat), .int .u64 (limb (pX a) 2 : Nat), .int .u64 (limb (pX a) 3 : Nat), .int .u64 (limb (pY a) 0 : Nat), .int .u64 (limb (pY a) 1 : Nat), .int .u64 (limb (pY a) 2 : Nat), .int .u64 (limb (pY a) 3 : Nat), .bool (pI a)]] w fun e w' => e = .returned (.bool true) ∧ Below w.heap.size w w') := fun w => by have k := is3_A a w; exact k
 have K5 : Hid (∀ w, GlobP w → Calls Tryd.prog 13 #[.agg #[.int .u64 (limb (pX a) 0 : Nat), .int .u64 (limb (pX a) 1 : Nat), .int .u64 (limb (pX a) 2 : Nat), .int .u64 (limb (pX a) 3 : Nat), .int .u64 (limb (pY a) 0 : Nat), .int .u64 (limb (pY a) 1 : Nat), .int .u64 (limb (pY a) 2 : Nat), .int .u64 (limb (pY a) 3 : Nat), .bool (pI a)]] w fun e w' => e = .returned (.int .i64 0) ∧ Below w.heap.size w w') := fun w h => Check_ok (pX a) (pY a) (pI a) (lt_R (pX_lt a)) (lt_R (pY_lt a)) (pts_ok a) w h
 have K6 : Hid (∀ w, Calls Tryd.prog 14 #[.agg #[.int .u64 (limb (pX a) 0 : Nat), .int .u64 (limb (pX a) 1 : Nat), .int .u64 (limb (pX a) 2 : Nat), .int .u64 (limb (pX a) 3 : Nat), .int .u64 (limb (pY a) 0 : Nat), .int .u64 (limb (pY a) 1 : Nat), .int .u64 (limb (pY a) 2 : Nat), .int .u64 (limb (pY a) 3 : Nat), .bool (pI a)]] w fun e w' => e = .returned (.agg #[.int .u64 (limb (pX p1) 0 : Nat), .int .u64 (limb (pX p1) 1 : Nat), .int .u64 (limb (pX p1) 2 : Nat), .int .u64 (limb (pX p1) 3 : Nat), .int .u64 (limb (pY p1) 0 : Nat), .int .u64 (limb (pY p1) 1 : Nat), .int .u64 (limb (pY p1) 2 : Nat), .int .u64 (limb (pY p1) 3 : Nat), .bool (pI p1)]) ∧ Below w.heap.size w w') := fun w => by have k := neg3_A a w; rw [show gr.neg a = p1 from ep1.symm] at k; exact k
 have K7 : Hid (∀ w, GlobP w → GTH w → GG w → Calls Tryd.prog 15 #[] w fun e w' => e = .returned (.bool true) ∧ Below w.heap.size w w') := fun w h1 h2 h3 => g3_any w h1 h2 h3
 obtain ⟨w0, hw0⟩ : ∃ wq, wq = ((w.alloc (.cells #[.int .u64 (limb (pX a) 0 : Nat), .int .u64 (limb (pX a) 1 : Nat), .int .u64 (limb (pX a) 2 : Nat), .int .u64 (limb (pX a) 3 : Nat), .int .u64 (limb (pY a) 0 : Nat), .int .u64 (limb (pY a) 1 : Nat), .int .u64 (limb (pY a) 2 : Nat), .int .u64 (limb (pY a) 3 : Nat), .bool (pI a)] 26)).alloc (.cells #[.int .u64 (limb (u) 0 : Nat), .int .u64 (limb (u) 1 : Nat), .int .u64 (limb (u) 2 : Nat), .int .u64 (limb (u) 3 : Nat), .int .u64 (limb (v) 0 : Nat), .int .u64 (limb (v) 1 : Nat), .int .u64 (limb (v) 2 : Nat), .int .u64 (limb (v) 3 : Nat), .bool j] 26)) := ⟨_, rfl⟩
 have H0 : Hid (OwnC w0 (w.heap.size) (ptL (pX a) (pY a) (pI a))) ∧ Hid (OwnC w0 (w.heap.size + 1) (ptL u v j)) ∧ Hid (Below w.heap.size w w0) ∧ Hid (GlobP w0) ∧ Hid (GTH w0) ∧ Hid (GG w0) := by
  rw [hw0]
  exact ⟨(OwnC.new' rfl).alloc, (OwnC.new' (by simp only [World.size_alloc])), below_alloc0 (below_alloc0 (Below.refl _ _) _) _, (hG).call (below_alloc0 (below_alloc0 (Below.refl _ _) _) _), (hT).call (below_alloc0 (below_alloc0 (Below.refl _ _) _) _), (hQ).call (below_alloc0 (below_alloc0 (Below.refl _ _) _) _)⟩
 obtain ⟨P0_0, P1_0, W_0, G_0, T_0, Q_0⟩ := H0
 clear ep1 hU hV hk hG hT hQ
 go_enter Tryd.func3, Tryd.ntmps3
 go_upto_region 1 with fail
 rw [← hw0]
 clear hw0
 go_upto_region 1 with fail
 go_cut [5, 6] (fun vq5 vq6 wx => ∃ bk5, vq5 = .pointer (some ⟨bk5, 0, none⟩) ∧ vq6 = .int .i64 30 ∧ w0.heap.size ≤ bk5 ∧ OwnC wx bk5 zpL ∧ Below w0.heap.size w0 wx)
 case first =>
  obtain ⟨fP0z, fP00, fP01, fP02, fP03, fP04, fP05, fP06, fP07, fP08, fP0f⟩ := (P0_0.out).pt
  obtain ⟨fP1z, fP10, fP11, fP12, fP13, fP14, fP15, fP16, fP17, fP18, fP1f⟩ := (P1_0.out).pt
  go_wp2_with fail
  clear fP0z fP00 fP01 fP02 fP03 fP04 fP05 fP06 fP07 fP08 fP0f fP1z fP10 fP11 fP12 fP13 fP14 fP15 fP16 fP17 fP18 fP1f
  refine (K1.out _ (G_0.out)).mono ?_
  rintro e wx0 ⟨rfl, hq0⟩
  go_wp2_with fail
  go_meet
  exact ⟨_, rfl, rfl, hq0.size, OwnC.new' rfl, below_alloc0 hq0 _⟩
 case rest =>
  obtain ⟨bk5, rfl, rfl, hle, hO, hB⟩ := hcut
  have P0_1 : Hid (OwnC wc (w.heap.size) (ptL (pX a) (pY a) (pI a))) := OwnC.call P0_0.out hB
  have P1_1 : Hid (OwnC wc (w.heap.size + 1) (ptL u v j)) := OwnC.call P1_0.out hB
  have W_1 : Hid (Below w.heap.size w wc) := below_call0 W_0.out hB
  have G_1 : Hid (GlobP wc) := G_0.out.call hB
  have T_1 : Hid (GTH wc) := T_0.out.call hB
  have Q_1 : Hid (GG wc) := Q_0.out.call hB
  have V5_1 : Hid (OwnC wc bk5 zpL) := hO
  clear hB P0_0 P1_0 W_0 G_0 T_0 Q_0
  clear hO hle
  generalize wc = w1 at P0_1 P1_1 W_1 G_1 T_1 Q_1 V5_1 ⊢
  go_upto_region 2 with fail
  go_cut [7, 8] (fun vq7 vq8 wx => ∃ bk7, vq7 = .pointer (some ⟨bk7, 0, none⟩) ∧ vq8 = .int .i64 30 ∧ w1.heap.size ≤ bk7 ∧ OwnC wx bk7 zpL ∧ Below w1.heap.size w1 wx)
  case first =>
   obtain ⟨fP0z, fP00, fP01, fP02, fP03, fP04, fP05, fP06, fP07, fP08, fP0f⟩ := (P0_1.out).pt
   obtain ⟨fP1z, fP10, fP11, fP12, fP13, fP14, fP15, fP16, fP17, fP18, fP1f⟩ := (P1_1.out).pt
   go_wp2_with fail
   clear fP0z fP00 fP01 fP02 fP03 fP04 fP05 fP06 fP07 fP08 fP0f fP1z fP10 fP11 fP12 fP13 fP14 fP15 fP16 fP17 fP18 fP1f
   refine (K2.out _).mono ?_
   rintro e wx0 ⟨rfl, hq0⟩
   go_wp2_with fail
   go_meet
   exact ⟨_, rfl, rfl, hq0.size, OwnC.new' rfl, below_alloc0 hq0 _⟩
  case rest =>
   obtain ⟨bk7, rfl, rfl, hle, hO, hB⟩ := hcut
   rename_i um un uo up uq ur us ut uu uv uw ux uy uz uA uB uC uD uE uF uG uH uI uJ uK uL uM uN uO uP uQ uR uS uT uU uV uW uX uY uZ va vb vc vd ve vf vg vh vi vj vk vl vm vn vo vp vq vr vs vt vu vv vw Kq1 hKq1
   clear um un uo up uq ur us ut uu uv uw ux uy uz uA uB uC uD uE uF uG uH uI uJ uK uL uM uN uO uP uQ uR uS uT uU uV uW uX uY uZ va vb vc vd ve vf vg vh vi vj vk vl vm vn vo vp vq vr vs vt vu vv vw
   have P0_2 : Hid (OwnC wc (w.heap.size) (ptL (pX a) (pY a) (pI a))) := OwnC.call P0_1.out hB
   have P1_2 : Hid (OwnC wc (w.heap.size + 1) (ptL u v j)) := OwnC.call P1_1.out hB
   have W_2 : Hid (Below w.heap.size w wc) := below_call0 W_1.out hB
   have G_2 : Hid (GlobP wc) := G_1.out.call hB
   have T_2 : Hid (GTH wc) := T_1.out.call hB
   have Q_2 : Hid (GG wc) := Q_1.out.call hB
   have V5_2 : Hid (OwnC wc bk5 zpL) := OwnC.call V5_1.out hB
   have V7_2 : Hid (OwnC wc bk7 zpL) := hO
   clear hB P0_1 P1_1 W_1 G_1 T_1 Q_1 V5_1
   clear hO hle
   generalize wc = w2 at P0_2 P1_2 W_2 G_2 T_2 Q_2 V5_2 V7_2 ⊢
   go_upto_region 3 with fail
   go_cut [9, 10] (fun vq9 vq10 wx => ∃ bk9, vq9 = .pointer (some ⟨bk9, 0, none⟩) ∧ vq10 = .int .i64 0 ∧ w2.heap.size ≤ bk9 ∧ OwnC wx bk9 (ptL (pX p1) (pY p1) (pI p1)) ∧ Below w2.heap.size w2 wx)
   case first =>
    obtain ⟨fP0z, fP00, fP01, fP02, fP03, fP04, fP05, fP06, fP07, fP08, fP0f⟩ := (P0_2.out).pt
    go_wp2_with fail
    clear fP0z fP00 fP01 fP02 fP03 fP04 fP05 fP06 fP07 fP08 fP0f
    refine (K3.out _ (G_2.out)).mono ?_
    rintro e wx0 ⟨rfl, hq0⟩
    go_wp2_with fail
    go_meet
    exact ⟨_, rfl, rfl, hq0.size, OwnC.new' rfl, below_alloc0 hq0 _⟩
   case rest =>
    obtain ⟨bk9, rfl, rfl, hle, hO, hB⟩ := hcut
    rename_i um un uo up uq ur us ut uu uv uw ux uy uz uA uB uC uD uE uF uG uH uI uJ uK uL uM uN uO uP uQ uR uS uT uU uV uW uX uY uZ va vb vc vd ve vf vg vh vi vj vk vl vm vn vo vp vq vr vs vt vu vv vw Kq2 hKq2
    clear um un uo up uq ur us ut uu uv uw ux uy uz uA uB uC uD uE uF uG uH uI uJ uK uL uM uN uO uP uQ uR uS uT uU uV uW uX uY uZ va vb vc vd ve vf vg vh vi vj vk vl vm vn vo vp vq vr vs vt vu vv vw
    have P0_3 : Hid (OwnC wc (w.heap.size) (ptL (pX a) (pY a) (pI a))) := OwnC.call P0_2.out hB
    have P1_3 : Hid (OwnC wc (w.heap.size + 1) (ptL u v j)) := OwnC.call P1_2.out hB
    have W_3 : Hid (Below w.heap.size w wc) := below_call0 W_2.out hB
    have G_3 : Hid (GlobP wc) := G_2.out.call hB
    have T_3 : Hid (GTH wc) := T_2.out.call hB
    have Q_3 : Hid (GG wc) := Q_2.out.call hB
    have V5_3 : Hid (OwnC wc bk5 zpL) := OwnC.call V5_2.out hB
    have V7_3 : Hid (OwnC wc bk7 zpL) := OwnC.call V7_2.out hB
    have V9_3 : Hid (OwnC wc bk9 (ptL (pX p1) (pY p1) (pI p1))) := hO
    clear hB P0_2 P1_2 W_2 G_2 T_2 Q_2 V5_2 V7_2
    clear hO hle
    generalize wc = w3 at P0_3 P1_3 W_3 G_3 T_3 Q_3 V5_3 V7_3 V9_3 ⊢
    obtain ⟨fP0z, fP00, fP01, fP02, fP03, fP04, fP05, fP06, fP07, fP08, fP0f⟩ := (P0_3.out).pt
    go_wp2_with fail
    clear fP0z fP00 fP01 fP02 fP03 fP04 fP05 fP06 fP07 fP08 fP0f
    refine (K4.out _).mono ?_
    rintro e w4 ⟨rfl, hq⟩
    have P0_4 : Hid (OwnC w4 (w.heap.size) (ptL (pX a) (pY a) (pI a))) := OwnC.call P0_3.out hq
    have P1_4 : Hid (OwnC w4 (w.heap.size + 1) (ptL u v j)) := OwnC.call P1_3.out hq
    have W_4 : Hid (Below w.heap.size w w4) := below_call0 W_3.out hq
    have G_4 : Hid (GlobP w4) := G_3.out.call hq
    have T_4 : Hid (GTH w4) := T_3.out.call hq
    have Q_4 : Hid (GG w4) := Q_3.out.call hq
    have V5_4 : Hid (OwnC w4 bk5 zpL) := OwnC.call V5_3.out hq
    have V7_4 : Hid (OwnC w4 bk7 zpL) := OwnC.call V7_3.out hq
    have V9_4 : Hid (OwnC w4 bk9 (ptL (pX p1) (pY p1) (pI p1))) := OwnC.call V9_3.out hq
    clear hq P0_3 P1_3 W_3 G_3 T_3 Q_3 V5_3 V7_3 V9_3
    go_upto_region 5 with fail
    obtain ⟨fP0z, fP00, fP01, fP02, fP03, fP04, fP05, fP06, fP07, fP08, fP0f⟩ := (P0_4.out).pt
    obtain ⟨fV5z, fV50, fV51, fV52, fV53, fV54, fV55, fV56, fV57, fV58, fV5f⟩ := (V5_4.out).zp
    obtain ⟨fV7z, fV70, fV71, fV72, fV73, fV74, fV75, fV76, fV77, fV78, fV7f⟩ := (V7_4.out).zp
    go_wp2_with fail
    clear fP0z fP00 fP01 fP02 fP03 fP04 fP05 fP06 fP07 fP08 fP0f fV5z fV50 fV51 fV52 fV53 fV54 fV55 fV56 fV57 fV58 fV5f fV7z fV70 fV71 fV72 fV73 fV74 fV75 fV76 fV77 fV78 fV7f
    refine (K5.out _ (G_4.out)).mono ?_
    rintro e w5 ⟨rfl, hq⟩
    have P0_5 : Hid (OwnC w5 (w.heap.size) (ptL (pX a) (pY a) (pI a))) := OwnC.call P0_4.out hq
    have P1_5 : Hid (OwnC w5 (w.heap.size + 1) (ptL u v j)) := OwnC.call P1_4.out hq
    have W_5 : Hid (Below w.heap.size w w5) := below_call0 W_4.out hq
    have G_5 : Hid (GlobP w5) := G_4.out.call hq
    have T_5 : Hid (GTH w5) := T_4.out.call hq
    have Q_5 : Hid (GG w5) := Q_4.out.call hq
    have V5_5 : Hid (OwnC w5 bk5 zpL) := OwnC.call V5_4.out hq
    have V7_5 : Hid (OwnC w5 bk7 zpL) := OwnC.call V7_4.out hq
    have V9_5 : Hid (OwnC w5 bk9 (ptL (pX p1) (pY p1) (pI p1))) := OwnC.call V9_4.out hq
    clear hq P0_4 P1_4 W_4 G_4 T_4 Q_4 V5_4 V7_4 V9_4
    go_upto_region 7 with fail
    go_upto_region 7 with fail
    refine wp_region_J 23 0 [?v0r7, ?v1r7, ?v2r7, ?v3r7, ?v4r7, ?v5r7, ?v6r7, ?v7r7, ?v8r7, ?v9r7, ?v10r7, ?v11r7, ?v12r7, ?v13r7, ?v14r7, ?v15r7, ?v16r7, ?v17r7, ?v18r7, ?v19r7, ?v20r7, ?v21r7, ?v22r7] [some 52, some 53, some 54, some 55, some 56, some 57, some 58, some 59, some 60, some 61, some 62, some 63, some 64, some 65, some 66, some 67, some 68, some 69, some 70, some 71, some 72, some 73, some 74] ?Ar7 (by kernel_rfl) (by kernel_rfl) (by kernel_rfl) rfl ?hAr7 ?hopr7 ?hfinr7
    case hAr7 =>
     simp only [List.set_cons_zero, List.set_cons_succ, List.zip_cons_cons, List.zip_nil_right, fillD, Act.put, List.setIfInBounds_toArray]
     exact rfl
    case hopr7 =>
     refine ⟨?_, ?_, ?_, ?_, ?_, ?_, ?_, ?_, ?_, ?_, ?_, ?_, ?_, ?_, ?_, ?_, ?_, ?_, ?_, ?_, ?_, ?_, ?_, trivial⟩
     iterate 2 focus (intro _ bq wx hS; refine OpTo.yields rfl ?_; clear hS; go_simp; try with_reducible rfl)
     focus (intro _ bq wx hS; refine OpTo.yields rfl ?_; obtain ⟨_, _, _, _, _, _, _, _, _, _, _⟩ := (OwnC.call V9_5.out hS).pt; clear hS; go_simp; try with_reducible rfl)
     focus (intro _ bq wx hS; refine OpTo.yields rfl ?_; obtain ⟨_, _, _, _, _, _, _, _, _, _, _⟩ := (OwnC.call P0_5.out hS).pt; clear hS; go_simp; try with_reducible rfl)
     focus (intro _ bq wx hS; refine OpTo.calls rfl ?_ ?_; rotate_left; intro K hK; go_simp; refine (K6.out _).mono ?_; rintro e w' ⟨rfl, hq⟩; exact hK w' hq; exact rfl)
     iterate 3 focus (intro _ bq wx hS; refine OpTo.yields rfl ?_; clear hS; go_simp; try with_reducible rfl)
     iterate 11 focus (intro _ bq wx hS; refine OpTo.no ?_; exact rfl)
     iterate 2 focus (intro _ bq wx hS; refine OpTo.yields rfl ?_; clear hS; go_simp; try with_reducible rfl)
     focus (intro _ bq wx hS; refine OpTo.calls rfl ?_ ?_; rotate_left; intro K hK; go_simp; refine (K7.out _ (G_5.out.call hS) (T_5.out.call hS) (Q_5.out.call hS)).mono ?_; rintro e w' ⟨rfl, hq⟩; exact hK w' hq; exact rfl)
     focus (intro _ bq wx hS; refine OpTo.yields rfl ?_; clear hS; go_simp; try with_reducible rfl)
    case hfinr7 =>
     intro wx hS
     refine tail_at (o := ?ofr7_23) ?hir7_23 ?hwr7_23 ?_
     case hir7_23 => rw [List.getElem?_toArray]; exact rfl
     case hwr7_23 => exact rfl
     go_simp
     refine tail_end ?_
     go_wp2_with fail
     go_ret
     exact ⟨rfl, below_call0 W_5.out hS⟩
set_option maxRecDepth 100000 in
set_option maxHeartbeats 4000000 in
theorem sums_bad1 (x y u v : Nat) (i j : Bool) (hX : x < R256) (hY : y < R256) (hk : ptOk x y i = false) (w : World) (hG : GlobP w) (hT : GTH w) (hQ : GG w) : Calls Tryd.prog 3 #[.agg #[.int .u64 (limb (x) 0 : Nat), .int .u64 (limb (x) 1 : Nat), .int .u64 (limb (x) 2 : Nat), .int .u64 (limb (x) 3 : Nat), .int .u64 (limb (y) 0 : Nat), .int .u64 (limb (y) 1 : Nat), .int .u64 (limb (y) 2 : Nat), .int .u64 (limb (y) 3 : Nat), .bool i], .agg #[.int .u64 (limb (u) 0 : Nat), .int .u64 (limb (u) 1 : Nat), .int .u64 (limb (u) 2 : Nat), .int .u64 (limb (u) 3 : Nat), .int .u64 (limb (v) 0 : Nat), .int .u64 (limb (v) 1 : Nat), .int .u64 (limb (v) 2 : Nat), .int .u64 (limb (v) 3 : Nat), .bool j]] w fun e w' => e = .returned (.bool true) ∧ Below w.heap.size w w' := by
 have K1 : Hid (∀ w, GlobP w → Calls Tryd.prog 9 #[.agg #[.int .u64 (limb (x) 0 : Nat), .int .u64 (limb (x) 1 : Nat), .int .u64 (limb (x) 2 : Nat), .int .u64 (limb (x) 3 : Nat), .int .u64 (limb (y) 0 : Nat), .int .u64 (limb (y) 1 : Nat), .int .u64 (limb (y) 2 : Nat), .int .u64 (limb (y) 3 : Nat), .bool i], .agg #[.int .u64 (limb (u) 0 : Nat), .int .u64 (limb (u) 1 : Nat), .int .u64 (limb (u) 2 : Nat), .int .u64 (limb (u) 3 : Nat), .int .u64 (limb (v) 0 : Nat), .int .u64 (limb (v) 1 : Nat), .int .u64 (limb (v) 2 : Nat), .int .u64 (limb (v) 3 : Nat), .bool j]] w fun e w' => e = .returned (.tuple #[.agg #[.int .u64 0, .int .u64 0, .int .u64 0, .int .u64 0, .int .u64 0, .int .u64 0, .int .u64 0, .int .u64 0, .bool false], .int .i64 30]) ∧ Below w.heap.size w w') := fun w h => Add_bad1 x y u v i j hX hY hk w h
 have K2 : Hid (∀ w, Calls Tryd.prog 10 #[.agg #[.int .u64 (limb (x) 0 : Nat), .int .u64 (limb (x) 1 : Nat), .int .u64 (limb (x) 2 : Nat), .int .u64 (limb (x) 3 : Nat), .int .u64 (limb (y) 0 : Nat), .int .u64 (limb (y) 1 : Nat), .int .u64 (limb (y) 2 : Nat), .int .u64 (limb (y) 3 : Nat), .bool i], .agg #[.int .u64 (limb (u) 0 : Nat), .int .u64 (limb (u) 1 : Nat), .int .u64 (limb (u) 2 : Nat), .int .u64 (limb (u) 3 : Nat), .int .u64 (limb (v) 0 : Nat), .int .u64 (limb (v) 1 : Nat), .int .u64 (limb (v) 2 : Nat), .int .u64 (limb (v) 3 : Nat), .bool j]] w fun e w' => e = .returned (.tuple #[.agg #[.int .u64 0, .int .u64 0, .int .u64 0, .int .u64 0, .int .u64 0, .int .u64 0, .int .u64 0, .int .u64 0, .bool false], .int .i64 30]) ∧ Below w.heap.size w w') := fun w => add3_bad1 x y u v i j hX hY hk w
 have K3 : Hid (∀ w, GlobP w → Calls Tryd.prog 11 #[.agg #[.int .u64 (limb (x) 0 : Nat), .int .u64 (limb (x) 1 : Nat), .int .u64 (limb (x) 2 : Nat), .int .u64 (limb (x) 3 : Nat), .int .u64 (limb (y) 0 : Nat), .int .u64 (limb (y) 1 : Nat), .int .u64 (limb (y) 2 : Nat), .int .u64 (limb (y) 3 : Nat), .bool i]] w fun e w' => e = .returned (.tuple #[.agg #[.int .u64 0, .int .u64 0, .int .u64 0, .int .u64 0, .int .u64 0, .int .u64 0, .int .u64 0, .int .u64 0, .bool false], .int .i64 30]) ∧ Below w.heap.size w w') := fun w h => Neg_bad x y i hX hY hk w h
 have K4 : Hid (∀ w, Calls Tryd.prog 12 #[.agg #[.int .u64 (limb (x) 0 : Nat), .int .u64 (limb (x) 1 : Nat), .int .u64 (limb (x) 2 : Nat), .int .u64 (limb (x) 3 : Nat), .int .u64 (limb (y) 0 : Nat), .int .u64 (limb (y) 1 : Nat), .int .u64 (limb (y) 2 : Nat), .int .u64 (limb (y) 3 : Nat), .bool i]] w fun e w' => e = .returned (.bool false) ∧ Below w.heap.size w w') := fun w => by have k := is3_any x y i hX hY w; rw [hk] at k; exact k
 have K5 : Hid (∀ w, GlobP w → Calls Tryd.prog 13 #[.agg #[.int .u64 (limb (x) 0 : Nat), .int .u64 (limb (x) 1 : Nat), .int .u64 (limb (x) 2 : Nat), .int .u64 (limb (x) 3 : Nat), .int .u64 (limb (y) 0 : Nat), .int .u64 (limb (y) 1 : Nat), .int .u64 (limb (y) 2 : Nat), .int .u64 (limb (y) 3 : Nat), .bool i]] w fun e w' => e = .returned (.int .i64 30) ∧ Below w.heap.size w w') := fun w h => Check_bad x y i hX hY hk w h
 have K6 : Hid (∀ w, GlobP w → GTH w → GG w → Calls Tryd.prog 15 #[] w fun e w' => e = .returned (.bool true) ∧ Below w.heap.size w w') := fun w h1 h2 h3 => g3_any w h1 h2 h3
 obtain ⟨w0, hw0⟩ : ∃ wq, wq = ((w.alloc (.cells #[.int .u64 (limb (x) 0 : Nat), .int .u64 (limb (x) 1 : Nat), .int .u64 (limb (x) 2 : Nat), .int .u64 (limb (x) 3 : Nat), .int .u64 (limb (y) 0 : Nat), .int .u64 (limb (y) 1 : Nat), .int .u64 (limb (y) 2 : Nat), .int .u64 (limb (y) 3 : Nat), .bool i] 26)).alloc (.cells #[.int .u64 (limb (u) 0 : Nat), .int .u64 (limb (u) 1 : Nat), .int .u64 (limb (u) 2 : Nat), .int .u64 (limb (u) 3 : Nat), .int .u64 (limb (v) 0 : Nat), .int .u64 (limb (v) 1 : Nat), .int .u64 (limb (v) 2 : Nat), .int .u64 (limb (v) 3 : Nat), .bool j] 26)) := ⟨_, rfl⟩
 have H0 : Hid (OwnC w0 (w.heap.size) (ptL x y i)) ∧ Hid (OwnC w0 (w.heap.size + 1) (ptL u v j)) ∧ Hid (Below w.heap.size w w0) ∧ Hid (GlobP w0) ∧ Hid (GTH w0) ∧ Hid (GG w0) := by
  rw [hw0]
  exact ⟨(OwnC.new' rfl).alloc, (OwnC.new' (by simp only [World.size_alloc])), below_alloc0 (below_alloc0 (Below.refl _ _) _) _, (hG).call (below_alloc0 (below_alloc0 (Below.refl _ _) _) _), (hT).call (below_alloc0 (below_alloc0 (Below.refl _ _) _) _), (hQ).call (below_alloc0 (below_alloc0 (Below.refl _ _) _) _)⟩
 obtain ⟨P0_0, P1_0, W_0, G_0, T_0, Q_0⟩ := H0
 clear hX hY hk hG hT hQ
 go_enter Tryd.func3, Tryd.ntmps3
 go_upto_region 1 with fail
 rw [← hw0]
 clear hw0
 go_upto_region 1 with fail
 go_cut [5, 6] (fun vq5 vq6 wx => ∃ bk5, vq5 = .pointer (some ⟨bk5, 0, none⟩) ∧ vq6 = .int .i64 30 ∧ w0.heap.size ≤ bk5 ∧ OwnC wx bk5 zpL ∧ Below w0.heap.size w0 wx)
 case first =>
  obtain ⟨fP0z, fP00, fP01, fP02, fP03, fP04, fP05, fP06, fP07, fP08, fP0f⟩ := (P0_0.out).pt
  obtain ⟨fP1z, fP10, fP11, fP12, fP13, fP14, fP15, fP16, fP17, fP18, fP1f⟩ := (P1_0.out).pt
  go_wp2_with fail
  clear fP0z fP00 fP01 fP02 fP03 fP04 fP05 fP06 fP07 fP08 fP0f fP1z fP10 fP11 fP12 fP13 fP14 fP15 fP16 fP17 fP18 fP1f
  refine (K1.out _ (G_0.out)).mono ?_
  rintro e wx0 ⟨rfl, hq0⟩
  go_wp2_with fail
  go_meet
  exact ⟨_, rfl, rfl, hq0.size, OwnC.new' rfl, below_alloc0 hq0 _⟩
 case rest =>
  obtain ⟨bk5, rfl, rfl, hle, hO, hB⟩ := hcut
  have P0_1 : Hid (OwnC wc (w.heap.size) (ptL x y i)) := OwnC.call P0_0.out hB
  have P1_1 : Hid (OwnC wc (w.heap.size + 1) (ptL u v j)) := OwnC.call P1_0.out hB
  have W_1 : Hid (Below w.heap.size w wc) := below_call0 W_0.out hB
  have G_1 : Hid (GlobP wc) := G_0.out.call hB
  have T_1 : Hid (GTH wc) := T_0.out.call hB
  have Q_1 : Hid (GG wc) := Q_0.out.call hB
  have V5_1 : Hid (OwnC wc bk5 zpL) := hO
  clear hB P0_0 P1_0 W_0 G_0 T_0 Q_0
  clear hO hle
  generalize wc = w1 at P0_1 P1_1 W_1 G_1 T_1 Q_1 V5_1 ⊢
  go_upto_region 2 with fail
  go_cut [7, 8] (fun vq7 vq8 wx => ∃ bk7, vq7 = .pointer (some ⟨bk7, 0, none⟩) ∧ vq8 = .int .i64 30 ∧ w1.heap.size ≤ bk7 ∧ OwnC wx bk7 zpL ∧ Below w1.heap.size w1 wx)
  case first =>
   obtain ⟨fP0z, fP00, fP01, fP02, fP03, fP04, fP05, fP06, fP07, fP08, fP0f⟩ := (P0_1.out).pt
   obtain ⟨fP1z, fP10, fP11, fP12, fP13, fP14, fP15, fP16, fP17, fP18, fP1f⟩ := (P1_1.out).pt
   go_wp2_with fail
   clear fP0z fP00 fP01 fP02 fP03 fP04 fP05 fP06 fP07 fP08 fP0f fP1z fP10 fP11 fP12 fP13 fP14 fP15 fP16 fP17 fP18 fP1f
   refine (K2.out _).mono ?_
   rintro e wx0 ⟨rfl, hq0⟩
   go_wp2_with fail
   go_meet
   exact ⟨_, rfl, rfl, hq0.size, OwnC.new' rfl, below_alloc0 hq0 _⟩
  case rest =>
   obtain ⟨bk7, rfl, rfl, hle, hO, hB⟩ := hcut
   rename_i um un uo up uq ur us ut uu uv uw ux uy uz uA uB uC uD uE uF uG uH uI uJ uK uL uM uN uO uP uQ uR uS uT uU uV uW uX uY uZ va vb vc vd ve vf vg vh vi vj vk vl vm vn vo vp vq vr vs vt vu vv vw Kq1 hKq1
   clear um un uo up uq ur us ut uu uv uw ux uy uz uA uB uC uD uE uF uG uH uI uJ uK uL uM uN uO uP uQ uR uS uT uU uV uW uX uY uZ va vb vc vd ve vf vg vh vi vj vk vl vm vn vo vp vq vr vs vt vu vv vw
   have P0_2 : Hid (OwnC wc (w.heap.size) (ptL x y i)) := OwnC.call P0_1.out hB
   have P1_2 : Hid (OwnC wc (w.heap.size + 1) (ptL u v j)) := OwnC.call P1_1.out hB
   have W_2 : Hid (Below w.heap.size w wc) := below_call0 W_1.out hB
   have G_2 : Hid (GlobP wc) := G_1.out.call hB
   have T_2 : Hid (GTH wc) := T_1.out.call hB
   have Q_2 : Hid (GG wc) := Q_1.out.call hB
   have V5_2 : Hid (OwnC wc bk5 zpL) := OwnC.call V5_1.out hB
   have V7_2 : Hid (OwnC wc bk7 zpL) := hO
   clear hB P0_1 P1_1 W_1 G_1 T_1 Q_1 V5_1
   clear hO hle
   generalize wc = w2 at P0_2 P1_2 W_2 G_2 T_2 Q_2 V5_2 V7_2 ⊢
   go_upto_region 3 with fail
   go_cut [9, 10] (fun vq9 vq10 wx => ∃ bk9, vq9 = .pointer (some ⟨bk9, 0, none⟩) ∧ vq10 = .int .i64 30 ∧ w2.heap.size ≤ bk9 ∧ OwnC wx bk9 zpL ∧ Below w2.heap.size w2 wx)
   case first =>
    obtain ⟨fP0z, fP00, fP01, fP02, fP03, fP04, fP05, fP06, fP07, fP08, fP0f⟩ := (P0_2.out).pt
    go_wp2_with fail
    clear fP0z fP00 fP01 fP02 fP03 fP04 fP05 fP06 fP07 fP08 fP0f
    refine (K3.out _ (G_2.out)).mono ?_
    rintro e wx0 ⟨rfl, hq0⟩
    go_wp2_with fail
    go_meet
    exact ⟨_, rfl, rfl, hq0.size, OwnC.new' rfl, below_alloc0 hq0 _⟩
   case rest =>
    obtain ⟨bk9, rfl, rfl, hle, hO, hB⟩ := hcut
    rename_i um un uo up uq ur us ut uu uv uw ux uy uz uA uB uC uD uE uF uG uH uI uJ uK uL uM uN uO uP uQ uR uS uT uU uV uW uX uY uZ va vb vc vd ve vf vg vh vi vj vk vl vm vn vo vp vq vr vs vt vu vv vw Kq2 hKq2
    clear um un uo up uq ur us ut uu uv uw ux uy uz uA uB uC uD uE uF uG uH uI uJ uK uL uM uN uO uP uQ uR uS uT uU uV uW uX uY uZ va vb vc vd ve vf vg vh vi vj vk vl vm vn vo vp vq vr vs vt vu vv vw
    have P0_3 : Hid (OwnC wc (w.heap.size) (ptL x y i)) := OwnC.call P0_2.out hB
    have P1_3 : Hid (OwnC wc (w.heap.size + 1) (ptL u v j)) := OwnC.call P1_2.out hB
    have W_3 : Hid (Below w.heap.size w wc) := below_call0 W_2.out hB
    have G_3 : Hid (GlobP wc) := G_2.out.call hB
    have T_3 : Hid (GTH wc) := T_2.out.call hB
    have Q_3 : Hid (GG wc) := Q_2.out.call hB
    have V5_3 : Hid (OwnC wc bk5 zpL) := OwnC.call V5_2.out hB
    have V7_3 : Hid (OwnC wc bk7 zpL) := OwnC.call V7_2.out hB
    have V9_3 : Hid (OwnC wc bk9 zpL) := hO
    clear hB P0_2 P1_2 W_2 G_2 T_2 Q_2 V5_2 V7_2
    clear hO hle
    generalize wc = w3 at P0_3 P1_3 W_3 G_3 T_3 Q_3 V5_3 V7_3 V9_3 ⊢
    obtain ⟨fP0z, fP00, fP01, fP02, fP03, fP04, fP05, fP06, fP07, fP08, fP0f⟩ := (P0_3.out).pt
    go_wp2_with fail
    clear fP0z fP00 fP01 fP02 fP03 fP04 fP05 fP06 fP07 fP08 fP0f
    refine (K4.out _).mono ?_
    rintro e w4 ⟨rfl, hq⟩
    have P0_4 : Hid (OwnC w4 (w.heap.size) (ptL x y i)) := OwnC.call P0_3.out hq
    have P1_4 : Hid (OwnC w4 (w.heap.size + 1) (ptL u v j)) := OwnC.call P1_3.out hq
    have W_4 : Hid (Below w.heap.size w w4) := below_call0 W_3.out hq
    have G_4 : Hid (GlobP w4) := G_3.out.call hq
    have T_4 : Hid (GTH w4) := T_3.out.call hq
    have Q_4 : Hid (GG w4) := Q_3.out.call hq
    have V5_4 : Hid (OwnC w4 bk5 zpL) := OwnC.call V5_3.out hq
    have V7_4 : Hid (OwnC w4 bk7 zpL) := OwnC.call V7_3.out hq
    have V9_4 : Hid (OwnC w4 bk9 zpL) := OwnC.call V9_3.out hq
    clear hq P0_3 P1_3 W_3 G_3 T_3 Q_3 V5_3 V7_3 V9_3
    go_upto_region 5 with fail
    obtain ⟨fP0z, fP00, fP01, fP02, fP03, fP04, fP05, fP06, fP07, fP08, fP0f⟩ := (P0_4.out).pt
    obtain ⟨fV5z, fV50, fV51, fV52, fV53, fV54, fV55, fV56, fV57, fV58, fV5f⟩ := (V5_4.out).zp
    obtain ⟨fV7z, fV70, fV71, fV72, fV73, fV74, fV75, fV76, fV77, fV78, fV7f⟩ := (V7_4.out).zp
    go_wp2_with fail
    clear fP0z fP00 fP01 fP02 fP03 fP04 fP05 fP06 fP07 fP08 fP0f fV5z fV50 fV51 fV52 fV53 fV54 fV55 fV56 fV57 fV58 fV5f fV7z fV70 fV71 fV72 fV73 fV74 fV75 fV76 fV77 fV78 fV7f
    refine (K5.out _ (G_4.out)).mono ?_
    rintro e w5 ⟨rfl, hq⟩
    have P0_5 : Hid (OwnC w5 (w.heap.size) (ptL x y i)) := OwnC.call P0_4.out hq
    have P1_5 : Hid (OwnC w5 (w.heap.size + 1) (ptL u v j)) := OwnC.call P1_4.out hq
    have W_5 : Hid (Below w.heap.size w w5) := below_call0 W_4.out hq
    have G_5 : Hid (GlobP w5) := G_4.out.call hq
    have T_5 : Hid (GTH w5) := T_4.out.call hq
    have Q_5 : Hid (GG w5) := Q_4.out.call hq
    have V5_5 : Hid (OwnC w5 bk5 zpL) := OwnC.call V5_4.out hq
    have V7_5 : Hid (OwnC w5 bk7 zpL) := OwnC.call V7_4.out hq
    have V9_5 : Hid (OwnC w5 bk9 zpL) := OwnC.call V9_4.out hq
    clear hq P0_4 P1_4 W_4 G_4 T_4 Q_4 V5_4 V7_4 V9_4
    go_upto_region 7 with fail
    go_upto_region 7 with fail
    refine wp_region_J 23 0 [?v0r7, ?v1r7, ?v2r7, ?v3r7, ?v4r7, ?v5r7, ?v6r7, ?v7r7, ?v8r7, ?v9r7, ?v10r7, ?v11r7, ?v12r7, ?v13r7, ?v14r7, ?v15r7, ?v16r7, ?v17r7, ?v18r7, ?v19r7, ?v20r7, ?v21r7, ?v22r7] [some 52, some 53, some 54, some 55, some 56, some 57, some 58, some 59, some 60, some 61, some 62, some 63, some 64, some 65, some 66, some 67, some 68, some 69, some 70, some 71, some 72, some 73, some 74] ?Ar7 (by kernel_rfl) (by kernel_rfl) (by kernel_rfl) rfl ?hAr7 ?hopr7 ?hfinr7
    case hAr7 =>
     simp only [List.set_cons_zero, List.set_cons_succ, List.zip_cons_cons, List.zip_nil_right, fillD, Act.put, List.setIfInBounds_toArray]
     exact rfl
    case hopr7 =>
     refine ⟨?_, ?_, ?_, ?_, ?_, ?_, ?_, ?_, ?_, ?_, ?_, ?_, ?_, ?_, ?_, ?_, ?_, ?_, ?_, ?_, ?_, ?_, ?_, trivial⟩
     iterate 2 focus (intro _ bq wx hS; refine OpTo.yields rfl ?_; clear hS; go_simp; try with_reducible rfl)
     iterate 4 focus (intro _ bq wx hS; refine OpTo.no ?_; exact rfl)
     iterate 5 focus (intro _ bq wx hS; refine OpTo.yields rfl ?_; clear hS; go_simp; try with_reducible rfl)
     focus (intro _ bq wx hS; refine OpTo.yields rfl ?_; obtain ⟨_, _, _, _, _, _, _, _, _, _, _⟩ := (OwnC.call V9_5.out hS).zp; clear hS; go_simp; try with_reducible rfl)
     iterate 9 focus (intro _ bq wx hS; refine OpTo.yields rfl ?_; clear hS; go_simp; try with_reducible rfl)
     focus (intro _ bq wx hS; refine OpTo.calls rfl ?_ ?_; rotate_left; intro K hK; go_simp; refine (K6.out _ (G_5.out.call hS) (T_5.out.call hS) (Q_5.out.call hS)).mono ?_; rintro e w' ⟨rfl, hq⟩; exact hK w' hq; exact rfl)
     focus (intro _ bq wx hS; refine OpTo.yields rfl ?_; clear hS; go_simp; try with_reducible rfl)
    case hfinr7 =>
     intro wx hS
     refine tail_at (o := ?ofr7_23) ?hir7_23 ?hwr7_23 ?_
     case hir7_23 => rw [List.getElem?_toArray]; exact rfl
     case hwr7_23 => exact rfl
     go_simp
     refine tail_end ?_
     go_wp2_with fail
     go_ret
     exact ⟨rfl, below_call0 W_5.out hS⟩
theorem sums_any (x y u v : Nat) (i j : Bool) (hX : x < R256) (hY : y < R256) (hU : u < R256) (hV : v < R256) (w : World) (hG : GlobP w) (hT : GTH w) (hQ : GG w) : Calls Tryd.prog 3 #[.agg #[.int .u64 (limb (x) 0 : Nat), .int .u64 (limb (x) 1 : Nat), .int .u64 (limb (x) 2 : Nat), .int .u64 (limb (x) 3 : Nat), .int .u64 (limb (y) 0 : Nat), .int .u64 (limb (y) 1 : Nat), .int .u64 (limb (y) 2 : Nat), .int .u64 (limb (y) 3 : Nat), .bool (i)], .agg #[.int .u64 (limb (u) 0 : Nat), .int .u64 (limb (u) 1 : Nat), .int .u64 (limb (u) 2 : Nat), .int .u64 (limb (u) 3 : Nat), .int .u64 (limb (v) 0 : Nat), .int .u64 (limb (v) 1 : Nat), .int .u64 (limb (v) 2 : Nat), .int .u64 (limb (v) 3 : Nat), .bool (j)]] w fun e w' => e = .returned (.bool true) ∧ Below w.heap.size w w' := by
 cases h1 : ptOk x y i with
 | false => exact sums_bad1 x y u v i j hX hY h1 w hG hT hQ
 | true =>
  obtain ⟨a, rfl, rfl, rfl⟩ := pts_of h1
  cases h2 : ptOk u v j with
  | false => exact sums_bad2 a u v j hU hV h2 w hG hT hQ
  | true =>
   obtain ⟨b, rfl, rfl, rfl⟩ := pts_of h2
   exact sums_ok a b w hG hT hQ
end Go.Proofs.YtgmfecncfekjfaaDoor
