/- Curve: each number times each point: the law's walk. -/
import Derived.Test.YtgmfecncfekjfaaDoorLw3A
import Derived.Test.YtgmfecncfekjfaaDoorRf3U
import Derived.Test.YtgmfecncfekjfaaDoorCvSu
namespace Go.Proofs.YtgmfecncfekjfaaDoor
open Go Go.RowKit Go.Lib
attribute [local go_sem] run_eqP run_eq49 eq4_same beqB_same

set_option maxRecDepth 100000 in
set_option maxHeartbeats 4000000 in
theorem times_go (k x y X Y : Nat) (i I : Bool) (E : Int)
    (k1 : ∀ w, GlobP w → GlobQ w → GTH w → Calls Tryd.prog 16 #[.agg #[.int .u64 (limb (k) 0 : Nat), .int .u64 (limb (k) 1 : Nat), .int .u64 (limb (k) 2 : Nat), .int .u64 (limb (k) 3 : Nat)], .agg #[.int .u64 (limb (x) 0 : Nat), .int .u64 (limb (x) 1 : Nat), .int .u64 (limb (x) 2 : Nat), .int .u64 (limb (x) 3 : Nat), .int .u64 (limb (y) 0 : Nat), .int .u64 (limb (y) 1 : Nat), .int .u64 (limb (y) 2 : Nat), .int .u64 (limb (y) 3 : Nat), .bool i]] w fun e w' => e = .returned (.tuple #[.agg #[.int .u64 (limb (X) 0 : Nat), .int .u64 (limb (X) 1 : Nat), .int .u64 (limb (X) 2 : Nat), .int .u64 (limb (X) 3 : Nat), .int .u64 (limb (Y) 0 : Nat), .int .u64 (limb (Y) 1 : Nat), .int .u64 (limb (Y) 2 : Nat), .int .u64 (limb (Y) 3 : Nat), .bool I], .int .i64 E]) ∧ Below w.heap.size w w')
    (k2 : ∀ w, Calls Tryd.prog 17 #[.agg #[.int .u64 (limb (k) 0 : Nat), .int .u64 (limb (k) 1 : Nat), .int .u64 (limb (k) 2 : Nat), .int .u64 (limb (k) 3 : Nat)], .agg #[.int .u64 (limb (x) 0 : Nat), .int .u64 (limb (x) 1 : Nat), .int .u64 (limb (x) 2 : Nat), .int .u64 (limb (x) 3 : Nat), .int .u64 (limb (y) 0 : Nat), .int .u64 (limb (y) 1 : Nat), .int .u64 (limb (y) 2 : Nat), .int .u64 (limb (y) 3 : Nat), .bool i]] w fun e w' => e = .returned (.tuple #[.agg #[.int .u64 (limb (X) 0 : Nat), .int .u64 (limb (X) 1 : Nat), .int .u64 (limb (X) 2 : Nat), .int .u64 (limb (X) 3 : Nat), .int .u64 (limb (Y) 0 : Nat), .int .u64 (limb (Y) 1 : Nat), .int .u64 (limb (Y) 2 : Nat), .int .u64 (limb (Y) 3 : Nat), .bool I], .int .i64 E]) ∧ Below w.heap.size w w') (w : World) (hG : GlobP w) (hN : GlobQ w) (hT : GTH w) (hQ : GG w) : Calls Tryd.prog 4 #[.agg #[.int .u64 (limb (k) 0 : Nat), .int .u64 (limb (k) 1 : Nat), .int .u64 (limb (k) 2 : Nat), .int .u64 (limb (k) 3 : Nat)], .agg #[.int .u64 (limb (x) 0 : Nat), .int .u64 (limb (x) 1 : Nat), .int .u64 (limb (x) 2 : Nat), .int .u64 (limb (x) 3 : Nat), .int .u64 (limb (y) 0 : Nat), .int .u64 (limb (y) 1 : Nat), .int .u64 (limb (y) 2 : Nat), .int .u64 (limb (y) 3 : Nat), .bool i]] w fun e w' => e = .returned (.bool true) ∧ Below w.heap.size w w' := by
  have K1 : Hid (∀ w, GlobP w → GlobQ w → GTH w → Calls Tryd.prog 16 #[.agg #[.int .u64 (limb (k) 0 : Nat), .int .u64 (limb (k) 1 : Nat), .int .u64 (limb (k) 2 : Nat), .int .u64 (limb (k) 3 : Nat)], .agg #[.int .u64 (limb (x) 0 : Nat), .int .u64 (limb (x) 1 : Nat), .int .u64 (limb (x) 2 : Nat), .int .u64 (limb (x) 3 : Nat), .int .u64 (limb (y) 0 : Nat), .int .u64 (limb (y) 1 : Nat), .int .u64 (limb (y) 2 : Nat), .int .u64 (limb (y) 3 : Nat), .bool i]] w fun e w' => e = .returned (.tuple #[.agg #[.int .u64 (limb (X) 0 : Nat), .int .u64 (limb (X) 1 : Nat), .int .u64 (limb (X) 2 : Nat), .int .u64 (limb (X) 3 : Nat), .int .u64 (limb (Y) 0 : Nat), .int .u64 (limb (Y) 1 : Nat), .int .u64 (limb (Y) 2 : Nat), .int .u64 (limb (Y) 3 : Nat), .bool I], .int .i64 E]) ∧ Below w.heap.size w w') := k1
  have K2 : Hid (∀ w, Calls Tryd.prog 17 #[.agg #[.int .u64 (limb (k) 0 : Nat), .int .u64 (limb (k) 1 : Nat), .int .u64 (limb (k) 2 : Nat), .int .u64 (limb (k) 3 : Nat)], .agg #[.int .u64 (limb (x) 0 : Nat), .int .u64 (limb (x) 1 : Nat), .int .u64 (limb (x) 2 : Nat), .int .u64 (limb (x) 3 : Nat), .int .u64 (limb (y) 0 : Nat), .int .u64 (limb (y) 1 : Nat), .int .u64 (limb (y) 2 : Nat), .int .u64 (limb (y) 3 : Nat), .bool i]] w fun e w' => e = .returned (.tuple #[.agg #[.int .u64 (limb (X) 0 : Nat), .int .u64 (limb (X) 1 : Nat), .int .u64 (limb (X) 2 : Nat), .int .u64 (limb (X) 3 : Nat), .int .u64 (limb (Y) 0 : Nat), .int .u64 (limb (Y) 1 : Nat), .int .u64 (limb (Y) 2 : Nat), .int .u64 (limb (Y) 3 : Nat), .bool I], .int .i64 E]) ∧ Below w.heap.size w w') := k2
  have K3 : Hid (∀ w, GlobP w → GTH w → GG w → Calls Tryd.prog 15 #[] w fun e w' => e = .returned (.bool true) ∧ Below w.heap.size w w') := fun w h1 h2 h3 => g3_any w h1 h2 h3
  obtain ⟨w0, hw0⟩ : ∃ wq, wq = ((w.alloc (.cells #[.int .u64 (limb (k) 0 : Nat), .int .u64 (limb (k) 1 : Nat), .int .u64 (limb (k) 2 : Nat), .int .u64 (limb (k) 3 : Nat)] 24)).alloc (.cells #[.int .u64 (limb (x) 0 : Nat), .int .u64 (limb (x) 1 : Nat), .int .u64 (limb (x) 2 : Nat), .int .u64 (limb (x) 3 : Nat), .int .u64 (limb (y) 0 : Nat), .int .u64 (limb (y) 1 : Nat), .int .u64 (limb (y) 2 : Nat), .int .u64 (limb (y) 3 : Nat), .bool i] 26)) := ⟨_, rfl⟩
  have H0 : Hid (OwnC w0 (w.heap.size) (numL k)) ∧ Hid (OwnC w0 (w.heap.size + 1) (ptL x y i)) ∧ Hid (Below w.heap.size w w0) ∧ Hid (GlobP w0) ∧ Hid (GlobQ w0) ∧ Hid (GTH w0) ∧ Hid (GG w0) := by
    rw [hw0]
    exact ⟨(OwnC.new' rfl).alloc, (OwnC.new' (by simp only [World.size_alloc])), below_alloc0 (below_alloc0 (Below.refl _ _) _) _, (hG).call (below_alloc0 (below_alloc0 (Below.refl _ _) _) _), (hN).call (below_alloc0 (below_alloc0 (Below.refl _ _) _) _), (hT).call (below_alloc0 (below_alloc0 (Below.refl _ _) _) _), (hQ).call (below_alloc0 (below_alloc0 (Below.refl _ _) _) _)⟩
  obtain ⟨P0_0, P1_0, W_0, G_0, N_0, T_0, Q_0⟩ := H0
  clear hG hN hT hQ k1 k2
  go_enter Tryd.func4, Tryd.ntmps4
  go_upto_region 1 with fail
  rw [← hw0]
  clear hw0
  go_upto_region 1 with fail
  go_cut [5, 6] (fun vq5 vq6 wx => ∃ bk5, vq5 = .pointer (some ⟨bk5, 0, none⟩) ∧ vq6 = .int .i64 E ∧ w0.heap.size ≤ bk5 ∧ OwnC wx bk5 (ptL X Y I) ∧ Below w0.heap.size w0 wx)
  case first =>
    obtain ⟨fP0z, fP00, fP01, fP02, fP03, fP0f⟩ := (P0_0.out).num
    obtain ⟨fP1z, fP10, fP11, fP12, fP13, fP14, fP15, fP16, fP17, fP18, fP1f⟩ := (P1_0.out).pt
    go_wp2_with fail
    clear fP0z fP00 fP01 fP02 fP03 fP0f fP1z fP10 fP11 fP12 fP13 fP14 fP15 fP16 fP17 fP18 fP1f
    refine (K1.out _ (G_0.out) (N_0.out) (T_0.out)).mono ?_
    rintro e wx0 ⟨rfl, hq0⟩
    go_wp2_with fail
    go_meet
    exact ⟨_, rfl, rfl, hq0.size, OwnC.new' rfl, below_alloc0 hq0 _⟩
  case rest =>
    obtain ⟨bk5, rfl, rfl, hle, hO, hB⟩ := hcut
    have P0_1 : Hid (OwnC wc (w.heap.size) (numL k)) := OwnC.call P0_0.out hB
    have P1_1 : Hid (OwnC wc (w.heap.size + 1) (ptL x y i)) := OwnC.call P1_0.out hB
    have W_1 : Hid (Below w.heap.size w wc) := below_call0 W_0.out hB
    have G_1 : Hid (GlobP wc) := G_0.out.call hB
    have N_1 : Hid (GlobQ wc) := N_0.out.call hB
    have T_1 : Hid (GTH wc) := T_0.out.call hB
    have Q_1 : Hid (GG wc) := Q_0.out.call hB
    have V5_1 : Hid (OwnC wc bk5 (ptL X Y I)) := hO
    clear hB P0_0 P1_0 W_0 G_0 N_0 T_0 Q_0
    clear hO hle
    generalize wc = w1 at P0_1 P1_1 W_1 G_1 N_1 T_1 Q_1 V5_1 ⊢
    go_upto_region 2 with fail
    go_cut [7, 8] (fun vq7 vq8 wx => ∃ bk7, vq7 = .pointer (some ⟨bk7, 0, none⟩) ∧ vq8 = .int .i64 E ∧ w1.heap.size ≤ bk7 ∧ OwnC wx bk7 (ptL X Y I) ∧ Below w1.heap.size w1 wx)
    case first =>
      obtain ⟨fP0z, fP00, fP01, fP02, fP03, fP0f⟩ := (P0_1.out).num
      obtain ⟨fP1z, fP10, fP11, fP12, fP13, fP14, fP15, fP16, fP17, fP18, fP1f⟩ := (P1_1.out).pt
      go_wp2_with fail
      clear fP0z fP00 fP01 fP02 fP03 fP0f fP1z fP10 fP11 fP12 fP13 fP14 fP15 fP16 fP17 fP18 fP1f
      refine (K2.out _).mono ?_
      rintro e wx0 ⟨rfl, hq0⟩
      go_wp2_with fail
      go_meet
      exact ⟨_, rfl, rfl, hq0.size, OwnC.new' rfl, below_alloc0 hq0 _⟩
    case rest =>
      obtain ⟨bk7, rfl, rfl, hle, hO, hB⟩ := hcut
      rename_i uj uk ul um un uo up uq ur us ut uu uv uw ux uy uz uA uB uC uD uE uF Kq1 hKq1
      clear uj uk ul um un uo up uq ur us ut uu uv uw ux uy uz uA uB uC uD uE uF
      have P0_2 : Hid (OwnC wc (w.heap.size) (numL k)) := OwnC.call P0_1.out hB
      have P1_2 : Hid (OwnC wc (w.heap.size + 1) (ptL x y i)) := OwnC.call P1_1.out hB
      have W_2 : Hid (Below w.heap.size w wc) := below_call0 W_1.out hB
      have G_2 : Hid (GlobP wc) := G_1.out.call hB
      have N_2 : Hid (GlobQ wc) := N_1.out.call hB
      have T_2 : Hid (GTH wc) := T_1.out.call hB
      have Q_2 : Hid (GG wc) := Q_1.out.call hB
      have V5_2 : Hid (OwnC wc bk5 (ptL X Y I)) := OwnC.call V5_1.out hB
      have V7_2 : Hid (OwnC wc bk7 (ptL X Y I)) := hO
      clear hB P0_1 P1_1 W_1 G_1 N_1 T_1 Q_1 V5_1
      clear hO hle
      generalize wc = w2 at P0_2 P1_2 W_2 G_2 N_2 T_2 Q_2 V5_2 V7_2 ⊢
      obtain ⟨fV5z, fV50, fV51, fV52, fV53, fV54, fV55, fV56, fV57, fV58, fV5f⟩ := (V5_2.out).pt
      obtain ⟨fV7z, fV70, fV71, fV72, fV73, fV74, fV75, fV76, fV77, fV78, fV7f⟩ := (V7_2.out).pt
      go_wp2_with fail
      clear fV5z fV50 fV51 fV52 fV53 fV54 fV55 fV56 fV57 fV58 fV5f fV7z fV70 fV71 fV72 fV73 fV74 fV75 fV76 fV77 fV78 fV7f
      refine (K3.out _ (G_2.out) (T_2.out) (Q_2.out)).mono ?_
      rintro e w3 ⟨rfl, hq⟩
      have P0_3 : Hid (OwnC w3 (w.heap.size) (numL k)) := OwnC.call P0_2.out hq
      have P1_3 : Hid (OwnC w3 (w.heap.size + 1) (ptL x y i)) := OwnC.call P1_2.out hq
      have W_3 : Hid (Below w.heap.size w w3) := below_call0 W_2.out hq
      have G_3 : Hid (GlobP w3) := G_2.out.call hq
      have N_3 : Hid (GlobQ w3) := N_2.out.call hq
      have T_3 : Hid (GTH w3) := T_2.out.call hq
      have Q_3 : Hid (GG w3) := Q_2.out.call hq
      have V5_3 : Hid (OwnC w3 bk5 (ptL X Y I)) := OwnC.call V5_2.out hq
      have V7_3 : Hid (OwnC w3 bk7 (ptL X Y I)) := OwnC.call V7_2.out hq
      clear hq P0_2 P1_2 W_2 G_2 N_2 T_2 Q_2 V5_2 V7_2
      go_wp2_with fail
      go_ret
      exact ⟨rfl, W_3.out⟩
theorem times_any (k x y : Nat) (i : Bool) (hk : k < R256) (hX : x < R256) (hY : y < R256) (w : World) (hG : GlobP w) (hN : GlobQ w) (hT : GTH w) (hQ : GG w) : Calls Tryd.prog 4 #[.agg #[.int .u64 (limb (k) 0 : Nat), .int .u64 (limb (k) 1 : Nat), .int .u64 (limb (k) 2 : Nat), .int .u64 (limb (k) 3 : Nat)], .agg #[.int .u64 (limb (x) 0 : Nat), .int .u64 (limb (x) 1 : Nat), .int .u64 (limb (x) 2 : Nat), .int .u64 (limb (x) 3 : Nat), .int .u64 (limb (y) 0 : Nat), .int .u64 (limb (y) 1 : Nat), .int .u64 (limb (y) 2 : Nat), .int .u64 (limb (y) 3 : Nat), .bool (i)]] w fun e w' => e = .returned (.bool true) ∧ Below w.heap.size w w' := by
  by_cases h1 : k < QQ
  · cases h2 : ptOk x y i with
    | true =>
      obtain ⟨a, rfl, rfl, rfl⟩ := pts_of h2
      exact times_go k _ _ _ _ _ _ 0 (fun w g n t => Mul_ok k a h1 w g n t) (fun w => mul3_A k a hk h1 w) w hG hN hT hQ
    | false =>
      refine times_go k x y 0 0 i false 30 (fun w g n t => ?_) (fun w => ?_) w hG hN hT hQ
      · rw [lit0.1, lit0.2.1, lit0.2.2.1, lit0.2.2.2]
        exact Mul_err k x y i 30 hk hX hY (by unfold smF; rw [if_pos h1, if_neg (by rw [h2]; decide)]) (by decide) w g n
      · rw [lit0.1, lit0.2.1, lit0.2.2.1, lit0.2.2.2]
        exact mul3_curve k x y i hk h1 hX hY h2 w
  · refine times_go k x y 0 0 i false 20 (fun w g n t => ?_) (fun w => ?_) w hG hN hT hQ
    · rw [lit0.1, lit0.2.1, lit0.2.2.1, lit0.2.2.2]
      exact Mul_err k x y i 20 hk hX hY (by unfold smF; rw [if_neg h1]) (by decide) w g n
    · rw [lit0.1, lit0.2.1, lit0.2.2.1, lit0.2.2.2]
      exact mul3_range k x y i hk h1 w
end Go.Proofs.YtgmfecncfekjfaaDoor
